import Derived.Test.YtafegfhpinpdoaaQfB
set_option maxRecDepth 100000
set_option maxHeartbeats 4000000
set_option linter.unusedVariables false
set_option linter.unusedSimpArgs false
set_option linter.unusedSectionVars false
set_option linter.unnecessarySimpa false
namespace Go.Proofs.Ytafegfhpinpdoaa
open Go.Proofs.Try
section
open Go.RowKit
attribute [local go_sem ↓] Go.wp_at_zero Go.wp_at_succ
theorem PIs.rows64 {w:World} {t n:Int} {l:Nat} {f:WF} {a:PF} (h:PIs w t n f a):f.rl≤64∧f.cl≤64:=by
 have h1:=h.at_.rl;have h2:=h.at_.cl;have h3:=h.pf;have h4:=h.ok
 subst h3
 unfold WF.pf at h4
 generalize hr:f.rows=rows at *
 generalize hc:f.cells=cells at *
 generalize f.g=g at *
 generalize f.z=z at *
 generalize f.c=c at *
 have key:rows.length≤64∧cells.length≤64:=by
  generalize hp:(⟨z,c,g,rows,cells⟩:PF)=p at h4
  cases h4 with
  | zero=>cases hp;exact ⟨by decide,by decide⟩
  | bool h=>cases hp;exact ⟨by decide,by decide⟩
  | cost c h h0 h1=>cases hp;exact ⟨by decide,by decide⟩
  | facts m g rows h hn hg=>cases hp;exact ⟨by rw [hg.hl];exact hg.hm,by decide⟩
  | cells m cs h hn hv=>cases hp;exact ⟨by decide,by rw [hv.len];exact hv.le⟩
 omega
end
section
open Go.RowKit
theorem one4_is (m:Nat) (hm:m≤64) (w:World):Calls prog 86 #[.int .i64 (m:Int)] w (rP (eM m) 0 w):=by
 have h0:nU (m:Int)=0:=by unfold nU;rw [if_neg (by omega)]
 have:=one_any (m:Int) w 0 h0
 rwa [show vN (m:Int)=eM m by unfold vN;rw [if_pos h0,Int.toNat_natCast]] at this
theorem qP (t n:Int) (sa:Option Addr) (sc:Nat) (w:World) (hp:bS t n 0=true) :
  Calls prog 76 #[.agg #[.int .i64 t,.int .i64 n,.slice sa 0 sc]] w (jG (.one t n) (.one (fQ t n)) w):=by
 refine cG (args:=[.agg #[.int .i64 t,.int .i64 n,.slice sa 0 sc]]) func76 rfl ntmps76 rfl ?_
 have hS:=St.start w
 refine aO (aR (bQ (cs:=[_,_,_]) hS rfl rfl rfl fun B1 W1 hS=>bU (cs:=[_,_,_,_,_,_]) hS zeroValue56 rfl rfl fun B2 W2 hS=>aQ (XF.thenN (aO (aR (bU (cs:=[_,_,_,_,_,_]) hS zeroValue56 rfl rfl fun B3 W3 hS=>aQ (XF.thenN (aO (aO (aR (aN (o':=0) dZ rfl rfl rfl (aT isAgg22 rfl (aJ (hS.at_ 2 rfl) rfl) rfl (aQ (XF.thenN (bI (aO (aR (cM rfl rfl rfl (aB rfl rfl (aQ (XF.thenN (bC rfl (fun hc=>?_) (fun hc=>?_)))))))))))))))))))))))
 ·have hc6:=of_decide_eq_true hc;clear hc
  have e3:t=3:=hc6
  subst e3
  obtain ⟨m,rfl,hm⟩:=Ct hp (.inl rfl)
  refine aR (aN (o':=1) eS rfl rfl rfl (aT isAgg3 rfl (aJ (hS.at_ 2 rfl) rfl) rfl ?_))
  have hsz:=hS.below.size
  refine dC (vs:=[_]) hS goes_85 rfl ((oneA_is m _ _ (rO hm).1 _ (rO hm).2).mono fun _ _ h=>Ch.ret h) rfl ?_
  rintro e W4 ⟨a1,c1,rfl,hv,hl,hb⟩
  refine ⟨_,rfl,hb,fun hS'=>?_⟩
  clear hS;have hS:=hS';clear hS'
  refine aI rfl rfl (cI rfl rfl rfl (cI rfl rfl rfl (aN (o':=2) gD rfl rfl rfl (bB (i:=0) (vs:=[_,_]) (cs':=[_,_,_,_,_,_]) (O':=[_,_,_]) hS sizeOf52 rfl rfl rfl rfl rfl rfl rfl fun W5 hS=>aQ (XF.blkN (XF.thenN (aO (aR (aU (vs:=[_,_,_,_,_,_]) isAgg56 sizeOf56 rfl (aK.own (j:=0) (m:=6) (hS.at_ 0 rfl) rfl) rfl (bB (i:=1) (vs:=[_,_,_,_,_,_]) (cs':=[_,_,_,_,_,_]) (O':=[_,_,_]) hS sizeOf56 rfl rfl rfl rfl rfl rfl rfl fun W6 hS=>aQ (XF.thenN (bM (XF.res (dY (vs:=[_,_,_,_,_,_]) results76 isAgg56 sizeOf56 rfl (aK.own (j:=0) (m:=6) (hS.at_ 1 rfl) rfl)) ?_)))))))))))))
  exact hY (Lp hm (hv.agree (fun ad e=>(hl ad e).1) (hS.since 0 rfl)) (fun ad e=>Nat.le_trans hsz (hl ad e).1)) hS.below
 ·have hc6:=of_decide_eq_false hc;clear hc
  refine aO (aR (cM rfl rfl rfl (aB rfl rfl (aQ (XF.thenN (bC rfl (fun hc=>?_) (fun hc=>?_)))))))
  ·have hc15:=of_decide_eq_true hc;clear hc
   have e4:t=4:=hc15
   subst e4
   obtain ⟨m,rfl,hm⟩:=Ct hp (.inr rfl)
   refine aR (aN (o':=1) eS rfl rfl rfl (aT isAgg3 rfl (aJ (hS.at_ 2 rfl) rfl) rfl ?_))
   have hsz:=hS.below.size
   refine dC (vs:=[_]) hS goes_86 rfl (one4_is m hm _) rfl ?_
   rintro e W7 ⟨a1,c1,rfl,hv,hl,hb⟩
   refine ⟨_,rfl,hb,fun hS'=>?_⟩
   clear hS;have hS:=hS';clear hS'
   refine aI rfl rfl (cI rfl rfl rfl (cI rfl rfl rfl (aN (o':=4) dJ rfl rfl rfl (dK (i:=0) (cs':=[_,_,_,_,_,_]) (O':=[_,_,_]) hS sizeOf53 rfl rfl rfl rfl rfl rfl rfl fun W8 hS=>aQ (XF.blkN (XF.thenN (aO (aR (aU (vs:=[_,_,_,_,_,_]) isAgg56 sizeOf56 rfl (aK.own (j:=0) (m:=6) (hS.at_ 0 rfl) rfl) rfl (bB (i:=1) (vs:=[_,_,_,_,_,_]) (cs':=[_,_,_,_,_,_]) (O':=[_,_,_]) hS sizeOf56 rfl rfl rfl rfl rfl rfl rfl fun W9 hS=>aQ (XF.thenN (bM (XF.res (dY (vs:=[_,_,_,_,_,_]) results76 isAgg56 sizeOf56 rfl (aK.own (j:=0) (m:=6) (hS.at_ 1 rfl) rfl)) ?_)))))))))))))
   exact hY (Lq hm (hv.agree (fun ad e=>(hl ad e).1) (hS.since 0 rfl)) (fun ad e=>Nat.le_trans hsz (hl ad e).1)) hS.below
  ·have hc15:=of_decide_eq_false hc;clear hc
   refine aO (aR (cM rfl rfl rfl (aB rfl rfl (aQ (XF.thenN (bC rfl (fun hc=>absurd (of_decide_eq_true hc) (by exact mF hp)) (fun hc=>?_)))))))
   have hc:=of_decide_eq_false hc
   refine bH (XF.blkN (XF.thenN (aO (aR (aU (vs:=[_,_,_,_,_,_]) isAgg56 sizeOf56 rfl (aK.own (j:=0) (m:=6) (hS.at_ 0 rfl) rfl) rfl (bB (i:=1) (vs:=[_,_,_,_,_,_]) (cs':=[_,_,_,_,_,_]) (O':=[_,_,_]) hS sizeOf56 rfl rfl rfl rfl rfl rfl rfl fun W10 hS=>aQ (XF.thenN (bM (XF.res (dY (vs:=[_,_,_,_,_,_]) results76 isAgg56 sizeOf56 rfl (aK.own (j:=0) (m:=6) (hS.at_ 1 rfl) rfl)) ?_)))))))))
   exact hY (Lo hp hc6 hc15) hS.below
theorem Ir (t n u m:Int) (a1 a2:Option Addr) (c1 c2 b off sc:Nat) (w:World) (hs1:S3 w b off ⟨t,n,a1,0,c1⟩) (hs2:S3 w b (off+3) ⟨u,m,a2,0,c2⟩) (hp1:bS t n 0=true) (hp2:bS u m 0=true) :
  Calls prog 76 #[.agg #[.int .i64 5,.int .i64 0,.slice (some ⟨b,off,none⟩) 2 sc]] w (jG (.two t n u m) (.two (fQ t n) (fQ u m)) w):=by
 refine cG (args:=[.agg #[.int .i64 5,.int .i64 0,.slice (some ⟨b,off,none⟩) 2 sc]]) func76 rfl ntmps76 rfl ?_
 have hS:=St.start w
 refine aO (aR (bQ (cs:=[_,_,_]) hS rfl rfl rfl fun B1 W1 hS=>bU (cs:=[_,_,_,_,_,_]) hS zeroValue56 rfl rfl fun B2 W2 hS=>aQ (XF.thenN (aO (aR (bU (cs:=[_,_,_,_,_,_]) hS zeroValue56 rfl rfl fun B3 W3 hS=>aQ (XF.thenN (aO (aO (aR (aN (o':=0) dZ rfl rfl rfl (aT isAgg22 rfl (aJ (hS.at_ 2 rfl) rfl) rfl (aQ (XF.thenN (bI (aO (aR (cM rfl rfl rfl (aB rfl rfl (aQ (XF.thenN (bC rfl (fun hc=>absurd (of_decide_eq_true hc) (by omega)) (fun hc=>?_)))))))))))))))))))))))
 have hc:=of_decide_eq_false hc
 refine aO (aR (cM rfl rfl rfl (aB rfl rfl (aQ (XF.thenN (bC rfl (fun hc=>absurd (of_decide_eq_true hc) (by omega)) (fun hc=>?_)))))))
 have hc:=of_decide_eq_false hc
 refine aO (aR (cM rfl rfl rfl (aB rfl rfl (aQ (XF.thenN (bC rfl (fun hc=>?_) (fun hc=>absurd (of_decide_eq_false hc) (by omega))))))))
 have hc:=of_decide_eq_true hc
 have hsz:=hS.below.size
 have k1:=aK.agree hS.agree (Nat.zero_le _) hs1.cells
 have k2:=aK.agree hS.agree (Nat.zero_le _) hs2.cells
 refine xI bY 11 hS rfl rfl (by kernel_rfl) (by kernel_rfl) (by kernel_rfl) (fun d hd=>by cases hd) (cB 1 rfl 1 rfl rfl (fun w hw=>aV (o':=2) dM rfl rfl) rfl (bD 2 rfl 26 0 rfl rfl rfl (fun w hw=>aX isAgg23 rfl ((aP hw 0).cell (Nat.zero_le _) (aJ (hS.at_ 2 rfl) rfl))) rfl (bD 3 rfl 27 1 rfl rfl rfl (fun w hw=>bA (j:=0) underlying23 sizeOf25 rfl rfl rfl (by omega) (Nat.add_zero _)) rfl (bD 4 rfl 28 2 rfl rfl rfl (fun w hw=>bL (vs:=[_,_,_]) isAgg25 sizeOf25 rfl (aK.agree (aP hw 0) (Nat.zero_le _) (by assumption))) rfl ?_))))
 refine aM 5 rfl (eY W3.heap.size (.one t n) (.one (fQ t n))) (eO) (cP [isV _] rfl zG (aS rfl) ⟨cD (aL 3 (aA rfl rfl rfl)),trivial⟩ (fun vs w' hb hh=>by have e:=bZ (us:=[_]) hh;subst e;exact fS hb.size (qP _ _ _ _ _ hp1)) (aD rfl)) ?_
 refine cB 6 rfl 1 rfl rfl (fun w hw=>aV (o':=2) dM rfl rfl) rfl (bD 7 rfl 31 5 rfl rfl rfl (fun w hw=>aX isAgg23 rfl ((aP hw 0).cell (Nat.zero_le _) (aJ (hS.at_ 2 rfl) rfl))) rfl (bD 8 rfl 32 6 rfl rfl rfl (fun w hw=>bA (j:=1) underlying23 sizeOf25 rfl rfl rfl (by omega) rfl) rfl (bD 9 rfl 33 7 rfl rfl rfl (fun w hw=>bL (vs:=[_,_,_]) isAgg25 sizeOf25 rfl (aK.agree (aP hw 0) (Nat.zero_le _) (by assumption))) rfl ?_)))
 refine aM 10 rfl (eY W3.heap.size (.one u m) (.one (fQ u m))) (eO) (cP [isV _] rfl zG (aS rfl) ⟨cD (aL 8 (aA rfl rfl rfl)),trivial⟩ (fun vs w' hb hh=>by have e:=bZ (us:=[_]) hh;subst e;exact fS hb.size (qP _ _ _ _ _ hp2)) (aD rfl)) ?_
 refine aM 11 rfl (eY W3.heap.size (.two t n u m) (.two (fQ t n) (fQ u m))) (eO) (cP [eY _ (.one t n) (.one (fQ t n)),eY _ (.one u m) (.one (fQ u m))] rfl goes_80 (aS rfl) ⟨cD (aL 4 (aA rfl rfl rfl)),cD (aL 9 (aA rfl rfl rfl)),trivial⟩ (fun vs w' hb hh=>Eu hb.size hh) (aD rfl)) (dB ?_)
 intro W4 hbR hS'
 clear hS;have hS:=hS';clear hS'
 refine aG (aG (aG (aG ?_)))
 refine dR ?_;rintro _ ⟨v1,rfl,hn1⟩
 refine aG (aG (aG (aG ?_)))
 refine dR ?_;rintro _ ⟨v2,rfl,hn2⟩
 refine dR ?_;rintro _ ⟨v3,rfl,hn3⟩
 refine cH (bB (i:=0) (vs:=[_,_,_,_,_,_]) (cs':=[_,_,_,_,_,_]) (O':=[_,_,_]) hS sizeOf56 rfl rfl rfl rfl rfl rfl rfl fun W5 hS=>aQ (XF.blkN (XF.thenN (aO (aR (aU (vs:=[_,_,_,_,_,_]) isAgg56 sizeOf56 rfl (aK.own (j:=0) (m:=6) (hS.at_ 0 rfl) rfl) rfl (bB (i:=1) (vs:=[_,_,_,_,_,_]) (cs':=[_,_,_,_,_,_]) (O':=[_,_,_]) hS sizeOf56 rfl rfl rfl rfl rfl rfl rfl fun W6 hS=>aQ (XF.thenN (bM (XF.res (dY (vs:=[_,_,_,_,_,_]) results76 isAgg56 sizeOf56 rfl (aK.own (j:=0) (m:=6) (hS.at_ 1 rfl) rfl)) ?_))))))))))
 exact ⟨v3,rfl,(hn3.agree (hS.since 0 rfl)).mono hsz,hS.below⟩
attribute [local go_sem ↓] Go.wp_at_zero Go.wp_at_succ
theorem yE (t n:Int) (a:Option Addr) (l c0:Nat) (ht:t≠5) (w:World) :
  Calls prog 66 #[.agg #[.int .i64 t,.int .i64 n,.slice a l c0]] w fun e w'=>e = .returned (.agg #[.bool true,.int .i64 0,.int .u64 0,.slice none 0 0,.slice none 0 0,.slice none 0 0])∧Below w.heap.size w w':=tI t n a l c0 ht w
theorem Is (w:World) :
  Calls prog 80 #[.agg #[.bool true,.int .i64 0,.int .u64 0,.slice none 0 0,.slice none 0 0,.slice none 0 0],.agg #[.bool true,.int .i64 0,.int .u64 0,.slice none 0 0,.slice none 0 0,.slice none 0 0]] w fun e w'=>∃ blk,e = .returned (.agg #[.bool false,.int .i64 0,.int .u64 0,.slice none 0 0,.slice none 0 0,.slice (some ⟨blk,0,none⟩) 2 2])∧W6 w' blk 0 pV∧W6 w' blk 6 pV∧w.heap.size≤blk∧Below w.heap.size w w':=G7 pV pV w
set_option maxHeartbeats 8000000 in
theorem Ev (d:Nat) (sa:Option Addr) (sc:Nat) (p q:SV) (w:World) (hsp:SIn w (d+1) (.mk ⟨5,0,sa,2,sc⟩ [p,q])) (hp:p.pl=true) (hq:q.pl=true) :
  Calls prog 66 #[.agg #[.int .i64 5,.int .i64 0,.slice sa 2 sc]] w (jG (.two p.f.tag p.f.dim q.f.tag q.f.dim) (.two dU dU) w):=by
 obtain ⟨_,b,off,ha,hb,hp3,hq3,_,_⟩:=hsp.two
 obtain rfl:sa=some ⟨b,off,none⟩:=ha
 obtain ⟨⟨pt,pn,pa,pl,pc⟩,pps⟩:=p
 obtain ⟨⟨qt,qn,qa,ql,qc⟩,qps⟩:=q
 have hp5:=Lib.hid (uN (show bS pt pn pl=true from hp));have hq5:=Lib.hid (uN (show bS qt qn ql=true from hq))
 obtain ⟨t0,t1⟩:=mX w #[.int .i64 5,.int .i64 0,.slice (some ⟨b,off,none⟩) 2 sc] #[.bool false,.int .i64 0,.int .u64 0,.slice none 0 0,.slice none 0 0,.slice none 0 0] 25 56
 have T0:=Lib.hid t0;have T1:=Lib.hid t1
 have hB:=Lib.hid (Kc w #[.int .i64 5,.int .i64 0,.slice (some ⟨b,off,none⟩) 2 sc] #[.bool false,.int .i64 0,.int .u64 0,.slice none 0 0,.slice none 0 0,.slice none 0 0] 25 56)
 have hsz:((w.alloc (.cells #[.int .i64 5,.int .i64 0,.slice (some ⟨b,off,none⟩) 2 sc] 25)).alloc (.cells #[.bool false,.int .i64 0,.int .u64 0,.slice none 0 0,.slice none 0 0,.slice none 0 0] 56)).heap.size=w.heap.size+1+1:=by simp
 have n1:¬ (w.heap.size+1=w.heap.size):=by omega
 have n2:¬ (w.heap.size+1=b):=by omega
 obtain ⟨W0,hW0⟩:∃ W,(w.alloc (.cells #[.int .i64 5,.int .i64 0,.slice (some ⟨b,off,none⟩) 2 sc] 25)).alloc (.cells #[.bool false,.int .i64 0,.int .u64 0,.slice none 0 0,.slice none 0 0,.slice none 0 0] 56)=W:=⟨_,rfl⟩
 rw [hW0] at hB T0 T1 hsz
 have HSZ:=Lib.hid hsz
 have HP3:=Lib.hid (S3.below hp3 hB.out);have HQ3:=Lib.hid (S3.below hq3 hB.out)
 obtain ⟨x0,x1,x2⟩:=fG T0.out
 obtain ⟨y0,y1,y2,y3,y4,y5⟩:=kD T1.out
 have EN:Hid (∀ W:World,Below W0.heap.size W0 W→W.cell? ⟨w.heap.size,2,none⟩=some (.slice (some ⟨b,off,none⟩) 2 sc)∧W.cell? ⟨b,off,none⟩=some (.int .i64 pt)∧W.cell? ⟨b,off+1,none⟩=some (.int .i64 pn)∧W.cell? ⟨b,off+2,none⟩=some (.slice pa pl pc)∧W.cell? ⟨b,off+3,none⟩=some (.int .i64 qt)∧W.cell? ⟨b,off+4,none⟩=some (.int .i64 qn)∧W.cell? ⟨b,off+5,none⟩=some (.slice qa ql qc)):=fun W h=>by
  obtain ⟨a0,a1,a2⟩:=fG (cS T0.out h)
  obtain ⟨d0,d1,d2⟩:=HP3.out.below h;obtain ⟨e0,e1,e2⟩:=HQ3.out.below h
  exact ⟨a2,d0,d1,d2,e0,e1,e2⟩
 obtain ⟨m0,m1,m2,m3,m4,m5,m6⟩:=EN.out _ (Below.refl _ _)
 clear hsp hp hq hp3 hq3 t0 t1 hsz hb
 have D0:Hid (Below W0.heap.size W0 W0.drew):=(Below.refl _ _).drew
 go_enter func66,ntmps66
 go_wp2_with fail
 go_region_held3 (fun w'=>w'.cell? ⟨w.heap.size,2,none⟩=some (.slice (some ⟨b,off,none⟩) 2 sc)∧w'.cell? ⟨b,off,none⟩=some (.int .i64 pt)∧w'.cell? ⟨b,off+1,none⟩=some (.int .i64 pn)∧w'.cell? ⟨b,off+2,none⟩=some (.slice pa pl pc)∧w'.cell? ⟨b,off+3,none⟩=some (.int .i64 qt)∧w'.cell? ⟨b,off+4,none⟩=some (.int .i64 qn)∧w'.cell? ⟨b,off+5,none⟩=some (.slice qa ql qc))
  (first | (simp only [World.cell?_setCell_far,ne_eq,n1,n2,not_false_eq_true];with_reducible exact EN.out _ D3.out) | with_reducible exact EN.out _ D0.out | with_reducible exact EN.out _ D1.out | with_reducible exact EN.out _ D2.out | with_reducible exact EN.out _ D3.out | with_reducible exact EN.out _ (Below.refl _ _) | fail)
  (first | (go_at_call 66;with_reducible refine (yE pt pn pa pl pc hp5.out W0.drew).mono ?_;rintro e z1 ⟨rfl,hz1⟩;have D1:=Lib.hid (D0.out.trans (hz1.mono D0.out.size))) | (go_at_call 66;with_reducible refine (yE qt qn qa ql qc hq5.out z1).mono ?_;rintro e z2 ⟨rfl,hz2⟩;have D2:=Lib.hid (D1.out.trans (hz2.mono D1.out.size))) | (go_at_call 80;with_reducible refine (Is z2).mono ?_;rintro e z3 ⟨blk,rfl,hx6,hy6,hge,hz3⟩;have D3:=Lib.hid (D2.out.trans (hz3.mono D2.out.size));have XO:=Lib.hid (cS T1.out D3.out);obtain ⟨o0,o1,o2,o3,o4,o5⟩:=kD XO.out;have f0:=jF XO.out 0;have f1:=jF XO.out 1;have f2:=jF XO.out 2;have f3:=jF XO.out 3;have f4:=jF XO.out 4;have f5:=jF XO.out 5) | fail)
 all_goals
  have NS:=Lib.hid (six_set (v0:=.bool false) (v1:=.int .i64 0) (v2:=.int .u64 0) (v3:=.slice none 0 0) (v4:=.slice none 0 0) (v5:=.slice (some ⟨blk,0,none⟩) 2 2) XO.out)
  obtain ⟨s0,s1,s2,s3,s4,s5⟩:=kD NS.out
  have hle:=D2.out.size
  have hge2:w.heap.size+1+1≤blk:=by have:=HSZ.out;omega
  have HX6:=Lib.hid hx6;have HY6:=Lib.hid hy6
  have HB3:=Lib.hid (hB.out.trans (D3.out.mono hB.out.size))
  clear hx6 hy6 f0 f1 f2 f3 f4 f5 o0 o1 o2 o3 o4 o5
  go_wp2_with fail
  refine bodyPost_ret (v:=.agg #[.bool false,.int .i64 0,.int .u64 0,.slice none 0 0,.slice none 0 0,.slice (some ⟨blk,0,none⟩) 2 2]) ?_ rfl ⟨oI blk,rfl,?_,?_⟩
  rotate_left
  ·exact (vQ (HX6.out.above (n:=w.heap.size+1+1) hge2 (vP _ _ _ _ _ _ (nO.refl _ _) (by omega))) (HY6.out.above (n:=w.heap.size+1+1) hge2 (vP _ _ _ _ _ _ (nO.refl _ _) (by omega))) hge2 (mE _ _ _ _) (mE _ _ _ _)).mono (by omega)
  ·exact Er _ _ _ _ _ _ HB3.out (by omega)
  ·simp [results,results66,go_sem,s0,s1,s2,s3,s4,s5]
end
section
open Go.RowKit
theorem PIs.pw {w:World} {t n:Int} {f:WF} {x:PF} (h:PIs w t n f x):eU t n f=true:=by
 obtain ⟨ez,ec,eg,er,ex⟩:=nA h.pf
 have hrl:=h.at_.rl;have hcl:=h.at_.cl;have hpl:=h.pl
 rw [er] at hrl;rw [ex] at hcl
 unfold eU hH hC
 rw [ez,ec,eg,er,ex,hpl,← hrl,← hcl]
 cases h.ok with
 | zero=>simp [dU]
 | bool ht=>rw [ht];simp [pC]
 | cost c ht h0 h1=>rw [ht];simp [pC,h0,h1]
 | facts m g rows ht hn hg=>rw [ht,hn];simp [pF,qL hg]
 | cells m cs ht hn hv=>rw [ht,hn];simp [pX,hv.chk]
theorem SIs.sin {w:World} {S:PS} {f:SF} (h:SIs w S f) (hok:S.ok):∃ s:SV,s.f=f∧SIn w 2 s∧dD s=0:=by
 cases S with
 | one t n =>
  obtain ⟨a,c,rfl⟩:=h
  exact ⟨.mk ⟨t,n,a,0,c⟩ [],rfl,⟨rfl,.inl rfl,by simp⟩,by
   show (if bS t n 0=true then (0:Int) else _)=0
   rw [if_pos (show bS t n 0=true from hok)]⟩
 | two t n u m =>
  obtain ⟨b,off,c,a1,c1,a2,c2,rfl,h1,h2⟩:=h
  refine ⟨.mk ⟨5,0,some ⟨b,off,none⟩,2,c⟩ [.mk ⟨t,n,a1,0,c1⟩ [],.mk ⟨u,m,a2,0,c2⟩ []],rfl,⟨rfl,.inr ⟨b,off,rfl,fun i p hi=>?_⟩,?_⟩,?_⟩
  ·match i,hi with
   | 0,hi=>simp at hi;subst hi;simpa [SV.f] using h1
   | 1,hi=>simp at hi;subst hi;simpa [SV.f] using h2
  ·intro p hp
   simp at hp
   rcases hp with rfl | rfl<;>exact ⟨rfl,.inl rfl,by simp⟩
  ·have e1:SV.pl (.mk ⟨t,n,a1,0,c1⟩ [])=true:=hok.1
   have e2:SV.pl (.mk ⟨u,m,a2,0,c2⟩ [])=true:=hok.2
   simp only [dD]
   rw [if_neg (by simp [bS]),if_pos ⟨trivial,trivial,rfl,by simp [e1,e2]⟩]
theorem XIs.two {w:World} {t n u m:Int} {f:WF} {a b:PF} (h:XIs w (.two t n u m) f (.two a b)):∃ (ra ca:Option Addr) (rc cc pc fb fo:Nat) (f1 f2:WF),f=⟨false,0,0,ra,0,rc,[],ca,0,cc,[],some ⟨fb,fo,none⟩,2,pc⟩∧W6 w fb fo f1∧W6 w fb (fo+6) f2∧PIs w t n f1 a∧PIs w u m f2 b:=by
 obtain ⟨h1,h2,h3,h4,blk,off,g,k,h5,h6,h7,h8,h9⟩:=h
 obtain ⟨z,c,gg,ra,rl,rc,rows,ca,cl,cc,cells,pa,pl,pc⟩:=f
 simp only [WF.pf,pC,PF.mk.injEq] at h1
 obtain ⟨rfl,rfl,rfl,rfl,rfl⟩:=h1
 dsimp only at h2 h3 h4 h5
 subst h2;subst h3;subst h4;subst h5
 exact ⟨ra,ca,rc,cc,pc,blk,off,g,k,rfl,h6,h7,h8,h9⟩
theorem two_win {w:World} {t n u m:Int} {ra ca:Option Addr} {rc cc pc fb fo:Nat} {f1 f2:WF} {a b:PF} (h6:W6 w fb fo f1) (h7:W6 w fb (fo+6) f2) (h8:PIs w t n f1 a) (h9:PIs w u m f2 b) :
  WIn w 2 (.mk ⟨false,0,0,ra,0,rc,[],ca,0,cc,[],some ⟨fb,fo,none⟩,2,pc⟩ [.mk f1 [],.mk f2 []]):=by
 refine ⟨⟨.inl rfl,rfl,(by show (0:Nat) < _;decide),(fun r hr=>by cases hr),.inl rfl,rfl,(fun c hc=>by cases hc),(by show (0:Nat)≤_;decide)⟩,rfl,.inr ⟨fb,fo,rfl,fun i p hi=>?_⟩,fun p hp=>?_⟩
 ·match i,hi with
  | 0,hi=>simp at hi;subst hi;simpa [WV.f] using h6
  | 1,hi=>simp at hi;subst hi;simpa [WV.f] using h7
 ·simp at hp
  rcases hp with rfl | rfl
  ·exact ⟨h8.at_,h8.pl.symm,.inl rfl,by simp⟩
  ·exact ⟨h9.at_,h9.pl.symm,.inl rfl,by simp⟩
theorem Ew {w:World} {t n u m:Int} {ra ca:Option Addr} {a1 a2:Option Addr} {c1 c2 rc cc pc fb fo:Nat} {f1 f2:WF} {a b:PF} (h8:PIs w t n f1 a) (h9:PIs w u m f2 b) :
  gA (.mk ⟨t,n,a1,0,c1⟩ []) (.mk ⟨u,m,a2,0,c2⟩ []) ⟨false,0,0,ra,0,rc,[],ca,0,cc,[],some ⟨fb,fo,none⟩,2,pc⟩ [.mk f1 [],.mk f2 []]=true:=by
 have e1:eU t n f1=true:=h8.pw
 have e2:eU u m f2=true:=h9.pw
 simp [gA,hH,hC,pwAt,SV.f,WV.f,e1,e2]
section
variable {w:World} {S:PS} {sf:SF} {f g:WF} {x y:PX}
theorem G9 {t n u m:Int} {b off sc:Nat} {a1 a2:Option Addr} {c1 c2:Nat} (h1:S3 w b off ⟨t,n,a1,0,c1⟩) (h2:S3 w b (off+3) ⟨u,m,a2,0,c2⟩):SIn w 2 (.mk ⟨5,0,some ⟨b,off,none⟩,2,sc⟩ [.mk ⟨t,n,a1,0,c1⟩ [],.mk ⟨u,m,a2,0,c2⟩ []]):=by
 refine ⟨rfl,.inr ⟨b,off,rfl,fun i p hi=>?_⟩,?_⟩
 ·match i,hi with
  | 0,hi=>simp at hi;subst hi;simpa [SV.f] using h1
  | 1,hi=>simp at hi;subst hi;simpa [SV.f] using h2
 ·intro p hp
  simp at hp
  rcases hp with rfl | rfl<;>exact ⟨rfl,.inl rfl,by simp⟩
theorem yF (hs:SIs w S sf) (hok:S.ok):Calls prog 34 #[sf.val] w fun e w'=>e = .returned (.int .i64 0)∧Below w.heap.size w w':=by
 obtain ⟨s,rfl,h1,h2⟩:=hs.sin hok
 exact sJ 2 s 0 w h1 h2
theorem oneA_ok (hs:SIs w S sf) (hok:S.ok):Calls prog 76 #[sf.val] w (jG S (eV S) w):=by
 cases S with
 | one t n =>
  obtain ⟨a,c,rfl⟩:=hs
  exact qP _ _ _ _ _ hok
 | two t n u m =>
  obtain ⟨b,off,c,a1,c1,a2,c2,rfl,h1,h2⟩:=hs
  exact Ir _ _ _ _ _ _ _ _ _ _ _ _ h1 h2 hok.1 hok.2
theorem Ls (hs:SIs w S sf) (hok:S.ok):Calls prog 66 #[sf.val] w (jG S (eN S) w):=by
 cases S with
 | one t n =>
  obtain ⟨a,c,rfl⟩:=hs
  refine (tI t n a 0 c (uN hok) w).mono ?_
  rintro e w' ⟨rfl,hb⟩
  exact ⟨pV,rfl,mE _ _ _ _,hb⟩
 | two t n u m =>
  obtain ⟨b,off,c,a1,c1,a2,c2,rfl,h1,h2⟩:=hs
  exact Ev 1 _ _ _ _ w (G9 h1 h2) hok.1 hok.2
end
section
variable {w:World} {S:PS} {sf:SF} {f g:WF} {x y:PX}
end
def tZ (w:World) (a:Option Addr) (fs:List WF):Prop:=fs=[]∨∃ b off,a=some ⟨b,off,none⟩∧∀ (i:Nat) f,fs[i]?=some f→W6 w b (off+i * 6) f
def Ha (S:PS) (x:PX) (e0:Int) (w:World) (e:Ending) (w':World):Prop:=∃ f:WF,e = .returned (.tuple #[f.val,.int .i64 e0])∧kU w.heap.size w' S f x∧Below w.heap.size w w'
theorem OneW_ok (S:PS) (sf:SF) (w:World) (hs:SIs w S sf) (hok:S.ok) :
  Calls prog 64 #[sf.val] w (Ha S (eV S) 0 w):=by
 refine cG (args:=[sf.val]) func64 rfl ntmps64 rfl ?_
 have hS:=St.start w
 refine aO (aR (bQ (cs:=[_,_,_]) hS rfl rfl rfl fun B1 W1 hS=>bU (cs:=[_,_,_,_,_,_]) hS zeroValue56 rfl rfl fun B2 W2 hS=>aB rfl rfl (aQ (XF.thenN (aO (aO (aR (aU (vs:=[_,_,_]) isAgg25 sizeOf25 rfl (aK.own (j:=0) (m:=3) (hS.at_ 1 rfl) rfl) rfl (bT (vs:=[_]) hS uB rfl (yF (hs.below hS.below) hok) rfl fun W3 hS=>aB rfl rfl (aQ (XF.thenN (aO (aR (aI rfl rfl (cN rfl rfl rfl (aQ (XF.thenN (bC rfl (fun hc=>absurd (of_decide_eq_true hc) (by omega)) (fun hc=>?_)))))))))))))))))))
 have hc:=of_decide_eq_false hc
 refine bH (XF.thenN (aO (aR (aU (vs:=[_,_,_]) isAgg25 sizeOf25 rfl (aK.own (j:=0) (m:=3) (hS.at_ 1 rfl) rfl) rfl ?_))))
 have hsz:=hS.below.size
 refine dC (vs:=[_]) hS zG rfl (oneA_ok (hs.below hS.below) hok) rfl ?_
 rintro e W4 ⟨f,rfl,hn,hb⟩
 refine ⟨_,rfl,hb,fun hS'=>?_⟩
 clear hS;have hS:=hS';clear hS'
 refine bB (i:=0) (vs:=[_,_,_,_,_,_]) (cs':=[_,_,_,_,_,_]) (O':=[_,_]) hS sizeOf56 rfl rfl rfl rfl rfl rfl rfl fun W5 hS=>aB rfl rfl (aQ (XF.thenN (bM (XF.res (jV (vs:=[_,_,_,_,_,_]) results64 isAgg56 sizeOf56 rfl (aK.own (j:=0) (m:=6) (hS.at_ 0 rfl) rfl) rfl) ?_))))
 exact ⟨f,rfl,(hn.agree (hS.since 0 rfl)).mono hsz,hS.below⟩
theorem Lt (S:PS) (sf:SF) (w:World) (hs:SIs w S sf) (hok:S.ok) :
  Calls prog 56 #[sf.val] w (Ha S (eN S) 0 w):=by
 refine cG (args:=[sf.val]) func56 rfl ntmps56 rfl ?_
 have hS:=St.start w
 refine aO (aR (bQ (cs:=[_,_,_]) hS rfl rfl rfl fun B1 W1 hS=>bU (cs:=[_,_,_,_,_,_]) hS zeroValue56 rfl rfl fun B2 W2 hS=>aB rfl rfl (aQ (XF.thenN (aO (aO (aR (aU (vs:=[_,_,_]) isAgg25 sizeOf25 rfl (aK.own (j:=0) (m:=3) (hS.at_ 1 rfl) rfl) rfl (bT (vs:=[_]) hS uB rfl (yF (hs.below hS.below) hok) rfl fun W3 hS=>aB rfl rfl (aQ (XF.thenN (aO (aR (aI rfl rfl (cN rfl rfl rfl (aQ (XF.thenN (bC rfl (fun hc=>absurd (of_decide_eq_true hc) (by omega)) (fun hc=>?_)))))))))))))))))))
 have hc:=of_decide_eq_false hc
 refine bH (XF.thenN (aO (aR (aU (vs:=[_,_,_]) isAgg25 sizeOf25 rfl (aK.own (j:=0) (m:=3) (hS.at_ 1 rfl) rfl) rfl ?_))))
 have hsz:=hS.below.size
 refine dC (vs:=[_]) hS goes_66 rfl (Ls (hs.below hS.below) hok) rfl ?_
 rintro e W4 ⟨f,rfl,hn,hb⟩
 refine ⟨_,rfl,hb,fun hS'=>?_⟩
 clear hS;have hS:=hS';clear hS'
 refine bB (i:=0) (vs:=[_,_,_,_,_,_]) (cs':=[_,_,_,_,_,_]) (O':=[_,_]) hS sizeOf56 rfl rfl rfl rfl rfl rfl rfl fun W5 hS=>aB rfl rfl (aQ (XF.thenN (bM (XF.res (jV (vs:=[_,_,_,_,_,_]) results56 isAgg56 sizeOf56 rfl (aK.own (j:=0) (m:=6) (hS.at_ 0 rfl) rfl) rfl) ?_))))
 exact ⟨f,rfl,(hn.agree (hS.since 0 rfl)).mono hsz,hS.below⟩
def smS:Nat→SV→Bool
 | 0,_=>false
 | k+1,.mk f ps=>decide (f.len≤3) && ps.all (smS k)
theorem cF {α:Type} {l:List α} {q:α→Bool} {i:Nat} {x:α} (h:l[i]?=some x) (hq:q x=false):l.all q=false:=by
 rw [List.all_eq_false];exact ⟨x,List.mem_of_getElem? h,by rw [hq];decide⟩
theorem cQ {α:Type} {l:List α} {q:α→Bool} {i:Nat} {x:α} (h:l[i]?=some x) (ha:(l.take i).all q=true) (hq:q x=true):(l.take (i+1)).all q=true:=by
 rw [List.take_add_one,h];simp [ha,hq]
def okW (s:SV) (x:WV):Bool:=if bS s.f.tag s.f.dim s.f.len=true then eU s.f.tag s.f.dim x.f else match s.ps with | [p,q]=>gA p q x.f x.ps | _=>false
def iR (s:SV) (x:WV):Int:=if dD s=0 then (if okW s x=true then 0 else 51) else dD s
theorem nD {r:Bool} {C:Prop} (hr:r=true↔C) (h:¬ C):false=r:=by
 cases r
 ·rfl
 ·exact absurd (hr.1 rfl) h
theorem Lu {r:Bool} {C:Prop} (hr:r=true↔C) (h:C):true=r:=(hr.2 h).symm
theorem It (az:Bool) (ac:Int) (ag:Nat) (ara:Option Addr) (arl arc:Nat) (arows:List Nat) (aca:Option Addr) (acl acc:Nat) (acells:List Cl) (apa:Option Addr) (apc:Nat)(bz:Bool) (bc:Int) (bg:Nat) (bra:Option Addr) (brl brc:Nat) (brows:List Nat) (bca:Option Addr) (bcl bcc:Nat) (bcells:List Cl) (bpa:Option Addr) (bpc:Nat)(w:World) (hra:gQ w ara (dT arows)) (hla:arows.length=arl) (hma:arl≤100) (hca:lS w aca acells) (hka:acells.length=acl) (hna:acl≤100)(hrb:gQ w bra (dT brows)) (hlb:brows.length=brl) (hmb:brl≤100) (hcb:lS w bca bcells) (hkb:bcells.length=bcl) (hnb:bcl≤100)(r:Bool) (hr:r=true↔(az=bz∧ac=bc∧ag=bg∧arows=brows∧acells=bcells)) :
  Calls prog 13 #[.agg #[.bool az,.int .i64 ac,.int .u64 (ag:Int),.slice ara arl arc,.slice aca acl acc,.slice apa 0 apc],.agg #[.bool bz,.int .i64 bc,.int .u64 (bg:Int),.slice bra brl brc,.slice bca bcl bcc,.slice bpa 0 bpc]] w (fun e w'=>e = .returned (.bool r)∧Below w.heap.size w w'):=by
 refine cG (args:=[.agg #[.bool az,.int .i64 ac,.int .u64 (ag:Int),.slice ara arl arc,.slice aca acl acc,.slice apa 0 apc],.agg #[.bool bz,.int .i64 bc,.int .u64 (bg:Int),.slice bra brl brc,.slice bca bcl bcc,.slice bpa 0 bpc]]) func13 rfl ntmps13 rfl ?_
 have hS:=St.start w
 refine aO (aR (bQ (cs:=[_,_,_,_,_,_]) hS rfl rfl rfl fun B1 W1 hS=>bQ (cs:=[_,_,_,_,_,_]) hS rfl rfl rfl fun B2 W2 hS=>aB rfl rfl (aQ (XF.thenN (aO (aO (aR (aN (o':=0) eD rfl rfl rfl (aT isAgg4 rfl (aJ (hS.at_ 1 rfl) rfl) rfl (aN (o':=0) eD rfl rfl rfl (aT isAgg4 rfl (aJ (hS.at_ 0 rfl) rfl) rfl (F5 underlying4 rfl rfl rfl (aI rfl rfl (bG (d:=12) rfl (fun hc=>?_) (fun hc=>?_)))))))))))))))
 ·have hg12:=hc;clear hc
  refine aF (d:=12) rfl rfl rfl rfl (aF (d:=12) rfl rfl rfl rfl (aF (d:=12) rfl rfl rfl rfl (aF (d:=12) rfl rfl rfl rfl (aF (d:=12) rfl rfl rfl rfl (aY rfl rfl rfl (aI rfl rfl (aF (d:=19) rfl rfl rfl rfl (aF (d:=19) rfl rfl rfl rfl (aF (d:=19) rfl rfl rfl rfl (aF (d:=19) rfl rfl rfl rfl (aF (d:=19) rfl rfl rfl rfl (aF (d:=19) rfl rfl rfl rfl (aY rfl rfl rfl (aI rfl rfl (aF (d:=27) rfl rfl rfl rfl (aF (d:=27) rfl rfl rfl rfl (aF (d:=27) rfl rfl rfl rfl (aF (d:=27) rfl rfl rfl rfl (aF (d:=27) rfl rfl rfl rfl (aF (d:=27) rfl rfl rfl rfl (aF (d:=27) rfl rfl rfl rfl (aY rfl rfl rfl (aI rfl rfl (aF (d:=36) rfl rfl rfl rfl (aF (d:=36) rfl rfl rfl rfl (aF (d:=36) rfl rfl rfl rfl (aF (d:=36) rfl rfl rfl rfl (aF (d:=36) rfl rfl rfl rfl (aF (d:=36) rfl rfl rfl rfl (aF (d:=36) rfl rfl rfl rfl (aY rfl rfl rfl (aQ (XF.thenN ?_)))))))))))))))))))))))))))))))))
  refine cU rfl (aO (aR (aB rfl rfl (aQ (XF.thenN (bM (XF.thenR (XF.res (bV results13 rfl) ?_))))))))
  exact ⟨bR (nD hr (fun h=>by have h1:=h.1;subst h1;simp at hg12)),hS.below⟩
 ·have hg12:=hc;clear hc
  refine aC (d:=12) rfl rfl (aN (o':=1) gC rfl rfl rfl (aC (d:=12) rfl rfl (aT isAgg3 rfl (aJ (hS.at_ 1 rfl) rfl) rfl (aC (d:=12) rfl rfl (aN (o':=1) gC rfl rfl rfl (aC (d:=12) rfl rfl (aT isAgg3 rfl (aJ (hS.at_ 0 rfl) rfl) rfl (aC (d:=12) rfl rfl (cN rfl rfl rfl (bN rfl rfl rfl (aI rfl rfl (bG (d:=19) rfl (fun hc=>?_) (fun hc=>?_)))))))))))))
  ·have hg19:=of_decide_eq_true hc;clear hc
   refine aF (d:=19) rfl rfl rfl rfl (aF (d:=19) rfl rfl rfl rfl (aF (d:=19) rfl rfl rfl rfl (aF (d:=19) rfl rfl rfl rfl (aF (d:=19) rfl rfl rfl rfl (aF (d:=19) rfl rfl rfl rfl (aY rfl rfl rfl (aI rfl rfl (aF (d:=27) rfl rfl rfl rfl (aF (d:=27) rfl rfl rfl rfl (aF (d:=27) rfl rfl rfl rfl (aF (d:=27) rfl rfl rfl rfl (aF (d:=27) rfl rfl rfl rfl (aF (d:=27) rfl rfl rfl rfl (aF (d:=27) rfl rfl rfl rfl (aY rfl rfl rfl (aI rfl rfl (aF (d:=36) rfl rfl rfl rfl (aF (d:=36) rfl rfl rfl rfl (aF (d:=36) rfl rfl rfl rfl (aF (d:=36) rfl rfl rfl rfl (aF (d:=36) rfl rfl rfl rfl (aF (d:=36) rfl rfl rfl rfl (aF (d:=36) rfl rfl rfl rfl (aY rfl rfl rfl (aQ (XF.thenN (cU rfl (aO (aR (aB rfl rfl (aQ (XF.thenN (bM (XF.thenR (XF.res (bV results13 rfl) ?_)))))))))))))))))))))))))))))))))))
   exact ⟨bR (nD hr (fun h=>hg19 h.2.1)),hS.below⟩
  ·have hg19:=of_decide_eq_false hc;clear hc
   refine aC (d:=19) rfl rfl (aN (o':=2) gD rfl rfl rfl (aC (d:=19) rfl rfl (aU (vs:=[_,_]) isAgg52 sizeOf52 rfl (aK.own (j:=2) (m:=2) (hS.at_ 1 rfl) rfl) rfl (aC (d:=19) rfl rfl (aN (o':=2) gD rfl rfl rfl (aC (d:=19) rfl rfl (aU (vs:=[_,_]) isAgg52 sizeOf52 rfl (aK.own (j:=2) (m:=2) (hS.at_ 0 rfl) rfl) rfl (aC (d:=19) rfl rfl (bT (vs:=[_,_]) hS Gb rfl (vE _ _ _ _ _ _ _ _ _ (by omega) (by omega) (gQ.below hra hS.below) (gQ.below hrb hS.below) _ rfl _ _ hla hlb) rfl fun W3 hS=>aC (d:=19) rfl rfl (dV rfl rfl (bN rfl rfl rfl (aI rfl rfl (bG (d:=27) rfl (fun hc=>?_) (fun hc=>?_))))))))))))))
   ·have hg27:=hc;clear hc
    refine aF (d:=27) rfl rfl rfl rfl (aF (d:=27) rfl rfl rfl rfl (aF (d:=27) rfl rfl rfl rfl (aF (d:=27) rfl rfl rfl rfl (aF (d:=27) rfl rfl rfl rfl (aF (d:=27) rfl rfl rfl rfl (aF (d:=27) rfl rfl rfl rfl (aY rfl rfl rfl (aI rfl rfl (aF (d:=36) rfl rfl rfl rfl (aF (d:=36) rfl rfl rfl rfl (aF (d:=36) rfl rfl rfl rfl (aF (d:=36) rfl rfl rfl rfl (aF (d:=36) rfl rfl rfl rfl (aF (d:=36) rfl rfl rfl rfl (aF (d:=36) rfl rfl rfl rfl (aY rfl rfl rfl (aQ (XF.thenN (cU rfl (aO (aR (aB rfl rfl (aQ (XF.thenN (bM (XF.thenR (XF.res (bV results13 rfl) ?_)))))))))))))))))))))))))))
    exact ⟨bR (nD hr (fun h=>by obtain ⟨_,_,h3,h4,_⟩:=h;subst h3;subst h4;rw [Ic] at hg27;cases hg27)),hS.below⟩
   ·have hg27:=hc;clear hc
    refine aC (d:=27) rfl rfl (aN (o':=4) dJ rfl rfl rfl (aC (d:=27) rfl rfl (aT isAgg53 rfl (aJ (hS.at_ 1 rfl) rfl) rfl (aC (d:=27) rfl rfl (bX underlying53 rfl rfl (aC (d:=27) rfl rfl (aN (o':=4) dJ rfl rfl rfl (aC (d:=27) rfl rfl (aT isAgg53 rfl (aJ (hS.at_ 0 rfl) rfl) rfl (aC (d:=27) rfl rfl (bX underlying53 rfl rfl (aC (d:=27) rfl rfl (cN rfl rfl rfl (bN rfl rfl rfl (aI rfl rfl (bG (d:=36) rfl (fun hc=>?_) (fun hc=>?_)))))))))))))))))
    ·have hg36:=of_decide_eq_true hc;clear hc
     refine aF (d:=36) rfl rfl rfl rfl (aF (d:=36) rfl rfl rfl rfl (aF (d:=36) rfl rfl rfl rfl (aF (d:=36) rfl rfl rfl rfl (aF (d:=36) rfl rfl rfl rfl (aF (d:=36) rfl rfl rfl rfl (aF (d:=36) rfl rfl rfl rfl (aY rfl rfl rfl (aQ (XF.thenN (cU rfl (aO (aR (aB rfl rfl (aQ (XF.thenN (bM (XF.thenR (XF.res (bV results13 rfl) ?_))))))))))))))))))
     exact ⟨bR (nD hr (fun h=>by have h5:=h.2.2.2.2;subst h5;omega)),hS.below⟩
    ·have hg36:=of_decide_eq_false hc;clear hc
     have hz:az=bz:=by simpa using hg12
     have hcc:ac=bc:=by omega
     have hff:ag=bg∧arows=brows:=by simpa [rK] using hg27
     have hcl:acl=bcl:=by omega
     refine aC (d:=36) rfl rfl (aN (o':=5) cV rfl rfl rfl (aC (d:=36) rfl rfl (aT isAgg54 rfl (aJ (hS.at_ 1 rfl) rfl) rfl (aC (d:=36) rfl rfl (bX underlying54 rfl rfl (aC (d:=36) rfl rfl (aN (o':=5) cV rfl rfl rfl (aC (d:=36) rfl rfl (aT isAgg54 rfl (aJ (hS.at_ 0 rfl) rfl) rfl (aC (d:=36) rfl rfl (bX underlying54 rfl rfl (aC (d:=36) rfl rfl (cN rfl rfl rfl (bN rfl rfl rfl (aQ (XF.thenN (bC rfl (fun hc=>absurd (of_decide_eq_true hc) (by omega)) (fun hc=>?_))))))))))))))))))
     have hc:=of_decide_eq_false hc
     refine bH (XF.thenN (aO (aO (aR (aB rfl rfl (aQ (XF.thenN (bI (cX (fun q l W=>∃ i:Nat,i≤acl∧q=acl - i∧l=[(2,.pointer (some ⟨B1,0,none⟩)),(3,.pointer (some ⟨B2,0,none⟩)),(5,.int .i64 (i:Int))]∧acells.take i=bcells.take i∧St w [(B2,[.bool bz,.int .i64 bc,.int .u64 (bg:Int),.slice bra brl brc,.slice bca bcl bcc,.slice bpa 0 bpc],56),(B1,[.bool az,.int .i64 ac,.int .u64 (ag:Int),.slice ara arl arc,.slice aca acl acc,.slice apa 0 apc],56)] [] [] W) (acl - 0) ([(2,_),(3,_),(5,_)]) ⟨rfl,rfl,rfl,trivial⟩ (⟨0,Nat.zero_le _,rfl,rfl,rfl,hS.clear⟩) ?_)))))))))
     clear hS
     rintro q l W ⟨i,hi,rfl,rfl,hall,hS⟩
     refine aO (aO (aR (aI rfl rfl (aN (o':=4) dJ rfl rfl rfl (aT isAgg53 rfl (aJ (hS.at_ 1 rfl) rfl) rfl (bX underlying53 rfl rfl (cC rfl rfl rfl (aQ (XF.thenN (bC rfl (fun hc=>?_) (fun hc=>?_)))))))))))
     ·have hc49:=of_decide_eq_true hc;clear hc
      have hk:i < acl:=by omega
      obtain ⟨b1,o1,x,hx1,hx2,_,x0,x1,x2⟩:=hca.at_ (k:=i) (by omega)
      obtain ⟨b2,o2,y,hy1,hy2,_,y0,y1,y2⟩:=hcb.at_ (k:=i) (by omega)
      subst hx1;subst hy1
      have k1:aK W b1 (o1+i * 3) [.int .u64 (x.f:Int),.int .i64 x.k,.int .i64 x.v]:=aK.agree hS.agree (Nat.zero_le _) ⟨x0,x1,x2,trivial⟩
      have k2:aK W b2 (o2+i * 3) [.int .u64 (y.f:Int),.int .i64 y.k,.int .i64 y.v]:=aK.agree hS.agree (Nat.zero_le _) ⟨y0,y1,y2,trivial⟩
      refine bH (XF.thenN (aO (bI (aO (gP (m:=11) bY hS (by kernel_rfl) (by kernel_rfl) rfl (cB 1 rfl 2 rfl rfl (fun w hw=>aV (o':=4) dJ rfl rfl) rfl (bD 2 rfl 52 0 rfl rfl rfl (fun w hw=>aX isAgg53 rfl ((aP hw 0).cell (Nat.zero_le _) (aJ (hS.at_ 1 rfl) rfl))) rfl (cB 3 rfl 5 rfl rfl (fun w hw=>aZ rfl) rfl (aM 4 rfl (isV _) (aH _) (rgV (li:=[(53,_),(54,_)]) rfl (aS rfl) ⟨aL 1 (aA rfl rfl rfl),aL 2 (aA rfl rfl rfl),trivial⟩ (fun w hw=>bA  underlying53 sizeOf89 rfl rfl rfl (by omega) rfl) (aD rfl)) (bD 5 rfl 55 3 rfl rfl rfl (fun w hw=>bL (vs:=[_,_,_]) isAgg89 sizeOf89 rfl (aK.agree (aP hw 0) (Nat.zero_le _) (by assumption))) rfl (cB 6 rfl 3 rfl rfl (fun w hw=>aV (o':=4) dJ rfl rfl) rfl (bD 7 rfl 57 5 rfl rfl rfl (fun w hw=>aX isAgg53 rfl ((aP hw 0).cell (Nat.zero_le _) (aJ (hS.at_ 0 rfl) rfl))) rfl (cB 8 rfl 5 rfl rfl (fun w hw=>aZ rfl) rfl (aM 9 rfl (isV _) (aH _) (rgV (li:=[(58,_),(59,_)]) rfl (aS rfl) ⟨aL 6 (aA rfl rfl rfl),aL 7 (aA rfl rfl rfl),trivial⟩ (fun w hw=>bA  underlying53 sizeOf89 rfl rfl rfl (by omega) rfl) (aD rfl)) (bD 10 rfl 60 8 rfl rfl rfl (fun w hw=>bL (vs:=[_,_,_]) isAgg89 sizeOf89 rfl (aK.agree (aP hw 0) (Nat.zero_le _) (by assumption))) rfl (aM 11 rfl (isV _) (aH _) (rgV (li:=[(56,_),(61,_)]) rfl (aS rfl) ⟨aL 4 (aA rfl rfl rfl),aL 9 (aA rfl rfl rfl),trivial⟩ (fun w hw=>rn_binG rfl rfl (run_eqGuard_agg _ _ _ _ _ _ _ (by kernel_rfl)) (neq_is x y _ rfl w)) (aD rfl)) (dB ?_)))))))))))))))))
      intro W4 hbR hS'
      clear hS;have hS:=hS';clear hS'
      refine aG (aG (aG (aG (aG (aG (aG (aG (aG (aG (aG (cH (XF.thenN (bC rfl (fun hc=>?_) (fun hc=>?_))))))))))))))
      ·have hc62:=hc;clear hc
       refine aO (aR (aB rfl rfl (aQ (XF.thenN (bM (XF.blkR (XF.thenR (XF.thenR (XF.blkR (XF.thenR (XF.res (bV results13 rfl) ?_)))))))))))
       exact ⟨bR (nD hr (fun h=>by have h5:=h.2.2.2.2;subst h5;rw [hx2] at hy2;cases hy2;simp [oG] at hc62)),hS.below⟩
      ·have hc62:=hc;clear hc
       have hxy:x=y:=by
        obtain ⟨xf,xk,xv⟩:=x
        obtain ⟨yf,yk,yv⟩:=y
        simp [oG] at hc62
        simp [hc62]
       subst hxy
       refine bH (XF.blkN (XF.thenN (aR (aI rfl rfl (cE rfl rfl (IntWalk.i64_in _ (by omega)) rfl (aB rfl rfl (aQ ?_)))))))
       exact XF.round (acl - (i+1)) [(2,_),(3,_),(5,_)] (by omega) ⟨rfl,rfl,rfl,trivial⟩ ⟨i+1,by omega,rfl,rfl,by rw [List.take_add_one,List.take_add_one,hx2,hy2,hall],hS.clear⟩
     ·have hc49:=of_decide_eq_false hc;clear hc
      have hce:acells=bcells:=by
       rw [List.take_of_length_le (by omega),List.take_of_length_le (by omega)] at hall
       exact hall
      refine cW (XF.thenX (XF.thenX (XF.blkX (XF.thenN (aO (aO (aR (aB rfl rfl (aQ (XF.thenN (bI (cX (fun q l W=>l=[(2,.pointer (some ⟨B1,0,none⟩)),(3,.pointer (some ⟨B2,0,none⟩)),(6,.int .i64 0)]∧St w [(B2,[.bool bz,.int .i64 bc,.int .u64 (bg:Int),.slice bra brl brc,.slice bca bcl bcc,.slice bpa 0 bpc],56),(B1,[.bool az,.int .i64 ac,.int .u64 (ag:Int),.slice ara arl arc,.slice aca acl acc,.slice apa 0 apc],56)] [] [] W) (0) ([(2,_),(3,_),(6,_)]) ⟨rfl,rfl,rfl,trivial⟩ (⟨rfl,hS⟩) ?_))))))))))))
      clear hS
      rintro q l W ⟨rfl,hS⟩
      refine aO (aO (aR (aI rfl rfl (aN (o':=5) cV rfl rfl rfl (aT isAgg54 rfl (aJ (hS.at_ 1 rfl) rfl) rfl (bX underlying54 rfl rfl (cC rfl rfl rfl (aQ (XF.thenN (bC rfl (fun hc=>absurd (of_decide_eq_true hc) (by omega)) (fun hc=>?_)))))))))))
      have hc:=of_decide_eq_false hc
      refine cW (XF.thenX (XF.thenX (XF.blkX (XF.thenN (aO (aR (aB rfl rfl (aQ (XF.thenN (bM (XF.res (bV results13 rfl) ?_)))))))))))
      exact ⟨bR (Lu hr ⟨hz,hcc,hff.1,hff.2,hce⟩),hS.below⟩
theorem oK {w:World} {t n:Int} {f g:WF} {x y:PF} (hx:PIs w t n f x) (hy:PIs w t n g y) (r:Bool) (hr:r=true↔x=y):Calls prog 13 #[f.val,g.val] w fun e w'=>e = .returned (.bool r)∧Below w.heap.size w w':=by
 have h1:=hx.rows64 (l:=0);have h2:=hy.rows64 (l:=0)
 have e1:=hx.pl;have e2:=hy.pl
 have a1:=hx.at_;have a2:=hy.at_
 obtain rfl:=hx.pf
 obtain rfl:=hy.pf
 obtain ⟨az,ac,ag,ara,arl,arc,arows,aca,acl,acc,acells,apa,apl,apc⟩:=f
 obtain ⟨bz,bc,bg,bra,brl,brc,brows,bca,bcl,bcc,bcells,bpa,bpl,bpc⟩:=g
 dsimp only at e1 e2 h1 h2
 subst e1;subst e2
 refine It _ _ _ _ _ _ _ _ _ _ _ _ _ _ _ _ _ _ _ _ _ _ _ _ _ _ w a1.rows a1.rl (by dsimp only;omega) a1.cells a1.cl (by dsimp only;omega) a2.rows a2.rl (by dsimp only;omega) a2.cells a2.cl (by dsimp only;omega) r ?_
 rw [hr]
 simp [WF.pf]
theorem Iu (t n u m:Int) (fra fca:Option Addr) (frc fcc fpc fb fo:Nat) (f1 f2:WF)(gra gca:Option Addr) (grc gcc gpc gb go:Nat) (g1 g2:WF)(x1 x2 y1 y2:PF) (w:World) (hf6:W6 w fb fo f1) (hf7:W6 w fb (fo+6) f2) (hg6:W6 w gb go g1) (hg7:W6 w gb (go+6) g2) (hx1:PIs w t n f1 x1) (hx2:PIs w u m f2 x2) (hy1:PIs w t n g1 y1) (hy2:PIs w u m g2 y2) (r r1 r2:Bool) (hr:r=true↔(x1=y1∧x2=y2)) (hr1:r1=true↔x1=y1) (hr2:r2=true↔x2=y2) :
  Calls prog 13 #[.agg #[.bool false,.int .i64 0,.int .u64 0,.slice fra 0 frc,.slice fca 0 fcc,.slice (some ⟨fb,fo,none⟩) 2 fpc],.agg #[.bool false,.int .i64 0,.int .u64 0,.slice gra 0 grc,.slice gca 0 gcc,.slice (some ⟨gb,go,none⟩) 2 gpc]] w (fun e w'=>e = .returned (.bool r)∧Below w.heap.size w w'):=by
 refine cG (args:=[.agg #[.bool false,.int .i64 0,.int .u64 0,.slice fra 0 frc,.slice fca 0 fcc,.slice (some ⟨fb,fo,none⟩) 2 fpc],.agg #[.bool false,.int .i64 0,.int .u64 0,.slice gra 0 grc,.slice gca 0 gcc,.slice (some ⟨gb,go,none⟩) 2 gpc]]) func13 rfl ntmps13 rfl ?_
 have hS:=St.start w
 refine aO (aR (bQ (cs:=[_,_,_,_,_,_]) hS rfl rfl rfl fun B1 W1 hS=>bQ (cs:=[_,_,_,_,_,_]) hS rfl rfl rfl fun B2 W2 hS=>aB rfl rfl (aQ (XF.thenN (aO (aO (aR (aN (o':=0) eD rfl rfl rfl (aT isAgg4 rfl (aJ (hS.at_ 1 rfl) rfl) rfl (aN (o':=0) eD rfl rfl rfl (aT isAgg4 rfl (aJ (hS.at_ 0 rfl) rfl) rfl (F5 underlying4 rfl rfl rfl (aI rfl rfl (bG (d:=12) rfl (fun hc=>absurd hc (by decide)) (fun hc=>?_)))))))))))))))
 skip
 refine aC (d:=12) rfl rfl (aN (o':=1) gC rfl rfl rfl (aC (d:=12) rfl rfl (aT isAgg3 rfl (aJ (hS.at_ 1 rfl) rfl) rfl (aC (d:=12) rfl rfl (aN (o':=1) gC rfl rfl rfl (aC (d:=12) rfl rfl (aT isAgg3 rfl (aJ (hS.at_ 0 rfl) rfl) rfl (aC (d:=12) rfl rfl (cN rfl rfl rfl (bN rfl rfl rfl (aI rfl rfl (bG (d:=19) rfl (fun hc=>absurd (of_decide_eq_true hc) (by omega)) (fun hc=>?_)))))))))))))
 have hc:=of_decide_eq_false hc
 refine aC (d:=19) rfl rfl (aN (o':=2) gD rfl rfl rfl (aC (d:=19) rfl rfl (aU (vs:=[_,_]) isAgg52 sizeOf52 rfl (aK.own (j:=2) (m:=2) (hS.at_ 1 rfl) rfl) rfl (aC (d:=19) rfl rfl (aN (o':=2) gD rfl rfl rfl (aC (d:=19) rfl rfl (aU (vs:=[_,_]) isAgg52 sizeOf52 rfl (aK.own (j:=2) (m:=2) (hS.at_ 0 rfl) rfl) rfl (aC (d:=19) rfl rfl (bT (vs:=[_,_]) hS Gb rfl (vE _ _ _ _ 0 0 [] [] _ (by simp) (by simp) (.inl rfl) (.inl rfl) true rfl _ _ rfl rfl) rfl fun W3 hS=>aC (d:=19) rfl rfl (dV rfl rfl (bN rfl rfl rfl (aI rfl rfl (bG (d:=27) rfl (fun hc=>absurd hc (by decide)) (fun hc=>?_))))))))))))))
 skip
 refine aC (d:=27) rfl rfl (aN (o':=4) dJ rfl rfl rfl (aC (d:=27) rfl rfl (aT isAgg53 rfl (aJ (hS.at_ 1 rfl) rfl) rfl (aC (d:=27) rfl rfl (bX underlying53 rfl rfl (aC (d:=27) rfl rfl (aN (o':=4) dJ rfl rfl rfl (aC (d:=27) rfl rfl (aT isAgg53 rfl (aJ (hS.at_ 0 rfl) rfl) rfl (aC (d:=27) rfl rfl (bX underlying53 rfl rfl (aC (d:=27) rfl rfl (cN rfl rfl rfl (bN rfl rfl rfl (aI rfl rfl (bG (d:=36) rfl (fun hc=>absurd (of_decide_eq_true hc) (by omega)) (fun hc=>?_)))))))))))))))))
 have hc:=of_decide_eq_false hc
 refine aC (d:=36) rfl rfl (aN (o':=5) cV rfl rfl rfl (aC (d:=36) rfl rfl (aT isAgg54 rfl (aJ (hS.at_ 1 rfl) rfl) rfl (aC (d:=36) rfl rfl (bX underlying54 rfl rfl (aC (d:=36) rfl rfl (aN (o':=5) cV rfl rfl rfl (aC (d:=36) rfl rfl (aT isAgg54 rfl (aJ (hS.at_ 0 rfl) rfl) rfl (aC (d:=36) rfl rfl (bX underlying54 rfl rfl (aC (d:=36) rfl rfl (cN rfl rfl rfl (bN rfl rfl rfl (aQ (XF.thenN (bC rfl (fun hc=>absurd (of_decide_eq_true hc) (by omega)) (fun hc=>?_))))))))))))))))))
 have hc:=of_decide_eq_false hc
 refine bH (XF.thenN (aO (aO (aR (aB rfl rfl (aQ (XF.thenN (bI (cX (fun q l W=>l=[(2,.pointer (some ⟨B1,0,none⟩)),(3,.pointer (some ⟨B2,0,none⟩)),(5,.int .i64 0)]∧St w [(B2,[.bool false,.int .i64 0,.int .u64 0,.slice gra 0 grc,.slice gca 0 gcc,.slice (some ⟨gb,go,none⟩) 2 gpc],56),(B1,[.bool false,.int .i64 0,.int .u64 0,.slice fra 0 frc,.slice fca 0 fcc,.slice (some ⟨fb,fo,none⟩) 2 fpc],56)] [] [] W) (0) ([(2,_),(3,_),(5,_)]) ⟨rfl,rfl,rfl,trivial⟩ (⟨rfl,hS.clear⟩) ?_)))))))))
 clear hS
 rintro q l W ⟨rfl,hS⟩
 refine aO (aO (aR (aI rfl rfl (aN (o':=4) dJ rfl rfl rfl (aT isAgg53 rfl (aJ (hS.at_ 1 rfl) rfl) rfl (bX underlying53 rfl rfl (cC rfl rfl rfl (aQ (XF.thenN (bC rfl (fun hc=>absurd (of_decide_eq_true hc) (by omega)) (fun hc=>?_)))))))))))
 have hc:=of_decide_eq_false hc
 refine cW (XF.thenX (XF.thenX (XF.blkX (XF.thenN (aO (aO (aR (aB rfl rfl (aQ (XF.thenN (bI (cX (fun q l W=>(q=2∧l=[(2,.pointer (some ⟨B1,0,none⟩)),(3,.pointer (some ⟨B2,0,none⟩)),(6,.int .i64 0)]∧St w [(B2,[.bool false,.int .i64 0,.int .u64 0,.slice gra 0 grc,.slice gca 0 gcc,.slice (some ⟨gb,go,none⟩) 2 gpc],56),(B1,[.bool false,.int .i64 0,.int .u64 0,.slice fra 0 frc,.slice fca 0 fcc,.slice (some ⟨fb,fo,none⟩) 2 fpc],56)] [] [] W)∨(q=1∧l=[(2,.pointer (some ⟨B1,0,none⟩)),(3,.pointer (some ⟨B2,0,none⟩)),(6,.int .i64 1)]∧r1=true∧St w [(B2,[.bool false,.int .i64 0,.int .u64 0,.slice gra 0 grc,.slice gca 0 gcc,.slice (some ⟨gb,go,none⟩) 2 gpc],56),(B1,[.bool false,.int .i64 0,.int .u64 0,.slice fra 0 frc,.slice fca 0 fcc,.slice (some ⟨fb,fo,none⟩) 2 fpc],56)] [] [] W)∨(q=0∧l=[(2,.pointer (some ⟨B1,0,none⟩)),(3,.pointer (some ⟨B2,0,none⟩)),(6,.int .i64 2)]∧r1=true∧r2=true∧St w [(B2,[.bool false,.int .i64 0,.int .u64 0,.slice gra 0 grc,.slice gca 0 gcc,.slice (some ⟨gb,go,none⟩) 2 gpc],56),(B1,[.bool false,.int .i64 0,.int .u64 0,.slice fra 0 frc,.slice fca 0 fcc,.slice (some ⟨fb,fo,none⟩) 2 fpc],56)] [] [] W)) (2) ([(2,_),(3,_),(6,_)]) ⟨rfl,rfl,rfl,trivial⟩ (.inl ⟨rfl,rfl,hS⟩) ?_))))))))))))
 clear hS
 rintro q l W (⟨rfl,rfl,hS⟩ | ⟨rfl,rfl,hq1,hS⟩ | ⟨rfl,rfl,hq1,hq2,hS⟩)
 ·have k1:=aK.agree hS.agree (Nat.zero_le _) hf6.cells
  have k2:=aK.agree hS.agree (Nat.zero_le _) hg6.cells
  refine aO (aO (aR (aI rfl rfl (aN (o':=5) cV rfl rfl rfl (aT isAgg54 rfl (aJ (hS.at_ 1 rfl) rfl) rfl (bX underlying54 rfl rfl (cC rfl rfl rfl (aQ (XF.thenN (bC rfl (fun hc=>?_) (fun hc=>absurd (of_decide_eq_false hc) (by omega))))))))))))
  have hc:=of_decide_eq_true hc
  refine bH (XF.thenN (aO (bI (aO (gP (m:=12) bY hS (by kernel_rfl) (by kernel_rfl) rfl (cB 1 rfl 2 rfl rfl (fun w hw=>aV (o':=5) cV rfl rfl) rfl (bD 2 rfl 70 0 rfl rfl rfl (fun w hw=>aX isAgg54 rfl ((aP hw 0).cell (Nat.zero_le _) (aJ (hS.at_ 1 rfl) rfl))) rfl (cB 3 rfl 6 rfl rfl (fun w hw=>aZ rfl) rfl (aM 4 rfl (isV _) (aH _) (rgV (li:=[(71,_),(72,_)]) rfl (aS rfl) ⟨aL 1 (aA rfl rfl rfl),aL 2 (aA rfl rfl rfl),trivial⟩ (fun w hw=>bA (j:=0) underlying54 sizeOf56 rfl rfl rfl (by omega) (Nat.add_zero _)) (aD rfl)) (bD 5 rfl 73 3 rfl rfl rfl (fun w hw=>bL (vs:=[_,_,_,_,_,_]) isAgg56 sizeOf56 rfl (aK.agree (aP hw 0) (Nat.zero_le _) (by assumption))) rfl (cB 6 rfl 3 rfl rfl (fun w hw=>aV (o':=5) cV rfl rfl) rfl (bD 7 rfl 75 5 rfl rfl rfl (fun w hw=>aX isAgg54 rfl ((aP hw 0).cell (Nat.zero_le _) (aJ (hS.at_ 0 rfl) rfl))) rfl (cB 8 rfl 6 rfl rfl (fun w hw=>aZ rfl) rfl (aM 9 rfl (isV _) (aH _) (rgV (li:=[(76,_),(77,_)]) rfl (aS rfl) ⟨aL 6 (aA rfl rfl rfl),aL 7 (aA rfl rfl rfl),trivial⟩ (fun w hw=>bA (j:=0) underlying54 sizeOf56 rfl rfl rfl (by omega) (Nat.add_zero _)) (aD rfl)) (bD 10 rfl 78 8 rfl rfl rfl (fun w hw=>bL (vs:=[_,_,_,_,_,_]) isAgg56 sizeOf56 rfl (aK.agree (aP hw 0) (Nat.zero_le _) (by assumption))) rfl ?_)))))))))))))))
  refine aM 11 rfl (isV (.bool r1)) (aH _) (cP [isV _,isV _] rfl uC (aS rfl) ⟨cD (aL 4 (aA rfl rfl rfl)),cD (aL 9 (aA rfl rfl rfl)),trivial⟩ (fun vs w' hb hh=>by have e:=bZ (us:=[_,_]) hh;subst e;exact (oK (hx1.below (hS.below.trans (hb.mono hS.below.size))) (hy1.below (hS.below.trans (hb.mono hS.below.size))) r1 hr1).mono fun e w2 h=>⟨.bool r1,h.1,rfl,h.2⟩) (aD rfl)) ?_
  refine bD 12 rfl 80 10 rfl rfl rfl (fun w hw=>gU rfl) rfl (dB ?_)
  intro W4 hbR hS'
  clear hS;have hS:=hS';clear hS'
  refine aG (aG (aG (aG (aG (aG (aG (aG (aG (aG (aG (aG (cH (XF.thenN (bC rfl (fun hc=>?_) (fun hc=>?_)))))))))))))))
  ·have hc81:=hc;clear hc
   refine aO (aR (aB rfl rfl (aQ (XF.thenN (bM (XF.blkR (XF.thenR (XF.thenR (XF.blkR (XF.thenR (XF.res (bV results13 rfl) ?_)))))))))))
   exact ⟨bR (nD hr (fun h=>by rw [hr1.2 h.1] at hc81;cases hc81)),hS.below⟩
  ·have hc81:=hc;clear hc
   refine bH (XF.blkN (XF.thenN (aR (aI rfl rfl (cE rfl rfl (IntWalk.i64_in _ (by omega)) rfl (aB rfl rfl (aQ ?_)))))))
   exact XF.round 1 [(2,_),(3,_),(6,_)] (by omega) ⟨rfl,rfl,rfl,trivial⟩ (.inr (.inl ⟨rfl,rfl,by simpa using hc81,hS.clear⟩))
 ·have k1:=aK.agree hS.agree (Nat.zero_le _) hf7.cells
  have k2:=aK.agree hS.agree (Nat.zero_le _) hg7.cells
  refine aO (aO (aR (aI rfl rfl (aN (o':=5) cV rfl rfl rfl (aT isAgg54 rfl (aJ (hS.at_ 1 rfl) rfl) rfl (bX underlying54 rfl rfl (cC rfl rfl rfl (aQ (XF.thenN (bC rfl (fun hc=>?_) (fun hc=>absurd (of_decide_eq_false hc) (by omega))))))))))))
  have hc:=of_decide_eq_true hc
  refine bH (XF.thenN (aO (bI (aO (gP (m:=12) bY hS (by kernel_rfl) (by kernel_rfl) rfl (cB 1 rfl 2 rfl rfl (fun w hw=>aV (o':=5) cV rfl rfl) rfl (bD 2 rfl 70 0 rfl rfl rfl (fun w hw=>aX isAgg54 rfl ((aP hw 0).cell (Nat.zero_le _) (aJ (hS.at_ 1 rfl) rfl))) rfl (cB 3 rfl 6 rfl rfl (fun w hw=>aZ rfl) rfl (aM 4 rfl (isV _) (aH _) (rgV (li:=[(71,_),(72,_)]) rfl (aS rfl) ⟨aL 1 (aA rfl rfl rfl),aL 2 (aA rfl rfl rfl),trivial⟩ (fun w hw=>bA (j:=1) underlying54 sizeOf56 rfl rfl rfl (by omega) rfl) (aD rfl)) (bD 5 rfl 73 3 rfl rfl rfl (fun w hw=>bL (vs:=[_,_,_,_,_,_]) isAgg56 sizeOf56 rfl (aK.agree (aP hw 0) (Nat.zero_le _) (by assumption))) rfl (cB 6 rfl 3 rfl rfl (fun w hw=>aV (o':=5) cV rfl rfl) rfl (bD 7 rfl 75 5 rfl rfl rfl (fun w hw=>aX isAgg54 rfl ((aP hw 0).cell (Nat.zero_le _) (aJ (hS.at_ 0 rfl) rfl))) rfl (cB 8 rfl 6 rfl rfl (fun w hw=>aZ rfl) rfl (aM 9 rfl (isV _) (aH _) (rgV (li:=[(76,_),(77,_)]) rfl (aS rfl) ⟨aL 6 (aA rfl rfl rfl),aL 7 (aA rfl rfl rfl),trivial⟩ (fun w hw=>bA (j:=1) underlying54 sizeOf56 rfl rfl rfl (by omega) rfl) (aD rfl)) (bD 10 rfl 78 8 rfl rfl rfl (fun w hw=>bL (vs:=[_,_,_,_,_,_]) isAgg56 sizeOf56 rfl (aK.agree (aP hw 0) (Nat.zero_le _) (by assumption))) rfl ?_)))))))))))))))
  refine aM 11 rfl (isV (.bool r2)) (aH _) (cP [isV _,isV _] rfl uC (aS rfl) ⟨cD (aL 4 (aA rfl rfl rfl)),cD (aL 9 (aA rfl rfl rfl)),trivial⟩ (fun vs w' hb hh=>by have e:=bZ (us:=[_,_]) hh;subst e;exact (oK (hx2.below (hS.below.trans (hb.mono hS.below.size))) (hy2.below (hS.below.trans (hb.mono hS.below.size))) r2 hr2).mono fun e w2 h=>⟨.bool r2,h.1,rfl,h.2⟩) (aD rfl)) ?_
  refine bD 12 rfl 80 10 rfl rfl rfl (fun w hw=>gU rfl) rfl (dB ?_)
  intro W5 hbR hS'
  clear hS;have hS:=hS';clear hS'
  refine aG (aG (aG (aG (aG (aG (aG (aG (aG (aG (aG (aG (cH (XF.thenN (bC rfl (fun hc=>?_) (fun hc=>?_)))))))))))))))
  ·have hc81:=hc;clear hc
   refine aO (aR (aB rfl rfl (aQ (XF.thenN (bM (XF.blkR (XF.thenR (XF.thenR (XF.blkR (XF.thenR (XF.res (bV results13 rfl) ?_)))))))))))
   exact ⟨bR (nD hr (fun h=>by rw [hr2.2 h.2] at hc81;cases hc81)),hS.below⟩
  ·have hc81:=hc;clear hc
   refine bH (XF.blkN (XF.thenN (aR (aI rfl rfl (cE rfl rfl (IntWalk.i64_in _ (by omega)) rfl (aB rfl rfl (aQ ?_)))))))
   exact XF.round 0 [(2,_),(3,_),(6,_)] (by omega) ⟨rfl,rfl,rfl,trivial⟩ (.inr (.inr ⟨rfl,rfl,hq1,by simpa using hc81,hS.clear⟩))
 ·skip
  refine aO (aO (aR (aI rfl rfl (aN (o':=5) cV rfl rfl rfl (aT isAgg54 rfl (aJ (hS.at_ 1 rfl) rfl) rfl (bX underlying54 rfl rfl (cC rfl rfl rfl (aQ (XF.thenN (bC rfl (fun hc=>absurd (of_decide_eq_true hc) (by omega)) (fun hc=>?_)))))))))))
  have hc:=of_decide_eq_false hc
  refine cW (XF.thenX (XF.thenX (XF.blkX (XF.thenN (aO (aR (aB rfl rfl (aQ (XF.thenN (bM (XF.res (bV results13 rfl) ?_)))))))))))
  exact ⟨bR (Lu hr ⟨hr1.1 hq1,hr2.1 hq2⟩),hS.below⟩
theorem Cv {w:World} {S:PS} {f g:WF} {x y:PX} (hx:XIs w S f x) (hy:XIs w S g y) (r:Bool) (hr:r=true↔x=y):Calls prog 13 #[f.val,g.val] w fun e w'=>e = .returned (.bool r)∧Below w.heap.size w w':=by
 classical
 cases S<;>cases x<;>cases y<;>first | exact hx.elim | exact hy.elim | skip
 ·exact oK hx hy r (by rw [hr];simp)
 ·obtain ⟨ra,ca,rc,cc,pc,fb,fo,f1,f2,rfl,h6,h7,h8,h9⟩:=hx.two
  obtain ⟨ra',ca',rc',cc',pc',gb,go,g1,g2,rfl,h6',h7',h8',h9'⟩:=hy.two
  exact Iu _ _ _ _ _ _ _ _ _ _ _ _ _ _ _ _ _ _ _ _ _ _ _ _ _ _ w h6 h7 h6' h7' h8 h9 h8' h9' r (decide _) (decide _) (by rw [hr];simp) decide_eq_true_iff decide_eq_true_iff
theorem frow2 {W:World} {B:Nat} {T:TypeId} {f g:WF} (h:W.heap[B]?=some (.cells (List.toArray (f.six++g.six)) T (0,0))):tZ W (some ⟨B,0,none⟩) [f,g] :=
 .inr ⟨B,0,rfl,fun i k hi=>by
  match i,hi with
  | 0,hi=>simp at hi;subst hi;exact W6.of_cells (aK.own (j:=0) (m:=6) h rfl)
  | 1,hi=>simp at hi;subst hi;exact W6.of_cells (aK.own (j:=6) (m:=6) h rfl)⟩
set_option linter.unusedSimpArgs false
def pc:Nat→Nat→Nat
 | 0,_=>0
 | n+1,f=>pc n f+(if f.testBit n then 1 else 0)
def eqS:Nat→SV→SV→Bool
 | 0,_,_=>false
 | k+1,.mk f ps,.mk g qs=>decide (f.tag=g.tag) && (decide (f.dim=g.dim) && (decide (ps.length=qs.length) && (ps.zip qs).all fun x=>eqS k x.1 x.2))
def mxS:Nat→SV→Bool
 | 0,_=>false
 | k+1,.mk f ps=>decide (f.len≤9223372036854775807) && ps.all (mxS k)
theorem Cw {j:Nat} {f:SF} {ps:List SV} (h:mxS (j+1) (.mk f ps)=true):f.len≤9223372036854775807∧∀ p∈ps,mxS j p=true:=by
 simp only [mxS,Bool.and_eq_true,decide_eq_true_eq,List.all_eq_true] at h
 exact h
theorem Lv:∀ {j:Nat} {s:SV},smS j s=true→mxS j s=true
 | 0,_,h=>by simp [smS] at h
 | j+1,.mk f ps,h=>by
  simp only [smS,mxS,Bool.and_eq_true,decide_eq_true_eq,List.all_eq_true] at h ⊢
  exact ⟨Nat.le_trans h.1 (by decide),fun p hp=>Lv (h.2 p hp)⟩
theorem sP (k j:Nat) (t n u m:Int) (pa qa:Option Addr) (pl ql pc qc:Nat) (ps qs:List SV) (w:World) (hps:ps.length=pl) (hqs:qs.length=ql) (hrow:Bz w pa ps) (hrow2:Bz w qa qs) (hin:∀ p∈ps,SIn w k p) (hin2:∀ p∈qs,SIn w k p) (hpl:pl≤9223372036854775807) (hsm:∀ p∈ps,mxS j p=true) (ih:∀ (p q:SV) (W:World),SIn W k p→SIn W k q→mxS j p=true→Calls prog 23 #[p.f.val,q.f.val] W fun e w'=>e = .returned (.bool (eqS k p q))∧Below W.heap.size W w') :
  Calls prog 23 #[.agg #[.int .i64 t,.int .i64 n,.slice pa pl pc],.agg #[.int .i64 u,.int .i64 m,.slice qa ql qc]] w (fun e w'=>e = .returned (.bool (eqS (k+1) (.mk ⟨t,n,pa,pl,pc⟩ ps) (.mk ⟨u,m,qa,ql,qc⟩ qs)))∧Below w.heap.size w w'):=by
 refine cG (args:=[.agg #[.int .i64 t,.int .i64 n,.slice pa pl pc],.agg #[.int .i64 u,.int .i64 m,.slice qa ql qc]]) func23 rfl ntmps23 rfl ?_
 have hS:=St.start w
 refine aO (aR (bQ (cs:=[_,_,_]) hS rfl rfl rfl fun B1 W1 hS=>bQ (cs:=[_,_,_]) hS rfl rfl rfl fun B2 W2 hS=>aB rfl rfl (aQ (XF.thenN (aO (aO (aR (aN (o':=0) dZ rfl rfl rfl (aT isAgg22 rfl (aJ (hS.at_ 1 rfl) rfl) rfl (aN (o':=0) dZ rfl rfl rfl (aT isAgg22 rfl (aJ (hS.at_ 0 rfl) rfl) rfl (cN rfl rfl rfl (aI rfl rfl (bG (d:=11) rfl (fun hc=>?_) (fun hc=>?_)))))))))))))))
 ·have hg11:=of_decide_eq_true hc;clear hc
  refine aF (d:=11) rfl rfl rfl rfl (aF (d:=11) rfl rfl rfl rfl (aF (d:=11) rfl rfl rfl rfl (aF (d:=11) rfl rfl rfl rfl (aF (d:=11) rfl rfl rfl rfl (aY rfl rfl rfl (aI rfl rfl (aF (d:=18) rfl rfl rfl rfl (aF (d:=18) rfl rfl rfl rfl (aF (d:=18) rfl rfl rfl rfl (aF (d:=18) rfl rfl rfl rfl (aF (d:=18) rfl rfl rfl rfl (aF (d:=18) rfl rfl rfl rfl (aF (d:=18) rfl rfl rfl rfl (aY rfl rfl rfl (aQ (XF.thenN (cU rfl (aO (aR (aB rfl rfl (aQ (XF.thenN (bM (XF.thenR (XF.res (bV results23 rfl) ?_)))))))))))))))))))))))))
  exact ⟨bR (by simp only [eqS];rw [decide_eq_false (show ¬ t=u by omega)];rfl),hS.below⟩
 ·have hg11:=of_decide_eq_false hc;clear hc
  refine aC (d:=11) rfl rfl (aN (o':=1) eS rfl rfl rfl (aC (d:=11) rfl rfl (aT isAgg3 rfl (aJ (hS.at_ 1 rfl) rfl) rfl (aC (d:=11) rfl rfl (aN (o':=1) eS rfl rfl rfl (aC (d:=11) rfl rfl (aT isAgg3 rfl (aJ (hS.at_ 0 rfl) rfl) rfl (aC (d:=11) rfl rfl (cN rfl rfl rfl (bN rfl rfl rfl (aI rfl rfl (bG (d:=18) rfl (fun hc=>?_) (fun hc=>?_)))))))))))))
  ·have hg18:=of_decide_eq_true hc;clear hc
   refine aF (d:=18) rfl rfl rfl rfl (aF (d:=18) rfl rfl rfl rfl (aF (d:=18) rfl rfl rfl rfl (aF (d:=18) rfl rfl rfl rfl (aF (d:=18) rfl rfl rfl rfl (aF (d:=18) rfl rfl rfl rfl (aF (d:=18) rfl rfl rfl rfl (aY rfl rfl rfl (aQ (XF.thenN (cU rfl (aO (aR (aB rfl rfl (aQ (XF.thenN (bM (XF.thenR (XF.res (bV results23 rfl) ?_))))))))))))))))))
   exact ⟨bR (by simp only [eqS];rw [decide_eq_false (show ¬ n=m by omega)];simp),hS.below⟩
  ·have hg18:=of_decide_eq_false hc;clear hc
   refine aC (d:=18) rfl rfl (aN (o':=2) dM rfl rfl rfl (aC (d:=18) rfl rfl (aT isAgg23 rfl (aJ (hS.at_ 1 rfl) rfl) rfl (aC (d:=18) rfl rfl (bX underlying23 rfl rfl (aC (d:=18) rfl rfl (aN (o':=2) dM rfl rfl rfl (aC (d:=18) rfl rfl (aT isAgg23 rfl (aJ (hS.at_ 0 rfl) rfl) rfl (aC (d:=18) rfl rfl (bX underlying23 rfl rfl (aC (d:=18) rfl rfl (cN rfl rfl rfl (bN rfl rfl rfl (aQ (XF.thenN (bC rfl (fun hc=>?_) (fun hc=>?_))))))))))))))))))
   ·have hc26:=of_decide_eq_true hc;clear hc
    refine aO (aR (aB rfl rfl (aQ (XF.thenN (bM (XF.thenR (XF.res (bV results23 rfl) ?_)))))))
    exact ⟨bR (by simp only [eqS];rw [decide_eq_false (show ¬ ps.length=qs.length by omega)];simp),hS.below⟩
   ·have hc26:=of_decide_eq_false hc;clear hc
    refine bH (XF.thenN (aO (aO (aR (aB rfl rfl (aQ (XF.thenN (bI (cX (fun q l W=>∃ i:Nat,i≤pl∧q=pl - i∧l=[(2,.pointer (some ⟨B1,0,none⟩)),(3,.pointer (some ⟨B2,0,none⟩)),(5,.int .i64 (i:Int))]∧((ps.zip qs).take i).all (fun x=>eqS k x.1 x.2)=true∧St w [(B2,[.int .i64 u,.int .i64 m,.slice qa ql qc],25),(B1,[.int .i64 t,.int .i64 n,.slice pa pl pc],25)] [] [] W) (pl - 0) ([(2,_),(3,_),(5,_)]) ⟨rfl,rfl,rfl,trivial⟩ (⟨0,Nat.zero_le _,rfl,rfl,rfl,hS.clear⟩) ?_)))))))))
    clear hS
    rintro q l W ⟨i,hi,rfl,rfl,hall,hS⟩
    refine aO (aO (aR (aI rfl rfl (aN (o':=2) dM rfl rfl rfl (aT isAgg23 rfl (aJ (hS.at_ 1 rfl) rfl) rfl (bX underlying23 rfl rfl (cC rfl rfl rfl (aQ (XF.thenN (bC rfl (fun hc=>?_) (fun hc=>?_)))))))))))
    ·have hc31:=of_decide_eq_true hc;clear hc
     have hk:i < pl:=by omega
     obtain ⟨p,hp⟩:∃ p,ps[i]?=some p:=⟨ps[i]'(by omega),List.getElem?_eq_getElem _⟩
     obtain ⟨q,hq⟩:∃ q,qs[i]?=some q:=⟨qs[i]'(by omega),List.getElem?_eq_getElem _⟩
     have hz:(ps.zip qs)[i]?=some (p,q):=List.getElem?_zip_eq_some.2 ⟨hp,hq⟩
     obtain ⟨b,off,rfl,hb,h6⟩:=hrow.at_ hp
     obtain ⟨b2,off2,rfl,hb2,h7⟩:=hrow2.at_ hq
     have k1:=aK.agree hS.agree (Nat.zero_le _) h6.cells
     have k2:=aK.agree hS.agree (Nat.zero_le _) h7.cells
     refine bH (XF.thenN (aO (bI (aO (gP (m:=12) bY hS (by kernel_rfl) (by kernel_rfl) rfl (cB 1 rfl 2 rfl rfl (fun w hw=>aV (o':=2) dM rfl rfl) rfl (bD 2 rfl 34 0 rfl rfl rfl (fun w hw=>aX isAgg23 rfl ((aP hw 0).cell (Nat.zero_le _) (aJ (hS.at_ 1 rfl) rfl))) rfl (cB 3 rfl 5 rfl rfl (fun w hw=>aZ rfl) rfl (aM 4 rfl (isV _) (aH _) (rgV (li:=[(35,_),(36,_)]) rfl (aS rfl) ⟨aL 1 (aA rfl rfl rfl),aL 2 (aA rfl rfl rfl),trivial⟩ (fun w hw=>bA  underlying23 sizeOf25 rfl rfl rfl (by omega) rfl) (aD rfl)) (bD 5 rfl 37 3 rfl rfl rfl (fun w hw=>bL (vs:=[_,_,_]) isAgg25 sizeOf25 rfl (aK.agree (aP hw 0) (Nat.zero_le _) (by assumption))) rfl (cB 6 rfl 3 rfl rfl (fun w hw=>aV (o':=2) dM rfl rfl) rfl (bD 7 rfl 39 5 rfl rfl rfl (fun w hw=>aX isAgg23 rfl ((aP hw 0).cell (Nat.zero_le _) (aJ (hS.at_ 0 rfl) rfl))) rfl (cB 8 rfl 5 rfl rfl (fun w hw=>aZ rfl) rfl (aM 9 rfl (isV _) (aH _) (rgV (li:=[(40,_),(41,_)]) rfl (aS rfl) ⟨aL 6 (aA rfl rfl rfl),aL 7 (aA rfl rfl rfl),trivial⟩ (fun w hw=>bA  underlying23 sizeOf25 rfl rfl rfl (by omega) rfl) (aD rfl)) (bD 10 rfl 42 8 rfl rfl rfl (fun w hw=>bL (vs:=[_,_,_]) isAgg25 sizeOf25 rfl (aK.agree (aP hw 0) (Nat.zero_le _) (by assumption))) rfl ?_)))))))))))))))
     refine aM 11 rfl (isV (.bool (eqS k p q))) (aH _) (cP [isV _,isV _] rfl zF (aS rfl) ⟨cD (aL 4 (aA rfl rfl rfl)),cD (aL 9 (aA rfl rfl rfl)),trivial⟩ (fun vs w' hb hh=>by have e:=bZ (us:=[_,_]) hh;subst e;exact (ih p q _ (SIn.below (hS.below.trans (hb.mono hS.below.size)) (hin p (List.mem_of_getElem? hp))) (SIn.below (hS.below.trans (hb.mono hS.below.size)) (hin2 q (List.mem_of_getElem? hq))) (hsm p (List.mem_of_getElem? hp))).mono fun e w2 h=>⟨_,h.1,rfl,h.2⟩) (aD rfl)) ?_
     refine bD 12 rfl 44 10 rfl rfl rfl (fun w hw=>gU rfl) rfl (dB ?_)
     intro W3 hbR hS'
     clear hS;have hS:=hS';clear hS'
     refine aG (aG (aG (aG (aG (aG (aG (aG (aG (aG (aG (aG (cH (XF.thenN (bC rfl (fun hc=>?_) (fun hc=>?_)))))))))))))))
     ·have hc45:=hc;clear hc
      refine aO (aR (aB rfl rfl (aQ (XF.thenN (bM (XF.blkR (XF.thenR (XF.thenR (XF.blkR (XF.thenR (XF.res (bV results23 rfl) ?_)))))))))))
      exact ⟨bR (by simp only [eqS];rw [cF hz (by simpa using hc45)];simp),hS.below⟩
     ·have hc45:=hc;clear hc
      refine bH (XF.blkN (XF.thenN (aR (aI rfl rfl (cE rfl rfl (IntWalk.i64_in _ (by omega)) rfl (aB rfl rfl (aQ ?_)))))))
      exact XF.round (pl - (i+1)) [(2,_),(3,_),(5,_)] (by omega) ⟨rfl,rfl,rfl,trivial⟩ ⟨i+1,by omega,rfl,rfl,cQ hz hall (by simpa using hc45),hS.clear⟩
    ·have hc31:=of_decide_eq_false hc;clear hc
     refine cW (XF.thenX (XF.thenX (XF.blkX (XF.thenN (aO (aR (aB rfl rfl (aQ (XF.thenN (bM (XF.res (bV results23 rfl) ?_)))))))))))
     rw [List.take_of_length_le (by rw [List.length_zip];omega)] at hall
     exact ⟨bR (by simp only [eqS];rw [hall,decide_eq_true (show t=u by omega),decide_eq_true (show n=m by omega),decide_eq_true (show ps.length=qs.length by omega)];rfl),hS.below⟩
theorem tJ:∀ (k j:Nat) (s t:SV) (w:World),SIn w k s→SIn w k t→mxS j s=true→Calls prog 23 #[s.f.val,t.f.val] w fun e w'=>e = .returned (.bool (eqS k s t))∧Below w.heap.size w w'
 | 0,_,s,t,w,hs,ht,_=>hs.elim
 | k+1,0,s,t,w,hs,ht,h=>by simp [mxS] at h
 | k+1,j+1,.mk ⟨t,n,pa,pl,pc⟩ ps,.mk ⟨u,m,qa,ql,qc⟩ qs,w,hs,ht,h=>sP k j t n u m pa qa pl ql pc qc ps qs w hs.1 ht.1 hs.2.1 ht.2.1 hs.2.2 ht.2.2 (Cw h).1 (Cw h).2 (fun p q W hp hq hj=>tJ k j p q W hp hq hj)
theorem pW (k j:Nat) (s t:SV) (w:World) (hs:SIn w k s) (ht:SIn w k t) (h:smS j s=true):Calls prog 23 #[s.f.val,t.f.val] w fun e w'=>e = .returned (.bool (eqS k s t))∧Below w.heap.size w w':=tJ k j s t w hs ht (Lv h)
theorem yG {S:PS} {sf:SF} {w:World} (hs:SIs w S sf) (hok:S.ok):Calls prog 40 #[sf.val] w fun e w'=>e = .returned (.int .i64 0)∧Below w.heap.size w w':=by
 obtain ⟨s,rfl,h,he⟩:=SIs.sin hs hok
 exact pI 2 s 0 w h he
attribute [local go_sem ↓] Go.wp_at_zero Go.wp_at_succ
theorem Lw {w:World} {ds da:Nat} {s:SV} {x:WV} (hs:SIn w ds s) (hse:dD s=0) (hx:WIn w da x) :
  Calls prog 65 #[s.f.val,x.f.val] w fun e w'=>e = .returned (.bool (okW s x))∧Below w.heap.size w w':=by
 match ds,da,s,x,hs,hx with
 | ds+1,da+1,.mk f ps,.mk g qs,hs,hx =>
  by_cases hp:bS f.tag f.dim f.len=true
  ·refine nB f.tag f.dim f.a f.len f.cap g hp (Nat.zero_le _) w hx.1 _ ?_
   unfold okW;exact (if_pos hp).symm
  ·have hse':(if bS f.tag f.dim f.len=true then (0:Int) else if f.tag=5∧f.dim=0∧ps.length=2∧ps.all SV.pl=true then 0 else 50)=0:=hse
   rw [if_neg hp] at hse'
   split at hse'
   ·rename_i hq
    obtain ⟨h5,h0,h2,hall⟩:=hq
    obtain ⟨t,n,a,l,c⟩:=f
    dsimp only at h5 h0 hp
    subst h5;subst h0
    obtain ⟨p,q,rfl⟩:=qJ h2
    have hl:2=l:=hs.1
    subst hl
    simp only [List.all_cons,List.all_nil,Bool.and_true,Bool.and_eq_true] at hall
    refine Ip ds a c p q g qs w hs hall.1 hall.2 da hx (fun _ _=>Nat.zero_le _) _ ?_
    unfold okW;exact (if_neg hp).symm
   ·cases hse'
theorem Lx {w:World} {ds da:Nat} {s:SV} {x:WV} (hs:SIn w ds s) (hse:dD s=0) (hx:WIn w da x) :
  Calls prog 58 #[s.f.val,x.f.val] w fun e w'=>e = .returned (.bool (okW s x))∧Below w.heap.size w w':=by
 match ds,da,s,x,hs,hx with
 | ds+1,da+1,.mk f ps,.mk g qs,hs,hx =>
  by_cases hp:bS f.tag f.dim f.len=true
  ·refine nC f.tag f.dim f.a f.len f.cap g hp (Nat.zero_le _) w hx.1 _ ?_
   unfold okW;exact (if_pos hp).symm
  ·have hse':(if bS f.tag f.dim f.len=true then (0:Int) else if f.tag=5∧f.dim=0∧ps.length=2∧ps.all SV.pl=true then 0 else 50)=0:=hse
   rw [if_neg hp] at hse'
   split at hse'
   ·rename_i hq
    obtain ⟨h5,h0,h2,hall⟩:=hq
    obtain ⟨t,n,a,l,c⟩:=f
    dsimp only at h5 h0 hp
    subst h5;subst h0
    obtain ⟨p,q,rfl⟩:=qJ h2
    have hl:2=l:=hs.1
    subst hl
    simp only [List.all_cons,List.all_nil,Bool.and_true,Bool.and_eq_true] at hall
    refine Iq ds a c p q g qs w hs hall.1 hall.2 da hx (fun _ _=>Nat.zero_le _) _ ?_
    unfold okW;exact (if_neg hp).symm
   ·cases hse'
end
section
open Go.RowKit
structure RV where
 p:Int
 g:Int
 q:Int
 wa:Option Addr
 wl:Nat
 wc:Nat
 ws:List Int
 x:WV
abbrev RV.val (r:RV):Value:=.agg #[.int .i64 r.p,.int .i64 r.g,.int .i64 r.q,.slice r.wa r.wl r.wc,.bool r.x.f.z,.int .i64 r.x.f.c,.int .u64 (r.x.f.g:Int),.slice r.x.f.ra r.x.f.rl r.x.f.rc,.slice r.x.f.ca r.x.f.cl r.x.f.cc,.slice r.x.f.pa r.x.f.pl r.x.f.pc]
abbrev RV.ten (r:RV):List Value:=[.int .i64 r.p,.int .i64 r.g,.int .i64 r.q,.slice r.wa r.wl r.wc,.bool r.x.f.z,.int .i64 r.x.f.c,.int .u64 (r.x.f.g:Int),.slice r.x.f.ra r.x.f.rl r.x.f.rc,.slice r.x.f.ca r.x.f.cl r.x.f.cc,.slice r.x.f.pa r.x.f.pl r.x.f.pc]
structure RIn (w:World) (d:Nat) (r:RV):Prop where
 row:Row w r.wa r.ws
 len:r.ws.length=r.wl
 x:WIn w d r.x
def Cx (w:World) (a:Option Addr) (rs:List RV):Prop :=
 rs=[]∨∃ b off,a=some ⟨b,off,none⟩∧∀ (i:Nat) r,rs[i]?=some r→aK w b (off+i * 10) r.ten
structure PV where
 s:SV
 st:Int
 sy:Int
 ra:Option Addr
 rl:Nat
 rc:Nat
 rs:List RV
abbrev PV.val (p:PV):Value:=.agg #[.int .i64 p.s.f.tag,.int .i64 p.s.f.dim,.slice p.s.f.a p.s.f.len p.s.f.cap,.int .i64 p.st,.int .i64 p.sy,.slice p.ra p.rl p.rc]
abbrev PV.six (p:PV):List Value:=[.int .i64 p.s.f.tag,.int .i64 p.s.f.dim,.slice p.s.f.a p.s.f.len p.s.f.cap,.int .i64 p.st,.int .i64 p.sy,.slice p.ra p.rl p.rc]
structure PvIn (w:World) (ds d:Nat) (p:PV):Prop where
 s:SIn w ds p.s
 row:Cx w p.ra p.rs
 len:p.rs.length=p.rl
 rin:∀ r∈p.rs,RIn w d r
structure CV where
 p:Int
 wa:Option Addr
 wl:Nat
 wc:Nat
 ws:List Int
abbrev CV.val (c:CV):Value:=.agg #[.int .i64 c.p,.slice c.wa c.wl c.wc]
structure CIn (w:World) (c:CV):Prop where
 row:Row w c.wa c.ws
 len:c.ws.length=c.wl
theorem RIn.below {w w':World} {d:Nat} {r:RV} (h:RIn w d r) (hb:Below w.heap.size w w'):RIn w' d r:=⟨h.row.below hb,h.len,WIn.below hb h.x⟩
theorem CIn.below {w w':World} {c:CV} (h:CIn w c) (hb:Below w.heap.size w w'):CIn w' c:=⟨h.row.below hb,h.len⟩
theorem Cx.at_ {w:World} {a:Option Addr} {rs:List RV} (h:Cx w a rs) {i:Nat} {r:RV} (hi:rs[i]?=some r):∃ b off,a=some ⟨b,off,none⟩∧aK w b (off+i * 10) r.ten:=by
 rcases h with rfl | ⟨b,off,ha,hc⟩
 ·simp at hi
 ·exact ⟨b,off,ha,hc i r hi⟩
theorem Cx.below {w w':World} {a:Option Addr} {rs:List RV} (h:Cx w a rs) (hb:Below w.heap.size w w'):Cx w' a rs:=by
 rcases h with h | ⟨b,off,rfl,hc⟩
 ·exact .inl h
 ·exact .inr ⟨b,off,rfl,fun i r hi=>aK.agree (aP hb 0) (Nat.zero_le _) (hc i r hi)⟩
theorem PvIn.below {w w':World} {ds d:Nat} {p:PV} (h:PvIn w ds d p) (hb:Below w.heap.size w w'):PvIn w' ds d p:=⟨SIn.below hb h.s,h.row.below hb,h.len,fun r hr=>(h.rin r hr).below hb⟩
theorem Row.at1 {w:World} {a:Option Addr} {zs:List Int} (h:Row w a zs) {i:Nat} (hi:i < zs.length):∃ b off y,a=some ⟨b,off,none⟩∧zs[i]?=some y∧w.cell? ⟨b,off+i * 1,none⟩=some (.int .i64 y):=by
 rcases h with rfl | ⟨b,off,ha,hc⟩
 ·simp at hi
 ·refine ⟨b,off,zs[i],ha,by simp [hi],?_⟩
  rw [Nat.mul_one]
  have:=hc i hi
  rw [this];simp [List.getD,List.getElem?_eq_getElem hi]
def inQ (x n:Int):Bool:=decide (0≤x) && decide (x < n)
def fK (st sy:Int) (r:RV):Bool:=inQ r.p st && (inQ r.q st && (inQ r.g sy && (decide (r.wl≤4096) && r.ws.all (fun y=>inQ y sy))))
def wtE (s:SV):List RV→Int
 | []=>0
 | r::rs=>if iR s r.x=0 then wtE s rs else iR s r.x
theorem Ex {s:SV}:∀ {rs:List RV} {i:Nat} {r:RV},rs[i]?=some r→(rs.take i).all (fun r=>decide (iR s r.x=0))=true→iR s r.x≠0→wtE s rs=iR s r.x
 | [],_,_,h,_,_=>by simp at h
 | a::rs,0,r,h,_,hn=>by
  simp at h;subst h
  unfold wtE;rw [if_neg hn]
 | a::rs,i+1,r,h,ha,hn=>by
  simp only [List.take_succ_cons,List.all_cons,Bool.and_eq_true,decide_eq_true_eq] at ha
  unfold wtE;rw [if_pos ha.1]
  exact Ex (by simpa using h) ha.2 hn
theorem uO {s:SV}:∀ {rs:List RV},rs.all (fun r=>decide (iR s r.x=0))=true→wtE s rs=0
 | [],_=>rfl
 | a::rs,h=>by
  simp only [List.all_cons,Bool.and_eq_true,decide_eq_true_eq] at h
  unfold wtE;rw [if_pos h.1]
  exact uO h.2
def dX (p:PV):Int :=
 if dD p.s≠0 then dD p.s else if 16384 < p.rl then 3 else if p.st < 0∨4096 < p.st∨p.sy < 0∨4096 < p.sy then 110 else if p.rs.all (fK p.st p.sy) then wtE p.s p.rs else 110
def iS (p:PV) (c:CV):Bool:=inQ c.p p.st && (decide (c.wl≤4096) && c.ws.all (fun y=>inQ y p.sy))
def fA (p:PV) (c:CV):Int:=if dX p≠0 then dX p else if iS p c then 0 else 120
theorem vS (ds da:Nat) (s:SV) (x:WV) (w:World) (hs:SIn w ds s) (hx:WIn w da x) (b:Nat) (hb0:aK w b 0 x.f.six) :
  Calls prog 55 #[s.f.val,.slice (some ⟨b,0,none⟩) 1 1] w (fun e w'=>e = .returned (.int .i64 (iR s x))∧Below w.heap.size w w'):=by
 refine cG (args:=[s.f.val,.slice (some ⟨b,0,none⟩) 1 1]) func55 rfl ntmps55 rfl ?_
 have hS:=St.start w
 refine aO (aR (bQ (cs:=[_,_,_]) hS rfl rfl rfl fun B1 W1 hS=>aB rfl rfl (aQ (XF.thenN (aO (aO (aR (aU (vs:=[_,_,_]) isAgg25 sizeOf25 rfl (aK.own (j:=0) (m:=3) (hS.at_ 0 rfl) rfl) rfl (bT (vs:=[_]) hS uB rfl (sJ ds s _ _ (SIn.below hS.below hs) rfl) rfl fun W2 hS=>aB rfl rfl (aQ (XF.thenN (aO (aR (aI rfl rfl (cN rfl rfl rfl (aQ (XF.thenN (bC rfl (fun hc=>?_) (fun hc=>?_)))))))))))))))))))
 ·have hc11:=of_decide_eq_true hc;clear hc
  refine aO (aR (aI rfl rfl (aB rfl rfl (aQ (XF.thenN (bM (XF.thenR (XF.res (bV results55 rfl) ?_))))))))
  exact ⟨cL (by unfold iR;rw [if_neg hc11]),hS.below⟩
 ·have hc11:=of_decide_eq_false hc;clear hc
  have hse:dD s=0:=by omega
  refine bH (XF.thenN (aO (aO (aR (aI rfl rfl (bX underlying54 rfl rfl (aI rfl rfl (aQ (XF.thenN (bI (cX (fun q l W=>∃ k:Nat,k≤1∧q=1 - k∧l=[(2,.pointer (some ⟨B1,0,none⟩)),(13,.slice (some ⟨b,0,none⟩) 1 1),(14,.int .i64 1),(15,.int .i64 (k:Int))]∧(1≤k→okW s x=true)∧St w [(B1,[.int .i64 s.f.tag,.int .i64 s.f.dim,.slice s.f.a s.f.len s.f.cap],25)] [] [] W) (1 - 0) ([(2,_),(13,_),(14,_),(15,_)]) ⟨rfl,rfl,rfl,rfl,trivial⟩ (⟨0,Nat.zero_le _,rfl,rfl,fun h=>by omega,hS.clear⟩) ?_)))))))))))
  clear hS
  rintro q l W ⟨k,hk1,rfl,rfl,hok,hS⟩
  refine aO (aR (cC rfl rfl rfl (aQ (XF.thenN (aO (bC rfl (fun hc=>?_) (fun hc=>?_)))))))
  ·have hc16:=of_decide_eq_true hc;clear hc
   obtain rfl:k=0:=by omega
   have k1:=aK.agree hS.agree (Nat.zero_le _) hb0
   refine bH (XF.thenN (aO (bI (aO (aR (cJ  underlying54 sizeOf56 rfl rfl rfl (by omega) rfl rfl (aU (vs:=[_,_,_,_,_,_]) isAgg56 sizeOf56 rfl (by assumption) rfl (bU (cs:=[_,_,_,_,_,_]) hS zeroValue56 rfl rfl fun B3 W3 hS=>bB (i:=0) (vs:=[_,_,_,_,_,_]) (cs':=[_,_,_,_,_,_]) (O':=[_,_]) hS sizeOf56 rfl rfl rfl rfl rfl rfl rfl fun W4 hS=>aQ (XF.thenN (aO (aR (aU (vs:=[_,_,_]) isAgg25 sizeOf25 rfl (aK.own (j:=0) (m:=3) (hS.at_ 1 rfl) rfl) rfl (aU (vs:=[_,_,_,_,_,_]) isAgg56 sizeOf56 rfl (aK.own (j:=0) (m:=6) (hS.at_ 0 rfl) rfl) rfl (bT (vs:=[_,_]) hS uE rfl (Lw (SIn.below hS.below hs) hse (WIn.below hS.below hx)) rfl fun W5 hS=>dV rfl rfl (aQ (XF.thenN (bC rfl (fun hc=>?_) (fun hc=>?_))))))))))))))))))
   ·have hc22:=hc;clear hc
    refine aO (aR (aB rfl rfl (aQ (XF.thenN (bM (XF.blkR (XF.thenR (XF.thenR (XF.blkR (XF.thenR (XF.res (bV results55 rfl) ?_)))))))))))
    exact ⟨cL (by unfold iR;rw [if_pos hse,if_neg (by simpa using hc22)]),hS.below⟩
   ·have hc22:=hc;clear hc
    refine bH (XF.blkN (XF.thenN (aR (cE rfl rfl (IntWalk.i64_in _ (by omega)) rfl (aI rfl rfl (aQ ?_))))))
    exact XF.round (1 - 1) [(2,_),(13,_),(14,_),(15,_)] (by omega) ⟨rfl,rfl,rfl,rfl,trivial⟩ ⟨1,by omega,rfl,rfl,fun _=>by simpa using hc22,hS.tail.clear⟩
  ·have hc16:=of_decide_eq_false hc;clear hc
   refine cW (XF.thenX (XF.thenX (XF.blkX (XF.thenN (aO (aR (aB rfl rfl (aQ (XF.thenN (bM (XF.res (bV results55 rfl) ?_)))))))))))
   exact ⟨cL (by unfold iR;rw [if_pos hse,if_pos (hok (by omega))]),hS.below⟩
theorem Cy (ds da:Nat) (s:SV) (x:WV) (w:World) (hs:SIn w ds s) (hx:WIn w da x) :
  Calls prog 36 #[s.f.val,x.f.val] w (fun e w'=>e = .returned (.int .i64 (iR s x))∧Below w.heap.size w w'):=by
 refine cG (args:=[s.f.val,x.f.val]) func36 rfl ntmps36 rfl ?_
 have hS:=St.start w
 refine aO (aR (bQ (cs:=[_,_,_]) hS rfl rfl rfl fun B1 W1 hS=>bQ (cs:=[_,_,_,_,_,_]) hS rfl rfl rfl fun B2 W2 hS=>aB rfl rfl (aQ (XF.thenN (aO (aR (aU (vs:=[_,_,_]) isAgg25 sizeOf25 rfl (aK.own (j:=0) (m:=3) (hS.at_ 1 rfl) rfl) rfl (aU (vs:=[_,_,_,_,_,_]) isAgg56 sizeOf56 rfl (aK.own (j:=0) (m:=6) (hS.at_ 0 rfl) rfl) rfl (dE (us:=[(0,.agg (List.toArray [_,_,_,_,_,_]))]) hS underlying54 sizeOf56 zeroValue56 rfl rfl rfl (uA _ _ _ _ _ _) rfl fun B3 W3 hS=>bT (vs:=[_,_]) hS goes_55 rfl (vS ds da s x _ (SIn.below hS.below hs) (WIn.below hS.below hx) _ (aK.own (j:=0) (m:=6) (hS.at_ 0 rfl) rfl)) rfl fun W4 hS=>aB rfl rfl (aQ (XF.thenN (bM (XF.res (bV results36 rfl) ?_)))))))))))))
 exact ⟨rfl,hS.below⟩
theorem tK (ds da:Nat) (s:SV) (x:WV) (w:World) (hs:SIn w ds s) (hx:WIn w da x) :
  Calls prog 42 #[s.f.val,x.f.val] w (fun e w'=>e = .returned (.int .i64 (iR s x))∧Below w.heap.size w w'):=by
 refine cG (args:=[s.f.val,x.f.val]) func42 rfl ntmps42 rfl ?_
 have hS:=St.start w
 refine aO (aR (bQ (cs:=[_,_,_]) hS rfl rfl rfl fun B1 W1 hS=>bQ (cs:=[_,_,_,_,_,_]) hS rfl rfl rfl fun B2 W2 hS=>aB rfl rfl (aQ (XF.thenN (aO (aR (aU (vs:=[_,_,_]) isAgg25 sizeOf25 rfl (aK.own (j:=0) (m:=3) (hS.at_ 1 rfl) rfl) rfl (bT (vs:=[_]) hS rG rfl (pI ds s _ _ (SIn.below hS.below hs) rfl) rfl fun W3 hS=>aB rfl rfl (aQ (XF.thenN (aO (aO (aR (aI rfl rfl (cN rfl rfl rfl (aQ (XF.thenN (bC rfl (fun hc=>?_) (fun hc=>?_)))))))))))))))))))
 ·have hc9:=of_decide_eq_true hc;clear hc
  refine aO (aR (aI rfl rfl (aB rfl rfl (aQ (XF.thenN (bM (XF.thenR (XF.res (bV results42 rfl) ?_))))))))
  exact ⟨cL (by unfold iR;rw [if_neg hc9]),hS.below⟩
 ·have hc9:=of_decide_eq_false hc;clear hc
  have hse:dD s=0:=by omega
  refine bH (XF.thenN (aO (aO (aR (aU (vs:=[_,_,_]) isAgg25 sizeOf25 rfl (aK.own (j:=0) (m:=3) (hS.at_ 1 rfl) rfl) rfl (aU (vs:=[_,_,_,_,_,_]) isAgg56 sizeOf56 rfl (aK.own (j:=0) (m:=6) (hS.at_ 0 rfl) rfl) rfl (bT (vs:=[_,_]) hS uD rfl (Lx (SIn.below hS.below hs) hse (WIn.below hS.below hx)) rfl fun W4 hS=>dV rfl rfl (aQ (XF.thenN (bC rfl (fun hc=>?_) (fun hc=>?_)))))))))))
  ·have hc14:=hc;clear hc
   refine aO (aR (aB rfl rfl (aQ (XF.thenN (bM (XF.thenR (XF.res (bV results42 rfl) ?_)))))))
   exact ⟨cL (by unfold iR;rw [if_pos hse,if_neg (by simpa using hc14)]),hS.below⟩
  ·have hc14:=hc;clear hc
   refine bH (XF.thenN (aO (aR (aB rfl rfl (aQ (XF.thenN (bM (XF.res (bV results42 rfl) ?_))))))))
   exact ⟨cL (by unfold iR;rw [if_pos hse,if_pos (by simpa using hc14)]),hS.below⟩
theorem vT (P0:PV) (n:Int) (w:World) :
  Calls prog 53 #[P0.val,.int .i64 n] w (fun e w'=>e = .returned (.bool (inQ n P0.st))∧Below w.heap.size w w'):=by
 refine cG (args:=[P0.val,.int .i64 n]) func53 rfl ntmps53 rfl ?_
 have hS:=St.start w
 refine aO (aR (bQ (cs:=[_,_,_,_,_,_]) hS rfl rfl rfl fun B1 W1 hS=>aB rfl rfl (aQ (XF.thenN (aO (aR (aI rfl rfl (gV rfl rfl rfl (aI rfl rfl (bG (d:=7) rfl (fun hc=>?_) (fun hc=>?_)))))))))))
 ·have hg7:=of_decide_eq_true hc;clear hc
  refine aC (d:=7) rfl rfl (aI rfl rfl (aC (d:=7) rfl rfl (aN (o':=3) eT rfl rfl rfl (aC (d:=7) rfl rfl (aT isAgg3 rfl (aJ (hS.at_ 0 rfl) rfl) rfl (aC (d:=7) rfl rfl (cC rfl rfl rfl (aY rfl rfl rfl (aB rfl rfl (aQ (XF.thenN (bM (XF.res (bV results53 rfl) ?_)))))))))))))
  exact ⟨bR (by simp [inQ,show 0≤n from hg7]),hS.below⟩
 ·have hg7:=of_decide_eq_false hc;clear hc
  refine aF (d:=7) rfl rfl rfl rfl (aF (d:=7) rfl rfl rfl rfl (aF (d:=7) rfl rfl rfl rfl (aF (d:=7) rfl rfl rfl rfl (bN rfl rfl rfl (aB rfl rfl (aQ (XF.thenN (bM (XF.res (bV results53 rfl) ?_)))))))))
  exact ⟨bR (by simp [inQ];omega),hS.below⟩
theorem tL (P0:PV) (n:Int) (w:World) :
  Calls prog 54 #[P0.val,.int .i64 n] w (fun e w'=>e = .returned (.bool (inQ n P0.sy))∧Below w.heap.size w w'):=by
 refine cG (args:=[P0.val,.int .i64 n]) func54 rfl ntmps54 rfl ?_
 have hS:=St.start w
 refine aO (aR (bQ (cs:=[_,_,_,_,_,_]) hS rfl rfl rfl fun B1 W1 hS=>aB rfl rfl (aQ (XF.thenN (aO (aR (aI rfl rfl (gV rfl rfl rfl (aI rfl rfl (bG (d:=7) rfl (fun hc=>?_) (fun hc=>?_)))))))))))
 ·have hg7:=of_decide_eq_true hc;clear hc
  refine aC (d:=7) rfl rfl (aI rfl rfl (aC (d:=7) rfl rfl (aN (o':=4) eE rfl rfl rfl (aC (d:=7) rfl rfl (aT isAgg3 rfl (aJ (hS.at_ 0 rfl) rfl) rfl (aC (d:=7) rfl rfl (cC rfl rfl rfl (aY rfl rfl rfl (aB rfl rfl (aQ (XF.thenN (bM (XF.res (bV results54 rfl) ?_)))))))))))))
  exact ⟨bR (by simp [inQ,show 0≤n from hg7]),hS.below⟩
 ·have hg7:=of_decide_eq_false hc;clear hc
  refine aF (d:=7) rfl rfl rfl rfl (aF (d:=7) rfl rfl rfl rfl (aF (d:=7) rfl rfl rfl rfl (aF (d:=7) rfl rfl rfl rfl (bN rfl rfl rfl (aB rfl rfl (aQ (XF.thenN (bM (XF.res (bV results54 rfl) ?_)))))))))
  exact ⟨bR (by simp [inQ];omega),hS.below⟩
theorem Al (n m:Int) (w:World) :
  Calls prog 57 #[.int .i64 n,.int .i64 m] w (fun e w'=>e = .returned (.bool (inQ n m))∧Below w.heap.size w w'):=by
 refine cG (args:=[.int .i64 n,.int .i64 m]) func57 rfl ntmps57 rfl ?_
 have hS:=St.start w
 refine aO (aR (aB rfl rfl (aQ (XF.thenN (aO (aR (aI rfl rfl (gV rfl rfl rfl (aI rfl rfl (bG (d:=7) rfl (fun hc=>?_) (fun hc=>?_)))))))))))
 ·have hg7:=of_decide_eq_true hc;clear hc
  refine aC (d:=7) rfl rfl (aI rfl rfl (aC (d:=7) rfl rfl (aI rfl rfl (aC (d:=7) rfl rfl (cC rfl rfl rfl (aY rfl rfl rfl (aB rfl rfl (aQ (XF.thenN (bM (XF.res (bV results57 rfl) ?_)))))))))))
  exact ⟨bR (by simp [inQ,show 0≤n from hg7]),hS.below⟩
 ·have hg7:=of_decide_eq_false hc;clear hc
  refine aF (d:=7) rfl rfl rfl rfl (aF (d:=7) rfl rfl rfl rfl (aF (d:=7) rfl rfl rfl rfl (bN rfl rfl rfl (aB rfl rfl (aQ (XF.thenN (bM (XF.res (bV results57 rfl) ?_))))))))
  exact ⟨bR (by simp [inQ];omega),hS.below⟩
theorem ruleA_c (P0:PV) (p g q:Int) (wa:Option Addr) (wl wc:Nat) (ws:List Int) (x:WV) (w:World) (hrow:Row w wa ws) (hlen:ws.length=wl) :
  Calls prog 35 #[P0.val,.agg #[.int .i64 p,.int .i64 g,.int .i64 q,.slice wa wl wc,.bool x.f.z,.int .i64 x.f.c,.int .u64 (x.f.g:Int),.slice x.f.ra x.f.rl x.f.rc,.slice x.f.ca x.f.cl x.f.cc,.slice x.f.pa x.f.pl x.f.pc]] w (fun e w'=>e = .returned (.bool (fK P0.st P0.sy ⟨p,g,q,wa,wl,wc,ws,x⟩))∧Below w.heap.size w w'):=by
 refine cG (args:=[P0.val,.agg #[.int .i64 p,.int .i64 g,.int .i64 q,.slice wa wl wc,.bool x.f.z,.int .i64 x.f.c,.int .u64 (x.f.g:Int),.slice x.f.ra x.f.rl x.f.rc,.slice x.f.ca x.f.cl x.f.cc,.slice x.f.pa x.f.pl x.f.pc]]) func35 rfl ntmps35 rfl ?_
 have hS:=St.start w
 refine aO (aR (bQ (cs:=[_,_,_,_,_,_]) hS rfl rfl rfl fun B1 W1 hS=>bQ (cs:=[_,_,_,_,_,_,_,_,_,_]) hS rfl rfl rfl fun B2 W2 hS=>aB rfl rfl (aQ (XF.thenN (aO (aO (aR (aU (vs:=[_,_,_,_,_,_]) isAgg28 sizeOf28 rfl (aK.own (j:=0) (m:=6) (hS.at_ 1 rfl) rfl) rfl (aN (o':=0) Ge rfl rfl rfl (aT isAgg3 rfl (aJ (hS.at_ 0 rfl) rfl) rfl (bT (vs:=[_,_]) hS Gj rfl (vT P0 p _) rfl fun W3 hS=>dV rfl rfl (aI rfl rfl (bG (d:=12) rfl (fun hc=>?_) (fun hc=>?_))))))))))))))
 ·have hg12:=hc;clear hc
  have e1:inQ p P0.st=false:=by simpa using hg12
  refine aF (d:=12) rfl rfl rfl rfl (aF (d:=12) rfl rfl rfl rfl (aF (d:=12) rfl rfl rfl rfl (aF (d:=12) rfl rfl rfl rfl (aF (d:=12) rfl rfl rfl rfl (aY rfl rfl rfl (aI rfl rfl (aF (d:=19) rfl rfl rfl rfl (aF (d:=19) rfl rfl rfl rfl (aF (d:=19) rfl rfl rfl rfl (aF (d:=19) rfl rfl rfl rfl (aF (d:=19) rfl rfl rfl rfl (aY rfl rfl rfl (aI rfl rfl (aF (d:=26) rfl rfl rfl rfl (aF (d:=26) rfl rfl rfl rfl (aF (d:=26) rfl rfl rfl rfl (aF (d:=26) rfl rfl rfl rfl (aY rfl rfl rfl (aQ (XF.thenN (cU rfl (aO (aR (aB rfl rfl (aQ (XF.thenN (bM (XF.thenR (XF.res (bV results35 rfl) ?_)))))))))))))))))))))))))))))
  exact ⟨bR (by simp [fK,e1]),hS.below⟩
 ·have hg12:=hc;clear hc
  have e1:inQ p P0.st=true:=by simpa using hg12
  refine aC (d:=12) rfl rfl (aU (vs:=[_,_,_,_,_,_]) isAgg28 sizeOf28 rfl (aK.own (j:=0) (m:=6) (hS.at_ 1 rfl) rfl) rfl (aC (d:=12) rfl rfl (aN (o':=2) Gg rfl rfl rfl (aC (d:=12) rfl rfl (aT isAgg3 rfl (aJ (hS.at_ 0 rfl) rfl) rfl (aC (d:=12) rfl rfl (bT (vs:=[_,_]) hS Gj rfl (vT P0 q _) rfl fun W4 hS=>aC (d:=12) rfl rfl (dV rfl rfl (bN rfl rfl rfl (aI rfl rfl (bG (d:=19) rfl (fun hc=>?_) (fun hc=>?_))))))))))))
  ·have hg19:=hc;clear hc
   have e2:inQ q P0.st=false:=by simpa using hg19
   refine aF (d:=19) rfl rfl rfl rfl (aF (d:=19) rfl rfl rfl rfl (aF (d:=19) rfl rfl rfl rfl (aF (d:=19) rfl rfl rfl rfl (aF (d:=19) rfl rfl rfl rfl (aY rfl rfl rfl (aI rfl rfl (aF (d:=26) rfl rfl rfl rfl (aF (d:=26) rfl rfl rfl rfl (aF (d:=26) rfl rfl rfl rfl (aF (d:=26) rfl rfl rfl rfl (aY rfl rfl rfl (aQ (XF.thenN (cU rfl (aO (aR (aB rfl rfl (aQ (XF.thenN (bM (XF.thenR (XF.res (bV results35 rfl) ?_))))))))))))))))))))))
   exact ⟨bR (by simp [fK,e1,e2]),hS.below⟩
  ·have hg19:=hc;clear hc
   have e2:inQ q P0.st=true:=by simpa using hg19
   refine aC (d:=19) rfl rfl (aU (vs:=[_,_,_,_,_,_]) isAgg28 sizeOf28 rfl (aK.own (j:=0) (m:=6) (hS.at_ 1 rfl) rfl) rfl (aC (d:=19) rfl rfl (aN (o':=1) Gf rfl rfl rfl (aC (d:=19) rfl rfl (aT isAgg3 rfl (aJ (hS.at_ 0 rfl) rfl) rfl (aC (d:=19) rfl rfl (bT (vs:=[_,_]) hS Gk rfl (tL P0 g _) rfl fun W5 hS=>aC (d:=19) rfl rfl (dV rfl rfl (bN rfl rfl rfl (aI rfl rfl (bG (d:=26) rfl (fun hc=>?_) (fun hc=>?_))))))))))))
   ·have hg26:=hc;clear hc
    have e3:inQ g P0.sy=false:=by simpa using hg26
    refine aF (d:=26) rfl rfl rfl rfl (aF (d:=26) rfl rfl rfl rfl (aF (d:=26) rfl rfl rfl rfl (aF (d:=26) rfl rfl rfl rfl (aY rfl rfl rfl (aQ (XF.thenN (cU rfl (aO (aR (aB rfl rfl (aQ (XF.thenN (bM (XF.thenR (XF.res (bV results35 rfl) ?_)))))))))))))))
    exact ⟨bR (by simp [fK,e1,e2,e3]),hS.below⟩
   ·have hg26:=hc;clear hc
    have e3:inQ g P0.sy=true:=by simpa using hg26
    refine aC (d:=26) rfl rfl (aN (o':=3) rH rfl rfl rfl (aC (d:=26) rfl rfl (aT isAgg30 rfl (aJ (hS.at_ 0 rfl) rfl) rfl (aC (d:=26) rfl rfl (bX underlying30 rfl rfl (aC (d:=26) rfl rfl (dS rfl rfl rfl (bN rfl rfl rfl (aQ (XF.thenN (bC rfl (fun hc=>?_) (fun hc=>?_))))))))))))
    ·have hc31:=of_decide_eq_true hc;clear hc
     have e4:decide (wl≤4096)=false:=by simp;omega
     refine aO (aR (aB rfl rfl (aQ (XF.thenN (bM (XF.thenR (XF.res (bV results35 rfl) ?_)))))))
     exact ⟨bR (by simp [fK,e1,e2,e3,e4]),hS.below⟩
    ·have hc31:=of_decide_eq_false hc;clear hc
     have e4:decide (wl≤4096)=true:=by simp;omega
     refine bH (XF.thenN (aO (aO (aR (aN (o':=3) rH rfl rfl rfl (aT isAgg30 rfl (aJ (hS.at_ 0 rfl) rfl) rfl (bX underlying30 rfl rfl (aI rfl rfl (aQ (XF.thenN (bI (cX (fun m l W=>∃ i:Nat,i≤wl∧m=wl - i∧l=[(2,.pointer (some ⟨B1,0,none⟩)),(33,.slice wa wl wc),(34,.int .i64 (wl:Int)),(35,.int .i64 (i:Int))]∧(ws.take i).all (fun y=>inQ y P0.sy)=true∧St w [(B2,[.int .i64 p,.int .i64 g,.int .i64 q,.slice wa wl wc,.bool x.f.z,.int .i64 x.f.c,.int .u64 (x.f.g:Int),.slice x.f.ra x.f.rl x.f.rc,.slice x.f.ca x.f.cl x.f.cc,.slice x.f.pa x.f.pl x.f.pc],93),(B1,P0.six,28)] [] [] W) (wl - 0) ([(2,_),(33,_),(34,_),(35,_)]) ⟨rfl,rfl,rfl,rfl,trivial⟩ (⟨0,Nat.zero_le _,rfl,rfl,rfl,hS.clear⟩) ?_))))))))))))
     clear hS
     rintro m l W ⟨i,hi,rfl,rfl,hall,hS⟩
     refine aO (aR (cC rfl rfl rfl (aQ (XF.thenN (aO (bC rfl (fun hc=>?_) (fun hc=>?_)))))))
     ·have hc36:=of_decide_eq_true hc;clear hc
      have hk:i < wl:=by omega
      obtain ⟨b,off,y,rfl,hy,hyc⟩:=hrow.at1 (show i < ws.length by omega)
      have k1:=hS.old hyc
      refine bH (XF.thenN (aO (bI (aO (aR (cJ  underlying30 sizeOf3 rfl rfl rfl (by omega) rfl rfl (aT isAgg3 rfl (by first | assumption | exact hS.old (by assumption)) rfl (aB rfl rfl (aQ (XF.thenN (aO (aR (aU (vs:=[_,_,_,_,_,_]) isAgg28 sizeOf28 rfl (aK.own (j:=0) (m:=6) (hS.at_ 1 rfl) rfl) rfl (aI rfl rfl (bT (vs:=[_,_]) hS Gk rfl (tL P0 y _) rfl fun W6 hS=>dV rfl rfl (aQ (XF.thenN (bC rfl (fun hc=>?_) (fun hc=>?_)))))))))))))))))))
      ·have hc42:=hc;clear hc
       refine aO (aR (aB rfl rfl (aQ (XF.thenN (bM (XF.blkR (XF.thenR (XF.thenR (XF.blkR (XF.thenR (XF.res (bV results35 rfl) ?_)))))))))))
       exact ⟨bR (by simp only [fK];rw [cF hy (by simpa using hc42)];simp),hS.below⟩
      ·have hc42:=hc;clear hc
       refine bH (XF.blkN (XF.thenN (aR (cE rfl rfl (IntWalk.i64_in _ (by omega)) rfl (aI rfl rfl (aQ ?_))))))
       exact XF.round (wl - (i+1)) [(2,_),(33,_),(34,_),(35,_)] (by omega) ⟨rfl,rfl,rfl,rfl,trivial⟩ ⟨i+1,by omega,rfl,rfl,cQ hy hall (by simpa using hc42),hS.clear⟩
     ·have hc36:=of_decide_eq_false hc;clear hc
      refine cW (XF.thenX (XF.thenX (XF.blkX (XF.thenN (aO (aR (aB rfl rfl (aQ (XF.thenN (bM (XF.res (bV results35 rfl) ?_)))))))))))
      rw [List.take_of_length_le (by omega)] at hall
      exact ⟨bR (by simp [fK,e1,e2,e3,e4,hall]),hS.below⟩
theorem ruleR_c (P0:PV) (p g q:Int) (wa:Option Addr) (wl wc:Nat) (ws:List Int) (x:WV) (w:World) (hrow:Row w wa ws) (hlen:ws.length=wl) :
  Calls prog 41 #[P0.val,.agg #[.int .i64 p,.int .i64 g,.int .i64 q,.slice wa wl wc,.bool x.f.z,.int .i64 x.f.c,.int .u64 (x.f.g:Int),.slice x.f.ra x.f.rl x.f.rc,.slice x.f.ca x.f.cl x.f.cc,.slice x.f.pa x.f.pl x.f.pc]] w (fun e w'=>e = .returned (.bool (fK P0.st P0.sy ⟨p,g,q,wa,wl,wc,ws,x⟩))∧Below w.heap.size w w'):=by
 refine cG (args:=[P0.val,.agg #[.int .i64 p,.int .i64 g,.int .i64 q,.slice wa wl wc,.bool x.f.z,.int .i64 x.f.c,.int .u64 (x.f.g:Int),.slice x.f.ra x.f.rl x.f.rc,.slice x.f.ca x.f.cl x.f.cc,.slice x.f.pa x.f.pl x.f.pc]]) func41 rfl ntmps41 rfl ?_
 have hS:=St.start w
 refine aO (aR (bQ (cs:=[_,_,_,_,_,_]) hS rfl rfl rfl fun B1 W1 hS=>bQ (cs:=[_,_,_,_,_,_,_,_,_,_]) hS rfl rfl rfl fun B2 W2 hS=>aB rfl rfl (aQ (XF.thenN (aO (aO (aR (aN (o':=0) Ge rfl rfl rfl (aT isAgg3 rfl (aJ (hS.at_ 0 rfl) rfl) rfl (aN (o':=3) eT rfl rfl rfl (aT isAgg3 rfl (aJ (hS.at_ 1 rfl) rfl) rfl (bT (vs:=[_,_]) hS uH rfl (Al p P0.st _) rfl fun W3 hS=>dV rfl rfl (aI rfl rfl (bG (d:=12) rfl (fun hc=>?_) (fun hc=>?_)))))))))))))))
 ·have hg12:=hc;clear hc
  have e1:inQ p P0.st=false:=by simpa using hg12
  refine aF (d:=12) rfl rfl rfl rfl (aF (d:=12) rfl rfl rfl rfl (aF (d:=12) rfl rfl rfl rfl (aF (d:=12) rfl rfl rfl rfl (aF (d:=12) rfl rfl rfl rfl (aF (d:=12) rfl rfl rfl rfl (aY rfl rfl rfl (aI rfl rfl (aF (d:=20) rfl rfl rfl rfl (aF (d:=20) rfl rfl rfl rfl (aF (d:=20) rfl rfl rfl rfl (aF (d:=20) rfl rfl rfl rfl (aF (d:=20) rfl rfl rfl rfl (aF (d:=20) rfl rfl rfl rfl (aY rfl rfl rfl (aI rfl rfl (aF (d:=28) rfl rfl rfl rfl (aF (d:=28) rfl rfl rfl rfl (aF (d:=28) rfl rfl rfl rfl (aF (d:=28) rfl rfl rfl rfl (aY rfl rfl rfl (aQ (XF.thenN (cU rfl (aO (aR (aB rfl rfl (aQ (XF.thenN (bM (XF.thenR (XF.res (bV results41 rfl) ?_)))))))))))))))))))))))))))))))
  exact ⟨bR (by simp [fK,e1]),hS.below⟩
 ·have hg12:=hc;clear hc
  have e1:inQ p P0.st=true:=by simpa using hg12
  refine aC (d:=12) rfl rfl (aN (o':=2) Gg rfl rfl rfl (aC (d:=12) rfl rfl (aT isAgg3 rfl (aJ (hS.at_ 0 rfl) rfl) rfl (aC (d:=12) rfl rfl (aN (o':=3) eT rfl rfl rfl (aC (d:=12) rfl rfl (aT isAgg3 rfl (aJ (hS.at_ 1 rfl) rfl) rfl (aC (d:=12) rfl rfl (bT (vs:=[_,_]) hS uH rfl (Al q P0.st _) rfl fun W4 hS=>aC (d:=12) rfl rfl (dV rfl rfl (bN rfl rfl rfl (aI rfl rfl (bG (d:=20) rfl (fun hc=>?_) (fun hc=>?_))))))))))))))
  ·have hg20:=hc;clear hc
   have e2:inQ q P0.st=false:=by simpa using hg20
   refine aF (d:=20) rfl rfl rfl rfl (aF (d:=20) rfl rfl rfl rfl (aF (d:=20) rfl rfl rfl rfl (aF (d:=20) rfl rfl rfl rfl (aF (d:=20) rfl rfl rfl rfl (aF (d:=20) rfl rfl rfl rfl (aY rfl rfl rfl (aI rfl rfl (aF (d:=28) rfl rfl rfl rfl (aF (d:=28) rfl rfl rfl rfl (aF (d:=28) rfl rfl rfl rfl (aF (d:=28) rfl rfl rfl rfl (aY rfl rfl rfl (aQ (XF.thenN (cU rfl (aO (aR (aB rfl rfl (aQ (XF.thenN (bM (XF.thenR (XF.res (bV results41 rfl) ?_)))))))))))))))))))))))
   exact ⟨bR (by simp [fK,e1,e2]),hS.below⟩
  ·have hg20:=hc;clear hc
   have e2:inQ q P0.st=true:=by simpa using hg20
   refine aC (d:=20) rfl rfl (aN (o':=1) Gf rfl rfl rfl (aC (d:=20) rfl rfl (aT isAgg3 rfl (aJ (hS.at_ 0 rfl) rfl) rfl (aC (d:=20) rfl rfl (aN (o':=4) eE rfl rfl rfl (aC (d:=20) rfl rfl (aT isAgg3 rfl (aJ (hS.at_ 1 rfl) rfl) rfl (aC (d:=20) rfl rfl (bT (vs:=[_,_]) hS uH rfl (Al g P0.sy _) rfl fun W5 hS=>aC (d:=20) rfl rfl (dV rfl rfl (bN rfl rfl rfl (aI rfl rfl (bG (d:=28) rfl (fun hc=>?_) (fun hc=>?_))))))))))))))
   ·have hg28:=hc;clear hc
    have e3:inQ g P0.sy=false:=by simpa using hg28
    refine aF (d:=28) rfl rfl rfl rfl (aF (d:=28) rfl rfl rfl rfl (aF (d:=28) rfl rfl rfl rfl (aF (d:=28) rfl rfl rfl rfl (aY rfl rfl rfl (aQ (XF.thenN (cU rfl (aO (aR (aB rfl rfl (aQ (XF.thenN (bM (XF.thenR (XF.res (bV results41 rfl) ?_)))))))))))))))
    exact ⟨bR (by simp [fK,e1,e2,e3]),hS.below⟩
   ·have hg28:=hc;clear hc
    have e3:inQ g P0.sy=true:=by simpa using hg28
    refine aC (d:=28) rfl rfl (aN (o':=3) rH rfl rfl rfl (aC (d:=28) rfl rfl (aT isAgg30 rfl (aJ (hS.at_ 0 rfl) rfl) rfl (aC (d:=28) rfl rfl (bX underlying30 rfl rfl (aC (d:=28) rfl rfl (dS rfl rfl rfl (bN rfl rfl rfl (aQ (XF.thenN (bC rfl (fun hc=>?_) (fun hc=>?_))))))))))))
    ·have hc33:=of_decide_eq_true hc;clear hc
     have e4:decide (wl≤4096)=false:=by simp;omega
     refine aO (aR (aB rfl rfl (aQ (XF.thenN (bM (XF.thenR (XF.res (bV results41 rfl) ?_)))))))
     exact ⟨bR (by simp [fK,e1,e2,e3,e4]),hS.below⟩
    ·have hc33:=of_decide_eq_false hc;clear hc
     have e4:decide (wl≤4096)=true:=by simp;omega
     refine bH (XF.thenN (aO (aO (aR (aB rfl rfl (aQ (XF.thenN (bI (cX (fun m l W=>∃ i:Nat,i≤wl∧m=wl - i∧l=[(2,.pointer (some ⟨B1,0,none⟩)),(3,.pointer (some ⟨B2,0,none⟩)),(5,.int .i64 (i:Int))]∧(ws.take i).all (fun y=>inQ y P0.sy)=true∧St w [(B2,[.int .i64 p,.int .i64 g,.int .i64 q,.slice wa wl wc,.bool x.f.z,.int .i64 x.f.c,.int .u64 (x.f.g:Int),.slice x.f.ra x.f.rl x.f.rc,.slice x.f.ca x.f.cl x.f.cc,.slice x.f.pa x.f.pl x.f.pc],93),(B1,P0.six,28)] [] [] W) (wl - 0) ([(2,_),(3,_),(5,_)]) ⟨rfl,rfl,rfl,trivial⟩ (⟨0,Nat.zero_le _,rfl,rfl,rfl,hS.clear⟩) ?_)))))))))
     clear hS
     rintro m l W ⟨i,hi,rfl,rfl,hall,hS⟩
     refine aO (aO (aR (aI rfl rfl (aN (o':=3) rH rfl rfl rfl (aT isAgg30 rfl (aJ (hS.at_ 0 rfl) rfl) rfl (bX underlying30 rfl rfl (cC rfl rfl rfl (aQ (XF.thenN (bC rfl (fun hc=>?_) (fun hc=>?_)))))))))))
     ·have hc38:=of_decide_eq_true hc;clear hc
      have hk:i < wl:=by omega
      obtain ⟨b,off,y,rfl,hy,hyc⟩:=hrow.at1 (show i < ws.length by omega)
      have k1:=hS.old hyc
      refine bH (XF.thenN (aO (bI (aO (gP (m:=9) bY hS (by kernel_rfl) (by kernel_rfl) rfl (cB 1 rfl 3 rfl rfl (fun w hw=>aV (o':=3) rH rfl rfl) rfl (bD 2 rfl 41 0 rfl rfl rfl (fun w hw=>aX isAgg30 rfl ((aP hw 0).cell (Nat.zero_le _) (aJ (hS.at_ 0 rfl) rfl))) rfl (cB 3 rfl 5 rfl rfl (fun w hw=>aZ rfl) rfl (aM 4 rfl (isV _) (aH _) (rgV (li:=[(42,_),(43,_)]) rfl (aS rfl) ⟨aL 1 (aA rfl rfl rfl),aL 2 (aA rfl rfl rfl),trivial⟩ (fun w hw=>bA  underlying30 sizeOf3 rfl rfl rfl (by omega) rfl) (aD rfl)) (bD 5 rfl 44 3 rfl rfl rfl (fun w hw=>aX isAgg3 rfl ((aP hw 0).cell (Nat.zero_le _) (by assumption))) rfl (cB 6 rfl 2 rfl rfl (fun w hw=>aV (o':=4) eE rfl rfl) rfl (bD 7 rfl 46 5 rfl rfl rfl (fun w hw=>aX isAgg3 rfl ((aP hw 0).cell (Nat.zero_le _) (aJ (hS.at_ 1 rfl) rfl))) rfl ?_))))))))))))
      refine aM 8 rfl (isV (.bool (inQ y P0.sy))) (aH _) (cP [isV _,isV _] rfl uH (aS rfl) ⟨cD (aL 4 (aA rfl rfl rfl)),cD (aL 6 (aA rfl rfl rfl)),trivial⟩ (fun vs w' hb hh=>by have e:=bZ (us:=[_,_]) hh;subst e;exact (Al y P0.sy _).mono fun e w2 h=>⟨_,h.1,rfl,h.2⟩) (aD rfl)) ?_
      refine bD 9 rfl 48 7 rfl rfl rfl (fun w hw=>gU rfl) rfl (dB ?_)
      intro W6 hbR hS'
      clear hS;have hS:=hS';clear hS'
      refine aG (aG (aG (aG (aG (aG (aG (aG (aG (cH (XF.thenN (bC rfl (fun hc=>?_) (fun hc=>?_))))))))))))
      ·have hc49:=hc;clear hc
       refine aO (aR (aB rfl rfl (aQ (XF.thenN (bM (XF.blkR (XF.thenR (XF.thenR (XF.blkR (XF.thenR (XF.res (bV results41 rfl) ?_)))))))))))
       exact ⟨bR (by simp only [fK];rw [cF hy (by simpa using hc49)];simp),hS.below⟩
      ·have hc49:=hc;clear hc
       refine bH (XF.blkN (XF.thenN (aR (aI rfl rfl (cE rfl rfl (IntWalk.i64_in _ (by omega)) rfl (aB rfl rfl (aQ ?_)))))))
       exact XF.round (wl - (i+1)) [(2,_),(3,_),(5,_)] (by omega) ⟨rfl,rfl,rfl,trivial⟩ ⟨i+1,by omega,rfl,rfl,cQ hy hall (by simpa using hc49),hS.clear⟩
     ·have hc38:=of_decide_eq_false hc;clear hc
      refine cW (XF.thenX (XF.thenX (XF.blkX (XF.thenN (aO (aR (aB rfl rfl (aQ (XF.thenN (bM (XF.res (bV results41 rfl) ?_)))))))))))
      rw [List.take_of_length_le (by omega)] at hall
      exact ⟨bR (by simp [fK,e1,e2,e3,e4,hall]),hS.below⟩
theorem Ly {w:World} {d:Nat} (P0:PV) {r:RV} (h:RIn w d r):Calls prog 35 #[P0.val,r.val] w (fun e w'=>e = .returned (.bool (fK P0.st P0.sy r))∧Below w.heap.size w w'):=ruleA_c P0 _ _ _ _ _ _ _ _ w h.row h.len
theorem Lz {w:World} {d:Nat} (P0:PV) {r:RV} (h:RIn w d r):Calls prog 41 #[P0.val,r.val] w (fun e w'=>e = .returned (.bool (fK P0.st P0.sy r))∧Below w.heap.size w w'):=ruleR_c P0 _ _ _ _ _ _ _ _ w h.row h.len
theorem pdsA_c (ds d:Nat) (s:SV) (st sy:Int) (ra:Option Addr) (rl rc:Nat) (rs:List RV) (w:World) (hs:SIn w ds s) (hrow:Cx w ra rs) (hlen:rs.length=rl) (hin:∀ r∈rs,RIn w d r) :
  Calls prog 17 #[.agg #[.int .i64 s.f.tag,.int .i64 s.f.dim,.slice s.f.a s.f.len s.f.cap,.int .i64 st,.int .i64 sy,.slice ra rl rc]] w (fun e w'=>e = .returned (.int .i64 (dX ⟨s,st,sy,ra,rl,rc,rs⟩))∧Below w.heap.size w w'):=by
 refine cG (args:=[.agg #[.int .i64 s.f.tag,.int .i64 s.f.dim,.slice s.f.a s.f.len s.f.cap,.int .i64 st,.int .i64 sy,.slice ra rl rc]]) func17 rfl ntmps17 rfl ?_
 have hS:=St.start w
 refine aO (aR (bQ (cs:=[_,_,_,_,_,_]) hS rfl rfl rfl fun B1 W1 hS=>aB rfl rfl (aQ (XF.thenN (aO (aO (aR (aN (o':=0) iJ rfl rfl rfl (aU (vs:=[_,_,_]) isAgg25 sizeOf25 rfl (aK.own (j:=0) (m:=3) (hS.at_ 0 rfl) rfl) rfl (bT (vs:=[_]) hS uB rfl (sJ ds s _ _ (SIn.below hS.below hs) rfl) rfl fun W2 hS=>aB rfl rfl (aQ (XF.thenN (aO (aR (aI rfl rfl (cN rfl rfl rfl (aQ (XF.thenN (bC rfl (fun hc=>?_) (fun hc=>?_))))))))))))))))))))
 ·have hc13:=of_decide_eq_true hc;clear hc
  refine aO (aR (aI rfl rfl (aB rfl rfl (aQ (XF.thenN (bM (XF.thenR (XF.res (bV results17 rfl) ?_))))))))
  exact ⟨cL (by simp only [dX];rw [if_pos hc13]),hS.below⟩
 ·have hc13:=of_decide_eq_false hc;clear hc
  have h0:¬ dD s≠0:=hc13
  refine bH (XF.thenN (aO (aO (aR (aN (o':=5) lG rfl rfl rfl (aT isAgg26 rfl (aJ (hS.at_ 0 rfl) rfl) rfl (bX underlying26 rfl rfl (dS rfl rfl rfl (aQ (XF.thenN (bC rfl (fun hc=>?_) (fun hc=>?_))))))))))))
  ·have hc18:=of_decide_eq_true hc;clear hc
   refine aO (aR (aB rfl rfl (aQ (XF.thenN (bM (XF.thenR (XF.res (bV results17 rfl) ?_)))))))
   exact ⟨cL (by simp only [dX];rw [if_neg h0,if_pos (by omega)]),hS.below⟩
  ·have hc18:=of_decide_eq_false hc;clear hc
   have h1:¬ 16384 < rl:=by omega
   refine bH (XF.thenN (aO (aO (aR (aN (o':=3) eT rfl rfl rfl (aT isAgg3 rfl (aJ (hS.at_ 0 rfl) rfl) rfl (cC rfl rfl rfl (aI rfl rfl (bG (d:=22) rfl (fun hc=>?_) (fun hc=>?_))))))))))
   ·have hg22:=of_decide_eq_true hc;clear hc
    refine aF (d:=22) rfl rfl rfl rfl (aF (d:=22) rfl rfl rfl rfl (aF (d:=22) rfl rfl rfl rfl (aY rfl rfl rfl (aI rfl rfl (aF (d:=27) rfl rfl rfl rfl (aF (d:=27) rfl rfl rfl rfl (aF (d:=27) rfl rfl rfl rfl (aY rfl rfl rfl (aI rfl rfl (aF (d:=32) rfl rfl rfl rfl (aF (d:=32) rfl rfl rfl rfl (aF (d:=32) rfl rfl rfl rfl (aY rfl rfl rfl (aQ (XF.thenN (cU rfl (aO (aR (aB rfl rfl (aQ (XF.thenN (bM (XF.thenR (XF.res (bV results17 rfl) ?_))))))))))))))))))))))))
    exact ⟨cL (by simp only [dX];rw [if_neg h0,if_neg h1,if_pos (by omega)]),hS.below⟩
   ·have hg22:=of_decide_eq_false hc;clear hc
    refine aC (d:=22) rfl rfl (aN (o':=3) eT rfl rfl rfl (aC (d:=22) rfl rfl (aT isAgg3 rfl (aJ (hS.at_ 0 rfl) rfl) rfl (aC (d:=22) rfl rfl (dS rfl rfl rfl (bN rfl rfl rfl (aI rfl rfl (bG (d:=27) rfl (fun hc=>?_) (fun hc=>?_)))))))))
    ·have hg27:=of_decide_eq_true hc;clear hc
     refine aF (d:=27) rfl rfl rfl rfl (aF (d:=27) rfl rfl rfl rfl (aF (d:=27) rfl rfl rfl rfl (aY rfl rfl rfl (aI rfl rfl (aF (d:=32) rfl rfl rfl rfl (aF (d:=32) rfl rfl rfl rfl (aF (d:=32) rfl rfl rfl rfl (aY rfl rfl rfl (aQ (XF.thenN (cU rfl (aO (aR (aB rfl rfl (aQ (XF.thenN (bM (XF.thenR (XF.res (bV results17 rfl) ?_)))))))))))))))))))
     exact ⟨cL (by simp only [dX];rw [if_neg h0,if_neg h1,if_pos (by omega)]),hS.below⟩
    ·have hg27:=of_decide_eq_false hc;clear hc
     refine aC (d:=27) rfl rfl (aN (o':=4) eE rfl rfl rfl (aC (d:=27) rfl rfl (aT isAgg3 rfl (aJ (hS.at_ 0 rfl) rfl) rfl (aC (d:=27) rfl rfl (cC rfl rfl rfl (bN rfl rfl rfl (aI rfl rfl (bG (d:=32) rfl (fun hc=>?_) (fun hc=>?_)))))))))
     ·have hg32:=of_decide_eq_true hc;clear hc
      refine aF (d:=32) rfl rfl rfl rfl (aF (d:=32) rfl rfl rfl rfl (aF (d:=32) rfl rfl rfl rfl (aY rfl rfl rfl (aQ (XF.thenN (cU rfl (aO (aR (aB rfl rfl (aQ (XF.thenN (bM (XF.thenR (XF.res (bV results17 rfl) ?_))))))))))))))
      exact ⟨cL (by simp only [dX];rw [if_neg h0,if_neg h1,if_pos (by omega)]),hS.below⟩
     ·have hg32:=of_decide_eq_false hc;clear hc
      refine aC (d:=32) rfl rfl (aN (o':=4) eE rfl rfl rfl (aC (d:=32) rfl rfl (aT isAgg3 rfl (aJ (hS.at_ 0 rfl) rfl) rfl (aC (d:=32) rfl rfl (dS rfl rfl rfl (bN rfl rfl rfl (aQ (XF.thenN (bC rfl (fun hc=>?_) (fun hc=>?_))))))))))
      ·have hc36:=of_decide_eq_true hc;clear hc
       refine aO (aR (aB rfl rfl (aQ (XF.thenN (bM (XF.thenR (XF.res (bV results17 rfl) ?_)))))))
       exact ⟨cL (by simp only [dX];rw [if_neg h0,if_neg h1,if_pos (by omega)]),hS.below⟩
      ·have hc36:=of_decide_eq_false hc;clear hc
       have h2:¬ (st < 0∨4096 < st∨sy < 0∨4096 < sy):=by omega
       refine bH (XF.thenN (aO (aO (aR (aN (o':=5) lG rfl rfl rfl (aT isAgg26 rfl (aJ (hS.at_ 0 rfl) rfl) rfl (bX underlying26 rfl rfl (aI rfl rfl (aQ (XF.thenN (bI (cX (fun m l W=>∃ i:Nat,i≤rl∧m=rl - i∧l=[(1,.pointer (some ⟨B1,0,none⟩)),(38,.slice ra rl rc),(39,.int .i64 (rl:Int)),(40,.int .i64 (i:Int))]∧(rs.take i).all (fK st sy)=true∧St w [(B1,[.int .i64 s.f.tag,.int .i64 s.f.dim,.slice s.f.a s.f.len s.f.cap,.int .i64 st,.int .i64 sy,.slice ra rl rc],28)] [] [] W) (rl - 0) ([(1,_),(38,_),(39,_),(40,_)]) ⟨rfl,rfl,rfl,rfl,trivial⟩ (⟨0,Nat.zero_le _,rfl,rfl,rfl,hS.clear⟩) ?_))))))))))))
       clear hS
       rintro m l W ⟨i,hi,rfl,rfl,hall,hS⟩
       refine aO (aR (cC rfl rfl rfl (aQ (XF.thenN (aO (bC rfl (fun hc=>?_) (fun hc=>?_)))))))
       ·have hc41:=of_decide_eq_true hc;clear hc
        have hk:i < rl:=by omega
        obtain ⟨r,hr⟩:∃ r,rs[i]?=some r:=⟨rs[i]'(by omega),by simp [show i < rs.length by omega]⟩
        obtain ⟨b,off,rfl,hcs⟩:=hrow.at_ hr
        have k1:=aK.agree hS.agree (Nat.zero_le _) hcs
        have k2:=k1.2.2.2.2
        have hri:=hin r (List.mem_of_getElem? hr)
        refine bH (XF.thenN (aO (bI (aO (aR (cJ  underlying26 sizeOf93 rfl rfl rfl (by omega) rfl rfl (aU (vs:=[_,_,_,_,_,_,_,_,_,_]) isAgg93 sizeOf93 rfl (by assumption) rfl (bU (cs:=[_,_,_,_,_,_,_,_,_,_]) hS zeroValue93 rfl rfl fun B3 W3 hS=>bB (i:=0) (vs:=[_,_,_,_,_,_,_,_,_,_]) (cs':=[_,_,_,_,_,_,_,_,_,_]) (O':=[_,_]) hS sizeOf93 rfl rfl rfl rfl rfl rfl rfl fun W4 hS=>aQ (XF.thenN (aO (aR (aU (vs:=[_,_,_,_,_,_]) isAgg28 sizeOf28 rfl (aK.own (j:=0) (m:=6) (hS.at_ 1 rfl) rfl) rfl (aU (vs:=[_,_,_,_,_,_,_,_,_,_]) isAgg93 sizeOf93 rfl (aK.own (j:=0) (m:=10) (hS.at_ 0 rfl) rfl) rfl (bT (vs:=[_,_]) hS goes_35 rfl (Ly ⟨s,st,sy,_,rl,rc,rs⟩ (hri.below hS.below)) rfl fun W5 hS=>dV rfl rfl (aQ (XF.thenN (bC rfl (fun hc=>?_) (fun hc=>?_))))))))))))))))))
        ·have hc47:=hc;clear hc
         refine aO (aR (aB rfl rfl (aQ (XF.thenN (bM (XF.blkR (XF.thenR (XF.thenR (XF.blkR (XF.thenR (XF.res (bV results17 rfl) ?_)))))))))))
         exact ⟨cL (by simp only [dX];rw [if_neg h0,if_neg h1,if_neg h2,if_neg (by rw [cF hr (by simpa using hc47)];simp)]),hS.below⟩
        ·have hc47:=hc;clear hc
         refine bH (XF.blkN (XF.thenN (aR (cE rfl rfl (IntWalk.i64_in _ (by omega)) rfl (aI rfl rfl (aQ ?_))))))
         exact XF.round (rl - (i+1)) [(1,_),(38,_),(39,_),(40,_)] (by omega) ⟨rfl,rfl,rfl,rfl,trivial⟩ ⟨i+1,by omega,rfl,rfl,cQ hr hall (by simpa using hc47),hS.tail.clear⟩
       ·have hc41:=of_decide_eq_false hc;clear hc
        rw [List.take_of_length_le (by omega)] at hall
        refine cW (XF.thenX (XF.thenX (XF.blkX (XF.thenN (aO (aO (aR (aN (o':=5) lG rfl rfl rfl (aT isAgg26 rfl (aJ (hS.at_ 0 rfl) rfl) rfl (bX underlying26 rfl rfl (aI rfl rfl (aQ (XF.thenN (bI (cX (fun m l W=>∃ i:Nat,i≤rl∧m=rl - i∧l=[(1,.pointer (some ⟨B1,0,none⟩)),(50,.slice ra rl rc),(51,.int .i64 (rl:Int)),(52,.int .i64 (i:Int))]∧(rs.take i).all (fun r=>decide (iR s r.x=0))=true∧St w [(B1,[.int .i64 s.f.tag,.int .i64 s.f.dim,.slice s.f.a s.f.len s.f.cap,.int .i64 st,.int .i64 sy,.slice ra rl rc],28)] [] [] W) (rl - 0) ([(1,_),(50,_),(51,_),(52,_)]) ⟨rfl,rfl,rfl,rfl,trivial⟩ (⟨0,Nat.zero_le _,rfl,rfl,rfl,hS.clear⟩) ?_)))))))))))))))
        clear hS
        rintro m l W ⟨i,hi,rfl,rfl,hall2,hS⟩
        refine aO (aR (cC rfl rfl rfl (aQ (XF.thenN (aO (bC rfl (fun hc=>?_) (fun hc=>?_)))))))
        ·have hc53:=of_decide_eq_true hc;clear hc
         have hk:i < rl:=by omega
         obtain ⟨r,hr⟩:∃ r,rs[i]?=some r:=⟨rs[i]'(by omega),by simp [show i < rs.length by omega]⟩
         obtain ⟨b,off,rfl,hcs⟩:=hrow.at_ hr
         have k1:=aK.agree hS.agree (Nat.zero_le _) hcs
         have k2:=k1.2.2.2.2
         have hri:=hin r (List.mem_of_getElem? hr)
         refine bH (XF.thenN (aO (bI (aO (aR (cJ  underlying26 sizeOf93 rfl rfl rfl (by omega) rfl rfl (aU (vs:=[_,_,_,_,_,_,_,_,_,_]) isAgg93 sizeOf93 rfl (by assumption) rfl (bU (cs:=[_,_,_,_,_,_,_,_,_,_]) hS zeroValue93 rfl rfl fun B6 W6 hS=>bB (i:=0) (vs:=[_,_,_,_,_,_,_,_,_,_]) (cs':=[_,_,_,_,_,_,_,_,_,_]) (O':=[_,_]) hS sizeOf93 rfl rfl rfl rfl rfl rfl rfl fun W7 hS=>aQ (XF.thenN (aO (aR (aN (o':=0) iJ rfl rfl rfl (aU (vs:=[_,_,_]) isAgg25 sizeOf25 rfl (aK.own (j:=0) (m:=3) (hS.at_ 1 rfl) rfl) rfl (aN (o':=4) Gh rfl rfl rfl (aU (vs:=[_,_,_,_,_,_]) isAgg56 sizeOf56 rfl (aK.own (j:=4) (m:=6) (hS.at_ 0 rfl) rfl) rfl (bT (vs:=[_,_]) hS goes_36 rfl (Cy ds d s r.x _ (SIn.below hS.below hs) (WIn.below hS.below hri.x)) rfl fun W8 hS=>aB rfl rfl (aQ (XF.thenN (aO (aR (aI rfl rfl (cN rfl rfl rfl (aQ (XF.thenN (bC rfl (fun hc=>?_) (fun hc=>?_))))))))))))))))))))))))))
         ·have hc62:=of_decide_eq_true hc;clear hc
          refine aO (aR (aI rfl rfl (aB rfl rfl (aQ (XF.thenN (bM (XF.blkR (XF.thenR (XF.thenR (XF.blkR (XF.thenR (XF.res (bV results17 rfl) ?_))))))))))))
          exact ⟨cL (by simp only [dX];rw [if_neg h0,if_neg h1,if_neg h2,if_pos hall,Ex hr hall2 hc62]),hS.below⟩
         ·have hc62:=of_decide_eq_false hc;clear hc
          refine bH (XF.blkN (XF.thenN (aR (cE rfl rfl (IntWalk.i64_in _ (by omega)) rfl (aI rfl rfl (aQ ?_))))))
          exact XF.round (rl - (i+1)) [(1,_),(50,_),(51,_),(52,_)] (by omega) ⟨rfl,rfl,rfl,rfl,trivial⟩ ⟨i+1,by omega,rfl,rfl,cQ hr hall2 (by simpa using hc62),hS.tail.clear⟩
        ·have hc53:=of_decide_eq_false hc;clear hc
         refine cW (XF.thenX (XF.thenX (XF.blkX (XF.thenN (aO (aR (aB rfl rfl (aQ (XF.thenN (bM (XF.res (bV results17 rfl) ?_)))))))))))
         rw [List.take_of_length_le (by omega)] at hall2
         exact ⟨cL (by simp only [dX];rw [if_neg h0,if_neg h1,if_neg h2,if_pos hall,uO hall2]),hS.below⟩
theorem pdsR_c (ds d:Nat) (s:SV) (st sy:Int) (ra:Option Addr) (rl rc:Nat) (rs:List RV) (w:World) (hs:SIn w ds s) (hrow:Cx w ra rs) (hlen:rs.length=rl) (hin:∀ r∈rs,RIn w d r) :
  Calls prog 21 #[.agg #[.int .i64 s.f.tag,.int .i64 s.f.dim,.slice s.f.a s.f.len s.f.cap,.int .i64 st,.int .i64 sy,.slice ra rl rc]] w (fun e w'=>e = .returned (.int .i64 (dX ⟨s,st,sy,ra,rl,rc,rs⟩))∧Below w.heap.size w w'):=by
 refine cG (args:=[.agg #[.int .i64 s.f.tag,.int .i64 s.f.dim,.slice s.f.a s.f.len s.f.cap,.int .i64 st,.int .i64 sy,.slice ra rl rc]]) func21 rfl ntmps21 rfl ?_
 have hS:=St.start w
 refine aO (aR (bQ (cs:=[_,_,_,_,_,_]) hS rfl rfl rfl fun B1 W1 hS=>aB rfl rfl (aQ (XF.thenN (aO (aR (aN (o':=0) iJ rfl rfl rfl (aU (vs:=[_,_,_]) isAgg25 sizeOf25 rfl (aK.own (j:=0) (m:=3) (hS.at_ 0 rfl) rfl) rfl (bT (vs:=[_]) hS rG rfl (pI ds s _ _ (SIn.below hS.below hs) rfl) rfl fun W2 hS=>aB rfl rfl (aQ (XF.thenN (aO (aO (aR (aI rfl rfl (cN rfl rfl rfl (aQ (XF.thenN (bC rfl (fun hc=>?_) (fun hc=>?_))))))))))))))))))))
 ·have hc11:=of_decide_eq_true hc;clear hc
  refine aO (aR (aI rfl rfl (aB rfl rfl (aQ (XF.thenN (bM (XF.thenR (XF.res (bV results21 rfl) ?_))))))))
  exact ⟨cL (by simp only [dX];rw [if_pos hc11]),hS.below⟩
 ·have hc11:=of_decide_eq_false hc;clear hc
  have h0:¬ dD s≠0:=hc11
  refine bH (XF.thenN (aO (aO (aR (aN (o':=5) lG rfl rfl rfl (aT isAgg26 rfl (aJ (hS.at_ 0 rfl) rfl) rfl (bX underlying26 rfl rfl (dS rfl rfl rfl (aQ (XF.thenN (bC rfl (fun hc=>?_) (fun hc=>?_))))))))))))
  ·have hc16:=of_decide_eq_true hc;clear hc
   refine aO (aR (aB rfl rfl (aQ (XF.thenN (bM (XF.thenR (XF.res (bV results21 rfl) ?_)))))))
   exact ⟨cL (by simp only [dX];rw [if_neg h0,if_pos (by omega)]),hS.below⟩
  ·have hc16:=of_decide_eq_false hc;clear hc
   have h1:¬ 16384 < rl:=by omega
   refine bH (XF.thenN (aO (aO (aR (aN (o':=3) eT rfl rfl rfl (aT isAgg3 rfl (aJ (hS.at_ 0 rfl) rfl) rfl (cC rfl rfl rfl (aI rfl rfl (bG (d:=20) rfl (fun hc=>?_) (fun hc=>?_))))))))))
   ·have hg20:=of_decide_eq_true hc;clear hc
    refine aF (d:=20) rfl rfl rfl rfl (aF (d:=20) rfl rfl rfl rfl (aF (d:=20) rfl rfl rfl rfl (aY rfl rfl rfl (aI rfl rfl (aF (d:=25) rfl rfl rfl rfl (aF (d:=25) rfl rfl rfl rfl (aF (d:=25) rfl rfl rfl rfl (aY rfl rfl rfl (aI rfl rfl (aF (d:=30) rfl rfl rfl rfl (aF (d:=30) rfl rfl rfl rfl (aF (d:=30) rfl rfl rfl rfl (aY rfl rfl rfl (aQ (XF.thenN (cU rfl (aO (aR (aB rfl rfl (aQ (XF.thenN (bM (XF.thenR (XF.res (bV results21 rfl) ?_))))))))))))))))))))))))
    exact ⟨cL (by simp only [dX];rw [if_neg h0,if_neg h1,if_pos (by omega)]),hS.below⟩
   ·have hg20:=of_decide_eq_false hc;clear hc
    refine aC (d:=20) rfl rfl (aN (o':=3) eT rfl rfl rfl (aC (d:=20) rfl rfl (aT isAgg3 rfl (aJ (hS.at_ 0 rfl) rfl) rfl (aC (d:=20) rfl rfl (dS rfl rfl rfl (bN rfl rfl rfl (aI rfl rfl (bG (d:=25) rfl (fun hc=>?_) (fun hc=>?_)))))))))
    ·have hg25:=of_decide_eq_true hc;clear hc
     refine aF (d:=25) rfl rfl rfl rfl (aF (d:=25) rfl rfl rfl rfl (aF (d:=25) rfl rfl rfl rfl (aY rfl rfl rfl (aI rfl rfl (aF (d:=30) rfl rfl rfl rfl (aF (d:=30) rfl rfl rfl rfl (aF (d:=30) rfl rfl rfl rfl (aY rfl rfl rfl (aQ (XF.thenN (cU rfl (aO (aR (aB rfl rfl (aQ (XF.thenN (bM (XF.thenR (XF.res (bV results21 rfl) ?_)))))))))))))))))))
     exact ⟨cL (by simp only [dX];rw [if_neg h0,if_neg h1,if_pos (by omega)]),hS.below⟩
    ·have hg25:=of_decide_eq_false hc;clear hc
     refine aC (d:=25) rfl rfl (aN (o':=4) eE rfl rfl rfl (aC (d:=25) rfl rfl (aT isAgg3 rfl (aJ (hS.at_ 0 rfl) rfl) rfl (aC (d:=25) rfl rfl (cC rfl rfl rfl (bN rfl rfl rfl (aI rfl rfl (bG (d:=30) rfl (fun hc=>?_) (fun hc=>?_)))))))))
     ·have hg30:=of_decide_eq_true hc;clear hc
      refine aF (d:=30) rfl rfl rfl rfl (aF (d:=30) rfl rfl rfl rfl (aF (d:=30) rfl rfl rfl rfl (aY rfl rfl rfl (aQ (XF.thenN (cU rfl (aO (aR (aB rfl rfl (aQ (XF.thenN (bM (XF.thenR (XF.res (bV results21 rfl) ?_))))))))))))))
      exact ⟨cL (by simp only [dX];rw [if_neg h0,if_neg h1,if_pos (by omega)]),hS.below⟩
     ·have hg30:=of_decide_eq_false hc;clear hc
      refine aC (d:=30) rfl rfl (aN (o':=4) eE rfl rfl rfl (aC (d:=30) rfl rfl (aT isAgg3 rfl (aJ (hS.at_ 0 rfl) rfl) rfl (aC (d:=30) rfl rfl (dS rfl rfl rfl (bN rfl rfl rfl (aQ (XF.thenN (bC rfl (fun hc=>?_) (fun hc=>?_))))))))))
      ·have hc34:=of_decide_eq_true hc;clear hc
       refine aO (aR (aB rfl rfl (aQ (XF.thenN (bM (XF.thenR (XF.res (bV results21 rfl) ?_)))))))
       exact ⟨cL (by simp only [dX];rw [if_neg h0,if_neg h1,if_pos (by omega)]),hS.below⟩
      ·have hc34:=of_decide_eq_false hc;clear hc
       have h2:¬ (st < 0∨4096 < st∨sy < 0∨4096 < sy):=by omega
       refine bH (XF.thenN (aO (aO (aR (aB rfl rfl (aQ (XF.thenN (bI (cX (fun m l W=>∃ i:Nat,i≤rl∧m=rl - i∧l=[(1,.pointer (some ⟨B1,0,none⟩)),(4,.int .i64 (i:Int))]∧(rs.take i).all (fK st sy)=true∧St w [(B1,[.int .i64 s.f.tag,.int .i64 s.f.dim,.slice s.f.a s.f.len s.f.cap,.int .i64 st,.int .i64 sy,.slice ra rl rc],28)] [] [] W) (rl - 0) ([(1,_),(4,_)]) ⟨rfl,rfl,trivial⟩ (⟨0,Nat.zero_le _,rfl,rfl,rfl,hS.clear⟩) ?_)))))))))
       clear hS
       rintro m l W ⟨i,hi,rfl,rfl,hall,hS⟩
       refine aO (aO (aR (aI rfl rfl (aN (o':=5) lG rfl rfl rfl (aT isAgg26 rfl (aJ (hS.at_ 0 rfl) rfl) rfl (bX underlying26 rfl rfl (cC rfl rfl rfl (aQ (XF.thenN (bC rfl (fun hc=>?_) (fun hc=>?_)))))))))))
       ·have hc39:=of_decide_eq_true hc;clear hc
        have hk:i < rl:=by omega
        obtain ⟨r,hr⟩:∃ r,rs[i]?=some r:=⟨rs[i]'(by omega),by simp [show i < rs.length by omega]⟩
        obtain ⟨b,off,rfl,hcs⟩:=hrow.at_ hr
        have k1:=aK.agree hS.agree (Nat.zero_le _) hcs
        have k2:=k1.2.2.2.2
        have hri:=hin r (List.mem_of_getElem? hr)
        refine bH (XF.thenN (aO (bI (aO (gP (m:=8) bY hS (by kernel_rfl) (by kernel_rfl) rfl (cB 1 rfl 1 rfl rfl (fun w hw=>bL (vs:=[_,_,_,_,_,_]) isAgg28 sizeOf28 rfl (aK.agree (aP hw 0) (Nat.zero_le _) (aK.own (j:=0) (m:=6) (hS.at_ 0 rfl) rfl))) rfl (cB 2 rfl 1 rfl rfl (fun w hw=>aV (o':=5) lG rfl rfl) rfl (bD 3 rfl 43 1 rfl rfl rfl (fun w hw=>aX isAgg26 rfl ((aP hw 0).cell (Nat.zero_le _) (aJ (hS.at_ 0 rfl) rfl))) rfl (cB 4 rfl 4 rfl rfl (fun w hw=>aZ rfl) rfl (aM 5 rfl (isV _) (aH _) (rgV (li:=[(44,_),(45,_)]) rfl (aS rfl) ⟨aL 2 (aA rfl rfl rfl),aL 3 (aA rfl rfl rfl),trivial⟩ (fun w hw=>bA  underlying26 sizeOf93 rfl rfl rfl (by omega) rfl) (aD rfl)) (bD 6 rfl 46 4 rfl rfl rfl (fun w hw=>bL (vs:=[_,_,_,_,_,_,_,_,_,_]) isAgg93 sizeOf93 rfl (aK.agree (aP hw 0) (Nat.zero_le _) (by assumption))) rfl ?_)))))))))))
        refine aM 7 rfl (isV (.bool (fK st sy r))) (aH _) (cP [isV _,isV _] rfl goes_41 (aS rfl) ⟨cD (aL 0 (aA rfl rfl rfl)),cD (aL 5 (aA rfl rfl rfl)),trivial⟩ (fun vs w' hb hh=>by have e:=bZ (us:=[_,_]) hh;subst e;exact (Lz ⟨s,st,sy,_,rl,rc,rs⟩ (hri.below (hS.below.trans (hb.mono hS.below.size)))).mono fun e w2 h=>⟨_,h.1,rfl,h.2⟩) (aD rfl)) ?_
        refine bD 8 rfl 48 6 rfl rfl rfl (fun w hw=>gU rfl) rfl (dB ?_)
        intro W3 hbR hS'
        clear hS;have hS:=hS';clear hS'
        refine aG (aG (aG (aG (aG (aG (aG (aG (cH (XF.thenN (bC rfl (fun hc=>?_) (fun hc=>?_)))))))))))
        ·have hc49:=hc;clear hc
         refine aO (aR (aB rfl rfl (aQ (XF.thenN (bM (XF.blkR (XF.thenR (XF.thenR (XF.blkR (XF.thenR (XF.res (bV results21 rfl) ?_)))))))))))
         exact ⟨cL (by simp only [dX];rw [if_neg h0,if_neg h1,if_neg h2,if_neg (by rw [cF hr (by simpa using hc49)];simp)]),hS.below⟩
        ·have hc49:=hc;clear hc
         refine bH (XF.blkN (XF.thenN (aR (aI rfl rfl (cE rfl rfl (IntWalk.i64_in _ (by omega)) rfl (aB rfl rfl (aQ ?_)))))))
         exact XF.round (rl - (i+1)) [(1,_),(4,_)] (by omega) ⟨rfl,rfl,trivial⟩ ⟨i+1,by omega,rfl,rfl,cQ hr hall (by simpa using hc49),hS.clear⟩
       ·have hc39:=of_decide_eq_false hc;clear hc
        rw [List.take_of_length_le (by omega)] at hall
        refine cW (XF.thenX (XF.thenX (XF.blkX (XF.thenN (aO (aO (aR (aB rfl rfl (aQ (XF.thenN (bI (cX (fun m l W=>∃ i:Nat,i≤rl∧m=rl - i∧l=[(1,.pointer (some ⟨B1,0,none⟩)),(5,.int .i64 (i:Int))]∧(rs.take i).all (fun r=>decide (iR s r.x=0))=true∧St w [(B1,[.int .i64 s.f.tag,.int .i64 s.f.dim,.slice s.f.a s.f.len s.f.cap,.int .i64 st,.int .i64 sy,.slice ra rl rc],28)] [] [] W) (rl - 0) ([(1,_),(5,_)]) ⟨rfl,rfl,trivial⟩ (⟨0,Nat.zero_le _,rfl,rfl,rfl,hS.clear⟩) ?_))))))))))))
        clear hS
        rintro m l W ⟨i,hi,rfl,rfl,hall2,hS⟩
        refine aO (aO (aR (aI rfl rfl (aN (o':=5) lG rfl rfl rfl (aT isAgg26 rfl (aJ (hS.at_ 0 rfl) rfl) rfl (bX underlying26 rfl rfl (cC rfl rfl rfl (aQ (XF.thenN (bC rfl (fun hc=>?_) (fun hc=>?_)))))))))))
        ·have hc54:=of_decide_eq_true hc;clear hc
         have hk:i < rl:=by omega
         obtain ⟨r,hr⟩:∃ r,rs[i]?=some r:=⟨rs[i]'(by omega),by simp [show i < rs.length by omega]⟩
         obtain ⟨b,off,rfl,hcs⟩:=hrow.at_ hr
         have k1:=aK.agree hS.agree (Nat.zero_le _) hcs
         have k2:=k1.2.2.2.2
         have hri:=hin r (List.mem_of_getElem? hr)
         refine bH (XF.thenN (aO (bI (aO (gP (m:=10) bY hS (by kernel_rfl) (by kernel_rfl) rfl (cB 1 rfl 1 rfl rfl (fun w hw=>aV (o':=0) iJ rfl rfl) rfl (bD 2 rfl 57 0 rfl rfl rfl (fun w hw=>bL (vs:=[_,_,_]) isAgg25 sizeOf25 rfl (aK.agree (aP hw 0) (Nat.zero_le _) (aK.own (j:=0) (m:=3) (hS.at_ 0 rfl) rfl))) rfl (cB 3 rfl 1 rfl rfl (fun w hw=>aV (o':=5) lG rfl rfl) rfl (bD 4 rfl 59 2 rfl rfl rfl (fun w hw=>aX isAgg26 rfl ((aP hw 0).cell (Nat.zero_le _) (aJ (hS.at_ 0 rfl) rfl))) rfl (cB 5 rfl 5 rfl rfl (fun w hw=>aZ rfl) rfl (aM 6 rfl (isV _) (aH _) (rgV (li:=[(60,_),(61,_)]) rfl (aS rfl) ⟨aL 3 (aA rfl rfl rfl),aL 4 (aA rfl rfl rfl),trivial⟩ (fun w hw=>bA  underlying26 sizeOf93 rfl rfl rfl (by omega) rfl) (aD rfl)) (bD 7 rfl 62 5 rfl rfl rfl (fun w hw=>aV Gh rfl rfl) rfl (bD 8 rfl 63 6 rfl rfl rfl (fun w hw=>bL (vs:=[_,_,_,_,_,_]) isAgg56 sizeOf56 rfl (aK.agree (aP hw 0) (Nat.zero_le _) (k2))) rfl ?_)))))))))))))
         refine aM 9 rfl (isV (.int .i64 (iR s r.x))) (aH _) (cP [isV _,isV _] rfl Ga (aS rfl) ⟨cD (aL 1 (aA rfl rfl rfl)),cD (aL 7 (aA rfl rfl rfl)),trivial⟩ (fun vs w' hb hh=>by have e:=bZ (us:=[_,_]) hh;subst e;exact (tK ds d s r.x _ (SIn.below (hS.below.trans (hb.mono hS.below.size)) hs) (WIn.below (hS.below.trans (hb.mono hS.below.size)) hri.x)).mono fun e w2 h=>⟨_,h.1,rfl,h.2⟩) (aD rfl)) ?_
         refine bD 10 rfl 65 8 rfl rfl rfl (fun w hw=>fE rfl) rfl (dB ?_)
         intro W4 hbR hS'
         clear hS;have hS:=hS';clear hS'
         refine aG (aG (aG (aG (aG (aG (aG (aG (aG (aG (cH (XF.thenN (aO (aR (aI rfl rfl (cN rfl rfl rfl (aQ (XF.thenN (bC rfl (fun hc=>?_) (fun hc=>?_)))))))))))))))))))
         ·have hc67:=of_decide_eq_true hc;clear hc
          refine aO (aR (aI rfl rfl (aB rfl rfl (aQ (XF.thenN (bM (XF.blkR (XF.thenR (XF.thenR (XF.blkR (XF.thenR (XF.res (bV results21 rfl) ?_))))))))))))
          exact ⟨cL (by simp only [dX];rw [if_neg h0,if_neg h1,if_neg h2,if_pos hall,Ex hr hall2 hc67]),hS.below⟩
         ·have hc67:=of_decide_eq_false hc;clear hc
          refine bH (XF.blkN (XF.thenN (aR (aI rfl rfl (cE rfl rfl (IntWalk.i64_in _ (by omega)) rfl (aB rfl rfl (aQ ?_)))))))
          exact XF.round (rl - (i+1)) [(1,_),(5,_)] (by omega) ⟨rfl,rfl,trivial⟩ ⟨i+1,by omega,rfl,rfl,cQ hr hall2 (by simpa using hc67),hS.clear⟩
        ·have hc54:=of_decide_eq_false hc;clear hc
         refine cW (XF.thenX (XF.thenX (XF.blkX (XF.thenN (aO (aR (aB rfl rfl (aQ (XF.thenN (bM (XF.res (bV results21 rfl) ?_)))))))))))
         rw [List.take_of_length_le (by omega)] at hall2
         exact ⟨cL (by simp only [dX];rw [if_neg h0,if_neg h1,if_neg h2,if_pos hall,uO hall2]),hS.below⟩
theorem Hb (ds d:Nat) (p:PV) (w:World) (h:PvIn w ds d p):Calls prog 17 #[p.val] w (fun e w'=>e = .returned (.int .i64 (dX p))∧Below w.heap.size w w'):=pdsA_c ds d _ _ _ _ _ _ _ w h.s h.row h.len h.rin
theorem Am (ds d:Nat) (p:PV) (w:World) (h:PvIn w ds d p):Calls prog 21 #[p.val] w (fun e w'=>e = .returned (.int .i64 (dX p))∧Below w.heap.size w w'):=pdsR_c ds d _ _ _ _ _ _ _ w h.s h.row h.len h.rin
theorem confA_c (P0:PV) (p:Int) (wa:Option Addr) (wl wc:Nat) (ws:List Int) (w:World) (hrow:Row w wa ws) (hlen:ws.length=wl) :
  Calls prog 50 #[P0.val,.agg #[.int .i64 p,.slice wa wl wc]] w (fun e w'=>e = .returned (.bool (iS P0 ⟨p,wa,wl,wc,ws⟩))∧Below w.heap.size w w'):=by
 refine cG (args:=[P0.val,.agg #[.int .i64 p,.slice wa wl wc]]) func50 rfl ntmps50 rfl ?_
 have hS:=St.start w
 refine aO (aR (bQ (cs:=[_,_,_,_,_,_]) hS rfl rfl rfl fun B1 W1 hS=>bQ (cs:=[_,_]) hS rfl rfl rfl fun B2 W2 hS=>aB rfl rfl (aQ (XF.thenN (aO (aO (aR (aN (o':=0) lH rfl rfl rfl (aT isAgg3 rfl (aJ (hS.at_ 0 rfl) rfl) rfl (cC rfl rfl rfl (aI rfl rfl (bG (d:=10) rfl (fun hc=>?_) (fun hc=>?_)))))))))))))
 ·have hg10:=of_decide_eq_true hc;clear hc
  have e1:inQ p P0.st=false:=by simp [inQ];omega
  refine aF (d:=10) rfl rfl rfl rfl (aF (d:=10) rfl rfl rfl rfl (aF (d:=10) rfl rfl rfl rfl (aF (d:=10) rfl rfl rfl rfl (aF (d:=10) rfl rfl rfl rfl (aY rfl rfl rfl (aI rfl rfl (aF (d:=17) rfl rfl rfl rfl (aF (d:=17) rfl rfl rfl rfl (aF (d:=17) rfl rfl rfl rfl (aF (d:=17) rfl rfl rfl rfl (aY rfl rfl rfl (aQ (XF.thenN (cU rfl (aO (aR (aB rfl rfl (aQ (XF.thenN (bM (XF.thenR (XF.res (bV results50 rfl) ?_))))))))))))))))))))))
  exact ⟨bR (by simp [iS,e1]),hS.below⟩
 ·have hg10:=of_decide_eq_false hc;clear hc
  refine aC (d:=10) rfl rfl (aN (o':=0) lH rfl rfl rfl (aC (d:=10) rfl rfl (aT isAgg3 rfl (aJ (hS.at_ 0 rfl) rfl) rfl (aC (d:=10) rfl rfl (aN (o':=3) eT rfl rfl rfl (aC (d:=10) rfl rfl (aT isAgg3 rfl (aJ (hS.at_ 1 rfl) rfl) rfl (aC (d:=10) rfl rfl (gV rfl rfl rfl (bN rfl rfl rfl (aI rfl rfl (bG (d:=17) rfl (fun hc=>?_) (fun hc=>?_)))))))))))))
  ·have hg17:=of_decide_eq_true hc;clear hc
   have e1:inQ p P0.st=false:=by simp [inQ];omega
   refine aF (d:=17) rfl rfl rfl rfl (aF (d:=17) rfl rfl rfl rfl (aF (d:=17) rfl rfl rfl rfl (aF (d:=17) rfl rfl rfl rfl (aY rfl rfl rfl (aQ (XF.thenN (cU rfl (aO (aR (aB rfl rfl (aQ (XF.thenN (bM (XF.thenR (XF.res (bV results50 rfl) ?_)))))))))))))))
   exact ⟨bR (by simp [iS,e1]),hS.below⟩
  ·have hg17:=of_decide_eq_false hc;clear hc
   have e1:inQ p P0.st=true:=by simp [inQ];omega
   refine aC (d:=17) rfl rfl (aN (o':=1) iB rfl rfl rfl (aC (d:=17) rfl rfl (aT isAgg30 rfl (aJ (hS.at_ 0 rfl) rfl) rfl (aC (d:=17) rfl rfl (bX underlying30 rfl rfl (aC (d:=17) rfl rfl (dS rfl rfl rfl (bN rfl rfl rfl (aQ (XF.thenN (bC rfl (fun hc=>?_) (fun hc=>?_))))))))))))
   ·have hc22:=of_decide_eq_true hc;clear hc
    have e4:decide (wl≤4096)=false:=by simp;omega
    refine aO (aR (aB rfl rfl (aQ (XF.thenN (bM (XF.thenR (XF.res (bV results50 rfl) ?_)))))))
    exact ⟨bR (by simp [iS,e4]),hS.below⟩
   ·have hc22:=of_decide_eq_false hc;clear hc
    have e4:decide (wl≤4096)=true:=by simp;omega
    refine bH (XF.thenN (aO (aO (aR (aN (o':=1) iB rfl rfl rfl (aT isAgg30 rfl (aJ (hS.at_ 0 rfl) rfl) rfl (bX underlying30 rfl rfl (aI rfl rfl (aQ (XF.thenN (bI (cX (fun m l W=>∃ i:Nat,i≤wl∧m=wl - i∧l=[(2,.pointer (some ⟨B1,0,none⟩)),(24,.slice wa wl wc),(25,.int .i64 (wl:Int)),(26,.int .i64 (i:Int))]∧(ws.take i).all (fun y=>inQ y P0.sy)=true∧St w [(B2,[.int .i64 p,.slice wa wl wc],32),(B1,P0.six,28)] [] [] W) (wl - 0) ([(2,_),(24,_),(25,_),(26,_)]) ⟨rfl,rfl,rfl,rfl,trivial⟩ (⟨0,Nat.zero_le _,rfl,rfl,rfl,hS.clear⟩) ?_))))))))))))
    clear hS
    rintro m l W ⟨i,hi,rfl,rfl,hall,hS⟩
    refine aO (aR (cC rfl rfl rfl (aQ (XF.thenN (aO (bC rfl (fun hc=>?_) (fun hc=>?_)))))))
    ·have hc27:=of_decide_eq_true hc;clear hc
     have hk:i < wl:=by omega
     obtain ⟨b,off,y,rfl,hy,hyc⟩:=hrow.at1 (show i < ws.length by omega)
     have k1:=hS.old hyc
     refine bH (XF.thenN (aO (bI (aO (aR (cJ  underlying30 sizeOf3 rfl rfl rfl (by omega) rfl rfl (aT isAgg3 rfl (by first | assumption | exact hS.old (by assumption)) rfl (aB rfl rfl (aQ (XF.thenN (aO (aR (aI rfl rfl (cC rfl rfl rfl (aI rfl rfl (bG (d:=32) rfl (fun hc=>?_) (fun hc=>?_)))))))))))))))))
     ·have hg32:=of_decide_eq_true hc;clear hc
      have e5:inQ y P0.sy=false:=by simp [inQ];omega
      refine aF (d:=32) rfl rfl rfl rfl (aF (d:=32) rfl rfl rfl rfl (aF (d:=32) rfl rfl rfl rfl (aF (d:=32) rfl rfl rfl rfl (aY rfl rfl rfl (aQ (XF.thenN (cU rfl (aO (aR (aB rfl rfl (aQ (XF.thenN (bM (XF.blkR (XF.thenR (XF.thenR (XF.blkR (XF.thenR (XF.res (bV results50 rfl) ?_)))))))))))))))))))
      exact ⟨bR (by simp only [iS];rw [cF hy e5];simp),hS.below⟩
     ·have hg32:=of_decide_eq_false hc;clear hc
      refine aC (d:=32) rfl rfl (aI rfl rfl (aC (d:=32) rfl rfl (aN (o':=4) eE rfl rfl rfl (aC (d:=32) rfl rfl (aT isAgg3 rfl (aJ (hS.at_ 1 rfl) rfl) rfl (aC (d:=32) rfl rfl (gV rfl rfl rfl (bN rfl rfl rfl (aQ (XF.thenN (bC rfl (fun hc=>?_) (fun hc=>?_))))))))))))
      ·have hc37:=of_decide_eq_true hc;clear hc
       have e5:inQ y P0.sy=false:=by simp [inQ];omega
       refine aO (aR (aB rfl rfl (aQ (XF.thenN (bM (XF.blkR (XF.thenR (XF.thenR (XF.blkR (XF.thenR (XF.res (bV results50 rfl) ?_)))))))))))
       exact ⟨bR (by simp only [iS];rw [cF hy e5];simp),hS.below⟩
      ·have hc37:=of_decide_eq_false hc;clear hc
       have e5:inQ y P0.sy=true:=by simp [inQ];omega
       refine bH (XF.blkN (XF.thenN (aR (cE rfl rfl (IntWalk.i64_in _ (by omega)) rfl (aI rfl rfl (aQ ?_))))))
       exact XF.round (wl - (i+1)) [(2,_),(24,_),(25,_),(26,_)] (by omega) ⟨rfl,rfl,rfl,rfl,trivial⟩ ⟨i+1,by omega,rfl,rfl,cQ hy hall e5,hS.clear⟩
    ·have hc27:=of_decide_eq_false hc;clear hc
     refine cW (XF.thenX (XF.thenX (XF.blkX (XF.thenN (aO (aR (aB rfl rfl (aQ (XF.thenN (bM (XF.res (bV results50 rfl) ?_)))))))))))
     rw [List.take_of_length_le (by omega)] at hall
     exact ⟨bR (by simp [iS,e1,e4,hall]),hS.below⟩
theorem L0 (p:PV) (c:CV) (w:World) (h:CIn w c):Calls prog 50 #[p.val,c.val] w (fun e w'=>e = .returned (.bool (iS p c))∧Below w.heap.size w w'):=confA_c p _ _ _ _ _ w h.row h.len
theorem L3 (ds d:Nat) (p:PV) (c:CV) (w:World) (hp:PvIn w ds d p) (hcf:CIn w c) :
  Calls prog 32 #[p.val,c.val] w (fun e w'=>e = .returned (.int .i64 (fA p c))∧Below w.heap.size w w'):=by
 refine cG (args:=[p.val,c.val]) func32 rfl ntmps32 rfl ?_
 have hS:=St.start w
 refine aO (aR (bQ (cs:=[_,_,_,_,_,_]) hS rfl rfl rfl fun B1 W1 hS=>bQ (cs:=[_,_]) hS rfl rfl rfl fun B2 W2 hS=>aB rfl rfl (aQ (XF.thenN (aO (aO (aR (aU (vs:=[_,_,_,_,_,_]) isAgg28 sizeOf28 rfl (aK.own (j:=0) (m:=6) (hS.at_ 1 rfl) rfl) rfl (bT (vs:=[_]) hS Gi rfl (Hb ds d p _ (hp.below hS.below)) rfl fun W3 hS=>aB rfl rfl (aQ (XF.thenN (aO (aR (aI rfl rfl (cN rfl rfl rfl (aQ (XF.thenN (bC rfl (fun hc=>?_) (fun hc=>?_)))))))))))))))))))
 ·have hc9:=of_decide_eq_true hc;clear hc
  refine aO (aR (aI rfl rfl (aB rfl rfl (aQ (XF.thenN (bM (XF.thenR (XF.res (bV results32 rfl) ?_))))))))
  exact ⟨cL (by simp only [fA];rw [if_pos hc9]),hS.below⟩
 ·have hc9:=of_decide_eq_false hc;clear hc
  refine bH (XF.thenN (aO (aO (aR (aU (vs:=[_,_,_,_,_,_]) isAgg28 sizeOf28 rfl (aK.own (j:=0) (m:=6) (hS.at_ 1 rfl) rfl) rfl (aU (vs:=[_,_]) isAgg32 sizeOf32 rfl (aK.own (j:=0) (m:=2) (hS.at_ 0 rfl) rfl) rfl (bT (vs:=[_,_]) hS goes_50 rfl (L0 p c _ (hcf.below hS.below)) rfl fun W4 hS=>dV rfl rfl (aQ (XF.thenN (bC rfl (fun hc=>?_) (fun hc=>?_)))))))))))
  ·have hc14:=hc;clear hc
   refine aO (aR (aB rfl rfl (aQ (XF.thenN (bM (XF.thenR (XF.res (bV results32 rfl) ?_)))))))
   exact ⟨cL (by simp only [fA];rw [if_neg hc9,if_neg (by simpa using hc14)]),hS.below⟩
  ·have hc14:=hc;clear hc
   refine bH (XF.thenN (aO (aR (aB rfl rfl (aQ (XF.thenN (bM (XF.res (bV results32 rfl) ?_))))))))
   exact ⟨cL (by simp only [fA];rw [if_neg hc9,if_pos (by simpa using hc14)]),hS.below⟩
theorem stepR_c (ds d:Nat) (P0:PV) (p:Int) (wa:Option Addr) (wl wc:Nat) (ws:List Int) (w:World) (hp:PvIn w ds d P0) (hrow:Row w wa ws) (hlen:ws.length=wl) :
  Calls prog 8 #[P0.val,.agg #[.int .i64 p,.slice wa wl wc]] w (fun e w'=>e = .returned (.int .i64 (fA P0 ⟨p,wa,wl,wc,ws⟩))∧Below w.heap.size w w'):=by
 refine cG (args:=[P0.val,.agg #[.int .i64 p,.slice wa wl wc]]) func8 rfl ntmps8 rfl ?_
 have hS:=St.start w
 refine aO (aR (bQ (cs:=[_,_,_,_,_,_]) hS rfl rfl rfl fun B1 W1 hS=>bQ (cs:=[_,_]) hS rfl rfl rfl fun B2 W2 hS=>aB rfl rfl (aQ (XF.thenN (aO (aR (aU (vs:=[_,_,_,_,_,_]) isAgg28 sizeOf28 rfl (aK.own (j:=0) (m:=6) (hS.at_ 1 rfl) rfl) rfl (bT (vs:=[_]) hS zL rfl (Am ds d P0 _ (hp.below hS.below)) rfl fun W3 hS=>aB rfl rfl (aQ (XF.thenN (aO (aO (aR (aI rfl rfl (cN rfl rfl rfl (aQ (XF.thenN (bC rfl (fun hc=>?_) (fun hc=>?_)))))))))))))))))))
 ·have hc10:=of_decide_eq_true hc;clear hc
  refine aO (aR (aI rfl rfl (aB rfl rfl (aQ (XF.thenN (bM (XF.thenR (XF.res (bV results8 rfl) ?_))))))))
  exact ⟨cL (by simp only [fA];rw [if_pos hc10]),hS.below⟩
 ·have hc10:=of_decide_eq_false hc;clear hc
  refine bH (XF.thenN (aO (aO (aR (aN (o':=0) lH rfl rfl rfl (aT isAgg3 rfl (aJ (hS.at_ 0 rfl) rfl) rfl (cC rfl rfl rfl (aI rfl rfl (bG (d:=15) rfl (fun hc=>?_) (fun hc=>?_))))))))))
  ·have hg15:=of_decide_eq_true hc;clear hc
   have e1:inQ p P0.st=false:=by simp [inQ];omega
   refine aF (d:=15) rfl rfl rfl rfl (aF (d:=15) rfl rfl rfl rfl (aF (d:=15) rfl rfl rfl rfl (aF (d:=15) rfl rfl rfl rfl (aF (d:=15) rfl rfl rfl rfl (aY rfl rfl rfl (aI rfl rfl (aF (d:=22) rfl rfl rfl rfl (aF (d:=22) rfl rfl rfl rfl (aF (d:=22) rfl rfl rfl rfl (aF (d:=22) rfl rfl rfl rfl (aY rfl rfl rfl (aQ (XF.thenN (cU rfl (aO (aR (aB rfl rfl (aQ (XF.thenN (bM (XF.thenR (XF.res (bV results8 rfl) ?_))))))))))))))))))))))
   exact ⟨cL (by simp only [fA];rw [if_neg hc10,if_neg (by simp [iS,e1])]),hS.below⟩
  ·have hg15:=of_decide_eq_false hc;clear hc
   refine aC (d:=15) rfl rfl (aN (o':=0) lH rfl rfl rfl (aC (d:=15) rfl rfl (aT isAgg3 rfl (aJ (hS.at_ 0 rfl) rfl) rfl (aC (d:=15) rfl rfl (aN (o':=3) eT rfl rfl rfl (aC (d:=15) rfl rfl (aT isAgg3 rfl (aJ (hS.at_ 1 rfl) rfl) rfl (aC (d:=15) rfl rfl (gV rfl rfl rfl (bN rfl rfl rfl (aI rfl rfl (bG (d:=22) rfl (fun hc=>?_) (fun hc=>?_)))))))))))))
   ·have hg22:=of_decide_eq_true hc;clear hc
    have e1:inQ p P0.st=false:=by simp [inQ];omega
    refine aF (d:=22) rfl rfl rfl rfl (aF (d:=22) rfl rfl rfl rfl (aF (d:=22) rfl rfl rfl rfl (aF (d:=22) rfl rfl rfl rfl (aY rfl rfl rfl (aQ (XF.thenN (cU rfl (aO (aR (aB rfl rfl (aQ (XF.thenN (bM (XF.thenR (XF.res (bV results8 rfl) ?_)))))))))))))))
    exact ⟨cL (by simp only [fA];rw [if_neg hc10,if_neg (by simp [iS,e1])]),hS.below⟩
   ·have hg22:=of_decide_eq_false hc;clear hc
    have e1:inQ p P0.st=true:=by simp [inQ];omega
    refine aC (d:=22) rfl rfl (aN (o':=1) iB rfl rfl rfl (aC (d:=22) rfl rfl (aT isAgg30 rfl (aJ (hS.at_ 0 rfl) rfl) rfl (aC (d:=22) rfl rfl (bX underlying30 rfl rfl (aC (d:=22) rfl rfl (dS rfl rfl rfl (bN rfl rfl rfl (aQ (XF.thenN (bC rfl (fun hc=>?_) (fun hc=>?_))))))))))))
    ·have hc27:=of_decide_eq_true hc;clear hc
     have e4:decide (wl≤4096)=false:=by simp;omega
     refine aO (aR (aB rfl rfl (aQ (XF.thenN (bM (XF.thenR (XF.res (bV results8 rfl) ?_)))))))
     exact ⟨cL (by simp only [fA];rw [if_neg hc10,if_neg (by simp [iS,e4])]),hS.below⟩
    ·have hc27:=of_decide_eq_false hc;clear hc
     have e4:decide (wl≤4096)=true:=by simp;omega
     refine bH (XF.thenN (aO (aO (aR (aB rfl rfl (aQ (XF.thenN (bI (cX (fun m l W=>∃ i:Nat,i≤wl∧m=wl - i∧l=[(2,.pointer (some ⟨B1,0,none⟩)),(3,.pointer (some ⟨B2,0,none⟩)),(6,.int .i64 (i:Int))]∧(ws.take i).all (fun y=>inQ y P0.sy)=true∧St w [(B2,[.int .i64 p,.slice wa wl wc],32),(B1,P0.six,28)] [] [] W) (wl - 0) ([(2,_),(3,_),(6,_)]) ⟨rfl,rfl,rfl,trivial⟩ (⟨0,Nat.zero_le _,rfl,rfl,rfl,hS.clear⟩) ?_)))))))))
     clear hS
     rintro m l W ⟨i,hi,rfl,rfl,hall,hS⟩
     refine aO (aO (aR (aI rfl rfl (aN (o':=1) iB rfl rfl rfl (aT isAgg30 rfl (aJ (hS.at_ 0 rfl) rfl) rfl (bX underlying30 rfl rfl (cC rfl rfl rfl (aQ (XF.thenN (bC rfl (fun hc=>?_) (fun hc=>?_)))))))))))
     ·have hc32:=of_decide_eq_true hc;clear hc
      have hk:i < wl:=by omega
      obtain ⟨b,off,y,rfl,hy,hyc⟩:=hrow.at1 (show i < ws.length by omega)
      have k1:=hS.old hyc
      refine bH (XF.thenN (aO (bI (aO ?_))))
      by_cases hy0:y < 0
      ·have e5:inQ y P0.sy=false:=by simp [inQ];omega
       refine gP (m:=16) bY hS (by kernel_rfl) (by kernel_rfl) rfl (cB 1 rfl 3 rfl rfl (fun w hw=>aV (o':=1) iB rfl rfl) rfl (bD 2 rfl 35 0 rfl rfl rfl (fun w hw=>aX isAgg30 rfl ((aP hw 0).cell (Nat.zero_le _) (aJ (hS.at_ 0 rfl) rfl))) rfl (cB 3 rfl 6 rfl rfl (fun w hw=>aZ rfl) rfl (aM 4 rfl (isV _) (aH _) (rgV (li:=[(36,_),(37,_)]) rfl (aS rfl) ⟨aL 1 (aA rfl rfl rfl),aL 2 (aA rfl rfl rfl),trivial⟩ (fun w hw=>bA  underlying30 sizeOf3 rfl rfl rfl (by omega) rfl) (aD rfl)) (bD 5 rfl 38 3 rfl rfl rfl (fun w hw=>aX isAgg3 rfl ((aP hw 0).cell (Nat.zero_le _) (by assumption))) rfl (aM 6 rfl (isV (.bool true)) (aH _) (jR (li:=[(39,_)]) rfl (aS rfl) ⟨aL 4 (aA rfl rfl rfl),trivial⟩ (fun w hw=>nX rfl rfl) (by rw [decide_eq_true hy0]) (aD rfl)) (bD 7 rfl 40 5 rfl rfl rfl (fun w hw=>aZ rfl) rfl (aM 8 rfl (isV undef) (aH _) (bJ rfl (bK 41 rfl (aA rfl rfl rfl) rfl) (aD rfl)) (aM 9 rfl (isV undef) (aH _) (bJ rfl (bK 41 rfl (aA rfl rfl rfl) rfl) (aD rfl)) (aM 10 rfl (isV undef) (aH _) (bJ rfl (bK 41 rfl (aA rfl rfl rfl) rfl) (aD rfl)) (aM 11 rfl (isV undef) (aH _) (bJ rfl (bK 41 rfl (aA rfl rfl rfl) rfl) (aD rfl)) (aM 12 rfl (isV undef) (aH _) (bJ rfl (bK 41 rfl (aA rfl rfl rfl) rfl) (aD rfl)) (aM 13 rfl (isV undef) (aH _) (bJ rfl (bK 41 rfl (aA rfl rfl rfl) rfl) (aD rfl)) (aM 14 rfl (isV undef) (aH _) (bJ rfl (bK 41 rfl (aA rfl rfl rfl) rfl) (aD rfl)) (aM 15 rfl (isV undef) (aH _) (bJ rfl (bK 41 rfl (aA rfl rfl rfl) rfl) (aD rfl)) (bD 16 rfl 41 6 rfl rfl rfl (fun w hw=>dG rfl rfl) rfl (dB ?_)))))))))))))))))
       intro W4 hbR hS'
       clear hS;have hS:=hS';clear hS'
       refine aG (aG (aG (aG (aG (aG (aG (aG (aG (aG (aG (aG (aG (aG (aG (aG (cH (XF.thenN (cU rfl (aO (aR (aB rfl rfl (aQ (XF.thenN (bM (XF.blkR (XF.thenR (XF.thenR (XF.blkR (XF.thenR (XF.res (bV results8 rfl) ?_))))))))))))))))))))))))))))))
       exact ⟨cL (by simp only [fA];rw [if_neg hc10,if_neg (by simp only [iS];rw [cF hy e5];simp)]),hS.below⟩
      ·skip
       refine gP (m:=16) bY hS (by kernel_rfl) (by kernel_rfl) rfl (cB 1 rfl 3 rfl rfl (fun w hw=>aV (o':=1) iB rfl rfl) rfl (bD 2 rfl 35 0 rfl rfl rfl (fun w hw=>aX isAgg30 rfl ((aP hw 0).cell (Nat.zero_le _) (aJ (hS.at_ 0 rfl) rfl))) rfl (cB 3 rfl 6 rfl rfl (fun w hw=>aZ rfl) rfl (aM 4 rfl (isV _) (aH _) (rgV (li:=[(36,_),(37,_)]) rfl (aS rfl) ⟨aL 1 (aA rfl rfl rfl),aL 2 (aA rfl rfl rfl),trivial⟩ (fun w hw=>bA  underlying30 sizeOf3 rfl rfl rfl (by omega) rfl) (aD rfl)) (bD 5 rfl 38 3 rfl rfl rfl (fun w hw=>aX isAgg3 rfl ((aP hw 0).cell (Nat.zero_le _) (by assumption))) rfl (aM 6 rfl (isV (.bool false)) (aH _) (jR (li:=[(39,_)]) rfl (aS rfl) ⟨aL 4 (aA rfl rfl rfl),trivial⟩ (fun w hw=>nX rfl rfl) (by rw [decide_eq_false hy0]) (aD rfl)) (bD 7 rfl 40 5 rfl rfl rfl (fun w hw=>aZ rfl) rfl (aM 8 rfl (isV _) (aH _) (rgV (li:=[(3,_)]) rfl (bE 41 rfl (aA rfl rfl rfl)) ⟨bP rfl,trivial⟩ (fun w hw=>aV (o':=1) iB rfl rfl) (aD rfl)) (aM 9 rfl (isV _) (aH _) (rgV (li:=[(42,_)]) rfl (bE 41 rfl (aA rfl rfl rfl)) ⟨aL 7 (aA rfl rfl rfl),trivial⟩ (fun w hw=>aX isAgg30 rfl ((aP hw 0).cell (Nat.zero_le _) (aJ (hS.at_ 0 rfl) rfl))) (aD rfl)) (aM 10 rfl (isV _) (aH _) (rgV (li:=[(6,_)]) rfl (bE 41 rfl (aA rfl rfl rfl)) ⟨bP rfl,trivial⟩ (fun w hw=>aZ rfl) (aD rfl)) (aM 11 rfl (isV _) (aH _) (rgV (li:=[(43,_),(44,_)]) rfl (bE 41 rfl (aA rfl rfl rfl)) ⟨aL 8 (aA rfl rfl rfl),aL 9 (aA rfl rfl rfl),trivial⟩ (fun w hw=>bA  underlying30 sizeOf3 rfl rfl rfl (by omega) rfl) (aD rfl)) (aM 12 rfl (isV _) (aH _) (rgV (li:=[(45,_)]) rfl (bE 41 rfl (aA rfl rfl rfl)) ⟨aL 10 (aA rfl rfl rfl),trivial⟩ (fun w hw=>aX isAgg3 rfl ((aP hw 0).cell (Nat.zero_le _) (by assumption))) (aD rfl)) (aM 13 rfl (isV _) (aH _) (rgV (li:=[(2,_)]) rfl (bE 41 rfl (aA rfl rfl rfl)) ⟨bP rfl,trivial⟩ (fun w hw=>aV (o':=4) eE rfl rfl) (aD rfl)) (aM 14 rfl (isV _) (aH _) (rgV (li:=[(47,_)]) rfl (bE 41 rfl (aA rfl rfl rfl)) ⟨aL 12 (aA rfl rfl rfl),trivial⟩ (fun w hw=>aX isAgg3 rfl ((aP hw 0).cell (Nat.zero_le _) (aJ (hS.at_ 1 rfl) rfl))) (aD rfl)) (aM 15 rfl (isV _) (aH _) (rgV (li:=[(46,_),(48,_)]) rfl (bE 41 rfl (aA rfl rfl rfl)) ⟨aL 11 (aA rfl rfl rfl),aL 13 (aA rfl rfl rfl),trivial⟩ (fun w hw=>Dy rfl rfl) (aD rfl)) (aM 16 rfl (isV _) (aH _) (rgV (li:=[(41,_),(49,_)]) rfl (aS rfl) ⟨aL 6 (aA rfl rfl rfl),aL 14 (aA rfl rfl rfl),trivial⟩ (fun w hw=>dH rfl rfl) (aD rfl)) (dB ?_)))))))))))))))))
       intro W5 hbR hS'
       clear hS;have hS:=hS';clear hS'
       refine aG (aG (aG (aG (aG (aG (aG (aG (aG (aG (aG (aG (aG (aG (aG (aG (cH (XF.thenN (bC rfl (fun hc=>?_) (fun hc=>?_)))))))))))))))))))
       ·have hc50:=hc;clear hc
        have e5:inQ y P0.sy=false:=by have:=of_decide_eq_true hc50;simp [inQ];omega
        refine aO (aR (aB rfl rfl (aQ (XF.thenN (bM (XF.blkR (XF.thenR (XF.thenR (XF.blkR (XF.thenR (XF.res (bV results8 rfl) ?_)))))))))))
        exact ⟨cL (by simp only [fA];rw [if_neg hc10,if_neg (by simp only [iS];rw [cF hy e5];simp)]),hS.below⟩
       ·have hc50:=hc;clear hc
        have e5:inQ y P0.sy=true:=by have:=of_decide_eq_false hc50;simp [inQ];omega
        refine bH (XF.blkN (XF.thenN (aR (aI rfl rfl (cE rfl rfl (IntWalk.i64_in _ (by omega)) rfl (aB rfl rfl (aQ ?_)))))))
        exact XF.round (wl - (i+1)) [(2,_),(3,_),(6,_)] (by omega) ⟨rfl,rfl,rfl,trivial⟩ ⟨i+1,by omega,rfl,rfl,cQ hy hall e5,hS.clear⟩
     ·have hc32:=of_decide_eq_false hc;clear hc
      refine cW (XF.thenX (XF.thenX (XF.blkX (XF.thenN (aO (aR (aB rfl rfl (aQ (XF.thenN (bM (XF.res (bV results8 rfl) ?_)))))))))))
      rw [List.take_of_length_le (by omega)] at hall
      exact ⟨cL (by simp only [fA];rw [if_neg hc10,if_pos (by simp [iS,e1,e4,hall])]),hS.below⟩
theorem L4 (ds d:Nat) (p:PV) (c:CV) (w:World) (hp:PvIn w ds d p) (h:CIn w c):Calls prog 8 #[p.val,c.val] w (fun e w'=>e = .returned (.int .i64 (fA p c))∧Below w.heap.size w w'):=stepR_c ds d p _ _ _ _ _ w hp h.row h.len
theorem Iv {f:SF} {ps:List SV} {x:WV} (hp:bS f.tag f.dim f.len=true) (ho:okW (.mk f ps) x=true):eU f.tag f.dim x.f=true:=by
 have h:(if bS f.tag f.dim f.len=true then eU f.tag f.dim x.f else (match (generalizing:=false) ps with | [p,q]=>gA p q x.f x.ps | _=>false))=true:=ho
 rw [if_pos hp] at h
 exact h
theorem L5 {w:World} {d:Nat} {s:SV} (hs:SIn w d s) (hse:dD s=0):∃ S:PS,S.ok∧SIs w S s.f∧∀ (x:WV) (e:Nat),WIn w e x→okW s x=true→∃ y,XIs w S x.f y:=by
 match d,s,hs with
 | d+1,.mk f ps,hs =>
  by_cases hp:bS f.tag f.dim f.len=true
  ·obtain ⟨t,n,a,l,c⟩:=f
   dsimp only at hp
   obtain rfl:l=0:=(fP hp).1
   refine ⟨.one t n,hp,⟨a,c,rfl⟩,fun x e hx ho=>?_⟩
   match e,x,hx,ho with
   | e+1,.mk g qs,hx,ho =>
    exact ⟨.one g.pf,PIs.of hp hx.1 (Iv (f:=⟨t,n,a,0,c⟩) hp ho)⟩
  ·have hse':(if bS f.tag f.dim f.len=true then (0:Int) else if f.tag=5∧f.dim=0∧ps.length=2∧ps.all SV.pl=true then 0 else 50)=0:=hse
   rw [if_neg hp] at hse'
   split at hse'
   ·rename_i hq
    obtain ⟨h5,h0,h2,hall⟩:=hq
    obtain ⟨t,n,a,l,c⟩:=f
    dsimp only at h5 h0 hp
    subst h5;subst h0
    obtain ⟨p,q,rfl⟩:=qJ h2
    have hl:2=l:=hs.1
    subst hl
    simp only [List.all_cons,List.all_nil,Bool.and_true,Bool.and_eq_true] at hall
    obtain ⟨_,b,off,ha,_,hp3,hq3,_,_⟩:=hs.two
    dsimp only at ha
    subst ha
    obtain ⟨⟨pt,pn,pa,pl,pc⟩,pps⟩:=p
    obtain ⟨⟨qt,qn,qa,ql,qc⟩,qps⟩:=q
    have e1:bS pt pn pl=true:=hall.1
    have e2:bS qt qn ql=true:=hall.2
    obtain rfl:pl=0:=(fP e1).1
    obtain rfl:ql=0:=(fP e2).1
    refine ⟨.two pt pn qt qn,⟨e1,e2⟩,⟨b,off,c,pa,pc,qa,qc,rfl,hp3,hq3⟩,fun x e hx ho=>?_⟩
    match e,x,hx,ho with
    | e+1,.mk g qs,hx,ho =>
     have ho':(if bS 5 0 2=true then eU 5 0 g else gA (.mk ⟨pt,pn,pa,0,pc⟩ pps) (.mk ⟨qt,qn,qa,0,qc⟩ qps) g qs)=true:=ho
     rw [if_neg (show ¬ bS 5 0 2=true from hp)] at ho'
     unfold gA at ho'
     simp only [Bool.and_eq_true,Bool.not_eq_true',decide_eq_true_eq] at ho'
     obtain ⟨hbare,hz,h2q,o1,o2⟩:=ho'
     obtain ⟨x1,x2,rfl⟩:=qJ h2q
     obtain ⟨hpl,wb,wo,hpa,_,h6,h7,hx1,hx2⟩:=hx.two
     have hat:=hx.1
     have hg:g.c=0∧g.g=0∧g.rl=0∧g.cl=0:=by
      simp only [hH,hC,hz,Bool.not_false,Bool.true_and,Bool.and_eq_true,Bool.or_eq_true,decide_eq_true_eq] at hbare
      obtain ⟨k1,k2,k3,_⟩:=hbare
      exact ⟨k1.resolve_left (by decide),(k2.resolve_left (by decide)).1,(k2.resolve_left (by decide)).2,k3.resolve_left (by decide)⟩
     have hr0:g.rows=[]:=List.eq_nil_of_length_eq_zero (by have:=hat.rl;omega)
     have hc0:g.cells=[]:=List.eq_nil_of_length_eq_zero (by have:=hat.cl;omega)
     refine ⟨.two x1.f.pf x2.f.pf,?_,hg.2.2.1,hg.2.2.2,hpl,wb,wo,x1.f,x2.f,hpa,h6,h7,PIs.of e1 (WIn.at_ hx1) o1,PIs.of e2 (WIn.at_ hx2) o2⟩
     show (⟨g.z,g.c,g.g,g.rows,g.cells⟩:PF)=pC 0
     unfold pC
     rw [hz,hg.1,hg.2.1,hr0,hc0]
   ·cases hse'
theorem holds3 {p q r:Asr} {vs:List Value} {w:World} (h:nM [p,q,r] vs w):∃ a b c,vs=[a,b,c]∧p a w∧q b w∧r c w:=by
 match vs,h with
 | [a,b,c],h=>exact ⟨a,b,c,rfl,h.1,h.2.1,h.2.2.1⟩
section
variable {n:Nat} {Q:Exit→Act→World→Prop} {l:Fr} {W:World} {ops:Array Oper} {L:List Asr} {i d:Nat} {ty:TypeId} {pos:String} {aft:Array Edge} {gd:Option (Nat×Bool)} {S:PS} {x y z:PX} {p q r:Operand}
end
section
variable {w:World} {S:PS} {sf:SF} {x y z:PX} {vs:List Value}
end
section
variable {P:Program} {ops:Array Oper} {Q:Exit→Act→World→Prop} {σ:Type}
structure RInvG (ops:Array Oper) (t0:Array Value) (d0:List Deferred) (G:σ→World→Prop) (I:σ→Nat→Value→World→Prop) (V:σ→Array Bool→Prop) (s:σ) (L:Array Bool) (a:Act) (w:World):Prop where
 size:a.tmps.size=t0.size
 defers:a.defers=d0
 frame:∀ t,freeT ops t=true→a.tmps.getD t undef=t0.getD t undef
 glob:G s w
 cons:V s L
 done:∀ i d,(ops[i]?).bind (·.dst)=some d→L.getD i false=true→I s i (a.tmps.getD d undef) w
def gE (ops:Array Oper) (L:Array Bool):Prop:=∀ j,L.getD j false=true→∀ x∈aft ops j,L.getD x false=true
def oL (ops:Array Oper) (L:Array Bool) (i:Nat):Prop:=L.getD i false=false∧∀ x∈aft ops i,L.getD x false=true
def Hc (P:Program) (ops:Array Oper) (Q:Exit→Act→World→Prop) (t0:Array Value) (G:σ→World→Prop) (I:σ→Nat→Value→World→Prop) (V:σ→Array Bool→Prop) (i:Nat):Prop :=
 ∀ s L (a:Act) w,(∀ t,freeT ops t=true→a.eval (.tmp t)=t0.getD t undef)→G s w→V s L→L.size=ops.size→gE ops L→oL ops L i→(∀ j d,bO ops i j d=true→I s j (a.eval (.tmp d)) w) →
  wpOp P ops Q i (fun a' w'=>∃ s' v,a'=a.put ((ops[i]?).bind (·.dst)) v∧V s' (L.setIfInBounds i true)∧G s' w'∧(∀ d,(ops[i]?).bind (·.dst)=some d→I s' i v w')∧(∀ j d,(ops[j]?).bind (·.dst)=some d→I s j (a.tmps.getD d undef) w→I s' j (a.tmps.getD d undef) w')) a w
def tM (ops:Array Oper) (k:Nat):Bool:=(List.range ops.size).all fun j=>decide (j < k) || (List.range j).all fun i=>(earlyL ops j).contains i
theorem qQ {k j i:Nat} (h:tM ops k=true) (hj:j < ops.size) (hk:k≤j) (hi:i < j):i∈earlyL ops j:=by
 have h1:=List.all_eq_true.1 h j (List.mem_range.2 hj)
 rw [Bool.or_eq_true,decide_eq_true_eq] at h1
 rcases h1 with h1 | h1
 ·omega
 ·exact List.contains_iff_mem.1 (List.all_eq_true.1 h1 i (List.mem_range.2 hi))
theorem pJ {L:Array Bool} {i:Nat} (h:i∈Region.ready .any ops L) (hs:L.size=ops.size):i < ops.size∧oL ops L i:=by
 obtain ⟨h1,o,ho,hdep⟩:=mem_ready.1 h
 have his:i < ops.size:=(Array.getElem?_eq_some_iff.1 ho).1
 refine ⟨his,?_,fun x hx=>?_⟩
 ·rw [Array.getD_eq_getD_getElem?,Array.getElem?_eq_getElem (by omega)] at h1 ⊢
  simpa using h1
 ·obtain ⟨e,he,h5,h6⟩:=mT ho hx
  have h7:=hdep e he h6
  rw [h5] at h7
  exact h7
theorem jO {L:Array Bool} {i:Nat} (hi:i < L.size) (h:L.getD i false=false):L.toList[i]?=some false:=by
 rw [Array.getD_eq_getD_getElem?,Array.getElem?_eq_getElem hi] at h
 rw [Array.getElem?_toList,Array.getElem?_eq_getElem hi]
 simpa using h
theorem gE.next {L:Array Bool} {i:Nat} (h:gE ops L) (hr:oL ops L i) (hi:i < L.size):gE ops (L.setIfInBounds i true):=fun j hj x hx=>by
 have hx2:L.getD x false=true:=by
  by_cases hji:j=i
  ·subst hji;exact hr.2 x hx
  ·rw [getD_set_ne false (Ne.symm hji)] at hj
   exact h j hj x hx
 by_cases hxi:x=i
 ·subst hxi
  rw [Array.getD_eq_getD_getElem?,Array.getElem?_setIfInBounds_self_of_lt hi];rfl
 ·rw [getD_set_ne false (Ne.symm hxi)];exact hx2
theorem lM {L:Array Bool} {i:Nat} (h:gE ops L) (hr:oL ops L i):∀ x∈earlyL ops i,L.getD x false=true :=
 jB (D:=fun x=>L.getD x false=true) hr.2 (fun j hj x hx=>h j hj x hx)
theorem oM (ht:∀ n,dQ ops n=true→True) {k:Nat} (hl:tM ops k=true) {n0:Nat} (htd:dQ ops n0=true):∀ (m j fuel:Nat) (L:Array Bool) (a:Act) (w:World),ops.size=j+m→k≤j→m≤fuel→L.size=ops.size→gE ops L→(∀ i,i < j→L.getD i false=true)→(∀ i,j≤i→L.getD i false=false) →
  wpList P ops Q (ops.toList.drop j) a w→wpAny P .any ops Q fuel L a w
 | 0,j,fuel,L,a,w,hm,hk,hf,hs,hc,hd,hn,h=>by
  have hnil:Region.ready .any ops L=[]:=by
   cases hr:Region.ready .any ops L with
   | nil=>rfl
   | cons i rest =>
    obtain ⟨h1,h2⟩:=pJ (by rw [hr];exact List.mem_cons_self) hs
    have h3:=h2.1
    rw [hd i (by omega)] at h3
    cases h3
  rw [List.drop_of_length_le (by simp;omega)] at h
  cases fuel with
  | zero=>exact ⟨hnil,h⟩
  | succ fuel=>exact ⟨fun _=>h,by rw [hnil];simp⟩
 | m+1,j,0,L,a,w,hm,hk,hf,hs,hc,hd,hn,h=>by omega
 | m+1,j,fuel+1,L,a,w,hm,hk,hf,hs,hc,hd,hn,h=>by
  have hj:j < ops.size:=by omega
  have only:∀ i∈Region.ready .any ops L,i=j:=fun i hi=>by
   obtain ⟨h1,h2⟩:=pJ hi hs
   rcases Nat.lt_trichotomy i j with h3 | h3 | h3
   ·have h4:=h2.1
    rw [hd i h3] at h4;cases h4
   ·exact h3
   ·have:=lM hc h2 j (qQ hl h1 (by omega) h3)
    rw [hn j (Nat.le_refl _)] at this;cases this
  refine ⟨fun hr=>?_,fun i hi=>?_⟩
  ·have:=fV htd hs hr j hj
   have h2:=hn j (Nat.le_refl _)
   rw [Array.getD_eq_getD_getElem?,Array.getElem?_eq_getElem (by omega)] at this h2
   simp at this h2
   rw [this] at h2;cases h2
  ·obtain ⟨h1,h2⟩:=pJ hi hs
   obtain rfl:=only i hi
   have e:ops.toList.drop i=ops[i]::ops.toList.drop (i+1):=by
    rw [List.drop_eq_getElem_cons (by simpa using hj)];simp
   rw [e] at h
   have key:wpOp P ops Q i (fun a' w'=>wpList P ops Q (ops.toList.drop (i+1)) a' w') a w:=by
    unfold wpOp
    rw [Array.getElem?_eq_getElem hj]
    exact h
   refine wpOp_mono ?_ key
   intro a' w' hq
   refine oM ht hl htd m (i+1) fuel _ a' w' (by omega) (by omega) (by omega) (by simpa using hs) (hc.next h2 (by omega)) (fun x hx=>?_) (fun x hx=>?_) hq
   ·by_cases hxi:x=i
    ·subst hxi
     rw [Array.getD_eq_getD_getElem?,Array.getElem?_setIfInBounds_self_of_lt (by omega)];rfl
    ·rw [getD_set_ne false (Ne.symm hxi)];exact hd x (by omega)
   ·rw [getD_set_ne false (by omega)];exact hn x (by omega)
theorem An {t0:Array Value} {d0:List Deferred} {G:σ→World→Prop} {I:σ→Nat→Value→World→Prop} {V:σ→Array Bool→Prop} {k:Nat} (hk:k < ops.size) (hl:tM ops k=true) (ht:dQ ops t0.size=true)
  (hstep:∀ i,i < k→Hc P ops Q t0 G I V i)
  (hfin:∀ s L a w,RInvG ops t0 d0 G I V s L a w→(∀ i,i < k→L.getD i false=true)→(∀ i,k≤i→L.getD i false=false)→wpList P ops Q (ops.toList.drop k) a w) :
  ∀ (fuel:Nat) (s:σ) (L:Array Bool) (a:Act) (w:World),L.size=ops.size→L.toList.count false≤fuel→gE ops L→(∀ i,k≤i→L.getD i false=false)→RInvG ops t0 d0 G I V s L a w→wpAny P .any ops Q fuel L a w:=by
 intro fuel
 induction fuel with
 | zero =>
  intro s L a w hs hc hcl hn h
  have:=eR _ _ (jO (by omega) (hn k (Nat.le_refl _)))
  omega
 | succ fuel ih =>
  intro s L a w hs hc hcl hn h
  by_cases hall:∀ i,i < k→L.getD i false=true
  ·have hcnt:ops.size - k≤L.toList.count false:=by
    have key:∀ (l:List Bool) (k:Nat),(∀ i,k≤i→i < l.length→l[i]?=some false)→l.length - k≤l.count false:=by
     intro l
     induction l with
     | nil=>intro k _;simp
     | cons b l ihl =>
      intro k hk
      cases k with
      | zero =>
       have h0:=hk 0 (Nat.le_refl _) (by simp)
       simp at h0;subst h0
       have:=ihl 0 (fun i _ hi=>by have:=hk (i+1) (by omega) (by simpa using hi);simpa using this)
       simp at this ⊢;omega
      | succ k =>
       have:=ihl k (fun i hi hi2=>by have:=hk (i+1) (by omega) (by simpa using hi2);simpa using this)
       rw [List.count_cons];simp;omega
    have:=key L.toList k (fun i h1 h2=>jO (by simpa using h2) (hn i h1))
    simpa [hs] using this
   exact oM (fun _ _=>trivial) hl ht (ops.size - k) k (fuel+1) L a w (by omega) (Nat.le_refl _) (by omega) hs hcl hall hn (hfin s L a w h hall hn)
  ·refine ⟨fun hr=>?_,fun i hi=>?_⟩
   ·exfalso;apply hall
    intro i hi
    have h1:=fV ht hs hr i (by omega)
    rw [Array.getD_eq_getD_getElem?,Array.getElem?_eq_getElem (by omega)] at h1 ⊢
    simpa using h1
   ·obtain ⟨his,hr⟩:=pJ hi hs
    have hik:i < k:=by
     rcases Nat.lt_or_ge i k with h1 | h1
     ·exact h1
     ·exfalso;apply hall
      intro x hx
      exact lM hcl hr x (qQ hl his h1 (by omega))
    have hc1:=eR _ _ (jO (by omega) hr.1)
    refine wpOp_mono ?_ (hstep i hik s L a w (fun t ht=>h.frame t ht) h.glob h.cons hs hcl hr (fun j d hw=>?_))
    ·rintro a' w' ⟨s',v,rfl,hV,hG,hI,hst⟩
     refine ih s' _ _ _ (by simpa using hs) ?_ (hcl.next hr (by omega)) (fun x hx=>by rw [getD_set_ne false (by omega)];exact hn x hx) ⟨by rw [kK];exact h.size,by rw [iC];exact h.defers,fun t hf=>?_,hG,hV,fun j d hd hj=>?_⟩
     ·rw [Array.toList_setIfInBounds];omega
     ·rw [eH ?_]
      ·exact h.frame t hf
      ·intro hd
       obtain ⟨o,ho,hd⟩:=Option.bind_eq_some_iff.1 hd
       have:=Array.all_eq_true'.1 hf o (Array.mem_of_getElem? ho)
       simp [hd] at this
     ·by_cases hji:j=i
      ·subst hji
       rw [qE hd (by rw [h.size];exact (fU ht hd).1)]
       exact hI d hd
      ·rw [getD_set_ne false (Ne.symm hji)] at hj
       rw [eH (fun e=>hji ((fU ht e).2 j hd))]
       exact hst j d hd (h.done j d hd hj)
    ·have:j∈aft ops i:=by
      unfold bO at hw
      unfold aft
      cases ho:ops[i]? with
      | none=>simp [ho] at hw
      | some o =>
       simp only [ho,Bool.and_eq_true,beq_iff_eq] at hw
       obtain ⟨e,he,h2⟩:=Array.any_eq_true'.1 hw.1
       simp only [Bool.and_eq_true,beq_iff_eq] at h2
       exact List.mem_map.2 ⟨e,List.mem_filter.2 ⟨Array.mem_toList_iff.2 he,h2.2⟩,h2.1⟩
     have hd:(ops[j]?).bind (·.dst)=some d:=by
      unfold bO at hw
      simp only [Bool.and_eq_true,beq_iff_eq] at hw
      exact hw.2
     exact h.done j d hd (hr.2 j this)
end
structure Sg where
 ev:Option Value
 bs:List (Nat×Nat)
def OE (ca:Nat→Option Value→List Value) (ta:Nat→TypeId) (Os:Option Value→Own) (s:Sg):Own:=s.bs.map (fun q=>(q.2,ca q.1 s.ev,ta q.1))++Os s.ev
def XB (O:Own) (G:cR) (b:Nat):Prop:=(∃ p∈O,p.1=b)∨(∃ g∈G,g.v.ownBlock=some b)
def eP (lo:Nat) (X:Nat→Prop) (w w':World):Prop:=(w'.os=w.os∧w'.tape=w.tape∧w'.output=w.output)∧w.heap.size≤w'.heap.size∧∀ b,lo≤b→b < w.heap.size→¬ X b→w'.heap[b]?=w.heap[b]?
def AwS (lo:Nat) (X:Nat→Prop) (p:Asr):Asr:=fun v w=>∀ w',eP lo X w w'→p v w'
section
variable {lo:Nat} {X X':Nat→Prop} {w w' w'':World} {p:Asr} {v c:Value}
theorem eP.refl (lo:Nat) (X:Nat→Prop) (w:World):eP lo X w w:=⟨⟨rfl,rfl,rfl⟩,Nat.le_refl _,fun _ _ _ _=>rfl⟩
theorem vU (h:Below w.heap.size w w'):eP lo X w w':=⟨⟨h.os,h.tape,h.output⟩,h.size,fun b _ hb _=>h.block b hb⟩
theorem eP.trans (h:eP lo X w w') (k:eP lo X' w' w'') (hx:∀ b,X' b→X b∨w.heap.size≤b):eP lo X w w'' :=
 ⟨⟨k.1.1.trans h.1.1,k.1.2.1.trans h.1.2.1,k.1.2.2.trans h.1.2.2⟩,Nat.le_trans h.2.1 k.2.1,fun b h1 h2 h3=>(k.2.2 b h1 (Nat.lt_of_lt_of_le h2 h.2.1) (fun hb=>(hx b hb).elim h3 (fun h4=>by omega))).trans (h.2.2 b h1 h2 h3)⟩
theorem eP.mono (h:eP 0 X w w'):eP lo X w w':=⟨h.1,h.2.1,fun b _ hb hx=>h.2.2 b (Nat.zero_le _) hb hx⟩
theorem AwS.here (h:AwS lo X p v w):p v w:=h w (eP.refl _ _ _)
theorem AwS.next (h:AwS lo X p v w) (hs:eP 0 X w w') (hx:∀ b,X' b→X b∨w.heap.size≤b):AwS lo X' p v w':=fun w2 h2=>h w2 (hs.mono.trans h2 hx)
theorem Ao:AwS lo X (isV c) c w:=fun _ _=>rfl
end
section
variable {P:Program} {n:Nat} {Q:Exit→Act→World→Prop} {l:Fr} {w0 W:World} {ops:Array Oper} {os:List Oper} {K:List (Nat×World)} {L:List Asr} {i:Nat}
variable {al:List Nat} {ca:Nat→Option Value→List Value} {ta:Nat→TypeId} {Os:Option Value→Own} {Gs:Option Value→cR} {lo ef jy:Nat} {s:Sg}
theorem St.drops {O:Own} {G:cR} {w:World}:∀ (A:Own),St w0 (A++O) G K w→St w0 O G K w
 | [],h=>h
 | _::A,h=>St.drops A h.tail
def GG (w0:World) (K:List (Nat×World)) (lo:Nat) (ca:Nat→Option Value→List Value) (ta:Nat→TypeId) (Os:Option Value→Own) (Gs:Option Value→cR) (s:Sg) (w:World):Prop:=St w0 (OE ca ta Os s) (Gs s.ev) K w∧lo≤w.heap.size∧∀ q∈s.bs,lo≤q.2
def VG (al:List Nat) (ef:Nat) (s:Sg) (L:Array Bool):Prop:=(∀ a∈al,L.getD a false=true↔∃ B,(a,B)∈s.bs)∧(∀ q∈s.bs,q.1∈al)∧s.bs.Pairwise (fun p q=>p.1≠q.1)∧(L.getD ef false=true↔s.ev.isSome=true)
def IG (al:List Nat) (ef jy lo:Nat) (ca:Nat→Option Value→List Value) (ta:Nat→TypeId) (Os:Option Value→Own) (Gs:Option Value→cR) (L:List Asr) (s:Sg) (i:Nat) (v:Value) (w:World):Prop :=
 (i∈al→∃ B,(i,B)∈s.bs∧v = .pointer (some ⟨B,0,none⟩))∧(i=ef→s.ev=some v)∧(i=jy→∀ y,s.ev=some y→v=y)∧(i∉al→i≠ef→AwS lo (XB (OE ca ta Os s) (Gs s.ev)) (atI L i) v w)
def Tr (ops:Array Oper) (jy:Nat) (ca:Nat→Option Value→List Value) (ta:Nat→TypeId) (Os:Option Value→Own) (Gs:Option Value→cR) (s s':Sg) (a:Act) (w w':World):Prop :=
 eP 0 (XB (OE ca ta Os s) (Gs s.ev)) w w'∧(∀ b,XB (OE ca ta Os s') (Gs s'.ev) b→XB (OE ca ta Os s) (Gs s.ev) b∨w.heap.size≤b)∧(∀ q∈s.bs,q∈s'.bs)∧(s'.ev=s.ev∨(s.ev=none∧∃ y,s'.ev=some y∧∀ d,(ops[jy]?).bind (·.dst)=some d→a.eval (.tmp d)=y))
theorem Tr.refl {a:Act} {w w':World} (h:Below w.heap.size w w'):Tr ops jy ca ta Os Gs s s a w w':=⟨vU h,fun b hb=>.inl hb,fun q hq=>hq,.inl rfl⟩
def SG (P:Program) (n:Nat) (ops:Array Oper) (Q:Exit→Act→World→Prop) (l:Fr) (w0:World) (K:List (Nat×World)) (lo:Nat) (al:List Nat) (ef jy:Nat) (ca:Nat→Option Value→List Value) (ta:Nat→TypeId) (Os:Option Value→Own) (Gs:Option Value→cR) (L:List Asr) (i:Nat):Prop :=
 ∀ t0,Has n l t0→∀ s LB (a:Act) w,(∀ t,freeT ops t=true→a.eval (.tmp t)=t0.tmps.getD t undef)→GG w0 K lo ca ta Os Gs s w→VG al ef s LB→LB.size=ops.size→gE ops LB→oL ops LB i→(∀ j d,bO ops i j d=true→IG al ef jy lo ca ta Os Gs L s j (a.eval (.tmp d)) w) →
  wpOp P ops Q i (fun a' w'=>∃ s' v,a'=a.put ((ops[i]?).bind (·.dst)) v∧VG al ef s' (LB.setIfInBounds i true)∧GG w0 K lo ca ta Os Gs s' w'∧Tr ops jy ca ta Os Gs s s' a w w'∧(∀ d,(ops[i]?).bind (·.dst)=some d→IG al ef jy lo ca ta Os Gs L s' i v w')) a w
theorem SG.step (h:SG P n ops Q l w0 K lo al ef jy ca ta Os Gs L i):∀ a,Has n l a→Hc P ops Q a.tmps (GG w0 K lo ca ta Os Gs) (IG al ef jy lo ca ta Os Gs L) (VG al ef) i:=fun t0 h0 s LB a w hF hG hV hs hc hr hD=>by
 refine wpOp_mono ?_ (h t0 h0 s LB a w hF hG hV hs hc hr hD)
 rintro a' w' ⟨s',v,h1,h2,h3,⟨t1,t2,t3,t4⟩,h5⟩
 refine ⟨s',v,h1,h2,h3,h5,fun j d hd hj=>⟨fun hj1=>?_,fun hj1=>?_,fun hj1 y hy=>?_,fun h6 h7=>(hj.2.2.2 h6 h7).next t1 t2⟩⟩
 ·obtain ⟨B,hB,e⟩:=hj.1 hj1
  exact ⟨B,t3 _ hB,e⟩
 ·rcases t4 with t4 | ⟨t4,_⟩
  ·rw [t4];exact hj.2.1 hj1
  ·have:=hj.2.1 hj1;rw [t4] at this;cases this
 ·rcases t4 with t4 | ⟨t4,y',t5,t6⟩
  ·rw [t4] at hy;exact hj.2.2.1 hj1 y hy
  ·rw [t5] at hy;cases hy
   subst hj1
   exact t6 d hd
theorem SG.ext {L1 L2:List Asr} (ht:dQ ops n=true) (hag:∀ j,j≤i→atI L1 j=atI L2 j) (h:SG P n ops Q l w0 K lo al ef jy ca ta Os Gs L1 i):SG P n ops Q l w0 K lo al ef jy ca ta Os Gs L2 i:=fun t0 h0 s LB a w hF hG hV hs hc hr hD=>by
 have hlt:∀ j d,bO ops i j d=true→j < i:=fun j d hw=>by
  cases ho:ops[i]? with
  | none=>simp [bO,ho] at hw
  | some o =>
   simp only [bO,ho,Bool.and_eq_true,beq_iff_eq] at hw
   obtain ⟨e,he,h2⟩:=Array.any_eq_true'.1 hw.1
   simp only [Bool.and_eq_true,beq_iff_eq] at h2
   rw [← h2.1];exact kJ ht ho e he h2.2
 have h2:=h t0 h0 s LB a w hF hG hV hs hc hr (fun j d hw=>by unfold IG;rw [hag j (Nat.le_of_lt (hlt j d hw))];exact hD j d hw)
 unfold IG at h2
 rw [hag i (Nat.le_refl _)] at h2
 exact h2
def kV (ops:Array Oper) (ef i:Nat):Bool:=Nat.ble ops.size ef || (earlyL ops ef).contains i
def oN (ops:Array Oper) (ef jy i:Nat):Bool := !Nat.beq i jy || kV ops ef i
theorem mG (h:oN ops ef jy i=true):i=jy→kV ops ef i=true:=fun e=>by
 unfold oN at h
 rw [e,Nat.beq_refl] at h
 rw [e];exact h
theorem rR {L:Array Bool} (hV:VG al ef s L) (hs:L.size=ops.size) (hc:gE ops L) (hi:L.getD i false=false) (he:kV ops ef i=true):s.ev=none:=by
 cases hev:s.ev with
 | none=>rfl
 | some v =>
  have hd:L.getD ef false=true:=hV.2.2.2.2 (by rw [hev];rfl)
  unfold kV at he
  rw [Bool.or_eq_true] at he
  rcases he with he | he
  ·have h1:ops.size≤ef:=Nat.le_of_ble_eq_true he
   rw [Array.getD_eq_getD_getElem?,Array.getElem?_eq_none (by omega)] at hd
   cases hd
  ·have:=jB (D:=fun x=>L.getD x false=true) (hc ef hd) (fun j hj x hx=>hc j hj x hx) i (List.contains_iff_mem.1 he)
   rw [hi] at this;cases this
theorem vV {t0:Act} (h0:Has n l t0) {a:Act} {w:World} (hF:∀ t,freeT ops t=true→a.eval (.tmp t)=t0.tmps.getD t undef) (hD:∀ j d,bO ops i j d=true→IG al ef jy lo ca ta Os Gs L s j (a.eval (.tmp d)) w)
  (hn:∀ j d,bO ops i j d=true→j∈al∨j=ef→atI L j=anyA):∀ j d,bO ops i j d=true→atI L j (a.eval (.tmp d)) w:=fun j d hw=>by
 by_cases h1:j∈al∨j=ef
 ·rw [hn j d hw h1];trivial
 ·rw [not_or] at h1
  exact ((hD j d hw).2.2.2 h1.1 h1.2).here
def nP (al:List Nat) (ef:Nat) (L:List Asr):Prop:=∀ j,j∈al∨j=ef→atI L j=anyA
theorem Cz {L:Array Bool} (hV:VG al ef s L) (hi:i∉al) (he:i≠ef):VG al ef s (L.setIfInBounds i true) :=
 ⟨fun a ha=>by rw [getD_set_ne false (fun e=>hi (by rw [e];exact ha))];exact hV.1 a ha,hV.2.1,hV.2.2.1,by rw [getD_set_ne false he];exact hV.2.2.2⟩
variable {d:Nat} {op:Op} {ty:TypeId} {pos:String} {aft_:Array Edge} {v:Value} {gd:Option (Nat×Bool)}
theorem uP (hal:i∉al) (hie:i≠ef) (hij:i=jy→kV ops ef i=true) (hi:ops[i]?=some ⟨some d,op,ty,pos,aft_,gd⟩) (hNo:nP al ef L)
  (h:∀ (t0 a:Act) s w,Has n l t0→(∀ t,freeT ops t=true→a.eval (.tmp t)=t0.tmps.getD t undef)→GG w0 K lo ca ta Os Gs s w→(kV ops ef i=true→s.ev=none)→(∀ j d,bO ops i j d=true→IG al ef jy lo ca ta Os Gs L s j (a.eval (.tmp d)) w)→(∀ j d,bO ops i j d=true→atI L j (a.eval (.tmp d)) w) →
   wpOp P ops Q i (fun a' w'=>∃ v,a'=a.put (some d) v∧AwS lo (XB (OE ca ta Os s) (Gs s.ev)) (atI L i) v w'∧Below w.heap.size w w') a w):SG P n ops Q l w0 K lo al ef jy ca ta Os Gs L i:=fun t0 h0 s LB a w hF hG hV hs hc hr hD=>by
 refine wpOp_mono ?_ (h t0 a s w h0 hF hG (fun he=>rR hV hs hc hr.1 he) hD (vV h0 hF hD fun j d _ hj=>hNo j hj))
 rintro a' w' ⟨v,rfl,hA,hb⟩
 refine ⟨s,v,by rw [hi];rfl,Cz hV hal hie,⟨hG.1.grow hb,Nat.le_trans hG.2.1 hb.size,hG.2.2⟩,Tr.refl hb,fun _ _=>⟨fun h=>absurd h hal,fun h=>absurd h hie,(fun h y hy=>by rw [rR hV hs hc hr.1 (hij h)] at hy;cases hy),fun _ _=>hA⟩⟩
theorem Ap {o:Oper} {a:Act} {w w':World} {K':Act→World→Prop} (hi:ops[i]?=some o) (hw:Region.wanted o (yielded ops a.tmps)=true) (hr:(execOp a.eval o).run P w = .ok (.value v) w') (hK:K' (a.put o.dst v) w'):wpOp P ops Q i K' a w:=by
 unfold wpOp
 simp only [hi,hw,if_true]
 refine .inl ?_
 unfold Oper.wp
 rw [hr]
 exact hK
theorem sgV (li:Fr) (hal:al.contains i=false) (hie:Nat.beq i ef=false) (hij:oN ops ef jy i=true) (hi:ops[i]?=some ⟨some d,op,ty,pos,aft_,gd⟩) (hNo:nP al ef L) (hw:gT ops L i ⟨some d,op,ty,pos,aft_,gd⟩) (hli:wX n ops l L i li)
  (hr:∀ ev w,(kV ops ef i=true→ev=none)→St w0 (Os ev) (Gs ev) K w→fZ P li ⟨some d,op,ty,pos,#[],none⟩ w v w) (hI:atI L i=isV v):SG P n ops Q l w0 K lo al ef jy ca ta Os Gs L i :=
 uP (fun h=>by rw [List.contains_iff_mem.2 h] at hal;cases hal) (fun e=>by rw [e,Nat.beq_refl] at hie;cases hie) (mG hij) hi hNo fun t0 a s w h0 hF hG he hD hD'=>by
  have hS:St w0 (Os s.ev) (Gs s.ev) K w:=St.drops _ hG.1
  exact Ap hi (hw.yes hD') (by rw [fO a.eval _ _ _ _ pos _ #[] _ none];exact hr s.ev w he hS a.eval (nZ h0 hF hD' hli)) ⟨v,rfl,by rw [hI];exact Ao,Below.refl _ _⟩
theorem sgVe (li:Fr) {v':Value} (hal:al.contains i=false) (hie:Nat.beq i ef=false) (hij:oN ops ef jy i=true) (hi:ops[i]?=some ⟨some d,op,ty,pos,aft_,gd⟩) (hNo:nP al ef L) (hw:gT ops L i ⟨some d,op,ty,pos,aft_,gd⟩) (hli:wX n ops l L i li)
  (hr:∀ ev w,(kV ops ef i=true→ev=none)→St w0 (Os ev) (Gs ev) K w→fZ P li ⟨some d,op,ty,pos,#[],none⟩ w v w) (he:v=v') (hI:atI L i=isV v'):SG P n ops Q l w0 K lo al ef jy ca ta Os Gs L i:=by
 subst he;exact sgV li hal hie hij hi hNo hw hli hr hI
theorem rS (hal:al.contains i=false) (hie:Nat.beq i ef=false) (hij:oN ops ef jy i=true) (hi:ops[i]?=some ⟨some d,op,ty,pos,aft_,gd⟩) (hNo:nP al ef L) (hw:iI ops L i ⟨some d,op,ty,pos,aft_,gd⟩) (hI:atI L i=isV undef):SG P n ops Q l w0 K lo al ef jy ca ta Os Gs L i :=
 uP (fun h=>by rw [List.contains_iff_mem.2 h] at hal;cases hal) (fun e=>by rw [e,Nat.beq_refl] at hie;cases hie) (mG hij) hi hNo fun t0 a s w h0 hF hG he hD hD'=>by
  unfold wpOp
  simp only [hi,hw.no hD']
  exact ⟨undef,rfl,by rw [hI];exact Ao,Below.refl _ _⟩
theorem Hd {f:FuncId} {xs:List Operand} {ts:Array TypeId} (ps:List Asr) (hal:al.contains i=false) (hie:Nat.beq i ef=false) (hij:oN ops ef jy i=true) (hi:ops[i]?=some ⟨some d,.call { callee:=.value (.func f),args:=xs.toArray,argTypes:=ts },ty,pos,aft_,gd⟩) (hNo:nP al ef L) (hgo:bW P f=true)
  (hw:gT ops L i ⟨some d,.call { callee:=.value (.func f),args:=xs.toArray,argTypes:=ts },ty,pos,aft_,gd⟩) (hp:wY n ops l L i xs ps)
  {p:Asr} (hc:∀ vs ev w,(kV ops ef i=true→ev=none)→St w0 (Os ev) (Gs ev) K w→lo≤w.heap.size→nM ps vs w→Calls P f vs.toArray w (zM p w)) (hI:atI L i=p):SG P n ops Q l w0 K lo al ef jy ca ta Os Gs L i :=
 uP (fun h=>by rw [List.contains_iff_mem.2 h] at hal;cases hal) (fun e=>by rw [e,Nat.beq_refl] at hie;cases hie) (mG hij) hi hNo fun t0 a s w h0 hF hG he hD hD'=>by
  have hS:St w0 (Os s.ev) (Gs s.ev) K w:=St.drops _ hG.1
  have h1:=hc (xs.map a.eval) s.ev w he hS hG.2.1 (jA h0 hF hD' hp)
  rw [show (xs.map a.eval).toArray=xs.toArray.map a.eval by simp] at h1
  unfold wpOp
  simp only [hi,hw.yes hD',if_true]
  refine .inl ?_
  unfold Oper.wp
  rw [lX P a.eval w f xs.toArray ts _ rfl rfl hgo,Oper.upon_enter]
  refine h1.mono ?_
  rintro e w' ⟨v,rfl,hv,hb⟩
  refine ⟨v,by simp,?_,hb⟩
  rw [hI]
  intro w2 h2
  refine hv w2 ⟨h2.2.1,fun b h3 h4=>h2.2.2 b (Nat.le_trans hG.2.1 h3) h4 (fun hx=>?_)⟩
  rcases hx with ⟨q,hq,rfl⟩ | ⟨g,hg,hgb⟩
  ·have:=dI (hG.1.own q hq).2;omega
  ·have:=(hG.1.glt hg hgb).2;omega
theorem C0 {T:TypeId} {z:Value} (hal:al.contains i=true) (hie:Nat.beq i ef=false) (hij:Nat.beq i jy=false) (hi:ops[i]?=some ⟨some d,.alloc T,ty,pos,aft_,none⟩) (hT:ta i=T) (hz:∀ w,(zeroValue T).run P w = .ok z w) (hc:∀ ev,(kV ops ef i=true→ev=none)→z.cells=(ca i ev).toArray):SG P n ops Q l w0 K lo al ef jy ca ta Os Gs L i:=fun t0 h0 s LB a w hF hG hV hs hcl hr hD=>by
 have hal':i∈al:=List.contains_iff_mem.1 hal
 have hie':i≠ef:=fun e=>by rw [e,Nat.beq_refl] at hie;cases hie
 have hcz:=hc s.ev (fun he=>rR hV hs hcl hr.1 he)
 have hB:Below w.heap.size w (w.alloc (.cells (ca i s.ev).toArray T)):=(Below.refl _ _).alloc (Nat.le_refl _) _
 have hnot:¬ ∃ B,(i,B)∈s.bs:=fun h=>by have:=(hV.1 i hal').2 h;rw [hr.1] at this;cases this
 refine Ap hi rfl (v:=.pointer (some ⟨w.heap.size,0,none⟩)) (w':=w.alloc (.cells (ca i s.ev).toArray T)) (by unfold execOp;simp only [];simp [Instr.alloc,newVar,newRow,hz,hcz]) ?_
 have hX:∀ b,XB (OE ca ta Os ⟨s.ev,(i,w.heap.size)::s.bs⟩) (Gs s.ev) b→XB (OE ca ta Os s) (Gs s.ev) b∨w.heap.size≤b:=by
  rintro b (⟨q,hq,rfl⟩ | h)
  ·unfold OE at hq
   rw [List.map_cons,List.cons_append] at hq
   rcases List.mem_cons.1 hq with rfl | hq
   ·exact .inr (Nat.le_refl _)
   ·exact .inl (.inl ⟨q,hq,rfl⟩)
  ·exact .inl (.inr h)
 refine ⟨⟨s.ev,(i,w.heap.size)::s.bs⟩,_,by rw [hi];rfl,⟨fun a ha=>?_,fun q hq=>?_,List.Pairwise.cons (fun q hq e=>hnot ⟨q.2,by rw [show i=q.1 from e];exact hq⟩) hV.2.2.1,by rw [getD_set_ne false hie'];exact hV.2.2.2⟩,⟨?_,Nat.le_trans hG.2.1 hB.size,fun q hq=>?_⟩,⟨vU hB,hX,fun q hq=>List.mem_cons_of_mem _ hq,.inl rfl⟩,fun _ _=>⟨fun _=>⟨w.heap.size,List.mem_cons_self,rfl⟩,fun h=>absurd h hie',fun h=>absurd hij (by rw [h,Nat.beq_refl];decide),fun h=>absurd hal' h⟩⟩
 ·by_cases hai:a=i
  ·subst hai
   rw [Array.getD_eq_getD_getElem?,Array.getElem?_setIfInBounds_self_of_lt (by rw [hs];exact (Array.getElem?_eq_some_iff.1 hi).1)]
   exact ⟨fun _=>⟨_,List.mem_cons_self⟩,fun _=>rfl⟩
  ·rw [getD_set_ne false (Ne.symm hai),hV.1 a ha]
   constructor
   ·rintro ⟨B,hB⟩;exact ⟨B,List.mem_cons_of_mem _ hB⟩
   ·rintro ⟨B,hB⟩
    rcases List.mem_cons.1 hB with h | h
    ·exact absurd (congrArg Prod.fst h) hai
    ·exact ⟨B,h⟩
 ·rcases List.mem_cons.1 hq with rfl | hq
  ·exact hal'
  ·exact hV.2.1 q hq
 ·have h1:=hG.1.alloc (ca i s.ev) (ta i)
  rw [hT] at h1
  unfold OE
  rw [List.map_cons,List.cons_append,hT]
  exact h1
 ·rcases List.mem_cons.1 hq with rfl | hq
  ·exact hG.2.1
  ·exact hG.2.2 q hq
theorem L6 {o:Oper} (hal:al.contains ef=false) (hij:Nat.beq ef jy=false) (hi:ops[ef]?=some o)
  (h:∀ (t0 a:Act) bs w,Has n l t0→(∀ t,freeT ops t=true→a.eval (.tmp t)=t0.tmps.getD t undef)→GG w0 K lo ca ta Os Gs ⟨none,bs⟩ w→bs.Pairwise (fun p q=>p.1≠q.1)→(∀ j d,bO ops ef j d=true→IG al ef jy lo ca ta Os Gs L ⟨none,bs⟩ j (a.eval (.tmp d)) w) →
   wpOp P ops Q ef (fun a' w'=>∃ v y,a'=a.put o.dst v∧(∀ d,o.dst=some d→v=y)∧St w0 (OE ca ta Os ⟨some y,bs⟩) (Gs (some y)) K w'∧eP 0 (XB (OE ca ta Os ⟨none,bs⟩) (Gs none)) w w'∧(∀ b,XB (OE ca ta Os ⟨some y,bs⟩) (Gs (some y)) b→XB (OE ca ta Os ⟨none,bs⟩) (Gs none) b∨w.heap.size≤b)∧(∀ d,(ops[jy]?).bind (·.dst)=some d→a.eval (.tmp d)=y)) a w):SG P n ops Q l w0 K lo al ef jy ca ta Os Gs L ef:=fun t0 h0 s LB a w hF hG hV hs hc hr hD=>by
 have hal':ef∉al:=fun h=>by rw [List.contains_iff_mem.2 h] at hal;cases hal
 obtain ⟨ev,bs⟩:=s
 have hev:ev=none:=by
  cases ev with
  | none=>rfl
  | some v=>have:=hV.2.2.2.2 rfl;rw [hr.1] at this;cases this
 subst hev
 refine wpOp_mono ?_ (h t0 a bs w h0 hF hG hV.2.2.1 hD)
 rintro a' w' ⟨v,y,rfl,hvy,hSt,hsame,hX,hy⟩
 refine ⟨⟨some y,bs⟩,v,by rw [hi];rfl,⟨fun a ha=>by rw [getD_set_ne false (fun e=>hal' (by rw [e];exact ha))];exact hV.1 a ha,hV.2.1,hV.2.2.1,?_⟩,⟨hSt,Nat.le_trans hG.2.1 hsame.2.1,hG.2.2⟩,⟨hsame,hX,fun q hq=>hq,.inr ⟨rfl,y,rfl,hy⟩⟩,fun d hd=>⟨fun h=>absurd h hal',fun _=>?_,fun h=>absurd hij (by rw [h,Nat.beq_refl];decide),fun _ h=>absurd rfl h⟩⟩
 ·rw [Array.getD_eq_getD_getElem?,Array.getElem?_setIfInBounds_self_of_lt (by rw [hs];exact (Array.getElem?_eq_some_iff.1 hi).1)]
  exact ⟨fun _=>rfl,fun _=>rfl⟩
 ·rw [hi] at hd
  rw [hvy d hd]
theorem St.perm {O O':Own} {G:cR} {w:World} (h:St w0 O G K w) (hp:O.Perm O'):St w0 O' G K w where
 below:=h.below
 own:=fun p hp'=>h.own p (hp.mem_iff.2 hp')
 dist:=h.dist.perm hp (fun h=>Ne.symm h)
 kept:=fun q hq=>⟨(h.kept q hq).1,fun p hp'=>(h.kept q hq).2 p (hp.mem_iff.2 hp')⟩
 rows:=fun g hg=>⟨(h.rows g hg).1,fun b hb=>⟨fun p hp'=>((h.rows g hg).2 b hb).1 p (hp.mem_iff.2 hp'),((h.rows g hg).2 b hb).2⟩⟩
 gdist:=h.gdist
def nQ (ds:List Nat):Fr→Fr
 | []=>[]
 | p::l=>bif ds.contains p.1 then nQ ds l else p::nQ ds l
theorem kW {ds:List Nat} {t:Nat} {v:Value}:∀ {l:Fr},fD (nQ ds l) t=some v→t∉ds→fD l t=some v
 | [],h,_=>by cases h
 | p::l,h,ht=>by
  unfold nQ at h
  unfold fD
  cases hc:ds.contains p.1 with
  | true =>
   rw [hc,cond_true] at h
   cases hb:Nat.beq p.1 t with
   | true =>
    rw [Nat.eq_of_beq_eq_true hb] at hc
    exact absurd (List.contains_iff_mem.1 hc) ht
   | false=>rw [cond_false];exact kW h ht
  | false =>
   rw [hc,cond_false] at h
   unfold fD at h
   cases hb:Nat.beq p.1 t with
   | true=>rw [hb,cond_true] at h;rw [cond_true];exact h
   | false=>rw [hb,cond_false] at h;rw [cond_false];exact kW h ht
theorem eQ {ds:List Nat} {t:Nat} {v:Value}:∀ {l:Fr},fD (nQ ds l) t=some v→t∉ds
 | [],h=>by cases h
 | p::l,h=>by
  unfold nQ at h
  cases hc:ds.contains p.1 with
  | true=>rw [hc,cond_true] at h;exact eQ h
  | false =>
   rw [hc,cond_false] at h
   unfold fD at h
   cases hb:Nat.beq p.1 t with
   | true =>
    intro hm
    rw [← Nat.eq_of_beq_eq_true hb] at hm
    rw [List.contains_iff_mem.2 hm] at hc;cases hc
   | false=>rw [hb,cond_false] at h;exact eQ h
def Aq (al:List Nat) (ef jy lo:Nat) (X:Nat→Prop) (Bf:Nat→Nat) (y:Value):Nat→List Asr→List Asr
 | _,[]=>[]
 | j,q::L=>(bif al.contains j then isV (.pointer (some ⟨Bf j,0,none⟩)) else bif Nat.beq j ef then isV y else bif Nat.beq j jy then (fun v w=>v=y∧AwS lo X q v w) else AwS lo X q)::Aq al ef jy lo X Bf y (j+1) L
theorem kX {X:Nat→Prop} {Bf:Nat→Nat} {y:Value}:∀ (L:List Asr) (j i:Nat),i < L.length→atI (Aq al ef jy lo X Bf y j L) i=(bif al.contains (i+j) then isV (.pointer (some ⟨Bf (i+j),0,none⟩)) else bif Nat.beq (i+j) ef then isV y else bif Nat.beq (i+j) jy then (fun v w=>v=y∧AwS lo X (atI L i) v w) else AwS lo X (atI L i))
 | [],j,i,h=>by simp at h
 | q::L,j,0,h=>by rw [Nat.zero_add];rfl
 | q::L,j,i+1,h=>by
  show atI (Aq al ef jy lo X Bf y (j+1) L) i=_
  rw [kX L (j+1) i (by simpa using h),show i+1+j=i+(j+1) by omega]
  rfl
theorem Ey:∀ (Bs:List Nat) (lo:Nat) (w:World),∃ Ks:List (Nat×World),(∀ q∈Ks,lo≤q.1∧cZ q.1 q.2 w∧∀ B∈Bs,B < q.1∨q.2.heap.size≤B)∧(∃ q∈Ks,q.2=w)∧∀ b,lo≤b→b < w.heap.size→b∉Bs→∃ q∈Ks,q.1≤b∧b < q.2.heap.size
 | [],lo,w=>⟨[(lo,w)],fun q hq=>by
   simp only [List.mem_cons,List.not_mem_nil,or_false] at hq
   subst hq
   exact ⟨Nat.le_refl _,cZ.refl _ _,fun B hB=>by cases hB⟩,⟨(lo,w),List.mem_cons_self,rfl⟩,fun b h1 h2 _=>⟨(lo,w),List.mem_cons_self,h1,h2⟩⟩
 | B::Bs,lo,w=>by
  by_cases hB:B < w.heap.size
  ·obtain ⟨A,hA,hA1⟩:=H3 w (B:=B) (lo:=lo) (Nat.le_of_lt hB)
   obtain ⟨K1,k1,_,k2⟩:=Ey Bs lo A
   obtain ⟨K2,k3,⟨q0,k5,k6⟩,k4⟩:=Ey Bs (max lo (B+1)) w
   refine ⟨K1++K2,fun q hq=>?_,⟨q0,List.mem_append_right _ k5,k6⟩,fun b h1 h2 h3=>?_⟩
   ·rcases List.mem_append.1 hq with hq | hq
    ·obtain ⟨e1,e2,e3⟩:=k1 q hq
     refine ⟨e1,e2.trans (hA1.mono e1),fun B' hB'=>?_⟩
     rcases List.mem_cons.1 hB' with rfl | hB'
     ·right;rw [← hA];exact e2.1
     ·exact e3 B' hB'
    ·obtain ⟨e1,e2,e3⟩:=k3 q hq
     refine ⟨by omega,e2,fun B' hB'=>?_⟩
     rcases List.mem_cons.1 hB' with rfl | hB'
     ·left;omega
     ·exact e3 B' hB'
   ·have h4:b≠B:=fun e=>h3 (by rw [e];exact List.mem_cons_self)
    have h5:b∉Bs:=fun e=>h3 (List.mem_cons_of_mem _ e)
    rcases Nat.lt_or_ge b B with h6 | h6
    ·obtain ⟨q,hq,h7⟩:=k2 b h1 (by omega) h5
     exact ⟨q,List.mem_append_left _ hq,h7⟩
    ·obtain ⟨q,hq,h7⟩:=k4 b (by omega) h2 h5
     exact ⟨q,List.mem_append_right _ hq,h7⟩
  ·obtain ⟨K1,k1,k5,k2⟩:=Ey Bs lo w
   refine ⟨K1,fun q hq=>?_,k5,fun b h1 h2 h3=>k2 b h1 h2 (fun e=>h3 (List.mem_cons_of_mem _ e))⟩
   obtain ⟨e1,e2,e3⟩:=k1 q hq
   refine ⟨e1,e2,fun B' hB'=>?_⟩
   rcases List.mem_cons.1 hB' with rfl | hB'
   ·right;have:=e2.1;omega
   ·exact e3 B' hB'
theorem St.more {O:Own} {G:cR} {w:World} (h:St w0 O G K w) (Ks:List (Nat×World)) (hk:∀ q∈Ks,cZ q.1 q.2 w∧(∀ p∈O,p.1 < q.1∨q.2.heap.size≤p.1)∧∀ g∈G,∀ b,g.v.ownBlock=some b→b < q.1∨q.2.heap.size≤b):St w0 O G (Ks++K) w where
 below:=h.below
 own:=h.own
 dist:=h.dist
 kept:=fun q hq=>by
  rcases List.mem_append.1 hq with hq | hq
  ·exact ⟨(hk q hq).1,(hk q hq).2.1⟩
  ·exact h.kept q hq
 rows:=fun g hg=>⟨(h.rows g hg).1,fun b hb=>⟨((h.rows g hg).2 b hb).1,fun q hq=>by
  rcases List.mem_append.1 hq with hq | hq
  ·exact (hk q hq).2.2 g hg b hb
  ·exact ((h.rows g hg).2 b hb).2 q hq⟩⟩
 gdist:=h.gdist
theorem Ar:∀ {L:List Asr} {j:Nat},L.length≤j→atI L j=anyA
 | [],_,_=>rfl
 | _::L,0,h=>by simp at h
 | _::L,j+1,h=>Ar (L:=L) (by simpa using h)
def BLS (P:Program) (n:Nat) (ops:Array Oper) (Q:Exit→Act→World→Prop) (l:Fr) (w0:World) (K:List (Nat×World)) (lo:Nat) (al:List Nat) (ef jy:Nat) (ca:Nat→Option Value→List Value) (ta:Nat→TypeId) (Os:Option Value→Own) (Gs:Option Value→cR) (Goal:List Asr→Prop):Nat→List Asr→Nat→Prop
 | 0,Lr,_=>Goal Lr
 | m+1,Lr,k=>∃ q,((k∈al∨k=ef)→q=anyA)∧(nP al ef (q::Lr).reverse→SG P n ops Q l w0 K lo al ef jy ca ta Os Gs (q::Lr).reverse k)∧BLS P n ops Q l w0 K lo al ef jy ca ta Os Gs Goal m (q::Lr) (k+1)
variable {Goal:List Asr→Prop}
theorem jZ {Lr:List Asr} {k:Nat} (h:Goal Lr):BLS P n ops Q l w0 K lo al ef jy ca ta Os Gs Goal 0 Lr k:=h
theorem aW {m k:Nat} {Lr:List Asr} (k':Nat) (hk:k+1=k') (hne:(al.contains k || Nat.beq k ef)=false) (q:Asr) (h:nP al ef (q::Lr).reverse→SG P n ops Q l w0 K lo al ef jy ca ta Os Gs (q::Lr).reverse k) (hr:BLS P n ops Q l w0 K lo al ef jy ca ta Os Gs Goal m (q::Lr) k'):BLS P n ops Q l w0 K lo al ef jy ca ta Os Gs Goal (m+1) Lr k:=by
 subst hk
 refine ⟨q,fun hc=>?_,h,hr⟩
 rw [Bool.or_eq_false_iff] at hne
 rcases hc with hc | hc
 ·rw [List.contains_iff_mem.2 hc] at hne;cases hne.1
 ·rw [hc,Nat.beq_refl] at hne;cases hne.2
theorem jJ {m k:Nat} {Lr:List Asr} (k':Nat) (hk:k+1=k') (h:SG P n ops Q l w0 K lo al ef jy ca ta Os Gs (anyA::Lr).reverse k) (hr:BLS P n ops Q l w0 K lo al ef jy ca ta Os Gs Goal m (anyA::Lr) k'):BLS P n ops Q l w0 K lo al ef jy ca ta Os Gs Goal (m+1) Lr k:=by
 subst hk;exact ⟨anyA,fun _=>rfl,fun _=>h,hr⟩
theorem uQ (ht:dQ ops n=true):∀ (m k:Nat) (Lr:List Asr),Lr.length=k→nP al ef Lr.reverse→(∀ i,i < k→SG P n ops Q l w0 K lo al ef jy ca ta Os Gs Lr.reverse i)→BLS P n ops Q l w0 K lo al ef jy ca ta Os Gs Goal m Lr k →
  ∃ Lr',Lr'.length=k+m∧(∀ i,i < k+m→SG P n ops Q l w0 K lo al ef jy ca ta Os Gs Lr'.reverse i)∧Goal Lr'
 | 0,k,Lr,hl,hs,hg,h=>⟨Lr,hl,hg,h⟩
 | m+1,k,Lr,hl,hs,hg,⟨q,hq,hr,hn⟩=>by
  have hap:∀ j,j < k→atI Lr.reverse j=atI (q::Lr).reverse j:=fun j hj=>by rw [List.reverse_cons,kP (by simp;omega)]
  have hs':nP al ef (q::Lr).reverse:=fun j hj=>by
   rcases Nat.lt_trichotomy j k with h1 | h1 | h1
   ·rw [← hap j h1];exact hs j hj
   ·subst h1;rw [aD hl];exact hq hj
   ·exact Ar (by simp;omega)
  obtain ⟨L',h1,h3,h4⟩:=uQ ht m (k+1) (q::Lr) (by simp [hl]) hs' (fun i hi=>by
   by_cases hik:i=k
   ·subst hik;exact hr hs'
   ·exact SG.ext ht (fun j hj=>hap j (by omega)) (hg i (by omega))) hn
  exact ⟨L',by omega,fun i hi=>h3 i (by omega),h4⟩
theorem mH {a:Act} {Kk:Fr→World→Prop} {G:Prop}:∀ (os:List Oper) (L:List Asr) (l:Fr),(∀ i d,i < os.length→(os[i]?).bind (·.dst)=some d→atI L i (a.tmps.getD d undef) W)→(∀ i,i < os.length→(os[i]?).bind (·.dst)=none→∃ v,atI L i v W)→a.tmps.size=n→a.defers=[] →
  (∀ t v,fD l t=some v→(∀ o∈os,o.dst≠some t)→a.tmps.getD t undef=v)→(hK:∀ l',Kk l' W→Has n l' a→G)→jS os L l Kk W→G
 | [],L,l,hI,_,hs,hd,hl,hK,h=>hK l h ⟨hs,hd,fun t v hv=>hl t v hv (fun o ho=>by cases ho)⟩
 | o::os,L,l,hI,hN,hs,hd,hl,hK,h=>by
  cases hod:o.dst with
  | none =>
   obtain ⟨v,hv⟩:=hN 0 (by simp) (by simp [hod])
   have h1:=h v hv
   rw [hod] at h1
   refine mH os L.tail _ (fun i e hi he=>by rw [oA];exact hI (i+1) e (by simpa using hi) (by simpa using he)) (fun i hi he=>by rw [oA];exact hN (i+1) (by simpa using hi) (by simpa using he)) hs hd ?_ hK h1
   intro t v hv hno
   refine hl t v hv (fun o' ho'=>?_)
   rcases List.mem_cons.1 ho' with rfl | ho'
   ·rw [hod];simp
   ·exact hno o' ho'
  | some d =>
   have h0:=hI 0 d (by simp) (by simp [hod])
   have h1:=h _ h0
   refine mH os L.tail _ (fun i e hi he=>by rw [oA];exact hI (i+1) e (by simpa using hi) (by simpa using he)) (fun i hi he=>by rw [oA];exact hN (i+1) (by simpa using hi) (by simpa using he)) hs hd ?_ hK h1
   intro t v hv hno
   rw [hod] at hv
   simp only [List.cons_append,List.nil_append] at hv
   unfold fD at hv
   cases hb:Nat.beq d t with
   | true =>
    simp only [hb,cond_true,Option.some.injEq] at hv
    rw [← Nat.eq_of_beq_eq_true hb];exact hv
   | false =>
    simp only [hb,cond_false] at hv
    refine hl t v hv (fun o' ho'=>?_)
    rcases List.mem_cons.1 ho' with rfl | ho'
    ·rw [hod];intro e;rw [Option.some.inj e,Nat.beq_refl] at hb;cases hb
    ·exact hno o' ho'
def bAt (bs:List (Nat×Nat)) (a:Nat):Nat:=((bs.find? (fun q=>Nat.beq q.1 a)).map (·.2)).getD 0
theorem uR:∀ {bs:List (Nat×Nat)} {a:Nat},(∃ B,(a,B)∈bs)→(a,bAt bs a)∈bs
 | [],_,⟨B,h⟩=>by cases h
 | q::bs,a,⟨B,h⟩=>by
  unfold bAt
  rw [List.find?_cons]
  cases hb:Nat.beq q.1 a with
  | true =>
   have:=Nat.eq_of_beq_eq_true hb
   subst this
   exact List.mem_cons_self
  | false =>
   rcases List.mem_cons.1 h with h | h
   ·rw [← h,Nat.beq_refl] at hb;cases hb
   ·exact List.mem_cons_of_mem _ (uR ⟨B,h⟩)
theorem mI {bs:List (Nat×Nat)} (hp:bs.Pairwise (fun p q=>p.1≠q.1)) {p q:Nat×Nat} (h1:p∈bs) (h2:q∈bs) (he:p.1=q.1):p=q:=by
 induction hp with
 | nil=>cases h1
 | cons ha hb ih =>
  rcases List.mem_cons.1 h1 with h3 | h3<;>rcases List.mem_cons.1 h2 with h4 | h4
  ·rw [h3,h4]
  ·subst h3;exact absurd he (ha _ h4)
  ·subst h4;exact absurd he.symm (ha _ h3)
  ·exact ih h3 h4
theorem regS {id k:Nat} {ds:List Nat} (hm:P.follows .mixedOrders=true) (hlo:lo=W.heap.size) (hS:St w0 (Os none) (Gs none) K W) (hk:Nat.blt k os.length=true) (htl:tM os.toArray k=true) (ht:dQ os.toArray n=true) (hal:al.all (fun a=>Nat.blt a k)=true) (hnd:al.Nodup) (hea:al.contains ef=false)
  (evE:Value→Option Value) (hev:(Nat.blt ef k=true∧evE=some)∨(Nat.ble os.length ef=true∧Nat.ble os.length jy=true∧evE=fun _=>none)) (hdst:(List.range k).all (fun j=>Nat.beq j ef || ((os.toArray[j]?).bind (·.dst)).isSome)=true) (hds:(os.drop k).all (fun o=>match o.dst with | some d=>ds.contains d | none=>true)=true)
  (h:BLS P n os.toArray Q l w0 K lo al ef jy ca ta Os Gs (fun Lr=>∀ (Bf:Nat→Nat) (y:Value) (W':World) (Ks:List (Nat×World)),W.heap.size≤W'.heap.size→(∀ q∈Ks,lo≤q.1)→St w0 (al.map (fun a=>(Bf a,ca a (evE y),ta a))++Os (evE y)) (Gs (evE y)) (Ks++K) W' →
   (∀ {O2 G2 K2 W2},St w0 O2 G2 K2 W2→(∀ q∈Ks,q∈K2)→eP lo (XB (al.map (fun a=>(Bf a,ca a (evE y),ta a))++Os (evE y)) (Gs (evE y))) W' W2) →
   jS (os.take k) (Aq al ef jy lo (XB (al.map (fun a=>(Bf a,ca a (evE y),ta a))++Os (evE y)) (Gs (evE y))) Bf y 0 Lr.reverse) (nQ ds l) (fun l' W'=>cT P n os.toArray Q (os.drop k) l' W') W') k [] 0):eC P n (.region id os.toArray true) Q l W:=by
 obtain ⟨Lr,h1,h2,hfin⟩:=uQ ht k 0 [] rfl (fun j _=>by rfl) (fun i hi=>by omega) h
 rw [Nat.zero_add] at h1 h2
 have hk':k < os.length:=Nat.lt_of_lt_of_le (Nat.lt_succ_self _) (Nat.le_of_ble_eq_true hk)
 have hal':∀ a∈al,a < k:=fun a ha=>Nat.lt_of_lt_of_le (Nat.lt_succ_self _) (Nat.le_of_ble_eq_true (List.all_eq_true.1 hal a ha))
 have hea':ef∉al:=fun h=>by rw [List.contains_iff_mem.2 h] at hea;cases hea
 intro a ha
 refine wp_region_any hm (An (t0:=a.tmps) (d0:=a.defers) (V:=VG al ef) (I:=IG al ef jy lo ca ta Os Gs Lr.reverse) (G:=GG w0 K lo ca ta Os Gs) (k:=k) (by simpa using hk') htl (by rw [ha.size];exact ht) (fun i hi=>(h2 i hi).step a ha) ?_ _ ⟨none,[]⟩ _ _ _ (by simp) (iD _) (fun j hj=>by rw [Array.getD_eq_getD_getElem?,Array.getElem?_replicate] at hj;split at hj<;>simp at hj) (fun i _=>by rw [Array.getD_eq_getD_getElem?,Array.getElem?_replicate];split<;>rfl) ⟨rfl,rfl,fun _ _=>rfl,⟨by unfold OE;exact hS.drew,by rw [hlo];exact Nat.le_refl _,(fun q hq=>by cases hq)⟩,⟨fun a _=>?_,(fun q hq=>by cases hq),List.Pairwise.nil,?_⟩,fun i d _ hj=>?_⟩)
 ·intro s LB a' W' hR hdone hnot
  obtain ⟨hG,hG2,hG3⟩:=hR.glob
  obtain ⟨v1,v2,v3,v4⟩:=hR.cons
  obtain ⟨ev,bs⟩:=s
  have hall:∀ x∈al,(x,bAt bs x)∈bs:=fun x hx=>uR ((v1 x hx).1 (hdone x (hal' x hx)))
  obtain ⟨y,hy⟩:∃ y,ev=evE y:=by
   rcases hev with ⟨e1,e2⟩ | ⟨e1,e3,e2⟩
   ·have h3:ev.isSome=true:=v4.1 (hdone ef (Nat.lt_of_lt_of_le (Nat.lt_succ_self _) (Nat.le_of_ble_eq_true e1)))
    obtain ⟨y,hy⟩:=Option.isSome_iff_exists.1 h3
    exact ⟨y,by rw [hy,e2]⟩
   ·refine ⟨undef,?_⟩
    rw [e2]
    have h3:=hnot ef (by have:=Nat.le_of_ble_eq_true e1;omega)
    cases ev with
    | none=>rfl
    | some v=>have:=v4.2 rfl;rw [h3] at this;cases this
  subst hy
  have hperm:bs.Perm (al.map (fun x=>(x,bAt bs x))):=by
   refine (List.perm_ext_iff_of_nodup (v3.imp (fun h e=>h (by rw [e]))) ?_).2 fun q=>?_
   ·refine List.Pairwise.map _ (fun x y (hxy:x≠y)=>?_) hnd
    intro e;exact hxy (congrArg Prod.fst e)
   ·constructor
    ·intro hq
     have h3:=hall q.1 (v2 q hq)
     have h4:=mI v3 hq h3 rfl
     rw [h4]
     exact List.mem_map.2 ⟨q.1,v2 q hq,rfl⟩
    ·intro hq
     obtain ⟨x,hx,rfl⟩:=List.mem_map.1 hq
     exact hall x hx
  have hO:(OE ca ta Os ⟨evE y,bs⟩).Perm (al.map (fun a=>(bAt bs a,ca a (evE y),ta a))++Os (evE y)):=by
   unfold OE
   refine List.Perm.append_right _ ?_
   have:=hperm.map (fun q:Nat×Nat=>(q.2,ca q.1 (evE y),ta q.1))
   rw [List.map_map] at this
   exact this
  have hG':=hG.perm hO
  have hX:∀ b,XB (OE ca ta Os ⟨evE y,bs⟩) (Gs (evE y)) b↔XB (al.map (fun a=>(bAt bs a,ca a (evE y),ta a))++Os (evE y)) (Gs (evE y)) b:=fun b=>by
   unfold XB
   constructor
   ·rintro (⟨p,hp,e⟩ | h);exact .inl ⟨p,hO.mem_iff.1 hp,e⟩;exact .inr h
   ·rintro (⟨p,hp,e⟩ | h);exact .inl ⟨p,hO.mem_iff.2 hp,e⟩;exact .inr h
  obtain ⟨Ks,c1,⟨qw,c2,c3⟩,c4⟩:=Ey (((al.map (fun a=>(bAt bs a,ca a (evE y),ta a))++Os (evE y)).map (·.1))++(Gs (evE y)).filterMap (fun g=>g.v.ownBlock)) lo W'
  have hG4:=hG'.more Ks (fun q hq=>⟨(c1 q hq).2.1,fun p hp=>(c1 q hq).2.2 p.1 (List.mem_append_left _ (List.mem_map.2 ⟨p,hp,rfl⟩)),fun g hg b hb=>(c1 q hq).2.2 b (List.mem_append_right _ (List.mem_filterMap.2 ⟨g,hg,hb⟩))⟩)
  have hcov:∀ {O2 G2 K2 W2},St w0 O2 G2 K2 W2→(∀ q∈Ks,q∈K2)→eP lo (XB (al.map (fun a=>(bAt bs a,ca a (evE y),ta a))++Os (evE y)) (Gs (evE y))) W' W2:=fun {O2 G2 K2 W2} h2 hq=>by
   refine ⟨⟨h2.below.os.trans hG.below.os.symm,h2.below.tape.trans hG.below.tape.symm,h2.below.output.trans hG.below.output.symm⟩,?_,fun b b1 b2 b3=>?_⟩
   ·have:=(h2.kept qw (hq qw c2)).1.1;rw [c3] at this;exact this
   ·obtain ⟨q,q1,q2,q3⟩:=c4 b b1 b2 (fun hb=>b3 (by
     rcases List.mem_append.1 hb with hb | hb
     ·obtain ⟨p,hp,rfl⟩:=List.mem_map.1 hb
      exact .inl ⟨p,hp,rfl⟩
     ·obtain ⟨g,hg,e⟩:=List.mem_filterMap.1 hb
      exact .inr ⟨g,hg,e⟩))
    exact ((h2.kept q (hq q q1)).1.2 b q2 q3).trans ((c1 q q1).2.1.2 b q2 q3).symm
  have htk:(os.take k).length=k:=by simp;omega
  refine mH (os.take k) (Aq al ef jy lo (XB (al.map (fun a=>(bAt bs a,ca a (evE y),ta a))++Os (evE y)) (Gs (evE y))) (bAt bs) y 0 Lr.reverse) (nQ ds l) (fun i d hi hd'=>?_) (fun i hi hd'=>?_) (hR.size.trans ha.size) (hR.defers.trans ha.defers) ?_ (fun l' h ha'=>?_) (hfin (bAt bs) y W' Ks (by rw [← hlo];exact hG2) (fun q hq=>(c1 q hq).1) hG4 hcov)
  ·have hik:i < k:=by omega
   have hd2:(os.toArray[i]?).bind (·.dst)=some d:=by rw [List.getElem?_take,if_pos hik] at hd';simpa using hd'
   obtain ⟨i1,i2,i3,i4⟩:=hR.done i d hd2 (hdone i hik)
   rw [kX Lr.reverse 0 i (by simp;omega),Nat.add_zero]
   cases hc1:al.contains i with
   | true =>
    rw [cond_true]
    obtain ⟨B,hB,e⟩:=i1 (List.contains_iff_mem.1 hc1)
    have:=mI v3 hB (hall i (List.contains_iff_mem.1 hc1)) rfl
    show _=_
    rw [e,show B=bAt bs i from congrArg Prod.snd this]
   | false =>
    rw [cond_false]
    have hni:i∉al:=fun hm'=>by rw [List.contains_iff_mem.2 hm'] at hc1;cases hc1
    cases hc2:Nat.beq i ef with
    | true =>
     rw [cond_true]
     have h5:=i2 (Nat.eq_of_beq_eq_true hc2)
     rcases hev with ⟨e1,e2⟩ | ⟨e1,e3,e2⟩
     ·rw [e2] at h5
      exact (Option.some.inj h5).symm
     ·rw [e2] at h5;cases h5
    | false =>
     rw [cond_false]
     have hne:i≠ef:=fun e=>by rw [e,Nat.beq_refl] at hc2;cases hc2
     have h6:AwS lo (XB (al.map (fun a=>(bAt bs a,ca a (evE y),ta a))++Os (evE y)) (Gs (evE y))) (atI Lr.reverse i) (a'.tmps.getD d undef) W':=fun w2 hw2=>i4 hni hne w2 ⟨hw2.1,hw2.2.1,fun b b1 b2 b3=>hw2.2.2 b b1 b2 (fun hb=>b3 ((hX b).2 hb))⟩
     cases hc3:Nat.beq i jy with
     | true =>
      rw [cond_true]
      refine ⟨?_,h6⟩
      rcases hev with ⟨e1,e2⟩ | ⟨e1,e3,e2⟩
      ·exact i3 (Nat.eq_of_beq_eq_true hc3) y (by rw [e2])
      ·have:=Nat.le_of_ble_eq_true e3
       have:=Nat.eq_of_beq_eq_true hc3
       omega
     | false=>rw [cond_false];exact h6
  ·have hik:i < k:=by omega
   have h3:=List.all_eq_true.1 hdst i (List.mem_range.2 hik)
   rw [Bool.or_eq_true] at h3
   have hd2:(os.toArray[i]?).bind (·.dst)=none:=by rw [List.getElem?_take,if_pos hik] at hd';simpa using hd'
   rcases h3 with h3 | h3
   ·rw [kX Lr.reverse 0 i (by simp;omega),Nat.add_zero]
    have hc1:al.contains i=false:=by rw [Nat.eq_of_beq_eq_true h3];exact hea
    rw [hc1,cond_false,h3,cond_true]
    exact ⟨y,rfl⟩
   ·rw [hd2] at h3;cases h3
  ·intro t v hv hno
   have hl:=kW hv (eQ hv)
   have hnt:=eQ hv
   rw [hR.frame t ?_]
   ·exact ha.at_ t v hl
   ·unfold freeT;rw [Array.all_eq_true'];intro o' ho'
    have ho2:o'∈os:=by simpa using ho'
    rw [← List.take_append_drop k os] at ho2
    rcases List.mem_append.1 ho2 with ho2 | ho2
    ·simpa using hno o' ho2
    ·have h5:=List.all_eq_true.1 hds o' ho2
     cases hx:o'.dst with
     | none=>simp
     | some d =>
      rw [hx] at h5
      simp
      intro e;subst e
      exact hnt (List.contains_iff_mem.1 h5)
  ·have:=h a' ha'
   simpa using this
 ·rw [Array.getD_eq_getD_getElem?,Array.getElem?_replicate]
  constructor
  ·intro h3;split at h3<;>simp at h3
  ·rintro ⟨B,hB⟩;cases hB
 ·rw [Array.getD_eq_getD_getElem?,Array.getElem?_replicate]
  constructor
  ·intro h3;split at h3<;>simp at h3
  ·intro h3;cases h3
 ·rw [Array.getD_eq_getD_getElem?,Array.getElem?_replicate] at hj
  split at hj<;>simp at hj
end
end
end Go.Proofs.Ytafegfhpinpdoaa
