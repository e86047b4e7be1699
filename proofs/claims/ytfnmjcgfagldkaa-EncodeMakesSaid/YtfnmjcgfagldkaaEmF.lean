import Derived.Test.YtfnmjcgfagldkaaEmE
set_option maxRecDepth 100000
set_option maxHeartbeats 4000000
set_option linter.unusedVariables false
set_option linter.unusedSimpArgs false
set_option linter.unusedSectionVars false
set_option linter.unnecessarySimpa false
namespace Go.Proofs.Ytfnmjcgfagldkaa
open Go.Proofs.Try
open Go.RowKit
theorem fO (v1:Int):prog.built 59 [(1,.int .i64 v1)]=some #[.bool false,.int .i64 v1,.int .u64 0,.slice none 0 0,.slice none 0 0,.slice none 0 0]:=by kernel_rfl
theorem fP (v20:Value) (v21:Value):prog.built 59 [(2,.agg #[v20,v21])]=some #[.bool false,.int .i64 0,v20,v21,.slice none 0 0,.slice none 0 0]:=by kernel_rfl
theorem qN (v3a:Option Addr) (v3l:Nat) (v3c:Nat):prog.built 59 [(3,.slice v3a v3l v3c)]=some #[.bool false,.int .i64 0,.int .u64 0,.slice none 0 0,.slice v3a v3l v3c,.slice none 0 0]:=by kernel_rfl
theorem fQ (v4a:Option Addr) (v4l:Nat) (v4c:Nat):prog.built 59 [(4,.slice v4a v4l v4c)]=some #[.bool false,.int .i64 0,.int .u64 0,.slice none 0 0,.slice none 0 0,.slice v4a v4l v4c]:=by kernel_rfl
theorem mX (v0:Int):prog.built 88 [(0,.int .u64 v0)]=some #[.int .u64 v0,.int .i64 0,.int .i64 0]:=by kernel_rfl
theorem tC (v1:Int) (v2:Int):prog.built 88 [(1,.int .i64 v1),(2,.int .i64 v2)]=some #[.int .u64 0,.int .i64 v1,.int .i64 v2]:=by kernel_rfl
theorem mY (v1:Int):prog.built 88 [(1,.int .i64 v1)]=some #[.int .u64 0,.int .i64 v1,.int .i64 0]:=by kernel_rfl
theorem sJ (v00:Value) (v01:Value) (v02:Value):Instr.fill (fun i=>some (i * 3,3)) ((Array.range (1 * 3)).map ((Value.cells (.agg #[.int .u64 0,.int .i64 0,.int .i64 0]))[· % (Value.cells (.agg #[.int .u64 0,.int .i64 0,.int .i64 0])).size]!)) [(0,.agg #[v00,v01,v02])]=some (List.toArray [v00,v01,v02]):=by kernel_rfl
theorem gJ (v00:Value) (v01:Value) (v02:Value) (v03:Value) (v04:Value) (v05:Value) (v10:Value) (v11:Value) (v12:Value) (v13:Value) (v14:Value) (v15:Value):Instr.fill (fun i=>some (i * 6,6)) ((Array.range (2 * 6)).map ((Value.cells (.agg #[.bool false,.int .i64 0,.int .u64 0,.slice none 0 0,.slice none 0 0,.slice none 0 0]))[· % (Value.cells (.agg #[.bool false,.int .i64 0,.int .u64 0,.slice none 0 0,.slice none 0 0,.slice none 0 0])).size]!)) [(0,.agg #[v00,v01,v02,v03,v04,v05]),(1,.agg #[v10,v11,v12,v13,v14,v15])]=some (List.toArray [v00,v01,v02,v03,v04,v05,v10,v11,v12,v13,v14,v15]):=by kernel_rfl
theorem dU (w:World) (b o:Nat):(Instr.fieldAt 59 (.pointer (some ⟨b,o,none⟩)) 3).run prog w = .ok (.pointer (some ⟨b,o+4,none⟩)) w:=by
 simp [Instr.fieldAt,run_underlying underlying59,Instr.sureAddr,go_sem,Addr.add_lit]
theorem sK:cL prog 28=true:=by kernel_rfl
theorem sL:cL prog 29=true:=by kernel_rfl
theorem yT:cL prog 31=true:=by kernel_rfl
theorem yU:cL prog 32=true:=by kernel_rfl
theorem yV:cL prog 47=true:=by kernel_rfl
theorem kD:cL prog 48=true:=by kernel_rfl
theorem oH:cL prog 49=true:=by kernel_rfl
theorem tR:prog.info? 88=some Try.t88:=by kernel_rfl
theorem Ch (n:Nat) (s:gr_TV) (w:World) (hn:n≤64) (hs:StOk n s.k s.x s.y) (g:Nat) (rows:List Nat) (hg:tkG n s.k s.x s.y=g) (hr:tkR n s.k s.x s.y=rows) :
  Calls prog 31 #[.int .i64 (n:Int),s.val] w (pB (.two 2 1048576 3 n) (.two (pC 1) (pF g rows)) w):=by
 refine cS (args:=[.int .i64 (n:Int),s.val]) func31 rfl ntmps31 rfl ?_
 have hS:=St.start w
 have hgd:Good n g rows:=by rw [← hg,← hr];exact Ab hn hs
 have h1n:=oX hn
 refine aR (aU (cR (cs:=[_,_,_,_,_,_,_]) hS rfl rfl rfl fun B1 W1 hS=>bY (cs:=[_,_,_,_,_,_]) hS zeroValue59 rfl rfl fun B2 W2 hS=>aT (XF.thenN (aR (aU (aL rfl rfl ?_))))))
 have hsz1:=hS.below.size
 refine cV (vs:=[_]) hS yV rfl ((uS (n:Int) _ 0 h1n.1 (dE n) h1n.2).mono fun _ _ h=>uR.ret h) rfl ?_
 rintro e W3 ⟨a1,c1,rfl,hv1,hk1,hb⟩
 refine ⟨_,rfl,hb,fun hS'=>?_⟩
 clear hS;have hS:=hS';clear hS'
 refine aL rfl rfl (bM rfl rfl rfl (bM rfl rfl rfl (bY (cs:=[_,_]) hS zeroValue55 rfl rfl fun B4 W4 hS=>bA (i:=0) (vs:=[_,_]) (cs':=[_,_]) (O':=[_,_,_]) hS sizeOf55 rfl rfl rfl rfl rfl rfl rfl fun W5 hS=>aK rfl rfl (aT (XF.thenN (aR (aR (aU (aQ (o':=2) dQ rfl rfl rfl (aV isAgg77 rfl (aI (hS.at_ 2 rfl) rfl) rfl (aT (XF.thenN (bR (aR (aU (bW rfl rfl rfl (aK rfl rfl (aT (XF.thenN (bJ rfl (fun hc=>?_) (fun hc=>?_)))))))))))))))))))))
 ·have hc14:=of_decide_eq_true hc;clear hc
  clear hv1 hk1 hsz1
  have hkk:2≤s.k∧s.k≤6:=by omega
  have hxx:=hs.x hkk
  have hsz1:=hS.below.size
  have ht:=jB (n:=n) (x:=s.x) (wT (y:=s.y) (by omega:s.k=5))
  have hgz:setG n s.x (-1)=g:=ht.1.symm.trans hg
  have hrz:kJ n s.x (-1)=rows:=ht.2.symm.trans hr
  refine aU (aL rfl rfl (aQ (o':=3) cF rfl rfl rfl (aV isAgg3 rfl (aI (hS.at_ 2 rfl) rfl) rfl (cV (vs:=[_,_,_]) hS kD rfl (oW (n:Int) s.x (-1) _ 0 (iL hn hxx (by omega)) g hgz rows hrz) rfl ?_))))
  rintro e W6 ⟨a1,c1,rfl,hv1,hk1,hb⟩
  refine ⟨_,rfl,hb,fun hS'=>?_⟩
  clear hS;have hS:=hS';clear hS'
  refine aL rfl rfl (bM rfl rfl rfl (bM rfl rfl rfl (bA (i:=0) (vs:=[_,_]) (cs':=[_,_]) (O':=[_,_,_]) hS sizeOf55 rfl rfl rfl rfl rfl rfl rfl fun W7 hS=>aT (XF.blkN (XF.thenN (aR (aU (bL (us:=[(1,.int .i64 _)]) rfl (fO _) rfl (bF (vs:=[_,_]) isAgg55 sizeOf55 rfl (aM.own (j:=0) (m:=2) (hS.at_ 0 rfl) rfl) rfl (bL (us:=[(2,.agg (List.toArray [_,_]))]) rfl (fP _ _) rfl (cQ (us:=[(0,.agg (List.toArray [_,_,_,_,_,_])),(1,.agg (List.toArray [_,_,_,_,_,_]))]) hS underlying57 sizeOf59 zeroValue59 rfl rfl rfl (gJ _ _ _ _ _ _ _ _ _ _ _ _) rfl fun B8 W8 hS=>bL (us:=[(4,.slice _ _ _)]) rfl (fQ _ _ _) rfl (bA (i:=2) (vs:=[_,_,_,_,_,_]) (cs':=[_,_,_,_,_,_]) (O':=[_,_,_,_]) hS sizeOf59 rfl rfl rfl rfl rfl rfl rfl fun W9 hS=>aT (XF.thenN (bP (XF.res (eC (vs:=[_,_,_,_,_,_]) results31 isAgg59 sizeOf59 rfl (aM.own (j:=0) (m:=6) (hS.at_ 2 rfl) rfl)) ?_)))))))))))))))
  exact ⟨lB B8,rfl,iN (w6c (f:=gI 1) (aM.own (j:=0) (m:=6) (hS.at_ 0 rfl) rfl)) (w6c (f:=gT _ a1 c1 _) (aM.own (j:=6) (m:=6) (hS.at_ 0 rfl) rfl)) (hS.ge 0 rfl) (jF (by decide) (by decide)) (fH hgd (gE.agree hv1 (fun ad e=>(hk1 ad e).1) (hS.since 0 rfl)) (fun ad e=>Nat.le_trans hsz1 (hk1 ad e).1)),hS.below⟩
 ·have hc14:=of_decide_eq_false hc;clear hc
  refine aR (aR (aU (bW rfl rfl rfl (aK rfl rfl (aT (XF.thenN (bJ rfl (fun hc=>?_) (fun hc=>?_))))))))
  ·have hc23:=of_decide_eq_true hc;clear hc
   refine bQ (XF.thenN (bJ rfl (fun hc=>?_) (fun hc=>absurd (of_decide_eq_false hc) (by exact fun h=>h hc23))))
   have hc:=of_decide_eq_true hc
   clear hv1 hk1 hsz1
   have hkk:2≤s.k∧s.k≤6:=by omega
   have hxx:=hs.x hkk
   have hsz1:=hS.below.size
   have ht:=jB (n:=n) (x:=s.x) (nG (y:=s.y) (by omega:s.k=2∨s.k=4∨s.k=6))
   have hgz:setG n s.x (-2)=g:=ht.1.symm.trans hg
   have hrz:kJ n s.x (-2)=rows:=ht.2.symm.trans hr
   refine aU (aL rfl rfl (aQ (o':=3) cF rfl rfl rfl (aV isAgg3 rfl (aI (hS.at_ 2 rfl) rfl) rfl (cV (vs:=[_,_,_]) hS kD rfl (oW (n:Int) s.x (-2) _ 0 (iL hn hxx (by omega)) g hgz rows hrz) rfl ?_))))
   rintro e W10 ⟨a1,c1,rfl,hv1,hk1,hb⟩
   refine ⟨_,rfl,hb,fun hS'=>?_⟩
   clear hS;have hS:=hS';clear hS'
   refine aL rfl rfl (bM rfl rfl rfl (bM rfl rfl rfl (bA (i:=0) (vs:=[_,_]) (cs':=[_,_]) (O':=[_,_,_]) hS sizeOf55 rfl rfl rfl rfl rfl rfl rfl fun W11 hS=>aT (XF.blkN (XF.thenN (aR (aU (bL (us:=[(1,.int .i64 _)]) rfl (fO _) rfl (bF (vs:=[_,_]) isAgg55 sizeOf55 rfl (aM.own (j:=0) (m:=2) (hS.at_ 0 rfl) rfl) rfl (bL (us:=[(2,.agg (List.toArray [_,_]))]) rfl (fP _ _) rfl (cQ (us:=[(0,.agg (List.toArray [_,_,_,_,_,_])),(1,.agg (List.toArray [_,_,_,_,_,_]))]) hS underlying57 sizeOf59 zeroValue59 rfl rfl rfl (gJ _ _ _ _ _ _ _ _ _ _ _ _) rfl fun B12 W12 hS=>bL (us:=[(4,.slice _ _ _)]) rfl (fQ _ _ _) rfl (bA (i:=2) (vs:=[_,_,_,_,_,_]) (cs':=[_,_,_,_,_,_]) (O':=[_,_,_,_]) hS sizeOf59 rfl rfl rfl rfl rfl rfl rfl fun W13 hS=>aT (XF.thenN (bP (XF.res (eC (vs:=[_,_,_,_,_,_]) results31 isAgg59 sizeOf59 rfl (aM.own (j:=0) (m:=6) (hS.at_ 2 rfl) rfl)) ?_)))))))))))))))
   exact ⟨lB B12,rfl,iN (w6c (f:=gI 1) (aM.own (j:=0) (m:=6) (hS.at_ 0 rfl) rfl)) (w6c (f:=gT _ a1 c1 _) (aM.own (j:=6) (m:=6) (hS.at_ 0 rfl) rfl)) (hS.ge 0 rfl) (jF (by decide) (by decide)) (fH hgd (gE.agree hv1 (fun ad e=>(hk1 ad e).1) (hS.since 0 rfl)) (fun ad e=>Nat.le_trans hsz1 (hk1 ad e).1)),hS.below⟩
  ·have hc23:=of_decide_eq_false hc;clear hc
   have hn6:=hc23
   refine aR (aU (bW rfl rfl rfl (aK rfl rfl (aT (XF.thenN (bJ rfl (fun hc=>?_) (fun hc=>?_)))))))
   ·have hc23:=of_decide_eq_true hc;clear hc
    refine bQ (XF.thenN (bJ rfl (fun hc=>?_) (fun hc=>absurd (of_decide_eq_false hc) (by exact fun h=>h hc23))))
    have hc:=of_decide_eq_true hc
    clear hv1 hk1 hsz1
    have hkk:2≤s.k∧s.k≤6:=by omega
    have hxx:=hs.x hkk
    have hsz1:=hS.below.size
    have ht:=jB (n:=n) (x:=s.x) (nG (y:=s.y) (by omega:s.k=2∨s.k=4∨s.k=6))
    have hgz:setG n s.x (-2)=g:=ht.1.symm.trans hg
    have hrz:kJ n s.x (-2)=rows:=ht.2.symm.trans hr
    refine aU (aL rfl rfl (aQ (o':=3) cF rfl rfl rfl (aV isAgg3 rfl (aI (hS.at_ 2 rfl) rfl) rfl (cV (vs:=[_,_,_]) hS kD rfl (oW (n:Int) s.x (-2) _ 0 (iL hn hxx (by omega)) g hgz rows hrz) rfl ?_))))
    rintro e W14 ⟨a1,c1,rfl,hv1,hk1,hb⟩
    refine ⟨_,rfl,hb,fun hS'=>?_⟩
    clear hS;have hS:=hS';clear hS'
    refine aL rfl rfl (bM rfl rfl rfl (bM rfl rfl rfl (bA (i:=0) (vs:=[_,_]) (cs':=[_,_]) (O':=[_,_,_]) hS sizeOf55 rfl rfl rfl rfl rfl rfl rfl fun W15 hS=>aT (XF.blkN (XF.thenN (aR (aU (bL (us:=[(1,.int .i64 _)]) rfl (fO _) rfl (bF (vs:=[_,_]) isAgg55 sizeOf55 rfl (aM.own (j:=0) (m:=2) (hS.at_ 0 rfl) rfl) rfl (bL (us:=[(2,.agg (List.toArray [_,_]))]) rfl (fP _ _) rfl (cQ (us:=[(0,.agg (List.toArray [_,_,_,_,_,_])),(1,.agg (List.toArray [_,_,_,_,_,_]))]) hS underlying57 sizeOf59 zeroValue59 rfl rfl rfl (gJ _ _ _ _ _ _ _ _ _ _ _ _) rfl fun B16 W16 hS=>bL (us:=[(4,.slice _ _ _)]) rfl (fQ _ _ _) rfl (bA (i:=2) (vs:=[_,_,_,_,_,_]) (cs':=[_,_,_,_,_,_]) (O':=[_,_,_,_]) hS sizeOf59 rfl rfl rfl rfl rfl rfl rfl fun W17 hS=>aT (XF.thenN (bP (XF.res (eC (vs:=[_,_,_,_,_,_]) results31 isAgg59 sizeOf59 rfl (aM.own (j:=0) (m:=6) (hS.at_ 2 rfl) rfl)) ?_)))))))))))))))
    exact ⟨lB B16,rfl,iN (w6c (f:=gI 1) (aM.own (j:=0) (m:=6) (hS.at_ 0 rfl) rfl)) (w6c (f:=gT _ a1 c1 _) (aM.own (j:=6) (m:=6) (hS.at_ 0 rfl) rfl)) (hS.ge 0 rfl) (jF (by decide) (by decide)) (fH hgd (gE.agree hv1 (fun ad e=>(hk1 ad e).1) (hS.since 0 rfl)) (fun ad e=>Nat.le_trans hsz1 (hk1 ad e).1)),hS.below⟩
   ·have hc23:=of_decide_eq_false hc;clear hc
    have hn2:=hc23
    refine aU (bW rfl rfl rfl (aK rfl rfl (aT (XF.thenN (bJ rfl (fun hc=>?_) (fun hc=>?_))))))
    ·have hc23:=of_decide_eq_true hc;clear hc
     clear hv1 hk1 hsz1
     have hkk:2≤s.k∧s.k≤6:=by omega
     have hxx:=hs.x hkk
     have hsz1:=hS.below.size
     have ht:=jB (n:=n) (x:=s.x) (nG (y:=s.y) (by omega:s.k=2∨s.k=4∨s.k=6))
     have hgz:setG n s.x (-2)=g:=ht.1.symm.trans hg
     have hrz:kJ n s.x (-2)=rows:=ht.2.symm.trans hr
     refine aU (aL rfl rfl (aQ (o':=3) cF rfl rfl rfl (aV isAgg3 rfl (aI (hS.at_ 2 rfl) rfl) rfl (cV (vs:=[_,_,_]) hS kD rfl (oW (n:Int) s.x (-2) _ 0 (iL hn hxx (by omega)) g hgz rows hrz) rfl ?_))))
     rintro e W18 ⟨a1,c1,rfl,hv1,hk1,hb⟩
     refine ⟨_,rfl,hb,fun hS'=>?_⟩
     clear hS;have hS:=hS';clear hS'
     refine aL rfl rfl (bM rfl rfl rfl (bM rfl rfl rfl (bA (i:=0) (vs:=[_,_]) (cs':=[_,_]) (O':=[_,_,_]) hS sizeOf55 rfl rfl rfl rfl rfl rfl rfl fun W19 hS=>aT (XF.blkN (XF.thenN (aR (aU (bL (us:=[(1,.int .i64 _)]) rfl (fO _) rfl (bF (vs:=[_,_]) isAgg55 sizeOf55 rfl (aM.own (j:=0) (m:=2) (hS.at_ 0 rfl) rfl) rfl (bL (us:=[(2,.agg (List.toArray [_,_]))]) rfl (fP _ _) rfl (cQ (us:=[(0,.agg (List.toArray [_,_,_,_,_,_])),(1,.agg (List.toArray [_,_,_,_,_,_]))]) hS underlying57 sizeOf59 zeroValue59 rfl rfl rfl (gJ _ _ _ _ _ _ _ _ _ _ _ _) rfl fun B20 W20 hS=>bL (us:=[(4,.slice _ _ _)]) rfl (fQ _ _ _) rfl (bA (i:=2) (vs:=[_,_,_,_,_,_]) (cs':=[_,_,_,_,_,_]) (O':=[_,_,_,_]) hS sizeOf59 rfl rfl rfl rfl rfl rfl rfl fun W21 hS=>aT (XF.thenN (bP (XF.res (eC (vs:=[_,_,_,_,_,_]) results31 isAgg59 sizeOf59 rfl (aM.own (j:=0) (m:=6) (hS.at_ 2 rfl) rfl)) ?_)))))))))))))))
     exact ⟨lB B20,rfl,iN (w6c (f:=gI 1) (aM.own (j:=0) (m:=6) (hS.at_ 0 rfl) rfl)) (w6c (f:=gT _ a1 c1 _) (aM.own (j:=6) (m:=6) (hS.at_ 0 rfl) rfl)) (hS.ge 0 rfl) (jF (by decide) (by decide)) (fH hgd (gE.agree hv1 (fun ad e=>(hk1 ad e).1) (hS.since 0 rfl)) (fun ad e=>Nat.le_trans hsz1 (hk1 ad e).1)),hS.below⟩
    ·have hc23:=of_decide_eq_false hc;clear hc
     have hn4:=hc23
     refine aR (aU (bW rfl rfl rfl (aK rfl rfl (aT (XF.thenN (bJ rfl (fun hc=>?_) (fun hc=>?_)))))))
     ·have hc34:=of_decide_eq_true hc;clear hc
      clear hv1 hk1 hsz1
      have hyy:=hs.y hc34
      have hkk:2≤s.k∧s.k≤6:=by omega
      have hxx:=hs.x hkk
      have hsz1:=hS.below.size
      have ht:=jB (n:=n) (x:=s.x) (wU (y:=s.y) (by omega:s.k=3))
      have hgz:setG n s.x s.y=g:=ht.1.symm.trans hg
      have hrz:kJ n s.x s.y=rows:=ht.2.symm.trans hr
      refine aU (aL rfl rfl (aQ (o':=3) cF rfl rfl rfl (aV isAgg3 rfl (aI (hS.at_ 2 rfl) rfl) rfl (aQ (o':=4) dT rfl rfl rfl (aV isAgg3 rfl (aI (hS.at_ 2 rfl) rfl) rfl (cV (vs:=[_,_,_]) hS kD rfl (oW (n:Int) s.x s.y _ 0 (iL hn hxx (by omega)) g hgz rows hrz) rfl ?_))))))
      rintro e W22 ⟨a1,c1,rfl,hv1,hk1,hb⟩
      refine ⟨_,rfl,hb,fun hS'=>?_⟩
      clear hS;have hS:=hS';clear hS'
      refine aL rfl rfl (bM rfl rfl rfl (bM rfl rfl rfl (bA (i:=0) (vs:=[_,_]) (cs':=[_,_]) (O':=[_,_,_]) hS sizeOf55 rfl rfl rfl rfl rfl rfl rfl fun W23 hS=>aT (XF.blkN (XF.thenN (aR (aU (bL (us:=[(1,.int .i64 _)]) rfl (fO _) rfl (bF (vs:=[_,_]) isAgg55 sizeOf55 rfl (aM.own (j:=0) (m:=2) (hS.at_ 0 rfl) rfl) rfl (bL (us:=[(2,.agg (List.toArray [_,_]))]) rfl (fP _ _) rfl (cQ (us:=[(0,.agg (List.toArray [_,_,_,_,_,_])),(1,.agg (List.toArray [_,_,_,_,_,_]))]) hS underlying57 sizeOf59 zeroValue59 rfl rfl rfl (gJ _ _ _ _ _ _ _ _ _ _ _ _) rfl fun B24 W24 hS=>bL (us:=[(4,.slice _ _ _)]) rfl (fQ _ _ _) rfl (bA (i:=2) (vs:=[_,_,_,_,_,_]) (cs':=[_,_,_,_,_,_]) (O':=[_,_,_,_]) hS sizeOf59 rfl rfl rfl rfl rfl rfl rfl fun W25 hS=>aT (XF.thenN (bP (XF.res (eC (vs:=[_,_,_,_,_,_]) results31 isAgg59 sizeOf59 rfl (aM.own (j:=0) (m:=6) (hS.at_ 2 rfl) rfl)) ?_)))))))))))))))
      exact ⟨lB B24,rfl,iN (w6c (f:=gI 1) (aM.own (j:=0) (m:=6) (hS.at_ 0 rfl) rfl)) (w6c (f:=gT _ a1 c1 _) (aM.own (j:=6) (m:=6) (hS.at_ 0 rfl) rfl)) (hS.ge 0 rfl) (jF (by decide) (by decide)) (fH hgd (gE.agree hv1 (fun ad e=>(hk1 ad e).1) (hS.since 0 rfl)) (fun ad e=>Nat.le_trans hsz1 (hk1 ad e).1)),hS.below⟩
     ·have hc34:=of_decide_eq_false hc;clear hc
      have ht:=Ae (n:=n) (x:=s.x) (wV (k:=s.k) (y:=s.y) ⟨by omega,hc14,hc34⟩)
      obtain rfl:0=g:=ht.1.symm.trans hg
      obtain rfl:dE n=rows:=ht.2.symm.trans hr
      refine bQ (XF.blkN (XF.thenN (aR (aU (bL (us:=[(1,.int .i64 _)]) rfl (fO _) rfl (bF (vs:=[_,_]) isAgg55 sizeOf55 rfl (aM.own (j:=0) (m:=2) (hS.at_ 0 rfl) rfl) rfl (bL (us:=[(2,.agg (List.toArray [_,_]))]) rfl (fP _ _) rfl (cQ (us:=[(0,.agg (List.toArray [_,_,_,_,_,_])),(1,.agg (List.toArray [_,_,_,_,_,_]))]) hS underlying57 sizeOf59 zeroValue59 rfl rfl rfl (gJ _ _ _ _ _ _ _ _ _ _ _ _) rfl fun B26 W26 hS=>bL (us:=[(4,.slice _ _ _)]) rfl (fQ _ _ _) rfl (bA (i:=2) (vs:=[_,_,_,_,_,_]) (cs':=[_,_,_,_,_,_]) (O':=[_,_,_,_]) hS sizeOf59 rfl rfl rfl rfl rfl rfl rfl fun W27 hS=>aT (XF.thenN (bP (XF.res (eC (vs:=[_,_,_,_,_,_]) results31 isAgg59 sizeOf59 rfl (aM.own (j:=0) (m:=6) (hS.at_ 2 rfl) rfl)) ?_))))))))))))
      exact ⟨lB B26,rfl,iN (w6c (f:=gI 1) (aM.own (j:=0) (m:=6) (hS.at_ 0 rfl) rfl)) (w6c (f:=gT _ a1 c1 _) (aM.own (j:=6) (m:=6) (hS.at_ 0 rfl) rfl)) (hS.ge 0 rfl) (jF (by decide) (by decide)) (fH hgd (gE.agree hv1 (fun ad e=>(hk1 ad e).1) (hS.since 0 rfl)) (fun ad e=>Nat.le_trans hsz1 (hk1 ad e).1)),hS.below⟩
theorem yW (n:Nat) (s:gr_TV) (w:World) (hn:n≤64) (hs:StOk n s.k s.x s.y) (cs:List Cl) (hc:tkC n s.k s.x s.y s.kk=cs) :
  Calls prog 32 #[.int .i64 (n:Int),s.val] w (pB (.one 4 n) (.one (pX cs)) w):=by
 refine cS (args:=[.int .i64 (n:Int),s.val]) func32 rfl ntmps32 rfl ?_
 have hS:=St.start w
 have hvd:Val n cs:=by rw [← hc];exact Ac hn hs
 have hc0:=hc;clear hc
 refine aR (aU (cR (cs:=[_,_,_,_,_,_,_]) hS rfl rfl rfl fun B1 W1 hS=>bY (cs:=[_,_,_,_,_,_]) hS zeroValue59 rfl rfl fun B2 W2 hS=>aT (XF.thenN (aR (aU (bL (us:=[]) rfl (fG) rfl (bY (cs:=[_,_,_,_,_,_]) hS zeroValue59 rfl rfl fun B3 W3 hS=>?_)))))))
 refine bA (i:=0) (vs:=[_,_,_,_,_,_]) (cs':=[_,_,_,_,_,_]) (O':=[_,_,_]) hS sizeOf59 rfl rfl (by first | rfl | (have h0:=hS.oneV 0 _ rfl;simp only [List.all_cons,List.all_nil,Bool.and_true,Bool.and_eq_true];exact ⟨rfl,rfl,rfl,rfl,h0,rfl⟩)) rfl rfl rfl rfl fun W4 hS=>?_
 refine aT (XF.thenN (aR (aR ?_)))
 have hS:=hS.newG 88 3
 refine aU (aK rfl rfl (aT (XF.thenN (bR (eI (fun q l W=>∃ (k:Nat) (v:Value),k≤n∧q=n - k∧l=[(0,.int .i64 (n:Int)),(3,.pointer (some ⟨B1,0,none⟩)),(4,.pointer (some ⟨B2,0,none⟩)),(5,.pointer (some ⟨B3,0,none⟩)),(6,.int .i64 (k:Int))]∧St w [(B3,[.bool false,.int .i64 0,.int .u64 0,.slice none 0 0,v,.slice none 0 0],59),(B2,[.bool false,.int .i64 0,.int .u64 0,.slice none 0 0,.slice none 0 0,.slice none 0 0],59),(B1,[.int .i64 s.f,.int .i64 s.t,.int .i64 s.k,.int .i64 s.x,.int .i64 s.y,.int .i64 s.kk,.int .i64 s.s],79)] [⟨v,k,eK ((dK n).take k),88,3⟩] [] W) (n - 0) ([(0,_),(3,_),(4,_),(5,_),(6,_)]) ⟨rfl,rfl,rfl,rfl,rfl,trivial⟩ (⟨0,.slice none 0 0,Nat.zero_le _,rfl,rfl,hS.clear⟩) ?_)))))
 clear hS
 rintro q l W ⟨k,v,hkm,rfl,rfl,hS⟩
 refine aR (aR (aU (aL rfl rfl (aL rfl rfl (dA rfl rfl rfl (aT (XF.thenN (bJ rfl (fun hc=>?_) (fun hc=>?_)))))))))
 ·have hc10:=of_decide_eq_true hc;clear hc
  have hk:k < n:=by omega
  refine bQ (XF.thenN (aR (bR ?_)))
  refine mE (p:=6) (k:=8) (gi:=0) (m:=1) bG hS rfl rfl (by kernel_rfl) (by kernel_rfl) (by kernel_rfl) (fun d hd=>by cases hd) rfl rfl underlying56 tR rfl rfl (by show 0 < 3;decide) rfl rfl rfl (by dsimp only;simp only [maxLen];omega) (by dsimp only;show _ * 24≤_;omega) ?_
  refine cN 1 rfl rfl (by kernel_rfl) (rgV (li:=[(5,_)]) rfl (aP rfl) ⟨bB rfl,trivial⟩ (fun w hw=>aO (o':=4) dU rfl rfl) (aC rfl)) (cN 2 rfl rfl (by kernel_rfl) (rgV (li:=[(13,_)]) rfl (aP rfl) ⟨aG 0 (aA rfl rfl rfl),trivial⟩ (fun w hw=>aS isAgg56 rfl ((aJ hw 0).cell (Nat.zero_le _) (aI (hS.at_ 0 rfl) rfl))) (aC rfl)) (cN 3 rfl rfl (by kernel_rfl) (rgV (li:=[(6,_)]) rfl (aP rfl) ⟨bB rfl,trivial⟩ (fun w hw=>aW rfl) (aC rfl)) ?_))
  refine cN 4 rfl rfl (by kernel_rfl) (cH [isV _] rfl oH (aP rfl) ⟨bO (aG 2 (aA rfl rfl rfl)),trivial⟩ (fun vs w' hb hh=>by have e:=bN (us:=[_]) hh;subst e;exact (jX (k:Int) k (2 ^ k) (by omega) rfl (by omega) _).mono fun e w2 h=>⟨_,h.1,rfl,h.2▸Below.refl _ _⟩) (aC rfl)) ?_
  refine cN 5 rfl rfl (by kernel_rfl) (rgV (li:=[(16,_)]) rfl (aP rfl) ⟨aG 3 (aA rfl rfl rfl),trivial⟩ (fun w hw=>eN (us:=[(0,.int .u64 _)]) rfl (mX _)) (aC rfl)) (iF 6 rfl rfl (by kernel_rfl) (dV W.heap.size 1 88 _) (eJ) (iD (us:=[.agg (List.toArray [_,_,_])]) rfl (aP rfl) underlying56 sizeOf88 zeroValue88 rfl rfl ⟨bO (aG 4 (aA rfl rfl rfl)),trivial⟩ (sJ _ _ _) (aC rfl)) (iG 7 rfl rfl (gF 8 rfl rfl (rgV (li:=[(5,_)]) rfl (aP rfl) ⟨bB rfl,trivial⟩ (fun w hw=>aO (o':=4) dU rfl rfl) (aC rfl)) (lgV (li:=[(5,_)]) rfl (aP rfl) ⟨bB rfl,trivial⟩ (fun w=>aO (o':=4) dU rfl rfl) (aC rfl) rfl) (iE ⟨_,_,aG 1 (aA rfl rfl rfl),aG 5 (aA rfl rfl rfl),gG rfl rfl,?_⟩))))
  intro A5 v5 news5 W5 hbR hqA5 hS'
  clear hS;have hS:=hS';clear hS'
  cases hqA5
  refine aE (aE (aE (aE (aE ?_))))
  refine dO ?_;intro _ _
  refine aE (aE ?_)
  obtain ⟨g9,c9,e9,_,_⟩:=(hS.row 0 rfl).form (by show 0 < k+1;omega)
  dsimp only at e9
  subst e9
  refine bV (eV (i:=0) (cs':=[_,_,_,_,_,_]) (O':=[_,_,_]) hS sizeOf56 rfl rfl (by first | rfl | exact (hS.oneV 0 _ rfl :) | exact (hS.oneV 1 _ rfl :) | exact (hS.oneV 2 _ rfl :) | exact (hS.oneV 3 _ rfl :)) rfl rfl rfl rfl fun W6 hS=>aT (XF.blkN (XF.thenN (aU (aL rfl rfl (dH rfl rfl (IntWalk.i64_in _ (by omega)) rfl (aK rfl rfl (aT ?_))))))))
  exact XF.round (n - (k+1)) [(0,_),(3,_),(4,_),(5,_),(6,_)] (by omega) ⟨rfl,rfl,rfl,rfl,rfl,trivial⟩ ⟨k+1,_,by omega,rfl,rfl,by rw [pR hk,pQ];exact hS.clear⟩
 ·have hc10:=of_decide_eq_false hc;clear hc
  obtain rfl:k=n:=by omega
  have htk:(dK k).take k=dK k:=List.take_of_length_le (by rw [dL];exact Nat.le_refl _)
  rw [htk] at hS
  refine cZ (XF.thenX (XF.thenX (XF.blkX (XF.thenN (aR (aR (aU (aQ (o':=2) dQ rfl rfl rfl (aV isAgg77 rfl (aI (hS.at_ 2 rfl) rfl) rfl (aT (XF.thenN (bR (aR (aU (bW rfl rfl rfl (aK rfl rfl (aT (XF.thenN (bJ rfl (fun hc=>?_) (fun hc=>?_))))))))))))))))))))
  ·have hc23:=of_decide_eq_true hc;clear hc
   have hkk:2≤s.k∧s.k≤6:=by omega
   have hxx:=hs.x hkk
   obtain ⟨xN,hxN⟩:∃ x:Nat,s.x=(x:Int):=⟨s.x.toNat,by omega⟩
   have hxn:xN < k:=by omega
   obtain ⟨g9,c9,e9,_,_⟩:=(hS.row 0 rfl).form (by show 0 < k;omega)
   dsimp only at e9
   subst e9
   refine aU (aQ (o':=4) dU rfl rfl rfl (aV isAgg56 rfl (aI (hS.at_ 0 rfl) rfl) rfl (aQ (o':=3) cF rfl rfl rfl (aV isAgg3 rfl (aI (hS.at_ 2 rfl) rfl) rfl (aQ (o':=5) fU rfl rfl rfl (aV isAgg2 rfl (aI (hS.at_ 2 rfl) rfl) rfl (bL (us:=[(1,.int .i64 _),(2,.int .i64 _)]) rfl (tC _ _) rfl (cP (j:=xN) underlying56 sizeOf88 rfl rfl (by rw [hxN]) (hxn) rfl rfl ?_))))))))
   refine lC (i:=0) (vs:=[.int .u64 0,.int .i64 1,.int .i64 s.kk]) hS sizeOf88 rfl rfl rfl rfl (by show 0+xN * 3+3≤k * 3;omega) fun W88 hS=>?_
   have hS:=hS.castG (G':=[⟨.slice (some ⟨g9,0,none⟩) k c9,k,eK ((dK k).set xN ⟨0,1,s.kk⟩),88,3⟩]) (by rw [← kB (by rw [dL];exact hxn)];rfl)
   refine aT (XF.blkN (XF.thenN (aR ?_)))
   have hq:(dK k).set xN ⟨0,1,s.kk⟩=cs:=by rw [← hc0];unfold tkC;rw [if_pos hc23,hxN,Int.toNat_natCast]
   rw [hq] at hS
   refine aU (bF (vs:=[_,_,_,_,_,_]) isAgg59 sizeOf59 rfl (aM.own (j:=0) (m:=6) (hS.at_ 0 rfl) rfl) rfl ?_)
   refine bA (i:=1) (vs:=[_,_,_,_,_,_]) (cs':=[_,_,_,_,_,_]) (O':=[_,_,_]) hS sizeOf59 rfl rfl (by first | rfl | (have h0:=hS.oneV 0 _ rfl;simp only [List.all_cons,List.all_nil,Bool.and_true,Bool.and_eq_true];exact ⟨rfl,rfl,rfl,rfl,h0,rfl⟩)) rfl rfl rfl rfl fun W7 hS=>?_
   refine aT (XF.thenN (bP (XF.res (eC (vs:=[_,_,_,_,_,_]) results32 isAgg59 sizeOf59 rfl (aM.own (j:=0) (m:=6) (hS.at_ 1 rfl) rfl)) ?_)))
   have hrow:=hS.row 0 rfl
   obtain ⟨e7,a8,c8,e8,hr9,hf9⟩:=eQ hrow
   have e9:cs.length=k:=hvd.len
   refine ⟨cellsF a8 c8 cs,?_,gQ hvd hr9 (fun ad e=>(hf9 ad e).1),hS.below⟩
   dsimp only at e8
   rw [e8]
   show _=Ending.returned (Value.agg #[.bool false,.int .i64 0,.int .u64 ((0:Nat):Int),.slice none 0 0,.slice a8 cs.length c8,.slice none 0 0])
   rw [e9]
   rfl
  ·have hc23:=of_decide_eq_false hc;clear hc
   refine aR (aU (bW rfl rfl rfl (aK rfl rfl (aT (XF.thenN (bJ rfl (fun hc=>?_) (fun hc=>?_)))))))
   ·have hc33:=of_decide_eq_true hc;clear hc
    have hyy:=hs.y hc33
    obtain ⟨yN,hyN⟩:∃ y:Nat,s.y=(y:Int):=⟨s.y.toNat,by omega⟩
    have hkk:2≤s.k∧s.k≤6:=by omega
    have hxx:=hs.x hkk
    obtain ⟨xN,hxN⟩:∃ x:Nat,s.x=(x:Int):=⟨s.x.toNat,by omega⟩
    have hxn:xN < k:=by omega
    obtain ⟨g9,c9,e9,_,_⟩:=(hS.row 0 rfl).form (by show 0 < k;omega)
    dsimp only at e9
    subst e9
    refine Cv bG 9 hS rfl rfl (by kernel_rfl) (by kernel_rfl) (by kernel_rfl) (fun d hd=>by cases hd) (bZ 1 rfl 5 rfl rfl (fun w hw=>aO (o':=4) dU rfl rfl) rfl (aZ 2 rfl 35 0 rfl rfl rfl (fun w hw=>aS isAgg56 rfl ((aJ hw 0).cell (Nat.zero_le _) (aI (hS.at_ 0 rfl) rfl))) rfl (bZ 3 rfl 3 rfl rfl (fun w hw=>aO (o':=3) cF rfl rfl) rfl (aZ 4 rfl 37 2 rfl rfl rfl (fun w hw=>aS isAgg3 rfl ((aJ hw 0).cell (Nat.zero_le _) (aI (hS.at_ 2 rfl) rfl))) rfl (bZ 5 rfl 3 rfl rfl (fun w hw=>aO (o':=4) dT rfl rfl) rfl (aZ 6 rfl 39 4 rfl rfl rfl (fun w hw=>aS isAgg3 rfl ((aJ hw 0).cell (Nat.zero_le _) (aI (hS.at_ 2 rfl) rfl))) rfl ?_))))))
    refine aD 7 rfl (isV (.int .u64 ((2 ^ yN:Nat):Int))) (aB _) (cH [isV _] rfl oH (aP rfl) ⟨bO (aG 5 (aA rfl rfl rfl)),trivial⟩ (fun vs w' hb hh=>by have e:=bN (us:=[_]) hh;subst e;exact (jX s.y yN (2 ^ yN) (by omega) rfl (by omega) _).mono fun e w2 h=>⟨_,h.1,rfl,h.2▸Below.refl _ _⟩) (aC rfl)) ?_
    refine aZ 8 rfl 41 6 rfl rfl rfl (fun w hw=>eN (us:=[(0,.int .u64 _)]) rfl (mX _)) rfl (aD 9 rfl (isV _) (aB _) (rgV (li:=[(36,_),(38,_)]) rfl (aP rfl) ⟨aG 1 (aA rfl rfl rfl),aG 3 (aA rfl rfl rfl),trivial⟩ (fun w hw=>bH (j:=xN) underlying56 sizeOf88 rfl rfl (by rw [hxN]) (hxn) rfl) (aC rfl)) (dF ?_))
    intro W8 hbR hS'
    clear hS;have hS:=hS';clear hS'
    refine aE (aE (aE (aE (aE (aE (aE (aE (aE (bV ?_)))))))))
    refine lC (i:=0) (vs:=[.int .u64 ((2 ^ yN:Nat):Int),.int .i64 0,.int .i64 0]) hS sizeOf88 rfl rfl rfl rfl (by show 0+xN * 3+3≤k * 3;omega) fun W88 hS=>?_
    have hS:=hS.castG (G':=[⟨.slice (some ⟨g9,0,none⟩) k c9,k,eK ((dK k).set xN (kA yN)),88,3⟩]) (by rw [← kB (by rw [dL];exact hxn)];rfl)
    refine aT (XF.blkN (XF.thenN (aR ?_)))
    have hq:(dK k).set xN (kA yN)=cs:=by rw [← hc0];unfold tkC;rw [if_neg hc23,if_pos hc33,hxN,hyN,Int.toNat_natCast,Int.toNat_natCast]
    rw [hq] at hS
    refine aU (bF (vs:=[_,_,_,_,_,_]) isAgg59 sizeOf59 rfl (aM.own (j:=0) (m:=6) (hS.at_ 0 rfl) rfl) rfl ?_)
    refine bA (i:=1) (vs:=[_,_,_,_,_,_]) (cs':=[_,_,_,_,_,_]) (O':=[_,_,_]) hS sizeOf59 rfl rfl (by first | rfl | (have h0:=hS.oneV 0 _ rfl;simp only [List.all_cons,List.all_nil,Bool.and_true,Bool.and_eq_true];exact ⟨rfl,rfl,rfl,rfl,h0,rfl⟩)) rfl rfl rfl rfl fun W9 hS=>?_
    refine aT (XF.thenN (bP (XF.res (eC (vs:=[_,_,_,_,_,_]) results32 isAgg59 sizeOf59 rfl (aM.own (j:=0) (m:=6) (hS.at_ 1 rfl) rfl)) ?_)))
    have hrow:=hS.row 0 rfl
    obtain ⟨e7,a8,c8,e8,hr9,hf9⟩:=eQ hrow
    have e9:cs.length=k:=hvd.len
    refine ⟨cellsF a8 c8 cs,?_,gQ hvd hr9 (fun ad e=>(hf9 ad e).1),hS.below⟩
    dsimp only at e8
    rw [e8]
    show _=Ending.returned (Value.agg #[.bool false,.int .i64 0,.int .u64 ((0:Nat):Int),.slice none 0 0,.slice a8 cs.length c8,.slice none 0 0])
    rw [e9]
    rfl
   ·have hc33:=of_decide_eq_false hc;clear hc
    refine aR (aU (bW rfl rfl rfl (aK rfl rfl (aT (XF.thenN (bJ rfl (fun hc=>?_) (fun hc=>?_)))))))
    ·have hc44:=of_decide_eq_true hc;clear hc
     have hkk:2≤s.k∧s.k≤6:=by omega
     have hxx:=hs.x hkk
     obtain ⟨xN,hxN⟩:∃ x:Nat,s.x=(x:Int):=⟨s.x.toNat,by omega⟩
     have hxn:xN < k:=by omega
     obtain ⟨g9,c9,e9,_,_⟩:=(hS.row 0 rfl).form (by show 0 < k;omega)
     dsimp only at e9
     subst e9
     refine aU (aQ (o':=4) dU rfl rfl rfl (aV isAgg56 rfl (aI (hS.at_ 0 rfl) rfl) rfl (aQ (o':=3) cF rfl rfl rfl (aV isAgg3 rfl (aI (hS.at_ 2 rfl) rfl) rfl (bL (us:=[(1,.int .i64 _)]) rfl (mY _) rfl (cP (j:=xN) underlying56 sizeOf88 rfl rfl (by rw [hxN]) (hxn) rfl rfl ?_))))))
     refine lC (i:=0) (vs:=[.int .u64 0,.int .i64 2,.int .i64 0]) hS sizeOf88 rfl rfl rfl rfl (by show 0+xN * 3+3≤k * 3;omega) fun W88 hS=>?_
     have hS:=hS.castG (G':=[⟨.slice (some ⟨g9,0,none⟩) k c9,k,eK ((dK k).set xN ⟨0,2,0⟩),88,3⟩]) (by rw [← kB (by rw [dL];exact hxn)];rfl)
     refine aT (XF.blkN (XF.thenN (aR ?_)))
     have hq:(dK k).set xN ⟨0,2,0⟩=cs:=by rw [← hc0];unfold tkC;rw [if_neg hc23,if_neg hc33,if_pos hc44,hxN,Int.toNat_natCast]
     rw [hq] at hS
     refine aU (bF (vs:=[_,_,_,_,_,_]) isAgg59 sizeOf59 rfl (aM.own (j:=0) (m:=6) (hS.at_ 0 rfl) rfl) rfl ?_)
     refine bA (i:=1) (vs:=[_,_,_,_,_,_]) (cs':=[_,_,_,_,_,_]) (O':=[_,_,_]) hS sizeOf59 rfl rfl (by first | rfl | (have h0:=hS.oneV 0 _ rfl;simp only [List.all_cons,List.all_nil,Bool.and_true,Bool.and_eq_true];exact ⟨rfl,rfl,rfl,rfl,h0,rfl⟩)) rfl rfl rfl rfl fun W10 hS=>?_
     refine aT (XF.thenN (bP (XF.res (eC (vs:=[_,_,_,_,_,_]) results32 isAgg59 sizeOf59 rfl (aM.own (j:=0) (m:=6) (hS.at_ 1 rfl) rfl)) ?_)))
     have hrow:=hS.row 0 rfl
     obtain ⟨e7,a8,c8,e8,hr9,hf9⟩:=eQ hrow
     have e9:cs.length=k:=hvd.len
     refine ⟨cellsF a8 c8 cs,?_,gQ hvd hr9 (fun ad e=>(hf9 ad e).1),hS.below⟩
     dsimp only at e8
     rw [e8]
     show _=Ending.returned (Value.agg #[.bool false,.int .i64 0,.int .u64 ((0:Nat):Int),.slice none 0 0,.slice a8 cs.length c8,.slice none 0 0])
     rw [e9]
     rfl
    ·have hc44:=of_decide_eq_false hc;clear hc
     refine bQ (XF.blkN (XF.thenN (aR ?_)))
     have hq:dK k=cs:=by rw [← hc0];unfold tkC;rw [if_neg hc23,if_neg hc33,if_neg hc44]
     rw [hq] at hS
     refine aU (bF (vs:=[_,_,_,_,_,_]) isAgg59 sizeOf59 rfl (aM.own (j:=0) (m:=6) (hS.at_ 0 rfl) rfl) rfl ?_)
     refine bA (i:=1) (vs:=[_,_,_,_,_,_]) (cs':=[_,_,_,_,_,_]) (O':=[_,_,_]) hS sizeOf59 rfl rfl (by first | rfl | (have h0:=hS.oneV 0 _ rfl;simp only [List.all_cons,List.all_nil,Bool.and_true,Bool.and_eq_true];exact ⟨rfl,rfl,rfl,rfl,h0,rfl⟩)) rfl rfl rfl rfl fun W11 hS=>?_
     refine aT (XF.thenN (bP (XF.res (eC (vs:=[_,_,_,_,_,_]) results32 isAgg59 sizeOf59 rfl (aM.own (j:=0) (m:=6) (hS.at_ 1 rfl) rfl)) ?_)))
     have hrow:=hS.row 0 rfl
     obtain ⟨e7,a8,c8,e8,hr9,hf9⟩:=eQ hrow
     have e9:cs.length=k:=hvd.len
     refine ⟨cellsF a8 c8 cs,?_,gQ hvd hr9 (fun ad e=>(hf9 ad e).1),hS.below⟩
     dsimp only at e8
     rw [e8]
     show _=Ending.returned (Value.agg #[.bool false,.int .i64 0,.int .u64 ((0:Nat):Int),.slice none 0 0,.slice a8 cs.length c8,.slice none 0 0])
     rw [e9]
     rfl
theorem nI (m:Int) (n:Nat) (s:gr_TV) (w:World) (hn:n≤64) (hs:StOk n s.k s.x s.y) :
  Calls prog 19 #[.int .i64 m,.int .i64 (n:Int),s.val] w (pB (spM m n) (wtM m n s.k s.x s.y s.kk) w):=by
 refine cS (args:=[.int .i64 m,.int .i64 (n:Int),s.val]) func19 rfl ntmps19 rfl ?_
 have hS:=St.start w
 refine aR (aU (cR (cs:=[_,_,_,_,_,_,_]) hS rfl rfl rfl fun B1 W1 hS=>bY (cs:=[_,_,_,_,_,_]) hS zeroValue59 rfl rfl fun B2 W2 hS=>aT (XF.thenN (aR (aR (aU (aL rfl rfl (aT (XF.thenN (bR (aR (aU (bW rfl rfl rfl (aK rfl rfl (aT (XF.thenN (bJ rfl (fun hc=>?_) (fun hc=>?_))))))))))))))))))
 ·have hc8:=of_decide_eq_true hc;clear hc
  refine aR (aU (bL (us:=[(1,.int .i64 _)]) rfl (fO _) rfl (aL rfl rfl (bF (vs:=[_,_,_,_,_,_,_]) isAgg79 sizeOf79 rfl (aM.own (j:=0) (m:=7) (hS.at_ 1 rfl) rfl) rfl ?_))))
  have hsz1:=hS.below.size
  refine cV (vs:=[_,_]) hS sK rfl (tQ n s _ hn hs _ _ rfl rfl) rfl ?_
  rintro e W3 ⟨a1,c1,rfl,hp1,hb⟩
  refine ⟨_,rfl,hb,fun hS'=>?_⟩
  clear hS;have hS:=hS';clear hS'
  refine bL (us:=[(2,.agg (List.toArray [_,_]))]) rfl (fP _ _) rfl (cQ (us:=[(0,.agg (List.toArray [_,_,_,_,_,_])),(1,.agg (List.toArray [_,_,_,_,_,_]))]) hS underlying57 sizeOf59 zeroValue59 rfl rfl rfl (gJ _ _ _ _ _ _ _ _ _ _ _ _) rfl fun B4 W4 hS=>bL (us:=[(4,.slice _ _ _)]) rfl (fQ _ _ _) rfl (bA (i:=1) (vs:=[_,_,_,_,_,_]) (cs':=[_,_,_,_,_,_]) (O':=[_,_,_]) hS sizeOf59 rfl rfl rfl rfl rfl rfl rfl fun W5 hS=>aT (XF.thenN (bP (XF.blkR (XF.thenR (XF.res (eC (vs:=[_,_,_,_,_,_]) results19 isAgg59 sizeOf59 rfl (aM.own (j:=0) (m:=6) (hS.at_ 1 rfl) rfl)) ?_)))))))
  have e1:spM m n = .two 2 1048576 3 n:=by unfold spM;rw [if_pos hc8]
  have e2:wtM m n s.k s.x s.y s.kk = .two (pC 1) (pF (tkG n s.k s.x s.y) (tkR n s.k s.x s.y)):=by unfold wtM;rw [if_pos hc8]
  rw [e1,e2]
  exact ⟨lB B4,rfl,iN (w6c (f:=gI 1) (aM.own (j:=0) (m:=6) (hS.at_ 0 rfl) rfl)) (w6c (f:=gT _ a1 c1 _) (aM.own (j:=6) (m:=6) (hS.at_ 0 rfl) rfl)) (hS.ge 0 rfl) (jF (by decide) (by decide)) ((hp1.agree (hS.since 0 rfl)).mono hsz1),hS.below⟩
 ·have hc8:=of_decide_eq_false hc;clear hc
  refine aR (aU (bW rfl rfl rfl (aK rfl rfl (aT (XF.thenN (bJ rfl (fun hc=>?_) (fun hc=>?_)))))))
  ·have hc17:=of_decide_eq_true hc;clear hc
   refine aR (aU (aL rfl rfl (bF (vs:=[_,_,_,_,_,_,_]) isAgg79 sizeOf79 rfl (aM.own (j:=0) (m:=7) (hS.at_ 1 rfl) rfl) rfl ?_)))
   have hsz1:=hS.below.size
   refine cV (vs:=[_,_]) hS sL rfl (Dr n s _ hn hs _ rfl) rfl ?_
   rintro e W6 ⟨a1,c1,rfl,hp1,hb⟩
   refine ⟨_,rfl,hb,fun hS'=>?_⟩
   clear hS;have hS:=hS';clear hS'
   refine bL (us:=[(3,.slice _ _ _)]) rfl (qN _ _ _) rfl (bA (i:=0) (vs:=[_,_,_,_,_,_]) (cs':=[_,_,_,_,_,_]) (O':=[_,_]) hS sizeOf59 rfl rfl rfl rfl rfl rfl rfl fun W7 hS=>aT (XF.thenN (bP (XF.blkR (XF.thenR (XF.res (eC (vs:=[_,_,_,_,_,_]) results19 isAgg59 sizeOf59 rfl (aM.own (j:=0) (m:=6) (hS.at_ 0 rfl) rfl)) ?_))))))
   have e1:spM m n = .one 4 n:=by unfold spM;rw [if_neg hc8,if_pos hc17]
   have e2:wtM m n s.k s.x s.y s.kk = .one (pX (tkC n s.k s.x s.y s.kk)):=by unfold wtM;rw [if_neg hc8,if_pos hc17]
   rw [e1,e2]
   exact ⟨cellsF a1 c1 (tkC n s.k s.x s.y s.kk),rfl,(hp1.agree (hS.since 0 rfl)).mono hsz1,hS.below⟩
  ·have hc17:=of_decide_eq_false hc;clear hc
   refine bQ (XF.blkN (XF.thenN (aR (aU (bL (us:=[]) rfl (fG) rfl (bA (i:=0) (vs:=[_,_,_,_,_,_]) (cs':=[_,_,_,_,_,_]) (O':=[_,_]) hS sizeOf59 rfl rfl rfl rfl rfl rfl rfl fun W8 hS=>aT (XF.thenN (bP (XF.res (eC (vs:=[_,_,_,_,_,_]) results19 isAgg59 sizeOf59 rfl (aM.own (j:=0) (m:=6) (hS.at_ 0 rfl) rfl)) ?_)))))))))
   have e1:spM m n = .one 1 0:=by unfold spM;rw [if_neg hc8,if_neg hc17]
   have e2:wtM m n s.k s.x s.y s.kk = .one (pC 0):=by unfold wtM;rw [if_neg hc8,if_neg hc17]
   rw [e1,e2]
   exact ⟨gI 0,rfl,sF,hS.below⟩
theorem pU (g:GV) (m:Int) (n:Nat) (s:gr_TV) (w:World) (hn:n≤64) (hs:StOk n s.k s.x s.y) (hv:g.vl=n) :
  Calls prog 22 #[g.val,.int .i64 m,s.val] w (pB (spM m n) (wtM m n s.k s.x s.y s.kk) w):=by
 refine cS (args:=[g.val,.int .i64 m,s.val]) func22 rfl ntmps22 rfl ?_
 have hS:=St.start w
 subst hv
 refine aR (aU (cR (cs:=[_,_,_,_,_,_,_,_,_,_]) hS rfl rfl rfl fun B1 W1 hS=>cR (cs:=[_,_,_,_,_,_,_]) hS rfl rfl rfl fun B2 W2 hS=>bY (cs:=[_,_,_,_,_,_]) hS zeroValue59 rfl rfl fun B3 W3 hS=>aT (XF.thenN (aR (aR (aU (aL rfl rfl (aT (XF.thenN (bR (aR (aU (bW rfl rfl rfl (aK rfl rfl (aT (XF.thenN (bJ rfl (fun hc=>?_) (fun hc=>?_))))))))))))))))))
 ·have hc8:=of_decide_eq_true hc;clear hc
  refine aR (aU (aQ (o':=0) eE rfl rfl rfl (aV isAgg22 rfl (aI (hS.at_ 2 rfl) rfl) rfl (bU underlying22 rfl rfl (bF (vs:=[_,_,_,_,_,_,_]) isAgg79 sizeOf79 rfl (aM.own (j:=0) (m:=7) (hS.at_ 1 rfl) rfl) rfl ?_)))))
  have hsz1:=hS.below.size
  refine cV (vs:=[_,_]) hS yT rfl (Ch g.vl s _ hn hs _ _ rfl rfl) rfl ?_
  rintro e W4 ⟨f1,rfl,hp1,hb⟩
  refine ⟨_,rfl,hb,fun hS'=>?_⟩
  clear hS;have hS:=hS';clear hS'
  refine bA (i:=0) (vs:=[_,_,_,_,_,_]) (cs':=[_,_,_,_,_,_]) (O':=[_,_,_]) hS sizeOf59 rfl rfl rfl rfl rfl rfl rfl fun W5 hS=>aT (XF.thenN (bP (XF.blkR (XF.thenR (XF.res (eC (vs:=[_,_,_,_,_,_]) results22 isAgg59 sizeOf59 rfl (aM.own (j:=0) (m:=6) (hS.at_ 0 rfl) rfl)) ?_)))))
  have e1:spM m g.vl = .two 2 1048576 3 g.vl:=by unfold spM;rw [if_pos hc8]
  have e2:wtM m g.vl s.k s.x s.y s.kk = .two (pC 1) (pF (tkG g.vl s.k s.x s.y) (tkR g.vl s.k s.x s.y)):=by unfold wtM;rw [if_pos hc8]
  rw [e1,e2]
  exact ⟨f1,rfl,(hp1.agree (hS.since 0 rfl)).mono hsz1,hS.below⟩
 ·have hc8:=of_decide_eq_false hc;clear hc
  refine aR (aU (bW rfl rfl rfl (aK rfl rfl (aT (XF.thenN (bJ rfl (fun hc=>?_) (fun hc=>?_)))))))
  ·have hc15:=of_decide_eq_true hc;clear hc
   refine aR (aU (aQ (o':=0) eE rfl rfl rfl (aV isAgg22 rfl (aI (hS.at_ 2 rfl) rfl) rfl (bU underlying22 rfl rfl (bF (vs:=[_,_,_,_,_,_,_]) isAgg79 sizeOf79 rfl (aM.own (j:=0) (m:=7) (hS.at_ 1 rfl) rfl) rfl ?_)))))
   have hsz1:=hS.below.size
   refine cV (vs:=[_,_]) hS yU rfl (yW g.vl s _ hn hs _ rfl) rfl ?_
   rintro e W6 ⟨f1,rfl,hp1,hb⟩
   refine ⟨_,rfl,hb,fun hS'=>?_⟩
   clear hS;have hS:=hS';clear hS'
   refine bA (i:=0) (vs:=[_,_,_,_,_,_]) (cs':=[_,_,_,_,_,_]) (O':=[_,_,_]) hS sizeOf59 rfl rfl rfl rfl rfl rfl rfl fun W7 hS=>aT (XF.thenN (bP (XF.blkR (XF.thenR (XF.res (eC (vs:=[_,_,_,_,_,_]) results22 isAgg59 sizeOf59 rfl (aM.own (j:=0) (m:=6) (hS.at_ 0 rfl) rfl)) ?_)))))
   have e1:spM m g.vl = .one 4 g.vl:=by unfold spM;rw [if_neg hc8,if_pos hc15]
   have e2:wtM m g.vl s.k s.x s.y s.kk = .one (pX (tkC g.vl s.k s.x s.y s.kk)):=by unfold wtM;rw [if_neg hc8,if_pos hc15]
   rw [e1,e2]
   exact ⟨f1,rfl,(hp1.agree (hS.since 0 rfl)).mono hsz1,hS.below⟩
  ·have hc15:=of_decide_eq_false hc;clear hc
   refine bQ (XF.blkN (XF.thenN (aR (aU (bL (us:=[]) rfl (fG) rfl (bA (i:=0) (vs:=[_,_,_,_,_,_]) (cs':=[_,_,_,_,_,_]) (O':=[_,_,_]) hS sizeOf59 rfl rfl rfl rfl rfl rfl rfl fun W8 hS=>aT (XF.thenN (bP (XF.res (eC (vs:=[_,_,_,_,_,_]) results22 isAgg59 sizeOf59 rfl (aM.own (j:=0) (m:=6) (hS.at_ 0 rfl) rfl)) ?_)))))))))
   have e1:spM m g.vl = .one 1 0:=by unfold spM;rw [if_neg hc8,if_neg hc15]
   have e2:wtM m g.vl s.k s.x s.y s.kk = .one (pC 0):=by unfold wtM;rw [if_neg hc8,if_neg hc15]
   rw [e1,e2]
   exact ⟨gI 0,rfl,sF,hS.below⟩
section
variable {P:Program} {n:Nat} {ops:Array Oper} {Q:Exit→Act→World→Prop} {l:Fr} {w0 W:World} {os:List Oper} {d:Nat} {ty:TypeId} {pos:String} {aft:Array Edge}
end
section
variable {P:Program} {n:Nat} {Q:Exit→Act→World→Prop} {l:Fr} {W:World} {ops:Array Oper} {os:List Oper} {d:Nat} {ty:TypeId} {pos:String} {aft:Array Edge} {x y:Operand} {k:IntKind} {a b:Int} {ts:Array TypeId}
end
def kF:List (Nat×Nat×Asr)→(Operand→Value)→World→Prop
 | [],_,_=>True
 | x::xs,ev,w=>x.2.2 (ev (.tmp x.2.1)) w∧kF xs ev w
def sM (ops:Array Oper) (L:List Asr) (i:Nat):List (Nat×Nat×Asr)→Prop
 | []=>True
 | x::xs=>(cC ops i x.1 x.2.1=true∧atI L x.1=x.2.2)∧sM ops L i xs
section
variable {P:Program} {ops opf:Array Oper} {Q:Exit→Act→World→Prop} {n:Nat} {l:Fr} {w0 W:World} {K:List (Nat×World)} {lo:Nat} {al:List AB} {Ob:Own} {G:Sy→Grows} {E:List Nat} {L:List Asr} {i:Nat}
variable {d:Nat} {op:Op} {ty:TypeId} {pos:String} {aft_:Array Edge}
end
theorem Af (w:World) (b o:Nat):(Instr.fieldAt 38 (.pointer (some ⟨b,o,none⟩)) 0).run prog w = .ok (.pointer (some ⟨b,o+0,none⟩)) w:=by
 simp [Instr.fieldAt,run_underlying underlying38,Instr.sureAddr,go_sem,Addr.add_lit]
theorem Ag (w:World) (b o:Nat):(Instr.fieldAt 38 (.pointer (some ⟨b,o,none⟩)) 1).run prog w = .ok (.pointer (some ⟨b,o+3,none⟩)) w:=by
 simp [Instr.fieldAt,run_underlying underlying38,Instr.sureAddr,go_sem,Addr.add_lit]
theorem Ah (w:World) (b o:Nat):(Instr.fieldAt 38 (.pointer (some ⟨b,o,none⟩)) 2).run prog w = .ok (.pointer (some ⟨b,o+4,none⟩)) w:=by
 simp [Instr.fieldAt,run_underlying underlying38,Instr.sureAddr,go_sem,Addr.add_lit]
theorem pG (w:World) (b o:Nat):(Instr.fieldAt 38 (.pointer (some ⟨b,o,none⟩)) 3).run prog w = .ok (.pointer (some ⟨b,o+5,none⟩)) w:=by
 simp [Instr.fieldAt,run_underlying underlying38,Instr.sureAddr,go_sem,Addr.add_lit]
theorem Ai (w:World) (b o:Nat):(Instr.fieldAt 74 (.pointer (some ⟨b,o,none⟩)) 0).run prog w = .ok (.pointer (some ⟨b,o+0,none⟩)) w:=by
 simp [Instr.fieldAt,run_underlying underlying74,Instr.sureAddr,go_sem,Addr.add_lit]
theorem Aj (w:World) (b o:Nat):(Instr.fieldAt 74 (.pointer (some ⟨b,o,none⟩)) 1).run prog w = .ok (.pointer (some ⟨b,o+1,none⟩)) w:=by
 simp [Instr.fieldAt,run_underlying underlying74,Instr.sureAddr,go_sem,Addr.add_lit]
theorem Ak (w:World) (b o:Nat):(Instr.fieldAt 74 (.pointer (some ⟨b,o,none⟩)) 2).run prog w = .ok (.pointer (some ⟨b,o+2,none⟩)) w:=by
 simp [Instr.fieldAt,run_underlying underlying74,Instr.sureAddr,go_sem,Addr.add_lit]
theorem Al (w:World) (b o:Nat):(Instr.fieldAt 74 (.pointer (some ⟨b,o,none⟩)) 3).run prog w = .ok (.pointer (some ⟨b,o+3,none⟩)) w:=by
 simp [Instr.fieldAt,run_underlying underlying74,Instr.sureAddr,go_sem,Addr.add_lit]
theorem Am (w:World) (b o:Nat):(Instr.fieldAt 74 (.pointer (some ⟨b,o,none⟩)) 4).run prog w = .ok (.pointer (some ⟨b,o+4,none⟩)) w:=by
 simp [Instr.fieldAt,run_underlying underlying74,Instr.sureAddr,go_sem,Addr.add_lit]
theorem Row.at1 {w:World} {a:Option Addr} {zs:List Int} (h:Row w a zs) {i:Nat} (hi:i < zs.length):∃ b off y,a=some ⟨b,off,none⟩∧zs[i]?=some y∧w.cell? ⟨b,off+i * 1,none⟩=some (.int .i64 y):=by
 rcases h with rfl | ⟨b,off,ha,hc⟩
 ·simp at hi
 ·refine ⟨b,off,zs[i],ha,by simp [hi],?_⟩
  rw [Nat.mul_one]
  have:=hc i hi
  rw [this];simp [List.getD,List.getElem?_eq_getElem hi]
abbrev PR:=Int×Bool×Int×Int×Int×List Int×PX
structure R9 where
 num:Int
 first:Bool
 p:Int
 g:Int
 q:Int
 wa:Option Addr
 wc:Nat
 ws:List Int
 f:WF
 x:PX
abbrev R9.pl (r:R9):PR:=(r.num,r.first,r.p,r.g,r.q,r.ws,r.x)
abbrev pV (r:R9):List Value:=[.int .i64 r.p,.int .i64 r.g,.int .i64 r.q,.slice r.wa r.ws.length r.wc,.bool r.f.z,.int .i64 r.f.c,.int .u64 (r.f.g:Int),.slice r.f.ra r.f.rl r.f.rc,.slice r.f.ca r.f.cl r.f.cc,.slice r.f.pa r.f.pl r.f.pc]
theorem wret_gN {P:Program} {f:FuncId} {vs:Array Value} {w:World} {lo:Nat} {S:PS} {x:PX} (hlo:lo≤w.heap.size) (h:Calls P f vs w (pB S x w)):Calls P f vs w (uE (gD lo S x) w) :=
 h.mono fun e w2 ⟨g,he,hn,hb⟩=>⟨_,he,fun w3 hg=>⟨g,rfl,(hn.agree hg).mono hlo⟩,hb⟩
def NRow (w:World) (a:Option Addr) (ns:List R9):Prop:=∀ (i:Nat) r,ns[i]?=some r→∃ b off,a=some ⟨b,off,none⟩∧aM w b (off+i * 10) (pV r)
structure ROk (S:PS) (W:World) (r:R9):Prop where
 w:Row W r.wa r.ws
 l:r.ws.length≤9223372036854775807
 x:XIs W S r.f r.x
def Spc:Option PS→World→SF→Prop
 | none,_,f=>f=⟨0,0,none,0,0⟩
 | some S,w,f=>S.ok∧SIs w S f
theorem Spc.below {o:Option PS} {w w':World} {f:SF} (h:Spc o w f) (hb:Below w.heap.size w w'):Spc o w' f:=by
 cases o with
 | none=>exact h
 | some S=>exact ⟨h.1,h.2.below hb⟩
theorem Spc.sin {o:Option PS} {w:World} {f g:SF} (h:Spc o w f) (h2:Spc o w g):∃ s t:SV,s.f=f∧t.f=g∧SIn w 2 s∧SIn w 2 t∧smS 3 s=true∧eqS 2 s t=true:=by
 cases o with
 | none =>
  cases h;cases h2
  exact ⟨.mk ⟨0,0,none,0,0⟩ [],.mk ⟨0,0,none,0,0⟩ [],rfl,rfl,⟨rfl,.inl rfl,by simp⟩,⟨rfl,.inl rfl,by simp⟩,rfl,by simp [eqS]⟩
 | some S =>
  obtain ⟨hok,h⟩:=h
  obtain ⟨_,h2⟩:=h2
  cases S with
  | one t n =>
   obtain ⟨a,c,rfl⟩:=h
   obtain ⟨a',c',rfl⟩:=h2
   exact ⟨.mk ⟨t,n,a,0,c⟩ [],.mk ⟨t,n,a',0,c'⟩ [],rfl,rfl,⟨rfl,.inl rfl,by simp⟩,⟨rfl,.inl rfl,by simp⟩,by simp [smS,SV.f],by simp [eqS]⟩
  | two t n u m =>
   have key:∀ {f:SF},SIs w (.two t n u m) f→∃ (b off c c1 c2:Nat) (a1 a2:Option Addr),f=⟨5,0,some ⟨b,off,none⟩,2,c⟩∧SIn w 2 (.mk ⟨5,0,some ⟨b,off,none⟩,2,c⟩ [.mk ⟨t,n,a1,0,c1⟩ [],.mk ⟨u,m,a2,0,c2⟩ []]):=by
    rintro f ⟨b,off,c,a1,c1,a2,c2,rfl,h1,h2⟩
    refine ⟨b,off,c,c1,c2,a1,a2,rfl,rfl,.inr ⟨b,off,rfl,fun i p hi=>?_⟩,?_⟩
    ·match i,hi with
     | 0,hi=>simp at hi;subst hi;simpa [SV.f] using h1
     | 1,hi=>simp at hi;subst hi;simpa [SV.f] using h2
    ·intro p hp
     simp at hp
     rcases hp with rfl | rfl<;>exact ⟨rfl,.inl rfl,by simp⟩
   obtain ⟨b,off,c,c1,c2,a1,a2,rfl,k1⟩:=key h
   obtain ⟨b',off',c',c1',c2',a1',a2',rfl,k2⟩:=key h2
   exact ⟨_,_,rfl,rfl,k1,k2,by simp [smS,SV.f],by simp [eqS]⟩
theorem An {o:Option PS} {w:World} {f g:SF} (h:Spc o w f) (h2:Spc o w g):Calls prog 24 #[f.val,g.val] w fun e w'=>e = .returned (.bool true)∧Below w.heap.size w w':=by
 obtain ⟨s,t,rfl,rfl,k1,k2,k3,k4⟩:=h.sin h2
 have h9:=tB 2 3 s t w k1 k2 k3
 rw [k4] at h9
 exact h9
theorem pl_at9 {ns ms:List R9} (h:ns.map R9.pl=ms.map R9.pl) {i:Nat} {r:R9} (hi:ns[i]?=some r):∃ q,ms[i]?=some q∧q.num=r.num∧q.first=r.first∧q.p=r.p∧q.g=r.g∧q.q=r.q∧q.ws=r.ws∧q.x=r.x:=by
 have h1:(ms.map R9.pl)[i]?=some r.pl:=by rw [← h,List.getElem?_map,hi];rfl
 rw [List.getElem?_map] at h1
 obtain ⟨q,hq,e⟩:=Option.map_eq_some_iff.1 h1
 simp only [R9.pl,Prod.mk.injEq] at e
 exact ⟨q,hq,e.1,e.2.1,e.2.2.1,e.2.2.2.1,e.2.2.2.2.1,e.2.2.2.2.2.1,e.2.2.2.2.2.2⟩
theorem wW (wa va:Option Addr) (wl wc vc:Nat) (ws:List Int) (w:World) (hrow:Row w wa ws) (hrov:Row w va ws) (hlen:ws.length=wl) (hmx:wl≤9223372036854775807) :
  Calls prog 25 #[.slice wa wl wc,.slice va wl vc] w (fun e w'=>e = .returned (.bool (true))∧Below w.heap.size w w'):=by
 refine cS (args:=[.slice wa wl wc,.slice va wl vc]) func25 rfl ntmps25 rfl ?_
 have hS:=St.start w
 refine aR (aU (aK rfl rfl (aT (XF.thenN (aR (aR (aU (aL rfl rfl (bU underlying23 rfl rfl (aL rfl rfl (bU underlying23 rfl rfl (cW rfl rfl rfl (aT (XF.thenN (bJ rfl (fun hc=>absurd (of_decide_eq_true hc) (by exact fun h=>h rfl)) (fun hc=>?_))))))))))))))))
 have hc:=of_decide_eq_false hc
 refine bQ (XF.thenN (aR (aR (aU (aK rfl rfl (aT (XF.thenN (bR (eI (fun m l W=>∃ i:Nat,i≤wl∧m=wl - i∧l=[(0,.slice wa wl wc),(1,.slice va wl vc),(5,.int .i64 (i:Int))]∧St w [] [] [] W) (wl - 0) ([(0,_),(1,_),(5,_)]) ⟨rfl,rfl,rfl,trivial⟩ (⟨0,Nat.zero_le _,rfl,rfl,hS.clear⟩) ?_)))))))))
 clear hS
 rintro m l W ⟨i,hi,rfl,rfl,hS⟩
 refine aR (aR (aU (aL rfl rfl (aL rfl rfl (bU underlying23 rfl rfl (dA rfl rfl rfl (aT (XF.thenN (bJ rfl (fun hc=>?_) (fun hc=>?_))))))))))
 ·have hc14:=of_decide_eq_true hc;clear hc
  have hk:i < wl:=by omega
  obtain ⟨b1,o1,y,rfl,hy,hyc⟩:=hrow.at1 (show i < ws.length by omega)
  obtain ⟨b2,o2,z,rfl,hz,hzc⟩:=hrov.at1 (show i < ws.length by omega)
  obtain rfl:y=z:=Option.some.inj (hy.symm.trans hz)
  have k1:=hS.old hyc
  have k2:=hS.old hzc
  refine bQ (XF.thenN (aR (bR (aR (fK (m:=9) gX hS (by kernel_rfl) (by kernel_rfl) rfl (bZ 1 rfl 0 rfl rfl (fun w hw=>aW rfl) rfl (bZ 2 rfl 5 rfl rfl (fun w hw=>aW rfl) rfl (aD 3 rfl (isV _) (aB _) (rgV (li:=[(17,_),(18,_)]) rfl (aP rfl) ⟨aG 0 (aA rfl rfl rfl),aG 1 (aA rfl rfl rfl),trivial⟩ (fun w hw=>bH  underlying23 sizeOf3 rfl rfl rfl (by omega) rfl) (aC rfl)) (aZ 4 rfl 19 2 rfl rfl rfl (fun w hw=>aS isAgg3 rfl ((aJ hw 0).cell (Nat.zero_le _) (k1))) rfl (bZ 5 rfl 1 rfl rfl (fun w hw=>aW rfl) rfl (bZ 6 rfl 5 rfl rfl (fun w hw=>aW rfl) rfl (aD 7 rfl (isV _) (aB _) (rgV (li:=[(21,_),(22,_)]) rfl (aP rfl) ⟨aG 4 (aA rfl rfl rfl),aG 5 (aA rfl rfl rfl),trivial⟩ (fun w hw=>bH  underlying23 sizeOf3 rfl rfl rfl (by omega) rfl) (aC rfl)) (aZ 8 rfl 23 6 rfl rfl rfl (fun w hw=>aS isAgg3 rfl ((aJ hw 0).cell (Nat.zero_le _) (k2))) rfl (aD 9 rfl (isV _) (aB _) (rgV (li:=[(20,_),(24,_)]) rfl (aP rfl) ⟨aG 3 (aA rfl rfl rfl),aG 7 (aA rfl rfl rfl),trivial⟩ (fun w hw=>dX rfl rfl) (aC rfl)) (dF ?_)))))))))))))))
  intro W1 hbR hS'
  clear hS;have hS:=hS';clear hS'
  refine aE (aE (aE (aE (aE (aE (aE (aE (aE (bV (XF.thenN (bJ rfl (fun hc=>absurd hc (by simp)) (fun hc=>?_))))))))))))
  skip
  refine bQ (XF.blkN (XF.thenN (aU (aL rfl rfl (dH rfl rfl (IntWalk.i64_in _ (by omega)) rfl (aK rfl rfl (aT ?_)))))))
  exact XF.round (wl - (i+1)) [(0,_),(1,_),(5,_)] (by omega) ⟨rfl,rfl,rfl,trivial⟩ ⟨i+1,by omega,rfl,rfl,hS.clear⟩
 ·have hc14:=of_decide_eq_false hc;clear hc
  refine cZ (XF.thenX (XF.thenX (XF.blkX (XF.thenN (aR (aU (aK rfl rfl (aT (XF.thenN (bP (XF.res (cG results25 rfl) ?_)))))))))))
  exact ⟨rfl,hS.below⟩
section
variable {P:Program} {ops:Array Oper} {Q:Exit→Act→World→Prop} {n:Nat} {l:Fr} {W:World} {L:List Asr} {i:Nat}
variable {d:Nat} {op:Op} {ty:TypeId} {pos:String} {aft_:Array Edge}
theorem rgPs (ds:List (Nat×Nat×Asr)) (hi:ops[i]?=some ⟨some d,op,ty,pos,aft_,none⟩) {q:Asr} (hds:sM ops L i ds)
  (hr:∀ (ev:Operand→Value) w,Below W.heap.size W w→kF ds ev w→∃ v,(execOp ev ⟨some d,op,ty,pos,#[],none⟩).run P w = .ok (.value v) w∧q v w) (hI:atI L i=q):RG P n ops Q l W L i :=
 fun a ha=>mA hi (aP rfl) fun b w hF hG hD=>by
  have key:∀ (ds:List (Nat×Nat×Asr)),sM ops L i ds→kF ds b.eval w:=by
   intro ds
   induction ds with
   | nil=>intro _;trivial
   | cons x xs ih =>
    intro h
    refine ⟨?_,ih h.2⟩
    have h1:=hD x.1 x.2.1 h.1.1
    rw [h.1.2] at h1
    exact h1
  obtain ⟨v,h2,h3⟩:=hr b.eval w hG (key ds hds)
  exact ⟨v,w,by rw [fR b.eval _ _ _ _ pos _ #[] _ none];exact h2,by rw [hI];exact h3,Below.refl _ _⟩
end
section
variable {ops:Array Oper} {Q:Exit→Act→World→Prop} {n:Nat} {l:Fr} {W:World} {L:List Asr} {i:Nat} {d:Nat} {ty:TypeId} {pos:String} {aft_:Array Edge}
end
section
variable {n:Nat} {Q:Exit→Act→World→Prop} {l:Fr} {w0 W:World} {ops:Array Oper} {os:List Oper} {K:List (Nat×World)} {L:List Asr} {i:Nat}
variable {al:List Nat} {ca:Nat→Option Value→List Value} {ta:Nat→TypeId} {Os:Option Value→Own} {Gs:Option Value→Grows} {lo ef jy:Nat} {s:Sg}
variable {d:Nat} {ty:TypeId} {pos:String} {aft_:Array Edge}
theorem sg_ofs {P:Program} {op:Op} (dd:List (Nat×Nat×Asr)) (hal:al.contains i=false) (hie:Nat.beq i ef=false) (hij:nV ops ef jy i=true) (hi:ops[i]?=some ⟨some d,op,ty,pos,aft_,none⟩) (hNo:nO al ef L) {q:Asr} (hds:sM ops L i dd) (hnd:dd.all (fun x => !(al.contains x.1) && !(Nat.beq x.1 ef))=true)
  (hr:∀ (ev:Operand→Value) w,kF dd ev w→∃ v,(execOp ev ⟨some d,op,ty,pos,#[],none⟩).run P w = .ok (.value v) w∧∀ w2,kF dd ev w2→q v w2) (hI:atI L i=q):SG P n ops Q l w0 K lo al ef jy ca ta Os Gs L i :=
 oP (fun h=>by rw [List.contains_iff_mem.2 h] at hal;cases hal) (fun e=>by rw [e,Nat.beq_refl] at hie;cases hie) (kW hij) hi hNo fun t0 a s w h0 hF hG he hD hD'=>by
  have key:∀ (dd:List (Nat×Nat×Asr)),sM ops L i dd→dd.all (fun x => !(al.contains x.1) && !(Nat.beq x.1 ef))=true→∀ w2,gR lo (XB (OE ca ta Os s) (Gs s.ev)) w w2→kF dd a.eval w2:=by
   intro dd
   induction dd with
   | nil=>intro _ _ w2 _;trivial
   | cons x xs ih =>
    intro h hn w2 h2
    simp only [List.all_cons,Bool.and_eq_true,Bool.not_eq_true'] at hn
    refine ⟨?_,ih h.2 hn.2 w2 h2⟩
    have hA:=(hD x.1 x.2.1 h.1.1).2.2.2 (fun h9=>by rw [List.contains_iff_mem.2 h9] at hn;cases hn.1.1) (fun e=>by rw [e,Nat.beq_refl] at hn;cases hn.1.2)
    rw [h.1.2] at hA
    exact hA w2 h2
  obtain ⟨v,h1,h2⟩:=hr a.eval w (key dd hds hnd w (gR.refl _ _ _))
  exact rM hi rfl (by rw [fR a.eval _ _ _ _ pos _ #[] _ none];exact h1) ⟨v,rfl,by rw [hI];exact fun w2 hw2=>h2 w2 (key dd hds hnd w2 hw2),Below.refl _ _⟩
end
theorem stE {w W W2:World} {O:Own} {G:Grows} {K:List (Nat×World)} (hS:St w O G K W) (h1:Below w.heap.size w W2) (h2:dN w.heap.size W W2):St w [] [] K W2 :=
 ⟨h1,(fun p h=>by cases h),List.Pairwise.nil,(fun q hq=>by
  obtain ⟨hk,_⟩:=hS.kept q hq
  refine ⟨⟨Nat.le_trans hk.1 h2.1,fun k hk1 hk2=>?_⟩,fun p hp=>by cases hp⟩
  rcases Nat.lt_or_ge k w.heap.size with h | h
  ·exact (h1.block k h).trans ((hS.below.block k h).symm.trans (hk.2 k hk1 hk2))
  ·exact (h2.2 k h (Nat.lt_of_lt_of_le hk2 hk.1)).trans (hk.2 k hk1 hk2)),(fun q h=>by cases h),List.Pairwise.nil⟩
theorem wX {f g:WF} (h:f.val=g.val) (hp:f.pf=g.pf):f=g:=by
 obtain ⟨z,c,g1,ra,rl,rc,rows,ca,cl,cc,cells,pa,pl,pc⟩:=f
 obtain ⟨z',c',g',ra',rl',rc',rows',ca',cl',cc',cells',pa',pl',pc'⟩:=g
 simp [WF.val,WF.pf] at h hp
 obtain ⟨h1,h2,h3,h4,h5,h6⟩:=h
 obtain ⟨p1,p2,p3,p4,p5⟩:=hp
 obtain ⟨e1,e2,e3⟩:=h4
 obtain ⟨e4,e5,e6⟩:=h5
 obtain ⟨e7,e8,e9⟩:=h6
 subst h1;subst h2;subst p3;subst p4;subst p5;subst e1;subst e2;subst e3;subst e4;subst e5;subst e6;subst e7;subst e8;subst e9
 rfl
theorem gW.samepf9 {lo lo':Nat} {w w':World} {S:PS} {f g:WF} {x:PX} (h:gW lo w S f x) (k:gW lo' w' S g x):f.pf=g.pf:=by
 cases S<;>cases x<;>first | exact h.elim | skip
 ·exact h.is.pf.trans k.is.pf.symm
 ·exact h.1.trans k.1.symm
abbrev pW (g:Int) (a:Option Addr) (l c:Nat) (f:WF):List Value:=[.int .i64 0,.int .i64 g,.int .i64 0,.slice a l c,.bool f.z,.int .i64 f.c,.int .u64 (f.g:Int),.slice f.ra f.rl f.rc,.slice f.ca f.cl f.cc,.slice f.pa f.pl f.pc]
def pH (lo:Nat) (g:Int) (a:Option Addr) (l c:Nat) (S:PS) (x:PX):Asr:=fun v w=>∃ f:WF,v = .agg (pW g a l c f).toArray∧gW lo w S f x
def kG (lo:Nat) (g:Int) (a:Option Addr) (l c:Nat) (S:PS) (x:PX):Asr:=fun v w=>∃ (f:WF) (B2:Nat),v = .slice (some ⟨B2,0,none⟩) 1 1∧w.heap[B2]?=some (.cells (pW g a l c f).toArray 74 (0,0))∧gW lo w S f x
theorem pI {lo:Nat} {g:Int} {a:Option Addr} {l c:Nat} {S:PS} {x:PX}:jJ (pH lo g a l c S x):=fun v w w' ⟨f,h1,h2⟩ hb=>⟨f,h1,h2.below hb⟩
theorem kQ {lo:Nat} {g:Int} {a:Option Addr} {l c:Nat} {S:PS} {x:PX}:jJ (kG lo g a l c S x):=fun v w w' ⟨f,B2,h1,h2,h3⟩ hb=>⟨f,B2,h1,(hb.block B2 (cT h2)).trans h2,h3.below hb⟩
theorem Ds (g:Int) (a:Option Addr) (l c:Nat) (f:WF):prog.built 74 [(1,.int .i64 g),(3,.slice a l c),(4,f.val)]=some (pW g a l c f).toArray:=by kernel_rfl
theorem bldRu2 (g:Int) (f:WF):prog.built 74 [(1,.int .i64 g),(4,f.val)]=some (pW g none 0 0 f).toArray:=by kernel_rfl
section
variable {d j1 j2 j3 t1 t2 t3 lo:Nat} {W:World} {ty:TypeId} {pos:String} {g:Int} {a:Option Addr} {l c:Nat} {S:PS} {x:PX}
theorem wY:∀ (ev:Operand→Value) (w:World),Below W.heap.size W w→kF [(j1,t1,isV (.int .i64 g)),(j2,t2,isV (.slice a l c)),(j3,t3,gD lo S x)] ev w →
  ∃ v,(execOp ev ⟨some d,.build 74 #[(1,.tmp t1),(3,.tmp t2),(4,.tmp t3)],ty,pos,#[],none⟩).run prog w = .ok (.value v) w∧pH lo g a l c S x v w:=fun ev w _ ⟨h1,h2,⟨f,h3,h4⟩,_⟩=>by
 have e1:ev (.tmp t1)=_:=h1
 have e2:ev (.tmp t2)=_:=h2
 have e3:ev (.tmp t3)=_:=h3
 refine ⟨.agg (pW g a l c f).toArray,?_,f,rfl,h4⟩
 have hr:=run_build w 74 #[(1,.int .i64 g),(3,.slice a l c),(4,f.val)] _ (P:=prog) (Ds g a l c f)
 unfold execOp
 simp only [List.map_toArray,List.map_cons,List.map_nil,e1,e2,e3]
 simp [hr]
theorem wZ:∀ (ev:Operand→Value) (w:World),Below W.heap.size W w→kF [(j1,t1,isV (.int .i64 g)),(j3,t3,gD lo S x)] ev w →
  ∃ v,(execOp ev ⟨some d,.build 74 #[(1,.tmp t1),(4,.tmp t3)],ty,pos,#[],none⟩).run prog w = .ok (.value v) w∧pH lo g none 0 0 S x v w:=fun ev w _ ⟨h1,⟨f,h3,h4⟩,_⟩=>by
 have e1:ev (.tmp t1)=_:=h1
 have e3:ev (.tmp t3)=_:=h3
 refine ⟨.agg (pW g none 0 0 f).toArray,?_,f,rfl,h4⟩
 have hr:=run_build w 74 #[(1,.int .i64 g),(4,f.val)] _ (P:=prog) (bldRu2 g f)
 unfold execOp
 simp only [List.map_toArray,List.map_cons,List.map_nil,e1,e3]
 simp [hr]
theorem nJ:Cy 1 10 (fun cs w=>∃ f,cs=pW g a l c f∧gW lo w S f x) (kG lo g a l c S x):=fun v w ⟨f,B2,h1,h2,h3⟩ =>
 ⟨B2,0,1,_,h1,aM.own (j:=0) (m:=10) h2 rfl,rfl,rfl,f,rfl,h3⟩
end
section
variable {ops:Array Oper} {Q:Exit→Act→World→Prop} {n:Nat} {lf:Fr} {W:World} {L:List Asr} {i:Nat} {d:Nat} {ty:TypeId} {pos:String} {aft_:Array Edge}
theorem nK {t:Nat} {g:Int} {a:Option Addr} {l c:Nat} {S:PS} {x:PX} (hi:ops[i]?=some ⟨some d,.buildSlice 36 1 #[(0,.tmp t)],ty,pos,aft_,none⟩) (hp:OpG n ops lf L i t (pH W.heap.size g a l c S x)) (hI:atI L i=kG W.heap.size g a l c S x):RG prog n ops Q lf W L i :=
 xH (xs:=[(0,.tmp t)]) [pH W.heap.size g a l c S x] hi (aP rfl) underlying36 sizeOf74 zeroValue74 rfl rfl ⟨bO hp,trivial⟩ fun vs w hb hh=>by
  match vs,hh with
  | [v],⟨⟨f,h1,h2⟩,_⟩ =>
   subst h1
   exact ⟨pW g a l c f,by kernel_rfl,fun B2 w' hB h4 h5=>by rw [hI];exact ⟨f,B2,rfl,h4,h2.below h5⟩⟩
end
structure PdO (o:Option PS) (pl:List PR) (W:World) (sf:SF) (n:Nat) (a1:Option Addr) (ns:List R9):Prop where
 r1:NRow W a1 ns
 ok:∀ S,o=some S→∀ r∈ns,ROk S W r
 no:o=none→ns=[]
 pl:ns.map R9.pl=pl
 sp:Spc o W sf
 len:ns.length=n
 max:n≤1000000
theorem Dt {w:World}:PdO none [] w ⟨0,0,none,0,0⟩ 0 none []:=⟨(fun i r hi=>by simp at hi),(fun S h=>by cases h),fun _=>rfl,rfl,rfl,rfl,by omega⟩
theorem Ao {W:World} {B:Nat} {x:Int} (h:W.heap[B]?=some (.cells (List.toArray [.int .i64 x]) 3 (0,0))):Row W (some ⟨B,0,none⟩) [x]:=.inr ⟨B,0,rfl,fun i hi=>by
 match i,hi with
 | 0,_=>simp [World.cell?,h]
 | i+1,hi=>exact absurd hi (by simp)⟩
theorem Du {W:World} {lo b n c i:Nat} {ns:List R9} {r:R9} (h:W.ownsRow lo 74 10 (.slice (some ⟨b,0,none⟩) n c) n (ns.flatMap pV)) (hi:ns[i]?=some r):aM W b (i * 10) (pV r):=by
 have key:∀ (l:List R9) (i:Nat),l[i]?=some r→((l.flatMap pV).drop (i * 10)).take 10=pV r:=by
  intro l
  induction l with
  | nil=>intro i h;simp at h
  | cons z l ih =>
   intro i h
   cases i with
   | zero=>simp at h;subst h;rfl
   | succ i =>
    have e:(i+1) * 10=10+i * 10:=by omega
    rw [List.flatMap_cons,e,← List.drop_drop]
    exact ih i (by simpa using h)
 have e5:=key ns i hi
 refine aM.of fun j v hj=>wR h ?_
 rw [← e5,List.getElem?_take] at hj
 split at hj
 ·rw [List.getElem?_drop] at hj;exact hj
 ·cases hj
theorem Ci {w:World} {lo n c:Nat} {a:Option Addr} {ns:List R9} (h:w.ownsRow lo 74 10 (.slice a n c) n (ns.flatMap pV)) (hn:ns.length=n):NRow w a ns:=fun i r hi=>by
 have hl:i < ns.length:=(List.getElem?_eq_some_iff.1 hi).1
 obtain ⟨b,c9,e,_⟩:=xJ h (by omega)
 injection e with e1 e2 e3
 subst e1;subst e3
 exact ⟨b,0,rfl,by rw [Nat.zero_add];exact Du h hi⟩
def Ap (lo:Nat) (g t:Int) (S:PS) (x:PX):Asr:=fun v w=>∃ (f:WF) (B:Nat),v = .agg (pW g (some ⟨B,0,none⟩) 1 1 f).toArray∧w.heap[B]?=some (.cells (List.toArray [.int .i64 t]) 3 (0,0))∧gW lo w S f x
theorem bld_ruQ {d j1 j2 j3 t1 t2 t3 lo:Nat} {ty:TypeId} {pos:String} {g t:Int} {S:PS} {x:PX}:∀ (ev:Operand→Value) (w:World),kF [(j1,t1,isV (.int .i64 g)),(j2,t2,dV lo 1 3 [.int .i64 t]),(j3,t3,gD lo S x)] ev w →
  ∃ v,(execOp ev ⟨some d,.build 74 #[(1,.tmp t1),(3,.tmp t2),(4,.tmp t3)],ty,pos,#[],none⟩).run prog w = .ok (.value v) w∧∀ w2,kF [(j1,t1,isV (.int .i64 g)),(j2,t2,dV lo 1 3 [.int .i64 t]),(j3,t3,gD lo S x)] ev w2→Ap lo g t S x v w2:=fun ev w ⟨h1,⟨B,h2,h2l,h2h⟩,⟨f,h3,h4⟩,_⟩=>by
 have e1:ev (.tmp t1)=_:=h1
 have e2:ev (.tmp t2)=_:=h2
 have e3:ev (.tmp t3)=_:=h3
 refine ⟨.agg (pW g (some ⟨B,0,none⟩) 1 1 f).toArray,?_,fun w2 ⟨_,⟨B2,k2,_,k2h⟩,⟨f2,k3,k4⟩,_⟩=>?_⟩
 ·have hr:=run_build w 74 #[(1,.int .i64 g),(3,.slice (some ⟨B,0,none⟩) 1 1),(4,f.val)] _ (P:=prog) (Ds g (some ⟨B,0,none⟩) 1 1 f)
  unfold execOp
  simp only [List.map_toArray,List.map_cons,List.map_nil,e1,e2,e3]
  simp [hr]
 ·have k2':ev (.tmp t2)=_:=k2
  have k3':ev (.tmp t3)=_:=k3
  rw [e2] at k2';rw [e3] at k3'
  injection k2' with k2';injection k2' with k2';injection k2' with k2'
  subst k2'
  obtain rfl:=wX k3' (h4.samepf9 k4)
  exact ⟨f,B,rfl,k2h,k4⟩
theorem Dv {g:Int} {B B2:Nat} {f f2:WF} (h:(Value.agg (pW g (some ⟨B,0,none⟩) 1 1 f).toArray) = .agg (pW g (some ⟨B2,0,none⟩) 1 1 f2).toArray):B=B2∧f.val=f2.val:=by
 simp [WF.val] at h ⊢
 exact ⟨h.1,h.2.1,h.2.2.1,h.2.2.2.1,h.2.2.2.2.1,h.2.2.2.2.2.1,h.2.2.2.2.2.2⟩
theorem ruQ_at {lo:Nat} {g t:Int} {S:PS} {x:PX} {f:WF} {B:Nat} {W W2:World} (hf:gW lo W S f x) (h:Ap lo g t S x (.agg (pW g (some ⟨B,0,none⟩) 1 1 f).toArray) W2):W2.heap[B]?=some (.cells (List.toArray [.int .i64 t]) 3 (0,0))∧XIs W2 S f x:=by
 obtain ⟨f2,B2,e,h2,h3⟩:=h
 obtain ⟨e1,e2⟩:=Dv e
 obtain rfl:=wX e2 (hf.samepf9 h3)
 subst e1
 exact ⟨h2,h3.is⟩
def jI (lo:Nat) (S:PS):Asr:=fun v w=>∃ s2:SF,v=s2.val∧∀ W2,dN lo w W2→SIs W2 S s2
theorem sN {lo:Nat} {S:PS} {s:SF} {w:World} (h:jI lo S s.val w):SIs w S s:=by
 obtain ⟨t,e,h⟩:=h
 obtain ⟨a1,a2,a3,a4,a5⟩:=s
 obtain ⟨b1,b2,b3,b4,b5⟩:=t
 simp [SF.val] at e
 obtain ⟨e1,e2,e3,e4,e5⟩:=e
 subst e1;subst e2;subst e3;subst e4;subst e5
 exact h w (dN.refl lo w)
theorem xA {P:Program} {f:FuncId} {vs:Array Value} {w:World} {lo:Nat} {S:PS} (hlo:lo≤w.heap.size) (h:Calls P f vs w (fun e w'=>∃ sf:SF,e = .returned sf.val∧(∀ W2,dN w.heap.size w' W2→SIs W2 S sf)∧Below w.heap.size w w')):Calls P f vs w (uE (jI lo S) w) :=
 h.mono fun e w' ⟨s,h1,h2,h3⟩=>⟨s.val,h1,fun w2 hg=>⟨s,rfl,fun W3 hg3=>h2 W3 (hg.trans (hg3.mono hlo))⟩,h3⟩
theorem gY {lo m:Nat} {e:TypeId} {cs:List Value} {B:Nat} {w:World} (h:dV lo m e cs (.slice (some ⟨B,0,none⟩) m m) w):w.heap[B]?=some (.cells cs.toArray e (0,0)):=by
 obtain ⟨B2,e1,_,h⟩:=h
 injection e1 with e1
 injection e1 with e1
 injection e1 with e1
 subst e1;exact h
theorem rok0 {S:PS} {W:World} {g:Int} {f:WF} {x:PX} (hx:XIs W S f x):ROk S W ⟨0,false,0,g,0,none,0,[],f,x⟩:=⟨.inl rfl,by simp,hx⟩
theorem rok1 {S:PS} {W:World} {g t:Int} {B:Nat} {f:WF} {x:PX} (h:W.heap[B]?=some (.cells (List.toArray [.int .i64 t]) 3 (0,0))) (hx:XIs W S f x):ROk S W ⟨0,false,0,g,0,some ⟨B,0,none⟩,1,[t],f,x⟩:=⟨Ao h,by simp,hx⟩
theorem rok2 {S:PS} {W:World} {g t u:Int} {B:Nat} {f:WF} {x:PX} (h:W.heap[B]?=some (.cells (List.toArray [.int .i64 t,.int .i64 u]) 3 (0,0))) (hx:XIs W S f x):ROk S W ⟨0,false,0,g,0,some ⟨B,0,none⟩,2,[t,u],f,x⟩:=⟨row_own h,by simp,hx⟩
theorem Dw {S:PS} {pl:List PR} {W:World} {sf:SF} {lo n c:Nat} {a:Option Addr} {ns:List R9} (hok:S.ok) (hs:SIs W S sf) (hr:W.ownsRow lo 74 10 (.slice a n c) n (ns.flatMap pV)) (hn:ns.length=n) (hm:n≤1000000) (hpl:ns.map R9.pl=pl) (ho:∀ r∈ns,ROk S W r):PdO (some S) pl W sf n a ns :=
 ⟨Ci hr hn,(fun S9 e9 r h=>by cases e9;exact ho r h),(fun h=>by cases h),hpl,⟨hok,hs⟩,hn,hm⟩
def tS (lo:Nat) (S:PS) (st sy:Int):Asr:=fun v w=>∃ sq:SF,v = .agg #[.int .i64 sq.tag,.int .i64 sq.dim,.slice sq.a sq.len sq.cap,.int .i64 st,.int .i64 sy,.slice none 0 0]∧∀ W2,dN lo w W2→SIs W2 S sq
theorem sf_injE {a b:SF} (h:a.val=b.val):a=b:=by
 obtain ⟨t,n,c,l,d⟩:=a
 obtain ⟨t2,n2,c2,l2,d2⟩:=b
 simp [SF.val] at h
 obtain ⟨rfl,rfl,rfl,rfl,rfl⟩:=h
 rfl
theorem bldPdE (sq:SF) (sy:Int):prog.built 38 [(0,sq.val),(1,.int .i64 1),(2,.int .i64 sy)]=some #[.int .i64 sq.tag,.int .i64 sq.dim,.slice sq.a sq.len sq.cap,.int .i64 1,.int .i64 sy,.slice none 0 0]:=by kernel_rfl
theorem Aq {d j1 j3 t1 t3 lo:Nat} {ty:TypeId} {pos:String} {S:PS} {sy:Int}:∀ (a:Act) (w:World),kF [(j1,t1,jI lo S),(j3,t3,isV (.int .i64 sy))] a.eval w →
  ∃ v,(execOp a.eval ⟨some d,.build 38 #[(0,.tmp t1),(1,.const (.int .i64 1)),(2,.tmp t3)],ty,pos,#[],none⟩).run prog w = .ok (.value v) w∧∀ w2,kF [(j1,t1,jI lo S),(j3,t3,isV (.int .i64 sy))] a.eval w2→tS lo S 1 sy v w2:=fun a w ⟨⟨sq,h1,h4⟩,h3,_⟩=>by
 have e1:a.eval (.tmp t1)=_:=h1
 have e3:a.eval (.tmp t3)=_:=h3
 refine ⟨_,?_,fun w2 ⟨⟨sq2,k1,k4⟩,_,_⟩=>⟨sq,rfl,?_⟩⟩
 ·have hr:=run_build w 38 #[(0,sq.val),(1,.int .i64 1),(2,.int .i64 sy)] _ (P:=prog) (bldPdE sq sy)
  unfold execOp
  have e2:a.eval (.const (.int .i64 1)) = .int .i64 1:=rfl
  simp only [List.map_toArray,List.map_cons,List.map_nil,e1,e2,e3]
  simp [hr]
 ·have k1':a.eval (.tmp t1)=_:=k1
  rw [e1] at k1'
  have e9:sq=sq2:=sf_injE k1'
  rw [e9];exact k4
theorem xB {lo:Nat} {S:PS} {st sy:Int} {sq:SF} {W:World} (h:tS lo S st sy (.agg #[.int .i64 sq.tag,.int .i64 sq.dim,.slice sq.a sq.len sq.cap,.int .i64 st,.int .i64 sy,.slice none 0 0]) W):SIs W S sq:=by
 obtain ⟨sq2,e,h4⟩:=h
 have e9:sq=sq2:=by
  obtain ⟨t,n,a,l,c⟩:=sq
  obtain ⟨t2,n2,a2,l2,c2⟩:=sq2
  simp at e
  obtain ⟨rfl,rfl,rfl,rfl,rfl⟩:=e
  rfl
 rw [e9];exact h4 W ⟨Nat.le_refl _,fun _ _ _=>rfl⟩
section
variable {n:Nat} {Q:Exit→Act→World→Prop} {l:Fr} {w0 W:World} {ops:Array Oper} {os:List Oper} {K:List (Nat×World)} {L:List Asr} {i:Nat}
variable {al:List Nat} {ca:Nat→Option Value→List Value} {ta:Nat→TypeId} {Os:Option Value→Own} {Gs:Option Value→Grows} {lo ef jy:Nat} {s:Sg}
variable {d:Nat} {ty:TypeId} {pos:String} {aft_:Array Edge}
theorem Ar {P:Program} {op:Op} (dd:List (Nat×Nat×Asr)) (hal:al.contains i=false) (hie:Nat.beq i ef=false) (hij:nV ops ef jy i=true) (hi:ops[i]?=some ⟨some d,op,ty,pos,aft_,none⟩) (hNo:nO al ef L) {q:Asr} (hds:sM ops L i dd) (hnd:dd.all (fun x => !(al.contains x.1) && !(Nat.beq x.1 ef))=true)
  (hr:∀ (a:Act) w,kF dd a.eval w→∃ v,(execOp a.eval ⟨some d,op,ty,pos,#[],none⟩).run P w = .ok (.value v) w∧∀ w2,kF dd a.eval w2→q v w2) (hI:atI L i=q):SG P n ops Q l w0 K lo al ef jy ca ta Os Gs L i :=
 oP (fun h=>by rw [List.contains_iff_mem.2 h] at hal;cases hal) (fun e=>by rw [e,Nat.beq_refl] at hie;cases hie) (kW hij) hi hNo fun t0 a s w h0 hF hG he hD hD'=>by
  have key:∀ (dd:List (Nat×Nat×Asr)),sM ops L i dd→dd.all (fun x => !(al.contains x.1) && !(Nat.beq x.1 ef))=true→∀ w2,gR lo (XB (OE ca ta Os s) (Gs s.ev)) w w2→kF dd a.eval w2:=by
   intro dd
   induction dd with
   | nil=>intro _ _ w2 _;trivial
   | cons x xs ih =>
    intro h hn w2 h2
    simp only [List.all_cons,Bool.and_eq_true,Bool.not_eq_true'] at hn
    refine ⟨?_,ih h.2 hn.2 w2 h2⟩
    have hA:=(hD x.1 x.2.1 h.1.1).2.2.2 (fun h9=>by rw [List.contains_iff_mem.2 h9] at hn;cases hn.1.1) (fun e=>by rw [e,Nat.beq_refl] at hn;cases hn.1.2)
    rw [h.1.2] at hA
    exact hA w2 h2
  obtain ⟨v,h1,h2⟩:=hr a w (key dd hds hnd w (gR.refl _ _ _))
  exact rM hi rfl (by rw [fR a.eval _ _ _ _ pos _ #[] _ none];exact h1) ⟨v,rfl,by rw [hI];exact fun w2 hw2=>h2 w2 (key dd hds hnd w2 hw2),Below.refl _ _⟩
end
theorem goes_25:cL prog 25=true:=by kernel_rfl
theorem Cj (o:Option PS) (pl:List PR) (s1 s2:SF) (st sy:Int) (n:Nat) (a1 a2:Option Addr) (c1 c2:Nat) (ns ms:List R9) (w:World) (h1:PdO o pl w s1 n a1 ns) (h2:PdO o pl w s2 n a2 ms) :
  Calls prog 12 #[.agg #[.int .i64 s1.tag,.int .i64 s1.dim,.slice s1.a s1.len s1.cap,.int .i64 st,.int .i64 sy,.slice a1 n c1],.agg #[.int .i64 s2.tag,.int .i64 s2.dim,.slice s2.a s2.len s2.cap,.int .i64 st,.int .i64 sy,.slice a2 n c2]] w (fun e w'=>e = .returned (.bool (true))∧Below w.heap.size w w'):=by
 refine cS (args:=[.agg #[.int .i64 s1.tag,.int .i64 s1.dim,.slice s1.a s1.len s1.cap,.int .i64 st,.int .i64 sy,.slice a1 n c1],.agg #[.int .i64 s2.tag,.int .i64 s2.dim,.slice s2.a s2.len s2.cap,.int .i64 st,.int .i64 sy,.slice a2 n c2]]) func12 rfl ntmps12 rfl ?_
 have hS:=St.start w
 have hmx:n≤1000000:=h1.max
 have hpl:ns.map R9.pl=ms.map R9.pl:=h1.pl.trans h2.pl.symm
 have hln:=h1.len
 refine aR (aU (cR (cs:=[_,_,_,_,_,_]) hS rfl rfl rfl fun B1 W1 hS=>cR (cs:=[_,_,_,_,_,_]) hS rfl rfl rfl fun B2 W2 hS=>aK rfl rfl (aT (XF.thenN (aR (aR (aU (aQ (o':=0) Af rfl rfl rfl (bF (vs:=[_,_,_]) isAgg35 sizeOf35 rfl (aM.own (j:=0) (m:=3) (hS.at_ 1 rfl) rfl) rfl (aQ (o':=0) Af rfl rfl rfl (bF (vs:=[_,_,_]) isAgg35 sizeOf35 rfl (aM.own (j:=0) (m:=3) (hS.at_ 0 rfl) rfl) rfl (cD (vs:=[_,_]) hS uY rfl (An (h1.sp.below hS.below) (h2.sp.below hS.below)) rfl fun W3 hS=>eX rfl rfl (aL rfl rfl (aF (d:=14) rfl rfl (aQ (o':=3) Ag rfl rfl rfl (aF (d:=14) rfl rfl (aV isAgg3 rfl (aI (hS.at_ 1 rfl) rfl) rfl (aF (d:=14) rfl rfl (aQ (o':=3) Ag rfl rfl rfl (aF (d:=14) rfl rfl (aV isAgg3 rfl (aI (hS.at_ 0 rfl) rfl) rfl (aF (d:=14) rfl rfl (cW rfl rfl rfl (bE rfl rfl rfl (aL rfl rfl (bK (d:=21) rfl (fun hc=>absurd (of_decide_eq_true hc) (by exact fun h=>h rfl)) (fun hc=>?_)))))))))))))))))))))))))))
 have hc:=of_decide_eq_false hc
 refine aF (d:=21) rfl rfl (aQ (o':=4) Ah rfl rfl rfl (aF (d:=21) rfl rfl (aV isAgg3 rfl (aI (hS.at_ 1 rfl) rfl) rfl (aF (d:=21) rfl rfl (aQ (o':=4) Ah rfl rfl rfl (aF (d:=21) rfl rfl (aV isAgg3 rfl (aI (hS.at_ 0 rfl) rfl) rfl (aF (d:=21) rfl rfl (cW rfl rfl rfl (bE rfl rfl rfl (aL rfl rfl (bK (d:=28) rfl (fun hc=>absurd (of_decide_eq_true hc) (by exact fun h=>h rfl)) (fun hc=>?_)))))))))))))
 have hc:=of_decide_eq_false hc
 refine aF (d:=28) rfl rfl (aQ (o':=5) pG rfl rfl rfl (aF (d:=28) rfl rfl (aV isAgg36 rfl (aI (hS.at_ 1 rfl) rfl) rfl (aF (d:=28) rfl rfl (bU underlying36 rfl rfl (aF (d:=28) rfl rfl (aQ (o':=5) pG rfl rfl rfl (aF (d:=28) rfl rfl (aV isAgg36 rfl (aI (hS.at_ 0 rfl) rfl) rfl (aF (d:=28) rfl rfl (bU underlying36 rfl rfl (aF (d:=28) rfl rfl (cW rfl rfl rfl (bE rfl rfl rfl (aT (XF.thenN (bJ rfl (fun hc=>absurd (of_decide_eq_true hc) (by exact fun h=>h rfl)) (fun hc=>?_))))))))))))))))))
 have hc:=of_decide_eq_false hc
 refine bQ (XF.thenN (aR (aR (aU (aK rfl rfl (aT (XF.thenN (bR (eI (fun m l W=>∃ i:Nat,i≤n∧m=n - i∧l=[(2,.pointer (some ⟨B1,0,none⟩)),(3,.pointer (some ⟨B2,0,none⟩)),(5,.int .i64 (i:Int))]∧St w [(B2,[.int .i64 s2.tag,.int .i64 s2.dim,.slice s2.a s2.len s2.cap,.int .i64 st,.int .i64 sy,.slice a2 n c2],38),(B1,[.int .i64 s1.tag,.int .i64 s1.dim,.slice s1.a s1.len s1.cap,.int .i64 st,.int .i64 sy,.slice a1 n c1],38)] [] [] W) (n - 0) ([(2,_),(3,_),(5,_)]) ⟨rfl,rfl,rfl,trivial⟩ (⟨0,Nat.zero_le _,rfl,rfl,hS.clear⟩) ?_)))))))))
 clear hS
 rintro m l W ⟨i,hi,rfl,rfl,hS⟩
 refine aR (aR (aU (aL rfl rfl (aQ (o':=5) pG rfl rfl rfl (aV isAgg36 rfl (aI (hS.at_ 1 rfl) rfl) rfl (bU underlying36 rfl rfl (dA rfl rfl rfl (aT (XF.thenN (bJ rfl (fun hc=>?_) (fun hc=>?_)))))))))))
 ·have hc41:=of_decide_eq_true hc;clear hc
  have hk:i < n:=by omega
  obtain ⟨r,hr⟩:∃ r,ns[i]?=some r:=⟨ns[i]'(by omega),by simp [show i < ns.length by omega]⟩
  obtain ⟨q,hq,-,-,e1,e2,e3,e4,e5⟩:=pl_at9 hpl hr
  obtain ⟨S,hS9⟩:∃ S,o=some S:=by
   cases o with
   | none=>rw [h1.no rfl] at hr;simp at hr
   | some S=>exact ⟨S,rfl⟩
  have hro:=h1.ok S hS9 r (List.mem_of_getElem? hr)
  have hqo:=h2.ok S hS9 q (List.mem_of_getElem? hq)
  obtain ⟨rb,ro,rfl,hcr⟩:=h1.r1 i r hr
  obtain ⟨qb,qo,rfl,hcq⟩:=h2.r1 i q hq
  obtain ⟨n1,t1,p1,g1,q1,wa1,wc1,ws1,f1,x1⟩:=r
  obtain ⟨n2,t2,p2,g2,q2,wa2,wc2,ws2,f2,x2⟩:=q
  dsimp only at e1 e2 e3 e4 e5
  subst e1 e2 e3 e4 e5
  dsimp only [pV] at hcr hcq
  have k1:=hcr
  have k2:=hcq
  have hwl9:ws2.length≤9223372036854775807:=hro.l
  refine bQ (XF.thenN (aR (bR (aR (qQ (ef:=12) (jy:=4) (ca:=qR (fun a=>bif Nat.beq a 10 then [.int .i64 0,.int .i64 0,.int .i64 0,.slice none 0 0,.bool false,.int .i64 0,.int .u64 0,.slice none 0 0,.slice none 0 0,.slice none 0 0] else [.int .i64 0,.int .i64 0,.int .i64 0,.slice none 0 0,.bool false,.int .i64 0,.int .u64 0,.slice none 0 0,.slice none 0 0,.slice none 0 0]) 10) (ta:=fun a=>bif Nat.beq a 10 then 74 else 74) (Os:=mF _) (Gs:=kX _) (al:=[10,11]) (k:=13) (ds:=[]) gX rfl hS rfl (by kernel_rfl) (by kernel_rfl) rfl (by decide) rfl (some) (.inl ⟨rfl,rfl⟩) rfl rfl (bD 1 rfl rfl (isV _) (fun hNo=>sgV [(2,_)] rfl rfl rfl rfl hNo (aP rfl) ⟨bB rfl,trivial⟩ (fun ev w he hw=>aO (o':=5) pG rfl rfl) (aC rfl)) (bD 2 rfl rfl (isV _) (fun hNo=>sgV [(44,_)] rfl rfl rfl rfl hNo (aP rfl) ⟨aG 0 (aA rfl rfl rfl),trivial⟩ (fun ev w he hw=>aS isAgg36 rfl ((aI (hw.at_ 1 rfl) rfl))) (aC rfl)) (bD 3 rfl rfl (isV _) (fun hNo=>sgV [(5,_)] rfl rfl rfl rfl hNo (aP rfl) ⟨bB rfl,trivial⟩ (fun ev w he hw=>aW rfl) (aC rfl)) (bD 4 rfl rfl (isV _) (fun hNo=>sgV [(45,_),(46,_)] rfl rfl rfl rfl hNo (aP rfl) ⟨aG 1 (aA rfl rfl rfl),aG 2 (aA rfl rfl rfl),trivial⟩ (fun ev w he hw=>bH  underlying36 sizeOf74 rfl rfl rfl (by omega) rfl) (aC rfl)) (bD 5 rfl rfl (isV _) (fun hNo=>sgV [(47,_)] rfl rfl rfl rfl hNo (aP rfl) ⟨aG 3 (aA rfl rfl rfl),trivial⟩ (fun ev w he hw=>cJ (vs:=[_,_,_,_,_,_,_,_,_,_]) isAgg74 sizeOf74 rfl (aM.agree hw.agree (Nat.zero_le _) (k1))) (aC rfl)) (bD 6 rfl rfl (isV _) (fun hNo=>sgV [(3,_)] rfl rfl rfl rfl hNo (aP rfl) ⟨bB rfl,trivial⟩ (fun ev w he hw=>aO (o':=5) pG rfl rfl) (aC rfl)) (bD 7 rfl rfl (isV _) (fun hNo=>sgV [(49,_)] rfl rfl rfl rfl hNo (aP rfl) ⟨aG 5 (aA rfl rfl rfl),trivial⟩ (fun ev w he hw=>aS isAgg36 rfl ((aI (hw.at_ 0 rfl) rfl))) (aC rfl)) (bD 8 rfl rfl (isV _) (fun hNo=>sgV [(5,_)] rfl rfl rfl rfl hNo (aP rfl) ⟨bB rfl,trivial⟩ (fun ev w he hw=>aW rfl) (aC rfl)) (bD 9 rfl rfl (isV _) (fun hNo=>sgV [(50,_),(51,_)] rfl rfl rfl rfl hNo (aP rfl) ⟨aG 6 (aA rfl rfl rfl),aG 7 (aA rfl rfl rfl),trivial⟩ (fun ev w he hw=>bH  underlying36 sizeOf74 rfl rfl rfl (by omega) rfl) (aC rfl)) (bD 10 rfl rfl (isV _) (fun hNo=>sgV [(52,_)] rfl rfl rfl rfl hNo (aP rfl) ⟨aG 8 (aA rfl rfl rfl),trivial⟩ (fun ev w he hw=>cJ (vs:=[_,_,_,_,_,_,_,_,_,_]) isAgg74 sizeOf74 rfl (aM.agree hw.agree (Nat.zero_le _) (k2))) (aC rfl)) ?_)))))))))))))))
  refine jL 11 rfl (jQ rfl rfl rfl rfl rfl zeroValue74 (fun ev he=>by rw [he rfl];rfl)) ?_
  refine jL 12 rfl (jQ rfl rfl rfl rfl rfl zeroValue74 (fun ev he=>by cases ev<;>rfl)) ?_
  refine jL 13 rfl (zW (py:=isV _) (m:=10) 10 rfl rfl rfl rfl (by kernel_rfl) rfl (by kernel_rfl) rfl rfl sizeOf74 rfl (fun v w e=>⟨[.int .i64 p2,.int .i64 g2,.int .i64 q2,.slice wa1 ws2.length wc1,.bool f1.z,.int .i64 f1.c,.int .u64 (f1.g:Int),.slice f1.ra f1.rl f1.rc,.slice f1.ca f1.cl f1.cc,.slice f1.pa f1.pl f1.pc],by rw [show v=_ from e];rfl,rfl,rfl⟩)) ?_
  refine gZ ?_
  intro Bf4 y4 W4 Ks4 hsz4 hKs4 hS' hcov4
  clear hS;have hS:=hS'.castO (O':=[_,_,_,_]) rfl;clear hS'
  refine lR (L':=[AwS _ _ (isV _),AwS _ _ (isV _),AwS _ _ (isV _),AwS _ _ (isV _),(fun v0_ w0_=>v0_=_∧AwS _ _ (isV _) v0_ w0_),AwS _ _ (isV _),AwS _ _ (isV _),AwS _ _ (isV _),AwS _ _ (isV _),AwS _ _ (isV _),isV _,isV _,isV _]) rfl (bT (bT (bT (bT ?_))))
  refine dO ?_;rintro _ ⟨rfl,hA4⟩;have hA4:=hA4.here;cases hA4
  refine bT (bT (bT (bT (bT (aE (aE (fin_0 (bV (bA (i:=1) (vs:=[_,_,_,_,_,_,_,_,_,_]) (cs':=[_,_,_,_,_,_,_,_,_,_]) (O':=[_,_,_,_]) hS sizeOf74 rfl rfl rfl rfl rfl rfl rfl fun W5 hS=>aT (XF.thenN (aR (aU (aQ (o':=0) Ai rfl rfl rfl (aV isAgg3 rfl (aI (hS.at_ 0 rfl) rfl) rfl (aQ (o':=0) Ai rfl rfl rfl (aV isAgg3 rfl (aI (hS.at_ 1 rfl) rfl) rfl (cW rfl rfl rfl (aL rfl rfl (bK (d:=59) rfl (fun hc=>absurd (of_decide_eq_true hc) (by exact fun h=>h rfl)) (fun hc=>?_))))))))))))))))))))
  have hc:=of_decide_eq_false hc
  refine aF (d:=59) rfl rfl (aQ (o':=1) Aj rfl rfl rfl (aF (d:=59) rfl rfl (aV isAgg3 rfl (aI (hS.at_ 0 rfl) rfl) rfl (aF (d:=59) rfl rfl (aQ (o':=1) Aj rfl rfl rfl (aF (d:=59) rfl rfl (aV isAgg3 rfl (aI (hS.at_ 1 rfl) rfl) rfl (aF (d:=59) rfl rfl (cW rfl rfl rfl (bE rfl rfl rfl (aL rfl rfl (bK (d:=66) rfl (fun hc=>absurd (of_decide_eq_true hc) (by exact fun h=>h rfl)) (fun hc=>?_)))))))))))))
  have hc:=of_decide_eq_false hc
  refine aF (d:=66) rfl rfl (aQ (o':=2) Ak rfl rfl rfl (aF (d:=66) rfl rfl (aV isAgg3 rfl (aI (hS.at_ 0 rfl) rfl) rfl (aF (d:=66) rfl rfl (aQ (o':=2) Ak rfl rfl rfl (aF (d:=66) rfl rfl (aV isAgg3 rfl (aI (hS.at_ 1 rfl) rfl) rfl (aF (d:=66) rfl rfl (cW rfl rfl rfl (bE rfl rfl rfl (aL rfl rfl (bK (d:=73) rfl (fun hc=>absurd (of_decide_eq_true hc) (by exact fun h=>h rfl)) (fun hc=>?_)))))))))))))
  have hc:=of_decide_eq_false hc
  refine aF (d:=73) rfl rfl (aQ (o':=3) Al rfl rfl rfl (aF (d:=73) rfl rfl (aV isAgg23 rfl (aI (hS.at_ 0 rfl) rfl) rfl (aF (d:=73) rfl rfl (aQ (o':=3) Al rfl rfl rfl (aF (d:=73) rfl rfl (aV isAgg23 rfl (aI (hS.at_ 1 rfl) rfl) rfl (aF (d:=73) rfl rfl (cD (vs:=[_,_]) hS goes_25 rfl (wW _ _ _ _ _ ws2 _ (hro.w.below hS.below) (hqo.w.below hS.below) rfl (by omega)) rfl fun W6 hS=>aF (d:=73) rfl rfl (eX rfl rfl (bE rfl rfl rfl (aL rfl rfl (aF (d:=81) rfl rfl (aQ (o':=4) Am rfl rfl rfl (aF (d:=81) rfl rfl (bF (vs:=[_,_,_,_,_,_]) isAgg59 sizeOf59 rfl (aM.own (j:=4) (m:=6) (hS.at_ 0 rfl) rfl) rfl (aF (d:=81) rfl rfl (aQ (o':=4) Am rfl rfl rfl (aF (d:=81) rfl rfl (bF (vs:=[_,_,_,_,_,_]) isAgg59 sizeOf59 rfl (aM.own (j:=4) (m:=6) (hS.at_ 1 rfl) rfl) rfl (aF (d:=81) rfl rfl (cD (vs:=[_,_]) hS rE rfl (sD (hro.x.below hS.below) (hqo.x.below hS.below) true (by simp)) rfl fun W7 hS=>aF (d:=81) rfl rfl (eX rfl rfl (bE rfl rfl rfl (aT (XF.thenN (nN rfl (bQ (XF.blkN (XF.thenN (aU ?_)))))))))))))))))))))))))))))))
  refine aL rfl rfl (dH rfl rfl (IntWalk.i64_in _ (by omega)) rfl (aK rfl rfl (aT ?_)))
  exact XF.round (n - (i+1)) [(2,_),(3,_),(5,_)] (by omega) ⟨rfl,rfl,rfl,trivial⟩ ⟨i+1,by omega,rfl,rfl,hS.tail.tail.clear⟩
 ·have hc41:=of_decide_eq_false hc;clear hc
  refine cZ (XF.thenX (XF.thenX (XF.blkX (XF.thenN (aR (aU (aK rfl rfl (aT (XF.thenN (bP (XF.res (cG results12 rfl) ?_)))))))))))
  exact ⟨rfl,hS.below⟩
theorem As (w:World) (b o:Nat):(Instr.fieldAt 47 (.pointer (some ⟨b,o,none⟩)) 0).run prog w = .ok (.pointer (some ⟨b,o+0,none⟩)) w:=by
 simp [Instr.fieldAt,run_underlying underlying47,Instr.sureAddr,go_sem,Addr.add_lit]
theorem Au (w:World) (b o:Nat):(Instr.fieldAt 47 (.pointer (some ⟨b,o,none⟩)) 1).run prog w = .ok (.pointer (some ⟨b,o+3,none⟩)) w:=by
 simp [Instr.fieldAt,run_underlying underlying47,Instr.sureAddr,go_sem,Addr.add_lit]
theorem Av (w:World) (b o:Nat):(Instr.fieldAt 47 (.pointer (some ⟨b,o,none⟩)) 2).run prog w = .ok (.pointer (some ⟨b,o+4,none⟩)) w:=by
 simp [Instr.fieldAt,run_underlying underlying47,Instr.sureAddr,go_sem,Addr.add_lit]
theorem pJ (w:World) (b o:Nat):(Instr.fieldAt 47 (.pointer (some ⟨b,o,none⟩)) 3).run prog w = .ok (.pointer (some ⟨b,o+5,none⟩)) w:=by
 simp [Instr.fieldAt,run_underlying underlying47,Instr.sureAddr,go_sem,Addr.add_lit]
theorem pK (w:World) (b o:Nat):(Instr.fieldAt 47 (.pointer (some ⟨b,o,none⟩)) 4).run prog w = .ok (.pointer (some ⟨b,o+6,none⟩)) w:=by
 simp [Instr.fieldAt,run_underlying underlying47,Instr.sureAddr,go_sem,Addr.add_lit]
theorem Ax (w:World) (b o:Nat):(Instr.fieldAt 90 (.pointer (some ⟨b,o,none⟩)) 0).run prog w = .ok (.pointer (some ⟨b,o+0,none⟩)) w:=by
 simp [Instr.fieldAt,run_underlying underlying90,Instr.sureAddr,go_sem,Addr.add_lit]
theorem Ay (w:World) (b o:Nat):(Instr.fieldAt 90 (.pointer (some ⟨b,o,none⟩)) 1).run prog w = .ok (.pointer (some ⟨b,o+1,none⟩)) w:=by
 simp [Instr.fieldAt,run_underlying underlying90,Instr.sureAddr,go_sem,Addr.add_lit]
theorem Az (w:World) (b o:Nat):(Instr.fieldAt 90 (.pointer (some ⟨b,o,none⟩)) 2).run prog w = .ok (.pointer (some ⟨b,o+2,none⟩)) w:=by
 simp [Instr.fieldAt,run_underlying underlying90,Instr.sureAddr,go_sem,Addr.add_lit]
theorem A2 (w:World) (b o:Nat):(Instr.fieldAt 90 (.pointer (some ⟨b,o,none⟩)) 3).run prog w = .ok (.pointer (some ⟨b,o+3,none⟩)) w:=by
 simp [Instr.fieldAt,run_underlying underlying90,Instr.sureAddr,go_sem,Addr.add_lit]
abbrev A3 (y:Int) (f:WF):List Value:=[.int .i64 0,.int .i64 y,.int .i64 1,.bool f.z,.int .i64 f.c,.int .u64 (f.g:Int),.slice f.ra f.rl f.rc,.slice f.ca f.cl f.cc,.slice f.pa f.pl f.pc]
structure AuU (o:Option PS) (x:PX) (y:Int) (fs:List Int) (n:Nat) (W:World) (sf:SF) (fa ta:Option Addr) (us:List WF):Prop where
 sp:Spc o W sf
 f:Row W fa fs
 t:∀ (i:Nat) r,us[i]?=some r→∃ b off,ta=some ⟨b,off,none⟩∧aM W b (off+i * 9) (A3 y r)
 x:∀ S,o=some S→∀ r∈us,XIs W S r x
 no:o=none→us=[]
 len:us.length=n
theorem Dx {W:World} {x:PX} {y:Int}:AuU none x y [] 0 W ⟨0,0,none,0,0⟩ none none []:=⟨rfl,.inl rfl,(fun i r h=>by simp at h),(fun S h=>by cases h),fun _=>rfl,rfl⟩
theorem Dy (o:Option PS) (x:PX) (y0:Int) (fs:List Int) (s1 s2:SF) (st sy:Int) (fa1 fa2 ta1 ta2:Option Addr) (fl fc1 fc2 n tc1 tc2:Nat) (ns ms:List WF) (w:World) (h1:AuU o x y0 fs n w s1 fa1 ta1 ns) (h2:AuU o x y0 fs n w s2 fa2 ta2 ms) (hfl:fs.length=fl) (hfm:fl≤8388608) (hnm:n≤8388608) :
  Calls prog 13 #[.agg #[.int .i64 s1.tag,.int .i64 s1.dim,.slice s1.a s1.len s1.cap,.int .i64 st,.int .i64 sy,.slice fa1 fl fc1,.slice ta1 n tc1],.agg #[.int .i64 s2.tag,.int .i64 s2.dim,.slice s2.a s2.len s2.cap,.int .i64 st,.int .i64 sy,.slice fa2 fl fc2,.slice ta2 n tc2]] w (fun e w'=>e = .returned (.bool (true))∧Below w.heap.size w w'):=by
 refine cS (args:=[.agg #[.int .i64 s1.tag,.int .i64 s1.dim,.slice s1.a s1.len s1.cap,.int .i64 st,.int .i64 sy,.slice fa1 fl fc1,.slice ta1 n tc1],.agg #[.int .i64 s2.tag,.int .i64 s2.dim,.slice s2.a s2.len s2.cap,.int .i64 st,.int .i64 sy,.slice fa2 fl fc2,.slice ta2 n tc2]]) func13 rfl ntmps13 rfl ?_
 have hS:=St.start w
 have hf1:=h1.f
 have hf2:=h2.f
 have ht1:=h1.t
 have ht2:=h2.t
 have hx1:=h1.x
 have hx2:=h2.x
 have hno:=h1.no
 have hs1:=h1.sp
 have hs2:=h2.sp
 have hl1:=h1.len
 have hl2:=h2.len
 clear h1 h2
 refine aR (aU (cR (cs:=[_,_,_,_,_,_,_]) hS rfl rfl rfl fun B1 W1 hS=>cR (cs:=[_,_,_,_,_,_,_]) hS rfl rfl rfl fun B2 W2 hS=>aK rfl rfl (aT (XF.thenN (aR (aR (aU (aQ (o':=0) As rfl rfl rfl (bF (vs:=[_,_,_]) isAgg35 sizeOf35 rfl (aM.own (j:=0) (m:=3) (hS.at_ 1 rfl) rfl) rfl (aQ (o':=0) As rfl rfl rfl (bF (vs:=[_,_,_]) isAgg35 sizeOf35 rfl (aM.own (j:=0) (m:=3) (hS.at_ 0 rfl) rfl) rfl (cD (vs:=[_,_]) hS uY rfl (An (hs1.below hS.below) (hs2.below hS.below)) rfl fun W3 hS=>eX rfl rfl (aL rfl rfl (aF (d:=15) rfl rfl (aQ (o':=3) Au rfl rfl rfl (aF (d:=15) rfl rfl (aV isAgg3 rfl (aI (hS.at_ 1 rfl) rfl) rfl (aF (d:=15) rfl rfl (aQ (o':=3) Au rfl rfl rfl (aF (d:=15) rfl rfl (aV isAgg3 rfl (aI (hS.at_ 0 rfl) rfl) rfl (aF (d:=15) rfl rfl (cW rfl rfl rfl (bE rfl rfl rfl (aL rfl rfl (bK (d:=22) rfl (fun hc=>absurd (of_decide_eq_true hc) (by exact fun h=>h rfl)) (fun hc=>?_)))))))))))))))))))))))))))
 have hc:=of_decide_eq_false hc
 refine aF (d:=22) rfl rfl (aQ (o':=4) Av rfl rfl rfl (aF (d:=22) rfl rfl (aV isAgg3 rfl (aI (hS.at_ 1 rfl) rfl) rfl (aF (d:=22) rfl rfl (aQ (o':=4) Av rfl rfl rfl (aF (d:=22) rfl rfl (aV isAgg3 rfl (aI (hS.at_ 0 rfl) rfl) rfl (aF (d:=22) rfl rfl (cW rfl rfl rfl (bE rfl rfl rfl (aL rfl rfl (bK (d:=29) rfl (fun hc=>absurd (of_decide_eq_true hc) (by exact fun h=>h rfl)) (fun hc=>?_)))))))))))))
 have hc:=of_decide_eq_false hc
 refine aF (d:=29) rfl rfl (aQ (o':=5) pJ rfl rfl rfl (aF (d:=29) rfl rfl (aV isAgg23 rfl (aI (hS.at_ 1 rfl) rfl) rfl (aF (d:=29) rfl rfl (bU underlying23 rfl rfl (aF (d:=29) rfl rfl (aQ (o':=5) pJ rfl rfl rfl (aF (d:=29) rfl rfl (aV isAgg23 rfl (aI (hS.at_ 0 rfl) rfl) rfl (aF (d:=29) rfl rfl (bU underlying23 rfl rfl (aF (d:=29) rfl rfl (cW rfl rfl rfl (bE rfl rfl rfl (aL rfl rfl (bK (d:=38) rfl (fun hc=>absurd (of_decide_eq_true hc) (by exact fun h=>h rfl)) (fun hc=>?_)))))))))))))))))
 have hc:=of_decide_eq_false hc
 refine aF (d:=38) rfl rfl (aQ (o':=6) pK rfl rfl rfl (aF (d:=38) rfl rfl (aV isAgg45 rfl (aI (hS.at_ 1 rfl) rfl) rfl (aF (d:=38) rfl rfl (bU underlying45 rfl rfl (aF (d:=38) rfl rfl (aQ (o':=6) pK rfl rfl rfl (aF (d:=38) rfl rfl (aV isAgg45 rfl (aI (hS.at_ 0 rfl) rfl) rfl (aF (d:=38) rfl rfl (bU underlying45 rfl rfl (aF (d:=38) rfl rfl (cW rfl rfl rfl (bE rfl rfl rfl (aT (XF.thenN (bJ rfl (fun hc=>absurd (of_decide_eq_true hc) (by exact fun h=>h rfl)) (fun hc=>?_))))))))))))))))))
 have hc:=of_decide_eq_false hc
 refine bQ (XF.thenN (aR (aR (aU (aK rfl rfl (aT (XF.thenN (bR (eI (fun m l W=>∃ i:Nat,i≤fl∧m=fl - i∧l=[(2,.pointer (some ⟨B1,0,none⟩)),(3,.pointer (some ⟨B2,0,none⟩)),(5,.int .i64 (i:Int))]∧St w [(B2,[.int .i64 s2.tag,.int .i64 s2.dim,.slice s2.a s2.len s2.cap,.int .i64 st,.int .i64 sy,.slice fa2 fl fc2,.slice ta2 n tc2],47),(B1,[.int .i64 s1.tag,.int .i64 s1.dim,.slice s1.a s1.len s1.cap,.int .i64 st,.int .i64 sy,.slice fa1 fl fc1,.slice ta1 n tc1],47)] [] [] W) (fl - 0) ([(2,_),(3,_),(5,_)]) ⟨rfl,rfl,rfl,trivial⟩ (⟨0,Nat.zero_le _,rfl,rfl,hS.clear⟩) ?_)))))))))
 clear hS
 rintro m l W ⟨i,hi,rfl,rfl,hS⟩
 refine aR (aR (aU (aL rfl rfl (aQ (o':=5) pJ rfl rfl rfl (aV isAgg23 rfl (aI (hS.at_ 1 rfl) rfl) rfl (bU underlying23 rfl rfl (dA rfl rfl rfl (aT (XF.thenN (bJ rfl (fun hc=>?_) (fun hc=>?_)))))))))))
 ·have hc51:=of_decide_eq_true hc;clear hc
  have hk:i < fl:=by omega
  obtain ⟨b1,o1,y,rfl,hy,hyc⟩:=hf1.at1 (show i < fs.length by omega)
  obtain ⟨b2,o2,z,rfl,hz,hzc⟩:=hf2.at1 (show i < fs.length by omega)
  obtain rfl:y=z:=Option.some.inj (hy.symm.trans hz)
  have k1:=hS.old hyc
  have k2:=hS.old hzc
  refine bQ (XF.thenN (aR (bR (aR (fK (m:=11) gX hS (by kernel_rfl) (by kernel_rfl) rfl (bZ 1 rfl 2 rfl rfl (fun w hw=>aO (o':=5) pJ rfl rfl) rfl (aZ 2 rfl 54 0 rfl rfl rfl (fun w hw=>aS isAgg23 rfl ((aJ hw 0).cell (Nat.zero_le _) (aI (hS.at_ 1 rfl) rfl))) rfl (bZ 3 rfl 5 rfl rfl (fun w hw=>aW rfl) rfl (aD 4 rfl (isV _) (aB _) (rgV (li:=[(55,_),(56,_)]) rfl (aP rfl) ⟨aG 1 (aA rfl rfl rfl),aG 2 (aA rfl rfl rfl),trivial⟩ (fun w hw=>bH  underlying23 sizeOf3 rfl rfl rfl (by omega) rfl) (aC rfl)) (aZ 5 rfl 57 3 rfl rfl rfl (fun w hw=>aS isAgg3 rfl ((aJ hw 0).cell (Nat.zero_le _) (k1))) rfl (bZ 6 rfl 3 rfl rfl (fun w hw=>aO (o':=5) pJ rfl rfl) rfl (aZ 7 rfl 59 5 rfl rfl rfl (fun w hw=>aS isAgg23 rfl ((aJ hw 0).cell (Nat.zero_le _) (aI (hS.at_ 0 rfl) rfl))) rfl (bZ 8 rfl 5 rfl rfl (fun w hw=>aW rfl) rfl (aD 9 rfl (isV _) (aB _) (rgV (li:=[(60,_),(61,_)]) rfl (aP rfl) ⟨aG 6 (aA rfl rfl rfl),aG 7 (aA rfl rfl rfl),trivial⟩ (fun w hw=>bH  underlying23 sizeOf3 rfl rfl rfl (by omega) rfl) (aC rfl)) (aZ 10 rfl 62 8 rfl rfl rfl (fun w hw=>aS isAgg3 rfl ((aJ hw 0).cell (Nat.zero_le _) (k2))) rfl (aD 11 rfl (isV _) (aB _) (rgV (li:=[(58,_),(63,_)]) rfl (aP rfl) ⟨aG 4 (aA rfl rfl rfl),aG 9 (aA rfl rfl rfl),trivial⟩ (fun w hw=>dX rfl rfl) (aC rfl)) (dF ?_)))))))))))))))))
  intro W4 hbR hS'
  clear hS;have hS:=hS';clear hS'
  refine aE (aE (aE (aE (aE (aE (aE (aE (aE (aE (aE (bV (XF.thenN (bJ rfl (fun hc=>absurd hc (by simp)) (fun hc=>?_))))))))))))))
  skip
  refine bQ (XF.blkN (XF.thenN (aU (aL rfl rfl (dH rfl rfl (IntWalk.i64_in _ (by omega)) rfl (aK rfl rfl (aT ?_)))))))
  exact XF.round (fl - (i+1)) [(2,_),(3,_),(5,_)] (by omega) ⟨rfl,rfl,rfl,trivial⟩ ⟨i+1,by omega,rfl,rfl,hS.clear⟩
 ·have hc51:=of_decide_eq_false hc;clear hc
  refine cZ (XF.thenX (XF.thenX (XF.blkX (XF.thenN (aR (aR (aU (aK rfl rfl (aT (XF.thenN (bR (eI (fun m l W=>∃ i:Nat,i≤n∧m=n - i∧l=[(2,.pointer (some ⟨B1,0,none⟩)),(3,.pointer (some ⟨B2,0,none⟩)),(6,.int .i64 (i:Int))]∧St w [(B2,[.int .i64 s2.tag,.int .i64 s2.dim,.slice s2.a s2.len s2.cap,.int .i64 st,.int .i64 sy,.slice fa2 fl fc2,.slice ta2 n tc2],47),(B1,[.int .i64 s1.tag,.int .i64 s1.dim,.slice s1.a s1.len s1.cap,.int .i64 st,.int .i64 sy,.slice fa1 fl fc1,.slice ta1 n tc1],47)] [] [] W) (n - 0) ([(2,_),(3,_),(6,_)]) ⟨rfl,rfl,rfl,trivial⟩ (⟨0,Nat.zero_le _,rfl,rfl,hS.clear⟩) ?_))))))))))))
  clear hS
  rintro m l W ⟨i,hi,rfl,rfl,hS⟩
  refine aR (aR (aU (aL rfl rfl (aQ (o':=6) pK rfl rfl rfl (aV isAgg45 rfl (aI (hS.at_ 1 rfl) rfl) rfl (bU underlying45 rfl rfl (dA rfl rfl rfl (aT (XF.thenN (bJ rfl (fun hc=>?_) (fun hc=>?_)))))))))))
  ·have hc69:=of_decide_eq_true hc;clear hc
   have hk:i < n:=by omega
   obtain ⟨r,hr⟩:∃ r,ns[i]?=some r:=⟨ns[i]'(by omega),List.getElem?_eq_getElem _⟩
   obtain ⟨q,hq⟩:∃ q,ms[i]?=some q:=⟨ms[i]'(by omega),List.getElem?_eq_getElem _⟩
   obtain ⟨S,hS9⟩:∃ S,o=some S:=by
    cases o with
    | none=>rw [hno rfl] at hr;simp at hr
    | some S=>exact ⟨S,rfl⟩
   have hxr:=hx1 S hS9 r (List.mem_of_getElem? hr)
   have hxq:=hx2 S hS9 q (List.mem_of_getElem? hq)
   obtain ⟨rb,ro,rfl,hcr⟩:=ht1 i r hr
   obtain ⟨qb,qo,rfl,hcq⟩:=ht2 i q hq
   dsimp only [A3] at hcr hcq
   refine bQ (XF.thenN (aR (bR (aR (qQ (ef:=12) (jy:=4) (ca:=qR (fun a=>bif Nat.beq a 10 then [.int .i64 0,.int .i64 0,.int .i64 0,.bool false,.int .i64 0,.int .u64 0,.slice none 0 0,.slice none 0 0,.slice none 0 0] else [.int .i64 0,.int .i64 0,.int .i64 0,.bool false,.int .i64 0,.int .u64 0,.slice none 0 0,.slice none 0 0,.slice none 0 0]) 10) (ta:=fun a=>bif Nat.beq a 10 then 90 else 90) (Os:=mF _) (Gs:=kX _) (al:=[10,11]) (k:=13) (ds:=[]) gX rfl hS rfl (by kernel_rfl) (by kernel_rfl) rfl (by decide) rfl (some) (.inl ⟨rfl,rfl⟩) rfl rfl (bD 1 rfl rfl (isV _) (fun hNo=>sgV [(2,_)] rfl rfl rfl rfl hNo (aP rfl) ⟨bB rfl,trivial⟩ (fun ev w he hw=>aO (o':=6) pK rfl rfl) (aC rfl)) (bD 2 rfl rfl (isV _) (fun hNo=>sgV [(72,_)] rfl rfl rfl rfl hNo (aP rfl) ⟨aG 0 (aA rfl rfl rfl),trivial⟩ (fun ev w he hw=>aS isAgg45 rfl ((aI (hw.at_ 1 rfl) rfl))) (aC rfl)) (bD 3 rfl rfl (isV _) (fun hNo=>sgV [(6,_)] rfl rfl rfl rfl hNo (aP rfl) ⟨bB rfl,trivial⟩ (fun ev w he hw=>aW rfl) (aC rfl)) (bD 4 rfl rfl (isV _) (fun hNo=>sgV [(73,_),(74,_)] rfl rfl rfl rfl hNo (aP rfl) ⟨aG 1 (aA rfl rfl rfl),aG 2 (aA rfl rfl rfl),trivial⟩ (fun ev w he hw=>bH  underlying45 sizeOf90 rfl rfl rfl (by omega) rfl) (aC rfl)) (bD 5 rfl rfl (isV _) (fun hNo=>sgV [(75,_)] rfl rfl rfl rfl hNo (aP rfl) ⟨aG 3 (aA rfl rfl rfl),trivial⟩ (fun ev w he hw=>cJ (vs:=[_,_,_,_,_,_,_,_,_]) isAgg90 sizeOf90 rfl (aM.agree hw.agree (Nat.zero_le _) (hcr))) (aC rfl)) (bD 6 rfl rfl (isV _) (fun hNo=>sgV [(3,_)] rfl rfl rfl rfl hNo (aP rfl) ⟨bB rfl,trivial⟩ (fun ev w he hw=>aO (o':=6) pK rfl rfl) (aC rfl)) (bD 7 rfl rfl (isV _) (fun hNo=>sgV [(77,_)] rfl rfl rfl rfl hNo (aP rfl) ⟨aG 5 (aA rfl rfl rfl),trivial⟩ (fun ev w he hw=>aS isAgg45 rfl ((aI (hw.at_ 0 rfl) rfl))) (aC rfl)) (bD 8 rfl rfl (isV _) (fun hNo=>sgV [(6,_)] rfl rfl rfl rfl hNo (aP rfl) ⟨bB rfl,trivial⟩ (fun ev w he hw=>aW rfl) (aC rfl)) (bD 9 rfl rfl (isV _) (fun hNo=>sgV [(78,_),(79,_)] rfl rfl rfl rfl hNo (aP rfl) ⟨aG 6 (aA rfl rfl rfl),aG 7 (aA rfl rfl rfl),trivial⟩ (fun ev w he hw=>bH  underlying45 sizeOf90 rfl rfl rfl (by omega) rfl) (aC rfl)) (bD 10 rfl rfl (isV _) (fun hNo=>sgV [(80,_)] rfl rfl rfl rfl hNo (aP rfl) ⟨aG 8 (aA rfl rfl rfl),trivial⟩ (fun ev w he hw=>cJ (vs:=[_,_,_,_,_,_,_,_,_]) isAgg90 sizeOf90 rfl (aM.agree hw.agree (Nat.zero_le _) (hcq))) (aC rfl)) ?_)))))))))))))))
   refine jL 11 rfl (jQ rfl rfl rfl rfl rfl zeroValue90 (fun ev he=>by rw [he rfl];rfl)) ?_
   refine jL 12 rfl (jQ rfl rfl rfl rfl rfl zeroValue90 (fun ev he=>by cases ev<;>rfl)) ?_
   refine jL 13 rfl (zW (py:=isV _) (m:=9) 10 rfl rfl rfl rfl (by kernel_rfl) rfl (by kernel_rfl) rfl rfl sizeOf90 rfl (fun v w e=>⟨[.int .i64 0,.int .i64 y0,.int .i64 1,.bool r.z,.int .i64 r.c,.int .u64 (r.g:Int),.slice r.ra r.rl r.rc,.slice r.ca r.cl r.cc,.slice r.pa r.pl r.pc],by rw [show v=_ from e];rfl,rfl,rfl⟩)) ?_
   refine gZ ?_
   intro Bf5 y5 W5 Ks5 hsz5 hKs5 hS' hcov5
   clear hS;have hS:=hS'.castO (O':=[_,_,_,_]) rfl;clear hS'
   refine lR (L':=[AwS _ _ (isV _),AwS _ _ (isV _),AwS _ _ (isV _),AwS _ _ (isV _),(fun v0_ w0_=>v0_=_∧AwS _ _ (isV _) v0_ w0_),AwS _ _ (isV _),AwS _ _ (isV _),AwS _ _ (isV _),AwS _ _ (isV _),AwS _ _ (isV _),isV _,isV _,isV _]) rfl (bT (bT (bT (bT ?_))))
   refine dO ?_;rintro _ ⟨rfl,hA5⟩;have hA5:=hA5.here;cases hA5
   refine bT (bT (bT (bT (bT (aE (aE (fin_0 (bV (bA (i:=1) (vs:=[_,_,_,_,_,_,_,_,_]) (cs':=[_,_,_,_,_,_,_,_,_]) (O':=[_,_,_,_]) hS sizeOf90 rfl rfl rfl rfl rfl rfl rfl fun W6 hS=>aT (XF.thenN (aR (aU (aQ (o':=0) Ax rfl rfl rfl (aV isAgg3 rfl (aI (hS.at_ 0 rfl) rfl) rfl (aQ (o':=0) Ax rfl rfl rfl (aV isAgg3 rfl (aI (hS.at_ 1 rfl) rfl) rfl (cW rfl rfl rfl (aL rfl rfl (bK (d:=87) rfl (fun hc=>absurd (of_decide_eq_true hc) (by exact fun h=>h rfl)) (fun hc=>?_))))))))))))))))))))
   have hc:=of_decide_eq_false hc
   refine aF (d:=87) rfl rfl (aQ (o':=1) Ay rfl rfl rfl (aF (d:=87) rfl rfl (aV isAgg3 rfl (aI (hS.at_ 0 rfl) rfl) rfl (aF (d:=87) rfl rfl (aQ (o':=1) Ay rfl rfl rfl (aF (d:=87) rfl rfl (aV isAgg3 rfl (aI (hS.at_ 1 rfl) rfl) rfl (aF (d:=87) rfl rfl (cW rfl rfl rfl (bE rfl rfl rfl (aL rfl rfl (bK (d:=94) rfl (fun hc=>absurd (of_decide_eq_true hc) (by exact fun h=>h rfl)) (fun hc=>?_)))))))))))))
   have hc:=of_decide_eq_false hc
   refine aF (d:=94) rfl rfl (aQ (o':=2) Az rfl rfl rfl (aF (d:=94) rfl rfl (aV isAgg3 rfl (aI (hS.at_ 0 rfl) rfl) rfl (aF (d:=94) rfl rfl (aQ (o':=2) Az rfl rfl rfl (aF (d:=94) rfl rfl (aV isAgg3 rfl (aI (hS.at_ 1 rfl) rfl) rfl (aF (d:=94) rfl rfl (cW rfl rfl rfl (bE rfl rfl rfl (aL rfl rfl (bK (d:=101) rfl (fun hc=>absurd (of_decide_eq_true hc) (by exact fun h=>h rfl)) (fun hc=>?_)))))))))))))
   have hc:=of_decide_eq_false hc
   refine aF (d:=101) rfl rfl (aQ (o':=3) A2 rfl rfl rfl (aF (d:=101) rfl rfl (bF (vs:=[_,_,_,_,_,_]) isAgg59 sizeOf59 rfl (aM.own (j:=3) (m:=6) (hS.at_ 0 rfl) rfl) rfl (aF (d:=101) rfl rfl (aQ (o':=3) A2 rfl rfl rfl (aF (d:=101) rfl rfl (bF (vs:=[_,_,_,_,_,_]) isAgg59 sizeOf59 rfl (aM.own (j:=3) (m:=6) (hS.at_ 1 rfl) rfl) rfl (aF (d:=101) rfl rfl (cD (vs:=[_,_]) hS rE rfl (sD (hxr.below hS.below) (hxq.below hS.below) true (by simp)) rfl fun W7 hS=>aF (d:=101) rfl rfl (eX rfl rfl (bE rfl rfl rfl (aT (XF.thenN (nN rfl (bQ (XF.blkN (XF.thenN (aU (aL rfl rfl (dH rfl rfl (IntWalk.i64_in _ (by omega)) rfl (aK rfl rfl (aT ?_))))))))))))))))))))))
   exact XF.round (n - (i+1)) [(2,_),(3,_),(6,_)] (by omega) ⟨rfl,rfl,rfl,trivial⟩ ⟨i+1,by omega,rfl,rfl,hS.tail.tail.clear⟩
  ·have hc69:=of_decide_eq_false hc;clear hc
   refine cZ (XF.thenX (XF.thenX (XF.blkX (XF.thenN (aR (aU (aK rfl rfl (aT (XF.thenN (bP (XF.res (cG results13 rfl) ?_)))))))))))
   exact ⟨rfl,hS.below⟩
theorem St.adoptE {w0 W0 W:World} {O:Own} {K Ks Kk:List (Nat×World)} {b:Nat} {cs:List Value} {T:TypeId} (h0:St w0 O [] K W0) (h:St w0 O [] Ks W) (hK:∀ q∈K,q∈Ks) (hlo:W0.heap.size≤b) (hb:W.heap[b]?=some (.cells cs.toArray T (0,0))) (hk:∀ q∈Kk,W0.heap.size≤q.1∧(b < q.1∨q.2.heap.size≤b)∧dN q.1 q.2 W):St w0 ((b,cs,T)::O) [] (Kk++K) W where
 below:=h.below
 own:=fun p hp=>by
  rcases List.mem_cons.1 hp with rfl | hp
  ·exact ⟨Nat.le_trans h0.below.size hlo,hb⟩
  ·exact h.own p hp
 dist:=List.Pairwise.cons (fun p hp e=>by have:=h0.own_lt p hp;dsimp only at e;omega) h.dist
 kept:=fun q hq=>by
  rcases List.mem_append.1 hq with hq | hq
  ·obtain ⟨k1,k2,k3⟩:=hk q hq
   refine ⟨k3,fun p hp=>?_⟩
   rcases List.mem_cons.1 hp with rfl | hp
   ·exact k2
   ·exact .inl (Nat.lt_of_lt_of_le (h0.own_lt p hp) k1)
  ·refine ⟨(h.kept q (hK q hq)).1,fun p hp=>?_⟩
   rcases List.mem_cons.1 hp with rfl | hp
   ·exact .inr (Nat.le_trans (h0.kept q hq).1.1 hlo)
   ·exact (h.kept q (hK q hq)).2 p hp
 rows:=fun g hg=>by cases hg
 gdist:=List.Pairwise.nil
def qO (n:Nat) (w:World) (v:Value) (w':World):Prop:=w'.ownsRow w.heap.size 88 3 v n (eK (dK n))∧Below w.heap.size w w'
theorem one_own (n:Nat) (w:World) (hn:n≤64) :
  Calls prog 40 #[.int .i64 (n:Int)] w (fun e w'=>∃ v,e = .returned (.tuple #[v,.int .i64 0])∧qO n w v w'):=by
 have HC:=Lib.hid (show iJ (n:Int)=0 by simp [iJ];omega)
 have HN:=Lib.hid (dL n)
 go_enter func40,ntmps40
 go_wp2_with (go_at_call 54;refine (eP _ _ 0 HC.out).mono ?_;rintro e w' ⟨rfl,rfl⟩)
 refine (sC n _ hn).mono ?_
 rintro e w2 ⟨v,rfl,hown,hb2⟩
 have HO:=Lib.hid hown
 clear hown
 go_wp2
 go_ret2
 exact ⟨v,rfl,by have h:=HO.out;rw [HN.out] at h;exact h,hb2⟩
theorem Dz {S:PS} {x:PX} {y:Int} {W:World} {sf:SF} {BF BT:Nat} {T:TypeId} {f:WF} (hok:S.ok) (hs:SIs W S sf) (h1:W.heap[BF]?=some (.cells (List.toArray [.int .i64 1]) 3 (0,0))) (h2:W.heap[BT]?=some (.cells (A3 y f).toArray T (0,0))) (hx:XIs W S f x):AuU (some S) x y [1] 1 W sf (some ⟨BF,0,none⟩) (some ⟨BT,0,none⟩) [f] :=
 ⟨⟨hok,hs⟩,Ao h1,(fun i r hi=>by
  match i,hi with
  | 0,hi=>simp at hi;subst hi;exact ⟨BT,0,rfl,aM.own (j:=0) (m:=9) h2 rfl⟩
  | i+1,hi=>simp at hi),(fun S9 e9 r hr=>by cases e9;rw [List.mem_singleton] at hr;subst hr;exact hx),(fun h=>by cases h),rfl⟩
theorem Ck {w W W2:World} {B:Nat} {o:Obj} (hg:dN w.heap.size W W2) (hB:w.heap.size≤B) (h:W.heap[B]?=some o):W2.heap[B]?=some o:=(hg.2 B hB (cT h)).trans h
theorem pair_at {W2:World} {lo lo8 n B c:Nat} {a:Option Addr} {T:TypeId} (hl:lo≤B) (hB:W2.heap[B]?=some (.cells (List.toArray [.bool false,.int .i64 0,.int .u64 0,.slice none 0 0,.slice none 0 0,.slice none 0 0,.bool false,.int .i64 0,.int .u64 0,.slice a (dE n).length c,.slice none 0 0,.slice none 0 0]) T (0,0))) (hl8:lo≤lo8) (hp:PNew lo8 W2 3 n (gT 0 a c (dE n)) (pF 0 (dE n))):XIs W2 (.two 2 1048576 3 n) (lB B) (.two (pC 0) (pF 0 (dE n))) :=
 gW.is (n:=lo) (iN (w6c (f:=gI 0) (aM.own (j:=0) (m:=6) hB rfl)) (w6c (f:=gT 0 a c (dE n)) (aM.own (j:=6) (m:=6) hB rfl)) hl (jF (by decide) (by decide)) (hp.mono hl8))
theorem xC {W:World} {lo n c:Nat} {a:Option Addr} {cs:List Cl} (hn:cs.length=n) (h:Val n cs) (hr:W.ownsRow lo 88 3 (.slice a n c) n (eK cs)):XIs W (.one 4 n) { cellsF a c cs with cl:=n } (.one (pX cs)):=by
 subst hn
 show XIs W (.one 4 cs.length) (cellsF a c cs) (.one (pX cs))
 obtain ⟨_,a8,c8,e8,hr9,hf9⟩:=eQ (cs:=cs) hr
 injection e8 with e1 e2 e3
 subst e1;subst e3
 exact gW.is (n:=lo) (gQ h hr9 (fun ad e=>(hf9 ad e).1))
def kH (n k:Nat):List Cl:=List.replicate k ⟨0,1,0⟩++(dK n).drop k
theorem tT {n k:Nat} (hk:k≤n):(kH n k).length=n:=by simp [kH,dL];omega
theorem tU {n k:Nat} (hk:k < n):(kH n k).set k ⟨0,1,0⟩=kH n (k+1):=by
 unfold kH
 have h1:(dK n).drop k=kA k::(dK n).drop (k+1):=List.drop_eq_getElem_cons (by rw [dL];exact hk) |>.trans (by
  congr 1
  exact Option.some.inj ((List.getElem?_eq_getElem (by rw [dL];exact hk)).symm.trans (nF hk)))
 rw [h1,List.set_append_right _ _ (by simp),List.length_replicate,Nat.sub_self,List.set_cons_zero,List.replicate_succ',List.append_assoc]
 rfl
theorem tV {n:Nat}:kH n n=List.replicate n ⟨0,1,0⟩:=by
 unfold kH
 rw [List.drop_of_length_le (by rw [dL];exact Nat.le_refl _),List.append_nil]
theorem sO {n:Nat}:kH n 0=dK n:=by simp [kH]
theorem xD {n:Nat} (hn:n≤64):Val n (List.replicate n ⟨0,1,0⟩):=⟨hn,by simp,fun i d hi=>by
 have h:=List.mem_of_getElem? hi
 obtain rfl:=List.eq_of_mem_replicate h
 exact mU.2 ⟨Nat.two_pow_pos n,by simp [oB]⟩⟩
def stX (m:Int) (n:Nat):PX:=if m=2 then .two (pC 0) (pF 0 (dE n)) else if m=3 then .one (pX (List.replicate n ⟨0,1,0⟩)) else .one (pC 0)
def WSk2 (n:Nat) (w:World) (e:Ending) (w':World):Prop:=∃ (B:Nat) (a:Option Addr) (c lo8:Nat) (W8:World),e = .returned (lB B).val∧w.heap.size≤B∧w'.heap[B]?=some (.cells (List.toArray [.bool false,.int .i64 1,.int .u64 0,.slice none 0 0,.slice none 0 0,.slice none 0 0,.bool false,.int .i64 0,.int .u64 0,.slice a (dE n).length c,.slice none 0 0,.slice none 0 0]) 59 (0,0))∧w.heap.size≤lo8∧(B < lo8∨W8.heap.size≤B)∧dN lo8 W8 w'∧PNew lo8 W8 3 n (gT 0 a c (dE n)) (pF 0 (dE n))∧Below w.heap.size w w'
def WSk3 (n:Nat) (w:World) (e:Ending) (w':World):Prop:=∃ v,e = .returned (.agg #[.bool false,.int .i64 0,.int .u64 0,.slice none 0 0,v,.slice none 0 0])∧qO n w v w'
theorem A4 (n:Nat):tkG n 1 0 0=0∧tkR n 1 0 0=dE n:=⟨rfl,rfl⟩
theorem pY {n:Nat} {w W W1 W2:World} {v:Value} (h:qO n W v W1) (hl:w.heap.size≤W.heap.size) (hg:dN W.heap.size W1 W2) (hb:Below w.heap.size w W2):qO n w v W2:=⟨oQ (fW h.1 hg) hl,hb⟩
theorem D0 (n:Nat) (w:World) (hn:n≤64) :
  Calls prog 29 #[.int .i64 (n:Int),.agg #[.int .i64 0,.int .i64 0,.int .i64 1,.int .i64 0,.int .i64 0,.int .i64 0,.int .i64 0]] w (fun e w'=>∃ v,e = .returned v∧qO n w v w'):=by
 refine cS (args:=[.int .i64 (n:Int),.agg #[.int .i64 0,.int .i64 0,.int .i64 1,.int .i64 0,.int .i64 0,.int .i64 0,.int .i64 0]]) func29 rfl ntmps29 rfl ?_
 have hS:=St.start w
 refine aR (aU (cR (cs:=[_,_,_,_,_,_,_]) hS rfl rfl rfl fun B1 W1 hS=>aK rfl rfl (aT (XF.thenN (aR (aU (aL rfl rfl ?_)))))))
 have hsz1:=hS.below.size
 refine cV (vs:=[_]) hS sH rfl (one_own n _ hn) rfl ?_
 rintro e W2 ⟨v1,rfl,hv1⟩
 have hb:=hv1.2
 refine ⟨_,rfl,hb,fun hS'=>?_⟩
 clear hS;have hS:=hS';clear hS'
 refine aL rfl rfl (bM rfl rfl rfl (bM rfl rfl rfl (aK rfl rfl (aK rfl rfl (aT (XF.thenN (aR (aR (aU (aQ (o':=2) dQ rfl rfl rfl (aV isAgg77 rfl (aI (hS.at_ 0 rfl) rfl) rfl (aT (XF.thenN (bR (aR (aU (bW rfl rfl rfl (aK rfl rfl (aT (XF.thenN (bJ rfl (fun hc=>absurd (of_decide_eq_true hc) (by decide)) (fun hc=>?_))))))))))))))))))))))
 have hc:=of_decide_eq_false hc
 refine aR (aU (bW rfl rfl rfl (aK rfl rfl (aT (XF.thenN (bJ rfl (fun hc=>absurd (of_decide_eq_true hc) (by decide)) (fun hc=>?_)))))))
 have hc:=of_decide_eq_false hc
 refine aR (aU (bW rfl rfl rfl (aK rfl rfl (aT (XF.thenN (bJ rfl (fun hc=>absurd (of_decide_eq_true hc) (by decide)) (fun hc=>?_)))))))
 have hc:=of_decide_eq_false hc
 refine bQ (XF.blkN (XF.thenN (aR (aU (aL rfl rfl (aK rfl rfl (aT (XF.thenN (bP (XF.res (cG results29 rfl) ?_))))))))))
 exact ⟨v1,rfl,pY hv1 hsz1 (hS.since 0 rfl) hS.below⟩
theorem worthS2 (m:Int) (n:Nat) (w:World) (hn:n≤64) (hm:m=2) :
  Calls prog 19 #[.int .i64 m,.int .i64 (n:Int),.agg #[.int .i64 0,.int .i64 0,.int .i64 1,.int .i64 0,.int .i64 0,.int .i64 0,.int .i64 0]] w (WSk2 n w):=by
 refine cS (args:=[.int .i64 m,.int .i64 (n:Int),.agg #[.int .i64 0,.int .i64 0,.int .i64 1,.int .i64 0,.int .i64 0,.int .i64 0,.int .i64 0]]) func19 rfl ntmps19 rfl ?_
 have hS:=St.start w
 refine aR (aU (cR (cs:=[_,_,_,_,_,_,_]) hS rfl rfl rfl fun B1 W1 hS=>bY (cs:=[_,_,_,_,_,_]) hS zeroValue59 rfl rfl fun B2 W2 hS=>aT (XF.thenN (aR (aR (aU (aL rfl rfl (aT (XF.thenN (bR (aR (aU (bW rfl rfl rfl (aK rfl rfl (aT (XF.thenN (bJ rfl (fun hc=>?_) (fun hc=>absurd (of_decide_eq_false hc) (by exact fun h=>h hm)))))))))))))))))))
 have hc:=of_decide_eq_true hc
 refine aR (aU (bL (us:=[(1,.int .i64 _)]) rfl (fO _) rfl (aL rfl rfl (bF (vs:=[_,_,_,_,_,_,_]) isAgg79 sizeOf79 rfl (aM.own (j:=0) (m:=7) (hS.at_ 1 rfl) rfl) rfl ?_))))
 have hsz1:=hS.below.size
 refine cV (vs:=[_,_]) hS sK rfl (tQ n ⟨0,0,1,0,0,0,0⟩ _ hn ⟨fun h=>absurd h.1 (by decide),fun h=>absurd h (by decide)⟩ 0 (dE n) (A4 n).1 (A4 n).2) rfl ?_
 rintro e W3 ⟨a1,c1,rfl,hp1,hb⟩
 refine ⟨_,rfl,hb,fun hS'=>?_⟩
 clear hS;have hS:=hS';clear hS'
 refine bL (us:=[(2,.agg (List.toArray [_,_]))]) rfl (fP _ _) rfl (cQ (us:=[(0,.agg (List.toArray [_,_,_,_,_,_])),(1,.agg (List.toArray [_,_,_,_,_,_]))]) hS underlying57 sizeOf59 zeroValue59 rfl rfl rfl (gJ _ _ _ _ _ _ _ _ _ _ _ _) rfl fun B4 W4 hS=>bL (us:=[(4,.slice _ _ _)]) rfl (fQ _ _ _) rfl (bA (i:=1) (vs:=[_,_,_,_,_,_]) (cs':=[_,_,_,_,_,_]) (O':=[_,_,_]) hS sizeOf59 rfl rfl rfl rfl rfl rfl rfl fun W5 hS=>aT (XF.thenN (bP (XF.blkR (XF.thenR (XF.res (eC (vs:=[_,_,_,_,_,_]) results19 isAgg59 sizeOf59 rfl (aM.own (j:=0) (m:=6) (hS.at_ 1 rfl) rfl)) ?_)))))))
 exact ⟨B4,a1,c1,_,_,rfl,hS.ge 0 rfl,hS.at_ 0 rfl,hsz1,(hS.kept _ List.mem_cons_self).2 _ List.mem_cons_self,hS.since 0 rfl,hp1,hS.below⟩
theorem worthS3 (m:Int) (n:Nat) (w:World) (hn:n≤64) (hm:m=3) :
  Calls prog 19 #[.int .i64 m,.int .i64 (n:Int),.agg #[.int .i64 0,.int .i64 0,.int .i64 1,.int .i64 0,.int .i64 0,.int .i64 0,.int .i64 0]] w (WSk3 n w):=by
 refine cS (args:=[.int .i64 m,.int .i64 (n:Int),.agg #[.int .i64 0,.int .i64 0,.int .i64 1,.int .i64 0,.int .i64 0,.int .i64 0,.int .i64 0]]) func19 rfl ntmps19 rfl ?_
 have hS:=St.start w
 refine aR (aU (cR (cs:=[_,_,_,_,_,_,_]) hS rfl rfl rfl fun B1 W1 hS=>bY (cs:=[_,_,_,_,_,_]) hS zeroValue59 rfl rfl fun B2 W2 hS=>aT (XF.thenN (aR (aR (aU (aL rfl rfl (aT (XF.thenN (bR (aR (aU (bW rfl rfl rfl (aK rfl rfl (aT (XF.thenN (bJ rfl (fun hc=>absurd (of_decide_eq_true hc) (by omega)) (fun hc=>?_))))))))))))))))))
 have hc:=of_decide_eq_false hc
 refine aR (aU (bW rfl rfl rfl (aK rfl rfl (aT (XF.thenN (bJ rfl (fun hc=>?_) (fun hc=>absurd (of_decide_eq_false hc) (by exact fun h=>h hm))))))))
 have hc:=of_decide_eq_true hc
 refine aR (aU (aL rfl rfl (bF (vs:=[_,_,_,_,_,_,_]) isAgg79 sizeOf79 rfl (aM.own (j:=0) (m:=7) (hS.at_ 1 rfl) rfl) rfl ?_)))
 have hsz1:=hS.below.size
 refine cV (vs:=[_,_]) hS sL rfl (D0 n _ hn) rfl ?_
 rintro e W3 ⟨v1,rfl,hv1⟩
 have hb:=hv1.2
 refine ⟨_,rfl,hb,fun hS'=>?_⟩
 clear hS;have hS:=hS';clear hS'
 obtain ⟨_,a8,c8,rfl,hr9,hf9⟩:=eQ hv1.1
 refine bL (us:=[(3,.slice _ _ _)]) rfl (qN _ _ _) rfl (bA (i:=0) (vs:=[_,_,_,_,_,_]) (cs':=[_,_,_,_,_,_]) (O':=[_,_]) hS sizeOf59 rfl rfl rfl rfl rfl rfl rfl fun W4 hS=>aT (XF.thenN (bP (XF.blkR (XF.thenR (XF.res (eC (vs:=[_,_,_,_,_,_]) results19 isAgg59 sizeOf59 rfl (aM.own (j:=0) (m:=6) (hS.at_ 0 rfl) rfl)) ?_))))))
 exact ⟨_,rfl,pY hv1 hsz1 (hS.since 0 rfl) hS.below⟩
theorem worthS1 (m:Int) (n:Nat) (w:World) (hn:n≤64) (h2:m≠2) (h3:m≠3) :
  Calls prog 19 #[.int .i64 m,.int .i64 (n:Int),.agg #[.int .i64 0,.int .i64 0,.int .i64 1,.int .i64 0,.int .i64 0,.int .i64 0,.int .i64 0]] w (fun e w'=>e = .returned (gI 0).val∧Below w.heap.size w w'):=by
 refine cS (args:=[.int .i64 m,.int .i64 (n:Int),.agg #[.int .i64 0,.int .i64 0,.int .i64 1,.int .i64 0,.int .i64 0,.int .i64 0,.int .i64 0]]) func19 rfl ntmps19 rfl ?_
 have hS:=St.start w
 refine aR (aU (cR (cs:=[_,_,_,_,_,_,_]) hS rfl rfl rfl fun B1 W1 hS=>bY (cs:=[_,_,_,_,_,_]) hS zeroValue59 rfl rfl fun B2 W2 hS=>aT (XF.thenN (aR (aR (aU (aL rfl rfl (aT (XF.thenN (bR (aR (aU (bW rfl rfl rfl (aK rfl rfl (aT (XF.thenN (bJ rfl (fun hc=>absurd (of_decide_eq_true hc) (by exact h2)) (fun hc=>?_))))))))))))))))))
 have hc:=of_decide_eq_false hc
 refine aR (aU (bW rfl rfl rfl (aK rfl rfl (aT (XF.thenN (bJ rfl (fun hc=>absurd (of_decide_eq_true hc) (by exact h3)) (fun hc=>?_)))))))
 have hc:=of_decide_eq_false hc
 refine bQ (XF.blkN (XF.thenN (aR (aU (bL (us:=[]) rfl (fG) rfl (bA (i:=0) (vs:=[_,_,_,_,_,_]) (cs':=[_,_,_,_,_,_]) (O':=[_,_]) hS sizeOf59 rfl rfl rfl rfl rfl rfl rfl fun W3 hS=>aT (XF.thenN (bP (XF.res (eC (vs:=[_,_,_,_,_,_]) results19 isAgg59 sizeOf59 rfl (aM.own (j:=0) (m:=6) (hS.at_ 0 rfl) rfl)) ?_)))))))))
 exact ⟨rfl,hS.below⟩
theorem oI:cL prog 20=true:=by kernel_rfl
theorem oJ:cL prog 22=true:=by kernel_rfl
structure StepsOk (g:GV):Prop where
 v:g.vl≤64
 s:∀ s∈g.ss,StOk g.vl s.k s.x s.y
theorem jC {g:GV} {m:Int} (h:gA g m=0):gr_checkE g=0:=by
 unfold gA at h
 by_cases hc:gr_checkE g≠0
 ·rw [if_pos hc] at h;exact h
 ·exact Decidable.of_not_not hc
def wgE (g:GV) (m t:Int):Int:=if gA g m≠0 then gA g m else if t < 0∨(g.sl:Int)≤t then 5 else 0
def wgS (g:GV) (m t:Int):PS:=if wgE g m t=0 then spM m g.vl else .one 1 0
def wgX (g:GV) (m t:Int):PX:=if wgE g m t=0 then (match g.ss[t.toNat]? with | some s=>wtM m g.vl s.k s.x s.y s.kk | none=>.one (pC 0)) else .one (pC 0)
theorem pZ {g:GV} {m t e:Int} (he:wgE g m t=e) (h0:e≠0):wgS g m t = .one 1 0∧wgX g m t = .one (pC 0):=by
 unfold wgS wgX;rw [he,if_neg h0,if_neg h0];exact ⟨rfl,rfl⟩
theorem wg_ok {g:GV} {m t:Int} {k:Nat} {s:gr_TV} (ha:gA g m=0) (ht:t=(k:Int)) (hk:k < g.sl) (hs:g.ss[k]?=some s):wgE g m t=0∧wgS g m t=spM m g.vl∧wgX g m t=wtM m g.vl s.k s.x s.y s.kk:=by
 have he:wgE g m t=0:=by unfold wgE;rw [if_neg (by omega),if_neg (by omega)]
 unfold wgS wgX
 rw [if_pos he,if_pos he]
 subst ht
 rw [Int.toNat_natCast,hs]
 exact ⟨he,rfl,rfl⟩
theorem jA {lo:Nat} {w:World}:gW lo w (.one 1 0) (gI 0) (.one (pC 0)):=sF
theorem wtA_c (va:Option Addr) (vl:Nat) (vc:Nat) (pa:Option Addr) (pl:Nat) (pc:Nat) (ea:Option Addr) (el:Nat) (ec:Nat) (es:List Int) (xa:Option Addr) (xl:Nat) (xc:Nat) (xs:List Int) (mn:Int) (oa:Option Addr) (ol:Nat) (oc:Nat) (os:List Int) (sa:Option Addr) (sl:Nat) (sc:Nat) (ss:List gr_TV) (ta:Option Addr) (tl:Nat) (tc:Nat) (ts:List UV) (na:Option Addr) (nl:Nat) (nc:Nat) (ns:List NV) (ka:Option Addr) (kl:Nat) (kc:Nat) (ks:List KV) (w:World) (he:dS w ea es) (hel:es.length=el) (hx:dS w xa xs) (hxl:xs.length=xl) (ho:dS w oa os) (hol:os.length=ol) (hs:dB gr_TV.sev 7 w sa ss) (hsl:ss.length=sl) (ht:dB UV.four 4 w ta ts) (htl:ts.length=tl) (hn:dB NV.two 2 w na ns) (hnl:ns.length=nl) (hk:dB KV.two 2 w ka ks) (hkl:ks.length=kl) (b1:vl≤5000) (b2:pl≤5000) (b3:el≤5000) (b4:xl≤5000) (b5:ol≤5000) (b6:sl≤5000) (b7:tl≤5000) (b8:nl≤5000) (b9:kl≤5000) (m t:Int) (hok:gr_checkE ⟨va,vl,vc,pa,pl,pc,ea,el,ec,es,xa,xl,xc,xs,mn,oa,ol,oc,os,sa,sl,sc,ss,ta,tl,tc,ts,na,nl,nc,ns,ka,kl,kc,ks⟩=0→StepsOk ⟨va,vl,vc,pa,pl,pc,ea,el,ec,es,xa,xl,xc,xs,mn,oa,ol,oc,os,sa,sl,sc,ss,ta,tl,tc,ts,na,nl,nc,ns,ka,kl,kc,ks⟩) :
  Calls prog 10 #[.agg #[.slice va vl vc,.slice pa pl pc,.slice ea el ec,.slice xa xl xc,.int .i64 mn,.slice oa ol oc,.slice sa sl sc,.slice ta tl tc,.slice na nl nc,.slice ka kl kc],.int .i64 m,.int .i64 t] w (wO (wgS ⟨va,vl,vc,pa,pl,pc,ea,el,ec,es,xa,xl,xc,xs,mn,oa,ol,oc,os,sa,sl,sc,ss,ta,tl,tc,ts,na,nl,nc,ns,ka,kl,kc,ks⟩ m t) (wgX ⟨va,vl,vc,pa,pl,pc,ea,el,ec,es,xa,xl,xc,xs,mn,oa,ol,oc,os,sa,sl,sc,ss,ta,tl,tc,ts,na,nl,nc,ns,ka,kl,kc,ks⟩ m t) (wgE ⟨va,vl,vc,pa,pl,pc,ea,el,ec,es,xa,xl,xc,xs,mn,oa,ol,oc,os,sa,sl,sc,ss,ta,tl,tc,ts,na,nl,nc,ns,ka,kl,kc,ks⟩ m t) w):=by
 refine cS (args:=[.agg #[.slice va vl vc,.slice pa pl pc,.slice ea el ec,.slice xa xl xc,.int .i64 mn,.slice oa ol oc,.slice sa sl sc,.slice ta tl tc,.slice na nl nc,.slice ka kl kc],.int .i64 m,.int .i64 t]) func10 rfl ntmps10 rfl ?_
 have hS:=St.start w
 refine aR (aU (cR (cs:=[_,_,_,_,_,_,_,_,_,_]) hS rfl rfl rfl fun B1 W1 hS=>bY (cs:=[_,_,_,_,_,_]) hS zeroValue59 rfl rfl fun B2 W2 hS=>aK rfl rfl (aT (XF.thenN (aR (aR (aU (bF (vs:=[_,_,_,_,_,_,_,_,_,_]) isAgg29 sizeOf29 rfl (aM.own (j:=0) (m:=10) (hS.at_ 1 rfl) rfl) rfl (aL rfl rfl (cD (vs:=[_,_]) hS lM rfl (vC _ vl vc _ pl pc _ el ec es _ xl xc xs mn _ ol oc os _ sl sc ss _ tl tc ts _ nl nc ns _ kl kc ks  _ (he.below hS.below) hel (hx.below hS.below) hxl (ho.below hS.below) hol (hs.below hS.below) hsl (ht.below hS.below) htl (hn.below hS.below) hnl (hk.below hS.below) hkl b1 b2 b3 b4 b5 b6 b7 b8 b9 m) rfl fun W3 hS=>aK rfl rfl (aT (XF.thenN (aR (aU (aL rfl rfl (cW rfl rfl rfl (aT (XF.thenN (bJ rfl (fun hc=>?_) (fun hc=>?_))))))))))))))))))))
 ·have hc13:=of_decide_eq_true hc;clear hc
  refine aR (aU (bL (us:=[]) rfl (fG) rfl (aL rfl rfl (bA (i:=0) (vs:=[_,_,_,_,_,_]) (cs':=[_,_,_,_,_,_]) (O':=[_,_]) hS sizeOf59 rfl rfl rfl rfl rfl rfl rfl fun W4 hS=>aK rfl rfl (aT (XF.thenN (bP (XF.thenR (XF.res (fE (vs:=[_,_,_,_,_,_]) results10 isAgg59 sizeOf59 rfl (aM.own (j:=0) (m:=6) (hS.at_ 0 rfl) rfl) rfl) ?_)))))))))
  have he:wgE ⟨va,vl,vc,pa,pl,pc,ea,el,ec,es,xa,xl,xc,xs,mn,oa,ol,oc,os,sa,sl,sc,ss,ta,tl,tc,ts,na,nl,nc,ns,ka,kl,kc,ks⟩ m t=gA ⟨va,vl,vc,pa,pl,pc,ea,el,ec,es,xa,xl,xc,xs,mn,oa,ol,oc,os,sa,sl,sc,ss,ta,tl,tc,ts,na,nl,nc,ns,ka,kl,kc,ks⟩ m:=by unfold wgE;rw [if_pos hc13]
  have hb:=pZ he hc13
  rw [hb.1,hb.2,he]
  exact ⟨gI 0,rfl,jA,hS.below⟩
 ·have hc13:=of_decide_eq_false hc;clear hc
  have hce:gA ⟨va,vl,vc,pa,pl,pc,ea,el,ec,es,xa,xl,xc,xs,mn,oa,ol,oc,os,sa,sl,sc,ss,ta,tl,tc,ts,na,nl,nc,ns,ka,kl,kc,ks⟩ m=0:=Decidable.of_not_not hc13
  refine bQ (XF.thenN (aR (aR (aU (aL rfl rfl (dA rfl rfl rfl (aL rfl rfl (bK (d:=18) rfl (fun hc=>?_) (fun hc=>?_)))))))))
  ·have hg18:=of_decide_eq_true hc;clear hc
   refine aH (d:=18) rfl rfl rfl rfl (aH (d:=18) rfl rfl rfl rfl (aH (d:=18) rfl rfl rfl rfl (aH (d:=18) rfl rfl rfl rfl (aH (d:=18) rfl rfl rfl rfl (bC rfl rfl rfl (aT (XF.thenN (eA rfl (aR (aU (bL (us:=[]) rfl (fG) rfl (bA (i:=0) (vs:=[_,_,_,_,_,_]) (cs':=[_,_,_,_,_,_]) (O':=[_,_]) hS sizeOf59 rfl rfl rfl rfl rfl rfl rfl fun W5 hS=>aK rfl rfl (aT (XF.thenN (bP (XF.thenR (XF.res (fE (vs:=[_,_,_,_,_,_]) results10 isAgg59 sizeOf59 rfl (aM.own (j:=0) (m:=6) (hS.at_ 0 rfl) rfl) rfl) ?_)))))))))))))))))
   have he:wgE ⟨va,vl,vc,pa,pl,pc,ea,el,ec,es,xa,xl,xc,xs,mn,oa,ol,oc,os,sa,sl,sc,ss,ta,tl,tc,ts,na,nl,nc,ns,ka,kl,kc,ks⟩ m t=5:=by unfold wgE;rw [if_neg (by rw [hce];exact fun h=>h rfl),if_pos (.inl (by omega))]
   have hb:=pZ he (by decide)
   rw [hb.1,hb.2,he]
   exact ⟨gI 0,rfl,jA,hS.below⟩
  ·have hg18:=of_decide_eq_false hc;clear hc
   refine aF (d:=18) rfl rfl (aL rfl rfl (aF (d:=18) rfl rfl (aQ (o':=6) eF rfl rfl rfl (aF (d:=18) rfl rfl (aV isAgg24 rfl (aI (hS.at_ 1 rfl) rfl) rfl (aF (d:=18) rfl rfl (bU underlying24 rfl rfl (aF (d:=18) rfl rfl (mC rfl rfl rfl (bE rfl rfl rfl (aT (XF.thenN (bJ rfl (fun hc=>?_) (fun hc=>?_))))))))))))))
   ·have hc24:=of_decide_eq_true hc;clear hc
    refine aR (aU (bL (us:=[]) rfl (fG) rfl (bA (i:=0) (vs:=[_,_,_,_,_,_]) (cs':=[_,_,_,_,_,_]) (O':=[_,_]) hS sizeOf59 rfl rfl rfl rfl rfl rfl rfl fun W6 hS=>aK rfl rfl (aT (XF.thenN (bP (XF.thenR (XF.res (fE (vs:=[_,_,_,_,_,_]) results10 isAgg59 sizeOf59 rfl (aM.own (j:=0) (m:=6) (hS.at_ 0 rfl) rfl) rfl) ?_))))))))
    have he:wgE ⟨va,vl,vc,pa,pl,pc,ea,el,ec,es,xa,xl,xc,xs,mn,oa,ol,oc,os,sa,sl,sc,ss,ta,tl,tc,ts,na,nl,nc,ns,ka,kl,kc,ks⟩ m t=5:=by unfold wgE;rw [if_neg (by rw [hce];exact fun h=>h rfl),if_pos (.inr (by show (sl:Int)≤t;omega))]
    have hb:=pZ he (by decide)
    rw [hb.1,hb.2,he]
    exact ⟨gI 0,rfl,jA,hS.below⟩
   ·have hc24:=of_decide_eq_false hc;clear hc
    obtain ⟨k,rfl⟩:=Int.eq_ofNat_of_zero_le (show 0≤t by omega)
    have hk1:k < sl:=by omega
    obtain ⟨bS,off,s,rfl,hy,hyc⟩:=hs.get (i:=k) (by omega)
    have hso:=hok (jC hce)
    have hst:StOk vl s.k s.x s.y:=hso.s s (List.mem_of_getElem? hy)
    obtain ⟨e1,e2,e3⟩:=wg_ok (m:=m) (k:=k) (s:=s) hce rfl hk1 hy
    rw [e1,e2,e3]
    refine bQ (XF.thenN (aR (qQ (ef:=12) (jy:=12) (ca:=sX (fun _=>[])) (ta:=fun _=>0) (Os:=mF _) (Gs:=kX _) (al:=[]) (k:=9) (ds:=[7,35]) bG rfl hS rfl (by kernel_rfl) (by kernel_rfl) rfl (by decide) rfl (fun _=>none) (.inr ⟨rfl,rfl,rfl⟩) rfl rfl (bD 1 rfl rfl (isV _) (fun hNo=>sgV [(1,_)] rfl rfl rfl rfl hNo (aP rfl) ⟨bB rfl,trivial⟩ (fun ev w he hw=>aW rfl) (aC rfl)) (bD 2 rfl rfl (isV _) (fun hNo=>sgV [(3,_)] rfl rfl rfl rfl hNo (aP rfl) ⟨bB rfl,trivial⟩ (fun ev w he hw=>aO (o':=0) eE rfl rfl) (aC rfl)) (bD 3 rfl rfl (isV _) (fun hNo=>sgV [(27,_)] rfl rfl rfl rfl hNo (aP rfl) ⟨aG 1 (aA rfl rfl rfl),trivial⟩ (fun ev w he hw=>aS isAgg22 rfl ((aI (hw.at_ 1 rfl) rfl))) (aC rfl)) (bD 4 rfl rfl (isV _) (fun hNo=>sgV [(28,_)] rfl rfl rfl rfl hNo (aP rfl) ⟨aG 2 (aA rfl rfl rfl),trivial⟩ (fun ev w he hw=>eY underlying22 rfl) (aC rfl)) (bD 5 rfl rfl (isV _) (fun hNo=>sgV [(3,_)] rfl rfl rfl rfl hNo (aP rfl) ⟨bB rfl,trivial⟩ (fun ev w he hw=>aO (o':=6) eF rfl rfl) (aC rfl)) (bD 6 rfl rfl (isV _) (fun hNo=>sgV [(30,_)] rfl rfl rfl rfl hNo (aP rfl) ⟨aG 4 (aA rfl rfl rfl),trivial⟩ (fun ev w he hw=>aS isAgg24 rfl ((aI (hw.at_ 1 rfl) rfl))) (aC rfl)) (bD 7 rfl rfl (isV _) (fun hNo=>sgV [(2,_)] rfl rfl rfl rfl hNo (aP rfl) ⟨bB rfl,trivial⟩ (fun ev w he hw=>aW rfl) (aC rfl)) (bD 8 rfl rfl (isV _) (fun hNo=>sgV [(31,_),(32,_)] rfl rfl rfl rfl hNo (aP rfl) ⟨aG 5 (aA rfl rfl rfl),aG 6 (aA rfl rfl rfl),trivial⟩ (fun ev w he hw=>bH (j:=k) underlying24 sizeOf79 rfl rfl (rfl) (hk1) rfl) (aC rfl)) (bD 9 rfl rfl (isV _) (fun hNo=>sgV [(33,_)] rfl rfl rfl rfl hNo (aP rfl) ⟨aG 7 (aA rfl rfl rfl),trivial⟩ (fun ev w he hw=>cJ (vs:=[_,_,_,_,_,_,_]) isAgg79 sizeOf79 rfl (aM.agree hw.agree (Nat.zero_le _) (hyc))) (aC rfl)) (gZ ?_)))))))))))))
    intro Bf7 y7 W7 Ks7 hsz7 hKs7 hS' hcov7
    clear hS;have hS:=hS'.castO (O':=[_,_]) rfl;clear hS'
    refine lR (L':=[AwS _ _ (isV _),AwS _ _ (isV _),AwS _ _ (isV _),AwS _ _ (isV _),AwS _ _ (isV _),AwS _ _ (isV _),AwS _ _ (isV _),AwS _ _ (isV _),AwS _ _ (isV _)]) rfl (bT (bT (bT (bT (bT (bT (bT (bT (bT (bV ?_))))))))))
    have hsz9:=hS.below.size
    refine cV (vs:=[_,_,_]) hS fI rfl (nI m vl s _ hso.v hst) rfl ?_
    rintro e W8 ⟨f9,rfl,hn9,hb⟩
    refine ⟨_,rfl,hb,fun hS'=>?_⟩
    clear hS;have hS:=hS';clear hS'
    refine bA (i:=0) (vs:=[_,_,_,_,_,_]) (cs':=[_,_,_,_,_,_]) (O':=[_,_]) hS sizeOf59 rfl rfl rfl rfl rfl rfl rfl fun W9 hS=>aK rfl rfl (aT (XF.thenN (bP (XF.res (fE (vs:=[_,_,_,_,_,_]) results10 isAgg59 sizeOf59 rfl (aM.own (j:=0) (m:=6) (hS.at_ 0 rfl) rfl) rfl) ?_))))
    exact ⟨f9,rfl,(hn9.agree (hS.since 0 rfl)).mono hsz9,hS.below⟩
theorem wtR_c (va:Option Addr) (vl:Nat) (vc:Nat) (pa:Option Addr) (pl:Nat) (pc:Nat) (ea:Option Addr) (el:Nat) (ec:Nat) (es:List Int) (xa:Option Addr) (xl:Nat) (xc:Nat) (xs:List Int) (mn:Int) (oa:Option Addr) (ol:Nat) (oc:Nat) (os:List Int) (sa:Option Addr) (sl:Nat) (sc:Nat) (ss:List gr_TV) (ta:Option Addr) (tl:Nat) (tc:Nat) (ts:List UV) (na:Option Addr) (nl:Nat) (nc:Nat) (ns:List NV) (ka:Option Addr) (kl:Nat) (kc:Nat) (ks:List KV) (w:World) (he:dS w ea es) (hel:es.length=el) (hx:dS w xa xs) (hxl:xs.length=xl) (ho:dS w oa os) (hol:os.length=ol) (hs:dB gr_TV.sev 7 w sa ss) (hsl:ss.length=sl) (ht:dB UV.four 4 w ta ts) (htl:ts.length=tl) (hn:dB NV.two 2 w na ns) (hnl:ns.length=nl) (hk:dB KV.two 2 w ka ks) (hkl:ks.length=kl) (b1:vl≤5000) (b2:pl≤5000) (b3:el≤5000) (b4:xl≤5000) (b5:ol≤5000) (b6:sl≤5000) (b7:tl≤5000) (b8:nl≤5000) (b9:kl≤5000) (m t:Int) (hok:gr_checkE ⟨va,vl,vc,pa,pl,pc,ea,el,ec,es,xa,xl,xc,xs,mn,oa,ol,oc,os,sa,sl,sc,ss,ta,tl,tc,ts,na,nl,nc,ns,ka,kl,kc,ks⟩=0→StepsOk ⟨va,vl,vc,pa,pl,pc,ea,el,ec,es,xa,xl,xc,xs,mn,oa,ol,oc,os,sa,sl,sc,ss,ta,tl,tc,ts,na,nl,nc,ns,ka,kl,kc,ks⟩) :
  Calls prog 11 #[.agg #[.slice va vl vc,.slice pa pl pc,.slice ea el ec,.slice xa xl xc,.int .i64 mn,.slice oa ol oc,.slice sa sl sc,.slice ta tl tc,.slice na nl nc,.slice ka kl kc],.int .i64 m,.int .i64 t] w (wO (wgS ⟨va,vl,vc,pa,pl,pc,ea,el,ec,es,xa,xl,xc,xs,mn,oa,ol,oc,os,sa,sl,sc,ss,ta,tl,tc,ts,na,nl,nc,ns,ka,kl,kc,ks⟩ m t) (wgX ⟨va,vl,vc,pa,pl,pc,ea,el,ec,es,xa,xl,xc,xs,mn,oa,ol,oc,os,sa,sl,sc,ss,ta,tl,tc,ts,na,nl,nc,ns,ka,kl,kc,ks⟩ m t) (wgE ⟨va,vl,vc,pa,pl,pc,ea,el,ec,es,xa,xl,xc,xs,mn,oa,ol,oc,os,sa,sl,sc,ss,ta,tl,tc,ts,na,nl,nc,ns,ka,kl,kc,ks⟩ m t) w):=by
 refine cS (args:=[.agg #[.slice va vl vc,.slice pa pl pc,.slice ea el ec,.slice xa xl xc,.int .i64 mn,.slice oa ol oc,.slice sa sl sc,.slice ta tl tc,.slice na nl nc,.slice ka kl kc],.int .i64 m,.int .i64 t]) func11 rfl ntmps11 rfl ?_
 have hS:=St.start w
 refine aR (aU (cR (cs:=[_,_,_,_,_,_,_,_,_,_]) hS rfl rfl rfl fun B1 W1 hS=>bY (cs:=[_,_,_,_,_,_]) hS zeroValue59 rfl rfl fun B2 W2 hS=>aK rfl rfl (aT (XF.thenN (aR (aU (bF (vs:=[_,_,_,_,_,_,_,_,_,_]) isAgg29 sizeOf29 rfl (aM.own (j:=0) (m:=10) (hS.at_ 1 rfl) rfl) rfl (aL rfl rfl (cD (vs:=[_,_]) hS oI rfl (vD _ vl vc _ pl pc _ el ec es _ xl xc xs mn _ ol oc os _ sl sc ss _ tl tc ts _ nl nc ns _ kl kc ks  _ (he.below hS.below) hel (hx.below hS.below) hxl (ho.below hS.below) hol (hs.below hS.below) hsl (ht.below hS.below) htl (hn.below hS.below) hnl (hk.below hS.below) hkl b1 b2 b3 b4 b5 b6 b7 b8 b9 m) rfl fun W3 hS=>aK rfl rfl (aT (XF.thenN (aR (aR (aU (aL rfl rfl (cW rfl rfl rfl (aT (XF.thenN (bJ rfl (fun hc=>?_) (fun hc=>?_))))))))))))))))))))
 ·have hc13:=of_decide_eq_true hc;clear hc
  refine aR (aU (bL (us:=[]) rfl (fG) rfl (aL rfl rfl (bA (i:=0) (vs:=[_,_,_,_,_,_]) (cs':=[_,_,_,_,_,_]) (O':=[_,_]) hS sizeOf59 rfl rfl rfl rfl rfl rfl rfl fun W4 hS=>aK rfl rfl (aT (XF.thenN (bP (XF.thenR (XF.res (fE (vs:=[_,_,_,_,_,_]) results11 isAgg59 sizeOf59 rfl (aM.own (j:=0) (m:=6) (hS.at_ 0 rfl) rfl) rfl) ?_)))))))))
  have he:wgE ⟨va,vl,vc,pa,pl,pc,ea,el,ec,es,xa,xl,xc,xs,mn,oa,ol,oc,os,sa,sl,sc,ss,ta,tl,tc,ts,na,nl,nc,ns,ka,kl,kc,ks⟩ m t=gA ⟨va,vl,vc,pa,pl,pc,ea,el,ec,es,xa,xl,xc,xs,mn,oa,ol,oc,os,sa,sl,sc,ss,ta,tl,tc,ts,na,nl,nc,ns,ka,kl,kc,ks⟩ m:=by unfold wgE;rw [if_pos hc13]
  have hb:=pZ he hc13
  rw [hb.1,hb.2,he]
  exact ⟨gI 0,rfl,jA,hS.below⟩
 ·have hc13:=of_decide_eq_false hc;clear hc
  have hce:gA ⟨va,vl,vc,pa,pl,pc,ea,el,ec,es,xa,xl,xc,xs,mn,oa,ol,oc,os,sa,sl,sc,ss,ta,tl,tc,ts,na,nl,nc,ns,ka,kl,kc,ks⟩ m=0:=Decidable.of_not_not hc13
  refine bQ (XF.thenN (aR (aR (aU (aL rfl rfl (dA rfl rfl rfl (aL rfl rfl (bK (d:=18) rfl (fun hc=>?_) (fun hc=>?_)))))))))
  ·have hg18:=of_decide_eq_true hc;clear hc
   refine aH (d:=18) rfl rfl rfl rfl (aH (d:=18) rfl rfl rfl rfl (aH (d:=18) rfl rfl rfl rfl (aH (d:=18) rfl rfl rfl rfl (aH (d:=18) rfl rfl rfl rfl (bC rfl rfl rfl (aT (XF.thenN (eA rfl (aR (aU (bL (us:=[]) rfl (fG) rfl (bA (i:=0) (vs:=[_,_,_,_,_,_]) (cs':=[_,_,_,_,_,_]) (O':=[_,_]) hS sizeOf59 rfl rfl rfl rfl rfl rfl rfl fun W5 hS=>aK rfl rfl (aT (XF.thenN (bP (XF.thenR (XF.res (fE (vs:=[_,_,_,_,_,_]) results11 isAgg59 sizeOf59 rfl (aM.own (j:=0) (m:=6) (hS.at_ 0 rfl) rfl) rfl) ?_)))))))))))))))))
   have he:wgE ⟨va,vl,vc,pa,pl,pc,ea,el,ec,es,xa,xl,xc,xs,mn,oa,ol,oc,os,sa,sl,sc,ss,ta,tl,tc,ts,na,nl,nc,ns,ka,kl,kc,ks⟩ m t=5:=by unfold wgE;rw [if_neg (by rw [hce];exact fun h=>h rfl),if_pos (.inl (by omega))]
   have hb:=pZ he (by decide)
   rw [hb.1,hb.2,he]
   exact ⟨gI 0,rfl,jA,hS.below⟩
  ·have hg18:=of_decide_eq_false hc;clear hc
   refine aF (d:=18) rfl rfl (aL rfl rfl (aF (d:=18) rfl rfl (aQ (o':=6) eF rfl rfl rfl (aF (d:=18) rfl rfl (aV isAgg24 rfl (aI (hS.at_ 1 rfl) rfl) rfl (aF (d:=18) rfl rfl (bU underlying24 rfl rfl (aF (d:=18) rfl rfl (mC rfl rfl rfl (bE rfl rfl rfl (aT (XF.thenN (bJ rfl (fun hc=>?_) (fun hc=>?_))))))))))))))
   ·have hc24:=of_decide_eq_true hc;clear hc
    refine aR (aU (bL (us:=[]) rfl (fG) rfl (bA (i:=0) (vs:=[_,_,_,_,_,_]) (cs':=[_,_,_,_,_,_]) (O':=[_,_]) hS sizeOf59 rfl rfl rfl rfl rfl rfl rfl fun W6 hS=>aK rfl rfl (aT (XF.thenN (bP (XF.thenR (XF.res (fE (vs:=[_,_,_,_,_,_]) results11 isAgg59 sizeOf59 rfl (aM.own (j:=0) (m:=6) (hS.at_ 0 rfl) rfl) rfl) ?_))))))))
    have he:wgE ⟨va,vl,vc,pa,pl,pc,ea,el,ec,es,xa,xl,xc,xs,mn,oa,ol,oc,os,sa,sl,sc,ss,ta,tl,tc,ts,na,nl,nc,ns,ka,kl,kc,ks⟩ m t=5:=by unfold wgE;rw [if_neg (by rw [hce];exact fun h=>h rfl),if_pos (.inr (by show (sl:Int)≤t;omega))]
    have hb:=pZ he (by decide)
    rw [hb.1,hb.2,he]
    exact ⟨gI 0,rfl,jA,hS.below⟩
   ·have hc24:=of_decide_eq_false hc;clear hc
    obtain ⟨k,rfl⟩:=Int.eq_ofNat_of_zero_le (show 0≤t by omega)
    have hk1:k < sl:=by omega
    obtain ⟨bS,off,s,rfl,hy,hyc⟩:=hs.get (i:=k) (by omega)
    have hso:=hok (jC hce)
    have hst:StOk vl s.k s.x s.y:=hso.s s (List.mem_of_getElem? hy)
    obtain ⟨e1,e2,e3⟩:=wg_ok (m:=m) (k:=k) (s:=s) hce rfl hk1 hy
    rw [e1,e2,e3]
    refine bQ (XF.thenN (aR (qQ (ef:=10) (jy:=10) (ca:=sX (fun _=>[])) (ta:=fun _=>0) (Os:=mF _) (Gs:=kX _) (al:=[]) (k:=7) (ds:=[7,33]) bG rfl hS rfl (by kernel_rfl) (by kernel_rfl) rfl (by decide) rfl (fun _=>none) (.inr ⟨rfl,rfl,rfl⟩) rfl rfl (bD 1 rfl rfl (isV _) (fun hNo=>sgV [(3,_)] rfl rfl rfl rfl hNo (aP rfl) ⟨bB rfl,trivial⟩ (fun ev w he hw=>cJ (vs:=[_,_,_,_,_,_,_,_,_,_]) isAgg29 sizeOf29 rfl ((aM.own (j:=0) (m:=10) (hw.at_ 1 rfl) rfl))) (aC rfl)) (bD 2 rfl rfl (isV _) (fun hNo=>sgV [(1,_)] rfl rfl rfl rfl hNo (aP rfl) ⟨bB rfl,trivial⟩ (fun ev w he hw=>aW rfl) (aC rfl)) (bD 3 rfl rfl (isV _) (fun hNo=>sgV [(3,_)] rfl rfl rfl rfl hNo (aP rfl) ⟨bB rfl,trivial⟩ (fun ev w he hw=>aO (o':=6) eF rfl rfl) (aC rfl)) (bD 4 rfl rfl (isV _) (fun hNo=>sgV [(28,_)] rfl rfl rfl rfl hNo (aP rfl) ⟨aG 2 (aA rfl rfl rfl),trivial⟩ (fun ev w he hw=>aS isAgg24 rfl ((aI (hw.at_ 1 rfl) rfl))) (aC rfl)) (bD 5 rfl rfl (isV _) (fun hNo=>sgV [(2,_)] rfl rfl rfl rfl hNo (aP rfl) ⟨bB rfl,trivial⟩ (fun ev w he hw=>aW rfl) (aC rfl)) (bD 6 rfl rfl (isV _) (fun hNo=>sgV [(29,_),(30,_)] rfl rfl rfl rfl hNo (aP rfl) ⟨aG 3 (aA rfl rfl rfl),aG 4 (aA rfl rfl rfl),trivial⟩ (fun ev w he hw=>bH (j:=k) underlying24 sizeOf79 rfl rfl (rfl) (hk1) rfl) (aC rfl)) (bD 7 rfl rfl (isV _) (fun hNo=>sgV [(31,_)] rfl rfl rfl rfl hNo (aP rfl) ⟨aG 5 (aA rfl rfl rfl),trivial⟩ (fun ev w he hw=>cJ (vs:=[_,_,_,_,_,_,_]) isAgg79 sizeOf79 rfl (aM.agree hw.agree (Nat.zero_le _) (hyc))) (aC rfl)) (gZ ?_)))))))))))
    intro Bf7 y7 W7 Ks7 hsz7 hKs7 hS' hcov7
    clear hS;have hS:=hS'.castO (O':=[_,_]) rfl;clear hS'
    refine lR (L':=[AwS _ _ (isV _),AwS _ _ (isV _),AwS _ _ (isV _),AwS _ _ (isV _),AwS _ _ (isV _),AwS _ _ (isV _),AwS _ _ (isV _)]) rfl (bT (bT (bT (bT (bT (bT (bT (bV ?_))))))))
    have hsz9:=hS.below.size
    refine cV (vs:=[_,_,_]) hS oJ rfl (pU ⟨_,vl,vc,_,pl,pc,_,el,ec,es,_,xl,xc,xs,mn,_,ol,oc,os,_,sl,sc,ss,_,tl,tc,ts,_,nl,nc,ns,_,kl,kc,ks⟩ m vl s _ hso.v hst rfl) rfl ?_
    rintro e W8 ⟨f9,rfl,hn9,hb⟩
    refine ⟨_,rfl,hb,fun hS'=>?_⟩
    clear hS;have hS:=hS';clear hS'
    refine bA (i:=0) (vs:=[_,_,_,_,_,_]) (cs':=[_,_,_,_,_,_]) (O':=[_,_]) hS sizeOf59 rfl rfl rfl rfl rfl rfl rfl fun W9 hS=>aK rfl rfl (aT (XF.thenN (bP (XF.res (fE (vs:=[_,_,_,_,_,_]) results11 isAgg59 sizeOf59 rfl (aM.own (j:=0) (m:=6) (hS.at_ 0 rfl) rfl) rfl) ?_))))
    exact ⟨f9,rfl,(hn9.agree (hS.since 0 rfl)).mono hsz9,hS.below⟩
theorem tW {n:Nat}:StOk n 1 0 0:=⟨fun h=>absurd h.1 (by decide),fun h=>absurd h (by decide)⟩
def psR (g:GV) (m:Int) (s:gr_TV):PR:=(0,false,0,(mJ g s).1,0,(mJ g s).2,wtM m g.vl s.k s.x s.y s.kk)
def psX (g:GV) (m:Int) (e:Int):PR:=(0,false,0,e,0,[],wtM m g.vl 1 0 0 0)
def psO (g:GV) (m:Int):Option PS:=if gA g m=0 then some (spM m g.vl) else none
def psP (g:GV) (m:Int):List PR:=if gA g m=0 then g.ss.map (psR g m)++g.xs.map (psX g m) else []
def psN (g:GV) (m:Int) (k:Int):Int:=if gA g m=0 then k else 0
def PdR (g:GV) (m:Int) (w:World) (e:Ending) (w':World):Prop:=Below w.heap.size w w'∧∃ (sf:SF) (n:Nat) (a:Option Addr) (c:Nat) (rs:List R9),e = .returned (.tuple #[.agg #[.int .i64 sf.tag,.int .i64 sf.dim,.slice sf.a sf.len sf.cap,.int .i64 (psN g m 1),.int .i64 (psN g m g.ol),.slice a n c],.int .i64 (gA g m)])∧∀ W2,Below w.heap.size w W2→dN w.heap.size w' W2→PdO (psO g m) (psP g m) W2 sf n a rs
theorem A6 {g:GV} {m:Int} {s:gr_TV} (h:¬ s.k=8):psR g m s=(0,false,0,s.f,0,[s.t],wtM m g.vl s.k s.x s.y s.kk):=by unfold psR;rw [tH h]
theorem A7 {g:GV} {m:Int} {s:gr_TV} {n k:Nat} {u:UV} {e:Int} (h8:s.k=8) (h1:s.s=(n:Int)) (h2:g.ts[n]?=some u) (h3:u.pr=(k:Int)) (h4:g.es[k]?=some e):psR g m s=(0,false,0,s.f,0,[e,s.t],wtM m g.vl s.k s.x s.y s.kk):=by unfold psR;rw [tI h8 h1 h2 h3 h4]
theorem A8 {g:GV} {m:Int} {w w':World} (h:gA g m≠0) (hb:Below w.heap.size w w'):PdR g m w (.returned (.tuple #[.agg #[.int .i64 0,.int .i64 0,.slice none 0 0,.int .i64 0,.int .i64 0,.slice none 0 0],.int .i64 (gA g m)])) w':=by
 refine ⟨hb,⟨0,0,none,0,0⟩,0,none,0,[],?_,fun W2 _ _=>?_⟩
 ·unfold psN;rw [if_neg h,if_neg h]
 ·unfold psO psP;rw [if_neg h,if_neg h];exact Dt
theorem D3 {g:GV} {m:Int} {w w':World} {sf:SF} {n c:Nat} {a:Option Addr} {rs:List R9} {O:Own} {G:Grows} {K:List (Nat×World)} (h:gA g m=0) (hv:g.vl≤64) (hS:St w O G K w') (hr:w'.ownsRow w.heap.size 74 10 (.slice a n c) n (rs.flatMap pV)) (hn:rs.length=n) (hm:n≤1000000) (hpl:rs.map R9.pl=g.ss.map (psR g m)++g.xs.map (psX g m)) (HQ:eS w K (fun W2=>SIs W2 (spM m g.vl) sf∧∀ r∈rs,ROk (spM m g.vl) W2 r)):PdR g m w (.returned (.tuple #[.agg #[.int .i64 sf.tag,.int .i64 sf.dim,.slice sf.a sf.len sf.cap,.int .i64 1,.int .i64 (g.ol:Int),.slice a n c],.int .i64 0])) w':=by
 refine ⟨hS.below,sf,n,a,c,rs,?_,fun W2 h1 h2=>?_⟩
 ·unfold psN;rw [if_pos h,if_pos h,h]
 ·have hq:=HQ (stE hS h1 h2) (fun q hq=>hq)
  unfold psO psP;rw [if_pos h,if_pos h]
  exact Dw (uX hv) hq.1 (fW hr h2) hn hm hpl hq.2
theorem pdsM_c (va:Option Addr) (vl:Nat) (vc:Nat) (pa:Option Addr) (pl:Nat) (pc:Nat) (ea:Option Addr) (el:Nat) (ec:Nat) (es:List Int) (xa:Option Addr) (xl:Nat) (xc:Nat) (xs:List Int) (mn:Int) (oa:Option Addr) (ol:Nat) (oc:Nat) (os:List Int) (sa:Option Addr) (sl:Nat) (sc:Nat) (ss:List gr_TV) (ta:Option Addr) (tl:Nat) (tc:Nat) (ts:List UV) (na:Option Addr) (nl:Nat) (nc:Nat) (ns:List NV) (ka:Option Addr) (kl:Nat) (kc:Nat) (ks:List KV) (w:World) (he:dS w ea es) (hel:es.length=el) (hx:dS w xa xs) (hxl:xs.length=xl) (ho:dS w oa os) (hol:os.length=ol) (hs:dB gr_TV.sev 7 w sa ss) (hsl:ss.length=sl) (ht:dB UV.four 4 w ta ts) (htl:ts.length=tl) (hn:dB NV.two 2 w na ns) (hnl:ns.length=nl) (hk:dB KV.two 2 w ka ks) (hkl:ks.length=kl) (b1:vl≤5000) (b2:pl≤5000) (b3:el≤5000) (b4:xl≤5000) (b5:ol≤5000) (b6:sl≤5000) (b7:tl≤5000) (b8:nl≤5000) (b9:kl≤5000) (m:Int) (hso:gr_checkE ⟨va,vl,vc,pa,pl,pc,ea,el,ec,es,xa,xl,xc,xs,mn,oa,ol,oc,os,sa,sl,sc,ss,ta,tl,tc,ts,na,nl,nc,ns,ka,kl,kc,ks⟩=0→StepsOk ⟨va,vl,vc,pa,pl,pc,ea,el,ec,es,xa,xl,xc,xs,mn,oa,ol,oc,os,sa,sl,sc,ss,ta,tl,tc,ts,na,nl,nc,ns,ka,kl,kc,ks⟩) (hco0:gr_checkE ⟨va,vl,vc,pa,pl,pc,ea,el,ec,es,xa,xl,xc,xs,mn,oa,ol,oc,os,sa,sl,sc,ss,ta,tl,tc,ts,na,nl,nc,ns,ka,kl,kc,ks⟩=0→kP ⟨va,vl,vc,pa,pl,pc,ea,el,ec,es,xa,xl,xc,xs,mn,oa,ol,oc,os,sa,sl,sc,ss,ta,tl,tc,ts,na,nl,nc,ns,ka,kl,kc,ks⟩) :
  Calls prog 6 #[.agg #[.slice va vl vc,.slice pa pl pc,.slice ea el ec,.slice xa xl xc,.int .i64 mn,.slice oa ol oc,.slice sa sl sc,.slice ta tl tc,.slice na nl nc,.slice ka kl kc],.int .i64 m] w (PdR ⟨va,vl,vc,pa,pl,pc,ea,el,ec,es,xa,xl,xc,xs,mn,oa,ol,oc,os,sa,sl,sc,ss,ta,tl,tc,ts,na,nl,nc,ns,ka,kl,kc,ks⟩ m w):=by
 refine cS (args:=[.agg #[.slice va vl vc,.slice pa pl pc,.slice ea el ec,.slice xa xl xc,.int .i64 mn,.slice oa ol oc,.slice sa sl sc,.slice ta tl tc,.slice na nl nc,.slice ka kl kc],.int .i64 m]) func6 rfl ntmps6 rfl ?_
 have hS:=St.start w
 refine aR (aU (cR (cs:=[_,_,_,_,_,_,_,_,_,_]) hS rfl rfl rfl fun B1 W1 hS=>bY (cs:=[_,_,_,_,_,_]) hS zeroValue38 rfl rfl fun B2 W2 hS=>aK rfl rfl (aT (XF.thenN (aR (aR (aU (bF (vs:=[_,_,_,_,_,_,_,_,_,_]) isAgg29 sizeOf29 rfl (aM.own (j:=0) (m:=10) (hS.at_ 1 rfl) rfl) rfl (aL rfl rfl (cD (vs:=[_,_]) hS lM rfl (vC _ vl vc _ pl pc _ el ec es _ xl xc xs mn _ ol oc os _ sl sc ss _ tl tc ts _ nl nc ns _ kl kc ks  _ (he.below hS.below) hel (hx.below hS.below) hxl (ho.below hS.below) hol (hs.below hS.below) hsl (ht.below hS.below) htl (hn.below hS.below) hnl (hk.below hS.below) hkl b1 b2 b3 b4 b5 b6 b7 b8 b9 m) rfl fun W3 hS=>aK rfl rfl (aT (XF.thenN (aR (aU (aL rfl rfl (cW rfl rfl rfl (aT (XF.thenN (bJ rfl (fun hc=>?_) (fun hc=>?_))))))))))))))))))))
 ·have hc18:=of_decide_eq_true hc;clear hc
  refine aR (aU (bL (us:=[]) rfl (pN) rfl (aL rfl rfl (bA (i:=0) (vs:=[_,_,_,_,_,_]) (cs':=[_,_,_,_,_,_]) (O':=[_,_]) hS sizeOf38 rfl rfl rfl rfl rfl rfl rfl fun W4 hS=>aK rfl rfl (aT (XF.thenN (bP (XF.thenR (XF.res (fE (vs:=[_,_,_,_,_,_]) results6 isAgg38 sizeOf38 rfl (aM.own (j:=0) (m:=6) (hS.at_ 0 rfl) rfl) rfl) ?_)))))))))
  exact A8 hc18 hS.below
 ·have hc18:=of_decide_eq_false hc;clear hc
  have hce:gA ⟨va,vl,vc,pa,pl,pc,ea,el,ec,es,xa,xl,xc,xs,mn,oa,ol,oc,os,sa,sl,sc,ss,ta,tl,tc,ts,na,nl,nc,ns,ka,kl,kc,ks⟩ m=0:=Decidable.of_not_not hc18
  have hso9:=hso (jC hce)
  have hco:=hco0 (jC hce)
  refine bQ (XF.thenN (aR (aU (aQ (o':=0) eE rfl rfl rfl (aV isAgg22 rfl (aI (hS.at_ 1 rfl) rfl) rfl (bU underlying22 rfl rfl (aK rfl rfl (aT (XF.thenN (aR (qQ (ef:=9) (jy:=9) (ca:=sX (fun _=>[.int .i64 0,.int .i64 0,.slice none 0 0,.int .i64 0,.int .i64 0,.slice none 0 0])) (ta:=fun _=>38) (Os:=mF _) (Gs:=kX _) (al:=[7]) (k:=8) (ds:=[]) bG rfl hS rfl (by kernel_rfl) (by kernel_rfl) rfl (by decide) rfl (fun _=>none) (.inr ⟨rfl,rfl,rfl⟩) rfl rfl (bD 1 rfl rfl (isV _) (fun hNo=>sgV [(1,_)] rfl rfl rfl rfl hNo (aP rfl) ⟨bB rfl,trivial⟩ (fun ev w he hw=>aW rfl) (aC rfl)) (bD 2 rfl rfl (isV _) (fun hNo=>sgV [(7,_)] rfl rfl rfl rfl hNo (aP rfl) ⟨bB rfl,trivial⟩ (fun ev w he hw=>aW rfl) (aC rfl)) ?_)))))))))))))
  refine bD 3 rfl rfl (jI W3.heap.size (spM m vl)) (fun hNo=>nC [isV _,isV _] rfl rfl rfl rfl hNo jU (aP rfl) ⟨bO (aG 0 (aA rfl rfl rfl)),bO (aG 1 (aA rfl rfl rfl)),trivial⟩ (fun vs ev w' he hSt hlo hh=>by have e:=bN (us:=[_,_]) hh;subst e;exact xA hlo (nH m vl _)) (aC rfl)) ?_
  refine bD 4 rfl rfl (isV _) (fun hNo=>sgV [(2,_)] rfl rfl rfl rfl hNo (aP rfl) ⟨bB rfl,trivial⟩ (fun ev w he hw=>aO (o':=5) cA rfl rfl) (aC rfl)) (bD 5 rfl rfl (isV _) (fun hNo=>sgV [(27,_)] rfl rfl rfl rfl hNo (aP rfl) ⟨aG 3 (aA rfl rfl rfl),trivial⟩ (fun ev w he hw=>aS isAgg23 rfl ((aI (hw.at_ 1 rfl) rfl))) (aC rfl)) (bD 6 rfl rfl (isV _) (fun hNo=>sgV [(28,_)] rfl rfl rfl rfl hNo (aP rfl) ⟨aG 4 (aA rfl rfl rfl),trivial⟩ (fun ev w he hw=>eY underlying23 rfl) (aC rfl)) (bD 7 rfl rfl (tS W3.heap.size (spM m vl) 1 (ol:Int)) (fun hNo=>Ar [(2,26,jI W3.heap.size (spM m vl)),(5,29,isV _)] rfl rfl rfl rfl hNo ⟨⟨by kernel_rfl,aA rfl rfl rfl⟩,⟨by kernel_rfl,aA rfl rfl rfl⟩,trivial⟩ (by kernel_rfl) Aq (aC rfl)) (jL 8 rfl (jQ rfl rfl rfl rfl rfl zeroValue38 (fun ev he=>rfl)) (gZ ?_)))))
  intro Bf5 y5 W5 Ks5 hsz5 hKs5 hS' hcov5
  clear hS;have hS:=hS'.castO (O':=[_,_,_]) rfl;clear hS'
  refine lR (L':=[AwS _ _ (isV _),AwS _ _ (isV _),AwS _ _ (jI W3.heap.size (spM m vl)),AwS _ _ (isV _),AwS _ _ (isV _),AwS _ _ (isV _),AwS _ _ (tS W3.heap.size (spM m vl) 1 (ol:Int)),isV _]) rfl (bT (bT ?_))
  refine dO ?_;intro _ _
  refine bT (bT (bT ?_))
  refine dO ?_;rintro vS hA8;obtain ⟨sq,rfl,_⟩:=hA8.here;have HSp:eS w Ks5 (fun W2=>SIs W2 (spM m vl) sq):=fun h2 hk=>xB (hA8 _ (hcov5 h2 hk))
  refine aE (bV (bA (i:=0) (vs:=[_,_,_,_,_,_]) (cs':=[_,_,_,_,_,_]) (O':=[_,_,_]) hS sizeOf38 rfl rfl rfl rfl rfl rfl rfl fun W6 hS=>aT (XF.thenN (aR (aR ?_)))))
  have hS:=hS.newG 74 10
  refine aU (aQ (o':=6) eF rfl rfl rfl (aV isAgg24 rfl (aI (hS.at_ 2 rfl) rfl) rfl (bU underlying24 rfl rfl (aL rfl rfl (aT (XF.thenN (bR (eI (fun q l W=>∃ (i:Nat) (rs:List R9) (v:Value) (Kk:List (Nat×World)),i≤sl∧q=sl - i∧l=[(1,.int .i64 m),(2,.pointer (some ⟨B1,0,none⟩)),(4,.pointer (some ⟨B2,0,none⟩)),(7,.int .i64 (vl:Int)),(8,.pointer (some ⟨(Bf5 7),0,none⟩)),(32,.slice sa sl sc),(33,.int .i64 (sl:Int)),(34,.int .i64 (i:Int))]∧rs.length=i∧rs.map R9.pl=(ss.take i).map (psR ⟨va,vl,vc,pa,pl,pc,ea,el,ec,es,xa,xl,xc,xs,mn,oa,ol,oc,os,sa,sl,sc,ss,ta,tl,tc,ts,na,nl,nc,ns,ka,kl,kc,ks⟩ m)∧eS w Kk (fun W2=>SIs W2 (spM m vl) sq∧∀ r∈rs,ROk (spM m vl) W2 r)∧St w [((Bf5 7),[.int .i64 sq.tag,.int .i64 sq.dim,.slice sq.a sq.len sq.cap,.int .i64 1,.int .i64 (ol:Int),v],38),(B2,[.int .i64 0,.int .i64 0,.slice none 0 0,.int .i64 0,.int .i64 0,.slice none 0 0],38),(B1,[.slice va vl vc,.slice pa pl pc,.slice ea el ec,.slice xa xl xc,.int .i64 mn,.slice oa ol oc,.slice sa sl sc,.slice ta tl tc,.slice na nl nc,.slice ka kl kc],29)] [⟨v,i,rs.flatMap pV,74,10⟩] Kk W) (sl - 0) ([(1,_),(2,_),(4,_),(7,_),(8,_),(32,_),(33,_),(34,_)]) ⟨rfl,rfl,rfl,rfl,rfl,rfl,rfl,rfl,trivial⟩ (⟨0,[],_,_,Nat.zero_le _,rfl,rfl,rfl,rfl,(fun h2 hk=>⟨HSp h2 (fun q hq=>hk q hq),fun r hr=>by cases hr⟩),(hS.keep _ (fun q hq=>List.mem_append_left _ hq)).castG rfl⟩) ?_))))))))
  clear hS
  clear HSp;rintro q l W ⟨i,rs,v,Kk,hi,rfl,rfl,hql,hqm,HQ,hS⟩
  refine aR (aU (dA rfl rfl rfl (aT (XF.thenN (aR (bJ rfl (fun hc=>?_) (fun hc=>?_)))))))
  ·have hc35:=of_decide_eq_true hc;clear hc
   have hk1:i < sl:=by omega
   obtain ⟨b,off,s,rfl,hy,hyc⟩:=hs.get (i:=i) (by omega)
   have k1:=aM.agree hS.agree (Nat.zero_le _) hyc
   have hst9:StOk vl s.k s.x s.y:=hso9.s s (List.mem_of_getElem? hy)
   refine bQ (XF.thenN (aR (bR (aR (aU (cP  underlying24 sizeOf79 rfl rfl rfl (by omega) rfl rfl (bF (vs:=[_,_,_,_,_,_,_]) isAgg79 sizeOf79 rfl (k1) rfl (bY (cs:=[_,_,_,_,_,_,_]) hS zeroValue79 rfl rfl fun B7 W7 hS=>bA (i:=0) (vs:=[_,_,_,_,_,_,_]) (cs':=[_,_,_,_,_,_,_]) (O':=[_,_,_,_]) hS sizeOf79 rfl rfl rfl rfl rfl rfl rfl fun W8 hS=>aT (XF.thenN (aR ?_))))))))))
   have hsz9:=hS.below.size
   refine aU (aQ (o':=1) cU rfl rfl rfl (aV isAgg3 rfl (aI (hS.at_ 0 rfl) rfl) rfl (Aa (us:=[(0,.int .i64 s.t)]) hS underlying23 sizeOf3 zeroValue3 rfl rfl rfl (fC _) rfl ?_)))
   intro B90 W90 hB90 hlo90 hS9
   clear hS;have hS:=hS9;clear hS9
   have H90:eS w [(_,W90)] (fun W2=>W2.heap[B90]?=some (.cells #[.int .i64 s.t] 3 (0,0))):=eS.one (fun W2 hg=>(hg.2 _ hlo90 (cT hB90)).trans hB90)
   refine aK rfl rfl (aT (XF.thenN (aR (aR (aU (aQ (o':=2) dQ rfl rfl rfl (aV isAgg77 rfl (aI (hS.at_ 0 rfl) rfl) rfl (bW rfl rfl rfl (aT (XF.thenN (bJ rfl (fun hc=>?_) (fun hc=>?_))))))))))))
   ·have hc43:=of_decide_eq_true hc;clear hc
    have h8:s.k=8:=hc43
    obtain ⟨n8,k8,u8,hn8,hnt8,hu8,hk8,hke8⟩:=hco s (List.mem_of_getElem? hy) h8
    have hnt9:n8 < tl:=hnt8
    have hke9:k8 < el:=hke8
    obtain ⟨tb,to_,u9,rfl,hu9,huc9⟩:=ht.get (i:=n8) (by omega)
    obtain rfl:u8=u9:=Option.some.inj (hu8.symm.trans hu9)
    obtain ⟨eb,eo,e8,rfl,he8,hec8⟩:=he.get (i:=k8) (by omega)
    have k2:=(aM.agree hS.agree (Nat.zero_le _) huc9).2.1
    have k3:=(aM.agree hS.agree (Nat.zero_le _) hec8).1
    have hsz11:=hS.below.size
    refine fK (m:=15) bG hS (by kernel_rfl) (by kernel_rfl) rfl (bZ 1 rfl 2 rfl rfl (fun w hw=>aO (o':=2) dP rfl rfl) rfl (aZ 2 rfl 44 0 rfl rfl rfl (fun w hw=>aS isAgg23 rfl ((aJ hw 0).cell (Nat.zero_le _) (aI (hS.at_ 3 rfl) rfl))) rfl (bZ 3 rfl 2 rfl rfl (fun w hw=>aO (o':=7) cX rfl rfl) rfl (aZ 4 rfl 46 2 rfl rfl rfl (fun w hw=>aS isAgg25 rfl ((aJ hw 0).cell (Nat.zero_le _) (aI (hS.at_ 3 rfl) rfl))) rfl (bZ 5 rfl 10 rfl rfl (fun w hw=>aO (o':=6) dI rfl rfl) rfl (aZ 6 rfl 48 4 rfl rfl rfl (fun w hw=>aS isAgg3 rfl ((aJ hw 0).cell (Nat.zero_le _) (aI (hS.at_ 0 rfl) rfl))) rfl (aD 7 rfl (isV _) (aB _) (rgV (li:=[(47,_),(49,_)]) rfl (aP rfl) ⟨aG 3 (aA rfl rfl rfl),aG 5 (aA rfl rfl rfl),trivial⟩ (fun w hw=>bH (j:=n8) underlying25 sizeOf81 rfl rfl (hn8) (hnt8) rfl) (aC rfl)) (aZ 8 rfl 50 6 rfl rfl rfl (fun w hw=>aO jS rfl rfl) rfl (aZ 9 rfl 51 7 rfl rfl rfl (fun w hw=>aS isAgg3 rfl ((aJ hw 0).cell (Nat.zero_le _) (k2))) rfl (aD 10 rfl (isV _) (aB _) (rgV (li:=[(45,_),(52,_)]) rfl (aP rfl) ⟨aG 1 (aA rfl rfl rfl),aG 8 (aA rfl rfl rfl),trivial⟩ (fun w hw=>bH (j:=k8) underlying23 sizeOf3 rfl rfl (hk8) (hke8) rfl) (aC rfl)) (aZ 11 rfl 53 9 rfl rfl rfl (fun w hw=>aS isAgg3 rfl ((aJ hw 0).cell (Nat.zero_le _) (k3))) rfl (bZ 12 rfl 10 rfl rfl (fun w hw=>aO (o':=1) cU rfl rfl) rfl (aZ 13 rfl 55 11 rfl rfl rfl (fun w hw=>aS isAgg3 rfl ((aJ hw 0).cell (Nat.zero_le _) (aI (hS.at_ 0 rfl) rfl))) rfl (aD 14 rfl (dV W90.heap.size 2 3 _) (eJ) (iD (us:=[.int .i64 _,.int .i64 _]) rfl (aP rfl) underlying23 sizeOf3 zeroValue3 rfl rfl ⟨bO (aG 10 (aA rfl rfl rfl)),bO (aG 12 (aA rfl rfl rfl)),trivial⟩ (iU _ _) (aC rfl)) (aD 15 rfl (dV W90.heap.size 2 3 _) (eJ) (zZ rfl (aG 13 (aA rfl rfl rfl)) (aC rfl)) (dF ?_))))))))))))))))
    intro W9 hbR hS'
    clear hS;have hS:=hS';clear hS'
    refine aE (aE (aE (aE (aE (aE (aE (aE (aE (aE (aE (aE (aE ?_))))))))))))
    refine dO ?_;rintro _ ⟨B11_13,rfl,hlo11_13,hrow11_13⟩
    refine dO ?_;rintro _ ⟨B11_14,rfl,hlo11_14,hrow11_14⟩
    have H11:eS w [(_,W9)] (fun W2=>W2.heap[B11_14]?=some (.cells #[.int .i64 e8,.int .i64 s.t] 3 (0,0))):=eS.one (fun W2 hg=>(hg.2 _ hlo11_14 (cT hrow11_14)).trans hrow11_14)
    refine bV (XF.thenN ?_)
    refine mE (p:=11) (k:=13) (gi:=0) (m:=1) bG hS rfl rfl (by kernel_rfl) (by kernel_rfl) (by kernel_rfl) (fun d hd=>by cases hd) rfl rfl underlying36 gN rfl rfl (by show 0 < 10;decide) rfl rfl rfl (by simp only [maxLen];omega) (by show (i+1) * 144≤_;omega) ?_
    refine cN 1 rfl rfl (by kernel_rfl) (rgV (li:=[(8,_)]) rfl (aP rfl) ⟨bB rfl,trivial⟩ (fun w hw=>aO (o':=5) cM rfl rfl) (aC rfl)) (cN 2 rfl rfl (by kernel_rfl) (rgV (li:=[(58,_)]) rfl (aP rfl) ⟨aG 0 (aA rfl rfl rfl),trivial⟩ (fun w hw=>aS isAgg36 rfl ((aJ hw 0).cell (Nat.zero_le _) (aI (hS.at_ 1 rfl) rfl))) (aC rfl)) (cN 3 rfl rfl (by kernel_rfl) (rgV (li:=[(10,_)]) rfl (aP rfl) ⟨bB rfl,trivial⟩ (fun w hw=>aO (o':=0) cO rfl rfl) (aC rfl)) (cN 4 rfl rfl (by kernel_rfl) (rgV (li:=[(60,_)]) rfl (aP rfl) ⟨aG 2 (aA rfl rfl rfl),trivial⟩ (fun w hw=>aS isAgg3 rfl ((aJ hw 0).cell (Nat.zero_le _) (aI (hS.at_ 0 rfl) rfl))) (aC rfl)) (cN 5 rfl rfl (by kernel_rfl) (rgV (li:=[(11,_)]) rfl (aP rfl) ⟨bB rfl,trivial⟩ (fun w hw=>aW rfl) (aC rfl)) (cN 6 rfl rfl (by kernel_rfl) (rgV (li:=[(1,_)]) rfl (aP rfl) ⟨bB rfl,trivial⟩ (fun w hw=>aW rfl) (aC rfl)) (cN 7 rfl rfl (by kernel_rfl) (rgV (li:=[(7,_)]) rfl (aP rfl) ⟨bB rfl,trivial⟩ (fun w hw=>aW rfl) (aC rfl)) (cN 8 rfl rfl (by kernel_rfl) (rgV (li:=[(10,_)]) rfl (aP rfl) ⟨bB rfl,trivial⟩ (fun w hw=>cJ (vs:=[_,_,_,_,_,_,_]) isAgg79 sizeOf79 rfl (aM.agree (aJ hw 0) (Nat.zero_le _) (aM.own (j:=0) (m:=7) (hS.at_ 0 rfl) rfl))) (aC rfl)) ?_)))))))
    refine iF 9 rfl rfl (by kernel_rfl) (gD W9.heap.size (spM m vl) (wtM m vl s.k s.x s.y s.kk)) (iY) (cH [isV _,isV _,isV _] rfl fI (aP rfl) ⟨bO (aG 5 (aA rfl rfl rfl)),bO (aG 6 (aA rfl rfl rfl)),bO (aG 7 (aA rfl rfl rfl)),trivial⟩ (fun vs w' hb hh=>by have e:=bN (us:=[_,_,_]) hh;subst e;exact iZ hb.size (nI m vl s _ hso9.v hst9)) (aC rfl)) ?_
    refine iF 10 rfl rfl (by kernel_rfl) (pH W9.heap.size s.f (some ⟨B11_14,0,none⟩) 2 2 (spM m vl) (wtM m vl s.k s.x s.y s.kk)) (pI) (rgPs [(3,61,isV _),(4,62,isV _),(8,66,gD W9.heap.size (spM m vl) (wtM m vl s.k s.x s.y s.kk))] rfl ⟨⟨by kernel_rfl,aA rfl rfl rfl⟩,⟨by kernel_rfl,aA rfl rfl rfl⟩,⟨by kernel_rfl,aA rfl rfl rfl⟩,trivial⟩ wY (aC rfl)) ?_
    refine iF 11 rfl rfl (by kernel_rfl) (kG W9.heap.size s.f (some ⟨B11_14,0,none⟩) 2 2 (spM m vl) (wtM m vl s.k s.x s.y s.kk)) (kQ) (nK rfl (aG 9 (aA rfl rfl rfl)) (aC rfl)) (iG 12 rfl rfl (gF 13 rfl rfl (rgV (li:=[(8,_)]) rfl (aP rfl) ⟨bB rfl,trivial⟩ (fun w hw=>aO (o':=5) cM rfl rfl) (aC rfl)) (lgV (li:=[(8,_)]) rfl (aP rfl) ⟨bB rfl,trivial⟩ (fun w=>aO (o':=5) cM rfl rfl) (aC rfl) rfl) (iE ⟨_,_,aG 1 (aA rfl rfl rfl),aG 10 (aA rfl rfl rfl),nJ,?_⟩)))
    intro A10 v10 news10 W10 hbR hqA10 hS'
    clear hS;have hS:=hS';clear hS'
    have hqN:=hqA10
    refine aE (aE (aE (aE (aE (aE (aE (aE ?_)))))))
    refine dO ?_;intro _ _
    refine dO ?_;intro _ _
    refine dO ?_;intro _ _
    refine aE (aE ?_)
    obtain ⟨f9,rfl,hxn9⟩:=hqN
    have HX9:eS w [(W9.heap.size,A10)] (fun W2=>XIs W2 (spM m vl) f9 (wtM m vl s.k s.x s.y s.kk)):=eS.one (fun W2 hg=>(hxn9.agree hg).is)
    obtain ⟨a2,c2,e2,hac2⟩:=dZ (hS.row 0 rfl)
    dsimp only at e2
    subst e2
    refine bV (eV (i:=1) (cs':=[_,_,_,_,_,_]) (O':=[_,_,_,_]) hS sizeOf36 rfl rfl rfl rfl rfl rfl rfl fun W11 hS=>aT (XF.blkN (XF.thenN (aU (dH rfl rfl (IntWalk.i64_in _ (by omega)) rfl (aL rfl rfl (aT ?_)))))))
    have hS9:=hS.tail
    refine XF.round (sl - (i+1)) [(1,_),(2,_),(4,_),(7,_),(8,_),(32,_),(33,_),(34,_)] (by omega) ⟨rfl,rfl,rfl,rfl,rfl,rfl,rfl,rfl,trivial⟩ ⟨i+1,rs++[⟨0,false,0,s.f,0,some ⟨B11_14,0,none⟩,2,[e8,s.t],f9,_⟩],_,_,by omega,rfl,rfl,by simp [hql],by rw [List.map_append,hqm,List.take_add_one,List.map_append,hy,List.map_cons,List.map_nil];show _=_++[psR _ _ _];rw [A7 h8 hn8 hu8 hk8 he8],?_,hS9.castG (by simp [kX,Nat.add_assoc])⟩
    exact fun h2 hk=>by
     have hq:=HQ h2 (fun r hr=>hk r (by simp [hr]))
     refine ⟨hq.1,fun q hq2=>?_⟩
     rcases List.mem_append.1 hq2 with hq2 | hq2
     ·exact hq.2 q hq2
     ·rw [List.mem_singleton] at hq2;subst hq2
      exact rok2 (H11 h2 (fun r hr=>hk r (by simp at hr;subst hr;simp))) (HX9 h2 (fun r hr=>hk r (by simp at hr;subst hr;simp)))
   ·have hc43:=of_decide_eq_false hc;clear hc
    have n8:¬ s.k=8:=hc43
    refine bQ (XF.thenN ?_)
    refine mE (p:=11) (k:=13) (gi:=0) (m:=1) bG hS rfl rfl (by kernel_rfl) (by kernel_rfl) (by kernel_rfl) (fun d hd=>by cases hd) rfl rfl underlying36 gN rfl rfl (by show 0 < 10;decide) rfl rfl rfl (by simp only [maxLen];omega) (by show (i+1) * 144≤_;omega) ?_
    refine cN 1 rfl rfl (by kernel_rfl) (rgV (li:=[(8,_)]) rfl (aP rfl) ⟨bB rfl,trivial⟩ (fun w hw=>aO (o':=5) cM rfl rfl) (aC rfl)) (cN 2 rfl rfl (by kernel_rfl) (rgV (li:=[(58,_)]) rfl (aP rfl) ⟨aG 0 (aA rfl rfl rfl),trivial⟩ (fun w hw=>aS isAgg36 rfl ((aJ hw 0).cell (Nat.zero_le _) (aI (hS.at_ 1 rfl) rfl))) (aC rfl)) (cN 3 rfl rfl (by kernel_rfl) (rgV (li:=[(10,_)]) rfl (aP rfl) ⟨bB rfl,trivial⟩ (fun w hw=>aO (o':=0) cO rfl rfl) (aC rfl)) (cN 4 rfl rfl (by kernel_rfl) (rgV (li:=[(60,_)]) rfl (aP rfl) ⟨aG 2 (aA rfl rfl rfl),trivial⟩ (fun w hw=>aS isAgg3 rfl ((aJ hw 0).cell (Nat.zero_le _) (aI (hS.at_ 0 rfl) rfl))) (aC rfl)) (cN 5 rfl rfl (by kernel_rfl) (rgV (li:=[(11,_)]) rfl (aP rfl) ⟨bB rfl,trivial⟩ (fun w hw=>aW rfl) (aC rfl)) (cN 6 rfl rfl (by kernel_rfl) (rgV (li:=[(1,_)]) rfl (aP rfl) ⟨bB rfl,trivial⟩ (fun w hw=>aW rfl) (aC rfl)) (cN 7 rfl rfl (by kernel_rfl) (rgV (li:=[(7,_)]) rfl (aP rfl) ⟨bB rfl,trivial⟩ (fun w hw=>aW rfl) (aC rfl)) (cN 8 rfl rfl (by kernel_rfl) (rgV (li:=[(10,_)]) rfl (aP rfl) ⟨bB rfl,trivial⟩ (fun w hw=>cJ (vs:=[_,_,_,_,_,_,_]) isAgg79 sizeOf79 rfl (aM.agree (aJ hw 0) (Nat.zero_le _) (aM.own (j:=0) (m:=7) (hS.at_ 0 rfl) rfl))) (aC rfl)) ?_)))))))
    refine iF 9 rfl rfl (by kernel_rfl) (gD W90.heap.size (spM m vl) (wtM m vl s.k s.x s.y s.kk)) (iY) (cH [isV _,isV _,isV _] rfl fI (aP rfl) ⟨bO (aG 5 (aA rfl rfl rfl)),bO (aG 6 (aA rfl rfl rfl)),bO (aG 7 (aA rfl rfl rfl)),trivial⟩ (fun vs w' hb hh=>by have e:=bN (us:=[_,_,_]) hh;subst e;exact iZ hb.size (nI m vl s _ hso9.v hst9)) (aC rfl)) ?_
    refine iF 10 rfl rfl (by kernel_rfl) (pH W90.heap.size s.f (some ⟨B90,0,none⟩) 1 1 (spM m vl) (wtM m vl s.k s.x s.y s.kk)) (pI) (rgPs [(3,61,isV _),(4,62,isV _),(8,66,gD W90.heap.size (spM m vl) (wtM m vl s.k s.x s.y s.kk))] rfl ⟨⟨by kernel_rfl,aA rfl rfl rfl⟩,⟨by kernel_rfl,aA rfl rfl rfl⟩,⟨by kernel_rfl,aA rfl rfl rfl⟩,trivial⟩ wY (aC rfl)) ?_
    refine iF 11 rfl rfl (by kernel_rfl) (kG W90.heap.size s.f (some ⟨B90,0,none⟩) 1 1 (spM m vl) (wtM m vl s.k s.x s.y s.kk)) (kQ) (nK rfl (aG 9 (aA rfl rfl rfl)) (aC rfl)) (iG 12 rfl rfl (gF 13 rfl rfl (rgV (li:=[(8,_)]) rfl (aP rfl) ⟨bB rfl,trivial⟩ (fun w hw=>aO (o':=5) cM rfl rfl) (aC rfl)) (lgV (li:=[(8,_)]) rfl (aP rfl) ⟨bB rfl,trivial⟩ (fun w=>aO (o':=5) cM rfl rfl) (aC rfl) rfl) (iE ⟨_,_,aG 1 (aA rfl rfl rfl),aG 10 (aA rfl rfl rfl),nJ,?_⟩)))
    intro A12 v12 news12 W12 hbR hqA12 hS'
    clear hS;have hS:=hS';clear hS'
    have hqN:=hqA12
    refine aE (aE (aE (aE (aE (aE (aE (aE ?_)))))))
    refine dO ?_;intro _ _
    refine dO ?_;intro _ _
    refine dO ?_;intro _ _
    refine aE (aE ?_)
    obtain ⟨f9,rfl,hxn9⟩:=hqN
    have HX9:eS w [(W90.heap.size,A12)] (fun W2=>XIs W2 (spM m vl) f9 (wtM m vl s.k s.x s.y s.kk)):=eS.one (fun W2 hg=>(hxn9.agree hg).is)
    obtain ⟨a2,c2,e2,hac2⟩:=dZ (hS.row 0 rfl)
    dsimp only at e2
    subst e2
    refine bV (eV (i:=1) (cs':=[_,_,_,_,_,_]) (O':=[_,_,_,_]) hS sizeOf36 rfl rfl rfl rfl rfl rfl rfl fun W13 hS=>aT (XF.blkN (XF.thenN (aU (dH rfl rfl (IntWalk.i64_in _ (by omega)) rfl (aL rfl rfl (aT ?_)))))))
    have hS9:=hS.tail
    refine XF.round (sl - (i+1)) [(1,_),(2,_),(4,_),(7,_),(8,_),(32,_),(33,_),(34,_)] (by omega) ⟨rfl,rfl,rfl,rfl,rfl,rfl,rfl,rfl,trivial⟩ ⟨i+1,rs++[⟨0,false,0,s.f,0,some ⟨B90,0,none⟩,1,[s.t],f9,_⟩],_,_,by omega,rfl,rfl,by simp [hql],by rw [List.map_append,hqm,List.take_add_one,List.map_append,hy,List.map_cons,List.map_nil];show _=_++[psR _ _ _];rw [A6 n8],?_,hS9.castG (by simp [kX,Nat.add_assoc])⟩
    exact fun h2 hk=>by
     have hq:=HQ h2 (fun r hr=>hk r (by simp [hr]))
     refine ⟨hq.1,fun q hq2=>?_⟩
     rcases List.mem_append.1 hq2 with hq2 | hq2
     ·exact hq.2 q hq2
     ·rw [List.mem_singleton] at hq2;subst hq2
      exact rok1 (H90 h2 (fun r hr=>hk r (by simp at hr;subst hr;simp))) (HX9 h2 (fun r hr=>hk r (by simp at hr;subst hr;simp)))
  ·have hc35:=of_decide_eq_false hc;clear hc
   rw [List.take_of_length_le (by omega)] at hqm
   refine cZ (XF.thenX (XF.thenX (XF.blkX (XF.thenN (aR (aR (aU (aQ (o':=3) eT rfl rfl rfl (aV isAgg23 rfl (aI (hS.at_ 2 rfl) rfl) rfl (bU underlying23 rfl rfl (aL rfl rfl (aT (XF.thenN (bR ?_))))))))))))))
   refine eI (fun q l W=>∃ (i:Nat) (rs:List R9) (v:Value) (Kk:List (Nat×World)),i≤xl∧q=xl - i∧l=[(1,.int .i64 m),(2,.pointer (some ⟨B1,0,none⟩)),(4,.pointer (some ⟨B2,0,none⟩)),(7,.int .i64 (vl:Int)),(8,.pointer (some ⟨(Bf5 7),0,none⟩)),(73,.slice xa xl xc),(74,.int .i64 (xl:Int)),(75,.int .i64 (i:Int))]∧rs.length=sl+i∧rs.map R9.pl=ss.map (psR ⟨va,vl,vc,pa,pl,pc,ea,el,ec,es,xa,xl,xc,xs,mn,oa,ol,oc,os,sa,sl,sc,ss,ta,tl,tc,ts,na,nl,nc,ns,ka,kl,kc,ks⟩ m)++(xs.take i).map (psX ⟨va,vl,vc,pa,pl,pc,ea,el,ec,es,xa,xl,xc,xs,mn,oa,ol,oc,os,sa,sl,sc,ss,ta,tl,tc,ts,na,nl,nc,ns,ka,kl,kc,ks⟩ m)∧eS w Kk (fun W2=>SIs W2 (spM m vl) sq∧∀ r∈rs,ROk (spM m vl) W2 r)∧St w [((Bf5 7),[.int .i64 sq.tag,.int .i64 sq.dim,.slice sq.a sq.len sq.cap,.int .i64 1,.int .i64 (ol:Int),v],38),(B2,[.int .i64 0,.int .i64 0,.slice none 0 0,.int .i64 0,.int .i64 0,.slice none 0 0],38),(B1,[.slice va vl vc,.slice pa pl pc,.slice ea el ec,.slice xa xl xc,.int .i64 mn,.slice oa ol oc,.slice sa sl sc,.slice ta tl tc,.slice na nl nc,.slice ka kl kc],29)] [⟨v,sl+i,rs.flatMap pV,74,10⟩] Kk W) (xl - 0) ([(1,_),(2,_),(4,_),(7,_),(8,_),(73,_),(74,_),(75,_)]) ⟨rfl,rfl,rfl,rfl,rfl,rfl,rfl,rfl,trivial⟩ (⟨0,rs,_,Kk,Nat.zero_le _,rfl,rfl,by omega,by rw [hqm];simp,HQ,hS.castG (by rw [show i=sl+0 by omega])⟩) ?_
   clear hS
   rintro q l W ⟨i,rs,v,Kk,hi,rfl,rfl,hql,hqm,HQ,hS⟩
   refine aR (aU (dA rfl rfl rfl (aT (XF.thenN (aR (bJ rfl (fun hc=>?_) (fun hc=>?_)))))))
   ·have hc76:=of_decide_eq_true hc;clear hc
    have hk1:i < xl:=by omega
    obtain ⟨b,off,y,rfl,hy,hyc⟩:=hx.get (i:=i) (by omega)
    have k1:=(aM.agree hS.agree (Nat.zero_le _) hyc).1
    refine bQ (XF.thenN (aR (bR (aR (aU (cP  underlying23 sizeOf3 rfl rfl rfl (by omega) rfl rfl (aV isAgg3 rfl (k1) rfl (aK rfl rfl (aT (XF.thenN ?_))))))))))
    refine mE (p:=9) (k:=11) (gi:=0) (m:=1) bG hS rfl rfl (by kernel_rfl) (by kernel_rfl) (by kernel_rfl) (fun d hd=>by cases hd) rfl rfl underlying36 gN rfl rfl (by show 0 < 10;decide) rfl rfl rfl (by simp only [maxLen];omega) (by show (sl+i+1) * 144≤_;omega) ?_
    refine cN 1 rfl rfl (by kernel_rfl) (rgV (li:=[(8,_)]) rfl (aP rfl) ⟨bB rfl,trivial⟩ (fun w hw=>aO (o':=5) cM rfl rfl) (aC rfl)) (cN 2 rfl rfl (by kernel_rfl) (rgV (li:=[(79,_)]) rfl (aP rfl) ⟨aG 0 (aA rfl rfl rfl),trivial⟩ (fun w hw=>aS isAgg36 rfl ((aJ hw 0).cell (Nat.zero_le _) (aI (hS.at_ 0 rfl) rfl))) (aC rfl)) (cN 3 rfl rfl (by kernel_rfl) (rgV (li:=[(13,_)]) rfl (aP rfl) ⟨bB rfl,trivial⟩ (fun w hw=>aW rfl) (aC rfl)) (cN 4 rfl rfl (by kernel_rfl) (rgV (li:=[(1,_)]) rfl (aP rfl) ⟨bB rfl,trivial⟩ (fun w hw=>aW rfl) (aC rfl)) (cN 5 rfl rfl (by kernel_rfl) (rgV (li:=[(7,_)]) rfl (aP rfl) ⟨bB rfl,trivial⟩ (fun w hw=>aW rfl) (aC rfl)) (cN 6 rfl rfl (by kernel_rfl) (rgV (li:=[]) rfl (aP rfl) trivial (fun w hw=>eN (us:=[(2,.int .i64 _)]) rfl (hY _)) (aC rfl)) ?_)))))
    refine iF 7 rfl rfl (by kernel_rfl) (gD W.heap.size (spM m vl) (wtM m vl 1 0 0 0)) (iY) (cH [isV _,isV _,isV _] rfl fI (aP rfl) ⟨bO (aG 3 (aA rfl rfl rfl)),bO (aG 4 (aA rfl rfl rfl)),bO (aG 5 (aA rfl rfl rfl)),trivial⟩ (fun vs w' hb hh=>by have e:=bN (us:=[_,_,_]) hh;subst e;exact iZ hb.size (nI m vl ⟨0,0,1,0,0,0,0⟩ _ hso9.v tW)) (aC rfl)) ?_
    refine iF 8 rfl rfl (by kernel_rfl) (pH W.heap.size y none 0 0 (spM m vl) (wtM m vl 1 0 0 0)) (pI) (rgPs [(2,81,isV _),(6,85,gD W.heap.size (spM m vl) (wtM m vl 1 0 0 0))] rfl ⟨⟨by kernel_rfl,aA rfl rfl rfl⟩,⟨by kernel_rfl,aA rfl rfl rfl⟩,trivial⟩ wZ (aC rfl)) ?_
    refine iF 9 rfl rfl (by kernel_rfl) (kG W.heap.size y none 0 0 (spM m vl) (wtM m vl 1 0 0 0)) (kQ) (nK rfl (aG 7 (aA rfl rfl rfl)) (aC rfl)) (iG 10 rfl rfl (gF 11 rfl rfl (rgV (li:=[(8,_)]) rfl (aP rfl) ⟨bB rfl,trivial⟩ (fun w hw=>aO (o':=5) cM rfl rfl) (aC rfl)) (lgV (li:=[(8,_)]) rfl (aP rfl) ⟨bB rfl,trivial⟩ (fun w=>aO (o':=5) cM rfl rfl) (aC rfl) rfl) (iE ⟨_,_,aG 1 (aA rfl rfl rfl),aG 8 (aA rfl rfl rfl),nJ,?_⟩)))
    intro A14 v14 news14 W14 hbR hqA14 hS'
    clear hS;have hS:=hS';clear hS'
    have hqN:=hqA14
    refine aE (aE (aE (aE (aE (aE ?_)))))
    refine dO ?_;intro _ _
    refine dO ?_;intro _ _
    refine dO ?_;intro _ _
    refine aE (aE ?_)
    obtain ⟨f9,rfl,hxn9⟩:=hqN
    have HX9:eS w [(W.heap.size,A14)] (fun W2=>XIs W2 (spM m vl) f9 (wtM m vl 1 0 0 0)):=eS.one (fun W2 hg=>(hxn9.agree hg).is)
    obtain ⟨a2,c2,e2,hac2⟩:=dZ (hS.row 0 rfl)
    dsimp only at e2
    subst e2
    refine bV (eV (i:=0) (cs':=[_,_,_,_,_,_]) (O':=[_,_,_]) hS sizeOf36 rfl rfl rfl rfl rfl rfl rfl fun W15 hS=>aT (XF.blkN (XF.thenN (aU (dH rfl rfl (IntWalk.i64_in _ (by omega)) rfl (aL rfl rfl (aT ?_)))))))
    have hS9:=hS
    refine XF.round (xl - (i+1)) [(1,_),(2,_),(4,_),(7,_),(8,_),(73,_),(74,_),(75,_)] (by omega) ⟨rfl,rfl,rfl,rfl,rfl,rfl,rfl,rfl,trivial⟩ ⟨i+1,rs++[⟨0,false,0,y,0,none,0,[],f9,_⟩],_,_,by omega,rfl,rfl,by simp [hql];try omega,by rw [List.map_append,hqm,List.take_add_one,List.map_append,hy,List.append_assoc];rfl,?_,hS9.castG (by simp [kX,Nat.add_assoc])⟩
    exact fun h2 hk=>by
     have hq:=HQ h2 (fun r hr=>hk r (by simp [hr]))
     refine ⟨hq.1,fun q hq2=>?_⟩
     rcases List.mem_append.1 hq2 with hq2 | hq2
     ·exact hq.2 q hq2
     ·rw [List.mem_singleton] at hq2;subst hq2
      exact rok0 (HX9 h2 (fun r hr=>hk r (by simp at hr;subst hr;simp)))
   ·have hc76:=of_decide_eq_false hc;clear hc
    rw [List.take_of_length_le (by omega)] at hqm
    obtain ⟨a9,c9,rfl,hac⟩:=dZ (v:=v) (n:=sl+i) (hS.row 0 rfl)
    refine cZ (XF.thenX (XF.thenX (XF.blkX (XF.thenN (aR (aU (bF (vs:=[_,_,_,_,_,_]) isAgg38 sizeOf38 rfl (aM.own (j:=0) (m:=6) (hS.at_ 0 rfl) rfl) rfl (bA (i:=1) (vs:=[_,_,_,_,_,_]) (cs':=[_,_,_,_,_,_]) (O':=[_,_,_]) hS sizeOf38 rfl rfl rfl rfl rfl rfl rfl fun W16 hS=>aK rfl rfl (aT (XF.thenN (bP (XF.res (fE (vs:=[_,_,_,_,_,_]) results6 isAgg38 sizeOf38 rfl (aM.own (j:=0) (m:=6) (hS.at_ 1 rfl) rfl) rfl) ?_))))))))))))
    exact D3 hce hso9.v hS (hS.row 0 rfl) hql (by omega) hqm (HQ.more (fun q hq=>by simp [hq]))
theorem tX:prog.built 47 []=some #[.int .i64 0,.int .i64 0,.slice none 0 0,.int .i64 0,.int .i64 0,.slice none 0 0,.slice none 0 0]:=by kernel_rfl
theorem eW (v00:Value) (v01:Value) (v02:Value) (v1:Int) (v2:Int) (v3a:Option Addr) (v3l:Nat) (v3c:Nat) (v4a:Option Addr) (v4l:Nat) (v4c:Nat):prog.built 47 [(0,.agg #[v00,v01,v02]),(1,.int .i64 v1),(2,.int .i64 v2),(3,.slice v3a v3l v3c),(4,.slice v4a v4l v4c)]=some #[v00,v01,v02,.int .i64 v1,.int .i64 v2,.slice v3a v3l v3c,.slice v4a v4l v4c]:=by kernel_rfl
theorem iP (v0:Int) (v1:Int) (v2:Int) (v30:Value) (v31:Value) (v32:Value) (v33:Value) (v34:Value) (v35:Value):prog.built 90 [(0,.int .i64 v0),(1,.int .i64 v1),(2,.int .i64 v2),(3,.agg #[v30,v31,v32,v33,v34,v35])]=some #[.int .i64 v0,.int .i64 v1,.int .i64 v2,v30,v31,v32,v33,v34,v35]:=by kernel_rfl
theorem kI (v00:Value) (v01:Value) (v02:Value) (v03:Value) (v04:Value) (v05:Value) (v06:Value) (v07:Value) (v08:Value):Instr.fill (fun i=>some (i * 9,9)) ((Array.range (1 * 9)).map ((Value.cells (.agg #[.int .i64 0,.int .i64 0,.int .i64 0,.bool false,.int .i64 0,.int .u64 0,.slice none 0 0,.slice none 0 0,.slice none 0 0]))[· % (Value.cells (.agg #[.int .i64 0,.int .i64 0,.int .i64 0,.bool false,.int .i64 0,.int .u64 0,.slice none 0 0,.slice none 0 0,.slice none 0 0])).size]!)) [(0,.agg #[v00,v01,v02,v03,v04,v05,v06,v07,v08])]=some (List.toArray [v00,v01,v02,v03,v04,v05,v06,v07,v08]):=by kernel_rfl
theorem yX (w:World) (b o:Nat):(Instr.fieldAt 59 (.pointer (some ⟨b,o,none⟩)) 1).run prog w = .ok (.pointer (some ⟨b,o+1,none⟩)) w:=by
 simp [Instr.fieldAt,run_underlying underlying59,Instr.sureAddr,go_sem,Addr.add_lit]
theorem yY (w:World) (b o:Nat):(Instr.fieldAt 59 (.pointer (some ⟨b,o,none⟩)) 4).run prog w = .ok (.pointer (some ⟨b,o+5,none⟩)) w:=by
 simp [Instr.fieldAt,run_underlying underlying59,Instr.sureAddr,go_sem,Addr.add_lit]
def psF (g:GV) (m:Int):List Int:=if gA g m=0 then [1] else []
def psY (g:GV):Int:=(g.es[g.mn.toNat]?).getD 0
def StR (g:GV) (m:Int) (w:World) (e:Ending) (w':World):Prop:=Below w.heap.size w w'∧∃ (sf:SF) (fa:Option Addr) (fc:Nat) (ta:Option Addr) (tc:Nat) (us:List WF),e = .returned (.tuple #[.agg #[.int .i64 sf.tag,.int .i64 sf.dim,.slice sf.a sf.len sf.cap,.int .i64 (psN g m 2),.int .i64 (psN g m g.ol),.slice fa (psF g m).length fc,.slice ta (psF g m).length tc],.int .i64 (gA g m)])∧∀ W2,Below w.heap.size w W2→dN w.heap.size w' W2→AuU (psO g m) (stX m g.vl) (psY g) (psF g m) (psF g m).length W2 sf fa ta us
theorem A9 {g:GV} {m:Int} {w w':World} (h:gA g m≠0) (hb:Below w.heap.size w w'):StR g m w (.returned (.tuple #[.agg #[.int .i64 0,.int .i64 0,.slice none 0 0,.int .i64 0,.int .i64 0,.slice none 0 0,.slice none 0 0],.int .i64 (gA g m)])) w':=by
 refine ⟨hb,⟨0,0,none,0,0⟩,none,0,none,0,[],?_,fun W2 _ _=>?_⟩
 ·unfold psN psF;rw [if_neg h,if_neg h,if_neg h];rfl
 ·unfold psO psF;rw [if_neg h,if_neg h];exact Dx
theorem sP {g:GV} {m:Int} {w w':World} {sf:SF} {BF BT k:Nat} {y:Int} {T:TypeId} {f:WF} {O:Own} {G:Grows} {K:List (Nat×World)} (h:gA g m=0) (hv:g.vl≤64) (hS:St w O G K w') (hm:g.mn=(k:Int)) (hk:g.es[k]?=some y) (HQ:eS w K (fun W2=>SIs W2 (spM m g.vl) sf∧W2.heap[BF]?=some (.cells (List.toArray [.int .i64 1]) 3 (0,0))∧W2.heap[BT]?=some (.cells (A3 y f).toArray T (0,0)))) (hx:∀ W2,Below w.heap.size w W2→dN w.heap.size w' W2→XIs W2 (spM m g.vl) f (stX m g.vl)):StR g m w (.returned (.tuple #[.agg #[.int .i64 sf.tag,.int .i64 sf.dim,.slice sf.a sf.len sf.cap,.int .i64 2,.int .i64 (g.ol:Int),.slice (some ⟨BF,0,none⟩) 1 1,.slice (some ⟨BT,0,none⟩) 1 1],.int .i64 0])) w':=by
 refine ⟨hS.below,sf,some ⟨BF,0,none⟩,1,some ⟨BT,0,none⟩,1,[f],?_,fun W2 h1 h2=>?_⟩
 ·unfold psN psF;rw [if_pos h,if_pos h,if_pos h,h];rfl
 ·have hq:=HQ (stE hS h1 h2) (fun q hq=>hq)
  have hy:psY g=y:=by unfold psY;rw [hm,Int.toNat_natCast,hk];rfl
  unfold psO psF;rw [if_pos h,if_pos h,hy]
  exact Dz (uX hv) hq.1 hq.2.1 hq.2.2 (hx W2 h1 h2)
theorem spM_2 {m:Int} {n:Nat} (h:m=2):spM m n = .two 2 1048576 3 n∧stX m n = .two (pC 0) (pF 0 (dE n)):=by unfold spM stX;rw [if_pos h,if_pos h];exact ⟨rfl,rfl⟩
theorem Ba {m:Int} {n:Nat} (h:m=3):spM m n = .one 4 n∧stX m n = .one (pX (List.replicate n ⟨0,1,0⟩)):=by unfold spM stX;rw [if_neg (by omega),if_pos h,if_neg (by omega),if_pos h];exact ⟨rfl,rfl⟩
theorem spM_1 {m:Int} {n:Nat} (h2:m≠2) (h3:m≠3):spM m n = .one 1 0∧stX m n = .one (pC 0):=by unfold spM stX;rw [if_neg h2,if_neg h3,if_neg h2,if_neg h3];exact ⟨rfl,rfl⟩
theorem D4 (va:Option Addr) (vl:Nat) (vc:Nat) (pa:Option Addr) (pl:Nat) (pc:Nat) (ea:Option Addr) (el:Nat) (ec:Nat) (es:List Int) (xa:Option Addr) (xl:Nat) (xc:Nat) (xs:List Int) (mn:Int) (oa:Option Addr) (ol:Nat) (oc:Nat) (os:List Int) (sa:Option Addr) (sl:Nat) (sc:Nat) (ss:List gr_TV) (ta:Option Addr) (tl:Nat) (tc:Nat) (ts:List UV) (na:Option Addr) (nl:Nat) (nc:Nat) (ns:List NV) (ka:Option Addr) (kl:Nat) (kc:Nat) (ks:List KV) (w:World) (he:dS w ea es) (hel:es.length=el) (hx:dS w xa xs) (hxl:xs.length=xl) (ho:dS w oa os) (hol:os.length=ol) (hs:dB gr_TV.sev 7 w sa ss) (hsl:ss.length=sl) (ht:dB UV.four 4 w ta ts) (htl:ts.length=tl) (hn:dB NV.two 2 w na ns) (hnl:ns.length=nl) (hk:dB KV.two 2 w ka ks) (hkl:ks.length=kl) (b1:vl≤5000) (b2:pl≤5000) (b3:el≤5000) (b4:xl≤5000) (b5:ol≤5000) (b6:sl≤5000) (b7:tl≤5000) (b8:nl≤5000) (b9:kl≤5000) (m:Int) (hso:gr_checkE ⟨va,vl,vc,pa,pl,pc,ea,el,ec,es,xa,xl,xc,xs,mn,oa,ol,oc,os,sa,sl,sc,ss,ta,tl,tc,ts,na,nl,nc,ns,ka,kl,kc,ks⟩=0→StepsOk ⟨va,vl,vc,pa,pl,pc,ea,el,ec,es,xa,xl,xc,xs,mn,oa,ol,oc,os,sa,sl,sc,ss,ta,tl,tc,ts,na,nl,nc,ns,ka,kl,kc,ks⟩) (hmn:gr_checkE ⟨va,vl,vc,pa,pl,pc,ea,el,ec,es,xa,xl,xc,xs,mn,oa,ol,oc,os,sa,sl,sc,ss,ta,tl,tc,ts,na,nl,nc,ns,ka,kl,kc,ks⟩=0→∃ (k:Nat) (y:Int),mn=(k:Int)∧es[k]?=some y) :
  Calls prog 8 #[.agg #[.slice va vl vc,.slice pa pl pc,.slice ea el ec,.slice xa xl xc,.int .i64 mn,.slice oa ol oc,.slice sa sl sc,.slice ta tl tc,.slice na nl nc,.slice ka kl kc],.int .i64 m] w (StR ⟨va,vl,vc,pa,pl,pc,ea,el,ec,es,xa,xl,xc,xs,mn,oa,ol,oc,os,sa,sl,sc,ss,ta,tl,tc,ts,na,nl,nc,ns,ka,kl,kc,ks⟩ m w):=by
 refine cS (args:=[.agg #[.slice va vl vc,.slice pa pl pc,.slice ea el ec,.slice xa xl xc,.int .i64 mn,.slice oa ol oc,.slice sa sl sc,.slice ta tl tc,.slice na nl nc,.slice ka kl kc],.int .i64 m]) func8 rfl ntmps8 rfl ?_
 have hS:=St.start w
 refine aR (aU (cR (cs:=[_,_,_,_,_,_,_,_,_,_]) hS rfl rfl rfl fun B1 W1 hS=>bY (cs:=[_,_,_,_,_,_,_]) hS zeroValue47 rfl rfl fun B2 W2 hS=>aK rfl rfl (aT (XF.thenN (aR (aR (aU (bF (vs:=[_,_,_,_,_,_,_,_,_,_]) isAgg29 sizeOf29 rfl (aM.own (j:=0) (m:=10) (hS.at_ 1 rfl) rfl) rfl (aL rfl rfl (cD (vs:=[_,_]) hS lM rfl (vC _ vl vc _ pl pc _ el ec es _ xl xc xs mn _ ol oc os _ sl sc ss _ tl tc ts _ nl nc ns _ kl kc ks  _ (he.below hS.below) hel (hx.below hS.below) hxl (ho.below hS.below) hol (hs.below hS.below) hsl (ht.below hS.below) htl (hn.below hS.below) hnl (hk.below hS.below) hkl b1 b2 b3 b4 b5 b6 b7 b8 b9 m) rfl fun W3 hS=>aK rfl rfl (aT (XF.thenN (aR (aU (aL rfl rfl (cW rfl rfl rfl (aT (XF.thenN (bJ rfl (fun hc=>?_) (fun hc=>?_))))))))))))))))))))
 ·have hc15:=of_decide_eq_true hc;clear hc
  refine aR (aU (bL (us:=[]) rfl (tX) rfl (aL rfl rfl (bA (i:=0) (vs:=[_,_,_,_,_,_,_]) (cs':=[_,_,_,_,_,_,_]) (O':=[_,_]) hS sizeOf47 rfl rfl rfl rfl rfl rfl rfl fun W4 hS=>aK rfl rfl (aT (XF.thenN (bP (XF.thenR (XF.res (fE (vs:=[_,_,_,_,_,_,_]) results8 isAgg47 sizeOf47 rfl (aM.own (j:=0) (m:=7) (hS.at_ 0 rfl) rfl) rfl) ?_)))))))))
  exact A9 hc15 hS.below
 ·have hc15:=of_decide_eq_false hc;clear hc
  have hce:gA ⟨va,vl,vc,pa,pl,pc,ea,el,ec,es,xa,xl,xc,xs,mn,oa,ol,oc,os,sa,sl,sc,ss,ta,tl,tc,ts,na,nl,nc,ns,ka,kl,kc,ks⟩ m=0:=Decidable.of_not_not hc15
  have hso9:=hso (jC hce)
  obtain ⟨kM,yM,hkM,hyM⟩:=hmn (jC hce)
  have hv9:vl≤64:=hso9.v
  refine bQ (XF.thenN (aR (aU (aQ (o':=0) eE rfl rfl rfl (aV isAgg22 rfl (aI (hS.at_ 1 rfl) rfl) rfl (bU underlying22 rfl rfl (aK rfl rfl (aT (XF.thenN (aR ?_))))))))))
  rcases (show m=2∨m=3∨(m≠2∧m≠3) by omega) with hm2 | hm3 | ⟨hm2,hm3⟩
  ·skip
   refine aU (aL rfl rfl (aL rfl rfl (bL (us:=[(2,.int .i64 _)]) rfl (hY _) rfl ?_)))
   have hsz9:=hS.below.size
   refine rP (vs:=[_,_,_]) fI rfl (worthS2 m vl _ hso9.v hm2) rfl ?_
   rintro e WQ9 ⟨BN9,a9,c9,lo8,X8,rfl,hlo9,hB9,hl8,hd8,hg8,hp8,hb9⟩
   refine ⟨_,rfl,?_⟩
   have hS9:=St.adoptE hS (hS.grow hb9) (fun q hq=>hq) hlo9 hB9 (Kk:=[(lo8,X8)]) (fun q hq=>by rw [List.mem_singleton] at hq;subst hq;exact ⟨hl8,hd8,hg8⟩)
   clear hS;have hS:=hS9;clear hS9
   have HP0:eS w [(lo8,X8)] (fun W2=>PNew lo8 W2 3 vl (gT 0 a9 c9 (dE vl)) (pF 0 (dE vl))):=eS.one (fun W2 hg=>hp8.agree hg)
   have hl8:=Nat.le_trans hsz9 hl8
   refine bY (cs:=[_,_,_,_,_,_]) hS zeroValue59 rfl rfl fun B5 W5 hS=>bA (i:=0) (vs:=[_,_,_,_,_,_]) (cs':=[_,_,_,_,_,_]) (O':=[_,_,_,_]) hS sizeOf59 rfl rfl rfl rfl rfl rfl rfl fun W6 hS=>aT (XF.thenN (aR (aR (aU (aL rfl rfl (bW rfl rfl rfl (aT (XF.thenN (bJ rfl (fun hc=>?_) (fun hc=>absurd (of_decide_eq_false hc) (by exact fun h=>h hm2)))))))))))
   have hc:=of_decide_eq_true hc
   refine aU (aQ (o':=5) yY rfl rfl rfl (aV isAgg57 rfl (aI (hS.at_ 0 rfl) rfl) rfl ?_))
   refine cP (j:=0) underlying57 sizeOf59 rfl rfl (rfl) (by show 0 < 2;decide) rfl rfl ?_
   refine aQ (o':=1) yX rfl rfl rfl (eV (i:=1) (cs':=[_,_,_,_,_,_,_,_,_,_,_,_]) (O':=[_,_,_,_]) hS sizeOf3 rfl rfl rfl rfl rfl rfl rfl fun W7 hS=>aT (XF.thenN (aR (aR (aU (aQ (o':=4) dU rfl rfl rfl (aV isAgg56 rfl (aI (hS.at_ 0 rfl) rfl) rfl (bU underlying56 rfl rfl (aL rfl rfl (aT (XF.thenN (bR ?_))))))))))))
   refine eI (fun q l W=>∃ Kk:List (Nat×World),q=0∧l=[(1,.int .i64 m),(2,.pointer (some ⟨B1,0,none⟩)),(4,.pointer (some ⟨B2,0,none⟩)),(7,.int .i64 (vl:Int)),(8,.pointer (some ⟨B5,0,none⟩)),(33,.int .i64 0),(34,.int .i64 0)]∧eS w Kk (fun W2=>PNew lo8 W2 3 vl (gT 0 a9 c9 (dE vl)) (pF 0 (dE vl)))∧St w [(B5,[.bool false,.int .i64 0,.int .u64 0,.slice none 0 0,.slice none 0 0,.slice (some ⟨BN9,0,none⟩) 2 2],59),(BN9,[.bool false,.int .i64 0,.int .u64 0,.slice none 0 0,.slice none 0 0,.slice none 0 0,.bool false,.int .i64 0,.int .u64 0,.slice a9 (dE vl).length c9,.slice none 0 0,.slice none 0 0],59),(B2,[.int .i64 0,.int .i64 0,.slice none 0 0,.int .i64 0,.int .i64 0,.slice none 0 0,.slice none 0 0],47),(B1,[.slice va vl vc,.slice pa pl pc,.slice ea el ec,.slice xa xl xc,.int .i64 mn,.slice oa ol oc,.slice sa sl sc,.slice ta tl tc,.slice na nl nc,.slice ka kl kc],29)] [] Kk W) (0) ([(1,_),(2,_),(4,_),(7,_),(8,_),(33,_),(34,_)]) ⟨rfl,rfl,rfl,rfl,rfl,rfl,rfl,trivial⟩ (⟨_,rfl,rfl,HP0,hS.keep _ (fun q hq=>by simp at hq;subst hq;simp)⟩) ?_
   clear hS
   clear HP0;rintro q l W ⟨Kk,rfl,rfl,HP,hS⟩
   refine aR (aU (dA rfl rfl rfl (aT (XF.thenN (aR (bJ rfl (fun hc=>absurd (of_decide_eq_true hc) (by decide)) (fun hc=>?_)))))))
   have hc:=of_decide_eq_false hc
   refine cZ (XF.thenX (XF.thenX (XF.blkX (XF.thenN (aR ?_)))))
   obtain ⟨eb,eo,eM,rfl,heM,hecM⟩:=he.get (i:=kM) (by exact (List.getElem?_eq_some_iff.1 hyM).1)
   obtain rfl:yM=eM:=Option.some.inj (hyM.symm.trans heM)
   have kE:=(aM.agree hS.agree (Nat.zero_le _) hecM).1
   have hkl:kM < el:=by have:=(List.getElem?_eq_some_iff.1 hyM).1;omega
   refine zO (cs:=[_,_,_,_,_,_,_,_,_]) bG 9 8 hS rfl rfl rfl rfl zeroValue90 rfl (by kernel_rfl) (by kernel_rfl) (by kernel_rfl) (fun d hd=>by cases hd) (dC 1 rfl rfl (isV _) (aB _) (agV (li:=[(2,_)]) rfl (aP rfl) ⟨bB rfl,trivial⟩ (fun w hw=>aO (o':=2) dP rfl rfl) (aC rfl)) (dC 2 rfl rfl (isV _) (aB _) (agV (li:=[(43,_)]) rfl (aP rfl) ⟨aG 0 (aA rfl rfl rfl),trivial⟩ (fun w hw=>aS isAgg23 rfl ((aJ hw 0).cell (Nat.zero_le _) (aI (hS.at_ 3 rfl) rfl))) (aC rfl)) (dC 3 rfl rfl (isV _) (aB _) (agV (li:=[(2,_)]) rfl (aP rfl) ⟨bB rfl,trivial⟩ (fun w hw=>aO (o':=4) hH rfl rfl) (aC rfl)) (dC 4 rfl rfl (isV _) (aB _) (agV (li:=[(45,_)]) rfl (aP rfl) ⟨aG 2 (aA rfl rfl rfl),trivial⟩ (fun w hw=>aS isAgg3 rfl ((aJ hw 0).cell (Nat.zero_le _) (aI (hS.at_ 3 rfl) rfl))) (aC rfl)) (dC 5 rfl rfl (isV _) (aB _) (agV (li:=[(44,_),(46,_)]) rfl (aP rfl) ⟨aG 1 (aA rfl rfl rfl),aG 3 (aA rfl rfl rfl),trivial⟩ (fun w hw=>bH (j:=kM) underlying23 sizeOf3 rfl rfl (hkM) (hkl) rfl) (aC rfl)) (dC 6 rfl rfl (isV _) (aB _) (agV (li:=[(47,_)]) rfl (aP rfl) ⟨aG 4 (aA rfl rfl rfl),trivial⟩ (fun w hw=>aS isAgg3 rfl ((aJ hw 0).cell (Nat.zero_le _) (kE))) (aC rfl)) (dC 7 rfl rfl (isV _) (aB _) (agV (li:=[(8,_)]) rfl (aP rfl) ⟨bB rfl,trivial⟩ (fun w hw=>cJ (vs:=[_,_,_,_,_,_]) isAgg59 sizeOf59 rfl (aM.agree (aJ hw 0) (Nat.zero_le _) (aM.own (j:=0) (m:=6) (hS.at_ 0 rfl) rfl))) (aC rfl)) (dC 8 rfl rfl (isV _) (aB _) (agV (li:=[(48,_),(49,_)]) rfl (aP rfl) ⟨aG 5 (aA rfl rfl rfl),aG 6 (aA rfl rfl rfl),trivial⟩ (fun w hw=>eN (us:=[(0,.int .i64 _),(1,.int .i64 _),(2,.int .i64 _),(3,.agg (List.toArray [_,_,_,_,_,_]))]) rfl (iP _ _ _ _ _ _ _ _ _)) (aC rfl)) (nB 9 rfl rfl (qW ?_))))))))))
   intro B8 AB8 W8 hbR hA1 hA2 hBlo hBhi hS'
   clear hS;have hS:=hS';clear hS'
   refine dY (dY (dY (dY (dY (dY (dY (dY (aE (bV (bA (i:=0) (vs:=[_,_,_,_,_,_,_,_,_]) (cs':=[_,_,_,_,_,_,_,_,_]) (O':=[_,_,_,_,_]) hS sizeOf90 rfl rfl rfl rfl rfl rfl rfl fun W9 hS=>aT (XF.thenN (aR (qQ (ef:=12) (jy:=12) (ca:=sX (fun _=>[])) (ta:=fun _=>0) (Os:=mF _) (Gs:=kX _) (al:=[]) (k:=9) (ds:=[5,60]) bG rfl hS rfl (by kernel_rfl) (by kernel_rfl) rfl (by decide) rfl (fun _=>none) (.inr ⟨rfl,rfl,rfl⟩) rfl rfl (bD 1 rfl rfl (isV _) (fun hNo=>sgV [(1,_)] rfl rfl rfl rfl hNo (aP rfl) ⟨bB rfl,trivial⟩ (fun ev w he hw=>aW rfl) (aC rfl)) (bD 2 rfl rfl (isV _) (fun hNo=>sgV [(7,_)] rfl rfl rfl rfl hNo (aP rfl) ⟨bB rfl,trivial⟩ (fun ev w he hw=>aW rfl) (aC rfl)) ?_)))))))))))))))
   refine bD 3 rfl rfl (jI W9.heap.size (spM m vl)) (fun hNo=>nC [isV _,isV _] rfl rfl rfl rfl hNo jU (aP rfl) ⟨bO (aG 0 (aA rfl rfl rfl)),bO (aG 1 (aA rfl rfl rfl)),trivial⟩ (fun vs ev w' he hSt hlo hh=>by have e:=bN (us:=[_,_]) hh;subst e;exact xA hlo (nH m vl _)) (aC rfl)) ?_
   refine bD 4 rfl rfl (isV _) (fun hNo=>sgV [(2,_)] rfl rfl rfl rfl hNo (aP rfl) ⟨bB rfl,trivial⟩ (fun ev w he hw=>aO (o':=5) cA rfl rfl) (aC rfl)) (bD 5 rfl rfl (isV _) (fun hNo=>sgV [(54,_)] rfl rfl rfl rfl hNo (aP rfl) ⟨aG 3 (aA rfl rfl rfl),trivial⟩ (fun ev w he hw=>aS isAgg23 rfl ((aI (hw.at_ 4 rfl) rfl))) (aC rfl)) (bD 6 rfl rfl (isV _) (fun hNo=>sgV [(55,_)] rfl rfl rfl rfl hNo (aP rfl) ⟨aG 4 (aA rfl rfl rfl),trivial⟩ (fun ev w he hw=>eY underlying23 rfl) (aC rfl)) (bD 7 rfl rfl (dV W9.heap.size 1 3 _) (fun hNo=>iH (us:=[.int .i64 _]) rfl rfl rfl rfl hNo (aP rfl) underlying23 sizeOf3 zeroValue3 rfl rfl ⟨oN,trivial⟩ (fC _) (aC rfl)) (bD 8 rfl rfl (isV _) (fun hNo=>sgV [(10,_)] rfl rfl rfl rfl hNo (aP rfl) ⟨bB rfl,trivial⟩ (fun ev w he hw=>cJ (vs:=[_,_,_,_,_,_,_,_,_]) isAgg90 sizeOf90 rfl ((aM.own (j:=0) (m:=9) (hw.at_ 0 rfl) rfl))) (aC rfl)) (bD 9 rfl rfl (dV W9.heap.size 1 90 _) (fun hNo=>iH (us:=[.agg (List.toArray [_,_,_,_,_,_,_,_,_])]) rfl rfl rfl rfl hNo (aP rfl) underlying45 sizeOf90 zeroValue90 rfl rfl ⟨bO (aG 7 (aA rfl rfl rfl)),trivial⟩ (kI _ _ _ _ _ _ _ _ _) (aC rfl)) (gZ ?_))))))
   intro Bf10 y10 W10 Ks10 hsz10 hKs10 hS' hcov10
   clear hS;have hS:=hS'.castO (O':=[_,_,_,_,_]) rfl;clear hS'
   refine lR (L':=[AwS _ _ (isV _),AwS _ _ (isV _),AwS _ _ (jI W9.heap.size (spM m vl)),AwS _ _ (isV _),AwS _ _ (isV _),AwS _ _ (isV _),AwS _ _ (dV W9.heap.size 1 3 _),AwS _ _ (isV _),AwS _ _ (dV W9.heap.size 1 90 _)]) rfl (bT (bT ?_))
   refine dO ?_;rintro vS hA8;obtain ⟨sq,rfl,_⟩:=hA8.here;have HSp:eS w Ks10 (fun W2=>SIs W2 (spM m vl) sq):=fun h2 hk=>sN (hA8 _ (hcov10 h2 hk))
   refine bT (bT (bT ?_))
   refine dO ?_;rintro vF hF8;obtain ⟨BF,rfl,_,_⟩:=hF8.here;have HBF:eS w Ks10 (fun W2=>W2.heap[BF]?=some (.cells (List.toArray [.int .i64 1]) 3 (0,0))):=fun h2 hk=>gY (hF8 _ (hcov10 h2 hk))
   refine bT ?_
   refine dO ?_;rintro vT hT8;obtain ⟨BT,rfl,_,_⟩:=hT8.here;have HBT:=fun {O2:Own} {G2:Grows} {K2:List (Nat×World)} {W2:World} (h2:St w O2 G2 K2 W2) (hk:∀ q∈Ks10,q∈K2)=>gY (hT8 _ (hcov10 h2 hk))
   refine bV (bL (us:=[(0,.agg (List.toArray [_,_,_])),(1,.int .i64 _),(2,.int .i64 _),(3,.slice _ _ _),(4,.slice _ _ _)]) rfl (eW _ _ _ _ _ _ _ _ _ _ _) rfl (bA (i:=3) (vs:=[_,_,_,_,_,_,_]) (cs':=[_,_,_,_,_,_,_]) (O':=[_,_,_,_,_]) hS sizeOf47 rfl rfl rfl rfl rfl rfl rfl fun W11 hS=>aK rfl rfl (aT (XF.thenN (bP (XF.res (fE (vs:=[_,_,_,_,_,_,_]) results8 isAgg47 sizeOf47 rfl (aM.own (j:=0) (m:=7) (hS.at_ 3 rfl) rfl) rfl) ?_))))))
   have hge9:=hS.ge 2 rfl
   have hat9:=hS.at_ 2 rfl
   exact sP hce hso9.v hS hkM hyM (fun h2 hk=>⟨HSp h2 (fun q hq=>hk q (by simp [hq])),HBF h2 (fun q hq=>hk q (by simp [hq])),HBT h2 (fun q hq=>hk q (by simp [hq]))⟩) (f:=lB BN9) (fun W2 h1 h2=>(by have e9:=spM_2 (n:=vl) hm2;rw [e9.1,e9.2];exact pair_at (lo:=w.heap.size) hge9 (Ck h2 hge9 hat9) hl8 (HP (stE hS h1 h2) (fun q hq=>by simp [hq]))))
  ·skip
   refine aU (aL rfl rfl (aL rfl rfl (bL (us:=[(2,.int .i64 _)]) rfl (hY _) rfl (rP (vs:=[_,_,_]) fI rfl (worthS3 m vl _ hso9.v hm3) rfl ?_))))
   rintro e WQ9 ⟨v9,rfl,hv9⟩
   refine ⟨_,rfl,?_⟩
   have hS9:=hS.adopt hv9.2 hv9.1
   clear hS;have hS:=hS9;clear hS9
   obtain ⟨a9,c9,e9,hac9⟩:=dZ (hS.row 0 rfl)
   dsimp only at e9
   subst e9
   refine bY (cs:=[_,_,_,_,_,_]) hS zeroValue59 rfl rfl fun B12 W12 hS=>bA (i:=0) (vs:=[_,_,_,_,_,_]) (cs':=[_,_,_,_,_,_]) (O':=[_,_,_]) hS sizeOf59 rfl rfl rfl rfl rfl rfl rfl fun W13 hS=>aT (XF.thenN (aR (aR (aU (aL rfl rfl (bW rfl rfl rfl (aT (XF.thenN (bJ rfl (fun hc=>absurd (of_decide_eq_true hc) (by omega)) (fun hc=>?_))))))))))
   have hc:=of_decide_eq_false hc
   refine bQ (XF.thenN (aR (aR (aU (aQ (o':=4) dU rfl rfl rfl (aV isAgg56 rfl (aI (hS.at_ 0 rfl) rfl) rfl (bU underlying56 rfl rfl (aL rfl rfl (aT (XF.thenN (bR (eI (fun q l W=>∃ k:Nat,k≤vl∧q=vl - k∧l=[(1,.int .i64 m),(2,.pointer (some ⟨B1,0,none⟩)),(4,.pointer (some ⟨B2,0,none⟩)),(7,.int .i64 (vl:Int)),(8,.pointer (some ⟨B12,0,none⟩)),(33,.int .i64 (vl:Int)),(34,.int .i64 (k:Int))]∧St w [(B12,[.bool false,.int .i64 0,.int .u64 0,.slice none 0 0,.slice a9 vl c9,.slice none 0 0],59),(B2,[.int .i64 0,.int .i64 0,.slice none 0 0,.int .i64 0,.int .i64 0,.slice none 0 0,.slice none 0 0],47),(B1,[.slice va vl vc,.slice pa pl pc,.slice ea el ec,.slice xa xl xc,.int .i64 mn,.slice oa ol oc,.slice sa sl sc,.slice ta tl tc,.slice na nl nc,.slice ka kl kc],29)] [⟨.slice a9 vl c9,vl,eK (kH vl k),88,3⟩] [] W) (vl - 0) ([(1,_),(2,_),(4,_),(7,_),(8,_),(33,_),(34,_)]) ⟨rfl,rfl,rfl,rfl,rfl,rfl,rfl,trivial⟩ (⟨0,Nat.zero_le _,rfl,rfl,hS.clear.castG (by rw [sO])⟩) ?_))))))))))))
   clear hS
   rintro q l W ⟨k,hk,rfl,rfl,hS⟩
   refine aR (aU (dA rfl rfl rfl (aT (XF.thenN (aR (bJ rfl (fun hc=>?_) (fun hc=>?_)))))))
   ·have hc35:=of_decide_eq_true hc;clear hc
    have hk1:k < vl:=by omega
    have hrw8:W.ownsRow w.heap.size 88 3 (.slice a9 vl c9) vl (eK (kH vl k)):=hS.row 0 rfl
    obtain ⟨g9,c10,e10,_,_⟩:=hrw8.form (show 0 < vl by omega)
    clear hrw8
    injection e10 with e1 e2 e3
    subst e1;subst e3
    refine bQ (XF.thenN (aR (bR (aR (aU (aL rfl rfl (aK rfl rfl (aT (XF.thenN (aU (aQ (o':=4) dU rfl rfl rfl (aV isAgg56 rfl (aI (hS.at_ 0 rfl) rfl) rfl (aL rfl rfl (bL (us:=[(1,.int .i64 _)]) rfl (mY _) rfl (cP (j:=k) underlying56 sizeOf88 rfl rfl (rfl) (hk1) rfl rfl ?_)))))))))))))))
    refine lC (i:=0) (vs:=[.int .u64 0,.int .i64 1,.int .i64 0]) hS sizeOf88 rfl rfl rfl rfl (by show 0+k * 3+3≤vl * 3;omega) fun W88 hS=>?_
    have hS:=hS.castG (G':=[⟨.slice (some ⟨g9,0,none⟩) vl c9,vl,eK (kH vl (k+1)),88,3⟩]) (by rw [← tU hk1,← kB (by rw [tT (by omega)];exact hk1)];rfl)
    refine aT (XF.blkN (XF.thenN (aU (dH rfl rfl (IntWalk.i64_in _ (by omega)) rfl (aL rfl rfl (aT ?_))))))
    exact XF.round (vl - (k+1)) [(1,_),(2,_),(4,_),(7,_),(8,_),(33,_),(34,_)] (by omega) ⟨rfl,rfl,rfl,rfl,rfl,rfl,rfl,trivial⟩ ⟨k+1,by omega,rfl,rfl,hS.clear⟩
   ·have hc35:=of_decide_eq_false hc;clear hc
    have ekv:k=vl:=by omega
    rw [ekv,tV] at hS
    clear ekv hk
    refine cZ (XF.thenX (XF.thenX (XF.blkX (XF.thenN (aR ?_)))))
    obtain ⟨eb,eo,eM,rfl,heM,hecM⟩:=he.get (i:=kM) (by exact (List.getElem?_eq_some_iff.1 hyM).1)
    obtain rfl:yM=eM:=Option.some.inj (hyM.symm.trans heM)
    have kE:=(aM.agree hS.agree (Nat.zero_le _) hecM).1
    have hkl:kM < el:=by have:=(List.getElem?_eq_some_iff.1 hyM).1;omega
    refine zO (cs:=[_,_,_,_,_,_,_,_,_]) bG 9 8 hS rfl rfl rfl rfl zeroValue90 rfl (by kernel_rfl) (by kernel_rfl) (by kernel_rfl) (fun d hd=>by cases hd) (dC 1 rfl rfl (isV _) (aB _) (agV (li:=[(2,_)]) rfl (aP rfl) ⟨bB rfl,trivial⟩ (fun w hw=>aO (o':=2) dP rfl rfl) (aC rfl)) (dC 2 rfl rfl (isV _) (aB _) (agV (li:=[(43,_)]) rfl (aP rfl) ⟨aG 0 (aA rfl rfl rfl),trivial⟩ (fun w hw=>aS isAgg23 rfl ((aJ hw 0).cell (Nat.zero_le _) (aI (hS.at_ 2 rfl) rfl))) (aC rfl)) (dC 3 rfl rfl (isV _) (aB _) (agV (li:=[(2,_)]) rfl (aP rfl) ⟨bB rfl,trivial⟩ (fun w hw=>aO (o':=4) hH rfl rfl) (aC rfl)) (dC 4 rfl rfl (isV _) (aB _) (agV (li:=[(45,_)]) rfl (aP rfl) ⟨aG 2 (aA rfl rfl rfl),trivial⟩ (fun w hw=>aS isAgg3 rfl ((aJ hw 0).cell (Nat.zero_le _) (aI (hS.at_ 2 rfl) rfl))) (aC rfl)) (dC 5 rfl rfl (isV _) (aB _) (agV (li:=[(44,_),(46,_)]) rfl (aP rfl) ⟨aG 1 (aA rfl rfl rfl),aG 3 (aA rfl rfl rfl),trivial⟩ (fun w hw=>bH (j:=kM) underlying23 sizeOf3 rfl rfl (hkM) (hkl) rfl) (aC rfl)) (dC 6 rfl rfl (isV _) (aB _) (agV (li:=[(47,_)]) rfl (aP rfl) ⟨aG 4 (aA rfl rfl rfl),trivial⟩ (fun w hw=>aS isAgg3 rfl ((aJ hw 0).cell (Nat.zero_le _) (kE))) (aC rfl)) (dC 7 rfl rfl (isV _) (aB _) (agV (li:=[(8,_)]) rfl (aP rfl) ⟨bB rfl,trivial⟩ (fun w hw=>cJ (vs:=[_,_,_,_,_,_]) isAgg59 sizeOf59 rfl (aM.agree (aJ hw 0) (Nat.zero_le _) (aM.own (j:=0) (m:=6) (hS.at_ 0 rfl) rfl))) (aC rfl)) (dC 8 rfl rfl (isV _) (aB _) (agV (li:=[(48,_),(49,_)]) rfl (aP rfl) ⟨aG 5 (aA rfl rfl rfl),aG 6 (aA rfl rfl rfl),trivial⟩ (fun w hw=>eN (us:=[(0,.int .i64 _),(1,.int .i64 _),(2,.int .i64 _),(3,.agg (List.toArray [_,_,_,_,_,_]))]) rfl (iP _ _ _ _ _ _ _ _ _)) (aC rfl)) (nB 9 rfl rfl (qW ?_))))))))))
    intro B14 AB14 W14 hbR hA1 hA2 hBlo hBhi hS'
    clear hS;have hS:=hS';clear hS'
    refine dY (dY (dY (dY (dY (dY (dY (dY (aE (bV (bA (i:=0) (vs:=[_,_,_,_,_,_,_,_,_]) (cs':=[_,_,_,_,_,_,_,_,_]) (O':=[_,_,_,_]) hS sizeOf90 rfl rfl rfl rfl rfl rfl rfl fun W15 hS=>aT (XF.thenN (aR (qQ (ef:=12) (jy:=12) (ca:=sX (fun _=>[])) (ta:=fun _=>0) (Os:=mF _) (Gs:=kX _) (al:=[]) (k:=9) (ds:=[5,60]) bG rfl hS rfl (by kernel_rfl) (by kernel_rfl) rfl (by decide) rfl (fun _=>none) (.inr ⟨rfl,rfl,rfl⟩) rfl rfl (bD 1 rfl rfl (isV _) (fun hNo=>sgV [(1,_)] rfl rfl rfl rfl hNo (aP rfl) ⟨bB rfl,trivial⟩ (fun ev w he hw=>aW rfl) (aC rfl)) (bD 2 rfl rfl (isV _) (fun hNo=>sgV [(7,_)] rfl rfl rfl rfl hNo (aP rfl) ⟨bB rfl,trivial⟩ (fun ev w he hw=>aW rfl) (aC rfl)) ?_)))))))))))))))
    refine bD 3 rfl rfl (jI W15.heap.size (spM m vl)) (fun hNo=>nC [isV _,isV _] rfl rfl rfl rfl hNo jU (aP rfl) ⟨bO (aG 0 (aA rfl rfl rfl)),bO (aG 1 (aA rfl rfl rfl)),trivial⟩ (fun vs ev w' he hSt hlo hh=>by have e:=bN (us:=[_,_]) hh;subst e;exact xA hlo (nH m vl _)) (aC rfl)) ?_
    refine bD 4 rfl rfl (isV _) (fun hNo=>sgV [(2,_)] rfl rfl rfl rfl hNo (aP rfl) ⟨bB rfl,trivial⟩ (fun ev w he hw=>aO (o':=5) cA rfl rfl) (aC rfl)) (bD 5 rfl rfl (isV _) (fun hNo=>sgV [(54,_)] rfl rfl rfl rfl hNo (aP rfl) ⟨aG 3 (aA rfl rfl rfl),trivial⟩ (fun ev w he hw=>aS isAgg23 rfl ((aI (hw.at_ 3 rfl) rfl))) (aC rfl)) (bD 6 rfl rfl (isV _) (fun hNo=>sgV [(55,_)] rfl rfl rfl rfl hNo (aP rfl) ⟨aG 4 (aA rfl rfl rfl),trivial⟩ (fun ev w he hw=>eY underlying23 rfl) (aC rfl)) (bD 7 rfl rfl (dV W15.heap.size 1 3 _) (fun hNo=>iH (us:=[.int .i64 _]) rfl rfl rfl rfl hNo (aP rfl) underlying23 sizeOf3 zeroValue3 rfl rfl ⟨oN,trivial⟩ (fC _) (aC rfl)) (bD 8 rfl rfl (isV _) (fun hNo=>sgV [(10,_)] rfl rfl rfl rfl hNo (aP rfl) ⟨bB rfl,trivial⟩ (fun ev w he hw=>cJ (vs:=[_,_,_,_,_,_,_,_,_]) isAgg90 sizeOf90 rfl ((aM.own (j:=0) (m:=9) (hw.at_ 0 rfl) rfl))) (aC rfl)) (bD 9 rfl rfl (dV W15.heap.size 1 90 _) (fun hNo=>iH (us:=[.agg (List.toArray [_,_,_,_,_,_,_,_,_])]) rfl rfl rfl rfl hNo (aP rfl) underlying45 sizeOf90 zeroValue90 rfl rfl ⟨bO (aG 7 (aA rfl rfl rfl)),trivial⟩ (kI _ _ _ _ _ _ _ _ _) (aC rfl)) (gZ ?_))))))
    intro Bf16 y16 W16 Ks16 hsz16 hKs16 hS' hcov16
    clear hS;have hS:=hS'.castO (O':=[_,_,_,_]) rfl;clear hS'
    refine lR (L':=[AwS _ _ (isV _),AwS _ _ (isV _),AwS _ _ (jI W15.heap.size (spM m vl)),AwS _ _ (isV _),AwS _ _ (isV _),AwS _ _ (isV _),AwS _ _ (dV W15.heap.size 1 3 _),AwS _ _ (isV _),AwS _ _ (dV W15.heap.size 1 90 _)]) rfl (bT (bT ?_))
    refine dO ?_;rintro vS hA8;obtain ⟨sq,rfl,_⟩:=hA8.here;have HSp:eS w Ks16 (fun W2=>SIs W2 (spM m vl) sq):=fun h2 hk=>sN (hA8 _ (hcov16 h2 hk))
    refine bT (bT (bT ?_))
    refine dO ?_;rintro vF hF8;obtain ⟨BF,rfl,_,_⟩:=hF8.here;have HBF:eS w Ks16 (fun W2=>W2.heap[BF]?=some (.cells (List.toArray [.int .i64 1]) 3 (0,0))):=fun h2 hk=>gY (hF8 _ (hcov16 h2 hk))
    refine bT ?_
    refine dO ?_;rintro vT hT8;obtain ⟨BT,rfl,_,_⟩:=hT8.here;have HBT:=fun {O2:Own} {G2:Grows} {K2:List (Nat×World)} {W2:World} (h2:St w O2 G2 K2 W2) (hk:∀ q∈Ks16,q∈K2)=>gY (hT8 _ (hcov16 h2 hk))
    refine bV (bL (us:=[(0,.agg (List.toArray [_,_,_])),(1,.int .i64 _),(2,.int .i64 _),(3,.slice _ _ _),(4,.slice _ _ _)]) rfl (eW _ _ _ _ _ _ _ _ _ _ _) rfl (bA (i:=2) (vs:=[_,_,_,_,_,_,_]) (cs':=[_,_,_,_,_,_,_]) (O':=[_,_,_,_]) hS sizeOf47 rfl rfl rfl rfl rfl rfl rfl fun W17 hS=>aK rfl rfl (aT (XF.thenN (bP (XF.res (fE (vs:=[_,_,_,_,_,_,_]) results8 isAgg47 sizeOf47 rfl (aM.own (j:=0) (m:=7) (hS.at_ 2 rfl) rfl) rfl) ?_))))))
    have hrw9:W17.ownsRow w.heap.size 88 3 (.slice a9 vl c9) vl (eK (List.replicate vl ⟨0,1,0⟩)):=hS.row 0 rfl
    exact sP hce hso9.v hS hkM hyM (fun h2 hk=>⟨HSp h2 (fun q hq=>hk q (by simp [hq])),HBF h2 (fun q hq=>hk q (by simp [hq])),HBT h2 (fun q hq=>hk q (by simp [hq]))⟩) (f:={ cellsF a9 c9 (List.replicate vl ⟨0,1,0⟩) with cl:=vl }) (fun W2 h1 h2=>(by have e9:=Ba (n:=vl) hm3;rw [e9.1,e9.2];exact xC (lo:=w.heap.size) (by simp) (xD hso9.v) (fW hrw9 h2)))
  ·skip
   refine aU (aL rfl rfl (aL rfl rfl (bL (us:=[(2,.int .i64 _)]) rfl (hY _) rfl (cD (vs:=[_,_,_]) hS fI rfl (worthS1 m vl _ hso9.v hm2 hm3) rfl fun W18 hS=>bY (cs:=[_,_,_,_,_,_]) hS zeroValue59 rfl rfl fun B19 W19 hS=>bA (i:=0) (vs:=[_,_,_,_,_,_]) (cs':=[_,_,_,_,_,_]) (O':=[_,_,_]) hS sizeOf59 rfl rfl rfl rfl rfl rfl rfl fun W20 hS=>aT (XF.thenN (aR (aR (aU (aL rfl rfl (bW rfl rfl rfl (aT (XF.thenN (bJ rfl (fun hc=>absurd (of_decide_eq_true hc) (by exact hm2)) (fun hc=>?_))))))))))))))
   have hc:=of_decide_eq_false hc
   refine bQ (XF.thenN (aR (aR (aU (aQ (o':=4) dU rfl rfl rfl (aV isAgg56 rfl (aI (hS.at_ 0 rfl) rfl) rfl (bU underlying56 rfl rfl (aL rfl rfl (aT (XF.thenN (bR (eI (fun q l W=>q=0∧l=[(1,.int .i64 m),(2,.pointer (some ⟨B1,0,none⟩)),(4,.pointer (some ⟨B2,0,none⟩)),(7,.int .i64 (vl:Int)),(8,.pointer (some ⟨B19,0,none⟩)),(33,.int .i64 0),(34,.int .i64 0)]∧St w [(B19,[.bool false,.int .i64 0,.int .u64 0,.slice none 0 0,.slice none 0 0,.slice none 0 0],59),(B2,[.int .i64 0,.int .i64 0,.slice none 0 0,.int .i64 0,.int .i64 0,.slice none 0 0,.slice none 0 0],47),(B1,[.slice va vl vc,.slice pa pl pc,.slice ea el ec,.slice xa xl xc,.int .i64 mn,.slice oa ol oc,.slice sa sl sc,.slice ta tl tc,.slice na nl nc,.slice ka kl kc],29)] [] [] W) (0) ([(1,_),(2,_),(4,_),(7,_),(8,_),(33,_),(34,_)]) ⟨rfl,rfl,rfl,rfl,rfl,rfl,rfl,trivial⟩ (⟨rfl,rfl,hS.clear⟩) ?_))))))))))))
   clear hS
   rintro q l W ⟨rfl,rfl,hS⟩
   refine aR (aU (dA rfl rfl rfl (aT (XF.thenN (aR (bJ rfl (fun hc=>absurd (of_decide_eq_true hc) (by decide)) (fun hc=>?_)))))))
   have hc:=of_decide_eq_false hc
   refine cZ (XF.thenX (XF.thenX (XF.blkX (XF.thenN (aR ?_)))))
   obtain ⟨eb,eo,eM,rfl,heM,hecM⟩:=he.get (i:=kM) (by exact (List.getElem?_eq_some_iff.1 hyM).1)
   obtain rfl:yM=eM:=Option.some.inj (hyM.symm.trans heM)
   have kE:=(aM.agree hS.agree (Nat.zero_le _) hecM).1
   have hkl:kM < el:=by have:=(List.getElem?_eq_some_iff.1 hyM).1;omega
   refine zO (cs:=[_,_,_,_,_,_,_,_,_]) bG 9 8 hS rfl rfl rfl rfl zeroValue90 rfl (by kernel_rfl) (by kernel_rfl) (by kernel_rfl) (fun d hd=>by cases hd) (dC 1 rfl rfl (isV _) (aB _) (agV (li:=[(2,_)]) rfl (aP rfl) ⟨bB rfl,trivial⟩ (fun w hw=>aO (o':=2) dP rfl rfl) (aC rfl)) (dC 2 rfl rfl (isV _) (aB _) (agV (li:=[(43,_)]) rfl (aP rfl) ⟨aG 0 (aA rfl rfl rfl),trivial⟩ (fun w hw=>aS isAgg23 rfl ((aJ hw 0).cell (Nat.zero_le _) (aI (hS.at_ 2 rfl) rfl))) (aC rfl)) (dC 3 rfl rfl (isV _) (aB _) (agV (li:=[(2,_)]) rfl (aP rfl) ⟨bB rfl,trivial⟩ (fun w hw=>aO (o':=4) hH rfl rfl) (aC rfl)) (dC 4 rfl rfl (isV _) (aB _) (agV (li:=[(45,_)]) rfl (aP rfl) ⟨aG 2 (aA rfl rfl rfl),trivial⟩ (fun w hw=>aS isAgg3 rfl ((aJ hw 0).cell (Nat.zero_le _) (aI (hS.at_ 2 rfl) rfl))) (aC rfl)) (dC 5 rfl rfl (isV _) (aB _) (agV (li:=[(44,_),(46,_)]) rfl (aP rfl) ⟨aG 1 (aA rfl rfl rfl),aG 3 (aA rfl rfl rfl),trivial⟩ (fun w hw=>bH (j:=kM) underlying23 sizeOf3 rfl rfl (hkM) (hkl) rfl) (aC rfl)) (dC 6 rfl rfl (isV _) (aB _) (agV (li:=[(47,_)]) rfl (aP rfl) ⟨aG 4 (aA rfl rfl rfl),trivial⟩ (fun w hw=>aS isAgg3 rfl ((aJ hw 0).cell (Nat.zero_le _) (kE))) (aC rfl)) (dC 7 rfl rfl (isV _) (aB _) (agV (li:=[(8,_)]) rfl (aP rfl) ⟨bB rfl,trivial⟩ (fun w hw=>cJ (vs:=[_,_,_,_,_,_]) isAgg59 sizeOf59 rfl (aM.agree (aJ hw 0) (Nat.zero_le _) (aM.own (j:=0) (m:=6) (hS.at_ 0 rfl) rfl))) (aC rfl)) (dC 8 rfl rfl (isV _) (aB _) (agV (li:=[(48,_),(49,_)]) rfl (aP rfl) ⟨aG 5 (aA rfl rfl rfl),aG 6 (aA rfl rfl rfl),trivial⟩ (fun w hw=>eN (us:=[(0,.int .i64 _),(1,.int .i64 _),(2,.int .i64 _),(3,.agg (List.toArray [_,_,_,_,_,_]))]) rfl (iP _ _ _ _ _ _ _ _ _)) (aC rfl)) (nB 9 rfl rfl (qW ?_))))))))))
   intro B21 AB21 W21 hbR hA1 hA2 hBlo hBhi hS'
   clear hS;have hS:=hS';clear hS'
   refine dY (dY (dY (dY (dY (dY (dY (dY (aE (bV (bA (i:=0) (vs:=[_,_,_,_,_,_,_,_,_]) (cs':=[_,_,_,_,_,_,_,_,_]) (O':=[_,_,_,_]) hS sizeOf90 rfl rfl rfl rfl rfl rfl rfl fun W22 hS=>aT (XF.thenN (aR (qQ (ef:=12) (jy:=12) (ca:=sX (fun _=>[])) (ta:=fun _=>0) (Os:=mF _) (Gs:=kX _) (al:=[]) (k:=9) (ds:=[5,60]) bG rfl hS rfl (by kernel_rfl) (by kernel_rfl) rfl (by decide) rfl (fun _=>none) (.inr ⟨rfl,rfl,rfl⟩) rfl rfl (bD 1 rfl rfl (isV _) (fun hNo=>sgV [(1,_)] rfl rfl rfl rfl hNo (aP rfl) ⟨bB rfl,trivial⟩ (fun ev w he hw=>aW rfl) (aC rfl)) (bD 2 rfl rfl (isV _) (fun hNo=>sgV [(7,_)] rfl rfl rfl rfl hNo (aP rfl) ⟨bB rfl,trivial⟩ (fun ev w he hw=>aW rfl) (aC rfl)) ?_)))))))))))))))
   refine bD 3 rfl rfl (jI W22.heap.size (spM m vl)) (fun hNo=>nC [isV _,isV _] rfl rfl rfl rfl hNo jU (aP rfl) ⟨bO (aG 0 (aA rfl rfl rfl)),bO (aG 1 (aA rfl rfl rfl)),trivial⟩ (fun vs ev w' he hSt hlo hh=>by have e:=bN (us:=[_,_]) hh;subst e;exact xA hlo (nH m vl _)) (aC rfl)) ?_
   refine bD 4 rfl rfl (isV _) (fun hNo=>sgV [(2,_)] rfl rfl rfl rfl hNo (aP rfl) ⟨bB rfl,trivial⟩ (fun ev w he hw=>aO (o':=5) cA rfl rfl) (aC rfl)) (bD 5 rfl rfl (isV _) (fun hNo=>sgV [(54,_)] rfl rfl rfl rfl hNo (aP rfl) ⟨aG 3 (aA rfl rfl rfl),trivial⟩ (fun ev w he hw=>aS isAgg23 rfl ((aI (hw.at_ 3 rfl) rfl))) (aC rfl)) (bD 6 rfl rfl (isV _) (fun hNo=>sgV [(55,_)] rfl rfl rfl rfl hNo (aP rfl) ⟨aG 4 (aA rfl rfl rfl),trivial⟩ (fun ev w he hw=>eY underlying23 rfl) (aC rfl)) (bD 7 rfl rfl (dV W22.heap.size 1 3 _) (fun hNo=>iH (us:=[.int .i64 _]) rfl rfl rfl rfl hNo (aP rfl) underlying23 sizeOf3 zeroValue3 rfl rfl ⟨oN,trivial⟩ (fC _) (aC rfl)) (bD 8 rfl rfl (isV _) (fun hNo=>sgV [(10,_)] rfl rfl rfl rfl hNo (aP rfl) ⟨bB rfl,trivial⟩ (fun ev w he hw=>cJ (vs:=[_,_,_,_,_,_,_,_,_]) isAgg90 sizeOf90 rfl ((aM.own (j:=0) (m:=9) (hw.at_ 0 rfl) rfl))) (aC rfl)) (bD 9 rfl rfl (dV W22.heap.size 1 90 _) (fun hNo=>iH (us:=[.agg (List.toArray [_,_,_,_,_,_,_,_,_])]) rfl rfl rfl rfl hNo (aP rfl) underlying45 sizeOf90 zeroValue90 rfl rfl ⟨bO (aG 7 (aA rfl rfl rfl)),trivial⟩ (kI _ _ _ _ _ _ _ _ _) (aC rfl)) (gZ ?_))))))
   intro Bf23 y23 W23 Ks23 hsz23 hKs23 hS' hcov23
   clear hS;have hS:=hS'.castO (O':=[_,_,_,_]) rfl;clear hS'
   refine lR (L':=[AwS _ _ (isV _),AwS _ _ (isV _),AwS _ _ (jI W22.heap.size (spM m vl)),AwS _ _ (isV _),AwS _ _ (isV _),AwS _ _ (isV _),AwS _ _ (dV W22.heap.size 1 3 _),AwS _ _ (isV _),AwS _ _ (dV W22.heap.size 1 90 _)]) rfl (bT (bT ?_))
   refine dO ?_;rintro vS hA8;obtain ⟨sq,rfl,_⟩:=hA8.here;have HSp:eS w Ks23 (fun W2=>SIs W2 (spM m vl) sq):=fun h2 hk=>sN (hA8 _ (hcov23 h2 hk))
   refine bT (bT (bT ?_))
   refine dO ?_;rintro vF hF8;obtain ⟨BF,rfl,_,_⟩:=hF8.here;have HBF:eS w Ks23 (fun W2=>W2.heap[BF]?=some (.cells (List.toArray [.int .i64 1]) 3 (0,0))):=fun h2 hk=>gY (hF8 _ (hcov23 h2 hk))
   refine bT ?_
   refine dO ?_;rintro vT hT8;obtain ⟨BT,rfl,_,_⟩:=hT8.here;have HBT:=fun {O2:Own} {G2:Grows} {K2:List (Nat×World)} {W2:World} (h2:St w O2 G2 K2 W2) (hk:∀ q∈Ks23,q∈K2)=>gY (hT8 _ (hcov23 h2 hk))
   refine bV (bL (us:=[(0,.agg (List.toArray [_,_,_])),(1,.int .i64 _),(2,.int .i64 _),(3,.slice _ _ _),(4,.slice _ _ _)]) rfl (eW _ _ _ _ _ _ _ _ _ _ _) rfl (bA (i:=2) (vs:=[_,_,_,_,_,_,_]) (cs':=[_,_,_,_,_,_,_]) (O':=[_,_,_,_]) hS sizeOf47 rfl rfl rfl rfl rfl rfl rfl fun W24 hS=>aK rfl rfl (aT (XF.thenN (bP (XF.res (fE (vs:=[_,_,_,_,_,_,_]) results8 isAgg47 sizeOf47 rfl (aM.own (j:=0) (m:=7) (hS.at_ 2 rfl) rfl) rfl) ?_))))))
   exact sP hce hso9.v hS hkM hyM (fun h2 hk=>⟨HSp h2 (fun q hq=>hk q (by simp [hq])),HBF h2 (fun q hq=>hk q (by simp [hq])),HBT h2 (fun q hq=>hk q (by simp [hq]))⟩) (f:=gI 0) (fun W2 h1 h2=>(by have e9:=spM_1 (n:=vl) hm2 hm3;rw [e9.1,e9.2];exact gW.is (n:=0) jA))
theorem yZ (w:World) (b o:Nat):(Instr.fieldAt 35 (.pointer (some ⟨b,o,none⟩)) 0).run prog w = .ok (.pointer (some ⟨b,o+0,none⟩)) w:=by
 simp [Instr.fieldAt,run_underlying underlying35,Instr.sureAddr,go_sem,Addr.add_lit]
theorem zA (w:World) (b o:Nat):(Instr.fieldAt 35 (.pointer (some ⟨b,o,none⟩)) 1).run prog w = .ok (.pointer (some ⟨b,o+1,none⟩)) w:=by
 simp [Instr.fieldAt,run_underlying underlying35,Instr.sureAddr,go_sem,Addr.add_lit]
theorem zB:cL prog 33=true:=by kernel_rfl
theorem zC:cL prog 34=true:=by kernel_rfl
theorem oneR_own (m:Nat) (sa:Option Addr) (sc:Nat) (w:World) (hm:m≤64) :
  Calls prog 34 #[.agg #[.int .i64 4,.int .i64 (m:Int),.slice sa 0 sc]] w (fun e w'=>∃ v,e = .returned (.agg #[.bool false,.int .i64 0,.int .u64 0,.slice none 0 0,v,.slice none 0 0])∧qO m w v w'):=by
 refine cS (args:=[.agg #[.int .i64 4,.int .i64 (m:Int),.slice sa 0 sc]]) func34 rfl ntmps34 rfl ?_
 have hS:=St.start w
 refine aR (aU (cR (cs:=[_,_,_]) hS rfl rfl rfl fun B1 W1 hS=>bY (cs:=[_,_,_,_,_,_]) hS zeroValue59 rfl rfl fun B2 W2 hS=>aT (XF.thenN (aR (aU (bL (us:=[]) rfl (fG) rfl (bY (cs:=[_,_,_,_,_,_]) hS zeroValue59 rfl rfl fun B3 W3 hS=>bA (i:=0) (vs:=[_,_,_,_,_,_]) (cs':=[_,_,_,_,_,_]) (O':=[_,_,_]) hS sizeOf59 rfl rfl rfl rfl rfl rfl rfl fun W4 hS=>aT (XF.thenN (aR (aR (aU (aQ (o':=0) yZ rfl rfl rfl (aV isAgg32 rfl (aI (hS.at_ 2 rfl) rfl) rfl (aT (XF.thenN (bR (aR (aU (bW rfl rfl rfl (aK rfl rfl (aT (XF.thenN (bJ rfl (fun hc=>absurd (of_decide_eq_true hc) (by omega)) (fun hc=>?_))))))))))))))))))))))))
 have hc:=of_decide_eq_false hc
 refine aR (aU (bW rfl rfl rfl (aK rfl rfl (aT (XF.thenN (bJ rfl (fun hc=>?_) (fun hc=>absurd (of_decide_eq_false hc) (by omega))))))))
 have hc:=of_decide_eq_true hc
 refine aR (aU (aK rfl rfl (aT (XF.thenN (bR (eI (fun q l W=>∃ (k:Nat) (v:Value),k≤m∧q=m - k∧l=[(1,.pointer (some ⟨B1,0,none⟩)),(2,.pointer (some ⟨B2,0,none⟩)),(3,.pointer (some ⟨B3,0,none⟩)),(4,.int .i64 (k:Int))]∧St w [(B3,[.bool false,.int .i64 0,.int .u64 0,.slice none 0 0,v,.slice none 0 0],59),(B2,[.bool false,.int .i64 0,.int .u64 0,.slice none 0 0,.slice none 0 0,.slice none 0 0],59),(B1,[.int .i64 4,.int .i64 (m:Int),.slice sa 0 sc],35)] [⟨v,k,eK ((dK m).take k),88,3⟩] [] W) (m - 0) ([(1,_),(2,_),(3,_),(4,_)]) ⟨rfl,rfl,rfl,rfl,trivial⟩ (⟨0,.slice none 0 0,Nat.zero_le _,rfl,rfl,hS.clear.newG _ _⟩) ?_))))))
 clear hS
 rintro q l W ⟨k,v,hkm,rfl,rfl,hS⟩
 refine aR (aR (aU (aL rfl rfl (aQ (o':=1) zA rfl rfl rfl (aV isAgg3 rfl (aI (hS.at_ 2 rfl) rfl) rfl (dA rfl rfl rfl (aT (XF.thenN (bJ rfl (fun hc=>?_) (fun hc=>?_))))))))))
 ·have hc22:=of_decide_eq_true hc;clear hc
  have hk:k < m:=by omega
  refine bQ (XF.thenN (aR (bR ?_)))
  refine mE (p:=6) (k:=8) (gi:=0) (m:=1) bG hS rfl rfl (by kernel_rfl) (by kernel_rfl) (by kernel_rfl) (fun d hd=>by cases hd) rfl rfl underlying56 tR rfl rfl (by show 0 < 3;decide) rfl rfl rfl (by dsimp only;simp only [maxLen];omega) (by dsimp only;show _ * 24≤_;omega) ?_
  refine cN 1 rfl rfl (by kernel_rfl) (rgV (li:=[(3,_)]) rfl (aP rfl) ⟨bB rfl,trivial⟩ (fun w hw=>aO (o':=4) dU rfl rfl) (aC rfl)) (cN 2 rfl rfl (by kernel_rfl) (rgV (li:=[(25,_)]) rfl (aP rfl) ⟨aG 0 (aA rfl rfl rfl),trivial⟩ (fun w hw=>aS isAgg56 rfl ((aJ hw 0).cell (Nat.zero_le _) (aI (hS.at_ 0 rfl) rfl))) (aC rfl)) (cN 3 rfl rfl (by kernel_rfl) (rgV (li:=[(4,_)]) rfl (aP rfl) ⟨bB rfl,trivial⟩ (fun w hw=>aW rfl) (aC rfl)) ?_))
  refine cN 4 rfl rfl (by kernel_rfl) (cH [isV _] rfl oH (aP rfl) ⟨bO (aG 2 (aA rfl rfl rfl)),trivial⟩ (fun vs w' hb hh=>by have e:=bN (us:=[_]) hh;subst e;exact (jX (k:Int) k (2 ^ k) (by omega) rfl (by omega) _).mono fun e w2 h=>⟨_,h.1,rfl,h.2▸Below.refl _ _⟩) (aC rfl)) ?_
  refine cN 5 rfl rfl (by kernel_rfl) (rgV (li:=[(28,_)]) rfl (aP rfl) ⟨aG 3 (aA rfl rfl rfl),trivial⟩ (fun w hw=>eN (us:=[(0,.int .u64 _)]) rfl (mX _)) (aC rfl)) (iF 6 rfl rfl (by kernel_rfl) (dV W.heap.size 1 88 _) (eJ) (iD (us:=[.agg (List.toArray [_,_,_])]) rfl (aP rfl) underlying56 sizeOf88 zeroValue88 rfl rfl ⟨bO (aG 4 (aA rfl rfl rfl)),trivial⟩ (sJ _ _ _) (aC rfl)) (iG 7 rfl rfl (gF 8 rfl rfl (rgV (li:=[(3,_)]) rfl (aP rfl) ⟨bB rfl,trivial⟩ (fun w hw=>aO (o':=4) dU rfl rfl) (aC rfl)) (lgV (li:=[(3,_)]) rfl (aP rfl) ⟨bB rfl,trivial⟩ (fun w=>aO (o':=4) dU rfl rfl) (aC rfl) rfl) (iE ⟨_,_,aG 1 (aA rfl rfl rfl),aG 5 (aA rfl rfl rfl),gG rfl rfl,?_⟩))))
  intro A5 v5 news5 W5 hbR hqA5 hS'
  clear hS;have hS:=hS';clear hS'
  cases hqA5
  refine aE (aE (aE (aE (aE ?_))))
  refine dO ?_;intro _ _
  refine aE (aE ?_)
  obtain ⟨g9,c9,e9,_,_⟩:=(hS.row 0 rfl).form (by show 0 < k+1;omega)
  dsimp only at e9
  subst e9
  refine bV (eV (i:=0) (cs':=[_,_,_,_,_,_]) (O':=[_,_,_]) hS sizeOf56 rfl rfl (by first | rfl | exact (hS.oneV 0 _ rfl :) | exact (hS.oneV 1 _ rfl :) | exact (hS.oneV 2 _ rfl :) | exact (hS.oneV 3 _ rfl :)) rfl rfl rfl rfl fun W6 hS=>aT (XF.blkN (XF.thenN (aU (aL rfl rfl (dH rfl rfl (IntWalk.i64_in _ (by omega)) rfl (aK rfl rfl (aT ?_))))))))
  exact XF.round (m - (k+1)) [(1,_),(2,_),(3,_),(4,_)] (by omega) ⟨rfl,rfl,rfl,rfl,trivial⟩ ⟨k+1,_,by omega,rfl,rfl,by rw [pR hk,pQ];exact hS.clear⟩
 ·have hc22:=of_decide_eq_false hc;clear hc
  refine cZ (XF.thenX (XF.thenX (XF.blkX (XF.blkN (XF.thenN (aR ?_))))))
  obtain rfl:k=m:=by omega
  have ht:(dK k).take k=dK k:=List.take_of_length_le (by rw [dL];exact Nat.le_refl _)
  rw [ht] at hS
  obtain ⟨a9,c9,e9,hac9⟩:=dZ (hS.row 0 rfl)
  dsimp only at e9
  subst e9
  refine aU (bF (vs:=[_,_,_,_,_,_]) isAgg59 sizeOf59 rfl (aM.own (j:=0) (m:=6) (hS.at_ 0 rfl) rfl) rfl (bA (i:=1) (vs:=[_,_,_,_,_,_]) (cs':=[_,_,_,_,_,_]) (O':=[_,_,_]) hS sizeOf59 rfl rfl rfl rfl rfl rfl rfl fun W7 hS=>aT (XF.thenN (bP (XF.res (eC (vs:=[_,_,_,_,_,_]) results34 isAgg59 sizeOf59 rfl (aM.own (j:=0) (m:=6) (hS.at_ 1 rfl) rfl)) ?_)))))
  exact ⟨_,rfl,hS.row 0 rfl,hS.below⟩
theorem D5 (m:Nat) (sf:SF) (w:World) (hs:SIs w (.one 4 m) sf) (hm:m≤64) :
  Calls prog 23 #[sf.val] w (fun e w'=>∃ v,e = .returned (.tuple #[.agg #[.bool false,.int .i64 0,.int .u64 0,.slice none 0 0,v,.slice none 0 0],.int .i64 0])∧qO m w v w'):=by
 refine cS (args:=[sf.val]) func23 rfl ntmps23 rfl ?_
 have hS:=St.start w
 have hok:(PS.one 4 (m:Int)).ok:=by have h:=uX (m:=3) (n:=m) hm;rw [(Ba (n:=m) rfl).1] at h;exact h
 obtain ⟨sa,sc,hs9⟩:=id hs
 refine aR (aU (cR (cs:=[_,_,_]) hS rfl rfl rfl fun B1 W1 hS=>bY (cs:=[_,_,_,_,_,_]) hS zeroValue59 rfl rfl fun B2 W2 hS=>aK rfl rfl (aT (XF.thenN (aR (aR (aU (bF (vs:=[_,_,_]) isAgg35 sizeOf35 rfl (aM.own (j:=0) (m:=3) (hS.at_ 1 rfl) rfl) rfl (cD (vs:=[_]) hS zB rfl (tP (hs.below hS.below) hok) rfl fun W3 hS=>cW rfl rfl rfl (aT (XF.thenN (bJ rfl (fun hc=>absurd (of_decide_eq_true hc) (by omega)) (fun hc=>?_)))))))))))))
 have hc:=of_decide_eq_false hc
 refine bQ (XF.thenN (aR (aU (bF (vs:=[_,_,_]) isAgg35 sizeOf35 rfl (aM.own (j:=0) (m:=3) (hS.at_ 1 rfl) rfl) rfl ?_))))
 have hsz:=hS.below.size
 refine cV (vs:=[_]) hS zC rfl ((by rw [hs9];exact oneR_own m sa sc _ hm:Calls prog 34 #[sf.val] _ (fun e w'=>∃ v,e = .returned (.agg #[.bool false,.int .i64 0,.int .u64 0,.slice none 0 0,v,.slice none 0 0])∧qO m _ v w'))) rfl ?_
 rintro e W4 ⟨v1,rfl,hv1⟩
 have hb:=hv1.2
 refine ⟨_,rfl,hb,fun hS'=>?_⟩
 clear hS;have hS:=hS';clear hS'
 obtain ⟨_,a8,c8,rfl,hr9,hf9⟩:=eQ hv1.1
 refine bA (i:=0) (vs:=[_,_,_,_,_,_]) (cs':=[_,_,_,_,_,_]) (O':=[_,_]) hS sizeOf59 rfl rfl rfl rfl rfl rfl rfl fun W5 hS=>aK rfl rfl (aT (XF.thenN (bP (XF.res (fE (vs:=[_,_,_,_,_,_]) results23 isAgg59 sizeOf59 rfl (aM.own (j:=0) (m:=6) (hS.at_ 0 rfl) rfl) rfl) ?_))))
 exact ⟨_,rfl,pY hv1 hsz (hS.since 0 rfl) hS.below⟩
end Go.Proofs.Ytfnmjcgfagldkaa
