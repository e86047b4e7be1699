import Derived.Test.YtofaiolkihcfmaaGreatDoorLrC
set_option maxRecDepth 100000
set_option maxHeartbeats 4000000
set_option linter.unusedVariables false
set_option linter.unusedSimpArgs false
set_option linter.unusedSectionVars false
set_option linter.unnecessarySimpa false
namespace Go.Proofs.YtofaiolkihcfmaaGreatDoor
open Go.Proofs.Tryz
section
open Go.RowKit
theorem gS {r:Bool} {C:Prop} (hr:r=true↔C) (h:¬ C):false=r:=by
 cases r
 ·rfl
 ·exact absurd (hr.1 rfl) h
theorem Ij {r:Bool} {C:Prop} (hr:r=true↔C) (h:C):true=r:=(hr.2 h).symm
theorem Mz (az:Bool) (ac:Int) (ag:Nat) (ara:Option Addr) (arl arc:Nat) (arows:List Nat) (aca:Option Addr) (acl acc:Nat) (acells:List Cl) (apa:Option Addr) (apc:Nat)(bz:Bool) (bc:Int) (bg:Nat) (bra:Option Addr) (brl brc:Nat) (brows:List Nat) (bca:Option Addr) (bcl bcc:Nat) (bcells:List Cl) (bpa:Option Addr) (bpc:Nat)(w:World) (hra:fP w ara (u64s arows)) (hla:arows.length=arl) (hma:arl≤100) (hca:fN w aca acells) (hka:acells.length=acl) (hna:acl≤100)(hrb:fP w bra (u64s brows)) (hlb:brows.length=brl) (hmb:brl≤100) (hcb:fN w bca bcells) (hkb:bcells.length=bcl) (hnb:bcl≤100)(r:Bool) (hr:r=true↔(az=bz∧ac=bc∧ag=bg∧arows=brows∧acells=bcells)) :
  Calls prog 11 #[.agg #[.bool az,.int .i64 ac,.int .u64 (ag:Int),.slice ara arl arc,.slice aca acl acc,.slice apa 0 apc],.agg #[.bool bz,.int .i64 bc,.int .u64 (bg:Int),.slice bra brl brc,.slice bca bcl bcc,.slice bpa 0 bpc]] w (fun e w'=>e = .returned (.bool r)∧Below w.heap.size w w'):=by
 refine cH (args:=[.agg #[.bool az,.int .i64 ac,.int .u64 (ag:Int),.slice ara arl arc,.slice aca acl acc,.slice apa 0 apc],.agg #[.bool bz,.int .i64 bc,.int .u64 (bg:Int),.slice bra brl brc,.slice bca bcl bcc,.slice bpa 0 bpc]]) func11 rfl ntmps11 rfl ?_
 have hS:=St.start w
 refine aL (aR (bK (cs:=[_,_,_,_,_,_]) hS rfl rfl rfl fun B1 W1 hS=>bK (cs:=[_,_,_,_,_,_]) hS rfl rfl rfl fun B2 W2 hS=>aA rfl rfl (aQ (XF.thenN (aL (aL (aR (aP (o':=0) dL rfl rfl rfl (aT isAgg4 rfl (aK (hS.at_ 1 rfl) rfl) rfl (aP (o':=0) dL rfl rfl rfl (aT isAgg4 rfl (aK (hS.at_ 0 rfl) rfl) rfl (Ce underlying4 rfl rfl rfl (aG rfl rfl (bS (d:=12) rfl (fun hc=>?_) (fun hc=>?_)))))))))))))))
 ·have hg12:=hc;clear hc
  refine aF (d:=12) rfl rfl rfl rfl (aF (d:=12) rfl rfl rfl rfl (aF (d:=12) rfl rfl rfl rfl (aF (d:=12) rfl rfl rfl rfl (aF (d:=12) rfl rfl rfl rfl (bC rfl rfl rfl (aG rfl rfl (aF (d:=19) rfl rfl rfl rfl (aF (d:=19) rfl rfl rfl rfl (aF (d:=19) rfl rfl rfl rfl (aF (d:=19) rfl rfl rfl rfl (aF (d:=19) rfl rfl rfl rfl (aF (d:=19) rfl rfl rfl rfl (bC rfl rfl rfl (aG rfl rfl (aF (d:=27) rfl rfl rfl rfl (aF (d:=27) rfl rfl rfl rfl (aF (d:=27) rfl rfl rfl rfl (aF (d:=27) rfl rfl rfl rfl (aF (d:=27) rfl rfl rfl rfl (aF (d:=27) rfl rfl rfl rfl ?_))))))))))))))))))))
  refine aF (d:=27) rfl rfl rfl rfl (bC rfl rfl rfl (aG rfl rfl (aF (d:=36) rfl rfl rfl rfl (aF (d:=36) rfl rfl rfl rfl (aF (d:=36) rfl rfl rfl rfl (aF (d:=36) rfl rfl rfl rfl (aF (d:=36) rfl rfl rfl rfl (aF (d:=36) rfl rfl rfl rfl (aF (d:=36) rfl rfl rfl rfl (bC rfl rfl rfl (aQ (XF.thenN (dJ rfl (aL (aR (aA rfl rfl (aQ (XF.thenN (bJ (XF.thenR (XF.res (cJ results11 rfl) ?_)))))))))))))))))))))
  exact ⟨bY (gS hr (fun h=>by have h1:=h.1;subst h1;simp at hg12)),hS.below⟩
 ·have hg12:=hc;clear hc
  refine aC (d:=12) rfl rfl (aP (o':=1) eL rfl rfl rfl (aC (d:=12) rfl rfl (aT isAgg3 rfl (aK (hS.at_ 1 rfl) rfl) rfl (aC (d:=12) rfl rfl (aP (o':=1) eL rfl rfl rfl (aC (d:=12) rfl rfl (aT isAgg3 rfl (aK (hS.at_ 0 rfl) rfl) rfl (aC (d:=12) rfl rfl (dA rfl rfl rfl (bV rfl rfl rfl (aG rfl rfl (bS (d:=19) rfl (fun hc=>?_) (fun hc=>?_)))))))))))))
  ·have hg19:=of_decide_eq_true hc;clear hc
   refine aF (d:=19) rfl rfl rfl rfl (aF (d:=19) rfl rfl rfl rfl (aF (d:=19) rfl rfl rfl rfl (aF (d:=19) rfl rfl rfl rfl (aF (d:=19) rfl rfl rfl rfl (aF (d:=19) rfl rfl rfl rfl (bC rfl rfl rfl (aG rfl rfl (aF (d:=27) rfl rfl rfl rfl (aF (d:=27) rfl rfl rfl rfl (aF (d:=27) rfl rfl rfl rfl (aF (d:=27) rfl rfl rfl rfl (aF (d:=27) rfl rfl rfl rfl (aF (d:=27) rfl rfl rfl rfl (aF (d:=27) rfl rfl rfl rfl (bC rfl rfl rfl (aG rfl rfl (aF (d:=36) rfl rfl rfl rfl (aF (d:=36) rfl rfl rfl rfl (aF (d:=36) rfl rfl rfl rfl (aF (d:=36) rfl rfl rfl rfl ?_))))))))))))))))))))
   refine aF (d:=36) rfl rfl rfl rfl (aF (d:=36) rfl rfl rfl rfl (aF (d:=36) rfl rfl rfl rfl (bC rfl rfl rfl (aQ (XF.thenN (dJ rfl (aL (aR (aA rfl rfl (aQ (XF.thenN (bJ (XF.thenR (XF.res (cJ results11 rfl) ?_))))))))))))))
   exact ⟨bY (gS hr (fun h=>hg19 h.2.1)),hS.below⟩
  ·have hg19:=of_decide_eq_false hc;clear hc
   refine aC (d:=19) rfl rfl (aP (o':=2) dY rfl rfl rfl (aC (d:=19) rfl rfl (aS (vs:=[_,_]) isAgg49 sizeOf49 rfl (aE.own (j:=2) (m:=2) (hS.at_ 1 rfl) rfl) rfl (aC (d:=19) rfl rfl (aP (o':=2) dY rfl rfl rfl (aC (d:=19) rfl rfl (aS (vs:=[_,_]) isAgg49 sizeOf49 rfl (aE.own (j:=2) (m:=2) (hS.at_ 0 rfl) rfl) rfl (aC (d:=19) rfl rfl (cF (vs:=[_,_]) hS Cq rfl (wT _ _ _ _ _ _ _ _ _ (by omega) (by omega) (fP.below hra hS.below) (fP.below hrb hS.below) _ rfl _ _ hla hlb) rfl fun W3 hS=>aC (d:=19) rfl rfl (eA rfl rfl (bV rfl rfl rfl (aG rfl rfl (bS (d:=27) rfl (fun hc=>?_) (fun hc=>?_))))))))))))))
   ·have hg27:=hc;clear hc
    refine aF (d:=27) rfl rfl rfl rfl (aF (d:=27) rfl rfl rfl rfl (aF (d:=27) rfl rfl rfl rfl (aF (d:=27) rfl rfl rfl rfl (aF (d:=27) rfl rfl rfl rfl (aF (d:=27) rfl rfl rfl rfl (aF (d:=27) rfl rfl rfl rfl (bC rfl rfl rfl (aG rfl rfl (aF (d:=36) rfl rfl rfl rfl (aF (d:=36) rfl rfl rfl rfl (aF (d:=36) rfl rfl rfl rfl (aF (d:=36) rfl rfl rfl rfl (aF (d:=36) rfl rfl rfl rfl (aF (d:=36) rfl rfl rfl rfl (aF (d:=36) rfl rfl rfl rfl (bC rfl rfl rfl (aQ (XF.thenN (dJ rfl (aL (aR (aA rfl rfl ?_))))))))))))))))))))))
    refine aQ (XF.thenN (bJ (XF.thenR (XF.res (cJ results11 rfl) ?_))))
    exact ⟨bY (gS hr (fun h=>by obtain ⟨_,_,h3,h4,_⟩:=h;subst h3;subst h4;rw [zU] at hg27;cases hg27)),hS.below⟩
   ·have hg27:=hc;clear hc
    refine aC (d:=27) rfl rfl (aP (o':=4) cZ rfl rfl rfl (aC (d:=27) rfl rfl (aT isAgg50 rfl (aK (hS.at_ 1 rfl) rfl) rfl (aC (d:=27) rfl rfl (bX underlying50 rfl rfl (aC (d:=27) rfl rfl (aP (o':=4) cZ rfl rfl rfl (aC (d:=27) rfl rfl (aT isAgg50 rfl (aK (hS.at_ 0 rfl) rfl) rfl (aC (d:=27) rfl rfl (bX underlying50 rfl rfl (aC (d:=27) rfl rfl (dA rfl rfl rfl (bV rfl rfl rfl (aG rfl rfl (bS (d:=36) rfl (fun hc=>?_) (fun hc=>?_)))))))))))))))))
    ·have hg36:=of_decide_eq_true hc;clear hc
     refine aF (d:=36) rfl rfl rfl rfl (aF (d:=36) rfl rfl rfl rfl (aF (d:=36) rfl rfl rfl rfl (aF (d:=36) rfl rfl rfl rfl (aF (d:=36) rfl rfl rfl rfl (aF (d:=36) rfl rfl rfl rfl (aF (d:=36) rfl rfl rfl rfl (bC rfl rfl rfl (aQ (XF.thenN (dJ rfl (aL (aR (aA rfl rfl (aQ (XF.thenN (bJ (XF.thenR (XF.res (cJ results11 rfl) ?_))))))))))))))))))
     exact ⟨bY (gS hr (fun h=>by have h5:=h.2.2.2.2;subst h5;omega)),hS.below⟩
    ·have hg36:=of_decide_eq_false hc;clear hc
     have hz:az=bz:=by simpa using hg12
     have hcc:ac=bc:=by omega
     have hff:ag=bg∧arows=brows:=by simpa [qV] using hg27
     have hcl:acl=bcl:=by omega
     refine aC (d:=36) rfl rfl (aP (o':=5) cP rfl rfl rfl (aC (d:=36) rfl rfl (aT isAgg51 rfl (aK (hS.at_ 1 rfl) rfl) rfl (aC (d:=36) rfl rfl (bX underlying51 rfl rfl (aC (d:=36) rfl rfl (aP (o':=5) cP rfl rfl rfl (aC (d:=36) rfl rfl (aT isAgg51 rfl (aK (hS.at_ 0 rfl) rfl) rfl (aC (d:=36) rfl rfl (bX underlying51 rfl rfl (aC (d:=36) rfl rfl (dA rfl rfl rfl (bV rfl rfl rfl (aQ (XF.thenN (aZ rfl (fun hc=>absurd (of_decide_eq_true hc) (by omega)) (fun hc=>?_))))))))))))))))))
     have hc:=of_decide_eq_false hc
     refine bG (XF.thenN (aL (aL (aR (aA rfl rfl (aQ (XF.thenN (bM (dK (fun q l W=>∃ i:Nat,i≤acl∧q=acl - i∧l=[(2,.pointer (some ⟨B1,0,none⟩)),(3,.pointer (some ⟨B2,0,none⟩)),(5,.int .i64 (i:Int))]∧acells.take i=bcells.take i∧St w [(B2,[.bool bz,.int .i64 bc,.int .u64 (bg:Int),.slice bra brl brc,.slice bca bcl bcc,.slice bpa 0 bpc],53),(B1,[.bool az,.int .i64 ac,.int .u64 (ag:Int),.slice ara arl arc,.slice aca acl acc,.slice apa 0 apc],53)] [] [] W) (acl - 0) ([(2,_),(3,_),(5,_)]) ⟨rfl,rfl,rfl,trivial⟩ (⟨0,Nat.zero_le _,rfl,rfl,rfl,hS.clear⟩) ?_)))))))))
     clear hS
     rintro q l W ⟨i,hi,rfl,rfl,hall,hS⟩
     refine aL (aL (aR (aG rfl rfl (aP (o':=4) cZ rfl rfl rfl (aT isAgg50 rfl (aK (hS.at_ 1 rfl) rfl) rfl (bX underlying50 rfl rfl (cN rfl rfl rfl (aQ (XF.thenN (aZ rfl (fun hc=>?_) (fun hc=>?_)))))))))))
     ·have hc49:=of_decide_eq_true hc;clear hc
      have hk:i < acl:=by omega
      obtain ⟨b1,o1,x,hx1,hx2,_,x0,x1,x2⟩:=hca.at_ (k:=i) (by omega)
      obtain ⟨b2,o2,y,hy1,hy2,_,y0,y1,y2⟩:=hcb.at_ (k:=i) (by omega)
      subst hx1;subst hy1
      have k1:aE W b1 (o1+i * 3) [.int .u64 (x.f:Int),.int .i64 x.k,.int .i64 x.v]:=aE.agree hS.agree (Nat.zero_le _) ⟨x0,x1,x2,trivial⟩
      have k2:aE W b2 (o2+i * 3) [.int .u64 (y.f:Int),.int .i64 y.k,.int .i64 y.v]:=aE.agree hS.agree (Nat.zero_le _) ⟨y0,y1,y2,trivial⟩
      refine bG (XF.thenN (aL (bM (aL (iE (m:=11) cE hS (by kernel_rfl) (by kernel_rfl) rfl (cC 1 rfl 2 rfl rfl (fun w hw=>aW (o':=4) cZ rfl rfl) rfl (aX 2 rfl 52 0 rfl rfl rfl (fun w hw=>bA isAgg50 rfl ((aN hw 0).cell (Nat.zero_le _) (aK (hS.at_ 1 rfl) rfl))) rfl (cC 3 rfl 5 rfl rfl (fun w hw=>bE rfl) rfl (aM 4 rfl (isV _) (aJ _) (rgV (li:=[(53,_),(54,_)]) rfl (aU rfl) ⟨aO 1 (aB rfl rfl rfl),aO 2 (aB rfl rfl rfl),trivial⟩ (fun w hw=>bB  underlying50 sizeOf92 rfl rfl rfl (by omega) rfl) (aH rfl)) (aX 5 rfl 55 3 rfl rfl rfl (fun w hw=>bF (vs:=[_,_,_]) isAgg92 sizeOf92 rfl (aE.agree (aN hw 0) (Nat.zero_le _) (by assumption))) rfl (cC 6 rfl 3 rfl rfl (fun w hw=>aW (o':=4) cZ rfl rfl) rfl (aX 7 rfl 57 5 rfl rfl rfl (fun w hw=>bA isAgg50 rfl ((aN hw 0).cell (Nat.zero_le _) (aK (hS.at_ 0 rfl) rfl))) rfl (cC 8 rfl 5 rfl rfl (fun w hw=>bE rfl) rfl (aM 9 rfl (isV _) (aJ _) (rgV (li:=[(58,_),(59,_)]) rfl (aU rfl) ⟨aO 6 (aB rfl rfl rfl),aO 7 (aB rfl rfl rfl),trivial⟩ (fun w hw=>bB  underlying50 sizeOf92 rfl rfl rfl (by omega) rfl) (aH rfl)) (aX 10 rfl 60 8 rfl rfl rfl (fun w hw=>bF (vs:=[_,_,_]) isAgg92 sizeOf92 rfl (aE.agree (aN hw 0) (Nat.zero_le _) (by assumption))) rfl (aM 11 rfl (isV _) (aJ _) (rgV (li:=[(56,_),(61,_)]) rfl (aU rfl) ⟨aO 4 (aB rfl rfl rfl),aO 9 (aB rfl rfl rfl),trivial⟩ (fun w hw=>J2 rfl rfl (run_eqGuard_agg _ _ _ _ _ _ _ (by kernel_rfl)) (Oy x y _ rfl w)) (aH rfl)) (dC ?_)))))))))))))))))
      intro W4 hbR hS'
      clear hS;have hS:=hS';clear hS'
      refine aI (aI (aI (aI (aI (aI (aI (aI (aI (aI (aI (cL (XF.thenN (aZ rfl (fun hc=>?_) (fun hc=>?_))))))))))))))
      ·have hc62:=hc;clear hc
       refine aL (aR (aA rfl rfl (aQ (XF.thenN (bJ (XF.blkR (XF.thenR (XF.thenR (XF.blkR (XF.thenR (XF.res (cJ results11 rfl) ?_)))))))))))
       exact ⟨bY (gS hr (fun h=>by have h5:=h.2.2.2.2;subst h5;rw [hx2] at hy2;cases hy2;simp [jQ] at hc62)),hS.below⟩
      ·have hc62:=hc;clear hc
       have hxy:x=y:=by
        obtain ⟨xf,xk,xv⟩:=x
        obtain ⟨yf,yk,yv⟩:=y
        simp [jQ] at hc62
        simp [hc62]
       subst hxy
       refine bG (XF.blkN (XF.thenN (aR (aG rfl rfl (cR rfl rfl (IntWalk.i64_in _ (by omega)) rfl (aA rfl rfl (aQ ?_)))))))
       exact XF.round (acl - (i+1)) [(2,_),(3,_),(5,_)] (by omega) ⟨rfl,rfl,rfl,trivial⟩ ⟨i+1,by omega,rfl,rfl,by rw [List.take_add_one,List.take_add_one,hx2,hy2,hall],hS.clear⟩
     ·have hc49:=of_decide_eq_false hc;clear hc
      have hce:acells=bcells:=by
       rw [List.take_of_length_le (by omega),List.take_of_length_le (by omega)] at hall
       exact hall
      refine dE (XF.thenX (XF.thenX (XF.blkX (XF.thenN (aL (aL (aR (aA rfl rfl (aQ (XF.thenN (bM (dK (fun q l W=>l=[(2,.pointer (some ⟨B1,0,none⟩)),(3,.pointer (some ⟨B2,0,none⟩)),(6,.int .i64 0)]∧St w [(B2,[.bool bz,.int .i64 bc,.int .u64 (bg:Int),.slice bra brl brc,.slice bca bcl bcc,.slice bpa 0 bpc],53),(B1,[.bool az,.int .i64 ac,.int .u64 (ag:Int),.slice ara arl arc,.slice aca acl acc,.slice apa 0 apc],53)] [] [] W) (0) ([(2,_),(3,_),(6,_)]) ⟨rfl,rfl,rfl,trivial⟩ (⟨rfl,hS⟩) ?_))))))))))))
      clear hS
      rintro q l W ⟨rfl,hS⟩
      refine aL (aL (aR (aG rfl rfl (aP (o':=5) cP rfl rfl rfl (aT isAgg51 rfl (aK (hS.at_ 1 rfl) rfl) rfl (bX underlying51 rfl rfl (cN rfl rfl rfl (aQ (XF.thenN (aZ rfl (fun hc=>absurd (of_decide_eq_true hc) (by omega)) (fun hc=>?_)))))))))))
      have hc:=of_decide_eq_false hc
      refine dE (XF.thenX (XF.thenX (XF.blkX (XF.thenN (aL (aR (aA rfl rfl (aQ (XF.thenN (bJ (XF.res (cJ results11 rfl) ?_)))))))))))
      exact ⟨bY (Ij hr ⟨hz,hcc,hff.1,hff.2,hce⟩),hS.below⟩
theorem pJ {w:World} {t n:Int} {f g:WF} {x y:PF} (hx:PIs w t n f x) (hy:PIs w t n g y) (r:Bool) (hr:r=true↔x=y):Calls prog 11 #[f.val,g.val] w fun e w'=>e = .returned (.bool r)∧Below w.heap.size w w':=by
 have h1:=hx.rows64 (l:=0);have h2:=hy.rows64 (l:=0)
 have e1:=hx.pl;have e2:=hy.pl
 have a1:=hx.at_;have a2:=hy.at_
 obtain rfl:=hx.pf
 obtain rfl:=hy.pf
 obtain ⟨az,ac,ag,ara,arl,arc,arows,aca,acl,acc,acells,apa,apl,apc⟩:=f
 obtain ⟨bz,bc,bg,bra,brl,brc,brows,bca,bcl,bcc,bcells,bpa,bpl,bpc⟩:=g
 dsimp only at e1 e2 h1 h2
 subst e1;subst e2
 refine Mz _ _ _ _ _ _ _ _ _ _ _ _ _ _ _ _ _ _ _ _ _ _ _ _ _ _ w a1.rows a1.rl (by dsimp only;omega) a1.cells a1.cl (by dsimp only;omega) a2.rows a2.rl (by dsimp only;omega) a2.cells a2.cl (by dsimp only;omega) r ?_
 rw [hr]
 simp [WF.pf]
theorem M0 (t n u m:Int) (fra fca:Option Addr) (frc fcc fpc fb fo:Nat) (f1 f2:WF)(gra gca:Option Addr) (grc gcc gpc gb go:Nat) (g1 g2:WF)(x1 x2 y1 y2:PF) (w:World) (hf6:W6 w fb fo f1) (hf7:W6 w fb (fo+6) f2) (hg6:W6 w gb go g1) (hg7:W6 w gb (go+6) g2) (hx1:PIs w t n f1 x1) (hx2:PIs w u m f2 x2) (hy1:PIs w t n g1 y1) (hy2:PIs w u m g2 y2) (r r1 r2:Bool) (hr:r=true↔(x1=y1∧x2=y2)) (hr1:r1=true↔x1=y1) (hr2:r2=true↔x2=y2) :
  Calls prog 11 #[.agg #[.bool false,.int .i64 0,.int .u64 0,.slice fra 0 frc,.slice fca 0 fcc,.slice (some ⟨fb,fo,none⟩) 2 fpc],.agg #[.bool false,.int .i64 0,.int .u64 0,.slice gra 0 grc,.slice gca 0 gcc,.slice (some ⟨gb,go,none⟩) 2 gpc]] w (fun e w'=>e = .returned (.bool r)∧Below w.heap.size w w'):=by
 refine cH (args:=[.agg #[.bool false,.int .i64 0,.int .u64 0,.slice fra 0 frc,.slice fca 0 fcc,.slice (some ⟨fb,fo,none⟩) 2 fpc],.agg #[.bool false,.int .i64 0,.int .u64 0,.slice gra 0 grc,.slice gca 0 gcc,.slice (some ⟨gb,go,none⟩) 2 gpc]]) func11 rfl ntmps11 rfl ?_
 have hS:=St.start w
 refine aL (aR (bK (cs:=[_,_,_,_,_,_]) hS rfl rfl rfl fun B1 W1 hS=>bK (cs:=[_,_,_,_,_,_]) hS rfl rfl rfl fun B2 W2 hS=>aA rfl rfl (aQ (XF.thenN (aL (aL (aR (aP (o':=0) dL rfl rfl rfl (aT isAgg4 rfl (aK (hS.at_ 1 rfl) rfl) rfl (aP (o':=0) dL rfl rfl rfl (aT isAgg4 rfl (aK (hS.at_ 0 rfl) rfl) rfl (Ce underlying4 rfl rfl rfl (aG rfl rfl (bS (d:=12) rfl (fun hc=>absurd hc (by decide)) (fun hc=>?_)))))))))))))))
 skip
 refine aC (d:=12) rfl rfl (aP (o':=1) eL rfl rfl rfl (aC (d:=12) rfl rfl (aT isAgg3 rfl (aK (hS.at_ 1 rfl) rfl) rfl (aC (d:=12) rfl rfl (aP (o':=1) eL rfl rfl rfl (aC (d:=12) rfl rfl (aT isAgg3 rfl (aK (hS.at_ 0 rfl) rfl) rfl (aC (d:=12) rfl rfl (dA rfl rfl rfl (bV rfl rfl rfl (aG rfl rfl (bS (d:=19) rfl (fun hc=>absurd (of_decide_eq_true hc) (by omega)) (fun hc=>?_)))))))))))))
 have hc:=of_decide_eq_false hc
 refine aC (d:=19) rfl rfl (aP (o':=2) dY rfl rfl rfl (aC (d:=19) rfl rfl (aS (vs:=[_,_]) isAgg49 sizeOf49 rfl (aE.own (j:=2) (m:=2) (hS.at_ 1 rfl) rfl) rfl (aC (d:=19) rfl rfl (aP (o':=2) dY rfl rfl rfl (aC (d:=19) rfl rfl (aS (vs:=[_,_]) isAgg49 sizeOf49 rfl (aE.own (j:=2) (m:=2) (hS.at_ 0 rfl) rfl) rfl (aC (d:=19) rfl rfl (cF (vs:=[_,_]) hS Cq rfl (wT _ _ _ _ 0 0 [] [] _ (by simp) (by simp) (.inl rfl) (.inl rfl) true rfl _ _ rfl rfl) rfl fun W3 hS=>aC (d:=19) rfl rfl (eA rfl rfl (bV rfl rfl rfl (aG rfl rfl (bS (d:=27) rfl (fun hc=>absurd hc (by decide)) (fun hc=>?_))))))))))))))
 skip
 refine aC (d:=27) rfl rfl (aP (o':=4) cZ rfl rfl rfl (aC (d:=27) rfl rfl (aT isAgg50 rfl (aK (hS.at_ 1 rfl) rfl) rfl (aC (d:=27) rfl rfl (bX underlying50 rfl rfl (aC (d:=27) rfl rfl (aP (o':=4) cZ rfl rfl rfl (aC (d:=27) rfl rfl (aT isAgg50 rfl (aK (hS.at_ 0 rfl) rfl) rfl (aC (d:=27) rfl rfl (bX underlying50 rfl rfl (aC (d:=27) rfl rfl (dA rfl rfl rfl (bV rfl rfl rfl (aG rfl rfl (bS (d:=36) rfl (fun hc=>absurd (of_decide_eq_true hc) (by omega)) (fun hc=>?_)))))))))))))))))
 have hc:=of_decide_eq_false hc
 refine aC (d:=36) rfl rfl (aP (o':=5) cP rfl rfl rfl (aC (d:=36) rfl rfl (aT isAgg51 rfl (aK (hS.at_ 1 rfl) rfl) rfl (aC (d:=36) rfl rfl (bX underlying51 rfl rfl (aC (d:=36) rfl rfl (aP (o':=5) cP rfl rfl rfl (aC (d:=36) rfl rfl (aT isAgg51 rfl (aK (hS.at_ 0 rfl) rfl) rfl (aC (d:=36) rfl rfl (bX underlying51 rfl rfl (aC (d:=36) rfl rfl (dA rfl rfl rfl (bV rfl rfl rfl (aQ (XF.thenN (aZ rfl (fun hc=>absurd (of_decide_eq_true hc) (by omega)) (fun hc=>?_))))))))))))))))))
 have hc:=of_decide_eq_false hc
 refine bG (XF.thenN (aL (aL (aR (aA rfl rfl (aQ (XF.thenN (bM (dK (fun q l W=>l=[(2,.pointer (some ⟨B1,0,none⟩)),(3,.pointer (some ⟨B2,0,none⟩)),(5,.int .i64 0)]∧St w [(B2,[.bool false,.int .i64 0,.int .u64 0,.slice gra 0 grc,.slice gca 0 gcc,.slice (some ⟨gb,go,none⟩) 2 gpc],53),(B1,[.bool false,.int .i64 0,.int .u64 0,.slice fra 0 frc,.slice fca 0 fcc,.slice (some ⟨fb,fo,none⟩) 2 fpc],53)] [] [] W) (0) ([(2,_),(3,_),(5,_)]) ⟨rfl,rfl,rfl,trivial⟩ (⟨rfl,hS.clear⟩) ?_)))))))))
 clear hS
 rintro q l W ⟨rfl,hS⟩
 refine aL (aL (aR (aG rfl rfl (aP (o':=4) cZ rfl rfl rfl (aT isAgg50 rfl (aK (hS.at_ 1 rfl) rfl) rfl (bX underlying50 rfl rfl (cN rfl rfl rfl (aQ (XF.thenN (aZ rfl (fun hc=>absurd (of_decide_eq_true hc) (by omega)) (fun hc=>?_)))))))))))
 have hc:=of_decide_eq_false hc
 refine dE (XF.thenX (XF.thenX (XF.blkX (XF.thenN (aL (aL (aR (aA rfl rfl (aQ (XF.thenN (bM (dK (fun q l W=>(q=2∧l=[(2,.pointer (some ⟨B1,0,none⟩)),(3,.pointer (some ⟨B2,0,none⟩)),(6,.int .i64 0)]∧St w [(B2,[.bool false,.int .i64 0,.int .u64 0,.slice gra 0 grc,.slice gca 0 gcc,.slice (some ⟨gb,go,none⟩) 2 gpc],53),(B1,[.bool false,.int .i64 0,.int .u64 0,.slice fra 0 frc,.slice fca 0 fcc,.slice (some ⟨fb,fo,none⟩) 2 fpc],53)] [] [] W)∨(q=1∧l=[(2,.pointer (some ⟨B1,0,none⟩)),(3,.pointer (some ⟨B2,0,none⟩)),(6,.int .i64 1)]∧r1=true∧St w [(B2,[.bool false,.int .i64 0,.int .u64 0,.slice gra 0 grc,.slice gca 0 gcc,.slice (some ⟨gb,go,none⟩) 2 gpc],53),(B1,[.bool false,.int .i64 0,.int .u64 0,.slice fra 0 frc,.slice fca 0 fcc,.slice (some ⟨fb,fo,none⟩) 2 fpc],53)] [] [] W)∨(q=0∧l=[(2,.pointer (some ⟨B1,0,none⟩)),(3,.pointer (some ⟨B2,0,none⟩)),(6,.int .i64 2)]∧r1=true∧r2=true∧St w [(B2,[.bool false,.int .i64 0,.int .u64 0,.slice gra 0 grc,.slice gca 0 gcc,.slice (some ⟨gb,go,none⟩) 2 gpc],53),(B1,[.bool false,.int .i64 0,.int .u64 0,.slice fra 0 frc,.slice fca 0 fcc,.slice (some ⟨fb,fo,none⟩) 2 fpc],53)] [] [] W)) (2) ([(2,_),(3,_),(6,_)]) ⟨rfl,rfl,rfl,trivial⟩ (.inl ⟨rfl,rfl,hS⟩) ?_))))))))))))
 clear hS
 rintro q l W (⟨rfl,rfl,hS⟩ | ⟨rfl,rfl,hq1,hS⟩ | ⟨rfl,rfl,hq1,hq2,hS⟩)
 ·have k1:=aE.agree hS.agree (Nat.zero_le _) hf6.cells
  have k2:=aE.agree hS.agree (Nat.zero_le _) hg6.cells
  refine aL (aL (aR (aG rfl rfl (aP (o':=5) cP rfl rfl rfl (aT isAgg51 rfl (aK (hS.at_ 1 rfl) rfl) rfl (bX underlying51 rfl rfl (cN rfl rfl rfl (aQ (XF.thenN (aZ rfl (fun hc=>?_) (fun hc=>absurd (of_decide_eq_false hc) (by omega))))))))))))
  have hc:=of_decide_eq_true hc
  refine bG (XF.thenN (aL (bM (aL (iE (m:=12) cE hS (by kernel_rfl) (by kernel_rfl) rfl (cC 1 rfl 2 rfl rfl (fun w hw=>aW (o':=5) cP rfl rfl) rfl (aX 2 rfl 70 0 rfl rfl rfl (fun w hw=>bA isAgg51 rfl ((aN hw 0).cell (Nat.zero_le _) (aK (hS.at_ 1 rfl) rfl))) rfl (cC 3 rfl 6 rfl rfl (fun w hw=>bE rfl) rfl (aM 4 rfl (isV _) (aJ _) (rgV (li:=[(71,_),(72,_)]) rfl (aU rfl) ⟨aO 1 (aB rfl rfl rfl),aO 2 (aB rfl rfl rfl),trivial⟩ (fun w hw=>bB (j:=0) underlying51 sizeOf53 rfl rfl rfl (by omega) (Nat.add_zero _)) (aH rfl)) (aX 5 rfl 73 3 rfl rfl rfl (fun w hw=>bF (vs:=[_,_,_,_,_,_]) isAgg53 sizeOf53 rfl (aE.agree (aN hw 0) (Nat.zero_le _) (by assumption))) rfl (cC 6 rfl 3 rfl rfl (fun w hw=>aW (o':=5) cP rfl rfl) rfl (aX 7 rfl 75 5 rfl rfl rfl (fun w hw=>bA isAgg51 rfl ((aN hw 0).cell (Nat.zero_le _) (aK (hS.at_ 0 rfl) rfl))) rfl (cC 8 rfl 6 rfl rfl (fun w hw=>bE rfl) rfl (aM 9 rfl (isV _) (aJ _) (rgV (li:=[(76,_),(77,_)]) rfl (aU rfl) ⟨aO 6 (aB rfl rfl rfl),aO 7 (aB rfl rfl rfl),trivial⟩ (fun w hw=>bB (j:=0) underlying51 sizeOf53 rfl rfl rfl (by omega) (Nat.add_zero _)) (aH rfl)) (aX 10 rfl 78 8 rfl rfl rfl (fun w hw=>bF (vs:=[_,_,_,_,_,_]) isAgg53 sizeOf53 rfl (aE.agree (aN hw 0) (Nat.zero_le _) (by assumption))) rfl ?_)))))))))))))))
  refine aM 11 rfl (isV (.bool r1)) (aJ _) (cV [isV _,isV _] rfl vZ (aU rfl) ⟨bZ (aO 4 (aB rfl rfl rfl)),bZ (aO 9 (aB rfl rfl rfl)),trivial⟩ (fun vs w' hb hh=>by have e:=cB (us:=[_,_]) hh;subst e;exact (pJ (hx1.below (hS.below.trans (hb.mono hS.below.size))) (hy1.below (hS.below.trans (hb.mono hS.below.size))) r1 hr1).mono fun e w2 h=>⟨.bool r1,h.1,rfl,h.2⟩) (aH rfl)) ?_
  refine aX 12 rfl 80 10 rfl rfl rfl (fun w hw=>jU rfl) rfl (dC ?_)
  intro W4 hbR hS'
  clear hS;have hS:=hS';clear hS'
  refine aI (aI (aI (aI (aI (aI (aI (aI (aI (aI (aI (aI (cL (XF.thenN (aZ rfl (fun hc=>?_) (fun hc=>?_)))))))))))))))
  ·have hc81:=hc;clear hc
   refine aL (aR (aA rfl rfl (aQ (XF.thenN (bJ (XF.blkR (XF.thenR (XF.thenR (XF.blkR (XF.thenR (XF.res (cJ results11 rfl) ?_)))))))))))
   exact ⟨bY (gS hr (fun h=>by rw [hr1.2 h.1] at hc81;cases hc81)),hS.below⟩
  ·have hc81:=hc;clear hc
   refine bG (XF.blkN (XF.thenN (aR (aG rfl rfl (cR rfl rfl (IntWalk.i64_in _ (by omega)) rfl (aA rfl rfl (aQ ?_)))))))
   exact XF.round 1 [(2,_),(3,_),(6,_)] (by omega) ⟨rfl,rfl,rfl,trivial⟩ (.inr (.inl ⟨rfl,rfl,by simpa using hc81,hS.clear⟩))
 ·have k1:=aE.agree hS.agree (Nat.zero_le _) hf7.cells
  have k2:=aE.agree hS.agree (Nat.zero_le _) hg7.cells
  refine aL (aL (aR (aG rfl rfl (aP (o':=5) cP rfl rfl rfl (aT isAgg51 rfl (aK (hS.at_ 1 rfl) rfl) rfl (bX underlying51 rfl rfl (cN rfl rfl rfl (aQ (XF.thenN (aZ rfl (fun hc=>?_) (fun hc=>absurd (of_decide_eq_false hc) (by omega))))))))))))
  have hc:=of_decide_eq_true hc
  refine bG (XF.thenN (aL (bM (aL (iE (m:=12) cE hS (by kernel_rfl) (by kernel_rfl) rfl (cC 1 rfl 2 rfl rfl (fun w hw=>aW (o':=5) cP rfl rfl) rfl (aX 2 rfl 70 0 rfl rfl rfl (fun w hw=>bA isAgg51 rfl ((aN hw 0).cell (Nat.zero_le _) (aK (hS.at_ 1 rfl) rfl))) rfl (cC 3 rfl 6 rfl rfl (fun w hw=>bE rfl) rfl (aM 4 rfl (isV _) (aJ _) (rgV (li:=[(71,_),(72,_)]) rfl (aU rfl) ⟨aO 1 (aB rfl rfl rfl),aO 2 (aB rfl rfl rfl),trivial⟩ (fun w hw=>bB (j:=1) underlying51 sizeOf53 rfl rfl rfl (by omega) rfl) (aH rfl)) (aX 5 rfl 73 3 rfl rfl rfl (fun w hw=>bF (vs:=[_,_,_,_,_,_]) isAgg53 sizeOf53 rfl (aE.agree (aN hw 0) (Nat.zero_le _) (by assumption))) rfl (cC 6 rfl 3 rfl rfl (fun w hw=>aW (o':=5) cP rfl rfl) rfl (aX 7 rfl 75 5 rfl rfl rfl (fun w hw=>bA isAgg51 rfl ((aN hw 0).cell (Nat.zero_le _) (aK (hS.at_ 0 rfl) rfl))) rfl (cC 8 rfl 6 rfl rfl (fun w hw=>bE rfl) rfl (aM 9 rfl (isV _) (aJ _) (rgV (li:=[(76,_),(77,_)]) rfl (aU rfl) ⟨aO 6 (aB rfl rfl rfl),aO 7 (aB rfl rfl rfl),trivial⟩ (fun w hw=>bB (j:=1) underlying51 sizeOf53 rfl rfl rfl (by omega) rfl) (aH rfl)) (aX 10 rfl 78 8 rfl rfl rfl (fun w hw=>bF (vs:=[_,_,_,_,_,_]) isAgg53 sizeOf53 rfl (aE.agree (aN hw 0) (Nat.zero_le _) (by assumption))) rfl ?_)))))))))))))))
  refine aM 11 rfl (isV (.bool r2)) (aJ _) (cV [isV _,isV _] rfl vZ (aU rfl) ⟨bZ (aO 4 (aB rfl rfl rfl)),bZ (aO 9 (aB rfl rfl rfl)),trivial⟩ (fun vs w' hb hh=>by have e:=cB (us:=[_,_]) hh;subst e;exact (pJ (hx2.below (hS.below.trans (hb.mono hS.below.size))) (hy2.below (hS.below.trans (hb.mono hS.below.size))) r2 hr2).mono fun e w2 h=>⟨.bool r2,h.1,rfl,h.2⟩) (aH rfl)) ?_
  refine aX 12 rfl 80 10 rfl rfl rfl (fun w hw=>jU rfl) rfl (dC ?_)
  intro W5 hbR hS'
  clear hS;have hS:=hS';clear hS'
  refine aI (aI (aI (aI (aI (aI (aI (aI (aI (aI (aI (aI (cL (XF.thenN (aZ rfl (fun hc=>?_) (fun hc=>?_)))))))))))))))
  ·have hc81:=hc;clear hc
   refine aL (aR (aA rfl rfl (aQ (XF.thenN (bJ (XF.blkR (XF.thenR (XF.thenR (XF.blkR (XF.thenR (XF.res (cJ results11 rfl) ?_)))))))))))
   exact ⟨bY (gS hr (fun h=>by rw [hr2.2 h.2] at hc81;cases hc81)),hS.below⟩
  ·have hc81:=hc;clear hc
   refine bG (XF.blkN (XF.thenN (aR (aG rfl rfl (cR rfl rfl (IntWalk.i64_in _ (by omega)) rfl (aA rfl rfl (aQ ?_)))))))
   exact XF.round 0 [(2,_),(3,_),(6,_)] (by omega) ⟨rfl,rfl,rfl,trivial⟩ (.inr (.inr ⟨rfl,rfl,hq1,by simpa using hc81,hS.clear⟩))
 ·skip
  refine aL (aL (aR (aG rfl rfl (aP (o':=5) cP rfl rfl rfl (aT isAgg51 rfl (aK (hS.at_ 1 rfl) rfl) rfl (bX underlying51 rfl rfl (cN rfl rfl rfl (aQ (XF.thenN (aZ rfl (fun hc=>absurd (of_decide_eq_true hc) (by omega)) (fun hc=>?_)))))))))))
  have hc:=of_decide_eq_false hc
  refine dE (XF.thenX (XF.thenX (XF.blkX (XF.thenN (aL (aR (aA rfl rfl (aQ (XF.thenN (bJ (XF.res (cJ results11 rfl) ?_)))))))))))
  exact ⟨bY (Ij hr ⟨hr1.1 hq1,hr2.1 hq2⟩),hS.below⟩
theorem Qg {w:World} {S:PS} {f g:WF} {x y:PX} (hx:XIs w S f x) (hy:XIs w S g y) (r:Bool) (hr:r=true↔x=y):Calls prog 11 #[f.val,g.val] w fun e w'=>e = .returned (.bool r)∧Below w.heap.size w w':=by
 classical
 cases S<;>cases x<;>cases y<;>first | exact hx.elim | exact hy.elim | skip
 ·exact pJ hx hy r (by rw [hr];simp)
 ·obtain ⟨ra,ca,rc,cc,pc,fb,fo,f1,f2,rfl,h6,h7,h8,h9⟩:=hx.two
  obtain ⟨ra',ca',rc',cc',pc',gb,go,g1,g2,rfl,h6',h7',h8',h9'⟩:=hy.two
  exact M0 _ _ _ _ _ _ _ _ _ _ _ _ _ _ _ _ _ _ _ _ _ _ _ _ _ _ w h6 h7 h6' h7' h8 h9 h8' h9' r (decide _) (decide _) (by rw [hr];simp) decide_eq_true_iff decide_eq_true_iff
theorem Qh {W:World} {B:Nat} {T:TypeId} {f g:WF} (h:W.heap[B]?=some (.cells (List.toArray (f.six++g.six)) T (0,0))):qS W (some ⟨B,0,none⟩) [f,g] :=
 .inr ⟨B,0,rfl,fun i k hi=>by
  match i,hi with
  | 0,hi=>simp at hi;subst hi;exact W6.of_cells (aE.own (j:=0) (m:=6) h rfl)
  | 1,hi=>simp at hi;subst hi;exact W6.of_cells (aE.own (j:=6) (m:=6) h rfl)⟩
theorem Kq {w:World} {S:PS} {f:WF} {x:PX} {fs:List WF} {xs:List PX} (h:XIs w S f x) (hx:XL w S fs xs):XL w S (f::fs) (x::xs) :=
 ⟨by simp [hx.1],fun i g y hg hy=>by
  match i,hg,hy with
  | 0,hg,hy=>simp at hg hy;subst hg;subst hy;exact h
  | i+1,hg,hy=>exact hx.2 i g y (by simpa using hg) (by simpa using hy)⟩
theorem xl_nil {w:World} {S:PS}:XL w S [] []:=⟨rfl,fun i g y hg=>by simp at hg⟩
set_option linter.unusedSimpArgs false
def pc:Nat→Nat→Nat
 | 0,_=>0
 | n+1,f=>pc n f+(if f.testBit n then 1 else 0)
def eqW:Nat→WV→WV→Bool
 | 0,_,_=>false
 | k+1,.mk f ps,.mk g qs=>decide (f.z=g.z∧f.c=g.c∧f.g=g.g∧f.rows=g.rows) && (Ox f.cells g.cells && (decide (ps.length=qs.length) && (ps.zip qs).all fun x=>eqW k x.1 x.2))
theorem smN_succ {j:Nat} {f:WF} {ps:List WV} (h:smN (j+1) (.mk f ps)=true):f.rl≤70∧f.cl≤70∧f.pl≤3∧∀ p∈ps,smN j p=true:=by
 simp only [smN,Bool.and_eq_true,decide_eq_true_eq,List.all_eq_true] at h
 exact h
def mxN:Nat→WV→Bool
 | 0,_=>false
 | k+1,.mk f ps=>decide (f.rl≤9223372036854775807) && (decide (f.cl≤9223372036854775807) && (decide (f.pl≤9223372036854775807) && ps.all (mxN k)))
theorem Ft {j:Nat} {f:WF} {ps:List WV} (h:mxN (j+1) (.mk f ps)=true):f.rl≤9223372036854775807∧f.cl≤9223372036854775807∧f.pl≤9223372036854775807∧∀ p∈ps,mxN j p=true:=by
 simp only [mxN,Bool.and_eq_true,decide_eq_true_eq,List.all_eq_true] at h
 exact h
theorem Ik:∀ {j:Nat} {s:WV},smN j s=true→mxN j s=true
 | 0,_,h=>by simp [smN] at h
 | j+1,.mk f ps,h=>by
  simp only [smN,mxN,Bool.and_eq_true,decide_eq_true_eq,List.all_eq_true] at h ⊢
  exact ⟨Nat.le_trans h.1 (by decide),Nat.le_trans h.2.1 (by decide),Nat.le_trans h.2.2.1 (by decide),fun p hp=>Ik (h.2.2.2 p hp)⟩
theorem C6 (k j:Nat) (az:Bool) (ac:Int) (ag:Nat) (ara:Option Addr) (arl arc:Nat) (arows:List Nat) (aca:Option Addr) (acl acc:Nat) (acells:List Cl) (apa:Option Addr) (apl apc:Nat)(bz:Bool) (bc:Int) (bg:Nat) (bra:Option Addr) (brl brc:Nat) (brows:List Nat) (bca:Option Addr) (bcl bcc:Nat) (bcells:List Cl) (bpa:Option Addr) (bpl bpc:Nat)(ps qs:List WV) (w:World) (hra:fP w ara (u64s arows)) (hla:arows.length=arl) (hma:arl≤9223372036854775807) (hca:fN w aca acells) (hka:acells.length=acl) (hna:acl≤9223372036854775807)(hrb:fP w bra (u64s brows)) (hlb:brows.length=brl) (hmb:brl≤9223372036854775807) (hcb:fN w bca bcells) (hkb:bcells.length=bcl) (hnb:bcl≤9223372036854775807)(hps:ps.length=apl) (hqs:qs.length=bpl) (hrow:Bm w apa ps) (hrow2:Bm w bpa qs) (hin:∀ p∈ps,WIn w k p) (hin2:∀ p∈qs,WIn w k p) (hpl:apl≤9223372036854775807) (hsm:∀ p∈ps,mxN j p=true) (hsm2:∀ p∈qs,mxN j p=true) (ih:∀ (p q:WV) (W:World),WIn W k p→WIn W k q→mxN j p=true→mxN j q=true→Calls prog 11 #[p.f.val,q.f.val] W fun e w'=>e = .returned (.bool (eqW k p q))∧Below W.heap.size W w') (r:Bool) (hr:r=true↔(az=bz∧ac=bc∧ag=bg∧arows=brows∧acells=bcells∧(decide (ps.length=qs.length) && (ps.zip qs).all fun x=>eqW k x.1 x.2)=true)) :
  Calls prog 11 #[.agg #[.bool az,.int .i64 ac,.int .u64 (ag:Int),.slice ara arl arc,.slice aca acl acc,.slice apa apl apc],.agg #[.bool bz,.int .i64 bc,.int .u64 (bg:Int),.slice bra brl brc,.slice bca bcl bcc,.slice bpa bpl bpc]] w (fun e w'=>e = .returned (.bool r)∧Below w.heap.size w w'):=by
 refine cH (args:=[.agg #[.bool az,.int .i64 ac,.int .u64 (ag:Int),.slice ara arl arc,.slice aca acl acc,.slice apa apl apc],.agg #[.bool bz,.int .i64 bc,.int .u64 (bg:Int),.slice bra brl brc,.slice bca bcl bcc,.slice bpa bpl bpc]]) func11 rfl ntmps11 rfl ?_
 have hS:=St.start w
 refine aL (aR (bK (cs:=[_,_,_,_,_,_]) hS rfl rfl rfl fun B1 W1 hS=>bK (cs:=[_,_,_,_,_,_]) hS rfl rfl rfl fun B2 W2 hS=>aA rfl rfl (aQ (XF.thenN (aL (aL (aR (aP (o':=0) dL rfl rfl rfl (aT isAgg4 rfl (aK (hS.at_ 1 rfl) rfl) rfl (aP (o':=0) dL rfl rfl rfl (aT isAgg4 rfl (aK (hS.at_ 0 rfl) rfl) rfl (Ce underlying4 rfl rfl rfl (aG rfl rfl (bS (d:=12) rfl (fun hc=>?_) (fun hc=>?_)))))))))))))))
 ·have hg12:=hc;clear hc
  refine aF (d:=12) rfl rfl rfl rfl (aF (d:=12) rfl rfl rfl rfl (aF (d:=12) rfl rfl rfl rfl (aF (d:=12) rfl rfl rfl rfl (aF (d:=12) rfl rfl rfl rfl (bC rfl rfl rfl (aG rfl rfl (aF (d:=19) rfl rfl rfl rfl (aF (d:=19) rfl rfl rfl rfl (aF (d:=19) rfl rfl rfl rfl (aF (d:=19) rfl rfl rfl rfl (aF (d:=19) rfl rfl rfl rfl (aF (d:=19) rfl rfl rfl rfl (bC rfl rfl rfl (aG rfl rfl (aF (d:=27) rfl rfl rfl rfl (aF (d:=27) rfl rfl rfl rfl (aF (d:=27) rfl rfl rfl rfl (aF (d:=27) rfl rfl rfl rfl (aF (d:=27) rfl rfl rfl rfl (aF (d:=27) rfl rfl rfl rfl ?_))))))))))))))))))))
  refine aF (d:=27) rfl rfl rfl rfl (bC rfl rfl rfl (aG rfl rfl (aF (d:=36) rfl rfl rfl rfl (aF (d:=36) rfl rfl rfl rfl (aF (d:=36) rfl rfl rfl rfl (aF (d:=36) rfl rfl rfl rfl (aF (d:=36) rfl rfl rfl rfl (aF (d:=36) rfl rfl rfl rfl (aF (d:=36) rfl rfl rfl rfl (bC rfl rfl rfl (aQ (XF.thenN (dJ rfl (aL (aR (aA rfl rfl (aQ (XF.thenN (bJ (XF.thenR (XF.res (cJ results11 rfl) ?_)))))))))))))))))))))
  exact ⟨bY (gS hr (fun h=>by have h1:=h.1;subst h1;simp at hg12)),hS.below⟩
 ·have hg12:=hc;clear hc
  refine aC (d:=12) rfl rfl (aP (o':=1) eL rfl rfl rfl (aC (d:=12) rfl rfl (aT isAgg3 rfl (aK (hS.at_ 1 rfl) rfl) rfl (aC (d:=12) rfl rfl (aP (o':=1) eL rfl rfl rfl (aC (d:=12) rfl rfl (aT isAgg3 rfl (aK (hS.at_ 0 rfl) rfl) rfl (aC (d:=12) rfl rfl (dA rfl rfl rfl (bV rfl rfl rfl (aG rfl rfl (bS (d:=19) rfl (fun hc=>?_) (fun hc=>?_)))))))))))))
  ·have hg19:=of_decide_eq_true hc;clear hc
   refine aF (d:=19) rfl rfl rfl rfl (aF (d:=19) rfl rfl rfl rfl (aF (d:=19) rfl rfl rfl rfl (aF (d:=19) rfl rfl rfl rfl (aF (d:=19) rfl rfl rfl rfl (aF (d:=19) rfl rfl rfl rfl (bC rfl rfl rfl (aG rfl rfl (aF (d:=27) rfl rfl rfl rfl (aF (d:=27) rfl rfl rfl rfl (aF (d:=27) rfl rfl rfl rfl (aF (d:=27) rfl rfl rfl rfl (aF (d:=27) rfl rfl rfl rfl (aF (d:=27) rfl rfl rfl rfl (aF (d:=27) rfl rfl rfl rfl (bC rfl rfl rfl (aG rfl rfl (aF (d:=36) rfl rfl rfl rfl (aF (d:=36) rfl rfl rfl rfl (aF (d:=36) rfl rfl rfl rfl (aF (d:=36) rfl rfl rfl rfl ?_))))))))))))))))))))
   refine aF (d:=36) rfl rfl rfl rfl (aF (d:=36) rfl rfl rfl rfl (aF (d:=36) rfl rfl rfl rfl (bC rfl rfl rfl (aQ (XF.thenN (dJ rfl (aL (aR (aA rfl rfl (aQ (XF.thenN (bJ (XF.thenR (XF.res (cJ results11 rfl) ?_))))))))))))))
   exact ⟨bY (gS hr (fun h=>hg19 h.2.1)),hS.below⟩
  ·have hg19:=of_decide_eq_false hc;clear hc
   refine aC (d:=19) rfl rfl (aP (o':=2) dY rfl rfl rfl (aC (d:=19) rfl rfl (aS (vs:=[_,_]) isAgg49 sizeOf49 rfl (aE.own (j:=2) (m:=2) (hS.at_ 1 rfl) rfl) rfl (aC (d:=19) rfl rfl (aP (o':=2) dY rfl rfl rfl (aC (d:=19) rfl rfl (aS (vs:=[_,_]) isAgg49 sizeOf49 rfl (aE.own (j:=2) (m:=2) (hS.at_ 0 rfl) rfl) rfl (aC (d:=19) rfl rfl (cF (vs:=[_,_]) hS Cq rfl (zO _ _ _ _ _ _ _ _ _ (by omega) (by omega) (fP.below hra hS.below) (fP.below hrb hS.below) _ rfl _ _ hla hlb) rfl fun W3 hS=>aC (d:=19) rfl rfl (eA rfl rfl (bV rfl rfl rfl (aG rfl rfl (bS (d:=27) rfl (fun hc=>?_) (fun hc=>?_))))))))))))))
   ·have hg27:=hc;clear hc
    refine aF (d:=27) rfl rfl rfl rfl (aF (d:=27) rfl rfl rfl rfl (aF (d:=27) rfl rfl rfl rfl (aF (d:=27) rfl rfl rfl rfl (aF (d:=27) rfl rfl rfl rfl (aF (d:=27) rfl rfl rfl rfl (aF (d:=27) rfl rfl rfl rfl (bC rfl rfl rfl (aG rfl rfl (aF (d:=36) rfl rfl rfl rfl (aF (d:=36) rfl rfl rfl rfl (aF (d:=36) rfl rfl rfl rfl (aF (d:=36) rfl rfl rfl rfl (aF (d:=36) rfl rfl rfl rfl (aF (d:=36) rfl rfl rfl rfl (aF (d:=36) rfl rfl rfl rfl (bC rfl rfl rfl (aQ (XF.thenN (dJ rfl (aL (aR (aA rfl rfl ?_))))))))))))))))))))))
    refine aQ (XF.thenN (bJ (XF.thenR (XF.res (cJ results11 rfl) ?_))))
    exact ⟨bY (gS hr (fun h=>by obtain ⟨_,_,h3,h4,_⟩:=h;subst h3;subst h4;rw [zU] at hg27;cases hg27)),hS.below⟩
   ·have hg27:=hc;clear hc
    refine aC (d:=27) rfl rfl (aP (o':=4) cZ rfl rfl rfl (aC (d:=27) rfl rfl (aT isAgg50 rfl (aK (hS.at_ 1 rfl) rfl) rfl (aC (d:=27) rfl rfl (bX underlying50 rfl rfl (aC (d:=27) rfl rfl (aP (o':=4) cZ rfl rfl rfl (aC (d:=27) rfl rfl (aT isAgg50 rfl (aK (hS.at_ 0 rfl) rfl) rfl (aC (d:=27) rfl rfl (bX underlying50 rfl rfl (aC (d:=27) rfl rfl (dA rfl rfl rfl (bV rfl rfl rfl (aG rfl rfl (bS (d:=36) rfl (fun hc=>?_) (fun hc=>?_)))))))))))))))))
    ·have hg36:=of_decide_eq_true hc;clear hc
     refine aF (d:=36) rfl rfl rfl rfl (aF (d:=36) rfl rfl rfl rfl (aF (d:=36) rfl rfl rfl rfl (aF (d:=36) rfl rfl rfl rfl (aF (d:=36) rfl rfl rfl rfl (aF (d:=36) rfl rfl rfl rfl (aF (d:=36) rfl rfl rfl rfl (bC rfl rfl rfl (aQ (XF.thenN (dJ rfl (aL (aR (aA rfl rfl (aQ (XF.thenN (bJ (XF.thenR (XF.res (cJ results11 rfl) ?_))))))))))))))))))
     exact ⟨bY (gS hr (fun h=>by have h5:=h.2.2.2.2.1;subst h5;omega)),hS.below⟩
    ·have hg36:=of_decide_eq_false hc;clear hc
     have hz:az=bz:=by simpa using hg12
     have hcc:ac=bc:=by omega
     have hff:ag=bg∧arows=brows:=by simpa [qV] using hg27
     have hcl:acl=bcl:=by omega
     refine aC (d:=36) rfl rfl (aP (o':=5) cP rfl rfl rfl (aC (d:=36) rfl rfl (aT isAgg51 rfl (aK (hS.at_ 1 rfl) rfl) rfl (aC (d:=36) rfl rfl (bX underlying51 rfl rfl (aC (d:=36) rfl rfl (aP (o':=5) cP rfl rfl rfl (aC (d:=36) rfl rfl (aT isAgg51 rfl (aK (hS.at_ 0 rfl) rfl) rfl (aC (d:=36) rfl rfl (bX underlying51 rfl rfl (aC (d:=36) rfl rfl (dA rfl rfl rfl (bV rfl rfl rfl (aQ (XF.thenN (aZ rfl (fun hc=>?_) (fun hc=>?_))))))))))))))))))
     ·have hc44:=of_decide_eq_true hc;clear hc
      refine aL (aR (aA rfl rfl (aQ (XF.thenN (bJ (XF.thenR (XF.res (cJ results11 rfl) ?_)))))))
      exact ⟨bY (gS hr (fun h=>by have h6:=h.2.2.2.2.2;rw [decide_eq_false (show ¬ ps.length=qs.length by omega)] at h6;cases h6)),hS.below⟩
     ·have hc44:=of_decide_eq_false hc;clear hc
      refine bG (XF.thenN (aL (aL (aR (aA rfl rfl (aQ (XF.thenN (bM (dK (fun q l W=>∃ i:Nat,i≤acl∧q=acl - i∧l=[(2,.pointer (some ⟨B1,0,none⟩)),(3,.pointer (some ⟨B2,0,none⟩)),(5,.int .i64 (i:Int))]∧acells.take i=bcells.take i∧St w [(B2,[.bool bz,.int .i64 bc,.int .u64 (bg:Int),.slice bra brl brc,.slice bca bcl bcc,.slice bpa bpl bpc],53),(B1,[.bool az,.int .i64 ac,.int .u64 (ag:Int),.slice ara arl arc,.slice aca acl acc,.slice apa apl apc],53)] [] [] W) (acl - 0) ([(2,_),(3,_),(5,_)]) ⟨rfl,rfl,rfl,trivial⟩ (⟨0,Nat.zero_le _,rfl,rfl,rfl,hS.clear⟩) ?_)))))))))
      clear hS
      rintro q l W ⟨i,hi,rfl,rfl,hall,hS⟩
      refine aL (aL (aR (aG rfl rfl (aP (o':=4) cZ rfl rfl rfl (aT isAgg50 rfl (aK (hS.at_ 1 rfl) rfl) rfl (bX underlying50 rfl rfl (cN rfl rfl rfl (aQ (XF.thenN (aZ rfl (fun hc=>?_) (fun hc=>?_)))))))))))
      ·have hc49:=of_decide_eq_true hc;clear hc
       have hk:i < acl:=by omega
       obtain ⟨b1,o1,x,hx1,hx2,_,x0,x1,x2⟩:=hca.at_ (k:=i) (by omega)
       obtain ⟨b2,o2,y,hy1,hy2,_,y0,y1,y2⟩:=hcb.at_ (k:=i) (by omega)
       subst hx1;subst hy1
       have k1:aE W b1 (o1+i * 3) [.int .u64 (x.f:Int),.int .i64 x.k,.int .i64 x.v]:=aE.agree hS.agree (Nat.zero_le _) ⟨x0,x1,x2,trivial⟩
       have k2:aE W b2 (o2+i * 3) [.int .u64 (y.f:Int),.int .i64 y.k,.int .i64 y.v]:=aE.agree hS.agree (Nat.zero_le _) ⟨y0,y1,y2,trivial⟩
       refine bG (XF.thenN (aL (bM (aL (iE (m:=11) cE hS (by kernel_rfl) (by kernel_rfl) rfl (cC 1 rfl 2 rfl rfl (fun w hw=>aW (o':=4) cZ rfl rfl) rfl (aX 2 rfl 52 0 rfl rfl rfl (fun w hw=>bA isAgg50 rfl ((aN hw 0).cell (Nat.zero_le _) (aK (hS.at_ 1 rfl) rfl))) rfl (cC 3 rfl 5 rfl rfl (fun w hw=>bE rfl) rfl (aM 4 rfl (isV _) (aJ _) (rgV (li:=[(53,_),(54,_)]) rfl (aU rfl) ⟨aO 1 (aB rfl rfl rfl),aO 2 (aB rfl rfl rfl),trivial⟩ (fun w hw=>bB  underlying50 sizeOf92 rfl rfl rfl (by omega) rfl) (aH rfl)) (aX 5 rfl 55 3 rfl rfl rfl (fun w hw=>bF (vs:=[_,_,_]) isAgg92 sizeOf92 rfl (aE.agree (aN hw 0) (Nat.zero_le _) (by assumption))) rfl (cC 6 rfl 3 rfl rfl (fun w hw=>aW (o':=4) cZ rfl rfl) rfl (aX 7 rfl 57 5 rfl rfl rfl (fun w hw=>bA isAgg50 rfl ((aN hw 0).cell (Nat.zero_le _) (aK (hS.at_ 0 rfl) rfl))) rfl (cC 8 rfl 5 rfl rfl (fun w hw=>bE rfl) rfl (aM 9 rfl (isV _) (aJ _) (rgV (li:=[(58,_),(59,_)]) rfl (aU rfl) ⟨aO 6 (aB rfl rfl rfl),aO 7 (aB rfl rfl rfl),trivial⟩ (fun w hw=>bB  underlying50 sizeOf92 rfl rfl rfl (by omega) rfl) (aH rfl)) (aX 10 rfl 60 8 rfl rfl rfl (fun w hw=>bF (vs:=[_,_,_]) isAgg92 sizeOf92 rfl (aE.agree (aN hw 0) (Nat.zero_le _) (by assumption))) rfl (aM 11 rfl (isV _) (aJ _) (rgV (li:=[(56,_),(61,_)]) rfl (aU rfl) ⟨aO 4 (aB rfl rfl rfl),aO 9 (aB rfl rfl rfl),trivial⟩ (fun w hw=>J2 rfl rfl (run_eqGuard_agg _ _ _ _ _ _ _ (by kernel_rfl)) (Oy x y _ rfl w)) (aH rfl)) (dC ?_)))))))))))))))))
       intro W4 hbR hS'
       clear hS;have hS:=hS';clear hS'
       refine aI (aI (aI (aI (aI (aI (aI (aI (aI (aI (aI (cL (XF.thenN (aZ rfl (fun hc=>?_) (fun hc=>?_))))))))))))))
       ·have hc62:=hc;clear hc
        refine aL (aR (aA rfl rfl (aQ (XF.thenN (bJ (XF.blkR (XF.thenR (XF.thenR (XF.blkR (XF.thenR (XF.res (cJ results11 rfl) ?_)))))))))))
        exact ⟨bY (gS hr (fun h=>by have h5:=h.2.2.2.2.1;subst h5;rw [hx2] at hy2;cases hy2;simp [jQ] at hc62)),hS.below⟩
       ·have hc62:=hc;clear hc
        have hxy:x=y:=by
         obtain ⟨xf,xk,xv⟩:=x
         obtain ⟨yf,yk,yv⟩:=y
         simp [jQ] at hc62
         simp [hc62]
        subst hxy
        refine bG (XF.blkN (XF.thenN (aR (aG rfl rfl (cR rfl rfl (IntWalk.i64_in _ (by omega)) rfl (aA rfl rfl (aQ ?_)))))))
        exact XF.round (acl - (i+1)) [(2,_),(3,_),(5,_)] (by omega) ⟨rfl,rfl,rfl,trivial⟩ ⟨i+1,by omega,rfl,rfl,by rw [List.take_add_one,List.take_add_one,hx2,hy2,hall],hS.clear⟩
      ·have hc49:=of_decide_eq_false hc;clear hc
       have hce:acells=bcells:=by
        rw [List.take_of_length_le (by omega),List.take_of_length_le (by omega)] at hall
        exact hall
       refine dE (XF.thenX (XF.thenX (XF.blkX (XF.thenN (aL (aL (aR (aA rfl rfl (aQ (XF.thenN (bM (dK (fun q l W=>∃ i:Nat,i≤apl∧q=apl - i∧l=[(2,.pointer (some ⟨B1,0,none⟩)),(3,.pointer (some ⟨B2,0,none⟩)),(6,.int .i64 (i:Int))]∧((ps.zip qs).take i).all (fun x=>eqW k x.1 x.2)=true∧St w [(B2,[.bool bz,.int .i64 bc,.int .u64 (bg:Int),.slice bra brl brc,.slice bca bcl bcc,.slice bpa bpl bpc],53),(B1,[.bool az,.int .i64 ac,.int .u64 (ag:Int),.slice ara arl arc,.slice aca acl acc,.slice apa apl apc],53)] [] [] W) (apl - 0) ([(2,_),(3,_),(6,_)]) ⟨rfl,rfl,rfl,trivial⟩ (⟨0,Nat.zero_le _,rfl,rfl,rfl,hS.clear⟩) ?_))))))))))))
       clear hS
       rintro q l W ⟨i,hi,rfl,rfl,hall2,hS⟩
       refine aL (aL (aR (aG rfl rfl (aP (o':=5) cP rfl rfl rfl (aT isAgg51 rfl (aK (hS.at_ 1 rfl) rfl) rfl (bX underlying51 rfl rfl (cN rfl rfl rfl (aQ (XF.thenN (aZ rfl (fun hc=>?_) (fun hc=>?_)))))))))))
       ·have hc67:=of_decide_eq_true hc;clear hc
        have hk:i < apl:=by omega
        obtain ⟨p,hp⟩:∃ p,ps[i]?=some p:=⟨ps[i]'(by omega),List.getElem?_eq_getElem _⟩
        obtain ⟨q,hq⟩:∃ q,qs[i]?=some q:=⟨qs[i]'(by omega),List.getElem?_eq_getElem _⟩
        have hzp:(ps.zip qs)[i]?=some (p,q):=List.getElem?_zip_eq_some.2 ⟨hp,hq⟩
        obtain ⟨b,off,rfl,hb,h6⟩:=hrow.at_ hp
        obtain ⟨b2,off2,rfl,hb2,h7⟩:=hrow2.at_ hq
        have k1:=aE.agree hS.agree (Nat.zero_le _) h6.cells
        have k2:=aE.agree hS.agree (Nat.zero_le _) h7.cells
        refine bG (XF.thenN (aL (bM (aL (iE (m:=12) cE hS (by kernel_rfl) (by kernel_rfl) rfl (cC 1 rfl 2 rfl rfl (fun w hw=>aW (o':=5) cP rfl rfl) rfl (aX 2 rfl 70 0 rfl rfl rfl (fun w hw=>bA isAgg51 rfl ((aN hw 0).cell (Nat.zero_le _) (aK (hS.at_ 1 rfl) rfl))) rfl (cC 3 rfl 6 rfl rfl (fun w hw=>bE rfl) rfl (aM 4 rfl (isV _) (aJ _) (rgV (li:=[(71,_),(72,_)]) rfl (aU rfl) ⟨aO 1 (aB rfl rfl rfl),aO 2 (aB rfl rfl rfl),trivial⟩ (fun w hw=>bB  underlying51 sizeOf53 rfl rfl rfl (by omega) rfl) (aH rfl)) (aX 5 rfl 73 3 rfl rfl rfl (fun w hw=>bF (vs:=[_,_,_,_,_,_]) isAgg53 sizeOf53 rfl (aE.agree (aN hw 0) (Nat.zero_le _) (by assumption))) rfl (cC 6 rfl 3 rfl rfl (fun w hw=>aW (o':=5) cP rfl rfl) rfl (aX 7 rfl 75 5 rfl rfl rfl (fun w hw=>bA isAgg51 rfl ((aN hw 0).cell (Nat.zero_le _) (aK (hS.at_ 0 rfl) rfl))) rfl (cC 8 rfl 6 rfl rfl (fun w hw=>bE rfl) rfl (aM 9 rfl (isV _) (aJ _) (rgV (li:=[(76,_),(77,_)]) rfl (aU rfl) ⟨aO 6 (aB rfl rfl rfl),aO 7 (aB rfl rfl rfl),trivial⟩ (fun w hw=>bB  underlying51 sizeOf53 rfl rfl rfl (by omega) rfl) (aH rfl)) (aX 10 rfl 78 8 rfl rfl rfl (fun w hw=>bF (vs:=[_,_,_,_,_,_]) isAgg53 sizeOf53 rfl (aE.agree (aN hw 0) (Nat.zero_le _) (by assumption))) rfl ?_)))))))))))))))
        refine aM 11 rfl (isV (.bool (eqW k p q))) (aJ _) (cV [isV _,isV _] rfl vZ (aU rfl) ⟨bZ (aO 4 (aB rfl rfl rfl)),bZ (aO 9 (aB rfl rfl rfl)),trivial⟩ (fun vs w' hb hh=>by have e:=cB (us:=[_,_]) hh;subst e;exact (ih p q _ (WIn.below (hS.below.trans (hb.mono hS.below.size)) (hin p (List.mem_of_getElem? hp))) (WIn.below (hS.below.trans (hb.mono hS.below.size)) (hin2 q (List.mem_of_getElem? hq))) (hsm p (List.mem_of_getElem? hp)) (hsm2 q (List.mem_of_getElem? hq))).mono fun e w2 h=>⟨_,h.1,rfl,h.2⟩) (aH rfl)) ?_
        refine aX 12 rfl 80 10 rfl rfl rfl (fun w hw=>jU rfl) rfl (dC ?_)
        intro W5 hbR hS'
        clear hS;have hS:=hS';clear hS'
        refine aI (aI (aI (aI (aI (aI (aI (aI (aI (aI (aI (aI (cL (XF.thenN (aZ rfl (fun hc=>?_) (fun hc=>?_)))))))))))))))
        ·have hc81:=hc;clear hc
         refine aL (aR (aA rfl rfl (aQ (XF.thenN (bJ (XF.blkR (XF.thenR (XF.thenR (XF.blkR (XF.thenR (XF.res (cJ results11 rfl) ?_)))))))))))
         exact ⟨bY (gS hr (fun h=>by have h6:=h.2.2.2.2.2;rw [fD hzp (by simpa using hc81)] at h6;simp at h6)),hS.below⟩
        ·have hc81:=hc;clear hc
         refine bG (XF.blkN (XF.thenN (aR (aG rfl rfl (cR rfl rfl (IntWalk.i64_in _ (by omega)) rfl (aA rfl rfl (aQ ?_)))))))
         exact XF.round (apl - (i+1)) [(2,_),(3,_),(6,_)] (by omega) ⟨rfl,rfl,rfl,trivial⟩ ⟨i+1,by omega,rfl,rfl,fS hzp hall2 (by simpa using hc81),hS.clear⟩
       ·have hc67:=of_decide_eq_false hc;clear hc
        refine dE (XF.thenX (XF.thenX (XF.blkX (XF.thenN (aL (aR (aA rfl rfl (aQ (XF.thenN (bJ (XF.res (cJ results11 rfl) ?_)))))))))))
        rw [List.take_of_length_le (by rw [List.length_zip];omega)] at hall2
        exact ⟨bY (Ij hr ⟨hz,hcc,hff.1,hff.2,hce,by rw [hall2,decide_eq_true (show ps.length=qs.length by omega)];rfl⟩),hS.below⟩
theorem eqW_iff {k:Nat} {f g:WF} {ps qs:List WV}:eqW (k+1) (.mk f ps) (.mk g qs)=true↔(f.z=g.z∧f.c=g.c∧f.g=g.g∧f.rows=g.rows∧f.cells=g.cells∧(decide (ps.length=qs.length) && (ps.zip qs).all fun x=>eqW k x.1 x.2)=true):=by
 simp only [eqW]
 rw [Bool.and_eq_true,decide_eq_true_eq,Bool.and_eq_true,Mj]
 constructor
 ·rintro ⟨⟨a,b,c,d⟩,e,h⟩;exact ⟨a,b,c,d,e,h⟩
 ·rintro ⟨a,b,c,d,e,h⟩;exact ⟨⟨a,b,c,d⟩,e,h⟩
theorem Kr:∀ (k j:Nat) (x y:WV) (w:World),WIn w k x→WIn w k y→mxN j x=true→mxN j y=true→Calls prog 11 #[x.f.val,y.f.val] w fun e w'=>e = .returned (.bool (eqW k x y))∧Below w.heap.size w w'
 | 0,_,x,y,w,hx,hy,_,_=>hx.elim
 | k+1,0,x,y,w,hx,hy,h,_=>by simp [mxN] at h
 | k+1,j+1,.mk ⟨az,ac,ag,ara,arl,arc,arows,aca,acl,acc,acells,apa,apl,apc⟩ ps,.mk ⟨bz,bc,bg,bra,brl,brc,brows,bca,bcl,bcc,bcells,bpa,bpl,bpc⟩ qs,w,hx,hy,h,h2=>by
  obtain ⟨a1,a2,a3,a4⟩:=Ft h
  obtain ⟨b1,b2,b3,b4⟩:=Ft h2
  exact C6 k j az ac ag ara arl arc arows aca acl acc acells apa apl apc bz bc bg bra brl brc brows bca bcl bcc bcells bpa bpl bpc ps qs w hx.1.rows hx.1.rl a1 hx.1.cells hx.1.cl a2 hy.1.rows hy.1.rl b1 hy.1.cells hy.1.cl b2 hx.2.1 hy.2.1 hx.2.2.1 hy.2.2.1 hx.2.2.2 hy.2.2.2 a3 a4 b4 (Kr k j) _ eqW_iff
theorem M1 (k j:Nat) (x y:WV) (w:World) (hx:WIn w k x) (hy:WIn w k y) (h:smN j x=true) (h2:smN j y=true):Calls prog 11 #[x.f.val,y.f.val] w fun e w'=>e = .returned (.bool (eqW k x y))∧Below w.heap.size w w':=Kr k j x y w hx hy (Ik h) (Ik h2)
theorem Ak {S:PS} {sf:SF} {w:World} (hs:SIs w S sf) (hok:S.ok):Calls prog 42 #[sf.val] w fun e w'=>e = .returned (.int .i64 0)∧Below w.heap.size w w':=by
 obtain ⟨s,rfl,h,he⟩:=SIs.sin hs hok
 exact uL 2 s 0 w h he
attribute [local go_sem ↓] Go.wp_at_zero Go.wp_at_succ
theorem Qi {w:World} {ds da:Nat} {s:SV} {x:WV} (hs:SIn w ds s) (hse:eI s=0) (hx:WIn w da x) :
  Calls prog 81 #[s.f.val,x.f.val] w fun e w'=>e = .returned (.bool (okW s x))∧Below w.heap.size w w':=by
 match ds,da,s,x,hs,hx with
 | ds+1,da+1,.mk f ps,.mk g qs,hs,hx =>
  by_cases hp:cA f.tag f.dim f.len=true
  ·refine lX f.tag f.dim f.a f.len f.cap g hp (Nat.zero_le _) w hx.1 _ ?_
   unfold okW;exact (if_pos hp).symm
  ·have hse':(if cA f.tag f.dim f.len=true then (0:Int) else if f.tag=5∧f.dim=0∧ps.length=2∧ps.all SV.pl=true then 0 else 50)=0:=hse
   rw [if_neg hp] at hse'
   split at hse'
   ·rename_i hq
    obtain ⟨h5,h0,h2,hall⟩:=hq
    obtain ⟨t,n,a,l,c⟩:=f
    dsimp only at h5 h0 hp
    subst h5;subst h0
    obtain ⟨p,q,rfl⟩:=rE h2
    have hl:2=l:=hs.1
    subst hl
    simp only [List.all_cons,List.all_nil,Bool.and_true,Bool.and_eq_true] at hall
    refine Ah ds a c p q g qs w hs hall.1 hall.2 da hx (fun _ _=>Nat.zero_le _) _ ?_
    unfold okW;exact (if_neg hp).symm
   ·cases hse'
theorem Qj {w:World} {ds da:Nat} {s:SV} {x:WV} (hs:SIn w ds s) (hse:eI s=0) (hx:WIn w da x) :
  Calls prog 93 #[s.f.val,x.f.val] w fun e w'=>e = .returned (.bool (okW s x))∧Below w.heap.size w w':=by
 match ds,da,s,x,hs,hx with
 | ds+1,da+1,.mk f ps,.mk g qs,hs,hx =>
  by_cases hp:cA f.tag f.dim f.len=true
  ·refine oB f.tag f.dim f.a f.len f.cap g hp (Nat.zero_le _) w hx.1 _ ?_
   unfold okW;exact (if_pos hp).symm
  ·have hse':(if cA f.tag f.dim f.len=true then (0:Int) else if f.tag=5∧f.dim=0∧ps.length=2∧ps.all SV.pl=true then 0 else 50)=0:=hse
   rw [if_neg hp] at hse'
   split at hse'
   ·rename_i hq
    obtain ⟨h5,h0,h2,hall⟩:=hq
    obtain ⟨t,n,a,l,c⟩:=f
    dsimp only at h5 h0 hp
    subst h5;subst h0
    obtain ⟨p,q,rfl⟩:=rE h2
    have hl:2=l:=hs.1
    subst hl
    simp only [List.all_cons,List.all_nil,Bool.and_true,Bool.and_eq_true] at hall
    refine Mu ds a c p q g qs w hs hall.1 hall.2 da hx (fun _ _=>Nat.zero_le _) _ ?_
    unfold okW;exact (if_neg hp).symm
   ·cases hse'
end
section
open Go.RowKit
structure RV where
 p:Int
 g:Int
 q:Int
 wa:Option Addr
 wl:Nat
 wc:Nat
 ws:List Int
 x:WV
abbrev RV.val (r:RV):Value:=.agg #[.int .i64 r.p,.int .i64 r.g,.int .i64 r.q,.slice r.wa r.wl r.wc,.bool r.x.f.z,.int .i64 r.x.f.c,.int .u64 (r.x.f.g:Int),.slice r.x.f.ra r.x.f.rl r.x.f.rc,.slice r.x.f.ca r.x.f.cl r.x.f.cc,.slice r.x.f.pa r.x.f.pl r.x.f.pc]
abbrev RV.ten (r:RV):List Value:=[.int .i64 r.p,.int .i64 r.g,.int .i64 r.q,.slice r.wa r.wl r.wc,.bool r.x.f.z,.int .i64 r.x.f.c,.int .u64 (r.x.f.g:Int),.slice r.x.f.ra r.x.f.rl r.x.f.rc,.slice r.x.f.ca r.x.f.cl r.x.f.cc,.slice r.x.f.pa r.x.f.pl r.x.f.pc]
structure RIn (w:World) (d:Nat) (r:RV):Prop where
 row:Row w r.wa r.ws
 len:r.ws.length=r.wl
 x:WIn w d r.x
def lD (w:World) (a:Option Addr) (rs:List RV):Prop :=
 rs=[]∨∃ b off,a=some ⟨b,off,none⟩∧∀ (i:Nat) r,rs[i]?=some r→aE w b (off+i * 10) r.ten
structure PV where
 s:SV
 st:Int
 sy:Int
 ra:Option Addr
 rl:Nat
 rc:Nat
 rs:List RV
abbrev PV.val (p:PV):Value:=.agg #[.int .i64 p.s.f.tag,.int .i64 p.s.f.dim,.slice p.s.f.a p.s.f.len p.s.f.cap,.int .i64 p.st,.int .i64 p.sy,.slice p.ra p.rl p.rc]
abbrev PV.six (p:PV):List Value:=[.int .i64 p.s.f.tag,.int .i64 p.s.f.dim,.slice p.s.f.a p.s.f.len p.s.f.cap,.int .i64 p.st,.int .i64 p.sy,.slice p.ra p.rl p.rc]
structure PvIn (w:World) (ds d:Nat) (p:PV):Prop where
 s:SIn w ds p.s
 row:lD w p.ra p.rs
 len:p.rs.length=p.rl
 rin:∀ r∈p.rs,RIn w d r
structure CV where
 p:Int
 wa:Option Addr
 wl:Nat
 wc:Nat
 ws:List Int
abbrev CV.val (c:CV):Value:=.agg #[.int .i64 c.p,.slice c.wa c.wl c.wc]
structure CIn (w:World) (c:CV):Prop where
 row:Row w c.wa c.ws
 len:c.ws.length=c.wl
theorem RIn.below {w w':World} {d:Nat} {r:RV} (h:RIn w d r) (hb:Below w.heap.size w w'):RIn w' d r:=⟨h.row.below hb,h.len,WIn.below hb h.x⟩
theorem CIn.below {w w':World} {c:CV} (h:CIn w c) (hb:Below w.heap.size w w'):CIn w' c:=⟨h.row.below hb,h.len⟩
theorem lD.at_ {w:World} {a:Option Addr} {rs:List RV} (h:lD w a rs) {i:Nat} {r:RV} (hi:rs[i]?=some r):∃ b off,a=some ⟨b,off,none⟩∧aE w b (off+i * 10) r.ten:=by
 rcases h with rfl | ⟨b,off,ha,hc⟩
 ·simp at hi
 ·exact ⟨b,off,ha,hc i r hi⟩
theorem lD.below {w w':World} {a:Option Addr} {rs:List RV} (h:lD w a rs) (hb:Below w.heap.size w w'):lD w' a rs:=by
 rcases h with h | ⟨b,off,rfl,hc⟩
 ·exact .inl h
 ·exact .inr ⟨b,off,rfl,fun i r hi=>aE.agree (aN hb 0) (Nat.zero_le _) (hc i r hi)⟩
theorem PvIn.below {w w':World} {ds d:Nat} {p:PV} (h:PvIn w ds d p) (hb:Below w.heap.size w w'):PvIn w' ds d p:=⟨SIn.below hb h.s,h.row.below hb,h.len,fun r hr=>(h.rin r hr).below hb⟩
theorem Row.at1 {w:World} {a:Option Addr} {zs:List Int} (h:Row w a zs) {i:Nat} (hi:i < zs.length):∃ b off y,a=some ⟨b,off,none⟩∧zs[i]?=some y∧w.cell? ⟨b,off+i * 1,none⟩=some (.int .i64 y):=by
 rcases h with rfl | ⟨b,off,ha,hc⟩
 ·simp at hi
 ·refine ⟨b,off,zs[i],ha,by simp [hi],?_⟩
  rw [Nat.mul_one]
  have:=hc i hi
  rw [this];simp [List.getD,List.getElem?_eq_getElem hi]
def inQ (x n:Int):Bool:=decide (0≤x) && decide (x < n)
def fB (st sy:Int) (r:RV):Bool:=inQ r.p st && (inQ r.q st && (inQ r.g sy && (decide (r.wl≤4096) && r.ws.all (fun y=>inQ y sy))))
def wtE (s:SV):List RV→Int
 | []=>0
 | r::rs=>if kQ s r.x=0 then wtE s rs else kQ s r.x
theorem Il {s:SV}:∀ {rs:List RV} {i:Nat} {r:RV},rs[i]?=some r→(rs.take i).all (fun r=>decide (kQ s r.x=0))=true→kQ s r.x≠0→wtE s rs=kQ s r.x
 | [],_,_,h,_,_=>by simp at h
 | a::rs,0,r,h,_,hn=>by
  simp at h;subst h
  unfold wtE;rw [if_neg hn]
 | a::rs,i+1,r,h,ha,hn=>by
  simp only [List.take_succ_cons,List.all_cons,Bool.and_eq_true,decide_eq_true_eq] at ha
  unfold wtE;rw [if_pos ha.1]
  exact Il (by simpa using h) ha.2 hn
theorem wF {s:SV}:∀ {rs:List RV},rs.all (fun r=>decide (kQ s r.x=0))=true→wtE s rs=0
 | [],_=>rfl
 | a::rs,h=>by
  simp only [List.all_cons,Bool.and_eq_true,decide_eq_true_eq] at h
  unfold wtE;rw [if_pos h.1]
  exact wF h.2
def gX (p:PV):Int :=
 if eI p.s≠0 then eI p.s else if 16384 < p.rl then 3 else if p.st < 0∨4096 < p.st∨p.sy < 0∨4096 < p.sy then 110 else if p.rs.all (fB p.st p.sy) then wtE p.s p.rs else 110
def gH (p:PV) (c:CV):Bool:=inQ c.p p.st && (decide (c.wl≤4096) && c.ws.all (fun y=>inQ y p.sy))
def stepE (p:PV) (c:CV):Int:=if gX p≠0 then gX p else if gH p c then 0 else 120
theorem xT (ds da:Nat) (s:SV) (x:WV) (w:World) (hs:SIn w ds s) (hx:WIn w da x) (b:Nat) (hb0:aE w b 0 x.f.six) :
  Calls prog 61 #[s.f.val,.slice (some ⟨b,0,none⟩) 1 1] w (fun e w'=>e = .returned (.int .i64 (kQ s x))∧Below w.heap.size w w'):=by
 refine cH (args:=[s.f.val,.slice (some ⟨b,0,none⟩) 1 1]) func61 rfl ntmps61 rfl ?_
 have hS:=St.start w
 refine aL (aR (bK (cs:=[_,_,_]) hS rfl rfl rfl fun B1 W1 hS=>aA rfl rfl (aQ (XF.thenN (aL (aL (aR (aS (vs:=[_,_,_]) isAgg25 sizeOf25 rfl (aE.own (j:=0) (m:=3) (hS.at_ 0 rfl) rfl) rfl (cF (vs:=[_]) hS tC rfl (uB ds s _ _ (SIn.below hS.below hs) rfl) rfl fun W2 hS=>aA rfl rfl (aQ (XF.thenN (aL (aR (aG rfl rfl (dA rfl rfl rfl (aQ (XF.thenN (aZ rfl (fun hc=>?_) (fun hc=>?_)))))))))))))))))))
 ·have hc11:=of_decide_eq_true hc;clear hc
  refine aL (aR (aG rfl rfl (aA rfl rfl (aQ (XF.thenN (bJ (XF.thenR (XF.res (cJ results61 rfl) ?_))))))))
  exact ⟨dR (by unfold kQ;rw [if_neg hc11]),hS.below⟩
 ·have hc11:=of_decide_eq_false hc;clear hc
  have hse:eI s=0:=by omega
  refine bG (XF.thenN (aL (aL (aR (aG rfl rfl (bX underlying51 rfl rfl (aG rfl rfl (aQ (XF.thenN (bM (dK (fun q l W=>∃ k:Nat,k≤1∧q=1 - k∧l=[(2,.pointer (some ⟨B1,0,none⟩)),(13,.slice (some ⟨b,0,none⟩) 1 1),(14,.int .i64 1),(15,.int .i64 (k:Int))]∧(1≤k→okW s x=true)∧St w [(B1,[.int .i64 s.f.tag,.int .i64 s.f.dim,.slice s.f.a s.f.len s.f.cap],25)] [] [] W) (1 - 0) ([(2,_),(13,_),(14,_),(15,_)]) ⟨rfl,rfl,rfl,rfl,trivial⟩ (⟨0,Nat.zero_le _,rfl,rfl,fun h=>by omega,hS.clear⟩) ?_)))))))))))
  clear hS
  rintro q l W ⟨k,hk1,rfl,rfl,hok,hS⟩
  refine aL (aR (cN rfl rfl rfl (aQ (XF.thenN (aL (aZ rfl (fun hc=>?_) (fun hc=>?_)))))))
  ·have hc16:=of_decide_eq_true hc;clear hc
   obtain rfl:k=0:=by omega
   have k1:=aE.agree hS.agree (Nat.zero_le _) hb0
   refine bG (XF.thenN (aL (bM (aL (aR (cK  underlying51 sizeOf53 rfl rfl rfl (by omega) rfl rfl (aS (vs:=[_,_,_,_,_,_]) isAgg53 sizeOf53 rfl (by assumption) rfl (bH (cs:=[_,_,_,_,_,_]) hS zeroValue53 rfl rfl fun B3 W3 hS=>aV (i:=0) (vs:=[_,_,_,_,_,_]) (cs':=[_,_,_,_,_,_]) (O':=[_,_]) hS sizeOf53 rfl rfl rfl rfl rfl rfl rfl fun W4 hS=>aQ (XF.thenN (aL (aR (aS (vs:=[_,_,_]) isAgg25 sizeOf25 rfl (aE.own (j:=0) (m:=3) (hS.at_ 1 rfl) rfl) rfl (aS (vs:=[_,_,_,_,_,_]) isAgg53 sizeOf53 rfl (aE.own (j:=0) (m:=6) (hS.at_ 0 rfl) rfl) rfl (cF (vs:=[_,_]) hS tE rfl (Qi (SIn.below hS.below hs) hse (WIn.below hS.below hx)) rfl fun W5 hS=>eA rfl rfl (aQ (XF.thenN (aZ rfl (fun hc=>?_) (fun hc=>?_))))))))))))))))))
   ·have hc22:=hc;clear hc
    refine aL (aR (aA rfl rfl (aQ (XF.thenN (bJ (XF.blkR (XF.thenR (XF.thenR (XF.blkR (XF.thenR (XF.res (cJ results61 rfl) ?_)))))))))))
    exact ⟨dR (by unfold kQ;rw [if_pos hse,if_neg (by simpa using hc22)]),hS.below⟩
   ·have hc22:=hc;clear hc
    refine bG (XF.blkN (XF.thenN (aR (cR rfl rfl (IntWalk.i64_in _ (by omega)) rfl (aG rfl rfl (aQ ?_))))))
    exact XF.round (1 - 1) [(2,_),(13,_),(14,_),(15,_)] (by omega) ⟨rfl,rfl,rfl,rfl,trivial⟩ ⟨1,by omega,rfl,rfl,fun _=>by simpa using hc22,hS.tail.clear⟩
  ·have hc16:=of_decide_eq_false hc;clear hc
   refine dE (XF.thenX (XF.thenX (XF.blkX (XF.thenN (aL (aR (aA rfl rfl (aQ (XF.thenN (bJ (XF.res (cJ results61 rfl) ?_)))))))))))
   exact ⟨dR (by unfold kQ;rw [if_pos hse,if_pos (hok (by omega))]),hS.below⟩
theorem Fu (ds da:Nat) (s:SV) (x:WV) (w:World) (hs:SIn w ds s) (hx:WIn w da x) :
  Calls prog 67 #[s.f.val,x.f.val] w (fun e w'=>e = .returned (.int .i64 (kQ s x))∧Below w.heap.size w w'):=by
 refine cH (args:=[s.f.val,x.f.val]) func67 rfl ntmps67 rfl ?_
 have hS:=St.start w
 refine aL (aR (bK (cs:=[_,_,_]) hS rfl rfl rfl fun B1 W1 hS=>bK (cs:=[_,_,_,_,_,_]) hS rfl rfl rfl fun B2 W2 hS=>aA rfl rfl (aQ (XF.thenN (aL (aR (aS (vs:=[_,_,_]) isAgg25 sizeOf25 rfl (aE.own (j:=0) (m:=3) (hS.at_ 1 rfl) rfl) rfl (aS (vs:=[_,_,_,_,_,_]) isAgg53 sizeOf53 rfl (aE.own (j:=0) (m:=6) (hS.at_ 0 rfl) rfl) rfl (cU (us:=[(0,.agg (List.toArray [_,_,_,_,_,_]))]) hS underlying51 sizeOf53 zeroValue53 rfl rfl rfl (Ck _ _ _ _ _ _) rfl fun B3 W3 hS=>cF (vs:=[_,_]) hS Cp rfl (xT ds da s x _ (SIn.below hS.below hs) (WIn.below hS.below hx) _ (aE.own (j:=0) (m:=6) (hS.at_ 0 rfl) rfl)) rfl fun W4 hS=>aA rfl rfl (aQ (XF.thenN (bJ (XF.res (cJ results67 rfl) ?_)))))))))))))
 exact ⟨rfl,hS.below⟩
theorem Fv (ds da:Nat) (s:SV) (x:WV) (w:World) (hs:SIn w ds s) (hx:WIn w da x) :
  Calls prog 70 #[s.f.val,x.f.val] w (fun e w'=>e = .returned (.int .i64 (kQ s x))∧Below w.heap.size w w'):=by
 refine cH (args:=[s.f.val,x.f.val]) func70 rfl ntmps70 rfl ?_
 have hS:=St.start w
 refine aL (aR (bK (cs:=[_,_,_]) hS rfl rfl rfl fun B1 W1 hS=>bK (cs:=[_,_,_,_,_,_]) hS rfl rfl rfl fun B2 W2 hS=>aA rfl rfl (aQ (XF.thenN (aL (aR (aS (vs:=[_,_,_]) isAgg25 sizeOf25 rfl (aE.own (j:=0) (m:=3) (hS.at_ 1 rfl) rfl) rfl (cF (vs:=[_]) hS vY rfl (uL ds s _ _ (SIn.below hS.below hs) rfl) rfl fun W3 hS=>aA rfl rfl (aQ (XF.thenN (aL (aL (aR (aG rfl rfl (dA rfl rfl rfl (aQ (XF.thenN (aZ rfl (fun hc=>?_) (fun hc=>?_)))))))))))))))))))
 ·have hc9:=of_decide_eq_true hc;clear hc
  refine aL (aR (aG rfl rfl (aA rfl rfl (aQ (XF.thenN (bJ (XF.thenR (XF.res (cJ results70 rfl) ?_))))))))
  exact ⟨dR (by unfold kQ;rw [if_neg hc9]),hS.below⟩
 ·have hc9:=of_decide_eq_false hc;clear hc
  have hse:eI s=0:=by omega
  refine bG (XF.thenN (aL (aL (aR (aS (vs:=[_,_,_]) isAgg25 sizeOf25 rfl (aE.own (j:=0) (m:=3) (hS.at_ 1 rfl) rfl) rfl (aS (vs:=[_,_,_,_,_,_]) isAgg53 sizeOf53 rfl (aE.own (j:=0) (m:=6) (hS.at_ 0 rfl) rfl) rfl (cF (vs:=[_,_]) hS wA rfl (Qj (SIn.below hS.below hs) hse (WIn.below hS.below hx)) rfl fun W4 hS=>eA rfl rfl (aQ (XF.thenN (aZ rfl (fun hc=>?_) (fun hc=>?_)))))))))))
  ·have hc14:=hc;clear hc
   refine aL (aR (aA rfl rfl (aQ (XF.thenN (bJ (XF.thenR (XF.res (cJ results70 rfl) ?_)))))))
   exact ⟨dR (by unfold kQ;rw [if_pos hse,if_neg (by simpa using hc14)]),hS.below⟩
  ·have hc14:=hc;clear hc
   refine bG (XF.thenN (aL (aR (aA rfl rfl (aQ (XF.thenN (bJ (XF.res (cJ results70 rfl) ?_))))))))
   exact ⟨dR (by unfold kQ;rw [if_pos hse,if_pos (by simpa using hc14)]),hS.below⟩
theorem xU (P0:PV) (n:Int) (w:World) :
  Calls prog 86 #[P0.val,.int .i64 n] w (fun e w'=>e = .returned (.bool (inQ n P0.st))∧Below w.heap.size w w'):=by
 refine cH (args:=[P0.val,.int .i64 n]) func86 rfl ntmps86 rfl ?_
 have hS:=St.start w
 refine aL (aR (bK (cs:=[_,_,_,_,_,_]) hS rfl rfl rfl fun B1 W1 hS=>aA rfl rfl (aQ (XF.thenN (aL (aR (aG rfl rfl (nY rfl rfl rfl (aG rfl rfl (bS (d:=7) rfl (fun hc=>?_) (fun hc=>?_)))))))))))
 ·have hg7:=of_decide_eq_true hc;clear hc
  refine aC (d:=7) rfl rfl (aG rfl rfl (aC (d:=7) rfl rfl (aP (o':=3) lA rfl rfl rfl (aC (d:=7) rfl rfl (aT isAgg3 rfl (aK (hS.at_ 0 rfl) rfl) rfl (aC (d:=7) rfl rfl (cN rfl rfl rfl (bC rfl rfl rfl (aA rfl rfl (aQ (XF.thenN (bJ (XF.res (cJ results86 rfl) ?_)))))))))))))
  exact ⟨bY (by simp [inQ,show 0≤n from hg7]),hS.below⟩
 ·have hg7:=of_decide_eq_false hc;clear hc
  refine aF (d:=7) rfl rfl rfl rfl (aF (d:=7) rfl rfl rfl rfl (aF (d:=7) rfl rfl rfl rfl (aF (d:=7) rfl rfl rfl rfl (bV rfl rfl rfl (aA rfl rfl (aQ (XF.thenN (bJ (XF.res (cJ results86 rfl) ?_)))))))))
  exact ⟨bY (by simp [inQ];omega),hS.below⟩
theorem vF (P0:PV) (n:Int) (w:World) :
  Calls prog 87 #[P0.val,.int .i64 n] w (fun e w'=>e = .returned (.bool (inQ n P0.sy))∧Below w.heap.size w w'):=by
 refine cH (args:=[P0.val,.int .i64 n]) func87 rfl ntmps87 rfl ?_
 have hS:=St.start w
 refine aL (aR (bK (cs:=[_,_,_,_,_,_]) hS rfl rfl rfl fun B1 W1 hS=>aA rfl rfl (aQ (XF.thenN (aL (aR (aG rfl rfl (nY rfl rfl rfl (aG rfl rfl (bS (d:=7) rfl (fun hc=>?_) (fun hc=>?_)))))))))))
 ·have hg7:=of_decide_eq_true hc;clear hc
  refine aC (d:=7) rfl rfl (aG rfl rfl (aC (d:=7) rfl rfl (aP (o':=4) lB rfl rfl rfl (aC (d:=7) rfl rfl (aT isAgg3 rfl (aK (hS.at_ 0 rfl) rfl) rfl (aC (d:=7) rfl rfl (cN rfl rfl rfl (bC rfl rfl rfl (aA rfl rfl (aQ (XF.thenN (bJ (XF.res (cJ results87 rfl) ?_)))))))))))))
  exact ⟨bY (by simp [inQ,show 0≤n from hg7]),hS.below⟩
 ·have hg7:=of_decide_eq_false hc;clear hc
  refine aF (d:=7) rfl rfl rfl rfl (aF (d:=7) rfl rfl rfl rfl (aF (d:=7) rfl rfl rfl rfl (aF (d:=7) rfl rfl rfl rfl (bV rfl rfl rfl (aA rfl rfl (aQ (XF.thenN (bJ (XF.res (cJ results87 rfl) ?_)))))))))
  exact ⟨bY (by simp [inQ];omega),hS.below⟩
theorem C7 (n m:Int) (w:World) :
  Calls prog 92 #[.int .i64 n,.int .i64 m] w (fun e w'=>e = .returned (.bool (inQ n m))∧Below w.heap.size w w'):=by
 refine cH (args:=[.int .i64 n,.int .i64 m]) func92 rfl ntmps92 rfl ?_
 have hS:=St.start w
 refine aL (aR (aA rfl rfl (aQ (XF.thenN (aL (aR (aG rfl rfl (nY rfl rfl rfl (aG rfl rfl (bS (d:=7) rfl (fun hc=>?_) (fun hc=>?_)))))))))))
 ·have hg7:=of_decide_eq_true hc;clear hc
  refine aC (d:=7) rfl rfl (aG rfl rfl (aC (d:=7) rfl rfl (aG rfl rfl (aC (d:=7) rfl rfl (cN rfl rfl rfl (bC rfl rfl rfl (aA rfl rfl (aQ (XF.thenN (bJ (XF.res (cJ results92 rfl) ?_)))))))))))
  exact ⟨bY (by simp [inQ,show 0≤n from hg7]),hS.below⟩
 ·have hg7:=of_decide_eq_false hc;clear hc
  refine aF (d:=7) rfl rfl rfl rfl (aF (d:=7) rfl rfl rfl rfl (aF (d:=7) rfl rfl rfl rfl (bV rfl rfl rfl (aA rfl rfl (aQ (XF.thenN (bJ (XF.res (cJ results92 rfl) ?_))))))))
  exact ⟨bY (by simp [inQ];omega),hS.below⟩
theorem ruleA_c (P0:PV) (p g q:Int) (wa:Option Addr) (wl wc:Nat) (ws:List Int) (x:WV) (w:World) (hrow:Row w wa ws) (hlen:ws.length=wl) :
  Calls prog 66 #[P0.val,.agg #[.int .i64 p,.int .i64 g,.int .i64 q,.slice wa wl wc,.bool x.f.z,.int .i64 x.f.c,.int .u64 (x.f.g:Int),.slice x.f.ra x.f.rl x.f.rc,.slice x.f.ca x.f.cl x.f.cc,.slice x.f.pa x.f.pl x.f.pc]] w (fun e w'=>e = .returned (.bool (fB P0.st P0.sy ⟨p,g,q,wa,wl,wc,ws,x⟩))∧Below w.heap.size w w'):=by
 refine cH (args:=[P0.val,.agg #[.int .i64 p,.int .i64 g,.int .i64 q,.slice wa wl wc,.bool x.f.z,.int .i64 x.f.c,.int .u64 (x.f.g:Int),.slice x.f.ra x.f.rl x.f.rc,.slice x.f.ca x.f.cl x.f.cc,.slice x.f.pa x.f.pl x.f.pc]]) func66 rfl ntmps66 rfl ?_
 have hS:=St.start w
 refine aL (aR (bK (cs:=[_,_,_,_,_,_]) hS rfl rfl rfl fun B1 W1 hS=>bK (cs:=[_,_,_,_,_,_,_,_,_,_]) hS rfl rfl rfl fun B2 W2 hS=>aA rfl rfl (aQ (XF.thenN (aL (aL (aR (aS (vs:=[_,_,_,_,_,_]) isAgg28 sizeOf28 rfl (aE.own (j:=0) (m:=6) (hS.at_ 1 rfl) rfl) rfl (aP (o':=0) mJ rfl rfl rfl (aT isAgg3 rfl (aK (hS.at_ 0 rfl) rfl) rfl (cF (vs:=[_,_]) hS J9 rfl (xU P0 p _) rfl fun W3 hS=>eA rfl rfl (aG rfl rfl (bS (d:=12) rfl (fun hc=>?_) (fun hc=>?_))))))))))))))
 ·have hg12:=hc;clear hc
  have e1:inQ p P0.st=false:=by simpa using hg12
  refine aF (d:=12) rfl rfl rfl rfl (aF (d:=12) rfl rfl rfl rfl (aF (d:=12) rfl rfl rfl rfl (aF (d:=12) rfl rfl rfl rfl (aF (d:=12) rfl rfl rfl rfl (bC rfl rfl rfl (aG rfl rfl (aF (d:=19) rfl rfl rfl rfl (aF (d:=19) rfl rfl rfl rfl (aF (d:=19) rfl rfl rfl rfl (aF (d:=19) rfl rfl rfl rfl (aF (d:=19) rfl rfl rfl rfl (bC rfl rfl rfl (aG rfl rfl (aF (d:=26) rfl rfl rfl rfl (aF (d:=26) rfl rfl rfl rfl (aF (d:=26) rfl rfl rfl rfl (aF (d:=26) rfl rfl rfl rfl (bC rfl rfl rfl (aQ (XF.thenN (dJ rfl ?_)))))))))))))))))))))
  refine aL (aR (aA rfl rfl (aQ (XF.thenN (bJ (XF.thenR (XF.res (cJ results66 rfl) ?_)))))))
  exact ⟨bY (by simp [fB,e1]),hS.below⟩
 ·have hg12:=hc;clear hc
  have e1:inQ p P0.st=true:=by simpa using hg12
  refine aC (d:=12) rfl rfl (aS (vs:=[_,_,_,_,_,_]) isAgg28 sizeOf28 rfl (aE.own (j:=0) (m:=6) (hS.at_ 1 rfl) rfl) rfl (aC (d:=12) rfl rfl (aP (o':=2) qJ rfl rfl rfl (aC (d:=12) rfl rfl (aT isAgg3 rfl (aK (hS.at_ 0 rfl) rfl) rfl (aC (d:=12) rfl rfl (cF (vs:=[_,_]) hS J9 rfl (xU P0 q _) rfl fun W4 hS=>aC (d:=12) rfl rfl (eA rfl rfl (bV rfl rfl rfl (aG rfl rfl (bS (d:=19) rfl (fun hc=>?_) (fun hc=>?_))))))))))))
  ·have hg19:=hc;clear hc
   have e2:inQ q P0.st=false:=by simpa using hg19
   refine aF (d:=19) rfl rfl rfl rfl (aF (d:=19) rfl rfl rfl rfl (aF (d:=19) rfl rfl rfl rfl (aF (d:=19) rfl rfl rfl rfl (aF (d:=19) rfl rfl rfl rfl (bC rfl rfl rfl (aG rfl rfl (aF (d:=26) rfl rfl rfl rfl (aF (d:=26) rfl rfl rfl rfl (aF (d:=26) rfl rfl rfl rfl (aF (d:=26) rfl rfl rfl rfl (bC rfl rfl rfl (aQ (XF.thenN (dJ rfl (aL (aR (aA rfl rfl (aQ (XF.thenN (bJ (XF.thenR (XF.res (cJ results66 rfl) ?_))))))))))))))))))))))
   exact ⟨bY (by simp [fB,e1,e2]),hS.below⟩
  ·have hg19:=hc;clear hc
   have e2:inQ q P0.st=true:=by simpa using hg19
   refine aC (d:=19) rfl rfl (aS (vs:=[_,_,_,_,_,_]) isAgg28 sizeOf28 rfl (aE.own (j:=0) (m:=6) (hS.at_ 1 rfl) rfl) rfl (aC (d:=19) rfl rfl (aP (o':=1) tF rfl rfl rfl (aC (d:=19) rfl rfl (aT isAgg3 rfl (aK (hS.at_ 0 rfl) rfl) rfl (aC (d:=19) rfl rfl (cF (vs:=[_,_]) hS Ka rfl (vF P0 g _) rfl fun W5 hS=>aC (d:=19) rfl rfl (eA rfl rfl (bV rfl rfl rfl (aG rfl rfl (bS (d:=26) rfl (fun hc=>?_) (fun hc=>?_))))))))))))
   ·have hg26:=hc;clear hc
    have e3:inQ g P0.sy=false:=by simpa using hg26
    refine aF (d:=26) rfl rfl rfl rfl (aF (d:=26) rfl rfl rfl rfl (aF (d:=26) rfl rfl rfl rfl (aF (d:=26) rfl rfl rfl rfl (bC rfl rfl rfl (aQ (XF.thenN (dJ rfl (aL (aR (aA rfl rfl (aQ (XF.thenN (bJ (XF.thenR (XF.res (cJ results66 rfl) ?_)))))))))))))))
    exact ⟨bY (by simp [fB,e1,e2,e3]),hS.below⟩
   ·have hg26:=hc;clear hc
    have e3:inQ g P0.sy=true:=by simpa using hg26
    refine aC (d:=26) rfl rfl (aP (o':=3) iC rfl rfl rfl (aC (d:=26) rfl rfl (aT isAgg29 rfl (aK (hS.at_ 0 rfl) rfl) rfl (aC (d:=26) rfl rfl (bX underlying29 rfl rfl (aC (d:=26) rfl rfl (dM rfl rfl rfl (bV rfl rfl rfl (aQ (XF.thenN (aZ rfl (fun hc=>?_) (fun hc=>?_))))))))))))
    ·have hc31:=of_decide_eq_true hc;clear hc
     have e4:decide (wl≤4096)=false:=by simp;omega
     refine aL (aR (aA rfl rfl (aQ (XF.thenN (bJ (XF.thenR (XF.res (cJ results66 rfl) ?_)))))))
     exact ⟨bY (by simp [fB,e1,e2,e3,e4]),hS.below⟩
    ·have hc31:=of_decide_eq_false hc;clear hc
     have e4:decide (wl≤4096)=true:=by simp;omega
     refine bG (XF.thenN (aL (aL (aR (aP (o':=3) iC rfl rfl rfl (aT isAgg29 rfl (aK (hS.at_ 0 rfl) rfl) rfl (bX underlying29 rfl rfl (aG rfl rfl (aQ (XF.thenN (bM (dK (fun m l W=>∃ i:Nat,i≤wl∧m=wl - i∧l=[(2,.pointer (some ⟨B1,0,none⟩)),(33,.slice wa wl wc),(34,.int .i64 (wl:Int)),(35,.int .i64 (i:Int))]∧(ws.take i).all (fun y=>inQ y P0.sy)=true∧St w [(B2,[.int .i64 p,.int .i64 g,.int .i64 q,.slice wa wl wc,.bool x.f.z,.int .i64 x.f.c,.int .u64 (x.f.g:Int),.slice x.f.ra x.f.rl x.f.rc,.slice x.f.ca x.f.cl x.f.cc,.slice x.f.pa x.f.pl x.f.pc],62),(B1,P0.six,28)] [] [] W) (wl - 0) ([(2,_),(33,_),(34,_),(35,_)]) ⟨rfl,rfl,rfl,rfl,trivial⟩ (⟨0,Nat.zero_le _,rfl,rfl,rfl,hS.clear⟩) ?_))))))))))))
     clear hS
     rintro m l W ⟨i,hi,rfl,rfl,hall,hS⟩
     refine aL (aR (cN rfl rfl rfl (aQ (XF.thenN (aL (aZ rfl (fun hc=>?_) (fun hc=>?_)))))))
     ·have hc36:=of_decide_eq_true hc;clear hc
      have hk:i < wl:=by omega
      obtain ⟨b,off,y,rfl,hy,hyc⟩:=hrow.at1 (show i < ws.length by omega)
      have k1:=hS.old hyc
      refine bG (XF.thenN (aL (bM (aL (aR (cK  underlying29 sizeOf3 rfl rfl rfl (by omega) rfl rfl (aT isAgg3 rfl (by first | assumption | exact hS.old (by assumption)) rfl (aA rfl rfl (aQ (XF.thenN (aL (aR (aS (vs:=[_,_,_,_,_,_]) isAgg28 sizeOf28 rfl (aE.own (j:=0) (m:=6) (hS.at_ 1 rfl) rfl) rfl (aG rfl rfl (cF (vs:=[_,_]) hS Ka rfl (vF P0 y _) rfl fun W6 hS=>eA rfl rfl (aQ (XF.thenN (aZ rfl (fun hc=>?_) (fun hc=>?_)))))))))))))))))))
      ·have hc42:=hc;clear hc
       refine aL (aR (aA rfl rfl (aQ (XF.thenN (bJ (XF.blkR (XF.thenR (XF.thenR (XF.blkR (XF.thenR (XF.res (cJ results66 rfl) ?_)))))))))))
       exact ⟨bY (by simp only [fB];rw [fD hy (by simpa using hc42)];simp),hS.below⟩
      ·have hc42:=hc;clear hc
       refine bG (XF.blkN (XF.thenN (aR (cR rfl rfl (IntWalk.i64_in _ (by omega)) rfl (aG rfl rfl (aQ ?_))))))
       exact XF.round (wl - (i+1)) [(2,_),(33,_),(34,_),(35,_)] (by omega) ⟨rfl,rfl,rfl,rfl,trivial⟩ ⟨i+1,by omega,rfl,rfl,fS hy hall (by simpa using hc42),hS.clear⟩
     ·have hc36:=of_decide_eq_false hc;clear hc
      refine dE (XF.thenX (XF.thenX (XF.blkX (XF.thenN (aL (aR (aA rfl rfl (aQ (XF.thenN (bJ (XF.res (cJ results66 rfl) ?_)))))))))))
      rw [List.take_of_length_le (by omega)] at hall
      exact ⟨bY (by simp [fB,e1,e2,e3,e4,hall]),hS.below⟩
theorem ruleR_c (P0:PV) (p g q:Int) (wa:Option Addr) (wl wc:Nat) (ws:List Int) (x:WV) (w:World) (hrow:Row w wa ws) (hlen:ws.length=wl) :
  Calls prog 69 #[P0.val,.agg #[.int .i64 p,.int .i64 g,.int .i64 q,.slice wa wl wc,.bool x.f.z,.int .i64 x.f.c,.int .u64 (x.f.g:Int),.slice x.f.ra x.f.rl x.f.rc,.slice x.f.ca x.f.cl x.f.cc,.slice x.f.pa x.f.pl x.f.pc]] w (fun e w'=>e = .returned (.bool (fB P0.st P0.sy ⟨p,g,q,wa,wl,wc,ws,x⟩))∧Below w.heap.size w w'):=by
 refine cH (args:=[P0.val,.agg #[.int .i64 p,.int .i64 g,.int .i64 q,.slice wa wl wc,.bool x.f.z,.int .i64 x.f.c,.int .u64 (x.f.g:Int),.slice x.f.ra x.f.rl x.f.rc,.slice x.f.ca x.f.cl x.f.cc,.slice x.f.pa x.f.pl x.f.pc]]) func69 rfl ntmps69 rfl ?_
 have hS:=St.start w
 refine aL (aR (bK (cs:=[_,_,_,_,_,_]) hS rfl rfl rfl fun B1 W1 hS=>bK (cs:=[_,_,_,_,_,_,_,_,_,_]) hS rfl rfl rfl fun B2 W2 hS=>aA rfl rfl (aQ (XF.thenN (aL (aL (aR (aP (o':=0) mJ rfl rfl rfl (aT isAgg3 rfl (aK (hS.at_ 0 rfl) rfl) rfl (aP (o':=3) lA rfl rfl rfl (aT isAgg3 rfl (aK (hS.at_ 1 rfl) rfl) rfl (cF (vs:=[_,_]) hS wD rfl (C7 p P0.st _) rfl fun W3 hS=>eA rfl rfl (aG rfl rfl (bS (d:=12) rfl (fun hc=>?_) (fun hc=>?_)))))))))))))))
 ·have hg12:=hc;clear hc
  have e1:inQ p P0.st=false:=by simpa using hg12
  refine aF (d:=12) rfl rfl rfl rfl (aF (d:=12) rfl rfl rfl rfl (aF (d:=12) rfl rfl rfl rfl (aF (d:=12) rfl rfl rfl rfl (aF (d:=12) rfl rfl rfl rfl (aF (d:=12) rfl rfl rfl rfl (bC rfl rfl rfl (aG rfl rfl (aF (d:=20) rfl rfl rfl rfl (aF (d:=20) rfl rfl rfl rfl (aF (d:=20) rfl rfl rfl rfl (aF (d:=20) rfl rfl rfl rfl (aF (d:=20) rfl rfl rfl rfl (aF (d:=20) rfl rfl rfl rfl (bC rfl rfl rfl (aG rfl rfl (aF (d:=28) rfl rfl rfl rfl (aF (d:=28) rfl rfl rfl rfl (aF (d:=28) rfl rfl rfl rfl (aF (d:=28) rfl rfl rfl rfl (bC rfl rfl rfl ?_))))))))))))))))))))
  refine aQ (XF.thenN (dJ rfl (aL (aR (aA rfl rfl (aQ (XF.thenN (bJ (XF.thenR (XF.res (cJ results69 rfl) ?_))))))))))
  exact ⟨bY (by simp [fB,e1]),hS.below⟩
 ·have hg12:=hc;clear hc
  have e1:inQ p P0.st=true:=by simpa using hg12
  refine aC (d:=12) rfl rfl (aP (o':=2) qJ rfl rfl rfl (aC (d:=12) rfl rfl (aT isAgg3 rfl (aK (hS.at_ 0 rfl) rfl) rfl (aC (d:=12) rfl rfl (aP (o':=3) lA rfl rfl rfl (aC (d:=12) rfl rfl (aT isAgg3 rfl (aK (hS.at_ 1 rfl) rfl) rfl (aC (d:=12) rfl rfl (cF (vs:=[_,_]) hS wD rfl (C7 q P0.st _) rfl fun W4 hS=>aC (d:=12) rfl rfl (eA rfl rfl (bV rfl rfl rfl (aG rfl rfl (bS (d:=20) rfl (fun hc=>?_) (fun hc=>?_))))))))))))))
  ·have hg20:=hc;clear hc
   have e2:inQ q P0.st=false:=by simpa using hg20
   refine aF (d:=20) rfl rfl rfl rfl (aF (d:=20) rfl rfl rfl rfl (aF (d:=20) rfl rfl rfl rfl (aF (d:=20) rfl rfl rfl rfl (aF (d:=20) rfl rfl rfl rfl (aF (d:=20) rfl rfl rfl rfl (bC rfl rfl rfl (aG rfl rfl (aF (d:=28) rfl rfl rfl rfl (aF (d:=28) rfl rfl rfl rfl (aF (d:=28) rfl rfl rfl rfl (aF (d:=28) rfl rfl rfl rfl (bC rfl rfl rfl (aQ (XF.thenN (dJ rfl (aL (aR (aA rfl rfl (aQ (XF.thenN (bJ (XF.thenR (XF.res (cJ results69 rfl) ?_)))))))))))))))))))))))
   exact ⟨bY (by simp [fB,e1,e2]),hS.below⟩
  ·have hg20:=hc;clear hc
   have e2:inQ q P0.st=true:=by simpa using hg20
   refine aC (d:=20) rfl rfl (aP (o':=1) tF rfl rfl rfl (aC (d:=20) rfl rfl (aT isAgg3 rfl (aK (hS.at_ 0 rfl) rfl) rfl (aC (d:=20) rfl rfl (aP (o':=4) lB rfl rfl rfl (aC (d:=20) rfl rfl (aT isAgg3 rfl (aK (hS.at_ 1 rfl) rfl) rfl (aC (d:=20) rfl rfl (cF (vs:=[_,_]) hS wD rfl (C7 g P0.sy _) rfl fun W5 hS=>aC (d:=20) rfl rfl (eA rfl rfl (bV rfl rfl rfl (aG rfl rfl (bS (d:=28) rfl (fun hc=>?_) (fun hc=>?_))))))))))))))
   ·have hg28:=hc;clear hc
    have e3:inQ g P0.sy=false:=by simpa using hg28
    refine aF (d:=28) rfl rfl rfl rfl (aF (d:=28) rfl rfl rfl rfl (aF (d:=28) rfl rfl rfl rfl (aF (d:=28) rfl rfl rfl rfl (bC rfl rfl rfl (aQ (XF.thenN (dJ rfl (aL (aR (aA rfl rfl (aQ (XF.thenN (bJ (XF.thenR (XF.res (cJ results69 rfl) ?_)))))))))))))))
    exact ⟨bY (by simp [fB,e1,e2,e3]),hS.below⟩
   ·have hg28:=hc;clear hc
    have e3:inQ g P0.sy=true:=by simpa using hg28
    refine aC (d:=28) rfl rfl (aP (o':=3) iC rfl rfl rfl (aC (d:=28) rfl rfl (aT isAgg29 rfl (aK (hS.at_ 0 rfl) rfl) rfl (aC (d:=28) rfl rfl (bX underlying29 rfl rfl (aC (d:=28) rfl rfl (dM rfl rfl rfl (bV rfl rfl rfl (aQ (XF.thenN (aZ rfl (fun hc=>?_) (fun hc=>?_))))))))))))
    ·have hc33:=of_decide_eq_true hc;clear hc
     have e4:decide (wl≤4096)=false:=by simp;omega
     refine aL (aR (aA rfl rfl (aQ (XF.thenN (bJ (XF.thenR (XF.res (cJ results69 rfl) ?_)))))))
     exact ⟨bY (by simp [fB,e1,e2,e3,e4]),hS.below⟩
    ·have hc33:=of_decide_eq_false hc;clear hc
     have e4:decide (wl≤4096)=true:=by simp;omega
     refine bG (XF.thenN (aL (aL (aR (aA rfl rfl (aQ (XF.thenN (bM (dK (fun m l W=>∃ i:Nat,i≤wl∧m=wl - i∧l=[(2,.pointer (some ⟨B1,0,none⟩)),(3,.pointer (some ⟨B2,0,none⟩)),(5,.int .i64 (i:Int))]∧(ws.take i).all (fun y=>inQ y P0.sy)=true∧St w [(B2,[.int .i64 p,.int .i64 g,.int .i64 q,.slice wa wl wc,.bool x.f.z,.int .i64 x.f.c,.int .u64 (x.f.g:Int),.slice x.f.ra x.f.rl x.f.rc,.slice x.f.ca x.f.cl x.f.cc,.slice x.f.pa x.f.pl x.f.pc],62),(B1,P0.six,28)] [] [] W) (wl - 0) ([(2,_),(3,_),(5,_)]) ⟨rfl,rfl,rfl,trivial⟩ (⟨0,Nat.zero_le _,rfl,rfl,rfl,hS.clear⟩) ?_)))))))))
     clear hS
     rintro m l W ⟨i,hi,rfl,rfl,hall,hS⟩
     refine aL (aL (aR (aG rfl rfl (aP (o':=3) iC rfl rfl rfl (aT isAgg29 rfl (aK (hS.at_ 0 rfl) rfl) rfl (bX underlying29 rfl rfl (cN rfl rfl rfl (aQ (XF.thenN (aZ rfl (fun hc=>?_) (fun hc=>?_)))))))))))
     ·have hc38:=of_decide_eq_true hc;clear hc
      have hk:i < wl:=by omega
      obtain ⟨b,off,y,rfl,hy,hyc⟩:=hrow.at1 (show i < ws.length by omega)
      have k1:=hS.old hyc
      refine bG (XF.thenN (aL (bM (aL (iE (m:=9) cE hS (by kernel_rfl) (by kernel_rfl) rfl (cC 1 rfl 3 rfl rfl (fun w hw=>aW (o':=3) iC rfl rfl) rfl (aX 2 rfl 41 0 rfl rfl rfl (fun w hw=>bA isAgg29 rfl ((aN hw 0).cell (Nat.zero_le _) (aK (hS.at_ 0 rfl) rfl))) rfl (cC 3 rfl 5 rfl rfl (fun w hw=>bE rfl) rfl (aM 4 rfl (isV _) (aJ _) (rgV (li:=[(42,_),(43,_)]) rfl (aU rfl) ⟨aO 1 (aB rfl rfl rfl),aO 2 (aB rfl rfl rfl),trivial⟩ (fun w hw=>bB  underlying29 sizeOf3 rfl rfl rfl (by omega) rfl) (aH rfl)) (aX 5 rfl 44 3 rfl rfl rfl (fun w hw=>bA isAgg3 rfl ((aN hw 0).cell (Nat.zero_le _) (by assumption))) rfl (cC 6 rfl 2 rfl rfl (fun w hw=>aW (o':=4) lB rfl rfl) rfl (aX 7 rfl 46 5 rfl rfl rfl (fun w hw=>bA isAgg3 rfl ((aN hw 0).cell (Nat.zero_le _) (aK (hS.at_ 1 rfl) rfl))) rfl ?_))))))))))))
      refine aM 8 rfl (isV (.bool (inQ y P0.sy))) (aJ _) (cV [isV _,isV _] rfl wD (aU rfl) ⟨bZ (aO 4 (aB rfl rfl rfl)),bZ (aO 6 (aB rfl rfl rfl)),trivial⟩ (fun vs w' hb hh=>by have e:=cB (us:=[_,_]) hh;subst e;exact (C7 y P0.sy _).mono fun e w2 h=>⟨_,h.1,rfl,h.2⟩) (aH rfl)) ?_
      refine aX 9 rfl 48 7 rfl rfl rfl (fun w hw=>jU rfl) rfl (dC ?_)
      intro W6 hbR hS'
      clear hS;have hS:=hS';clear hS'
      refine aI (aI (aI (aI (aI (aI (aI (aI (aI (cL (XF.thenN (aZ rfl (fun hc=>?_) (fun hc=>?_))))))))))))
      ·have hc49:=hc;clear hc
       refine aL (aR (aA rfl rfl (aQ (XF.thenN (bJ (XF.blkR (XF.thenR (XF.thenR (XF.blkR (XF.thenR (XF.res (cJ results69 rfl) ?_)))))))))))
       exact ⟨bY (by simp only [fB];rw [fD hy (by simpa using hc49)];simp),hS.below⟩
      ·have hc49:=hc;clear hc
       refine bG (XF.blkN (XF.thenN (aR (aG rfl rfl (cR rfl rfl (IntWalk.i64_in _ (by omega)) rfl (aA rfl rfl (aQ ?_)))))))
       exact XF.round (wl - (i+1)) [(2,_),(3,_),(5,_)] (by omega) ⟨rfl,rfl,rfl,trivial⟩ ⟨i+1,by omega,rfl,rfl,fS hy hall (by simpa using hc49),hS.clear⟩
     ·have hc38:=of_decide_eq_false hc;clear hc
      refine dE (XF.thenX (XF.thenX (XF.blkX (XF.thenN (aL (aR (aA rfl rfl (aQ (XF.thenN (bJ (XF.res (cJ results69 rfl) ?_)))))))))))
      rw [List.take_of_length_le (by omega)] at hall
      exact ⟨bY (by simp [fB,e1,e2,e3,e4,hall]),hS.below⟩
theorem Qk {w:World} {d:Nat} (P0:PV) {r:RV} (h:RIn w d r):Calls prog 66 #[P0.val,r.val] w (fun e w'=>e = .returned (.bool (fB P0.st P0.sy r))∧Below w.heap.size w w'):=ruleA_c P0 _ _ _ _ _ _ _ _ w h.row h.len
theorem Ql {w:World} {d:Nat} (P0:PV) {r:RV} (h:RIn w d r):Calls prog 69 #[P0.val,r.val] w (fun e w'=>e = .returned (.bool (fB P0.st P0.sy r))∧Below w.heap.size w w'):=ruleR_c P0 _ _ _ _ _ _ _ _ w h.row h.len
theorem pdsA_c (ds d:Nat) (s:SV) (st sy:Int) (ra:Option Addr) (rl rc:Nat) (rs:List RV) (w:World) (hs:SIn w ds s) (hrow:lD w ra rs) (hlen:rs.length=rl) (hin:∀ r∈rs,RIn w d r) :
  Calls prog 46 #[.agg #[.int .i64 s.f.tag,.int .i64 s.f.dim,.slice s.f.a s.f.len s.f.cap,.int .i64 st,.int .i64 sy,.slice ra rl rc]] w (fun e w'=>e = .returned (.int .i64 (gX ⟨s,st,sy,ra,rl,rc,rs⟩))∧Below w.heap.size w w'):=by
 refine cH (args:=[.agg #[.int .i64 s.f.tag,.int .i64 s.f.dim,.slice s.f.a s.f.len s.f.cap,.int .i64 st,.int .i64 sy,.slice ra rl rc]]) func46 rfl ntmps46 rfl ?_
 have hS:=St.start w
 refine aL (aR (bK (cs:=[_,_,_,_,_,_]) hS rfl rfl rfl fun B1 W1 hS=>aA rfl rfl (aQ (XF.thenN (aL (aL (aR (aP (o':=0) jE rfl rfl rfl (aS (vs:=[_,_,_]) isAgg25 sizeOf25 rfl (aE.own (j:=0) (m:=3) (hS.at_ 0 rfl) rfl) rfl (cF (vs:=[_]) hS tC rfl (uB ds s _ _ (SIn.below hS.below hs) rfl) rfl fun W2 hS=>aA rfl rfl (aQ (XF.thenN (aL (aR (aG rfl rfl (dA rfl rfl rfl (aQ (XF.thenN (aZ rfl (fun hc=>?_) (fun hc=>?_))))))))))))))))))))
 ·have hc13:=of_decide_eq_true hc;clear hc
  refine aL (aR (aG rfl rfl (aA rfl rfl (aQ (XF.thenN (bJ (XF.thenR (XF.res (cJ results46 rfl) ?_))))))))
  exact ⟨dR (by simp only [gX];rw [if_pos hc13]),hS.below⟩
 ·have hc13:=of_decide_eq_false hc;clear hc
  have h0:¬ eI s≠0:=hc13
  refine bG (XF.thenN (aL (aL (aR (aP (o':=5) eX rfl rfl rfl (aT isAgg26 rfl (aK (hS.at_ 0 rfl) rfl) rfl (bX underlying26 rfl rfl (dM rfl rfl rfl (aQ (XF.thenN (aZ rfl (fun hc=>?_) (fun hc=>?_))))))))))))
  ·have hc18:=of_decide_eq_true hc;clear hc
   refine aL (aR (aA rfl rfl (aQ (XF.thenN (bJ (XF.thenR (XF.res (cJ results46 rfl) ?_)))))))
   exact ⟨dR (by simp only [gX];rw [if_neg h0,if_pos (by omega)]),hS.below⟩
  ·have hc18:=of_decide_eq_false hc;clear hc
   have h1:¬ 16384 < rl:=by omega
   refine bG (XF.thenN (aL (aL (aR (aP (o':=3) lA rfl rfl rfl (aT isAgg3 rfl (aK (hS.at_ 0 rfl) rfl) rfl (cN rfl rfl rfl (aG rfl rfl (bS (d:=22) rfl (fun hc=>?_) (fun hc=>?_))))))))))
   ·have hg22:=of_decide_eq_true hc;clear hc
    refine aF (d:=22) rfl rfl rfl rfl (aF (d:=22) rfl rfl rfl rfl (aF (d:=22) rfl rfl rfl rfl (bC rfl rfl rfl (aG rfl rfl (aF (d:=27) rfl rfl rfl rfl (aF (d:=27) rfl rfl rfl rfl (aF (d:=27) rfl rfl rfl rfl (bC rfl rfl rfl (aG rfl rfl (aF (d:=32) rfl rfl rfl rfl (aF (d:=32) rfl rfl rfl rfl (aF (d:=32) rfl rfl rfl rfl (bC rfl rfl rfl (aQ (XF.thenN (dJ rfl (aL (aR (aA rfl rfl (aQ (XF.thenN (bJ (XF.thenR ?_)))))))))))))))))))))))
    refine XF.res (cJ results46 rfl) ?_
    exact ⟨dR (by simp only [gX];rw [if_neg h0,if_neg h1,if_pos (by omega)]),hS.below⟩
   ·have hg22:=of_decide_eq_false hc;clear hc
    refine aC (d:=22) rfl rfl (aP (o':=3) lA rfl rfl rfl (aC (d:=22) rfl rfl (aT isAgg3 rfl (aK (hS.at_ 0 rfl) rfl) rfl (aC (d:=22) rfl rfl (dM rfl rfl rfl (bV rfl rfl rfl (aG rfl rfl (bS (d:=27) rfl (fun hc=>?_) (fun hc=>?_)))))))))
    ·have hg27:=of_decide_eq_true hc;clear hc
     refine aF (d:=27) rfl rfl rfl rfl (aF (d:=27) rfl rfl rfl rfl (aF (d:=27) rfl rfl rfl rfl (bC rfl rfl rfl (aG rfl rfl (aF (d:=32) rfl rfl rfl rfl (aF (d:=32) rfl rfl rfl rfl (aF (d:=32) rfl rfl rfl rfl (bC rfl rfl rfl (aQ (XF.thenN (dJ rfl (aL (aR (aA rfl rfl (aQ (XF.thenN (bJ (XF.thenR (XF.res (cJ results46 rfl) ?_)))))))))))))))))))
     exact ⟨dR (by simp only [gX];rw [if_neg h0,if_neg h1,if_pos (by omega)]),hS.below⟩
    ·have hg27:=of_decide_eq_false hc;clear hc
     refine aC (d:=27) rfl rfl (aP (o':=4) lB rfl rfl rfl (aC (d:=27) rfl rfl (aT isAgg3 rfl (aK (hS.at_ 0 rfl) rfl) rfl (aC (d:=27) rfl rfl (cN rfl rfl rfl (bV rfl rfl rfl (aG rfl rfl (bS (d:=32) rfl (fun hc=>?_) (fun hc=>?_)))))))))
     ·have hg32:=of_decide_eq_true hc;clear hc
      refine aF (d:=32) rfl rfl rfl rfl (aF (d:=32) rfl rfl rfl rfl (aF (d:=32) rfl rfl rfl rfl (bC rfl rfl rfl (aQ (XF.thenN (dJ rfl (aL (aR (aA rfl rfl (aQ (XF.thenN (bJ (XF.thenR (XF.res (cJ results46 rfl) ?_))))))))))))))
      exact ⟨dR (by simp only [gX];rw [if_neg h0,if_neg h1,if_pos (by omega)]),hS.below⟩
     ·have hg32:=of_decide_eq_false hc;clear hc
      refine aC (d:=32) rfl rfl (aP (o':=4) lB rfl rfl rfl (aC (d:=32) rfl rfl (aT isAgg3 rfl (aK (hS.at_ 0 rfl) rfl) rfl (aC (d:=32) rfl rfl (dM rfl rfl rfl (bV rfl rfl rfl (aQ (XF.thenN (aZ rfl (fun hc=>?_) (fun hc=>?_))))))))))
      ·have hc36:=of_decide_eq_true hc;clear hc
       refine aL (aR (aA rfl rfl (aQ (XF.thenN (bJ (XF.thenR (XF.res (cJ results46 rfl) ?_)))))))
       exact ⟨dR (by simp only [gX];rw [if_neg h0,if_neg h1,if_pos (by omega)]),hS.below⟩
      ·have hc36:=of_decide_eq_false hc;clear hc
       have h2:¬ (st < 0∨4096 < st∨sy < 0∨4096 < sy):=by omega
       refine bG (XF.thenN (aL (aL (aR (aP (o':=5) eX rfl rfl rfl (aT isAgg26 rfl (aK (hS.at_ 0 rfl) rfl) rfl (bX underlying26 rfl rfl (aG rfl rfl (aQ (XF.thenN (bM (dK (fun m l W=>∃ i:Nat,i≤rl∧m=rl - i∧l=[(1,.pointer (some ⟨B1,0,none⟩)),(38,.slice ra rl rc),(39,.int .i64 (rl:Int)),(40,.int .i64 (i:Int))]∧(rs.take i).all (fB st sy)=true∧St w [(B1,[.int .i64 s.f.tag,.int .i64 s.f.dim,.slice s.f.a s.f.len s.f.cap,.int .i64 st,.int .i64 sy,.slice ra rl rc],28)] [] [] W) (rl - 0) ([(1,_),(38,_),(39,_),(40,_)]) ⟨rfl,rfl,rfl,rfl,trivial⟩ (⟨0,Nat.zero_le _,rfl,rfl,rfl,hS.clear⟩) ?_))))))))))))
       clear hS
       rintro m l W ⟨i,hi,rfl,rfl,hall,hS⟩
       refine aL (aR (cN rfl rfl rfl (aQ (XF.thenN (aL (aZ rfl (fun hc=>?_) (fun hc=>?_)))))))
       ·have hc41:=of_decide_eq_true hc;clear hc
        have hk:i < rl:=by omega
        obtain ⟨r,hr⟩:∃ r,rs[i]?=some r:=⟨rs[i]'(by omega),by simp [show i < rs.length by omega]⟩
        obtain ⟨b,off,rfl,hcs⟩:=hrow.at_ hr
        have k1:=aE.agree hS.agree (Nat.zero_le _) hcs
        have k2:=k1.2.2.2.2
        have hri:=hin r (List.mem_of_getElem? hr)
        refine bG (XF.thenN (aL (bM (aL (aR (cK  underlying26 sizeOf62 rfl rfl rfl (by omega) rfl rfl (aS (vs:=[_,_,_,_,_,_,_,_,_,_]) isAgg62 sizeOf62 rfl (by assumption) rfl (bH (cs:=[_,_,_,_,_,_,_,_,_,_]) hS zeroValue62 rfl rfl fun B3 W3 hS=>aV (i:=0) (vs:=[_,_,_,_,_,_,_,_,_,_]) (cs':=[_,_,_,_,_,_,_,_,_,_]) (O':=[_,_]) hS sizeOf62 rfl rfl rfl rfl rfl rfl rfl fun W4 hS=>aQ (XF.thenN (aL (aR (aS (vs:=[_,_,_,_,_,_]) isAgg28 sizeOf28 rfl (aE.own (j:=0) (m:=6) (hS.at_ 1 rfl) rfl) rfl (aS (vs:=[_,_,_,_,_,_,_,_,_,_]) isAgg62 sizeOf62 rfl (aE.own (j:=0) (m:=10) (hS.at_ 0 rfl) rfl) rfl (cF (vs:=[_,_]) hS goes_66 rfl (Qk ⟨s,st,sy,_,rl,rc,rs⟩ (hri.below hS.below)) rfl fun W5 hS=>eA rfl rfl (aQ (XF.thenN (aZ rfl (fun hc=>?_) (fun hc=>?_))))))))))))))))))
        ·have hc47:=hc;clear hc
         refine aL (aR (aA rfl rfl (aQ (XF.thenN (bJ (XF.blkR (XF.thenR (XF.thenR (XF.blkR (XF.thenR (XF.res (cJ results46 rfl) ?_)))))))))))
         exact ⟨dR (by simp only [gX];rw [if_neg h0,if_neg h1,if_neg h2,if_neg (by rw [fD hr (by simpa using hc47)];simp)]),hS.below⟩
        ·have hc47:=hc;clear hc
         refine bG (XF.blkN (XF.thenN (aR (cR rfl rfl (IntWalk.i64_in _ (by omega)) rfl (aG rfl rfl (aQ ?_))))))
         exact XF.round (rl - (i+1)) [(1,_),(38,_),(39,_),(40,_)] (by omega) ⟨rfl,rfl,rfl,rfl,trivial⟩ ⟨i+1,by omega,rfl,rfl,fS hr hall (by simpa using hc47),hS.tail.clear⟩
       ·have hc41:=of_decide_eq_false hc;clear hc
        rw [List.take_of_length_le (by omega)] at hall
        refine dE (XF.thenX (XF.thenX (XF.blkX (XF.thenN (aL (aL (aR (aP (o':=5) eX rfl rfl rfl (aT isAgg26 rfl (aK (hS.at_ 0 rfl) rfl) rfl (bX underlying26 rfl rfl (aG rfl rfl (aQ (XF.thenN (bM (dK (fun m l W=>∃ i:Nat,i≤rl∧m=rl - i∧l=[(1,.pointer (some ⟨B1,0,none⟩)),(50,.slice ra rl rc),(51,.int .i64 (rl:Int)),(52,.int .i64 (i:Int))]∧(rs.take i).all (fun r=>decide (kQ s r.x=0))=true∧St w [(B1,[.int .i64 s.f.tag,.int .i64 s.f.dim,.slice s.f.a s.f.len s.f.cap,.int .i64 st,.int .i64 sy,.slice ra rl rc],28)] [] [] W) (rl - 0) ([(1,_),(50,_),(51,_),(52,_)]) ⟨rfl,rfl,rfl,rfl,trivial⟩ (⟨0,Nat.zero_le _,rfl,rfl,rfl,hS.clear⟩) ?_)))))))))))))))
        clear hS
        rintro m l W ⟨i,hi,rfl,rfl,hall2,hS⟩
        refine aL (aR (cN rfl rfl rfl (aQ (XF.thenN (aL (aZ rfl (fun hc=>?_) (fun hc=>?_)))))))
        ·have hc53:=of_decide_eq_true hc;clear hc
         have hk:i < rl:=by omega
         obtain ⟨r,hr⟩:∃ r,rs[i]?=some r:=⟨rs[i]'(by omega),by simp [show i < rs.length by omega]⟩
         obtain ⟨b,off,rfl,hcs⟩:=hrow.at_ hr
         have k1:=aE.agree hS.agree (Nat.zero_le _) hcs
         have k2:=k1.2.2.2.2
         have hri:=hin r (List.mem_of_getElem? hr)
         refine bG (XF.thenN (aL (bM (aL (aR (cK  underlying26 sizeOf62 rfl rfl rfl (by omega) rfl rfl (aS (vs:=[_,_,_,_,_,_,_,_,_,_]) isAgg62 sizeOf62 rfl (by assumption) rfl (bH (cs:=[_,_,_,_,_,_,_,_,_,_]) hS zeroValue62 rfl rfl fun B6 W6 hS=>aV (i:=0) (vs:=[_,_,_,_,_,_,_,_,_,_]) (cs':=[_,_,_,_,_,_,_,_,_,_]) (O':=[_,_]) hS sizeOf62 rfl rfl rfl rfl rfl rfl rfl fun W7 hS=>aQ (XF.thenN (aL (aR (aP (o':=0) jE rfl rfl rfl (aS (vs:=[_,_,_]) isAgg25 sizeOf25 rfl (aE.own (j:=0) (m:=3) (hS.at_ 1 rfl) rfl) rfl (aP (o':=4) tG rfl rfl rfl (aS (vs:=[_,_,_,_,_,_]) isAgg53 sizeOf53 rfl (aE.own (j:=4) (m:=6) (hS.at_ 0 rfl) rfl) rfl (cF (vs:=[_,_]) hS goes_67 rfl (Fu ds d s r.x _ (SIn.below hS.below hs) (WIn.below hS.below hri.x)) rfl fun W8 hS=>aA rfl rfl (aQ (XF.thenN (aL (aR (aG rfl rfl (dA rfl rfl rfl ?_))))))))))))))))))))))
         refine aQ (XF.thenN (aZ rfl (fun hc=>?_) (fun hc=>?_)))
         ·have hc62:=of_decide_eq_true hc;clear hc
          refine aL (aR (aG rfl rfl (aA rfl rfl (aQ (XF.thenN (bJ (XF.blkR (XF.thenR (XF.thenR (XF.blkR (XF.thenR (XF.res (cJ results46 rfl) ?_))))))))))))
          exact ⟨dR (by simp only [gX];rw [if_neg h0,if_neg h1,if_neg h2,if_pos hall,Il hr hall2 hc62]),hS.below⟩
         ·have hc62:=of_decide_eq_false hc;clear hc
          refine bG (XF.blkN (XF.thenN (aR (cR rfl rfl (IntWalk.i64_in _ (by omega)) rfl (aG rfl rfl (aQ ?_))))))
          exact XF.round (rl - (i+1)) [(1,_),(50,_),(51,_),(52,_)] (by omega) ⟨rfl,rfl,rfl,rfl,trivial⟩ ⟨i+1,by omega,rfl,rfl,fS hr hall2 (by simpa using hc62),hS.tail.clear⟩
        ·have hc53:=of_decide_eq_false hc;clear hc
         refine dE (XF.thenX (XF.thenX (XF.blkX (XF.thenN (aL (aR (aA rfl rfl (aQ (XF.thenN (bJ (XF.res (cJ results46 rfl) ?_)))))))))))
         rw [List.take_of_length_le (by omega)] at hall2
         exact ⟨dR (by simp only [gX];rw [if_neg h0,if_neg h1,if_neg h2,if_pos hall,wF hall2]),hS.below⟩
theorem pdsR_c (ds d:Nat) (s:SV) (st sy:Int) (ra:Option Addr) (rl rc:Nat) (rs:List RV) (w:World) (hs:SIn w ds s) (hrow:lD w ra rs) (hlen:rs.length=rl) (hin:∀ r∈rs,RIn w d r) :
  Calls prog 50 #[.agg #[.int .i64 s.f.tag,.int .i64 s.f.dim,.slice s.f.a s.f.len s.f.cap,.int .i64 st,.int .i64 sy,.slice ra rl rc]] w (fun e w'=>e = .returned (.int .i64 (gX ⟨s,st,sy,ra,rl,rc,rs⟩))∧Below w.heap.size w w'):=by
 refine cH (args:=[.agg #[.int .i64 s.f.tag,.int .i64 s.f.dim,.slice s.f.a s.f.len s.f.cap,.int .i64 st,.int .i64 sy,.slice ra rl rc]]) func50 rfl ntmps50 rfl ?_
 have hS:=St.start w
 refine aL (aR (bK (cs:=[_,_,_,_,_,_]) hS rfl rfl rfl fun B1 W1 hS=>aA rfl rfl (aQ (XF.thenN (aL (aR (aP (o':=0) jE rfl rfl rfl (aS (vs:=[_,_,_]) isAgg25 sizeOf25 rfl (aE.own (j:=0) (m:=3) (hS.at_ 0 rfl) rfl) rfl (cF (vs:=[_]) hS vY rfl (uL ds s _ _ (SIn.below hS.below hs) rfl) rfl fun W2 hS=>aA rfl rfl (aQ (XF.thenN (aL (aL (aR (aG rfl rfl (dA rfl rfl rfl (aQ (XF.thenN (aZ rfl (fun hc=>?_) (fun hc=>?_))))))))))))))))))))
 ·have hc11:=of_decide_eq_true hc;clear hc
  refine aL (aR (aG rfl rfl (aA rfl rfl (aQ (XF.thenN (bJ (XF.thenR (XF.res (cJ results50 rfl) ?_))))))))
  exact ⟨dR (by simp only [gX];rw [if_pos hc11]),hS.below⟩
 ·have hc11:=of_decide_eq_false hc;clear hc
  have h0:¬ eI s≠0:=hc11
  refine bG (XF.thenN (aL (aL (aR (aP (o':=5) eX rfl rfl rfl (aT isAgg26 rfl (aK (hS.at_ 0 rfl) rfl) rfl (bX underlying26 rfl rfl (dM rfl rfl rfl (aQ (XF.thenN (aZ rfl (fun hc=>?_) (fun hc=>?_))))))))))))
  ·have hc16:=of_decide_eq_true hc;clear hc
   refine aL (aR (aA rfl rfl (aQ (XF.thenN (bJ (XF.thenR (XF.res (cJ results50 rfl) ?_)))))))
   exact ⟨dR (by simp only [gX];rw [if_neg h0,if_pos (by omega)]),hS.below⟩
  ·have hc16:=of_decide_eq_false hc;clear hc
   have h1:¬ 16384 < rl:=by omega
   refine bG (XF.thenN (aL (aL (aR (aP (o':=3) lA rfl rfl rfl (aT isAgg3 rfl (aK (hS.at_ 0 rfl) rfl) rfl (cN rfl rfl rfl (aG rfl rfl (bS (d:=20) rfl (fun hc=>?_) (fun hc=>?_))))))))))
   ·have hg20:=of_decide_eq_true hc;clear hc
    refine aF (d:=20) rfl rfl rfl rfl (aF (d:=20) rfl rfl rfl rfl (aF (d:=20) rfl rfl rfl rfl (bC rfl rfl rfl (aG rfl rfl (aF (d:=25) rfl rfl rfl rfl (aF (d:=25) rfl rfl rfl rfl (aF (d:=25) rfl rfl rfl rfl (bC rfl rfl rfl (aG rfl rfl (aF (d:=30) rfl rfl rfl rfl (aF (d:=30) rfl rfl rfl rfl (aF (d:=30) rfl rfl rfl rfl (bC rfl rfl rfl (aQ (XF.thenN (dJ rfl (aL (aR (aA rfl rfl (aQ (XF.thenN (bJ (XF.thenR ?_)))))))))))))))))))))))
    refine XF.res (cJ results50 rfl) ?_
    exact ⟨dR (by simp only [gX];rw [if_neg h0,if_neg h1,if_pos (by omega)]),hS.below⟩
   ·have hg20:=of_decide_eq_false hc;clear hc
    refine aC (d:=20) rfl rfl (aP (o':=3) lA rfl rfl rfl (aC (d:=20) rfl rfl (aT isAgg3 rfl (aK (hS.at_ 0 rfl) rfl) rfl (aC (d:=20) rfl rfl (dM rfl rfl rfl (bV rfl rfl rfl (aG rfl rfl (bS (d:=25) rfl (fun hc=>?_) (fun hc=>?_)))))))))
    ·have hg25:=of_decide_eq_true hc;clear hc
     refine aF (d:=25) rfl rfl rfl rfl (aF (d:=25) rfl rfl rfl rfl (aF (d:=25) rfl rfl rfl rfl (bC rfl rfl rfl (aG rfl rfl (aF (d:=30) rfl rfl rfl rfl (aF (d:=30) rfl rfl rfl rfl (aF (d:=30) rfl rfl rfl rfl (bC rfl rfl rfl (aQ (XF.thenN (dJ rfl (aL (aR (aA rfl rfl (aQ (XF.thenN (bJ (XF.thenR (XF.res (cJ results50 rfl) ?_)))))))))))))))))))
     exact ⟨dR (by simp only [gX];rw [if_neg h0,if_neg h1,if_pos (by omega)]),hS.below⟩
    ·have hg25:=of_decide_eq_false hc;clear hc
     refine aC (d:=25) rfl rfl (aP (o':=4) lB rfl rfl rfl (aC (d:=25) rfl rfl (aT isAgg3 rfl (aK (hS.at_ 0 rfl) rfl) rfl (aC (d:=25) rfl rfl (cN rfl rfl rfl (bV rfl rfl rfl (aG rfl rfl (bS (d:=30) rfl (fun hc=>?_) (fun hc=>?_)))))))))
     ·have hg30:=of_decide_eq_true hc;clear hc
      refine aF (d:=30) rfl rfl rfl rfl (aF (d:=30) rfl rfl rfl rfl (aF (d:=30) rfl rfl rfl rfl (bC rfl rfl rfl (aQ (XF.thenN (dJ rfl (aL (aR (aA rfl rfl (aQ (XF.thenN (bJ (XF.thenR (XF.res (cJ results50 rfl) ?_))))))))))))))
      exact ⟨dR (by simp only [gX];rw [if_neg h0,if_neg h1,if_pos (by omega)]),hS.below⟩
     ·have hg30:=of_decide_eq_false hc;clear hc
      refine aC (d:=30) rfl rfl (aP (o':=4) lB rfl rfl rfl (aC (d:=30) rfl rfl (aT isAgg3 rfl (aK (hS.at_ 0 rfl) rfl) rfl (aC (d:=30) rfl rfl (dM rfl rfl rfl (bV rfl rfl rfl (aQ (XF.thenN (aZ rfl (fun hc=>?_) (fun hc=>?_))))))))))
      ·have hc34:=of_decide_eq_true hc;clear hc
       refine aL (aR (aA rfl rfl (aQ (XF.thenN (bJ (XF.thenR (XF.res (cJ results50 rfl) ?_)))))))
       exact ⟨dR (by simp only [gX];rw [if_neg h0,if_neg h1,if_pos (by omega)]),hS.below⟩
      ·have hc34:=of_decide_eq_false hc;clear hc
       have h2:¬ (st < 0∨4096 < st∨sy < 0∨4096 < sy):=by omega
       refine bG (XF.thenN (aL (aL (aR (aA rfl rfl (aQ (XF.thenN (bM (dK (fun m l W=>∃ i:Nat,i≤rl∧m=rl - i∧l=[(1,.pointer (some ⟨B1,0,none⟩)),(4,.int .i64 (i:Int))]∧(rs.take i).all (fB st sy)=true∧St w [(B1,[.int .i64 s.f.tag,.int .i64 s.f.dim,.slice s.f.a s.f.len s.f.cap,.int .i64 st,.int .i64 sy,.slice ra rl rc],28)] [] [] W) (rl - 0) ([(1,_),(4,_)]) ⟨rfl,rfl,trivial⟩ (⟨0,Nat.zero_le _,rfl,rfl,rfl,hS.clear⟩) ?_)))))))))
       clear hS
       rintro m l W ⟨i,hi,rfl,rfl,hall,hS⟩
       refine aL (aL (aR (aG rfl rfl (aP (o':=5) eX rfl rfl rfl (aT isAgg26 rfl (aK (hS.at_ 0 rfl) rfl) rfl (bX underlying26 rfl rfl (cN rfl rfl rfl (aQ (XF.thenN (aZ rfl (fun hc=>?_) (fun hc=>?_)))))))))))
       ·have hc39:=of_decide_eq_true hc;clear hc
        have hk:i < rl:=by omega
        obtain ⟨r,hr⟩:∃ r,rs[i]?=some r:=⟨rs[i]'(by omega),by simp [show i < rs.length by omega]⟩
        obtain ⟨b,off,rfl,hcs⟩:=hrow.at_ hr
        have k1:=aE.agree hS.agree (Nat.zero_le _) hcs
        have k2:=k1.2.2.2.2
        have hri:=hin r (List.mem_of_getElem? hr)
        refine bG (XF.thenN (aL (bM (aL (iE (m:=8) cE hS (by kernel_rfl) (by kernel_rfl) rfl (cC 1 rfl 1 rfl rfl (fun w hw=>bF (vs:=[_,_,_,_,_,_]) isAgg28 sizeOf28 rfl (aE.agree (aN hw 0) (Nat.zero_le _) (aE.own (j:=0) (m:=6) (hS.at_ 0 rfl) rfl))) rfl (cC 2 rfl 1 rfl rfl (fun w hw=>aW (o':=5) eX rfl rfl) rfl (aX 3 rfl 43 1 rfl rfl rfl (fun w hw=>bA isAgg26 rfl ((aN hw 0).cell (Nat.zero_le _) (aK (hS.at_ 0 rfl) rfl))) rfl (cC 4 rfl 4 rfl rfl (fun w hw=>bE rfl) rfl (aM 5 rfl (isV _) (aJ _) (rgV (li:=[(44,_),(45,_)]) rfl (aU rfl) ⟨aO 2 (aB rfl rfl rfl),aO 3 (aB rfl rfl rfl),trivial⟩ (fun w hw=>bB  underlying26 sizeOf62 rfl rfl rfl (by omega) rfl) (aH rfl)) (aX 6 rfl 46 4 rfl rfl rfl (fun w hw=>bF (vs:=[_,_,_,_,_,_,_,_,_,_]) isAgg62 sizeOf62 rfl (aE.agree (aN hw 0) (Nat.zero_le _) (by assumption))) rfl ?_)))))))))))
        refine aM 7 rfl (isV (.bool (fB st sy r))) (aJ _) (cV [isV _,isV _] rfl goes_69 (aU rfl) ⟨bZ (aO 0 (aB rfl rfl rfl)),bZ (aO 5 (aB rfl rfl rfl)),trivial⟩ (fun vs w' hb hh=>by have e:=cB (us:=[_,_]) hh;subst e;exact (Ql ⟨s,st,sy,_,rl,rc,rs⟩ (hri.below (hS.below.trans (hb.mono hS.below.size)))).mono fun e w2 h=>⟨_,h.1,rfl,h.2⟩) (aH rfl)) ?_
        refine aX 8 rfl 48 6 rfl rfl rfl (fun w hw=>jU rfl) rfl (dC ?_)
        intro W3 hbR hS'
        clear hS;have hS:=hS';clear hS'
        refine aI (aI (aI (aI (aI (aI (aI (aI (cL (XF.thenN (aZ rfl (fun hc=>?_) (fun hc=>?_)))))))))))
        ·have hc49:=hc;clear hc
         refine aL (aR (aA rfl rfl (aQ (XF.thenN (bJ (XF.blkR (XF.thenR (XF.thenR (XF.blkR (XF.thenR (XF.res (cJ results50 rfl) ?_)))))))))))
         exact ⟨dR (by simp only [gX];rw [if_neg h0,if_neg h1,if_neg h2,if_neg (by rw [fD hr (by simpa using hc49)];simp)]),hS.below⟩
        ·have hc49:=hc;clear hc
         refine bG (XF.blkN (XF.thenN (aR (aG rfl rfl (cR rfl rfl (IntWalk.i64_in _ (by omega)) rfl (aA rfl rfl (aQ ?_)))))))
         exact XF.round (rl - (i+1)) [(1,_),(4,_)] (by omega) ⟨rfl,rfl,trivial⟩ ⟨i+1,by omega,rfl,rfl,fS hr hall (by simpa using hc49),hS.clear⟩
       ·have hc39:=of_decide_eq_false hc;clear hc
        rw [List.take_of_length_le (by omega)] at hall
        refine dE (XF.thenX (XF.thenX (XF.blkX (XF.thenN (aL (aL (aR (aA rfl rfl (aQ (XF.thenN (bM (dK (fun m l W=>∃ i:Nat,i≤rl∧m=rl - i∧l=[(1,.pointer (some ⟨B1,0,none⟩)),(5,.int .i64 (i:Int))]∧(rs.take i).all (fun r=>decide (kQ s r.x=0))=true∧St w [(B1,[.int .i64 s.f.tag,.int .i64 s.f.dim,.slice s.f.a s.f.len s.f.cap,.int .i64 st,.int .i64 sy,.slice ra rl rc],28)] [] [] W) (rl - 0) ([(1,_),(5,_)]) ⟨rfl,rfl,trivial⟩ (⟨0,Nat.zero_le _,rfl,rfl,rfl,hS.clear⟩) ?_))))))))))))
        clear hS
        rintro m l W ⟨i,hi,rfl,rfl,hall2,hS⟩
        refine aL (aL (aR (aG rfl rfl (aP (o':=5) eX rfl rfl rfl (aT isAgg26 rfl (aK (hS.at_ 0 rfl) rfl) rfl (bX underlying26 rfl rfl (cN rfl rfl rfl (aQ (XF.thenN (aZ rfl (fun hc=>?_) (fun hc=>?_)))))))))))
        ·have hc54:=of_decide_eq_true hc;clear hc
         have hk:i < rl:=by omega
         obtain ⟨r,hr⟩:∃ r,rs[i]?=some r:=⟨rs[i]'(by omega),by simp [show i < rs.length by omega]⟩
         obtain ⟨b,off,rfl,hcs⟩:=hrow.at_ hr
         have k1:=aE.agree hS.agree (Nat.zero_le _) hcs
         have k2:=k1.2.2.2.2
         have hri:=hin r (List.mem_of_getElem? hr)
         refine bG (XF.thenN (aL (bM (aL (iE (m:=10) cE hS (by kernel_rfl) (by kernel_rfl) rfl (cC 1 rfl 1 rfl rfl (fun w hw=>aW (o':=0) jE rfl rfl) rfl (aX 2 rfl 57 0 rfl rfl rfl (fun w hw=>bF (vs:=[_,_,_]) isAgg25 sizeOf25 rfl (aE.agree (aN hw 0) (Nat.zero_le _) (aE.own (j:=0) (m:=3) (hS.at_ 0 rfl) rfl))) rfl (cC 3 rfl 1 rfl rfl (fun w hw=>aW (o':=5) eX rfl rfl) rfl (aX 4 rfl 59 2 rfl rfl rfl (fun w hw=>bA isAgg26 rfl ((aN hw 0).cell (Nat.zero_le _) (aK (hS.at_ 0 rfl) rfl))) rfl (cC 5 rfl 5 rfl rfl (fun w hw=>bE rfl) rfl (aM 6 rfl (isV _) (aJ _) (rgV (li:=[(60,_),(61,_)]) rfl (aU rfl) ⟨aO 3 (aB rfl rfl rfl),aO 4 (aB rfl rfl rfl),trivial⟩ (fun w hw=>bB  underlying26 sizeOf62 rfl rfl rfl (by omega) rfl) (aH rfl)) (aX 7 rfl 62 5 rfl rfl rfl (fun w hw=>aW tG rfl rfl) rfl (aX 8 rfl 63 6 rfl rfl rfl (fun w hw=>bF (vs:=[_,_,_,_,_,_]) isAgg53 sizeOf53 rfl (aE.agree (aN hw 0) (Nat.zero_le _) (k2))) rfl ?_)))))))))))))
         refine aM 9 rfl (isV (.int .i64 (kQ s r.x))) (aJ _) (cV [isV _,isV _] rfl goes_70 (aU rfl) ⟨bZ (aO 1 (aB rfl rfl rfl)),bZ (aO 7 (aB rfl rfl rfl)),trivial⟩ (fun vs w' hb hh=>by have e:=cB (us:=[_,_]) hh;subst e;exact (Fv ds d s r.x _ (SIn.below (hS.below.trans (hb.mono hS.below.size)) hs) (WIn.below (hS.below.trans (hb.mono hS.below.size)) hri.x)).mono fun e w2 h=>⟨_,h.1,rfl,h.2⟩) (aH rfl)) ?_
         refine aX 10 rfl 65 8 rfl rfl rfl (fun w hw=>eM rfl) rfl (dC ?_)
         intro W4 hbR hS'
         clear hS;have hS:=hS';clear hS'
         refine aI (aI (aI (aI (aI (aI (aI (aI (aI (aI (cL (XF.thenN (aL (aR (aG rfl rfl (dA rfl rfl rfl (aQ (XF.thenN (aZ rfl (fun hc=>?_) (fun hc=>?_)))))))))))))))))))
         ·have hc67:=of_decide_eq_true hc;clear hc
          refine aL (aR (aG rfl rfl (aA rfl rfl (aQ (XF.thenN (bJ (XF.blkR (XF.thenR (XF.thenR (XF.blkR (XF.thenR (XF.res (cJ results50 rfl) ?_))))))))))))
          exact ⟨dR (by simp only [gX];rw [if_neg h0,if_neg h1,if_neg h2,if_pos hall,Il hr hall2 hc67]),hS.below⟩
         ·have hc67:=of_decide_eq_false hc;clear hc
          refine bG (XF.blkN (XF.thenN (aR (aG rfl rfl (cR rfl rfl (IntWalk.i64_in _ (by omega)) rfl (aA rfl rfl (aQ ?_)))))))
          exact XF.round (rl - (i+1)) [(1,_),(5,_)] (by omega) ⟨rfl,rfl,trivial⟩ ⟨i+1,by omega,rfl,rfl,fS hr hall2 (by simpa using hc67),hS.clear⟩
        ·have hc54:=of_decide_eq_false hc;clear hc
         refine dE (XF.thenX (XF.thenX (XF.blkX (XF.thenN (aL (aR (aA rfl rfl (aQ (XF.thenN (bJ (XF.res (cJ results50 rfl) ?_)))))))))))
         rw [List.take_of_length_le (by omega)] at hall2
         exact ⟨dR (by simp only [gX];rw [if_neg h0,if_neg h1,if_neg h2,if_pos hall,wF hall2]),hS.below⟩
theorem pdsA_is (ds d:Nat) (p:PV) (w:World) (h:PvIn w ds d p):Calls prog 46 #[p.val] w (fun e w'=>e = .returned (.int .i64 (gX p))∧Below w.heap.size w w'):=pdsA_c ds d _ _ _ _ _ _ _ w h.s h.row h.len h.rin
theorem pdsR_is (ds d:Nat) (p:PV) (w:World) (h:PvIn w ds d p):Calls prog 50 #[p.val] w (fun e w'=>e = .returned (.int .i64 (gX p))∧Below w.heap.size w w'):=pdsR_c ds d _ _ _ _ _ _ _ w h.s h.row h.len h.rin
theorem confA_c (P0:PV) (p:Int) (wa:Option Addr) (wl wc:Nat) (ws:List Int) (w:World) (hrow:Row w wa ws) (hlen:ws.length=wl) :
  Calls prog 47 #[P0.val,.agg #[.int .i64 p,.slice wa wl wc]] w (fun e w'=>e = .returned (.bool (gH P0 ⟨p,wa,wl,wc,ws⟩))∧Below w.heap.size w w'):=by
 refine cH (args:=[P0.val,.agg #[.int .i64 p,.slice wa wl wc]]) func47 rfl ntmps47 rfl ?_
 have hS:=St.start w
 refine aL (aR (bK (cs:=[_,_,_,_,_,_]) hS rfl rfl rfl fun B1 W1 hS=>bK (cs:=[_,_]) hS rfl rfl rfl fun B2 W2 hS=>aA rfl rfl (aQ (XF.thenN (aL (aL (aR (aP (o':=0) iM rfl rfl rfl (aT isAgg3 rfl (aK (hS.at_ 0 rfl) rfl) rfl (cN rfl rfl rfl (aG rfl rfl (bS (d:=10) rfl (fun hc=>?_) (fun hc=>?_)))))))))))))
 ·have hg10:=of_decide_eq_true hc;clear hc
  have e1:inQ p P0.st=false:=by simp [inQ];omega
  refine aF (d:=10) rfl rfl rfl rfl (aF (d:=10) rfl rfl rfl rfl (aF (d:=10) rfl rfl rfl rfl (aF (d:=10) rfl rfl rfl rfl (aF (d:=10) rfl rfl rfl rfl (bC rfl rfl rfl (aG rfl rfl (aF (d:=17) rfl rfl rfl rfl (aF (d:=17) rfl rfl rfl rfl (aF (d:=17) rfl rfl rfl rfl (aF (d:=17) rfl rfl rfl rfl (bC rfl rfl rfl (aQ (XF.thenN (dJ rfl (aL (aR (aA rfl rfl (aQ (XF.thenN (bJ (XF.thenR (XF.res (cJ results47 rfl) ?_))))))))))))))))))))))
  exact ⟨bY (by simp [gH,e1]),hS.below⟩
 ·have hg10:=of_decide_eq_false hc;clear hc
  refine aC (d:=10) rfl rfl (aP (o':=0) iM rfl rfl rfl (aC (d:=10) rfl rfl (aT isAgg3 rfl (aK (hS.at_ 0 rfl) rfl) rfl (aC (d:=10) rfl rfl (aP (o':=3) lA rfl rfl rfl (aC (d:=10) rfl rfl (aT isAgg3 rfl (aK (hS.at_ 1 rfl) rfl) rfl (aC (d:=10) rfl rfl (nY rfl rfl rfl (bV rfl rfl rfl (aG rfl rfl (bS (d:=17) rfl (fun hc=>?_) (fun hc=>?_)))))))))))))
  ·have hg17:=of_decide_eq_true hc;clear hc
   have e1:inQ p P0.st=false:=by simp [inQ];omega
   refine aF (d:=17) rfl rfl rfl rfl (aF (d:=17) rfl rfl rfl rfl (aF (d:=17) rfl rfl rfl rfl (aF (d:=17) rfl rfl rfl rfl (bC rfl rfl rfl (aQ (XF.thenN (dJ rfl (aL (aR (aA rfl rfl (aQ (XF.thenN (bJ (XF.thenR (XF.res (cJ results47 rfl) ?_)))))))))))))))
   exact ⟨bY (by simp [gH,e1]),hS.below⟩
  ·have hg17:=of_decide_eq_false hc;clear hc
   have e1:inQ p P0.st=true:=by simp [inQ];omega
   refine aC (d:=17) rfl rfl (aP (o':=1) dZ rfl rfl rfl (aC (d:=17) rfl rfl (aT isAgg29 rfl (aK (hS.at_ 0 rfl) rfl) rfl (aC (d:=17) rfl rfl (bX underlying29 rfl rfl (aC (d:=17) rfl rfl (dM rfl rfl rfl (bV rfl rfl rfl (aQ (XF.thenN (aZ rfl (fun hc=>?_) (fun hc=>?_))))))))))))
   ·have hc22:=of_decide_eq_true hc;clear hc
    have e4:decide (wl≤4096)=false:=by simp;omega
    refine aL (aR (aA rfl rfl (aQ (XF.thenN (bJ (XF.thenR (XF.res (cJ results47 rfl) ?_)))))))
    exact ⟨bY (by simp [gH,e4]),hS.below⟩
   ·have hc22:=of_decide_eq_false hc;clear hc
    have e4:decide (wl≤4096)=true:=by simp;omega
    refine bG (XF.thenN (aL (aL (aR (aP (o':=1) dZ rfl rfl rfl (aT isAgg29 rfl (aK (hS.at_ 0 rfl) rfl) rfl (bX underlying29 rfl rfl (aG rfl rfl (aQ (XF.thenN (bM (dK (fun m l W=>∃ i:Nat,i≤wl∧m=wl - i∧l=[(2,.pointer (some ⟨B1,0,none⟩)),(24,.slice wa wl wc),(25,.int .i64 (wl:Int)),(26,.int .i64 (i:Int))]∧(ws.take i).all (fun y=>inQ y P0.sy)=true∧St w [(B2,[.int .i64 p,.slice wa wl wc],36),(B1,P0.six,28)] [] [] W) (wl - 0) ([(2,_),(24,_),(25,_),(26,_)]) ⟨rfl,rfl,rfl,rfl,trivial⟩ (⟨0,Nat.zero_le _,rfl,rfl,rfl,hS.clear⟩) ?_))))))))))))
    clear hS
    rintro m l W ⟨i,hi,rfl,rfl,hall,hS⟩
    refine aL (aR (cN rfl rfl rfl (aQ (XF.thenN (aL (aZ rfl (fun hc=>?_) (fun hc=>?_)))))))
    ·have hc27:=of_decide_eq_true hc;clear hc
     have hk:i < wl:=by omega
     obtain ⟨b,off,y,rfl,hy,hyc⟩:=hrow.at1 (show i < ws.length by omega)
     have k1:=hS.old hyc
     refine bG (XF.thenN (aL (bM (aL (aR (cK  underlying29 sizeOf3 rfl rfl rfl (by omega) rfl rfl (aT isAgg3 rfl (by first | assumption | exact hS.old (by assumption)) rfl (aA rfl rfl (aQ (XF.thenN (aL (aR (aG rfl rfl (cN rfl rfl rfl (aG rfl rfl (bS (d:=32) rfl (fun hc=>?_) (fun hc=>?_)))))))))))))))))
     ·have hg32:=of_decide_eq_true hc;clear hc
      have e5:inQ y P0.sy=false:=by simp [inQ];omega
      refine aF (d:=32) rfl rfl rfl rfl (aF (d:=32) rfl rfl rfl rfl (aF (d:=32) rfl rfl rfl rfl (aF (d:=32) rfl rfl rfl rfl (bC rfl rfl rfl (aQ (XF.thenN (dJ rfl (aL (aR (aA rfl rfl (aQ (XF.thenN (bJ (XF.blkR (XF.thenR (XF.thenR (XF.blkR (XF.thenR (XF.res (cJ results47 rfl) ?_)))))))))))))))))))
      exact ⟨bY (by simp only [gH];rw [fD hy e5];simp),hS.below⟩
     ·have hg32:=of_decide_eq_false hc;clear hc
      refine aC (d:=32) rfl rfl (aG rfl rfl (aC (d:=32) rfl rfl (aP (o':=4) lB rfl rfl rfl (aC (d:=32) rfl rfl (aT isAgg3 rfl (aK (hS.at_ 1 rfl) rfl) rfl (aC (d:=32) rfl rfl (nY rfl rfl rfl (bV rfl rfl rfl (aQ (XF.thenN (aZ rfl (fun hc=>?_) (fun hc=>?_))))))))))))
      ·have hc37:=of_decide_eq_true hc;clear hc
       have e5:inQ y P0.sy=false:=by simp [inQ];omega
       refine aL (aR (aA rfl rfl (aQ (XF.thenN (bJ (XF.blkR (XF.thenR (XF.thenR (XF.blkR (XF.thenR (XF.res (cJ results47 rfl) ?_)))))))))))
       exact ⟨bY (by simp only [gH];rw [fD hy e5];simp),hS.below⟩
      ·have hc37:=of_decide_eq_false hc;clear hc
       have e5:inQ y P0.sy=true:=by simp [inQ];omega
       refine bG (XF.blkN (XF.thenN (aR (cR rfl rfl (IntWalk.i64_in _ (by omega)) rfl (aG rfl rfl (aQ ?_))))))
       exact XF.round (wl - (i+1)) [(2,_),(24,_),(25,_),(26,_)] (by omega) ⟨rfl,rfl,rfl,rfl,trivial⟩ ⟨i+1,by omega,rfl,rfl,fS hy hall e5,hS.clear⟩
    ·have hc27:=of_decide_eq_false hc;clear hc
     refine dE (XF.thenX (XF.thenX (XF.blkX (XF.thenN (aL (aR (aA rfl rfl (aQ (XF.thenN (bJ (XF.res (cJ results47 rfl) ?_)))))))))))
     rw [List.take_of_length_le (by omega)] at hall
     exact ⟨bY (by simp [gH,e1,e4,hall]),hS.below⟩
theorem Qm (p:PV) (c:CV) (w:World) (h:CIn w c):Calls prog 47 #[p.val,c.val] w (fun e w'=>e = .returned (.bool (gH p c))∧Below w.heap.size w w'):=confA_c p _ _ _ _ _ w h.row h.len
theorem xV (ds d:Nat) (p:PV) (c:CV) (w:World) (hp:PvIn w ds d p) (hcf:CIn w c) :
  Calls prog 26 #[p.val,c.val] w (fun e w'=>e = .returned (.int .i64 (stepE p c))∧Below w.heap.size w w'):=by
 refine cH (args:=[p.val,c.val]) func26 rfl ntmps26 rfl ?_
 have hS:=St.start w
 refine aL (aR (bK (cs:=[_,_,_,_,_,_]) hS rfl rfl rfl fun B1 W1 hS=>bK (cs:=[_,_]) hS rfl rfl rfl fun B2 W2 hS=>aA rfl rfl (aQ (XF.thenN (aL (aL (aR (aS (vs:=[_,_,_,_,_,_]) isAgg28 sizeOf28 rfl (aE.own (j:=0) (m:=6) (hS.at_ 1 rfl) rfl) rfl (cF (vs:=[_]) hS goes_46 rfl (pdsA_is ds d p _ (hp.below hS.below)) rfl fun W3 hS=>aA rfl rfl (aQ (XF.thenN (aL (aR (aG rfl rfl (dA rfl rfl rfl (aQ (XF.thenN (aZ rfl (fun hc=>?_) (fun hc=>?_)))))))))))))))))))
 ·have hc9:=of_decide_eq_true hc;clear hc
  refine aL (aR (aG rfl rfl (aA rfl rfl (aQ (XF.thenN (bJ (XF.thenR (XF.res (cJ results26 rfl) ?_))))))))
  exact ⟨dR (by simp only [stepE];rw [if_pos hc9]),hS.below⟩
 ·have hc9:=of_decide_eq_false hc;clear hc
  refine bG (XF.thenN (aL (aL (aR (aS (vs:=[_,_,_,_,_,_]) isAgg28 sizeOf28 rfl (aE.own (j:=0) (m:=6) (hS.at_ 1 rfl) rfl) rfl (aS (vs:=[_,_]) isAgg36 sizeOf36 rfl (aE.own (j:=0) (m:=2) (hS.at_ 0 rfl) rfl) rfl (cF (vs:=[_,_]) hS goes_47 rfl (Qm p c _ (hcf.below hS.below)) rfl fun W4 hS=>eA rfl rfl (aQ (XF.thenN (aZ rfl (fun hc=>?_) (fun hc=>?_)))))))))))
  ·have hc14:=hc;clear hc
   refine aL (aR (aA rfl rfl (aQ (XF.thenN (bJ (XF.thenR (XF.res (cJ results26 rfl) ?_)))))))
   exact ⟨dR (by simp only [stepE];rw [if_neg hc9,if_neg (by simpa using hc14)]),hS.below⟩
  ·have hc14:=hc;clear hc
   refine bG (XF.thenN (aL (aR (aA rfl rfl (aQ (XF.thenN (bJ (XF.res (cJ results26 rfl) ?_))))))))
   exact ⟨dR (by simp only [stepE];rw [if_neg hc9,if_pos (by simpa using hc14)]),hS.below⟩
theorem stepR_c (ds d:Nat) (P0:PV) (p:Int) (wa:Option Addr) (wl wc:Nat) (ws:List Int) (w:World) (hp:PvIn w ds d P0) (hrow:Row w wa ws) (hlen:ws.length=wl) :
  Calls prog 31 #[P0.val,.agg #[.int .i64 p,.slice wa wl wc]] w (fun e w'=>e = .returned (.int .i64 (stepE P0 ⟨p,wa,wl,wc,ws⟩))∧Below w.heap.size w w'):=by
 refine cH (args:=[P0.val,.agg #[.int .i64 p,.slice wa wl wc]]) func31 rfl ntmps31 rfl ?_
 have hS:=St.start w
 refine aL (aR (bK (cs:=[_,_,_,_,_,_]) hS rfl rfl rfl fun B1 W1 hS=>bK (cs:=[_,_]) hS rfl rfl rfl fun B2 W2 hS=>aA rfl rfl (aQ (XF.thenN (aL (aR (aS (vs:=[_,_,_,_,_,_]) isAgg28 sizeOf28 rfl (aE.own (j:=0) (m:=6) (hS.at_ 1 rfl) rfl) rfl (cF (vs:=[_]) hS goes_50 rfl (pdsR_is ds d P0 _ (hp.below hS.below)) rfl fun W3 hS=>aA rfl rfl (aQ (XF.thenN (aL (aL (aR (aG rfl rfl (dA rfl rfl rfl (aQ (XF.thenN (aZ rfl (fun hc=>?_) (fun hc=>?_)))))))))))))))))))
 ·have hc10:=of_decide_eq_true hc;clear hc
  refine aL (aR (aG rfl rfl (aA rfl rfl (aQ (XF.thenN (bJ (XF.thenR (XF.res (cJ results31 rfl) ?_))))))))
  exact ⟨dR (by simp only [stepE];rw [if_pos hc10]),hS.below⟩
 ·have hc10:=of_decide_eq_false hc;clear hc
  refine bG (XF.thenN (aL (aL (aR (aP (o':=0) iM rfl rfl rfl (aT isAgg3 rfl (aK (hS.at_ 0 rfl) rfl) rfl (cN rfl rfl rfl (aG rfl rfl (bS (d:=15) rfl (fun hc=>?_) (fun hc=>?_))))))))))
  ·have hg15:=of_decide_eq_true hc;clear hc
   have e1:inQ p P0.st=false:=by simp [inQ];omega
   refine aF (d:=15) rfl rfl rfl rfl (aF (d:=15) rfl rfl rfl rfl (aF (d:=15) rfl rfl rfl rfl (aF (d:=15) rfl rfl rfl rfl (aF (d:=15) rfl rfl rfl rfl (bC rfl rfl rfl (aG rfl rfl (aF (d:=22) rfl rfl rfl rfl (aF (d:=22) rfl rfl rfl rfl (aF (d:=22) rfl rfl rfl rfl (aF (d:=22) rfl rfl rfl rfl (bC rfl rfl rfl (aQ (XF.thenN (dJ rfl (aL (aR (aA rfl rfl (aQ (XF.thenN (bJ (XF.thenR (XF.res (cJ results31 rfl) ?_))))))))))))))))))))))
   exact ⟨dR (by simp only [stepE];rw [if_neg hc10,if_neg (by simp [gH,e1])]),hS.below⟩
  ·have hg15:=of_decide_eq_false hc;clear hc
   refine aC (d:=15) rfl rfl (aP (o':=0) iM rfl rfl rfl (aC (d:=15) rfl rfl (aT isAgg3 rfl (aK (hS.at_ 0 rfl) rfl) rfl (aC (d:=15) rfl rfl (aP (o':=3) lA rfl rfl rfl (aC (d:=15) rfl rfl (aT isAgg3 rfl (aK (hS.at_ 1 rfl) rfl) rfl (aC (d:=15) rfl rfl (nY rfl rfl rfl (bV rfl rfl rfl (aG rfl rfl (bS (d:=22) rfl (fun hc=>?_) (fun hc=>?_)))))))))))))
   ·have hg22:=of_decide_eq_true hc;clear hc
    have e1:inQ p P0.st=false:=by simp [inQ];omega
    refine aF (d:=22) rfl rfl rfl rfl (aF (d:=22) rfl rfl rfl rfl (aF (d:=22) rfl rfl rfl rfl (aF (d:=22) rfl rfl rfl rfl (bC rfl rfl rfl (aQ (XF.thenN (dJ rfl (aL (aR (aA rfl rfl (aQ (XF.thenN (bJ (XF.thenR (XF.res (cJ results31 rfl) ?_)))))))))))))))
    exact ⟨dR (by simp only [stepE];rw [if_neg hc10,if_neg (by simp [gH,e1])]),hS.below⟩
   ·have hg22:=of_decide_eq_false hc;clear hc
    have e1:inQ p P0.st=true:=by simp [inQ];omega
    refine aC (d:=22) rfl rfl (aP (o':=1) dZ rfl rfl rfl (aC (d:=22) rfl rfl (aT isAgg29 rfl (aK (hS.at_ 0 rfl) rfl) rfl (aC (d:=22) rfl rfl (bX underlying29 rfl rfl (aC (d:=22) rfl rfl (dM rfl rfl rfl (bV rfl rfl rfl (aQ (XF.thenN (aZ rfl (fun hc=>?_) (fun hc=>?_))))))))))))
    ·have hc27:=of_decide_eq_true hc;clear hc
     have e4:decide (wl≤4096)=false:=by simp;omega
     refine aL (aR (aA rfl rfl (aQ (XF.thenN (bJ (XF.thenR (XF.res (cJ results31 rfl) ?_)))))))
     exact ⟨dR (by simp only [stepE];rw [if_neg hc10,if_neg (by simp [gH,e4])]),hS.below⟩
    ·have hc27:=of_decide_eq_false hc;clear hc
     have e4:decide (wl≤4096)=true:=by simp;omega
     refine bG (XF.thenN (aL (aL (aR (aA rfl rfl (aQ (XF.thenN (bM (dK (fun m l W=>∃ i:Nat,i≤wl∧m=wl - i∧l=[(2,.pointer (some ⟨B1,0,none⟩)),(3,.pointer (some ⟨B2,0,none⟩)),(6,.int .i64 (i:Int))]∧(ws.take i).all (fun y=>inQ y P0.sy)=true∧St w [(B2,[.int .i64 p,.slice wa wl wc],36),(B1,P0.six,28)] [] [] W) (wl - 0) ([(2,_),(3,_),(6,_)]) ⟨rfl,rfl,rfl,trivial⟩ (⟨0,Nat.zero_le _,rfl,rfl,rfl,hS.clear⟩) ?_)))))))))
     clear hS
     rintro m l W ⟨i,hi,rfl,rfl,hall,hS⟩
     refine aL (aL (aR (aG rfl rfl (aP (o':=1) dZ rfl rfl rfl (aT isAgg29 rfl (aK (hS.at_ 0 rfl) rfl) rfl (bX underlying29 rfl rfl (cN rfl rfl rfl (aQ (XF.thenN (aZ rfl (fun hc=>?_) (fun hc=>?_)))))))))))
     ·have hc32:=of_decide_eq_true hc;clear hc
      have hk:i < wl:=by omega
      obtain ⟨b,off,y,rfl,hy,hyc⟩:=hrow.at1 (show i < ws.length by omega)
      have k1:=hS.old hyc
      refine bG (XF.thenN (aL (bM (aL ?_))))
      by_cases hy0:y < 0
      ·have e5:inQ y P0.sy=false:=by simp [inQ];omega
       refine iE (m:=16) cE hS (by kernel_rfl) (by kernel_rfl) rfl (cC 1 rfl 3 rfl rfl (fun w hw=>aW (o':=1) dZ rfl rfl) rfl (aX 2 rfl 35 0 rfl rfl rfl (fun w hw=>bA isAgg29 rfl ((aN hw 0).cell (Nat.zero_le _) (aK (hS.at_ 0 rfl) rfl))) rfl (cC 3 rfl 6 rfl rfl (fun w hw=>bE rfl) rfl (aM 4 rfl (isV _) (aJ _) (rgV (li:=[(36,_),(37,_)]) rfl (aU rfl) ⟨aO 1 (aB rfl rfl rfl),aO 2 (aB rfl rfl rfl),trivial⟩ (fun w hw=>bB  underlying29 sizeOf3 rfl rfl rfl (by omega) rfl) (aH rfl)) (aX 5 rfl 38 3 rfl rfl rfl (fun w hw=>bA isAgg3 rfl ((aN hw 0).cell (Nat.zero_le _) (by assumption))) rfl (aM 6 rfl (isV (.bool true)) (aJ _) (kH (li:=[(39,_)]) rfl (aU rfl) ⟨aO 4 (aB rfl rfl rfl),trivial⟩ (fun w hw=>Hw rfl rfl) (by rw [decide_eq_true hy0]) (aH rfl)) (aX 7 rfl 40 5 rfl rfl rfl (fun w hw=>bE rfl) rfl (aM 8 rfl (isV undef) (aJ _) (bT rfl (bU 41 rfl (aB rfl rfl rfl) rfl) (aH rfl)) (aM 9 rfl (isV undef) (aJ _) (bT rfl (bU 41 rfl (aB rfl rfl rfl) rfl) (aH rfl)) (aM 10 rfl (isV undef) (aJ _) (bT rfl (bU 41 rfl (aB rfl rfl rfl) rfl) (aH rfl)) (aM 11 rfl (isV undef) (aJ _) (bT rfl (bU 41 rfl (aB rfl rfl rfl) rfl) (aH rfl)) (aM 12 rfl (isV undef) (aJ _) (bT rfl (bU 41 rfl (aB rfl rfl rfl) rfl) (aH rfl)) (aM 13 rfl (isV undef) (aJ _) (bT rfl (bU 41 rfl (aB rfl rfl rfl) rfl) (aH rfl)) (aM 14 rfl (isV undef) (aJ _) (bT rfl (bU 41 rfl (aB rfl rfl rfl) rfl) (aH rfl)) (aM 15 rfl (isV undef) (aJ _) (bT rfl (bU 41 rfl (aB rfl rfl rfl) rfl) (aH rfl)) (aX 16 rfl 41 6 rfl rfl rfl (fun w hw=>dU rfl rfl) rfl (dC ?_)))))))))))))))))
       intro W4 hbR hS'
       clear hS;have hS:=hS';clear hS'
       refine aI (aI (aI (aI (aI (aI (aI (aI (aI (aI (aI (aI (aI (aI (aI (aI (cL (XF.thenN (dJ rfl (aL (aR (aA rfl rfl ?_)))))))))))))))))))))
       refine aQ (XF.thenN (bJ (XF.blkR (XF.thenR (XF.thenR (XF.blkR (XF.thenR (XF.res (cJ results31 rfl) ?_))))))))
       exact ⟨dR (by simp only [stepE];rw [if_neg hc10,if_neg (by simp only [gH];rw [fD hy e5];simp)]),hS.below⟩
      ·skip
       refine iE (m:=16) cE hS (by kernel_rfl) (by kernel_rfl) rfl (cC 1 rfl 3 rfl rfl (fun w hw=>aW (o':=1) dZ rfl rfl) rfl (aX 2 rfl 35 0 rfl rfl rfl (fun w hw=>bA isAgg29 rfl ((aN hw 0).cell (Nat.zero_le _) (aK (hS.at_ 0 rfl) rfl))) rfl (cC 3 rfl 6 rfl rfl (fun w hw=>bE rfl) rfl (aM 4 rfl (isV _) (aJ _) (rgV (li:=[(36,_),(37,_)]) rfl (aU rfl) ⟨aO 1 (aB rfl rfl rfl),aO 2 (aB rfl rfl rfl),trivial⟩ (fun w hw=>bB  underlying29 sizeOf3 rfl rfl rfl (by omega) rfl) (aH rfl)) (aX 5 rfl 38 3 rfl rfl rfl (fun w hw=>bA isAgg3 rfl ((aN hw 0).cell (Nat.zero_le _) (by assumption))) rfl (aM 6 rfl (isV (.bool false)) (aJ _) (kH (li:=[(39,_)]) rfl (aU rfl) ⟨aO 4 (aB rfl rfl rfl),trivial⟩ (fun w hw=>Hw rfl rfl) (by rw [decide_eq_false hy0]) (aH rfl)) (aX 7 rfl 40 5 rfl rfl rfl (fun w hw=>bE rfl) rfl (aM 8 rfl (isV _) (aJ _) (rgV (li:=[(3,_)]) rfl (bQ 41 rfl (aB rfl rfl rfl)) ⟨cI rfl,trivial⟩ (fun w hw=>aW (o':=1) dZ rfl rfl) (aH rfl)) (aM 9 rfl (isV _) (aJ _) (rgV (li:=[(42,_)]) rfl (bQ 41 rfl (aB rfl rfl rfl)) ⟨aO 7 (aB rfl rfl rfl),trivial⟩ (fun w hw=>bA isAgg29 rfl ((aN hw 0).cell (Nat.zero_le _) (aK (hS.at_ 0 rfl) rfl))) (aH rfl)) (aM 10 rfl (isV _) (aJ _) (rgV (li:=[(6,_)]) rfl (bQ 41 rfl (aB rfl rfl rfl)) ⟨cI rfl,trivial⟩ (fun w hw=>bE rfl) (aH rfl)) (aM 11 rfl (isV _) (aJ _) (rgV (li:=[(43,_),(44,_)]) rfl (bQ 41 rfl (aB rfl rfl rfl)) ⟨aO 8 (aB rfl rfl rfl),aO 9 (aB rfl rfl rfl),trivial⟩ (fun w hw=>bB  underlying29 sizeOf3 rfl rfl rfl (by omega) rfl) (aH rfl)) (aM 12 rfl (isV _) (aJ _) (rgV (li:=[(45,_)]) rfl (bQ 41 rfl (aB rfl rfl rfl)) ⟨aO 10 (aB rfl rfl rfl),trivial⟩ (fun w hw=>bA isAgg3 rfl ((aN hw 0).cell (Nat.zero_le _) (by assumption))) (aH rfl)) (aM 13 rfl (isV _) (aJ _) (rgV (li:=[(2,_)]) rfl (bQ 41 rfl (aB rfl rfl rfl)) ⟨cI rfl,trivial⟩ (fun w hw=>aW (o':=4) lB rfl rfl) (aH rfl)) (aM 14 rfl (isV _) (aJ _) (rgV (li:=[(47,_)]) rfl (bQ 41 rfl (aB rfl rfl rfl)) ⟨aO 12 (aB rfl rfl rfl),trivial⟩ (fun w hw=>bA isAgg3 rfl ((aN hw 0).cell (Nat.zero_le _) (aK (hS.at_ 1 rfl) rfl))) (aH rfl)) (aM 15 rfl (isV _) (aJ _) (rgV (li:=[(46,_),(48,_)]) rfl (bQ 41 rfl (aB rfl rfl rfl)) ⟨aO 11 (aB rfl rfl rfl),aO 13 (aB rfl rfl rfl),trivial⟩ (fun w hw=>Pd rfl rfl) (aH rfl)) (aM 16 rfl (isV _) (aJ _) (rgV (li:=[(41,_),(49,_)]) rfl (aU rfl) ⟨aO 6 (aB rfl rfl rfl),aO 14 (aB rfl rfl rfl),trivial⟩ (fun w hw=>eD rfl rfl) (aH rfl)) (dC ?_)))))))))))))))))
       intro W5 hbR hS'
       clear hS;have hS:=hS';clear hS'
       refine aI (aI (aI (aI (aI (aI (aI (aI (aI (aI (aI (aI (aI (aI (aI (aI (cL (XF.thenN (aZ rfl (fun hc=>?_) (fun hc=>?_)))))))))))))))))))
       ·have hc50:=hc;clear hc
        have e5:inQ y P0.sy=false:=by have:=of_decide_eq_true hc50;simp [inQ];omega
        refine aL (aR (aA rfl rfl (aQ (XF.thenN (bJ (XF.blkR (XF.thenR (XF.thenR (XF.blkR (XF.thenR (XF.res (cJ results31 rfl) ?_)))))))))))
        exact ⟨dR (by simp only [stepE];rw [if_neg hc10,if_neg (by simp only [gH];rw [fD hy e5];simp)]),hS.below⟩
       ·have hc50:=hc;clear hc
        have e5:inQ y P0.sy=true:=by have:=of_decide_eq_false hc50;simp [inQ];omega
        refine bG (XF.blkN (XF.thenN (aR (aG rfl rfl (cR rfl rfl (IntWalk.i64_in _ (by omega)) rfl (aA rfl rfl (aQ ?_)))))))
        exact XF.round (wl - (i+1)) [(2,_),(3,_),(6,_)] (by omega) ⟨rfl,rfl,rfl,trivial⟩ ⟨i+1,by omega,rfl,rfl,fS hy hall e5,hS.clear⟩
     ·have hc32:=of_decide_eq_false hc;clear hc
      refine dE (XF.thenX (XF.thenX (XF.blkX (XF.thenN (aL (aR (aA rfl rfl (aQ (XF.thenN (bJ (XF.res (cJ results31 rfl) ?_)))))))))))
      rw [List.take_of_length_le (by omega)] at hall
      exact ⟨dR (by simp only [stepE];rw [if_neg hc10,if_pos (by simp [gH,e1,e4,hall])]),hS.below⟩
theorem tK (ds d:Nat) (p:PV) (c:CV) (w:World) (hp:PvIn w ds d p) (h:CIn w c):Calls prog 31 #[p.val,c.val] w (fun e w'=>e = .returned (.int .i64 (stepE p c))∧Below w.heap.size w w'):=stepR_c ds d p _ _ _ _ _ w hp h.row h.len
def kR (r:RV) (p:Int) (ws:List Int):Bool:=decide (r.p=p) && (match ws[0]? with | some y=>decide (y=r.g) | none=>false)
theorem long_is (c:CV) (w:World) :
  Calls prog 54 #[c.val] w (fun e w'=>e = .returned (.bool (decide (4096 < c.wl)))∧Below w.heap.size w w'):=by
 refine cH (args:=[c.val]) func54 rfl ntmps54 rfl ?_
 have hS:=St.start w
 refine aL (aR (bK (cs:=[_,_]) hS rfl rfl rfl fun B1 W1 hS=>aA rfl rfl (aQ (XF.thenN (aL (aR (aP (o':=1) dZ rfl rfl rfl (aT isAgg29 rfl (aK (hS.at_ 0 rfl) rfl) rfl (bX underlying29 rfl rfl (dM rfl rfl rfl (aA rfl rfl (aQ (XF.thenN (bJ (XF.res (cJ results54 rfl) ?_)))))))))))))))
 exact ⟨bY (by rw [decide_eq_decide];omega),hS.below⟩
theorem M2 (r0:RV) (p:Int) (wa:Option Addr) (wl wc:Nat) (ws:List Int) (w:World) (hrow:Row w wa ws) (hlen:ws.length=wl) :
  Calls prog 52 #[r0.val,.agg #[.int .i64 p,.slice wa wl wc]] w (fun e w'=>e = .returned (.bool (kR r0 p ws))∧Below w.heap.size w w'):=by
 refine cH (args:=[r0.val,.agg #[.int .i64 p,.slice wa wl wc]]) func52 rfl ntmps52 rfl ?_
 have hS:=St.start w
 refine aL (aR (bK (cs:=[_,_,_,_,_,_,_,_,_,_]) hS rfl rfl rfl fun B1 W1 hS=>bK (cs:=[_,_]) hS rfl rfl rfl fun B2 W2 hS=>aA rfl rfl (aQ (XF.thenN (aL ?_)))))
 rcases (show r0.p≠p∨(r0.p=p∧wl=0)∨(r0.p=p∧0 < wl) by omega) with h1 | ⟨h1,h2⟩ | ⟨h1,h2⟩
 ·skip
  refine iE (m:=21) cE hS (by kernel_rfl) (by kernel_rfl) rfl (cC 1 rfl 2 rfl rfl (fun w hw=>aW (o':=0) mJ rfl rfl) rfl (aX 2 rfl 5 0 rfl rfl rfl (fun w hw=>bA isAgg3 rfl ((aN hw 0).cell (Nat.zero_le _) (aK (hS.at_ 1 rfl) rfl))) rfl (cC 3 rfl 3 rfl rfl (fun w hw=>aW (o':=0) iM rfl rfl) rfl (aX 4 rfl 7 2 rfl rfl rfl (fun w hw=>bA isAgg3 rfl ((aN hw 0).cell (Nat.zero_le _) (aK (hS.at_ 0 rfl) rfl))) rfl (aM 5 rfl (isV (.bool false)) (aJ _) (kH (li:=[(6,_),(8,_)]) rfl (aU rfl) ⟨aO 1 (aB rfl rfl rfl),aO 3 (aB rfl rfl rfl),trivial⟩ (fun w hw=>jD rfl rfl) (by rw [decide_eq_false h1]) (aH rfl)) (aX 6 rfl 9 4 rfl rfl rfl (fun w hw=>bE rfl) rfl (aM 7 rfl (isV undef) (aJ _) (bT rfl (bU 10 rfl (aB rfl rfl rfl) rfl) (aH rfl)) (aM 8 rfl (isV undef) (aJ _) (bT rfl (bU 10 rfl (aB rfl rfl rfl) rfl) (aH rfl)) (aM 9 rfl (isV undef) (aJ _) (bT rfl (bU 10 rfl (aB rfl rfl rfl) rfl) (aH rfl)) (aM 10 rfl (isV undef) (aJ _) (bT rfl (bU 10 rfl (aB rfl rfl rfl) rfl) (aH rfl)) (aX 11 rfl 10 5 rfl rfl rfl (fun w hw=>eD rfl rfl) rfl (aX 12 rfl 15 10 rfl rfl rfl (fun w hw=>bE rfl) rfl (aM 13 rfl (isV undef) (aJ _) (bT rfl (bU 16 rfl (aB rfl rfl rfl) rfl) (aH rfl)) (aM 14 rfl (isV undef) (aJ _) (bT rfl (bU 16 rfl (aB rfl rfl rfl) rfl) (aH rfl)) (aM 15 rfl (isV undef) (aJ _) (bT rfl (bU 16 rfl (aB rfl rfl rfl) rfl) (aH rfl)) (aM 16 rfl (isV undef) (aJ _) (bT rfl (bU 16 rfl (aB rfl rfl rfl) rfl) (aH rfl)) (aM 17 rfl (isV undef) (aJ _) (bT rfl (bU 16 rfl (aB rfl rfl rfl) rfl) (aH rfl)) (aM 18 rfl (isV undef) (aJ _) (bT rfl (bU 16 rfl (aB rfl rfl rfl) rfl) (aH rfl)) (aM 19 rfl (isV undef) (aJ _) (bT rfl (bU 16 rfl (aB rfl rfl rfl) rfl) (aH rfl)) (aX 20 rfl 16 11 rfl rfl rfl (fun w hw=>eD rfl rfl) rfl ?_))))))))))))))))))))
  refine aX 21 rfl 24 19 rfl rfl rfl (fun w hw=>eM rfl) rfl (dC ?_)
  intro W3 hbR hS'
  clear hS;have hS:=hS';clear hS'
  refine aI (aI (aI (aI (aI (aI (aI (aI (aI (aI (aI (aI (aI (aI (aI (aI (aI (aI (aI (aI (aI ?_))))))))))))))))))))
  refine cL (XF.thenN (bJ (XF.res (cJ results52 rfl) ?_)))
  exact ⟨bY (by unfold kR;rw [decide_eq_false h1];rfl),hS.below⟩
 ·skip
  refine iE (m:=21) cE hS (by kernel_rfl) (by kernel_rfl) rfl (cC 1 rfl 2 rfl rfl (fun w hw=>aW (o':=0) mJ rfl rfl) rfl (aX 2 rfl 5 0 rfl rfl rfl (fun w hw=>bA isAgg3 rfl ((aN hw 0).cell (Nat.zero_le _) (aK (hS.at_ 1 rfl) rfl))) rfl (cC 3 rfl 3 rfl rfl (fun w hw=>aW (o':=0) iM rfl rfl) rfl (aX 4 rfl 7 2 rfl rfl rfl (fun w hw=>bA isAgg3 rfl ((aN hw 0).cell (Nat.zero_le _) (aK (hS.at_ 0 rfl) rfl))) rfl (aM 5 rfl (isV (.bool true)) (aJ _) (kH (li:=[(6,_),(8,_)]) rfl (aU rfl) ⟨aO 1 (aB rfl rfl rfl),aO 3 (aB rfl rfl rfl),trivial⟩ (fun w hw=>jD rfl rfl) (by rw [decide_eq_true h1]) (aH rfl)) (aX 6 rfl 9 4 rfl rfl rfl (fun w hw=>bE rfl) rfl (aM 7 rfl (isV _) (aJ _) (rgV (li:=[(3,_)]) rfl (bQ 10 rfl (aB rfl rfl rfl)) ⟨cI rfl,trivial⟩ (fun w hw=>aW (o':=1) dZ rfl rfl) (aH rfl)) (aM 8 rfl (isV _) (aJ _) (rgV (li:=[(11,_)]) rfl (bQ 10 rfl (aB rfl rfl rfl)) ⟨aO 6 (aB rfl rfl rfl),trivial⟩ (fun w hw=>bA isAgg29 rfl ((aN hw 0).cell (Nat.zero_le _) (aK (hS.at_ 0 rfl) rfl))) (aH rfl)) (aM 9 rfl (isV _) (aJ _) (rgV (li:=[(12,_)]) rfl (bQ 10 rfl (aB rfl rfl rfl)) ⟨aO 7 (aB rfl rfl rfl),trivial⟩ (fun w hw=>kP underlying29 rfl) (aH rfl)) (aM 10 rfl (isV (.bool false)) (aJ _) (kH (li:=[(13,_)]) rfl (bQ 10 rfl (aB rfl rfl rfl)) ⟨aO 8 (aB rfl rfl rfl),trivial⟩ (fun w hw=>Hx rfl rfl) (by rw [decide_eq_false (by omega)]) (aH rfl)) (aM 11 rfl (isV _) (aJ _) (rgV (li:=[(10,_),(14,_)]) rfl (aU rfl) ⟨aO 5 (aB rfl rfl rfl),aO 9 (aB rfl rfl rfl),trivial⟩ (fun w hw=>dU rfl rfl) (aH rfl)) (aX 12 rfl 15 10 rfl rfl rfl (fun w hw=>bE rfl) rfl (aM 13 rfl (isV undef) (aJ _) (bT rfl (bU 16 rfl (aB rfl rfl rfl) rfl) (aH rfl)) (aM 14 rfl (isV undef) (aJ _) (bT rfl (bU 16 rfl (aB rfl rfl rfl) rfl) (aH rfl)) (aM 15 rfl (isV undef) (aJ _) (bT rfl (bU 16 rfl (aB rfl rfl rfl) rfl) (aH rfl)) (aM 16 rfl (isV undef) (aJ _) (bT rfl (bU 16 rfl (aB rfl rfl rfl) rfl) (aH rfl)) (aM 17 rfl (isV undef) (aJ _) (bT rfl (bU 16 rfl (aB rfl rfl rfl) rfl) (aH rfl)) (aM 18 rfl (isV undef) (aJ _) (bT rfl (bU 16 rfl (aB rfl rfl rfl) rfl) (aH rfl)) (aM 19 rfl (isV undef) (aJ _) (bT rfl (bU 16 rfl (aB rfl rfl rfl) rfl) (aH rfl)) (aX 20 rfl 16 11 rfl rfl rfl (fun w hw=>eD rfl rfl) rfl ?_))))))))))))))))))))
  refine aX 21 rfl 24 19 rfl rfl rfl (fun w hw=>eM rfl) rfl (dC ?_)
  intro W4 hbR hS'
  clear hS;have hS:=hS';clear hS'
  refine aI (aI (aI (aI (aI (aI (aI (aI (aI (aI (aI (aI (aI (aI (aI (aI (aI (aI (aI (aI (aI ?_))))))))))))))))))))
  refine cL (XF.thenN (bJ (XF.res (cJ results52 rfl) ?_)))
  exact ⟨bY (by unfold kR;rw [show ws=[] from List.eq_nil_of_length_eq_zero (by omega)];simp),hS.below⟩
 ·obtain ⟨b,off,y,rfl,hy,hyc⟩:=hrow.at1 (show 0 < ws.length by omega)
  have k1:W2.cell? ⟨b,off,none⟩=some (.int .i64 y):=by have:=hS.old hyc;simpa using this
  have hg:kR r0 p ws=decide (y=r0.g):=by unfold kR;rw [hy,decide_eq_true h1];rfl
  refine iE (m:=21) cE hS (by kernel_rfl) (by kernel_rfl) rfl (cC 1 rfl 2 rfl rfl (fun w hw=>aW (o':=0) mJ rfl rfl) rfl (aX 2 rfl 5 0 rfl rfl rfl (fun w hw=>bA isAgg3 rfl ((aN hw 0).cell (Nat.zero_le _) (aK (hS.at_ 1 rfl) rfl))) rfl (cC 3 rfl 3 rfl rfl (fun w hw=>aW (o':=0) iM rfl rfl) rfl (aX 4 rfl 7 2 rfl rfl rfl (fun w hw=>bA isAgg3 rfl ((aN hw 0).cell (Nat.zero_le _) (aK (hS.at_ 0 rfl) rfl))) rfl (aM 5 rfl (isV (.bool true)) (aJ _) (kH (li:=[(6,_),(8,_)]) rfl (aU rfl) ⟨aO 1 (aB rfl rfl rfl),aO 3 (aB rfl rfl rfl),trivial⟩ (fun w hw=>jD rfl rfl) (by rw [decide_eq_true h1]) (aH rfl)) (aX 6 rfl 9 4 rfl rfl rfl (fun w hw=>bE rfl) rfl (aM 7 rfl (isV _) (aJ _) (rgV (li:=[(3,_)]) rfl (bQ 10 rfl (aB rfl rfl rfl)) ⟨cI rfl,trivial⟩ (fun w hw=>aW (o':=1) dZ rfl rfl) (aH rfl)) (aM 8 rfl (isV _) (aJ _) (rgV (li:=[(11,_)]) rfl (bQ 10 rfl (aB rfl rfl rfl)) ⟨aO 6 (aB rfl rfl rfl),trivial⟩ (fun w hw=>bA isAgg29 rfl ((aN hw 0).cell (Nat.zero_le _) (aK (hS.at_ 0 rfl) rfl))) (aH rfl)) (aM 9 rfl (isV _) (aJ _) (rgV (li:=[(12,_)]) rfl (bQ 10 rfl (aB rfl rfl rfl)) ⟨aO 7 (aB rfl rfl rfl),trivial⟩ (fun w hw=>kP underlying29 rfl) (aH rfl)) (aM 10 rfl (isV (.bool true)) (aJ _) (kH (li:=[(13,_)]) rfl (bQ 10 rfl (aB rfl rfl rfl)) ⟨aO 8 (aB rfl rfl rfl),trivial⟩ (fun w hw=>Hx rfl rfl) (by rw [decide_eq_true (by omega)]) (aH rfl)) (aM 11 rfl (isV _) (aJ _) (rgV (li:=[(10,_),(14,_)]) rfl (aU rfl) ⟨aO 5 (aB rfl rfl rfl),aO 9 (aB rfl rfl rfl),trivial⟩ (fun w hw=>dU rfl rfl) (aH rfl)) (aX 12 rfl 15 10 rfl rfl rfl (fun w hw=>bE rfl) rfl (aM 13 rfl (isV _) (aJ _) (rgV (li:=[(3,_)]) rfl (bQ 16 rfl (aB rfl rfl rfl)) ⟨cI rfl,trivial⟩ (fun w hw=>aW (o':=1) dZ rfl rfl) (aH rfl)) (aM 14 rfl (isV _) (aJ _) (rgV (li:=[(17,_)]) rfl (bQ 16 rfl (aB rfl rfl rfl)) ⟨aO 12 (aB rfl rfl rfl),trivial⟩ (fun w hw=>bA isAgg29 rfl ((aN hw 0).cell (Nat.zero_le _) (aK (hS.at_ 0 rfl) rfl))) (aH rfl)) (aM 15 rfl (isV _) (aJ _) (rgV (li:=[(18,_)]) rfl (bQ 16 rfl (aB rfl rfl rfl)) ⟨aO 13 (aB rfl rfl rfl),trivial⟩ (fun w hw=>bB (j:=0) underlying29 sizeOf3 rfl rfl rfl (by omega) (Nat.add_zero _)) (aH rfl)) (aM 16 rfl (isV _) (aJ _) (rgV (li:=[(19,_)]) rfl (bQ 16 rfl (aB rfl rfl rfl)) ⟨aO 14 (aB rfl rfl rfl),trivial⟩ (fun w hw=>bA isAgg3 rfl ((aN hw 0).cell (Nat.zero_le _) (by assumption))) (aH rfl)) (aM 17 rfl (isV _) (aJ _) (rgV (li:=[(2,_)]) rfl (bQ 16 rfl (aB rfl rfl rfl)) ⟨cI rfl,trivial⟩ (fun w hw=>aW (o':=1) tF rfl rfl) (aH rfl)) (aM 18 rfl (isV _) (aJ _) (rgV (li:=[(21,_)]) rfl (bQ 16 rfl (aB rfl rfl rfl)) ⟨aO 16 (aB rfl rfl rfl),trivial⟩ (fun w hw=>bA isAgg3 rfl ((aN hw 0).cell (Nat.zero_le _) (aK (hS.at_ 1 rfl) rfl))) (aH rfl)) (aM 19 rfl (isV _) (aJ _) (rgV (li:=[(20,_),(22,_)]) rfl (bQ 16 rfl (aB rfl rfl rfl)) ⟨aO 15 (aB rfl rfl rfl),aO 17 (aB rfl rfl rfl),trivial⟩ (fun w hw=>jD rfl rfl) (aH rfl)) (aM 20 rfl (isV _) (aJ _) (rgV (li:=[(16,_),(23,_)]) rfl (aU rfl) ⟨aO 11 (aB rfl rfl rfl),aO 18 (aB rfl rfl rfl),trivial⟩ (fun w hw=>dU rfl rfl) (aH rfl)) ?_))))))))))))))))))))
  refine aX 21 rfl 24 19 rfl rfl rfl (fun w hw=>eM rfl) rfl (dC ?_)
  intro W5 hbR hS'
  clear hS;have hS:=hS';clear hS'
  refine aI (aI (aI (aI (aI (aI (aI (aI (aI (aI (aI (aI (aI (aI (aI (aI (aI (aI (aI (aI (aI ?_))))))))))))))))))))
  refine cL (XF.thenN (bJ (XF.res (cJ results52 rfl) ?_)))
  exact ⟨bY hg.symm,hS.below⟩
abbrev nI (sf:SF) (f0:WF):Value:=.agg #[.int .i64 sf.tag,.int .i64 sf.dim,.slice sf.a sf.len sf.cap,.bool f0.z,.int .i64 f0.c,.int .u64 (f0.g:Int),.slice f0.ra f0.rl f0.rc,.slice f0.ca f0.cl f0.cc,.slice f0.pa f0.pl f0.pc]
theorem Al (S:PS) (sf:SF) (w:World) (hs:SIs w S sf) (hok:S.ok) :
  Calls prog 19 #[sf.val] w (fun e w'=>∃ f0:WF,e = .returned (nI sf f0)∧jM w.heap.size w' S f0 (kF S)∧Below w.heap.size w w'):=by
 refine cH (args:=[sf.val]) func19 rfl ntmps19 rfl ?_
 have hS:=St.start w
 refine aL (aR (bK (cs:=[_,_,_]) hS rfl rfl rfl fun B1 W1 hS=>bH (cs:=[_,_,_,_,_,_,_,_,_]) hS zeroValue81 rfl rfl fun B2 W2 hS=>aQ (XF.thenN (aL (aR (aS (vs:=[_,_,_]) isAgg25 sizeOf25 rfl (aE.own (j:=0) (m:=3) (hS.at_ 1 rfl) rfl) rfl ?_))))))
 have hsz:=hS.below.size
 refine cO (vs:=[_]) hS J3 rfl (Fs S sf _ (hs.below hS.below) hok) rfl ?_
 rintro e W3 ⟨f0,rfl,hn,hb⟩
 refine ⟨_,rfl,hb,fun hS'=>?_⟩
 clear hS;have hS:=hS';clear hS'
 refine aG rfl rfl (bL rfl rfl rfl (bL rfl rfl rfl (bH (cs:=[_,_,_,_,_,_]) hS zeroValue53 rfl rfl fun B4 W4 hS=>aV (i:=0) (vs:=[_,_,_,_,_,_]) (cs':=[_,_,_,_,_,_]) (O':=[_,_,_]) hS sizeOf53 rfl rfl rfl rfl rfl rfl rfl fun W5 hS=>aA rfl rfl (aQ (XF.thenN (aL (aR (aS (vs:=[_,_,_]) isAgg25 sizeOf25 rfl (aE.own (j:=0) (m:=3) (hS.at_ 2 rfl) rfl) rfl (aS (vs:=[_,_,_,_,_,_]) isAgg53 sizeOf53 rfl (aE.own (j:=0) (m:=6) (hS.at_ 0 rfl) rfl) rfl (cS (us:=[(0,.agg (List.toArray [_,_,_])),(1,.agg (List.toArray [_,_,_,_,_,_]))]) rfl (H5 _ _ _ _ _ _ _ _ _) rfl (aV (i:=1) (vs:=[_,_,_,_,_,_,_,_,_]) (cs':=[_,_,_,_,_,_,_,_,_]) (O':=[_,_,_]) hS sizeOf81 rfl rfl rfl rfl rfl rfl rfl fun W6 hS=>aQ (XF.thenN (bJ (XF.res (dO (vs:=[_,_,_,_,_,_,_,_,_]) results19 isAgg81 sizeOf81 rfl (aE.own (j:=0) (m:=9) (hS.at_ 1 rfl) rfl)) ?_))))))))))))))
 exact ⟨f0,rfl,(hn.agree (hS.since 0 rfl)).mono hsz,hS.below⟩
theorem Im (S:PS) (sf:SF) (f0:WF) (w:World) (hs:SIs w S sf) (hok:S.ok) :
  Calls prog 37 #[nI sf f0] w (gO S (rH S) w):=by
 refine cH (args:=[nI sf f0]) func37 rfl ntmps37 rfl ?_
 have hS:=St.start w
 refine aL (aR (bK (cs:=[_,_,_,_,_,_,_,_,_]) hS rfl rfl rfl fun B1 W1 hS=>bH (cs:=[_,_,_,_,_,_]) hS zeroValue53 rfl rfl fun B2 W2 hS=>aQ (XF.thenN (aL (aR (aP (o':=0) wB rfl rfl rfl (aS (vs:=[_,_,_]) isAgg25 sizeOf25 rfl (aE.own (j:=0) (m:=3) (hS.at_ 1 rfl) rfl) rfl ?_)))))))
 have hsz:=hS.below.size
 refine cO (vs:=[_]) hS goes_59 rfl (OneW_ok S sf _ (hs.below hS.below) hok) rfl ?_
 rintro e W3 ⟨f,rfl,hn,hb⟩
 refine ⟨_,rfl,hb,fun hS'=>?_⟩
 clear hS;have hS:=hS';clear hS'
 refine aG rfl rfl (bL rfl rfl rfl (bL rfl rfl rfl (bH (cs:=[_,_,_,_,_,_]) hS zeroValue53 rfl rfl fun B4 W4 hS=>aV (i:=0) (vs:=[_,_,_,_,_,_]) (cs':=[_,_,_,_,_,_]) (O':=[_,_,_]) hS sizeOf53 rfl rfl rfl rfl rfl rfl rfl fun W5 hS=>aA rfl rfl (aQ (XF.thenN (aL (aR (aS (vs:=[_,_,_,_,_,_]) isAgg53 sizeOf53 rfl (aE.own (j:=0) (m:=6) (hS.at_ 0 rfl) rfl) rfl (aV (i:=1) (vs:=[_,_,_,_,_,_]) (cs':=[_,_,_,_,_,_]) (O':=[_,_,_]) hS sizeOf53 rfl rfl rfl rfl rfl rfl rfl fun W6 hS=>aQ (XF.thenN (bJ (XF.res (dO (vs:=[_,_,_,_,_,_]) results37 isAgg53 sizeOf53 rfl (aE.own (j:=0) (m:=6) (hS.at_ 1 rfl) rfl)) ?_))))))))))))
 exact ⟨f,rfl,(hn.agree (hS.since 0 rfl)).mono hsz,hS.below⟩
theorem C8 (S:PS) (sf:SF) (rf:WF) (w:World) (hs:SIs w S sf) (hok:S.ok) (a:Option Addr) (c m:Nat) (f0:WF) (x0:PX) (ft:List WF) (xt:List PX) (hr:qS w a (f0::ft)) (hx:XL w S (f0::ft) (x0::xt)) (hm:ft.length+1=m) (hmc:m≤c) (hmx:m≤9223372036854775807) (ht:Tabs w) :
  Calls prog 40 #[nI sf rf,.slice a m c] w (gO S (xt.foldl (kO S) x0) w):=by
 refine cH (args:=[nI sf rf,.slice a m c]) func40 rfl ntmps40 rfl ?_
 have hS:=St.start w
 refine aL (aR (bK (cs:=[_,_,_,_,_,_,_,_,_]) hS rfl rfl rfl fun B1 W1 hS=>bH (cs:=[_,_,_,_,_,_]) hS zeroValue53 rfl rfl fun B2 W2 hS=>aQ (XF.thenN (aL (aR (aP (o':=0) wB rfl rfl rfl (aS (vs:=[_,_,_]) isAgg25 sizeOf25 rfl (aE.own (j:=0) (m:=3) (hS.at_ 1 rfl) rfl) rfl (aG rfl rfl ?_))))))))
 have hsz:=hS.below.size
 refine cO (vs:=[_,_]) hS goes_60 rfl (Ii S sf _ (hs.below hS.below) hok a c m f0 x0 ft xt (hr.below hS.below) (hx.below hS.below) hm hmc hmx (ht.below hS.below)) rfl ?_
 rintro e W3 ⟨f,rfl,hn,hb⟩
 refine ⟨_,rfl,hb,fun hS'=>?_⟩
 clear hS;have hS:=hS';clear hS'
 refine aG rfl rfl (bL rfl rfl rfl (bL rfl rfl rfl (bH (cs:=[_,_,_,_,_,_]) hS zeroValue53 rfl rfl fun B4 W4 hS=>aV (i:=0) (vs:=[_,_,_,_,_,_]) (cs':=[_,_,_,_,_,_]) (O':=[_,_,_]) hS sizeOf53 rfl rfl rfl rfl rfl rfl rfl fun W5 hS=>aA rfl rfl (aQ (XF.thenN (aL (aR (aS (vs:=[_,_,_,_,_,_]) isAgg53 sizeOf53 rfl (aE.own (j:=0) (m:=6) (hS.at_ 0 rfl) rfl) rfl (aV (i:=1) (vs:=[_,_,_,_,_,_]) (cs':=[_,_,_,_,_,_]) (O':=[_,_,_]) hS sizeOf53 rfl rfl rfl rfl rfl rfl rfl fun W6 hS=>aQ (XF.thenN (bJ (XF.res (dO (vs:=[_,_,_,_,_,_]) results40 isAgg53 sizeOf53 rfl (aE.own (j:=0) (m:=6) (hS.at_ 1 rfl) rfl)) ?_))))))))))))
 exact ⟨f,rfl,(hn.agree (hS.since 0 rfl)).mono hsz,hS.below⟩
end
end Go.Proofs.YtofaiolkihcfmaaGreatDoor
