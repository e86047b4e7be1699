import Derived.Shelf.SlSortCmp.InsertionK
import Derived.Deep.Draws
import Derived.Test.YtbmieipifgailaaGreatDoorCkF
set_option maxRecDepth 100000
set_option maxHeartbeats 4000000
set_option linter.unusedVariables false
set_option linter.unusedSimpArgs false
set_option linter.unusedSectionVars false
set_option linter.unnecessarySimpa false
namespace Go.Proofs.YtbmieipifgailaaGreatDoor
open Go.Proofs.Tryz
section
open Go.RowKit
section
variable {S:PS} {b:Bool} {A A':PX→Prop}
theorem Fs.bind (h:S.ok) (hA':∀ x,A' x→OkX S x) {z:PX} (hz:Fs S A z) (hA:∀ x,A x→Fs S A' x):Fs S A' z:=by
 induction hz with
 | zero=>exact .zero
 | add _ h1 ih=>exact Fs.plus h hA' ih (hA _ h1)
end
def StB (S:PS) (b:Bool) (E:List Eg) (xs:List PX) (sym:Int) (s:Nat) (y:PX):Prop:=∃ e∈E,e.g=sym∧e.t=s∧∃ x,AtX xs e.f x∧y=iJ S b x e.y
structure StI (S:PS) (b:Bool) (E:List Eg) (xs:List PX) (sym:Int) (n:Nat) (ys:List PX):Prop where
 len:ys.length=n
 ok:∀ x∈ys,OkX S x
 sum:∀ s z,AtX ys s z→Fs S (StB S b E xs sym s) z
def UpX (S:PS) (ys zs:List PX):Prop:=∀ s x y,AtX ys s x→AtX zs s y→LeX S x y
section
variable {S:PS} {b:Bool} {E:List Eg} {xs ys zs us:List PX} {sym:Int} {n:Nat}
theorem UpX.refl (h:S.ok) (hx:∀ x∈xs,OkX S x):UpX S xs xs:=fun s x y h1 h2=>by unfold AtX at h1 h2;rw [h1] at h2;cases h2;exact By h (hx x (List.mem_of_getElem? h1))
theorem UpX.trans (h:S.ok) (h1:UpX S ys zs) (h2:UpX S zs us) (hy:∀ x∈ys,OkX S x) (hz:∀ x∈zs,OkX S x) (hu:∀ x∈us,OkX S x) (hl:zs.length=ys.length):UpX S ys us:=fun s x y hx hv=>by
 have hlt:s < zs.length:=by rw [hl];exact (List.getElem?_eq_some_iff.1 hx).1
 have hm:AtX zs s zs[s]:=List.getElem?_eq_getElem hlt;exact gN h (hy x (List.mem_of_getElem? hx)) (hz _ (List.mem_of_getElem? hm)) (hu y (List.mem_of_getElem? hv)) (h1 s x _ hx hm) (h2 s _ y hm hv)
theorem StI.zero (n:Nat):StI S b E xs sym n (List.replicate n (bU S)):=⟨by simp,fun x hx=>by rw [(List.mem_replicate.1 hx).2];exact nC,fun s z hz=>by
 have h4:=(List.getElem?_eq_some_iff.1 hz).2;rw [List.getElem_replicate] at h4;rw [← h4];exact .zero⟩
theorem StI.hop (h:S.ok) (hx:∀ x∈xs,OkX S x) (hE:∀ e∈E,OkX S e.y) (hi:StI S b E xs sym n ys) {e:Eg} (he:e∈E) (hg:e.g=sym) {x:PX} (hxf:AtX xs e.f x) (ht:e.t < n) :
  StI S b E xs sym n (ys.set e.t (cD S (ys.getD e.t (bU S)) (iJ S b x e.y)))∧UpX S ys (ys.set e.t (cD S (ys.getD e.t (bU S)) (iJ S b x e.y)))∧∀ z,AtX (ys.set e.t (cD S (ys.getD e.t (bU S)) (iJ S b x e.y))) e.t z→LeX S (iJ S b x e.y) z:=by
 have hlt:e.t < ys.length:=by rw [hi.len];exact ht
 have hyt:AtX ys e.t ys[e.t]:=List.getElem?_eq_getElem hlt;have hg9:ys.getD e.t (bU S)=ys[e.t]:=by rw [List.getD_eq_getElem?_getD,List.getElem?_eq_getElem hlt];rfl
 rw [hg9];have hyo:=hi.ok _ (List.mem_of_getElem? hyt);have hxo:=hx x (List.mem_of_getElem? hxf);have hzo:=iI (b:=b) h hxo (hE e he);have hco:=kN h hyo hzo;refine ⟨⟨by rw [List.length_set];exact hi.len,fun z hz=>?_,fun s z hz=>?_⟩,fun s v z hv hz=>?_,fun z hz=>?_⟩
 ·rcases List.mem_or_eq_of_mem_set hz with h1 | rfl
  ·exact hi.ok z h1
  ·exact hco
 ·rcases Nat.decEq s e.t with e1 | e1
  ·rw [AtX,List.getElem?_set_ne (Ne.symm e1)] at hz;exact hi.sum s z hz
  ·subst e1;rw [AtX,List.getElem?_set_self hlt] at hz;cases hz;exact .add (hi.sum _ _ hyt) ⟨e,he,hg,rfl,x,hxf,rfl⟩
 ·rcases Nat.decEq s e.t with e1 | e1
  ·rw [AtX,List.getElem?_set_ne (Ne.symm e1)] at hz;unfold AtX at hv;rw [hv] at hz;cases hz;exact By h (hi.ok _ (List.mem_of_getElem? hv))
  ·subst e1;rw [AtX,List.getElem?_set_self hlt] at hz;cases hz;unfold AtX at hv hyt;rw [hyt] at hv;cases hv;exact sV h hzo hyo
 ·rw [AtX,List.getElem?_set_self hlt] at hz;cases hz;exact Bz h hzo hyo
end
section
variable {S:PS} {b:Bool} {py:TV→PX} {ts:List TV} {xs:List PX} {sym:Int} {n:Nat}
theorem Jy (h:S.ok) (hx:∀ x∈xs,OkX S x) (hp:∀ t∈ts,OkX S (py t)) (hb:∀ t∈ts,t.t.toNat < n) {s:Nat} {x:PX} (hs:AtX xs s x):∀ (js:List Int) (ys:List PX),(∀ j∈js,∃ t,ts[j.toNat]?=some t∧kSym t=((s:Int),sym))→StI S b (egsX kSym py ts) xs sym n ys →
  StI S b (egsX kSym py ts) xs sym n (mJ S b py ts x js ys)∧UpX S ys (mJ S b py ts x js ys)∧∀ j∈js,∀ t,ts[j.toNat]?=some t→∀ z,AtX (mJ S b py ts x js ys) t.t.toNat z→LeX S (iJ S b x (py t)) z
 | [],ys,_,hi=>⟨hi,UpX.refl h hi.ok,fun j hj=>by cases hj⟩
 | j::js,ys,hj,hi=>by
  obtain ⟨t,ht,hk⟩:=hj j List.mem_cons_self;have hm:=List.mem_of_getElem? ht;have hf:t.f=(s:Int):=congrArg Prod.fst hk;have hg:t.g=sym:=congrArg Prod.snd hk;have he:egX kSym py t∈egsX kSym py ts:=List.mem_map_of_mem hm;have hE:∀ e∈egsX kSym py ts,OkX S e.y:=fun e he=>by obtain ⟨u,hu,rfl⟩:=List.mem_map.1 he;exact hp u hu
  have hfn:(egX kSym py t).f=s:=by show t.f.toNat=s;rw [hf,Int.toNat_natCast]
  obtain ⟨h1,h2,h3⟩:=StI.hop h hx hE hi he hg (x:=x) (by rw [hfn];exact hs) (hb t hm);have e1:mJ S b py ts x (j::js) ys=mJ S b py ts x js (ys.set (egX kSym py t).t (cD S (ys.getD (egX kSym py t).t (bU S)) (iJ S b x (egX kSym py t).y))):=by unfold mJ;rw [List.foldl_cons,ht];rfl
  rw [e1];obtain ⟨k1,k2,k3⟩:=Jy h hx hp hb hs js _ (fun i hi=>hj i (List.mem_cons_of_mem _ hi)) h1;refine ⟨k1,h2.trans h k2 hi.ok h1.ok k1.ok (by rw [h1.len,hi.len]),fun i hi9 u hu z hz=>?_⟩;rcases List.mem_cons.1 hi9 with rfl | hi9
  ·rw [ht] at hu;cases hu;have hlt:(egX kSym py t).t < (ys.set (egX kSym py t).t (cD S (ys.getD (egX kSym py t).t (bU S)) (iJ S b x (egX kSym py t).y))).length:=by rw [h1.len];exact hb t hm
   have hmid:=List.getElem?_eq_getElem hlt;exact gN h (iI h (hx x (List.mem_of_getElem? hs)) (hp t hm)) (h1.ok _ (List.mem_of_getElem? hmid)) (k1.ok z (List.mem_of_getElem? hz)) (h3 _ hmid) (k2 _ _ _ hmid hz)
  ·exact k3 i hi9 u hu z hz
theorem byT_sym {s:Nat}:∀ j∈byT kSym ts 0 ((s:Int),sym),∃ t,ts[j.toNat]?=some t∧kSym t=((s:Int),sym):=fun j hj=>by obtain ⟨m,t,h1,h2,h3⟩:=sU.1 hj;rw [Nat.zero_add] at h1;subst h1;exact ⟨t,by rw [Int.toNat_natCast];exact h2,h3.symm⟩
theorem Jz (h:S.ok) (hx:∀ x∈xs,OkX S x) (hp:∀ t∈ts,OkX S (py t)) (hb:∀ t∈ts,t.t.toNat < n):∀ (l:List Nat) (ys:List PX),(∀ s∈l,s < xs.length)→StI S b (egsX kSym py ts) xs sym n ys →
  StI S b (egsX kSym py ts) xs sym n (kX S b py ts xs sym l ys)∧UpX S ys (kX S b py ts xs sym l ys)∧∀ s∈l,∀ x,AtX xs s x→∀ t∈ts,kSym t=((s:Int),sym)→∀ z,AtX (kX S b py ts xs sym l ys) t.t.toNat z→LeX S (iJ S b x (py t)) z
 | [],ys,_,hi=>⟨hi,UpX.refl h hi.ok,fun j hj=>by cases hj⟩
 | s::l,ys,hl,hi=>by
  have hlt:=hl s List.mem_cons_self;have hs:AtX xs s xs[s]:=List.getElem?_eq_getElem hlt;obtain ⟨h1,h2,h3⟩:=Jy h hx hp hb hs (byT kSym ts 0 ((s:Int),sym)) ys byT_sym hi;have e1:kX S b py ts xs sym (s::l) ys=kX S b py ts xs sym l (mJ S b py ts xs[s] (byT kSym ts 0 ((s:Int),sym)) ys):=by show List.foldl _ _ _=_;unfold kX;rw [List.foldl_cons,List.getD_eq_getElem?_getD,List.getElem?_eq_getElem hlt];rfl
  rw [e1];obtain ⟨k1,k2,k3⟩:=Jz h hx hp hb l _ (fun i hi=>hl i (List.mem_cons_of_mem _ hi)) h1;refine ⟨k1,h2.trans h k2 hi.ok h1.ok k1.ok (by rw [h1.len,hi.len]),fun i hi9 x hxi t ht hk z hz=>?_⟩;rcases List.mem_cons.1 hi9 with rfl | hi9
  ·unfold AtX at hxi hs;rw [hs] at hxi;cases hxi;obtain ⟨m,hm⟩:=List.getElem?_of_mem ht;have hj:((m:Nat):Int)∈byT kSym ts 0 ((i:Int),sym):=sU.2 ⟨m,t,by rw [Nat.zero_add],hm,hk.symm⟩;have hlt2:t.t.toNat < (mJ S b py ts xs[i] (byT kSym ts 0 ((i:Int),sym)) ys).length:=by rw [h1.len];exact hb t ht
   have hmid:=List.getElem?_eq_getElem hlt2;exact gN h (iI h (hx _ (List.getElem_mem hlt)) (hp t ht)) (h1.ok _ (List.mem_of_getElem? hmid)) (k1.ok z (List.mem_of_getElem? hz)) (h3 _ hj t (by rw [Int.toNat_natCast];exact hm) _ hmid) (k2 _ _ _ hmid hz)
  ·exact k3 i hi9 x hxi t ht hk z hz
structure InN (n:Nat) (ts:List TV):Prop where
 f:∀ t∈ts,∃ i:Nat,t.f=(i:Int)∧i < n
 t:∀ t∈ts,∃ i:Nat,t.t=(i:Int)∧i < n
theorem InN.tn {t:TV} (h:InN n ts) (ht:t∈ts):t.t.toNat < n:=by obtain ⟨i,h1,h2⟩:=h.t t ht;rw [h1,Int.toNat_natCast];exact h2
theorem InN.fn {t:TV} (h:InN n ts) (ht:t∈ts):t.f.toNat < n:=by obtain ⟨i,h1,h2⟩:=h.f t ht;rw [h1,Int.toNat_natCast];exact h2
theorem Na {kf:TV→Int×Int} (hp:∀ t∈ts,OkX S (py t)):∀ e∈egsX kf py ts,OkX S e.y:=fun e he=>by obtain ⟨u,hu,rfl⟩:=List.mem_map.1 he;exact hp u hu
theorem J0 {E:List Eg} {p:Nat} {ys:List PX} (h:S.ok) (hE:∀ e∈E,OkX S e.y) (hb:∀ e∈E,e.f < n∧e.t < n) (hp:p < n) (he:Eps S b E ((List.replicate n (bU S)).set p (oW S)) ys) (hyo:∀ x∈ys,OkX S x) (hc:xK S b E ys):Full S b E p [] ys:=by
 have hl:ys.length=n:=by rw [he.len];simp
 refine Pq h hE hyo hl hb hc (fun s x hx=>he.sum (Pth S b E p [] ) (fun s x hx=>hx.ok h hE) (fun e he hg x hx=>.eps hx he rfl hg) (fun s x hx=>?_) s x hx) (fun _ x hx=>?_) (fun v q x e _ _ _ h1=>by simp at h1)
 ·rcases Nat.decEq s p with e | rfl
  ·rw [AtX,List.getElem?_set_ne (Ne.symm e)] at hx;have h4:=(List.getElem?_eq_some_iff.1 hx).2;rw [List.getElem_replicate] at h4;rw [← h4];exact .zero
  ·rw [AtX,List.getElem?_set_self (by simp;exact hp)] at hx;cases hx;exact Fs.one .nil (pS h)
 ·exact he.up p _ x (by rw [AtX,List.getElem?_set_self (by simp;exact hp)]) hx
theorem Nb {p:Nat} {u:List Int} {ys:List PX} {l:List Nat} (h:S.ok) (hp:∀ t∈ts,OkX S (py t)) (hn:InN n ts) (hf:Full S b (egsX kSym py ts) p u xs) (hxo:∀ x∈xs,OkX S x) (hxl:xs.length=n) (hl:∀ i,i∈l↔∃ x,xs[i]?=some x∧x≠bU S) (hsy:sym ≠ -1)
  (he:Eps S b (egsX kSym py ts) (kX S b py ts xs sym l (List.replicate n (bU S))) ys) (hyo:∀ x∈ys,OkX S x) (hc:xK S b (egsX kSym py ts) ys):Full S b (egsX kSym py ts) p (u++[sym]) ys:=by
 have hE:=Na (kf:=kSym) hp;have hb:∀ e∈egsX kSym py ts,e.f < n∧e.t < n:=fun e he=>by obtain ⟨t,ht,rfl⟩:=List.mem_map.1 he;exact ⟨hn.fn ht,hn.tn ht⟩
 obtain ⟨h1,h2,h3⟩:=Jz (sym:=sym) (b:=b) h hxo hp (fun t ht=>hn.tn ht) l (List.replicate n (bU S)) (fun s hs=>by obtain ⟨x,h9,_⟩:=(hl s).1 hs;exact (List.getElem?_eq_some_iff.1 h9).1) (StI.zero n);have hly:ys.length=n:=by rw [he.len];exact h1.len
 refine Pq h hE hyo hly hb hc (fun s x hx=>he.sum (Pth S b (egsX kSym py ts) p (u++[sym])) (fun s x hx=>hx.ok h hE) (fun e he hg x hx=>.eps hx he rfl hg) (fun s x hx=>?_) s x hx) (fun h9=>by simp at h9) (fun v q x e he9 hq hg hv hpth z hz=>?_)
 ·refine Fs.bind h (fun x hx=>hx.ok h hE) (h1.sum s x hx) ?_;rintro y ⟨e,he9,hg,rfl,x9,hx9,rfl⟩;refine Fs.extL h (fun x hx=>hx.ok h hE) (hE e he9) (hf.sum _ _ hx9) (fun v hv=>?_);rw [← hg];exact .sym hv he9 rfl (by rw [hg];exact hsy)
 ·obtain ⟨rfl,h9⟩:=List.append_inj' hv rfl;have h9:sym=e.g:=by simpa using h9
  subst h9;obtain ⟨t,ht,rfl⟩:=List.mem_map.1 he9;obtain ⟨i,hi,hin⟩:=hn.f t ht;have hfi:(egX kSym py t).f=i:=by show t.f.toNat=i;rw [hi,Int.toNat_natCast]
  have hlt:(egX kSym py t).f < xs.length:=by rw [hfi,hxl];exact hin
  have hx9:AtX xs (egX kSym py t).f xs[(egX kSym py t).f]:=List.getElem?_eq_getElem hlt;have hle:LeX S x xs[(egX kSym py t).f]:=hf.top (egX kSym py t).f _ x hx9 (by rw [hq];exact hpth);have hlt2:t.t.toNat < (kX S b py ts xs (egX kSym py t).g l (List.replicate n (bU S))).length:=by rw [h1.len];exact hn.tn ht
  have hmid:=List.getElem?_eq_getElem hlt2;have hxe:=hxo _ (List.getElem_mem hlt);have hmo:=h1.ok _ (List.mem_of_getElem? hmid);have hz0:=hyo z (List.mem_of_getElem? hz);have hpt:=hp t ht;have key:LeX S (iJ S b xs[(egX kSym py t).f] (py t)) (kX S b py ts xs (egX kSym py t).g l (List.replicate n (bU S)))[t.t.toNat]:=by
   by_cases hzz:xs[(egX kSym py t).f]=bU S
   ·have h8:LeX S (iJ S b xs[(egX kSym py t).f] (py t)) (kX S b py ts xs (egX kSym py t).g l (List.replicate n (bU S)))[t.t.toNat]:=by rw [hzz,Wl hpt];exact wI hmo
    exact h8
   ·refine h3 (egX kSym py t).f ((hl _).2 ⟨_,hx9,hzz⟩) _ hx9 t ht ?_ _ hmid;show (t.f,t.g)=_;rw [hfi,hi];rfl
  have hm1:=qG (b:=b) h (hpth.ok h hE) hxe hpt hle;have hxo9:=hpth.ok h hE;exact gN h (iI h hxo9 hpt) (iI h hxe hpt) hz0 hm1 (gN h (iI h hxe hpt) hmo hz0 key (he.up _ _ _ hmid hz))
theorem end_lub {E:List Eg} {p:Nat} {u:List Int} (h:S.ok) (hE:∀ e∈E,OkX S e.y) (hf:Full S b E p u xs) (hxo:∀ x∈xs,OkX S x) (fs:List Int) (hq:∀ s∈fs,s.toNat < xs.length):LubX S (M6 S b E (fs.map Int.toNat) p u) (wH S xs fs):=by
 have hok:=M7 (b:=b) (F:=fs.map Int.toNat) (p:=p) (u:=u) h hE;constructor
 ·unfold wH
  have:∀ (l:List Int) (z:PX),(∀ s∈l,s∈fs)→Fs S (M6 S b E (fs.map Int.toNat) p u) z→Fs S (M6 S b E (fs.map Int.toNat) p u) (l.foldl (fun z s=>cD S z (xs.getD s.toNat (bU S))) z):=by
   intro l
   induction l with
   | nil=>intro z _ hz;exact hz
   | cons s l ih =>
    intro z hl hz;refine ih _ (fun i hi=>hl i (List.mem_cons_of_mem _ hi)) (Fs.plus h hok hz ?_);have hs:=hl s List.mem_cons_self;have hlt:=hq s hs;rw [List.getD_eq_getElem?_getD,List.getElem?_eq_getElem hlt];exact (hf.sum s.toNat _ (List.getElem?_eq_getElem hlt)).mono fun x hx=>⟨_,List.mem_map_of_mem hs,hx⟩
  exact this fs _ (fun s hs=>hs) .zero
 ·rintro x ⟨q,hqm,hx⟩;obtain ⟨s,hs,rfl⟩:=List.mem_map.1 hqm;have hlt:=hq s hs;have h1:=hf.top _ _ x (List.getElem?_eq_getElem hlt) hx;have hxo1:=hx.ok h hE;have hso:=hxo _ (List.getElem_mem hlt)
  have:∀ (l:List Int) (z:PX),(∀ s∈l,s∈fs)→OkX S z→(LeX S x z∨s∈l)→LeX S x (l.foldl (fun z s=>cD S z (xs.getD s.toNat (bU S))) z):=by
   intro l
   induction l with
   | nil=>intro z _ _ hz;exact hz.resolve_right (by simp)
   | cons r l ih =>
    intro z hl hz hc;have hr:=hl r List.mem_cons_self;have hltr:=hq r hr;have hg:xs.getD r.toNat (bU S)=xs[r.toNat]:=by rw [List.getD_eq_getElem?_getD,List.getElem?_eq_getElem hltr];rfl
    have hro:=hxo _ (List.getElem_mem hltr);have hco:OkX S (cD S z (xs.getD r.toNat (bU S))):=by rw [hg];exact kN h hz hro
    refine ih _ (fun i hi=>hl i (List.mem_cons_of_mem _ hi)) hco ?_;rcases hc with hc | hc
    ·refine .inl (gN h hxo1 hz hco hc ?_);show LeX S z (cD S z (xs.getD r.toNat (bU S)));rw [hg];exact sV h hro hz
    ·rcases List.mem_cons.1 hc with rfl | hc
     ·refine .inl (gN h hxo1 hso hco h1 ?_);show LeX S _ (cD S z (xs.getD s.toNat (bU S)));rw [hg];exact Bz h hso hz
     ·exact .inr hc
  exact this fs _ (fun s hs=>hs) nC (.inr hs)
end
theorem J1 {S:PS} (h:S.ok):Iv S≤4194304:=by
 cases S with
 | one t n =>
  have h1:=uK (l:=0) h;show pA t n≤4194304;omega
 | two t n u m =>
  have h1:=uK (l:=0) h.1;have h2:=uK (l:=0) h.2;show pA t n+pA u m≤4194304;omega
structure AutoOk (w:World) (S:PS) (py:TV→PX) (n:Nat) (a:AV):Prop where
 ok:S.ok
 si:SIs w S a.s.f
 st:a.st=(n:Int)
 n4:n≤4096
 frow:Row w a.fa a.fs
 flen:a.fs.length=a.fl
 fmax:a.fl≤9223372036854775807
 trow:mQ w a.ta a.ts
 tlen:a.ts.length=a.tl
 tl:a.tl≤65536
 fq:∀ s∈a.fs,inQ s (n:Int)=true
 tf:∀ t∈a.ts,inQ t.f (n:Int)=true
 tt:∀ t∈a.ts,inQ t.t (n:Int)=true
 tg:∀ t∈a.ts,-1≤t.g∧t.g < a.sy
 sy:0≤a.sy∧a.sy≤4096
 px:∀ t∈a.ts,XIs w S t.x.f (py t)
theorem AutoOk.below {w w':World} {S:PS} {py:TV→PX} {n:Nat} {a:AV} (h:AutoOk w S py n a) (hb:Below w.heap.size w w'):AutoOk w' S py n a :=
 ⟨h.ok,h.si.below hb,h.st,h.n4,h.frow.below hb,h.flen,h.fmax,h.trow.below hb,h.tlen,h.tl,h.fq,h.tf,h.tt,h.tg,h.sy,fun t ht=>(h.px t ht).below hb⟩
theorem AutoOk.inN {w:World} {S:PS} {py:TV→PX} {n:Nat} {a:AV} (h:AutoOk w S py n a):InN n a.ts:=⟨fun t ht=>lN (h.tf t ht),fun t ht=>lN (h.tt t ht)⟩
theorem AutoOk.py {w:World} {S:PS} {py:TV→PX} {n:Nat} {a:AV} (h:AutoOk w S py n a):∀ t∈a.ts,OkX S (py t):=fun t ht=>(h.px t ht).ok
theorem AutoOk.ky {w:World} {S:PS} {py:TV→PX} {n:Nat} {a:AV} (h:AutoOk w S py n a):∀ t∈a.ts,(0≤t.f∧t.f≤1000000)∧(-1≤t.g∧t.g≤1000000):=fun t ht=>by obtain ⟨i,h1,h2⟩:=lN (h.tf t ht);have h3:=h.tg t ht;have h4:=h.sy;have h5:=h.n4;omega
theorem AutoOk.kf {w:World} {S:PS} {py:TV→PX} {n:Nat} {a:AV} (h:AutoOk w S py n a) (kf:TV→Int×Int) (hk:∀ t,(kf t).1=t.f):∀ t∈a.ts,∃ s:Nat,(kf t).1=(s:Int)∧s < n:=fun t ht=>by rw [hk t];exact lN (h.tf t ht)
theorem AutoOk.eb {w:World} {S:PS} {py:TV→PX} {n:Nat} {a:AV} (h:AutoOk w S py n a) (kf:TV→Int×Int) (hk:∀ t,(kf t).1=t.f):∀ e∈egsX kf py a.ts,e.f < n∧e.t < n:=fun e he=>by obtain ⟨t,ht,rfl⟩:=List.mem_map.1 he;refine ⟨?_,h.inN.tn ht⟩;show (kf t).1.toNat < n;rw [hk t];exact h.inN.fn ht
theorem finB_in {st:Int} {fs:List Int} (h:Gr st fs=true):∀ s∈fs,inQ s st=true:=fun s hs=>by obtain ⟨i,hi⟩:=List.getElem?_of_mem hs;have h1:=List.all_eq_true.1 h i (List.mem_range.2 (List.getElem?_eq_some_iff.1 hi).1);unfold mB at h1;rw [vV hi,Bool.and_eq_true] at h1;exact h1.1
theorem Su {w:World} {ds d:Nat} {a:AV} (h:AIn w ds d a) (hE:dJ a=0):∃ S py n,AutoOk w S py n a:=by
 unfold dJ at hE;by_cases h1:dR a.s≠0
 ·rw [if_pos h1] at hE;exact absurd hE h1
 rw [if_neg h1] at hE;have h1:dR a.s=0:=Decidable.of_not_not h1;by_cases h2:65536 < a.tl
 ·rw [if_pos h2] at hE;cases hE
 rw [if_neg h2] at hE;by_cases h3:dE a.st a.sy a.fs a.ts=false
 ·rw [if_pos h3] at hE;cases hE
 rw [if_neg h3] at hE;by_cases h4:¬ a.ts.all (fun t=>decide (lY a.s t.x=0))=true
 ·rw [if_neg h4] at hE;cases hE
 have h4:a.ts.all (fun t=>decide (lY a.s t.x=0))=true:=Decidable.of_not_not h4;have h3:dE a.st a.sy a.fs a.ts=true:=by simpa using h3
 unfold dE at h3;by_cases h5:a.st < 0∨4096 < a.st∨a.sy < 0∨4096 < a.sy
 ·rw [if_pos h5] at h3;cases h3
 rw [if_neg h5,Bool.and_eq_true] at h3;obtain ⟨n,hn⟩:∃ n:Nat,a.st=(n:Int):=⟨a.st.toNat,by omega⟩;obtain ⟨S,hok,hsi,hx⟩:=I1 h.s h1;have hw:∀ t∈a.ts,∃ y,XIs w S t.x.f y:=fun t ht=>by
  have h6:=of_decide_eq_true (List.all_eq_true.1 h4 t ht);refine hx t.x d (h.tin t ht) ?_;unfold lY at h6;rw [if_pos h1] at h6;by_cases h7:okW a.s t.x=true
  ·exact h7
  ·rw [if_neg h7] at h6;cases h6
 have htr:∀ t∈a.ts,inQ t.f a.st=true∧inQ t.t a.st=true ∧ -1≤t.g∧t.g < a.sy:=fun t ht=>by have h6:=List.all_eq_true.1 h3.2 t ht;unfold trB at h6;simp only [Bool.and_eq_true,decide_eq_true_eq] at h6;exact h6
 have hcl:=fun t:TV=>Classical.propDecidable (∃ y,XIs w S t.x.f y)
 refine ⟨S,fun t=>@dite _ (∃ y,XIs w S t.x.f y) (hcl t) (fun h9=>h9.choose) (fun _=>bU S),n,hok,hsi,hn,by omega,h.frow,h.flen,h.fmax,h.trow,h.tlen,by omega,?_,?_,?_,?_,by omega,?_⟩
 ·rw [← hn];exact finB_in h3.1
 ·rw [← hn];exact fun t ht=>(htr t ht).1
 ·rw [← hn];exact fun t ht=>(htr t ht).2.1
 ·exact fun t ht=>(htr t ht).2.2
 ·intro t ht;rw [dif_pos (hw t ht)];exact (hw t ht).choose_spec
theorem Pu {a:AV} {fr ws:List Int} (h:wG a fr ws=0):dJ a=0∧(∀ y∈fr,inQ y a.st=true)∧∀ y∈ws,inQ y a.sy=true:=by
 unfold wG at h;by_cases h1:dJ a≠0
 ·rw [if_pos h1] at h;exact absurd h h1
 rw [if_neg h1] at h;by_cases h2:¬ fr.all (fun y=>inQ y a.st)=true
 ·rw [if_neg h2] at h;cases h
 have h2:fr.all (fun y=>inQ y a.st)=true:=Decidable.of_not_not h2;rw [if_pos h2] at h;by_cases h3:¬ ws.all (fun y=>inQ y a.sy)=true
 ·rw [if_neg h3] at h;cases h
 have h3:ws.all (fun y=>inQ y a.sy)=true:=Decidable.of_not_not h3;exact ⟨Decidable.of_not_not h1,fun y hy=>List.all_eq_true.1 h2 y hy,fun y hy=>List.all_eq_true.1 h3 y hy⟩
theorem Wo {a:AV} {fr ws:List Int} (h:wG a fr ws=0):wG a fr []=0:=by obtain ⟨h1,h2,_⟩:=Pu h;unfold wG;rw [if_neg (fun h=>h h1),if_pos (List.all_eq_true.2 h2),if_pos (show ([]:List Int).all _=true from rfl)]
theorem askE_of {a:AV} {fr ws:List Int} (h1:dJ a=0) (h2:∀ y∈fr,inQ y a.st=true) (h3:∀ y∈ws,inQ y a.sy=true):wG a fr ws=0:=by unfold wG;rw [if_neg (fun h=>h h1),if_pos (List.all_eq_true.2 h2),if_pos (List.all_eq_true.2 h3)]
theorem perm33 {α:Type} (x a b c d e f:α) (l:List α):(x::a::b::c::d::e::f::l).Perm (x::d::e::f::a::b::c::l):=by refine List.Perm.cons x ?_;have h:([a,b,c]++[d,e,f]).Perm ([d,e,f]++[a,b,c]):=List.perm_append_comm;exact h.append_right l
theorem perm71 {α:Type} (x a b c d e f:α) (l:List α):(a::b::c::d::e::f::x::l).Perm (x::a::b::c::d::e::f::l):=List.perm_middle (l₁:=[a,b,c,d,e,f])
theorem row1 {w:World} {b:Nat} {x:Int} {T:TypeId} (h:w.heap[b]?=some (.cells (List.toArray [.int .i64 x]) T (0,0))):Row w (some ⟨b,0,none⟩) [x]:=by
 refine .inr ⟨b,0,rfl,fun i hi=>?_⟩
 have:i=0:=by simp at hi;omega
 subst this;simp [World.cell?,h]
structure M9 where
 f:Int
 g:Int
 t:Int
 x:WF
abbrev M9.nine (r:M9):List Value:=Pb r.f r.g r.t r.x
abbrev M9.pl (r:M9):Int×Int×Int:=(r.f,r.g,r.t)
def M9Row (w:World) (a:Option Addr) (ns:List M9):Prop:=∀ (i:Nat) r,ns[i]?=some r→∃ b off,a=some ⟨b,off,none⟩∧aC w b (off+i * 9) r.nine
theorem qH {W:World} {lo c n:Nat} {a:Option Addr} {ns:List M9} {T:TypeId} (h:W.ownsRow lo T 9 (.slice a n c) n (ns.flatMap M9.nine)):M9Row W a ns:=fun i y hi=>by
 rcases lM h with ⟨_,h2⟩ | ⟨b,rfl,_,hc⟩
 ·have h3:=h.1;subst h2;have h4:(ns.flatMap M9.nine).length=0:=by simpa using h3
  have h5:ns=[]:=by
   cases ns with
   | nil=>rfl
   | cons z l=>simp [Pb] at h4
  rw [h5] at hi;simp at hi
 ·refine ⟨b,0,rfl,aC.of fun j v hj=>hc _ _ ?_⟩;have key:∀ (l:List M9) (i:Nat),l[i]?=some y→((l.flatMap M9.nine).drop (i * 9)).take 9=y.nine:=by
   intro l
   induction l with
   | nil=>intro i h;simp at h
   | cons z l ih =>
    intro i h;cases i with
    | zero=>simp at h;subst h;rfl
    | succ i =>
     have e:(i+1) * 9=9+i * 9:=by omega
     rw [List.flatMap_cons,e,← List.drop_drop];exact ih i (by simpa using h)
  have hj9:j < 9:=(List.getElem?_eq_some_iff.1 hj).1;rw [← key ns i hi,List.getElem?_take,if_pos hj9,List.getElem?_drop] at hj;rw [Nat.zero_add];exact hj
def XM (M:World→Prop) (S:PS) (ns:List M9) (xs:List PX):Prop:=ns.length=xs.length∧∀ (i:Nat) r x,ns[i]?=some r→xs[i]?=some x→jZ M S r.x x
theorem XM.nil {M:World→Prop} {S:PS}:XM M S [] []:=⟨rfl,fun i r x h=>by simp at h⟩
theorem XM.mono {M M':World→Prop} {S:PS} {ns:List M9} {xs:List PX} (h:XM M S ns xs) (hm:∀ W,M' W→M W):XM M' S ns xs:=⟨h.1,fun i r x h1 h2=>(h.2 i r x h1 h2).mono hm⟩
theorem XM.app {M:World→Prop} {S:PS} {ns:List M9} {xs:List PX} {r:M9} {x:PX} (h:XM M S ns xs) (hx:jZ M S r.x x):XM M S (ns++[r]) (xs++[x]):=⟨by simp [h.1],fun i g y hg hy=>by
 rcases Nat.lt_or_ge i ns.length with h1 | h1
 ·rw [List.getElem?_append_left h1] at hg;rw [List.getElem?_append_left (by rw [← h.1];exact h1)] at hy;exact h.2 i g y hg hy
 ·rw [List.getElem?_append_right h1] at hg;rw [List.getElem?_append_right (by rw [← h.1];exact h1),← h.1] at hy;cases hk:i - ns.length with
  | zero=>rw [hk] at hg hy;simp at hg hy;subst hg;subst hy;exact hx
  | succ k=>rw [hk] at hg;simp at hg⟩
structure AuG (o:Option PS) (pl:List (Int×Int×Int)) (xs:List PX) (fs:List Int) (W:World) (sf:SF) (fa ta:Option Addr) (ns:List M9):Prop where
 sp:Spc o W sf
 f:Row W fa fs
 t:M9Row W ta ns
 x:∀ S,o=some S→XM (fun W2=>Below W.heap.size W W2) S ns xs
 no:o=none→ns=[]
 pl:ns.map M9.pl=pl
theorem Cd {st:Int} {fs:List Int} (h:Gr st fs=true):(fs.length:Int)≤max st 0:=by
 have key:∀ i,i < fs.length→(i:Int)≤fs.getD i 0∧fs.getD i 0 < st:=by
  intro i
  induction i with
  | zero =>
   intro hi;have h1:=List.all_eq_true.1 h 0 (List.mem_range.2 hi);unfold mB at h1;simp only [Bool.and_eq_true,inQ,decide_eq_true_eq] at h1;omega
  | succ i ih =>
   intro hi;have h0:=ih (by omega);have h1:=List.all_eq_true.1 h (i+1) (List.mem_range.2 hi);unfold mB at h1;simp only [Bool.and_eq_true,Bool.or_eq_true,inQ,decide_eq_true_eq,Nat.add_sub_cancel] at h1;have h2:=h1.2.resolve_left (by omega);omega
 cases hl:fs.length with
 | zero=>simp;omega
 | succ n =>
  have:=key n (by omega);omega
abbrev AZ7:List Value:=[.int .i64 0,.int .i64 0,.slice none 0 0,.int .i64 0,.int .i64 0,.slice none 0 0,.slice none 0 0]
abbrev TK:=Int×Int×Int
def ltK (a b:TK):Prop:=a.1 < b.1∨(a.1=b.1∧(a.2.1 < b.2.1∨(a.2.1=b.2.1∧a.2.2 < b.2.2)))
instance (a b:TK):Decidable (ltK a b):=by unfold ltK;infer_instance
theorem sW (a:TK):¬ ltK a a:=by unfold ltK;omega
theorem sX {a b c:TK} (h:ltK a b) (k:ltK b c):ltK a c:=by unfold ltK at *;omega
theorem Wp {a b:TK} (h:ltK a b):¬ ltK b a:=by unfold ltK at *;omega
theorem Nc (a b:TK):ltK a b∨a=b∨ltK b a:=by obtain ⟨a1,a2,a3⟩:=a;obtain ⟨b1,b2,b3⟩:=b;unfold ltK;simp only [Prod.mk.injEq];omega
theorem Eq {α:Type} {f:α→TK}:∀ {l m:List α},l.Pairwise (fun a b=>ltK (f a) (f b))→m.Pairwise (fun a b=>ltK (f a) (f b))→(∀ x,x∈l↔x∈m)→l=m
 | [],[],_,_,_=>rfl
 | [],y::m,_,_,h=>absurd ((h y).2 List.mem_cons_self) (by simp)
 | x::l,[],_,_,h=>absurd ((h x).1 List.mem_cons_self) (by simp)
 | x::l,y::m,hl,hm,h=>by
  obtain ⟨hl1,hl2⟩:=List.pairwise_cons.1 hl;obtain ⟨hm1,hm2⟩:=List.pairwise_cons.1 hm;have e:x=y:=by
   rcases List.mem_cons.1 ((h x).1 List.mem_cons_self) with e | h1
   ·exact e
   ·rcases List.mem_cons.1 ((h y).2 List.mem_cons_self) with e | h2
    ·exact e.symm
    ·exact absurd (hl1 y h2) (Wp (hm1 x h1))
  subst e;have key:l=m:=Eq hl2 hm2 fun z=>by
   constructor
   ·intro hz;rcases List.mem_cons.1 ((h z).1 (List.mem_cons_of_mem _ hz)) with rfl | h1
    ·exact absurd (hl1 z hz) (sW _)
    ·exact h1
   ·intro hz;rcases List.mem_cons.1 ((h z).2 (List.mem_cons_of_mem _ hz)) with rfl | h1
    ·exact absurd (hm1 z hz) (sW _)
    ·exact h1
  rw [key]
def atK (A:List (TK×PX)) (k:TK):Option PX:=(A.find? (fun p=>decide (p.1=k))).map (·.2)
theorem G6 (k:TK):atK [] k=none:=rfl
theorem gO (p:TK×PX) (A:List (TK×PX)) (k:TK):atK (p::A) k=if p.1=k then some p.2 else atK A k:=by
 unfold atK;rw [List.find?_cons];by_cases h:p.1=k
 ·rw [if_pos h];simp [h]
 ·rw [if_neg h];simp [h]
def upO (S:PS) (x:PX):Option PX→Option PX
 | none=>some x
 | some y=>some (cD S y x)
def insK (S:PS) (k:TK) (x:PX):List (TK×PX)→List (TK×PX)
 | []=>[(k,x)]
 | p::A=>if ltK p.1 k then p::insK S k x A else if ltK k p.1 then (k,x)::p::A else (p.1,cD S p.2 x)::A
def yN (A:List (TK×PX)):Prop:=A.Pairwise (fun a b=>ltK a.1 b.1)
theorem Er {S:PS} {k:TK} {x:PX}:∀ {A:List (TK×PX)} {a:TK},ltK a k→(∀ p∈A,ltK a p.1)→∀ p∈insK S k x A,ltK a p.1
 | [],a,h,_,p,hp=>by rw [List.mem_singleton.1 hp];exact h
 | q::A,a,h,hA,p,hp=>by
  unfold insK at hp;split at hp
  ·rcases List.mem_cons.1 hp with rfl | hp
   ·exact hA p List.mem_cons_self
   ·exact Er h (fun r hr=>hA r (List.mem_cons_of_mem _ hr)) p hp
  ·split at hp
   ·rcases List.mem_cons.1 hp with rfl | hp
    ·exact h
    ·exact hA p hp
   ·rcases List.mem_cons.1 hp with rfl | hp
    ·exact hA q List.mem_cons_self
    ·exact hA p (List.mem_cons_of_mem _ hp)
theorem Ce {S:PS} {k:TK} {x:PX}:∀ {A:List (TK×PX)},yN A→yN (insK S k x A)
 | [],_=>List.pairwise_singleton _ _
 | q::A,h=>by
  obtain ⟨h1,h2⟩:=List.pairwise_cons.1 h;unfold insK;split
  ·rename_i hl;exact List.pairwise_cons.2 ⟨fun p hp=>Er hl h1 p hp,Ce h2⟩
  ·split
   ·rename_i hl;refine List.pairwise_cons.2 ⟨fun p hp=>?_,h⟩;rcases List.mem_cons.1 hp with rfl | hp
    ·exact hl
    ·exact sX hl (h1 p hp)
   ·exact List.pairwise_cons.2 ⟨h1,h2⟩
theorem atK_lt {A:List (TK×PX)} {k:TK} (h:∀ p∈A,ltK k p.1):atK A k=none:=by
 unfold atK;rw [List.find?_eq_none.2 fun p hp=>by
  have:=h p hp;simp only [decide_eq_true_eq];rintro rfl;exact sW _ this]
 rfl
theorem Pv {S:PS} {k:TK} {x:PX}:∀ {A:List (TK×PX)},yN A→∀ j,atK (insK S k x A) j=if j=k then upO S x (atK A k) else atK A j
 | [],_,j=>by
  show atK [(k,x)] j=_;rw [gO,G6,G6];by_cases h:k=j
  ·rw [if_pos h,if_pos h.symm];rfl
  ·rw [if_neg h,if_neg (Ne.symm h)]
 | q::A,h,j=>by
  obtain ⟨h1,h2⟩:=List.pairwise_cons.1 h;unfold insK;split
  ·rename_i hl;have hne:q.1≠k:=fun e=>sW k (e▸hl)
   rw [gO,Pv h2 j,gO q A k,if_neg hne,gO q A j];by_cases hj:j=k
   ·subst hj;rw [if_neg hne,if_pos rfl,if_pos rfl]
   ·rw [if_neg hj,if_neg hj]
  ·rename_i hn;split
   ·rename_i hl;have h9:atK (q::A) k=none:=atK_lt fun p hp=>by
     rcases List.mem_cons.1 hp with rfl | hp
     ·exact hl
     ·exact sX hl (h1 p hp)
    rw [gO,h9];by_cases hj:j=k
    ·subst hj;rw [if_pos rfl,if_pos rfl];rfl
    ·rw [if_neg (Ne.symm hj),if_neg hj]
   ·rename_i hn2;have he:q.1=k:=by rcases Nc q.1 k with h9 | h9 | h9;exact absurd h9 hn;exact h9;exact absurd h9 hn2
    subst he;rw [gO,gO q A q.1,gO q A j,if_pos rfl];by_cases hj:j=q.1
    ·subst hj;rw [if_pos rfl,if_pos rfl];rfl
    ·rw [if_neg (Ne.symm hj),if_neg (Ne.symm hj),if_neg hj]
theorem sameW9 {w:World} {S:PS} {f g:WF} {x y:PX} (hx:XIs w S f x) (hy:XIs w S g y) (r:Bool) (hr:r=true↔x=y):Calls prog 31 #[f.val,g.val] w fun e w'=>e = .returned (.bool r)∧Below w.heap.size w w':=by
 cases S<;>cases x<;>cases y<;>first | exact hx.elim | exact hy.elim | skip
 ·refine (D9 2 4 (.mk f []) (.mk g []) w (sT hx 1) (sT hy 1) (jH hx 3) (jH hy 3)).mono fun e w' h=>⟨h.1.trans (bG (A3 hr ?_)),h.2⟩
  rw [jG];have h1:=(qC hx hy).symm;rw [jG] at h1;simp only [PX.one.injEq];exact h1
 ·obtain ⟨ra,ca,rc,cc,pc,fb,fo,f1,f2,rfl,h6,h7,h8,h9⟩:=hx.two;obtain ⟨ra',ca',rc',cc',pc',gb,go,g1,g2,rfl,h6',h7',h8',h9'⟩:=hy.two;have sm:∀ {t n u m:Int} {a b:PF} {f1 f2:WF} {ra ca:Option Addr} {rc cc pc fb fo:Nat},PIs w t n f1 a→PIs w u m f2 b→smN 4 (.mk ⟨false,0,0,ra,0,rc,[],ca,0,cc,[],some ⟨fb,fo,none⟩,2,pc⟩ [.mk f1 [],.mk f2 []])=true:=by intro t n u m a b f1 f2 ra ca rc cc pc fb fo ha hb;have e1:=jH ha 2;have e2:=jH hb 2;show (decide _ && (decide _ && (decide _ && [WV.mk f1 [],WV.mk f2 []].all (smN 3))))=true;simp [e1,e2]
  refine (D9 2 4 _ _ w (pV h6 h7 h8 h9) (pV h6' h7' h8' h9') (sm h8 h9) (sm h8' h9')).mono fun e w' h=>⟨h.1.trans (bG (A3 hr ?_)),h.2⟩
  rw [jG];have e1:=qC h8 h8';have e2:=qC h9 h9';simp [e1,e2]
theorem Es (f1 g1 t1 f2 g2 t2:Int) (x1 x2:WF) (w:World) :
  Calls prog 27 #[.agg #[.int .i64 f1,.int .i64 g1,.int .i64 t1,.bool x1.z,.int .i64 x1.c,.int .u64 (x1.g:Int),.slice x1.ra x1.rl x1.rc,.slice x1.ca x1.cl x1.cc,.slice x1.pa x1.pl x1.pc],.agg #[.int .i64 f2,.int .i64 g2,.int .i64 t2,.bool x2.z,.int .i64 x2.c,.int .u64 (x2.g:Int),.slice x2.ra x2.rl x2.rc,.slice x2.ca x2.cl x2.cc,.slice x2.pa x2.pl x2.pc]] w (fun e w'=>e = .returned (.bool (decide (ltK (f1,g1,t1) (f2,g2,t2))))∧Below w.heap.size w w'):=by
 refine cG (args:=[.agg #[.int .i64 f1,.int .i64 g1,.int .i64 t1,.bool x1.z,.int .i64 x1.c,.int .u64 (x1.g:Int),.slice x1.ra x1.rl x1.rc,.slice x1.ca x1.cl x1.cc,.slice x1.pa x1.pl x1.pc],.agg #[.int .i64 f2,.int .i64 g2,.int .i64 t2,.bool x2.z,.int .i64 x2.c,.int .u64 (x2.g:Int),.slice x2.ra x2.rl x2.rc,.slice x2.ca x2.cl x2.cc,.slice x2.pa x2.pl x2.pc]]) func27 rfl ntmps27 rfl ?_;have hS:=St.start w;refine aO (aQ (bY (cs:=[_,_,_,_,_,_,_,_,_]) hS rfl rfl rfl fun B1 W1 hS=>bY (cs:=[_,_,_,_,_,_,_,_,_]) hS rfl rfl rfl fun B2 W2 hS=>aB rfl rfl (aP (XF.thenN (aO (aO (aQ (aN (o':=0) jI rfl rfl rfl (aR isAgg3 rfl (aK (hS.at_ 1 rfl) rfl) rfl (aN (o':=0) jI rfl rfl rfl (aR isAgg3 rfl (aK (hS.at_ 0 rfl) rfl) rfl (dG rfl rfl rfl (aP (XF.thenN (bB rfl (fun hc=>?_) (fun hc=>?_))))))))))))))))
 ·have hc9:=of_decide_eq_true hc;clear hc;refine aO (aQ (aN (o':=0) jI rfl rfl rfl (aR isAgg3 rfl (aK (hS.at_ 1 rfl) rfl) rfl (aN (o':=0) jI rfl rfl rfl (aR isAgg3 rfl (aK (hS.at_ 0 rfl) rfl) rfl (cT rfl rfl rfl (aB rfl rfl (aP (XF.thenN (bL (XF.thenR (XF.res (cI results27 rfl) ?_))))))))))));exact ⟨bG (decide_eq_decide.2 (by unfold ltK;dsimp only;omega)),hS.below⟩
 ·have hc9:=of_decide_eq_false hc;clear hc;refine bP (XF.thenN (aO (aO (aQ (aN (o':=1) iF rfl rfl rfl (aR isAgg3 rfl (aK (hS.at_ 1 rfl) rfl) rfl (aN (o':=1) iF rfl rfl rfl (aR isAgg3 rfl (aK (hS.at_ 0 rfl) rfl) rfl (dG rfl rfl rfl (aP (XF.thenN (bB rfl (fun hc=>?_) (fun hc=>?_)))))))))))))
  ·have hc19:=of_decide_eq_true hc;clear hc;refine aO (aQ (aN (o':=1) iF rfl rfl rfl (aR isAgg3 rfl (aK (hS.at_ 1 rfl) rfl) rfl (aN (o':=1) iF rfl rfl rfl (aR isAgg3 rfl (aK (hS.at_ 0 rfl) rfl) rfl (cT rfl rfl rfl (aB rfl rfl (aP (XF.thenN (bL (XF.thenR (XF.res (cI results27 rfl) ?_))))))))))));exact ⟨bG (decide_eq_decide.2 (by unfold ltK;dsimp only;omega)),hS.below⟩
  ·have hc19:=of_decide_eq_false hc;clear hc;refine bP (XF.thenN (aO (aQ (aN (o':=2) iG rfl rfl rfl (aR isAgg3 rfl (aK (hS.at_ 1 rfl) rfl) rfl (aN (o':=2) iG rfl rfl rfl (aR isAgg3 rfl (aK (hS.at_ 0 rfl) rfl) rfl (cT rfl rfl rfl (aB rfl rfl (aP (XF.thenN (bL (XF.res (cI results27 rfl) ?_)))))))))))));exact ⟨bG (decide_eq_decide.2 (by unfold ltK;dsimp only;omega)),hS.below⟩
theorem Wq (S:PS) (sf:SF) (f:WF) (x:PX) (w:World) (hs:SIs w S sf) (hok:S.ok) (hx:XIs w S f x) :
  Calls prog 29 #[sf.val,f.val] w (fun e w'=>e = .returned (.bool (eqX x (bU S)))∧Below w.heap.size w w'):=by
 refine cG (args:=[sf.val,f.val]) func29 rfl ntmps29 rfl ?_;have hS:=St.start w;refine aO (aQ (bY (cs:=[_,_,_]) hS rfl rfl rfl fun B1 W1 hS=>bY (cs:=[_,_,_,_,_,_]) hS rfl rfl rfl fun B2 W2 hS=>aB rfl rfl (aP (XF.thenN (aO (iX (m:=5) cC hS (by kernel_rfl) (by kernel_rfl) rfl (cE 1 rfl 3 rfl rfl (fun w hw=>aY (vs:=[_,_,_,_,_,_]) isAgg46 sizeOf46 rfl (aC.agree (aL hw 0) (Nat.zero_le _) (aC.own (j:=0) (m:=6) (hS.at_ 0 rfl) rfl))) rfl (cE 2 rfl 2 rfl rfl (fun w hw=>aY (vs:=[_,_,_]) isAgg25 sizeOf25 rfl (aC.agree (aL hw 0) (Nat.zero_le _) (aC.own (j:=0) (m:=3) (hS.at_ 1 rfl) rfl))) rfl ?_))))))));refine aJ 3 rfl (dP W2.heap.size S (bU S)) (dU) (cN [isV _] rfl goes_58 (aS rfl) ⟨bT (aM 1 (aA rfl rfl rfl)),trivial⟩ (fun vs w' hb hh=>by have e:=bW (us:=[_]) hh;subst e;exact gT hb.size (So S sf w' (hs.below (hS.below.trans (hb.mono hS.below.size))) hok)) (aF rfl)) ?_;refine aJ 4 rfl (isV (.bool (eqX x (bU S)))) (aE _) (cN [isV _,dP W2.heap.size S (bU S)] rfl Fy (aS rfl) ⟨bT (aM 0 (aA rfl rfl rfl)),bT (aM 2 (aA rfl rfl rfl)),trivial⟩ (fun vs w' hb hh=>by
  obtain ⟨v1,v2,rfl,e1,f9,e2,hn9⟩:=nD hh;have e1:v1=_:=e1;subst e1;subst e2;exact (sameW9 (hx.below (hS.below.trans (hb.mono hS.below.size))) hn9.is (eqX x (bU S)) nH).mono fun e w2 h=>⟨_,h.1,rfl,h.2⟩) (aF rfl)) ?_
 refine aZ 5 rfl 8 3 rfl rfl rfl (fun w hw=>fU rfl) rfl (dI ?_);intro W3 hbR;clear hS;intro hS;refine aG (aG ?_);refine dF ?_;intro _ _;refine aG (aG (cM (XF.thenN (bL (XF.res (cI results29 rfl) ?_)))));exact ⟨rfl,hS.below⟩
abbrev kyT (t:TV):TK:=(t.f,t.g,t.t)
def gP (S:PS) (py:TV→PX) (ts:List TV):List (TK×PX):=ts.foldl (fun A t=>insK S (kyT t) (py t) A) []
theorem sY {S:PS} {py:TV→PX} {ts:List TV} {i:Nat} {t:TV} (h:ts[i]?=some t):gP S py (ts.take (i+1))=insK S (kyT t) (py t) (gP S py (ts.take i)):=by unfold gP;rw [List.take_add_one,h,List.foldl_append];rfl
theorem J2 {S:PS} {py:TV→PX}:∀ (ts:List TV) (A:List (TK×PX)),yN A→yN (ts.foldl (fun A t=>insK S (kyT t) (py t) A) A)
 | [],_,h=>h
 | t::ts,A,h=>J2 ts _ (Ce h)
theorem qI {S:PS} {k:TK} {x:PX}:∀ {A:List (TK×PX)} {n:Nat},n≤A.length→(∀ (j:Nat) p,j < n→A[j]?=some p→ltK p.1 k)→(∀ p,A[n]?=some p→¬ ltK p.1 k)→insK S k x A=match A[n]? with
  | none=>A++[(k,x)]
  | some p=>if ltK k p.1 then A.take n++(k,x)::A.drop n else A.set n (p.1,cD S p.2 x)
 | [],n,hn,_,_=>by
  have:n=0:=by simpa using hn
  subst this;rfl
 | q::A,0,_,_,h2=>by
  have h9:=h2 q rfl;show (if ltK q.1 k then _ else _)=_;rw [if_neg h9];show _=if ltK k q.1 then _ else _
  split<;>rfl
 | q::A,n+1,hn,h1,h2=>by
  have h9:=h1 0 q (by omega) rfl;show (if ltK q.1 k then _ else _)=_;rw [if_pos h9,qI (n:=n) (by simpa using hn) (fun j p hj hp=>h1 (j+1) p (by omega) (by simpa using hp)) (fun p hp=>h2 p (by simpa using hp))];show _=match A[n]? with
   | none=>q::(A++[(k,x)])
   | some p=>if ltK k p.1 then q::(A.take n++(k,x)::A.drop n) else q::A.set n (p.1,cD S p.2 x)
  cases A[n]? with
  | none=>rfl
  | some p=>dsimp only;split<;>rfl
def iY (M:World→Prop) (S:PS) (ls:List M9) (A:List (TK×PX)):Prop:=ls.map M9.pl=A.map (·.1)∧XM M S ls (A.map (·.2))
section
variable {P:Program} {n:Nat} {ops:Array Oper} {Q:Exit→Act→World→Prop} {l:Fr} {W:World} {os:List Oper} {d:Nat} {ty:TypeId} {pos:String} {aft:Array Edge}
theorem J3 {T e:TypeId} {x y:Operand} {kk:IntKind} {s:Nat} {j:Int} (hU:P.underlying T=some (.slice e)) (hs:∀ w,(sizeOf e).run P w = .ok s w) (hx:evL l x=some (.slice none 0 0)) (hy:evL l y=some (.int kk j)) (hj:j=0) (hd:Nat.blt d n=true)
  (h:cO P n ops Q os ((d,.slice none 0 0)::l) W):cO P n ops Q (⟨some d,.slice T x none (some y) none,ty,pos,aft,none⟩::os) l W:=opV (fun ev he=>by
 subst hj;unfold execOp;simp only [Option.map_some,Option.map_none];rw [he x _ hx,he y _ hy];simp [Instr.sliceAt,Instr.slice,Instr.sliceBounds,Instr.sliceBound,run_underlying hU,asIntOf,hs]) hd h
end
theorem xL {ls:List M9} {k:Nat} {r:M9} (h:ls[k]?=some r):ls.flatMap M9.nine=(ls.take k).flatMap M9.nine++r.nine++(ls.drop (k+1)).flatMap M9.nine:=by
 obtain ⟨hl,he⟩:=List.getElem?_eq_some_iff.1 h;have e:ls=ls.take k++r::ls.drop (k+1):=by rw [← he,List.getElem_cons_drop hl,List.take_append_drop]
 conv=>lhs;rw [e]
 simp
theorem nY (ls:List M9):(ls.flatMap M9.nine).length=ls.length * 9:=by
 induction ls with
 | nil=>rfl
 | cons f r ih=>rw [List.flatMap_cons,List.length_append,ih];simp only [Pb,List.length_cons,List.length_nil];omega
theorem zG {ls:List M9} {cs:List Value} {k:Nat} {r:M9} (h:ls[k]?=some r):((ls.flatMap M9.nine++cs).drop (0+k * 9)).take 9=r.nine:=by
 have hk:=(List.getElem?_eq_some_iff.1 h).1;have hl:((ls.take k).flatMap M9.nine).length=k * 9:=by rw [nY,List.length_take,Nat.min_eq_left (by omega)]
 rw [xL h,Nat.zero_add,← hl,List.append_assoc,List.append_assoc,List.drop_left];rfl
theorem Sv:∀ (A P old new Q B:List Value),old.length=new.length→eQ (A++(P++old++Q)++B) (A.length+P.length) new=A++(P++new++Q)++B:=fun A P old new Q B h=>by have h9:=uN (A++P) old new (Q++B) h;rw [List.length_append] at h9;simpa [List.append_assoc] using h9
theorem Et {ls:List M9} {cs:List Value} {k:Nat} {r:M9} {g:WF} (h:ls[k]?=some r):eQ (ls.flatMap M9.nine++cs) (0+k * 9+3) g.six=(ls.set k ⟨r.f,r.g,r.t,g⟩).flatMap M9.nine++cs:=by
 have hk:=(List.getElem?_eq_some_iff.1 h).1;have h2:(ls.set k (⟨r.f,r.g,r.t,g⟩:M9))[k]?=some ⟨r.f,r.g,r.t,g⟩:=List.getElem?_set_self hk;have hl:((ls.take k).flatMap M9.nine).length=k * 9:=by rw [nY,List.length_take,Nat.min_eq_left (by omega)]
 have e1:(ls.set k (⟨r.f,r.g,r.t,g⟩:M9)).take k=ls.take k:=by rw [List.take_set_of_le (Nat.le_refl k)]
 have e2:(ls.set k (⟨r.f,r.g,r.t,g⟩:M9)).drop (k+1)=ls.drop (k+1):=by rw [List.drop_set_of_lt (Nat.lt_succ_self k)]
 rw [xL h,xL h2,e1,e2];have h9:=Sv ((ls.take k).flatMap M9.nine) [.int .i64 r.f,.int .i64 r.g,.int .i64 r.t] r.x.six g.six [] ((ls.drop (k+1)).flatMap M9.nine++cs) rfl;rw [hl] at h9;show eQ ((ls.take k).flatMap M9.nine++([.int .i64 r.f,.int .i64 r.g,.int .i64 r.t]++r.x.six)++(ls.drop (k+1)).flatMap M9.nine++cs) (0+k * 9+3) g.six=(ls.take k).flatMap M9.nine++([.int .i64 r.f,.int .i64 r.g,.int .i64 r.t]++g.six)++(ls.drop (k+1)).flatMap M9.nine++cs;rw [Nat.zero_add];simp only [List.append_nil,List.append_assoc,List.length_cons,List.length_nil] at h9 ⊢;exact h9
theorem zH {W:World} {b o:Nat} {cs news:List Value} {T:TypeId} (h:W.heap[b]?=some (.cells cs.toArray T (0,0))) (hn:∀ (j:Nat) u,news[j]?=some u→cs[o+j]?=some u):∀ (j:Nat) u,news[j]?=some u→W.cell? ((⟨b,o,none⟩:Addr).add j)=some u:=fun j u hj=>by rw [Addr.add_lit];simp only [World.cell?,h];have h9:=hn j u hj;simpa using h9
theorem Cf {ls:List M9}:∀ u∈ls.flatMap M9.nine,u.oneCell'=true:=fun u hu=>by obtain ⟨r,_,hr⟩:=List.mem_flatMap.1 hu;simp only [M9.nine,Pb,List.mem_cons,List.not_mem_nil,or_false] at hr;rcases hr with rfl | rfl | rfl | rfl | rfl | rfl | rfl | rfl | rfl<;>rfl
theorem J4 {ls:List M9} {cs:List Value} {k:Nat} (j:Nat) (u:Value) (h:((ls.take k).flatMap M9.nine)[j]?=some u):(ls.flatMap M9.nine++cs)[0+j]?=some u:=by
 have hj:=(List.getElem?_eq_some_iff.1 h).1;have e:ls.flatMap M9.nine=(ls.take k).flatMap M9.nine++(ls.drop k).flatMap M9.nine:=by rw [← List.flatMap_append,List.take_append_drop]
 rw [Nat.zero_add,e,List.append_assoc,List.getElem?_append_left hj];exact h
theorem Pw {ls:List M9} {cs:List Value} {k:Nat} (hk:k≤ls.length) (j:Nat) (u:Value) (h:((ls.drop k).flatMap M9.nine)[j]?=some u):(ls.flatMap M9.nine++cs)[k * 9+j]?=some u:=by
 have hj:=(List.getElem?_eq_some_iff.1 h).1;have e:ls.flatMap M9.nine=(ls.take k).flatMap M9.nine++(ls.drop k).flatMap M9.nine:=by rw [← List.flatMap_append,List.take_append_drop]
 have hl:((ls.take k).flatMap M9.nine).length=k * 9:=by rw [nY,List.length_take,Nat.min_eq_left hk]
 rw [e,List.append_assoc,← hl,List.getElem?_append_right (Nat.le_add_right _ _),Nat.add_sub_cancel_left,List.getElem?_append_left hj];exact h
theorem J5 {S:PS} {k:TK} {x:PX}:∀ {A:List (TK×PX)},(insK S k x A).length≤A.length+1
 | []=>Nat.le_refl _
 | q::A=>by
  unfold insK;split
  ·have:=J5 (S:=S) (k:=k) (x:=x) (A:=A);simp only [List.length_cons];omega
  ·split
   ·simp only [List.length_cons];omega
   ·simp only [List.length_cons];omega
theorem wK {S:PS} {py:TV→PX}:∀ (ts:List TV) (A:List (TK×PX)),(ts.foldl (fun A t=>insK S (kyT t) (py t) A) A).length≤A.length+ts.length
 | [],A=>Nat.le_refl _
 | t::ts,A=>by have h1:=wK (S:=S) (py:=py) ts (insK S (kyT t) (py t) A);have h2:=J5 (S:=S) (k:=kyT t) (x:=py t) (A:=A);simp only [List.foldl_cons,List.length_cons] at h1 ⊢;omega
theorem iY.len {M:World→Prop} {S:PS} {ls:List M9} {A:List (TK×PX)} (h:iY M S ls A):ls.length=A.length:=by have:=congrArg List.length h.1;simpa using this
theorem iY.key {M:World→Prop} {S:PS} {ls:List M9} {A:List (TK×PX)} (h:iY M S ls A) {k:Nat} {q:M9} {p:TK×PX} (hq:ls[k]?=some q) (hp:A[k]?=some p):p.1=(q.f,q.g,q.t):=by
 have h1:(ls.map M9.pl)[k]?=some q.pl:=by rw [List.getElem?_map,hq];rfl
 rw [h.1,List.getElem?_map,hp] at h1;exact Option.some.inj h1
theorem iY.far {M:World→Prop} {S:PS} {ls:List M9} {A:List (TK×PX)} (h:iY M S ls A) {k:Nat} {q:M9} {p:TK×PX} (hq:ls[k]?=some q) (hp:A[k]?=some p):jZ M S q.x p.2:=h.2.2 k q p.2 hq (by rw [List.getElem?_map,hp];rfl)
theorem iY.of {M:World→Prop} {S:PS} {ls:List M9} {A:List (TK×PX)} (hl:ls.length=A.length) (h:∀ (k:Nat) q p,ls[k]?=some q→A[k]?=some p→p.1=(q.f,q.g,q.t)∧jZ M S q.x p.2):iY M S ls A:=by
 refine ⟨List.ext_getElem? fun i=>?_,by simp [hl],fun i r x hr hx=>?_⟩
 ·rw [List.getElem?_map,List.getElem?_map];rcases Nat.lt_or_ge i ls.length with hi | hi
  ·have h1:=List.getElem?_eq_getElem hi;have h2:=List.getElem?_eq_getElem (show i < A.length by omega);rw [h1,h2];exact congrArg some (h i _ _ h1 h2).1.symm
  ·rw [List.getElem?_eq_none hi,List.getElem?_eq_none (by omega)];rfl
 ·rw [List.getElem?_map] at hx;obtain ⟨p,hp,rfl⟩:=Option.map_eq_some_iff.1 hx;exact (h i r p hr hp).2
theorem iY.mono {M M':World→Prop} {S:PS} {ls:List M9} {A:List (TK×PX)} (h:iY M S ls A) (hm:∀ W,M' W→M W):iY M' S ls A:=⟨h.1,h.2.mono hm⟩
theorem iY.ins {M:World→Prop} {S:PS} {ls:List M9} {A:List (TK×PX)} (h:iY M S ls A) {k:Nat} (hk:k≤ls.length) {r:M9} {x:PX} (hx:jZ M S r.x x):iY M S (ls.take k++r::ls.drop k) (A.take k++((r.f,r.g,r.t),x)::A.drop k):=by
 have hl:=h.len;refine iY.of (by simp;omega) fun j q p hq hp=>?_
 have e1:(ls.take k).length=k:=by rw [List.length_take,Nat.min_eq_left hk]
 have e2:(A.take k).length=k:=by rw [List.length_take,Nat.min_eq_left (by omega)]
 rcases Nat.lt_or_ge j k with hj | hj
 ·rw [List.getElem?_append_left (by omega),List.getElem?_take,if_pos hj] at hq;rw [List.getElem?_append_left (by omega),List.getElem?_take,if_pos hj] at hp;exact ⟨h.key hq hp,h.far hq hp⟩
 ·rw [List.getElem?_append_right (by omega),e1] at hq;rw [List.getElem?_append_right (by omega),e2] at hp;cases hjk:j - k with
  | zero =>
   rw [hjk] at hq hp;cases hq;cases hp;exact ⟨rfl,hx⟩
  | succ m =>
   rw [hjk] at hq hp;simp only [List.getElem?_cons_succ,List.getElem?_drop] at hq hp;exact ⟨h.key hq hp,h.far hq hp⟩
theorem iY.set {M:World→Prop} {S:PS} {ls:List M9} {A:List (TK×PX)} (h:iY M S ls A) {k:Nat} {q:M9} {p:TK×PX} {g:WF} {x:PX} (hq:ls[k]?=some q) (hp:A[k]?=some p) (hx:jZ M S g x):iY M S (ls.set k ⟨q.f,q.g,q.t,g⟩) (A.set k (p.1,x)):=by
 have hl:=h.len;refine iY.of (by simp [hl]) fun j r t hr ht=>?_
 rcases Nat.decEq j k with hj | rfl
 ·rw [List.getElem?_set_ne (Ne.symm hj)] at hr ht;exact ⟨h.key hr ht,h.far hr ht⟩
 ·rw [List.getElem?_set_self (List.getElem?_eq_some_iff.1 hq).1] at hr;rw [List.getElem?_set_self (List.getElem?_eq_some_iff.1 hp).1] at ht;cases hr;cases ht;exact ⟨show p.1=(q.f,q.g,q.t) from h.key hq hp,hx⟩
theorem J6 {ls:List M9} {cs:List Value} {k:Nat} {r:M9} (h:ls[k]?=some r):((ls.flatMap M9.nine++cs).drop (0+k * 9+3)).take 6=r.x.six:=by have h9:=congrArg (List.drop 3) (zG (cs:=cs) h);rw [List.drop_take,List.drop_drop] at h9;exact h9
theorem eitherB {w:World} {M:World→Prop} {S:PS} {sf:SF} {f g:WF} {x y:PX} {lo:Nat} (hK:uL M) (hs:SIs w S sf) (hok:S.ok) (hM:M w) (h1:jZ M S f x) (h2:jZ M S g y) (hlo:lo≤w.heap.size) :
  Calls prog 28 #[sf.val,f.val,g.val] w (V3 lo (qL M lo S (cD S x y)) w) :=
 (Mq hK hs hok hM h1 h2).mono fun e w2 ⟨f3,he,hx,hb⟩=>⟨_,he,fun w3 hg=>⟨f3,rfl,hx.mono fun W hW=>⟨hW.1,Vz (hg.trans hW.2) hlo⟩⟩,hb⟩
noncomputable def nzK (S:PS) (A:List (TK×PX)):List (TK×PX):=A.filter (fun p=>nzX S p.2)
theorem J7 {S:PS} {A:List (TK×PX)} {k:Nat} {p:TK×PX} (h:A[k]?=some p):nzK S (A.take (k+1))=nzK S (A.take k)++(if nzX S p.2=true then [p] else []):=by unfold nzK;rw [List.take_add_one,h,List.filter_append];congr 1;show List.filter _ [p]=_;rw [List.filter_cons];rfl
theorem Px {S:PS} {x:PX}:nzX S x = !eqX x (bU S):=by
 cases h:eqX x (bU S) with
 | true=>rw [nH] at h;simpa [iC] using h
 | false=>rw [pB] at h;simpa [jD] using h
theorem J8 {W:World} {a:Option Addr} {fs:List Int} {fl:Nat} (h:Row W a fs) (hl:fs.length=fl):(a=none∧fl=0)∨∃ p,a=some p∧∀ (j:Nat) u,(fs.map (Value.int .i64))[j]?=some u→W.cell? (p.add j)=some u:=by
 rcases h with rfl | ⟨b,off,rfl,hc⟩
 ·cases a with
  | none=>exact .inl ⟨rfl,hl.symm⟩
  | some p=>exact .inr ⟨p,rfl,fun j u hj=>by simp at hj⟩
 ·refine .inr ⟨_,rfl,fun j u hj=>?_⟩;rw [List.getElem?_map] at hj;obtain ⟨y,hy,rfl⟩:=Option.map_eq_some_iff.1 hj;have hlt:=(List.getElem?_eq_some_iff.1 hy).1;rw [Addr.add_lit];have h9:=hc j hlt;rw [List.getD_eq_getElem?_getD,hy] at h9;exact h9
theorem iY.app {M:World→Prop} {S:PS} {ls:List M9} {A:List (TK×PX)} (h:iY M S ls A) {q:M9} {p:TK×PX} (hk:p.1=(q.f,q.g,q.t)) (hx:jZ M S q.x p.2):iY M S (ls++[q]) (A++[p]):=⟨by rw [List.map_append,List.map_append,h.1,List.map_cons,List.map_cons,hk];rfl,by rw [List.map_append];exact h.2.app hx⟩
def Wr (S:PS) (py:TV→PX) (a:AV) (w:World) (e:Ending) (w':World):Prop:=Below w.heap.size w w'∧((e = .returned (.tuple #[.agg AZ7.toArray,.int .i64 (dJ a)])∧dJ a≠0) ∨
 (dJ a=0∧∃ (sq:SF) (fa2 ta2:Option Addr) (fc2 tc2:Nat) (ns:List M9),e = .returned (.tuple #[.agg #[.int .i64 sq.tag,.int .i64 sq.dim,.slice sq.a sq.len sq.cap,.int .i64 a.st,.int .i64 a.sy,.slice fa2 a.fl fc2,.slice ta2 ns.length tc2],.int .i64 0]) ∧
  ∀ W2,Below w.heap.size w W2→dD w.heap.size w' W2→AuG (some S) ((nzK S (gP S py a.ts)).map (·.1)) ((nzK S (gP S py a.ts)).map (·.2)) a.fs W2 sq fa2 ta2 ns))
def rK (S:PS) (py:TV→PX) (ts:List TV) (k:TK):Option PX:=ts.foldl (fun o t=>if kyT t=k then upO S (py t) o else o) none
noncomputable def vK (S:PS) (py:TV→PX) (ts:List TV) (k:TK):Option PX:=ts.foldl (fun o t=>if kyT t=k then (if nzX S (py t)=true then upO S (py t) o else o) else o) none
noncomputable def nzO (S:PS) (o:Option PX):Option PX:=o.filter (fun x=>nzX S x)
theorem nzO_up {S:PS} {x:PX} {o:Option PX} (hS:S.ok) (hx:OkX S x) (ho:∀ y,o=some y→OkX S y):nzO S (upO S x o)=if nzX S x=true then upO S x (nzO S o) else nzO S o:=by
 unfold nzO;cases o with
 | none =>
  show Option.filter _ (some x)=_;by_cases h:nzX S x=true
  ·rw [if_pos h,Option.filter_some,if_pos h];rfl
  ·rw [if_neg h,Option.filter_some,if_neg h];rfl
 | some y =>
  have hy:=ho y rfl;show Option.filter _ (some (cD S y x))=_;by_cases h:nzX S x=true
  ·rw [if_pos h];by_cases h2:nzX S y=true
   ·have h3:nzX S (cD S y x)=true:=jD.2 (zF hS hy hx (jD.1 h2));rw [Option.filter_some,if_pos h3,Option.filter_some,if_pos h2];rfl
   ·have hz:y=bU S:=iC.1 (by simpa using h2);subst hz;rw [lJ hx,Option.filter_some,if_pos h,Option.filter_some,if_neg h2];rfl
  ·have hz:x=bU S:=iC.1 (by simpa using h);subst hz;rw [if_neg h,kO hy]
theorem vK_nz {S:PS} {py:TV→PX} (hS:S.ok) (k:TK):∀ (ts:List TV) (o o':Option PX),(∀ t∈ts,OkX S (py t))→(∀ y,o=some y→OkX S y)→o'=nzO S o→ts.foldl (fun o t=>if kyT t=k then (if nzX S (py t)=true then upO S (py t) o else o) else o) o'=nzO S (ts.foldl (fun o t=>if kyT t=k then upO S (py t) o else o) o)
 | [],o,o',_,_,h=>h
 | t::ts,o,o',hp,ho,h=>by
  simp only [List.foldl_cons];have hx:=hp t List.mem_cons_self;refine vK_nz hS k ts _ _ (fun u hu=>hp u (List.mem_cons_of_mem _ hu)) ?_ ?_
  ·intro y hy;by_cases hk:kyT t=k
   ·rw [if_pos hk] at hy;cases o with
    | none=>cases hy;exact hx
    | some z=>cases hy;exact kN hS (ho z rfl) hx
   ·rw [if_neg hk] at hy;exact ho y hy
  ·by_cases hk:kyT t=k
   ·rw [if_pos hk,if_pos hk,h,nzO_up hS hx ho]
   ·rw [if_neg hk,if_neg hk,h]
theorem rK_at {S:PS} {py:TV→PX}:∀ (ts:List TV) (A:List (TK×PX)),yN A→∀ k,atK (ts.foldl (fun A t=>insK S (kyT t) (py t) A) A) k=ts.foldl (fun o t=>if kyT t=k then upO S (py t) o else o) (atK A k)
 | [],A,_,k=>rfl
 | t::ts,A,h,k=>by
  simp only [List.foldl_cons];rw [rK_at ts _ (Ce h) k,Pv h k];congr 1;by_cases hk:k=kyT t
  ·rw [if_pos hk,if_pos hk.symm,← hk]
  ·rw [if_neg hk,if_neg (Ne.symm hk)]
theorem G7 {A:List (TK×PX)} (h:A.Pairwise (fun p q=>p.1≠q.1)) {p:TK×PX}:p∈A↔atK A p.1=some p.2:=by
 induction A with
 | nil=>simp [G6]
 | cons q A ih =>
  obtain ⟨h1,h2⟩:=List.pairwise_cons.1 h;rw [gO];by_cases hq:q.1=p.1
  ·rw [if_pos hq];constructor
   ·intro hp;rcases List.mem_cons.1 hp with rfl | hp
    ·rfl
    ·exact absurd hq (h1 p hp)
   ·intro hp;have e:q=p:=Prod.ext hq (Option.some.inj hp);rw [e];exact List.mem_cons_self
  ·rw [if_neg hq,← ih h2];constructor
   ·intro hp;rcases List.mem_cons.1 hp with rfl | hp
    ·exact absurd rfl hq
    ·exact hp
   ·exact List.mem_cons_of_mem _
theorem srt_ne {A:List (TK×PX)} (h:yN A):A.Pairwise (fun p q=>p.1≠q.1):=h.imp fun {a b} h (e:a.1=b.1)=>sW b.1 (by rw [e] at h;exact h)
theorem nzK_srt {S:PS} {A:List (TK×PX)} (h:yN A):yN (nzK S A):=h.filter _
theorem Ws {S:PS} {py:TV→PX} {ts:List TV} {A B:List (TK×PX)} (hS:S.ok) (hp:∀ t∈ts,OkX S (py t)) (hA:A.Pairwise (fun p q=>p.1≠q.1)) (hat:∀ k,atK A k=vK S py ts k) (hB:yN B) (hm:∀ p,p∈B↔p∈A):B=nzK S (gP S py ts):=by
 have hR:yN (gP S py ts):=J2 (S:=S) (py:=py) ts [] List.Pairwise.nil;refine Eq (f:=fun p:TK×PX=>p.1) hB (nzK_srt hR) fun p=>?_
 rw [hm p,G7 hA,hat p.1];have e1:vK S py ts p.1=nzO S (rK S py ts p.1):=vK_nz hS p.1 ts none none hp (fun y hy=>by cases hy) rfl;have e2:atK (gP S py ts) p.1=rK S py ts p.1:=rK_at ts [] List.Pairwise.nil p.1;rw [e1,← e2];unfold nzK nzO;rw [List.mem_filter,G7 (srt_ne hR)];show Option.filter _ (atK (gP S py ts) p.1)=some p.2↔atK (gP S py ts) p.1=some p.2∧nzX S p.2=true;cases atK (gP S py ts) p.1 with
 | none=>simp
 | some y =>
  rw [Option.filter_some];by_cases hy:nzX S y=true
  ·rw [if_pos hy];constructor
   ·intro h;cases h;exact ⟨rfl,hy⟩
   ·intro h;exact h.1
  ·rw [if_neg hy];constructor
   ·intro h;cases h
   ·rintro ⟨h,h2⟩;cases h;exact absurd h2 hy
theorem Sw {α β:Type} {f:α→β} {l' m:List β} (h:l'.Perm m):∀ Z:List α,m=Z.map f→∃ Z':List α,Z'.Perm Z∧Z'.map f=l':=by
 induction h with
 | nil=>intro Z hZ;exact ⟨[],by rw [List.map_eq_nil_iff.1 hZ.symm],rfl⟩
 | cons x _ ih =>
  intro Z hZ;cases Z with
  | nil=>simp at hZ
  | cons z Z =>
   simp only [List.map_cons,List.cons.injEq] at hZ;obtain ⟨Z',h1,h2⟩:=ih Z hZ.2;exact ⟨z::Z',h1.cons z,by rw [List.map_cons,h2,hZ.1]⟩
 | swap x y l =>
  intro Z hZ
  match Z,hZ with
  | a::b::Z,hZ =>
   simp only [List.map_cons,List.cons.injEq] at hZ;exact ⟨b::a::Z,List.Perm.swap a b Z,by simp [hZ.1,hZ.2.1,hZ.2.2]⟩
 | trans _ _ ih1 ih2 =>
  intro Z hZ;obtain ⟨Z2,h1,h2⟩:=ih2 Z hZ;obtain ⟨Z3,h3,h4⟩:=ih1 Z2 h2.symm;exact ⟨Z3,h3.trans h1,h4⟩
theorem iY.perm {M:World→Prop} {S:PS} {ms ms':List M9} {A:List (TK×PX)} (h:iY M S ms A) (hp:ms'.Perm ms):∃ A',A'.Perm A∧iY M S ms' A':=by
 have hl:=h.len;have e1:(ms.zip A).map (·.1)=ms:=by rw [List.map_fst_zip];omega
 have e2:(ms.zip A).map (·.2)=A:=by rw [List.map_snd_zip];omega
 obtain ⟨Z,hZ,rfl⟩:=Sw hp (ms.zip A) e1.symm;refine ⟨Z.map (·.2),by have:=hZ.map (·.2);rwa [e2] at this,iY.of (by simp) fun k q p hq hpp=>?_⟩;rw [List.getElem?_map] at hq hpp;obtain ⟨z,hz,rfl⟩:=Option.map_eq_some_iff.1 hq;rw [hz] at hpp;obtain rfl:z.2=p:=by simpa using hpp
 have hm:z∈ms.zip A:=hZ.mem_iff.1 (List.mem_of_getElem? hz);obtain ⟨j,hj⟩:=List.getElem?_of_mem hm;have hj1:ms[j]?=some z.1:=by rw [← e1,List.getElem?_map,hj];rfl
 have hj2:A[j]?=some z.2:=by rw [← e2,List.getElem?_map,hj];rfl
 exact ⟨h.key hj1 hj2,h.far hj1 hj2⟩
def nK (a b:Int):Int:=if a < b then -1 else if b < a then 1 else 0
def Cv (a b:TK):Int:=if nK a.1 b.1≠0 then nK a.1 b.1 else if nK a.2.1 b.2.1≠0 then nK a.2.1 b.2.1 else nK a.2.2 b.2.2
theorem J9 (a b:TK):Cv a b < 0↔ltK a b:=by unfold Cv nK ltK;by_cases h1:a.1 < b.1<;>by_cases h2:b.1 < a.1<;>by_cases h3:a.2.1 < b.2.1<;>by_cases h4:b.2.1 < a.2.1<;>by_cases h5:a.2.2 < b.2.2<;>by_cases h6:b.2.2 < a.2.2<;>simp [h1,h2,h3,h4,h5,h6]<;>omega
theorem Eu (a b:TK):Cv a b=0↔a=b:=by obtain ⟨a1,a2,a3⟩:=a;obtain ⟨b1,b2,b3⟩:=b;unfold Cv nK;dsimp only;simp only [Prod.mk.injEq];by_cases h1:a1 < b1<;>by_cases h2:b1 < a1<;>by_cases h3:a2 < b2<;>by_cases h4:b2 < a2<;>by_cases h5:a3 < b3<;>by_cases h6:b3 < a3<;>simp [h1,h2,h3,h4,h5,h6]<;>omega
abbrev M9.ky (q:M9):TK:=(q.f,q.g,q.t)
def G8 (a b:M9):Int:=Cv a.ky b.ky
theorem G9 (a b:M9):Go.Proofs.ltOf G8 a b=decide (ltK a.ky b.ky):=by unfold Go.Proofs.ltOf G8;exact decide_eq_decide.2 (J9 _ _)
theorem Wu:Go.Sort.SWO (Go.Proofs.ltOf G8) where
 irrefl x:=by rw [G9];exact decide_eq_false (sW _)
 trans x y z h1 h2:=by rw [G9] at *;exact decide_eq_true (sX (of_decide_eq_true h1) (of_decide_eq_true h2))
 ntrans x y z h1 h2:=by
  rw [G9] at *;refine decide_eq_false fun h=>?_
  have h3:=of_decide_eq_false h1;have h4:=of_decide_eq_false h2;rcases Nc x.ky y.ky with h5 | h5 | h5
  ·exact h3 h5
  ·rw [h5] at h;exact h4 h
  ·exact h4 (sX h5 h)
theorem say_srt {M:World→Prop} {S:PS} {ms:List M9} {A:List (TK×PX)} (h:iY M S ms A) (hne:A.Pairwise (fun p q=>p.1≠q.1)) (hs:ms.Pairwise (fun a b=>¬ G8 b a < 0)):yN A:=by
 show A.Pairwise _;rw [List.pairwise_iff_getElem] at hne hs ⊢;intro i j hi hj hij;have hl:=h.len;have h1:=hne i j hi hj hij;have h2:=hs i j (by omega) (by omega) hij;have k1:=h.key (k:=i) (q:=ms[i]'(by omega)) (p:=A[i]) (by simp) (by simp);have k2:=h.key (k:=j) (q:=ms[j]'(by omega)) (p:=A[j]) (by simp) (by simp);unfold G8 at h2;rw [J9] at h2;rw [k1,k2] at h1 ⊢;rcases Nc (ms[i]'(by omega)).ky (ms[j]'(by omega)).ky with h3 | h3 | h3
 ·exact h3
 ·exact absurd h3 h1
 ·exact absurd h3 h2
theorem Wv:prog.built 29 []=some #[.int .i64 0,.int .i64 0,.slice none 0 0,.int .i64 0,.int .i64 0,.slice none 0 0,.slice none 0 0]:=by kernel_rfl
theorem wL (v00:Value) (v01:Value) (v02:Value) (v03:Value) (v04:Value) (v05:Value) (v06:Value) (v07:Value) (v08:Value):Instr.fill (fun i=>some (i * 9,9)) ((Array.range (1 * 9)).map ((Value.cells (.agg #[.int .i64 0,.int .i64 0,.int .i64 0,.bool false,.int .i64 0,.int .u64 0,.slice none 0 0,.slice none 0 0,.slice none 0 0]))[· % (Value.cells (.agg #[.int .i64 0,.int .i64 0,.int .i64 0,.bool false,.int .i64 0,.int .u64 0,.slice none 0 0,.slice none 0 0,.slice none 0 0])).size]!)) [(0,.agg #[v00,v01,v02,v03,v04,v05,v06,v07,v08])]=some (List.toArray [v00,v01,v02,v03,v04,v05,v06,v07,v08]):=by kernel_rfl
theorem nL:prog.info? 48=some Tryz.t48:=by kernel_rfl
theorem xM {a:AV} (h:dJ a=0):Gr a.st a.fs=true∧0≤a.st∧a.st≤4096:=by
 unfold dJ at h;by_cases h1:dR a.s≠0
 ·rw [if_pos h1] at h;exact absurd h h1
 rw [if_neg h1] at h;by_cases h2:65536 < a.tl
 ·rw [if_pos h2] at h;cases h
 rw [if_neg h2] at h;by_cases h3:dE a.st a.sy a.fs a.ts=false
 ·rw [if_pos h3] at h;cases h
 have h3:dE a.st a.sy a.fs a.ts=true:=by simpa using h3
 unfold dE at h3;by_cases h4:a.st < 0∨4096 < a.st∨a.sy < 0∨4096 < a.sy
 ·rw [if_pos h4] at h3;cases h3
 rw [if_neg h4,Bool.and_eq_true] at h3;exact ⟨h3.1,by omega,by omega⟩
theorem Cg {W:World} {lo c n:Nat} {a:Option Addr} {Fs:List Int} {T:TypeId} (h:W.ownsRow lo T 1 (.slice a n c) n (Fs.map (Value.int .i64))):Row W a Fs:=by
 rcases lM h with ⟨_,h2⟩ | ⟨b,rfl,_,hc⟩
 ·have h3:=h.1;subst h2;exact .inl (List.eq_nil_of_length_eq_zero (by simpa using h3))
 ·exact .inr ⟨b,0,rfl,fun i hi=>by
   rw [Nat.zero_add];exact hc i (.int .i64 (Fs.getD i 0)) (by rw [List.getElem?_map,List.getElem?_eq_getElem hi,List.getD_eq_getElem?_getD,List.getElem?_eq_getElem hi];rfl)⟩
theorem Nd {lo:Nat} {S:PS}:gQ (Jb lo S):=fun v w w' ⟨s2,h1,h2⟩ hb=>⟨s2,h1,fun W2 hg=>h2 W2 ((aL hb _).trans hg)⟩
theorem bldAk (sq:SF) (st sy:Int) (fa:Option Addr) (fl fc:Nat):prog.built 29 [(0,sq.val),(1,.int .i64 st),(2,.int .i64 sy),(3,.slice fa fl fc)]=some #[.int .i64 sq.tag,.int .i64 sq.dim,.slice sq.a sq.len sq.cap,.int .i64 st,.int .i64 sy,.slice fa fl fc,.slice none 0 0]:=by kernel_rfl
theorem Ch {w W W2:World} {O:Own} {G:cV} {K:List (Nat×World)} (hS:St w O G K W) (h1:Below w.heap.size w W2) (h2:dD w.heap.size W W2):MB w K W2:=⟨h1,fun q hq=>by
 obtain ⟨hk,_⟩:=hS.kept q hq;refine ⟨Nat.le_trans hk.1 h2.1,fun k hk1 hk2=>?_⟩;rcases Nat.lt_or_ge k w.heap.size with h | h
 ·exact (h1.block k h).trans ((hS.below.block k h).symm.trans (hk.2 k hk1 hk2))
 ·exact (h2.2 k h (Nat.lt_of_lt_of_le hk2 hk.1)).trans (hk.2 k hk1 hk2)⟩
def eqT (k:Nat) (t u:TV):Bool:=decide ((t.f,t.g,t.t)=(u.f,u.g,u.t)) && eqW k t.x u.x
def qO (k:Nat) (ts us:List TV):Bool:=decide (ts.length=us.length) && (ts.zip us).all (fun x=>eqT k x.1 x.2)
def mC (k:Nat) (a b:AV):Bool:=eqS k a.s b.s && (decide (a.st=b.st) && (decide (a.sy=b.sy) && (decide (a.fs=b.fs) && qO k a.ts b.ts)))
theorem Nf {α:Type} {xs ys:List α} {i:Nat} {y:α} (h:xs.take i=ys.take i) (hy:xs[i]?=some y) (hz:ys[i]?=some y):xs.take (i+1)=ys.take (i+1):=by rw [List.take_add_one,List.take_add_one,h,hy,hz]
theorem Ww {w:World} {k:Nat} {t:TV} (h:WIn w k t.x):eqT k t t=true:=by unfold eqT;rw [Ix h];simp
theorem Ev {w:World} {k:Nat} {a:AV} (h:AIn w k k a):mC k a a=true:=by unfold mC qO;rw [Iw h.s,mO a.ts fun x hx=>Ww (h.tin x hx)];simp
theorem Ng {k:Nat} {t u:TV} (h:¬ (t.f=u.f∧t.g=u.g∧t.t=u.t)):eqT k t u=false:=by unfold eqT;rw [decide_eq_false (fun e=>h (by simp only [Prod.mk.injEq] at e;exact e))];rfl
theorem Py {k:Nat} {t u:TV} (h1:t.f=u.f) (h2:t.g=u.g) (h3:t.t=u.t):eqT k t u=eqW k t.x u.x:=by unfold eqT;rw [decide_eq_true (by rw [h1,h2,h3])];rfl
theorem sameR_c (k:Nat) (s s2:SV) (st sy st2 sy2:Int) (fa fb:Option Addr) (fl fc gl gc:Nat) (fs gs:List Int) (ta tb:Option Addr) (tl tc ul uc:Nat) (ts us:List TV) (w:World) (h1:AIn w k k ⟨s,st,sy,fa,fl,fc,fs,ta,tl,tc,ts⟩) (h2:AIn w k k ⟨s2,st2,sy2,fb,gl,gc,gs,tb,ul,uc,us⟩) (c1:ACap k ⟨s,st,sy,fa,fl,fc,fs,ta,tl,tc,ts⟩) (c2:ACap k ⟨s2,st2,sy2,fb,gl,gc,gs,tb,ul,uc,us⟩) :
  Calls prog 10 #[.agg #[.int .i64 s.f.tag,.int .i64 s.f.dim,.slice s.f.a s.f.len s.f.cap,.int .i64 st,.int .i64 sy,.slice fa fl fc,.slice ta tl tc],.agg #[.int .i64 s2.f.tag,.int .i64 s2.f.dim,.slice s2.f.a s2.f.len s2.f.cap,.int .i64 st2,.int .i64 sy2,.slice fb gl gc,.slice tb ul uc]] w (fun e w'=>e = .returned (.bool (mC k ⟨s,st,sy,fa,fl,fc,fs,ta,tl,tc,ts⟩ ⟨s2,st2,sy2,fb,gl,gc,gs,tb,ul,uc,us⟩))∧Below w.heap.size w w'):=by
 refine cG (args:=[.agg #[.int .i64 s.f.tag,.int .i64 s.f.dim,.slice s.f.a s.f.len s.f.cap,.int .i64 st,.int .i64 sy,.slice fa fl fc,.slice ta tl tc],.agg #[.int .i64 s2.f.tag,.int .i64 s2.f.dim,.slice s2.f.a s2.f.len s2.f.cap,.int .i64 st2,.int .i64 sy2,.slice fb gl gc,.slice tb ul uc]]) func10 rfl ntmps10 rfl ?_;have hS:=St.start w;have hs:SIn w k s:=h1.s;have hs2:SIn w k s2:=h2.s;have hcs:mxS k s=true:=c1.s;have hfr:Row w fa fs:=h1.frow;have hfl:fs.length=fl:=h1.flen;have hgr:Row w fb gs:=h2.frow;have hgl:gs.length=gl:=h2.flen;have htr:mQ w ta ts:=h1.trow;have htl:ts.length=tl:=h1.tlen;have hur:mQ w tb us:=h2.trow;have hul:us.length=ul:=h2.tlen;have hti:∀ t∈ts,WIn w k t.x:=h1.tin;have hui:∀ t∈us,WIn w k t.x:=h2.tin;have htc:∀ t∈ts,mxN k t.x=true:=c1.t;have huc:∀ t∈us,mxN k t.x=true:=c2.t;have hfm:fl≤9223372036854775807:=h1.fmax;have htm:tl≤9223372036854775807:=h1.tmax;clear h1 h2 c1 c2;refine aO (aQ (bY (cs:=[_,_,_,_,_,_,_]) hS rfl rfl rfl fun B1 W1 hS=>bY (cs:=[_,_,_,_,_,_,_]) hS rfl rfl rfl fun B2 W2 hS=>aB rfl rfl (aP (XF.thenN (aO (aO (aQ (aN (o':=0) iQ rfl rfl rfl (aT (vs:=[_,_,_]) isAgg25 sizeOf25 rfl (aC.own (j:=0) (m:=3) (hS.at_ 1 rfl) rfl) rfl (aN (o':=0) iQ rfl rfl rfl (aT (vs:=[_,_,_]) isAgg25 sizeOf25 rfl (aC.own (j:=0) (m:=3) (hS.at_ 0 rfl) rfl) rfl (cH (vs:=[_,_]) hS N3 rfl (xZ k k s s2 _ (SIn.below hS.below hs) (SIn.below hS.below hs2) hcs) rfl fun W3 hS=>fB rfl rfl (aH rfl rfl (cB (d:=15) rfl (fun hc=>?_) (fun hc=>?_)))))))))))))))
 ·have hg15:=hc;clear hc;refine aD (d:=15) rfl rfl rfl rfl (aD (d:=15) rfl rfl rfl rfl (aD (d:=15) rfl rfl rfl rfl (aD (d:=15) rfl rfl rfl rfl (aD (d:=15) rfl rfl rfl rfl (bC rfl rfl rfl (aH rfl rfl (aD (d:=22) rfl rfl rfl rfl (aD (d:=22) rfl rfl rfl rfl (aD (d:=22) rfl rfl rfl rfl (aD (d:=22) rfl rfl rfl rfl (aD (d:=22) rfl rfl rfl rfl (bC rfl rfl rfl (aH rfl rfl (aD (d:=29) rfl rfl rfl rfl (aD (d:=29) rfl rfl rfl rfl (aD (d:=29) rfl rfl rfl rfl (aD (d:=29) rfl rfl rfl rfl (aD (d:=29) rfl rfl rfl rfl (aD (d:=29) rfl rfl rfl rfl (aD (d:=29) rfl rfl rfl rfl (bC rfl rfl rfl (aH rfl rfl (aD (d:=38) rfl rfl rfl rfl (aD (d:=38) rfl rfl rfl rfl (aD (d:=38) rfl rfl rfl rfl (aD (d:=38) rfl rfl rfl rfl (aD (d:=38) rfl rfl rfl rfl (aD (d:=38) rfl rfl rfl rfl (aD (d:=38) rfl rfl rfl rfl (bC rfl rfl rfl (aP (XF.thenN (fD rfl ?_)))))))))))))))))))))))))))))))));refine aO (aQ (aB rfl rfl (aP (XF.thenN (bL (XF.thenR (XF.res (cI results10 rfl) ?_)))))));exact ⟨bG (by unfold mC;dsimp only;rw [show eqS k s s2=false by simpa using hg15];simp),hS.below⟩
 ·have hg15:=hc;clear hc;have es:eqS k s s2=true:=by simpa using hg15
  refine aI (d:=15) rfl rfl (aN (o':=3) iH rfl rfl rfl (aI (d:=15) rfl rfl (aR isAgg3 rfl (aK (hS.at_ 1 rfl) rfl) rfl (aI (d:=15) rfl rfl (aN (o':=3) iH rfl rfl rfl (aI (d:=15) rfl rfl (aR isAgg3 rfl (aK (hS.at_ 0 rfl) rfl) rfl (aI (d:=15) rfl rfl (dG rfl rfl rfl (bR rfl rfl rfl (aH rfl rfl (cB (d:=22) rfl (fun hc=>?_) (fun hc=>?_)))))))))))))
  ·have hg22:=of_decide_eq_true hc;clear hc;refine aD (d:=22) rfl rfl rfl rfl (aD (d:=22) rfl rfl rfl rfl (aD (d:=22) rfl rfl rfl rfl (aD (d:=22) rfl rfl rfl rfl (aD (d:=22) rfl rfl rfl rfl (bC rfl rfl rfl (aH rfl rfl (aD (d:=29) rfl rfl rfl rfl (aD (d:=29) rfl rfl rfl rfl (aD (d:=29) rfl rfl rfl rfl (aD (d:=29) rfl rfl rfl rfl (aD (d:=29) rfl rfl rfl rfl (aD (d:=29) rfl rfl rfl rfl (aD (d:=29) rfl rfl rfl rfl (bC rfl rfl rfl (aH rfl rfl (aD (d:=38) rfl rfl rfl rfl (aD (d:=38) rfl rfl rfl rfl (aD (d:=38) rfl rfl rfl rfl (aD (d:=38) rfl rfl rfl rfl (aD (d:=38) rfl rfl rfl rfl (aD (d:=38) rfl rfl rfl rfl (aD (d:=38) rfl rfl rfl rfl (bC rfl rfl rfl (aP (XF.thenN (fD rfl (aO (aQ (aB rfl rfl (aP (XF.thenN (bL (XF.thenR (XF.res (cI results10 rfl) ?_))))))))))))))))))))))))))))))))));exact ⟨bG (by unfold mC;dsimp only;rw [decide_eq_false (show ¬ st=st2 by omega)];simp),hS.below⟩
  ·have hg22:=of_decide_eq_false hc;clear hc;refine aI (d:=22) rfl rfl (aN (o':=4) jJ rfl rfl rfl (aI (d:=22) rfl rfl (aR isAgg3 rfl (aK (hS.at_ 1 rfl) rfl) rfl (aI (d:=22) rfl rfl (aN (o':=4) jJ rfl rfl rfl (aI (d:=22) rfl rfl (aR isAgg3 rfl (aK (hS.at_ 0 rfl) rfl) rfl (aI (d:=22) rfl rfl (dG rfl rfl rfl (bR rfl rfl rfl (aH rfl rfl (cB (d:=29) rfl (fun hc=>?_) (fun hc=>?_)))))))))))))
   ·have hg29:=of_decide_eq_true hc;clear hc;refine aD (d:=29) rfl rfl rfl rfl (aD (d:=29) rfl rfl rfl rfl (aD (d:=29) rfl rfl rfl rfl (aD (d:=29) rfl rfl rfl rfl (aD (d:=29) rfl rfl rfl rfl (aD (d:=29) rfl rfl rfl rfl (aD (d:=29) rfl rfl rfl rfl (bC rfl rfl rfl (aH rfl rfl (aD (d:=38) rfl rfl rfl rfl (aD (d:=38) rfl rfl rfl rfl (aD (d:=38) rfl rfl rfl rfl (aD (d:=38) rfl rfl rfl rfl (aD (d:=38) rfl rfl rfl rfl (aD (d:=38) rfl rfl rfl rfl (aD (d:=38) rfl rfl rfl rfl (bC rfl rfl rfl (aP (XF.thenN (fD rfl (aO (aQ (aB rfl rfl (aP (XF.thenN (bL (XF.thenR (XF.res (cI results10 rfl) ?_)))))))))))))))))))))))))));exact ⟨bG (by unfold mC;dsimp only;rw [decide_eq_false (show ¬ sy=sy2 by omega)];simp),hS.below⟩
   ·have hg29:=of_decide_eq_false hc;clear hc;refine aI (d:=29) rfl rfl (aN (o':=5) eV rfl rfl rfl (aI (d:=29) rfl rfl (aR isAgg26 rfl (aK (hS.at_ 1 rfl) rfl) rfl (aI (d:=29) rfl rfl (cL underlying26 rfl rfl (aI (d:=29) rfl rfl (aN (o':=5) eV rfl rfl rfl (aI (d:=29) rfl rfl (aR isAgg26 rfl (aK (hS.at_ 0 rfl) rfl) rfl (aI (d:=29) rfl rfl (cL underlying26 rfl rfl (aI (d:=29) rfl rfl (dG rfl rfl rfl (bR rfl rfl rfl (aH rfl rfl (cB (d:=38) rfl (fun hc=>?_) (fun hc=>?_)))))))))))))))))
    ·have hg38:=of_decide_eq_true hc;clear hc;refine aD (d:=38) rfl rfl rfl rfl (aD (d:=38) rfl rfl rfl rfl (aD (d:=38) rfl rfl rfl rfl (aD (d:=38) rfl rfl rfl rfl (aD (d:=38) rfl rfl rfl rfl (aD (d:=38) rfl rfl rfl rfl (aD (d:=38) rfl rfl rfl rfl (bC rfl rfl rfl (aP (XF.thenN (fD rfl (aO (aQ (aB rfl rfl (aP (XF.thenN (bL (XF.thenR (XF.res (cI results10 rfl) ?_))))))))))))))))));exact ⟨bG (by unfold mC;dsimp only;rw [decide_eq_false (show ¬ fs=gs from fun h=>by have:=congrArg List.length h;omega)];simp),hS.below⟩
    ·have hg38:=of_decide_eq_false hc;clear hc;refine aI (d:=38) rfl rfl (aN (o':=6) dB rfl rfl rfl (aI (d:=38) rfl rfl (aR isAgg27 rfl (aK (hS.at_ 1 rfl) rfl) rfl (aI (d:=38) rfl rfl (cL underlying27 rfl rfl (aI (d:=38) rfl rfl (aN (o':=6) dB rfl rfl rfl (aI (d:=38) rfl rfl (aR isAgg27 rfl (aK (hS.at_ 0 rfl) rfl) rfl (aI (d:=38) rfl rfl (cL underlying27 rfl rfl (aI (d:=38) rfl rfl (dG rfl rfl rfl (bR rfl rfl rfl (aP (XF.thenN (bB rfl (fun hc=>?_) (fun hc=>?_))))))))))))))))))
     ·have hc46:=of_decide_eq_true hc;clear hc;refine aO (aQ (aB rfl rfl (aP (XF.thenN (bL (XF.thenR (XF.res (cI results10 rfl) ?_)))))));exact ⟨bG (by unfold mC;dsimp only;rw [show qO k ts us=false by unfold qO;rw [decide_eq_false (show ¬ ts.length=us.length by omega)];rfl];simp),hS.below⟩
     ·have hc46:=of_decide_eq_false hc;clear hc;have hlf:fl=gl:=by omega
      have hlt:tl=ul:=by omega
      refine bP (XF.thenN (aO (aO (aQ (aB rfl rfl (aP (XF.thenN (bX (eJ (fun m l W=>∃ i:Nat,i≤fl∧m=fl - i∧l=[(2,.pointer (some ⟨B1,0,none⟩)),(3,.pointer (some ⟨B2,0,none⟩)),(5,.int .i64 (i:Int))]∧fs.take i=gs.take i∧St w [(B2,[.int .i64 s2.f.tag,.int .i64 s2.f.dim,.slice s2.f.a s2.f.len s2.f.cap,.int .i64 st2,.int .i64 sy2,.slice fb gl gc,.slice tb ul uc],29),(B1,[.int .i64 s.f.tag,.int .i64 s.f.dim,.slice s.f.a s.f.len s.f.cap,.int .i64 st,.int .i64 sy,.slice fa fl fc,.slice ta tl tc],29)] [] [] W) (fl - 0) ([(2,_),(3,_),(5,_)]) ⟨rfl,rfl,rfl,trivial⟩ (⟨0,Nat.zero_le _,rfl,rfl,rfl,hS.clear⟩) ?_)))))))));clear hS;rintro m l W ⟨i,hi,rfl,rfl,htk,hS⟩;refine aO (aO (aQ (aH rfl rfl (aN (o':=5) eV rfl rfl rfl (aR isAgg26 rfl (aK (hS.at_ 1 rfl) rfl) rfl (cL underlying26 rfl rfl (cT rfl rfl rfl (aP (XF.thenN (bB rfl (fun hc=>?_) (fun hc=>?_)))))))))))
      ·have hc51:=of_decide_eq_true hc;clear hc;have hk:i < fl:=by omega
       obtain ⟨b1,o1,y,rfl,hy,hyc⟩:=hfr.at1 (show i < fs.length by omega);obtain ⟨b2,o2,z,rfl,hz,hzc⟩:=hgr.at1 (show i < gs.length by omega);have k1:=hS.old hyc;have k2:=hS.old hzc;refine bP (XF.thenN (aO (bX (aO (iX (m:=11) cC hS (by kernel_rfl) (by kernel_rfl) rfl (cE 1 rfl 2 rfl rfl (fun w hw=>aV (o':=5) eV rfl rfl) rfl (aZ 2 rfl 54 0 rfl rfl rfl (fun w hw=>bA isAgg26 rfl ((aL hw 0).cell (Nat.zero_le _) (aK (hS.at_ 1 rfl) rfl))) rfl (cE 3 rfl 5 rfl rfl (fun w hw=>aW rfl) rfl (aJ 4 rfl (isV _) (aE _) (rgV (li:=[(55,_),(56,_)]) rfl (aS rfl) ⟨aM 1 (aA rfl rfl rfl),aM 2 (aA rfl rfl rfl),trivial⟩ (fun w hw=>bE  underlying26 sizeOf3 rfl rfl rfl (by omega) rfl) (aF rfl)) (aZ 5 rfl 57 3 rfl rfl rfl (fun w hw=>bA isAgg3 rfl ((aL hw 0).cell (Nat.zero_le _) (k1))) rfl (cE 6 rfl 3 rfl rfl (fun w hw=>aV (o':=5) eV rfl rfl) rfl (aZ 7 rfl 59 5 rfl rfl rfl (fun w hw=>bA isAgg26 rfl ((aL hw 0).cell (Nat.zero_le _) (aK (hS.at_ 0 rfl) rfl))) rfl (cE 8 rfl 5 rfl rfl (fun w hw=>aW rfl) rfl (aJ 9 rfl (isV _) (aE _) (rgV (li:=[(60,_),(61,_)]) rfl (aS rfl) ⟨aM 6 (aA rfl rfl rfl),aM 7 (aA rfl rfl rfl),trivial⟩ (fun w hw=>bE  underlying26 sizeOf3 rfl rfl rfl (by omega) rfl) (aF rfl)) (aZ 10 rfl 62 8 rfl rfl rfl (fun w hw=>bA isAgg3 rfl ((aL hw 0).cell (Nat.zero_le _) (k2))) rfl (aJ 11 rfl (isV _) (aE _) (rgV (li:=[(58,_),(63,_)]) rfl (aS rfl) ⟨aM 4 (aA rfl rfl rfl),aM 9 (aA rfl rfl rfl),trivial⟩ (fun w hw=>Ab rfl rfl) (aF rfl)) (dI ?_)))))))))))))))));intro W4 hbR;clear hS;intro hS;refine aG (aG (aG (aG (aG (aG (aG (aG (aG (aG (aG (cM (XF.thenN (bB rfl (fun hc=>?_) (fun hc=>?_))))))))))))))
       ·have hc64:=hc;clear hc;refine aO (aQ (aB rfl rfl (aP (XF.thenN (bL (XF.blkR (XF.thenR (XF.thenR (XF.blkR (XF.thenR (XF.res (cI results10 rfl) ?_)))))))))));exact ⟨bG (by unfold mC;dsimp only;rw [decide_eq_false (show ¬ fs=gs from fun h=>by rw [h,hz] at hy;cases hy;simp at hc64)];simp),hS.below⟩
       ·have hc64:=hc;clear hc;refine bP (XF.blkN (XF.thenN (aQ (aH rfl rfl (cY rfl rfl (IntWalk.i64_in _ (by omega)) rfl (aB rfl rfl (aP ?_)))))));exact XF.round (fl - (i+1)) [(2,_),(3,_),(5,_)] (by omega) ⟨rfl,rfl,rfl,trivial⟩ ⟨i+1,by omega,rfl,rfl,Nf htk hy (hz.trans (congrArg some (show z=y from (show y=z by simpa using hc64).symm))),hS.clear⟩
      ·have hc51:=of_decide_eq_false hc;clear hc;have hfe:fs=gs:=by rw [List.take_of_length_le (by omega),List.take_of_length_le (by omega)] at htk;exact htk
       refine dT (XF.thenX (XF.thenX (XF.blkX (XF.thenN (aO (aO (aQ (aB rfl rfl (aP (XF.thenN (bX (eJ (fun m l W=>∃ i:Nat,i≤tl∧m=tl - i∧l=[(2,.pointer (some ⟨B1,0,none⟩)),(3,.pointer (some ⟨B2,0,none⟩)),(6,.int .i64 (i:Int))]∧((ts.zip us).take i).all (fun x=>eqT k x.1 x.2)=true∧St w [(B2,[.int .i64 s2.f.tag,.int .i64 s2.f.dim,.slice s2.f.a s2.f.len s2.f.cap,.int .i64 st2,.int .i64 sy2,.slice fb gl gc,.slice tb ul uc],29),(B1,[.int .i64 s.f.tag,.int .i64 s.f.dim,.slice s.f.a s.f.len s.f.cap,.int .i64 st,.int .i64 sy,.slice fa fl fc,.slice ta tl tc],29)] [] [] W) (tl - 0) ([(2,_),(3,_),(6,_)]) ⟨rfl,rfl,rfl,trivial⟩ (⟨0,Nat.zero_le _,rfl,rfl,rfl,hS.clear⟩) ?_))))))))))));clear hS;rintro m l W ⟨i,hi,rfl,rfl,hall,hS⟩;refine aO (aO (aQ (aH rfl rfl (aN (o':=6) dB rfl rfl rfl (aR isAgg27 rfl (aK (hS.at_ 1 rfl) rfl) rfl (cL underlying27 rfl rfl (cT rfl rfl rfl (aP (XF.thenN (bB rfl (fun hc=>?_) (fun hc=>?_)))))))))))
       ·have hc69:=of_decide_eq_true hc;clear hc;have hk:i < tl:=by omega
        obtain ⟨t,ht⟩:∃ t,ts[i]?=some t:=⟨ts[i]'(by omega),List.getElem?_eq_getElem _⟩;obtain ⟨u,hu⟩:∃ u,us[i]?=some u:=⟨us[i]'(by omega),List.getElem?_eq_getElem _⟩;have hzp:(ts.zip us)[i]?=some (t,u):=List.getElem?_zip_eq_some.2 ⟨ht,hu⟩;obtain ⟨b,off,rfl,h6⟩:=htr.at_ ht;obtain ⟨b2,off2,rfl,h7⟩:=hur.at_ hu;have hti9:=hti t (List.mem_of_getElem? ht);have hui9:=hui u (List.mem_of_getElem? hu);have htc9:=htc t (List.mem_of_getElem? ht);have huc9:=huc u (List.mem_of_getElem? hu);obtain ⟨f1,g1,t1,x1⟩:=t;obtain ⟨f2,g2,t2,x2⟩:=u;dsimp only [TV.nine] at h6 h7;dsimp only at hti9 hui9 htc9 huc9;have k1:=aC.agree hS.agree (Nat.zero_le _) h6;have k2:=aC.agree hS.agree (Nat.zero_le _) h7;refine bP (XF.thenN (aO (bX (aO (Vq (ef:=12) (jy:=4) (ca:=A9 (fun a=>bif Nat.beq a 10 then [.int .i64 0,.int .i64 0,.int .i64 0,.bool false,.int .i64 0,.int .u64 0,.slice none 0 0,.slice none 0 0,.slice none 0 0] else [.int .i64 0,.int .i64 0,.int .i64 0,.bool false,.int .i64 0,.int .u64 0,.slice none 0 0,.slice none 0 0,.slice none 0 0]) 10) (ta:=fun a=>bif Nat.beq a 10 then 48 else 48) (Os:=Gl _) (Gs:=rM _) (al:=[10,11]) (k:=13) (ds:=[]) cC rfl hS rfl (by kernel_rfl) (by kernel_rfl) rfl (by decide) rfl (some) (.inl ⟨rfl,rfl⟩) rfl rfl (aX 1 rfl rfl (isV _) (fun hNo=>sgV [(2,_)] rfl rfl rfl rfl hNo (aS rfl) ⟨cJ rfl,trivial⟩ (fun ev w he hw=>aV (o':=6) dB rfl rfl) (aF rfl)) (aX 2 rfl rfl (isV _) (fun hNo=>sgV [(72,_)] rfl rfl rfl rfl hNo (aS rfl) ⟨aM 0 (aA rfl rfl rfl),trivial⟩ (fun ev w he hw=>bA isAgg27 rfl ((aK (hw.at_ 1 rfl) rfl))) (aF rfl)) (aX 3 rfl rfl (isV _) (fun hNo=>sgV [(6,_)] rfl rfl rfl rfl hNo (aS rfl) ⟨cJ rfl,trivial⟩ (fun ev w he hw=>aW rfl) (aF rfl)) (aX 4 rfl rfl (isV _) (fun hNo=>sgV [(73,_),(74,_)] rfl rfl rfl rfl hNo (aS rfl) ⟨aM 1 (aA rfl rfl rfl),aM 2 (aA rfl rfl rfl),trivial⟩ (fun ev w he hw=>bE  underlying27 sizeOf48 rfl rfl rfl (by omega) rfl) (aF rfl)) (aX 5 rfl rfl (isV _) (fun hNo=>sgV [(75,_)] rfl rfl rfl rfl hNo (aS rfl) ⟨aM 3 (aA rfl rfl rfl),trivial⟩ (fun ev w he hw=>aY (vs:=[_,_,_,_,_,_,_,_,_]) isAgg48 sizeOf48 rfl (aC.agree hw.agree (Nat.zero_le _) (h6))) (aF rfl)) (aX 6 rfl rfl (isV _) (fun hNo=>sgV [(3,_)] rfl rfl rfl rfl hNo (aS rfl) ⟨cJ rfl,trivial⟩ (fun ev w he hw=>aV (o':=6) dB rfl rfl) (aF rfl)) (aX 7 rfl rfl (isV _) (fun hNo=>sgV [(77,_)] rfl rfl rfl rfl hNo (aS rfl) ⟨aM 5 (aA rfl rfl rfl),trivial⟩ (fun ev w he hw=>bA isAgg27 rfl ((aK (hw.at_ 0 rfl) rfl))) (aF rfl)) (aX 8 rfl rfl (isV _) (fun hNo=>sgV [(6,_)] rfl rfl rfl rfl hNo (aS rfl) ⟨cJ rfl,trivial⟩ (fun ev w he hw=>aW rfl) (aF rfl)) (aX 9 rfl rfl (isV _) (fun hNo=>sgV [(78,_),(79,_)] rfl rfl rfl rfl hNo (aS rfl) ⟨aM 6 (aA rfl rfl rfl),aM 7 (aA rfl rfl rfl),trivial⟩ (fun ev w he hw=>bE  underlying27 sizeOf48 rfl rfl rfl (by omega) rfl) (aF rfl)) (aX 10 rfl rfl (isV _) (fun hNo=>sgV [(80,_)] rfl rfl rfl rfl hNo (aS rfl) ⟨aM 8 (aA rfl rfl rfl),trivial⟩ (fun ev w he hw=>aY (vs:=[_,_,_,_,_,_,_,_,_]) isAgg48 sizeOf48 rfl (aC.agree hw.agree (Nat.zero_le _) (h7))) (aF rfl)) ?_)))))))))))))));refine nX 11 rfl (I5 rfl rfl rfl rfl rfl zeroValue48 (fun ev he=>by rw [he rfl];rfl)) ?_;refine nX 12 rfl (I5 rfl rfl rfl rfl rfl zeroValue48 (fun ev he=>by cases ev<;>rfl)) ?_;refine nX 13 rfl (eff_stA (py:=isV _) (m:=9) 10 rfl rfl rfl rfl (by kernel_rfl) rfl (by kernel_rfl) rfl rfl sizeOf48 rfl (fun v w e=>⟨[.int .i64 f1,.int .i64 g1,.int .i64 t1,.bool x1.f.z,.int .i64 x1.f.c,.int .u64 (x1.f.g:Int),.slice x1.f.ra x1.f.rl x1.f.rc,.slice x1.f.ca x1.f.cl x1.f.cc,.slice x1.f.pa x1.f.pl x1.f.pc],by rw [show v=_ from e];rfl,rfl,rfl⟩)) ?_;refine mP ?_;intro Bf5 y5 W5 Ks5 hsz5 hKs5 hS' hcov5;clear hS;have hS:=hS'.castO (O':=[_,_,_,_]) rfl;clear hS';refine vU (L':=[AwS _ _ (isV _),AwS _ _ (isV _),AwS _ _ (isV _),AwS _ _ (isV _),(fun v0_ w0_=>v0_=_∧AwS _ _ (isV _) v0_ w0_),AwS _ _ (isV _),AwS _ _ (isV _),AwS _ _ (isV _),AwS _ _ (isV _),AwS _ _ (isV _),isV _,isV _,isV _]) rfl (bQ (bQ (bQ (bQ ?_))));refine dF ?_;rintro _ ⟨rfl,hA5⟩;have hA5:=hA5.here;cases hA5
        refine bQ (bQ (bQ (bQ (bQ (aG (aG (Ed (cM (aU (i:=1) (vs:=[_,_,_,_,_,_,_,_,_]) (cs':=[_,_,_,_,_,_,_,_,_]) (O':=[_,_,_,_]) hS sizeOf48 rfl rfl rfl rfl rfl rfl rfl fun W6 hS=>aP (XF.thenN (aO (aQ (aN (o':=0) jI rfl rfl rfl (aR isAgg3 rfl (aK (hS.at_ 0 rfl) rfl) rfl (aN (o':=0) jI rfl rfl rfl (aR isAgg3 rfl (aK (hS.at_ 1 rfl) rfl) rfl (dG rfl rfl rfl (aH rfl rfl (cB (d:=87) rfl (fun hc=>?_) (fun hc=>?_))))))))))))))))))))
        ·have hg87:=of_decide_eq_true hc;clear hc;refine aD (d:=87) rfl rfl rfl rfl (aD (d:=87) rfl rfl rfl rfl (aD (d:=87) rfl rfl rfl rfl (aD (d:=87) rfl rfl rfl rfl (aD (d:=87) rfl rfl rfl rfl (bC rfl rfl rfl (aH rfl rfl (aD (d:=94) rfl rfl rfl rfl (aD (d:=94) rfl rfl rfl rfl (aD (d:=94) rfl rfl rfl rfl (aD (d:=94) rfl rfl rfl rfl (aD (d:=94) rfl rfl rfl rfl (bC rfl rfl rfl (aH rfl rfl (aD (d:=101) rfl rfl rfl rfl (aD (d:=101) rfl rfl rfl rfl (aD (d:=101) rfl rfl rfl rfl (aD (d:=101) rfl rfl rfl rfl (aD (d:=101) rfl rfl rfl rfl (aD (d:=101) rfl rfl rfl rfl (bC rfl rfl rfl (aP (XF.thenN (fD rfl (aO (aQ (aB rfl rfl (aP (XF.thenN (bL (XF.blkR (XF.thenR (XF.thenR (XF.blkR (XF.thenR (XF.res (cI results10 rfl) ?_)))))))))))))))))))))))))))))))))));exact ⟨bG (by unfold mC;dsimp only;rw [show qO k ts us=false by unfold qO;rw [cW hzp (Ng (fun h=>hg87 h.1))];simp];simp),hS.below⟩
        ·have hg87:=of_decide_eq_false hc;clear hc;refine aI (d:=87) rfl rfl (aN (o':=1) iF rfl rfl rfl (aI (d:=87) rfl rfl (aR isAgg3 rfl (aK (hS.at_ 0 rfl) rfl) rfl (aI (d:=87) rfl rfl (aN (o':=1) iF rfl rfl rfl (aI (d:=87) rfl rfl (aR isAgg3 rfl (aK (hS.at_ 1 rfl) rfl) rfl (aI (d:=87) rfl rfl (dG rfl rfl rfl (bR rfl rfl rfl (aH rfl rfl (cB (d:=94) rfl (fun hc=>?_) (fun hc=>?_)))))))))))))
         ·have hg94:=of_decide_eq_true hc;clear hc;refine aD (d:=94) rfl rfl rfl rfl (aD (d:=94) rfl rfl rfl rfl (aD (d:=94) rfl rfl rfl rfl (aD (d:=94) rfl rfl rfl rfl (aD (d:=94) rfl rfl rfl rfl (bC rfl rfl rfl (aH rfl rfl (aD (d:=101) rfl rfl rfl rfl (aD (d:=101) rfl rfl rfl rfl (aD (d:=101) rfl rfl rfl rfl (aD (d:=101) rfl rfl rfl rfl (aD (d:=101) rfl rfl rfl rfl (aD (d:=101) rfl rfl rfl rfl (bC rfl rfl rfl (aP (XF.thenN (fD rfl (aO (aQ (aB rfl rfl (aP (XF.thenN (bL (XF.blkR (XF.thenR (XF.thenR (XF.blkR (XF.thenR (XF.res (cI results10 rfl) ?_))))))))))))))))))))))))))));exact ⟨bG (by unfold mC;dsimp only;rw [show qO k ts us=false by unfold qO;rw [cW hzp (Ng (fun h=>hg94 h.2.1))];simp];simp),hS.below⟩
         ·have hg94:=of_decide_eq_false hc;clear hc;refine aI (d:=94) rfl rfl (aN (o':=2) iG rfl rfl rfl (aI (d:=94) rfl rfl (aR isAgg3 rfl (aK (hS.at_ 0 rfl) rfl) rfl (aI (d:=94) rfl rfl (aN (o':=2) iG rfl rfl rfl (aI (d:=94) rfl rfl (aR isAgg3 rfl (aK (hS.at_ 1 rfl) rfl) rfl (aI (d:=94) rfl rfl (dG rfl rfl rfl (bR rfl rfl rfl (aH rfl rfl (cB (d:=101) rfl (fun hc=>?_) (fun hc=>?_)))))))))))))
          ·have hg101:=of_decide_eq_true hc;clear hc;refine aD (d:=101) rfl rfl rfl rfl (aD (d:=101) rfl rfl rfl rfl (aD (d:=101) rfl rfl rfl rfl (aD (d:=101) rfl rfl rfl rfl (aD (d:=101) rfl rfl rfl rfl (aD (d:=101) rfl rfl rfl rfl (bC rfl rfl rfl (aP (XF.thenN (fD rfl (aO (aQ (aB rfl rfl (aP (XF.thenN (bL (XF.blkR (XF.thenR (XF.thenR (XF.blkR (XF.thenR (XF.res (cI results10 rfl) ?_)))))))))))))))))))));exact ⟨bG (by unfold mC;dsimp only;rw [show qO k ts us=false by unfold qO;rw [cW hzp (Ng (fun h=>hg101 h.2.2))];simp];simp),hS.below⟩
          ·have hg101:=of_decide_eq_false hc;clear hc;have eT:eqT k ⟨f1,g1,t1,x1⟩ ⟨f2,g2,t2,x2⟩=eqW k x1 x2:=Py (by dsimp only;omega) (by dsimp only;omega) (by dsimp only;omega);refine aI (d:=101) rfl rfl (aN (o':=3) fS rfl rfl rfl (aI (d:=101) rfl rfl (aT (vs:=[_,_,_,_,_,_]) isAgg46 sizeOf46 rfl (aC.own (j:=3) (m:=6) (hS.at_ 0 rfl) rfl) rfl (aI (d:=101) rfl rfl (aN (o':=3) fS rfl rfl rfl (aI (d:=101) rfl rfl (aT (vs:=[_,_,_,_,_,_]) isAgg46 sizeOf46 rfl (aC.own (j:=3) (m:=6) (hS.at_ 1 rfl) rfl) rfl (aI (d:=101) rfl rfl (cH (vs:=[_,_]) hS Fy rfl (Gg k k x1 x2 _ (hti9.below hS.below) (hui9.below hS.below) htc9 huc9) rfl fun W7 hS=>aI (d:=101) rfl rfl (fB rfl rfl (bR rfl rfl rfl (aP (XF.thenN (bB rfl (fun hc=>?_) (fun hc=>?_)))))))))))))))
           ·have hc108:=hc;clear hc;refine aO (aQ (aB rfl rfl (aP (XF.thenN (bL (XF.blkR (XF.thenR (XF.thenR (XF.blkR (XF.thenR (XF.res (cI results10 rfl) ?_)))))))))));exact ⟨bG (by unfold mC;dsimp only;rw [show qO k ts us=false by unfold qO;rw [cW hzp (by rw [eT];simpa using hc108)];simp];simp),hS.below⟩
           ·have hc108:=hc;clear hc;refine bP (XF.blkN (XF.thenN (aQ (aH rfl rfl (cY rfl rfl (IntWalk.i64_in _ (by omega)) rfl (aB rfl rfl (aP ?_)))))));exact XF.round (tl - (i+1)) [(2,_),(3,_),(6,_)] (by omega) ⟨rfl,rfl,rfl,trivial⟩ ⟨i+1,by omega,rfl,rfl,eX hzp hall (by rw [eT];simpa using hc108),hS.tail.tail.clear⟩
       ·have hc69:=of_decide_eq_false hc;clear hc;refine dT (XF.thenX (XF.thenX (XF.blkX (XF.thenN (aO (aQ (aB rfl rfl (aP (XF.thenN (bL (XF.res (cI results10 rfl) ?_)))))))))));rw [List.take_of_length_le (by rw [List.length_zip];omega)] at hall;exact ⟨bG (by unfold mC qO;dsimp only;rw [es,hall,decide_eq_true (show st=st2 by omega),decide_eq_true (show sy=sy2 by omega),decide_eq_true hfe,decide_eq_true (show ts.length=us.length by omega)];rfl),hS.below⟩
def Up (w w':World):Prop:=Below w.heap.size w w'∧w.drawn≤w'.drawn
theorem Up.refl (w:World):Up w w:=⟨Below.refl _ _,Nat.le_refl _⟩
theorem Up.trans {a b c:World} (h:Up a b) (k:Up b c):Up a c:=⟨h.1.trans (k.1.mono h.1.size),Nat.le_trans h.2 k.2⟩
theorem Up.grow {w w':World} (h:Up w w'):∃ q os,w'=Go.Sort.grow (w.drewN q) os:=by
 obtain ⟨⟨h1,h2,h3,h4,h5⟩,h6⟩:=h;refine ⟨w'.drawn - w.drawn,w'.heap.extract w.heap.size,?_⟩;obtain ⟨heap,tape,drawn,os,output⟩:=w';obtain ⟨heap0,tape0,drawn0,os0,output0⟩:=w;dsimp only at h1 h2 h3 h4 h5 h6;subst h1;subst h2;subst h3;unfold Go.Sort.grow World.drewN;dsimp only;have e1:heap=heap0++heap.extract heap0.size:=by
  apply Array.ext_getElem?;intro k;by_cases hk:k < heap0.size
  ·rw [Array.getElem?_append_left hk];exact h5 k hk
  ·rw [Array.getElem?_append_right (by omega),Array.getElem?_extract];by_cases h9:k < heap.size
   ·rw [if_pos (by omega)];congr 1;omega
   ·rw [if_neg (by omega)];exact Array.getElem?_eq_none (by omega)
 have e2:drawn=drawn0+(drawn - drawn0):=by omega
 rw [← e1,← e2]
section
variable {P:Program} {n:Nat} {Q:Exit→Act→World→Prop} {l:Fr} {w0 W:World} {ops:Array Oper} {os:List Oper} {O:Own} {G:cV} {K:List (Nat×World)} {L:List Asr} {i:Nat}
variable {d:Nat} {op:Op} {ty:TypeId} {pos:String} {aft:Array Edge} {v:Value} {gd:Option (Nat×Bool)}
def RGU (P:Program) (n:Nat) (ops:Array Oper) (Q:Exit→Act→World→Prop) (l:Fr) (W:World) (L:List Asr) (i:Nat):Prop:=∀ a,Has n l a→fH P ops Q a.tmps (fun w=>Up W w) (atI L) i
theorem rguV (li:Fr) (hi:ops[i]?=some ⟨some d,op,ty,pos,aft,gd⟩) (hw:fT ops L i ⟨some d,op,ty,pos,aft,gd⟩) (hli:wV n ops l L i li) (hr:∀ w,Below W.heap.size W w→gA P li ⟨some d,op,ty,pos,#[],none⟩ w v w) (hI:atI L i=isV v):RGU P n ops Q l W L i :=
 fun a ha=>fH.value hi fun b w hF hG hD=>⟨hw.yes hD,v,w,by rw [eR b.eval _ _ _ _ pos _ #[] _ none];exact hr w hG.1 b.eval (jA ha hF hD hli),by rw [hI];rfl,hG,Below.refl _ _⟩
def GivesU (p:Asr) (w:World):Ending→World→Prop:=fun e w'=>∃ v,e = .returned v∧p v w'∧Up w w'
theorem rguC {f:FuncId} {xs:List Operand} {ts:Array TypeId} (ps:List Asr) (hi:ops[i]?=some ⟨some d,.call { callee:=.value (.func f),args:=xs.toArray,argTypes:=ts },ty,pos,aft,gd⟩) (hgo:bJ P f=true)
  (hw:fT ops L i ⟨some d,.call { callee:=.value (.func f),args:=xs.toArray,argTypes:=ts },ty,pos,aft,gd⟩) (hp:tC n ops l L i xs ps)
  {p:Asr} (hc:∀ vs w,Below W.heap.size W w→lV ps vs w→Calls P f vs.toArray w (GivesU p w)) (hI:atI L i=p):RGU P n ops Q l W L i :=
 fun a ha=>fH.call hi fun b w hF hG hD=>⟨hw.yes hD,f,xs.toArray.map b.eval,lT P b.eval w f xs.toArray ts _ rfl rfl hgo,by
  have h1:=hc (xs.map b.eval) w hG.1 (gB ha hF hD hp);subst hI;rw [show (xs.map b.eval).toArray=xs.toArray.map b.eval by simp] at h1;exact h1.mono fun e w' ⟨v,k1,k2,k3⟩=>⟨v,k1,k2,hG.trans k3,k3.1⟩⟩
theorem rguRowV {T e:TypeId} {m s:Nat} {xs:List (Nat×Operand)} {us:List Value} {z:Value} {cs:List Value} (hi:ops[i]?=some ⟨some d,.buildSlice T m xs.toArray,ty,pos,aft,gd⟩) (hw:fT ops L i ⟨some d,.buildSlice T m xs.toArray,ty,pos,aft,gd⟩)
  (hU:P.underlying T=some (.slice e)) (hs:∀ w,(sizeOf e).run P w = .ok s w) (hz:∀ w,(zeroValue e).run P w = .ok z w) (hm:Nat.ble (m * s) 16777216=true) (hm0:Nat.beq (m * s) 0=false) (hp:tC n ops l L i (xs.map (·.2)) (us.map isV))
  (hf:Instr.fill (fun i=>some (i * s,s)) ((Array.range (m * s)).map (z.cells[· % z.cells.size]!)) ((xs.map (·.1)).zip us)=some cs.toArray) (hI:atI L i=oV W.heap.size m e cs):RGU P n ops Q l W L i :=
 fun a ha=>fH.value hi fun b w hF hG hD=>by
  have hvs:=bW (gB ha hF hD hp);have h4:m * s≤16777216:=Nat.le_of_ble_eq_true hm;have h5:m * s≠0:=fun e=>by rw [e] at hm0;cases hm0
  have h6:¬ (m * s > 2 ^ 24):=by omega
  have h7:((xs.map (·.1)).zip ((xs.map (·.2)).map b.eval))=xs.map (fun p=>(p.1,b.eval p.2)):=by
   clear hi hw hp hf hvs
   induction xs with
   | nil=>rfl
   | cons x xs ih=>simp only [List.map_cons,List.zip_cons_cons,ih]
  rw [← hvs,h7] at hf;have hB:Below w.heap.size w (w.alloc (.cells cs.toArray e)):=(Below.refl _ _).alloc (Nat.le_refl _) _;refine ⟨hw.yes hD,.slice (some ⟨w.heap.size,0,none⟩) m m,w.alloc (.cells cs.toArray e),?_,?_,hG.trans ⟨hB,Nat.le_refl _⟩,hB⟩
  ·unfold execOp;simp only [];rw [show (Array.map (fun p=>(p.1,b.eval p.2)) xs.toArray)=(xs.map (fun p=>(p.1,b.eval p.2))).toArray by simp];simp only [Instr.buildSlice,Sem.run_bind,run_underlying hU,Result.andThen_ok,hs,if_neg h6,if_neg h5,hz,Sem.run_pure,hf,newRow,run_newObj_alloc]
  ·rw [hI];exact ⟨w.heap.size,rfl,hG.1.size,heap_alloc_new w _⟩
theorem RGU.ext {L1 L2:List Asr} (ht:dO ops n=true) (hag:∀ j,j≤i→atI L1 j=atI L2 j) (h:RGU P n ops Q l W L1 i):RGU P n ops Q l W L2 i:=fun a ha=>by
 have h1:=h a ha;intro b w hF hG hD;have hlt:∀ j d,bH ops i j d=true→j < i:=fun j d hw=>by
  cases ho:ops[i]? with
  | none=>simp [bH,ho] at hw
  | some o =>
   simp only [bH,ho,Bool.and_eq_true,beq_iff_eq] at hw;obtain ⟨e,he,h2⟩:=Array.any_eq_true'.1 hw.1;simp only [Bool.and_eq_true,beq_iff_eq] at h2;rw [← h2.1];exact jL ht ho e he h2.2
 have h2:=h1 b w hF hG (fun j d hw=>by rw [hag j (Nat.le_of_lt (hlt j d hw))];exact hD j d hw);rw [hag i (Nat.le_refl _)] at h2;exact h2
def BLU (P:Program) (n:Nat) (ops:Array Oper) (Q:Exit→Act→World→Prop) (l:Fr) (W:World) (Goal:List Asr→Prop):Nat→List Asr→Nat→Prop
 | 0,Lr,_=>Goal Lr
 | m+1,Lr,k=>∃ p,gQ p∧RGU P n ops Q l W (p::Lr).reverse k∧BLU P n ops Q l W Goal m (p::Lr) (k+1)
variable {Goal:List Asr→Prop}
theorem blu_nil {Lr:List Asr} {k:Nat} (h:Goal Lr):BLU P n ops Q l W Goal 0 Lr k:=h
theorem nM {m k:Nat} {Lr:List Asr} (k':Nat) (hk:k+1=k') (p:Asr) (hs:gQ p) (h:RGU P n ops Q l W (p::Lr).reverse k) (hr:BLU P n ops Q l W Goal m (p::Lr) k'):BLU P n ops Q l W Goal (m+1) Lr k:=by subst hk;exact ⟨p,hs,h,hr⟩
theorem Ew {m k:Nat} {Lr:List Asr} {x u:Value} (k':Nat) (hk:k+1=k') (t:Nat) (hi:ops[k]?=some ⟨some d,op,ty,pos,aft,none⟩) (hf:freeT ops t=true) (hv:look l t=some u) (hr:∀ w,Below W.heap.size W w→gA P [(t,u)] ⟨some d,op,ty,pos,#[],none⟩ w x w) (hl:Lr.length=k) (h:BLU P n ops Q l W Goal m (isV x::Lr) k'):BLU P n ops Q l W Goal (m+1) Lr k :=
 nM k' hk (isV x) (aE x) (rguV [(t,u)] hi (aS rfl) ⟨g_fr hf hv,trivial⟩ hr (aF hl)) h
theorem Ci {m k:Nat} {Lr:List Asr} {x u:Value} (k':Nat) (hk:k+1=k') (t j:Nat) (hi:ops[k]?=some ⟨some d,op,ty,pos,aft,none⟩) (hw:bH ops k j t=true) (hj:Nat.ble j k=true) (hL:atI (isV x::Lr) (k - j)=isV u) (hr:∀ w,Below W.heap.size W w→gA P [(t,u)] ⟨some d,op,ty,pos,#[],none⟩ w x w) (hl:Lr.length=k) (h:BLU P n ops Q l W Goal m (isV x::Lr) k'):BLU P n ops Q l W Goal (m+1) Lr k :=
 nM k' hk (isV x) (aE x) (rguV [(t,u)] hi (aS rfl) ⟨Uf j hw (aA (by rw [List.length_cons,hl]) hj hL),trivial⟩ hr (aF hl)) h
theorem Pz (ht:dO ops n=true):∀ (m k:Nat) (Lr:List Asr),Lr.length=k→(∀ p∈Lr,gQ p)→(∀ i,i < k→RGU P n ops Q l W Lr.reverse i)→BLU P n ops Q l W Goal m Lr k →
  ∃ Lr',Lr'.length=k+m∧(∀ p∈Lr',gQ p)∧(∀ i,i < k+m→RGU P n ops Q l W Lr'.reverse i)∧Goal Lr'
 | 0,k,Lr,hl,hs,hg,h=>⟨Lr,hl,hs,hg,h⟩
 | m+1,k,Lr,hl,hs,hg,⟨p,hp,hr,hn⟩=>by
  obtain ⟨L',h1,h2,h3,h4⟩:=Pz ht m (k+1) (p::Lr) (by simp [hl]) (fun q hq=>by
   rcases List.mem_cons.1 hq with rfl | hq
   ·exact hp
   ·exact hs q hq) (fun i hi=>by
   by_cases hik:i=k
   ·subst hik;exact hr
   ·refine RGU.ext ht (fun j hj=>?_) (hg i (by omega));rw [List.reverse_cons,lH (by simp;omega)]) hn
  exact ⟨L',by omega,h2,fun i hi=>h3 i (by omega),h4⟩
theorem regBU {id:Nat} {m:Nat} (hm:P.follows .mixedOrders=true) (hS:St w0 O G K W) (ht:dO os.toArray n=true) (hdst:os.all (fun o=>o.dst.isSome)=true) (hlen:os.length=m)
  (h:BLU P n os.toArray Q l W (fun Lr=>∀ W',Up W W'→St w0 O G ((W.heap.size,W')::K) W'→jY os Lr.reverse l (fun l' W'=>XF Q .normal n l' W') W') m [] 0):eW P n (.region id os.toArray true) Q l W:=by
 obtain ⟨Lr,h1,h2,h3,h4⟩:=Pz ht m 0 [] rfl (fun p hp=>by cases hp) (fun i hi=>by omega) h;subst hlen;intro a ha;refine tH hm (fun w=>Up W w) (atI Lr.reverse) (⟨(Below.refl _ _).drew,Nat.le_succ _⟩:Up W W.drew) (by rw [ha.size];exact ht) (fun i v w w' _ h hb=>mZ (lW fun p hp=>h2 p (List.mem_reverse.1 hp)) i v w w' h hb) (fun i hi=>h3 i (by simpa using hi) a ha) ?_;intro a' W' hs hd hf hG hI;refine pO os Lr.reverse l (fun i d hi hd'=>hI i d (by simpa using hi) (by simpa using hd')) (hs.trans ha.size) (hd.trans ha.defers) ?_ (fun o ho=>?_) (fun l' h ha'=>h a' ha') (h4 W' hG (hS.call hG.1))
 ·intro t v hv hno;rw [hf t (by unfold freeT;rw [Array.all_eq_true'];intro o ho;simpa using hno o (by simpa using ho))];exact ha.at_ t v hv
 ·have:=List.all_eq_true.1 hdst o ho;exact Option.isSome_iff_exists.1 this
theorem P0 {x:Operand} {T:TypeId} {cs:List Value} (hS:St w0 O G K W) (hx:evL l x=some v) (hcs:v.cells=cs.toArray) (hd:Nat.blt d n=true)
  (h:∀ B W',Up W W'→St w0 ((B,cs,T)::O) G K W'→cO P n ops Q os ((d,.pointer (some ⟨B,0,none⟩))::l) W'):cO P n ops Q (⟨some d,.box T x,ty,pos,aft,none⟩::os) l W :=
 opV (W':=W.alloc (.cells cs.toArray T)) (v:=.pointer (some ⟨W.heap.size,0,none⟩)) (fun ev he=>by unfold execOp;simp only [];rw [he x _ hx];simp [Instr.box,newVar,newRow,hcs]) hd (h _ _ ⟨(Below.refl _ _).alloc (Nat.le_refl _) _,Nat.le_refl _⟩ (hS.alloc cs T))
end
theorem P1:bJ prog 86=true:=by kernel_rfl
def orZ:List Int→Int
 | []=>0
 | x::r=>if x≠0 then x else orZ r
theorem orZ_at {xs:List Int} {i:Nat} {y:Int} (h:xs[i]?=some y):orZ (xs.drop i)=if y≠0 then y else orZ (xs.drop (i+1)):=by have hl:=(List.getElem?_eq_some_iff.1 h).1;have e:xs[i]=y:=(List.getElem?_eq_some_iff.1 h).2;rw [List.drop_eq_getElem_cons hl,e];rfl
theorem ordK_or (a b:TK):orZ [nK a.1 b.1,nK a.2.1 b.2.1,nK a.2.2 b.2.2]=Cv a b:=by
 unfold Cv orZ orZ orZ orZ;split<;>first | rfl | skip
 split<;>first | rfl | skip
 split<;>first | rfl | skip
 rename_i h;exact (Decidable.of_not_not h).symm
theorem row_of3 {W:World} {B:Nat} {x y z:Int} (h:W.heap[B]?=some (.cells #[.int .i64 x,.int .i64 y,.int .i64 z] 3 (0,0))):Row W (some ⟨B,0,none⟩) [x,y,z]:=.inr ⟨B,0,rfl,fun i hi=>by
 match i,hi with
 | 0,_=>simp [World.cell?,h]
 | 1,_=>simp [World.cell?,h]
 | 2,_=>simp [World.cell?,h]
 | i+3,hi=>exact absurd hi (by simp)⟩
theorem rint9 {a b:Int} (h:a=b):Value.int .i64 a = .int .i64 b:=by rw [h]
theorem P2 (x:Int) (w:World) :
  Calls prog 86 #[.int .i64 x] w (fun e w'=>e = .returned (.bool false)∧w'=w):=by
 refine cG (args:=[.int .i64 x]) func86 rfl ntmps86 rfl ?_;have hS:=St.start w;refine aO (aQ (aB rfl rfl (aP (XF.thenN (aO (aQ (aH rfl rfl (aH rfl rfl (dG rfl rfl rfl (aB rfl rfl (aP (XF.thenN (bL (XF.res (cI results86 rfl) ?_))))))))))))));exact ⟨bG (decide_eq_false (fun h=>h rfl)),rfl⟩
theorem xN (x y:Int) (w:World) :
  Calls prog 55 #[.int .i64 x,.int .i64 y] w (fun e w'=>e = .returned (.int .i64 (nK x y))∧w'=w):=by
 refine cG (args:=[.int .i64 x,.int .i64 y]) func55 rfl ntmps55 rfl ?_;have hS:=St.start w;refine aO (aQ (aB rfl rfl (aP (XF.thenN (aO (aQ (aH rfl rfl (fY (vs:=[_]) P1 rfl (P2 _ _) rfl ?_))))))));rintro e W8 ⟨rfl,rfl⟩;refine ⟨_,rfl,?_⟩;refine aB rfl rfl (aP (XF.thenN (aO (aQ (aH rfl rfl (fY (vs:=[_]) P1 rfl (P2 _ _) rfl ?_))))));rintro e W9 ⟨rfl,rfl⟩;refine ⟨_,rfl,?_⟩;refine aB rfl rfl (aP (XF.thenN (aO (aO (aQ (aH rfl rfl (aP (XF.thenN (tI rfl (bP (XF.thenN (aO (aO (aQ (aH rfl rfl (aP (XF.thenN (tI rfl (bP (XF.thenN (aO (aO (aQ (aH rfl rfl (aH rfl rfl (cT rfl rfl rfl (aP (XF.thenN (bB rfl (fun hc=>?_) (fun hc=>?_))))))))))))))))))))))))))))))
 ·have hc16:=of_decide_eq_true hc;clear hc;refine aO (aQ (aB rfl rfl (aP (XF.thenN (bL (XF.thenR (XF.res (cI results55 rfl) ?_)))))));exact ⟨eM (by unfold nK;rw [if_pos hc16]),rfl⟩
 ·have hc16:=of_decide_eq_false hc;clear hc;refine bP (XF.thenN (aO (aO (aQ (aH rfl rfl (aH rfl rfl (nZ rfl rfl rfl (aP (XF.thenN (bB rfl (fun hc=>?_) (fun hc=>?_)))))))))))
  ·have hc19:=of_decide_eq_true hc;clear hc;refine aO (aQ (aB rfl rfl (aP (XF.thenN (bL (XF.thenR (XF.res (cI results55 rfl) ?_)))))));exact ⟨eM (by unfold nK;rw [if_neg hc16,if_pos hc19]),rfl⟩
  ·have hc19:=of_decide_eq_false hc;clear hc;refine bP (XF.thenN (aO (aQ (aB rfl rfl (aP (XF.thenN (bL (XF.res (cI results55 rfl) ?_))))))));exact ⟨eM (by unfold nK;rw [if_neg hc16,if_neg hc19]),rfl⟩
theorem or_x (a:Option Addr) (l c:Nat) (xs:List Int) (w:World) (hrow:Row w a xs) (hl:xs.length=l) (hm:l≤9223372036854775807) :
  Calls prog 54 #[.slice a l c] w (fun e w'=>e = .returned (.int .i64 (orZ xs))∧w'=w):=by
 refine cG (args:=[.slice a l c]) func54 rfl ntmps54 rfl ?_;have hS:=St.start w;refine aO (aQ (aB rfl rfl (aP (XF.thenN (aO (aQ (aB rfl rfl (aP (XF.thenN (aO (aO (aQ (aH rfl rfl (cL underlying26 rfl rfl (aH rfl rfl (aP (XF.thenN (bX (eJ (fun m l9 W=>∃ i:Nat,i≤l∧m=l - i∧l9=[(3,.int .i64 0),(6,.slice a l c),(7,.int .i64 (l:Int)),(8,.int .i64 (i:Int))]∧orZ (xs.drop i)=orZ xs∧W=w∧St w [] [] [] W) (l - 0) ([(3,_),(6,_),(7,_),(8,_)]) ⟨rfl,rfl,rfl,rfl,trivial⟩ (⟨0,Nat.zero_le _,rfl,rfl,rfl,rfl,hS.clear⟩) ?_)))))))))))))))))));clear hS;rintro m l9 W ⟨i,hi,rfl,rfl,hor,rfl,hS⟩;refine aO (aQ (cT rfl rfl rfl (aP (XF.thenN (aO (bB rfl (fun hc=>?_) (fun hc=>?_)))))))
 ·have hc9:=of_decide_eq_true hc;clear hc;have hk:i < l:=by omega
  obtain ⟨b,off,y,rfl,hy,hyc⟩:=hrow.at1 (show i < xs.length by omega);have hy9:=orZ_at hy;refine bP (XF.thenN (aO (bX (aO (aQ (cK  underlying26 sizeOf3 rfl rfl rfl (by omega) rfl rfl (aR isAgg3 rfl (hyc) rfl (aB rfl rfl (aP (XF.thenN (aO (aQ (aH rfl rfl (aH rfl rfl (dG rfl rfl rfl (aP (XF.thenN (bB rfl (fun hc=>?_) (fun hc=>?_)))))))))))))))))))
  ·have hc14:=of_decide_eq_true hc;clear hc;refine aO (aQ (aH rfl rfl (aB rfl rfl (aP (XF.thenN (bL (XF.blkR (XF.thenR (XF.thenR (XF.blkR (XF.thenR (XF.res (cI results54 rfl) ?_))))))))))));exact ⟨eM (by rw [← hor,hy9,if_pos hc14]),rfl⟩
  ·have hc14:=of_decide_eq_false hc;clear hc;refine bP (XF.blkN (XF.thenN (aQ (cY rfl rfl (IntWalk.i64_in _ (by omega)) rfl (aH rfl rfl (aP ?_))))));exact XF.round (l - (i+1)) [(3,_),(6,_),(7,_),(8,_)] (by omega) ⟨rfl,rfl,rfl,rfl,trivial⟩ ⟨i+1,by omega,rfl,rfl,by rw [← hor,hy9,if_neg hc14],rfl,hS.clear⟩
 ·have hc9:=of_decide_eq_false hc;clear hc;refine dT (XF.thenX (XF.thenX (XF.blkX (XF.thenN (aO (aQ (aH rfl rfl (aB rfl rfl (aP (XF.thenN (bL (XF.res (cI results54 rfl) ?_))))))))))));exact ⟨eM (by rw [← hor,List.drop_of_length_le (by omega)];rfl),rfl⟩
end
section
open Go.RowKit
open Go.WideMaps (KeyLaw)
theorem Wx:(63:TypeId) < prog.types.size:=of_decide_eq_true (by kernel_rfl)
theorem arwSize:prog.types.size=prog.types.size - 1+1:=Ep Wx
theorem arwWide:(match prog.underlying 63 with | some (.array _ _) | some (.struct _)=>true | _=>false)=true:=by rw [underlying63]
theorem arwLaw:KeyLaw prog 63:=deep_law_laid (by kernel_rfl) (m:=3) (by omega) Wx (by kernel_rfl) arwWide
theorem Ka:prog.cellsOf 63=3:=by kernel_rfl
abbrev kv3 (k:Int×Int×Int):Value:=.agg #[.int .i64 k.1,.int .i64 k.2.1,.int .i64 k.2.2]
theorem arwKey {f g t:Int} (hf:(Lit.int .i64 f).wf=true) (hg:(Lit.int .i64 g).wf=true) (ht:(Lit.int .i64 t).wf=true):∃ l,keyOf prog 63 (kv3 (f,g,t))=some l:=by
 have h1:prog.keyType 63=true:=by kernel_rfl
 have h2:(kv3 (f,g,t)).formed prog 63=true:=by simp [Value.formed,underlying63,Ka]
 have hi:∀ (d:Nat) (x:Int),(Lit.int .i64 x).wf=true→prog.keyLits (d+1) 3 [.int .i64 x]=some [.int .i64 x]:=fun d x hx=>by simp [Program.keyLits,underlying3,hx]
 obtain ⟨m,hm⟩:∃ m,prog.types.size=m+1:=⟨prog.types.size - 1,arwSize⟩;unfold keyOf;rw [underlying63];simp only [h1,h2,Bool.and_self,if_true];rw [hm];simp [Program.keyLits,underlying63,Ka,Jq,hi m f hf,hi m g hg,hi m t ht,Value.cells,hf,hg,ht]
end
section
open Go.RowKit
open Go.Maps
theorem wf_nat6 {v:Nat} (h:v≤1000000):(Lit.int .i64 (v:Int)).wf=true:=by have e1:IntKind.i64.min = -9223372036854775808:=rfl;have e2:IntKind.i64.max=9223372036854775807:=rfl;simp [Lit.wf];omega
theorem Cj:Go.Maps.Keyed prog 63:=Go.Maps.Keyed.of_law arwLaw
structure KRk (x:TK):Prop where
 f:(Lit.int .i64 x.1).wf=true
 g:(Lit.int .i64 x.2.1).wf=true
 t:(Lit.int .i64 x.2.2).wf=true
noncomputable def Sx (x:TK):Lit:=(keyOf prog 63 (kv3 x)).getD (.bool false)
theorem sZ {x:TK} (h:KRk x):keyOf prog 63 (kv3 x)=some (Sx x):=by obtain ⟨l,hl⟩:=arwKey h.f h.g h.t;have hl2:keyOf prog 63 (kv3 x)=some l:=hl;unfold Sx;rw [hl2];rfl
theorem Kc {x y:TK} (hx:KRk x) (hy:KRk y) (h:Sx x=Sx y):x=y:=by have h1:=Cj.inj (sZ hx) (by rw [h];exact sZ hy);obtain ⟨a,b,c⟩:=x;obtain ⟨d,e,f⟩:=y;simp only [kv3,Value.agg.injEq] at h1;simpa using h1
def mI (b n:Nat) (f:TK→Option Nat) (W:World):Prop:=∃ D:DataW Unit,W.ownsMap prog 63 (plainElem prog 3) b n D∧∀ x,KRk x→Maps.has D (Sx x)=(f x).isSome∧D.atKey (Sx x) (.lit (.int .i64 0)) = .lit (.int .i64 (((f x).getD 0:Nat):Int))
theorem mI.same {b n:Nat} {f:TK→Option Nat} {W W':World} (h:mI b n f W) (he:b < W.heap.size→W'.heap[b]?=W.heap[b]?):mI b n f W':=by obtain ⟨D,⟨es,clock,h1,h2⟩,h3⟩:=h;exact ⟨D,⟨es,clock,(he (cA h1)).trans h1,h2⟩,h3⟩
theorem mI.lt {b n:Nat} {f:TK→Option Nat} {W:World} (h:mI b n f W):b < W.heap.size:=by obtain ⟨D,⟨es,clock,h1,h2⟩,h3⟩:=h;exact cA h1
theorem mI.fresh (W:World):mI W.heap.size 0 (fun _=>none) (W.alloc (.map #[] 0)) :=
 ⟨.map [],World.ownsMap_made W _ _ _,fun x _=>by simp [Maps.has,DataW.atKey]⟩
theorem mI.made {W:World} {b:Nat} (hb:W.heap[b]?=some (.map #[] 0)):mI b 0 (fun _=>none) W:=by
 obtain ⟨D,⟨es,clock,h1,h2⟩,h3⟩:=mI.fresh W;have h4:=(heap_alloc_new W (.map #[] 0)).symm.trans h1;injection h4 with h4
 injection h4 with h5 h6
 subst h5;subst h6;exact ⟨D,⟨_,_,hb,h2⟩,h3⟩
theorem mI.look {b n:Nat} {f:TK→Option Nat} {W:World} (h:mI b n f W) {x:TK} (hx:KRk x):(Instr.lookup 60 (.map (some b)) (kv3 x) true).run prog W = .ok (.tuple #[.int .i64 (((f x).getD 0:Nat):Int),.bool (f x).isSome]) W:=by
 obtain ⟨D,h1,h2⟩:=h;obtain ⟨v,ps,h3,h4⟩:=h1.look_ok Cj underlying60 (zeroValue3 W) (plainElem_int underlying3 (by decide)) (sZ hx);obtain ⟨a,rfl,h5⟩:=plainElem_int_inv underlying3 h4;obtain ⟨e1,e2⟩:=h2 x hx;rw [h3,e1];simp only [Prod.mk.injEq] at h5;rw [e2] at h5;have h6:=h5.1.1;injection h6 with h6
 injection h6 with _ h6
 rw [h6]
theorem mI.put {b n:Nat} {f:TK→Option Nat} {W:World} (h:mI b n f W) {x:TK} (hx:KRk x) {v:Nat} (hv:v≤1000000) (hn:n < maxLen):∃ w',(Instr.mapUpdate 60 (.map (some b)) (kv3 x) (.int .i64 (v:Int))).run prog W = .ok () w'∧mI b (n+1) (fun y=>if y=x then some v else f y) w'∧W.mapTurned w' b:=by
 obtain ⟨D,h1,h2⟩:=h;have hw:(Lit.int .i64 (v:Int)).wf=true:=wf_nat6 hv;obtain ⟨w',h3,h4,h5⟩:=h1.store Cj underlying60 hn (sZ hx) (plainElem_int underlying3 hw);refine ⟨w',h3,⟨_,h4,fun y hy=>?_⟩,h5⟩;by_cases e:y=x
 ·subst e;rw [has_put_same h1.isMap (Cj.key (sZ hy)),atKey_put_same h1.isMap (Cj.key (sZ hy))];dsimp only;rw [if_pos rfl];exact ⟨rfl,rfl⟩
 ·rw [has_put_other (fun e2=>e (Kc hy hx e2)),atKey_put_other (fun e2=>e (Kc hy hx e2))];dsimp only;rw [if_neg e];exact h2 y hy
section
variable {n:Nat} {ops:Array Oper} {Q:Exit→Act→World→Prop} {l:Fr} {w0 W:World} {O:Own} {G:cV} {K:List (Nat×World)} {os:List Oper} {d b m:Nat} {ty:TypeId} {pos:String} {aft:Array Edge} {x y z:Operand} {f:TK→Option Nat} {k:TK}
theorem Wy (hM:mI b m f W) (hk:KRk k) (hx:evL l x=some (.map (some b))) (hy:evL l y=some (kv3 k)) (hd:Nat.blt d n=true)
  (h:cO prog n ops Q os ((d,.tuple #[.int .i64 (((f k).getD 0:Nat):Int),.bool (f k).isSome])::l) W):cO prog n ops Q (⟨some d,.lookup 60 x y true,ty,pos,aft,none⟩::os) l W :=
 opV (fun ev he=>by
  unfold execOp;simp only [];rw [he x _ hx,he y _ hy];simp [hM.look hk,Result.andThen]) hd h
theorem op_putN {v:Nat} (hS:St w0 O G K W) (hM:mI b m f W) (hk:KRk k) (hv:v≤1000000) (hm:m < maxLen) (hwb:w0.heap.size≤b) (hK:∀ q∈K,b < q.1∨q.2.heap.size≤b) (hx:evL l x=some (.map (some b))) (hy:evL l y=some (kv3 k)) (hz:evL l z=some (.int .i64 (v:Int)))
  (h:∀ W',St w0 O G K W'→mI b (m+1) (fun y=>if y=k then some v else f y) W'→cO prog n ops Q os l W'):cO prog n ops Q (⟨none,.mapUpdate 60 x y z,ty,pos,aft,none⟩::os) l W:=fun a ha=>by
 obtain ⟨W',h1,h2,h3⟩:=hM.put hk hv hm;refine wpList_plain rfl fun K' hK'=>?_
 unfold Oper.wp execOp;simp only [];rw [ha.ev x _ hx,ha.ev y _ hy,ha.ev z _ hz];simp only [Sem.run_bind,h1,Result.andThen_ok,Sem.run_pure,Oper.upon_skip];exact hK' _ _ (h W' (hS.setMap h3 hwb hK) h2 a ha)
end
end
section
open Go.RowKit
def wM (lo:Nat) (fl:Nat) (fs:List Int):Asr:=fun v w=>∃ (a:Option Addr) (c:Nat),v = .slice a fl c∧∀ W2,dD lo w W2→Row W2 a fs
theorem Cw {lo fl:Nat} {fs:List Int}:gQ (wM lo fl fs):=fun v w w' ⟨a,c,h1,h2⟩ hb=>⟨a,c,h1,fun W2 hg=>h2 W2 ((aL hb _).trans hg)⟩
def Nh (lo:Nat) (S:PS) (st sy:Int) (fl:Nat) (fs:List Int):Asr:=fun v w=>∃ (sq:SF) (fa:Option Addr) (fc:Nat),v = .agg #[.int .i64 sq.tag,.int .i64 sq.dim,.slice sq.a sq.len sq.cap,.int .i64 st,.int .i64 sy,.slice fa fl fc,.slice none 0 0]∧(∀ W2,dD lo w W2→SIs W2 S sq)∧∀ W2,dD lo w W2→Row W2 fa fs
theorem Kd {lo:Nat} {S:PS} {st sy:Int} {fl:Nat} {fs:List Int}:gQ (Nh lo S st sy fl fs):=fun v w w' ⟨s2,a,c,h1,h2,h3⟩ hb=>⟨s2,a,c,h1,fun W2 hg=>h2 W2 ((aL hb _).trans hg),fun W2 hg=>h3 W2 ((aL hb _).trans hg)⟩
theorem Wz {d j1 j2 j3 j4 t1 t2 t3 t4 lo:Nat} {W:World} {ty:TypeId} {pos:String} {S:PS} {st sy:Int} {fl:Nat} {fs:List Int}:∀ (ev:Operand→Value) (w:World),Below W.heap.size W w→Ee [(j1,t1,Jb lo S),(j2,t2,isV (.int .i64 st)),(j3,t3,isV (.int .i64 sy)),(j4,t4,wM lo fl fs)] ev w →
  ∃ v,(execOp ev ⟨some d,.build 29 #[(0,.tmp t1),(1,.tmp t2),(2,.tmp t3),(3,.tmp t4)],ty,pos,#[],none⟩).run prog w = .ok (.value v) w∧Nh lo S st sy fl fs v w:=fun ev w _ ⟨⟨sq,h1,h5⟩,h2,h3,⟨fa,fc,h4,h6⟩,_⟩=>by
 have e1:ev (.tmp t1)=_:=h1;have e2:ev (.tmp t2)=_:=h2;have e3:ev (.tmp t3)=_:=h3;have e4:ev (.tmp t4)=_:=h4;refine ⟨_,?_,sq,fa,fc,rfl,h5,h6⟩;have hr:=run_build w 29 #[(0,sq.val),(1,.int .i64 st),(2,.int .i64 sy),(3,.slice fa fl fc)] _ (P:=prog) (bldAk sq st sy fa fl fc);unfold execOp;simp only [List.map_toArray,List.map_cons,List.map_nil,e1,e2,e3,e4];simp [hr]
theorem Sz (S:PS) (a:AV) (w:World) (hsi:SIs w S a.s.f) (hok:S.ok) (hf:Row w a.fa a.fs) (hfl:a.fs.length=a.fl) (hfm:a.fl≤8192) :
  Calls prog 21 #[a.val] w (fun e w'=>∃ (sq:SF) (fa:Option Addr) (fc:Nat),e = .returned (.agg #[.int .i64 sq.tag,.int .i64 sq.dim,.slice sq.a sq.len sq.cap,.int .i64 a.st,.int .i64 a.sy,.slice fa a.fl fc,.slice none 0 0])∧(∀ W2,dD w.heap.size w' W2→SIs W2 S sq)∧(∀ W2,dD w.heap.size w' W2→Row W2 fa a.fs)∧Below w.heap.size w w'):=by
 refine cG (args:=[a.val]) func21 rfl ntmps21 rfl ?_;have hS:=St.start w;refine aO (aQ (bY (cs:=[_,_,_,_,_,_,_]) hS rfl rfl rfl fun B1 W1 hS=>bF (cs:=[_,_,_,_,_,_,_]) hS zeroValue29 rfl rfl fun B2 W2 hS=>aP (XF.thenN (aO ?_))));have hsz1:=hS.below.size;refine xU cC 11 hS rfl rfl (by kernel_rfl) (by kernel_rfl) (by kernel_rfl) (fun d hd=>by cases hd) (cE 1 rfl 1 rfl rfl (fun w hw=>aV (o':=0) iQ rfl rfl) rfl (aZ 2 rfl 3 0 rfl rfl rfl (fun w hw=>aY (vs:=[_,_,_]) isAgg25 sizeOf25 rfl (aC.agree (aL hw 0) (Nat.zero_le _) (aC.own (j:=0) (m:=3) (hS.at_ 1 rfl) rfl))) rfl ?_));refine aJ 3 rfl (Jb W2.heap.size S) (Nd) (cN [isV _] rfl O9 (aS rfl) ⟨bT (aM 1 (aA rfl rfl rfl)),trivial⟩ (fun vs w' hb hh=>by
  have e:=bW (us:=[_]) hh;subst e;exact (Se S a.s.f w' (hsi.below (hS.below.trans (hb.mono hS.below.size))) hb.size).mono fun e w2 ⟨v,h1,h2,h3⟩=>⟨v,h1,h2 _ (dD.refl _ _),h3⟩) (aF rfl)) ?_
 refine cE 4 rfl 1 rfl rfl (fun w hw=>aV (o':=3) iH rfl rfl) rfl (aZ 5 rfl 6 3 rfl rfl rfl (fun w hw=>bA isAgg3 rfl ((aL hw 0).cell (Nat.zero_le _) (aK (hS.at_ 1 rfl) rfl))) rfl (cE 6 rfl 1 rfl rfl (fun w hw=>aV (o':=4) jJ rfl rfl) rfl (aZ 7 rfl 8 5 rfl rfl rfl (fun w hw=>bA isAgg3 rfl ((aL hw 0).cell (Nat.zero_le _) (aK (hS.at_ 1 rfl) rfl))) rfl (cE 8 rfl 1 rfl rfl (fun w hw=>aV (o':=5) eV rfl rfl) rfl (aZ 9 rfl 10 7 rfl rfl rfl (fun w hw=>bA isAgg26 rfl ((aL hw 0).cell (Nat.zero_le _) (aK (hS.at_ 1 rfl) rfl))) rfl ?_)))));refine aJ 10 rfl (wM W2.heap.size a.fl a.fs) (Cw) (cN [isV _] rfl goes_50 (aS rfl) ⟨bT (aM 8 (aA rfl rfl rfl)),trivial⟩ (fun vs w' hb hh=>by
  have e:=bW (us:=[_]) hh;subst e;exact (Mi (hf.below (hS.below.trans (hb.mono hS.below.size))) hfl hfm).mono fun e w2 ⟨v,h1,h2,h3⟩=>by
   obtain ⟨a9,c9,e9⟩:=own_sl9 h3;subst e9;exact ⟨_,h1,⟨a9,c9,rfl,fun W2 hg=>Cg (fJ h3 (hg.mono hb.size))⟩,h2⟩) (aF rfl)) ?_
 refine aJ 11 rfl (Nh W2.heap.size S a.st a.sy a.fl a.fs) (Kd) (rgPs [(2,5,Jb W2.heap.size S),(4,7,isV _),(6,9,isV _),(9,12,wM W2.heap.size a.fl a.fs)] rfl ⟨⟨by kernel_rfl,aA rfl rfl rfl⟩,⟨by kernel_rfl,aA rfl rfl rfl⟩,⟨by kernel_rfl,aA rfl rfl rfl⟩,⟨by kernel_rfl,aA rfl rfl rfl⟩,trivial⟩ Wz (aF rfl)) (dI ?_);intro W3 hbR;clear hS;intro hS;refine aG (aG ?_);refine dF ?_;intro _ _;refine aG (aG (aG (aG (aG (aG ?_)))));refine dF ?_;intro _ _;refine dF ?_;rintro _ ⟨sq,fa9,fc9,rfl,hsq,hfq⟩;refine cM (aU (i:=0) (vs:=[_,_,_,_,_,_,_]) (cs':=[_,_,_,_,_,_,_]) (O':=[_,_]) hS sizeOf29 rfl rfl rfl rfl rfl rfl rfl fun W4 hS=>aP (XF.thenN (bL (XF.res (eE (vs:=[_,_,_,_,_,_,_]) results21 isAgg29 sizeOf29 rfl (aC.own (j:=0) (m:=7) (hS.at_ 0 rfl) rfl)) ?_))));exact ⟨sq,fa9,fc9,rfl,(fun W2 hg=>hsq W2 ((hS.since 0 rfl).trans (hg.mono hsz1))),(fun W2 hg=>hfq W2 ((hS.since 0 rfl).trans (hg.mono hsz1))),hS.below⟩
theorem mI.blk {b n:Nat} {f:TK→Option Nat} {W:World} (h:mI b n f W):∃ es clock,W.heap[b]?=some (.map es clock):=by obtain ⟨D,⟨es,clock,h1,h2⟩,h3⟩:=h;exact ⟨es,clock,h1⟩
theorem mI.kept {w0 W W':World} {O:Own} {G:cV} {K:List (Nat×World)} {b n:Nat} {f:TK→Option Nat} (h:mI b n f W) (hS:St w0 O G K W') (hq:(b,oI W b)∈K):mI b n f W':=h.same fun hlt=>((hS.kept _ hq).1.2 b (Nat.le_refl _) (sP hlt)).trans (sQ hlt)
theorem vK_take {S:PS} {py:TV→PX} {ts:List TV} {i:Nat} {t:TV} (h:ts[i]?=some t) (k:TK):vK S py (ts.take (i+1)) k=if kyT t=k then (if nzX S (py t)=true then upO S (py t) (vK S py (ts.take i) k) else vK S py (ts.take i) k) else vK S py (ts.take i) k:=by unfold vK;rw [List.take_add_one,h,List.foldl_append];rfl
theorem P3 {A:List (TK×PX)}:A.Pairwise (fun p q=>p.1≠q.1)↔(A.map (·.1)).Pairwise (· ≠ ·):=List.pairwise_map.symm
theorem Ex {A:List (TK×PX)} {j:Nat} {p:TK×PX} {x:PX} (h:A[j]?=some p):(A.set j (p.1,x)).map (·.1)=A.map (·.1):=by
 rw [List.map_set];apply List.ext_getElem?;intro k;rw [List.getElem?_set];by_cases hk:j=k
 ·subst hk;rw [if_pos rfl,List.getElem?_map,h,if_pos (by rw [List.length_map];exact (List.getElem?_eq_some_iff.1 h).1)];rfl
 ·rw [if_neg hk]
theorem setA_at {x:PX}:∀ {A:List (TK×PX)} {j:Nat} {p:TK×PX},A.Pairwise (fun p q=>p.1≠q.1)→A[j]?=some p→∀ k,atK (A.set j (p.1,x)) k=if p.1=k then some x else atK A k
 | [],j,p,_,h,k=>by simp at h
 | q::A,0,p,hne,h,k=>by
  obtain rfl:q=p:=Option.some.inj h;show atK ((q.1,x)::A) k=_;rw [gO,gO];by_cases hk:q.1=k
  ·rw [if_pos hk,if_pos hk]
  ·rw [if_neg hk,if_neg hk,if_neg hk]
 | q::A,j+1,p,hne,h,k=>by
  obtain ⟨h1,h2⟩:=List.pairwise_cons.1 hne;have hp:A[j]?=some p:=by simpa using h
  show atK (q::A.set j (p.1,x)) k=_;rw [gO,gO,setA_at h2 hp k];by_cases hq:q.1=k
  ·rw [if_pos hq,if_pos hq,if_neg (fun e=>h1 p (List.mem_of_getElem? hp) (hq.trans e.symm))]
  ·rw [if_neg hq,if_neg hq]
theorem setA_fk {A:List (TK×PX)} {j:Nat} {p:TK×PX} {x:PX} (h:A[j]?=some p) (i:Nat) (k:TK):(∃ r,(A.set j (p.1,x))[i]?=some r∧r.1=k)↔∃ r,A[i]?=some r∧r.1=k:=by
 have key:∀ B:List (TK×PX),(∃ p,B[i]?=some p∧p.1=k)↔(B.map (·.1))[i]?=some k:=fun B=>by
  rw [List.getElem?_map];constructor
  ·rintro ⟨p,hp,rfl⟩;rw [hp];rfl
  ·intro h9;obtain ⟨p,hp,e⟩:=Option.map_eq_some_iff.1 h9;exact ⟨p,hp,e⟩
 rw [key,key A,Ex h]
theorem goes_54:bJ prog 54=true:=by kernel_rfl
theorem Ha:bJ prog 55=true:=by kernel_rfl
theorem P4 (f1 g1 t1 f2 g2 t2:Int) (x1 x2:WF) (w:World) :
  Calls prog 26 #[.agg #[.int .i64 f1,.int .i64 g1,.int .i64 t1,.bool x1.z,.int .i64 x1.c,.int .u64 (x1.g:Int),.slice x1.ra x1.rl x1.rc,.slice x1.ca x1.cl x1.cc,.slice x1.pa x1.pl x1.pc],.agg #[.int .i64 f2,.int .i64 g2,.int .i64 t2,.bool x2.z,.int .i64 x2.c,.int .u64 (x2.g:Int),.slice x2.ra x2.rl x2.rc,.slice x2.ca x2.cl x2.cc,.slice x2.pa x2.pl x2.pc]] w (fun e w'=>e = .returned (.int .i64 (Cv (f1,g1,t1) (f2,g2,t2)))∧Up w w'):=by
 refine cG (args:=[.agg #[.int .i64 f1,.int .i64 g1,.int .i64 t1,.bool x1.z,.int .i64 x1.c,.int .u64 (x1.g:Int),.slice x1.ra x1.rl x1.rc,.slice x1.ca x1.cl x1.cc,.slice x1.pa x1.pl x1.pc],.agg #[.int .i64 f2,.int .i64 g2,.int .i64 t2,.bool x2.z,.int .i64 x2.c,.int .u64 (x2.g:Int),.slice x2.ra x2.rl x2.rc,.slice x2.ca x2.cl x2.cc,.slice x2.pa x2.pl x2.pc]]) func26 rfl ntmps26 rfl ?_;have hS:=St.start w;refine aO (aQ (P0 (cs:=[_,_,_,_,_,_,_,_,_]) hS rfl rfl rfl fun B1 W1 hU1 hS=>P0 (cs:=[_,_,_,_,_,_,_,_,_]) hS rfl rfl rfl fun B2 W2 hU2 hS=>aB rfl rfl (aP (XF.thenN (aO (regBU (m:=18) cC hS (by kernel_rfl) (by kernel_rfl) rfl (Ew 1 rfl 2 rfl (by kernel_rfl) rfl (fun w hw=>aV (o':=0) jI rfl rfl) rfl (Ci 2 rfl 5 0 rfl (by kernel_rfl) rfl rfl (fun w hw=>bA isAgg3 rfl ((aL hw 0).cell (Nat.zero_le _) (aK (hS.at_ 1 rfl) rfl))) rfl (Ew 3 rfl 3 rfl (by kernel_rfl) rfl (fun w hw=>aV (o':=0) jI rfl rfl) rfl (Ci 4 rfl 7 2 rfl (by kernel_rfl) rfl rfl (fun w hw=>bA isAgg3 rfl ((aL hw 0).cell (Nat.zero_le _) (aK (hS.at_ 0 rfl) rfl))) rfl ?_))))))))));refine nM 5 rfl (isV (.int .i64 (nK f1 f2))) (aE _) (rguC [isV _,isV _] rfl Ha (aS rfl) ⟨bT (aM 1 (aA rfl rfl rfl)),bT (aM 3 (aA rfl rfl rfl)),trivial⟩ (fun vs w9 hb9 hh=>by have e9:=bW (us:=[_,_]) hh;subst e9;exact (xN _ _ w9).mono fun e w2 h=>⟨_,h.1,rfl,by rw [h.2];exact Up.refl _⟩) (aF rfl)) ?_;refine Ew 6 rfl 2 rfl (by kernel_rfl) rfl (fun w hw=>aV (o':=1) iF rfl rfl) rfl (Ci 7 rfl 10 5 rfl (by kernel_rfl) rfl rfl (fun w hw=>bA isAgg3 rfl ((aL hw 0).cell (Nat.zero_le _) (aK (hS.at_ 1 rfl) rfl))) rfl (Ew 8 rfl 3 rfl (by kernel_rfl) rfl (fun w hw=>aV (o':=1) iF rfl rfl) rfl (Ci 9 rfl 12 7 rfl (by kernel_rfl) rfl rfl (fun w hw=>bA isAgg3 rfl ((aL hw 0).cell (Nat.zero_le _) (aK (hS.at_ 0 rfl) rfl))) rfl ?_)));refine nM 10 rfl (isV (.int .i64 (nK g1 g2))) (aE _) (rguC [isV _,isV _] rfl Ha (aS rfl) ⟨bT (aM 6 (aA rfl rfl rfl)),bT (aM 8 (aA rfl rfl rfl)),trivial⟩ (fun vs w9 hb9 hh=>by have e9:=bW (us:=[_,_]) hh;subst e9;exact (xN _ _ w9).mono fun e w2 h=>⟨_,h.1,rfl,by rw [h.2];exact Up.refl _⟩) (aF rfl)) ?_;refine Ew 11 rfl 2 rfl (by kernel_rfl) rfl (fun w hw=>aV (o':=2) iG rfl rfl) rfl (Ci 12 rfl 15 10 rfl (by kernel_rfl) rfl rfl (fun w hw=>bA isAgg3 rfl ((aL hw 0).cell (Nat.zero_le _) (aK (hS.at_ 1 rfl) rfl))) rfl (Ew 13 rfl 3 rfl (by kernel_rfl) rfl (fun w hw=>aV (o':=2) iG rfl rfl) rfl (Ci 14 rfl 17 12 rfl (by kernel_rfl) rfl rfl (fun w hw=>bA isAgg3 rfl ((aL hw 0).cell (Nat.zero_le _) (aK (hS.at_ 0 rfl) rfl))) rfl ?_)));refine nM 15 rfl (isV (.int .i64 (nK t1 t2))) (aE _) (rguC [isV _,isV _] rfl Ha (aS rfl) ⟨bT (aM 11 (aA rfl rfl rfl)),bT (aM 13 (aA rfl rfl rfl)),trivial⟩ (fun vs w9 hb9 hh=>by have e9:=bW (us:=[_,_]) hh;subst e9;exact (xN _ _ w9).mono fun e w2 h=>⟨_,h.1,rfl,by rw [h.2];exact Up.refl _⟩) (aF rfl)) ?_;refine nM 16 rfl (oV W2.heap.size 3 3 _) (tX) (rguRowV (us:=[.int .i64 _,.int .i64 _,.int .i64 _]) rfl (aS rfl) underlying26 sizeOf3 zeroValue3 rfl rfl ⟨bT (aM 4 (aA rfl rfl rfl)),bT (aM 9 (aA rfl rfl rfl)),bT (aM 14 (aA rfl rfl rfl)),trivial⟩ (bs_26_3 _ _ _) (aF rfl)) ?_;refine nM 17 rfl (isV (.int .i64 (Cv (f1,g1,t1) (f2,g2,t2)))) (aE _) (rguC [oV W2.heap.size 3 3 [.int .i64 (nK f1 f2),.int .i64 (nK g1 g2),.int .i64 (nK t1 t2)]] rfl goes_54 (aS rfl) ⟨bT (aM 15 (aA rfl rfl rfl)),trivial⟩ (fun vs w9 hb9 hh=>by
  obtain ⟨v,rfl,B9,rfl,hB9,hc9⟩:=holds1 hh;exact (or_x _ 3 3 [nK f1 f2,nK g1 g2,nK t1 t2] w9 (row_of3 hc9) rfl (by decide)).mono fun e w2 h=>⟨_,h.1,rint9 (ordK_or (f1,g1,t1) (f2,g2,t2)),by rw [h.2];exact Up.refl _⟩) (aF rfl)) ?_
 refine Ci 18 rfl 21 16 rfl (by kernel_rfl) rfl rfl (fun w hw=>fU rfl) rfl (blu_nil ?_);intro W3 hU3;clear hS;intro hS;refine aG (aG (aG (aG (aG (aG (aG (aG (aG (aG (aG (aG (aG (aG (aG ?_))))))))))))));refine dF ?_;rintro _ ⟨B1_15,rfl,hlo1_15,hrow1_15⟩;refine aG (aG (cM (XF.thenN (bL (XF.res (cI results26 rfl) ?_)))));exact ⟨rfl,(hU1.trans hU2).trans hU3⟩
theorem goes_26:bJ prog 26=true:=by kernel_rfl
theorem goes_32:bJ prog 32=true:=by kernel_rfl
theorem goes_35:bJ prog 35=true:=by kernel_rfl
theorem goes_36:bJ prog 36=true:=by kernel_rfl
theorem order_b (f1 g1 t1 f2 g2 t2:Int) (x1 x2:WF) (w:World):Calls prog 26 #[.agg #[.int .i64 f1,.int .i64 g1,.int .i64 t1,.bool x1.z,.int .i64 x1.c,.int .u64 (x1.g:Int),.slice x1.ra x1.rl x1.rc,.slice x1.ca x1.cl x1.cc,.slice x1.pa x1.pl x1.pc],.agg #[.int .i64 f2,.int .i64 g2,.int .i64 t2,.bool x2.z,.int .i64 x2.c,.int .u64 (x2.g:Int),.slice x2.ra x2.rl x2.rc,.slice x2.ca x2.cl x2.cc,.slice x2.pa x2.pl x2.pc]] w (fun e w'=>e = .returned (.int .i64 (Cv (f1,g1,t1) (f2,g2,t2)))∧Below w.heap.size w w'):=(P4 f1 g1 t1 f2 g2 t2 x1 x2 w).mono fun e w' h=>⟨h.1,h.2.1⟩
theorem S1 (k:Nat) (f1 g1 t1 f2 g2 t2:Int) (x1 x2:WV) (w:World) (hx1:WIn w k x1) (hx2:WIn w k x2) (m1:mxN k x1=true) (m2:mxN k x2=true) :
  Calls prog 32 #[.agg #[.int .i64 f1,.int .i64 g1,.int .i64 t1,.bool x1.f.z,.int .i64 x1.f.c,.int .u64 (x1.f.g:Int),.slice x1.f.ra x1.f.rl x1.f.rc,.slice x1.f.ca x1.f.cl x1.f.cc,.slice x1.f.pa x1.f.pl x1.f.pc],.agg #[.int .i64 f2,.int .i64 g2,.int .i64 t2,.bool x2.f.z,.int .i64 x2.f.c,.int .u64 (x2.f.g:Int),.slice x2.f.ra x2.f.rl x2.f.rc,.slice x2.f.ca x2.f.cl x2.f.cc,.slice x2.f.pa x2.f.pl x2.f.pc]] w (fun e w'=>e = .returned (.bool (eqT k ⟨f1,g1,t1,x1⟩ ⟨f2,g2,t2,x2⟩))∧Below w.heap.size w w'):=by
 refine cG (args:=[.agg #[.int .i64 f1,.int .i64 g1,.int .i64 t1,.bool x1.f.z,.int .i64 x1.f.c,.int .u64 (x1.f.g:Int),.slice x1.f.ra x1.f.rl x1.f.rc,.slice x1.f.ca x1.f.cl x1.f.cc,.slice x1.f.pa x1.f.pl x1.f.pc],.agg #[.int .i64 f2,.int .i64 g2,.int .i64 t2,.bool x2.f.z,.int .i64 x2.f.c,.int .u64 (x2.f.g:Int),.slice x2.f.ra x2.f.rl x2.f.rc,.slice x2.f.ca x2.f.cl x2.f.cc,.slice x2.f.pa x2.f.pl x2.f.pc]]) func32 rfl ntmps32 rfl ?_;have hS:=St.start w;refine aO (aQ (bY (cs:=[_,_,_,_,_,_,_,_,_]) hS rfl rfl rfl fun B1 W1 hS=>bY (cs:=[_,_,_,_,_,_,_,_,_]) hS rfl rfl rfl fun B2 W2 hS=>aB rfl rfl (aP (XF.thenN (aO (aQ (aT (vs:=[_,_,_,_,_,_,_,_,_]) isAgg48 sizeOf48 rfl (aC.own (j:=0) (m:=9) (hS.at_ 1 rfl) rfl) rfl (aT (vs:=[_,_,_,_,_,_,_,_,_]) isAgg48 sizeOf48 rfl (aC.own (j:=0) (m:=9) (hS.at_ 0 rfl) rfl) rfl (cH (vs:=[_,_]) hS goes_26 rfl (order_b f1 g1 t1 f2 g2 t2 x1.f x2.f _) rfl fun W3 hS=>cR rfl rfl rfl (aH rfl rfl (cB (d:=9) rfl (fun hc=>?_) (fun hc=>?_))))))))))))
 ·have hg9:=of_decide_eq_true hc;clear hc;refine aI (d:=9) rfl rfl (aN (o':=3) fS rfl rfl rfl (aI (d:=9) rfl rfl (aT (vs:=[_,_,_,_,_,_]) isAgg46 sizeOf46 rfl (aC.own (j:=3) (m:=6) (hS.at_ 1 rfl) rfl) rfl (aI (d:=9) rfl rfl (aN (o':=3) fS rfl rfl rfl (aI (d:=9) rfl rfl (aT (vs:=[_,_,_,_,_,_]) isAgg46 sizeOf46 rfl (aC.own (j:=3) (m:=6) (hS.at_ 0 rfl) rfl) rfl (aI (d:=9) rfl rfl (cH (vs:=[_,_]) hS yV rfl (Gh k k x1 x2 _ (hx1.below hS.below) (hx2.below hS.below) m1 m2) rfl fun W4 hS=>bC rfl rfl rfl (aB rfl rfl (aP (XF.thenN (bL (XF.res (cI results32 rfl) ?_))))))))))))));exact ⟨bG (by unfold eqT;dsimp only;rw [decide_eq_true ((Eu _ _).1 hg9)];rfl),hS.below⟩
 ·have hg9:=of_decide_eq_false hc;clear hc;refine aD (d:=9) rfl rfl rfl rfl (aD (d:=9) rfl rfl rfl rfl (aD (d:=9) rfl rfl rfl rfl (aD (d:=9) rfl rfl rfl rfl (aD (d:=9) rfl rfl rfl rfl (bR rfl rfl rfl (aB rfl rfl (aP (XF.thenN (bL (XF.res (cI results32 rfl) ?_))))))))));exact ⟨bG (by unfold eqT;dsimp only;rw [decide_eq_false (fun h=>hg9 ((Eu _ _).2 h))];rfl),hS.below⟩
theorem S2 (k:Nat) (ta tb:Option Addr) (tl tc ul uc:Nat) (ts us:List TV) (w:World) (htr:mQ w ta ts) (htl:ts.length=tl) (hur:mQ w tb us) (hul:us.length=ul) (hti:∀ t∈ts,WIn w k t.x) (hui:∀ t∈us,WIn w k t.x) (htc:∀ t∈ts,mxN k t.x=true) (huc:∀ t∈us,mxN k t.x=true) (htm:tl≤9223372036854775807) :
  Calls prog 36 #[.slice ta tl tc,.slice tb ul uc,.func (.func 32) #[] #[]] w (fun e w'=>e = .returned (.bool (qO k ts us))∧Below w.heap.size w w'):=by
 refine cG (args:=[.slice ta tl tc,.slice tb ul uc,.func (.func 32) #[] #[]]) func36 rfl ntmps36 rfl ?_;have hS:=St.start w;refine aO (aQ (aB rfl rfl (aP (XF.thenN (aO (aO (aQ (aH rfl rfl (cL underlying27 rfl rfl (aH rfl rfl (cL underlying27 rfl rfl (dG rfl rfl rfl (aP (XF.thenN (bB rfl (fun hc=>?_) (fun hc=>?_))))))))))))))))
 ·have hc14:=of_decide_eq_true hc;clear hc;refine aO (aQ (aB rfl rfl (aP (XF.thenN (bL (XF.thenR (XF.res (cI results36 rfl) ?_)))))));exact ⟨bG (by unfold qO;rw [decide_eq_false (show ¬ ts.length=us.length by omega)];rfl),hS.below⟩
 ·have hc14:=of_decide_eq_false hc;clear hc;refine bP (XF.thenN (aO (aO (aQ (aH rfl rfl (cL underlying27 rfl rfl (aH rfl rfl (aP (XF.thenN (bX (eJ (fun q l W=>∃ i:Nat,i≤tl∧q=tl - i∧l=[(1,.slice tb ul uc),(2,.func (.func 32) #[] #[]),(15,.slice ta tl tc),(16,.int .i64 (tl:Int)),(17,.int .i64 (i:Int))]∧((ts.zip us).take i).all (fun x=>eqT k x.1 x.2)=true∧St w [] [] [] W) (tl - 0) ([(1,_),(2,_),(15,_),(16,_),(17,_)]) ⟨rfl,rfl,rfl,rfl,rfl,trivial⟩ (⟨0,Nat.zero_le _,rfl,rfl,rfl,hS.clear⟩) ?_)))))))))));clear hS;rintro q l W ⟨i,hi,rfl,rfl,hall,hS⟩;refine aO (aQ (cT rfl rfl rfl (aP (XF.thenN (aO (bB rfl (fun hc=>?_) (fun hc=>?_)))))))
  ·have hc18:=of_decide_eq_true hc;clear hc;have hk:i < tl:=by omega
   obtain ⟨t,ht⟩:∃ t,ts[i]?=some t:=⟨ts[i]'(by omega),List.getElem?_eq_getElem _⟩;obtain ⟨u,hu⟩:∃ u,us[i]?=some u:=⟨us[i]'(by omega),List.getElem?_eq_getElem _⟩;have hzp:(ts.zip us)[i]?=some (t,u):=List.getElem?_zip_eq_some.2 ⟨ht,hu⟩;obtain ⟨b,off,rfl,h6⟩:=htr.at_ ht;obtain ⟨b2,off2,rfl,h7⟩:=hur.at_ hu;have hti9:=hti t (List.mem_of_getElem? ht);have hui9:=hui u (List.mem_of_getElem? hu);have htc9:=htc t (List.mem_of_getElem? ht);have huc9:=huc u (List.mem_of_getElem? hu);obtain ⟨f1,g1,t1,x1⟩:=t;obtain ⟨f2,g2,t2,x2⟩:=u;dsimp only [TV.nine] at h6 h7;dsimp only at hti9 hui9 htc9 huc9;have k1:=aC.agree hS.agree (Nat.zero_le _) h6;have k2:=aC.agree hS.agree (Nat.zero_le _) h7;refine bP (XF.thenN (aO (bX (aO (aQ (aH rfl rfl (cK  underlying27 sizeOf48 rfl rfl rfl (by omega) rfl rfl (aT (vs:=[_,_,_,_,_,_,_,_,_]) isAgg48 sizeOf48 rfl (k1) rfl (bF (cs:=[_,_,_,_,_,_,_,_,_]) hS zeroValue48 rfl rfl fun B1 W1 hS=>aB rfl rfl (aU (i:=0) (vs:=[_,_,_,_,_,_,_,_,_]) (cs':=[_,_,_,_,_,_,_,_,_]) (O':=[_]) hS sizeOf48 rfl rfl rfl rfl rfl rfl rfl fun W2 hS=>aP (XF.thenN (aO ?_))))))))))));clear k2;have k2:=aC.agree hS.agree (Nat.zero_le _) h7;refine aQ (aH rfl rfl (aH rfl rfl (cK  underlying27 sizeOf48 rfl rfl rfl (by omega) rfl rfl (aT (vs:=[_,_,_,_,_,_,_,_,_]) isAgg48 sizeOf48 rfl (k2) rfl (bF (cs:=[_,_,_,_,_,_,_,_,_]) hS zeroValue48 rfl rfl fun B3 W3 hS=>aU (i:=0) (vs:=[_,_,_,_,_,_,_,_,_]) (cs':=[_,_,_,_,_,_,_,_,_]) (O':=[_,_]) hS sizeOf48 rfl rfl rfl rfl rfl rfl rfl fun W4 hS=>aP (XF.thenN (aO (aQ (aH rfl rfl (aT (vs:=[_,_,_,_,_,_,_,_,_]) isAgg48 sizeOf48 rfl (aC.own (j:=0) (m:=9) (hS.at_ 1 rfl) rfl) rfl (aT (vs:=[_,_,_,_,_,_,_,_,_]) isAgg48 sizeOf48 rfl (aC.own (j:=0) (m:=9) (hS.at_ 0 rfl) rfl) rfl (Az (vs:=[_,_]) hS rfl goes_32 rfl (S1 k f1 g1 t1 f2 g2 t2 x1 x2 _ (hti9.below hS.below) (hui9.below hS.below) htc9 huc9) rfl ?_))))))))))));rintro e W5 ⟨rfl,hb⟩;refine ⟨_,rfl,hb,?_⟩;clear hS;intro hS;clear hb;refine fB rfl rfl (aP (XF.thenN (bB rfl (fun hc=>?_) (fun hc=>?_))))
   ·have hc30:=hc;clear hc;refine aO (aQ (aB rfl rfl (aP (XF.thenN (bL (XF.blkR (XF.thenR (XF.thenR (XF.blkR (XF.thenR (XF.res (cI results36 rfl) ?_)))))))))));exact ⟨bG (by unfold qO;rw [cW hzp (by simpa using hc30)];simp),hS.below⟩
   ·have hc30:=hc;clear hc;refine bP (XF.blkN (XF.thenN (aQ (cY rfl rfl (IntWalk.i64_in _ (by omega)) rfl (aH rfl rfl (aP ?_))))));exact XF.round (tl - (i+1)) [(1,_),(2,_),(15,_),(16,_),(17,_)] (by omega) ⟨rfl,rfl,rfl,rfl,rfl,trivial⟩ ⟨i+1,by omega,rfl,rfl,eX hzp hall (by simpa using hc30),hS.tail.tail.clear⟩
  ·have hc18:=of_decide_eq_false hc;clear hc;refine dT (XF.thenX (XF.thenX (XF.blkX (XF.thenN (aO (aQ (aB rfl rfl (aP (XF.thenN (bL (XF.res (cI results36 rfl) ?_)))))))))));rw [List.take_of_length_le (by rw [List.length_zip];omega)] at hall;exact ⟨bG (by unfold qO;rw [hall,decide_eq_true (show ts.length=us.length by omega)];rfl),hS.below⟩
theorem sameA_c (k:Nat) (s s2:SV) (st sy st2 sy2:Int) (fa fb:Option Addr) (fl fc gl gc:Nat) (fs gs:List Int) (ta tb:Option Addr) (tl tc ul uc:Nat) (ts us:List TV) (w:World) (h1:AIn w k k ⟨s,st,sy,fa,fl,fc,fs,ta,tl,tc,ts⟩) (h2:AIn w k k ⟨s2,st2,sy2,fb,gl,gc,gs,tb,ul,uc,us⟩) (c1:ACap k ⟨s,st,sy,fa,fl,fc,fs,ta,tl,tc,ts⟩) (c2:ACap k ⟨s2,st2,sy2,fb,gl,gc,gs,tb,ul,uc,us⟩) :
  Calls prog 11 #[.agg #[.int .i64 s.f.tag,.int .i64 s.f.dim,.slice s.f.a s.f.len s.f.cap,.int .i64 st,.int .i64 sy,.slice fa fl fc,.slice ta tl tc],.agg #[.int .i64 s2.f.tag,.int .i64 s2.f.dim,.slice s2.f.a s2.f.len s2.f.cap,.int .i64 st2,.int .i64 sy2,.slice fb gl gc,.slice tb ul uc]] w (fun e w'=>e = .returned (.bool (mC k ⟨s,st,sy,fa,fl,fc,fs,ta,tl,tc,ts⟩ ⟨s2,st2,sy2,fb,gl,gc,gs,tb,ul,uc,us⟩))∧Below w.heap.size w w'):=by
 refine cG (args:=[.agg #[.int .i64 s.f.tag,.int .i64 s.f.dim,.slice s.f.a s.f.len s.f.cap,.int .i64 st,.int .i64 sy,.slice fa fl fc,.slice ta tl tc],.agg #[.int .i64 s2.f.tag,.int .i64 s2.f.dim,.slice s2.f.a s2.f.len s2.f.cap,.int .i64 st2,.int .i64 sy2,.slice fb gl gc,.slice tb ul uc]]) func11 rfl ntmps11 rfl ?_;have hS:=St.start w;have hs:SIn w k s:=h1.s;have hs2:SIn w k s2:=h2.s;have hcs:mxS k s=true:=c1.s;have hfr:Row w fa fs:=h1.frow;have hfl:fs.length=fl:=h1.flen;have hgr:Row w fb gs:=h2.frow;have hgl:gs.length=gl:=h2.flen;have htr:mQ w ta ts:=h1.trow;have htl:ts.length=tl:=h1.tlen;have hur:mQ w tb us:=h2.trow;have hul:us.length=ul:=h2.tlen;have hti:∀ t∈ts,WIn w k t.x:=h1.tin;have hui:∀ t∈us,WIn w k t.x:=h2.tin;have htc:∀ t∈ts,mxN k t.x=true:=c1.t;have huc:∀ t∈us,mxN k t.x=true:=c2.t;have hfm:fl≤9223372036854775807:=h1.fmax;have htm:tl≤9223372036854775807:=h1.tmax;clear h1 h2 c1 c2;refine aO (aQ (bY (cs:=[_,_,_,_,_,_,_]) hS rfl rfl rfl fun B1 W1 hS=>bY (cs:=[_,_,_,_,_,_,_]) hS rfl rfl rfl fun B2 W2 hS=>aB rfl rfl (aP (XF.thenN (aO (aQ (aB rfl rfl (aP (XF.thenN (aO (aQ (aN (o':=0) iQ rfl rfl rfl (aT (vs:=[_,_,_]) isAgg25 sizeOf25 rfl (aC.own (j:=0) (m:=3) (hS.at_ 1 rfl) rfl) rfl (aN (o':=0) iQ rfl rfl rfl (aT (vs:=[_,_,_]) isAgg25 sizeOf25 rfl (aC.own (j:=0) (m:=3) (hS.at_ 0 rfl) rfl) rfl (cH (vs:=[_,_]) hS Nz rfl (yA k k s s2 _ (SIn.below hS.below hs) (SIn.below hS.below hs2) hcs) rfl fun W3 hS=>aH rfl rfl (cB (d:=11) rfl (fun hc=>?_) (fun hc=>?_))))))))))))))))))
 ·have hg11:=hc;clear hc;refine aI (d:=11) rfl rfl (aN (o':=3) iH rfl rfl rfl (aI (d:=11) rfl rfl (aR isAgg3 rfl (aK (hS.at_ 1 rfl) rfl) rfl (aI (d:=11) rfl rfl (aN (o':=3) iH rfl rfl rfl (aI (d:=11) rfl rfl (aR isAgg3 rfl (aK (hS.at_ 0 rfl) rfl) rfl (aI (d:=11) rfl rfl (cR rfl rfl rfl (bC rfl rfl rfl (aH rfl rfl (cB (d:=18) rfl (fun hc=>?_) (fun hc=>?_)))))))))))))
  ·have hg18:=of_decide_eq_true hc;clear hc;refine aI (d:=18) rfl rfl (aN (o':=4) jJ rfl rfl rfl (aI (d:=18) rfl rfl (aR isAgg3 rfl (aK (hS.at_ 1 rfl) rfl) rfl (aI (d:=18) rfl rfl (aN (o':=4) jJ rfl rfl rfl (aI (d:=18) rfl rfl (aR isAgg3 rfl (aK (hS.at_ 0 rfl) rfl) rfl (aI (d:=18) rfl rfl (cR rfl rfl rfl (bC rfl rfl rfl (aH rfl rfl (cB (d:=25) rfl (fun hc=>?_) (fun hc=>?_)))))))))))))
   ·have hg25:=of_decide_eq_true hc;clear hc;refine aI (d:=25) rfl rfl (aN (o':=5) eV rfl rfl rfl (aI (d:=25) rfl rfl (aR isAgg26 rfl (aK (hS.at_ 1 rfl) rfl) rfl (aI (d:=25) rfl rfl (aN (o':=5) eV rfl rfl rfl (aI (d:=25) rfl rfl (aR isAgg26 rfl (aK (hS.at_ 0 rfl) rfl) rfl (aI (d:=25) rfl rfl (cH (vs:=[_,_]) hS goes_35 rfl (R9 fa fb fl fc gl gc fs gs _ (hfr.below hS.below) hfl (hgr.below hS.below) hgl hfm) rfl fun W4 hS=>bC rfl rfl rfl (aH rfl rfl (cB (d:=32) rfl (fun hc=>?_) (fun hc=>?_))))))))))))
    ·have hg32:=hc;clear hc;refine aI (d:=32) rfl rfl (aN (o':=6) dB rfl rfl rfl (aI (d:=32) rfl rfl (aR isAgg27 rfl (aK (hS.at_ 1 rfl) rfl) rfl (aI (d:=32) rfl rfl (aN (o':=6) dB rfl rfl rfl (aI (d:=32) rfl rfl (aR isAgg27 rfl (aK (hS.at_ 0 rfl) rfl) rfl (aI (d:=32) rfl rfl (aH rfl rfl (aI (d:=32) rfl rfl (cH (vs:=[_,_,_]) hS goes_36 rfl (S2 k ta tb tl tc ul uc ts us _ (htr.below hS.below) htl (hur.below hS.below) hul (fun t ht=>(hti t ht).below hS.below) (fun t ht=>(hui t ht).below hS.below) htc huc htm) rfl fun W5 hS=>bC rfl rfl rfl (aB rfl rfl (aP (XF.thenN (bL (XF.res (cI results11 rfl) ?_))))))))))))))));exact ⟨bG (by unfold mC;dsimp only;rw [show eqS k s s2=true from hg11,decide_eq_true (show st=st2 by omega),decide_eq_true (show sy=sy2 by omega),show decide (fs=gs)=true from hg32];rfl),hS.below⟩
    ·have hg32:=hc;clear hc;refine aD (d:=32) rfl rfl rfl rfl (aD (d:=32) rfl rfl rfl rfl (aD (d:=32) rfl rfl rfl rfl (aD (d:=32) rfl rfl rfl rfl (aD (d:=32) rfl rfl rfl rfl (aD (d:=32) rfl rfl rfl rfl (bR rfl rfl rfl (aB rfl rfl (aP (XF.thenN (bL (XF.res (cI results11 rfl) ?_)))))))))));exact ⟨bG (by unfold mC;dsimp only;rw [show decide (fs=gs)=false by simpa using hg32];simp),hS.below⟩
   ·have hg25:=of_decide_eq_false hc;clear hc;refine aD (d:=25) rfl rfl rfl rfl (aD (d:=25) rfl rfl rfl rfl (aD (d:=25) rfl rfl rfl rfl (aD (d:=25) rfl rfl rfl rfl (aD (d:=25) rfl rfl rfl rfl (bR rfl rfl rfl (aH rfl rfl (aD (d:=32) rfl rfl rfl rfl (aD (d:=32) rfl rfl rfl rfl (aD (d:=32) rfl rfl rfl rfl (aD (d:=32) rfl rfl rfl rfl (aD (d:=32) rfl rfl rfl rfl (aD (d:=32) rfl rfl rfl rfl (bR rfl rfl rfl (aB rfl rfl (aP (XF.thenN (bL (XF.res (cI results11 rfl) ?_))))))))))))))))));exact ⟨bG (by unfold mC;dsimp only;rw [decide_eq_false (show ¬ sy=sy2 by omega)];simp),hS.below⟩
  ·have hg18:=of_decide_eq_false hc;clear hc;refine aD (d:=18) rfl rfl rfl rfl (aD (d:=18) rfl rfl rfl rfl (aD (d:=18) rfl rfl rfl rfl (aD (d:=18) rfl rfl rfl rfl (aD (d:=18) rfl rfl rfl rfl (bR rfl rfl rfl (aH rfl rfl (aD (d:=25) rfl rfl rfl rfl (aD (d:=25) rfl rfl rfl rfl (aD (d:=25) rfl rfl rfl rfl (aD (d:=25) rfl rfl rfl rfl (aD (d:=25) rfl rfl rfl rfl (bR rfl rfl rfl (aH rfl rfl (aD (d:=32) rfl rfl rfl rfl (aD (d:=32) rfl rfl rfl rfl (aD (d:=32) rfl rfl rfl rfl (aD (d:=32) rfl rfl rfl rfl (aD (d:=32) rfl rfl rfl rfl (aD (d:=32) rfl rfl rfl rfl (bR rfl rfl rfl (aB rfl rfl (aP (XF.thenN (bL (XF.res (cI results11 rfl) ?_)))))))))))))))))))))))));exact ⟨bG (by unfold mC;dsimp only;rw [decide_eq_false (show ¬ st=st2 by omega)];simp),hS.below⟩
 ·have hg11:=hc;clear hc;refine aD (d:=11) rfl rfl rfl rfl (aD (d:=11) rfl rfl rfl rfl (aD (d:=11) rfl rfl rfl rfl (aD (d:=11) rfl rfl rfl rfl (aD (d:=11) rfl rfl rfl rfl (bR rfl rfl rfl (aH rfl rfl (aD (d:=18) rfl rfl rfl rfl (aD (d:=18) rfl rfl rfl rfl (aD (d:=18) rfl rfl rfl rfl (aD (d:=18) rfl rfl rfl rfl (aD (d:=18) rfl rfl rfl rfl (bR rfl rfl rfl (aH rfl rfl (aD (d:=25) rfl rfl rfl rfl (aD (d:=25) rfl rfl rfl rfl (aD (d:=25) rfl rfl rfl rfl (aD (d:=25) rfl rfl rfl rfl (aD (d:=25) rfl rfl rfl rfl (bR rfl rfl rfl (aH rfl rfl (aD (d:=32) rfl rfl rfl rfl (aD (d:=32) rfl rfl rfl rfl (aD (d:=32) rfl rfl rfl rfl (aD (d:=32) rfl rfl rfl rfl (aD (d:=32) rfl rfl rfl rfl (aD (d:=32) rfl rfl rfl rfl (bR rfl rfl rfl (aB rfl rfl (aP (XF.thenN (bL (XF.res (cI results11 rfl) ?_))))))))))))))))))))))))))))))));exact ⟨bG (by unfold mC;dsimp only;rw [show eqS k s s2=false by simpa using hg11];simp),hS.below⟩
theorem P5:bJ prog 27=true:=by kernel_rfl
theorem goes_29:bJ prog 29=true:=by kernel_rfl
theorem Xa (ds d:Nat) (s:SV) (st sy:Int) (fa:Option Addr) (fl fc:Nat) (fs:List Int) (ta:Option Addr) (tl tc:Nat) (ts:List TV) (w:World) (hin:AIn w ds d ⟨s,st,sy,fa,fl,fc,fs,ta,tl,tc,ts⟩) (S:PS) (py:TV→PX) (n:Nat) (hAx:dJ ⟨s,st,sy,fa,fl,fc,fs,ta,tl,tc,ts⟩=0→AutoOk w S py n ⟨s,st,sy,fa,fl,fc,fs,ta,tl,tc,ts⟩) :
  Calls prog 9 #[.agg #[.int .i64 s.f.tag,.int .i64 s.f.dim,.slice s.f.a s.f.len s.f.cap,.int .i64 st,.int .i64 sy,.slice fa fl fc,.slice ta tl tc]] w (Wr S py ⟨s,st,sy,fa,fl,fc,fs,ta,tl,tc,ts⟩ w):=by
 refine cG (args:=[.agg #[.int .i64 s.f.tag,.int .i64 s.f.dim,.slice s.f.a s.f.len s.f.cap,.int .i64 st,.int .i64 sy,.slice fa fl fc,.slice ta tl tc]]) func9 rfl ntmps9 rfl ?_;have hS:=St.start w;have htrow:mQ w ta ts:=hin.trow;have htlen:ts.length=tl:=hin.tlen;have hfrow:Row w fa fs:=hin.frow;have hflen:fs.length=fl:=hin.flen;refine aO (aQ (bY (cs:=[_,_,_,_,_,_,_]) hS rfl rfl rfl fun B1 W1 hS=>bF (cs:=[_,_,_,_,_,_,_]) hS zeroValue29 rfl rfl fun B2 W2 hS=>aB rfl rfl (aP (XF.thenN (aO (aQ (aT (vs:=[_,_,_,_,_,_,_]) isAgg29 sizeOf29 rfl (aC.own (j:=0) (m:=7) (hS.at_ 1 rfl) rfl) rfl (cH (vs:=[_]) hS Vy rfl (Je ds d ⟨s,st,sy,fa,fl,fc,fs,ta,tl,tc,ts⟩ _ (hin.below hS.below)) rfl fun W3 hS=>aB rfl rfl (aP (XF.thenN (aO (aO (aQ (aH rfl rfl (dG rfl rfl rfl (aP (XF.thenN (bB rfl (fun hc=>?_) (fun hc=>?_)))))))))))))))))))
 ·have hc14:=of_decide_eq_true hc;clear hc;refine aO (aQ (dY (us:=[]) rfl (Wv) rfl (aH rfl rfl ?_)));refine aU (i:=0) (vs:=[_,_,_,_,_,_,_]) (cs':=[_,_,_,_,_,_,_]) (O':=[_,_]) hS sizeOf29 rfl rfl (by first | rfl | (have h0:=hS.oneV 0 _ rfl;have h1:=hS.oneV 1 _ rfl;simp only [List.all_cons,List.all_nil,Bool.and_true,Bool.and_eq_true];exact ⟨rfl,rfl,rfl,rfl,rfl,h0,h1⟩)) rfl rfl rfl rfl fun W4 hS=>?_
  refine aB rfl rfl (aP (XF.thenN (bL (XF.thenR (XF.res (rB (vs:=[_,_,_,_,_,_,_]) results9 isAgg29 sizeOf29 rfl (aC.own (j:=0) (m:=7) (hS.at_ 0 rfl) rfl) rfl) ?_)))));exact ⟨hS.below,.inl ⟨rfl,hc14⟩⟩
 ·have hc14:=of_decide_eq_false hc;clear hc;have hE:dJ ⟨s,st,sy,fa,fl,fc,fs,ta,tl,tc,ts⟩=0:=Decidable.of_not_not hc14;have hA:=hAx hE;have htl9:tl≤65536:=hA.tl;have hfin:=xM hE;have hfl4:=Cd hfin.1;have hfl5:fl≤4096:=by have h9:(fs.length:Int)≤max st 0:=hfl4;have h8:st≤4096:=hfin.2.2;omega
  refine bP (XF.thenN (aO (aQ (aB rfl rfl (aP (XF.thenN (aO (aO (aQ (aB rfl rfl (aP (XF.thenN (bX (eJ (fun m l W=>∃ (i:Nat) (v5:Value) (ls:List M9) (Kk:List (Nat×World)),i≤tl∧m=tl - i∧l=[(1,.pointer (some ⟨B1,0,none⟩)),(2,.pointer (some ⟨B2,0,none⟩)),(5,v5),(6,.int .i64 (i:Int))]∧iY (MB w Kk) S ls (gP S py (ts.take i))∧((ls=[]∧v5 = .slice none 0 0∧St w [(B2,[.int .i64 0,.int .i64 0,.slice none 0 0,.int .i64 0,.int .i64 0,.slice none 0 0,.slice none 0 0],29),(B1,[.int .i64 s.f.tag,.int .i64 s.f.dim,.slice s.f.a s.f.len s.f.cap,.int .i64 st,.int .i64 sy,.slice fa fl fc,.slice ta tl tc],29)] [] Kk W)∨(∃ (b5 c5:Nat) (cs5:List Value),v5 = .slice (some ⟨b5,0,none⟩) ls.length c5∧0 < ls.length∧ls.length≤c5∧St w [(b5,ls.flatMap M9.nine++cs5,48),(B2,[.int .i64 0,.int .i64 0,.slice none 0 0,.int .i64 0,.int .i64 0,.slice none 0 0,.slice none 0 0],29),(B1,[.int .i64 s.f.tag,.int .i64 s.f.dim,.slice s.f.a s.f.len s.f.cap,.int .i64 st,.int .i64 sy,.slice fa fl fc,.slice ta tl tc],29)] [] Kk W))) (tl - 0) ([(1,_),(2,_),(5,_),(6,_)]) ⟨rfl,rfl,rfl,rfl,trivial⟩ (⟨0,_,[],_,Nat.zero_le _,rfl,rfl,⟨rfl,XM.nil⟩,.inl ⟨rfl,rfl,hS⟩⟩) ?_))))))))))))));clear hS;rintro m l W ⟨i,v5,ls,Kk,hi,rfl,rfl,hsay,hst⟩;rcases hst with ⟨rfl,rfl,hS⟩ | ⟨b5,c5,cs5,rfl,hl5,hlc,hS⟩
  ·skip;refine aO (aO (aQ (aH rfl rfl (aN (o':=6) dB rfl rfl rfl (aR isAgg27 rfl (aK (hS.at_ 1 rfl) rfl) rfl (cL underlying27 rfl rfl (cT rfl rfl rfl (aP (XF.thenN (bB rfl (fun hc=>?_) (fun hc=>?_)))))))))))
   ·have hc21:=of_decide_eq_true hc;clear hc;have hk:i < tl:=by omega
    obtain ⟨r,hr⟩:∃ r,ts[i]?=some r:=⟨ts[i]'(by omega),by simp [show i < ts.length by omega]⟩;obtain ⟨b,off,rfl,hcs⟩:=htrow.at_ hr;have hpr:=hA.px r (List.mem_of_getElem? hr);obtain ⟨rf,rg,rt,rx⟩:=r;dsimp only at hpr;dsimp only [TV.nine] at hcs;have k1:=aC.agree hS.agree (Nat.zero_le _) hcs;refine bP (XF.thenN (aO (bX (aO (aQ (aN (o':=6) dB rfl rfl rfl (aR isAgg27 rfl (aK (hS.at_ 1 rfl) rfl) rfl (aH rfl rfl (cK  underlying27 sizeOf48 rfl rfl rfl (by omega) rfl rfl (aT (vs:=[_,_,_,_,_,_,_,_,_]) isAgg48 sizeOf48 rfl (k1) rfl (bF (cs:=[_,_,_,_,_,_,_,_,_]) hS zeroValue48 rfl rfl fun B5 W5 hS=>?_)))))))))));refine aU (i:=0) (vs:=[_,_,_,_,_,_,_,_,_]) (cs':=[_,_,_,_,_,_,_,_,_]) (O':=[_,_,_]) hS sizeOf48 rfl rfl (by first | rfl | (have h0:=hS.oneV 0 _ rfl;have h1:=hS.oneV 1 _ rfl;simp only [List.all_cons,List.all_nil,Bool.and_true,Bool.and_eq_true];exact ⟨rfl,rfl,rfl,rfl,rfl,h0,h1⟩)) rfl rfl rfl rfl fun W6 hS=>?_
    refine aP (XF.thenN (aO (aQ (aB rfl rfl (aP (XF.thenN (aO (bX (eJ (fun m l W=>l=[(1,.pointer (some ⟨B1,0,none⟩)),(2,.pointer (some ⟨B2,0,none⟩)),(5,.slice none 0 0),(6,.int .i64 (i:Int)),(7,.pointer (some ⟨B5,0,none⟩)),(8,.int .i64 0)]∧St w [(B5,[.int .i64 rf,.int .i64 rg,.int .i64 rt,.bool rx.f.z,.int .i64 rx.f.c,.int .u64 (rx.f.g:Int),.slice rx.f.ra rx.f.rl rx.f.rc,.slice rx.f.ca rx.f.cl rx.f.cc,.slice rx.f.pa rx.f.pl rx.f.pc],48),(B2,[.int .i64 0,.int .i64 0,.slice none 0 0,.int .i64 0,.int .i64 0,.slice none 0 0,.slice none 0 0],29),(B1,[.int .i64 s.f.tag,.int .i64 s.f.dim,.slice s.f.a s.f.len s.f.cap,.int .i64 st,.int .i64 sy,.slice fa fl fc,.slice (some ⟨b,off,none⟩) tl tc],29)] [] Kk W) (0) ([(1,_),(2,_),(5,_),(6,_),(7,_),(8,_)]) ⟨rfl,rfl,rfl,rfl,rfl,rfl,trivial⟩ (⟨rfl,hS⟩) ?_)))))))));clear hS;rintro m l W ⟨rfl,hS⟩;refine aO (aO (iX (m:=12) cC hS (by kernel_rfl) (by kernel_rfl) rfl (cE 1 rfl 8 rfl rfl (fun w hw=>aW rfl) rfl (cE 2 rfl 5 rfl rfl (fun w hw=>aW rfl) rfl (aZ 3 rfl 30 1 rfl rfl rfl (fun w hw=>lF underlying27 rfl) rfl (aJ 4 rfl (isV (.bool false)) (aE _) (lG (li:=[(29,_),(31,_)]) rfl (aS rfl) ⟨aM 0 (aA rfl rfl rfl),aM 2 (aA rfl rfl rfl),trivial⟩ (fun w hw=>tU rfl rfl) (by simp) (aF rfl)) (aZ 5 rfl 32 3 rfl rfl rfl (fun w hw=>aW rfl) rfl (aJ 6 rfl (isV undef) (aE _) (bI rfl (bK 33 rfl (aA rfl rfl rfl) rfl) (aF rfl)) (aJ 7 rfl (isV undef) (aE _) (bI rfl (bK 33 rfl (aA rfl rfl rfl) rfl) (aF rfl)) (aJ 8 rfl (isV undef) (aE _) (bI rfl (bK 33 rfl (aA rfl rfl rfl) rfl) (aF rfl)) (aJ 9 rfl (isV undef) (aE _) (bI rfl (bK 33 rfl (aA rfl rfl rfl) rfl) (aF rfl)) (aJ 10 rfl (isV undef) (aE _) (bI rfl (bK 33 rfl (aA rfl rfl rfl) rfl) (aF rfl)) (aJ 11 rfl (isV undef) (aE _) (bI rfl (bK 33 rfl (aA rfl rfl rfl) rfl) (aF rfl)) (aZ 12 rfl 33 4 rfl rfl rfl (fun w hw=>eD rfl rfl) rfl (dI ?_)))))))))))))));intro W7 hbR;clear hS;intro hS;refine aG (aG (aG (aG (aG (aG (aG (aG (aG (aG (aG (aG (cM (XF.thenN (tI rfl (dT (XF.thenX (XF.thenX (XF.blkX (XF.thenN (aO (aO (iX (m:=13) cC hS (by kernel_rfl) (by kernel_rfl) rfl (cE 1 rfl 8 rfl rfl (fun w hw=>aW rfl) rfl (cE 2 rfl 5 rfl rfl (fun w hw=>aW rfl) rfl (aZ 3 rfl 44 1 rfl rfl rfl (fun w hw=>lF underlying27 rfl) rfl (aJ 4 rfl (isV (.bool false)) (aE _) (lG (li:=[(43,_),(45,_)]) rfl (aS rfl) ⟨aM 0 (aA rfl rfl rfl),aM 2 (aA rfl rfl rfl),trivial⟩ (fun w hw=>tU rfl rfl) (by simp) (aF rfl)) (aZ 5 rfl 46 3 rfl rfl rfl (fun w hw=>aW rfl) rfl (aJ 6 rfl (isV undef) (aE _) (bI rfl (bK 47 rfl (aA rfl rfl rfl) rfl) (aF rfl)) (aJ 7 rfl (isV undef) (aE _) (bI rfl (bK 47 rfl (aA rfl rfl rfl) rfl) (aF rfl)) (aJ 8 rfl (isV undef) (aE _) (bI rfl (bK 47 rfl (aA rfl rfl rfl) rfl) (aF rfl)) (aJ 9 rfl (isV undef) (aE _) (bI rfl (bK 47 rfl (aA rfl rfl rfl) rfl) (aF rfl)) (aJ 10 rfl (isV undef) (aE _) (bI rfl (bK 47 rfl (aA rfl rfl rfl) rfl) (aF rfl)) ?_))))))))))))))))))))))))))))))));refine aJ 11 rfl (isV undef) (aE _) (bI rfl (bK 47 rfl (aA rfl rfl rfl) rfl) (aF rfl)) (aJ 12 rfl (isV undef) (aE _) (bI rfl (bK 47 rfl (aA rfl rfl rfl) rfl) (aF rfl)) (aZ 13 rfl 47 4 rfl rfl rfl (fun w hw=>eD rfl rfl) rfl (dI ?_)));intro W8 hbR;clear hS;intro hS;refine aG (aG (aG (aG (aG (aG (aG (aG (aG (aG (aG (aG (aG (cM (XF.thenN (tI rfl (bP (XF.thenN (aO (aQ (mS hS underlying27 sizeOf48 rfl fun v9 W9 hS=>aH rfl rfl (aH rfl rfl (J3 underlying27 sizeOf48 rfl rfl rfl rfl ?_))))))))))))))))))))));refine gU (i:=0) (news:=[]) hS underlying27 nL rfl rfl (by show 0 < 9;decide) rfl rfl rfl rfl rfl (.inl ⟨rfl,rfl⟩) (rfl) (fun u hu=>by cases hu) (by dsimp only;simp only [maxLen];omega) (by dsimp only;show _ * 120≤_;omega) rfl fun v10 W10 hS=>?_
    refine aB rfl rfl (aP (XF.thenN (aO (aQ (aH rfl rfl (aT (vs:=[_,_,_,_,_,_,_,_,_]) isAgg48 sizeOf48 rfl (aC.own (j:=0) (m:=9) (hS.at_ 0 rfl) rfl) rfl (cX (us:=[(0,.agg (List.toArray [_,_,_,_,_,_,_,_,_]))]) hS underlying27 sizeOf48 zeroValue48 rfl rfl rfl (wL _ _ _ _ _ _ _ _ _) rfl fun B11 W11 hS=>?_)))))));refine jS (i:=0) (news:=[_,_,_,_,_,_,_,_,_]) hS underlying27 nL rfl rfl (by show 0 < 9;decide) rfl rfl rfl rfl rfl (aC.own (j:=0) (m:=9) (hS.at_ 0 rfl) rfl) rfl rfl (by dsimp only;simp only [maxLen];omega) (by dsimp only;show _ * 120≤_;omega) rfl fun v12 W12 hS=>?_
    refine aB rfl rfl (aP (XF.thenN (aQ (aH rfl rfl (aH rfl rfl (aH rfl rfl (kL (j:=0) underlying27 sizeOf48 rfl rfl rfl (Nat.le_refl _) rfl ?_)))))));intro ad9 hE9 hN9;obtain rfl:ad9=none:=hE9 rfl;refine gU (i:=0) (news:=[]) hS underlying27 nL rfl rfl (by show 0 < 9;decide) rfl rfl rfl rfl rfl (.inl ⟨rfl,rfl⟩) (rfl) (fun u hu=>by cases hu) (by dsimp only;simp only [maxLen];omega) (by dsimp only;show _ * 120≤_;omega) rfl fun v13 W13 hS=>?_
    refine aB rfl rfl (aP (XF.blkN (XF.thenN (aQ (aH rfl rfl (cY rfl rfl (IntWalk.i64_in _ (by omega)) rfl (aB rfl rfl (aP ?_))))))));have hS:=hS.tail.tail;obtain ⟨a9,c9,e9,hle9⟩:=fC (hS.row 0 rfl);dsimp only at e9 hle9;subst e9;obtain ⟨b9,cs9,rfl,hS9⟩:=hS.rowOwn (by omega);have hA0:gP S py (ts.take i)=[]:=by have h9:=hsay.len;exact List.eq_nil_of_length_eq_zero h9.symm
    exact XF.round (tl - (i+1)) [(1,_),(2,_),(5,_),(6,_)] (by omega) ⟨rfl,rfl,rfl,rfl,trivial⟩ ⟨i+1,_,[⟨rf,rg,rt,rx.f⟩],_,by omega,rfl,rfl,by rw [sY hr,hA0];exact ⟨rfl,XM.nil.app (hpr.far.mono fun W2 hW=>hW.1)⟩,.inr ⟨b9,c9,cs9,rfl,by simp,hle9,hS9.castO (by first | rfl | simp only [List.nil_append,List.append_nil,List.flatMap_cons,List.flatMap_nil])⟩⟩
   ·have hc21:=of_decide_eq_false hc;clear hc;rw [List.take_of_length_le (by omega)] at hsay;refine dT (XF.thenX (XF.thenX (XF.blkX (XF.thenN (aO (aQ (aN (o':=6) dB rfl rfl rfl (dK (i:=1) (cs':=[_,_,_,_,_,_,_]) (O':=[_,_]) hS sizeOf27 rfl rfl (by first | rfl | exact (hS.oneV 0 _ rfl :) | exact (hS.oneV 1 _ rfl :) | exact (hS.oneV 2 _ rfl :) | exact (hS.oneV 3 _ rfl :)) rfl rfl rfl rfl fun W14 hS=>aP (XF.thenN (aO (aO ?_)))))))))));have hS:=hS.newG 48 9;refine aQ (aB rfl rfl (aP (XF.thenN (bX (eJ (fun m l W=>l=[(1,.pointer (some ⟨B1,0,none⟩)),(2,.pointer (some ⟨B2,0,none⟩)),(5,.slice none 0 0),(10,.int .i64 0)]∧St w [(B2,[.int .i64 0,.int .i64 0,.slice none 0 0,.int .i64 0,.int .i64 0,.slice none 0 0,.slice none 0 0],29),(B1,[.int .i64 s.f.tag,.int .i64 s.f.dim,.slice s.f.a s.f.len s.f.cap,.int .i64 st,.int .i64 sy,.slice fa fl fc,.slice none 0 0],29)] [⟨.slice none 0 0,0,[],48,9⟩] Kk W) (0) ([(1,_),(2,_),(5,_),(10,_)]) ⟨rfl,rfl,rfl,rfl,trivial⟩ (⟨rfl,hS⟩) ?_)))));clear hS;rintro m l W ⟨rfl,hS⟩;refine aO (aO (aQ (aH rfl rfl (aH rfl rfl (cL underlying27 rfl rfl (cT rfl rfl rfl (aP (XF.thenN (bB rfl (fun hc=>absurd (of_decide_eq_true hc) (by simp)) (fun hc=>?_))))))))));have hc:=of_decide_eq_false hc;refine dT (XF.thenX (XF.thenX (XF.blkX (XF.thenN (aO (aQ (mS hS underlying26 sizeOf3 rfl fun v15 W15 hS=>aN (o':=5) eV rfl rfl rfl (aR isAgg26 rfl (aK (hS.at_ 1 rfl) rfl) rfl ?_))))))));refine gU (i:=0) (news:=fs.map (Value.int .i64)) hS underlying26 Eb rfl rfl (by show 0 < 1;decide) rfl rfl rfl rfl rfl (J8 (hfrow.below hS.below) hflen) (by show (fs.map _).length=fl * 1;rw [List.length_map,hflen,Nat.mul_one]) (fun u hu=>by obtain ⟨y,_,rfl⟩:=List.mem_map.1 hu;rfl) (by dsimp only;simp only [maxLen];omega) (by dsimp only;show _ * 8≤_;omega) rfl fun v16 W16 hS=>?_
    refine aN (o':=5) eV rfl rfl rfl (dK (i:=1) (cs':=[_,_,_,_,_,_,_]) (O':=[_,_]) hS sizeOf26 rfl rfl (by first | rfl | exact (hS.oneV 0 _ rfl :) | exact (hS.oneV 1 _ rfl :) | exact (hS.oneV 2 _ rfl :) | exact (hS.oneV 3 _ rfl :)) rfl rfl rfl rfl fun W17 hS=>aP (XF.thenN (aO (aQ (aT (vs:=[_,_,_,_,_,_,_]) isAgg29 sizeOf29 rfl (aC.own (j:=0) (m:=7) (hS.at_ 1 rfl) rfl) rfl ?_)))));refine aU (i:=0) (vs:=[_,_,_,_,_,_,_]) (cs':=[_,_,_,_,_,_,_]) (O':=[_,_]) hS sizeOf29 rfl rfl (by first | rfl | (have h0:=hS.oneV 0 _ rfl;have h1:=hS.oneV 1 _ rfl;simp only [List.all_cons,List.all_nil,Bool.and_true,Bool.and_eq_true];exact ⟨rfl,rfl,rfl,rfl,rfl,h0,h1⟩)) rfl rfl rfl rfl fun W18 hS=>?_
    refine aB rfl rfl (aP (XF.thenN (bL (XF.res (rB (vs:=[_,_,_,_,_,_,_]) results9 isAgg29 sizeOf29 rfl (aC.own (j:=0) (m:=7) (hS.at_ 0 rfl) rfl) rfl) ?_))));have hA0:gP S py ts=[]:=by have h9:=hsay.len;exact List.eq_nil_of_length_eq_zero h9.symm
    have hms:iY (MB w Kk) S [] (nzK S (gP S py ts)):=by rw [hA0];exact ⟨rfl,XM.nil⟩
    obtain ⟨a9,c9,rfl⟩:=hS.headSl;exact ⟨hS.below,.inr ⟨hE,s.f,a9,none,c9,0,[],by simp only [Nat.zero_add,List.length_nil],fun W2 hb hg=>⟨⟨hA.ok,hA.si.below hb⟩,Cg (fJ (hS.row 0 rfl) hg),qH (fJ (hS.row 1 rfl) hg),(fun S9 e9=>by cases e9;exact hms.2.mono fun W3 h=>Ch hS (hb.trans (h.mono hb.size)) (hg.trans (aL h _))),(fun h=>by cases h),hms.1⟩⟩⟩
  ·skip;refine aO (aO (aQ (aH rfl rfl (aN (o':=6) dB rfl rfl rfl (aR isAgg27 rfl (aK (hS.at_ 2 rfl) rfl) rfl (cL underlying27 rfl rfl (cT rfl rfl rfl (aP (XF.thenN (bB rfl (fun hc=>?_) (fun hc=>?_)))))))))))
   ·have hc21:=of_decide_eq_true hc;clear hc;have hk:i < tl:=by omega
    obtain ⟨r,hr⟩:∃ r,ts[i]?=some r:=⟨ts[i]'(by omega),by simp [show i < ts.length by omega]⟩;obtain ⟨b,off,rfl,hcs⟩:=htrow.at_ hr;have hpr:=hA.px r (List.mem_of_getElem? hr);obtain ⟨rf,rg,rt,rx⟩:=r;dsimp only at hpr;dsimp only [TV.nine] at hcs;have k1:=aC.agree hS.agree (Nat.zero_le _) hcs;refine bP (XF.thenN (aO (bX (aO (aQ (aN (o':=6) dB rfl rfl rfl (aR isAgg27 rfl (aK (hS.at_ 2 rfl) rfl) rfl (aH rfl rfl (cK  underlying27 sizeOf48 rfl rfl rfl (by omega) rfl rfl (aT (vs:=[_,_,_,_,_,_,_,_,_]) isAgg48 sizeOf48 rfl (k1) rfl (bF (cs:=[_,_,_,_,_,_,_,_,_]) hS zeroValue48 rfl rfl fun B19 W19 hS=>?_)))))))))));refine aU (i:=0) (vs:=[_,_,_,_,_,_,_,_,_]) (cs':=[_,_,_,_,_,_,_,_,_]) (O':=[_,_,_,_]) hS sizeOf48 rfl rfl (by first | rfl | (have h0:=hS.oneV 0 _ rfl;have h1:=hS.oneV 1 _ rfl;simp only [List.all_cons,List.all_nil,Bool.and_true,Bool.and_eq_true];exact ⟨rfl,rfl,rfl,rfl,rfl,h0,h1⟩)) rfl rfl rfl rfl fun W20 hS=>?_
    refine aP (XF.thenN (aO ?_));have hll:ls.length≤65536:=by have h1:=hsay.len;have h2:=wK (S:=S) (py:=py) (ts.take i) [];have h3:(gP S py (ts.take i)).length≤0+(ts.take i).length:=h2;rw [List.length_take] at h3;omega
    refine aQ (aB rfl rfl (aP (XF.thenN (aO (bX (eJ (fun m l W=>∃ k:Nat,k≤ls.length∧m=ls.length - k∧l=[(1,.pointer (some ⟨B1,0,none⟩)),(2,.pointer (some ⟨B2,0,none⟩)),(5,.slice (some ⟨b5,0,none⟩) ls.length c5),(6,.int .i64 (i:Int)),(7,.pointer (some ⟨B19,0,none⟩)),(8,.int .i64 (k:Int))]∧(∀ (j:Nat) p,j < k→(gP S py (ts.take i))[j]?=some p→ltK p.1 (rf,rg,rt))∧St w [(B19,[.int .i64 rf,.int .i64 rg,.int .i64 rt,.bool rx.f.z,.int .i64 rx.f.c,.int .u64 (rx.f.g:Int),.slice rx.f.ra rx.f.rl rx.f.rc,.slice rx.f.ca rx.f.cl rx.f.cc,.slice rx.f.pa rx.f.pl rx.f.pc],48),(b5,ls.flatMap M9.nine++cs5,48),(B2,[.int .i64 0,.int .i64 0,.slice none 0 0,.int .i64 0,.int .i64 0,.slice none 0 0,.slice none 0 0],29),(B1,[.int .i64 s.f.tag,.int .i64 s.f.dim,.slice s.f.a s.f.len s.f.cap,.int .i64 st,.int .i64 sy,.slice fa fl fc,.slice (some ⟨b,off,none⟩) tl tc],29)] [] Kk W) (ls.length - 0) ([(1,_),(2,_),(5,_),(6,_),(7,_),(8,_)]) ⟨rfl,rfl,rfl,rfl,rfl,rfl,trivial⟩ (⟨0,Nat.zero_le _,rfl,rfl,(fun j p hj=>by omega),hS⟩) ?_))))));clear hS;clear k1;rintro m l W ⟨k,hk9,rfl,rfl,hbf,hS⟩;refine aO (aO ?_);rcases Nat.lt_or_ge k ls.length with hkl | hkl
    ·obtain ⟨q,hq⟩:∃ q,ls[k]?=some q:=⟨_,List.getElem?_eq_getElem hkl⟩;refine iX (m:=12) cC hS (by kernel_rfl) (by kernel_rfl) rfl (cE 1 rfl 8 rfl rfl (fun w hw=>aW rfl) rfl (cE 2 rfl 5 rfl rfl (fun w hw=>aW rfl) rfl (aZ 3 rfl 30 1 rfl rfl rfl (fun w hw=>lF underlying27 rfl) rfl (aJ 4 rfl (isV (.bool true)) (aE _) (lG (li:=[(29,_),(31,_)]) rfl (aS rfl) ⟨aM 0 (aA rfl rfl rfl),aM 2 (aA rfl rfl rfl),trivial⟩ (fun w hw=>tU rfl rfl) (by rw [decide_eq_true (by omega)]) (aF rfl)) (aZ 5 rfl 32 3 rfl rfl rfl (fun w hw=>aW rfl) rfl (aJ 6 rfl (isV _) (aE _) (rgV (li:=[(5,_)]) rfl (bD 33 rfl (aA rfl rfl rfl)) ⟨cJ rfl,trivial⟩ (fun w hw=>aW rfl) (aF rfl)) (aJ 7 rfl (isV _) (aE _) (rgV (li:=[(8,_)]) rfl (bD 33 rfl (aA rfl rfl rfl)) ⟨cJ rfl,trivial⟩ (fun w hw=>aW rfl) (aF rfl)) (aJ 8 rfl (isV _) (aE _) (rgV (li:=[(34,_),(35,_)]) rfl (bD 33 rfl (aA rfl rfl rfl)) ⟨aM 5 (aA rfl rfl rfl),aM 6 (aA rfl rfl rfl),trivial⟩ (fun w hw=>bE (j:=k) underlying27 sizeOf48 rfl rfl (rfl) (hkl) rfl) (aF rfl)) (aJ 9 rfl (isV _) (aE _) (rgV (li:=[(36,_)]) rfl (bD 33 rfl (aA rfl rfl rfl)) ⟨aM 7 (aA rfl rfl rfl),trivial⟩ (fun w hw=>aY (vs:=[_,_,_,_,_,_,_,_,_]) isAgg48 sizeOf48 rfl (aC.agree (aL hw 0) (Nat.zero_le _) (aC.own (j:=0+k * 9) (m:=9) (hS.at_ 1 rfl) (zG hq)))) (aF rfl)) (aJ 10 rfl (isV _) (aE _) (rgV (li:=[(7,_)]) rfl (bD 33 rfl (aA rfl rfl rfl)) ⟨cJ rfl,trivial⟩ (fun w hw=>aY (vs:=[_,_,_,_,_,_,_,_,_]) isAgg48 sizeOf48 rfl (aC.agree (aL hw 0) (Nat.zero_le _) (aC.own (j:=0) (m:=9) (hS.at_ 0 rfl) rfl))) (aF rfl)) ?_))))))))));refine aJ 11 rfl (isV (.bool (decide (ltK (q.f,q.g,q.t) (rf,rg,rt))))) (aE _) (cN [isV _,isV _] rfl P5 (bD 33 rfl (aA rfl rfl rfl)) ⟨bT (aM 8 (aA rfl rfl rfl)),bT (aM 9 (aA rfl rfl rfl)),trivial⟩ (fun vs w' hb hh=>by have e:=bW (us:=[_,_]) hh;subst e;exact (Es q.f q.g q.t rf rg rt q.x rx.f w').mono fun e w2 h=>⟨_,h.1,rfl,h.2⟩) (aF rfl)) ?_;refine aJ 12 rfl (isV _) (aE _) (rgV (li:=[(33,_),(39,_)]) rfl (aS rfl) ⟨aM 4 (aA rfl rfl rfl),aM 10 (aA rfl rfl rfl),trivial⟩ (fun w hw=>eC rfl rfl) (aF rfl)) (dI ?_);intro W21 hbR;clear hS;intro hS;refine aG (aG (aG (aG (aG (aG (aG (aG (aG (aG (aG (aG (cM (XF.thenN (bB rfl (fun hc=>?_) (fun hc=>?_)))))))))))))))
     ·have hc40:=hc;clear hc;have hkp:∀ p,(gP S py (ts.take i))[k]?=some p→p.1=(q.f,q.g,q.t):=fun p hp=>hsay.key hq hp
      have hlt9:ltK (q.f,q.g,q.t) (rf,rg,rt):=of_decide_eq_true hc40;refine bP (XF.thenN (bX (aQ (aH rfl rfl (cY rfl rfl (IntWalk.i64_in _ (by omega)) rfl (aB rfl rfl (aP (XF.blkN ?_))))))));exact XF.round (ls.length - (k+1)) [(1,_),(2,_),(5,_),(6,_),(7,_),(8,_)] (by omega) ⟨rfl,rfl,rfl,rfl,rfl,rfl,trivial⟩ ⟨k+1,by omega,rfl,rfl,(fun j p hj hp=>by rcases Nat.lt_or_ge j k with h | h;exact hbf j p h hp;rw [show j=k by omega] at hp;rw [hkp p hp];exact hlt9),hS.keep Kk (fun q hq=>by simp [hq])⟩
     ·have hc40:=hc;clear hc;refine dT (XF.thenX (XF.thenX (XF.blkX (XF.thenN (aO (aO (iX (m:=13) cC hS (by kernel_rfl) (by kernel_rfl) rfl (cE 1 rfl 8 rfl rfl (fun w hw=>aW rfl) rfl (cE 2 rfl 5 rfl rfl (fun w hw=>aW rfl) rfl (aZ 3 rfl 44 1 rfl rfl rfl (fun w hw=>lF underlying27 rfl) rfl (aJ 4 rfl (isV (.bool true)) (aE _) (lG (li:=[(43,_),(45,_)]) rfl (aS rfl) ⟨aM 0 (aA rfl rfl rfl),aM 2 (aA rfl rfl rfl),trivial⟩ (fun w hw=>tU rfl rfl) (by rw [decide_eq_true (by omega)]) (aF rfl)) (aZ 5 rfl 46 3 rfl rfl rfl (fun w hw=>aW rfl) rfl (aJ 6 rfl (isV _) (aE _) (rgV (li:=[(7,_)]) rfl (bD 47 rfl (aA rfl rfl rfl)) ⟨cJ rfl,trivial⟩ (fun w hw=>aY (vs:=[_,_,_,_,_,_,_,_,_]) isAgg48 sizeOf48 rfl (aC.agree (aL hw 0) (Nat.zero_le _) (aC.own (j:=0) (m:=9) (hS.at_ 0 rfl) rfl))) (aF rfl)) (aJ 7 rfl (isV _) (aE _) (rgV (li:=[(5,_)]) rfl (bD 47 rfl (aA rfl rfl rfl)) ⟨cJ rfl,trivial⟩ (fun w hw=>aW rfl) (aF rfl)) (aJ 8 rfl (isV _) (aE _) (rgV (li:=[(8,_)]) rfl (bD 47 rfl (aA rfl rfl rfl)) ⟨cJ rfl,trivial⟩ (fun w hw=>aW rfl) (aF rfl)) (aJ 9 rfl (isV _) (aE _) (rgV (li:=[(49,_),(50,_)]) rfl (bD 47 rfl (aA rfl rfl rfl)) ⟨aM 6 (aA rfl rfl rfl),aM 7 (aA rfl rfl rfl),trivial⟩ (fun w hw=>bE (j:=k) underlying27 sizeOf48 rfl rfl (rfl) (hkl) rfl) (aF rfl)) (aJ 10 rfl (isV _) (aE _) (rgV (li:=[(51,_)]) rfl (bD 47 rfl (aA rfl rfl rfl)) ⟨aM 8 (aA rfl rfl rfl),trivial⟩ (fun w hw=>aY (vs:=[_,_,_,_,_,_,_,_,_]) isAgg48 sizeOf48 rfl (aC.agree (aL hw 0) (Nat.zero_le _) (aC.own (j:=0+k * 9) (m:=9) (hS.at_ 1 rfl) (zG hq)))) (aF rfl)) ?_)))))))))))))))));refine aJ 11 rfl (isV (.bool (decide (ltK (rf,rg,rt) (q.f,q.g,q.t))))) (aE _) (cN [isV _,isV _] rfl P5 (bD 47 rfl (aA rfl rfl rfl)) ⟨bT (aM 5 (aA rfl rfl rfl)),bT (aM 9 (aA rfl rfl rfl)),trivial⟩ (fun vs w' hb hh=>by have e:=bW (us:=[_,_]) hh;subst e;exact (Es rf rg rt q.f q.g q.t rx.f q.x w').mono fun e w2 h=>⟨_,h.1,rfl,h.2⟩) (aF rfl)) ?_;refine aJ 12 rfl (isV _) (aE _) (rgV (li:=[(53,_)]) rfl (bD 47 rfl (aA rfl rfl rfl)) ⟨aM 10 (aA rfl rfl rfl),trivial⟩ (fun w hw=>jN rfl) (aF rfl)) (aJ 13 rfl (isV _) (aE _) (rgV (li:=[(47,_),(54,_)]) rfl (aS rfl) ⟨aM 4 (aA rfl rfl rfl),aM 11 (aA rfl rfl rfl),trivial⟩ (fun w hw=>eC rfl rfl) (aF rfl)) (dI ?_));intro W22 hbR;clear hS;intro hS;refine aG (aG (aG (aG (aG (aG (aG (aG (aG (aG (aG (aG (aG (cM (XF.thenN (bB rfl (fun hc=>?_) (fun hc=>?_))))))))))))))))
      ·have hc55:=hc;clear hc;obtain ⟨p9,hp9⟩:∃ p,(gP S py (ts.take i))[k]?=some p:=⟨_,List.getElem?_eq_getElem (by rw [← hsay.len];exact hkl)⟩;have hkey:=hsay.key hq hp9;have hfq:=hsay.far hq hp9;have hnt:¬ ltK (rf,rg,rt) (q.f,q.g,q.t):=by simpa using hc55
       have hnq:¬ ltK (q.f,q.g,q.t) (rf,rg,rt):=of_decide_eq_false hc40;have hlt13:=hS.own_lt;refine aO (Pc (ef:=14) (jy:=11) (ca:=qN (fun _=>[])) (ta:=fun _=>0) (Os:=osY _ 1 (0+k * 9+3) b5 (ls.flatMap M9.nine++cs5) 48) (Gs:=rM _) (al:=[]) (k:=15) (ds:=[]) cC rfl hS rfl (by kernel_rfl) rfl (by decide) rfl rfl rfl rfl (aX 1 rfl rfl (isV _) (fun hNo=>sgV [(5,_)] rfl rfl rfl rfl hNo (aS rfl) ⟨cJ rfl,trivial⟩ (fun ev w he hw=>aW rfl) (aF rfl)) (aX 2 rfl rfl (isV _) (fun hNo=>sgV [(8,_)] rfl rfl rfl rfl hNo (aS rfl) ⟨cJ rfl,trivial⟩ (fun ev w he hw=>aW rfl) (aF rfl)) (aX 3 rfl rfl (isV _) (fun hNo=>sgV [(1,_)] rfl rfl rfl rfl hNo (aS rfl) ⟨cJ rfl,trivial⟩ (fun ev w he hw=>aV (o':=0) iQ rfl rfl) (aF rfl)) (aX 4 rfl rfl (isV _) (fun hNo=>sgV [(58,_)] rfl rfl rfl rfl hNo (aS rfl) ⟨aM 2 (aA rfl rfl rfl),trivial⟩ (fun ev w he hw=>aY (vs:=[_,_,_]) isAgg25 sizeOf25 rfl ((aC.own (j:=0) (m:=3) (hw.at_ 3 (xH (i:=3) (j:=1) rfl rfl)) rfl))) (aF rfl)) (aX 5 rfl rfl (isV _) (fun hNo=>sgV [(5,_)] rfl rfl rfl rfl hNo (aS rfl) ⟨cJ rfl,trivial⟩ (fun ev w he hw=>aW rfl) (aF rfl)) (aX 6 rfl rfl (isV _) (fun hNo=>sgV [(8,_)] rfl rfl rfl rfl hNo (aS rfl) ⟨cJ rfl,trivial⟩ (fun ev w he hw=>aW rfl) (aF rfl)) (aX 7 rfl rfl (isV _) (fun hNo=>sgV [(60,_),(61,_)] rfl rfl rfl rfl hNo (aS rfl) ⟨aM 4 (aA rfl rfl rfl),aM 5 (aA rfl rfl rfl),trivial⟩ (fun ev w he hw=>bE (j:=k) underlying27 sizeOf48 rfl rfl (rfl) (hkl) rfl) (aF rfl)) (aX 8 rfl rfl (isV _) (fun hNo=>sgV [(62,_)] rfl rfl rfl rfl hNo (aS rfl) ⟨aM 6 (aA rfl rfl rfl),trivial⟩ (fun ev w he hw=>aV (o':=0+k * 9+3) fS rfl rfl) (aF rfl)) (aX 9 rfl rfl (isV _) (fun hNo=>sgV [(63,_)] rfl rfl rfl rfl hNo (aS rfl) ⟨aM 7 (aA rfl rfl rfl),trivial⟩ (fun ev w he hw=>aY (vs:=[_,_,_,_,_,_]) isAgg46 sizeOf46 rfl ((aC.own (j:=0+k * 9+3) (m:=6) (hw.at_ 1 (Pd (he rfl) rfl)) (J6 hq)))) (aF rfl)) (aX 10 rfl rfl (isV _) (fun hNo=>sgV [(7,_)] rfl rfl rfl rfl hNo (aS rfl) ⟨cJ rfl,trivial⟩ (fun ev w he hw=>aV (o':=3) fS rfl rfl) (aF rfl)) (aX 11 rfl rfl (isV _) (fun hNo=>sgV [(65,_)] rfl rfl rfl rfl hNo (aS rfl) ⟨aM 9 (aA rfl rfl rfl),trivial⟩ (fun ev w he hw=>aY (vs:=[_,_,_,_,_,_]) isAgg46 sizeOf46 rfl ((aC.own (j:=3) (m:=6) (hw.at_ 0 (xH (i:=0) (j:=1) rfl rfl)) rfl))) (aF rfl)) ?_))))))))))));refine aX 12 rfl rfl (qL (MB w Kk) W22.heap.size S (cD S p9.2 (py ⟨rf,rg,rt,rx⟩))) (fun hNo=>V4 [isV _,isV _,isV _] (osY_lt hlt13 (hlt13 _ (List.mem_cons_of_mem _ List.mem_cons_self))) rfl rfl rfl hNo M5 (aS rfl) ⟨bT (aM 3 (aA rfl rfl rfl)),bT (aM 8 (aA rfl rfl rfl)),bT (aM 10 (aA rfl rfl rfl)),trivial⟩ (fun vs ev w' he hSt hlo hh=>by
        have e:=bW (us:=[_,_,_]) hh;subst e;exact eitherB (Sh (Gv w) Kk) (hA.si.below hSt.below) hA.ok (MB.of hSt (fun q hq=>by simp [hq])) hfq (hpr.far.mono fun W h=>h.1) hlo) (aF rfl)) ?_
       refine aX 13 rfl rfl (isV _) (fun hNo=>sgV [(56,_),(57,_)] rfl rfl rfl rfl hNo (aS rfl) ⟨aM 0 (aA rfl rfl rfl),aM 1 (aA rfl rfl rfl),trivial⟩ (fun ev w he hw=>bE (j:=k) underlying27 sizeOf48 rfl rfl (rfl) (hkl) rfl) (aF rfl)) (aX 14 rfl rfl (isV _) (fun hNo=>sgV [(68,_)] rfl rfl rfl rfl hNo (aS rfl) ⟨aM 12 (aA rfl rfl rfl),trivial⟩ (fun ev w he hw=>aV (o':=0+k * 9+3) fS rfl rfl) (aF rfl)) ?_);refine nX 15 rfl (zE (py:=qL (MB w Kk) W22.heap.size S (cD S p9.2 (py ⟨rf,rg,rt,rx⟩))) (m:=6) 1 (0+k * 9+3) [(69,_)] rfl rfl rfl rfl (by kernel_rfl) rfl rfl (fun j hj=>by rcases hj with h | rfl<;>first | (cases h<;>rfl) | rfl) ⟨aM 13 (aA rfl rfl rfl),trivial⟩ rfl rfl sizeOf46 (fun v w ⟨h,e,_⟩=>by subst e;exact ⟨h.six,rfl,rfl,rfl⟩) (by rw [Nat.ble_eq];rw [List.length_append,nY];omega)) ?_;refine mP ?_;intro Bf23 y23 W23 Ks23 hsz23 hKs23 hS' hcov23;clear hS;have hS:=hS'.castO (O':=[_,_,_,_]) rfl;clear hS';refine vU (L':=[AwS _ _ (isV _),AwS _ _ (isV _),AwS _ _ (isV _),AwS _ _ (isV _),AwS _ _ (isV _),AwS _ _ (isV _),AwS _ _ (isV _),AwS _ _ (isV _),AwS _ _ (isV _),AwS _ _ (isV _),AwS _ _ (isV _),(fun v0_ w0_=>v0_=_∧AwS _ _ (qL (MB w Kk) W22.heap.size S (cD S p9.2 (py ⟨rf,rg,rt,rx⟩))) v0_ w0_),AwS _ _ (isV _),AwS _ _ (isV _),isV _]) rfl (bQ (bQ (bQ (bQ (bQ (bQ (bQ (bQ (bQ (bQ (bQ ?_)))))))))));refine dF ?_;rintro _ ⟨rfl,hA23⟩;obtain ⟨f11,rfl,hF11⟩:=hA23.here;have H11:=Sj hcov23 (xb_lt hlt13 (hlt13 _ (List.mem_cons_of_mem _ List.mem_cons_self))) hF11;refine bQ (bQ (Ed (cM (aP (XF.thenN (dT (XF.thenX (XF.blkX (XF.thenN (aQ (aH rfl rfl (cY rfl rfl (IntWalk.i64_in _ (by omega)) rfl (aB rfl rfl (aP ?_))))))))))))));have hS:=(hS.tail.castO (by rw [← Et (g:=f11) hq];rfl):St w ((b5,(ls.set k ⟨q.f,q.g,q.t,f11⟩).flatMap M9.nine++cs5,48)::_) [] _ _);exact XF.round (tl - (i+1)) [(1,_),(2,_),(5,_),(6,_)] (by omega) ⟨rfl,rfl,rfl,rfl,trivial⟩ ⟨i+1,_,ls.set k ⟨q.f,q.g,q.t,f11⟩,_,by omega,rfl,rfl,by rw [sY hr,qI (n:=k) (by rw [← hsay.len];exact hk9) hbf (fun p hp=>by rw [hsay.key hq hp];exact hnq),hp9];dsimp only;rw [hkey,if_neg hnt,← hkey];exact (hsay.mono fun W2 hW=>⟨hW.1,fun q hq=>hW.2 q (by simp [hq])⟩).set hq hp9 (H11.mono fun W2 hW=>⟨hW.1,fun q hq=>hW.2 q (by rcases List.mem_append.1 hq with h | h<;>simp [h])⟩),.inr ⟨b5,c5,cs5,by rw [List.length_set],by rw [List.length_set];exact hl5,by rw [List.length_set];exact hlc,hS⟩⟩
      ·have hc55:=hc;clear hc;have hlt:ltK (rf,rg,rt) (q.f,q.g,q.t):=by simpa using hc55
       have hnq:¬ ltK (q.f,q.g,q.t) (rf,rg,rt):=of_decide_eq_false hc40;obtain ⟨p9,hp9⟩:∃ p,(gP S py (ts.take i))[k]?=some p:=⟨_,List.getElem?_eq_getElem (by rw [← hsay.len];exact hkl)⟩;have hkey:=hsay.key hq hp9;have hins:insK S (rf,rg,rt) (py ⟨rf,rg,rt,rx⟩) (gP S py (ts.take i))=(gP S py (ts.take i)).take k++((rf,rg,rt),py ⟨rf,rg,rt,rx⟩)::(gP S py (ts.take i)).drop k:=by rw [qI (n:=k) (by rw [← hsay.len];exact hk9) hbf (fun p hp=>by rw [hsay.key hq hp];exact hnq),hp9];dsimp only;rw [hkey,if_pos hlt]
       refine bP (XF.thenN (aO (aQ (mS hS underlying27 sizeOf48 rfl fun v24 W24 hS=>aH rfl rfl (aH rfl rfl (Bh (k:=k) underlying27 sizeOf48 rfl rfl rfl (by omega) (by omega) (fun p hp=>⟨b5,0,(Option.some.inj hp).symm⟩) rfl ?_))))));refine gU (i:=0) (news:=(ls.take k).flatMap M9.nine) hS underlying27 nL rfl rfl (by show 0 < 9;decide) rfl rfl rfl rfl rfl (.inr ⟨_,rfl,zH (hS.at_ 1 rfl) J4⟩) (by show ((ls.take k).flatMap M9.nine).length=k * 9;rw [nY,List.length_take,Nat.min_eq_left (by omega)]) (Cf) (by dsimp only;simp only [maxLen];omega) (by dsimp only;show _ * 120≤_;omega) rfl fun v25 W25 hS=>?_
       refine aB rfl rfl (aP (XF.thenN (aO (aQ (aH rfl rfl (aT (vs:=[_,_,_,_,_,_,_,_,_]) isAgg48 sizeOf48 rfl (aC.own (j:=0) (m:=9) (hS.at_ 0 rfl) rfl) rfl (cX (us:=[(0,.agg (List.toArray [_,_,_,_,_,_,_,_,_]))]) hS underlying27 sizeOf48 zeroValue48 rfl rfl rfl (wL _ _ _ _ _ _ _ _ _) rfl fun B26 W26 hS=>?_)))))));refine jS (i:=0) (news:=[_,_,_,_,_,_,_,_,_]) hS underlying27 nL rfl rfl (by show 0 < 9;decide) rfl rfl rfl rfl rfl (aC.own (j:=0) (m:=9) (hS.at_ 0 rfl) rfl) rfl rfl (by dsimp only;simp only [maxLen];omega) (by dsimp only;show _ * 120≤_;omega) rfl fun v27 W27 hS=>?_
       refine aB rfl rfl (aP (XF.thenN (aQ (aH rfl rfl (aH rfl rfl (aH rfl rfl (kL (j:=k) underlying27 sizeOf48 rfl rfl rfl (by omega) rfl ?_)))))));intro ad9 hE9 hN9;obtain ⟨p9,hp9,hq9⟩:∃ p,ad9=some p∧(k < ls.length→p=(⟨b5,k * 9,none⟩:Addr)):=by
        by_cases hck:c5=k
        ·exact ⟨_,hE9 hck,fun h=>by omega⟩
        ·exact ⟨_,hN9 hck,fun h=>by show (⟨b5,0,none⟩:Addr).add (k * 9)=_;rw [Addr.add_lit,Nat.zero_add]⟩
       subst hp9;refine gU (i:=0) (news:=(ls.drop k).flatMap M9.nine) hS underlying27 nL rfl rfl (by show 0 < 9;decide) rfl rfl rfl rfl rfl (.inr ⟨p9,rfl,fun j u hj=>by
        have hkl:k < ls.length:=by
         rcases Nat.lt_or_ge k ls.length with h | h
         ·exact h
         ·rw [List.drop_eq_nil_of_le h] at hj;simp at hj
        rw [hq9 hkl];exact zH (hS.at_ 2 rfl) (Pw (by omega)) j u hj⟩) (by show ((ls.drop k).flatMap M9.nine).length=(ls.length - k) * 9;rw [nY,List.length_drop]) (Cf) (by dsimp only;simp only [maxLen];omega) (by dsimp only;show _ * 120≤_;omega) rfl fun v28 W28 hS=>?_
       refine aB rfl rfl (aP (XF.blkN (XF.thenN (aQ (aH rfl rfl (cY rfl rfl (IntWalk.i64_in _ (by omega)) rfl (aB rfl rfl (aP ?_))))))));have hS:=hS.tail.tail.tail;obtain ⟨a9,c9,e9,hle9⟩:=fC (hS.row 0 rfl);dsimp only at e9 hle9;subst e9;obtain ⟨b9,cs9,rfl,hS9⟩:=hS.rowOwn (by omega);have hnl:(ls.take k++(⟨rf,rg,rt,rx.f⟩:M9)::ls.drop k).length=0+k+1+(ls.length - k):=by simp;omega
       exact XF.round (tl - (i+1)) [(1,_),(2,_),(5,_),(6,_)] (by omega) ⟨rfl,rfl,rfl,rfl,trivial⟩ ⟨i+1,_,ls.take k++(⟨rf,rg,rt,rx.f⟩:M9)::ls.drop k,_,by omega,rfl,rfl,by rw [sY hr];show iY _ S _ (insK S (rf,rg,rt) _ _);rw [hins];exact (hsay.mono fun W2 hW=>⟨hW.1,fun q hq=>hW.2 q (by simp [hq])⟩).ins (r:=⟨rf,rg,rt,rx.f⟩) hk9 (hpr.far.mono fun W2 hW=>hW.1),.inr ⟨b9,c9,cs9,by rw [hnl],by omega,by rw [hnl];exact hle9,hS9.castO (by simp only [List.nil_append,List.append_assoc,List.flatMap_append,List.flatMap_cons])⟩⟩
    ·skip;refine iX (m:=12) cC hS (by kernel_rfl) (by kernel_rfl) rfl (cE 1 rfl 8 rfl rfl (fun w hw=>aW rfl) rfl (cE 2 rfl 5 rfl rfl (fun w hw=>aW rfl) rfl (aZ 3 rfl 30 1 rfl rfl rfl (fun w hw=>lF underlying27 rfl) rfl (aJ 4 rfl (isV (.bool false)) (aE _) (lG (li:=[(29,_),(31,_)]) rfl (aS rfl) ⟨aM 0 (aA rfl rfl rfl),aM 2 (aA rfl rfl rfl),trivial⟩ (fun w hw=>tU rfl rfl) (by rw [decide_eq_false (by omega)]) (aF rfl)) (aZ 5 rfl 32 3 rfl rfl rfl (fun w hw=>aW rfl) rfl (aJ 6 rfl (isV undef) (aE _) (bI rfl (bK 33 rfl (aA rfl rfl rfl) rfl) (aF rfl)) (aJ 7 rfl (isV undef) (aE _) (bI rfl (bK 33 rfl (aA rfl rfl rfl) rfl) (aF rfl)) (aJ 8 rfl (isV undef) (aE _) (bI rfl (bK 33 rfl (aA rfl rfl rfl) rfl) (aF rfl)) (aJ 9 rfl (isV undef) (aE _) (bI rfl (bK 33 rfl (aA rfl rfl rfl) rfl) (aF rfl)) (aJ 10 rfl (isV undef) (aE _) (bI rfl (bK 33 rfl (aA rfl rfl rfl) rfl) (aF rfl)) (aJ 11 rfl (isV undef) (aE _) (bI rfl (bK 33 rfl (aA rfl rfl rfl) rfl) (aF rfl)) (aZ 12 rfl 33 4 rfl rfl rfl (fun w hw=>eD rfl rfl) rfl (dI ?_)))))))))))));intro W29 hbR;clear hS;intro hS;refine aG (aG (aG (aG (aG (aG (aG (aG (aG (aG (aG (aG (cM (XF.thenN (tI rfl (dT (XF.thenX (XF.thenX (XF.blkX (XF.thenN (aO (aO (iX (m:=13) cC hS (by kernel_rfl) (by kernel_rfl) rfl (cE 1 rfl 8 rfl rfl (fun w hw=>aW rfl) rfl (cE 2 rfl 5 rfl rfl (fun w hw=>aW rfl) rfl (aZ 3 rfl 44 1 rfl rfl rfl (fun w hw=>lF underlying27 rfl) rfl (aJ 4 rfl (isV (.bool false)) (aE _) (lG (li:=[(43,_),(45,_)]) rfl (aS rfl) ⟨aM 0 (aA rfl rfl rfl),aM 2 (aA rfl rfl rfl),trivial⟩ (fun w hw=>tU rfl rfl) (by rw [decide_eq_false (by omega)]) (aF rfl)) (aZ 5 rfl 46 3 rfl rfl rfl (fun w hw=>aW rfl) rfl (aJ 6 rfl (isV undef) (aE _) (bI rfl (bK 47 rfl (aA rfl rfl rfl) rfl) (aF rfl)) (aJ 7 rfl (isV undef) (aE _) (bI rfl (bK 47 rfl (aA rfl rfl rfl) rfl) (aF rfl)) (aJ 8 rfl (isV undef) (aE _) (bI rfl (bK 47 rfl (aA rfl rfl rfl) rfl) (aF rfl)) (aJ 9 rfl (isV undef) (aE _) (bI rfl (bK 47 rfl (aA rfl rfl rfl) rfl) (aF rfl)) (aJ 10 rfl (isV undef) (aE _) (bI rfl (bK 47 rfl (aA rfl rfl rfl) rfl) (aF rfl)) ?_))))))))))))))))))))))))))))))));refine aJ 11 rfl (isV undef) (aE _) (bI rfl (bK 47 rfl (aA rfl rfl rfl) rfl) (aF rfl)) (aJ 12 rfl (isV undef) (aE _) (bI rfl (bK 47 rfl (aA rfl rfl rfl) rfl) (aF rfl)) (aZ 13 rfl 47 4 rfl rfl rfl (fun w hw=>eD rfl rfl) rfl (dI ?_)));intro W30 hbR;clear hS;intro hS;refine aG (aG (aG (aG (aG (aG (aG (aG (aG (aG (aG (aG (aG (cM (XF.thenN (tI rfl (bP (XF.thenN (aO ?_))))))))))))))))));have hkn:k=ls.length:=by omega
     have hins:insK S (rf,rg,rt) (py ⟨rf,rg,rt,rx⟩) (gP S py (ts.take i))=(gP S py (ts.take i)).take k++((rf,rg,rt),py ⟨rf,rg,rt,rx⟩)::(gP S py (ts.take i)).drop k:=by have hnone:(gP S py (ts.take i))[k]?=none:=List.getElem?_eq_none (by rw [← hsay.len];omega);rw [qI (n:=k) (by rw [← hsay.len];exact hk9) hbf (fun p hp=>by rw [hnone] at hp;cases hp),hnone];dsimp only;have e1:(gP S py (ts.take i)).take k=gP S py (ts.take i):=List.take_of_length_le (by rw [← hsay.len];omega);have e2:(gP S py (ts.take i)).drop k=[]:=List.drop_eq_nil_of_le (by rw [← hsay.len];omega);rw [e1,e2]
     refine aQ (mS hS underlying27 sizeOf48 rfl fun v31 W31 hS=>aH rfl rfl (aH rfl rfl (Bh (k:=k) underlying27 sizeOf48 rfl rfl rfl (by omega) (by omega) (fun p hp=>⟨b5,0,(Option.some.inj hp).symm⟩) rfl ?_)));refine gU (i:=0) (news:=(ls.take k).flatMap M9.nine) hS underlying27 nL rfl rfl (by show 0 < 9;decide) rfl rfl rfl rfl rfl (.inr ⟨_,rfl,zH (hS.at_ 1 rfl) J4⟩) (by show ((ls.take k).flatMap M9.nine).length=k * 9;rw [nY,List.length_take,Nat.min_eq_left (by omega)]) (Cf) (by dsimp only;simp only [maxLen];omega) (by dsimp only;show _ * 120≤_;omega) rfl fun v32 W32 hS=>?_
     refine aB rfl rfl (aP (XF.thenN (aO (aQ (aH rfl rfl (aT (vs:=[_,_,_,_,_,_,_,_,_]) isAgg48 sizeOf48 rfl (aC.own (j:=0) (m:=9) (hS.at_ 0 rfl) rfl) rfl (cX (us:=[(0,.agg (List.toArray [_,_,_,_,_,_,_,_,_]))]) hS underlying27 sizeOf48 zeroValue48 rfl rfl rfl (wL _ _ _ _ _ _ _ _ _) rfl fun B33 W33 hS=>?_)))))));refine jS (i:=0) (news:=[_,_,_,_,_,_,_,_,_]) hS underlying27 nL rfl rfl (by show 0 < 9;decide) rfl rfl rfl rfl rfl (aC.own (j:=0) (m:=9) (hS.at_ 0 rfl) rfl) rfl rfl (by dsimp only;simp only [maxLen];omega) (by dsimp only;show _ * 120≤_;omega) rfl fun v34 W34 hS=>?_
     refine aB rfl rfl (aP (XF.thenN (aQ (aH rfl rfl (aH rfl rfl (aH rfl rfl (kL (j:=k) underlying27 sizeOf48 rfl rfl rfl (by omega) rfl ?_)))))));intro ad9 hE9 hN9;obtain ⟨p9,hp9,hq9⟩:∃ p,ad9=some p∧(k < ls.length→p=(⟨b5,k * 9,none⟩:Addr)):=by
      by_cases hck:c5=k
      ·exact ⟨_,hE9 hck,fun h=>by omega⟩
      ·exact ⟨_,hN9 hck,fun h=>by show (⟨b5,0,none⟩:Addr).add (k * 9)=_;rw [Addr.add_lit,Nat.zero_add]⟩
     subst hp9;refine gU (i:=0) (news:=(ls.drop k).flatMap M9.nine) hS underlying27 nL rfl rfl (by show 0 < 9;decide) rfl rfl rfl rfl rfl (.inr ⟨p9,rfl,fun j u hj=>by
      have hkl:k < ls.length:=by
       rcases Nat.lt_or_ge k ls.length with h | h
       ·exact h
       ·rw [List.drop_eq_nil_of_le h] at hj;simp at hj
      rw [hq9 hkl];exact zH (hS.at_ 2 rfl) (Pw (by omega)) j u hj⟩) (by show ((ls.drop k).flatMap M9.nine).length=(ls.length - k) * 9;rw [nY,List.length_drop]) (Cf) (by dsimp only;simp only [maxLen];omega) (by dsimp only;show _ * 120≤_;omega) rfl fun v35 W35 hS=>?_
     refine aB rfl rfl (aP (XF.blkN (XF.thenN (aQ (aH rfl rfl (cY rfl rfl (IntWalk.i64_in _ (by omega)) rfl (aB rfl rfl (aP ?_))))))));have hS:=hS.tail.tail.tail;obtain ⟨a9,c9,e9,hle9⟩:=fC (hS.row 0 rfl);dsimp only at e9 hle9;subst e9;obtain ⟨b9,cs9,rfl,hS9⟩:=hS.rowOwn (by omega);have hnl:(ls.take k++(⟨rf,rg,rt,rx.f⟩:M9)::ls.drop k).length=0+k+1+(ls.length - k):=by simp;omega
     exact XF.round (tl - (i+1)) [(1,_),(2,_),(5,_),(6,_)] (by omega) ⟨rfl,rfl,rfl,rfl,trivial⟩ ⟨i+1,_,ls.take k++(⟨rf,rg,rt,rx.f⟩:M9)::ls.drop k,_,by omega,rfl,rfl,by rw [sY hr];show iY _ S _ (insK S (rf,rg,rt) _ _);rw [hins];exact (hsay.mono fun W2 hW=>⟨hW.1,fun q hq=>hW.2 q (by simp [hq])⟩).ins (r:=⟨rf,rg,rt,rx.f⟩) hk9 (hpr.far.mono fun W2 hW=>hW.1),.inr ⟨b9,c9,cs9,by rw [hnl],by omega,by rw [hnl];exact hle9,hS9.castO (by simp only [List.nil_append,List.append_assoc,List.flatMap_append,List.flatMap_cons])⟩⟩
   ·have hc21:=of_decide_eq_false hc;clear hc;rw [List.take_of_length_le (by omega)] at hsay;refine dT (XF.thenX (XF.thenX (XF.blkX (XF.thenN (aO (aQ (aN (o':=6) dB rfl rfl rfl (dK (i:=2) (cs':=[_,_,_,_,_,_,_]) (O':=[_,_,_]) hS sizeOf27 rfl rfl (by first | rfl | exact (hS.oneV 0 _ rfl :) | exact (hS.oneV 1 _ rfl :) | exact (hS.oneV 2 _ rfl :) | exact (hS.oneV 3 _ rfl :)) rfl rfl rfl rfl fun W36 hS=>aP (XF.thenN (aO (aO ?_)))))))))));have hS:=hS.newG 48 9;refine aQ (aB rfl rfl (aP (XF.thenN (bX (eJ (fun m l W=>∃ (k:Nat) (u:Value) (ms:List M9) (K9:List (Nat×World)),k≤ls.length∧m=ls.length - k∧l=[(1,.pointer (some ⟨B1,0,none⟩)),(2,.pointer (some ⟨B2,0,none⟩)),(5,.slice (some ⟨b5,0,none⟩) ls.length c5),(10,.int .i64 (k:Int))]∧(∀ q∈Kk,q∈K9)∧iY (MB w K9) S ms (nzK S ((gP S py ts).take k))∧ms.length≤k∧St w [(b5,ls.flatMap M9.nine++cs5,48),(B2,[.int .i64 0,.int .i64 0,.slice none 0 0,.int .i64 0,.int .i64 0,.slice none 0 0,.slice none 0 0],29),(B1,[.int .i64 s.f.tag,.int .i64 s.f.dim,.slice s.f.a s.f.len s.f.cap,.int .i64 st,.int .i64 sy,.slice fa fl fc,u],29)] [⟨u,ms.length,ms.flatMap M9.nine,48,9⟩] K9 W) (ls.length - 0) ([(1,_),(2,_),(5,_),(10,_)]) ⟨rfl,rfl,rfl,rfl,trivial⟩ (⟨0,_,[],Kk,Nat.zero_le _,rfl,rfl,(fun q hq=>hq),⟨rfl,XM.nil⟩,Nat.le_refl _,hS⟩) ?_)))));clear hS;rintro m l W ⟨k,u,ms,K9,hk9,rfl,rfl,hKs,hms,hml,hS⟩;refine aO (aO (aQ (aH rfl rfl (aH rfl rfl (cL underlying27 rfl rfl (cT rfl rfl rfl (aP (XF.thenN (bB rfl (fun hc=>?_) (fun hc=>?_))))))))))
    ·have hc88:=of_decide_eq_true hc;clear hc;have hkl:k < ls.length:=by omega
     obtain ⟨q,hq⟩:∃ q,ls[k]?=some q:=⟨_,List.getElem?_eq_getElem hkl⟩;obtain ⟨p9,hp9⟩:∃ p,(gP S py ts)[k]?=some p:=⟨_,List.getElem?_eq_getElem (by rw [← hsay.len];exact hkl)⟩;have hkey:=hsay.key hq hp9;have hfq:=hsay.far hq hp9;have hll:ls.length≤65536:=by have h1:=hsay.len;have h2:=wK (S:=S) (py:=py) ts [];have h3:(gP S py ts).length≤0+ts.length:=h2;omega
     have hxk:=hfq.is (MB.of hS hKs);refine bP (XF.thenN (aO (bX (aO (iX (m:=9) cC hS (by kernel_rfl) (by kernel_rfl) rfl (cE 1 rfl 1 rfl rfl (fun w hw=>aV (o':=0) iQ rfl rfl) rfl (aZ 2 rfl 91 0 rfl rfl rfl (fun w hw=>aY (vs:=[_,_,_]) isAgg25 sizeOf25 rfl (aC.agree (aL hw 0) (Nat.zero_le _) (aC.own (j:=0) (m:=3) (hS.at_ 2 rfl) rfl))) rfl (cE 3 rfl 5 rfl rfl (fun w hw=>aW rfl) rfl (cE 4 rfl 10 rfl rfl (fun w hw=>aW rfl) rfl (aJ 5 rfl (isV _) (aE _) (rgV (li:=[(93,_),(94,_)]) rfl (aS rfl) ⟨aM 2 (aA rfl rfl rfl),aM 3 (aA rfl rfl rfl),trivial⟩ (fun w hw=>bE (j:=k) underlying27 sizeOf48 rfl rfl (rfl) (hkl) rfl) (aF rfl)) (aZ 6 rfl 95 4 rfl rfl rfl (fun w hw=>aV (o':=0+k * 9+3) fS rfl rfl) rfl (aZ 7 rfl 96 5 rfl rfl rfl (fun w hw=>aY (vs:=[_,_,_,_,_,_]) isAgg46 sizeOf46 rfl (aC.agree (aL hw 0) (Nat.zero_le _) (aC.own (j:=0+k * 9+3) (m:=6) (hS.at_ 0 rfl) (J6 hq)))) rfl ?_))))))))))));refine aJ 8 rfl (isV (.bool (eqX p9.2 (bU S)))) (aE _) (cN [isV _,isV _] rfl goes_29 (aS rfl) ⟨bT (aM 1 (aA rfl rfl rfl)),bT (aM 6 (aA rfl rfl rfl)),trivial⟩ (fun vs w' hb hh=>by have e:=bW (us:=[_,_]) hh;subst e;exact (Wq S s.f q.x p9.2 w' (hA.si.below (hS.below.trans (hb.mono hS.below.size))) hA.ok (hxk.below hb)).mono fun e w2 h=>⟨_,h.1,rfl,h.2⟩) (aF rfl)) ?_;refine aZ 9 rfl 98 7 rfl rfl rfl (fun w hw=>jN rfl) rfl (dI ?_);intro W37 hbR;clear hS;intro hS;refine aG (aG (aG (aG (aG (aG (aG (aG (aG (cM (XF.thenN (bB rfl (fun hc=>?_) (fun hc=>?_))))))))))))
     ·have hc99:=hc;clear hc;have hnz:nzX S p9.2=true:=by rw [Px];exact hc99
      refine regBP (p:=7) (k:=9) (gi:=0) (m:=1) cC hS rfl rfl (by kernel_rfl) (by kernel_rfl) (by kernel_rfl) (fun d hd=>by cases hd) rfl rfl underlying27 nL rfl rfl (by show 0 < 9;decide) rfl rfl rfl (by dsimp only;simp only [maxLen];omega) (by dsimp only;show _ * 120≤_;omega) ?_;refine kM 1 rfl rfl (by kernel_rfl) (rgV (li:=[(1,_)]) rfl (aS rfl) ⟨cJ rfl,trivial⟩ (fun w hw=>aV (o':=6) dB rfl rfl) (aF rfl)) (kM 2 rfl rfl (by kernel_rfl) (rgV (li:=[(100,_)]) rfl (aS rfl) ⟨aM 0 (aA rfl rfl rfl),trivial⟩ (fun w hw=>bA isAgg27 rfl ((aL hw 0).cell (Nat.zero_le _) (aK (hS.at_ 2 rfl) rfl))) (aF rfl)) (kM 3 rfl rfl (by kernel_rfl) (rgV (li:=[(5,_)]) rfl (aS rfl) ⟨cJ rfl,trivial⟩ (fun w hw=>aW rfl) (aF rfl)) (kM 4 rfl rfl (by kernel_rfl) (rgV (li:=[(10,_)]) rfl (aS rfl) ⟨cJ rfl,trivial⟩ (fun w hw=>aW rfl) (aF rfl)) (kM 5 rfl rfl (by kernel_rfl) (rgV (li:=[(102,_),(103,_)]) rfl (aS rfl) ⟨aM 2 (aA rfl rfl rfl),aM 3 (aA rfl rfl rfl),trivial⟩ (fun w hw=>bE (j:=k) underlying27 sizeOf48 rfl rfl (rfl) (hkl) rfl) (aF rfl)) (kM 6 rfl rfl (by kernel_rfl) (rgV (li:=[(104,_)]) rfl (aS rfl) ⟨aM 4 (aA rfl rfl rfl),trivial⟩ (fun w hw=>aY (vs:=[_,_,_,_,_,_,_,_,_]) isAgg48 sizeOf48 rfl (aC.agree (aL hw 0) (Nat.zero_le _) (aC.own (j:=0+k * 9) (m:=9) (hS.at_ 0 rfl) (zG hq)))) (aF rfl)) (blp_q 7 rfl rfl (by kernel_rfl) (oV W37.heap.size 1 48 _) (tX) (Nw (us:=[.agg (List.toArray [_,_,_,_,_,_,_,_,_])]) rfl (aS rfl) underlying27 sizeOf48 zeroValue48 rfl rfl ⟨bT (aM 5 (aA rfl rfl rfl)),trivial⟩ (wL _ _ _ _ _ _ _ _ _) (aF rfl)) (Oe 8 rfl rfl (Id 9 rfl rfl (rgV (li:=[(1,_)]) rfl (aS rfl) ⟨cJ rfl,trivial⟩ (fun w hw=>aV (o':=6) dB rfl rfl) (aF rfl)) (lgV (li:=[(1,_)]) rfl (aS rfl) ⟨cJ rfl,trivial⟩ (fun w=>aV (o':=6) dB rfl rfl) (aF rfl) rfl) (Od ⟨_,_,aM 1 (aA rfl rfl rfl),aM 6 (aA rfl rfl rfl),xV rfl rfl,?_⟩)))))))));intro A38 v38 news38 W38 hbR hqA38;clear hS;intro hS;cases hqA38;refine aG (aG (aG (aG (aG (aG ?_)))));refine dF ?_;intro _ _;refine aG (aG (cM (dK (i:=2) (cs':=[_,_,_,_,_,_,_]) (O':=[_,_,_]) hS sizeOf27 rfl rfl (by first | rfl | exact (hS.oneV 0 _ rfl :) | exact (hS.oneV 1 _ rfl :) | exact (hS.oneV 2 _ rfl :) | exact (hS.oneV 3 _ rfl :)) rfl rfl rfl rfl fun W39 hS=>aP (XF.blkN (XF.thenN (aQ (aH rfl rfl (cY rfl rfl (IntWalk.i64_in _ (by omega)) rfl (aB rfl rfl (aP ?_))))))))));exact XF.round (ls.length - (k+1)) [(1,_),(2,_),(5,_),(10,_)] (by omega) ⟨rfl,rfl,rfl,rfl,trivial⟩ ⟨k+1,_,ms++[q],_,by omega,rfl,rfl,(fun q hq=>by simp [hKs q hq]),by rw [J7 hp9,if_pos hnz];exact (hms.mono fun W2 hW=>⟨hW.1,fun q hq=>hW.2 q (by simp [hq])⟩).app hkey (hfq.mono fun W2 hW=>⟨hW.1,fun q hq=>hW.2 q (by simp [hKs q hq])⟩),by rw [List.length_append];show _+1≤_;omega,hS.castG (by simp)⟩
     ·have hc99:=hc;clear hc;have hnz:¬ nzX S p9.2=true:=by rw [Px,hc99];decide
      refine bP (XF.blkN (XF.thenN (aQ (aH rfl rfl (cY rfl rfl (IntWalk.i64_in _ (by omega)) rfl (aB rfl rfl (aP ?_)))))));exact XF.round (ls.length - (k+1)) [(1,_),(2,_),(5,_),(10,_)] (by omega) ⟨rfl,rfl,rfl,rfl,trivial⟩ ⟨k+1,u,ms,_,by omega,rfl,rfl,(fun q hq=>by simp [hKs q hq]),by rw [J7 hp9,if_neg hnz,List.append_nil];exact hms.mono fun W2 hW=>⟨hW.1,fun q hq=>hW.2 q (by simp [hq])⟩,by omega,hS⟩
    ·have hc88:=of_decide_eq_false hc;clear hc;have hkn:k=ls.length:=by omega
     rw [List.take_of_length_le (by rw [← hsay.len];omega)] at hms;refine dT (XF.thenX (XF.thenX (XF.blkX (XF.thenN (aO (aQ (mS hS underlying26 sizeOf3 rfl fun v40 W40 hS=>aN (o':=5) eV rfl rfl rfl (aR isAgg26 rfl (aK (hS.at_ 2 rfl) rfl) rfl ?_))))))));refine gU (i:=0) (news:=fs.map (Value.int .i64)) hS underlying26 Eb rfl rfl (by show 0 < 1;decide) rfl rfl rfl rfl rfl (J8 (hfrow.below hS.below) hflen) (by show (fs.map _).length=fl * 1;rw [List.length_map,hflen,Nat.mul_one]) (fun u hu=>by obtain ⟨y,_,rfl⟩:=List.mem_map.1 hu;rfl) (by dsimp only;simp only [maxLen];omega) (by dsimp only;show _ * 8≤_;omega) rfl fun v41 W41 hS=>?_
     refine aN (o':=5) eV rfl rfl rfl (dK (i:=2) (cs':=[_,_,_,_,_,_,_]) (O':=[_,_,_]) hS sizeOf26 rfl rfl (by first | rfl | exact (hS.oneV 0 _ rfl :) | exact (hS.oneV 1 _ rfl :) | exact (hS.oneV 2 _ rfl :) | exact (hS.oneV 3 _ rfl :)) rfl rfl rfl rfl fun W42 hS=>aP (XF.thenN (aO (aQ (aT (vs:=[_,_,_,_,_,_,_]) isAgg29 sizeOf29 rfl (aC.own (j:=0) (m:=7) (hS.at_ 2 rfl) rfl) rfl ?_)))));refine aU (i:=1) (vs:=[_,_,_,_,_,_,_]) (cs':=[_,_,_,_,_,_,_]) (O':=[_,_,_]) hS sizeOf29 rfl rfl (by first | rfl | (have h0:=hS.oneV 0 _ rfl;have h1:=hS.oneV 1 _ rfl;simp only [List.all_cons,List.all_nil,Bool.and_true,Bool.and_eq_true];exact ⟨rfl,rfl,rfl,rfl,rfl,h0,h1⟩)) rfl rfl rfl rfl fun W43 hS=>?_
     refine aB rfl rfl (aP (XF.thenN (bL (XF.res (rB (vs:=[_,_,_,_,_,_,_]) results9 isAgg29 sizeOf29 rfl (aC.own (j:=0) (m:=7) (hS.at_ 1 rfl) rfl) rfl) ?_))));obtain ⟨a9,c9,rfl⟩:=hS.headSl;obtain ⟨a8,c8,rfl⟩:=hS.restG.headSl;exact ⟨hS.below,.inr ⟨hE,s.f,a9,a8,c9,c8,ms,by simp only [Nat.zero_add,List.length_nil],fun W2 hb hg=>⟨⟨hA.ok,hA.si.below hb⟩,Cg (fJ (hS.row 0 rfl) hg),qH (fJ (hS.row 1 rfl) hg),(fun S9 e9=>by cases e9;exact hms.2.mono fun W3 h=>Ch hS (hb.trans (h.mono hb.size)) (hg.trans (aL h _))),(fun h=>by cases h),hms.1⟩⟩⟩
theorem P6:bJ prog 46=true:=by kernel_rfl
theorem Ni (S:PS) (a:AV) (f0:WF) (bk:Bool) (bm VA VX RB IA WA n:Nat) (va:Value) (fs:List WF) (p:Nat) (Ot:Own) (Gt:cV) (K:List (Nat×World)) (w0:World) (lo:Nat) (py:TV→PX) (kf:TV→Int×Int) (w:World) (hS0:St w0 ((RB,rdC f0 a bk bm VA VX,109)::(VA,gZ va n IA WA,116)::(IA,inC S (List.replicate n (bU S)),4)::(WA,wC fs,46)::Ot) (⟨va,([]:List Nat).length,atC ([]:List Nat),3,1⟩::Gt) K w) (hV:VecOk S w0 K n fs (List.replicate n (bU S)) []) (hn:n≤4096) (hp:p < n) (hM:qF w0 K kf lo a.ts bm) (htrow:mQ w0 a.ta a.ts) (htlen:a.ts.length=a.tl) (htm:a.tl≤65536) (htq:∀ t∈a.ts,inQ t.t (n:Int)=true) (hpy:∀ t∈a.ts,XIs w0 S t.x.f (py t)) (hkf:∀ t∈a.ts,∃ s:Nat,(kf t).1=(s:Int)∧s < n) (hht:Iv S≤4194304) (hsi:SIs w0 S a.s.f) (hok:S.ok) (ht:Tabs w0) (H0:jC w0 K (fun W=>XIs W S f0 (bU S))) :
  Calls prog 44 #[.pointer (some ⟨RB,0,none⟩),.int .i64 (p:Int)] w (fun e w'=>∃ (u:Value) (l':List Nat) (fs':List WF) (xs':List PX) (Kn:List (Nat×World)),e = .returned (.tuple #[])∧(∀ q∈K,q∈Kn)∧VecOk S w0 Kn n fs' xs' l'∧Eps S bk (egsX kf py a.ts) ((List.replicate n (bU S)).set p (oW S)) xs'∧xK S bk (egsX kf py a.ts) xs'∧St w0 ((RB,rdC f0 a bk bm VA VX,109)::(VA,gZ u n IA WA,116)::(IA,inC S xs',4)::(WA,wC fs',46)::Ot) (⟨u,l'.length,atC l',3,1⟩::Gt) Kn w'):=by
 refine cG (args:=[.pointer (some ⟨RB,0,none⟩),.int .i64 (p:Int)]) func44 rfl ntmps44 rfl ?_;have hS:=hS0;refine aO (Vq (ef:=12) (jy:=12) (ca:=qN (fun _=>[])) (ta:=fun _=>0) (Os:=Gl _) (Gs:=rM _) (al:=[]) (k:=11) (ds:=[15]) cC rfl hS rfl (by kernel_rfl) (by kernel_rfl) rfl (by decide) rfl (fun _=>none) (.inr ⟨rfl,rfl,rfl⟩) rfl rfl (aX 1 rfl rfl (isV _) (fun hNo=>sgV [(0,_)] rfl rfl rfl rfl hNo (aS rfl) ⟨cJ rfl,trivial⟩ (fun ev w he hw=>aW rfl) (aF rfl)) (aX 2 rfl rfl (isV _) (fun hNo=>sgV [(0,_)] rfl rfl rfl rfl hNo (aS rfl) ⟨cJ rfl,trivial⟩ (fun ev w he hw=>aW rfl) (aF rfl)) (aX 3 rfl rfl (isV _) (fun hNo=>sgV [(5,_)] rfl rfl rfl rfl hNo (aS rfl) ⟨aM 1 (aA rfl rfl rfl),trivial⟩ (fun ev w he hw=>cU rfl) (aF rfl)) (aX 4 rfl rfl (isV _) (fun hNo=>sgV [(6,_)] rfl rfl rfl rfl hNo (aS rfl) ⟨aM 2 (aA rfl rfl rfl),trivial⟩ (fun ev w he hw=>aV (o':=18) kW rfl rfl) (aF rfl)) (aX 5 rfl rfl (isV _) (fun hNo=>sgV [(7,_)] rfl rfl rfl rfl hNo (aS rfl) ⟨aM 3 (aA rfl rfl rfl),trivial⟩ (fun ev w he hw=>bA isAgg107 rfl ((aK (hw.at_ 0 rfl) rfl))) (aF rfl)) (aX 6 rfl rfl (isV _) (fun hNo=>sgV [(1,_)] rfl rfl rfl rfl hNo (aS rfl) ⟨cJ rfl,trivial⟩ (fun ev w he hw=>aW rfl) (aF rfl)) (aX 7 rfl rfl (isV _) (fun hNo=>sgV [(0,_)] rfl rfl rfl rfl hNo (aS rfl) ⟨cJ rfl,trivial⟩ (fun ev w he hw=>aW rfl) (aF rfl)) (aX 8 rfl rfl (isV _) (fun hNo=>sgV [(10,_)] rfl rfl rfl rfl hNo (aS rfl) ⟨aM 6 (aA rfl rfl rfl),trivial⟩ (fun ev w he hw=>cU rfl) (aF rfl)) (aX 9 rfl rfl (isV _) (fun hNo=>sgV [(11,_)] rfl rfl rfl rfl hNo (aS rfl) ⟨aM 7 (aA rfl rfl rfl),trivial⟩ (fun ev w he hw=>aV (o':=0) nI rfl rfl) (aF rfl)) (aX 10 rfl rfl (isV _) (fun hNo=>sgV [(12,_)] rfl rfl rfl rfl hNo (aS rfl) ⟨aM 8 (aA rfl rfl rfl),trivial⟩ (fun ev w he hw=>aY (vs:=[_,_,_,_,_,_,_,_,_]) isAgg57 sizeOf57 rfl ((aC.own (j:=0) (m:=9) (hw.at_ 0 rfl) rfl))) (aF rfl)) ?_)))))))))));refine aX 11 rfl rfl (dP w.heap.size S (oW S)) (fun hNo=>zA [isV _] rfl rfl rfl rfl hNo goes_70 (aS rfl) ⟨bT (aM 9 (aA rfl rfl rfl)),trivial⟩ (fun vs ev w' he hSt hlo hh=>by have e:=bW (us:=[_]) hh;subst e;exact nG hlo (Mh S a.s.f f0 w' (hsi.below hSt.below) hok)) (aF rfl)) ?_;refine mP ?_;intro Bf1 y1 W1 Ks1 hsz1 hKs1 hS' hcov1;clear hS;have hS:=hS'.castO (O':=(_::_::_::_::Ot)) rfl;clear hS';refine vU (L':=[AwS _ _ (isV _),AwS _ _ (isV _),AwS _ _ (isV _),AwS _ _ (isV _),AwS _ _ (isV _),AwS _ _ (isV _),AwS _ _ (isV _),AwS _ _ (isV _),AwS _ _ (isV _),AwS _ _ (isV _),AwS _ _ (dP w.heap.size S (oW S))]) rfl (bQ (bQ (bQ (bQ (bQ (bQ (bQ (bQ (bQ (bQ ?_))))))))));refine dF ?_;rintro vP h8p;obtain ⟨f9,rfl,hn9⟩:=h8p.here;have HX9:jC w0 (Ks1++K) (fun W2=>XIs W2 S f9 (oW S)):=fun h2 hk=>(newS hn9 h8p (hcov1 h2 (fun q hq=>hk q (List.mem_append_left _ hq))) (Nat.le_refl _)).is
 obtain ⟨K8,hK8⟩:∃ x,x=Ks1++K:=⟨_,rfl⟩;have hK98:∀ q∈K,q∈K8:=fun q hq=>by rw [hK8];exact List.mem_append_right _ hq
 rw [← hK8] at HX9 hS;refine cM (fY (vs:=[_,_,_,_]) G3 rfl (Bt S a f0 bk bm VA VX RB VA IA WA n va fs (List.replicate n (bU S)) [] Ot Gt K8 K8 w0 p f9 (oW S) (bU S) _ hS (fun q hq=>hq) (hV.more hK98) hn hp (by rw [List.getElem?_replicate,if_pos hp]) hsi hok ht (H0.more hK98) HX9 (pS hok)) rfl ?_);rintro e W9 ⟨u8,l8,fs8,Kw8,rfl,_,hV8,hl8,hS8⟩;rw [lJ (pS hok)] at hV8 hS8;obtain ⟨Kn8,hKn8⟩:∃ x,x=Kw8++K8:=⟨_,rfl⟩;rw [← hKn8] at hV8 hS8;have hsub8:∀ q∈K,q∈Kn8:=fun q hq=>by rw [hKn8];exact List.mem_append_right _ (hK98 q hq)
 refine ⟨_,rfl,?_⟩;clear hS;have hS:=hS8;clear hS8;refine aP (XF.thenN (aQ (aH rfl rfl (fY (vs:=[_]) P6 rfl (yE S a f0 bk bm VA VX RB IA WA n u8 fs8 ((List.replicate n (bU S)).set p (oW S)) l8 Ot Gt Kn8 w0 lo py kf _ hS hV8 hn (hM.more hsub8) htrow htlen htm htq hpy hkf hht hsi hok ht (H0.more hsub8)) rfl ?_))));rintro e W10 ⟨u9,l9,fs9,xs9,Kn9,rfl,hsub9,hV9,hE9,hC9,hS9⟩;refine ⟨_,rfl,?_⟩;clear hS;have hS:=hS9;clear hS9;refine aP (XF.resN (Rf results44) ?_);exact ⟨u9,l9,fs9,xs9,Kn9,rfl,(fun q hq=>hsub9 q (hsub8 q hq)),hV9,hE9,hC9,hS⟩
theorem Ke (ds d:Nat) (s:SV) (st sy:Int) (fa:Option Addr) (fl fc:Nat) (fs:List Int) (ta:Option Addr) (tl tc:Nat) (ts:List TV) (w:World) (hs:SIn w ds s) (hfrow:Row w fa fs) (hflen:fs.length=fl) (htrow:mQ w ta ts) (htlen:ts.length=tl) (htin:∀ t∈ts,WIn w d t.x) (hfm:fl≤9223372036854775807) (htm:tl≤9223372036854775807) (ra:Option Addr) (rl rc:Nat) (fr:List Int) (hra:Row w ra fr) (hrl:fr.length=rl) (hrm:rl≤9223372036854775807) :
  Calls prog 41 #[.agg #[.int .i64 s.f.tag,.int .i64 s.f.dim,.slice s.f.a s.f.len s.f.cap,.int .i64 st,.int .i64 sy,.slice fa fl fc,.slice ta tl tc],.slice ra rl rc] w (fun e w'=>e = .returned (.int .i64 (wG ⟨s,st,sy,fa,fl,fc,fs,ta,tl,tc,ts⟩ fr []))∧Below w.heap.size w w'):=by
 refine cG (args:=[.agg #[.int .i64 s.f.tag,.int .i64 s.f.dim,.slice s.f.a s.f.len s.f.cap,.int .i64 st,.int .i64 sy,.slice fa fl fc,.slice ta tl tc],.slice ra rl rc]) func41 rfl ntmps41 rfl ?_;have hS:=St.start w;refine aO (aQ (bY (cs:=[_,_,_,_,_,_,_]) hS rfl rfl rfl fun B1 W1 hS=>aB rfl rfl (aP (XF.thenN (aO (aO (aQ (aT (vs:=[_,_,_,_,_,_,_]) isAgg29 sizeOf29 rfl (aC.own (j:=0) (m:=7) (hS.at_ 0 rfl) rfl) rfl (cH (vs:=[_]) hS Ms rfl (Bq ds d ⟨s,st,sy,fa,fl,fc,fs,ta,tl,tc,ts⟩ _ (AIn.below ⟨hs,hfrow,hflen,htrow,htlen,htin,hfm,htm⟩ hS.below)) rfl fun W2 hS=>aB rfl rfl (aP (XF.thenN (aO (aQ (aH rfl rfl (dG rfl rfl rfl (aP (XF.thenN (bB rfl (fun hc=>?_) (fun hc=>?_)))))))))))))))))))
 ·have hc11:=of_decide_eq_true hc;clear hc;refine aO (aQ (aH rfl rfl (aB rfl rfl (aP (XF.thenN (bL (XF.thenR (XF.res (cI results41 rfl) ?_))))))));exact ⟨eM (by unfold wG;rw [if_pos hc11]),hS.below⟩
 ·have hc11:=of_decide_eq_false hc;clear hc;have h0:¬ dJ ⟨s,st,sy,fa,fl,fc,fs,ta,tl,tc,ts⟩≠0:=hc11;refine bP (XF.thenN (aO (aO (aQ (aH rfl rfl (cL underlying26 rfl rfl (aH rfl rfl (aP (XF.thenN (bX (eJ (fun m l W=>∃ i:Nat,i≤rl∧m=rl - i∧l=[(2,.pointer (some ⟨B1,0,none⟩)),(13,.slice ra rl rc),(14,.int .i64 (rl:Int)),(15,.int .i64 (i:Int))]∧(fr.take i).all (fun y=>inQ y st)=true∧St w [(B1,[.int .i64 s.f.tag,.int .i64 s.f.dim,.slice s.f.a s.f.len s.f.cap,.int .i64 st,.int .i64 sy,.slice fa fl fc,.slice ta tl tc],29)] [] [] W) (rl - 0) ([(2,_),(13,_),(14,_),(15,_)]) ⟨rfl,rfl,rfl,rfl,trivial⟩ (⟨0,Nat.zero_le _,rfl,rfl,rfl,hS.clear⟩) ?_)))))))))));clear hS;rintro m l W ⟨i,hi,rfl,rfl,hall,hS⟩;refine aO (aQ (cT rfl rfl rfl (aP (XF.thenN (aO (bB rfl (fun hc=>?_) (fun hc=>?_)))))))
  ·have hc16:=of_decide_eq_true hc;clear hc;have hk:i < rl:=by omega
   obtain ⟨b,off,y,rfl,hy,hyc⟩:=hra.at1 (show i < fr.length by omega);have k1:=hS.old hyc;refine bP (XF.thenN (aO (bX (aO (aQ (cK  underlying26 sizeOf3 rfl rfl rfl (by omega) rfl rfl (aR isAgg3 rfl (k1) rfl (aB rfl rfl (aP (XF.thenN (aO (aQ (aT (vs:=[_,_,_,_,_,_,_]) isAgg29 sizeOf29 rfl (aC.own (j:=0) (m:=7) (hS.at_ 0 rfl) rfl) rfl (aH rfl rfl (cH (vs:=[_,_]) hS zD rfl (vY ⟨s,st,sy,fa,fl,fc,fs,ta,tl,tc,ts⟩ y _) rfl fun W3 hS=>fB rfl rfl (aP (XF.thenN (bB rfl (fun hc=>?_) (fun hc=>?_)))))))))))))))))))
   ·have hc22:=hc;clear hc;refine aO (aQ (aB rfl rfl (aP (XF.thenN (bL (XF.blkR (XF.thenR (XF.thenR (XF.blkR (XF.thenR (XF.res (cI results41 rfl) ?_)))))))))));exact ⟨eM (by unfold wG;rw [if_neg h0,if_neg (by rw [cW hy (by have h9:=hc22;simpa using h9)];decide)]),hS.below⟩
   ·have hc22:=hc;clear hc;refine bP (XF.blkN (XF.thenN (aQ (cY rfl rfl (IntWalk.i64_in _ (by omega)) rfl (aH rfl rfl (aP ?_))))));exact XF.round (rl - (i+1)) [(2,_),(13,_),(14,_),(15,_)] (by omega) ⟨rfl,rfl,rfl,rfl,trivial⟩ ⟨i+1,by omega,rfl,rfl,eX hy hall (by have h9:=hc22;simpa using h9),hS.clear⟩
  ·have hc16:=of_decide_eq_false hc;clear hc;rw [List.take_of_length_le (by omega)] at hall;refine dT (XF.thenX (XF.thenX (XF.blkX (XF.thenN (aO (aQ (aB rfl rfl (aP (XF.thenN (bL (XF.res (cI results41 rfl) ?_)))))))))));exact ⟨eM (by unfold wG;rw [if_neg h0,if_pos hall,if_pos (show ([]:List Int).all _=true from rfl)]),hS.below⟩
theorem Hb (ds d:Nat) (a:AV) (w:World) (h:AIn w ds d a) (ra:Option Addr) (rl rc:Nat) (fr:List Int) (hra:Row w ra fr) (hrl:fr.length=rl) (hrm:rl≤9223372036854775807):Calls prog 41 #[a.val,.slice ra rl rc] w (fun e w'=>e = .returned (.int .i64 (wG a fr []))∧Below w.heap.size w w'):=Ke ds d _ _ _ _ _ _ _ _ _ _ _ w h.s h.frow h.flen h.trow h.tlen h.tin h.fmax h.tmax ra rl rc fr hra hrl hrm
end
end Go.Proofs.YtbmieipifgailaaGreatDoor
