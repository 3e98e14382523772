import Derived.Test.YtbacgnhkapancaaGreatZPMn
import Derived.Test.YtbacgnhkapancaaGreatZTKeep
set_option linter.all false
namespace Go.Proofs.YtbacgnhkapancaaGreat
open List (getD_eq_getElem?_getD mem_map range)
open Or (inl inr)
open Int (toNat_natCast toNat_of_nonneg)
def kt(D:Dd)(f:Nat->Nat)(i c:Nat):Int:=if D.nx i c=-1 then -1 else ((f (D.nx i c).toNat:Nat):Int)
def eG(D:Dd)(i:Int)(E:Dd)(j:Int):Prop:=∀(z:Nat->Nat) (m:Nat),(∀k,z k<256)->bu D (bx D i z m)=bu E (bx E j z m)
theorem eG.refl(D:Dd)(i:Int):eG D i D i:=fun z m hz=>rfl
theorem eG.symm{D E:Dd}{i j:Int}(h:eG D i E j):eG E j D i:=fun z m hz=>(h z m hz).symm
theorem eG.trans{D E F:Dd}{i j k:Int}(h:eG D i E j)(h2:eG E j F k):eG D i F k:=fun z m hz=>(h z m hz).trans (h2 z m hz)
theorem eG.mark{D E:Dd}{i j:Int}(h:eG D i E j):bu D i=bu E j:=h (fun _=>0) 0 (fun _=>by omega)
theorem Vp(D:Dd)(i:Int)(b:Nat)(z:Nat->Nat)(m:Nat):bx D i (fun k=>if k=0 then b else z (k-1)) (m+1)=bx D (bH D i b) z m:=by
 induction m with
 | zero=>rfl
 | succ m ih=>
  show bH D (bx D i (fun k=>if k=0 then b else z (k-1)) (m+1)) (if m+1=0 then b else z (m+1-1))=_;rw[ih,if_neg (by omega)];rfl
theorem eG.step{D E:Dd}{i j:Int}(h:eG D i E j){b:Nat}(hb:b<256):eG D (bH D i b) E (bH E j b):=fun z m hz=>by
 have:=h (fun k=>if k=0 then b else z (k-1)) (m+1) (fun k=>by split;exact hb;exact hz _)
 rwa [Vp,Vp] at this
theorem eG.jZ{D E:Dd}(R:Int->Int->Prop)(hm:∀i j,R i j->bu D i=bu E j)(hs:∀i j b,R i j->b<256->R (bH D i b) (bH E j b)){i j:Int}(h:R i j):eG D i E j:=fun z m hz=>by
 have:R (bx D i z m) (bx E j z m):=by
  induction m with
  | zero=>exact h
  | succ m ih=>exact hs _ _ _ ih (hz m)
 exact hm _ _ this
theorem tQ(D:Dd):bu D (-1)=-1:=by unfold bu;rw[if_neg (by omega)]
theorem eG.dead(D E:Dd):eG D (-1) E (-1):=eG.jZ (fun i j=>i=-1/\j=-1) (fun i j h=>by rw[h.1,h.2,tQ,tQ]) (fun i j b h hb=>by rw[h.1,h.2];exact⟨ry _ _,ry _ _⟩) ⟨rfl,rfl⟩
theorem tV(D:Dd){i b:Nat}(hi:i<D.n):bH D (i:Int) b=D.nx i (D.K b):=by
 unfold bH;rw[if_pos (by omega),toNat_natCast]
theorem xZ(D:Dd){i:Nat}(hi:i<D.n):bu D (i:Int)=D.q i:=by
 unfold bu;rw[if_pos (by omega),toNat_natCast]
theorem eG.nx{D E:Dd}{C:Nat}(hR:DR D C){i j:Nat}(hi:i<D.n)(hj:j<E.n)(hK:∀b,b<256->D.K b=E.K b)(h:eG D i E j){c:Nat}(hc:c<C):eG D (D.nx i c) E (E.nx j c):=by
 obtain⟨b,hb,e⟩:=hR.zy c hc;have:=h.step hb;rw[tV _ hi,tV _ hj,<-hK b hb,e] at this;exact this
theorem eG.nx1{D:Dd}{C:Nat}(hR:DR D C){i j:Nat}(hi:i<D.n)(hj:j<D.n)(h:eG D i D j){c:Nat}(hc:c<C):eG D (D.nx i c) D (D.nx j c):=h.nx hR hi hj (fun _ _=>rfl) hc
def rK(D:Dd)(i:Nat):Int:=if i<D.n then ((i:Nat):Int) else -1
theorem MM{D:Dd}{i:Nat}(h:i<D.n):rK D i=(i:Int):=by unfold rK;rw[if_pos h]
theorem Xl(D:Dd):rK D D.n=-1:=by unfold rK;rw[if_neg (by omega)]
theorem MS(D:Dd)(i:Nat):bu D (rK D i)=mD D i:=by
 unfold rK mD;by_cases h:i<D.n
 ·rw[if_pos h,if_pos h,xZ _ h]
 rw[if_neg h,if_neg h,tQ]
theorem LH{D:Dd}{C:Nat}(hR:DR D C)(i b:Nat)(hb:b<256):bH D (rK D i) b=rK D (tD D i (D.K b)):=by
 have hc:=hR.c.1 b hb;unfold tD;by_cases h:i<D.n
 ·have:=hR.nx i _ h hc;rw[MM h,tV _ h];by_cases h2:0<=D.nx i (D.K b)
  ·rw[if_pos ⟨h,h2⟩,MM (by omega)];omega
  rw[if_neg (fun h3=>h2 h3.2),Xl];omega
 rw[if_neg (fun h3=>h h3.1),Xl];have:rK D i=-1:=by unfold rK;rw[if_neg h]
 rw[this,ry]
theorem zo3{D:Dd}{C:Nat}(hR:DR D C)(i j:Nat):lj C (tD D) (mD D) i j↔eG D (rK D i) D (rK D j):=by
 constructor
 ·intro h;refine eG.jZ (fun x y=>∃i j,x=rK D i/\y=rK D j/\lj C (tD D) (mD D) i j) ?_ ?_ ⟨i,j,rfl,rfl,h⟩
  ·rintro x y ⟨i,j,rfl,rfl,h⟩;rw[MS,MS];exact h.mark
  rintro x y b ⟨i,j,rfl,rfl,h⟩ hb;exact⟨_,_,LH hR i b hb,LH hR j b hb,h.step (hR.c.1 b hb)⟩
 intro h;refine lj.jZ (fun i j=>eG D (rK D i) D (rK D j)) (fun i j h=>⟨?_,fun c hc=>?_⟩) h
 ·rw[<-MS,<-MS];exact h.mark
 obtain⟨b,hb,rfl⟩:=hR.zy c hc;rw[<-LH hR i b hb,<-LH hR j b hb];exact h.step hb
def vH(D:Dd)(C:Nat):Prop:=∀i c,i<D.n->c<C->D.nx i c≠-1->¬eG D (D.nx i c) D (-1)
theorem zo4{D:Dd}{C:Nat}(hR:DR D C){j:Nat}(hj:j<D.n)(ha:vw D j):¬eG D j D (-1):=by
 intro h;obtain⟨k,h1,h2⟩:=ha;have key:k<D.n/\eG D k D (-1):=by
  clear h2
  induction h1 with
  | base e=>subst e;exact⟨hj,h⟩
  | @step x y _ e ih=>
   obtain⟨i1,i2⟩:=ih;obtain⟨_,c,hc,e2⟩:=e;rw[hR.len x i1] at hc;obtain⟨b,hb,rfl⟩:=hR.zy c hc;have h3:=i2.step hb;rw[tV _ i1,ry,e2] at h3;have:=hR.nx x _ i1 hc;exact⟨by omega,h3⟩
 have h3:=key.2.mark;rw[xZ _ key.1,tQ] at h3;omega
theorem zo5{D:Dd}{C:Nat}(hR:DR D C){j:Nat}(hj:j<D.n)(ha:¬vw D j):eG D j D (-1):=by
 refine eG.jZ (fun x y=>y=-1/\(x=-1\/∃j:Nat,x=j/\j<D.n/\¬vw D j)) ?_ ?_ ⟨rfl,inr ⟨j,rfl,hj,ha⟩⟩
 ·rintro x y ⟨rfl,rfl|⟨j,rfl,hj,ha⟩⟩
  ·rfl
  rw[xZ _ hj,tQ];have:=hR.q j hj;have h2:¬0<=D.q j:=fun h=>ha ⟨j,.base rfl,h⟩
  omega
 rintro x y b ⟨rfl,rfl|⟨j,rfl,hj,ha⟩⟩ hb
 ·exact⟨ry _ _,inl (ry _ _)⟩
 refine⟨ry _ _,?_⟩;rw[tV _ hj];have hc:=hR.c.1 b hb;have:=hR.nx j _ hj hc;by_cases e:D.nx j (D.K b)=-1
 ·exact inl e
 refine inr ⟨(D.nx j (D.K b)).toNat,by omega,by omega,fun h=>ha (vw.of ⟨hj,D.K b,?_,by omega⟩ h)⟩;rw[hR.len j hj];exact hc
theorem oJ.qL{D T:Dd}{C:Nat}(hR:DR D C)(h:oJ D C D.n (nG D) D.q T){i:Nat}(hi:i<D.n):eG T i D i:=by
 obtain⟨e1,e2,e3,e4,e5,e6⟩:=h;refine eG.jZ (fun x y=>(x=-1/\eG D y D (-1))\/∃j:Nat,x=j/\y=j/\j<D.n) ?_ ?_ (inr ⟨i,rfl,rfl,hi⟩)
 ·rintro x y (⟨rfl,h2⟩|⟨j,rfl,rfl,hj⟩)
  ·rw[tQ,h2.mark,tQ]
  rw[xZ _ hj,xZ _ (by omega),e6 j hj]
 rintro x y b (⟨rfl,h2⟩|⟨j,rfl,rfl,hj⟩) hb
 ·left;have:=h2.step hb;rw[ry D] at this;exact⟨ry _ _,this⟩
 have hc:=hR.c.1 b hb;have hx:=hR.nx j _ hj hc;rw[tV _ hj,tV _ (by omega),e1,e5 j hj _ hc];unfold nG;split
 ·rename_i h3;left;refine⟨rfl,?_⟩;have:=zo5 hR (j:=(D.nx j (D.K b)).toNat) (by omega) h3.2;rw[toNat_of_nonneg h3.1] at this;exact this
 by_cases e:D.nx j (D.K b)=-1
 ·rw[e];exact inl ⟨rfl,eG.refl _ _⟩
 exact inr ⟨(D.nx j (D.K b)).toNat,by omega,by omega,by omega⟩
theorem oJ.xJ{D T:Dd}{C:Nat}(hR:DR D C)(h:oJ D C D.n (nG D) D.q T):vH T C:=by
 have h0:=h;obtain⟨e1,e2,e3,e4,e5,e6⟩:=h;intro i c hi hc hne hb;rw[e2] at hi;have hx:=hR.nx i c hi hc;rw[e5 i hi c hc] at hne hb;unfold nG at hne hb;split at hne
 ·exact hne rfl
 rename_i h3;rw[if_neg h3] at hb;have h4:vw D (D.nx i c).toNat:=Classical.byContradiction fun h=>h3 ⟨by omega,h⟩
 have hj:(D.nx i c).toNat<D.n:=by omega
 have h5:=h0.qL hR hj;rw[toNat_of_nonneg (by omega)] at h5;have h6:=(h5.symm.trans hb).trans (eG.dead T D);have h7:=zo4 hR hj h4;rw[toNat_of_nonneg (by omega)] at h7;exact h7 h6
section
variable {D O : Dd}{C k : Nat}{l : List Nat}
theorem oJ.pB(hR:DR D C)(hl:l=dr (ar D.len D.nx) [0] k)(dN:l.length=k)(h:oJ D C k (iJ D l) (fun i=>D.q (l.getD i 0)) O){i:Nat}(hi:i<k):eG O i D ((l.getD i 0:Nat):Int):=by
 subst hl;have OG:0<C:=by have:=hR.c.1 0 (by omega);omega
 obtain⟨e1,e2,e3,e4,e5,e6⟩:=h;refine eG.jZ (fun x y=>(x=-1/\y=-1)\/∃j:Nat,x=j/\y=(((dr (ar D.len D.nx) [0] k).getD j 0:Nat):Int)/\j<k) ?_ ?_ (inr ⟨i,rfl,rfl,hi⟩)
 ·rintro x y (⟨rfl,rfl⟩|⟨j,rfl,rfl,hj⟩)
  ·rw[tQ,tQ]
  rw[xZ _ (by omega),xZ _ (BA hR dN j 0 hj OG).1,e6 j hj]
 rintro x y b (⟨rfl,rfl⟩|⟨j,rfl,rfl,hj⟩) hb
 ·exact inl ⟨ry _ _,ry _ _⟩
 have hc:=hR.c.1 b hb;have hs:=BA hR dN j _ hj hc;rw[tV _ (by omega),tV _ hs.1,e1,e5 j hj _ hc];rcases hs.2 with ⟨h4,h5⟩|⟨j2,hj2,h4,h5⟩
 ·exact inl ⟨h5,h4⟩
 exact inr ⟨j2,h4,h5,hj2⟩
theorem oJ.ti(hR:DR D C)(hT:vH D C)(hl:l=dr (ar D.len D.nx) [0] k)(dN:l.length=k)(h:oJ D C k (iJ D l) (fun i=>D.q (l.getD i 0)) O):vH O C:=by
 have hb:=fun i (hi:i<k)=>h.pB hR hl dN hi
 subst hl;obtain⟨e1,e2,e3,e4,e5,e6⟩:=h;intro i c hi hc hne hd;rw[e2] at hi;rw[e5 i hi c hc] at hne hd;have hs:=BA hR dN i c hi hc;rcases hs.2 with ⟨h4,h5⟩|⟨j,hj,h4,h5⟩
 ·exact hne h5
 rw[h4] at hd;have h6:=((hb j hj).symm.trans hd).trans (eG.dead O D);rw[<-h5] at h6;exact hT _ c hs.1 hc (by omega) h6
def nZ(D:Dd):Prop:=dr (ar D.len D.nx) [0] D.n=range D.n
theorem zgr{l:List Nat}(hn:l.Nodup):l.map (fun x=>l.idxOf x)=range l.length:=by
 apply List.ext_getElem
 ·simp
 intro i h1 h2;simp at h1;rw[List.getElem_map,List.getElem_range];exact hn.idxOf_getElem i h1
theorem zmQ{l m:List Nat}(hm:∀x∈m,x∈l){t:Int}(ht:-1<=t)(Hc:t≠-1->t.toNat∈l):iY (m.map fun x=>l.idxOf x) (zb l t)=(iY m t).map fun x=>l.idxOf x:=by
 unfold zb;by_cases e:t=-1
 ·subst e;rw[if_pos rfl];unfold iY;rw[if_neg (fun h=>by omega),if_neg (fun h=>by omega)]
 rw[if_neg e];have h2:=Hc e;unfold iY;have Gu:(((l.idxOf t.toNat:Nat):Int).toNat∈m.map fun x=>l.idxOf x)↔t.toNat∈m:=by
  rw[toNat_natCast,mem_map];constructor
  ·rintro⟨x,hx,e2⟩;have h3:=hm x hx;have h4:=List.getElem_idxOf (List.idxOf_lt_length_iff.2 h3);have h5:=List.getElem_idxOf (List.idxOf_lt_length_iff.2 h2);simp only[e2] at h4;rw[h4] at h5;rw[<-h5];exact hx
  intro h;exact⟨_,h,rfl⟩
 by_cases h3:t.toNat∈m
 ·rw[if_neg (fun h=>h.2 (Gu.2 h3)),if_neg (fun h=>h.2 h3)]
 rw[if_pos ⟨by omega,fun h=>h3 (Gu.1 h)⟩,if_pos ⟨by omega,h3⟩,List.map_append];simp
theorem zmR{l:List Nat}(row:List Int):∀m:List Nat,(∀x∈m,x∈l)->(∀t∈row,-1<=t/\(t≠-1->t.toNat∈l))->ij (m.map fun x=>l.idxOf x) (row.map (zb l))=(ij m row).map fun x=>l.idxOf x:=by
 induction row with
 | nil=>intro m _ _;rfl
 | cons t row ih=>
  intro m hm hr;show ij (iY (m.map fun x=>l.idxOf x) (zb l t)) (row.map (zb l))=(ij (iY m t) row).map fun x=>l.idxOf x
  have h1:=hr t (by simp);rw[zmQ hm h1.1 h1.2];refine ih _ (fun x hx=>?_) (fun u hu=>hr u (by simp[hu]));rcases (Yb m t x).1 hx with h2|h2
  ·exact hm x h2
  have:=h1.2 (by omega);rw[h2] at this;simpa using this
theorem oJ.Gt(hR:DR D C)(hl:l=dr (ar D.len D.nx) [0] k)(dN:l.length=k)(h:oJ D C k (iJ D l) (fun i=>D.q (l.getD i 0)) O):nZ O:=by
 obtain⟨e1,e2,e3,e4,e5,e6⟩:=h;have gm:∀x∈l,x<D.n:=by rw[hl];exact MF hR k
 have fW:∀i (hi:i<k),∀y,WE (ar D.len D.nx) (l.getD i 0) y->y∈l:=by
  intro i hi y hy;have lp:i<l.length:=by omega
  have:=KW (ar D.len D.nx) [0] k i hi;rw[<-hl] at this;refine this lp y ?_;have e:l.getD i 0=l[i]:=by simp[getD_eq_getElem?_getD,lp]
  rwa [e] at hy
 have jr:l.Nodup:=by rw[hl];exact Ko _ (by simp) _
 have key:∀i,i<=k->dr (ar O.len O.nx) [0] i=(dr (ar D.len D.nx) [0] i).map fun x=>l.idxOf x:=by
  intro i
  induction i with
  | zero=>
   intro _;show [0]=[l.idxOf 0];have h1:=KY (ar D.len D.nx) [0] k;rw[<-hl] at h1;rw[zp2 h1 (by simp)];simp
  | succ i ih=>
   intro hi;have ih:=ih (by omega);show oK (ar O.len O.nx) (dr (ar O.len O.nx) [0] i) i=(oK (ar D.len D.nx) (dr (ar D.len D.nx) [0] i) i).map _;have q8:dr (ar D.len D.nx) [0] i <+: l:=(by rw[hl];exact zqN (by omega));rw[ih];unfold oK;rw[List.length_map];split
   ·rename_i an;generalize dr (ar D.len D.nx) [0] i=m at q8 an⊢;have e7:m.getD i 0=l.getD i 0:=by
     have h8:=q8.getElem an;simp[getD_eq_getElem?_getD,an,h8,show i<l.length by omega]
    have e8:(m.map fun x=>l.idxOf x).getD i 0=i:=by
     have h9:(List.map (fun x=>l.idxOf x) l)[i]?=some i:=(by rw[zgr jr,List.getElem?_range (by omega)]);rw[getD_eq_getElem?_getD];have ZL:=(q8.map (fun x=>l.idxOf x)).getElem (i:=i) (by simpa using an);rw[List.getElem?_eq_getElem (by simpa using an),ZL];rw[List.getElem?_eq_getElem (by simp;omega)] at h9;exact Option.some.inj h9
    rw[e8,e7];have jq:l.getD i 0<D.n:=by
     have lp:i<l.length:=(by omega);rw[show l.getD i 0=l[i] by simp[getD_eq_getElem?_getD,lp]];exact gm _ (List.getElem_mem lp)
    have e9:ar O.len O.nx i=(ar D.len D.nx (l.getD i 0)).map (zb l):=by
     unfold ar;rw[e4 i (by omega),hR.len _ jq,List.map_map];refine(List.map_congr_left fun c hc=>?_);rw[e5 i (by omega) c (List.mem_range.1 hc)];rfl
    rw[e9];refine zmR _ _ (fun x hx=>q8.subset hx) (fun t ht=>?_);have h11:-1<=t:=by
     unfold ar at ht;obtain⟨c,hc,rfl⟩:=List.mem_map.1 ht;have hc:=List.mem_range.1 hc;rw[hR.len _ jq] at hc;exact (hR.nx _ c jq hc).1
    refine⟨h11,fun hne=>fW i (by omega) _ ?_⟩;unfold WE;rw[toNat_of_nonneg (by omega)];exact ht
   rfl
 unfold nZ;rw[e2,key k (Nat.le_refl _),<-hl,zgr jr,dN]
theorem nZ.all{X:Dd}(h:nZ X){i:Nat}(hi:i<X.n):jv (WE (ar X.len X.nx)) (fun y=>y∈[0]) i:=by
 have h2:=Zo (ar X.len X.nx) [0] X.n;rw[h] at h2;exact h2 i (List.mem_range.2 hi)
end
def js(D:Dd)(n:Nat)(a b:Nat):Prop:=∀i,i<n->D.nx i (D.K a)=D.nx i (D.K b)
structure Mn (X:Dd)(C:Nat):Prop where
 r:DR X C
 ord:nZ X
 Er:vH X C
 apart:∀i j,i<X.n->j<X.n->eG X i X j->i=j
 cls:fD (js X X.n) 256 X.K C
section
variable {O M : Dd}{C B : Nat}{f : Nat → Nat}
def qV(O:Dd)(C:Nat)(f:Nat->Nat)(B:Nat)(M:Dd):Prop:=oJ O C B (fun b c=>kt O f ((bD f O.n).getD b 0) c) (fun b=>O.q ((bD f O.n).getD b 0)) M
theorem Ab(hN:fD (lj C (tD O) (mD O)) O.n f B){b:Nat}(hb:b<B):(bD f O.n).getD b 0<O.n/\f ((bD f O.n).getD b 0)=b:=by
 obtain⟨a1,a2,a3⟩:=hN.bD O.n (Nat.le_refl _);have h:=hN.ib;obtain⟨x,h1,h2,h3⟩:=a2 b (by omega);have e:(bD f O.n).getD b 0=x:=by rw[getD_eq_getElem?_getD,h1];rfl
 rw[e];exact⟨zip f _ _ (List.mem_of_getElem? h1),h2⟩
theorem IJ(hR:DR O C)(hN:fD (lj C (tD O) (mD O)) O.n f B){i j:Nat}(hi:i<O.n)(hj:j<O.n):f i=f j↔eG O i O j:=by
 rw[hN.same i j hi hj,zo3 hR,MM hi,MM hj]
theorem qV.parts(h:qV O C f B M):M.K=O.K/\M.n=B/\M.m=B/\(∀i,i<B->M.len i=C)/\(∀i,i<B->∀c,c<C->M.nx i c=kt O f ((bD f O.n).getD i 0) c)/\∀i,i<B->M.q i=O.q ((bD f O.n).getD i 0):=h
theorem qV.xN(hR:DR O C)(hN:fD (lj C (tD O) (mD O)) O.n f B)(h:qV O C f B M){i:Nat}(hi:i<O.n):eG M ((f i:Nat):Int) O i:=by
 obtain⟨e1,e2,e3,e4,e5,e6⟩:=h.parts;refine eG.jZ (fun x y=>(x=-1/\eG O y O (-1))\/∃j:Nat,x=((f j:Nat):Int)/\j<O.n/\eG O y O j) ?_ ?_ (inr ⟨i,rfl,hi,eG.refl _ _⟩)
 ·rintro x y (⟨rfl,h2⟩|⟨j,rfl,hj,h2⟩)
  ·rw[tQ,h2.mark,tQ]
  have hf:=hN.lt j hj;obtain⟨r1,r2⟩:=Ab hN hf;have h3:=(IJ hR hN r1 hj).1 r2;rw[xZ _ (by omega),e6 _ hf,h2.mark,<-h3.mark,xZ _ r1]
 rintro x y b (⟨rfl,h2⟩|⟨j,rfl,hj,h2⟩) hb
 ·have:=h2.step hb;rw[ry O] at this;exact inl ⟨ry _ _,this⟩
 have hf:=hN.lt j hj;obtain⟨r1,r2⟩:=Ab hN hf;have h3:=h2.trans ((IJ hR hN r1 hj).1 r2).symm;have hc:=hR.c.1 b hb;have h4:=h3.step hb;have hx:=hR.nx _ _ r1 hc;rw[tV O r1] at h4;rw[tV M (by omega),e1,e5 _ hf _ hc];unfold kt;split
 ·rename_i h5;rw[h5] at h4;exact inl ⟨rfl,h4⟩
 refine inr ⟨(O.nx ((bD f O.n).getD (f j) 0) (O.K b)).toNat,rfl,by omega,?_⟩;rw[toNat_of_nonneg (by omega)];exact h4
theorem qV.right(hR:DR O C)(hN:fD (lj C (tD O) (mD O)) O.n f B)(h:qV O C f B M):DR M C:=by
 obtain⟨e1,e2,e3,e4,e5,e6⟩:=h.parts;have h1:=hR.n1;have h2:=hR.n2;have l8:1<=B:=by have:=hN.lt 0 (by omega);omega
 have mK:B<=O.n:=by have:=hN.ib;have:=TF f O.n;omega
 refine⟨by rw[e1];exact hR.c,by omega,by omega,by omega,fun c hc=>by rw[e1];exact hR.zy c hc,fun i hi=>e4 i (by omega),fun i hi=>?_,fun i c hi hc=>?_⟩
 ·rw[e6 i (by omega)];exact hR.q _ (Ab hN (by omega)).1
 rw[e5 i (by omega) c hc,e2];have hr:=(Ab hN (b:=i) (by omega)).1;have:=hR.nx _ c hr hc;unfold kt;split
 ·omega
 have:=hN.lt (O.nx ((bD f O.n).getD i 0) c).toNat (by omega);omega
theorem qV.apart(hR:DR O C)(hN:fD (lj C (tD O) (mD O)) O.n f B)(h:qV O C f B M){a b:Nat}(ha:a<B)(hb:b<B)(CO:eG M a M b):a=b:=by
 obtain⟨a1,a2⟩:=Ab hN ha;obtain⟨b1,b2⟩:=Ab hN hb;have h1:=h.xN hR hN a1;have h2:=h.xN hR hN b1;rw[a2] at h1;rw[b2] at h2;have:=(IJ hR hN a1 b1).2 ((h1.symm.trans CO).trans h2);omega
theorem qV.nx(hR:DR O C)(hT:vH O C)(hN:fD (lj C (tD O) (mD O)) O.n f B)(h:qV O C f B M){i c:Nat}(hi:i<O.n)(hc:c<C):M.nx (f i) c=kt O f i c:=by
 obtain⟨e1,e2,e3,e4,e5,e6⟩:=h.parts;have hf:=hN.lt i hi;obtain⟨r1,r2⟩:=Ab hN hf;have h3:=(IJ hR hN r1 hi).1 r2;have h4:=h3.nx1 hR r1 hi hc;rw[e5 _ hf c hc];have x1:=hR.nx _ c r1 hc;have x2:=hR.nx _ c hi hc;unfold kt;by_cases g1:O.nx ((bD f O.n).getD (f i) 0) c=-1
 ·by_cases g2:O.nx i c=-1
  ·rw[if_pos g1,if_pos g2]
  rw[g1] at h4;exact absurd h4.symm (hT i c hi hc g2)
 by_cases g2:O.nx i c=-1
 ·rw[g2] at h4;exact absurd h4 (hT _ c r1 hc g1)
 rw[if_neg g1,if_neg g2];congr 1;refine (IJ hR hN (by omega) (by omega)).2 ?_;rw[toNat_of_nonneg (by omega),toNat_of_nonneg (by omega)];exact h4
theorem qV.Er(hR:DR O C)(hT:vH O C)(hN:fD (lj C (tD O) (mD O)) O.n f B)(h:qV O C f B M):vH M C:=by
 intro b c hb hc hne hd;have hb:b<B:=by rw[h.2.1] at hb;exact hb
 obtain⟨r1,r2⟩:=Ab hN hb;have hx:=hR.nx _ c r1 hc;have e:=h.nx hR hT hN r1 hc;rw[r2] at e;rw[e] at hne hd;unfold kt at hne hd;by_cases g:O.nx ((bD f O.n).getD b 0) c=-1
 ·rw[if_pos g] at hne;exact hne rfl
 rw[if_neg g] at hd;have h2:=h.xN hR hN (i:=(O.nx ((bD f O.n).getD b 0) c).toNat) (by omega);have h3:=(h2.symm.trans hd).trans (eG.dead M O);rw[toNat_of_nonneg (by omega)] at h3;exact hT _ c r1 hc g h3
end
section
variable {M P : Dd}{C C' : Nat}{g : Nat → Nat}
structure sD (M:Dd)(g:Nat->Nat)(C':Nat)(P:Dd):Prop where
 K:∀b,b<256->P.K b=g b
 n:P.n=M.n
 m:P.m=M.n
 len:∀i,i<M.n->P.len i=C'
 nx:∀i,i<M.n->∀c,c<C'->P.nx i c=M.nx i (M.K ((bD g 256).getD c 0))
 q:∀i,i<M.n->P.q i=M.q i
theorem FK(hN:fD (js M M.n) 256 g C'){c:Nat}(hc:c<C'):(bD g 256).getD c 0<256/\g ((bD g 256).getD c 0)=c:=by
 obtain⟨a1,a2,a3⟩:=hN.bD 256 (Nat.le_refl _);have h:=hN.ib;obtain⟨x,h1,h2,h3⟩:=a2 c (by omega);have e:(bD g 256).getD c 0=x:=by rw[getD_eq_getElem?_getD,h1];rfl
 rw[e];exact⟨zip g _ _ (List.mem_of_getElem? h1),h2⟩
theorem sD.byte(hN:fD (js M M.n) 256 g C')(h:sD M g C' P){i b:Nat}(hi:i<M.n)(hb:b<256):P.nx i (P.K b)=M.nx i (M.K b):=by
 have hg:=hN.lt b hb;obtain⟨r1,r2⟩:=FK hN hg;rw[h.K b hb,h.nx i hi _ hg];exact (hN.same _ b r1 hb).1 r2 i hi
theorem sD.right(hR:DR M C)(hN:fD (js M M.n) 256 g C')(h:sD M g C' P):DR P C':=by
 have h1:=hR.n1;have h2:=hR.n2;have Kn:1<=C':=by have:=hN.lt 0 (by omega);omega
 refine⟨⟨fun j hj=>by rw[h.K j hj];exact hN.lt j hj,?_⟩,by rw[h.n];exact h1,by rw[h.n];exact h2,by rw[h.m,h.n],fun c hc=>?_,fun i hi=>h.len i (by rw[h.n] at hi;exact hi),fun i hi=>?_,fun i c hi hc=>?_⟩
 ·obtain⟨r1,r2⟩:=FK hN (c:=C'-1) (by omega);exact⟨_,r1,by rw[h.K _ r1,r2];omega⟩
 ·obtain⟨r1,r2⟩:=FK hN hc;exact⟨_,r1,by rw[h.K _ r1,r2]⟩
 ·rw[h.n] at hi;rw[h.q i hi];exact hR.q i hi
 rw[h.n] at hi⊢;rw[h.nx i hi c hc];exact hR.nx i _ hi (hR.c.1 _ (FK hN hc).1)
theorem sD.xN(hR:DR M C)(hN:fD (js M M.n) 256 g C')(h:sD M g C' P){i:Nat}(hi:i<M.n):eG P i M i:=by
 refine eG.jZ (fun x y=>x=y/\(x=-1\/∃j:Nat,x=j/\j<M.n)) ?_ ?_ ⟨rfl,inr ⟨i,rfl,hi⟩⟩
 ·rintro x y ⟨rfl,rfl|⟨j,rfl,hj⟩⟩
  ·rw[tQ,tQ]
  rw[xZ _ (by rw[h.n];exact hj),xZ _ hj,h.q j hj]
 rintro x y b ⟨rfl,rfl|⟨j,rfl,hj⟩⟩ hb
 ·exact⟨by rw[ry,ry],inl (ry _ _)⟩
 have hx:=hR.nx j _ hj (hR.c.1 b hb);rw[tV _ (by rw[h.n];exact hj),tV _ hj,h.byte hN hj hb];refine⟨rfl,?_⟩;by_cases e:M.nx j (M.K b)=-1
 ·exact inl e
 exact inr ⟨(M.nx j (M.K b)).toNat,by omega,by omega⟩
theorem sD.Er(hR:DR M C)(hT:vH M C)(hN:fD (js M M.n) 256 g C')(h:sD M g C' P):vH P C':=by
 intro i c hi hc hne hd;rw[h.n] at hi;have hk:=hR.c.1 _ (FK hN hc).1;rw[h.nx i hi c hc] at hne hd;have hx:=hR.nx i _ hi hk;have h2:=h.xN hR hN (i:=(M.nx i (M.K ((bD g 256).getD c 0))).toNat) (by omega);rw[toNat_of_nonneg (by omega)] at h2;exact hT i _ hi hk hne ((h2.symm.trans hd).trans (eG.dead P M))
theorem sD.apart(hR:DR M C)(hN:fD (js M M.n) 256 g C')(h:sD M g C' P)(hA:∀i j,i<M.n->j<M.n->eG M i M j->i=j){i j:Nat}(hi:i<P.n)(hj:j<P.n)(hb:eG P i P j):i=j:=by
 rw[h.n] at hi hj;exact hA i j hi hj (((h.xN hR hN hi).symm.trans hb).trans (h.xN hR hN hj))
theorem sD.cls(hN:fD (js M M.n) 256 g C')(h:sD M g C' P):fD (js P P.n) 256 P.K C':=by
 refine (hN.iff (R':=js P P.n) (fun a b ha hb=>?_)).congr (fun b hb=>(h.K b hb).symm);constructor
 ·intro h2 i hi;rw[h.n] at hi;rw[h.byte hN hi ha,h.byte hN hi hb];exact h2 i hi
 intro h2 i hi;have:=h2 i (by rw[h.n];exact hi);rwa [h.byte hN hi ha,h.byte hN hi hb] at this
end
theorem Wj{D:Dd}{x y:Nat}(hx:x<D.n):WE (ar D.len D.nx) x y↔Ed D x y:=by
 unfold WE ar Ed;rw[mem_map];constructor
 ·rintro⟨c,hc,e⟩;exact⟨hx,c,List.mem_range.1 hc,e⟩
 rintro⟨_,c,hc,e⟩;exact⟨c,List.mem_range.2 hc,e⟩
theorem nZ.rch{X:Dd}{C:Nat}(hR:DR X C)(h:nZ X){i:Nat}(hi:i<X.n):jv (Ed X) (fun y=>y=0) i:=by
 have h2:=h.all hi;have hn:=hR.n1;have key:∀x,jv (WE (ar X.len X.nx)) (fun y=>y∈[0]) x->x<X.n/\jv (Ed X) (fun y=>y=0) x:=by
  intro x hx
  induction hx with
  | base h=>simp at h;subst h;exact⟨by omega,.base rfl⟩
  | step _ e ih=>
   have:=(Wj ih.1).1 e;exact⟨hR.ed _ _ this,.step ih.2 this⟩
 exact (key i h2).2
theorem Mn.made{O M P X:Dd}{C B C' k:Nat}{f g:Nat->Nat}{l:List Nat}(hR:DR O C)(hO:nZ O)(hT:vH O C)(hN:fD (lj C (tD O) (mD O)) O.n f B)(hM:qV O C f B M)(hG:fD (js M M.n) 256 g C')(hP:sD M g C' P)
  (hl:l=dr (ar P.len P.nx) [0] k) (dN:l.length=k) (rG:k<=P.n) (hX:oJ P C' k (iJ P l) (fun i=>P.q (l.getD i 0)) X):Mn X C'/\eG X 0 O 0:=by
 have MG:=hM.right hR hN;have za:=hP.right MG hG;have hTM:=hM.Er hR hT hN;have hTP:=hP.Er MG hTM hG;have ZQ:=hX;have cZ:=hR.n1;have rL:M.n=B:=hM.2.1;have hAM:∀i j,i<M.n->j<M.n->eG M i M j->i=j:=fun i j hi hj=>hM.apart hR hN (by omega) (by omega)
 have hRX:DR X C':=by subst hl;exact hX.oW za dN rG
 have qc:=fun i (hi:i<k)=>hX.pB za hl dN hi
 obtain⟨e1,e2,e3,e4,e5,e6⟩:=hX;have gm:∀x∈l,x<P.n:=by rw[hl];exact MF za k
 have jr:l.Nodup:=by rw[hl];exact Ko _ (by simp) _
 have uY:∀i,i<k->l.getD i 0∈l:=fun i hi=>by
  rw[show l.getD i 0=l[i]'(by omega) by simp[getD_eq_getElem?_getD,show i<l.length by omega]];exact List.getElem_mem _
 have f0:f 0=0:=by have:=hN.le 0 (by omega);omega
 have eb:∀a,a<P.n->a∈l:=by
  intro a ha;rw[hP.n,rL] at ha;have iQ:=RE (ar P.len P.nx) [0] (i:=k) (by rw[<-hl];exact dN);rw[<-hl] at iQ;rw[iQ];obtain⟨r1,r2⟩:=Ab hN ha;have h1:=hO.rch hR r1;rw[<-r2];have key:∀x,jv (Ed O) (fun y=>y=0) x->x<O.n/\jv (WE (ar P.len P.nx)) (fun y=>y∈[0]) (f x):=by
   intro x hx
   induction hx with
   | base h=>subst h;exact⟨by omega,.base (by rw[f0];simp)⟩
   | @step x y _ e ih=>
    have hy:=hR.ed _ _ e;refine⟨hy,.step ih.2 ?_⟩;obtain⟨hx,c,hc,e7⟩:=e;rw[hR.len x hx] at hc;obtain⟨b,hb,rfl⟩:=hR.zy c hc;have D6:=hN.lt x hx;have h3:=hP.byte hG (i:=f x) (by omega) hb;have h4:=hM.nx hR hT hN hx hc;rw[hM.1,h4] at h3;unfold kt at h3;rw[if_neg (by omega),e7,toNat_natCast] at h3;have UF:f x<P.n:=(by rw[hP.n,rL];exact D6);exact (Wj UF).2 ⟨UF,P.K b,by rw[hP.len _ (by omega),hP.K b hb];exact hG.lt b hb,h3⟩
  exact (key _ h1).2
 refine⟨⟨hRX,ZQ.Gt za hl dN,ZQ.ti za hTP hl dN,fun i j hi hj hb=>?_,?_⟩,?_⟩
 ·rw[e2] at hi hj;have h1:=hP.apart MG hG hAM (gm _ (uY i hi)) (gm _ (uY j hj)) (((qc i hi).symm.trans hb).trans (qc j hj));have lp:i<l.length:=by omega
  have hj2:j<l.length:=by omega
  simp only[getD_eq_getElem?_getD,List.getElem?_eq_getElem lp,List.getElem?_eq_getElem hj2,Option.getD_some] at h1;exact (List.getElem_inj (h₀:=lp) (h₁:=hj2) jr).1 h1
 ·refine ((hP.cls hG).iff (R':=js X X.n) (fun a b ha hb=>?_)).congr (fun b hb=>by rw[e1]);have PM:=za.c.1 a ha;have Rs:=za.c.1 b hb;constructor
  ·intro h2 i hi;rw[e2] at hi;rw[e1,e5 i hi _ PM,e5 i hi _ Rs];unfold iJ;rw[h2 _ (gm _ (uY i hi))]
  intro h2 j hj;have hjl:=eb j hj;obtain⟨i,hi,e⟩:=List.getElem_of_mem hjl;have h3:=h2 i (by omega);rw[e1,e5 i (by omega) _ PM,e5 i (by omega) _ Rs] at h3;have To:=BA za (by rw[<-hl];exact dN) i _ (by omega) PM;have pr:=BA za (by rw[<-hl];exact dN) i _ (by omega) Rs;rw[<-hl] at To pr;have e9:l.getD i 0=j:=by simp[getD_eq_getElem?_getD,hi,e]
  rw[e9] at To pr;rcases To.2 with ⟨u1,u2⟩|⟨ja,u0,u1,u2⟩
  ·rcases pr.2 with ⟨v1,v2⟩|⟨jb,v0,v1,v2⟩
   ·rw[u1,v1]
   rw[u2,v1] at h3;omega
  rcases pr.2 with ⟨v1,v2⟩|⟨jb,v0,v1,v2⟩
  ·rw[u1,v2] at h3;omega
  rw[u1,v1] at h3;have:ja=jb:=by omega
  rw[u2,v2,this]
 have jU:1<=k/\l.getD 0 0=0:=by
  have:=Pm (D:=P) (k:=k) (by rw[<-hl];exact dN);rw[<-hl] at this;exact this
 have h1:=qc 0 (by omega);rw[jU.2] at h1;have h2:=hP.xN MG hG (i:=0) (by rw[rL];have:=hN.lt 0 (by omega);omega);have h3:=hM.xN hR hN (i:=0) (by omega);rw[f0] at h3;exact (h1.trans h2).trans h3
section
variable {X Y : Dd}{C D : Nat}
end
end Go.Proofs.YtbacgnhkapancaaGreat
