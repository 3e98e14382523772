import Derived.Test.YtkkhakmdjinenaaGreatZPMn
import Derived.Test.YtkkhakmdjinenaaGreatZTKeep
set_option linter.all false
namespace Go.Proofs.YtkkhakmdjinenaaGreat
open Int (toNat_natCast toNat_of_nonneg)
open Or (inl inr)
open List (getD_eq_getElem?_getD mem_map range)
variable {C c i j:Nat}{D E T X:Dd}{l:List Nat}
def kI(D:Dd)(f:Nat->Nat)(i c:Nat):Int:=if D.nx i c=-1 then -1 else ((f (D.nx i c).toNat:Nat):Int)
def eK(D:Dd)(i:Int)(E:Dd)(j:Int):Prop:=∀(z:Nat->Nat) (m:Nat),(∀k,z k<256)->bu D (bD D i z m)=bu E (bD E j z m)
theorem eK.refl(D:Dd)(i:Int):eK D i D i:=fun z m hz=>rfl
theorem eK.symm{i j:Int}(h:eK D i E j):eK E j D i:=fun z m hz=>(h z m hz).symm
theorem eK.trans{F:Dd}{i j k:Int}(h:eK D i E j)(h2:eK E j F k):eK D i F k:=fun z m hz=>(h z m hz).trans (h2 z m hz)
theorem eK.mark{i j:Int}(h:eK D i E j):bu D i=bu E j:=h (fun _=>0) 0 (fun _=>by omega)
theorem zgz(D:Dd)(i:Int)(b:Nat)(z:Nat->Nat)(m:Nat):bD D i (fun k=>if k=0 then b else z (k-1)) (m+1)=bD D (bK D i b) z m:=by
 induction m with
 | zero=>rfl
 | succ m ih=>
  show bK D (bD D i (fun k=>if k=0 then b else z (k-1)) (m+1)) (if m+1=0 then b else z (m+1-1))=_;rw[ih,if_neg (by omega)];rfl
theorem eK.step{D E:Dd}{i j:Int}(h:eK D i E j){b:Nat}(hb:b<256):eK D (bK D i b) E (bK E j b):=fun z m hz=>by
 have:=h (fun k=>if k=0 then b else z (k-1)) (m+1) (fun k=>by split;exact hb;exact hz _)
 rwa [zgz,zgz] at this
theorem eK.kt(R:Int->Int->Prop)(hm:∀i j,R i j->bu D i=bu E j)(hs:∀i j b,R i j->b<256->R (bK D i b) (bK E j b)){i j:Int}(h:R i j):eK D i E j:=fun z m hz=>by
 have:R (bD D i z m) (bD E j z m):=by
  induction m with
  | zero=>exact h
  | succ m ih=>exact hs _ _ _ ih (hz m)
 exact hm _ _ this
theorem uP(D:Dd):bu D (-1)=-1:=by unfold bu;rw[if_neg (by omega)]
theorem eK.dead(D E:Dd):eK D (-1) E (-1):=eK.kt (fun i j=>i=-1/\j=-1) (fun i j h=>by rw[h.1,h.2,uP,uP]) (fun i j b h hb=>by rw[h.1,h.2];exact⟨qW _ _,qW _ _⟩) ⟨rfl,rfl⟩
theorem um(D:Dd){b:Nat}(hi:i<D.n):bK D (i:Int) b=D.nx i (D.K b):=by
 unfold bK;rw[if_pos (by omega),toNat_natCast]
theorem xQ(D:Dd)(hi:i<D.n):bu D (i:Int)=D.q i:=by
 unfold bu;rw[if_pos (by omega),toNat_natCast]
theorem eK.nx(hR:DR D C)(hi:i<D.n)(hj:j<E.n)(hK:∀b,b<256->D.K b=E.K b)(h:eK D i E j)(hc:c<C):eK D (D.nx i c) E (E.nx j c):=by
 obtain⟨b,hb,e⟩:=hR.xj c hc;have:=h.step hb;rw[um _ hi,um _ hj,<-hK b hb,e] at this;exact this
theorem eK.nx1(hR:DR D C)(hi:i<D.n)(hj:j<D.n)(h:eK D i D j)(hc:c<C):eK D (D.nx i c) D (D.nx j c):=h.nx hR hi hj (fun _ _=>rfl) hc
def sj(D:Dd)(i:Nat):Int:=if i<D.n then ((i:Nat):Int) else -1
theorem DQ(h:i<D.n):sj D i=(i:Int):=by unfold sj;rw[if_pos h]
theorem ON(D:Dd):sj D D.n=-1:=by unfold sj;rw[if_neg (by omega)]
theorem Oe(D:Dd)(i:Nat):bu D (sj D i)=mD D i:=by
 unfold sj mD;by_cases h:i<D.n
 ·rw[if_pos h,if_pos h,xQ _ h]
 rw[if_neg h,if_neg h,uP]
theorem Ll(hR:DR D C)(i b:Nat)(hb:b<256):bK D (sj D i) b=sj D (tD D i (D.K b)):=by
 have hc:=hR.c.1 b hb;unfold tD;by_cases h:i<D.n
 ·have:=hR.nx i _ h hc;rw[DQ h,um _ h];by_cases h2:0<=D.nx i (D.K b)
  ·rw[if_pos ⟨h,h2⟩,DQ (by omega)];omega
  rw[if_neg (fun h3=>h2 h3.2),ON];omega
 rw[if_neg (fun h3=>h h3.1),ON];have:sj D i=-1:=by unfold sj;rw[if_neg h]
 rw[this,qW]
theorem SG(hR:DR D C)(i j:Nat):jH C (tD D) (mD D) i j↔eK D (sj D i) D (sj D j):=by
 constructor
 ·intro h;refine eK.kt (fun x y=>∃i j,x=sj D i/\y=sj D j/\jH C (tD D) (mD D) i j) ?_ ?_ ⟨i,j,rfl,rfl,h⟩
  ·rintro x y ⟨i,j,rfl,rfl,h⟩;rw[Oe,Oe];exact h.mark
  rintro x y b ⟨i,j,rfl,rfl,h⟩ hb;exact⟨_,_,Ll hR i b hb,Ll hR j b hb,h.step (hR.c.1 b hb)⟩
 intro h;refine jH.kt (fun i j=>eK D (sj D i) D (sj D j)) (fun i j h=>⟨?_,fun c hc=>?_⟩) h
 ·rw[<-Oe,<-Oe];exact h.mark
 obtain⟨b,hb,rfl⟩:=hR.xj c hc;rw[<-Ll hR i b hb,<-Ll hR j b hb];exact h.step hb
def wG(D:Dd)(C:Nat):Prop:=∀i c,i<D.n->c<C->D.nx i c≠-1->¬eK D (D.nx i c) D (-1)
theorem zpp(hR:DR D C)(hj:j<D.n)(ha:wN D j):¬eK D j D (-1):=by
 intro h;obtain⟨k,h1,h2⟩:=ha;have key:k<D.n/\eK D k D (-1):=by
  clear h2
  induction h1 with
  | base e=>subst e;exact⟨hj,h⟩
  | @step x y _ e ih=>
   obtain⟨i1,i2⟩:=ih;obtain⟨_,c,hc,e2⟩:=e;rw[hR.len x i1] at hc;obtain⟨b,hb,rfl⟩:=hR.xj c hc;have h3:=i2.step hb;rw[um _ i1,qW,e2] at h3;have:=hR.nx x _ i1 hc;exact⟨by omega,h3⟩
 have h3:=key.2.mark;rw[xQ _ key.1,uP] at h3;omega
theorem zpq(hR:DR D C)(hj:j<D.n)(ha:¬wN D j):eK D j D (-1):=by
 refine eK.kt (fun x y=>y=-1/\(x=-1\/∃j:Nat,x=j/\j<D.n/\¬wN D j)) ?_ ?_ ⟨rfl,inr ⟨j,rfl,hj,ha⟩⟩
 ·rintro x y ⟨rfl,rfl|⟨j,rfl,hj,ha⟩⟩
  ·rfl
  rw[xQ _ hj,uP];have:=hR.q j hj;have h2:¬0<=D.q j:=fun h=>ha ⟨j,.base rfl,h⟩
  omega
 rintro x y b ⟨rfl,rfl|⟨j,rfl,hj,ha⟩⟩ hb
 ·exact⟨qW _ _,inl (qW _ _)⟩
 refine⟨qW _ _,?_⟩;rw[um _ hj];have hc:=hR.c.1 b hb;have:=hR.nx j _ hj hc;by_cases e:D.nx j (D.K b)=-1
 ·exact inl e
 refine inr ⟨(D.nx j (D.K b)).toNat,by omega,by omega,fun h=>ha (wN.of ⟨hj,D.K b,?_,by omega⟩ h)⟩;rw[hR.len j hj];exact hc
theorem pJ.rW(hR:DR D C)(h:pJ D C D.n (oj D) D.q T)(hi:i<D.n):eK T i D i:=by
 obtain⟨e1,e2,e3,e4,e5,e6⟩:=h;refine eK.kt (fun x y=>(x=-1/\eK D y D (-1))\/∃j:Nat,x=j/\y=j/\j<D.n) ?_ ?_ (inr ⟨i,rfl,rfl,hi⟩)
 ·rintro x y (⟨rfl,h2⟩|⟨j,rfl,rfl,hj⟩)
  ·rw[uP,h2.mark,uP]
  rw[xQ _ hj,xQ _ (by omega),e6 j hj]
 rintro x y b (⟨rfl,h2⟩|⟨j,rfl,rfl,hj⟩) hb
 ·left;have:=h2.step hb;rw[qW D] at this;exact⟨qW _ _,this⟩
 have hc:=hR.c.1 b hb;have hx:=hR.nx j _ hj hc;rw[um _ hj,um _ (by omega),e1,e5 j hj _ hc];unfold oj;split
 ·rename_i h3;left;refine⟨rfl,?_⟩;have:=zpq hR (j:=(D.nx j (D.K b)).toNat) (by omega) h3.2;rw[toNat_of_nonneg h3.1] at this;exact this
 by_cases e:D.nx j (D.K b)=-1
 ·rw[e];exact inl ⟨rfl,eK.refl _ _⟩
 exact inr ⟨(D.nx j (D.K b)).toNat,by omega,by omega,by omega⟩
theorem pJ.xZ(hR:DR D C)(h:pJ D C D.n (oj D) D.q T):wG T C:=by
 have h0:=h;obtain⟨e1,e2,e3,e4,e5,e6⟩:=h;intro i c hi hc hne hb;rw[e2] at hi;have hx:=hR.nx i c hi hc;rw[e5 i hi c hc] at hne hb;unfold oj at hne hb;split at hne
 ·exact hne rfl
 rename_i h3;rw[if_neg h3] at hb;have h4:wN D (D.nx i c).toNat:=Classical.byContradiction fun h=>h3 ⟨by omega,h⟩
 have hj:(D.nx i c).toNat<D.n:=by omega
 have h5:=h0.rW hR hj;rw[toNat_of_nonneg (by omega)] at h5;have h6:=(h5.symm.trans hb).trans (eK.dead T D);have h7:=zpp hR hj h4;rw[toNat_of_nonneg (by omega)] at h7;exact h7 h6
section
variable {D O : Dd}{C k : Nat}{l : List Nat}
theorem pJ.qh(hR:DR D C)(hl:l=dw (av D.len D.nx) [0] k)(dE:l.length=k)(h:pJ D C k (jg D l) (fun i=>D.q (l.getD i 0)) O)(hi:i<k):eK O i D ((l.getD i 0:Nat):Int):=by
 subst hl;have QP:0<C:=by have:=hR.c.1 0 (by omega);omega
 obtain⟨e1,e2,e3,e4,e5,e6⟩:=h;refine eK.kt (fun x y=>(x=-1/\y=-1)\/∃j:Nat,x=j/\y=(((dw (av D.len D.nx) [0] k).getD j 0:Nat):Int)/\j<k) ?_ ?_ (inr ⟨i,rfl,rfl,hi⟩)
 ·rintro x y (⟨rfl,rfl⟩|⟨j,rfl,rfl,hj⟩)
  ·rw[uP,uP]
  rw[xQ _ (by omega),xQ _ (CE hR dE j 0 hj QP).1,e6 j hj]
 rintro x y b (⟨rfl,rfl⟩|⟨j,rfl,rfl,hj⟩) hb
 ·exact inl ⟨qW _ _,qW _ _⟩
 have hc:=hR.c.1 b hb;have hs:=CE hR dE j _ hj hc;rw[um _ (by omega),um _ hs.1,e1,e5 j hj _ hc];rcases hs.2 with ⟨h4,h5⟩|⟨j2,hj2,h4,h5⟩
 ·exact inl ⟨h5,h4⟩
 exact inr ⟨j2,h4,h5,hj2⟩
theorem pJ.uc(hR:DR D C)(hT:wG D C)(hl:l=dw (av D.len D.nx) [0] k)(dE:l.length=k)(h:pJ D C k (jg D l) (fun i=>D.q (l.getD i 0)) O):wG O C:=by
 have hb:=fun i (hi:i<k)=>h.qh hR hl dE hi
 subst hl;obtain⟨e1,e2,e3,e4,e5,e6⟩:=h;intro i c hi hc hne hd;rw[e2] at hi;rw[e5 i hi c hc] at hne hd;have hs:=CE hR dE i c hi hc;rcases hs.2 with ⟨h4,h5⟩|⟨j,hj,h4,h5⟩
 ·exact hne h5
 rw[h4] at hd;have h6:=((hb j hj).symm.trans hd).trans (eK.dead O D);rw[<-h5] at h6;exact hT _ c hs.1 hc (by omega) h6
def oH(D:Dd):Prop:=dw (av D.len D.nx) [0] D.n=range D.n
theorem ZR(hn:l.Nodup):l.map (fun x=>l.idxOf x)=range l.length:=by
 apply List.ext_getElem
 ·simp
 intro i h1 h2;simp at h1;rw[List.getElem_map,List.getElem_range];exact hn.idxOf_getElem i h1
theorem zm4{m:List Nat}(hm:∀x∈m,x∈l){t:Int}(ht:-1<=t)(Io:t≠-1->t.toNat∈l):jo (m.map fun x=>l.idxOf x) (zM l t)=(jo m t).map fun x=>l.idxOf x:=by
 unfold zM;by_cases e:t=-1
 ·subst e;rw[if_pos rfl];unfold jo;rw[if_neg (fun h=>by omega),if_neg (fun h=>by omega)]
 rw[if_neg e];have h2:=Io e;unfold jo;have J2:(((l.idxOf t.toNat:Nat):Int).toNat∈m.map fun x=>l.idxOf x)↔t.toNat∈m:=by
  rw[toNat_natCast,mem_map];constructor
  ·rintro⟨x,hx,e2⟩;have h3:=hm x hx;have h4:=List.getElem_idxOf (List.idxOf_lt_length_iff.2 h3);have h5:=List.getElem_idxOf (List.idxOf_lt_length_iff.2 h2);simp only[e2] at h4;rw[h4] at h5;rw[<-h5];exact hx
  intro h;exact⟨_,h,rfl⟩
 by_cases h3:t.toNat∈m
 ·rw[if_neg (fun h=>h.2 (J2.2 h3)),if_neg (fun h=>h.2 h3)]
 rw[if_pos ⟨by omega,fun h=>h3 (J2.1 h)⟩,if_pos ⟨by omega,h3⟩,List.map_append];simp
theorem zm5(row:List Int):∀m:List Nat,(∀x∈m,x∈l)->(∀t∈row,-1<=t/\(t≠-1->t.toNat∈l))->iF (m.map fun x=>l.idxOf x) (row.map (zM l))=(iF m row).map fun x=>l.idxOf x:=by
 induction row with
 | nil=>intro m _ _;rfl
 | cons t row ih=>
  intro m hm hr;show iF (jo (m.map fun x=>l.idxOf x) (zM l t)) (row.map (zM l))=(iF (jo m t) row).map fun x=>l.idxOf x
  have h1:=hr t (by simp);rw[zm4 hm h1.1 h1.2];refine ih _ (fun x hx=>?_) (fun u hu=>hr u (by simp[hu]));rcases (UE m t x).1 hx with h2|h2
  ·exact hm x h2
  have:=h1.2 (by omega);rw[h2] at this;simpa using this
theorem pJ.Ju(hR:DR D C)(hl:l=dw (av D.len D.nx) [0] k)(dE:l.length=k)(h:pJ D C k (jg D l) (fun i=>D.q (l.getD i 0)) O):oH O:=by
 obtain⟨e1,e2,e3,e4,e5,e6⟩:=h;have gw:∀x∈l,x<D.n:=by rw[hl];exact M5 hR k
 have gq:∀i (hi:i<k),∀y,WE (av D.len D.nx) (l.getD i 0) y->y∈l:=by
  intro i hi y hy;have lI:i<l.length:=by omega
  have:=M9 (av D.len D.nx) [0] k i hi;rw[<-hl] at this;refine this lI y ?_;have e:l.getD i 0=l[i]:=by simp[getD_eq_getElem?_getD,lI]
  rwa [e] at hy
 have jC:l.Nodup:=by rw[hl];exact NZ _ (by simp) _
 have key:∀i,i<=k->dw (av O.len O.nx) [0] i=(dw (av D.len D.nx) [0] i).map fun x=>l.idxOf x:=by
  intro i
  induction i with
  | zero=>
   intro _;show [0]=[l.idxOf 0];have h1:=Ny (av D.len D.nx) [0] k;rw[<-hl] at h1;rw[zqn h1 (by simp)];simp
  | succ i ih=>
   intro hi;have ih:=ih (by omega);show pE (av O.len O.nx) (dw (av O.len O.nx) [0] i) i=(pE (av D.len D.nx) (dw (av D.len D.nx) [0] i) i).map _;have rB:dw (av D.len D.nx) [0] i <+: l:=(by rw[hl];exact zq9 (by omega));rw[ih];unfold pE;rw[List.length_map];split
   ·rename_i aq;generalize dw (av D.len D.nx) [0] i=m at rB aq⊢;have e7:m.getD i 0=l.getD i 0:=by
     have h8:=rB.getElem aq;simp[getD_eq_getElem?_getD,aq,h8,show i<l.length by omega]
    have e8:(m.map fun x=>l.idxOf x).getD i 0=i:=by
     have h9:(List.map (fun x=>l.idxOf x) l)[i]?=some i:=(by rw[ZR jC,List.getElem?_range (by omega)]);rw[getD_eq_getElem?_getD];have h10:=(rB.map (fun x=>l.idxOf x)).getElem (i:=i) (by simpa using aq);rw[List.getElem?_eq_getElem (by simpa using aq),h10];rw[List.getElem?_eq_getElem (by simp;omega)] at h9;exact Option.some.inj h9
    rw[e8,e7];have ix:l.getD i 0<D.n:=by
     have lI:i<l.length:=(by omega);rw[show l.getD i 0=l[i] by simp[getD_eq_getElem?_getD,lI]];exact gw _ (List.getElem_mem lI)
    have e9:av O.len O.nx i=(av D.len D.nx (l.getD i 0)).map (zM l):=by
     unfold av;rw[e4 i (by omega),hR.len _ ix,List.map_map];refine(List.map_congr_left fun c hc=>?_);rw[e5 i (by omega) c (List.mem_range.1 hc)];rfl
    rw[e9];refine zm5 _ _ (fun x hx=>rB.subset hx) (fun t ht=>?_);have h11:-1<=t:=by
     unfold av at ht;obtain⟨c,hc,rfl⟩:=List.mem_map.1 ht;have hc:=List.mem_range.1 hc;rw[hR.len _ ix] at hc;exact (hR.nx _ c ix hc).1
    refine⟨h11,fun hne=>gq i (by omega) _ ?_⟩;unfold WE;rw[toNat_of_nonneg (by omega)];exact ht
   rfl
 unfold oH;rw[e2,key k (Nat.le_refl _),<-hl,ZR jC,dE]
theorem oH.all(h:oH X)(hi:i<X.n):jI (WE (av X.len X.nx)) (fun y=>y∈[0]) i:=by
 have h2:=Wl (av X.len X.nx) [0] X.n;rw[h] at h2;exact h2 i (List.mem_range.2 hi)
end
def iD(D:Dd)(n:Nat)(a b:Nat):Prop:=∀i,i<n->D.nx i (D.K a)=D.nx i (D.K b)
structure Mn (X:Dd)(C:Nat):Prop where
 r:DR X C
 ord:oH X
 A5:wG X C
 apart:∀i j,i<X.n->j<X.n->eK X i X j->i=j
 cls:fD (iD X X.n) 256 X.K C
section
variable {O M : Dd}{C B : Nat}{f : Nat → Nat}
def qU(O:Dd)(C:Nat)(f:Nat->Nat)(B:Nat)(M:Dd):Prop:=pJ O C B (fun b c=>kI O f ((bH f O.n).getD b 0) c) (fun b=>O.q ((bH f O.n).getD b 0)) M
theorem zv(hN:fD (jH C (tD O) (mD O)) O.n f B){b:Nat}(hb:b<B):(bH f O.n).getD b 0<O.n/\f ((bH f O.n).getD b 0)=b:=by
 obtain⟨a1,a2,a3⟩:=hN.bH O.n (Nat.le_refl _);have h:=hN.iv;obtain⟨x,h1,h2,h3⟩:=a2 b (by omega);have e:(bH f O.n).getD b 0=x:=by rw[getD_eq_getElem?_getD,h1];rfl
 rw[e];exact⟨Mt f _ _ (List.mem_of_getElem? h1),h2⟩
theorem JL(hR:DR O C)(hN:fD (jH C (tD O) (mD O)) O.n f B)(hi:i<O.n)(hj:j<O.n):f i=f j↔eK O i O j:=by
 rw[hN.same i j hi hj,SG hR,DQ hi,DQ hj]
theorem qU.parts(h:qU O C f B M):M.K=O.K/\M.n=B/\M.m=B/\(∀i,i<B->M.len i=C)/\(∀i,i<B->∀c,c<C->M.nx i c=kI O f ((bH f O.n).getD i 0) c)/\∀i,i<B->M.q i=O.q ((bH f O.n).getD i 0):=h
theorem qU.yu(hR:DR O C)(hN:fD (jH C (tD O) (mD O)) O.n f B)(h:qU O C f B M)(hi:i<O.n):eK M ((f i:Nat):Int) O i:=by
 obtain⟨e1,e2,e3,e4,e5,e6⟩:=h.parts;refine eK.kt (fun x y=>(x=-1/\eK O y O (-1))\/∃j:Nat,x=((f j:Nat):Int)/\j<O.n/\eK O y O j) ?_ ?_ (inr ⟨i,rfl,hi,eK.refl _ _⟩)
 ·rintro x y (⟨rfl,h2⟩|⟨j,rfl,hj,h2⟩)
  ·rw[uP,h2.mark,uP]
  have hf:=hN.lt j hj;obtain⟨r1,r2⟩:=zv hN hf;have h3:=(JL hR hN r1 hj).1 r2;rw[xQ _ (by omega),e6 _ hf,h2.mark,<-h3.mark,xQ _ r1]
 rintro x y b (⟨rfl,h2⟩|⟨j,rfl,hj,h2⟩) hb
 ·have:=h2.step hb;rw[qW O] at this;exact inl ⟨qW _ _,this⟩
 have hf:=hN.lt j hj;obtain⟨r1,r2⟩:=zv hN hf;have h3:=h2.trans ((JL hR hN r1 hj).1 r2).symm;have hc:=hR.c.1 b hb;have h4:=h3.step hb;have hx:=hR.nx _ _ r1 hc;rw[um O r1] at h4;rw[um M (by omega),e1,e5 _ hf _ hc];unfold kI;split
 ·rename_i h5;rw[h5] at h4;exact inl ⟨rfl,h4⟩
 refine inr ⟨(O.nx ((bH f O.n).getD (f j) 0) (O.K b)).toNat,rfl,by omega,?_⟩;rw[toNat_of_nonneg (by omega)];exact h4
theorem qU.right(hR:DR O C)(hN:fD (jH C (tD O) (mD O)) O.n f B)(h:qU O C f B M):DR M C:=by
 obtain⟨e1,e2,e3,e4,e5,e6⟩:=h.parts;have h1:=hR.n1;have h2:=hR.n2;have mC:1<=B:=by have:=hN.lt 0 (by omega);omega
 have mX:B<=O.n:=by have:=hN.iv;have:=ZQ f O.n;omega
 refine⟨by rw[e1];exact hR.c,by omega,by omega,by omega,fun c hc=>by rw[e1];exact hR.xj c hc,fun i hi=>e4 i (by omega),fun i hi=>?_,fun i c hi hc=>?_⟩
 ·rw[e6 i (by omega)];exact hR.q _ (zv hN (by omega)).1
 rw[e5 i (by omega) c hc,e2];have hr:=(zv hN (b:=i) (by omega)).1;have:=hR.nx _ c hr hc;unfold kI;split
 ·omega
 have:=hN.lt (O.nx ((bH f O.n).getD i 0) c).toNat (by omega);omega
theorem qU.apart(hR:DR O C)(hN:fD (jH C (tD O) (mD O)) O.n f B)(h:qU O C f B M){a b:Nat}(ha:a<B)(hb:b<B)(CK:eK M a M b):a=b:=by
 obtain⟨a1,a2⟩:=zv hN ha;obtain⟨b1,b2⟩:=zv hN hb;have h1:=h.yu hR hN a1;have h2:=h.yu hR hN b1;rw[a2] at h1;rw[b2] at h2;have:=(JL hR hN a1 b1).2 ((h1.symm.trans CK).trans h2);omega
theorem qU.nx(hR:DR O C)(hT:wG O C)(hN:fD (jH C (tD O) (mD O)) O.n f B)(h:qU O C f B M)(hi:i<O.n)(hc:c<C):M.nx (f i) c=kI O f i c:=by
 obtain⟨e1,e2,e3,e4,e5,e6⟩:=h.parts;have hf:=hN.lt i hi;obtain⟨r1,r2⟩:=zv hN hf;have h3:=(JL hR hN r1 hi).1 r2;have h4:=h3.nx1 hR r1 hi hc;rw[e5 _ hf c hc];have x1:=hR.nx _ c r1 hc;have x2:=hR.nx _ c hi hc;unfold kI;by_cases g1:O.nx ((bH f O.n).getD (f i) 0) c=-1
 ·by_cases g2:O.nx i c=-1
  ·rw[if_pos g1,if_pos g2]
  rw[g1] at h4;exact absurd h4.symm (hT i c hi hc g2)
 by_cases g2:O.nx i c=-1
 ·rw[g2] at h4;exact absurd h4 (hT _ c r1 hc g1)
 rw[if_neg g1,if_neg g2];congr 1;refine (JL hR hN (by omega) (by omega)).2 ?_;rw[toNat_of_nonneg (by omega),toNat_of_nonneg (by omega)];exact h4
theorem qU.A5(hR:DR O C)(hT:wG O C)(hN:fD (jH C (tD O) (mD O)) O.n f B)(h:qU O C f B M):wG M C:=by
 intro b c hb hc hne hd;have hb:b<B:=by rw[h.2.1] at hb;exact hb
 obtain⟨r1,r2⟩:=zv hN hb;have hx:=hR.nx _ c r1 hc;have e:=h.nx hR hT hN r1 hc;rw[r2] at e;rw[e] at hne hd;unfold kI at hne hd;by_cases g:O.nx ((bH f O.n).getD b 0) c=-1
 ·rw[if_pos g] at hne;exact hne rfl
 rw[if_neg g] at hd;have h2:=h.yu hR hN (i:=(O.nx ((bH f O.n).getD b 0) c).toNat) (by omega);have h3:=(h2.symm.trans hd).trans (eK.dead M O);rw[toNat_of_nonneg (by omega)] at h3;exact hT _ c r1 hc g h3
end
section
variable {M P : Dd}{C C' : Nat}{g : Nat → Nat}
structure sK (M:Dd)(g:Nat->Nat)(C':Nat)(P:Dd):Prop where
 K:∀b,b<256->P.K b=g b
 n:P.n=M.n
 m:P.m=M.n
 len:∀i,i<M.n->P.len i=C'
 nx:∀i,i<M.n->∀c,c<C'->P.nx i c=M.nx i (M.K ((bH g 256).getD c 0))
 q:∀i,i<M.n->P.q i=M.q i
theorem La(hN:fD (iD M M.n) 256 g C')(hc:c<C'):(bH g 256).getD c 0<256/\g ((bH g 256).getD c 0)=c:=by
 obtain⟨a1,a2,a3⟩:=hN.bH 256 (Nat.le_refl _);have h:=hN.iv;obtain⟨x,h1,h2,h3⟩:=a2 c (by omega);have e:(bH g 256).getD c 0=x:=by rw[getD_eq_getElem?_getD,h1];rfl
 rw[e];exact⟨Mt g _ _ (List.mem_of_getElem? h1),h2⟩
theorem sK.byte(hN:fD (iD M M.n) 256 g C')(h:sK M g C' P){b:Nat}(hi:i<M.n)(hb:b<256):P.nx i (P.K b)=M.nx i (M.K b):=by
 have hg:=hN.lt b hb;obtain⟨r1,r2⟩:=La hN hg;rw[h.K b hb,h.nx i hi _ hg];exact (hN.same _ b r1 hb).1 r2 i hi
theorem sK.right(hR:DR M C)(hN:fD (iD M M.n) 256 g C')(h:sK M g C' P):DR P C':=by
 have h1:=hR.n1;have h2:=hR.n2;have K9:1<=C':=by have:=hN.lt 0 (by omega);omega
 refine⟨⟨fun j hj=>by rw[h.K j hj];exact hN.lt j hj,?_⟩,by rw[h.n];exact h1,by rw[h.n];exact h2,by rw[h.m,h.n],fun c hc=>?_,fun i hi=>h.len i (by rw[h.n] at hi;exact hi),fun i hi=>?_,fun i c hi hc=>?_⟩
 ·obtain⟨r1,r2⟩:=La hN (c:=C'-1) (by omega);exact⟨_,r1,by rw[h.K _ r1,r2];omega⟩
 ·obtain⟨r1,r2⟩:=La hN hc;exact⟨_,r1,by rw[h.K _ r1,r2]⟩
 ·rw[h.n] at hi;rw[h.q i hi];exact hR.q i hi
 rw[h.n] at hi⊢;rw[h.nx i hi c hc];exact hR.nx i _ hi (hR.c.1 _ (La hN hc).1)
theorem sK.yu(hR:DR M C)(hN:fD (iD M M.n) 256 g C')(h:sK M g C' P)(hi:i<M.n):eK P i M i:=by
 refine eK.kt (fun x y=>x=y/\(x=-1\/∃j:Nat,x=j/\j<M.n)) ?_ ?_ ⟨rfl,inr ⟨i,rfl,hi⟩⟩
 ·rintro x y ⟨rfl,rfl|⟨j,rfl,hj⟩⟩
  ·rw[uP,uP]
  rw[xQ _ (by rw[h.n];exact hj),xQ _ hj,h.q j hj]
 rintro x y b ⟨rfl,rfl|⟨j,rfl,hj⟩⟩ hb
 ·exact⟨by rw[qW,qW],inl (qW _ _)⟩
 have hx:=hR.nx j _ hj (hR.c.1 b hb);rw[um _ (by rw[h.n];exact hj),um _ hj,h.byte hN hj hb];refine⟨rfl,?_⟩;by_cases e:M.nx j (M.K b)=-1
 ·exact inl e
 exact inr ⟨(M.nx j (M.K b)).toNat,by omega,by omega⟩
theorem sK.A5(hR:DR M C)(hT:wG M C)(hN:fD (iD M M.n) 256 g C')(h:sK M g C' P):wG P C':=by
 intro i c hi hc hne hd;rw[h.n] at hi;have hk:=hR.c.1 _ (La hN hc).1;rw[h.nx i hi c hc] at hne hd;have hx:=hR.nx i _ hi hk;have h2:=h.yu hR hN (i:=(M.nx i (M.K ((bH g 256).getD c 0))).toNat) (by omega);rw[toNat_of_nonneg (by omega)] at h2;exact hT i _ hi hk hne ((h2.symm.trans hd).trans (eK.dead P M))
theorem sK.apart(hR:DR M C)(hN:fD (iD M M.n) 256 g C')(h:sK M g C' P)(hA:∀i j,i<M.n->j<M.n->eK M i M j->i=j)(hi:i<P.n)(hj:j<P.n)(hb:eK P i P j):i=j:=by
 rw[h.n] at hi hj;exact hA i j hi hj (((h.yu hR hN hi).symm.trans hb).trans (h.yu hR hN hj))
theorem sK.cls(hN:fD (iD M M.n) 256 g C')(h:sK M g C' P):fD (iD P P.n) 256 P.K C':=by
 refine (hN.iff (R':=iD P P.n) (fun a b ha hb=>?_)).congr (fun b hb=>(h.K b hb).symm);constructor
 ·intro h2 i hi;rw[h.n] at hi;rw[h.byte hN hi ha,h.byte hN hi hb];exact h2 i hi
 intro h2 i hi;have:=h2 i (by rw[h.n];exact hi);rwa [h.byte hN hi ha,h.byte hN hi hb] at this
end
theorem zoJ{x y:Nat}(hx:x<D.n):WE (av D.len D.nx) x y↔Ed D x y:=by
 unfold WE av Ed;rw[mem_map];constructor
 ·rintro⟨c,hc,e⟩;exact⟨hx,c,List.mem_range.1 hc,e⟩
 rintro⟨_,c,hc,e⟩;exact⟨c,List.mem_range.2 hc,e⟩
theorem oH.PG(hR:DR X C)(h:oH X)(hi:i<X.n):jI (Ed X) (fun y=>y=0) i:=by
 have h2:=h.all hi;have hn:=hR.n1;have key:∀x,jI (WE (av X.len X.nx)) (fun y=>y∈[0]) x->x<X.n/\jI (Ed X) (fun y=>y=0) x:=by
  intro x hx
  induction hx with
  | base h=>simp at h;subst h;exact⟨by omega,.base rfl⟩
  | step _ e ih=>
   have:=(zoJ ih.1).1 e;exact⟨hR.ed _ _ this,.step ih.2 this⟩
 exact (key i h2).2
theorem Mn.made{O M P:Dd}{B C' k:Nat}{f g:Nat->Nat}(hR:DR O C)(hO:oH O)(hT:wG O C)(hN:fD (jH C (tD O) (mD O)) O.n f B)(hM:qU O C f B M)(hG:fD (iD M M.n) 256 g C')(hP:sK M g C' P)
  (hl:l=dw (av P.len P.nx) [0] k) (dE:l.length=k) (sh:k<=P.n) (hX:pJ P C' k (jg P l) (fun i=>P.q (l.getD i 0)) X):Mn X C'/\eK X 0 O 0:=by
 have NB:=hM.right hR hN;have AU:=hP.right NB hG;have hTM:=hM.A5 hR hT hN;have hTP:=hP.A5 NB hTM hG;have hX0:=hX;have da:=hR.n1;have pr:M.n=B:=hM.2.1;have hAM:∀i j,i<M.n->j<M.n->eK M i M j->i=j:=fun i j hi hj=>hM.apart hR hN (by omega) (by omega)
 have hRX:DR X C':=by subst hl;exact hX.pG AU dE sh
 have qJ:=fun i (hi:i<k)=>hX.qh AU hl dE hi
 obtain⟨e1,e2,e3,e4,e5,e6⟩:=hX;have gw:∀x∈l,x<P.n:=by rw[hl];exact M5 AU k
 have jC:l.Nodup:=by rw[hl];exact NZ _ (by simp) _
 have yE:∀i,i<k->l.getD i 0∈l:=fun i hi=>by
  rw[show l.getD i 0=l[i]'(by omega) by simp[getD_eq_getElem?_getD,show i<l.length by omega]];exact List.getElem_mem _
 have f0:f 0=0:=by have:=hN.le 0 (by omega);omega
 have eo:∀a,a<P.n->a∈l:=by
  intro a ha;rw[hP.n,pr] at ha;have ju:=OG (av P.len P.nx) [0] (i:=k) (by rw[<-hl];exact dE);rw[<-hl] at ju;rw[ju];obtain⟨r1,r2⟩:=zv hN ha;have h1:=hO.PG hR r1;rw[<-r2];have key:∀x,jI (Ed O) (fun y=>y=0) x->x<O.n/\jI (WE (av P.len P.nx)) (fun y=>y∈[0]) (f x):=by
   intro x hx
   induction hx with
   | base h=>subst h;exact⟨by omega,.base (by rw[f0];simp)⟩
   | @step x y _ e ih=>
    have hy:=hR.ed _ _ e;refine⟨hy,.step ih.2 ?_⟩;obtain⟨hx,c,hc,e7⟩:=e;rw[hR.len x hx] at hc;obtain⟨b,hb,rfl⟩:=hR.xj c hc;have Gf:=hN.lt x hx;have h3:=hP.byte hG (i:=f x) (by omega) hb;have h4:=hM.nx hR hT hN hx hc;rw[hM.1,h4] at h3;unfold kI at h3;rw[if_neg (by omega),e7,toNat_natCast] at h3;have Xc:f x<P.n:=(by rw[hP.n,pr];exact Gf);exact (zoJ Xc).2 ⟨Xc,P.K b,by rw[hP.len _ (by omega),hP.K b hb];exact hG.lt b hb,h3⟩
  exact (key _ h1).2
 refine⟨⟨hRX,hX0.Ju AU hl dE,hX0.uc AU hTP hl dE,fun i j hi hj hb=>?_,?_⟩,?_⟩
 ·rw[e2] at hi hj;have h1:=hP.apart NB hG hAM (gw _ (yE i hi)) (gw _ (yE j hj)) (((qJ i hi).symm.trans hb).trans (qJ j hj));have lI:i<l.length:=by omega
  have hj2:j<l.length:=by omega
  simp only[getD_eq_getElem?_getD,List.getElem?_eq_getElem lI,List.getElem?_eq_getElem hj2,Option.getD_some] at h1;exact (List.getElem_inj (h₀:=lI) (h₁:=hj2) jC).1 h1
 ·refine ((hP.cls hG).iff (R':=iD X X.n) (fun a b ha hb=>?_)).congr (fun b hb=>by rw[e1]);have S4:=AU.c.1 a ha;have Qz:=AU.c.1 b hb;constructor
  ·intro h2 i hi;rw[e2] at hi;rw[e1,e5 i hi _ S4,e5 i hi _ Qz];unfold jg;rw[h2 _ (gw _ (yE i hi))]
  intro h2 j hj;have hjl:=eo j hj;obtain⟨i,hi,e⟩:=List.getElem_of_mem hjl;have h3:=h2 i (by omega);rw[e1,e5 i (by omega) _ S4,e5 i (by omega) _ Qz] at h3;have PM:=CE AU (by rw[<-hl];exact dE) i _ (by omega) S4;have pv:=CE AU (by rw[<-hl];exact dE) i _ (by omega) Qz;rw[<-hl] at PM pv;have e9:l.getD i 0=j:=by simp[getD_eq_getElem?_getD,hi,e]
  rw[e9] at PM pv;rcases PM.2 with ⟨u1,u2⟩|⟨ja,u0,u1,u2⟩
  ·rcases pv.2 with ⟨v1,v2⟩|⟨jb,v0,v1,v2⟩
   ·rw[u1,v1]
   rw[u2,v1] at h3;omega
  rcases pv.2 with ⟨v1,v2⟩|⟨jb,v0,v1,v2⟩
  ·rw[u1,v2] at h3;omega
  rw[u1,v1] at h3;have:ja=jb:=by omega
  rw[u2,v2,this]
 have ka:1<=k/\l.getD 0 0=0:=by
  have:=Qx (D:=P) (k:=k) (by rw[<-hl];exact dE);rw[<-hl] at this;exact this
 have h1:=qJ 0 (by omega);rw[ka.2] at h1;have h2:=hP.yu NB hG (i:=0) (by rw[pr];have:=hN.lt 0 (by omega);omega);have h3:=hM.yu hR hN (i:=0) (by omega);rw[f0] at h3;exact (h1.trans h2).trans h3
section
variable {X Y : Dd}{C D : Nat}
end
