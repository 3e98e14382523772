import Derived.Test.YtiijebameffenaaGreatZPMn
set_option linter.all false
namespace Go.Proofs.YtiijebameffenaaGreat
open Or (inl inr)
variable {C i:Nat}{D E:Dd}{j:Int}
def mj(D:Dd)(f:Nat->Nat)(i c:Nat):Int:=if D.nx i c=-1 then -1 else ((f (D.nx i c).toNat:Nat):Int)
def jG(D:Dd)(i:Int)(E:Dd)(j:Int):Prop:=∀(z:Nat->Nat) (m:Nat),(∀k,z k<256)->dL D (ec D i z m)=dL E (ec E j z m)
theorem jG.refl(D:Dd)(i:Int):jG D i D i:=fun z m hz=>rfl
theorem jG.symm{i:Int}(h:jG D i E j):jG E j D i:=fun z m hz=>(h z m hz).symm
theorem jG.trans{F:Dd}{i k:Int}(h:jG D i E j)(h2:jG E j F k):jG D i F k:=fun z m hz=>(h z m hz).trans (h2 z m hz)
theorem jG.mark{i:Int}(h:jG D i E j):dL D i=dL E j:=h (fun _=>0) 0 (fun _=>by omega)
theorem zgt(D:Dd)(i:Int)(b:Nat)(z:Nat->Nat)(m:Nat):ec D i (fun k=>if k=0 then b else z (k-1)) (m+1)=ec D (dW D i b) z m:=by
 induction m with
 | zero=>rfl
 | succ m ih=>
  show dW D (ec D i (fun k=>if k=0 then b else z (k-1)) (m+1)) (if m+1=0 then b else z (m+1-1))=_;rw[ih,if_neg (by omega)];rfl
theorem jG.step{D E:Dd}{i j:Int}(h:jG D i E j){b:Nat}(hb:b<256):jG D (dW D i b) E (dW E j b):=fun z m hz=>by
 have:=h (fun k=>if k=0 then b else z (k-1)) (m+1) (fun k=>by split;exact hb;exact hz _)
 rwa [zgt,zgt] at this
theorem jG.lA(R:Int->Int->Prop)(hm:∀i j,R i j->dL D i=dL E j)(hs:∀i j b,R i j->b<256->R (dW D i b) (dW E j b)){i:Int}(h:R i j):jG D i E j:=fun z m hz=>by
 have:R (ec D i z m) (ec E j z m):=by
  induction m with
  | zero=>exact h
  | succ m ih=>exact hs _ _ _ ih (hz m)
 exact hm _ _ this
theorem Aa(D:Dd):dL D (-1)=-1:=by unfold dL;rw[if_neg (by omega)]
theorem zT(D:Dd){b:Nat}(hi:i<D.n):dW D (i:Int) b=D.nx i (D.K b):=by
 unfold dW;rw[if_pos (by omega),Int.toNat_natCast]
theorem zX(D:Dd)(hi:i<D.n):dL D (i:Int)=D.q i:=by
 unfold dL;rw[if_pos (by omega),Int.toNat_natCast]
def ti(D:Dd)(i:Nat):Int:=if i<D.n then ((i:Nat):Int) else -1
theorem O8(h:i<D.n):ti D i=(i:Int):=by unfold ti;rw[if_pos h]
theorem zlr(D:Dd):ti D D.n=-1:=by unfold ti;rw[if_neg (by omega)]
theorem ME(D:Dd)(i:Nat):dL D (ti D i)=mD D i:=by
 unfold ti mD;by_cases h:i<D.n
 ·rw[if_pos h,if_pos h,zX _ h]
 rw[if_neg h,if_neg h,Aa]
theorem Nk(hR:DR D C)(i b:Nat)(hb:b<256):dW D (ti D i) b=ti D (tD D i (D.K b)):=by
 have hc:=hR.c.1 b hb;unfold tD;by_cases h:i<D.n
 ·have:=hR.nx i _ h hc;rw[O8 h,zT _ h];by_cases h2:0<=D.nx i (D.K b)
  ·rw[if_pos ⟨h,h2⟩,O8 (by omega)];omega
  rw[if_neg (fun h3=>h2 h3.2),zlr];omega
 rw[if_neg (fun h3=>h h3.1),zlr];have:ti D i=-1:=by unfold ti;rw[if_neg h]
 rw[this,wL]
theorem zp6(hR:DR D C)(i j:Nat):nI C (tD D) (mD D) i j↔jG D (ti D i) D (ti D j):=by
 constructor
 ·intro h;refine jG.lA (fun x y=>∃i j,x=ti D i/\y=ti D j/\nI C (tD D) (mD D) i j) ?_ ?_ ⟨i,j,rfl,rfl,h⟩
  ·rintro x y ⟨i,j,rfl,rfl,h⟩;rw[ME,ME];exact h.mark
  rintro x y b ⟨i,j,rfl,rfl,h⟩ hb;exact⟨_,_,Nk hR i b hb,Nk hR j b hb,h.step (hR.c.1 b hb)⟩
 intro h;refine nI.lA (fun i j=>jG D (ti D i) D (ti D j)) (fun i j h=>⟨?_,fun c hc=>?_⟩) h
 ·rw[<-ME,<-ME];exact h.mark
 obtain⟨b,hb,rfl⟩:=hR.LY c hc;rw[<-Nk hR i b hb,<-Nk hR j b hb];exact h.step hb
theorem zp7(hR:DR D C){j:Nat}(hj:j<D.n)(ha:¬AE D j):jG D j D (-1):=by
 refine jG.lA (fun x y=>y=-1/\(x=-1\/∃j:Nat,x=j/\j<D.n/\¬AE D j)) ?_ ?_ ⟨rfl,inr ⟨j,rfl,hj,ha⟩⟩
 ·rintro x y ⟨rfl,rfl|⟨j,rfl,hj,ha⟩⟩
  ·rfl
  rw[zX _ hj,Aa];have:=hR.q j hj;have h2:¬0<=D.q j:=fun h=>ha ⟨j,.base rfl,h⟩
  omega
 rintro x y b ⟨rfl,rfl|⟨j,rfl,hj,ha⟩⟩ hb
 ·exact⟨wL _ _,inl (wL _ _)⟩
 refine⟨wL _ _,?_⟩;rw[zT _ hj];have hc:=hR.c.1 b hb;have:=hR.nx j _ hj hc;by_cases e:D.nx j (D.K b)=-1
 ·exact inl e
 refine inr ⟨(D.nx j (D.K b)).toNat,by omega,by omega,fun h=>ha (AE.of ⟨hj,D.K b,?_,by omega⟩ h)⟩;rw[hR.len j hj];exact hc
theorem wv.zt{T:Dd}(hR:DR D C)(h:wv D C D.n (qh D) D.q T)(hi:i<D.n):jG T i D i:=by
 obtain⟨e1,e2,e3,e4,e5,e6⟩:=h;refine jG.lA (fun x y=>(x=-1/\jG D y D (-1))\/∃j:Nat,x=j/\y=j/\j<D.n) ?_ ?_ (inr ⟨i,rfl,rfl,hi⟩)
 ·rintro x y (⟨rfl,h2⟩|⟨j,rfl,rfl,hj⟩)
  ·rw[Aa,h2.mark,Aa]
  rw[zX _ hj,zX _ (by omega),e6 j hj]
 rintro x y b (⟨rfl,h2⟩|⟨j,rfl,rfl,hj⟩) hb
 ·left;have:=h2.step hb;rw[wL D] at this;exact⟨wL _ _,this⟩
 have hc:=hR.c.1 b hb;have hx:=hR.nx j _ hj hc;rw[zT _ hj,zT _ (by omega),e1,e5 j hj _ hc];unfold qh;split
 ·rename_i h3;left;refine⟨rfl,?_⟩;have:=zp7 hR (j:=(D.nx j (D.K b)).toNat) (by omega) h3.2;rw[Int.toNat_of_nonneg h3.1] at this;exact this
 by_cases e:D.nx j (D.K b)=-1
 ·rw[e];exact inl ⟨rfl,jG.refl _ _⟩
 exact inr ⟨(D.nx j (D.K b)).toNat,by omega,by omega,by omega⟩
section
variable {D O : Dd}{C k : Nat}{l : List Nat}
theorem wv.uM(hR:DR D C)(hl:l=dN (aQ D.len D.nx) [0] k)(fW:l.length=k)(h:wv D C k (kD D l) (fun i=>D.q (l.getD i 0)) O)(hi:i<k):jG O i D ((l.getD i 0:Nat):Int):=by
 subst hl;have TI:0<C:=by have:=hR.c.1 0 (by omega);omega
 obtain⟨e1,e2,e3,e4,e5,e6⟩:=h;refine jG.lA (fun x y=>(x=-1/\y=-1)\/∃j:Nat,x=j/\y=(((dN (aQ D.len D.nx) [0] k).getD j 0:Nat):Int)/\j<k) ?_ ?_ (inr ⟨i,rfl,rfl,hi⟩)
 ·rintro x y (⟨rfl,rfl⟩|⟨j,rfl,rfl,hj⟩)
  ·rw[Aa,Aa]
  rw[zX _ (by omega),zX _ (Nh hR fW j 0 hj TI).1,e6 j hj]
 rintro x y b (⟨rfl,rfl⟩|⟨j,rfl,rfl,hj⟩) hb
 ·exact inl ⟨wL _ _,wL _ _⟩
 have hc:=hR.c.1 b hb;have hs:=Nh hR fW j _ hj hc;rw[zT _ (by omega),zT _ hs.1,e1,e5 j hj _ hc];rcases hs.2 with ⟨h4,h5⟩|⟨j2,hj2,h4,h5⟩
 ·exact inl ⟨h5,h4⟩
 exact inr ⟨j2,h4,h5,hj2⟩
end
def pI(D:Dd)(n:Nat)(a b:Nat):Prop:=∀i,i<n->D.nx i (D.K a)=D.nx i (D.K b)
section
variable {O M : Dd}{C B : Nat}{f : Nat → Nat}
def zU(O:Dd)(C:Nat)(f:Nat->Nat)(B:Nat)(M:Dd):Prop:=wv O C B (fun b c=>mj O f ((bP f O.n).getD b 0) c) (fun b=>O.q ((bP f O.n).getD b 0)) M
theorem NR(hN:jO (nI C (tD O) (mD O)) O.n f B){b:Nat}(hb:b<B):(bP f O.n).getD b 0<O.n/\f ((bP f O.n).getD b 0)=b:=by
 obtain⟨a1,a2,a3⟩:=hN.bP O.n (Nat.le_refl _);have h:=hN.iy;obtain⟨x,h1,h2,h3⟩:=a2 b (by omega);have e:(bP f O.n).getD b 0=x:=by rw[List.getD_eq_getElem?_getD,h1];rfl
 rw[e];exact⟨Ny f _ _ (List.mem_of_getElem? h1),h2⟩
theorem XU(hR:DR O C)(hN:jO (nI C (tD O) (mD O)) O.n f B){j:Nat}(hi:i<O.n)(hj:j<O.n):f i=f j↔jG O i O j:=by
 rw[hN.same i j hi hj,zp6 hR,O8 hi,O8 hj]
theorem zU.parts(h:zU O C f B M):M.K=O.K/\M.n=B/\M.m=B/\(∀i,i<B->M.len i=C)/\(∀i,i<B->∀c,c<C->M.nx i c=mj O f ((bP f O.n).getD i 0) c)/\∀i,i<B->M.q i=O.q ((bP f O.n).getD i 0):=h
theorem zU.JY(hR:DR O C)(hN:jO (nI C (tD O) (mD O)) O.n f B)(h:zU O C f B M)(hi:i<O.n):jG M ((f i:Nat):Int) O i:=by
 obtain⟨e1,e2,e3,e4,e5,e6⟩:=h.parts;refine jG.lA (fun x y=>(x=-1/\jG O y O (-1))\/∃j:Nat,x=((f j:Nat):Int)/\j<O.n/\jG O y O j) ?_ ?_ (inr ⟨i,rfl,hi,jG.refl _ _⟩)
 ·rintro x y (⟨rfl,h2⟩|⟨j,rfl,hj,h2⟩)
  ·rw[Aa,h2.mark,Aa]
  have hf:=hN.lt j hj;obtain⟨r1,r2⟩:=NR hN hf;have h3:=(XU hR hN r1 hj).1 r2;rw[zX _ (by omega),e6 _ hf,h2.mark,<-h3.mark,zX _ r1]
 rintro x y b (⟨rfl,h2⟩|⟨j,rfl,hj,h2⟩) hb
 ·have:=h2.step hb;rw[wL O] at this;exact inl ⟨wL _ _,this⟩
 have hf:=hN.lt j hj;obtain⟨r1,r2⟩:=NR hN hf;have h3:=h2.trans ((XU hR hN r1 hj).1 r2).symm;have hc:=hR.c.1 b hb;have h4:=h3.step hb;have hx:=hR.nx _ _ r1 hc;rw[zT O r1] at h4;rw[zT M (by omega),e1,e5 _ hf _ hc];unfold mj;split
 ·rename_i h5;rw[h5] at h4;exact inl ⟨rfl,h4⟩
 refine inr ⟨(O.nx ((bP f O.n).getD (f j) 0) (O.K b)).toNat,rfl,by omega,?_⟩;rw[Int.toNat_of_nonneg (by omega)];exact h4
theorem zU.right(hR:DR O C)(hN:jO (nI C (tD O) (mD O)) O.n f B)(h:zU O C f B M):DR M C:=by
 obtain⟨e1,e2,e3,e4,e5,e6⟩:=h.parts;have h1:=hR.n1;have h2:=hR.n2;have mZ:1<=B:=by have:=hN.lt 0 (by omega);omega
 have nO:B<=O.n:=by have:=hN.iy;have:=WT f O.n;omega
 refine⟨by rw[e1];exact hR.c,by omega,by omega,by omega,fun c hc=>by rw[e1];exact hR.LY c hc,fun i hi=>e4 i (by omega),fun i hi=>?_,fun i c hi hc=>?_⟩
 ·rw[e6 i (by omega)];exact hR.q _ (NR hN (by omega)).1
 rw[e5 i (by omega) c hc,e2];have hr:=(NR hN (b:=i) (by omega)).1;have:=hR.nx _ c hr hc;unfold mj;split
 ·omega
 have:=hN.lt (O.nx ((bP f O.n).getD i 0) c).toNat (by omega);omega
end
section
variable {M P : Dd}{C C' : Nat}{g : Nat → Nat}
structure CR (M:Dd)(g:Nat->Nat)(C':Nat)(P:Dd):Prop where
 K:∀b,b<256->P.K b=g b
 n:P.n=M.n
 m:P.m=M.n
 len:∀i,i<M.n->P.len i=C'
 nx:∀i,i<M.n->∀c,c<C'->P.nx i c=M.nx i (M.K ((bP g 256).getD c 0))
 q:∀i,i<M.n->P.q i=M.q i
theorem MM(hN:jO (pI M M.n) 256 g C'){c:Nat}(hc:c<C'):(bP g 256).getD c 0<256/\g ((bP g 256).getD c 0)=c:=by
 obtain⟨a1,a2,a3⟩:=hN.bP 256 (Nat.le_refl _);have h:=hN.iy;obtain⟨x,h1,h2,h3⟩:=a2 c (by omega);have e:(bP g 256).getD c 0=x:=by rw[List.getD_eq_getElem?_getD,h1];rfl
 rw[e];exact⟨Ny g _ _ (List.mem_of_getElem? h1),h2⟩
theorem CR.byte(hN:jO (pI M M.n) 256 g C')(h:CR M g C' P){b:Nat}(hi:i<M.n)(hb:b<256):P.nx i (P.K b)=M.nx i (M.K b):=by
 have hg:=hN.lt b hb;obtain⟨r1,r2⟩:=MM hN hg;rw[h.K b hb,h.nx i hi _ hg];exact (hN.same _ b r1 hb).1 r2 i hi
theorem CR.right(hR:DR M C)(hN:jO (pI M M.n) 256 g C')(h:CR M g C' P):DR P C':=by
 have h1:=hR.n1;have h2:=hR.n2;have LG:1<=C':=by have:=hN.lt 0 (by omega);omega
 refine⟨⟨fun j hj=>by rw[h.K j hj];exact hN.lt j hj,?_⟩,by rw[h.n];exact h1,by rw[h.n];exact h2,by rw[h.m,h.n],fun c hc=>?_,fun i hi=>h.len i (by rw[h.n] at hi;exact hi),fun i hi=>?_,fun i c hi hc=>?_⟩
 ·obtain⟨r1,r2⟩:=MM hN (c:=C'-1) (by omega);exact⟨_,r1,by rw[h.K _ r1,r2];omega⟩
 ·obtain⟨r1,r2⟩:=MM hN hc;exact⟨_,r1,by rw[h.K _ r1,r2]⟩
 ·rw[h.n] at hi;rw[h.q i hi];exact hR.q i hi
 rw[h.n] at hi⊢;rw[h.nx i hi c hc];exact hR.nx i _ hi (hR.c.1 _ (MM hN hc).1)
theorem CR.JY(hR:DR M C)(hN:jO (pI M M.n) 256 g C')(h:CR M g C' P)(hi:i<M.n):jG P i M i:=by
 refine jG.lA (fun x y=>x=y/\(x=-1\/∃j:Nat,x=j/\j<M.n)) ?_ ?_ ⟨rfl,inr ⟨i,rfl,hi⟩⟩
 ·rintro x y ⟨rfl,rfl|⟨j,rfl,hj⟩⟩
  ·rw[Aa,Aa]
  rw[zX _ (by rw[h.n];exact hj),zX _ hj,h.q j hj]
 rintro x y b ⟨rfl,rfl|⟨j,rfl,hj⟩⟩ hb
 ·exact⟨by rw[wL,wL],inl (wL _ _)⟩
 have hx:=hR.nx j _ hj (hR.c.1 b hb);rw[zT _ (by rw[h.n];exact hj),zT _ hj,h.byte hN hj hb];refine⟨rfl,?_⟩;by_cases e:M.nx j (M.K b)=-1
 ·exact inl e
 exact inr ⟨(M.nx j (M.K b)).toNat,by omega,by omega⟩
end
section
variable {X Y : Dd}{C D : Nat}
end
