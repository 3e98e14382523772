import Derived.Test.YtkkhakmdjinenaaGreatZPMn
import Derived.Test.YtkkhakmdjinenaaGreatZTKeep
set_option linter.all false
namespace Go.Proofs.YtkkhakmdjinenaaGreat
open Int (toNat_natCast toNat_of_nonneg)
open Or (inl inr)
open List (getD_eq_getElem?_getD mem_map range)
variable {C c i j:Nat}{D E T X:Dd}{l:List Nat}
def kC(D:Dd)(f:Nat->Nat)(i c:Nat):Int:=if D.nx i c=-1 then -1 else ((f (D.nx i c).toNat:Nat):Int)
def eE(D:Dd)(i:Int)(E:Dd)(j:Int):Prop:=∀(z:Nat->Nat) (m:Nat),(∀k,z k<256)->bp D (bB D i z m)=bp E (bB E j z m)
theorem eE.refl(D:Dd)(i:Int):eE D i D i:=fun z m hz=>rfl
theorem eE.symm{i j:Int}(h:eE D i E j):eE E j D i:=fun z m hz=>(h z m hz).symm
theorem eE.trans{F:Dd}{i j k:Int}(h:eE D i E j)(h2:eE E j F k):eE D i F k:=fun z m hz=>(h z m hz).trans (h2 z m hz)
theorem eE.mark{i j:Int}(h:eE D i E j):bp D i=bp E j:=h (fun _=>0) 0 (fun _=>by omega)
theorem XU(D:Dd)(i:Int)(b:Nat)(z:Nat->Nat)(m:Nat):bB D i (fun k=>if k=0 then b else z (k-1)) (m+1)=bB D (bK D i b) z m:=by
 induction m with
 | zero=>rfl
 | succ m ih=>
  show bK D (bB D i (fun k=>if k=0 then b else z (k-1)) (m+1)) (if m+1=0 then b else z (m+1-1))=_;rw[ih,if_neg (by omega)];rfl
theorem eE.step{D E:Dd}{i j:Int}(h:eE D i E j){b:Nat}(hb:b<256):eE D (bK D i b) E (bK E j b):=fun z m hz=>by
 have:=h (fun k=>if k=0 then b else z (k-1)) (m+1) (fun k=>by split;exact hb;exact hz _)
 rwa [XU,XU] at this
theorem eE.ki(R:Int->Int->Prop)(hm:∀i j,R i j->bp D i=bp E j)(hs:∀i j b,R i j->b<256->R (bK D i b) (bK E j b)){i j:Int}(h:R i j):eE D i E j:=fun z m hz=>by
 have:R (bB D i z m) (bB E j z m):=by
  induction m with
  | zero=>exact h
  | succ m ih=>exact hs _ _ _ ih (hz m)
 exact hm _ _ this
theorem uX(D:Dd):bp D (-1)=-1:=by unfold bp;rw[if_neg (by omega)]
theorem eE.dead(D E:Dd):eE D (-1) E (-1):=eE.ki (fun i j=>i=-1/\j=-1) (fun i j h=>by rw[h.1,h.2,uX,uX]) (fun i j b h hb=>by rw[h.1,h.2];exact⟨rb _ _,rb _ _⟩) ⟨rfl,rfl⟩
theorem tS(D:Dd){b:Nat}(hi:i<D.n):bK D (i:Int) b=D.nx i (D.K b):=by
 unfold bK;rw[if_pos (by omega),toNat_natCast]
theorem xe(D:Dd)(hi:i<D.n):bp D (i:Int)=D.q i:=by
 unfold bp;rw[if_pos (by omega),toNat_natCast]
theorem eE.nx(hR:DR D C)(hi:i<D.n)(hj:j<E.n)(hK:∀b,b<256->D.K b=E.K b)(h:eE D i E j)(hc:c<C):eE D (D.nx i c) E (E.nx j c):=by
 obtain⟨b,hb,e⟩:=hR.xu c hc;have:=h.step hb;rw[tS _ hi,tS _ hj,<-hK b hb,e] at this;exact this
theorem eE.nx1(hR:DR D C)(hi:i<D.n)(hj:j<D.n)(h:eE D i D j)(hc:c<C):eE D (D.nx i c) D (D.nx j c):=h.nx hR hi hj (fun _ _=>rfl) hc
def rT(D:Dd)(i:Nat):Int:=if i<D.n then ((i:Nat):Int) else -1
theorem DH(h:i<D.n):rT D i=(i:Int):=by unfold rT;rw[if_pos h]
theorem QL(D:Dd):rT D D.n=-1:=by unfold rT;rw[if_neg (by omega)]
theorem Mp(D:Dd)(i:Nat):bp D (rT D i)=mD D i:=by
 unfold rT mD;by_cases h:i<D.n
 ·rw[if_pos h,if_pos h,xe _ h]
 rw[if_neg h,if_neg h,uX]
theorem MR(hR:DR D C)(i b:Nat)(hb:b<256):bK D (rT D i) b=rT D (tD D i (D.K b)):=by
 have hc:=hR.c.1 b hb;unfold tD;by_cases h:i<D.n
 ·have:=hR.nx i _ h hc;rw[DH h,tS _ h];by_cases h2:0<=D.nx i (D.K b)
  ·rw[if_pos ⟨h,h2⟩,DH (by omega)];omega
  rw[if_neg (fun h3=>h2 h3.2),QL];omega
 rw[if_neg (fun h3=>h h3.1),QL];have:rT D i=-1:=by unfold rT;rw[if_neg h]
 rw[this,rb]
theorem Tq(hR:DR D C)(i j:Nat):jB C (tD D) (mD D) i j↔eE D (rT D i) D (rT D j):=by
 constructor
 ·intro h;refine eE.ki (fun x y=>∃i j,x=rT D i/\y=rT D j/\jB C (tD D) (mD D) i j) ?_ ?_ ⟨i,j,rfl,rfl,h⟩
  ·rintro x y ⟨i,j,rfl,rfl,h⟩;rw[Mp,Mp];exact h.mark
  rintro x y b ⟨i,j,rfl,rfl,h⟩ hb;exact⟨_,_,MR hR i b hb,MR hR j b hb,h.step (hR.c.1 b hb)⟩
 intro h;refine jB.ki (fun i j=>eE D (rT D i) D (rT D j)) (fun i j h=>⟨?_,fun c hc=>?_⟩) h
 ·rw[<-Mp,<-Mp];exact h.mark
 obtain⟨b,hb,rfl⟩:=hR.xu c hc;rw[<-MR hR i b hb,<-MR hR j b hb];exact h.step hb
def vT(D:Dd)(C:Nat):Prop:=∀i c,i<D.n->c<C->D.nx i c≠-1->¬eE D (D.nx i c) D (-1)
theorem zo5(hR:DR D C)(hj:j<D.n)(ha:wm D j):¬eE D j D (-1):=by
 intro h;obtain⟨k,h1,h2⟩:=ha;have key:k<D.n/\eE D k D (-1):=by
  clear h2
  induction h1 with
  | base e=>subst e;exact⟨hj,h⟩
  | @step x y _ e ih=>
   obtain⟨i1,i2⟩:=ih;obtain⟨_,c,hc,e2⟩:=e;rw[hR.len x i1] at hc;obtain⟨b,hb,rfl⟩:=hR.xu c hc;have h3:=i2.step hb;rw[tS _ i1,rb,e2] at h3;have:=hR.nx x _ i1 hc;exact⟨by omega,h3⟩
 have h3:=key.2.mark;rw[xe _ key.1,uX] at h3;omega
theorem zo6(hR:DR D C)(hj:j<D.n)(ha:¬wm D j):eE D j D (-1):=by
 refine eE.ki (fun x y=>y=-1/\(x=-1\/∃j:Nat,x=j/\j<D.n/\¬wm D j)) ?_ ?_ ⟨rfl,inr ⟨j,rfl,hj,ha⟩⟩
 ·rintro x y ⟨rfl,rfl|⟨j,rfl,hj,ha⟩⟩
  ·rfl
  rw[xe _ hj,uX];have:=hR.q j hj;have h2:¬0<=D.q j:=fun h=>ha ⟨j,.base rfl,h⟩
  omega
 rintro x y b ⟨rfl,rfl|⟨j,rfl,hj,ha⟩⟩ hb
 ·exact⟨rb _ _,inl (rb _ _)⟩
 refine⟨rb _ _,?_⟩;rw[tS _ hj];have hc:=hR.c.1 b hb;have:=hR.nx j _ hj hc;by_cases e:D.nx j (D.K b)=-1
 ·exact inl e
 refine inr ⟨(D.nx j (D.K b)).toNat,by omega,by omega,fun h=>ha (wm.of ⟨hj,D.K b,?_,by omega⟩ h)⟩;rw[hR.len j hj];exact hc
theorem pn.qV(hR:DR D C)(h:pn D C D.n (oa D) D.q T)(hi:i<D.n):eE T i D i:=by
 obtain⟨e1,e2,e3,e4,e5,e6⟩:=h;refine eE.ki (fun x y=>(x=-1/\eE D y D (-1))\/∃j:Nat,x=j/\y=j/\j<D.n) ?_ ?_ (inr ⟨i,rfl,rfl,hi⟩)
 ·rintro x y (⟨rfl,h2⟩|⟨j,rfl,rfl,hj⟩)
  ·rw[uX,h2.mark,uX]
  rw[xe _ hj,xe _ (by omega),e6 j hj]
 rintro x y b (⟨rfl,h2⟩|⟨j,rfl,rfl,hj⟩) hb
 ·left;have:=h2.step hb;rw[rb D] at this;exact⟨rb _ _,this⟩
 have hc:=hR.c.1 b hb;have hx:=hR.nx j _ hj hc;rw[tS _ hj,tS _ (by omega),e1,e5 j hj _ hc];unfold oa;split
 ·rename_i h3;left;refine⟨rfl,?_⟩;have:=zo6 hR (j:=(D.nx j (D.K b)).toNat) (by omega) h3.2;rw[toNat_of_nonneg h3.1] at this;exact this
 by_cases e:D.nx j (D.K b)=-1
 ·rw[e];exact inl ⟨rfl,eE.refl _ _⟩
 exact inr ⟨(D.nx j (D.K b)).toNat,by omega,by omega,by omega⟩
theorem pn.xQ(hR:DR D C)(h:pn D C D.n (oa D) D.q T):vT T C:=by
 have h0:=h;obtain⟨e1,e2,e3,e4,e5,e6⟩:=h;intro i c hi hc hne hb;rw[e2] at hi;have hx:=hR.nx i c hi hc;rw[e5 i hi c hc] at hne hb;unfold oa at hne hb;split at hne
 ·exact hne rfl
 rename_i h3;rw[if_neg h3] at hb;have h4:wm D (D.nx i c).toNat:=Classical.byContradiction fun h=>h3 ⟨by omega,h⟩
 have hj:(D.nx i c).toNat<D.n:=by omega
 have h5:=h0.qV hR hj;rw[toNat_of_nonneg (by omega)] at h5;have h6:=(h5.symm.trans hb).trans (eE.dead T D);have h7:=zo5 hR hj h4;rw[toNat_of_nonneg (by omega)] at h7;exact h7 h6
section
variable {D O : Dd}{C k : Nat}{l : List Nat}
theorem pn.pV(hR:DR D C)(hl:l=dw (av D.len D.nx) [0] k)(dE:l.length=k)(h:pn D C k (iC D l) (fun i=>D.q (l.getD i 0)) O)(hi:i<k):eE O i D ((l.getD i 0:Nat):Int):=by
 subst hl;have Qu:0<C:=by have:=hR.c.1 0 (by omega);omega
 obtain⟨e1,e2,e3,e4,e5,e6⟩:=h;refine eE.ki (fun x y=>(x=-1/\y=-1)\/∃j:Nat,x=j/\y=(((dw (av D.len D.nx) [0] k).getD j 0:Nat):Int)/\j<k) ?_ ?_ (inr ⟨i,rfl,rfl,hi⟩)
 ·rintro x y (⟨rfl,rfl⟩|⟨j,rfl,rfl,hj⟩)
  ·rw[uX,uX]
  rw[xe _ (by omega),xe _ (Dr hR dE j 0 hj Qu).1,e6 j hj]
 rintro x y b (⟨rfl,rfl⟩|⟨j,rfl,rfl,hj⟩) hb
 ·exact inl ⟨rb _ _,rb _ _⟩
 have hc:=hR.c.1 b hb;have hs:=Dr hR dE j _ hj hc;rw[tS _ (by omega),tS _ hs.1,e1,e5 j hj _ hc];rcases hs.2 with ⟨h4,h5⟩|⟨j2,hj2,h4,h5⟩
 ·exact inl ⟨h5,h4⟩
 exact inr ⟨j2,h4,h5,hj2⟩
theorem pn.tR(hR:DR D C)(hT:vT D C)(hl:l=dw (av D.len D.nx) [0] k)(dE:l.length=k)(h:pn D C k (iC D l) (fun i=>D.q (l.getD i 0)) O):vT O C:=by
 have hb:=fun i (hi:i<k)=>h.pV hR hl dE hi
 subst hl;obtain⟨e1,e2,e3,e4,e5,e6⟩:=h;intro i c hi hc hne hd;rw[e2] at hi;rw[e5 i hi c hc] at hne hd;have hs:=Dr hR dE i c hi hc;rcases hs.2 with ⟨h4,h5⟩|⟨j,hj,h4,h5⟩
 ·exact hne h5
 rw[h4] at hd;have h6:=((hb j hj).symm.trans hd).trans (eE.dead O D);rw[<-h5] at h6;exact hT _ c hs.1 hc (by omega) h6
def oQ(D:Dd):Prop:=dw (av D.len D.nx) [0] D.n=range D.n
theorem VY(hn:l.Nodup):l.map (fun x=>l.idxOf x)=range l.length:=by
 apply List.ext_getElem
 ·simp
 intro i h1 h2;simp at h1;rw[List.getElem_map,List.getElem_range];exact hn.idxOf_getElem i h1
theorem zmR{m:List Nat}(hm:∀x∈m,x∈l){t:Int}(ht:-1<=t)(Is:t≠-1->t.toNat∈l):iZ (m.map fun x=>l.idxOf x) (AI l t)=(iZ m t).map fun x=>l.idxOf x:=by
 unfold AI;by_cases e:t=-1
 ·subst e;rw[if_pos rfl];unfold iZ;rw[if_neg (fun h=>by omega),if_neg (fun h=>by omega)]
 rw[if_neg e];have h2:=Is e;unfold iZ;have IF:(((l.idxOf t.toNat:Nat):Int).toNat∈m.map fun x=>l.idxOf x)↔t.toNat∈m:=by
  rw[toNat_natCast,mem_map];constructor
  ·rintro⟨x,hx,e2⟩;have h3:=hm x hx;have h4:=List.getElem_idxOf (List.idxOf_lt_length_iff.2 h3);have h5:=List.getElem_idxOf (List.idxOf_lt_length_iff.2 h2);simp only[e2] at h4;rw[h4] at h5;rw[<-h5];exact hx
  intro h;exact⟨_,h,rfl⟩
 by_cases h3:t.toNat∈m
 ·rw[if_neg (fun h=>h.2 (IF.2 h3)),if_neg (fun h=>h.2 h3)]
 rw[if_pos ⟨by omega,fun h=>h3 (IF.1 h)⟩,if_pos ⟨by omega,h3⟩,List.map_append];simp
theorem zmS(row:List Int):∀m:List Nat,(∀x∈m,x∈l)->(∀t∈row,-1<=t/\(t≠-1->t.toNat∈l))->iv (m.map fun x=>l.idxOf x) (row.map (AI l))=(iv m row).map fun x=>l.idxOf x:=by
 induction row with
 | nil=>intro m _ _;rfl
 | cons t row ih=>
  intro m hm hr;show iv (iZ (m.map fun x=>l.idxOf x) (AI l t)) (row.map (AI l))=(iv (iZ m t) row).map fun x=>l.idxOf x
  have h1:=hr t (by simp);rw[zmR hm h1.1 h1.2];refine ih _ (fun x hx=>?_) (fun u hu=>hr u (by simp[hu]));rcases (WW m t x).1 hx with h2|h2
  ·exact hm x h2
  have:=h1.2 (by omega);rw[h2] at this;simpa using this
theorem pn.It(hR:DR D C)(hl:l=dw (av D.len D.nx) [0] k)(dE:l.length=k)(h:pn D C k (iC D l) (fun i=>D.q (l.getD i 0)) O):oQ O:=by
 obtain⟨e1,e2,e3,e4,e5,e6⟩:=h;have gn:∀x∈l,x<D.n:=by rw[hl];exact Mk hR k
 have iJ:∀i (hi:i<k),∀y,WE (av D.len D.nx) (l.getD i 0) y->y∈l:=by
  intro i hi y hy;have lv:i<l.length:=by omega
  have:=NL (av D.len D.nx) [0] k i hi;rw[<-hl] at this;refine this lv y ?_;have e:l.getD i 0=l[i]:=by simp[getD_eq_getElem?_getD,lv]
  rwa [e] at hy
 have ju:l.Nodup:=by rw[hl];exact M6 _ (by simp) _
 have key:∀i,i<=k->dw (av O.len O.nx) [0] i=(dw (av D.len D.nx) [0] i).map fun x=>l.idxOf x:=by
  intro i
  induction i with
  | zero=>
   intro _;show [0]=[l.idxOf 0];have h1:=KU (av D.len D.nx) [0] k;rw[<-hl] at h1;rw[zp3 h1 (by simp)];simp
  | succ i ih=>
   intro hi;have ih:=ih (by omega);show pr (av O.len O.nx) (dw (av O.len O.nx) [0] i) i=(pr (av D.len D.nx) (dw (av D.len D.nx) [0] i) i).map _;have Ao:dw (av D.len D.nx) [0] i <+: l:=(by rw[hl];exact zqP (by omega));rw[ih];unfold pr;rw[List.length_map];split
   ·rename_i aq;generalize dw (av D.len D.nx) [0] i=m at Ao aq⊢;have e7:m.getD i 0=l.getD i 0:=by
     have h8:=Ao.getElem aq;simp[getD_eq_getElem?_getD,aq,h8,show i<l.length by omega]
    have e8:(m.map fun x=>l.idxOf x).getD i 0=i:=by
     have h9:(List.map (fun x=>l.idxOf x) l)[i]?=some i:=(by rw[VY ju,List.getElem?_range (by omega)]);rw[getD_eq_getElem?_getD];have Uh:=(Ao.map (fun x=>l.idxOf x)).getElem (i:=i) (by simpa using aq);rw[List.getElem?_eq_getElem (by simpa using aq),Uh];rw[List.getElem?_eq_getElem (by simp;omega)] at h9;exact Option.some.inj h9
    rw[e8,e7];have hY:l.getD i 0<D.n:=by
     have lv:i<l.length:=(by omega);rw[show l.getD i 0=l[i] by simp[getD_eq_getElem?_getD,lv]];exact gn _ (List.getElem_mem lv)
    have e9:av O.len O.nx i=(av D.len D.nx (l.getD i 0)).map (AI l):=by
     unfold av;rw[e4 i (by omega),hR.len _ hY,List.map_map];refine(List.map_congr_left fun c hc=>?_);rw[e5 i (by omega) c (List.mem_range.1 hc)];rfl
    rw[e9];refine zmS _ _ (fun x hx=>Ao.subset hx) (fun t ht=>?_);have h11:-1<=t:=by
     unfold av at ht;obtain⟨c,hc,rfl⟩:=List.mem_map.1 ht;have hc:=List.mem_range.1 hc;rw[hR.len _ hY] at hc;exact (hR.nx _ c hY hc).1
    refine⟨h11,fun hne=>iJ i (by omega) _ ?_⟩;unfold WE;rw[toNat_of_nonneg (by omega)];exact ht
   rfl
 unfold oQ;rw[e2,key k (Nat.le_refl _),<-hl,VY ju,dE]
theorem oQ.all(h:oQ X)(hi:i<X.n):jA (WE (av X.len X.nx)) (fun y=>y∈[0]) i:=by
 have h2:=YQ (av X.len X.nx) [0] X.n;rw[h] at h2;exact h2 i (List.mem_range.2 hi)
end
def jy(D:Dd)(n:Nat)(a b:Nat):Prop:=∀i,i<n->D.nx i (D.K a)=D.nx i (D.K b)
structure Mn (X:Dd)(C:Nat):Prop where
 r:DR X C
 ord:oQ X
 Ba:vT X C
 apart:∀i j,i<X.n->j<X.n->eE X i X j->i=j
 cls:fH (jy X X.n) 256 X.K C
section
variable {O M : Dd}{C B : Nat}{f : Nat → Nat}
def qR(O:Dd)(C:Nat)(f:Nat->Nat)(B:Nat)(M:Dd):Prop:=pn O C B (fun b c=>kC O f ((bH f O.n).getD b 0) c) (fun b=>O.q ((bH f O.n).getD b 0)) M
theorem zA(hN:fH (jB C (tD O) (mD O)) O.n f B){b:Nat}(hb:b<B):(bH f O.n).getD b 0<O.n/\f ((bH f O.n).getD b 0)=b:=by
 obtain⟨a1,a2,a3⟩:=hN.bH O.n (Nat.le_refl _);have h:=hN.ic;obtain⟨x,h1,h2,h3⟩:=a2 b (by omega);have e:(bH f O.n).getD b 0=x:=by rw[getD_eq_getElem?_getD,h1];rfl
 rw[e];exact⟨L6 f _ _ (List.mem_of_getElem? h1),h2⟩
theorem KI(hR:DR O C)(hN:fH (jB C (tD O) (mD O)) O.n f B)(hi:i<O.n)(hj:j<O.n):f i=f j↔eE O i O j:=by
 rw[hN.same i j hi hj,Tq hR,DH hi,DH hj]
theorem qR.parts(h:qR O C f B M):M.K=O.K/\M.n=B/\M.m=B/\(∀i,i<B->M.len i=C)/\(∀i,i<B->∀c,c<C->M.nx i c=kC O f ((bH f O.n).getD i 0) c)/\∀i,i<B->M.q i=O.q ((bH f O.n).getD i 0):=h
theorem qR.xx(hR:DR O C)(hN:fH (jB C (tD O) (mD O)) O.n f B)(h:qR O C f B M)(hi:i<O.n):eE M ((f i:Nat):Int) O i:=by
 obtain⟨e1,e2,e3,e4,e5,e6⟩:=h.parts;refine eE.ki (fun x y=>(x=-1/\eE O y O (-1))\/∃j:Nat,x=((f j:Nat):Int)/\j<O.n/\eE O y O j) ?_ ?_ (inr ⟨i,rfl,hi,eE.refl _ _⟩)
 ·rintro x y (⟨rfl,h2⟩|⟨j,rfl,hj,h2⟩)
  ·rw[uX,h2.mark,uX]
  have hf:=hN.lt j hj;obtain⟨r1,r2⟩:=zA hN hf;have h3:=(KI hR hN r1 hj).1 r2;rw[xe _ (by omega),e6 _ hf,h2.mark,<-h3.mark,xe _ r1]
 rintro x y b (⟨rfl,h2⟩|⟨j,rfl,hj,h2⟩) hb
 ·have:=h2.step hb;rw[rb O] at this;exact inl ⟨rb _ _,this⟩
 have hf:=hN.lt j hj;obtain⟨r1,r2⟩:=zA hN hf;have h3:=h2.trans ((KI hR hN r1 hj).1 r2).symm;have hc:=hR.c.1 b hb;have h4:=h3.step hb;have hx:=hR.nx _ _ r1 hc;rw[tS O r1] at h4;rw[tS M (by omega),e1,e5 _ hf _ hc];unfold kC;split
 ·rename_i h5;rw[h5] at h4;exact inl ⟨rfl,h4⟩
 refine inr ⟨(O.nx ((bH f O.n).getD (f j) 0) (O.K b)).toNat,rfl,by omega,?_⟩;rw[toNat_of_nonneg (by omega)];exact h4
theorem qR.right(hR:DR O C)(hN:fH (jB C (tD O) (mD O)) O.n f B)(h:qR O C f B M):DR M C:=by
 obtain⟨e1,e2,e3,e4,e5,e6⟩:=h.parts;have h1:=hR.n1;have h2:=hR.n2;have mG:1<=B:=by have:=hN.lt 0 (by omega);omega
 have mR:B<=O.n:=by have:=hN.ic;have:=YC f O.n;omega
 refine⟨by rw[e1];exact hR.c,by omega,by omega,by omega,fun c hc=>by rw[e1];exact hR.xu c hc,fun i hi=>e4 i (by omega),fun i hi=>?_,fun i c hi hc=>?_⟩
 ·rw[e6 i (by omega)];exact hR.q _ (zA hN (by omega)).1
 rw[e5 i (by omega) c hc,e2];have hr:=(zA hN (b:=i) (by omega)).1;have:=hR.nx _ c hr hc;unfold kC;split
 ·omega
 have:=hN.lt (O.nx ((bH f O.n).getD i 0) c).toNat (by omega);omega
theorem qR.apart(hR:DR O C)(hN:fH (jB C (tD O) (mD O)) O.n f B)(h:qR O C f B M){a b:Nat}(ha:a<B)(hb:b<B)(Dk:eE M a M b):a=b:=by
 obtain⟨a1,a2⟩:=zA hN ha;obtain⟨b1,b2⟩:=zA hN hb;have h1:=h.xx hR hN a1;have h2:=h.xx hR hN b1;rw[a2] at h1;rw[b2] at h2;have:=(KI hR hN a1 b1).2 ((h1.symm.trans Dk).trans h2);omega
theorem qR.nx(hR:DR O C)(hT:vT O C)(hN:fH (jB C (tD O) (mD O)) O.n f B)(h:qR O C f B M)(hi:i<O.n)(hc:c<C):M.nx (f i) c=kC O f i c:=by
 obtain⟨e1,e2,e3,e4,e5,e6⟩:=h.parts;have hf:=hN.lt i hi;obtain⟨r1,r2⟩:=zA hN hf;have h3:=(KI hR hN r1 hi).1 r2;have h4:=h3.nx1 hR r1 hi hc;rw[e5 _ hf c hc];have x1:=hR.nx _ c r1 hc;have x2:=hR.nx _ c hi hc;unfold kC;by_cases g1:O.nx ((bH f O.n).getD (f i) 0) c=-1
 ·by_cases g2:O.nx i c=-1
  ·rw[if_pos g1,if_pos g2]
  rw[g1] at h4;exact absurd h4.symm (hT i c hi hc g2)
 by_cases g2:O.nx i c=-1
 ·rw[g2] at h4;exact absurd h4 (hT _ c r1 hc g1)
 rw[if_neg g1,if_neg g2];congr 1;refine (KI hR hN (by omega) (by omega)).2 ?_;rw[toNat_of_nonneg (by omega),toNat_of_nonneg (by omega)];exact h4
theorem qR.Ba(hR:DR O C)(hT:vT O C)(hN:fH (jB C (tD O) (mD O)) O.n f B)(h:qR O C f B M):vT M C:=by
 intro b c hb hc hne hd;have hb:b<B:=by rw[h.2.1] at hb;exact hb
 obtain⟨r1,r2⟩:=zA hN hb;have hx:=hR.nx _ c r1 hc;have e:=h.nx hR hT hN r1 hc;rw[r2] at e;rw[e] at hne hd;unfold kC at hne hd;by_cases g:O.nx ((bH f O.n).getD b 0) c=-1
 ·rw[if_pos g] at hne;exact hne rfl
 rw[if_neg g] at hd;have h2:=h.xx hR hN (i:=(O.nx ((bH f O.n).getD b 0) c).toNat) (by omega);have h3:=(h2.symm.trans hd).trans (eE.dead M O);rw[toNat_of_nonneg (by omega)] at h3;exact hT _ c r1 hc g h3
end
section
variable {M P : Dd}{C C' : Nat}{g : Nat → Nat}
structure sI (M:Dd)(g:Nat->Nat)(C':Nat)(P:Dd):Prop where
 K:∀b,b<256->P.K b=g b
 n:P.n=M.n
 m:P.m=M.n
 len:∀i,i<M.n->P.len i=C'
 nx:∀i,i<M.n->∀c,c<C'->P.nx i c=M.nx i (M.K ((bH g 256).getD c 0))
 q:∀i,i<M.n->P.q i=M.q i
theorem IC(hN:fH (jy M M.n) 256 g C')(hc:c<C'):(bH g 256).getD c 0<256/\g ((bH g 256).getD c 0)=c:=by
 obtain⟨a1,a2,a3⟩:=hN.bH 256 (Nat.le_refl _);have h:=hN.ic;obtain⟨x,h1,h2,h3⟩:=a2 c (by omega);have e:(bH g 256).getD c 0=x:=by rw[getD_eq_getElem?_getD,h1];rfl
 rw[e];exact⟨L6 g _ _ (List.mem_of_getElem? h1),h2⟩
theorem sI.byte(hN:fH (jy M M.n) 256 g C')(h:sI M g C' P){b:Nat}(hi:i<M.n)(hb:b<256):P.nx i (P.K b)=M.nx i (M.K b):=by
 have hg:=hN.lt b hb;obtain⟨r1,r2⟩:=IC hN hg;rw[h.K b hb,h.nx i hi _ hg];exact (hN.same _ b r1 hb).1 r2 i hi
theorem sI.right(hR:DR M C)(hN:fH (jy M M.n) 256 g C')(h:sI M g C' P):DR P C':=by
 have h1:=hR.n1;have h2:=hR.n2;have Iv:1<=C':=by have:=hN.lt 0 (by omega);omega
 refine⟨⟨fun j hj=>by rw[h.K j hj];exact hN.lt j hj,?_⟩,by rw[h.n];exact h1,by rw[h.n];exact h2,by rw[h.m,h.n],fun c hc=>?_,fun i hi=>h.len i (by rw[h.n] at hi;exact hi),fun i hi=>?_,fun i c hi hc=>?_⟩
 ·obtain⟨r1,r2⟩:=IC hN (c:=C'-1) (by omega);exact⟨_,r1,by rw[h.K _ r1,r2];omega⟩
 ·obtain⟨r1,r2⟩:=IC hN hc;exact⟨_,r1,by rw[h.K _ r1,r2]⟩
 ·rw[h.n] at hi;rw[h.q i hi];exact hR.q i hi
 rw[h.n] at hi⊢;rw[h.nx i hi c hc];exact hR.nx i _ hi (hR.c.1 _ (IC hN hc).1)
theorem sI.xx(hR:DR M C)(hN:fH (jy M M.n) 256 g C')(h:sI M g C' P)(hi:i<M.n):eE P i M i:=by
 refine eE.ki (fun x y=>x=y/\(x=-1\/∃j:Nat,x=j/\j<M.n)) ?_ ?_ ⟨rfl,inr ⟨i,rfl,hi⟩⟩
 ·rintro x y ⟨rfl,rfl|⟨j,rfl,hj⟩⟩
  ·rw[uX,uX]
  rw[xe _ (by rw[h.n];exact hj),xe _ hj,h.q j hj]
 rintro x y b ⟨rfl,rfl|⟨j,rfl,hj⟩⟩ hb
 ·exact⟨by rw[rb,rb],inl (rb _ _)⟩
 have hx:=hR.nx j _ hj (hR.c.1 b hb);rw[tS _ (by rw[h.n];exact hj),tS _ hj,h.byte hN hj hb];refine⟨rfl,?_⟩;by_cases e:M.nx j (M.K b)=-1
 ·exact inl e
 exact inr ⟨(M.nx j (M.K b)).toNat,by omega,by omega⟩
theorem sI.Ba(hR:DR M C)(hT:vT M C)(hN:fH (jy M M.n) 256 g C')(h:sI M g C' P):vT P C':=by
 intro i c hi hc hne hd;rw[h.n] at hi;have hk:=hR.c.1 _ (IC hN hc).1;rw[h.nx i hi c hc] at hne hd;have hx:=hR.nx i _ hi hk;have h2:=h.xx hR hN (i:=(M.nx i (M.K ((bH g 256).getD c 0))).toNat) (by omega);rw[toNat_of_nonneg (by omega)] at h2;exact hT i _ hi hk hne ((h2.symm.trans hd).trans (eE.dead P M))
theorem sI.apart(hR:DR M C)(hN:fH (jy M M.n) 256 g C')(h:sI M g C' P)(hA:∀i j,i<M.n->j<M.n->eE M i M j->i=j)(hi:i<P.n)(hj:j<P.n)(hb:eE P i P j):i=j:=by
 rw[h.n] at hi hj;exact hA i j hi hj (((h.xx hR hN hi).symm.trans hb).trans (h.xx hR hN hj))
theorem sI.cls(hN:fH (jy M M.n) 256 g C')(h:sI M g C' P):fH (jy P P.n) 256 P.K C':=by
 refine (hN.iff (R':=jy P P.n) (fun a b ha hb=>?_)).congr (fun b hb=>(h.K b hb).symm);constructor
 ·intro h2 i hi;rw[h.n] at hi;rw[h.byte hN hi ha,h.byte hN hi hb];exact h2 i hi
 intro h2 i hi;have:=h2 i (by rw[h.n];exact hi);rwa [h.byte hN hi ha,h.byte hN hi hb] at this
end
theorem VU{x y:Nat}(hx:x<D.n):WE (av D.len D.nx) x y↔Ed D x y:=by
 unfold WE av Ed;rw[mem_map];constructor
 ·rintro⟨c,hc,e⟩;exact⟨hx,c,List.mem_range.1 hc,e⟩
 rintro⟨_,c,hc,e⟩;exact⟨c,List.mem_range.2 hc,e⟩
theorem oQ.SF(hR:DR X C)(h:oQ X)(hi:i<X.n):jA (Ed X) (fun y=>y=0) i:=by
 have h2:=h.all hi;have hn:=hR.n1;have key:∀x,jA (WE (av X.len X.nx)) (fun y=>y∈[0]) x->x<X.n/\jA (Ed X) (fun y=>y=0) x:=by
  intro x hx
  induction hx with
  | base h=>simp at h;subst h;exact⟨by omega,.base rfl⟩
  | step _ e ih=>
   have:=(VU ih.1).1 e;exact⟨hR.ed _ _ this,.step ih.2 this⟩
 exact (key i h2).2
theorem Mn.made{O M P:Dd}{B C' k:Nat}{f g:Nat->Nat}(hR:DR O C)(hO:oQ O)(hT:vT O C)(hN:fH (jB C (tD O) (mD O)) O.n f B)(hM:qR O C f B M)(hG:fH (jy M M.n) 256 g C')(hP:sI M g C' P)
  (hl:l=dw (av P.len P.nx) [0] k) (dE:l.length=k) (rV:k<=P.n) (hX:pn P C' k (iC P l) (fun i=>P.q (l.getD i 0)) X):Mn X C'/\eE X 0 O 0:=by
 have NW:=hM.right hR hN;have Ag:=hP.right NW hG;have hTM:=hM.Ba hR hT hN;have hTP:=hP.Ba NW hTM hG;have YN:=hX;have da:=hR.n1;have pE:M.n=B:=hM.2.1;have hAM:∀i j,i<M.n->j<M.n->eE M i M j->i=j:=fun i j hi hj=>hM.apart hR hN (by omega) (by omega)
 have hRX:DR X C':=by subst hl;exact hX.pw Ag dE rV
 have qE:=fun i (hi:i<k)=>hX.pV Ag hl dE hi
 obtain⟨e1,e2,e3,e4,e5,e6⟩:=hX;have gn:∀x∈l,x<P.n:=by rw[hl];exact Mk Ag k
 have ju:l.Nodup:=by rw[hl];exact M6 _ (by simp) _
 have zR:∀i,i<k->l.getD i 0∈l:=fun i hi=>by
  rw[show l.getD i 0=l[i]'(by omega) by simp[getD_eq_getElem?_getD,show i<l.length by omega]];exact List.getElem_mem _
 have f0:f 0=0:=by have:=hN.le 0 (by omega);omega
 have eu:∀a,a<P.n->a∈l:=by
  intro a ha;rw[hP.n,pE] at ha;have jw:=Sq (av P.len P.nx) [0] (i:=k) (by rw[<-hl];exact dE);rw[<-hl] at jw;rw[jw];obtain⟨r1,r2⟩:=zA hN ha;have h1:=hO.SF hR r1;rw[<-r2];have key:∀x,jA (Ed O) (fun y=>y=0) x->x<O.n/\jA (WE (av P.len P.nx)) (fun y=>y∈[0]) (f x):=by
   intro x hx
   induction hx with
   | base h=>subst h;exact⟨by omega,.base (by rw[f0];simp)⟩
   | @step x y _ e ih=>
    have hy:=hR.ed _ _ e;refine⟨hy,.step ih.2 ?_⟩;obtain⟨hx,c,hc,e7⟩:=e;rw[hR.len x hx] at hc;obtain⟨b,hb,rfl⟩:=hR.xu c hc;have FE:=hN.lt x hx;have h3:=hP.byte hG (i:=f x) (by omega) hb;have h4:=hM.nx hR hT hN hx hc;rw[hM.1,h4] at h3;unfold kC at h3;rw[if_neg (by omega),e7,toNat_natCast] at h3;have Zy:f x<P.n:=(by rw[hP.n,pE];exact FE);exact (VU Zy).2 ⟨Zy,P.K b,by rw[hP.len _ (by omega),hP.K b hb];exact hG.lt b hb,h3⟩
  exact (key _ h1).2
 refine⟨⟨hRX,YN.It Ag hl dE,YN.tR Ag hTP hl dE,fun i j hi hj hb=>?_,?_⟩,?_⟩
 ·rw[e2] at hi hj;have h1:=hP.apart NW hG hAM (gn _ (zR i hi)) (gn _ (zR j hj)) (((qE i hi).symm.trans hb).trans (qE j hj));have lv:i<l.length:=by omega
  have hj2:j<l.length:=by omega
  simp only[getD_eq_getElem?_getD,List.getElem?_eq_getElem lv,List.getElem?_eq_getElem hj2,Option.getD_some] at h1;exact (List.getElem_inj (h₀:=lv) (h₁:=hj2) ju).1 h1
 ·refine ((hP.cls hG).iff (R':=jy X X.n) (fun a b ha hb=>?_)).congr (fun b hb=>by rw[e1]);have SC:=Ag.c.1 a ha;have Pz:=Ag.c.1 b hb;constructor
  ·intro h2 i hi;rw[e2] at hi;rw[e1,e5 i hi _ SC,e5 i hi _ Pz];unfold iC;rw[h2 _ (gn _ (zR i hi))]
  intro h2 j hj;have hjl:=eu j hj;obtain⟨i,hi,e⟩:=List.getElem_of_mem hjl;have h3:=h2 i (by omega);rw[e1,e5 i (by omega) _ SC,e5 i (by omega) _ Pz] at h3;have OT:=Dr Ag (by rw[<-hl];exact dE) i _ (by omega) SC;have pH:=Dr Ag (by rw[<-hl];exact dE) i _ (by omega) Pz;rw[<-hl] at OT pH;have e9:l.getD i 0=j:=by simp[getD_eq_getElem?_getD,hi,e]
  rw[e9] at OT pH;rcases OT.2 with ⟨u1,u2⟩|⟨ja,u0,u1,u2⟩
  ·rcases pH.2 with ⟨v1,v2⟩|⟨jb,v0,v1,v2⟩
   ·rw[u1,v1]
   rw[u2,v1] at h3;omega
  rcases pH.2 with ⟨v1,v2⟩|⟨jb,v0,v1,v2⟩
  ·rw[u1,v2] at h3;omega
  rw[u1,v1] at h3;have:ja=jb:=by omega
  rw[u2,v2,this]
 have j9:1<=k/\l.getD 0 0=0:=by
  have:=OI (D:=P) (k:=k) (by rw[<-hl];exact dE);rw[<-hl] at this;exact this
 have h1:=qE 0 (by omega);rw[j9.2] at h1;have h2:=hP.xx NW hG (i:=0) (by rw[pE];have:=hN.lt 0 (by omega);omega);have h3:=hM.xx hR hN (i:=0) (by omega);rw[f0] at h3;exact (h1.trans h2).trans h3
section
variable {X Y : Dd}{C D : Nat}
end
