import Derived.Test.YtiijebameffenaaGreatZPMn
set_option linter.all false
namespace Go.Proofs.YtiijebameffenaaGreat
open Int (toNat_natCast toNat_of_nonneg)
open Or (inl inr)
open List (getD_eq_getElem?_getD mem_map range)
variable {C c i j:Nat}{D E T X:Dd}{l:List Nat}
def jV(D:Dd)(f:Nat->Nat)(i c:Nat):Int:=if D.nx i c=-1 then -1 else ((f (D.nx i c).toNat:Nat):Int)
def ee(D:Dd)(i:Int)(E:Dd)(j:Int):Prop:=∀(z:Nat->Nat) (m:Nat),(∀k,z k<256)->dk D (dt D i z m)=dk E (dt E j z m)
theorem ee.refl(D:Dd)(i:Int):ee D i D i:=fun z m hz=>rfl
theorem ee.symm{i j:Int}(h:ee D i E j):ee E j D i:=fun z m hz=>(h z m hz).symm
theorem ee.trans{F:Dd}{i j k:Int}(h:ee D i E j)(h2:ee E j F k):ee D i F k:=fun z m hz=>(h z m hz).trans (h2 z m hz)
theorem ee.mark{i j:Int}(h:ee D i E j):dk D i=dk E j:=h (fun _=>0) 0 (fun _=>by omega)
theorem Un(D:Dd)(i:Int)(b:Nat)(z:Nat->Nat)(m:Nat):dt D i (fun k=>if k=0 then b else z (k-1)) (m+1)=dt D (dr D i b) z m:=by
 induction m with
 | zero=>rfl
 | succ m ih=>
  show dr D (dt D i (fun k=>if k=0 then b else z (k-1)) (m+1)) (if m+1=0 then b else z (m+1-1))=_;rw[ih,if_neg (by omega)];rfl
theorem ee.step{D E:Dd}{i j:Int}(h:ee D i E j){b:Nat}(hb:b<256):ee D (dr D i b) E (dr E j b):=fun z m hz=>by
 have:=h (fun k=>if k=0 then b else z (k-1)) (m+1) (fun k=>by split;exact hb;exact hz _)
 rwa [Un,Un] at this
theorem ee.jP(R:Int->Int->Prop)(hm:∀i j,R i j->dk D i=dk E j)(hs:∀i j b,R i j->b<256->R (dr D i b) (dr E j b)){i j:Int}(h:R i j):ee D i E j:=fun z m hz=>by
 have:R (dt D i z m) (dt E j z m):=by
  induction m with
  | zero=>exact h
  | succ m ih=>exact hs _ _ _ ih (hz m)
 exact hm _ _ this
theorem ui(D:Dd):dk D (-1)=-1:=by unfold dk;rw[if_neg (by omega)]
theorem ee.dead(D E:Dd):ee D (-1) E (-1):=ee.jP (fun i j=>i=-1/\j=-1) (fun i j h=>by rw[h.1,h.2,ui,ui]) (fun i j b h hb=>by rw[h.1,h.2];exact⟨rv _ _,rv _ _⟩) ⟨rfl,rfl⟩
theorem uw(D:Dd){b:Nat}(hi:i<D.n):dr D (i:Int) b=D.nx i (D.K b):=by
 unfold dr;rw[if_pos (by omega),toNat_natCast]
theorem wU(D:Dd)(hi:i<D.n):dk D (i:Int)=D.q i:=by
 unfold dk;rw[if_pos (by omega),toNat_natCast]
theorem ee.nx(hR:DR D C)(hi:i<D.n)(hj:j<E.n)(hK:∀b,b<256->D.K b=E.K b)(h:ee D i E j)(hc:c<C):ee D (D.nx i c) E (E.nx j c):=by
 obtain⟨b,hb,e⟩:=hR.AY c hc;have:=h.step hb;rw[uw _ hi,uw _ hj,<-hK b hb,e] at this;exact this
theorem ee.nx1(hR:DR D C)(hi:i<D.n)(hj:j<D.n)(h:ee D i D j)(hc:c<C):ee D (D.nx i c) D (D.nx j c):=h.nx hR hi hj (fun _ _=>rfl) hc
def rK(D:Dd)(i:Nat):Int:=if i<D.n then ((i:Nat):Int) else -1
theorem Lk(h:i<D.n):rK D i=(i:Int):=by unfold rK;rw[if_pos h]
theorem VA(D:Dd):rK D D.n=-1:=by unfold rK;rw[if_neg (by omega)]
theorem L5(D:Dd)(i:Nat):dk D (rK D i)=mD D i:=by
 unfold rK mD;by_cases h:i<D.n
 ·rw[if_pos h,if_pos h,wU _ h]
 rw[if_neg h,if_neg h,ui]
theorem KM(hR:DR D C)(i b:Nat)(hb:b<256):dr D (rK D i) b=rK D (tD D i (D.K b)):=by
 have hc:=hR.c.1 b hb;unfold tD;by_cases h:i<D.n
 ·have:=hR.nx i _ h hc;rw[Lk h,uw _ h];by_cases h2:0<=D.nx i (D.K b)
  ·rw[if_pos ⟨h,h2⟩,Lk (by omega)];omega
  rw[if_neg (fun h3=>h2 h3.2),VA];omega
 rw[if_neg (fun h3=>h h3.1),VA];have:rK D i=-1:=by unfold rK;rw[if_neg h]
 rw[this,rv]
theorem Zw(hR:DR D C)(i j:Nat):la C (tD D) (mD D) i j↔ee D (rK D i) D (rK D j):=by
 constructor
 ·intro h;refine ee.jP (fun x y=>∃i j,x=rK D i/\y=rK D j/\la C (tD D) (mD D) i j) ?_ ?_ ⟨i,j,rfl,rfl,h⟩
  ·rintro x y ⟨i,j,rfl,rfl,h⟩;rw[L5,L5];exact h.mark
  rintro x y b ⟨i,j,rfl,rfl,h⟩ hb;exact⟨_,_,KM hR i b hb,KM hR j b hb,h.step (hR.c.1 b hb)⟩
 intro h;refine la.jP (fun i j=>ee D (rK D i) D (rK D j)) (fun i j h=>⟨?_,fun c hc=>?_⟩) h
 ·rw[<-L5,<-L5];exact h.mark
 obtain⟨b,hb,rfl⟩:=hR.AY c hc;rw[<-KM hR i b hb,<-KM hR j b hb];exact h.step hb
def vH(D:Dd)(C:Nat):Prop:=∀i c,i<D.n->c<C->D.nx i c≠-1->¬ee D (D.nx i c) D (-1)
theorem znY(hR:DR D C)(hj:j<D.n)(ha:vd D j):¬ee D j D (-1):=by
 intro h;obtain⟨k,h1,h2⟩:=ha;have key:k<D.n/\ee D k D (-1):=by
  clear h2
  induction h1 with
  | base e=>subst e;exact⟨hj,h⟩
  | @step x y _ e ih=>
   obtain⟨i1,i2⟩:=ih;obtain⟨_,c,hc,e2⟩:=e;rw[hR.len x i1] at hc;obtain⟨b,hb,rfl⟩:=hR.AY c hc;have h3:=i2.step hb;rw[uw _ i1,rv,e2] at h3;have:=hR.nx x _ i1 hc;exact⟨by omega,h3⟩
 have h3:=key.2.mark;rw[wU _ key.1,ui] at h3;omega
theorem znZ(hR:DR D C)(hj:j<D.n)(ha:¬vd D j):ee D j D (-1):=by
 refine ee.jP (fun x y=>y=-1/\(x=-1\/∃j:Nat,x=j/\j<D.n/\¬vd D j)) ?_ ?_ ⟨rfl,inr ⟨j,rfl,hj,ha⟩⟩
 ·rintro x y ⟨rfl,rfl|⟨j,rfl,hj,ha⟩⟩
  ·rfl
  rw[wU _ hj,ui];have:=hR.q j hj;have h2:¬0<=D.q j:=fun h=>ha ⟨j,.base rfl,h⟩
  omega
 rintro x y b ⟨rfl,rfl|⟨j,rfl,hj,ha⟩⟩ hb
 ·exact⟨rv _ _,inl (rv _ _)⟩
 refine⟨rv _ _,?_⟩;rw[uw _ hj];have hc:=hR.c.1 b hb;have:=hR.nx j _ hj hc;by_cases e:D.nx j (D.K b)=-1
 ·exact inl e
 refine inr ⟨(D.nx j (D.K b)).toNat,by omega,by omega,fun h=>ha (vd.of ⟨hj,D.K b,?_,by omega⟩ h)⟩;rw[hR.len j hj];exact hc
theorem oY.qB(hR:DR D C)(h:oY D C D.n (nE D) D.q T)(hi:i<D.n):ee T i D i:=by
 obtain⟨e1,e2,e3,e4,e5,e6⟩:=h;refine ee.jP (fun x y=>(x=-1/\ee D y D (-1))\/∃j:Nat,x=j/\y=j/\j<D.n) ?_ ?_ (inr ⟨i,rfl,rfl,hi⟩)
 ·rintro x y (⟨rfl,h2⟩|⟨j,rfl,rfl,hj⟩)
  ·rw[ui,h2.mark,ui]
  rw[wU _ hj,wU _ (by omega),e6 j hj]
 rintro x y b (⟨rfl,h2⟩|⟨j,rfl,rfl,hj⟩) hb
 ·left;have:=h2.step hb;rw[rv D] at this;exact⟨rv _ _,this⟩
 have hc:=hR.c.1 b hb;have hx:=hR.nx j _ hj hc;rw[uw _ hj,uw _ (by omega),e1,e5 j hj _ hc];unfold nE;split
 ·rename_i h3;left;refine⟨rfl,?_⟩;have:=znZ hR (j:=(D.nx j (D.K b)).toNat) (by omega) h3.2;rw[toNat_of_nonneg h3.1] at this;exact this
 by_cases e:D.nx j (D.K b)=-1
 ·rw[e];exact inl ⟨rfl,ee.refl _ _⟩
 exact inr ⟨(D.nx j (D.K b)).toNat,by omega,by omega,by omega⟩
theorem oY.xv(hR:DR D C)(h:oY D C D.n (nE D) D.q T):vH T C:=by
 have h0:=h;obtain⟨e1,e2,e3,e4,e5,e6⟩:=h;intro i c hi hc hne hb;rw[e2] at hi;have hx:=hR.nx i c hi hc;rw[e5 i hi c hc] at hne hb;unfold nE at hne hb;split at hne
 ·exact hne rfl
 rename_i h3;rw[if_neg h3] at hb;have h4:vd D (D.nx i c).toNat:=Classical.byContradiction fun h=>h3 ⟨by omega,h⟩
 have hj:(D.nx i c).toNat<D.n:=by omega
 have h5:=h0.qB hR hj;rw[toNat_of_nonneg (by omega)] at h5;have h6:=(h5.symm.trans hb).trans (ee.dead T D);have h7:=znY hR hj h4;rw[toNat_of_nonneg (by omega)] at h7;exact h7 h6
section
variable {D O : Dd}{C k : Nat}{l : List Nat}
theorem oY.pn(hR:DR D C)(hl:l=cH (av D.len D.nx) [0] k)(dE:l.length=k)(h:oY D C k (il D l) (fun i=>D.q (l.getD i 0)) O)(hi:i<k):ee O i D ((l.getD i 0:Nat):Int):=by
 subst hl;have PG:0<C:=by have:=hR.c.1 0 (by omega);omega
 obtain⟨e1,e2,e3,e4,e5,e6⟩:=h;refine ee.jP (fun x y=>(x=-1/\y=-1)\/∃j:Nat,x=j/\y=(((cH (av D.len D.nx) [0] k).getD j 0:Nat):Int)/\j<k) ?_ ?_ (inr ⟨i,rfl,rfl,hi⟩)
 ·rintro x y (⟨rfl,rfl⟩|⟨j,rfl,rfl,hj⟩)
  ·rw[ui,ui]
  rw[wU _ (by omega),wU _ (Cj hR dE j 0 hj PG).1,e6 j hj]
 rintro x y b (⟨rfl,rfl⟩|⟨j,rfl,rfl,hj⟩) hb
 ·exact inl ⟨rv _ _,rv _ _⟩
 have hc:=hR.c.1 b hb;have hs:=Cj hR dE j _ hj hc;rw[uw _ (by omega),uw _ hs.1,e1,e5 j hj _ hc];rcases hs.2 with ⟨h4,h5⟩|⟨j2,hj2,h4,h5⟩
 ·exact inl ⟨h5,h4⟩
 exact inr ⟨j2,h4,h5,hj2⟩
theorem oY.tp(hR:DR D C)(hT:vH D C)(hl:l=cH (av D.len D.nx) [0] k)(dE:l.length=k)(h:oY D C k (il D l) (fun i=>D.q (l.getD i 0)) O):vH O C:=by
 have hb:=fun i (hi:i<k)=>h.pn hR hl dE hi
 subst hl;obtain⟨e1,e2,e3,e4,e5,e6⟩:=h;intro i c hi hc hne hd;rw[e2] at hi;rw[e5 i hi c hc] at hne hd;have hs:=Cj hR dE i c hi hc;rcases hs.2 with ⟨h4,h5⟩|⟨j,hj,h4,h5⟩
 ·exact hne h5
 rw[h4] at hd;have h6:=((hb j hj).symm.trans hd).trans (ee.dead O D);rw[<-h5] at h6;exact hT _ c hs.1 hc (by omega) h6
def ou(D:Dd):Prop:=cH (av D.len D.nx) [0] D.n=range D.n
theorem Y6(hn:l.Nodup):l.map (fun x=>l.idxOf x)=range l.length:=by
 apply List.ext_getElem
 ·simp
 intro i h1 h2;simp at h1;rw[List.getElem_map,List.getElem_range];exact hn.idxOf_getElem i h1
theorem zlK{m:List Nat}(hm:∀x∈m,x∈l){t:Int}(ht:-1<=t)(KU:t≠-1->t.toNat∈l):iy (m.map fun x=>l.idxOf x) (zo l t)=(iy m t).map fun x=>l.idxOf x:=by
 unfold zo;by_cases e:t=-1
 ·subst e;rw[if_pos rfl];unfold iy;rw[if_neg (fun h=>by omega),if_neg (fun h=>by omega)]
 rw[if_neg e];have h2:=KU e;unfold iy;have Jl:(((l.idxOf t.toNat:Nat):Int).toNat∈m.map fun x=>l.idxOf x)↔t.toNat∈m:=by
  rw[toNat_natCast,mem_map];constructor
  ·rintro⟨x,hx,e2⟩;have h3:=hm x hx;have h4:=List.getElem_idxOf (List.idxOf_lt_length_iff.2 h3);have h5:=List.getElem_idxOf (List.idxOf_lt_length_iff.2 h2);simp only[e2] at h4;rw[h4] at h5;rw[<-h5];exact hx
  intro h;exact⟨_,h,rfl⟩
 by_cases h3:t.toNat∈m
 ·rw[if_neg (fun h=>h.2 (Jl.2 h3)),if_neg (fun h=>h.2 h3)]
 rw[if_pos ⟨by omega,fun h=>h3 (Jl.1 h)⟩,if_pos ⟨by omega,h3⟩,List.map_append];simp
theorem zlL(row:List Int):∀m:List Nat,(∀x∈m,x∈l)->(∀t∈row,-1<=t/\(t≠-1->t.toNat∈l))->gH (m.map fun x=>l.idxOf x) (row.map (zo l))=(gH m row).map fun x=>l.idxOf x:=by
 induction row with
 | nil=>intro m _ _;rfl
 | cons t row ih=>
  intro m hm hr;show gH (iy (m.map fun x=>l.idxOf x) (zo l t)) (row.map (zo l))=(gH (iy m t) row).map fun x=>l.idxOf x
  have h1:=hr t (by simp);rw[zlK hm h1.1 h1.2];refine ih _ (fun x hx=>?_) (fun u hu=>hr u (by simp[hu]));rcases (WL m t x).1 hx with h2|h2
  ·exact hm x h2
  have:=h1.2 (by omega);rw[h2] at this;simpa using this
theorem oY.Gy(hR:DR D C)(hl:l=cH (av D.len D.nx) [0] k)(dE:l.length=k)(h:oY D C k (il D l) (fun i=>D.q (l.getD i 0)) O):ou O:=by
 obtain⟨e1,e2,e3,e4,e5,e6⟩:=h;have fW:∀x∈l,x<D.n:=by rw[hl];exact Lm hR k
 have eK:∀i (hi:i<k),∀y,WE (av D.len D.nx) (l.getD i 0) y->y∈l:=by
  intro i hi y hy;have ku:i<l.length:=by omega
  have:=J9 (av D.len D.nx) [0] k i hi;rw[<-hl] at this;refine this ku y ?_;have e:l.getD i 0=l[i]:=by simp[getD_eq_getElem?_getD,ku]
  rwa [e] at hy
 have iO:l.Nodup:=by rw[hl];exact Kk _ (by simp) _
 have key:∀i,i<=k->cH (av O.len O.nx) [0] i=(cH (av D.len D.nx) [0] i).map fun x=>l.idxOf x:=by
  intro i
  induction i with
  | zero=>
   intro _;show [0]=[l.idxOf 0];have h1:=LB (av D.len D.nx) [0] k;rw[<-hl] at h1;rw[zoK h1 (by simp)];simp
  | succ i ih=>
   intro hi;have ih:=ih (by omega);show o8 (av O.len O.nx) (cH (av O.len O.nx) [0] i) i=(o8 (av D.len D.nx) (cH (av D.len D.nx) [0] i) i).map _;have Al:cH (av D.len D.nx) [0] i <+: l:=(by rw[hl];exact zpD (by omega));rw[ih];unfold o8;rw[List.length_map];split
   ·rename_i aw;generalize cH (av D.len D.nx) [0] i=m at Al aw⊢;have e7:m.getD i 0=l.getD i 0:=by
     have h8:=Al.getElem aw;simp[getD_eq_getElem?_getD,aw,h8,show i<l.length by omega]
    have e8:(m.map fun x=>l.idxOf x).getD i 0=i:=by
     have h9:(List.map (fun x=>l.idxOf x) l)[i]?=some i:=(by rw[Y6 iO,List.getElem?_range (by omega)]);rw[getD_eq_getElem?_getD];have h10:=(Al.map (fun x=>l.idxOf x)).getElem (i:=i) (by simpa using aw);rw[List.getElem?_eq_getElem (by simpa using aw),h10];rw[List.getElem?_eq_getElem (by simp;omega)] at h9;exact Option.some.inj h9
    rw[e8,e7];have iL:l.getD i 0<D.n:=by
     have ku:i<l.length:=(by omega);rw[show l.getD i 0=l[i] by simp[getD_eq_getElem?_getD,ku]];exact fW _ (List.getElem_mem ku)
    have e9:av O.len O.nx i=(av D.len D.nx (l.getD i 0)).map (zo l):=by
     unfold av;rw[e4 i (by omega),hR.len _ iL,List.map_map];refine(List.map_congr_left fun c hc=>?_);rw[e5 i (by omega) c (List.mem_range.1 hc)];rfl
    rw[e9];refine zlL _ _ (fun x hx=>Al.subset hx) (fun t ht=>?_);have h11:-1<=t:=by
     unfold av at ht;obtain⟨c,hc,rfl⟩:=List.mem_map.1 ht;have hc:=List.mem_range.1 hc;rw[hR.len _ iL] at hc;exact (hR.nx _ c iL hc).1
    refine⟨h11,fun hne=>eK i (by omega) _ ?_⟩;unfold WE;rw[toNat_of_nonneg (by omega)];exact ht
   rfl
 unfold ou;rw[e2,key k (Nat.le_refl _),<-hl,Y6 iO,dE]
theorem ou.all(h:ou X)(hi:i<X.n):kq (WE (av X.len X.nx)) (fun y=>y∈[0]) i:=by
 have h2:=XW (av X.len X.nx) [0] X.n;rw[h] at h2;exact h2 i (List.mem_range.2 hi)
end
def iX(D:Dd)(n:Nat)(a b:Nat):Prop:=∀i,i<n->D.nx i (D.K a)=D.nx i (D.K b)
structure Mn (X:Dd)(C:Nat):Prop where
 r:DR X C
 ord:ou X
 Fq:vH X C
 apart:∀i j,i<X.n->j<X.n->ee X i X j->i=j
 cls:fa (iX X X.n) 256 X.K C
section
variable {O M : Dd}{C B : Nat}{f : Nat → Nat}
def qA(O:Dd)(C:Nat)(f:Nat->Nat)(B:Nat)(M:Dd):Prop:=oY O C B (fun b c=>jV O f ((bp f O.n).getD b 0) c) (fun b=>O.q ((bp f O.n).getD b 0)) M
theorem zb(hN:fa (la C (tD O) (mD O)) O.n f B){b:Nat}(hb:b<B):(bp f O.n).getD b 0<O.n/\f ((bp f O.n).getD b 0)=b:=by
 obtain⟨a1,a2,a3⟩:=hN.bp O.n (Nat.le_refl _);have h:=hN.gv;obtain⟨x,h1,h2,h3⟩:=a2 b (by omega);have e:(bp f O.n).getD b 0=x:=by rw[getD_eq_getElem?_getD,h1];rfl
 rw[e];exact⟨Kx f _ _ (List.mem_of_getElem? h1),h2⟩
theorem Ij(hR:DR O C)(hN:fa (la C (tD O) (mD O)) O.n f B)(hi:i<O.n)(hj:j<O.n):f i=f j↔ee O i O j:=by
 rw[hN.same i j hi hj,Zw hR,Lk hi,Lk hj]
theorem qA.parts(h:qA O C f B M):M.K=O.K/\M.n=B/\M.m=B/\(∀i,i<B->M.len i=C)/\(∀i,i<B->∀c,c<C->M.nx i c=jV O f ((bp f O.n).getD i 0) c)/\∀i,i<B->M.q i=O.q ((bp f O.n).getD i 0):=h
theorem qA.wK(hR:DR O C)(hN:fa (la C (tD O) (mD O)) O.n f B)(h:qA O C f B M)(hi:i<O.n):ee M ((f i:Nat):Int) O i:=by
 obtain⟨e1,e2,e3,e4,e5,e6⟩:=h.parts;refine ee.jP (fun x y=>(x=-1/\ee O y O (-1))\/∃j:Nat,x=((f j:Nat):Int)/\j<O.n/\ee O y O j) ?_ ?_ (inr ⟨i,rfl,hi,ee.refl _ _⟩)
 ·rintro x y (⟨rfl,h2⟩|⟨j,rfl,hj,h2⟩)
  ·rw[ui,h2.mark,ui]
  have hf:=hN.lt j hj;obtain⟨r1,r2⟩:=zb hN hf;have h3:=(Ij hR hN r1 hj).1 r2;rw[wU _ (by omega),e6 _ hf,h2.mark,<-h3.mark,wU _ r1]
 rintro x y b (⟨rfl,h2⟩|⟨j,rfl,hj,h2⟩) hb
 ·have:=h2.step hb;rw[rv O] at this;exact inl ⟨rv _ _,this⟩
 have hf:=hN.lt j hj;obtain⟨r1,r2⟩:=zb hN hf;have h3:=h2.trans ((Ij hR hN r1 hj).1 r2).symm;have hc:=hR.c.1 b hb;have h4:=h3.step hb;have hx:=hR.nx _ _ r1 hc;rw[uw O r1] at h4;rw[uw M (by omega),e1,e5 _ hf _ hc];unfold jV;split
 ·rename_i h5;rw[h5] at h4;exact inl ⟨rfl,h4⟩
 refine inr ⟨(O.nx ((bp f O.n).getD (f j) 0) (O.K b)).toNat,rfl,by omega,?_⟩;rw[toNat_of_nonneg (by omega)];exact h4
theorem qA.right(hR:DR O C)(hN:fa (la C (tD O) (mD O)) O.n f B)(h:qA O C f B M):DR M C:=by
 obtain⟨e1,e2,e3,e4,e5,e6⟩:=h.parts;have h1:=hR.n1;have h2:=hR.n2;have mg:1<=B:=by have:=hN.lt 0 (by omega);omega
 have mo:B<=O.n:=by have:=hN.gv;have:=WX f O.n;omega
 refine⟨by rw[e1];exact hR.c,by omega,by omega,by omega,fun c hc=>by rw[e1];exact hR.AY c hc,fun i hi=>e4 i (by omega),fun i hi=>?_,fun i c hi hc=>?_⟩
 ·rw[e6 i (by omega)];exact hR.q _ (zb hN (by omega)).1
 rw[e5 i (by omega) c hc,e2];have hr:=(zb hN (b:=i) (by omega)).1;have:=hR.nx _ c hr hc;unfold jV;split
 ·omega
 have:=hN.lt (O.nx ((bp f O.n).getD i 0) c).toNat (by omega);omega
theorem qA.apart(hR:DR O C)(hN:fa (la C (tD O) (mD O)) O.n f B)(h:qA O C f B M){a b:Nat}(ha:a<B)(hb:b<B)(ZF:ee M a M b):a=b:=by
 obtain⟨a1,a2⟩:=zb hN ha;obtain⟨b1,b2⟩:=zb hN hb;have h1:=h.wK hR hN a1;have h2:=h.wK hR hN b1;rw[a2] at h1;rw[b2] at h2;have:=(Ij hR hN a1 b1).2 ((h1.symm.trans ZF).trans h2);omega
theorem qA.nx(hR:DR O C)(hT:vH O C)(hN:fa (la C (tD O) (mD O)) O.n f B)(h:qA O C f B M)(hi:i<O.n)(hc:c<C):M.nx (f i) c=jV O f i c:=by
 obtain⟨e1,e2,e3,e4,e5,e6⟩:=h.parts;have hf:=hN.lt i hi;obtain⟨r1,r2⟩:=zb hN hf;have h3:=(Ij hR hN r1 hi).1 r2;have h4:=h3.nx1 hR r1 hi hc;rw[e5 _ hf c hc];have x1:=hR.nx _ c r1 hc;have x2:=hR.nx _ c hi hc;unfold jV;by_cases g1:O.nx ((bp f O.n).getD (f i) 0) c=-1
 ·by_cases g2:O.nx i c=-1
  ·rw[if_pos g1,if_pos g2]
  rw[g1] at h4;exact absurd h4.symm (hT i c hi hc g2)
 by_cases g2:O.nx i c=-1
 ·rw[g2] at h4;exact absurd h4 (hT _ c r1 hc g1)
 rw[if_neg g1,if_neg g2];congr 1;refine (Ij hR hN (by omega) (by omega)).2 ?_;rw[toNat_of_nonneg (by omega),toNat_of_nonneg (by omega)];exact h4
theorem qA.Fq(hR:DR O C)(hT:vH O C)(hN:fa (la C (tD O) (mD O)) O.n f B)(h:qA O C f B M):vH M C:=by
 intro b c hb hc hne hd;have hb:b<B:=by rw[h.2.1] at hb;exact hb
 obtain⟨r1,r2⟩:=zb hN hb;have hx:=hR.nx _ c r1 hc;have e:=h.nx hR hT hN r1 hc;rw[r2] at e;rw[e] at hne hd;unfold jV at hne hd;by_cases g:O.nx ((bp f O.n).getD b 0) c=-1
 ·rw[if_pos g] at hne;exact hne rfl
 rw[if_neg g] at hd;have h2:=h.wK hR hN (i:=(O.nx ((bp f O.n).getD b 0) c).toNat) (by omega);have h3:=(h2.symm.trans hd).trans (ee.dead M O);rw[toNat_of_nonneg (by omega)] at h3;exact hT _ c r1 hc g h3
end
section
variable {M P : Dd}{C C' : Nat}{g : Nat → Nat}
structure sH (M:Dd)(g:Nat->Nat)(C':Nat)(P:Dd):Prop where
 K:∀b,b<256->P.K b=g b
 n:P.n=M.n
 m:P.m=M.n
 len:∀i,i<M.n->P.len i=C'
 nx:∀i,i<M.n->∀c,c<C'->P.nx i c=M.nx i (M.K ((bp g 256).getD c 0))
 q:∀i,i<M.n->P.q i=M.q i
theorem Gb(hN:fa (iX M M.n) 256 g C')(hc:c<C'):(bp g 256).getD c 0<256/\g ((bp g 256).getD c 0)=c:=by
 obtain⟨a1,a2,a3⟩:=hN.bp 256 (Nat.le_refl _);have h:=hN.gv;obtain⟨x,h1,h2,h3⟩:=a2 c (by omega);have e:(bp g 256).getD c 0=x:=by rw[getD_eq_getElem?_getD,h1];rfl
 rw[e];exact⟨Kx g _ _ (List.mem_of_getElem? h1),h2⟩
theorem sH.byte(hN:fa (iX M M.n) 256 g C')(h:sH M g C' P){b:Nat}(hi:i<M.n)(hb:b<256):P.nx i (P.K b)=M.nx i (M.K b):=by
 have hg:=hN.lt b hb;obtain⟨r1,r2⟩:=Gb hN hg;rw[h.K b hb,h.nx i hi _ hg];exact (hN.same _ b r1 hb).1 r2 i hi
theorem sH.right(hR:DR M C)(hN:fa (iX M M.n) 256 g C')(h:sH M g C' P):DR P C':=by
 have h1:=hR.n1;have h2:=hR.n2;have G1:1<=C':=by have:=hN.lt 0 (by omega);omega
 refine⟨⟨fun j hj=>by rw[h.K j hj];exact hN.lt j hj,?_⟩,by rw[h.n];exact h1,by rw[h.n];exact h2,by rw[h.m,h.n],fun c hc=>?_,fun i hi=>h.len i (by rw[h.n] at hi;exact hi),fun i hi=>?_,fun i c hi hc=>?_⟩
 ·obtain⟨r1,r2⟩:=Gb hN (c:=C'-1) (by omega);exact⟨_,r1,by rw[h.K _ r1,r2];omega⟩
 ·obtain⟨r1,r2⟩:=Gb hN hc;exact⟨_,r1,by rw[h.K _ r1,r2]⟩
 ·rw[h.n] at hi;rw[h.q i hi];exact hR.q i hi
 rw[h.n] at hi⊢;rw[h.nx i hi c hc];exact hR.nx i _ hi (hR.c.1 _ (Gb hN hc).1)
theorem sH.wK(hR:DR M C)(hN:fa (iX M M.n) 256 g C')(h:sH M g C' P)(hi:i<M.n):ee P i M i:=by
 refine ee.jP (fun x y=>x=y/\(x=-1\/∃j:Nat,x=j/\j<M.n)) ?_ ?_ ⟨rfl,inr ⟨i,rfl,hi⟩⟩
 ·rintro x y ⟨rfl,rfl|⟨j,rfl,hj⟩⟩
  ·rw[ui,ui]
  rw[wU _ (by rw[h.n];exact hj),wU _ hj,h.q j hj]
 rintro x y b ⟨rfl,rfl|⟨j,rfl,hj⟩⟩ hb
 ·exact⟨by rw[rv,rv],inl (rv _ _)⟩
 have hx:=hR.nx j _ hj (hR.c.1 b hb);rw[uw _ (by rw[h.n];exact hj),uw _ hj,h.byte hN hj hb];refine⟨rfl,?_⟩;by_cases e:M.nx j (M.K b)=-1
 ·exact inl e
 exact inr ⟨(M.nx j (M.K b)).toNat,by omega,by omega⟩
theorem sH.Fq(hR:DR M C)(hT:vH M C)(hN:fa (iX M M.n) 256 g C')(h:sH M g C' P):vH P C':=by
 intro i c hi hc hne hd;rw[h.n] at hi;have hk:=hR.c.1 _ (Gb hN hc).1;rw[h.nx i hi c hc] at hne hd;have hx:=hR.nx i _ hi hk;have h2:=h.wK hR hN (i:=(M.nx i (M.K ((bp g 256).getD c 0))).toNat) (by omega);rw[toNat_of_nonneg (by omega)] at h2;exact hT i _ hi hk hne ((h2.symm.trans hd).trans (ee.dead P M))
theorem sH.apart(hR:DR M C)(hN:fa (iX M M.n) 256 g C')(h:sH M g C' P)(hA:∀i j,i<M.n->j<M.n->ee M i M j->i=j)(hi:i<P.n)(hj:j<P.n)(hb:ee P i P j):i=j:=by
 rw[h.n] at hi hj;exact hA i j hi hj (((h.wK hR hN hi).symm.trans hb).trans (h.wK hR hN hj))
theorem sH.cls(hN:fa (iX M M.n) 256 g C')(h:sH M g C' P):fa (iX P P.n) 256 P.K C':=by
 refine (hN.iff (R':=iX P P.n) (fun a b ha hb=>?_)).congr (fun b hb=>(h.K b hb).symm);constructor
 ·intro h2 i hi;rw[h.n] at hi;rw[h.byte hN hi ha,h.byte hN hi hb];exact h2 i hi
 intro h2 i hi;have:=h2 i (by rw[h.n];exact hi);rwa [h.byte hN hi ha,h.byte hN hi hb] at this
end
theorem XU{x y:Nat}(hx:x<D.n):WE (av D.len D.nx) x y↔Ed D x y:=by
 unfold WE av Ed;rw[mem_map];constructor
 ·rintro⟨c,hc,e⟩;exact⟨hx,c,List.mem_range.1 hc,e⟩
 rintro⟨_,c,hc,e⟩;exact⟨c,List.mem_range.2 hc,e⟩
theorem ou.rch(hR:DR X C)(h:ou X)(hi:i<X.n):kq (Ed X) (fun y=>y=0) i:=by
 have h2:=h.all hi;have hn:=hR.n1;have key:∀x,kq (WE (av X.len X.nx)) (fun y=>y∈[0]) x->x<X.n/\kq (Ed X) (fun y=>y=0) x:=by
  intro x hx
  induction hx with
  | base h=>simp at h;subst h;exact⟨by omega,.base rfl⟩
  | step _ e ih=>
   have:=(XU ih.1).1 e;exact⟨hR.ed _ _ this,.step ih.2 this⟩
 exact (key i h2).2
theorem Mn.made{O M P:Dd}{B C' k:Nat}{f g:Nat->Nat}(hR:DR O C)(hO:ou O)(hT:vH O C)(hN:fa (la C (tD O) (mD O)) O.n f B)(hM:qA O C f B M)(hG:fa (iX M M.n) 256 g C')(hP:sH M g C' P)
  (hl:l=cH (av P.len P.nx) [0] k) (dE:l.length=k) (rL:k<=P.n) (hX:oY P C' k (il P l) (fun i=>P.q (l.getD i 0)) X):Mn X C'/\ee X 0 O 0:=by
 have JZ:=hM.right hR hN;have zw:=hP.right JZ hG;have ZE:=hM.Fq hR hT hN;have hTP:=hP.Fq JZ ZE hG;have YF:=hX;have fA:=hR.n1;have Ag:M.n=B:=hM.2.1;have Z7:∀i j,i<M.n->j<M.n->ee M i M j->i=j:=fun i j hi hj=>hM.apart hR hN (by omega) (by omega)
 have hRX:DR X C':=by subst hl;exact hX.pe zw dE rL
 have uu:=fun i (hi:i<k)=>hX.pn zw hl dE hi
 obtain⟨e1,e2,e3,e4,e5,e6⟩:=hX;have fW:∀x∈l,x<P.n:=by rw[hl];exact Lm zw k
 have iO:l.Nodup:=by rw[hl];exact Kk _ (by simp) _
 have Ad:∀i,i<k->l.getD i 0∈l:=fun i hi=>by
  rw[show l.getD i 0=l[i]'(by omega) by simp[getD_eq_getElem?_getD,show i<l.length by omega]];exact List.getElem_mem _
 have f0:f 0=0:=by have:=hN.le 0 (by omega);omega
 have dU:∀a,a<P.n->a∈l:=by
  intro a ha;rw[hP.n,Ag] at ha;have iJ:=TS (av P.len P.nx) [0] (i:=k) (by rw[<-hl];exact dE);rw[<-hl] at iJ;rw[iJ];obtain⟨r1,r2⟩:=zb hN ha;have h1:=hO.rch hR r1;rw[<-r2];have key:∀x,kq (Ed O) (fun y=>y=0) x->x<O.n/\kq (WE (av P.len P.nx)) (fun y=>y∈[0]) (f x):=by
   intro x hx
   induction hx with
   | base h=>subst h;exact⟨by omega,.base (by rw[f0];simp)⟩
   | @step x y _ e ih=>
    have hy:=hR.ed _ _ e;refine⟨hy,.step ih.2 ?_⟩;obtain⟨hx,c,hc,e7⟩:=e;rw[hR.len x hx] at hc;obtain⟨b,hb,rfl⟩:=hR.AY c hc;have EW:=hN.lt x hx;have h3:=hP.byte hG (i:=f x) (by omega) hb;have h4:=hM.nx hR hT hN hx hc;rw[hM.1,h4] at h3;unfold jV at h3;rw[if_neg (by omega),e7,toNat_natCast] at h3;have Ub:f x<P.n:=(by rw[hP.n,Ag];exact EW);exact (XU Ub).2 ⟨Ub,P.K b,by rw[hP.len _ (by omega),hP.K b hb];exact hG.lt b hb,h3⟩
  exact (key _ h1).2
 refine⟨⟨hRX,YF.Gy zw hl dE,YF.tp zw hTP hl dE,fun i j hi hj hb=>?_,?_⟩,?_⟩
 ·rw[e2] at hi hj;have h1:=hP.apart JZ hG Z7 (fW _ (Ad i hi)) (fW _ (Ad j hj)) (((uu i hi).symm.trans hb).trans (uu j hj));have ku:i<l.length:=by omega
  have hj2:j<l.length:=by omega
  simp only[getD_eq_getElem?_getD,List.getElem?_eq_getElem ku,List.getElem?_eq_getElem hj2,Option.getD_some] at h1;exact (List.getElem_inj (h₀:=ku) (h₁:=hj2) iO).1 h1
 ·refine ((hP.cls hG).iff (R':=iX X X.n) (fun a b ha hb=>?_)).congr (fun b hb=>by rw[e1]);have OD:=zw.c.1 a ha;have Qb:=zw.c.1 b hb;constructor
  ·intro h2 i hi;rw[e2] at hi;rw[e1,e5 i hi _ OD,e5 i hi _ Qb];unfold il;rw[h2 _ (fW _ (Ad i hi))]
  intro h2 j hj;have hjl:=dU j hj;obtain⟨i,hi,e⟩:=List.getElem_of_mem hjl;have h3:=h2 i (by omega);rw[e1,e5 i (by omega) _ OD,e5 i (by omega) _ Qb] at h3;have Sb:=Cj zw (by rw[<-hl];exact dE) i _ (by omega) OD;have p9:=Cj zw (by rw[<-hl];exact dE) i _ (by omega) Qb;rw[<-hl] at Sb p9;have e9:l.getD i 0=j:=by simp[getD_eq_getElem?_getD,hi,e]
  rw[e9] at Sb p9;rcases Sb.2 with ⟨u1,u2⟩|⟨ja,u0,u1,u2⟩
  ·rcases p9.2 with ⟨v1,v2⟩|⟨jb,v0,v1,v2⟩
   ·rw[u1,v1]
   rw[u2,v1] at h3;omega
  rcases p9.2 with ⟨v1,v2⟩|⟨jb,v0,v1,v2⟩
  ·rw[u1,v2] at h3;omega
  rw[u1,v1] at h3;have:ja=jb:=by omega
  rw[u2,v2,this]
 have pM:1<=k/\l.getD 0 0=0:=by
  have:=PA (D:=P) (k:=k) (by rw[<-hl];exact dE);rw[<-hl] at this;exact this
 have h1:=uu 0 (by omega);rw[pM.2] at h1;have h2:=hP.wK JZ hG (i:=0) (by rw[Ag];have:=hN.lt 0 (by omega);omega);have h3:=hM.wK hR hN (i:=0) (by omega);rw[f0] at h3;exact (h1.trans h2).trans h3
section
variable {X Y : Dd}{C D : Nat}
end
end Go.Proofs.YtiijebameffenaaGreat
