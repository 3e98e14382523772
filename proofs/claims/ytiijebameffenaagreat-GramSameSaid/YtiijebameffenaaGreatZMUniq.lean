import Derived.Test.YtiijebameffenaaGreatZPMn
set_option linter.all false
namespace Go.Proofs.YtiijebameffenaaGreat
open Int (toNat_natCast toNat_of_nonneg)
open Or (inl inr)
open List (getD_eq_getElem?_getD mem_map range)
variable {C c i j:Nat}{D E T X:Dd}{l:List Nat}
def jR(D:Dd)(f:Nat->Nat)(i c:Nat):Int:=if D.nx i c=-1 then -1 else ((f (D.nx i c).toNat:Nat):Int)
def ec(D:Dd)(i:Int)(E:Dd)(j:Int):Prop:=∀(z:Nat->Nat) (m:Nat),(∀k,z k<256)->dj D (du D i z m)=dj E (du E j z m)
theorem ec.refl(D:Dd)(i:Int):ec D i D i:=fun z m hz=>rfl
theorem ec.symm{i j:Int}(h:ec D i E j):ec E j D i:=fun z m hz=>(h z m hz).symm
theorem ec.trans{F:Dd}{i j k:Int}(h:ec D i E j)(h2:ec E j F k):ec D i F k:=fun z m hz=>(h z m hz).trans (h2 z m hz)
theorem ec.mark{i j:Int}(h:ec D i E j):dj D i=dj E j:=h (fun _=>0) 0 (fun _=>by omega)
theorem V2(D:Dd)(i:Int)(b:Nat)(z:Nat->Nat)(m:Nat):du D i (fun k=>if k=0 then b else z (k-1)) (m+1)=du D (dt D i b) z m:=by
 induction m with
 | zero=>rfl
 | succ m ih=>
  show dt D (du D i (fun k=>if k=0 then b else z (k-1)) (m+1)) (if m+1=0 then b else z (m+1-1))=_;rw[ih,if_neg (by omega)];rfl
theorem ec.step{D E:Dd}{i j:Int}(h:ec D i E j){b:Nat}(hb:b<256):ec D (dt D i b) E (dt E j b):=fun z m hz=>by
 have:=h (fun k=>if k=0 then b else z (k-1)) (m+1) (fun k=>by split;exact hb;exact hz _)
 rwa [V2,V2] at this
theorem ec.jD(R:Int->Int->Prop)(hm:∀i j,R i j->dj D i=dj E j)(hs:∀i j b,R i j->b<256->R (dt D i b) (dt E j b)){i j:Int}(h:R i j):ec D i E j:=fun z m hz=>by
 have:R (du D i z m) (du E j z m):=by
  induction m with
  | zero=>exact h
  | succ m ih=>exact hs _ _ _ ih (hz m)
 exact hm _ _ this
theorem tA(D:Dd):dj D (-1)=-1:=by unfold dj;rw[if_neg (by omega)]
theorem ec.dead(D E:Dd):ec D (-1) E (-1):=ec.jD (fun i j=>i=-1/\j=-1) (fun i j h=>by rw[h.1,h.2,tA,tA]) (fun i j b h hb=>by rw[h.1,h.2];exact⟨qW _ _,qW _ _⟩) ⟨rfl,rfl⟩
theorem uo(D:Dd){b:Nat}(hi:i<D.n):dt D (i:Int) b=D.nx i (D.K b):=by
 unfold dt;rw[if_pos (by omega),toNat_natCast]
theorem vJ(D:Dd)(hi:i<D.n):dj D (i:Int)=D.q i:=by
 unfold dj;rw[if_pos (by omega),toNat_natCast]
theorem ec.nx(hR:DR D C)(hi:i<D.n)(hj:j<E.n)(hK:∀b,b<256->D.K b=E.K b)(h:ec D i E j)(hc:c<C):ec D (D.nx i c) E (E.nx j c):=by
 obtain⟨b,hb,e⟩:=hR.Bb c hc;have:=h.step hb;rw[uo _ hi,uo _ hj,<-hK b hb,e] at this;exact this
theorem ec.nx1(hR:DR D C)(hi:i<D.n)(hj:j<D.n)(h:ec D i D j)(hc:c<C):ec D (D.nx i c) D (D.nx j c):=h.nx hR hi hj (fun _ _=>rfl) hc
def qX(D:Dd)(i:Nat):Int:=if i<D.n then ((i:Nat):Int) else -1
theorem KS(h:i<D.n):qX D i=(i:Int):=by unfold qX;rw[if_pos h]
theorem Vo(D:Dd):qX D D.n=-1:=by unfold qX;rw[if_neg (by omega)]
theorem L0(D:Dd)(i:Nat):dj D (qX D i)=mD D i:=by
 unfold qX mD;by_cases h:i<D.n
 ·rw[if_pos h,if_pos h,vJ _ h]
 rw[if_neg h,if_neg h,tA]
theorem Kn(hR:DR D C)(i b:Nat)(hb:b<256):dt D (qX D i) b=qX D (tD D i (D.K b)):=by
 have hc:=hR.c.1 b hb;unfold tD;by_cases h:i<D.n
 ·have:=hR.nx i _ h hc;rw[KS h,uo _ h];by_cases h2:0<=D.nx i (D.K b)
  ·rw[if_pos ⟨h,h2⟩,KS (by omega)];omega
  rw[if_neg (fun h3=>h2 h3.2),Vo];omega
 rw[if_neg (fun h3=>h h3.1),Vo];have:qX D i=-1:=by unfold qX;rw[if_neg h]
 rw[this,qW]
theorem YV(hR:DR D C)(i j:Nat):ku C (tD D) (mD D) i j↔ec D (qX D i) D (qX D j):=by
 constructor
 ·intro h;refine ec.jD (fun x y=>∃i j,x=qX D i/\y=qX D j/\ku C (tD D) (mD D) i j) ?_ ?_ ⟨i,j,rfl,rfl,h⟩
  ·rintro x y ⟨i,j,rfl,rfl,h⟩;rw[L0,L0];exact h.mark
  rintro x y b ⟨i,j,rfl,rfl,h⟩ hb;exact⟨_,_,Kn hR i b hb,Kn hR j b hb,h.step (hR.c.1 b hb)⟩
 intro h;refine ku.jD (fun i j=>ec D (qX D i) D (qX D j)) (fun i j h=>⟨?_,fun c hc=>?_⟩) h
 ·rw[<-L0,<-L0];exact h.mark
 obtain⟨b,hb,rfl⟩:=hR.Bb c hc;rw[<-Kn hR i b hb,<-Kn hR j b hb];exact h.step hb
def uT(D:Dd)(C:Nat):Prop:=∀i c,i<D.n->c<C->D.nx i c≠-1->¬ec D (D.nx i c) D (-1)
theorem znt(hR:DR D C)(hj:j<D.n)(ha:uS D j):¬ec D j D (-1):=by
 intro h;obtain⟨k,h1,h2⟩:=ha;have key:k<D.n/\ec D k D (-1):=by
  clear h2
  induction h1 with
  | base e=>subst e;exact⟨hj,h⟩
  | @step x y _ e ih=>
   obtain⟨i1,i2⟩:=ih;obtain⟨_,c,hc,e2⟩:=e;rw[hR.len x i1] at hc;obtain⟨b,hb,rfl⟩:=hR.Bb c hc;have h3:=i2.step hb;rw[uo _ i1,qW,e2] at h3;have:=hR.nx x _ i1 hc;exact⟨by omega,h3⟩
 have h3:=key.2.mark;rw[vJ _ key.1,tA] at h3;omega
theorem znu(hR:DR D C)(hj:j<D.n)(ha:¬uS D j):ec D j D (-1):=by
 refine ec.jD (fun x y=>y=-1/\(x=-1\/∃j:Nat,x=j/\j<D.n/\¬uS D j)) ?_ ?_ ⟨rfl,inr ⟨j,rfl,hj,ha⟩⟩
 ·rintro x y ⟨rfl,rfl|⟨j,rfl,hj,ha⟩⟩
  ·rfl
  rw[vJ _ hj,tA];have:=hR.q j hj;have h2:¬0<=D.q j:=fun h=>ha ⟨j,.base rfl,h⟩
  omega
 rintro x y b ⟨rfl,rfl|⟨j,rfl,hj,ha⟩⟩ hb
 ·exact⟨qW _ _,inl (qW _ _)⟩
 refine⟨qW _ _,?_⟩;rw[uo _ hj];have hc:=hR.c.1 b hb;have:=hR.nx j _ hj hc;by_cases e:D.nx j (D.K b)=-1
 ·exact inl e
 refine inr ⟨(D.nx j (D.K b)).toNat,by omega,by omega,fun h=>ha (uS.of ⟨hj,D.K b,?_,by omega⟩ h)⟩;rw[hR.len j hj];exact hc
theorem oI.qF(hR:DR D C)(h:oI D C D.n (ni D) D.q T)(hi:i<D.n):ec T i D i:=by
 obtain⟨e1,e2,e3,e4,e5,e6⟩:=h;refine ec.jD (fun x y=>(x=-1/\ec D y D (-1))\/∃j:Nat,x=j/\y=j/\j<D.n) ?_ ?_ (inr ⟨i,rfl,rfl,hi⟩)
 ·rintro x y (⟨rfl,h2⟩|⟨j,rfl,rfl,hj⟩)
  ·rw[tA,h2.mark,tA]
  rw[vJ _ hj,vJ _ (by omega),e6 j hj]
 rintro x y b (⟨rfl,h2⟩|⟨j,rfl,rfl,hj⟩) hb
 ·left;have:=h2.step hb;rw[qW D] at this;exact⟨qW _ _,this⟩
 have hc:=hR.c.1 b hb;have hx:=hR.nx j _ hj hc;rw[uo _ hj,uo _ (by omega),e1,e5 j hj _ hc];unfold ni;split
 ·rename_i h3;left;refine⟨rfl,?_⟩;have:=znu hR (j:=(D.nx j (D.K b)).toNat) (by omega) h3.2;rw[toNat_of_nonneg h3.1] at this;exact this
 by_cases e:D.nx j (D.K b)=-1
 ·rw[e];exact inl ⟨rfl,ec.refl _ _⟩
 exact inr ⟨(D.nx j (D.K b)).toNat,by omega,by omega,by omega⟩
theorem oI.wV(hR:DR D C)(h:oI D C D.n (ni D) D.q T):uT T C:=by
 have h0:=h;obtain⟨e1,e2,e3,e4,e5,e6⟩:=h;intro i c hi hc hne hb;rw[e2] at hi;have hx:=hR.nx i c hi hc;rw[e5 i hi c hc] at hne hb;unfold ni at hne hb;split at hne
 ·exact hne rfl
 rename_i h3;rw[if_neg h3] at hb;have h4:uS D (D.nx i c).toNat:=Classical.byContradiction fun h=>h3 ⟨by omega,h⟩
 have hj:(D.nx i c).toNat<D.n:=by omega
 have h5:=h0.qF hR hj;rw[toNat_of_nonneg (by omega)] at h5;have h6:=(h5.symm.trans hb).trans (ec.dead T D);have h7:=znt hR hj h4;rw[toNat_of_nonneg (by omega)] at h7;exact h7 h6
section
variable {D O : Dd}{C k : Nat}{l : List Nat}
theorem oI.pw(hR:DR D C)(hl:l=cv (aw D.len D.nx) [0] k)(dG:l.length=k)(h:oI D C k (gW D l) (fun i=>D.q (l.getD i 0)) O)(hi:i<k):ec O i D ((l.getD i 0:Nat):Int):=by
 subst hl;have Qn:0<C:=by have:=hR.c.1 0 (by omega);omega
 obtain⟨e1,e2,e3,e4,e5,e6⟩:=h;refine ec.jD (fun x y=>(x=-1/\y=-1)\/∃j:Nat,x=j/\y=(((cv (aw D.len D.nx) [0] k).getD j 0:Nat):Int)/\j<k) ?_ ?_ (inr ⟨i,rfl,rfl,hi⟩)
 ·rintro x y (⟨rfl,rfl⟩|⟨j,rfl,rfl,hj⟩)
  ·rw[tA,tA]
  rw[vJ _ (by omega),vJ _ (Bx hR dG j 0 hj Qn).1,e6 j hj]
 rintro x y b (⟨rfl,rfl⟩|⟨j,rfl,rfl,hj⟩) hb
 ·exact inl ⟨qW _ _,qW _ _⟩
 have hc:=hR.c.1 b hb;have hs:=Bx hR dG j _ hj hc;rw[uo _ (by omega),uo _ hs.1,e1,e5 j hj _ hc];rcases hs.2 with ⟨h4,h5⟩|⟨j2,hj2,h4,h5⟩
 ·exact inl ⟨h5,h4⟩
 exact inr ⟨j2,h4,h5,hj2⟩
theorem oI.tb(hR:DR D C)(hT:uT D C)(hl:l=cv (aw D.len D.nx) [0] k)(dG:l.length=k)(h:oI D C k (gW D l) (fun i=>D.q (l.getD i 0)) O):uT O C:=by
 have hb:=fun i (hi:i<k)=>h.pw hR hl dG hi
 subst hl;obtain⟨e1,e2,e3,e4,e5,e6⟩:=h;intro i c hi hc hne hd;rw[e2] at hi;rw[e5 i hi c hc] at hne hd;have hs:=Bx hR dG i c hi hc;rcases hs.2 with ⟨h4,h5⟩|⟨j,hj,h4,h5⟩
 ·exact hne h5
 rw[h4] at hd;have h6:=((hb j hj).symm.trans hd).trans (ec.dead O D);rw[<-h5] at h6;exact hT _ c hs.1 hc (by omega) h6
def nV(D:Dd):Prop:=cv (aw D.len D.nx) [0] D.n=range D.n
theorem VN(hn:l.Nodup):l.map (fun x=>l.idxOf x)=range l.length:=by
 apply List.ext_getElem
 ·simp
 intro i h1 h2;simp at h1;rw[List.getElem_map,List.getElem_range];exact hn.idxOf_getElem i h1
theorem zls{m:List Nat}(hm:∀x∈m,x∈l){t:Int}(ht:-1<=t)(Lz:t≠-1->t.toNat∈l):iv (m.map fun x=>l.idxOf x) (zf l t)=(iv m t).map fun x=>l.idxOf x:=by
 unfold zf;by_cases e:t=-1
 ·subst e;rw[if_pos rfl];unfold iv;rw[if_neg (fun h=>by omega),if_neg (fun h=>by omega)]
 rw[if_neg e];have h2:=Lz e;unfold iv;have E5:(((l.idxOf t.toNat:Nat):Int).toNat∈m.map fun x=>l.idxOf x)↔t.toNat∈m:=by
  rw[toNat_natCast,mem_map];constructor
  ·rintro⟨x,hx,e2⟩;have h3:=hm x hx;have h4:=List.getElem_idxOf (List.idxOf_lt_length_iff.2 h3);have h5:=List.getElem_idxOf (List.idxOf_lt_length_iff.2 h2);simp only[e2] at h4;rw[h4] at h5;rw[<-h5];exact hx
  intro h;exact⟨_,h,rfl⟩
 by_cases h3:t.toNat∈m
 ·rw[if_neg (fun h=>h.2 (E5.2 h3)),if_neg (fun h=>h.2 h3)]
 rw[if_pos ⟨by omega,fun h=>h3 (E5.1 h)⟩,if_pos ⟨by omega,h3⟩,List.map_append];simp
theorem zlt(row:List Int):∀m:List Nat,(∀x∈m,x∈l)->(∀t∈row,-1<=t/\(t≠-1->t.toNat∈l))->gy (m.map fun x=>l.idxOf x) (row.map (zf l))=(gy m row).map fun x=>l.idxOf x:=by
 induction row with
 | nil=>intro m _ _;rfl
 | cons t row ih=>
  intro m hm hr;show gy (iv (m.map fun x=>l.idxOf x) (zf l t)) (row.map (zf l))=(gy (iv m t) row).map fun x=>l.idxOf x
  have h1:=hr t (by simp);rw[zls hm h1.1 h1.2];refine ih _ (fun x hx=>?_) (fun u hu=>hr u (by simp[hu]));rcases (WO m t x).1 hx with h2|h2
  ·exact hm x h2
  have:=h1.2 (by omega);rw[h2] at this;simpa using this
theorem oI.It(hR:DR D C)(hl:l=cv (aw D.len D.nx) [0] k)(dG:l.length=k)(h:oI D C k (gW D l) (fun i=>D.q (l.getD i 0)) O):nV O:=by
 obtain⟨e1,e2,e3,e4,e5,e6⟩:=h;have fS:∀x∈l,x<D.n:=by rw[hl];exact K9 hR k
 have fq:∀i (hi:i<k),∀y,WE (aw D.len D.nx) (l.getD i 0) y->y∈l:=by
  intro i hi y hy;have lY:i<l.length:=by omega
  have:=L5 (aw D.len D.nx) [0] k i hi;rw[<-hl] at this;refine this lY y ?_;have e:l.getD i 0=l[i]:=by simp[getD_eq_getElem?_getD,lY]
  rwa [e] at hy
 have iM:l.Nodup:=by rw[hl];exact Kd _ (by simp) _
 have key:∀i,i<=k->cv (aw O.len O.nx) [0] i=(cv (aw D.len D.nx) [0] i).map fun x=>l.idxOf x:=by
  intro i
  induction i with
  | zero=>
   intro _;show [0]=[l.idxOf 0];have h1:=KT (aw D.len D.nx) [0] k;rw[<-hl] at h1;rw[zod h1 (by simp)];simp
  | succ i ih=>
   intro hi;have ih:=ih (by omega);show oP (aw O.len O.nx) (cv (aw O.len O.nx) [0] i) i=(oP (aw D.len D.nx) (cv (aw D.len D.nx) [0] i) i).map _;have zQ:cv (aw D.len D.nx) [0] i <+: l:=(by rw[hl];exact zo5 (by omega));rw[ih];unfold oP;rw[List.length_map];split
   ·rename_i av;generalize cv (aw D.len D.nx) [0] i=m at zQ av⊢;have e7:m.getD i 0=l.getD i 0:=by
     have h8:=zQ.getElem av;simp[getD_eq_getElem?_getD,av,h8,show i<l.length by omega]
    have e8:(m.map fun x=>l.idxOf x).getD i 0=i:=by
     have h9:(List.map (fun x=>l.idxOf x) l)[i]?=some i:=(by rw[VN iM,List.getElem?_range (by omega)]);rw[getD_eq_getElem?_getD];have h10:=(zQ.map (fun x=>l.idxOf x)).getElem (i:=i) (by simpa using av);rw[List.getElem?_eq_getElem (by simpa using av),h10];rw[List.getElem?_eq_getElem (by simp;omega)] at h9;exact Option.some.inj h9
    rw[e8,e7];have iH:l.getD i 0<D.n:=by
     have lY:i<l.length:=(by omega);rw[show l.getD i 0=l[i] by simp[getD_eq_getElem?_getD,lY]];exact fS _ (List.getElem_mem lY)
    have e9:aw O.len O.nx i=(aw D.len D.nx (l.getD i 0)).map (zf l):=by
     unfold aw;rw[e4 i (by omega),hR.len _ iH,List.map_map];refine(List.map_congr_left fun c hc=>?_);rw[e5 i (by omega) c (List.mem_range.1 hc)];rfl
    rw[e9];refine zlt _ _ (fun x hx=>zQ.subset hx) (fun t ht=>?_);have ZB:-1<=t:=by
     unfold aw at ht;obtain⟨c,hc,rfl⟩:=List.mem_map.1 ht;have hc:=List.mem_range.1 hc;rw[hR.len _ iH] at hc;exact (hR.nx _ c iH hc).1
    refine⟨ZB,fun hne=>fq i (by omega) _ ?_⟩;unfold WE;rw[toNat_of_nonneg (by omega)];exact ht
   rfl
 unfold nV;rw[e2,key k (Nat.le_refl _),<-hl,VN iM,dG]
theorem nV.all(h:nV X)(hi:i<X.n):jX (WE (aw X.len X.nx)) (fun y=>y∈[0]) i:=by
 have h2:=XO (aw X.len X.nx) [0] X.n;rw[h] at h2;exact h2 i (List.mem_range.2 hi)
end
def iK(D:Dd)(n:Nat)(a b:Nat):Prop:=∀i,i<n->D.nx i (D.K a)=D.nx i (D.K b)
structure Mn (X:Dd)(C:Nat):Prop where
 r:DR X C
 ord:nV X
 EY:uT X C
 apart:∀i j,i<X.n->j<X.n->ec X i X j->i=j
 cls:eZ (iK X X.n) 256 X.K C
section
variable {O M : Dd}{C B : Nat}{f : Nat → Nat}
def qE(O:Dd)(C:Nat)(f:Nat->Nat)(B:Nat)(M:Dd):Prop:=oI O C B (fun b c=>jR O f ((bg f O.n).getD b 0) c) (fun b=>O.q ((bg f O.n).getD b 0)) M
theorem zy(hN:eZ (ku C (tD O) (mD O)) O.n f B){b:Nat}(hb:b<B):(bg f O.n).getD b 0<O.n/\f ((bg f O.n).getD b 0)=b:=by
 obtain⟨a1,a2,a3⟩:=hN.bg O.n (Nat.le_refl _);have h:=hN.gj;obtain⟨x,h1,h2,h3⟩:=a2 b (by omega);have e:(bg f O.n).getD b 0=x:=by rw[getD_eq_getElem?_getD,h1];rfl
 rw[e];exact⟨J1 f _ _ (List.mem_of_getElem? h1),h2⟩
theorem FK(hR:DR O C)(hN:eZ (ku C (tD O) (mD O)) O.n f B)(hi:i<O.n)(hj:j<O.n):f i=f j↔ec O i O j:=by
 rw[hN.same i j hi hj,YV hR,KS hi,KS hj]
theorem qE.parts(h:qE O C f B M):M.K=O.K/\M.n=B/\M.m=B/\(∀i,i<B->M.len i=C)/\(∀i,i<B->∀c,c<C->M.nx i c=jR O f ((bg f O.n).getD i 0) c)/\∀i,i<B->M.q i=O.q ((bg f O.n).getD i 0):=h
theorem qE.uY(hR:DR O C)(hN:eZ (ku C (tD O) (mD O)) O.n f B)(h:qE O C f B M)(hi:i<O.n):ec M ((f i:Nat):Int) O i:=by
 obtain⟨e1,e2,e3,e4,e5,e6⟩:=h.parts;refine ec.jD (fun x y=>(x=-1/\ec O y O (-1))\/∃j:Nat,x=((f j:Nat):Int)/\j<O.n/\ec O y O j) ?_ ?_ (inr ⟨i,rfl,hi,ec.refl _ _⟩)
 ·rintro x y (⟨rfl,h2⟩|⟨j,rfl,hj,h2⟩)
  ·rw[tA,h2.mark,tA]
  have hf:=hN.lt j hj;obtain⟨r1,r2⟩:=zy hN hf;have h3:=(FK hR hN r1 hj).1 r2;rw[vJ _ (by omega),e6 _ hf,h2.mark,<-h3.mark,vJ _ r1]
 rintro x y b (⟨rfl,h2⟩|⟨j,rfl,hj,h2⟩) hb
 ·have:=h2.step hb;rw[qW O] at this;exact inl ⟨qW _ _,this⟩
 have hf:=hN.lt j hj;obtain⟨r1,r2⟩:=zy hN hf;have h3:=h2.trans ((FK hR hN r1 hj).1 r2).symm;have hc:=hR.c.1 b hb;have h4:=h3.step hb;have hx:=hR.nx _ _ r1 hc;rw[uo O r1] at h4;rw[uo M (by omega),e1,e5 _ hf _ hc];unfold jR;split
 ·rename_i h5;rw[h5] at h4;exact inl ⟨rfl,h4⟩
 refine inr ⟨(O.nx ((bg f O.n).getD (f j) 0) (O.K b)).toNat,rfl,by omega,?_⟩;rw[toNat_of_nonneg (by omega)];exact h4
theorem qE.right(hR:DR O C)(hN:eZ (ku C (tD O) (mD O)) O.n f B)(h:qE O C f B M):DR M C:=by
 obtain⟨e1,e2,e3,e4,e5,e6⟩:=h.parts;have h1:=hR.n1;have h2:=hR.n2;have ln:1<=B:=by have:=hN.lt 0 (by omega);omega
 have ma:B<=O.n:=by have:=hN.gj;have:=Ta f O.n;omega
 refine⟨by rw[e1];exact hR.c,by omega,by omega,by omega,fun c hc=>by rw[e1];exact hR.Bb c hc,fun i hi=>e4 i (by omega),fun i hi=>?_,fun i c hi hc=>?_⟩
 ·rw[e6 i (by omega)];exact hR.q _ (zy hN (by omega)).1
 rw[e5 i (by omega) c hc,e2];have hr:=(zy hN (b:=i) (by omega)).1;have:=hR.nx _ c hr hc;unfold jR;split
 ·omega
 have:=hN.lt (O.nx ((bg f O.n).getD i 0) c).toNat (by omega);omega
theorem qE.apart(hR:DR O C)(hN:eZ (ku C (tD O) (mD O)) O.n f B)(h:qE O C f B M){a b:Nat}(ha:a<B)(hb:b<B)(hab:ec M a M b):a=b:=by
 obtain⟨a1,a2⟩:=zy hN ha;obtain⟨b1,b2⟩:=zy hN hb;have h1:=h.uY hR hN a1;have h2:=h.uY hR hN b1;rw[a2] at h1;rw[b2] at h2;have:=(FK hR hN a1 b1).2 ((h1.symm.trans hab).trans h2);omega
theorem qE.nx(hR:DR O C)(hT:uT O C)(hN:eZ (ku C (tD O) (mD O)) O.n f B)(h:qE O C f B M)(hi:i<O.n)(hc:c<C):M.nx (f i) c=jR O f i c:=by
 obtain⟨e1,e2,e3,e4,e5,e6⟩:=h.parts;have hf:=hN.lt i hi;obtain⟨r1,r2⟩:=zy hN hf;have h3:=(FK hR hN r1 hi).1 r2;have h4:=h3.nx1 hR r1 hi hc;rw[e5 _ hf c hc];have x1:=hR.nx _ c r1 hc;have x2:=hR.nx _ c hi hc;unfold jR;by_cases g1:O.nx ((bg f O.n).getD (f i) 0) c=-1
 ·by_cases g2:O.nx i c=-1
  ·rw[if_pos g1,if_pos g2]
  rw[g1] at h4;exact absurd h4.symm (hT i c hi hc g2)
 by_cases g2:O.nx i c=-1
 ·rw[g2] at h4;exact absurd h4 (hT _ c r1 hc g1)
 rw[if_neg g1,if_neg g2];congr 1;refine (FK hR hN (by omega) (by omega)).2 ?_;rw[toNat_of_nonneg (by omega),toNat_of_nonneg (by omega)];exact h4
theorem qE.EY(hR:DR O C)(hT:uT O C)(hN:eZ (ku C (tD O) (mD O)) O.n f B)(h:qE O C f B M):uT M C:=by
 intro b c hb hc hne hd;have hb:b<B:=by rw[h.2.1] at hb;exact hb
 obtain⟨r1,r2⟩:=zy hN hb;have hx:=hR.nx _ c r1 hc;have e:=h.nx hR hT hN r1 hc;rw[r2] at e;rw[e] at hne hd;unfold jR at hne hd;by_cases g:O.nx ((bg f O.n).getD b 0) c=-1
 ·rw[if_pos g] at hne;exact hne rfl
 rw[if_neg g] at hd;have h2:=h.uY hR hN (i:=(O.nx ((bg f O.n).getD b 0) c).toNat) (by omega);have h3:=(h2.symm.trans hd).trans (ec.dead M O);rw[toNat_of_nonneg (by omega)] at h3;exact hT _ c r1 hc g h3
end
section
variable {M P : Dd}{C C' : Nat}{g : Nat → Nat}
structure ry (M:Dd)(g:Nat->Nat)(C':Nat)(P:Dd):Prop where
 K:∀b,b<256->P.K b=g b
 n:P.n=M.n
 m:P.m=M.n
 len:∀i,i<M.n->P.len i=C'
 nx:∀i,i<M.n->∀c,c<C'->P.nx i c=M.nx i (M.K ((bg g 256).getD c 0))
 q:∀i,i<M.n->P.q i=M.q i
theorem IU(hN:eZ (iK M M.n) 256 g C')(hc:c<C'):(bg g 256).getD c 0<256/\g ((bg g 256).getD c 0)=c:=by
 obtain⟨a1,a2,a3⟩:=hN.bg 256 (Nat.le_refl _);have h:=hN.gj;obtain⟨x,h1,h2,h3⟩:=a2 c (by omega);have e:(bg g 256).getD c 0=x:=by rw[getD_eq_getElem?_getD,h1];rfl
 rw[e];exact⟨J1 g _ _ (List.mem_of_getElem? h1),h2⟩
theorem ry.byte(hN:eZ (iK M M.n) 256 g C')(h:ry M g C' P){b:Nat}(hi:i<M.n)(hb:b<256):P.nx i (P.K b)=M.nx i (M.K b):=by
 have hg:=hN.lt b hb;obtain⟨r1,r2⟩:=IU hN hg;rw[h.K b hb,h.nx i hi _ hg];exact (hN.same _ b r1 hb).1 r2 i hi
theorem ry.right(hR:DR M C)(hN:eZ (iK M M.n) 256 g C')(h:ry M g C' P):DR P C':=by
 have h1:=hR.n1;have h2:=hR.n2;have GD:1<=C':=by have:=hN.lt 0 (by omega);omega
 refine⟨⟨fun j hj=>by rw[h.K j hj];exact hN.lt j hj,?_⟩,by rw[h.n];exact h1,by rw[h.n];exact h2,by rw[h.m,h.n],fun c hc=>?_,fun i hi=>h.len i (by rw[h.n] at hi;exact hi),fun i hi=>?_,fun i c hi hc=>?_⟩
 ·obtain⟨r1,r2⟩:=IU hN (c:=C'-1) (by omega);exact⟨_,r1,by rw[h.K _ r1,r2];omega⟩
 ·obtain⟨r1,r2⟩:=IU hN hc;exact⟨_,r1,by rw[h.K _ r1,r2]⟩
 ·rw[h.n] at hi;rw[h.q i hi];exact hR.q i hi
 rw[h.n] at hi⊢;rw[h.nx i hi c hc];exact hR.nx i _ hi (hR.c.1 _ (IU hN hc).1)
theorem ry.uY(hR:DR M C)(hN:eZ (iK M M.n) 256 g C')(h:ry M g C' P)(hi:i<M.n):ec P i M i:=by
 refine ec.jD (fun x y=>x=y/\(x=-1\/∃j:Nat,x=j/\j<M.n)) ?_ ?_ ⟨rfl,inr ⟨i,rfl,hi⟩⟩
 ·rintro x y ⟨rfl,rfl|⟨j,rfl,hj⟩⟩
  ·rw[tA,tA]
  rw[vJ _ (by rw[h.n];exact hj),vJ _ hj,h.q j hj]
 rintro x y b ⟨rfl,rfl|⟨j,rfl,hj⟩⟩ hb
 ·exact⟨by rw[qW,qW],inl (qW _ _)⟩
 have hx:=hR.nx j _ hj (hR.c.1 b hb);rw[uo _ (by rw[h.n];exact hj),uo _ hj,h.byte hN hj hb];refine⟨rfl,?_⟩;by_cases e:M.nx j (M.K b)=-1
 ·exact inl e
 exact inr ⟨(M.nx j (M.K b)).toNat,by omega,by omega⟩
theorem ry.EY(hR:DR M C)(hT:uT M C)(hN:eZ (iK M M.n) 256 g C')(h:ry M g C' P):uT P C':=by
 intro i c hi hc hne hd;rw[h.n] at hi;have hk:=hR.c.1 _ (IU hN hc).1;rw[h.nx i hi c hc] at hne hd;have hx:=hR.nx i _ hi hk;have h2:=h.uY hR hN (i:=(M.nx i (M.K ((bg g 256).getD c 0))).toNat) (by omega);rw[toNat_of_nonneg (by omega)] at h2;exact hT i _ hi hk hne ((h2.symm.trans hd).trans (ec.dead P M))
theorem ry.apart(hR:DR M C)(hN:eZ (iK M M.n) 256 g C')(h:ry M g C' P)(hA:∀i j,i<M.n->j<M.n->ec M i M j->i=j)(hi:i<P.n)(hj:j<P.n)(hb:ec P i P j):i=j:=by
 rw[h.n] at hi hj;exact hA i j hi hj (((h.uY hR hN hi).symm.trans hb).trans (h.uY hR hN hj))
theorem ry.cls(hN:eZ (iK M M.n) 256 g C')(h:ry M g C' P):eZ (iK P P.n) 256 P.K C':=by
 refine (hN.iff (R':=iK P P.n) (fun a b ha hb=>?_)).congr (fun b hb=>(h.K b hb).symm);constructor
 ·intro h2 i hi;rw[h.n] at hi;rw[h.byte hN hi ha,h.byte hN hi hb];exact h2 i hi
 intro h2 i hi;have:=h2 i (by rw[h.n];exact hi);rwa [h.byte hN hi ha,h.byte hN hi hb] at this
end
theorem WZ{x y:Nat}(hx:x<D.n):WE (aw D.len D.nx) x y↔Ed D x y:=by
 unfold WE aw Ed;rw[mem_map];constructor
 ·rintro⟨c,hc,e⟩;exact⟨hx,c,List.mem_range.1 hc,e⟩
 rintro⟨_,c,hc,e⟩;exact⟨c,List.mem_range.2 hc,e⟩
theorem nV.rch(hR:DR X C)(h:nV X)(hi:i<X.n):jX (Ed X) (fun y=>y=0) i:=by
 have h2:=h.all hi;have hn:=hR.n1;have key:∀x,jX (WE (aw X.len X.nx)) (fun y=>y∈[0]) x->x<X.n/\jX (Ed X) (fun y=>y=0) x:=by
  intro x hx
  induction hx with
  | base h=>simp at h;subst h;exact⟨by omega,.base rfl⟩
  | step _ e ih=>
   have:=(WZ ih.1).1 e;exact⟨hR.ed _ _ this,.step ih.2 this⟩
 exact (key i h2).2
theorem Mn.made{O M P:Dd}{B C' k:Nat}{f g:Nat->Nat}(hR:DR O C)(hO:nV O)(hT:uT O C)(hN:eZ (ku C (tD O) (mD O)) O.n f B)(hM:qE O C f B M)(hG:eZ (iK M M.n) 256 g C')(hP:ry M g C' P)
  (hl:l=cv (aw P.len P.nx) [0] k) (dG:l.length=k) (rS:k<=P.n) (hX:oI P C' k (gW P l) (fun i=>P.q (l.getD i 0)) X):Mn X C'/\ec X 0 O 0:=by
 have Lr:=hM.right hR hN;have zo:=hP.right Lr hG;have hTM:=hM.EY hR hT hN;have hTP:=hP.EY Lr hTM hG;have Tt:=hX;have fx:=hR.n1;have yp:M.n=B:=hM.2.1;have hAM:∀i j,i<M.n->j<M.n->ec M i M j->i=j:=fun i j hi hj=>hM.apart hR hN (by omega) (by omega)
 have hRX:DR X C':=by subst hl;exact hX.oh zo dG rS
 have tq:=fun i (hi:i<k)=>hX.pw zo hl dG hi
 obtain⟨e1,e2,e3,e4,e5,e6⟩:=hX;have fS:∀x∈l,x<P.n:=by rw[hl];exact K9 zo k
 have iM:l.Nodup:=by rw[hl];exact Kd _ (by simp) _
 have yI:∀i,i<k->l.getD i 0∈l:=fun i hi=>by
  rw[show l.getD i 0=l[i]'(by omega) by simp[getD_eq_getElem?_getD,show i<l.length by omega]];exact List.getElem_mem _
 have f0:f 0=0:=by have:=hN.le 0 (by omega);omega
 have ea:∀a,a<P.n->a∈l:=by
  intro a ha;rw[hP.n,yp] at ha;have iD:=R6 (aw P.len P.nx) [0] (i:=k) (by rw[<-hl];exact dG);rw[<-hl] at iD;rw[iD];obtain⟨r1,r2⟩:=zy hN ha;have h1:=hO.rch hR r1;rw[<-r2];have key:∀x,jX (Ed O) (fun y=>y=0) x->x<O.n/\jX (WE (aw P.len P.nx)) (fun y=>y∈[0]) (f x):=by
   intro x hx
   induction hx with
   | base h=>subst h;exact⟨by omega,.base (by rw[f0];simp)⟩
   | @step x y _ e ih=>
    have hy:=hR.ed _ _ e;refine⟨hy,.step ih.2 ?_⟩;obtain⟨hx,c,hc,e7⟩:=e;rw[hR.len x hx] at hc;obtain⟨b,hb,rfl⟩:=hR.Bb c hc;have Eb:=hN.lt x hx;have h3:=hP.byte hG (i:=f x) (by omega) hb;have h4:=hM.nx hR hT hN hx hc;rw[hM.1,h4] at h3;unfold jR at h3;rw[if_neg (by omega),e7,toNat_natCast] at h3;have Xf:f x<P.n:=(by rw[hP.n,yp];exact Eb);exact (WZ Xf).2 ⟨Xf,P.K b,by rw[hP.len _ (by omega),hP.K b hb];exact hG.lt b hb,h3⟩
  exact (key _ h1).2
 refine⟨⟨hRX,Tt.It zo hl dG,Tt.tb zo hTP hl dG,fun i j hi hj hb=>?_,?_⟩,?_⟩
 ·rw[e2] at hi hj;have h1:=hP.apart Lr hG hAM (fS _ (yI i hi)) (fS _ (yI j hj)) (((tq i hi).symm.trans hb).trans (tq j hj));have lY:i<l.length:=by omega
  have hj2:j<l.length:=by omega
  simp only[getD_eq_getElem?_getD,List.getElem?_eq_getElem lY,List.getElem?_eq_getElem hj2,Option.getD_some] at h1;exact (List.getElem_inj (h₀:=lY) (h₁:=hj2) iM).1 h1
 ·refine ((hP.cls hG).iff (R':=iK X X.n) (fun a b ha hb=>?_)).congr (fun b hb=>by rw[e1]);have Mx:=zo.c.1 a ha;have PY:=zo.c.1 b hb;constructor
  ·intro h2 i hi;rw[e2] at hi;rw[e1,e5 i hi _ Mx,e5 i hi _ PY];unfold gW;rw[h2 _ (fS _ (yI i hi))]
  intro h2 j hj;have hjl:=ea j hj;obtain⟨i,hi,e⟩:=List.getElem_of_mem hjl;have h3:=h2 i (by omega);rw[e1,e5 i (by omega) _ Mx,e5 i (by omega) _ PY] at h3;have O1:=Bx zo (by rw[<-hl];exact dG) i _ (by omega) Mx;have pS:=Bx zo (by rw[<-hl];exact dG) i _ (by omega) PY;rw[<-hl] at O1 pS;have e9:l.getD i 0=j:=by simp[getD_eq_getElem?_getD,hi,e]
  rw[e9] at O1 pS;rcases O1.2 with ⟨u1,u2⟩|⟨ja,u0,u1,u2⟩
  ·rcases pS.2 with ⟨v1,v2⟩|⟨jb,v0,v1,v2⟩
   ·rw[u1,v1]
   rw[u2,v1] at h3;omega
  rcases pS.2 with ⟨v1,v2⟩|⟨jb,v0,v1,v2⟩
  ·rw[u1,v2] at h3;omega
  rw[u1,v1] at h3;have:ja=jb:=by omega
  rw[u2,v2,this]
 have pP:1<=k/\l.getD 0 0=0:=by
  have:=OA (D:=P) (k:=k) (by rw[<-hl];exact dG);rw[<-hl] at this;exact this
 have h1:=tq 0 (by omega);rw[pP.2] at h1;have h2:=hP.uY Lr hG (i:=0) (by rw[yp];have:=hN.lt 0 (by omega);omega);have h3:=hM.uY hR hN (i:=0) (by omega);rw[f0] at h3;exact (h1.trans h2).trans h3
section
variable {X Y : Dd}{C D : Nat}
end
end Go.Proofs.YtiijebameffenaaGreat
