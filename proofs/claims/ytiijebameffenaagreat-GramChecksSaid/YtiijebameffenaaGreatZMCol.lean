import Derived.Test.YtiijebameffenaaGreatZTKeep
set_option linter.all false
set_option maxRecDepth 10000
namespace Go.Proofs.YtiijebameffenaaGreat
open Nat (le_refl zero_le)
open List (getD_eq_getElem?_getD getElem?_drop length_append length_set mem_append mem_singleton nodup_append range replicate)
open Or (inl inr)
variable {B C N cd i j n:Nat}{f:Nat->Nat}{m:Nat->Int}{t:Nat->Nat->Nat}
def Mo(C:Nat)(t:Nat->Nat->Nat)(m:Nat->Int):Nat->Nat->Nat->Prop
 | 0,i,j=>m i=m j
 | k+1,i,j=>Mo C t m k i j/\∀c,c<C->Mo C t m k (t i c) (t j c)
section
variable {C : Nat}{t : Nat → Nat → Nat}{m : Nat → Int}
def nI(C:Nat)(t:Nat->Nat->Nat)(m:Nat->Int)(i j:Nat):Prop:=∀k,Mo C t m k i j
theorem nI.mark(h:nI C t m i j):m i=m j:=h 0
theorem nI.step{i j c:Nat}(h:nI C t m i j)(hc:c<C):nI C t m (t i c) (t j c):=fun k=>(h (k+1)).2 c hc
theorem nI.lA(R:Nat->Nat->Prop)(hR:∀i j,R i j->m i=m j/\∀c,c<C->R (t i c) (t j c))(h:R i j):nI C t m i j:=by
 intro k
 induction k generalizing i j with
 | zero=>exact (hR i j h).1
 | succ k ih=>exact⟨ih h,fun c hc=>ih ((hR i j h).2 c hc)⟩
end
structure jO (R:Nat->Nat->Prop)(n:Nat)(f:Nat->Nat)(B:Nat):Prop where
 same:∀i j,i<n->j<n->(f i=f j↔R i j)
 lt:∀i,i<n->f i<B
 new:∀b,b<B->∃i,i<n/\f i=b/\∀j,j<i->f j<b
theorem jO.zero(R:Nat->Nat->Prop):jO R 0 (fun _=>0) 0:=⟨fun i j hi=>absurd hi (by omega),fun i hi=>absurd hi (by omega),fun b hb=>absurd hb (by omega)⟩
theorem jO.lX{R:Nat->Nat->Prop}{k:Nat}(h:jO R n f B)(hs:∀i j,R i j->R j i)(hT:∀i j l,R i j->R j l->R i l)(hr:∀i,R i i)(hk:k<n)(hR:R k n):jO R (n+1) (fun i=>if i=n then f k else f i) B:=by
 refine⟨fun i j hi hj=>?_,fun i hi=>?_,fun b hb=>?_⟩
 ·by_cases a:i=n
  ·by_cases b:j=n
   ·rw[a,b];simp[hr n]
   rw[a,if_pos rfl,if_neg b,h.same k j hk (by omega)];exact⟨fun x=>hT _ _ _ (hs _ _ hR) x,fun x=>hT _ _ _ hR x⟩
  by_cases b:j=n
  ·rw[b,if_pos rfl,if_neg a,h.same i k (by omega) hk];exact⟨fun x=>hT _ _ _ x hR,fun x=>hT _ _ _ x (hs _ _ hR)⟩
  rw[if_neg a,if_neg b];exact h.same i j (by omega) (by omega)
 ·by_cases a:i=n
  ·simp only[if_pos a];exact h.lt k hk
  simp only[if_neg a];exact h.lt i (by omega)
 obtain⟨i,h1,h2,h3⟩:=h.new b hb;exact⟨i,by omega,by rw[if_neg (by omega)];exact h2,fun j hj=>by rw[if_neg (by omega)];exact h3 j hj⟩
theorem jO.fresh{R:Nat->Nat->Prop}(h:jO R n f B)(hs:∀i j,R i j->R j i)(hr:∀i,R i i)(hR:∀k,k<n->¬R k n):jO R (n+1) (fun i=>if i=n then B else f i) (B+1):=by
 refine⟨fun i j hi hj=>?_,fun i hi=>?_,fun b hb=>?_⟩
 ·by_cases a:i=n
  ·by_cases b:j=n
   ·rw[a,b];simp[hr n]
   rw[a,if_pos rfl,if_neg b];have:=h.lt j (by omega);exact⟨fun e=>by omega,fun x=>absurd (hs _ _ x) (hR j (by omega))⟩
  by_cases b:j=n
  ·rw[b,if_pos rfl,if_neg a];have:=h.lt i (by omega);exact⟨fun e=>by omega,fun x=>absurd x (hR i (by omega))⟩
  rw[if_neg a,if_neg b];exact h.same i j (by omega) (by omega)
 ·by_cases a:i=n
  ·simp only[if_pos a];omega
  simp only[if_neg a];have:=h.lt i (by omega);omega
 by_cases e:b=B
 ·subst e;exact⟨n,by omega,by rw[if_pos rfl],fun j hj=>by rw[if_neg (by omega)];exact h.lt j hj⟩
 obtain⟨i,h1,h2,h3⟩:=h.new b (by omega);exact⟨i,by omega,by rw[if_neg (by omega)];exact h2,fun j hj=>by rw[if_neg (by omega)];exact h3 j hj⟩
theorem jO.le{R:Nat->Nat->Prop}(h:jO R n f B):∀i,i<n->f i<=i:=by
 intro i
 induction i using Nat.strongRecOn with
 | _ i ih=>
  intro hi;refine Nat.le_of_not_lt fun aq=>?_
  have key:∀b,b<f i->∃j,j<i/\f j=b:=by
   intro b hb;obtain⟨j,h1,h2,h3⟩:=h.new b (by have:=h.lt i hi;omega);refine⟨j,?_,h2⟩;refine(Nat.lt_of_not_le fun hij=>?_);by_cases e:i=j
   ·subst e;omega
   have:=h3 i (by omega);omega
  obtain⟨j,hj,e⟩:=key i aq;have:=ih j hj (by omega);omega
def bP(f:Nat->Nat):Nat->List Nat
 | 0=>[]
 | i+1=>if f i<(bP f i).length then bP f i else bP f i++[i]
theorem Ec(h:f i<(bP f i).length):bP f (i+1)=bP f i:=by
 show (if f i<(bP f i).length then bP f i else bP f i++[i])=_;rw[if_pos h]
theorem EN(h:¬f i<(bP f i).length):bP f (i+1)=bP f i++[i]:=by
 show (if f i<(bP f i).length then bP f i else bP f i++[i])=_;rw[if_neg h]
theorem WT(f:Nat->Nat):∀i,(bP f i).length<=i:=by
 intro i
 induction i with
 | zero=>exact le_refl _
 | succ i ih=>
  by_cases h:f i<(bP f i).length
  ·rw[Ec h];omega
  rw[EN h];simp;omega
theorem Ny(f:Nat->Nat):∀i x,x∈bP f i->x<i:=by
 intro i
 induction i with
 | zero=>intro x h;cases h
 | succ i ih=>
  intro x h;by_cases h1:f i<(bP f i).length
  ·rw[Ec h1] at h;have:=ih x h;omega
  rw[EN h1] at h;rcases List.mem_append.1 h with h|h
  ·have:=ih x h;omega
  rw[List.mem_singleton.1 h];omega
section
variable {R : Nat → Nat → Prop}{n B : Nat}{f : Nat → Nat}
theorem jO.bP(h:jO R n f B):∀i,i<=n->(∀j,j<i->f j<(bP f i).length)/\(∀b,b<(bP f i).length->∃x,(bP f i)[b]?=some x/\f x=b/\∀j,j<x->f j<b)/\(i<n->f i<=(bP f i).length):=by
 have step:∀i,i<n->(∀j,j<i->f j<(Go.Proofs.YtiijebameffenaaGreat.bP f i).length)->f i<=(Go.Proofs.YtiijebameffenaaGreat.bP f i).length:=by
  intro i hi aq;by_cases h0:f i=0
  ·omega
  obtain⟨x,h1,h2,h3⟩:=h.new (f i-1) (by have:=h.lt i hi;omega);have hx:x<i:=by
   refine(Classical.byContradiction fun e=>?_);by_cases e2:x=i
   ·subst e2;omega
   have:=h3 i (by omega);omega
  have:=aq x hx;omega
 intro i
 induction i with
 | zero=>
  intro _;refine⟨fun j hj=>absurd hj (by omega),fun b hb=>absurd hb (by simp[Go.Proofs.YtiijebameffenaaGreat.bP]),fun h0=>step 0 h0 (fun j hj=>absurd hj (by omega))⟩
 | succ i ih=>
  intro hi;obtain⟨a1,a2,a3⟩:=ih (by omega);have a3:=a3 (by omega);by_cases h1:f i<(Go.Proofs.YtiijebameffenaaGreat.bP f i).length
  ·rw[Ec h1];have hl:∀j,j<i+1->f j<(Go.Proofs.YtiijebameffenaaGreat.bP f i).length:=fun j hj=>by
    by_cases e:j=i
    ·subst e;exact h1
    exact a1 j (by omega)
   refine⟨hl,a2,fun h2=>?_⟩;have:=step (i+1) h2 (by rw[Ec h1];exact hl);rwa [Ec h1] at this
  have e1:f i=(Go.Proofs.YtiijebameffenaaGreat.bP f i).length:=by omega
  rw[EN h1];have hl:∀j,j<i+1->f j<(Go.Proofs.YtiijebameffenaaGreat.bP f i++[i]).length:=fun j hj=>by
   rw[length_append];by_cases e:j=i
   ·subst e;simp;omega
   have:=a1 j (by omega);simp;omega
  refine⟨hl,fun b hb=>?_,fun h2=>?_⟩
  ·by_cases e:b<(Go.Proofs.YtiijebameffenaaGreat.bP f i).length
   ·obtain⟨x,x1,x2,x3⟩:=a2 b e;exact⟨x,by rw[List.getElem?_append_left e];exact x1,x2,x3⟩
   have e2:b=(Go.Proofs.YtiijebameffenaaGreat.bP f i).length:=by
    rw[length_append] at hb;simp at hb;omega
   refine⟨i,by rw[e2];simp,by omega,fun j hj=>?_⟩;have:=a1 j hj;omega
  have:=step (i+1) h2 (by rw[EN h1];exact hl);rwa [EN h1] at this
theorem jO.iy(h:jO R n f B):(Go.Proofs.YtiijebameffenaaGreat.bP f n).length=B:=by
 obtain⟨a1,a2,_⟩:=h.bP n (le_refl _);have h1:(Go.Proofs.YtiijebameffenaaGreat.bP f n).length<=B:=by
  refine Classical.byContradiction fun e=>?_
  obtain⟨x,x1,x2,_⟩:=a2 B (by omega);have h2:=Ny f n x (List.mem_of_getElem? x1);have:=h.lt x h2;omega
 have h2:B<=(Go.Proofs.YtiijebameffenaaGreat.bP f n).length:=by
  refine Classical.byContradiction fun e=>?_
  obtain⟨x,x1,x2,_⟩:=h.new ((Go.Proofs.YtiijebameffenaaGreat.bP f n).length) (by omega);have:=a1 x x1;omega
 omega
end
theorem yY{α:Type}(l:List α)(i j:Nat)(v d:α):(l.set i v).getD j d=if i=j/\i<l.length then v else l.getD j d:=by
 rw[getD_eq_getElem?_getD,List.getElem?_set,getD_eq_getElem?_getD];by_cases e:i=j
 ·subst e;by_cases h:i<l.length
  ·simp[h]
  simp[h]
 simp[e]
theorem zjQ{α:Type}(l:List α)(j:Nat)(a d:α):(l++[a]).getD j d=if j=l.length then a else l.getD j d:=by
 rw[getD_eq_getElem?_getD,getD_eq_getElem?_getD,List.getElem?_append];by_cases h:j<l.length
 ·rw[if_pos h,if_neg (by omega)]
 rw[if_neg h];by_cases e:j=l.length
 ·rw[if_pos e,e];simp
 have h1:l[j]?=none:=List.getElem?_eq_none (by omega);have h2:[a][j-l.length]?=none:=List.getElem?_eq_none (by simp;omega);rw[if_neg e,h1,h2]
theorem pZ{α:Type}(l:List α)(j:Nat)(d:α)(h:j<l.length):l.getD j d=l[j]:=by simp[getD_eq_getElem?_getD,h]
structure pa where
 f:Nat
 g:Nat
 h:Nat
 w:Bool
def mX:pa:=⟨0,0,0,false⟩
structure Pt where
 L:Nat->List Nat
 sp:List pa
def fE(L:Nat->List Nat)(i:Nat)(x:List Nat):Nat->List Nat:=fun j=>if j=i then x else L j
def Pt.s(P:Pt)(b:Nat):pa:=P.sp.getD b mX
def Pt.o(P:Pt)(q:Nat):Nat:=(P.L 0).getD q 0
def Pt.p(P:Pt)(x:Nat):Nat:=(P.L 1).getD x 0
def Pt.b(P:Pt)(x:Nat):Nat:=(P.L 2).getD x 0
def ef(P:Pt)(x:Nat):Nat->List Nat:=if (P.s (P.b x)).h=0 then fE P.L 3 (P.L 3++[P.b x]) else P.L
def Pt.to(P:Pt)(x:Nat):Nat:=(P.s (P.b x)).f+(P.s (P.b x)).h
def jr(P:Pt)(x:Nat):Pt:=
 ⟨fE (fE (ef P x) 0 (((P.L 0).set (P.to x) x).set (P.p x) (P.o (P.to x)))) 1 (((P.L 1).set x (P.to x)).set (P.o (P.to x)) (P.p x)),
  P.sp.set (P.b x) ⟨(P.s (P.b x)).f,(P.s (P.b x)).g,(P.s (P.b x)).h+1,(P.s (P.b x)).w⟩⟩
structure PI (N:Nat)(P:Pt):Prop where
 l0:(P.L 0).length=N
 l1:(P.L 1).length=N
 l2:(P.L 2).length=N
 po:∀x,x<N->P.p x<N/\P.o (P.p x)=x
 op:∀q,q<N->P.o q<N/\P.p (P.o q)=q
 bk:∀x,x<N->P.b x<P.sp.length/\(P.s (P.b x)).f<=P.p x/\P.p x<(P.s (P.b x)).g
 sp:∀b,b<P.sp.length->(P.s b).f<(P.s b).g/\(P.s b).g<=N/\(P.s b).f+(P.s b).h<=(P.s b).g/\∀q,(P.s b).f<=q->q<(P.s b).g->P.b (P.o q)=b
 uJ:(P.L 4).Nodup/\∀b,b∈P.L 4↔b<P.sp.length/\(P.s b).w=true
structure wY (P:Pt)(S:Nat->Prop):Prop where
 nd:(P.L 3).Nodup
 tc:∀b,b∈P.L 3↔b<P.sp.length/\(P.s b).h≠0
 hit:∀b,b<P.sp.length->∀q,(P.s b).f<=q->q<(P.s b).g->(q<(P.s b).f+(P.s b).h↔S (P.o q))
theorem zpa(P:Pt)(x:Nat):(jr P x).L 4=P.L 4:=by
 show ef P x 4=_;unfold ef;split <;> rfl
theorem VI(P:Pt)(x:Nat):(jr P x).L 2=P.L 2:=by
 show ef P x 2=_;unfold ef;split <;> rfl
theorem zpc(P:Pt)(x:Nat):(jr P x).L 3=if (P.s (P.b x)).h=0 then P.L 3++[P.b x] else P.L 3:=by
 show ef P x 3=_;unfold ef;split <;> rfl
theorem Rh(P:Pt)(x y:Nat):(jr P x).b y=P.b y:=by
 unfold Pt.b;rw[VI]
theorem GZ(P:Pt)(x:Nat):(jr P x).sp.length=P.sp.length:=by simp[jr]
theorem KD(P:Pt)(x b:Nat)(hb:P.b x<P.sp.length):(jr P x).s b=if b=P.b x then ⟨(P.s (P.b x)).f,(P.s (P.b x)).g,(P.s (P.b x)).h+1,(P.s (P.b x)).w⟩ else P.s b:=by
 show (P.sp.set _ _).getD b mX=_;rw[yY];by_cases e:b=P.b x
 ·rw[if_pos ⟨e.symm,hb⟩,if_pos e]
 rw[if_neg (fun h=>e h.1.symm),if_neg e];rfl
theorem VW{P:Pt}{S:Nat->Prop}(h:PI N P)(hA:wY P S){x:Nat}(hx:x<N)(hS:¬S x):
  (P.b x<P.sp.length/\P.to x<N/\P.p x<N/\P.o (P.to x)<N)/\PI N (jr P x)/\wY (jr P x) (fun y=>S y\/y=x):=by
 obtain⟨hb,hf,hg⟩:=h.bk x hx;obtain⟨s1,s2,s3,s4⟩:=h.sp _ hb;obtain⟨hp,kv⟩:=h.po x hx;have y8:P.to x<=P.p x:=by
  have:=(hA.hit _ hb _ hf hg)
  rw[kv] at this;unfold Pt.to;exact Nat.le_of_not_lt fun h=>hS (this.1 h)
 have Dz:P.to x<N:=by omega
 obtain⟨ho,SK⟩:=h.op _ Dz;have kK:∀b,((jr P x).s b).f=(P.s b).f/\((jr P x).s b).g=(P.s b).g/\((jr P x).s b).w=(P.s b).w:=fun b=>by
  rw[KD P x b hb];split
  ·rename_i e;rw[e];exact⟨rfl,rfl,rfl⟩
  exact⟨rfl,rfl,rfl⟩
 have FT:∀q,(jr P x).o q=if P.p x=q then P.o (P.to x) else if P.to x=q then x else P.o q:=fun q=>by
  show (((P.L 0).set (P.to x) x).set (P.p x) (P.o (P.to x))).getD q 0=_;rw[yY,yY];simp only[length_set,h.l0,hp,Dz,and_true];rfl
 have tp:∀y,(jr P x).p y=if P.o (P.to x)=y then P.p x else if x=y then P.to x else P.p y:=fun y=>by
  show (((P.L 1).set x (P.to x)).set (P.o (P.to x)) (P.p x)).getD y 0=_;rw[yY,yY];simp only[length_set,h.l1,hx,ho,and_true];rfl
 have AP:(P.s (P.b x)).f<=P.to x:=by unfold Pt.to;omega
 have mW:P.b (P.o (P.to x))=P.b x:=s4 _ AP (by omega);refine⟨⟨hb,Dz,hp,ho⟩,⟨?_,?_,?_,?_,?_,?_,?_,?_⟩,?_,?_,?_⟩
 ·show (((P.L 0).set (P.to x) x).set (P.p x) (P.o (P.to x))).length=N;simp[h.l0]
 ·show (((P.L 1).set x (P.to x)).set (P.o (P.to x)) (P.p x)).length=N;simp[h.l1]
 ·rw[VI];exact h.l2
 ·intro y hy;rw[tp];obtain⟨y1,y2⟩:=h.po y hy;by_cases e1:P.o (P.to x)=y
  ·rw[if_pos e1,FT,if_pos rfl];exact⟨hp,e1⟩
  rw[if_neg e1];by_cases e2:x=y
  ·subst e2;rw[if_pos rfl,FT];by_cases e3:P.p x=P.to x
   ·exact absurd (by rw[<-e3];exact kv) e1
   rw[if_neg e3,if_pos rfl];exact⟨Dz,rfl⟩
  rw[if_neg e2,FT,if_neg (fun e=>e2 (by rw[<-kv,e,y2])),if_neg (fun e=>e1 (by rw[e,y2]))];exact⟨y1,y2⟩
 ·intro q hq;obtain⟨y1,y2⟩:=h.op q hq;rw[FT];by_cases e1:P.p x=q
  ·rw[if_pos e1,tp,if_pos rfl];exact⟨ho,e1⟩
  rw[if_neg e1];by_cases e2:P.to x=q
  ·rw[if_pos e2,tp];by_cases e3:P.o (P.to x)=x
   ·exact absurd (by rw[<-e3,SK];exact e2) e1
   rw[if_neg e3,if_pos rfl];exact⟨hx,e2⟩
  rw[if_neg e2,tp,if_neg (fun e=>e2 (by rw[<-SK,e,y2])),if_neg (fun e=>e1 (by rw[e,y2]))];exact⟨y1,y2⟩
 ·intro y hy;rw[Rh,GZ,(kK _).1,(kK _).2.1,tp];obtain⟨z1,z2,z3⟩:=h.bk y hy;refine⟨z1,?_⟩;by_cases e1:P.o (P.to x)=y
  ·rw[if_pos e1,<-e1,mW];exact⟨hf,hg⟩
  rw[if_neg e1];by_cases e2:x=y
  ·subst e2;rw[if_pos rfl];exact⟨AP,by omega⟩
  rw[if_neg e2];exact⟨z2,z3⟩
 ·intro b eC;rw[GZ] at eC;obtain⟨z1,z2,z3,z4⟩:=h.sp b eC;rw[(kK _).1,(kK _).2.1];refine⟨z1,z2,?_,fun q mz hq2=>?_⟩
  ·rw[KD P x b hb];split
   ·rename_i e;subst e;show (P.s (P.b x)).f+((P.s (P.b x)).h+1)<=_;unfold Pt.to at y8;omega
   exact z3
  rw[Rh,FT];have:=z4 q mz hq2;by_cases e1:P.p x=q
  ·rw[if_pos e1,mW,<-this,<-e1,kv]
  rw[if_neg e1];by_cases e2:P.to x=q
  ·rw[if_pos e2,<-this,<-e2,mW]
  rw[if_neg e2];exact this
 ·rw[zpa];refine⟨h.uJ.1,fun b=>?_⟩;rw[GZ,(kK b).2.2];exact h.uJ.2 b
 ·rw[zpc];split
  ·rename_i e;rw[nodup_append];refine⟨hA.nd,by simp,fun a ha c hc e2=>?_⟩;rw[List.mem_singleton.1 hc] at e2;rw[e2] at ha;exact ((hA.tc _).1 ha).2 e
  exact hA.nd
 ·intro b;rw[GZ,KD P x b hb,zpc];have:=hA.tc b;by_cases e:b=P.b x
  ·rw[if_pos e];refine⟨fun _=>⟨by omega,by simp⟩,fun _=>?_⟩;split
   ·rw[e];simp
   rename_i e2;rw[e];exact (hA.tc _).2 ⟨hb,e2⟩
  rw[if_neg e,<-this];split
  ·simp[e]
  rfl
 intro b eC q mz hq2;rw[GZ] at eC;rw[(kK _).1] at mz⊢;rw[(kK _).2.1] at hq2;have z4:=(h.sp b eC).2.2.2 q mz hq2;have zh:=hA.hit b eC q mz hq2;have ry:=(h.op q (by have:=(h.sp b eC).2.1;omega)).2;rw[KD P x b hb,FT];by_cases e:b=P.b x
 ·subst e;rw[if_pos rfl];show q<_+((P.s (P.b x)).h+1)↔_;have et:P.to x=(P.s (P.b x)).f+(P.s (P.b x)).h:=rfl;by_cases e1:P.p x=q
  ·rw[if_pos e1];by_cases e3:P.to x=q
   ·rw[e3,<-e1,kv];exact⟨fun _=>inr rfl,fun _=>by omega⟩
   refine⟨fun h=>by omega,fun h=>?_⟩;rcases h with h|h
   ·have:=(hA.hit _ hb _ AP (by omega)).2 h;omega
   rw[h] at SK;omega
  rw[if_neg e1];by_cases e2:P.to x=q
  ·rw[if_pos e2];exact⟨fun _=>inr rfl,fun _=>by omega⟩
  rw[if_neg e2];refine⟨fun h=>inl (zh.1 (by omega)),fun h=>?_⟩;rcases h with h3|h3
  ·have:=zh.2 h3;omega
  exact absurd (by rw[<-h3];exact ry) e1
 rw[if_neg e];have n1:P.p x≠q:=fun e1=>e (by rw[<-z4,<-e1,kv])
 have n2:P.to x≠q:=fun e2=>e (by rw[<-z4,<-e2,mW])
 rw[if_neg n1,if_neg n2,zh];refine⟨inl,fun h=>?_⟩;rcases h with h|h
 ·exact h
 exact absurd (by rw[h] at z4;exact z4.symm) e
def ca(l xs:List Nat)(v:Nat):List Nat:=xs.foldl (fun a x=>a.set x v) l
theorem X7(v:Nat)(xs:List Nat):∀l,(ca l xs v).length=l.length:=by
 induction xs with
 | nil=>exact fun l=>rfl
 | cons x xs ih=>
  intro l;show (ca (l.set x v) xs v).length=_;rw[ih];simp
theorem zjR(v y:Nat)(xs:List Nat):∀l,(ca l xs v).getD y 0=if y∈xs/\y<l.length then v else l.getD y 0:=by
 induction xs with
 | nil=>exact fun l=>by simp[ca]
 | cons x xs ih=>
  intro l;show (ca (l.set x v) xs v).getD y 0=_;rw[ih,yY,length_set];by_cases h1:y∈xs
  ·by_cases h2:y<l.length
   ·rw[if_pos ⟨h1,h2⟩,if_pos ⟨List.mem_cons_of_mem _ h1,h2⟩]
   rw[if_neg (fun h=>h2 h.2),if_neg (fun h=>h2 (by rw[<-h.1];exact h.2)),if_neg (fun h=>h2 h.2)]
  rw[if_neg (fun h=>h1 h.1)];by_cases h3:x=y
  ·subst h3;by_cases h2:x<l.length
   ·rw[if_pos ⟨rfl,h2⟩,if_pos ⟨List.mem_cons_self,h2⟩]
   rw[if_neg (fun h=>h2 h.2),if_neg (fun h=>h2 h.2)]
  rw[if_neg (fun h=>h3 h.1),if_neg (fun h=>?_)];rcases List.mem_cons.1 h.1 with h4|h4
  ·exact h3 h4.symm
  exact h1 h4
def Pt.part(P:Pt)(b:Nat):List Nat:=((P.L 0).drop (P.s b).f).take (P.s b).h
def Pt.hY(P:Pt)(b:Nat):Nat:=if (P.s b).w=true\/(P.s b).h<=(P.s b).g-((P.s b).f+(P.s b).h) then P.sp.length else b
def ez(P:Pt)(b:Nat):List pa:=(P.sp.set b ⟨(P.s b).f+(P.s b).h,(P.s b).g,0,(P.s b).w⟩)++[⟨(P.s b).f,(P.s b).f+(P.s b).h,0,false⟩]
def cW(P:Pt)(b:Nat):Pt:=
 if (P.s b).h=(P.s b).g-(P.s b).f then ⟨P.L,P.sp.set b ⟨(P.s b).f,(P.s b).g,0,(P.s b).w⟩⟩
 else ⟨fE (fE P.L 2 (ca (P.L 2) (P.part b) P.sp.length)) 4 (P.L 4++[P.hY b]),
  (ez P b).set (P.hY b) ⟨((ez P b).getD (P.hY b) mX).f,((ez P b).getD (P.hY b) mX).g,((ez P b).getD (P.hY b) mX).h,true⟩⟩
def zI(P:Pt)(S:Nat->Prop)(R:List Nat):Prop:=∀b,b<P.sp.length->
 (b∈R->(P.s b).h≠0/\∀q,(P.s b).f<=q->q<(P.s b).g->(q<(P.s b).f+(P.s b).h↔S (P.o q)))/\
 (b∉R->(P.s b).h=0/\((∀q,(P.s b).f<=q->q<(P.s b).g->S (P.o q))\/∀q,(P.s b).f<=q->q<(P.s b).g->¬S (P.o q)))
def zA(P:Pt)(u v:Nat):Prop:=P.b u=P.b v\/(P.s (P.b u)).w=true\/(P.s (P.b v)).w=true
def Pt.mu(P:Pt)(N:Nat):Nat:=(N-P.sp.length)+(P.L 4).length
theorem PI.len{P:Pt}(h:PI N P):P.sp.length<=N:=by
 have:((range P.sp.length).map fun b=>P.o (P.s b).f).length<=N:=by
  refine rb ?_ ?_
  ·refine List.pairwise_map.2 (List.Pairwise.imp_of_mem ?_ (List.nodup_range (n:=P.sp.length)));intro a b ha hb hne e;refine hne ?_;rw[List.mem_range] at ha hb;obtain⟨a1,a2,a3,a4⟩:=h.sp a ha;obtain⟨b1,b2,b3,b4⟩:=h.sp b hb;rw[<-a4 _ (le_refl _) a1,e,b4 _ (le_refl _) b1]
  intro x hx;obtain⟨b,hb,rfl⟩:=List.mem_map.1 hx;rw[List.mem_range] at hb;obtain⟨b1,b2,b3,b4⟩:=h.sp b hb;exact (h.op _ (by omega)).1
 simpa using this
structure qU (N:Nat)(P P':Pt)(S:Nat->Prop):Prop where
 i:∀x y,x<N->y<N->P'.b x=P'.b y->P.b x=P.b y
 ii:∀x y,x<N->y<N->P.b x=P.b y->(S x↔S y)->P'.b x=P'.b y
 Jd:∀u v,u<N->v<N->zA P u v->zA P' u v
 mu:P'.mu N=P.mu N
theorem qU.rfl{P:Pt}{S:Nat->Prop}:qU N P P S:=⟨fun _ _ _ _ h=>h,fun _ _ _ _ h _=>h,fun _ _ _ _ h=>h,_root_.rfl⟩
theorem qU.trans{P P' P2:Pt}{S:Nat->Prop}(h:qU N P P' S)(h2:qU N P' P2 S):qU N P P2 S:=
 ⟨fun x y hx hy e=>h.i x y hx hy (h2.i x y hx hy e),fun x y hx hy e hs=>h2.ii x y hx hy (h.ii x y hx hy e hs) hs,fun u v hu hv c=>h2.Jd u v hu hv (h.Jd u v hu hv c),h2.mu.trans h.mu⟩
theorem VB{P:Pt}(h:PI N P){b:Nat}(hb:b<P.sp.length)(x:Nat)(hx:x<N):x∈P.part b↔(P.s b).f<=P.p x/\P.p x<(P.s b).f+(P.s b).h:=by
 obtain⟨s1,s2,s3,s4⟩:=h.sp b hb;unfold Pt.part;rw[List.mem_iff_getElem?];constructor
 ·rintro⟨j,hj⟩;have hl:j<(P.s b).h:=by
   have:=(List.getElem?_eq_some_iff.1 hj).1;simp at this;omega
  rw[List.getElem?_take_of_lt hl,getElem?_drop] at hj;have e:P.o ((P.s b).f+j)=x:=by unfold Pt.o;rw[getD_eq_getElem?_getD,hj];rfl
  rw[<-e,(h.op _ (by omega)).2];omega
 rintro⟨h1,h2⟩;refine⟨P.p x-(P.s b).f,?_⟩;rw[List.getElem?_take_of_lt (by omega),getElem?_drop,show (P.s b).f+(P.p x-(P.s b).f)=P.p x by omega];have h3:=h.po x hx;have h4:P.p x<(P.L 0).length:=by rw[h.l0];exact h3.1
 rw[List.getElem?_eq_getElem h4,<-pZ _ _ 0 h4];exact congrArg some h3.2
theorem RV(P:Pt)(b:Nat):(ez P b).length=P.sp.length+1:=by simp[ez]
theorem YD(P:Pt)(b:Nat)(hb:b<P.sp.length)(j:Nat):(ez P b).getD j mX=if j=P.sp.length then ⟨(P.s b).f,(P.s b).f+(P.s b).h,0,false⟩ else if j=b then ⟨(P.s b).f+(P.s b).h,(P.s b).g,0,(P.s b).w⟩ else P.s j:=by
 unfold ez;rw[zjQ,length_set];by_cases e:j=P.sp.length
 ·rw[if_pos e,if_pos e]
 rw[if_neg e,if_neg e,yY];by_cases e2:j=b
 ·rw[if_pos ⟨e2.symm,hb⟩,if_pos e2]
 rw[if_neg (fun h=>e2 h.1.symm),if_neg e2];rfl
open Classical in
theorem zrm{P:Pt}{S:Nat->Prop}{R:List Nat}{b:Nat}(h:PI N P)(hH:zI P S (b :: R))(kG:(b :: R).Nodup)(nA:∀x,x∈R->x<P.sp.length)(hb:b<P.sp.length):
  PI N (cW P b)/\zI (cW P b) S R/\(cW P b).L 3=P.L 3/\P.sp.length<=(cW P b).sp.length/\qU N P (cW P b) S:=by
 obtain⟨s1,s2,s3,s4⟩:=h.sp b hb;obtain⟨hh0,Kp⟩:=(hH b hb).1 List.mem_cons_self;have F6:b∉R:=fun hm=>(List.nodup_cons.1 kG).1 hm
 by_cases oE:(P.s b).h=(P.s b).g-(P.s b).f
 ·have e:cW P b=⟨P.L,P.sp.set b ⟨(P.s b).f,(P.s b).g,0,(P.s b).w⟩⟩:=by unfold cW;rw[if_pos oE]
  have hs:∀j,(cW P b).s j=if j=b then ⟨(P.s b).f,(P.s b).g,0,(P.s b).w⟩ else P.s j:=fun j=>by
   rw[e];show (P.sp.set _ _).getD j mX=_;rw[yY];by_cases e2:j=b
   ·rw[if_pos ⟨e2.symm,hb⟩,if_pos e2]
   rw[if_neg (fun h=>e2 h.1.symm),if_neg e2];rfl
  have kK:∀j,((cW P b).s j).f=(P.s j).f/\((cW P b).s j).g=(P.s j).g/\((cW P b).s j).w=(P.s j).w:=fun j=>by
   rw[hs j];split
   ·rename_i e2;rw[e2];exact⟨rfl,rfl,rfl⟩
   exact⟨rfl,rfl,rfl⟩
  have hL:(cW P b).L=P.L:=by rw[e]
  have hl:(cW P b).sp.length=P.sp.length:=by rw[e];simp
  have ho:∀q,(cW P b).o q=P.o q:=fun q=>by unfold Pt.o;rw[hL]
  have hp:∀q,(cW P b).p q=P.p q:=fun q=>by unfold Pt.p;rw[hL]
  have px:∀q,(cW P b).b q=P.b q:=fun q=>by unfold Pt.b;rw[hL]
  refine⟨⟨by rw[hL];exact h.l0,by rw[hL];exact h.l1,by rw[hL];exact h.l2,fun x hx=>by rw[hp,ho];exact h.po x hx,fun x hx=>by rw[ho,hp];exact h.op x hx,fun x hx=>by rw[px,hl,(kK _).1,(kK _).2.1,hp];exact h.bk x hx,fun j hj=>?_,?_⟩,fun j hj=>?_,by rw[hL],by rw[hl];exact le_refl _,fun x y _ _=>by rw[px,px];exact fun h=>h,fun x y _ _=>by rw[px,px];exact fun h _=>h,fun u v _ _ hc=>?_,?_⟩
  ·rw[hl] at hj;obtain⟨z1,z2,z3,z4⟩:=h.sp j hj;rw[(kK _).1,(kK _).2.1];refine⟨z1,z2,?_,fun q h1 h2=>by rw[px,ho];exact z4 q h1 h2⟩;rw[hs j];split
   ·show _+0<=_;omega
   exact z3
  ·rw[hL];refine⟨h.uJ.1,fun j=>?_⟩;rw[hl,(kK j).2.2];exact h.uJ.2 j
  ·rw[hl] at hj;rw[(kK _).1,(kK _).2.1];by_cases e2:j=b
   ·subst e2;refine⟨fun hm=>absurd hm F6,fun _=>⟨by rw[hs j,if_pos rfl],inl fun q h1 h2=>?_⟩⟩;rw[ho];exact (Kp q h1 h2).1 (by omega)
   have:=hH j hj;rw[hs j,if_neg e2];refine⟨fun hm=>?_,fun hm=>?_⟩
   ·obtain⟨z1,z2⟩:=this.1 (List.mem_cons_of_mem _ hm);exact⟨z1,fun q h1 h2=>by rw[ho];exact z2 q h1 h2⟩
   obtain⟨z1,z2⟩:=this.2 (fun mC=>by
    rcases List.mem_cons.1 mC with h3|h3
    ·exact e2 h3
    ·exact hm h3)
   refine⟨z1,?_⟩;rcases z2 with z2|z2
   ·exact inl fun q h1 h2=>by rw[ho];exact z2 q h1 h2
   exact inr fun q h1 h2=>by rw[ho];exact z2 q h1 h2
  ·unfold zA at hc⊢;rw[px,px,(kK _).2.2,(kK _).2.2];exact hc
  unfold Pt.mu;rw[hl,hL]
 have e:cW P b=⟨fE (fE P.L 2 (ca (P.L 2) (P.part b) P.sp.length)) 4 (P.L 4++[P.hY b]),
   (ez P b).set (P.hY b) ⟨((ez P b).getD (P.hY b) mX).f,((ez P b).getD (P.hY b) mX).g,((ez P b).getD (P.hY b) mX).h,true⟩⟩:=by unfold cW;rw[if_neg oE]
 have hk:P.hY b=P.sp.length\/(P.hY b=b/\(P.s b).w=false):=by
  unfold Pt.hY;split
  ·exact inl rfl
  rename_i h3;exact inr ⟨rfl,by simpa using (fun h4=>h3 (inl h4))⟩
 have hkl:P.hY b<P.sp.length+1:=by omega
 have hs:∀j,(cW P b).s j=if j=P.sp.length then ⟨(P.s b).f,(P.s b).f+(P.s b).h,0,decide (j=P.hY b)⟩ else if j=b then ⟨(P.s b).f+(P.s b).h,(P.s b).g,0,(P.s b).w || decide (j=P.hY b)⟩ else P.s j:=fun j=>by
  rw[e];show ((ez P b).set _ _).getD j mX=_;rw[yY,RV];by_cases e2:j=P.hY b
  ·rw[if_pos ⟨e2.symm,hkl⟩,YD P b hb,e2];by_cases e3:P.hY b=P.sp.length
   ·simp[e3]
   rw[if_neg e3,if_neg e3];obtain⟨e4,e5⟩:P.hY b=b/\(P.s b).w=false:=(by rcases hk with h|h;exact absurd h e3;exact h);simp[e4]
  rw[if_neg (fun h=>e2 h.1.symm),YD P b hb];simp[e2]
 have hl:(cW P b).sp.length=P.sp.length+1:=by rw[e];simp[RV]
 have C7:(cW P b).L 0=P.L 0:=by rw[e];rfl
 have B6:(cW P b).L 1=P.L 1:=by rw[e];rfl
 have hL2:(cW P b).L 2=ca (P.L 2) (P.part b) P.sp.length:=by rw[e];rfl
 have hL3:(cW P b).L 3=P.L 3:=by rw[e];rfl
 have Cg:(cW P b).L 4=P.L 4++[P.hY b]:=by rw[e];rfl
 have ho:∀q,(cW P b).o q=P.o q:=fun q=>by unfold Pt.o;rw[C7]
 have hp:∀q,(cW P b).p q=P.p q:=fun q=>by unfold Pt.p;rw[B6]
 have px:∀x,x<N->(cW P b).b x=if (P.s b).f<=P.p x/\P.p x<(P.s b).f+(P.s b).h then P.sp.length else P.b x:=fun x hx=>by
  unfold Pt.b;rw[hL2,zjR,h.l2];by_cases h1:x∈P.part b
  ·rw[if_pos ⟨h1,hx⟩,if_pos ((VB h hb x hx).1 h1)]
  rw[if_neg (fun h2=>h1 h2.1),if_neg (fun h2=>h1 ((VB h hb x hx).2 h2))]
 have nf:∀x,x<N->((P.s b).f<=P.p x/\P.p x<(P.s b).f+(P.s b).h↔P.b x=b/\S x):=fun x hx=>by
  obtain⟨x1,x2,x3⟩:=h.bk x hx;obtain⟨y1,y2⟩:=h.po x hx;constructor
  ·rintro⟨h1,h2⟩;have h3:=s4 _ h1 (by omega);have h4:=(Kp _ h1 (by omega)).1 h2;rw[y2] at h3 h4;exact⟨h3,h4⟩
  rintro⟨h1,h2⟩;rw[h1] at x2 x3;refine⟨x2,(Kp _ x2 x3).2 ?_⟩;rw[y2];exact h2
 have qR:∀x,x<N->(cW P b).b x=if P.b x=b/\S x then P.sp.length else P.b x:=fun x hx=>by
  rw[px x hx];by_cases h1:P.b x=b/\S x
  ·rw[if_pos h1,if_pos ((nf x hx).2 h1)]
  rw[if_neg h1,if_neg (fun h2=>h1 ((nf x hx).1 h2))]
 have FQ:∀x,x<N->P.b x<P.sp.length:=fun x hx=>(h.bk x hx).1
 have hh:(P.s b).h<(P.s b).g-(P.s b).f:=by omega
 have wG:(cW P b).s b=⟨(P.s b).f+(P.s b).h,(P.s b).g,0,(P.s b).w || decide (b=P.hY b)⟩:=by rw[hs b,if_neg (by omega),if_pos rfl]
 have GR:(cW P b).s P.sp.length=⟨(P.s b).f,(P.s b).f+(P.s b).h,0,decide (P.sp.length=P.hY b)⟩:=by rw[hs,if_pos rfl]
 have G2:∀j,j≠b->j<P.sp.length->(cW P b).s j=P.s j:=fun j h1 h2=>by rw[hs j,if_neg (by omega),if_neg h1]
 have Rm:∀j,j<P.sp.length->(P.s j).w=true->((cW P b).s j).w=true:=fun j hj hw=>by
  by_cases e2:j=b
  ·subst e2;rw[wG];simp[hw]
  rw[G2 j e2 hj];exact hw
 have XJ:PI N (cW P b):=by
  refine⟨by rw[C7];exact h.l0,by rw[B6];exact h.l1,by rw[hL2,X7];exact h.l2,fun x hx=>by rw[hp,ho];exact h.po x hx,fun x hx=>by rw[ho,hp];exact h.op x hx,fun x hx=>?_,fun j hj=>?_,?_⟩
  ·rw[qR x hx,hl,hp];obtain⟨x1,x2,x3⟩:=h.bk x hx;by_cases h1:P.b x=b/\S x
   ·rw[if_pos h1,GR];have:=(nf x hx).2 h1;exact⟨by omega,this.1,this.2⟩
   rw[if_neg h1];refine⟨by omega,?_⟩;by_cases e2:P.b x=b
   ·rw[e2,wG];rw[e2] at x2 x3;refine⟨?_,x3⟩;show (P.s b).f+(P.s b).h<=P.p x;refine Nat.le_of_not_lt fun aq=>h1 ((nf x hx).1 ⟨x2,aq⟩)
   rw[G2 _ e2 x1];exact⟨x2,x3⟩
  ·rw[hl] at hj;by_cases e2:j=P.sp.length
   ·rw[e2,GR];refine⟨by show (P.s b).f<(P.s b).f+(P.s b).h;omega,by show (P.s b).f+(P.s b).h<=N;omega,by show (P.s b).f+0<=(P.s b).f+(P.s b).h;omega,fun q h1 h2=>?_⟩;replace h1:(P.s b).f<=q:=h1;replace h2:q<(P.s b).f+(P.s b).h:=h2;obtain⟨q1,q2⟩:=h.op q (by omega);rw[ho,px _ q1,q2,if_pos ⟨h1,h2⟩]
   by_cases e3:j=b
   ·rw[e3,wG];refine⟨by show (P.s b).f+(P.s b).h<(P.s b).g;omega,s2,by show (P.s b).f+(P.s b).h+0<=(P.s b).g;omega,fun q h1 h2=>?_⟩;replace h1:(P.s b).f+(P.s b).h<=q:=h1;replace h2:q<(P.s b).g:=h2;obtain⟨q1,q2⟩:=h.op q (by omega);rw[ho,px _ q1,q2,if_neg (by omega)];exact s4 q (by omega) h2
   have hj2:j<P.sp.length:=(by omega);obtain⟨z1,z2,z3,z4⟩:=h.sp j hj2;rw[G2 j e3 hj2];refine⟨z1,z2,z3,fun q h1 h2=>?_⟩;obtain⟨q1,q2⟩:=h.op q (by omega);have:=z4 q h1 h2;rw[ho,qR _ q1,if_neg (fun h3:P.b (P.o q)=b/\S (P.o q)=>e3 (by rw[<-this];exact h3.1))];exact this
  rw[Cg,hl];have Tw:P.hY b∉P.L 4:=fun hm=>by
   have:=(h.uJ.2 _).1 hm;rcases hk with h3|⟨h3,h4⟩
   ·omega
   rw[h3,h4] at this;exact absurd this.2 (by simp)
  refine⟨?_,fun j=>?_⟩
  ·rw[nodup_append];refine⟨h.uJ.1,by simp,fun a ha c hc e2=>?_⟩;rw[List.mem_singleton.1 hc] at e2;rw[e2] at ha;exact Tw ha
  rw[mem_append,mem_singleton,h.uJ.2 j];by_cases e2:j=P.sp.length
  ·rw[e2,GR];constructor
   ·rintro (h3|h3)
    ·omega
    exact⟨by omega,by simp[h3]⟩
   rintro⟨_,h3⟩;exact inr (by simpa using h3)
  by_cases e3:j=b
  ·rw[e3,wG];constructor
   ·rintro (h3|h3)
    ·exact⟨by omega,by simp[h3.2]⟩
    exact⟨by omega,by
    show ((P.s b).w || decide (b=P.hY b))=true;rw[Bool.or_eq_true,decide_eq_true_iff];exact inr h3⟩
   rintro⟨_,h3⟩;simp at h3;rcases h3 with h3|h3
   ·exact inl ⟨hb,h3⟩
   exact inr h3
  have hne:j≠P.hY b:=by rcases hk with h3|⟨h3,_⟩ <;> omega
  constructor
  ·rintro (h3|h3)
   ·rw[G2 j e3 h3.1];exact⟨by omega,h3.2⟩
   exact absurd h3 hne
  rintro⟨h3,h4⟩;have hj2:j<P.sp.length:=by omega
  rw[G2 j e3 hj2] at h4;exact inl ⟨hj2,h4⟩
 refine⟨XJ,fun j hj=>?_,hL3,by omega,fun x y hx hy=>?_,fun x y hx hy=>?_,fun u v hu hv hc=>?_,?_⟩
 ·rw[hl] at hj;by_cases e2:j=P.sp.length
  ·rw[e2,GR];refine⟨fun hm=>absurd (nA _ hm) (Nat.lt_irrefl _),fun _=>⟨rfl,inl fun q h1 h2=>?_⟩⟩;replace h1:(P.s b).f<=q:=h1;replace h2:q<(P.s b).f+(P.s b).h:=h2;rw[ho];exact (Kp q h1 (by omega)).1 h2
  by_cases e3:j=b
  ·rw[e3,wG];refine⟨fun hm=>absurd hm F6,fun _=>⟨rfl,inr fun q h1 h2=>?_⟩⟩;replace h1:(P.s b).f+(P.s b).h<=q:=h1;replace h2:q<(P.s b).g:=h2;rw[ho];intro h4;have:=(Kp q (by omega) h2).2 h4;omega
  have hj2:j<P.sp.length:=by omega
  have:=hH j hj2;rw[G2 j e3 hj2];refine⟨fun hm=>?_,fun hm=>?_⟩
  ·obtain⟨z1,z2⟩:=this.1 (List.mem_cons_of_mem _ hm);exact⟨z1,fun q h1 h2=>by rw[ho];exact z2 q h1 h2⟩
  obtain⟨z1,z2⟩:=this.2 (fun mC=>by
   rcases List.mem_cons.1 mC with h3|h3
   ·exact e3 h3
   ·exact hm h3)
  refine⟨z1,?_⟩;rcases z2 with z2|z2
  ·exact inl fun q h1 h2=>by rw[ho];exact z2 q h1 h2
  exact inr fun q h1 h2=>by rw[ho];exact z2 q h1 h2
 ·rw[qR x hx,qR y hy];have:=FQ x hx;have:=FQ y hy;intro h3;split at h3 <;> split at h3
  ·rename_i h4 h5;rw[h4.1,h5.1]
  ·omega
  ·omega
  exact h3
 ·rw[qR x hx,qR y hy];intro h3 h4;by_cases h5:P.b x=b/\S x
  ·rw[if_pos h5,if_pos ⟨by rw[<-h3];exact h5.1,h4.1 h5.2⟩]
  rw[if_neg h5,if_neg (fun h6=>h5 ⟨by rw[h3];exact h6.1,h4.2 h6.2⟩)];exact h3
 ·unfold zA at hc⊢;have one:∀u,u<N->(P.s (P.b u)).w=true->((cW P b).s ((cW P b).b u)).w=true:=fun u hu hw=>by
   rw[qR u hu];by_cases h3:P.b u=b/\S u
   ·rw[if_pos h3,GR];rw[h3.1] at hw;have:P.hY b=P.sp.length:=by
     rcases hk with h4|⟨_,h4⟩
     ·exact h4
     rw[hw] at h4;cases h4
    simp[this]
   rw[if_neg h3];exact Rm _ (FQ u hu) hw
  rcases hc with hc|hc|hc
  ·by_cases h3:(cW P b).b u=(cW P b).b v
   ·exact inl h3
   right;rw[qR u hu,qR v hv] at h3⊢;have zY:((cW P b).s P.sp.length).w=true\/((cW P b).s b).w=true:=by
    rw[GR,wG];rcases hk with h4|⟨h4,_⟩
    ·left;simp[h4]
    right;simp[h4]
   by_cases h5:P.b u=b/\S u
   ·rw[if_pos h5] at h3⊢;by_cases h6:P.b v=b/\S v
    ·rw[if_pos h6] at h3;exact absurd rfl h3
    rw[if_neg h6] at h3⊢;rw[<-hc,h5.1];exact zY
   rw[if_neg h5] at h3⊢;by_cases h6:P.b v=b/\S v
   ·rw[if_pos h6] at h3⊢;rw[hc,h6.1];exact zY.symm
   rw[if_neg h6] at h3;exact absurd hc h3
  ·exact inr (inl (one u hu hc))
  exact inr (inr (one v hv hc))
 have h6:=XJ.len;rw[hl] at h6;unfold Pt.mu;rw[hl,Cg,length_append,List.length_singleton];omega
def PZ(N:Nat)(P:Pt):Prop:=PI N P/\∀b,b<P.sp.length->(P.s b).h=0
def lx(P:Pt):Pt:=⟨fE P.L 3 [],P.sp⟩
def iz(P:Pt)(l:List Nat):Pt:=l.foldl jr P
def jX(P:Pt)(l:List Nat):Pt:=l.foldl cW P
def nC(P:Pt)(l:List Nat):Pt:=jX (iz (lx P) l) ((iz (lx P) l).L 3)
theorem zeQ(P:Pt)(l:List Nat)(x:Nat):iz P (l++[x])=jr (iz P l) x:=by simp[iz,List.foldl_append]
theorem ZF(P:Pt)(l:List Nat)(x:Nat):jX P (l++[x])=cW (jX P l) x:=by simp[jX,List.foldl_append]
theorem VG{P:Pt}(h:PZ N P):PI N (lx P)/\wY (lx P) (fun _=>False):=by
 obtain⟨⟨a1,a2,a3,a4,a5,a6,a7,a8⟩,h0⟩:=h;refine⟨⟨a1,a2,a3,a4,a5,a6,a7,a8⟩,by show ([]:List Nat).Nodup;simp,fun b=>?_,fun b hb q h1 h2=>?_⟩
 ·show b∈([]:List Nat)↔_;refine⟨fun h=>by simp at h,fun h=>absurd (h0 b h.1) h.2⟩
 have:=h0 b hb;have e:((lx P).s b).h=(P.s b).h:=rfl;rw[e,this];exact⟨fun h=>by omega,fun h=>h.elim⟩
structure yo (N:Nat)(P P':Pt)(l:List Nat):Prop where
 pi:PI N P'
 hit:wY P' (fun x=>x∈l)
 b:∀x,P'.b x=P.b x
 len:P'.sp.length=P.sp.length
 w:∀b,(P'.s b).w=(P.s b).w
 o4:P'.L 4=P.L 4
theorem Sc{P:Pt}(h:PI N P)(h0:wY P (fun _=>False))(l:List Nat)(kG:l.Nodup)(hl:∀x∈l,x<N)(k:Nat)(hk:k<=l.length):yo N P (iz P (l.take k)) (l.take k):=by
 induction k with
 | zero=>exact⟨h,by simp only[List.take_zero,List.not_mem_nil];exact h0,fun _=>rfl,rfl,fun _=>rfl,rfl⟩
 | succ k ih=>
  obtain⟨a1,a2,a3,a4,a5,a6⟩:=ih (by omega);have hkl:k<l.length:=by omega
  have e:l.take (k+1)=l.take k++[l[k]]:=by rw[List.take_add_one,List.getElem?_eq_getElem hkl];rfl
  have hx:l[k]<N:=hl _ (List.getElem_mem hkl);have hn:l[k]∉l.take k:=fun hm=>by
   obtain⟨j,hj,e2⟩:=List.getElem_of_mem hm;rw[List.getElem_take] at e2;have hjk:j<k:=(by simp at hj;omega);have:=(List.getElem_inj (h₀:=by omega) (h₁:=hkl) kG).1 e2;omega
  obtain⟨c1,c2,c3⟩:=VW a1 a2 hx hn;rw[e,zeQ];refine⟨c2,?_,fun x=>by rw[Rh];exact a3 x,by rw[GZ];exact a4,fun b=>?_,by rw[zpa];exact a6⟩
  ·have e3:(fun y=>y∈l.take k\/y=l[k])=fun x=>x∈l.take k++[l[k]]:=(by funext y;rw[mem_append,mem_singleton]);rw[<-e3];exact c3
  rw[KD _ _ _ c1.1,<-a5 b];split
  ·rename_i e2;rw[e2]
  rfl
structure zr3 (N:Nat)(P P':Pt)(S:Nat->Prop)(R:List Nat):Prop where
 pi:PI N P'
 hit:zI P' S R
 o3:P'.L 3=P.L 3
 len:P.sp.length<=P'.sp.length
 d:qU N P P' S
theorem YB{P:Pt}{S:Nat->Prop}(h:PI N P)(l:List Nat)(h0:zI P S l)(kG:l.Nodup)(hl:∀b∈l,b<P.sp.length)(k:Nat)(hk:k<=l.length):zr3 N P (jX P (l.take k)) S (l.drop k):=by
 induction k with
 | zero=>exact⟨h,by rw[List.drop_zero];exact h0,rfl,le_refl _,qU.rfl⟩
 | succ k ih=>
  obtain⟨a1,a2,a3,a4,a5⟩:=ih (by omega);have hkl:k<l.length:=by omega
  have e:l.take (k+1)=l.take k++[l[k]]:=by rw[List.take_add_one,List.getElem?_eq_getElem hkl];rfl
  have e2:l.drop k=l[k] :: l.drop (k+1):=List.drop_eq_getElem_cons hkl;rw[e2] at a2;have To:(l[k] :: l.drop (k+1)).Nodup:=by rw[<-e2];exact kG.sublist (List.drop_sublist _ _)
  obtain⟨c1,c2,c3,c4,c5⟩:=zrm a1 a2 To (fun x hx=>Nat.lt_of_lt_of_le (hl x (List.mem_of_mem_drop hx)) a4) (Nat.lt_of_lt_of_le (hl _ (List.getElem_mem hkl)) a4);rw[e,ZF];exact⟨c1,c2,c3.trans a3,Nat.le_trans a4 c4,a5.trans c5⟩
theorem zgq{P:Pt}{S:Nat->Prop}(h:wY P S):zI P S (P.L 3):=fun b hb=>by
 refine⟨fun hm=>⟨((h.tc b).1 hm).2,h.hit b hb⟩,fun hm=>?_⟩
 have h0:(P.s b).h=0:=Classical.byContradiction fun hn=>hm ((h.tc b).2 ⟨hb,hn⟩)
 refine⟨h0,inr fun q h1 h2 hs=>?_⟩
 have:=(h.hit b hb q h1 h2).2 hs
 omega
structure TW (N:Nat)(P P':Pt)(S:Nat->Prop):Prop where
 pz:PZ N P'
 b:∀x y,x<N->y<N->(P'.b x=P'.b y↔P.b x=P.b y/\(S x↔S y))
 Jd:∀u v,u<N->v<N->zA P u v->zA P' u v
 mu:P'.mu N=P.mu N
theorem Kx{P:Pt}(h:PZ N P)(l:List Nat)(kG:l.Nodup)(hl:∀x∈l,x<N):TW N P (nC P l) (fun x=>x∈l):=by
 obtain⟨d1,d2⟩:=VG h;have hH:=Sc d1 d2 l kG hl l.length (le_refl _);rw[List.take_length] at hH;obtain⟨a1,a2,a3,a4,a5,a6⟩:=hH;have hC:=YB (S:=fun x=>x∈l) a1 ((iz (lx P) l).L 3) (zgq a2) a2.nd (fun b hb=>((a2.tc b).1 hb).1) _ (le_refl _);rw[List.take_length,List.drop_length] at hC;obtain⟨c1,c2,c3,c4,c5⟩:=hC;have e:nC P l=jX (iz (lx P) l) ((iz (lx P) l).L 3):=rfl;rw[<-e] at c1 c2 c3 c4 c5;have hc:∀u v,zA (iz (lx P) l) u v↔zA P u v:=fun u v=>by
  unfold zA;rw[a3,a3,a5,a5];rfl
 refine⟨⟨c1,fun b hb=>((c2 b hb).2 (by simp)).1⟩,fun x y hx hy=>⟨fun hb=>⟨?_,?_⟩,fun hb=>?_⟩,fun u v hu hv hcv=>c5.Jd u v hu hv ((hc u v).2 hcv),?_⟩
 ·have:=c5.i x y hx hy hb;rw[a3,a3] at this;exact this
 ·obtain⟨x1,x2,x3⟩:=c1.bk x hx;obtain⟨y1,y2,y3⟩:=c1.bk y hy;rw[<-hb] at y2 y3;have Ef:=(c1.po x hx).2;have F8:=(c1.po y hy).2;rcases ((c2 _ x1).2 (by simp)).2 with h3|h3
  ·have h4:=h3 _ x2 x3;have h5:=h3 _ y2 y3;rw[Ef] at h4;rw[F8] at h5;exact⟨fun _=>h5,fun _=>h4⟩
  have h4:=h3 _ x2 x3;have h5:=h3 _ y2 y3;rw[Ef] at h4;rw[F8] at h5;exact⟨fun h=>absurd h h4,fun h=>absurd h h5⟩
 ·refine c5.ii x y hx hy ?_ hb.2;rw[a3,a3];exact hb.1
 rw[c5.mu];unfold Pt.mu;rw[a4,a6];rfl
def fX(N:Nat):Pt:=⟨fun i=>if i=0 then range N else if i=1 then range N else if i=2 then replicate N 0 else [],[⟨0,N,0,false⟩]⟩
theorem GY(N x:Nat):(fX N).b x=0:=by
 show (replicate N 0).getD x 0=0;rw[getD_eq_getElem?_getD,List.getElem?_replicate];split <;> rfl
theorem znF(hN:0<N):PZ N (fX N):=by
 have hr:∀x,x<N->(range N).getD x 0=x:=fun x hx=>by simp[getD_eq_getElem?_getD,hx]
 have ho:∀q,q<N->(fX N).o q=q:=hr;have hp:∀q,q<N->(fX N).p q=q:=hr;have hs:(fX N).s 0=⟨0,N,0,false⟩:=rfl;have hl:(fX N).sp.length=1:=rfl;refine⟨⟨by show (range N).length=N;simp,by show (range N).length=N;simp,by show (replicate N 0).length=N;simp,fun x hx=>by rw[hp x hx,ho x hx];exact⟨hx,rfl⟩,fun x hx=>by rw[ho x hx,hp x hx];exact⟨hx,rfl⟩,fun x hx=>?_,fun b hb=>?_,?_⟩,fun b hb=>?_⟩
 ·rw[GY,hs,hl,hp x hx];exact⟨by omega,zero_le _,hx⟩
 ·rw[hl] at hb;obtain rfl:b=0:=by omega
  rw[hs];exact⟨hN,le_refl _,zero_le _,fun q _ _=>GY N _⟩
 ·show ([]:List Nat).Nodup/\∀b,b∈([]:List Nat)↔_;refine⟨by simp,fun b=>⟨fun h=>by simp at h,fun h=>?_⟩⟩;have hb:b<1:=h.1;obtain rfl:b=0:=by omega
  exact absurd h.2 (by rw[hs];simp)
 rw[hl] at hb;obtain rfl:b=0:=by omega
 rw[hs]
theorem znG(N:Nat)(hN:0<N):(fX N).mu N=N-1:=rfl
def Pt.last(P:Pt):Nat:=(P.L 4).getLastD 0
def fA(P:Pt):List Nat:=((P.L 0).drop (P.s P.last).f).take ((P.s P.last).g-(P.s P.last).f)
def ir(P:Pt):Pt:=⟨fE P.L 4 (P.L 4).dropLast,P.sp.set P.last ⟨(P.s P.last).f,(P.s P.last).g,(P.s P.last).h,false⟩⟩
def Hop(N C:Nat)(t:Nat->Nat->Nat)(P:Pt)(cd:Nat)(T:Nat->Prop):Prop:=
 ∀x y,x<N->y<N->P.b x=P.b y->∀c,c<C->zA P (t x c) (t y c)\/(cd<=c/\¬(T (t x c)↔T (t y c)))
structure iY (N C:Nat)(t:Nat->Nat->Nat)(m:Nat->Int)(P:Pt)(cd:Nat)(T:Nat->Prop):Prop where
 pz:PZ N P
 sat:∀x y,x<N->y<N->nI C t m x y->P.b x=P.b y
 DE:∀x y,x<N->y<N->nI C t m x y->(T x↔T y)
 kv:Hop N C t P cd T
theorem iY.start(hN:0<N):iY N C t m (fX N) C (fun _=>False):=
 ⟨znF hN,fun x y _ _ _=>by rw[GY,GY],fun _ _ _ _ _=>Iff.rfl,fun x y _ _ _ c _=>inl (inl (by rw[GY,GY]))⟩
theorem iY.zO{P:Pt}{T:Nat->Prop}(h:iY N C t m P cd T)(ht:∀x c,x<N->c<C->t x c<N)(l:List Nat)(kG:l.Nodup)(hl:∀x∈l,x<N)(hs:∀x y,x<N->y<N->nI C t m x y->(x∈l↔y∈l)):
  iY N C t m (nC P l) cd T:=by
 have hd:=Kx h.pz l kG hl;refine⟨hd.pz,fun x y hx hy he=>(hd.b x y hx hy).2 ⟨h.sat x y hx hy he,hs x y hx hy he⟩,h.DE,fun x y hx hy hb c hc=>?_⟩;rcases h.kv x y hx hy ((hd.b x y hx hy).1 hb).1 c hc with h1|h1
 ·exact inl (hd.Jd _ _ (ht x c hx hc) (ht y c hy hc) h1)
 exact inr h1
theorem iY.class{P:Pt}{T:Nat->Prop}(h:iY N C t m P cd T)(KJ:cd<C)(ht:∀x c,x<N->c<C->t x c<N)(l:List Nat)(kG:l.Nodup)(hl:∀x,x∈l↔x<N/\T (t x cd)):
  iY N C t m (nC P l) (cd+1) T:=by
 have hs:∀x y,x<N->y<N->nI C t m x y->(x∈l↔y∈l):=fun x y hx hy he=>by
  rw[hl,hl];have:=h.DE _ _ (ht x cd hx KJ) (ht y cd hy KJ) (he.step KJ);simp only[hx,hy,true_and,this]
 have hd:=Kx h.pz l kG (fun x hx=>((hl x).1 hx).1);have h1:=h.zO ht l kG (fun x hx=>((hl x).1 hx).1) hs;refine⟨h1.pz,h1.sat,h1.DE,fun x y hx hy hb c hc=>?_⟩;rcases h1.kv x y hx hy hb c hc with h2|h2
 ·exact inl h2
 by_cases e:c=cd
 ·subst e;have h3:=((hd.b x y hx hy).1 hb).2;rw[hl,hl] at h3;simp only[hx,hy,true_and] at h3;exact absurd h3 h2.2
 exact inr ⟨by omega,h2.2⟩
theorem iY.mu{P:Pt}(h:PZ N P)(l:List Nat)(kG:l.Nodup)(hl:∀x∈l,x<N):(nC P l).mu N=P.mu N:=(Kx h l kG hl).mu
theorem iY.take{P:Pt}{T:Nat->Prop}(h:iY N C t m P C T)(hne:P.L 4≠[])(ht:∀x c,x<N->c<C->t x c<N):
  P.last<P.sp.length/\(P.s P.last).f<(P.s P.last).g/\(P.s P.last).g<=N/\(fA P).Nodup/\(∀x,x∈fA P↔x<N/\P.b x=P.last)/\iY N C t m (ir P) 0 (fun z=>z∈fA P)/\(ir P).mu N+1=P.mu N/\∀x,(ir P).b x=P.b x:=by
 obtain⟨hP,h0⟩:=h.pz;have sj:P.L 4=(P.L 4).dropLast++[P.last]:=by
  unfold Pt.last;rcases List.eq_nil_or_concat (P.L 4) with e|⟨l,a,e⟩
  ·exact absurd e hne
  rw[e];simp
 have hm:P.last∈P.L 4:=by rw[sj];simp
 obtain⟨hl,hw⟩:=(hP.uJ.2 _).1 hm;obtain⟨s1,s2,s3,s4⟩:=hP.sp _ hl;have kj:∀x,x∈fA P↔x<N/\P.b x=P.last:=fun x=>by
  unfold fA;rw[List.mem_iff_getElem?];constructor
  ·rintro⟨j,hj⟩;have iu:j<(P.s P.last).g-(P.s P.last).f:=by
    have:=(List.getElem?_eq_some_iff.1 hj).1;simp at this;omega
   rw[List.getElem?_take_of_lt iu,getElem?_drop] at hj;have e:P.o ((P.s P.last).f+j)=x:=(by unfold Pt.o;rw[getD_eq_getElem?_getD,hj];rfl);rw[<-e];exact⟨(hP.op _ (by omega)).1,s4 _ (by omega) (by omega)⟩
  rintro⟨hx,hb⟩;obtain⟨x1,x2,x3⟩:=hP.bk x hx;rw[hb] at x2 x3;refine⟨P.p x-(P.s P.last).f,?_⟩;rw[List.getElem?_take_of_lt (by omega),getElem?_drop,show (P.s P.last).f+(P.p x-(P.s P.last).f)=P.p x by omega];have h3:=hP.po x hx;have h4:P.p x<(P.L 0).length:=by rw[hP.l0];exact h3.1
  rw[List.getElem?_eq_getElem h4,<-pZ _ _ 0 h4];exact congrArg some h3.2
 have QD:(P.L 0).Nodup:=by
  refine List.pairwise_iff_getElem.2 fun i j hi hj2 hij=>?_
  rw[<-pZ _ _ 0 hi,<-pZ _ _ 0 hj2];intro e;have e2:P.o i=P.o j:=e;rw[hP.l0] at hi hj2;have e3:=(hP.op i (by omega)).2;have e4:=(hP.op j (by omega)).2;rw[e2] at e3;omega
 have kG:(fA P).Nodup:=(QD.sublist (List.drop_sublist _ _)).sublist (List.take_sublist _ _);have hb:∀x,(ir P).b x=P.b x:=fun x=>rfl
 have hs:∀j,(ir P).s j=if j=P.last then ⟨(P.s P.last).f,(P.s P.last).g,(P.s P.last).h,false⟩ else P.s j:=fun j=>by
  show (P.sp.set _ _).getD j mX=_;rw[yY];by_cases e2:j=P.last
  ·rw[if_pos ⟨e2.symm,hl⟩,if_pos e2]
  rw[if_neg (fun h=>e2 h.1.symm),if_neg e2];rfl
 have kK:∀j,((ir P).s j).f=(P.s j).f/\((ir P).s j).g=(P.s j).g/\((ir P).s j).h=(P.s j).h:=fun j=>by
  rw[hs j];split
  ·rename_i e2;rw[e2];exact⟨rfl,rfl,rfl⟩
  exact⟨rfl,rfl,rfl⟩
 have hlen:(ir P).sp.length=P.sp.length:=by simp[ir]
 refine⟨hl,s1,s2,kG,kj,⟨⟨⟨hP.l0,hP.l1,hP.l2,hP.po,hP.op,fun x hx=>?_,fun b cH=>?_,?_⟩,fun b cH=>?_⟩,h.sat,fun x y hx hy he=>?_,fun x y hx hy hxy c hc=>?_⟩,?_,hb⟩
 ·rw[hb,hlen,(kK _).1,(kK _).2.1];exact hP.bk x hx
 ·rw[hlen] at cH;rw[(kK _).1,(kK _).2.1,(kK _).2.2];exact hP.sp b cH
 ·show (P.L 4).dropLast.Nodup/\∀b,b∈(P.L 4).dropLast↔_;have FF:=hP.uJ.1;rw[sj,nodup_append] at FF;refine⟨FF.1,fun b=>?_⟩;rw[hlen,hs b];have:=hP.uJ.2 b;rw[sj,mem_append,mem_singleton] at this;by_cases e:b=P.last
  ·rw[if_pos e];refine⟨fun mC=>absurd rfl (FF.2.2 b mC b (by rw[e];simp)),fun h3=>?_⟩;exact absurd h3.2 (by simp)
  rw[if_neg e,<-this];exact⟨inl,fun h3=>by rcases h3 with h3|h3;exact h3;exact absurd h3 e⟩
 ·rw[hlen] at cH;rw[(kK _).2.2];exact h0 b cH
 ·rw[kj,kj];simp only[hx,hy,true_and];rw[h.sat x y hx hy he]
 ·have ie:=h.kv x y hx hy hxy c hc;have lZ:=ht x c hx hc;have qw:=ht y c hy hc;rcases ie with h3|h3
  ·by_cases e1:P.b (t x c)=P.b (t y c)
   ·exact inl (inl e1)
   by_cases e2:P.b (t x c)=P.last
   ·refine inr ⟨zero_le _,fun h4=>?_⟩;rw[kj,kj] at h4;exact e1 (by rw[e2,(h4.1 ⟨lZ,e2⟩).2])
   by_cases e3:P.b (t y c)=P.last
   ·refine inr ⟨zero_le _,fun h4=>?_⟩;rw[kj,kj] at h4;exact e1 (by rw[e3,(h4.2 ⟨qw,e3⟩).2])
   left;unfold zA at h3⊢;rw[hb,hb,hs,hs,if_neg e2,if_neg e3];exact h3
  omega
 unfold Pt.mu;rw[hlen];show _+((P.L 4).dropLast).length+1=_;rw[List.length_dropLast];have:0<(P.L 4).length:=List.length_pos_iff.2 hne;omega
theorem iY.done{P:Pt}{T:Nat->Prop}(h:iY N C t m P C T)(he:P.L 4=[])(ht:∀x c,x<N->c<C->t x c<N)(hm:∀x y,x<N->y<N->P.b x=P.b y->m x=m y):
  ∀x y,x<N->y<N->(P.b x=P.b y↔nI C t m x y):=by
 intro x y hx hy;refine⟨fun hb=>?_,h.sat x y hx hy⟩;refine nI.lA (fun x y=>x<N/\y<N/\P.b x=P.b y) (fun x y ⟨h1,h2,h3⟩=>⟨hm x y h1 h2 h3,fun c hc=>⟨ht x c h1 hc,ht y c h2 hc,?_⟩⟩) ⟨hx,hy,hb⟩;have hw:∀z,z<N->(P.s (P.b z)).w=false:=fun z hz=>by
  have:=(h.pz.1.uJ.2 (P.b z))
  rw[he] at this;cases T5:(P.s (P.b z)).w
  ·rfl
  exact absurd (this.2 ⟨(h.pz.1.bk z hz).1,T5⟩) (by simp)
 rcases h.kv x y h1 h2 h3 c hc with h4|h4
 ·rcases h4 with h4|h4|h4
  ·exact h4
  ·rw[hw _ (ht x c h1 hc)] at h4;cases h4
  rw[hw _ (ht y c h2 hc)] at h4;cases h4
 omega
def mY(x:Int):Nat:=(x % 65536).toNat
theorem M3(x:Int):mY x<65536:=by unfold mY;omega
theorem zp5{x y:Int}(hx:-1<=x/\x<32768)(hy:-1<=y/\y<32768)(h:mY x=mY y):x=y:=by unfold mY at h;omega
def jw(z:Nat->Int):Nat->List Nat
 | 0=>[]
 | i+1=>jw z i++[mY (z i) % 256,mY (z i) / 256]
theorem Oh(z:Nat->Int)(n:Nat):(jw z n).length=2*n:=by
 induction n with
 | zero=>rfl
 | succ n ih=>rw[jw,length_append,ih];simp;omega
theorem XO(z:Nat->Int)(n:Nat):∀b∈jw z n,b<256:=by
 induction n with
 | zero=>intro b h;cases h
 | succ n ih=>
  intro b h;rw[jw] at h;have:=M3 (z n);rcases List.mem_append.1 h with h|h
  ·exact ih b h
  simp at h;omega
theorem znH{z z':Nat->Int}(hz:∀i,i<n->-1<=z i/\z i<32768)(VD:∀i,i<n->-1<=z' i/\z' i<32768):jw z n=jw z' n↔∀i,i<n->z i=z' i:=by
 induction n with
 | zero=>exact⟨fun _ i h=>absurd h (by omega),fun _=>rfl⟩
 | succ n ih=>
  have ih:=ih (fun i h=>hz i (by omega)) (fun i h=>VD i (by omega));constructor
  ·intro h i hi;rw[jw,jw] at h;have h1:=List.append_inj h (by rw[Oh,Oh]);by_cases e:i=n
   ·subst e;have h2:=h1.2;simp at h2;refine zp5 (hz i hi) (VD i hi) ?_;have:=M3 (z i);have:=M3 (z' i);omega
   exact ih.1 h1.1 i (by omega)
  intro h;rw[jw,jw,ih.2 (fun i hi=>h i (by omega)),h n (by omega)]
