import Derived.Test.YtiijebameffenaaGreatZTKeep
set_option linter.all false
set_option maxRecDepth 10000
namespace Go.Proofs.YtiijebameffenaaGreat
open Nat (le_refl zero_le)
open List (getD_eq_getElem?_getD getElem?_drop length_append length_set mem_append mem_singleton nodup_append range replicate)
open Or (inl inr)
variable {B C N cd i j n:Nat}{f:Nat->Nat}{m:Nat->Int}{t:Nat->Nat->Nat}
def Mo(C:Nat)(t:Nat->Nat->Nat)(m:Nat->Int):Nat->Nat->Nat->Prop
 | 0,i,j=>m i=m j
 | k+1,i,j=>Mo C t m k i j/\∀c,c<C->Mo C t m k (t i c) (t j c)
section
variable {C : Nat}{t : Nat → Nat → Nat}{m : Nat → Int}
def la(C:Nat)(t:Nat->Nat->Nat)(m:Nat->Int)(i j:Nat):Prop:=∀k,Mo C t m k i j
theorem la.mark(h:la C t m i j):m i=m j:=h 0
theorem la.step{i j c:Nat}(h:la C t m i j)(hc:c<C):la C t m (t i c) (t j c):=fun k=>(h (k+1)).2 c hc
theorem la.jP(R:Nat->Nat->Prop)(hR:∀i j,R i j->m i=m j/\∀c,c<C->R (t i c) (t j c))(h:R i j):la C t m i j:=by
 intro k
 induction k generalizing i j with
 | zero=>exact (hR i j h).1
 | succ k ih=>exact⟨ih h,fun c hc=>ih ((hR i j h).2 c hc)⟩
end
structure fa (R:Nat->Nat->Prop)(n:Nat)(f:Nat->Nat)(B:Nat):Prop where
 same:∀i j,i<n->j<n->(f i=f j↔R i j)
 lt:∀i,i<n->f i<B
 new:∀b,b<B->∃i,i<n/\f i=b/\∀j,j<i->f j<b
theorem fa.zero(R:Nat->Nat->Prop):fa R 0 (fun _=>0) 0:=⟨fun i j hi=>absurd hi (by omega),fun i hi=>absurd hi (by omega),fun b hb=>absurd hb (by omega)⟩
theorem fa.congr{R:Nat->Nat->Prop}{g:Nat->Nat}(h:fa R n f B)(e:∀i,i<n->f i=g i):fa R n g B:=
 ⟨fun i j hi hj=>by rw[<-e i hi,<-e j hj];exact h.same i j hi hj,fun i hi=>by rw[<-e i hi];exact h.lt i hi,fun b hb=>by
  obtain⟨i,h1,h2,h3⟩:=h.new b hb
  exact⟨i,h1,by rw[<-e i h1];exact h2,fun j hj=>by rw[<-e j (by omega)];exact h3 j hj⟩⟩
theorem fa.old{R:Nat->Nat->Prop}{k:Nat}(h:fa R n f B)(hs:∀i j,R i j->R j i)(hT:∀i j l,R i j->R j l->R i l)(hr:∀i,R i i)(hk:k<n)(hR:R k n):fa R (n+1) (fun i=>if i=n then f k else f i) B:=by
 refine⟨fun i j hi hj=>?_,fun i hi=>?_,fun b hb=>?_⟩
 ·by_cases a:i=n
  ·by_cases b:j=n
   ·rw[a,b];simp[hr n]
   rw[a,if_pos rfl,if_neg b,h.same k j hk (by omega)];exact⟨fun x=>hT _ _ _ (hs _ _ hR) x,fun x=>hT _ _ _ hR x⟩
  by_cases b:j=n
  ·rw[b,if_pos rfl,if_neg a,h.same i k (by omega) hk];exact⟨fun x=>hT _ _ _ x hR,fun x=>hT _ _ _ x (hs _ _ hR)⟩
  rw[if_neg a,if_neg b];exact h.same i j (by omega) (by omega)
 ·by_cases a:i=n
  ·simp only[if_pos a];exact h.lt k hk
  simp only[if_neg a];exact h.lt i (by omega)
 obtain⟨i,h1,h2,h3⟩:=h.new b hb;exact⟨i,by omega,by rw[if_neg (by omega)];exact h2,fun j hj=>by rw[if_neg (by omega)];exact h3 j hj⟩
theorem fa.fresh{R:Nat->Nat->Prop}(h:fa R n f B)(hs:∀i j,R i j->R j i)(hr:∀i,R i i)(hR:∀k,k<n->¬R k n):fa R (n+1) (fun i=>if i=n then B else f i) (B+1):=by
 refine⟨fun i j hi hj=>?_,fun i hi=>?_,fun b hb=>?_⟩
 ·by_cases a:i=n
  ·by_cases b:j=n
   ·rw[a,b];simp[hr n]
   rw[a,if_pos rfl,if_neg b];have:=h.lt j (by omega);exact⟨fun e=>by omega,fun x=>absurd (hs _ _ x) (hR j (by omega))⟩
  by_cases b:j=n
  ·rw[b,if_pos rfl,if_neg a];have:=h.lt i (by omega);exact⟨fun e=>by omega,fun x=>absurd x (hR i (by omega))⟩
  rw[if_neg a,if_neg b];exact h.same i j (by omega) (by omega)
 ·by_cases a:i=n
  ·simp only[if_pos a];omega
  simp only[if_neg a];have:=h.lt i (by omega);omega
 by_cases e:b=B
 ·subst e;exact⟨n,by omega,by rw[if_pos rfl],fun j hj=>by rw[if_neg (by omega)];exact h.lt j hj⟩
 obtain⟨i,h1,h2,h3⟩:=h.new b (by omega);exact⟨i,by omega,by rw[if_neg (by omega)];exact h2,fun j hj=>by rw[if_neg (by omega)];exact h3 j hj⟩
theorem fa.le{R:Nat->Nat->Prop}(h:fa R n f B):∀i,i<n->f i<=i:=by
 intro i
 induction i using Nat.strongRecOn with
 | _ i ih=>
  intro hi;refine Nat.le_of_not_lt fun aw=>?_
  have key:∀b,b<f i->∃j,j<i/\f j=b:=by
   intro b hb;obtain⟨j,h1,h2,h3⟩:=h.new b (by have:=h.lt i hi;omega);refine⟨j,?_,h2⟩;refine(Nat.lt_of_not_le fun hij=>?_);by_cases e:i=j
   ·subst e;omega
   have:=h3 i (by omega);omega
  obtain⟨j,hj,e⟩:=key i aw;have:=ih j hj (by omega);omega
theorem fa.iff{R R':Nat->Nat->Prop}(h:fa R n f B)(e:∀i j,i<n->j<n->(R i j↔R' i j)):fa R' n f B:=
 ⟨fun i j hi hj=>(h.same i j hi hj).trans (e i j hi hj),h.lt,h.new⟩
def bp(f:Nat->Nat):Nat->List Nat
 | 0=>[]
 | i+1=>if f i<(bp f i).length then bp f i else bp f i++[i]
theorem DS(h:f i<(bp f i).length):bp f (i+1)=bp f i:=by
 show (if f i<(bp f i).length then bp f i else bp f i++[i])=_;rw[if_pos h]
theorem Cn(h:¬f i<(bp f i).length):bp f (i+1)=bp f i++[i]:=by
 show (if f i<(bp f i).length then bp f i else bp f i++[i])=_;rw[if_neg h]
theorem WX(f:Nat->Nat):∀i,(bp f i).length<=i:=by
 intro i
 induction i with
 | zero=>exact le_refl _
 | succ i ih=>
  by_cases h:f i<(bp f i).length
  ·rw[DS h];omega
  rw[Cn h];simp;omega
theorem Kx(f:Nat->Nat):∀i x,x∈bp f i->x<i:=by
 intro i
 induction i with
 | zero=>intro x h;cases h
 | succ i ih=>
  intro x h;by_cases h1:f i<(bp f i).length
  ·rw[DS h1] at h;have:=ih x h;omega
  rw[Cn h1] at h;rcases List.mem_append.1 h with h|h
  ·have:=ih x h;omega
  rw[List.mem_singleton.1 h];omega
section
variable {R : Nat → Nat → Prop}{n B : Nat}{f : Nat → Nat}
theorem fa.bp(h:fa R n f B):∀i,i<=n->(∀j,j<i->f j<(bp f i).length)/\(∀b,b<(bp f i).length->∃x,(bp f i)[b]?=some x/\f x=b/\∀j,j<x->f j<b)/\(i<n->f i<=(bp f i).length):=by
 have step:∀i,i<n->(∀j,j<i->f j<(Go.Proofs.YtiijebameffenaaGreat.bp f i).length)->f i<=(Go.Proofs.YtiijebameffenaaGreat.bp f i).length:=by
  intro i hi aw;by_cases h0:f i=0
  ·omega
  obtain⟨x,h1,h2,h3⟩:=h.new (f i-1) (by have:=h.lt i hi;omega);have hx:x<i:=by
   refine(Classical.byContradiction fun e=>?_);by_cases e2:x=i
   ·subst e2;omega
   have:=h3 i (by omega);omega
  have:=aw x hx;omega
 intro i
 induction i with
 | zero=>
  intro _;refine⟨fun j hj=>absurd hj (by omega),fun b hb=>absurd hb (by simp[Go.Proofs.YtiijebameffenaaGreat.bp]),fun h0=>step 0 h0 (fun j hj=>absurd hj (by omega))⟩
 | succ i ih=>
  intro hi;obtain⟨a1,a2,a3⟩:=ih (by omega);have a3:=a3 (by omega);by_cases h1:f i<(Go.Proofs.YtiijebameffenaaGreat.bp f i).length
  ·rw[DS h1];have hl:∀j,j<i+1->f j<(Go.Proofs.YtiijebameffenaaGreat.bp f i).length:=fun j hj=>by
    by_cases e:j=i
    ·subst e;exact h1
    exact a1 j (by omega)
   refine⟨hl,a2,fun h2=>?_⟩;have:=step (i+1) h2 (by rw[DS h1];exact hl);rwa [DS h1] at this
  have e1:f i=(Go.Proofs.YtiijebameffenaaGreat.bp f i).length:=by omega
  rw[Cn h1];have hl:∀j,j<i+1->f j<(Go.Proofs.YtiijebameffenaaGreat.bp f i++[i]).length:=fun j hj=>by
   rw[length_append];by_cases e:j=i
   ·subst e;simp;omega
   have:=a1 j (by omega);simp;omega
  refine⟨hl,fun b hb=>?_,fun h2=>?_⟩
  ·by_cases e:b<(Go.Proofs.YtiijebameffenaaGreat.bp f i).length
   ·obtain⟨x,x1,x2,x3⟩:=a2 b e;exact⟨x,by rw[List.getElem?_append_left e];exact x1,x2,x3⟩
   have e2:b=(Go.Proofs.YtiijebameffenaaGreat.bp f i).length:=by
    rw[length_append] at hb;simp at hb;omega
   refine⟨i,by rw[e2];simp,by omega,fun j hj=>?_⟩;have:=a1 j hj;omega
  have:=step (i+1) h2 (by rw[Cn h1];exact hl);rwa [Cn h1] at this
theorem fa.gv(h:fa R n f B):(Go.Proofs.YtiijebameffenaaGreat.bp f n).length=B:=by
 obtain⟨a1,a2,_⟩:=h.bp n (le_refl _);have h1:(Go.Proofs.YtiijebameffenaaGreat.bp f n).length<=B:=by
  refine Classical.byContradiction fun e=>?_
  obtain⟨x,x1,x2,_⟩:=a2 B (by omega);have h2:=Kx f n x (List.mem_of_getElem? x1);have:=h.lt x h2;omega
 have h2:B<=(Go.Proofs.YtiijebameffenaaGreat.bp f n).length:=by
  refine Classical.byContradiction fun e=>?_
  obtain⟨x,x1,x2,_⟩:=h.new ((Go.Proofs.YtiijebameffenaaGreat.bp f n).length) (by omega);have:=a1 x x1;omega
 omega
end
theorem wP{α:Type}(l:List α)(i j:Nat)(v d:α):(l.set i v).getD j d=if i=j/\i<l.length then v else l.getD j d:=by
 rw[getD_eq_getElem?_getD,List.getElem?_set,getD_eq_getElem?_getD];by_cases e:i=j
 ·subst e;by_cases h:i<l.length
  ·simp[h]
  simp[h]
 simp[e]
theorem zig{α:Type}(l:List α)(j:Nat)(a d:α):(l++[a]).getD j d=if j=l.length then a else l.getD j d:=by
 rw[getD_eq_getElem?_getD,getD_eq_getElem?_getD,List.getElem?_append];by_cases h:j<l.length
 ·rw[if_pos h,if_neg (by omega)]
 rw[if_neg h];by_cases e:j=l.length
 ·rw[if_pos e,e];simp
 have h1:l[j]?=none:=List.getElem?_eq_none (by omega);have h2:[a][j-l.length]?=none:=List.getElem?_eq_none (by simp;omega);rw[if_neg e,h1,h2]
theorem oG{α:Type}(l:List α)(j:Nat)(d:α)(h:j<l.length):l.getD j d=l[j]:=by simp[getD_eq_getElem?_getD,h]
structure nM where
 f:Nat
 g:Nat
 h:Nat
 w:Bool
def lF:nM:=⟨0,0,0,false⟩
structure Pt where
 L:Nat->List Nat
 sp:List nM
def eu(L:Nat->List Nat)(i:Nat)(x:List Nat):Nat->List Nat:=fun j=>if j=i then x else L j
def Pt.s(P:Pt)(b:Nat):nM:=P.sp.getD b lF
def Pt.o(P:Pt)(q:Nat):Nat:=(P.L 0).getD q 0
def Pt.p(P:Pt)(x:Nat):Nat:=(P.L 1).getD x 0
def Pt.b(P:Pt)(x:Nat):Nat:=(P.L 2).getD x 0
def dv(P:Pt)(x:Nat):Nat->List Nat:=if (P.s (P.b x)).h=0 then eu P.L 3 (P.L 3++[P.b x]) else P.L
def Pt.to(P:Pt)(x:Nat):Nat:=(P.s (P.b x)).f+(P.s (P.b x)).h
def iv(P:Pt)(x:Nat):Pt:=
 ⟨eu (eu (dv P x) 0 (((P.L 0).set (P.to x) x).set (P.p x) (P.o (P.to x)))) 1 (((P.L 1).set x (P.to x)).set (P.o (P.to x)) (P.p x)),
  P.sp.set (P.b x) ⟨(P.s (P.b x)).f,(P.s (P.b x)).g,(P.s (P.b x)).h+1,(P.s (P.b x)).w⟩⟩
structure PI (N:Nat)(P:Pt):Prop where
 l0:(P.L 0).length=N
 l1:(P.L 1).length=N
 l2:(P.L 2).length=N
 po:∀x,x<N->P.p x<N/\P.o (P.p x)=x
 op:∀q,q<N->P.o q<N/\P.p (P.o q)=q
 bk:∀x,x<N->P.b x<P.sp.length/\(P.s (P.b x)).f<=P.p x/\P.p x<(P.s (P.b x)).g
 sp:∀b,b<P.sp.length->(P.s b).f<(P.s b).g/\(P.s b).g<=N/\(P.s b).f+(P.s b).h<=(P.s b).g/\∀q,(P.s b).f<=q->q<(P.s b).g->P.b (P.o q)=b
 tb:(P.L 4).Nodup/\∀b,b∈P.L 4↔b<P.sp.length/\(P.s b).w=true
structure uk (P:Pt)(S:Nat->Prop):Prop where
 nd:(P.L 3).Nodup
 tc:∀b,b∈P.L 3↔b<P.sp.length/\(P.s b).h≠0
 hit:∀b,b<P.sp.length->∀q,(P.s b).f<=q->q<(P.s b).g->(q<(P.s b).f+(P.s b).h↔S (P.o q))
theorem Tq(P:Pt)(x:Nat):(iv P x).L 4=P.L 4:=by
 show dv P x 4=_;unfold dv;split <;> rfl
theorem SX(P:Pt)(x:Nat):(iv P x).L 2=P.L 2:=by
 show dv P x 2=_;unfold dv;split <;> rfl
theorem TF(P:Pt)(x:Nat):(iv P x).L 3=if (P.s (P.b x)).h=0 then P.L 3++[P.b x] else P.L 3:=by
 show dv P x 3=_;unfold dv;split <;> rfl
theorem M6(P:Pt)(x y:Nat):(iv P x).b y=P.b y:=by
 unfold Pt.b;rw[SX]
theorem EP(P:Pt)(x:Nat):(iv P x).sp.length=P.sp.length:=by simp[iv]
theorem Ie(P:Pt)(x b:Nat)(hb:P.b x<P.sp.length):(iv P x).s b=if b=P.b x then ⟨(P.s (P.b x)).f,(P.s (P.b x)).g,(P.s (P.b x)).h+1,(P.s (P.b x)).w⟩ else P.s b:=by
 show (P.sp.set _ _).getD b lF=_;rw[wP];by_cases e:b=P.b x
 ·rw[if_pos ⟨e.symm,hb⟩,if_pos e]
 rw[if_neg (fun h=>e h.1.symm),if_neg e];rfl
theorem TI{P:Pt}{S:Nat->Prop}(h:PI N P)(hA:uk P S){x:Nat}(hx:x<N)(hS:¬S x):
  (P.b x<P.sp.length/\P.to x<N/\P.p x<N/\P.o (P.to x)<N)/\PI N (iv P x)/\uk (iv P x) (fun y=>S y\/y=x):=by
 obtain⟨hb,hf,hg⟩:=h.bk x hx;obtain⟨s1,s2,s3,s4⟩:=h.sp _ hb;obtain⟨hp,jG⟩:=h.po x hx;have xO:P.to x<=P.p x:=by
  have:=(hA.hit _ hb _ hf hg)
  rw[jG] at this;unfold Pt.to;exact Nat.le_of_not_lt fun h=>hS (this.1 h)
 have DW:P.to x<N:=by omega
 obtain⟨ho,Ou⟩:=h.op _ DW;have j8:∀b,((iv P x).s b).f=(P.s b).f/\((iv P x).s b).g=(P.s b).g/\((iv P x).s b).w=(P.s b).w:=fun b=>by
  rw[Ie P x b hb];split
  ·rename_i e;rw[e];exact⟨rfl,rfl,rfl⟩
  exact⟨rfl,rfl,rfl⟩
 have E6:∀q,(iv P x).o q=if P.p x=q then P.o (P.to x) else if P.to x=q then x else P.o q:=fun q=>by
  show (((P.L 0).set (P.to x) x).set (P.p x) (P.o (P.to x))).getD q 0=_;rw[wP,wP];simp only[length_set,h.l0,hp,DW,and_true];rfl
 have rE:∀y,(iv P x).p y=if P.o (P.to x)=y then P.p x else if x=y then P.to x else P.p y:=fun y=>by
  show (((P.L 1).set x (P.to x)).set (P.o (P.to x)) (P.p x)).getD y 0=_;rw[wP,wP];simp only[length_set,h.l1,hx,ho,and_true];rfl
 have Ak:(P.s (P.b x)).f<=P.to x:=by unfold Pt.to;omega
 have vG:P.b (P.o (P.to x))=P.b x:=s4 _ Ak (by omega);refine⟨⟨hb,DW,hp,ho⟩,⟨?_,?_,?_,?_,?_,?_,?_,?_⟩,?_,?_,?_⟩
 ·show (((P.L 0).set (P.to x) x).set (P.p x) (P.o (P.to x))).length=N;simp[h.l0]
 ·show (((P.L 1).set x (P.to x)).set (P.o (P.to x)) (P.p x)).length=N;simp[h.l1]
 ·rw[SX];exact h.l2
 ·intro y hy;rw[rE];obtain⟨y1,y2⟩:=h.po y hy;by_cases e1:P.o (P.to x)=y
  ·rw[if_pos e1,E6,if_pos rfl];exact⟨hp,e1⟩
  rw[if_neg e1];by_cases e2:x=y
  ·subst e2;rw[if_pos rfl,E6];by_cases e3:P.p x=P.to x
   ·exact absurd (by rw[<-e3];exact jG) e1
   rw[if_neg e3,if_pos rfl];exact⟨DW,rfl⟩
  rw[if_neg e2,E6,if_neg (fun e=>e2 (by rw[<-jG,e,y2])),if_neg (fun e=>e1 (by rw[e,y2]))];exact⟨y1,y2⟩
 ·intro q hq;obtain⟨y1,y2⟩:=h.op q hq;rw[E6];by_cases e1:P.p x=q
  ·rw[if_pos e1,rE,if_pos rfl];exact⟨ho,e1⟩
  rw[if_neg e1];by_cases e2:P.to x=q
  ·rw[if_pos e2,rE];by_cases e3:P.o (P.to x)=x
   ·exact absurd (by rw[<-e3,Ou];exact e2) e1
   rw[if_neg e3,if_pos rfl];exact⟨hx,e2⟩
  rw[if_neg e2,rE,if_neg (fun e=>e2 (by rw[<-Ou,e,y2])),if_neg (fun e=>e1 (by rw[e,y2]))];exact⟨y1,y2⟩
 ·intro y hy;rw[M6,EP,(j8 _).1,(j8 _).2.1,rE];obtain⟨z1,z2,z3⟩:=h.bk y hy;refine⟨z1,?_⟩;by_cases e1:P.o (P.to x)=y
  ·rw[if_pos e1,<-e1,vG];exact⟨hf,hg⟩
  rw[if_neg e1];by_cases e2:x=y
  ·subst e2;rw[if_pos rfl];exact⟨Ak,by omega⟩
  rw[if_neg e2];exact⟨z2,z3⟩
 ·intro b ey;rw[EP] at ey;obtain⟨z1,z2,z3,z4⟩:=h.sp b ey;rw[(j8 _).1,(j8 _).2.1];refine⟨z1,z2,?_,fun q np hq2=>?_⟩
  ·rw[Ie P x b hb];split
   ·rename_i e;subst e;show (P.s (P.b x)).f+((P.s (P.b x)).h+1)<=_;unfold Pt.to at xO;omega
   exact z3
  rw[M6,E6];have:=z4 q np hq2;by_cases e1:P.p x=q
  ·rw[if_pos e1,vG,<-this,<-e1,jG]
  rw[if_neg e1];by_cases e2:P.to x=q
  ·rw[if_pos e2,<-this,<-e2,vG]
  rw[if_neg e2];exact this
 ·rw[Tq];refine⟨h.tb.1,fun b=>?_⟩;rw[EP,(j8 b).2.2];exact h.tb.2 b
 ·rw[TF];split
  ·rename_i e;rw[nodup_append];refine⟨hA.nd,by simp,fun a ha c hc e2=>?_⟩;rw[List.mem_singleton.1 hc] at e2;rw[e2] at ha;exact ((hA.tc _).1 ha).2 e
  exact hA.nd
 ·intro b;rw[EP,Ie P x b hb,TF];have:=hA.tc b;by_cases e:b=P.b x
  ·rw[if_pos e];refine⟨fun _=>⟨by omega,by simp⟩,fun _=>?_⟩;split
   ·rw[e];simp
   rename_i e2;rw[e];exact (hA.tc _).2 ⟨hb,e2⟩
  rw[if_neg e,<-this];split
  ·simp[e]
  rfl
 intro b ey q np hq2;rw[EP] at ey;rw[(j8 _).1] at np⊢;rw[(j8 _).2.1] at hq2;have z4:=(h.sp b ey).2.2.2 q np hq2;have zh:=hA.hit b ey q np hq2;have uX:=(h.op q (by have:=(h.sp b ey).2.1;omega)).2;rw[Ie P x b hb,E6];by_cases e:b=P.b x
 ·subst e;rw[if_pos rfl];show q<_+((P.s (P.b x)).h+1)↔_;have et:P.to x=(P.s (P.b x)).f+(P.s (P.b x)).h:=rfl;by_cases e1:P.p x=q
  ·rw[if_pos e1];by_cases e3:P.to x=q
   ·rw[e3,<-e1,jG];exact⟨fun _=>inr rfl,fun _=>by omega⟩
   refine⟨fun h=>by omega,fun h=>?_⟩;rcases h with h|h
   ·have:=(hA.hit _ hb _ Ak (by omega)).2 h;omega
   rw[h] at Ou;omega
  rw[if_neg e1];by_cases e2:P.to x=q
  ·rw[if_pos e2];exact⟨fun _=>inr rfl,fun _=>by omega⟩
  rw[if_neg e2];refine⟨fun h=>inl (zh.1 (by omega)),fun h=>?_⟩;rcases h with h3|h3
  ·have:=zh.2 h3;omega
  exact absurd (by rw[<-h3];exact uX) e1
 rw[if_neg e];have n1:P.p x≠q:=fun e1=>e (by rw[<-z4,<-e1,jG])
 have n2:P.to x≠q:=fun e2=>e (by rw[<-z4,<-e2,vG])
 rw[if_neg n1,if_neg n2,zh];refine⟨inl,fun h=>?_⟩;rcases h with h|h
 ·exact h
 exact absurd (by rw[h] at z4;exact z4.symm) e
def bz(l xs:List Nat)(v:Nat):List Nat:=xs.foldl (fun a x=>a.set x v) l
theorem Yi(v:Nat)(xs:List Nat):∀l,(bz l xs v).length=l.length:=by
 induction xs with
 | nil=>exact fun l=>rfl
 | cons x xs ih=>
  intro l;show (bz (l.set x v) xs v).length=_;rw[ih];simp
theorem zih(v y:Nat)(xs:List Nat):∀l,(bz l xs v).getD y 0=if y∈xs/\y<l.length then v else l.getD y 0:=by
 induction xs with
 | nil=>exact fun l=>by simp[bz]
 | cons x xs ih=>
  intro l;show (bz (l.set x v) xs v).getD y 0=_;rw[ih,wP,length_set];by_cases h1:y∈xs
  ·by_cases h2:y<l.length
   ·rw[if_pos ⟨h1,h2⟩,if_pos ⟨List.mem_cons_of_mem _ h1,h2⟩]
   rw[if_neg (fun h=>h2 h.2),if_neg (fun h=>h2 (by rw[<-h.1];exact h.2)),if_neg (fun h=>h2 h.2)]
  rw[if_neg (fun h=>h1 h.1)];by_cases h3:x=y
  ·subst h3;by_cases h2:x<l.length
   ·rw[if_pos ⟨rfl,h2⟩,if_pos ⟨List.mem_cons_self,h2⟩]
   rw[if_neg (fun h=>h2 h.2),if_neg (fun h=>h2 h.2)]
  rw[if_neg (fun h=>h3 h.1),if_neg (fun h=>?_)];rcases List.mem_cons.1 h.1 with h4|h4
  ·exact h3 h4.symm
  exact h1 h4
def Pt.part(P:Pt)(b:Nat):List Nat:=((P.L 0).drop (P.s b).f).take (P.s b).h
def Pt.fR(P:Pt)(b:Nat):Nat:=if (P.s b).w=true\/(P.s b).h<=(P.s b).g-((P.s b).f+(P.s b).h) then P.sp.length else b
def dy(P:Pt)(b:Nat):List nM:=(P.sp.set b ⟨(P.s b).f+(P.s b).h,(P.s b).g,0,(P.s b).w⟩)++[⟨(P.s b).f,(P.s b).f+(P.s b).h,0,false⟩]
def bK(P:Pt)(b:Nat):Pt:=
 if (P.s b).h=(P.s b).g-(P.s b).f then ⟨P.L,P.sp.set b ⟨(P.s b).f,(P.s b).g,0,(P.s b).w⟩⟩
 else ⟨eu (eu P.L 2 (bz (P.L 2) (P.part b) P.sp.length)) 4 (P.L 4++[P.fR b]),
  (dy P b).set (P.fR b) ⟨((dy P b).getD (P.fR b) lF).f,((dy P b).getD (P.fR b) lF).g,((dy P b).getD (P.fR b) lF).h,true⟩⟩
def xK(P:Pt)(S:Nat->Prop)(R:List Nat):Prop:=∀b,b<P.sp.length->
 (b∈R->(P.s b).h≠0/\∀q,(P.s b).f<=q->q<(P.s b).g->(q<(P.s b).f+(P.s b).h↔S (P.o q)))/\
 (b∉R->(P.s b).h=0/\((∀q,(P.s b).f<=q->q<(P.s b).g->S (P.o q))\/∀q,(P.s b).f<=q->q<(P.s b).g->¬S (P.o q)))
def xD(P:Pt)(u v:Nat):Prop:=P.b u=P.b v\/(P.s (P.b u)).w=true\/(P.s (P.b v)).w=true
def Pt.mu(P:Pt)(N:Nat):Nat:=(N-P.sp.length)+(P.L 4).length
theorem PI.len{P:Pt}(h:PI N P):P.sp.length<=N:=by
 have:((range P.sp.length).map fun b=>P.o (P.s b).f).length<=N:=by
  refine pW ?_ ?_
  ·refine List.pairwise_map.2 (List.Pairwise.imp_of_mem ?_ (List.nodup_range (n:=P.sp.length)));intro a b ha hb hne e;refine hne ?_;rw[List.mem_range] at ha hb;obtain⟨a1,a2,a3,a4⟩:=h.sp a ha;obtain⟨b1,b2,b3,b4⟩:=h.sp b hb;rw[<-a4 _ (le_refl _) a1,e,b4 _ (le_refl _) b1]
  intro x hx;obtain⟨b,hb,rfl⟩:=List.mem_map.1 hx;rw[List.mem_range] at hb;obtain⟨b1,b2,b3,b4⟩:=h.sp b hb;exact (h.op _ (by omega)).1
 simpa using this
structure pP (N:Nat)(P P':Pt)(S:Nat->Prop):Prop where
 i:∀x y,x<N->y<N->P'.b x=P'.b y->P.b x=P.b y
 ii:∀x y,x<N->y<N->P.b x=P.b y->(S x↔S y)->P'.b x=P'.b y
 GK:∀u v,u<N->v<N->xD P u v->xD P' u v
 mu:P'.mu N=P.mu N
theorem pP.rfl{P:Pt}{S:Nat->Prop}:pP N P P S:=⟨fun _ _ _ _ h=>h,fun _ _ _ _ h _=>h,fun _ _ _ _ h=>h,_root_.rfl⟩
theorem pP.trans{P P' P2:Pt}{S:Nat->Prop}(h:pP N P P' S)(h2:pP N P' P2 S):pP N P P2 S:=
 ⟨fun x y hx hy e=>h.i x y hx hy (h2.i x y hx hy e),fun x y hx hy e hs=>h2.ii x y hx hy (h.ii x y hx hy e hs) hs,fun u v hu hv c=>h2.GK u v hu hv (h.GK u v hu hv c),h2.mu.trans h.mu⟩
theorem Zh{P:Pt}(h:PI N P){b:Nat}(hb:b<P.sp.length)(x:Nat)(hx:x<N):x∈P.part b↔(P.s b).f<=P.p x/\P.p x<(P.s b).f+(P.s b).h:=by
 obtain⟨s1,s2,s3,s4⟩:=h.sp b hb;unfold Pt.part;rw[List.mem_iff_getElem?];constructor
 ·rintro⟨j,hj⟩;have hl:j<(P.s b).h:=by
   have:=(List.getElem?_eq_some_iff.1 hj).1;simp at this;omega
  rw[List.getElem?_take_of_lt hl,getElem?_drop] at hj;have e:P.o ((P.s b).f+j)=x:=by unfold Pt.o;rw[getD_eq_getElem?_getD,hj];rfl
  rw[<-e,(h.op _ (by omega)).2];omega
 rintro⟨h1,h2⟩;refine⟨P.p x-(P.s b).f,?_⟩;rw[List.getElem?_take_of_lt (by omega),getElem?_drop,show (P.s b).f+(P.p x-(P.s b).f)=P.p x by omega];have h3:=h.po x hx;have h4:P.p x<(P.L 0).length:=by rw[h.l0];exact h3.1
 rw[List.getElem?_eq_getElem h4,<-oG _ _ 0 h4];exact congrArg some h3.2
theorem Pm(P:Pt)(b:Nat):(dy P b).length=P.sp.length+1:=by simp[dy]
theorem Xo(P:Pt)(b:Nat)(hb:b<P.sp.length)(j:Nat):(dy P b).getD j lF=if j=P.sp.length then ⟨(P.s b).f,(P.s b).f+(P.s b).h,0,false⟩ else if j=b then ⟨(P.s b).f+(P.s b).h,(P.s b).g,0,(P.s b).w⟩ else P.s j:=by
 unfold dy;rw[zig,length_set];by_cases e:j=P.sp.length
 ·rw[if_pos e,if_pos e]
 rw[if_neg e,if_neg e,wP];by_cases e2:j=b
 ·rw[if_pos ⟨e2.symm,hb⟩,if_pos e2]
 rw[if_neg (fun h=>e2 h.1.symm),if_neg e2];rfl
open Classical in
theorem Zj{P:Pt}{S:Nat->Prop}{R:List Nat}{b:Nat}(h:PI N P)(hH:xK P S (b :: R))(iO:(b :: R).Nodup)(mi:∀x,x∈R->x<P.sp.length)(hb:b<P.sp.length):
  PI N (bK P b)/\xK (bK P b) S R/\(bK P b).L 3=P.L 3/\P.sp.length<=(bK P b).sp.length/\pP N P (bK P b) S:=by
 obtain⟨s1,s2,s3,s4⟩:=h.sp b hb;obtain⟨hh0,IV⟩:=(hH b hb).1 List.mem_cons_self;have El:b∉R:=fun hm=>(List.nodup_cons.1 iO).1 hm
 by_cases mz:(P.s b).h=(P.s b).g-(P.s b).f
 ·have e:bK P b=⟨P.L,P.sp.set b ⟨(P.s b).f,(P.s b).g,0,(P.s b).w⟩⟩:=by unfold bK;rw[if_pos mz]
  have hs:∀j,(bK P b).s j=if j=b then ⟨(P.s b).f,(P.s b).g,0,(P.s b).w⟩ else P.s j:=fun j=>by
   rw[e];show (P.sp.set _ _).getD j lF=_;rw[wP];by_cases e2:j=b
   ·rw[if_pos ⟨e2.symm,hb⟩,if_pos e2]
   rw[if_neg (fun h=>e2 h.1.symm),if_neg e2];rfl
  have j8:∀j,((bK P b).s j).f=(P.s j).f/\((bK P b).s j).g=(P.s j).g/\((bK P b).s j).w=(P.s j).w:=fun j=>by
   rw[hs j];split
   ·rename_i e2;rw[e2];exact⟨rfl,rfl,rfl⟩
   exact⟨rfl,rfl,rfl⟩
  have hL:(bK P b).L=P.L:=by rw[e]
  have hl:(bK P b).sp.length=P.sp.length:=by rw[e];simp
  have ho:∀q,(bK P b).o q=P.o q:=fun q=>by unfold Pt.o;rw[hL]
  have hp:∀q,(bK P b).p q=P.p q:=fun q=>by unfold Pt.p;rw[hL]
  have tH:∀q,(bK P b).b q=P.b q:=fun q=>by unfold Pt.b;rw[hL]
  refine⟨⟨by rw[hL];exact h.l0,by rw[hL];exact h.l1,by rw[hL];exact h.l2,fun x hx=>by rw[hp,ho];exact h.po x hx,fun x hx=>by rw[ho,hp];exact h.op x hx,fun x hx=>by rw[tH,hl,(j8 _).1,(j8 _).2.1,hp];exact h.bk x hx,fun j hj=>?_,?_⟩,fun j hj=>?_,by rw[hL],by rw[hl];exact le_refl _,fun x y _ _=>by rw[tH,tH];exact fun h=>h,fun x y _ _=>by rw[tH,tH];exact fun h _=>h,fun u v _ _ hc=>?_,?_⟩
  ·rw[hl] at hj;obtain⟨z1,z2,z3,z4⟩:=h.sp j hj;rw[(j8 _).1,(j8 _).2.1];refine⟨z1,z2,?_,fun q h1 h2=>by rw[tH,ho];exact z4 q h1 h2⟩;rw[hs j];split
   ·show _+0<=_;omega
   exact z3
  ·rw[hL];refine⟨h.tb.1,fun j=>?_⟩;rw[hl,(j8 j).2.2];exact h.tb.2 j
  ·rw[hl] at hj;rw[(j8 _).1,(j8 _).2.1];by_cases e2:j=b
   ·subst e2;refine⟨fun hm=>absurd hm El,fun _=>⟨by rw[hs j,if_pos rfl],inl fun q h1 h2=>?_⟩⟩;rw[ho];exact (IV q h1 h2).1 (by omega)
   have:=hH j hj;rw[hs j,if_neg e2];refine⟨fun hm=>?_,fun hm=>?_⟩
   ·obtain⟨z1,z2⟩:=this.1 (List.mem_cons_of_mem _ hm);exact⟨z1,fun q h1 h2=>by rw[ho];exact z2 q h1 h2⟩
   obtain⟨z1,z2⟩:=this.2 (fun pd=>by
    rcases List.mem_cons.1 pd with h3|h3
    ·exact e2 h3
    ·exact hm h3)
   refine⟨z1,?_⟩;rcases z2 with z2|z2
   ·exact inl fun q h1 h2=>by rw[ho];exact z2 q h1 h2
   exact inr fun q h1 h2=>by rw[ho];exact z2 q h1 h2
  ·unfold xD at hc⊢;rw[tH,tH,(j8 _).2.2,(j8 _).2.2];exact hc
  unfold Pt.mu;rw[hl,hL]
 have e:bK P b=⟨eu (eu P.L 2 (bz (P.L 2) (P.part b) P.sp.length)) 4 (P.L 4++[P.fR b]),
   (dy P b).set (P.fR b) ⟨((dy P b).getD (P.fR b) lF).f,((dy P b).getD (P.fR b) lF).g,((dy P b).getD (P.fR b) lF).h,true⟩⟩:=by unfold bK;rw[if_neg mz]
 have hk:P.fR b=P.sp.length\/(P.fR b=b/\(P.s b).w=false):=by
  unfold Pt.fR;split
  ·exact inl rfl
  rename_i h3;exact inr ⟨rfl,by simpa using (fun h4=>h3 (inl h4))⟩
 have hkl:P.fR b<P.sp.length+1:=by omega
 have hs:∀j,(bK P b).s j=if j=P.sp.length then ⟨(P.s b).f,(P.s b).f+(P.s b).h,0,decide (j=P.fR b)⟩ else if j=b then ⟨(P.s b).f+(P.s b).h,(P.s b).g,0,(P.s b).w || decide (j=P.fR b)⟩ else P.s j:=fun j=>by
  rw[e];show ((dy P b).set _ _).getD j lF=_;rw[wP,Pm];by_cases e2:j=P.fR b
  ·rw[if_pos ⟨e2.symm,hkl⟩,Xo P b hb,e2];by_cases e3:P.fR b=P.sp.length
   ·simp[e3]
   rw[if_neg e3,if_neg e3];obtain⟨e4,e5⟩:P.fR b=b/\(P.s b).w=false:=(by rcases hk with h|h;exact absurd h e3;exact h);simp[e4]
  rw[if_neg (fun h=>e2 h.1.symm),Xo P b hb];simp[e2]
 have hl:(bK P b).sp.length=P.sp.length+1:=by rw[e];simp[Pm]
 have Bc:(bK P b).L 0=P.L 0:=by rw[e];rfl
 have zu:(bK P b).L 1=P.L 1:=by rw[e];rfl
 have SE:(bK P b).L 2=bz (P.L 2) (P.part b) P.sp.length:=by rw[e];rfl
 have hL3:(bK P b).L 3=P.L 3:=by rw[e];rfl
 have AU:(bK P b).L 4=P.L 4++[P.fR b]:=by rw[e];rfl
 have ho:∀q,(bK P b).o q=P.o q:=fun q=>by unfold Pt.o;rw[Bc]
 have hp:∀q,(bK P b).p q=P.p q:=fun q=>by unfold Pt.p;rw[zu]
 have tH:∀x,x<N->(bK P b).b x=if (P.s b).f<=P.p x/\P.p x<(P.s b).f+(P.s b).h then P.sp.length else P.b x:=fun x hx=>by
  unfold Pt.b;rw[SE,zih,h.l2];by_cases h1:x∈P.part b
  ·rw[if_pos ⟨h1,hx⟩,if_pos ((Zh h hb x hx).1 h1)]
  rw[if_neg (fun h2=>h1 h2.1),if_neg (fun h2=>h1 ((Zh h hb x hx).2 h2))]
 have oz:∀x,x<N->((P.s b).f<=P.p x/\P.p x<(P.s b).f+(P.s b).h↔P.b x=b/\S x):=fun x hx=>by
  obtain⟨x1,x2,x3⟩:=h.bk x hx;obtain⟨y1,y2⟩:=h.po x hx;constructor
  ·rintro⟨h1,h2⟩;have h3:=s4 _ h1 (by omega);have h4:=(IV _ h1 (by omega)).1 h2;rw[y2] at h3 h4;exact⟨h3,h4⟩
  rintro⟨h1,h2⟩;rw[h1] at x2 x3;refine⟨x2,(IV _ x2 x3).2 ?_⟩;rw[y2];exact h2
 have pA:∀x,x<N->(bK P b).b x=if P.b x=b/\S x then P.sp.length else P.b x:=fun x hx=>by
  rw[tH x hx];by_cases h1:P.b x=b/\S x
  ·rw[if_pos h1,if_pos ((oz x hx).2 h1)]
  rw[if_neg h1,if_neg (fun h2=>h1 ((oz x hx).1 h2))]
 have DP:∀x,x<N->P.b x<P.sp.length:=fun x hx=>(h.bk x hx).1
 have hh:(P.s b).h<(P.s b).g-(P.s b).f:=by omega
 have p9:(bK P b).s b=⟨(P.s b).f+(P.s b).h,(P.s b).g,0,(P.s b).w || decide (b=P.fR b)⟩:=by rw[hs b,if_neg (by omega),if_pos rfl]
 have Eb:(bK P b).s P.sp.length=⟨(P.s b).f,(P.s b).f+(P.s b).h,0,decide (P.sp.length=P.fR b)⟩:=by rw[hs,if_pos rfl]
 have ER:∀j,j≠b->j<P.sp.length->(bK P b).s j=P.s j:=fun j h1 h2=>by rw[hs j,if_neg (by omega),if_neg h1]
 have Ps:∀j,j<P.sp.length->(P.s j).w=true->((bK P b).s j).w=true:=fun j hj hw=>by
  by_cases e2:j=b
  ·subst e2;rw[p9];simp[hw]
  rw[ER j e2 hj];exact hw
 have WI:PI N (bK P b):=by
  refine⟨by rw[Bc];exact h.l0,by rw[zu];exact h.l1,by rw[SE,Yi];exact h.l2,fun x hx=>by rw[hp,ho];exact h.po x hx,fun x hx=>by rw[ho,hp];exact h.op x hx,fun x hx=>?_,fun j hj=>?_,?_⟩
  ·rw[pA x hx,hl,hp];obtain⟨x1,x2,x3⟩:=h.bk x hx;by_cases h1:P.b x=b/\S x
   ·rw[if_pos h1,Eb];have:=(oz x hx).2 h1;exact⟨by omega,this.1,this.2⟩
   rw[if_neg h1];refine⟨by omega,?_⟩;by_cases e2:P.b x=b
   ·rw[e2,p9];rw[e2] at x2 x3;refine⟨?_,x3⟩;show (P.s b).f+(P.s b).h<=P.p x;refine Nat.le_of_not_lt fun aw=>h1 ((oz x hx).1 ⟨x2,aw⟩)
   rw[ER _ e2 x1];exact⟨x2,x3⟩
  ·rw[hl] at hj;by_cases e2:j=P.sp.length
   ·rw[e2,Eb];refine⟨by show (P.s b).f<(P.s b).f+(P.s b).h;omega,by show (P.s b).f+(P.s b).h<=N;omega,by show (P.s b).f+0<=(P.s b).f+(P.s b).h;omega,fun q h1 h2=>?_⟩;replace h1:(P.s b).f<=q:=h1;replace h2:q<(P.s b).f+(P.s b).h:=h2;obtain⟨q1,q2⟩:=h.op q (by omega);rw[ho,tH _ q1,q2,if_pos ⟨h1,h2⟩]
   by_cases e3:j=b
   ·rw[e3,p9];refine⟨by show (P.s b).f+(P.s b).h<(P.s b).g;omega,s2,by show (P.s b).f+(P.s b).h+0<=(P.s b).g;omega,fun q h1 h2=>?_⟩;replace h1:(P.s b).f+(P.s b).h<=q:=h1;replace h2:q<(P.s b).g:=h2;obtain⟨q1,q2⟩:=h.op q (by omega);rw[ho,tH _ q1,q2,if_neg (by omega)];exact s4 q (by omega) h2
   have hj2:j<P.sp.length:=(by omega);obtain⟨z1,z2,z3,z4⟩:=h.sp j hj2;rw[ER j e3 hj2];refine⟨z1,z2,z3,fun q h1 h2=>?_⟩;obtain⟨q1,q2⟩:=h.op q (by omega);have:=z4 q h1 h2;rw[ho,pA _ q1,if_neg (fun h3:P.b (P.o q)=b/\S (P.o q)=>e3 (by rw[<-this];exact h3.1))];exact this
  rw[AU,hl];have PH:P.fR b∉P.L 4:=fun hm=>by
   have:=(h.tb.2 _).1 hm;rcases hk with h3|⟨h3,h4⟩
   ·omega
   rw[h3,h4] at this;exact absurd this.2 (by simp)
  refine⟨?_,fun j=>?_⟩
  ·rw[nodup_append];refine⟨h.tb.1,by simp,fun a ha c hc e2=>?_⟩;rw[List.mem_singleton.1 hc] at e2;rw[e2] at ha;exact PH ha
  rw[mem_append,mem_singleton,h.tb.2 j];by_cases e2:j=P.sp.length
  ·rw[e2,Eb];constructor
   ·rintro (h3|h3)
    ·omega
    exact⟨by omega,by simp[h3]⟩
   rintro⟨_,h3⟩;exact inr (by simpa using h3)
  by_cases e3:j=b
  ·rw[e3,p9];constructor
   ·rintro (h3|h3)
    ·exact⟨by omega,by simp[h3.2]⟩
    exact⟨by omega,by
    show ((P.s b).w || decide (b=P.fR b))=true;rw[Bool.or_eq_true,decide_eq_true_iff];exact inr h3⟩
   rintro⟨_,h3⟩;simp at h3;rcases h3 with h3|h3
   ·exact inl ⟨hb,h3⟩
   exact inr h3
  have hne:j≠P.fR b:=by rcases hk with h3|⟨h3,_⟩ <;> omega
  constructor
  ·rintro (h3|h3)
   ·rw[ER j e3 h3.1];exact⟨by omega,h3.2⟩
   exact absurd h3 hne
  rintro⟨h3,h4⟩;have hj2:j<P.sp.length:=by omega
  rw[ER j e3 hj2] at h4;exact inl ⟨hj2,h4⟩
 refine⟨WI,fun j hj=>?_,hL3,by omega,fun x y hx hy=>?_,fun x y hx hy=>?_,fun u v hu hv hc=>?_,?_⟩
 ·rw[hl] at hj;by_cases e2:j=P.sp.length
  ·rw[e2,Eb];refine⟨fun hm=>absurd (mi _ hm) (Nat.lt_irrefl _),fun _=>⟨rfl,inl fun q h1 h2=>?_⟩⟩;replace h1:(P.s b).f<=q:=h1;replace h2:q<(P.s b).f+(P.s b).h:=h2;rw[ho];exact (IV q h1 (by omega)).1 h2
  by_cases e3:j=b
  ·rw[e3,p9];refine⟨fun hm=>absurd hm El,fun _=>⟨rfl,inr fun q h1 h2=>?_⟩⟩;replace h1:(P.s b).f+(P.s b).h<=q:=h1;replace h2:q<(P.s b).g:=h2;rw[ho];intro h4;have:=(IV q (by omega) h2).2 h4;omega
  have hj2:j<P.sp.length:=by omega
  have:=hH j hj2;rw[ER j e3 hj2];refine⟨fun hm=>?_,fun hm=>?_⟩
  ·obtain⟨z1,z2⟩:=this.1 (List.mem_cons_of_mem _ hm);exact⟨z1,fun q h1 h2=>by rw[ho];exact z2 q h1 h2⟩
  obtain⟨z1,z2⟩:=this.2 (fun pd=>by
   rcases List.mem_cons.1 pd with h3|h3
   ·exact e3 h3
   ·exact hm h3)
  refine⟨z1,?_⟩;rcases z2 with z2|z2
  ·exact inl fun q h1 h2=>by rw[ho];exact z2 q h1 h2
  exact inr fun q h1 h2=>by rw[ho];exact z2 q h1 h2
 ·rw[pA x hx,pA y hy];have:=DP x hx;have:=DP y hy;intro h3;split at h3 <;> split at h3
  ·rename_i h4 h5;rw[h4.1,h5.1]
  ·omega
  ·omega
  exact h3
 ·rw[pA x hx,pA y hy];intro h3 h4;by_cases h5:P.b x=b/\S x
  ·rw[if_pos h5,if_pos ⟨by rw[<-h3];exact h5.1,h4.1 h5.2⟩]
  rw[if_neg h5,if_neg (fun h6=>h5 ⟨by rw[h3];exact h6.1,h4.2 h6.2⟩)];exact h3
 ·unfold xD at hc⊢;have one:∀u,u<N->(P.s (P.b u)).w=true->((bK P b).s ((bK P b).b u)).w=true:=fun u hu hw=>by
   rw[pA u hu];by_cases h3:P.b u=b/\S u
   ·rw[if_pos h3,Eb];rw[h3.1] at hw;have:P.fR b=P.sp.length:=by
     rcases hk with h4|⟨_,h4⟩
     ·exact h4
     rw[hw] at h4;cases h4
    simp[this]
   rw[if_neg h3];exact Ps _ (DP u hu) hw
  rcases hc with hc|hc|hc
  ·by_cases h3:(bK P b).b u=(bK P b).b v
   ·exact inl h3
   right;rw[pA u hu,pA v hv] at h3⊢;have BD:((bK P b).s P.sp.length).w=true\/((bK P b).s b).w=true:=by
    rw[Eb,p9];rcases hk with h4|⟨h4,_⟩
    ·left;simp[h4]
    right;simp[h4]
   by_cases h5:P.b u=b/\S u
   ·rw[if_pos h5] at h3⊢;by_cases h6:P.b v=b/\S v
    ·rw[if_pos h6] at h3;exact absurd rfl h3
    rw[if_neg h6] at h3⊢;rw[<-hc,h5.1];exact BD
   rw[if_neg h5] at h3⊢;by_cases h6:P.b v=b/\S v
   ·rw[if_pos h6] at h3⊢;rw[hc,h6.1];exact BD.symm
   rw[if_neg h6] at h3;exact absurd hc h3
  ·exact inr (inl (one u hu hc))
  exact inr (inr (one v hv hc))
 have h6:=WI.len;rw[hl] at h6;unfold Pt.mu;rw[hl,AU,length_append,List.length_singleton];omega
def PZ(N:Nat)(P:Pt):Prop:=PI N P/\∀b,b<P.sp.length->(P.s b).h=0
def kG(P:Pt):Pt:=⟨eu P.L 3 [],P.sp⟩
def gn(P:Pt)(l:List Nat):Pt:=l.foldl iv P
def jq(P:Pt)(l:List Nat):Pt:=l.foldl bK P
def mh(P:Pt)(l:List Nat):Pt:=jq (gn (kG P) l) ((gn (kG P) l).L 3)
theorem S5(P:Pt)(l:List Nat)(x:Nat):gn P (l++[x])=iv (gn P l) x:=by simp[gn,List.foldl_append]
theorem TG(P:Pt)(l:List Nat)(x:Nat):jq P (l++[x])=bK (jq P l) x:=by simp[jq,List.foldl_append]
theorem UE{P:Pt}(h:PZ N P):PI N (kG P)/\uk (kG P) (fun _=>False):=by
 obtain⟨⟨a1,a2,a3,a4,a5,a6,a7,a8⟩,h0⟩:=h;refine⟨⟨a1,a2,a3,a4,a5,a6,a7,a8⟩,by show ([]:List Nat).Nodup;simp,fun b=>?_,fun b hb q h1 h2=>?_⟩
 ·show b∈([]:List Nat)↔_;refine⟨fun h=>by simp at h,fun h=>absurd (h0 b h.1) h.2⟩
 have:=h0 b hb;have e:((kG P).s b).h=(P.s b).h:=rfl;rw[e,this];exact⟨fun h=>by omega,fun h=>h.elim⟩
structure wi (N:Nat)(P P':Pt)(l:List Nat):Prop where
 pi:PI N P'
 hit:uk P' (fun x=>x∈l)
 b:∀x,P'.b x=P.b x
 len:P'.sp.length=P.sp.length
 w:∀b,(P'.s b).w=(P.s b).w
 o4:P'.L 4=P.L 4
theorem Px{P:Pt}(h:PI N P)(h0:uk P (fun _=>False))(l:List Nat)(iO:l.Nodup)(hl:∀x∈l,x<N)(k:Nat)(hk:k<=l.length):wi N P (gn P (l.take k)) (l.take k):=by
 induction k with
 | zero=>exact⟨h,by simp only[List.take_zero,List.not_mem_nil];exact h0,fun _=>rfl,rfl,fun _=>rfl,rfl⟩
 | succ k ih=>
  obtain⟨a1,a2,a3,a4,a5,a6⟩:=ih (by omega);have hkl:k<l.length:=by omega
  have e:l.take (k+1)=l.take k++[l[k]]:=by rw[List.take_add_one,List.getElem?_eq_getElem hkl];rfl
  have hx:l[k]<N:=hl _ (List.getElem_mem hkl);have hn:l[k]∉l.take k:=fun hm=>by
   obtain⟨j,hj,e2⟩:=List.getElem_of_mem hm;rw[List.getElem_take] at e2;have hjk:j<k:=(by simp at hj;omega);have:=(List.getElem_inj (h₀:=by omega) (h₁:=hkl) iO).1 e2;omega
  obtain⟨c1,c2,c3⟩:=TI a1 a2 hx hn;rw[e,S5];refine⟨c2,?_,fun x=>by rw[M6];exact a3 x,by rw[EP];exact a4,fun b=>?_,by rw[Tq];exact a6⟩
  ·have e3:(fun y=>y∈l.take k\/y=l[k])=fun x=>x∈l.take k++[l[k]]:=(by funext y;rw[mem_append,mem_singleton]);rw[<-e3];exact c3
  rw[Ie _ _ _ c1.1,<-a5 b];split
  ·rename_i e2;rw[e2]
  rfl
structure zpR (N:Nat)(P P':Pt)(S:Nat->Prop)(R:List Nat):Prop where
 pi:PI N P'
 hit:xK P' S R
 o3:P'.L 3=P.L 3
 len:P.sp.length<=P'.sp.length
 d:pP N P P' S
theorem Sw{P:Pt}{S:Nat->Prop}(h:PI N P)(l:List Nat)(h0:xK P S l)(iO:l.Nodup)(hl:∀b∈l,b<P.sp.length)(k:Nat)(hk:k<=l.length):zpR N P (jq P (l.take k)) S (l.drop k):=by
 induction k with
 | zero=>exact⟨h,by rw[List.drop_zero];exact h0,rfl,le_refl _,pP.rfl⟩
 | succ k ih=>
  obtain⟨a1,a2,a3,a4,a5⟩:=ih (by omega);have hkl:k<l.length:=by omega
  have e:l.take (k+1)=l.take k++[l[k]]:=by rw[List.take_add_one,List.getElem?_eq_getElem hkl];rfl
  have e2:l.drop k=l[k] :: l.drop (k+1):=List.drop_eq_getElem_cons hkl;rw[e2] at a2;have RH:(l[k] :: l.drop (k+1)).Nodup:=by rw[<-e2];exact iO.sublist (List.drop_sublist _ _)
  obtain⟨c1,c2,c3,c4,c5⟩:=Zj a1 a2 RH (fun x hx=>Nat.lt_of_lt_of_le (hl x (List.mem_of_mem_drop hx)) a4) (Nat.lt_of_lt_of_le (hl _ (List.getElem_mem hkl)) a4);rw[e,TG];exact⟨c1,c2,c3.trans a3,Nat.le_trans a4 c4,a5.trans c5⟩
theorem Xf{P:Pt}{S:Nat->Prop}(h:uk P S):xK P S (P.L 3):=fun b hb=>by
 refine⟨fun hm=>⟨((h.tc b).1 hm).2,h.hit b hb⟩,fun hm=>?_⟩
 have h0:(P.s b).h=0:=Classical.byContradiction fun hn=>hm ((h.tc b).2 ⟨hb,hn⟩)
 refine⟨h0,inr fun q h1 h2 hs=>?_⟩
 have:=(h.hit b hb q h1 h2).2 hs
 omega
structure RI (N:Nat)(P P':Pt)(S:Nat->Prop):Prop where
 pz:PZ N P'
 b:∀x y,x<N->y<N->(P'.b x=P'.b y↔P.b x=P.b y/\(S x↔S y))
 GK:∀u v,u<N->v<N->xD P u v->xD P' u v
 mu:P'.mu N=P.mu N
theorem IQ{P:Pt}(h:PZ N P)(l:List Nat)(iO:l.Nodup)(hl:∀x∈l,x<N):RI N P (mh P l) (fun x=>x∈l):=by
 obtain⟨d1,d2⟩:=UE h;have hH:=Px d1 d2 l iO hl l.length (le_refl _);rw[List.take_length] at hH;obtain⟨a1,a2,a3,a4,a5,a6⟩:=hH;have hC:=Sw (S:=fun x=>x∈l) a1 ((gn (kG P) l).L 3) (Xf a2) a2.nd (fun b hb=>((a2.tc b).1 hb).1) _ (le_refl _);rw[List.take_length,List.drop_length] at hC;obtain⟨c1,c2,c3,c4,c5⟩:=hC;have e:mh P l=jq (gn (kG P) l) ((gn (kG P) l).L 3):=rfl;rw[<-e] at c1 c2 c3 c4 c5;have hc:∀u v,xD (gn (kG P) l) u v↔xD P u v:=fun u v=>by
  unfold xD;rw[a3,a3,a5,a5];rfl
 refine⟨⟨c1,fun b hb=>((c2 b hb).2 (by simp)).1⟩,fun x y hx hy=>⟨fun hb=>⟨?_,?_⟩,fun hb=>?_⟩,fun u v hu hv hcv=>c5.GK u v hu hv ((hc u v).2 hcv),?_⟩
 ·have:=c5.i x y hx hy hb;rw[a3,a3] at this;exact this
 ·obtain⟨x1,x2,x3⟩:=c1.bk x hx;obtain⟨y1,y2,y3⟩:=c1.bk y hy;rw[<-hb] at y2 y3;have CX:=(c1.po x hx).2;have D3:=(c1.po y hy).2;rcases ((c2 _ x1).2 (by simp)).2 with h3|h3
  ·have h4:=h3 _ x2 x3;have h5:=h3 _ y2 y3;rw[CX] at h4;rw[D3] at h5;exact⟨fun _=>h5,fun _=>h4⟩
  have h4:=h3 _ x2 x3;have h5:=h3 _ y2 y3;rw[CX] at h4;rw[D3] at h5;exact⟨fun h=>absurd h h4,fun h=>absurd h h5⟩
 ·refine c5.ii x y hx hy ?_ hb.2;rw[a3,a3];exact hb.1
 rw[c5.mu];unfold Pt.mu;rw[a4,a6];rfl
def fk(N:Nat):Pt:=⟨fun i=>if i=0 then range N else if i=1 then range N else if i=2 then replicate N 0 else [],[⟨0,N,0,false⟩]⟩
theorem E2(N x:Nat):(fk N).b x=0:=by
 show (replicate N 0).getD x 0=0;rw[getD_eq_getElem?_getD,List.getElem?_replicate];split <;> rfl
theorem zlH(hN:0<N):PZ N (fk N):=by
 have hr:∀x,x<N->(range N).getD x 0=x:=fun x hx=>by simp[getD_eq_getElem?_getD,hx]
 have ho:∀q,q<N->(fk N).o q=q:=hr;have hp:∀q,q<N->(fk N).p q=q:=hr;have hs:(fk N).s 0=⟨0,N,0,false⟩:=rfl;have hl:(fk N).sp.length=1:=rfl;refine⟨⟨by show (range N).length=N;simp,by show (range N).length=N;simp,by show (replicate N 0).length=N;simp,fun x hx=>by rw[hp x hx,ho x hx];exact⟨hx,rfl⟩,fun x hx=>by rw[ho x hx,hp x hx];exact⟨hx,rfl⟩,fun x hx=>?_,fun b hb=>?_,?_⟩,fun b hb=>?_⟩
 ·rw[E2,hs,hl,hp x hx];exact⟨by omega,zero_le _,hx⟩
 ·rw[hl] at hb;obtain rfl:b=0:=by omega
  rw[hs];exact⟨hN,le_refl _,zero_le _,fun q _ _=>E2 N _⟩
 ·show ([]:List Nat).Nodup/\∀b,b∈([]:List Nat)↔_;refine⟨by simp,fun b=>⟨fun h=>by simp at h,fun h=>?_⟩⟩;have hb:b<1:=h.1;obtain rfl:b=0:=by omega
  exact absurd h.2 (by rw[hs];simp)
 rw[hl] at hb;obtain rfl:b=0:=by omega
 rw[hs]
theorem zlI(N:Nat)(hN:0<N):(fk N).mu N=N-1:=rfl
def Pt.last(P:Pt):Nat:=(P.L 4).getLastD 0
def eh(P:Pt):List Nat:=((P.L 0).drop (P.s P.last).f).take ((P.s P.last).g-(P.s P.last).f)
def ga(P:Pt):Pt:=⟨eu P.L 4 (P.L 4).dropLast,P.sp.set P.last ⟨(P.s P.last).f,(P.s P.last).g,(P.s P.last).h,false⟩⟩
def Hop(N C:Nat)(t:Nat->Nat->Nat)(P:Pt)(cd:Nat)(T:Nat->Prop):Prop:=
 ∀x y,x<N->y<N->P.b x=P.b y->∀c,c<C->xD P (t x c) (t y c)\/(cd<=c/\¬(T (t x c)↔T (t y c)))
structure hY (N C:Nat)(t:Nat->Nat->Nat)(m:Nat->Int)(P:Pt)(cd:Nat)(T:Nat->Prop):Prop where
 pz:PZ N P
 sat:∀x y,x<N->y<N->la C t m x y->P.b x=P.b y
 C0:∀x y,x<N->y<N->la C t m x y->(T x↔T y)
 jG:Hop N C t P cd T
theorem hY.start(hN:0<N):hY N C t m (fk N) C (fun _=>False):=
 ⟨zlH hN,fun x y _ _ _=>by rw[E2,E2],fun _ _ _ _ _=>Iff.rfl,fun x y _ _ _ c _=>inl (inl (by rw[E2,E2]))⟩
theorem hY.xQ{P:Pt}{T:Nat->Prop}(h:hY N C t m P cd T)(ht:∀x c,x<N->c<C->t x c<N)(l:List Nat)(iO:l.Nodup)(hl:∀x∈l,x<N)(hs:∀x y,x<N->y<N->la C t m x y->(x∈l↔y∈l)):
  hY N C t m (mh P l) cd T:=by
 have hd:=IQ h.pz l iO hl;refine⟨hd.pz,fun x y hx hy he=>(hd.b x y hx hy).2 ⟨h.sat x y hx hy he,hs x y hx hy he⟩,h.C0,fun x y hx hy hb c hc=>?_⟩;rcases h.jG x y hx hy ((hd.b x y hx hy).1 hb).1 c hc with h1|h1
 ·exact inl (hd.GK _ _ (ht x c hx hc) (ht y c hy hc) h1)
 exact inr h1
theorem hY.class{P:Pt}{T:Nat->Prop}(h:hY N C t m P cd T)(Fv:cd<C)(ht:∀x c,x<N->c<C->t x c<N)(l:List Nat)(iO:l.Nodup)(hl:∀x,x∈l↔x<N/\T (t x cd)):
  hY N C t m (mh P l) (cd+1) T:=by
 have hs:∀x y,x<N->y<N->la C t m x y->(x∈l↔y∈l):=fun x y hx hy he=>by
  rw[hl,hl];have:=h.C0 _ _ (ht x cd hx Fv) (ht y cd hy Fv) (he.step Fv);simp only[hx,hy,true_and,this]
 have hd:=IQ h.pz l iO (fun x hx=>((hl x).1 hx).1);have h1:=h.xQ ht l iO (fun x hx=>((hl x).1 hx).1) hs;refine⟨h1.pz,h1.sat,h1.C0,fun x y hx hy hb c hc=>?_⟩;rcases h1.jG x y hx hy hb c hc with h2|h2
 ·exact inl h2
 by_cases e:c=cd
 ·subst e;have h3:=((hd.b x y hx hy).1 hb).2;rw[hl,hl] at h3;simp only[hx,hy,true_and] at h3;exact absurd h3 h2.2
 exact inr ⟨by omega,h2.2⟩
theorem hY.mu{P:Pt}(h:PZ N P)(l:List Nat)(iO:l.Nodup)(hl:∀x∈l,x<N):(mh P l).mu N=P.mu N:=(IQ h l iO hl).mu
theorem hY.take{P:Pt}{T:Nat->Prop}(h:hY N C t m P C T)(hne:P.L 4≠[])(ht:∀x c,x<N->c<C->t x c<N):
  P.last<P.sp.length/\(P.s P.last).f<(P.s P.last).g/\(P.s P.last).g<=N/\(eh P).Nodup/\(∀x,x∈eh P↔x<N/\P.b x=P.last)/\hY N C t m (ga P) 0 (fun z=>z∈eh P)/\(ga P).mu N+1=P.mu N/\∀x,(ga P).b x=P.b x:=by
 obtain⟨hP,h0⟩:=h.pz;have qK:P.L 4=(P.L 4).dropLast++[P.last]:=by
  unfold Pt.last;rcases List.eq_nil_or_concat (P.L 4) with e|⟨l,a,e⟩
  ·exact absurd e hne
  rw[e];simp
 have hm:P.last∈P.L 4:=by rw[qK];simp
 obtain⟨hl,hw⟩:=(hP.tb.2 _).1 hm;obtain⟨s1,s2,s3,s4⟩:=hP.sp _ hl;have fW:∀x,x∈eh P↔x<N/\P.b x=P.last:=fun x=>by
  unfold eh;rw[List.mem_iff_getElem?];constructor
  ·rintro⟨j,hj⟩;have iE:j<(P.s P.last).g-(P.s P.last).f:=by
    have:=(List.getElem?_eq_some_iff.1 hj).1;simp at this;omega
   rw[List.getElem?_take_of_lt iE,getElem?_drop] at hj;have e:P.o ((P.s P.last).f+j)=x:=(by unfold Pt.o;rw[getD_eq_getElem?_getD,hj];rfl);rw[<-e];exact⟨(hP.op _ (by omega)).1,s4 _ (by omega) (by omega)⟩
  rintro⟨hx,hb⟩;obtain⟨x1,x2,x3⟩:=hP.bk x hx;rw[hb] at x2 x3;refine⟨P.p x-(P.s P.last).f,?_⟩;rw[List.getElem?_take_of_lt (by omega),getElem?_drop,show (P.s P.last).f+(P.p x-(P.s P.last).f)=P.p x by omega];have h3:=hP.po x hx;have h4:P.p x<(P.L 0).length:=by rw[hP.l0];exact h3.1
  rw[List.getElem?_eq_getElem h4,<-oG _ _ 0 h4];exact congrArg some h3.2
 have O8:(P.L 0).Nodup:=by
  refine List.pairwise_iff_getElem.2 fun i j hi hj2 hij=>?_
  rw[<-oG _ _ 0 hi,<-oG _ _ 0 hj2];intro e;have e2:P.o i=P.o j:=e;rw[hP.l0] at hi hj2;have e3:=(hP.op i (by omega)).2;have e4:=(hP.op j (by omega)).2;rw[e2] at e3;omega
 have iO:(eh P).Nodup:=(O8.sublist (List.drop_sublist _ _)).sublist (List.take_sublist _ _);have hb:∀x,(ga P).b x=P.b x:=fun x=>rfl
 have hs:∀j,(ga P).s j=if j=P.last then ⟨(P.s P.last).f,(P.s P.last).g,(P.s P.last).h,false⟩ else P.s j:=fun j=>by
  show (P.sp.set _ _).getD j lF=_;rw[wP];by_cases e2:j=P.last
  ·rw[if_pos ⟨e2.symm,hl⟩,if_pos e2]
  rw[if_neg (fun h=>e2 h.1.symm),if_neg e2];rfl
 have j8:∀j,((ga P).s j).f=(P.s j).f/\((ga P).s j).g=(P.s j).g/\((ga P).s j).h=(P.s j).h:=fun j=>by
  rw[hs j];split
  ·rename_i e2;rw[e2];exact⟨rfl,rfl,rfl⟩
  exact⟨rfl,rfl,rfl⟩
 have hlen:(ga P).sp.length=P.sp.length:=by simp[ga]
 refine⟨hl,s1,s2,iO,fW,⟨⟨⟨hP.l0,hP.l1,hP.l2,hP.po,hP.op,fun x hx=>?_,fun b cv=>?_,?_⟩,fun b cv=>?_⟩,h.sat,fun x y hx hy he=>?_,fun x y hx hy hxy c hc=>?_⟩,?_,hb⟩
 ·rw[hb,hlen,(j8 _).1,(j8 _).2.1];exact hP.bk x hx
 ·rw[hlen] at cv;rw[(j8 _).1,(j8 _).2.1,(j8 _).2.2];exact hP.sp b cv
 ·show (P.L 4).dropLast.Nodup/\∀b,b∈(P.L 4).dropLast↔_;have Dn:=hP.tb.1;rw[qK,nodup_append] at Dn;refine⟨Dn.1,fun b=>?_⟩;rw[hlen,hs b];have:=hP.tb.2 b;rw[qK,mem_append,mem_singleton] at this;by_cases e:b=P.last
  ·rw[if_pos e];refine⟨fun pd=>absurd rfl (Dn.2.2 b pd b (by rw[e];simp)),fun h3=>?_⟩;exact absurd h3.2 (by simp)
  rw[if_neg e,<-this];exact⟨inl,fun h3=>by rcases h3 with h3|h3;exact h3;exact absurd h3 e⟩
 ·rw[hlen] at cv;rw[(j8 _).2.2];exact h0 b cv
 ·rw[fW,fW];simp only[hx,hy,true_and];rw[h.sat x y hx hy he]
 ·have pI:=h.jG x y hx hy hxy c hc;have kY:=ht x c hx hc;have Ba:=ht y c hy hc;rcases pI with h3|h3
  ·by_cases e1:P.b (t x c)=P.b (t y c)
   ·exact inl (inl e1)
   by_cases e2:P.b (t x c)=P.last
   ·refine inr ⟨zero_le _,fun h4=>?_⟩;rw[fW,fW] at h4;exact e1 (by rw[e2,(h4.1 ⟨kY,e2⟩).2])
   by_cases e3:P.b (t y c)=P.last
   ·refine inr ⟨zero_le _,fun h4=>?_⟩;rw[fW,fW] at h4;exact e1 (by rw[e3,(h4.2 ⟨Ba,e3⟩).2])
   left;unfold xD at h3⊢;rw[hb,hb,hs,hs,if_neg e2,if_neg e3];exact h3
  omega
 unfold Pt.mu;rw[hlen];show _+((P.L 4).dropLast).length+1=_;rw[List.length_dropLast];have:0<(P.L 4).length:=List.length_pos_iff.2 hne;omega
theorem hY.done{P:Pt}{T:Nat->Prop}(h:hY N C t m P C T)(he:P.L 4=[])(ht:∀x c,x<N->c<C->t x c<N)(hm:∀x y,x<N->y<N->P.b x=P.b y->m x=m y):
  ∀x y,x<N->y<N->(P.b x=P.b y↔la C t m x y):=by
 intro x y hx hy;refine⟨fun hb=>?_,h.sat x y hx hy⟩;refine la.jP (fun x y=>x<N/\y<N/\P.b x=P.b y) (fun x y ⟨h1,h2,h3⟩=>⟨hm x y h1 h2 h3,fun c hc=>⟨ht x c h1 hc,ht y c h2 hc,?_⟩⟩) ⟨hx,hy,hb⟩;have hw:∀z,z<N->(P.s (P.b z)).w=false:=fun z hz=>by
  have:=(h.pz.1.tb.2 (P.b z))
  rw[he] at this;cases Q2:(P.s (P.b z)).w
  ·rfl
  exact absurd (this.2 ⟨(h.pz.1.bk z hz).1,Q2⟩) (by simp)
 rcases h.jG x y h1 h2 h3 c hc with h4|h4
 ·rcases h4 with h4|h4|h4
  ·exact h4
  ·rw[hw _ (ht x c h1 hc)] at h4;cases h4
  rw[hw _ (ht y c h2 hc)] at h4;cases h4
 omega
def mc(x:Int):Nat:=(x % 65536).toNat
theorem ME(x:Int):mc x<65536:=by unfold mc;omega
theorem znW{x y:Int}(hx:-1<=x/\x<32768)(hy:-1<=y/\y<32768)(h:mc x=mc y):x=y:=by unfold mc at h;omega
def iA(z:Nat->Int):Nat->List Nat
 | 0=>[]
 | i+1=>iA z i++[mc (z i) % 256,mc (z i) / 256]
theorem Mz(z:Nat->Int)(n:Nat):(iA z n).length=2*n:=by
 induction n with
 | zero=>rfl
 | succ n ih=>rw[iA,length_append,ih];simp;omega
theorem YS(z:Nat->Int)(n:Nat):∀b∈iA z n,b<256:=by
 induction n with
 | zero=>intro b h;cases h
 | succ n ih=>
  intro b h;rw[iA] at h;have:=ME (z n);rcases List.mem_append.1 h with h|h
  ·exact ih b h
  simp at h;omega
theorem zlJ{z z':Nat->Int}(hz:∀i,i<n->-1<=z i/\z i<32768)(TA:∀i,i<n->-1<=z' i/\z' i<32768):iA z n=iA z' n↔∀i,i<n->z i=z' i:=by
 induction n with
 | zero=>exact⟨fun _ i h=>absurd h (by omega),fun _=>rfl⟩
 | succ n ih=>
  have ih:=ih (fun i h=>hz i (by omega)) (fun i h=>TA i (by omega));constructor
  ·intro h i hi;rw[iA,iA] at h;have h1:=List.append_inj h (by rw[Mz,Mz]);by_cases e:i=n
   ·subst e;have h2:=h1.2;simp at h2;refine znW (hz i hi) (TA i hi) ?_;have:=ME (z i);have:=ME (z' i);omega
   exact ih.1 h1.1 i (by omega)
  intro h;rw[iA,iA,ih.2 (fun i hi=>h i (by omega)),h n (by omega)]
end Go.Proofs.YtiijebameffenaaGreat
