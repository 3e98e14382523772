import Derived.Test.YtiijebameffenaaGreatZMCol
set_option linter.all false
set_option maxHeartbeats 4000000
set_option maxRecDepth 100000
open Go.Lib (hid)
namespace Go.Proofs.YtiijebameffenaaGreat
open Go.RowKit Go.Maps Go.WideElems Go.ChangeMaps Go.MapKept Go.Proofs.Tryz
open List (getElem_mem length_append length_set length_take)
open Or (inl inr)
open Nat (le_refl le_trans zero_le)
open World (ownsRow)
variable {B N c g n q x:Nat}{a:Option Addr}{bs l:List Nat}{v:Nat->Value}{vS:Value}{w':World}
def fX(s:nM)(k:Nat):Value:=if k=0 then .int .i64 ((s.f:Nat):Int) else if k=1 then .int .i64 ((s.g:Nat):Int) else if k=2 then .int .i64 ((s.h:Nat):Int) else .bool s.w
def p8(l:List nM):List Value:=l.flatMap fun s=>[fX s 0,fX s 1,fX s 2,fX s 3]
theorem UK(s:nM)(l:List nM):p8 (s :: l)=[fX s 0,fX s 1,fX s 2,fX s 3]++p8 l:=by simp[p8]
theorem zn9(l:List nM):(p8 l).length=l.length*4:=by
 induction l with
 | nil=>rfl
 | cons s l ih=>rw[UK,length_append,ih];simp;omega
theorem O1(l:List nM):∀j,(p8 l)[j]?=(l[j / 4]?).map fun s=>fX s (j % 4):=by
 induction l with
 | nil=>intro j;simp[p8]
 | cons s l ih=>
  intro j;rw[UK];by_cases h:j<4
  ·rw[List.getElem?_append_left (by simpa using h),show j / 4=0 by omega,show j % 4=j by omega];have:j=0\/j=1\/j=2\/j=3:=(by omega);rcases this with rfl|rfl|rfl|rfl <;> rfl
  rw[List.getElem?_append_right (by simp;omega),show ([fX s 0,fX s 1,fX s 2,fX s 3]:List Value).length=4 from rfl,ih,show j / 4=(j-4) / 4+1 by omega,show j % 4=(j-4) % 4 by omega,List.getElem?_cons_succ]
theorem zlY(l:List nM)(s:nM):p8 (l++[s])=p8 l++[fX s 0,fX s 1,fX s 2,fX s 3]:=by simp[p8]
theorem zpi(l:List nM)(b k:Nat)(hb:b<l.length)(hk:k<4):(p8 l)[b*4+k]?=some (fX (l.getD b lF) k):=by
 rw[O1,show (b*4+k) / 4=b by omega,show (b*4+k) % 4=k by omega,List.getElem?_eq_getElem hb,oG _ _ _ hb];rfl
theorem zoa(l:List nM)(b k:Nat)(s:nM)(hb:b<l.length)(hk:k<4)(hs:∀k',k'<4->k'≠k->fX s k'=fX (l.getD b lF) k'):p8 (l.set b s)=(p8 l).set (b*4+k) (fX s k):=by
 apply List.ext_getElem?;intro j;rw[O1,List.getElem?_set,List.getElem?_set,zn9,O1];by_cases e:b=j / 4
 ·subst e;rw[if_pos rfl,if_pos hb];by_cases e2:j / 4*4+k=j
  ·rw[if_pos e2,if_pos (by omega),show j % 4=k by omega];rfl
  rw[if_neg e2,List.getElem?_eq_getElem hb,<-oG _ _ lF hb];show some (fX s (j % 4))=some _;rw[hs (j % 4) (by omega) (by omega)]
 rw[if_neg e,if_neg (by omega)]
theorem zio(l:List Nat)(j x:Nat):(cy l).set j (.int .i64 (x:Int))=cy (l.set j x):=by simp[cy,List.map_set]
theorem Z2(l:List Nat)(j:Nat)(h:j<l.length):(cy l)[j]?=some (.int .i64 ((l.getD j 0:Nat):Int)):=by rw[AN l j h,oG l j 0 h]
theorem zjU{w:World}{t size:Nat}{xs:List Value}(h:w.ownsRow B t size (.slice a n c) n xs)(k:Nat)(hk:k<=n):w.ownsRow B t size (.slice a k c) k (xs.take (k*size)):=by
 have hl:k*size<=n*size:=Nat.mul_le_mul_right size hk;refine⟨by rw[length_take,h.1];omega,?_⟩;rcases h.2 with ⟨h1,h2⟩|⟨g,cap,cur,h1,h3,h4,h5,h6,h7,h8⟩
 ·injection h1 with e1 e2 e3;have pw:k=0:=by omega
  subst pw;rw[e1,e3];exact inl ⟨rfl,rfl⟩
 injection h1 with e1 e2 e3;rw[e1,e3];refine inr ⟨g,cap,cur,rfl,h3,h4,by omega,h6,h7,?_⟩;rw[<-h8,List.take_take,Nat.min_eq_left hl]
def BB(i:Nat):Nat:=if i<3 then i else i+1
def sy(v:Nat->Value)(i:Nat)(u:Value):Nat->Value:=fun j=>if j=i then u else v j
theorem BI(v:Nat->Value)(i:Nat)(u:Value):sy v i u i=u:=if_pos rfl
theorem yP(v:Nat->Value)(i j:Nat)(u:Value)(h:j≠i):sy v i u j=v j:=if_neg h
theorem Ea(L:Nat->List Nat)(i:Nat)(u:List Nat):eu L i u i=u:=if_pos rfl
theorem Cg(L:Nat->List Nat)(i j:Nat)(u:List Nat)(h:j≠i):eu L i u j=L j:=if_neg h
def pv(v:Nat->Value)(vS:Value):Array Value:=#[v 0,v 1,v 2,vS,v 3,v 4]
structure bq (V:World)(B:Nat)(bs:List Nat)(b:Nat)(v:Nat->Value)(vS:Value)(P:Pt)(w:World):Prop where
 kept:Kept [] bs V w
 below:Below B V w
 st:St w 215 b (pv v vS)
 row:∀i,i<5->w.ownsRow B 3 1 (v i) (P.L i).length (cy (P.L i))
 sep:∀i j,i<5->j<5->i≠j->∀g,(v i).ownBlock=some g->(v j).ownBlock≠some g
 ny:w.ownsRow B 225 4 vS P.sp.length (p8 P.sp)
 loc:∀i,i<5->∀g,(v i).ownBlock=some g->g∈bs\/V.heap.size<=g
 lT:∀g,vS.ownBlock=some g->g∈bs\/V.heap.size<=g
 jx:b∈bs
 lo:B<=b/\B<=V.heap.size
section
variable {V : World}{B b : Nat}{bs : List Nat}{v : Nat → Value}{vS : Value}{P : Pt}{w : World}
theorem bq.hB(h:bq V B bs b v vS P w):B<=w.heap.size:=le_trans h.lo.2 h.below.size
theorem bq.aa{w1:World}(h:bq V B bs b v vS P w)(k:Below w.heap.size w w1):bq V B bs b v vS P w1:=
 ⟨h.kept.below k,h.below.trans (k.mono h.hB),h.st.aa k,fun i hi=>dp (h.row i hi) k,h.sep,dp h.ny k,h.loc,h.lT,h.jx,h.lo⟩
theorem zob(v:Nat->Value)(vS:Value)(i:Nat)(hi:i<5):(pv v vS)[BB i]?=some (v i):=by
 have:i=0\/i=1\/i=2\/i=3\/i=4:=by omega
 rcases this with rfl|rfl|rfl|rfl|rfl <;> rfl
theorem X4(v:Nat->Value)(vS u:Value)(i:Nat)(hi:i<5):(pv v vS).setIfInBounds (BB i) u=pv (sy v i u) vS:=by
 have:i=0\/i=1\/i=2\/i=3\/i=4:=by omega
 rcases this with rfl|rfl|rfl|rfl|rfl <;> rfl
theorem zjV(v:Nat->Value)(vS u:Value):(pv v vS).setIfInBounds 3 u=pv v u:=rfl
theorem bq.cell(h:bq V B bs b v vS P w)(i:Nat)(hi:i<5):w.cell? ⟨b,BB i,none⟩=some (v i)/\w.frozen? ⟨b,BB i,none⟩=false:=⟨by rw[h.st.at_,zob v vS i hi],h.st.ba _⟩
theorem bq.mA(h:bq V B bs b v vS P w):w.cell? ⟨b,3,none⟩=some vS/\w.frozen? ⟨b,3,none⟩=false:=⟨by rw[h.st.at_];rfl,h.st.ba _⟩
theorem bq.num(h:bq V B bs b v vS P w)(i:Nat)(hi:i<5)(j:Nat)(hj:j<(P.L i).length):∃g c,v i=.slice (some ⟨g,0,none⟩) (P.L i).length c/\w.cell? ⟨g,j,none⟩=some (.int .i64 (((P.L i).getD j 0:Nat):Int))/\w.frozen? ⟨g,j,none⟩=false:=by
 have ho:=h.row i hi;obtain⟨a,c,e⟩:=bF ho;rw[e] at ho⊢;obtain⟨g,rfl,_,_,hc⟩:=eR ho (by omega);obtain⟨h1,h2⟩:=hc j (by omega);exact⟨g,c,rfl,by rw[h1,Z2 _ _ hj],h2⟩
theorem bq.span(h:bq V B bs b v vS P w)(j:Nat)(hj:j<P.sp.length):∃g c,vS=.slice (some ⟨g,0,none⟩) P.sp.length c/\∀k,k<4->w.cell? ⟨g,j*4+k,none⟩=some (fX (P.s j) k)/\w.frozen? ⟨g,j*4+k,none⟩=false:=by
 have ho:=h.ny;obtain⟨a,c,e⟩:=bF ho;rw[e] at ho⊢;obtain⟨g,rfl,_,_,hc⟩:=eR ho (by omega);refine⟨g,c,rfl,fun k hk=>?_⟩;obtain⟨h1,h2⟩:=hc (j*4+k) (by omega);exact⟨by rw[h1,zpi _ _ _ hj hk];rfl,h2⟩
theorem bq.ne(h:bq V B bs b v vS P w):(∀i,i<5->∀g,(v i).ownBlock=some g->g≠b)/\(∀g,vS.ownBlock=some g->g≠b)/\(∀i,i<5->∀g,(v i).ownBlock=some g->vS.ownBlock≠some g):=
 ⟨fun i hi=>dG (h.row i hi) h.st (by decide),dG h.ny h.st (by decide),fun i hi=>gP (h.row i hi) h.ny (by decide)⟩
theorem bq.put(h:bq V B bs b v vS P w)(i:Nat)(hi:i<5)(hv:v i=.slice (some ⟨g,0,none⟩) n c)(j x:Nat)(hj:j<(P.L i).length):
  bq V B bs b v vS ⟨eu P.L i ((P.L i).set j x),P.sp⟩ (w.setCell ⟨g,j,none⟩ (.int .i64 (x:Int))):=by
 have hg:(v i).ownBlock=some g:=by rw[hv];rfl
 have hk:Kept [] [g] w (w.setCell ⟨g,j,none⟩ (.int .i64 (x:Int))):=(Kept.refl _ _ _).setCell _ _ (inl (by simp));have hn:n=(P.L i).length:=by
  obtain⟨a,c',e⟩:=bF (h.row i hi);rw[hv] at e;injection e
 refine⟨h.kept.setCell _ _ ((h.loc i hi g hg).elim inl (fun x=>inr (inl x))),h.below.setCell (p:=⟨g,j,none⟩) (km (h.row i hi) g hg) _,h.st.eD (p:=⟨g,j,none⟩) (fun e=>h.ne.1 i hi g hg e.symm) _,fun k hk5=>?_,h.sep,fy h.ny hk (by simp) (fun g2 e hm=>h.ne.2.2 i hi g hg (by rw[e,List.mem_singleton.1 hm])),h.loc,h.lT,h.jx,h.lo⟩;by_cases e:k=i
 ·subst e;simp only[Ea];have ho:=h.row k hi;rw[hv,<-hn] at ho;have:=vn ho j (by omega) (.int .i64 (x:Int));rw[zio] at this;rw[hv,length_set,<-hn];exact this
 simp only[Cg _ _ _ _ e];exact fy (h.row k hk5) hk (by simp) (fun g2 e2 hm=>h.sep i k hi hk5 (fun e3=>e e3.symm) g hg (by rw[e2,List.mem_singleton.1 hm]))
theorem bq.xJ(h:bq V B bs b v vS P w)(hv:vS=.slice (some ⟨g,0,none⟩) n c)(j k:Nat)(s:nM)(hj:j<P.sp.length)(hk:k<4)(hs:∀k',k'<4->k'≠k->fX s k'=fX (P.s j) k'):
  bq V B bs b v vS ⟨P.L,P.sp.set j s⟩ (w.setCell ⟨g,j*4+k,none⟩ (fX s k)):=by
 have hg:vS.ownBlock=some g:=by rw[hv];rfl
 have Aa:Kept [] [g] w (w.setCell ⟨g,j*4+k,none⟩ (fX s k)):=(Kept.refl _ _ _).setCell _ _ (inl (by simp));have hn:n=P.sp.length:=by
  obtain⟨a,c',e⟩:=bF h.ny;rw[hv] at e;injection e
 refine⟨h.kept.setCell _ _ ((h.lT g hg).elim inl (fun x=>inr (inl x))),h.below.setCell (p:=⟨g,j*4+k,none⟩) (km h.ny g hg) _,h.st.eD (p:=⟨g,j*4+k,none⟩) (fun e=>h.ne.2.1 g hg e.symm) _,fun i hi=>fy (h.row i hi) Aa (by simp) (fun g2 e hm=>h.ne.2.2 i hi g2 e (by rw[hg,List.mem_singleton.1 hm])),h.sep,?_,h.loc,h.lT,h.jx,h.lo⟩;have ho:=h.ny;rw[hv,<-hn] at ho;have:=zlU ho (j*4+k) (by omega) (fX s k);show ownsRow _ _ _ _ _ (P.sp.set j s).length (p8 (P.sp.set j s));rw[length_set,zoa _ _ _ _ hj hk hs,hv,<-hn];exact this
theorem bq.app{w':World}{v':Value}{x q:Nat}(h:bq V B bs b v vS P w)(i:Nat)(hi:i<5)(hq:(P.L i).length=q)(ho:w'.ownsRow B 3 1 v' (q+1) (cy (P.L i)++[.int .i64 (x:Int)]))(hg:w.grownBy w' (v i).ownBlock)
  (ew:v'.ownBlock=(v i).ownBlock\/v'.ownBlock=some w.heap.size\/∃g,v'.ownBlock=some g/\w.heap.size<=g):bq V B bs b (sy v i v') vS ⟨eu P.L i (P.L i++[x]),P.sp⟩ (w'.setCell ⟨b,BB i,none⟩ v'):=by
 subst hq;have dC:St w' 215 b (pv v vS):=h.st.ag (h.row i hi) (by decide) hg;have Dr:∀g,v'.ownBlock=some g->(v i).ownBlock=some g\/w.heap.size<=g:=fun g e=>by
  rcases ew with e1|e1|⟨g2,e1,e2⟩
  ·exact inl (by rw[<-e1];exact e)
  ·rw[e] at e1;injection e1 with e1;exact inr (by omega)
  rw[e] at e1;injection e1 with e1;exact inr (by omega)
 have aw:∀j,j<5->∀g,(v j).ownBlock=some g->g<w.heap.size:=fun j hj=>lx (h.row j hj)
 have hB:Below B V w':=fH h.below (h.row i hi) h.hB hg;refine⟨(h.kept.grown hg (fun g e=>(h.loc i hi g e).elim inl (fun x=>inr (inl x)))).setCell _ _ (inl h.jx),hB.setCell (p:=⟨b,BB i,none⟩) h.lo.1 _,?_,fun j hj=>?_,fun j k hj hk hjk g=>?_,jI (uO h.ny (h.row i hi) (by decide) hg) dC (by decide) _ _,fun j hj g=>?_,h.lT,h.jx,h.lo⟩
 ·rw[<-X4 v vS v' i hi];exact dC.set _ _
 ·by_cases e:j=i
  ·subst e;simp only[BI,Ea];rw[x8,length_append];exact jI ho dC (by decide) _ _
  simp only[yP _ _ _ _ e,Cg _ _ _ _ e];exact jI (ri (h.row j hj) hg (fun g e1 e2=>h.sep j i hj hi e g e1 e2.symm)) dC (by decide) _ _
 ·by_cases e1:j=i
  ·subst e1;rw[BI,yP _ _ _ _ (fun e=>hjk e.symm)];intro e2 e3;rcases Dr g e2 with e4|e4
   ·exact h.sep j k hj hk hjk g e4 e3
   have:=aw k hk g e3;omega
  rw[yP _ _ _ _ e1];by_cases e2:k=i
  ·subst e2;rw[BI];intro e3 e4;rcases Dr g e4 with e5|e5
   ·exact h.sep j k hj hk hjk g e3 e5
   have:=aw j hj g e3;omega
  rw[yP _ _ _ _ e2];exact h.sep j k hj hk hjk g
 by_cases e:j=i
 ·subst e;rw[BI];intro e2;rcases Dr g e2 with e3|e3
  ·exact h.loc j hj g e3
  exact inr (le_trans h.below.size e3)
 rw[yP _ _ _ _ e];exact h.loc j hj g
theorem bq.Qj{v':Value}{s:nM}(h:bq V B bs b v vS P w)(hq:P.sp.length=q)(ho:w'.ownsRow B 225 4 v' (q+1) (p8 P.sp++[fX s 0,fX s 1,fX s 2,fX s 3]))(hg:w.grownBy w' vS.ownBlock)
  (ew:v'.ownBlock=vS.ownBlock\/v'.ownBlock=some w.heap.size\/∃g,v'.ownBlock=some g/\w.heap.size<=g):bq V B bs b v v' ⟨P.L,P.sp++[s]⟩ (w'.setCell ⟨b,3,none⟩ v'):=by
 subst hq;have dC:St w' 215 b (pv v vS):=h.st.ag h.ny (by decide) hg;have hB:Below B V w':=fH h.below h.ny h.hB hg;refine⟨(h.kept.grown hg (fun g e=>(h.lT g e).elim inl (fun x=>inr (inl x)))).setCell _ _ (inl h.jx),hB.setCell (p:=⟨b,3,none⟩) h.lo.1 _,?_,fun j hj=>jI (uO (h.row j hj) h.ny (by decide) hg) dC (by decide) _ _,h.sep,?_,h.loc,fun g e=>?_,h.jx,h.lo⟩
 ·rw[<-zjV v vS v'];exact dC.set _ _
 ·show ownsRow _ _ _ _ _ (P.sp++[s]).length (p8 (P.sp++[s]));rw[zlY,length_append];exact jI ho dC (by decide) _ _
 rcases ew with e1|e1|⟨g2,e1,e2⟩
 ·exact h.lT g (by rw[<-e1];exact e)
 ·rw[e] at e1;injection e1 with e1;exact inr (by have:=h.below.size;omega)
 rw[e] at e1;injection e1 with e1;exact inr (by have:=h.below.size;omega)
theorem bq.xo(h:bq V B bs b v vS P w)(i:Nat)(hi:i<5)(hv:v i=.slice a n c)(k:Nat)(hk:k<=(P.L i).length):
  bq V B bs b (sy v i (.slice a k c)) vS ⟨eu P.L i ((P.L i).take k),P.sp⟩ (w.setCell ⟨b,BB i,none⟩ (.slice a k c)):=by
 have ho:=h.row i hi;have hn:n=(P.L i).length:=by
  obtain⟨a,c',e⟩:=bF ho;rw[hv] at e;injection e
 rw[hv,<-hn] at ho;have ho2:=zjU ho k (by omega);have nZ:(Value.slice a k c).ownBlock=(v i).ownBlock:=by rw[hv];cases a <;> rfl
 refine⟨h.kept.setCell _ _ (inl h.jx),h.below.setCell (p:=⟨b,BB i,none⟩) h.lo.1 _,?_,fun j hj=>?_,fun j l hj hl hjl g=>?_,jI h.ny h.st (by decide) _ _,fun j hj g=>?_,h.lT,h.jx,h.lo⟩
 ·rw[<-X4 v vS _ i hi];exact h.st.set _ _
 ·by_cases e:j=i
  ·subst e;simp only[BI,Ea];rw[show cy ((P.L j).take k)=(cy (P.L j)).take (k*1) by simp[cy,List.map_take],length_take,Nat.min_eq_left hk];exact jI ho2 h.st (by decide) _ _
  simp only[yP _ _ _ _ e,Cg _ _ _ _ e];exact jI (h.row j hj) h.st (by decide) _ _
 ·have hh:=h.sep j l hj hl hjl g;by_cases e1:j=i
  ·subst e1;rw[BI,yP _ _ _ _ (fun e=>hjl e.symm),nZ];exact hh
  rw[yP _ _ _ _ e1];by_cases e2:l=i
  ·subst e2;rw[BI,nZ];exact hh
  rw[yP _ _ _ _ e2];exact hh
 by_cases e:j=i
 ·subst e;rw[BI,nZ];exact h.loc j hj g
 rw[yP _ _ _ _ e];exact h.loc j hj g
def bf(b:Nat)(v:Nat->Value)(vS:Value):List Nat:=b :: (vS.ownBlock.toList++(List.range 5).flatMap fun i=>(v i).ownBlock.toList)
theorem uF{b:Nat}:x∈bf b v vS↔x=b\/vS.ownBlock=some x\/∃i,i<5/\(v i).ownBlock=some x:=by
 unfold bf;rw[List.mem_cons,List.mem_append,List.mem_flatMap];simp only[Option.mem_toList,Option.mem_def,List.mem_range]
theorem bq.start(h:bq V B bs b v vS P w):bq w B (bf b v vS) b v vS P w:=
 ⟨Kept.refl _ _ _,Below.refl _ _,h.st,h.row,h.sep,h.ny,fun i hi g e=>inl (uF.2 (inr (inr ⟨i,hi,e⟩))),fun g e=>inl (uF.2 (inr (inl e))),uF.2 (inl rfl),h.lo.1,h.hB⟩
theorem bq.rU(h:bq V B bs b v vS P w):∀x∈bf b v vS,x∈bs\/V.heap.size<=x:=fun x hx=>by
 rcases uF.1 hx with rfl|e|⟨i,hi,e⟩
 ·exact inl h.jx
 ·exact h.lT x e
 ·exact h.loc i hi x e
theorem bq.back{v':Nat->Value}{vS':Value}{P':Pt}(h:bq V B bs b v vS P w)(h2:bq w B (bf b v vS) b v' vS' P' w'):bq V B bs b v' vS' P' w':=by
 have up:∀x,x∈bf b v vS\/w.heap.size<=x->x∈bs\/V.heap.size<=x:=fun x hx=>by
  rcases hx with hx|hx
  ·exact h.rU x hx
  exact inr (le_trans h.below.size hx)
 refine⟨fun k o hk ho hn=>h2.kept k o (h.kept k o hk ho hn) ho (fun hm=>?_),h.below.trans h2.below,h2.st,h2.row,h2.sep,h2.ny,fun i hi g e=>up g (h2.loc i hi g e),fun g e=>up g (h2.lT g e),h.jx,h.lo⟩;rcases h.rU k hm with h3|h3
 ·exact hn h3
 have:=(Array.getElem?_eq_some_iff.1 hk).1;omega
theorem bq.congr{P':Pt}(h:bq V B bs b v vS P w)(e1:∀i,i<5->P.L i=P'.L i)(e2:P.sp=P'.sp):bq V B bs b v vS P' w:=
 ⟨h.kept,h.below,h.st,fun i hi=>by rw[<-e1 i hi];exact h.row i hi,h.sep,by rw[<-e2];exact h.ny,h.loc,h.lT,h.jx,h.lo⟩
end
theorem Ay{g' n' c':Nat}(h:Value.slice (some ⟨g,0,none⟩) n c=.slice (some ⟨g',0,none⟩) n' c'):g=g':=by
 injection h with e _ _;injection e with e;injection e
def OC(V:World)(B:Nat)(bs:List Nat)(b:Nat)(P:Pt)(e:Ending)(w':World):Prop:=∃v vS,e=.returned (.tuple #[])/\bq V B bs b v vS P w'
structure VK (P:Pt)(x:Nat):Prop where
 b:P.b x<P.sp.length
 l2:x<(P.L 2).length
 tt:P.to x<(P.L 0).length
 fr:P.p x<(P.L 0).length
 l1:x<(P.L 1).length
 ot:P.o (P.to x)<(P.L 1).length
 n0:(P.L 0).length<=100000
 n3:(P.L 3).length<=100000
theorem Tv(P:Pt)(x i:Nat)(h:i≠3):dv P x i=P.L i:=by
 unfold dv;split
 ·exact Cg _ _ _ _ h
 rfl
theorem bq.FO{V:World}{b:Nat}{P:Pt}{w:World}(h:bq V B bs b v vS P w)(i:Nat)(hi:i<5)(hv:v i=.slice (some ⟨g,0,none⟩) n c)(j x k y:Nat)(hj:j<(P.L i).length)(hk:k<(P.L i).length):
  bq V B bs b v vS ⟨eu P.L i (((P.L i).set j x).set k y),P.sp⟩ ((w.setCell ⟨g,j,none⟩ (.int .i64 (x:Int))).setCell ⟨g,k,none⟩ (.int .i64 (y:Int))):=by
 have h2:=(h.put i hi hv j x hj).put i hi hv k y (by show k<(eu P.L i ((P.L i).set j x) i).length;rw[Ea,length_set];exact hk);refine h2.congr (fun l hl=>?_) rfl;show eu (eu P.L i ((P.L i).set j x)) i ((eu P.L i ((P.L i).set j x) i).set k y) l=eu P.L i (((P.L i).set j x).set k y) l;rw[Ea];unfold eu;split <;> rfl
theorem zoc(V:World)(B b:Nat)(bs:List Nat)(v:Nat->Value)(vS:Value)(P:Pt)(w:World)(h:bq V B bs b v vS P w)(x:Nat)(ok:VK P x):
  Calls prog 179 #[.pointer (some ⟨b,0,none⟩),.int .i64 (x:Int)] w (OC V B bs b (iv P x)):=by
 obtain⟨k,hk⟩:∃k,P.b x=k:=⟨_,rfl⟩
 have hkl:k<P.sp.length:=by rw[<-hk];exact ok.b
 obtain⟨nS,xC⟩:∃nS,P.sp.length=nS:=⟨_,rfl⟩
 obtain⟨g2,c2,e2,d2,_⟩:=h.num 2 (by omega) x ok.l2;obtain⟨gS,cS,eS,dS⟩:=h.span k hkl;have a2:w.cell? ⟨b,2,none⟩=some (v 2):=(h.cell 2 (by omega)).1;have aS:=h.mA.1;have dh:=(dS 2 (by omega)).1;rw[e2] at a2;rw[eS] at aS;rw[show (P.L 2).getD x 0=k from hk] at d2;obtain⟨n2,dj⟩:∃n2,(P.L 2).length=n2:=⟨_,rfl⟩
 have i2:(x:Int)<n2:=by have:=ok.l2;omega
 have iS:(k:Int)<nS:=by omega
 rw[dj] at a2;rw[xC] at aS;obtain⟨hh,A6⟩:∃hh,(P.s k).h=hh:=⟨_,rfl⟩
 have Ue:w.cell? ⟨gS,k*4+2,none⟩=some (.int .i64 (hh:Int)):=by rw[dh];show some (Value.int .i64 (((P.s k).h:Nat):Int))=_;rw[A6]
 have H:=hid h;have Hk:=hid hk;have yr:=hid ok;have Xa:=hid eS;have EG:=hid A6;have HnS:=hid xC;clear h hk ok e2 eS dS dh dj A6 xC;go_enter func179,ntmps179
 go_upto_if 26 with (fail)
 go_cut [4,5] from 26 to 36 (fun v4 v5 wx=>∃v',v4=.int .i64 (k:Int)/\v5=.pointer (some ⟨gS,k*4,none⟩)/\bq V B bs b v' vS ⟨dv P x,P.sp⟩ wx)
 case first=>
  by_cases h0:hh=0
  ·subst h0;obtain⟨q,hq⟩:∃q,(P.L 3).length=q:=(⟨_,rfl⟩);have hO:=H.out.row 3 (by omega);obtain⟨a3,c3,e3⟩:=bF hO;have a4:w.cell? ⟨b,4,none⟩=some (v 3):=(H.out.cell 3 (by omega)).1;rw[hq] at hO e3;rw[e3] at hO a4;have L3:q<=100000:=(by have:=yr.out.n3;omega);have hV:=H.out.hB;have qj:=hid e3;have Hq:=hid hq;obtain⟨i0,hi,dD,db,cW⟩:=info_parts az;have i3:(((0:Nat):Int) == 0)=true:=(by rfl);clear e3 hq;go_wp2_with (at_builtin;refine wpList_append_own_at _ rfl _ _ 43 rfl B 3 i0 (.int .i64 0) 1 8 underlying43 hi dD db cW rfl (by decide) _ _ _ rfl (hO.alloc _) ⟨w.heap.size,0,none⟩ 1 1 [.int .i64 (k:Int)] rfl rfl (cell_one_new _ _ _) ?d2 ?d3 ?d4 ?d5 ?_)
   case d2=>intro u hu;simp at hu;subst hu;rfl
   case d3=>unfold maxLen;omega
   case d4=>omega
   case d5=>simp;omega
   intro v' w5 ak aj _ bg;have h2:=H.out.aa (al w (.cells #[.int .i64 (k:Int)] 3));have OJ:=h2.row 3 (by omega);rw[Hq.out,qj.out] at OJ;have fm:=h2.st.ag OJ (by decide) aj;have p3:w5.cell? ⟨b,4,none⟩=some (.slice a3 q c3):=(by rw[fm.at_];show some (v 3)=_;rw[qj.out]);have pf:=fm.ba 4;have HF:Hid (bq V B bs b (sy v 3 v') vS ⟨dv P x,P.sp⟩ (w5.setCell ⟨b,4,none⟩ v')):=by
    have h3:=h2.app (v':=v') 3 (by omega) Hq.out ak (by rw[qj.out];exact aj) (by
     rw[show (w.alloc (.cells #[.int .i64 (k:Int)] 3)).heap.size=w.heap.size+1 by simp,qj.out]
     rcases bg with h|h
     ·exact inl h
     ·exact inr (inl h))
    have e:dv P x=eu P.L 3 (P.L 3++[k]):=by
     unfold dv;rw[Hk.out,if_pos EG.out]
    show bq V B bs b (sy v 3 v') vS ⟨dv P x,P.sp⟩ (w5.setCell ⟨b,4,none⟩ v');rw[e];exact h3
   obtain⟨a5,c5,rfl⟩:=bF ak;clear ak aj bg h2 OJ fm hO a4 a2 aS d2 Ue;go_wp2_with fail
   go_meet
   exact⟨sy v 3 (.slice a5 (q+1) c5),rfl,rfl,HF.out⟩
  have i3:((hh:Int) == 0)=false:=by simp;omega
  have e:dv P x=P.L:=by
   unfold dv;rw[Hk.out,if_neg (by rw[EG.out];exact h0)]
  have HF:Hid (bq V B bs b v vS ⟨dv P x,P.sp⟩ w):=by
   show bq V B bs b v vS ⟨dv P x,P.sp⟩ w;rw[e];exact H.out
  clear e h0;go_wp2_with fail
  go_meet
  exact⟨v,rfl,rfl,HF.out⟩
 case rest=>
  obtain⟨v',rfl,rfl,h⟩:=hcut;have Cw:=Xa;clear a2 aS d2 Ue i2 Xa;obtain⟨f,hf⟩:∃f,(P.s k).f=f:=⟨_,rfl⟩
  obtain⟨tt,xO⟩:∃tt,P.to x=tt:=⟨_,rfl⟩
  obtain⟨fr,tq⟩:∃fr,P.p x=fr:=⟨_,rfl⟩
  obtain⟨ot,LF⟩:∃ot,P.o tt=ot:=⟨_,rfl⟩
  have Ak:f+hh=tt:=by rw[<-xO,<-hf,<-EG.out,<-Hk.out];rfl
  have h0:=Tv P x 0 (by omega);have h1:=Tv P x 1 (by omega);have tl:=yr.out.tt;have fl:=yr.out.fr;have xl:=yr.out.l1;have ol:=yr.out.ot;have n0:=yr.out.n0;rw[xO] at tl ol;rw[LF] at ol;rw[tq] at fl;obtain⟨g0,c0,e0,y0,z0⟩:=h.num 0 (by omega) tt (by show tt<(dv P x 0).length;rw[h0];exact tl);obtain⟨_,_,Kj,Mu,Ww⟩:=h.num 0 (by omega) fr (by show fr<(dv P x 0).length;rw[h0];exact fl);obtain⟨g1,c1,e1,y1,z1⟩:=h.num 1 (by omega) x (by show x<(dv P x 1).length;rw[h1];exact xl);obtain⟨_,_,Ky,T8,z1'⟩:=h.num 1 (by omega) ot (by show ot<(dv P x 1).length;rw[h1];exact ol);obtain⟨Mt,cS',O5,Ov⟩:=h.span k (by show k<P.sp.length;rw[HnS.out];omega);obtain rfl:Mt=gS:=by
   have:=Cw.out;rw[this] at O5;exact (Ay O5).symm
  have b0:wc.cell? ⟨b,0,none⟩=some (v' 0):=(h.cell 0 (by omega)).1;have b1:wc.cell? ⟨b,1,none⟩=some (v' 1):=(h.cell 1 (by omega)).1;obtain⟨m0,oo⟩:∃m0,(P.L 0).length=m0:=⟨_,rfl⟩
  obtain⟨m1,nc⟩:∃m1,(P.L 1).length=m1:=⟨_,rfl⟩
  have s0:wc.cell? ⟨Mt,k*4,none⟩=some (.int .i64 (f:Int)):=by
   have:=(Ov 0 (by omega)).1;rw[<-hf];exact this
  have s2:wc.cell? ⟨Mt,k*4+2,none⟩=some (.int .i64 (hh:Int)):=by
   have:=(Ov 2 (by omega)).1;rw[<-EG.out];exact this
  have Bc:(⟨dv P x,P.sp⟩:Pt).L 0=P.L 0:=h0;have zu:(⟨dv P x,P.sp⟩:Pt).L 1=P.L 1:=h1;rw[Bc] at e0 Kj y0 Mu;rw[zu] at e1 Ky y1 T8;rw[e0] at Kj b0;rw[e1] at Ky b1;obtain⟨rfl,_⟩:g0=_/\True:=⟨Ay Kj,trivial⟩
  obtain⟨rfl,_⟩:g1=_/\True:=⟨Ay Ky,trivial⟩
  rw[oo] at b0 tl fl n0;rw[nc] at b1 xl ol;rw[show (P.L 0).getD tt 0=ot from LF] at y0;rw[show (P.L 1).getD x 0=fr from tq] at y1;clear T8 Kj Ky Ov;have i0:(tt:Int)<m0:=by omega
  have i1:(fr:Int)<m0:=by omega
  have i4:(x:Int)<m1:=by omega
  have i5:(ot:Int)<m1:=by omega
  have its:(f:Int)+(hh:Int)=tt:=by omega
  have HL:=hid (Zz Bc (Zz zu (Zz e0 (Zz e1 (Zz oo (Zz nc (Zz xO (Zz tq LF))))))));have HP:=hid h;clear Bc zu e0 e1 oo nc xO tq LF h Ak h0 h1 hf O5;go_upto_region 4 with fail;go_quiet (fail);go_upto_region 6 with fail;obtain⟨xf,VN⟩:∃xf,(P.L 0).getD fr 0=xf:=⟨_,rfl⟩
  rw[VN] at Mu;obtain⟨W6,zk,t0,t1,t2,t3,t4,UM⟩:∃W6,wc.drewN nq=W6/\W6.cell? ⟨b,0,none⟩=some (.slice (some ⟨g0,0,none⟩) m0 c0)/\W6.cell? ⟨g0,tt,none⟩=some (.int .i64 (ot:Int))/\W6.frozen? ⟨g0,tt,none⟩=false/\W6.frozen? ⟨g0,fr,none⟩=false/\
    W6.cell? ⟨g0,fr,none⟩=some (.int .i64 (xf:Int))/\Hid (bq V B bs b v' vS ⟨dv P x,P.sp⟩ W6):=⟨_,rfl,b0,y0,z0,Ww,Mu,HP.out.aa (below_drewN (Below.refl _ _) nq)⟩
  rw[zk];clear zk VN b0 b1 s0 s2 y0 y1 z0 z1 Ww z1' Mu HP;obtain⟨xg,t5⟩:=cell?_setCell_some (w:=W6) (p:=⟨g0,tt,none⟩) (x:=.int .i64 (x:Int)) (q:=⟨g0,fr,none⟩) t4
  go_region
  have xm:(P.L 0).length=m0/\(P.L 1).length=m1:=⟨HL.out.2.2.2.2.1,HL.out.2.2.2.2.2.1⟩
  have IG:dv P x 0=P.L 0:=HL.out.1;have OW:dv P x 1=P.L 1:=HL.out.2.1;obtain⟨L7,Nj,e7⟩:∃L7,eu (dv P x) 0 (((P.L 0).set tt x).set fr ot)=L7/\L7 1=P.L 1:=⟨_,rfl,by rw[Cg _ _ _ _ (by omega),OW]⟩
  have FB:bq V B bs b v' vS ⟨L7,P.sp⟩ ((W6.setCell ⟨g0,tt,none⟩ (.int .i64 (x:Int))).setCell ⟨g0,fr,none⟩ (.int .i64 (ot:Int))).drew:=by
   have q1:=(UM.out.FO 0 (by omega) HL.out.2.2.1 tt x fr ot (by show tt<(dv P x 0).length;rw[IG,xm.1];exact tl) (by show fr<(dv P x 0).length;rw[IG,xm.1];exact fl)).aa (Below.refl _ _).drew;have e:eu (dv P x) 0 (((dv P x 0).set tt x).set fr ot)=L7:=(by rw[IG];exact Nj);have q2:bq V B bs b v' vS ⟨eu (dv P x) 0 (((dv P x 0).set tt x).set fr ot),P.sp⟩ _:=q1;rw[e] at q2;exact q2
  clear t0 t1 t2 t3 t4 t5 UM;have Vk:x<(L7 1).length:=by rw[e7,xm.2];exact xl
  have WH:ot<(L7 1).length:=by rw[e7,xm.2];exact ol
  have u1:World.cell? _ ⟨b,1,none⟩=some (v' 1):=(FB.cell 1 (by omega)).1;obtain⟨_,_,w1,w2,w3⟩:=FB.num 1 (by omega) x Vk;obtain⟨_,_,x1,x2,x3⟩:=FB.num 1 (by omega) ot WH;have Qp:v' 1=.slice (some ⟨g1,0,none⟩) m1 c1:=by rw[HL.out.2.2.2.1,xm.2]
  rw[Qp] at w1 x1 u1;replace w1:=Ay w1;replace x1:=Ay x1;rw[<-w1] at w2 w3;rw[<-x1] at x2 x3;clear w1 x1;have FN:=hid (Zz Nj (Zz e7 Qp));have Xl:=hid (Zz xm (Zz IG OW));clear Nj e7 Qp xm IG OW Vk WH;have Xe:=hid FB;clear FB;generalize ((W6.setCell ⟨g0,tt,none⟩ (.int .i64 (x:Int))).setCell ⟨g0,fr,none⟩ (.int .i64 (ot:Int))).drew=W7 at Xe u1 w2 w3 x2 x3⊢;replace w2:∃ya,W7.cell? ⟨g1,x,none⟩=some (.int .i64 ((ya:Nat):Int)):=⟨_,w2⟩
  replace x2:∃ya,W7.cell? ⟨g1,ot,none⟩=some (.int .i64 ((ya:Nat):Int)):=⟨_,x2⟩
  obtain⟨ya,w2⟩:=w2;obtain⟨yb,x2⟩:=x2;obtain⟨xg,t5⟩:=cell?_setCell_some (w:=W7) (p:=⟨g1,x,none⟩) (x:=.int .i64 (tt:Int)) (q:=⟨g1,ot,none⟩) x2;go_upto_region 7 with fail
  go_region
  have E8:bq V B bs b v' vS ⟨eu L7 1 (((P.L 1).set x tt).set ot fr),P.sp⟩ ((W7.setCell ⟨g1,x,none⟩ (.int .i64 (tt:Int))).setCell ⟨g1,ot,none⟩ (.int .i64 (fr:Int))).drew:=by
   have q1:=(Xe.out.FO 1 (by omega) FN.out.2.2 x tt ot fr (by show x<(L7 1).length;rw[FN.out.2.1,Xl.out.1.2];exact xl) (by show ot<(L7 1).length;rw[FN.out.2.1,Xl.out.1.2];exact ol)).aa (Below.refl _ _).drew;have q2:bq V B bs b v' vS ⟨eu L7 1 (((L7 1).set x tt).set ot fr),P.sp⟩ _:=q1;rw[FN.out.2.1] at q2;exact q2
  clear u1 w2 w3 x2 x3 t5;obtain⟨_,cX,x1,x2⟩:=E8.span k hkl;have jD:=Cw.out;rw[jD] at x1;replace x1:=Ay x1;have y2:World.cell? _ ⟨_,k*4+2,none⟩=some (.int .i64 (((P.s k).h:Nat):Int)):=(x2 2 (by omega)).1;have y3:=(x2 2 (by omega)).2;rw[<-x1,EG.out] at y2;rw[<-x1] at y3;clear x1 x2 jD;have SY:=hid E8;clear E8;generalize ((W7.setCell ⟨g1,x,none⟩ (.int .i64 (tt:Int))).setCell ⟨g1,ot,none⟩ (.int .i64 (fr:Int))).drew=W8 at SY y2 y3⊢;have fw:(hh:Int)<=100000:=by omega
  have HF:Hid (bq V B bs b v' vS (iv P x) (W8.setCell ⟨Mt,k*4+2,none⟩ (.int .i64 ((hh:Int)+1)))):=by
   have q:=SY.out.xJ Cw.out k 2 ⟨(P.s k).f,(P.s k).g,(P.s k).h+1,(P.s k).w⟩ hkl (by omega) (fun k' hk' hn=>by
    have:k'=0\/k'=1\/k'=3:=by omega
    rcases this with rfl|rfl|rfl <;> rfl)
   have e1:fX ⟨(P.s k).f,(P.s k).g,(P.s k).h+1,(P.s k).w⟩ 2=.int .i64 ((hh:Int)+1):=by
    show Value.int .i64 (((P.s k).h+1:Nat):Int)=_;rw[EG.out];rfl
   rw[e1] at q;refine q.congr (fun i hi=>?_) ?_
   ·show eu L7 1 (((P.L 1).set x tt).set ot fr) i=eu (eu (dv P x) 0 (((P.L 0).set (P.to x) x).set (P.p x) (P.o (P.to x)))) 1 (((P.L 1).set x (P.to x)).set (P.o (P.to x)) (P.p x)) i;rw[HL.out.2.2.2.2.2.2.1,HL.out.2.2.2.2.2.2.2.1,HL.out.2.2.2.2.2.2.2.2,FN.out.1]
   show P.sp.set k _=P.sp.set (P.b x) _;rw[Hk.out]
  go_wp2_with fail;go_end0;exact⟨v',vS,rfl,HF.out⟩
section
variable {V : World}{B b : Nat}{bs : List Nat}{v : Nat → Value}{vS : Value}{P : Pt}{w : World}
theorem bq.c0(h:bq V B bs b v vS P w):w.cell? ⟨b,0,none⟩=some (v 0)/\w.frozen? ⟨b,0,none⟩=false:=h.cell 0 (by omega)
theorem bq.c1(h:bq V B bs b v vS P w):w.cell? ⟨b,1,none⟩=some (v 1)/\w.frozen? ⟨b,1,none⟩=false:=h.cell 1 (by omega)
theorem bq.c2(h:bq V B bs b v vS P w):w.cell? ⟨b,2,none⟩=some (v 2)/\w.frozen? ⟨b,2,none⟩=false:=h.cell 2 (by omega)
theorem bq.c3(h:bq V B bs b v vS P w):w.cell? ⟨b,4,none⟩=some (v 3)/\w.frozen? ⟨b,4,none⟩=false:=h.cell 3 (by omega)
theorem bq.c4(h:bq V B bs b v vS P w):w.cell? ⟨b,5,none⟩=some (v 4)/\w.frozen? ⟨b,5,none⟩=false:=h.cell 4 (by omega)
structure zod (w:World)(g k:Nat)(s:nM):Prop where
 cf:w.cell? ⟨g,k*4,none⟩=some (.int .i64 (s.f:Int))
 cg:w.cell? ⟨g,k*4+1,none⟩=some (.int .i64 (s.g:Int))
 ch:w.cell? ⟨g,k*4+2,none⟩=some (.int .i64 (s.h:Int))
 cw:w.cell? ⟨g,k*4+3,none⟩=some (.bool s.w)
 z0:w.frozen? ⟨g,k*4,none⟩=false
 z2:w.frozen? ⟨g,k*4+2,none⟩=false
 z3:w.frozen? ⟨g,k*4+3,none⟩=false
theorem bq.Bq(h:bq V B bs b v vS P w)(hv:vS=.slice (some ⟨g,0,none⟩) n c)(j:Nat)(hj:j<P.sp.length):zod w g j (P.s j):=by
 obtain⟨g',c',e,hc⟩:=h.span j hj;rw[hv] at e;obtain rfl:=Ay e;exact⟨(hc 0 (by omega)).1,(hc 1 (by omega)).1,(hc 2 (by omega)).1,(hc 3 (by omega)).1,(hc 0 (by omega)).2,(hc 2 (by omega)).2,(hc 3 (by omega)).2⟩
theorem bq.MS(h:bq V B bs b v vS P w)(i:Nat)(hi:i<5)(hv:v i=.slice (some ⟨g,0,none⟩) n c)(j:Nat)(hj:j<(P.L i).length):w.cell? ⟨g,j,none⟩=some (.int .i64 (((P.L i).getD j 0:Nat):Int))/\w.frozen? ⟨g,j,none⟩=false:=by
 obtain⟨g',c',e,hc⟩:=h.num i hi j hj;rw[hv] at e;obtain rfl:=Ay e;exact hc
theorem bq.sl(h:bq V B bs b v vS P w)(i:Nat)(hi:i<5)(hq:(P.L i).length=q)(h0:0<q):∃g c,v i=.slice (some ⟨g,0,none⟩) q c:=by
 obtain⟨g,c,e,_⟩:=h.num i hi 0 (by omega);exact⟨g,c,by rw[e,hq]⟩
theorem bq.Si(h:bq V B bs b v vS P w)(hq:P.sp.length=q)(h0:0<q):∃g c,vS=.slice (some ⟨g,0,none⟩) q c:=by
 obtain⟨g,c,e,_⟩:=h.span 0 (by omega);exact⟨g,c,by rw[e,hq]⟩
theorem bq.CV(h:bq V B bs b v vS P w)(i:Nat)(hi:i<5)(hq:(P.L i).length=q):∃a c,v i=.slice a q c:=by
 obtain⟨a,c,e⟩:=bF (h.row i hi);exact⟨a,c,by rw[e,hq]⟩
end
theorem zlZ{α:Type}(l:List α)(k:Nat)(a c:α):(l.set k a).set k c=l.set k c:=by simp
theorem Pt.qf(L:Nat->List Nat)(sp:List nM)(k j:Nat)(s:nM)(hk:k<sp.length):(⟨L,sp.set k s⟩:Pt).s j=if k=j then s else sp.getD j lF:=by
 show (sp.set k s).getD j lF=_;rw[wP];by_cases e:k=j
 ·rw[if_pos ⟨e,hk⟩,if_pos e]
 rw[if_neg (fun h=>e h.1),if_neg e]
def zoh(V:World)(B:Nat)(bs:List Nat)(b:Nat)(v0:Nat->Value)(P:Pt)(e:Ending)(w':World):Prop:=∃v vS,e=.returned (.tuple #[])/\v 3=v0 3/\bq V B bs b v vS P w'
structure Vr (P:Pt)(k:Nat):Prop where
 b:k<P.sp.length
 fg:(P.s k).f<=(P.s k).g
 h:(P.s k).f+(P.s k).h<=(P.s k).g
 g:(P.s k).g<=(P.L 0).length
 part:∀x∈P.part k,x<(P.L 2).length
 n0:(P.L 0).length<=100000
 ns:P.sp.length<=100000
 n4:(P.L 4).length<=100000
theorem rT:(prog.info? 225).map (fun i=>(i.zero,i.size,i.bytes))=some (some (.agg #[.int .i64 0,.int .i64 0,.int .i64 0,.bool false]),4,32):=by kernel_rfl
theorem Z3(l xs:List Nat)(x n:Nat):bz l (xs++[x]) n=(bz l xs n).set x n:=by simp[bz,List.foldl_append]
theorem zoi(P:Pt)(k j:Nat)(hj:j<(P.s k).h):(P.part k).getD j 0=(P.L 0).getD ((P.s k).f+j) 0:=by
 unfold Pt.part;rw[List.getD_eq_getElem?_getD,List.getElem?_take_of_lt hj,List.getElem?_drop,List.getD_eq_getElem?_getD]
theorem Me(l:List Nat)(j:Nat)(h:j<l.length):l.take (j+1)=l.take j++[l.getD j 0]:=by
 rw[List.take_add_one,List.getElem?_eq_getElem h,oG _ _ _ h];rfl
theorem zoj(V:World)(B b:Nat)(bs:List Nat)(v:Nat->Value)(vS:Value)(P:Pt)(w:World)(h:bq V B bs b v vS P w)(k:Nat)(ok:Vr P k):
  Calls prog 180 #[.pointer (some ⟨b,0,none⟩),.int .i64 (k:Int)] w (zoh V B bs b v (bK P k)):=by
 have hkl:=ok.b;obtain⟨nS,xC⟩:∃nS,P.sp.length=nS:=⟨_,rfl⟩
 obtain⟨gS,cS,eS⟩:=h.Si xC (by omega);have aS:=h.mA.1;obtain⟨f,hf⟩:∃f,(P.s k).f=f:=⟨_,rfl⟩
 obtain⟨g,hg⟩:∃g,(P.s k).g=g:=⟨_,rfl⟩
 obtain⟨hh,A6⟩:∃hh,(P.s k).h=hh:=⟨_,rfl⟩
 obtain⟨wt,DN⟩:∃wt,(P.s k).w=wt:=⟨_,rfl⟩
 obtain⟨d1,d2,d3,d4,d5,d6,d7⟩:=h.Bq eS k hkl;rw[hf] at d1;rw[hg] at d2;rw[A6] at d3;rw[DN] at d4;rw[eS] at aS;have o1:=ok.fg;have o2:=ok.h;have o3:=ok.g;have o4:=ok.n0;rw[hf,hg] at o1;rw[hf,A6,hg] at o2;rw[hg] at o3;have iS:(k:Int)<nS:=by omega
 have h1:=h.xJ eS k 2 ⟨f,g,0,wt⟩ hkl (by omega) (fun k' hk' hn=>by
  have:k'=0\/k'=1\/k'=3:=by omega
  rcases this with rfl|rfl|rfl
  ·show fX _ 0=Value.int .i64 (((P.s k).f:Nat):Int);rw[hf];rfl
  ·show fX _ 1=Value.int .i64 (((P.s k).g:Nat):Int);rw[hg];rfl
  ·show fX _ 3=Value.bool (P.s k).w;rw[DN];rfl)
 replace h1:bq V B bs b v vS ⟨P.L,P.sp.set k ⟨f,g,0,wt⟩⟩ (w.setCell ⟨gS,k*4+2,none⟩ (.int .i64 0)):=h1;obtain⟨x1,x2,x3,x4,x5,x6,x7⟩:=h1.Bq eS k (by simpa using hkl);rw[Pt.qf _ _ _ _ _ hkl,if_pos rfl] at x1 x2 x3 x4;have HS:=hid (Zz hf (Zz hg (Zz A6 (Zz DN (Zz eS xC)))));have H1:=hid h1;have yr:=hid ok;have i1:(g:Int)-(f:Int)<=100000:=by omega
 have i2:0<=(g:Int)-(f:Int):=by omega
 clear h ok hf hg A6 DN eS xC h1;go_enter func180,ntmps180;go_upto_region 3 with fail;generalize w.setCell ⟨gS,k*4+2,none⟩ (.int .i64 0)=W1 at H1 x1 x2 x3 x4 x5 x6 x7⊢;clear d1 d2 d3 d4 d5 d6 d7 aS;by_cases mz:hh=g-f
 ·have hq:((hh:Int) == (g:Int)-(f:Int))=true:=by rw[beq_iff_eq];omega
  have HF:Hid (bq V B bs b v vS (bK P k) W1):=by
   show bq V B bs b v vS (bK P k) W1;have e:bK P k=⟨P.L,P.sp.set k ⟨f,g,0,wt⟩⟩:=by
    unfold bK;rw[HS.out.1,HS.out.2.1,HS.out.2.2.1,HS.out.2.2.2.1,if_pos mz]
   rw[e];exact H1.out
  clear mz;go_quiet (fail);go_wp2_with fail;refine bodyPost_ret (results_none rfl _ _ _) rfl ?_;exact⟨v,vS,rfl,rfl,HF.out.aa (below_drewN (Below.refl _ _) _)⟩
 have hq:((hh:Int) == (g:Int)-(f:Int))=false:=by rw[beq_eq_false_iff_ne];omega
 have wG:=hid mz;clear mz;go_quiet (fail);go_upto_region 4 with fail;generalize lY:W1.drewN _=W2;have H2:Hid (bq V B bs b v vS ⟨P.L,P.sp.set k ⟨f,g,0,wt⟩⟩ W2):=by rw[<-lY];exact H1.out.aa (below_drewN (Below.refl _ _) _)
 replace x1:W2.cell? ⟨gS,k*4,none⟩=some (.int .i64 (f:Int)):=by rw[<-lY];exact x1
 have wZ:gS<W2.heap.size:=by
  have:=lx H2.out.ny gS (by rw[HS.out.2.2.2.2.1];rfl);exact this
 have x1a:(W2.alloc (.cells #[.int .i64 0,.int .i64 0,.int .i64 0,.bool false] 225)).cell? ⟨gS,k*4,none⟩=some (.int .i64 (f:Int)):=((al W2 (.cells #[.int .i64 0,.int .i64 0,.int .i64 0,.bool false] 225)).cell (p:=⟨gS,k*4,none⟩) wZ).trans x1;clear lY H1 x2 x3 x4 x5 x6 x7 hq;obtain⟨fh,Xm⟩:∃fh,f+hh=fh:=⟨_,rfl⟩
 have Hs:=hid Xm;have its:(f:Int)+(hh:Int)=fh:=by omega
 have o5:fh<=g:=by omega
 have o6:f<=fh:=by omega
 have o7:fh<(P.L 0).length:=by have:=wG.out;omega
 have w1:(fh:Int)<=100000:=by omega
 clear Xm
 go_region
 obtain⟨bC,MR⟩:∃bC,W2.heap.size=bC:=⟨_,rfl⟩
 have Kt:St (W2.alloc (.cells #[.int .i64 (f:Int),.int .i64 (fh:Int),.int .i64 0,.bool false] 225)).drew 225 bC #[.int .i64 (f:Int),.int .i64 (fh:Int),.int .i64 0,.bool false]:=by rw[<-MR];exact (St.new W2 _ _).drew
 have K9:bq V B bs b v vS ⟨P.L,P.sp.set k ⟨f,g,0,wt⟩⟩ (W2.alloc (.cells #[.int .i64 (f:Int),.int .i64 (fh:Int),.int .i64 0,.bool false] 225)).drew:=(H2.out.aa (al W2 _)).aa (Below.refl _ _).drew;rw[MR] at wZ⊢;generalize (W2.alloc (.cells #[.int .i64 (f:Int),.int .i64 (fh:Int),.int .i64 0,.bool false] 225)).drew=W4 at Kt K9⊢;clear MR H2 x1 x1a;obtain⟨x1,x2,x3,x4,x5,x6,x7⟩:=K9.Bq HS.out.2.2.2.2.1 k (by simpa using hkl);rw[Pt.qf _ _ _ _ _ hkl,if_pos rfl] at x1;obtain⟨y0,y1,y2,y3⟩:=Kt.dM;have og:=K9.xJ HS.out.2.2.2.2.1 k 0 ⟨fh,g,0,wt⟩ (by simpa using hkl) (by omega) (fun k' hk' hn=>by
  rw[Pt.qf _ _ _ _ _ hkl,if_pos rfl]
  have:k'=1\/k'=2\/k'=3:=by omega
  rcases this with rfl|rfl|rfl <;> rfl)
 rw[zlZ] at og;replace og:bq V B bs b v vS ⟨P.L,P.sp.set k ⟨fh,g,0,wt⟩⟩ (W4.setCell ⟨gS,k*4,none⟩ (.int .i64 (fh:Int))):=og;have Y8:St (W4.setCell ⟨gS,k*4,none⟩ (.int .i64 (fh:Int))) 225 bC #[.int .i64 (f:Int),.int .i64 (fh:Int),.int .i64 0,.bool false]:=Kt.eD (p:=⟨gS,k*4,none⟩) (fun e=>by
  have:bC=gS:=e
  omega) _
 have H5:=hid (Zz og Y8);clear K9 Kt og Y8;go_upto_region 6 with fail;generalize W4.setCell ⟨gS,k*4,none⟩ (.int .i64 (fh:Int))=W5 at H5⊢;clear x1 x2 x3 x4 x5 x6 x7 y0 y1 y2 y3 wZ;have aS:=H5.out.1.mA.1;rw[HS.out.2.2.2.2.1] at aS;obtain⟨m0,oo⟩:∃m0,(P.L 0).length=m0:=⟨_,rfl⟩
 rw[oo] at o3 o4 o7;obtain⟨g0,c0,e0⟩:=H5.out.1.sl 0 (by omega) oo (by omega);have b0:=H5.out.1.c0.1;rw[e0] at b0;have py:m0<=c0:=by
  have ho:=H5.out.1.row 0 (by omega);rw[e0] at ho;rcases ho.2 with ⟨h1,_⟩|⟨_,cap,_,h1,_,_,h2,_⟩
  ·cases h1
  injection h1 with _ e1 e2;have h3:(P.L 0).length<=cap:=h2;omega
 obtain⟨y0,y1,y2,y3⟩:=H5.out.2.dM;have OI:=hid (Zz e0 oo);clear e0 oo;have p1:(fh:Int)<=c0:=by omega
 have p2:(f:Int)<=fh:=by omega
 have p3:(f:Int)<c0:=by omega
 have hn:fh-f=hh:=by have:=Hs.out;omega
 go_upto_region 7 with fail;go_quiet (fail);generalize zk:W5.drewN _=W6;have H6:Hid (bq V B bs b v vS ⟨P.L,P.sp.set k ⟨fh,g,0,wt⟩⟩ W6/\St W6 225 bC #[.int .i64 (f:Int),.int .i64 (fh:Int),.int .i64 0,.bool false]):=by rw[<-zk];exact⟨H5.out.1.aa (below_drewN (Below.refl _ _) _),H5.out.2⟩
 clear zk H5 y0 y1 y2 y3 b0 aS;have tR:(P.part k).length=hh:=by
  unfold Pt.part;rw[HS.out.1,HS.out.2.2.1,length_take,List.length_drop,OI.out.2];have:=Hs.out;omega
 have Qg:=hid tR;clear tR;go_wp2_with fail;clear hn;go_loopw [9,65] (fun _ vj wr=>∃j:Nat,vj=.int .i64 j/\j<=hh/\Hid (bq V B bs b v vS ⟨eu P.L 2 (bz (P.L 2) ((P.part k).take j) nS),P.sp.set k ⟨fh,g,0,wt⟩⟩ wr/\St wr 225 bC #[.int .i64 (f:Int),.int .i64 (fh:Int),.int .i64 0,.bool false])) (fun _ v _=>hh-(intOf v).toNat)
 ·refine⟨0,rfl,zero_le _,H6.out.1.congr (fun i hi=>?_) rfl,H6.out.2⟩;show P.L i=eu P.L 2 (bz (P.L 2) ((P.part k).take 0) nS) i;rw[List.take_zero];unfold eu bz;split
  ·rename_i e;rw[e];rfl
  rfl
 clear H6;obtain⟨j,rfl,hj,HL⟩:=hrel;by_cases aw:j<hh
 ·obtain⟨x,hx⟩:∃x,(P.part k).getD j 0=x:=⟨_,rfl⟩
  have hxl:x<(P.L 2).length:=by
   rw[<-hx,oG _ _ _ (by rw[Qg.out];exact aw)];exact yr.out.part _ (getElem_mem _)
  have kY:(P.L 0).getD (f+j) 0=x:=by
   rw[<-hx,zoi P k j (by rw[HS.out.2.2.1];exact aw),HS.out.1]
  obtain⟨L8,Jq⟩:∃L8,eu P.L 2 (bz (P.L 2) ((P.part k).take j) nS)=L8:=⟨_,rfl⟩
  have l0:L8 0=P.L 0:=by rw[<-Jq];exact Cg _ _ _ _ (by omega)
  have l2:L8 2=bz (P.L 2) ((P.part k).take j) nS:=by rw[<-Jq];exact Ea _ _ _
  have hP:bq V B bs b v vS ⟨L8,P.sp.set k ⟨fh,g,0,wt⟩⟩ wr:=by rw[<-Jq];exact HL.out.1
  have hC:=HL.out.2;have r0:=(hP.MS 0 (by omega) (g:=g0) (n:=m0) (c:=c0) OI.out.1 (f+j) (by show f+j<(L8 0).length;rw[l0,OI.out.2];have:=Hs.out;omega)).1;replace r0:wr.cell? ⟨g0,f+j,none⟩=some (.int .i64 (((L8 0).getD (f+j) 0:Nat):Int)):=r0;rw[l0,kY] at r0;obtain⟨n2,dj⟩:∃n2,(P.L 2).length=n2:=⟨_,rfl⟩
  have UW:(L8 2).length=n2:=by rw[l2,Yi];exact dj
  rw[dj] at hxl;obtain⟨g2,c2,e2⟩:=hP.sl 2 (by omega) (q:=n2) UW (by omega);have b2:=hP.c2.1;rw[e2] at b2;obtain⟨r1,r2⟩:=hP.MS 2 (by omega) e2 x (by show x<(L8 2).length;omega);have HN:Hid (bq V B bs b v vS ⟨eu P.L 2 (bz (P.L 2) ((P.part k).take (j+1)) nS),P.sp.set k ⟨fh,g,0,wt⟩⟩ (wr.setCell ⟨g2,x,none⟩ (.int .i64 (nS:Int)))/\St (wr.setCell ⟨g2,x,none⟩ (.int .i64 (nS:Int))) 225 bC #[.int .i64 (f:Int),.int .i64 (fh:Int),.int .i64 0,.bool false]):=by
   have q:=hP.put 2 (by omega) e2 x nS (by show x<(L8 2).length;omega);refine⟨q.congr (fun i hi=>?_) rfl,hC.eD (p:=⟨g2,x,none⟩) (fun e=>?_) _⟩
   ·show eu L8 2 ((L8 2).set x nS) i=eu P.L 2 (bz (P.L 2) ((P.part k).take (j+1)) nS) i;rw[l2,Me _ _ (by rw[Qg.out];exact aw),hx,Z3,<-Jq];unfold eu;split <;> rfl
   have ho:=hP.row 2 (by omega);have e9:bC=g2:=e;exact dG ho hC (by decide) g2 (by rw[e2];rfl) e9.symm
  obtain⟨yb,r3⟩:∃yb,wr.cell? ⟨g2,x,none⟩=some (.int .i64 ((yb:Nat):Int)):=⟨_,r1⟩
  have i3:(x:Int)<n2:=by omega
  have i4:(j:Int)<hh:=by omega
  clear hx kY Jq l0 l2 hP hC dj UW e2 r1;go_wp2;go_roundw
  ·exact⟨j+1,by go_num,by omega,HN.out⟩
  simp[intOf];omega
 obtain rfl:j=hh:=by omega
 have hP:bq V B bs b v vS ⟨eu P.L 2 (bz (P.L 2) (P.part k) nS),P.sp.set k ⟨fh,g,0,wt⟩⟩ wr:=by
  have:=HL.out.1;rw[List.take_of_length_le (by rw[Qg.out];exact le_refl _)] at this;exact this
 have H9:=hid (Zz hP HL.out.2);obtain⟨bk,nZ⟩:∃bk,P.fR k=bk:=⟨_,rfl⟩
 have rO:bk=if wt=true\/j<=g-fh then nS else k:=by
  rw[<-nZ];unfold Pt.fR;rw[HS.out.1,HS.out.2.1,HS.out.2.2.1,HS.out.2.2.2.1,HS.out.2.2.2.2.2,Hs.out]
 have VF:=hid nZ;obtain⟨x1,x2,_,x4,_,_,_⟩:=hP.Bq HS.out.2.2.2.2.1 k (by show k<(P.sp.set k _).length;rw[length_set];exact hkl);rw[Pt.qf _ _ _ _ _ hkl,if_pos rfl] at x1 x2 x4;clear hP nZ HL;go_upto_region 12 with fail;obtain⟨q,hq⟩:∃q:Bool,decide (wt=true\/j<=g-fh)=q:=⟨_,rfl⟩
 have Hq:=hid hq
 go_cut [93] from 77 to 92 (fun v93 wx=>v93=.bool q/\bq V B bs b v vS ⟨eu P.L 2 (bz (P.L 2) (P.part k) nS),P.sp.set k ⟨fh,g,0,wt⟩⟩ wx/\St wx 225 bC #[.int .i64 (f:Int),.int .i64 (fh:Int),.int .i64 0,.bool false])
 case first=>
  have q1:(g:Int)-(fh:Int)<=100000:=by omega
  have q2:0<=(g:Int)-(fh:Int):=by omega
  rcases hw:wt with _|_
  ·rw[hw] at x4;by_cases hle:j<=g-fh
   ·have hd:decide ((j:Int)<=g-(fh:Int))=true:=(by rw[decide_eq_true_iff];omega);have He:Hid (q=true):=(by show _=_;rw[<-hq];simp[hle]);clear rO hw hle hq;go_quiet (fail);go_wp2_with fail
    go_meet
    exact⟨by rw[He.out],H9.out.1.aa (below_drewN (Below.refl _ _) _),H9.out.2⟩
   have hd:decide ((j:Int)<=g-(fh:Int))=false:=(by rw[decide_eq_false_iff_not];omega);have He:Hid (q=false):=(by show _=_;rw[<-hq,hw];simp;omega);clear rO hw hle hq;go_quiet (fail);go_wp2_with fail
   go_meet
   exact⟨by rw[He.out],H9.out.1.aa (below_drewN (Below.refl _ _) _),H9.out.2⟩
  rw[hw] at x4;have He:Hid (q=true):=by show _=_;rw[<-hq];simp[hw]
  clear rO hw hq;go_quiet (fail);go_wp2_with fail
  go_meet
  exact⟨by rw[He.out],H9.out.1.aa (below_drewN (Below.refl _ _) _),H9.out.2⟩
 case rest=>
  obtain⟨rfl,hP,hC⟩:=hcut;clear x1 x2 x4 H9;have EB:=hid (Zz hP hC);clear hP hC;have ON:=hid rO;clear rO hq
  go_upto_if 93 with (fail)
  go_cut [1] from 93 to 94 (fun v1 wx=>v1=.int .i64 (bk:Int)/\wx=wc)
  case first=>
   rcases q with _|_
   ·have He:Hid (bk=k):=(by show _=_;rw[ON.out,if_neg (by have:=Hq.out;rw[decide_eq_false_iff_not] at this;exact this)]);go_wp2_with fail
    go_meet
    exact⟨by rw[He.out],rfl⟩
   have He:Hid (bk=nS):=(by show _=_;rw[ON.out,if_pos (by have:=Hq.out;rw[decide_eq_true_iff] at this;exact this)]);go_wp2_with fail
   go_meet
   exact⟨by rw[He.out],rfl⟩
  case rest=>
   obtain⟨rfl,rfl⟩:=hcut;have BZ:bk<nS+1:=(by rw[ON.out];split <;> omega);have Vy:Hid ((P.sp.set k ⟨fh,g,0,wt⟩).length=nS):=(by show _=_;rw[length_set];exact HS.out.2.2.2.2.2);have hO:=EB.out.1.ny;replace hO:ownsRow wc B 225 4 vS (P.sp.set k ⟨fh,g,0,wt⟩).length (p8 (P.sp.set k ⟨fh,g,0,wt⟩)):=hO;rw[Vy.out,HS.out.2.2.2.2.1] at hO;have aS:=EB.out.1.mA.1;rw[HS.out.2.2.2.2.1] at aS;obtain⟨i0,hi,dD,db,cW⟩:=info_parts rT;obtain⟨y0,y1,y2,y3⟩:=EB.out.2.dM;have Dk:=EB.out.1.st;have QT:(wc.alloc (.cells #[.int .i64 (f:Int),.int .i64 (fh:Int),.int .i64 0,.bool false] 225)).cell? ⟨b,3,none⟩=some (.slice (some ⟨gS,0,none⟩) nS cS):=((al wc _).cell (p:=⟨b,3,none⟩) Dk.lt).trans aS;have hV:=EB.out.1.hB;have ns9:nS<=100000:=(by have:=yr.out.ns;rw[HS.out.2.2.2.2.2] at this;exact this);have CU:=hid Dk;clear Dk;go_upto_region 14 with fail
   go_cut [7] from 95 to 104 (fun v7 wx=>v7=.int .i64 (nS:Int)/\∃(a5:Option Addr) (c5:Nat),bq V B bs b v (.slice a5 (nS+1) c5) ⟨eu P.L 2 (bz (P.L 2) (P.part k) nS),dy P k⟩ wx)
   case first=>
    go_region_law (
     refine Gz (by rfl) _ _ _ (by rfl) B 225 i0 (.agg #[.int .i64 0,.int .i64 0,.int .i64 0,.bool false]) 4 32 underlying213 hi dD db cW (by rfl) (by decide) (.slice (some ⟨gS,0,none⟩) nS cS) nS (p8 (P.sp.set k ⟨fh,g,0,wt⟩)) (by rfl) (by first|exact hO.drew.alloc _|exact (hO.alloc _).drew) ⟨wc.heap.size,0,none⟩ 1 1 [.int .i64 (f:Int),.int .i64 (fh:Int),.int .i64 0,.bool false] (by rfl) (by rfl) (World.news_of_block (cs:=#[.int .i64 (f:Int),.int .i64 (fh:Int),.int .i64 0,.bool false]) (by first|exact heap_alloc_new _ _|exact St.new _ _ _)) (by intro u hu;simp at hu;rcases hu with rfl|rfl|rfl|rfl <;> rfl) (by unfold maxLen;omega) (by omega) (by simp;omega) ?_
     intro v5 w5 ak aj bg
     have sf:(wc.alloc (.cells #[.int .i64 (f:Int),.int .i64 (fh:Int),.int .i64 0,.bool false] 225)).drew.grownBy w5 (Value.slice (some ⟨gS,0,none⟩) nS cS).ownBlock:=aj
     have fm:St w5 215 b (pv v vS):=(CU.out.alloc (.cells #[.int .i64 (f:Int),.int .i64 (fh:Int),.int .i64 0,.bool false] 225)).drew.ag (hO.alloc _).drew (by decide) sf
     have e5:w5.cell? ⟨b,3,none⟩=some (.slice (some ⟨gS,0,none⟩) nS cS):=by rw[fm.at_,<-HS.out.2.2.2.2.1];rfl
     have f5:=fm.ba 3
     obtain⟨a5,c5,rfl⟩:=bF ak)
    all_goals
     have qi:bq V B bs b v (.slice a5 (nS+1) c5) ⟨eu P.L 2 (bz (P.L 2) (P.part k) nS),dy P k⟩ (w5.setCell ⟨b,3,none⟩ (.slice a5 (nS+1) c5)):=by
      have h2:bq V B bs b v vS ⟨eu P.L 2 (bz (P.L 2) (P.part k) nS),P.sp.set k ⟨fh,g,0,wt⟩⟩ (wc.alloc (.cells #[.int .i64 (f:Int),.int .i64 (fh:Int),.int .i64 0,.bool false] 225)).drew:=(EB.out.1.aa (al wc _)).aa (Below.refl _ _).drew;have h3:=h2.Qj (v':=.slice a5 (nS+1) c5) (s:=⟨f,fh,0,false⟩) Vy.out ak (by rw[HS.out.2.2.2.2.1];exact sf) (by
       rw[HS.out.2.2.2.2.1]
       rcases bg with h|h
       ·exact inl h
       ·exact inr (inl h))
      have e:dy P k=P.sp.set k ⟨fh,g,0,wt⟩++[⟨f,fh,0,false⟩]:=by
       unfold dy;rw[HS.out.1,HS.out.2.1,HS.out.2.2.1,HS.out.2.2.2.1,Hs.out]
      rw[e];exact h3
     clear ak aj bg sf fm e5 f5
     go_wp2_with fail
     go_meet
     exact⟨rfl,a5,c5,qi⟩
   case rest=>
    obtain⟨rfl,a5,c5,qi⟩:=hcut;clear aS QT y0 y1 y2 y3 hO;have Rz:Hid ((dy P k).length=nS+1):=(by show _=_;rw[Pm,HS.out.2.2.2.2.2]);obtain⟨g5,c6,e6⟩:=qi.Si (q:=nS+1) Rz.out (by omega);rw[e6] at qi;have aS:=qi.mA.1;obtain⟨x1,x2,x3,x4,x5,x6,x7⟩:=qi.Bq rfl bk (by show bk<(dy P k).length;rw[Rz.out];exact BZ);have Ai:=qi.xJ rfl bk 3 ⟨((dy P k).getD bk lF).f,((dy P k).getD bk lF).g,((dy P k).getD bk lF).h,true⟩ (by show bk<(dy P k).length;rw[Rz.out];exact BZ) (by omega) (fun k' hk' hn=>by
     have:k'=0\/k'=1\/k'=2:=by omega
     rcases this with rfl|rfl|rfl <;> rfl)
    replace Ai:bq V B bs b v (.slice (some ⟨g5,0,none⟩) (nS+1) c6) ⟨eu P.L 2 (bz (P.L 2) (P.part k) nS),(dy P k).set bk ⟨((dy P k).getD bk lF).f,((dy P k).getD bk lF).g,((dy P k).getD bk lF).h,true⟩⟩ (wc.setCell ⟨g5,bk*4+3,none⟩ (.bool true)):=Ai;have x9:wc.cell? ⟨g5,bk*4+3,none⟩=some (.bool ((⟨eu P.L 2 (bz (P.L 2) (P.part k) nS),dy P k⟩:Pt).s bk).w):=x4;generalize ((⟨eu P.L 2 (bz (P.L 2) (P.part k) nS),dy P k⟩:Pt).s bk).w=wb at x9;have i9:(bk:Int)<nS+1:=(by omega);have i8:bk<nS+1:=BZ;clear qi e6 x1 x2 x3 x4 x5 x6;have uH:=hid Ai;clear Ai;obtain⟨SP,QI⟩:∃SP,(dy P k).set bk ⟨((dy P k).getD bk lF).f,((dy P k).getD bk lF).g,((dy P k).getD bk lF).h,true⟩=SP:=(⟨_,rfl⟩);obtain⟨L9,zp⟩:∃L9,eu P.L 2 (bz (P.L 2) (P.part k) nS)=L9:=(⟨_,rfl⟩);rw[QI,zp] at uH;have XQ:=hid (Zz QI zp);have l4:L9 4=P.L 4:=(by rw[<-zp];exact Cg _ _ _ _ (by omega));clear QI zp;go_upto_region 16 with fail;generalize wc.setCell ⟨g5,bk*4+3,none⟩ (.bool true)=E4 at uH⊢;clear x7 x9 aS;obtain⟨q,hq⟩:∃q,(P.L 4).length=q:=(⟨_,rfl⟩);have hO:=uH.out.row 4 (by omega);replace hO:ownsRow E4 B 3 1 (v 4) (L9 4).length (cy (L9 4)):=hO;obtain⟨a3,c3,e3⟩:=bF hO;have a4:E4.cell? ⟨b,5,none⟩=some (v 4):=uH.out.c4.1;rw[l4] at hO e3;rw[hq] at hO e3;rw[e3] at hO a4;have L3:q<=100000:=(by have:=yr.out.n4;omega);have hV:=uH.out.hB;have qj:=hid e3;have Hq4:=hid hq;have Ob:=hid l4;obtain⟨i0,hi,dD,db,cW⟩:=info_parts az;clear e3 hq l4;go_wp2_with (at_builtin;refine wpList_append_own_at _ rfl _ _ 43 rfl B 3 i0 (.int .i64 0) 1 8 underlying43 hi dD db cW rfl (by decide) _ _ _ rfl (hO.alloc _) ⟨E4.heap.size,0,none⟩ 1 1 [.int .i64 (bk:Int)] rfl rfl (cell_one_new _ _ _) ?d2 ?d3 ?d4 ?d5 ?_)
    case d2=>intro u hu;simp at hu;subst hu;rfl
    case d3=>unfold maxLen;omega
    case d4=>omega
    case d5=>simp;omega
    intro v' w5 ak aj _ bg;have h2:=uH.out.aa (al E4 (.cells #[.int .i64 (bk:Int)] 3));have fm:=h2.st.ag (hO.alloc _) (by decide) aj;have p3:w5.cell? ⟨b,5,none⟩=some (.slice a3 q c3):=(by rw[fm.at_];show some (v 4)=_;rw[qj.out]);have pf:=fm.ba 5;have HF:Hid (bq V B bs b (sy v 4 v') (.slice (some ⟨g5,0,none⟩) (nS+1) c6) (bK P k) (w5.setCell ⟨b,5,none⟩ v')):=by
     have h3:=h2.app (v':=v') (x:=bk) 4 (by omega) (q:=q) (by show (L9 4).length=q;rw[Ob.out];exact Hq4.out) (by show ownsRow _ _ _ _ _ _ (cy (L9 4)++_);rw[Ob.out];exact ak) (by rw[qj.out];exact aj) (by
      rw[show (E4.alloc (.cells #[.int .i64 (bk:Int)] 3)).heap.size=E4.heap.size+1 by simp,qj.out]
      rcases bg with h|h
      ·exact inl h
      ·exact inr (inl h))
     refine h3.congr (fun i hi=>?_) ?_
     ·unfold bK;rw[HS.out.1,HS.out.2.1,HS.out.2.2.1,if_neg wG.out];show eu L9 4 (L9 4++[bk]) i=eu (eu P.L 2 (bz (P.L 2) (P.part k) P.sp.length)) 4 (P.L 4++[P.fR k]) i;rw[Ob.out,VF.out,HS.out.2.2.2.2.2,XQ.out.2]
     unfold bK;rw[HS.out.1,HS.out.2.1,HS.out.2.2.1,if_neg wG.out];show SP=(dy P k).set (P.fR k) _;rw[<-XQ.out.1,VF.out]
    obtain⟨a5',c5',rfl⟩:=bF ak;clear ak aj bg h2 fm hO a4;go_wp2_with fail;go_end0;exact⟨sy v 4 (.slice a5' (q+1) c5'),_,rfl,rfl,HF.out⟩
theorem wi.ok{P0 P:Pt}(h:wi N P0 P l)(hN:N<=100000)(hx:x<N)(hn:x∉l):VK P x:=by
 obtain⟨⟨c1,c2,c3,c4⟩,_,_⟩:=TI h.pi h.hit hx hn;refine⟨c1,by rw[h.pi.l2];exact hx,by rw[h.pi.l0];exact c2,by rw[h.pi.l0];exact c3,by rw[h.pi.l1];exact hx,by rw[h.pi.l1];exact c4,by rw[h.pi.l0];exact hN,?_⟩;have h1:(P.L 3).length<=P.sp.length:=pW h.hit.nd (fun b hb=>((h.hit.tc b).1 hb).1);have h2:=h.pi.len;omega
theorem PI.th{P:Pt}(h:PI N P):(P.L 4).length<=N:=le_trans (pW h.tb.1 (fun b hb=>((h.tb.2 b).1 hb).1)) h.len
theorem PI.JC{k:Nat}{P:Pt}(h:PI N P)(hN:N<=100000)(hk:k<P.sp.length):Vr P k:=by
 obtain⟨s1,s2,s3,s4⟩:=h.sp k hk;refine⟨hk,by omega,s3,by rw[h.l0];exact s2,fun x hx=>?_,by rw[h.l0];exact hN,by have:=h.len;omega,by have:=h.th;omega⟩;rw[h.l2];unfold Pt.part at hx;obtain⟨j,hj,e⟩:=List.getElem_of_mem hx;rw[List.getElem_take,List.getElem_drop] at e;have hj2:(P.s k).f+j<N:=by
  simp at hj;have:=h.l0;omega
 have:=(h.op _ hj2).1;unfold Pt.o at this;rw[oG _ _ _ (by rw[h.l0];exact hj2),e] at this;exact this
theorem nH.sQ{w:World}(h:nH w a l)(k:Kept [] bs w w')(hs:w.heap.size<=w'.heap.size)(hb:∀ad,a=some ad->ad.block∉bs):nH w' a l:=by
 intro h0;obtain⟨g,off,e,hg,hc⟩:=h h0;refine⟨g,off,e,by omega,fun j hj=>?_⟩;rw[k.mV (by have:=hb _ e;exact this) hg];exact hc j hj
theorem YZ(N:Nat)(hN:N<=100000)(V:World)(B b:Nat)(bs:List Nat)(v:Nat->Value)(vS:Value)(P:Pt)(w:World)(h:bq V B bs b v vS P w)(hz:PZ N P)(l:List Nat)(q:Nat)(hq:l.length=q)(iO:l.Nodup)(hl:∀x∈l,x<N)(aL:Option Addr)(cL:Nat)(hL:nH V aL l)(hb:∀ad,aL=some ad->ad.block∉bs):
  Calls prog 161 #[.pointer (some ⟨b,0,none⟩),.slice aL q cL] w (OC V B bs b (mh P l)):=by
 have Uq:q<=N:=by rw[<-hq];exact pW iO hl
 obtain⟨d1,d2⟩:=UE hz;obtain⟨a3,c3,e3⟩:=h.CV 3 (by omega) rfl;have a4:=h.c3;have h1:=h.xo 3 (by omega) e3 0 (zero_le _);have H1:Hid (∃v',bq V B bs b v' vS (kG P) (w.setCell ⟨b,4,none⟩ (.slice a3 0 c3))):=⟨_,h1.congr (fun i hi=>by show eu P.L 3 ((P.L 3).take 0) i=eu P.L 3 [] i;rw[List.take_zero]) rfl⟩
 obtain⟨n3,mN⟩:∃n3,(P.L 3).length=n3:=⟨_,rfl⟩
 have hns3:n3<=c3:=by
  have ho:=h.row 3 (by omega);rw[e3] at ho;rcases ho.2 with ⟨h1,_⟩|⟨_,cap,_,h1,_,_,h2,_⟩
  ·injection h1 with _ e1 e2;omega
  injection h1 with _ e1 e2;have h3:(P.L 3).length<=cap:=h2;omega
 rw[e3,mN] at a4;obtain⟨a41,a42⟩:=a4;have HX:=hid (Zz hq (Zz iO (Zz hl (Zz hL (Zz hb (Zz d1 (Zz d2 hz)))))));clear h hz hq iO hl hL hb d1 d2 h1 e3 mN;go_enter func161,ntmps161;go_upto_region 1 with fail;generalize w.setCell ⟨b,4,none⟩ (.slice a3 0 c3)=W1 at H1⊢;clear a41 a42;go_wp2;go_loopw [5,18] (fun _ v wr=>∃k:Nat,v=.int .i64 k/\k<=q/\Hid (∃v' vS',bq V B bs b v' vS' (gn (kG P) (l.take k)) wr)) (fun _ v _=>q-(intOf v).toNat)
 ·obtain⟨v',hv⟩:=H1.out;exact⟨0,rfl,zero_le _,v',vS,hv⟩
 clear H1;obtain⟨k,rfl,hk,HL⟩:=hrel;by_cases aw:k<q
 ·obtain⟨v',vS',hP⟩:=HL.out;have hkl:k<l.length:=by rw[HX.out.1];exact aw
  have hR:=Px HX.out.2.2.2.2.2.1 HX.out.2.2.2.2.2.2.1 l HX.out.2.1 HX.out.2.2.1 k (by omega);have F4:l[k]∉l.take k:=fun hm=>by
   obtain⟨j,hj,e2⟩:=List.getElem_of_mem hm;rw[List.getElem_take] at e2;have hjk:j<k:=(by simp at hj;omega);have:=(List.getElem_inj (h₀:=by omega) (h₁:=hkl) HX.out.2.1).1 e2;omega
  have ok:=hR.ok hN (HX.out.2.2.1 _ (getElem_mem hkl)) F4;obtain⟨g,off,rfl,hg,py⟩:=(nH.sQ HX.out.2.2.2.1 hP.kept hP.below.size HX.out.2.2.2.2.1) (by omega);have hc:wr.cell? ⟨g,off+k,none⟩=some (.int .i64 ((l.getD k 0:Nat):Int)):=py k hkl;rw[oG _ _ _ hkl] at hc;have HC:=hid (zoc V B b bs v' vS' _ wr hP l[k] ok);have HS:Hid (iv (gn (kG P) (l.take k)) l[k]=gn (kG P) (l.take (k+1))):=by
   show _=_;rw[<-S5,Me _ _ hkl,oG _ _ _ hkl]
  have i1:(k:Int)<q:=by omega
  clear hR F4 ok py hP HL;generalize l[k]=x at hc HC HS;go_wp2_with fail;refine HC.out.mono ?_;rintro e w5 ⟨v5,rq,rfl,og⟩;rw[HS.out] at og;have yM:=hid og;clear og HC;go_wp2;go_roundw
  ·exact⟨k+1,by go_num,by omega,v5,rq,yM.out⟩
  simp[intOf];omega
 obtain rfl:k=q:=by omega
 obtain⟨v',vS',hP⟩:=HL.out;rw[List.take_of_length_le (by rw[HX.out.1];exact le_refl _)] at hP;have hR:=Px HX.out.2.2.2.2.2.1 HX.out.2.2.2.2.2.2.1 l HX.out.2.1 HX.out.2.2.1 l.length (le_refl _);rw[List.take_length] at hR;obtain⟨P2,nU⟩:∃P2,gn (kG P) l=P2:=⟨_,rfl⟩
 have HE:Hid (mh P l=jq P2 (P2.L 3)):=by show _=_;rw[<-nU];rfl
 rw[nU] at hP hR;obtain⟨T,hT⟩:∃T,P2.L 3=T:=⟨_,rfl⟩
 obtain⟨m,hm⟩:∃m,T.length=m:=⟨_,rfl⟩
 obtain⟨aT,cT,eT⟩:=hP.CV 3 (by omega) (q:=m) (by rw[hT];exact hm);have b3:=hP.c3.1;rw[eT] at b3;have HR:=hid (Zz hR (Zz hT (Zz hm eT)));have VO:m<=N:=by
  have h1:(P2.L 3).length<=P2.sp.length:=pW hR.hit.nd (fun b hb=>((hR.hit.tc b).1 hb).1);have h2:=hR.pi.len;rw[hT,hm] at h1;omega
 have HP:=hid hP;clear hP hR nU hT hm eT HL;go_wp2_with fail;clear b3;obtain⟨W9,rfl⟩:∃W9,W9=wr:=⟨wr,rfl⟩
 go_loopw [7,31] (fun _ v wq=>∃j:Nat,v=.int .i64 j/\j<=m/\Hid (∃v5 rq,v5 3=.slice aT m cT/\bq V B bs b v5 rq (jq P2 (T.take j)) wq)) (fun _ v _=>m-(intOf v).toNat)
 ·exact⟨0,rfl,zero_le _,v',vS',HR.out.2.2.2,HP.out⟩
 clear HP;obtain⟨j,rfl,hj,HL⟩:=hrel;by_cases ng:j<m
 ·obtain⟨v5,rq,e5,hP⟩:=HL.out;have hjl:j<T.length:=by rw[HR.out.2.2.1];exact ng
  have hC:=Sw (S:=fun x=>x∈l) HR.out.1.pi T (by rw[<-HR.out.2.1];exact Xf HR.out.1.hit) (by rw[<-HR.out.2.1];exact HR.out.1.hit.nd) (fun b hb=>by rw[<-HR.out.2.1] at hb;exact ((HR.out.1.hit.tc b).1 hb).1) j (by omega);have ok:=hC.pi.JC hN (k:=T[j]) (by
   have h9:T[j]∈P2.L 3:=by rw[HR.out.2.1];exact getElem_mem hjl
   have:=((HR.out.1.hit.tc _).1 h9).1
   have:=hC.len
   omega)
  have Bb:(jq P2 (T.take j)).L 3=T:=hC.o3.trans HR.out.2.1;obtain⟨g,c,eg,hc,_⟩:=hP.num 3 (by omega) j (by rw[Bb];exact hjl);rw[Bb,oG _ _ _ hjl] at hc;rw[e5] at eg;obtain⟨rfl⟩:aT=some ⟨g,0,none⟩:=by injection eg
  have HC:=hid (zoj V B b bs v5 rq _ wr hP T[j] ok);have HS:Hid (bK (jq P2 (T.take j)) T[j]=jq P2 (T.take (j+1))):=by
   show _=_;rw[<-TG,Me _ _ hjl,oG _ _ _ hjl]
  have i1:(j:Int)<m:=by omega
  have He5:=hid e5;clear hC ok Bb eg hP HL e5;generalize T[j]=x at hc HC HS;go_wp2_with fail;refine HC.out.mono ?_;rintro e w5 ⟨v6,vS6,rfl,e6,og⟩;rw[HS.out] at og;rw[He5.out] at e6;have yM:=hid (Zz e6 og);clear og HC e6;go_wp2;go_roundw
  ·exact⟨j+1,by go_num,by omega,v6,vS6,yM.out⟩
  simp[intOf];omega
 obtain rfl:j=m:=by omega
 obtain⟨v5,rq,e5,hP⟩:=HL.out;rw[List.take_of_length_le (by rw[HR.out.2.2.1];exact le_refl _),<-HR.out.2.1,<-HE.out] at hP;have HP:=hid hP;clear hP HL e5;go_wp2_with fail;go_end0;exact⟨v5,rq,rfl,HP.out⟩
end Go.Proofs.YtiijebameffenaaGreat
