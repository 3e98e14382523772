import Derived.Test.YtiijebameffenaaGreatZMCol
set_option linter.all false
set_option maxHeartbeats 4000000
set_option maxRecDepth 100000
open Go.Lib (hid)
namespace Go.Proofs.YtiijebameffenaaGreat
open Go.RowKit Go.Maps Go.Proofs.Tryz
open List (getElem_mem length_append length_set length_take)
open Or (inl inr)
open Nat (le_refl le_trans zero_le)
open World (ownsRow)
variable {B N c g n q x:Nat}{a:Option Addr}{bs l:List Nat}{v:Nat->Value}{vS:Value}{w w':World}
def ig(s:pa)(k:Nat):Value:=if k=0 then .int .i64 ((s.f:Nat):Int) else if k=1 then .int .i64 ((s.g:Nat):Int) else if k=2 then .int .i64 ((s.h:Nat):Int) else .bool s.w
def rn(l:List pa):List Value:=l.flatMap fun s=>[ig s 0,ig s 1,ig s 2,ig s 3]
theorem Xz(s:pa)(l:List pa):rn (s :: l)=[ig s 0,ig s 1,ig s 2,ig s 3]++rn l:=by simp[rn]
theorem zqh(l:List pa):(rn l).length=l.length*4:=by
 induction l with
 | nil=>rfl
 | cons s l ih=>rw[Xz,length_append,ih];simp;omega
theorem TD(l:List pa):∀j,(rn l)[j]?=(l[j / 4]?).map fun s=>ig s (j % 4):=by
 induction l with
 | nil=>intro j;simp[rn]
 | cons s l ih=>
  intro j;rw[Xz];by_cases h:j<4
  ·rw[List.getElem?_append_left (by simpa using h),show j / 4=0 by omega,show j % 4=j by omega];have:j=0\/j=1\/j=2\/j=3:=(by omega);rcases this with rfl|rfl|rfl|rfl <;> rfl
  rw[List.getElem?_append_right (by simp;omega),show ([ig s 0,ig s 1,ig s 2,ig s 3]:List Value).length=4 from rfl,ih,show j / 4=(j-4) / 4+1 by omega,show j % 4=(j-4) % 4 by omega,List.getElem?_cons_succ]
theorem znR(l:List pa)(s:pa):rn (l++[s])=rn l++[ig s 0,ig s 1,ig s 2,ig s 3]:=by simp[rn]
theorem zru(l:List pa)(b k:Nat)(hb:b<l.length)(hk:k<4):(rn l)[b*4+k]?=some (ig (l.getD b mX) k):=by
 rw[TD,show (b*4+k) / 4=b by omega,show (b*4+k) % 4=k by omega,List.getElem?_eq_getElem hb,pZ _ _ _ hb];rfl
theorem zqi(l:List pa)(b k:Nat)(s:pa)(hb:b<l.length)(hk:k<4)(hs:∀k',k'<4->k'≠k->ig s k'=ig (l.getD b mX) k'):rn (l.set b s)=(rn l).set (b*4+k) (ig s k):=by
 apply List.ext_getElem?;intro j;rw[TD,List.getElem?_set,List.getElem?_set,zqh,TD];by_cases e:b=j / 4
 ·subst e;rw[if_pos rfl,if_pos hb];by_cases e2:j / 4*4+k=j
  ·rw[if_pos e2,if_pos (by omega),show j % 4=k by omega];rfl
  rw[if_neg e2,List.getElem?_eq_getElem hb,<-pZ _ _ mX hb];show some (ig s (j % 4))=some _;rw[hs (j % 4) (by omega) (by omega)]
 rw[if_neg e,if_neg (by omega)]
theorem zjX(l:List Nat)(j x:Nat):(dv l).set j (.int .i64 (x:Int))=dv (l.set j x):=by simp[dv,List.map_set]
theorem zhB(l:List Nat)(j:Nat)(h:j<l.length):(dv l)[j]?=some (.int .i64 (l.getD j 0)):=by rw[Ck l j h,pZ l j 0 h]
theorem zlI{t size:Nat}{xs:List Value}(h:w.ownsRow B t size (.slice a n c) n xs)(k:Nat)(hk:k<=n):w.ownsRow B t size (.slice a k c) k (xs.take (k*size)):=by
 have hl:k*size<=n*size:=Nat.mul_le_mul_right size hk;refine⟨by rw[length_take,h.1];omega,?_⟩;rcases h.2 with ⟨h1,h2⟩|⟨g,cap,cur,h1,h3,h4,h5,h6,h7,h8⟩
 ·injection h1 with e1 e2 e3;have rB:k=0:=by omega
  subst rB;rw[e1,e3];exact inl ⟨rfl,rfl⟩
 injection h1 with e1 e2 e3;rw[e1,e3];refine inr ⟨g,cap,cur,rfl,h3,h4,by omega,h6,h7,?_⟩;rw[<-h8,List.take_take,Nat.min_eq_left hl]
def C5(i:Nat):Nat:=if i<3 then i else i+1
def tG(v:Nat->Value)(i:Nat)(u:Value):Nat->Value:=fun j=>if j=i then u else v j
theorem C4(v:Nat->Value)(i:Nat)(u:Value):tG v i u i=u:=if_pos rfl
theorem As(v:Nat->Value)(i j:Nat)(u:Value)(h:j≠i):tG v i u j=v j:=if_neg h
theorem G9(L:Nat->List Nat)(i:Nat)(u:List Nat):fE L i u i=u:=if_pos rfl
theorem EP(L:Nat->List Nat)(i j:Nat)(u:List Nat)(h:j≠i):fE L i u j=L j:=if_neg h
def qW(v:Nat->Value)(vS:Value):Array Value:=#[v 0,v 1,v 2,vS,v 3,v 4]
structure bJ (V:World)(B:Nat)(bs:List Nat)(b:Nat)(v:Nat->Value)(vS:Value)(P:Pt)(w:World):Prop where
 kept:Kept [] bs V w
 below:Below B V w
 st:St w 215 b (qW v vS)
 row:∀i,i<5->w.ownsRow B 3 1 (v i) (P.L i).length (dv (P.L i))
 sep:∀i j,i<5->j<5->i≠j->∀g,(v i).ownBlock=some g->(v j).ownBlock≠some g
 pq:w.ownsRow B 225 4 vS P.sp.length (rn P.sp)
 loc:∀i,i<5->∀g,(v i).ownBlock=some g->g∈bs\/V.heap.size<=g
 nc:∀g,vS.ownBlock=some g->g∈bs\/V.heap.size<=g
 ko:b∈bs
 lo:B<=b/\B<=V.heap.size
section
variable {V : World}{B b : Nat}{bs : List Nat}{v : Nat → Value}{vS : Value}{P : Pt}{w : World}
theorem bJ.hB(h:bJ V B bs b v vS P w):B<=w.heap.size:=le_trans h.lo.2 h.below.size
theorem bJ.ae{w1:World}(h:bJ V B bs b v vS P w)(k:Below w.heap.size w w1):bJ V B bs b v vS P w1:=
 ⟨h.kept.below k,h.below.trans (k.mono h.hB),h.st.ae k,fun i hi=>dE (h.row i hi) k,h.sep,dE h.pq k,h.loc,h.nc,h.ko,h.lo⟩
theorem zqj(v:Nat->Value)(vS:Value)(i:Nat)(hi:i<5):(qW v vS)[C5 i]?=some (v i):=by
 have:i=0\/i=1\/i=2\/i=3\/i=4:=by omega
 rcases this with rfl|rfl|rfl|rfl|rfl <;> rfl
theorem ziO(v:Nat->Value)(vS u:Value)(i:Nat)(hi:i<5):(qW v vS).setIfInBounds (C5 i) u=qW (tG v i u) vS:=by
 have:i=0\/i=1\/i=2\/i=3\/i=4:=by omega
 rcases this with rfl|rfl|rfl|rfl|rfl <;> rfl
theorem zlJ(v:Nat->Value)(vS u:Value):(qW v vS).setIfInBounds 3 u=qW v u:=rfl
theorem bJ.cell(h:bJ V B bs b v vS P w)(i:Nat)(hi:i<5):w.cell? ⟨b,C5 i,none⟩=some (v i)/\w.frozen? ⟨b,C5 i,none⟩=false:=⟨by rw[h.st.at_,zqj v vS i hi],h.st.bE _⟩
theorem bJ.oq(h:bJ V B bs b v vS P w):w.cell? ⟨b,3,none⟩=some vS/\w.frozen? ⟨b,3,none⟩=false:=⟨by rw[h.st.at_];rfl,h.st.bE _⟩
theorem bJ.num(h:bJ V B bs b v vS P w)(i:Nat)(hi:i<5)(j:Nat)(hj:j<(P.L i).length):∃g c,v i=.slice (some ⟨g,0,none⟩) (P.L i).length c/\w.cell? ⟨g,j,none⟩=some (.int .i64 (((P.L i).getD j 0:Nat):Int))/\w.frozen? ⟨g,j,none⟩=false:=by
 have ho:=h.row i hi;obtain⟨a,c,e⟩:=cy ho;rw[e] at ho⊢;obtain⟨g,rfl,_,_,hc⟩:=fG ho (by omega);obtain⟨h1,h2⟩:=hc j (by omega);exact⟨g,c,rfl,by rw[h1,zhB _ _ hj],h2⟩
theorem bJ.span(h:bJ V B bs b v vS P w)(j:Nat)(hj:j<P.sp.length):∃g c,vS=.slice (some ⟨g,0,none⟩) P.sp.length c/\∀k,k<4->w.cell? ⟨g,j*4+k,none⟩=some (ig (P.s j) k)/\w.frozen? ⟨g,j*4+k,none⟩=false:=by
 have ho:=h.pq;obtain⟨a,c,e⟩:=cy ho;rw[e] at ho⊢;obtain⟨g,rfl,_,_,hc⟩:=fG ho (by omega);refine⟨g,c,rfl,fun k hk=>?_⟩;obtain⟨h1,h2⟩:=hc (j*4+k) (by omega);exact⟨by rw[h1,zru _ _ _ hj hk];rfl,h2⟩
theorem bJ.ne(h:bJ V B bs b v vS P w):(∀i,i<5->∀g,(v i).ownBlock=some g->g≠b)/\(∀g,vS.ownBlock=some g->g≠b)/\(∀i,i<5->∀g,(v i).ownBlock=some g->vS.ownBlock≠some g):=
 ⟨fun i hi=>eI (h.row i hi) h.st (by decide),eI h.pq h.st (by decide),fun i hi=>iO (h.row i hi) h.pq (by decide)⟩
theorem bJ.put(h:bJ V B bs b v vS P w)(i:Nat)(hi:i<5)(hv:v i=.slice (some ⟨g,0,none⟩) n c)(j x:Nat)(hj:j<(P.L i).length):
  bJ V B bs b v vS ⟨fE P.L i ((P.L i).set j x),P.sp⟩ (w.setCell ⟨g,j,none⟩ (.int .i64 (x:Int))):=by
 have hg:(v i).ownBlock=some g:=by rw[hv];rfl
 have hk:Kept [] [g] w (w.setCell ⟨g,j,none⟩ (.int .i64 (x:Int))):=(Kept.refl _ _ _).setCell _ _ (inl (by simp));have hn:n=(P.L i).length:=by
  obtain⟨a,c',e⟩:=cy (h.row i hi);rw[hv] at e;injection e
 refine⟨h.kept.setCell _ _ ((h.loc i hi g hg).elim inl (fun x=>inr (inl x))),h.below.setCell (p:=⟨g,j,none⟩) (ln (h.row i hi) g hg) _,h.st.gJ (p:=⟨g,j,none⟩) (fun e=>h.ne.1 i hi g hg e.symm) _,fun k hk5=>?_,h.sep,gk h.pq hk (by simp) (fun g2 e hm=>h.ne.2.2 i hi g hg (by rw[e,List.mem_singleton.1 hm])),h.loc,h.nc,h.ko,h.lo⟩;by_cases e:k=i
 ·subst e;simp only[G9];have ho:=h.row k hi;rw[hv,<-hn] at ho;have:=xC ho j (by omega) (.int .i64 (x:Int));rw[zjX] at this;rw[hv,length_set,<-hn];exact this
 simp only[EP _ _ _ _ e];exact gk (h.row k hk5) hk (by simp) (fun g2 e2 hm=>h.sep i k hi hk5 (fun e3=>e e3.symm) g hg (by rw[e2,List.mem_singleton.1 hm]))
theorem bJ.yE(h:bJ V B bs b v vS P w)(hv:vS=.slice (some ⟨g,0,none⟩) n c)(j k:Nat)(s:pa)(hj:j<P.sp.length)(hk:k<4)(hs:∀k',k'<4->k'≠k->ig s k'=ig (P.s j) k'):
  bJ V B bs b v vS ⟨P.L,P.sp.set j s⟩ (w.setCell ⟨g,j*4+k,none⟩ (ig s k)):=by
 have hg:vS.ownBlock=some g:=by rw[hv];rfl
 have By:Kept [] [g] w (w.setCell ⟨g,j*4+k,none⟩ (ig s k)):=(Kept.refl _ _ _).setCell _ _ (inl (by simp));have hn:n=P.sp.length:=by
  obtain⟨a,c',e⟩:=cy h.pq;rw[hv] at e;injection e
 refine⟨h.kept.setCell _ _ ((h.nc g hg).elim inl (fun x=>inr (inl x))),h.below.setCell (p:=⟨g,j*4+k,none⟩) (ln h.pq g hg) _,h.st.gJ (p:=⟨g,j*4+k,none⟩) (fun e=>h.ne.2.1 g hg e.symm) _,fun i hi=>gk (h.row i hi) By (by simp) (fun g2 e hm=>h.ne.2.2 i hi g2 e (by rw[hg,List.mem_singleton.1 hm])),h.sep,?_,h.loc,h.nc,h.ko,h.lo⟩;have ho:=h.pq;rw[hv,<-hn] at ho;have:=znO ho (j*4+k) (by omega) (ig s k);show ownsRow _ _ _ _ _ (P.sp.set j s).length (rn (P.sp.set j s));rw[length_set,zqi _ _ _ _ hj hk hs,hv,<-hn];exact this
theorem bJ.app{w':World}{v':Value}{x q:Nat}(h:bJ V B bs b v vS P w)(i:Nat)(hi:i<5)(hq:(P.L i).length=q)(ho:w'.ownsRow B 3 1 v' (q+1) (dv (P.L i)++[.int .i64 (x:Int)]))(hg:w.grownBy w' (v i).ownBlock)
  (fD:v'.ownBlock=(v i).ownBlock\/v'.ownBlock=some w.heap.size\/∃g,v'.ownBlock=some g/\w.heap.size<=g):bJ V B bs b (tG v i v') vS ⟨fE P.L i (P.L i++[x]),P.sp⟩ (w'.setCell ⟨b,C5 i,none⟩ v'):=by
 subst hq;have cU:St w' 215 b (qW v vS):=h.st.af (h.row i hi) (by decide) hg;have Ea:∀g,v'.ownBlock=some g->(v i).ownBlock=some g\/w.heap.size<=g:=fun g e=>by
  rcases fD with e1|e1|⟨g2,e1,e2⟩
  ·exact inl (by rw[<-e1];exact e)
  ·rw[e] at e1;injection e1 with e1;exact inr (by omega)
  rw[e] at e1;injection e1 with e1;exact inr (by omega)
 have aq:∀j,j<5->∀g,(v j).ownBlock=some g->g<w.heap.size:=fun j hj=>me (h.row j hj)
 have hB:Below B V w':=gu h.below (h.row i hi) h.hB hg;refine⟨(h.kept.grown hg (fun g e=>(h.loc i hi g e).elim inl (fun x=>inr (inl x)))).setCell _ _ (inl h.ko),hB.setCell (p:=⟨b,C5 i,none⟩) h.lo.1 _,?_,fun j hj=>?_,fun j k hj hk hjk g=>?_,kz (wE h.pq (h.row i hi) (by decide) hg) cU (by decide) _ _,fun j hj g=>?_,h.nc,h.ko,h.lo⟩
 ·rw[<-ziO v vS v' i hi];exact cU.set _ _
 ·by_cases e:j=i
  ·subst e;simp only[C4,G9];rw[Ad,length_append];exact kz ho cU (by decide) _ _
  simp only[As _ _ _ _ e,EP _ _ _ _ e];exact kz (rS (h.row j hj) hg (fun g e1 e2=>h.sep j i hj hi e g e1 e2.symm)) cU (by decide) _ _
 ·by_cases e1:j=i
  ·subst e1;rw[C4,As _ _ _ _ (fun e=>hjk e.symm)];intro e2 e3;rcases Ea g e2 with e4|e4
   ·exact h.sep j k hj hk hjk g e4 e3
   have:=aq k hk g e3;omega
  rw[As _ _ _ _ e1];by_cases e2:k=i
  ·subst e2;rw[C4];intro e3 e4;rcases Ea g e4 with e5|e5
   ·exact h.sep j k hj hk hjk g e3 e5
   have:=aq j hj g e3;omega
  rw[As _ _ _ _ e2];exact h.sep j k hj hk hjk g
 by_cases e:j=i
 ·subst e;rw[C4];intro e2;rcases Ea g e2 with e3|e3
  ·exact h.loc j hj g e3
  exact inr (le_trans h.below.size e3)
 rw[As _ _ _ _ e];exact h.loc j hj g
theorem bJ.Ty{v':Value}{s:pa}(h:bJ V B bs b v vS P w)(hq:P.sp.length=q)(ho:w'.ownsRow B 225 4 v' (q+1) (rn P.sp++[ig s 0,ig s 1,ig s 2,ig s 3]))(hg:w.grownBy w' vS.ownBlock)
  (fD:v'.ownBlock=vS.ownBlock\/v'.ownBlock=some w.heap.size\/∃g,v'.ownBlock=some g/\w.heap.size<=g):bJ V B bs b v v' ⟨P.L,P.sp++[s]⟩ (w'.setCell ⟨b,3,none⟩ v'):=by
 subst hq;have cU:St w' 215 b (qW v vS):=h.st.af h.pq (by decide) hg;have hB:Below B V w':=gu h.below h.pq h.hB hg;refine⟨(h.kept.grown hg (fun g e=>(h.nc g e).elim inl (fun x=>inr (inl x)))).setCell _ _ (inl h.ko),hB.setCell (p:=⟨b,3,none⟩) h.lo.1 _,?_,fun j hj=>kz (wE (h.row j hj) h.pq (by decide) hg) cU (by decide) _ _,h.sep,?_,h.loc,fun g e=>?_,h.ko,h.lo⟩
 ·rw[<-zlJ v vS v'];exact cU.set _ _
 ·show ownsRow _ _ _ _ _ (P.sp++[s]).length (rn (P.sp++[s]));rw[znR,length_append];exact kz ho cU (by decide) _ _
 rcases fD with e1|e1|⟨g2,e1,e2⟩
 ·exact h.nc g (by rw[<-e1];exact e)
 ·rw[e] at e1;injection e1 with e1;exact inr (by have:=h.below.size;omega)
 rw[e] at e1;injection e1 with e1;exact inr (by have:=h.below.size;omega)
theorem bJ.yL(h:bJ V B bs b v vS P w)(i:Nat)(hi:i<5)(hv:v i=.slice a n c)(k:Nat)(hk:k<=(P.L i).length):
  bJ V B bs b (tG v i (.slice a k c)) vS ⟨fE P.L i ((P.L i).take k),P.sp⟩ (w.setCell ⟨b,C5 i,none⟩ (.slice a k c)):=by
 have ho:=h.row i hi;have hn:n=(P.L i).length:=by
  obtain⟨a,c',e⟩:=cy ho;rw[hv] at e;injection e
 rw[hv,<-hn] at ho;have ho2:=zlI ho k (by omega);have pR:(Value.slice a k c).ownBlock=(v i).ownBlock:=by rw[hv];cases a <;> rfl
 refine⟨h.kept.setCell _ _ (inl h.ko),h.below.setCell (p:=⟨b,C5 i,none⟩) h.lo.1 _,?_,fun j hj=>?_,fun j l hj hl hjl g=>?_,kz h.pq h.st (by decide) _ _,fun j hj g=>?_,h.nc,h.ko,h.lo⟩
 ·rw[<-ziO v vS _ i hi];exact h.st.set _ _
 ·by_cases e:j=i
  ·subst e;simp only[C4,G9];rw[show dv ((P.L j).take k)=(dv (P.L j)).take (k*1) by simp[dv,List.map_take],length_take,Nat.min_eq_left hk];exact kz ho2 h.st (by decide) _ _
  simp only[As _ _ _ _ e,EP _ _ _ _ e];exact kz (h.row j hj) h.st (by decide) _ _
 ·have hh:=h.sep j l hj hl hjl g;by_cases e1:j=i
  ·subst e1;rw[C4,As _ _ _ _ (fun e=>hjl e.symm),pR];exact hh
  rw[As _ _ _ _ e1];by_cases e2:l=i
  ·subst e2;rw[C4,pR];exact hh
  rw[As _ _ _ _ e2];exact hh
 by_cases e:j=i
 ·subst e;rw[C4,pR];exact h.loc j hj g
 rw[As _ _ _ _ e];exact h.loc j hj g
def bI(b:Nat)(v:Nat->Value)(vS:Value):List Nat:=b :: (vS.ownBlock.toList++(List.range 5).flatMap fun i=>(v i).ownBlock.toList)
theorem xn{b:Nat}:x∈bI b v vS↔x=b\/vS.ownBlock=some x\/∃i,i<5/\(v i).ownBlock=some x:=by
 unfold bI;rw[List.mem_cons,List.mem_append,List.mem_flatMap];simp only[Option.mem_toList,Option.mem_def,List.mem_range]
theorem bJ.start(h:bJ V B bs b v vS P w):bJ w B (bI b v vS) b v vS P w:=
 ⟨Kept.refl _ _ _,Below.refl _ _,h.st,h.row,h.sep,h.pq,fun i hi g e=>inl (xn.2 (inr (inr ⟨i,hi,e⟩))),fun g e=>inl (xn.2 (inr (inl e))),xn.2 (inl rfl),h.lo.1,h.hB⟩
theorem bJ.ui(h:bJ V B bs b v vS P w):∀x∈bI b v vS,x∈bs\/V.heap.size<=x:=fun x hx=>by
 rcases xn.1 hx with rfl|e|⟨i,hi,e⟩
 ·exact inl h.ko
 ·exact h.nc x e
 ·exact h.loc i hi x e
theorem bJ.back{v':Nat->Value}{vS':Value}{P':Pt}(h:bJ V B bs b v vS P w)(h2:bJ w B (bI b v vS) b v' vS' P' w'):bJ V B bs b v' vS' P' w':=by
 have up:∀x,x∈bI b v vS\/w.heap.size<=x->x∈bs\/V.heap.size<=x:=fun x hx=>by
  rcases hx with hx|hx
  ·exact h.ui x hx
  exact inr (le_trans h.below.size hx)
 refine⟨fun k o hk ho hn=>h2.kept k o (h.kept k o hk ho hn) ho (fun hm=>?_),h.below.trans h2.below,h2.st,h2.row,h2.sep,h2.pq,fun i hi g e=>up g (h2.loc i hi g e),fun g e=>up g (h2.nc g e),h.ko,h.lo⟩;rcases h.ui k hm with h3|h3
 ·exact hn h3
 have:=(Array.getElem?_eq_some_iff.1 hk).1;omega
theorem bJ.congr{P':Pt}(h:bJ V B bs b v vS P w)(e1:∀i,i<5->P.L i=P'.L i)(e2:P.sp=P'.sp):bJ V B bs b v vS P' w:=
 ⟨h.kept,h.below,h.st,fun i hi=>by rw[<-e1 i hi];exact h.row i hi,h.sep,by rw[<-e2];exact h.pq,h.loc,h.nc,h.ko,h.lo⟩
end
theorem CY{g' n' c':Nat}(h:Value.slice (some ⟨g,0,none⟩) n c=.slice (some ⟨g',0,none⟩) n' c'):g=g':=by
 injection h with e _ _;injection e with e;injection e
def QU(V:World)(B:Nat)(bs:List Nat)(b:Nat)(P:Pt)(e:Ending)(w':World):Prop:=∃v vS,e=.returned (.tuple #[])/\bJ V B bs b v vS P w'
structure VA (P:Pt)(x:Nat):Prop where
 b:P.b x<P.sp.length
 l2:x<(P.L 2).length
 tt:P.to x<(P.L 0).length
 fr:P.p x<(P.L 0).length
 l1:x<(P.L 1).length
 ot:P.o (P.to x)<(P.L 1).length
 n0:(P.L 0).length<=100000
 n3:(P.L 3).length<=100000
theorem Xq(P:Pt)(x i:Nat)(h:i≠3):ef P x i=P.L i:=by
 unfold ef;split
 ·exact EP _ _ _ _ h
 rfl
theorem bJ.Lk{V:World}{b:Nat}{P:Pt}(h:bJ V B bs b v vS P w)(i:Nat)(hi:i<5)(hv:v i=.slice (some ⟨g,0,none⟩) n c)(j x k y:Nat)(hj:j<(P.L i).length)(hk:k<(P.L i).length):
  bJ V B bs b v vS ⟨fE P.L i (((P.L i).set j x).set k y),P.sp⟩ ((w.setCell ⟨g,j,none⟩ (.int .i64 (x:Int))).setCell ⟨g,k,none⟩ (.int .i64 (y:Int))):=by
 have h2:=(h.put i hi hv j x hj).put i hi hv k y (by show k<(fE P.L i ((P.L i).set j x) i).length;rw[G9,length_set];exact hk);refine h2.congr (fun l hl=>?_) rfl;show fE (fE P.L i ((P.L i).set j x)) i ((fE P.L i ((P.L i).set j x) i).set k y) l=fE P.L i (((P.L i).set j x).set k y) l;rw[G9];unfold fE;split <;> rfl
theorem zqk(V:World)(B b:Nat)(bs:List Nat)(v:Nat->Value)(vS:Value)(P:Pt)(w:World)(h:bJ V B bs b v vS P w)(x:Nat)(ok:VA P x):
  Calls prog 179 #[.pointer (some ⟨b,0,none⟩),.int .i64 (x:Int)] w (QU V B bs b (jr P x)):=by
 obtain⟨k,hk⟩:=Ξ (P.b x)
 have hkl:k<P.sp.length:=by rw[<-hk];exact ok.b
 obtain⟨nS,yy⟩:=Ξ P.sp.length
 obtain⟨g2,c2,e2,d2,_⟩:=h.num 2 (by omega) x ok.l2;obtain⟨gS,cS,eS,dS⟩:=h.span k hkl;have a2:w.cell? ⟨b,2,none⟩=some (v 2):=(h.cell 2 (by omega)).1;have aS:=h.oq.1;have dh:=(dS 2 (by omega)).1;rw[e2] at a2;rw[eS] at aS;rw[show (P.L 2).getD x 0=k from hk] at d2;obtain⟨n2,dd⟩:=Ξ ((P.L 2).length)
 have i2:(x:Int)<n2:=by have:=ok.l2;omega
 have iS:(k:Int)<nS:=by omega
 rw[dd] at a2;rw[yy] at aS;obtain⟨hh,CG⟩:=Ξ ((P.s k).h)
 have Zx:w.cell? ⟨gS,k*4+2,none⟩=some (.int .i64 (hh:Int)):=by rw[dh];show some (Value.int .i64 (((P.s k).h:Nat):Int))=_;rw[CG]
 have H:=hid h;have Hk:=hid hk;have Af:=hid ok;have HeS:=hid eS;have GB:=hid CG;have HnS:=hid yy;clear h hk ok e2 eS dS dh dd CG yy;go_in
 go_upto_if 26 with (fail)
 go_cut [4,5] from 26 to 36 (fun v4 v5 wx=>∃v',v4=.int .i64 (k:Int)/\v5=.pointer (some ⟨gS,k*4,none⟩)/\bJ V B bs b v' vS ⟨ef P x,P.sp⟩ wx)
 case first=>
  by_cases h0:hh=0
  ·subst h0;obtain⟨q,hq⟩:=Ξ ((P.L 3).length);have hO:=H.o.row 3 (by omega);obtain⟨a3,c3,e3⟩:=cy hO;have a4:w.cell? ⟨b,4,none⟩=some (v 3):=(H.o.cell 3 (by omega)).1;rw[hq] at hO e3;rw[e3] at hO a4;have NX:q<=100000:=(by have:=Af.o.n3;omega);have hV:=H.o.hB;have sO:=hid e3;have Hq:=hid hq;obtain⟨i0,hi,dP,dc,db⟩:=info_parts aH;have i3:(((0:Nat):Int) == 0)=true:=(by rfl);clear e3 hq;go_wp2_with (at_builtin;refine wpList_append_own_at _ rfl _ _ 43 rfl B 3 i0 (.int .i64 0) 1 8 underlying43 hi dP dc db rfl (by decide) _ _ _ rfl (hO.alloc _) ⟨w.heap.size,0,none⟩ 1 1 [.int .i64 (k:Int)] rfl rfl (cell_one_new _ _ _) ?d2 ?d3 ?d4 ?d5 ?_)
   case d2=>intro u hu;simp at hu;subst hu;rfl
   case d3=>unfold maxLen;omega
   case d4=>omega
   case d5=>simp;omega
   intro v' w5 ak aj _ bW;have h2:=H.o.ae (al w (.cells #[.int .i64 (k:Int)] 3));have RX:=h2.row 3 (by omega);rw[Hq.o,sO.o] at RX;have gh:=h2.st.af RX (by decide) aj;have p3:w5.cell? ⟨b,4,none⟩=some (.slice a3 q c3):=(by rw[gh.at_];show some (v 3)=_;rw[sO.o]);have pf:=gh.bE 4;have HF:Hid (bJ V B bs b (tG v 3 v') vS ⟨ef P x,P.sp⟩ (w5.setCell ⟨b,4,none⟩ v')):=by
    have h3:=h2.app (v':=v') 3 (by omega) Hq.o ak (by rw[sO.o];exact aj) (by
     rw[show (w.alloc (.cells #[.int .i64 (k:Int)] 3)).heap.size=w.heap.size+1 by simp,sO.o]
     rcases bW with h|h
     ·exact inl h
     ·exact inr (inl h))
    have e:ef P x=fE P.L 3 (P.L 3++[k]):=by
     unfold ef;rw[Hk.o,if_pos GB.o]
    show bJ V B bs b (tG v 3 v') vS ⟨ef P x,P.sp⟩ (w5.setCell ⟨b,4,none⟩ v');rw[e];exact h3
   obtain⟨a5,c5,rfl⟩:=cy ak;clear ak aj bW h2 RX gh hO a4 a2 aS d2 Zx;go_wp2_with fail
   go_meet
   exact⟨tG v 3 (.slice a5 (q+1) c5),rfl,rfl,HF.o⟩
  have i3:((hh:Int) == 0)=false:=by simp;omega
  have e:ef P x=P.L:=by
   unfold ef;rw[Hk.o,if_neg (by rw[GB.o];exact h0)]
  have HF:Hid (bJ V B bs b v vS ⟨ef P x,P.sp⟩ w):=by
   show bJ V B bs b v vS ⟨ef P x,P.sp⟩ w;rw[e];exact H.o
  clear e h0;go_wp2_with fail
  go_meet
  exact⟨v,rfl,rfl,HF.o⟩
 case rest=>
  obtain⟨v',rfl,rfl,h⟩:=hcut;have E1:=HeS;clear a2 aS d2 Zx i2 HeS;obtain⟨f,hf⟩:=Ξ ((P.s k).f)
  obtain⟨tt,y8⟩:=Ξ (P.to x)
  obtain⟨fr,uC⟩:=Ξ (P.p x)
  obtain⟨ot,OF⟩:=Ξ (P.o tt)
  have AP:f+hh=tt:=by rw[<-y8,<-hf,<-GB.o,<-Hk.o];rfl
  have h0:=Xq P x 0 (by omega);have h1:=Xq P x 1 (by omega);have tl:=Af.o.tt;have fl:=Af.o.fr;have xl:=Af.o.l1;have ol:=Af.o.ot;have n0:=Af.o.n0;rw[y8] at tl ol;rw[OF] at ol;rw[uC] at fl;obtain⟨g0,c0,e0,y0,z0⟩:=h.num 0 (by omega) tt (by show tt<(ef P x 0).length;rw[h0];exact tl);obtain⟨_,_,NG,Oo,z0'⟩:=h.num 0 (by omega) fr (by show fr<(ef P x 0).length;rw[h0];exact fl);obtain⟨g1,c1,e1,y1,z1⟩:=h.num 1 (by omega) x (by show x<(ef P x 1).length;rw[h1];exact xl);obtain⟨_,_,O0,XX,z1'⟩:=h.num 1 (by omega) ot (by show ot<(ef P x 1).length;rw[h1];exact ol);obtain⟨Ni,cS',Tt,Sp⟩:=h.span k (by show k<P.sp.length;rw[HnS.o];omega);obtain rfl:Ni=gS:=by
   have:=E1.o;rw[this] at Tt;exact (CY Tt).symm
  have b0:wc.cell? ⟨b,0,none⟩=some (v' 0):=(h.cell 0 (by omega)).1;have b1:wc.cell? ⟨b,1,none⟩=some (v' 1):=(h.cell 1 (by omega)).1;obtain⟨m0,pH⟩:=Ξ ((P.L 0).length)
  obtain⟨m1,jD⟩:=Ξ ((P.L 1).length)
  have s0:wc.cell? ⟨Ni,k*4,none⟩=some (.int .i64 (f:Int)):=by
   have:=(Sp 0 (by omega)).1;rw[<-hf];exact this
  have s2:wc.cell? ⟨Ni,k*4+2,none⟩=some (.int .i64 (hh:Int)):=by
   have:=(Sp 2 (by omega)).1;rw[<-GB.o];exact this
  have C7:(⟨ef P x,P.sp⟩:Pt).L 0=P.L 0:=h0;have B6:(⟨ef P x,P.sp⟩:Pt).L 1=P.L 1:=h1;rw[C7] at e0 NG y0 Oo;rw[B6] at e1 O0 y1 XX;rw[e0] at NG b0;rw[e1] at O0 b1;obtain⟨rfl,_⟩:g0=_/\True:=⟨CY NG,trivial⟩
  obtain⟨rfl,_⟩:g1=_/\True:=⟨CY O0,trivial⟩
  rw[pH] at b0 tl fl n0;rw[jD] at b1 xl ol;rw[show (P.L 0).getD tt 0=ot from OF] at y0;rw[show (P.L 1).getD x 0=fr from uC] at y1;clear XX NG O0 Sp;have i0:(tt:Int)<m0:=by omega
  have i1:(fr:Int)<m0:=by omega
  have i4:(x:Int)<m1:=by omega
  have i5:(ot:Int)<m1:=by omega
  have its:(f:Int)+(hh:Int)=tt:=by omega
  have HL:=hid (Zz C7 (Zz B6 (Zz e0 (Zz e1 (Zz pH (Zz jD (Zz y8 (Zz uC OF))))))));have HP:=hid h;clear C7 B6 e0 e1 pH jD y8 uC OF h AP h0 h1 hf Tt;go_upto_region 4 with fail;go_quiet (fail);go_upto_region 6 with fail;obtain⟨xf,Yr⟩:=Ξ ((P.L 0).getD fr 0)
  rw[Yr] at Oo;obtain⟨W6,tW,t0,t1,t2,t3,t4,HP6⟩:∃W6,wc.drewN nq=W6/\W6.cell? ⟨b,0,none⟩=some (.slice (some ⟨g0,0,none⟩) m0 c0)/\W6.cell? ⟨g0,tt,none⟩=some (.int .i64 (ot:Int))/\W6.frozen? ⟨g0,tt,none⟩=false/\W6.frozen? ⟨g0,fr,none⟩=false/\
    W6.cell? ⟨g0,fr,none⟩=some (.int .i64 (xf:Int))/\Hid (bJ V B bs b v' vS ⟨ef P x,P.sp⟩ W6):=⟨_,rfl,b0,y0,z0,z0',Oo,HP.o.ae (below_drewN (Below.refl _ _) nq)⟩
  rw[tW];clear tW Yr b0 b1 s0 s2 y0 y1 z0 z1 z0' z1' Oo HP;obtain⟨xg,t5⟩:=cell?_setCell_some (w:=W6) (p:=⟨g0,tt,none⟩) (x:=.int .i64 (x:Int)) (q:=⟨g0,fr,none⟩) t4
  go_region
  have zc:(P.L 0).length=m0/\(P.L 1).length=m1:=⟨HL.o.2.2.2.2.1,HL.o.2.2.2.2.2.1⟩
  have Lc:ef P x 0=P.L 0:=HL.o.1;have MJ:ef P x 1=P.L 1:=HL.o.2.1;obtain⟨L7,QE,e7⟩:∃L7,fE (ef P x) 0 (((P.L 0).set tt x).set fr ot)=L7/\L7 1=P.L 1:=⟨_,rfl,by rw[EP _ _ _ _ (by omega),MJ]⟩
  have Iz:bJ V B bs b v' vS ⟨L7,P.sp⟩ ((W6.setCell ⟨g0,tt,none⟩ (.int .i64 (x:Int))).setCell ⟨g0,fr,none⟩ (.int .i64 (ot:Int))).drew:=by
   have q1:=(HP6.o.Lk 0 (by omega) HL.o.2.2.1 tt x fr ot (by show tt<(ef P x 0).length;rw[Lc,zc.1];exact tl) (by show fr<(ef P x 0).length;rw[Lc,zc.1];exact fl)).ae (Below.refl _ _).drew;have e:fE (ef P x) 0 (((ef P x 0).set tt x).set fr ot)=L7:=(by rw[Lc];exact QE);have q2:bJ V B bs b v' vS ⟨fE (ef P x) 0 (((ef P x 0).set tt x).set fr ot),P.sp⟩ _:=q1;rw[e] at q2;exact q2
  clear t0 t1 t2 t3 t4 t5 HP6;have XC:x<(L7 1).length:=by rw[e7,zc.2];exact xl
  have ZY:ot<(L7 1).length:=by rw[e7,zc.2];exact ol
  have u1:World.cell? _ ⟨b,1,none⟩=some (v' 1):=(Iz.cell 1 (by omega)).1;obtain⟨_,_,w1,w2,w3⟩:=Iz.num 1 (by omega) x XC;obtain⟨_,_,x1,x2,x3⟩:=Iz.num 1 (by omega) ot ZY;have Ss:v' 1=.slice (some ⟨g1,0,none⟩) m1 c1:=by rw[HL.o.2.2.2.1,zc.2]
  rw[Ss] at w1 x1 u1;replace w1:=CY w1;replace x1:=CY x1;rw[<-w1] at w2 w3;rw[<-x1] at x2 x3;clear w1 x1;have Iw:=ξ QE e7 Ss;have Yk:=ξ zc Lc MJ;clear QE e7 Ss zc Lc MJ XC ZY;have Xp:=hid Iz;clear Iz;generalize ((W6.setCell ⟨g0,tt,none⟩ (.int .i64 (x:Int))).setCell ⟨g0,fr,none⟩ (.int .i64 (ot:Int))).drew=W7 at Xp u1 w2 w3 x2 x3⊢;replace w2:∃ya,W7.cell? ⟨g1,x,none⟩=some (.int .i64 ((ya:Nat):Int)):=⟨_,w2⟩
  replace x2:∃ya,W7.cell? ⟨g1,ot,none⟩=some (.int .i64 ((ya:Nat):Int)):=⟨_,x2⟩
  obtain⟨ya,w2⟩:=w2;obtain⟨yb,x2⟩:=x2;obtain⟨xg,t5⟩:=cell?_setCell_some (w:=W7) (p:=⟨g1,x,none⟩) (x:=.int .i64 (tt:Int)) (q:=⟨g1,ot,none⟩) x2;go_upto_region 7 with fail
  go_region
  have Gn:bJ V B bs b v' vS ⟨fE L7 1 (((P.L 1).set x tt).set ot fr),P.sp⟩ ((W7.setCell ⟨g1,x,none⟩ (.int .i64 (tt:Int))).setCell ⟨g1,ot,none⟩ (.int .i64 (fr:Int))).drew:=by
   have q1:=(Xp.o.Lk 1 (by omega) Iw.o.2.2 x tt ot fr (by show x<(L7 1).length;rw[Iw.o.2.1,Yk.o.1.2];exact xl) (by show ot<(L7 1).length;rw[Iw.o.2.1,Yk.o.1.2];exact ol)).ae (Below.refl _ _).drew;have q2:bJ V B bs b v' vS ⟨fE L7 1 (((L7 1).set x tt).set ot fr),P.sp⟩ _:=q1;rw[Iw.o.2.1] at q2;exact q2
  clear u1 w2 w3 x2 x3 t5;obtain⟨_,cX,x1,x2⟩:=Gn.span k hkl;have kF:=E1.o;rw[kF] at x1;replace x1:=CY x1;have y2:World.cell? _ ⟨_,k*4+2,none⟩=some (.int .i64 (((P.s k).h:Nat):Int)):=(x2 2 (by omega)).1;have y3:=(x2 2 (by omega)).2;rw[<-x1,GB.o] at y2;rw[<-x1] at y3;clear x1 x2 kF;have ZD:=hid Gn;clear Gn;generalize ((W7.setCell ⟨g1,x,none⟩ (.int .i64 (tt:Int))).setCell ⟨g1,ot,none⟩ (.int .i64 (fr:Int))).drew=W8 at ZD y2 y3⊢;have fT:(hh:Int)<=100000:=by omega
  have HF:Hid (bJ V B bs b v' vS (jr P x) (W8.setCell ⟨Ni,k*4+2,none⟩ (.int .i64 ((hh:Int)+1)))):=by
   have q:=ZD.o.yE E1.o k 2 ⟨(P.s k).f,(P.s k).g,(P.s k).h+1,(P.s k).w⟩ hkl (by omega) (fun k' hk' hn=>by
    have:k'=0\/k'=1\/k'=3:=by omega
    rcases this with rfl|rfl|rfl <;> rfl)
   have e1:ig ⟨(P.s k).f,(P.s k).g,(P.s k).h+1,(P.s k).w⟩ 2=.int .i64 ((hh:Int)+1):=by
    show Value.int .i64 (((P.s k).h+1:Nat):Int)=_;rw[GB.o];rfl
   rw[e1] at q;refine q.congr (fun i hi=>?_) ?_
   ·show fE L7 1 (((P.L 1).set x tt).set ot fr) i=fE (fE (ef P x) 0 (((P.L 0).set (P.to x) x).set (P.p x) (P.o (P.to x)))) 1 (((P.L 1).set x (P.to x)).set (P.o (P.to x)) (P.p x)) i;rw[HL.o.2.2.2.2.2.2.1,HL.o.2.2.2.2.2.2.2.1,HL.o.2.2.2.2.2.2.2.2,Iw.o.1]
   show P.sp.set k _=P.sp.set (P.b x) _;rw[Hk.o]
  go_wp2_with fail;go_end0;exact⟨v',vS,rfl,HF.o⟩
section
variable {V : World}{B b : Nat}{bs : List Nat}{v : Nat → Value}{vS : Value}{P : Pt}{w : World}
theorem bJ.c0(h:bJ V B bs b v vS P w):w.cell? ⟨b,0,none⟩=some (v 0)/\w.frozen? ⟨b,0,none⟩=false:=h.cell 0 (by omega)
theorem bJ.c1(h:bJ V B bs b v vS P w):w.cell? ⟨b,1,none⟩=some (v 1)/\w.frozen? ⟨b,1,none⟩=false:=h.cell 1 (by omega)
theorem bJ.c2(h:bJ V B bs b v vS P w):w.cell? ⟨b,2,none⟩=some (v 2)/\w.frozen? ⟨b,2,none⟩=false:=h.cell 2 (by omega)
theorem bJ.c3(h:bJ V B bs b v vS P w):w.cell? ⟨b,4,none⟩=some (v 3)/\w.frozen? ⟨b,4,none⟩=false:=h.cell 3 (by omega)
theorem bJ.c4(h:bJ V B bs b v vS P w):w.cell? ⟨b,5,none⟩=some (v 4)/\w.frozen? ⟨b,5,none⟩=false:=h.cell 4 (by omega)
structure zql (w:World)(g k:Nat)(s:pa):Prop where
 cf:w.cell? ⟨g,k*4,none⟩=some (.int .i64 (s.f:Int))
 cg:w.cell? ⟨g,k*4+1,none⟩=some (.int .i64 (s.g:Int))
 ch:w.cell? ⟨g,k*4+2,none⟩=some (.int .i64 (s.h:Int))
 cw:w.cell? ⟨g,k*4+3,none⟩=some (.bool s.w)
 z0:w.frozen? ⟨g,k*4,none⟩=false
 z2:w.frozen? ⟨g,k*4+2,none⟩=false
 z3:w.frozen? ⟨g,k*4+3,none⟩=false
theorem bJ.Cl(h:bJ V B bs b v vS P w)(hv:vS=.slice (some ⟨g,0,none⟩) n c)(j:Nat)(hj:j<P.sp.length):zql w g j (P.s j):=by
 obtain⟨g',c',e,hc⟩:=h.span j hj;rw[hv] at e;obtain rfl:=CY e;exact⟨(hc 0 (by omega)).1,(hc 1 (by omega)).1,(hc 2 (by omega)).1,(hc 3 (by omega)).1,(hc 0 (by omega)).2,(hc 2 (by omega)).2,(hc 3 (by omega)).2⟩
theorem bJ.TT(h:bJ V B bs b v vS P w)(i:Nat)(hi:i<5)(hv:v i=.slice (some ⟨g,0,none⟩) n c)(j:Nat)(hj:j<(P.L i).length):w.cell? ⟨g,j,none⟩=some (.int .i64 (((P.L i).getD j 0:Nat):Int))/\w.frozen? ⟨g,j,none⟩=false:=by
 obtain⟨g',c',e,hc⟩:=h.num i hi j hj;rw[hv] at e;obtain rfl:=CY e;exact hc
theorem bJ.sl(h:bJ V B bs b v vS P w)(i:Nat)(hi:i<5)(hq:(P.L i).length=q)(h0:0<q):∃g c,v i=.slice (some ⟨g,0,none⟩) q c:=by
 obtain⟨g,c,e,_⟩:=h.num i hi 0 (by omega);exact⟨g,c,by rw[e,hq]⟩
theorem bJ.R8(h:bJ V B bs b v vS P w)(hq:P.sp.length=q)(h0:0<q):∃g c,vS=.slice (some ⟨g,0,none⟩) q c:=by
 obtain⟨g,c,e,_⟩:=h.span 0 (by omega);exact⟨g,c,by rw[e,hq]⟩
theorem bJ.DA(h:bJ V B bs b v vS P w)(i:Nat)(hi:i<5)(hq:(P.L i).length=q):∃a c,v i=.slice a q c:=by
 obtain⟨a,c,e⟩:=cy (h.row i hi);exact⟨a,c,by rw[e,hq]⟩
end
theorem znS{α:Type}(l:List α)(k:Nat)(a c:α):(l.set k a).set k c=l.set k c:=by simp
theorem Pt.sh(L:Nat->List Nat)(sp:List pa)(k j:Nat)(s:pa)(hk:k<sp.length):(⟨L,sp.set k s⟩:Pt).s j=if k=j then s else sp.getD j mX:=by
 show (sp.set k s).getD j mX=_;rw[yY];by_cases e:k=j
 ·rw[if_pos ⟨e,hk⟩,if_pos e]
 rw[if_neg (fun h=>e h.1),if_neg e]
def zqo(V:World)(B:Nat)(bs:List Nat)(b:Nat)(v0:Nat->Value)(P:Pt)(e:Ending)(w':World):Prop:=∃v vS,e=.returned (.tuple #[])/\v 3=v0 3/\bJ V B bs b v vS P w'
structure ZL (P:Pt)(k:Nat):Prop where
 b:k<P.sp.length
 fg:(P.s k).f<=(P.s k).g
 h:(P.s k).f+(P.s k).h<=(P.s k).g
 g:(P.s k).g<=(P.L 0).length
 part:∀x∈P.part k,x<(P.L 2).length
 n0:(P.L 0).length<=100000
 ns:P.sp.length<=100000
 n4:(P.L 4).length<=100000
theorem uj:(prog.info? 225).map (fun i=>(i.zero,i.size,i.bytes))=some (some (.agg #[.int .i64 0,.int .i64 0,.int .i64 0,.bool false]),4,32):=by kernel_rfl
theorem zhE(l xs:List Nat)(x n:Nat):ca l (xs++[x]) n=(ca l xs n).set x n:=by simp[ca,List.foldl_append]
theorem zqp(P:Pt)(k j:Nat)(hj:j<(P.s k).h):(P.part k).getD j 0=(P.L 0).getD ((P.s k).f+j) 0:=by
 unfold Pt.part;rw[List.getD_eq_getElem?_getD,List.getElem?_take_of_lt hj,List.getElem?_drop,List.getD_eq_getElem?_getD]
theorem Nt(l:List Nat)(j:Nat)(h:j<l.length):l.take (j+1)=l.take j++[l.getD j 0]:=by
 rw[List.take_add_one,List.getElem?_eq_getElem h,pZ _ _ _ h];rfl
theorem zqq(V:World)(B b:Nat)(bs:List Nat)(v:Nat->Value)(vS:Value)(P:Pt)(w:World)(h:bJ V B bs b v vS P w)(k:Nat)(ok:ZL P k):
  Calls prog 180 #[.pointer (some ⟨b,0,none⟩),.int .i64 (k:Int)] w (zqo V B bs b v (cW P k)):=by
 have hkl:=ok.b;obtain⟨nS,yy⟩:=Ξ P.sp.length
 obtain⟨gS,cS,eS⟩:=h.R8 yy (by omega);have aS:=h.oq.1;obtain⟨f,hf⟩:=Ξ ((P.s k).f)
 obtain⟨g,hg⟩:=Ξ ((P.s k).g)
 obtain⟨hh,CG⟩:=Ξ ((P.s k).h)
 obtain⟨wt,DO⟩:=Ξ ((P.s k).w)
 obtain⟨d1,d2,d3,d4,d5,d6,d7⟩:=h.Cl eS k hkl;rw[hf] at d1;rw[hg] at d2;rw[CG] at d3;rw[DO] at d4;rw[eS] at aS;have o1:=ok.fg;have o2:=ok.h;have o3:=ok.g;have o4:=ok.n0;rw[hf,hg] at o1;rw[hf,CG,hg] at o2;rw[hg] at o3;have iS:(k:Int)<nS:=by omega
 have h1:=h.yE eS k 2 ⟨f,g,0,wt⟩ hkl (by omega) (fun k' hk' hn=>by
  have:k'=0\/k'=1\/k'=3:=by omega
  rcases this with rfl|rfl|rfl
  ·show ig _ 0=Value.int .i64 (((P.s k).f:Nat):Int);rw[hf];rfl
  ·show ig _ 1=Value.int .i64 (((P.s k).g:Nat):Int);rw[hg];rfl
  ·show ig _ 3=Value.bool (P.s k).w;rw[DO];rfl)
 replace h1:bJ V B bs b v vS ⟨P.L,P.sp.set k ⟨f,g,0,wt⟩⟩ (w.setCell ⟨gS,k*4+2,none⟩ (.int .i64 0)):=h1;obtain⟨x1,x2,x3,x4,x5,x6,x7⟩:=h1.Cl eS k (by simpa using hkl);rw[Pt.sh _ _ _ _ _ hkl,if_pos rfl] at x1 x2 x3 x4;have HS:=hid (Zz hf (Zz hg (Zz CG (Zz DO (Zz eS yy)))));have H1:=hid h1;have Af:=hid ok;have i1:(g:Int)-(f:Int)<=100000:=by omega
 have i2:0<=(g:Int)-(f:Int):=by omega
 clear h ok hf hg CG DO eS yy h1;go_in;go_upto_region 3 with fail;generalize w.setCell ⟨gS,k*4+2,none⟩ (.int .i64 0)=W1 at H1 x1 x2 x3 x4 x5 x6 x7⊢;clear d1 d2 d3 d4 d5 d6 d7 aS;by_cases oE:hh=g-f
 ·have hq:((hh:Int) == (g:Int)-(f:Int))=true:=by rw[beq_iff_eq];omega
  have HF:Hid (bJ V B bs b v vS (cW P k) W1):=by
   show bJ V B bs b v vS (cW P k) W1;have e:cW P k=⟨P.L,P.sp.set k ⟨f,g,0,wt⟩⟩:=by
    unfold cW;rw[HS.o.1,HS.o.2.1,HS.o.2.2.1,HS.o.2.2.2.1,if_pos oE]
   rw[e];exact H1.o
  clear oE;go_quiet (fail);go_wp2_with fail;refine bodyPost_ret (results_none rfl _ _ _) rfl ?_;exact⟨v,vS,rfl,rfl,HF.o.ae (below_drewN (Below.refl _ _) _)⟩
 have hq:((hh:Int) == (g:Int)-(f:Int))=false:=by rw[beq_eq_false_iff_ne];omega
 have yj:=hid oE;clear oE;go_quiet (fail);go_upto_region 4 with fail;generalize lQ:W1.drewN _=W2;have H2:Hid (bJ V B bs b v vS ⟨P.L,P.sp.set k ⟨f,g,0,wt⟩⟩ W2):=by rw[<-lQ];exact H1.o.ae (below_drewN (Below.refl _ _) _)
 replace x1:W2.cell? ⟨gS,k*4,none⟩=some (.int .i64 (f:Int)):=by rw[<-lQ];exact x1
 have zu:gS<W2.heap.size:=by
  have:=me H2.o.pq gS (by rw[HS.o.2.2.2.2.1];rfl);exact this
 have x1a:(W2.alloc (.cells #[.int .i64 0,.int .i64 0,.int .i64 0,.bool false] 225)).cell? ⟨gS,k*4,none⟩=some (.int .i64 (f:Int)):=((al W2 (.cells #[.int .i64 0,.int .i64 0,.int .i64 0,.bool false] 225)).cell (p:=⟨gS,k*4,none⟩) zu).trans x1;clear lQ H1 x2 x3 x4 x5 x6 x7 hq;obtain⟨fh,YP⟩:=Ξ (f+hh)
 have LU:=hid YP;have its:(f:Int)+(hh:Int)=fh:=by omega
 have o5:fh<=g:=by omega
 have o6:f<=fh:=by omega
 have o7:fh<(P.L 0).length:=by have:=yj.o;omega
 have w1:(fh:Int)<=100000:=by omega
 clear YP
 go_region
 obtain⟨bC,Tk⟩:=Ξ W2.heap.size
 have OP:St (W2.alloc (.cells #[.int .i64 (f:Int),.int .i64 (fh:Int),.int .i64 0,.bool false] 225)).drew 225 bC #[.int .i64 (f:Int),.int .i64 (fh:Int),.int .i64 0,.bool false]:=by rw[<-Tk];exact (St.new W2 _ _).drew
 have NO:bJ V B bs b v vS ⟨P.L,P.sp.set k ⟨f,g,0,wt⟩⟩ (W2.alloc (.cells #[.int .i64 (f:Int),.int .i64 (fh:Int),.int .i64 0,.bool false] 225)).drew:=(H2.o.ae (al W2 _)).ae (Below.refl _ _).drew;rw[Tk] at zu⊢;generalize (W2.alloc (.cells #[.int .i64 (f:Int),.int .i64 (fh:Int),.int .i64 0,.bool false] 225)).drew=W4 at OP NO⊢;clear Tk H2 x1 x1a;obtain⟨x1,x2,x3,x4,x5,x6,x7⟩:=NO.Cl HS.o.2.2.2.2.1 k (by simpa using hkl);rw[Pt.sh _ _ _ _ _ hkl,if_pos rfl] at x1;obtain⟨y0,y1,y2,y3⟩:=OP.eW;have pT:=NO.yE HS.o.2.2.2.2.1 k 0 ⟨fh,g,0,wt⟩ (by simpa using hkl) (by omega) (fun k' hk' hn=>by
  rw[Pt.sh _ _ _ _ _ hkl,if_pos rfl]
  have:k'=1\/k'=2\/k'=3:=by omega
  rcases this with rfl|rfl|rfl <;> rfl)
 rw[znS] at pT;replace pT:bJ V B bs b v vS ⟨P.L,P.sp.set k ⟨fh,g,0,wt⟩⟩ (W4.setCell ⟨gS,k*4,none⟩ (.int .i64 (fh:Int))):=pT;have hC5:St (W4.setCell ⟨gS,k*4,none⟩ (.int .i64 (fh:Int))) 225 bC #[.int .i64 (f:Int),.int .i64 (fh:Int),.int .i64 0,.bool false]:=OP.gJ (p:=⟨gS,k*4,none⟩) (fun e=>by
  have:bC=gS:=e
  omega) _
 have H5:=ζ pT hC5;clear NO OP pT hC5;go_upto_region 6 with fail;generalize W4.setCell ⟨gS,k*4,none⟩ (.int .i64 (fh:Int))=W5 at H5⊢;clear x1 x2 x3 x4 x5 x6 x7 y0 y1 y2 y3 zu;have aS:=H5.o.1.oq.1;rw[HS.o.2.2.2.2.1] at aS;obtain⟨m0,pH⟩:=Ξ ((P.L 0).length)
 rw[pH] at o3 o4 o7;obtain⟨g0,c0,e0⟩:=H5.o.1.sl 0 (by omega) pH (by omega);have b0:=H5.o.1.c0.1;rw[e0] at b0;have qO:m0<=c0:=by
  have ho:=H5.o.1.row 0 (by omega);rw[e0] at ho;rcases ho.2 with ⟨h1,_⟩|⟨_,cap,_,h1,_,_,h2,_⟩
  ·cases h1
  injection h1 with _ e1 e2;have h3:(P.L 0).length<=cap:=h2;omega
 obtain⟨y0,y1,y2,y3⟩:=H5.o.2.eW;have Vj:=ζ e0 pH;clear e0 pH;have p1:(fh:Int)<=c0:=by omega
 have p2:(f:Int)<=fh:=by omega
 have p3:(f:Int)<c0:=by omega
 have hn:fh-f=hh:=by have:=LU.o;omega
 go_upto_region 7 with fail;go_quiet (fail);generalize tW:W5.drewN _=W6;have H6:Hid (bJ V B bs b v vS ⟨P.L,P.sp.set k ⟨fh,g,0,wt⟩⟩ W6/\St W6 225 bC #[.int .i64 (f:Int),.int .i64 (fh:Int),.int .i64 0,.bool false]):=by rw[<-tW];exact⟨H5.o.1.ae (below_drewN (Below.refl _ _) _),H5.o.2⟩
 clear tW H5 y0 y1 y2 y3 b0 aS;have vI:(P.part k).length=hh:=by
  unfold Pt.part;rw[HS.o.1,HS.o.2.2.1,length_take,List.length_drop,Vj.o.2];have:=LU.o;omega
 have QX:=hid vI;clear vI;go_wp2_with fail;clear hn;go_loopw [9,65] (fun _ vj wr=>∃j:Nat,vj=.int .i64 j/\j<=hh/\Hid (bJ V B bs b v vS ⟨fE P.L 2 (ca (P.L 2) ((P.part k).take j) nS),P.sp.set k ⟨fh,g,0,wt⟩⟩ wr/\St wr 225 bC #[.int .i64 (f:Int),.int .i64 (fh:Int),.int .i64 0,.bool false])) (fun _ v _=>hh-(intOf v).toNat)
 ·refine⟨0,rfl,zero_le _,H6.o.1.congr (fun i hi=>?_) rfl,H6.o.2⟩;show P.L i=fE P.L 2 (ca (P.L 2) ((P.part k).take 0) nS) i;rw[List.take_zero];unfold fE ca;split
  ·rename_i e;rw[e];rfl
  rfl
 clear H6;obtain⟨j,rfl,hj,HL⟩:=hrel;by_cases aq:j<hh
 ·obtain⟨x,hx⟩:=Ξ ((P.part k).getD j 0)
  have hxl:x<(P.L 2).length:=by
   rw[<-hx,pZ _ _ _ (by rw[QX.o];exact aq)];exact Af.o.part _ (getElem_mem _)
  have lZ:(P.L 0).getD (f+j) 0=x:=by
   rw[<-hx,zqp P k j (by rw[HS.o.2.2.1];exact aq),HS.o.1]
  obtain⟨L8,LK⟩:=Ξ (fE P.L 2 (ca (P.L 2) ((P.part k).take j) nS))
  have l0:L8 0=P.L 0:=by rw[<-LK];exact EP _ _ _ _ (by omega)
  have l2:L8 2=ca (P.L 2) ((P.part k).take j) nS:=by rw[<-LK];exact G9 _ _ _
  have hP:bJ V B bs b v vS ⟨L8,P.sp.set k ⟨fh,g,0,wt⟩⟩ wr:=by rw[<-LK];exact HL.o.1
  have hC:=HL.o.2;have r0:=(hP.TT 0 (by omega) (g:=g0) (n:=m0) (c:=c0) Vj.o.1 (f+j) (by show f+j<(L8 0).length;rw[l0,Vj.o.2];have:=LU.o;omega)).1;replace r0:wr.cell? ⟨g0,f+j,none⟩=some (.int .i64 (((L8 0).getD (f+j) 0:Nat):Int)):=r0;rw[l0,lZ] at r0;obtain⟨n2,dd⟩:=Ξ ((P.L 2).length)
  have l2n:(L8 2).length=n2:=by rw[l2,X7];exact dd
  rw[dd] at hxl;obtain⟨g2,c2,e2⟩:=hP.sl 2 (by omega) (q:=n2) l2n (by omega);have b2:=hP.c2.1;rw[e2] at b2;obtain⟨r1,r2⟩:=hP.TT 2 (by omega) e2 x (by show x<(L8 2).length;omega);have HN:Hid (bJ V B bs b v vS ⟨fE P.L 2 (ca (P.L 2) ((P.part k).take (j+1)) nS),P.sp.set k ⟨fh,g,0,wt⟩⟩ (wr.setCell ⟨g2,x,none⟩ (.int .i64 (nS:Int)))/\St (wr.setCell ⟨g2,x,none⟩ (.int .i64 (nS:Int))) 225 bC #[.int .i64 (f:Int),.int .i64 (fh:Int),.int .i64 0,.bool false]):=by
   have q:=hP.put 2 (by omega) e2 x nS (by show x<(L8 2).length;omega);refine⟨q.congr (fun i hi=>?_) rfl,hC.gJ (p:=⟨g2,x,none⟩) (fun e=>?_) _⟩
   ·show fE L8 2 ((L8 2).set x nS) i=fE P.L 2 (ca (P.L 2) ((P.part k).take (j+1)) nS) i;rw[l2,Nt _ _ (by rw[QX.o];exact aq),hx,zhE,<-LK];unfold fE;split <;> rfl
   have ho:=hP.row 2 (by omega);have e9:bC=g2:=e;exact eI ho hC (by decide) g2 (by rw[e2];rfl) e9.symm
  obtain⟨yb,r3⟩:∃yb,wr.cell? ⟨g2,x,none⟩=some (.int .i64 ((yb:Nat):Int)):=⟨_,r1⟩
  have i3:(x:Int)<n2:=by omega
  have i4:(j:Int)<hh:=by omega
  clear hx lZ LK l0 l2 hP hC dd l2n e2 r1;go_wp2;go_roundw
  ·exact⟨j+1,by go_num,by omega,HN.o⟩
  simp[intOf];omega
 obtain rfl:j=hh:=by omega
 have hP:bJ V B bs b v vS ⟨fE P.L 2 (ca (P.L 2) (P.part k) nS),P.sp.set k ⟨fh,g,0,wt⟩⟩ wr:=by
  have:=HL.o.1;rw[List.take_of_length_le (by rw[QX.o];exact le_refl _)] at this;exact this
 have H9:=ζ hP HL.o.2;obtain⟨bk,pR⟩:=Ξ (P.hY k)
 have tA:bk=if wt=true\/j<=g-fh then nS else k:=by
  rw[<-pR];unfold Pt.hY;rw[HS.o.1,HS.o.2.1,HS.o.2.2.1,HS.o.2.2.2.1,HS.o.2.2.2.2.2,LU.o]
 have ZE:=hid pR;obtain⟨x1,x2,_,x4,_,_,_⟩:=hP.Cl HS.o.2.2.2.2.1 k (by show k<(P.sp.set k _).length;rw[length_set];exact hkl);rw[Pt.sh _ _ _ _ _ hkl,if_pos rfl] at x1 x2 x4;clear hP pR HL;go_upto_region 12 with fail;obtain⟨q,hq⟩:∃q:Bool,decide (wt=true\/j<=g-fh)=q:=⟨_,rfl⟩
 have Hq:=hid hq
 go_cut [93] from 77 to 92 (fun v93 wx=>v93=.bool q/\bJ V B bs b v vS ⟨fE P.L 2 (ca (P.L 2) (P.part k) nS),P.sp.set k ⟨fh,g,0,wt⟩⟩ wx/\St wx 225 bC #[.int .i64 (f:Int),.int .i64 (fh:Int),.int .i64 0,.bool false])
 case first=>
  have q1:(g:Int)-(fh:Int)<=100000:=by omega
  have q2:0<=(g:Int)-(fh:Int):=by omega
  rcases hw:wt with _|_
  ·rw[hw] at x4;by_cases hle:j<=g-fh
   ·have hd:decide ((j:Int)<=g-(fh:Int))=true:=(by rw[decide_eq_true_iff];omega);have He:Hid (q=true):=(by show _=_;rw[<-hq];simp[hle]);clear tA hw hle hq;go_quiet (fail);go_wp2_with fail
    go_meet
    exact⟨by rw[He.o],H9.o.1.ae (below_drewN (Below.refl _ _) _),H9.o.2⟩
   have hd:decide ((j:Int)<=g-(fh:Int))=false:=(by rw[decide_eq_false_iff_not];omega);have He:Hid (q=false):=(by show _=_;rw[<-hq,hw];simp;omega);clear tA hw hle hq;go_quiet (fail);go_wp2_with fail
   go_meet
   exact⟨by rw[He.o],H9.o.1.ae (below_drewN (Below.refl _ _) _),H9.o.2⟩
  rw[hw] at x4;have He:Hid (q=true):=by show _=_;rw[<-hq];simp[hw]
  clear tA hw hq;go_quiet (fail);go_wp2_with fail
  go_meet
  exact⟨by rw[He.o],H9.o.1.ae (below_drewN (Below.refl _ _) _),H9.o.2⟩
 case rest=>
  obtain⟨rfl,hP,hC⟩:=hcut;clear x1 x2 x4 H9;have Gj:=ζ hP hC;clear hP hC;have UO:=hid tA;clear tA hq
  go_upto_if 93 with (fail)
  go_cut [1] from 93 to 94 (fun v1 wx=>v1=.int .i64 (bk:Int)/\wx=wc)
  case first=>
   rcases q with _|_
   ·have He:Hid (bk=k):=(by show _=_;rw[UO.o,if_neg (by have:=Hq.o;rw[decide_eq_false_iff_not] at this;exact this)]);go_wp2_with fail
    go_meet
    exact⟨by rw[He.o],rfl⟩
   have He:Hid (bk=nS):=(by show _=_;rw[UO.o,if_pos (by have:=Hq.o;rw[decide_eq_true_iff] at this;exact this)]);go_wp2_with fail
   go_meet
   exact⟨by rw[He.o],rfl⟩
  case rest=>
   obtain⟨rfl,rfl⟩:=hcut;have DS:bk<nS+1:=(by rw[UO.o];split <;> omega);have Hns:Hid ((P.sp.set k ⟨fh,g,0,wt⟩).length=nS):=(by show _=_;rw[length_set];exact HS.o.2.2.2.2.2);have hO:=Gj.o.1.pq;replace hO:ownsRow wc B 225 4 vS (P.sp.set k ⟨fh,g,0,wt⟩).length (rn (P.sp.set k ⟨fh,g,0,wt⟩)):=hO;rw[Hns.o,HS.o.2.2.2.2.1] at hO;have aS:=Gj.o.1.oq.1;rw[HS.o.2.2.2.2.1] at aS;obtain⟨i0,hi,dP,dc,db⟩:=info_parts uj;obtain⟨y0,y1,y2,y3⟩:=Gj.o.2.eW;have DH:=Gj.o.1.st;have RD:(wc.alloc (.cells #[.int .i64 (f:Int),.int .i64 (fh:Int),.int .i64 0,.bool false] 225)).cell? ⟨b,3,none⟩=some (.slice (some ⟨gS,0,none⟩) nS cS):=((al wc _).cell (p:=⟨b,3,none⟩) DH.lt).trans aS;have hV:=Gj.o.1.hB;have ns9:nS<=100000:=(by have:=Af.o.ns;rw[HS.o.2.2.2.2.2] at this;exact this);have E2:=hid DH;clear DH;go_upto_region 14 with fail
   go_cut [7] from 95 to 104 (fun v7 wx=>v7=.int .i64 (nS:Int)/\∃(a5:Option Addr) (c5:Nat),bJ V B bs b v (.slice a5 (nS+1) c5) ⟨fE P.L 2 (ca (P.L 2) (P.part k) nS),ez P k⟩ wx)
   case first=>
    go_region_law (
     refine KT (by rfl) _ _ _ (by rfl) B 225 i0 (.agg #[.int .i64 0,.int .i64 0,.int .i64 0,.bool false]) 4 32 underlying213 hi dP dc db (by rfl) (by decide) (.slice (some ⟨gS,0,none⟩) nS cS) nS (rn (P.sp.set k ⟨fh,g,0,wt⟩)) (by rfl) (by first|exact hO.drew.alloc _|exact (hO.alloc _).drew) ⟨wc.heap.size,0,none⟩ 1 1 [.int .i64 (f:Int),.int .i64 (fh:Int),.int .i64 0,.bool false] (by rfl) (by rfl) (World.news_of_block (cs:=#[.int .i64 (f:Int),.int .i64 (fh:Int),.int .i64 0,.bool false]) (by first|exact heap_alloc_new _ _|exact St.new _ _ _)) (by intro u hu;simp at hu;rcases hu with rfl|rfl|rfl|rfl <;> rfl) (by unfold maxLen;omega) (by omega) (by simp;omega) ?_
     intro v5 w5 ak aj bW
     have tr:(wc.alloc (.cells #[.int .i64 (f:Int),.int .i64 (fh:Int),.int .i64 0,.bool false] 225)).drew.grownBy w5 (Value.slice (some ⟨gS,0,none⟩) nS cS).ownBlock:=aj
     have gh:St w5 215 b (qW v vS):=(E2.o.alloc (.cells #[.int .i64 (f:Int),.int .i64 (fh:Int),.int .i64 0,.bool false] 225)).drew.af (hO.alloc _).drew (by decide) tr
     have e5:w5.cell? ⟨b,3,none⟩=some (.slice (some ⟨gS,0,none⟩) nS cS):=by rw[gh.at_,<-HS.o.2.2.2.2.1];rfl
     have f5:=gh.bE 3
     obtain⟨a5,c5,rfl⟩:=cy ak)
    all_goals
     have sU:bJ V B bs b v (.slice a5 (nS+1) c5) ⟨fE P.L 2 (ca (P.L 2) (P.part k) nS),ez P k⟩ (w5.setCell ⟨b,3,none⟩ (.slice a5 (nS+1) c5)):=by
      have h2:bJ V B bs b v vS ⟨fE P.L 2 (ca (P.L 2) (P.part k) nS),P.sp.set k ⟨fh,g,0,wt⟩⟩ (wc.alloc (.cells #[.int .i64 (f:Int),.int .i64 (fh:Int),.int .i64 0,.bool false] 225)).drew:=(Gj.o.1.ae (al wc _)).ae (Below.refl _ _).drew;have h3:=h2.Ty (v':=.slice a5 (nS+1) c5) (s:=⟨f,fh,0,false⟩) Hns.o ak (by rw[HS.o.2.2.2.2.1];exact tr) (by
       rw[HS.o.2.2.2.2.1]
       rcases bW with h|h
       ·exact inl h
       ·exact inr (inl h))
      have e:ez P k=P.sp.set k ⟨fh,g,0,wt⟩++[⟨f,fh,0,false⟩]:=by
       unfold ez;rw[HS.o.1,HS.o.2.1,HS.o.2.2.1,HS.o.2.2.2.1,LU.o]
      rw[e];exact h3
     clear ak aj bW tr gh e5 f5
     go_wp2_with fail
     go_meet
     exact⟨rfl,a5,c5,sU⟩
   case rest=>
    obtain⟨rfl,a5,c5,sU⟩:=hcut;clear aS RD y0 y1 y2 y3 hO;have Re:Hid ((ez P k).length=nS+1):=(by show _=_;rw[RV,HS.o.2.2.2.2.2]);obtain⟨g5,c6,e6⟩:=sU.R8 (q:=nS+1) Re.o (by omega);rw[e6] at sU;have aS:=sU.oq.1;obtain⟨x1,x2,x3,x4,x5,x6,x7⟩:=sU.Cl rfl bk (by show bk<(ez P k).length;rw[Re.o];exact DS);have BE:=sU.yE rfl bk 3 ⟨((ez P k).getD bk mX).f,((ez P k).getD bk mX).g,((ez P k).getD bk mX).h,true⟩ (by show bk<(ez P k).length;rw[Re.o];exact DS) (by omega) (fun k' hk' hn=>by
     have:k'=0\/k'=1\/k'=2:=by omega
     rcases this with rfl|rfl|rfl <;> rfl)
    replace BE:bJ V B bs b v (.slice (some ⟨g5,0,none⟩) (nS+1) c6) ⟨fE P.L 2 (ca (P.L 2) (P.part k) nS),(ez P k).set bk ⟨((ez P k).getD bk mX).f,((ez P k).getD bk mX).g,((ez P k).getD bk mX).h,true⟩⟩ (wc.setCell ⟨g5,bk*4+3,none⟩ (.bool true)):=BE;have x9:wc.cell? ⟨g5,bk*4+3,none⟩=some (.bool ((⟨fE P.L 2 (ca (P.L 2) (P.part k) nS),ez P k⟩:Pt).s bk).w):=x4;generalize ((⟨fE P.L 2 (ca (P.L 2) (P.part k) nS),ez P k⟩:Pt).s bk).w=wb at x9;have i9:(bk:Int)<nS+1:=(by omega);have i8:bk<nS+1:=DS;clear sU e6 x1 x2 x3 x4 x5 x6;have we:=hid BE;clear BE;obtain⟨SP,QG⟩:=Ξ ((ez P k).set bk ⟨((ez P k).getD bk mX).f,((ez P k).getD bk mX).g,((ez P k).getD bk mX).h,true⟩);obtain⟨L9,B2⟩:=Ξ (fE P.L 2 (ca (P.L 2) (P.part k) nS));rw[QG,B2] at we;have WX:=ζ QG B2;have l4:L9 4=P.L 4:=(by rw[<-B2];exact EP _ _ _ _ (by omega));clear QG B2;go_upto_region 16 with fail;generalize wc.setCell ⟨g5,bk*4+3,none⟩ (.bool true)=FY at we⊢;clear x7 x9 aS;obtain⟨q,hq⟩:=Ξ ((P.L 4).length);have hO:=we.o.row 4 (by omega);replace hO:ownsRow FY B 3 1 (v 4) (L9 4).length (dv (L9 4)):=hO;obtain⟨a3,c3,e3⟩:=cy hO;have a4:FY.cell? ⟨b,5,none⟩=some (v 4):=we.o.c4.1;rw[l4] at hO e3;rw[hq] at hO e3;rw[e3] at hO a4;have NX:q<=100000:=(by have:=Af.o.n4;omega);have hV:=we.o.hB;have sO:=hid e3;have Hq4:=hid hq;have Uc:=hid l4;obtain⟨i0,hi,dP,dc,db⟩:=info_parts aH;clear e3 hq l4;go_wp2_with (at_builtin;refine wpList_append_own_at _ rfl _ _ 43 rfl B 3 i0 (.int .i64 0) 1 8 underlying43 hi dP dc db rfl (by decide) _ _ _ rfl (hO.alloc _) ⟨FY.heap.size,0,none⟩ 1 1 [.int .i64 (bk:Int)] rfl rfl (cell_one_new _ _ _) ?d2 ?d3 ?d4 ?d5 ?_)
    case d2=>intro u hu;simp at hu;subst hu;rfl
    case d3=>unfold maxLen;omega
    case d4=>omega
    case d5=>simp;omega
    intro v' w5 ak aj _ bW;have h2:=we.o.ae (al FY (.cells #[.int .i64 (bk:Int)] 3));have gh:=h2.st.af (hO.alloc _) (by decide) aj;have p3:w5.cell? ⟨b,5,none⟩=some (.slice a3 q c3):=(by rw[gh.at_];show some (v 4)=_;rw[sO.o]);have pf:=gh.bE 5;have HF:Hid (bJ V B bs b (tG v 4 v') (.slice (some ⟨g5,0,none⟩) (nS+1) c6) (cW P k) (w5.setCell ⟨b,5,none⟩ v')):=by
     have h3:=h2.app (v':=v') (x:=bk) 4 (by omega) (q:=q) (by show (L9 4).length=q;rw[Uc.o];exact Hq4.o) (by show ownsRow _ _ _ _ _ _ (dv (L9 4)++_);rw[Uc.o];exact ak) (by rw[sO.o];exact aj) (by
      rw[show (FY.alloc (.cells #[.int .i64 (bk:Int)] 3)).heap.size=FY.heap.size+1 by simp,sO.o]
      rcases bW with h|h
      ·exact inl h
      ·exact inr (inl h))
     refine h3.congr (fun i hi=>?_) ?_
     ·unfold cW;rw[HS.o.1,HS.o.2.1,HS.o.2.2.1,if_neg yj.o];show fE L9 4 (L9 4++[bk]) i=fE (fE P.L 2 (ca (P.L 2) (P.part k) P.sp.length)) 4 (P.L 4++[P.hY k]) i;rw[Uc.o,ZE.o,HS.o.2.2.2.2.2,WX.o.2]
     unfold cW;rw[HS.o.1,HS.o.2.1,HS.o.2.2.1,if_neg yj.o];show SP=(ez P k).set (P.hY k) _;rw[<-WX.o.1,ZE.o]
    obtain⟨a5',c5',rfl⟩:=cy ak;clear ak aj bW h2 gh hO a4;go_wp2_with fail;go_end0;exact⟨tG v 4 (.slice a5' (q+1) c5'),_,rfl,rfl,HF.o⟩
theorem yo.ok{P0 P:Pt}(h:yo N P0 P l)(hN:N<=100000)(hx:x<N)(hn:x∉l):VA P x:=by
 obtain⟨⟨c1,c2,c3,c4⟩,_,_⟩:=VW h.pi h.hit hx hn;refine⟨c1,by rw[h.pi.l2];exact hx,by rw[h.pi.l0];exact c2,by rw[h.pi.l0];exact c3,by rw[h.pi.l1];exact hx,by rw[h.pi.l1];exact c4,by rw[h.pi.l0];exact hN,?_⟩;have h1:(P.L 3).length<=P.sp.length:=rb h.hit.nd (fun b hb=>((h.hit.tc b).1 hb).1);have h2:=h.pi.len;omega
theorem PI.uP{P:Pt}(h:PI N P):(P.L 4).length<=N:=le_trans (rb h.uJ.1 (fun b hb=>((h.uJ.2 b).1 hb).1)) h.len
theorem PI.IN{k:Nat}{P:Pt}(h:PI N P)(hN:N<=100000)(hk:k<P.sp.length):ZL P k:=by
 obtain⟨s1,s2,s3,s4⟩:=h.sp k hk;refine⟨hk,by omega,s3,by rw[h.l0];exact s2,fun x hx=>?_,by rw[h.l0];exact hN,by have:=h.len;omega,by have:=h.uP;omega⟩;rw[h.l2];unfold Pt.part at hx;obtain⟨j,hj,e⟩:=List.getElem_of_mem hx;rw[List.getElem_take,List.getElem_drop] at e;have hj2:(P.s k).f+j<N:=by
  simp at hj;have:=h.l0;omega
 have:=(h.op _ hj2).1;unfold Pt.o at this;rw[pZ _ _ _ (by rw[h.l0];exact hj2),e] at this;exact this
theorem pe.vl(h:pe w a l)(k:Kept [] bs w w')(hs:w.heap.size<=w'.heap.size)(hb:∀ad,a=some ad->ad.block∉bs):pe w' a l:=by
 intro h0;obtain⟨g,off,e,hg,hc⟩:=h h0;refine⟨g,off,e,by omega,fun j hj=>?_⟩;rw[k.oz (by have:=hb _ e;exact this) hg];exact hc j hj
theorem Y5(N:Nat)(hN:N<=100000)(V:World)(B b:Nat)(bs:List Nat)(v:Nat->Value)(vS:Value)(P:Pt)(w:World)(h:bJ V B bs b v vS P w)(hz:PZ N P)(l:List Nat)(q:Nat)(hq:l.length=q)(kG:l.Nodup)(hl:∀x∈l,x<N)(aL:Option Addr)(cL:Nat)(hL:pe V aL l)(hb:∀ad,aL=some ad->ad.block∉bs):
  Calls prog 161 #[.pointer (some ⟨b,0,none⟩),.slice aL q cL] w (QU V B bs b (nC P l)):=by
 have Zs:q<=N:=by rw[<-hq];exact rb kG hl
 obtain⟨d1,d2⟩:=VG hz;obtain⟨a3,c3,e3⟩:=h.DA 3 (by omega) rfl;have a4:=h.c3;have h1:=h.yL 3 (by omega) e3 0 (zero_le _);have H1:Hid (∃v',bJ V B bs b v' vS (lx P) (w.setCell ⟨b,4,none⟩ (.slice a3 0 c3))):=⟨_,h1.congr (fun i hi=>by show fE P.L 3 ((P.L 3).take 0) i=fE P.L 3 [] i;rw[List.take_zero]) rfl⟩
 obtain⟨n3,mH⟩:=Ξ ((P.L 3).length)
 have hns3:n3<=c3:=by
  have ho:=h.row 3 (by omega);rw[e3] at ho;rcases ho.2 with ⟨h1,_⟩|⟨_,cap,_,h1,_,_,h2,_⟩
  ·injection h1 with _ e1 e2;omega
  injection h1 with _ e1 e2;have h3:(P.L 3).length<=cap:=h2;omega
 rw[e3,mH] at a4;obtain⟨a41,a42⟩:=a4;have HX:=hid (Zz hq (Zz kG (Zz hl (Zz hL (Zz hb (Zz d1 (Zz d2 hz)))))));clear h hz hq kG hl hL hb d1 d2 h1 e3 mH;go_in;go_upto_region 1 with fail;generalize w.setCell ⟨b,4,none⟩ (.slice a3 0 c3)=W1 at H1⊢;clear a41 a42;go_wp2;go_loopw [5,18] (fun _ v wr=>∃k:Nat,v=.int .i64 k/\k<=q/\Hid (∃v' vS',bJ V B bs b v' vS' (iz (lx P) (l.take k)) wr)) (fun _ v _=>q-(intOf v).toNat)
 ·obtain⟨v',hv⟩:=H1.o;exact⟨0,rfl,zero_le _,v',vS,hv⟩
 clear H1;obtain⟨k,rfl,hk,HL⟩:=hrel;by_cases aq:k<q
 ·obtain⟨v',vS',hP⟩:=HL.o;have hkl:k<l.length:=by rw[HX.o.1];exact aq
  have hR:=Sc HX.o.2.2.2.2.2.1 HX.o.2.2.2.2.2.2.1 l HX.o.2.1 HX.o.2.2.1 k (by omega);have IE:l[k]∉l.take k:=fun hm=>by
   obtain⟨j,hj,e2⟩:=List.getElem_of_mem hm;rw[List.getElem_take] at e2;have hjk:j<k:=(by simp at hj;omega);have:=(List.getElem_inj (h₀:=by omega) (h₁:=hkl) HX.o.2.1).1 e2;omega
  have ok:=hR.ok hN (HX.o.2.2.1 _ (getElem_mem hkl)) IE;obtain⟨g,off,rfl,hg,qO⟩:=(pe.vl HX.o.2.2.2.1 hP.kept hP.below.size HX.o.2.2.2.2.1) (by omega);have hc:wr.cell? ⟨g,off+k,none⟩=some (.int .i64 (l.getD k 0)):=qO k hkl;rw[pZ _ _ _ hkl] at hc;have HC:=hid (zqk V B b bs v' vS' _ wr hP l[k] ok);have HS:Hid (jr (iz (lx P) (l.take k)) l[k]=iz (lx P) (l.take (k+1))):=by
   show _=_;rw[<-zeQ,Nt _ _ hkl,pZ _ _ _ hkl]
  have i1:(k:Int)<q:=by omega
  clear hR IE ok qO hP HL;generalize l[k]=x at hc HC HS;go_wp2_with fail;refine HC.o.mono ?_;rintro e w5 ⟨v5,tm,rfl,pT⟩;rw[HS.o] at pT;have Ay:=hid pT;clear pT HC;go_wp2;go_roundw
  ·exact⟨k+1,by go_num,by omega,v5,tm,Ay.o⟩
  simp[intOf];omega
 obtain rfl:k=q:=by omega
 obtain⟨v',vS',hP⟩:=HL.o;rw[List.take_of_length_le (by rw[HX.o.1];exact le_refl _)] at hP;have hR:=Sc HX.o.2.2.2.2.2.1 HX.o.2.2.2.2.2.2.1 l HX.o.2.1 HX.o.2.2.1 l.length (le_refl _);rw[List.take_length] at hR;obtain⟨P2,ug⟩:=Ξ (iz (lx P) l)
 have HE:Hid (nC P l=jX P2 (P2.L 3)):=by show _=_;rw[<-ug];rfl
 rw[ug] at hP hR;obtain⟨T,hT⟩:=Ξ (P2.L 3)
 obtain⟨m,hm⟩:=Ξ T.length
 obtain⟨aT,cT,eT⟩:=hP.DA 3 (by omega) (q:=m) (by rw[hT];exact hm);have b3:=hP.c3.1;rw[eT] at b3;have HR:=ψ hR hT hm eT;have WI:m<=N:=by
  have h1:(P2.L 3).length<=P2.sp.length:=rb hR.hit.nd (fun b hb=>((hR.hit.tc b).1 hb).1);have h2:=hR.pi.len;rw[hT,hm] at h1;omega
 have HP:=hid hP;clear hP hR ug hT hm eT HL;go_wp2_with fail;clear b3;obtain⟨W9,rfl⟩:∃W9,W9=wr:=⟨wr,rfl⟩
 go_loopw [7,31] (fun _ v wq=>∃j:Nat,v=.int .i64 j/\j<=m/\Hid (∃v5 tm,v5 3=.slice aT m cT/\bJ V B bs b v5 tm (jX P2 (T.take j)) wq)) (fun _ v _=>m-(intOf v).toNat)
 ·exact⟨0,rfl,zero_le _,v',vS',HR.o.2.2.2,HP.o⟩
 clear HP;obtain⟨j,rfl,hj,HL⟩:=hrel;by_cases lu:j<m
 ·obtain⟨v5,tm,e5,hP⟩:=HL.o;have hjl:j<T.length:=by rw[HR.o.2.2.1];exact lu
  have hC:=YB (S:=fun x=>x∈l) HR.o.1.pi T (by rw[<-HR.o.2.1];exact zgq HR.o.1.hit) (by rw[<-HR.o.2.1];exact HR.o.1.hit.nd) (fun b hb=>by rw[<-HR.o.2.1] at hb;exact ((HR.o.1.hit.tc b).1 hb).1) j (by omega);have ok:=hC.pi.IN hN (k:=T[j]) (by
   have h9:T[j]∈P2.L 3:=by rw[HR.o.2.1];exact getElem_mem hjl
   have:=((HR.o.1.hit.tc _).1 h9).1
   have:=hC.len
   omega)
  have LR:(jX P2 (T.take j)).L 3=T:=hC.o3.trans HR.o.2.1;obtain⟨g,c,eg,hc,_⟩:=hP.num 3 (by omega) j (by rw[LR];exact hjl);rw[LR,pZ _ _ _ hjl] at hc;rw[e5] at eg;obtain⟨rfl⟩:aT=some ⟨g,0,none⟩:=by injection eg
  have HC:=hid (zqq V B b bs v5 tm _ wr hP T[j] ok);have HS:Hid (cW (jX P2 (T.take j)) T[j]=jX P2 (T.take (j+1))):=by
   show _=_;rw[<-ZF,Nt _ _ hjl,pZ _ _ _ hjl]
  have i1:(j:Int)<m:=by omega
  have He5:=hid e5;clear hC ok LR eg hP HL e5;generalize T[j]=x at hc HC HS;go_wp2_with fail;refine HC.o.mono ?_;rintro e w5 ⟨v6,vS6,rfl,e6,pT⟩;rw[HS.o] at pT;rw[He5.o] at e6;have Ay:=ζ e6 pT;clear pT HC e6;go_wp2;go_roundw
  ·exact⟨j+1,by go_num,by omega,v6,vS6,Ay.o⟩
  simp[intOf];omega
 obtain rfl:j=m:=by omega
 obtain⟨v5,tm,e5,hP⟩:=HL.o;rw[List.take_of_length_le (by rw[HR.o.2.2.1];exact le_refl _),<-HR.o.2.1,<-HE.o] at hP;have HP:=hid hP;clear hP HL e5;go_wp2_with fail;go_end0;exact⟨v5,tm,rfl,HP.o⟩
