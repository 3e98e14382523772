import Derived.Test.YtiijebameffenaaGreatZMCol
set_option linter.all false
set_option maxHeartbeats 4000000
set_option maxRecDepth 100000
open Go.Lib (hid)
namespace Go.Proofs.YtiijebameffenaaGreat
open Go.RowKit Go.Maps Go.WideElems Go.ChangeMaps Go.MapKept Go.Proofs.Tryz
open List (getElem_mem length_append length_set length_take)
open Or (inl inr)
open Nat (le_refl le_trans zero_le)
open World (ownsRow)
variable {B N c g n q x:Nat}{a:Option Addr}{bs l:List Nat}{v:Nat->Value}{vS:Value}{w w':World}
def fW(s:nv)(k:Nat):Value:=if k=0 then .int .i64 ((s.f:Nat):Int) else if k=1 then .int .i64 ((s.g:Nat):Int) else if k=2 then .int .i64 ((s.h:Nat):Int) else .bool s.w
def pI(l:List nv):List Value:=l.flatMap fun s=>[fW s 0,fW s 1,fW s 2,fW s 3]
theorem Rq(s:nv)(l:List nv):pI (s :: l)=[fW s 0,fW s 1,fW s 2,fW s 3]++pI l:=by simp[pI]
theorem znE(l:List nv):(pI l).length=l.length*4:=by
 induction l with
 | nil=>rfl
 | cons s l ih=>rw[Rq,length_append,ih];simp;omega
theorem Pp(l:List nv):∀j,(pI l)[j]?=(l[j / 4]?).map fun s=>fW s (j % 4):=by
 induction l with
 | nil=>intro j;simp[pI]
 | cons s l ih=>
  intro j;rw[Rq];by_cases h:j<4
  ·rw[List.getElem?_append_left (by simpa using h),show j / 4=0 by omega,show j % 4=j by omega];have:j=0\/j=1\/j=2\/j=3:=(by omega);rcases this with rfl|rfl|rfl|rfl <;> rfl
  rw[List.getElem?_append_right (by simp;omega),show ([fW s 0,fW s 1,fW s 2,fW s 3]:List Value).length=4 from rfl,ih,show j / 4=(j-4) / 4+1 by omega,show j % 4=(j-4) % 4 by omega,List.getElem?_cons_succ]
theorem zlG(l:List nv)(s:nv):pI (l++[s])=pI l++[fW s 0,fW s 1,fW s 2,fW s 3]:=by simp[pI]
theorem zoK(l:List nv)(b k:Nat)(hb:b<l.length)(hk:k<4):(pI l)[b*4+k]?=some (fW (l.getD b kY) k):=by
 rw[Pp,show (b*4+k) / 4=b by omega,show (b*4+k) % 4=k by omega,List.getElem?_eq_getElem hb,ov _ _ _ hb];rfl
theorem znF(l:List nv)(b k:Nat)(s:nv)(hb:b<l.length)(hk:k<4)(hs:∀k',k'<4->k'≠k->fW s k'=fW (l.getD b kY) k'):pI (l.set b s)=(pI l).set (b*4+k) (fW s k):=by
 apply List.ext_getElem?;intro j;rw[Pp,List.getElem?_set,List.getElem?_set,znE,Pp];by_cases e:b=j / 4
 ·subst e;rw[if_pos rfl,if_pos hb];by_cases e2:j / 4*4+k=j
  ·rw[if_pos e2,if_pos (by omega),show j % 4=k by omega];rfl
  rw[if_neg e2,List.getElem?_eq_getElem hb,<-ov _ _ kY hb];show some (fW s (j % 4))=some _;rw[hs (j % 4) (by omega) (by omega)]
 rw[if_neg e,if_neg (by omega)]
theorem zig(l:List Nat)(j x:Nat):(cy l).set j (.int .i64 (x:Int))=cy (l.set j x):=by simp[cy,List.map_set]
theorem zgm(l:List Nat)(j:Nat)(h:j<l.length):(cy l)[j]?=some (.int .i64 ((l.getD j 0:Nat):Int)):=by rw[AD l j h,ov l j 0 h]
theorem zjJ{t size:Nat}{xs:List Value}(h:w.ownsRow B t size (.slice a n c) n xs)(k:Nat)(hk:k<=n):w.ownsRow B t size (.slice a k c) k (xs.take (k*size)):=by
 have hl:k*size<=n*size:=Nat.mul_le_mul_right size hk;refine⟨by rw[length_take,h.1];omega,?_⟩;rcases h.2 with ⟨h1,h2⟩|⟨g,cap,cur,h1,h3,h4,h5,h6,h7,h8⟩
 ·injection h1 with e1 e2 e3;have pC:k=0:=by omega
  subst pC;rw[e1,e3];exact inl ⟨rfl,rfl⟩
 injection h1 with e1 e2 e3;rw[e1,e3];refine inr ⟨g,cap,cur,rfl,h3,h4,by omega,h6,h7,?_⟩;rw[<-h8,List.take_take,Nat.min_eq_left hl]
def zU(i:Nat):Nat:=if i<3 then i else i+1
def rG(v:Nat->Value)(i:Nat)(u:Value):Nat->Value:=fun j=>if j=i then u else v j
theorem AQ(v:Nat->Value)(i:Nat)(u:Value):rG v i u i=u:=if_pos rfl
theorem xN(v:Nat->Value)(i j:Nat)(u:Value)(h:j≠i):rG v i u j=v j:=if_neg h
theorem D8(L:Nat->List Nat)(i:Nat)(u:List Nat):ew L i u i=u:=if_pos rfl
theorem CD(L:Nat->List Nat)(i j:Nat)(u:List Nat)(h:j≠i):ew L i u j=L j:=if_neg h
def oY(v:Nat->Value)(vS:Value):Array Value:=#[v 0,v 1,v 2,vS,v 3,v 4]
structure bp (V:World)(B:Nat)(bs:List Nat)(b:Nat)(v:Nat->Value)(vS:Value)(P:Pt)(w:World):Prop where
 kept:Kept [] bs V w
 below:Below B V w
 st:St w 215 b (oY v vS)
 row:∀i,i<5->w.ownsRow B 3 1 (v i) (P.L i).length (cy (P.L i))
 sep:∀i j,i<5->j<5->i≠j->∀g,(v i).ownBlock=some g->(v j).ownBlock≠some g
 ng:w.ownsRow B 225 4 vS P.sp.length (pI P.sp)
 loc:∀i,i<5->∀g,(v i).ownBlock=some g->g∈bs\/V.heap.size<=g
 lB:∀g,vS.ownBlock=some g->g∈bs\/V.heap.size<=g
 jn:b∈bs
 lo:B<=b/\B<=V.heap.size
section
variable {V : World}{B b : Nat}{bs : List Nat}{v : Nat → Value}{vS : Value}{P : Pt}{w : World}
theorem bp.hB(h:bp V B bs b v vS P w):B<=w.heap.size:=le_trans h.lo.2 h.below.size
theorem bp.aa{w1:World}(h:bp V B bs b v vS P w)(k:Below w.heap.size w w1):bp V B bs b v vS P w1:=
 ⟨h.kept.below k,h.below.trans (k.mono h.hB),h.st.aa k,fun i hi=>dr (h.row i hi) k,h.sep,dr h.ng k,h.loc,h.lB,h.jn,h.lo⟩
theorem znG(v:Nat->Value)(vS:Value)(i:Nat)(hi:i<5):(oY v vS)[zU i]?=some (v i):=by
 have:i=0\/i=1\/i=2\/i=3\/i=4:=by omega
 rcases this with rfl|rfl|rfl|rfl|rfl <;> rfl
theorem Ur(v:Nat->Value)(vS u:Value)(i:Nat)(hi:i<5):(oY v vS).setIfInBounds (zU i) u=oY (rG v i u) vS:=by
 have:i=0\/i=1\/i=2\/i=3\/i=4:=by omega
 rcases this with rfl|rfl|rfl|rfl|rfl <;> rfl
theorem zjK(v:Nat->Value)(vS u:Value):(oY v vS).setIfInBounds 3 u=oY v u:=rfl
theorem bp.cell(h:bp V B bs b v vS P w)(i:Nat)(hi:i<5):w.cell? ⟨b,zU i,none⟩=some (v i)/\w.frozen? ⟨b,zU i,none⟩=false:=⟨by rw[h.st.at_,znG v vS i hi],h.st.aX _⟩
theorem bp.mH(h:bp V B bs b v vS P w):w.cell? ⟨b,3,none⟩=some vS/\w.frozen? ⟨b,3,none⟩=false:=⟨by rw[h.st.at_];rfl,h.st.aX _⟩
theorem bp.num(h:bp V B bs b v vS P w)(i:Nat)(hi:i<5)(j:Nat)(hj:j<(P.L i).length):∃g c,v i=.slice (some ⟨g,0,none⟩) (P.L i).length c/\w.cell? ⟨g,j,none⟩=some (.int .i64 (((P.L i).getD j 0:Nat):Int))/\w.frozen? ⟨g,j,none⟩=false:=by
 have ho:=h.row i hi;obtain⟨a,c,e⟩:=bE ho;rw[e] at ho⊢;obtain⟨g,rfl,_,_,hc⟩:=fa ho (by omega);obtain⟨h1,h2⟩:=hc j (by omega);exact⟨g,c,rfl,by rw[h1,zgm _ _ hj],h2⟩
theorem bp.span(h:bp V B bs b v vS P w)(j:Nat)(hj:j<P.sp.length):∃g c,vS=.slice (some ⟨g,0,none⟩) P.sp.length c/\∀k,k<4->w.cell? ⟨g,j*4+k,none⟩=some (fW (P.s j) k)/\w.frozen? ⟨g,j*4+k,none⟩=false:=by
 have ho:=h.ng;obtain⟨a,c,e⟩:=bE ho;rw[e] at ho⊢;obtain⟨g,rfl,_,_,hc⟩:=fa ho (by omega);refine⟨g,c,rfl,fun k hk=>?_⟩;obtain⟨h1,h2⟩:=hc (j*4+k) (by omega);exact⟨by rw[h1,zoK _ _ _ hj hk];rfl,h2⟩
theorem bp.ne(h:bp V B bs b v vS P w):(∀i,i<5->∀g,(v i).ownBlock=some g->g≠b)/\(∀g,vS.ownBlock=some g->g≠b)/\(∀i,i<5->∀g,(v i).ownBlock=some g->vS.ownBlock≠some g):=
 ⟨fun i hi=>dH (h.row i hi) h.st (by decide),dH h.ng h.st (by decide),fun i hi=>gH (h.row i hi) h.ng (by decide)⟩
theorem bp.put(h:bp V B bs b v vS P w)(i:Nat)(hi:i<5)(hv:v i=.slice (some ⟨g,0,none⟩) n c)(j x:Nat)(hj:j<(P.L i).length):
  bp V B bs b v vS ⟨ew P.L i ((P.L i).set j x),P.sp⟩ (w.setCell ⟨g,j,none⟩ (.int .i64 (x:Int))):=by
 have hg:(v i).ownBlock=some g:=by rw[hv];rfl
 have hk:Kept [] [g] w (w.setCell ⟨g,j,none⟩ (.int .i64 (x:Int))):=(Kept.refl _ _ _).setCell _ _ (inl (by simp));have hn:n=(P.L i).length:=by
  obtain⟨a,c',e⟩:=bE (h.row i hi);rw[hv] at e;injection e
 refine⟨h.kept.setCell _ _ ((h.loc i hi g hg).elim inl (fun x=>inr (inl x))),h.below.setCell (p:=⟨g,j,none⟩) (jZ (h.row i hi) g hg) _,h.st.fV (p:=⟨g,j,none⟩) (fun e=>h.ne.1 i hi g hg e.symm) _,fun k hk5=>?_,h.sep,fu h.ng hk (by simp) (fun g2 e hm=>h.ne.2.2 i hi g hg (by rw[e,List.mem_singleton.1 hm])),h.loc,h.lB,h.jn,h.lo⟩;by_cases e:k=i
 ·subst e;simp only[D8];have ho:=h.row k hi;rw[hv,<-hn] at ho;have:=uV ho j (by omega) (.int .i64 (x:Int));rw[zig] at this;rw[hv,length_set,<-hn];exact this
 simp only[CD _ _ _ _ e];exact fu (h.row k hk5) hk (by simp) (fun g2 e2 hm=>h.sep i k hi hk5 (fun e3=>e e3.symm) g hg (by rw[e2,List.mem_singleton.1 hm]))
theorem bp.vG(h:bp V B bs b v vS P w)(hv:vS=.slice (some ⟨g,0,none⟩) n c)(j k:Nat)(s:nv)(hj:j<P.sp.length)(hk:k<4)(hs:∀k',k'<4->k'≠k->fW s k'=fW (P.s j) k'):
  bp V B bs b v vS ⟨P.L,P.sp.set j s⟩ (w.setCell ⟨g,j*4+k,none⟩ (fW s k)):=by
 have hg:vS.ownBlock=some g:=by rw[hv];rfl
 have yY:Kept [] [g] w (w.setCell ⟨g,j*4+k,none⟩ (fW s k)):=(Kept.refl _ _ _).setCell _ _ (inl (by simp));have hn:n=P.sp.length:=by
  obtain⟨a,c',e⟩:=bE h.ng;rw[hv] at e;injection e
 refine⟨h.kept.setCell _ _ ((h.lB g hg).elim inl (fun x=>inr (inl x))),h.below.setCell (p:=⟨g,j*4+k,none⟩) (jZ h.ng g hg) _,h.st.fV (p:=⟨g,j*4+k,none⟩) (fun e=>h.ne.2.1 g hg e.symm) _,fun i hi=>fu (h.row i hi) yY (by simp) (fun g2 e hm=>h.ne.2.2 i hi g2 e (by rw[hg,List.mem_singleton.1 hm])),h.sep,?_,h.loc,h.lB,h.jn,h.lo⟩;have ho:=h.ng;rw[hv,<-hn] at ho;have:=zlC ho (j*4+k) (by omega) (fW s k);show ownsRow _ _ _ _ _ (P.sp.set j s).length (pI (P.sp.set j s));rw[length_set,znF _ _ _ _ hj hk hs,hv,<-hn];exact this
theorem bp.app{w':World}{v':Value}{x q:Nat}(h:bp V B bs b v vS P w)(i:Nat)(hi:i<5)(hq:(P.L i).length=q)(ho:w'.ownsRow B 3 1 v' (q+1) (cy (P.L i)++[.int .i64 (x:Int)]))(hg:w.grownBy w' (v i).ownBlock)
  (eu:v'.ownBlock=(v i).ownBlock\/v'.ownBlock=some w.heap.size\/∃g,v'.ownBlock=some g/\w.heap.size<=g):bp V B bs b (rG v i v') vS ⟨ew P.L i (P.L i++[x]),P.sp⟩ (w'.setCell ⟨b,zU i,none⟩ v'):=by
 subst hq;have dE:St w' 215 b (oY v vS):=h.st.af (h.row i hi) (by decide) hg;have CL:∀g,v'.ownBlock=some g->(v i).ownBlock=some g\/w.heap.size<=g:=fun g e=>by
  rcases eu with e1|e1|⟨g2,e1,e2⟩
  ·exact inl (by rw[<-e1];exact e)
  ·rw[e] at e1;injection e1 with e1;exact inr (by omega)
  rw[e] at e1;injection e1 with e1;exact inr (by omega)
 have av:∀j,j<5->∀g,(v j).ownBlock=some g->g<w.heap.size:=fun j hj=>kP (h.row j hj)
 have hB:Below B V w':=fA h.below (h.row i hi) h.hB hg;refine⟨(h.kept.grown hg (fun g e=>(h.loc i hi g e).elim inl (fun x=>inr (inl x)))).setCell _ _ (inl h.jn),hB.setCell (p:=⟨b,zU i,none⟩) h.lo.1 _,?_,fun j hj=>?_,fun j k hj hk hjk g=>?_,ju (tw h.ng (h.row i hi) (by decide) hg) dE (by decide) _ _,fun j hj g=>?_,h.lB,h.jn,h.lo⟩
 ·rw[<-Ur v vS v' i hi];exact dE.set _ _
 ·by_cases e:j=i
  ·subst e;simp only[AQ,D8];rw[xw,length_append];exact ju ho dE (by decide) _ _
  simp only[xN _ _ _ _ e,CD _ _ _ _ e];exact ju (qc (h.row j hj) hg (fun g e1 e2=>h.sep j i hj hi e g e1 e2.symm)) dE (by decide) _ _
 ·by_cases e1:j=i
  ·subst e1;rw[AQ,xN _ _ _ _ (fun e=>hjk e.symm)];intro e2 e3;rcases CL g e2 with e4|e4
   ·exact h.sep j k hj hk hjk g e4 e3
   have:=av k hk g e3;omega
  rw[xN _ _ _ _ e1];by_cases e2:k=i
  ·subst e2;rw[AQ];intro e3 e4;rcases CL g e4 with e5|e5
   ·exact h.sep j k hj hk hjk g e3 e5
   have:=av j hj g e3;omega
  rw[xN _ _ _ _ e2];exact h.sep j k hj hk hjk g
 by_cases e:j=i
 ·subst e;rw[AQ];intro e2;rcases CL g e2 with e3|e3
  ·exact h.loc j hj g e3
  exact inr (le_trans h.below.size e3)
 rw[xN _ _ _ _ e];exact h.loc j hj g
theorem bp.NZ{v':Value}{s:nv}(h:bp V B bs b v vS P w)(hq:P.sp.length=q)(ho:w'.ownsRow B 225 4 v' (q+1) (pI P.sp++[fW s 0,fW s 1,fW s 2,fW s 3]))(hg:w.grownBy w' vS.ownBlock)
  (eu:v'.ownBlock=vS.ownBlock\/v'.ownBlock=some w.heap.size\/∃g,v'.ownBlock=some g/\w.heap.size<=g):bp V B bs b v v' ⟨P.L,P.sp++[s]⟩ (w'.setCell ⟨b,3,none⟩ v'):=by
 subst hq;have dE:St w' 215 b (oY v vS):=h.st.af h.ng (by decide) hg;have hB:Below B V w':=fA h.below h.ng h.hB hg;refine⟨(h.kept.grown hg (fun g e=>(h.lB g e).elim inl (fun x=>inr (inl x)))).setCell _ _ (inl h.jn),hB.setCell (p:=⟨b,3,none⟩) h.lo.1 _,?_,fun j hj=>ju (tw (h.row j hj) h.ng (by decide) hg) dE (by decide) _ _,h.sep,?_,h.loc,fun g e=>?_,h.jn,h.lo⟩
 ·rw[<-zjK v vS v'];exact dE.set _ _
 ·show ownsRow _ _ _ _ _ (P.sp++[s]).length (pI (P.sp++[s]));rw[zlG,length_append];exact ju ho dE (by decide) _ _
 rcases eu with e1|e1|⟨g2,e1,e2⟩
 ·exact h.lB g (by rw[<-e1];exact e)
 ·rw[e] at e1;injection e1 with e1;exact inr (by have:=h.below.size;omega)
 rw[e] at e1;injection e1 with e1;exact inr (by have:=h.below.size;omega)
theorem bp.wW(h:bp V B bs b v vS P w)(i:Nat)(hi:i<5)(hv:v i=.slice a n c)(k:Nat)(hk:k<=(P.L i).length):
  bp V B bs b (rG v i (.slice a k c)) vS ⟨ew P.L i ((P.L i).take k),P.sp⟩ (w.setCell ⟨b,zU i,none⟩ (.slice a k c)):=by
 have ho:=h.row i hi;have hn:n=(P.L i).length:=by
  obtain⟨a,c',e⟩:=bE ho;rw[hv] at e;injection e
 rw[hv,<-hn] at ho;have ho2:=zjJ ho k (by omega);have nU:(Value.slice a k c).ownBlock=(v i).ownBlock:=by rw[hv];cases a <;> rfl
 refine⟨h.kept.setCell _ _ (inl h.jn),h.below.setCell (p:=⟨b,zU i,none⟩) h.lo.1 _,?_,fun j hj=>?_,fun j l hj hl hjl g=>?_,ju h.ng h.st (by decide) _ _,fun j hj g=>?_,h.lB,h.jn,h.lo⟩
 ·rw[<-Ur v vS _ i hi];exact h.st.set _ _
 ·by_cases e:j=i
  ·subst e;simp only[AQ,D8];rw[show cy ((P.L j).take k)=(cy (P.L j)).take (k*1) by simp[cy,List.map_take],length_take,Nat.min_eq_left hk];exact ju ho2 h.st (by decide) _ _
  simp only[xN _ _ _ _ e,CD _ _ _ _ e];exact ju (h.row j hj) h.st (by decide) _ _
 ·have hh:=h.sep j l hj hl hjl g;by_cases e1:j=i
  ·subst e1;rw[AQ,xN _ _ _ _ (fun e=>hjl e.symm),nU];exact hh
  rw[xN _ _ _ _ e1];by_cases e2:l=i
  ·subst e2;rw[AQ,nU];exact hh
  rw[xN _ _ _ _ e2];exact hh
 by_cases e:j=i
 ·subst e;rw[AQ,nU];exact h.loc j hj g
 rw[xN _ _ _ _ e];exact h.loc j hj g
def bf(b:Nat)(v:Nat->Value)(vS:Value):List Nat:=b :: (vS.ownBlock.toList++(List.range 5).flatMap fun i=>(v i).ownBlock.toList)
theorem tR{b:Nat}:x∈bf b v vS↔x=b\/vS.ownBlock=some x\/∃i,i<5/\(v i).ownBlock=some x:=by
 unfold bf;rw[List.mem_cons,List.mem_append,List.mem_flatMap];simp only[Option.mem_toList,Option.mem_def,List.mem_range]
theorem bp.start(h:bp V B bs b v vS P w):bp w B (bf b v vS) b v vS P w:=
 ⟨Kept.refl _ _ _,Below.refl _ _,h.st,h.row,h.sep,h.ng,fun i hi g e=>inl (tR.2 (inr (inr ⟨i,hi,e⟩))),fun g e=>inl (tR.2 (inr (inl e))),tR.2 (inl rfl),h.lo.1,h.hB⟩
theorem bp.rL(h:bp V B bs b v vS P w):∀x∈bf b v vS,x∈bs\/V.heap.size<=x:=fun x hx=>by
 rcases tR.1 hx with rfl|e|⟨i,hi,e⟩
 ·exact inl h.jn
 ·exact h.lB x e
 ·exact h.loc i hi x e
theorem bp.back{v':Nat->Value}{vS':Value}{P':Pt}(h:bp V B bs b v vS P w)(h2:bp w B (bf b v vS) b v' vS' P' w'):bp V B bs b v' vS' P' w':=by
 have up:∀x,x∈bf b v vS\/w.heap.size<=x->x∈bs\/V.heap.size<=x:=fun x hx=>by
  rcases hx with hx|hx
  ·exact h.rL x hx
  exact inr (le_trans h.below.size hx)
 refine⟨fun k o hk ho hn=>h2.kept k o (h.kept k o hk ho hn) ho (fun hm=>?_),h.below.trans h2.below,h2.st,h2.row,h2.sep,h2.ng,fun i hi g e=>up g (h2.loc i hi g e),fun g e=>up g (h2.lB g e),h.jn,h.lo⟩;rcases h.rL k hm with h3|h3
 ·exact hn h3
 have:=(Array.getElem?_eq_some_iff.1 hk).1;omega
theorem bp.congr{P':Pt}(h:bp V B bs b v vS P w)(e1:∀i,i<5->P.L i=P'.L i)(e2:P.sp=P'.sp):bp V B bs b v vS P' w:=
 ⟨h.kept,h.below,h.st,fun i hi=>by rw[<-e1 i hi];exact h.row i hi,h.sep,by rw[<-e2];exact h.ng,h.loc,h.lB,h.jn,h.lo⟩
end
theorem Bd{g' n' c':Nat}(h:Value.slice (some ⟨g,0,none⟩) n c=.slice (some ⟨g',0,none⟩) n' c'):g=g':=by
 injection h with e _ _;injection e with e;injection e
def M5(V:World)(B:Nat)(bs:List Nat)(b:Nat)(P:Pt)(e:Ending)(w':World):Prop:=∃v vS,e=.returned (.tuple #[])/\bp V B bs b v vS P w'
structure Tq (P:Pt)(x:Nat):Prop where
 b:P.b x<P.sp.length
 l2:x<(P.L 2).length
 tt:P.to x<(P.L 0).length
 fr:P.p x<(P.L 0).length
 l1:x<(P.L 1).length
 ot:P.o (P.to x)<(P.L 1).length
 n0:(P.L 0).length<=100000
 n3:(P.L 3).length<=100000
theorem Uv(P:Pt)(x i:Nat)(h:i≠3):dv P x i=P.L i:=by
 unfold dv;split
 ·exact CD _ _ _ _ h
 rfl
theorem bp.E1{V:World}{b:Nat}{P:Pt}(h:bp V B bs b v vS P w)(i:Nat)(hi:i<5)(hv:v i=.slice (some ⟨g,0,none⟩) n c)(j x k y:Nat)(hj:j<(P.L i).length)(hk:k<(P.L i).length):
  bp V B bs b v vS ⟨ew P.L i (((P.L i).set j x).set k y),P.sp⟩ ((w.setCell ⟨g,j,none⟩ (.int .i64 (x:Int))).setCell ⟨g,k,none⟩ (.int .i64 (y:Int))):=by
 have h2:=(h.put i hi hv j x hj).put i hi hv k y (by show k<(ew P.L i ((P.L i).set j x) i).length;rw[D8,length_set];exact hk);refine h2.congr (fun l hl=>?_) rfl;show ew (ew P.L i ((P.L i).set j x)) i ((ew P.L i ((P.L i).set j x) i).set k y) l=ew P.L i (((P.L i).set j x).set k y) l;rw[D8];unfold ew;split <;> rfl
theorem Z2(V:World)(B b:Nat)(bs:List Nat)(v:Nat->Value)(vS:Value)(P:Pt)(w:World)(h:bp V B bs b v vS P w)(x:Nat)(ok:Tq P x):
  Calls prog 179 #[.pointer (some ⟨b,0,none⟩),.int .i64 (x:Int)] w (M5 V B bs b (iu P x)):=by
 obtain⟨k,hk⟩:∃k,P.b x=k:=⟨_,rfl⟩
 have hkl:k<P.sp.length:=by rw[<-hk];exact ok.b
 obtain⟨nS,wZ⟩:∃nS,P.sp.length=nS:=⟨_,rfl⟩
 obtain⟨g2,c2,e2,d2,_⟩:=h.num 2 (by omega) x ok.l2;obtain⟨gS,cS,eS,dS⟩:=h.span k hkl;have a2:w.cell? ⟨b,2,none⟩=some (v 2):=(h.cell 2 (by omega)).1;have aS:=h.mH.1;have dh:=(dS 2 (by omega)).1;rw[e2] at a2;rw[eS] at aS;rw[show (P.L 2).getD x 0=k from hk] at d2;obtain⟨n2,dk⟩:∃n2,(P.L 2).length=n2:=⟨_,rfl⟩
 have i2:(x:Int)<n2:=by have:=ok.l2;omega
 have iS:(k:Int)<nS:=by omega
 rw[dk] at a2;rw[wZ] at aS;obtain⟨hh,A0⟩:∃hh,(P.s k).h=hh:=⟨_,rfl⟩
 have Tp:w.cell? ⟨gS,k*4+2,none⟩=some (.int .i64 (hh:Int)):=by rw[dh];show some (Value.int .i64 (((P.s k).h:Nat):Int))=_;rw[A0]
 have H:=hid h;have Hk:=hid hk;have xV:=hid ok;have U8:=hid eS;have DT:=hid A0;have HnS:=hid wZ;clear h hk ok e2 eS dS dh dk A0 wZ;go_enter func179,ntmps179
 go_upto_if 26 with (fail)
 go_cut [4,5] from 26 to 36 (fun v4 v5 wx=>∃v',v4=.int .i64 (k:Int)/\v5=.pointer (some ⟨gS,k*4,none⟩)/\bp V B bs b v' vS ⟨dv P x,P.sp⟩ wx)
 case first=>
  by_cases h0:hh=0
  ·subst h0;obtain⟨q,hq⟩:∃q,(P.L 3).length=q:=(⟨_,rfl⟩);have hO:=H.out.row 3 (by omega);obtain⟨a3,c3,e3⟩:=bE hO;have a4:w.cell? ⟨b,4,none⟩=some (v 3):=(H.out.cell 3 (by omega)).1;rw[hq] at hO e3;rw[e3] at hO a4;have Kz:q<=100000:=(by have:=xV.out.n3;omega);have hV:=H.out.hB;have p9:=hid e3;have Hq:=hid hq;obtain⟨i0,hi,dF,cY,cO⟩:=info_parts az;have i3:(((0:Nat):Int) == 0)=true:=(by rfl);clear e3 hq;go_wp2_with (at_builtin;refine wpList_append_own_at _ rfl _ _ 43 rfl B 3 i0 (.int .i64 0) 1 8 underlying43 hi dF cY cO rfl (by decide) _ _ _ rfl (hO.alloc _) ⟨w.heap.size,0,none⟩ 1 1 [.int .i64 (k:Int)] rfl rfl (cell_one_new _ _ _) ?d2 ?d3 ?d4 ?d5 ?_)
   case d2=>intro u hu;simp at hu;subst hu;rfl
   case d3=>unfold maxLen;omega
   case d4=>omega
   case d5=>simp;omega
   intro v' w5 an aj _ bw;have h2:=H.out.aa (al w (.cells #[.int .i64 (k:Int)] 3));have Pv:=h2.row 3 (by omega);rw[Hq.out,p9.out] at Pv;have fm:=h2.st.af Pv (by decide) aj;have p3:w5.cell? ⟨b,4,none⟩=some (.slice a3 q c3):=(by rw[fm.at_];show some (v 3)=_;rw[p9.out]);have pf:=fm.aX 4;have HF:Hid (bp V B bs b (rG v 3 v') vS ⟨dv P x,P.sp⟩ (w5.setCell ⟨b,4,none⟩ v')):=by
    have h3:=h2.app (v':=v') 3 (by omega) Hq.out an (by rw[p9.out];exact aj) (by
     rw[show (w.alloc (.cells #[.int .i64 (k:Int)] 3)).heap.size=w.heap.size+1 by simp,p9.out]
     rcases bw with h|h
     ·exact inl h
     ·exact inr (inl h))
    have e:dv P x=ew P.L 3 (P.L 3++[k]):=by
     unfold dv;rw[Hk.out,if_pos DT.out]
    show bp V B bs b (rG v 3 v') vS ⟨dv P x,P.sp⟩ (w5.setCell ⟨b,4,none⟩ v');rw[e];exact h3
   obtain⟨a5,c5,rfl⟩:=bE an;clear an aj bw h2 Pv fm hO a4 a2 aS d2 Tp;go_wp2_with fail
   go_meet
   exact⟨rG v 3 (.slice a5 (q+1) c5),rfl,rfl,HF.out⟩
  have i3:((hh:Int) == 0)=false:=by simp;omega
  have e:dv P x=P.L:=by
   unfold dv;rw[Hk.out,if_neg (by rw[DT.out];exact h0)]
  have HF:Hid (bp V B bs b v vS ⟨dv P x,P.sp⟩ w):=by
   show bp V B bs b v vS ⟨dv P x,P.sp⟩ w;rw[e];exact H.out
  clear e h0;go_wp2_with fail
  go_meet
  exact⟨v,rfl,rfl,HF.out⟩
 case rest=>
  obtain⟨v',rfl,rfl,h⟩:=hcut;have Cx:=U8;clear a2 aS d2 Tp i2 U8;obtain⟨f,hf⟩:∃f,(P.s k).f=f:=⟨_,rfl⟩
  obtain⟨tt,vH⟩:∃tt,P.to x=tt:=⟨_,rfl⟩
  obtain⟨fr,sd⟩:∃fr,P.p x=fr:=⟨_,rfl⟩
  obtain⟨ot,Ki⟩:∃ot,P.o tt=ot:=⟨_,rfl⟩
  have yS:f+hh=tt:=by rw[<-vH,<-hf,<-DT.out,<-Hk.out];rfl
  have h0:=Uv P x 0 (by omega);have h1:=Uv P x 1 (by omega);have tl:=xV.out.tt;have fl:=xV.out.fr;have xl:=xV.out.l1;have ol:=xV.out.ot;have n0:=xV.out.n0;rw[vH] at tl ol;rw[Ki] at ol;rw[sd] at fl;obtain⟨g0,c0,e0,y0,z0⟩:=h.num 0 (by omega) tt (by show tt<(dv P x 0).length;rw[h0];exact tl);obtain⟨_,_,KG,J9,TD⟩:=h.num 0 (by omega) fr (by show fr<(dv P x 0).length;rw[h0];exact fl);obtain⟨g1,c1,e1,y1,z1⟩:=h.num 1 (by omega) x (by show x<(dv P x 1).length;rw[h1];exact xl);obtain⟨_,_,L4,Vz,z1'⟩:=h.num 1 (by omega) ot (by show ot<(dv P x 1).length;rw[h1];exact ol);obtain⟨LJ,cS',OX,Q8⟩:=h.span k (by show k<P.sp.length;rw[HnS.out];omega);obtain rfl:LJ=gS:=by
   have:=Cx.out;rw[this] at OX;exact (Bd OX).symm
  have b0:wc.cell? ⟨b,0,none⟩=some (v' 0):=(h.cell 0 (by omega)).1;have b1:wc.cell? ⟨b,1,none⟩=some (v' 1):=(h.cell 1 (by omega)).1;obtain⟨m0,nG⟩:∃m0,(P.L 0).length=m0:=⟨_,rfl⟩
  obtain⟨m1,mJ⟩:∃m1,(P.L 1).length=m1:=⟨_,rfl⟩
  have s0:wc.cell? ⟨LJ,k*4,none⟩=some (.int .i64 (f:Int)):=by
   have:=(Q8 0 (by omega)).1;rw[<-hf];exact this
  have s2:wc.cell? ⟨LJ,k*4+2,none⟩=some (.int .i64 (hh:Int)):=by
   have:=(Q8 2 (by omega)).1;rw[<-DT.out];exact this
  have A5:(⟨dv P x,P.sp⟩:Pt).L 0=P.L 0:=h0;have wP:(⟨dv P x,P.sp⟩:Pt).L 1=P.L 1:=h1;rw[A5] at e0 KG y0 J9;rw[wP] at e1 L4 y1 Vz;rw[e0] at KG b0;rw[e1] at L4 b1;obtain⟨rfl,_⟩:g0=_/\True:=⟨Bd KG,trivial⟩
  obtain⟨rfl,_⟩:g1=_/\True:=⟨Bd L4,trivial⟩
  rw[nG] at b0 tl fl n0;rw[mJ] at b1 xl ol;rw[show (P.L 0).getD tt 0=ot from Ki] at y0;rw[show (P.L 1).getD x 0=fr from sd] at y1;clear Vz KG L4 Q8;have i0:(tt:Int)<m0:=by omega
  have i1:(fr:Int)<m0:=by omega
  have i4:(x:Int)<m1:=by omega
  have i5:(ot:Int)<m1:=by omega
  have its:(f:Int)+(hh:Int)=tt:=by omega
  have HL:=hid (Zz A5 (Zz wP (Zz e0 (Zz e1 (Zz nG (Zz mJ (Zz vH (Zz sd Ki))))))));have HP:=hid h;clear A5 wP e0 e1 nG mJ vH sd Ki h yS h0 h1 hf OX;go_upto_region 4 with fail;go_quiet (fail);go_upto_region 6 with fail;obtain⟨xf,VE⟩:∃xf,(P.L 0).getD fr 0=xf:=⟨_,rfl⟩
  rw[VE] at J9;obtain⟨W6,yH,t0,t1,t2,t3,t4,UZ⟩:∃W6,wc.drewN nq=W6/\W6.cell? ⟨b,0,none⟩=some (.slice (some ⟨g0,0,none⟩) m0 c0)/\W6.cell? ⟨g0,tt,none⟩=some (.int .i64 (ot:Int))/\W6.frozen? ⟨g0,tt,none⟩=false/\W6.frozen? ⟨g0,fr,none⟩=false/\
    W6.cell? ⟨g0,fr,none⟩=some (.int .i64 (xf:Int))/\Hid (bp V B bs b v' vS ⟨dv P x,P.sp⟩ W6):=⟨_,rfl,b0,y0,z0,TD,J9,HP.out.aa (below_drewN (Below.refl _ _) nq)⟩
  rw[yH];clear yH VE b0 b1 s0 s2 y0 y1 z0 z1 TD z1' J9 HP;obtain⟨xg,t5⟩:=cell?_setCell_some (w:=W6) (p:=⟨g0,tt,none⟩) (x:=.int .i64 (x:Int)) (q:=⟨g0,fr,none⟩) t4
  go_region
  have wK:(P.L 0).length=m0/\(P.L 1).length=m1:=⟨HL.out.2.2.2.2.1,HL.out.2.2.2.2.2.1⟩
  have Gs:dv P x 0=P.L 0:=HL.out.1;have Pu:dv P x 1=P.L 1:=HL.out.2.1;obtain⟨L7,MW,e7⟩:∃L7,ew (dv P x) 0 (((P.L 0).set tt x).set fr ot)=L7/\L7 1=P.L 1:=⟨_,rfl,by rw[CD _ _ _ _ (by omega),Pu]⟩
  have Jd:bp V B bs b v' vS ⟨L7,P.sp⟩ ((W6.setCell ⟨g0,tt,none⟩ (.int .i64 (x:Int))).setCell ⟨g0,fr,none⟩ (.int .i64 (ot:Int))).drew:=by
   have q1:=(UZ.out.E1 0 (by omega) HL.out.2.2.1 tt x fr ot (by show tt<(dv P x 0).length;rw[Gs,wK.1];exact tl) (by show fr<(dv P x 0).length;rw[Gs,wK.1];exact fl)).aa (Below.refl _ _).drew;have e:ew (dv P x) 0 (((dv P x 0).set tt x).set fr ot)=L7:=(by rw[Gs];exact MW);have q2:bp V B bs b v' vS ⟨ew (dv P x) 0 (((dv P x 0).set tt x).set fr ot),P.sp⟩ _:=q1;rw[e] at q2;exact q2
  clear t0 t1 t2 t3 t4 t5 UZ;have SF:x<(L7 1).length:=by rw[e7,wK.2];exact xl
  have RO:ot<(L7 1).length:=by rw[e7,wK.2];exact ol
  have u1:World.cell? _ ⟨b,1,none⟩=some (v' 1):=(Jd.cell 1 (by omega)).1;obtain⟨_,_,w1,w2,w3⟩:=Jd.num 1 (by omega) x SF;obtain⟨_,_,x1,x2,x3⟩:=Jd.num 1 (by omega) ot RO;have MP:v' 1=.slice (some ⟨g1,0,none⟩) m1 c1:=by rw[HL.out.2.2.2.1,wK.2]
  rw[MP] at w1 x1 u1;replace w1:=Bd w1;replace x1:=Bd x1;rw[<-w1] at w2 w3;rw[<-x1] at x2 x3;clear w1 x1;have Hf:=hid (Zz MW (Zz e7 MP));have VG:=hid (Zz wK (Zz Gs Pu));clear MW e7 MP wK Gs Pu SF RO;have Vc:=hid Jd;clear Jd;generalize ((W6.setCell ⟨g0,tt,none⟩ (.int .i64 (x:Int))).setCell ⟨g0,fr,none⟩ (.int .i64 (ot:Int))).drew=W7 at Vc u1 w2 w3 x2 x3⊢;replace w2:∃ya,W7.cell? ⟨g1,x,none⟩=some (.int .i64 ((ya:Nat):Int)):=⟨_,w2⟩
  replace x2:∃ya,W7.cell? ⟨g1,ot,none⟩=some (.int .i64 ((ya:Nat):Int)):=⟨_,x2⟩
  obtain⟨ya,w2⟩:=w2;obtain⟨yb,x2⟩:=x2;obtain⟨xg,t5⟩:=cell?_setCell_some (w:=W7) (p:=⟨g1,x,none⟩) (x:=.int .i64 (tt:Int)) (q:=⟨g1,ot,none⟩) x2;go_upto_region 7 with fail
  go_region
  have EL:bp V B bs b v' vS ⟨ew L7 1 (((P.L 1).set x tt).set ot fr),P.sp⟩ ((W7.setCell ⟨g1,x,none⟩ (.int .i64 (tt:Int))).setCell ⟨g1,ot,none⟩ (.int .i64 (fr:Int))).drew:=by
   have q1:=(Vc.out.E1 1 (by omega) Hf.out.2.2 x tt ot fr (by show x<(L7 1).length;rw[Hf.out.2.1,VG.out.1.2];exact xl) (by show ot<(L7 1).length;rw[Hf.out.2.1,VG.out.1.2];exact ol)).aa (Below.refl _ _).drew;have q2:bp V B bs b v' vS ⟨ew L7 1 (((L7 1).set x tt).set ot fr),P.sp⟩ _:=q1;rw[Hf.out.2.1] at q2;exact q2
  clear u1 w2 w3 x2 x3 t5;obtain⟨_,cX,x1,x2⟩:=EL.span k hkl;have gq:=Cx.out;rw[gq] at x1;replace x1:=Bd x1;have y2:World.cell? _ ⟨_,k*4+2,none⟩=some (.int .i64 (((P.s k).h:Nat):Int)):=(x2 2 (by omega)).1;have y3:=(x2 2 (by omega)).2;rw[<-x1,DT.out] at y2;rw[<-x1] at y3;clear x1 x2 gq;have TT:=hid EL;clear EL;generalize ((W7.setCell ⟨g1,x,none⟩ (.int .i64 (tt:Int))).setCell ⟨g1,ot,none⟩ (.int .i64 (fr:Int))).drew=W8 at TT y2 y3⊢;have eU:(hh:Int)<=100000:=by omega
  have HF:Hid (bp V B bs b v' vS (iu P x) (W8.setCell ⟨LJ,k*4+2,none⟩ (.int .i64 ((hh:Int)+1)))):=by
   have q:=TT.out.vG Cx.out k 2 ⟨(P.s k).f,(P.s k).g,(P.s k).h+1,(P.s k).w⟩ hkl (by omega) (fun k' hk' hn=>by
    have:k'=0\/k'=1\/k'=3:=by omega
    rcases this with rfl|rfl|rfl <;> rfl)
   have e1:fW ⟨(P.s k).f,(P.s k).g,(P.s k).h+1,(P.s k).w⟩ 2=.int .i64 ((hh:Int)+1):=by
    show Value.int .i64 (((P.s k).h+1:Nat):Int)=_;rw[DT.out];rfl
   rw[e1] at q;refine q.congr (fun i hi=>?_) ?_
   ·show ew L7 1 (((P.L 1).set x tt).set ot fr) i=ew (ew (dv P x) 0 (((P.L 0).set (P.to x) x).set (P.p x) (P.o (P.to x)))) 1 (((P.L 1).set x (P.to x)).set (P.o (P.to x)) (P.p x)) i;rw[HL.out.2.2.2.2.2.2.1,HL.out.2.2.2.2.2.2.2.1,HL.out.2.2.2.2.2.2.2.2,Hf.out.1]
   show P.sp.set k _=P.sp.set (P.b x) _;rw[Hk.out]
  go_wp2_with fail;go_end0;exact⟨v',vS,rfl,HF.out⟩
section
variable {V : World}{B b : Nat}{bs : List Nat}{v : Nat → Value}{vS : Value}{P : Pt}{w : World}
theorem bp.c0(h:bp V B bs b v vS P w):w.cell? ⟨b,0,none⟩=some (v 0)/\w.frozen? ⟨b,0,none⟩=false:=h.cell 0 (by omega)
theorem bp.c1(h:bp V B bs b v vS P w):w.cell? ⟨b,1,none⟩=some (v 1)/\w.frozen? ⟨b,1,none⟩=false:=h.cell 1 (by omega)
theorem bp.c2(h:bp V B bs b v vS P w):w.cell? ⟨b,2,none⟩=some (v 2)/\w.frozen? ⟨b,2,none⟩=false:=h.cell 2 (by omega)
theorem bp.c3(h:bp V B bs b v vS P w):w.cell? ⟨b,4,none⟩=some (v 3)/\w.frozen? ⟨b,4,none⟩=false:=h.cell 3 (by omega)
theorem bp.c4(h:bp V B bs b v vS P w):w.cell? ⟨b,5,none⟩=some (v 4)/\w.frozen? ⟨b,5,none⟩=false:=h.cell 4 (by omega)
structure znI (w:World)(g k:Nat)(s:nv):Prop where
 cf:w.cell? ⟨g,k*4,none⟩=some (.int .i64 (s.f:Int))
 cg:w.cell? ⟨g,k*4+1,none⟩=some (.int .i64 (s.g:Int))
 ch:w.cell? ⟨g,k*4+2,none⟩=some (.int .i64 (s.h:Int))
 cw:w.cell? ⟨g,k*4+3,none⟩=some (.bool s.w)
 z0:w.frozen? ⟨g,k*4,none⟩=false
 z2:w.frozen? ⟨g,k*4+2,none⟩=false
 z3:w.frozen? ⟨g,k*4+3,none⟩=false
theorem bp.Ah(h:bp V B bs b v vS P w)(hv:vS=.slice (some ⟨g,0,none⟩) n c)(j:Nat)(hj:j<P.sp.length):znI w g j (P.s j):=by
 obtain⟨g',c',e,hc⟩:=h.span j hj;rw[hv] at e;obtain rfl:=Bd e;exact⟨(hc 0 (by omega)).1,(hc 1 (by omega)).1,(hc 2 (by omega)).1,(hc 3 (by omega)).1,(hc 0 (by omega)).2,(hc 2 (by omega)).2,(hc 3 (by omega)).2⟩
theorem bp.Mg(h:bp V B bs b v vS P w)(i:Nat)(hi:i<5)(hv:v i=.slice (some ⟨g,0,none⟩) n c)(j:Nat)(hj:j<(P.L i).length):w.cell? ⟨g,j,none⟩=some (.int .i64 (((P.L i).getD j 0:Nat):Int))/\w.frozen? ⟨g,j,none⟩=false:=by
 obtain⟨g',c',e,hc⟩:=h.num i hi j hj;rw[hv] at e;obtain rfl:=Bd e;exact hc
theorem bp.sl(h:bp V B bs b v vS P w)(i:Nat)(hi:i<5)(hq:(P.L i).length=q)(h0:0<q):∃g c,v i=.slice (some ⟨g,0,none⟩) q c:=by
 obtain⟨g,c,e,_⟩:=h.num i hi 0 (by omega);exact⟨g,c,by rw[e,hq]⟩
theorem bp.MU(h:bp V B bs b v vS P w)(hq:P.sp.length=q)(h0:0<q):∃g c,vS=.slice (some ⟨g,0,none⟩) q c:=by
 obtain⟨g,c,e,_⟩:=h.span 0 (by omega);exact⟨g,c,by rw[e,hq]⟩
theorem bp.CO(h:bp V B bs b v vS P w)(i:Nat)(hi:i<5)(hq:(P.L i).length=q):∃a c,v i=.slice a q c:=by
 obtain⟨a,c,e⟩:=bE (h.row i hi);exact⟨a,c,by rw[e,hq]⟩
end
theorem zlH{α:Type}(l:List α)(k:Nat)(a c:α):(l.set k a).set k c=l.set k c:=by simp
theorem Pt.qi(L:Nat->List Nat)(sp:List nv)(k j:Nat)(s:nv)(hk:k<sp.length):(⟨L,sp.set k s⟩:Pt).s j=if k=j then s else sp.getD j kY:=by
 show (sp.set k s).getD j kY=_;rw[xk];by_cases e:k=j
 ·rw[if_pos ⟨e,hk⟩,if_pos e]
 rw[if_neg (fun h=>e h.1),if_neg e]
def znL(V:World)(B:Nat)(bs:List Nat)(b:Nat)(v0:Nat->Value)(P:Pt)(e:Ending)(w':World):Prop:=∃v vS,e=.returned (.tuple #[])/\v 3=v0 3/\bp V B bs b v vS P w'
structure TZ (P:Pt)(k:Nat):Prop where
 b:k<P.sp.length
 fg:(P.s k).f<=(P.s k).g
 h:(P.s k).f+(P.s k).h<=(P.s k).g
 g:(P.s k).g<=(P.L 0).length
 part:∀x∈P.part k,x<(P.L 2).length
 n0:(P.L 0).length<=100000
 ns:P.sp.length<=100000
 n4:(P.L 4).length<=100000
theorem rY:(prog.info? 225).map (fun i=>(i.zero,i.size,i.bytes))=some (some (.agg #[.int .i64 0,.int .i64 0,.int .i64 0,.bool false]),4,32):=by kernel_rfl
theorem zgp(l xs:List Nat)(x n:Nat):bz l (xs++[x]) n=(bz l xs n).set x n:=by simp[bz,List.foldl_append]
theorem znM(P:Pt)(k j:Nat)(hj:j<(P.s k).h):(P.part k).getD j 0=(P.L 0).getD ((P.s k).f+j) 0:=by
 unfold Pt.part;rw[List.getD_eq_getElem?_getD,List.getElem?_take_of_lt hj,List.getElem?_drop,List.getD_eq_getElem?_getD]
theorem JL(l:List Nat)(j:Nat)(h:j<l.length):l.take (j+1)=l.take j++[l.getD j 0]:=by
 rw[List.take_add_one,List.getElem?_eq_getElem h,ov _ _ _ h];rfl
theorem Ye(V:World)(B b:Nat)(bs:List Nat)(v:Nat->Value)(vS:Value)(P:Pt)(w:World)(h:bp V B bs b v vS P w)(k:Nat)(ok:TZ P k):
  Calls prog 180 #[.pointer (some ⟨b,0,none⟩),.int .i64 (k:Int)] w (znL V B bs b v (bH P k)):=by
 have hkl:=ok.b;obtain⟨nS,wZ⟩:∃nS,P.sp.length=nS:=⟨_,rfl⟩
 obtain⟨gS,cS,eS⟩:=h.MU wZ (by omega);have aS:=h.mH.1;obtain⟨f,hf⟩:∃f,(P.s k).f=f:=⟨_,rfl⟩
 obtain⟨g,hg⟩:∃g,(P.s k).g=g:=⟨_,rfl⟩
 obtain⟨hh,A0⟩:∃hh,(P.s k).h=hh:=⟨_,rfl⟩
 obtain⟨wt,CV⟩:∃wt,(P.s k).w=wt:=⟨_,rfl⟩
 obtain⟨d1,d2,d3,d4,d5,d6,d7⟩:=h.Ah eS k hkl;rw[hf] at d1;rw[hg] at d2;rw[A0] at d3;rw[CV] at d4;rw[eS] at aS;have o1:=ok.fg;have o2:=ok.h;have o3:=ok.g;have o4:=ok.n0;rw[hf,hg] at o1;rw[hf,A0,hg] at o2;rw[hg] at o3;have iS:(k:Int)<nS:=by omega
 have h1:=h.vG eS k 2 ⟨f,g,0,wt⟩ hkl (by omega) (fun k' hk' hn=>by
  have:k'=0\/k'=1\/k'=3:=by omega
  rcases this with rfl|rfl|rfl
  ·show fW _ 0=Value.int .i64 (((P.s k).f:Nat):Int);rw[hf];rfl
  ·show fW _ 1=Value.int .i64 (((P.s k).g:Nat):Int);rw[hg];rfl
  ·show fW _ 3=Value.bool (P.s k).w;rw[CV];rfl)
 replace h1:bp V B bs b v vS ⟨P.L,P.sp.set k ⟨f,g,0,wt⟩⟩ (w.setCell ⟨gS,k*4+2,none⟩ (.int .i64 0)):=h1;obtain⟨x1,x2,x3,x4,x5,x6,x7⟩:=h1.Ah eS k (by simpa using hkl);rw[Pt.qi _ _ _ _ _ hkl,if_pos rfl] at x1 x2 x3 x4;have HS:=hid (Zz hf (Zz hg (Zz A0 (Zz CV (Zz eS wZ)))));have H1:=hid h1;have xV:=hid ok;have i1:(g:Int)-(f:Int)<=100000:=by omega
 have i2:0<=(g:Int)-(f:Int):=by omega
 clear h ok hf hg A0 CV eS wZ h1;go_enter func180,ntmps180;go_upto_region 3 with fail;generalize w.setCell ⟨gS,k*4+2,none⟩ (.int .i64 0)=W1 at H1 x1 x2 x3 x4 x5 x6 x7⊢;clear d1 d2 d3 d4 d5 d6 d7 aS;by_cases my:hh=g-f
 ·have hq:((hh:Int) == (g:Int)-(f:Int))=true:=by rw[beq_iff_eq];omega
  have HF:Hid (bp V B bs b v vS (bH P k) W1):=by
   show bp V B bs b v vS (bH P k) W1;have e:bH P k=⟨P.L,P.sp.set k ⟨f,g,0,wt⟩⟩:=by
    unfold bH;rw[HS.out.1,HS.out.2.1,HS.out.2.2.1,HS.out.2.2.2.1,if_pos my]
   rw[e];exact H1.out
  clear my;go_quiet (fail);go_wp2_with fail;refine bodyPost_ret (results_none rfl _ _ _) rfl ?_;exact⟨v,vS,rfl,rfl,HF.out.aa (below_drewN (Below.refl _ _) _)⟩
 have hq:((hh:Int) == (g:Int)-(f:Int))=false:=by rw[beq_eq_false_iff_ne];omega
 have uX:=hid my;clear my;go_quiet (fail);go_upto_region 4 with fail;generalize lk:W1.drewN _=W2;have H2:Hid (bp V B bs b v vS ⟨P.L,P.sp.set k ⟨f,g,0,wt⟩⟩ W2):=by rw[<-lk];exact H1.out.aa (below_drewN (Below.refl _ _) _)
 replace x1:W2.cell? ⟨gS,k*4,none⟩=some (.int .i64 (f:Int)):=by rw[<-lk];exact x1
 have xn:gS<W2.heap.size:=by
  have:=kP H2.out.ng gS (by rw[HS.out.2.2.2.2.1];rfl);exact this
 have x1a:(W2.alloc (.cells #[.int .i64 0,.int .i64 0,.int .i64 0,.bool false] 225)).cell? ⟨gS,k*4,none⟩=some (.int .i64 (f:Int)):=((al W2 (.cells #[.int .i64 0,.int .i64 0,.int .i64 0,.bool false] 225)).cell (p:=⟨gS,k*4,none⟩) xn).trans x1;clear lk H1 x2 x3 x4 x5 x6 x7 hq;obtain⟨fh,SU⟩:∃fh,f+hh=fh:=⟨_,rfl⟩
 have Gl:=hid SU;have its:(f:Int)+(hh:Int)=fh:=by omega
 have o5:fh<=g:=by omega
 have o6:f<=fh:=by omega
 have o7:fh<(P.L 0).length:=by have:=uX.out;omega
 have w1:(fh:Int)<=100000:=by omega
 clear SU
 go_region
 obtain⟨bC,OY⟩:∃bC,W2.heap.size=bC:=⟨_,rfl⟩
 have Kp:St (W2.alloc (.cells #[.int .i64 (f:Int),.int .i64 (fh:Int),.int .i64 0,.bool false] 225)).drew 225 bC #[.int .i64 (f:Int),.int .i64 (fh:Int),.int .i64 0,.bool false]:=by rw[<-OY];exact (St.new W2 _ _).drew
 have LR:bp V B bs b v vS ⟨P.L,P.sp.set k ⟨f,g,0,wt⟩⟩ (W2.alloc (.cells #[.int .i64 (f:Int),.int .i64 (fh:Int),.int .i64 0,.bool false] 225)).drew:=(H2.out.aa (al W2 _)).aa (Below.refl _ _).drew;rw[OY] at xn⊢;generalize (W2.alloc (.cells #[.int .i64 (f:Int),.int .i64 (fh:Int),.int .i64 0,.bool false] 225)).drew=W4 at Kp LR⊢;clear OY H2 x1 x1a;obtain⟨x1,x2,x3,x4,x5,x6,x7⟩:=LR.Ah HS.out.2.2.2.2.1 k (by simpa using hkl);rw[Pt.qi _ _ _ _ _ hkl,if_pos rfl] at x1;obtain⟨y0,y1,y2,y3⟩:=Kp.dP;have nI:=LR.vG HS.out.2.2.2.2.1 k 0 ⟨fh,g,0,wt⟩ (by simpa using hkl) (by omega) (fun k' hk' hn=>by
  rw[Pt.qi _ _ _ _ _ hkl,if_pos rfl]
  have:k'=1\/k'=2\/k'=3:=by omega
  rcases this with rfl|rfl|rfl <;> rfl)
 rw[zlH] at nI;replace nI:bp V B bs b v vS ⟨P.L,P.sp.set k ⟨fh,g,0,wt⟩⟩ (W4.setCell ⟨gS,k*4,none⟩ (.int .i64 (fh:Int))):=nI;have UW:St (W4.setCell ⟨gS,k*4,none⟩ (.int .i64 (fh:Int))) 225 bC #[.int .i64 (f:Int),.int .i64 (fh:Int),.int .i64 0,.bool false]:=Kp.fV (p:=⟨gS,k*4,none⟩) (fun e=>by
  have:bC=gS:=e
  omega) _
 have H5:=hid (Zz nI UW);clear LR Kp nI UW;go_upto_region 6 with fail;generalize W4.setCell ⟨gS,k*4,none⟩ (.int .i64 (fh:Int))=W5 at H5⊢;clear x1 x2 x3 x4 x5 x6 x7 y0 y1 y2 y3 xn;have aS:=H5.out.1.mH.1;rw[HS.out.2.2.2.2.1] at aS;obtain⟨m0,nG⟩:∃m0,(P.L 0).length=m0:=⟨_,rfl⟩
 rw[nG] at o3 o4 o7;obtain⟨g0,c0,e0⟩:=H5.out.1.sl 0 (by omega) nG (by omega);have b0:=H5.out.1.c0.1;rw[e0] at b0;have o0:m0<=c0:=by
  have ho:=H5.out.1.row 0 (by omega);rw[e0] at ho;rcases ho.2 with ⟨h1,_⟩|⟨_,cap,_,h1,_,_,h2,_⟩
  ·cases h1
  injection h1 with _ e1 e2;have h3:(P.L 0).length<=cap:=h2;omega
 obtain⟨y0,y1,y2,y3⟩:=H5.out.2.dP;have QJ:=hid (Zz e0 nG);clear e0 nG;have p1:(fh:Int)<=c0:=by omega
 have p2:(f:Int)<=fh:=by omega
 have p3:(f:Int)<c0:=by omega
 have hn:fh-f=hh:=by have:=Gl.out;omega
 go_upto_region 7 with fail;go_quiet (fail);generalize yH:W5.drewN _=W6;have H6:Hid (bp V B bs b v vS ⟨P.L,P.sp.set k ⟨fh,g,0,wt⟩⟩ W6/\St W6 225 bC #[.int .i64 (f:Int),.int .i64 (fh:Int),.int .i64 0,.bool false]):=by rw[<-yH];exact⟨H5.out.1.aa (below_drewN (Below.refl _ _) _),H5.out.2⟩
 clear yH H5 y0 y1 y2 y3 b0 aS;have ub:(P.part k).length=hh:=by
  unfold Pt.part;rw[HS.out.1,HS.out.2.2.1,length_take,List.length_drop,QJ.out.2];have:=Gl.out;omega
 have O5:=hid ub;clear ub;go_wp2_with fail;clear hn;go_loopw [9,65] (fun _ vj wr=>∃j:Nat,vj=.int .i64 j/\j<=hh/\Hid (bp V B bs b v vS ⟨ew P.L 2 (bz (P.L 2) ((P.part k).take j) nS),P.sp.set k ⟨fh,g,0,wt⟩⟩ wr/\St wr 225 bC #[.int .i64 (f:Int),.int .i64 (fh:Int),.int .i64 0,.bool false])) (fun _ v _=>hh-(intOf v).toNat)
 ·refine⟨0,rfl,zero_le _,H6.out.1.congr (fun i hi=>?_) rfl,H6.out.2⟩;show P.L i=ew P.L 2 (bz (P.L 2) ((P.part k).take 0) nS) i;rw[List.take_zero];unfold ew bz;split
  ·rename_i e;rw[e];rfl
  rfl
 clear H6;obtain⟨j,rfl,hj,HL⟩:=hrel;by_cases av:j<hh
 ·obtain⟨x,hx⟩:∃x,(P.part k).getD j 0=x:=⟨_,rfl⟩
  have hxl:x<(P.L 2).length:=by
   rw[<-hx,ov _ _ _ (by rw[O5.out];exact av)];exact xV.out.part _ (getElem_mem _)
  have kC:(P.L 0).getD (f+j) 0=x:=by
   rw[<-hx,znM P k j (by rw[HS.out.2.2.1];exact av),HS.out.1]
  obtain⟨L8,ID⟩:∃L8,ew P.L 2 (bz (P.L 2) ((P.part k).take j) nS)=L8:=⟨_,rfl⟩
  have l0:L8 0=P.L 0:=by rw[<-ID];exact CD _ _ _ _ (by omega)
  have l2:L8 2=bz (P.L 2) ((P.part k).take j) nS:=by rw[<-ID];exact D8 _ _ _
  have hP:bp V B bs b v vS ⟨L8,P.sp.set k ⟨fh,g,0,wt⟩⟩ wr:=by rw[<-ID];exact HL.out.1
  have hC:=HL.out.2;have r0:=(hP.Mg 0 (by omega) (g:=g0) (n:=m0) (c:=c0) QJ.out.1 (f+j) (by show f+j<(L8 0).length;rw[l0,QJ.out.2];have:=Gl.out;omega)).1;replace r0:wr.cell? ⟨g0,f+j,none⟩=some (.int .i64 (((L8 0).getD (f+j) 0:Nat):Int)):=r0;rw[l0,kC] at r0;obtain⟨n2,dk⟩:∃n2,(P.L 2).length=n2:=⟨_,rfl⟩
  have Ws:(L8 2).length=n2:=by rw[l2,Sd];exact dk
  rw[dk] at hxl;obtain⟨g2,c2,e2⟩:=hP.sl 2 (by omega) (q:=n2) Ws (by omega);have b2:=hP.c2.1;rw[e2] at b2;obtain⟨r1,r2⟩:=hP.Mg 2 (by omega) e2 x (by show x<(L8 2).length;omega);have HN:Hid (bp V B bs b v vS ⟨ew P.L 2 (bz (P.L 2) ((P.part k).take (j+1)) nS),P.sp.set k ⟨fh,g,0,wt⟩⟩ (wr.setCell ⟨g2,x,none⟩ (.int .i64 (nS:Int)))/\St (wr.setCell ⟨g2,x,none⟩ (.int .i64 (nS:Int))) 225 bC #[.int .i64 (f:Int),.int .i64 (fh:Int),.int .i64 0,.bool false]):=by
   have q:=hP.put 2 (by omega) e2 x nS (by show x<(L8 2).length;omega);refine⟨q.congr (fun i hi=>?_) rfl,hC.fV (p:=⟨g2,x,none⟩) (fun e=>?_) _⟩
   ·show ew L8 2 ((L8 2).set x nS) i=ew P.L 2 (bz (P.L 2) ((P.part k).take (j+1)) nS) i;rw[l2,JL _ _ (by rw[O5.out];exact av),hx,zgp,<-ID];unfold ew;split <;> rfl
   have ho:=hP.row 2 (by omega);have e9:bC=g2:=e;exact dH ho hC (by decide) g2 (by rw[e2];rfl) e9.symm
  obtain⟨yb,r3⟩:∃yb,wr.cell? ⟨g2,x,none⟩=some (.int .i64 ((yb:Nat):Int)):=⟨_,r1⟩
  have i3:(x:Int)<n2:=by omega
  have i4:(j:Int)<hh:=by omega
  clear hx kC ID l0 l2 hP hC dk Ws e2 r1;go_wp2;go_roundw
  ·exact⟨j+1,by go_num,by omega,HN.out⟩
  simp[intOf];omega
 obtain rfl:j=hh:=by omega
 have hP:bp V B bs b v vS ⟨ew P.L 2 (bz (P.L 2) (P.part k) nS),P.sp.set k ⟨fh,g,0,wt⟩⟩ wr:=by
  have:=HL.out.1;rw[List.take_of_length_le (by rw[O5.out];exact le_refl _)] at this;exact this
 have H9:=hid (Zz hP HL.out.2);obtain⟨bk,nU⟩:∃bk,P.fU k=bk:=⟨_,rfl⟩
 have rZ:bk=if wt=true\/j<=g-fh then nS else k:=by
  rw[<-nU];unfold Pt.fU;rw[HS.out.1,HS.out.2.1,HS.out.2.2.1,HS.out.2.2.2.1,HS.out.2.2.2.2.2,Gl.out]
 have Rs:=hid nU;obtain⟨x1,x2,_,x4,_,_,_⟩:=hP.Ah HS.out.2.2.2.2.1 k (by show k<(P.sp.set k _).length;rw[length_set];exact hkl);rw[Pt.qi _ _ _ _ _ hkl,if_pos rfl] at x1 x2 x4;clear hP nU HL;go_upto_region 12 with fail;obtain⟨q,hq⟩:∃q:Bool,decide (wt=true\/j<=g-fh)=q:=⟨_,rfl⟩
 have Hq:=hid hq
 go_cut [93] from 77 to 92 (fun v93 wx=>v93=.bool q/\bp V B bs b v vS ⟨ew P.L 2 (bz (P.L 2) (P.part k) nS),P.sp.set k ⟨fh,g,0,wt⟩⟩ wx/\St wx 225 bC #[.int .i64 (f:Int),.int .i64 (fh:Int),.int .i64 0,.bool false])
 case first=>
  have q1:(g:Int)-(fh:Int)<=100000:=by omega
  have q2:0<=(g:Int)-(fh:Int):=by omega
  rcases hw:wt with _|_
  ·rw[hw] at x4;by_cases hle:j<=g-fh
   ·have hd:decide ((j:Int)<=g-(fh:Int))=true:=(by rw[decide_eq_true_iff];omega);have He:Hid (q=true):=(by show _=_;rw[<-hq];simp[hle]);clear rZ hw hle hq;go_quiet (fail);go_wp2_with fail
    go_meet
    exact⟨by rw[He.out],H9.out.1.aa (below_drewN (Below.refl _ _) _),H9.out.2⟩
   have hd:decide ((j:Int)<=g-(fh:Int))=false:=(by rw[decide_eq_false_iff_not];omega);have He:Hid (q=false):=(by show _=_;rw[<-hq,hw];simp;omega);clear rZ hw hle hq;go_quiet (fail);go_wp2_with fail
   go_meet
   exact⟨by rw[He.out],H9.out.1.aa (below_drewN (Below.refl _ _) _),H9.out.2⟩
  rw[hw] at x4;have He:Hid (q=true):=by show _=_;rw[<-hq];simp[hw]
  clear rZ hw hq;go_quiet (fail);go_wp2_with fail
  go_meet
  exact⟨by rw[He.out],H9.out.1.aa (below_drewN (Below.refl _ _) _),H9.out.2⟩
 case rest=>
  obtain⟨rfl,hP,hC⟩:=hcut;clear x1 x2 x4 H9;have Ev:=hid (Zz hP hC);clear hP hC;have N7:=hid rZ;clear rZ hq
  go_upto_if 93 with (fail)
  go_cut [1] from 93 to 94 (fun v1 wx=>v1=.int .i64 (bk:Int)/\wx=wc)
  case first=>
   rcases q with _|_
   ·have He:Hid (bk=k):=(by show _=_;rw[N7.out,if_neg (by have:=Hq.out;rw[decide_eq_false_iff_not] at this;exact this)]);go_wp2_with fail
    go_meet
    exact⟨by rw[He.out],rfl⟩
   have He:Hid (bk=nS):=(by show _=_;rw[N7.out,if_pos (by have:=Hq.out;rw[decide_eq_true_iff] at this;exact this)]);go_wp2_with fail
   go_meet
   exact⟨by rw[He.out],rfl⟩
  case rest=>
   obtain⟨rfl,rfl⟩:=hcut;have C7:bk<nS+1:=(by rw[N7.out];split <;> omega);have R2:Hid ((P.sp.set k ⟨fh,g,0,wt⟩).length=nS):=(by show _=_;rw[length_set];exact HS.out.2.2.2.2.2);have hO:=Ev.out.1.ng;replace hO:ownsRow wc B 225 4 vS (P.sp.set k ⟨fh,g,0,wt⟩).length (pI (P.sp.set k ⟨fh,g,0,wt⟩)):=hO;rw[R2.out,HS.out.2.2.2.2.1] at hO;have aS:=Ev.out.1.mH.1;rw[HS.out.2.2.2.2.1] at aS;obtain⟨i0,hi,dF,cY,cO⟩:=info_parts rY;obtain⟨y0,y1,y2,y3⟩:=Ev.out.2.dP;have CA:=Ev.out.1.st;have Oj:(wc.alloc (.cells #[.int .i64 (f:Int),.int .i64 (fh:Int),.int .i64 0,.bool false] 225)).cell? ⟨b,3,none⟩=some (.slice (some ⟨gS,0,none⟩) nS cS):=((al wc _).cell (p:=⟨b,3,none⟩) CA.lt).trans aS;have hV:=Ev.out.1.hB;have ns9:nS<=100000:=(by have:=xV.out.ns;rw[HS.out.2.2.2.2.2] at this;exact this);have Dc:=hid CA;clear CA;go_upto_region 14 with fail
   go_cut [7] from 95 to 104 (fun v7 wx=>v7=.int .i64 (nS:Int)/\∃(a5:Option Addr) (c5:Nat),bp V B bs b v (.slice a5 (nS+1) c5) ⟨ew P.L 2 (bz (P.L 2) (P.part k) nS),dD P k⟩ wx)
   case first=>
    go_region_law (
     refine Gz (by rfl) _ _ _ (by rfl) B 225 i0 (.agg #[.int .i64 0,.int .i64 0,.int .i64 0,.bool false]) 4 32 underlying213 hi dF cY cO (by rfl) (by decide) (.slice (some ⟨gS,0,none⟩) nS cS) nS (pI (P.sp.set k ⟨fh,g,0,wt⟩)) (by rfl) (by first|exact hO.drew.alloc _|exact (hO.alloc _).drew) ⟨wc.heap.size,0,none⟩ 1 1 [.int .i64 (f:Int),.int .i64 (fh:Int),.int .i64 0,.bool false] (by rfl) (by rfl) (World.news_of_block (cs:=#[.int .i64 (f:Int),.int .i64 (fh:Int),.int .i64 0,.bool false]) (by first|exact heap_alloc_new _ _|exact St.new _ _ _)) (by intro u hu;simp at hu;rcases hu with rfl|rfl|rfl|rfl <;> rfl) (by unfold maxLen;omega) (by omega) (by simp;omega) ?_
     intro v5 w5 an aj bw
     have rK:(wc.alloc (.cells #[.int .i64 (f:Int),.int .i64 (fh:Int),.int .i64 0,.bool false] 225)).drew.grownBy w5 (Value.slice (some ⟨gS,0,none⟩) nS cS).ownBlock:=aj
     have fm:St w5 215 b (oY v vS):=(Dc.out.alloc (.cells #[.int .i64 (f:Int),.int .i64 (fh:Int),.int .i64 0,.bool false] 225)).drew.af (hO.alloc _).drew (by decide) rK
     have e5:w5.cell? ⟨b,3,none⟩=some (.slice (some ⟨gS,0,none⟩) nS cS):=by rw[fm.at_,<-HS.out.2.2.2.2.1];rfl
     have f5:=fm.aX 3
     obtain⟨a5,c5,rfl⟩:=bE an)
    all_goals
     have qo:bp V B bs b v (.slice a5 (nS+1) c5) ⟨ew P.L 2 (bz (P.L 2) (P.part k) nS),dD P k⟩ (w5.setCell ⟨b,3,none⟩ (.slice a5 (nS+1) c5)):=by
      have h2:bp V B bs b v vS ⟨ew P.L 2 (bz (P.L 2) (P.part k) nS),P.sp.set k ⟨fh,g,0,wt⟩⟩ (wc.alloc (.cells #[.int .i64 (f:Int),.int .i64 (fh:Int),.int .i64 0,.bool false] 225)).drew:=(Ev.out.1.aa (al wc _)).aa (Below.refl _ _).drew;have h3:=h2.NZ (v':=.slice a5 (nS+1) c5) (s:=⟨f,fh,0,false⟩) R2.out an (by rw[HS.out.2.2.2.2.1];exact rK) (by
       rw[HS.out.2.2.2.2.1]
       rcases bw with h|h
       ·exact inl h
       ·exact inr (inl h))
      have e:dD P k=P.sp.set k ⟨fh,g,0,wt⟩++[⟨f,fh,0,false⟩]:=by
       unfold dD;rw[HS.out.1,HS.out.2.1,HS.out.2.2.1,HS.out.2.2.2.1,Gl.out]
      rw[e];exact h3
     clear an aj bw rK fm e5 f5
     go_wp2_with fail
     go_meet
     exact⟨rfl,a5,c5,qo⟩
   case rest=>
    obtain⟨rfl,a5,c5,qo⟩:=hcut;clear aS Oj y0 y1 y2 y3 hO;have QO:Hid ((dD P k).length=nS+1):=(by show _=_;rw[Nc,HS.out.2.2.2.2.2]);obtain⟨g5,c6,e6⟩:=qo.MU (q:=nS+1) QO.out (by omega);rw[e6] at qo;have aS:=qo.mH.1;obtain⟨x1,x2,x3,x4,x5,x6,x7⟩:=qo.Ah rfl bk (by show bk<(dD P k).length;rw[QO.out];exact C7);have zt:=qo.vG rfl bk 3 ⟨((dD P k).getD bk kY).f,((dD P k).getD bk kY).g,((dD P k).getD bk kY).h,true⟩ (by show bk<(dD P k).length;rw[QO.out];exact C7) (by omega) (fun k' hk' hn=>by
     have:k'=0\/k'=1\/k'=2:=by omega
     rcases this with rfl|rfl|rfl <;> rfl)
    replace zt:bp V B bs b v (.slice (some ⟨g5,0,none⟩) (nS+1) c6) ⟨ew P.L 2 (bz (P.L 2) (P.part k) nS),(dD P k).set bk ⟨((dD P k).getD bk kY).f,((dD P k).getD bk kY).g,((dD P k).getD bk kY).h,true⟩⟩ (wc.setCell ⟨g5,bk*4+3,none⟩ (.bool true)):=zt;have x9:wc.cell? ⟨g5,bk*4+3,none⟩=some (.bool ((⟨ew P.L 2 (bz (P.L 2) (P.part k) nS),dD P k⟩:Pt).s bk).w):=x4;generalize ((⟨ew P.L 2 (bz (P.L 2) (P.part k) nS),dD P k⟩:Pt).s bk).w=wb at x9;have i9:(bk:Int)<nS+1:=(by omega);have i8:bk<nS+1:=C7;clear qo e6 x1 x2 x3 x4 x5 x6;have tV:=hid zt;clear zt;obtain⟨SP,Ns⟩:∃SP,(dD P k).set bk ⟨((dD P k).getD bk kY).f,((dD P k).getD bk kY).g,((dD P k).getD bk kY).h,true⟩=SP:=(⟨_,rfl⟩);obtain⟨L9,zD⟩:∃L9,ew P.L 2 (bz (P.L 2) (P.part k) nS)=L9:=(⟨_,rfl⟩);rw[Ns,zD] at tV;have RW:=hid (Zz Ns zD);have l4:L9 4=P.L 4:=(by rw[<-zD];exact CD _ _ _ _ (by omega));clear Ns zD;go_upto_region 16 with fail;generalize wc.setCell ⟨g5,bk*4+3,none⟩ (.bool true)=El at tV⊢;clear x7 x9 aS;obtain⟨q,hq⟩:∃q,(P.L 4).length=q:=(⟨_,rfl⟩);have hO:=tV.out.row 4 (by omega);replace hO:ownsRow El B 3 1 (v 4) (L9 4).length (cy (L9 4)):=hO;obtain⟨a3,c3,e3⟩:=bE hO;have a4:El.cell? ⟨b,5,none⟩=some (v 4):=tV.out.c4.1;rw[l4] at hO e3;rw[hq] at hO e3;rw[e3] at hO a4;have Kz:q<=100000:=(by have:=xV.out.n4;omega);have hV:=tV.out.hB;have p9:=hid e3;have Hq4:=hid hq;have QT:=hid l4;obtain⟨i0,hi,dF,cY,cO⟩:=info_parts az;clear e3 hq l4;go_wp2_with (at_builtin;refine wpList_append_own_at _ rfl _ _ 43 rfl B 3 i0 (.int .i64 0) 1 8 underlying43 hi dF cY cO rfl (by decide) _ _ _ rfl (hO.alloc _) ⟨El.heap.size,0,none⟩ 1 1 [.int .i64 (bk:Int)] rfl rfl (cell_one_new _ _ _) ?d2 ?d3 ?d4 ?d5 ?_)
    case d2=>intro u hu;simp at hu;subst hu;rfl
    case d3=>unfold maxLen;omega
    case d4=>omega
    case d5=>simp;omega
    intro v' w5 an aj _ bw;have h2:=tV.out.aa (al El (.cells #[.int .i64 (bk:Int)] 3));have fm:=h2.st.af (hO.alloc _) (by decide) aj;have p3:w5.cell? ⟨b,5,none⟩=some (.slice a3 q c3):=(by rw[fm.at_];show some (v 4)=_;rw[p9.out]);have pf:=fm.aX 5;have HF:Hid (bp V B bs b (rG v 4 v') (.slice (some ⟨g5,0,none⟩) (nS+1) c6) (bH P k) (w5.setCell ⟨b,5,none⟩ v')):=by
     have h3:=h2.app (v':=v') (x:=bk) 4 (by omega) (q:=q) (by show (L9 4).length=q;rw[QT.out];exact Hq4.out) (by show ownsRow _ _ _ _ _ _ (cy (L9 4)++_);rw[QT.out];exact an) (by rw[p9.out];exact aj) (by
      rw[show (El.alloc (.cells #[.int .i64 (bk:Int)] 3)).heap.size=El.heap.size+1 by simp,p9.out]
      rcases bw with h|h
      ·exact inl h
      ·exact inr (inl h))
     refine h3.congr (fun i hi=>?_) ?_
     ·unfold bH;rw[HS.out.1,HS.out.2.1,HS.out.2.2.1,if_neg uX.out];show ew L9 4 (L9 4++[bk]) i=ew (ew P.L 2 (bz (P.L 2) (P.part k) P.sp.length)) 4 (P.L 4++[P.fU k]) i;rw[QT.out,Rs.out,HS.out.2.2.2.2.2,RW.out.2]
     unfold bH;rw[HS.out.1,HS.out.2.1,HS.out.2.2.1,if_neg uX.out];show SP=(dD P k).set (P.fU k) _;rw[<-RW.out.1,Rs.out]
    obtain⟨a5',c5',rfl⟩:=bE an;clear an aj bw h2 fm hO a4;go_wp2_with fail;go_end0;exact⟨rG v 4 (.slice a5' (q+1) c5'),_,rfl,rfl,HF.out⟩
theorem wH.ok{P0 P:Pt}(h:wH N P0 P l)(hN:N<=100000)(hx:x<N)(hn:x∉l):Tq P x:=by
 obtain⟨⟨c1,c2,c3,c4⟩,_,_⟩:=Ty h.pi h.hit hx hn;refine⟨c1,by rw[h.pi.l2];exact hx,by rw[h.pi.l0];exact c2,by rw[h.pi.l0];exact c3,by rw[h.pi.l1];exact hx,by rw[h.pi.l1];exact c4,by rw[h.pi.l0];exact hN,?_⟩;have h1:(P.L 3).length<=P.sp.length:=pR h.hit.nd (fun b hb=>((h.hit.tc b).1 hb).1);have h2:=h.pi.len;omega
theorem PI.sq{P:Pt}(h:PI N P):(P.L 4).length<=N:=le_trans (pR h.se.1 (fun b hb=>((h.se.2 b).1 hb).1)) h.len
theorem PI.IB{k:Nat}{P:Pt}(h:PI N P)(hN:N<=100000)(hk:k<P.sp.length):TZ P k:=by
 obtain⟨s1,s2,s3,s4⟩:=h.sp k hk;refine⟨hk,by omega,s3,by rw[h.l0];exact s2,fun x hx=>?_,by rw[h.l0];exact hN,by have:=h.len;omega,by have:=h.sq;omega⟩;rw[h.l2];unfold Pt.part at hx;obtain⟨j,hj,e⟩:=List.getElem_of_mem hx;rw[List.getElem_take,List.getElem_drop] at e;have hj2:(P.s k).f+j<N:=by
  simp at hj;have:=h.l0;omega
 have:=(h.op _ hj2).1;unfold Pt.o at this;rw[ov _ _ _ (by rw[h.l0];exact hj2),e] at this;exact this
theorem mV.sH(h:mV w a l)(k:Kept [] bs w w')(hs:w.heap.size<=w'.heap.size)(hb:∀ad,a=some ad->ad.block∉bs):mV w' a l:=by
 intro h0;obtain⟨g,off,e,hg,hc⟩:=h h0;refine⟨g,off,e,by omega,fun j hj=>?_⟩;rw[k.mQ (by have:=hb _ e;exact this) hg];exact hc j hj
theorem VY(N:Nat)(hN:N<=100000)(V:World)(B b:Nat)(bs:List Nat)(v:Nat->Value)(vS:Value)(P:Pt)(w:World)(h:bp V B bs b v vS P w)(hz:PZ N P)(l:List Nat)(q:Nat)(hq:l.length=q)(iM:l.Nodup)(hl:∀x∈l,x<N)(aL:Option Addr)(cL:Nat)(hL:mV V aL l)(hb:∀ad,aL=some ad->ad.block∉bs):
  Calls prog 161 #[.pointer (some ⟨b,0,none⟩),.slice aL q cL] w (M5 V B bs b (lz P l)):=by
 have Vt:q<=N:=by rw[<-hq];exact pR iM hl
 obtain⟨d1,d2⟩:=V3 hz;obtain⟨a3,c3,e3⟩:=h.CO 3 (by omega) rfl;have a4:=h.c3;have h1:=h.wW 3 (by omega) e3 0 (zero_le _);have H1:Hid (∃v',bp V B bs b v' vS (kn P) (w.setCell ⟨b,4,none⟩ (.slice a3 0 c3))):=⟨_,h1.congr (fun i hi=>by show ew P.L 3 ((P.L 3).take 0) i=ew P.L 3 [] i;rw[List.take_zero]) rfl⟩
 obtain⟨n3,mA⟩:∃n3,(P.L 3).length=n3:=⟨_,rfl⟩
 have hns3:n3<=c3:=by
  have ho:=h.row 3 (by omega);rw[e3] at ho;rcases ho.2 with ⟨h1,_⟩|⟨_,cap,_,h1,_,_,h2,_⟩
  ·injection h1 with _ e1 e2;omega
  injection h1 with _ e1 e2;have h3:(P.L 3).length<=cap:=h2;omega
 rw[e3,mA] at a4;obtain⟨a41,a42⟩:=a4;have HX:=hid (Zz hq (Zz iM (Zz hl (Zz hL (Zz hb (Zz d1 (Zz d2 hz)))))));clear h hz hq iM hl hL hb d1 d2 h1 e3 mA;go_enter func161,ntmps161;go_upto_region 1 with fail;generalize w.setCell ⟨b,4,none⟩ (.slice a3 0 c3)=W1 at H1⊢;clear a41 a42;go_wp2;go_loopw [5,18] (fun _ v wr=>∃k:Nat,v=.int .i64 k/\k<=q/\Hid (∃v' vS',bp V B bs b v' vS' (gh (kn P) (l.take k)) wr)) (fun _ v _=>q-(intOf v).toNat)
 ·obtain⟨v',hv⟩:=H1.out;exact⟨0,rfl,zero_le _,v',vS,hv⟩
 clear H1;obtain⟨k,rfl,hk,HL⟩:=hrel;by_cases av:k<q
 ·obtain⟨v',vS',hP⟩:=HL.out;have hkl:k<l.length:=by rw[HX.out.1];exact av
  have hR:=Mr HX.out.2.2.2.2.2.1 HX.out.2.2.2.2.2.2.1 l HX.out.2.1 HX.out.2.2.1 k (by omega);have Ff:l[k]∉l.take k:=fun hm=>by
   obtain⟨j,hj,e2⟩:=List.getElem_of_mem hm;rw[List.getElem_take] at e2;have hjk:j<k:=(by simp at hj;omega);have:=(List.getElem_inj (h₀:=by omega) (h₁:=hkl) HX.out.2.1).1 e2;omega
  have ok:=hR.ok hN (HX.out.2.2.1 _ (getElem_mem hkl)) Ff;obtain⟨g,off,rfl,hg,o0⟩:=(mV.sH HX.out.2.2.2.1 hP.kept hP.below.size HX.out.2.2.2.2.1) (by omega);have hc:wr.cell? ⟨g,off+k,none⟩=some (.int .i64 ((l.getD k 0:Nat):Int)):=o0 k hkl;rw[ov _ _ _ hkl] at hc;have HC:=hid (Z2 V B b bs v' vS' _ wr hP l[k] ok);have HS:Hid (iu (gh (kn P) (l.take k)) l[k]=gh (kn P) (l.take (k+1))):=by
   show _=_;rw[<-Tw,JL _ _ hkl,ov _ _ _ hkl]
  have i1:(k:Int)<q:=by omega
  clear hR Ff ok o0 hP HL;generalize l[k]=x at hc HC HS;go_wp2_with fail;refine HC.out.mono ?_;rintro e w5 ⟨v5,rh,rfl,nI⟩;rw[HS.out] at nI;have x8:=hid nI;clear nI HC;go_wp2;go_roundw
  ·exact⟨k+1,by go_num,by omega,v5,rh,x8.out⟩
  simp[intOf];omega
 obtain rfl:k=q:=by omega
 obtain⟨v',vS',hP⟩:=HL.out;rw[List.take_of_length_le (by rw[HX.out.1];exact le_refl _)] at hP;have hR:=Mr HX.out.2.2.2.2.2.1 HX.out.2.2.2.2.2.2.1 l HX.out.2.1 HX.out.2.2.1 l.length (le_refl _);rw[List.take_length] at hR;obtain⟨P2,rJ⟩:∃P2,gh (kn P) l=P2:=⟨_,rfl⟩
 have HE:Hid (lz P l=jd P2 (P2.L 3)):=by show _=_;rw[<-rJ];rfl
 rw[rJ] at hP hR;obtain⟨T,hT⟩:∃T,P2.L 3=T:=⟨_,rfl⟩
 obtain⟨m,hm⟩:∃m,T.length=m:=⟨_,rfl⟩
 obtain⟨aT,cT,eT⟩:=hP.CO 3 (by omega) (q:=m) (by rw[hT];exact hm);have b3:=hP.c3.1;rw[eT] at b3;have HR:=hid (Zz hR (Zz hT (Zz hm eT)));have U4:m<=N:=by
  have h1:(P2.L 3).length<=P2.sp.length:=pR hR.hit.nd (fun b hb=>((hR.hit.tc b).1 hb).1);have h2:=hR.pi.len;rw[hT,hm] at h1;omega
 have HP:=hid hP;clear hP hR rJ hT hm eT HL;go_wp2_with fail;clear b3;obtain⟨W9,rfl⟩:∃W9,W9=wr:=⟨wr,rfl⟩
 go_loopw [7,31] (fun _ v wq=>∃j:Nat,v=.int .i64 j/\j<=m/\Hid (∃v5 rh,v5 3=.slice aT m cT/\bp V B bs b v5 rh (jd P2 (T.take j)) wq)) (fun _ v _=>m-(intOf v).toNat)
 ·exact⟨0,rfl,zero_le _,v',vS',HR.out.2.2.2,HP.out⟩
 clear HP;obtain⟨j,rfl,hj,HL⟩:=hrel;by_cases mg:j<m
 ·obtain⟨v5,rh,e5,hP⟩:=HL.out;have hjl:j<T.length:=by rw[HR.out.2.2.1];exact mg
  have hC:=RG (S:=fun x=>x∈l) HR.out.1.pi T (by rw[<-HR.out.2.1];exact Tr HR.out.1.hit) (by rw[<-HR.out.2.1];exact HR.out.1.hit.nd) (fun b hb=>by rw[<-HR.out.2.1] at hb;exact ((HR.out.1.hit.tc b).1 hb).1) j (by omega);have ok:=hC.pi.IB hN (k:=T[j]) (by
   have h9:T[j]∈P2.L 3:=by rw[HR.out.2.1];exact getElem_mem hjl
   have:=((HR.out.1.hit.tc _).1 h9).1
   have:=hC.len
   omega)
  have Fi:(jd P2 (T.take j)).L 3=T:=hC.o3.trans HR.out.2.1;obtain⟨g,c,eg,hc,_⟩:=hP.num 3 (by omega) j (by rw[Fi];exact hjl);rw[Fi,ov _ _ _ hjl] at hc;rw[e5] at eg;obtain⟨rfl⟩:aT=some ⟨g,0,none⟩:=by injection eg
  have HC:=hid (Ye V B b bs v5 rh _ wr hP T[j] ok);have HS:Hid (bH (jd P2 (T.take j)) T[j]=jd P2 (T.take (j+1))):=by
   show _=_;rw[<-S5,JL _ _ hjl,ov _ _ _ hjl]
  have i1:(j:Int)<m:=by omega
  have He5:=hid e5;clear hC ok Fi eg hP HL e5;generalize T[j]=x at hc HC HS;go_wp2_with fail;refine HC.out.mono ?_;rintro e w5 ⟨v6,vS6,rfl,e6,nI⟩;rw[HS.out] at nI;rw[He5.out] at e6;have x8:=hid (Zz e6 nI);clear nI HC e6;go_wp2;go_roundw
  ·exact⟨j+1,by go_num,by omega,v6,vS6,x8.out⟩
  simp[intOf];omega
 obtain rfl:j=m:=by omega
 obtain⟨v5,rh,e5,hP⟩:=HL.out;rw[List.take_of_length_le (by rw[HR.out.2.2.1];exact le_refl _),<-HR.out.2.1,<-HE.out] at hP;have HP:=hid hP;clear hP HL e5;go_wp2_with fail;go_end0;exact⟨v5,rh,rfl,HP.out⟩
end Go.Proofs.YtiijebameffenaaGreat
