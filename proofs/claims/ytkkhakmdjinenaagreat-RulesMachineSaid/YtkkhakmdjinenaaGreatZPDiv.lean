import Derived.Test.YtkkhakmdjinenaaGreatZMCol
set_option linter.all false
set_option maxHeartbeats 4000000
set_option maxRecDepth 100000
open Go.Lib (hid)
namespace Go.Proofs.YtkkhakmdjinenaaGreat
open Go.RowKit Go.Maps Go.Proofs.Tryz
open List (getElem_mem length_append length_set length_take)
open Or (inl inr)
open Nat (le_refl le_trans zero_le)
open World (ownsRow)
variable {B N c g n q x:Nat}{a:Option Addr}{bs l:List Nat}{v:Nat->Value}{vS:Value}{w w':World}
def gW(s:nV)(k:Nat):Value:=if k=0 then .int .i64 ((s.f:Nat):Int) else if k=1 then .int .i64 ((s.g:Nat):Int) else if k=2 then .int .i64 ((s.h:Nat):Int) else .bool s.w
def qE(l:List nV):List Value:=l.flatMap fun s=>[gW s 0,gW s 1,gW s 2,gW s 3]
theorem UI(s:nV)(l:List nV):qE (s :: l)=[gW s 0,gW s 1,gW s 2,gW s 3]++qE l:=by simp[qE]
theorem zpC(l:List nV):(qE l).length=l.length*4:=by
 induction l with
 | nil=>rfl
 | cons s l ih=>rw[UI,length_append,ih];simp;omega
theorem OW(l:List nV):∀j,(qE l)[j]?=(l[j / 4]?).map fun s=>gW s (j % 4):=by
 induction l with
 | nil=>intro j;simp[qE]
 | cons s l ih=>
  intro j;rw[UI];by_cases h:j<4
  ·rw[List.getElem?_append_left (by simpa using h),show j / 4=0 by omega,show j % 4=j by omega];have:j=0\/j=1\/j=2\/j=3:=(by omega);rcases this with rfl|rfl|rfl|rfl <;> rfl
  rw[List.getElem?_append_right (by simp;omega),show ([gW s 0,gW s 1,gW s 2,gW s 3]:List Value).length=4 from rfl,ih,show j / 4=(j-4) / 4+1 by omega,show j % 4=(j-4) % 4 by omega,List.getElem?_cons_succ]
theorem znf(l:List nV)(s:nV):qE (l++[s])=qE l++[gW s 0,gW s 1,gW s 2,gW s 3]:=by simp[qE]
theorem zqF(l:List nV)(b k:Nat)(hb:b<l.length)(hk:k<4):(qE l)[b*4+k]?=some (gW (l.getD b mc) k):=by
 rw[OW,show (b*4+k) / 4=b by omega,show (b*4+k) % 4=k by omega,List.getElem?_eq_getElem hb,pH _ _ _ hb];rfl
theorem zpD(l:List nV)(b k:Nat)(s:nV)(hb:b<l.length)(hk:k<4)(hs:∀k',k'<4->k'≠k->gW s k'=gW (l.getD b mc) k'):qE (l.set b s)=(qE l).set (b*4+k) (gW s k):=by
 apply List.ext_getElem?;intro j;rw[OW,List.getElem?_set,List.getElem?_set,zpC,OW];by_cases e:b=j / 4
 ·subst e;rw[if_pos rfl,if_pos hb];by_cases e2:j / 4*4+k=j
  ·rw[if_pos e2,if_pos (by omega),show j % 4=k by omega];rfl
  rw[if_neg e2,List.getElem?_eq_getElem hb,<-pH _ _ mc hb];show some (gW s (j % 4))=some _;rw[hs (j % 4) (by omega) (by omega)]
 rw[if_neg e,if_neg (by omega)]
theorem zjR(l:List Nat)(j x:Nat):(cY l).set j (.int .i64 (x:Int))=cY (l.set j x):=by simp[cY,List.map_set]
theorem zhF(l:List Nat)(j:Nat)(h:j<l.length):(cY l)[j]?=some (.int .i64 (l.getD j 0)):=by rw[BW l j h,pH l j 0 h]
theorem zll{t size:Nat}{xs:List Value}(h:w.ownsRow B t size (.slice a n c) n xs)(k:Nat)(hk:k<=n):w.ownsRow B t size (.slice a k c) k (xs.take (k*size)):=by
 have hl:k*size<=n*size:=Nat.mul_le_mul_right size hk;refine⟨by rw[length_take,h.1];omega,?_⟩;rcases h.2 with ⟨h1,h2⟩|⟨g,cap,cur,h1,h3,h4,h5,h6,h7,h8⟩
 ·injection h1 with e1 e2 e3;have px:k=0:=by omega
  subst px;rw[e1,e3];exact inl ⟨rfl,rfl⟩
 injection h1 with e1 e2 e3;rw[e1,e3];refine inr ⟨g,cap,cur,rfl,h3,h4,by omega,h6,h7,?_⟩;rw[<-h8,List.take_take,Nat.min_eq_left hl]
def Bo(i:Nat):Nat:=if i<3 then i else i+1
def sY(v:Nat->Value)(i:Nat)(u:Value):Nat->Value:=fun j=>if j=i then u else v j
theorem Bn(v:Nat->Value)(i:Nat)(u:Value):sY v i u i=u:=if_pos rfl
theorem yV(v:Nat->Value)(i j:Nat)(u:Value)(h:j≠i):sY v i u j=v j:=if_neg h
theorem EW(L:Nat->List Nat)(i:Nat)(u:List Nat):fo L i u i=u:=if_pos rfl
theorem DK(L:Nat->List Nat)(i j:Nat)(u:List Nat)(h:j≠i):fo L i u j=L j:=if_neg h
def qc(v:Nat->Value)(vS:Value):Array Value:=#[v 0,v 1,v 2,vS,v 3,v 4]
structure bI (V:World)(B:Nat)(bs:List Nat)(b:Nat)(v:Nat->Value)(vS:Value)(P:Pt)(w:World):Prop where
 kept:Kept [] bs V w
 below:Below B V w
 st:St w 173 b (qc v vS)
 row:∀i,i<5->w.ownsRow B 3 1 (v i) (P.L i).length (cY (P.L i))
 sep:∀i j,i<5->j<5->i≠j->∀g,(v i).ownBlock=some g->(v j).ownBlock≠some g
 oa:w.ownsRow B 190 4 vS P.sp.length (qE P.sp)
 loc:∀i,i<5->∀g,(v i).ownBlock=some g->g∈bs\/V.heap.size<=g
 mF:∀g,vS.ownBlock=some g->g∈bs\/V.heap.size<=g
 kd:b∈bs
 lo:B<=b/\B<=V.heap.size
section
variable {V : World}{B b : Nat}{bs : List Nat}{v : Nat → Value}{vS : Value}{P : Pt}{w : World}
theorem bI.hB(h:bI V B bs b v vS P w):B<=w.heap.size:=le_trans h.lo.2 h.below.size
theorem bI.ab{w1:World}(h:bI V B bs b v vS P w)(k:Below w.heap.size w w1):bI V B bs b v vS P w1:=
 ⟨h.kept.below k,h.below.trans (k.mono h.hB),h.st.ab k,fun i hi=>db (h.row i hi) k,h.sep,db h.oa k,h.loc,h.mF,h.kd,h.lo⟩
theorem zpE(v:Nat->Value)(vS:Value)(i:Nat)(hi:i<5):(qc v vS)[Bo i]?=some (v i):=by
 have:i=0\/i=1\/i=2\/i=3\/i=4:=by omega
 rcases this with rfl|rfl|rfl|rfl|rfl <;> rfl
theorem Xf(v:Nat->Value)(vS u:Value)(i:Nat)(hi:i<5):(qc v vS).setIfInBounds (Bo i) u=qc (sY v i u) vS:=by
 have:i=0\/i=1\/i=2\/i=3\/i=4:=by omega
 rcases this with rfl|rfl|rfl|rfl|rfl <;> rfl
theorem zlm(v:Nat->Value)(vS u:Value):(qc v vS).setIfInBounds 3 u=qc v u:=rfl
theorem bI.cell(h:bI V B bs b v vS P w)(i:Nat)(hi:i<5):w.cell? ⟨b,Bo i,none⟩=some (v i)/\w.frozen? ⟨b,Bo i,none⟩=false:=⟨by rw[h.st.at_,zpE v vS i hi],h.st.bb _⟩
theorem bI.nD(h:bI V B bs b v vS P w):w.cell? ⟨b,3,none⟩=some vS/\w.frozen? ⟨b,3,none⟩=false:=⟨by rw[h.st.at_];rfl,h.st.bb _⟩
theorem bI.num(h:bI V B bs b v vS P w)(i:Nat)(hi:i<5)(j:Nat)(hj:j<(P.L i).length):∃g c,v i=.slice (some ⟨g,0,none⟩) (P.L i).length c/\w.cell? ⟨g,j,none⟩=some (.int .i64 (((P.L i).getD j 0:Nat):Int))/\w.frozen? ⟨g,j,none⟩=false:=by
 have ho:=h.row i hi;obtain⟨a,c,e⟩:=bP ho;rw[e] at ho⊢;obtain⟨g,rfl,_,_,hc⟩:=eC ho (by omega);obtain⟨h1,h2⟩:=hc j (by omega);exact⟨g,c,rfl,by rw[h1,zhF _ _ hj],h2⟩
theorem bI.span(h:bI V B bs b v vS P w)(j:Nat)(hj:j<P.sp.length):∃g c,vS=.slice (some ⟨g,0,none⟩) P.sp.length c/\∀k,k<4->w.cell? ⟨g,j*4+k,none⟩=some (gW (P.s j) k)/\w.frozen? ⟨g,j*4+k,none⟩=false:=by
 have ho:=h.oa;obtain⟨a,c,e⟩:=bP ho;rw[e] at ho⊢;obtain⟨g,rfl,_,_,hc⟩:=eC ho (by omega);refine⟨g,c,rfl,fun k hk=>?_⟩;obtain⟨h1,h2⟩:=hc (j*4+k) (by omega);exact⟨by rw[h1,zqF _ _ _ hj hk];rfl,h2⟩
theorem bI.ne(h:bI V B bs b v vS P w):(∀i,i<5->∀g,(v i).ownBlock=some g->g≠b)/\(∀g,vS.ownBlock=some g->g≠b)/\(∀i,i<5->∀g,(v i).ownBlock=some g->vS.ownBlock≠some g):=
 ⟨fun i hi=>eB (h.row i hi) h.st (by decide),eB h.oa h.st (by decide),fun i hi=>iB (h.row i hi) h.oa (by decide)⟩
theorem bI.put(h:bI V B bs b v vS P w)(i:Nat)(hi:i<5)(hv:v i=.slice (some ⟨g,0,none⟩) n c)(j x:Nat)(hj:j<(P.L i).length):
  bI V B bs b v vS ⟨fo P.L i ((P.L i).set j x),P.sp⟩ (w.setCell ⟨g,j,none⟩ (.int .i64 (x:Int))):=by
 have hg:(v i).ownBlock=some g:=by rw[hv];rfl
 have hk:Kept [] [g] w (w.setCell ⟨g,j,none⟩ (.int .i64 (x:Int))):=(Kept.refl _ _ _).setCell _ _ (inl (by simp));have hn:n=(P.L i).length:=by
  obtain⟨a,c',e⟩:=bP (h.row i hi);rw[hv] at e;injection e
 refine⟨h.kept.setCell _ _ ((h.loc i hi g hg).elim inl (fun x=>inr (inl x))),h.below.setCell (p:=⟨g,j,none⟩) (kL (h.row i hi) g hg) _,h.st.fK (p:=⟨g,j,none⟩) (fun e=>h.ne.1 i hi g hg e.symm) _,fun k hk5=>?_,h.sep,fI h.oa hk (by simp) (fun g2 e hm=>h.ne.2.2 i hi g hg (by rw[e,List.mem_singleton.1 hm])),h.loc,h.mF,h.kd,h.lo⟩;by_cases e:k=i
 ·subst e;simp only[EW];have ho:=h.row k hi;rw[hv,<-hn] at ho;have:=uj ho j (by omega) (.int .i64 (x:Int));rw[zjR] at this;rw[hv,length_set,<-hn];exact this
 simp only[DK _ _ _ _ e];exact fI (h.row k hk5) hk (by simp) (fun g2 e2 hm=>h.sep i k hi hk5 (fun e3=>e e3.symm) g hg (by rw[e2,List.mem_singleton.1 hm]))
theorem bI.xF(h:bI V B bs b v vS P w)(hv:vS=.slice (some ⟨g,0,none⟩) n c)(j k:Nat)(s:nV)(hj:j<P.sp.length)(hk:k<4)(hs:∀k',k'<4->k'≠k->gW s k'=gW (P.s j) k'):
  bI V B bs b v vS ⟨P.L,P.sp.set j s⟩ (w.setCell ⟨g,j*4+k,none⟩ (gW s k)):=by
 have hg:vS.ownBlock=some g:=by rw[hv];rfl
 have wL:Kept [] [g] w (w.setCell ⟨g,j*4+k,none⟩ (gW s k)):=(Kept.refl _ _ _).setCell _ _ (inl (by simp));have hn:n=P.sp.length:=by
  obtain⟨a,c',e⟩:=bP h.oa;rw[hv] at e;injection e
 refine⟨h.kept.setCell _ _ ((h.mF g hg).elim inl (fun x=>inr (inl x))),h.below.setCell (p:=⟨g,j*4+k,none⟩) (kL h.oa g hg) _,h.st.fK (p:=⟨g,j*4+k,none⟩) (fun e=>h.ne.2.1 g hg e.symm) _,fun i hi=>fI (h.row i hi) wL (by simp) (fun g2 e hm=>h.ne.2.2 i hi g2 e (by rw[hg,List.mem_singleton.1 hm])),h.sep,?_,h.loc,h.mF,h.kd,h.lo⟩;have ho:=h.oa;rw[hv,<-hn] at ho;have:=TL ho (j*4+k) (by omega) (gW s k);show ownsRow _ _ _ _ _ (P.sp.set j s).length (qE (P.sp.set j s));rw[length_set,zpD _ _ _ _ hj hk hs,hv,<-hn];exact this
theorem bI.app{w':World}{v':Value}{x q:Nat}(h:bI V B bs b v vS P w)(i:Nat)(hi:i<5)(hq:(P.L i).length=q)(ho:w'.ownsRow B 3 1 v' (q+1) (cY (P.L i)++[.int .i64 (x:Int)]))(hg:w.grownBy w' (v i).ownBlock)
  (fx:v'.ownBlock=(v i).ownBlock\/v'.ownBlock=some w.heap.size\/∃g,v'.ownBlock=some g/\w.heap.size<=g):bI V B bs b (sY v i v') vS ⟨fo P.L i (P.L i++[x]),P.sp⟩ (w'.setCell ⟨b,Bo i,none⟩ v'):=by
 subst hq;have bY:St w' 173 b (qc v vS):=h.st.ae (h.row i hi) (by decide) hg;have Cs:∀g,v'.ownBlock=some g->(v i).ownBlock=some g\/w.heap.size<=g:=fun g e=>by
  rcases fx with e1|e1|⟨g2,e1,e2⟩
  ·exact inl (by rw[<-e1];exact e)
  ·rw[e] at e1;injection e1 with e1;exact inr (by omega)
  rw[e] at e1;injection e1 with e1;exact inr (by omega)
 have aq:∀j,j<5->∀g,(v j).ownBlock=some g->g<w.heap.size:=fun j hj=>lZ (h.row j hj)
 have hB:Below B V w':=fL h.below (h.row i hi) h.hB hg;refine⟨(h.kept.grown hg (fun g e=>(h.loc i hi g e).elim inl (fun x=>inr (inl x)))).setCell _ _ (inl h.kd),hB.setCell (p:=⟨b,Bo i,none⟩) h.lo.1 _,?_,fun j hj=>?_,fun j k hj hk hjk g=>?_,jE (sO h.oa (h.row i hi) (by decide) hg) bY (by decide) _ _,fun j hj g=>?_,h.mF,h.kd,h.lo⟩
 ·rw[<-Xf v vS v' i hi];exact bY.set _ _
 ·by_cases e:j=i
  ·subst e;simp only[Bn,EW];rw[xG,length_append];exact jE ho bY (by decide) _ _
  simp only[yV _ _ _ _ e,DK _ _ _ _ e];exact jE (rF (h.row j hj) hg (fun g e1 e2=>h.sep j i hj hi e g e1 e2.symm)) bY (by decide) _ _
 ·by_cases e1:j=i
  ·subst e1;rw[Bn,yV _ _ _ _ (fun e=>hjk e.symm)];intro e2 e3;rcases Cs g e2 with e4|e4
   ·exact h.sep j k hj hk hjk g e4 e3
   have:=aq k hk g e3;omega
  rw[yV _ _ _ _ e1];by_cases e2:k=i
  ·subst e2;rw[Bn];intro e3 e4;rcases Cs g e4 with e5|e5
   ·exact h.sep j k hj hk hjk g e3 e5
   have:=aq j hj g e3;omega
  rw[yV _ _ _ _ e2];exact h.sep j k hj hk hjk g
 by_cases e:j=i
 ·subst e;rw[Bn];intro e2;rcases Cs g e2 with e3|e3
  ·exact h.loc j hj g e3
  exact inr (le_trans h.below.size e3)
 rw[yV _ _ _ _ e];exact h.loc j hj g
theorem bI.QL{v':Value}{s:nV}(h:bI V B bs b v vS P w)(hq:P.sp.length=q)(ho:w'.ownsRow B 190 4 v' (q+1) (qE P.sp++[gW s 0,gW s 1,gW s 2,gW s 3]))(hg:w.grownBy w' vS.ownBlock)
  (fx:v'.ownBlock=vS.ownBlock\/v'.ownBlock=some w.heap.size\/∃g,v'.ownBlock=some g/\w.heap.size<=g):bI V B bs b v v' ⟨P.L,P.sp++[s]⟩ (w'.setCell ⟨b,3,none⟩ v'):=by
 subst hq;have bY:St w' 173 b (qc v vS):=h.st.ae h.oa (by decide) hg;have hB:Below B V w':=fL h.below h.oa h.hB hg;refine⟨(h.kept.grown hg (fun g e=>(h.mF g e).elim inl (fun x=>inr (inl x)))).setCell _ _ (inl h.kd),hB.setCell (p:=⟨b,3,none⟩) h.lo.1 _,?_,fun j hj=>jE (sO (h.row j hj) h.oa (by decide) hg) bY (by decide) _ _,h.sep,?_,h.loc,fun g e=>?_,h.kd,h.lo⟩
 ·rw[<-zlm v vS v'];exact bY.set _ _
 ·show ownsRow _ _ _ _ _ (P.sp++[s]).length (qE (P.sp++[s]));rw[znf,length_append];exact jE ho bY (by decide) _ _
 rcases fx with e1|e1|⟨g2,e1,e2⟩
 ·exact h.mF g (by rw[<-e1];exact e)
 ·rw[e] at e1;injection e1 with e1;exact inr (by have:=h.below.size;omega)
 rw[e] at e1;injection e1 with e1;exact inr (by have:=h.below.size;omega)
theorem bI.yH(h:bI V B bs b v vS P w)(i:Nat)(hi:i<5)(hv:v i=.slice a n c)(k:Nat)(hk:k<=(P.L i).length):
  bI V B bs b (sY v i (.slice a k c)) vS ⟨fo P.L i ((P.L i).take k),P.sp⟩ (w.setCell ⟨b,Bo i,none⟩ (.slice a k c)):=by
 have ho:=h.row i hi;have hn:n=(P.L i).length:=by
  obtain⟨a,c',e⟩:=bP ho;rw[hv] at e;injection e
 rw[hv,<-hn] at ho;have ho2:=zll ho k (by omega);have r9:(Value.slice a k c).ownBlock=(v i).ownBlock:=by rw[hv];cases a <;> rfl
 refine⟨h.kept.setCell _ _ (inl h.kd),h.below.setCell (p:=⟨b,Bo i,none⟩) h.lo.1 _,?_,fun j hj=>?_,fun j l hj hl hjl g=>?_,jE h.oa h.st (by decide) _ _,fun j hj g=>?_,h.mF,h.kd,h.lo⟩
 ·rw[<-Xf v vS _ i hi];exact h.st.set _ _
 ·by_cases e:j=i
  ·subst e;simp only[Bn,EW];rw[show cY ((P.L j).take k)=(cY (P.L j)).take (k*1) by simp[cY,List.map_take],length_take,Nat.min_eq_left hk];exact jE ho2 h.st (by decide) _ _
  simp only[yV _ _ _ _ e,DK _ _ _ _ e];exact jE (h.row j hj) h.st (by decide) _ _
 ·have hh:=h.sep j l hj hl hjl g;by_cases e1:j=i
  ·subst e1;rw[Bn,yV _ _ _ _ (fun e=>hjl e.symm),r9];exact hh
  rw[yV _ _ _ _ e1];by_cases e2:l=i
  ·subst e2;rw[Bn,r9];exact hh
  rw[yV _ _ _ _ e2];exact hh
 by_cases e:j=i
 ·subst e;rw[Bn,r9];exact h.loc j hj g
 rw[yV _ _ _ _ e];exact h.loc j hj g
def bF(b:Nat)(v:Nat->Value)(vS:Value):List Nat:=b :: (vS.ownBlock.toList++(List.range 5).flatMap fun i=>(v i).ownBlock.toList)
theorem uA{b:Nat}:x∈bF b v vS↔x=b\/vS.ownBlock=some x\/∃i,i<5/\(v i).ownBlock=some x:=by
 unfold bF;rw[List.mem_cons,List.mem_append,List.mem_flatMap];simp only[Option.mem_toList,Option.mem_def,List.mem_range]
theorem bI.start(h:bI V B bs b v vS P w):bI w B (bF b v vS) b v vS P w:=
 ⟨Kept.refl _ _ _,Below.refl _ _,h.st,h.row,h.sep,h.oa,fun i hi g e=>inl (uA.2 (inr (inr ⟨i,hi,e⟩))),fun g e=>inl (uA.2 (inr (inl e))),uA.2 (inl rfl),h.lo.1,h.hB⟩
theorem bI.tb(h:bI V B bs b v vS P w):∀x∈bF b v vS,x∈bs\/V.heap.size<=x:=fun x hx=>by
 rcases uA.1 hx with rfl|e|⟨i,hi,e⟩
 ·exact inl h.kd
 ·exact h.mF x e
 ·exact h.loc i hi x e
theorem bI.back{v':Nat->Value}{vS':Value}{P':Pt}(h:bI V B bs b v vS P w)(h2:bI w B (bF b v vS) b v' vS' P' w'):bI V B bs b v' vS' P' w':=by
 have up:∀x,x∈bF b v vS\/w.heap.size<=x->x∈bs\/V.heap.size<=x:=fun x hx=>by
  rcases hx with hx|hx
  ·exact h.tb x hx
  exact inr (le_trans h.below.size hx)
 refine⟨fun k o hk ho hn=>h2.kept k o (h.kept k o hk ho hn) ho (fun hm=>?_),h.below.trans h2.below,h2.st,h2.row,h2.sep,h2.oa,fun i hi g e=>up g (h2.loc i hi g e),fun g e=>up g (h2.mF g e),h.kd,h.lo⟩;rcases h.tb k hm with h3|h3
 ·exact hn h3
 have:=(Array.getElem?_eq_some_iff.1 hk).1;omega
theorem bI.congr{P':Pt}(h:bI V B bs b v vS P w)(e1:∀i,i<5->P.L i=P'.L i)(e2:P.sp=P'.sp):bI V B bs b v vS P' w:=
 ⟨h.kept,h.below,h.st,fun i hi=>by rw[<-e1 i hi];exact h.row i hi,h.sep,by rw[<-e2];exact h.oa,h.loc,h.mF,h.kd,h.lo⟩
end
theorem Bb{g' n' c':Nat}(h:Value.slice (some ⟨g,0,none⟩) n c=.slice (some ⟨g',0,none⟩) n' c'):g=g':=by
 injection h with e _ _;injection e with e;injection e
def SM(V:World)(B:Nat)(bs:List Nat)(b:Nat)(P:Pt)(e:Ending)(w':World):Prop:=∃v vS,e=.returned (.tuple #[])/\bI V B bs b v vS P w'
structure X3 (P:Pt)(x:Nat):Prop where
 b:P.b x<P.sp.length
 l2:x<(P.L 2).length
 tt:P.to x<(P.L 0).length
 fr:P.p x<(P.L 0).length
 l1:x<(P.L 1).length
 ot:P.o (P.to x)<(P.L 1).length
 n0:(P.L 0).length<=100000
 n3:(P.L 3).length<=100000
theorem UC(P:Pt)(x i:Nat)(h:i≠3):dZ P x i=P.L i:=by
 unfold dZ;split
 ·exact DK _ _ _ _ h
 rfl
theorem bI.IM{V:World}{b:Nat}{P:Pt}(h:bI V B bs b v vS P w)(i:Nat)(hi:i<5)(hv:v i=.slice (some ⟨g,0,none⟩) n c)(j x k y:Nat)(hj:j<(P.L i).length)(hk:k<(P.L i).length):
  bI V B bs b v vS ⟨fo P.L i (((P.L i).set j x).set k y),P.sp⟩ ((w.setCell ⟨g,j,none⟩ (.int .i64 (x:Int))).setCell ⟨g,k,none⟩ (.int .i64 (y:Int))):=by
 have h2:=(h.put i hi hv j x hj).put i hi hv k y (by show k<(fo P.L i ((P.L i).set j x) i).length;rw[EW,length_set];exact hk);refine h2.congr (fun l hl=>?_) rfl;show fo (fo P.L i ((P.L i).set j x)) i ((fo P.L i ((P.L i).set j x) i).set k y) l=fo P.L i (((P.L i).set j x).set k y) l;rw[EW];unfold fo;split <;> rfl
theorem zpF(V:World)(B b:Nat)(bs:List Nat)(v:Nat->Value)(vS:Value)(P:Pt)(w:World)(h:bI V B bs b v vS P w)(x:Nat)(ok:X3 P x):
  Calls prog 142 #[.pointer (some ⟨b,0,none⟩),.int .i64 (x:Int)] w (SM V B bs b (jy P x)):=by
 obtain⟨k,hk⟩:∃k,P.b x=k:=⟨_,rfl⟩
 have hkl:k<P.sp.length:=by rw[<-hk];exact ok.b
 obtain⟨nS,yc⟩:∃nS,P.sp.length=nS:=⟨_,rfl⟩
 obtain⟨g2,c2,e2,d2,_⟩:=h.num 2 (by omega) x ok.l2;obtain⟨gS,cS,eS,dS⟩:=h.span k hkl;have a2:w.cell? ⟨b,2,none⟩=some (v 2):=(h.cell 2 (by omega)).1;have aS:=h.nD.1;have dh:=(dS 2 (by omega)).1;rw[e2] at a2;rw[eS] at aS;rw[show (P.L 2).getD x 0=k from hk] at d2;obtain⟨n2,cU⟩:∃n2,(P.L 2).length=n2:=⟨_,rfl⟩
 have i2:(x:Int)<n2:=by have:=ok.l2;omega
 have iS:(k:Int)<nS:=by omega
 rw[cU] at a2;rw[yc] at aS;obtain⟨hh,BK⟩:∃hh,(P.s k).h=hh:=⟨_,rfl⟩
 have Vu:w.cell? ⟨gS,k*4+2,none⟩=some (.int .i64 (hh:Int)):=by rw[dh];show some (Value.int .i64 (((P.s k).h:Nat):Int))=_;rw[BK]
 have H:=hid h;have Hk:=hid hk;have yJ:=hid ok;have UW:=hid eS;have Fi:=hid BK;have HnS:=hid yc;clear h hk ok e2 eS dS dh cU BK yc;go_in
 go_upto_if 26 with (fail)
 go_cut [4,5] from 26 to 36 (fun v4 v5 wx=>∃v',v4=.int .i64 (k:Int)/\v5=.pointer (some ⟨gS,k*4,none⟩)/\bI V B bs b v' vS ⟨dZ P x,P.sp⟩ wx)
 case first=>
  by_cases h0:hh=0
  ·subst h0;obtain⟨q,hq⟩:∃q,(P.L 3).length=q:=(⟨_,rfl⟩);have hO:=H.out.row 3 (by omega);obtain⟨a3,c3,e3⟩:=bP hO;have a4:w.cell? ⟨b,4,none⟩=some (v 3):=(H.out.cell 3 (by omega)).1;rw[hq] at hO e3;rw[e3] at hO a4;have hq5:q<=100000:=(by have:=yJ.out.n3;omega);have hV:=H.out.hB;have qR:=hid e3;have Hq:=hid hq;obtain⟨i0,hi,dv,cP,cG⟩:=info_parts aG;have i3:(((0:Nat):Int) == 0)=true:=(by rfl);clear e3 hq;go_wp2_with (at_builtin;refine wpList_append_own_at _ rfl _ _ 27 rfl B 3 i0 (.int .i64 0) 1 8 underlying27 hi dv cP cG rfl (by decide) _ _ _ rfl (hO.alloc _) ⟨w.heap.size,0,none⟩ 1 1 [.int .i64 (k:Int)] rfl rfl (cell_one_new _ _ _) ?d2 ?d3 ?d4 ?d5 ?_)
   case d2=>intro u hu;simp at hu;subst hu;rfl
   case d3=>unfold maxLen;omega
   case d4=>omega
   case d5=>simp;omega
   intro v' w5 ah ag _ bJ;have h2:=H.out.ab (al w (.cells #[.int .i64 (k:Int)] 3));have TS:=h2.row 3 (by omega);rw[Hq.out,qR.out] at TS;have fS:=h2.st.ae TS (by decide) ag;have p3:w5.cell? ⟨b,4,none⟩=some (.slice a3 q c3):=(by rw[fS.at_];show some (v 3)=_;rw[qR.out]);have pf:=fS.bb 4;have HF:Hid (bI V B bs b (sY v 3 v') vS ⟨dZ P x,P.sp⟩ (w5.setCell ⟨b,4,none⟩ v')):=by
    have h3:=h2.app (v':=v') 3 (by omega) Hq.out ah (by rw[qR.out];exact ag) (by
     rw[show (w.alloc (.cells #[.int .i64 (k:Int)] 3)).heap.size=w.heap.size+1 by simp,qR.out]
     rcases bJ with h|h
     ·exact inl h
     ·exact inr (inl h))
    have e:dZ P x=fo P.L 3 (P.L 3++[k]):=by
     unfold dZ;rw[Hk.out,if_pos Fi.out]
    show bI V B bs b (sY v 3 v') vS ⟨dZ P x,P.sp⟩ (w5.setCell ⟨b,4,none⟩ v');rw[e];exact h3
   obtain⟨a5,c5,rfl⟩:=bP ah;clear ah ag bJ h2 TS fS hO a4 a2 aS d2 Vu;go_wp2_with fail
   go_meet
   exact⟨sY v 3 (.slice a5 (q+1) c5),rfl,rfl,HF.out⟩
  have i3:((hh:Int) == 0)=false:=by simp;omega
  have e:dZ P x=P.L:=by
   unfold dZ;rw[Hk.out,if_neg (by rw[Fi.out];exact h0)]
  have HF:Hid (bI V B bs b v vS ⟨dZ P x,P.sp⟩ w):=by
   show bI V B bs b v vS ⟨dZ P x,P.sp⟩ w;rw[e];exact H.out
  clear e h0;go_wp2_with fail
  go_meet
  exact⟨v,rfl,rfl,HF.out⟩
 case rest=>
  obtain⟨v',rfl,rfl,h⟩:=hcut;have Dp:=UW;clear a2 aS d2 Vu i2 UW;obtain⟨f,hf⟩:∃f,(P.s k).f=f:=⟨_,rfl⟩
  obtain⟨tt,yq⟩:∃tt,P.to x=tt:=⟨_,rfl⟩
  obtain⟨fr,sG⟩:∃fr,P.p x=fr:=⟨_,rfl⟩
  obtain⟨ot,Lt⟩:∃ot,P.o tt=ot:=⟨_,rfl⟩
  have Ab:f+hh=tt:=by rw[<-yq,<-hf,<-Fi.out,<-Hk.out];rfl
  have h0:=UC P x 0 (by omega);have h1:=UC P x 1 (by omega);have tl:=yJ.out.tt;have fl:=yJ.out.fr;have xl:=yJ.out.l1;have ol:=yJ.out.ot;have n0:=yJ.out.n0;rw[yq] at tl ol;rw[Lt] at ol;rw[sG] at fl;obtain⟨g0,c0,e0,y0,z0⟩:=h.num 0 (by omega) tt (by show tt<(dZ P x 0).length;rw[h0];exact tl);obtain⟨_,_,N4,Nn,XA⟩:=h.num 0 (by omega) fr (by show fr<(dZ P x 0).length;rw[h0];exact fl);obtain⟨g1,c1,e1,y1,z1⟩:=h.num 1 (by omega) x (by show x<(dZ P x 1).length;rw[h1];exact xl);obtain⟨_,_,ND,y1',z1'⟩:=h.num 1 (by omega) ot (by show ot<(dZ P x 1).length;rw[h1];exact ol);obtain⟨L0,cS',Qb,PD⟩:=h.span k (by show k<P.sp.length;rw[HnS.out];omega);obtain rfl:L0=gS:=by
   have:=Dp.out;rw[this] at Qb;exact (Bb Qb).symm
  have b0:wc.cell? ⟨b,0,none⟩=some (v' 0):=(h.cell 0 (by omega)).1;have b1:wc.cell? ⟨b,1,none⟩=some (v' 1):=(h.cell 1 (by omega)).1;obtain⟨m0,pe⟩:∃m0,(P.L 0).length=m0:=⟨_,rfl⟩
  obtain⟨m1,jd⟩:∃m1,(P.L 1).length=m1:=⟨_,rfl⟩
  have s0:wc.cell? ⟨L0,k*4,none⟩=some (.int .i64 (f:Int)):=by
   have:=(PD 0 (by omega)).1;rw[<-hf];exact this
  have s2:wc.cell? ⟨L0,k*4+2,none⟩=some (.int .i64 (hh:Int)):=by
   have:=(PD 2 (by omega)).1;rw[<-Fi.out];exact this
  have F7:(⟨dZ P x,P.sp⟩:Pt).L 0=P.L 0:=h0;have tX:(⟨dZ P x,P.sp⟩:Pt).L 1=P.L 1:=h1;rw[F7] at e0 N4 y0 Nn;rw[tX] at e1 ND y1 y1';rw[e0] at N4 b0;rw[e1] at ND b1;obtain⟨rfl,_⟩:g0=_/\True:=⟨Bb N4,trivial⟩
  obtain⟨rfl,_⟩:g1=_/\True:=⟨Bb ND,trivial⟩
  rw[pe] at b0 tl fl n0;rw[jd] at b1 xl ol;rw[show (P.L 0).getD tt 0=ot from Lt] at y0;rw[show (P.L 1).getD x 0=fr from sG] at y1;clear y1' N4 ND PD;have i0:(tt:Int)<m0:=by omega
  have i1:(fr:Int)<m0:=by omega
  have i4:(x:Int)<m1:=by omega
  have i5:(ot:Int)<m1:=by omega
  have its:(f:Int)+(hh:Int)=tt:=by omega
  have HL:=hid (Zz F7 (Zz tX (Zz e0 (Zz e1 (Zz pe (Zz jd (Zz yq (Zz sG Lt))))))));have HP:=hid h;clear F7 tX e0 e1 pe jd yq sG Lt h Ab h0 h1 hf Qb;go_upto_region 4 with fail;go_quiet (fail);go_upto_region 6 with fail;obtain⟨xf,Yt⟩:∃xf,(P.L 0).getD fr 0=xf:=⟨_,rfl⟩
  rw[Yt] at Nn;obtain⟨W6,tj,t0,t1,t2,t3,t4,WC⟩:∃W6,wc.drewN nq=W6/\W6.cell? ⟨b,0,none⟩=some (.slice (some ⟨g0,0,none⟩) m0 c0)/\W6.cell? ⟨g0,tt,none⟩=some (.int .i64 (ot:Int))/\W6.frozen? ⟨g0,tt,none⟩=false/\W6.frozen? ⟨g0,fr,none⟩=false/\
    W6.cell? ⟨g0,fr,none⟩=some (.int .i64 (xf:Int))/\Hid (bI V B bs b v' vS ⟨dZ P x,P.sp⟩ W6):=⟨_,rfl,b0,y0,z0,XA,Nn,HP.out.ab (below_drewN (Below.refl _ _) nq)⟩
  rw[tj];clear tj Yt b0 b1 s0 s2 y0 y1 z0 z1 XA z1' Nn HP;obtain⟨xg,t5⟩:=cell?_setCell_some (w:=W6) (p:=⟨g0,tt,none⟩) (x:=.int .i64 (x:Int)) (q:=⟨g0,fr,none⟩) t4
  go_region
  have yt:(P.L 0).length=m0/\(P.L 1).length=m1:=⟨HL.out.2.2.2.2.1,HL.out.2.2.2.2.2.1⟩
  have Gm:dZ P x 0=P.L 0:=HL.out.1;have LO:dZ P x 1=P.L 1:=HL.out.2.1;obtain⟨L7,Qc,e7⟩:∃L7,fo (dZ P x) 0 (((P.L 0).set tt x).set fr ot)=L7/\L7 1=P.L 1:=⟨_,rfl,by rw[DK _ _ _ _ (by omega),LO]⟩
  have Ld:bI V B bs b v' vS ⟨L7,P.sp⟩ ((W6.setCell ⟨g0,tt,none⟩ (.int .i64 (x:Int))).setCell ⟨g0,fr,none⟩ (.int .i64 (ot:Int))).drew:=by
   have q1:=(WC.out.IM 0 (by omega) HL.out.2.2.1 tt x fr ot (by show tt<(dZ P x 0).length;rw[Gm,yt.1];exact tl) (by show fr<(dZ P x 0).length;rw[Gm,yt.1];exact fl)).ab (Below.refl _ _).drew;have e:fo (dZ P x) 0 (((dZ P x 0).set tt x).set fr ot)=L7:=(by rw[Gm];exact Qc);have q2:bI V B bs b v' vS ⟨fo (dZ P x) 0 (((dZ P x 0).set tt x).set fr ot),P.sp⟩ _:=q1;rw[e] at q2;exact q2
  clear t0 t1 t2 t3 t4 t5 WC;have WX:x<(L7 1).length:=by rw[e7,yt.2];exact xl
  have Xp:ot<(L7 1).length:=by rw[e7,yt.2];exact ol
  have u1:World.cell? _ ⟨b,1,none⟩=some (v' 1):=(Ld.cell 1 (by omega)).1;obtain⟨_,_,w1,w2,w3⟩:=Ld.num 1 (by omega) x WX;obtain⟨_,_,x1,x2,x3⟩:=Ld.num 1 (by omega) ot Xp;have QS:v' 1=.slice (some ⟨g1,0,none⟩) m1 c1:=by rw[HL.out.2.2.2.1,yt.2]
  rw[QS] at w1 x1 u1;replace w1:=Bb w1;replace x1:=Bb x1;rw[<-w1] at w2 w3;rw[<-x1] at x2 x3;clear w1 x1;have IE:=ξ Qc e7 QS;have V2:=ξ yt Gm LO;clear Qc e7 QS yt Gm LO WX Xp;have Xn:=hid Ld;clear Ld;generalize ((W6.setCell ⟨g0,tt,none⟩ (.int .i64 (x:Int))).setCell ⟨g0,fr,none⟩ (.int .i64 (ot:Int))).drew=W7 at Xn u1 w2 w3 x2 x3⊢;replace w2:∃ya,W7.cell? ⟨g1,x,none⟩=some (.int .i64 ((ya:Nat):Int)):=⟨_,w2⟩
  replace x2:∃ya,W7.cell? ⟨g1,ot,none⟩=some (.int .i64 ((ya:Nat):Int)):=⟨_,x2⟩
  obtain⟨ya,w2⟩:=w2;obtain⟨yb,x2⟩:=x2;obtain⟨xg,t5⟩:=cell?_setCell_some (w:=W7) (p:=⟨g1,x,none⟩) (x:=.int .i64 (tt:Int)) (q:=⟨g1,ot,none⟩) x2;go_upto_region 7 with fail
  go_region
  have ES:bI V B bs b v' vS ⟨fo L7 1 (((P.L 1).set x tt).set ot fr),P.sp⟩ ((W7.setCell ⟨g1,x,none⟩ (.int .i64 (tt:Int))).setCell ⟨g1,ot,none⟩ (.int .i64 (fr:Int))).drew:=by
   have q1:=(Xn.out.IM 1 (by omega) IE.out.2.2 x tt ot fr (by show x<(L7 1).length;rw[IE.out.2.1,V2.out.1.2];exact xl) (by show ot<(L7 1).length;rw[IE.out.2.1,V2.out.1.2];exact ol)).ab (Below.refl _ _).drew;have q2:bI V B bs b v' vS ⟨fo L7 1 (((L7 1).set x tt).set ot fr),P.sp⟩ _:=q1;rw[IE.out.2.1] at q2;exact q2
  clear u1 w2 w3 x2 x3 t5;obtain⟨_,cX,x1,x2⟩:=ES.span k hkl;have gY:=Dp.out;rw[gY] at x1;replace x1:=Bb x1;have y2:World.cell? _ ⟨_,k*4+2,none⟩=some (.int .i64 (((P.s k).h:Nat):Int)):=(x2 2 (by omega)).1;have y3:=(x2 2 (by omega)).2;rw[<-x1,Fi.out] at y2;rw[<-x1] at y3;clear x1 x2 gY;have Uw:=hid ES;clear ES;generalize ((W7.setCell ⟨g1,x,none⟩ (.int .i64 (tt:Int))).setCell ⟨g1,ot,none⟩ (.int .i64 (fr:Int))).drew=W8 at Uw y2 y3⊢;have eQ:(hh:Int)<=100000:=by omega
  have HF:Hid (bI V B bs b v' vS (jy P x) (W8.setCell ⟨L0,k*4+2,none⟩ (.int .i64 ((hh:Int)+1)))):=by
   have q:=Uw.out.xF Dp.out k 2 ⟨(P.s k).f,(P.s k).g,(P.s k).h+1,(P.s k).w⟩ hkl (by omega) (fun k' hk' hn=>by
    have:k'=0\/k'=1\/k'=3:=by omega
    rcases this with rfl|rfl|rfl <;> rfl)
   have e1:gW ⟨(P.s k).f,(P.s k).g,(P.s k).h+1,(P.s k).w⟩ 2=.int .i64 ((hh:Int)+1):=by
    show Value.int .i64 (((P.s k).h+1:Nat):Int)=_;rw[Fi.out];rfl
   rw[e1] at q;refine q.congr (fun i hi=>?_) ?_
   ·show fo L7 1 (((P.L 1).set x tt).set ot fr) i=fo (fo (dZ P x) 0 (((P.L 0).set (P.to x) x).set (P.p x) (P.o (P.to x)))) 1 (((P.L 1).set x (P.to x)).set (P.o (P.to x)) (P.p x)) i;rw[HL.out.2.2.2.2.2.2.1,HL.out.2.2.2.2.2.2.2.1,HL.out.2.2.2.2.2.2.2.2,IE.out.1]
   show P.sp.set k _=P.sp.set (P.b x) _;rw[Hk.out]
  go_wp2_with fail;go_end0;exact⟨v',vS,rfl,HF.out⟩
section
variable {V : World}{B b : Nat}{bs : List Nat}{v : Nat → Value}{vS : Value}{P : Pt}{w : World}
theorem bI.c0(h:bI V B bs b v vS P w):w.cell? ⟨b,0,none⟩=some (v 0)/\w.frozen? ⟨b,0,none⟩=false:=h.cell 0 (by omega)
theorem bI.c1(h:bI V B bs b v vS P w):w.cell? ⟨b,1,none⟩=some (v 1)/\w.frozen? ⟨b,1,none⟩=false:=h.cell 1 (by omega)
theorem bI.c2(h:bI V B bs b v vS P w):w.cell? ⟨b,2,none⟩=some (v 2)/\w.frozen? ⟨b,2,none⟩=false:=h.cell 2 (by omega)
theorem bI.c3(h:bI V B bs b v vS P w):w.cell? ⟨b,4,none⟩=some (v 3)/\w.frozen? ⟨b,4,none⟩=false:=h.cell 3 (by omega)
theorem bI.c4(h:bI V B bs b v vS P w):w.cell? ⟨b,5,none⟩=some (v 4)/\w.frozen? ⟨b,5,none⟩=false:=h.cell 4 (by omega)
structure zpG (w:World)(g k:Nat)(s:nV):Prop where
 cf:w.cell? ⟨g,k*4,none⟩=some (.int .i64 (s.f:Int))
 cg:w.cell? ⟨g,k*4+1,none⟩=some (.int .i64 (s.g:Int))
 ch:w.cell? ⟨g,k*4+2,none⟩=some (.int .i64 (s.h:Int))
 cw:w.cell? ⟨g,k*4+3,none⟩=some (.bool s.w)
 z0:w.frozen? ⟨g,k*4,none⟩=false
 z2:w.frozen? ⟨g,k*4+2,none⟩=false
 z3:w.frozen? ⟨g,k*4+3,none⟩=false
theorem bI.BI(h:bI V B bs b v vS P w)(hv:vS=.slice (some ⟨g,0,none⟩) n c)(j:Nat)(hj:j<P.sp.length):zpG w g j (P.s j):=by
 obtain⟨g',c',e,hc⟩:=h.span j hj;rw[hv] at e;obtain rfl:=Bb e;exact⟨(hc 0 (by omega)).1,(hc 1 (by omega)).1,(hc 2 (by omega)).1,(hc 3 (by omega)).1,(hc 0 (by omega)).2,(hc 2 (by omega)).2,(hc 3 (by omega)).2⟩
theorem bI.Ut(h:bI V B bs b v vS P w)(i:Nat)(hi:i<5)(hv:v i=.slice (some ⟨g,0,none⟩) n c)(j:Nat)(hj:j<(P.L i).length):w.cell? ⟨g,j,none⟩=some (.int .i64 (((P.L i).getD j 0:Nat):Int))/\w.frozen? ⟨g,j,none⟩=false:=by
 obtain⟨g',c',e,hc⟩:=h.num i hi j hj;rw[hv] at e;obtain rfl:=Bb e;exact hc
theorem bI.sl(h:bI V B bs b v vS P w)(i:Nat)(hi:i<5)(hq:(P.L i).length=q)(h0:0<q):∃g c,v i=.slice (some ⟨g,0,none⟩) q c:=by
 obtain⟨g,c,e,_⟩:=h.num i hi 0 (by omega);exact⟨g,c,by rw[e,hq]⟩
theorem bI.Ts(h:bI V B bs b v vS P w)(hq:P.sp.length=q)(h0:0<q):∃g c,vS=.slice (some ⟨g,0,none⟩) q c:=by
 obtain⟨g,c,e,_⟩:=h.span 0 (by omega);exact⟨g,c,by rw[e,hq]⟩
theorem bI.EB(h:bI V B bs b v vS P w)(i:Nat)(hi:i<5)(hq:(P.L i).length=q):∃a c,v i=.slice a q c:=by
 obtain⟨a,c,e⟩:=bP (h.row i hi);exact⟨a,c,by rw[e,hq]⟩
end
theorem zng{α:Type}(l:List α)(k:Nat)(a c:α):(l.set k a).set k c=l.set k c:=by simp
theorem Pt.rD(L:Nat->List Nat)(sp:List nV)(k j:Nat)(s:nV)(hk:k<sp.length):(⟨L,sp.set k s⟩:Pt).s j=if k=j then s else sp.getD j mc:=by
 show (sp.set k s).getD j mc=_;rw[yk];by_cases e:k=j
 ·rw[if_pos ⟨e,hk⟩,if_pos e]
 rw[if_neg (fun h=>e h.1),if_neg e]
def zpJ(V:World)(B:Nat)(bs:List Nat)(b:Nat)(v0:Nat->Value)(P:Pt)(e:Ending)(w':World):Prop:=∃v vS,e=.returned (.tuple #[])/\v 3=v0 3/\bI V B bs b v vS P w'
structure VU (P:Pt)(k:Nat):Prop where
 b:k<P.sp.length
 fg:(P.s k).f<=(P.s k).g
 h:(P.s k).f+(P.s k).h<=(P.s k).g
 g:(P.s k).g<=(P.L 0).length
 part:∀x∈P.part k,x<(P.L 2).length
 n0:(P.L 0).length<=100000
 ns:P.sp.length<=100000
 n4:(P.L 4).length<=100000
theorem sJ:(prog.info? 190).map (fun i=>(i.zero,i.size,i.bytes))=some (some (.agg #[.int .i64 0,.int .i64 0,.int .i64 0,.bool false]),4,32):=by kernel_rfl
theorem zhI(l xs:List Nat)(x n:Nat):ca l (xs++[x]) n=(ca l xs n).set x n:=by simp[ca,List.foldl_append]
theorem zpK(P:Pt)(k j:Nat)(hj:j<(P.s k).h):(P.part k).getD j 0=(P.L 0).getD ((P.s k).f+j) 0:=by
 unfold Pt.part;rw[List.getD_eq_getElem?_getD,List.getElem?_take_of_lt hj,List.getElem?_drop,List.getD_eq_getElem?_getD]
theorem Ly(l:List Nat)(j:Nat)(h:j<l.length):l.take (j+1)=l.take j++[l.getD j 0]:=by
 rw[List.take_add_one,List.getElem?_eq_getElem h,pH _ _ _ h];rfl
theorem zpL(V:World)(B b:Nat)(bs:List Nat)(v:Nat->Value)(vS:Value)(P:Pt)(w:World)(h:bI V B bs b v vS P w)(k:Nat)(ok:VU P k):
  Calls prog 143 #[.pointer (some ⟨b,0,none⟩),.int .i64 (k:Int)] w (zpJ V B bs b v (cW P k)):=by
 have hkl:=ok.b;obtain⟨nS,yc⟩:∃nS,P.sp.length=nS:=⟨_,rfl⟩
 obtain⟨gS,cS,eS⟩:=h.Ts yc (by omega);have aS:=h.nD.1;obtain⟨f,hf⟩:∃f,(P.s k).f=f:=⟨_,rfl⟩
 obtain⟨g,hg⟩:∃g,(P.s k).g=g:=⟨_,rfl⟩
 obtain⟨hh,BK⟩:∃hh,(P.s k).h=hh:=⟨_,rfl⟩
 obtain⟨wt,DO⟩:∃wt,(P.s k).w=wt:=⟨_,rfl⟩
 obtain⟨d1,d2,d3,d4,d5,d6,d7⟩:=h.BI eS k hkl;rw[hf] at d1;rw[hg] at d2;rw[BK] at d3;rw[DO] at d4;rw[eS] at aS;have o1:=ok.fg;have o2:=ok.h;have o3:=ok.g;have o4:=ok.n0;rw[hf,hg] at o1;rw[hf,BK,hg] at o2;rw[hg] at o3;have iS:(k:Int)<nS:=by omega
 have h1:=h.xF eS k 2 ⟨f,g,0,wt⟩ hkl (by omega) (fun k' hk' hn=>by
  have:k'=0\/k'=1\/k'=3:=by omega
  rcases this with rfl|rfl|rfl
  ·show gW _ 0=Value.int .i64 (((P.s k).f:Nat):Int);rw[hf];rfl
  ·show gW _ 1=Value.int .i64 (((P.s k).g:Nat):Int);rw[hg];rfl
  ·show gW _ 3=Value.bool (P.s k).w;rw[DO];rfl)
 replace h1:bI V B bs b v vS ⟨P.L,P.sp.set k ⟨f,g,0,wt⟩⟩ (w.setCell ⟨gS,k*4+2,none⟩ (.int .i64 0)):=h1;obtain⟨x1,x2,x3,x4,x5,x6,x7⟩:=h1.BI eS k (by simpa using hkl);rw[Pt.rD _ _ _ _ _ hkl,if_pos rfl] at x1 x2 x3 x4;have HS:=hid (Zz hf (Zz hg (Zz BK (Zz DO (Zz eS yc)))));have H1:=hid h1;have yJ:=hid ok;have i1:(g:Int)-(f:Int)<=100000:=by omega
 have i2:0<=(g:Int)-(f:Int):=by omega
 clear h ok hf hg BK DO eS yc h1;go_in;go_upto_region 3 with fail;generalize w.setCell ⟨gS,k*4+2,none⟩ (.int .i64 0)=W1 at H1 x1 x2 x3 x4 x5 x6 x7⊢;clear d1 d2 d3 d4 d5 d6 d7 aS;by_cases nz:hh=g-f
 ·have hq:((hh:Int) == (g:Int)-(f:Int))=true:=by rw[beq_iff_eq];omega
  have HF:Hid (bI V B bs b v vS (cW P k) W1):=by
   show bI V B bs b v vS (cW P k) W1;have e:cW P k=⟨P.L,P.sp.set k ⟨f,g,0,wt⟩⟩:=by
    unfold cW;rw[HS.out.1,HS.out.2.1,HS.out.2.2.1,HS.out.2.2.2.1,if_pos nz]
   rw[e];exact H1.out
  clear nz;go_quiet (fail);go_wp2_with fail;refine bodyPost_ret (results_none rfl _ _ _) rfl ?_;exact⟨v,vS,rfl,rfl,HF.out.ab (below_drewN (Below.refl _ _) _)⟩
 have hq:((hh:Int) == (g:Int)-(f:Int))=false:=by rw[beq_eq_false_iff_ne];omega
 have xT:=hid nz;clear nz;go_quiet (fail);go_upto_region 4 with fail;generalize kq:W1.drewN _=W2;have H2:Hid (bI V B bs b v vS ⟨P.L,P.sp.set k ⟨f,g,0,wt⟩⟩ W2):=by rw[<-kq];exact H1.out.ab (below_drewN (Below.refl _ _) _)
 replace x1:W2.cell? ⟨gS,k*4,none⟩=some (.int .i64 (f:Int)):=by rw[<-kq];exact x1
 have wW:gS<W2.heap.size:=by
  have:=lZ H2.out.oa gS (by rw[HS.out.2.2.2.2.1];rfl);exact this
 have x1a:(W2.alloc (.cells #[.int .i64 0,.int .i64 0,.int .i64 0,.bool false] 190)).cell? ⟨gS,k*4,none⟩=some (.int .i64 (f:Int)):=((al W2 (.cells #[.int .i64 0,.int .i64 0,.int .i64 0,.bool false] 190)).cell (p:=⟨gS,k*4,none⟩) wW).trans x1;clear kq H1 x2 x3 x4 x5 x6 x7 hq;obtain⟨fh,Ws⟩:∃fh,f+hh=fh:=⟨_,rfl⟩
 have Kq:=hid Ws;have its:(f:Int)+(hh:Int)=fh:=by omega
 have o5:fh<=g:=by omega
 have o6:f<=fh:=by omega
 have o7:fh<(P.L 0).length:=by have:=xT.out;omega
 have w1:(fh:Int)<=100000:=by omega
 clear Ws
 go_region
 obtain⟨bC,P6⟩:∃bC,W2.heap.size=bC:=⟨_,rfl⟩
 have MF:St (W2.alloc (.cells #[.int .i64 (f:Int),.int .i64 (fh:Int),.int .i64 0,.bool false] 190)).drew 190 bC #[.int .i64 (f:Int),.int .i64 (fh:Int),.int .i64 0,.bool false]:=by rw[<-P6];exact (St.new W2 _ _).drew
 have Lk:bI V B bs b v vS ⟨P.L,P.sp.set k ⟨f,g,0,wt⟩⟩ (W2.alloc (.cells #[.int .i64 (f:Int),.int .i64 (fh:Int),.int .i64 0,.bool false] 190)).drew:=(H2.out.ab (al W2 _)).ab (Below.refl _ _).drew;rw[P6] at wW⊢;generalize (W2.alloc (.cells #[.int .i64 (f:Int),.int .i64 (fh:Int),.int .i64 0,.bool false] 190)).drew=W4 at MF Lk⊢;clear P6 H2 x1 x1a;obtain⟨x1,x2,x3,x4,x5,x6,x7⟩:=Lk.BI HS.out.2.2.2.2.1 k (by simpa using hkl);rw[Pt.rD _ _ _ _ _ hkl,if_pos rfl] at x1;obtain⟨y0,y1,y2,y3⟩:=MF.bZ;have pa:=Lk.xF HS.out.2.2.2.2.1 k 0 ⟨fh,g,0,wt⟩ (by simpa using hkl) (by omega) (fun k' hk' hn=>by
  rw[Pt.rD _ _ _ _ _ hkl,if_pos rfl]
  have:k'=1\/k'=2\/k'=3:=by omega
  rcases this with rfl|rfl|rfl <;> rfl)
 rw[zng] at pa;replace pa:bI V B bs b v vS ⟨P.L,P.sp.set k ⟨fh,g,0,wt⟩⟩ (W4.setCell ⟨gS,k*4,none⟩ (.int .i64 (fh:Int))):=pa;have Y6:St (W4.setCell ⟨gS,k*4,none⟩ (.int .i64 (fh:Int))) 190 bC #[.int .i64 (f:Int),.int .i64 (fh:Int),.int .i64 0,.bool false]:=MF.fK (p:=⟨gS,k*4,none⟩) (fun e=>by
  have:bC=gS:=e
  omega) _
 have H5:=ζ pa Y6;clear Lk MF pa Y6;go_upto_region 6 with fail;generalize W4.setCell ⟨gS,k*4,none⟩ (.int .i64 (fh:Int))=W5 at H5⊢;clear x1 x2 x3 x4 x5 x6 x7 y0 y1 y2 y3 wW;have aS:=H5.out.1.nD.1;rw[HS.out.2.2.2.2.1] at aS;obtain⟨m0,pe⟩:∃m0,(P.L 0).length=m0:=⟨_,rfl⟩
 rw[pe] at o3 o4 o7;obtain⟨g0,c0,e0⟩:=H5.out.1.sl 0 (by omega) pe (by omega);have b0:=H5.out.1.c0.1;rw[e0] at b0;have pT:m0<=c0:=by
  have ho:=H5.out.1.row 0 (by omega);rw[e0] at ho;rcases ho.2 with ⟨h1,_⟩|⟨_,cap,_,h1,_,_,h2,_⟩
  ·cases h1
  injection h1 with _ e1 e2;have h3:(P.L 0).length<=cap:=h2;omega
 obtain⟨y0,y1,y2,y3⟩:=H5.out.2.bZ;have Tf:=ζ e0 pe;clear e0 pe;have p1:(fh:Int)<=c0:=by omega
 have p2:(f:Int)<=fh:=by omega
 have p3:(f:Int)<c0:=by omega
 have hn:fh-f=hh:=by have:=Kq.out;omega
 go_upto_region 7 with fail;go_quiet (fail);generalize tj:W5.drewN _=W6;have H6:Hid (bI V B bs b v vS ⟨P.L,P.sp.set k ⟨fh,g,0,wt⟩⟩ W6/\St W6 190 bC #[.int .i64 (f:Int),.int .i64 (fh:Int),.int .i64 0,.bool false]):=by rw[<-tj];exact⟨H5.out.1.ab (below_drewN (Below.refl _ _) _),H5.out.2⟩
 clear tj H5 y0 y1 y2 y3 b0 aS;have vl:(P.part k).length=hh:=by
  unfold Pt.part;rw[HS.out.1,HS.out.2.2.1,length_take,List.length_drop,Tf.out.2];have:=Kq.out;omega
 have Q4:=hid vl;clear vl;go_wp2_with fail;clear hn;go_loopw [9,65] (fun _ vj wr=>∃j:Nat,vj=.int .i64 j/\j<=hh/\Hid (bI V B bs b v vS ⟨fo P.L 2 (ca (P.L 2) ((P.part k).take j) nS),P.sp.set k ⟨fh,g,0,wt⟩⟩ wr/\St wr 190 bC #[.int .i64 (f:Int),.int .i64 (fh:Int),.int .i64 0,.bool false])) (fun _ v _=>hh-(intOf v).toNat)
 ·refine⟨0,rfl,zero_le _,H6.out.1.congr (fun i hi=>?_) rfl,H6.out.2⟩;show P.L i=fo P.L 2 (ca (P.L 2) ((P.part k).take 0) nS) i;rw[List.take_zero];unfold fo ca;split
  ·rename_i e;rw[e];rfl
  rfl
 clear H6;obtain⟨j,rfl,hj,HL⟩:=hrel;by_cases aq:j<hh
 ·obtain⟨x,hx⟩:∃x,(P.part k).getD j 0=x:=⟨_,rfl⟩
  have hxl:x<(P.L 2).length:=by
   rw[<-hx,pH _ _ _ (by rw[Q4.out];exact aq)];exact yJ.out.part _ (getElem_mem _)
  have lE:(P.L 0).getD (f+j) 0=x:=by
   rw[<-hx,zpK P k j (by rw[HS.out.2.2.1];exact aq),HS.out.1]
  obtain⟨L8,Jv⟩:∃L8,fo P.L 2 (ca (P.L 2) ((P.part k).take j) nS)=L8:=⟨_,rfl⟩
  have l0:L8 0=P.L 0:=by rw[<-Jv];exact DK _ _ _ _ (by omega)
  have l2:L8 2=ca (P.L 2) ((P.part k).take j) nS:=by rw[<-Jv];exact EW _ _ _
  have hP:bI V B bs b v vS ⟨L8,P.sp.set k ⟨fh,g,0,wt⟩⟩ wr:=by rw[<-Jv];exact HL.out.1
  have hC:=HL.out.2;have r0:=(hP.Ut 0 (by omega) (g:=g0) (n:=m0) (c:=c0) Tf.out.1 (f+j) (by show f+j<(L8 0).length;rw[l0,Tf.out.2];have:=Kq.out;omega)).1;replace r0:wr.cell? ⟨g0,f+j,none⟩=some (.int .i64 (((L8 0).getD (f+j) 0:Nat):Int)):=r0;rw[l0,lE] at r0;obtain⟨n2,cU⟩:∃n2,(P.L 2).length=n2:=⟨_,rfl⟩
  have Vj:(L8 2).length=n2:=by rw[l2,We];exact cU
  rw[cU] at hxl;obtain⟨g2,c2,e2⟩:=hP.sl 2 (by omega) (q:=n2) Vj (by omega);have b2:=hP.c2.1;rw[e2] at b2;obtain⟨r1,r2⟩:=hP.Ut 2 (by omega) e2 x (by show x<(L8 2).length;omega);have HN:Hid (bI V B bs b v vS ⟨fo P.L 2 (ca (P.L 2) ((P.part k).take (j+1)) nS),P.sp.set k ⟨fh,g,0,wt⟩⟩ (wr.setCell ⟨g2,x,none⟩ (.int .i64 (nS:Int)))/\St (wr.setCell ⟨g2,x,none⟩ (.int .i64 (nS:Int))) 190 bC #[.int .i64 (f:Int),.int .i64 (fh:Int),.int .i64 0,.bool false]):=by
   have q:=hP.put 2 (by omega) e2 x nS (by show x<(L8 2).length;omega);refine⟨q.congr (fun i hi=>?_) rfl,hC.fK (p:=⟨g2,x,none⟩) (fun e=>?_) _⟩
   ·show fo L8 2 ((L8 2).set x nS) i=fo P.L 2 (ca (P.L 2) ((P.part k).take (j+1)) nS) i;rw[l2,Ly _ _ (by rw[Q4.out];exact aq),hx,zhI,<-Jv];unfold fo;split <;> rfl
   have ho:=hP.row 2 (by omega);have e9:bC=g2:=e;exact eB ho hC (by decide) g2 (by rw[e2];rfl) e9.symm
  obtain⟨yb,r3⟩:∃yb,wr.cell? ⟨g2,x,none⟩=some (.int .i64 ((yb:Nat):Int)):=⟨_,r1⟩
  have i3:(x:Int)<n2:=by omega
  have i4:(j:Int)<hh:=by omega
  clear hx lE Jv l0 l2 hP hC cU Vj e2 r1;go_wp2;go_roundw
  ·exact⟨j+1,by go_num,by omega,HN.out⟩
  simp[intOf];omega
 obtain rfl:j=hh:=by omega
 have hP:bI V B bs b v vS ⟨fo P.L 2 (ca (P.L 2) (P.part k) nS),P.sp.set k ⟨fh,g,0,wt⟩⟩ wr:=by
  have:=HL.out.1;rw[List.take_of_length_le (by rw[Q4.out];exact le_refl _)] at this;exact this
 have H9:=ζ hP HL.out.2;obtain⟨bk,r9⟩:∃bk,P.gG k=bk:=⟨_,rfl⟩
 have s6:bk=if wt=true\/j<=g-fh then nS else k:=by
  rw[<-r9];unfold Pt.gG;rw[HS.out.1,HS.out.2.1,HS.out.2.2.1,HS.out.2.2.2.1,HS.out.2.2.2.2.2,Kq.out]
 have Yv:=hid r9;obtain⟨x1,x2,_,x4,_,_,_⟩:=hP.BI HS.out.2.2.2.2.1 k (by show k<(P.sp.set k _).length;rw[length_set];exact hkl);rw[Pt.rD _ _ _ _ _ hkl,if_pos rfl] at x1 x2 x4;clear hP r9 HL;go_upto_region 12 with fail;obtain⟨q,hq⟩:∃q:Bool,decide (wt=true\/j<=g-fh)=q:=⟨_,rfl⟩
 have Hq:=hid hq
 go_cut [93] from 77 to 92 (fun v93 wx=>v93=.bool q/\bI V B bs b v vS ⟨fo P.L 2 (ca (P.L 2) (P.part k) nS),P.sp.set k ⟨fh,g,0,wt⟩⟩ wx/\St wx 190 bC #[.int .i64 (f:Int),.int .i64 (fh:Int),.int .i64 0,.bool false])
 case first=>
  have q1:(g:Int)-(fh:Int)<=100000:=by omega
  have q2:0<=(g:Int)-(fh:Int):=by omega
  rcases hw:wt with _|_
  ·rw[hw] at x4;by_cases hle:j<=g-fh
   ·have hd:decide ((j:Int)<=g-(fh:Int))=true:=(by rw[decide_eq_true_iff];omega);have He:Hid (q=true):=(by show _=_;rw[<-hq];simp[hle]);clear s6 hw hle hq;go_quiet (fail);go_wp2_with fail
    go_meet
    exact⟨by rw[He.out],H9.out.1.ab (below_drewN (Below.refl _ _) _),H9.out.2⟩
   have hd:decide ((j:Int)<=g-(fh:Int))=false:=(by rw[decide_eq_false_iff_not];omega);have He:Hid (q=false):=(by show _=_;rw[<-hq,hw];simp;omega);clear s6 hw hle hq;go_quiet (fail);go_wp2_with fail
   go_meet
   exact⟨by rw[He.out],H9.out.1.ab (below_drewN (Below.refl _ _) _),H9.out.2⟩
  rw[hw] at x4;have He:Hid (q=true):=by show _=_;rw[<-hq];simp[hw]
  clear s6 hw hq;go_quiet (fail);go_wp2_with fail
  go_meet
  exact⟨by rw[He.out],H9.out.1.ab (below_drewN (Below.refl _ _) _),H9.out.2⟩
 case rest=>
  obtain⟨rfl,hP,hC⟩:=hcut;clear x1 x2 x4 H9;have tN:=ζ hP hC;clear hP hC;have Ea:=hid s6;clear s6 hq
  go_upto_if 93 with (fail)
  go_cut [1] from 93 to 94 (fun v1 wx=>v1=.int .i64 (bk:Int)/\wx=wc)
  case first=>
   rcases q with _|_
   ·have He:Hid (bk=k):=(by show _=_;rw[Ea.out,if_neg (by have:=Hq.out;rw[decide_eq_false_iff_not] at this;exact this)]);go_wp2_with fail
    go_meet
    exact⟨by rw[He.out],rfl⟩
   have He:Hid (bk=nS):=(by show _=_;rw[Ea.out,if_pos (by have:=Hq.out;rw[decide_eq_true_iff] at this;exact this)]);go_wp2_with fail
   go_meet
   exact⟨by rw[He.out],rfl⟩
  case rest=>
   obtain⟨rfl,rfl⟩:=hcut;have Dr:bk<nS+1:=(by rw[Ea.out];split <;> omega);have Hns:Hid ((P.sp.set k ⟨fh,g,0,wt⟩).length=nS):=(by show _=_;rw[length_set];exact HS.out.2.2.2.2.2);have hO:=tN.out.1.oa;replace hO:ownsRow wc B 190 4 vS (P.sp.set k ⟨fh,g,0,wt⟩).length (qE (P.sp.set k ⟨fh,g,0,wt⟩)):=hO;rw[Hns.out,HS.out.2.2.2.2.1] at hO;have aS:=tN.out.1.nD.1;rw[HS.out.2.2.2.2.1] at aS;obtain⟨i0,hi,dv,cP,cG⟩:=info_parts sJ;obtain⟨y0,y1,y2,y3⟩:=tN.out.2.bZ;have CX:=tN.out.1.st;have Se:(wc.alloc (.cells #[.int .i64 (f:Int),.int .i64 (fh:Int),.int .i64 0,.bool false] 190)).cell? ⟨b,3,none⟩=some (.slice (some ⟨gS,0,none⟩) nS cS):=((al wc _).cell (p:=⟨b,3,none⟩) CX.lt).trans aS;have hV:=tN.out.1.hB;have ns9:nS<=100000:=(by have:=yJ.out.ns;rw[HS.out.2.2.2.2.2] at this;exact this);have DP:=hid CX;clear CX;go_upto_region 14 with fail
   go_cut [7] from 95 to 104 (fun v7 wx=>v7=.int .i64 (nS:Int)/\∃(a5:Option Addr) (c5:Nat),bI V B bs b v (.slice a5 (nS+1) c5) ⟨fo P.L 2 (ca (P.L 2) (P.part k) nS),ek P k⟩ wx)
   case first=>
    go_region_law (
     refine J9 (by rfl) _ _ _ (by rfl) B 190 i0 (.agg #[.int .i64 0,.int .i64 0,.int .i64 0,.bool false]) 4 32 underlying171 hi dv cP cG (by rfl) (by decide) (.slice (some ⟨gS,0,none⟩) nS cS) nS (qE (P.sp.set k ⟨fh,g,0,wt⟩)) (by rfl) (by first|exact hO.drew.alloc _|exact (hO.alloc _).drew) ⟨wc.heap.size,0,none⟩ 1 1 [.int .i64 (f:Int),.int .i64 (fh:Int),.int .i64 0,.bool false] (by rfl) (by rfl) (World.news_of_block (cs:=#[.int .i64 (f:Int),.int .i64 (fh:Int),.int .i64 0,.bool false]) (by first|exact heap_alloc_new _ _|exact St.new _ _ _)) (by intro u hu;simp at hu;rcases hu with rfl|rfl|rfl|rfl <;> rfl) (by unfold maxLen;omega) (by omega) (by simp;omega) ?_
     intro v5 w5 ah ag bJ
     have sa:(wc.alloc (.cells #[.int .i64 (f:Int),.int .i64 (fh:Int),.int .i64 0,.bool false] 190)).drew.grownBy w5 (Value.slice (some ⟨gS,0,none⟩) nS cS).ownBlock:=ag
     have fS:St w5 173 b (qc v vS):=(DP.out.alloc (.cells #[.int .i64 (f:Int),.int .i64 (fh:Int),.int .i64 0,.bool false] 190)).drew.ae (hO.alloc _).drew (by decide) sa
     have e5:w5.cell? ⟨b,3,none⟩=some (.slice (some ⟨gS,0,none⟩) nS cS):=by rw[fS.at_,<-HS.out.2.2.2.2.1];rfl
     have f5:=fS.bb 3
     obtain⟨a5,c5,rfl⟩:=bP ah)
    all_goals
     have rX:bI V B bs b v (.slice a5 (nS+1) c5) ⟨fo P.L 2 (ca (P.L 2) (P.part k) nS),ek P k⟩ (w5.setCell ⟨b,3,none⟩ (.slice a5 (nS+1) c5)):=by
      have h2:bI V B bs b v vS ⟨fo P.L 2 (ca (P.L 2) (P.part k) nS),P.sp.set k ⟨fh,g,0,wt⟩⟩ (wc.alloc (.cells #[.int .i64 (f:Int),.int .i64 (fh:Int),.int .i64 0,.bool false] 190)).drew:=(tN.out.1.ab (al wc _)).ab (Below.refl _ _).drew;have h3:=h2.QL (v':=.slice a5 (nS+1) c5) (s:=⟨f,fh,0,false⟩) Hns.out ah (by rw[HS.out.2.2.2.2.1];exact sa) (by
       rw[HS.out.2.2.2.2.1]
       rcases bJ with h|h
       ·exact inl h
       ·exact inr (inl h))
      have e:ek P k=P.sp.set k ⟨fh,g,0,wt⟩++[⟨f,fh,0,false⟩]:=by
       unfold ek;rw[HS.out.1,HS.out.2.1,HS.out.2.2.1,HS.out.2.2.2.1,Kq.out]
      rw[e];exact h3
     clear ah ag bJ sa fS e5 f5
     go_wp2_with fail
     go_meet
     exact⟨rfl,a5,c5,rX⟩
   case rest=>
    obtain⟨rfl,a5,c5,rX⟩:=hcut;clear aS Se y0 y1 y2 y3 hO;have RB:Hid ((ek P k).length=nS+1):=(by show _=_;rw[QK,HS.out.2.2.2.2.2]);obtain⟨g5,c6,e6⟩:=rX.Ts (q:=nS+1) RB.out (by omega);rw[e6] at rX;have aS:=rX.nD.1;obtain⟨x1,x2,x3,x4,x5,x6,x7⟩:=rX.BI rfl bk (by show bk<(ek P k).length;rw[RB.out];exact Dr);have Ad:=rX.xF rfl bk 3 ⟨((ek P k).getD bk mc).f,((ek P k).getD bk mc).g,((ek P k).getD bk mc).h,true⟩ (by show bk<(ek P k).length;rw[RB.out];exact Dr) (by omega) (fun k' hk' hn=>by
     have:k'=0\/k'=1\/k'=2:=by omega
     rcases this with rfl|rfl|rfl <;> rfl)
    replace Ad:bI V B bs b v (.slice (some ⟨g5,0,none⟩) (nS+1) c6) ⟨fo P.L 2 (ca (P.L 2) (P.part k) nS),(ek P k).set bk ⟨((ek P k).getD bk mc).f,((ek P k).getD bk mc).g,((ek P k).getD bk mc).h,true⟩⟩ (wc.setCell ⟨g5,bk*4+3,none⟩ (.bool true)):=Ad;have x9:wc.cell? ⟨g5,bk*4+3,none⟩=some (.bool ((⟨fo P.L 2 (ca (P.L 2) (P.part k) nS),ek P k⟩:Pt).s bk).w):=x4;generalize ((⟨fo P.L 2 (ca (P.L 2) (P.part k) nS),ek P k⟩:Pt).s bk).w=wb at x9;have i9:(bk:Int)<nS+1:=(by omega);have i8:bk<nS+1:=Dr;clear rX e6 x1 x2 x3 x4 x5 x6;have vI:=hid Ad;clear Ad;obtain⟨SP,QV⟩:∃SP,(ek P k).set bk ⟨((ek P k).getD bk mc).f,((ek P k).getD bk mc).g,((ek P k).getD bk mc).h,true⟩=SP:=(⟨_,rfl⟩);obtain⟨L9,Aw⟩:∃L9,fo P.L 2 (ca (P.L 2) (P.part k) nS)=L9:=(⟨_,rfl⟩);rw[QV,Aw] at vI;have ZF:=ζ QV Aw;have l4:L9 4=P.L 4:=(by rw[<-Aw];exact DK _ _ _ _ (by omega));clear QV Aw;go_upto_region 16 with fail;generalize wc.setCell ⟨g5,bk*4+3,none⟩ (.bool true)=Fc at vI⊢;clear x7 x9 aS;obtain⟨q,hq⟩:∃q,(P.L 4).length=q:=(⟨_,rfl⟩);have hO:=vI.out.row 4 (by omega);replace hO:ownsRow Fc B 3 1 (v 4) (L9 4).length (cY (L9 4)):=hO;obtain⟨a3,c3,e3⟩:=bP hO;have a4:Fc.cell? ⟨b,5,none⟩=some (v 4):=vI.out.c4.1;rw[l4] at hO e3;rw[hq] at hO e3;rw[e3] at hO a4;have hq5:q<=100000:=(by have:=yJ.out.n4;omega);have hV:=vI.out.hB;have qR:=hid e3;have Hq4:=hid hq;have Ph:=hid l4;obtain⟨i0,hi,dv,cP,cG⟩:=info_parts aG;clear e3 hq l4;go_wp2_with (at_builtin;refine wpList_append_own_at _ rfl _ _ 27 rfl B 3 i0 (.int .i64 0) 1 8 underlying27 hi dv cP cG rfl (by decide) _ _ _ rfl (hO.alloc _) ⟨Fc.heap.size,0,none⟩ 1 1 [.int .i64 (bk:Int)] rfl rfl (cell_one_new _ _ _) ?d2 ?d3 ?d4 ?d5 ?_)
    case d2=>intro u hu;simp at hu;subst hu;rfl
    case d3=>unfold maxLen;omega
    case d4=>omega
    case d5=>simp;omega
    intro v' w5 ah ag _ bJ;have h2:=vI.out.ab (al Fc (.cells #[.int .i64 (bk:Int)] 3));have fS:=h2.st.ae (hO.alloc _) (by decide) ag;have p3:w5.cell? ⟨b,5,none⟩=some (.slice a3 q c3):=(by rw[fS.at_];show some (v 4)=_;rw[qR.out]);have pf:=fS.bb 5;have HF:Hid (bI V B bs b (sY v 4 v') (.slice (some ⟨g5,0,none⟩) (nS+1) c6) (cW P k) (w5.setCell ⟨b,5,none⟩ v')):=by
     have h3:=h2.app (v':=v') (x:=bk) 4 (by omega) (q:=q) (by show (L9 4).length=q;rw[Ph.out];exact Hq4.out) (by show ownsRow _ _ _ _ _ _ (cY (L9 4)++_);rw[Ph.out];exact ah) (by rw[qR.out];exact ag) (by
      rw[show (Fc.alloc (.cells #[.int .i64 (bk:Int)] 3)).heap.size=Fc.heap.size+1 by simp,qR.out]
      rcases bJ with h|h
      ·exact inl h
      ·exact inr (inl h))
     refine h3.congr (fun i hi=>?_) ?_
     ·unfold cW;rw[HS.out.1,HS.out.2.1,HS.out.2.2.1,if_neg xT.out];show fo L9 4 (L9 4++[bk]) i=fo (fo P.L 2 (ca (P.L 2) (P.part k) P.sp.length)) 4 (P.L 4++[P.gG k]) i;rw[Ph.out,Yv.out,HS.out.2.2.2.2.2,ZF.out.2]
     unfold cW;rw[HS.out.1,HS.out.2.1,HS.out.2.2.1,if_neg xT.out];show SP=(ek P k).set (P.gG k) _;rw[<-ZF.out.1,Yv.out]
    obtain⟨a5',c5',rfl⟩:=bP ah;clear ah ag bJ h2 fS hO a4;go_wp2_with fail;go_end0;exact⟨sY v 4 (.slice a5' (q+1) c5'),_,rfl,rfl,HF.out⟩
theorem xO.ok{P0 P:Pt}(h:xO N P0 P l)(hN:N<=100000)(hx:x<N)(hn:x∉l):X3 P x:=by
 obtain⟨⟨c1,c2,c3,c4⟩,_,_⟩:=UG h.pi h.hit hx hn;refine⟨c1,by rw[h.pi.l2];exact hx,by rw[h.pi.l0];exact c2,by rw[h.pi.l0];exact c3,by rw[h.pi.l1];exact hx,by rw[h.pi.l1];exact c4,by rw[h.pi.l0];exact hN,?_⟩;have h1:(P.L 3).length<=P.sp.length:=qw h.hit.nd (fun b hb=>((h.hit.tc b).1 hb).1);have h2:=h.pi.len;omega
theorem PI.tU{P:Pt}(h:PI N P):(P.L 4).length<=N:=le_trans (qw h.uf.1 (fun b hb=>((h.uf.2 b).1 hb).1)) h.len
theorem PI.Hw{k:Nat}{P:Pt}(h:PI N P)(hN:N<=100000)(hk:k<P.sp.length):VU P k:=by
 obtain⟨s1,s2,s3,s4⟩:=h.sp k hk;refine⟨hk,by omega,s3,by rw[h.l0];exact s2,fun x hx=>?_,by rw[h.l0];exact hN,by have:=h.len;omega,by have:=h.tU;omega⟩;rw[h.l2];unfold Pt.part at hx;obtain⟨j,hj,e⟩:=List.getElem_of_mem hx;rw[List.getElem_take,List.getElem_drop] at e;have hj2:(P.s k).f+j<N:=by
  simp at hj;have:=h.l0;omega
 have:=(h.op _ hj2).1;unfold Pt.o at this;rw[pH _ _ _ (by rw[h.l0];exact hj2),e] at this;exact this
theorem nQ.tL(h:nQ w a l)(k:Kept [] bs w w')(hs:w.heap.size<=w'.heap.size)(hb:∀ad,a=some ad->ad.block∉bs):nQ w' a l:=by
 intro h0;obtain⟨g,off,e,hg,hc⟩:=h h0;refine⟨g,off,e,by omega,fun j hj=>?_⟩;rw[k.nE (by have:=hb _ e;exact this) hg];exact hc j hj
theorem YH(N:Nat)(hN:N<=100000)(V:World)(B b:Nat)(bs:List Nat)(v:Nat->Value)(vS:Value)(P:Pt)(w:World)(h:bI V B bs b v vS P w)(hz:PZ N P)(l:List Nat)(q:Nat)(hq:l.length=q)(jC:l.Nodup)(hl:∀x∈l,x<N)(aL:Option Addr)(cL:Nat)(hL:nQ V aL l)(hb:∀ad,aL=some ad->ad.block∉bs):
  Calls prog 114 #[.pointer (some ⟨b,0,none⟩),.slice aL q cL] w (SM V B bs b (mA P l)):=by
 have YL:q<=N:=by rw[<-hq];exact qw jC hl
 obtain⟨d1,d2⟩:=UT hz;obtain⟨a3,c3,e3⟩:=h.EB 3 (by omega) rfl;have a4:=h.c3;have h1:=h.yH 3 (by omega) e3 0 (zero_le _);have H1:Hid (∃v',bI V B bs b v' vS (lv P) (w.setCell ⟨b,4,none⟩ (.slice a3 0 c3))):=⟨_,h1.congr (fun i hi=>by show fo P.L 3 ((P.L 3).take 0) i=fo P.L 3 [] i;rw[List.take_zero]) rfl⟩
 obtain⟨n3,lD⟩:∃n3,(P.L 3).length=n3:=⟨_,rfl⟩
 have hns3:n3<=c3:=by
  have ho:=h.row 3 (by omega);rw[e3] at ho;rcases ho.2 with ⟨h1,_⟩|⟨_,cap,_,h1,_,_,h2,_⟩
  ·injection h1 with _ e1 e2;omega
  injection h1 with _ e1 e2;have h3:(P.L 3).length<=cap:=h2;omega
 rw[e3,lD] at a4;obtain⟨a41,a42⟩:=a4;have HX:=hid (Zz hq (Zz jC (Zz hl (Zz hL (Zz hb (Zz d1 (Zz d2 hz)))))));clear h hz hq jC hl hL hb d1 d2 h1 e3 lD;go_in;go_upto_region 1 with fail;generalize w.setCell ⟨b,4,none⟩ (.slice a3 0 c3)=W1 at H1⊢;clear a41 a42;go_wp2;go_loopw [5,18] (fun _ v wr=>∃k:Nat,v=.int .i64 k/\k<=q/\Hid (∃v' vS',bI V B bs b v' vS' (iu (lv P) (l.take k)) wr)) (fun _ v _=>q-(intOf v).toNat)
 ·obtain⟨v',hv⟩:=H1.out;exact⟨0,rfl,zero_le _,v',vS,hv⟩
 clear H1;obtain⟨k,rfl,hk,HL⟩:=hrel;by_cases aq:k<q
 ·obtain⟨v',vS',hP⟩:=HL.out;have hkl:k<l.length:=by rw[HX.out.1];exact aq
  have hR:=OL HX.out.2.2.2.2.2.1 HX.out.2.2.2.2.2.2.1 l HX.out.2.1 HX.out.2.2.1 k (by omega);have JF:l[k]∉l.take k:=fun hm=>by
   obtain⟨j,hj,e2⟩:=List.getElem_of_mem hm;rw[List.getElem_take] at e2;have hjk:j<k:=(by simp at hj;omega);have:=(List.getElem_inj (h₀:=by omega) (h₁:=hkl) HX.out.2.1).1 e2;omega
  have ok:=hR.ok hN (HX.out.2.2.1 _ (getElem_mem hkl)) JF;obtain⟨g,off,rfl,hg,pT⟩:=(nQ.tL HX.out.2.2.2.1 hP.kept hP.below.size HX.out.2.2.2.2.1) (by omega);have hc:wr.cell? ⟨g,off+k,none⟩=some (.int .i64 (l.getD k 0)):=pT k hkl;rw[pH _ _ _ hkl] at hc;have HC:=hid (zpF V B b bs v' vS' _ wr hP l[k] ok);have HS:Hid (jy (iu (lv P) (l.take k)) l[k]=iu (lv P) (l.take (k+1))):=by
   show _=_;rw[<-zeV,Ly _ _ hkl,pH _ _ _ hkl]
  have i1:(k:Int)<q:=by omega
  clear hR JF ok pT hP HL;generalize l[k]=x at hc HC HS;go_wp2_with fail;refine HC.out.mono ?_;rintro e w5 ⟨v5,sf,rfl,pa⟩;rw[HS.out] at pa;have yT:=hid pa;clear pa HC;go_wp2;go_roundw
  ·exact⟨k+1,by go_num,by omega,v5,sf,yT.out⟩
  simp[intOf];omega
 obtain rfl:k=q:=by omega
 obtain⟨v',vS',hP⟩:=HL.out;rw[List.take_of_length_le (by rw[HX.out.1];exact le_refl _)] at hP;have hR:=OL HX.out.2.2.2.2.2.1 HX.out.2.2.2.2.2.2.1 l HX.out.2.1 HX.out.2.2.1 l.length (le_refl _);rw[List.take_length] at hR;obtain⟨P2,rQ⟩:∃P2,iu (lv P) l=P2:=⟨_,rfl⟩
 have HE:Hid (mA P l=jR P2 (P2.L 3)):=by show _=_;rw[<-rQ];rfl
 rw[rQ] at hP hR;obtain⟨T,hT⟩:∃T,P2.L 3=T:=⟨_,rfl⟩
 obtain⟨m,hm⟩:∃m,T.length=m:=⟨_,rfl⟩
 obtain⟨aT,cT,eT⟩:=hP.EB 3 (by omega) (q:=m) (by rw[hT];exact hm);have b3:=hP.c3.1;rw[eT] at b3;have HR:=ψ hR hT hm eT;have Vr:m<=N:=by
  have h1:(P2.L 3).length<=P2.sp.length:=qw hR.hit.nd (fun b hb=>((hR.hit.tc b).1 hb).1);have h2:=hR.pi.len;rw[hT,hm] at h1;omega
 have HP:=hid hP;clear hP hR rQ hT hm eT HL;go_wp2_with fail;clear b3;obtain⟨W9,rfl⟩:∃W9,W9=wr:=⟨wr,rfl⟩
 go_loopw [7,31] (fun _ v wq=>∃j:Nat,v=.int .i64 j/\j<=m/\Hid (∃v5 sf,v5 3=.slice aT m cT/\bI V B bs b v5 sf (jR P2 (T.take j)) wq)) (fun _ v _=>m-(intOf v).toNat)
 ·exact⟨0,rfl,zero_le _,v',vS',HR.out.2.2.2,HP.out⟩
 clear HP;obtain⟨j,rfl,hj,HL⟩:=hrel;by_cases mQ:j<m
 ·obtain⟨v5,sf,e5,hP⟩:=HL.out;have hjl:j<T.length:=by rw[HR.out.2.2.1];exact mQ
  have hC:=ZZ (S:=fun x=>x∈l) HR.out.1.pi T (by rw[<-HR.out.2.1];exact zgw HR.out.1.hit) (by rw[<-HR.out.2.1];exact HR.out.1.hit.nd) (fun b hb=>by rw[<-HR.out.2.1] at hb;exact ((HR.out.1.hit.tc b).1 hb).1) j (by omega);have ok:=hC.pi.Hw hN (k:=T[j]) (by
   have h9:T[j]∈P2.L 3:=by rw[HR.out.2.1];exact getElem_mem hjl
   have:=((HR.out.1.hit.tc _).1 h9).1
   have:=hC.len
   omega)
  have Ki:(jR P2 (T.take j)).L 3=T:=hC.o3.trans HR.out.2.1;obtain⟨g,c,eg,hc,_⟩:=hP.num 3 (by omega) j (by rw[Ki];exact hjl);rw[Ki,pH _ _ _ hjl] at hc;rw[e5] at eg;obtain⟨rfl⟩:aT=some ⟨g,0,none⟩:=by injection eg
  have HC:=hid (zpL V B b bs v5 sf _ wr hP T[j] ok);have HS:Hid (cW (jR P2 (T.take j)) T[j]=jR P2 (T.take (j+1))):=by
   show _=_;rw[<-UP,Ly _ _ hjl,pH _ _ _ hjl]
  have i1:(j:Int)<m:=by omega
  have He5:=hid e5;clear hC ok Ki eg hP HL e5;generalize T[j]=x at hc HC HS;go_wp2_with fail;refine HC.out.mono ?_;rintro e w5 ⟨v6,vS6,rfl,e6,pa⟩;rw[HS.out] at pa;rw[He5.out] at e6;have yT:=ζ e6 pa;clear pa HC e6;go_wp2;go_roundw
  ·exact⟨j+1,by go_num,by omega,v6,vS6,yT.out⟩
  simp[intOf];omega
 obtain rfl:j=m:=by omega
 obtain⟨v5,sf,e5,hP⟩:=HL.out;rw[List.take_of_length_le (by rw[HR.out.2.2.1];exact le_refl _),<-HR.out.2.1,<-HE.out] at hP;have HP:=hid hP;clear hP HL e5;go_wp2_with fail;go_end0;exact⟨v5,sf,rfl,HP.out⟩
