import Derived.Test.YtbacgnhkapancaaGreatZMCol
set_option linter.all false
set_option maxHeartbeats 4000000
set_option maxRecDepth 100000
open Go.Lib (hid)
namespace Go.Proofs.YtbacgnhkapancaaGreat
open Go.RowKit Go.Maps Go.WideElems Go.ChangeMaps Go.MapKept Go.Proofs.Tryz
open World (ownsRow)
open Nat (le_refl le_trans zero_le)
open Or (inl inr)
open List (getElem_mem length_append length_set length_take)
def gw(s:nC)(k:Nat):Value:=if k=0 then .int .i64 ((s.f:Nat):Int) else if k=1 then .int .i64 ((s.g:Nat):Int) else if k=2 then .int .i64 ((s.h:Nat):Int) else .bool s.w
def pU(l:List nC):List Value:=l.flatMap fun s=>[gw s 0,gw s 1,gw s 2,gw s 3]
theorem XA(s:nC)(l:List nC):pU (s :: l)=[gw s 0,gw s 1,gw s 2,gw s 3]++pU l:=by simp[pU]
theorem zph(l:List nC):(pU l).length=l.length*4:=by
 induction l with
 | nil=>rfl
 | cons s l ih=>rw[XA,length_append,ih];simp;omega
theorem NR(l:List nC):∀j,(pU l)[j]?=(l[j / 4]?).map fun s=>gw s (j % 4):=by
 induction l with
 | nil=>intro j;simp[pU]
 | cons s l ih=>
  intro j;rw[XA];by_cases h:j<4
  ·rw[List.getElem?_append_left (by simpa using h),show j / 4=0 by omega,show j % 4=j by omega];have:j=0\/j=1\/j=2\/j=3:=(by omega);rcases this with rfl|rfl|rfl|rfl <;> rfl
  rw[List.getElem?_append_right (by simp;omega),show ([gw s 0,gw s 1,gw s 2,gw s 3]:List Value).length=4 from rfl,ih,show j / 4=(j-4) / 4+1 by omega,show j % 4=(j-4) % 4 by omega,List.getElem?_cons_succ]
theorem zm0(l:List nC)(s:nC):pU (l++[s])=pU l++[gw s 0,gw s 1,gw s 2,gw s 3]:=by simp[pU]
theorem zqj(l:List nC)(b k:Nat)(hb:b<l.length)(hk:k<4):(pU l)[b*4+k]?=some (gw (l.getD b lN) k):=by
 rw[NR,show (b*4+k) / 4=b by omega,show (b*4+k) % 4=k by omega,List.getElem?_eq_getElem hb,oV _ _ _ hb];rfl
theorem zpi(l:List nC)(b k:Nat)(s:nC)(hb:b<l.length)(hk:k<4)(hs:∀k',k'<4->k'≠k->gw s k'=gw (l.getD b lN) k'):pU (l.set b s)=(pU l).set (b*4+k) (gw s k):=by
 apply List.ext_getElem?;intro j;rw[NR,List.getElem?_set,List.getElem?_set,zph,NR];by_cases e:b=j / 4
 ·subst e;rw[if_pos rfl,if_pos hb];by_cases e2:j / 4*4+k=j
  ·rw[if_pos e2,if_pos (by omega),show j % 4=k by omega];rfl
  rw[if_neg e2,List.getElem?_eq_getElem hb,<-oV _ _ lN hb];show some (gw s (j % 4))=some _;rw[hs (j % 4) (by omega) (by omega)]
 rw[if_neg e,if_neg (by omega)]
theorem zjB(l:List Nat)(j x:Nat):(cO l).set j (.int .i64 (x:Int))=cO (l.set j x):=by simp[cO,List.map_set]
theorem zhv(l:List Nat)(j:Nat)(h:j<l.length):(cO l)[j]?=some (.int .i64 ((l.getD j 0:Nat):Int)):=by rw[By l j h,oV l j 0 h]
theorem zk7{w:World}{B t size n c:Nat}{a:Option Addr}{xs:List Value}(h:w.ownsRow B t size (.slice a n c) n xs)(k:Nat)(hk:k<=n):w.ownsRow B t size (.slice a k c) k (xs.take (k*size)):=by
 have hl:k*size<=n*size:=Nat.mul_le_mul_right size hk;refine⟨by rw[length_take,h.1];omega,?_⟩;rcases h.2 with ⟨h1,h2⟩|⟨g,cap,cur,h1,h3,h4,h5,h6,h7,h8⟩
 ·injection h1 with e1 e2 e3;have oU:k=0:=by omega
  subst oU;rw[e1,e3];exact inl ⟨rfl,rfl⟩
 injection h1 with e1 e2 e3;rw[e1,e3];refine inr ⟨g,cap,cur,rfl,h3,h4,by omega,h6,h7,?_⟩;rw[<-h8,List.take_take,Nat.min_eq_left hl]
def AL(i:Nat):Nat:=if i<3 then i else i+1
def sr(v:Nat->Value)(i:Nat)(u:Value):Nat->Value:=fun j=>if j=i then u else v j
theorem AD(v:Nat->Value)(i:Nat)(u:Value):sr v i u i=u:=if_pos rfl
theorem yt(v:Nat->Value)(i j:Nat)(u:Value)(h:j≠i):sr v i u j=v j:=if_neg h
theorem D8(L:Nat->List Nat)(i:Nat)(u:List Nat):eR L i u i=u:=if_pos rfl
theorem BJ(L:Nat->List Nat)(i j:Nat)(u:List Nat)(h:j≠i):eR L i u j=L j:=if_neg h
def pI(v:Nat->Value)(vS:Value):Array Value:=#[v 0,v 1,v 2,vS,v 3,v 4]
structure bE (V:World)(B:Nat)(bs:List Nat)(b:Nat)(v:Nat->Value)(vS:Value)(P:Pt)(w:World):Prop where
 kept:Kept [] bs V w
 below:Below B V w
 st:St w 183 b (pI v vS)
 row:∀i,i<5->w.ownsRow B 3 1 (v i) (P.L i).length (cO (P.L i))
 sep:∀i j,i<5->j<5->i≠j->∀g,(v i).ownBlock=some g->(v j).ownBlock≠some g
 nE:w.ownsRow B 198 4 vS P.sp.length (pU P.sp)
 loc:∀i,i<5->∀g,(v i).ownBlock=some g->g∈bs\/V.heap.size<=g
 lY:∀g,vS.ownBlock=some g->g∈bs\/V.heap.size<=g
 jT:b∈bs
 lo:B<=b/\B<=V.heap.size
section
variable {V : World}{B b : Nat}{bs : List Nat}{v : Nat → Value}{vS : Value}{P : Pt}{w : World}
theorem bE.hB(h:bE V B bs b v vS P w):B<=w.heap.size:=le_trans h.lo.2 h.below.size
theorem bE.ab{w1:World}(h:bE V B bs b v vS P w)(k:Below w.heap.size w w1):bE V B bs b v vS P w1:=
 ⟨h.kept.below k,h.below.trans (k.mono h.hB),h.st.ab k,fun i hi=>cW (h.row i hi) k,h.sep,cW h.nE k,h.loc,h.lY,h.jT,h.lo⟩
theorem zpj(v:Nat->Value)(vS:Value)(i:Nat)(hi:i<5):(pI v vS)[AL i]?=some (v i):=by
 have:i=0\/i=1\/i=2\/i=3\/i=4:=by omega
 rcases this with rfl|rfl|rfl|rfl|rfl <;> rfl
theorem TX(v:Nat->Value)(vS u:Value)(i:Nat)(hi:i<5):(pI v vS).setIfInBounds (AL i) u=pI (sr v i u) vS:=by
 have:i=0\/i=1\/i=2\/i=3\/i=4:=by omega
 rcases this with rfl|rfl|rfl|rfl|rfl <;> rfl
theorem zk8(v:Nat->Value)(vS u:Value):(pI v vS).setIfInBounds 3 u=pI v u:=rfl
theorem bE.cell(h:bE V B bs b v vS P w)(i:Nat)(hi:i<5):w.cell? ⟨b,AL i,none⟩=some (v i)/\w.frozen? ⟨b,AL i,none⟩=false:=⟨by rw[h.st.at_,zpj v vS i hi],h.st.aZ _⟩
theorem bE.nw(h:bE V B bs b v vS P w):w.cell? ⟨b,3,none⟩=some vS/\w.frozen? ⟨b,3,none⟩=false:=⟨by rw[h.st.at_];rfl,h.st.aZ _⟩
theorem bE.num(h:bE V B bs b v vS P w)(i:Nat)(hi:i<5)(j:Nat)(hj:j<(P.L i).length):∃g c,v i=.slice (some ⟨g,0,none⟩) (P.L i).length c/\w.cell? ⟨g,j,none⟩=some (.int .i64 (((P.L i).getD j 0:Nat):Int))/\w.frozen? ⟨g,j,none⟩=false:=by
 have ho:=h.row i hi;obtain⟨a,c,e⟩:=bJ ho;rw[e] at ho⊢;obtain⟨g,rfl,_,_,hc⟩:=ep ho (by omega);obtain⟨h1,h2⟩:=hc j (by omega);exact⟨g,c,rfl,by rw[h1,zhv _ _ hj],h2⟩
theorem bE.span(h:bE V B bs b v vS P w)(j:Nat)(hj:j<P.sp.length):∃g c,vS=.slice (some ⟨g,0,none⟩) P.sp.length c/\∀k,k<4->w.cell? ⟨g,j*4+k,none⟩=some (gw (P.s j) k)/\w.frozen? ⟨g,j*4+k,none⟩=false:=by
 have ho:=h.nE;obtain⟨a,c,e⟩:=bJ ho;rw[e] at ho⊢;obtain⟨g,rfl,_,_,hc⟩:=ep ho (by omega);refine⟨g,c,rfl,fun k hk=>?_⟩;obtain⟨h1,h2⟩:=hc (j*4+k) (by omega);exact⟨by rw[h1,zqj _ _ _ hj hk];rfl,h2⟩
theorem bE.ne(h:bE V B bs b v vS P w):(∀i,i<5->∀g,(v i).ownBlock=some g->g≠b)/\(∀g,vS.ownBlock=some g->g≠b)/\(∀i,i<5->∀g,(v i).ownBlock=some g->vS.ownBlock≠some g):=
 ⟨fun i hi=>ef (h.row i hi) h.st (by decide),ef h.nE h.st (by decide),fun i hi=>iy (h.row i hi) h.nE (by decide)⟩
theorem bE.put(h:bE V B bs b v vS P w)(i:Nat)(hi:i<5){g n c:Nat}(hv:v i=.slice (some ⟨g,0,none⟩) n c)(j x:Nat)(hj:j<(P.L i).length):
  bE V B bs b v vS ⟨eR P.L i ((P.L i).set j x),P.sp⟩ (w.setCell ⟨g,j,none⟩ (.int .i64 (x:Int))):=by
 have hg:(v i).ownBlock=some g:=by rw[hv];rfl
 have hk:Kept [] [g] w (w.setCell ⟨g,j,none⟩ (.int .i64 (x:Int))):=(Kept.refl _ _ _).setCell _ _ (inl (by simp));have hn:n=(P.L i).length:=by
  obtain⟨a,c',e⟩:=bJ (h.row i hi);rw[hv] at e;injection e
 refine⟨h.kept.setCell _ _ ((h.loc i hi g hg).elim inl (fun x=>inr (inl x))),h.below.setCell (p:=⟨g,j,none⟩) (kq (h.row i hi) g hg) _,h.st.fq (p:=⟨g,j,none⟩) (fun e=>h.ne.1 i hi g hg e.symm) _,fun k hk5=>?_,h.sep,fA h.nE hk (by simp) (fun g2 e hm=>h.ne.2.2 i hi g hg (by rw[e,List.mem_singleton.1 hm])),h.loc,h.lY,h.jT,h.lo⟩;by_cases e:k=i
 ·subst e;simp only[D8];have ho:=h.row k hi;rw[hv,<-hn] at ho;have:=uA ho j (by omega) (.int .i64 (x:Int));rw[zjB] at this;rw[hv,length_set,<-hn];exact this
 simp only[BJ _ _ _ _ e];exact fA (h.row k hk5) hk (by simp) (fun g2 e2 hm=>h.sep i k hi hk5 (fun e3=>e e3.symm) g hg (by rw[e2,List.mem_singleton.1 hm]))
theorem bE.wP(h:bE V B bs b v vS P w){g n c:Nat}(hv:vS=.slice (some ⟨g,0,none⟩) n c)(j k:Nat)(s:nC)(hj:j<P.sp.length)(hk:k<4)(hs:∀k',k'<4->k'≠k->gw s k'=gw (P.s j) k'):
  bE V B bs b v vS ⟨P.L,P.sp.set j s⟩ (w.setCell ⟨g,j*4+k,none⟩ (gw s k)):=by
 have hg:vS.ownBlock=some g:=by rw[hv];rfl
 have vD:Kept [] [g] w (w.setCell ⟨g,j*4+k,none⟩ (gw s k)):=(Kept.refl _ _ _).setCell _ _ (inl (by simp));have hn:n=P.sp.length:=by
  obtain⟨a,c',e⟩:=bJ h.nE;rw[hv] at e;injection e
 refine⟨h.kept.setCell _ _ ((h.lY g hg).elim inl (fun x=>inr (inl x))),h.below.setCell (p:=⟨g,j*4+k,none⟩) (kq h.nE g hg) _,h.st.fq (p:=⟨g,j*4+k,none⟩) (fun e=>h.ne.2.1 g hg e.symm) _,fun i hi=>fA (h.row i hi) vD (by simp) (fun g2 e hm=>h.ne.2.2 i hi g2 e (by rw[hg,List.mem_singleton.1 hm])),h.sep,?_,h.loc,h.lY,h.jT,h.lo⟩;have ho:=h.nE;rw[hv,<-hn] at ho;have:=Qo ho (j*4+k) (by omega) (gw s k);show ownsRow _ _ _ _ _ (P.sp.set j s).length (pU (P.sp.set j s));rw[length_set,zpi _ _ _ _ hj hk hs,hv,<-hn];exact this
theorem bE.app{w':World}{v':Value}{x q:Nat}(h:bE V B bs b v vS P w)(i:Nat)(hi:i<5)(hq:(P.L i).length=q)(ho:w'.ownsRow B 3 1 v' (q+1) (cO (P.L i)++[.int .i64 (x:Int)]))(hg:w.grownBy w' (v i).ownBlock)
  (eZ:v'.ownBlock=(v i).ownBlock\/v'.ownBlock=some w.heap.size\/∃g,v'.ownBlock=some g/\w.heap.size<=g):bE V B bs b (sr v i v') vS ⟨eR P.L i (P.L i++[x]),P.sp⟩ (w'.setCell ⟨b,AL i,none⟩ v'):=by
 subst hq;have bQ:St w' 183 b (pI v vS):=h.st.ae (h.row i hi) (by decide) hg;have Dl:∀g,v'.ownBlock=some g->(v i).ownBlock=some g\/w.heap.size<=g:=fun g e=>by
  rcases eZ with e1|e1|⟨g2,e1,e2⟩
  ·exact inl (by rw[<-e1];exact e)
  ·rw[e] at e1;injection e1 with e1;exact inr (by omega)
  rw[e] at e1;injection e1 with e1;exact inr (by omega)
 have an:∀j,j<5->∀g,(v j).ownBlock=some g->g<w.heap.size:=fun j hj=>lB (h.row j hj)
 have hB:Below B V w':=fC h.below (h.row i hi) h.hB hg;refine⟨(h.kept.grown hg (fun g e=>(h.loc i hi g e).elim inl (fun x=>inr (inl x)))).setCell _ _ (inl h.jT),hB.setCell (p:=⟨b,AL i,none⟩) h.lo.1 _,?_,fun j hj=>?_,fun j k hj hk hjk g=>?_,jt (sh h.nE (h.row i hi) (by decide) hg) bQ (by decide) _ _,fun j hj g=>?_,h.lY,h.jT,h.lo⟩
 ·rw[<-TX v vS v' i hi];exact bQ.set _ _
 ·by_cases e:j=i
  ·subst e;simp only[AD,D8];rw[wC,length_append];exact jt ho bQ (by decide) _ _
  simp only[yt _ _ _ _ e,BJ _ _ _ _ e];exact jt (qM (h.row j hj) hg (fun g e1 e2=>h.sep j i hj hi e g e1 e2.symm)) bQ (by decide) _ _
 ·by_cases e1:j=i
  ·subst e1;rw[AD,yt _ _ _ _ (fun e=>hjk e.symm)];intro e2 e3;rcases Dl g e2 with e4|e4
   ·exact h.sep j k hj hk hjk g e4 e3
   have:=an k hk g e3;omega
  rw[yt _ _ _ _ e1];by_cases e2:k=i
  ·subst e2;rw[AD];intro e3 e4;rcases Dl g e4 with e5|e5
   ·exact h.sep j k hj hk hjk g e3 e5
   have:=an j hj g e3;omega
  rw[yt _ _ _ _ e2];exact h.sep j k hj hk hjk g
 by_cases e:j=i
 ·subst e;rw[AD];intro e2;rcases Dl g e2 with e3|e3
  ·exact h.loc j hj g e3
  exact inr (le_trans h.below.size e3)
 rw[yt _ _ _ _ e];exact h.loc j hj g
theorem bE.RD{w':World}{v':Value}{s:nC}{q:Nat}(h:bE V B bs b v vS P w)(hq:P.sp.length=q)(ho:w'.ownsRow B 198 4 v' (q+1) (pU P.sp++[gw s 0,gw s 1,gw s 2,gw s 3]))(hg:w.grownBy w' vS.ownBlock)
  (eZ:v'.ownBlock=vS.ownBlock\/v'.ownBlock=some w.heap.size\/∃g,v'.ownBlock=some g/\w.heap.size<=g):bE V B bs b v v' ⟨P.L,P.sp++[s]⟩ (w'.setCell ⟨b,3,none⟩ v'):=by
 subst hq;have bQ:St w' 183 b (pI v vS):=h.st.ae h.nE (by decide) hg;have hB:Below B V w':=fC h.below h.nE h.hB hg;refine⟨(h.kept.grown hg (fun g e=>(h.lY g e).elim inl (fun x=>inr (inl x)))).setCell _ _ (inl h.jT),hB.setCell (p:=⟨b,3,none⟩) h.lo.1 _,?_,fun j hj=>jt (sh (h.row j hj) h.nE (by decide) hg) bQ (by decide) _ _,h.sep,?_,h.loc,fun g e=>?_,h.jT,h.lo⟩
 ·rw[<-zk8 v vS v'];exact bQ.set _ _
 ·show ownsRow _ _ _ _ _ (P.sp++[s]).length (pU (P.sp++[s]));rw[zm0,length_append];exact jt ho bQ (by decide) _ _
 rcases eZ with e1|e1|⟨g2,e1,e2⟩
 ·exact h.lY g (by rw[<-e1];exact e)
 ·rw[e] at e1;injection e1 with e1;exact inr (by have:=h.below.size;omega)
 rw[e] at e1;injection e1 with e1;exact inr (by have:=h.below.size;omega)
theorem bE.xV(h:bE V B bs b v vS P w)(i:Nat)(hi:i<5){a:Option Addr}{n c:Nat}(hv:v i=.slice a n c)(k:Nat)(hk:k<=(P.L i).length):
  bE V B bs b (sr v i (.slice a k c)) vS ⟨eR P.L i ((P.L i).take k),P.sp⟩ (w.setCell ⟨b,AL i,none⟩ (.slice a k c)):=by
 have ho:=h.row i hi;have hn:n=(P.L i).length:=by
  obtain⟨a,c',e⟩:=bJ ho;rw[hv] at e;injection e
 rw[hv,<-hn] at ho;have ho2:=zk7 ho k (by omega);have rJ:(Value.slice a k c).ownBlock=(v i).ownBlock:=by rw[hv];cases a <;> rfl
 refine⟨h.kept.setCell _ _ (inl h.jT),h.below.setCell (p:=⟨b,AL i,none⟩) h.lo.1 _,?_,fun j hj=>?_,fun j l hj hl hjl g=>?_,jt h.nE h.st (by decide) _ _,fun j hj g=>?_,h.lY,h.jT,h.lo⟩
 ·rw[<-TX v vS _ i hi];exact h.st.set _ _
 ·by_cases e:j=i
  ·subst e;simp only[AD,D8];rw[show cO ((P.L j).take k)=(cO (P.L j)).take (k*1) by simp[cO,List.map_take],length_take,Nat.min_eq_left hk];exact jt ho2 h.st (by decide) _ _
  simp only[yt _ _ _ _ e,BJ _ _ _ _ e];exact jt (h.row j hj) h.st (by decide) _ _
 ·have hh:=h.sep j l hj hl hjl g;by_cases e1:j=i
  ·subst e1;rw[AD,yt _ _ _ _ (fun e=>hjl e.symm),rJ];exact hh
  rw[yt _ _ _ _ e1];by_cases e2:l=i
  ·subst e2;rw[AD,rJ];exact hh
  rw[yt _ _ _ _ e2];exact hh
 by_cases e:j=i
 ·subst e;rw[AD,rJ];exact h.loc j hj g
 rw[yt _ _ _ _ e];exact h.loc j hj g
def bz(b:Nat)(v:Nat->Value)(vS:Value):List Nat:=b :: (vS.ownBlock.toList++(List.range 5).flatMap fun i=>(v i).ownBlock.toList)
theorem uD{b:Nat}{v:Nat->Value}{vS:Value}{x:Nat}:x∈bz b v vS↔x=b\/vS.ownBlock=some x\/∃i,i<5/\(v i).ownBlock=some x:=by
 unfold bz;rw[List.mem_cons,List.mem_append,List.mem_flatMap];simp only[Option.mem_toList,Option.mem_def,List.mem_range]
theorem bE.start(h:bE V B bs b v vS P w):bE w B (bz b v vS) b v vS P w:=
 ⟨Kept.refl _ _ _,Below.refl _ _,h.st,h.row,h.sep,h.nE,fun i hi g e=>inl (uD.2 (inr (inr ⟨i,hi,e⟩))),fun g e=>inl (uD.2 (inr (inl e))),uD.2 (inl rfl),h.lo.1,h.hB⟩
theorem bE.sK(h:bE V B bs b v vS P w):∀x∈bz b v vS,x∈bs\/V.heap.size<=x:=fun x hx=>by
 rcases uD.1 hx with rfl|e|⟨i,hi,e⟩
 ·exact inl h.jT
 ·exact h.lY x e
 ·exact h.loc i hi x e
theorem bE.back{v':Nat->Value}{vS':Value}{P':Pt}{w':World}(h:bE V B bs b v vS P w)(h2:bE w B (bz b v vS) b v' vS' P' w'):bE V B bs b v' vS' P' w':=by
 have up:∀x,x∈bz b v vS\/w.heap.size<=x->x∈bs\/V.heap.size<=x:=fun x hx=>by
  rcases hx with hx|hx
  ·exact h.sK x hx
  exact inr (le_trans h.below.size hx)
 refine⟨fun k o hk ho hn=>h2.kept k o (h.kept k o hk ho hn) ho (fun hm=>?_),h.below.trans h2.below,h2.st,h2.row,h2.sep,h2.nE,fun i hi g e=>up g (h2.loc i hi g e),fun g e=>up g (h2.lY g e),h.jT,h.lo⟩;rcases h.sK k hm with h3|h3
 ·exact hn h3
 have:=(Array.getElem?_eq_some_iff.1 hk).1;omega
theorem bE.congr{P':Pt}(h:bE V B bs b v vS P w)(e1:∀i,i<5->P.L i=P'.L i)(e2:P.sp=P'.sp):bE V B bs b v vS P' w:=
 ⟨h.kept,h.below,h.st,fun i hi=>by rw[<-e1 i hi];exact h.row i hi,h.sep,by rw[<-e2];exact h.nE,h.loc,h.lY,h.jT,h.lo⟩
end
theorem AA{g g' n n' c c':Nat}(h:Value.slice (some ⟨g,0,none⟩) n c=.slice (some ⟨g',0,none⟩) n' c'):g=g':=by
 injection h with e _ _;injection e with e;injection e
def OL(V:World)(B:Nat)(bs:List Nat)(b:Nat)(P:Pt)(e:Ending)(w':World):Prop:=∃v vS,e=.returned (.tuple #[])/\bE V B bs b v vS P w'
structure TA (P:Pt)(x:Nat):Prop where
 b:P.b x<P.sp.length
 l2:x<(P.L 2).length
 tt:P.to x<(P.L 0).length
 fr:P.p x<(P.L 0).length
 l1:x<(P.L 1).length
 ot:P.o (P.to x)<(P.L 1).length
 n0:(P.L 0).length<=100000
 n3:(P.L 3).length<=100000
theorem ZZ(P:Pt)(x i:Nat)(h:i≠3):dQ P x i=P.L i:=by
 unfold dQ;split
 ·exact BJ _ _ _ _ h
 rfl
theorem bE.Jp{V:World}{B b:Nat}{bs:List Nat}{v:Nat->Value}{vS:Value}{P:Pt}{w:World}(h:bE V B bs b v vS P w)(i:Nat)(hi:i<5){g n c:Nat}(hv:v i=.slice (some ⟨g,0,none⟩) n c)(j x k y:Nat)(hj:j<(P.L i).length)(hk:k<(P.L i).length):
  bE V B bs b v vS ⟨eR P.L i (((P.L i).set j x).set k y),P.sp⟩ ((w.setCell ⟨g,j,none⟩ (.int .i64 (x:Int))).setCell ⟨g,k,none⟩ (.int .i64 (y:Int))):=by
 have h2:=(h.put i hi hv j x hj).put i hi hv k y (by show k<(eR P.L i ((P.L i).set j x) i).length;rw[D8,length_set];exact hk);refine h2.congr (fun l hl=>?_) rfl;show eR (eR P.L i ((P.L i).set j x)) i ((eR P.L i ((P.L i).set j x) i).set k y) l=eR P.L i (((P.L i).set j x).set k y) l;rw[D8];unfold eR;split <;> rfl
theorem zpk(V:World)(B b:Nat)(bs:List Nat)(v:Nat->Value)(vS:Value)(P:Pt)(w:World)(h:bE V B bs b v vS P w)(x:Nat)(ok:TA P x):
  Calls prog 151 #[.pointer (some ⟨b,0,none⟩),.int .i64 (x:Int)] w (OL V B bs b (jf P x)):=by
 obtain⟨k,hk⟩:∃k,P.b x=k:=⟨_,rfl⟩
 have hkl:k<P.sp.length:=by rw[<-hk];exact ok.b
 obtain⟨nS,wh⟩:∃nS,P.sp.length=nS:=⟨_,rfl⟩
 obtain⟨g2,c2,e2,d2,_⟩:=h.num 2 (by omega) x ok.l2;obtain⟨gS,cS,eS,dS⟩:=h.span k hkl;have a2:w.cell? ⟨b,2,none⟩=some (v 2):=(h.cell 2 (by omega)).1;have aS:=h.nw.1;have dh:=(dS 2 (by omega)).1;rw[e2] at a2;rw[eS] at aS;rw[show (P.L 2).getD x 0=k from hk] at d2;obtain⟨n2,cQ⟩:∃n2,(P.L 2).length=n2:=⟨_,rfl⟩
 have i2:(x:Int)<n2:=by have:=ok.l2;omega
 have iS:(k:Int)<nS:=by omega
 rw[cQ] at a2;rw[wh] at aS;obtain⟨hh,AK⟩:∃hh,(P.s k).h=hh:=⟨_,rfl⟩
 have Ts:w.cell? ⟨gS,k*4+2,none⟩=some (.int .i64 (hh:Int)):=by rw[dh];show some (Value.int .i64 (((P.s k).h:Nat):Int))=_;rw[AK]
 have H:=hid h;have Hk:=hid hk;have yu:=hid ok;have Zy:=hid eS;have ED:=hid AK;have HnS:=hid wh;clear h hk ok e2 eS dS dh cQ AK wh;go_enter func151,ntmps151
 go_upto_if 26 with (fail)
 go_cut [4,5] from 26 to 36 (fun v4 v5 wx=>∃v',v4=.int .i64 (k:Int)/\v5=.pointer (some ⟨gS,k*4,none⟩)/\bE V B bs b v' vS ⟨dQ P x,P.sp⟩ wx)
 case first=>
  by_cases h0:hh=0
  ·subst h0;obtain⟨q,hq⟩:∃q,(P.L 3).length=q:=(⟨_,rfl⟩);have hO:=H.out.row 3 (by omega);obtain⟨a3,c3,e3⟩:=bJ hO;have a4:w.cell? ⟨b,4,none⟩=some (v 3):=(H.out.cell 3 (by omega)).1;rw[hq] at hO e3;rw[e3] at hO a4;have hq5:q<=100000:=(by have:=yu.out.n3;omega);have hV:=H.out.hB;have qD:=hid e3;have Hq:=hid hq;obtain⟨i0,hi,du,cH,ct⟩:=info_parts az;have i3:(((0:Nat):Int) == 0)=true:=(by rfl);clear e3 hq;go_wp2_with (at_builtin;refine wpList_append_own_at _ rfl _ _ 30 rfl B 3 i0 (.int .i64 0) 1 8 underlying30 hi du cH ct rfl (by decide) _ _ _ rfl (hO.alloc _) ⟨w.heap.size,0,none⟩ 1 1 [.int .i64 (k:Int)] rfl rfl (cell_one_new _ _ _) ?d2 ?d3 ?d4 ?d5 ?_)
   case d2=>intro u hu;simp at hu;subst hu;rfl
   case d3=>unfold maxLen;omega
   case d4=>omega
   case d5=>simp;omega
   intro v' w5 ah ag _ bG;have h2:=H.out.ab (al w (.cells #[.int .i64 (k:Int)] 3));have Oj:=h2.row 3 (by omega);rw[Hq.out,qD.out] at Oj;have fG:=h2.st.ae Oj (by decide) ag;have p3:w5.cell? ⟨b,4,none⟩=some (.slice a3 q c3):=(by rw[fG.at_];show some (v 3)=_;rw[qD.out]);have pf:=fG.aZ 4;have HF:Hid (bE V B bs b (sr v 3 v') vS ⟨dQ P x,P.sp⟩ (w5.setCell ⟨b,4,none⟩ v')):=by
    have h3:=h2.app (v':=v') 3 (by omega) Hq.out ah (by rw[qD.out];exact ag) (by
     rw[show (w.alloc (.cells #[.int .i64 (k:Int)] 3)).heap.size=w.heap.size+1 by simp,qD.out]
     rcases bG with h|h
     ·exact inl h
     ·exact inr (inl h))
    have e:dQ P x=eR P.L 3 (P.L 3++[k]):=by
     unfold dQ;rw[Hk.out,if_pos ED.out]
    show bE V B bs b (sr v 3 v') vS ⟨dQ P x,P.sp⟩ (w5.setCell ⟨b,4,none⟩ v');rw[e];exact h3
   obtain⟨a5,c5,rfl⟩:=bJ ah;clear ah ag bG h2 Oj fG hO a4 a2 aS d2 Ts;go_wp2_with fail
   go_meet
   exact⟨sr v 3 (.slice a5 (q+1) c5),rfl,rfl,HF.out⟩
  have i3:((hh:Int) == 0)=false:=by simp;omega
  have e:dQ P x=P.L:=by
   unfold dQ;rw[Hk.out,if_neg (by rw[ED.out];exact h0)]
  have HF:Hid (bE V B bs b v vS ⟨dQ P x,P.sp⟩ w):=by
   show bE V B bs b v vS ⟨dQ P x,P.sp⟩ w;rw[e];exact H.out
  clear e h0;go_wp2_with fail
  go_meet
  exact⟨v,rfl,rfl,HF.out⟩
 case rest=>
  obtain⟨v',rfl,rfl,h⟩:=hcut;have CJ:=Zy;clear a2 aS d2 Ts i2 Zy;obtain⟨f,hf⟩:∃f,(P.s k).f=f:=⟨_,rfl⟩
  obtain⟨tt,xe⟩:∃tt,P.to x=tt:=⟨_,rfl⟩
  obtain⟨fr,sW⟩:∃fr,P.p x=fr:=⟨_,rfl⟩
  obtain⟨ot,Mq⟩:∃ot,P.o tt=ot:=⟨_,rfl⟩
  have zt:f+hh=tt:=by rw[<-xe,<-hf,<-ED.out,<-Hk.out];rfl
  have h0:=ZZ P x 0 (by omega);have h1:=ZZ P x 1 (by omega);have tl:=yu.out.tt;have fl:=yu.out.fr;have xl:=yu.out.l1;have ol:=yu.out.ot;have n0:=yu.out.n0;rw[xe] at tl ol;rw[Mq] at ol;rw[sW] at fl;obtain⟨g0,c0,e0,y0,z0⟩:=h.num 0 (by omega) tt (by show tt<(dQ P x 0).length;rw[h0];exact tl);obtain⟨_,_,LS,Lm,UO⟩:=h.num 0 (by omega) fr (by show fr<(dQ P x 0).length;rw[h0];exact fl);obtain⟨g1,c1,e1,y1,z1⟩:=h.num 1 (by omega) x (by show x<(dQ P x 1).length;rw[h1];exact xl);obtain⟨_,_,LO,UA,z1'⟩:=h.num 1 (by omega) ot (by show ot<(dQ P x 1).length;rw[h1];exact ol);obtain⟨MK,cS',ON,O7⟩:=h.span k (by show k<P.sp.length;rw[HnS.out];omega);obtain rfl:MK=gS:=by
   have:=CJ.out;rw[this] at ON;exact (AA ON).symm
  have b0:wc.cell? ⟨b,0,none⟩=some (v' 0):=(h.cell 0 (by omega)).1;have b1:wc.cell? ⟨b,1,none⟩=some (v' 1):=(h.cell 1 (by omega)).1;obtain⟨m0,ox⟩:∃m0,(P.L 0).length=m0:=⟨_,rfl⟩
  obtain⟨m1,iD⟩:∃m1,(P.L 1).length=m1:=⟨_,rfl⟩
  have s0:wc.cell? ⟨MK,k*4,none⟩=some (.int .i64 (f:Int)):=by
   have:=(O7 0 (by omega)).1;rw[<-hf];exact this
  have s2:wc.cell? ⟨MK,k*4+2,none⟩=some (.int .i64 (hh:Int)):=by
   have:=(O7 2 (by omega)).1;rw[<-ED.out];exact this
  have Ef:(⟨dQ P x,P.sp⟩:Pt).L 0=P.L 0:=h0;have tE:(⟨dQ P x,P.sp⟩:Pt).L 1=P.L 1:=h1;rw[Ef] at e0 LS y0 Lm;rw[tE] at e1 LO y1 UA;rw[e0] at LS b0;rw[e1] at LO b1;obtain⟨rfl,_⟩:g0=_/\True:=⟨AA LS,trivial⟩
  obtain⟨rfl,_⟩:g1=_/\True:=⟨AA LO,trivial⟩
  rw[ox] at b0 tl fl n0;rw[iD] at b1 xl ol;rw[show (P.L 0).getD tt 0=ot from Mq] at y0;rw[show (P.L 1).getD x 0=fr from sW] at y1;clear UA LS LO O7;have i0:(tt:Int)<m0:=by omega
  have i1:(fr:Int)<m0:=by omega
  have i4:(x:Int)<m1:=by omega
  have i5:(ot:Int)<m1:=by omega
  have its:(f:Int)+(hh:Int)=tt:=by omega
  have HL:=hid (Zz Ef (Zz tE (Zz e0 (Zz e1 (Zz ox (Zz iD (Zz xe (Zz sW Mq))))))));have HP:=hid h;clear Ef tE e0 e1 ox iD xe sW Mq h zt h0 h1 hf ON;go_upto_region 4 with fail;go_quiet (fail);go_upto_region 6 with fail;obtain⟨xf,ZT⟩:∃xf,(P.L 0).getD fr 0=xf:=⟨_,rfl⟩
  rw[ZT] at Lm;obtain⟨W6,sN,t0,t1,t2,t3,t4,TP⟩:∃W6,wc.drewN nq=W6/\W6.cell? ⟨b,0,none⟩=some (.slice (some ⟨g0,0,none⟩) m0 c0)/\W6.cell? ⟨g0,tt,none⟩=some (.int .i64 (ot:Int))/\W6.frozen? ⟨g0,tt,none⟩=false/\W6.frozen? ⟨g0,fr,none⟩=false/\
    W6.cell? ⟨g0,fr,none⟩=some (.int .i64 (xf:Int))/\Hid (bE V B bs b v' vS ⟨dQ P x,P.sp⟩ W6):=⟨_,rfl,b0,y0,z0,UO,Lm,HP.out.ab (below_drewN (Below.refl _ _) nq)⟩
  rw[sN];clear sN ZT b0 b1 s0 s2 y0 y1 z0 z1 UO z1' Lm HP;obtain⟨xg,t5⟩:=cell?_setCell_some (w:=W6) (p:=⟨g0,tt,none⟩) (x:=.int .i64 (x:Int)) (q:=⟨g0,fr,none⟩) t4
  go_region
  have wv:(P.L 0).length=m0/\(P.L 1).length=m1:=⟨HL.out.2.2.2.2.1,HL.out.2.2.2.2.2.1⟩
  have IC:dQ P x 0=P.L 0:=HL.out.1;have MZ:dQ P x 1=P.L 1:=HL.out.2.1;obtain⟨L7,SL,e7⟩:∃L7,eR (dQ P x) 0 (((P.L 0).set tt x).set fr ot)=L7/\L7 1=P.L 1:=⟨_,rfl,by rw[BJ _ _ _ _ (by omega),MZ]⟩
  have Jo:bE V B bs b v' vS ⟨L7,P.sp⟩ ((W6.setCell ⟨g0,tt,none⟩ (.int .i64 (x:Int))).setCell ⟨g0,fr,none⟩ (.int .i64 (ot:Int))).drew:=by
   have q1:=(TP.out.Jp 0 (by omega) HL.out.2.2.1 tt x fr ot (by show tt<(dQ P x 0).length;rw[IC,wv.1];exact tl) (by show fr<(dQ P x 0).length;rw[IC,wv.1];exact fl)).ab (Below.refl _ _).drew;have e:eR (dQ P x) 0 (((dQ P x 0).set tt x).set fr ot)=L7:=(by rw[IC];exact SL);have q2:bE V B bs b v' vS ⟨eR (dQ P x) 0 (((dQ P x 0).set tt x).set fr ot),P.sp⟩ _:=q1;rw[e] at q2;exact q2
  clear t0 t1 t2 t3 t4 t5 TP;have ZU:x<(L7 1).length:=by rw[e7,wv.2];exact xl
  have Uw:ot<(L7 1).length:=by rw[e7,wv.2];exact ol
  have u1:World.cell? _ ⟨b,1,none⟩=some (v' 1):=(Jo.cell 1 (by omega)).1;obtain⟨_,_,w1,w2,w3⟩:=Jo.num 1 (by omega) x ZU;obtain⟨_,_,x1,x2,x3⟩:=Jo.num 1 (by omega) ot Uw;have Px:v' 1=.slice (some ⟨g1,0,none⟩) m1 c1:=by rw[HL.out.2.2.2.1,wv.2]
  rw[Px] at w1 x1 u1;replace w1:=AA w1;replace x1:=AA x1;rw[<-w1] at w2 w3;rw[<-x1] at x2 x3;clear w1 x1;have J1:=hid (Zz SL (Zz e7 Px));have T7:=hid (Zz wv (Zz IC MZ));clear SL e7 Px wv IC MZ ZU Uw;have Xx:=hid Jo;clear Jo;generalize ((W6.setCell ⟨g0,tt,none⟩ (.int .i64 (x:Int))).setCell ⟨g0,fr,none⟩ (.int .i64 (ot:Int))).drew=W7 at Xx u1 w2 w3 x2 x3⊢;replace w2:∃ya,W7.cell? ⟨g1,x,none⟩=some (.int .i64 ((ya:Nat):Int)):=⟨_,w2⟩
  replace x2:∃ya,W7.cell? ⟨g1,ot,none⟩=some (.int .i64 ((ya:Nat):Int)):=⟨_,x2⟩
  obtain⟨ya,w2⟩:=w2;obtain⟨yb,x2⟩:=x2;obtain⟨xg,t5⟩:=cell?_setCell_some (w:=W7) (p:=⟨g1,x,none⟩) (x:=.int .i64 (tt:Int)) (q:=⟨g1,ot,none⟩) x2;go_upto_region 7 with fail
  go_region
  have EK:bE V B bs b v' vS ⟨eR L7 1 (((P.L 1).set x tt).set ot fr),P.sp⟩ ((W7.setCell ⟨g1,x,none⟩ (.int .i64 (tt:Int))).setCell ⟨g1,ot,none⟩ (.int .i64 (fr:Int))).drew:=by
   have q1:=(Xx.out.Jp 1 (by omega) J1.out.2.2 x tt ot fr (by show x<(L7 1).length;rw[J1.out.2.1,T7.out.1.2];exact xl) (by show ot<(L7 1).length;rw[J1.out.2.1,T7.out.1.2];exact ol)).ab (Below.refl _ _).drew;have q2:bE V B bs b v' vS ⟨eR L7 1 (((L7 1).set x tt).set ot fr),P.sp⟩ _:=q1;rw[J1.out.2.1] at q2;exact q2
  clear u1 w2 w3 x2 x3 t5;obtain⟨_,cX,x1,x2⟩:=EK.span k hkl;have gD:=CJ.out;rw[gD] at x1;replace x1:=AA x1;have y2:World.cell? _ ⟨_,k*4+2,none⟩=some (.int .i64 (((P.s k).h:Nat):Int)):=(x2 2 (by omega)).1;have y3:=(x2 2 (by omega)).2;rw[<-x1,ED.out] at y2;rw[<-x1] at y3;clear x1 x2 gD;have Xp:=hid EK;clear EK;generalize ((W7.setCell ⟨g1,x,none⟩ (.int .i64 (tt:Int))).setCell ⟨g1,ot,none⟩ (.int .i64 (fr:Int))).drew=W8 at Xp y2 y3⊢;have fp:(hh:Int)<=100000:=by omega
  have HF:Hid (bE V B bs b v' vS (jf P x) (W8.setCell ⟨MK,k*4+2,none⟩ (.int .i64 ((hh:Int)+1)))):=by
   have q:=Xp.out.wP CJ.out k 2 ⟨(P.s k).f,(P.s k).g,(P.s k).h+1,(P.s k).w⟩ hkl (by omega) (fun k' hk' hn=>by
    have:k'=0\/k'=1\/k'=3:=by omega
    rcases this with rfl|rfl|rfl <;> rfl)
   have e1:gw ⟨(P.s k).f,(P.s k).g,(P.s k).h+1,(P.s k).w⟩ 2=.int .i64 ((hh:Int)+1):=by
    show Value.int .i64 (((P.s k).h+1:Nat):Int)=_;rw[ED.out];rfl
   rw[e1] at q;refine q.congr (fun i hi=>?_) ?_
   ·show eR L7 1 (((P.L 1).set x tt).set ot fr) i=eR (eR (dQ P x) 0 (((P.L 0).set (P.to x) x).set (P.p x) (P.o (P.to x)))) 1 (((P.L 1).set x (P.to x)).set (P.o (P.to x)) (P.p x)) i;rw[HL.out.2.2.2.2.2.2.1,HL.out.2.2.2.2.2.2.2.1,HL.out.2.2.2.2.2.2.2.2,J1.out.1]
   show P.sp.set k _=P.sp.set (P.b x) _;rw[Hk.out]
  go_wp2_with fail;go_end0;exact⟨v',vS,rfl,HF.out⟩
section
variable {V : World}{B b : Nat}{bs : List Nat}{v : Nat → Value}{vS : Value}{P : Pt}{w : World}
theorem bE.c0(h:bE V B bs b v vS P w):w.cell? ⟨b,0,none⟩=some (v 0)/\w.frozen? ⟨b,0,none⟩=false:=h.cell 0 (by omega)
theorem bE.c1(h:bE V B bs b v vS P w):w.cell? ⟨b,1,none⟩=some (v 1)/\w.frozen? ⟨b,1,none⟩=false:=h.cell 1 (by omega)
theorem bE.c2(h:bE V B bs b v vS P w):w.cell? ⟨b,2,none⟩=some (v 2)/\w.frozen? ⟨b,2,none⟩=false:=h.cell 2 (by omega)
theorem bE.c3(h:bE V B bs b v vS P w):w.cell? ⟨b,4,none⟩=some (v 3)/\w.frozen? ⟨b,4,none⟩=false:=h.cell 3 (by omega)
theorem bE.c4(h:bE V B bs b v vS P w):w.cell? ⟨b,5,none⟩=some (v 4)/\w.frozen? ⟨b,5,none⟩=false:=h.cell 4 (by omega)
structure zpl (w:World)(g k:Nat)(s:nC):Prop where
 cf:w.cell? ⟨g,k*4,none⟩=some (.int .i64 (s.f:Int))
 cg:w.cell? ⟨g,k*4+1,none⟩=some (.int .i64 (s.g:Int))
 ch:w.cell? ⟨g,k*4+2,none⟩=some (.int .i64 (s.h:Int))
 cw:w.cell? ⟨g,k*4+3,none⟩=some (.bool s.w)
 z0:w.frozen? ⟨g,k*4,none⟩=false
 z2:w.frozen? ⟨g,k*4+2,none⟩=false
 z3:w.frozen? ⟨g,k*4+3,none⟩=false
theorem bE.Bf(h:bE V B bs b v vS P w){g n c:Nat}(hv:vS=.slice (some ⟨g,0,none⟩) n c)(j:Nat)(hj:j<P.sp.length):zpl w g j (P.s j):=by
 obtain⟨g',c',e,hc⟩:=h.span j hj;rw[hv] at e;obtain rfl:=AA e;exact⟨(hc 0 (by omega)).1,(hc 1 (by omega)).1,(hc 2 (by omega)).1,(hc 3 (by omega)).1,(hc 0 (by omega)).2,(hc 2 (by omega)).2,(hc 3 (by omega)).2⟩
theorem bE.NY(h:bE V B bs b v vS P w)(i:Nat)(hi:i<5){g n c:Nat}(hv:v i=.slice (some ⟨g,0,none⟩) n c)(j:Nat)(hj:j<(P.L i).length):w.cell? ⟨g,j,none⟩=some (.int .i64 (((P.L i).getD j 0:Nat):Int))/\w.frozen? ⟨g,j,none⟩=false:=by
 obtain⟨g',c',e,hc⟩:=h.num i hi j hj;rw[hv] at e;obtain rfl:=AA e;exact hc
theorem bE.sl(h:bE V B bs b v vS P w)(i:Nat)(hi:i<5){q:Nat}(hq:(P.L i).length=q)(h0:0<q):∃g c,v i=.slice (some ⟨g,0,none⟩) q c:=by
 obtain⟨g,c,e,_⟩:=h.num i hi 0 (by omega);exact⟨g,c,by rw[e,hq]⟩
theorem bE.N1(h:bE V B bs b v vS P w){q:Nat}(hq:P.sp.length=q)(h0:0<q):∃g c,vS=.slice (some ⟨g,0,none⟩) q c:=by
 obtain⟨g,c,e,_⟩:=h.span 0 (by omega);exact⟨g,c,by rw[e,hq]⟩
theorem bE.CT(h:bE V B bs b v vS P w)(i:Nat)(hi:i<5){q:Nat}(hq:(P.L i).length=q):∃a c,v i=.slice a q c:=by
 obtain⟨a,c,e⟩:=bJ (h.row i hi);exact⟨a,c,by rw[e,hq]⟩
end
theorem zm1{α:Type}(l:List α)(k:Nat)(a c:α):(l.set k a).set k c=l.set k c:=by simp
theorem Pt.qp(L:Nat->List Nat)(sp:List nC)(k j:Nat)(s:nC)(hk:k<sp.length):(⟨L,sp.set k s⟩:Pt).s j=if k=j then s else sp.getD j lN:=by
 show (sp.set k s).getD j lN=_;rw[xH];by_cases e:k=j
 ·rw[if_pos ⟨e,hk⟩,if_pos e]
 rw[if_neg (fun h=>e h.1),if_neg e]
def zpo(V:World)(B:Nat)(bs:List Nat)(b:Nat)(v0:Nat->Value)(P:Pt)(e:Ending)(w':World):Prop:=∃v vS,e=.returned (.tuple #[])/\v 3=v0 3/\bE V B bs b v vS P w'
structure YH (P:Pt)(k:Nat):Prop where
 b:k<P.sp.length
 fg:(P.s k).f<=(P.s k).g
 h:(P.s k).f+(P.s k).h<=(P.s k).g
 g:(P.s k).g<=(P.L 0).length
 part:∀x∈P.part k,x<(P.L 2).length
 n0:(P.L 0).length<=100000
 ns:P.sp.length<=100000
 n4:(P.L 4).length<=100000
theorem rY:(prog.info? 198).map (fun i=>(i.zero,i.size,i.bytes))=some (some (.agg #[.int .i64 0,.int .i64 0,.int .i64 0,.bool false]),4,32):=by kernel_rfl
theorem zhy(l xs:List Nat)(x n:Nat):bU l (xs++[x]) n=(bU l xs n).set x n:=by simp[bU,List.foldl_append]
theorem zpp(P:Pt)(k j:Nat)(hj:j<(P.s k).h):(P.part k).getD j 0=(P.L 0).getD ((P.s k).f+j) 0:=by
 unfold Pt.part;rw[List.getD_eq_getElem?_getD,List.getElem?_take_of_lt hj,List.getElem?_drop,List.getD_eq_getElem?_getD]
theorem NC(l:List Nat)(j:Nat)(h:j<l.length):l.take (j+1)=l.take j++[l.getD j 0]:=by
 rw[List.take_add_one,List.getElem?_eq_getElem h,oV _ _ _ h];rfl
theorem zpq(V:World)(B b:Nat)(bs:List Nat)(v:Nat->Value)(vS:Value)(P:Pt)(w:World)(h:bE V B bs b v vS P w)(k:Nat)(ok:YH P k):
  Calls prog 152 #[.pointer (some ⟨b,0,none⟩),.int .i64 (k:Int)] w (zpo V B bs b v (cJ P k)):=by
 have hkl:=ok.b;obtain⟨nS,wh⟩:∃nS,P.sp.length=nS:=⟨_,rfl⟩
 obtain⟨gS,cS,eS⟩:=h.N1 wh (by omega);have aS:=h.nw.1;obtain⟨f,hf⟩:∃f,(P.s k).f=f:=⟨_,rfl⟩
 obtain⟨g,hg⟩:∃g,(P.s k).g=g:=⟨_,rfl⟩
 obtain⟨hh,AK⟩:∃hh,(P.s k).h=hh:=⟨_,rfl⟩
 obtain⟨wt,DW⟩:∃wt,(P.s k).w=wt:=⟨_,rfl⟩
 obtain⟨d1,d2,d3,d4,d5,d6,d7⟩:=h.Bf eS k hkl;rw[hf] at d1;rw[hg] at d2;rw[AK] at d3;rw[DW] at d4;rw[eS] at aS;have o1:=ok.fg;have o2:=ok.h;have o3:=ok.g;have o4:=ok.n0;rw[hf,hg] at o1;rw[hf,AK,hg] at o2;rw[hg] at o3;have iS:(k:Int)<nS:=by omega
 have h1:=h.wP eS k 2 ⟨f,g,0,wt⟩ hkl (by omega) (fun k' hk' hn=>by
  have:k'=0\/k'=1\/k'=3:=by omega
  rcases this with rfl|rfl|rfl
  ·show gw _ 0=Value.int .i64 (((P.s k).f:Nat):Int);rw[hf];rfl
  ·show gw _ 1=Value.int .i64 (((P.s k).g:Nat):Int);rw[hg];rfl
  ·show gw _ 3=Value.bool (P.s k).w;rw[DW];rfl)
 replace h1:bE V B bs b v vS ⟨P.L,P.sp.set k ⟨f,g,0,wt⟩⟩ (w.setCell ⟨gS,k*4+2,none⟩ (.int .i64 0)):=h1;obtain⟨x1,x2,x3,x4,x5,x6,x7⟩:=h1.Bf eS k (by simpa using hkl);rw[Pt.qp _ _ _ _ _ hkl,if_pos rfl] at x1 x2 x3 x4;have HS:=hid (Zz hf (Zz hg (Zz AK (Zz DW (Zz eS wh)))));have H1:=hid h1;have yu:=hid ok;have i1:(g:Int)-(f:Int)<=100000:=by omega
 have i2:0<=(g:Int)-(f:Int):=by omega
 clear h ok hf hg AK DW eS wh h1;go_enter func152,ntmps152;go_upto_region 3 with fail;generalize w.setCell ⟨gS,k*4+2,none⟩ (.int .i64 0)=W1 at H1 x1 x2 x3 x4 x5 x6 x7⊢;clear d1 d2 d3 d4 d5 d6 d7 aS;by_cases mV:hh=g-f
 ·have hq:((hh:Int) == (g:Int)-(f:Int))=true:=by rw[beq_iff_eq];omega
  have HF:Hid (bE V B bs b v vS (cJ P k) W1):=by
   show bE V B bs b v vS (cJ P k) W1;have e:cJ P k=⟨P.L,P.sp.set k ⟨f,g,0,wt⟩⟩:=by
    unfold cJ;rw[HS.out.1,HS.out.2.1,HS.out.2.2.1,HS.out.2.2.2.1,if_pos mV]
   rw[e];exact H1.out
  clear mV;go_quiet (fail);go_wp2_with fail;refine bodyPost_ret (results_none rfl _ _ _) rfl ?_;exact⟨v,vS,rfl,rfl,HF.out.ab (below_drewN (Below.refl _ _) _)⟩
 have hq:((hh:Int) == (g:Int)-(f:Int))=false:=by rw[beq_eq_false_iff_ne];omega
 have wV:=hid mV;clear mV;go_quiet (fail);go_upto_region 4 with fail;generalize jY:W1.drewN _=W2;have H2:Hid (bE V B bs b v vS ⟨P.L,P.sp.set k ⟨f,g,0,wt⟩⟩ W2):=by rw[<-jY];exact H1.out.ab (below_drewN (Below.refl _ _) _)
 replace x1:W2.cell? ⟨gS,k*4,none⟩=some (.int .i64 (f:Int)):=by rw[<-jY];exact x1
 have wK:gS<W2.heap.size:=by
  have:=lB H2.out.nE gS (by rw[HS.out.2.2.2.2.1];rfl);exact this
 have x1a:(W2.alloc (.cells #[.int .i64 0,.int .i64 0,.int .i64 0,.bool false] 198)).cell? ⟨gS,k*4,none⟩=some (.int .i64 (f:Int)):=((al W2 (.cells #[.int .i64 0,.int .i64 0,.int .i64 0,.bool false] 198)).cell (p:=⟨gS,k*4,none⟩) wK).trans x1;clear jY H1 x2 x3 x4 x5 x6 x7 hq;obtain⟨fh,VD⟩:∃fh,f+hh=fh:=⟨_,rfl⟩
 have FH:=hid VD;have its:(f:Int)+(hh:Int)=fh:=by omega
 have o5:fh<=g:=by omega
 have o6:f<=fh:=by omega
 have o7:fh<(P.L 0).length:=by have:=wV.out;omega
 have w1:(fh:Int)<=100000:=by omega
 clear VD
 go_region
 obtain⟨bC,Qt⟩:∃bC,W2.heap.size=bC:=⟨_,rfl⟩
 have Lk:St (W2.alloc (.cells #[.int .i64 (f:Int),.int .i64 (fh:Int),.int .i64 0,.bool false] 198)).drew 198 bC #[.int .i64 (f:Int),.int .i64 (fh:Int),.int .i64 0,.bool false]:=by rw[<-Qt];exact (St.new W2 _ _).drew
 have M0:bE V B bs b v vS ⟨P.L,P.sp.set k ⟨f,g,0,wt⟩⟩ (W2.alloc (.cells #[.int .i64 (f:Int),.int .i64 (fh:Int),.int .i64 0,.bool false] 198)).drew:=(H2.out.ab (al W2 _)).ab (Below.refl _ _).drew;rw[Qt] at wK⊢;generalize (W2.alloc (.cells #[.int .i64 (f:Int),.int .i64 (fh:Int),.int .i64 0,.bool false] 198)).drew=W4 at Lk M0⊢;clear Qt H2 x1 x1a;obtain⟨x1,x2,x3,x4,x5,x6,x7⟩:=M0.Bf HS.out.2.2.2.2.1 k (by simpa using hkl);rw[Pt.qp _ _ _ _ _ hkl,if_pos rfl] at x1;obtain⟨y0,y1,y2,y3⟩:=Lk.bS;have oh:=M0.wP HS.out.2.2.2.2.1 k 0 ⟨fh,g,0,wt⟩ (by simpa using hkl) (by omega) (fun k' hk' hn=>by
  rw[Pt.qp _ _ _ _ _ hkl,if_pos rfl]
  have:k'=1\/k'=2\/k'=3:=by omega
  rcases this with rfl|rfl|rfl <;> rfl)
 rw[zm1] at oh;replace oh:bE V B bs b v vS ⟨P.L,P.sp.set k ⟨fh,g,0,wt⟩⟩ (W4.setCell ⟨gS,k*4,none⟩ (.int .i64 (fh:Int))):=oh;have XM:St (W4.setCell ⟨gS,k*4,none⟩ (.int .i64 (fh:Int))) 198 bC #[.int .i64 (f:Int),.int .i64 (fh:Int),.int .i64 0,.bool false]:=Lk.fq (p:=⟨gS,k*4,none⟩) (fun e=>by
  have:bC=gS:=e
  omega) _
 have H5:=hid (Zz oh XM);clear M0 Lk oh XM;go_upto_region 6 with fail;generalize W4.setCell ⟨gS,k*4,none⟩ (.int .i64 (fh:Int))=W5 at H5⊢;clear x1 x2 x3 x4 x5 x6 x7 y0 y1 y2 y3 wK;have aS:=H5.out.1.nw.1;rw[HS.out.2.2.2.2.1] at aS;obtain⟨m0,ox⟩:∃m0,(P.L 0).length=m0:=⟨_,rfl⟩
 rw[ox] at o3 o4 o7;obtain⟨g0,c0,e0⟩:=H5.out.1.sl 0 (by omega) ox (by omega);have b0:=H5.out.1.c0.1;rw[e0] at b0;have pG:m0<=c0:=by
  have ho:=H5.out.1.row 0 (by omega);rw[e0] at ho;rcases ho.2 with ⟨h1,_⟩|⟨_,cap,_,h1,_,_,h2,_⟩
  ·cases h1
  injection h1 with _ e1 e2;have h3:(P.L 0).length<=cap:=h2;omega
 obtain⟨y0,y1,y2,y3⟩:=H5.out.2.bS;have Sf:=hid (Zz e0 ox);clear e0 ox;have p1:(fh:Int)<=c0:=by omega
 have p2:(f:Int)<=fh:=by omega
 have p3:(f:Int)<c0:=by omega
 have hn:fh-f=hh:=by have:=FH.out;omega
 go_upto_region 7 with fail;go_quiet (fail);generalize sN:W5.drewN _=W6;have H6:Hid (bE V B bs b v vS ⟨P.L,P.sp.set k ⟨fh,g,0,wt⟩⟩ W6/\St W6 198 bC #[.int .i64 (f:Int),.int .i64 (fh:Int),.int .i64 0,.bool false]):=by rw[<-sN];exact⟨H5.out.1.ab (below_drewN (Below.refl _ _) _),H5.out.2⟩
 clear sN H5 y0 y1 y2 y3 b0 aS;have uG:(P.part k).length=hh:=by
  unfold Pt.part;rw[HS.out.1,HS.out.2.2.1,length_take,List.length_drop,Sf.out.2];have:=FH.out;omega
 have Rb:=hid uG;clear uG;go_wp2_with fail;clear hn;go_loopw [9,65] (fun _ vj wr=>∃j:Nat,vj=.int .i64 j/\j<=hh/\Hid (bE V B bs b v vS ⟨eR P.L 2 (bU (P.L 2) ((P.part k).take j) nS),P.sp.set k ⟨fh,g,0,wt⟩⟩ wr/\St wr 198 bC #[.int .i64 (f:Int),.int .i64 (fh:Int),.int .i64 0,.bool false])) (fun _ v _=>hh-(intOf v).toNat)
 ·refine⟨0,rfl,zero_le _,H6.out.1.congr (fun i hi=>?_) rfl,H6.out.2⟩;show P.L i=eR P.L 2 (bU (P.L 2) ((P.part k).take 0) nS) i;rw[List.take_zero];unfold eR bU;split
  ·rename_i e;rw[e];rfl
  rfl
 clear H6;obtain⟨j,rfl,hj,HL⟩:=hrel;by_cases an:j<hh
 ·obtain⟨x,hx⟩:∃x,(P.part k).getD j 0=x:=⟨_,rfl⟩
  have hxl:x<(P.L 2).length:=by
   rw[<-hx,oV _ _ _ (by rw[Rb.out];exact an)];exact yu.out.part _ (getElem_mem _)
  have ld:(P.L 0).getD (f+j) 0=x:=by
   rw[<-hx,zpp P k j (by rw[HS.out.2.2.1];exact an),HS.out.1]
  obtain⟨L8,Ga⟩:∃L8,eR P.L 2 (bU (P.L 2) ((P.part k).take j) nS)=L8:=⟨_,rfl⟩
  have l0:L8 0=P.L 0:=by rw[<-Ga];exact BJ _ _ _ _ (by omega)
  have l2:L8 2=bU (P.L 2) ((P.part k).take j) nS:=by rw[<-Ga];exact D8 _ _ _
  have hP:bE V B bs b v vS ⟨L8,P.sp.set k ⟨fh,g,0,wt⟩⟩ wr:=by rw[<-Ga];exact HL.out.1
  have hC:=HL.out.2;have r0:=(hP.NY 0 (by omega) (g:=g0) (n:=m0) (c:=c0) Sf.out.1 (f+j) (by show f+j<(L8 0).length;rw[l0,Sf.out.2];have:=FH.out;omega)).1;replace r0:wr.cell? ⟨g0,f+j,none⟩=some (.int .i64 (((L8 0).getD (f+j) 0:Nat):Int)):=r0;rw[l0,ld] at r0;obtain⟨n2,cQ⟩:∃n2,(P.L 2).length=n2:=⟨_,rfl⟩
  have V3:(L8 2).length=n2:=by rw[l2,ZA];exact cQ
  rw[cQ] at hxl;obtain⟨g2,c2,e2⟩:=hP.sl 2 (by omega) (q:=n2) V3 (by omega);have b2:=hP.c2.1;rw[e2] at b2;obtain⟨r1,r2⟩:=hP.NY 2 (by omega) e2 x (by show x<(L8 2).length;omega);have HN:Hid (bE V B bs b v vS ⟨eR P.L 2 (bU (P.L 2) ((P.part k).take (j+1)) nS),P.sp.set k ⟨fh,g,0,wt⟩⟩ (wr.setCell ⟨g2,x,none⟩ (.int .i64 (nS:Int)))/\St (wr.setCell ⟨g2,x,none⟩ (.int .i64 (nS:Int))) 198 bC #[.int .i64 (f:Int),.int .i64 (fh:Int),.int .i64 0,.bool false]):=by
   have q:=hP.put 2 (by omega) e2 x nS (by show x<(L8 2).length;omega);refine⟨q.congr (fun i hi=>?_) rfl,hC.fq (p:=⟨g2,x,none⟩) (fun e=>?_) _⟩
   ·show eR L8 2 ((L8 2).set x nS) i=eR P.L 2 (bU (P.L 2) ((P.part k).take (j+1)) nS) i;rw[l2,NC _ _ (by rw[Rb.out];exact an),hx,zhy,<-Ga];unfold eR;split <;> rfl
   have ho:=hP.row 2 (by omega);have e9:bC=g2:=e;exact ef ho hC (by decide) g2 (by rw[e2];rfl) e9.symm
  obtain⟨yb,r3⟩:∃yb,wr.cell? ⟨g2,x,none⟩=some (.int .i64 ((yb:Nat):Int)):=⟨_,r1⟩
  have i3:(x:Int)<n2:=by omega
  have i4:(j:Int)<hh:=by omega
  clear hx ld Ga l0 l2 hP hC cQ V3 e2 r1;go_wp2;go_roundw
  ·exact⟨j+1,by go_num,by omega,HN.out⟩
  simp[intOf];omega
 obtain rfl:j=hh:=by omega
 have hP:bE V B bs b v vS ⟨eR P.L 2 (bU (P.L 2) (P.part k) nS),P.sp.set k ⟨fh,g,0,wt⟩⟩ wr:=by
  have:=HL.out.1;rw[List.take_of_length_le (by rw[Rb.out];exact le_refl _)] at this;exact this
 have H9:=hid (Zz hP HL.out.2);obtain⟨bk,rJ⟩:∃bk,P.ga k=bk:=⟨_,rfl⟩
 have sw:bk=if wt=true\/j<=g-fh then nS else k:=by
  rw[<-rJ];unfold Pt.ga;rw[HS.out.1,HS.out.2.1,HS.out.2.2.1,HS.out.2.2.2.1,HS.out.2.2.2.2.2,FH.out]
 have VX:=hid rJ;obtain⟨x1,x2,_,x4,_,_,_⟩:=hP.Bf HS.out.2.2.2.2.1 k (by show k<(P.sp.set k _).length;rw[length_set];exact hkl);rw[Pt.qp _ _ _ _ _ hkl,if_pos rfl] at x1 x2 x4;clear hP rJ HL;go_upto_region 12 with fail;obtain⟨q,hq⟩:∃q:Bool,decide (wt=true\/j<=g-fh)=q:=⟨_,rfl⟩
 have Hq:=hid hq
 go_cut [93] from 77 to 92 (fun v93 wx=>v93=.bool q/\bE V B bs b v vS ⟨eR P.L 2 (bU (P.L 2) (P.part k) nS),P.sp.set k ⟨fh,g,0,wt⟩⟩ wx/\St wx 198 bC #[.int .i64 (f:Int),.int .i64 (fh:Int),.int .i64 0,.bool false])
 case first=>
  have q1:(g:Int)-(fh:Int)<=100000:=by omega
  have q2:0<=(g:Int)-(fh:Int):=by omega
  rcases hw:wt with _|_
  ·rw[hw] at x4;by_cases hle:j<=g-fh
   ·have hd:decide ((j:Int)<=g-(fh:Int))=true:=(by rw[decide_eq_true_iff];omega);have He:Hid (q=true):=(by show _=_;rw[<-hq];simp[hle]);clear sw hw hle hq;go_quiet (fail);go_wp2_with fail
    go_meet
    exact⟨by rw[He.out],H9.out.1.ab (below_drewN (Below.refl _ _) _),H9.out.2⟩
   have hd:decide ((j:Int)<=g-(fh:Int))=false:=(by rw[decide_eq_false_iff_not];omega);have He:Hid (q=false):=(by show _=_;rw[<-hq,hw];simp;omega);clear sw hw hle hq;go_quiet (fail);go_wp2_with fail
   go_meet
   exact⟨by rw[He.out],H9.out.1.ab (below_drewN (Below.refl _ _) _),H9.out.2⟩
  rw[hw] at x4;have He:Hid (q=true):=by show _=_;rw[<-hq];simp[hw]
  clear sw hw hq;go_quiet (fail);go_wp2_with fail
  go_meet
  exact⟨by rw[He.out],H9.out.1.ab (below_drewN (Below.refl _ _) _),H9.out.2⟩
 case rest=>
  obtain⟨rfl,hP,hC⟩:=hcut;clear x1 x2 x4 H9;have EM:=hid (Zz hP hC);clear hP hC;have Cy:=hid sw;clear sw hq
  go_upto_if 93 with (fail)
  go_cut [1] from 93 to 94 (fun v1 wx=>v1=.int .i64 (bk:Int)/\wx=wc)
  case first=>
   rcases q with _|_
   ·have He:Hid (bk=k):=(by show _=_;rw[Cy.out,if_neg (by have:=Hq.out;rw[decide_eq_false_iff_not] at this;exact this)]);go_wp2_with fail
    go_meet
    exact⟨by rw[He.out],rfl⟩
   have He:Hid (bk=nS):=(by show _=_;rw[Cy.out,if_pos (by have:=Hq.out;rw[decide_eq_true_iff] at this;exact this)]);go_wp2_with fail
   go_meet
   exact⟨by rw[He.out],rfl⟩
  case rest=>
   obtain⟨rfl,rfl⟩:=hcut;have De:bk<nS+1:=(by rw[Cy.out];split <;> omega);have Uh:Hid ((P.sp.set k ⟨fh,g,0,wt⟩).length=nS):=(by show _=_;rw[length_set];exact HS.out.2.2.2.2.2);have hO:=EM.out.1.nE;replace hO:ownsRow wc B 198 4 vS (P.sp.set k ⟨fh,g,0,wt⟩).length (pU (P.sp.set k ⟨fh,g,0,wt⟩)):=hO;rw[Uh.out,HS.out.2.2.2.2.1] at hO;have aS:=EM.out.1.nw.1;rw[HS.out.2.2.2.2.1] at aS;obtain⟨i0,hi,du,cH,ct⟩:=info_parts rY;obtain⟨y0,y1,y2,y3⟩:=EM.out.2.bS;have CP:=EM.out.1.st;have SC:(wc.alloc (.cells #[.int .i64 (f:Int),.int .i64 (fh:Int),.int .i64 0,.bool false] 198)).cell? ⟨b,3,none⟩=some (.slice (some ⟨gS,0,none⟩) nS cS):=((al wc _).cell (p:=⟨b,3,none⟩) CP.lt).trans aS;have hV:=EM.out.1.hB;have ns9:nS<=100000:=(by have:=yu.out.ns;rw[HS.out.2.2.2.2.2] at this;exact this);have DO:=hid CP;clear CP;go_upto_region 14 with fail
   go_cut [7] from 95 to 104 (fun v7 wx=>v7=.int .i64 (nS:Int)/\∃(a5:Option Addr) (c5:Nat),bE V B bs b v (.slice a5 (nS+1) c5) ⟨eR P.L 2 (bU (P.L 2) (P.part k) nS),dZ P k⟩ wx)
   case first=>
    go_region_law (
     refine GU (by rfl) _ _ _ (by rfl) B 198 i0 (.agg #[.int .i64 0,.int .i64 0,.int .i64 0,.bool false]) 4 32 underlying181 hi du cH ct (by rfl) (by decide) (.slice (some ⟨gS,0,none⟩) nS cS) nS (pU (P.sp.set k ⟨fh,g,0,wt⟩)) (by rfl) (by first|exact hO.drew.alloc _|exact (hO.alloc _).drew) ⟨wc.heap.size,0,none⟩ 1 1 [.int .i64 (f:Int),.int .i64 (fh:Int),.int .i64 0,.bool false] (by rfl) (by rfl) (World.news_of_block (cs:=#[.int .i64 (f:Int),.int .i64 (fh:Int),.int .i64 0,.bool false]) (by first|exact heap_alloc_new _ _|exact St.new _ _ _)) (by intro u hu;simp at hu;rcases hu with rfl|rfl|rfl|rfl <;> rfl) (by unfold maxLen;omega) (by omega) (by simp;omega) ?_
     intro v5 w5 ah ag bG
     have rE:(wc.alloc (.cells #[.int .i64 (f:Int),.int .i64 (fh:Int),.int .i64 0,.bool false] 198)).drew.grownBy w5 (Value.slice (some ⟨gS,0,none⟩) nS cS).ownBlock:=ag
     have fG:St w5 183 b (pI v vS):=(DO.out.alloc (.cells #[.int .i64 (f:Int),.int .i64 (fh:Int),.int .i64 0,.bool false] 198)).drew.ae (hO.alloc _).drew (by decide) rE
     have e5:w5.cell? ⟨b,3,none⟩=some (.slice (some ⟨gS,0,none⟩) nS cS):=by rw[fG.at_,<-HS.out.2.2.2.2.1];rfl
     have f5:=fG.aZ 3
     obtain⟨a5,c5,rfl⟩:=bJ ah)
    all_goals
     have rh:bE V B bs b v (.slice a5 (nS+1) c5) ⟨eR P.L 2 (bU (P.L 2) (P.part k) nS),dZ P k⟩ (w5.setCell ⟨b,3,none⟩ (.slice a5 (nS+1) c5)):=by
      have h2:bE V B bs b v vS ⟨eR P.L 2 (bU (P.L 2) (P.part k) nS),P.sp.set k ⟨fh,g,0,wt⟩⟩ (wc.alloc (.cells #[.int .i64 (f:Int),.int .i64 (fh:Int),.int .i64 0,.bool false] 198)).drew:=(EM.out.1.ab (al wc _)).ab (Below.refl _ _).drew;have h3:=h2.RD (v':=.slice a5 (nS+1) c5) (s:=⟨f,fh,0,false⟩) Uh.out ah (by rw[HS.out.2.2.2.2.1];exact rE) (by
       rw[HS.out.2.2.2.2.1]
       rcases bG with h|h
       ·exact inl h
       ·exact inr (inl h))
      have e:dZ P k=P.sp.set k ⟨fh,g,0,wt⟩++[⟨f,fh,0,false⟩]:=by
       unfold dZ;rw[HS.out.1,HS.out.2.1,HS.out.2.2.1,HS.out.2.2.2.1,FH.out]
      rw[e];exact h3
     clear ah ag bG rE fG e5 f5
     go_wp2_with fail
     go_meet
     exact⟨rfl,a5,c5,rh⟩
   case rest=>
    obtain⟨rfl,a5,c5,rh⟩:=hcut;clear aS SC y0 y1 y2 y3 hO;have OI:Hid ((dZ P k).length=nS+1):=(by show _=_;rw[O6,HS.out.2.2.2.2.2]);obtain⟨g5,c6,e6⟩:=rh.N1 (q:=nS+1) OI.out (by omega);rw[e6] at rh;have aS:=rh.nw.1;obtain⟨x1,x2,x3,x4,x5,x6,x7⟩:=rh.Bf rfl bk (by show bk<(dZ P k).length;rw[OI.out];exact De);have yZ:=rh.wP rfl bk 3 ⟨((dZ P k).getD bk lN).f,((dZ P k).getD bk lN).g,((dZ P k).getD bk lN).h,true⟩ (by show bk<(dZ P k).length;rw[OI.out];exact De) (by omega) (fun k' hk' hn=>by
     have:k'=0\/k'=1\/k'=2:=by omega
     rcases this with rfl|rfl|rfl <;> rfl)
    replace yZ:bE V B bs b v (.slice (some ⟨g5,0,none⟩) (nS+1) c6) ⟨eR P.L 2 (bU (P.L 2) (P.part k) nS),(dZ P k).set bk ⟨((dZ P k).getD bk lN).f,((dZ P k).getD bk lN).g,((dZ P k).getD bk lN).h,true⟩⟩ (wc.setCell ⟨g5,bk*4+3,none⟩ (.bool true)):=yZ;have x9:wc.cell? ⟨g5,bk*4+3,none⟩=some (.bool ((⟨eR P.L 2 (bU (P.L 2) (P.part k) nS),dZ P k⟩:Pt).s bk).w):=x4;generalize ((⟨eR P.L 2 (bU (P.L 2) (P.part k) nS),dZ P k⟩:Pt).s bk).w=wb at x9;have i9:(bk:Int)<nS+1:=(by omega);have i8:bk<nS+1:=De;clear rh e6 x1 x2 x3 x4 x5 x6;have tW:=hid yZ;clear yZ;obtain⟨SP,PY⟩:∃SP,(dZ P k).set bk ⟨((dZ P k).getD bk lN).f,((dZ P k).getD bk lN).g,((dZ P k).getD bk lN).h,true⟩=SP:=(⟨_,rfl⟩);obtain⟨L9,zW⟩:∃L9,eR P.L 2 (bU (P.L 2) (P.part k) nS)=L9:=(⟨_,rfl⟩);rw[PY,zW] at tW;have Yq:=hid (Zz PY zW);have l4:L9 4=P.L 4:=(by rw[<-zW];exact BJ _ _ _ _ (by omega));clear PY zW;go_upto_region 16 with fail;generalize wc.setCell ⟨g5,bk*4+3,none⟩ (.bool true)=Fm at tW⊢;clear x7 x9 aS;obtain⟨q,hq⟩:∃q,(P.L 4).length=q:=(⟨_,rfl⟩);have hO:=tW.out.row 4 (by omega);replace hO:ownsRow Fm B 3 1 (v 4) (L9 4).length (cO (L9 4)):=hO;obtain⟨a3,c3,e3⟩:=bJ hO;have a4:Fm.cell? ⟨b,5,none⟩=some (v 4):=tW.out.c4.1;rw[l4] at hO e3;rw[hq] at hO e3;rw[e3] at hO a4;have hq5:q<=100000:=(by have:=yu.out.n4;omega);have hV:=tW.out.hB;have qD:=hid e3;have Hq4:=hid hq;have Tk:=hid l4;obtain⟨i0,hi,du,cH,ct⟩:=info_parts az;clear e3 hq l4;go_wp2_with (at_builtin;refine wpList_append_own_at _ rfl _ _ 30 rfl B 3 i0 (.int .i64 0) 1 8 underlying30 hi du cH ct rfl (by decide) _ _ _ rfl (hO.alloc _) ⟨Fm.heap.size,0,none⟩ 1 1 [.int .i64 (bk:Int)] rfl rfl (cell_one_new _ _ _) ?d2 ?d3 ?d4 ?d5 ?_)
    case d2=>intro u hu;simp at hu;subst hu;rfl
    case d3=>unfold maxLen;omega
    case d4=>omega
    case d5=>simp;omega
    intro v' w5 ah ag _ bG;have h2:=tW.out.ab (al Fm (.cells #[.int .i64 (bk:Int)] 3));have fG:=h2.st.ae (hO.alloc _) (by decide) ag;have p3:w5.cell? ⟨b,5,none⟩=some (.slice a3 q c3):=(by rw[fG.at_];show some (v 4)=_;rw[qD.out]);have pf:=fG.aZ 5;have HF:Hid (bE V B bs b (sr v 4 v') (.slice (some ⟨g5,0,none⟩) (nS+1) c6) (cJ P k) (w5.setCell ⟨b,5,none⟩ v')):=by
     have h3:=h2.app (v':=v') (x:=bk) 4 (by omega) (q:=q) (by show (L9 4).length=q;rw[Tk.out];exact Hq4.out) (by show ownsRow _ _ _ _ _ _ (cO (L9 4)++_);rw[Tk.out];exact ah) (by rw[qD.out];exact ag) (by
      rw[show (Fm.alloc (.cells #[.int .i64 (bk:Int)] 3)).heap.size=Fm.heap.size+1 by simp,qD.out]
      rcases bG with h|h
      ·exact inl h
      ·exact inr (inl h))
     refine h3.congr (fun i hi=>?_) ?_
     ·unfold cJ;rw[HS.out.1,HS.out.2.1,HS.out.2.2.1,if_neg wV.out];show eR L9 4 (L9 4++[bk]) i=eR (eR P.L 2 (bU (P.L 2) (P.part k) P.sp.length)) 4 (P.L 4++[P.ga k]) i;rw[Tk.out,VX.out,HS.out.2.2.2.2.2,Yq.out.2]
     unfold cJ;rw[HS.out.1,HS.out.2.1,HS.out.2.2.1,if_neg wV.out];show SP=(dZ P k).set (P.ga k) _;rw[<-Yq.out.1,VX.out]
    obtain⟨a5',c5',rfl⟩:=bJ ah;clear ah ag bG h2 fG hO a4;go_wp2_with fail;go_end0;exact⟨sr v 4 (.slice a5' (q+1) c5'),_,rfl,rfl,HF.out⟩
theorem xa.ok{N:Nat}{P0 P:Pt}{l:List Nat}{x:Nat}(h:xa N P0 P l)(hN:N<=100000)(hx:x<N)(hn:x∉l):TA P x:=by
 obtain⟨⟨c1,c2,c3,c4⟩,_,_⟩:=VQ h.pi h.hit hx hn;refine⟨c1,by rw[h.pi.l2];exact hx,by rw[h.pi.l0];exact c2,by rw[h.pi.l0];exact c3,by rw[h.pi.l1];exact hx,by rw[h.pi.l1];exact c4,by rw[h.pi.l0];exact hN,?_⟩;have h1:(P.L 3).length<=P.sp.length:=p8 h.hit.nd (fun b hb=>((h.hit.tc b).1 hb).1);have h2:=h.pi.len;omega
theorem PI.tM{N:Nat}{P:Pt}(h:PI N P):(P.L 4).length<=N:=le_trans (p8 h.sR.1 (fun b hb=>((h.sR.2 b).1 hb).1)) h.len
theorem PI.Iw{N k:Nat}{P:Pt}(h:PI N P)(hN:N<=100000)(hk:k<P.sp.length):YH P k:=by
 obtain⟨s1,s2,s3,s4⟩:=h.sp k hk;refine⟨hk,by omega,s3,by rw[h.l0];exact s2,fun x hx=>?_,by rw[h.l0];exact hN,by have:=h.len;omega,by have:=h.tM;omega⟩;rw[h.l2];unfold Pt.part at hx;obtain⟨j,hj,e⟩:=List.getElem_of_mem hx;rw[List.getElem_take,List.getElem_drop] at e;have hj2:(P.s k).f+j<N:=by
  simp at hj;have:=h.l0;omega
 have:=(h.op _ hj2).1;unfold Pt.o at this;rw[oV _ _ _ (by rw[h.l0];exact hj2),e] at this;exact this
theorem nr.tA{w w':World}{bs:List Nat}{a:Option Addr}{l:List Nat}(h:nr w a l)(k:Kept [] bs w w')(hs:w.heap.size<=w'.heap.size)(hb:∀ad,a=some ad->ad.block∉bs):nr w' a l:=by
 intro h0;obtain⟨g,off,e,hg,hc⟩:=h h0;refine⟨g,off,e,by omega,fun j hj=>?_⟩;rw[k.na (by have:=hb _ e;exact this) hg];exact hc j hj
theorem Uf(N:Nat)(hN:N<=100000)(V:World)(B b:Nat)(bs:List Nat)(v:Nat->Value)(vS:Value)(P:Pt)(w:World)(h:bE V B bs b v vS P w)(hz:PZ N P)(l:List Nat)(q:Nat)(hq:l.length=q)(jr:l.Nodup)(hl:∀x∈l,x<N)(aL:Option Addr)(cL:Nat)(hL:nr V aL l)(hb:∀ad,aL=some ad->ad.block∉bs):
  Calls prog 126 #[.pointer (some ⟨b,0,none⟩),.slice aL q cL] w (OL V B bs b (mc P l)):=by
 have UZ:q<=N:=by rw[<-hq];exact p8 jr hl
 obtain⟨d1,d2⟩:=Wx hz;obtain⟨a3,c3,e3⟩:=h.CT 3 (by omega) rfl;have a4:=h.c3;have h1:=h.xV 3 (by omega) e3 0 (zero_le _);have H1:Hid (∃v',bE V B bs b v' vS (kX P) (w.setCell ⟨b,4,none⟩ (.slice a3 0 c3))):=⟨_,h1.congr (fun i hi=>by show eR P.L 3 ((P.L 3).take 0) i=eR P.L 3 [] i;rw[List.take_zero]) rfl⟩
 obtain⟨n3,lq⟩:∃n3,(P.L 3).length=n3:=⟨_,rfl⟩
 have hns3:n3<=c3:=by
  have ho:=h.row 3 (by omega);rw[e3] at ho;rcases ho.2 with ⟨h1,_⟩|⟨_,cap,_,h1,_,_,h2,_⟩
  ·injection h1 with _ e1 e2;omega
  injection h1 with _ e1 e2;have h3:(P.L 3).length<=cap:=h2;omega
 rw[e3,lq] at a4;obtain⟨a41,a42⟩:=a4;have HX:=hid (Zz hq (Zz jr (Zz hl (Zz hL (Zz hb (Zz d1 (Zz d2 hz)))))));clear h hz hq jr hl hL hb d1 d2 h1 e3 lq;go_enter func126,ntmps126;go_upto_region 1 with fail;generalize w.setCell ⟨b,4,none⟩ (.slice a3 0 c3)=W1 at H1⊢;clear a41 a42;go_wp2_with fail;go_loopw [5,18] (fun _ v wr=>∃k:Nat,v=.int .i64 k/\k<=q/\Hid (∃v' vS',bE V B bs b v' vS' (hJ (kX P) (l.take k)) wr)) (fun _ v _=>q-(intOf v).toNat)
 ·obtain⟨v',hv⟩:=H1.out;exact⟨0,rfl,zero_le _,v',vS,hv⟩
 clear H1;obtain⟨k,rfl,hk,HL⟩:=hrel;by_cases an:k<q
 ·obtain⟨v',vS',hP⟩:=HL.out;have hkl:k<l.length:=by rw[HX.out.1];exact an
  have hR:=N6 HX.out.2.2.2.2.2.1 HX.out.2.2.2.2.2.2.1 l HX.out.2.1 HX.out.2.2.1 k (by omega);have J7:l[k]∉l.take k:=fun hm=>by
   obtain⟨j,hj,e2⟩:=List.getElem_of_mem hm;rw[List.getElem_take] at e2;have hjk:j<k:=(by simp at hj;omega);have:=(List.getElem_inj (h₀:=by omega) (h₁:=hkl) HX.out.2.1).1 e2;omega
  have ok:=hR.ok hN (HX.out.2.2.1 _ (getElem_mem hkl)) J7;obtain⟨g,off,rfl,hg,pG⟩:=(nr.tA HX.out.2.2.2.1 hP.kept hP.below.size HX.out.2.2.2.2.1) (by omega);have hc:wr.cell? ⟨g,off+k,none⟩=some (.int .i64 ((l.getD k 0:Nat):Int)):=pG k hkl;rw[oV _ _ _ hkl] at hc;have HC:=hid (zpk V B b bs v' vS' _ wr hP l[k] ok);have HS:Hid (jf (hJ (kX P) (l.take k)) l[k]=hJ (kX P) (l.take (k+1))):=by
   show _=_;rw[<-Wv,NC _ _ hkl,oV _ _ _ hkl]
  have i1:(k:Int)<q:=by omega
  clear hR J7 ok pG hP HL;generalize l[k]=x at hc HC HS;go_wp2_with fail;refine HC.out.mono ?_;rintro e w5 ⟨v5,rR,rfl,oh⟩;rw[HS.out] at oh;have yE:=hid oh;clear oh HC;go_wp2;go_roundw
  ·exact⟨k+1,by go_num,by omega,v5,rR,yE.out⟩
  simp[intOf];omega
 obtain rfl:k=q:=by omega
 obtain⟨v',vS',hP⟩:=HL.out;rw[List.take_of_length_le (by rw[HX.out.1];exact le_refl _)] at hP;have hR:=N6 HX.out.2.2.2.2.2.1 HX.out.2.2.2.2.2.2.1 l HX.out.2.1 HX.out.2.2.1 l.length (le_refl _);rw[List.take_length] at hR;obtain⟨P2,sy⟩:∃P2,hJ (kX P) l=P2:=⟨_,rfl⟩
 have HE:Hid (mc P l=jJ P2 (P2.L 3)):=by show _=_;rw[<-sy];rfl
 rw[sy] at hP hR;obtain⟨T,hT⟩:∃T,P2.L 3=T:=⟨_,rfl⟩
 obtain⟨m,hm⟩:∃m,T.length=m:=⟨_,rfl⟩
 obtain⟨aT,cT,eT⟩:=hP.CT 3 (by omega) (q:=m) (by rw[hT];exact hm);have b3:=hP.c3.1;rw[eT] at b3;have HR:=hid (Zz hR (Zz hT (Zz hm eT)));have Uk:m<=N:=by
  have h1:(P2.L 3).length<=P2.sp.length:=p8 hR.hit.nd (fun b hb=>((hR.hit.tc b).1 hb).1);have h2:=hR.pi.len;rw[hT,hm] at h1;omega
 have HP:=hid hP;clear hP hR sy hT hm eT HL;go_wp2_with fail;clear b3;obtain⟨W9,rfl⟩:∃W9,W9=wr:=⟨wr,rfl⟩
 go_loopw [7,31] (fun _ v wq=>∃j:Nat,v=.int .i64 j/\j<=m/\Hid (∃v5 rR,v5 3=.slice aT m cT/\bE V B bs b v5 rR (jJ P2 (T.take j)) wq)) (fun _ v _=>m-(intOf v).toNat)
 ·exact⟨0,rfl,zero_le _,v',vS',HR.out.2.2.2,HP.out⟩
 clear HP;obtain⟨j,rfl,hj,HL⟩:=hrel;by_cases ml:j<m
 ·obtain⟨v5,rR,e5,hP⟩:=HL.out;have hjl:j<T.length:=by rw[HR.out.2.2.1];exact ml
  have hC:=ZS (S:=fun x=>x∈l) HR.out.1.pi T (by rw[<-HR.out.2.1];exact U0 HR.out.1.hit) (by rw[<-HR.out.2.1];exact HR.out.1.hit.nd) (fun b hb=>by rw[<-HR.out.2.1] at hb;exact ((HR.out.1.hit.tc b).1 hb).1) j (by omega);have ok:=hC.pi.Iw hN (k:=T[j]) (by
   have h9:T[j]∈P2.L 3:=by rw[HR.out.2.1];exact getElem_mem hjl
   have:=((HR.out.1.hit.tc _).1 h9).1
   have:=hC.len
   omega)
  have GN:(jJ P2 (T.take j)).L 3=T:=hC.o3.trans HR.out.2.1;obtain⟨g,c,eg,hc,_⟩:=hP.num 3 (by omega) j (by rw[GN];exact hjl);rw[GN,oV _ _ _ hjl] at hc;rw[e5] at eg;obtain⟨rfl⟩:aT=some ⟨g,0,none⟩:=by injection eg
  have HC:=hid (zpq V B b bs v5 rR _ wr hP T[j] ok);have HS:Hid (cJ (jJ P2 (T.take j)) T[j]=jJ P2 (T.take (j+1))):=by
   show _=_;rw[<-TJ,NC _ _ hjl,oV _ _ _ hjl]
  have i1:(j:Int)<m:=by omega
  have He5:=hid e5;clear hC ok GN eg hP HL e5;generalize T[j]=x at hc HC HS;go_wp2_with fail;refine HC.out.mono ?_;rintro e w5 ⟨v6,vS6,rfl,e6,oh⟩;rw[HS.out] at oh;rw[He5.out] at e6;have yE:=hid (Zz e6 oh);clear oh HC e6;go_wp2;go_roundw
  ·exact⟨j+1,by go_num,by omega,v6,vS6,yE.out⟩
  simp[intOf];omega
 obtain rfl:j=m:=by omega
 obtain⟨v5,rR,e5,hP⟩:=HL.out;rw[List.take_of_length_le (by rw[HR.out.2.2.1];exact le_refl _),<-HR.out.2.1,<-HE.out] at hP;have HP:=hid hP;clear hP HL e5;go_wp2_with fail;go_end0;exact⟨v5,rR,rfl,HP.out⟩
end Go.Proofs.YtbacgnhkapancaaGreat
