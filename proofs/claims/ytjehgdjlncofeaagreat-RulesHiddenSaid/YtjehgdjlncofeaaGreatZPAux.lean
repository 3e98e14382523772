import Derived.Test.YtjehgdjlncofeaaGreatZMCol
set_option linter.unusedVariables false
set_option linter.unusedSimpArgs false
set_option maxHeartbeats 4000000
set_option maxRecDepth 100000
open Go.Lib (hid)
namespace Go.Proofs.YtjehgdjlncofeaaGreat
open Go.RowKit Go.Maps Go.WideElems Go.ChangeMaps Go.MapKept
def fld (s:Sp9) (k:Nat):Value:=if k=0 then .int .i64 ((s.f:Nat):Int) else if k=1 then .int .i64 ((s.g:Nat):Int) else if k=2 then .int .i64 ((s.h:Nat):Int) else .bool s.w
def sps (l:List Sp9):List Value:=l.flatMap fun s=>[fld s 0,fld s 1,fld s 2,fld s 3]
theorem zhf (s:Sp9) (l:List Sp9):sps (s :: l)=[fld s 0,fld s 1,fld s 2,fld s 3]++sps l:=by simp[sps]
theorem zm2 (l:List Sp9):(sps l).length=l.length*4:=by
 induction l with
 | nil=>rfl
 | cons s l ih=>rw[zhf,List.length_append,ih];simp;omega
theorem zgj (l:List Sp9):∀j,(sps l)[j]?=(l[j / 4]?).map fun s=>fld s (j % 4):=by
 induction l with
 | nil=>intro j;simp[sps]
 | cons s l ih=>
  intro j
  rw[zhf]
  by_cases h:j<4
  ·rw[List.getElem?_append_left (by simpa using h),show j / 4=0 by omega,show j % 4=j by omega]
   have:j=0\/j=1\/j=2\/j=3:=by omega
   rcases this with rfl|rfl|rfl|rfl <;> rfl
  ·rw[List.getElem?_append_right (by simp;omega),show ([fld s 0,fld s 1,fld s 2,fld s 3]:List Value).length=4 from rfl,ih,show j / 4=(j-4) / 4+1 by omega,show j % 4=(j-4) % 4 by omega,List.getElem?_cons_succ]
theorem zk1 (l:List Sp9) (s:Sp9):sps (l++[s])=sps l++[fld s 0,fld s 1,fld s 2,fld s 3]:=by simp[sps]
theorem zn0 (l:List Sp9) (b k:Nat) (hb:b<l.length) (hk:k<4):(sps l)[b*4+k]?=some (fld (l.getD b sp0) k):=by
 rw[zgj,show (b*4+k) / 4=b by omega,show (b*4+k) % 4=k by omega,List.getElem?_eq_getElem hb,zaH _ _ _ hb]
 rfl
theorem zm3 (l:List Sp9) (b k:Nat) (s:Sp9) (hb:b<l.length) (hk:k<4) (hs:∀k',k'<4->k'≠k->fld s k'=fld (l.getD b sp0) k'):sps (l.set b s)=(sps l).set (b*4+k) (fld s k):=by
 apply List.ext_getElem?
 intro j
 rw[zgj,List.getElem?_set,List.getElem?_set,zm2,zgj]
 by_cases e:b=j / 4
 ·subst e
  rw[if_pos rfl,if_pos hb]
  by_cases e2:j / 4*4+k=j
  ·rw[if_pos e2,if_pos (by omega),show j % 4=k by omega]
   rfl
  ·rw[if_neg e2,List.getElem?_eq_getElem hb,<-zaH _ _ sp0 hb]
   show some (fld s (j % 4))=some _
   rw[hs (j % 4) (by omega) (by omega)]
 ·rw[if_neg e,if_neg (by omega)]
theorem zh5 (l:List Nat) (j x:Nat):(zai l).set j (.int .i64 (x:Int))=zai (l.set j x):=by simp[zai,List.map_set]
theorem zgk (l:List Nat) (j:Nat) (h:j<l.length):(zai l)[j]?=some (.int .i64 ((l.getD j 0:Nat):Int)):=by rw[za8 l j h,zaH l j 0 h]
theorem zje {w:World}{B t size n c:Nat}{a:Option Addr}{xs:List Value}(h:w.ownsRow B t size (.slice a n c) n xs) (k:Nat) (hk:k<=n):w.ownsRow B t size (.slice a k c) k (xs.take (k*size)):=by
 have hl:k*size<=n*size:=Nat.mul_le_mul_right size hk
 refine⟨by rw[List.length_take,h.1];omega,?_⟩
 rcases h.2 with ⟨h1,h2⟩|⟨g,cap,cur,h1,h3,h4,h5,h6,h7,h8⟩
 ·injection h1 with e1 e2 e3
  have hk0:k=0:=by omega
  subst hk0
  rw[e1,e3]
  exact Or.inl ⟨rfl,rfl⟩
 ·injection h1 with e1 e2 e3
  rw[e1,e3]
  refine Or.inr ⟨g,cap,cur,rfl,h3,h4,by omega,h6,h7,?_⟩
  rw[<-h8,List.take_take,Nat.min_eq_left hl]
def of9 (i:Nat):Nat:=if i<3 then i else i+1
def upv (v:Nat->Value) (i:Nat) (u:Value):Nat->Value:=fun j=>if j=i then u else v j
theorem zbv (v:Nat->Value) (i:Nat) (u:Value):upv v i u i=u:=if_pos rfl
theorem zcj (v:Nat->Value) (i j:Nat) (u:Value) (h:j≠i):upv v i u j=v j:=if_neg h
theorem zcd (L:Nat->List Nat) (i:Nat) (u:List Nat):up9 L i u i=u:=if_pos rfl
theorem zdu (L:Nat->List Nat) (i j:Nat) (u:List Nat) (h:j≠i):up9 L i u j=L j:=if_neg h
def pcs9 (v:Nat->Value) (vS:Value):Array Value:=#[v 0,v 1,v 2,vS,v 3,v 4]
structure PtM (V:World) (B:Nat) (bs:List Nat) (b:Nat) (v:Nat->Value) (vS:Value) (P:Pt) (w:World):Prop where
 kept:Kept [] bs V w
 below:Below B V w
 st:St w 183 b (pcs9 v vS)
 row:∀i,i<5->w.ownsRow B 3 1 (v i) (P.L i).length (zai (P.L i))
 sep:∀i j,i<5->j<5->i≠j->∀g,(v i).ownBlock=some g->(v j).ownBlock≠some g
 spn:w.ownsRow B 198 4 vS P.sp.length (sps P.sp)
 loc:∀i,i<5->∀g,(v i).ownBlock=some g->g∈bs\/V.heap.size<=g
 locS:∀g,vS.ownBlock=some g->g∈bs\/V.heap.size<=g
 inb:b∈bs
 lo:B<=b/\B<=V.heap.size
section
variable {V : World}{B b : Nat}{bs : List Nat}{v : Nat → Value}{vS : Value}{P : Pt}{w : World}
theorem PtM.hB (h:PtM V B bs b v vS P w):B<=w.heap.size:=Nat.le_trans h.lo.2 h.below.size
theorem PtM.keep {w1:World}(h:PtM V B bs b v vS P w) (k:Below w.heap.size w w1):PtM V B bs b v vS P w1:=
 ⟨h.kept.below k,h.below.trans (k.mono h.hB),h.st.keep k,fun i hi=>zab (h.row i hi) k,h.sep,zab h.spn k,h.loc,h.locS,h.inb,h.lo⟩
theorem zm4 (v:Nat->Value) (vS:Value) (i:Nat) (hi:i<5):(pcs9 v vS)[of9 i]?=some (v i):=by
 have:i=0\/i=1\/i=2\/i=3\/i=4:=by omega
 rcases this with rfl|rfl|rfl|rfl|rfl <;> rfl
theorem zhg (v:Nat->Value) (vS u:Value) (i:Nat) (hi:i<5):(pcs9 v vS).setIfInBounds (of9 i) u=pcs9 (upv v i u) vS:=by
 have:i=0\/i=1\/i=2\/i=3\/i=4:=by omega
 rcases this with rfl|rfl|rfl|rfl|rfl <;> rfl
theorem zjf (v:Nat->Value) (vS u:Value):(pcs9 v vS).setIfInBounds 3 u=pcs9 v u:=rfl
theorem PtM.cell (h:PtM V B bs b v vS P w) (i:Nat) (hi:i<5):w.cell? ⟨b,of9 i,none⟩=some (v i)/\w.frozen? ⟨b,of9 i,none⟩=false:=⟨by rw[h.st.at_,zm4 v vS i hi],h.st.thaw_ _⟩
theorem PtM.cellS (h:PtM V B bs b v vS P w):w.cell? ⟨b,3,none⟩=some vS/\w.frozen? ⟨b,3,none⟩=false:=⟨by rw[h.st.at_];rfl,h.st.thaw_ _⟩
theorem PtM.num (h:PtM V B bs b v vS P w) (i:Nat) (hi:i<5) (j:Nat) (hj:j<(P.L i).length):∃g c,v i=.slice (some ⟨g,0,none⟩) (P.L i).length c/\w.cell? ⟨g,j,none⟩=some (.int .i64 (((P.L i).getD j 0:Nat):Int))/\w.frozen? ⟨g,j,none⟩=false:=by
 have ho:=h.row i hi
 obtain⟨a,c,e⟩:=zaa ho
 rw[e] at ho⊢
 obtain⟨g,rfl,_,_,hc⟩:=zae ho (by omega)
 obtain⟨h1,h2⟩:=hc j (by omega)
 exact⟨g,c,rfl,by rw[h1,zgk _ _ hj],h2⟩
theorem PtM.span (h:PtM V B bs b v vS P w) (j:Nat) (hj:j<P.sp.length):∃g c,vS=.slice (some ⟨g,0,none⟩) P.sp.length c/\∀k,k<4->w.cell? ⟨g,j*4+k,none⟩=some (fld (P.s j) k)/\w.frozen? ⟨g,j*4+k,none⟩=false:=by
 have ho:=h.spn
 obtain⟨a,c,e⟩:=zaa ho
 rw[e] at ho⊢
 obtain⟨g,rfl,_,_,hc⟩:=zae ho (by omega)
 refine⟨g,c,rfl,fun k hk=>?_⟩
 obtain⟨h1,h2⟩:=hc (j*4+k) (by omega)
 exact⟨by rw[h1,zn0 _ _ _ hj hk];rfl,h2⟩
theorem PtM.ne (h:PtM V B bs b v vS P w):(∀i,i<5->∀g,(v i).ownBlock=some g->g≠b)/\(∀g,vS.ownBlock=some g->g≠b)/\(∀i,i<5->∀g,(v i).ownBlock=some g->vS.ownBlock≠some g):=
 ⟨fun i hi=>zaq (h.row i hi) h.st (by decide),zaq h.spn h.st (by decide),fun i hi=>zan (h.row i hi) h.spn (by decide)⟩
theorem PtM.put (h:PtM V B bs b v vS P w) (i:Nat) (hi:i<5) {g n c:Nat}(hv:v i=.slice (some ⟨g,0,none⟩) n c) (j x:Nat) (hj:j<(P.L i).length):
  PtM V B bs b v vS ⟨up9 P.L i ((P.L i).set j x),P.sp⟩ (w.setCell ⟨g,j,none⟩ (.int .i64 (x:Int))):=by
 have hg:(v i).ownBlock=some g:=by rw[hv];rfl
 have hk:Kept [] [g] w (w.setCell ⟨g,j,none⟩ (.int .i64 (x:Int))):=(Kept.refl _ _ _).setCell _ _ (Or.inl (by simp))
 have hn:n=(P.L i).length:=by
  obtain⟨a,c',e⟩:=zaa (h.row i hi)
  rw[hv] at e
  injection e
 refine⟨h.kept.setCell _ _ ((h.loc i hi g hg).elim Or.inl (fun x=>Or.inr (Or.inl x))),h.below.setCell (p:=⟨g,j,none⟩) (zas (h.row i hi) g hg) _,h.st.far (p:=⟨g,j,none⟩) (fun e=>h.ne.1 i hi g hg e.symm) _,fun k hk5=>?_,h.sep,zal h.spn hk (by simp) (fun g2 e hm=>h.ne.2.2 i hi g hg (by rw[e,List.mem_singleton.1 hm])),h.loc,h.locS,h.inb,h.lo⟩
 by_cases e:k=i
 ·subst e
  simp only[zcd]
  have ho:=h.row k hi
  rw[hv,<-hn] at ho
  have:=za9 ho j (by omega) (.int .i64 (x:Int))
  rw[zh5] at this
  rw[hv,List.length_set,<-hn]
  exact this
 ·simp only[zdu _ _ _ _ e]
  exact zal (h.row k hk5) hk (by simp) (fun g2 e2 hm=>h.sep i k hi hk5 (fun e3=>e e3.symm) g hg (by rw[e2,List.mem_singleton.1 hm]))
theorem PtM.putS (h:PtM V B bs b v vS P w) {g n c:Nat}(hv:vS=.slice (some ⟨g,0,none⟩) n c) (j k:Nat) (s:Sp9) (hj:j<P.sp.length) (hk:k<4) (hs:∀k',k'<4->k'≠k->fld s k'=fld (P.s j) k'):
  PtM V B bs b v vS ⟨P.L,P.sp.set j s⟩ (w.setCell ⟨g,j*4+k,none⟩ (fld s k)):=by
 have hg:vS.ownBlock=some g:=by rw[hv];rfl
 have hkp:Kept [] [g] w (w.setCell ⟨g,j*4+k,none⟩ (fld s k)):=(Kept.refl _ _ _).setCell _ _ (Or.inl (by simp))
 have hn:n=P.sp.length:=by
  obtain⟨a,c',e⟩:=zaa h.spn
  rw[hv] at e
  injection e
 refine⟨h.kept.setCell _ _ ((h.locS g hg).elim Or.inl (fun x=>Or.inr (Or.inl x))),h.below.setCell (p:=⟨g,j*4+k,none⟩) (zas h.spn g hg) _,h.st.far (p:=⟨g,j*4+k,none⟩) (fun e=>h.ne.2.1 g hg e.symm) _,fun i hi=>zal (h.row i hi) hkp (by simp) (fun g2 e hm=>h.ne.2.2 i hi g2 e (by rw[hg,List.mem_singleton.1 hm])),h.sep,?_,h.loc,h.locS,h.inb,h.lo⟩
 have ho:=h.spn
 rw[hv,<-hn] at ho
 have:=zeG ho (j*4+k) (by omega) (fld s k)
 show World.ownsRow _ _ _ _ _ (P.sp.set j s).length (sps (P.sp.set j s))
 rw[List.length_set,zm3 _ _ _ _ hj hk hs,hv,<-hn]
 exact this
theorem PtM.app {w':World}{v':Value}{x q:Nat}(h:PtM V B bs b v vS P w) (i:Nat) (hi:i<5) (hq:(P.L i).length=q) (ho:w'.ownsRow B 3 1 v' (q+1) (zai (P.L i)++[.int .i64 (x:Int)])) (hg:w.grownBy w' (v i).ownBlock)
  (hat:v'.ownBlock=(v i).ownBlock\/v'.ownBlock=some w.heap.size\/∃g,v'.ownBlock=some g/\w.heap.size<=g):PtM V B bs b (upv v i v') vS ⟨up9 P.L i (P.L i++[x]),P.sp⟩ (w'.setCell ⟨b,of9 i,none⟩ v'):=by
 subst hq
 have hst:St w' 183 b (pcs9 v vS):=h.st.grown_own (h.row i hi) (by decide) hg
 have hat2:∀g,v'.ownBlock=some g->(v i).ownBlock=some g\/w.heap.size<=g:=fun g e=>by
  rcases hat with e1|e1|⟨g2,e1,e2⟩
  ·exact Or.inl (by rw[<-e1];exact e)
  ·rw[e] at e1;injection e1 with e1;exact Or.inr (by omega)
  ·rw[e] at e1;injection e1 with e1;exact Or.inr (by omega)
 have hlt:∀j,j<5->∀g,(v j).ownBlock=some g->g<w.heap.size:=fun j hj=>zaE (h.row j hj)
 have hB:Below B V w':=zac h.below (h.row i hi) h.hB hg
 refine⟨(h.kept.grown hg (fun g e=>(h.loc i hi g e).elim Or.inl (fun x=>Or.inr (Or.inl x)))).setCell _ _ (Or.inl h.inb),hB.setCell (p:=⟨b,of9 i,none⟩) h.lo.1 _,?_,fun j hj=>?_,fun j k hj hk hjk g=>?_,zau (zav h.spn (h.row i hi) (by decide) hg) hst (by decide) _ _,fun j hj g=>?_,h.locS,h.inb,h.lo⟩
 ·rw[<-zhg v vS v' i hi];exact hst.set _ _
 ·by_cases e:j=i
  ·subst e
   simp only[zbv,zcd]
   rw[zaL,List.length_append]
   exact zau ho hst (by decide) _ _
  ·simp only[zcj _ _ _ _ e,zdu _ _ _ _ e]
   exact zau (zaG (h.row j hj) hg (fun g e1 e2=>h.sep j i hj hi e g e1 e2.symm)) hst (by decide) _ _
 ·by_cases e1:j=i
  ·subst e1
   rw[zbv,zcj _ _ _ _ (fun e=>hjk e.symm)]
   intro e2 e3
   rcases hat2 g e2 with e4|e4
   ·exact h.sep j k hj hk hjk g e4 e3
   ·have:=hlt k hk g e3;omega
  ·rw[zcj _ _ _ _ e1]
   by_cases e2:k=i
   ·subst e2
    rw[zbv]
    intro e3 e4
    rcases hat2 g e4 with e5|e5
    ·exact h.sep j k hj hk hjk g e3 e5
    ·have:=hlt j hj g e3;omega
   ·rw[zcj _ _ _ _ e2]
    exact h.sep j k hj hk hjk g
 ·by_cases e:j=i
  ·subst e
   rw[zbv]
   intro e2
   rcases hat2 g e2 with e3|e3
   ·exact h.loc j hj g e3
   ·exact Or.inr (Nat.le_trans h.below.size e3)
  ·rw[zcj _ _ _ _ e]
   exact h.loc j hj g
theorem PtM.appS {w':World}{v':Value}{s:Sp9}{q:Nat}(h:PtM V B bs b v vS P w) (hq:P.sp.length=q) (ho:w'.ownsRow B 198 4 v' (q+1) (sps P.sp++[fld s 0,fld s 1,fld s 2,fld s 3])) (hg:w.grownBy w' vS.ownBlock)
  (hat:v'.ownBlock=vS.ownBlock\/v'.ownBlock=some w.heap.size\/∃g,v'.ownBlock=some g/\w.heap.size<=g):PtM V B bs b v v' ⟨P.L,P.sp++[s]⟩ (w'.setCell ⟨b,3,none⟩ v'):=by
 subst hq
 have hst:St w' 183 b (pcs9 v vS):=h.st.grown_own h.spn (by decide) hg
 have hB:Below B V w':=zac h.below h.spn h.hB hg
 refine⟨(h.kept.grown hg (fun g e=>(h.locS g e).elim Or.inl (fun x=>Or.inr (Or.inl x)))).setCell _ _ (Or.inl h.inb),hB.setCell (p:=⟨b,3,none⟩) h.lo.1 _,?_,fun j hj=>zau (zav (h.row j hj) h.spn (by decide) hg) hst (by decide) _ _,h.sep,?_,h.loc,fun g e=>?_,h.inb,h.lo⟩
 ·rw[<-zjf v vS v'];exact hst.set _ _
 ·show World.ownsRow _ _ _ _ _ (P.sp++[s]).length (sps (P.sp++[s]))
  rw[zk1,List.length_append]
  exact zau ho hst (by decide) _ _
 ·rcases hat with e1|e1|⟨g2,e1,e2⟩
  ·exact h.locS g (by rw[<-e1];exact e)
  ·rw[e] at e1;injection e1 with e1;exact Or.inr (by have:=h.below.size;omega)
  ·rw[e] at e1;injection e1 with e1;exact Or.inr (by have:=h.below.size;omega)
theorem PtM.cutoff (h:PtM V B bs b v vS P w) (i:Nat) (hi:i<5) {a:Option Addr}{n c:Nat}(hv:v i=.slice a n c) (k:Nat) (hk:k<=(P.L i).length):
  PtM V B bs b (upv v i (.slice a k c)) vS ⟨up9 P.L i ((P.L i).take k),P.sp⟩ (w.setCell ⟨b,of9 i,none⟩ (.slice a k c)):=by
 have ho:=h.row i hi
 have hn:n=(P.L i).length:=by
  obtain⟨a,c',e⟩:=zaa ho
  rw[hv] at e
  injection e
 rw[hv,<-hn] at ho
 have ho2:=zje ho k (by omega)
 have hbk:(Value.slice a k c).ownBlock=(v i).ownBlock:=by rw[hv];cases a <;> rfl
 refine⟨h.kept.setCell _ _ (Or.inl h.inb),h.below.setCell (p:=⟨b,of9 i,none⟩) h.lo.1 _,?_,fun j hj=>?_,fun j l hj hl hjl g=>?_,zau h.spn h.st (by decide) _ _,fun j hj g=>?_,h.locS,h.inb,h.lo⟩
 ·rw[<-zhg v vS _ i hi];exact h.st.set _ _
 ·by_cases e:j=i
  ·subst e
   simp only[zbv,zcd]
   rw[show zai ((P.L j).take k)=(zai (P.L j)).take (k*1) by simp[zai,List.map_take],List.length_take,Nat.min_eq_left hk]
   exact zau ho2 h.st (by decide) _ _
  ·simp only[zcj _ _ _ _ e,zdu _ _ _ _ e]
   exact zau (h.row j hj) h.st (by decide) _ _
 ·have hh:=h.sep j l hj hl hjl g
  by_cases e1:j=i
  ·subst e1
   rw[zbv,zcj _ _ _ _ (fun e=>hjl e.symm),hbk]
   exact hh
  ·rw[zcj _ _ _ _ e1]
   by_cases e2:l=i
   ·subst e2
    rw[zbv,hbk]
    exact hh
   ·rw[zcj _ _ _ _ e2]
    exact hh
 ·by_cases e:j=i
  ·subst e
   rw[zbv,hbk]
   exact h.loc j hj g
  ·rw[zcj _ _ _ _ e]
   exact h.loc j hj g
def pblks (b:Nat) (v:Nat->Value) (vS:Value):List Nat:=b :: (vS.ownBlock.toList++(List.range 5).flatMap fun i=>(v i).ownBlock.toList)
theorem zaN {b:Nat}{v:Nat->Value}{vS:Value}{x:Nat}:x∈pblks b v vS↔x=b\/vS.ownBlock=some x\/∃i,i<5/\(v i).ownBlock=some x:=by
 unfold pblks
 rw[List.mem_cons,List.mem_append,List.mem_flatMap]
 simp only[Option.mem_toList,Option.mem_def,List.mem_range]
theorem PtM.start (h:PtM V B bs b v vS P w):PtM w B (pblks b v vS) b v vS P w:=
 ⟨Kept.refl _ _ _,Below.refl _ _,h.st,h.row,h.sep,h.spn,fun i hi g e=>Or.inl (zaN.2 (Or.inr (Or.inr ⟨i,hi,e⟩))),fun g e=>Or.inl (zaN.2 (Or.inr (Or.inl e))),zaN.2 (Or.inl rfl),h.lo.1,h.hB⟩
theorem PtM.blks (h:PtM V B bs b v vS P w):∀x∈pblks b v vS,x∈bs\/V.heap.size<=x:=fun x hx=>by
 rcases zaN.1 hx with rfl|e|⟨i,hi,e⟩
 ·exact Or.inl h.inb
 ·exact h.locS x e
 ·exact h.loc i hi x e
theorem PtM.back {v':Nat->Value}{vS':Value}{P':Pt}{w':World}(h:PtM V B bs b v vS P w) (h2:PtM w B (pblks b v vS) b v' vS' P' w'):PtM V B bs b v' vS' P' w':=by
 have up:∀x,x∈pblks b v vS\/w.heap.size<=x->x∈bs\/V.heap.size<=x:=fun x hx=>by
  rcases hx with hx|hx
  ·exact h.blks x hx
  ·exact Or.inr (Nat.le_trans h.below.size hx)
 refine⟨fun k o hk ho hn=>h2.kept k o (h.kept k o hk ho hn) ho (fun hm=>?_),h.below.trans h2.below,h2.st,h2.row,h2.sep,h2.spn,fun i hi g e=>up g (h2.loc i hi g e),fun g e=>up g (h2.locS g e),h.inb,h.lo⟩
 rcases h.blks k hm with h3|h3
 ·exact hn h3
 ·have:=(Array.getElem?_eq_some_iff.1 hk).1;omega
theorem PtM.congr {P':Pt}(h:PtM V B bs b v vS P w) (e1:∀i,i<5->P.L i=P'.L i) (e2:P.sp=P'.sp):PtM V B bs b v vS P' w:=
 ⟨h.kept,h.below,h.st,fun i hi=>by rw[<-e1 i hi];exact h.row i hi,h.sep,by rw[<-e2];exact h.spn,h.loc,h.locS,h.inb,h.lo⟩
end
theorem zbY {g g' n n' c c':Nat}(h:Value.slice (some ⟨g,0,none⟩) n c=.slice (some ⟨g',0,none⟩) n' c'):g=g':=by
 injection h with e _ _;injection e with e;injection e
def zjg (V:World) (B:Nat) (bs:List Nat) (b:Nat) (P:Pt) (e:Ending) (w':World):Prop:=∃v vS,e=.returned (.tuple #[])/\PtM V B bs b v vS P w'
structure zn1 (P:Pt) (x:Nat):Prop where
 b:P.b x<P.sp.length
 l2:x<(P.L 2).length
 tt:P.to x<(P.L 0).length
 fr:P.p x<(P.L 0).length
 l1:x<(P.L 1).length
 ot:P.o (P.to x)<(P.L 1).length
 n0:(P.L 0).length<=100000
 n3:(P.L 3).length<=100000
theorem zhh (P:Pt) (x i:Nat) (h:i≠3):hitA P x i=P.L i:=by
 unfold hitA
 split
 ·exact zdu _ _ _ _ h
 ·rfl
theorem PtM.put2 {V:World}{B b:Nat}{bs:List Nat}{v:Nat->Value}{vS:Value}{P:Pt}{w:World}(h:PtM V B bs b v vS P w) (i:Nat) (hi:i<5) {g n c:Nat}(hv:v i=.slice (some ⟨g,0,none⟩) n c) (j x k y:Nat) (hj:j<(P.L i).length) (hk:k<(P.L i).length):
  PtM V B bs b v vS ⟨up9 P.L i (((P.L i).set j x).set k y),P.sp⟩ ((w.setCell ⟨g,j,none⟩ (.int .i64 (x:Int))).setCell ⟨g,k,none⟩ (.int .i64 (y:Int))):=by
 have h2:=(h.put i hi hv j x hj).put i hi hv k y (by show k<(up9 P.L i ((P.L i).set j x) i).length;rw[zcd,List.length_set];exact hk)
 refine h2.congr (fun l hl=>?_) rfl
 show up9 (up9 P.L i ((P.L i).set j x)) i ((up9 P.L i ((P.L i).set j x) i).set k y) l=up9 P.L i (((P.L i).set j x).set k y) l
 rw[zcd]
 unfold up9
 split <;> rfl
theorem zm5 (V:World) (B b:Nat) (bs:List Nat) (v:Nat->Value) (vS:Value) (P:Pt) (w:World) (h:PtM V B bs b v vS P w) (x:Nat) (ok:zn1 P x):
  Calls Tryz.prog 151 #[.pointer (some ⟨b,0,none⟩),.int .i64 (x:Int)] w (zjg V B bs b (hitF P x)):=by
 obtain⟨k,hk⟩:∃k,P.b x=k:=⟨_,rfl⟩
 have hkl:k<P.sp.length:=by rw[<-hk];exact ok.b
 obtain⟨nS,hnS⟩:∃nS,P.sp.length=nS:=⟨_,rfl⟩
 obtain⟨g2,c2,e2,d2,_⟩:=h.num 2 (by omega) x ok.l2
 obtain⟨gS,cS,eS,dS⟩:=h.span k hkl
 have a2:w.cell? ⟨b,2,none⟩=some (v 2):=(h.cell 2 (by omega)).1
 have aS:=h.cellS.1
 have dh:=(dS 2 (by omega)).1
 rw[e2] at a2
 rw[eS] at aS
 rw[show (P.L 2).getD x 0=k from hk] at d2
 obtain⟨n2,hn2⟩:∃n2,(P.L 2).length=n2:=⟨_,rfl⟩
 have i2:(x:Int)<(n2:Int):=by have:=ok.l2;omega
 have iS:(k:Int)<(nS:Int):=by omega
 rw[hn2] at a2
 rw[hnS] at aS
 obtain⟨hh,hhe⟩:∃hh,(P.s k).h=hh:=⟨_,rfl⟩
 have dh2:w.cell? ⟨gS,k*4+2,none⟩=some (.int .i64 (hh:Int)):=by rw[dh];show some (Value.int .i64 (((P.s k).h:Nat):Int))=_;rw[hhe]
 have H:=hid h
 have Hk:=hid hk
 have Hok:=hid ok
 have HeS:=hid eS
 have Hhe:=hid hhe
 have HnS:=hid hnS
 clear h hk ok e2 eS dS dh hn2 hhe hnS
 go_enter Tryz.func151,Tryz.ntmps151
 go_upto_if 26 with (fail)
 go_cut [4,5] from 26 to 36 (fun v4 v5 wx=>∃v',v4=.int .i64 (k:Int)/\v5=.pointer (some ⟨gS,k*4,none⟩)/\PtM V B bs b v' vS ⟨hitA P x,P.sp⟩ wx)
 case first=>
  by_cases h0:hh=0
  ·subst h0
   obtain⟨q,hq⟩:∃q,(P.L 3).length=q:=⟨_,rfl⟩
   have hO:=H.out.row 3 (by omega)
   obtain⟨a3,c3,e3⟩:=zaa hO
   have a4:w.cell? ⟨b,4,none⟩=some (v 3):=(H.out.cell 3 (by omega)).1
   rw[hq] at hO e3
   rw[e3] at hO a4
   have hq5:q<=100000:=by have:=Hok.out.n3;omega
   have hV:=H.out.hB
   have He3:=hid e3
   have Hq:=hid hq
   obtain⟨i0,hi,hz0,hz1,hz2⟩:=info_parts Tryz.info_int9
   have i3:(((0:Nat):Int) == 0)=true:=by rfl
   clear e3 hq
   go_wp2_with (at_builtin;refine wpList_append_own_at _ rfl _ _ 30 rfl B 3 i0 (.int .i64 0) 1 8 Tryz.underlying30 hi hz0 hz1 hz2 rfl (by decide) _ _ _ rfl (hO.alloc _) ⟨w.heap.size,0,none⟩ 1 1 [.int .i64 (k:Int)] rfl rfl (cell_one_new _ _ _) ?d2 ?d3 ?d4 ?d5 ?_)
   case d2=>intro u hu;simp at hu;subst hu;rfl
   case d3=>unfold maxLen;omega
   case d4=>omega
   case d5=>simp;omega
   intro v' w5 hown5 hgrow5 _ hat5
   have h2:=H.out.keep (al w (.cells #[.int .i64 (k:Int)] 3))
   have hO2:=h2.row 3 (by omega)
   rw[Hq.out,He3.out] at hO2
   have hst5:=h2.st.grown_own hO2 (by decide) hgrow5
   have p3:w5.cell? ⟨b,4,none⟩=some (.slice a3 q c3):=by rw[hst5.at_];show some (v 3)=_;rw[He3.out]
   have pf:=hst5.thaw_ 4
   have HF:Hid (PtM V B bs b (upv v 3 v') vS ⟨hitA P x,P.sp⟩ (w5.setCell ⟨b,4,none⟩ v')):=by
    have h3:=h2.app (v':=v') 3 (by omega) Hq.out hown5 (by rw[He3.out];exact hgrow5) (by
     rw[show (w.alloc (.cells #[.int .i64 (k:Int)] 3)).heap.size=w.heap.size+1 by simp,He3.out]
     rcases hat5 with h|h
     ·exact Or.inl h
     ·exact Or.inr (Or.inl h))
    have e:hitA P x=up9 P.L 3 (P.L 3++[k]):=by
     unfold hitA
     rw[Hk.out,if_pos Hhe.out]
    show PtM V B bs b (upv v 3 v') vS ⟨hitA P x,P.sp⟩ (w5.setCell ⟨b,4,none⟩ v')
    rw[e]
    exact h3
   obtain⟨a5,c5,rfl⟩:=zaa hown5
   clear hown5 hgrow5 hat5 h2 hO2 hst5 hO a4 a2 aS d2 dh2
   go_wp2_with fail
   go_meet
   exact⟨upv v 3 (.slice a5 (q+1) c5),rfl,rfl,HF.out⟩
  ·have i3:((hh:Int) == 0)=false:=by simp;omega
   have e:hitA P x=P.L:=by
    unfold hitA
    rw[Hk.out,if_neg (by rw[Hhe.out];exact h0)]
   have HF:Hid (PtM V B bs b v vS ⟨hitA P x,P.sp⟩ w):=by
    show PtM V B bs b v vS ⟨hitA P x,P.sp⟩ w
    rw[e]
    exact H.out
   clear e h0
   go_wp2_with fail
   go_meet
   exact⟨v,rfl,rfl,HF.out⟩
 case rest=>
  obtain⟨v',rfl,rfl,h⟩:=hcut
  have HeS2:=HeS
  clear a2 aS d2 dh2 i2 HeS
  obtain⟨f,hf⟩:∃f,(P.s k).f=f:=⟨_,rfl⟩
  obtain⟨tt,hto⟩:∃tt,P.to x=tt:=⟨_,rfl⟩
  obtain⟨fr,hfr⟩:∃fr,P.p x=fr:=⟨_,rfl⟩
  obtain⟨ot,hot⟩:∃ot,P.o tt=ot:=⟨_,rfl⟩
  have htf:f+hh=tt:=by rw[<-hto,<-hf,<-Hhe.out,<-Hk.out];rfl
  have h0:=zhh P x 0 (by omega)
  have h1:=zhh P x 1 (by omega)
  have tl:=Hok.out.tt
  have fl:=Hok.out.fr
  have xl:=Hok.out.l1
  have ol:=Hok.out.ot
  have n0:=Hok.out.n0
  rw[hto] at tl ol
  rw[hot] at ol
  rw[hfr] at fl
  obtain⟨g0,c0,e0,y0,z0⟩:=h.num 0 (by omega) tt (by show tt<(hitA P x 0).length;rw[h0];exact tl)
  obtain⟨_,_,e0',y0',z0'⟩:=h.num 0 (by omega) fr (by show fr<(hitA P x 0).length;rw[h0];exact fl)
  obtain⟨g1,c1,e1,y1,z1⟩:=h.num 1 (by omega) x (by show x<(hitA P x 1).length;rw[h1];exact xl)
  obtain⟨_,_,e1',y1',z1'⟩:=h.num 1 (by omega) ot (by show ot<(hitA P x 1).length;rw[h1];exact ol)
  obtain⟨gS',cS',eS',dS'⟩:=h.span k (by show k<P.sp.length;rw[HnS.out];omega)
  obtain rfl:gS'=gS:=by
   have:=HeS2.out
   rw[this] at eS'
   exact (zbY eS').symm
  have b0:wc.cell? ⟨b,0,none⟩=some (v' 0):=(h.cell 0 (by omega)).1
  have b1:wc.cell? ⟨b,1,none⟩=some (v' 1):=(h.cell 1 (by omega)).1
  obtain⟨m0,hm0⟩:∃m0,(P.L 0).length=m0:=⟨_,rfl⟩
  obtain⟨m1,hm1⟩:∃m1,(P.L 1).length=m1:=⟨_,rfl⟩
  have s0:wc.cell? ⟨gS',k*4,none⟩=some (.int .i64 (f:Int)):=by
   have:=(dS' 0 (by omega)).1
   rw[<-hf]
   exact this
  have s2:wc.cell? ⟨gS',k*4+2,none⟩=some (.int .i64 (hh:Int)):=by
   have:=(dS' 2 (by omega)).1
   rw[<-Hhe.out]
   exact this
  have hL0:(⟨hitA P x,P.sp⟩:Pt).L 0=P.L 0:=h0
  have hL1:(⟨hitA P x,P.sp⟩:Pt).L 1=P.L 1:=h1
  rw[hL0] at e0 e0' y0 y0'
  rw[hL1] at e1 e1' y1 y1'
  rw[e0] at e0' b0
  rw[e1] at e1' b1
  obtain⟨rfl,_⟩:g0=_/\True:=⟨zbY e0',trivial⟩
  obtain⟨rfl,_⟩:g1=_/\True:=⟨zbY e1',trivial⟩
  rw[hm0] at b0 tl fl n0
  rw[hm1] at b1 xl ol
  rw[show (P.L 0).getD tt 0=ot from hot] at y0
  rw[show (P.L 1).getD x 0=fr from hfr] at y1
  clear y1' e0' e1' dS'
  have i0:(tt:Int)<(m0:Int):=by omega
  have i1:(fr:Int)<(m0:Int):=by omega
  have i4:(x:Int)<(m1:Int):=by omega
  have i5:(ot:Int)<(m1:Int):=by omega
  have its:(f:Int)+(hh:Int)=(tt:Int):=by omega
  have HL:=hid (And.intro hL0 (And.intro hL1 (And.intro e0 (And.intro e1 (And.intro hm0 (And.intro hm1 (And.intro hto (And.intro hfr hot))))))))
  have HP:=hid h
  clear hL0 hL1 e0 e1 hm0 hm1 hto hfr hot h htf h0 h1 hf eS'
  go_upto_region 4 with fail
  go_quiet (fail)
  go_upto_region 6 with fail
  obtain⟨xf,hxf⟩:∃xf,(P.L 0).getD fr 0=xf:=⟨_,rfl⟩
  rw[hxf] at y0'
  obtain⟨W6,hW6,t0,t1,t2,t3,t4,HP6⟩:∃W6,wc.drewN nq=W6/\W6.cell? ⟨b,0,none⟩=some (.slice (some ⟨g0,0,none⟩) m0 c0)/\W6.cell? ⟨g0,tt,none⟩=some (.int .i64 (ot:Int))/\W6.frozen? ⟨g0,tt,none⟩=false/\W6.frozen? ⟨g0,fr,none⟩=false/\
    W6.cell? ⟨g0,fr,none⟩=some (.int .i64 (xf:Int))/\Hid (PtM V B bs b v' vS ⟨hitA P x,P.sp⟩ W6):=⟨_,rfl,b0,y0,z0,z0',y0',HP.out.keep (below_drewN (Below.refl _ _) nq)⟩
  rw[hW6]
  clear hW6 hxf b0 b1 s0 s2 y0 y1 z0 z1 z0' z1' y0' HP
  obtain⟨xg,t5⟩:=cell?_setCell_some (w:=W6) (p:=⟨g0,tt,none⟩) (x:=.int .i64 (x:Int)) (q:=⟨g0,fr,none⟩) t4
  go_region
  have HL0:(P.L 0).length=m0/\(P.L 1).length=m1:=⟨HL.out.2.2.2.2.1,HL.out.2.2.2.2.2.1⟩
  have e90:hitA P x 0=P.L 0:=HL.out.1
  have e91:hitA P x 1=P.L 1:=HL.out.2.1
  obtain⟨L7,hL7,e7⟩:∃L7,up9 (hitA P x) 0 (((P.L 0).set tt x).set fr ot)=L7/\L7 1=P.L 1:=⟨_,rfl,by rw[zdu _ _ _ _ (by omega),e91]⟩
  have hP7:PtM V B bs b v' vS ⟨L7,P.sp⟩ ((W6.setCell ⟨g0,tt,none⟩ (.int .i64 (x:Int))).setCell ⟨g0,fr,none⟩ (.int .i64 (ot:Int))).drew:=by
   have q1:=(HP6.out.put2 0 (by omega) HL.out.2.2.1 tt x fr ot (by show tt<(hitA P x 0).length;rw[e90,HL0.1];exact tl) (by show fr<(hitA P x 0).length;rw[e90,HL0.1];exact fl)).keep (Below.refl _ _).drew
   have e:up9 (hitA P x) 0 (((hitA P x 0).set tt x).set fr ot)=L7:=by rw[e90];exact hL7
   have q2:PtM V B bs b v' vS ⟨up9 (hitA P x) 0 (((hitA P x 0).set tt x).set fr ot),P.sp⟩ _:=q1
   rw[e] at q2
   exact q2
  clear t0 t1 t2 t3 t4 t5 HP6
  have l7x:x<(L7 1).length:=by rw[e7,HL0.2];exact xl
  have l7o:ot<(L7 1).length:=by rw[e7,HL0.2];exact ol
  have u1:World.cell? _ ⟨b,1,none⟩=some (v' 1):=(hP7.cell 1 (by omega)).1
  obtain⟨_,_,w1,w2,w3⟩:=hP7.num 1 (by omega) x l7x
  obtain⟨_,_,x1,x2,x3⟩:=hP7.num 1 (by omega) ot l7o
  have ev1:v' 1=.slice (some ⟨g1,0,none⟩) m1 c1:=by rw[HL.out.2.2.2.1,HL0.2]
  rw[ev1] at w1 x1 u1
  replace w1:=zbY w1
  replace x1:=zbY x1
  rw[<-w1] at w2 w3
  rw[<-x1] at x2 x3
  clear w1 x1
  have HE7:=hid (And.intro hL7 (And.intro e7 ev1))
  have HE8:=hid (And.intro HL0 (And.intro e90 e91))
  clear hL7 e7 ev1 HL0 e90 e91 l7x l7o
  have HP7:=hid hP7
  clear hP7
  generalize ((W6.setCell ⟨g0,tt,none⟩ (.int .i64 (x:Int))).setCell ⟨g0,fr,none⟩ (.int .i64 (ot:Int))).drew=W7 at HP7 u1 w2 w3 x2 x3⊢
  replace w2:∃ya,W7.cell? ⟨g1,x,none⟩=some (.int .i64 ((ya:Nat):Int)):=⟨_,w2⟩
  replace x2:∃ya,W7.cell? ⟨g1,ot,none⟩=some (.int .i64 ((ya:Nat):Int)):=⟨_,x2⟩
  obtain⟨ya,w2⟩:=w2
  obtain⟨yb,x2⟩:=x2
  obtain⟨xg,t5⟩:=cell?_setCell_some (w:=W7) (p:=⟨g1,x,none⟩) (x:=.int .i64 (tt:Int)) (q:=⟨g1,ot,none⟩) x2
  go_upto_region 7 with fail
  go_region
  have hP8:PtM V B bs b v' vS ⟨up9 L7 1 (((P.L 1).set x tt).set ot fr),P.sp⟩ ((W7.setCell ⟨g1,x,none⟩ (.int .i64 (tt:Int))).setCell ⟨g1,ot,none⟩ (.int .i64 (fr:Int))).drew:=by
   have q1:=(HP7.out.put2 1 (by omega) HE7.out.2.2 x tt ot fr (by show x<(L7 1).length;rw[HE7.out.2.1,HE8.out.1.2];exact xl) (by show ot<(L7 1).length;rw[HE7.out.2.1,HE8.out.1.2];exact ol)).keep (Below.refl _ _).drew
   have q2:PtM V B bs b v' vS ⟨up9 L7 1 (((L7 1).set x tt).set ot fr),P.sp⟩ _:=q1
   rw[HE7.out.2.1] at q2
   exact q2
  clear u1 w2 w3 x2 x3 t5
  obtain⟨_,cX,x1,x2⟩:=hP8.span k hkl
  have HS2:=HeS2.out
  rw[HS2] at x1
  replace x1:=zbY x1
  have y2:World.cell? _ ⟨_,k*4+2,none⟩=some (.int .i64 (((P.s k).h:Nat):Int)):=(x2 2 (by omega)).1
  have y3:=(x2 2 (by omega)).2
  rw[<-x1,Hhe.out] at y2
  rw[<-x1] at y3
  clear x1 x2 HS2
  have HP8:=hid hP8
  clear hP8
  generalize ((W7.setCell ⟨g1,x,none⟩ (.int .i64 (tt:Int))).setCell ⟨g1,ot,none⟩ (.int .i64 (fr:Int))).drew=W8 at HP8 y2 y3⊢
  have hb1:(hh:Int)<=100000:=by omega
  have HF:Hid (PtM V B bs b v' vS (hitF P x) (W8.setCell ⟨gS',k*4+2,none⟩ (.int .i64 ((hh:Int)+1)))):=by
   have q:=HP8.out.putS HeS2.out k 2 ⟨(P.s k).f,(P.s k).g,(P.s k).h+1,(P.s k).w⟩ hkl (by omega) (fun k' hk' hn=>by
    have:k'=0\/k'=1\/k'=3:=by omega
    rcases this with rfl|rfl|rfl <;> rfl)
   have e1:fld ⟨(P.s k).f,(P.s k).g,(P.s k).h+1,(P.s k).w⟩ 2=.int .i64 ((hh:Int)+1):=by
    show Value.int .i64 (((P.s k).h+1:Nat):Int)=_
    rw[Hhe.out];rfl
   rw[e1] at q
   refine q.congr (fun i hi=>?_) ?_
   ·show up9 L7 1 (((P.L 1).set x tt).set ot fr) i=up9 (up9 (hitA P x) 0 (((P.L 0).set (P.to x) x).set (P.p x) (P.o (P.to x)))) 1 (((P.L 1).set x (P.to x)).set (P.o (P.to x)) (P.p x)) i
    rw[HL.out.2.2.2.2.2.2.1,HL.out.2.2.2.2.2.2.2.1,HL.out.2.2.2.2.2.2.2.2,HE7.out.1]
   ·show P.sp.set k _=P.sp.set (P.b x) _
    rw[Hk.out]
  go_wp2_with fail
  go_end0
  exact⟨v',vS,rfl,HF.out⟩
section
variable {V : World}{B b : Nat}{bs : List Nat}{v : Nat → Value}{vS : Value}{P : Pt}{w : World}
theorem PtM.c0 (h:PtM V B bs b v vS P w):w.cell? ⟨b,0,none⟩=some (v 0)/\w.frozen? ⟨b,0,none⟩=false:=h.cell 0 (by omega)
theorem PtM.c1 (h:PtM V B bs b v vS P w):w.cell? ⟨b,1,none⟩=some (v 1)/\w.frozen? ⟨b,1,none⟩=false:=h.cell 1 (by omega)
theorem PtM.c2 (h:PtM V B bs b v vS P w):w.cell? ⟨b,2,none⟩=some (v 2)/\w.frozen? ⟨b,2,none⟩=false:=h.cell 2 (by omega)
theorem PtM.c3 (h:PtM V B bs b v vS P w):w.cell? ⟨b,4,none⟩=some (v 3)/\w.frozen? ⟨b,4,none⟩=false:=h.cell 3 (by omega)
theorem PtM.c4 (h:PtM V B bs b v vS P w):w.cell? ⟨b,5,none⟩=some (v 4)/\w.frozen? ⟨b,5,none⟩=false:=h.cell 4 (by omega)
structure zm6 (w:World) (g k:Nat) (s:Sp9):Prop where
 cf:w.cell? ⟨g,k*4,none⟩=some (.int .i64 (s.f:Int))
 cg:w.cell? ⟨g,k*4+1,none⟩=some (.int .i64 (s.g:Int))
 ch:w.cell? ⟨g,k*4+2,none⟩=some (.int .i64 (s.h:Int))
 cw:w.cell? ⟨g,k*4+3,none⟩=some (.bool s.w)
 z0:w.frozen? ⟨g,k*4,none⟩=false
 z2:w.frozen? ⟨g,k*4+2,none⟩=false
 z3:w.frozen? ⟨g,k*4+3,none⟩=false
theorem PtM.sp9 (h:PtM V B bs b v vS P w) {g n c:Nat}(hv:vS=.slice (some ⟨g,0,none⟩) n c) (j:Nat) (hj:j<P.sp.length):zm6 w g j (P.s j):=by
 obtain⟨g',c',e,hc⟩:=h.span j hj
 rw[hv] at e
 obtain rfl:=zbY e
 exact⟨(hc 0 (by omega)).1,(hc 1 (by omega)).1,(hc 2 (by omega)).1,(hc 3 (by omega)).1,(hc 0 (by omega)).2,(hc 2 (by omega)).2,(hc 3 (by omega)).2⟩
theorem PtM.at9 (h:PtM V B bs b v vS P w) (i:Nat) (hi:i<5) {g n c:Nat}(hv:v i=.slice (some ⟨g,0,none⟩) n c) (j:Nat) (hj:j<(P.L i).length):w.cell? ⟨g,j,none⟩=some (.int .i64 (((P.L i).getD j 0:Nat):Int))/\w.frozen? ⟨g,j,none⟩=false:=by
 obtain⟨g',c',e,hc⟩:=h.num i hi j hj
 rw[hv] at e
 obtain rfl:=zbY e
 exact hc
theorem PtM.sl (h:PtM V B bs b v vS P w) (i:Nat) (hi:i<5) {q:Nat}(hq:(P.L i).length=q) (h0:0<q):∃g c,v i=.slice (some ⟨g,0,none⟩) q c:=by
 obtain⟨g,c,e,_⟩:=h.num i hi 0 (by omega)
 exact⟨g,c,by rw[e,hq]⟩
theorem PtM.slS (h:PtM V B bs b v vS P w) {q:Nat}(hq:P.sp.length=q) (h0:0<q):∃g c,vS=.slice (some ⟨g,0,none⟩) q c:=by
 obtain⟨g,c,e,_⟩:=h.span 0 (by omega)
 exact⟨g,c,by rw[e,hq]⟩
theorem PtM.sl0 (h:PtM V B bs b v vS P w) (i:Nat) (hi:i<5) {q:Nat}(hq:(P.L i).length=q):∃a c,v i=.slice a q c:=by
 obtain⟨a,c,e⟩:=zaa (h.row i hi)
 exact⟨a,c,by rw[e,hq]⟩
end
theorem zk2 {α:Type}(l:List α) (k:Nat) (a c:α):(l.set k a).set k c=l.set k c:=by simp
theorem Pt.s_set (L:Nat->List Nat) (sp:List Sp9) (k j:Nat) (s:Sp9) (hk:k<sp.length):(⟨L,sp.set k s⟩:Pt).s j=if k=j then s else sp.getD j sp0:=by
 show (sp.set k s).getD j sp0=_
 rw[zaW]
 by_cases e:k=j
 ·rw[if_pos ⟨e,hk⟩,if_pos e]
 ·rw[if_neg (fun h=>e h.1),if_neg e]
end Go.Proofs.YtjehgdjlncofeaaGreat
