import Derived.Test.YtjehgdjlncofeaaGreatZSLeadN
set_option linter.unusedVariables false
set_option linter.unusedSimpArgs false
set_option maxHeartbeats 1000000
set_option maxRecDepth 100000
open Go.Lib (hid)
namespace Go.Proofs.YtjehgdjlncofeaaGreat
open Go.RowKit Go.Maps Go.WideElems Go.ChangeMaps Go.MapKept
structure GridOw (w:World) (B ts te sz:Nat) (v:Value) (M:Nat) (vs:Nat->Value) (len:Nat->Nat) (xs:Nat->List Value):Prop where
 own:w.ownsRow B ts 1 v M ((List.range M).map vs)
 row:∀i,i<M->w.ownsRow B te sz (vs i) (len i) (xs i)
 sep:∀i j,i<M->j<M->i≠j->∀b,(vs i).ownBlock=some b->(vs j).ownBlock≠some b
theorem GridOw.keep {w w':World}{B ts te sz M:Nat}{v:Value}{vs:Nat->Value}{len:Nat->Nat}{xs:Nat->List Value}(h:GridOw w B ts te sz v M vs len xs) (k:Below w.heap.size w w'):GridOw w' B ts te sz v M vs len xs:=
 ⟨zab h.own k,fun i hi=>zab (h.row i hi) k,h.sep⟩
theorem GridOw.kept {w w':World}{B ts te sz M:Nat}{v:Value}{vs:Nat->Value}{len:Nat->Nat}{xs:Nat->List Value}{bs:List Nat}(h:GridOw w B ts te sz v M vs len xs) (k:Kept [] bs w w') (h1:∀b,v.ownBlock=some b->b∉bs) (h2:∀i,i<M->∀b,(vs i).ownBlock=some b->b∉bs):GridOw w' B ts te sz v M vs len xs:=
 ⟨zal h.own k (by simp) h1,fun i hi=>zal (h.row i hi) k (by simp) (h2 i hi),h.sep⟩
theorem GridOw.congr {w:World}{B ts te sz M:Nat}{v:Value}{vs:Nat->Value}{len len':Nat->Nat}{xs xs':Nat->List Value}(h:GridOw w B ts te sz v M vs len xs) (e:∀i,i<M->len i=len' i/\xs i=xs' i):GridOw w B ts te sz v M vs len' xs':=
 ⟨h.own,fun i hi=>by rw[<-(e i hi).1,<-(e i hi).2];exact h.row i hi,h.sep⟩
theorem GridOw.lt {w:World}{B ts te sz M:Nat}{v:Value}{vs:Nat->Value}{len:Nat->Nat}{xs:Nat->List Value}(h:GridOw w B ts te sz v M vs len xs):(∀b,v.ownBlock=some b->b<w.heap.size)/\∀i,i<M->∀b,(vs i).ownBlock=some b->b<w.heap.size:=by
 have own:∀{t s n:Nat}{v:Value}{xs:List Value},w.ownsRow B t s v n xs->∀g,v.ownBlock=some g->g<w.heap.size:=fun ho g e=>by
  obtain⟨c,fz,hc⟩:=zaI ho g e
  exact (Array.getElem?_eq_some_iff.1 hc).1
 exact⟨own h.own,fun i hi=>own (h.row i hi)⟩
theorem GridOw.push {w w':World}{B ts te sz M:Nat}{v v':Value}{vs:Nat->Value}{len:Nat->Nat}{xs:Nat->List Value}(h:GridOw w B ts te sz v M vs len xs) (ht:te≠ts) (hl:len M=0) (hx:xs M=[])
  (ho:w'.ownsRow B ts 1 v' (M+1) ((List.range M).map vs++[.slice none 0 0])) (hg:w.grownBy w' v.ownBlock):GridOw w' B ts te sz v' (M+1) (fun j=>if j=M then .slice none 0 0 else vs j) len xs:=by
 refine⟨?_,fun i hi=>?_,fun i j hi hj hij b=>?_⟩
 ·have e:(List.range (M+1)).map (fun j=>if j=M then .slice none 0 0 else vs j)=(List.range M).map vs++[.slice none 0 0]:=by
   rw[List.range_succ,List.map_append]
   congr 1
   ·refine List.map_congr_left fun j hj=>?_
    have:j<M:=by simpa using hj
    rw[if_neg (by omega)]
   ·simp
  rw[e]
  exact ho
 ·by_cases e:i=M
  ·subst e
   simp only[if_pos rfl,hl,hx]
   exact World.ownsRow_nil _ _ _ _
  ·simp only[if_neg e]
   exact zaG (h.row i (by omega)) hg (fun b e1 e2=>zan (h.row i (by omega)) h.own ht b e1 e2.symm)
 ·by_cases e1:i=M
  ·simp only[if_pos e1]
   intro e;simp[Value.ownBlock] at e
  ·by_cases e2:j=M
   ·simp only[if_pos e2]
    intro _ e;simp[Value.ownBlock] at e
   ·simp only[if_neg e1,if_neg e2]
    exact h.sep i j (by omega) (by omega) hij b
theorem GridOw.app {w w':World}{B ts te sz M g c:Nat}{vs:Nat->Value}{len:Nat->Nat}{xs:Nat->List Value}(h:GridOw w B ts te sz (.slice (some ⟨g,0,none⟩) M c) M vs len xs) (ht:te≠ts) {i:Nat}(hi:i<M) {v':Value}{n':Nat}{ys:List Value}(ho:w'.ownsRow B te sz v' n' ys) (hg:w.grownBy w' (vs i).ownBlock)
  (hat:∀b,v'.ownBlock=some b->(vs i).ownBlock=some b\/w.heap.size<=b):GridOw (w'.setCell ⟨g,i,none⟩ v') B ts te sz (.slice (some ⟨g,0,none⟩) M c) M (fun j=>if j=i then v' else vs j) (fun j=>if j=i then n' else len j) (fun j=>if j=i then ys else xs j):=by
 have hs:=zav h.own (h.row i hi) ht hg
 have hlt:=h.lt.2
 have hset:∀{n:Nat}{u:Value}{zs:List Value},w'.ownsRow B te sz u n zs->(w'.setCell ⟨g,i,none⟩ v').ownsRow B te sz u n zs:=fun ho2=>
  zal (ts:=[]) (bs:=[g]) ho2 ((Kept.refl _ _ _).setCell _ _ (Or.inl (by simp))) (by simp) (fun b e hm=>zan ho2 hs ht b e (by simp[List.mem_singleton.1 hm,Value.ownBlock]))
 refine⟨?_,fun j hj=>?_,fun j k hj hk hjk b=>?_⟩
 ·have:=za9 hs i hi v'
  have e:((List.range M).map vs).set i v'=(List.range M).map (fun j=>if j=i then v' else vs j):=by
   apply List.ext_getElem?
   intro j
   rw[List.getElem?_set]
   by_cases e:i=j
   ·subst e;simp[hi]
   ·have e':¬j=i:=fun h=>e h.symm
    simp only[if_neg e,List.getElem?_map]
    by_cases hj:j<M
    ·simp[hj,e']
    ·simp[hj]
  rwa [e] at this
 ·by_cases e:j=i
  ·subst e
   simp only[if_pos rfl]
   exact hset ho
  ·simp only[if_neg e]
   exact hset (zaG (h.row j hj) hg (fun b e1 e2=>h.sep j i hj hi e b e1 e2.symm))
 ·by_cases e1:j=i
  ·subst e1
   have e2:¬k=j:=fun e=>hjk e.symm
   simp only[if_pos rfl,if_neg e2]
   intro e3 e4
   rcases hat b e3 with h1|h1
   ·exact h.sep j k hj hk hjk b h1 e4
   ·have:=hlt k hk b e4;omega
  ·by_cases e2:k=i
   ·subst e2
    simp only[if_pos rfl,if_neg e1]
    intro e3 e4
    rcases hat b e4 with h1|h1
    ·exact h.sep j k hj hk hjk b e3 h1
    ·have:=hlt j hj b e3;omega
   ·simp only[if_neg e1,if_neg e2]
    exact h.sep j k hj hk hjk b
structure NtA (B bn Mm Mf Ms:Nat) (cs:Array Value) (mks:List Int) (vM vF vS:Value) (fv sv:Nat->Value) (xs:Nat->List Value) (L:List En) (w:World):Prop where
 sn:St w 121 bn (((cs.setIfInBounds 257 vM).setIfInBounds 258 vF).setIfInBounds 259 vS)
 sz:cs.size=260
 om:w.ownsRow B 3 1 vM Mm (ints mks)
 fr:GridOw w B 30 3 1 vF Mf fv (fun i=>(rowF L i).length) (fun i=>zai (rowF L i))
 st:GridOw w B 161 163 2 vS Ms sv (fun i=>(rowB L i).length) xs
 sep:∀i,i<Mf->∀b,vM.ownBlock=some b->(fv i).ownBlock≠some b
 lo:B<=bn/\B<=w.heap.size
 hE:∀e∈L,e.f<Mf/\e.f<Ms/\e.t<Mf
 hx:∀i,Ms<=i->xs i=[]
theorem NtA.keep {w w':World}{B bn Mm Mf Ms:Nat}{cs:Array Value}{mks:List Int}{vM vF vS:Value}{fv sv:Nat->Value}{xs:Nat->List Value}{L:List En}(h:NtA B bn Mm Mf Ms cs mks vM vF vS fv sv xs L w) (k:Below w.heap.size w w'):NtA B bn Mm Mf Ms cs mks vM vF vS fv sv xs L w':=
 ⟨h.sn.keep k,h.sz,zab h.om k,h.fr.keep k,h.st.keep k,h.sep,⟨h.lo.1,Nat.le_trans h.lo.2 k.size⟩,h.hE,h.hx⟩
def bsN (bn Mf Ms:Nat) (vM vF vS:Value) (fv sv:Nat->Value) (x:Nat):Prop:=
 x=bn\/vM.ownBlock=some x\/vF.ownBlock=some x\/vS.ownBlock=some x\/(∃i,i<Mf/\(fv i).ownBlock=some x)\/∃i,i<Ms/\(sv i).ownBlock=some x
theorem NtA.kept {w w':World}{B bn Mm Mf Ms:Nat}{cs:Array Value}{mks:List Int}{vM vF vS:Value}{fv sv:Nat->Value}{xs:Nat->List Value}{L:List En}{bs:List Nat}(h:NtA B bn Mm Mf Ms cs mks vM vF vS fv sv xs L w) (k:Kept [] bs w w') (hs:w.heap.size<=w'.heap.size) (hd:∀x,bsN bn Mf Ms vM vF vS fv sv x->x∉bs):NtA B bn Mm Mf Ms cs mks vM vF vS fv sv xs L w':=
 ⟨h.sn.kept k (by simp) (hd _ (Or.inl rfl)),h.sz,zal h.om k (by simp) (fun b e=>hd b (Or.inr (Or.inl e))),
  h.fr.kept k (fun b e=>hd b (Or.inr (Or.inr (Or.inl e)))) (fun i hi b e=>hd b (Or.inr (Or.inr (Or.inr (Or.inr (Or.inl ⟨i,hi,e⟩)))))),
  h.st.kept k (fun b e=>hd b (Or.inr (Or.inr (Or.inr (Or.inl e))))) (fun i hi b e=>hd b (Or.inr (Or.inr (Or.inr (Or.inr (Or.inr ⟨i,hi,e⟩)))))),h.sep,⟨h.lo.1,Nat.le_trans h.lo.2 hs⟩,h.hE,h.hx⟩
theorem NtA.lt {w:World}{B bn Mm Mf Ms:Nat}{cs:Array Value}{mks:List Int}{vM vF vS:Value}{fv sv:Nat->Value}{xs:Nat->List Value}{L:List En}(h:NtA B bn Mm Mf Ms cs mks vM vF vS fv sv xs L w):∀x,bsN bn Mf Ms vM vF vS fv sv x->B<=x/\x<w.heap.size:=by
 have own:∀{t s n:Nat}{v:Value}{xs:List Value},w.ownsRow B t s v n xs->∀g,v.ownBlock=some g->B<=g/\g<w.heap.size:=fun ho g e=>by
  obtain⟨c,fz,hc⟩:=zaI ho g e
  exact⟨zas ho g e,(Array.getElem?_eq_some_iff.1 hc).1⟩
 rintro x (rfl|e|e|e|⟨i,hi,e⟩|⟨i,hi,e⟩)
 ·exact⟨h.lo.1,h.sn.lt⟩
 ·exact own h.om _ e
 ·exact own h.fr.own _ e
 ·exact own h.st.own _ e
 ·exact own (h.fr.row i hi) _ e
 ·exact own (h.st.row i hi) _ e
theorem NtA.cells {w:World}{B bn Mm Mf Ms:Nat}{cs:Array Value}{mks:List Int}{vM vF vS:Value}{fv sv:Nat->Value}{xs:Nat->List Value}{L:List En}(h:NtA B bn Mm Mf Ms cs mks vM vF vS fv sv xs L w):
  w.cell? ⟨bn,257,none⟩=some vM/\w.cell? ⟨bn,258,none⟩=some vF/\w.cell? ⟨bn,259,none⟩=some vS:=by
 refine⟨?_,?_,?_⟩
 ·rw[h.sn.at_,Array.getElem?_setIfInBounds_ne (by decide),Array.getElem?_setIfInBounds_ne (by decide),Array.getElem?_setIfInBounds_self_of_lt (by rw[h.sz];decide)]
 ·rw[h.sn.at_,Array.getElem?_setIfInBounds_ne (by decide),Array.getElem?_setIfInBounds_self_of_lt (by simp[h.sz])]
 ·rw[h.sn.at_,Array.getElem?_setIfInBounds_self_of_lt (by simp[h.sz])]
theorem zlC (cs:Array Value) (a b c d:Value):((((cs.setIfInBounds 257 a).setIfInBounds 258 b).setIfInBounds 259 c).setIfInBounds 257 d)=(((cs.setIfInBounds 257 d).setIfInBounds 258 b).setIfInBounds 259 c):=by
 rw[Array.setIfInBounds_comm c d (by decide),Array.setIfInBounds_comm b d (by decide),Array.setIfInBounds_setIfInBounds]
theorem zlD (cs:Array Value) (a b c d:Value):((((cs.setIfInBounds 257 a).setIfInBounds 258 b).setIfInBounds 259 c).setIfInBounds 258 d)=(((cs.setIfInBounds 257 a).setIfInBounds 258 d).setIfInBounds 259 c):=by
 rw[Array.setIfInBounds_comm c d (by decide),Array.setIfInBounds_setIfInBounds]
structure NtF (B bn:Nat) (P P':Nat->Prop) (w w':World):Prop where
 kept:∃bs,Kept [] bs w w'/\∀x∈bs,P x\/w.heap.size<=x
 new:∀x,P' x->P x\/w.heap.size<=x
 below:Below B w w'
theorem NtF.trans {B bn:Nat}{P P' P2:Nat->Prop}{w w' w2:World}(h:NtF B bn P P' w w') (k:NtF B bn P' P2 w' w2):NtF B bn P P2 w w2:=by
 obtain⟨b1,h1,h2⟩:=h.kept
 obtain⟨b2,k1,k2⟩:=k.kept
 have hs:=h.below.size
 refine⟨⟨b1++b2,(h1.mono (fun _ h=>h) (fun x hx=>List.mem_append.2 (Or.inl hx))).trans (k1.mono (fun _ h=>h) (fun x hx=>List.mem_append.2 (Or.inr hx))),fun x hx=>?_⟩,fun x hx=>?_,h.below.trans k.below⟩
 ·rcases List.mem_append.1 hx with hx|hx
  ·exact h2 x hx
  ·rcases k2 x hx with h3|h3
   ·exact h.new x h3
   ·exact Or.inr (by omega)
 ·rcases k.new x hx with h3|h3
  ·exact h.new x h3
  ·exact Or.inr (by omega)
theorem NtF.keep {B bn:Nat}{P:Nat->Prop}{w w':World}(k:Below w.heap.size w w') (hB:B<=w.heap.size):NtF B bn P P w w':=
 ⟨⟨[],Kept.below (Kept.refl _ _ _) k,by simp⟩,fun x h=>Or.inl h,k.mono hB⟩
theorem NtA.pushM {W w5:World}{B bn Mm Mf Ms:Nat}{cs:Array Value}{mks:List Int}{vM vF vS v':Value}{fv sv:Nat->Value}{xs:Nat->List Value}{L:List En}(h:NtA B bn Mm Mf Ms cs mks vM vF vS fv sv xs L W) {r:Int}
  (ho:w5.ownsRow B 3 1 v' (Mm+1) (ints mks++[.int .i64 r])) (hg:W.grownBy w5 vM.ownBlock) (hat:v'.ownBlock=vM.ownBlock\/v'.ownBlock=some W.heap.size):
  NtA B bn (Mm+1) Mf Ms cs (mks++[r]) v' vF vS fv sv xs L (w5.setCell ⟨bn,257,none⟩ v')/\NtF B bn (bsN bn Mf Ms vM vF vS fv sv) (bsN bn Mf Ms v' vF vS fv sv) W (w5.setCell ⟨bn,257,none⟩ v'):=by
 have hlt:=h.lt
 have hk:Kept [] (bn :: vM.ownBlock.toList) W w5:=(Kept.refl _ _ _).grown hg (fun g e=>Or.inl (by simp[e]))
 have hk2:Kept [] (bn :: vM.ownBlock.toList) W (w5.setCell ⟨bn,257,none⟩ v'):=hk.setCell _ _ (Or.inl (by simp))
 have hB:Below B W w5:=zac (Below.refl _ _) h.om h.lo.2 hg
 have hsn:=h.sn.grown_own h.om (by decide) hg
 have hne:∀{t s n:Nat}{v:Value}{ys:List Value},W.ownsRow B t s v n ys->t≠121->(∀b,v.ownBlock=some b->vM.ownBlock≠some b)->∀b,v.ownBlock=some b->b∉bn :: vM.ownBlock.toList:=fun ho ht hn b e hm=>by
  rcases List.mem_cons.1 hm with rfl|hm
  ·exact zaq ho h.sn ht _ e rfl
  ·exact hn b e (by simpa using hm)
 refine⟨⟨?_,h.sz,?_,h.fr.kept hk2 (hne h.fr.own (by decide) (fun b e1 e2=>zan h.fr.own h.om (by decide) b e1 e2)) (fun i hi=>hne (h.fr.row i hi) (by decide) (fun b e1 e2=>h.sep i hi b e2 e1)),
  h.st.kept hk2 (hne h.st.own (by decide) (fun b e1 e2=>zan h.st.own h.om (by decide) b e1 e2)) (fun i hi=>hne (h.st.row i hi) (by decide) (fun b e1 e2=>zan (h.st.row i hi) h.om (by decide) b e1 e2)),fun i hi b e1 e2=>?_,⟨h.lo.1,?_⟩,h.hE,h.hx⟩,
  ⟨⟨_,hk2,fun x hx=>Or.inl ?_⟩,fun x hx=>?_,hB.setCell (p:=⟨bn,257,none⟩) h.lo.1 v'⟩⟩
 ·have:=hsn.set 257 v'
  rwa [zlC] at this
 ·rw[show ints (mks++[r])=ints mks++[.int .i64 r] by simp[ints]]
  exact zau ho hsn (by decide) _ _
 ·rcases hat with h1|h1
  ·rw[h1] at e1;exact h.sep i hi b e1 e2
  ·rw[h1] at e1
   injection e1 with e1
   have:=(hlt b (Or.inr (Or.inr (Or.inr (Or.inr (Or.inl ⟨i,hi,e2⟩)))))).2
   omega
 ·have:=hB.size
  have:=h.lo.2
  simp only[World.size_setCell]
  omega
 ·rcases List.mem_cons.1 hx with rfl|hx
  ·exact Or.inl rfl
  ·exact Or.inr (Or.inl (by simpa using hx))
 ·rcases hx with e|e|e
  ·exact Or.inl (Or.inl e)
  ·rcases hat with h1|h1
   ·exact Or.inl (Or.inr (Or.inl (by rw[<-h1];exact e)))
   ·rw[h1] at e;injection e with e;exact Or.inr (by omega)
  ·exact Or.inl (Or.inr (Or.inr e))
theorem zhF {L:List En}{M i:Nat}(h:∀e∈L,e.f<M) (hi:M<=i):rowF L i=[]:=by
 unfold rowF
 rw[List.filter_eq_nil_iff.2 (fun e he=>by have:=h e he;have h2:¬e.f=i:=(by omega);simp[h2])]
 rfl
theorem zhG {L:List En}{M i:Nat}(h:∀e∈L,e.f<M) (hi:M<=i):rowB L i=[]:=by
 unfold rowB
 exact List.filter_eq_nil_iff.2 (fun e he=>by have:=h e he;have h2:¬e.f=i:=(by omega);simp[h2])
theorem NtA.pushF {W w5:World}{B bn Mm Mf Ms:Nat}{cs:Array Value}{mks:List Int}{vM vF vS v':Value}{fv sv:Nat->Value}{xs:Nat->List Value}{L:List En}(h:NtA B bn Mm Mf Ms cs mks vM vF vS fv sv xs L W)
  (ho:w5.ownsRow B 30 1 v' (Mf+1) ((List.range Mf).map fv++[.slice none 0 0])) (hg:W.grownBy w5 vF.ownBlock) (hat:v'.ownBlock=vF.ownBlock\/v'.ownBlock=some W.heap.size):
  NtA B bn Mm (Mf+1) Ms cs mks vM v' vS (fun j=>if j=Mf then .slice none 0 0 else fv j) sv xs L (w5.setCell ⟨bn,258,none⟩ v')/\NtF B bn (bsN bn Mf Ms vM vF vS fv sv) (bsN bn (Mf+1) Ms vM v' vS (fun j=>if j=Mf then .slice none 0 0 else fv j) sv) W (w5.setCell ⟨bn,258,none⟩ v'):=by
 have hk:Kept [] (bn :: vF.ownBlock.toList) W w5:=(Kept.refl _ _ _).grown hg (fun g e=>Or.inl (by simp[e]))
 have hk2:Kept [] (bn :: vF.ownBlock.toList) W (w5.setCell ⟨bn,258,none⟩ v'):=hk.setCell _ _ (Or.inl (by simp))
 have hB:Below B W w5:=zac (Below.refl _ _) h.fr.own h.lo.2 hg
 have hsn:=h.sn.grown_own h.fr.own (by decide) hg
 have hne:∀{t s n:Nat}{v:Value}{ys:List Value},W.ownsRow B t s v n ys->t≠121->t≠30->∀b,v.ownBlock=some b->b∉bn :: vF.ownBlock.toList:=fun ho ht hn b e hm=>by
  rcases List.mem_cons.1 hm with rfl|hm
  ·exact zaq ho h.sn ht _ e rfl
  ·exact zan ho h.fr.own hn b e (by simpa using hm)
 have hgr:=(h.fr.push (by decide) (by simp[zhF (fun e he=>(h.hE e he).1) (Nat.le_refl _)]) (by simp[zhF (fun e he=>(h.hE e he).1) (Nat.le_refl _),zai]) ho hg)
 refine⟨⟨?_,h.sz,zal h.om hk2 (by simp) (hne h.om (by decide) (by decide)),hgr.kept (bs:=[bn]) ((Kept.refl _ _ _).setCell _ _ (Or.inl (by simp))) (fun b e hm=>zaq hgr.own hsn (by decide) b e (List.mem_singleton.1 hm)) (fun i hi b e hm=>zaq (hgr.row i hi) hsn (by decide) b e (List.mem_singleton.1 hm)),
  h.st.kept hk2 (hne h.st.own (by decide) (by decide)) (fun i hi=>hne (h.st.row i hi) (by decide) (by decide)),fun i hi b e1 e2=>?_,⟨h.lo.1,?_⟩,fun e he=>⟨by have:=(h.hE e he).1;omega,(h.hE e he).2.1,by have:=(h.hE e he).2.2;omega⟩,h.hx⟩,
  ⟨⟨_,hk2,fun x hx=>Or.inl ?_⟩,fun x hx=>?_,hB.setCell (p:=⟨bn,258,none⟩) h.lo.1 v'⟩⟩
 ·have:=hsn.set 258 v'
  rwa [zlD] at this
 ·by_cases e:i=Mf
  ·rw[if_pos e] at e2;simp[Value.ownBlock] at e2
  ·rw[if_neg e] at e2
   exact h.sep i (by omega) b e1 e2
 ·have:=hB.size
  have:=h.lo.2
  simp only[World.size_setCell]
  omega
 ·rcases List.mem_cons.1 hx with rfl|hx
  ·exact Or.inl rfl
  ·exact Or.inr (Or.inr (Or.inl (by simpa using hx)))
 ·rcases hx with e|e|e|e|⟨i,hi,e⟩|e
  ·exact Or.inl (Or.inl e)
  ·exact Or.inl (Or.inr (Or.inl e))
  ·rcases hat with h1|h1
   ·exact Or.inl (Or.inr (Or.inr (Or.inl (by rw[<-h1];exact e))))
   ·rw[h1] at e;injection e with e;exact Or.inr (by omega)
  ·exact Or.inl (Or.inr (Or.inr (Or.inr (Or.inl e))))
  ·dsimp only at e
   by_cases e1:i=Mf
   ·rw[if_pos e1] at e;simp[Value.ownBlock] at e
   ·rw[if_neg e1] at e
    exact Or.inl (Or.inr (Or.inr (Or.inr (Or.inr (Or.inl ⟨i,by omega,e⟩)))))
  ·exact Or.inl (Or.inr (Or.inr (Or.inr (Or.inr (Or.inr e)))))
theorem NtA.pushS {W w5:World}{B bn Mm Mf Ms:Nat}{cs:Array Value}{mks:List Int}{vM vF vS v':Value}{fv sv:Nat->Value}{xs:Nat->List Value}{L:List En}(h:NtA B bn Mm Mf Ms cs mks vM vF vS fv sv xs L W)
  (ho:w5.ownsRow B 161 1 v' (Ms+1) ((List.range Ms).map sv++[.slice none 0 0])) (hg:W.grownBy w5 vS.ownBlock) (hat:v'.ownBlock=vS.ownBlock\/v'.ownBlock=some W.heap.size):
  NtA B bn Mm Mf (Ms+1) cs mks vM vF v' fv (fun j=>if j=Ms then .slice none 0 0 else sv j) xs L (w5.setCell ⟨bn,259,none⟩ v')/\NtF B bn (bsN bn Mf Ms vM vF vS fv sv) (bsN bn Mf (Ms+1) vM vF v' fv (fun j=>if j=Ms then .slice none 0 0 else sv j)) W (w5.setCell ⟨bn,259,none⟩ v'):=by
 have hk:Kept [] (bn :: vS.ownBlock.toList) W w5:=(Kept.refl _ _ _).grown hg (fun g e=>Or.inl (by simp[e]))
 have hk2:Kept [] (bn :: vS.ownBlock.toList) W (w5.setCell ⟨bn,259,none⟩ v'):=hk.setCell _ _ (Or.inl (by simp))
 have hB:Below B W w5:=zac (Below.refl _ _) h.st.own h.lo.2 hg
 have hsn:=h.sn.grown_own h.st.own (by decide) hg
 have hne:∀{t s n:Nat}{v:Value}{ys:List Value},W.ownsRow B t s v n ys->t≠121->t≠161->∀b,v.ownBlock=some b->b∉bn :: vS.ownBlock.toList:=fun ho ht hn b e hm=>by
  rcases List.mem_cons.1 hm with rfl|hm
  ·exact zaq ho h.sn ht _ e rfl
  ·exact zan ho h.st.own hn b e (by simpa using hm)
 have hgr:=(h.st.push (by decide) (by simp[zhG (fun e he=>(h.hE e he).2.1) (Nat.le_refl _)]) (h.hx _ (Nat.le_refl _)) ho hg)
 refine⟨⟨?_,h.sz,zal h.om hk2 (by simp) (hne h.om (by decide) (by decide)),h.fr.kept hk2 (hne h.fr.own (by decide) (by decide)) (fun i hi=>hne (h.fr.row i hi) (by decide) (by decide)),
  hgr.kept (bs:=[bn]) ((Kept.refl _ _ _).setCell _ _ (Or.inl (by simp))) (fun b e hm=>zaq hgr.own hsn (by decide) b e (List.mem_singleton.1 hm)) (fun i hi b e hm=>zaq (hgr.row i hi) hsn (by decide) b e (List.mem_singleton.1 hm)),h.sep,⟨h.lo.1,?_⟩,fun e he=>⟨(h.hE e he).1,by have:=(h.hE e he).2.1;omega,(h.hE e he).2.2⟩,fun i hi=>h.hx i (by omega)⟩,
  ⟨⟨_,hk2,fun x hx=>Or.inl ?_⟩,fun x hx=>?_,hB.setCell (p:=⟨bn,259,none⟩) h.lo.1 v'⟩⟩
 ·have:=hsn.set 259 v'
  rwa [Array.setIfInBounds_setIfInBounds] at this
 ·have:=hB.size
  have:=h.lo.2
  simp only[World.size_setCell]
  omega
 ·rcases List.mem_cons.1 hx with rfl|hx
  ·exact Or.inl rfl
  ·exact Or.inr (Or.inr (Or.inr (Or.inl (by simpa using hx))))
 ·rcases hx with e|e|e|e|e|⟨i,hi,e⟩
  ·exact Or.inl (Or.inl e)
  ·exact Or.inl (Or.inr (Or.inl e))
  ·exact Or.inl (Or.inr (Or.inr (Or.inl e)))
  ·rcases hat with h1|h1
   ·exact Or.inl (Or.inr (Or.inr (Or.inr (Or.inl (by rw[<-h1];exact e)))))
   ·rw[h1] at e;injection e with e;exact Or.inr (by omega)
  ·exact Or.inl (Or.inr (Or.inr (Or.inr (Or.inr (Or.inl e)))))
  ·dsimp only at e
   by_cases e1:i=Ms
   ·rw[if_pos e1] at e;simp[Value.ownBlock] at e
   ·rw[if_neg e1] at e
    exact Or.inl (Or.inr (Or.inr (Or.inr (Or.inr (Or.inr ⟨i,by omega,e⟩)))))
theorem Tryz.info_stps:(Tryz.prog.info? 161).map (fun i=>(i.zero,i.size,i.bytes))=some (some (.slice none 0 0),1,24):=by kernel_rfl
def zoy (B bn M:Nat) (cs:Array Value) (mks:List Int) (vM vF vS:Value) (fv sv:Nat->Value) (xs:Nat->List Value) (L:List En) (r:Int) (w:World) (e:Ending) (w':World):Prop:=
 ∃vM' vF' vS',e=.returned (.int .i64 (M:Int))/\NtA B bn (M+1) (M+1) (M+1) cs (mks++[r]) vM' vF' vS' (fun j=>if j=M then .slice none 0 0 else fv j) (fun j=>if j=M then .slice none 0 0 else sv j) xs L w'/\
  NtF B bn (bsN bn M M vM vF vS fv sv) (bsN bn (M+1) (M+1) vM' vF' vS' (fun j=>if j=M then .slice none 0 0 else fv j) (fun j=>if j=M then .slice none 0 0 else sv j)) w w'
theorem zlE (B bn M:Nat) (cs:Array Value) (mks:List Int) (vM vF vS:Value) (fv sv:Nat->Value) (xs:Nat->List Value) (L:List En) (w:World) (h:NtA B bn M M M cs mks vM vF vS fv sv xs L w) (hM:M<=100000) (r:Int):
  Calls Tryz.prog 115 #[.pointer (some ⟨bn,0,none⟩),.int .i64 r] w (zoy B bn M cs mks vM vF vS fv sv xs L r w):=by
 obtain⟨aM,cM,rfl⟩:=zaa h.om
 obtain⟨aF,cF,rfl⟩:=zaa h.fr.own
 obtain⟨aS,cS,rfl⟩:=zaa h.st.own
 obtain⟨c0,_,_⟩:=h.cells
 have hO:=h.om
 have hB:=h.lo.2
 have H:=hid h
 obtain⟨i0,hi,hz0,hz1,hz2⟩:=info_parts Tryz.info_int9
 obtain⟨i1,hj,hy0,hy1,hy2⟩:=info_parts Tryz.info_ints
 obtain⟨i2,hk,hx0,hx1,hx2⟩:=info_parts Tryz.info_stps
 clear h
 go_enter Tryz.func115,Tryz.ntmps115
 go_wp2_with (at_builtin;refine wpList_append_own_at _ rfl _ _ 30 rfl B 3 i0 (.int .i64 0) 1 8 Tryz.underlying30 hi hz0 hz1 hz2 rfl (by decide) _ _ _ rfl (hO.alloc _) ⟨w.heap.size,0,none⟩ 1 1 [.int .i64 r] rfl rfl (cell_one_new _ _ _) ?d2 ?d3 ?d4 ?d5 ?_)
 case d2=>intro u hu;simp at hu;subst hu;rfl
 case d3=>unfold maxLen;omega
 case d4=>omega
 case d5=>simp;omega
 intro v' w5 hown5 hgrow5 _ hat5
 obtain⟨a5,c5,rfl⟩:=zaa hown5
 have h1:=H.out.keep (al w (.cells #[.int .i64 r] 3))
 have F1:=NtF.keep (B:=B) (bn:=bn) (P:=bsN bn M M (.slice aM M cM) (.slice aF M cF) (.slice aS M cS) fv sv) (al w (.cells #[.int .i64 r] 3)) hB
 obtain⟨h2,F2⟩:=h1.pushM hown5 hgrow5 (by simpa using hat5)
 have H2:=hid (And.intro h2 (F1.trans F2))
 have hs5:St w5 121 bn _:=h1.sn.grown_own h1.om (by decide) hgrow5
 have p1:w5.cell? ⟨bn,257,none⟩=some (.slice aM M cM):=by
  rw[hs5.at_,<-h1.sn.at_];exact h1.cells.1
 have p2:=hs5.thaw_ 257
 clear hown5 hgrow5 hat5 h1 F1 h2 F2 hs5 c0 hO
 go_upto_region 2 with fail
 generalize w5.setCell ⟨bn,257,none⟩ (.slice a5 (M+1) c5)=W2 at H2⊢
 clear p1 p2
 obtain⟨_,c0,_⟩:=H2.out.1.cells
 have hO:=H2.out.1.fr.own
 have hB2:=H2.out.1.lo.2
 go_wp2_with (at_builtin;refine wpList_append_own_at _ rfl _ _ 37 rfl B 30 i1 (.slice none 0 0) 1 24 Tryz.underlying37 hj hy0 hy1 hy2 rfl (by decide) _ _ _ rfl (hO.alloc _) ⟨W2.heap.size,0,none⟩ 1 1 [.slice none 0 0] rfl rfl (cell_one_new _ _ _) ?d2 ?d3 ?d4 ?d5 ?_)
 case d2=>intro u hu;simp at hu;subst hu;rfl
 case d3=>unfold maxLen;omega
 case d4=>omega
 case d5=>simp;omega
 intro v' w6 hown5 hgrow5 _ hat5
 obtain⟨a6,c6,rfl⟩:=zaa hown5
 have h1:=H2.out.1.keep (al W2 (.cells #[.slice none 0 0] 30))
 have F1:=H2.out.2.trans (NtF.keep (al W2 (.cells #[.slice none 0 0] 30)) hB2)
 obtain⟨h2,F2⟩:=h1.pushF hown5 hgrow5 (by simpa using hat5)
 have H3:=hid (And.intro h2 (F1.trans F2))
 have hs5:St w6 121 bn _:=h1.sn.grown_own h1.fr.own (by decide) hgrow5
 have p1:w6.cell? ⟨bn,258,none⟩=some (.slice aF M cF):=by
  rw[hs5.at_,<-h1.sn.at_];exact h1.cells.2.1
 have p2:=hs5.thaw_ 258
 clear hown5 hgrow5 hat5 h1 F1 h2 F2 hs5 c0 hO hB2 H2
 go_upto_region 3 with fail
 generalize w6.setCell ⟨bn,258,none⟩ (.slice a6 (M+1) c6)=W3 at H3⊢
 clear p1 p2
 obtain⟨_,_,c0⟩:=H3.out.1.cells
 have hO:=H3.out.1.st.own
 have hB2:=H3.out.1.lo.2
 go_wp2_with (at_builtin;refine wpList_append_own_at _ rfl _ _ 119 rfl B 161 i2 (.slice none 0 0) 1 24 Tryz.underlying119 hk hx0 hx1 hx2 rfl (by decide) _ _ _ rfl (hO.alloc _) ⟨W3.heap.size,0,none⟩ 1 1 [.slice none 0 0] rfl rfl (cell_one_new _ _ _) ?d2 ?d3 ?d4 ?d5 ?_)
 case d2=>intro u hu;simp at hu;subst hu;rfl
 case d3=>unfold maxLen;omega
 case d4=>omega
 case d5=>simp;omega
 intro v' w7 hown5 hgrow5 _ hat5
 obtain⟨a7,c7,rfl⟩:=zaa hown5
 have h1:=H3.out.1.keep (al W3 (.cells #[.slice none 0 0] 161))
 have F1:=H3.out.2.trans (NtF.keep (al W3 (.cells #[.slice none 0 0] 161)) hB2)
 obtain⟨h2,F2⟩:=h1.pushS hown5 hgrow5 (by simpa using hat5)
 have H4:=hid (And.intro h2 (F1.trans F2))
 have hs5:St w7 121 bn _:=h1.sn.grown_own h1.st.own (by decide) hgrow5
 have p1:w7.cell? ⟨bn,259,none⟩=some (.slice aS M cS):=by
  rw[hs5.at_,<-h1.sn.at_];exact h1.cells.2.2
 have p2:=hs5.thaw_ 259
 clear hown5 hgrow5 hat5 h1 F1 h2 F2 hs5 c0 hO hB2 H3
 go_upto_region 4 with fail
 generalize w7.setCell ⟨bn,259,none⟩ (.slice a7 (M+1) c7)=W4 at H4⊢
 clear p1 p2
 obtain⟨c0,_,_⟩:=H4.out.1.cells
 go_wp2_with fail
 go_ret
 exact⟨_,_,_,rfl,H4.out.1,H4.out.2⟩
theorem NtF.st {B bn t g:Nat}{P P':Nat->Prop}{w w':World}{cs:Array Value}(F:NtF B bn P P' w w') (h:St w t g cs) (hn:¬P g):St w' t g cs:=by
 obtain⟨bs,k,h2⟩:=F.kept
 exact h.kept k (by simp) (fun hm=>by rcases h2 g hm with h3|h3;exact hn h3;have:=h.lt;omega)
theorem NtF.map {B bn t b n:Nat}{P P':Nat->Prop}{w w':World}{Q:Value->Value->Prop}(F:NtF B bn P P' w w') (h:MapEx w t b n Q) (hn:¬P b):MapEx w' t b n Q:=by
 obtain⟨bs,k,h2⟩:=F.kept
 exact h.kept k (fun hm=>by rcases h2 b hm with h3|h3;exact hn h3;have:=h.lt;omega)
theorem NtF.own {B bn B' t s n:Nat}{P P':Nat->Prop}{w w':World}{v:Value}{xs:List Value}(F:NtF B bn P P' w w') (h:w.ownsRow B' t s v n xs) (hn:∀g,v.ownBlock=some g->¬P g):w'.ownsRow B' t s v n xs:=by
 obtain⟨bs,k,h2⟩:=F.kept
 exact zal h k (by simp) (fun g e hm=>by
  rcases h2 g hm with h3|h3
  ·exact hn g e h3
  ·obtain⟨c,fz,hc⟩:=zaI h g e
   have:=(Array.getElem?_eq_some_iff.1 hc).1;omega)
theorem NtF.ian {B bn:Nat}{P P':Nat->Prop}{w w':World}{a:Option Addr}{l:List Nat}(F:NtF B bn P P' w w') (h:0<l.length->∃g off,a=some ⟨g,off,none⟩/\g<w.heap.size/\¬P g/\∀j (h:j<l.length),w.cell? ⟨g,off+j,none⟩=some (.int .i64 ((l[j]:Nat):Int))):
  0<l.length->∃g off,a=some ⟨g,off,none⟩/\g<w'.heap.size/\¬P' g/\∀j (h:j<l.length),w'.cell? ⟨g,off+j,none⟩=some (.int .i64 ((l[j]:Nat):Int)):=by
 intro h0
 obtain⟨g,off,e,hg,hn,hc⟩:=h h0
 obtain⟨bs,k,h2⟩:=F.kept
 have hn2:g∉bs:=fun hm=>by rcases h2 g hm with h|h;exact hn h;omega
 refine⟨g,off,e,Nat.lt_of_lt_of_le hg F.below.size,fun hm=>?_,fun j hj=>?_⟩
 ·rcases F.new g hm with h|h
  ·exact hn h
  ·omega
 ·rw[k.cell9 hn2 hg];exact hc j hj
theorem NtF.more {B bn:Nat}{P P':Nat->Prop}{w w':World}(F:NtF B bn P P' w w') (Z:Nat->Prop):NtF B bn (fun x=>Z x\/P x) (fun x=>Z x\/P' x) w w':=by
 obtain⟨bs,k,h2⟩:=F.kept
 exact⟨⟨bs,k,fun x hx=>(h2 x hx).elim (fun h=>Or.inl (Or.inr h)) Or.inr⟩,fun x hx=>hx.elim (fun h=>Or.inl (Or.inl h)) (fun h=>(F.new x h).elim (fun h=>Or.inl (Or.inr h)) Or.inr),F.below⟩
theorem NtA.ne_st {w:World}{B bn Mm Mf Ms t g:Nat}{cs cs':Array Value}{mks:List Int}{vM vF vS:Value}{fv sv:Nat->Value}{xs:Nat->List Value}{L:List En}(h:NtA B bn Mm Mf Ms cs mks vM vF vS fv sv xs L w) (hs:St w t g cs')
  (h1:t≠121) (h2:t≠3) (h3:t≠30) (h4:t≠161) (h5:t≠163):¬bsN bn Mf Ms vM vF vS fv sv g:=by
 rintro (e|e|e|e|⟨i,hi,e⟩|⟨i,hi,e⟩)
 ·exact hs.ne h.sn h1 e
 ·exact zaq h.om hs (fun e=>h2 e.symm) g e rfl
 ·exact zaq h.fr.own hs (fun e=>h3 e.symm) g e rfl
 ·exact zaq h.st.own hs (fun e=>h4 e.symm) g e rfl
 ·exact zaq (h.fr.row i hi) hs (fun e=>h2 e.symm) g e rfl
 ·exact zaq (h.st.row i hi) hs (fun e=>h5 e.symm) g e rfl
theorem NtA.ne_map {w:World}{B bn Mm Mf Ms k b n:Nat}{cs:Array Value}{mks:List Int}{vM vF vS:Value}{fv sv:Nat->Value}{xs:Nat->List Value}{L:List En}{Q:Value->Value->Prop}(h:NtA B bn Mm Mf Ms cs mks vM vF vS fv sv xs L w) (hm:MapEx w k b n Q):¬bsN bn Mf Ms vM vF vS fv sv b:=by
 rintro (e|e|e|e|⟨i,hi,e⟩|⟨i,hi,e⟩)
 ·exact zbi hm h.sn e.symm
 ·exact zaP hm h.om b e rfl
 ·exact zaP hm h.fr.own b e rfl
 ·exact zaP hm h.st.own b e rfl
 ·exact zaP hm (h.fr.row i hi) b e rfl
 ·exact zaP hm (h.st.row i hi) b e rfl
theorem NtA.grown_map {w w1:World}{B bn Mm Mf Ms k b n:Nat}{cs:Array Value}{mks:List Int}{vM vF vS:Value}{fv sv:Nat->Value}{xs:Nat->List Value}{L:List En}{Q:Value->Value->Prop}(h:NtA B bn Mm Mf Ms cs mks vM vF vS fv sv xs L w) (hm:MapEx w k b n Q) (hg:w.grownBy w1 (some b)) (hb:B<=b):
  NtA B bn Mm Mf Ms cs mks vM vF vS fv sv xs L w1/\NtF B bn (fun x=>x=b\/bsN bn Mf Ms vM vF vS fv sv x) (fun x=>x=b\/bsN bn Mf Ms vM vF vS fv sv x) w w1:=by
 have hk:Kept [] [b] w w1:=(Kept.refl _ _ _).grown hg (fun g e=>by injection e with e;exact Or.inl (by simp[<-e]))
 have hB:Below B w w1:=(Below.refl _ _).grown hg h.lo.2 (fun g e=>by injection e with e;rw[<-e];exact hb)
 exact⟨h.kept hk hB.size (fun x hx hx2=>h.ne_map hm (by rw[<-List.mem_singleton.1 hx2];exact hx)),⟨⟨[b],hk,fun x hx=>Or.inl (Or.inl (List.mem_singleton.1 hx))⟩,fun x hx=>Or.inl hx,hB⟩⟩
structure NnA (V:World) (B bn b3 b5 b6 bM:Nat) (fn:Value) (mf:Nat->Int) (nm:List Nat) (cs:Array Value) (vM vF vS:Value) (fv sv:Nat->Value) (xs:Nat->List Value) (L:List En) (w:World):Prop where
 n:NtA B bn nm.length nm.length nm.length cs (nm.map mf) vM vF vS fv sv xs L w
 sM:St w 157 b6 #[.map (some bM)]
 sT:St w 116 b5 #[.pointer (some ⟨bn,0,none⟩)]
 sF:St w 93 b3 #[fn]
 map:MapEx w 3 bM nm.length (NmQ nm)
 nd:nm.Nodup
 le:∀x∈nm,x<=9223372036854775807
 bM:B<=bM
 bel:Below B V w
def bsM (bM bn M:Nat) (vM vF vS:Value) (fv sv:Nat->Value) (x:Nat):Prop:=x=bM\/bsN bn M M vM vF vS fv sv x
theorem NnA.keep {V w w':World}{B bn b3 b5 b6 bM:Nat}{fn:Value}{mf:Nat->Int}{nm:List Nat}{cs:Array Value}{vM vF vS:Value}{fv sv:Nat->Value}{xs:Nat->List Value}{L:List En}(h:NnA V B bn b3 b5 b6 bM fn mf nm cs vM vF vS fv sv xs L w) (k:Below w.heap.size w w'):NnA V B bn b3 b5 b6 bM fn mf nm cs vM vF vS fv sv xs L w':=
 ⟨h.n.keep k,h.sM.keep k,h.sT.keep k,h.sF.keep k,h.map.same (k.block _ h.map.lt),h.nd,h.le,h.bM,h.bel.trans (k.mono h.n.lo.2)⟩
def zok (V:World) (B bn b3 b5 b6 bM:Nat) (fn:Value) (mf:Nat->Int) (nm:List Nat) (cs:Array Value) (vM vF vS:Value) (fv sv:Nat->Value) (xs:Nat->List Value) (L:List En) (s:Nat) (w:World) (e:Ending) (w':World):Prop:=
 ∃(k:Nat) (nm':List Nat) (vM' vF' vS':Value) (fv' sv':Nat->Value),e=.returned (.int .i64 (k:Int))/\NnA V B bn b3 b5 b6 bM fn mf nm' cs vM' vF' vS' fv' sv' xs L w'/\nm'[k]?=some s/\(nm'=nm\/nm'=nm++[s])/\
  NtF B bn (bsM bM bn nm.length vM vF vS fv sv) (bsM bM bn nm'.length vM' vF' vS' fv' sv') w w'
theorem zen:(∀(args:Array Value) (W:World),(callFunc 52 args).run Tryz.prog W=.ok (.enter 52 args) W)/\∀(args:Array Value) (W:World),(callFunc 62 args).run Tryz.prog W=.ok (.enter 62 args) W:=⟨fun _ _=>by rfl,fun _ _=>by rfl⟩
theorem zcn (V:World) (B bn b3 b5 b6 bM kf bV:Nat) (mf:Nat->Int) (nm:List Nat) (cs:Array Value) (vM vF vS:Value) (fv sv:Nat->Value) (xs:Nat->List Value) (L:List En) (w:World) (HC:∀(args:Array Value) (W:World),(callFunc kf args).run Tryz.prog W=.ok (.enter kf args) W)
  (HM:∀W,Below B V W->∀x,x<=9223372036854775807->Calls Tryz.prog kf #[.int .i64 ((x:Nat):Int),.pointer (some ⟨bV,0,none⟩)] W fun e w'=>e=.returned (.int .i64 (mf x))/\w'=W)
  (h:NnA V B bn b3 b5 b6 bM (.func (.func kf) #[] #[.pointer (some ⟨bV,0,none⟩)]) mf nm cs vM vF vS fv sv xs L w) (hlen:nm.length<=90000) (s:Nat) (hs:s<=9223372036854775807):
  Calls Tryz.prog 114 #[.int .i64 (s:Int),.pointer (some ⟨b6,0,none⟩),.pointer (some ⟨b5,0,none⟩),.pointer (some ⟨b3,0,none⟩)] w (zok V B bn b3 b5 b6 bM (.func (.func kf) #[] #[.pointer (some ⟨bV,0,none⟩)]) mf nm cs vM vF vS fv sv xs L s w):=by
 have m0:w.cell? ⟨b6,0,none⟩=some (.map (some bM)):=h.sM.at_ 0
 have m1:w.drew.cell? ⟨b5,0,none⟩=some (.pointer (some ⟨bn,0,none⟩)):=h.sT.at_ 0
 have m2:w.drew.cell? ⟨b3,0,none⟩=some (.func (.func kf) #[] #[.pointer (some ⟨bV,0,none⟩)]):=h.sF.at_ 0
 have H:=hid h
 rcases h.map.look2 zbe Tryz.underlying157 (zcs w) (zbP s hs) with ⟨hrun,hno⟩|⟨v,⟨k,s',h1,h2,rfl⟩,hrun⟩
 rotate_left
 ·obtain rfl:s=s':=zct h2
  have HK:=hid h1
  clear h h1 h2
  go_enter Tryz.func114,Tryz.ntmps114
  go_wp2_with fail
  go_ret
  exact⟨k,nm,_,_,_,_,_,rfl,H.out,HK.out,Or.inl rfl,⟨⟨[],Kept.refl _ _ _,by simp⟩,fun x h=>Or.inl h,Below.refl _ _⟩⟩
 ·have HNo:=hid hno
  have hd:Below w.heap.size w w.drew:=(Below.refl _ _).drew
  have Hd:=hid (h.keep hd)
  have HMk:=hid (HM w.drew Hd.out.bel s hs)
  have HAd:=hid (zlE B bn nm.length cs (nm.map mf) vM vF vS fv sv xs L w.drew Hd.out.n (by omega) (mf s))
  clear h hno hd HM
  obtain⟨r,hr⟩:∃r,mf s=r:=⟨_,rfl⟩
  have HR:=hid hr
  rw[hr] at HMk HAd
  clear hr
  go_enter Tryz.func114,Tryz.ntmps114
  go_wp2_with fail
  go_region_with (first
   | (with_reducible refine Calls.mono HMk.out ?_;rintro e w2 ⟨rfl,rfl⟩)
   | (go_at_call 115;refine HAd.out.mono ?_;rintro e w2 ⟨vM',vF',vS',rfl,hN2,hF2⟩;have HN2:=hid (And.intro hN2 hF2);clear hN2 hF2))
  all_goals
   have F2:=HN2.out.2
   have sM2:=F2.st Hd.out.sM (Hd.out.n.ne_st Hd.out.sM (by decide) (by decide) (by decide) (by decide) (by decide))
   have sT2:=F2.st Hd.out.sT (Hd.out.n.ne_st Hd.out.sT (by decide) (by decide) (by decide) (by decide) (by decide))
   have sF2:=F2.st Hd.out.sF (Hd.out.n.ne_st Hd.out.sF (by decide) (by decide) (by decide) (by decide) (by decide))
   have map2:=F2.map Hd.out.map (Hd.out.n.ne_map Hd.out.map)
   have hsn:s∉nm:=fun hm=>by
    obtain⟨k,hk,e⟩:=List.getElem_of_mem hm
    exact HNo.out (.int .i64 (k:Int)) ⟨k,s,by rw[List.getElem?_eq_getElem hk,e],rfl,rfl⟩
   obtain⟨w3,hup,hM3,hg3⟩:=map2.update (Q':=NmQ (nm++[s])) (val:=.int .i64 (nm.length:Int)) zbe Tryz.underlying157 (by unfold maxLen;omega) (zbP s hs) HNo.out
    (fun x y ⟨k,t,h1,h2,h3⟩=>⟨k,t,by rw[List.getElem?_append_left (List.getElem?_eq_some_iff.1 h1).1];exact h1,h2,h3⟩) ⟨nm.length,s,by simp,rfl,rfl⟩
    (fun x y ⟨k,t,h1,h2,h3⟩ hne=>by
     by_cases hk:k<nm.length
     ·rw[List.getElem?_append_left hk] at h1
      exact⟨_,k,t,h1,h2,rfl⟩
     ·have hk2:k=nm.length:=by have:=(List.getElem?_eq_some_iff.1 h1).1;simp at this;omega
      subst hk2
      simp at h1
      exact absurd (by rw[h2,h1]) hne)
   have m3:w2.cell? ⟨b6,0,none⟩=some (.map (some bM)):=sM2.at_ 0
   obtain⟨n3,F3⟩:=HN2.out.1.grown_map map2 hg3 Hd.out.bM
   have hnm:(nm++[s]).length=nm.length+1:=by simp
   have HF:Hid (zok V B bn b3 b5 b6 bM (.func (.func kf) #[] #[.pointer (some ⟨bV,0,none⟩)]) mf nm cs vM vF vS fv sv xs L s w (.returned (.int .i64 (nm.length:Int))) w3):=by
    refine⟨nm.length,nm++[s],vM',vF',vS',(fun j=>if j=nm.length then .slice none 0 0 else fv j),(fun j=>if j=nm.length then .slice none 0 0 else sv j),rfl,⟨?_,sM2.grown_map map2.of hg3,sT2.grown_map map2.of hg3,sF2.grown_map map2.of hg3,?_,?_,?_,Hd.out.bM,(Hd.out.bel.trans F2.below).trans F3.below⟩,by simp,Or.inr rfl,?_⟩
    ·rw[hnm,List.map_append,List.map_singleton,HR.out]
     exact n3
    ·rw[hnm];exact hM3
    ·refine List.nodup_append.2 ⟨H.out.nd,by simp,fun a ha b hb e=>?_⟩
     rw[List.mem_singleton.1 hb] at e
     exact hsn (e ▸ ha)
    ·intro x hx
     rcases List.mem_append.1 hx with hx|hx
     ·exact H.out.le x hx
     ·rw[List.mem_singleton.1 hx];exact hs
    ·rw[hnm]
     exact ((NtF.keep (bn:=bn) (P:=bsM bM bn nm.length vM vF vS fv sv) (show Below w.heap.size w w.drew from (Below.refl _ _).drew) H.out.n.lo.2).trans (F2.more (fun x=>x=bM))).trans F3
   clear F2 sM2 sT2 sF2 map2 hM3 hg3 n3 F3 hnm hsn
   go_wp2_with fail
   go_ret
   exact HF.out
theorem zj4:(match Tryz.prog.underlying 57 with|some (.array _ _)|some (.struct _)=>true|_=>false)=true:=by kernel_rfl
theorem zhH:Keyed Tryz.prog 57:=Keyed.of_law (deep_law_laid laidOut (m:=2) (by omega) (of_decide_eq_true (by kernel_rfl)) (by kernel_rfl) zj4)
theorem zcJ (d:Nat) (n:Int) (h:(Lit.int .u64 n).wf=true):Tryz.prog.keyLits (d+1) 55 [.int .u64 n]=some [.int .u64 n]:=by
 simp[Program.keyLits,Tryz.underlying55,h]
theorem ziD:Tryz.prog.cellsOf 55=1:=by kernel_rfl
theorem zeo:Tryz.prog.cellsOf 57=4:=by kernel_rfl
theorem zlF (a0 a1 a2 a3:Int) (h0:(Lit.int .u64 a0).wf=true) (h1:(Lit.int .u64 a1).wf=true) (h2:(Lit.int .u64 a2).wf=true) (h3:(Lit.int .u64 a3).wf=true):
  ∃kl,keyOf Tryz.prog 57 (.agg #[.int .u64 a0,.int .u64 a1,.int .u64 a2,.int .u64 a3])=some kl:=by
 have hT:Tryz.prog.keyType 57=true:=by kernel_rfl
 have hs:∃d,Tryz.prog.types.size+1=d+2:=⟨Tryz.prog.types.size-1,by have:4<=Tryz.prog.types.size:=of_decide_eq_true (by kernel_rfl);omega⟩
 obtain⟨d,hd⟩:=hs
 have hl:Tryz.prog.keyLits (d+2) 57 [.int .u64 a0,.int .u64 a1,.int .u64 a2,.int .u64 a3]=some [.int .u64 a0,.int .u64 a1,.int .u64 a2,.int .u64 a3]:=by
  conv=>lhs;unfold Program.keyLits
  simp[Tryz.underlying57,zeo,ziD,List.range_succ,zcJ d a0 h0,zcJ d a1 h1,zcJ d a2 h2,zcJ d a3 h3]
 have hf:(Value.agg #[.int .u64 a0,.int .u64 a1,.int .u64 a2,.int .u64 a3]).formed Tryz.prog 57=true:=by
  simp[Value.formed,Tryz.underlying57,zeo]
 refine⟨.string (keyBytes [.int .u64 a0,.int .u64 a1,.int .u64 a2,.int .u64 a3]),?_⟩
 unfold keyOf
 simp only[Tryz.underlying57,hT,hf,Bool.and_self,if_true,hd,Value.cells,hl,Option.map_some]
theorem zgP (p:Nat->Bool):∃kl,keyOf Tryz.prog 57 (.agg #[.int .u64 ((wd p 0:Nat):Int),.int .u64 ((wd p 1:Nat):Int),.int .u64 ((wd p 2:Nat):Int),.int .u64 ((wd p 3:Nat):Int)])=some kl:=
 zlF _ _ _ _ (zkK _ (zeC p 0)) (zkK _ (zeC p 1)) (zkK _ (zeC p 2)) (zkK _ (zeC p 3))
theorem zep (w:World):(zeroValue 30).run Tryz.prog w=.ok (.slice none 0 0) w:=by kernel_rfl
def clR (lr:List Nat) (p:Nat->Bool):List Nat:=lst (fun c=>p (lr.getD c 0)) lr.length
theorem zj5 {lr:List Nat}(hl:∀x∈lr,x<256) {p q:Nat->Bool}(h:∀b,b<256->p b=q b):clR lr p=clR lr q:=by
 unfold clR lst
 refine List.filter_congr fun c hc=>?_
 have hc2:c<lr.length:=by simpa using hc
 have:lr.getD c 0=lr[c]:=by simp[List.getD,hc2]
 rw[this]
 exact h _ (hl _ (List.getElem_mem hc2))
def IAp (w:World) (P:Nat->Prop) (a:Option Addr) (l:List Nat):Prop:=0<l.length->∃g off,a=some ⟨g,off,none⟩/\g<w.heap.size/\¬P g/\∀j (h:j<l.length),w.cell? ⟨g,off+j,none⟩=some (.int .i64 ((l[j]:Nat):Int))
def LQ (lr:List Nat) (DL:List ((Nat->Bool) × Option Addr × Nat)) (x y:Value):Prop:=∃d∈DL,x=(.agg #[.int .u64 ((wd d.1 0:Nat):Int),.int .u64 ((wd d.1 1:Nat):Int),.int .u64 ((wd d.1 2:Nat):Int),.int .u64 ((wd d.1 3:Nat):Int)])/\y=.slice d.2.1 (clR lr d.1).length d.2.2
structure LsA (B b7 b8 bL n:Nat) (lr:List Nat) (aR:Option Addr) (cR:Nat) (P:Nat->Prop) (DL:List ((Nat->Bool) × Option Addr × Nat)) (w:World):Prop where
 s7:St w 86 b7 #[.slice aR lr.length cR]
 s8:St w 192 b8 #[.map (some bL)]
 row:w.ownsRow B 5 1 (.slice aR lr.length cR) lr.length (u8s lr)
 map:MapEx w 57 bL n (LQ lr DL)
 at_:∀d∈DL,IAp w P d.2.1 (clR lr d.1)
 lo:B<=bL/\B<=w.heap.size
 lr:∀x∈lr,x<256
theorem LsA.keep {B b7 b8 bL n:Nat}{lr:List Nat}{aR:Option Addr}{cR:Nat}{P:Nat->Prop}{DL:List ((Nat->Bool) × Option Addr × Nat)}{w w':World}(h:LsA B b7 b8 bL n lr aR cR P DL w) (k:Below w.heap.size w w'):LsA B b7 b8 bL n lr aR cR P DL w':=
 ⟨h.s7.keep k,h.s8.keep k,zab h.row k,h.map.same (k.block _ h.map.lt),fun d hd h0=>by
  obtain⟨g,off,e,hg,hn,hc⟩:=h.at_ d hd h0
  exact⟨g,off,e,Nat.lt_of_lt_of_le hg k.size,hn,fun j hj=>(k.cell (p:=⟨g,off+j,none⟩) hg).trans (hc j hj)⟩,⟨h.lo.1,Nat.le_trans h.lo.2 k.size⟩,h.lr⟩
def znA (B bn b7 b8 bL n:Nat) (lr:List Nat) (aR:Option Addr) (cR:Nat) (P:Nat->Prop) (DL:List ((Nat->Bool) × Option Addr × Nat)) (p:Nat->Bool) (w:World) (e:Ending) (w':World):Prop:=
 ∃(a:Option Addr) (c:Nat) (DL':List ((Nat->Bool) × Option Addr × Nat)),e=.returned (.slice a (clR lr p).length c)/\LsA B b7 b8 bL (n+1) lr aR cR P DL' w'/\IAp w' P a (clR lr p)/\(∃bs,Kept [] bs w w'/\∀x∈bs,x=bL)/\Below B w w'
theorem zlG (B bn b7 b8 bL n:Nat) (lr:List Nat) (aR:Option Addr) (cR:Nat) (P:Nat->Prop) (DL:List ((Nat->Bool) × Option Addr × Nat)) (w:World) (h:LsA B b7 b8 bL n lr aR cR P DL w) (hP:∀x,P x->x<w.heap.size) (hn:n<=100000) (hlr:lr.length<=256) (p:Nat->Bool):
  Calls Tryz.prog 143 #[(.agg #[.int .u64 ((wd p 0:Nat):Int),.int .u64 ((wd p 1:Nat):Int),.int .u64 ((wd p 2:Nat):Int),.int .u64 ((wd p 3:Nat):Int)]),.pointer (some ⟨b8,0,none⟩),.pointer (some ⟨b7,0,none⟩)] w (znA B bn b7 b8 bL n lr aR cR P DL p w):=by
 obtain⟨kl,hkl⟩:=zgP p
 obtain⟨W,hW⟩:∃W,w.alloc (.cells #[.int .u64 ((wd p 0:Nat):Int),.int .u64 ((wd p 1:Nat):Int),.int .u64 ((wd p 2:Nat):Int),.int .u64 ((wd p 3:Nat):Int)] 57)=W:=⟨_,rfl⟩
 have hk0:Below w.heap.size w W:=by rw[<-hW];exact al w _
 have h1:=h.keep hk0
 have hSs:St W 57 w.heap.size #[.int .u64 ((wd p 0:Nat):Int),.int .u64 ((wd p 1:Nat):Int),.int .u64 ((wd p 2:Nat):Int),.int .u64 ((wd p 3:Nat):Int)]:=by rw[<-hW];exact St.new _ _ _
 have m0:W.cell? ⟨b8,0,none⟩=some (.map (some bL)):=h1.s8.at_ 0
 obtain⟨t0,t1,t2,t3⟩:=row4 hSs
 have H:=hid h
 have HP:=hid hP
 have H1:=hid h1
 have HK:=hid (And.intro hk0 (And.intro hSs hkl))
 have hsz:=hk0.size
 have hS:=hid h.lo.2
 rcases h1.map.look2 zhH Tryz.underlying192 (zep W) hkl with ⟨hrun,hno⟩|⟨v,⟨d,hd,hde,rfl⟩,hrun⟩
 rotate_left
 ·have HD:=hid (And.intro hd hde)
  have HF:Hid (znA B bn b7 b8 bL n lr aR cR P DL p w (.returned (.slice d.2.1 (clR lr d.1).length d.2.2)) W):=by
   have e:clR lr p=clR lr d.1:=zj5 H.out.lr (by
    have:=HD.out.2
    simp only[Value.agg.injEq,Array.mk.injEq,List.cons.injEq,Value.int.injEq,Int.ofNat_inj,true_and,and_true] at this
    exact (zmf p d.1).1 ⟨this.1,this.2.1,this.2.2.1,this.2.2.2⟩)
   refine⟨d.2.1,d.2.2,DL,by rw[e],⟨H1.out.s7,H1.out.s8,H1.out.row,H1.out.map.more (by omega),H1.out.at_,H1.out.lo,H1.out.lr⟩,by rw[e];exact H1.out.at_ d HD.out.1,⟨[],Kept.below (Kept.refl _ _ _) HK.out.1,by simp⟩,HK.out.1.mono hS.out⟩
  clear h h1 hP hk0 hSs hd hde hkl
  go_enter Tryz.func143,Tryz.ntmps143
  go_upto_region 1 with fail
  try rw[hW]
  go_wp2_with fail
  go_ret
  exact HF.out
 ·have HNo:=hid hno
  have c7:W.cell? ⟨b7,0,none⟩=some (.slice aR lr.length cR):=h1.s7.at_ 0
  clear h h1 hP hk0 hSs hkl hno
  go_enter Tryz.func143,Tryz.ntmps143
  go_upto_region 1 with fail
  try rw[hW]
  obtain⟨q,hq⟩:∃q,lr.length=q:=⟨_,rfl⟩
  have HQ:=hid hq
  rw[hq] at c7 hlr
  obtain⟨i0,hi,hz0,hz1,hz2⟩:=info_parts Tryz.info_int9
  clear hq
  go_wp2_with fail
  go_loopw [5,7,8,19] (fun v _ _ x wr=>∃(k m:Nat) (a:Option Addr) (c:Nat),x=.int .i64 k/\k<=q/\m<=256/\v=.slice a m c/\Hid ((lst (fun c=>p (lr.getD c 0)) k).length=m/\wr.ownsRow W.heap.size 3 1 (.slice a m c) m (zai (lst (fun c=>p (lr.getD c 0)) k))/\Below W.heap.size W wr)) (fun _ _ _ x _=>q-(intOf x).toNat)
  case atStart=>exact⟨0,0,none,0,rfl,Nat.zero_le _,Nat.zero_le _,rfl,rfl,World.ownsRow_nil _ _ _ _,Below.refl _ _⟩
  case round=>
   obtain⟨k,m,a,c,rfl,hk,hm,rfl,HA⟩:=hrel
   by_cases hlt:k<q
   ·have hkl:k<lr.length:=by rw[HQ.out];exact hlt
    obtain⟨gR,rfl,_,hgR,hcR⟩:=zae H1.out.row (by omega)
    have d0:=(HA.out.2.2.cell (p:=⟨gR,k,none⟩) hgR).trans (hcR k (by omega)).1
    rw[zgc lr k hkl] at d0
    have hrk:lr.getD k 0<256:=by
     have:lr.getD k 0=lr[k]:=by simp[List.getD,hkl]
     rw[this];exact H1.out.lr _ (List.getElem_mem hkl)
    have s:=(HK.out.2.1).keep HA.out.2.2
    obtain⟨r0,r1,r2,r3⟩:=row4 s
    have HL1:=zmM (fun c=>p (lr.getD c 0)) k
    have HL0:=znP (fun c=>p (lr.getD c 0)) k
    try dsimp only at HL1 HL0
    have HL:=hid (And.intro HL1 HL0)
    have hle:=zl9 (fun c=>p (lr.getD c 0)) k
    rw[HA.out.1] at hle
    generalize lr.getD k 0=b at d0 hrk HL
    have i1:(k:Int)<(q:Int):=by omega
    clear hcR hkl s HL1 HL0
    go_wp2_with fail
    refine (zi1 p b hrk _).mono ?_
    rintro e w3 ⟨rfl,hB3⟩
    have hB:=HA.out.2.2.trans (hB3.mono HA.out.2.2.size)
    have hO:=zab HA.out.2.1 hB3
    have hBs:=hB.size
    rcases hpb:p b with _|_
    ·have HZ:Hid ((lst (fun c=>p (lr.getD c 0)) (k+1)).length=m/\w3.ownsRow W.heap.size 3 1 (.slice a m c) m (zai (lst (fun c=>p (lr.getD c 0)) (k+1)))/\Below W.heap.size W w3):=by
      rw[HL.out.2 hpb];exact⟨HA.out.1,hO,hB⟩
     clear hO hB hB3 hpb HA
     go_wp2_with fail
     go_roundw
     case rel=>exact⟨k+1,m,a,c,by go_num,by omega,hm,rfl,HZ⟩
     case measure=>simp[intOf];omega
    ·have HE:=hid (HL.out.1 hpb)
     have HA1:=hid HA.out.1
     clear hpb hB3 HA
     go_wp2_with (at_builtin;refine wpList_append_own _ rfl _ _ 30 rfl W.heap.size 3 i0 (.int .i64 0) 1 8 Tryz.underlying30 hi hz0 hz1 hz2 rfl (by decide) _ _ _ rfl (hO.alloc _) ⟨w3.heap.size,0,none⟩ 1 1 [.int .i64 (k:Int)] rfl rfl (cell_one_new _ _ _) ?d2 ?d3 ?d4 ?d5 ?_)
     case d2=>intro u hu;simp at hu;subst hu;rfl
     case d3=>unfold maxLen;omega
     case d4=>omega
     case d5=>simp;omega
     intro v' w5 hown5 hgrow5 _
     obtain⟨a5,c5,rfl⟩:=zaa hown5
     have hB5:=zac (hB.trans ((al w3 (.cells #[.int .i64 (k:Int)] 3)).mono hBs)) (hO.alloc _) (by simp;omega) hgrow5
     have HZ:Hid ((lst (fun c=>p (lr.getD c 0)) (k+1)).length=m+1/\w5.ownsRow W.heap.size 3 1 (.slice a5 (m+1) c5) (m+1) (zai (lst (fun c=>p (lr.getD c 0)) (k+1)))/\Below W.heap.size W w5):=by
      rw[HE.out]
      refine⟨by rw[List.length_append,HA1.out];rfl,?_,hB5⟩
      rw[zaL]
      exact hown5
     clear hown5 hgrow5 hB5 hO hB
     go_wp2_with fail
     go_roundw
     case rel=>exact⟨k+1,m+1,a5,c5,by go_num,by omega,by omega,rfl,HZ⟩
     case measure=>simp[intOf];omega
   ·obtain rfl:k=q:=by omega
    have hB:=HA.out.2.2
    have hs:=HK.out.2.1.keep hB
    obtain⟨r0,r1,r2,r3⟩:=row4 hs
    have h2:=H1.out.keep hB
    have m1:wr.cell? ⟨b8,0,none⟩=some (.map (some bL)):=h2.s8.at_ 0
    have hcl:clR lr p=lst (fun c=>p (lr.getD c 0)) k:=by unfold clR;rw[HQ.out]
    obtain⟨w5,hup,hM5,hg5⟩:=h2.map.update (Q':=LQ lr (DL++[(p,a,c)])) (val:=.slice a m c) zhH Tryz.underlying192 (by unfold maxLen;omega) HK.out.2.2 HNo.out
     (fun x y ⟨d,h1,h2,h3⟩=>⟨d,List.mem_append.2 (Or.inl h1),h2,h3⟩) ⟨(p,a,c),by simp,rfl,by simp only[hcl,HA.out.1]⟩
     (fun x y ⟨d,h1,h2,h3⟩ hne=>by
      rcases List.mem_append.1 h1 with h1|h1
      ·exact⟨y,d,h1,h2,h3⟩
      ·rw[List.mem_singleton.1 h1] at h2
       exact absurd h2 hne)
    have hBw:Below w.heap.size w wr:=HK.out.1.trans (hB.mono hsz)
    have hk5:Kept [] [bL] wr w5:=(Kept.refl _ _ _).grown hg5 (fun g e=>by injection e with e;exact Or.inl (by simp[<-e]))
    have hB5:Below B wr w5:=(Below.refl _ _).grown hg5 h2.lo.2 (fun g e=>by injection e with e;rw[<-e];exact H.out.lo.1)
    have hO5:=zaB HA.out.2.1 h2.map.of hg5
    have HF:Hid (znA B bn b7 b8 bL n lr aR cR P DL p w (.returned (.slice a m c)) w5):=by
     have hnew:IAp w5 P a (clR lr p):=fun h0=>by
      rw[hcl,HA.out.1] at h0
      obtain⟨g,rfl,hlo,hhi,hcs⟩:=zae hO5 h0
      refine⟨g,0,rfl,hhi,fun hp=>by have:=HP.out g hp;omega,fun j hj=>?_⟩
      rw[Nat.zero_add,(hcs j (by rw[hcl,HA.out.1] at hj;omega)).1]
      rw[hcl] at hj
      rw[za8 _ j hj]
      simp only[hcl]
     refine⟨a,c,DL++[(p,a,c)],by rw[hcl,HA.out.1],⟨h2.s7.grown_map h2.map.of hg5,h2.s8.grown_map h2.map.of hg5,zaB h2.row h2.map.of hg5,hM5,fun d hd=>?_,⟨h2.lo.1,Nat.le_trans h2.lo.2 hB5.size⟩,h2.lr⟩,hnew,⟨[bL],(Kept.below (Kept.refl _ _ _) hBw).trans hk5,fun x hx=>List.mem_singleton.1 hx⟩,(hBw.mono hS.out).trans hB5⟩
     rcases List.mem_append.1 hd with hd|hd
     ·intro h0
      obtain⟨g,off,e,hg,hn,hc⟩:=h2.at_ d hd h0
      have hgL:g≠bL:=fun e2=>by
       obtain⟨es,ck,hb,_⟩:=h2.map.of
       have h5:=hc 0 h0
       rw[e2] at h5
       simp[World.cell?,hb] at h5
      exact⟨g,off,e,Nat.lt_of_lt_of_le hg hB5.size,hn,fun j hj=>by rw[hk5.cell9 (by simpa using hgL) hg];exact hc j hj⟩
     ·rw[List.mem_singleton.1 hd]
      exact hnew
    clear hB hs h2 hM5 hg5 hBw hk5 hB5 hO5 hcl
    go_wp2_with fail
    go_ret
    exact HF.out
theorem NtA.appF {W w6:World}{B bn M gF cF:Nat}{cs:Array Value}{mks:List Int}{vM vS:Value}{fv sv:Nat->Value}{xs:Nat->List Value}{L:List En}(h:NtA B bn M M M cs mks vM (.slice (some ⟨gF,0,none⟩) M cF) vS fv sv xs L W) {x:En}(hb:x.b=true) (hf:x.f<M) (ht:x.t<M) {v':Value}{p:Nat}
  (ho:w6.ownsRow B 3 1 v' (p+1) (zai (rowF L x.f)++[.int .i64 (x.t:Int)])) (hp:(rowF L x.f).length=p) (hg:W.grownBy w6 (fv x.f).ownBlock) (hat:∀b,v'.ownBlock=some b->(fv x.f).ownBlock=some b\/W.heap.size<=b):
  NtA B bn M M M cs mks vM (.slice (some ⟨gF,0,none⟩) M cF) vS (fun j=>if j=x.f then v' else fv j) sv xs (L++[x]) (w6.setCell ⟨gF,x.f,none⟩ v')/\
   NtF B bn (bsN bn M M vM (.slice (some ⟨gF,0,none⟩) M cF) vS fv sv) (bsN bn M M vM (.slice (some ⟨gF,0,none⟩) M cF) vS (fun j=>if j=x.f then v' else fv j) sv) W (w6.setCell ⟨gF,x.f,none⟩ v'):=by
 have hr:=h.fr.row x.f hf
 have hk:Kept [] (gF :: (fv x.f).ownBlock.toList) W w6:=(Kept.refl _ _ _).grown hg (fun g e=>Or.inl (by simp[e]))
 have hk2:Kept [] (gF :: (fv x.f).ownBlock.toList) W (w6.setCell ⟨gF,x.f,none⟩ v'):=hk.setCell _ _ (Or.inl (by simp))
 have hB:Below B W w6:=zac (Below.refl _ _) hr h.lo.2 hg
 have hgF:B<=gF:=zas h.fr.own gF rfl
 have hne:∀{t s n:Nat}{v:Value}{ys:List Value},W.ownsRow B t s v n ys->t≠30->(∀b,v.ownBlock=some b->(fv x.f).ownBlock≠some b)->∀b,v.ownBlock=some b->b∉gF :: (fv x.f).ownBlock.toList:=fun ho ht hn b e hm=>by
  rcases List.mem_cons.1 hm with rfl|hm
  ·exact zan ho h.fr.own ht _ e rfl
  ·exact hn b e (by simpa using hm)
 refine⟨⟨h.sn.kept hk2 (by simp) (fun hm=>?_),h.sz,zal h.om hk2 (by simp) (hne h.om (by decide) (fun b e=>h.sep x.f hf b e)),(h.fr.app (by decide) hf ho hg hat).congr (fun i hi=>?_),
  (h.st.kept hk2 (hne h.st.own (by decide) (fun b e1 e2=>zan h.st.own hr (by decide) b e1 e2)) (fun i hi=>hne (h.st.row i hi) (by decide) (fun b e1 e2=>zan (h.st.row i hi) hr (by decide) b e1 e2))).congr (fun i hi=>?_),fun i hi b e1 e2=>?_,⟨h.lo.1,?_⟩,fun e he=>?_,h.hx⟩,
  ⟨⟨_,hk2,fun y hy=>Or.inl ?_⟩,fun y hy=>?_,hB.setCell (p:=⟨gF,x.f,none⟩) hgF v'⟩⟩
 ·rcases List.mem_cons.1 hm with e|hm
  ·exact zaq h.fr.own h.sn (by decide) gF rfl e.symm
  ·exact zaq hr h.sn (by decide) bn (by simpa using hm) rfl
 ·rw[zfr]
  by_cases e:i=x.f
  ·subst e
   rw[if_pos rfl,if_pos rfl,if_pos ⟨hb,rfl⟩,zaL,List.length_append,hp]
   exact⟨rfl,rfl⟩
  ·rw[if_neg e,if_neg e,if_neg (fun h=>e h.2.symm)]
   exact⟨rfl,rfl⟩
 ·rw[zbq,if_neg (by simp[hb])]
  exact⟨rfl,rfl⟩
 ·by_cases e:i=x.f
  ·rw[if_pos e] at e2
   rcases hat b e2 with h1|h1
   ·exact h.sep x.f hf b e1 h1
   ·have:=(h.lt b (Or.inr (Or.inl e1))).2;omega
  ·rw[if_neg e] at e2
   exact h.sep i hi b e1 e2
 ·have:=hB.size
  have:=h.lo.2
  simp only[World.size_setCell]
  omega
 ·rcases List.mem_append.1 he with he|he
  ·exact h.hE e he
  ·rw[List.mem_singleton.1 he];exact⟨hf,hf,ht⟩
 ·rcases List.mem_cons.1 hy with rfl|hy
  ·exact Or.inr (Or.inr (Or.inl rfl))
  ·exact Or.inr (Or.inr (Or.inr (Or.inr (Or.inl ⟨x.f,hf,by simpa using hy⟩))))
 ·rcases hy with e|e|e|e|⟨i,hi,e⟩|e
  ·exact Or.inl (Or.inl e)
  ·exact Or.inl (Or.inr (Or.inl e))
  ·exact Or.inl (Or.inr (Or.inr (Or.inl e)))
  ·exact Or.inl (Or.inr (Or.inr (Or.inr (Or.inl e))))
  ·dsimp only at e
   by_cases e1:i=x.f
   ·rw[if_pos e1] at e
    rcases hat y e with h1|h1
    ·exact Or.inl (Or.inr (Or.inr (Or.inr (Or.inr (Or.inl ⟨x.f,hf,h1⟩)))))
    ·exact Or.inr h1
   ·rw[if_neg e1] at e
    exact Or.inl (Or.inr (Or.inr (Or.inr (Or.inr (Or.inl ⟨i,hi,e⟩)))))
  ·exact Or.inl (Or.inr (Or.inr (Or.inr (Or.inr (Or.inr e)))))
theorem NtA.appB {W w6:World}{B bn M gS cS:Nat}{cs:Array Value}{mks:List Int}{vM vF:Value}{fv sv:Nat->Value}{xs:Nat->List Value}{L:List En}(h:NtA B bn M M M cs mks vM vF (.slice (some ⟨gS,0,none⟩) M cS) fv sv xs L W) {x:En}(hb:x.b=false) (hf:x.f<M) (ht:x.t<M) {v':Value}{p:Nat}{ys:List Value}
  (ho:w6.ownsRow B 163 2 v' (p+1) (xs x.f++ys)) (hp:(rowB L x.f).length=p) (hg:W.grownBy w6 (sv x.f).ownBlock) (hat:∀b,v'.ownBlock=some b->(sv x.f).ownBlock=some b\/W.heap.size<=b):
  NtA B bn M M M cs mks vM vF (.slice (some ⟨gS,0,none⟩) M cS) fv (fun j=>if j=x.f then v' else sv j) (fun j=>if j=x.f then xs x.f++ys else xs j) (L++[x]) (w6.setCell ⟨gS,x.f,none⟩ v')/\
   NtF B bn (bsN bn M M vM vF (.slice (some ⟨gS,0,none⟩) M cS) fv sv) (bsN bn M M vM vF (.slice (some ⟨gS,0,none⟩) M cS) fv (fun j=>if j=x.f then v' else sv j)) W (w6.setCell ⟨gS,x.f,none⟩ v'):=by
 have hr:=h.st.row x.f hf
 have hk:Kept [] (gS :: (sv x.f).ownBlock.toList) W w6:=(Kept.refl _ _ _).grown hg (fun g e=>Or.inl (by simp[e]))
 have hk2:Kept [] (gS :: (sv x.f).ownBlock.toList) W (w6.setCell ⟨gS,x.f,none⟩ v'):=hk.setCell _ _ (Or.inl (by simp))
 have hB:Below B W w6:=zac (Below.refl _ _) hr h.lo.2 hg
 have hgS:B<=gS:=zas h.st.own gS rfl
 have hne:∀{t s n:Nat}{v:Value}{ys:List Value},W.ownsRow B t s v n ys->t≠161->t≠163->∀b,v.ownBlock=some b->b∉gS :: (sv x.f).ownBlock.toList:=fun ho ht hn b e hm=>by
  rcases List.mem_cons.1 hm with rfl|hm
  ·exact zan ho h.st.own ht _ e rfl
  ·exact zan ho hr hn b e (by simpa using hm)
 refine⟨⟨h.sn.kept hk2 (by simp) (fun hm=>?_),h.sz,zal h.om hk2 (by simp) (hne h.om (by decide) (by decide)),
  (h.fr.kept hk2 (hne h.fr.own (by decide) (by decide)) (fun i hi=>hne (h.fr.row i hi) (by decide) (by decide))).congr (fun i hi=>?_),(h.st.app (by decide) hf ho hg hat).congr (fun i hi=>?_),h.sep,⟨h.lo.1,?_⟩,fun e he=>?_,fun i hi=>?_⟩,
  ⟨⟨_,hk2,fun y hy=>Or.inl ?_⟩,fun y hy=>?_,hB.setCell (p:=⟨gS,x.f,none⟩) hgS v'⟩⟩
 ·rcases List.mem_cons.1 hm with e|hm
  ·exact zaq h.st.own h.sn (by decide) gS rfl e.symm
  ·exact zaq hr h.sn (by decide) bn (by simpa using hm) rfl
 ·rw[zfr,if_neg (by simp[hb])]
  exact⟨rfl,rfl⟩
 ·rw[zbq]
  by_cases e:i=x.f
  ·subst e
   rw[if_pos rfl,if_pos rfl,if_pos ⟨hb,rfl⟩,List.length_append,hp]
   exact⟨rfl,rfl⟩
  ·rw[if_neg e,if_neg e,if_neg (fun h=>e h.2.symm)]
   exact⟨rfl,rfl⟩
 ·have:=hB.size
  have:=h.lo.2
  simp only[World.size_setCell]
  omega
 ·rcases List.mem_append.1 he with he|he
  ·exact h.hE e he
  ·rw[List.mem_singleton.1 he];exact⟨hf,hf,ht⟩
 ·rw[if_neg (by omega)]
  exact h.hx i hi
 ·rcases List.mem_cons.1 hy with rfl|hy
  ·exact Or.inr (Or.inr (Or.inr (Or.inl rfl)))
  ·exact Or.inr (Or.inr (Or.inr (Or.inr (Or.inr ⟨x.f,hf,by simpa using hy⟩))))
 ·rcases hy with e|e|e|e|e|⟨i,hi,e⟩
  ·exact Or.inl (Or.inl e)
  ·exact Or.inl (Or.inr (Or.inl e))
  ·exact Or.inl (Or.inr (Or.inr (Or.inl e)))
  ·exact Or.inl (Or.inr (Or.inr (Or.inr (Or.inl e))))
  ·exact Or.inl (Or.inr (Or.inr (Or.inr (Or.inr (Or.inl e)))))
  ·dsimp only at e
   by_cases e1:i=x.f
   ·rw[if_pos e1] at e
    rcases hat y e with h1|h1
    ·exact Or.inl (Or.inr (Or.inr (Or.inr (Or.inr (Or.inr ⟨x.f,hf,h1⟩)))))
    ·exact Or.inr h1
   ·rw[if_neg e1] at e
    exact Or.inl (Or.inr (Or.inr (Or.inr (Or.inr (Or.inr ⟨i,hi,e⟩)))))
def StP (w:World) (P:Nat->Prop) (cl:(Nat->Bool)->List Nat) (l:List En) (xs:List Value):Prop:=
 xs.length=l.length*2/\∀k (h:k<l.length),∃a c,xs[k*2]?=some (.slice a (cl l[k].p).length c)/\xs[k*2+1]?=some (.int .i64 ((l[k].t:Nat):Int))/\IAp w P a (cl l[k].p)
theorem StP.nil (w:World) (P:Nat->Prop) (cl:(Nat->Bool)->List Nat):StP w P cl [] []:=⟨rfl,fun k h=>by simp at h⟩
theorem StP.frame {B bn:Nat}{w w':World}{P P':Nat->Prop}{cl:(Nat->Bool)->List Nat}{l:List En}{xs:List Value}(h:StP w P cl l xs) (F:NtF B bn P P' w w'):StP w' P' cl l xs:=
 ⟨h.1,fun k hk=>by
  obtain⟨a,c,h1,h2,h3⟩:=h.2 k hk
  exact⟨a,c,h1,h2,F.ian h3⟩⟩
theorem StP.snoc {w:World}{P:Nat->Prop}{cl:(Nat->Bool)->List Nat}{l:List En}{xs:List Value}(h:StP w P cl l xs) (e:En) (a:Option Addr) (c:Nat) (hI:IAp w P a (cl e.p)):StP w P cl (l++[e]) (xs++[.slice a (cl e.p).length c,.int .i64 (e.t:Int)]):=by
 refine⟨by simp[h.1];omega,fun k hk=>?_⟩
 by_cases e1:k<l.length
 ·obtain⟨a',c',h1,h2,h3⟩:=h.2 k e1
  rw[List.getElem_append_left e1]
  refine⟨a',c',?_,?_,h3⟩
  ·rw[List.getElem?_append_left (by rw[h.1];omega)];exact h1
  ·rw[List.getElem?_append_left (by rw[h.1];omega)];exact h2
 ·have e2:k=l.length:=by simp at hk;omega
  subst e2
  rw[List.getElem_concat_length rfl]
  refine⟨a,c,?_,?_,hI⟩
  ·rw[List.getElem?_append_right (by rw[h.1];omega),h.1]
   simp
  ·rw[List.getElem?_append_right (by rw[h.1];omega),h.1]
   have:l.length*2+1-l.length*2=1:=by omega
   rw[this]
   rfl
def bsL (bL bM bn M:Nat) (vM vF vS:Value) (fv sv:Nat->Value) (x:Nat):Prop:=x=bL\/bsM bM bn M vM vF vS fv sv x
structure NwS (V:World) (B b2 b3 b5 b6 b7 b8 bn bM bL:Nat) (fn:Value) (mf:Nat->Int) (cN cs:Array Value) (lr:List Nat) (aR:Option Addr) (cR:Nat) (L:List En) (F f0 k m n:Nat) (nm:List Nat) (vM vF vS:Value) (fv sv:Nat->Value) (xs:Nat->List Value) (L':List En) (DL:List ((Nat->Bool) × Option Addr × Nat)) (w:World):Prop where
 a:NnA V B bn b3 b5 b6 bM fn mf nm cs vM vF vS fv sv xs L' w
 l:LsA B b7 b8 bL n lr aR cR (bsL bL bM bn nm.length vM vF vS fv sv) DL w
 s2:St w 67 b2 cN
 rows:∀i,i<nm.length->StP w (bsL bL bM bn nm.length vM vF vS fv sv) (clR lr) (rowB L' i) (xs i)
 rel:L.take k=L'.map (En.ren nm)
 bd:∀e∈L',e.f<nm.length/\e.t<nm.length
 hf:nm[f0]?=some F
 len:nm.length<=m
 ne:bL≠bM
 src:∀x∈nm,Src L F F x
theorem NwS.far {V w:World}{B b2 b3 b5 b6 b7 b8 bn bM bL F f0 k m n:Nat}{fn:Value}{mf:Nat->Int}{cN cs:Array Value}{lr:List Nat}{aR:Option Addr}{cR:Nat}{L L':List En}{nm:List Nat}{vM vF vS:Value}{fv sv:Nat->Value}{xs:Nat->List Value}{DL:List ((Nat->Bool) × Option Addr × Nat)}
  (h:NwS V B b2 b3 b5 b6 b7 b8 bn bM bL fn mf cN cs lr aR cR L F f0 k m n nm vM vF vS fv sv xs L' DL w) {t g:Nat}{cs':Array Value}(hs:St w t g cs') (h1:t≠121) (h2:t≠3) (h3:t≠30) (h4:t≠161) (h5:t≠163):¬bsL bL bM bn nm.length vM vF vS fv sv g:=by
 rintro (e|e|e)
 ·exact zbi h.l.map hs e
 ·exact zbi h.a.map hs e
 ·exact h.a.n.ne_st hs h1 h2 h3 h4 h5 e
theorem NwS.lt {V w:World}{B b2 b3 b5 b6 b7 b8 bn bM bL F f0 k m n:Nat}{fn:Value}{mf:Nat->Int}{cN cs:Array Value}{lr:List Nat}{aR:Option Addr}{cR:Nat}{L L':List En}{nm:List Nat}{vM vF vS:Value}{fv sv:Nat->Value}{xs:Nat->List Value}{DL:List ((Nat->Bool) × Option Addr × Nat)}
  (h:NwS V B b2 b3 b5 b6 b7 b8 bn bM bL fn mf cN cs lr aR cR L F f0 k m n nm vM vF vS fv sv xs L' DL w):∀x,bsL bL bM bn nm.length vM vF vS fv sv x->x<w.heap.size:=by
 rintro x (rfl|rfl|e)
 ·exact h.l.map.lt
 ·exact h.a.map.lt
 ·exact (h.a.n.lt x e).2
theorem NwS.keep {V w w':World}{B b2 b3 b5 b6 b7 b8 bn bM bL F f0 k m n:Nat}{fn:Value}{mf:Nat->Int}{cN cs:Array Value}{lr:List Nat}{aR:Option Addr}{cR:Nat}{L L':List En}{nm:List Nat}{vM vF vS:Value}{fv sv:Nat->Value}{xs:Nat->List Value}{DL:List ((Nat->Bool) × Option Addr × Nat)}
  (h:NwS V B b2 b3 b5 b6 b7 b8 bn bM bL fn mf cN cs lr aR cR L F f0 k m n nm vM vF vS fv sv xs L' DL w) (b:Below w.heap.size w w'):NwS V B b2 b3 b5 b6 b7 b8 bn bM bL fn mf cN cs lr aR cR L F f0 k m n nm vM vF vS fv sv xs L' DL w':=
 ⟨h.a.keep b,h.l.keep b,h.s2.keep b,fun i hi=>(h.rows i hi).frame (NtF.keep (bn:=bn) b h.a.n.lo.2),h.rel,h.bd,h.hf,h.len,h.ne,h.src⟩
theorem NwS.num {V w w':World}{B b2 b3 b5 b6 b7 b8 bn bM bL F f0 k m n s:Nat}{fn:Value}{mf:Nat->Int}{cN cs:Array Value}{lr:List Nat}{aR:Option Addr}{cR:Nat}{L L':List En}{nm nm':List Nat}{vM vF vS vM' vF' vS':Value}{fv sv fv' sv':Nat->Value}{xs:Nat->List Value}{DL:List ((Nat->Bool) × Option Addr × Nat)}
  (h:NwS V B b2 b3 b5 b6 b7 b8 bn bM bL fn mf cN cs lr aR cR L F f0 k m n nm vM vF vS fv sv xs L' DL w) (ha:NnA V B bn b3 b5 b6 bM fn mf nm' cs vM' vF' vS' fv' sv' xs L' w') (hor:nm'=nm\/nm'=nm++[s]) (hF:NtF B bn (bsM bM bn nm.length vM vF vS fv sv) (bsM bM bn nm'.length vM' vF' vS' fv' sv') w w') (hs:Src L F F s):
  NwS V B b2 b3 b5 b6 b7 b8 bn bM bL fn mf cN cs lr aR cR L F f0 k (m+1) n nm' vM' vF' vS' fv' sv' xs L' DL w':=by
 have hl:=zmX hor
 have hn:∀g,bsM bM bn nm.length vM vF vS fv sv g->bsL bL bM bn nm.length vM vF vS fv sv g:=fun g e=>Or.inr e
 have hL:¬bsM bM bn nm.length vM vF vS fv sv bL:=fun e=>by
  rcases e with e|e
  ·exact h.ne e
  ·exact h.a.n.ne_map h.l.map e
 have hR:∀g,(Value.slice aR lr.length cR).ownBlock=some g->¬bsM bM bn nm.length vM vF vS fv sv g:=fun g e hm=>by
  rcases hm with e2|e2|e2|e2|e2|⟨i,hi,e2⟩|⟨i,hi,e2⟩
  ·exact zaP h.a.map h.l.row g e e2
  ·exact zaq h.l.row h.a.n.sn (by decide) g e e2
  ·exact zan h.l.row h.a.n.om (by decide) g e e2
  ·exact zan h.l.row h.a.n.fr.own (by decide) g e e2
  ·exact zan h.l.row h.a.n.st.own (by decide) g e e2
  ·exact zan h.l.row (h.a.n.fr.row i hi) (by decide) g e e2
  ·exact zan h.l.row (h.a.n.st.row i hi) (by decide) g e e2
 have hF2:NtF B bn (bsL bL bM bn nm.length vM vF vS fv sv) (bsL bL bM bn nm'.length vM' vF' vS' fv' sv') w w':=hF.more (fun x=>x=bL)
 refine⟨ha,⟨hF.st h.l.s7 (fun e=>h.far h.l.s7 (by decide) (by decide) (by decide) (by decide) (by decide) (hn _ e)),hF.st h.l.s8 (fun e=>h.far h.l.s8 (by decide) (by decide) (by decide) (by decide) (by decide) (hn _ e)),hF.own h.l.row hR,hF.map h.l.map hL,fun d hd=>hF2.ian (h.l.at_ d hd),⟨h.l.lo.1,Nat.le_trans h.l.lo.2 hF.below.size⟩,h.l.lr⟩,
  hF.st h.s2 (fun e=>h.far h.s2 (by decide) (by decide) (by decide) (by decide) (by decide) (hn _ e)),fun i hi=>?_,by rw[zmY hor h.bd];exact h.rel,fun e he=>by have:=h.bd e he;omega,zi7 hor h.hf,by have:=h.len;omega,h.ne,zi8 hor hs h.src⟩
 by_cases hi2:i<nm.length
 ·exact (h.rows i hi2).frame hF2
 ·rw[zhG (fun e he=>(h.bd e he).1) (by omega),h.a.n.hx i (by omega)]
  exact StP.nil _ _ _
theorem NwS.cls {V w w':World}{B b2 b3 b5 b6 b7 b8 bn bM bL F f0 k m n:Nat}{fn:Value}{mf:Nat->Int}{cN cs:Array Value}{lr:List Nat}{aR:Option Addr}{cR:Nat}{L L':List En}{nm:List Nat}{vM vF vS:Value}{fv sv:Nat->Value}{xs:Nat->List Value}{DL DL':List ((Nat->Bool) × Option Addr × Nat)}
  (h:NwS V B b2 b3 b5 b6 b7 b8 bn bM bL fn mf cN cs lr aR cR L F f0 k m n nm vM vF vS fv sv xs L' DL w) (hl:LsA B b7 b8 bL (n+1) lr aR cR (bsL bL bM bn nm.length vM vF vS fv sv) DL' w') (hk:∃bs,Kept [] bs w w'/\∀x∈bs,x=bL) (hb:Below B w w'):
  NwS V B b2 b3 b5 b6 b7 b8 bn bM bL fn mf cN cs lr aR cR L F f0 k m (n+1) nm vM vF vS fv sv xs L' DL' w':=by
 obtain⟨bs,hk,hbs⟩:=hk
 have hF:NtF B bn (bsL bL bM bn nm.length vM vF vS fv sv) (bsL bL bM bn nm.length vM vF vS fv sv) w w':=⟨⟨bs,hk,fun x hx=>Or.inl (Or.inl (hbs x hx))⟩,fun x hx=>Or.inl hx,hb⟩
 have st:∀{t g:Nat}{cs':Array Value},St w t g cs'->St w' t g cs':=fun hs=>hs.kept hk (by simp) (fun hm=>zbi h.l.map hs (hbs _ hm))
 exact⟨⟨h.a.n.kept hk hb.size (fun x hx hm=>h.a.n.ne_map h.l.map (by rw[<-hbs x hm];exact hx)),st h.a.sM,st h.a.sT,st h.a.sF,h.a.map.kept hk (fun hm=>h.ne (hbs _ hm).symm),h.a.nd,h.a.le,h.a.bM,h.a.bel.trans hb⟩,hl,st h.s2,fun i hi=>(h.rows i hi).frame hF,h.rel,h.bd,h.hf,h.len,h.ne,h.src⟩
theorem zmx {B b7 b8 bL n:Nat}{lr:List Nat}{aR:Option Addr}{cR:Nat}{P:Nat->Prop}{DL:List ((Nat->Bool) × Option Addr × Nat)}{w w':World}{t g:Nat}{cs':Array Value}(hs:St w t g cs') (h:LsA B b7 b8 bL n lr aR cR P DL w) (hk:∃bs,Kept [] bs w w'/\∀x∈bs,x=bL):St w' t g cs':=by
 obtain⟨bs,hk,hbs⟩:=hk
 exact hs.kept hk (by simp) (fun hm=>zbi h.map hs (hbs _ hm))
theorem zol {nm:List Nat}{k1 k2:Nat}{x:En}(h1:nm[k1]?=some x.f) (h2:nm[k2]?=some x.t):En.ren nm ⟨k1,k2,x.p,x.b⟩=x:=by
 simp[En.ren,List.getD_eq_getElem?_getD,h1,h2]
theorem NwS.row_ne {V w:World}{B b2 b3 b5 b6 b7 b8 bn bM bL F f0 k m n:Nat}{fn:Value}{mf:Nat->Int}{cN cs:Array Value}{lr:List Nat}{aR:Option Addr}{cR:Nat}{L L':List En}{nm:List Nat}{vM vF vS:Value}{fv sv:Nat->Value}{xs:Nat->List Value}{DL:List ((Nat->Bool) × Option Addr × Nat)}
  (h:NwS V B b2 b3 b5 b6 b7 b8 bn bM bL fn mf cN cs lr aR cR L F f0 k m n nm vM vF vS fv sv xs L' DL w):∀g,(Value.slice aR lr.length cR).ownBlock=some g->¬bsN bn nm.length nm.length vM vF vS fv sv g:=fun g e hm=>by
 rcases hm with e2|e2|e2|e2|⟨i,hi,e2⟩|⟨i,hi,e2⟩
 ·exact zaq h.l.row h.a.n.sn (by decide) g e e2
 ·exact zan h.l.row h.a.n.om (by decide) g e e2
 ·exact zan h.l.row h.a.n.fr.own (by decide) g e e2
 ·exact zan h.l.row h.a.n.st.own (by decide) g e e2
 ·exact zan h.l.row (h.a.n.fr.row i hi) (by decide) g e e2
 ·exact zan h.l.row (h.a.n.st.row i hi) (by decide) g e e2
theorem NwS.put {V w w':World}{B b2 b3 b5 b6 b7 b8 bn bM bL F f0 k m n k1 k2:Nat}{fn:Value}{mf:Nat->Int}{cN cs:Array Value}{lr:List Nat}{aR:Option Addr}{cR:Nat}{L L':List En}{nm:List Nat}{vM vF vS vM' vF' vS':Value}{fv sv fv' sv':Nat->Value}{xs xs':Nat->List Value}{DL:List ((Nat->Bool) × Option Addr × Nat)}{x:En}
  (h:NwS V B b2 b3 b5 b6 b7 b8 bn bM bL fn mf cN cs lr aR cR L F f0 k m n nm vM vF vS fv sv xs L' DL w) (hn:NtA B bn nm.length nm.length nm.length cs (nm.map mf) vM' vF' vS' fv' sv' xs' (L'++[⟨k1,k2,x.p,x.b⟩]) w') (hF:NtF B bn (bsN bn nm.length nm.length vM vF vS fv sv) (bsN bn nm.length nm.length vM' vF' vS' fv' sv') w w')
  (hL:L.take (k+1)=L.take k++[x]) (h1:nm[k1]?=some x.f) (h2:nm[k2]?=some x.t) (hr:∀i,i<nm.length->StP w (bsL bL bM bn nm.length vM vF vS fv sv) (clR lr) (rowB (L'++[⟨k1,k2,x.p,x.b⟩]) i) (xs' i)):
  NwS V B b2 b3 b5 b6 b7 b8 bn bM bL fn mf cN cs lr aR cR L F f0 (k+1) m n nm vM' vF' vS' fv' sv' xs' (L'++[⟨k1,k2,x.p,x.b⟩]) DL w':=by
 have st:∀{t g:Nat}{cs':Array Value},St w t g cs'->t≠121->t≠3->t≠30->t≠161->t≠163->St w' t g cs':=fun hs a b c d e=>hF.st hs (h.a.n.ne_st hs a b c d e)
 have hF2:NtF B bn (bsL bL bM bn nm.length vM vF vS fv sv) (bsL bL bM bn nm.length vM' vF' vS' fv' sv') w w':=(hF.more (fun x=>x=bM)).more (fun x=>x=bL)
 refine⟨⟨hn,st h.a.sM (by decide) (by decide) (by decide) (by decide) (by decide),st h.a.sT (by decide) (by decide) (by decide) (by decide) (by decide),st h.a.sF (by decide) (by decide) (by decide) (by decide) (by decide),hF.map h.a.map (h.a.n.ne_map h.a.map),h.a.nd,h.a.le,h.a.bM,h.a.bel.trans hF.below⟩,
  ⟨st h.l.s7 (by decide) (by decide) (by decide) (by decide) (by decide),st h.l.s8 (by decide) (by decide) (by decide) (by decide) (by decide),hF.own h.l.row h.row_ne,hF.map h.l.map (h.a.n.ne_map h.l.map),fun d hd=>hF2.ian (h.l.at_ d hd),⟨h.l.lo.1,Nat.le_trans h.l.lo.2 hF.below.size⟩,h.l.lr⟩,
  st h.s2 (by decide) (by decide) (by decide) (by decide) (by decide),fun i hi=>(hr i hi).frame hF2,?_,fun e he=>?_,h.hf,h.len,h.ne,h.src⟩
 ·rw[hL,List.map_append,h.rel,List.map_singleton,zol h1 h2]
 ·rcases List.mem_append.1 he with he|he
  ·exact h.bd e he
  ·rw[List.mem_singleton.1 he]
   exact⟨(List.getElem?_eq_some_iff.1 h1).1,(List.getElem?_eq_some_iff.1 h2).1⟩
def putAt (cells vs:Array Value) (off:Nat):Array Value:=vs.zipIdx.foldl (fun cs (c,j)=>cs.setIfInBounds (off+j) c) cells
theorem putL (l:List Value) (off:Nat):∀(k:Nat) (cells:Array Value),((l.zipIdx k).foldl (fun (cs:Array Value) (x:Value × Nat)=>cs.setIfInBounds (off+x.2) x.1) cells).size=cells.size/\
  ∀i,((l.zipIdx k).foldl (fun (cs:Array Value) (x:Value × Nat)=>cs.setIfInBounds (off+x.2) x.1) cells)[i]?=if off+k<=i/\i<off+k+l.length/\i<cells.size then l[i-(off+k)]? else cells[i]?:=by
 induction l with
 | nil=>intro k cells;exact⟨rfl,fun i=>by rw[if_neg (by simp;omega)];rfl⟩
 | cons v l ih=>
  intro k cells
  rw[List.zipIdx_cons,List.foldl_cons]
  obtain⟨h1,h2⟩:=ih (k+1) (cells.setIfInBounds (off+k) v)
  refine⟨by rw[h1];simp,fun i=>?_⟩
  rw[h2 i,Array.size_setIfInBounds]
  by_cases e:i=off+k
  ·subst e
   rw[if_neg (by omega)]
   by_cases hlt:off+k<cells.size
   ·rw[if_pos ⟨Nat.le_refl _,by simp,hlt⟩,Array.getElem?_setIfInBounds_self_of_lt hlt]
    simp
   ·rw[if_neg (by omega),Array.getElem?_eq_none_iff.2 (by simp;omega),Array.getElem?_eq_none_iff.2 (by omega)]
  ·by_cases hc:off+(k+1)<=i/\i<off+(k+1)+l.length/\i<cells.size
   ·rw[if_pos hc,if_pos ⟨by omega,by simp;omega,hc.2.2⟩]
    have:i-(off+k)=(i-(off+(k+1)))+1:=by omega
    rw[this,List.getElem?_cons_succ]
   ·rw[if_neg hc,Array.getElem?_setIfInBounds_ne (by omega)]
    rw[if_neg (by simp only[List.length_cons];omega)]
theorem zaT (cells vs:Array Value) (off:Nat) (h:off+vs.size<=cells.size):(putAt cells vs off).size=cells.size/\∀i,(putAt cells vs off)[i]?=if off<=i/\i<off+vs.size then vs[i-off]? else cells[i]?:=by
 have e:putAt cells vs off=(vs.toList.zipIdx 0).foldl (fun (cs:Array Value) (x:Value × Nat)=>cs.setIfInBounds (off+x.2) x.1) cells:=by
  unfold putAt
  rw[<-Array.foldl_toList,Array.toList_zipIdx]
 obtain⟨h1,h2⟩:=putL vs.toList off 0 cells
 rw[e]
 refine⟨h1,fun i=>?_⟩
 rw[h2 i,Nat.add_zero]
 by_cases hc:off<=i/\i<off+vs.size
 ·rw[if_pos hc,if_pos ⟨hc.1,by simpa using hc.2,by omega⟩,Array.getElem?_toList]
 ·rw[if_neg hc,if_neg (fun h3=>hc ⟨h3.1,by simpa using h3.2.1⟩)]
theorem za5 (place:Nat->Option (Nat × Nat)) (cells:Array Value) (i off size:Nat) (v:Value) (rest:List (Nat × Value)) (hp:place i=some (off,size)) (hv:v.cells.size=size) (hs:off+size<=cells.size):
  Instr.fill place cells ((i,v) :: rest)=Instr.fill place (putAt cells v.cells off) rest:=by
 rw[Instr.fill,hp]
 simp only[hv]
 rw[if_neg (by simp;omega)]
 rfl
noncomputable def zC (t:TypeId):Array Value:=match Tryz.prog.info? t with
 | some it=>match it.zero with|some z=>z.cells|none=>#[]
 | none=>#[]
theorem zj6:(zC 121).size=260:=by kernel_rfl
theorem zj7:(zC 121)[256]?=some (.int .i64 0)/\(zC 121)[257]?=some (.slice none 0 0)/\(zC 121)[258]?=some (.slice none 0 0)/\(zC 121)[259]?=some (.slice none 0 0):=⟨by kernel_rfl,by kernel_rfl,by kernel_rfl,by kernel_rfl⟩
theorem zj8 (csA:Array Value) (hs:csA.size=256):∃cN:Array Value,cN.size=260/\(∀j,j<256->cN[j]?=csA[j]?)/\cN[256]?=some (.int .i64 0)/\cN[257]?=some (.slice none 0 0)/\cN[258]?=some (.slice none 0 0)/\cN[259]?=some (.slice none 0 0)/\
  ∀W,(Instr.build 121 #[(0,.agg csA)]).run Tryz.prog W=.ok (.agg cN) W:=by
 have e:Tryz.prog.built 121 [(0,.agg csA)]=Instr.fill (fun i=>#[(0,256),(256,1),(257,1),(258,1),(259,1)][i]?) (zC 121) [(0,.agg csA)]:=by kernel_rfl
 have hz:=zj6
 obtain⟨p1,p2⟩:=zaT (zC 121) csA 0 (by rw[hz];omega)
 rw[za5 _ _ 0 0 256 (.agg csA) [] (by rfl) hs (by rw[hz];omega)] at e
 obtain⟨z0,z1,z2,z3⟩:=zj7
 refine⟨putAt (zC 121) csA 0,by rw[p1,hz],fun j hj=>by rw[p2,if_pos ⟨by omega,by omega⟩];rfl,?_,?_,?_,?_,fun W=>run_build W _ _ _ e⟩
 ·rw[p2,if_neg (by omega),z0]
 ·rw[p2,if_neg (by omega),z1]
 ·rw[p2,if_neg (by omega),z2]
 ·rw[p2,if_neg (by omega),z3]
theorem zak:(zC 39).size=258:=by kernel_rfl
theorem zbs:(zC 39)[256]?=some (.slice none 0 0)/\(zC 39)[257]?=some (.slice none 0 0):=⟨by kernel_rfl,by kernel_rfl⟩
theorem zlH:(zC 125).size=263:=by kernel_rfl
theorem zlI:(zC 125)[259]?=some (.slice none 0 0)/\(zC 125)[262]?=some (.slice none 0 0):=⟨by kernel_rfl,by kernel_rfl⟩
theorem zlJ (csA:Array Value) (hs:csA.size=256):∃cD:Array Value,cD.size=258/\(∀W,(Instr.build 39 #[(0,.agg csA)]).run Tryz.prog W=.ok (.agg cD) W)/\
  ∀(bn bM gI m:Nat),∃cK:Array Value,cK.size=263/\cK[0]?=some (.pointer (some ⟨bn,0,none⟩))/\(∀j,j<256->cK[1+j]?=csA[j]?)/\cK[257]?=some (.slice none 0 0)/\cK[258]?=some (.slice none 0 0)/\cK[259]?=some (.slice none 0 0)/\cK[260]?=some (.map (some bM))/\cK[261]?=some (.slice (some ⟨gI,0,none⟩) m m)/\cK[262]?=some (.slice none 0 0)/\
  ∀W,(Instr.build 125 #[(0,.pointer (some ⟨bn,0,none⟩)),(1,.agg cD),(3,.map (some bM)),(4,.slice (some ⟨gI,0,none⟩) m m)]).run Tryz.prog W=.ok (.agg cK) W:=by
 have e:Tryz.prog.built 39 [(0,.agg csA)]=Instr.fill (fun i=>#[(0,256),(256,1),(257,1)][i]?) (zC 39) [(0,.agg csA)]:=by kernel_rfl
 have hz:=zak
 obtain⟨p1,p2⟩:=zaT (zC 39) csA 0 (by rw[hz];omega)
 rw[za5 _ _ 0 0 256 (.agg csA) [] (by rfl) hs (by rw[hz];omega)] at e
 obtain⟨d1,d2⟩:=zbs
 refine⟨putAt (zC 39) csA 0,by rw[p1,hz],fun W=>run_build W _ _ _ e,?_⟩
 have q1:∀j,j<256->(putAt (zC 39) csA 0)[j]?=csA[j]?:=fun j hj=>by rw[p2,if_pos ⟨by omega,by omega⟩];rfl
 have q2:(putAt (zC 39) csA 0)[256]?=some (.slice none 0 0):=by rw[p2,if_neg (by omega),d1]
 have q3:(putAt (zC 39) csA 0)[257]?=some (.slice none 0 0):=by rw[p2,if_neg (by omega),d2]
 have q4:(putAt (zC 39) csA 0).size=258:=by rw[p1,hz]
 generalize putAt (zC 39) csA 0=cD at q1 q2 q3 q4⊢
 intro bn bM gI m
 have e2:Tryz.prog.built 125 [(0,.pointer (some ⟨bn,0,none⟩)),(1,.agg cD),(3,.map (some bM)),(4,.slice (some ⟨gI,0,none⟩) m m)]=Instr.fill (fun i=>#[(0,1),(1,258),(259,1),(260,1),(261,1),(262,1)][i]?) (zC 125) [(0,.pointer (some ⟨bn,0,none⟩)),(1,.agg cD),(3,.map (some bM)),(4,.slice (some ⟨gI,0,none⟩) m m)]:=by kernel_rfl
 have hk:=zlH
 obtain⟨k1,k2⟩:=zlI
 obtain⟨a1,a2⟩:=zaT (zC 125) #[.pointer (some ⟨bn,0,none⟩)] 0 (by rw[hk];simp)
 rw[za5 _ _ 0 0 1 (.pointer (some ⟨bn,0,none⟩)) _ (by rfl) (by rfl) (by rw[hk];omega)] at e2
 rw[show (Value.pointer (some ⟨bn,0,none⟩)).cells=#[.pointer (some ⟨bn,0,none⟩)] from rfl] at e2
 generalize putAt (zC 125) #[.pointer (some ⟨bn,0,none⟩)] 0=c1 at a1 a2 e2
 obtain⟨b1,b2⟩:=zaT c1 cD 1 (by rw[a1,hk,q4];omega)
 rw[za5 _ _ 1 1 258 (.agg cD) _ (by rfl) q4 (by rw[a1,hk];omega)] at e2
 rw[show (Value.agg cD).cells=cD from rfl] at e2
 generalize putAt c1 cD 1=c2 at b1 b2 e2
 obtain⟨f1,f2⟩:=zaT c2 #[.map (some bM)] 260 (by rw[b1,a1,hk];simp)
 rw[za5 _ _ 3 260 1 (.map (some bM)) _ (by rfl) (by rfl) (by rw[b1,a1,hk];omega)] at e2
 rw[show (Value.map (some bM)).cells=#[.map (some bM)] from rfl] at e2
 generalize putAt c2 #[.map (some bM)] 260=c3 at f1 f2 e2
 obtain⟨g1,g2⟩:=zaT c3 #[.slice (some ⟨gI,0,none⟩) m m] 261 (by rw[f1,b1,a1,hk];simp)
 rw[za5 _ _ 4 261 1 (.slice (some ⟨gI,0,none⟩) m m) _ (by rfl) (by rfl) (by rw[f1,b1,a1,hk];omega)] at e2
 rw[show (Value.slice (some ⟨gI,0,none⟩) m m).cells=#[.slice (some ⟨gI,0,none⟩) m m] from rfl] at e2
 generalize putAt c3 #[.slice (some ⟨gI,0,none⟩) m m] 261=c4 at g1 g2 e2
 rw[q4] at b2
 simp only[List.size_toArray,List.length_cons,List.length_nil] at a2 f2 g2
 refine⟨c4,by rw[g1,f1,b1,a1,hk],?_,fun j hj=>?_,?_,?_,?_,?_,?_,?_,fun W=>run_build W _ _ _ e2⟩
 ·rw[g2,if_neg (by omega),f2,if_neg (by omega),b2,if_neg (by omega),a2,if_pos (by omega)];rfl
 ·rw[g2,if_neg (by omega),f2,if_neg (by omega),b2,if_pos (by omega)]
  have:1+j-1=j:=by omega
  rw[this,q1 j hj]
 ·rw[g2,if_neg (by omega),f2,if_neg (by omega),b2,if_pos (by omega)];exact q2
 ·rw[g2,if_neg (by omega),f2,if_neg (by omega),b2,if_pos (by omega)];exact q3
 ·rw[g2,if_neg (by omega),f2,if_neg (by omega),b2,if_neg (by omega),a2,if_neg (by omega),k1]
 ·rw[g2,if_neg (by omega),f2,if_pos (by omega)];rfl
 ·rw[g2,if_pos (by omega)];rfl
 ·rw[g2,if_neg (by omega),f2,if_neg (by omega),b2,if_neg (by omega),a2,if_neg (by omega),k2]
theorem zaF {P:Program}{ops:Array Oper}{rest:List Oper}{o:Oper}{a:Act}{w:World}{Q:Exit->Act->World->Prop}(hgd:o.guard=none) (t:TypeId) (parts:Array (Nat × Operand)) (ho:o.op=.build t parts) (ps:Array (Nat × Value)) (hp:(parts.map fun (i,x)=>(i,a.eval x))=ps) (v:Value)
  (hb:(Instr.build t ps).run P w=.ok v w) (h:wpList P ops Q rest (a.put o.dst v) w):wpList P ops Q (o :: rest) a w:=
 wpList_plain hgd fun _ hK=>by
  unfold Oper.wp execOp
  simp only[ho,hp,Sem.run_bind,hb,Result.andThen_ok]
  exact hK _ _ h
theorem Tryz.info_set9:(Tryz.prog.info? 57).map (fun i=>(i.zero,i.size,i.bytes))=some (some (.agg #[.int .u64 0,.int .u64 0,.int .u64 0,.int .u64 0]),4,32):=by kernel_rfl
def stCells (p:Nat->Bool):List Value:=(#[.int .u64 ((wd p 0:Nat):Int),.int .u64 ((wd p 1:Nat):Int),.int .u64 ((wd p 2:Nat):Int),.int .u64 ((wd p 3:Nat):Int)]).toList
def sts (l:List (Nat->Bool)):List Value:=l.flatMap stCells
theorem zlK (l:List (Nat->Bool)) (p:Nat->Bool):sts (l++[p])=sts l++stCells p:=by simp[sts]
theorem znB (l:List (Nat->Bool)) (i:Nat) (h:i<l.length) (j:Nat) (hj:j<4):(sts l)[i*4+j]?=(stCells l[i])[j]?:=by
 induction l generalizing i with
 | nil=>simp at h
 | cons x l ih=>
  have hc:(stCells x).length=4:=by simp[stCells]
  show (stCells x++sts l)[i*4+j]?=_
  match i,h with
  | 0,_=>
   rw[Nat.zero_mul,Nat.zero_add,List.getElem?_append_left (by omega)]
   rfl
  | i+1,h=>
   rw[List.getElem?_append_right (by omega),hc,show (i+1)*4+j-4=i*4+j by omega,ih i (by simpa using h)]
   rfl
def setsOf (L:List Eg):List (Nat->Bool):=(L.filter fun e=>!e.b).map (·.p)
def zlL (w:World) (L:List Eg) (e:Ending) (w':World):Prop:=
 ∃(a:Option Addr) (n c:Nat),e=.returned (.slice a n c)/\(setsOf L).length=n/\w'.ownsRow w.heap.size 57 4 (.slice a n c) n (sts (setsOf L))/\Below w.heap.size w w'
theorem zlM (S F T:Int) (a:Option Addr) (n c:Nat) (L:List Eg) (w:World) (hL:EdAt w a L) (hn:L.length=n) (hmax:n<=1000000):
  Calls Tryz.prog 113 #[.agg #[.int .i64 S,.slice a n c,.int .i64 F,.int .i64 T]] w (zlL w L):=by
 have HL:=hid (And.intro hL hn)
 have HW:=hid (zi4 w S F T a n c)
 have HB:=hid (show Below w.heap.size w (w.alloc (.cells #[.int .i64 S,.slice a n c,.int .i64 F,.int .i64 T] 67)) from (Below.refl _ _).alloc (Nat.le_refl _) _)
 obtain⟨i0,hi,hz0,hz1,hz2⟩:=info_parts Tryz.info_set9
 clear hL hn
 go_enter Tryz.func113,Tryz.ntmps113
 go_wp2_with fail
 generalize w.alloc (.cells #[.int .i64 S,.slice a n c,.int .i64 F,.int .i64 T] 67)=W0 at HW HB⊢
 go_loopw [3,5,9] (fun v _ i wr=>∃(k q:Nat),i=.int .i64 k/\k<=n/\q<=k/\Hid ((setsOf (L.take k)).length=q)/\Hid (wr.ownsRow w.heap.size 57 4 v q (sts (setsOf (L.take k))))/\Hid (Below w.heap.size w wr)) (fun _ _ i _=>n-(intOf i).toNat)
 case atStart=>exact⟨0,0,rfl,Nat.zero_le _,Nat.zero_le _,rfl,World.ownsRow_nil _ _ _ _,HB⟩
 case round=>
  obtain⟨k,q,rfl,hk,hq,HQ,HA,HBl⟩:=hrel
  obtain⟨aS,cS,rfl⟩:=zaa HA.out
  have hsz:=HBl.out.size
  by_cases hlt:k<n
  ·have hkl:k<L.length:=by rw[HL.out.2];exact hlt
   obtain⟨ge,off,rfl,hg,c0,c1,c2,c3,c4,c5,c6⟩:=(HL.out.1.below HBl.out).get k hkl
   have HS:Hid (L.take (k+1)=L.take k++[L[k]]):=List.take_succ_eq_append_getElem hkl
   generalize L[k]=x at c0 c1 c2 c3 c4 c5 c6 HS
   have hB1:Below wr.heap.size wr (wr.alloc (.cells #[.int .i64 x.f,.int .i64 x.t,.int .u64 ((wd x.p 0:Nat):Int),.int .u64 ((wd x.p 1:Nat):Int),.int .u64 ((wd x.p 2:Nat):Int),.int .u64 ((wd x.p 3:Nat):Int),.bool x.b] 128)):=(Below.refl _ _).alloc (Nat.le_refl _) _
   have HO1:=hid (zab HA.out hB1)
   have HB1:=hid (HBl.out.trans (hB1.mono hsz))
   have HE1:=hid (St.new wr 128 #[.int .i64 x.f,.int .i64 x.t,.int .u64 ((wd x.p 0:Nat):Int),.int .u64 ((wd x.p 1:Nat):Int),.int .u64 ((wd x.p 2:Nat):Int),.int .u64 ((wd x.p 3:Nat):Int),.bool x.b])
   obtain⟨xf,xt,xp,xb⟩:=x
   dsimp only at c0 c1 c2 c3 c4 c5 c6 HS HO1 HB1 HE1
   rcases xb with _|_
   ·have HZ:Hid (setsOf (L.take (k+1))=setsOf (L.take k)++[xp]):=by show _=_;rw[HS.out];simp[setsOf]
    clear hB1
    go_upto_region 6 with fail
    have e2:(wr.alloc (.cells #[.int .i64 xf,.int .i64 xt,.int .u64 ((wd xp 0:Nat):Int),.int .u64 ((wd xp 1:Nat):Int),.int .u64 ((wd xp 2:Nat):Int),.int .u64 ((wd xp 3:Nat):Int),.bool false] 128)).cell? ⟨wr.heap.size,2,none⟩=some (.int .u64 ((wd xp 0:Nat):Int)):=HE1.out.at_ 2
    have e3:(wr.alloc (.cells #[.int .i64 xf,.int .i64 xt,.int .u64 ((wd xp 0:Nat):Int),.int .u64 ((wd xp 1:Nat):Int),.int .u64 ((wd xp 2:Nat):Int),.int .u64 ((wd xp 3:Nat):Int),.bool false] 128)).cell? ⟨wr.heap.size,3,none⟩=some (.int .u64 ((wd xp 1:Nat):Int)):=HE1.out.at_ 3
    have e4:(wr.alloc (.cells #[.int .i64 xf,.int .i64 xt,.int .u64 ((wd xp 0:Nat):Int),.int .u64 ((wd xp 1:Nat):Int),.int .u64 ((wd xp 2:Nat):Int),.int .u64 ((wd xp 3:Nat):Int),.bool false] 128)).cell? ⟨wr.heap.size,4,none⟩=some (.int .u64 ((wd xp 2:Nat):Int)):=HE1.out.at_ 4
    have e5:(wr.alloc (.cells #[.int .i64 xf,.int .i64 xt,.int .u64 ((wd xp 0:Nat):Int),.int .u64 ((wd xp 1:Nat):Int),.int .u64 ((wd xp 2:Nat):Int),.int .u64 ((wd xp 3:Nat):Int),.bool false] 128)).cell? ⟨wr.heap.size,5,none⟩=some (.int .u64 ((wd xp 3:Nat):Int)):=HE1.out.at_ 5
    generalize (wr.alloc (.cells #[.int .i64 xf,.int .i64 xt,.int .u64 ((wd xp 0:Nat):Int),.int .u64 ((wd xp 1:Nat):Int),.int .u64 ((wd xp 2:Nat):Int),.int .u64 ((wd xp 3:Nat):Int),.bool false] 128))=W1 at HO1 HB1 HE1 e2 e3 e4 e5⊢
    have hO:=HO1.out
    have hs1:=HB1.out.size
    go_wp2_with (at_builtin;refine wpList_append_own _ rfl _ _ 155 rfl w.heap.size 57 i0 (.agg #[.int .u64 0,.int .u64 0,.int .u64 0,.int .u64 0]) 4 32 Tryz.underlying155 hi hz0 hz1 hz2 rfl (by decide) _ _ _ rfl (hO.alloc _) ⟨W1.heap.size,0,none⟩ 1 1 (#[.int .u64 ((wd xp 0:Nat):Int),.int .u64 ((wd xp 1:Nat):Int),.int .u64 ((wd xp 2:Nat):Int),.int .u64 ((wd xp 3:Nat):Int)]).toList rfl rfl (World.news_of_block (cs:=#[.int .u64 ((wd xp 0:Nat):Int),.int .u64 ((wd xp 1:Nat):Int),.int .u64 ((wd xp 2:Nat):Int),.int .u64 ((wd xp 3:Nat):Int)]) (t:=57) (fr:=(0,0)) (St.new W1 _ _)) ?d2 ?d3 ?d4 ?d5 ?_)
    case d2=>exact⟨rfl,rfl,rfl,rfl⟩
    case d3=>unfold maxLen;omega
    case d4=>omega
    case d5=>simp;omega
    intro v' w5 hown5 hgrow5 _
    obtain⟨a5,c5,rfl⟩:=zaa hown5
    have hal:Below W1.heap.size W1 (W1.alloc (.cells #[.int .u64 ((wd xp 0:Nat):Int),.int .u64 ((wd xp 1:Nat):Int),.int .u64 ((wd xp 2:Nat):Int),.int .u64 ((wd xp 3:Nat):Int)] 57)):=(Below.refl _ _).alloc (Nat.le_refl _) _
    have HB5:Hid (Below w.heap.size w w5):=(HB1.out.trans (hal.mono hs1)).trans (zhX hgrow5 (hO.alloc _) (by simp;omega))
    have HO5:Hid (w5.ownsRow w.heap.size 57 4 (.slice a5 (q+1) c5) (q+1) (sts (setsOf (L.take (k+1))))):=by
     show World.ownsRow _ _ _ _ _ _ _
     rw[HZ.out,zlK]
     exact hown5
    have HQ5:Hid ((setsOf (L.take (k+1))).length=q+1):=by show _=_;rw[HZ.out,List.length_append,HQ.out];rfl
    clear hown5 hgrow5 hal hO e2 e3 e4 e5
    go_wp2_with fail
    go_roundw
    case rel=>exact⟨k+1,q+1,by go_num,by omega,by omega,HQ5,HO5,HB5⟩
    case measure=>simp[intOf];omega
   ·have HZ:Hid (setsOf (L.take (k+1))=setsOf (L.take k)):=by show _=_;rw[HS.out];simp[setsOf]
    clear hB1
    go_wp2_with fail
    go_roundw
    case rel=>exact⟨k+1,q,by go_num,by omega,by omega,by show _=_;rw[HZ.out];exact HQ.out,by show World.ownsRow _ _ _ _ _ _ _;rw[HZ.out];exact HO1.out,HB1⟩
    case measure=>simp[intOf];omega
  ·obtain rfl:k=n:=by omega
   have HZ:Hid (L.take k=L):=List.take_of_length_le (by rw[HL.out.2];exact Nat.le_refl _)
   go_wp2_with fail
   go_ret
   refine⟨aS,q,cS,rfl,?_,?_,HBl.out⟩
   ·have:=HQ.out;rwa [HZ.out] at this
   ·have:=HA.out;rwa [HZ.out] at this
def same (s:Nat->Nat->Bool) (b c:Nat):Nat->Bool
 | 0=>true
 | i+1=>same s b c i && (s i b == s i c)
end Go.Proofs.YtjehgdjlncofeaaGreat
