import Derived.Test.YtjehgdjlncofeaaGreatZPDvS
import Derived.Test.YtjehgdjlncofeaaGreatZTKeep
set_option linter.unusedVariables false
set_option linter.unusedSimpArgs false
namespace Go.Proofs.YtjehgdjlncofeaaGreat
def mgF (D:Dd) (f:Nat->Nat) (i c:Nat):Int:=if D.nx i c=-1 then -1 else ((f (D.nx i c).toNat:Nat):Int)
def Beh (D:Dd) (i:Int) (E:Dd) (j:Int):Prop:=∀(z:Nat->Nat) (m:Nat),(∀k,z k<256)->markF D (runF D i z m)=markF E (runF E j z m)
theorem Beh.refl (D:Dd) (i:Int):Beh D i D i:=fun z m hz=>rfl
theorem Beh.symm {D E:Dd}{i j:Int}(h:Beh D i E j):Beh E j D i:=fun z m hz=>(h z m hz).symm
theorem Beh.trans {D E F:Dd}{i j k:Int}(h:Beh D i E j) (h2:Beh E j F k):Beh D i F k:=fun z m hz=>(h z m hz).trans (h2 z m hz)
theorem Beh.mark {D E:Dd}{i j:Int}(h:Beh D i E j):markF D i=markF E j:=h (fun _=>0) 0 (fun _=>by omega)
theorem zfn (D:Dd) (i:Int) (b:Nat) (z:Nat->Nat) (m:Nat):runF D i (fun k=>if k=0 then b else z (k-1)) (m+1)=runF D (stepF D i b) z m:=by
 induction m with
 | zero=>rfl
 | succ m ih=>
  show stepF D (runF D i (fun k=>if k=0 then b else z (k-1)) (m+1)) (if m+1=0 then b else z (m+1-1))=_
  rw[ih,if_neg (by omega)]
  rfl
theorem Beh.step {D E:Dd}{i j:Int}(h:Beh D i E j) {b:Nat}(hb:b<256):Beh D (stepF D i b) E (stepF E j b):=fun z m hz=>by
 have:=h (fun k=>if k=0 then b else z (k-1)) (m+1) (fun k=>by split;exact hb;exact hz _)
 rwa [zfn,zfn] at this
theorem Beh.coind {D E:Dd}(R:Int->Int->Prop) (hm:∀i j,R i j->markF D i=markF E j) (hs:∀i j b,R i j->b<256->R (stepF D i b) (stepF E j b)) {i j:Int}(h:R i j):Beh D i E j:=fun z m hz=>by
 have:R (runF D i z m) (runF E j z m):=by
  induction m with
  | zero=>exact h
  | succ m ih=>exact hs _ _ _ ih (hz m)
 exact hm _ _ this
theorem zaJ (D:Dd):markF D (-1)=-1:=by unfold markF;rw[if_neg (by omega)]
theorem Beh.dead (D E:Dd):Beh D (-1) E (-1):=Beh.coind (fun i j=>i=-1/\j=-1) (fun i j h=>by rw[h.1,h.2,zaJ,zaJ]) (fun i j b h hb=>by rw[h.1,h.2];exact⟨zaD _ _,zaD _ _⟩) ⟨rfl,rfl⟩
theorem zaZ (D:Dd) {i b:Nat}(hi:i<D.n):stepF D (i:Int) b=D.nx i (D.K b):=by
 unfold stepF
 rw[if_pos (by omega),Int.toNat_natCast]
theorem za0 (D:Dd) {i:Nat}(hi:i<D.n):markF D (i:Int)=D.q i:=by
 unfold markF
 rw[if_pos (by omega),Int.toNat_natCast]
theorem Beh.nx {D E:Dd}{C:Nat}(hR:DR D C) {i j:Nat}(hi:i<D.n) (hj:j<E.n) (hK:∀b,b<256->D.K b=E.K b) (h:Beh D i E j) {c:Nat}(hc:c<C):Beh D (D.nx i c) E (E.nx j c):=by
 obtain⟨b,hb,e⟩:=hR.gap c hc
 have:=h.step hb
 rw[zaZ _ hi,zaZ _ hj,<-hK b hb,e] at this
 exact this
theorem Beh.nx1 {D:Dd}{C:Nat}(hR:DR D C) {i j:Nat}(hi:i<D.n) (hj:j<D.n) (h:Beh D i D j) {c:Nat}(hc:c<C):Beh D (D.nx i c) D (D.nx j c):=h.nx hR hi hj (fun _ _=>rfl) hc
def toI (D:Dd) (i:Nat):Int:=if i<D.n then ((i:Nat):Int) else -1
theorem zg9 {D:Dd}{i:Nat}(h:i<D.n):toI D i=(i:Int):=by unfold toI;rw[if_pos h]
theorem ziZ (D:Dd):toI D D.n=-1:=by unfold toI;rw[if_neg (by omega)]
theorem zc6 (D:Dd) (i:Nat):markF D (toI D i)=mD D i:=by
 unfold toI mD
 by_cases h:i<D.n
 ·rw[if_pos h,if_pos h,za0 _ h]
 ·rw[if_neg h,if_neg h,zaJ]
theorem zc7 {D:Dd}{C:Nat}(hR:DR D C) (i b:Nat) (hb:b<256):stepF D (toI D i) b=toI D (tD D i (D.K b)):=by
 have hc:=hR.c.1 b hb
 unfold tD
 by_cases h:i<D.n
 ·have:=hR.nx i _ h hc
  rw[zg9 h,zaZ _ h]
  by_cases h2:0<=D.nx i (D.K b)
  ·rw[if_pos ⟨h,h2⟩,zg9 (by omega)]
   omega
  ·rw[if_neg (fun h3=>h2 h3.2),ziZ]
   omega
 ·rw[if_neg (fun h3=>h h3.1),ziZ]
  have:toI D i=-1:=by unfold toI;rw[if_neg h]
  rw[this,zaD]
theorem zmO {D:Dd}{C:Nat}(hR:DR D C) (i j:Nat):Eqv C (tD D) (mD D) i j↔Beh D (toI D i) D (toI D j):=by
 constructor
 ·intro h
  refine Beh.coind (fun x y=>∃i j,x=toI D i/\y=toI D j/\Eqv C (tD D) (mD D) i j) ?_ ?_ ⟨i,j,rfl,rfl,h⟩
  ·rintro x y ⟨i,j,rfl,rfl,h⟩
   rw[zc6,zc6]
   exact h.mark
  ·rintro x y b ⟨i,j,rfl,rfl,h⟩ hb
   exact⟨_,_,zc7 hR i b hb,zc7 hR j b hb,h.step (hR.c.1 b hb)⟩
 ·intro h
  refine Eqv.coind (fun i j=>Beh D (toI D i) D (toI D j)) (fun i j h=>⟨?_,fun c hc=>?_⟩) h
  ·rw[<-zc6,<-zc6]
   exact h.mark
  ·obtain⟨b,hb,rfl⟩:=hR.gap c hc
   rw[<-zc7 hR i b hb,<-zc7 hR j b hb]
   exact h.step hb
def Tgt (D:Dd) (C:Nat):Prop:=∀i c,i<D.n->c<C->D.nx i c≠-1->¬Beh D (D.nx i c) D (-1)
theorem zmP {D:Dd}{C:Nat}(hR:DR D C) {j:Nat}(hj:j<D.n) (ha:Alv D j):¬Beh D j D (-1):=by
 intro h
 obtain⟨k,h1,h2⟩:=ha
 have key:k<D.n/\Beh D k D (-1):=by
  clear h2
  induction h1 with
  | base e=>subst e;exact⟨hj,h⟩
  | @step x y _ e ih=>
   obtain⟨i1,i2⟩:=ih
   obtain⟨_,c,hc,e2⟩:=e
   rw[hR.len x i1] at hc
   obtain⟨b,hb,rfl⟩:=hR.gap c hc
   have h3:=i2.step hb
   rw[zaZ _ i1,zaD,e2] at h3
   have:=hR.nx x _ i1 hc
   exact⟨by omega,h3⟩
 have h3:=key.2.mark
 rw[za0 _ key.1,zaJ] at h3
 omega
theorem zmQ {D:Dd}{C:Nat}(hR:DR D C) {j:Nat}(hj:j<D.n) (ha:¬Alv D j):Beh D j D (-1):=by
 refine Beh.coind (fun x y=>y=-1/\(x=-1\/∃j:Nat,x=j/\j<D.n/\¬Alv D j)) ?_ ?_ ⟨rfl,Or.inr ⟨j,rfl,hj,ha⟩⟩
 ·rintro x y ⟨rfl,rfl|⟨j,rfl,hj,ha⟩⟩
  ·rfl
  ·rw[za0 _ hj,zaJ]
   have:=hR.q j hj
   have h2:¬0<=D.q j:=fun h=>ha ⟨j,.base rfl,h⟩
   omega
 ·rintro x y b ⟨rfl,rfl|⟨j,rfl,hj,ha⟩⟩ hb
  ·exact⟨zaD _ _,Or.inl (zaD _ _)⟩
  ·refine⟨zaD _ _,?_⟩
   rw[zaZ _ hj]
   have hc:=hR.c.1 b hb
   have:=hR.nx j _ hj hc
   by_cases e:D.nx j (D.K b)=-1
   ·exact Or.inl e
   ·refine Or.inr ⟨(D.nx j (D.K b)).toNat,by omega,by omega,fun h=>ha (Alv.of ⟨hj,D.K b,?_,by omega⟩ h)⟩
    rw[hR.len j hj];exact hc
theorem DfF.trim_beh {D T:Dd}{C:Nat}(hR:DR D C) (h:DfF D C D.n (trF D) D.q T) {i:Nat}(hi:i<D.n):Beh T i D i:=by
 obtain⟨e1,e2,e3,e4,e5,e6⟩:=h
 refine Beh.coind (fun x y=>(x=-1/\Beh D y D (-1))\/∃j:Nat,x=j/\y=j/\j<D.n) ?_ ?_ (Or.inr ⟨i,rfl,rfl,hi⟩)
 ·rintro x y (⟨rfl,h2⟩|⟨j,rfl,rfl,hj⟩)
  ·rw[zaJ,h2.mark,zaJ]
  ·rw[za0 _ hj,za0 _ (by omega),e6 j hj]
 ·rintro x y b (⟨rfl,h2⟩|⟨j,rfl,rfl,hj⟩) hb
  ·left
   have:=h2.step hb
   rw[zaD D] at this
   exact⟨zaD _ _,this⟩
  ·have hc:=hR.c.1 b hb
   have hx:=hR.nx j _ hj hc
   rw[zaZ _ hj,zaZ _ (by omega),e1,e5 j hj _ hc]
   unfold trF
   split
   ·rename_i h3
    left
    refine⟨rfl,?_⟩
    have:=zmQ hR (j:=(D.nx j (D.K b)).toNat) (by omega) h3.2
    rw[Int.toNat_of_nonneg h3.1] at this
    exact this
   ·by_cases e:D.nx j (D.K b)=-1
    ·rw[e]
     exact Or.inl ⟨rfl,Beh.refl _ _⟩
    ·exact Or.inr ⟨(D.nx j (D.K b)).toNat,by omega,by omega,by omega⟩
theorem DfF.trim_tgt {D T:Dd}{C:Nat}(hR:DR D C) (h:DfF D C D.n (trF D) D.q T):Tgt T C:=by
 have h0:=h
 obtain⟨e1,e2,e3,e4,e5,e6⟩:=h
 intro i c hi hc hne hb
 rw[e2] at hi
 have hx:=hR.nx i c hi hc
 rw[e5 i hi c hc] at hne hb
 unfold trF at hne hb
 split at hne
 ·exact hne rfl
 ·rename_i h3
  rw[if_neg h3] at hb
  have h4:Alv D (D.nx i c).toNat:=Classical.byContradiction fun h=>h3 ⟨by omega,h⟩
  have hj:(D.nx i c).toNat<D.n:=by omega
  have h5:=h0.trim_beh hR hj
  rw[Int.toNat_of_nonneg (by omega)] at h5
  have h6:=(h5.symm.trans hb).trans (Beh.dead T D)
  have h7:=zmP hR hj h4
  rw[Int.toNat_of_nonneg (by omega)] at h7
  exact h7 h6
section
variable {D O : Dd}{C k : Nat}{l : List Nat}
theorem DfF.ord_beh (hR:DR D C) (hl:l=wkN (rowsF D.len D.nx) [0] k) (hlk:l.length=k) (h:DfF D C k (ordF D l) (fun i=>D.q (l.getD i 0)) O) {i:Nat}(hi:i<k):Beh O i D ((l.getD i 0:Nat):Int):=by
 subst hl
 have hC0:0<C:=by have:=hR.c.1 0 (by omega);omega
 obtain⟨e1,e2,e3,e4,e5,e6⟩:=h
 refine Beh.coind (fun x y=>(x=-1/\y=-1)\/∃j:Nat,x=j/\y=(((wkN (rowsF D.len D.nx) [0] k).getD j 0:Nat):Int)/\j<k) ?_ ?_ (Or.inr ⟨i,rfl,rfl,hi⟩)
 ·rintro x y (⟨rfl,rfl⟩|⟨j,rfl,rfl,hj⟩)
  ·rw[zaJ,zaJ]
  ·rw[za0 _ (by omega),za0 _ (zbU hR hlk j 0 hj hC0).1,e6 j hj]
 ·rintro x y b (⟨rfl,rfl⟩|⟨j,rfl,rfl,hj⟩) hb
  ·exact Or.inl ⟨zaD _ _,zaD _ _⟩
  ·have hc:=hR.c.1 b hb
   have hs:=zbU hR hlk j _ hj hc
   rw[zaZ _ (by omega),zaZ _ hs.1,e1,e5 j hj _ hc]
   rcases hs.2 with ⟨h4,h5⟩|⟨j2,hj2,h4,h5⟩
   ·exact Or.inl ⟨h5,h4⟩
   ·exact Or.inr ⟨j2,h4,h5,hj2⟩
theorem DfF.ord_tgt (hR:DR D C) (hT:Tgt D C) (hl:l=wkN (rowsF D.len D.nx) [0] k) (hlk:l.length=k) (h:DfF D C k (ordF D l) (fun i=>D.q (l.getD i 0)) O):Tgt O C:=by
 have hb:=fun i (hi:i<k)=>h.ord_beh hR hl hlk hi
 subst hl
 obtain⟨e1,e2,e3,e4,e5,e6⟩:=h
 intro i c hi hc hne hd
 rw[e2] at hi
 rw[e5 i hi c hc] at hne hd
 have hs:=zbU hR hlk i c hi hc
 rcases hs.2 with ⟨h4,h5⟩|⟨j,hj,h4,h5⟩
 ·exact hne h5
 ·rw[h4] at hd
  have h6:=((hb j hj).symm.trans hd).trans (Beh.dead O D)
  rw[<-h5] at h6
  exact hT _ c hs.1 hc (by omega) h6
def Ordd (D:Dd):Prop:=wkN (rowsF D.len D.nx) [0] D.n=List.range D.n
theorem zfo {l:List Nat}(hn:l.Nodup):l.map (fun x=>l.idxOf x)=List.range l.length:=by
 apply List.ext_getElem
 ·simp
 ·intro i h1 h2
  simp at h1
  rw[List.getElem_map,List.getElem_range]
  exact hn.idxOf_getElem i h1
theorem zkO {l m:List Nat}(hm:∀x∈m,x∈l) {t:Int}(ht:-1<=t) (ht2:t≠-1->t.toNat∈l):addT (m.map fun x=>l.idxOf x) (plF l t)=(addT m t).map fun x=>l.idxOf x:=by
 unfold plF
 by_cases e:t=-1
 ·subst e
  rw[if_pos rfl]
  unfold addT
  rw[if_neg (fun h=>by omega),if_neg (fun h=>by omega)]
 ·rw[if_neg e]
  have h2:=ht2 e
  unfold addT
  have hiff:(((l.idxOf t.toNat:Nat):Int).toNat∈m.map fun x=>l.idxOf x)↔t.toNat∈m:=by
   rw[Int.toNat_natCast,List.mem_map]
   constructor
   ·rintro⟨x,hx,e2⟩
    have h3:=hm x hx
    have h4:=List.getElem_idxOf (List.idxOf_lt_length_iff.2 h3)
    have h5:=List.getElem_idxOf (List.idxOf_lt_length_iff.2 h2)
    simp only[e2] at h4
    rw[h4] at h5
    rw[<-h5];exact hx
   ·intro h;exact⟨_,h,rfl⟩
  by_cases h3:t.toNat∈m
  ·rw[if_neg (fun h=>h.2 (hiff.2 h3)),if_neg (fun h=>h.2 h3)]
  ·rw[if_pos ⟨by omega,fun h=>h3 (hiff.1 h)⟩,if_pos ⟨by omega,h3⟩,List.map_append]
   simp
theorem zkP {l:List Nat}(row:List Int):∀m:List Nat,(∀x∈m,x∈l)->(∀t∈row,-1<=t/\(t≠-1->t.toNat∈l))->addR (m.map fun x=>l.idxOf x) (row.map (plF l))=(addR m row).map fun x=>l.idxOf x:=by
 induction row with
 | nil=>intro m _ _;rfl
 | cons t row ih=>
  intro m hm hr
  show addR (addT (m.map fun x=>l.idxOf x) (plF l t)) (row.map (plF l))=(addR (addT m t) row).map fun x=>l.idxOf x
  have h1:=hr t (by simp)
  rw[zkO hm h1.1 h1.2]
  refine ih _ (fun x hx=>?_) (fun u hu=>hr u (by simp[hu]))
  rcases (zhP m t x).1 hx with h2|h2
  ·exact hm x h2
  ·have:=h1.2 (by omega)
   rw[h2] at this
   simpa using this
theorem DfF.ordd (hR:DR D C) (hl:l=wkN (rowsF D.len D.nx) [0] k) (hlk:l.length=k) (h:DfF D C k (ordF D l) (fun i=>D.q (l.getD i 0)) O):Ordd O:=by
 obtain⟨e1,e2,e3,e4,e5,e6⟩:=h
 have hmem:∀x∈l,x<D.n:=by rw[hl];exact zhO hR k
 have hcl:∀i (hi:i<k),∀y,WE (rowsF D.len D.nx) (l.getD i 0) y->y∈l:=by
  intro i hi y hy
  have hi2:i<l.length:=by omega
  have:=zhR (rowsF D.len D.nx) [0] k i hi
  rw[<-hl] at this
  refine this hi2 y ?_
  have e:l.getD i 0=l[i]:=by simp[List.getD_eq_getElem?_getD,hi2]
  rwa [e] at hy
 have hnd:l.Nodup:=by rw[hl];exact zcN _ (by simp) _
 have key:∀i,i<=k->wkN (rowsF O.len O.nx) [0] i=(wkN (rowsF D.len D.nx) [0] i).map fun x=>l.idxOf x:=by
  intro i
  induction i with
  | zero=>
   intro _
   show [0]=[l.idxOf 0]
   have h1:=zdi (rowsF D.len D.nx) [0] k
   rw[<-hl] at h1
   rw[znJ h1 (by simp)]
   simp
  | succ i ih=>
   intro hi
   have ih:=ih (by omega)
   show wkS (rowsF O.len O.nx) (wkN (rowsF O.len O.nx) [0] i) i=(wkS (rowsF D.len D.nx) (wkN (rowsF D.len D.nx) [0] i) i).map _
   have hpre:wkN (rowsF D.len D.nx) [0] i <+: l:=by rw[hl];exact zop (by omega)
   rw[ih]
   unfold wkS
   rw[List.length_map]
   split
   ·rename_i hlt
    generalize wkN (rowsF D.len D.nx) [0] i=m at hpre hlt⊢
    have e7:m.getD i 0=l.getD i 0:=by
     have h8:=hpre.getElem hlt
     simp[List.getD_eq_getElem?_getD,hlt,h8,show i<l.length by omega]
    have e8:(m.map fun x=>l.idxOf x).getD i 0=i:=by
     have h9:(List.map (fun x=>l.idxOf x) l)[i]?=some i:=by rw[zfo hnd,List.getElem?_range (by omega)]
     rw[List.getD_eq_getElem?_getD]
     have h10:=(hpre.map (fun x=>l.idxOf x)).getElem (i:=i) (by simpa using hlt)
     rw[List.getElem?_eq_getElem (by simpa using hlt),h10]
     rw[List.getElem?_eq_getElem (by simp;omega)] at h9
     exact Option.some.inj h9
    rw[e8,e7]
    have hxn:l.getD i 0<D.n:=by
     have hi2:i<l.length:=by omega
     rw[show l.getD i 0=l[i] by simp[List.getD_eq_getElem?_getD,hi2]]
     exact hmem _ (List.getElem_mem hi2)
    have e9:rowsF O.len O.nx i=(rowsF D.len D.nx (l.getD i 0)).map (plF l):=by
     unfold rowsF
     rw[e4 i (by omega),hR.len _ hxn,List.map_map]
     refine List.map_congr_left fun c hc=>?_
     rw[e5 i (by omega) c (List.mem_range.1 hc)]
     rfl
    rw[e9]
    refine zkP _ _ (fun x hx=>hpre.subset hx) (fun t ht=>?_)
    have h11:-1<=t:=by
     unfold rowsF at ht
     obtain⟨c,hc,rfl⟩:=List.mem_map.1 ht
     have hc:=List.mem_range.1 hc
     rw[hR.len _ hxn] at hc
     exact (hR.nx _ c hxn hc).1
    refine⟨h11,fun hne=>hcl i (by omega) _ ?_⟩
    unfold WE
    rw[Int.toNat_of_nonneg (by omega)]
    exact ht
   ·rfl
 unfold Ordd
 rw[e2,key k (Nat.le_refl _),<-hl,zfo hnd,hlk]
theorem Ordd.all {X:Dd}(h:Ordd X) {i:Nat}(hi:i<X.n):Rch (WE (rowsF X.len X.nx)) (fun y=>y∈[0]) i:=by
 have h2:=zmC (rowsF X.len X.nx) [0] X.n
 rw[h] at h2
 exact h2 i (List.mem_range.2 hi)
end
def ColE (D:Dd) (n:Nat) (a b:Nat):Prop:=∀i,i<n->D.nx i (D.K a)=D.nx i (D.K b)
structure Mn (X:Dd) (C:Nat):Prop where
 r:DR X C
 ord:Ordd X
 tgt:Tgt X C
 apart:∀i j,i<X.n->j<X.n->Beh X i X j->i=j
 cls:Num (ColE X X.n) 256 X.K C
section
variable {O M : Dd}{C B : Nat}{f : Nat → Nat}
def MgF (O:Dd) (C:Nat) (f:Nat->Nat) (B:Nat) (M:Dd):Prop:=DfF O C B (fun b c=>mgF O f ((rpl f O.n).getD b 0) c) (fun b=>O.q ((rpl f O.n).getD b 0)) M
theorem zcq (hN:Num (Eqv C (tD O) (mD O)) O.n f B) {b:Nat}(hb:b<B):(rpl f O.n).getD b 0<O.n/\f ((rpl f O.n).getD b 0)=b:=by
 obtain⟨a1,a2,a3⟩:=hN.rpl O.n (Nat.le_refl _)
 have h:=hN.rpl_all
 obtain⟨x,h1,h2,h3⟩:=a2 b (by omega)
 have e:(rpl f O.n).getD b 0=x:=by rw[List.getD_eq_getElem?_getD,h1];rfl
 rw[e]
 exact⟨zg5 f _ _ (List.mem_of_getElem? h1),h2⟩
theorem zcr (hR:DR O C) (hN:Num (Eqv C (tD O) (mD O)) O.n f B) {i j:Nat}(hi:i<O.n) (hj:j<O.n):f i=f j↔Beh O i O j:=by
 rw[hN.same i j hi hj,zmO hR,zg9 hi,zg9 hj]
theorem MgF.parts (h:MgF O C f B M):M.K=O.K/\M.n=B/\M.m=B/\(∀i,i<B->M.len i=C)/\(∀i,i<B->∀c,c<C->M.nx i c=mgF O f ((rpl f O.n).getD i 0) c)/\∀i,i<B->M.q i=O.q ((rpl f O.n).getD i 0):=h
theorem MgF.beh (hR:DR O C) (hN:Num (Eqv C (tD O) (mD O)) O.n f B) (h:MgF O C f B M) {i:Nat}(hi:i<O.n):Beh M ((f i:Nat):Int) O i:=by
 obtain⟨e1,e2,e3,e4,e5,e6⟩:=h.parts
 refine Beh.coind (fun x y=>(x=-1/\Beh O y O (-1))\/∃j:Nat,x=((f j:Nat):Int)/\j<O.n/\Beh O y O j) ?_ ?_ (Or.inr ⟨i,rfl,hi,Beh.refl _ _⟩)
 ·rintro x y (⟨rfl,h2⟩|⟨j,rfl,hj,h2⟩)
  ·rw[zaJ,h2.mark,zaJ]
  ·have hf:=hN.lt j hj
   obtain⟨r1,r2⟩:=zcq hN hf
   have h3:=(zcr hR hN r1 hj).1 r2
   rw[za0 _ (by omega),e6 _ hf,h2.mark,<-h3.mark,za0 _ r1]
 ·rintro x y b (⟨rfl,h2⟩|⟨j,rfl,hj,h2⟩) hb
  ·have:=h2.step hb
   rw[zaD O] at this
   exact Or.inl ⟨zaD _ _,this⟩
  ·have hf:=hN.lt j hj
   obtain⟨r1,r2⟩:=zcq hN hf
   have h3:=h2.trans ((zcr hR hN r1 hj).1 r2).symm
   have hc:=hR.c.1 b hb
   have h4:=h3.step hb
   have hx:=hR.nx _ _ r1 hc
   rw[zaZ O r1] at h4
   rw[zaZ M (by omega),e1,e5 _ hf _ hc]
   unfold mgF
   split
   ·rename_i h5
    rw[h5] at h4
    exact Or.inl ⟨rfl,h4⟩
   ·refine Or.inr ⟨(O.nx ((rpl f O.n).getD (f j) 0) (O.K b)).toNat,rfl,by omega,?_⟩
    rw[Int.toNat_of_nonneg (by omega)]
    exact h4
theorem MgF.right (hR:DR O C) (hN:Num (Eqv C (tD O) (mD O)) O.n f B) (h:MgF O C f B M):DR M C:=by
 obtain⟨e1,e2,e3,e4,e5,e6⟩:=h.parts
 have h1:=hR.n1
 have h2:=hR.n2
 have hB1:1<=B:=by have:=hN.lt 0 (by omega);omega
 have hB2:B<=O.n:=by have:=hN.rpl_all;have:=ziV f O.n;omega
 refine⟨by rw[e1];exact hR.c,by omega,by omega,by omega,fun c hc=>by rw[e1];exact hR.gap c hc,fun i hi=>e4 i (by omega),fun i hi=>?_,fun i c hi hc=>?_⟩
 ·rw[e6 i (by omega)]
  exact hR.q _ (zcq hN (by omega)).1
 ·rw[e5 i (by omega) c hc,e2]
  have hr:=(zcq hN (b:=i) (by omega)).1
  have:=hR.nx _ c hr hc
  unfold mgF
  split
  ·omega
  ·have:=hN.lt (O.nx ((rpl f O.n).getD i 0) c).toNat (by omega)
   omega
theorem MgF.apart (hR:DR O C) (hN:Num (Eqv C (tD O) (mD O)) O.n f B) (h:MgF O C f B M) {a b:Nat}(ha:a<B) (hb:b<B) (hab:Beh M a M b):a=b:=by
 obtain⟨a1,a2⟩:=zcq hN ha
 obtain⟨b1,b2⟩:=zcq hN hb
 have h1:=h.beh hR hN a1
 have h2:=h.beh hR hN b1
 rw[a2] at h1
 rw[b2] at h2
 have:=(zcr hR hN a1 b1).2 ((h1.symm.trans hab).trans h2)
 omega
theorem MgF.nx (hR:DR O C) (hT:Tgt O C) (hN:Num (Eqv C (tD O) (mD O)) O.n f B) (h:MgF O C f B M) {i c:Nat}(hi:i<O.n) (hc:c<C):M.nx (f i) c=mgF O f i c:=by
 obtain⟨e1,e2,e3,e4,e5,e6⟩:=h.parts
 have hf:=hN.lt i hi
 obtain⟨r1,r2⟩:=zcq hN hf
 have h3:=(zcr hR hN r1 hi).1 r2
 have h4:=h3.nx1 hR r1 hi hc
 rw[e5 _ hf c hc]
 have x1:=hR.nx _ c r1 hc
 have x2:=hR.nx _ c hi hc
 unfold mgF
 by_cases g1:O.nx ((rpl f O.n).getD (f i) 0) c=-1
 ·by_cases g2:O.nx i c=-1
  ·rw[if_pos g1,if_pos g2]
  ·rw[g1] at h4
   exact absurd h4.symm (hT i c hi hc g2)
 ·by_cases g2:O.nx i c=-1
  ·rw[g2] at h4
   exact absurd h4 (hT _ c r1 hc g1)
  ·rw[if_neg g1,if_neg g2]
   congr 1
   refine (zcr hR hN (by omega) (by omega)).2 ?_
   rw[Int.toNat_of_nonneg (by omega),Int.toNat_of_nonneg (by omega)]
   exact h4
theorem MgF.tgt (hR:DR O C) (hT:Tgt O C) (hN:Num (Eqv C (tD O) (mD O)) O.n f B) (h:MgF O C f B M):Tgt M C:=by
 intro b c hb hc hne hd
 have hb:b<B:=by rw[h.2.1] at hb;exact hb
 obtain⟨r1,r2⟩:=zcq hN hb
 have hx:=hR.nx _ c r1 hc
 have e:=h.nx hR hT hN r1 hc
 rw[r2] at e
 rw[e] at hne hd
 unfold mgF at hne hd
 by_cases g:O.nx ((rpl f O.n).getD b 0) c=-1
 ·rw[if_pos g] at hne;exact hne rfl
 ·rw[if_neg g] at hd
  have h2:=h.beh hR hN (i:=(O.nx ((rpl f O.n).getD b 0) c).toNat) (by omega)
  have h3:=(h2.symm.trans hd).trans (Beh.dead M O)
  rw[Int.toNat_of_nonneg (by omega)] at h3
  exact hT _ c r1 hc g h3
end
section
variable {M P : Dd}{C C' : Nat}{g : Nat → Nat}
structure ClF (M:Dd) (g:Nat->Nat) (C':Nat) (P:Dd):Prop where
 K:∀b,b<256->P.K b=g b
 n:P.n=M.n
 m:P.m=M.n
 len:∀i,i<M.n->P.len i=C'
 nx:∀i,i<M.n->∀c,c<C'->P.nx i c=M.nx i (M.K ((rpl g 256).getD c 0))
 q:∀i,i<M.n->P.q i=M.q i
theorem zdr (hN:Num (ColE M M.n) 256 g C') {c:Nat}(hc:c<C'):(rpl g 256).getD c 0<256/\g ((rpl g 256).getD c 0)=c:=by
 obtain⟨a1,a2,a3⟩:=hN.rpl 256 (Nat.le_refl _)
 have h:=hN.rpl_all
 obtain⟨x,h1,h2,h3⟩:=a2 c (by omega)
 have e:(rpl g 256).getD c 0=x:=by rw[List.getD_eq_getElem?_getD,h1];rfl
 rw[e]
 exact⟨zg5 g _ _ (List.mem_of_getElem? h1),h2⟩
theorem ClF.byte (hN:Num (ColE M M.n) 256 g C') (h:ClF M g C' P) {i b:Nat}(hi:i<M.n) (hb:b<256):P.nx i (P.K b)=M.nx i (M.K b):=by
 have hg:=hN.lt b hb
 obtain⟨r1,r2⟩:=zdr hN hg
 rw[h.K b hb,h.nx i hi _ hg]
 exact (hN.same _ b r1 hb).1 r2 i hi
theorem ClF.right (hR:DR M C) (hN:Num (ColE M M.n) 256 g C') (h:ClF M g C' P):DR P C':=by
 have h1:=hR.n1
 have h2:=hR.n2
 have hC1:1<=C':=by have:=hN.lt 0 (by omega);omega
 refine⟨⟨fun j hj=>by rw[h.K j hj];exact hN.lt j hj,?_⟩,by rw[h.n];exact h1,by rw[h.n];exact h2,by rw[h.m,h.n],fun c hc=>?_,fun i hi=>h.len i (by rw[h.n] at hi;exact hi),fun i hi=>?_,fun i c hi hc=>?_⟩
 ·obtain⟨r1,r2⟩:=zdr hN (c:=C'-1) (by omega)
  exact⟨_,r1,by rw[h.K _ r1,r2];omega⟩
 ·obtain⟨r1,r2⟩:=zdr hN hc
  exact⟨_,r1,by rw[h.K _ r1,r2]⟩
 ·rw[h.n] at hi
  rw[h.q i hi]
  exact hR.q i hi
 ·rw[h.n] at hi⊢
  rw[h.nx i hi c hc]
  exact hR.nx i _ hi (hR.c.1 _ (zdr hN hc).1)
theorem ClF.beh (hR:DR M C) (hN:Num (ColE M M.n) 256 g C') (h:ClF M g C' P) {i:Nat}(hi:i<M.n):Beh P i M i:=by
 refine Beh.coind (fun x y=>x=y/\(x=-1\/∃j:Nat,x=j/\j<M.n)) ?_ ?_ ⟨rfl,Or.inr ⟨i,rfl,hi⟩⟩
 ·rintro x y ⟨rfl,rfl|⟨j,rfl,hj⟩⟩
  ·rw[zaJ,zaJ]
  ·rw[za0 _ (by rw[h.n];exact hj),za0 _ hj,h.q j hj]
 ·rintro x y b ⟨rfl,rfl|⟨j,rfl,hj⟩⟩ hb
  ·exact⟨by rw[zaD,zaD],Or.inl (zaD _ _)⟩
  ·have hx:=hR.nx j _ hj (hR.c.1 b hb)
   rw[zaZ _ (by rw[h.n];exact hj),zaZ _ hj,h.byte hN hj hb]
   refine⟨rfl,?_⟩
   by_cases e:M.nx j (M.K b)=-1
   ·exact Or.inl e
   ·exact Or.inr ⟨(M.nx j (M.K b)).toNat,by omega,by omega⟩
theorem ClF.tgt (hR:DR M C) (hT:Tgt M C) (hN:Num (ColE M M.n) 256 g C') (h:ClF M g C' P):Tgt P C':=by
 intro i c hi hc hne hd
 rw[h.n] at hi
 have hk:=hR.c.1 _ (zdr hN hc).1
 rw[h.nx i hi c hc] at hne hd
 have hx:=hR.nx i _ hi hk
 have h2:=h.beh hR hN (i:=(M.nx i (M.K ((rpl g 256).getD c 0))).toNat) (by omega)
 rw[Int.toNat_of_nonneg (by omega)] at h2
 exact hT i _ hi hk hne ((h2.symm.trans hd).trans (Beh.dead P M))
theorem ClF.apart (hR:DR M C) (hN:Num (ColE M M.n) 256 g C') (h:ClF M g C' P) (hA:∀i j,i<M.n->j<M.n->Beh M i M j->i=j) {i j:Nat}(hi:i<P.n) (hj:j<P.n) (hb:Beh P i P j):i=j:=by
 rw[h.n] at hi hj
 exact hA i j hi hj (((h.beh hR hN hi).symm.trans hb).trans (h.beh hR hN hj))
theorem ClF.cls (hN:Num (ColE M M.n) 256 g C') (h:ClF M g C' P):Num (ColE P P.n) 256 P.K C':=by
 refine (hN.iff (R':=ColE P P.n) (fun a b ha hb=>?_)).congr (fun b hb=>(h.K b hb).symm)
 constructor
 ·intro h2 i hi
  rw[h.n] at hi
  rw[h.byte hN hi ha,h.byte hN hi hb]
  exact h2 i hi
 ·intro h2 i hi
  have:=h2 i (by rw[h.n];exact hi)
  rwa [h.byte hN hi ha,h.byte hN hi hb] at this
end
theorem zme {D:Dd}{x y:Nat}(hx:x<D.n):WE (rowsF D.len D.nx) x y↔Ed D x y:=by
 unfold WE rowsF Ed
 rw[List.mem_map]
 constructor
 ·rintro⟨c,hc,e⟩
  exact⟨hx,c,List.mem_range.1 hc,e⟩
 ·rintro⟨_,c,hc,e⟩
  exact⟨c,List.mem_range.2 hc,e⟩
theorem Ordd.rch {X:Dd}{C:Nat}(hR:DR X C) (h:Ordd X) {i:Nat}(hi:i<X.n):Rch (Ed X) (fun y=>y=0) i:=by
 have h2:=h.all hi
 have hn:=hR.n1
 have key:∀x,Rch (WE (rowsF X.len X.nx)) (fun y=>y∈[0]) x->x<X.n/\Rch (Ed X) (fun y=>y=0) x:=by
  intro x hx
  induction hx with
  | base h=>simp at h;subst h;exact⟨by omega,.base rfl⟩
  | step _ e ih=>
   have:=(zme ih.1).1 e
   exact⟨hR.ed _ _ this,.step ih.2 this⟩
 exact (key i h2).2
theorem Mn.made {O M P X:Dd}{C B C' k:Nat}{f g:Nat->Nat}{l:List Nat}(hR:DR O C) (hO:Ordd O) (hT:Tgt O C) (hN:Num (Eqv C (tD O) (mD O)) O.n f B) (hM:MgF O C f B M) (hG:Num (ColE M M.n) 256 g C') (hP:ClF M g C' P)
  (hl:l=wkN (rowsF P.len P.nx) [0] k) (hlk:l.length=k) (hkn:k<=P.n) (hX:DfF P C' k (ordF P l) (fun i=>P.q (l.getD i 0)) X):Mn X C'/\Beh X 0 O 0:=by
 have hRM:=hM.right hR hN
 have hRP:=hP.right hRM hG
 have hTM:=hM.tgt hR hT hN
 have hTP:=hP.tgt hRM hTM hG
 have hX0:=hX
 have hn1:=hR.n1
 have hMn:M.n=B:=hM.2.1
 have hAM:∀i j,i<M.n->j<M.n->Beh M i M j->i=j:=fun i j hi hj=>hM.apart hR hN (by omega) (by omega)
 have hRX:DR X C':=by subst hl;exact hX.ord_right hRP hlk hkn
 have hbe:=fun i (hi:i<k)=>hX.ord_beh hRP hl hlk hi
 obtain⟨e1,e2,e3,e4,e5,e6⟩:=hX
 have hmem:∀x∈l,x<P.n:=by rw[hl];exact zhO hRP k
 have hnd:l.Nodup:=by rw[hl];exact zcN _ (by simp) _
 have hgl:∀i,i<k->l.getD i 0∈l:=fun i hi=>by
  rw[show l.getD i 0=l[i]'(by omega) by simp[List.getD_eq_getElem?_getD,show i<l.length by omega]]
  exact List.getElem_mem _
 have f0:f 0=0:=by have:=hN.le 0 (by omega);omega
 have hall:∀a,a<P.n->a∈l:=by
  intro a ha
  rw[hP.n,hMn] at ha
  have hmm:=zgW (rowsF P.len P.nx) [0] (i:=k) (by rw[<-hl];exact hlk)
  rw[<-hl] at hmm
  rw[hmm]
  obtain⟨r1,r2⟩:=zcq hN ha
  have h1:=hO.rch hR r1
  rw[<-r2]
  have key:∀x,Rch (Ed O) (fun y=>y=0) x->x<O.n/\Rch (WE (rowsF P.len P.nx)) (fun y=>y∈[0]) (f x):=by
   intro x hx
   induction hx with
   | base h=>subst h;exact⟨by omega,.base (by rw[f0];simp)⟩
   | @step x y _ e ih=>
    have hy:=hR.ed _ _ e
    refine⟨hy,.step ih.2 ?_⟩
    obtain⟨hx,c,hc,e7⟩:=e
    rw[hR.len x hx] at hc
    obtain⟨b,hb,rfl⟩:=hR.gap c hc
    have hfx:=hN.lt x hx
    have h3:=hP.byte hG (i:=f x) (by omega) hb
    have h4:=hM.nx hR hT hN hx hc
    rw[hM.1,h4] at h3
    unfold mgF at h3
    rw[if_neg (by omega),e7,Int.toNat_natCast] at h3
    have hfp:f x<P.n:=by rw[hP.n,hMn];exact hfx
    exact (zme hfp).2 ⟨hfp,P.K b,by rw[hP.len _ (by omega),hP.K b hb];exact hG.lt b hb,h3⟩
  exact (key _ h1).2
 refine⟨⟨hRX,hX0.ordd hRP hl hlk,hX0.ord_tgt hRP hTP hl hlk,fun i j hi hj hb=>?_,?_⟩,?_⟩
 ·rw[e2] at hi hj
  have h1:=hP.apart hRM hG hAM (hmem _ (hgl i hi)) (hmem _ (hgl j hj)) (((hbe i hi).symm.trans hb).trans (hbe j hj))
  have hi2:i<l.length:=by omega
  have hj2:j<l.length:=by omega
  simp only[List.getD_eq_getElem?_getD,List.getElem?_eq_getElem hi2,List.getElem?_eq_getElem hj2,Option.getD_some] at h1
  exact (List.getElem_inj (h₀:=hi2) (h₁:=hj2) hnd).1 h1
 ·refine ((hP.cls hG).iff (R':=ColE X X.n) (fun a b ha hb=>?_)).congr (fun b hb=>by rw[e1])
  have hca:=hRP.c.1 a ha
  have hcb:=hRP.c.1 b hb
  constructor
  ·intro h2 i hi
   rw[e2] at hi
   rw[e1,e5 i hi _ hca,e5 i hi _ hcb]
   unfold ordF
   rw[h2 _ (hmem _ (hgl i hi))]
  ·intro h2 j hj
   have hjl:=hall j hj
   obtain⟨i,hi,e⟩:=List.getElem_of_mem hjl
   have h3:=h2 i (by omega)
   rw[e1,e5 i (by omega) _ hca,e5 i (by omega) _ hcb] at h3
   have hsa:=zbU hRP (by rw[<-hl];exact hlk) i _ (by omega) hca
   have hsb:=zbU hRP (by rw[<-hl];exact hlk) i _ (by omega) hcb
   rw[<-hl] at hsa hsb
   have e9:l.getD i 0=j:=by simp[List.getD_eq_getElem?_getD,hi,e]
   rw[e9] at hsa hsb
   rcases hsa.2 with ⟨u1,u2⟩|⟨ja,u0,u1,u2⟩
   ·rcases hsb.2 with ⟨v1,v2⟩|⟨jb,v0,v1,v2⟩
    ·rw[u1,v1]
    ·rw[u2,v1] at h3;omega
   ·rcases hsb.2 with ⟨v1,v2⟩|⟨jb,v0,v1,v2⟩
    ·rw[u1,v2] at h3;omega
    ·rw[u1,v1] at h3
     have:ja=jb:=by omega
     rw[u2,v2,this]
 ·have hk1:1<=k/\l.getD 0 0=0:=by
   have:=ze7 (D:=P) (k:=k) (by rw[<-hl];exact hlk)
   rw[<-hl] at this
   exact this
  have h1:=hbe 0 (by omega)
  rw[hk1.2] at h1
  have h2:=hP.beh hRM hG (i:=0) (by rw[hMn];have:=hN.lt 0 (by omega);omega)
  have h3:=hM.beh hR hN (i:=0) (by omega)
  rw[f0] at h3
  exact (h1.trans h2).trans h3
section
variable {X Y : Dd}{C D : Nat}
end
end Go.Proofs.YtjehgdjlncofeaaGreat
