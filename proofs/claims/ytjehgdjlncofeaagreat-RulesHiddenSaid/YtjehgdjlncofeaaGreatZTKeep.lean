import Derived.Test.YtjehgdjlncofeaaGreatZTLaw
set_option linter.unusedVariables false
set_option linter.unusedSimpArgs false
namespace Go.Proofs.YtjehgdjlncofeaaGreat
open Go.RowKit Go.Maps Go.WideElems Go.ChangeMaps Go.MapKept
theorem DfF.trim_right {D D1:Dd}{C:Nat}(hR:DR D C) (h:DfF D C D.n (trF D) D.q D1):DR D1 C:=by
 obtain⟨e1,e2,e3,e4,e5,e6⟩:=h
 refine⟨by rw[e1];exact hR.c,by rw[e2];exact hR.n1,by rw[e2];exact hR.n2,by rw[e3,e2],fun c hc=>by rw[e1];exact hR.gap c hc,fun i hi=>e4 i (by omega),fun i hi=>by rw[e6 i (by omega)];exact hR.q i (by omega),fun i c hi hc=>?_⟩
 rw[e5 i (by omega) c hc,e2]
 have:=hR.nx i c (by omega) hc
 unfold trF
 split <;> omega
theorem Alv.of {D:Dd}{x y:Nat}(he:Ed D x y) (h:Alv D y):Alv D x:=by
 obtain⟨k,h1,h2⟩:=h
 exact⟨k,Rch.head (B:=fun _=>True) he h1,h2⟩
theorem zaD (D:Dd) (b:Nat):stepF D (-1) b=-1:=by unfold stepF;rw[if_neg (by omega)]
theorem zbU {D:Dd}{C k:Nat}(hR:DR D C) (hlk:(wkN (rowsF D.len D.nx) [0] k).length=k) (i c:Nat) (hi:i<k) (hc:c<C):
  (wkN (rowsF D.len D.nx) [0] k).getD i 0<D.n/\((D.nx ((wkN (rowsF D.len D.nx) [0] k).getD i 0) c=-1/\ordF D (wkN (rowsF D.len D.nx) [0] k) i c=-1)\/
   ∃j,j<k/\ordF D (wkN (rowsF D.len D.nx) [0] k) i c=((j:Nat):Int)/\D.nx ((wkN (rowsF D.len D.nx) [0] k).getD i 0) c=(((wkN (rowsF D.len D.nx) [0] k).getD j 0:Nat):Int)):=by
 have hcl:=zhR (rowsF D.len D.nx) [0] k i hi
 have hmem:=zhO hR k
 generalize wkN (rowsF D.len D.nx) [0] k=l at hlk hcl hmem⊢
 have hi2:i<l.length:=by omega
 have hx:l.getD i 0=l[i]:=by simp[List.getD_eq_getElem?_getD,hi2]
 have hxn:l[i]<D.n:=hmem _ (List.getElem_mem hi2)
 unfold ordF plF
 rw[hx]
 refine⟨hxn,?_⟩
 have hb:=hR.nx l[i] c hxn hc
 by_cases h1:D.nx l[i] c=-1
 ·exact Or.inl ⟨h1,by rw[if_pos h1]⟩
 ·rw[if_neg h1]
  right
  have hm:(D.nx l[i] c).toNat∈l:=by
   refine hcl hi2 _ ?_
   unfold WE rowsF
   exact List.mem_map.2 ⟨c,by rw[List.mem_range,hR.len _ hxn];exact hc,by omega⟩
  have hlt:=List.idxOf_lt_length_iff.2 hm
  refine⟨l.idxOf (D.nx l[i] c).toNat,by omega,rfl,?_⟩
  have h2:l.getD (l.idxOf (D.nx l[i] c).toNat) 0=(D.nx l[i] c).toNat:=by
   rw[List.getD_eq_getElem?_getD,List.getElem?_eq_getElem hlt,List.getElem_idxOf]
   rfl
  rw[h2]
  omega
theorem ze7 {D:Dd}{k:Nat}(hlk:(wkN (rowsF D.len D.nx) [0] k).length=k):1<=k/\(wkN (rowsF D.len D.nx) [0] k).getD 0 0=0:=by
 obtain⟨t,ht⟩:=zdi (rowsF D.len D.nx) [0] k
 generalize wkN (rowsF D.len D.nx) [0] k=l at hlk ht⊢
 subst ht
 refine⟨?_,rfl⟩
 simp at hlk
 omega
theorem DfF.ord_right {D D1:Dd}{C k:Nat}(hR:DR D C) (hlk:(wkN (rowsF D.len D.nx) [0] k).length=k) (hkn:k<=D.n) (h:DfF D C k (ordF D (wkN (rowsF D.len D.nx) [0] k)) (fun i=>D.q ((wkN (rowsF D.len D.nx) [0] k).getD i 0)) D1):DR D1 C:=by
 obtain⟨e1,e2,e3,e4,e5,e6⟩:=h
 have h1:=(ze7 hlk).1
 have hn2:=hR.n2
 have hC0:0<C:=by have:=hR.c.1 0 (by omega);omega
 refine⟨by rw[e1];exact hR.c,by omega,by omega,by rw[e3,e2],fun c hc=>by rw[e1];exact hR.gap c hc,fun i hi=>e4 i (by omega),fun i hi=>?_,fun i c hi hc=>?_⟩
 ·rw[e6 i (by omega)]
  exact hR.q _ (zbU hR hlk i 0 (by omega) hC0).1
 ·rw[e5 i (by omega) c hc,e2]
  rcases (zbU hR hlk i c (by omega) hc).2 with ⟨_,h2⟩|⟨j,hj,h2,_⟩
  ·rw[h2];omega
  ·rw[h2];omega
end Go.Proofs.YtjehgdjlncofeaaGreat
