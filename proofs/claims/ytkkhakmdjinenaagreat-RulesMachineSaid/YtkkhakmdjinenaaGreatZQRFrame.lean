import Derived.Test.YtkkhakmdjinenaaGreatZQAwk
set_option linter.all false
set_option maxRecDepth 100000
namespace Go.Proofs.YtkkhakmdjinenaaGreat
open Go.RowKit Go.Deep Go.Proofs.Tryz
variable {fuel:Nat}{held:Bool}{spare:Nat->Bool}{w:World}
theorem zl3{H:Type}{enc:TypeId × Value->H}{base:Nat}{cs:List Value}{x:DataW H × List MemPlace}(hlen:cs.length=3)
  (h:DataW.trod enc prog w base spare held fuel 48 cs=some x):∃p:Ru,cs=eD p/\p.nm.size<=maxLen/\p.rx.size<=maxLen:=by
 have c3:prog.cellsOf 3=1:=by kernel_rfl
 have c4:prog.cellsOf 9=1:=by kernel_rfl
 obtain⟨ys,n',XN,hy,hl,hyl,hf⟩:=DataW.trod_struct underlying48 h;have f0:=hf 0 _ rfl;have f1:=hf 1 _ rfl;have f2:=hf 2 _ rfl
 match cs,hlen with
 | [v0,v1,v2],_=>
  simp[c3,c4] at f0 f1 f2
  match ys,hyl with
  | [y0,y1,y2],_=>
   simp at f0 f1 f2;obtain⟨s,e0,_,hs⟩:=DataW.trod_string underlying9 f0;obtain⟨r,e1,_⟩:=DataW.trod_int underlying3 f1;obtain⟨p,e2,_,hp⟩:=DataW.trod_string underlying9 f2;simp at e0 e1 e2;subst e0 e1 e2;exact⟨⟨s,r,p⟩,rfl,hs,hp⟩
theorem zkq{H:Type}{enc:TypeId × Value->H}{base:Nat}{a:Option Addr}{len cap:Nat}{x:DataW H × List MemPlace}
  (h:DataW.trod enc prog w base spare held fuel 22 [.slice a len cap]=some x):∃l:List Ru,l.length=len/\fR w a l/\len<=cap/\cap<=maxLen/\∀j (h:j<l.length),l[j].nm.size<=maxLen/\l[j].rx.size<=maxLen:=by
 rcases open_slice underlying22 h with ⟨mS,_⟩|⟨ad,l,c,m,n,D,Pl,mS,hb,hl,hm,ju,hx,hi⟩
 ·simp at mS;obtain⟨rfl,rfl,rfl⟩:=mS;exact⟨[],rfl,fun h=>absurd h (by simp),Nat.le_refl _,by unfold maxLen;omega,fun j h=>absurd h (by simp)⟩
 simp at mS;obtain⟨rfl,rfl,rfl⟩:=mS;have h7:prog.cellsOf 48=3:=by kernel_rfl
 have hp:∀i,i<len->∃p:Ru,(∀j,j<3->w.cell? (ad.add (i*3+j))=(eD p)[j]?)/\p.nm.size<=maxLen/\p.rx.size<=maxLen:=by
  intro i him;obtain⟨iJ,hc,ht⟩:=hi i (by rw[ju];split <;> omega);rw[h7] at hc;obtain⟨_,gq,fx⟩:=World.cells?_some hc;obtain⟨p,rfl,hs⟩:=zl3 gq ht;refine⟨p,fun j hj=>?_,hs⟩;rw[<-Go.Deep.add_add];exact fx j hj
 obtain⟨b,off,spot⟩:=ad;have eo:∃s:Nat->Ru,∀i,i<len->(∀j,j<3->w.cell? ((⟨b,off,spot⟩:Addr).add (i*3+j))=(eD (s i))[j]?)/\(s i).nm.size<=maxLen/\(s i).rx.size<=maxLen:=
  ⟨fun i=>if h:i<len then Classical.choose (hp i h) else ⟨⟨#[]⟩,0,⟨#[]⟩⟩,fun i h=>by
   have:=Classical.choose_spec (hp i h)
   simp only[dif_pos h]
   exact this⟩
 obtain⟨s,hs⟩:=eo;refine⟨(List.range len).map s,by simp,?_,hl,hm,fun j hj=>by simp at hj⊢;exact (hs j hj).2⟩;intro h0;simp at h0;have JU:spot=none:=by
  have:=(hs 0 h0).1 0 (by omega);simpa [Addr.add,eD] using World.cell?_spot this
 subst JU;have dB:∀i,i<len->∀j,j<3->w.cell? ⟨b,off+(i*3+j),none⟩=(eD (s i))[j]?:=fun i hi j hj=>by
  have:=(hs i hi).1 j hj;rw[zne] at this;exact this
 refine⟨b,off,rfl,?_,fun j hj=>?_⟩
 ·have:=dB 0 h0 0 (by omega);by_cases hb:b<w.heap.size
  ·exact hb
  simp[World.cell?,eD,Array.getElem?_eq_none (by omega:w.heap.size<=b)] at this
 simp at hj;have h1:=dB (j / 3) (by omega) (j % 3) (by omega);rw[show j / 3*3+j % 3=j by omega] at h1;rw[h1];have h2:=OT ((List.range len).map s) (j / 3) (by simp;omega) (j % 3) (by omega);rw[show j / 3*3+j % 3=j by omega] at h2;rw[h2];simp
