import Derived.Test.YtbacgnhkapancaaGreatZQRLaw
set_option linter.all false
set_option maxRecDepth 100000
namespace Go.Proofs.YtbacgnhkapancaaGreat
open Go.ChangeShapes Go.WideShapes Go.ChangeAt Go.RowKit Go.Deep
theorem zlQ{H:Type}{enc:TypeId × Value->H}{w:World}{base fuel:Nat}{spare:Nat->Bool}{held:Bool}{cs:List Value}{x:DataW H × List MemPlace}(hlen:cs.length=3)
  (h:DataW.trod enc Tryz.prog w base spare held fuel 33 cs=some x):∃p:Ru,cs=eo p/\p.nm.size<=maxLen/\p.rx.size<=maxLen:=by
 have c3:Tryz.prog.cellsOf 3=1:=by kernel_rfl
 have c4:Tryz.prog.cellsOf 9=1:=by kernel_rfl
 obtain⟨ys,n',hn',hy,hl,hyl,hf⟩:=DataW.trod_struct Tryz.underlying33 h;have f0:=hf 0 _ rfl;have f1:=hf 1 _ rfl;have f2:=hf 2 _ rfl
 match cs,hlen with
 | [v0,v1,v2],_=>
  simp[c3,c4] at f0 f1 f2
  match ys,hyl with
  | [y0,y1,y2],_=>
   simp at f0 f1 f2;obtain⟨s,e0,_,hs⟩:=DataW.trod_string Tryz.underlying9 f0;obtain⟨r,e1,_⟩:=DataW.trod_int Tryz.underlying3 f1;obtain⟨p,e2,_,hp⟩:=DataW.trod_string Tryz.underlying9 f2;simp at e0 e1 e2;subst e0 e1 e2;exact⟨⟨s,r,p⟩,rfl,hs,hp⟩
theorem zj8{H:Type}{enc:TypeId × Value->H}{w:World}{base fuel:Nat}{spare:Nat->Bool}{held:Bool}{a:Option Addr}{len cap:Nat}{x:DataW H × List MemPlace}
  (h:DataW.trod enc Tryz.prog w base spare held fuel 22 [.slice a len cap]=some x):∃l:List Ru,l.length=len/\gH w a l/\len<=cap/\cap<=maxLen/\∀j (h:j<l.length),l[j].nm.size<=maxLen/\l[j].rx.size<=maxLen:=by
 rcases open_slice Tryz.underlying22 h with ⟨mm,_⟩|⟨ad,l,c,m,n,D,Pl,mm,hb,hl,hm,iQ,hx,hi⟩
 ·simp at mm;obtain⟨rfl,rfl,rfl⟩:=mm;exact⟨[],rfl,fun h=>absurd h (by simp),Nat.le_refl _,by unfold maxLen;omega,fun j h=>absurd h (by simp)⟩
 simp at mm;obtain⟨rfl,rfl,rfl⟩:=mm;have h7:Tryz.prog.cellsOf 33=3:=by kernel_rfl
 have hp:∀i,i<len->∃p:Ru,(∀j,j<3->w.cell? (ad.add (i*3+j))=(eo p)[j]?)/\p.nm.size<=maxLen/\p.rx.size<=maxLen:=by
  intro i him;obtain⟨ix,hc,ht⟩:=hi i (by rw[iQ];split <;> omega);rw[h7] at hc;obtain⟨_,fW,eZ⟩:=World.cells?_some hc;obtain⟨p,rfl,hs⟩:=zlQ fW ht;refine⟨p,fun j hj=>?_,hs⟩;rw[<-Go.Deep.add_add];exact eZ j hj
 obtain⟨b,off,spot⟩:=ad;have eb:∃s:Nat->Ru,∀i,i<len->(∀j,j<3->w.cell? ((⟨b,off,spot⟩:Addr).add (i*3+j))=(eo (s i))[j]?)/\(s i).nm.size<=maxLen/\(s i).rx.size<=maxLen:=
  ⟨fun i=>if h:i<len then Classical.choose (hp i h) else ⟨⟨#[]⟩,0,⟨#[]⟩⟩,fun i h=>by
   have:=Classical.choose_spec (hp i h)
   simp only[dif_pos h]
   exact this⟩
 obtain⟨s,hs⟩:=eb;refine⟨(List.range len).map s,by simp,?_,hl,hm,fun j hj=>by simp at hj⊢;exact (hs j hj).2⟩;intro h0;simp at h0;have Gi:spot=none:=by
  have:=(hs 0 h0).1 0 (by omega);simpa [Addr.add,eo] using World.cell?_spot this
 subst Gi;have dv:∀i,i<len->∀j,j<3->w.cell? ⟨b,off+(i*3+j),none⟩=(eo (s i))[j]?:=fun i hi j hj=>by
  have:=(hs i hi).1 j hj;rw[zn3] at this;exact this
 refine⟨b,off,rfl,?_,fun j hj=>?_⟩
 ·have:=dv 0 h0 0 (by omega);by_cases hb:b<w.heap.size
  ·exact hb
  simp[World.cell?,eo,Array.getElem?_eq_none (by omega:w.heap.size<=b)] at this
 simp at hj;have h1:=dv (j / 3) (by omega) (j % 3) (by omega);rw[show j / 3*3+j % 3=j by omega] at h1;rw[h1];have h2:=Qz ((List.range len).map s) (j / 3) (by simp;omega) (j % 3) (by omega);rw[show j / 3*3+j % 3=j by omega] at h2;rw[h2];simp
end Go.Proofs.YtbacgnhkapancaaGreat
namespace Go.Proofs.YtbacgnhkapancaaGreat.rulesCheck
open Go.ChangeShapes Go.WideShapes Go.ChangeAt Go.RowKit Go.Deep
theorem lifted(os:Os)(started:os.Started)(H:Type)(enc:TypeId × Value->H):
  ReturnsInHanded {} Tryz.checked os 3 .any (Rows.rulesCheckSpec.pre6 enc Tryz.prog Tryz.f3 Rows.rulesCheckRow.domain false) (Rows.rulesCheckSpec.post enc Tryz.prog Tryz.f3 false true false false):=by
 refine returnsInHanded_of_change (C:=Tryz.checked) own started (by kernel_rfl) Tryz.func3
  (ChangeSpec.witness6 (enc:=enc) (C:=Tryz.checked) false ⟨#[],#[.slice none 0 0,.string .empty],[]⟩ 8 (by kernel_rfl) (by kernel_rfl) (by kernel_rfl) (by kernel_rfl)) ?_
 intro W base args ds gs before AB hW hcnd _;have wQ:∀(j:Nat) t v,Tryz.f3.params[j]?=some t->args[j]?=some v->Value.okWide Tryz.prog W .any base t v:=AB;have hW':=hW;obtain⟨p,q,XH,hV,rfl,hfz,jr⟩:=hW;have hA:DataW.TrodAll enc Tryz.prog W 0 (fun _=>true) true Tryz.f3.params.toList args.toList ds p:=XH;rw[Tryz.params3] at hA wQ;obtain⟨v0,vs0,d0,ds0,p0,q0,Wg,rfl,rfl,h0,r0⟩:=trodAll_cons hA;obtain⟨v1,vs1,d1,ds1,p1,q1,rfl,rfl,rfl,h1,r1⟩:=trodAll_cons r0;obtain⟨rfl,rfl,rfl⟩:=trodAll_nil r1;obtain rfl:args=#[v0,v1]:=by cases args;simp_all
 obtain⟨rfl,rfl⟩:=trodVars_none hV;obtain⟨a0,n0,c0,rfl⟩:=okWide_slice Tryz.underlying22 (wQ 0 22 v0 rfl rfl);have k0:=h0;have lt0:∀x∈p0,x.block<W.heap.size:=by obtain⟨m,hm⟩:=k0;exact DataW.trod_lt m _ _ _ hm
 obtain⟨A0,PJ,rm,Pj,Oz,du⟩:=(by obtain⟨fuel,hf⟩:=h0;exact zj8 (by simpa [Value.cells] using hf):∃l:List Ru,l.length=n0/\gH W a0 l/\n0<=c0/\c0<=maxLen/\∀j (h:j<l.length),l[j].nm.size<=maxLen/\l[j].rx.size<=maxLen)
 obtain⟨s1,rfl,rfl,rfl,kI⟩:=Go.ChangeMaps.open_string Tryz.underlying9 (wQ 1 9 v1 rfl rfl) h1;have Sn:=kI;clear XH AB;unfold maxLen at Oz du Sn;refine (zeF n0 c0 a0 A0 s1 PJ (by omega) Pj W rm).mono fun e W' ⟨he,bb⟩=>?_
 subst he;exact⟨_,rfl,_,_,_,[],_,[],hW',trodAll_mk1 (shut_bool Tryz.underlying4 _),(trodAll_cons_mk (Below.trod laidOut (by kernel_rfl) (of_decide_eq_true (by kernel_rfl)) k0 bb lt0) (trodAll_cons_mk (Go.ChangeMaps.shut_string Tryz.underlying9 kI) trodAll_mk0)),rfl,bb.frame _,fun h=>by cases h⟩
theorem over:Rows.rulesCheckRow.holds Tryz.pinned (OpenSpec.ofChange Rows.rulesCheckSpec):=
 OpenClaim.holds_of_wide 3 Tryz.f3 rfl rfl rfl rfl rfl rfl rfl ⟨rfl,rfl,rfl,rfl,rfl⟩ rfl rfl rfl rfl rfl (by kernel_rfl) Tryz.func3 (by kernel_rfl)
  (of_decide_eq_true (by kernel_rfl)) (by unfold Func.isWrapper;first|(rw[if_pos (by decide +kernel)];kernel_rfl)|(rw[if_neg (by decide +kernel)];exact⟨rfl,rfl⟩))
  (fun os started H enc _=>lifted os started H enc)
theorem proved:Rows.RulesCheckSaid:=over
end Go.Proofs.YtbacgnhkapancaaGreat.rulesCheck
