import Derived.Test.YtjehgdjlncofeaaGreatZPDvS
set_option linter.unusedVariables false
set_option linter.unusedSimpArgs false
set_option maxHeartbeats 8000000
set_option maxRecDepth 100000
open Go.Lib (hid)
namespace Go.Proofs.YtjehgdjlncofeaaGreat
open Go.RowKit Go.Maps Go.WideElems Go.ChangeMaps Go.MapKept
structure MnI (D:Dd) (C N:Nat) (Wb:World) (B0:Nat) (pb:List Nat) (b:Nat) (T:List Nat) (gT cT:Nat) (P:Pt) (v:Nat->Value) (vS:Value) (aS:Option Addr) (q cS:Nat) (L8:List Nat) (cd:Nat) (wr:World):Prop where
 pm:PtM Wb B0 pb b v vS P wr
 ql:L8.length=q
 oS:wr.ownsRow Wb.heap.size 3 1 (.slice aS q cS) q (zai L8)
 sS:∀g,(Value.slice aS q cS).ownBlock=some g->g∉pblks b v vS
 oT:wr.ownsRow Wb.heap.size 3 1 (.slice (some ⟨gT,0,none⟩) T.length cT) T.length (zai T)
 sT:gT∉pblks b v vS
 sST:(Value.slice aS q cS).ownBlock≠some gT
 tn:T.Nodup
 tl:∀x∈T,x<N
 hop:HopI N C (tD D) (mD D) P cd (fun z=>z∈T)
 mks:∀x y,x<N->y<N->P.b x=P.b y->mD D x=mD D y
section
variable {D : Dd}{C N B0 b gT cT q cS cd : Nat}{Wb wr : World}{pb T L8 : List Nat}{P : Pt}{v : Nat → Value}{vS : Value}{aS : Option Addr}
theorem MnI.sz (h:MnI D C N Wb B0 pb b T gT cT P v vS aS q cS L8 cd wr):Wb.heap.size<=wr.heap.size:=h.pm.below.size
theorem MnI.keep {w1:World}(h:MnI D C N Wb B0 pb b T gT cT P v vS aS q cS L8 cd wr) (k:Below wr.heap.size wr w1):MnI D C N Wb B0 pb b T gT cT P v vS aS q cS L8 cd w1:=
 ⟨h.pm.keep k,h.ql,zab h.oS k,h.sS,zab h.oT k,h.sT,h.sST,h.tn,h.tl,h.hop,h.mks⟩
theorem zhp (a:Option Addr) (n c n':Nat):(Value.slice a n c).ownBlock=(Value.slice a n' c).ownBlock:=by cases a <;> rfl
theorem MnI.add {w5:World}{l:List Nat}{a:Option Addr}{c:Nat}(h:MnI D C N Wb B0 pb b T gT cT P v vS aS q cS L8 cd wr) (hc:Col9 wr Wb.heap.size (Value.slice aS 0 cS).ownBlock.toList l (.slice a l.length c) w5):
  MnI D C N Wb B0 pb b T gT cT P v vS a l.length c l cd w5:=by
 have hls:∀x∈(Value.slice aS 0 cS).ownBlock.toList,(Value.slice aS q cS).ownBlock=some x:=fun x hx=>by
  rw[zhp aS q cS 0];simpa using hx
 have hloc:∀g,(Value.slice a l.length c).ownBlock=some g->(Value.slice aS q cS).ownBlock=some g\/wr.heap.size<=g:=fun g e=>by
  rcases hc.loc g e with h1|h1
  ·exact Or.inl (hls g h1)
  ·exact Or.inr h1
 have hB:Below B0 wr w5:=hc.below.mono h.pm.lo.2
 refine⟨h.pm.kept9 hc.kept hB (fun x hx=>h.sS x (hls x hx)) (fun x hx=>Or.inl (zas h.oS x (hls x hx))),rfl,hc.own,fun g e=>?_,zal h.oT hc.kept (by simp) (fun g e hm=>?_),h.sT,fun e=>?_,h.tn,h.tl,h.hop,h.mks⟩
 ·rcases hloc g e with h1|h1
  ·exact h.sS g h1
  ·exact fun hm=>by have:=h.pm.blt g hm;omega
 ·have:=hls g hm
  simp[Value.ownBlock] at e
  rw[<-e] at this
  exact h.sST this
 ·rcases hloc gT e with h1|h1
  ·exact h.sST h1
  ·have:=zaE h.oT gT rfl;omega
theorem MnI.call (h:MnI D C N Wb B0 pb b T gT cT P v vS aS q cS L8 cd wr) (hN:N<=100000) (hn:L8.Nodup) (hl:∀x∈L8,x<N):
  Calls Tryz.prog 126 #[.pointer (some ⟨b,0,none⟩),.slice aS q cS] wr (zjg wr B0 (pblks b v vS) b (divF P L8)):=
 zd9 N hN wr B0 b (pblks b v vS) v vS P wr h.pm.start h.hop.pz L8 q h.ql hn hl aS cS (za7 h.oS h.ql) (fun ad e=>h.sS ad.block (by rw[e];rfl))
theorem MnI.div {w6:World}{v':Nat->Value}{vS':Value}(h:MnI D C N Wb B0 pb b T gT cT P v vS aS q cS L8 cd wr) (hN:D.n+1=N) (hR:DR D C) (hcd:cd<C) (hn:L8.Nodup) (hl:∀x,x∈L8↔x<N/\tD D x cd∈T) (h6:PtM wr B0 (pblks b v vS) b v' vS' (divF P L8) w6):
  MnI D C N Wb B0 pb b T gT cT (divF P L8) v' vS' aS q cS L8 (cd+1) w6:=by
 have hlN:∀x∈L8,x<N:=fun x hx=>((hl x).1 hx).1
 have ht:∀x c,x<N->c<C->tD D x c<N:=fun x c _ hc=>by rw[<-hN];exact zh9 hR x c hc
 have far:∀g,g<wr.heap.size->g∉pblks b v vS->g∉pblks b v' vS':=fun g h1 h2 hm=>by
  rcases h6.blks g hm with h3|h3
  ·exact h2 h3
  ·omega
 have hd:=zfl h.hop.pz L8 hn hlN
 refine⟨h.pm.back h6,h.ql,zal h.oS h6.kept (by simp) h.sS,fun g e=>far g (zaE h.oS g e) (h.sS g e),zal h.oT h6.kept (by simp) (fun g e=>?_),far gT (zaE h.oT gT rfl) h.sT,h.sST,h.tn,h.tl,h.hop.class hcd ht L8 hn hl,fun x y hx hy hb=>h.mks x y hx hy ((hd.b x y hx hy).1 hb).1⟩
 simp[Value.ownBlock] at e
 rw[<-e]
 exact h.sT
structure MnZ (D:Dd) (C N:Nat) (Wb:World) (B0:Nat) (pb:List Nat) (b:Nat) (P:Pt) (v:Nat->Value) (vS:Value) (aS:Option Addr) (q cS:Nat) (L8:List Nat) (wr:World):Prop where
 pm:PtM Wb B0 pb b v vS P wr
 ql:L8.length=q
 oS:wr.ownsRow Wb.heap.size 3 1 (.slice aS q cS) q (zai L8)
 sS:∀g,(Value.slice aS q cS).ownBlock=some g->g∉pblks b v vS
 hop:HopI N C (tD D) (mD D) P C (fun _=>False)
 mks:∀x y,x<N->y<N->P.b x=P.b y->mD D x=mD D y
theorem MnI.all (h:MnI D C N Wb B0 pb b T gT cT P v vS aS q cS L8 C wr):MnZ D C N Wb B0 pb b P v vS aS q cS L8 wr:=
 ⟨h.pm,h.ql,h.oS,h.sS,⟨h.hop.pz,h.hop.sat,fun _ _ _ _ _=>Iff.rfl,fun x y hx hy hb c hc=>by
  rcases h.hop.hop x y hx hy hb c hc with h1|h1
  ·exact Or.inl h1
  ·omega⟩,h.mks⟩
theorem MnZ.call (h:MnZ D C N Wb B0 pb b P v vS aS q cS L8 wr) (hN:N<=100000):Calls Tryz.prog 128 #[.pointer (some ⟨b,0,none⟩)] wr (zdA wr B0 (pblks b v vS) b P wr):=
 zlm N hN wr B0 b (pblks b v vS) v vS P wr h.pm.start h.hop.pz
theorem MnZ.take {w6:World}{v':Nat->Value}{vS':Value}{g c:Nat}(h:MnZ D C N Wb B0 pb b P v vS aS q cS L8 wr) (hN:D.n+1=N) (hR:DR D C) (hne:P.L 4≠[]) (hB:Below B0 wr w6) (ho:w6.ownsRow wr.heap.size 3 1 (.slice (some ⟨g,0,none⟩) (takT P).length c) (takT P).length (zai (takT P))) (h6:PtM wr B0 (pblks b v vS) b v' vS' (takP P) w6) (hg:g∉pblks b v' vS'):
  MnI D C N Wb B0 pb b (takT P) g c (takP P) v' vS' aS q cS L8 0 w6/\0<(takT P).length/\(takP P).mu N+1=P.mu N:=by
 have ht:∀x c,x<N->c<C->tD D x c<N:=fun x c _ hc=>by rw[<-hN];exact zh9 hR x c hc
 obtain⟨t1,t2,t3,t4,t5,t6,t7,t8⟩:=h.hop.take hne ht
 have far:∀g,g<wr.heap.size->g∉pblks b v vS->g∉pblks b v' vS':=fun g h1 h2 hm=>by
  rcases h6.blks g hm with h3|h3
  ·exact h2 h3
  ·omega
 refine⟨⟨h.pm.back h6,h.ql,zal h.oS h6.kept (by simp) h.sS,fun g e=>far g (zaE h.oS g e) (h.sS g e),zag ho h.pm.below.size,hg,fun e=>?_,t4,fun x hx=>((t5 x).1 hx).1,t6,fun x y hx hy hb=>h.mks x y hx hy (by rw[<-t8,<-t8];exact hb)⟩,?_,t7⟩
 ·have h1:=zaE h.oS g e
  have h2:=zas ho g rfl
  omega
 ·unfold takT
  have hl:=h.hop.pz.1.l0
  simp
  omega
theorem MnZ.none {w6:World}{v':Nat->Value}{vS':Value}(h:MnZ D C N Wb B0 pb b P v vS aS q cS L8 wr) (h6:PtM wr B0 (pblks b v vS) b v' vS' P w6):MnZ D C N Wb B0 pb b P v' vS' aS q cS L8 w6:=by
 refine⟨h.pm.back h6,h.ql,zal h.oS h6.kept (by simp) h.sS,fun g e hm=>?_,h.hop,h.mks⟩
 rcases h6.blks g hm with h3|h3
 ·exact h.sS g e h3
 ·have:=zaE h.oS g e;omega
end
def DvR (D:Dd) (C N:Nat) (Wb:World) (B0:Nat) (pb:List Nat) (b:Nat) (v8 v9:Value) (wq:World):Prop:=
 ∃(aS:Option Addr) (q cS:Nat),v8=.slice aS q cS/\q<=N/\((v9=.slice none 0 0/\∃P v vS L8,MnZ D C N Wb B0 pb b P v vS aS q cS L8 wq/\P.L 4=[])\/
  ∃gT m cT,v9=.slice (some ⟨gT,0,none⟩) m cT/\0<m/\m<=N/\∃T P v vS L8,T.length=m/\MnI D C N Wb B0 pb b T gT cT P v vS aS q cS L8 0 wq)
theorem MnZ.tak {D:Dd}{C N B0 b q cS:Nat}{Wb wr w6:World}{pb L8:List Nat}{P:Pt}{v:Nat->Value}{vS:Value}{aS:Option Addr}{e:Ending}(h:MnZ D C N Wb B0 pb b P v vS aS q cS L8 wr) (hN:D.n+1=N) (hR:DR D C) (hq:q<=N) (ht:zdA wr B0 (pblks b v vS) b P wr e w6):
  ∃v9,e=.returned v9/\DvR D C N Wb B0 pb b (.slice aS q cS) v9 w6/\muW b N v9 w6=P.mu N:=by
 rcases ht with ⟨h1,rfl,v',vS',h2⟩|⟨h1,g,c,v',vS',rfl,ho,h2,hg⟩
 ·have hz:=h.none h2
  exact⟨_,rfl,⟨aS,q,cS,rfl,hq,Or.inl ⟨rfl,P,v',vS',L8,hz,h1⟩⟩,by rw[zjn hz.pm];rfl⟩
 ·obtain⟨hi,hl,hm⟩:=h.take hN hR h1 h2.below ho h2 hg
  refine⟨_,rfl,⟨aS,q,cS,rfl,hq,Or.inr ⟨g,_,c,rfl,hl,zax hi.tn hi.tl,takT P,takP P,v',vS',L8,rfl,hi⟩⟩,?_⟩
  rw[zjn hi.pm,<-hm]
  show _+(if (takT P).length=0 then 0 else 1)=_
  rw[if_neg (by omega)]
theorem zjr (a:Option Addr) (n c:Nat) (W:World):(binOp .neq 30 (.slice a n c) (.slice none 0 0)).run Tryz.prog W=.ok (.bool a.isSome) W:=by
 have h:=run_equal_slice_nil W 30 3 a n c Tryz.underlying30
 unfold binOp
 simp only[Sem.run_bind,h,Result.andThen_ok,Sem.run_pure]
 cases a <;> rfl
theorem zib (D:Dd) (C:Nat) (hR:DR D C) (w:World) (hD:DM w D) (hBy:∀W,DM W D->Calls Tryz.prog 125 #[.agg D.cD] W (zjm D W)):
  Calls Tryz.prog 93 #[.agg D.cD] w (zgp D C w):=by
 have hn2:=hR.n2
 have hC6:=(hR.c256 hD.kl).2
 obtain⟨N,hN⟩:∃N,D.n+1=N:=⟨_,rfl⟩
 have hN5:N<=100000:=by omega
 have HBy:=hid hBy
 have HB:=hid (And.intro (DBx.new hD) (And.intro (al w (.cells D.cD 39)) (And.intro hR hN)))
 have HWh:Hid (∀W,Calls Tryz.prog 124 #[.int .i64 ((D.n:Int)+1)] W (zjE N W)):=fun W=>by
  have:=zjF N hN5 W
  rw[<-hN] at this⊢
  exact this
 clear hD hR hN hBy
 go_enter Tryz.func93,Tryz.ntmps93
 go_upto_region 1 with fail
 generalize w.alloc (.cells D.cD 39)=W0 at HB⊢
 obtain⟨b0,hb0⟩:∃b0,w.heap.size=b0:=⟨_,rfl⟩
 have Hb0:=hid hb0
 rw[hb0] at HB
 rw[hb0]
 clear hb0
 have f1:=HB.out.1.f1
 go_wp2_with fail
 refine (HWh.out _).mono ?_
 rintro e w1 ⟨b,v,vS,rfl,hP1,bw1,hge1⟩
 have HD1:=hid (And.intro (HB.out.1.keep bw1) (HB.out.2.1.trans (bw1.mono (by have:=HB.out.2.1.size;have:=Hb0.out;omega))))
 have HP1:=hid (And.intro hP1 hge1)
 have hw1:Hid (w.heap.size<=w1.heap.size/\w.heap.size<=W0.heap.size/\Below W0.heap.size W0 w1):=⟨by have:=HD1.out.2.size;have:=Hb0.out;omega,by have:=HB.out.2.1.size;have:=Hb0.out;omega,bw1⟩
 clear hP1 bw1 hge1 f1
 go_wp2_with (refine zad (by rfl) 39 _ rfl ⟨b0,0,none⟩ rfl D.cD _ HD1.out.1.st.part Tryz.underlying39 rfl HD1.out.1.dm.info ?_)
 refine (HBy.out _ HD1.out.1.dm).mono ?_
 rintro e w2 ⟨ms,aM,cM,A,Cp,rfl,hms0,hall,hmn,b2,oM,oR⟩
 obtain⟨nm,hnm⟩:∃nm,ms.length=nm:=⟨_,rfl⟩
 rw[hnm] at hmn oM
 have HM:=hid (And.intro hms0 (And.intro hall (And.intro hnm (And.intro oM oR))))
 have HD2:=hid (And.intro (HD1.out.1.keep b2) (HD1.out.2.trans (b2.mono (by have:=hw1.out.1;have:=Hb0.out;omega))))
 have HP2:Hid (PtM w2 W0.heap.size (pblks b v vS) b v vS (wholeP N) w2/\∀x∈pblks b v vS,W0.heap.size<=x/\x<w1.heap.size):=⟨(HP1.out.1.keep b2).start.congr (fun i hi=>rfl) rfl,fun x hx=>⟨HP1.out.2 x hx,HP1.out.1.blt x hx⟩⟩
 have Hsz:Hid (w1.heap.size<=w2.heap.size/\Below W0.heap.size W0 w2):=⟨b2.size,hw1.out.2.2.trans (b2.mono hw1.out.2.2.size)⟩
 rw[hnm]
 clear hms0 hall hnm b2 oM oR HP1
 go_wp2_with fail
 go_loopw [5,20] (fun _ vj wr=>∃j:Nat,vj=.int .i64 j/\j<=nm/\Hid (∃v' vS' P,PtM w2 W0.heap.size (pblks b v vS) b v' vS' P wr/\MkI D C P (ms.take j))) (fun _ v _=>nm-(intOf v).toNat)
 case atStart=>exact⟨0,rfl,Nat.zero_le _,v,vS,wholeP N,HP2.out.1,by rw[<-HB.out.2.2.2];exact MkI.start D C⟩
 case round=>
  obtain⟨j,rfl,hj,HL⟩:=hrel
  by_cases hlt:j<nm
  ·obtain⟨v',vS',P,hP,hI⟩:=HL.out
   have hjm:j<ms.length:=by rw[HM.out.2.2.1];exact hlt
   obtain⟨μ,hμ⟩:∃μ,ms.getD j 0=μ:=⟨_,rfl⟩
   have hμ0:0<=μ:=by
    rw[<-hμ,zaH _ _ _ hjm]
    exact HM.out.1 _ (List.getElem_mem hjm)
   have oRj:=HM.out.2.2.2.2 j hjm
   rw[hμ] at oRj
   have oM2:=HM.out.2.2.2.1
   have oMr:=zal oM2 hP.kept (by simp) (fun g e hm=>by have h1:=zas oM2 g e;have h2:=(HP2.out.2 g hm).2;omega)
   obtain⟨gM,rfl,_,_,cMr⟩:=zae oMr (by omega)
   have d0:=(cMr j (by omega)).1
   rw[List.getElem?_map,List.getElem?_range (by omega)] at d0
   replace d0:wr.cell? ⟨gM,j,none⟩=some (.slice (A j) (mkL D (ms.getD j 0)).length (Cp j)):=d0
   rw[hμ] at d0
   obtain⟨q,hq⟩:∃q,(mkL D μ).length=q:=⟨_,rfl⟩
   rw[hq] at d0 oRj
   have hqn:q<=D.n:=by rw[<-hq];exact znc D μ
   have oRr:=zal oRj hP.kept (by simp) (fun g e hm=>by have h1:=zas oRj g e;have h2:=(HP2.out.2 g hm).2;omega)
   have hPs:=hP.start
   have hnot:∀ad,A j=some ad->ad.block∉pblks b v' vS':=fun ad e hm=>by
    have e1:(Value.slice (A j) q (Cp j)).ownBlock=some ad.block:=by rw[e];rfl
    have h1:=zas oRj _ e1
    have h3:=zaE oRj _ e1
    rcases hP.blks _ hm with h2|h2
    ·have:=(HP2.out.2 _ h2).2;omega
    ·omega
   have HC:=hid (zd9 N hN5 wr W0.heap.size b (pblks b v' vS') v' vS' P wr hPs (by rw[<-HB.out.2.2.2];exact hI.h.pz) (mkL D μ) q hq (zcx D μ) (fun x hx=>by have:=((zeN D μ x).1 hx).1;have:=HB.out.2.2.2;omega) (A j) (Cp j) (za7 oRr hq) hnot)
   have HI:Hid (MkI D C (divF P (mkL D μ)) (ms.take (j+1))):=by
    have h:=hI.step HB.out.2.2.1 μ hμ0
    have e:ms.take (j+1)=ms.take j++[μ]:=by
     rw[List.take_add_one,List.getElem?_eq_getElem hjm,<-hμ,zaH _ _ _ hjm];rfl
    show MkI D C _ (ms.take (j+1))
    rw[e]
    exact h
   have HPr:=hid hP
   have i1:(j:Int)<(nm:Int):=by omega
   clear hP hI oRj oM2 oMr cMr hμ hq oRr hPs hnot HL
   go_wp2_with fail
   refine HC.out.mono ?_
   rintro e w5 ⟨v5,vS5,rfl,hP5⟩
   have HP5:=hid (HPr.out.back hP5)
   clear hP5 HC HPr d0
   go_wp2_with fail
   go_roundw
   case rel=>exact⟨j+1,by go_num,by omega,v5,vS5,_,HP5.out,HI.out⟩
   case measure=>simp[intOf];omega
  ·obtain rfl:j=nm:=by omega
   obtain⟨v3,vS3,P3,hP3,hI3⟩:=HL.out
   rw[List.take_of_length_le (by rw[HM.out.2.2.1];exact Nat.le_refl _)] at hI3
   have hx9:=HP2.out.2
   have HI3:Hid (HopI N C (tD D) (mD D) P3 C (fun _=>False)/\(∀x y,x<N->y<N->P3.b x=P3.b y->mD D x=mD D y)/\P3.mu N=D.n):=by
    refine⟨by rw[<-HB.out.2.2.2];exact hI3.h,?_,by rw[<-HB.out.2.2.2];exact hI3.mu⟩
    rw[<-HB.out.2.2.2]
    exact hI3.done HB.out.2.2.1 HM.out.1 HM.out.2.1
   have bel3:Below W0.heap.size W0 wr:=Hsz.out.2.trans hP3.below
   obtain⟨W3,hW3⟩:∃W3,W3=wr:=⟨wr,rfl⟩
   have HP3:Hid (PtM W3 W0.heap.size (pblks b v3 vS3) b v3 vS3 P3 W3):=by rw[hW3];exact hP3.start
   have HD3:Hid (DBx wr b0 D/\Below W0.heap.size W0 wr):=⟨HB.out.1.keep bel3,bel3⟩
   clear hP3 hI3 hx9 bel3 HL HP2 HM HD2 HD1
   go_wp2_with (refine zad (by rfl) 36 _ rfl ⟨b0,0,none⟩ rfl (clsOf D.K) _ HD3.out.1.clsPart Tryz.underlying36 rfl (zaK D.K) ?_)
   refine (zbo D.K C HB.out.2.2.1.c HB.out.1.dm.kl _).mono ?_
   rintro e w4 ⟨rfl,b4⟩
   have H4:Hid (BkI D N W3 0 (.slice none 0 0) (fun _=>0) (fun _=>0) (fun _ _=>0) (fun _ _=>0) w4):=by
    rw[hW3]
    exact⟨b4,World.ownsRow_nil _ _ _ _,fun i hi=>absurd hi (by omega),fun i hi=>absurd hi (by omega),fun i hi=>absurd hi (by omega)⟩
   rw[<-hW3] at HD3
   clear hW3 b4
   go_wp2_with fail
   go_loopw [6,7,31] (fun v6 _ vc wq=>∃(c:Nat) (aB:Option Addr) (cB:Nat),vc=.int .i64 c/\c<=C/\v6=.slice aB c cB/\Hid (∃gF gX f x,BkI D N W3 c (.slice aB c cB) gF gX f x wq)) (fun _ _ v _=>C-(intOf v).toNat)
   case atStart=>exact⟨0,none,0,rfl,Nat.zero_le _,rfl,_,_,_,_,H4.out⟩
   case round=>
    obtain⟨c,aB,cB,rfl,hc,rfl,HK⟩:=hrel
    by_cases hlc:c<C
    ·obtain⟨gF,gX,f,x,hK⟩:=HK.out
     have HDq:=hid (HD3.out.1.keep hK.below)
     have HC:=hid (zeK D C HB.out.2.2.1 c hlc wr HDq.out.dm)
     have HKq:=hid hK
     have i1:(c:Int)<(C:Int):=by omega
     obtain⟨i0,hi,hz0,hz1,hz2⟩:=info_parts Tryz.info_rev9
     clear hK HK
     go_wp2_with (refine zad (by rfl) 39 _ rfl ⟨b0,0,none⟩ rfl D.cD _ HDq.out.st.part Tryz.underlying39 rfl HDq.out.dm.info ?_)
     refine HC.out.mono ?_
     rintro e w5 ⟨pF,pX,fc,xc,rfl,oF,oX,hL,b5⟩
     rw[HB.out.2.2.2] at oF oX hL⊢
     have hK5:=HKq.out.keep b5
     have hO:=hK5.own
     have hlo:=hK5.below.size
     have H5:=hid (And.intro hK5 (And.intro (zag oF HKq.out.below.size) (And.intro (zag oX HKq.out.below.size) hL)))
     clear oF oX hL b5 hK5 HC HDq
     go_wp2_with (at_builtin;refine wpList_append_own_at _ rfl _ _ 176 rfl W3.heap.size 178 i0 (.agg #[.slice none 0 0,.slice none 0 0]) 2 48 Tryz.underlying176 hi hz0 hz1 hz2 rfl (by decide) _ _ _ rfl (hO.alloc _) ⟨w5.heap.size,0,none⟩ 1 1 [.slice (some ⟨pF,0,none⟩) N N,.slice (some ⟨pX,0,none⟩) N N] rfl rfl (cell_two_new _ _ _ _) ?d2 ?d3 ?d4 ?d5 ?_)
     case d2=>intro u hu;simp at hu;rcases hu with rfl|rfl <;> rfl
     case d3=>unfold maxLen;omega
     case d4=>omega
     case d5=>first|(simp;omega)|omega
     intro v6 w6 hown6 hgrow6 _ hat6
     obtain⟨a6,c6,rfl⟩:=zaa hown6
     have H6:Hid (∃gF gX f x,BkI D N W3 (c+1) (.slice a6 (c+1) c6) gF gX f x w6):=by
      have k:=al w5 (.cells #[.slice (some ⟨pF,0,none⟩) N N,.slice (some ⟨pX,0,none⟩) N N] 178)
      exact⟨_,_,_,_,(H5.out.1.keep k).app (zab H5.out.2.1 k) (zab H5.out.2.2.1 k) H5.out.2.2.2 hown6 hgrow6⟩
     clear hown6 hgrow6 hat6 hO H5 HKq
     go_wp2_with fail
     go_roundw
     case rel=>exact⟨c+1,a6,c6,by go_num,by omega,rfl,H6.out⟩
     case measure=>simp[intOf];omega
    ·obtain rfl:c=C:=by omega
     obtain⟨gF,gX,f,x,hK⟩:=HK.out
     obtain⟨Wb,hWb⟩:∃Wb,Wb=wr:=⟨wr,rfl⟩
     have HK9:Hid (BkI D N W3 c (.slice aB c cB) gF gX f x Wb):=by rw[hWb];exact hK
     have hPb:PtM Wb W0.heap.size (pblks b v3 vS3) b v3 vS3 P3 Wb:=by rw[hWb];exact (HP3.out.keep hK.below).start
     have HZ0:Hid (MnZ D c N Wb W0.heap.size (pblks b v3 vS3) b P3 v3 vS3 none 0 0 [] Wb):=⟨hPb,rfl,World.ownsRow_nil _ _ _ _,fun g e=>by simp[Value.ownBlock] at e,HI3.out.1,HI3.out.2.1⟩
     have HDb:Hid (DBx Wb b0 D/\Below W0.heap.size W0 Wb/\(∀y∈pblks b v3 vS3,y<W3.heap.size)):=by rw[hWb];exact⟨HD3.out.1.keep hK.below,HD3.out.2.trans (hK.below.mono HD3.out.2.size),HP3.out.blt⟩
     have HT:=hid (HZ0.out.call hN5)
     rw[<-hWb]
     clear hPb hK hWb HK HD3
     go_wp2_with fail
     refine HT.out.mono ?_
     rintro e w6 h6
     obtain⟨v9,rfl,hR9,hM9⟩:=HZ0.out.tak HB.out.2.2.2 HB.out.2.2.1 (Nat.zero_le _) h6
     have HR9:=hid hR9
     have hnn:=zjr
     clear hR9 hM9 h6 HT
     go_wp2_with fail
     go_loopw [8,9,11,49] (fun v8 v9 _ _ wq=>DvR D c N Wb W0.heap.size (pblks b v3 vS3) b v8 v9 wq) (fun _ v9 _ _ wq=>muW b N v9 wq)
     case atStart=>exact HR9.out
     case round=>
      clear HR9
      obtain⟨aS,q,cS,rfl,hq,hR⟩:=hrel
      rcases hR with ⟨rfl,P,v5,vS5,L8,hZ,hL4⟩|⟨gT,m,cT,rfl,hm0,hmN,T,P,v5,vS5,L8,hTm,hI⟩
      ·have b2:=hZ.pm.c2.1
       have hl2:=hZ.hop.pz.1.l2
       obtain⟨a2,c2,e2⟩:=hZ.pm.sl0 2 (by omega) hl2
       have HF:Hid (zgp D c w (.returned (.slice a2 N c2)) wr):=by
        have ho:=hZ.pm.row 2 (by omega)
        rw[hl2,e2] at ho
        have hc2:N<=c2:=by
         rcases ho.2 with ⟨h1,h0⟩|⟨_,cap,_,h1,_,_,h2,_⟩
         ·have:=HB.out.2.2.2;omega
         ·injection h1 with _ e1 e3;omega
        have hw0:=hw1.out.2.1
        refine⟨P.L 2,a2,c2,?_,?_,?_,?_,?_,?_,?_⟩
        ·rw[HB.out.2.2.2]
        ·rw[HB.out.2.2.2];exact hl2
        ·rw[HB.out.2.2.2]
         intro x hx
         obtain⟨i,hi,e⟩:=List.getElem_of_mem hx
         have h1:=(hZ.hop.pz.1.bk i (by omega)).1
         have h2:=hZ.hop.pz.1.len
         have h3:P.b i=x:=by
          show (P.L 2).getD i 0=x
          rw[List.getD_eq_getElem?_getD,List.getElem?_eq_getElem hi]
          exact e
         omega
        ·rw[HB.out.2.2.2];exact hc2
        ·rw[HB.out.2.2.2];exact zag ho hw0
        ·rw[HB.out.2.2.2]
         exact hZ.hop.done hL4 (fun x d _ hd=>by rw[<-HB.out.2.2.2];exact zh9 HB.out.2.2.1 x d hd) hZ.mks
        ·have hb0:=Hb0.out
         have h1:Below w.heap.size w Wb:=by rw[hb0];exact HB.out.2.1.trans (HDb.out.2.1.mono (by omega))
         exact h1.trans (hZ.pm.below.mono hw0)
       rw[e2] at b2
       clear hZ hl2 e2
       go_wp2_with fail
       go_ret
       exact HF.out
      ·obtain⟨mu0,hmu0⟩:∃mu0,P.mu N=mu0:=⟨_,rfl⟩
       have Hmu:Hid (muW b N (.slice (some ⟨gT,0,none⟩) m cT) wr=mu0+1):=by
        show _=_
        rw[zjn hI.pm,hmu0]
        show _+(if m=0 then 0 else 1)=_
        rw[if_neg (by omega)]
       have HI0:Hid (∃P v vS L8,P.mu N=mu0/\MnI D c N Wb W0.heap.size (pblks b v3 vS3) b T gT cT P v vS aS q cS L8 0 wr):=⟨P,v5,vS5,L8,hmu0,hI⟩
       have HTm:=hid hTm
       clear hI hmu0 hTm
       go_wp2_with fail
       obtain⟨W8,hW8⟩:∃W8,W8=wr:=⟨wr,rfl⟩
       clear hW8 W8
       go_loopw [8,11,49] (fun v8 _ vi wq=>∃(i:Nat) (aS:Option Addr) (q cS:Nat),vi=.int .i64 i/\i<=c/\v8=.slice aS q cS/\q<=N/\Hid (∃P v vS L8,P.mu N=mu0/\MnI D c N Wb W0.heap.size (pblks b v3 vS3) b T gT cT P v vS aS q cS L8 i wq)) (fun _ _ v _=>c-(intOf v).toNat)
       case atStart=>exact⟨0,aS,q,cS,rfl,Nat.zero_le _,rfl,hq,HI0.out⟩
       case round=>
        obtain⟨i,aS,q,cS,rfl,hi,rfl,hq,HL2⟩:=hrel
        by_cases hli:i<c
        ·obtain⟨P,v5,vS5,L8,hmu0,hI⟩:=HL2.out
         have oB2:=zal HK9.out.own hI.pm.kept (by simp) (fun g e hm=>by have h1:=zas HK9.out.own g e;have:=HDb.out.2.2 g hm;omega)
         obtain⟨gB,rfl,_,_,cB0⟩:=zae oB2 (by omega)
         have d0:=(cB0 (i*2) (by omega)).1
         have d1:=(cB0 (i*2+1) (by omega)).1
         rw[(zmk N gF gX c i hli).1] at d0
         rw[(zmk N gF gX c i hli).2] at d1
         have HIw:=hid (And.intro hmu0 hI)
         have i1:(i:Int)<(c:Int):=by omega
         obtain⟨pF,hpF⟩:∃pF,gF i=pF:=⟨_,rfl⟩
         obtain⟨pX,hpX⟩:∃pX,gX i=pX:=⟨_,rfl⟩
         rw[hpF] at d0
         rw[hpX] at d1
         have Hp:=hid (And.intro hpF hpX)
         clear oB2 cB0 hmu0 hI hpF hpX HL2
         go_upto_region 20 with fail
         obtain⟨W5,hW5⟩:∃W5,wr.alloc (.cells #[.slice (some ⟨pF,0,none⟩) N N,.slice (some ⟨pX,0,none⟩) N N] 178)=W5:=⟨_,rfl⟩
         obtain⟨bR,hbR⟩:∃bR,wr.heap.size=bR:=⟨_,rfl⟩
         have hSt:St W5 178 bR #[.slice (some ⟨pF,0,none⟩) N N,.slice (some ⟨pX,0,none⟩) N N]:=by rw[<-hW5,<-hbR];exact St.new _ _ _
         have hI5:MnI D c N Wb W0.heap.size (pblks b v3 vS3) b T gT cT P v5 vS5 aS q cS L8 i W5:=by rw[<-hW5];exact HIw.out.2.keep (al wr _)
         rw[hW5,hbR]
         clear hW5 hbR
         have r0:W5.cell? ⟨bR,0,none⟩=some (.slice (some ⟨pF,0,none⟩) N N):=hSt.at_ 0
         have r1:W5.cell? ⟨bR,1,none⟩=some (.slice (some ⟨pX,0,none⟩) N N):=hSt.at_ 1
         have HI5:=hid hI5
         have hq0:(0:Int)<=(cS:Int):=by omega
         clear hI5 hSt d0 d1
         go_still_tail 4,(by kernel_rfl)
         change wpList _ _ _ _ _ W5.drew
         have HC:Hid (Calls Tryz.prog 129 #[.agg #[.slice (some ⟨pF,0,none⟩) N N,.slice (some ⟨pX,0,none⟩) N N],.slice aS 0 cS,.slice (some ⟨gT,0,none⟩) m cT] W5.drew (zeM Wb.heap.size (Value.slice aS 0 cS).ownBlock.toList (srcs (fun k=>tD D k i) N T) W5.drew)):=by
          have hI6:=HI5.out.keep (Below.refl W5.heap.size W5).drew
          have oF:=zal (HK9.out.F i hli) hI6.pm.kept (by simp) (fun g e hm=>by have h1:=zas (HK9.out.F i hli) g e;have:=HDb.out.2.2 g hm;omega)
          have oX:=zal (HK9.out.X i hli) hI6.pm.kept (by simp) (fun g e hm=>by have h1:=zas (HK9.out.X i hli) g e;have:=HDb.out.2.2 g hm;omega)
          have hF:=zaE (HK9.out.F i hli) (gF i) rfl
          have hX:=zaE (HK9.out.X i hli) (gX i) rfl
          rw[Hp.out.1] at oF hF
          rw[Hp.out.2] at oX hX
          have hls:∀g∈(Value.slice aS 0 cS).ownBlock.toList,(Value.slice aS q cS).ownBlock=some g:=fun g hg=>by rw[zhp aS q cS 0];simpa using hg
          have hoT:=hI6.oT
          have e9:=HTm.out
          refine zk4 N hN5 (fun k=>tD D k i) (fun k hk=>by rw[<-HB.out.2.2.2];exact zh9 HB.out.2.2.1 k i hli) (f i) (x i) (HK9.out.L i hli) pF pX Wb.heap.size W3.heap.size aS cS T m e9 hI6.tn hI6.tl (some ⟨gT,0,none⟩) cT W5.drew oF oX (zg3 hI6.oS) hI6.sz (za7 hoT rfl) _ rfl (fun hm=>?_) (fun hm=>?_) (fun ad e hm=>?_)
          ·have:=zas hI6.oS pF (hls _ hm);omega
          ·have:=zas hI6.oS pX (hls _ hm);omega
          ·have e2:gT=ad.block:=by injection e with e;rw[<-e]
           rw[<-e2] at hm
           exact hI6.sST (hls _ hm)
         have HI6:Hid (MnI D c N Wb W0.heap.size (pblks b v3 vS3) b T gT cT P v5 vS5 aS q cS L8 i W5.drew):=HI5.out.keep (Below.refl W5.heap.size W5).drew
         generalize W5.drew=W6 at HC HI6⊢
         clear r0 r1 HI5
         go_wp2_with fail
         refine HC.out.mono ?_
         rintro e w7 ⟨a7,c7,rfl,hcol⟩
         have hI7:=HI6.out.add hcol
         obtain⟨L9,hL9⟩:∃L9,srcs (fun k=>tD D k i) N T=L9:=⟨_,rfl⟩
         have hnd9:L9.Nodup:=by rw[<-hL9];exact zea _ _ _ HI6.out.tn
         have hm9:∀z,z∈L9↔z<N/\tD D z i∈T:=fun z=>by rw[<-hL9];exact zeL _ _ _ z
         rw[hL9] at hI7⊢
         obtain⟨q9,hq9⟩:∃q9,L9.length=q9:=⟨_,rfl⟩
         rw[hq9] at hI7⊢
         have hq9N:q9<=N:=by rw[<-hq9];exact zax hnd9 (fun z hz=>((hm9 z).1 hz).1)
         have HC7:=hid (hI7.call hN5 hnd9 (fun z hz=>((hm9 z).1 hz).1))
         have HI7:=hid (And.intro hI7 (And.intro hnd9 hm9))
         clear hcol hI7 hnd9 hm9 hL9 hq9 HC
         go_wp2_with fail
         refine HC7.out.mono ?_
         rintro e w8 ⟨v8,vS8,rfl,hP8⟩
         have HI8:Hid (∃P v vS L8,P.mu N=mu0/\MnI D c N Wb W0.heap.size (pblks b v3 vS3) b T gT cT P v vS a7 q9 c7 L8 (i+1) w8):=by
          refine⟨_,v8,vS8,L9,?_,HI7.out.1.div HB.out.2.2.2 HB.out.2.2.1 hli HI7.out.2.1 HI7.out.2.2 hP8⟩
          rw[HopI.mu HI7.out.1.hop.pz L9 HI7.out.2.1 (fun z hz=>((HI7.out.2.2 z).1 hz).1)]
          exact HIw.out.1
         clear hP8 HC7
         go_wp2_with fail
         go_roundw
         case rel=>exact⟨i+1,a7,q9,c7,by go_num,by omega,rfl,hq9N,HI8.out⟩
         case measure=>simp[intOf];omega
        ·obtain rfl:i=c:=by omega
         obtain⟨P,v5,vS5,L8,hmu0,hI⟩:=HL2.out
         have hZ:=hI.all
         have HT:=hid (hZ.call hN5)
         have HZ:=hid (And.intro hZ hmu0)
         clear hI hZ HL2 hmu0
         go_wp2_with fail
         refine HT.out.mono ?_
         rintro e w6 h6
         obtain⟨v9',rfl,hR9,hM9⟩:=HZ.out.1.tak HB.out.2.2.2 HB.out.2.2.1 hq h6
         have HR9:=hid (And.intro hR9 hM9)
         clear h6 hR9 hM9 HT
         go_wp2_with fail
         go_roundw
         case rel=>exact HR9.out.1
         case measure=>
          show muW b N _ _<muW b N _ _
          have h1:=HR9.out.2
          have h2:=Hmu.out
          have h3:=HZ.out.2
          omega
end Go.Proofs.YtjehgdjlncofeaaGreat
