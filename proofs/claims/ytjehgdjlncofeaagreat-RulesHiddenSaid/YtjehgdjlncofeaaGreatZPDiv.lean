import Derived.Test.YtjehgdjlncofeaaGreatZPAux
set_option linter.unusedVariables false
set_option linter.unusedSimpArgs false
set_option maxHeartbeats 4000000
set_option maxRecDepth 100000
open Go.Lib (hid)
namespace Go.Proofs.YtjehgdjlncofeaaGreat
open Go.RowKit Go.Maps Go.WideElems Go.ChangeMaps Go.MapKept
def zm9 (V:World) (B:Nat) (bs:List Nat) (b:Nat) (v0:Nat->Value) (P:Pt) (e:Ending) (w':World):Prop:=∃v vS,e=.returned (.tuple #[])/\v 3=v0 3/\PtM V B bs b v vS P w'
structure zn3 (P:Pt) (k:Nat):Prop where
 b:k<P.sp.length
 fg:(P.s k).f<=(P.s k).g
 h:(P.s k).f+(P.s k).h<=(P.s k).g
 g:(P.s k).g<=(P.L 0).length
 part:∀x∈P.part k,x<(P.L 2).length
 n0:(P.L 0).length<=100000
 ns:P.sp.length<=100000
 n4:(P.L 4).length<=100000
theorem Tryz.info_span9:(Tryz.prog.info? 198).map (fun i=>(i.zero,i.size,i.bytes))=some (some (.agg #[.int .i64 0,.int .i64 0,.int .i64 0,.bool false]),4,32):=by kernel_rfl
theorem zgn (l xs:List Nat) (x n:Nat):setAll l (xs++[x]) n=(setAll l xs n).set x n:=by simp[setAll,List.foldl_append]
theorem zna (P:Pt) (k j:Nat) (hj:j<(P.s k).h):(P.part k).getD j 0=(P.L 0).getD ((P.s k).f+j) 0:=by
 unfold Pt.part
 rw[List.getD_eq_getElem?_getD,List.getElem?_take_of_lt hj,List.getElem?_drop,List.getD_eq_getElem?_getD]
theorem zce (l:List Nat) (j:Nat) (h:j<l.length):l.take (j+1)=l.take j++[l.getD j 0]:=by
 rw[List.take_add_one,List.getElem?_eq_getElem h,zaH _ _ _ h];rfl
theorem znb (V:World) (B b:Nat) (bs:List Nat) (v:Nat->Value) (vS:Value) (P:Pt) (w:World) (h:PtM V B bs b v vS P w) (k:Nat) (ok:zn3 P k):
  Calls Tryz.prog 152 #[.pointer (some ⟨b,0,none⟩),.int .i64 (k:Int)] w (zm9 V B bs b v (cutF P k)):=by
 have hkl:=ok.b
 obtain⟨nS,hnS⟩:∃nS,P.sp.length=nS:=⟨_,rfl⟩
 obtain⟨gS,cS,eS⟩:=h.slS hnS (by omega)
 have aS:=h.cellS.1
 obtain⟨f,hf⟩:∃f,(P.s k).f=f:=⟨_,rfl⟩
 obtain⟨g,hg⟩:∃g,(P.s k).g=g:=⟨_,rfl⟩
 obtain⟨hh,hhe⟩:∃hh,(P.s k).h=hh:=⟨_,rfl⟩
 obtain⟨wt,hwt⟩:∃wt,(P.s k).w=wt:=⟨_,rfl⟩
 obtain⟨d1,d2,d3,d4,d5,d6,d7⟩:=h.sp9 eS k hkl
 rw[hf] at d1
 rw[hg] at d2
 rw[hhe] at d3
 rw[hwt] at d4
 rw[eS] at aS
 have o1:=ok.fg
 have o2:=ok.h
 have o3:=ok.g
 have o4:=ok.n0
 rw[hf,hg] at o1
 rw[hf,hhe,hg] at o2
 rw[hg] at o3
 have iS:(k:Int)<(nS:Int):=by omega
 have h1:=h.putS eS k 2 ⟨f,g,0,wt⟩ hkl (by omega) (fun k' hk' hn=>by
  have:k'=0\/k'=1\/k'=3:=by omega
  rcases this with rfl|rfl|rfl
  ·show fld _ 0=Value.int .i64 (((P.s k).f:Nat):Int);rw[hf];rfl
  ·show fld _ 1=Value.int .i64 (((P.s k).g:Nat):Int);rw[hg];rfl
  ·show fld _ 3=Value.bool (P.s k).w;rw[hwt];rfl)
 replace h1:PtM V B bs b v vS ⟨P.L,P.sp.set k ⟨f,g,0,wt⟩⟩ (w.setCell ⟨gS,k*4+2,none⟩ (.int .i64 0)):=h1
 obtain⟨x1,x2,x3,x4,x5,x6,x7⟩:=h1.sp9 eS k (by simpa using hkl)
 rw[Pt.s_set _ _ _ _ _ hkl,if_pos rfl] at x1 x2 x3 x4
 have HS:=hid (And.intro hf (And.intro hg (And.intro hhe (And.intro hwt (And.intro eS hnS)))))
 have H1:=hid h1
 have Hok:=hid ok
 have i1:(g:Int)-(f:Int)<=100000:=by omega
 have i2:0<=(g:Int)-(f:Int):=by omega
 clear h ok hf hg hhe hwt eS hnS h1
 go_enter Tryz.func152,Tryz.ntmps152
 go_upto_region 3 with fail
 generalize w.setCell ⟨gS,k*4+2,none⟩ (.int .i64 0)=W1 at H1 x1 x2 x3 x4 x5 x6 x7⊢
 clear d1 d2 d3 d4 d5 d6 d7 aS
 by_cases hfull:hh=g-f
 ·have hq:((hh:Int) == (g:Int)-(f:Int))=true:=by rw[beq_iff_eq];omega
  have HF:Hid (PtM V B bs b v vS (cutF P k) W1):=by
   show PtM V B bs b v vS (cutF P k) W1
   have e:cutF P k=⟨P.L,P.sp.set k ⟨f,g,0,wt⟩⟩:=by
    unfold cutF
    rw[HS.out.1,HS.out.2.1,HS.out.2.2.1,HS.out.2.2.2.1,if_pos hfull]
   rw[e]
   exact H1.out
  clear hfull
  go_quiet (fail)
  go_wp2_with fail
  refine bodyPost_ret (results_none rfl _ _ _) rfl ?_
  exact⟨v,vS,rfl,rfl,HF.out.keep (below_drewN (Below.refl _ _) _)⟩
 ·have hq:((hh:Int) == (g:Int)-(f:Int))=false:=by rw[beq_eq_false_iff_ne];omega
  have Hfull:=hid hfull
  clear hfull
  go_quiet (fail)
  go_upto_region 4 with fail
  generalize hW2:W1.drewN _=W2
  have H2:Hid (PtM V B bs b v vS ⟨P.L,P.sp.set k ⟨f,g,0,wt⟩⟩ W2):=by rw[<-hW2];exact H1.out.keep (below_drewN (Below.refl _ _) _)
  replace x1:W2.cell? ⟨gS,k*4,none⟩=some (.int .i64 (f:Int)):=by rw[<-hW2];exact x1
  have hgS:gS<W2.heap.size:=by
   have:=zaE H2.out.spn gS (by rw[HS.out.2.2.2.2.1];rfl)
   exact this
  have x1a:(W2.alloc (.cells #[.int .i64 0,.int .i64 0,.int .i64 0,.bool false] 198)).cell? ⟨gS,k*4,none⟩=some (.int .i64 (f:Int)):=((al W2 (.cells #[.int .i64 0,.int .i64 0,.int .i64 0,.bool false] 198)).cell (p:=⟨gS,k*4,none⟩) hgS).trans x1
  clear hW2 H1 x2 x3 x4 x5 x6 x7 hq
  obtain⟨fh,hfh⟩:∃fh,f+hh=fh:=⟨_,rfl⟩
  have Hfh:=hid hfh
  have its:(f:Int)+(hh:Int)=(fh:Int):=by omega
  have o5:fh<=g:=by omega
  have o6:f<=fh:=by omega
  have o7:fh<(P.L 0).length:=by have:=Hfull.out;omega
  have w1:(fh:Int)<=100000:=by omega
  clear hfh
  go_region
  obtain⟨bC,hbC⟩:∃bC,W2.heap.size=bC:=⟨_,rfl⟩
  have hC4:St (W2.alloc (.cells #[.int .i64 (f:Int),.int .i64 (fh:Int),.int .i64 0,.bool false] 198)).drew 198 bC #[.int .i64 (f:Int),.int .i64 (fh:Int),.int .i64 0,.bool false]:=by rw[<-hbC];exact (St.new W2 _ _).drew
  have hP4:PtM V B bs b v vS ⟨P.L,P.sp.set k ⟨f,g,0,wt⟩⟩ (W2.alloc (.cells #[.int .i64 (f:Int),.int .i64 (fh:Int),.int .i64 0,.bool false] 198)).drew:=(H2.out.keep (al W2 _)).keep (Below.refl _ _).drew
  rw[hbC] at hgS⊢
  generalize (W2.alloc (.cells #[.int .i64 (f:Int),.int .i64 (fh:Int),.int .i64 0,.bool false] 198)).drew=W4 at hC4 hP4⊢
  clear hbC H2 x1 x1a
  obtain⟨x1,x2,x3,x4,x5,x6,x7⟩:=hP4.sp9 HS.out.2.2.2.2.1 k (by simpa using hkl)
  rw[Pt.s_set _ _ _ _ _ hkl,if_pos rfl] at x1
  obtain⟨y0,y1,y2,y3⟩:=hC4.cells4
  have hP5:=hP4.putS HS.out.2.2.2.2.1 k 0 ⟨fh,g,0,wt⟩ (by simpa using hkl) (by omega) (fun k' hk' hn=>by
   rw[Pt.s_set _ _ _ _ _ hkl,if_pos rfl]
   have:k'=1\/k'=2\/k'=3:=by omega
   rcases this with rfl|rfl|rfl <;> rfl)
  rw[zk2] at hP5
  replace hP5:PtM V B bs b v vS ⟨P.L,P.sp.set k ⟨fh,g,0,wt⟩⟩ (W4.setCell ⟨gS,k*4,none⟩ (.int .i64 (fh:Int))):=hP5
  have hC5:St (W4.setCell ⟨gS,k*4,none⟩ (.int .i64 (fh:Int))) 198 bC #[.int .i64 (f:Int),.int .i64 (fh:Int),.int .i64 0,.bool false]:=hC4.far (p:=⟨gS,k*4,none⟩) (fun e=>by
   have:bC=gS:=e
   omega) _
  have H5:=hid (And.intro hP5 hC5)
  clear hP4 hC4 hP5 hC5
  go_upto_region 6 with fail
  generalize W4.setCell ⟨gS,k*4,none⟩ (.int .i64 (fh:Int))=W5 at H5⊢
  clear x1 x2 x3 x4 x5 x6 x7 y0 y1 y2 y3 hgS
  have aS:=H5.out.1.cellS.1
  rw[HS.out.2.2.2.2.1] at aS
  obtain⟨m0,hm0⟩:∃m0,(P.L 0).length=m0:=⟨_,rfl⟩
  rw[hm0] at o3 o4 o7
  obtain⟨g0,c0,e0⟩:=H5.out.1.sl 0 (by omega) hm0 (by omega)
  have b0:=H5.out.1.c0.1
  rw[e0] at b0
  have hc0:m0<=c0:=by
   have ho:=H5.out.1.row 0 (by omega)
   rw[e0] at ho
   rcases ho.2 with ⟨h1,_⟩|⟨_,cap,_,h1,_,_,h2,_⟩
   ·cases h1
   ·injection h1 with _ e1 e2
    have h3:(P.L 0).length<=cap:=h2
    omega
  obtain⟨y0,y1,y2,y3⟩:=H5.out.2.cells4
  have He0:=hid (And.intro e0 hm0)
  clear e0 hm0
  have p1:(fh:Int)<=(c0:Int):=by omega
  have p2:(f:Int)<=(fh:Int):=by omega
  have p3:(f:Int)<(c0:Int):=by omega
  have hn:fh-f=hh:=by have:=Hfh.out;omega
  go_upto_region 7 with fail
  go_quiet (fail)
  generalize hW6:W5.drewN _=W6
  have H6:Hid (PtM V B bs b v vS ⟨P.L,P.sp.set k ⟨fh,g,0,wt⟩⟩ W6/\St W6 198 bC #[.int .i64 (f:Int),.int .i64 (fh:Int),.int .i64 0,.bool false]):=by rw[<-hW6];exact⟨H5.out.1.keep (below_drewN (Below.refl _ _) _),H5.out.2⟩
  clear hW6 H5 y0 y1 y2 y3 b0 aS
  have hpl:(P.part k).length=hh:=by
   unfold Pt.part
   rw[HS.out.1,HS.out.2.2.1,List.length_take,List.length_drop,He0.out.2]
   have:=Hfh.out
   omega
  have Hpl:=hid hpl
  clear hpl
  go_wp2_with fail
  clear hn
  go_loopw [9,65] (fun _ vj wr=>∃j:Nat,vj=.int .i64 j/\j<=hh/\Hid (PtM V B bs b v vS ⟨up9 P.L 2 (setAll (P.L 2) ((P.part k).take j) nS),P.sp.set k ⟨fh,g,0,wt⟩⟩ wr/\St wr 198 bC #[.int .i64 (f:Int),.int .i64 (fh:Int),.int .i64 0,.bool false])) (fun _ v _=>hh-(intOf v).toNat)
  case atStart=>
   refine⟨0,rfl,Nat.zero_le _,H6.out.1.congr (fun i hi=>?_) rfl,H6.out.2⟩
   show P.L i=up9 P.L 2 (setAll (P.L 2) ((P.part k).take 0) nS) i
   rw[List.take_zero]
   unfold up9 setAll
   split
   ·rename_i e;rw[e];rfl
   ·rfl
  case round=>
   clear H6
   obtain⟨j,rfl,hj,HL⟩:=hrel
   by_cases hlt:j<hh
   ·obtain⟨x,hx⟩:∃x,(P.part k).getD j 0=x:=⟨_,rfl⟩
    have hxl:x<(P.L 2).length:=by
     rw[<-hx,zaH _ _ _ (by rw[Hpl.out];exact hlt)]
     exact Hok.out.part _ (List.getElem_mem _)
    have hx2:(P.L 0).getD (f+j) 0=x:=by
     rw[<-hx,zna P k j (by rw[HS.out.2.2.1];exact hlt),HS.out.1]
    obtain⟨L8,hL8⟩:∃L8,up9 P.L 2 (setAll (P.L 2) ((P.part k).take j) nS)=L8:=⟨_,rfl⟩
    have l0:L8 0=P.L 0:=by rw[<-hL8];exact zdu _ _ _ _ (by omega)
    have l2:L8 2=setAll (P.L 2) ((P.part k).take j) nS:=by rw[<-hL8];exact zcd _ _ _
    have hP:PtM V B bs b v vS ⟨L8,P.sp.set k ⟨fh,g,0,wt⟩⟩ wr:=by rw[<-hL8];exact HL.out.1
    have hC:=HL.out.2
    have r0:=(hP.at9 0 (by omega) (g:=g0) (n:=m0) (c:=c0) He0.out.1 (f+j) (by show f+j<(L8 0).length;rw[l0,He0.out.2];have:=Hfh.out;omega)).1
    replace r0:wr.cell? ⟨g0,f+j,none⟩=some (.int .i64 (((L8 0).getD (f+j) 0:Nat):Int)):=r0
    rw[l0,hx2] at r0
    obtain⟨n2,hn2⟩:∃n2,(P.L 2).length=n2:=⟨_,rfl⟩
    have l2n:(L8 2).length=n2:=by rw[l2,zd2];exact hn2
    rw[hn2] at hxl
    obtain⟨g2,c2,e2⟩:=hP.sl 2 (by omega) (q:=n2) l2n (by omega)
    have b2:=hP.c2.1
    rw[e2] at b2
    obtain⟨r1,r2⟩:=hP.at9 2 (by omega) e2 x (by show x<(L8 2).length;omega)
    have HN:Hid (PtM V B bs b v vS ⟨up9 P.L 2 (setAll (P.L 2) ((P.part k).take (j+1)) nS),P.sp.set k ⟨fh,g,0,wt⟩⟩ (wr.setCell ⟨g2,x,none⟩ (.int .i64 (nS:Int)))/\St (wr.setCell ⟨g2,x,none⟩ (.int .i64 (nS:Int))) 198 bC #[.int .i64 (f:Int),.int .i64 (fh:Int),.int .i64 0,.bool false]):=by
     have q:=hP.put 2 (by omega) e2 x nS (by show x<(L8 2).length;omega)
     refine⟨q.congr (fun i hi=>?_) rfl,hC.far (p:=⟨g2,x,none⟩) (fun e=>?_) _⟩
     ·show up9 L8 2 ((L8 2).set x nS) i=up9 P.L 2 (setAll (P.L 2) ((P.part k).take (j+1)) nS) i
      rw[l2,zce _ _ (by rw[Hpl.out];exact hlt),hx,zgn,<-hL8]
      unfold up9
      split <;> rfl
     ·have ho:=hP.row 2 (by omega)
      have e9:bC=g2:=e
      exact zaq ho hC (by decide) g2 (by rw[e2];rfl) e9.symm
    obtain⟨yb,r3⟩:∃yb,wr.cell? ⟨g2,x,none⟩=some (.int .i64 ((yb:Nat):Int)):=⟨_,r1⟩
    have i3:(x:Int)<(n2:Int):=by omega
    have i4:(j:Int)<(hh:Int):=by omega
    clear hx hx2 hL8 l0 l2 hP hC hn2 l2n e2 r1
    go_wp2_with fail
    go_roundw
    case rel=>exact⟨j+1,by go_num,by omega,HN.out⟩
    case measure=>simp[intOf];omega
   ·obtain rfl:j=hh:=by omega
    have hP:PtM V B bs b v vS ⟨up9 P.L 2 (setAll (P.L 2) (P.part k) nS),P.sp.set k ⟨fh,g,0,wt⟩⟩ wr:=by
     have:=HL.out.1
     rw[List.take_of_length_le (by rw[Hpl.out];exact Nat.le_refl _)] at this
     exact this
    have H9:=hid (And.intro hP HL.out.2)
    obtain⟨bk,hbk⟩:∃bk,P.blk k=bk:=⟨_,rfl⟩
    have hblk:bk=if wt=true\/j<=g-fh then nS else k:=by
     rw[<-hbk]
     unfold Pt.blk
     rw[HS.out.1,HS.out.2.1,HS.out.2.2.1,HS.out.2.2.2.1,HS.out.2.2.2.2.2,Hfh.out]
    have Hbk:=hid hbk
    obtain⟨x1,x2,_,x4,_,_,_⟩:=hP.sp9 HS.out.2.2.2.2.1 k (by show k<(P.sp.set k _).length;rw[List.length_set];exact hkl)
    rw[Pt.s_set _ _ _ _ _ hkl,if_pos rfl] at x1 x2 x4
    clear hP hbk HL
    go_upto_region 12 with fail
    obtain⟨q,hq⟩:∃q:Bool,decide (wt=true\/j<=g-fh)=q:=⟨_,rfl⟩
    have Hq:=hid hq
    go_cut [93] from 77 to 92 (fun v93 wx=>v93=.bool q/\PtM V B bs b v vS ⟨up9 P.L 2 (setAll (P.L 2) (P.part k) nS),P.sp.set k ⟨fh,g,0,wt⟩⟩ wx/\St wx 198 bC #[.int .i64 (f:Int),.int .i64 (fh:Int),.int .i64 0,.bool false])
    case first=>
     have q1:(g:Int)-(fh:Int)<=100000:=by omega
     have q2:0<=(g:Int)-(fh:Int):=by omega
     rcases hw:wt with _|_
     ·rw[hw] at x4
      by_cases hle:j<=g-fh
      ·have hd:decide ((j:Int)<=(g:Int)-(fh:Int))=true:=by rw[decide_eq_true_iff];omega
       have He:Hid (q=true):=by show _=_;rw[<-hq];simp[hle]
       clear hblk hw hle hq
       go_quiet (fail)
       go_wp2_with fail
       go_meet
       exact⟨by rw[He.out],H9.out.1.keep (below_drewN (Below.refl _ _) _),H9.out.2⟩
      ·have hd:decide ((j:Int)<=(g:Int)-(fh:Int))=false:=by rw[decide_eq_false_iff_not];omega
       have He:Hid (q=false):=by show _=_;rw[<-hq,hw];simp;omega
       clear hblk hw hle hq
       go_quiet (fail)
       go_wp2_with fail
       go_meet
       exact⟨by rw[He.out],H9.out.1.keep (below_drewN (Below.refl _ _) _),H9.out.2⟩
     ·rw[hw] at x4
      have He:Hid (q=true):=by show _=_;rw[<-hq];simp[hw]
      clear hblk hw hq
      go_quiet (fail)
      go_wp2_with fail
      go_meet
      exact⟨by rw[He.out],H9.out.1.keep (below_drewN (Below.refl _ _) _),H9.out.2⟩
    case rest=>
     obtain⟨rfl,hP,hC⟩:=hcut
     clear x1 x2 x4 H9
     have H10:=hid (And.intro hP hC)
     clear hP hC
     have Hb2:=hid hblk
     clear hblk hq
     go_upto_if 93 with (fail)
     go_cut [1] from 93 to 94 (fun v1 wx=>v1=.int .i64 (bk:Int)/\wx=wc)
     case first=>
      rcases q with _|_
      ·have He:Hid (bk=k):=by show _=_;rw[Hb2.out,if_neg (by have:=Hq.out;rw[decide_eq_false_iff_not] at this;exact this)]
       go_wp2_with fail
       go_meet
       exact⟨by rw[He.out],rfl⟩
      ·have He:Hid (bk=nS):=by show _=_;rw[Hb2.out,if_pos (by have:=Hq.out;rw[decide_eq_true_iff] at this;exact this)]
       go_wp2_with fail
       go_meet
       exact⟨by rw[He.out],rfl⟩
     case rest=>
      obtain⟨rfl,rfl⟩:=hcut
      have hbkl:bk<nS+1:=by rw[Hb2.out];split <;> omega
      have Hns:Hid ((P.sp.set k ⟨fh,g,0,wt⟩).length=nS):=by show _=_;rw[List.length_set];exact HS.out.2.2.2.2.2
      have hO:=H10.out.1.spn
      replace hO:World.ownsRow wc B 198 4 vS (P.sp.set k ⟨fh,g,0,wt⟩).length (sps (P.sp.set k ⟨fh,g,0,wt⟩)):=hO
      rw[Hns.out,HS.out.2.2.2.2.1] at hO
      have aS:=H10.out.1.cellS.1
      rw[HS.out.2.2.2.2.1] at aS
      obtain⟨i0,hi,hz0,hz1,hz2⟩:=info_parts Tryz.info_span9
      obtain⟨y0,y1,y2,y3⟩:=H10.out.2.cells4
      have hstb:=H10.out.1.st
      have aS2:(wc.alloc (.cells #[.int .i64 (f:Int),.int .i64 (fh:Int),.int .i64 0,.bool false] 198)).cell? ⟨b,3,none⟩=some (.slice (some ⟨gS,0,none⟩) nS cS):=((al wc _).cell (p:=⟨b,3,none⟩) hstb.lt).trans aS
      have hV:=H10.out.1.hB
      have ns9:nS<=100000:=by have:=Hok.out.ns;rw[HS.out.2.2.2.2.2] at this;exact this
      have Hst:=hid hstb
      clear hstb
      go_upto_region 14 with fail
      go_cut [7] from 95 to 104 (fun v7 wx=>v7=.int .i64 (nS:Int)/\∃(a5:Option Addr) (c5:Nat),PtM V B bs b v (.slice a5 (nS+1) c5) ⟨up9 P.L 2 (setAll (P.L 2) (P.part k) nS),cutS P k⟩ wx)
      case first=>
       go_region_law (
        refine zaX (by rfl) _ _ _ (by rfl) B 198 i0 (.agg #[.int .i64 0,.int .i64 0,.int .i64 0,.bool false]) 4 32 Tryz.underlying181 hi hz0 hz1 hz2 (by rfl) (by decide) (.slice (some ⟨gS,0,none⟩) nS cS) nS (sps (P.sp.set k ⟨fh,g,0,wt⟩)) (by rfl) (by first|exact hO.drew.alloc _|exact (hO.alloc _).drew) ⟨wc.heap.size,0,none⟩ 1 1 [.int .i64 (f:Int),.int .i64 (fh:Int),.int .i64 0,.bool false] (by rfl) (by rfl) (World.news_of_block (cs:=#[.int .i64 (f:Int),.int .i64 (fh:Int),.int .i64 0,.bool false]) (by first|exact heap_alloc_new _ _|exact St.new _ _ _)) (by intro u hu;simp at hu;rcases hu with rfl|rfl|rfl|rfl <;> rfl) (by unfold maxLen;omega) (by omega) (by simp;omega) ?_
        intro v5 w5 hown5 hgrow5 hat5
        have hg5:(wc.alloc (.cells #[.int .i64 (f:Int),.int .i64 (fh:Int),.int .i64 0,.bool false] 198)).drew.grownBy w5 (Value.slice (some ⟨gS,0,none⟩) nS cS).ownBlock:=hgrow5
        have hst5:St w5 183 b (pcs9 v vS):=(Hst.out.alloc (.cells #[.int .i64 (f:Int),.int .i64 (fh:Int),.int .i64 0,.bool false] 198)).drew.grown_own (hO.alloc _).drew (by decide) hg5
        have e5:w5.cell? ⟨b,3,none⟩=some (.slice (some ⟨gS,0,none⟩) nS cS):=by rw[hst5.at_,<-HS.out.2.2.2.2.1];rfl
        have f5:=hst5.thaw_ 3
        obtain⟨a5,c5,rfl⟩:=zaa hown5)
       all_goals
        have hP14:PtM V B bs b v (.slice a5 (nS+1) c5) ⟨up9 P.L 2 (setAll (P.L 2) (P.part k) nS),cutS P k⟩ (w5.setCell ⟨b,3,none⟩ (.slice a5 (nS+1) c5)):=by
         have h2:PtM V B bs b v vS ⟨up9 P.L 2 (setAll (P.L 2) (P.part k) nS),P.sp.set k ⟨fh,g,0,wt⟩⟩ (wc.alloc (.cells #[.int .i64 (f:Int),.int .i64 (fh:Int),.int .i64 0,.bool false] 198)).drew:=(H10.out.1.keep (al wc _)).keep (Below.refl _ _).drew
         have h3:=h2.appS (v':=.slice a5 (nS+1) c5) (s:=⟨f,fh,0,false⟩) Hns.out hown5 (by rw[HS.out.2.2.2.2.1];exact hg5) (by
          rw[HS.out.2.2.2.2.1]
          rcases hat5 with h|h
          ·exact Or.inl h
          ·exact Or.inr (Or.inl h))
         have e:cutS P k=P.sp.set k ⟨fh,g,0,wt⟩++[⟨f,fh,0,false⟩]:=by
          unfold cutS
          rw[HS.out.1,HS.out.2.1,HS.out.2.2.1,HS.out.2.2.2.1,Hfh.out]
         rw[e]
         exact h3
        clear hown5 hgrow5 hat5 hg5 hst5 e5 f5
        go_wp2_with fail
        go_meet
        exact⟨rfl,a5,c5,hP14⟩
      case rest=>
       obtain⟨rfl,a5,c5,hP14⟩:=hcut
       clear aS aS2 y0 y1 y2 y3 hO
       have Hcl:Hid ((cutS P k).length=nS+1):=by show _=_;rw[zeB,HS.out.2.2.2.2.2]
       obtain⟨g5,c6,e6⟩:=hP14.slS (q:=nS+1) Hcl.out (by omega)
       rw[e6] at hP14
       have aS:=hP14.cellS.1
       obtain⟨x1,x2,x3,x4,x5,x6,x7⟩:=hP14.sp9 rfl bk (by show bk<(cutS P k).length;rw[Hcl.out];exact hbkl)
       have hP15:=hP14.putS rfl bk 3 ⟨((cutS P k).getD bk sp0).f,((cutS P k).getD bk sp0).g,((cutS P k).getD bk sp0).h,true⟩ (by show bk<(cutS P k).length;rw[Hcl.out];exact hbkl) (by omega) (fun k' hk' hn=>by
        have:k'=0\/k'=1\/k'=2:=by omega
        rcases this with rfl|rfl|rfl <;> rfl)
       replace hP15:PtM V B bs b v (.slice (some ⟨g5,0,none⟩) (nS+1) c6) ⟨up9 P.L 2 (setAll (P.L 2) (P.part k) nS),(cutS P k).set bk ⟨((cutS P k).getD bk sp0).f,((cutS P k).getD bk sp0).g,((cutS P k).getD bk sp0).h,true⟩⟩ (wc.setCell ⟨g5,bk*4+3,none⟩ (.bool true)):=hP15
       have x9:wc.cell? ⟨g5,bk*4+3,none⟩=some (.bool ((⟨up9 P.L 2 (setAll (P.L 2) (P.part k) nS),cutS P k⟩:Pt).s bk).w):=x4
       generalize ((⟨up9 P.L 2 (setAll (P.L 2) (P.part k) nS),cutS P k⟩:Pt).s bk).w=wb at x9
       have i9:(bk:Int)<(nS:Int)+1:=by omega
       have i8:bk<nS+1:=hbkl
       clear hP14 e6 x1 x2 x3 x4 x5 x6
       have HP15:=hid hP15
       clear hP15
       obtain⟨SP,hSP⟩:∃SP,(cutS P k).set bk ⟨((cutS P k).getD bk sp0).f,((cutS P k).getD bk sp0).g,((cutS P k).getD bk sp0).h,true⟩=SP:=⟨_,rfl⟩
       obtain⟨L9,hL9⟩:∃L9,up9 P.L 2 (setAll (P.L 2) (P.part k) nS)=L9:=⟨_,rfl⟩
       rw[hSP,hL9] at HP15
       have HSL:=hid (And.intro hSP hL9)
       have l4:L9 4=P.L 4:=by rw[<-hL9];exact zdu _ _ _ _ (by omega)
       clear hSP hL9
       go_upto_region 16 with fail
       generalize wc.setCell ⟨g5,bk*4+3,none⟩ (.bool true)=W15 at HP15⊢
       clear x7 x9 aS
       obtain⟨q,hq⟩:∃q,(P.L 4).length=q:=⟨_,rfl⟩
       have hO:=HP15.out.row 4 (by omega)
       replace hO:World.ownsRow W15 B 3 1 (v 4) (L9 4).length (zai (L9 4)):=hO
       obtain⟨a3,c3,e3⟩:=zaa hO
       have a4:W15.cell? ⟨b,5,none⟩=some (v 4):=HP15.out.c4.1
       rw[l4] at hO e3
       rw[hq] at hO e3
       rw[e3] at hO a4
       have hq5:q<=100000:=by have:=Hok.out.n4;omega
       have hV:=HP15.out.hB
       have He3:=hid e3
       have Hq4:=hid hq
       have Hl4:=hid l4
       obtain⟨i0,hi,hz0,hz1,hz2⟩:=info_parts Tryz.info_int9
       clear e3 hq l4
       go_wp2_with (at_builtin;refine wpList_append_own_at _ rfl _ _ 30 rfl B 3 i0 (.int .i64 0) 1 8 Tryz.underlying30 hi hz0 hz1 hz2 rfl (by decide) _ _ _ rfl (hO.alloc _) ⟨W15.heap.size,0,none⟩ 1 1 [.int .i64 (bk:Int)] rfl rfl (cell_one_new _ _ _) ?d2 ?d3 ?d4 ?d5 ?_)
       case d2=>intro u hu;simp at hu;subst hu;rfl
       case d3=>unfold maxLen;omega
       case d4=>omega
       case d5=>simp;omega
       intro v' w5 hown5 hgrow5 _ hat5
       have h2:=HP15.out.keep (al W15 (.cells #[.int .i64 (bk:Int)] 3))
       have hst5:=h2.st.grown_own (hO.alloc _) (by decide) hgrow5
       have p3:w5.cell? ⟨b,5,none⟩=some (.slice a3 q c3):=by rw[hst5.at_];show some (v 4)=_;rw[He3.out]
       have pf:=hst5.thaw_ 5
       have HF:Hid (PtM V B bs b (upv v 4 v') (.slice (some ⟨g5,0,none⟩) (nS+1) c6) (cutF P k) (w5.setCell ⟨b,5,none⟩ v')):=by
        have h3:=h2.app (v':=v') (x:=bk) 4 (by omega) (q:=q) (by show (L9 4).length=q;rw[Hl4.out];exact Hq4.out) (by show World.ownsRow _ _ _ _ _ _ (zai (L9 4)++_);rw[Hl4.out];exact hown5) (by rw[He3.out];exact hgrow5) (by
         rw[show (W15.alloc (.cells #[.int .i64 (bk:Int)] 3)).heap.size=W15.heap.size+1 by simp,He3.out]
         rcases hat5 with h|h
         ·exact Or.inl h
         ·exact Or.inr (Or.inl h))
        refine h3.congr (fun i hi=>?_) ?_
        ·unfold cutF
         rw[HS.out.1,HS.out.2.1,HS.out.2.2.1,if_neg Hfull.out]
         show up9 L9 4 (L9 4++[bk]) i=up9 (up9 P.L 2 (setAll (P.L 2) (P.part k) P.sp.length)) 4 (P.L 4++[P.blk k]) i
         rw[Hl4.out,Hbk.out,HS.out.2.2.2.2.2,HSL.out.2]
        ·unfold cutF
         rw[HS.out.1,HS.out.2.1,HS.out.2.2.1,if_neg Hfull.out]
         show SP=(cutS P k).set (P.blk k) _
         rw[<-HSL.out.1,Hbk.out]
       obtain⟨a5',c5',rfl⟩:=zaa hown5
       clear hown5 hgrow5 hat5 h2 hst5 hO a4
       go_wp2_with fail
       go_end0
       exact⟨upv v 4 (.slice a5' (q+1) c5'),_,rfl,rfl,HF.out⟩
theorem HitsR.ok {N:Nat}{P0 P:Pt}{l:List Nat}{x:Nat}(h:HitsR N P0 P l) (hN:N<=100000) (hx:x<N) (hn:x∉l):zn1 P x:=by
 obtain⟨⟨c1,c2,c3,c4⟩,_,_⟩:=zmd h.pi h.hit hx hn
 refine⟨c1,by rw[h.pi.l2];exact hx,by rw[h.pi.l0];exact c2,by rw[h.pi.l0];exact c3,by rw[h.pi.l1];exact hx,by rw[h.pi.l1];exact c4,by rw[h.pi.l0];exact hN,?_⟩
 have h1:(P.L 3).length<=P.sp.length:=zax h.hit.nd (fun b hb=>((h.hit.tc b).1 hb).1)
 have h2:=h.pi.len
 omega
theorem PI.open_le {N:Nat}{P:Pt}(h:PI N P):(P.L 4).length<=N:=Nat.le_trans (zax h.opn.1 (fun b hb=>((h.opn.2 b).1 hb).1)) h.len
theorem PI.cutok {N k:Nat}{P:Pt}(h:PI N P) (hN:N<=100000) (hk:k<P.sp.length):zn3 P k:=by
 obtain⟨s1,s2,s3,s4⟩:=h.sp k hk
 refine⟨hk,by omega,s3,by rw[h.l0];exact s2,fun x hx=>?_,by rw[h.l0];exact hN,by have:=h.len;omega,by have:=h.open_le;omega⟩
 rw[h.l2]
 unfold Pt.part at hx
 obtain⟨j,hj,e⟩:=List.getElem_of_mem hx
 rw[List.getElem_take,List.getElem_drop] at e
 have hj2:(P.s k).f+j<N:=by
  simp at hj
  have:=h.l0
  omega
 have:=(h.op _ hj2).1
 unfold Pt.o at this
 rw[zaH _ _ _ (by rw[h.l0];exact hj2),e] at this
 exact this
theorem LAt.kept9 {w w':World}{bs:List Nat}{a:Option Addr}{l:List Nat}(h:LAt w a l) (k:Kept [] bs w w') (hs:w.heap.size<=w'.heap.size) (hb:∀ad,a=some ad->ad.block∉bs):LAt w' a l:=by
 intro h0
 obtain⟨g,off,e,hg,hc⟩:=h h0
 refine⟨g,off,e,by omega,fun j hj=>?_⟩
 rw[k.cell9 (by have:=hb _ e;exact this) hg]
 exact hc j hj
theorem zd9 (N:Nat) (hN:N<=100000) (V:World) (B b:Nat) (bs:List Nat) (v:Nat->Value) (vS:Value) (P:Pt) (w:World) (h:PtM V B bs b v vS P w) (hz:PZ N P) (l:List Nat) (q:Nat) (hq:l.length=q) (hnd:l.Nodup) (hl:∀x∈l,x<N) (aL:Option Addr) (cL:Nat) (hL:LAt V aL l) (hb:∀ad,aL=some ad->ad.block∉bs):
  Calls Tryz.prog 126 #[.pointer (some ⟨b,0,none⟩),.slice aL q cL] w (zjg V B bs b (divF P l)):=by
 have hqN:q<=N:=by rw[<-hq];exact zax hnd hl
 obtain⟨d1,d2⟩:=ziX hz
 obtain⟨a3,c3,e3⟩:=h.sl0 3 (by omega) rfl
 have a4:=h.c3
 have h1:=h.cutoff 3 (by omega) e3 0 (Nat.zero_le _)
 have H1:Hid (∃v',PtM V B bs b v' vS (divS P) (w.setCell ⟨b,4,none⟩ (.slice a3 0 c3))):=⟨_,h1.congr (fun i hi=>by show up9 P.L 3 ((P.L 3).take 0) i=up9 P.L 3 [] i;rw[List.take_zero]) rfl⟩
 obtain⟨n3,hn3⟩:∃n3,(P.L 3).length=n3:=⟨_,rfl⟩
 have hns3:n3<=c3:=by
  have ho:=h.row 3 (by omega)
  rw[e3] at ho
  rcases ho.2 with ⟨h1,_⟩|⟨_,cap,_,h1,_,_,h2,_⟩
  ·injection h1 with _ e1 e2;omega
  ·injection h1 with _ e1 e2;have h3:(P.L 3).length<=cap:=h2;omega
 rw[e3,hn3] at a4
 obtain⟨a41,a42⟩:=a4
 have HX:=hid (And.intro hq (And.intro hnd (And.intro hl (And.intro hL (And.intro hb (And.intro d1 (And.intro d2 hz)))))))
 clear h hz hq hnd hl hL hb d1 d2 h1 e3 hn3
 go_enter Tryz.func126,Tryz.ntmps126
 go_upto_region 1 with fail
 generalize w.setCell ⟨b,4,none⟩ (.slice a3 0 c3)=W1 at H1⊢
 clear a41 a42
 go_wp2_with fail
 go_loopw [5,18] (fun _ v wr=>∃k:Nat,v=.int .i64 k/\k<=q/\Hid (∃v' vS',PtM V B bs b v' vS' (hitsF (divS P) (l.take k)) wr)) (fun _ v _=>q-(intOf v).toNat)
 case atStart=>
  obtain⟨v',hv⟩:=H1.out
  exact⟨0,rfl,Nat.zero_le _,v',vS,hv⟩
 case round=>
  clear H1
  obtain⟨k,rfl,hk,HL⟩:=hrel
  by_cases hlt:k<q
  ·obtain⟨v',vS',hP⟩:=HL.out
   have hkl:k<l.length:=by rw[HX.out.1];exact hlt
   have hR:=zgd HX.out.2.2.2.2.2.1 HX.out.2.2.2.2.2.2.1 l HX.out.2.1 HX.out.2.2.1 k (by omega)
   have hnk:l[k]∉l.take k:=fun hm=>by
    obtain⟨j,hj,e2⟩:=List.getElem_of_mem hm
    rw[List.getElem_take] at e2
    have hjk:j<k:=by simp at hj;omega
    have:=(List.getElem_inj (h₀:=by omega) (h₁:=hkl) HX.out.2.1).1 e2
    omega
   have ok:=hR.ok hN (HX.out.2.2.1 _ (List.getElem_mem hkl)) hnk
   obtain⟨g,off,rfl,hg,hc0⟩:=(LAt.kept9 HX.out.2.2.2.1 hP.kept hP.below.size HX.out.2.2.2.2.1) (by omega)
   have hc:wr.cell? ⟨g,off+k,none⟩=some (.int .i64 ((l.getD k 0:Nat):Int)):=hc0 k hkl
   rw[zaH _ _ _ hkl] at hc
   have HC:=hid (zm5 V B b bs v' vS' _ wr hP l[k] ok)
   have HS:Hid (hitF (hitsF (divS P) (l.take k)) l[k]=hitsF (divS P) (l.take (k+1))):=by
    show _=_
    rw[<-zd3,zce _ _ hkl,zaH _ _ _ hkl]
   have i1:(k:Int)<(q:Int):=by omega
   clear hR hnk ok hc0 hP HL
   generalize l[k]=x at hc HC HS
   go_wp2_with fail
   refine HC.out.mono ?_
   rintro e w5 ⟨v5,vS5,rfl,hP5⟩
   rw[HS.out] at hP5
   have HP5:=hid hP5
   clear hP5 HC
   go_wp2_with fail
   go_roundw
   case rel=>exact⟨k+1,by go_num,by omega,v5,vS5,HP5.out⟩
   case measure=>simp[intOf];omega
  ·obtain rfl:k=q:=by omega
   obtain⟨v',vS',hP⟩:=HL.out
   rw[List.take_of_length_le (by rw[HX.out.1];exact Nat.le_refl _)] at hP
   have hR:=zgd HX.out.2.2.2.2.2.1 HX.out.2.2.2.2.2.2.1 l HX.out.2.1 HX.out.2.2.1 l.length (Nat.le_refl _)
   rw[List.take_length] at hR
   obtain⟨P2,hP2⟩:∃P2,hitsF (divS P) l=P2:=⟨_,rfl⟩
   have HE:Hid (divF P l=cutsF P2 (P2.L 3)):=by show _=_;rw[<-hP2];rfl
   rw[hP2] at hP hR
   obtain⟨T,hT⟩:∃T,P2.L 3=T:=⟨_,rfl⟩
   obtain⟨m,hm⟩:∃m,T.length=m:=⟨_,rfl⟩
   obtain⟨aT,cT,eT⟩:=hP.sl0 3 (by omega) (q:=m) (by rw[hT];exact hm)
   have b3:=hP.c3.1
   rw[eT] at b3
   have HR:=hid (And.intro hR (And.intro hT (And.intro hm eT)))
   have hmN:m<=N:=by
    have h1:(P2.L 3).length<=P2.sp.length:=zax hR.hit.nd (fun b hb=>((hR.hit.tc b).1 hb).1)
    have h2:=hR.pi.len
    rw[hT,hm] at h1
    omega
   have HP:=hid hP
   clear hP hR hP2 hT hm eT HL
   go_wp2_with fail
   clear b3
   obtain⟨W9,rfl⟩:∃W9,W9=wr:=⟨wr,rfl⟩
   go_loopw [7,31] (fun _ v wq=>∃j:Nat,v=.int .i64 j/\j<=m/\Hid (∃v5 vS5,v5 3=.slice aT m cT/\PtM V B bs b v5 vS5 (cutsF P2 (T.take j)) wq)) (fun _ v _=>m-(intOf v).toNat)
   case atStart=>
    exact⟨0,rfl,Nat.zero_le _,v',vS',HR.out.2.2.2,HP.out⟩
   case round=>
    clear HP
    obtain⟨j,rfl,hj,HL⟩:=hrel
    by_cases hlt2:j<m
    ·obtain⟨v5,vS5,e5,hP⟩:=HL.out
     have hjl:j<T.length:=by rw[HR.out.2.2.1];exact hlt2
     have hC:=ziY (S:=fun x=>x∈l) HR.out.1.pi T (by rw[<-HR.out.2.1];exact zfk HR.out.1.hit) (by rw[<-HR.out.2.1];exact HR.out.1.hit.nd) (fun b hb=>by rw[<-HR.out.2.1] at hb;exact ((HR.out.1.hit.tc b).1 hb).1) j (by omega)
     have ok:=hC.pi.cutok hN (k:=T[j]) (by
      have h9:T[j]∈P2.L 3:=by rw[HR.out.2.1];exact List.getElem_mem hjl
      have:=((HR.out.1.hit.tc _).1 h9).1
      have:=hC.len
      omega)
     have hT3:(cutsF P2 (T.take j)).L 3=T:=hC.o3.trans HR.out.2.1
     obtain⟨g,c,eg,hc,_⟩:=hP.num 3 (by omega) j (by rw[hT3];exact hjl)
     rw[hT3,zaH _ _ _ hjl] at hc
     rw[e5] at eg
     obtain⟨rfl⟩:aT=some ⟨g,0,none⟩:=by injection eg
     have HC:=hid (znb V B b bs v5 vS5 _ wr hP T[j] ok)
     have HS:Hid (cutF (cutsF P2 (T.take j)) T[j]=cutsF P2 (T.take (j+1))):=by
      show _=_
      rw[<-zd4,zce _ _ hjl,zaH _ _ _ hjl]
     have i1:(j:Int)<(m:Int):=by omega
     have He5:=hid e5
     clear hC ok hT3 eg hP HL e5
     generalize T[j]=x at hc HC HS
     go_wp2_with fail
     refine HC.out.mono ?_
     rintro e w5 ⟨v6,vS6,rfl,e6,hP5⟩
     rw[HS.out] at hP5
     rw[He5.out] at e6
     have HP5:=hid (And.intro e6 hP5)
     clear hP5 HC e6
     go_wp2_with fail
     go_roundw
     case rel=>exact⟨j+1,by go_num,by omega,v6,vS6,HP5.out⟩
     case measure=>simp[intOf];omega
    ·obtain rfl:j=m:=by omega
     obtain⟨v5,vS5,e5,hP⟩:=HL.out
     rw[List.take_of_length_le (by rw[HR.out.2.2.1];exact Nat.le_refl _),<-HR.out.2.1,<-HE.out] at hP
     have HP:=hid hP
     clear hP HL e5
     go_wp2_with fail
     go_end0
     exact⟨v5,vS5,rfl,HP.out⟩
end Go.Proofs.YtjehgdjlncofeaaGreat
