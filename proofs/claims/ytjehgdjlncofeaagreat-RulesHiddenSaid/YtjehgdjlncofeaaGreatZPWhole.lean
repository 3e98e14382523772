import Derived.Test.YtjehgdjlncofeaaGreatZPDiv
import Derived.StillTailTactics
set_option linter.unusedVariables false
set_option linter.unusedSimpArgs false
set_option maxHeartbeats 4000000
set_option maxRecDepth 100000
open Go.Lib (hid)
namespace Go.Proofs.YtjehgdjlncofeaaGreat
open Go.RowKit Go.Maps Go.WideElems Go.ChangeMaps Go.MapKept
def zdA (V:World) (B:Nat) (bs:List Nat) (b:Nat) (P:Pt) (w:World) (e:Ending) (w':World):Prop:=
 (P.L 4=[]/\e=.returned (.slice none 0 0)/\∃v vS,PtM V B bs b v vS P w')\/
 (P.L 4≠[]/\∃(g c:Nat) (v:Nat->Value) (vS:Value),e=.returned (.slice (some ⟨g,0,none⟩) (takT P).length c)/\w'.ownsRow w.heap.size 3 1 (.slice (some ⟨g,0,none⟩) (takT P).length c) (takT P).length (zai (takT P))/\PtM V B bs b v vS (takP P) w'/\g∉pblks b v vS)
theorem zlm (N:Nat) (hN:N<=100000) (V:World) (B b:Nat) (bs:List Nat) (v:Nat->Value) (vS:Value) (P:Pt) (w:World) (h:PtM V B bs b v vS P w) (hz:PZ N P):
  Calls Tryz.prog 128 #[.pointer (some ⟨b,0,none⟩)] w (zdA V B bs b P w):=by
 obtain⟨q,hq⟩:∃q,(P.L 4).length=q:=⟨_,rfl⟩
 obtain⟨a4,c4,e4⟩:=h.sl0 4 (by omega) hq
 have b4:=h.c4.1
 have f4:=h.c4.2
 rw[e4] at b4
 have hqN:=hz.1.open_le
 rw[hq] at hqN
 have hsN:=hz.1.len
 have H:=hid (And.intro h (And.intro hz (And.intro hq e4)))
 clear h hz hq e4
 go_enter Tryz.func128,Tryz.ntmps128
 by_cases h0:q=0
 ·subst h0
  have HF:Hid (zdA V B bs b P w (.returned (.slice none 0 0)) w):=Or.inl ⟨List.eq_nil_of_length_eq_zero H.out.2.2.1,rfl,v,vS,H.out.1⟩
  go_wp2_with fail
  go_ret
  exact HF.out
 ·obtain⟨p,rfl⟩:∃p,q=p+1:=⟨q-1,by omega⟩
  clear h0
  have hne:P.L 4≠[]:=fun e=>by have:=H.out.2.2.1;rw[e] at this;simp at this
  have i0:(((p+1:Nat):Int) == 0)=false:=by rw[beq_eq_false_iff_ne];omega
  obtain⟨lst,hlst⟩:∃lst,P.last=lst:=⟨_,rfl⟩
  have hm:lst∈P.L 4:=by
   rw[<-hlst]
   unfold Pt.last
   rcases List.eq_nil_or_concat (P.L 4) with e|⟨l,a,e⟩
   ·exact absurd e hne
   ·rw[e];simp
  obtain⟨hll,hlw⟩:=(H.out.2.1.1.opn.2 lst).1 hm
  obtain⟨s1,s2,s3,s4⟩:=H.out.2.1.1.sp lst hll
  have hgl:(P.L 4).getD p 0=lst:=by
   rw[<-hlst]
   unfold Pt.last
   have hl:=H.out.2.2.1
   rcases List.eq_nil_or_concat (P.L 4) with e|⟨l,a,e⟩
   ·exact absurd e hne
   ·rw[e] at hl⊢
    simp at hl
    subst hl
    simp[List.getD_eq_getElem?_getD]
  obtain⟨g4,c4',e4,y4,_⟩:=H.out.1.num 4 (by omega) p (by rw[H.out.2.2.1];omega)
  rw[H.out.2.2.1,H.out.2.2.2] at e4
  obtain rfl:a4=some ⟨g4,0,none⟩:=by injection e4
  rw[hgl] at y4
  obtain⟨nS,hnS⟩:∃nS,P.sp.length=nS:=⟨_,rfl⟩
  obtain⟨gS,cS,eS⟩:=H.out.1.slS hnS (by omega)
  have aS:=H.out.1.cellS.1
  rw[eS] at aS
  obtain⟨f,hf⟩:∃f,(P.s lst).f=f:=⟨_,rfl⟩
  obtain⟨g,hg⟩:∃g,(P.s lst).g=g:=⟨_,rfl⟩
  rw[hf,hg] at s1
  rw[hg] at s2
  have iS:(lst:Int)<(nS:Int):=by omega
  have hpc:p+1<=c4:=by
   have ho:=H.out.1.row 4 (by omega)
   rw[H.out.2.2.2] at ho
   rcases ho.2 with ⟨h1,_⟩|⟨_,cap,_,h1,_,_,h2,_⟩
   ·cases h1
   ·injection h1 with _ e1 e2;have h3:(P.L 4).length<=cap:=h2;omega
  have HE:=hid (And.intro hne (And.intro hlst (And.intro hnS (And.intro eS (And.intro hf hg)))))
  clear hne hlst hm hlw s3 s4 hgl e4 hnS eS hf hg
  go_upto_region 4 with fail
  go_quiet (fail)
  have HB:=hid (below_drewN (Below.refl w.heap.size w) nq)
  have hP2:PtM V B bs b v vS P (w.drewN nq):=H.out.1.keep (below_drewN (Below.refl _ _) _)
  generalize w.drewN nq=W2 at hP2 HB⊢
  clear y4 aS b4 f4
  have b4:=hP2.c4.1
  have f4:=hP2.c4.2
  rw[H.out.2.2.2] at b4
  have h1:=hP2.cutoff 4 (by omega) H.out.2.2.2 p (by rw[H.out.2.2.1];omega)
  replace h1:PtM V B bs b (upv v 4 (.slice (some ⟨g4,0,none⟩) p c4)) vS ⟨up9 P.L 4 ((P.L 4).take p),P.sp⟩ (W2.setCell ⟨b,5,none⟩ (.slice (some ⟨g4,0,none⟩) p c4)):=h1
  have hpq:p<=p+1:=by omega
  have SZ:Hid (w.heap.size<=W2.heap.size):=HB.out.size
  go_upto_region 6 with fail
  obtain⟨v4,hv4⟩:∃v4,upv v 4 (.slice (some ⟨g4,0,none⟩) p c4)=v4:=⟨_,rfl⟩
  rw[hv4] at h1
  have hL4:up9 P.L 4 ((P.L 4).take p)=(takP P).L:=by
   show _=up9 P.L 4 (P.L 4).dropLast
   rw[List.dropLast_eq_take,H.out.2.2.1]
   rfl
  rw[hL4] at h1
  replace SZ:Hid (w.heap.size<=(W2.setCell ⟨b,5,none⟩ (.slice (some ⟨g4,0,none⟩) p c4)).heap.size):=by show w.heap.size<=_;have:=SZ.out;simpa [World.setCell] using this
  generalize W2.setCell ⟨b,5,none⟩ (.slice (some ⟨g4,0,none⟩) p c4)=W3 at h1 SZ⊢
  clear b4 f4 hP2
  have hwt:=(h1.sp9 HE.out.2.2.2.1 lst (by show lst<P.sp.length;rw[HE.out.2.2.1];omega)).cw
  have hwz:=(h1.sp9 HE.out.2.2.2.1 lst (by show lst<P.sp.length;rw[HE.out.2.2.1];omega)).z3
  have h2:=h1.putS HE.out.2.2.2.1 lst 3 ⟨(P.s lst).f,(P.s lst).g,(P.s lst).h,false⟩ (by show lst<P.sp.length;rw[HE.out.2.2.1];omega) (by omega) (fun k' hk' hn=>by
   have:k'=0\/k'=1\/k'=2:=by omega
   rcases this with rfl|rfl|rfl <;> rfl)
  have h3:PtM V B bs b v4 vS (takP P) (W3.setCell ⟨gS,lst*4+3,none⟩ (.bool false)):=by
   refine h2.congr (fun i hi=>rfl) ?_
   show P.sp.set lst _=P.sp.set P.last _
   rw[HE.out.2.1]
  obtain⟨wb,hwb⟩:∃wb,W3.cell? ⟨gS,lst*4+3,none⟩=some (.bool wb):=⟨_,hwt⟩
  clear hwt h2 h1
  go_upto_region 7 with fail
  replace SZ:Hid (w.heap.size<=(W3.setCell ⟨gS,lst*4+3,none⟩ (.bool false)).heap.size):=by show w.heap.size<=_;have:=SZ.out;simpa [World.setCell] using this
  generalize W3.setCell ⟨gS,lst*4+3,none⟩ (.bool false)=W4 at h3 SZ⊢
  clear hwb hwz
  obtain⟨m0,hm0⟩:∃m0,(P.L 0).length=m0:=⟨_,rfl⟩
  have hm0N:m0=N:=by rw[<-hm0];exact H.out.2.1.1.l0
  obtain⟨g0,c0,e0⟩:=h3.sl 0 (by omega) (q:=m0) hm0 (by omega)
  have b0:=h3.c0.1
  rw[e0] at b0
  have hc0:m0<=c0:=by
   have ho:=h3.row 0 (by omega)
   rw[e0] at ho
   rcases ho.2 with ⟨h1,_⟩|⟨_,cap,_,h1,_,_,h2,_⟩
   ·cases h1
   ·injection h1 with _ e1 e2;have h3:(P.L 0).length<=cap:=h2;omega
  obtain⟨x1,x2,_,_,_,_,_⟩:=h3.sp9 HE.out.2.2.2.1 lst (by show lst<(takP P).sp.length;unfold takP;rw[List.length_set,HE.out.2.2.1];omega)
  have hsl:(takP P).s lst=⟨(P.s lst).f,(P.s lst).g,(P.s lst).h,false⟩:=by
   show (⟨up9 P.L 4 (P.L 4).dropLast,P.sp.set P.last ⟨(P.s P.last).f,(P.s P.last).g,(P.s P.last).h,false⟩⟩:Pt).s lst=_
   rw[HE.out.2.1,Pt.s_set _ _ _ _ _ (by rw[HE.out.2.2.1];omega),if_pos rfl]
  rw[hsl] at x1 x2
  rw[show (⟨(P.s lst).f,(P.s lst).g,(P.s lst).h,false⟩:Sp9).f=f from HE.out.2.2.2.2.1] at x1
  rw[show (⟨(P.s lst).f,(P.s lst).g,(P.s lst).h,false⟩:Sp9).g=g from HE.out.2.2.2.2.2] at x2
  obtain⟨m,hm⟩:∃m,g-f=m:=⟨_,rfl⟩
  have htl:(takT P).length=m:=by
   unfold takT
   rw[List.length_take,List.length_drop,hm0,HE.out.2.1,HE.out.2.2.2.2.1,HE.out.2.2.2.2.2,hm]
   omega
  have hta:∀j,j<m->(takT P).getD j 0=(P.L 0).getD (f+j) 0:=fun j hj=>by
   unfold takT
   rw[HE.out.2.1,HE.out.2.2.2.2.1,HE.out.2.2.2.2.2,hm,List.getD_eq_getElem?_getD,List.getElem?_take_of_lt hj,List.getElem?_drop,List.getD_eq_getElem?_getD]
  have hZ:∀W,PtM V B bs b v4 vS (takP P) W->ZAt W (some ⟨g0,f,none⟩) m (fun j=>(((takT P).getD j 0:Nat):Int)):=fun W hW hpos=>by
   have ho:=hW.row 0 (by omega)
   refine⟨g0,f,rfl,zaE ho g0 (by rw[e0];rfl),fun j hj=>?_⟩
   have:=(hW.at9 0 (by omega) e0 (f+j) (by show f+j<(P.L 0).length;omega)).1
   rw[this]
   show some (Value.int .i64 (((P.L 0).getD (f+j) 0:Nat):Int))=some (Value.int .i64 (((takT P).getD j 0:Nat):Int))
   rw[hta j hj]
  have HZ:=hid hZ
  have H3:=hid (And.intro h3 (And.intro hv4 (And.intro e0 htl)))
  have j1:(f:Int)<=(g:Int):=by omega
  have j2:(g:Int)<=(c0:Int):=by omega
  have j3:(f:Int)<(c0:Int):=by omega
  clear hZ hta htl hsl h3 hv4 e0 hm0 hm0N hL4
  go_still_tail 13,(by kernel_rfl)
  change wpList _ _ _ _ _ W4.drew
  have hP5:PtM V B bs b v4 vS (takP P) W4.drew:=H3.out.1.keep (Below.refl _ _).drew
  replace SZ:Hid (w.heap.size<=W4.drew.heap.size):=SZ.out
  generalize W4.drew=W5 at hP5 SZ⊢
  have HC:=hid (zcO m (c0-f) (some ⟨g0,f,none⟩) (fun j=>(((takT P).getD j 0:Nat):Int)) (by omega) W5 (HZ.out W5 hP5) (by simp) (by simp))
  have HP5:=hid hP5
  clear hP5 b0 x1 x2
  go_wp2_with fail
  refine HC.out.mono ?_
  rintro e w6 ⟨a6,c6,rfl,ho6,b6⟩
  have HF:Hid (zdA V B bs b P w (.returned (.slice a6 m c6)) w6):=by
   have hP6:=HP5.out.keep b6
   have hmap:ints ((List.range m).map (fun j=>(((takT P).getD j 0:Nat):Int)))=zai (takT P):=by
    apply List.ext_getElem?
    intro j
    have hl:=H3.out.2.2.2
    by_cases hj:j<m
    ·have h2:j<(takT P).length:=by omega
     simp[ints,zai,hj,h2,List.getD_eq_getElem?_getD]
    ·have h2:¬j<(takT P).length:=by omega
     simp[ints,zai,hj,h2]
   rw[hmap] at ho6
   obtain⟨g6,rfl,hg6,_,_⟩:=zae ho6 (by omega)
   have hsz:w.heap.size<=W5.heap.size:=SZ.out
   refine Or.inr ⟨HE.out.1,g6,c6,v4,vS,?_,?_,hP6,?_⟩
   ·rw[H3.out.2.2.2]
   ·rw[H3.out.2.2.2]
    exact zag ho6 hsz
   ·intro hm9
    rcases zaN.1 hm9 with e9|e9|⟨i,hi,e9⟩
    ·have:=HP5.out.st.lt;omega
    ·have:=zaE HP5.out.spn g6 e9;omega
    ·have:=zaE (HP5.out.row i hi) g6 e9;omega
  clear ho6 b6 HC
  go_wp2_with fail
  go_ret
  exact HF.out
def zjE (N:Nat) (w:World) (e:Ending) (w':World):Prop:=
 ∃(b:Nat) (v:Nat->Value) (vS:Value),e=.returned (.pointer (some ⟨b,0,none⟩))/\PtM w' w.heap.size (pblks b v vS) b v vS (wholeP N) w'/\Below w.heap.size w w'/\∀x∈pblks b v vS,w.heap.size<=x
def whK (N k:Nat):Pt:=⟨fun i=>if i=0 then List.range k else if i=1 then List.range k else if i=2 then List.replicate N 0 else [],[⟨0,N,0,false⟩]⟩
def whV (gB:Nat) (N:Nat) (i:Nat):Value:=if i=2 then .slice (some ⟨gB,0,none⟩) N N else .slice none 0 0
theorem zjF (N:Nat) (hN:N<=100000) (w:World):Calls Tryz.prog 124 #[.int .i64 (N:Int)] w (zjE N w):=by
 have hm:=zbI N (by omega)
 go_enter Tryz.func124,Tryz.ntmps124
 go_upto_region 2 with fail
 obtain⟨W3,hW3⟩:∃W3,((w.alloc (.cells (madeCells #[.int .i64 0] N) 3)).alloc (.cells #[.int .i64 0,.int .i64 (N:Int),.int .i64 0,.bool false] 198)).alloc (.cells #[.slice none 0 0,.slice none 0 0,.slice (some ⟨w.heap.size,0,none⟩) N N,.slice (some ⟨w.heap.size+1,0,none⟩) 1 1,.slice none 0 0,.slice none 0 0] 183)=W3:=⟨_,rfl⟩
 obtain⟨b,hb⟩:∃b,w.heap.size+1+1=b:=⟨_,rfl⟩
 obtain⟨bs,hbs⟩:∃bs,pblks b (whV w.heap.size N) (.slice (some ⟨w.heap.size+1,0,none⟩) 1 1)=bs:=⟨_,rfl⟩
 have h0:PtM W3 w.heap.size bs b (whV w.heap.size N) (.slice (some ⟨w.heap.size+1,0,none⟩) 1 1) (whK N 0) W3/\Below w.heap.size w W3/\∀x∈bs,w.heap.size<=x:=by
  have k1:=al w (.cells (madeCells #[.int .i64 0] N) 3)
  have k2:=al (w.alloc (.cells (madeCells #[.int .i64 0] N) 3)) (.cells #[.int .i64 0,.int .i64 (N:Int),.int .i64 0,.bool false] 198)
  have k3:=al ((w.alloc (.cells (madeCells #[.int .i64 0] N) 3)).alloc (.cells #[.int .i64 0,.int .i64 (N:Int),.int .i64 0,.bool false] 198)) (.cells #[.slice none 0 0,.slice none 0 0,.slice (some ⟨w.heap.size,0,none⟩) N N,.slice (some ⟨w.heap.size+1,0,none⟩) 1 1,.slice none 0 0,.slice none 0 0] 183)
  have o1:=zab (zab (zbO w w.heap.size N 3 (.int .i64 0) (Nat.le_refl _) (by unfold maxLen;omega)) k2) k3
  have o2:=zab (zbM (w.alloc (.cells (madeCells #[.int .i64 0] N) 3)) w.heap.size 198 4 #[.int .i64 0,.int .i64 (N:Int),.int .i64 0,.bool false] 1 rfl (by simp) (by unfold maxLen;omega)) k3
  have st:=St.new ((w.alloc (.cells (madeCells #[.int .i64 0] N) 3)).alloc (.cells #[.int .i64 0,.int .i64 (N:Int),.int .i64 0,.bool false] 198)) 183 #[.slice none 0 0,.slice none 0 0,.slice (some ⟨w.heap.size,0,none⟩) N N,.slice (some ⟨w.heap.size+1,0,none⟩) 1 1,.slice none 0 0,.slice none 0 0]
  have kk:Below w.heap.size w W3:=by rw[<-hW3];exact k1.trans ((k2.mono (by simp)).trans (k3.mono (by simp;omega)))
  rw[hW3] at o1 o2 st
  have hs1:(w.alloc (.cells (madeCells #[.int .i64 0] N) 3)).heap.size=w.heap.size+1:=by simp
  have hs2:((w.alloc (.cells (madeCells #[.int .i64 0] N) 3)).alloc (.cells #[.int .i64 0,.int .i64 (N:Int),.int .i64 0,.bool false] 198)).heap.size=b:=by rw[<-hb];simp
  rw[hs1] at o2
  rw[hs2] at st
  have hown:∀i,i<5->∀g,(whV w.heap.size N i).ownBlock=some g->i=2/\g=w.heap.size:=fun i hi g e=>by
   unfold whV at e
   split at e
   ·rename_i h2
    simp[Value.ownBlock] at e
    exact⟨h2,e.symm⟩
   ·simp[Value.ownBlock] at e
  have hge:∀x∈bs,w.heap.size<=x:=fun x hx=>by
   rw[<-hbs] at hx
   rcases zaN.1 hx with e|e|⟨i,hi,e⟩
   ·omega
   ·simp[Value.ownBlock] at e;omega
   ·have:=(hown i hi x e).2;omega
  refine⟨⟨Kept.refl _ _ _,Below.refl _ _,st,fun i hi=>?_,fun i j hi hj hij g e1 e2=>?_,?_,fun i hi g e=>Or.inl (by rw[<-hbs];exact zaN.2 (Or.inr (Or.inr ⟨i,hi,e⟩))),fun g e=>Or.inl (by rw[<-hbs];exact zaN.2 (Or.inr (Or.inl e))),by rw[<-hbs];exact zaN.2 (Or.inl rfl),by omega,kk.size⟩,kk,hge⟩
  ·have:i=0\/i=1\/i=2\/i=3\/i=4:=by omega
   rcases this with rfl|rfl|rfl|rfl|rfl
   ·exact World.ownsRow_nil _ _ _ _
   ·exact World.ownsRow_nil _ _ _ _
   ·show W3.ownsRow _ _ _ (.slice (some ⟨w.heap.size,0,none⟩) N N) (List.replicate N 0).length (zai (List.replicate N 0))
    have e:zai (List.replicate N 0)=List.replicate N (.int .i64 0):=by simp[zai]
    rw[e,List.length_replicate]
    exact o1
   ·exact World.ownsRow_nil _ _ _ _
   ·exact World.ownsRow_nil _ _ _ _
  ·have:=(hown i hi g e1).1
   have:=(hown j hj g e2).1
   omega
  ·exact o2
 have H0:=hid h0
 rw[hW3,hb]
 clear hW3 h0
 have Hbs:=hid (And.intro hb hbs)
 clear hb hbs
 go_wp2_with fail
 go_loopw [4,13] (fun _ vk wr=>∃k:Nat,vk=.int .i64 k/\k<=N/\Hid (∃v vS,PtM W3 w.heap.size bs b v vS (whK N k) wr)) (fun _ v _=>N-(intOf v).toNat)
 case atStart=>exact⟨0,rfl,Nat.zero_le _,_,_,H0.out.1⟩
 case round=>
  obtain⟨k,rfl,hk,HL⟩:=hrel
  by_cases hlt:k<N
  ·obtain⟨v,vS,h⟩:=HL.out
   have hl0:((whK N k).L 0).length=k:=by show (List.range k).length=k;simp
   have hO:=h.row 0 (by omega)
   obtain⟨a3,c3,e3⟩:=h.sl0 0 (by omega) hl0
   have a4:=h.c0.1
   rw[hl0,e3] at hO
   rw[e3] at a4
   have hV:=h.hB
   have HP:=hid h
   have He3:=hid e3
   have Hl0:=hid hl0
   obtain⟨i0,hi,hz0,hz1,hz2⟩:=info_parts Tryz.info_int9
   have i1:(k:Int)<(N:Int):=by omega
   clear h e3 hl0 HL
   go_upto_region 5 with fail
   go_wp2_with (at_builtin;refine wpList_append_own_at _ rfl _ _ 30 rfl w.heap.size 3 i0 (.int .i64 0) 1 8 Tryz.underlying30 hi hz0 hz1 hz2 rfl (by decide) _ _ _ rfl (hO.alloc _) ⟨wr.heap.size,0,none⟩ 1 1 [.int .i64 (k:Int)] rfl rfl (cell_one_new _ _ _) ?d2 ?d3 ?d4 ?d5 ?_)
   case d2=>intro u hu;simp at hu;subst hu;rfl
   case d3=>unfold maxLen;omega
   case d4=>omega
   case d5=>simp;omega
   intro v' w5 hown5 hgrow5 _ hat5
   have h2:=HP.out.keep (al wr (.cells #[.int .i64 (k:Int)] 3))
   have hst5:=h2.st.grown_own (hO.alloc _) (by decide) hgrow5
   have p3:w5.cell? ⟨b,0,none⟩=some (.slice a3 k c3):=by rw[hst5.at_];show some (v 0)=_;rw[He3.out]
   have pf:=hst5.thaw_ 0
   have h5:PtM W3 w.heap.size bs b (upv v 0 v') vS ⟨up9 (whK N k).L 0 (List.range k++[k]),(whK N k).sp⟩ (w5.setCell ⟨b,0,none⟩ v'):=h2.app (v':=v') (x:=k) 0 (by omega) Hl0.out hown5 (by rw[He3.out];exact hgrow5) (by
    rw[show (wr.alloc (.cells #[.int .i64 (k:Int)] 3)).heap.size=wr.heap.size+1 by simp,He3.out]
    rcases hat5 with h|h
    ·exact Or.inl h
    ·exact Or.inr (Or.inl h))
   obtain⟨a5,c5,rfl⟩:=zaa hown5
   clear hown5 hgrow5 hat5 h2 hst5 hO a4
   go_upto_region 6 with fail
   clear p3 pf
   obtain⟨W6,hW6⟩:∃W6,w5.setCell ⟨b,0,none⟩ (.slice a5 (k+1) c5)=W6:=⟨_,rfl⟩
   obtain⟨v6,hv6⟩:∃v6,upv v 0 (.slice a5 (k+1) c5)=v6:=⟨_,rfl⟩
   rw[hW6,hv6] at h5
   rw[hW6]
   clear hW6 hv6 HP He3
   have hl1:((⟨up9 (whK N k).L 0 (List.range k++[k]),(whK N k).sp⟩:Pt).L 1).length=k:=by show (List.range k).length=k;simp
   have hO:=h5.row 1 (by omega)
   obtain⟨a3,c3,e3⟩:=h5.sl0 1 (by omega) hl1
   have a4:=h5.c1.1
   rw[hl1,e3] at hO
   rw[e3] at a4
   have hV:=h5.hB
   have HP:=hid h5
   have He3:=hid e3
   have Hl1:=hid hl1
   clear h5 e3 hl1
   go_wp2_with (at_builtin;refine wpList_append_own_at _ rfl _ _ 30 rfl w.heap.size 3 i0 (.int .i64 0) 1 8 Tryz.underlying30 hi hz0 hz1 hz2 rfl (by decide) _ _ _ rfl (hO.alloc _) ⟨W6.heap.size,0,none⟩ 1 1 [.int .i64 (k:Int)] rfl rfl (cell_one_new _ _ _) ?f2 ?f3 ?f4 ?f5 ?_)
   case f2=>first|(intro u hu;simp at hu;subst hu;rfl)|rfl
   case f3=>unfold maxLen;omega
   case f4=>omega
   case f5=>first|(simp;omega)|omega
   intro v' w7 hown5 hgrow5 _ hat5
   have h2:=HP.out.keep (al W6 (.cells #[.int .i64 (k:Int)] 3))
   have hst5:=h2.st.grown_own (hO.alloc _) (by decide) hgrow5
   have p3:w7.cell? ⟨b,1,none⟩=some (.slice a3 k c3):=by rw[hst5.at_];show some (v6 1)=_;rw[He3.out]
   have pf:=hst5.thaw_ 1
   have HF:Hid (PtM W3 w.heap.size bs b (upv v6 1 v') vS (whK N (k+1)) (w7.setCell ⟨b,1,none⟩ v')):=by
    have h7:=h2.app (v':=v') (x:=k) 1 (by omega) Hl1.out hown5 (by rw[He3.out];exact hgrow5) (by
     rw[show (W6.alloc (.cells #[.int .i64 (k:Int)] 3)).heap.size=W6.heap.size+1 by simp,He3.out]
     rcases hat5 with h|h
     ·exact Or.inl h
     ·exact Or.inr (Or.inl h))
    refine h7.congr (fun i hi=>?_) rfl
    have:i=0\/i=1\/i=2\/i=3\/i=4:=by omega
    rcases this with rfl|rfl|rfl|rfl|rfl
    ·show List.range k++[k]=List.range (k+1);rw[List.range_succ]
    ·show List.range k++[k]=List.range (k+1);rw[List.range_succ]
    ·rfl
    ·rfl
    ·rfl
   obtain⟨a7,c7,rfl⟩:=zaa hown5
   clear hown5 hgrow5 hat5 h2 hst5 hO a4 HP
   go_wp2_with fail
   go_roundw
   case rel=>exact⟨k+1,by go_num,by omega,_,_,HF.out⟩
   case measure=>simp[intOf];omega
  ·obtain rfl:k=N:=by omega
   obtain⟨v,vS,h⟩:=HL.out
   have HF:Hid (zjE k w (.returned (.pointer (some ⟨b,0,none⟩))) wr):=by
    refine⟨b,v,vS,rfl,?_,H0.out.2.1.trans h.below,fun x hx=>?_⟩
    ·exact h.start.congr (fun i hi=>rfl) rfl
    ·rcases h.blks x hx with h3|h3
     ·exact H0.out.2.2 x h3
     ·exact Nat.le_trans H0.out.2.1.size h3
   clear h HL H0
   go_wp2_with fail
   go_ret
   exact HF.out
end Go.Proofs.YtjehgdjlncofeaaGreat
