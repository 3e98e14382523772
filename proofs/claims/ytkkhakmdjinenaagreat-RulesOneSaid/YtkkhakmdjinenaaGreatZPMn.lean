import Derived.Test.YtkkhakmdjinenaaGreatZPDiv
import Derived.StillTailTactics
set_option linter.all false
set_option maxHeartbeats 8000000
set_option maxRecDepth 100000
open Go.Lib (hid)
namespace Go.Proofs.YtkkhakmdjinenaaGreat
open Go.RowKit Go.Maps Go.WideElems Go.ChangeMaps Go.MapKept Go.Proofs.Tryz
open Or (inl inr)
open List (ext_getElem? getD_eq_getElem?_getD length_replicate range range_succ replicate take_of_length_le)
open Nat (le_refl le_trans zero_le)
open Value (ownBlock)
open World (ownsRow_nil)
open Act (put)
variable {B C N c gF gX:Nat}{D:Dd}{P:Pt}{V W0 w w1 w6:World}{bs l ls:List Nat}{f x:Nat->Int}{v v':Nat->Value}{vS vS':Value}
def Ih(V:World)(B:Nat)(bs:List Nat)(b:Nat)(P:Pt)(w:World)(e:Ending)(w':World):Prop:=
 (P.L 4=[]/\e=.returned (.slice none 0 0)/\∃v vS,bI V B bs b v vS P w')\/
 (P.L 4≠[]/\∃(g c:Nat) (v:Nat->Value) (vS:Value),e=.returned (.slice (some ⟨g,0,none⟩) (eU P).length c)/\w'.ownsRow w.heap.size 3 1 (.slice (some ⟨g,0,none⟩) (eU P).length c) (eU P).length (cW (eU P))/\bI V B bs b v vS (gQ P) w'/\g∉bF b v vS)
theorem znl(N:Nat)(hN:N<=100000)(V:World)(B b:Nat)(bs:List Nat)(v:Nat->Value)(vS:Value)(P:Pt)(w:World)(h:bI V B bs b v vS P w)(hz:PZ N P):
  Calls prog 116 #[.pointer (some ⟨b,0,none⟩)] w (Ih V B bs b P w):=by
 obtain⟨q,hq⟩:∃q,(P.L 4).length=q:=⟨_,rfl⟩
 obtain⟨a4,c4,e4⟩:=h.Ej 4 (by omega) hq;have b4:=h.c4.1;have f4:=h.c4.2;rw[e4] at b4;have XM:=hz.1.tz;rw[hq] at XM;have NS:=hz.1.len;have H:=hid (Zz h (Zz hz (Zz hq e4)));clear h hz hq e4;go_in;by_cases h0:q=0
 ·subst h0;have HF:Hid (Ih V B bs b P w (.returned (.slice none 0 0)) w):=inl ⟨List.eq_nil_of_length_eq_zero H.out.2.2.1,rfl,v,vS,H.out.1⟩;go_wp2;go_ret;exact HF.out
 obtain⟨p,rfl⟩:∃p,q=p+1:=⟨q-1,by omega⟩
 clear h0;have hne:P.L 4≠[]:=fun e=>by have:=H.out.2.2.1;rw[e] at this;simp at this
 have i0:(((p+1:Nat):Int) == 0)=false:=by rw[beq_eq_false_iff_ne];omega
 obtain⟨dd,uH⟩:∃dd,P.last=dd:=⟨_,rfl⟩
 have hm:dd∈P.L 4:=by
  rw[<-uH];unfold Pt.last;rcases List.eq_nil_or_concat (P.L 4) with e|⟨l,a,e⟩
  ·exact absurd e hne
  rw[e];simp
 obtain⟨tu,hlw⟩:=(H.out.2.1.1.tI.2 dd).1 hm;obtain⟨s1,s2,s3,s4⟩:=H.out.2.1.1.sp dd tu;have zR:(P.L 4).getD p 0=dd:=by
  rw[<-uH];unfold Pt.last;have hl:=H.out.2.2.1;rcases List.eq_nil_or_concat (P.L 4) with e|⟨l,a,e⟩
  ·exact absurd e hne
  rw[e] at hl⊢;simp at hl;subst hl;simp[getD_eq_getElem?_getD]
 obtain⟨g4,c4',e4,y4,_⟩:=H.out.1.num 4 (by omega) p (by rw[H.out.2.2.1];omega);rw[H.out.2.2.1,H.out.2.2.2] at e4;obtain rfl:a4=some ⟨g4,0,none⟩:=by injection e4
 rw[zR] at y4;obtain⟨nS,xa⟩:∃nS,P.sp.length=nS:=⟨_,rfl⟩
 obtain⟨gS,cS,eS⟩:=H.out.1.QU xa (by omega);have aS:=H.out.1.mY.1;rw[eS] at aS;obtain⟨f,hf⟩:∃f,(P.s dd).f=f:=⟨_,rfl⟩
 obtain⟨g,hg⟩:∃g,(P.s dd).g=g:=⟨_,rfl⟩
 rw[hf,hg] at s1;rw[hg] at s2;have iS:(dd:Int)<nS:=by omega
 have uM:p+1<=c4:=by
  have ho:=H.out.1.row 4 (by omega);rw[H.out.2.2.2] at ho;rcases ho.2 with ⟨h1,_⟩|⟨_,cap,_,h1,_,_,h2,_⟩
  ·cases h1
  injection h1 with _ e1 e2;have h3:(P.L 4).length<=cap:=h2;omega
 have HE:=hid (Zz hne (Zz uH (Zz xa (Zz eS (Zz hf hg)))));clear hne uH hm hlw s3 s4 zR e4 xa eS hf hg;go_upto_region 4 with fail;go_quiet (fail);have HB:=hid (below_drewN (Below.refl w.heap.size w) nq);have rF:bI V B bs b v vS P (w.drewN nq):=H.out.1.ab (below_drewN (Below.refl _ _) _);generalize w.drewN nq=W2 at rF HB⊢;clear y4 aS b4 f4;have b4:=rF.c4.1;have f4:=rF.c4.2;rw[H.out.2.2.2] at b4;have h1:=rF.xV 4 (by omega) H.out.2.2.2 p (by rw[H.out.2.2.1];omega);replace h1:bI V B bs b (sL v 4 (.slice (some ⟨g4,0,none⟩) p c4)) vS ⟨eY P.L 4 ((P.L 4).take p),P.sp⟩ (W2.setCell ⟨b,5,none⟩ (.slice (some ⟨g4,0,none⟩) p c4)):=h1;have hpq:p<=p+1:=by omega
 have SZ:Hid (w.heap.size<=W2.heap.size):=HB.out.size;go_upto_region 6 with fail;obtain⟨v4,TR⟩:∃v4,sL v 4 (.slice (some ⟨g4,0,none⟩) p c4)=v4:=⟨_,rfl⟩
 rw[TR] at h1;have BJ:eY P.L 4 ((P.L 4).take p)=(gQ P).L:=by
  show _=eY P.L 4 (P.L 4).dropLast;rw[List.dropLast_eq_take,H.out.2.2.1];rfl
 rw[BJ] at h1;replace SZ:Hid (w.heap.size<=(W2.setCell ⟨b,5,none⟩ (.slice (some ⟨g4,0,none⟩) p c4)).heap.size):=by show w.heap.size<=_;have:=SZ.out;simpa [World.setCell] using this
 generalize W2.setCell ⟨b,5,none⟩ (.slice (some ⟨g4,0,none⟩) p c4)=W3 at h1 SZ⊢;clear b4 f4 rF;have Ex:=(h1.Br HE.out.2.2.2.1 dd (by show dd<P.sp.length;rw[HE.out.2.2.1];omega)).cw;have hwz:=(h1.Br HE.out.2.2.2.1 dd (by show dd<P.sp.length;rw[HE.out.2.2.1];omega)).z3;have h2:=h1.wY HE.out.2.2.2.1 dd 3 ⟨(P.s dd).f,(P.s dd).g,(P.s dd).h,false⟩ (by show dd<P.sp.length;rw[HE.out.2.2.1];omega) (by omega) (fun k' hk' hn=>by
  have:k'=0\/k'=1\/k'=2:=by omega
  rcases this with rfl|rfl|rfl <;> rfl)
 have h3:bI V B bs b v4 vS (gQ P) (W3.setCell ⟨gS,dd*4+3,none⟩ (.bool false)):=by
  refine h2.congr (fun i hi=>rfl) ?_;show P.sp.set dd _=P.sp.set P.last _;rw[HE.out.2.1]
 obtain⟨wb,Uf⟩:∃wb,W3.cell? ⟨gS,dd*4+3,none⟩=some (.bool wb):=⟨_,Ex⟩
 clear Ex h2 h1;go_upto_region 7 with fail;replace SZ:Hid (w.heap.size<=(W3.setCell ⟨gS,dd*4+3,none⟩ (.bool false)).heap.size):=by show w.heap.size<=_;have:=SZ.out;simpa [World.setCell] using this
 generalize W3.setCell ⟨gS,dd*4+3,none⟩ (.bool false)=W4 at h3 SZ⊢;clear Uf hwz;obtain⟨m0,oW⟩:∃m0,(P.L 0).length=m0:=⟨_,rfl⟩
 have Pp:m0=N:=by rw[<-oW];exact H.out.2.1.1.l0
 obtain⟨g0,c0,e0⟩:=h3.sl 0 (by omega) (q:=m0) oW (by omega);have b0:=h3.c0.1;rw[e0] at b0;have pN:m0<=c0:=by
  have ho:=h3.row 0 (by omega);rw[e0] at ho;rcases ho.2 with ⟨h1,_⟩|⟨_,cap,_,h1,_,_,h2,_⟩
  ·cases h1
  injection h1 with _ e1 e2;have h3:(P.L 0).length<=cap:=h2;omega
 obtain⟨x1,x2,_,_,_,_,_⟩:=h3.Br HE.out.2.2.2.1 dd (by show dd<(gQ P).sp.length;unfold gQ;rw[List.length_set,HE.out.2.2.1];omega);have yF:(gQ P).s dd=⟨(P.s dd).f,(P.s dd).g,(P.s dd).h,false⟩:=by
  show (⟨eY P.L 4 (P.L 4).dropLast,P.sp.set P.last ⟨(P.s P.last).f,(P.s P.last).g,(P.s P.last).h,false⟩⟩:Pt).s dd=_;rw[HE.out.2.1,Pt.qO _ _ _ _ _ (by rw[HE.out.2.2.1];omega),if_pos rfl]
 rw[yF] at x1 x2;rw[show (⟨(P.s dd).f,(P.s dd).g,(P.s dd).h,false⟩:oc).f=f from HE.out.2.2.2.2.1] at x1;rw[show (⟨(P.s dd).f,(P.s dd).g,(P.s dd).h,false⟩:oc).g=g from HE.out.2.2.2.2.2] at x2;obtain⟨m,hm⟩:∃m,g-f=m:=⟨_,rfl⟩
 have rQ:(eU P).length=m:=by
  unfold eU;rw[List.length_take,List.length_drop,oW,HE.out.2.1,HE.out.2.2.2.2.1,HE.out.2.2.2.2.2,hm];omega
 have Y9:∀j,j<m->(eU P).getD j 0=(P.L 0).getD (f+j) 0:=fun j hj=>by
  unfold eU;rw[HE.out.2.1,HE.out.2.2.2.2.1,HE.out.2.2.2.2.2,hm,getD_eq_getElem?_getD,List.getElem?_take_of_lt hj,List.getElem?_drop,getD_eq_getElem?_getD]
 have hZ:∀W,bI V B bs b v4 vS (gQ P) W->kW W (some ⟨g0,f,none⟩) m (fun j=>(((eU P).getD j 0:Nat):Int)):=fun W hW hpos=>by
  have ho:=hW.row 0 (by omega);refine⟨g0,f,rfl,lE ho g0 (by rw[e0];rfl),fun j hj=>?_⟩;have:=(hW.OK 0 (by omega) e0 (f+j) (by show f+j<(P.L 0).length;omega)).1;rw[this];show some (Value.int .i64 (((P.L 0).getD (f+j) 0:Nat):Int))=some (Value.int .i64 (((eU P).getD j 0:Nat):Int));rw[Y9 j hj]
 have HZ:=hid hZ;have H3:=hid (Zz h3 (Zz TR (Zz e0 rQ)));have j1:(f:Int)<=g:=by omega
 have j2:(g:Int)<=c0:=by omega
 have j3:(f:Int)<c0:=by omega
 clear hZ Y9 rQ yF h3 TR e0 oW Pp BJ
 go_still_tail 13,(by kernel_rfl)
 change wpList _ _ _ _ _ W4.drew;have oY:bI V B bs b v4 vS (gQ P) W4.drew:=H3.out.1.ab (Below.refl _ _).drew;replace SZ:Hid (w.heap.size<=W4.drew.heap.size):=SZ.out;generalize W4.drew=W5 at oY SZ⊢;have HC:=hid (MN m (c0-f) (some ⟨g0,f,none⟩) (fun j=>(((eU P).getD j 0:Nat):Int)) (by omega) W5 (HZ.out W5 oY) (by simp) (by simp));have yL:=hid oY;clear oY b0 x1 x2;go_wp2_with fail;refine HC.out.mono ?_;rintro e w6 ⟨a6,c6,rfl,kr,b6⟩;have HF:Hid (Ih V B bs b P w (.returned (.slice a6 m c6)) w6):=by
  have hP6:=yL.out.ab b6;have zE:ints ((range m).map (fun j=>(((eU P).getD j 0:Nat):Int)))=cW (eU P):=by
   apply ext_getElem?;intro j;have hl:=H3.out.2.2.2;by_cases hj:j<m
   ·have h2:j<(eU P).length:=(by omega);simp[ints,cW,hj,h2,getD_eq_getElem?_getD]
   have h2:¬j<(eU P).length:=(by omega);simp[ints,cW,hj,h2]
  rw[zE] at kr;obtain⟨g6,rfl,gj,_,_⟩:=ek kr (by omega);have cZ:w.heap.size<=W5.heap.size:=SZ.out;refine inr ⟨HE.out.1,g6,c6,v4,vS,?_,?_,hP6,?_⟩
  ·rw[H3.out.2.2.2]
  ·rw[H3.out.2.2.2];exact ga kr cZ
  intro AJ;rcases uu.1 AJ with e9|e9|⟨i,hi,e9⟩
  ·have:=yL.out.st.lt;omega
  ·have:=lE yL.out.nO g6 e9;omega
  have:=lE (yL.out.row i hi) g6 e9;omega
 clear kr b6 HC;go_wp2;go_ret;exact HF.out
def OZ(N:Nat)(w:World)(e:Ending)(w':World):Prop:=
 ∃(b:Nat) (v:Nat->Value) (vS:Value),e=.returned (.pointer (some ⟨b,0,none⟩))/\bI w' w.heap.size (bF b v vS) b v vS (fL N) w'/\Below w.heap.size w w'/\∀x∈bF b v vS,w.heap.size<=x
def BK(N k:Nat):Pt:=⟨fun i=>if i=0 then range k else if i=1 then range k else if i=2 then replicate N 0 else [],[⟨0,N,0,false⟩]⟩
def MH(gB:Nat)(N:Nat)(i:Nat):Value:=if i=2 then .slice (some ⟨gB,0,none⟩) N N else .slice none 0 0
theorem zlB(N:Nat)(hN:N<=100000)(w:World):Calls prog 112 #[.int .i64 (N:Int)] w (OZ N w):=by
 have hm:=G8 N (by omega);go_in;go_upto_region 2 with fail;obtain⟨W3,uL⟩:∃W3,((w.alloc (.cells (madeCells #[.int .i64 0] N) 3)).alloc (.cells #[.int .i64 0,.int .i64 (N:Int),.int .i64 0,.bool false] 190)).alloc (.cells #[.slice none 0 0,.slice none 0 0,.slice (some ⟨w.heap.size,0,none⟩) N N,.slice (some ⟨w.heap.size+1,0,none⟩) 1 1,.slice none 0 0,.slice none 0 0] 173)=W3:=⟨_,rfl⟩
 obtain⟨b,hb⟩:∃b,w.heap.size+1+1=b:=⟨_,rfl⟩
 obtain⟨bs,qn⟩:∃bs,bF b (MH w.heap.size N) (.slice (some ⟨w.heap.size+1,0,none⟩) 1 1)=bs:=⟨_,rfl⟩
 have h0:bI W3 w.heap.size bs b (MH w.heap.size N) (.slice (some ⟨w.heap.size+1,0,none⟩) 1 1) (BK N 0) W3/\Below w.heap.size w W3/\∀x∈bs,w.heap.size<=x:=by
  have k1:=al w (.cells (madeCells #[.int .i64 0] N) 3);have k2:=al (w.alloc (.cells (madeCells #[.int .i64 0] N) 3)) (.cells #[.int .i64 0,.int .i64 (N:Int),.int .i64 0,.bool false] 190);have k3:=al ((w.alloc (.cells (madeCells #[.int .i64 0] N) 3)).alloc (.cells #[.int .i64 0,.int .i64 (N:Int),.int .i64 0,.bool false] 190)) (.cells #[.slice none 0 0,.slice none 0 0,.slice (some ⟨w.heap.size,0,none⟩) N N,.slice (some ⟨w.heap.size+1,0,none⟩) 1 1,.slice none 0 0,.slice none 0 0] 173);have o1:=cY (cY (C8 w w.heap.size N 3 (.int .i64 0) (le_refl _) (by unfold maxLen;omega)) k2) k3;have o2:=cY (vV (w.alloc (.cells (madeCells #[.int .i64 0] N) 3)) w.heap.size 190 4 #[.int .i64 0,.int .i64 (N:Int),.int .i64 0,.bool false] 1 rfl (by simp) (by unfold maxLen;omega)) k3;have st:=St.new ((w.alloc (.cells (madeCells #[.int .i64 0] N) 3)).alloc (.cells #[.int .i64 0,.int .i64 (N:Int),.int .i64 0,.bool false] 190)) 173 #[.slice none 0 0,.slice none 0 0,.slice (some ⟨w.heap.size,0,none⟩) N N,.slice (some ⟨w.heap.size+1,0,none⟩) 1 1,.slice none 0 0,.slice none 0 0];have kk:Below w.heap.size w W3:=by rw[<-uL];exact k1.trans ((k2.mono (by simp)).trans (k3.mono (by simp;omega)))
  rw[uL] at o1 o2 st;have kM:(w.alloc (.cells (madeCells #[.int .i64 0] N) 3)).heap.size=w.heap.size+1:=by simp
  have tN:((w.alloc (.cells (madeCells #[.int .i64 0] N) 3)).alloc (.cells #[.int .i64 0,.int .i64 (N:Int),.int .i64 0,.bool false] 190)).heap.size=b:=by rw[<-hb];simp
  rw[kM] at o2;rw[tN] at st;have az:∀i,i<5->∀g,(MH w.heap.size N i).ownBlock=some g->i=2/\g=w.heap.size:=fun i hi g e=>by
   unfold MH at e;split at e
   ·rename_i h2;simp[ownBlock] at e;exact⟨h2,e.symm⟩
   simp[ownBlock] at e
  have Jl:∀x∈bs,w.heap.size<=x:=fun x hx=>by
   rw[<-qn] at hx;rcases uu.1 hx with e|e|⟨i,hi,e⟩
   ·omega
   ·simp[ownBlock] at e;omega
   have:=(az i hi x e).2;omega
  refine⟨⟨Kept.refl _ _ _,Below.refl _ _,st,fun i hi=>?_,fun i j hi hj hij g e1 e2=>?_,?_,fun i hi g e=>inl (by rw[<-qn];exact uu.2 (inr (inr ⟨i,hi,e⟩))),fun g e=>inl (by rw[<-qn];exact uu.2 (inr (inl e))),by rw[<-qn];exact uu.2 (inl rfl),by omega,kk.size⟩,kk,Jl⟩
  ·have:i=0\/i=1\/i=2\/i=3\/i=4:=(by omega);rcases this with rfl|rfl|rfl|rfl|rfl
   ·exact ownsRow_nil _ _ _ _
   ·exact ownsRow_nil _ _ _ _
   ·show W3.ownsRow _ _ _ (.slice (some ⟨w.heap.size,0,none⟩) N N) (replicate N 0).length (cW (replicate N 0));have e:cW (replicate N 0)=replicate N (.int .i64 0):=(by simp[cW]);rw[e,length_replicate];exact o1
   ·exact ownsRow_nil _ _ _ _
   exact ownsRow_nil _ _ _ _
  ·have:=(az i hi g e1).1;have:=(az j hj g e2).1;omega
  exact o2
 have H0:=hid h0;rw[uL,hb];clear uL h0;have Hbs:=hid (Zz hb qn);clear hb qn;go_wp2;go_loopw [4,13] (fun _ vk wr=>∃k:Nat,vk=.int .i64 k/\k<=N/\Hid (∃v vS,bI W3 w.heap.size bs b v vS (BK N k) wr)) (fun _ v _=>N-(intOf v).toNat)
 ·exact⟨0,rfl,zero_le _,_,_,H0.out.1⟩
 obtain⟨k,rfl,hk,HL⟩:=hrel;by_cases aq:k<N
 ·obtain⟨v,vS,h⟩:=HL.out;have ko:((BK N k).L 0).length=k:=by show (range k).length=k;simp
  have hO:=h.row 0 (by omega);obtain⟨a3,c3,e3⟩:=h.Ej 0 (by omega) ko;have a4:=h.c0.1;rw[ko,e3] at hO;rw[e3] at a4;have hV:=h.hB;have HP:=hid h;have qU:=hid e3;have Hl0:=hid ko;obtain⟨i0,hi,dy,cJ,cv⟩:=info_parts aG;have i1:(k:Int)<N:=by omega
  clear h e3 ko HL;go_upto_region 5 with fail;go_wp2_with (at_builtin;refine wpList_append_own_at _ rfl _ _ 27 rfl w.heap.size 3 i0 (.int .i64 0) 1 8 underlying27 hi dy cJ cv rfl (by decide) _ _ _ rfl (hO.alloc _) ⟨wr.heap.size,0,none⟩ 1 1 [.int .i64 (k:Int)] rfl rfl (cell_one_new _ _ _) ?d2 ?d3 ?d4 ?d5 ?_)
  case d2=>intro u hu;simp at hu;subst hu;rfl
  case d3=>unfold maxLen;omega
  case d4=>omega
  case d5=>simp;omega
  intro v' w5 ah ag _ bJ;have h2:=HP.out.ab (al wr (.cells #[.int .i64 (k:Int)] 3));have fO:=h2.st.ae (hO.alloc _) (by decide) ag;have p3:w5.cell? ⟨b,0,none⟩=some (.slice a3 k c3):=by rw[fO.at_];show some (v 0)=_;rw[qU.out]
  have pf:=fO.bb 0;have h5:bI W3 w.heap.size bs b (sL v 0 v') vS ⟨eY (BK N k).L 0 (range k++[k]),(BK N k).sp⟩ (w5.setCell ⟨b,0,none⟩ v'):=h2.app (v':=v') (x:=k) 0 (by omega) Hl0.out ah (by rw[qU.out];exact ag) (by
   rw[show (wr.alloc (.cells #[.int .i64 (k:Int)] 3)).heap.size=wr.heap.size+1 by simp,qU.out]
   rcases bJ with h|h
   ·exact inl h
   ·exact inr (inl h))
  obtain⟨a5,c5,rfl⟩:=bP ah;clear ah ag bJ h2 fO hO a4;go_upto_region 6 with fail;clear p3 pf;obtain⟨W6,sU⟩:∃W6,w5.setCell ⟨b,0,none⟩ (.slice a5 (k+1) c5)=W6:=⟨_,rfl⟩
  obtain⟨v6,Xn⟩:∃v6,sL v 0 (.slice a5 (k+1) c5)=v6:=⟨_,rfl⟩
  rw[sU,Xn] at h5;rw[sU];clear sU Xn HP qU;have jv:((⟨eY (BK N k).L 0 (range k++[k]),(BK N k).sp⟩:Pt).L 1).length=k:=by show (range k).length=k;simp
  have hO:=h5.row 1 (by omega);obtain⟨a3,c3,e3⟩:=h5.Ej 1 (by omega) jv;have a4:=h5.c1.1;rw[jv,e3] at hO;rw[e3] at a4;have hV:=h5.hB;have HP:=hid h5;have qU:=hid e3;have Hl1:=hid jv;clear h5 e3 jv;go_wp2_with (at_builtin;refine wpList_append_own_at _ rfl _ _ 27 rfl w.heap.size 3 i0 (.int .i64 0) 1 8 underlying27 hi dy cJ cv rfl (by decide) _ _ _ rfl (hO.alloc _) ⟨W6.heap.size,0,none⟩ 1 1 [.int .i64 (k:Int)] rfl rfl (cell_one_new _ _ _) ?f2 ?f3 ?f4 ?f5 ?_)
  case f2=>first|(intro u hu;simp at hu;subst hu;rfl)|rfl
  case f3=>unfold maxLen;omega
  case f4=>omega
  case f5=>first|(simp;omega)|omega
  intro v' w7 ah ag _ bJ;have h2:=HP.out.ab (al W6 (.cells #[.int .i64 (k:Int)] 3));have fO:=h2.st.ae (hO.alloc _) (by decide) ag;have p3:w7.cell? ⟨b,1,none⟩=some (.slice a3 k c3):=by rw[fO.at_];show some (v6 1)=_;rw[qU.out]
  have pf:=fO.bb 1;have HF:Hid (bI W3 w.heap.size bs b (sL v6 1 v') vS (BK N (k+1)) (w7.setCell ⟨b,1,none⟩ v')):=by
   have h7:=h2.app (v':=v') (x:=k) 1 (by omega) Hl1.out ah (by rw[qU.out];exact ag) (by
    rw[show (W6.alloc (.cells #[.int .i64 (k:Int)] 3)).heap.size=W6.heap.size+1 by simp,qU.out]
    rcases bJ with h|h
    ·exact inl h
    ·exact inr (inl h))
   refine h7.congr (fun i hi=>?_) rfl;have:i=0\/i=1\/i=2\/i=3\/i=4:=(by omega);rcases this with rfl|rfl|rfl|rfl|rfl
   ·show range k++[k]=range (k+1);rw[range_succ]
   ·show range k++[k]=range (k+1);rw[range_succ]
   ·rfl
   ·rfl
   rfl
  obtain⟨a7,c7,rfl⟩:=bP ah;clear ah ag bJ h2 fO hO a4 HP;go_wp2;go_roundw
  ·exact⟨k+1,by go_num,by omega,_,_,HF.out⟩
  simp[intOf];omega
 obtain rfl:k=N:=by omega
 obtain⟨v,vS,h⟩:=HL.out;have HF:Hid (OZ k w (.returned (.pointer (some ⟨b,0,none⟩))) wr):=by
  refine⟨b,v,vS,rfl,?_,H0.out.2.1.trans h.below,fun x hx=>?_⟩
  ·exact h.start.congr (fun i hi=>rfl) rfl
  rcases h.tb x hx with h3|h3
  ·exact H0.out.2.2 x h3
  exact le_trans H0.out.2.1.size h3
 clear h HL H0;go_wp2;go_ret;exact HF.out
theorem Ya(x:Nat)(h:x<18446744073709551616):IntKind.u64.wrap (x:Int)=x:=by
 simp only[IntKind.wrap,IntKind.bits,IntKind.signed];simp;omega
theorem Qg(N:Nat)(hN:N<4294967296):bits .and .u64 (N:Int) 4294967295=(N:Int):=by
 have h:=u64_and_nat N 4294967295 (by omega) (by omega);have e:N &&& 4294967295=N:=by
  rw[show (4294967295:Nat)=2 ^ 32-1 from rfl,Nat.and_two_pow_sub_one_eq_mod,Nat.mod_eq_of_lt hN]
 rw[e] at h;exact h
theorem zlz(N:Nat)(hN:N<=100000)(w:World):Calls prog 110 #[.int .u64 1,.int .u64 (N:Int)] w fun e w'=>e=.returned (.tuple #[.int .u64 0,.int .u64 (N:Int)])/\w=w':=by
 have h1:(N:Int) % 4294967296=(N:Int):=by omega
 have h2:(N:Int) / 4294967296=0:=by omega
 have h3:=Qg N (by omega);have h4:bits .and .u64 1 4294967295=1:=Qg 1 (by omega);have h5:bits .and .u64 0 4294967295=0:=Qg 0 (by omega);have h6:IntKind.u64.wrap (N:Int)=N:=Ya N (by omega);have h7:IntKind.u64.wrap 0=0:=by decide
 go_in;go_wp2;go_ret2;exact⟨rfl,rfl⟩
theorem znj(N:Nat)(hN:N<=100000)(w:World):Calls prog 71 #[.int .u64 1,.int .u64 (N:Int)] w fun e w'=>e=.returned (.tuple #[.int .u64 0,.int .u64 (N:Int)])/\w=w':=by
 have HM:=hid (zlz N hN w);go_in;go_wp2_with fail;refine HM.out.mono ?_;rintro e w2 ⟨rfl,rfl⟩;go_wp2;go_ret2;exact⟨rfl,rfl⟩
def Nt(N:Nat)(w:World)(e:Ending)(w':World):Prop:=
 ∃g,e=.returned (.slice (some ⟨g,0,none⟩) N N)/\w'.ownsRow w.heap.size 3 1 (.slice (some ⟨g,0,none⟩) N N) N (ints (replicate N (-1)))/\Below w.heap.size w w'
def jm(N n:Nat):List Value:=replicate n (.int .i64 (-1))++replicate (N-n) (.int .i64 0)
theorem Tl(N n:Nat)(h:n<=N):(jm N n).length=N:=by simp[jm];omega
theorem zhQ(N n m:Nat)(h:n+m<=N):splice (jm N n) n (replicate m (.int .i64 (-1)))=jm N (n+m):=by
 unfold splice jm;rw[List.take_append_of_le_length (by simp),take_of_length_le (by simp),length_replicate,List.drop_append];simp only[length_replicate,List.drop_replicate];rw[show n-(n+m)=0 by omega,List.replicate_zero,List.nil_append,<-List.append_assoc,List.replicate_append_replicate,show N-n-(n+m-n)=N-(n+m) by omega]
theorem znk(N:Nat):splice (replicate N (Value.int .i64 0)) 0 [.int .i64 (-1)]=jm N 1\/N=0:=by
 rcases Nat.eq_zero_or_pos N with h|h
 ·exact inr h
 left;unfold splice jm;simp
theorem VL(N:Nat)(YU:1<=N)(hN:N<=100000)(g:Nat)(w:World)(hc:w.cell? ⟨g,0,none⟩=some (.int .i64 (-1)))(hg:g<w.heap.size):
  Calls prog 40 #[.slice (some ⟨g,0,none⟩) 1 1,.int .i64 (N:Int)] w (Nt N w):=by
 have HM:=hid (znj N hN w);have hm:=G8 N (by omega);have i1:¬((N:Int)<0):=by omega
 have i2:IntKind.u64.wrap (N:Int)=N:=Ya N (by omega);have i3:¬((N:Int) > 9223372036854775807):=by omega
 have i4:IntKind.i64.wrap (N:Int)=N:=IntWalk.i64_in _ (by omega);have i5:IntKind.u64.wrap 1=1:=by decide
 have iI:=aG;go_in;go_wp2_with fail;refine HM.out.mono ?_;rintro e w2 ⟨rfl,rfl⟩;go_upto_region 7 with fail;have HG:Hid ((w.alloc (.cells (madeCells #[.int .i64 0] N) 3)).heap[w.heap.size]?=some (.cells (replicate N (.int .i64 0)).toArray 3 (0,0))/\Below w.heap.size w (w.alloc (.cells (madeCells #[.int .i64 0] N) 3))):=by
  refine⟨?_,al w _⟩;have:=(yM (C8 w w.heap.size N 3 (.int .i64 0) (le_refl _) (by unfold maxLen;omega))).1;exact this
 have fp:(w.alloc (.cells (madeCells #[.int .i64 0] N) 3)).cell? ⟨g,0,none⟩=some (.int .i64 (-1)):=((al w _).cell (p:=⟨g,0,none⟩) hg).trans hc;obtain⟨gN,km⟩:∃gN,w.heap.size=gN:=⟨_,rfl⟩
 rw[km] at HG⊢;generalize w.alloc (.cells (madeCells #[.int .i64 0] N) 3)=W1 at HG fp⊢;have AD:Nat.min 1 N=1:=Nat.min_eq_left YU;have HgN:=hid km;clear km hm hc HM;have jK:∀j v,([Value.int .i64 (-1)]:List Value)[j]?=some v->W1.cell? ((⟨g,0,none⟩:Addr).add j)=some v:=fun j v hj=>by
  have:j=0:=by
   have:=(List.getElem?_eq_some_iff.1 hj).1;simpa using this
  subst this;simp at hj;rw[<-hj];exact fp
 have OX:=hid jK;clear jK;have Gx:(prog.info? 3).map (·.size)=some 1:=by kernel_rfl
 have AO:0<([Value.int .i64 (-1)]:List Value).length->(some ⟨gN,0,none⟩:Option Addr)=some ⟨gN,0,none⟩/\∃ad,(some ⟨g,0,none⟩:Option Addr)=some ad/\∀j v,([Value.int .i64 (-1)]:List Value)[j]?=some v->W1.cell? (ad.add j)=some v:=fun _=>⟨rfl,⟨g,0,none⟩,rfl,OX.out⟩
 have rF:0+([Value.int .i64 (-1)]:List Value).length<=(replicate N (Value.int .i64 0)).length:=by rw[length_replicate];show 0+1<=N;omega
 have zB:∀v∈([Value.int .i64 (-1)]:List Value),v.oneCell'=true:=by intro v hv;rw[List.mem_singleton.1 hv];rfl
 have HP:=hid (Zz AO (Zz rF zB));have Rs:=hid AD;clear AO rF zB AD;go_wp2_with (refine wpList_copy_splice rfl _ _ _ _ rfl 3 underlying27 Gx (some ⟨gN,0,none⟩) (some ⟨g,0,none⟩) N N 1 1 rfl rfl gN 0 (replicate N (.int .i64 0)) 3 HG.out.1 [.int .i64 (-1)] Rs.out.symm HP.out.1 HP.out.2.1 HP.out.2.2 gN w HG.out.2 (le_refl _) ?_);intro W2 Kj mR;have H2:Hid (W2.heap[gN]?=some (.cells (jm N 1).toArray 3 (0,0))/\Below gN w W2):=by
  refine⟨?_,mR⟩;have h:=Kj.out;rcases znk N with e|e
  ·rw[e] at h;exact h
  omega
 clear Kj mR HG fp;go_wp2;go_loopw [8] (fun v wr=>∃n:Nat,v=.int .i64 n/\1<=n/\n<=N/\Hid (wr.heap[gN]?=some (.cells (jm N n).toArray 3 (0,0))/\Below gN w wr)) (fun v _=>N-(intOf v).toNat)
 ·exact⟨1,rfl,le_refl _,YU,H2.out⟩
 clear H2;obtain⟨n,rfl,da,hn,HL⟩:=hrel;by_cases aq:n<N
 ·have j1:(n:Int)<N:=by omega
  have j2:(n:Int)<=N:=by omega
  obtain⟨m,jw⟩:∃m,min n (N-n)=m:=⟨_,rfl⟩
  have iF:1<=m/\n+m<=N/\m<=n:=by omega
  have IU:Nat.min n (N-n)=m:=jw;have Hw:(replicate m (Value.int .i64 (-1))).length=Nat.min n (N-n):=by rw[length_replicate,IU]
  have AO:0<(replicate m (Value.int .i64 (-1))).length->(some ⟨gN,n,none⟩:Option Addr)=some ⟨gN,n,none⟩/\∃ad,(some ⟨gN,0,none⟩:Option Addr)=some ad/\∀j v,(replicate m (Value.int .i64 (-1)))[j]?=some v->wr.drew.cell? (ad.add j)=some v:=fun _=>⟨rfl,⟨gN,0,none⟩,rfl,fun j v hj=>by
   have hj2:j<m:=by simpa using (List.getElem?_eq_some_iff.1 hj).1
   have hv:v=.int .i64 (-1):=by
    have:=(List.getElem?_eq_some_iff.1 hj).2
    simpa using this.symm
   have hc:wr.cell? ⟨gN,j,none⟩=(jm N n).toArray[j]?:=cell_of_row wr gN j _ _ _ HL.out.1
   have e:(⟨gN,0,none⟩:Addr).add j=⟨gN,j,none⟩:=by unfold Addr.add;split <;> simp_all
   rw[e]
   show wr.cell? ⟨gN,j,none⟩=some v
   rw[hc,hv]
   simp[jm,List.getElem?_append,show j<n by omega]⟩
  have rF:n+(replicate m (Value.int .i64 (-1))).length<=(jm N n).length:=by rw[length_replicate,Tl N n hn];omega
  have zB:∀v∈replicate m (Value.int .i64 (-1)),v.oneCell'=true:=by intro v hv;rw[List.eq_of_mem_replicate hv];rfl
  have HP:=hid (Zz Hw (Zz AO (Zz rF zB)));have Mi:Hid (wr.drew.heap[gN]?=some (.cells (jm N n).toArray 3 (0,0))/\Below gN w wr.drew):=⟨HL.out.1,HL.out.2.drew⟩
  have HS:Hid (splice (jm N n) n (replicate m (Value.int .i64 (-1)))=jm N (n+m)):=zhQ N n m iF.2.1;have Hm:=hid (Zz jw iF);clear Hw AO rF zB jw IU iF;have hne:¬(N=n):=by omega
  go_upto_region 9 with fail;refine wp_region_held_drew (S:=fun W'=>Below gN w W') (by kernel_rfl) Mi.out.2 (fun hHeld=>?_)
  (refine an 0 ?_;refine an 1 ?_;refine an 2 ?_;try simp only[put,sA];refine an 3 ?_;refine an 4 ?_;refine an 5 ?_;try simp only[put,sA];refine an 6 ?_;try simp only[put,sA])
  refine bf 7 (fun K hK=>?_);skip;refine step_copy_splice (by rfl) _ _ _ _ (by rfl) 3 underlying27 Gx (some ⟨gN,n,none⟩) (some ⟨gN,0,none⟩) (N-n) (N-n) n N (by rfl) (by rfl) gN n (jm N n) 3 Mi.out.1 (replicate m (Value.int .i64 (-1))) HP.out.1 HP.out.2.1 HP.out.2.2.1 HP.out.2.2.2 gN w Mi.out.2 (le_refl _) ?_;intro W5 Ww ef;have H5:Hid (W5.heap[gN]?=some (.cells (jm N (n+m)).toArray 3 (0,0))/\Below gN w W5):=by
   have h:=Ww.out;rw[HS.out] at h;exact⟨h,ef⟩
  have hlen:(replicate m (Value.int .i64 (-1))).length=m:=length_replicate;rw[hlen];refine hK.out _ _ (ef) fun hHeld=>?_;clear hK K
  try simp only[put,sA]
  have w1:(n:Int)+(m:Int)<=100000:=by have:=Hm.out.2;omega
  have w2:IntKind.i64.wrap ((n:Int)+(m:Int))=(n:Int)+(m:Int):=IntWalk.i64_in _ (by omega)
  (refine an 8 ?_;refine an 9 ?_;try simp only[put,sA])
  refine wpAnyH_done (by kernel_rfl) ?_ _;clear Ww ef Mi HP HL HS hHeld;go_wp2;go_roundw
  ·exact⟨n+m,by go_num,by have:=Hm.out.2;omega,by have:=Hm.out.2;omega,H5.out⟩
  (have h8:=Hm.out.2;have h9:((n:Int)+(m:Int)).toNat=n+m:=(by omega);simp[intOf];omega)
 obtain rfl:n=N:=by omega
 have HF:Hid (Nt n w (.returned (.slice (some ⟨gN,0,none⟩) n n)) wr):=by
  refine⟨gN,rfl,?_,by rw[HgN.out];exact HL.out.2⟩;rw[HgN.out];have e:jm n n=ints (replicate n (-1)):=by simp[jm,ints]
  refine⟨by simp[ints],inr ⟨gN,n,_,rfl,le_refl _,HL.out.1,le_refl _,by unfold maxLen;omega,by simp[Tl n n (le_refl _)],?_⟩⟩;rw[<-e];simp[take_of_length_le,Tl n n (le_refl _)]
 clear HL;go_wp2;go_ret;exact HF.out
def o8(f:Nat->Int)(n:Nat):List Value:=(range n).map fun y=>Value.int .i64 (f y)
theorem ML(f:Nat->Int)(n x:Nat)(h:x<n):(o8 f n)[x]?=some (.int .i64 (f x)):=by simp[o8,h]
theorem Zc(f:Nat->Int)(n x:Nat)(v:Int):(o8 f n).set x (.int .i64 v)=o8 (fun y=>if y=x then v else f y) n:=by
 unfold o8;apply ext_getElem?;intro i;rw[List.getElem?_set];by_cases e:x=i
 ·subst e;by_cases h:x<n
  ·simp[h]
  simp[h]
 rw[if_neg e];by_cases h:i<n
 ·simp[h,Ne.symm e,show ¬i=x from fun h=>e h.symm]
 simp[h]
theorem Ze(n:Nat)(v:Int):ints (replicate n v)=o8 (fun _=>v) n:=by
 unfold o8 ints;apply ext_getElem?;intro i;by_cases h:i<n <;> simp[h]
def LL(x:Nat->Int):Int->List Nat->Prop
 | v,[]=>v=-1
 | v,a :: l=>v=(a:Int)/\LL x (x a) l
def chain(t:Nat->Nat)(k s:Nat):List Nat:=((range k).filter fun i=>t i == s).reverse
theorem Js(t:Nat->Nat)(k s i:Nat):i∈chain t k s↔i<k/\t i=s:=by simp[chain]
theorem zhB(t:Nat->Nat)(k s:Nat):(chain t k s).Nodup:=by
 unfold chain;exact List.pairwise_reverse.2 ((List.Nodup.sublist List.filter_sublist List.nodup_range).imp fun h=>Ne.symm h)
theorem zjG(t:Nat->Nat)(k s:Nat):chain t (k+1) s=if t k=s then k :: chain t k s else chain t k s:=by
 unfold chain;rw[range_succ,List.filter_append,List.reverse_append];by_cases h:t k=s
 ·simp[h]
 simp[h]
theorem LL.congr{x x':Nat->Int}:∀(l:List Nat) (v:Int),(∀a∈l,x a=x' a)->LL x v l->LL x' v l
 | [],_,_,h=>h
 | a :: l,v,e,h=>⟨h.1,by
   have h2:=h.2
   rw[e a List.mem_cons_self] at h2
   exact LL.congr l _ (fun b hb=>e b (List.mem_cons_of_mem _ hb)) h2⟩
theorem LL.link{t:Nat->Nat}{k:Nat}(h:∀s,s<N->LL x (f s) (chain t k s))(hk:t k<N):
  ∀s,s<N->LL (fun j=>if j=k then f (t k) else x j) (if s=t k then (k:Int) else f s) (chain t (k+1) s):=by
 intro s xF;rw[zjG];have hc:∀s,s<N->LL (fun j=>if j=k then f (t k) else x j) (f s) (chain t k s):=fun s xF=>
  LL.congr _ _ (fun a ha=>by
   have:=((Js t k s a).1 ha).1
   rw[if_neg (by omega)]) (h s xF)
 by_cases e:s=t k
 ·subst e;rw[if_pos rfl,if_pos rfl];refine⟨rfl,?_⟩;show LL _ (if k=k then f (t k) else x k) _;rw[if_pos rfl];exact hc _ xF
 rw[if_neg e,if_neg (fun e2=>e e2.symm)];exact hc _ xF
structure qG (W0 w:World)(b gF gX N:Nat)(f x:Nat->Int):Prop where
 aP:Below W0.heap.size W0 w
 st:St w 168 b #[.slice (some ⟨gF,0,none⟩) N N,.slice (some ⟨gX,0,none⟩) N N]
 fs:w.ownsRow W0.heap.size 3 1 (.slice (some ⟨gF,0,none⟩) N N) N (o8 f N)
 xs:w.ownsRow W0.heap.size 3 1 (.slice (some ⟨gX,0,none⟩) N N) N (o8 x N)
 ne:gF≠gX
 lo:W0.heap.size<=b
theorem qG.ab{b:Nat}(h:qG W0 w b gF gX N f x)(k:Below w.heap.size w w1):qG W0 w1 b gF gX N f x:=
 ⟨h.aP.trans (k.mono h.aP.size),h.st.ab k,cY h.fs k,cY h.xs k,h.ne,h.lo⟩
theorem qG.Sj{b:Nat}(h:qG W0 w b gF gX N f x)(i:Nat)(hi:i<N)(v:Int):qG W0 (w.setCell ⟨gX,i,none⟩ (.int .i64 v)) b gF gX N f (fun j=>if j=i then v else x j):=by
 have hk:Kept [] [gX] w (w.setCell ⟨gX,i,none⟩ (.int .i64 v)):=(Kept.refl _ _ _).setCell _ _ (inl (by simp));refine⟨h.aP.setCell (p:=⟨gX,i,none⟩) (kD h.xs gX rfl) _,h.st.fA (p:=⟨gX,i,none⟩) (fun e=>ew h.xs h.st (by decide) gX rfl e.symm) _,fC h.fs hk (by simp) (fun g e hm=>?_),?_,h.ne,h.lo⟩
 ·rw[List.mem_singleton.1 hm] at e;simp[ownBlock] at e;exact h.ne e
 rw[<-Zc];exact ua h.xs i hi _
theorem qG.Sk{b:Nat}(h:qG W0 w b gF gX N f x)(i:Nat)(hi:i<N)(v:Int):qG W0 (w.setCell ⟨gF,i,none⟩ (.int .i64 v)) b gF gX N (fun j=>if j=i then v else f j) x:=by
 have hk:Kept [] [gF] w (w.setCell ⟨gF,i,none⟩ (.int .i64 v)):=(Kept.refl _ _ _).setCell _ _ (inl (by simp));refine⟨h.aP.setCell (p:=⟨gF,i,none⟩) (kD h.fs gF rfl) _,h.st.fA (p:=⟨gF,i,none⟩) (fun e=>ew h.fs h.st (by decide) gF rfl e.symm) _,?_,fC h.xs hk (by simp) (fun g e hm=>?_),h.ne,h.lo⟩
 ·rw[<-Zc];exact ua h.fs i hi _
 rw[List.mem_singleton.1 hm] at e;simp[ownBlock] at e;exact h.ne e.symm
theorem qG.atF{b:Nat}(h:qG W0 w b gF gX N f x)(i:Nat)(hi:i<N):w.cell? ⟨gF,i,none⟩=some (.int .i64 (f i))/\w.frozen? ⟨gF,i,none⟩=false:=by
 obtain⟨g,e,_,_,hc⟩:=ek h.fs (by omega);injection e with e;injection e with e;subst e;obtain⟨h1,h2⟩:=hc i (by omega);exact⟨by rw[h1,ML _ _ _ hi],h2⟩
theorem qG.atX{b:Nat}(h:qG W0 w b gF gX N f x)(i:Nat)(hi:i<N):w.cell? ⟨gX,i,none⟩=some (.int .i64 (x i))/\w.frozen? ⟨gX,i,none⟩=false:=by
 obtain⟨g,e,_,_,hc⟩:=ek h.xs (by omega);injection e with e;injection e with e;subst e;obtain⟨h1,h2⟩:=hc i (by omega);exact⟨by rw[h1,ML _ _ _ hi],h2⟩
theorem zjH:∀(args:Array Value) (W:World),(callFunc 144 args).run prog W=.ok (.enter 144 args) W:=fun _ _=>by rfl
def zm3(W0 w:World)(b gF gX N:Nat)(f x:Nat->Int)(e:Ending)(w':World):Prop:=e=.returned (.tuple #[])/\qG W0 w' b gF gX N f x/\Kept [] [gF,gX] w w'
theorem ziL(W0 w:World)(b gF gX N:Nat)(f x:Nat->Int)(h:qG W0 w b gF gX N f x)(i t:Nat)(hi:i<N)(ht:t<N):
  Calls prog 144 #[.int .i64 (i:Int),.int .i64 (t:Int),.pointer (some ⟨b,0,none⟩)] w (zm3 W0 w b gF gX N (fun j=>if j=t then (i:Int) else f j) (fun j=>if j=i then f t else x j)):=by
 have c0:w.cell? ⟨b,0,none⟩=some (.slice (some ⟨gF,0,none⟩) N N):=h.st.at_ 0;have c1:w.cell? ⟨b,1,none⟩=some (.slice (some ⟨gX,0,none⟩) N N):=h.st.at_ 1;obtain⟨d0,d1⟩:=h.atF t ht;obtain⟨d2,d3⟩:=h.atX i hi;have eG:gX≠b:=ew h.xs h.st (by decide) gX rfl;have cr:gF≠b:=ew h.fs h.st (by decide) gF rfl;have dJ:b≠gX:=fun e=>eG e.symm
 have fj:b≠gF:=fun e=>cr e.symm
 have hF:=hid ((h.Sj i hi (f t)).Sk t ht (i:Int));have e1:gX≠gF:=fun e=>h.ne e.symm
 have e2:gF≠gX:=h.ne;have i1:(i:Int)<N:=by omega
 have i2:(t:Int)<N:=by omega
 clear h;generalize f t=ft at d0 hF⊢;generalize x i=xi at d2;go_in;go_wp2_with fail
 go_region
 go_wp2_with fail;go_end0;exact⟨rfl,hF.out.ab (Below.refl _ _).drew,(((Kept.refl _ _ _).setCell _ _ (inl (by simp))).setCell _ _ (inl (by simp))).drew⟩
def tD(D:Dd)(i c:Nat):Nat:=if i<D.n/\0<=D.nx i c then (D.nx i c).toNat else D.n
theorem DJ(h:DR D C)(i c:Nat)(hc:c<C):tD D i c<D.n+1:=by
 unfold tD;split
 ·rename_i h1;have:=h.nx i c h1.1 hc;omega
 omega
def Un(D:Dd)(c:Nat)(w:World)(e:Ending)(w':World):Prop:=
 ∃(gF gX:Nat) (f x:Nat->Int),e=.returned (.agg #[.slice (some ⟨gF,0,none⟩) (D.n+1) (D.n+1),.slice (some ⟨gX,0,none⟩) (D.n+1) (D.n+1)])/\
  w'.ownsRow w.heap.size 3 1 (.slice (some ⟨gF,0,none⟩) (D.n+1) (D.n+1)) (D.n+1) (o8 f (D.n+1))/\w'.ownsRow w.heap.size 3 1 (.slice (some ⟨gX,0,none⟩) (D.n+1) (D.n+1)) (D.n+1) (o8 x (D.n+1))/\
  (∀s,s<D.n+1->LL x (f s) (chain (fun i=>tD D i c) (D.n+1) s))/\Below w.heap.size w w'
theorem zfF(D:Dd)(C:Nat)(hR:DR D C)(c:Nat)(hc:c<C)(w:World)(hD:DM w D):
  Calls prog 115 #[.agg D.cD,.int .i64 (c:Int)] w (Un D c w):=by
 have cU:=hR.n2;obtain⟨N,hN⟩:∃N,D.n+1=N:=⟨_,rfl⟩
 have mm:Hid (∀(W:World) (g:Nat),W.cell? ⟨g,0,none⟩=some (.int .i64 (-1))->g<W.heap.size->Calls prog 40 #[.slice (some ⟨g,0,none⟩) 1 1,.int .i64 ((D.n:Int)+1)] W (Nt N W)):=fun W g h1 h2=>by
  have:=VL N (by omega) (by omega) g W h1 h2;rw[<-hN] at this⊢;exact this
 have HD:=hid hD;have HB:=hid (Zz (bz.new hD) (Zz (al w (.cells D.cD 29)) (Zz hR hN)));clear hD hR hN;go_in;go_upto_region 1 with fail;obtain⟨W1,pU⟩:∃W1,(w.alloc (.cells D.cD 29)).alloc (.cells #[.slice none 0 0,.slice none 0 0] 168)=W1:=⟨_,rfl⟩
 obtain⟨b0,ay⟩:∃b0,w.heap.size=b0:=⟨_,rfl⟩
 have H1:Hid (bz W1 b0 D/\St W1 168 (b0+1) #[.slice none 0 0,.slice none 0 0]/\Below b0 w W1):=by
  have k2:=al (w.alloc (.cells D.cD 29)) (.cells #[.slice none 0 0,.slice none 0 0] 168);rw[<-pU,<-ay];refine⟨HB.out.1.ab k2,?_,HB.out.2.1.trans (k2.mono (by simp))⟩;have:=St.new (w.alloc (.cells D.cD 29)) 168 #[.slice none 0 0,.slice none 0 0];rw[show (w.alloc (.cells D.cD 29)).heap.size=w.heap.size+1 by simp] at this;exact this
 have bW:=hid ay;rw[pU,ay];clear pU ay;have c1:=H1.out.1.f1;go_wp2_with fail;refine (mm.out _ _ (by exact cell_one_new _ _ _ 0 _ rfl) (by simp)).mono ?_;rintro e w5 ⟨gF,rfl,o5,b5⟩;obtain⟨W5,FW⟩:∃W5,W5=w5:=⟨_,rfl⟩
 have H5:Hid (w5.ownsRow b0 3 1 (.slice (some ⟨gF,0,none⟩) N N) N (o8 (fun _=>-1) N)/\St w5 168 (b0+1) #[.slice none 0 0,.slice none 0 0]/\Below b0 w w5/\gF<w5.heap.size/\Below W1.heap.size W1 w5):=by
  have k1:=al W1 (.cells #[.int .i64 (-1)] 3);have kM:=H1.out.2.2.size;have mC:b0<=W1.heap.size:=by have:=H1.out.2.1.lt;omega
  rw[Ze] at o5;exact⟨ga o5 (by simp;omega),(H1.out.2.1.ab k1).ab b5,H1.out.2.2.trans ((k1.mono mC).trans (b5.mono (by simp;omega))),lE o5 gF rfl,k1.trans (b5.mono (by simp))⟩
 clear o5 b5 FW W5;go_wp2_with fail;refine (mm.out _ _ (by exact cell_one_new _ _ _ 0 _ rfl) (by simp)).mono ?_;rintro e w6 ⟨gX,rfl,o6,b6⟩;have H6:Hid (w6.ownsRow b0 3 1 (.slice (some ⟨gF,0,none⟩) N N) N (o8 (fun _=>-1) N)/\w6.ownsRow b0 3 1 (.slice (some ⟨gX,0,none⟩) N N) N (o8 (fun _=>-1) N)/\St w6 168 (b0+1) #[.slice none 0 0,.slice none 0 0]/\Below b0 w w6/\gF≠gX/\Below W1.heap.size W1 w6):=by
  have k1:=al w5 (.cells #[.int .i64 (-1)] 3);have mC:b0<=w5.heap.size:=by have:=H5.out.2.1.lt;omega
  rw[Ze] at o6;have Jl:=kD o6 gX rfl;have aq:=H5.out.2.2.2.1;refine⟨cY (cY H5.out.1 k1) b6,ga o6 (by simp;omega),(H5.out.2.1.ab k1).ab b6,H5.out.2.2.1.trans ((k1.mono mC).trans (b6.mono (by simp;omega))),?_,H5.out.2.2.2.2.trans ((k1.mono H5.out.2.2.2.2.size).trans (b6.mono (by have:=H5.out.2.2.2.2.size;simp;omega)))⟩;rw[show (w5.alloc (.cells #[.int .i64 (-1)] 3)).heap.size=w5.heap.size+1 by simp] at Jl;omega
 clear o6 b6 H5 c1;go_upto_region 3 with fail;obtain⟨W7,Cn⟩:∃W7,w6.alloc (.cells #[.slice (some ⟨gF,0,none⟩) N N,.slice (some ⟨gX,0,none⟩) N N] 168)=W7:=⟨_,rfl⟩
 obtain⟨b6,eI⟩:∃b6,w6.heap.size=b6:=⟨_,rfl⟩
 have H7:Hid (qG w W7 b6 gF gX N (fun _=>-1) (fun _=>-1)/\St W7 168 (b0+1) #[.slice none 0 0,.slice none 0 0]/\b0+1≠b6/\Below W1.heap.size W1 W7):=by
  have k1:=al w6 (.cells #[.slice (some ⟨gF,0,none⟩) N N,.slice (some ⟨gX,0,none⟩) N N] 168);have mC:=H6.out.2.2.1.lt;rw[<-Cn,<-eI];refine⟨⟨?_,St.new _ _ _,?_,?_,H6.out.2.2.2.2.1,?_⟩,H6.out.2.2.1.ab k1,by omega,H6.out.2.2.2.2.2.trans (k1.mono (H6.out.2.2.2.2.2.size))⟩
  ·rw[bW.out];exact H6.out.2.2.2.1.trans (k1.mono (by omega))
  ·rw[bW.out];exact cY H6.out.1 k1
  ·rw[bW.out];exact cY H6.out.2.1 k1
  rw[bW.out];omega
 rw[Cn,eI];clear Cn eI H6;have iJ:=zjH;have HN:=HB.out.2.2.2;have c1:W7.cell? ⟨b0,256,none⟩=some (.slice D.aN D.n D.cN):=(H7.out.2.2.2.cell (p:=⟨b0,256,none⟩) H1.out.1.st.lt).trans H1.out.1.f1;go_wp2;go_loopw [8,9,10,27] (fun _ _ _ vk wr=>∃k:Nat,vk=.int .i64 k/\k<=D.n/\Hid (∃f x,qG w wr b6 gF gX N f x/\St wr 168 (b0+1) #[.slice none 0 0,.slice none 0 0]/\∀s,s<N->LL x (f s) (chain (fun i=>tD D i c) k s))) (fun _ _ _ v _=>D.n-(intOf v).toNat)
 ·exact⟨0,rfl,zero_le _,_,_,H7.out.1,H7.out.2.1,fun s _=>rfl⟩
 obtain⟨k,rfl,hk,HL⟩:=hrel;by_cases aq:k<D.n
 ·obtain⟨f,x,yR,sc,BU⟩:=HL.out;obtain⟨gN,oN,eN,_,pC⟩:=(HD.out.rN.below yR.aP) (by omega);obtain⟨cN,zN⟩:=pC k aq;rw[HB.out.2.2.1.len k aq] at cN zN;have Iv:0<C:=by omega
  obtain⟨gA,oA,eA,_,lC⟩:=zN Iv;have cA:=lC c hc;rw[eA] at cN;have yT:=HB.out.2.2.1.nx k c aq hc;obtain⟨t,ht⟩:∃t,tD D k c=t:=⟨_,rfl⟩
  have BY:t<N:=by rw[<-ht,<-HN];exact DJ HB.out.2.2.1 k c hc
  have HC:=hid (ziL w wr b6 gF gX N f x yR k t (by omega) BY);have Fe:=hid (LL.link (t:=fun i=>tD D i c) (k:=k) BU (by show tD D k c<N;rw[ht];exact BY));have rk:b0+1≠gF:=fun e=>ew yR.fs sc (by decide) gF rfl e.symm
  have nz:b0+1≠gX:=fun e=>ew yR.xs sc (by decide) gX rfl e.symm
  have zp:Hid (∀w',Kept [] [gF,gX] wr w'->St w' 168 (b0+1) #[.slice none 0 0,.slice none 0 0]):=fun w' hk=>sc.kept hk (by simp) (by simp[rk,nz])
  have Ht:=hid ht;have Vt:(D.nx k c=-1/\t=D.n)\/(D.nx k c≠-1/\D.nx k c=(t:Int)):=by
   rw[<-ht];unfold tD;by_cases h0:D.nx k c=-1
   ·exact inl ⟨h0,by rw[if_neg (by omega)]⟩
   exact inr ⟨h0,by rw[if_pos ⟨aq,by omega⟩];omega⟩
  have i1:(k:Int)<(D.n:Int):=by omega
  have i2:(c:Int)<C:=by omega
  rw[eN];have wF:=hid eN;generalize D.nx k c=nx at cA Vt;clear pC zN lC yR sc BU yT ht eA HL c1 HN eN rk nz;rcases Vt with ⟨rfl,rfl⟩|⟨h0,rfl⟩
  ·go_wp2_with fail;refine HC.out.mono ?_;rintro e w8 ⟨rfl,oK,xT⟩;have H8:=hid (Zz oK (zp.out _ xT));clear oK xT HC cN cA;go_wp2;go_roundw
   ·refine⟨k+1,by go_num,by omega,_,_,H8.out.1,H8.out.2,fun s hs=>?_⟩;have:=Fe.out s hs;simp only[Ht.out] at this;exact this
   simp[intOf];omega
  have i3:((t:Int) == -1)=false:=by rw[beq_eq_false_iff_ne];omega
  go_wp2_with fail;refine HC.out.mono ?_;rintro e w8 ⟨rfl,oK,xT⟩;have H8:=hid (Zz oK (zp.out _ xT));clear oK xT HC cN cA;go_wp2;go_roundw
  ·refine⟨k+1,by go_num,by omega,_,_,H8.out.1,H8.out.2,fun s hs=>?_⟩;have:=Fe.out s hs;simp only[Ht.out] at this;exact this
  simp[intOf];omega
 obtain rfl:k=D.n:=by omega
 obtain⟨f,x,yR,sc,BU⟩:=HL.out;have RO:tD D D.n c=D.n:=by unfold tD;rw[if_neg (by omega)]
 have HC:=hid (ziL w wr b6 gF gX N f x yR D.n D.n (by omega) (by omega));have Fe:=hid (LL.link (t:=fun i=>tD D i c) (k:=D.n) BU (by show tD D D.n c<N;rw[RO];omega));have rk:b0+1≠gF:=fun e=>ew yR.fs sc (by decide) gF rfl e.symm
 have nz:b0+1≠gX:=fun e=>ew yR.xs sc (by decide) gX rfl e.symm
 have zp:Hid (∀w',Kept [] [gF,gX] wr w'->St w' 168 (b0+1) #[.slice none 0 0,.slice none 0 0]):=fun w' hk=>sc.kept hk (by simp) (by simp[rk,nz])
 have Htn:=hid RO;have NH:=hid HN;clear yR sc BU RO HL c1 HN rk nz;go_wp2_with fail;refine HC.out.mono ?_;rintro e w8 ⟨rfl,oK,xT⟩;have vX:=zp.out _ xT;have s0:w8.cell? ⟨b6,0,none⟩=some (.slice (some ⟨gF,0,none⟩) N N):=oK.st.at_ 0;have s1:w8.cell? ⟨b6,1,none⟩=some (.slice (some ⟨gX,0,none⟩) N N):=oK.st.at_ 1;have s2:w8.cell? ⟨b0+1,0,none⟩=some (.slice none 0 0):=vX.at_ 0;have s3:w8.cell? ⟨b0+1,1,none⟩=some (.slice none 0 0):=vX.at_ 1;have z2:=vX.bb 0;have z3:=vX.bb 1;have H8:=hid (Zz oK vX);clear oK vX xT HC;have HF:Hid (Un D c w (.returned (.agg #[.slice (some ⟨gF,0,none⟩) N N,.slice (some ⟨gX,0,none⟩) N N])) ((w8.setCell ⟨b0+1,0,none⟩ (.slice (some ⟨gF,0,none⟩) N N)).setCell ⟨b0+1,1,none⟩ (.slice (some ⟨gX,0,none⟩) N N))):=by
  have hk:Kept [] [b0+1] w8 ((w8.setCell ⟨b0+1,0,none⟩ (.slice (some ⟨gF,0,none⟩) N N)).setCell ⟨b0+1,1,none⟩ (.slice (some ⟨gX,0,none⟩) N N)):=((Kept.refl _ _ _).setCell _ _ (inl (by simp))).setCell _ _ (inl (by simp));have o1:=fC H8.out.1.fs hk (by simp) (fun g e hm=>ew H8.out.1.fs H8.out.2 (by decide) g e (List.mem_singleton.1 hm));have o2:=fC H8.out.1.xs hk (by simp) (fun g e hm=>ew H8.out.1.xs H8.out.2 (by decide) g e (List.mem_singleton.1 hm));refine⟨gF,gX,_,_,by rw[NH.out],by rw[NH.out];exact o1,by rw[NH.out];exact o2,fun s hs=>?_,?_⟩
  ·have:=Fe.out s (by rw[<-NH.out];exact hs);simp only[Htn.out] at this;exact this
  have hb:=bW.out;exact (H8.out.1.aP.setCell (p:=⟨b0+1,0,none⟩) (by show w.heap.size<=b0+1;omega) _).setCell (p:=⟨b0+1,1,none⟩) (by show w.heap.size<=b0+1;omega) _
 go_wp2_with fail;refine bodyPost_ret (v:=.agg #[.slice (some ⟨gF,0,none⟩) N N,.slice (some ⟨gX,0,none⟩) N N]) (by simp[results,results115,go_sem,z2,z3,s2,s3]) rfl ?_;exact HF.out
def jQ(t:Nat->Nat)(N:Nat)(T:List Nat):List Nat:=T.flatMap (chain t N)
theorem Pd(t:Nat->Nat)(N:Nat)(T:List Nat)(i:Nat):i∈jQ t N T↔i<N/\t i∈T:=by
 unfold jQ;rw[List.mem_flatMap];constructor
 ·rintro⟨s,hs,h⟩;obtain⟨h1,h2⟩:=(Js t N s i).1 h;exact⟨h1,by rw[h2];exact hs⟩
 rintro⟨h1,h2⟩;exact⟨t i,h2,(Js t N _ i).2 ⟨h1,rfl⟩⟩
theorem XN(t:Nat->Nat)(N:Nat):∀(T:List Nat),T.Nodup->(jQ t N T).Nodup:=by
 intro T
 induction T with
 | nil=>intro _;simp[jQ]
 | cons s T ih=>
  intro h;have h2:=List.nodup_cons.1 h;show (chain t N s++jQ t N T).Nodup;rw[List.nodup_append];refine⟨zhB t N s,ih h2.2,fun a ha b hb e=>?_⟩;subst e;have h3:=((Js t N s a).1 ha).2;have h4:=((Pd t N T a).1 hb).2;rw[h3] at h4;exact h2.1 h4
theorem zlf(t:Nat->Nat)(N:Nat)(T:List Nat)(k:Nat)(h:k<T.length):jQ t N (T.take (k+1))=jQ t N (T.take k)++chain t N T[k]:=by
 unfold jQ;rw[N9 _ _ h,o0 _ _ _ h,List.flatMap_append];simp
structure lL (V:World)(B:Nat)(ls:List Nat)(l:List Nat)(v:Value)(w:World):Prop where
 kept:Kept [] ls V w
 below:Below B V w
 own:w.ownsRow B 3 1 v l.length (cW l)
 loc:∀g,v.ownBlock=some g->g∈ls\/V.heap.size<=g
 lo:B<=V.heap.size
theorem lL.ab{v:Value}(h:lL V B ls l v w)(k:Below w.heap.size w w1):lL V B ls l v w1:=
 ⟨h.kept.below k,h.below.trans (k.mono (le_trans h.lo h.below.size)),cY h.own k,h.loc,h.lo⟩
theorem lL.app{V:World}{B q:Nat}{ls l:List Nat}{v v':Value}{w w':World}{x:Nat}(h:lL V B ls l v w)(hq:l.length=q)(ho:w'.ownsRow B 3 1 v' (q+1) (cW l++[.int .i64 (x:Int)]))(hg:w.grownBy w' v.ownBlock)(fu:v'.ownBlock=v.ownBlock\/v'.ownBlock=some w.heap.size):lL V B ls (l++[x]) v' w':=by
 subst hq;have hB:B<=w.heap.size:=le_trans h.lo h.below.size;refine⟨h.kept.grown hg (fun g e=>(h.loc g e).elim inl (fun x=>inr (inl x))),fG h.below h.own hB hg,?_,fun g e=>?_,h.lo⟩
 ·rw[xG,List.length_append];exact ho
 rcases fu with e1|e1
 ·exact h.loc g (by rw[<-e1];exact e)
 rw[e] at e1;injection e1 with e1;exact inr (by have:=h.below.size;omega)
def B9:Value->Nat
 | .slice _ n _=>n
 | _=>0
def Tu(B:Nat)(ls l:List Nat)(w:World)(e:Ending)(w':World):Prop:=∃a c,e=.returned (.slice a l.length c)/\lL w B ls l (.slice a l.length c) w'
theorem zm4(N:Nat)(hN:N<=100000)(t:Nat->Nat)(ht:∀i,i<N->t i<N)(f x:Nat->Int)(BU:∀s,s<N->LL x (f s) (chain t N s))(gF gX:Nat)(B B1:Nat)(aS:Option Addr)(cS:Nat)(T:List Nat)(m:Nat)(hm:T.length=m)(hT:T.Nodup)(Tr:∀s∈T,s<N)(aT:Option Addr)(cT:Nat)(w:World)
  (oF:w.ownsRow B1 3 1 (.slice (some ⟨gF,0,none⟩) N N) N (o8 f N)) (oX:w.ownsRow B1 3 1 (.slice (some ⟨gX,0,none⟩) N N) N (o8 x N)) (oS:w.ownsRow B 3 1 (.slice aS 0 cS) 0 []) (hB:B<=w.heap.size) (hL:nA w aT T)
  (ls:List Nat) (vU:ls=(Value.slice aS 0 cS).ownBlock.toList) (nF:gF∉ls) (nX:gX∉ls) (nT:∀ad,aT=some ad->ad.block∉ls):
  Calls prog 117 #[.agg #[.slice (some ⟨gF,0,none⟩) N N,.slice (some ⟨gX,0,none⟩) N N],.slice aS 0 cS,.slice aT m cT] w (Tu B ls (jQ t N T) w):=by
 have hmN:m<=N:=by rw[<-hm];exact qC hT Tr
 have yF:∀k,k<=m->(jQ t N (T.take k)).length<=N:=fun k hk=>qC (XN t N _ (hT.sublist (List.take_sublist _ _))) (fun i hi=>((Pd t N _ i).1 hi).1)
 have Dz:∀g∈ls,g<w.heap.size:=fun g hg=>by
  rw[vU] at hg;exact lE oS g (by simpa using hg)
 have h0:lL w B ls [] (.slice aS 0 cS) w:=⟨Kept.refl _ _ _,Below.refl _ _,oS,fun g e=>inl (by rw[vU];simpa using e),hB⟩
 have k1:=al w (.cells #[.slice (some ⟨gF,0,none⟩) N N,.slice (some ⟨gX,0,none⟩) N N] 168);have Iv:=h0.ab k1;have Ho:=St.new w 168 #[.slice (some ⟨gF,0,none⟩) N N,.slice (some ⟨gX,0,none⟩) N N];have HX:=hid (Zz ht (Zz BU (Zz hm (Zz hT (Zz Tr (Zz oF (Zz oX (Zz hL (Zz nF (Zz nX (Zz nT (Zz yF Dz))))))))))));obtain⟨b3,dJ⟩:∃b3,w.heap.size=b3:=⟨_,rfl⟩
 have Kk:b3∉ls:=fun me=>by have:=Dz b3 me;omega
 rw[dJ] at Ho;have H1:=hid (Zz Iv (Zz Ho Kk));have qd:=hid dJ;clear ht BU hm hT Tr oF oX oS hB hL vU nF nX nT yF Dz h0 k1 Iv Ho Kk;go_in;go_upto_region 1 with fail;generalize w.alloc (.cells #[.slice (some ⟨gF,0,none⟩) N N,.slice (some ⟨gX,0,none⟩) N N] 168)=W1 at H1⊢;clear dJ;go_wp2;go_loopw [1,8,9,12] (fun v1 _ _ vk wr=>∃(k p:Nat) (a:Option Addr) (c:Nat),vk=.int .i64 k/\k<=m/\p<=N/\v1=.slice a p c/\Hid ((jQ t N (T.take k)).length=p/\lL w B ls (jQ t N (T.take k)) (.slice a p c) wr/\St wr 168 b3 #[.slice (some ⟨gF,0,none⟩) N N,.slice (some ⟨gX,0,none⟩) N N])) (fun _ _ _ v _=>m-(intOf v).toNat)
 ·exact⟨0,0,aS,cS,rfl,zero_le _,zero_le _,rfl,rfl,H1.out.1,H1.out.2.1⟩
 obtain⟨k,p,a,c,rfl,hk,hpN,rfl,HL⟩:=hrel;by_cases aq:k<m
 ·have hkl:k<T.length:=by rw[HX.out.2.2.1];exact aq
  obtain⟨gT,oT,eT,_,pN⟩:=(nA.tH HX.out.2.2.2.2.2.2.2.1 HL.out.2.1.kept HL.out.2.1.below.size HX.out.2.2.2.2.2.2.2.2.2.2.1) (by omega);have Sz:wr.cell? ⟨gT,oT+k,none⟩=some (.int .i64 ((T.getD k 0:Nat):Int)):=pN k hkl;rw[o0 _ _ _ hkl] at Sz;have NS:=HX.out.2.2.2.2.1 _ (List.getElem_mem hkl);have bU:=zlf t N T k hkl;have Em:=HX.out.2.1 _ NS;have yt:=HX.out.2.2.2.2.2.2.2.2.2.2.2.1 (k+1) (by omega);rw[bU] at yt;have Cf:=hid bU;obtain⟨s,hs⟩:∃s,T[k]=s:=⟨_,rfl⟩
  rw[hs] at Sz NS Em yt Cf;clear hs bU pN;obtain⟨P0,Hw⟩:∃P0,jQ t N (T.take k)=P0:=⟨_,rfl⟩
  rw[Hw] at yt Cf HL;obtain⟨cF,Qr⟩:∃cF:Nat->Int,cF=f:=⟨f,rfl⟩
  have XO:=fC HX.out.2.2.2.2.2.1 HL.out.2.1.kept (by simp) (fun g e me=>by simp[ownBlock] at e;rw[<-e] at me;exact HX.out.2.2.2.2.2.2.2.2.1 me);obtain⟨gF',eF,_,_,VK⟩:=ek XO (by omega);injection eF with eF;injection eF with eF;subst eF;have d0:=(VK s (by omega)).1;rw[ML _ _ _ NS] at d0;have s0:wr.cell? ⟨b3,0,none⟩=some (.slice (some ⟨gF,0,none⟩) N N):=HL.out.2.2.at_ 0;have i1:(k:Int)<m:=by omega
  have i2:(s:Int)<N:=by omega
  rw[eT];have HeT:=hid eT;have O9:=hid (Zz Em yt);clear VK XO eT Em yt Hw Qr;obtain⟨fs,kI⟩:∃fs,f s=fs:=⟨_,rfl⟩
  rw[kI] at d0 O9;clear kI;go_wp2_with fail;obtain⟨W9,TE⟩:∃W9,W9=wr:=⟨wr,rfl⟩
  clear TE W9 d0 s0 Sz;go_loopw [1,9] (fun v1 v9 wq=>∃(u:Int) (dn rest:List Nat) (p2:Nat) (a2:Option Addr) (c2:Nat),v9=.int .i64 u/\p2<=N/\v1=.slice a2 p2 c2/\Hid (chain t N s=dn++rest/\LL x u rest/\(P0++dn).length=p2/\lL w B ls (P0++dn) (.slice a2 p2 c2) wq/\St wq 168 b3 #[.slice (some ⟨gF,0,none⟩) N N,.slice (some ⟨gX,0,none⟩) N N])) (fun v1 _ _=>N-B9 v1)
  ·exact⟨fs,[],chain t N s,p,a,c,rfl,hpN,rfl,rfl,O9.out.1,by simpa using HL.out.1,by simpa using HL.out.2.1,HL.out.2.2⟩
  obtain⟨u,dn,rest,p2,a2,c2,rfl,fF,rfl,HK⟩:=hrel;rcases rest with _|⟨y,rest⟩
  ·obtain rfl:u=-1:=HK.out.2.1;have HZ:Hid (jQ t N (T.take (k+1))=P0++dn):=by
    show _=_;rw[Cf.out,HK.out.1,List.append_nil]
   have sD:Hid ((P0++dn).length=p2/\lL w B ls (P0++dn) (.slice a2 p2 c2) wr/\St wr 168 b3 #[.slice (some ⟨gF,0,none⟩) N N,.slice (some ⟨gX,0,none⟩) N N]):=HK.out.2.2;clear HK HL;go_wp2;go_roundw
   ·exact⟨k+1,p2,a2,c2,by go_num,by omega,fF,rfl,by rw[HZ.out];exact sD.out⟩
   simp[intOf];omega
  obtain⟨rfl,Gt⟩:u=(y:Int)/\LL x (x y) rest:=HK.out.2.1;have hy:y∈chain t N s:=by rw[HK.out.1];simp
  have hyN:=((Js t N s y).1 hy).1;have iy:p2+1<=N:=by
   have h1:=O9.out.2;rw[HK.out.1] at h1;have h2:=HK.out.2.2.1;simp at h1 h2;omega
  have Ys:=fC HX.out.2.2.2.2.2.2.1 HK.out.2.2.2.1.kept (by simp) (fun g e me=>by simp[ownBlock] at e;rw[<-e] at me;exact HX.out.2.2.2.2.2.2.2.2.2.1 me);have HoX:=hid Ys;have hO:=HK.out.2.2.2.1.own;rw[HK.out.2.2.1] at hO;have tj:B<=wr.heap.size:=le_trans HK.out.2.2.2.1.lo HK.out.2.2.2.1.below.size;obtain⟨i0,hi,dy,cJ,cv⟩:=info_parts aG;have i3:((y:Int) != -1)=true:=by first|(simp;done)|(simp;omega)
  have i4:(y:Int)<N:=by omega
  have Vv:=hid Gt;clear hy Ys Gt;go_wp2_with (at_builtin;refine wpList_append_own_at _ rfl _ _ 27 rfl B 3 i0 (.int .i64 0) 1 8 underlying27 hi dy cJ cv rfl (by decide) _ _ _ rfl (hO.alloc _) ⟨wr.heap.size,0,none⟩ 1 1 [.int .i64 (y:Int)] rfl rfl (cell_one_new _ _ _) ?d2 ?d3 ?d4 ?d5 ?_)
  case d2=>first|(intro u hu;simp at hu;subst hu;rfl)|rfl
  case d3=>unfold maxLen;omega
  case d4=>omega
  case d5=>first|(simp;omega)|omega
  intro v' w5 ah ag _ bJ;obtain⟨a5,c5,rfl⟩:=bP ah;have Lv:Hid (lL w B ls (P0++(dn++[y])) (.slice a5 (p2+1) c5) w5/\St w5 168 b3 #[.slice (some ⟨gF,0,none⟩) N N,.slice (some ⟨gX,0,none⟩) N N]):=by
   have h2:=HK.out.2.2.2.1.ab (al wr (.cells #[.int .i64 (y:Int)] 3));have h3:=h2.app (v':=.slice a5 (p2+1) c5) HK.out.2.2.1 ah ag (by
    rw[show (wr.alloc (.cells #[.int .i64 (y:Int)] 3)).heap.size=wr.heap.size+1 by simp]
    exact bJ)
   rw[<-List.append_assoc];exact⟨h3,(HK.out.2.2.2.2.alloc _).ae (hO.alloc _) (by decide) ag⟩
  have s1:w5.cell? ⟨b3,1,none⟩=some (.slice (some ⟨gX,0,none⟩) N N):=Lv.out.2.at_ 1;have VP:=fC HX.out.2.2.2.2.2.2.1 Lv.out.1.kept (by simp) (fun g e me=>by simp[ownBlock] at e;rw[<-e] at me;exact HX.out.2.2.2.2.2.2.2.2.2.1 me);obtain⟨gX',eX,_,_,UB⟩:=ek VP (by omega);injection eX with eX;injection eX with eX;subst eX;have d1:=(UB y (by omega)).1;rw[ML _ _ _ hyN] at d1;obtain⟨xy,hxy⟩:∃xy,x y=xy:=⟨_,rfl⟩
  rw[hxy] at d1 Vv;have Dl:Hid (chain t N s=(dn++[y])++rest/\(P0++(dn++[y])).length=p2+1):=by
   have h1:=HK.out.1;have h2:=HK.out.2.2.1;refine⟨by rw[h1];simp,?_⟩;simp at h2⊢;omega
  clear ah ag bJ VP UB hxy hO HK HoX;go_wp2;go_roundw
  ·exact⟨xy,dn++[y],rest,p2+1,a5,c5,rfl,iy,rfl,Dl.out.1,Vv.out,Dl.out.2,Lv.out.1,Lv.out.2⟩
  simp[B9];omega
 obtain rfl:k=m:=by omega
 have HF:Hid (Tu B ls (jQ t N T) w (.returned (.slice a p c)) wr):=by
  have h1:=HL.out;rw[take_of_length_le (by rw[HX.out.2.2.1];exact le_refl _)] at h1;refine⟨a,c,by rw[h1.1],?_⟩;rw[h1.1];exact h1.2.1
 clear HL;go_wp2;go_ret;exact HF.out
theorem bI.tH{b:Nat}{w':World}(h:bI V B bs b v vS P w)(k:Kept [] ls w w')(hB:Below B w w')(h1:∀x∈ls,x∉bF b v vS)(h2:∀x∈ls,V.heap.size<=x\/x∈bs):bI V B bs b v vS P w':=by
 refine⟨fun g o hg ho hn=>?_,h.below.trans hB,h.st.kept k (by simp) (fun hm=>h1 _ hm (uu.2 (inl rfl))),fun i hi=>fC (h.row i hi) k (by simp) (fun g e hm=>h1 _ hm (uu.2 (inr (inr ⟨i,hi,e⟩)))),h.sep,fC h.nO k (by simp) (fun g e hm=>h1 _ hm (uu.2 (inr (inl e)))),h.loc,h.mP,h.jW,h.lo⟩;refine k g o (h.kept g o hg ho hn) ho (fun hm=>?_);rcases h2 g hm with h3|h3
 ·have:=(Array.getElem?_eq_some_iff.1 hg).1;omega
 exact hn h3
theorem bI.blt{b:Nat}(h:bI V B bs b v vS P w):∀x∈bF b v vS,x<w.heap.size:=fun x hx=>by
 rcases uu.1 hx with rfl|e|⟨i,hi,e⟩
 ·exact h.st.lt
 ·exact lE h.nO x e
 ·exact lE (h.row i hi) x e
def mD(D:Dd)(i:Nat):Int:=if i<D.n then D.q i else -1
def qX(D:Dd)(μ:Int):List Nat:=(range D.n).filter fun i=>D.q i == μ
theorem Lh(D:Dd)(μ:Int)(i:Nat):i∈qX D μ↔i<D.n/\D.q i=μ:=by simp[qX]
theorem MB(D:Dd)(μ:Int):(qX D μ).Nodup:=List.Nodup.sublist List.filter_sublist List.nodup_range
theorem zps(D:Dd)(μ:Int):(qX D μ).length<=D.n:=qC (MB D μ) (fun i hi=>((Lh D μ i).1 hi).1)
theorem Nw(D:Dd)(μ:Int)(h:0<=μ)(i:Nat):i∈qX D μ↔mD D i=μ:=by
 rw[Lh];unfold mD;split
 ·rename_i h1;exact⟨fun h=>h.2,fun h=>⟨h1,h⟩⟩
 rename_i h1;exact⟨fun h=>absurd h.1 h1,fun h=>by omega⟩
structure yv (D:Dd)(C:Nat)(P:Pt)(ms:List Int):Prop where
 h:iH (D.n+1) C (tD D) (mD D) P C (fun _=>False)
 m:∀μ∈ms,∀x y,x<D.n+1->y<D.n+1->P.b x=P.b y->(mD D x=μ↔mD D y=μ)
 mu:P.mu (D.n+1)=D.n
theorem yv.start(D:Dd)(C:Nat):yv D C (fL (D.n+1)) []:=⟨iH.start (by omega),fun μ h=>by simp at h,by rw[zmP _ (by omega)];omega⟩
theorem yv.step{D:Dd}{C:Nat}{P:Pt}{ms:List Int}(hR:DR D C)(h:yv D C P ms)(μ:Int)(hμ:0<=μ):yv D C (mJ P (qX D μ)) (ms++[μ]):=by
 have hl:∀x∈qX D μ,x<D.n+1:=fun x hx=>by have:=((Lh D μ x).1 hx).1;omega
 have hd:=Ji h.h.pz (qX D μ) (MB D μ) hl;refine⟨h.h.yr (fun x c _ hc=>DJ hR x c hc) _ (MB D μ) hl (fun x y hx hy he=>by rw[Nw D μ hμ,Nw D μ hμ,he.mark]),fun ν hν x y hx hy hb=>?_,by rw[hd.mu];exact h.mu⟩;have h2:=(hd.b x y hx hy).1 hb;rcases List.mem_append.1 hν with h3|h3
 ·exact h.m ν h3 x y hx hy h2.1
 rw[List.mem_singleton.1 h3,<-Nw D μ hμ,<-Nw D μ hμ];exact h2.2
theorem yv.done{ms:List Int}(hR:DR D C)(h:yv D C P ms)(lP:∀μ∈ms,0<=μ)(eu:∀i,i<D.n->0<=D.q i->D.q i∈ms):∀x y,x<D.n+1->y<D.n+1->P.b x=P.b y->mD D x=mD D y:=by
 have one:∀x y,x<D.n+1->y<D.n+1->P.b x=P.b y->mD D x≠-1->mD D x=mD D y:=fun x y hx hy hb hne=>by
  have hY:x<D.n:=by
   refine(Classical.byContradiction fun h0=>hne ?_);unfold mD;rw[if_neg h0]
  have hq:mD D x=D.q x:=by unfold mD;rw[if_pos hY]
  have:=hR.q x hY;have hm:=eu x hY (by omega);rw[<-hq] at hm;exact ((h.m _ hm x y hx hy hb).1 rfl).symm
 intro x y hx hy hb;by_cases h1:mD D x=-1
 ·by_cases h2:mD D y=-1
  ·rw[h1,h2]
  exact (one y x hy hx hb.symm h2).symm
 exact one x y hx hy hb h1
def TI(D:Dd)(w:World)(e:Ending)(w':World):Prop:=
 ∃(ms:List Int) (aM:Option Addr) (cM:Nat) (A:Nat->Option Addr) (Cp:Nat->Nat),e=.returned (.slice aM ms.length cM)/\(∀μ∈ms,0<=μ)/\(∀i,i<D.n->0<=D.q i->D.q i∈ms)/\ms.length<=D.n/\Below w.heap.size w w'/\
  w'.ownsRow w.heap.size 27 1 (.slice aM ms.length cM) ms.length ((range ms.length).map fun j=>.slice (A j) (qX D (ms.getD j 0)).length (Cp j))/\
  ∀j,j<ms.length->w'.ownsRow w.heap.size 3 1 (.slice (A j) (qX D (ms.getD j 0)).length (Cp j)) (qX D (ms.getD j 0)).length (cW (qX D (ms.getD j 0)))
def P6(D:Dd)(C:Nat)(w:World)(e:Ending)(w':World):Prop:=
 ∃(bl:List Nat) (a:Option Addr) (c:Nat),e=.returned (.slice a (D.n+1) c)/\bl.length=D.n+1/\(∀x∈bl,x<=D.n+1)/\D.n+1<=c/\w'.ownsRow w.heap.size 3 1 (.slice a (D.n+1) c) (D.n+1) (cW bl)/\
  (∀x y,x<D.n+1->y<D.n+1->(bl.getD x 0=bl.getD y 0↔jB C (tD D) (mD D) x y))/\Below w.heap.size w w'
theorem uR:(prog.info? 168).map (fun i=>(i.zero,i.size,i.bytes))=some (some (.agg #[.slice none 0 0,.slice none 0 0]),2,48):=by kernel_rfl
def tv(N:Nat)(gF gX:Nat->Nat):Nat->List Value
 | 0=>[]
 | c+1=>tv N gF gX c++[.slice (some ⟨gF c,0,none⟩) N N,.slice (some ⟨gX c,0,none⟩) N N]
theorem zpt(N:Nat)(gF gX:Nat->Nat)(c:Nat):(tv N gF gX c).length=c*2:=by
 induction c with
 | zero=>rfl
 | succ c ih=>simp[tv,ih];omega
theorem Yy(N:Nat){gF gX gF' gX':Nat->Nat}:∀(c:Nat),(∀i,i<c->gF i=gF' i/\gX i=gX' i)->tv N gF gX c=tv N gF' gX' c
 | 0,_=>rfl
 | c+1,h=>by
   unfold tv
   rw[Yy N c (fun i hi=>h i (by omega)),(h c (by omega)).1,(h c (by omega)).2]
theorem Vz(N:Nat)(gF gX:Nat->Nat)(c i:Nat)(h:i<c):(tv N gF gX c)[i*2]?=some (.slice (some ⟨gF i,0,none⟩) N N)/\(tv N gF gX c)[i*2+1]?=some (.slice (some ⟨gX i,0,none⟩) N N):=by
 induction c with
 | zero=>omega
 | succ c ih=>
  have hl:=zpt N gF gX c;unfold tv;by_cases e:i=c
  ·subst e;rw[List.getElem?_append_right (by omega),List.getElem?_append_right (by omega),hl];simp
  rw[List.getElem?_append_left (by omega),List.getElem?_append_left (by omega)];exact ih (by omega)
structure zb (D:Dd)(N:Nat)(W3:World)(c:Nat)(vB:Value)(gF gX:Nat->Nat)(f x:Nat->Nat->Int)(w:World):Prop where
 below:Below W3.heap.size W3 w
 own:w.ownsRow W3.heap.size 168 2 vB c (tv N gF gX c)
 F:∀i,i<c->w.ownsRow W3.heap.size 3 1 (.slice (some ⟨gF i,0,none⟩) N N) N (o8 (f i) N)
 X:∀i,i<c->w.ownsRow W3.heap.size 3 1 (.slice (some ⟨gX i,0,none⟩) N N) N (o8 (x i) N)
 L:∀i,i<c->∀s,s<N->LL (x i) (f i s) (chain (fun k=>tD D k i) N s)
theorem zb.ab{W3:World}{vB:Value}{gF gX:Nat->Nat}{f x:Nat->Nat->Int}(h:zb D N W3 c vB gF gX f x w)(k:Below w.heap.size w w1):zb D N W3 c vB gF gX f x w1:=
 ⟨h.below.trans (k.mono h.below.size),cY h.own k,fun i hi=>cY (h.F i hi) k,fun i hi=>cY (h.X i hi) k,h.L⟩
theorem zb.app{D:Dd}{N c:Nat}{W3 w w':World}{vB Ug:Value}{gF gX:Nat->Nat}{f x:Nat->Nat->Int}{pF pX:Nat}{fc xc:Nat->Int}(h:zb D N W3 c vB gF gX f x w)(oF:w.ownsRow W3.heap.size 3 1 (.slice (some ⟨pF,0,none⟩) N N) N (o8 fc N))(oX:w.ownsRow W3.heap.size 3 1 (.slice (some ⟨pX,0,none⟩) N N) N (o8 xc N))(hL:∀s,s<N->LL xc (fc s) (chain (fun k=>tD D k c) N s))
  (ho:w'.ownsRow W3.heap.size 168 2 Ug (c+1) (tv N gF gX c++[.slice (some ⟨pF,0,none⟩) N N,.slice (some ⟨pX,0,none⟩) N N])) (hg:w.grownBy w' vB.ownBlock):
  zb D N W3 (c+1) Ug (fun i=>if i=c then pF else gF i) (fun i=>if i=c then pX else gX i) (fun i=>if i=c then fc else f i) (fun i=>if i=c then xc else x i) w':=by
 have kp:∀{v:Value}{xs:List Value},w.ownsRow W3.heap.size 3 1 v N xs->w'.ownsRow W3.heap.size 3 1 v N xs:=fun o=>sw o h.own (by decide) hg
 refine⟨fG h.below h.own h.below.size hg,?_,fun i hi=>?_,fun i hi=>?_,fun i hi=>?_⟩
 ·have e:tv N (fun i=>if i=c then pF else gF i) (fun i=>if i=c then pX else gX i) (c+1)=tv N gF gX c++[.slice (some ⟨pF,0,none⟩) N N,.slice (some ⟨pX,0,none⟩) N N]:=by
   show tv N _ _ c++_=_;rw[Yy N (gF':=gF) (gX':=gX) c (fun i hi=>⟨if_neg (by omega),if_neg (by omega)⟩)];simp
  rw[e];exact ho
 ·by_cases e:i=c
  ·simp only[if_pos e];exact kp oF
  simp only[if_neg e];exact kp (h.F i (by omega))
 ·by_cases e:i=c
  ·simp only[if_pos e];exact kp oX
  simp only[if_neg e];exact kp (h.X i (by omega))
 by_cases e:i=c
 ·simp only[if_pos e];rw[e];exact hL
 simp only[if_neg e];exact h.L i (by omega)
def E7(b i:Nat)(w:World):Nat:=match w.cell? ⟨b,i,none⟩ with
 | some v=>B9 v
 | none=>0
def DS(b N:Nat)(v9:Value)(w:World):Nat:=(N-E7 b 3 w)+E7 b 5 w+(if B9 v9=0 then 0 else 1)
theorem Tk{b:Nat}(h:bI V B bs b v vS P w)(N:Nat)(v9:Value):DS b N v9 w=P.mu N+(if B9 v9=0 then 0 else 1):=by
 have h1:E7 b 3 w=P.sp.length:=by
  unfold E7;rw[h.mY.1];obtain⟨a,c,e⟩:=bP h.nO;show B9 vS=_;rw[e];rfl
 have h2:E7 b 5 w=(P.L 4).length:=by
  unfold E7;rw[h.c4.1];obtain⟨a,c,e⟩:=h.Ej 4 (by omega) rfl;show B9 (v 4)=_;rw[e];rfl
 unfold DS Pt.mu;rw[h1,h2]
structure nQ (D:Dd)(C N:Nat)(Wb:World)(B0:Nat)(pb:List Nat)(b:Nat)(T:List Nat)(gT cT:Nat)(P:Pt)(v:Nat->Value)(vS:Value)(aS:Option Addr)(q cS:Nat)(L8:List Nat)(cd:Nat)(wr:World):Prop where
 pm:bI Wb B0 pb b v vS P wr
 ql:L8.length=q
 oS:wr.ownsRow Wb.heap.size 3 1 (.slice aS q cS) q (cW L8)
 sS:∀g,(Value.slice aS q cS).ownBlock=some g->g∉bF b v vS
 oT:wr.ownsRow Wb.heap.size 3 1 (.slice (some ⟨gT,0,none⟩) T.length cT) T.length (cW T)
 sT:gT∉bF b v vS
 JB:(Value.slice aS q cS).ownBlock≠some gT
 tn:T.Nodup
 tl:∀x∈T,x<N
 kd:iH N C (tD D) (mD D) P cd (fun z=>z∈T)
 dt:∀x y,x<N->y<N->P.b x=P.b y->mD D x=mD D y
section
variable {D : Dd}{C N B0 b gT cT q cS cd : Nat}{Wb wr : World}{pb T L8 : List Nat}{P : Pt}{v : Nat → Value}{vS : Value}{aS : Option Addr}
theorem nQ.sz(h:nQ D C N Wb B0 pb b T gT cT P v vS aS q cS L8 cd wr):Wb.heap.size<=wr.heap.size:=h.pm.below.size
theorem nQ.ab(h:nQ D C N Wb B0 pb b T gT cT P v vS aS q cS L8 cd wr)(k:Below wr.heap.size wr w1):nQ D C N Wb B0 pb b T gT cT P v vS aS q cS L8 cd w1:=
 ⟨h.pm.ab k,h.ql,cY h.oS k,h.sS,cY h.oT k,h.sT,h.JB,h.tn,h.tl,h.kd,h.dt⟩
theorem YP(a:Option Addr)(n c n':Nat):(Value.slice a n c).ownBlock=(Value.slice a n' c).ownBlock:=by cases a <;> rfl
theorem nQ.add{w5:World}{a:Option Addr}(h:nQ D C N Wb B0 pb b T gT cT P v vS aS q cS L8 cd wr)(hc:lL wr Wb.heap.size (Value.slice aS 0 cS).ownBlock.toList l (.slice a l.length c) w5):
  nQ D C N Wb B0 pb b T gT cT P v vS a l.length c l cd w5:=by
 have vU:∀x∈(Value.slice aS 0 cS).ownBlock.toList,(Value.slice aS q cS).ownBlock=some x:=fun x hx=>by
  rw[YP aS q cS 0];simpa using hx
 have GK:∀g,(Value.slice a l.length c).ownBlock=some g->(Value.slice aS q cS).ownBlock=some g\/wr.heap.size<=g:=fun g e=>by
  rcases hc.loc g e with h1|h1
  ·exact inl (vU g h1)
  exact inr h1
 have hB:Below B0 wr w5:=hc.below.mono h.pm.lo.2;refine⟨h.pm.tH hc.kept hB (fun x hx=>h.sS x (vU x hx)) (fun x hx=>inl (kD h.oS x (vU x hx))),rfl,hc.own,fun g e=>?_,fC h.oT hc.kept (by simp) (fun g e hm=>?_),h.sT,fun e=>?_,h.tn,h.tl,h.kd,h.dt⟩
 ·rcases GK g e with h1|h1
  ·exact h.sS g h1
  exact fun hm=>by have:=h.pm.blt g hm;omega
 ·have:=vU g hm;simp[ownBlock] at e;rw[<-e] at this;exact h.JB this
 rcases GK gT e with h1|h1
 ·exact h.JB h1
 have:=lE h.oT gT rfl;omega
theorem nQ.call(h:nQ D C N Wb B0 pb b T gT cT P v vS aS q cS L8 cd wr)(hN:N<=100000)(hn:L8.Nodup)(hl:∀x∈L8,x<N):
  Calls prog 114 #[.pointer (some ⟨b,0,none⟩),.slice aS q cS] wr (RT wr B0 (bF b v vS) b (mJ P L8)):=
 Xm N hN wr B0 b (bF b v vS) v vS P wr h.pm.start h.kd.pz L8 q h.ql hn hl aS cS (sx h.oS h.ql) (fun ad e=>h.sS ad.block (by rw[e];rfl))
theorem nQ.div(h:nQ D C N Wb B0 pb b T gT cT P v vS aS q cS L8 cd wr)(hN:D.n+1=N)(hR:DR D C)(JG:cd<C)(hn:L8.Nodup)(hl:∀x,x∈L8↔x<N/\tD D x cd∈T)(h6:bI wr B0 (bF b v vS) b v' vS' (mJ P L8) w6):
  nQ D C N Wb B0 pb b T gT cT (mJ P L8) v' vS' aS q cS L8 (cd+1) w6:=by
 have hlN:∀x∈L8,x<N:=fun x hx=>((hl x).1 hx).1
 have ht:∀x c,x<N->c<C->tD D x c<N:=fun x c _ hc=>by rw[<-hN];exact DJ hR x c hc
 have fA:∀g,g<wr.heap.size->g∉bF b v vS->g∉bF b v' vS':=fun g h1 h2 hm=>by
  rcases h6.tb g hm with h3|h3
  ·exact h2 h3
  omega
 have hd:=Ji h.kd.pz L8 hn hlN;refine⟨h.pm.back h6,h.ql,fC h.oS h6.kept (by simp) h.sS,fun g e=>fA g (lE h.oS g e) (h.sS g e),fC h.oT h6.kept (by simp) (fun g e=>?_),fA gT (lE h.oT gT rfl) h.sT,h.JB,h.tn,h.tl,h.kd.class JG ht L8 hn hl,fun x y hx hy hb=>h.dt x y hx hy ((hd.b x y hx hy).1 hb).1⟩;simp[ownBlock] at e;rw[<-e];exact h.sT
structure vG (D:Dd)(C N:Nat)(Wb:World)(B0:Nat)(pb:List Nat)(b:Nat)(P:Pt)(v:Nat->Value)(vS:Value)(aS:Option Addr)(q cS:Nat)(L8:List Nat)(wr:World):Prop where
 pm:bI Wb B0 pb b v vS P wr
 ql:L8.length=q
 oS:wr.ownsRow Wb.heap.size 3 1 (.slice aS q cS) q (cW L8)
 sS:∀g,(Value.slice aS q cS).ownBlock=some g->g∉bF b v vS
 kd:iH N C (tD D) (mD D) P C (fun _=>False)
 dt:∀x y,x<N->y<N->P.b x=P.b y->mD D x=mD D y
theorem nQ.all(h:nQ D C N Wb B0 pb b T gT cT P v vS aS q cS L8 C wr):vG D C N Wb B0 pb b P v vS aS q cS L8 wr:=
 ⟨h.pm,h.ql,h.oS,h.sS,⟨h.kd.pz,h.kd.sat,fun _ _ _ _ _=>Iff.rfl,fun x y hx hy hb c hc=>by
  rcases h.kd.kd x y hx hy hb c hc with h1|h1
  ·exact inl h1
  ·omega⟩,h.dt⟩
theorem vG.call(h:vG D C N Wb B0 pb b P v vS aS q cS L8 wr)(hN:N<=100000):Calls prog 116 #[.pointer (some ⟨b,0,none⟩)] wr (Ih wr B0 (bF b v vS) b P wr):=
 znl N hN wr B0 b (bF b v vS) v vS P wr h.pm.start h.kd.pz
theorem vG.take{g:Nat}(h:vG D C N Wb B0 pb b P v vS aS q cS L8 wr)(hN:D.n+1=N)(hR:DR D C)(hne:P.L 4≠[])(hB:Below B0 wr w6)(ho:w6.ownsRow wr.heap.size 3 1 (.slice (some ⟨g,0,none⟩) (eU P).length c) (eU P).length (cW (eU P)))(h6:bI wr B0 (bF b v vS) b v' vS' (gQ P) w6)(hg:g∉bF b v' vS'):
  nQ D C N Wb B0 pb b (eU P) g c (gQ P) v' vS' aS q cS L8 0 w6/\0<(eU P).length/\(gQ P).mu N+1=P.mu N:=by
 have ht:∀x c,x<N->c<C->tD D x c<N:=fun x c _ hc=>by rw[<-hN];exact DJ hR x c hc
 obtain⟨t1,t2,t3,t4,t5,t6,t7,t8⟩:=h.kd.take hne ht;have fA:∀g,g<wr.heap.size->g∉bF b v vS->g∉bF b v' vS':=fun g h1 h2 hm=>by
  rcases h6.tb g hm with h3|h3
  ·exact h2 h3
  omega
 refine⟨⟨h.pm.back h6,h.ql,fC h.oS h6.kept (by simp) h.sS,fun g e=>fA g (lE h.oS g e) (h.sS g e),ga ho h.pm.below.size,hg,fun e=>?_,t4,fun x hx=>((t5 x).1 hx).1,t6,fun x y hx hy hb=>h.dt x y hx hy (by rw[<-t8,<-t8];exact hb)⟩,?_,t7⟩
 ·have h1:=lE h.oS g e;have h2:=kD ho g rfl;omega
 unfold eU;have hl:=h.kd.pz.1.l0;simp;omega
theorem vG.none(h:vG D C N Wb B0 pb b P v vS aS q cS L8 wr)(h6:bI wr B0 (bF b v vS) b v' vS' P w6):vG D C N Wb B0 pb b P v' vS' aS q cS L8 w6:=by
 refine⟨h.pm.back h6,h.ql,fC h.oS h6.kept (by simp) h.sS,fun g e hm=>?_,h.kd,h.dt⟩;rcases h6.tb g hm with h3|h3
 ·exact h.sS g e h3
 have:=lE h.oS g e;omega
end
def DvR(D:Dd)(C N:Nat)(Wb:World)(B0:Nat)(pb:List Nat)(b:Nat)(v8 v9:Value)(wq:World):Prop:=
 ∃(aS:Option Addr) (q cS:Nat),v8=.slice aS q cS/\q<=N/\((v9=.slice none 0 0/\∃P v vS L8,vG D C N Wb B0 pb b P v vS aS q cS L8 wq/\P.L 4=[])\/
  ∃gT m cT,v9=.slice (some ⟨gT,0,none⟩) m cT/\0<m/\m<=N/\∃T P v vS L8,T.length=m/\nQ D C N Wb B0 pb b T gT cT P v vS aS q cS L8 0 wq)
theorem vG.Um{B0 b q cS:Nat}{Wb wr:World}{pb L8:List Nat}{aS:Option Addr}{e:Ending}(h:vG D C N Wb B0 pb b P v vS aS q cS L8 wr)(hN:D.n+1=N)(hR:DR D C)(hq:q<=N)(ht:Ih wr B0 (bF b v vS) b P wr e w6):
  ∃v9,e=.returned v9/\DvR D C N Wb B0 pb b (.slice aS q cS) v9 w6/\DS b N v9 w6=P.mu N:=by
 rcases ht with ⟨h1,rfl,v',vS',h2⟩|⟨h1,g,c,v',vS',rfl,ho,h2,hg⟩
 ·have hz:=h.none h2;exact⟨_,rfl,⟨aS,q,cS,rfl,hq,inl ⟨rfl,P,v',vS',L8,hz,h1⟩⟩,by rw[Tk hz.pm];rfl⟩
 obtain⟨hi,hl,hm⟩:=h.take hN hR h1 h2.below ho h2 hg;refine⟨_,rfl,⟨aS,q,cS,rfl,hq,inr ⟨g,_,c,rfl,hl,qC hi.tn hi.tl,eU P,gQ P,v',vS',L8,rfl,hi⟩⟩,?_⟩;rw[Tk hi.pm,<-hm];show _+(if (eU P).length=0 then 0 else 1)=_;rw[if_neg (by omega)]
theorem zll(a:Option Addr)(n c:Nat)(W:World):(binOp .neq 27 (.slice a n c) (.slice none 0 0)).run prog W=.ok (.bool a.isSome) W:=by
 have h:=run_equal_slice_nil W 27 3 a n c underlying27;unfold binOp;simp only[Sem.run_bind,h,Result.andThen_ok,Sem.run_pure];cases a <;> rfl
theorem zjK(D:Dd)(C:Nat)(hR:DR D C)(w:World)(hD:DM w D)(hBy:∀W,DM W D->Calls prog 113 #[.agg D.cD] W (TI D W)):
  Calls prog 80 #[.agg D.cD] w (P6 D C w):=by
 have cU:=hR.n2;have tX:=(hR.iq hD.kl).2;obtain⟨N,hN⟩:∃N,D.n+1=N:=⟨_,rfl⟩
 have FI:N<=100000:=by omega
 have HBy:=hid hBy;have HB:=hid (Zz (bz.new hD) (Zz (al w (.cells D.cD 29)) (Zz hR hN)));have HWh:Hid (∀W,Calls prog 112 #[.int .i64 ((D.n:Int)+1)] W (OZ N W)):=fun W=>by
  have:=zlB N FI W;rw[<-hN] at this⊢;exact this
 clear hD hR hN hBy;go_in;go_upto_region 1 with fail;generalize w.alloc (.cells D.cD 29)=W0 at HB⊢;obtain⟨b0,ay⟩:∃b0,w.heap.size=b0:=⟨_,rfl⟩
 have bW:=hid ay;rw[ay] at HB;rw[ay];clear ay;have f1:=HB.out.1.f1;go_wp2_with fail;refine (HWh.out _).mono ?_;rintro e w1 ⟨b,v,vS,rfl,AO,MY,Hi⟩;have vb:=hid (Zz (HB.out.1.ab MY) (HB.out.2.1.trans (MY.mono (by have:=HB.out.2.1.size;have:=bW.out;omega))));have eV:=hid (Zz AO Hi);have Bc:Hid (w.heap.size<=w1.heap.size/\w.heap.size<=W0.heap.size/\Below W0.heap.size W0 w1):=⟨by have:=vb.out.2.size;have:=bW.out;omega,by have:=HB.out.2.1.size;have:=bW.out;omega,MY⟩
 clear AO MY Hi f1;go_wp2_with (refine jr (by rfl) 29 _ rfl ⟨b0,0,none⟩ rfl D.cD _ vb.out.1.st.part underlying29 rfl vb.out.1.dm.info ?_);refine (HBy.out _ vb.out.1.dm).mono ?_;rintro e w2 ⟨ms,aM,cM,A,Cp,rfl,Kw,eu,iX,b2,oM,oR⟩;obtain⟨nm,k8⟩:∃nm,ms.length=nm:=⟨_,rfl⟩
 rw[k8] at iX oM;have HM:=hid (Zz Kw (Zz eu (Zz k8 (Zz oM oR))));have HD2:=hid (Zz (vb.out.1.ab b2) (vb.out.2.trans (b2.mono (by have:=Bc.out.1;have:=bW.out;omega))));have kO:Hid (bI w2 W0.heap.size (bF b v vS) b v vS (fL N) w2/\∀x∈bF b v vS,W0.heap.size<=x/\x<w1.heap.size):=⟨(eV.out.1.ab b2).start.congr (fun i hi=>rfl) rfl,fun x hx=>⟨eV.out.2 x hx,eV.out.1.blt x hx⟩⟩
 have Hsz:Hid (w1.heap.size<=w2.heap.size/\Below W0.heap.size W0 w2):=⟨b2.size,Bc.out.2.2.trans (b2.mono Bc.out.2.2.size)⟩
 rw[k8];clear Kw eu k8 b2 oM oR eV;go_wp2;go_loopw [5,20] (fun _ vj wr=>∃j:Nat,vj=.int .i64 j/\j<=nm/\Hid (∃v' vS' P,bI w2 W0.heap.size (bF b v vS) b v' vS' P wr/\yv D C P (ms.take j))) (fun _ v _=>nm-(intOf v).toNat)
 ·exact⟨0,rfl,zero_le _,v,vS,fL N,kO.out.1,by rw[<-HB.out.2.2.2];exact yv.start D C⟩
 obtain⟨j,rfl,hj,HL⟩:=hrel;by_cases aq:j<nm
 ·obtain⟨v',vS',P,hP,hI⟩:=HL.out;have J0:j<ms.length:=by rw[HM.out.2.2.1];exact aq
  obtain⟨μ,hμ⟩:∃μ,ms.getD j 0=μ:=⟨_,rfl⟩
  have hμ0:0<=μ:=by
   rw[<-hμ,o0 _ _ _ J0];exact HM.out.1 _ (List.getElem_mem J0)
  have D7:=HM.out.2.2.2.2 j J0;rw[hμ] at D7;have Qh:=HM.out.2.2.2.1;have Z4:=fC Qh hP.kept (by simp) (fun g e hm=>by have h1:=kD Qh g e;have h2:=(kO.out.2 g hm).2;omega);obtain⟨gM,rfl,_,_,Wx⟩:=ek Z4 (by omega);have d0:=(Wx j (by omega)).1;rw[List.getElem?_map,List.getElem?_range (by omega)] at d0;replace d0:wr.cell? ⟨gM,j,none⟩=some (.slice (A j) (qX D (ms.getD j 0)).length (Cp j)):=d0;rw[hμ] at d0;obtain⟨q,hq⟩:∃q,(qX D μ).length=q:=⟨_,rfl⟩
  rw[hq] at d0 D7;have EI:q<=D.n:=by rw[<-hq];exact zps D μ
  have Wa:=fC D7 hP.kept (by simp) (fun g e hm=>by have h1:=kD D7 g e;have h2:=(kO.out.2 g hm).2;omega);have hPs:=hP.start;have Kt:∀ad,A j=some ad->ad.block∉bF b v' vS':=fun ad e hm=>by
   have e1:(Value.slice (A j) q (Cp j)).ownBlock=some ad.block:=(by rw[e];rfl);have h1:=kD D7 _ e1;have h3:=lE D7 _ e1;rcases hP.tb _ hm with h2|h2
   ·have:=(kO.out.2 _ h2).2;omega
   omega
  have HC:=hid (Xm N FI wr W0.heap.size b (bF b v' vS') v' vS' P wr hPs (by rw[<-HB.out.2.2.2];exact hI.h.pz) (qX D μ) q hq (MB D μ) (fun x hx=>by have:=((Lh D μ x).1 hx).1;have:=HB.out.2.2.2;omega) (A j) (Cp j) (sx Wa hq) Kt);have HI:Hid (yv D C (mJ P (qX D μ)) (ms.take (j+1))):=by
   have h:=hI.step HB.out.2.2.1 μ hμ0;have e:ms.take (j+1)=ms.take j++[μ]:=by
    rw[List.take_add_one,List.getElem?_eq_getElem J0,<-hμ,o0 _ _ _ J0];rfl
   show yv D C _ (ms.take (j+1));rw[e];exact h
  have uq:=hid hP;have i1:(j:Int)<nm:=by omega
  clear hP hI D7 Qh Z4 Wx hμ hq Wa hPs Kt HL;go_wp2_with fail;refine HC.out.mono ?_;rintro e w5 ⟨v5,rU,rfl,oY⟩;have yL:=hid (uq.out.back oY);clear oY HC uq d0;go_wp2;go_roundw
  ·exact⟨j+1,by go_num,by omega,v5,rU,_,yL.out,HI.out⟩
  simp[intOf];omega
 obtain rfl:j=nm:=by omega
 obtain⟨v3,se,P3,zB,I4⟩:=HL.out;rw[take_of_length_le (by rw[HM.out.2.2.1];exact le_refl _)] at I4;have Eu:=kO.out.2;have VI:Hid (iH N C (tD D) (mD D) P3 C (fun _=>False)/\(∀x y,x<N->y<N->P3.b x=P3.b y->mD D x=mD D y)/\P3.mu N=D.n):=by
  refine⟨by rw[<-HB.out.2.2.2];exact I4.h,?_,by rw[<-HB.out.2.2.2];exact I4.mu⟩;rw[<-HB.out.2.2.2];exact I4.done HB.out.2.2.1 HM.out.1 HM.out.2.1
 have CP:Below W0.heap.size W0 wr:=Hsz.out.2.trans zB.below;obtain⟨W3,uL⟩:∃W3,W3=wr:=⟨wr,rfl⟩
 have BR:Hid (bI W3 W0.heap.size (bF b v3 se) b v3 se P3 W3):=by rw[uL];exact zB.start
 have C0:Hid (bz wr b0 D/\Below W0.heap.size W0 wr):=⟨HB.out.1.ab CP,CP⟩
 clear zB I4 Eu CP HL kO HM HD2 vb;go_wp2_with (refine jr (by rfl) 25 _ rfl ⟨b0,0,none⟩ rfl (aQ D.K) _ C0.out.1.dG underlying25 rfl (vt D.K) ?_);refine (FC D.K C HB.out.2.2.1.c HB.out.1.dm.kl _).mono ?_;rintro e w4 ⟨rfl,b4⟩;have H4:Hid (zb D N W3 0 (.slice none 0 0) (fun _=>0) (fun _=>0) (fun _ _=>0) (fun _ _=>0) w4):=by
  rw[uL];exact⟨b4,ownsRow_nil _ _ _ _,fun i hi=>absurd hi (by omega),fun i hi=>absurd hi (by omega),fun i hi=>absurd hi (by omega)⟩
 rw[<-uL] at C0;clear uL b4;go_wp2;go_loopw [6,7,31] (fun v6 _ vc wq=>∃(c:Nat) (aB:Option Addr) (cB:Nat),vc=.int .i64 c/\c<=C/\v6=.slice aB c cB/\Hid (∃gF gX f x,zb D N W3 c (.slice aB c cB) gF gX f x wq)) (fun _ _ v _=>C-(intOf v).toNat)
 ·exact⟨0,none,0,rfl,zero_le _,rfl,_,_,_,_,H4.out⟩
 obtain⟨c,aB,cB,rfl,hc,rfl,HK⟩:=hrel;by_cases mj:c<C
 ·obtain⟨gF,gX,f,x,hK⟩:=HK.out;have K0:=hid (C0.out.1.ab hK.below);have HC:=hid (zfF D C HB.out.2.2.1 c mj wr K0.out.dm);have LK:=hid hK;have i1:(c:Int)<C:=by omega
  obtain⟨i0,hi,dy,cJ,cv⟩:=info_parts uR;clear hK HK;go_wp2_with (refine jr (by rfl) 29 _ rfl ⟨b0,0,none⟩ rfl D.cD _ K0.out.st.part underlying29 rfl K0.out.dm.info ?_);refine HC.out.mono ?_;rintro e w5 ⟨pF,pX,fc,xc,rfl,oF,oX,hL,b5⟩;rw[HB.out.2.2.2] at oF oX hL⊢;have NP:=LK.out.ab b5;have hO:=NP.own;have tj:=NP.below.size;have H5:=hid (Zz NP (Zz (ga oF LK.out.below.size) (Zz (ga oX LK.out.below.size) hL)));clear oF oX hL b5 NP HC K0;go_wp2_with (at_builtin;refine wpList_append_own_at _ rfl _ _ 166 rfl W3.heap.size 168 i0 (.agg #[.slice none 0 0,.slice none 0 0]) 2 48 underlying166 hi dy cJ cv rfl (by decide) _ _ _ rfl (hO.alloc _) ⟨w5.heap.size,0,none⟩ 1 1 [.slice (some ⟨pF,0,none⟩) N N,.slice (some ⟨pX,0,none⟩) N N] rfl rfl (cell_two_new _ _ _ _) ?d2 ?d3 ?d4 ?d5 ?_)
  case d2=>intro u hu;simp at hu;rcases hu with rfl|rfl <;> rfl
  case d3=>unfold maxLen;omega
  case d4=>omega
  case d5=>first|(simp;omega)|omega
  intro v6 w6 aj af _ dg;obtain⟨a6,c6,rfl⟩:=bP aj;have H6:Hid (∃gF gX f x,zb D N W3 (c+1) (.slice a6 (c+1) c6) gF gX f x w6):=by
   have k:=al w5 (.cells #[.slice (some ⟨pF,0,none⟩) N N,.slice (some ⟨pX,0,none⟩) N N] 168);exact⟨_,_,_,_,(H5.out.1.ab k).app (cY H5.out.2.1 k) (cY H5.out.2.2.1 k) H5.out.2.2.2 aj af⟩
  clear aj af dg hO H5 LK;go_wp2;go_roundw
  ·exact⟨c+1,a6,c6,by go_num,by omega,rfl,H6.out⟩
  simp[intOf];omega
 obtain rfl:c=C:=by omega
 obtain⟨gF,gX,f,x,hK⟩:=HK.out;obtain⟨Wb,Gr⟩:∃Wb,Wb=wr:=⟨wr,rfl⟩
 have gH:Hid (zb D N W3 c (.slice aB c cB) gF gX f x Wb):=by rw[Gr];exact hK
 have XZ:bI Wb W0.heap.size (bF b v3 se) b v3 se P3 Wb:=by rw[Gr];exact (BR.out.ab hK.below).start
 have WJ:Hid (vG D c N Wb W0.heap.size (bF b v3 se) b P3 v3 se none 0 0 [] Wb):=⟨XZ,rfl,ownsRow_nil _ _ _ _,fun g e=>by simp[ownBlock] at e,VI.out.1,VI.out.2.1⟩
 have MI:Hid (bz Wb b0 D/\Below W0.heap.size W0 Wb/\(∀y∈bF b v3 se,y<W3.heap.size)):=by rw[Gr];exact⟨C0.out.1.ab hK.below,C0.out.2.trans (hK.below.mono C0.out.2.size),BR.out.blt⟩
 have HT:=hid (WJ.out.call FI);rw[<-Gr];clear XZ hK Gr HK C0;go_wp2_with fail;refine HT.out.mono ?_;rintro e w6 h6;obtain⟨v9,rfl,Gq,MP⟩:=WJ.out.Um HB.out.2.2.2 HB.out.2.2.1 (zero_le _) h6;have Jx:=hid Gq;have CG:=zll;clear Gq MP h6 HT;go_wp2;go_loopw [8,9,11,49] (fun v8 v9 _ _ wq=>DvR D c N Wb W0.heap.size (bF b v3 se) b v8 v9 wq) (fun _ v9 _ _ wq=>DS b N v9 wq)
 ·exact Jx.out
 clear Jx;obtain⟨aS,q,cS,rfl,hq,hR⟩:=hrel;rcases hR with ⟨rfl,P,v5,rU,L8,hZ,BJ⟩|⟨gT,m,cT,rfl,oW,hmN,T,P,v5,rU,L8,UH,hI⟩
 ·have b2:=hZ.pm.c2.1;have gy:=hZ.kd.pz.1.l2;obtain⟨a2,c2,e2⟩:=hZ.pm.Ej 2 (by omega) gy;have HF:Hid (P6 D c w (.returned (.slice a2 N c2)) wr):=by
   have ho:=hZ.pm.row 2 (by omega);rw[gy,e2] at ho;have fp:N<=c2:=by
    rcases ho.2 with ⟨h1,h0⟩|⟨_,cap,_,h1,_,_,h2,_⟩
    ·have:=HB.out.2.2.2;omega
    injection h1 with _ e1 e3;omega
   have TX:=Bc.out.2.1;refine⟨P.L 2,a2,c2,?_,?_,?_,?_,?_,?_,?_⟩
   ·rw[HB.out.2.2.2]
   ·rw[HB.out.2.2.2];exact gy
   ·rw[HB.out.2.2.2];intro x hx;obtain⟨i,hi,e⟩:=List.getElem_of_mem hx;have h1:=(hZ.kd.pz.1.bk i (by omega)).1;have h2:=hZ.kd.pz.1.len;have h3:P.b i=x:=by
     show (P.L 2).getD i 0=x;rw[getD_eq_getElem?_getD,List.getElem?_eq_getElem hi];exact e
    omega
   ·rw[HB.out.2.2.2];exact fp
   ·rw[HB.out.2.2.2];exact ga ho TX
   ·rw[HB.out.2.2.2];exact hZ.kd.done BJ (fun x d _ hd=>by rw[<-HB.out.2.2.2];exact DJ HB.out.2.2.1 x d hd) hZ.dt
   have ay:=bW.out;have h1:Below w.heap.size w Wb:=(by rw[ay];exact HB.out.2.1.trans (MI.out.2.1.mono (by omega)));exact h1.trans (hZ.pm.below.mono TX)
  rw[e2] at b2;clear hZ gy e2;go_wp2;go_ret;exact HF.out
 obtain⟨Fy,p7⟩:∃Fy,P.mu N=Fy:=⟨_,rfl⟩
 have Hmu:Hid (DS b N (.slice (some ⟨gT,0,none⟩) m cT) wr=Fy+1):=by
  show _=_;rw[Tk hI.pm,p7];show _+(if m=0 then 0 else 1)=_;rw[if_neg (by omega)]
 have FD:Hid (∃P v vS L8,P.mu N=Fy/\nQ D c N Wb W0.heap.size (bF b v3 se) b T gT cT P v vS aS q cS L8 0 wr):=⟨P,v5,rU,L8,p7,hI⟩
 have HTm:=hid UH;clear hI p7 UH;go_wp2_with fail;obtain⟨W8,hW8⟩:∃W8,W8=wr:=⟨wr,rfl⟩
 clear hW8 W8;go_loopw [8,11,49] (fun v8 _ vi wq=>∃(i:Nat) (aS:Option Addr) (q cS:Nat),vi=.int .i64 i/\i<=c/\v8=.slice aS q cS/\q<=N/\Hid (∃P v vS L8,P.mu N=Fy/\nQ D c N Wb W0.heap.size (bF b v3 se) b T gT cT P v vS aS q cS L8 i wq)) (fun _ _ v _=>c-(intOf v).toNat)
 ·exact⟨0,aS,q,cS,rfl,zero_le _,rfl,hq,FD.out⟩
 obtain⟨i,aS,q,cS,rfl,hi,rfl,hq,pd⟩:=hrel;by_cases qu:i<c
 ·obtain⟨P,v5,rU,L8,p7,hI⟩:=pd.out;have UP:=fC gH.out.own hI.pm.kept (by simp) (fun g e hm=>by have h1:=kD gH.out.own g e;have:=MI.out.2.2 g hm;omega);obtain⟨gB,rfl,_,_,Pm⟩:=ek UP (by omega);have d0:=(Pm (i*2) (by omega)).1;have d1:=(Pm (i*2+1) (by omega)).1;rw[(Vz N gF gX c i qu).1] at d0;rw[(Vz N gF gX c i qu).2] at d1;have UG:=hid (Zz p7 hI);have i1:(i:Int)<c:=by omega
  obtain⟨pF,Tc⟩:∃pF,gF i=pF:=⟨_,rfl⟩
  obtain⟨pX,SH⟩:∃pX,gX i=pX:=⟨_,rfl⟩
  rw[Tc] at d0;rw[SH] at d1;have Hp:=hid (Zz Tc SH);clear UP Pm p7 hI Tc SH pd;go_upto_region 20 with fail;obtain⟨W5,FW⟩:∃W5,wr.alloc (.cells #[.slice (some ⟨pF,0,none⟩) N N,.slice (some ⟨pX,0,none⟩) N N] 168)=W5:=⟨_,rfl⟩
  obtain⟨bR,Fw⟩:∃bR,wr.heap.size=bR:=⟨_,rfl⟩
  have sc:St W5 168 bR #[.slice (some ⟨pF,0,none⟩) N N,.slice (some ⟨pX,0,none⟩) N N]:=by rw[<-FW,<-Fw];exact St.new _ _ _
  have xC:nQ D c N Wb W0.heap.size (bF b v3 se) b T gT cT P v5 rU aS q cS L8 i W5:=by rw[<-FW];exact UG.out.2.ab (al wr _)
  rw[FW,Fw];clear FW Fw;have r0:W5.cell? ⟨bR,0,none⟩=some (.slice (some ⟨pF,0,none⟩) N N):=sc.at_ 0;have r1:W5.cell? ⟨bR,1,none⟩=some (.slice (some ⟨pX,0,none⟩) N N):=sc.at_ 1;have GI:=hid xC;have hq0:(0:Int)<=cS:=by omega
  clear xC sc d0 d1
  go_still_tail 4,(by kernel_rfl)
  change wpList _ _ _ _ _ W5.drew;have HC:Hid (Calls prog 117 #[.agg #[.slice (some ⟨pF,0,none⟩) N N,.slice (some ⟨pX,0,none⟩) N N],.slice aS 0 cS,.slice (some ⟨gT,0,none⟩) m cT] W5.drew (Tu Wb.heap.size (Value.slice aS 0 cS).ownBlock.toList (jQ (fun k=>tD D k i) N T) W5.drew)):=by
   have yK:=GI.out.ab (Below.refl W5.heap.size W5).drew;have oF:=fC (gH.out.F i qu) yK.pm.kept (by simp) (fun g e hm=>by have h1:=kD (gH.out.F i qu) g e;have:=MI.out.2.2 g hm;omega);have oX:=fC (gH.out.X i qu) yK.pm.kept (by simp) (fun g e hm=>by have h1:=kD (gH.out.X i qu) g e;have:=MI.out.2.2 g hm;omega);have hF:=lE (gH.out.F i qu) (gF i) rfl;have hX:=lE (gH.out.X i qu) (gX i) rfl;rw[Hp.out.1] at oF hF;rw[Hp.out.2] at oX hX;have vU:∀g∈(Value.slice aS 0 cS).ownBlock.toList,(Value.slice aS q cS).ownBlock=some g:=(fun g hg=>by rw[YP aS q cS 0];simpa using hg);have hoT:=yK.oT;have e9:=HTm.out;refine zm4 N FI (fun k=>tD D k i) (fun k hk=>by rw[<-HB.out.2.2.2];exact DJ HB.out.2.2.1 k i qu) (f i) (x i) (gH.out.L i qu) pF pX Wb.heap.size W3.heap.size aS cS T m e9 yK.tn yK.tl (some ⟨gT,0,none⟩) cT W5.drew oF oX (UX yK.oS) yK.sz (sx hoT rfl) _ rfl (fun hm=>?_) (fun hm=>?_) (fun ad e hm=>?_)
   ·have:=kD yK.oS pF (vU _ hm);omega
   ·have:=kD yK.oS pX (vU _ hm);omega
   have e2:gT=ad.block:=(by injection e with e;rw[<-e]);rw[<-e2] at hm;exact yK.JB (vU _ hm)
  have Tp:Hid (nQ D c N Wb W0.heap.size (bF b v3 se) b T gT cT P v5 rU aS q cS L8 i W5.drew):=GI.out.ab (Below.refl W5.heap.size W5).drew;generalize W5.drew=W6 at HC Tp⊢;clear r0 r1 GI;go_wp2_with fail;refine HC.out.mono ?_;rintro e w7 ⟨a7,c7,rfl,Ga⟩;have Gp:=Tp.out.add Ga;obtain⟨L9,Ac⟩:∃L9,jQ (fun k=>tD D k i) N T=L9:=⟨_,rfl⟩
  have Aw:L9.Nodup:=by rw[<-Ac];exact XN _ _ _ Tp.out.tn
  have AJ:∀z,z∈L9↔z<N/\tD D z i∈T:=fun z=>by rw[<-Ac];exact Pd _ _ _ z
  rw[Ac] at Gp⊢;obtain⟨q9,qq⟩:∃q9,L9.length=q9:=⟨_,rfl⟩
  rw[qq] at Gp⊢;have Tn:q9<=N:=by rw[<-qq];exact qC Aw (fun z hz=>((AJ z).1 hz).1)
  have Ws:=hid (Gp.call FI Aw (fun z hz=>((AJ z).1 hz).1));have FH:=hid (Zz Gp (Zz Aw AJ));clear Ga Gp Aw AJ Ac qq HC;go_wp2_with fail;refine Ws.out.mono ?_;rintro e w8 ⟨v8,vS8,rfl,EC⟩;have HI8:Hid (∃P v vS L8,P.mu N=Fy/\nQ D c N Wb W0.heap.size (bF b v3 se) b T gT cT P v vS a7 q9 c7 L8 (i+1) w8):=by
   refine⟨_,v8,vS8,L9,?_,FH.out.1.div HB.out.2.2.2 HB.out.2.2.1 qu FH.out.2.1 FH.out.2.2 EC⟩;rw[iH.mu FH.out.1.kd.pz L9 FH.out.2.1 (fun z hz=>((FH.out.2.2 z).1 hz).1)];exact UG.out.1
  clear EC Ws;go_wp2;go_roundw
  ·exact⟨i+1,a7,q9,c7,by go_num,by omega,rfl,Tn,HI8.out⟩
  simp[intOf];omega
 obtain rfl:i=c:=by omega
 obtain⟨P,v5,rU,L8,p7,hI⟩:=pd.out;have hZ:=hI.all;have HT:=hid (hZ.call FI);have HZ:=hid (Zz hZ p7);clear hI hZ pd p7;go_wp2_with fail;refine HT.out.mono ?_;rintro e w6 h6;obtain⟨v9',rfl,Gq,MP⟩:=HZ.out.1.Um HB.out.2.2.2 HB.out.2.2.1 hq h6;have Jx:=hid (Zz Gq MP);clear h6 Gq MP HT;go_wp2;go_roundw
 ·exact Jx.out.1
 show DS b N _ _<DS b N _ _;have h1:=Jx.out.2;have h2:=Hmu.out;have h3:=HZ.out.2;omega
