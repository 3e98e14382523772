import Derived.Test.YtkkhakmdjinenaaGreatZPDiv
import Derived.StillTailTactics
set_option linter.all false
set_option maxHeartbeats 8000000
set_option maxRecDepth 100000
open Go.Lib (hid)
namespace Go.Proofs.YtkkhakmdjinenaaGreat
open Go.RowKit Go.Maps Go.Proofs.Tryz
open Or (inl inr)
open List (ext_getElem? getD_eq_getElem?_getD length_replicate range range_succ replicate take_of_length_le)
open Nat (le_refl le_trans zero_le)
open Value (ownBlock)
open World (ownsRow_nil)
open Act (put)
variable {B C N c gF gX:Nat}{D:Dd}{P:Pt}{V W0 w w1 w6:World}{bs l ls:List Nat}{f x:Nat->Int}{v v':Nat->Value}{vS vS':Value}
def JE(V:World)(B:Nat)(bs:List Nat)(b:Nat)(P:Pt)(w:World)(e:Ending)(w':World):Prop:=
 (P.L 4=[]/\e=.returned (.slice none 0 0)/\∃v vS,bI V B bs b v vS P w')\/
 (P.L 4≠[]/\∃(g c:Nat) (v:Nat->Value) (vS:Value),e=.returned (.slice (some ⟨g,0,none⟩) (fe P).length c)/\w'.ownsRow w.heap.size 3 1 (.slice (some ⟨g,0,none⟩) (fe P).length c) (fe P).length (cY (fe P))/\bI V B bs b v vS (ig P) w'/\g∉bF b v vS)
theorem znA(N:Nat)(hN:N<=100000)(V:World)(B b:Nat)(bs:List Nat)(v:Nat->Value)(vS:Value)(P:Pt)(w:World)(h:bI V B bs b v vS P w)(hz:PZ N P):
  Calls prog 116 #[.pointer (some ⟨b,0,none⟩)] w (JE V B bs b P w):=by
 obtain⟨q,hq⟩:∃q,(P.L 4).length=q:=⟨_,rfl⟩
 obtain⟨a4,c4,e4⟩:=h.EB 4 (by omega) hq;have b4:=h.c4.1;have f4:=h.c4.2;rw[e4] at b4;have YL:=hz.1.tU;rw[hq] at YL;have Mx:=hz.1.len;have H:=ψ h hz hq e4;clear h hz hq e4;go_in;by_cases h0:q=0
 ·subst h0;have HF:Hid (JE V B bs b P w (.returned (.slice none 0 0)) w):=inl ⟨List.eq_nil_of_length_eq_zero H.out.2.2.1,rfl,v,vS,H.out.1⟩;go_wp2;go_ret;exact HF.out
 obtain⟨p,rfl⟩:∃p,q=p+1:=⟨q-1,by omega⟩
 clear h0;have hne:P.L 4≠[]:=fun e=>by have:=H.out.2.2.1;rw[e] at this;simp at this
 have i0:(((p+1:Nat):Int) == 0)=false:=by rw[beq_eq_false_iff_ne];omega
 obtain⟨de,u9⟩:∃de,P.last=de:=⟨_,rfl⟩
 have hm:de∈P.L 4:=by
  rw[<-u9];unfold Pt.last;rcases List.eq_nil_or_concat (P.L 4) with e|⟨l,a,e⟩
  ·exact absurd e hne
  rw[e];simp
 obtain⟨uu,hlw⟩:=(H.out.2.1.1.uf.2 de).1 hm;obtain⟨s1,s2,s3,s4⟩:=H.out.2.1.1.sp de uu;have yE:(P.L 4).getD p 0=de:=by
  rw[<-u9];unfold Pt.last;have hl:=H.out.2.2.1;rcases List.eq_nil_or_concat (P.L 4) with e|⟨l,a,e⟩
  ·exact absurd e hne
  rw[e] at hl⊢;simp at hl;subst hl;simp[getD_eq_getElem?_getD]
 obtain⟨g4,c4',e4,y4,_⟩:=H.out.1.num 4 (by omega) p (by rw[H.out.2.2.1];omega);rw[H.out.2.2.1,H.out.2.2.2] at e4;obtain rfl:a4=some ⟨g4,0,none⟩:=by injection e4
 rw[yE] at y4;obtain⟨nS,yc⟩:∃nS,P.sp.length=nS:=⟨_,rfl⟩
 obtain⟨gS,cS,eS⟩:=H.out.1.Ts yc (by omega);have aS:=H.out.1.nD.1;rw[eS] at aS;obtain⟨f,hf⟩:∃f,(P.s de).f=f:=⟨_,rfl⟩
 obtain⟨g,hg⟩:∃g,(P.s de).g=g:=⟨_,rfl⟩
 rw[hf,hg] at s1;rw[hg] at s2;have iS:(de:Int)<nS:=by omega
 have uH:p+1<=c4:=by
  have ho:=H.out.1.row 4 (by omega);rw[H.out.2.2.2] at ho;rcases ho.2 with ⟨h1,_⟩|⟨_,cap,_,h1,_,_,h2,_⟩
  ·cases h1
  injection h1 with _ e1 e2;have h3:(P.L 4).length<=cap:=h2;omega
 have HE:=hid (Zz hne (Zz u9 (Zz yc (Zz eS (Zz hf hg)))));clear hne u9 hm hlw s3 s4 yE e4 yc eS hf hg;go_upto_region 4 with fail;go_quiet (fail);have HB:=hid (below_drewN (Below.refl w.heap.size w) nq);have rQ:bI V B bs b v vS P (w.drewN nq):=H.out.1.ab (below_drewN (Below.refl _ _) _);generalize w.drewN nq=W2 at rQ HB⊢;clear y4 aS b4 f4;have b4:=rQ.c4.1;have f4:=rQ.c4.2;rw[H.out.2.2.2] at b4;have h1:=rQ.yH 4 (by omega) H.out.2.2.2 p (by rw[H.out.2.2.1];omega);replace h1:bI V B bs b (sY v 4 (.slice (some ⟨g4,0,none⟩) p c4)) vS ⟨fo P.L 4 ((P.L 4).take p),P.sp⟩ (W2.setCell ⟨b,5,none⟩ (.slice (some ⟨g4,0,none⟩) p c4)):=h1;have hpq:p<=p+1:=by omega
 have SZ:Hid (w.heap.size<=W2.heap.size):=HB.out.size;go_upto_region 6 with fail;obtain⟨v4,TY⟩:∃v4,sY v 4 (.slice (some ⟨g4,0,none⟩) p c4)=v4:=⟨_,rfl⟩
 rw[TY] at h1;have By:fo P.L 4 ((P.L 4).take p)=(ig P).L:=by
  show _=fo P.L 4 (P.L 4).dropLast;rw[List.dropLast_eq_take,H.out.2.2.1];rfl
 rw[By] at h1;replace SZ:Hid (w.heap.size<=(W2.setCell ⟨b,5,none⟩ (.slice (some ⟨g4,0,none⟩) p c4)).heap.size):=by show w.heap.size<=_;have:=SZ.out;simpa [World.setCell] using this
 generalize W2.setCell ⟨b,5,none⟩ (.slice (some ⟨g4,0,none⟩) p c4)=W3 at h1 SZ⊢;clear b4 f4 rQ;have DO:=(h1.BI HE.out.2.2.2.1 de (by show de<P.sp.length;rw[HE.out.2.2.1];omega)).cw;have hwz:=(h1.BI HE.out.2.2.2.1 de (by show de<P.sp.length;rw[HE.out.2.2.1];omega)).z3;have h2:=h1.xF HE.out.2.2.2.1 de 3 ⟨(P.s de).f,(P.s de).g,(P.s de).h,false⟩ (by show de<P.sp.length;rw[HE.out.2.2.1];omega) (by omega) (fun k' hk' hn=>by
  have:k'=0\/k'=1\/k'=2:=by omega
  rcases this with rfl|rfl|rfl <;> rfl)
 have h3:bI V B bs b v4 vS (ig P) (W3.setCell ⟨gS,de*4+3,none⟩ (.bool false)):=by
  refine h2.congr (fun i hi=>rfl) ?_;show P.sp.set de _=P.sp.set P.last _;rw[HE.out.2.1]
 obtain⟨wb,YF⟩:∃wb,W3.cell? ⟨gS,de*4+3,none⟩=some (.bool wb):=⟨_,DO⟩
 clear DO h2 h1;go_upto_region 7 with fail;replace SZ:Hid (w.heap.size<=(W3.setCell ⟨gS,de*4+3,none⟩ (.bool false)).heap.size):=by show w.heap.size<=_;have:=SZ.out;simpa [World.setCell] using this
 generalize W3.setCell ⟨gS,de*4+3,none⟩ (.bool false)=W4 at h3 SZ⊢;clear YF hwz;obtain⟨m0,pe⟩:∃m0,(P.L 0).length=m0:=⟨_,rfl⟩
 have OM:m0=N:=by rw[<-pe];exact H.out.2.1.1.l0
 obtain⟨g0,c0,e0⟩:=h3.sl 0 (by omega) (q:=m0) pe (by omega);have b0:=h3.c0.1;rw[e0] at b0;have pT:m0<=c0:=by
  have ho:=h3.row 0 (by omega);rw[e0] at ho;rcases ho.2 with ⟨h1,_⟩|⟨_,cap,_,h1,_,_,h2,_⟩
  ·cases h1
  injection h1 with _ e1 e2;have h3:(P.L 0).length<=cap:=h2;omega
 obtain⟨x1,x2,_,_,_,_,_⟩:=h3.BI HE.out.2.2.2.1 de (by show de<(ig P).sp.length;unfold ig;rw[List.length_set,HE.out.2.2.1];omega);have zr:(ig P).s de=⟨(P.s de).f,(P.s de).g,(P.s de).h,false⟩:=by
  show (⟨fo P.L 4 (P.L 4).dropLast,P.sp.set P.last ⟨(P.s P.last).f,(P.s P.last).g,(P.s P.last).h,false⟩⟩:Pt).s de=_;rw[HE.out.2.1,Pt.rD _ _ _ _ _ (by rw[HE.out.2.2.1];omega),if_pos rfl]
 rw[zr] at x1 x2;rw[show (⟨(P.s de).f,(P.s de).g,(P.s de).h,false⟩:nV).f=f from HE.out.2.2.2.2.1] at x1;rw[show (⟨(P.s de).f,(P.s de).g,(P.s de).h,false⟩:nV).g=g from HE.out.2.2.2.2.2] at x2;obtain⟨m,hm⟩:∃m,g-f=m:=⟨_,rfl⟩
 have sr:(fe P).length=m:=by
  unfold fe;rw[List.length_take,List.length_drop,pe,HE.out.2.1,HE.out.2.2.2.2.1,HE.out.2.2.2.2.2,hm];omega
 have XD:∀j,j<m->(fe P).getD j 0=(P.L 0).getD (f+j) 0:=fun j hj=>by
  unfold fe;rw[HE.out.2.1,HE.out.2.2.2.2.1,HE.out.2.2.2.2.2,hm,getD_eq_getElem?_getD,List.getElem?_take_of_lt hj,List.getElem?_drop,getD_eq_getElem?_getD]
 have hZ:∀W,bI V B bs b v4 vS (ig P) W->kY W (some ⟨g0,f,none⟩) m (fun j=>(((fe P).getD j 0:Nat):Int)):=fun W hW hpos=>by
  have ho:=hW.row 0 (by omega);refine⟨g0,f,rfl,lZ ho g0 (by rw[e0];rfl),fun j hj=>?_⟩;have:=(hW.Ut 0 (by omega) e0 (f+j) (by show f+j<(P.L 0).length;omega)).1;rw[this];show some (Value.int .i64 (((P.L 0).getD (f+j) 0:Nat):Int))=some (Value.int .i64 (((fe P).getD j 0:Nat):Int));rw[XD j hj]
 have HZ:=hid hZ;have H3:=ψ h3 TY e0 sr;have j1:(f:Int)<=g:=by omega
 have j2:(g:Int)<=c0:=by omega
 have j3:(f:Int)<c0:=by omega
 clear hZ XD sr zr h3 TY e0 pe OM By
 go_still_tail 13,(by kernel_rfl)
 change wpList _ _ _ _ _ W4.drew;have pa:bI V B bs b v4 vS (ig P) W4.drew:=H3.out.1.ab (Below.refl _ _).drew;replace SZ:Hid (w.heap.size<=W4.drew.heap.size):=SZ.out;generalize W4.drew=W5 at pa SZ⊢;have HC:=hid (Mw m (c0-f) (some ⟨g0,f,none⟩) (fun j=>(((fe P).getD j 0:Nat):Int)) (by omega) W5 (HZ.out W5 pa) (by simp) (by simp));have yT:=hid pa;clear pa b0 x1 x2;go_wp2_with fail;refine HC.out.mono ?_;rintro e w6 ⟨a6,c6,rfl,kC,b6⟩;have HF:Hid (JE V B bs b P w (.returned (.slice a6 m c6)) w6):=by
  have hP6:=yT.out.ab b6;have Ao:ints ((range m).map (fun j=>(((fe P).getD j 0:Nat):Int)))=cY (fe P):=by
   apply ext_getElem?;intro j;have hl:=H3.out.2.2.2;by_cases hj:j<m
   ·have h2:j<(fe P).length:=(by omega);simp[ints,cY,hj,h2,getD_eq_getElem?_getD]
   have h2:¬j<(fe P).length:=(by omega);simp[ints,cY,hj,h2]
  rw[Ao] at kC;obtain⟨g6,rfl,gQ,_,_⟩:=eC kC (by omega);have dc:w.heap.size<=W5.heap.size:=SZ.out;refine inr ⟨HE.out.1,g6,c6,v4,vS,?_,?_,hP6,?_⟩
  ·rw[H3.out.2.2.2]
  ·rw[H3.out.2.2.2];exact gn kC dc
  intro z8;rcases uA.1 z8 with e9|e9|⟨i,hi,e9⟩
  ·have:=yT.out.st.lt;omega
  ·have:=lZ yT.out.oa g6 e9;omega
  have:=lZ (yT.out.row i hi) g6 e9;omega
 clear kC b6 HC;go_wp2;go_ret;exact HF.out
def PR(N:Nat)(w:World)(e:Ending)(w':World):Prop:=
 ∃(b:Nat) (v:Nat->Value) (vS:Value),e=.returned (.pointer (some ⟨b,0,none⟩))/\bI w' w.heap.size (bF b v vS) b v vS (fT N) w'/\Below w.heap.size w w'/\∀x∈bF b v vS,w.heap.size<=x
def Bf(N k:Nat):Pt:=⟨fun i=>if i=0 then range k else if i=1 then range k else if i=2 then replicate N 0 else [],[⟨0,N,0,false⟩]⟩
def Lf(gB:Nat)(N:Nat)(i:Nat):Value:=if i=2 then .slice (some ⟨gB,0,none⟩) N N else .slice none 0 0
theorem zlO(N:Nat)(hN:N<=100000)(w:World):Calls prog 112 #[.int .i64 (N:Int)] w (PR N w):=by
 have hm:=Is N (by omega);go_in;go_upto_region 2 with fail;obtain⟨W3,uL⟩:∃W3,((w.alloc (.cells (madeCells #[.int .i64 0] N) 3)).alloc (.cells #[.int .i64 0,.int .i64 (N:Int),.int .i64 0,.bool false] 190)).alloc (.cells #[.slice none 0 0,.slice none 0 0,.slice (some ⟨w.heap.size,0,none⟩) N N,.slice (some ⟨w.heap.size+1,0,none⟩) 1 1,.slice none 0 0,.slice none 0 0] 173)=W3:=⟨_,rfl⟩
 obtain⟨b,hb⟩:∃b,w.heap.size+1+1=b:=⟨_,rfl⟩
 obtain⟨bs,qK⟩:∃bs,bF b (Lf w.heap.size N) (.slice (some ⟨w.heap.size+1,0,none⟩) 1 1)=bs:=⟨_,rfl⟩
 have h0:bI W3 w.heap.size bs b (Lf w.heap.size N) (.slice (some ⟨w.heap.size+1,0,none⟩) 1 1) (Bf N 0) W3/\Below w.heap.size w W3/\∀x∈bs,w.heap.size<=x:=by
  have k1:=al w (.cells (madeCells #[.int .i64 0] N) 3);have k2:=al (w.alloc (.cells (madeCells #[.int .i64 0] N) 3)) (.cells #[.int .i64 0,.int .i64 (N:Int),.int .i64 0,.bool false] 190);have k3:=al ((w.alloc (.cells (madeCells #[.int .i64 0] N) 3)).alloc (.cells #[.int .i64 0,.int .i64 (N:Int),.int .i64 0,.bool false] 190)) (.cells #[.slice none 0 0,.slice none 0 0,.slice (some ⟨w.heap.size,0,none⟩) N N,.slice (some ⟨w.heap.size+1,0,none⟩) 1 1,.slice none 0 0,.slice none 0 0] 173);have o1:=db (db (Ee w w.heap.size N 3 (.int .i64 0) (le_refl _) (by unfold maxLen;omega)) k2) k3;have o2:=db (vJ (w.alloc (.cells (madeCells #[.int .i64 0] N) 3)) w.heap.size 190 4 #[.int .i64 0,.int .i64 (N:Int),.int .i64 0,.bool false] 1 rfl (by simp) (by unfold maxLen;omega)) k3;have st:=St.new ((w.alloc (.cells (madeCells #[.int .i64 0] N) 3)).alloc (.cells #[.int .i64 0,.int .i64 (N:Int),.int .i64 0,.bool false] 190)) 173 #[.slice none 0 0,.slice none 0 0,.slice (some ⟨w.heap.size,0,none⟩) N N,.slice (some ⟨w.heap.size+1,0,none⟩) 1 1,.slice none 0 0,.slice none 0 0];have kk:Below w.heap.size w W3:=by rw[<-uL];exact k1.trans ((k2.mono (by simp)).trans (k3.mono (by simp;omega)))
  rw[uL] at o1 o2 st;have lf:(w.alloc (.cells (madeCells #[.int .i64 0] N) 3)).heap.size=w.heap.size+1:=by simp
  have tH:((w.alloc (.cells (madeCells #[.int .i64 0] N) 3)).alloc (.cells #[.int .i64 0,.int .i64 (N:Int),.int .i64 0,.bool false] 190)).heap.size=b:=by rw[<-hb];simp
  rw[lf] at o2;rw[tH] at st;have az:∀i,i<5->∀g,(Lf w.heap.size N i).ownBlock=some g->i=2/\g=w.heap.size:=fun i hi g e=>by
   unfold Lf at e;split at e
   ·rename_i h2;simp[ownBlock] at e;exact⟨h2,e.symm⟩
   simp[ownBlock] at e
  have Ks:∀x∈bs,w.heap.size<=x:=fun x hx=>by
   rw[<-qK] at hx;rcases uA.1 hx with e|e|⟨i,hi,e⟩
   ·omega
   ·simp[ownBlock] at e;omega
   have:=(az i hi x e).2;omega
  refine⟨⟨Kept.refl _ _ _,Below.refl _ _,st,fun i hi=>?_,fun i j hi hj hij g e1 e2=>?_,?_,fun i hi g e=>inl (by rw[<-qK];exact uA.2 (inr (inr ⟨i,hi,e⟩))),fun g e=>inl (by rw[<-qK];exact uA.2 (inr (inl e))),by rw[<-qK];exact uA.2 (inl rfl),by omega,kk.size⟩,kk,Ks⟩
  ·have:i=0\/i=1\/i=2\/i=3\/i=4:=(by omega);rcases this with rfl|rfl|rfl|rfl|rfl
   ·exact ownsRow_nil _ _ _ _
   ·exact ownsRow_nil _ _ _ _
   ·show W3.ownsRow _ _ _ (.slice (some ⟨w.heap.size,0,none⟩) N N) (replicate N 0).length (cY (replicate N 0));have e:cY (replicate N 0)=replicate N (.int .i64 0):=(by simp[cY]);rw[e,length_replicate];exact o1
   ·exact ownsRow_nil _ _ _ _
   exact ownsRow_nil _ _ _ _
  ·have:=(az i hi g e1).1;have:=(az j hj g e2).1;omega
  exact o2
 have H0:=hid h0;rw[uL,hb];clear uL h0;have Hbs:=ζ hb qK;clear hb qK;go_wp2;go_loopw [4,13] (fun _ vk wr=>∃k:Nat,vk=.int .i64 k/\k<=N/\Hid (∃v vS,bI W3 w.heap.size bs b v vS (Bf N k) wr)) (fun _ v _=>N-(intOf v).toNat)
 ·exact⟨0,rfl,zero_le _,_,_,H0.out.1⟩
 obtain⟨k,rfl,hk,HL⟩:=hrel;by_cases aq:k<N
 ·obtain⟨v,vS,h⟩:=HL.out;have kB:((Bf N k).L 0).length=k:=by show (range k).length=k;simp
  have hO:=h.row 0 (by omega);obtain⟨a3,c3,e3⟩:=h.EB 0 (by omega) kB;have a4:=h.c0.1;rw[kB,e3] at hO;rw[e3] at a4;have hV:=h.hB;have HP:=hid h;have qR:=hid e3;have Hl0:=hid kB;obtain⟨i0,hi,dv,cP,cG⟩:=info_parts aG;have i1:(k:Int)<N:=by omega
  clear h e3 kB HL;go_upto_region 5 with fail;go_wp2_with (at_builtin;refine wpList_append_own_at _ rfl _ _ 27 rfl w.heap.size 3 i0 (.int .i64 0) 1 8 underlying27 hi dv cP cG rfl (by decide) _ _ _ rfl (hO.alloc _) ⟨wr.heap.size,0,none⟩ 1 1 [.int .i64 (k:Int)] rfl rfl (cell_one_new _ _ _) ?d2 ?d3 ?d4 ?d5 ?_)
  case d2=>intro u hu;simp at hu;subst hu;rfl
  case d3=>unfold maxLen;omega
  case d4=>omega
  case d5=>simp;omega
  intro v' w5 ah ag _ bJ;have h2:=HP.out.ab (al wr (.cells #[.int .i64 (k:Int)] 3));have fS:=h2.st.ae (hO.alloc _) (by decide) ag;have p3:w5.cell? ⟨b,0,none⟩=some (.slice a3 k c3):=by rw[fS.at_];show some (v 0)=_;rw[qR.out]
  have pf:=fS.bb 0;have h5:bI W3 w.heap.size bs b (sY v 0 v') vS ⟨fo (Bf N k).L 0 (range k++[k]),(Bf N k).sp⟩ (w5.setCell ⟨b,0,none⟩ v'):=h2.app (v':=v') (x:=k) 0 (by omega) Hl0.out ah (by rw[qR.out];exact ag) (by
   rw[show (wr.alloc (.cells #[.int .i64 (k:Int)] 3)).heap.size=wr.heap.size+1 by simp,qR.out]
   rcases bJ with h|h
   ·exact inl h
   ·exact inr (inl h))
  obtain⟨a5,c5,rfl⟩:=bP ah;clear ah ag bJ h2 fS hO a4;go_upto_region 6 with fail;clear p3 pf;obtain⟨W6,tj⟩:∃W6,w5.setCell ⟨b,0,none⟩ (.slice a5 (k+1) c5)=W6:=⟨_,rfl⟩
  obtain⟨v6,VX⟩:∃v6,sY v 0 (.slice a5 (k+1) c5)=v6:=⟨_,rfl⟩
  rw[tj,VX] at h5;rw[tj];clear tj VX HP qR;have jD:((⟨fo (Bf N k).L 0 (range k++[k]),(Bf N k).sp⟩:Pt).L 1).length=k:=by show (range k).length=k;simp
  have hO:=h5.row 1 (by omega);obtain⟨a3,c3,e3⟩:=h5.EB 1 (by omega) jD;have a4:=h5.c1.1;rw[jD,e3] at hO;rw[e3] at a4;have hV:=h5.hB;have HP:=hid h5;have qR:=hid e3;have Hl1:=hid jD;clear h5 e3 jD;go_wp2_with (at_builtin;refine wpList_append_own_at _ rfl _ _ 27 rfl w.heap.size 3 i0 (.int .i64 0) 1 8 underlying27 hi dv cP cG rfl (by decide) _ _ _ rfl (hO.alloc _) ⟨W6.heap.size,0,none⟩ 1 1 [.int .i64 (k:Int)] rfl rfl (cell_one_new _ _ _) ?f2 ?f3 ?f4 ?f5 ?_)
  case f2=>first|(intro u hu;simp at hu;subst hu;rfl)|rfl
  case f3=>unfold maxLen;omega
  case f4=>omega
  case f5=>first|(simp;omega)|omega
  intro v' w7 ah ag _ bJ;have h2:=HP.out.ab (al W6 (.cells #[.int .i64 (k:Int)] 3));have fS:=h2.st.ae (hO.alloc _) (by decide) ag;have p3:w7.cell? ⟨b,1,none⟩=some (.slice a3 k c3):=by rw[fS.at_];show some (v6 1)=_;rw[qR.out]
  have pf:=fS.bb 1;have HF:Hid (bI W3 w.heap.size bs b (sY v6 1 v') vS (Bf N (k+1)) (w7.setCell ⟨b,1,none⟩ v')):=by
   have h7:=h2.app (v':=v') (x:=k) 1 (by omega) Hl1.out ah (by rw[qR.out];exact ag) (by
    rw[show (W6.alloc (.cells #[.int .i64 (k:Int)] 3)).heap.size=W6.heap.size+1 by simp,qR.out]
    rcases bJ with h|h
    ·exact inl h
    ·exact inr (inl h))
   refine h7.congr (fun i hi=>?_) rfl;have:i=0\/i=1\/i=2\/i=3\/i=4:=(by omega);rcases this with rfl|rfl|rfl|rfl|rfl
   ·show range k++[k]=range (k+1);rw[range_succ]
   ·show range k++[k]=range (k+1);rw[range_succ]
   ·rfl
   ·rfl
   rfl
  obtain⟨a7,c7,rfl⟩:=bP ah;clear ah ag bJ h2 fS hO a4 HP;go_wp2;go_roundw
  ·exact⟨k+1,by go_num,by omega,_,_,HF.out⟩
  simp[intOf];omega
 obtain rfl:k=N:=by omega
 obtain⟨v,vS,h⟩:=HL.out;have HF:Hid (PR k w (.returned (.pointer (some ⟨b,0,none⟩))) wr):=by
  refine⟨b,v,vS,rfl,?_,H0.out.2.1.trans h.below,fun x hx=>?_⟩
  ·exact h.start.congr (fun i hi=>rfl) rfl
  rcases h.tb x hx with h3|h3
  ·exact H0.out.2.2 x h3
  exact le_trans H0.out.2.1.size h3
 clear h HL H0;go_wp2;go_ret;exact HF.out
theorem ZV(x:Nat)(h:x<18446744073709551616):IntKind.u64.wrap (x:Int)=x:=by
 simp only[IntKind.wrap,IntKind.bits,IntKind.signed];simp;omega
theorem O6(N:Nat)(hN:N<4294967296):bits .and .u64 (N:Int) 4294967295=(N:Int):=by
 have h:=u64_and_nat N 4294967295 (by omega) (by omega);have e:N &&& 4294967295=N:=by
  rw[show (4294967295:Nat)=2 ^ 32-1 from rfl,Nat.and_two_pow_sub_one_eq_mod,Nat.mod_eq_of_lt hN]
 rw[e] at h;exact h
theorem zlM(N:Nat)(hN:N<=100000)(w:World):Calls prog 110 #[.int .u64 1,.int .u64 (N:Int)] w fun e w'=>e=.returned (.tuple #[.int .u64 0,.int .u64 (N:Int)])/\w=w':=by
 have h1:(N:Int) % 4294967296=(N:Int):=by omega
 have h2:(N:Int) / 4294967296=0:=by omega
 have h3:=O6 N (by omega);have h4:bits .and .u64 1 4294967295=1:=O6 1 (by omega);have h5:bits .and .u64 0 4294967295=0:=O6 0 (by omega);have h6:IntKind.u64.wrap (N:Int)=N:=ZV N (by omega);have h7:IntKind.u64.wrap 0=0:=by decide
 go_in;go_wp2;go_ret2;exact⟨rfl,rfl⟩
theorem zny(N:Nat)(hN:N<=100000)(w:World):Calls prog 71 #[.int .u64 1,.int .u64 (N:Int)] w fun e w'=>e=.returned (.tuple #[.int .u64 0,.int .u64 (N:Int)])/\w=w':=by
 have HM:=hid (zlM N hN w);go_in;go_wp2_with fail;refine HM.out.mono ?_;rintro e w2 ⟨rfl,rfl⟩;go_wp2;go_ret2;exact⟨rfl,rfl⟩
def NI(N:Nat)(w:World)(e:Ending)(w':World):Prop:=
 ∃g,e=.returned (.slice (some ⟨g,0,none⟩) N N)/\w'.ownsRow w.heap.size 3 1 (.slice (some ⟨g,0,none⟩) N N) N (ints (replicate N (-1)))/\Below w.heap.size w w'
def jm(N n:Nat):List Value:=replicate n (.int .i64 (-1))++replicate (N-n) (.int .i64 0)
theorem Uh(N n:Nat)(h:n<=N):(jm N n).length=N:=by simp[jm];omega
theorem zhZ(N n m:Nat)(h:n+m<=N):splice (jm N n) n (replicate m (.int .i64 (-1)))=jm N (n+m):=by
 unfold splice jm;rw[List.take_append_of_le_length (by simp),take_of_length_le (by simp),length_replicate,List.drop_append];simp only[length_replicate,List.drop_replicate];rw[show n-(n+m)=0 by omega,List.replicate_zero,List.nil_append,<-List.append_assoc,List.replicate_append_replicate,show N-n-(n+m-n)=N-(n+m) by omega]
theorem znz(N:Nat):splice (replicate N (Value.int .i64 0)) 0 [.int .i64 (-1)]=jm N 1\/N=0:=by
 rcases Nat.eq_zero_or_pos N with h|h
 ·exact inr h
 left;unfold splice jm;simp
theorem ze6(N:Nat)(hN0:1<=N)(hN:N<=100000)(g:Nat)(w:World)(hc:w.cell? ⟨g,0,none⟩=some (.int .i64 (-1)))(hg:g<w.heap.size):
  Calls prog 40 #[.slice (some ⟨g,0,none⟩) 1 1,.int .i64 (N:Int)] w (NI N w):=by
 have HM:=hid (zny N hN w);have hm:=Is N (by omega);have i1:¬((N:Int)<0):=by omega
 have i2:IntKind.u64.wrap (N:Int)=N:=ZV N (by omega);have i3:¬((N:Int) > 9223372036854775807):=by omega
 have i4:IntKind.i64.wrap (N:Int)=N:=IntWalk.i64_in _ (by omega);have i5:IntKind.u64.wrap 1=1:=by decide
 have iI:=aG;go_in;go_wp2_with fail;refine HM.out.mono ?_;rintro e w2 ⟨rfl,rfl⟩;go_upto_region 7 with fail;have HG:Hid ((w.alloc (.cells (madeCells #[.int .i64 0] N) 3)).heap[w.heap.size]?=some (.cells (replicate N (.int .i64 0)).toArray 3 (0,0))/\Below w.heap.size w (w.alloc (.cells (madeCells #[.int .i64 0] N) 3))):=by
  refine⟨?_,al w _⟩;have:=(zo (Ee w w.heap.size N 3 (.int .i64 0) (le_refl _) (by unfold maxLen;omega))).1;exact this
 have fB:(w.alloc (.cells (madeCells #[.int .i64 0] N) 3)).cell? ⟨g,0,none⟩=some (.int .i64 (-1)):=((al w _).cell (p:=⟨g,0,none⟩) hg).trans hc;obtain⟨gN,ky⟩:∃gN,w.heap.size=gN:=⟨_,rfl⟩
 rw[ky] at HG⊢;generalize w.alloc (.cells (madeCells #[.int .i64 0] N) 3)=W1 at HG fB⊢;have zY:Nat.min 1 N=1:=Nat.min_eq_left hN0;have HgN:=hid ky;clear ky hm hc HM;have jQ:∀j v,([Value.int .i64 (-1)]:List Value)[j]?=some v->W1.cell? ((⟨g,0,none⟩:Addr).add j)=some v:=fun j v hj=>by
  have:j=0:=by
   have:=(List.getElem?_eq_some_iff.1 hj).1;simpa using this
  subst this;simp at hj;rw[<-hj];exact fB
 have Oz:=hid jQ;clear jQ;have KL:(prog.info? 3).map (·.size)=some 1:=by kernel_rfl
 have BV:0<([Value.int .i64 (-1)]:List Value).length->(some ⟨gN,0,none⟩:Option Addr)=some ⟨gN,0,none⟩/\∃ad,(some ⟨g,0,none⟩:Option Addr)=some ad/\∀j v,([Value.int .i64 (-1)]:List Value)[j]?=some v->W1.cell? (ad.add j)=some v:=fun _=>⟨rfl,⟨g,0,none⟩,rfl,Oz.out⟩
 have rQ:0+([Value.int .i64 (-1)]:List Value).length<=(replicate N (Value.int .i64 0)).length:=by rw[length_replicate];show 0+1<=N;omega
 have AD:∀v∈([Value.int .i64 (-1)]:List Value),v.oneCell'=true:=by intro v hv;rw[List.mem_singleton.1 hv];rfl
 have HP:=ξ BV rQ AD;have Tz:=hid zY;clear BV rQ AD zY;go_wp2_with (refine wpList_copy_splice rfl _ _ _ _ rfl 3 underlying27 KL (some ⟨gN,0,none⟩) (some ⟨g,0,none⟩) N N 1 1 rfl rfl gN 0 (replicate N (.int .i64 0)) 3 HG.out.1 [.int .i64 (-1)] Tz.out.symm HP.out.1 HP.out.2.1 HP.out.2.2 gN w HG.out.2 (le_refl _) ?_);intro W2 Iq mX;have H2:Hid (W2.heap[gN]?=some (.cells (jm N 1).toArray 3 (0,0))/\Below gN w W2):=by
  refine⟨?_,mX⟩;have h:=Iq.out;rcases znz N with e|e
  ·rw[e] at h;exact h
  omega
 clear Iq mX HG fB;go_wp2;go_loopw [8] (fun v wr=>∃n:Nat,v=.int .i64 n/\1<=n/\n<=N/\Hid (wr.heap[gN]?=some (.cells (jm N n).toArray 3 (0,0))/\Below gN w wr)) (fun v _=>N-(intOf v).toNat)
 ·exact⟨1,rfl,le_refl _,hN0,H2.out⟩
 clear H2;obtain⟨n,rfl,da,hn,HL⟩:=hrel;by_cases aq:n<N
 ·have j1:(n:Int)<N:=by omega
  have j2:(n:Int)<=N:=by omega
  obtain⟨m,ju⟩:∃m,min n (N-n)=m:=⟨_,rfl⟩
  have jd:1<=m/\n+m<=N/\m<=n:=by omega
  have GR:Nat.min n (N-n)=m:=ju;have Gj:(replicate m (Value.int .i64 (-1))).length=Nat.min n (N-n):=by rw[length_replicate,GR]
  have BV:0<(replicate m (Value.int .i64 (-1))).length->(some ⟨gN,n,none⟩:Option Addr)=some ⟨gN,n,none⟩/\∃ad,(some ⟨gN,0,none⟩:Option Addr)=some ad/\∀j v,(replicate m (Value.int .i64 (-1)))[j]?=some v->wr.drew.cell? (ad.add j)=some v:=fun _=>⟨rfl,⟨gN,0,none⟩,rfl,fun j v hj=>by
   have hj2:j<m:=by simpa using (List.getElem?_eq_some_iff.1 hj).1
   have hv:v=.int .i64 (-1):=by
    have:=(List.getElem?_eq_some_iff.1 hj).2
    simpa using this.symm
   have hc:wr.cell? ⟨gN,j,none⟩=(jm N n).toArray[j]?:=cell_of_row wr gN j _ _ _ HL.out.1
   have e:(⟨gN,0,none⟩:Addr).add j=⟨gN,j,none⟩:=by unfold Addr.add;split <;> simp_all
   rw[e]
   show wr.cell? ⟨gN,j,none⟩=some v
   rw[hc,hv]
   simp[jm,List.getElem?_append,show j<n by omega]⟩
  have rQ:n+(replicate m (Value.int .i64 (-1))).length<=(jm N n).length:=by rw[length_replicate,Uh N n hn];omega
  have AD:∀v∈replicate m (Value.int .i64 (-1)),v.oneCell'=true:=by intro v hv;rw[List.eq_of_mem_replicate hv];rfl
  have HP:=ψ Gj BV rQ AD;have Oj:Hid (wr.drew.heap[gN]?=some (.cells (jm N n).toArray 3 (0,0))/\Below gN w wr.drew):=⟨HL.out.1,HL.out.2.drew⟩
  have HS:Hid (splice (jm N n) n (replicate m (Value.int .i64 (-1)))=jm N (n+m)):=zhZ N n m jd.2.1;have Hm:=ζ ju jd;clear Gj BV rQ AD ju GR jd;have hne:¬(N=n):=by omega
  go_upto_region 9 with fail;refine wp_region_held_drew (S:=fun W'=>Below gN w W') (by kernel_rfl) Oj.out.2 (fun η=>?_)
  (refine an 0 ?_;refine an 1 ?_;refine an 2 ?_;try simp only[put,sA];refine an 3 ?_;refine an 4 ?_;refine an 5 ?_;try simp only[put,sA];refine an 6 ?_;try simp only[put,sA])
  refine bc 7 (fun K hK=>?_);skip;refine step_copy_splice (by rfl) _ _ _ _ (by rfl) 3 underlying27 KL (some ⟨gN,n,none⟩) (some ⟨gN,0,none⟩) (N-n) (N-n) n N (by rfl) (by rfl) gN n (jm N n) 3 Oj.out.1 (replicate m (Value.int .i64 (-1))) HP.out.1 HP.out.2.1 HP.out.2.2.1 HP.out.2.2.2 gN w Oj.out.2 (le_refl _) ?_;intro W5 hG5 eu;have H5:Hid (W5.heap[gN]?=some (.cells (jm N (n+m)).toArray 3 (0,0))/\Below gN w W5):=by
   have h:=hG5.out;rw[HS.out] at h;exact⟨h,eu⟩
  have hlen:(replicate m (Value.int .i64 (-1))).length=m:=length_replicate;rw[hlen];refine hK.out _ _ (eu) fun η=>?_;clear hK K
  try simp only[put,sA]
  have w1:(n:Int)+(m:Int)<=100000:=by have:=Hm.out.2;omega
  have w2:IntKind.i64.wrap ((n:Int)+(m:Int))=(n:Int)+(m:Int):=IntWalk.i64_in _ (by omega)
  (refine an 8 ?_;refine an 9 ?_;try simp only[put,sA])
  refine wpAnyH_done (by kernel_rfl) ?_ _;clear hG5 eu Oj HP HL HS η;go_wp2;go_roundw
  ·exact⟨n+m,by go_num,by have:=Hm.out.2;omega,by have:=Hm.out.2;omega,H5.out⟩
  (have h8:=Hm.out.2;have h9:((n:Int)+(m:Int)).toNat=n+m:=(by omega);simp[intOf];omega)
 obtain rfl:n=N:=by omega
 have HF:Hid (NI n w (.returned (.slice (some ⟨gN,0,none⟩) n n)) wr):=by
  refine⟨gN,rfl,?_,by rw[HgN.out];exact HL.out.2⟩;rw[HgN.out];have e:jm n n=ints (replicate n (-1)):=by simp[jm,ints]
  refine⟨by simp[ints],inr ⟨gN,n,_,rfl,le_refl _,HL.out.1,le_refl _,by unfold maxLen;omega,by simp[Uh n n (le_refl _)],?_⟩⟩;rw[<-e];simp[take_of_length_le,Uh n n (le_refl _)]
 clear HL;go_wp2;go_ret;exact HF.out
def py(f:Nat->Int)(n:Nat):List Value:=(range n).map fun y=>Value.int .i64 (f y)
theorem Lw(f:Nat->Int)(n x:Nat)(h:x<n):(py f n)[x]?=some (.int .i64 (f x)):=by simp[py,h]
theorem zlq(f:Nat->Int)(n x:Nat)(v:Int):(py f n).set x (.int .i64 v)=py (fun y=>if y=x then v else f y) n:=by
 unfold py;apply ext_getElem?;intro i;rw[List.getElem?_set];by_cases e:x=i
 ·subst e;by_cases h:x<n
  ·simp[h]
  simp[h]
 rw[if_neg e];by_cases h:i<n
 ·simp[h,Ne.symm e,show ¬i=x from fun h=>e h.symm]
 simp[h]
theorem Yz(n:Nat)(v:Int):ints (replicate n v)=py (fun _=>v) n:=by
 unfold py ints;apply ext_getElem?;intro i;by_cases h:i<n <;> simp[h]
def LL(x:Nat->Int):Int->List Nat->Prop
 | v,[]=>v=-1
 | v,a :: l=>v=(a:Int)/\LL x (x a) l
def chain(t:Nat->Nat)(k s:Nat):List Nat:=((range k).filter fun i=>t i == s).reverse
theorem It(t:Nat->Nat)(k s i:Nat):i∈chain t k s↔i<k/\t i=s:=by simp[chain]
theorem zhJ(t:Nat->Nat)(k s:Nat):(chain t k s).Nodup:=by
 unfold chain;exact List.pairwise_reverse.2 ((List.Nodup.sublist List.filter_sublist List.nodup_range).imp fun h=>Ne.symm h)
theorem zjT(t:Nat->Nat)(k s:Nat):chain t (k+1) s=if t k=s then k :: chain t k s else chain t k s:=by
 unfold chain;rw[range_succ,List.filter_append,List.reverse_append];by_cases h:t k=s
 ·simp[h]
 simp[h]
theorem LL.congr{x x':Nat->Int}:∀(l:List Nat) (v:Int),(∀a∈l,x a=x' a)->LL x v l->LL x' v l
 | [],_,_,h=>h
 | a :: l,v,e,h=>⟨h.1,by
   have h2:=h.2
   rw[e a List.mem_cons_self] at h2
   exact LL.congr l _ (fun b hb=>e b (List.mem_cons_of_mem _ hb)) h2⟩
theorem LL.link{t:Nat->Nat}{k:Nat}(h:∀s,s<N->LL x (f s) (chain t k s))(hk:t k<N):
  ∀s,s<N->LL (fun j=>if j=k then f (t k) else x j) (if s=t k then (k:Int) else f s) (chain t (k+1) s):=by
 intro s yq;rw[zjT];have hc:∀s,s<N->LL (fun j=>if j=k then f (t k) else x j) (f s) (chain t k s):=fun s yq=>
  LL.congr _ _ (fun a ha=>by
   have:=((It t k s a).1 ha).1
   rw[if_neg (by omega)]) (h s yq)
 by_cases e:s=t k
 ·subst e;rw[if_pos rfl,if_pos rfl];refine⟨rfl,?_⟩;show LL _ (if k=k then f (t k) else x k) _;rw[if_pos rfl];exact hc _ yq
 rw[if_neg e,if_neg (fun e2=>e e2.symm)];exact hc _ yq
structure rT (W0 w:World)(b gF gX N:Nat)(f x:Nat->Int):Prop where
 aP:Below W0.heap.size W0 w
 st:St w 168 b #[.slice (some ⟨gF,0,none⟩) N N,.slice (some ⟨gX,0,none⟩) N N]
 fs:w.ownsRow W0.heap.size 3 1 (.slice (some ⟨gF,0,none⟩) N N) N (py f N)
 xs:w.ownsRow W0.heap.size 3 1 (.slice (some ⟨gX,0,none⟩) N N) N (py x N)
 ne:gF≠gX
 lo:W0.heap.size<=b
theorem rT.ab{b:Nat}(h:rT W0 w b gF gX N f x)(k:Below w.heap.size w w1):rT W0 w1 b gF gX N f x:=
 ⟨h.aP.trans (k.mono h.aP.size),h.st.ab k,db h.fs k,db h.xs k,h.ne,h.lo⟩
theorem rT.QO{b:Nat}(h:rT W0 w b gF gX N f x)(i:Nat)(hi:i<N)(v:Int):rT W0 (w.setCell ⟨gX,i,none⟩ (.int .i64 v)) b gF gX N f (fun j=>if j=i then v else x j):=by
 have hk:Kept [] [gX] w (w.setCell ⟨gX,i,none⟩ (.int .i64 v)):=(Kept.refl _ _ _).setCell _ _ (inl (by simp));refine⟨h.aP.setCell (p:=⟨gX,i,none⟩) (kL h.xs gX rfl) _,h.st.fK (p:=⟨gX,i,none⟩) (fun e=>eB h.xs h.st (by decide) gX rfl e.symm) _,fI h.fs hk (by simp) (fun g e hm=>?_),?_,h.ne,h.lo⟩
 ·rw[List.mem_singleton.1 hm] at e;simp[ownBlock] at e;exact h.ne e
 rw[<-zlq];exact uj h.xs i hi _
theorem rT.Rh{b:Nat}(h:rT W0 w b gF gX N f x)(i:Nat)(hi:i<N)(v:Int):rT W0 (w.setCell ⟨gF,i,none⟩ (.int .i64 v)) b gF gX N (fun j=>if j=i then v else f j) x:=by
 have hk:Kept [] [gF] w (w.setCell ⟨gF,i,none⟩ (.int .i64 v)):=(Kept.refl _ _ _).setCell _ _ (inl (by simp));refine⟨h.aP.setCell (p:=⟨gF,i,none⟩) (kL h.fs gF rfl) _,h.st.fK (p:=⟨gF,i,none⟩) (fun e=>eB h.fs h.st (by decide) gF rfl e.symm) _,?_,fI h.xs hk (by simp) (fun g e hm=>?_),h.ne,h.lo⟩
 ·rw[<-zlq];exact uj h.fs i hi _
 rw[List.mem_singleton.1 hm] at e;simp[ownBlock] at e;exact h.ne e.symm
theorem rT.atF{b:Nat}(h:rT W0 w b gF gX N f x)(i:Nat)(hi:i<N):w.cell? ⟨gF,i,none⟩=some (.int .i64 (f i))/\w.frozen? ⟨gF,i,none⟩=false:=by
 obtain⟨g,e,_,_,hc⟩:=eC h.fs (by omega);injection e with e;injection e with e;subst e;obtain⟨h1,h2⟩:=hc i (by omega);exact⟨by rw[h1,Lw _ _ _ hi],h2⟩
theorem rT.atX{b:Nat}(h:rT W0 w b gF gX N f x)(i:Nat)(hi:i<N):w.cell? ⟨gX,i,none⟩=some (.int .i64 (x i))/\w.frozen? ⟨gX,i,none⟩=false:=by
 obtain⟨g,e,_,_,hc⟩:=eC h.xs (by omega);injection e with e;injection e with e;subst e;obtain⟨h1,h2⟩:=hc i (by omega);exact⟨by rw[h1,Lw _ _ _ hi],h2⟩
theorem zjU:∀(args:Array Value) (W:World),(callFunc 144 args).run prog W=.ok (.enter 144 args) W:=fun _ _=>by rfl
def znh(W0 w:World)(b gF gX N:Nat)(f x:Nat->Int)(e:Ending)(w':World):Prop:=e=.returned (.tuple #[])/\rT W0 w' b gF gX N f x/\Kept [] [gF,gX] w w'
theorem Vb(W0 w:World)(b gF gX N:Nat)(f x:Nat->Int)(h:rT W0 w b gF gX N f x)(i t:Nat)(hi:i<N)(ht:t<N):
  Calls prog 144 #[.int .i64 (i:Int),.int .i64 (t:Int),.pointer (some ⟨b,0,none⟩)] w (znh W0 w b gF gX N (fun j=>if j=t then (i:Int) else f j) (fun j=>if j=i then f t else x j)):=by
 have c0:w.cell? ⟨b,0,none⟩=some (.slice (some ⟨gF,0,none⟩) N N):=h.st.at_ 0;have c1:w.cell? ⟨b,1,none⟩=some (.slice (some ⟨gX,0,none⟩) N N):=h.st.at_ 1;obtain⟨d0,d1⟩:=h.atF t ht;obtain⟨d2,d3⟩:=h.atX i hi;have eQ:gX≠b:=eB h.xs h.st (by decide) gX rfl;have cv:gF≠b:=eB h.fs h.st (by decide) gF rfl;have dM:b≠gX:=fun e=>eQ e.symm
 have fp:b≠gF:=fun e=>cv e.symm
 have hF:=hid ((h.QO i hi (f t)).Rh t ht (i:Int));have e1:gX≠gF:=fun e=>h.ne e.symm
 have e2:gF≠gX:=h.ne;have i1:(i:Int)<N:=by omega
 have i2:(t:Int)<N:=by omega
 clear h;generalize f t=ft at d0 hF⊢;generalize x i=xi at d2;go_in;go_wp2_with fail
 go_region
 go_wp2_with fail;go_end0;exact⟨rfl,hF.out.ab (Below.refl _ _).drew,(((Kept.refl _ _ _).setCell _ _ (inl (by simp))).setCell _ _ (inl (by simp))).drew⟩
def tD(D:Dd)(i c:Nat):Nat:=if i<D.n/\0<=D.nx i c then (D.nx i c).toNat else D.n
theorem C3(h:DR D C)(i c:Nat)(hc:c<C):tD D i c<D.n+1:=by
 unfold tD;split
 ·rename_i h1;have:=h.nx i c h1.1 hc;omega
 omega
def ziZ(D:Dd)(c:Nat)(w:World)(e:Ending)(w':World):Prop:=
 ∃(gF gX:Nat) (f x:Nat->Int),e=.returned (.agg #[.slice (some ⟨gF,0,none⟩) (D.n+1) (D.n+1),.slice (some ⟨gX,0,none⟩) (D.n+1) (D.n+1)])/\
  w'.ownsRow w.heap.size 3 1 (.slice (some ⟨gF,0,none⟩) (D.n+1) (D.n+1)) (D.n+1) (py f (D.n+1))/\w'.ownsRow w.heap.size 3 1 (.slice (some ⟨gX,0,none⟩) (D.n+1) (D.n+1)) (D.n+1) (py x (D.n+1))/\
  (∀s,s<D.n+1->LL x (f s) (chain (fun i=>tD D i c) (D.n+1) s))/\Below w.heap.size w w'
theorem zfL(D:Dd)(C:Nat)(hR:DR D C)(c:Nat)(hc:c<C)(w:World)(hD:DM w D):
  Calls prog 115 #[.agg D.cD,.int .i64 (c:Int)] w (ziZ D c w):=by
 have cU:=hR.n2;obtain⟨N,hN⟩:∃N,D.n+1=N:=⟨_,rfl⟩
 have my:Hid (∀(W:World) (g:Nat),W.cell? ⟨g,0,none⟩=some (.int .i64 (-1))->g<W.heap.size->Calls prog 40 #[.slice (some ⟨g,0,none⟩) 1 1,.int .i64 ((D.n:Int)+1)] W (NI N W)):=fun W g h1 h2=>by
  have:=ze6 N (by omega) (by omega) g W h1 h2;rw[<-hN] at this⊢;exact this
 have HD:=hid hD;have HB:=ψ (bg.new hD) (al w (.cells D.cD 29)) hR hN;clear hD hR hN;go_in;go_upto_region 1 with fail;obtain⟨W1,p8⟩:∃W1,(w.alloc (.cells D.cD 29)).alloc (.cells #[.slice none 0 0,.slice none 0 0] 168)=W1:=⟨_,rfl⟩
 obtain⟨b0,ay⟩:∃b0,w.heap.size=b0:=⟨_,rfl⟩
 have H1:Hid (bg W1 b0 D/\St W1 168 (b0+1) #[.slice none 0 0,.slice none 0 0]/\Below b0 w W1):=by
  have k2:=al (w.alloc (.cells D.cD 29)) (.cells #[.slice none 0 0,.slice none 0 0] 168);rw[<-p8,<-ay];refine⟨HB.out.1.ab k2,?_,HB.out.2.1.trans (k2.mono (by simp))⟩;have:=St.new (w.alloc (.cells D.cD 29)) 168 #[.slice none 0 0,.slice none 0 0];rw[show (w.alloc (.cells D.cD 29)).heap.size=w.heap.size+1 by simp] at this;exact this
 have bW:=hid ay;rw[p8,ay];clear p8 ay;have c1:=H1.out.1.f1;go_wp2_with fail;refine (my.out _ _ (by exact cell_one_new _ _ _ 0 _ rfl) (by simp)).mono ?_;rintro e w5 ⟨gF,rfl,o5,b5⟩;obtain⟨W5,Fj⟩:∃W5,W5=w5:=⟨_,rfl⟩
 have H5:Hid (w5.ownsRow b0 3 1 (.slice (some ⟨gF,0,none⟩) N N) N (py (fun _=>-1) N)/\St w5 168 (b0+1) #[.slice none 0 0,.slice none 0 0]/\Below b0 w w5/\gF<w5.heap.size/\Below W1.heap.size W1 w5):=by
  have k1:=al W1 (.cells #[.int .i64 (-1)] 3);have lf:=H1.out.2.2.size;have oh:b0<=W1.heap.size:=by have:=H1.out.2.1.lt;omega
  rw[Yz] at o5;exact⟨gn o5 (by simp;omega),(H1.out.2.1.ab k1).ab b5,H1.out.2.2.trans ((k1.mono oh).trans (b5.mono (by simp;omega))),lZ o5 gF rfl,k1.trans (b5.mono (by simp))⟩
 clear o5 b5 Fj W5;go_wp2_with fail;refine (my.out _ _ (by exact cell_one_new _ _ _ 0 _ rfl) (by simp)).mono ?_;rintro e w6 ⟨gX,rfl,o6,b6⟩;have H6:Hid (w6.ownsRow b0 3 1 (.slice (some ⟨gF,0,none⟩) N N) N (py (fun _=>-1) N)/\w6.ownsRow b0 3 1 (.slice (some ⟨gX,0,none⟩) N N) N (py (fun _=>-1) N)/\St w6 168 (b0+1) #[.slice none 0 0,.slice none 0 0]/\Below b0 w w6/\gF≠gX/\Below W1.heap.size W1 w6):=by
  have k1:=al w5 (.cells #[.int .i64 (-1)] 3);have oh:b0<=w5.heap.size:=by have:=H5.out.2.1.lt;omega
  rw[Yz] at o6;have Ks:=kL o6 gX rfl;have aq:=H5.out.2.2.2.1;refine⟨db (db H5.out.1 k1) b6,gn o6 (by simp;omega),(H5.out.2.1.ab k1).ab b6,H5.out.2.2.1.trans ((k1.mono oh).trans (b6.mono (by simp;omega))),?_,H5.out.2.2.2.2.trans ((k1.mono H5.out.2.2.2.2.size).trans (b6.mono (by have:=H5.out.2.2.2.2.size;simp;omega)))⟩;rw[show (w5.alloc (.cells #[.int .i64 (-1)] 3)).heap.size=w5.heap.size+1 by simp] at Ks;omega
 clear o6 b6 H5 c1;go_upto_region 3 with fail;obtain⟨W7,Dq⟩:∃W7,w6.alloc (.cells #[.slice (some ⟨gF,0,none⟩) N N,.slice (some ⟨gX,0,none⟩) N N] 168)=W7:=⟨_,rfl⟩
 obtain⟨b6,eU⟩:∃b6,w6.heap.size=b6:=⟨_,rfl⟩
 have H7:Hid (rT w W7 b6 gF gX N (fun _=>-1) (fun _=>-1)/\St W7 168 (b0+1) #[.slice none 0 0,.slice none 0 0]/\b0+1≠b6/\Below W1.heap.size W1 W7):=by
  have k1:=al w6 (.cells #[.slice (some ⟨gF,0,none⟩) N N,.slice (some ⟨gX,0,none⟩) N N] 168);have oh:=H6.out.2.2.1.lt;rw[<-Dq,<-eU];refine⟨⟨?_,St.new _ _ _,?_,?_,H6.out.2.2.2.2.1,?_⟩,H6.out.2.2.1.ab k1,by omega,H6.out.2.2.2.2.2.trans (k1.mono (H6.out.2.2.2.2.2.size))⟩
  ·rw[bW.out];exact H6.out.2.2.2.1.trans (k1.mono (by omega))
  ·rw[bW.out];exact db H6.out.1 k1
  ·rw[bW.out];exact db H6.out.2.1 k1
  rw[bW.out];omega
 rw[Dq,eU];clear Dq eU H6;have gq:=zjU;have HN:=HB.out.2.2.2;have c1:W7.cell? ⟨b0,256,none⟩=some (.slice D.aN D.n D.cN):=(H7.out.2.2.2.cell (p:=⟨b0,256,none⟩) H1.out.1.st.lt).trans H1.out.1.f1;go_wp2;go_loopw [8,9,10,27] (fun _ _ _ vk wr=>∃k:Nat,vk=.int .i64 k/\k<=D.n/\Hid (∃f x,rT w wr b6 gF gX N f x/\St wr 168 (b0+1) #[.slice none 0 0,.slice none 0 0]/\∀s,s<N->LL x (f s) (chain (fun i=>tD D i c) k s))) (fun _ _ _ v _=>D.n-(intOf v).toNat)
 ·exact⟨0,rfl,zero_le _,_,_,H7.out.1,H7.out.2.1,fun s _=>rfl⟩
 obtain⟨k,rfl,hk,HL⟩:=hrel;by_cases aq:k<D.n
 ·obtain⟨f,x,y8,sH,B4⟩:=HL.out;obtain⟨gN,oN,eN,_,pO⟩:=(HD.out.rN.below y8.aP) (by omega);obtain⟨cN,zN⟩:=pO k aq;rw[HB.out.2.2.1.len k aq] at cN zN;have K9:0<C:=by omega
  obtain⟨gA,oA,eA,_,lH⟩:=zN K9;have cA:=lH c hc;rw[eA] at cN;have yQ:=HB.out.2.2.1.nx k c aq hc;obtain⟨t,ht⟩:∃t,tD D k c=t:=⟨_,rfl⟩
  have EO:t<N:=by rw[<-ht,<-HN];exact C3 HB.out.2.2.1 k c hc
  have HC:=hid (Vb w wr b6 gF gX N f x y8 k t (by omega) EO);have FT:=hid (LL.link (t:=fun i=>tD D i c) (k:=k) B4 (by show tD D k c<N;rw[ht];exact EO));have rI:b0+1≠gF:=fun e=>eB y8.fs sH (by decide) gF rfl e.symm
  have kW:b0+1≠gX:=fun e=>eB y8.xs sH (by decide) gX rfl e.symm
  have zJ:Hid (∀w',Kept [] [gF,gX] wr w'->St w' 168 (b0+1) #[.slice none 0 0,.slice none 0 0]):=fun w' hk=>sH.kept hk (by simp) (by simp[rI,kW])
  have Ht:=hid ht;have Vx:(D.nx k c=-1/\t=D.n)\/(D.nx k c≠-1/\D.nx k c=(t:Int)):=by
   rw[<-ht];unfold tD;by_cases h0:D.nx k c=-1
   ·exact inl ⟨h0,by rw[if_neg (by omega)]⟩
   exact inr ⟨h0,by rw[if_pos ⟨aq,by omega⟩];omega⟩
  have i1:(k:Int)<(D.n:Int):=by omega
  have i2:(c:Int)<C:=by omega
  rw[eN];have vZ:=hid eN;generalize D.nx k c=nx at cA Vx;clear pO zN lH y8 sH B4 yQ ht eA HL c1 HN eN rI kW;rcases Vx with ⟨rfl,rfl⟩|⟨h0,rfl⟩
  ·go_wp2_with fail;refine HC.out.mono ?_;rintro e w8 ⟨rfl,pj,xz⟩;have H8:=ζ pj (zJ.out _ xz);clear pj xz HC cN cA;go_wp2;go_roundw
   ·refine⟨k+1,by go_num,by omega,_,_,H8.out.1,H8.out.2,fun s hs=>?_⟩;have:=FT.out s hs;simp only[Ht.out] at this;exact this
   simp[intOf];omega
  have i3:((t:Int) == -1)=false:=by rw[beq_eq_false_iff_ne];omega
  go_wp2_with fail;refine HC.out.mono ?_;rintro e w8 ⟨rfl,pj,xz⟩;have H8:=ζ pj (zJ.out _ xz);clear pj xz HC cN cA;go_wp2;go_roundw
  ·refine⟨k+1,by go_num,by omega,_,_,H8.out.1,H8.out.2,fun s hs=>?_⟩;have:=FT.out s hs;simp only[Ht.out] at this;exact this
  simp[intOf];omega
 obtain rfl:k=D.n:=by omega
 obtain⟨f,x,y8,sH,B4⟩:=HL.out;have OZ:tD D D.n c=D.n:=by unfold tD;rw[if_neg (by omega)]
 have HC:=hid (Vb w wr b6 gF gX N f x y8 D.n D.n (by omega) (by omega));have FT:=hid (LL.link (t:=fun i=>tD D i c) (k:=D.n) B4 (by show tD D D.n c<N;rw[OZ];omega));have rI:b0+1≠gF:=fun e=>eB y8.fs sH (by decide) gF rfl e.symm
 have kW:b0+1≠gX:=fun e=>eB y8.xs sH (by decide) gX rfl e.symm
 have zJ:Hid (∀w',Kept [] [gF,gX] wr w'->St w' 168 (b0+1) #[.slice none 0 0,.slice none 0 0]):=fun w' hk=>sH.kept hk (by simp) (by simp[rI,kW])
 have Htn:=hid OZ;have Fe:=hid HN;clear y8 sH B4 OZ HL c1 HN rI kW;go_wp2_with fail;refine HC.out.mono ?_;rintro e w8 ⟨rfl,pj,xz⟩;have we:=zJ.out _ xz;have s0:w8.cell? ⟨b6,0,none⟩=some (.slice (some ⟨gF,0,none⟩) N N):=pj.st.at_ 0;have s1:w8.cell? ⟨b6,1,none⟩=some (.slice (some ⟨gX,0,none⟩) N N):=pj.st.at_ 1;have s2:w8.cell? ⟨b0+1,0,none⟩=some (.slice none 0 0):=we.at_ 0;have s3:w8.cell? ⟨b0+1,1,none⟩=some (.slice none 0 0):=we.at_ 1;have z2:=we.bb 0;have z3:=we.bb 1;have H8:=ζ pj we;clear pj we xz HC;have HF:Hid (ziZ D c w (.returned (.agg #[.slice (some ⟨gF,0,none⟩) N N,.slice (some ⟨gX,0,none⟩) N N])) ((w8.setCell ⟨b0+1,0,none⟩ (.slice (some ⟨gF,0,none⟩) N N)).setCell ⟨b0+1,1,none⟩ (.slice (some ⟨gX,0,none⟩) N N))):=by
  have hk:Kept [] [b0+1] w8 ((w8.setCell ⟨b0+1,0,none⟩ (.slice (some ⟨gF,0,none⟩) N N)).setCell ⟨b0+1,1,none⟩ (.slice (some ⟨gX,0,none⟩) N N)):=((Kept.refl _ _ _).setCell _ _ (inl (by simp))).setCell _ _ (inl (by simp));have o1:=fI H8.out.1.fs hk (by simp) (fun g e hm=>eB H8.out.1.fs H8.out.2 (by decide) g e (List.mem_singleton.1 hm));have o2:=fI H8.out.1.xs hk (by simp) (fun g e hm=>eB H8.out.1.xs H8.out.2 (by decide) g e (List.mem_singleton.1 hm));refine⟨gF,gX,_,_,by rw[Fe.out],by rw[Fe.out];exact o1,by rw[Fe.out];exact o2,fun s hs=>?_,?_⟩
  ·have:=FT.out s (by rw[<-Fe.out];exact hs);simp only[Htn.out] at this;exact this
  have hb:=bW.out;exact (H8.out.1.aP.setCell (p:=⟨b0+1,0,none⟩) (by show w.heap.size<=b0+1;omega) _).setCell (p:=⟨b0+1,1,none⟩) (by show w.heap.size<=b0+1;omega) _
 go_wp2_with fail;refine bodyPost_ret (v:=.agg #[.slice (some ⟨gF,0,none⟩) N N,.slice (some ⟨gX,0,none⟩) N N]) (by simp[results,results115,go_sem,z2,z3,s2,s3]) rfl ?_;exact HF.out
def jM(t:Nat->Nat)(N:Nat)(T:List Nat):List Nat:=T.flatMap (chain t N)
theorem S9(t:Nat->Nat)(N:Nat)(T:List Nat)(i:Nat):i∈jM t N T↔i<N/\t i∈T:=by
 unfold jM;rw[List.mem_flatMap];constructor
 ·rintro⟨s,hs,h⟩;obtain⟨h1,h2⟩:=(It t N s i).1 h;exact⟨h1,by rw[h2];exact hs⟩
 rintro⟨h1,h2⟩;exact⟨t i,h2,(It t N _ i).2 ⟨h1,rfl⟩⟩
theorem XH(t:Nat->Nat)(N:Nat):∀(T:List Nat),T.Nodup->(jM t N T).Nodup:=by
 intro T
 induction T with
 | nil=>intro _;simp[jM]
 | cons s T ih=>
  intro h;have h2:=List.nodup_cons.1 h;show (chain t N s++jM t N T).Nodup;rw[List.nodup_append];refine⟨zhJ t N s,ih h2.2,fun a ha b hb e=>?_⟩;subst e;have h3:=((It t N s a).1 ha).2;have h4:=((S9 t N T a).1 hb).2;rw[h3] at h4;exact h2.1 h4
theorem zls(t:Nat->Nat)(N:Nat)(T:List Nat)(k:Nat)(h:k<T.length):jM t N (T.take (k+1))=jM t N (T.take k)++chain t N T[k]:=by
 unfold jM;rw[Ly _ _ h,pH _ _ _ h,List.flatMap_append];simp
structure lY (V:World)(B:Nat)(ls:List Nat)(l:List Nat)(v:Value)(w:World):Prop where
 kept:Kept [] ls V w
 below:Below B V w
 own:w.ownsRow B 3 1 v l.length (cY l)
 loc:∀g,v.ownBlock=some g->g∈ls\/V.heap.size<=g
 lo:B<=V.heap.size
theorem lY.ab{v:Value}(h:lY V B ls l v w)(k:Below w.heap.size w w1):lY V B ls l v w1:=
 ⟨h.kept.below k,h.below.trans (k.mono (le_trans h.lo h.below.size)),db h.own k,h.loc,h.lo⟩
theorem lY.app{V:World}{B q:Nat}{ls l:List Nat}{v v':Value}{w w':World}{x:Nat}(h:lY V B ls l v w)(hq:l.length=q)(ho:w'.ownsRow B 3 1 v' (q+1) (cY l++[.int .i64 (x:Int)]))(hg:w.grownBy w' v.ownBlock)(fx:v'.ownBlock=v.ownBlock\/v'.ownBlock=some w.heap.size):lY V B ls (l++[x]) v' w':=by
 subst hq;have hB:B<=w.heap.size:=le_trans h.lo h.below.size;refine⟨h.kept.grown hg (fun g e=>(h.loc g e).elim inl (fun x=>inr (inl x))),fL h.below h.own hB hg,?_,fun g e=>?_,h.lo⟩
 ·rw[xG,List.length_append];exact ho
 rcases fx with e1|e1
 ·exact h.loc g (by rw[<-e1];exact e)
 rw[e] at e1;injection e1 with e1;exact inr (by have:=h.below.size;omega)
def DS:Value->Nat
 | .slice _ n _=>n
 | _=>0
def Qi(B:Nat)(ls l:List Nat)(w:World)(e:Ending)(w':World):Prop:=∃a c,e=.returned (.slice a l.length c)/\lY w B ls l (.slice a l.length c) w'
theorem zni(N:Nat)(hN:N<=100000)(t:Nat->Nat)(ht:∀i,i<N->t i<N)(f x:Nat->Int)(B4:∀s,s<N->LL x (f s) (chain t N s))(gF gX:Nat)(B B1:Nat)(aS:Option Addr)(cS:Nat)(T:List Nat)(m:Nat)(hm:T.length=m)(hT:T.Nodup)(T1:∀s∈T,s<N)(aT:Option Addr)(cT:Nat)(w:World)
  (oF:w.ownsRow B1 3 1 (.slice (some ⟨gF,0,none⟩) N N) N (py f N)) (oX:w.ownsRow B1 3 1 (.slice (some ⟨gX,0,none⟩) N N) N (py x N)) (oS:w.ownsRow B 3 1 (.slice aS 0 cS) 0 []) (hB:B<=w.heap.size) (hL:nQ w aT T)
  (ls:List Nat) (vY:ls=(Value.slice aS 0 cS).ownBlock.toList) (nF:gF∉ls) (nX:gX∉ls) (nT:∀ad,aT=some ad->ad.block∉ls):
  Calls prog 117 #[.agg #[.slice (some ⟨gF,0,none⟩) N N,.slice (some ⟨gX,0,none⟩) N N],.slice aS 0 cS,.slice aT m cT] w (Qi B ls (jM t N T) w):=by
 have Vr:m<=N:=by rw[<-hm];exact qw hT T1
 have zr:∀k,k<=m->(jM t N (T.take k)).length<=N:=fun k hk=>qw (XH t N _ (hT.sublist (List.take_sublist _ _))) (fun i hi=>((S9 t N _ i).1 hi).1)
 have El:∀g∈ls,g<w.heap.size:=fun g hg=>by
  rw[vY] at hg;exact lZ oS g (by simpa using hg)
 have h0:lY w B ls [] (.slice aS 0 cS) w:=⟨Kept.refl _ _ _,Below.refl _ _,oS,fun g e=>inl (by rw[vY];simpa using e),hB⟩
 have k1:=al w (.cells #[.slice (some ⟨gF,0,none⟩) N N,.slice (some ⟨gX,0,none⟩) N N] 168);have K9:=h0.ab k1;have KB:=St.new w 168 #[.slice (some ⟨gF,0,none⟩) N N,.slice (some ⟨gX,0,none⟩) N N];have HX:=hid (Zz ht (Zz B4 (Zz hm (Zz hT (Zz T1 (Zz oF (Zz oX (Zz hL (Zz nF (Zz nX (Zz nT (Zz zr El))))))))))));obtain⟨b3,dM⟩:∃b3,w.heap.size=b3:=⟨_,rfl⟩
 have G3:b3∉ls:=fun mr=>by have:=El b3 mr;omega
 rw[dM] at KB;have H1:=ξ K9 KB G3;have pS:=hid dM;clear ht B4 hm hT T1 oF oX oS hB hL vY nF nX nT zr El h0 k1 K9 KB G3;go_in;go_upto_region 1 with fail;generalize w.alloc (.cells #[.slice (some ⟨gF,0,none⟩) N N,.slice (some ⟨gX,0,none⟩) N N] 168)=W1 at H1⊢;clear dM;go_wp2;go_loopw [1,8,9,12] (fun v1 _ _ vk wr=>∃(k p:Nat) (a:Option Addr) (c:Nat),vk=.int .i64 k/\k<=m/\p<=N/\v1=.slice a p c/\Hid ((jM t N (T.take k)).length=p/\lY w B ls (jM t N (T.take k)) (.slice a p c) wr/\St wr 168 b3 #[.slice (some ⟨gF,0,none⟩) N N,.slice (some ⟨gX,0,none⟩) N N])) (fun _ _ _ v _=>m-(intOf v).toNat)
 ·exact⟨0,0,aS,cS,rfl,zero_le _,zero_le _,rfl,rfl,H1.out.1,H1.out.2.1⟩
 obtain⟨k,p,a,c,rfl,hk,hpN,rfl,HL⟩:=hrel;by_cases aq:k<m
 ·have hkl:k<T.length:=by rw[HX.out.2.2.1];exact aq
  obtain⟨gT,oT,eT,_,pT⟩:=(nQ.tL HX.out.2.2.2.2.2.2.2.1 HL.out.2.1.kept HL.out.2.1.below.size HX.out.2.2.2.2.2.2.2.2.2.2.1) (by omega);have Qj:wr.cell? ⟨gT,oT+k,none⟩=some (.int .i64 (T.getD k 0)):=pT k hkl;rw[pH _ _ _ hkl] at Qj;have Mx:=HX.out.2.2.2.2.1 _ (List.getElem_mem hkl);have bY:=zls t N T k hkl;have Cq:=HX.out.2.1 _ Mx;have wY:=HX.out.2.2.2.2.2.2.2.2.2.2.2.1 (k+1) (by omega);rw[bY] at wY;have DP:=hid bY;obtain⟨s,hs⟩:∃s,T[k]=s:=⟨_,rfl⟩
  rw[hs] at Qj Mx Cq wY DP;clear hs bY pT;obtain⟨P0,Gj⟩:∃P0,jM t N (T.take k)=P0:=⟨_,rfl⟩
  rw[Gj] at wY DP HL;obtain⟨cF,Ty⟩:∃cF:Nat->Int,cF=f:=⟨f,rfl⟩
  have ZD:=fI HX.out.2.2.2.2.2.1 HL.out.2.1.kept (by simp) (fun g e mr=>by simp[ownBlock] at e;rw[<-e] at mr;exact HX.out.2.2.2.2.2.2.2.2.1 mr);obtain⟨gF',eF,_,_,cFr⟩:=eC ZD (by omega);injection eF with eF;injection eF with eF;subst eF;have d0:=(cFr s (by omega)).1;rw[Lw _ _ _ Mx] at d0;have s0:wr.cell? ⟨b3,0,none⟩=some (.slice (some ⟨gF,0,none⟩) N N):=HL.out.2.2.at_ 0;have i1:(k:Int)<m:=by omega
  have i2:(s:Int)<N:=by omega
  rw[eT];have HeT:=hid eT;have OF:=ζ Cq wY;clear cFr ZD eT Cq wY Gj Ty;obtain⟨fs,kP⟩:∃fs,f s=fs:=⟨_,rfl⟩
  rw[kP] at d0 OF;clear kP;go_wp2_with fail;obtain⟨W9,Un⟩:∃W9,W9=wr:=⟨wr,rfl⟩
  clear Un W9 d0 s0 Qj;go_loopw [1,9] (fun v1 v9 wq=>∃(u:Int) (dn rest:List Nat) (p2:Nat) (a2:Option Addr) (c2:Nat),v9=.int .i64 u/\p2<=N/\v1=.slice a2 p2 c2/\Hid (chain t N s=dn++rest/\LL x u rest/\(P0++dn).length=p2/\lY w B ls (P0++dn) (.slice a2 p2 c2) wq/\St wq 168 b3 #[.slice (some ⟨gF,0,none⟩) N N,.slice (some ⟨gX,0,none⟩) N N])) (fun v1 _ _=>N-DS v1)
  ·exact⟨fs,[],chain t N s,p,a,c,rfl,hpN,rfl,rfl,OF.out.1,by simpa using HL.out.1,by simpa using HL.out.2.1,HL.out.2.2⟩
  obtain⟨u,dn,rest,p2,a2,c2,rfl,fO,rfl,HK⟩:=hrel;rcases rest with _|⟨y,rest⟩
  ·obtain rfl:u=-1:=HK.out.2.1;have HZ:Hid (jM t N (T.take (k+1))=P0++dn):=by
    show _=_;rw[DP.out,HK.out.1,List.append_nil]
   have sR:Hid ((P0++dn).length=p2/\lY w B ls (P0++dn) (.slice a2 p2 c2) wr/\St wr 168 b3 #[.slice (some ⟨gF,0,none⟩) N N,.slice (some ⟨gX,0,none⟩) N N]):=HK.out.2.2;clear HK HL;go_wp2;go_roundw
   ·exact⟨k+1,p2,a2,c2,by go_num,by omega,fO,rfl,by rw[HZ.out];exact sR.out⟩
   simp[intOf];omega
  obtain⟨rfl,Kr⟩:u=(y:Int)/\LL x (x y) rest:=HK.out.2.1;have hy:y∈chain t N s:=by rw[HK.out.1];simp
  have hyN:=((It t N s y).1 hy).1;have ic:p2+1<=N:=by
   have h1:=OF.out.2;rw[HK.out.1] at h1;have h2:=HK.out.2.2.1;simp at h1 h2;omega
  have UK:=fI HX.out.2.2.2.2.2.2.1 HK.out.2.2.2.1.kept (by simp) (fun g e mr=>by simp[ownBlock] at e;rw[<-e] at mr;exact HX.out.2.2.2.2.2.2.2.2.2.1 mr);have HoX:=hid UK;have hO:=HK.out.2.2.2.1.own;rw[HK.out.2.2.1] at hO;have sX:B<=wr.heap.size:=le_trans HK.out.2.2.2.1.lo HK.out.2.2.2.1.below.size;obtain⟨i0,hi,dv,cP,cG⟩:=info_parts aG;have i3:((y:Int) != -1)=true:=by first|(simp;done)|(simp;omega)
  have i4:(y:Int)<N:=by omega
  have Xv:=hid Kr;clear hy UK Kr;go_wp2_with (at_builtin;refine wpList_append_own_at _ rfl _ _ 27 rfl B 3 i0 (.int .i64 0) 1 8 underlying27 hi dv cP cG rfl (by decide) _ _ _ rfl (hO.alloc _) ⟨wr.heap.size,0,none⟩ 1 1 [.int .i64 (y:Int)] rfl rfl (cell_one_new _ _ _) ?d2 ?d3 ?d4 ?d5 ?_)
  case d2=>first|(intro u hu;simp at hu;subst hu;rfl)|rfl
  case d3=>unfold maxLen;omega
  case d4=>omega
  case d5=>first|(simp;omega)|omega
  intro v' w5 ah ag _ bJ;obtain⟨a5,c5,rfl⟩:=bP ah;have LK:Hid (lY w B ls (P0++(dn++[y])) (.slice a5 (p2+1) c5) w5/\St w5 168 b3 #[.slice (some ⟨gF,0,none⟩) N N,.slice (some ⟨gX,0,none⟩) N N]):=by
   have h2:=HK.out.2.2.2.1.ab (al wr (.cells #[.int .i64 (y:Int)] 3));have h3:=h2.app (v':=.slice a5 (p2+1) c5) HK.out.2.2.1 ah ag (by
    rw[show (wr.alloc (.cells #[.int .i64 (y:Int)] 3)).heap.size=wr.heap.size+1 by simp]
    exact bJ)
   rw[<-List.append_assoc];exact⟨h3,(HK.out.2.2.2.2.alloc _).ae (hO.alloc _) (by decide) ag⟩
  have s1:w5.cell? ⟨b3,1,none⟩=some (.slice (some ⟨gX,0,none⟩) N N):=LK.out.2.at_ 1;have XE:=fI HX.out.2.2.2.2.2.2.1 LK.out.1.kept (by simp) (fun g e mr=>by simp[ownBlock] at e;rw[<-e] at mr;exact HX.out.2.2.2.2.2.2.2.2.2.1 mr);obtain⟨gX',eX,_,_,cXr⟩:=eC XE (by omega);injection eX with eX;injection eX with eX;subst eX;have d1:=(cXr y (by omega)).1;rw[Lw _ _ _ hyN] at d1;obtain⟨xy,hxy⟩:∃xy,x y=xy:=⟨_,rfl⟩
  rw[hxy] at d1 Xv;have Dj:Hid (chain t N s=(dn++[y])++rest/\(P0++(dn++[y])).length=p2+1):=by
   have h1:=HK.out.1;have h2:=HK.out.2.2.1;refine⟨by rw[h1];simp,?_⟩;simp at h2⊢;omega
  clear ah ag bJ XE cXr hxy hO HK HoX;go_wp2;go_roundw
  ·exact⟨xy,dn++[y],rest,p2+1,a5,c5,rfl,ic,rfl,Dj.out.1,Xv.out,Dj.out.2,LK.out.1,LK.out.2⟩
  simp[DS];omega
 obtain rfl:k=m:=by omega
 have HF:Hid (Qi B ls (jM t N T) w (.returned (.slice a p c)) wr):=by
  have h1:=HL.out;rw[take_of_length_le (by rw[HX.out.2.2.1];exact le_refl _)] at h1;refine⟨a,c,by rw[h1.1],?_⟩;rw[h1.1];exact h1.2.1
 clear HL;go_wp2;go_ret;exact HF.out
theorem bI.tL{b:Nat}{w':World}(h:bI V B bs b v vS P w)(k:Kept [] ls w w')(hB:Below B w w')(h1:∀x∈ls,x∉bF b v vS)(h2:∀x∈ls,V.heap.size<=x\/x∈bs):bI V B bs b v vS P w':=by
 refine⟨fun g o hg ho hn=>?_,h.below.trans hB,h.st.kept k (by simp) (fun hm=>h1 _ hm (uA.2 (inl rfl))),fun i hi=>fI (h.row i hi) k (by simp) (fun g e hm=>h1 _ hm (uA.2 (inr (inr ⟨i,hi,e⟩)))),h.sep,fI h.oa k (by simp) (fun g e hm=>h1 _ hm (uA.2 (inr (inl e)))),h.loc,h.mF,h.kd,h.lo⟩;refine k g o (h.kept g o hg ho hn) ho (fun hm=>?_);rcases h2 g hm with h3|h3
 ·have:=(Array.getElem?_eq_some_iff.1 hg).1;omega
 exact hn h3
theorem bI.blt{b:Nat}(h:bI V B bs b v vS P w):∀x∈bF b v vS,x<w.heap.size:=fun x hx=>by
 rcases uA.1 hx with rfl|e|⟨i,hi,e⟩
 ·exact h.st.lt
 ·exact lZ h.oa x e
 ·exact lZ (h.row i hi) x e
def mD(D:Dd)(i:Nat):Int:=if i<D.n then D.q i else -1
def rj(D:Dd)(μ:Int):List Nat:=(range D.n).filter fun i=>D.q i == μ
theorem Mh(D:Dd)(μ:Int)(i:Nat):i∈rj D μ↔i<D.n/\D.q i=μ:=by simp[rj]
theorem LG(D:Dd)(μ:Int):(rj D μ).Nodup:=List.Nodup.sublist List.filter_sublist List.nodup_range
theorem zpM(D:Dd)(μ:Int):(rj D μ).length<=D.n:=qw (LG D μ) (fun i hi=>((Mh D μ i).1 hi).1)
theorem MV(D:Dd)(μ:Int)(h:0<=μ)(i:Nat):i∈rj D μ↔mD D i=μ:=by
 rw[Mh];unfold mD;split
 ·rename_i h1;exact⟨fun h=>h.2,fun h=>⟨h1,h⟩⟩
 rename_i h1;exact⟨fun h=>absurd h.1 h1,fun h=>by omega⟩
structure xC (D:Dd)(C:Nat)(P:Pt)(ms:List Int):Prop where
 h:je (D.n+1) C (tD D) (mD D) P C (fun _=>False)
 m:∀μ∈ms,∀x y,x<D.n+1->y<D.n+1->P.b x=P.b y->(mD D x=μ↔mD D y=μ)
 mu:P.mu (D.n+1)=D.n
theorem xC.start(D:Dd)(C:Nat):xC D C (fT (D.n+1)) []:=⟨je.start (by omega),fun μ h=>by simp at h,by rw[zm2 _ (by omega)];omega⟩
theorem xC.step{D:Dd}{C:Nat}{P:Pt}{ms:List Int}(hR:DR D C)(h:xC D C P ms)(μ:Int)(hμ:0<=μ):xC D C (mA P (rj D μ)) (ms++[μ]):=by
 have hl:∀x∈rj D μ,x<D.n+1:=fun x hx=>by have:=((Mh D μ x).1 hx).1;omega
 have hd:=GY h.h.pz (rj D μ) (LG D μ) hl;refine⟨h.h.yw (fun x c _ hc=>C3 hR x c hc) _ (LG D μ) hl (fun x y hx hy he=>by rw[MV D μ hμ,MV D μ hμ,he.mark]),fun ν hν x y hx hy hb=>?_,by rw[hd.mu];exact h.mu⟩;have h2:=(hd.b x y hx hy).1 hb;rcases List.mem_append.1 hν with h3|h3
 ·exact h.m ν h3 x y hx hy h2.1
 rw[List.mem_singleton.1 h3,<-MV D μ hμ,<-MV D μ hμ];exact h2.2
theorem xC.done{ms:List Int}(hR:DR D C)(h:xC D C P ms)(lW:∀μ∈ms,0<=μ)(eo:∀i,i<D.n->0<=D.q i->D.q i∈ms):∀x y,x<D.n+1->y<D.n+1->P.b x=P.b y->mD D x=mD D y:=by
 have one:∀x y,x<D.n+1->y<D.n+1->P.b x=P.b y->mD D x≠-1->mD D x=mD D y:=fun x y hx hy hb hne=>by
  have ix:x<D.n:=by
   refine(Classical.byContradiction fun h0=>hne ?_);unfold mD;rw[if_neg h0]
  have hq:mD D x=D.q x:=by unfold mD;rw[if_pos ix]
  have:=hR.q x ix;have hm:=eo x ix (by omega);rw[<-hq] at hm;exact ((h.m _ hm x y hx hy hb).1 rfl).symm
 intro x y hx hy hb;by_cases h1:mD D x=-1
 ·by_cases h2:mD D y=-1
  ·rw[h1,h2]
  exact (one y x hy hx hb.symm h2).symm
 exact one x y hx hy hb h1
def OV(D:Dd)(w:World)(e:Ending)(w':World):Prop:=
 ∃(ms:List Int) (aM:Option Addr) (cM:Nat) (A:Nat->Option Addr) (Cp:Nat->Nat),e=.returned (.slice aM ms.length cM)/\(∀μ∈ms,0<=μ)/\(∀i,i<D.n->0<=D.q i->D.q i∈ms)/\ms.length<=D.n/\Below w.heap.size w w'/\
  w'.ownsRow w.heap.size 27 1 (.slice aM ms.length cM) ms.length ((range ms.length).map fun j=>.slice (A j) (rj D (ms.getD j 0)).length (Cp j))/\
  ∀j,j<ms.length->w'.ownsRow w.heap.size 3 1 (.slice (A j) (rj D (ms.getD j 0)).length (Cp j)) (rj D (ms.getD j 0)).length (cY (rj D (ms.getD j 0)))
def Ti(D:Dd)(C:Nat)(w:World)(e:Ending)(w':World):Prop:=
 ∃(bl:List Nat) (a:Option Addr) (c:Nat),e=.returned (.slice a (D.n+1) c)/\bl.length=D.n+1/\(∀x∈bl,x<=D.n+1)/\D.n+1<=c/\w'.ownsRow w.heap.size 3 1 (.slice a (D.n+1) c) (D.n+1) (cY bl)/\
  (∀x y,x<D.n+1->y<D.n+1->(bl.getD x 0=bl.getD y 0↔jH C (tD D) (mD D) x y))/\Below w.heap.size w w'
theorem vy:(prog.info? 168).map (fun i=>(i.zero,i.size,i.bytes))=some (some (.agg #[.slice none 0 0,.slice none 0 0]),2,48):=by kernel_rfl
def tS(N:Nat)(gF gX:Nat->Nat):Nat->List Value
 | 0=>[]
 | c+1=>tS N gF gX c++[.slice (some ⟨gF c,0,none⟩) N N,.slice (some ⟨gX c,0,none⟩) N N]
theorem zpN(N:Nat)(gF gX:Nat->Nat)(c:Nat):(tS N gF gX c).length=c*2:=by
 induction c with
 | zero=>rfl
 | succ c ih=>simp[tS,ih];omega
theorem WN(N:Nat){gF gX gF' gX':Nat->Nat}:∀(c:Nat),(∀i,i<c->gF i=gF' i/\gX i=gX' i)->tS N gF gX c=tS N gF' gX' c
 | 0,_=>rfl
 | c+1,h=>by
   unfold tS
   rw[WN N c (fun i hi=>h i (by omega)),(h c (by omega)).1,(h c (by omega)).2]
theorem Xo(N:Nat)(gF gX:Nat->Nat)(c i:Nat)(h:i<c):(tS N gF gX c)[i*2]?=some (.slice (some ⟨gF i,0,none⟩) N N)/\(tS N gF gX c)[i*2+1]?=some (.slice (some ⟨gX i,0,none⟩) N N):=by
 induction c with
 | zero=>omega
 | succ c ih=>
  have hl:=zpN N gF gX c;unfold tS;by_cases e:i=c
  ·subst e;rw[List.getElem?_append_right (by omega),List.getElem?_append_right (by omega),hl];simp
  rw[List.getElem?_append_left (by omega),List.getElem?_append_left (by omega)];exact ih (by omega)
structure yW (D:Dd)(N:Nat)(W3:World)(c:Nat)(vB:Value)(gF gX:Nat->Nat)(f x:Nat->Nat->Int)(w:World):Prop where
 below:Below W3.heap.size W3 w
 own:w.ownsRow W3.heap.size 168 2 vB c (tS N gF gX c)
 F:∀i,i<c->w.ownsRow W3.heap.size 3 1 (.slice (some ⟨gF i,0,none⟩) N N) N (py (f i) N)
 X:∀i,i<c->w.ownsRow W3.heap.size 3 1 (.slice (some ⟨gX i,0,none⟩) N N) N (py (x i) N)
 L:∀i,i<c->∀s,s<N->LL (x i) (f i s) (chain (fun k=>tD D k i) N s)
theorem yW.ab{W3:World}{vB:Value}{gF gX:Nat->Nat}{f x:Nat->Nat->Int}(h:yW D N W3 c vB gF gX f x w)(k:Below w.heap.size w w1):yW D N W3 c vB gF gX f x w1:=
 ⟨h.below.trans (k.mono h.below.size),db h.own k,fun i hi=>db (h.F i hi) k,fun i hi=>db (h.X i hi) k,h.L⟩
theorem yW.app{D:Dd}{N c:Nat}{W3 w w':World}{vB Vw:Value}{gF gX:Nat->Nat}{f x:Nat->Nat->Int}{pF pX:Nat}{fc xc:Nat->Int}(h:yW D N W3 c vB gF gX f x w)(oF:w.ownsRow W3.heap.size 3 1 (.slice (some ⟨pF,0,none⟩) N N) N (py fc N))(oX:w.ownsRow W3.heap.size 3 1 (.slice (some ⟨pX,0,none⟩) N N) N (py xc N))(hL:∀s,s<N->LL xc (fc s) (chain (fun k=>tD D k c) N s))
  (ho:w'.ownsRow W3.heap.size 168 2 Vw (c+1) (tS N gF gX c++[.slice (some ⟨pF,0,none⟩) N N,.slice (some ⟨pX,0,none⟩) N N])) (hg:w.grownBy w' vB.ownBlock):
  yW D N W3 (c+1) Vw (fun i=>if i=c then pF else gF i) (fun i=>if i=c then pX else gX i) (fun i=>if i=c then fc else f i) (fun i=>if i=c then xc else x i) w':=by
 have kp:∀{v:Value}{xs:List Value},w.ownsRow W3.heap.size 3 1 v N xs->w'.ownsRow W3.heap.size 3 1 v N xs:=fun o=>sO o h.own (by decide) hg
 refine⟨fL h.below h.own h.below.size hg,?_,fun i hi=>?_,fun i hi=>?_,fun i hi=>?_⟩
 ·have e:tS N (fun i=>if i=c then pF else gF i) (fun i=>if i=c then pX else gX i) (c+1)=tS N gF gX c++[.slice (some ⟨pF,0,none⟩) N N,.slice (some ⟨pX,0,none⟩) N N]:=by
   show tS N _ _ c++_=_;rw[WN N (gF':=gF) (gX':=gX) c (fun i hi=>⟨if_neg (by omega),if_neg (by omega)⟩)];simp
  rw[e];exact ho
 ·by_cases e:i=c
  ·simp only[if_pos e];exact kp oF
  simp only[if_neg e];exact kp (h.F i (by omega))
 ·by_cases e:i=c
  ·simp only[if_pos e];exact kp oX
  simp only[if_neg e];exact kp (h.X i (by omega))
 by_cases e:i=c
 ·simp only[if_pos e];rw[e];exact hL
 simp only[if_neg e];exact h.L i (by omega)
def FX(b i:Nat)(w:World):Nat:=match w.cell? ⟨b,i,none⟩ with
 | some v=>DS v
 | none=>0
def Ca(b N:Nat)(v9:Value)(w:World):Nat:=(N-FX b 3 w)+FX b 5 w+(if DS v9=0 then 0 else 1)
theorem SK{b:Nat}(h:bI V B bs b v vS P w)(N:Nat)(v9:Value):Ca b N v9 w=P.mu N+(if DS v9=0 then 0 else 1):=by
 have h1:FX b 3 w=P.sp.length:=by
  unfold FX;rw[h.nD.1];obtain⟨a,c,e⟩:=bP h.oa;show DS vS=_;rw[e];rfl
 have h2:FX b 5 w=(P.L 4).length:=by
  unfold FX;rw[h.c4.1];obtain⟨a,c,e⟩:=h.EB 4 (by omega) rfl;show DS (v 4)=_;rw[e];rfl
 unfold Ca Pt.mu;rw[h1,h2]
structure oz (D:Dd)(C N:Nat)(Wb:World)(B0:Nat)(pb:List Nat)(b:Nat)(T:List Nat)(gT cT:Nat)(P:Pt)(v:Nat->Value)(vS:Value)(aS:Option Addr)(q cS:Nat)(L8:List Nat)(cd:Nat)(wr:World):Prop where
 pm:bI Wb B0 pb b v vS P wr
 ql:L8.length=q
 oS:wr.ownsRow Wb.heap.size 3 1 (.slice aS q cS) q (cY L8)
 sS:∀g,(Value.slice aS q cS).ownBlock=some g->g∉bF b v vS
 oT:wr.ownsRow Wb.heap.size 3 1 (.slice (some ⟨gT,0,none⟩) T.length cT) T.length (cY T)
 sT:gT∉bF b v vS
 Jq:(Value.slice aS q cS).ownBlock≠some gT
 tn:T.Nodup
 tl:∀x∈T,x<N
 ko:je N C (tD D) (mD D) P cd (fun z=>z∈T)
 dt:∀x y,x<N->y<N->P.b x=P.b y->mD D x=mD D y
section
variable {D : Dd}{C N B0 b gT cT q cS cd : Nat}{Wb wr : World}{pb T L8 : List Nat}{P : Pt}{v : Nat → Value}{vS : Value}{aS : Option Addr}
theorem oz.sz(h:oz D C N Wb B0 pb b T gT cT P v vS aS q cS L8 cd wr):Wb.heap.size<=wr.heap.size:=h.pm.below.size
theorem oz.ab(h:oz D C N Wb B0 pb b T gT cT P v vS aS q cS L8 cd wr)(k:Below wr.heap.size wr w1):oz D C N Wb B0 pb b T gT cT P v vS aS q cS L8 cd w1:=
 ⟨h.pm.ab k,h.ql,db h.oS k,h.sS,db h.oT k,h.sT,h.Jq,h.tn,h.tl,h.ko,h.dt⟩
theorem Z7(a:Option Addr)(n c n':Nat):(Value.slice a n c).ownBlock=(Value.slice a n' c).ownBlock:=by cases a <;> rfl
theorem oz.add{w5:World}{a:Option Addr}(h:oz D C N Wb B0 pb b T gT cT P v vS aS q cS L8 cd wr)(hc:lY wr Wb.heap.size (Value.slice aS 0 cS).ownBlock.toList l (.slice a l.length c) w5):
  oz D C N Wb B0 pb b T gT cT P v vS a l.length c l cd w5:=by
 have vY:∀x∈(Value.slice aS 0 cS).ownBlock.toList,(Value.slice aS q cS).ownBlock=some x:=fun x hx=>by
  rw[Z7 aS q cS 0];simpa using hx
 have JH:∀g,(Value.slice a l.length c).ownBlock=some g->(Value.slice aS q cS).ownBlock=some g\/wr.heap.size<=g:=fun g e=>by
  rcases hc.loc g e with h1|h1
  ·exact inl (vY g h1)
  exact inr h1
 have hB:Below B0 wr w5:=hc.below.mono h.pm.lo.2;refine⟨h.pm.tL hc.kept hB (fun x hx=>h.sS x (vY x hx)) (fun x hx=>inl (kL h.oS x (vY x hx))),rfl,hc.own,fun g e=>?_,fI h.oT hc.kept (by simp) (fun g e hm=>?_),h.sT,fun e=>?_,h.tn,h.tl,h.ko,h.dt⟩
 ·rcases JH g e with h1|h1
  ·exact h.sS g h1
  exact fun hm=>by have:=h.pm.blt g hm;omega
 ·have:=vY g hm;simp[ownBlock] at e;rw[<-e] at this;exact h.Jq this
 rcases JH gT e with h1|h1
 ·exact h.Jq h1
 have:=lZ h.oT gT rfl;omega
theorem oz.call(h:oz D C N Wb B0 pb b T gT cT P v vS aS q cS L8 cd wr)(hN:N<=100000)(hn:L8.Nodup)(hl:∀x∈L8,x<N):
  Calls prog 114 #[.pointer (some ⟨b,0,none⟩),.slice aS q cS] wr (SM wr B0 (bF b v vS) b (mA P L8)):=
 YH N hN wr B0 b (bF b v vS) v vS P wr h.pm.start h.ko.pz L8 q h.ql hn hl aS cS (sZ h.oS h.ql) (fun ad e=>h.sS ad.block (by rw[e];rfl))
theorem oz.div(h:oz D C N Wb B0 pb b T gT cT P v vS aS q cS L8 cd wr)(hN:D.n+1=N)(hR:DR D C)(zL:cd<C)(hn:L8.Nodup)(hl:∀x,x∈L8↔x<N/\tD D x cd∈T)(h6:bI wr B0 (bF b v vS) b v' vS' (mA P L8) w6):
  oz D C N Wb B0 pb b T gT cT (mA P L8) v' vS' aS q cS L8 (cd+1) w6:=by
 have hlN:∀x∈L8,x<N:=fun x hx=>((hl x).1 hx).1
 have ht:∀x c,x<N->c<C->tD D x c<N:=fun x c _ hc=>by rw[<-hN];exact C3 hR x c hc
 have fK:∀g,g<wr.heap.size->g∉bF b v vS->g∉bF b v' vS':=fun g h1 h2 hm=>by
  rcases h6.tb g hm with h3|h3
  ·exact h2 h3
  omega
 have hd:=GY h.ko.pz L8 hn hlN;refine⟨h.pm.back h6,h.ql,fI h.oS h6.kept (by simp) h.sS,fun g e=>fK g (lZ h.oS g e) (h.sS g e),fI h.oT h6.kept (by simp) (fun g e=>?_),fK gT (lZ h.oT gT rfl) h.sT,h.Jq,h.tn,h.tl,h.ko.class zL ht L8 hn hl,fun x y hx hy hb=>h.dt x y hx hy ((hd.b x y hx hy).1 hb).1⟩;simp[ownBlock] at e;rw[<-e];exact h.sT
structure wH (D:Dd)(C N:Nat)(Wb:World)(B0:Nat)(pb:List Nat)(b:Nat)(P:Pt)(v:Nat->Value)(vS:Value)(aS:Option Addr)(q cS:Nat)(L8:List Nat)(wr:World):Prop where
 pm:bI Wb B0 pb b v vS P wr
 ql:L8.length=q
 oS:wr.ownsRow Wb.heap.size 3 1 (.slice aS q cS) q (cY L8)
 sS:∀g,(Value.slice aS q cS).ownBlock=some g->g∉bF b v vS
 ko:je N C (tD D) (mD D) P C (fun _=>False)
 dt:∀x y,x<N->y<N->P.b x=P.b y->mD D x=mD D y
theorem oz.all(h:oz D C N Wb B0 pb b T gT cT P v vS aS q cS L8 C wr):wH D C N Wb B0 pb b P v vS aS q cS L8 wr:=
 ⟨h.pm,h.ql,h.oS,h.sS,⟨h.ko.pz,h.ko.sat,fun _ _ _ _ _=>Iff.rfl,fun x y hx hy hb c hc=>by
  rcases h.ko.ko x y hx hy hb c hc with h1|h1
  ·exact inl h1
  ·omega⟩,h.dt⟩
theorem wH.call(h:wH D C N Wb B0 pb b P v vS aS q cS L8 wr)(hN:N<=100000):Calls prog 116 #[.pointer (some ⟨b,0,none⟩)] wr (JE wr B0 (bF b v vS) b P wr):=
 znA N hN wr B0 b (bF b v vS) v vS P wr h.pm.start h.ko.pz
theorem wH.take{g:Nat}(h:wH D C N Wb B0 pb b P v vS aS q cS L8 wr)(hN:D.n+1=N)(hR:DR D C)(hne:P.L 4≠[])(hB:Below B0 wr w6)(ho:w6.ownsRow wr.heap.size 3 1 (.slice (some ⟨g,0,none⟩) (fe P).length c) (fe P).length (cY (fe P)))(h6:bI wr B0 (bF b v vS) b v' vS' (ig P) w6)(hg:g∉bF b v' vS'):
  oz D C N Wb B0 pb b (fe P) g c (ig P) v' vS' aS q cS L8 0 w6/\0<(fe P).length/\(ig P).mu N+1=P.mu N:=by
 have ht:∀x c,x<N->c<C->tD D x c<N:=fun x c _ hc=>by rw[<-hN];exact C3 hR x c hc
 obtain⟨t1,t2,t3,t4,t5,t6,t7,t8⟩:=h.ko.take hne ht;have fK:∀g,g<wr.heap.size->g∉bF b v vS->g∉bF b v' vS':=fun g h1 h2 hm=>by
  rcases h6.tb g hm with h3|h3
  ·exact h2 h3
  omega
 refine⟨⟨h.pm.back h6,h.ql,fI h.oS h6.kept (by simp) h.sS,fun g e=>fK g (lZ h.oS g e) (h.sS g e),gn ho h.pm.below.size,hg,fun e=>?_,t4,fun x hx=>((t5 x).1 hx).1,t6,fun x y hx hy hb=>h.dt x y hx hy (by rw[<-t8,<-t8];exact hb)⟩,?_,t7⟩
 ·have h1:=lZ h.oS g e;have h2:=kL ho g rfl;omega
 unfold fe;have hl:=h.ko.pz.1.l0;simp;omega
theorem wH.none(h:wH D C N Wb B0 pb b P v vS aS q cS L8 wr)(h6:bI wr B0 (bF b v vS) b v' vS' P w6):wH D C N Wb B0 pb b P v' vS' aS q cS L8 w6:=by
 refine⟨h.pm.back h6,h.ql,fI h.oS h6.kept (by simp) h.sS,fun g e hm=>?_,h.ko,h.dt⟩;rcases h6.tb g hm with h3|h3
 ·exact h.sS g e h3
 have:=lZ h.oS g e;omega
end
def ZK(D:Dd)(C N:Nat)(Wb:World)(B0:Nat)(pb:List Nat)(b:Nat)(v8 v9:Value)(wq:World):Prop:=
 ∃(aS:Option Addr) (q cS:Nat),v8=.slice aS q cS/\q<=N/\((v9=.slice none 0 0/\∃P v vS L8,wH D C N Wb B0 pb b P v vS aS q cS L8 wq/\P.L 4=[])\/
  ∃gT m cT,v9=.slice (some ⟨gT,0,none⟩) m cT/\0<m/\m<=N/\∃T P v vS L8,T.length=m/\oz D C N Wb B0 pb b T gT cT P v vS aS q cS L8 0 wq)
theorem wH.tak{B0 b q cS:Nat}{Wb wr:World}{pb L8:List Nat}{aS:Option Addr}{e:Ending}(h:wH D C N Wb B0 pb b P v vS aS q cS L8 wr)(hN:D.n+1=N)(hR:DR D C)(hq:q<=N)(ht:JE wr B0 (bF b v vS) b P wr e w6):
  ∃v9,e=.returned v9/\ZK D C N Wb B0 pb b (.slice aS q cS) v9 w6/\Ca b N v9 w6=P.mu N:=by
 rcases ht with ⟨h1,rfl,v',vS',h2⟩|⟨h1,g,c,v',vS',rfl,ho,h2,hg⟩
 ·have hz:=h.none h2;exact⟨_,rfl,⟨aS,q,cS,rfl,hq,inl ⟨rfl,P,v',vS',L8,hz,h1⟩⟩,by rw[SK hz.pm];rfl⟩
 obtain⟨hi,hl,hm⟩:=h.take hN hR h1 h2.below ho h2 hg;refine⟨_,rfl,⟨aS,q,cS,rfl,hq,inr ⟨g,_,c,rfl,hl,qw hi.tn hi.tl,fe P,ig P,v',vS',L8,rfl,hi⟩⟩,?_⟩;rw[SK hi.pm,<-hm];show _+(if (fe P).length=0 then 0 else 1)=_;rw[if_neg (by omega)]
theorem zlz(a:Option Addr)(n c:Nat)(W:World):(binOp .neq 27 (.slice a n c) (.slice none 0 0)).run prog W=.ok (.bool a.isSome) W:=by
 have h:=run_equal_slice_nil W 27 3 a n c underlying27;unfold binOp;simp only[Sem.run_bind,h,Result.andThen_ok,Sem.run_pure];cases a <;> rfl
theorem zjX(D:Dd)(C:Nat)(hR:DR D C)(w:World)(hD:DM w D)(hBy:∀W,DM W D->Calls prog 113 #[.agg D.cD] W (OV D W)):
  Calls prog 80 #[.agg D.cD] w (Ti D C w):=by
 have cU:=hR.n2;have tq:=(hR.il hD.kl).2;obtain⟨N,hN⟩:∃N,D.n+1=N:=⟨_,rfl⟩
 have FN:N<=100000:=by omega
 have HBy:=hid hBy;have HB:=ψ (bg.new hD) (al w (.cells D.cD 29)) hR hN;have HWh:Hid (∀W,Calls prog 112 #[.int .i64 ((D.n:Int)+1)] W (PR N W)):=fun W=>by
  have:=zlO N FN W;rw[<-hN] at this⊢;exact this
 clear hD hR hN hBy;go_in;go_upto_region 1 with fail;generalize w.alloc (.cells D.cD 29)=W0 at HB⊢;generalize ay:w.heap.size=b0 at HB⊢;have bW:=hid ay;clear ay;have f1:=HB.out.1.f1;go_wp2_with fail;refine (HWh.out _).mono ?_;rintro e w1 ⟨b,v,vS,rfl,BV,MM,GB⟩;have uB:=ζ (HB.out.1.ab MM) (HB.out.2.1.trans (MM.mono (by have:=HB.out.2.1.size;have:=bW.out;omega)));have fj:=ζ BV GB;have BD:Hid (w.heap.size<=w1.heap.size/\w.heap.size<=W0.heap.size/\Below W0.heap.size W0 w1):=⟨by have:=uB.out.2.size;have:=bW.out;omega,by have:=HB.out.2.1.size;have:=bW.out;omega,MM⟩
 clear BV MM GB f1;go_wp2_with (refine js (by rfl) 29 _ rfl ⟨b0,0,none⟩ rfl D.cD _ uB.out.1.st.part underlying29 rfl uB.out.1.dm.info ?_);refine (HBy.out _ uB.out.1.dm).mono ?_;rintro e w2 ⟨ms,aM,cM,A,Cp,rfl,Gy,eo,jl,b2,oM,oR⟩;obtain⟨nm,kh⟩:∃nm,ms.length=nm:=⟨_,rfl⟩
 rw[kh] at jl oM;have HM:=φ Gy eo kh oM oR;have HD2:=ζ (uB.out.1.ab b2) (uB.out.2.trans (b2.mono (by have:=BD.out.1;have:=bW.out;omega)));have lb:Hid (bI w2 W0.heap.size (bF b v vS) b v vS (fT N) w2/\∀x∈bF b v vS,W0.heap.size<=x/\x<w1.heap.size):=⟨(fj.out.1.ab b2).start.congr (fun i hi=>rfl) rfl,fun x hx=>⟨fj.out.2 x hx,fj.out.1.blt x hx⟩⟩
 have Hsz:Hid (w1.heap.size<=w2.heap.size/\Below W0.heap.size W0 w2):=⟨b2.size,BD.out.2.2.trans (b2.mono BD.out.2.2.size)⟩
 rw[kh];clear Gy eo kh b2 oM oR fj;go_wp2;go_loopw [5,20] (fun _ vj wr=>∃j:Nat,vj=.int .i64 j/\j<=nm/\Hid (∃v' vS' P,bI w2 W0.heap.size (bF b v vS) b v' vS' P wr/\xC D C P (ms.take j))) (fun _ v _=>nm-(intOf v).toNat)
 ·exact⟨0,rfl,zero_le _,v,vS,fT N,lb.out.1,by rw[<-HB.out.2.2.2];exact xC.start D C⟩
 obtain⟨j,rfl,hj,HL⟩:=hrel;by_cases aq:j<nm
 ·obtain⟨v',vS',P,hP,hI⟩:=HL.out;have Im:j<ms.length:=by rw[HM.out.2.2.1];exact aq
  obtain⟨μ,hμ⟩:∃μ,ms.getD j 0=μ:=⟨_,rfl⟩
  have hμ0:0<=μ:=by
   rw[<-hμ,pH _ _ _ Im];exact HM.out.1 _ (List.getElem_mem Im)
  have EL:=HM.out.2.2.2.2 j Im;rw[hμ] at EL;have TO:=HM.out.2.2.2.1;have Yl:=fI TO hP.kept (by simp) (fun g e hm=>by have h1:=kL TO g e;have h2:=(lb.out.2 g hm).2;omega);obtain⟨gM,rfl,_,_,Zc⟩:=eC Yl (by omega);have d0:=(Zc j (by omega)).1;rw[List.getElem?_map,List.getElem?_range (by omega)] at d0;replace d0:wr.cell? ⟨gM,j,none⟩=some (.slice (A j) (rj D (ms.getD j 0)).length (Cp j)):=d0;rw[hμ] at d0;obtain⟨q,hq⟩:∃q,(rj D μ).length=q:=⟨_,rfl⟩
  rw[hq] at d0 EL;have FJ:q<=D.n:=by rw[<-hq];exact zpM D μ
  have VL:=fI EL hP.kept (by simp) (fun g e hm=>by have h1:=kL EL g e;have h2:=(lb.out.2 g hm).2;omega);have UD:=hP.start;have GX:∀ad,A j=some ad->ad.block∉bF b v' vS':=fun ad e hm=>by
   have e1:(Value.slice (A j) q (Cp j)).ownBlock=some ad.block:=(by rw[e];rfl);have h1:=kL EL _ e1;have h3:=lZ EL _ e1;rcases hP.tb _ hm with h2|h2
   ·have:=(lb.out.2 _ h2).2;omega
   omega
  have HC:=hid (YH N FN wr W0.heap.size b (bF b v' vS') v' vS' P wr UD (by rw[<-HB.out.2.2.2];exact hI.h.pz) (rj D μ) q hq (LG D μ) (fun x hx=>by have:=((Mh D μ x).1 hx).1;have:=HB.out.2.2.2;omega) (A j) (Cp j) (sZ VL hq) GX);have HI:Hid (xC D C (mA P (rj D μ)) (ms.take (j+1))):=by
   have h:=hI.step HB.out.2.2.1 μ hμ0;have e:ms.take (j+1)=ms.take j++[μ]:=by
    rw[List.take_add_one,List.getElem?_eq_getElem Im,<-hμ,pH _ _ _ Im];rfl
   show xC D C _ (ms.take (j+1));rw[e];exact h
  have uU:=hid hP;have i1:(j:Int)<nm:=by omega
  clear hP hI EL TO Yl Zc hμ hq VL UD GX HL;go_wp2_with fail;refine HC.out.mono ?_;rintro e w5 ⟨v5,sf,rfl,pa⟩;have yT:=hid (uU.out.back pa);clear pa HC uU d0;go_wp2;go_roundw
  ·exact⟨j+1,by go_num,by omega,v5,sf,_,yT.out,HI.out⟩
  simp[intOf];omega
 obtain rfl:j=nm:=by omega
 obtain⟨v3,sE,P3,AD,Ia⟩:=HL.out;rw[take_of_length_le (by rw[HM.out.2.2.1];exact le_refl _)] at Ia;have CW:=lb.out.2;have ZB:Hid (je N C (tD D) (mD D) P3 C (fun _=>False)/\(∀x y,x<N->y<N->P3.b x=P3.b y->mD D x=mD D y)/\P3.mu N=D.n):=by
  refine⟨by rw[<-HB.out.2.2.2];exact Ia.h,?_,by rw[<-HB.out.2.2.2];exact Ia.mu⟩;rw[<-HB.out.2.2.2];exact Ia.done HB.out.2.2.1 HM.out.1 HM.out.2.1
 have Ch:Below W0.heap.size W0 wr:=Hsz.out.2.trans AD.below;obtain⟨W3,uL⟩:∃W3,W3=wr:=⟨wr,rfl⟩
 have AY:Hid (bI W3 W0.heap.size (bF b v3 sE) b v3 sE P3 W3):=by rw[uL];exact AD.start
 have CG:Hid (bg wr b0 D/\Below W0.heap.size W0 wr):=⟨HB.out.1.ab Ch,Ch⟩
 clear AD Ia CW Ch HL lb HM HD2 uB;go_wp2_with (refine js (by rfl) 25 _ rfl ⟨b0,0,none⟩ rfl (aU D.K) _ CG.out.1.dL underlying25 rfl (vX D.K) ?_);refine (Gd D.K C HB.out.2.2.1.c HB.out.1.dm.kl _).mono ?_;rintro e w4 ⟨rfl,b4⟩;have H4:Hid (yW D N W3 0 (.slice none 0 0) (fun _=>0) (fun _=>0) (fun _ _=>0) (fun _ _=>0) w4):=by
  rw[uL];exact⟨b4,ownsRow_nil _ _ _ _,fun i hi=>absurd hi (by omega),fun i hi=>absurd hi (by omega),fun i hi=>absurd hi (by omega)⟩
 rw[<-uL] at CG;clear uL b4;go_wp2;go_loopw [6,7,31] (fun v6 _ vc wq=>∃(c:Nat) (aB:Option Addr) (cB:Nat),vc=.int .i64 c/\c<=C/\v6=.slice aB c cB/\Hid (∃gF gX f x,yW D N W3 c (.slice aB c cB) gF gX f x wq)) (fun _ _ v _=>C-(intOf v).toNat)
 ·exact⟨0,none,0,rfl,zero_le _,rfl,_,_,_,_,H4.out⟩
 obtain⟨c,aB,cB,rfl,hc,rfl,HK⟩:=hrel;by_cases lT:c<C
 ·obtain⟨gF,gX,f,x,hK⟩:=HK.out;have Me:=hid (CG.out.1.ab hK.below);have HC:=hid (zfL D C HB.out.2.2.1 c lT wr Me.out.dm);have LV:=hid hK;have i1:(c:Int)<C:=by omega
  obtain⟨i0,hi,dv,cP,cG⟩:=info_parts vy;clear hK HK;go_wp2_with (refine js (by rfl) 29 _ rfl ⟨b0,0,none⟩ rfl D.cD _ Me.out.st.part underlying29 rfl Me.out.dm.info ?_);refine HC.out.mono ?_;rintro e w5 ⟨pF,pX,fc,xc,rfl,oF,oX,hL,b5⟩;rw[HB.out.2.2.2] at oF oX hL⊢;have LZ:=LV.out.ab b5;have hO:=LZ.own;have sX:=LZ.below.size;have H5:=ψ LZ (gn oF LV.out.below.size) (gn oX LV.out.below.size) hL;clear oF oX hL b5 LZ HC Me;go_wp2_with (at_builtin;refine wpList_append_own_at _ rfl _ _ 166 rfl W3.heap.size 168 i0 (.agg #[.slice none 0 0,.slice none 0 0]) 2 48 underlying166 hi dv cP cG rfl (by decide) _ _ _ rfl (hO.alloc _) ⟨w5.heap.size,0,none⟩ 1 1 [.slice (some ⟨pF,0,none⟩) N N,.slice (some ⟨pX,0,none⟩) N N] rfl rfl (cell_two_new _ _ _ _) ?d2 ?d3 ?d4 ?d5 ?_)
  case d2=>intro u hu;simp at hu;rcases hu with rfl|rfl <;> rfl
  case d3=>unfold maxLen;omega
  case d4=>omega
  case d5=>first|(simp;omega)|omega
  intro v6 w6 aj af _ dg;obtain⟨a6,c6,rfl⟩:=bP aj;have H6:Hid (∃gF gX f x,yW D N W3 (c+1) (.slice a6 (c+1) c6) gF gX f x w6):=by
   have k:=al w5 (.cells #[.slice (some ⟨pF,0,none⟩) N N,.slice (some ⟨pX,0,none⟩) N N] 168);exact⟨_,_,_,_,(H5.out.1.ab k).app (db H5.out.2.1 k) (db H5.out.2.2.1 k) H5.out.2.2.2 aj af⟩
  clear aj af dg hO H5 LV;go_wp2;go_roundw
  ·exact⟨c+1,a6,c6,by go_num,by omega,rfl,H6.out⟩
  simp[intOf];omega
 obtain rfl:c=C:=by omega
 obtain⟨gF,gX,f,x,hK⟩:=HK.out;obtain⟨Wb,KU⟩:∃Wb,Wb=wr:=⟨wr,rfl⟩
 have hY:Hid (yW D N W3 c (.slice aB c cB) gF gX f x Wb):=by rw[KU];exact hK
 have XO:bI Wb W0.heap.size (bF b v3 sE) b v3 sE P3 Wb:=by rw[KU];exact (AY.out.ab hK.below).start
 have UH:Hid (wH D c N Wb W0.heap.size (bF b v3 sE) b P3 v3 sE none 0 0 [] Wb):=⟨XO,rfl,ownsRow_nil _ _ _ _,fun g e=>by simp[ownBlock] at e,ZB.out.1,ZB.out.2.1⟩
 have Ng:Hid (bg Wb b0 D/\Below W0.heap.size W0 Wb/\(∀y∈bF b v3 sE,y<W3.heap.size)):=by rw[KU];exact⟨CG.out.1.ab hK.below,CG.out.2.trans (hK.below.mono CG.out.2.size),AY.out.blt⟩
 have HT:=hid (UH.out.call FN);rw[<-KU];clear XO hK KU HK CG;go_wp2_with fail;refine HT.out.mono ?_;rintro e w6 h6;obtain⟨v9,rfl,Kg,Lx⟩:=UH.out.tak HB.out.2.2.2 HB.out.2.2.1 (zero_le _) h6;have Iv:=hid Kg;have Cn:=zlz;clear Kg Lx h6 HT;go_wp2;go_loopw [8,9,11,49] (fun v8 v9 _ _ wq=>ZK D c N Wb W0.heap.size (bF b v3 sE) b v8 v9 wq) (fun _ v9 _ _ wq=>Ca b N v9 wq)
 ·exact Iv.out
 clear Iv;obtain⟨aS,q,cS,rfl,hq,hR⟩:=hrel;rcases hR with ⟨rfl,P,v5,sf,L8,hZ,By⟩|⟨gT,m,cT,rfl,pe,Vr,T,P,v5,sf,L8,hTm,hI⟩
 ·have b2:=hZ.pm.c2.1;have gy:=hZ.ko.pz.1.l2;obtain⟨a2,c2,e2⟩:=hZ.pm.EB 2 (by omega) gy;have HF:Hid (Ti D c w (.returned (.slice a2 N c2)) wr):=by
   have ho:=hZ.pm.row 2 (by omega);rw[gy,e2] at ho;have fB:N<=c2:=by
    rcases ho.2 with ⟨h1,h0⟩|⟨_,cap,_,h1,_,_,h2,_⟩
    ·have:=HB.out.2.2.2;omega
    injection h1 with _ e1 e3;omega
   have Rj:=BD.out.2.1;refine⟨P.L 2,a2,c2,?_,?_,?_,?_,?_,?_,?_⟩
   ·rw[HB.out.2.2.2]
   ·rw[HB.out.2.2.2];exact gy
   ·rw[HB.out.2.2.2];intro x hx;obtain⟨i,hi,e⟩:=List.getElem_of_mem hx;have h1:=(hZ.ko.pz.1.bk i (by omega)).1;have h2:=hZ.ko.pz.1.len;have h3:P.b i=x:=by
     show (P.L 2).getD i 0=x;rw[getD_eq_getElem?_getD,List.getElem?_eq_getElem hi];exact e
    omega
   ·rw[HB.out.2.2.2];exact fB
   ·rw[HB.out.2.2.2];exact gn ho Rj
   ·rw[HB.out.2.2.2];exact hZ.ko.done By (fun x d _ hd=>by rw[<-HB.out.2.2.2];exact C3 HB.out.2.2.1 x d hd) hZ.dt
   have ay:=bW.out;have h1:Below w.heap.size w Wb:=(by rw[ay];exact HB.out.2.1.trans (Ng.out.2.1.mono (by omega)));exact h1.trans (hZ.pm.below.mono Rj)
  rw[e2] at b2;clear hZ gy e2;go_wp2;go_ret;exact HF.out
 obtain⟨Fm,qm⟩:∃Fm,P.mu N=Fm:=⟨_,rfl⟩
 have Hmu:Hid (Ca b N (.slice (some ⟨gT,0,none⟩) m cT) wr=Fm+1):=by
  show _=_;rw[SK hI.pm,qm];show _+(if m=0 then 0 else 1)=_;rw[if_neg (by omega)]
 have FY:Hid (∃P v vS L8,P.mu N=Fm/\oz D c N Wb W0.heap.size (bF b v3 sE) b T gT cT P v vS aS q cS L8 0 wr):=⟨P,v5,sf,L8,qm,hI⟩
 have HTm:=hid hTm;clear hI qm hTm;go_wp2_with fail;obtain⟨W8,hW8⟩:∃W8,W8=wr:=⟨wr,rfl⟩
 clear hW8 W8;go_loopw [8,11,49] (fun v8 _ vi wq=>∃(i:Nat) (aS:Option Addr) (q cS:Nat),vi=.int .i64 i/\i<=c/\v8=.slice aS q cS/\q<=N/\Hid (∃P v vS L8,P.mu N=Fm/\oz D c N Wb W0.heap.size (bF b v3 sE) b T gT cT P v vS aS q cS L8 i wq)) (fun _ _ v _=>c-(intOf v).toNat)
 ·exact⟨0,aS,q,cS,rfl,zero_le _,rfl,hq,FY.out⟩
 obtain⟨i,aS,q,cS,rfl,hi,rfl,hq,pL⟩:=hrel;by_cases pV:i<c
 ·obtain⟨P,v5,sf,L8,qm,hI⟩:=pL.out;have ZL:=fI hY.out.own hI.pm.kept (by simp) (fun g e hm=>by have h1:=kL hY.out.own g e;have:=Ng.out.2.2 g hm;omega);obtain⟨gB,rfl,_,_,P5⟩:=eC ZL (by omega);have d0:=(P5 (i*2) (by omega)).1;have d1:=(P5 (i*2+1) (by omega)).1;rw[(Xo N gF gX c i pV).1] at d0;rw[(Xo N gF gX c i pV).2] at d1;have HIw:=ζ qm hI;have i1:(i:Int)<c:=by omega
  obtain⟨pF,SV⟩:∃pF,gF i=pF:=⟨_,rfl⟩
  obtain⟨pX,Ry⟩:∃pX,gX i=pX:=⟨_,rfl⟩
  rw[SV] at d0;rw[Ry] at d1;have Hp:=ζ SV Ry;clear ZL P5 qm hI SV Ry pL;go_upto_region 20 with fail;obtain⟨W5,Fj⟩:∃W5,wr.alloc (.cells #[.slice (some ⟨pF,0,none⟩) N N,.slice (some ⟨pX,0,none⟩) N N] 168)=W5:=⟨_,rfl⟩
  obtain⟨bR,EP⟩:∃bR,wr.heap.size=bR:=⟨_,rfl⟩
  have sH:St W5 168 bR #[.slice (some ⟨pF,0,none⟩) N N,.slice (some ⟨pX,0,none⟩) N N]:=by rw[<-Fj,<-EP];exact St.new _ _ _
  have xm:oz D c N Wb W0.heap.size (bF b v3 sE) b T gT cT P v5 sf aS q cS L8 i W5:=by rw[<-Fj];exact HIw.out.2.ab (al wr _)
  rw[Fj,EP];clear Fj EP;have r0:W5.cell? ⟨bR,0,none⟩=some (.slice (some ⟨pF,0,none⟩) N N):=sH.at_ 0;have r1:W5.cell? ⟨bR,1,none⟩=some (.slice (some ⟨pX,0,none⟩) N N):=sH.at_ 1;have Gh:=hid xm;have hq0:(0:Int)<=cS:=by omega
  clear xm sH d0 d1
  go_still_tail 4,(by kernel_rfl)
  change wpList _ _ _ _ _ W5.drew;have HC:Hid (Calls prog 117 #[.agg #[.slice (some ⟨pF,0,none⟩) N N,.slice (some ⟨pX,0,none⟩) N N],.slice aS 0 cS,.slice (some ⟨gT,0,none⟩) m cT] W5.drew (Qi Wb.heap.size (Value.slice aS 0 cS).ownBlock.toList (jM (fun k=>tD D k i) N T) W5.drew)):=by
   have ze:=Gh.out.ab (Below.refl W5.heap.size W5).drew;have oF:=fI (hY.out.F i pV) ze.pm.kept (by simp) (fun g e hm=>by have h1:=kL (hY.out.F i pV) g e;have:=Ng.out.2.2 g hm;omega);have oX:=fI (hY.out.X i pV) ze.pm.kept (by simp) (fun g e hm=>by have h1:=kL (hY.out.X i pV) g e;have:=Ng.out.2.2 g hm;omega);have hF:=lZ (hY.out.F i pV) (gF i) rfl;have hX:=lZ (hY.out.X i pV) (gX i) rfl;rw[Hp.out.1] at oF hF;rw[Hp.out.2] at oX hX;have vY:∀g∈(Value.slice aS 0 cS).ownBlock.toList,(Value.slice aS q cS).ownBlock=some g:=(fun g hg=>by rw[Z7 aS q cS 0];simpa using hg);have hoT:=ze.oT;have e9:=HTm.out;refine zni N FN (fun k=>tD D k i) (fun k hk=>by rw[<-HB.out.2.2.2];exact C3 HB.out.2.2.1 k i pV) (f i) (x i) (hY.out.L i pV) pF pX Wb.heap.size W3.heap.size aS cS T m e9 ze.tn ze.tl (some ⟨gT,0,none⟩) cT W5.drew oF oX (Y1 ze.oS) ze.sz (sZ hoT rfl) _ rfl (fun hm=>?_) (fun hm=>?_) (fun ad e hm=>?_)
   ·have:=kL ze.oS pF (vY _ hm);omega
   ·have:=kL ze.oS pX (vY _ hm);omega
   have e2:gT=ad.block:=(by injection e with e;rw[<-e]);rw[<-e2] at hm;exact ze.Jq (vY _ hm)
  have Up:Hid (oz D c N Wb W0.heap.size (bF b v3 sE) b T gT cT P v5 sf aS q cS L8 i W5.drew):=Gh.out.ab (Below.refl W5.heap.size W5).drew;generalize W5.drew=W6 at HC Up⊢;clear r0 r1 Gh;go_wp2_with fail;refine HC.out.mono ?_;rintro e w7 ⟨a7,c7,rfl,Js⟩;have JD:=Up.out.add Js;obtain⟨L9,Aw⟩:∃L9,jM (fun k=>tD D k i) N T=L9:=⟨_,rfl⟩
  have Am:L9.Nodup:=by rw[<-Aw];exact XH _ _ _ Up.out.tn
  have z8:∀z,z∈L9↔z<N/\tD D z i∈T:=fun z=>by rw[<-Aw];exact S9 _ _ _ z
  rw[Aw] at JD⊢;obtain⟨q9,qs⟩:∃q9,L9.length=q9:=⟨_,rfl⟩
  rw[qs] at JD⊢;have T4:q9<=N:=by rw[<-qs];exact qw Am (fun z hz=>((z8 z).1 hz).1)
  have Xx:=hid (JD.call FN Am (fun z hz=>((z8 z).1 hz).1));have EY:=ξ JD Am z8;clear Js JD Am z8 Aw qs HC;go_wp2_with fail;refine Xx.out.mono ?_;rintro e w8 ⟨v8,vS8,rfl,ES⟩;have HI8:Hid (∃P v vS L8,P.mu N=Fm/\oz D c N Wb W0.heap.size (bF b v3 sE) b T gT cT P v vS a7 q9 c7 L8 (i+1) w8):=by
   refine⟨_,v8,vS8,L9,?_,EY.out.1.div HB.out.2.2.2 HB.out.2.2.1 pV EY.out.2.1 EY.out.2.2 ES⟩;rw[je.mu EY.out.1.ko.pz L9 EY.out.2.1 (fun z hz=>((EY.out.2.2 z).1 hz).1)];exact HIw.out.1
  clear ES Xx;go_wp2;go_roundw
  ·exact⟨i+1,a7,q9,c7,by go_num,by omega,rfl,T4,HI8.out⟩
  simp[intOf];omega
 obtain rfl:i=c:=by omega
 obtain⟨P,v5,sf,L8,qm,hI⟩:=pL.out;have hZ:=hI.all;have HT:=hid (hZ.call FN);have HZ:=ζ hZ qm;clear hI hZ pL qm;go_wp2_with fail;refine HT.out.mono ?_;rintro e w6 h6;obtain⟨v9',rfl,Kg,Lx⟩:=HZ.out.1.tak HB.out.2.2.2 HB.out.2.2.1 hq h6;have Iv:=ζ Kg Lx;clear h6 Kg Lx HT;go_wp2;go_roundw
 ·exact Iv.out.1
 show Ca b N _ _<Ca b N _ _;have h1:=Iv.out.2;have h2:=Hmu.out;have h3:=HZ.out.2;omega
