import Derived.Test.YtiijebameffenaaGreatZMul1
import Derived.Test.YtiijebameffenaaGreatZPDiv
import Derived.StillTailTactics
set_option linter.all false
set_option maxHeartbeats 8000000
set_option maxRecDepth 100000
open Go.Lib (hid)
namespace Go.Proofs.YtiijebameffenaaGreat
open Go.RowKit Go.Maps Go.Proofs.Tryz
open Or (inl inr)
open List (ext_getElem? getD_eq_getElem?_getD length_replicate range range_succ replicate take_of_length_le)
open Nat (le_refl le_trans zero_le)
open Value (ownBlock)
open World (ownsRow_nil)
open Act (put)
variable {B C N c gF gX:Nat}{D:Dd}{P:Pt}{V W0 w w1 w6:World}{bs l ls:List Nat}{f x:Nat->Int}{v v':Nat->Value}{vS vS':Value}
def L0(V:World)(B:Nat)(bs:List Nat)(b:Nat)(P:Pt)(w:World)(e:Ending)(w':World):Prop:=
 (P.L 4=[]/\e=.returned (.slice none 0 0)/\∃v vS,bJ V B bs b v vS P w')\/
 (P.L 4≠[]/\∃(g c:Nat) (v:Nat->Value) (vS:Value),e=.returned (.slice (some ⟨g,0,none⟩) (fA P).length c)/\w'.ownsRow w.heap.size 3 1 (.slice (some ⟨g,0,none⟩) (fA P).length c) (fA P).length (dv (fA P))/\bJ V B bs b v vS (ir P) w'/\g∉bI b v vS)
theorem zoa(N:Nat)(hN:N<=100000)(V:World)(B b:Nat)(bs:List Nat)(v:Nat->Value)(vS:Value)(P:Pt)(w:World)(h:bJ V B bs b v vS P w)(hz:PZ N P):
  Calls prog 163 #[.pointer (some ⟨b,0,none⟩)] w (L0 V B bs b P w):=by
 obtain⟨q,hq⟩:=Ξ ((P.L 4).length)
 obtain⟨a4,c4,e4⟩:=h.DA 4 (by omega) hq;have b4:=h.c4.1;have f4:=h.c4.2;rw[e4] at b4;have Zs:=hz.1.uP;rw[hq] at Zs;have Pf:=hz.1.len;have H:=ψ h hz hq e4;clear h hz hq e4;go_in;by_cases h0:q=0
 ·subst h0;have HF:Hid (L0 V B bs b P w (.returned (.slice none 0 0)) w):=inl ⟨List.eq_nil_of_length_eq_zero H.o.2.2.1,rfl,v,vS,H.o.1⟩;go_wp2;go_ret;exact HF.o
 obtain⟨p,rfl⟩:∃p,q=p+1:=⟨q-1,by omega⟩
 clear h0;have hne:P.L 4≠[]:=fun e=>by have:=H.o.2.2.1;rw[e] at this;simp at this
 have i0:(((p+1:Nat):Int) == 0)=false:=by rw[beq_eq_false_iff_ne];omega
 obtain⟨dg,wJ⟩:=Ξ P.last
 have hm:dg∈P.L 4:=by
  rw[<-wJ];unfold Pt.last;rcases List.eq_nil_or_concat (P.L 4) with e|⟨l,a,e⟩
  ·exact absurd e hne
  rw[e];simp
 obtain⟨qb,hlw⟩:=(H.o.2.1.1.uJ.2 dg).1 hm;obtain⟨s1,s2,s3,s4⟩:=H.o.2.1.1.sp dg qb;have Lm:(P.L 4).getD p 0=dg:=by
  rw[<-wJ];unfold Pt.last;have hl:=H.o.2.2.1;rcases List.eq_nil_or_concat (P.L 4) with e|⟨l,a,e⟩
  ·exact absurd e hne
  rw[e] at hl⊢;simp at hl;subst hl;simp[getD_eq_getElem?_getD]
 obtain⟨g4,c4',e4,y4,_⟩:=H.o.1.num 4 (by omega) p (by rw[H.o.2.2.1];omega);rw[H.o.2.2.1,H.o.2.2.2] at e4;obtain rfl:a4=some ⟨g4,0,none⟩:=by injection e4
 rw[Lm] at y4;obtain⟨nS,yy⟩:=Ξ P.sp.length
 obtain⟨gS,cS,eS⟩:=H.o.1.R8 yy (by omega);have aS:=H.o.1.oq.1;rw[eS] at aS;obtain⟨f,hf⟩:=Ξ ((P.s dg).f)
 obtain⟨g,hg⟩:=Ξ ((P.s dg).g)
 rw[hf,hg] at s1;rw[hg] at s2;have iS:(dg:Int)<nS:=by omega
 have ud:p+1<=c4:=by
  have ho:=H.o.1.row 4 (by omega);rw[H.o.2.2.2] at ho;rcases ho.2 with ⟨h1,_⟩|⟨_,cap,_,h1,_,_,h2,_⟩
  ·cases h1
  injection h1 with _ e1 e2;have h3:(P.L 4).length<=cap:=h2;omega
 have HE:=hid (Zz hne (Zz wJ (Zz yy (Zz eS (Zz hf hg)))));clear hne wJ hm hlw s3 s4 Lm e4 yy eS hf hg;go_upto_region 4 with fail;go_quiet (fail);have HB:=hid (below_drewN (Below.refl w.heap.size w) nq);have ug:bJ V B bs b v vS P (w.drewN nq):=H.o.1.ae (below_drewN (Below.refl _ _) _);generalize w.drewN nq=W2 at ug HB⊢;clear y4 aS b4 f4;have b4:=ug.c4.1;have f4:=ug.c4.2;rw[H.o.2.2.2] at b4;have h1:=ug.yL 4 (by omega) H.o.2.2.2 p (by rw[H.o.2.2.1];omega);replace h1:bJ V B bs b (tG v 4 (.slice (some ⟨g4,0,none⟩) p c4)) vS ⟨fE P.L 4 ((P.L 4).take p),P.sp⟩ (W2.setCell ⟨b,5,none⟩ (.slice (some ⟨g4,0,none⟩) p c4)):=h1;have hpq:p<=p+1:=by omega
 have SZ:Hid (w.heap.size<=W2.heap.size):=HB.o.size;go_upto_region 6 with fail;obtain⟨v4,TS⟩:=Ξ (tG v 4 (.slice (some ⟨g4,0,none⟩) p c4))
 rw[TS] at h1;have Cg:fE P.L 4 ((P.L 4).take p)=(ir P).L:=by
  show _=fE P.L 4 (P.L 4).dropLast;rw[List.dropLast_eq_take,H.o.2.2.1];rfl
 rw[Cg] at h1;replace SZ:Hid (w.heap.size<=(W2.setCell ⟨b,5,none⟩ (.slice (some ⟨g4,0,none⟩) p c4)).heap.size):=by show w.heap.size<=_;have:=SZ.o;simpa [World.setCell] using this
 generalize W2.setCell ⟨b,5,none⟩ (.slice (some ⟨g4,0,none⟩) p c4)=W3 at h1 SZ⊢;clear b4 f4 ug;have DO:=(h1.Cl HE.o.2.2.2.1 dg (by show dg<P.sp.length;rw[HE.o.2.2.1];omega)).cw;have hwz:=(h1.Cl HE.o.2.2.2.1 dg (by show dg<P.sp.length;rw[HE.o.2.2.1];omega)).z3;have h2:=h1.yE HE.o.2.2.2.1 dg 3 ⟨(P.s dg).f,(P.s dg).g,(P.s dg).h,false⟩ (by show dg<P.sp.length;rw[HE.o.2.2.1];omega) (by omega) (fun k' hk' hn=>by
  have:k'=0\/k'=1\/k'=2:=by omega
  rcases this with rfl|rfl|rfl <;> rfl)
 have h3:bJ V B bs b v4 vS (ir P) (W3.setCell ⟨gS,dg*4+3,none⟩ (.bool false)):=by
  refine h2.congr (fun i hi=>rfl) ?_;show P.sp.set dg _=P.sp.set P.last _;rw[HE.o.2.1]
 obtain⟨wb,ZJ⟩:∃wb,W3.cell? ⟨gS,dg*4+3,none⟩=some (.bool wb):=⟨_,DO⟩
 clear DO h2 h1;go_upto_region 7 with fail;replace SZ:Hid (w.heap.size<=(W3.setCell ⟨gS,dg*4+3,none⟩ (.bool false)).heap.size):=by show w.heap.size<=_;have:=SZ.o;simpa [World.setCell] using this
 generalize W3.setCell ⟨gS,dg*4+3,none⟩ (.bool false)=W4 at h3 SZ⊢;clear ZJ hwz;obtain⟨m0,pH⟩:=Ξ ((P.L 0).length)
 have T4:m0=N:=by rw[<-pH];exact H.o.2.1.1.l0
 obtain⟨g0,c0,e0⟩:=h3.sl 0 (by omega) (q:=m0) pH (by omega);have b0:=h3.c0.1;rw[e0] at b0;have qO:m0<=c0:=by
  have ho:=h3.row 0 (by omega);rw[e0] at ho;rcases ho.2 with ⟨h1,_⟩|⟨_,cap,_,h1,_,_,h2,_⟩
  ·cases h1
  injection h1 with _ e1 e2;have h3:(P.L 0).length<=cap:=h2;omega
 obtain⟨x1,x2,_,_,_,_,_⟩:=h3.Cl HE.o.2.2.2.1 dg (by show dg<(ir P).sp.length;unfold ir;rw[List.length_set,HE.o.2.2.1];omega);have Ac:(ir P).s dg=⟨(P.s dg).f,(P.s dg).g,(P.s dg).h,false⟩:=by
  show (⟨fE P.L 4 (P.L 4).dropLast,P.sp.set P.last ⟨(P.s P.last).f,(P.s P.last).g,(P.s P.last).h,false⟩⟩:Pt).s dg=_;rw[HE.o.2.1,Pt.sh _ _ _ _ _ (by rw[HE.o.2.2.1];omega),if_pos rfl]
 rw[Ac] at x1 x2;rw[show (⟨(P.s dg).f,(P.s dg).g,(P.s dg).h,false⟩:pa).f=f from HE.o.2.2.2.2.1] at x1;rw[show (⟨(P.s dg).f,(P.s dg).g,(P.s dg).h,false⟩:pa).g=g from HE.o.2.2.2.2.2] at x2;obtain⟨m,hm⟩:=Ξ (g-f)
 have yN:(fA P).length=m:=by
  unfold fA;rw[List.length_take,List.length_drop,pH,HE.o.2.1,HE.o.2.2.2.2.1,HE.o.2.2.2.2.2,hm];omega
 have Vn:∀j,j<m->(fA P).getD j 0=(P.L 0).getD (f+j) 0:=fun j hj=>by
  unfold fA;rw[HE.o.2.1,HE.o.2.2.2.2.1,HE.o.2.2.2.2.2,hm,getD_eq_getElem?_getD,List.getElem?_take_of_lt hj,List.getElem?_drop,getD_eq_getElem?_getD]
 have hZ:∀W,bJ V B bs b v4 vS (ir P) W->lT W (some ⟨g0,f,none⟩) m (fun j=>(((fA P).getD j 0:Nat):Int)):=fun W hW hpos=>by
  have ho:=hW.row 0 (by omega);refine⟨g0,f,rfl,me ho g0 (by rw[e0];rfl),fun j hj=>?_⟩;have:=(hW.TT 0 (by omega) e0 (f+j) (by show f+j<(P.L 0).length;omega)).1;rw[this];show some (Value.int .i64 (((P.L 0).getD (f+j) 0:Nat):Int))=some (Value.int .i64 (((fA P).getD j 0:Nat):Int));rw[Vn j hj]
 have HZ:=hid hZ;have H3:=ψ h3 TS e0 yN;have j1:(f:Int)<=g:=by omega
 have j2:(g:Int)<=c0:=by omega
 have j3:(f:Int)<c0:=by omega
 clear hZ Vn yN Ac h3 TS e0 pH T4 Cg
 go_still_tail 13,(by kernel_rfl)
 change wpList _ _ _ _ _ W4.drew;have pT:bJ V B bs b v4 vS (ir P) W4.drew:=H3.o.1.ae (Below.refl _ _).drew;replace SZ:Hid (w.heap.size<=W4.drew.heap.size):=SZ.o;generalize W4.drew=W5 at pT SZ⊢;have HC:=hid (N8 m (c0-f) (some ⟨g0,f,none⟩) (fun j=>(((fA P).getD j 0:Nat):Int)) (by omega) W5 (HZ.o W5 pT) (by simp) (by simp));have Ay:=hid pT;clear pT b0 x1 x2;go_wp2_with fail;refine HC.o.mono ?_;rintro e w6 ⟨a6,c6,rfl,kH,b6⟩;have HF:Hid (L0 V B bs b P w (.returned (.slice a6 m c6)) w6):=by
  have hP6:=Ay.o.ae b6;have BP:ints ((range m).map (fun j=>(((fA P).getD j 0:Nat):Int)))=dv (fA P):=by
   apply ext_getElem?;intro j;have hl:=H3.o.2.2.2;by_cases hj:j<m
   ·have h2:j<(fA P).length:=(by omega);simp[ints,dv,hj,h2,getD_eq_getElem?_getD]
   have h2:¬j<(fA P).length:=(by omega);simp[ints,dv,hj,h2]
  rw[BP] at kH;obtain⟨g6,rfl,gQ,_,_⟩:=fG kH (by omega);have cQ:w.heap.size<=W5.heap.size:=SZ.o;refine inr ⟨HE.o.1,g6,c6,v4,vS,?_,?_,hP6,?_⟩
  ·rw[H3.o.2.2.2]
  ·rw[H3.o.2.2.2];exact jH kH cQ
  intro yO;rcases xn.1 yO with e9|e9|⟨i,hi,e9⟩
  ·have:=Ay.o.st.lt;omega
  ·have:=me Ay.o.pq g6 e9;omega
  have:=me (Ay.o.row i hi) g6 e9;omega
 clear kH b6 HC;go_wp2;go_ret;exact HF.o
def Vd(N:Nat)(w:World)(e:Ending)(w':World):Prop:=
 ∃(b:Nat) (v:Nat->Value) (vS:Value),e=.returned (.pointer (some ⟨b,0,none⟩))/\bJ w' w.heap.size (bI b v vS) b v vS (fX N) w'/\Below w.heap.size w w'/\∀x∈bI b v vS,w.heap.size<=x
def CC(N k:Nat):Pt:=⟨fun i=>if i=0 then range k else if i=1 then range k else if i=2 then replicate N 0 else [],[⟨0,N,0,false⟩]⟩
def Mi(gB:Nat)(N:Nat)(i:Nat):Value:=if i=2 then .slice (some ⟨gB,0,none⟩) N N else .slice none 0 0
theorem zl8(N:Nat)(hN:N<=100000)(w:World):Calls prog 159 #[.int .i64 (N:Int)] w (Vd N w):=by
 have hm:=Ki N (by omega);go_in;go_upto_region 2 with fail;obtain⟨W3,vw⟩:=Ξ (((w.alloc (.cells (madeCells #[.int .i64 0] N) 3)).alloc (.cells #[.int .i64 0,.int .i64 (N:Int),.int .i64 0,.bool false] 225)).alloc (.cells #[.slice none 0 0,.slice none 0 0,.slice (some ⟨w.heap.size,0,none⟩) N N,.slice (some ⟨w.heap.size+1,0,none⟩) 1 1,.slice none 0 0,.slice none 0 0] 215))
 obtain⟨b,hb⟩:=Ξ (w.heap.size+1+1)
 obtain⟨bs,ow⟩:=Ξ (bI b (Mi w.heap.size N) (.slice (some ⟨w.heap.size+1,0,none⟩) 1 1))
 have h0:bJ W3 w.heap.size bs b (Mi w.heap.size N) (.slice (some ⟨w.heap.size+1,0,none⟩) 1 1) (CC N 0) W3/\Below w.heap.size w W3/\∀x∈bs,w.heap.size<=x:=by
  have k1:=al w (.cells (madeCells #[.int .i64 0] N) 3);have k2:=al (w.alloc (.cells (madeCells #[.int .i64 0] N) 3)) (.cells #[.int .i64 0,.int .i64 (N:Int),.int .i64 0,.bool false] 225);have k3:=al ((w.alloc (.cells (madeCells #[.int .i64 0] N) 3)).alloc (.cells #[.int .i64 0,.int .i64 (N:Int),.int .i64 0,.bool false] 225)) (.cells #[.slice none 0 0,.slice none 0 0,.slice (some ⟨w.heap.size,0,none⟩) N N,.slice (some ⟨w.heap.size+1,0,none⟩) 1 1,.slice none 0 0,.slice none 0 0] 215);have o1:=dE (dE (Fb w w.heap.size N 3 (.int .i64 0) (le_refl _) (by unfold maxLen;omega)) k2) k3;have o2:=dE (zG (w.alloc (.cells (madeCells #[.int .i64 0] N) 3)) w.heap.size 225 4 #[.int .i64 0,.int .i64 (N:Int),.int .i64 0,.bool false] 1 rfl (by simp) (by unfold maxLen;omega)) k3;have st:=St.new ((w.alloc (.cells (madeCells #[.int .i64 0] N) 3)).alloc (.cells #[.int .i64 0,.int .i64 (N:Int),.int .i64 0,.bool false] 225)) 215 #[.slice none 0 0,.slice none 0 0,.slice (some ⟨w.heap.size,0,none⟩) N N,.slice (some ⟨w.heap.size+1,0,none⟩) 1 1,.slice none 0 0,.slice none 0 0];have kk:Below w.heap.size w W3:=by rw[<-vw];exact k1.trans ((k2.mono (by simp)).trans (k3.mono (by simp;omega)))
  rw[vw] at o1 o2 st;have my:(w.alloc (.cells (madeCells #[.int .i64 0] N) 3)).heap.size=w.heap.size+1:=by simp
  have sX:((w.alloc (.cells (madeCells #[.int .i64 0] N) 3)).alloc (.cells #[.int .i64 0,.int .i64 (N:Int),.int .i64 0,.bool false] 225)).heap.size=b:=by rw[<-hb];simp
  rw[my] at o2;rw[sX] at st;have az:∀i,i<5->∀g,(Mi w.heap.size N i).ownBlock=some g->i=2/\g=w.heap.size:=fun i hi g e=>by
   unfold Mi at e;split at e
   ·rename_i h2;simp[ownBlock] at e;exact⟨h2,e.symm⟩
   simp[ownBlock] at e
  have Kg:∀x∈bs,w.heap.size<=x:=fun x hx=>by
   rw[<-ow] at hx;rcases xn.1 hx with e|e|⟨i,hi,e⟩
   ·omega
   ·simp[ownBlock] at e;omega
   have:=(az i hi x e).2;omega
  refine⟨⟨Kept.refl _ _ _,Below.refl _ _,st,fun i hi=>?_,fun i j hi hj hij g e1 e2=>?_,?_,fun i hi g e=>inl (by rw[<-ow];exact xn.2 (inr (inr ⟨i,hi,e⟩))),fun g e=>inl (by rw[<-ow];exact xn.2 (inr (inl e))),by rw[<-ow];exact xn.2 (inl rfl),by omega,kk.size⟩,kk,Kg⟩
  ·have:i=0\/i=1\/i=2\/i=3\/i=4:=(by omega);rcases this with rfl|rfl|rfl|rfl|rfl
   ·exact ownsRow_nil _ _ _ _
   ·exact ownsRow_nil _ _ _ _
   ·show W3.ownsRow _ _ _ (.slice (some ⟨w.heap.size,0,none⟩) N N) (replicate N 0).length (dv (replicate N 0));have e:dv (replicate N 0)=replicate N (.int .i64 0):=(by simp[dv]);rw[e,length_replicate];exact o1
   ·exact ownsRow_nil _ _ _ _
   exact ownsRow_nil _ _ _ _
  ·have:=(az i hi g e1).1;have:=(az j hj g e2).1;omega
  exact o2
 have H0:=hid h0;rw[vw,hb];clear vw h0;have Hbs:=ζ hb ow;clear hb ow;go_wp2;go_loopw [4,13] (fun _ vk wr=>∃k:Nat,vk=.int .i64 k/\k<=N/\Hid (∃v vS,bJ W3 w.heap.size bs b v vS (CC N k) wr)) (fun _ v _=>N-(intOf v).toNat)
 ·exact⟨0,rfl,zero_le _,_,_,H0.o.1⟩
 obtain⟨k,rfl,hk,HL⟩:=hrel;by_cases aq:k<N
 ·obtain⟨v,vS,h⟩:=HL.o;have l5:((CC N k).L 0).length=k:=by show (range k).length=k;simp
  have hO:=h.row 0 (by omega);obtain⟨a3,c3,e3⟩:=h.DA 0 (by omega) l5;have a4:=h.c0.1;rw[l5,e3] at hO;rw[e3] at a4;have hV:=h.hB;have HP:=hid h;have sO:=hid e3;have Hl0:=hid l5;obtain⟨i0,hi,dP,dc,db⟩:=info_parts aH;have i1:(k:Int)<N:=by omega
  clear h e3 l5 HL;go_upto_region 5 with fail;go_wp2_with (at_builtin;refine wpList_append_own_at _ rfl _ _ 43 rfl w.heap.size 3 i0 (.int .i64 0) 1 8 underlying43 hi dP dc db rfl (by decide) _ _ _ rfl (hO.alloc _) ⟨wr.heap.size,0,none⟩ 1 1 [.int .i64 (k:Int)] rfl rfl (cell_one_new _ _ _) ?d2 ?d3 ?d4 ?d5 ?_)
  case d2=>intro u hu;simp at hu;subst hu;rfl
  case d3=>unfold maxLen;omega
  case d4=>omega
  case d5=>simp;omega
  intro v' w5 ak aj _ bW;have h2:=HP.o.ae (al wr (.cells #[.int .i64 (k:Int)] 3));have gh:=h2.st.af (hO.alloc _) (by decide) aj;have p3:w5.cell? ⟨b,0,none⟩=some (.slice a3 k c3):=by rw[gh.at_];show some (v 0)=_;rw[sO.o]
  have pf:=gh.bE 0;have h5:bJ W3 w.heap.size bs b (tG v 0 v') vS ⟨fE (CC N k).L 0 (range k++[k]),(CC N k).sp⟩ (w5.setCell ⟨b,0,none⟩ v'):=h2.app (v':=v') (x:=k) 0 (by omega) Hl0.o ak (by rw[sO.o];exact aj) (by
   rw[show (wr.alloc (.cells #[.int .i64 (k:Int)] 3)).heap.size=wr.heap.size+1 by simp,sO.o]
   rcases bW with h|h
   ·exact inl h
   ·exact inr (inl h))
  obtain⟨a5,c5,rfl⟩:=cy ak;clear ak aj bW h2 gh hO a4;go_upto_region 6 with fail;clear p3 pf;obtain⟨W6,tW⟩:=Ξ (w5.setCell ⟨b,0,none⟩ (.slice a5 (k+1) c5))
  obtain⟨v6,hv6⟩:=Ξ (tG v 0 (.slice a5 (k+1) c5))
  rw[tW,hv6] at h5;rw[tW];clear tW hv6 HP sO;have lb:((⟨fE (CC N k).L 0 (range k++[k]),(CC N k).sp⟩:Pt).L 1).length=k:=by show (range k).length=k;simp
  have hO:=h5.row 1 (by omega);obtain⟨a3,c3,e3⟩:=h5.DA 1 (by omega) lb;have a4:=h5.c1.1;rw[lb,e3] at hO;rw[e3] at a4;have hV:=h5.hB;have HP:=hid h5;have sO:=hid e3;have Hl1:=hid lb;clear h5 e3 lb;go_wp2_with (at_builtin;refine wpList_append_own_at _ rfl _ _ 43 rfl w.heap.size 3 i0 (.int .i64 0) 1 8 underlying43 hi dP dc db rfl (by decide) _ _ _ rfl (hO.alloc _) ⟨W6.heap.size,0,none⟩ 1 1 [.int .i64 (k:Int)] rfl rfl (cell_one_new _ _ _) ?f2 ?f3 ?f4 ?f5 ?_)
  case f2=>first|(intro u hu;simp at hu;subst hu;rfl)|rfl
  case f3=>unfold maxLen;omega
  case f4=>omega
  case f5=>first|(simp;omega)|omega
  intro v' w7 ak aj _ bW;have h2:=HP.o.ae (al W6 (.cells #[.int .i64 (k:Int)] 3));have gh:=h2.st.af (hO.alloc _) (by decide) aj;have p3:w7.cell? ⟨b,1,none⟩=some (.slice a3 k c3):=by rw[gh.at_];show some (v6 1)=_;rw[sO.o]
  have pf:=gh.bE 1;have HF:Hid (bJ W3 w.heap.size bs b (tG v6 1 v') vS (CC N (k+1)) (w7.setCell ⟨b,1,none⟩ v')):=by
   have h7:=h2.app (v':=v') (x:=k) 1 (by omega) Hl1.o ak (by rw[sO.o];exact aj) (by
    rw[show (W6.alloc (.cells #[.int .i64 (k:Int)] 3)).heap.size=W6.heap.size+1 by simp,sO.o]
    rcases bW with h|h
    ·exact inl h
    ·exact inr (inl h))
   refine h7.congr (fun i hi=>?_) rfl;have:i=0\/i=1\/i=2\/i=3\/i=4:=(by omega);rcases this with rfl|rfl|rfl|rfl|rfl
   ·show range k++[k]=range (k+1);rw[range_succ]
   ·show range k++[k]=range (k+1);rw[range_succ]
   ·rfl
   ·rfl
   rfl
  obtain⟨a7,c7,rfl⟩:=cy ak;clear ak aj bW h2 gh hO a4 HP;go_wp2;go_roundw
  ·exact⟨k+1,by go_num,by omega,_,_,HF.o⟩
  simp[intOf];omega
 obtain rfl:k=N:=by omega
 obtain⟨v,vS,h⟩:=HL.o;have HF:Hid (Vd k w (.returned (.pointer (some ⟨b,0,none⟩))) wr):=by
  refine⟨b,v,vS,rfl,?_,H0.o.2.1.trans h.below,fun x hx=>?_⟩
  ·exact h.start.congr (fun i hi=>rfl) rfl
  rcases h.ui x hx with h3|h3
  ·exact H0.o.2.2 x h3
  exact le_trans H0.o.2.1.size h3
 clear h HL H0;go_wp2;go_ret;exact HF.o
def QK(N:Nat)(w:World)(e:Ending)(w':World):Prop:=
 ∃g,e=.returned (.slice (some ⟨g,0,none⟩) N N)/\w'.ownsRow w.heap.size 3 1 (.slice (some ⟨g,0,none⟩) N N) N (ints (replicate N (-1)))/\Below w.heap.size w w'
def ju(N n:Nat):List Value:=replicate n (.int .i64 (-1))++replicate (N-n) (.int .i64 0)
theorem Ua(N n:Nat)(h:n<=N):(ju N n).length=N:=by simp[ju];omega
theorem zhT(N n m:Nat)(h:n+m<=N):splice (ju N n) n (replicate m (.int .i64 (-1)))=ju N (n+m):=by
 unfold splice ju;rw[List.take_append_of_le_length (by simp),take_of_length_le (by simp),length_replicate,List.drop_append];simp only[length_replicate,List.drop_replicate];rw[show n-(n+m)=0 by omega,List.replicate_zero,List.nil_append,<-List.append_assoc,List.replicate_append_replicate,show N-n-(n+m-n)=N-(n+m) by omega]
theorem zn9(N:Nat):splice (replicate N (Value.int .i64 0)) 0 [.int .i64 (-1)]=ju N 1\/N=0:=by
 rcases Nat.eq_zero_or_pos N with h|h
 ·exact inr h
 left;unfold splice ju;simp
theorem zka(N:Nat)(hN0:1<=N)(hN:N<=100000)(g:Nat)(w:World)(hc:w.cell? ⟨g,0,none⟩=some (.int .i64 (-1)))(hg:g<w.heap.size):
  Calls prog 181 #[.slice (some ⟨g,0,none⟩) 1 1,.int .i64 (N:Int)] w (QK N w):=by
 have HM:=hid (znI N hN w);have hm:=Ki N (by omega);have i1:¬((N:Int)<0):=by omega
 have i2:IntKind.u64.wrap (N:Int)=N:=Xh N (by omega);have i3:¬((N:Int) > 9223372036854775807):=by omega
 have i4:IntKind.i64.wrap (N:Int)=N:=IntWalk.i64_in _ (by omega);have i5:IntKind.u64.wrap 1=1:=by decide
 have iI:=aH;go_in;go_wp2_with fail;refine HM.o.mono ?_;rintro e w2 ⟨rfl,rfl⟩;go_upto_region 7 with fail;have HG:Hid ((w.alloc (.cells (madeCells #[.int .i64 0] N) 3)).heap[w.heap.size]?=some (.cells (replicate N (.int .i64 0)).toArray 3 (0,0))/\Below w.heap.size w (w.alloc (.cells (madeCells #[.int .i64 0] N) 3))):=by
  refine⟨?_,al w _⟩;have:=(Nr (Fb w w.heap.size N 3 (.int .i64 0) (le_refl _) (by unfold maxLen;omega))).1;exact this
 have gj:(w.alloc (.cells (madeCells #[.int .i64 0] N) 3)).cell? ⟨g,0,none⟩=some (.int .i64 (-1)):=((al w _).cell (p:=⟨g,0,none⟩) hg).trans hc;obtain⟨gN,od⟩:=Ξ w.heap.size
 rw[od] at HG⊢;generalize w.alloc (.cells (madeCells #[.int .i64 0] N) 3)=W1 at HG gj⊢;have IX:Nat.min 1 N=1:=Nat.min_eq_left hN0;have Z8:=hid od;clear od hm hc HM;have uw:∀j v,([Value.int .i64 (-1)]:List Value)[j]?=some v->W1.cell? ((⟨g,0,none⟩:Addr).add j)=some v:=fun j v hj=>by
  have:j=0:=by
   have:=(List.getElem?_eq_some_iff.1 hj).1;simpa using this
  subst this;simp at hj;rw[<-hj];exact gj
 have U2:=hid uw;clear uw;have JN:(prog.info? 3).map (·.size)=some 1:=by kernel_rfl
 have Ct:0<([Value.int .i64 (-1)]:List Value).length->(some ⟨gN,0,none⟩:Option Addr)=some ⟨gN,0,none⟩/\∃ad,(some ⟨g,0,none⟩:Option Addr)=some ad/\∀j v,([Value.int .i64 (-1)]:List Value)[j]?=some v->W1.cell? (ad.add j)=some v:=fun _=>⟨rfl,⟨g,0,none⟩,rfl,U2.o⟩
 have ug:0+([Value.int .i64 (-1)]:List Value).length<=(replicate N (Value.int .i64 0)).length:=by rw[length_replicate];show 0+1<=N;omega
 have AU:∀v∈([Value.int .i64 (-1)]:List Value),v.oneCell'=true:=by intro v hv;rw[List.mem_singleton.1 hv];rfl
 have HP:=ξ Ct ug AU;have UQ:=hid IX;clear Ct ug AU IX;go_wp2_with (refine wpList_copy_splice rfl _ _ _ _ rfl 3 underlying43 JN (some ⟨gN,0,none⟩) (some ⟨g,0,none⟩) N N 1 1 rfl rfl gN 0 (replicate N (.int .i64 0)) 3 HG.o.1 [.int .i64 (-1)] UQ.o.symm HP.o.1 HP.o.2.1 HP.o.2.2 gN w HG.o.2 (le_refl _) ?_);intro W2 KS nO;have H2:Hid (W2.heap[gN]?=some (.cells (ju N 1).toArray 3 (0,0))/\Below gN w W2):=by
  refine⟨?_,nO⟩;have h:=KS.o;rcases zn9 N with e|e
  ·rw[e] at h;exact h
  omega
 clear KS nO HG gj;go_wp2;go_loopw [8] (fun v wr=>∃n:Nat,v=.int .i64 n/\1<=n/\n<=N/\Hid (wr.heap[gN]?=some (.cells (ju N n).toArray 3 (0,0))/\Below gN w wr)) (fun v _=>N-(intOf v).toNat)
 ·exact⟨1,rfl,le_refl _,hN0,H2.o⟩
 clear H2;obtain⟨n,rfl,dr,hn,HL⟩:=hrel;by_cases aq:n<N
 ·have j1:(n:Int)<N:=by omega
  have j2:(n:Int)<=N:=by omega
  obtain⟨m,jR⟩:=Ξ (min n (N-n))
  have jD:1<=m/\n+m<=N/\m<=n:=by omega
  have JK:Nat.min n (N-n)=m:=jR;have J4:(replicate m (Value.int .i64 (-1))).length=Nat.min n (N-n):=by rw[length_replicate,JK]
  have Ct:0<(replicate m (Value.int .i64 (-1))).length->(some ⟨gN,n,none⟩:Option Addr)=some ⟨gN,n,none⟩/\∃ad,(some ⟨gN,0,none⟩:Option Addr)=some ad/\∀j v,(replicate m (Value.int .i64 (-1)))[j]?=some v->wr.drew.cell? (ad.add j)=some v:=fun _=>⟨rfl,⟨gN,0,none⟩,rfl,fun j v hj=>by
   have hj2:j<m:=by simpa using (List.getElem?_eq_some_iff.1 hj).1
   have hv:v=.int .i64 (-1):=by
    have:=(List.getElem?_eq_some_iff.1 hj).2
    simpa using this.symm
   have hc:wr.cell? ⟨gN,j,none⟩=(ju N n).toArray[j]?:=cell_of_row wr gN j _ _ _ HL.o.1
   have e:(⟨gN,0,none⟩:Addr).add j=⟨gN,j,none⟩:=by unfold Addr.add;split <;> simp_all
   rw[e]
   show wr.cell? ⟨gN,j,none⟩=some v
   rw[hc,hv]
   simp[ju,List.getElem?_append,show j<n by omega]⟩
  have ug:n+(replicate m (Value.int .i64 (-1))).length<=(ju N n).length:=by rw[length_replicate,Ua N n hn];omega
  have AU:∀v∈replicate m (Value.int .i64 (-1)),v.oneCell'=true:=by intro v hv;rw[List.eq_of_mem_replicate hv];rfl
  have HP:=ψ J4 Ct ug AU;have OO:Hid (wr.drew.heap[gN]?=some (.cells (ju N n).toArray 3 (0,0))/\Below gN w wr.drew):=⟨HL.o.1,HL.o.2.drew⟩
  have HS:Hid (splice (ju N n) n (replicate m (Value.int .i64 (-1)))=ju N (n+m)):=zhT N n m jD.2.1;have Hm:=ζ jR jD;clear J4 Ct ug AU jR JK jD;have hne:¬(N=n):=by omega
  go_upto_region 9 with fail;refine wp_region_held_drew (S:=fun W'=>Below gN w W') (by kernel_rfl) OO.o.2 (fun η=>?_)
  (refine ay 0 ?_;refine ay 1 ?_;refine ay 2 ?_;try simp only[put,sA];refine ay 3 ?_;refine ay 4 ?_;refine ay 5 ?_;try simp only[put,sA];refine ay 6 ?_;try simp only[put,sA])
  refine bH 7 (fun K hK=>?_);skip;refine step_copy_splice (by rfl) _ _ _ _ (by rfl) 3 underlying43 JN (some ⟨gN,n,none⟩) (some ⟨gN,0,none⟩) (N-n) (N-n) n N (by rfl) (by rfl) gN n (ju N n) 3 OO.o.1 (replicate m (Value.int .i64 (-1))) HP.o.1 HP.o.2.1 HP.o.2.2.1 HP.o.2.2.2 gN w OO.o.2 (le_refl _) ?_;intro W5 Xf eB;have H5:Hid (W5.heap[gN]?=some (.cells (ju N (n+m)).toArray 3 (0,0))/\Below gN w W5):=by
   have h:=Xf.o;rw[HS.o] at h;exact⟨h,eB⟩
  have hlen:(replicate m (Value.int .i64 (-1))).length=m:=length_replicate;rw[hlen];refine hK.out _ _ (eB) fun η=>?_;clear hK K
  try simp only[put,sA]
  have w1:(n:Int)+(m:Int)<=100000:=by have:=Hm.o.2;omega
  have w2:IntKind.i64.wrap ((n:Int)+(m:Int))=(n:Int)+(m:Int):=IntWalk.i64_in _ (by omega)
  (refine ay 8 ?_;refine ay 9 ?_;try simp only[put,sA])
  refine wpAnyH_done (by kernel_rfl) ?_ _;clear Xf eB OO HP HL HS η;go_wp2;go_roundw
  ·exact⟨n+m,by go_num,by have:=Hm.o.2;omega,by have:=Hm.o.2;omega,H5.o⟩
  (have h8:=Hm.o.2;have h9:((n:Int)+(m:Int)).toNat=n+m:=(by omega);simp[intOf];omega)
 obtain rfl:n=N:=by omega
 have HF:Hid (QK n w (.returned (.slice (some ⟨gN,0,none⟩) n n)) wr):=by
  refine⟨gN,rfl,?_,by rw[Z8.o];exact HL.o.2⟩;rw[Z8.o];have e:ju n n=ints (replicate n (-1)):=by simp[ju,ints]
  refine⟨by simp[ints],inr ⟨gN,n,_,rfl,le_refl _,HL.o.1,le_refl _,by unfold maxLen;omega,by simp[Ua n n (le_refl _)],?_⟩⟩;rw[<-e];simp[take_of_length_le,Ua n n (le_refl _)]
 clear HL;go_wp2;go_ret;exact HF.o
def qi(f:Nat->Int)(n:Nat):List Value:=(range n).map fun y=>Value.int .i64 (f y)
theorem O3(f:Nat->Int)(n x:Nat)(h:x<n):(qi f n)[x]?=some (.int .i64 (f x)):=by simp[qi,h]
theorem zlN(f:Nat->Int)(n x:Nat)(v:Int):(qi f n).set x (.int .i64 v)=qi (fun y=>if y=x then v else f y) n:=by
 unfold qi;apply ext_getElem?;intro i;rw[List.getElem?_set];by_cases e:x=i
 ·subst e;by_cases h:x<n
  ·simp[h]
  simp[h]
 rw[if_neg e];by_cases h:i<n
 ·simp[h,Ne.symm e,show ¬i=x from fun h=>e h.symm]
 simp[h]
theorem ZO(n:Nat)(v:Int):ints (replicate n v)=qi (fun _=>v) n:=by
 unfold qi ints;apply ext_getElem?;intro i;by_cases h:i<n <;> simp[h]
def LL(x:Nat->Int):Int->List Nat->Prop
 | v,[]=>v=-1
 | v,a :: l=>v=(a:Int)/\LL x (x a) l
def chain(t:Nat->Nat)(k s:Nat):List Nat:=((range k).filter fun i=>t i == s).reverse
theorem Jy(t:Nat->Nat)(k s i:Nat):i∈chain t k s↔i<k/\t i=s:=by simp[chain]
theorem zhF(t:Nat->Nat)(k s:Nat):(chain t k s).Nodup:=by
 unfold chain;exact List.pairwise_reverse.2 ((List.Nodup.sublist List.filter_sublist List.nodup_range).imp fun h=>Ne.symm h)
theorem zjZ(t:Nat->Nat)(k s:Nat):chain t (k+1) s=if t k=s then k :: chain t k s else chain t k s:=by
 unfold chain;rw[range_succ,List.filter_append,List.reverse_append];by_cases h:t k=s
 ·simp[h]
 simp[h]
theorem LL.congr{x x':Nat->Int}:∀(l:List Nat) (v:Int),(∀a∈l,x a=x' a)->LL x v l->LL x' v l
 | [],_,_,h=>h
 | a :: l,v,e,h=>⟨h.1,by
   have h2:=h.2
   rw[e a List.mem_cons_self] at h2
   exact LL.congr l _ (fun b hb=>e b (List.mem_cons_of_mem _ hb)) h2⟩
theorem LL.link{t:Nat->Nat}{k:Nat}(h:∀s,s<N->LL x (f s) (chain t k s))(hk:t k<N):
  ∀s,s<N->LL (fun j=>if j=k then f (t k) else x j) (if s=t k then (k:Int) else f s) (chain t (k+1) s):=by
 intro s y8;rw[zjZ];have hc:∀s,s<N->LL (fun j=>if j=k then f (t k) else x j) (f s) (chain t k s):=fun s y8=>
  LL.congr _ _ (fun a ha=>by
   have:=((Jy t k s a).1 ha).1
   rw[if_neg (by omega)]) (h s y8)
 by_cases e:s=t k
 ·subst e;rw[if_pos rfl,if_pos rfl];refine⟨rfl,?_⟩;show LL _ (if k=k then f (t k) else x k) _;rw[if_pos rfl];exact hc _ y8
 rw[if_neg e,if_neg (fun e2=>e e2.symm)];exact hc _ y8
structure se (W0 w:World)(b gF gX N:Nat)(f x:Nat->Int):Prop where
 bc:Below W0.heap.size W0 w
 st:St w 210 b #[.slice (some ⟨gF,0,none⟩) N N,.slice (some ⟨gX,0,none⟩) N N]
 fs:w.ownsRow W0.heap.size 3 1 (.slice (some ⟨gF,0,none⟩) N N) N (qi f N)
 xs:w.ownsRow W0.heap.size 3 1 (.slice (some ⟨gX,0,none⟩) N N) N (qi x N)
 ne:gF≠gX
 lo:W0.heap.size<=b
theorem se.ae{b:Nat}(h:se W0 w b gF gX N f x)(k:Below w.heap.size w w1):se W0 w1 b gF gX N f x:=
 ⟨h.bc.trans (k.mono h.bc.size),h.st.ae k,dE h.fs k,dE h.xs k,h.ne,h.lo⟩
theorem se.QH{b:Nat}(h:se W0 w b gF gX N f x)(i:Nat)(hi:i<N)(v:Int):se W0 (w.setCell ⟨gX,i,none⟩ (.int .i64 v)) b gF gX N f (fun j=>if j=i then v else x j):=by
 have hk:Kept [] [gX] w (w.setCell ⟨gX,i,none⟩ (.int .i64 v)):=(Kept.refl _ _ _).setCell _ _ (inl (by simp));refine⟨h.bc.setCell (p:=⟨gX,i,none⟩) (ln h.xs gX rfl) _,h.st.gJ (p:=⟨gX,i,none⟩) (fun e=>eI h.xs h.st (by decide) gX rfl e.symm) _,gk h.fs hk (by simp) (fun g e hm=>?_),?_,h.ne,h.lo⟩
 ·rw[List.mem_singleton.1 hm] at e;simp[ownBlock] at e;exact h.ne e
 rw[<-zlN];exact xC h.xs i hi _
theorem se.PB{b:Nat}(h:se W0 w b gF gX N f x)(i:Nat)(hi:i<N)(v:Int):se W0 (w.setCell ⟨gF,i,none⟩ (.int .i64 v)) b gF gX N (fun j=>if j=i then v else f j) x:=by
 have hk:Kept [] [gF] w (w.setCell ⟨gF,i,none⟩ (.int .i64 v)):=(Kept.refl _ _ _).setCell _ _ (inl (by simp));refine⟨h.bc.setCell (p:=⟨gF,i,none⟩) (ln h.fs gF rfl) _,h.st.gJ (p:=⟨gF,i,none⟩) (fun e=>eI h.fs h.st (by decide) gF rfl e.symm) _,?_,gk h.xs hk (by simp) (fun g e hm=>?_),h.ne,h.lo⟩
 ·rw[<-zlN];exact xC h.fs i hi _
 rw[List.mem_singleton.1 hm] at e;simp[ownBlock] at e;exact h.ne e.symm
theorem se.atF{b:Nat}(h:se W0 w b gF gX N f x)(i:Nat)(hi:i<N):w.cell? ⟨gF,i,none⟩=some (.int .i64 (f i))/\w.frozen? ⟨gF,i,none⟩=false:=by
 obtain⟨g,e,_,_,hc⟩:=fG h.fs (by omega);injection e with e;injection e with e;subst e;obtain⟨h1,h2⟩:=hc i (by omega);exact⟨by rw[h1,O3 _ _ _ hi],h2⟩
theorem se.atX{b:Nat}(h:se W0 w b gF gX N f x)(i:Nat)(hi:i<N):w.cell? ⟨gX,i,none⟩=some (.int .i64 (x i))/\w.frozen? ⟨gX,i,none⟩=false:=by
 obtain⟨g,e,_,_,hc⟩:=fG h.xs (by omega);injection e with e;injection e with e;subst e;obtain⟨h1,h2⟩:=hc i (by omega);exact⟨by rw[h1,O3 _ _ _ hi],h2⟩
theorem zj0:∀(args:Array Value) (W:World),(callFunc 182 args).run prog W=.ok (.enter 182 args) W:=fun _ _=>by rfl
def znT(W0 w:World)(b gF gX N:Nat)(f x:Nat->Int)(e:Ending)(w':World):Prop:=e=.returned (.tuple #[])/\se W0 w' b gF gX N f x/\Kept [] [gF,gX] w w'
theorem YY(W0 w:World)(b gF gX N:Nat)(f x:Nat->Int)(h:se W0 w b gF gX N f x)(i t:Nat)(hi:i<N)(ht:t<N):
  Calls prog 182 #[.int .i64 (i:Int),.int .i64 (t:Int),.pointer (some ⟨b,0,none⟩)] w (znT W0 w b gF gX N (fun j=>if j=t then (i:Int) else f j) (fun j=>if j=i then f t else x j)):=by
 have c0:w.cell? ⟨b,0,none⟩=some (.slice (some ⟨gF,0,none⟩) N N):=h.st.at_ 0;have c1:w.cell? ⟨b,1,none⟩=some (.slice (some ⟨gX,0,none⟩) N N):=h.st.at_ 1;obtain⟨d0,d1⟩:=h.atF t ht;obtain⟨d2,d3⟩:=h.atX i hi;have fT:gX≠b:=eI h.xs h.st (by decide) gX rfl;have cH:gF≠b:=eI h.fs h.st (by decide) gF rfl;have dY:b≠gX:=fun e=>fT e.symm
 have fV:b≠gF:=fun e=>cH e.symm
 have hF:=hid ((h.QH i hi (f t)).PB t ht (i:Int));have e1:gX≠gF:=fun e=>h.ne e.symm
 have e2:gF≠gX:=h.ne;have i1:(i:Int)<N:=by omega
 have i2:(t:Int)<N:=by omega
 clear h;generalize f t=ft at d0 hF⊢;generalize x i=xi at d2;go_in;go_wp2_with fail
 go_region
 go_wp2_with fail;go_end0;exact⟨rfl,hF.o.ae (Below.refl _ _).drew,(((Kept.refl _ _ _).setCell _ _ (inl (by simp))).setCell _ _ (inl (by simp))).drew⟩
def tD(D:Dd)(i c:Nat):Nat:=if i<D.n/\0<=D.nx i c then (D.nx i c).toNat else D.n
theorem GH(h:DR D C)(i c:Nat)(hc:c<C):tD D i c<D.n+1:=by
 unfold tD;split
 ·rename_i h1;have:=h.nx i c h1.1 hc;omega
 omega
def Zv(D:Dd)(c:Nat)(w:World)(e:Ending)(w':World):Prop:=
 ∃(gF gX:Nat) (f x:Nat->Int),e=.returned (.agg #[.slice (some ⟨gF,0,none⟩) (D.n+1) (D.n+1),.slice (some ⟨gX,0,none⟩) (D.n+1) (D.n+1)])/\
  w'.ownsRow w.heap.size 3 1 (.slice (some ⟨gF,0,none⟩) (D.n+1) (D.n+1)) (D.n+1) (qi f (D.n+1))/\w'.ownsRow w.heap.size 3 1 (.slice (some ⟨gX,0,none⟩) (D.n+1) (D.n+1)) (D.n+1) (qi x (D.n+1))/\
  (∀s,s<D.n+1->LL x (f s) (chain (fun i=>tD D i c) (D.n+1) s))/\Below w.heap.size w w'
theorem zfI(D:Dd)(C:Nat)(hR:DR D C)(c:Nat)(hc:c<C)(w:World)(hD:DM w D):
  Calls prog 162 #[.agg D.cD,.int .i64 (c:Int)] w (Zv D c w):=by
 have dd:=hR.n2;obtain⟨N,hN⟩:=Ξ (D.n+1)
 have qB:Hid (∀(W:World) (g:Nat),W.cell? ⟨g,0,none⟩=some (.int .i64 (-1))->g<W.heap.size->Calls prog 181 #[.slice (some ⟨g,0,none⟩) 1 1,.int .i64 ((D.n:Int)+1)] W (QK N W)):=fun W g h1 h2=>by
  have:=zka N (by omega) (by omega) g W h1 h2;rw[<-hN] at this⊢;exact this
 have HD:=hid hD;have HB:=ψ (dD.new hD) (al w (.cells D.cD 101)) hR hN;clear hD hR hN;go_in;go_upto_region 1 with fail;obtain⟨W1,qa⟩:=Ξ ((w.alloc (.cells D.cD 101)).alloc (.cells #[.slice none 0 0,.slice none 0 0] 210))
 obtain⟨b0,bz⟩:=Ξ w.heap.size
 have H1:Hid (dD W1 b0 D/\St W1 210 (b0+1) #[.slice none 0 0,.slice none 0 0]/\Below b0 w W1):=by
  have k2:=al (w.alloc (.cells D.cD 101)) (.cells #[.slice none 0 0,.slice none 0 0] 210);rw[<-qa,<-bz];refine⟨HB.o.1.ae k2,?_,HB.o.2.1.trans (k2.mono (by simp))⟩;have:=St.new (w.alloc (.cells D.cD 101)) 210 #[.slice none 0 0,.slice none 0 0];rw[show (w.alloc (.cells D.cD 101)).heap.size=w.heap.size+1 by simp] at this;exact this
 have eY:=hid bz;rw[qa,bz];clear qa bz;have c1:=H1.o.1.f1;go_wp2_with fail;refine (qB.o _ _ (by exact cell_one_new _ _ _ 0 _ rfl) (by simp)).mono ?_;rintro e w5 ⟨gF,rfl,o5,b5⟩;obtain⟨W5,Gc⟩:∃W5,W5=w5:=⟨_,rfl⟩
 have H5:Hid (w5.ownsRow b0 3 1 (.slice (some ⟨gF,0,none⟩) N N) N (qi (fun _=>-1) N)/\St w5 210 (b0+1) #[.slice none 0 0,.slice none 0 0]/\Below b0 w w5/\gF<w5.heap.size/\Below W1.heap.size W1 w5):=by
  have k1:=al W1 (.cells #[.int .i64 (-1)] 3);have my:=H1.o.2.2.size;have oY:b0<=W1.heap.size:=by have:=H1.o.2.1.lt;omega
  rw[ZO] at o5;exact⟨jH o5 (by simp;omega),(H1.o.2.1.ae k1).ae b5,H1.o.2.2.trans ((k1.mono oY).trans (b5.mono (by simp;omega))),me o5 gF rfl,k1.trans (b5.mono (by simp))⟩
 clear o5 b5 Gc W5;go_wp2_with fail;refine (qB.o _ _ (by exact cell_one_new _ _ _ 0 _ rfl) (by simp)).mono ?_;rintro e w6 ⟨gX,rfl,o6,b6⟩;have H6:Hid (w6.ownsRow b0 3 1 (.slice (some ⟨gF,0,none⟩) N N) N (qi (fun _=>-1) N)/\w6.ownsRow b0 3 1 (.slice (some ⟨gX,0,none⟩) N N) N (qi (fun _=>-1) N)/\St w6 210 (b0+1) #[.slice none 0 0,.slice none 0 0]/\Below b0 w w6/\gF≠gX/\Below W1.heap.size W1 w6):=by
  have k1:=al w5 (.cells #[.int .i64 (-1)] 3);have oY:b0<=w5.heap.size:=by have:=H5.o.2.1.lt;omega
  rw[ZO] at o6;have Kg:=ln o6 gX rfl;have aq:=H5.o.2.2.2.1;refine⟨dE (dE H5.o.1 k1) b6,jH o6 (by simp;omega),(H5.o.2.1.ae k1).ae b6,H5.o.2.2.1.trans ((k1.mono oY).trans (b6.mono (by simp;omega))),?_,H5.o.2.2.2.2.trans ((k1.mono H5.o.2.2.2.2.size).trans (b6.mono (by have:=H5.o.2.2.2.2.size;simp;omega)))⟩;rw[show (w5.alloc (.cells #[.int .i64 (-1)] 3)).heap.size=w5.heap.size+1 by simp] at Kg;omega
 clear o6 b6 H5 c1;go_upto_region 3 with fail;obtain⟨W7,Sf⟩:=Ξ (w6.alloc (.cells #[.slice (some ⟨gF,0,none⟩) N N,.slice (some ⟨gX,0,none⟩) N N] 210))
 obtain⟨b6,eJ⟩:=Ξ w6.heap.size
 have H7:Hid (se w W7 b6 gF gX N (fun _=>-1) (fun _=>-1)/\St W7 210 (b0+1) #[.slice none 0 0,.slice none 0 0]/\b0+1≠b6/\Below W1.heap.size W1 W7):=by
  have k1:=al w6 (.cells #[.slice (some ⟨gF,0,none⟩) N N,.slice (some ⟨gX,0,none⟩) N N] 210);have oY:=H6.o.2.2.1.lt;rw[<-Sf,<-eJ];refine⟨⟨?_,St.new _ _ _,?_,?_,H6.o.2.2.2.2.1,?_⟩,H6.o.2.2.1.ae k1,by omega,H6.o.2.2.2.2.2.trans (k1.mono (H6.o.2.2.2.2.2.size))⟩
  ·rw[eY.o];exact H6.o.2.2.2.1.trans (k1.mono (by omega))
  ·rw[eY.o];exact dE H6.o.1 k1
  ·rw[eY.o];exact dE H6.o.2.1 k1
  rw[eY.o];omega
 rw[Sf,eJ];clear Sf eJ H6;have eR:=zj0;have HN:=HB.o.2.2.2;have c1:W7.cell? ⟨b0,256,none⟩=some (.slice D.aN D.n D.cN):=(H7.o.2.2.2.cell (p:=⟨b0,256,none⟩) H1.o.1.st.lt).trans H1.o.1.f1;go_wp2;go_loopw [8,9,10,27] (fun _ _ _ vk wr=>∃k:Nat,vk=.int .i64 k/\k<=D.n/\Hid (∃f x,se w wr b6 gF gX N f x/\St wr 210 (b0+1) #[.slice none 0 0,.slice none 0 0]/\∀s,s<N->LL x (f s) (chain (fun i=>tD D i c) k s))) (fun _ _ _ v _=>D.n-(intOf v).toNat)
 ·exact⟨0,rfl,zero_le _,_,_,H7.o.1,H7.o.2.1,fun s _=>rfl⟩
 obtain⟨k,rfl,hk,HL⟩:=hrel;by_cases aq:k<D.n
 ·obtain⟨f,x,Ap,tj,Cw⟩:=HL.o;obtain⟨gN,oN,eN,_,rF⟩:=(HD.o.rN.below Ap.bc) (by omega);obtain⟨cN,zN⟩:=rF k aq;rw[HB.o.2.2.1.len k aq] at cN zN;have LG:0<C:=by omega
  obtain⟨gA,oA,eA,_,p9⟩:=zN LG;have cA:=p9 c hc;rw[eA] at cN;have zQ:=HB.o.2.2.1.nx k c aq hc;obtain⟨t,ht⟩:=Ξ (tD D k c)
  have Dz:t<N:=by rw[<-ht,<-HN];exact GH HB.o.2.2.1 k c hc
  have HC:=hid (YY w wr b6 gF gX N f x Ap k t (by omega) Dz);have Hs:=hid (LL.link (t:=fun i=>tD D i c) (k:=k) Cw (by show tD D k c<N;rw[ht];exact Dz));have sd:b0+1≠gF:=fun e=>eI Ap.fs tj (by decide) gF rfl e.symm
  have kO:b0+1≠gX:=fun e=>eI Ap.xs tj (by decide) gX rfl e.symm
  have A3:Hid (∀w',Kept [] [gF,gX] wr w'->St w' 210 (b0+1) #[.slice none 0 0,.slice none 0 0]):=fun w' hk=>tj.kept hk (by simp) (by simp[sd,kO])
  have Ht:=hid ht;have Wd:(D.nx k c=-1/\t=D.n)\/(D.nx k c≠-1/\D.nx k c=(t:Int)):=by
   rw[<-ht];unfold tD;by_cases h0:D.nx k c=-1
   ·exact inl ⟨h0,by rw[if_neg (by omega)]⟩
   exact inr ⟨h0,by rw[if_pos ⟨aq,by omega⟩];omega⟩
  have i1:(k:Int)<(D.n:Int):=by omega
  have i2:(c:Int)<C:=by omega
  rw[eN];have Db:=hid eN;generalize D.nx k c=nx at cA Wd;clear rF zN p9 Ap tj Cw zQ ht eA HL c1 HN eN sd kO;rcases Wd with ⟨rfl,rfl⟩|⟨h0,rfl⟩
  ·go_wp2_with fail;refine HC.o.mono ?_;rintro e w8 ⟨rfl,pV,yC⟩;have H8:=ζ pV (A3.o _ yC);clear pV yC HC cN cA;go_wp2;go_roundw
   ·refine⟨k+1,by go_num,by omega,_,_,H8.o.1,H8.o.2,fun s hs=>?_⟩;have:=Hs.o s hs;simp only[Ht.o] at this;exact this
   simp[intOf];omega
  have i3:((t:Int) == -1)=false:=by rw[beq_eq_false_iff_ne];omega
  go_wp2_with fail;refine HC.o.mono ?_;rintro e w8 ⟨rfl,pV,yC⟩;have H8:=ζ pV (A3.o _ yC);clear pV yC HC cN cA;go_wp2;go_roundw
  ·refine⟨k+1,by go_num,by omega,_,_,H8.o.1,H8.o.2,fun s hs=>?_⟩;have:=Hs.o s hs;simp only[Ht.o] at this;exact this
  simp[intOf];omega
 obtain rfl:k=D.n:=by omega
 obtain⟨f,x,Ap,tj,Cw⟩:=HL.o;have Qq:tD D D.n c=D.n:=by unfold tD;rw[if_neg (by omega)]
 have HC:=hid (YY w wr b6 gF gX N f x Ap D.n D.n (by omega) (by omega));have Hs:=hid (LL.link (t:=fun i=>tD D i c) (k:=D.n) Cw (by show tD D D.n c<N;rw[Qq];omega));have sd:b0+1≠gF:=fun e=>eI Ap.fs tj (by decide) gF rfl e.symm
 have kO:b0+1≠gX:=fun e=>eI Ap.xs tj (by decide) gX rfl e.symm
 have A3:Hid (∀w',Kept [] [gF,gX] wr w'->St w' 210 (b0+1) #[.slice none 0 0,.slice none 0 0]):=fun w' hk=>tj.kept hk (by simp) (by simp[sd,kO])
 have Htn:=hid Qq;have GI:=hid HN;clear Ap tj Cw Qq HL c1 HN sd kO;go_wp2_with fail;refine HC.o.mono ?_;rintro e w8 ⟨rfl,pV,yC⟩;have yf:=A3.o _ yC;have s0:w8.cell? ⟨b6,0,none⟩=some (.slice (some ⟨gF,0,none⟩) N N):=pV.st.at_ 0;have s1:w8.cell? ⟨b6,1,none⟩=some (.slice (some ⟨gX,0,none⟩) N N):=pV.st.at_ 1;have s2:w8.cell? ⟨b0+1,0,none⟩=some (.slice none 0 0):=yf.at_ 0;have s3:w8.cell? ⟨b0+1,1,none⟩=some (.slice none 0 0):=yf.at_ 1;have z2:=yf.bE 0;have z3:=yf.bE 1;have H8:=ζ pV yf;clear pV yf yC HC;have HF:Hid (Zv D c w (.returned (.agg #[.slice (some ⟨gF,0,none⟩) N N,.slice (some ⟨gX,0,none⟩) N N])) ((w8.setCell ⟨b0+1,0,none⟩ (.slice (some ⟨gF,0,none⟩) N N)).setCell ⟨b0+1,1,none⟩ (.slice (some ⟨gX,0,none⟩) N N))):=by
  have hk:Kept [] [b0+1] w8 ((w8.setCell ⟨b0+1,0,none⟩ (.slice (some ⟨gF,0,none⟩) N N)).setCell ⟨b0+1,1,none⟩ (.slice (some ⟨gX,0,none⟩) N N)):=((Kept.refl _ _ _).setCell _ _ (inl (by simp))).setCell _ _ (inl (by simp));have o1:=gk H8.o.1.fs hk (by simp) (fun g e hm=>eI H8.o.1.fs H8.o.2 (by decide) g e (List.mem_singleton.1 hm));have o2:=gk H8.o.1.xs hk (by simp) (fun g e hm=>eI H8.o.1.xs H8.o.2 (by decide) g e (List.mem_singleton.1 hm));refine⟨gF,gX,_,_,by rw[GI.o],by rw[GI.o];exact o1,by rw[GI.o];exact o2,fun s hs=>?_,?_⟩
  ·have:=Hs.o s (by rw[<-GI.o];exact hs);simp only[Htn.o] at this;exact this
  have hb:=eY.o;exact (H8.o.1.bc.setCell (p:=⟨b0+1,0,none⟩) (by show w.heap.size<=b0+1;omega) _).setCell (p:=⟨b0+1,1,none⟩) (by show w.heap.size<=b0+1;omega) _
 go_wp2_with fail;refine bodyPost_ret (v:=.agg #[.slice (some ⟨gF,0,none⟩) N N,.slice (some ⟨gX,0,none⟩) N N]) (by simp[results,results162,go_sem,z2,z3,s2,s3]) rfl ?_;exact HF.o
def jW(t:Nat->Nat)(N:Nat)(T:List Nat):List Nat:=T.flatMap (chain t N)
theorem PN(t:Nat->Nat)(N:Nat)(T:List Nat)(i:Nat):i∈jW t N T↔i<N/\t i∈T:=by
 unfold jW;rw[List.mem_flatMap];constructor
 ·rintro⟨s,hs,h⟩;obtain⟨h1,h2⟩:=(Jy t N s i).1 h;exact⟨h1,by rw[h2];exact hs⟩
 rintro⟨h1,h2⟩;exact⟨t i,h2,(Jy t N _ i).2 ⟨h1,rfl⟩⟩
theorem zeX(t:Nat->Nat)(N:Nat):∀(T:List Nat),T.Nodup->(jW t N T).Nodup:=by
 intro T
 induction T with
 | nil=>intro _;simp[jW]
 | cons s T ih=>
  intro h;have h2:=List.nodup_cons.1 h;show (chain t N s++jW t N T).Nodup;rw[List.nodup_append];refine⟨zhF t N s,ih h2.2,fun a ha b hb e=>?_⟩;subst e;have h3:=((Jy t N s a).1 ha).2;have h4:=((PN t N T a).1 hb).2;rw[h3] at h4;exact h2.1 h4
theorem zlP(t:Nat->Nat)(N:Nat)(T:List Nat)(k:Nat)(h:k<T.length):jW t N (T.take (k+1))=jW t N (T.take k)++chain t N T[k]:=by
 unfold jW;rw[Nt _ _ h,pZ _ _ _ h,List.flatMap_append];simp
structure mg (V:World)(B:Nat)(ls:List Nat)(l:List Nat)(v:Value)(w:World):Prop where
 kept:Kept [] ls V w
 below:Below B V w
 own:w.ownsRow B 3 1 v l.length (dv l)
 loc:∀g,v.ownBlock=some g->g∈ls\/V.heap.size<=g
 lo:B<=V.heap.size
theorem mg.ae{v:Value}(h:mg V B ls l v w)(k:Below w.heap.size w w1):mg V B ls l v w1:=
 ⟨h.kept.below k,h.below.trans (k.mono (le_trans h.lo h.below.size)),dE h.own k,h.loc,h.lo⟩
theorem mg.app{V:World}{B q:Nat}{ls l:List Nat}{v v':Value}{w w':World}{x:Nat}(h:mg V B ls l v w)(hq:l.length=q)(ho:w'.ownsRow B 3 1 v' (q+1) (dv l++[.int .i64 (x:Int)]))(hg:w.grownBy w' v.ownBlock)(fD:v'.ownBlock=v.ownBlock\/v'.ownBlock=some w.heap.size):mg V B ls (l++[x]) v' w':=by
 subst hq;have hB:B<=w.heap.size:=le_trans h.lo h.below.size;refine⟨h.kept.grown hg (fun g e=>(h.loc g e).elim inl (fun x=>inr (inl x))),gu h.below h.own hB hg,?_,fun g e=>?_,h.lo⟩
 ·rw[Ad,List.length_append];exact ho
 rcases fD with e1|e1
 ·exact h.loc g (by rw[<-e1];exact e)
 rw[e] at e1;injection e1 with e1;exact inr (by have:=h.below.size;omega)
def FA:Value->Nat
 | .slice _ n _=>n
 | _=>0
def Uu(B:Nat)(ls l:List Nat)(w:World)(e:Ending)(w':World):Prop:=∃a c,e=.returned (.slice a l.length c)/\mg w B ls l (.slice a l.length c) w'
theorem znU(N:Nat)(hN:N<=100000)(t:Nat->Nat)(ht:∀i,i<N->t i<N)(f x:Nat->Int)(Cw:∀s,s<N->LL x (f s) (chain t N s))(gF gX:Nat)(B B1:Nat)(aS:Option Addr)(cS:Nat)(T:List Nat)(m:Nat)(hm:T.length=m)(hT:T.Nodup)(PL:∀s∈T,s<N)(aT:Option Addr)(cT:Nat)(w:World)
  (oF:w.ownsRow B1 3 1 (.slice (some ⟨gF,0,none⟩) N N) N (qi f N)) (oX:w.ownsRow B1 3 1 (.slice (some ⟨gX,0,none⟩) N N) N (qi x N)) (oS:w.ownsRow B 3 1 (.slice aS 0 cS) 0 []) (hB:B<=w.heap.size) (hL:pe w aT T)
  (ls:List Nat) (xQ:ls=(Value.slice aS 0 cS).ownBlock.toList) (nF:gF∉ls) (nX:gX∉ls) (nT:∀ad,aT=some ad->ad.block∉ls):
  Calls prog 164 #[.agg #[.slice (some ⟨gF,0,none⟩) N N,.slice (some ⟨gX,0,none⟩) N N],.slice aS 0 cS,.slice aT m cT] w (Uu B ls (jW t N T) w):=by
 have WI:m<=N:=by rw[<-hm];exact rb hT PL
 have Ac:∀k,k<=m->(jW t N (T.take k)).length<=N:=fun k hk=>rb (zeX t N _ (hT.sublist (List.take_sublist _ _))) (fun i hi=>((PN t N _ i).1 hi).1)
 have D7:∀g∈ls,g<w.heap.size:=fun g hg=>by
  rw[xQ] at hg;exact me oS g (by simpa using hg)
 have h0:mg w B ls [] (.slice aS 0 cS) w:=⟨Kept.refl _ _ _,Below.refl _ _,oS,fun g e=>inl (by rw[xQ];simpa using e),hB⟩
 have k1:=al w (.cells #[.slice (some ⟨gF,0,none⟩) N N,.slice (some ⟨gX,0,none⟩) N N] 210);have LG:=h0.ae k1;have I6:=St.new w 210 #[.slice (some ⟨gF,0,none⟩) N N,.slice (some ⟨gX,0,none⟩) N N];have HX:=hid (Zz ht (Zz Cw (Zz hm (Zz hT (Zz PL (Zz oF (Zz oX (Zz hL (Zz nF (Zz nX (Zz nT (Zz Ac D7))))))))))));obtain⟨b3,dY⟩:=Ξ w.heap.size
 have Kd:b3∉ls:=fun mC=>by have:=D7 b3 mC;omega
 rw[dY] at I6;have H1:=ξ LG I6 Kd;have qG:=hid dY;clear ht Cw hm hT PL oF oX oS hB hL xQ nF nX nT Ac D7 h0 k1 LG I6 Kd;go_in;go_upto_region 1 with fail;generalize w.alloc (.cells #[.slice (some ⟨gF,0,none⟩) N N,.slice (some ⟨gX,0,none⟩) N N] 210)=W1 at H1⊢;clear dY;go_wp2;go_loopw [1,8,9,12] (fun v1 _ _ vk wr=>∃(k p:Nat) (a:Option Addr) (c:Nat),vk=.int .i64 k/\k<=m/\p<=N/\v1=.slice a p c/\Hid ((jW t N (T.take k)).length=p/\mg w B ls (jW t N (T.take k)) (.slice a p c) wr/\St wr 210 b3 #[.slice (some ⟨gF,0,none⟩) N N,.slice (some ⟨gX,0,none⟩) N N])) (fun _ _ _ v _=>m-(intOf v).toNat)
 ·exact⟨0,0,aS,cS,rfl,zero_le _,zero_le _,rfl,rfl,H1.o.1,H1.o.2.1⟩
 obtain⟨k,p,a,c,rfl,hk,hpN,rfl,HL⟩:=hrel;by_cases aq:k<m
 ·have hkl:k<T.length:=by rw[HX.o.2.2.1];exact aq
  obtain⟨gT,oT,eT,_,qO⟩:=(pe.vl HX.o.2.2.2.2.2.2.2.1 HL.o.2.1.kept HL.o.2.1.below.size HX.o.2.2.2.2.2.2.2.2.2.2.1) (by omega);have RS:wr.cell? ⟨gT,oT+k,none⟩=some (.int .i64 (T.getD k 0)):=qO k hkl;rw[pZ _ _ _ hkl] at RS;have Pf:=HX.o.2.2.2.2.1 _ (List.getElem_mem hkl);have cU:=zlP t N T k hkl;have Di:=HX.o.2.1 _ Pf;have za:=HX.o.2.2.2.2.2.2.2.2.2.2.2.1 (k+1) (by omega);rw[cU] at za;have E2:=hid cU;obtain⟨s,hs⟩:=Ξ (T[k])
  rw[hs] at RS Pf Di za E2;clear hs cU qO;obtain⟨P0,J4⟩:=Ξ (jW t N (T.take k))
  rw[J4] at za E2 HL;obtain⟨cF,TP⟩:∃cF:Nat->Int,cF=f:=⟨f,rfl⟩
  have Vy:=gk HX.o.2.2.2.2.2.1 HL.o.2.1.kept (by simp) (fun g e mC=>by simp[ownBlock] at e;rw[<-e] at mC;exact HX.o.2.2.2.2.2.2.2.2.1 mC);obtain⟨gF',eF,_,_,cFr⟩:=fG Vy (by omega);injection eF with eF;injection eF with eF;subst eF;have d0:=(cFr s (by omega)).1;rw[O3 _ _ _ Pf] at d0;have s0:wr.cell? ⟨b3,0,none⟩=some (.slice (some ⟨gF,0,none⟩) N N):=HL.o.2.2.at_ 0;have i1:(k:Int)<m:=by omega
  have i2:(s:Int)<N:=by omega
  rw[eT];have HeT:=hid eT;have Sb:=ζ Di za;clear cFr Vy eT Di za J4 TP;obtain⟨fs,kK⟩:=Ξ (f s)
  rw[kK] at d0 Sb;clear kK;go_wp2_with fail;obtain⟨W9,hW9⟩:∃W9,W9=wr:=⟨wr,rfl⟩
  clear hW9 W9 d0 s0 RS;go_loopw [1,9] (fun v1 v9 wq=>∃(u:Int) (dn rest:List Nat) (p2:Nat) (a2:Option Addr) (c2:Nat),v9=.int .i64 u/\p2<=N/\v1=.slice a2 p2 c2/\Hid (chain t N s=dn++rest/\LL x u rest/\(P0++dn).length=p2/\mg w B ls (P0++dn) (.slice a2 p2 c2) wq/\St wq 210 b3 #[.slice (some ⟨gF,0,none⟩) N N,.slice (some ⟨gX,0,none⟩) N N])) (fun v1 _ _=>N-FA v1)
  ·exact⟨fs,[],chain t N s,p,a,c,rfl,hpN,rfl,rfl,Sb.o.1,by simpa using HL.o.1,by simpa using HL.o.2.1,HL.o.2.2⟩
  obtain⟨u,dn,rest,p2,a2,c2,rfl,fR,rfl,HK⟩:=hrel;rcases rest with _|⟨y,rest⟩
  ·obtain rfl:u=-1:=HK.o.2.1;have HZ:Hid (jW t N (T.take (k+1))=P0++dn):=by
    show _=_;rw[E2.o,HK.o.1,List.append_nil]
   have zD:Hid ((P0++dn).length=p2/\mg w B ls (P0++dn) (.slice a2 p2 c2) wr/\St wr 210 b3 #[.slice (some ⟨gF,0,none⟩) N N,.slice (some ⟨gX,0,none⟩) N N]):=HK.o.2.2;clear HK HL;go_wp2;go_roundw
   ·exact⟨k+1,p2,a2,c2,by go_num,by omega,fR,rfl,by rw[HZ.o];exact zD.o⟩
   simp[intOf];omega
  obtain⟨rfl,Lt⟩:u=(y:Int)/\LL x (x y) rest:=HK.o.2.1;have hy:y∈chain t N s:=by rw[HK.o.1];simp
  have hyN:=((Jy t N s y).1 hy).1;have ik:p2+1<=N:=by
   have h1:=Sb.o.2;rw[HK.o.1] at h1;have h2:=HK.o.2.2.1;simp at h1 h2;omega
  have oXr:=gk HX.o.2.2.2.2.2.2.1 HK.o.2.2.2.1.kept (by simp) (fun g e mC=>by simp[ownBlock] at e;rw[<-e] at mC;exact HX.o.2.2.2.2.2.2.2.2.2.1 mC);have HoX:=hid oXr;have hO:=HK.o.2.2.2.1.own;rw[HK.o.2.2.1] at hO;have ur:B<=wr.heap.size:=le_trans HK.o.2.2.2.1.lo HK.o.2.2.2.1.below.size;obtain⟨i0,hi,dP,dc,db⟩:=info_parts aH;have i3:((y:Int) != -1)=true:=by first|(simp;done)|(simp;omega)
  have i4:(y:Int)<N:=by omega
  have XW:=hid Lt;clear hy oXr Lt;go_wp2_with (at_builtin;refine wpList_append_own_at _ rfl _ _ 43 rfl B 3 i0 (.int .i64 0) 1 8 underlying43 hi dP dc db rfl (by decide) _ _ _ rfl (hO.alloc _) ⟨wr.heap.size,0,none⟩ 1 1 [.int .i64 (y:Int)] rfl rfl (cell_one_new _ _ _) ?d2 ?d3 ?d4 ?d5 ?_)
  case d2=>first|(intro u hu;simp at hu;subst hu;rfl)|rfl
  case d3=>unfold maxLen;omega
  case d4=>omega
  case d5=>first|(simp;omega)|omega
  intro v' w5 ak aj _ bW;obtain⟨a5,c5,rfl⟩:=cy ak;have EB:Hid (mg w B ls (P0++(dn++[y])) (.slice a5 (p2+1) c5) w5/\St w5 210 b3 #[.slice (some ⟨gF,0,none⟩) N N,.slice (some ⟨gX,0,none⟩) N N]):=by
   have h2:=HK.o.2.2.2.1.ae (al wr (.cells #[.int .i64 (y:Int)] 3));have h3:=h2.app (v':=.slice a5 (p2+1) c5) HK.o.2.2.1 ak aj (by
    rw[show (wr.alloc (.cells #[.int .i64 (y:Int)] 3)).heap.size=wr.heap.size+1 by simp]
    exact bW)
   rw[<-List.append_assoc];exact⟨h3,(HK.o.2.2.2.2.alloc _).af (hO.alloc _) (by decide) aj⟩
  have s1:w5.cell? ⟨b3,1,none⟩=some (.slice (some ⟨gX,0,none⟩) N N):=EB.o.2.at_ 1;have WK:=gk HX.o.2.2.2.2.2.2.1 EB.o.1.kept (by simp) (fun g e mC=>by simp[ownBlock] at e;rw[<-e] at mC;exact HX.o.2.2.2.2.2.2.2.2.2.1 mC);obtain⟨gX',eX,_,_,XA⟩:=fG WK (by omega);injection eX with eX;injection eX with eX;subst eX;have d1:=(XA y (by omega)).1;rw[O3 _ _ _ hyN] at d1;obtain⟨xy,hxy⟩:=Ξ (x y)
  rw[hxy] at d1 XW;have DI:Hid (chain t N s=(dn++[y])++rest/\(P0++(dn++[y])).length=p2+1):=by
   have h1:=HK.o.1;have h2:=HK.o.2.2.1;refine⟨by rw[h1];simp,?_⟩;simp at h2⊢;omega
  clear ak aj bW WK XA hxy hO HK HoX;go_wp2;go_roundw
  ·exact⟨xy,dn++[y],rest,p2+1,a5,c5,rfl,ik,rfl,DI.o.1,XW.o,DI.o.2,EB.o.1,EB.o.2⟩
  simp[FA];omega
 obtain rfl:k=m:=by omega
 have HF:Hid (Uu B ls (jW t N T) w (.returned (.slice a p c)) wr):=by
  have h1:=HL.o;rw[take_of_length_le (by rw[HX.o.2.2.1];exact le_refl _)] at h1;refine⟨a,c,by rw[h1.1],?_⟩;rw[h1.1];exact h1.2.1
 clear HL;go_wp2;go_ret;exact HF.o
theorem bJ.vl{b:Nat}{w':World}(h:bJ V B bs b v vS P w)(k:Kept [] ls w w')(hB:Below B w w')(h1:∀x∈ls,x∉bI b v vS)(h2:∀x∈ls,V.heap.size<=x\/x∈bs):bJ V B bs b v vS P w':=by
 refine⟨fun g o hg ho hn=>?_,h.below.trans hB,h.st.kept k (by simp) (fun hm=>h1 _ hm (xn.2 (inl rfl))),fun i hi=>gk (h.row i hi) k (by simp) (fun g e hm=>h1 _ hm (xn.2 (inr (inr ⟨i,hi,e⟩)))),h.sep,gk h.pq k (by simp) (fun g e hm=>h1 _ hm (xn.2 (inr (inl e)))),h.loc,h.nc,h.ko,h.lo⟩;refine k g o (h.kept g o hg ho hn) ho (fun hm=>?_);rcases h2 g hm with h3|h3
 ·have:=(Array.getElem?_eq_some_iff.1 hg).1;omega
 exact hn h3
theorem bJ.blt{b:Nat}(h:bJ V B bs b v vS P w):∀x∈bI b v vS,x<w.heap.size:=fun x hx=>by
 rcases xn.1 hx with rfl|e|⟨i,hi,e⟩
 ·exact h.st.lt
 ·exact me h.pq x e
 ·exact me (h.row i hi) x e
def mD(D:Dd)(i:Nat):Int:=if i<D.n then D.q i else -1
def r8(D:Dd)(μ:Int):List Nat:=(range D.n).filter fun i=>D.q i == μ
theorem Pe(D:Dd)(μ:Int)(i:Nat):i∈r8 D μ↔i<D.n/\D.q i=μ:=by simp[r8]
theorem OM(D:Dd)(μ:Int):(r8 D μ).Nodup:=List.Nodup.sublist List.filter_sublist List.nodup_range
theorem zqr(D:Dd)(μ:Int):(r8 D μ).length<=D.n:=rb (OM D μ) (fun i hi=>((Pe D μ i).1 hi).1)
theorem OG(D:Dd)(μ:Int)(h:0<=μ)(i:Nat):i∈r8 D μ↔mD D i=μ:=by
 rw[Pe];unfold mD;split
 ·rename_i h1;exact⟨fun h=>h.2,fun h=>⟨h1,h⟩⟩
 rename_i h1;exact⟨fun h=>absurd h.1 h1,fun h=>by omega⟩
structure zq (D:Dd)(C:Nat)(P:Pt)(ms:List Int):Prop where
 h:iY (D.n+1) C (tD D) (mD D) P C (fun _=>False)
 m:∀μ∈ms,∀x y,x<D.n+1->y<D.n+1->P.b x=P.b y->(mD D x=μ↔mD D y=μ)
 mu:P.mu (D.n+1)=D.n
theorem zq.start(D:Dd)(C:Nat):zq D C (fX (D.n+1)) []:=⟨iY.start (by omega),fun μ h=>by simp at h,by rw[znG _ (by omega)];omega⟩
theorem zq.step{D:Dd}{C:Nat}{P:Pt}{ms:List Int}(hR:DR D C)(h:zq D C P ms)(μ:Int)(hμ:0<=μ):zq D C (nC P (r8 D μ)) (ms++[μ]):=by
 have hl:∀x∈r8 D μ,x<D.n+1:=fun x hx=>by have:=((Pe D μ x).1 hx).1;omega
 have hd:=Kx h.h.pz (r8 D μ) (OM D μ) hl;refine⟨h.h.zO (fun x c _ hc=>GH hR x c hc) _ (OM D μ) hl (fun x y hx hy he=>by rw[OG D μ hμ,OG D μ hμ,he.mark]),fun ν hν x y hx hy hb=>?_,by rw[hd.mu];exact h.mu⟩;have h2:=(hd.b x y hx hy).1 hb;rcases List.mem_append.1 hν with h3|h3
 ·exact h.m ν h3 x y hx hy h2.1
 rw[List.mem_singleton.1 h3,<-OG D μ hμ,<-OG D μ hμ];exact h2.2
theorem zq.done{ms:List Int}(hR:DR D C)(h:zq D C P ms)(nK:∀μ∈ms,0<=μ)(eO:∀i,i<D.n->0<=D.q i->D.q i∈ms):∀x y,x<D.n+1->y<D.n+1->P.b x=P.b y->mD D x=mD D y:=by
 have one:∀x y,x<D.n+1->y<D.n+1->P.b x=P.b y->mD D x≠-1->mD D x=mD D y:=fun x y hx hy hb hne=>by
  have kE:x<D.n:=by
   refine(Classical.byContradiction fun h0=>hne ?_);unfold mD;rw[if_neg h0]
  have hq:mD D x=D.q x:=by unfold mD;rw[if_pos kE]
  have:=hR.q x kE;have hm:=eO x kE (by omega);rw[<-hq] at hm;exact ((h.m _ hm x y hx hy hb).1 rfl).symm
 intro x y hx hy hb;by_cases h1:mD D x=-1
 ·by_cases h2:mD D y=-1
  ·rw[h1,h2]
  exact (one y x hy hx hb.symm h2).symm
 exact one x y hx hy hb h1
def RZ(D:Dd)(w:World)(e:Ending)(w':World):Prop:=
 ∃(ms:List Int) (aM:Option Addr) (cM:Nat) (A:Nat->Option Addr) (Cp:Nat->Nat),e=.returned (.slice aM ms.length cM)/\(∀μ∈ms,0<=μ)/\(∀i,i<D.n->0<=D.q i->D.q i∈ms)/\ms.length<=D.n/\Below w.heap.size w w'/\
  w'.ownsRow w.heap.size 43 1 (.slice aM ms.length cM) ms.length ((range ms.length).map fun j=>.slice (A j) (r8 D (ms.getD j 0)).length (Cp j))/\
  ∀j,j<ms.length->w'.ownsRow w.heap.size 3 1 (.slice (A j) (r8 D (ms.getD j 0)).length (Cp j)) (r8 D (ms.getD j 0)).length (dv (r8 D (ms.getD j 0)))
def Rj(D:Dd)(C:Nat)(w:World)(e:Ending)(w':World):Prop:=
 ∃(bl:List Nat) (a:Option Addr) (c:Nat),e=.returned (.slice a (D.n+1) c)/\bl.length=D.n+1/\(∀x∈bl,x<=D.n+1)/\D.n+1<=c/\w'.ownsRow w.heap.size 3 1 (.slice a (D.n+1) c) (D.n+1) (dv bl)/\
  (∀x y,x<D.n+1->y<D.n+1->(bl.getD x 0=bl.getD y 0↔nI C (tD D) (mD D) x y))/\Below w.heap.size w w'
theorem vZ:(prog.info? 210).map (fun i=>(i.zero,i.size,i.bytes))=some (some (.agg #[.slice none 0 0,.slice none 0 0]),2,48):=by kernel_rfl
def uz(N:Nat)(gF gX:Nat->Nat):Nat->List Value
 | 0=>[]
 | c+1=>uz N gF gX c++[.slice (some ⟨gF c,0,none⟩) N N,.slice (some ⟨gX c,0,none⟩) N N]
theorem zqs(N:Nat)(gF gX:Nat->Nat)(c:Nat):(uz N gF gX c).length=c*2:=by
 induction c with
 | zero=>rfl
 | succ c ih=>simp[uz,ih];omega
theorem zgF(N:Nat){gF gX gF' gX':Nat->Nat}:∀(c:Nat),(∀i,i<c->gF i=gF' i/\gX i=gX' i)->uz N gF gX c=uz N gF' gX' c
 | 0,_=>rfl
 | c+1,h=>by
   unfold uz
   rw[zgF N c (fun i hi=>h i (by omega)),(h c (by omega)).1,(h c (by omega)).2]
theorem Wa(N:Nat)(gF gX:Nat->Nat)(c i:Nat)(h:i<c):(uz N gF gX c)[i*2]?=some (.slice (some ⟨gF i,0,none⟩) N N)/\(uz N gF gX c)[i*2+1]?=some (.slice (some ⟨gX i,0,none⟩) N N):=by
 induction c with
 | zero=>omega
 | succ c ih=>
  have hl:=zqs N gF gX c;unfold uz;by_cases e:i=c
  ·subst e;rw[List.getElem?_append_right (by omega),List.getElem?_append_right (by omega),hl];simp
  rw[List.getElem?_append_left (by omega),List.getElem?_append_left (by omega)];exact ih (by omega)
structure Aq (D:Dd)(N:Nat)(W3:World)(c:Nat)(vB:Value)(gF gX:Nat->Nat)(f x:Nat->Nat->Int)(w:World):Prop where
 below:Below W3.heap.size W3 w
 own:w.ownsRow W3.heap.size 210 2 vB c (uz N gF gX c)
 F:∀i,i<c->w.ownsRow W3.heap.size 3 1 (.slice (some ⟨gF i,0,none⟩) N N) N (qi (f i) N)
 X:∀i,i<c->w.ownsRow W3.heap.size 3 1 (.slice (some ⟨gX i,0,none⟩) N N) N (qi (x i) N)
 L:∀i,i<c->∀s,s<N->LL (x i) (f i s) (chain (fun k=>tD D k i) N s)
theorem Aq.ae{W3:World}{vB:Value}{gF gX:Nat->Nat}{f x:Nat->Nat->Int}(h:Aq D N W3 c vB gF gX f x w)(k:Below w.heap.size w w1):Aq D N W3 c vB gF gX f x w1:=
 ⟨h.below.trans (k.mono h.below.size),dE h.own k,fun i hi=>dE (h.F i hi) k,fun i hi=>dE (h.X i hi) k,h.L⟩
theorem Aq.app{D:Dd}{N c:Nat}{W3 w w':World}{vB vB':Value}{gF gX:Nat->Nat}{f x:Nat->Nat->Int}{pF pX:Nat}{fc xc:Nat->Int}(h:Aq D N W3 c vB gF gX f x w)(oF:w.ownsRow W3.heap.size 3 1 (.slice (some ⟨pF,0,none⟩) N N) N (qi fc N))(oX:w.ownsRow W3.heap.size 3 1 (.slice (some ⟨pX,0,none⟩) N N) N (qi xc N))(hL:∀s,s<N->LL xc (fc s) (chain (fun k=>tD D k c) N s))
  (ho:w'.ownsRow W3.heap.size 210 2 vB' (c+1) (uz N gF gX c++[.slice (some ⟨pF,0,none⟩) N N,.slice (some ⟨pX,0,none⟩) N N])) (hg:w.grownBy w' vB.ownBlock):
  Aq D N W3 (c+1) vB' (fun i=>if i=c then pF else gF i) (fun i=>if i=c then pX else gX i) (fun i=>if i=c then fc else f i) (fun i=>if i=c then xc else x i) w':=by
 have kp:∀{v:Value}{xs:List Value},w.ownsRow W3.heap.size 3 1 v N xs->w'.ownsRow W3.heap.size 3 1 v N xs:=fun o=>wE o h.own (by decide) hg
 refine⟨gu h.below h.own h.below.size hg,?_,fun i hi=>?_,fun i hi=>?_,fun i hi=>?_⟩
 ·have e:uz N (fun i=>if i=c then pF else gF i) (fun i=>if i=c then pX else gX i) (c+1)=uz N gF gX c++[.slice (some ⟨pF,0,none⟩) N N,.slice (some ⟨pX,0,none⟩) N N]:=by
   show uz N _ _ c++_=_;rw[zgF N (gF':=gF) (gX':=gX) c (fun i hi=>⟨if_neg (by omega),if_neg (by omega)⟩)];simp
  rw[e];exact ho
 ·by_cases e:i=c
  ·simp only[if_pos e];exact kp oF
  simp only[if_neg e];exact kp (h.F i (by omega))
 ·by_cases e:i=c
  ·simp only[if_pos e];exact kp oX
  simp only[if_neg e];exact kp (h.X i (by omega))
 by_cases e:i=c
 ·simp only[if_pos e];rw[e];exact hL
 simp only[if_neg e];exact h.L i (by omega)
def GX(b i:Nat)(w:World):Nat:=match w.cell? ⟨b,i,none⟩ with
 | some v=>FA v
 | none=>0
def Eb(b N:Nat)(v9:Value)(w:World):Nat:=(N-GX b 3 w)+GX b 5 w+(if FA v9=0 then 0 else 1)
theorem Ti{b:Nat}(h:bJ V B bs b v vS P w)(N:Nat)(v9:Value):Eb b N v9 w=P.mu N+(if FA v9=0 then 0 else 1):=by
 have h1:GX b 3 w=P.sp.length:=by
  unfold GX;rw[h.oq.1];obtain⟨a,c,e⟩:=cy h.pq;show FA vS=_;rw[e];rfl
 have h2:GX b 5 w=(P.L 4).length:=by
  unfold GX;rw[h.c4.1];obtain⟨a,c,e⟩:=h.DA 4 (by omega) rfl;show FA (v 4)=_;rw[e];rfl
 unfold Eb Pt.mu;rw[h1,h2]
structure o9 (D:Dd)(C N:Nat)(Wb:World)(B0:Nat)(pb:List Nat)(b:Nat)(T:List Nat)(gT cT:Nat)(P:Pt)(v:Nat->Value)(vS:Value)(aS:Option Addr)(q cS:Nat)(L8:List Nat)(cd:Nat)(wr:World):Prop where
 pm:bJ Wb B0 pb b v vS P wr
 ql:L8.length=q
 oS:wr.ownsRow Wb.heap.size 3 1 (.slice aS q cS) q (dv L8)
 sS:∀g,(Value.slice aS q cS).ownBlock=some g->g∉bI b v vS
 oT:wr.ownsRow Wb.heap.size 3 1 (.slice (some ⟨gT,0,none⟩) T.length cT) T.length (dv T)
 sT:gT∉bI b v vS
 Lr:(Value.slice aS q cS).ownBlock≠some gT
 tn:T.Nodup
 tl:∀x∈T,x<N
 kv:iY N C (tD D) (mD D) P cd (fun z=>z∈T)
 dt:∀x y,x<N->y<N->P.b x=P.b y->mD D x=mD D y
section
variable {D : Dd}{C N B0 b gT cT q cS cd : Nat}{Wb wr : World}{pb T L8 : List Nat}{P : Pt}{v : Nat → Value}{vS : Value}{aS : Option Addr}
theorem o9.sz(h:o9 D C N Wb B0 pb b T gT cT P v vS aS q cS L8 cd wr):Wb.heap.size<=wr.heap.size:=h.pm.below.size
theorem o9.ae(h:o9 D C N Wb B0 pb b T gT cT P v vS aS q cS L8 cd wr)(k:Below wr.heap.size wr w1):o9 D C N Wb B0 pb b T gT cT P v vS aS q cS L8 cd w1:=
 ⟨h.pm.ae k,h.ql,dE h.oS k,h.sS,dE h.oT k,h.sT,h.Lr,h.tn,h.tl,h.kv,h.dt⟩
theorem WZ(a:Option Addr)(n c n':Nat):(Value.slice a n c).ownBlock=(Value.slice a n' c).ownBlock:=by cases a <;> rfl
theorem o9.add{w5:World}{a:Option Addr}(h:o9 D C N Wb B0 pb b T gT cT P v vS aS q cS L8 cd wr)(hc:mg wr Wb.heap.size (Value.slice aS 0 cS).ownBlock.toList l (.slice a l.length c) w5):
  o9 D C N Wb B0 pb b T gT cT P v vS a l.length c l cd w5:=by
 have xQ:∀x∈(Value.slice aS 0 cS).ownBlock.toList,(Value.slice aS q cS).ownBlock=some x:=fun x hx=>by
  rw[WZ aS q cS 0];simpa using hx
 have II:∀g,(Value.slice a l.length c).ownBlock=some g->(Value.slice aS q cS).ownBlock=some g\/wr.heap.size<=g:=fun g e=>by
  rcases hc.loc g e with h1|h1
  ·exact inl (xQ g h1)
  exact inr h1
 have hB:Below B0 wr w5:=hc.below.mono h.pm.lo.2;refine⟨h.pm.vl hc.kept hB (fun x hx=>h.sS x (xQ x hx)) (fun x hx=>inl (ln h.oS x (xQ x hx))),rfl,hc.own,fun g e=>?_,gk h.oT hc.kept (by simp) (fun g e hm=>?_),h.sT,fun e=>?_,h.tn,h.tl,h.kv,h.dt⟩
 ·rcases II g e with h1|h1
  ·exact h.sS g h1
  exact fun hm=>by have:=h.pm.blt g hm;omega
 ·have:=xQ g hm;simp[ownBlock] at e;rw[<-e] at this;exact h.Lr this
 rcases II gT e with h1|h1
 ·exact h.Lr h1
 have:=me h.oT gT rfl;omega
theorem o9.call(h:o9 D C N Wb B0 pb b T gT cT P v vS aS q cS L8 cd wr)(hN:N<=100000)(hn:L8.Nodup)(hl:∀x∈L8,x<N):
  Calls prog 161 #[.pointer (some ⟨b,0,none⟩),.slice aS q cS] wr (QU wr B0 (bI b v vS) b (nC P L8)):=
 Y5 N hN wr B0 b (bI b v vS) v vS P wr h.pm.start h.kv.pz L8 q h.ql hn hl aS cS (vy h.oS h.ql) (fun ad e=>h.sS ad.block (by rw[e];rfl))
theorem o9.div(h:o9 D C N Wb B0 pb b T gT cT P v vS aS q cS L8 cd wr)(hN:D.n+1=N)(hR:DR D C)(KJ:cd<C)(hn:L8.Nodup)(hl:∀x,x∈L8↔x<N/\tD D x cd∈T)(h6:bJ wr B0 (bI b v vS) b v' vS' (nC P L8) w6):
  o9 D C N Wb B0 pb b T gT cT (nC P L8) v' vS' aS q cS L8 (cd+1) w6:=by
 have hlN:∀x∈L8,x<N:=fun x hx=>((hl x).1 hx).1
 have ht:∀x c,x<N->c<C->tD D x c<N:=fun x c _ hc=>by rw[<-hN];exact GH hR x c hc
 have gJ:∀g,g<wr.heap.size->g∉bI b v vS->g∉bI b v' vS':=fun g h1 h2 hm=>by
  rcases h6.ui g hm with h3|h3
  ·exact h2 h3
  omega
 have hd:=Kx h.kv.pz L8 hn hlN;refine⟨h.pm.back h6,h.ql,gk h.oS h6.kept (by simp) h.sS,fun g e=>gJ g (me h.oS g e) (h.sS g e),gk h.oT h6.kept (by simp) (fun g e=>?_),gJ gT (me h.oT gT rfl) h.sT,h.Lr,h.tn,h.tl,h.kv.class KJ ht L8 hn hl,fun x y hx hy hb=>h.dt x y hx hy ((hd.b x y hx hy).1 hb).1⟩;simp[ownBlock] at e;rw[<-e];exact h.sT
structure xG (D:Dd)(C N:Nat)(Wb:World)(B0:Nat)(pb:List Nat)(b:Nat)(P:Pt)(v:Nat->Value)(vS:Value)(aS:Option Addr)(q cS:Nat)(L8:List Nat)(wr:World):Prop where
 pm:bJ Wb B0 pb b v vS P wr
 ql:L8.length=q
 oS:wr.ownsRow Wb.heap.size 3 1 (.slice aS q cS) q (dv L8)
 sS:∀g,(Value.slice aS q cS).ownBlock=some g->g∉bI b v vS
 kv:iY N C (tD D) (mD D) P C (fun _=>False)
 dt:∀x y,x<N->y<N->P.b x=P.b y->mD D x=mD D y
theorem o9.all(h:o9 D C N Wb B0 pb b T gT cT P v vS aS q cS L8 C wr):xG D C N Wb B0 pb b P v vS aS q cS L8 wr:=
 ⟨h.pm,h.ql,h.oS,h.sS,⟨h.kv.pz,h.kv.sat,fun _ _ _ _ _=>Iff.rfl,fun x y hx hy hb c hc=>by
  rcases h.kv.kv x y hx hy hb c hc with h1|h1
  ·exact inl h1
  ·omega⟩,h.dt⟩
theorem xG.call(h:xG D C N Wb B0 pb b P v vS aS q cS L8 wr)(hN:N<=100000):Calls prog 163 #[.pointer (some ⟨b,0,none⟩)] wr (L0 wr B0 (bI b v vS) b P wr):=
 zoa N hN wr B0 b (bI b v vS) v vS P wr h.pm.start h.kv.pz
theorem xG.take{g:Nat}(h:xG D C N Wb B0 pb b P v vS aS q cS L8 wr)(hN:D.n+1=N)(hR:DR D C)(hne:P.L 4≠[])(hB:Below B0 wr w6)(ho:w6.ownsRow wr.heap.size 3 1 (.slice (some ⟨g,0,none⟩) (fA P).length c) (fA P).length (dv (fA P)))(h6:bJ wr B0 (bI b v vS) b v' vS' (ir P) w6)(hg:g∉bI b v' vS'):
  o9 D C N Wb B0 pb b (fA P) g c (ir P) v' vS' aS q cS L8 0 w6/\0<(fA P).length/\(ir P).mu N+1=P.mu N:=by
 have ht:∀x c,x<N->c<C->tD D x c<N:=fun x c _ hc=>by rw[<-hN];exact GH hR x c hc
 obtain⟨t1,t2,t3,t4,t5,t6,t7,t8⟩:=h.kv.take hne ht;have gJ:∀g,g<wr.heap.size->g∉bI b v vS->g∉bI b v' vS':=fun g h1 h2 hm=>by
  rcases h6.ui g hm with h3|h3
  ·exact h2 h3
  omega
 refine⟨⟨h.pm.back h6,h.ql,gk h.oS h6.kept (by simp) h.sS,fun g e=>gJ g (me h.oS g e) (h.sS g e),jH ho h.pm.below.size,hg,fun e=>?_,t4,fun x hx=>((t5 x).1 hx).1,t6,fun x y hx hy hb=>h.dt x y hx hy (by rw[<-t8,<-t8];exact hb)⟩,?_,t7⟩
 ·have h1:=me h.oS g e;have h2:=ln ho g rfl;omega
 unfold fA;have hl:=h.kv.pz.1.l0;simp;omega
theorem xG.none(h:xG D C N Wb B0 pb b P v vS aS q cS L8 wr)(h6:bJ wr B0 (bI b v vS) b v' vS' P w6):xG D C N Wb B0 pb b P v' vS' aS q cS L8 w6:=by
 refine⟨h.pm.back h6,h.ql,gk h.oS h6.kept (by simp) h.sS,fun g e hm=>?_,h.kv,h.dt⟩;rcases h6.ui g hm with h3|h3
 ·exact h.sS g e h3
 have:=me h.oS g e;omega
end
def Z3(D:Dd)(C N:Nat)(Wb:World)(B0:Nat)(pb:List Nat)(b:Nat)(v8 v9:Value)(wq:World):Prop:=
 ∃(aS:Option Addr) (q cS:Nat),v8=.slice aS q cS/\q<=N/\((v9=.slice none 0 0/\∃P v vS L8,xG D C N Wb B0 pb b P v vS aS q cS L8 wq/\P.L 4=[])\/
  ∃gT m cT,v9=.slice (some ⟨gT,0,none⟩) m cT/\0<m/\m<=N/\∃T P v vS L8,T.length=m/\o9 D C N Wb B0 pb b T gT cT P v vS aS q cS L8 0 wq)
theorem xG.V9{B0 b q cS:Nat}{Wb wr:World}{pb L8:List Nat}{aS:Option Addr}{e:Ending}(h:xG D C N Wb B0 pb b P v vS aS q cS L8 wr)(hN:D.n+1=N)(hR:DR D C)(hq:q<=N)(ht:L0 wr B0 (bI b v vS) b P wr e w6):
  ∃v9,e=.returned v9/\Z3 D C N Wb B0 pb b (.slice aS q cS) v9 w6/\Eb b N v9 w6=P.mu N:=by
 rcases ht with ⟨h1,rfl,v',vS',h2⟩|⟨h1,g,c,v',vS',rfl,ho,h2,hg⟩
 ·have hz:=h.none h2;exact⟨_,rfl,⟨aS,q,cS,rfl,hq,inl ⟨rfl,P,v',vS',L8,hz,h1⟩⟩,by rw[Ti hz.pm];rfl⟩
 obtain⟨hi,hl,hm⟩:=h.take hN hR h1 h2.below ho h2 hg;refine⟨_,rfl,⟨aS,q,cS,rfl,hq,inr ⟨g,_,c,rfl,hl,rb hi.tn hi.tl,fA P,ir P,v',vS',L8,rfl,hi⟩⟩,?_⟩;rw[Ti hi.pm,<-hm];show _+(if (fA P).length=0 then 0 else 1)=_;rw[if_neg (by omega)]
theorem zlV(a:Option Addr)(n c:Nat)(W:World):(binOp .neq 43 (.slice a n c) (.slice none 0 0)).run prog W=.ok (.bool a.isSome) W:=by
 have h:=run_equal_slice_nil W 43 3 a n c underlying43;unfold binOp;simp only[Sem.run_bind,h,Result.andThen_ok,Sem.run_pure];cases a <;> rfl
theorem zj3(D:Dd)(C:Nat)(hR:DR D C)(w:World)(hD:DM w D)(YC:∀W,DM W D->Calls prog 160 #[.agg D.cD] W (RZ D W)):
  Calls prog 132 #[.agg D.cD] w (Rj D C w):=by
 have dd:=hR.n2;have Bt:=(hR.lf hD.kl).2;obtain⟨N,hN⟩:=Ξ (D.n+1)
 have G6:N<=100000:=by omega
 have HBy:=hid YC;have HB:=ψ (dD.new hD) (al w (.cells D.cD 101)) hR hN;have HWh:Hid (∀W,Calls prog 159 #[.int .i64 ((D.n:Int)+1)] W (Vd N W)):=fun W=>by
  have:=zl8 N G6 W;rw[<-hN] at this⊢;exact this
 clear hD hR hN YC;go_in;go_upto_region 1 with fail;generalize w.alloc (.cells D.cD 101)=W0 at HB⊢;generalize bz:w.heap.size=b0 at HB⊢;have eY:=hid bz;clear bz;have f1:=HB.o.1.f1;go_wp2_with fail;refine (HWh.o _).mono ?_;rintro e w1 ⟨b,v,vS,rfl,Ct,O2,Ks⟩;have BD:=ζ (HB.o.1.ae O2) (HB.o.2.1.trans (O2.mono (by have:=HB.o.2.1.size;have:=eY.o;omega)));have fP:=ζ Ct Ks;have CH:Hid (w.heap.size<=w1.heap.size/\w.heap.size<=W0.heap.size/\Below W0.heap.size W0 w1):=⟨by have:=BD.o.2.size;have:=eY.o;omega,by have:=HB.o.2.1.size;have:=eY.o;omega,O2⟩
 clear Ct O2 Ks f1;go_wp2_with (refine pU (by rfl) 101 _ rfl ⟨b0,0,none⟩ rfl D.cD _ BD.o.1.st.part underlying101 rfl BD.o.1.dm.info ?_);refine (HBy.o _ BD.o.1.dm).mono ?_;rintro e w2 ⟨ms,aM,cM,A,Cp,rfl,Jg,eO,ly,b2,oM,oR⟩;obtain⟨nm,jo⟩:=Ξ ms.length
 rw[jo] at ly oM;have HM:=φ Jg eO jo oM oR;have HD2:=ζ (BD.o.1.ae b2) (BD.o.2.trans (b2.mono (by have:=CH.o.1;have:=eY.o;omega)));have jA:Hid (bJ w2 W0.heap.size (bI b v vS) b v vS (fX N) w2/\∀x∈bI b v vS,W0.heap.size<=x/\x<w1.heap.size):=⟨(fP.o.1.ae b2).start.congr (fun i hi=>rfl) rfl,fun x hx=>⟨fP.o.2 x hx,fP.o.1.blt x hx⟩⟩
 have Hsz:Hid (w1.heap.size<=w2.heap.size/\Below W0.heap.size W0 w2):=⟨b2.size,CH.o.2.2.trans (b2.mono CH.o.2.2.size)⟩
 rw[jo];clear Jg eO jo b2 oM oR fP;go_wp2;go_loopw [5,20] (fun _ vj wr=>∃j:Nat,vj=.int .i64 j/\j<=nm/\Hid (∃v' vS' P,bJ w2 W0.heap.size (bI b v vS) b v' vS' P wr/\zq D C P (ms.take j))) (fun _ v _=>nm-(intOf v).toNat)
 ·exact⟨0,rfl,zero_le _,v,vS,fX N,jA.o.1,by rw[<-HB.o.2.2.2];exact zq.start D C⟩
 obtain⟨j,rfl,hj,HL⟩:=hrel;by_cases aq:j<nm
 ·obtain⟨v',vS',P,hP,hI⟩:=HL.o;have J2:j<ms.length:=by rw[HM.o.2.2.1];exact aq
  obtain⟨μ,hμ⟩:=Ξ (ms.getD j 0)
  have hμ0:0<=μ:=by
   rw[<-hμ,pZ _ _ _ J2];exact HM.o.1 _ (List.getElem_mem J2)
  have DF:=HM.o.2.2.2.2 j J2;rw[hμ] at DF;have PM:=HM.o.2.2.2.1;have V6:=gk PM hP.kept (by simp) (fun g e hm=>by have h1:=ln PM g e;have h2:=(jA.o.2 g hm).2;omega);obtain⟨gM,rfl,_,_,VT⟩:=fG V6 (by omega);have d0:=(VT j (by omega)).1;rw[List.getElem?_map,List.getElem?_range (by omega)] at d0;replace d0:wr.cell? ⟨gM,j,none⟩=some (.slice (A j) (r8 D (ms.getD j 0)).length (Cp j)):=d0;rw[hμ] at d0;obtain⟨q,hq⟩:=Ξ ((r8 D μ).length)
  rw[hq] at d0 DF;have GO:q<=D.n:=by rw[<-hq];exact zqr D μ
  have ZU:=gk DF hP.kept (by simp) (fun g e hm=>by have h1:=ln DF g e;have h2:=(jA.o.2 g hm).2;omega);have X1:=hP.start;have Jp:∀ad,A j=some ad->ad.block∉bI b v' vS':=fun ad e hm=>by
   have e1:(Value.slice (A j) q (Cp j)).ownBlock=some ad.block:=(by rw[e];rfl);have h1:=ln DF _ e1;have h3:=me DF _ e1;rcases hP.ui _ hm with h2|h2
   ·have:=(jA.o.2 _ h2).2;omega
   omega
  have HC:=hid (Y5 N G6 wr W0.heap.size b (bI b v' vS') v' vS' P wr X1 (by rw[<-HB.o.2.2.2];exact hI.h.pz) (r8 D μ) q hq (OM D μ) (fun x hx=>by have:=((Pe D μ x).1 hx).1;have:=HB.o.2.2.2;omega) (A j) (Cp j) (vy ZU hq) Jp);have HI:Hid (zq D C (nC P (r8 D μ)) (ms.take (j+1))):=by
   have h:=hI.step HB.o.2.2.1 μ hμ0;have e:ms.take (j+1)=ms.take j++[μ]:=by
    rw[List.take_add_one,List.getElem?_eq_getElem J2,<-hμ,pZ _ _ _ J2];rfl
   show zq D C _ (ms.take (j+1));rw[e];exact h
  have ra:=hid hP;have i1:(j:Int)<nm:=by omega
  clear hP hI DF PM V6 VT hμ hq ZU X1 Jp HL;go_wp2_with fail;refine HC.o.mono ?_;rintro e w5 ⟨v5,tm,rfl,pT⟩;have Ay:=hid (ra.o.back pT);clear pT HC ra d0;go_wp2;go_roundw
  ·exact⟨j+1,by go_num,by omega,v5,tm,_,Ay.o,HI.o⟩
  simp[intOf];omega
 obtain rfl:j=nm:=by omega
 obtain⟨v3,tu,P3,AU,KP⟩:=HL.o;rw[take_of_length_le (by rw[HM.o.2.2.1];exact le_refl _)] at KP;have Ef:=jA.o.2;have Yx:Hid (iY N C (tD D) (mD D) P3 C (fun _=>False)/\(∀x y,x<N->y<N->P3.b x=P3.b y->mD D x=mD D y)/\P3.mu N=D.n):=by
  refine⟨by rw[<-HB.o.2.2.2];exact KP.h,?_,by rw[<-HB.o.2.2.2];exact KP.mu⟩;rw[<-HB.o.2.2.2];exact KP.done HB.o.2.2.1 HM.o.1 HM.o.2.1
 have Fm:Below W0.heap.size W0 wr:=Hsz.o.2.trans AU.below;obtain⟨W3,vw⟩:∃W3,W3=wr:=⟨wr,rfl⟩
 have CW:Hid (bJ W3 W0.heap.size (bI b v3 tu) b v3 tu P3 W3):=by rw[vw];exact AU.start
 have Dm:Hid (dD wr b0 D/\Below W0.heap.size W0 wr):=⟨HB.o.1.ae Fm,Fm⟩
 clear AU KP Ef Fm HL jA HM HD2 BD;go_wp2_with (refine pU (by rfl) 98 _ rfl ⟨b0,0,none⟩ rfl (bu D.K) _ Dm.o.1.fy underlying98 rfl (BG D.K) ?_);refine (M4 D.K C HB.o.2.2.1.c HB.o.1.dm.kl _).mono ?_;rintro e w4 ⟨rfl,b4⟩;have H4:Hid (Aq D N W3 0 (.slice none 0 0) (fun _=>0) (fun _=>0) (fun _ _=>0) (fun _ _=>0) w4):=by
  rw[vw];exact⟨b4,ownsRow_nil _ _ _ _,fun i hi=>absurd hi (by omega),fun i hi=>absurd hi (by omega),fun i hi=>absurd hi (by omega)⟩
 rw[<-vw] at Dm;clear vw b4;go_wp2;go_loopw [6,7,31] (fun v6 _ vc wq=>∃(c:Nat) (aB:Option Addr) (cB:Nat),vc=.int .i64 c/\c<=C/\v6=.slice aB c cB/\Hid (∃gF gX f x,Aq D N W3 c (.slice aB c cB) gF gX f x wq)) (fun _ _ v _=>C-(intOf v).toNat)
 ·exact⟨0,none,0,rfl,zero_le _,rfl,_,_,_,_,H4.o⟩
 obtain⟨c,aB,cB,rfl,hc,rfl,HK⟩:=hrel;by_cases xu:c<C
 ·obtain⟨gF,gX,f,x,hK⟩:=HK.o;have Nd:=hid (Dm.o.1.ae hK.below);have HC:=hid (zfI D C HB.o.2.2.1 c xu wr Nd.o.dm);have OS:=hid hK;have i1:(c:Int)<C:=by omega
  obtain⟨i0,hi,dP,dc,db⟩:=info_parts vZ;clear hK HK;go_wp2_with (refine pU (by rfl) 101 _ rfl ⟨b0,0,none⟩ rfl D.cD _ Nd.o.st.part underlying101 rfl Nd.o.dm.info ?_);refine HC.o.mono ?_;rintro e w5 ⟨pF,pX,fc,xc,rfl,oF,oX,hL,b5⟩;rw[HB.o.2.2.2] at oF oX hL⊢;have NL:=OS.o.ae b5;have hO:=NL.own;have ur:=NL.below.size;have H5:=ψ NL (jH oF OS.o.below.size) (jH oX OS.o.below.size) hL;clear oF oX hL b5 NL HC Nd;go_wp2_with (at_builtin;refine wpList_append_own_at _ rfl _ _ 208 rfl W3.heap.size 210 i0 (.agg #[.slice none 0 0,.slice none 0 0]) 2 48 underlying208 hi dP dc db rfl (by decide) _ _ _ rfl (hO.alloc _) ⟨w5.heap.size,0,none⟩ 1 1 [.slice (some ⟨pF,0,none⟩) N N,.slice (some ⟨pX,0,none⟩) N N] rfl rfl (cell_two_new _ _ _ _) ?d2 ?d3 ?d4 ?d5 ?_)
  case d2=>intro u hu;simp at hu;rcases hu with rfl|rfl <;> rfl
  case d3=>unfold maxLen;omega
  case d4=>omega
  case d5=>first|(simp;omega)|omega
  intro v6 w6 an ag _ di;obtain⟨a6,c6,rfl⟩:=cy an;have H6:Hid (∃gF gX f x,Aq D N W3 (c+1) (.slice a6 (c+1) c6) gF gX f x w6):=by
   have k:=al w5 (.cells #[.slice (some ⟨pF,0,none⟩) N N,.slice (some ⟨pX,0,none⟩) N N] 210);exact⟨_,_,_,_,(H5.o.1.ae k).app (dE H5.o.2.1 k) (dE H5.o.2.2.1 k) H5.o.2.2.2 an ag⟩
  clear an ag di hO H5 OS;go_wp2;go_roundw
  ·exact⟨c+1,a6,c6,by go_num,by omega,rfl,H6.o⟩
  simp[intOf];omega
 obtain rfl:c=C:=by omega
 obtain⟨gF,gX,f,x,hK⟩:=HK.o;obtain⟨Wb,JO⟩:∃Wb,Wb=wr:=⟨wr,rfl⟩
 have ic:Hid (Aq D N W3 c (.slice aB c cB) gF gX f x Wb):=by rw[JO];exact hK
 have hPb:bJ Wb W0.heap.size (bI b v3 tu) b v3 tu P3 Wb:=by rw[JO];exact (CW.o.ae hK.below).start
 have HZ0:Hid (xG D c N Wb W0.heap.size (bI b v3 tu) b P3 v3 tu none 0 0 [] Wb):=⟨hPb,rfl,ownsRow_nil _ _ _ _,fun g e=>by simp[ownBlock] at e,Yx.o.1,Yx.o.2.1⟩
 have N0:Hid (dD Wb b0 D/\Below W0.heap.size W0 Wb/\(∀y∈bI b v3 tu,y<W3.heap.size)):=by rw[JO];exact⟨Dm.o.1.ae hK.below,Dm.o.2.trans (hK.below.mono Dm.o.2.size),CW.o.blt⟩
 have HT:=hid (HZ0.o.call G6);rw[<-JO];clear hPb hK JO HK Dm;go_wp2_with fail;refine HT.o.mono ?_;rintro e w6 h6;obtain⟨v9,rfl,IS,M9⟩:=HZ0.o.V9 HB.o.2.2.2 HB.o.2.2.1 (zero_le _) h6;have Ip:=hid IS;have Dk:=zlV;clear IS M9 h6 HT;go_wp2;go_loopw [8,9,11,49] (fun v8 v9 _ _ wq=>Z3 D c N Wb W0.heap.size (bI b v3 tu) b v8 v9 wq) (fun _ v9 _ _ wq=>Eb b N v9 wq)
 ·exact Ip.o
 clear Ip;obtain⟨aS,q,cS,rfl,hq,hR⟩:=hrel;rcases hR with ⟨rfl,P,v5,tm,L8,hZ,Cg⟩|⟨gT,m,cT,rfl,pH,WI,T,P,v5,tm,L8,hTm,hI⟩
 ·have b2:=hZ.pm.c2.1;have iu:=hZ.kv.pz.1.l2;obtain⟨a2,c2,e2⟩:=hZ.pm.DA 2 (by omega) iu;have HF:Hid (Rj D c w (.returned (.slice a2 N c2)) wr):=by
   have ho:=hZ.pm.row 2 (by omega);rw[iu,e2] at ho;have gj:N<=c2:=by
    rcases ho.2 with ⟨h1,h0⟩|⟨_,cap,_,h1,_,_,h2,_⟩
    ·have:=HB.o.2.2.2;omega
    injection h1 with _ e1 e3;omega
   have RO:=CH.o.2.1;refine⟨P.L 2,a2,c2,?_,?_,?_,?_,?_,?_,?_⟩
   ·rw[HB.o.2.2.2]
   ·rw[HB.o.2.2.2];exact iu
   ·rw[HB.o.2.2.2];intro x hx;obtain⟨i,hi,e⟩:=List.getElem_of_mem hx;have h1:=(hZ.kv.pz.1.bk i (by omega)).1;have h2:=hZ.kv.pz.1.len;have h3:P.b i=x:=by
     show (P.L 2).getD i 0=x;rw[getD_eq_getElem?_getD,List.getElem?_eq_getElem hi];exact e
    omega
   ·rw[HB.o.2.2.2];exact gj
   ·rw[HB.o.2.2.2];exact jH ho RO
   ·rw[HB.o.2.2.2];exact hZ.kv.done Cg (fun x d _ hd=>by rw[<-HB.o.2.2.2];exact GH HB.o.2.2.1 x d hd) hZ.dt
   have bz:=eY.o;have h1:Below w.heap.size w Wb:=(by rw[bz];exact HB.o.2.1.trans (N0.o.2.1.mono (by omega)));exact h1.trans (hZ.pm.below.mono RO)
  rw[e2] at b2;clear hZ iu e2;go_wp2;go_ret;exact HF.o
 obtain⟨Ge,qA⟩:=Ξ (P.mu N)
 have Hmu:Hid (Eb b N (.slice (some ⟨gT,0,none⟩) m cT) wr=Ge+1):=by
  show _=_;rw[Ti hI.pm,qA];show _+(if m=0 then 0 else 1)=_;rw[if_neg (by omega)]
 have HI0:Hid (∃P v vS L8,P.mu N=Ge/\o9 D c N Wb W0.heap.size (bI b v3 tu) b T gT cT P v vS aS q cS L8 0 wr):=⟨P,v5,tm,L8,qA,hI⟩
 have HTm:=hid hTm;clear hI qA hTm;go_wp2_with fail;obtain⟨W8,hW8⟩:∃W8,W8=wr:=⟨wr,rfl⟩
 clear hW8 W8;go_loopw [8,11,49] (fun v8 _ vi wq=>∃(i:Nat) (aS:Option Addr) (q cS:Nat),vi=.int .i64 i/\i<=c/\v8=.slice aS q cS/\q<=N/\Hid (∃P v vS L8,P.mu N=Ge/\o9 D c N Wb W0.heap.size (bI b v3 tu) b T gT cT P v vS aS q cS L8 i wq)) (fun _ _ v _=>c-(intOf v).toNat)
 ·exact⟨0,aS,q,cS,rfl,zero_le _,rfl,hq,HI0.o⟩
 obtain⟨i,aS,q,cS,rfl,hi,rfl,hq,s9⟩:=hrel;by_cases vh:i<c
 ·obtain⟨P,v5,tm,L8,qA,hI⟩:=s9.o;have Y7:=gk ic.o.own hI.pm.kept (by simp) (fun g e hm=>by have h1:=ln ic.o.own g e;have:=N0.o.2.2 g hm;omega);obtain⟨gB,rfl,_,_,Py⟩:=fG Y7 (by omega);have d0:=(Py (i*2) (by omega)).1;have d1:=(Py (i*2+1) (by omega)).1;rw[(Wa N gF gX c i vh).1] at d0;rw[(Wa N gF gX c i vh).2] at d1;have YV:=ζ qA hI;have i1:(i:Int)<c:=by omega
  obtain⟨pF,Uw⟩:=Ξ (gF i)
  obtain⟨pX,SO⟩:=Ξ (gX i)
  rw[Uw] at d0;rw[SO] at d1;have Hp:=ζ Uw SO;clear Y7 Py qA hI Uw SO s9;go_upto_region 20 with fail;obtain⟨W5,Gc⟩:=Ξ (wr.alloc (.cells #[.slice (some ⟨pF,0,none⟩) N N,.slice (some ⟨pX,0,none⟩) N N] 210))
  obtain⟨bR,F6⟩:=Ξ wr.heap.size
  have tj:St W5 210 bR #[.slice (some ⟨pF,0,none⟩) N N,.slice (some ⟨pX,0,none⟩) N N]:=by rw[<-Gc,<-F6];exact St.new _ _ _
  have Cr:o9 D c N Wb W0.heap.size (bI b v3 tu) b T gT cT P v5 tm aS q cS L8 i W5:=by rw[<-Gc];exact YV.o.2.ae (al wr _)
  rw[Gc,F6];clear Gc F6;have r0:W5.cell? ⟨bR,0,none⟩=some (.slice (some ⟨pF,0,none⟩) N N):=tj.at_ 0;have r1:W5.cell? ⟨bR,1,none⟩=some (.slice (some ⟨pX,0,none⟩) N N):=tj.at_ 1;have Uj:=hid Cr;have hq0:(0:Int)<=cS:=by omega
  clear Cr tj d0 d1
  go_still_tail 4,(by kernel_rfl)
  change wpList _ _ _ _ _ W5.drew;have HC:Hid (Calls prog 164 #[.agg #[.slice (some ⟨pF,0,none⟩) N N,.slice (some ⟨pX,0,none⟩) N N],.slice aS 0 cS,.slice (some ⟨gT,0,none⟩) m cT] W5.drew (Uu Wb.heap.size (Value.slice aS 0 cS).ownBlock.toList (jW (fun k=>tD D k i) N T) W5.drew)):=by
   have z8:=Uj.o.ae (Below.refl W5.heap.size W5).drew;have oF:=gk (ic.o.F i vh) z8.pm.kept (by simp) (fun g e hm=>by have h1:=ln (ic.o.F i vh) g e;have:=N0.o.2.2 g hm;omega);have oX:=gk (ic.o.X i vh) z8.pm.kept (by simp) (fun g e hm=>by have h1:=ln (ic.o.X i vh) g e;have:=N0.o.2.2 g hm;omega);have hF:=me (ic.o.F i vh) (gF i) rfl;have hX:=me (ic.o.X i vh) (gX i) rfl;rw[Hp.o.1] at oF hF;rw[Hp.o.2] at oX hX;have xQ:∀g∈(Value.slice aS 0 cS).ownBlock.toList,(Value.slice aS q cS).ownBlock=some g:=(fun g hg=>by rw[WZ aS q cS 0];simpa using hg);have hoT:=z8.oT;have e9:=HTm.o;refine znU N G6 (fun k=>tD D k i) (fun k hk=>by rw[<-HB.o.2.2.2];exact GH HB.o.2.2.1 k i vh) (f i) (x i) (ic.o.L i vh) pF pX Wb.heap.size W3.heap.size aS cS T m e9 z8.tn z8.tl (some ⟨gT,0,none⟩) cT W5.drew oF oX (zik z8.oS) z8.sz (vy hoT rfl) _ rfl (fun hm=>?_) (fun hm=>?_) (fun ad e hm=>?_)
   ·have:=ln z8.oS pF (xQ _ hm);omega
   ·have:=ln z8.oS pX (xQ _ hm);omega
   have e2:gT=ad.block:=(by injection e with e;rw[<-e]);rw[<-e2] at hm;exact z8.Lr (xQ _ hm)
  have S9:Hid (o9 D c N Wb W0.heap.size (bI b v3 tu) b T gT cT P v5 tm aS q cS L8 i W5.drew):=Uj.o.ae (Below.refl W5.heap.size W5).drew;generalize W5.drew=W6 at HC S9⊢;clear r0 r1 Uj;go_wp2_with fail;refine HC.o.mono ?_;rintro e w7 ⟨a7,c7,rfl,Jv⟩;have Je:=S9.o.add Jv;obtain⟨L9,B2⟩:=Ξ (jW (fun k=>tD D k i) N T)
  have BF:L9.Nodup:=by rw[<-B2];exact zeX _ _ _ S9.o.tn
  have yO:∀z,z∈L9↔z<N/\tD D z i∈T:=fun z=>by rw[<-B2];exact PN _ _ _ z
  rw[B2] at Je⊢;obtain⟨q9,ry⟩:=Ξ L9.length
  rw[ry] at Je⊢;have PY:q9<=N:=by rw[<-ry];exact rb BF (fun z hz=>((yO z).1 hz).1)
  have Ol:=hid (Je.call G6 BF (fun z hz=>((yO z).1 hz).1));have Gf:=ξ Je BF yO;clear Jv Je BF yO B2 ry HC;go_wp2_with fail;refine Ol.o.mono ?_;rintro e w8 ⟨v8,vS8,rfl,Gn⟩;have HI8:Hid (∃P v vS L8,P.mu N=Ge/\o9 D c N Wb W0.heap.size (bI b v3 tu) b T gT cT P v vS a7 q9 c7 L8 (i+1) w8):=by
   refine⟨_,v8,vS8,L9,?_,Gf.o.1.div HB.o.2.2.2 HB.o.2.2.1 vh Gf.o.2.1 Gf.o.2.2 Gn⟩;rw[iY.mu Gf.o.1.kv.pz L9 Gf.o.2.1 (fun z hz=>((Gf.o.2.2 z).1 hz).1)];exact YV.o.1
  clear Gn Ol;go_wp2;go_roundw
  ·exact⟨i+1,a7,q9,c7,by go_num,by omega,rfl,PY,HI8.o⟩
  simp[intOf];omega
 obtain rfl:i=c:=by omega
 obtain⟨P,v5,tm,L8,qA,hI⟩:=s9.o;have hZ:=hI.all;have HT:=hid (hZ.call G6);have HZ:=ζ hZ qA;clear hI hZ s9 qA;go_wp2_with fail;refine HT.o.mono ?_;rintro e w6 h6;obtain⟨v9',rfl,IS,M9⟩:=HZ.o.1.V9 HB.o.2.2.2 HB.o.2.2.1 hq h6;have Ip:=ζ IS M9;clear h6 IS M9 HT;go_wp2;go_roundw
 ·exact Ip.o.1
 show Eb b N _ _<Eb b N _ _;have h1:=Ip.o.2;have h2:=Hmu.o;have h3:=HZ.o.2;omega
