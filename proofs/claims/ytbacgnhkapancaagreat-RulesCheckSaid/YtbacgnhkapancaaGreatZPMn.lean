import Derived.Test.YtbacgnhkapancaaGreatZPDiv
import Derived.StillTailTactics
set_option linter.all false
set_option maxHeartbeats 8000000
set_option maxRecDepth 100000
open Go.Lib (hid)
namespace Go.Proofs.YtbacgnhkapancaaGreat
open Go.RowKit Go.Maps Go.WideElems Go.ChangeMaps Go.MapKept Go.Proofs.Tryz
open Act (put)
open World (ownsRow_nil)
open Value (ownBlock)
open Nat (le_refl le_trans zero_le)
open List (ext_getElem? getD_eq_getElem?_getD length_replicate range range_succ replicate take_of_length_le)
open Or (inl inr)
variable {V W0 w1 w6:World}{gF gX:Nat}{ls:List Nat}{vS:Value}
def Gc(V:World)(B:Nat)(bs:List Nat)(b:Nat)(P:Pt)(w:World)(e:Ending)(w':World):Prop:=
 (P.L 4=[]/\e=.returned (.slice none 0 0)/\∃v vS,bE V B bs b v vS P w')\/
 (P.L 4≠[]/\∃(g c:Nat) (v:Nat->Value) (vS:Value),e=.returned (.slice (some ⟨g,0,none⟩) (eP P).length c)/\w'.ownsRow w.heap.size 3 1 (.slice (some ⟨g,0,none⟩) (eP P).length c) (eP P).length (cO (eP P))/\bE V B bs b v vS (gQ P) w'/\g∉bz b v vS)
theorem znk(N:Nat)(hN:N<=100000)(V:World)(B b:Nat)(bs:List Nat)(v:Nat->Value)(vS:Value)(P:Pt)(w:World)(h:bE V B bs b v vS P w)(hz:PZ N P):
  Calls prog 128 #[.pointer (some ⟨b,0,none⟩)] w (Gc V B bs b P w):=by
 obtain⟨q,hq⟩:∃q,(P.L 4).length=q:=⟨_,rfl⟩
 obtain⟨a4,c4,e4⟩:=h.CT 4 (by omega) hq;have b4:=h.c4.1;have f4:=h.c4.2;rw[e4] at b4;have UZ:=hz.1.tM;rw[hq] at UZ;have Mc:=hz.1.len;have H:=hid (Zz h (Zz hz (Zz hq e4)));clear h hz hq e4;go_enter func128,ntmps128;by_cases h0:q=0
 ·subst h0;have HF:Hid (Gc V B bs b P w (.returned (.slice none 0 0)) w):=inl ⟨List.eq_nil_of_length_eq_zero H.out.2.2.1,rfl,v,vS,H.out.1⟩;go_wp2;go_ret;exact HF.out
 obtain⟨p,rfl⟩:∃p,q=p+1:=⟨q-1,by omega⟩
 clear h0;have hne:P.L 4≠[]:=fun e=>by have:=H.out.2.2.1;rw[e] at this;simp at this
 have i0:(((p+1:Nat):Int) == 0)=false:=by rw[beq_eq_false_iff_ne];omega
 obtain⟨cY,ur⟩:∃cY,P.last=cY:=⟨_,rfl⟩
 have hm:cY∈P.L 4:=by
  rw[<-ur];unfold Pt.last;rcases List.eq_nil_or_concat (P.L 4) with e|⟨l,a,e⟩
  ·exact absurd e hne
  rw[e];simp
 obtain⟨tH,hlw⟩:=(H.out.2.1.1.sR.2 cY).1 hm;obtain⟨s1,s2,s3,s4⟩:=H.out.2.1.1.sp cY tH;have uY:(P.L 4).getD p 0=cY:=by
  rw[<-ur];unfold Pt.last;have hl:=H.out.2.2.1;rcases List.eq_nil_or_concat (P.L 4) with e|⟨l,a,e⟩
  ·exact absurd e hne
  rw[e] at hl⊢;simp at hl;subst hl;simp[getD_eq_getElem?_getD]
 obtain⟨g4,c4',e4,y4,_⟩:=H.out.1.num 4 (by omega) p (by rw[H.out.2.2.1];omega);rw[H.out.2.2.1,H.out.2.2.2] at e4;obtain rfl:a4=some ⟨g4,0,none⟩:=by injection e4
 rw[uY] at y4;obtain⟨nS,wh⟩:∃nS,P.sp.length=nS:=⟨_,rfl⟩
 obtain⟨gS,cS,eS⟩:=H.out.1.N1 wh (by omega);have aS:=H.out.1.nw.1;rw[eS] at aS;obtain⟨f,hf⟩:∃f,(P.s cY).f=f:=⟨_,rfl⟩
 obtain⟨g,hg⟩:∃g,(P.s cY).g=g:=⟨_,rfl⟩
 rw[hf,hg] at s1;rw[hg] at s2;have iS:(cY:Int)<nS:=by omega
 have tP:p+1<=c4:=by
  have ho:=H.out.1.row 4 (by omega);rw[H.out.2.2.2] at ho;rcases ho.2 with ⟨h1,_⟩|⟨_,cap,_,h1,_,_,h2,_⟩
  ·cases h1
  injection h1 with _ e1 e2;have h3:(P.L 4).length<=cap:=h2;omega
 have HE:=hid (Zz hne (Zz ur (Zz wh (Zz eS (Zz hf hg)))));clear hne ur hm hlw s3 s4 uY e4 wh eS hf hg;go_upto_region 4 with fail;go_quiet (fail);have HB:=hid (below_drewN (Below.refl w.heap.size w) nq);have sy:bE V B bs b v vS P (w.drewN nq):=H.out.1.ab (below_drewN (Below.refl _ _) _);generalize w.drewN nq=W2 at sy HB⊢;clear y4 aS b4 f4;have b4:=sy.c4.1;have f4:=sy.c4.2;rw[H.out.2.2.2] at b4;have h1:=sy.xV 4 (by omega) H.out.2.2.2 p (by rw[H.out.2.2.1];omega);replace h1:bE V B bs b (sr v 4 (.slice (some ⟨g4,0,none⟩) p c4)) vS ⟨eR P.L 4 ((P.L 4).take p),P.sp⟩ (W2.setCell ⟨b,5,none⟩ (.slice (some ⟨g4,0,none⟩) p c4)):=h1;have hpq:p<=p+1:=by omega
 have SZ:Hid (w.heap.size<=W2.heap.size):=HB.out.size;go_upto_region 6 with fail;obtain⟨v4,Q3⟩:∃v4,sr v 4 (.slice (some ⟨g4,0,none⟩) p c4)=v4:=⟨_,rfl⟩
 rw[Q3] at h1;have Bg:eR P.L 4 ((P.L 4).take p)=(gQ P).L:=by
  show _=eR P.L 4 (P.L 4).dropLast;rw[List.dropLast_eq_take,H.out.2.2.1];rfl
 rw[Bg] at h1;replace SZ:Hid (w.heap.size<=(W2.setCell ⟨b,5,none⟩ (.slice (some ⟨g4,0,none⟩) p c4)).heap.size):=by show w.heap.size<=_;have:=SZ.out;simpa [World.setCell] using this
 generalize W2.setCell ⟨b,5,none⟩ (.slice (some ⟨g4,0,none⟩) p c4)=W3 at h1 SZ⊢;clear b4 f4 sy;have DW:=(h1.Bf HE.out.2.2.2.1 cY (by show cY<P.sp.length;rw[HE.out.2.2.1];omega)).cw;have hwz:=(h1.Bf HE.out.2.2.2.1 cY (by show cY<P.sp.length;rw[HE.out.2.2.1];omega)).z3;have h2:=h1.wP HE.out.2.2.2.1 cY 3 ⟨(P.s cY).f,(P.s cY).g,(P.s cY).h,false⟩ (by show cY<P.sp.length;rw[HE.out.2.2.1];omega) (by omega) (fun k' hk' hn=>by
  have:k'=0\/k'=1\/k'=2:=by omega
  rcases this with rfl|rfl|rfl <;> rfl)
 have h3:bE V B bs b v4 vS (gQ P) (W3.setCell ⟨gS,cY*4+3,none⟩ (.bool false)):=by
  refine h2.congr (fun i hi=>rfl) ?_;show P.sp.set cY _=P.sp.set P.last _;rw[HE.out.2.1]
 obtain⟨wb,XD⟩:∃wb,W3.cell? ⟨gS,cY*4+3,none⟩=some (.bool wb):=⟨_,DW⟩
 clear DW h2 h1;go_upto_region 7 with fail;replace SZ:Hid (w.heap.size<=(W3.setCell ⟨gS,cY*4+3,none⟩ (.bool false)).heap.size):=by show w.heap.size<=_;have:=SZ.out;simpa [World.setCell] using this
 generalize W3.setCell ⟨gS,cY*4+3,none⟩ (.bool false)=W4 at h3 SZ⊢;clear XD hwz;obtain⟨m0,ox⟩:∃m0,(P.L 0).length=m0:=⟨_,rfl⟩
 have PD:m0=N:=by rw[<-ox];exact H.out.2.1.1.l0
 obtain⟨g0,c0,e0⟩:=h3.sl 0 (by omega) (q:=m0) ox (by omega);have b0:=h3.c0.1;rw[e0] at b0;have pG:m0<=c0:=by
  have ho:=h3.row 0 (by omega);rw[e0] at ho;rcases ho.2 with ⟨h1,_⟩|⟨_,cap,_,h1,_,_,h2,_⟩
  ·cases h1
  injection h1 with _ e1 e2;have h3:(P.L 0).length<=cap:=h2;omega
 obtain⟨x1,x2,_,_,_,_,_⟩:=h3.Bf HE.out.2.2.2.1 cY (by show cY<(gQ P).sp.length;unfold gQ;rw[List.length_set,HE.out.2.2.1];omega);have yG:(gQ P).s cY=⟨(P.s cY).f,(P.s cY).g,(P.s cY).h,false⟩:=by
  show (⟨eR P.L 4 (P.L 4).dropLast,P.sp.set P.last ⟨(P.s P.last).f,(P.s P.last).g,(P.s P.last).h,false⟩⟩:Pt).s cY=_;rw[HE.out.2.1,Pt.qp _ _ _ _ _ (by rw[HE.out.2.2.1];omega),if_pos rfl]
 rw[yG] at x1 x2;rw[show (⟨(P.s cY).f,(P.s cY).g,(P.s cY).h,false⟩:nC).f=f from HE.out.2.2.2.2.1] at x1;rw[show (⟨(P.s cY).f,(P.s cY).g,(P.s cY).h,false⟩:nC).g=g from HE.out.2.2.2.2.2] at x2;obtain⟨m,hm⟩:∃m,g-f=m:=⟨_,rfl⟩
 have x8:(eP P).length=m:=by
  unfold eP;rw[List.length_take,List.length_drop,ox,HE.out.2.1,HE.out.2.2.2.2.1,HE.out.2.2.2.2.2,hm];omega
 have TB:∀j,j<m->(eP P).getD j 0=(P.L 0).getD (f+j) 0:=fun j hj=>by
  unfold eP;rw[HE.out.2.1,HE.out.2.2.2.2.1,HE.out.2.2.2.2.2,hm,getD_eq_getElem?_getD,List.getElem?_take_of_lt hj,List.getElem?_drop,getD_eq_getElem?_getD]
 have hZ:∀W,bE V B bs b v4 vS (gQ P) W->kE W (some ⟨g0,f,none⟩) m (fun j=>(((eP P).getD j 0:Nat):Int)):=fun W hW hpos=>by
  have ho:=hW.row 0 (by omega);refine⟨g0,f,rfl,lB ho g0 (by rw[e0];rfl),fun j hj=>?_⟩;have:=(hW.NY 0 (by omega) e0 (f+j) (by show f+j<(P.L 0).length;omega)).1;rw[this];show some (Value.int .i64 (((P.L 0).getD (f+j) 0:Nat):Int))=some (Value.int .i64 (((eP P).getD j 0:Nat):Int));rw[TB j hj]
 have HZ:=hid hZ;have H3:=hid (Zz h3 (Zz Q3 (Zz e0 x8)));have j1:(f:Int)<=g:=by omega
 have j2:(g:Int)<=c0:=by omega
 have j3:(f:Int)<c0:=by omega
 clear hZ TB x8 yG h3 Q3 e0 ox PD Bg
 go_still_tail 13,(by kernel_rfl)
 change wpList _ _ _ _ _ W4.drew;have oh:bE V B bs b v4 vS (gQ P) W4.drew:=H3.out.1.ab (Below.refl _ _).drew;replace SZ:Hid (w.heap.size<=W4.drew.heap.size):=SZ.out;generalize W4.drew=W5 at oh SZ⊢;have HC:=hid (Ky m (c0-f) (some ⟨g0,f,none⟩) (fun j=>(((eP P).getD j 0:Nat):Int)) (by omega) W5 (HZ.out W5 oh) (by simp) (by simp));have yE:=hid oh;clear oh b0 x1 x2;go_wp2_with fail;refine HC.out.mono ?_;rintro e w6 ⟨a6,c6,rfl,j8,b6⟩;have HF:Hid (Gc V B bs b P w (.returned (.slice a6 m c6)) w6):=by
  have hP6:=yE.out.ab b6;have Aj:ints ((range m).map (fun j=>(((eP P).getD j 0:Nat):Int)))=cO (eP P):=by
   apply ext_getElem?;intro j;have hl:=H3.out.2.2.2;by_cases hj:j<m
   ·have h2:j<(eP P).length:=(by omega);simp[ints,cO,hj,h2,getD_eq_getElem?_getD]
   have h2:¬j<(eP P).length:=(by omega);simp[ints,cO,hj,h2]
  rw[Aj] at j8;obtain⟨g6,rfl,gu,_,_⟩:=ep j8 (by omega);have cU:w.heap.size<=W5.heap.size:=SZ.out;refine inr ⟨HE.out.1,g6,c6,v4,vS,?_,?_,hP6,?_⟩
  ·rw[H3.out.2.2.2]
  ·rw[H3.out.2.2.2];exact gE j8 cU
  intro zg;rcases uD.1 zg with e9|e9|⟨i,hi,e9⟩
  ·have:=yE.out.st.lt;omega
  ·have:=lB yE.out.nE g6 e9;omega
  have:=lB (yE.out.row i hi) g6 e9;omega
 clear j8 b6 HC;go_wp2;go_ret;exact HF.out
def Of(N:Nat)(w:World)(e:Ending)(w':World):Prop:=
 ∃(b:Nat) (v:Nat->Value) (vS:Value),e=.returned (.pointer (some ⟨b,0,none⟩))/\bE w' w.heap.size (bz b v vS) b v vS (fF N) w'/\Below w.heap.size w w'/\∀x∈bz b v vS,w.heap.size<=x
def AY(N k:Nat):Pt:=⟨fun i=>if i=0 then range k else if i=1 then range k else if i=2 then replicate N 0 else [],[⟨0,N,0,false⟩]⟩
def Kq(gB:Nat)(N:Nat)(i:Nat):Value:=if i=2 then .slice (some ⟨gB,0,none⟩) N N else .slice none 0 0
theorem zly(N:Nat)(hN:N<=100000)(w:World):Calls prog 124 #[.int .i64 (N:Int)] w (Of N w):=by
 have hm:=JA N (by omega);go_enter func124,ntmps124;go_upto_region 2 with fail;obtain⟨W3,uV⟩:∃W3,((w.alloc (.cells (madeCells #[.int .i64 0] N) 3)).alloc (.cells #[.int .i64 0,.int .i64 (N:Int),.int .i64 0,.bool false] 198)).alloc (.cells #[.slice none 0 0,.slice none 0 0,.slice (some ⟨w.heap.size,0,none⟩) N N,.slice (some ⟨w.heap.size+1,0,none⟩) 1 1,.slice none 0 0,.slice none 0 0] 183)=W3:=⟨_,rfl⟩
 obtain⟨b,hb⟩:∃b,w.heap.size+1+1=b:=⟨_,rfl⟩
 obtain⟨bs,pY⟩:∃bs,bz b (Kq w.heap.size N) (.slice (some ⟨w.heap.size+1,0,none⟩) 1 1)=bs:=⟨_,rfl⟩
 have h0:bE W3 w.heap.size bs b (Kq w.heap.size N) (.slice (some ⟨w.heap.size+1,0,none⟩) 1 1) (AY N 0) W3/\Below w.heap.size w W3/\∀x∈bs,w.heap.size<=x:=by
  have k1:=al w (.cells (madeCells #[.int .i64 0] N) 3);have k2:=al (w.alloc (.cells (madeCells #[.int .i64 0] N) 3)) (.cells #[.int .i64 0,.int .i64 (N:Int),.int .i64 0,.bool false] 198);have k3:=al ((w.alloc (.cells (madeCells #[.int .i64 0] N) 3)).alloc (.cells #[.int .i64 0,.int .i64 (N:Int),.int .i64 0,.bool false] 198)) (.cells #[.slice none 0 0,.slice none 0 0,.slice (some ⟨w.heap.size,0,none⟩) N N,.slice (some ⟨w.heap.size+1,0,none⟩) 1 1,.slice none 0 0,.slice none 0 0] 183);have o1:=cW (cW (DX w w.heap.size N 3 (.int .i64 0) (le_refl _) (by unfold maxLen;omega)) k2) k3;have o2:=cW (vx (w.alloc (.cells (madeCells #[.int .i64 0] N) 3)) w.heap.size 198 4 #[.int .i64 0,.int .i64 (N:Int),.int .i64 0,.bool false] 1 rfl (by simp) (by unfold maxLen;omega)) k3;have st:=St.new ((w.alloc (.cells (madeCells #[.int .i64 0] N) 3)).alloc (.cells #[.int .i64 0,.int .i64 (N:Int),.int .i64 0,.bool false] 198)) 183 #[.slice none 0 0,.slice none 0 0,.slice (some ⟨w.heap.size,0,none⟩) N N,.slice (some ⟨w.heap.size+1,0,none⟩) 1 1,.slice none 0 0,.slice none 0 0];have kk:Below w.heap.size w W3:=by rw[<-uV];exact k1.trans ((k2.mono (by simp)).trans (k3.mono (by simp;omega)))
  rw[uV] at o1 o2 st;have kI:(w.alloc (.cells (madeCells #[.int .i64 0] N) 3)).heap.size=w.heap.size+1:=by simp
  have td:((w.alloc (.cells (madeCells #[.int .i64 0] N) 3)).alloc (.cells #[.int .i64 0,.int .i64 (N:Int),.int .i64 0,.bool false] 198)).heap.size=b:=by rw[<-hb];simp
  rw[kI] at o2;rw[td] at st;have ay:∀i,i<5->∀g,(Kq w.heap.size N i).ownBlock=some g->i=2/\g=w.heap.size:=fun i hi g e=>by
   unfold Kq at e;split at e
   ·rename_i h2;simp[ownBlock] at e;exact⟨h2,e.symm⟩
   simp[ownBlock] at e
  have G7:∀x∈bs,w.heap.size<=x:=fun x hx=>by
   rw[<-pY] at hx;rcases uD.1 hx with e|e|⟨i,hi,e⟩
   ·omega
   ·simp[ownBlock] at e;omega
   have:=(ay i hi x e).2;omega
  refine⟨⟨Kept.refl _ _ _,Below.refl _ _,st,fun i hi=>?_,fun i j hi hj hij g e1 e2=>?_,?_,fun i hi g e=>inl (by rw[<-pY];exact uD.2 (inr (inr ⟨i,hi,e⟩))),fun g e=>inl (by rw[<-pY];exact uD.2 (inr (inl e))),by rw[<-pY];exact uD.2 (inl rfl),by omega,kk.size⟩,kk,G7⟩
  ·have:i=0\/i=1\/i=2\/i=3\/i=4:=(by omega);rcases this with rfl|rfl|rfl|rfl|rfl
   ·exact ownsRow_nil _ _ _ _
   ·exact ownsRow_nil _ _ _ _
   ·show W3.ownsRow _ _ _ (.slice (some ⟨w.heap.size,0,none⟩) N N) (replicate N 0).length (cO (replicate N 0));have e:cO (replicate N 0)=replicate N (.int .i64 0):=(by simp[cO]);rw[e,length_replicate];exact o1
   ·exact ownsRow_nil _ _ _ _
   exact ownsRow_nil _ _ _ _
  ·have:=(ay i hi g e1).1;have:=(ay j hj g e2).1;omega
  exact o2
 have H0:=hid h0;rw[uV,hb];clear uV h0;have Hbs:=hid (Zz hb pY);clear hb pY;go_wp2_with fail;go_loopw [4,13] (fun _ vk wr=>∃k:Nat,vk=.int .i64 k/\k<=N/\Hid (∃v vS,bE W3 w.heap.size bs b v vS (AY N k) wr)) (fun _ v _=>N-(intOf v).toNat)
 ·exact⟨0,rfl,zero_le _,_,_,H0.out.1⟩
 obtain⟨k,rfl,hk,HL⟩:=hrel;by_cases an:k<N
 ·obtain⟨v,vS,h⟩:=HL.out;have ka:((AY N k).L 0).length=k:=by show (range k).length=k;simp
  have hO:=h.row 0 (by omega);obtain⟨a3,c3,e3⟩:=h.CT 0 (by omega) ka;have a4:=h.c0.1;rw[ka,e3] at hO;rw[e3] at a4;have hV:=h.hB;have HP:=hid h;have qD:=hid e3;have Hl0:=hid ka;obtain⟨i0,hi,du,cH,ct⟩:=info_parts az;have i1:(k:Int)<N:=by omega
  clear h e3 ka HL;go_upto_region 5 with fail;go_wp2_with (at_builtin;refine wpList_append_own_at _ rfl _ _ 30 rfl w.heap.size 3 i0 (.int .i64 0) 1 8 underlying30 hi du cH ct rfl (by decide) _ _ _ rfl (hO.alloc _) ⟨wr.heap.size,0,none⟩ 1 1 [.int .i64 (k:Int)] rfl rfl (cell_one_new _ _ _) ?d2 ?d3 ?d4 ?d5 ?_)
  case d2=>intro u hu;simp at hu;subst hu;rfl
  case d3=>unfold maxLen;omega
  case d4=>omega
  case d5=>simp;omega
  intro v' w5 ah ag _ bG;have h2:=HP.out.ab (al wr (.cells #[.int .i64 (k:Int)] 3));have fG:=h2.st.ae (hO.alloc _) (by decide) ag;have p3:w5.cell? ⟨b,0,none⟩=some (.slice a3 k c3):=by rw[fG.at_];show some (v 0)=_;rw[qD.out]
  have pf:=fG.aZ 0;have h5:bE W3 w.heap.size bs b (sr v 0 v') vS ⟨eR (AY N k).L 0 (range k++[k]),(AY N k).sp⟩ (w5.setCell ⟨b,0,none⟩ v'):=h2.app (v':=v') (x:=k) 0 (by omega) Hl0.out ah (by rw[qD.out];exact ag) (by
   rw[show (wr.alloc (.cells #[.int .i64 (k:Int)] 3)).heap.size=wr.heap.size+1 by simp,qD.out]
   rcases bG with h|h
   ·exact inl h
   ·exact inr (inl h))
  obtain⟨a5,c5,rfl⟩:=bJ ah;clear ah ag bG h2 fG hO a4;go_upto_region 6 with fail;clear p3 pf;obtain⟨W6,sN⟩:∃W6,w5.setCell ⟨b,0,none⟩ (.slice a5 (k+1) c5)=W6:=⟨_,rfl⟩
  obtain⟨v6,TC⟩:∃v6,sr v 0 (.slice a5 (k+1) c5)=v6:=⟨_,rfl⟩
  rw[sN,TC] at h5;rw[sN];clear sN TC HP qD;have jo:((⟨eR (AY N k).L 0 (range k++[k]),(AY N k).sp⟩:Pt).L 1).length=k:=by show (range k).length=k;simp
  have hO:=h5.row 1 (by omega);obtain⟨a3,c3,e3⟩:=h5.CT 1 (by omega) jo;have a4:=h5.c1.1;rw[jo,e3] at hO;rw[e3] at a4;have hV:=h5.hB;have HP:=hid h5;have qD:=hid e3;have Hl1:=hid jo;clear h5 e3 jo;go_wp2_with (at_builtin;refine wpList_append_own_at _ rfl _ _ 30 rfl w.heap.size 3 i0 (.int .i64 0) 1 8 underlying30 hi du cH ct rfl (by decide) _ _ _ rfl (hO.alloc _) ⟨W6.heap.size,0,none⟩ 1 1 [.int .i64 (k:Int)] rfl rfl (cell_one_new _ _ _) ?f2 ?f3 ?f4 ?f5 ?_)
  case f2=>first|(intro u hu;simp at hu;subst hu;rfl)|rfl
  case f3=>unfold maxLen;omega
  case f4=>omega
  case f5=>first|(simp;omega)|omega
  intro v' w7 ah ag _ bG;have h2:=HP.out.ab (al W6 (.cells #[.int .i64 (k:Int)] 3));have fG:=h2.st.ae (hO.alloc _) (by decide) ag;have p3:w7.cell? ⟨b,1,none⟩=some (.slice a3 k c3):=by rw[fG.at_];show some (v6 1)=_;rw[qD.out]
  have pf:=fG.aZ 1;have HF:Hid (bE W3 w.heap.size bs b (sr v6 1 v') vS (AY N (k+1)) (w7.setCell ⟨b,1,none⟩ v')):=by
   have h7:=h2.app (v':=v') (x:=k) 1 (by omega) Hl1.out ah (by rw[qD.out];exact ag) (by
    rw[show (W6.alloc (.cells #[.int .i64 (k:Int)] 3)).heap.size=W6.heap.size+1 by simp,qD.out]
    rcases bG with h|h
    ·exact inl h
    ·exact inr (inl h))
   refine h7.congr (fun i hi=>?_) rfl;have:i=0\/i=1\/i=2\/i=3\/i=4:=(by omega);rcases this with rfl|rfl|rfl|rfl|rfl
   ·show range k++[k]=range (k+1);rw[range_succ]
   ·show range k++[k]=range (k+1);rw[range_succ]
   ·rfl
   ·rfl
   rfl
  obtain⟨a7,c7,rfl⟩:=bJ ah;clear ah ag bG h2 fG hO a4 HP;go_wp2;go_roundw
  ·exact⟨k+1,by go_num,by omega,_,_,HF.out⟩
  simp[intOf];omega
 obtain rfl:k=N:=by omega
 obtain⟨v,vS,h⟩:=HL.out;have HF:Hid (Of k w (.returned (.pointer (some ⟨b,0,none⟩))) wr):=by
  refine⟨b,v,vS,rfl,?_,H0.out.2.1.trans h.below,fun x hx=>?_⟩
  ·exact h.start.congr (fun i hi=>rfl) rfl
  rcases h.sK x hx with h3|h3
  ·exact H0.out.2.2 x h3
  exact le_trans H0.out.2.1.size h3
 clear h HL H0;go_wp2;go_ret;exact HF.out
theorem UW(x:Nat)(h:x<18446744073709551616):IntKind.u64.wrap (x:Int)=x:=by
 simp only[IntKind.wrap,IntKind.bits,IntKind.signed];simp;omega
theorem SN(N:Nat)(hN:N<4294967296):bits .and .u64 (N:Int) 4294967295=(N:Int):=by
 have h:=u64_and_nat N 4294967295 (by omega) (by omega);have e:N &&& 4294967295=N:=by
  rw[show (4294967295:Nat)=2 ^ 32-1 from rfl,Nat.and_two_pow_sub_one_eq_mod,Nat.mod_eq_of_lt hN]
 rw[e] at h;exact h
theorem zlw(N:Nat)(hN:N<=100000)(w:World):Calls prog 122 #[.int .u64 1,.int .u64 (N:Int)] w fun e w'=>e=.returned (.tuple #[.int .u64 0,.int .u64 (N:Int)])/\w=w':=by
 have h1:(N:Int) % 4294967296=(N:Int):=by omega
 have h2:(N:Int) / 4294967296=0:=by omega
 have h3:=SN N (by omega);have h4:bits .and .u64 1 4294967295=1:=SN 1 (by omega);have h5:bits .and .u64 0 4294967295=0:=SN 0 (by omega);have h6:IntKind.u64.wrap (N:Int)=N:=UW N (by omega);have h7:IntKind.u64.wrap 0=0:=by decide
 go_enter func122,ntmps122;go_wp2;go_ret2;exact⟨rfl,rfl⟩
theorem zni(N:Nat)(hN:N<=100000)(w:World):Calls prog 84 #[.int .u64 1,.int .u64 (N:Int)] w fun e w'=>e=.returned (.tuple #[.int .u64 0,.int .u64 (N:Int)])/\w=w':=by
 have HM:=hid (zlw N hN w);go_enter func84,ntmps84;go_wp2_with fail;refine HM.out.mono ?_;rintro e w2 ⟨rfl,rfl⟩;go_wp2;go_ret2;exact⟨rfl,rfl⟩
def M1(N:Nat)(w:World)(e:Ending)(w':World):Prop:=
 ∃g,e=.returned (.slice (some ⟨g,0,none⟩) N N)/\w'.ownsRow w.heap.size 3 1 (.slice (some ⟨g,0,none⟩) N N) N (ints (replicate N (-1)))/\Below w.heap.size w w'
def iR(N n:Nat):List Value:=replicate n (.int .i64 (-1))++replicate (N-n) (.int .i64 0)
theorem PF(N n:Nat)(h:n<=N):(iR N n).length=N:=by simp[iR];omega
theorem zhM(N n m:Nat)(h:n+m<=N):splice (iR N n) n (replicate m (.int .i64 (-1)))=iR N (n+m):=by
 unfold splice iR;rw[List.take_append_of_le_length (by simp),take_of_length_le (by simp),length_replicate,List.drop_append];simp only[length_replicate,List.drop_replicate];rw[show n-(n+m)=0 by omega,List.replicate_zero,List.nil_append,<-List.append_assoc,List.replicate_append_replicate,show N-n-(n+m-n)=N-(n+m) by omega]
theorem znj(N:Nat):splice (replicate N (Value.int .i64 0)) 0 [.int .i64 (-1)]=iR N 1\/N=0:=by
 rcases Nat.eq_zero_or_pos N with h|h
 ·exact inr h
 left;unfold splice iR;simp
theorem Yh(N:Nat)(Wc:1<=N)(hN:N<=100000)(g:Nat)(w:World)(hc:w.cell? ⟨g,0,none⟩=some (.int .i64 (-1)))(hg:g<w.heap.size):
  Calls prog 54 #[.slice (some ⟨g,0,none⟩) 1 1,.int .i64 (N:Int)] w (M1 N w):=by
 have HM:=hid (zni N hN w);have hm:=JA N (by omega);have i1:¬((N:Int)<0):=by omega
 have i2:IntKind.u64.wrap (N:Int)=N:=UW N (by omega);have i3:¬((N:Int) > 9223372036854775807):=by omega
 have i4:IntKind.i64.wrap (N:Int)=N:=IntWalk.i64_in _ (by omega);have i5:IntKind.u64.wrap 1=1:=by decide
 have iI:=az;go_enter func54,ntmps54;go_wp2_with fail;refine HM.out.mono ?_;rintro e w2 ⟨rfl,rfl⟩;go_upto_region 7 with fail;have HG:Hid ((w.alloc (.cells (madeCells #[.int .i64 0] N) 3)).heap[w.heap.size]?=some (.cells (replicate N (.int .i64 0)).toArray 3 (0,0))/\Below w.heap.size w (w.alloc (.cells (madeCells #[.int .i64 0] N) 3))):=by
  refine⟨?_,al w _⟩;have:=(yI (DX w w.heap.size N 3 (.int .i64 0) (le_refl _) (by unfold maxLen;omega))).1;exact this
 have fH:(w.alloc (.cells (madeCells #[.int .i64 0] N) 3)).cell? ⟨g,0,none⟩=some (.int .i64 (-1)):=((al w _).cell (p:=⟨g,0,none⟩) hg).trans hc;obtain⟨gN,lH⟩:∃gN,w.heap.size=gN:=⟨_,rfl⟩
 rw[lH] at HG⊢;generalize w.alloc (.cells (madeCells #[.int .i64 0] N) 3)=W1 at HG fH⊢;have Ar:Nat.min 1 N=1:=Nat.min_eq_left Wc;have WG:=hid lH;clear lH hm hc HM;have jL:∀j v,([Value.int .i64 (-1)]:List Value)[j]?=some v->W1.cell? ((⟨g,0,none⟩:Addr).add j)=some v:=fun j v hj=>by
  have:j=0:=by
   have:=(List.getElem?_eq_some_iff.1 hj).1;simpa using this
  subst this;simp at hj;rw[<-hj];exact fH
 have Rl:=hid jL;clear jL;have Ka:(prog.info? 3).map (·.size)=some 1:=by kernel_rfl
 have AT:0<([Value.int .i64 (-1)]:List Value).length->(some ⟨gN,0,none⟩:Option Addr)=some ⟨gN,0,none⟩/\∃ad,(some ⟨g,0,none⟩:Option Addr)=some ad/\∀j v,([Value.int .i64 (-1)]:List Value)[j]?=some v->W1.cell? (ad.add j)=some v:=fun _=>⟨rfl,⟨g,0,none⟩,rfl,Rl.out⟩
 have sy:0+([Value.int .i64 (-1)]:List Value).length<=(replicate N (Value.int .i64 0)).length:=by rw[length_replicate];show 0+1<=N;omega
 have yX:∀v∈([Value.int .i64 (-1)]:List Value),v.oneCell'=true:=by intro v hv;rw[List.mem_singleton.1 hv];rfl
 have HP:=hid (Zz AT (Zz sy yX));have NO:=hid Ar;clear AT sy yX Ar;go_wp2_with (refine wpList_copy_splice rfl _ _ _ _ rfl 3 underlying30 Ka (some ⟨gN,0,none⟩) (some ⟨g,0,none⟩) N N 1 1 rfl rfl gN 0 (replicate N (.int .i64 0)) 3 HG.out.1 [.int .i64 (-1)] NO.out.symm HP.out.1 HP.out.2.1 HP.out.2.2 gN w HG.out.2 (le_refl _) ?_);intro W2 IG mK;have H2:Hid (W2.heap[gN]?=some (.cells (iR N 1).toArray 3 (0,0))/\Below gN w W2):=by
  refine⟨?_,mK⟩;have h:=IG.out;rcases znj N with e|e
  ·rw[e] at h;exact h
  omega
 clear IG mK HG fH;go_wp2_with fail;go_loopw [8] (fun v wr=>∃n:Nat,v=.int .i64 n/\1<=n/\n<=N/\Hid (wr.heap[gN]?=some (.cells (iR N n).toArray 3 (0,0))/\Below gN w wr)) (fun v _=>N-(intOf v).toNat)
 ·exact⟨1,rfl,le_refl _,Wc,H2.out⟩
 clear H2;obtain⟨n,rfl,cZ,hn,HL⟩:=hrel;by_cases an:n<N
 ·have j1:(n:Int)<N:=by omega
  have j2:(n:Int)<=N:=by omega
  obtain⟨m,iQ⟩:∃m,min n (N-n)=m:=⟨_,rfl⟩
  have iD:1<=m/\n+m<=N/\m<=n:=by omega
  have Ho:Nat.min n (N-n)=m:=iQ;have Iv:(replicate m (Value.int .i64 (-1))).length=Nat.min n (N-n):=by rw[length_replicate,Ho]
  have AT:0<(replicate m (Value.int .i64 (-1))).length->(some ⟨gN,n,none⟩:Option Addr)=some ⟨gN,n,none⟩/\∃ad,(some ⟨gN,0,none⟩:Option Addr)=some ad/\∀j v,(replicate m (Value.int .i64 (-1)))[j]?=some v->wr.drew.cell? (ad.add j)=some v:=fun _=>⟨rfl,⟨gN,0,none⟩,rfl,fun j v hj=>by
   have hj2:j<m:=by simpa using (List.getElem?_eq_some_iff.1 hj).1
   have hv:v=.int .i64 (-1):=by
    have:=(List.getElem?_eq_some_iff.1 hj).2
    simpa using this.symm
   have hc:wr.cell? ⟨gN,j,none⟩=(iR N n).toArray[j]?:=cell_of_row wr gN j _ _ _ HL.out.1
   have e:(⟨gN,0,none⟩:Addr).add j=⟨gN,j,none⟩:=by unfold Addr.add;split <;> simp_all
   rw[e]
   show wr.cell? ⟨gN,j,none⟩=some v
   rw[hc,hv]
   simp[iR,List.getElem?_append,show j<n by omega]⟩
  have sy:n+(replicate m (Value.int .i64 (-1))).length<=(iR N n).length:=by rw[length_replicate,PF N n hn];omega
  have yX:∀v∈replicate m (Value.int .i64 (-1)),v.oneCell'=true:=by intro v hv;rw[List.eq_of_mem_replicate hv];rfl
  have HP:=hid (Zz Iv (Zz AT (Zz sy yX)));have Nc:Hid (wr.drew.heap[gN]?=some (.cells (iR N n).toArray 3 (0,0))/\Below gN w wr.drew):=⟨HL.out.1,HL.out.2.drew⟩
  have HS:Hid (splice (iR N n) n (replicate m (Value.int .i64 (-1)))=iR N (n+m)):=zhM N n m iD.2.1;have Hm:=hid (Zz iQ iD);clear Iv AT sy yX iQ Ho iD;have hne:¬(N=n):=by omega
  go_upto_region 9 with fail;refine wp_region_held_drew (S:=fun W'=>Below gN w W') (by kernel_rfl) Nc.out.2 (fun hHeld=>?_)
  (refine av 0 ?_;refine av 1 ?_;refine av 2 ?_;try simp only[put,sA,sB,sC];refine av 3 ?_;refine av 4 ?_;refine av 5 ?_;try simp only[put,sA,sB,sC];refine av 6 ?_;try simp only[put,sA,sB,sC])
  refine bq 7 (fun K hK=>?_);skip;refine step_copy_splice (by rfl) _ _ _ _ (by rfl) 3 underlying30 Ka (some ⟨gN,n,none⟩) (some ⟨gN,0,none⟩) (N-n) (N-n) n N (by rfl) (by rfl) gN n (iR N n) 3 Nc.out.1 (replicate m (Value.int .i64 (-1))) HP.out.1 HP.out.2.1 HP.out.2.2.1 HP.out.2.2.2 gN w Nc.out.2 (le_refl _) ?_;intro W5 Zn ec;have H5:Hid (W5.heap[gN]?=some (.cells (iR N (n+m)).toArray 3 (0,0))/\Below gN w W5):=by
   have h:=Zn.out;rw[HS.out] at h;exact⟨h,ec⟩
  have hlen:(replicate m (Value.int .i64 (-1))).length=m:=length_replicate;rw[hlen];refine hK.out _ _ (ec) (fun hHeld=>?_);clear hK K
  try simp only[put,sA,sB,sC]
  have w1:(n:Int)+(m:Int)<=100000:=by have:=Hm.out.2;omega
  have w2:IntKind.i64.wrap ((n:Int)+(m:Int))=(n:Int)+(m:Int):=IntWalk.i64_in _ (by omega)
  (refine av 8 ?_;refine av 9 ?_;try simp only[put,sA,sB,sC])
  refine wpAnyH_done (by kernel_rfl) ?_ _;clear Zn ec Nc HP HL HS hHeld;go_wp2;go_roundw
  ·exact⟨n+m,by go_num,by have:=Hm.out.2;omega,by have:=Hm.out.2;omega,H5.out⟩
  (have h8:=Hm.out.2;have h9:((n:Int)+(m:Int)).toNat=n+m:=(by omega);simp[intOf];omega)
 obtain rfl:n=N:=by omega
 have HF:Hid (M1 n w (.returned (.slice (some ⟨gN,0,none⟩) n n)) wr):=by
  refine⟨gN,rfl,?_,by rw[WG.out];exact HL.out.2⟩;rw[WG.out];have e:iR n n=ints (replicate n (-1)):=by simp[iR,ints]
  refine⟨by simp[ints],inr ⟨gN,n,_,rfl,le_refl _,HL.out.1,le_refl _,by unfold maxLen;omega,by simp[PF n n (le_refl _)],?_⟩⟩;rw[<-e];simp[take_of_length_le,PF n n (le_refl _)]
 clear HL;go_wp2;go_ret;exact HF.out
def oZ(f:Nat->Int)(n:Nat):List Value:=(range n).map fun y=>Value.int .i64 (f y)
theorem Mk(f:Nat->Int)(n x:Nat)(h:x<n):(oZ f n)[x]?=some (.int .i64 (f x)):=by simp[oZ,h]
theorem ZF(f:Nat->Int)(n x:Nat)(v:Int):(oZ f n).set x (.int .i64 v)=oZ (fun y=>if y=x then v else f y) n:=by
 unfold oZ;apply ext_getElem?;intro i;rw[List.getElem?_set];by_cases e:x=i
 ·subst e;by_cases h:x<n
  ·simp[h]
  simp[h]
 rw[if_neg e];by_cases h:i<n
 ·simp[h,Ne.symm e,show ¬i=x from fun h=>e h.symm]
 simp[h]
theorem Yx(n:Nat)(v:Int):ints (replicate n v)=oZ (fun _=>v) n:=by
 unfold oZ ints;apply ext_getElem?;intro i;by_cases h:i<n <;> simp[h]
def LL(x:Nat->Int):Int->List Nat->Prop
 | v,[]=>v=-1
 | v,a :: l=>v=(a:Int)/\LL x (x a) l
def chain(t:Nat->Nat)(k s:Nat):List Nat:=((range k).filter fun i=>t i == s).reverse
theorem Kd(t:Nat->Nat)(k s i:Nat):i∈chain t k s↔i<k/\t i=s:=by simp[chain]
theorem zhz(t:Nat->Nat)(k s:Nat):(chain t k s).Nodup:=by
 unfold chain;exact List.pairwise_reverse.2 ((List.Nodup.sublist List.filter_sublist List.nodup_range).imp fun h=>Ne.symm h)
theorem zjD(t:Nat->Nat)(k s:Nat):chain t (k+1) s=if t k=s then k :: chain t k s else chain t k s:=by
 unfold chain;rw[range_succ,List.filter_append,List.reverse_append];by_cases h:t k=s
 ·simp[h]
 simp[h]
theorem LL.congr{x x':Nat->Int}:∀(l:List Nat) (v:Int),(∀a∈l,x a=x' a)->LL x v l->LL x' v l
 | [],_,_,h=>h
 | a :: l,v,e,h=>⟨h.1,by
   have h2:=h.2
   rw[e a List.mem_cons_self] at h2
   exact LL.congr l _ (fun b hb=>e b (List.mem_cons_of_mem _ hb)) h2⟩
theorem LL.link{t:Nat->Nat}{f x:Nat->Int}{N k:Nat}(h:∀s,s<N->LL x (f s) (chain t k s))(hk:t k<N):
  ∀s,s<N->LL (fun j=>if j=k then f (t k) else x j) (if s=t k then (k:Int) else f s) (chain t (k+1) s):=by
 intro s xe;rw[zjD];have hc:∀s,s<N->LL (fun j=>if j=k then f (t k) else x j) (f s) (chain t k s):=fun s xe=>
  LL.congr _ _ (fun a ha=>by
   have:=((Kd t k s a).1 ha).1
   rw[if_neg (by omega)]) (h s xe)
 by_cases e:s=t k
 ·subst e;rw[if_pos rfl,if_pos rfl];refine⟨rfl,?_⟩;show LL _ (if k=k then f (t k) else x k) _;rw[if_pos rfl];exact hc _ xe
 rw[if_neg e,if_neg (fun e2=>e e2.symm)];exact hc _ xe
structure qP (W0 w:World)(b gF gX N:Nat)(f x:Nat->Int):Prop where
 bb:Below W0.heap.size W0 w
 st:St w 178 b #[.slice (some ⟨gF,0,none⟩) N N,.slice (some ⟨gX,0,none⟩) N N]
 fs:w.ownsRow W0.heap.size 3 1 (.slice (some ⟨gF,0,none⟩) N N) N (oZ f N)
 xs:w.ownsRow W0.heap.size 3 1 (.slice (some ⟨gX,0,none⟩) N N) N (oZ x N)
 ne:gF≠gX
 lo:W0.heap.size<=b
theorem qP.ab{w:World}{b N:Nat}{f x:Nat->Int}(h:qP W0 w b gF gX N f x)(k:Below w.heap.size w w1):qP W0 w1 b gF gX N f x:=
 ⟨h.bb.trans (k.mono h.bb.size),h.st.ab k,cW h.fs k,cW h.xs k,h.ne,h.lo⟩
theorem qP.Ol{w:World}{b N:Nat}{f x:Nat->Int}(h:qP W0 w b gF gX N f x)(i:Nat)(hi:i<N)(v:Int):qP W0 (w.setCell ⟨gX,i,none⟩ (.int .i64 v)) b gF gX N f (fun j=>if j=i then v else x j):=by
 have hk:Kept [] [gX] w (w.setCell ⟨gX,i,none⟩ (.int .i64 v)):=(Kept.refl _ _ _).setCell _ _ (inl (by simp));refine⟨h.bb.setCell (p:=⟨gX,i,none⟩) (kq h.xs gX rfl) _,h.st.fq (p:=⟨gX,i,none⟩) (fun e=>ef h.xs h.st (by decide) gX rfl e.symm) _,fA h.fs hk (by simp) (fun g e hm=>?_),?_,h.ne,h.lo⟩
 ·rw[List.mem_singleton.1 hm] at e;simp[ownBlock] at e;exact h.ne e
 rw[<-ZF];exact uA h.xs i hi _
theorem qP.QA{w:World}{b N:Nat}{f x:Nat->Int}(h:qP W0 w b gF gX N f x)(i:Nat)(hi:i<N)(v:Int):qP W0 (w.setCell ⟨gF,i,none⟩ (.int .i64 v)) b gF gX N (fun j=>if j=i then v else f j) x:=by
 have hk:Kept [] [gF] w (w.setCell ⟨gF,i,none⟩ (.int .i64 v)):=(Kept.refl _ _ _).setCell _ _ (inl (by simp));refine⟨h.bb.setCell (p:=⟨gF,i,none⟩) (kq h.fs gF rfl) _,h.st.fq (p:=⟨gF,i,none⟩) (fun e=>ef h.fs h.st (by decide) gF rfl e.symm) _,?_,fA h.xs hk (by simp) (fun g e hm=>?_),h.ne,h.lo⟩
 ·rw[<-ZF];exact uA h.fs i hi _
 rw[List.mem_singleton.1 hm] at e;simp[ownBlock] at e;exact h.ne e.symm
theorem qP.atF{w:World}{b N:Nat}{f x:Nat->Int}(h:qP W0 w b gF gX N f x)(i:Nat)(hi:i<N):w.cell? ⟨gF,i,none⟩=some (.int .i64 (f i))/\w.frozen? ⟨gF,i,none⟩=false:=by
 obtain⟨g,e,_,_,hc⟩:=ep h.fs (by omega);injection e with e;injection e with e;subst e;obtain⟨h1,h2⟩:=hc i (by omega);exact⟨by rw[h1,Mk _ _ _ hi],h2⟩
theorem qP.atX{w:World}{b N:Nat}{f x:Nat->Int}(h:qP W0 w b gF gX N f x)(i:Nat)(hi:i<N):w.cell? ⟨gX,i,none⟩=some (.int .i64 (x i))/\w.frozen? ⟨gX,i,none⟩=false:=by
 obtain⟨g,e,_,_,hc⟩:=ep h.xs (by omega);injection e with e;injection e with e;subst e;obtain⟨h1,h2⟩:=hc i (by omega);exact⟨by rw[h1,Mk _ _ _ hi],h2⟩
theorem zjE:∀(args:Array Value) (W:World),(callFunc 153 args).run prog W=.ok (.enter 153 args) W:=fun _ _=>by rfl
def zm2(W0 w:World)(b gF gX N:Nat)(f x:Nat->Int)(e:Ending)(w':World):Prop:=e=.returned (.tuple #[])/\qP W0 w' b gF gX N f x/\Kept [] [gF,gX] w w'
theorem Ve(W0 w:World)(b gF gX N:Nat)(f x:Nat->Int)(h:qP W0 w b gF gX N f x)(i t:Nat)(hi:i<N)(ht:t<N):
  Calls prog 153 #[.int .i64 (i:Int),.int .i64 (t:Int),.pointer (some ⟨b,0,none⟩)] w (zm2 W0 w b gF gX N (fun j=>if j=t then (i:Int) else f j) (fun j=>if j=i then f t else x j)):=by
 have c0:w.cell? ⟨b,0,none⟩=some (.slice (some ⟨gF,0,none⟩) N N):=h.st.at_ 0;have c1:w.cell? ⟨b,1,none⟩=some (.slice (some ⟨gX,0,none⟩) N N):=h.st.at_ 1;obtain⟨d0,d1⟩:=h.atF t ht;obtain⟨d2,d3⟩:=h.atX i hi;have fp:gX≠b:=ef h.xs h.st (by decide) gX rfl;have cr:gF≠b:=ef h.fs h.st (by decide) gF rfl;have dH:b≠gX:=fun e=>fp e.symm
 have eV:b≠gF:=fun e=>cr e.symm
 have hF:=hid ((h.Ol i hi (f t)).QA t ht (i:Int));have e1:gX≠gF:=fun e=>h.ne e.symm
 have e2:gF≠gX:=h.ne;have i1:(i:Int)<N:=by omega
 have i2:(t:Int)<N:=by omega
 clear h;generalize f t=ft at d0 hF⊢;generalize x i=xi at d2;go_enter func153,ntmps153;go_wp2_with fail
 go_region
 go_wp2_with fail;go_end0;exact⟨rfl,hF.out.ab (Below.refl _ _).drew,(((Kept.refl _ _ _).setCell _ _ (inl (by simp))).setCell _ _ (inl (by simp))).drew⟩
def tD(D:Dd)(i c:Nat):Nat:=if i<D.n/\0<=D.nx i c then (D.nx i c).toNat else D.n
theorem Fe{D:Dd}{C:Nat}(h:DR D C)(i c:Nat)(hc:c<C):tD D i c<D.n+1:=by
 unfold tD;split
 ·rename_i h1;have:=h.nx i c h1.1 hc;omega
 omega
def Yz(D:Dd)(c:Nat)(w:World)(e:Ending)(w':World):Prop:=
 ∃(gF gX:Nat) (f x:Nat->Int),e=.returned (.agg #[.slice (some ⟨gF,0,none⟩) (D.n+1) (D.n+1),.slice (some ⟨gX,0,none⟩) (D.n+1) (D.n+1)])/\
  w'.ownsRow w.heap.size 3 1 (.slice (some ⟨gF,0,none⟩) (D.n+1) (D.n+1)) (D.n+1) (oZ f (D.n+1))/\w'.ownsRow w.heap.size 3 1 (.slice (some ⟨gX,0,none⟩) (D.n+1) (D.n+1)) (D.n+1) (oZ x (D.n+1))/\
  (∀s,s<D.n+1->LL x (f s) (chain (fun i=>tD D i c) (D.n+1) s))/\Below w.heap.size w w'
theorem zfE(D:Dd)(C:Nat)(hR:DR D C)(c:Nat)(hc:c<C)(w:World)(hD:DM w D):
  Calls prog 127 #[.agg D.cD,.int .i64 (c:Int)] w (Yz D c w):=by
 have cQ:=hR.n2;obtain⟨N,hN⟩:∃N,D.n+1=N:=⟨_,rfl⟩
 have mq:Hid (∀(W:World) (g:Nat),W.cell? ⟨g,0,none⟩=some (.int .i64 (-1))->g<W.heap.size->Calls prog 54 #[.slice (some ⟨g,0,none⟩) 1 1,.int .i64 ((D.n:Int)+1)] W (M1 N W)):=fun W g h1 h2=>by
  have:=Yh N (by omega) (by omega) g W h1 h2;rw[<-hN] at this⊢;exact this
 have HD:=hid hD;have HB:=hid (Zz (cm.new hD) (Zz (al w (.cells D.cD 39)) (Zz hR hN)));clear hD hR hN;go_enter func127,ntmps127;go_upto_region 1 with fail;obtain⟨W1,sf⟩:∃W1,(w.alloc (.cells D.cD 39)).alloc (.cells #[.slice none 0 0,.slice none 0 0] 178)=W1:=⟨_,rfl⟩
 obtain⟨b0,aD⟩:∃b0,w.heap.size=b0:=⟨_,rfl⟩
 have H1:Hid (cm W1 b0 D/\St W1 178 (b0+1) #[.slice none 0 0,.slice none 0 0]/\Below b0 w W1):=by
  have k2:=al (w.alloc (.cells D.cD 39)) (.cells #[.slice none 0 0,.slice none 0 0] 178);rw[<-sf,<-aD];refine⟨HB.out.1.ab k2,?_,HB.out.2.1.trans (k2.mono (by simp))⟩;have:=St.new (w.alloc (.cells D.cD 39)) 178 #[.slice none 0 0,.slice none 0 0];rw[show (w.alloc (.cells D.cD 39)).heap.size=w.heap.size+1 by simp] at this;exact this
 have cP:=hid aD;rw[sf,aD];clear sf aD;have c1:=H1.out.1.f1;go_wp2_with fail;refine (mq.out _ _ (by exact cell_one_new _ _ _ 0 _ rfl) (by simp)).mono ?_;rintro e w5 ⟨gF,rfl,o5,b5⟩;obtain⟨W5,Fv⟩:∃W5,W5=w5:=⟨_,rfl⟩
 have H5:Hid (w5.ownsRow b0 3 1 (.slice (some ⟨gF,0,none⟩) N N) N (oZ (fun _=>-1) N)/\St w5 178 (b0+1) #[.slice none 0 0,.slice none 0 0]/\Below b0 w w5/\gF<w5.heap.size/\Below W1.heap.size W1 w5):=by
  have k1:=al W1 (.cells #[.int .i64 (-1)] 3);have kI:=H1.out.2.2.size;have nJ:b0<=W1.heap.size:=by have:=H1.out.2.1.lt;omega
  rw[Yx] at o5;exact⟨gE o5 (by simp;omega),(H1.out.2.1.ab k1).ab b5,H1.out.2.2.trans ((k1.mono nJ).trans (b5.mono (by simp;omega))),lB o5 gF rfl,k1.trans (b5.mono (by simp))⟩
 clear o5 b5 Fv W5;go_wp2_with fail;refine (mq.out _ _ (by exact cell_one_new _ _ _ 0 _ rfl) (by simp)).mono ?_;rintro e w6 ⟨gX,rfl,o6,b6⟩;have H6:Hid (w6.ownsRow b0 3 1 (.slice (some ⟨gF,0,none⟩) N N) N (oZ (fun _=>-1) N)/\w6.ownsRow b0 3 1 (.slice (some ⟨gX,0,none⟩) N N) N (oZ (fun _=>-1) N)/\St w6 178 (b0+1) #[.slice none 0 0,.slice none 0 0]/\Below b0 w w6/\gF≠gX/\Below W1.heap.size W1 w6):=by
  have k1:=al w5 (.cells #[.int .i64 (-1)] 3);have nJ:b0<=w5.heap.size:=by have:=H5.out.2.1.lt;omega
  rw[Yx] at o6;have G7:=kq o6 gX rfl;have an:=H5.out.2.2.2.1;refine⟨cW (cW H5.out.1 k1) b6,gE o6 (by simp;omega),(H5.out.2.1.ab k1).ab b6,H5.out.2.2.1.trans ((k1.mono nJ).trans (b6.mono (by simp;omega))),?_,H5.out.2.2.2.2.trans ((k1.mono H5.out.2.2.2.2.size).trans (b6.mono (by have:=H5.out.2.2.2.2.size;simp;omega)))⟩;rw[show (w5.alloc (.cells #[.int .i64 (-1)] 3)).heap.size=w5.heap.size+1 by simp] at G7;omega
 clear o6 b6 H5 c1;go_upto_region 3 with fail;obtain⟨W7,Ob⟩:∃W7,w6.alloc (.cells #[.slice (some ⟨gF,0,none⟩) N N,.slice (some ⟨gX,0,none⟩) N N] 178)=W7:=⟨_,rfl⟩
 obtain⟨b6,eJ⟩:∃b6,w6.heap.size=b6:=⟨_,rfl⟩
 have H7:Hid (qP w W7 b6 gF gX N (fun _=>-1) (fun _=>-1)/\St W7 178 (b0+1) #[.slice none 0 0,.slice none 0 0]/\b0+1≠b6/\Below W1.heap.size W1 W7):=by
  have k1:=al w6 (.cells #[.slice (some ⟨gF,0,none⟩) N N,.slice (some ⟨gX,0,none⟩) N N] 178);have nJ:=H6.out.2.2.1.lt;rw[<-Ob,<-eJ];refine⟨⟨?_,St.new _ _ _,?_,?_,H6.out.2.2.2.2.1,?_⟩,H6.out.2.2.1.ab k1,by omega,H6.out.2.2.2.2.2.trans (k1.mono (H6.out.2.2.2.2.2.size))⟩
  ·rw[cP.out];exact H6.out.2.2.2.1.trans (k1.mono (by omega))
  ·rw[cP.out];exact cW H6.out.1 k1
  ·rw[cP.out];exact cW H6.out.2.1 k1
  rw[cP.out];omega
 rw[Ob,eJ];clear Ob eJ H6;have fW:=zjE;have HN:=HB.out.2.2.2;have c1:W7.cell? ⟨b0,256,none⟩=some (.slice D.aN D.n D.cN):=(H7.out.2.2.2.cell (p:=⟨b0,256,none⟩) H1.out.1.st.lt).trans H1.out.1.f1;go_wp2_with fail;go_loopw [8,9,10,27] (fun _ _ _ vk wr=>∃k:Nat,vk=.int .i64 k/\k<=D.n/\Hid (∃f x,qP w wr b6 gF gX N f x/\St wr 178 (b0+1) #[.slice none 0 0,.slice none 0 0]/\∀s,s<N->LL x (f s) (chain (fun i=>tD D i c) k s))) (fun _ _ _ v _=>D.n-(intOf v).toNat)
 ·exact⟨0,rfl,zero_le _,_,_,H7.out.1,H7.out.2.1,fun s _=>rfl⟩
 obtain⟨k,rfl,hk,HL⟩:=hrel;by_cases an:k<D.n
 ·obtain⟨f,x,yN,rP,Bc⟩:=HL.out;obtain⟨gN,oN,eN,_,pv⟩:=(HD.out.rN.below yN.bb) (by omega);obtain⟨cN,zN⟩:=pv k an;rw[HB.out.2.2.1.len k an] at cN zN;have Kn:0<C:=by omega
  obtain⟨gA,oA,eA,_,mz⟩:=zN Kn;have cA:=mz c hc;rw[eA] at cN;have yo:=HB.out.2.2.1.nx k c an hc;obtain⟨t,ht⟩:∃t,tD D k c=t:=⟨_,rfl⟩
  have DY:t<N:=by rw[<-ht,<-HN];exact Fe HB.out.2.2.1 k c hc
  have HC:=hid (Ve w wr b6 gF gX N f x yN k t (by omega) DY);have Eb:=hid (LL.link (t:=fun i=>tD D i c) (k:=k) Bc (by show tD D k c<N;rw[ht];exact DY));have qy:b0+1≠gF:=fun e=>ef yN.fs rP (by decide) gF rfl e.symm
  have km:b0+1≠gX:=fun e=>ef yN.xs rP (by decide) gX rfl e.symm
  have zO:Hid (∀w',Kept [] [gF,gX] wr w'->St w' 178 (b0+1) #[.slice none 0 0,.slice none 0 0]):=fun w' hk=>rP.kept hk (by simp) (by simp[qy,km])
  have Ht:=hid ht;have YW:(D.nx k c=-1/\t=D.n)\/(D.nx k c≠-1/\D.nx k c=(t:Int)):=by
   rw[<-ht];unfold tD;by_cases h0:D.nx k c=-1
   ·exact inl ⟨h0,by rw[if_neg (by omega)]⟩
   exact inr ⟨h0,by rw[if_pos ⟨an,by omega⟩];omega⟩
  have i1:(k:Int)<(D.n:Int):=by omega
  have i2:(c:Int)<C:=by omega
  rw[eN];have z8:=hid eN;generalize D.nx k c=nx at cA YW;clear pv zN mz yN rP Bc yo ht eA HL c1 HN eN qy km;rcases YW with ⟨rfl,rfl⟩|⟨h0,rfl⟩
  ·go_wp2_with fail;refine HC.out.mono ?_;rintro e w8 ⟨rfl,oj,xR⟩;have H8:=hid (Zz oj (zO.out _ xR));clear oj xR HC cN cA;go_wp2;go_roundw
   ·refine⟨k+1,by go_num,by omega,_,_,H8.out.1,H8.out.2,fun s hs=>?_⟩;have:=Eb.out s hs;simp only[Ht.out] at this;exact this
   simp[intOf];omega
  have i3:((t:Int) == -1)=false:=by rw[beq_eq_false_iff_ne];omega
  go_wp2_with fail;refine HC.out.mono ?_;rintro e w8 ⟨rfl,oj,xR⟩;have H8:=hid (Zz oj (zO.out _ xR));clear oj xR HC cN cA;go_wp2;go_roundw
  ·refine⟨k+1,by go_num,by omega,_,_,H8.out.1,H8.out.2,fun s hs=>?_⟩;have:=Eb.out s hs;simp only[Ht.out] at this;exact this
  simp[intOf];omega
 obtain rfl:k=D.n:=by omega
 obtain⟨f,x,yN,rP,Bc⟩:=HL.out;have OU:tD D D.n c=D.n:=by unfold tD;rw[if_neg (by omega)]
 have HC:=hid (Ve w wr b6 gF gX N f x yN D.n D.n (by omega) (by omega));have Eb:=hid (LL.link (t:=fun i=>tD D i c) (k:=D.n) Bc (by show tD D D.n c<N;rw[OU];omega));have qy:b0+1≠gF:=fun e=>ef yN.fs rP (by decide) gF rfl e.symm
 have km:b0+1≠gX:=fun e=>ef yN.xs rP (by decide) gX rfl e.symm
 have zO:Hid (∀w',Kept [] [gF,gX] wr w'->St w' 178 (b0+1) #[.slice none 0 0,.slice none 0 0]):=fun w' hk=>rP.kept hk (by simp) (by simp[qy,km])
 have Htn:=hid OU;have Fo:=hid HN;clear yN rP Bc OU HL c1 HN qy km;go_wp2_with fail;refine HC.out.mono ?_;rintro e w8 ⟨rfl,oj,xR⟩;have vT:=zO.out _ xR;have s0:w8.cell? ⟨b6,0,none⟩=some (.slice (some ⟨gF,0,none⟩) N N):=oj.st.at_ 0;have s1:w8.cell? ⟨b6,1,none⟩=some (.slice (some ⟨gX,0,none⟩) N N):=oj.st.at_ 1;have s2:w8.cell? ⟨b0+1,0,none⟩=some (.slice none 0 0):=vT.at_ 0;have s3:w8.cell? ⟨b0+1,1,none⟩=some (.slice none 0 0):=vT.at_ 1;have z2:=vT.aZ 0;have z3:=vT.aZ 1;have H8:=hid (Zz oj vT);clear oj vT xR HC;have HF:Hid (Yz D c w (.returned (.agg #[.slice (some ⟨gF,0,none⟩) N N,.slice (some ⟨gX,0,none⟩) N N])) ((w8.setCell ⟨b0+1,0,none⟩ (.slice (some ⟨gF,0,none⟩) N N)).setCell ⟨b0+1,1,none⟩ (.slice (some ⟨gX,0,none⟩) N N))):=by
  have hk:Kept [] [b0+1] w8 ((w8.setCell ⟨b0+1,0,none⟩ (.slice (some ⟨gF,0,none⟩) N N)).setCell ⟨b0+1,1,none⟩ (.slice (some ⟨gX,0,none⟩) N N)):=((Kept.refl _ _ _).setCell _ _ (inl (by simp))).setCell _ _ (inl (by simp));have o1:=fA H8.out.1.fs hk (by simp) (fun g e hm=>ef H8.out.1.fs H8.out.2 (by decide) g e (List.mem_singleton.1 hm));have o2:=fA H8.out.1.xs hk (by simp) (fun g e hm=>ef H8.out.1.xs H8.out.2 (by decide) g e (List.mem_singleton.1 hm));refine⟨gF,gX,_,_,by rw[Fo.out],by rw[Fo.out];exact o1,by rw[Fo.out];exact o2,fun s hs=>?_,?_⟩
  ·have:=Eb.out s (by rw[<-Fo.out];exact hs);simp only[Htn.out] at this;exact this
  have hb:=cP.out;exact (H8.out.1.bb.setCell (p:=⟨b0+1,0,none⟩) (by show w.heap.size<=b0+1;omega) _).setCell (p:=⟨b0+1,1,none⟩) (by show w.heap.size<=b0+1;omega) _
 go_wp2_with fail;refine bodyPost_ret (v:=.agg #[.slice (some ⟨gF,0,none⟩) N N,.slice (some ⟨gX,0,none⟩) N N]) (by simp[results,results127,go_sem,z2,z3,s2,s3]) rfl ?_;exact HF.out
def jy(t:Nat->Nat)(N:Nat)(T:List Nat):List Nat:=T.flatMap (chain t N)
theorem NU(t:Nat->Nat)(N:Nat)(T:List Nat)(i:Nat):i∈jy t N T↔i<N/\t i∈T:=by
 unfold jy;rw[List.mem_flatMap];constructor
 ·rintro⟨s,hs,h⟩;obtain⟨h1,h2⟩:=(Kd t N s i).1 h;exact⟨h1,by rw[h2];exact hs⟩
 rintro⟨h1,h2⟩;exact⟨t i,h2,(Kd t N _ i).2 ⟨h1,rfl⟩⟩
theorem Zj(t:Nat->Nat)(N:Nat):∀(T:List Nat),T.Nodup->(jy t N T).Nodup:=by
 intro T
 induction T with
 | nil=>intro _;simp[jy]
 | cons s T ih=>
  intro h;have h2:=List.nodup_cons.1 h;show (chain t N s++jy t N T).Nodup;rw[List.nodup_append];refine⟨zhz t N s,ih h2.2,fun a ha b hb e=>?_⟩;subst e;have h3:=((Kd t N s a).1 ha).2;have h4:=((NU t N T a).1 hb).2;rw[h3] at h4;exact h2.1 h4
theorem zle(t:Nat->Nat)(N:Nat)(T:List Nat)(k:Nat)(h:k<T.length):jy t N (T.take (k+1))=jy t N (T.take k)++chain t N T[k]:=by
 unfold jy;rw[NC _ _ h,oV _ _ _ h,List.flatMap_append];simp
structure lz (V:World)(B:Nat)(ls:List Nat)(l:List Nat)(v:Value)(w:World):Prop where
 kept:Kept [] ls V w
 below:Below B V w
 own:w.ownsRow B 3 1 v l.length (cO l)
 loc:∀g,v.ownBlock=some g->g∈ls\/V.heap.size<=g
 lo:B<=V.heap.size
theorem lz.ab{B:Nat}{l:List Nat}{v:Value}{w:World}(h:lz V B ls l v w)(k:Below w.heap.size w w1):lz V B ls l v w1:=
 ⟨h.kept.below k,h.below.trans (k.mono (le_trans h.lo h.below.size)),cW h.own k,h.loc,h.lo⟩
theorem lz.app{V:World}{B q:Nat}{ls l:List Nat}{v v':Value}{w w':World}{x:Nat}(h:lz V B ls l v w)(hq:l.length=q)(ho:w'.ownsRow B 3 1 v' (q+1) (cO l++[.int .i64 (x:Int)]))(hg:w.grownBy w' v.ownBlock)(eZ:v'.ownBlock=v.ownBlock\/v'.ownBlock=some w.heap.size):lz V B ls (l++[x]) v' w':=by
 subst hq;have hB:B<=w.heap.size:=le_trans h.lo h.below.size;refine⟨h.kept.grown hg (fun g e=>(h.loc g e).elim inl (fun x=>inr (inl x))),fC h.below h.own hB hg,?_,fun g e=>?_,h.lo⟩
 ·rw[wC,List.length_append];exact ho
 rcases eZ with e1|e1
 ·exact h.loc g (by rw[<-e1];exact e)
 rw[e] at e1;injection e1 with e1;exact inr (by have:=h.below.size;omega)
def B8:Value->Nat
 | .slice _ n _=>n
 | _=>0
def NZ(B:Nat)(ls l:List Nat)(w:World)(e:Ending)(w':World):Prop:=∃a c,e=.returned (.slice a l.length c)/\lz w B ls l (.slice a l.length c) w'
theorem zm3(N:Nat)(hN:N<=100000)(t:Nat->Nat)(ht:∀i,i<N->t i<N)(f x:Nat->Int)(Bc:∀s,s<N->LL x (f s) (chain t N s))(gF gX:Nat)(B B1:Nat)(aS:Option Addr)(cS:Nat)(T:List Nat)(m:Nat)(hm:T.length=m)(hT:T.Nodup)(Su:∀s∈T,s<N)(aT:Option Addr)(cT:Nat)(w:World)
  (oF:w.ownsRow B1 3 1 (.slice (some ⟨gF,0,none⟩) N N) N (oZ f N)) (oX:w.ownsRow B1 3 1 (.slice (some ⟨gX,0,none⟩) N N) N (oZ x N)) (oS:w.ownsRow B 3 1 (.slice aS 0 cS) 0 []) (hB:B<=w.heap.size) (hL:nr w aT T)
  (ls:List Nat) (uZ:ls=(Value.slice aS 0 cS).ownBlock.toList) (nF:gF∉ls) (nX:gX∉ls) (nT:∀ad,aT=some ad->ad.block∉ls):
  Calls prog 129 #[.agg #[.slice (some ⟨gF,0,none⟩) N N,.slice (some ⟨gX,0,none⟩) N N],.slice aS 0 cS,.slice aT m cT] w (NZ B ls (jy t N T) w):=by
 have Uk:m<=N:=by rw[<-hm];exact p8 hT Su
 have yG:∀k,k<=m->(jy t N (T.take k)).length<=N:=fun k hk=>p8 (Zj t N _ (hT.sublist (List.take_sublist _ _))) (fun i hi=>((NU t N _ i).1 hi).1)
 have Dp:∀g∈ls,g<w.heap.size:=fun g hg=>by
  rw[uZ] at hg;exact lB oS g (by simpa using hg)
 have h0:lz w B ls [] (.slice aS 0 cS) w:=⟨Kept.refl _ _ _,Below.refl _ _,oS,fun g e=>inl (by rw[uZ];simpa using e),hB⟩
 have k1:=al w (.cells #[.slice (some ⟨gF,0,none⟩) N N,.slice (some ⟨gX,0,none⟩) N N] 178);have Kn:=h0.ab k1;have Kj:=St.new w 178 #[.slice (some ⟨gF,0,none⟩) N N,.slice (some ⟨gX,0,none⟩) N N];have HX:=hid (Zz ht (Zz Bc (Zz hm (Zz hT (Zz Su (Zz oF (Zz oX (Zz hL (Zz nF (Zz nX (Zz nT (Zz yG Dp))))))))))));obtain⟨b3,dH⟩:∃b3,w.heap.size=b3:=⟨_,rfl⟩
 have Iz:b3∉ls:=fun lG=>by have:=Dp b3 lG;omega
 rw[dH] at Kj;have H1:=hid (Zz Kn (Zz Kj Iz));have pK:=hid dH;clear ht Bc hm hT Su oF oX oS hB hL uZ nF nX nT yG Dp h0 k1 Kn Kj Iz;go_enter func129,ntmps129;go_upto_region 1 with fail;generalize w.alloc (.cells #[.slice (some ⟨gF,0,none⟩) N N,.slice (some ⟨gX,0,none⟩) N N] 178)=W1 at H1⊢;clear dH;go_wp2_with fail;go_loopw [1,8,9,12] (fun v1 _ _ vk wr=>∃(k p:Nat) (a:Option Addr) (c:Nat),vk=.int .i64 k/\k<=m/\p<=N/\v1=.slice a p c/\Hid ((jy t N (T.take k)).length=p/\lz w B ls (jy t N (T.take k)) (.slice a p c) wr/\St wr 178 b3 #[.slice (some ⟨gF,0,none⟩) N N,.slice (some ⟨gX,0,none⟩) N N])) (fun _ _ _ v _=>m-(intOf v).toNat)
 ·exact⟨0,0,aS,cS,rfl,zero_le _,zero_le _,rfl,rfl,H1.out.1,H1.out.2.1⟩
 obtain⟨k,p,a,c,rfl,hk,hpN,rfl,HL⟩:=hrel;by_cases an:k<m
 ·have hkl:k<T.length:=by rw[HX.out.2.2.1];exact an
  obtain⟨gT,oT,eT,_,pG⟩:=(nr.tA HX.out.2.2.2.2.2.2.2.1 HL.out.2.1.kept HL.out.2.1.below.size HX.out.2.2.2.2.2.2.2.2.2.2.1) (by omega);have OY:wr.cell? ⟨gT,oT+k,none⟩=some (.int .i64 ((T.getD k 0:Nat):Int)):=pG k hkl;rw[oV _ _ _ hkl] at OY;have Mc:=HX.out.2.2.2.2.1 _ (List.getElem_mem hkl);have bQ:=zle t N T k hkl;have Dw:=HX.out.2.1 _ Mc;have xL:=HX.out.2.2.2.2.2.2.2.2.2.2.2.1 (k+1) (by omega);rw[bQ] at xL;have DO:=hid bQ;obtain⟨s,hs⟩:∃s,T[k]=s:=⟨_,rfl⟩
  rw[hs] at OY Mc Dw xL DO;clear hs bQ pG;obtain⟨P0,Iv⟩:∃P0,jy t N (T.take k)=P0:=⟨_,rfl⟩
  rw[Iv] at xL DO HL;obtain⟨cF,N8⟩:∃cF:Nat->Int,cF=f:=⟨f,rfl⟩
  have Ui:=fA HX.out.2.2.2.2.2.1 HL.out.2.1.kept (by simp) (fun g e lG=>by simp[ownBlock] at e;rw[<-e] at lG;exact HX.out.2.2.2.2.2.2.2.2.1 lG);obtain⟨gF',eF,_,_,VP⟩:=ep Ui (by omega);injection eF with eF;injection eF with eF;subst eF;have d0:=(VP s (by omega)).1;rw[Mk _ _ _ Mc] at d0;have s0:wr.cell? ⟨b3,0,none⟩=some (.slice (some ⟨gF,0,none⟩) N N):=HL.out.2.2.at_ 0;have i1:(k:Int)<m:=by omega
  have i2:(s:Int)<N:=by omega
  rw[eT];have HeT:=hid eT;have Ry:=hid (Zz Dw xL);clear VP Ui eT Dw xL Iv N8;obtain⟨fs,ki⟩:∃fs,f s=fs:=⟨_,rfl⟩
  rw[ki] at d0 Ry;clear ki;go_wp2_with fail;obtain⟨W9,OK⟩:∃W9,W9=wr:=⟨wr,rfl⟩
  clear OK W9 d0 s0 OY;go_loopw [1,9] (fun v1 v9 wq=>∃(u:Int) (dn rest:List Nat) (p2:Nat) (a2:Option Addr) (c2:Nat),v9=.int .i64 u/\p2<=N/\v1=.slice a2 p2 c2/\Hid (chain t N s=dn++rest/\LL x u rest/\(P0++dn).length=p2/\lz w B ls (P0++dn) (.slice a2 p2 c2) wq/\St wq 178 b3 #[.slice (some ⟨gF,0,none⟩) N N,.slice (some ⟨gX,0,none⟩) N N])) (fun v1 _ _=>N-B8 v1)
  ·exact⟨fs,[],chain t N s,p,a,c,rfl,hpN,rfl,rfl,Ry.out.1,by simpa using HL.out.1,by simpa using HL.out.2.1,HL.out.2.2⟩
  obtain⟨u,dn,rest,p2,a2,c2,rfl,fw,rfl,HK⟩:=hrel;rcases rest with _|⟨y,rest⟩
  ·obtain rfl:u=-1:=HK.out.2.1;have HZ:Hid (jy t N (T.take (k+1))=P0++dn):=by
    show _=_;rw[DO.out,HK.out.1,List.append_nil]
   have we:Hid ((P0++dn).length=p2/\lz w B ls (P0++dn) (.slice a2 p2 c2) wr/\St wr 178 b3 #[.slice (some ⟨gF,0,none⟩) N N,.slice (some ⟨gX,0,none⟩) N N]):=HK.out.2.2;clear HK HL;go_wp2;go_roundw
   ·exact⟨k+1,p2,a2,c2,by go_num,by omega,fw,rfl,by rw[HZ.out];exact we.out⟩
   simp[intOf];omega
  obtain⟨rfl,Jy⟩:u=(y:Int)/\LL x (x y) rest:=HK.out.2.1;have hy:y∈chain t N s:=by rw[HK.out.1];simp
  have hyN:=((Kd t N s y).1 hy).1;have gP:p2+1<=N:=by
   have h1:=Ry.out.2;rw[HK.out.1] at h1;have h2:=HK.out.2.2.1;simp at h1 h2;omega
  have Xb:=fA HX.out.2.2.2.2.2.2.1 HK.out.2.2.2.1.kept (by simp) (fun g e lG=>by simp[ownBlock] at e;rw[<-e] at lG;exact HX.out.2.2.2.2.2.2.2.2.2.1 lG);have HoX:=hid Xb;have hO:=HK.out.2.2.2.1.own;rw[HK.out.2.2.1] at hO;have sP:B<=wr.heap.size:=le_trans HK.out.2.2.2.1.lo HK.out.2.2.2.1.below.size;obtain⟨i0,hi,du,cH,ct⟩:=info_parts az;have i3:((y:Int) != -1)=true:=by first|(simp;done)|(simp;omega)
  have i4:(y:Int)<N:=by omega
  have ZJ:=hid Jy;clear hy Xb Jy;go_wp2_with (at_builtin;refine wpList_append_own_at _ rfl _ _ 30 rfl B 3 i0 (.int .i64 0) 1 8 underlying30 hi du cH ct rfl (by decide) _ _ _ rfl (hO.alloc _) ⟨wr.heap.size,0,none⟩ 1 1 [.int .i64 (y:Int)] rfl rfl (cell_one_new _ _ _) ?d2 ?d3 ?d4 ?d5 ?_)
  case d2=>first|(intro u hu;simp at hu;subst hu;rfl)|rfl
  case d3=>unfold maxLen;omega
  case d4=>omega
  case d5=>first|(simp;omega)|omega
  intro v' w5 ah ag _ bG;obtain⟨a5,c5,rfl⟩:=bJ ah;have Mr:Hid (lz w B ls (P0++(dn++[y])) (.slice a5 (p2+1) c5) w5/\St w5 178 b3 #[.slice (some ⟨gF,0,none⟩) N N,.slice (some ⟨gX,0,none⟩) N N]):=by
   have h2:=HK.out.2.2.2.1.ab (al wr (.cells #[.int .i64 (y:Int)] 3));have h3:=h2.app (v':=.slice a5 (p2+1) c5) HK.out.2.2.1 ah ag (by
    rw[show (wr.alloc (.cells #[.int .i64 (y:Int)] 3)).heap.size=wr.heap.size+1 by simp]
    exact bG)
   rw[<-List.append_assoc];exact⟨h3,(HK.out.2.2.2.2.alloc _).ae (hO.alloc _) (by decide) ag⟩
  have s1:w5.cell? ⟨b3,1,none⟩=some (.slice (some ⟨gX,0,none⟩) N N):=Mr.out.2.at_ 1;have Vj:=fA HX.out.2.2.2.2.2.2.1 Mr.out.1.kept (by simp) (fun g e lG=>by simp[ownBlock] at e;rw[<-e] at lG;exact HX.out.2.2.2.2.2.2.2.2.2.1 lG);obtain⟨gX',eX,_,_,U9⟩:=ep Vj (by omega);injection eX with eX;injection eX with eX;subst eX;have d1:=(U9 y (by omega)).1;rw[Mk _ _ _ hyN] at d1;obtain⟨xy,hxy⟩:∃xy,x y=xy:=⟨_,rfl⟩
  rw[hxy] at d1 ZJ;have Cq:Hid (chain t N s=(dn++[y])++rest/\(P0++(dn++[y])).length=p2+1):=by
   have h1:=HK.out.1;have h2:=HK.out.2.2.1;refine⟨by rw[h1];simp,?_⟩;simp at h2⊢;omega
  clear ah ag bG Vj U9 hxy hO HK HoX;go_wp2;go_roundw
  ·exact⟨xy,dn++[y],rest,p2+1,a5,c5,rfl,gP,rfl,Cq.out.1,ZJ.out,Cq.out.2,Mr.out.1,Mr.out.2⟩
  simp[B8];omega
 obtain rfl:k=m:=by omega
 have HF:Hid (NZ B ls (jy t N T) w (.returned (.slice a p c)) wr):=by
  have h1:=HL.out;rw[take_of_length_le (by rw[HX.out.2.2.1];exact le_refl _)] at h1;refine⟨a,c,by rw[h1.1],?_⟩;rw[h1.1];exact h1.2.1
 clear HL;go_wp2;go_ret;exact HF.out
theorem bE.tA{B b:Nat}{bs:List Nat}{v:Nat->Value}{P:Pt}{w w':World}(h:bE V B bs b v vS P w)(k:Kept [] ls w w')(hB:Below B w w')(h1:∀x∈ls,x∉bz b v vS)(h2:∀x∈ls,V.heap.size<=x\/x∈bs):bE V B bs b v vS P w':=by
 refine⟨fun g o hg ho hn=>?_,h.below.trans hB,h.st.kept k (by simp) (fun hm=>h1 _ hm (uD.2 (inl rfl))),fun i hi=>fA (h.row i hi) k (by simp) (fun g e hm=>h1 _ hm (uD.2 (inr (inr ⟨i,hi,e⟩)))),h.sep,fA h.nE k (by simp) (fun g e hm=>h1 _ hm (uD.2 (inr (inl e)))),h.loc,h.lY,h.jT,h.lo⟩;refine k g o (h.kept g o hg ho hn) ho (fun hm=>?_);rcases h2 g hm with h3|h3
 ·have:=(Array.getElem?_eq_some_iff.1 hg).1;omega
 exact hn h3
theorem bE.blt{B b:Nat}{bs:List Nat}{v:Nat->Value}{P:Pt}{w:World}(h:bE V B bs b v vS P w):∀x∈bz b v vS,x<w.heap.size:=fun x hx=>by
 rcases uD.1 hx with rfl|e|⟨i,hi,e⟩
 ·exact h.st.lt
 ·exact lB h.nE x e
 ·exact lB (h.row i hi) x e
def mD(D:Dd)(i:Nat):Int:=if i<D.n then D.q i else -1
def qF(D:Dd)(μ:Int):List Nat:=(range D.n).filter fun i=>D.q i == μ
theorem MW(D:Dd)(μ:Int)(i:Nat):i∈qF D μ↔i<D.n/\D.q i=μ:=by simp[qF]
theorem KI(D:Dd)(μ:Int):(qF D μ).Nodup:=List.Nodup.sublist List.filter_sublist List.nodup_range
theorem zpr(D:Dd)(μ:Int):(qF D μ).length<=D.n:=p8 (KI D μ) (fun i hi=>((MW D μ i).1 hi).1)
theorem MB(D:Dd)(μ:Int)(h:0<=μ)(i:Nat):i∈qF D μ↔mD D i=μ:=by
 rw[MW];unfold mD;split
 ·rename_i h1;exact⟨fun h=>h.2,fun h=>⟨h1,h⟩⟩
 rename_i h1;exact⟨fun h=>absurd h.1 h1,fun h=>by omega⟩
structure xF (D:Dd)(C:Nat)(P:Pt)(ms:List Int):Prop where
 h:iL (D.n+1) C (tD D) (mD D) P C (fun _=>False)
 m:∀μ∈ms,∀x y,x<D.n+1->y<D.n+1->P.b x=P.b y->(mD D x=μ↔mD D y=μ)
 mu:P.mu (D.n+1)=D.n
theorem xF.start(D:Dd)(C:Nat):xF D C (fF (D.n+1)) []:=⟨iL.start (by omega),fun μ h=>by simp at h,by rw[zmO _ (by omega)];omega⟩
theorem xF.step{D:Dd}{C:Nat}{P:Pt}{ms:List Int}(hR:DR D C)(h:xF D C P ms)(μ:Int)(hμ:0<=μ):xF D C (mc P (qF D μ)) (ms++[μ]):=by
 have hl:∀x∈qF D μ,x<D.n+1:=fun x hx=>by have:=((MW D μ x).1 hx).1;omega
 have hd:=Ip h.h.pz (qF D μ) (KI D μ) hl;refine⟨h.h.wU (fun x c _ hc=>Fe hR x c hc) _ (KI D μ) hl (fun x y hx hy he=>by rw[MB D μ hμ,MB D μ hμ,he.mark]),fun ν hν x y hx hy hb=>?_,by rw[hd.mu];exact h.mu⟩;have h2:=(hd.b x y hx hy).1 hb;rcases List.mem_append.1 hν with h3|h3
 ·exact h.m ν h3 x y hx hy h2.1
 rw[List.mem_singleton.1 h3,<-MB D μ hμ,<-MB D μ hμ];exact h2.2
theorem xF.done{D:Dd}{C:Nat}{P:Pt}{ms:List Int}(hR:DR D C)(h:xF D C P ms)(lx:∀μ∈ms,0<=μ)(eb:∀i,i<D.n->0<=D.q i->D.q i∈ms):∀x y,x<D.n+1->y<D.n+1->P.b x=P.b y->mD D x=mD D y:=by
 have one:∀x y,x<D.n+1->y<D.n+1->P.b x=P.b y->mD D x≠-1->mD D x=mD D y:=fun x y hx hy hb hne=>by
  have jq:x<D.n:=by
   refine(Classical.byContradiction fun h0=>hne ?_);unfold mD;rw[if_neg h0]
  have hq:mD D x=D.q x:=by unfold mD;rw[if_pos jq]
  have:=hR.q x jq;have hm:=eb x jq (by omega);rw[<-hq] at hm;exact ((h.m _ hm x y hx hy hb).1 rfl).symm
 intro x y hx hy hb;by_cases h1:mD D x=-1
 ·by_cases h2:mD D y=-1
  ·rw[h1,h2]
  exact (one y x hy hx hb.symm h2).symm
 exact one x y hx hy hb h1
def Sr(D:Dd)(w:World)(e:Ending)(w':World):Prop:=
 ∃(ms:List Int) (aM:Option Addr) (cM:Nat) (A:Nat->Option Addr) (Cp:Nat->Nat),e=.returned (.slice aM ms.length cM)/\(∀μ∈ms,0<=μ)/\(∀i,i<D.n->0<=D.q i->D.q i∈ms)/\ms.length<=D.n/\Below w.heap.size w w'/\
  w'.ownsRow w.heap.size 30 1 (.slice aM ms.length cM) ms.length ((range ms.length).map fun j=>.slice (A j) (qF D (ms.getD j 0)).length (Cp j))/\
  ∀j,j<ms.length->w'.ownsRow w.heap.size 3 1 (.slice (A j) (qF D (ms.getD j 0)).length (Cp j)) (qF D (ms.getD j 0)).length (cO (qF D (ms.getD j 0)))
def NT(D:Dd)(C:Nat)(w:World)(e:Ending)(w':World):Prop:=
 ∃(bl:List Nat) (a:Option Addr) (c:Nat),e=.returned (.slice a (D.n+1) c)/\bl.length=D.n+1/\(∀x∈bl,x<=D.n+1)/\D.n+1<=c/\w'.ownsRow w.heap.size 3 1 (.slice a (D.n+1) c) (D.n+1) (cO bl)/\
  (∀x y,x<D.n+1->y<D.n+1->(bl.getD x 0=bl.getD y 0↔lj C (tD D) (mD D) x y))/\Below w.heap.size w w'
theorem uk:(prog.info? 178).map (fun i=>(i.zero,i.size,i.bytes))=some (some (.agg #[.slice none 0 0,.slice none 0 0]),2,48):=by kernel_rfl
def tK(N:Nat)(gF gX:Nat->Nat):Nat->List Value
 | 0=>[]
 | c+1=>tK N gF gX c++[.slice (some ⟨gF c,0,none⟩) N N,.slice (some ⟨gX c,0,none⟩) N N]
theorem zps(N:Nat)(gF gX:Nat->Nat)(c:Nat):(tK N gF gX c).length=c*2:=by
 induction c with
 | zero=>rfl
 | succ c ih=>simp[tK,ih];omega
theorem Wu(N:Nat){gF gX gF' gX':Nat->Nat}:∀(c:Nat),(∀i,i<c->gF i=gF' i/\gX i=gX' i)->tK N gF gX c=tK N gF' gX' c
 | 0,_=>rfl
 | c+1,h=>by
   unfold tK
   rw[Wu N c (fun i hi=>h i (by omega)),(h c (by omega)).1,(h c (by omega)).2]
theorem WD(N:Nat)(gF gX:Nat->Nat)(c i:Nat)(h:i<c):(tK N gF gX c)[i*2]?=some (.slice (some ⟨gF i,0,none⟩) N N)/\(tK N gF gX c)[i*2+1]?=some (.slice (some ⟨gX i,0,none⟩) N N):=by
 induction c with
 | zero=>omega
 | succ c ih=>
  have hl:=zps N gF gX c;unfold tK;by_cases e:i=c
  ·subst e;rw[List.getElem?_append_right (by omega),List.getElem?_append_right (by omega),hl];simp
  rw[List.getElem?_append_left (by omega),List.getElem?_append_left (by omega)];exact ih (by omega)
structure yn (D:Dd)(N:Nat)(W3:World)(c:Nat)(vB:Value)(gF gX:Nat->Nat)(f x:Nat->Nat->Int)(w:World):Prop where
 below:Below W3.heap.size W3 w
 own:w.ownsRow W3.heap.size 178 2 vB c (tK N gF gX c)
 F:∀i,i<c->w.ownsRow W3.heap.size 3 1 (.slice (some ⟨gF i,0,none⟩) N N) N (oZ (f i) N)
 X:∀i,i<c->w.ownsRow W3.heap.size 3 1 (.slice (some ⟨gX i,0,none⟩) N N) N (oZ (x i) N)
 L:∀i,i<c->∀s,s<N->LL (x i) (f i s) (chain (fun k=>tD D k i) N s)
theorem yn.ab{D:Dd}{N c:Nat}{W3 w:World}{vB:Value}{gF gX:Nat->Nat}{f x:Nat->Nat->Int}(h:yn D N W3 c vB gF gX f x w)(k:Below w.heap.size w w1):yn D N W3 c vB gF gX f x w1:=
 ⟨h.below.trans (k.mono h.below.size),cW h.own k,fun i hi=>cW (h.F i hi) k,fun i hi=>cW (h.X i hi) k,h.L⟩
theorem yn.app{D:Dd}{N c:Nat}{W3 w w':World}{vB Xe:Value}{gF gX:Nat->Nat}{f x:Nat->Nat->Int}{pF pX:Nat}{fc xc:Nat->Int}(h:yn D N W3 c vB gF gX f x w)(oF:w.ownsRow W3.heap.size 3 1 (.slice (some ⟨pF,0,none⟩) N N) N (oZ fc N))(oX:w.ownsRow W3.heap.size 3 1 (.slice (some ⟨pX,0,none⟩) N N) N (oZ xc N))(hL:∀s,s<N->LL xc (fc s) (chain (fun k=>tD D k c) N s))
  (ho:w'.ownsRow W3.heap.size 178 2 Xe (c+1) (tK N gF gX c++[.slice (some ⟨pF,0,none⟩) N N,.slice (some ⟨pX,0,none⟩) N N])) (hg:w.grownBy w' vB.ownBlock):
  yn D N W3 (c+1) Xe (fun i=>if i=c then pF else gF i) (fun i=>if i=c then pX else gX i) (fun i=>if i=c then fc else f i) (fun i=>if i=c then xc else x i) w':=by
 have kp:∀{v:Value}{xs:List Value},w.ownsRow W3.heap.size 3 1 v N xs->w'.ownsRow W3.heap.size 3 1 v N xs:=fun o=>sh o h.own (by decide) hg
 refine⟨fC h.below h.own h.below.size hg,?_,fun i hi=>?_,fun i hi=>?_,fun i hi=>?_⟩
 ·have e:tK N (fun i=>if i=c then pF else gF i) (fun i=>if i=c then pX else gX i) (c+1)=tK N gF gX c++[.slice (some ⟨pF,0,none⟩) N N,.slice (some ⟨pX,0,none⟩) N N]:=by
   show tK N _ _ c++_=_;rw[Wu N (gF':=gF) (gX':=gX) c (fun i hi=>⟨if_neg (by omega),if_neg (by omega)⟩)];simp
  rw[e];exact ho
 ·by_cases e:i=c
  ·simp only[if_pos e];exact kp oF
  simp only[if_neg e];exact kp (h.F i (by omega))
 ·by_cases e:i=c
  ·simp only[if_pos e];exact kp oX
  simp only[if_neg e];exact kp (h.X i (by omega))
 by_cases e:i=c
 ·simp only[if_pos e];rw[e];exact hL
 simp only[if_neg e];exact h.L i (by omega)
def Ew(b i:Nat)(w:World):Nat:=match w.cell? ⟨b,i,none⟩ with
 | some v=>B8 v
 | none=>0
def DV(b N:Nat)(v9:Value)(w:World):Nat:=(N-Ew b 3 w)+Ew b 5 w+(if B8 v9=0 then 0 else 1)
theorem QJ{B b:Nat}{bs:List Nat}{v:Nat->Value}{P:Pt}{w:World}(h:bE V B bs b v vS P w)(N:Nat)(v9:Value):DV b N v9 w=P.mu N+(if B8 v9=0 then 0 else 1):=by
 have h1:Ew b 3 w=P.sp.length:=by
  unfold Ew;rw[h.nw.1];obtain⟨a,c,e⟩:=bJ h.nE;show B8 vS=_;rw[e];rfl
 have h2:Ew b 5 w=(P.L 4).length:=by
  unfold Ew;rw[h.c4.1];obtain⟨a,c,e⟩:=h.CT 4 (by omega) rfl;show B8 (v 4)=_;rw[e];rfl
 unfold DV Pt.mu;rw[h1,h2]
structure nP (D:Dd)(C N:Nat)(Wb:World)(B0:Nat)(pb:List Nat)(b:Nat)(T:List Nat)(gT cT:Nat)(P:Pt)(v:Nat->Value)(vS:Value)(aS:Option Addr)(q cS:Nat)(L8:List Nat)(cd:Nat)(wr:World):Prop where
 pm:bE Wb B0 pb b v vS P wr
 ql:L8.length=q
 oS:wr.ownsRow Wb.heap.size 3 1 (.slice aS q cS) q (cO L8)
 sS:∀g,(Value.slice aS q cS).ownBlock=some g->g∉bz b v vS
 oT:wr.ownsRow Wb.heap.size 3 1 (.slice (some ⟨gT,0,none⟩) T.length cT) T.length (cO T)
 sT:gT∉bz b v vS
 I8:(Value.slice aS q cS).ownBlock≠some gT
 tn:T.Nodup
 tl:∀x∈T,x<N
 jX:iL N C (tD D) (mD D) P cd (fun z=>z∈T)
 dj:∀x y,x<N->y<N->P.b x=P.b y->mD D x=mD D y
section
variable {D : Dd}{C N B0 b gT cT q cS cd : Nat}{Wb wr : World}{pb T L8 : List Nat}{P : Pt}{v : Nat → Value}{vS : Value}{aS : Option Addr}
theorem nP.sz(h:nP D C N Wb B0 pb b T gT cT P v vS aS q cS L8 cd wr):Wb.heap.size<=wr.heap.size:=h.pm.below.size
theorem nP.ab(h:nP D C N Wb B0 pb b T gT cT P v vS aS q cS L8 cd wr)(k:Below wr.heap.size wr w1):nP D C N Wb B0 pb b T gT cT P v vS aS q cS L8 cd w1:=
 ⟨h.pm.ab k,h.ql,cW h.oS k,h.sS,cW h.oT k,h.sT,h.I8,h.tn,h.tl,h.jX,h.dj⟩
theorem ZO(a:Option Addr)(n c n':Nat):(Value.slice a n c).ownBlock=(Value.slice a n' c).ownBlock:=by cases a <;> rfl
theorem nP.add{w5:World}{l:List Nat}{a:Option Addr}{c:Nat}(h:nP D C N Wb B0 pb b T gT cT P v vS aS q cS L8 cd wr)(hc:lz wr Wb.heap.size (Value.slice aS 0 cS).ownBlock.toList l (.slice a l.length c) w5):
  nP D C N Wb B0 pb b T gT cT P v vS a l.length c l cd w5:=by
 have uZ:∀x∈(Value.slice aS 0 cS).ownBlock.toList,(Value.slice aS q cS).ownBlock=some x:=fun x hx=>by
  rw[ZO aS q cS 0];simpa using hx
 have FZ:∀g,(Value.slice a l.length c).ownBlock=some g->(Value.slice aS q cS).ownBlock=some g\/wr.heap.size<=g:=fun g e=>by
  rcases hc.loc g e with h1|h1
  ·exact inl (uZ g h1)
  exact inr h1
 have hB:Below B0 wr w5:=hc.below.mono h.pm.lo.2;refine⟨h.pm.tA hc.kept hB (fun x hx=>h.sS x (uZ x hx)) (fun x hx=>inl (kq h.oS x (uZ x hx))),rfl,hc.own,fun g e=>?_,fA h.oT hc.kept (by simp) (fun g e hm=>?_),h.sT,fun e=>?_,h.tn,h.tl,h.jX,h.dj⟩
 ·rcases FZ g e with h1|h1
  ·exact h.sS g h1
  exact fun hm=>by have:=h.pm.blt g hm;omega
 ·have:=uZ g hm;simp[ownBlock] at e;rw[<-e] at this;exact h.I8 this
 rcases FZ gT e with h1|h1
 ·exact h.I8 h1
 have:=lB h.oT gT rfl;omega
theorem nP.call(h:nP D C N Wb B0 pb b T gT cT P v vS aS q cS L8 cd wr)(hN:N<=100000)(hn:L8.Nodup)(hl:∀x∈L8,x<N):
  Calls prog 126 #[.pointer (some ⟨b,0,none⟩),.slice aS q cS] wr (OL wr B0 (bz b v vS) b (mc P L8)):=
 Uf N hN wr B0 b (bz b v vS) v vS P wr h.pm.start h.jX.pz L8 q h.ql hn hl aS cS (si h.oS h.ql) (fun ad e=>h.sS ad.block (by rw[e];rfl))
theorem nP.div{v':Nat->Value}{vS':Value}(h:nP D C N Wb B0 pb b T gT cT P v vS aS q cS L8 cd wr)(hN:D.n+1=N)(hR:DR D C)(F4:cd<C)(hn:L8.Nodup)(hl:∀x,x∈L8↔x<N/\tD D x cd∈T)(h6:bE wr B0 (bz b v vS) b v' vS' (mc P L8) w6):
  nP D C N Wb B0 pb b T gT cT (mc P L8) v' vS' aS q cS L8 (cd+1) w6:=by
 have hlN:∀x∈L8,x<N:=fun x hx=>((hl x).1 hx).1
 have ht:∀x c,x<N->c<C->tD D x c<N:=fun x c _ hc=>by rw[<-hN];exact Fe hR x c hc
 have fq:∀g,g<wr.heap.size->g∉bz b v vS->g∉bz b v' vS':=fun g h1 h2 hm=>by
  rcases h6.sK g hm with h3|h3
  ·exact h2 h3
  omega
 have hd:=Ip h.jX.pz L8 hn hlN;refine⟨h.pm.back h6,h.ql,fA h.oS h6.kept (by simp) h.sS,fun g e=>fq g (lB h.oS g e) (h.sS g e),fA h.oT h6.kept (by simp) (fun g e=>?_),fq gT (lB h.oT gT rfl) h.sT,h.I8,h.tn,h.tl,h.jX.class F4 ht L8 hn hl,fun x y hx hy hb=>h.dj x y hx hy ((hd.b x y hx hy).1 hb).1⟩;simp[ownBlock] at e;rw[<-e];exact h.sT
structure vm (D:Dd)(C N:Nat)(Wb:World)(B0:Nat)(pb:List Nat)(b:Nat)(P:Pt)(v:Nat->Value)(vS:Value)(aS:Option Addr)(q cS:Nat)(L8:List Nat)(wr:World):Prop where
 pm:bE Wb B0 pb b v vS P wr
 ql:L8.length=q
 oS:wr.ownsRow Wb.heap.size 3 1 (.slice aS q cS) q (cO L8)
 sS:∀g,(Value.slice aS q cS).ownBlock=some g->g∉bz b v vS
 jX:iL N C (tD D) (mD D) P C (fun _=>False)
 dj:∀x y,x<N->y<N->P.b x=P.b y->mD D x=mD D y
theorem nP.all(h:nP D C N Wb B0 pb b T gT cT P v vS aS q cS L8 C wr):vm D C N Wb B0 pb b P v vS aS q cS L8 wr:=
 ⟨h.pm,h.ql,h.oS,h.sS,⟨h.jX.pz,h.jX.sat,fun _ _ _ _ _=>Iff.rfl,fun x y hx hy hb c hc=>by
  rcases h.jX.jX x y hx hy hb c hc with h1|h1
  ·exact inl h1
  ·omega⟩,h.dj⟩
theorem vm.call(h:vm D C N Wb B0 pb b P v vS aS q cS L8 wr)(hN:N<=100000):Calls prog 128 #[.pointer (some ⟨b,0,none⟩)] wr (Gc wr B0 (bz b v vS) b P wr):=
 znk N hN wr B0 b (bz b v vS) v vS P wr h.pm.start h.jX.pz
theorem vm.take{v':Nat->Value}{vS':Value}{g c:Nat}(h:vm D C N Wb B0 pb b P v vS aS q cS L8 wr)(hN:D.n+1=N)(hR:DR D C)(hne:P.L 4≠[])(hB:Below B0 wr w6)(ho:w6.ownsRow wr.heap.size 3 1 (.slice (some ⟨g,0,none⟩) (eP P).length c) (eP P).length (cO (eP P)))(h6:bE wr B0 (bz b v vS) b v' vS' (gQ P) w6)(hg:g∉bz b v' vS'):
  nP D C N Wb B0 pb b (eP P) g c (gQ P) v' vS' aS q cS L8 0 w6/\0<(eP P).length/\(gQ P).mu N+1=P.mu N:=by
 have ht:∀x c,x<N->c<C->tD D x c<N:=fun x c _ hc=>by rw[<-hN];exact Fe hR x c hc
 obtain⟨t1,t2,t3,t4,t5,t6,t7,t8⟩:=h.jX.take hne ht;have fq:∀g,g<wr.heap.size->g∉bz b v vS->g∉bz b v' vS':=fun g h1 h2 hm=>by
  rcases h6.sK g hm with h3|h3
  ·exact h2 h3
  omega
 refine⟨⟨h.pm.back h6,h.ql,fA h.oS h6.kept (by simp) h.sS,fun g e=>fq g (lB h.oS g e) (h.sS g e),gE ho h.pm.below.size,hg,fun e=>?_,t4,fun x hx=>((t5 x).1 hx).1,t6,fun x y hx hy hb=>h.dj x y hx hy (by rw[<-t8,<-t8];exact hb)⟩,?_,t7⟩
 ·have h1:=lB h.oS g e;have h2:=kq ho g rfl;omega
 unfold eP;have hl:=h.jX.pz.1.l0;simp;omega
theorem vm.none{v':Nat->Value}{vS':Value}(h:vm D C N Wb B0 pb b P v vS aS q cS L8 wr)(h6:bE wr B0 (bz b v vS) b v' vS' P w6):vm D C N Wb B0 pb b P v' vS' aS q cS L8 w6:=by
 refine⟨h.pm.back h6,h.ql,fA h.oS h6.kept (by simp) h.sS,fun g e hm=>?_,h.jX,h.dj⟩;rcases h6.sK g hm with h3|h3
 ·exact h.sS g e h3
 have:=lB h.oS g e;omega
end
def DvR(D:Dd)(C N:Nat)(Wb:World)(B0:Nat)(pb:List Nat)(b:Nat)(v8 v9:Value)(wq:World):Prop:=
 ∃(aS:Option Addr) (q cS:Nat),v8=.slice aS q cS/\q<=N/\((v9=.slice none 0 0/\∃P v vS L8,vm D C N Wb B0 pb b P v vS aS q cS L8 wq/\P.L 4=[])\/
  ∃gT m cT,v9=.slice (some ⟨gT,0,none⟩) m cT/\0<m/\m<=N/\∃T P v vS L8,T.length=m/\nP D C N Wb B0 pb b T gT cT P v vS aS q cS L8 0 wq)
theorem vm.YZ{D:Dd}{C N B0 b q cS:Nat}{Wb wr:World}{pb L8:List Nat}{P:Pt}{v:Nat->Value}{aS:Option Addr}{e:Ending}(h:vm D C N Wb B0 pb b P v vS aS q cS L8 wr)(hN:D.n+1=N)(hR:DR D C)(hq:q<=N)(ht:Gc wr B0 (bz b v vS) b P wr e w6):
  ∃v9,e=.returned v9/\DvR D C N Wb B0 pb b (.slice aS q cS) v9 w6/\DV b N v9 w6=P.mu N:=by
 rcases ht with ⟨h1,rfl,v',vS',h2⟩|⟨h1,g,c,v',vS',rfl,ho,h2,hg⟩
 ·have hz:=h.none h2;exact⟨_,rfl,⟨aS,q,cS,rfl,hq,inl ⟨rfl,P,v',vS',L8,hz,h1⟩⟩,by rw[QJ hz.pm];rfl⟩
 obtain⟨hi,hl,hm⟩:=h.take hN hR h1 h2.below ho h2 hg;refine⟨_,rfl,⟨aS,q,cS,rfl,hq,inr ⟨g,_,c,rfl,hl,p8 hi.tn hi.tl,eP P,gQ P,v',vS',L8,rfl,hi⟩⟩,?_⟩;rw[QJ hi.pm,<-hm];show _+(if (eP P).length=0 then 0 else 1)=_;rw[if_neg (by omega)]
theorem zlk(a:Option Addr)(n c:Nat)(W:World):(binOp .neq 30 (.slice a n c) (.slice none 0 0)).run prog W=.ok (.bool a.isSome) W:=by
 have h:=run_equal_slice_nil W 30 3 a n c underlying30;unfold binOp;simp only[Sem.run_bind,h,Result.andThen_ok,Sem.run_pure];cases a <;> rfl
theorem zjH(D:Dd)(C:Nat)(hR:DR D C)(w:World)(hD:DM w D)(UP:∀W,DM W D->Calls prog 125 #[.agg D.cD] W (Sr D W)):
  Calls prog 93 #[.agg D.cD] w (NT D C w):=by
 have cQ:=hR.n2;have uN:=(hR.jn hD.kl).2;obtain⟨N,hN⟩:∃N,D.n+1=N:=⟨_,rfl⟩
 have E5:N<=100000:=by omega
 have HBy:=hid UP;have HB:=hid (Zz (cm.new hD) (Zz (al w (.cells D.cD 39)) (Zz hR hN)));have HWh:Hid (∀W,Calls prog 124 #[.int .i64 ((D.n:Int)+1)] W (Of N W)):=fun W=>by
  have:=zly N E5 W;rw[<-hN] at this⊢;exact this
 clear hD hR hN UP;go_enter func93,ntmps93;go_upto_region 1 with fail;generalize w.alloc (.cells D.cD 39)=W0 at HB⊢;obtain⟨b0,aD⟩:∃b0,w.heap.size=b0:=⟨_,rfl⟩
 have cP:=hid aD;rw[aD] at HB;rw[aD];clear aD;have f1:=HB.out.1.f1;go_wp2_with fail;refine (HWh.out _).mono ?_;rintro e w1 ⟨b,v,vS,rfl,AT,LV,Jd⟩;have uh:=hid (Zz (HB.out.1.ab LV) (HB.out.2.1.trans (LV.mono (by have:=HB.out.2.1.size;have:=cP.out;omega))));have fo:=hid (Zz AT Jd);have Bb:Hid (w.heap.size<=w1.heap.size/\w.heap.size<=W0.heap.size/\Below W0.heap.size W0 w1):=⟨by have:=uh.out.2.size;have:=cP.out;omega,by have:=HB.out.2.1.size;have:=cP.out;omega,LV⟩
 clear AT LV Jd f1;go_wp2_with (refine kc (by rfl) 39 _ rfl ⟨b0,0,none⟩ rfl D.cD _ uh.out.1.st.part underlying39 rfl uh.out.1.dm.info ?_);refine (HBy.out _ uh.out.1.dm).mono ?_;rintro e w2 ⟨ms,aM,cM,A,Cp,rfl,FM,eb,jF,b2,oM,oR⟩;obtain⟨nm,jV⟩:∃nm,ms.length=nm:=⟨_,rfl⟩
 rw[jV] at jF oM;have HM:=hid (Zz FM (Zz eb (Zz jV (Zz oM oR))));have HD2:=hid (Zz (uh.out.1.ab b2) (uh.out.2.trans (b2.mono (by have:=Bb.out.1;have:=cP.out;omega))));have kD:Hid (bE w2 W0.heap.size (bz b v vS) b v vS (fF N) w2/\∀x∈bz b v vS,W0.heap.size<=x/\x<w1.heap.size):=⟨(fo.out.1.ab b2).start.congr (fun i hi=>rfl) rfl,fun x hx=>⟨fo.out.2 x hx,fo.out.1.blt x hx⟩⟩
 have Hsz:Hid (w1.heap.size<=w2.heap.size/\Below W0.heap.size W0 w2):=⟨b2.size,Bb.out.2.2.trans (b2.mono Bb.out.2.2.size)⟩
 rw[jV];clear FM eb jV b2 oM oR fo;go_wp2_with fail;go_loopw [5,20] (fun _ vj wr=>∃j:Nat,vj=.int .i64 j/\j<=nm/\Hid (∃v' vS' P,bE w2 W0.heap.size (bz b v vS) b v' vS' P wr/\xF D C P (ms.take j))) (fun _ v _=>nm-(intOf v).toNat)
 ·exact⟨0,rfl,zero_le _,v,vS,fF N,kD.out.1,by rw[<-HB.out.2.2.2];exact xF.start D C⟩
 obtain⟨j,rfl,hj,HL⟩:=hrel;by_cases an:j<nm
 ·obtain⟨v',vS',P,hP,hI⟩:=HL.out;have Gz:j<ms.length:=by rw[HM.out.2.2.1];exact an
  obtain⟨μ,hμ⟩:∃μ,ms.getD j 0=μ:=⟨_,rfl⟩
  have hμ0:0<=μ:=by
   rw[<-hμ,oV _ _ _ Gz];exact HM.out.1 _ (List.getElem_mem Gz)
  have BH:=HM.out.2.2.2.2 j Gz;rw[hμ] at BH;have N0:=HM.out.2.2.2.1;have oMr:=fA N0 hP.kept (by simp) (fun g e hm=>by have h1:=kq N0 g e;have h2:=(kD.out.2 g hm).2;omega);obtain⟨gM,rfl,_,_,VE⟩:=ep oMr (by omega);have d0:=(VE j (by omega)).1;rw[List.getElem?_map,List.getElem?_range (by omega)] at d0;replace d0:wr.cell? ⟨gM,j,none⟩=some (.slice (A j) (qF D (ms.getD j 0)).length (Cp j)):=d0;rw[hμ] at d0;obtain⟨q,hq⟩:∃q,(qF D μ).length=q:=⟨_,rfl⟩
  rw[hq] at d0 BH;have zZ:q<=D.n:=by rw[<-hq];exact zpr D μ
  have Xg:=fA BH hP.kept (by simp) (fun g e hm=>by have h1:=kq BH g e;have h2:=(kD.out.2 g hm).2;omega);have TV:=hP.start;have Hs:∀ad,A j=some ad->ad.block∉bz b v' vS':=fun ad e hm=>by
   have e1:(Value.slice (A j) q (Cp j)).ownBlock=some ad.block:=(by rw[e];rfl);have h1:=kq BH _ e1;have h3:=lB BH _ e1;rcases hP.sK _ hm with h2|h2
   ·have:=(kD.out.2 _ h2).2;omega
   omega
  have HC:=hid (Uf N E5 wr W0.heap.size b (bz b v' vS') v' vS' P wr TV (by rw[<-HB.out.2.2.2];exact hI.h.pz) (qF D μ) q hq (KI D μ) (fun x hx=>by have:=((MW D μ x).1 hx).1;have:=HB.out.2.2.2;omega) (A j) (Cp j) (si Xg hq) Hs);have HI:Hid (xF D C (mc P (qF D μ)) (ms.take (j+1))):=by
   have h:=hI.step HB.out.2.2.1 μ hμ0;have e:ms.take (j+1)=ms.take j++[μ]:=by
    rw[List.take_add_one,List.getElem?_eq_getElem Gz,<-hμ,oV _ _ _ Gz];rfl
   show xF D C _ (ms.take (j+1));rw[e];exact h
  have uu:=hid hP;have i1:(j:Int)<nm:=by omega
  clear hP hI BH N0 oMr VE hμ hq Xg TV Hs HL;go_wp2_with fail;refine HC.out.mono ?_;rintro e w5 ⟨v5,rR,rfl,oh⟩;have yE:=hid (uu.out.back oh);clear oh HC uu d0;go_wp2;go_roundw
  ·exact⟨j+1,by go_num,by omega,v5,rR,_,yE.out,HI.out⟩
  simp[intOf];omega
 obtain rfl:j=nm:=by omega
 obtain⟨v3,rI,P3,yX,Jh⟩:=HL.out;rw[take_of_length_le (by rw[HM.out.2.2.1];exact le_refl _)] at Jh;have DA:=kD.out.2;have Y8:Hid (iL N C (tD D) (mD D) P3 C (fun _=>False)/\(∀x y,x<N->y<N->P3.b x=P3.b y->mD D x=mD D y)/\P3.mu N=D.n):=by
  refine⟨by rw[<-HB.out.2.2.2];exact Jh.h,?_,by rw[<-HB.out.2.2.2];exact Jh.mu⟩;rw[<-HB.out.2.2.2];exact Jh.done HB.out.2.2.1 HM.out.1 HM.out.2.1
 have Cd:Below W0.heap.size W0 wr:=Hsz.out.2.trans yX.below;obtain⟨W3,uV⟩:∃W3,W3=wr:=⟨wr,rfl⟩
 have Au:Hid (bE W3 W0.heap.size (bz b v3 rI) b v3 rI P3 W3):=by rw[uV];exact yX.start
 have Ck:Hid (cm wr b0 D/\Below W0.heap.size W0 wr):=⟨HB.out.1.ab Cd,Cd⟩
 clear yX Jh DA Cd HL kD HM HD2 uh;go_wp2_with (refine kc (by rfl) 36 _ rfl ⟨b0,0,none⟩ rfl (aP D.K) _ Ck.out.1.dC underlying36 rfl (vU D.K) ?_);refine (Ez D.K C HB.out.2.2.1.c HB.out.1.dm.kl _).mono ?_;rintro e w4 ⟨rfl,b4⟩;have H4:Hid (yn D N W3 0 (.slice none 0 0) (fun _=>0) (fun _=>0) (fun _ _=>0) (fun _ _=>0) w4):=by
  rw[uV];exact⟨b4,ownsRow_nil _ _ _ _,fun i hi=>absurd hi (by omega),fun i hi=>absurd hi (by omega),fun i hi=>absurd hi (by omega)⟩
 rw[<-uV] at Ck;clear uV b4;go_wp2_with fail;go_loopw [6,7,31] (fun v6 _ vc wq=>∃(c:Nat) (aB:Option Addr) (cB:Nat),vc=.int .i64 c/\c<=C/\v6=.slice aB c cB/\Hid (∃gF gX f x,yn D N W3 c (.slice aB c cB) gF gX f x wq)) (fun _ _ v _=>C-(intOf v).toNat)
 ·exact⟨0,none,0,rfl,zero_le _,rfl,_,_,_,_,H4.out⟩
 obtain⟨c,aB,cB,rfl,hc,rfl,HK⟩:=hrel;by_cases rT:c<C
 ·obtain⟨gF,gX,f,x,hK⟩:=HK.out;have MD:=hid (Ck.out.1.ab hK.below);have HC:=hid (zfE D C HB.out.2.2.1 c rT wr MD.out.dm);have LZ:=hid hK;have i1:(c:Int)<C:=by omega
  obtain⟨i0,hi,du,cH,ct⟩:=info_parts uk;clear hK HK;go_wp2_with (refine kc (by rfl) 39 _ rfl ⟨b0,0,none⟩ rfl D.cD _ MD.out.st.part underlying39 rfl MD.out.dm.info ?_);refine HC.out.mono ?_;rintro e w5 ⟨pF,pX,fc,xc,rfl,oF,oX,hL,b5⟩;rw[HB.out.2.2.2] at oF oX hL⊢;have Mp:=LZ.out.ab b5;have hO:=Mp.own;have sP:=Mp.below.size;have H5:=hid (Zz Mp (Zz (gE oF LZ.out.below.size) (Zz (gE oX LZ.out.below.size) hL)));clear oF oX hL b5 Mp HC MD;go_wp2_with (at_builtin;refine wpList_append_own_at _ rfl _ _ 176 rfl W3.heap.size 178 i0 (.agg #[.slice none 0 0,.slice none 0 0]) 2 48 underlying176 hi du cH ct rfl (by decide) _ _ _ rfl (hO.alloc _) ⟨w5.heap.size,0,none⟩ 1 1 [.slice (some ⟨pF,0,none⟩) N N,.slice (some ⟨pX,0,none⟩) N N] rfl rfl (cell_two_new _ _ _ _) ?d2 ?d3 ?d4 ?d5 ?_)
  case d2=>intro u hu;simp at hu;rcases hu with rfl|rfl <;> rfl
  case d3=>unfold maxLen;omega
  case d4=>omega
  case d5=>first|(simp;omega)|omega
  intro v6 w6 aj af _ db;obtain⟨a6,c6,rfl⟩:=bJ aj;have H6:Hid (∃gF gX f x,yn D N W3 (c+1) (.slice a6 (c+1) c6) gF gX f x w6):=by
   have k:=al w5 (.cells #[.slice (some ⟨pF,0,none⟩) N N,.slice (some ⟨pX,0,none⟩) N N] 178);exact⟨_,_,_,_,(H5.out.1.ab k).app (cW H5.out.2.1 k) (cW H5.out.2.2.1 k) H5.out.2.2.2 aj af⟩
  clear aj af db hO H5 LZ;go_wp2;go_roundw
  ·exact⟨c+1,a6,c6,by go_num,by omega,rfl,H6.out⟩
  simp[intOf];omega
 obtain rfl:c=C:=by omega
 obtain⟨gF,gX,f,x,hK⟩:=HK.out;obtain⟨Wb,J3⟩:∃Wb,Wb=wr:=⟨wr,rfl⟩
 have gv:Hid (yn D N W3 c (.slice aB c cB) gF gX f x Wb):=by rw[J3];exact hK
 have T2:bE Wb W0.heap.size (bz b v3 rI) b v3 rI P3 Wb:=by rw[J3];exact (Au.out.ab hK.below).start
 have Zf:Hid (vm D c N Wb W0.heap.size (bz b v3 rI) b P3 v3 rI none 0 0 [] Wb):=⟨T2,rfl,ownsRow_nil _ _ _ _,fun g e=>by simp[ownBlock] at e,Y8.out.1,Y8.out.2.1⟩
 have KT:Hid (cm Wb b0 D/\Below W0.heap.size W0 Wb/\(∀y∈bz b v3 rI,y<W3.heap.size)):=by rw[J3];exact⟨Ck.out.1.ab hK.below,Ck.out.2.trans (hK.below.mono Ck.out.2.size),Au.out.blt⟩
 have HT:=hid (Zf.out.call E5);rw[<-J3];clear T2 hK J3 HK Ck;go_wp2_with fail;refine HT.out.mono ?_;rintro e w6 h6;obtain⟨v9,rfl,GX,Nb⟩:=Zf.out.YZ HB.out.2.2.2 HB.out.2.2.1 (zero_le _) h6;have I4:=hid GX;have uW:=zlk;clear GX Nb h6 HT;go_wp2_with fail;go_loopw [8,9,11,49] (fun v8 v9 _ _ wq=>DvR D c N Wb W0.heap.size (bz b v3 rI) b v8 v9 wq) (fun _ v9 _ _ wq=>DV b N v9 wq)
 ·exact I4.out
 clear I4;obtain⟨aS,q,cS,rfl,hq,hR⟩:=hrel;rcases hR with ⟨rfl,P,v5,rR,L8,hZ,Bg⟩|⟨gT,m,cT,rfl,ox,Uk,T,P,v5,rR,L8,XL,hI⟩
 ·have b2:=hZ.pm.c2.1;have fY:=hZ.jX.pz.1.l2;obtain⟨a2,c2,e2⟩:=hZ.pm.CT 2 (by omega) fY;have HF:Hid (NT D c w (.returned (.slice a2 N c2)) wr):=by
   have ho:=hZ.pm.row 2 (by omega);rw[fY,e2] at ho;have fH:N<=c2:=by
    rcases ho.2 with ⟨h1,h0⟩|⟨_,cap,_,h1,_,_,h2,_⟩
    ·have:=HB.out.2.2.2;omega
    injection h1 with _ e1 e3;omega
   have RM:=Bb.out.2.1;refine⟨P.L 2,a2,c2,?_,?_,?_,?_,?_,?_,?_⟩
   ·rw[HB.out.2.2.2]
   ·rw[HB.out.2.2.2];exact fY
   ·rw[HB.out.2.2.2];intro x hx;obtain⟨i,hi,e⟩:=List.getElem_of_mem hx;have h1:=(hZ.jX.pz.1.bk i (by omega)).1;have h2:=hZ.jX.pz.1.len;have h3:P.b i=x:=by
     show (P.L 2).getD i 0=x;rw[getD_eq_getElem?_getD,List.getElem?_eq_getElem hi];exact e
    omega
   ·rw[HB.out.2.2.2];exact fH
   ·rw[HB.out.2.2.2];exact gE ho RM
   ·rw[HB.out.2.2.2];exact hZ.jX.done Bg (fun x d _ hd=>by rw[<-HB.out.2.2.2];exact Fe HB.out.2.2.1 x d hd) hZ.dj
   have aD:=cP.out;have h1:Below w.heap.size w Wb:=(by rw[aD];exact HB.out.2.1.trans (KT.out.2.1.mono (by omega)));exact h1.trans (hZ.pm.below.mono RM)
  rw[e2] at b2;clear hZ fY e2;go_wp2;go_ret;exact HF.out
 obtain⟨Ey,pP⟩:∃Ey,P.mu N=Ey:=⟨_,rfl⟩
 have Hmu:Hid (DV b N (.slice (some ⟨gT,0,none⟩) m cT) wr=Ey+1):=by
  show _=_;rw[QJ hI.pm,pP];show _+(if m=0 then 0 else 1)=_;rw[if_neg (by omega)]
 have ET:Hid (∃P v vS L8,P.mu N=Ey/\nP D c N Wb W0.heap.size (bz b v3 rI) b T gT cT P v vS aS q cS L8 0 wr):=⟨P,v5,rR,L8,pP,hI⟩
 have HTm:=hid XL;clear hI pP XL;go_wp2_with fail;obtain⟨W8,hW8⟩:∃W8,W8=wr:=⟨wr,rfl⟩
 clear hW8 W8;go_loopw [8,11,49] (fun v8 _ vi wq=>∃(i:Nat) (aS:Option Addr) (q cS:Nat),vi=.int .i64 i/\i<=c/\v8=.slice aS q cS/\q<=N/\Hid (∃P v vS L8,P.mu N=Ey/\nP D c N Wb W0.heap.size (bz b v3 rI) b T gT cT P v vS aS q cS L8 i wq)) (fun _ _ v _=>c-(intOf v).toNat)
 ·exact⟨0,aS,q,cS,rfl,zero_le _,rfl,hq,ET.out⟩
 obtain⟨i,aS,q,cS,rfl,hi,rfl,hq,rH⟩:=hrel;by_cases rW:i<c
 ·obtain⟨P,v5,rR,L8,pP,hI⟩:=rH.out;have TO:=fA gv.out.own hI.pm.kept (by simp) (fun g e hm=>by have h1:=kq gv.out.own g e;have:=KT.out.2.2 g hm;omega);obtain⟨gB,rfl,_,_,NJ⟩:=ep TO (by omega);have d0:=(NJ (i*2) (by omega)).1;have d1:=(NJ (i*2+1) (by omega)).1;rw[(WD N gF gX c i rW).1] at d0;rw[(WD N gF gX c i rW).2] at d1;have U7:=hid (Zz pP hI);have i1:(i:Int)<c:=by omega
  obtain⟨pF,S6⟩:∃pF,gF i=pF:=⟨_,rfl⟩
  obtain⟨pX,NI⟩:∃pX,gX i=pX:=⟨_,rfl⟩
  rw[S6] at d0;rw[NI] at d1;have Hp:=hid (Zz S6 NI);clear TO NJ pP hI S6 NI rH;go_upto_region 20 with fail;obtain⟨W5,Fv⟩:∃W5,wr.alloc (.cells #[.slice (some ⟨pF,0,none⟩) N N,.slice (some ⟨pX,0,none⟩) N N] 178)=W5:=⟨_,rfl⟩
  obtain⟨bR,Ei⟩:∃bR,wr.heap.size=bR:=⟨_,rfl⟩
  have rP:St W5 178 bR #[.slice (some ⟨pF,0,none⟩) N N,.slice (some ⟨pX,0,none⟩) N N]:=by rw[<-Fv,<-Ei];exact St.new _ _ _
  have xo:nP D c N Wb W0.heap.size (bz b v3 rI) b T gT cT P v5 rR aS q cS L8 i W5:=by rw[<-Fv];exact U7.out.2.ab (al wr _)
  rw[Fv,Ei];clear Fv Ei;have r0:W5.cell? ⟨bR,0,none⟩=some (.slice (some ⟨pF,0,none⟩) N N):=rP.at_ 0;have r1:W5.cell? ⟨bR,1,none⟩=some (.slice (some ⟨pX,0,none⟩) N N):=rP.at_ 1;have Hi:=hid xo;have hq0:(0:Int)<=cS:=by omega
  clear xo rP d0 d1
  go_still_tail 4,(by kernel_rfl)
  change wpList _ _ _ _ _ W5.drew;have HC:Hid (Calls prog 129 #[.agg #[.slice (some ⟨pF,0,none⟩) N N,.slice (some ⟨pX,0,none⟩) N N],.slice aS 0 cS,.slice (some ⟨gT,0,none⟩) m cT] W5.drew (NZ Wb.heap.size (Value.slice aS 0 cS).ownBlock.toList (jy (fun k=>tD D k i) N T) W5.drew)):=by
   have yP:=Hi.out.ab (Below.refl W5.heap.size W5).drew;have oF:=fA (gv.out.F i rW) yP.pm.kept (by simp) (fun g e hm=>by have h1:=kq (gv.out.F i rW) g e;have:=KT.out.2.2 g hm;omega);have oX:=fA (gv.out.X i rW) yP.pm.kept (by simp) (fun g e hm=>by have h1:=kq (gv.out.X i rW) g e;have:=KT.out.2.2 g hm;omega);have hF:=lB (gv.out.F i rW) (gF i) rfl;have hX:=lB (gv.out.X i rW) (gX i) rfl;rw[Hp.out.1] at oF hF;rw[Hp.out.2] at oX hX;have uZ:∀g∈(Value.slice aS 0 cS).ownBlock.toList,(Value.slice aS q cS).ownBlock=some g:=(fun g hg=>by rw[ZO aS q cS 0];simpa using hg);have hoT:=yP.oT;have e9:=HTm.out;refine zm3 N E5 (fun k=>tD D k i) (fun k hk=>by rw[<-HB.out.2.2.2];exact Fe HB.out.2.2.1 k i rW) (f i) (x i) (gv.out.L i rW) pF pX Wb.heap.size W3.heap.size aS cS T m e9 yP.tn yP.tl (some ⟨gT,0,none⟩) cT W5.drew oF oX (Vt yP.oS) yP.sz (si hoT rfl) _ rfl (fun hm=>?_) (fun hm=>?_) (fun ad e hm=>?_)
   ·have:=kq yP.oS pF (uZ _ hm);omega
   ·have:=kq yP.oS pX (uZ _ hm);omega
   have e2:gT=ad.block:=(by injection e with e;rw[<-e]);rw[<-e2] at hm;exact yP.I8 (uZ _ hm)
  have Pd:Hid (nP D c N Wb W0.heap.size (bz b v3 rI) b T gT cT P v5 rR aS q cS L8 i W5.drew):=Hi.out.ab (Below.refl W5.heap.size W5).drew;generalize W5.drew=W6 at HC Pd⊢;clear r0 r1 Hi;go_wp2_with fail;refine HC.out.mono ?_;rintro e w7 ⟨a7,c7,rfl,I2⟩;have JS:=Pd.out.add I2;obtain⟨L9,zW⟩:∃L9,jy (fun k=>tD D k i) N T=L9:=⟨_,rfl⟩
  have zc:L9.Nodup:=by rw[<-zW];exact Zj _ _ _ Pd.out.tn
  have zg:∀z,z∈L9↔z<N/\tD D z i∈T:=fun z=>by rw[<-zW];exact NU _ _ _ z
  rw[zW] at JS⊢;obtain⟨q9,qi⟩:∃q9,L9.length=q9:=⟨_,rfl⟩
  rw[qi] at JS⊢;have Tp:q9<=N:=by rw[<-qi];exact p8 zc (fun z hz=>((zg z).1 hz).1)
  have T1:=hid (JS.call E5 zc (fun z hz=>((zg z).1 hz).1));have El:=hid (Zz JS (Zz zc zg));clear I2 JS zc zg zW qi HC;go_wp2_with fail;refine T1.out.mono ?_;rintro e w8 ⟨v8,vS8,rfl,EK⟩;have HI8:Hid (∃P v vS L8,P.mu N=Ey/\nP D c N Wb W0.heap.size (bz b v3 rI) b T gT cT P v vS a7 q9 c7 L8 (i+1) w8):=by
   refine⟨_,v8,vS8,L9,?_,El.out.1.div HB.out.2.2.2 HB.out.2.2.1 rW El.out.2.1 El.out.2.2 EK⟩;rw[iL.mu El.out.1.jX.pz L9 El.out.2.1 (fun z hz=>((El.out.2.2 z).1 hz).1)];exact U7.out.1
  clear EK T1;go_wp2;go_roundw
  ·exact⟨i+1,a7,q9,c7,by go_num,by omega,rfl,Tp,HI8.out⟩
  simp[intOf];omega
 obtain rfl:i=c:=by omega
 obtain⟨P,v5,rR,L8,pP,hI⟩:=rH.out;have hZ:=hI.all;have HT:=hid (hZ.call E5);have HZ:=hid (Zz hZ pP);clear hI hZ rH pP;go_wp2_with fail;refine HT.out.mono ?_;rintro e w6 h6;obtain⟨v9',rfl,GX,Nb⟩:=HZ.out.1.YZ HB.out.2.2.2 HB.out.2.2.1 hq h6;have I4:=hid (Zz GX Nb);clear h6 GX Nb HT;go_wp2;go_roundw
 ·exact I4.out.1
 show DV b N _ _<DV b N _ _;have h1:=I4.out.2;have h2:=Hmu.out;have h3:=HZ.out.2;omega
end Go.Proofs.YtbacgnhkapancaaGreat
