import Derived.Test.YtiijebameffenaaGreatZMul1
import Derived.Test.YtiijebameffenaaGreatZPDiv
import Derived.StillTailTactics
set_option linter.all false
set_option maxHeartbeats 8000000
set_option maxRecDepth 100000
open Go.Lib (hid)
namespace Go.Proofs.YtiijebameffenaaGreat
open Go.RowKit Go.Maps Go.WideElems Go.ChangeMaps Go.MapKept Go.Proofs.Tryz
open Or (inl inr)
open List (ext_getElem? getD_eq_getElem?_getD length_replicate range range_succ replicate take_of_length_le)
open Nat (le_refl le_trans zero_le)
open Value (ownBlock)
open World (ownsRow_nil)
open Act (put)
variable {B C N c gF gX:Nat}{D:Dd}{P:Pt}{V W0 w1 w6:World}{bs l ls:List Nat}{f x:Nat->Int}{v v':Nat->Value}{vS vS':Value}
def IJ(V:World)(B:Nat)(bs:List Nat)(b:Nat)(P:Pt)(w:World)(e:Ending)(w':World):Prop:=
 (P.L 4=[]/\e=.returned (.slice none 0 0)/\∃v vS,bq V B bs b v vS P w')\/
 (P.L 4≠[]/\∃(g c:Nat) (v:Nat->Value) (vS:Value),e=.returned (.slice (some ⟨g,0,none⟩) (eh P).length c)/\w'.ownsRow w.heap.size 3 1 (.slice (some ⟨g,0,none⟩) (eh P).length c) (eh P).length (cy (eh P))/\bq V B bs b v vS (ga P) w'/\g∉bf b v vS)
theorem zmi(N:Nat)(hN:N<=100000)(V:World)(B b:Nat)(bs:List Nat)(v:Nat->Value)(vS:Value)(P:Pt)(w:World)(h:bq V B bs b v vS P w)(hz:PZ N P):
  Calls prog 163 #[.pointer (some ⟨b,0,none⟩)] w (IJ V B bs b P w):=by
 obtain⟨q,hq⟩:∃q,(P.L 4).length=q:=⟨_,rfl⟩
 obtain⟨a4,c4,e4⟩:=h.CV 4 (by omega) hq;have b4:=h.c4.1;have f4:=h.c4.2;rw[e4] at b4;have Uq:=hz.1.th;rw[hq] at Uq;have MB:=hz.1.len;have H:=hid (Zz h (Zz hz (Zz hq e4)));clear h hz hq e4;go_enter func163,ntmps163;by_cases h0:q=0
 ·subst h0;have HF:Hid (IJ V B bs b P w (.returned (.slice none 0 0)) w):=inl ⟨List.eq_nil_of_length_eq_zero H.out.2.2.1,rfl,v,vS,H.out.1⟩;go_wp2;go_ret;exact HF.out
 obtain⟨p,rfl⟩:∃p,q=p+1:=⟨q-1,by omega⟩
 clear h0;have hne:P.L 4≠[]:=fun e=>by have:=H.out.2.2.1;rw[e] at this;simp at this
 have i0:(((p+1:Nat):Int) == 0)=false:=by rw[beq_eq_false_iff_ne];omega
 obtain⟨cm,uc⟩:∃cm,P.last=cm:=⟨_,rfl⟩
 have hm:cm∈P.L 4:=by
  rw[<-uc];unfold Pt.last;rcases List.eq_nil_or_concat (P.L 4) with e|⟨l,a,e⟩
  ·exact absurd e hne
  rw[e];simp
 obtain⟨tx,hlw⟩:=(H.out.2.1.1.tb.2 cm).1 hm;obtain⟨s1,s2,s3,s4⟩:=H.out.2.1.1.sp cm tx;have Ad:(P.L 4).getD p 0=cm:=by
  rw[<-uc];unfold Pt.last;have hl:=H.out.2.2.1;rcases List.eq_nil_or_concat (P.L 4) with e|⟨l,a,e⟩
  ·exact absurd e hne
  rw[e] at hl⊢;simp at hl;subst hl;simp[getD_eq_getElem?_getD]
 obtain⟨g4,c4',e4,y4,_⟩:=H.out.1.num 4 (by omega) p (by rw[H.out.2.2.1];omega);rw[H.out.2.2.1,H.out.2.2.2] at e4;obtain rfl:a4=some ⟨g4,0,none⟩:=by injection e4
 rw[Ad] at y4;obtain⟨nS,xC⟩:∃nS,P.sp.length=nS:=⟨_,rfl⟩
 obtain⟨gS,cS,eS⟩:=H.out.1.Si xC (by omega);have aS:=H.out.1.mA.1;rw[eS] at aS;obtain⟨f,hf⟩:∃f,(P.s cm).f=f:=⟨_,rfl⟩
 obtain⟨g,hg⟩:∃g,(P.s cm).g=g:=⟨_,rfl⟩
 rw[hf,hg] at s1;rw[hg] at s2;have iS:(cm:Int)<nS:=by omega
 have ta:p+1<=c4:=by
  have ho:=H.out.1.row 4 (by omega);rw[H.out.2.2.2] at ho;rcases ho.2 with ⟨h1,_⟩|⟨_,cap,_,h1,_,_,h2,_⟩
  ·cases h1
  injection h1 with _ e1 e2;have h3:(P.L 4).length<=cap:=h2;omega
 have HE:=hid (Zz hne (Zz uc (Zz xC (Zz eS (Zz hf hg)))));clear hne uc hm hlw s3 s4 Ad e4 xC eS hf hg;go_upto_region 4 with fail;go_quiet (fail);have HB:=hid (below_drewN (Below.refl w.heap.size w) nq);have nU:bq V B bs b v vS P (w.drewN nq):=H.out.1.aa (below_drewN (Below.refl _ _) _);generalize w.drewN nq=W2 at nU HB⊢;clear y4 aS b4 f4;have b4:=nU.c4.1;have f4:=nU.c4.2;rw[H.out.2.2.2] at b4;have h1:=nU.xo 4 (by omega) H.out.2.2.2 p (by rw[H.out.2.2.1];omega);replace h1:bq V B bs b (sy v 4 (.slice (some ⟨g4,0,none⟩) p c4)) vS ⟨eu P.L 4 ((P.L 4).take p),P.sp⟩ (W2.setCell ⟨b,5,none⟩ (.slice (some ⟨g4,0,none⟩) p c4)):=h1;have hpq:p<=p+1:=by omega
 have SZ:Hid (w.heap.size<=W2.heap.size):=HB.out.size;go_upto_region 6 with fail;obtain⟨v4,Qk⟩:∃v4,sy v 4 (.slice (some ⟨g4,0,none⟩) p c4)=v4:=⟨_,rfl⟩
 rw[Qk] at h1;have AU:eu P.L 4 ((P.L 4).take p)=(ga P).L:=by
  show _=eu P.L 4 (P.L 4).dropLast;rw[List.dropLast_eq_take,H.out.2.2.1];rfl
 rw[AU] at h1;replace SZ:Hid (w.heap.size<=(W2.setCell ⟨b,5,none⟩ (.slice (some ⟨g4,0,none⟩) p c4)).heap.size):=by show w.heap.size<=_;have:=SZ.out;simpa [World.setCell] using this
 generalize W2.setCell ⟨b,5,none⟩ (.slice (some ⟨g4,0,none⟩) p c4)=W3 at h1 SZ⊢;clear b4 f4 nU;have DN:=(h1.Bq HE.out.2.2.2.1 cm (by show cm<P.sp.length;rw[HE.out.2.2.1];omega)).cw;have hwz:=(h1.Bq HE.out.2.2.2.1 cm (by show cm<P.sp.length;rw[HE.out.2.2.1];omega)).z3;have h2:=h1.xJ HE.out.2.2.2.1 cm 3 ⟨(P.s cm).f,(P.s cm).g,(P.s cm).h,false⟩ (by show cm<P.sp.length;rw[HE.out.2.2.1];omega) (by omega) (fun k' hk' hn=>by
  have:k'=0\/k'=1\/k'=2:=by omega
  rcases this with rfl|rfl|rfl <;> rfl)
 have h3:bq V B bs b v4 vS (ga P) (W3.setCell ⟨gS,cm*4+3,none⟩ (.bool false)):=by
  refine h2.congr (fun i hi=>rfl) ?_;show P.sp.set cm _=P.sp.set P.last _;rw[HE.out.2.1]
 obtain⟨wb,hwb⟩:∃wb,W3.cell? ⟨gS,cm*4+3,none⟩=some (.bool wb):=⟨_,DN⟩
 clear DN h2 h1;go_upto_region 7 with fail;replace SZ:Hid (w.heap.size<=(W3.setCell ⟨gS,cm*4+3,none⟩ (.bool false)).heap.size):=by show w.heap.size<=_;have:=SZ.out;simpa [World.setCell] using this
 generalize W3.setCell ⟨gS,cm*4+3,none⟩ (.bool false)=W4 at h3 SZ⊢;clear hwb hwz;obtain⟨m0,oo⟩:∃m0,(P.L 0).length=m0:=⟨_,rfl⟩
 have RA:m0=N:=by rw[<-oo];exact H.out.2.1.1.l0
 obtain⟨g0,c0,e0⟩:=h3.sl 0 (by omega) (q:=m0) oo (by omega);have b0:=h3.c0.1;rw[e0] at b0;have py:m0<=c0:=by
  have ho:=h3.row 0 (by omega);rw[e0] at ho;rcases ho.2 with ⟨h1,_⟩|⟨_,cap,_,h1,_,_,h2,_⟩
  ·cases h1
  injection h1 with _ e1 e2;have h3:(P.L 0).length<=cap:=h2;omega
 obtain⟨x1,x2,_,_,_,_,_⟩:=h3.Bq HE.out.2.2.2.1 cm (by show cm<(ga P).sp.length;unfold ga;rw[List.length_set,HE.out.2.2.1];omega);have JD:(ga P).s cm=⟨(P.s cm).f,(P.s cm).g,(P.s cm).h,false⟩:=by
  show (⟨eu P.L 4 (P.L 4).dropLast,P.sp.set P.last ⟨(P.s P.last).f,(P.s P.last).g,(P.s P.last).h,false⟩⟩:Pt).s cm=_;rw[HE.out.2.1,Pt.qf _ _ _ _ _ (by rw[HE.out.2.2.1];omega),if_pos rfl]
 rw[JD] at x1 x2;rw[show (⟨(P.s cm).f,(P.s cm).g,(P.s cm).h,false⟩:nM).f=f from HE.out.2.2.2.2.1] at x1;rw[show (⟨(P.s cm).f,(P.s cm).g,(P.s cm).h,false⟩:nM).g=g from HE.out.2.2.2.2.2] at x2;obtain⟨m,hm⟩:∃m,g-f=m:=⟨_,rfl⟩
 have wV:(eh P).length=m:=by
  unfold eh;rw[List.length_take,List.length_drop,oo,HE.out.2.1,HE.out.2.2.2.2.1,HE.out.2.2.2.2.2,hm];omega
 have Vf:∀j,j<m->(eh P).getD j 0=(P.L 0).getD (f+j) 0:=fun j hj=>by
  unfold eh;rw[HE.out.2.1,HE.out.2.2.2.2.1,HE.out.2.2.2.2.2,hm,getD_eq_getElem?_getD,List.getElem?_take_of_lt hj,List.getElem?_drop,getD_eq_getElem?_getD]
 have hZ:∀W,bq V B bs b v4 vS (ga P) W->lb W (some ⟨g0,f,none⟩) m (fun j=>(((eh P).getD j 0:Nat):Int)):=fun W hW hpos=>by
  have ho:=hW.row 0 (by omega);refine⟨g0,f,rfl,lx ho g0 (by rw[e0];rfl),fun j hj=>?_⟩;have:=(hW.MS 0 (by omega) e0 (f+j) (by show f+j<(P.L 0).length;omega)).1;rw[this];show some (Value.int .i64 (((P.L 0).getD (f+j) 0:Nat):Int))=some (Value.int .i64 (((eh P).getD j 0:Nat):Int));rw[Vf j hj]
 have HZ:=hid hZ;have H3:=hid (Zz h3 (Zz Qk (Zz e0 wV)));have j1:(f:Int)<=g:=by omega
 have j2:(g:Int)<=c0:=by omega
 have j3:(f:Int)<c0:=by omega
 clear hZ Vf wV JD h3 Qk e0 oo RA AU
 go_still_tail 13,(by kernel_rfl)
 change wpList _ _ _ _ _ W4.drew;have og:bq V B bs b v4 vS (ga P) W4.drew:=H3.out.1.aa (Below.refl _ _).drew;replace SZ:Hid (w.heap.size<=W4.drew.heap.size):=SZ.out;generalize W4.drew=W5 at og SZ⊢;have HC:=hid (JT m (c0-f) (some ⟨g0,f,none⟩) (fun j=>(((eh P).getD j 0:Nat):Int)) (by omega) W5 (HZ.out W5 og) (by simp) (by simp));have yM:=hid og;clear og b0 x1 x2;go_wp2_with fail;refine HC.out.mono ?_;rintro e w6 ⟨a6,c6,rfl,jS,b6⟩;have HF:Hid (IJ V B bs b P w (.returned (.slice a6 m c6)) w6):=by
  have hP6:=yM.out.aa b6;have ze:ints ((range m).map (fun j=>(((eh P).getD j 0:Nat):Int)))=cy (eh P):=by
   apply ext_getElem?;intro j;have hl:=H3.out.2.2.2;by_cases hj:j<m
   ·have h2:j<(eh P).length:=(by omega);simp[ints,cy,hj,h2,getD_eq_getElem?_getD]
   have h2:¬j<(eh P).length:=(by omega);simp[ints,cy,hj,h2]
  rw[ze] at jS;obtain⟨g6,rfl,fQ,_,_⟩:=eR jS (by omega);have da:w.heap.size<=W5.heap.size:=SZ.out;refine inr ⟨HE.out.1,g6,c6,v4,vS,?_,?_,hP6,?_⟩
  ·rw[H3.out.2.2.2]
  ·rw[H3.out.2.2.2];exact jF jS da
  intro zE;rcases uF.1 zE with e9|e9|⟨i,hi,e9⟩
  ·have:=yM.out.st.lt;omega
  ·have:=lx yM.out.ny g6 e9;omega
  have:=lx (yM.out.row i hi) g6 e9;omega
 clear jS b6 HC;go_wp2;go_ret;exact HF.out
def QR(N:Nat)(w:World)(e:Ending)(w':World):Prop:=
 ∃(b:Nat) (v:Nat->Value) (vS:Value),e=.returned (.pointer (some ⟨b,0,none⟩))/\bq w' w.heap.size (bf b v vS) b v vS (fk N) w'/\Below w.heap.size w w'/\∀x∈bf b v vS,w.heap.size<=x
def BC(N k:Nat):Pt:=⟨fun i=>if i=0 then range k else if i=1 then range k else if i=2 then replicate N 0 else [],[⟨0,N,0,false⟩]⟩
def Ke(gB:Nat)(N:Nat)(i:Nat):Value:=if i=2 then .slice (some ⟨gB,0,none⟩) N N else .slice none 0 0
theorem ZR(N:Nat)(hN:N<=100000)(w:World):Calls prog 159 #[.int .i64 (N:Int)] w (QR N w):=by
 have hm:=Fu N (by omega);go_enter func159,ntmps159;go_upto_region 2 with fail;obtain⟨W3,tY⟩:∃W3,((w.alloc (.cells (madeCells #[.int .i64 0] N) 3)).alloc (.cells #[.int .i64 0,.int .i64 (N:Int),.int .i64 0,.bool false] 225)).alloc (.cells #[.slice none 0 0,.slice none 0 0,.slice (some ⟨w.heap.size,0,none⟩) N N,.slice (some ⟨w.heap.size+1,0,none⟩) 1 1,.slice none 0 0,.slice none 0 0] 215)=W3:=⟨_,rfl⟩
 obtain⟨b,hb⟩:∃b,w.heap.size+1+1=b:=⟨_,rfl⟩
 obtain⟨bs,rG⟩:∃bs,bf b (Ke w.heap.size N) (.slice (some ⟨w.heap.size+1,0,none⟩) 1 1)=bs:=⟨_,rfl⟩
 have h0:bq W3 w.heap.size bs b (Ke w.heap.size N) (.slice (some ⟨w.heap.size+1,0,none⟩) 1 1) (BC N 0) W3/\Below w.heap.size w W3/\∀x∈bs,w.heap.size<=x:=by
  have k1:=al w (.cells (madeCells #[.int .i64 0] N) 3);have k2:=al (w.alloc (.cells (madeCells #[.int .i64 0] N) 3)) (.cells #[.int .i64 0,.int .i64 (N:Int),.int .i64 0,.bool false] 225);have k3:=al ((w.alloc (.cells (madeCells #[.int .i64 0] N) 3)).alloc (.cells #[.int .i64 0,.int .i64 (N:Int),.int .i64 0,.bool false] 225)) (.cells #[.slice none 0 0,.slice none 0 0,.slice (some ⟨w.heap.size,0,none⟩) N N,.slice (some ⟨w.heap.size+1,0,none⟩) 1 1,.slice none 0 0,.slice none 0 0] 215);have o1:=dp (dp (Cx w w.heap.size N 3 (.int .i64 0) (le_refl _) (by unfold maxLen;omega)) k2) k3;have o2:=dp (Bl (w.alloc (.cells (madeCells #[.int .i64 0] N) 3)) w.heap.size 225 4 #[.int .i64 0,.int .i64 (N:Int),.int .i64 0,.bool false] 1 rfl (by simp) (by unfold maxLen;omega)) k3;have st:=St.new ((w.alloc (.cells (madeCells #[.int .i64 0] N) 3)).alloc (.cells #[.int .i64 0,.int .i64 (N:Int),.int .i64 0,.bool false] 225)) 215 #[.slice none 0 0,.slice none 0 0,.slice (some ⟨w.heap.size,0,none⟩) N N,.slice (some ⟨w.heap.size+1,0,none⟩) 1 1,.slice none 0 0,.slice none 0 0];have kk:Below w.heap.size w W3:=by rw[<-tY];exact k1.trans ((k2.mono (by simp)).trans (k3.mono (by simp;omega)))
  rw[tY] at o1 o2 st;have kz:(w.alloc (.cells (madeCells #[.int .i64 0] N) 3)).heap.size=w.heap.size+1:=by simp
  have nY:((w.alloc (.cells (madeCells #[.int .i64 0] N) 3)).alloc (.cells #[.int .i64 0,.int .i64 (N:Int),.int .i64 0,.bool false] 225)).heap.size=b:=by rw[<-hb];simp
  rw[kz] at o2;rw[nY] at st;have aX:∀i,i<5->∀g,(Ke w.heap.size N i).ownBlock=some g->i=2/\g=w.heap.size:=fun i hi g e=>by
   unfold Ke at e;split at e
   ·rename_i h2;simp[ownBlock] at e;exact⟨h2,e.symm⟩
   simp[ownBlock] at e
  have Qu:∀x∈bs,w.heap.size<=x:=fun x hx=>by
   rw[<-rG] at hx;rcases uF.1 hx with e|e|⟨i,hi,e⟩
   ·omega
   ·simp[ownBlock] at e;omega
   have:=(aX i hi x e).2;omega
  refine⟨⟨Kept.refl _ _ _,Below.refl _ _,st,fun i hi=>?_,fun i j hi hj hij g e1 e2=>?_,?_,fun i hi g e=>inl (by rw[<-rG];exact uF.2 (inr (inr ⟨i,hi,e⟩))),fun g e=>inl (by rw[<-rG];exact uF.2 (inr (inl e))),by rw[<-rG];exact uF.2 (inl rfl),by omega,kk.size⟩,kk,Qu⟩
  ·have:i=0\/i=1\/i=2\/i=3\/i=4:=(by omega);rcases this with rfl|rfl|rfl|rfl|rfl
   ·exact ownsRow_nil _ _ _ _
   ·exact ownsRow_nil _ _ _ _
   ·show W3.ownsRow _ _ _ (.slice (some ⟨w.heap.size,0,none⟩) N N) (replicate N 0).length (cy (replicate N 0));have e:cy (replicate N 0)=replicate N (.int .i64 0):=(by simp[cy]);rw[e,length_replicate];exact o1
   ·exact ownsRow_nil _ _ _ _
   exact ownsRow_nil _ _ _ _
  ·have:=(aX i hi g e1).1;have:=(aX j hj g e2).1;omega
  exact o2
 have H0:=hid h0;rw[tY,hb];clear tY h0;have Hbs:=hid (Zz hb rG);clear hb rG;go_wp2;go_loopw [4,13] (fun _ vk wr=>∃k:Nat,vk=.int .i64 k/\k<=N/\Hid (∃v vS,bq W3 w.heap.size bs b v vS (BC N k) wr)) (fun _ v _=>N-(intOf v).toNat)
 ·exact⟨0,rfl,zero_le _,_,_,H0.out.1⟩
 obtain⟨k,rfl,hk,HL⟩:=hrel;by_cases aw:k<N
 ·obtain⟨v,vS,h⟩:=HL.out;have lg:((BC N k).L 0).length=k:=by show (range k).length=k;simp
  have hO:=h.row 0 (by omega);obtain⟨a3,c3,e3⟩:=h.CV 0 (by omega) lg;have a4:=h.c0.1;rw[lg,e3] at hO;rw[e3] at a4;have hV:=h.hB;have HP:=hid h;have qj:=hid e3;have Hl0:=hid lg;obtain⟨i0,hi,dD,db,cW⟩:=info_parts az;have i1:(k:Int)<N:=by omega
  clear h e3 lg HL;go_upto_region 5 with fail;go_wp2_with (at_builtin;refine wpList_append_own_at _ rfl _ _ 43 rfl w.heap.size 3 i0 (.int .i64 0) 1 8 underlying43 hi dD db cW rfl (by decide) _ _ _ rfl (hO.alloc _) ⟨wr.heap.size,0,none⟩ 1 1 [.int .i64 (k:Int)] rfl rfl (cell_one_new _ _ _) ?d2 ?d3 ?d4 ?d5 ?_)
  case d2=>intro u hu;simp at hu;subst hu;rfl
  case d3=>unfold maxLen;omega
  case d4=>omega
  case d5=>simp;omega
  intro v' w5 ak aj _ bg;have h2:=HP.out.aa (al wr (.cells #[.int .i64 (k:Int)] 3));have fm:=h2.st.ag (hO.alloc _) (by decide) aj;have p3:w5.cell? ⟨b,0,none⟩=some (.slice a3 k c3):=by rw[fm.at_];show some (v 0)=_;rw[qj.out]
  have pf:=fm.ba 0;have h5:bq W3 w.heap.size bs b (sy v 0 v') vS ⟨eu (BC N k).L 0 (range k++[k]),(BC N k).sp⟩ (w5.setCell ⟨b,0,none⟩ v'):=h2.app (v':=v') (x:=k) 0 (by omega) Hl0.out ak (by rw[qj.out];exact aj) (by
   rw[show (wr.alloc (.cells #[.int .i64 (k:Int)] 3)).heap.size=wr.heap.size+1 by simp,qj.out]
   rcases bg with h|h
   ·exact inl h
   ·exact inr (inl h))
  obtain⟨a5,c5,rfl⟩:=bF ak;clear ak aj bg h2 fm hO a4;go_upto_region 6 with fail;clear p3 pf;obtain⟨W6,zk⟩:∃W6,w5.setCell ⟨b,0,none⟩ (.slice a5 (k+1) c5)=W6:=⟨_,rfl⟩
  obtain⟨v6,YQ⟩:∃v6,sy v 0 (.slice a5 (k+1) c5)=v6:=⟨_,rfl⟩
  rw[zk,YQ] at h5;rw[zk];clear zk YQ HP qj;have pR:((⟨eu (BC N k).L 0 (range k++[k]),(BC N k).sp⟩:Pt).L 1).length=k:=by show (range k).length=k;simp
  have hO:=h5.row 1 (by omega);obtain⟨a3,c3,e3⟩:=h5.CV 1 (by omega) pR;have a4:=h5.c1.1;rw[pR,e3] at hO;rw[e3] at a4;have hV:=h5.hB;have HP:=hid h5;have qj:=hid e3;have Hl1:=hid pR;clear h5 e3 pR;go_wp2_with (at_builtin;refine wpList_append_own_at _ rfl _ _ 43 rfl w.heap.size 3 i0 (.int .i64 0) 1 8 underlying43 hi dD db cW rfl (by decide) _ _ _ rfl (hO.alloc _) ⟨W6.heap.size,0,none⟩ 1 1 [.int .i64 (k:Int)] rfl rfl (cell_one_new _ _ _) ?f2 ?f3 ?f4 ?f5 ?_)
  case f2=>first|(intro u hu;simp at hu;subst hu;rfl)|rfl
  case f3=>unfold maxLen;omega
  case f4=>omega
  case f5=>first|(simp;omega)|omega
  intro v' w7 ak aj _ bg;have h2:=HP.out.aa (al W6 (.cells #[.int .i64 (k:Int)] 3));have fm:=h2.st.ag (hO.alloc _) (by decide) aj;have p3:w7.cell? ⟨b,1,none⟩=some (.slice a3 k c3):=by rw[fm.at_];show some (v6 1)=_;rw[qj.out]
  have pf:=fm.ba 1;have HF:Hid (bq W3 w.heap.size bs b (sy v6 1 v') vS (BC N (k+1)) (w7.setCell ⟨b,1,none⟩ v')):=by
   have h7:=h2.app (v':=v') (x:=k) 1 (by omega) Hl1.out ak (by rw[qj.out];exact aj) (by
    rw[show (W6.alloc (.cells #[.int .i64 (k:Int)] 3)).heap.size=W6.heap.size+1 by simp,qj.out]
    rcases bg with h|h
    ·exact inl h
    ·exact inr (inl h))
   refine h7.congr (fun i hi=>?_) rfl;have:i=0\/i=1\/i=2\/i=3\/i=4:=(by omega);rcases this with rfl|rfl|rfl|rfl|rfl
   ·show range k++[k]=range (k+1);rw[range_succ]
   ·show range k++[k]=range (k+1);rw[range_succ]
   ·rfl
   ·rfl
   rfl
  obtain⟨a7,c7,rfl⟩:=bF ak;clear ak aj bg h2 fm hO a4 HP;go_wp2;go_roundw
  ·exact⟨k+1,by go_num,by omega,_,_,HF.out⟩
  simp[intOf];omega
 obtain rfl:k=N:=by omega
 obtain⟨v,vS,h⟩:=HL.out;have HF:Hid (QR k w (.returned (.pointer (some ⟨b,0,none⟩))) wr):=by
  refine⟨b,v,vS,rfl,?_,H0.out.2.1.trans h.below,fun x hx=>?_⟩
  ·exact h.start.congr (fun i hi=>rfl) rfl
  rcases h.rU x hx with h3|h3
  ·exact H0.out.2.2 x h3
  exact le_trans H0.out.2.1.size h3
 clear h HL H0;go_wp2;go_ret;exact HF.out
def Qc(N:Nat)(w:World)(e:Ending)(w':World):Prop:=
 ∃g,e=.returned (.slice (some ⟨g,0,none⟩) N N)/\w'.ownsRow w.heap.size 3 1 (.slice (some ⟨g,0,none⟩) N N) N (ints (replicate N (-1)))/\Below w.heap.size w w'
def iC(N n:Nat):List Value:=replicate n (.int .i64 (-1))++replicate (N-n) (.int .i64 0)
theorem QL(N n:Nat)(h:n<=N):(iC N n).length=N:=by simp[iC];omega
theorem zgH(N n m:Nat)(h:n+m<=N):splice (iC N n) n (replicate m (.int .i64 (-1)))=iC N (n+m):=by
 unfold splice iC;rw[List.take_append_of_le_length (by simp),take_of_length_le (by simp),length_replicate,List.drop_append];simp only[length_replicate,List.drop_replicate];rw[show n-(n+m)=0 by omega,List.replicate_zero,List.nil_append,<-List.append_assoc,List.replicate_append_replicate,show N-n-(n+m-n)=N-(n+m) by omega]
theorem zmh(N:Nat):splice (replicate N (Value.int .i64 0)) 0 [.int .i64 (-1)]=iC N 1\/N=0:=by
 rcases Nat.eq_zero_or_pos N with h|h
 ·exact inr h
 left;unfold splice iC;simp
theorem ziB(N:Nat)(VI:1<=N)(hN:N<=100000)(g:Nat)(w:World)(hc:w.cell? ⟨g,0,none⟩=some (.int .i64 (-1)))(hg:g<w.heap.size):
  Calls prog 181 #[.slice (some ⟨g,0,none⟩) 1 1,.int .i64 (N:Int)] w (Qc N w):=by
 have HM:=hid (zlM N hN w);have hm:=Fu N (by omega);have i1:¬((N:Int)<0):=by omega
 have i2:IntKind.u64.wrap (N:Int)=N:=X0 N (by omega);have i3:¬((N:Int) > 9223372036854775807):=by omega
 have i4:IntKind.i64.wrap (N:Int)=N:=IntWalk.i64_in _ (by omega);have i5:IntKind.u64.wrap 1=1:=by decide
 have iI:=az;go_enter func181,ntmps181;go_wp2_with fail;refine HM.out.mono ?_;rintro e w2 ⟨rfl,rfl⟩;go_upto_region 7 with fail;have HG:Hid ((w.alloc (.cells (madeCells #[.int .i64 0] N) 3)).heap[w.heap.size]?=some (.cells (replicate N (.int .i64 0)).toArray 3 (0,0))/\Below w.heap.size w (w.alloc (.cells (madeCells #[.int .i64 0] N) 3))):=by
  refine⟨?_,al w _⟩;have:=(KE (Cx w w.heap.size N 3 (.int .i64 0) (le_refl _) (by unfold maxLen;omega))).1;exact this
 have jf:(w.alloc (.cells (madeCells #[.int .i64 0] N) 3)).cell? ⟨g,0,none⟩=some (.int .i64 (-1)):=((al w _).cell (p:=⟨g,0,none⟩) hg).trans hc;obtain⟨gN,mC⟩:∃gN,w.heap.size=gN:=⟨_,rfl⟩
 rw[mC] at HG⊢;generalize w.alloc (.cells (madeCells #[.int .i64 0] N) 3)=W1 at HG jf⊢;have IA:Nat.min 1 N=1:=Nat.min_eq_left VI;have S7:=hid mC;clear mC hm hc HM;have rQ:∀j v,([Value.int .i64 (-1)]:List Value)[j]?=some v->W1.cell? ((⟨g,0,none⟩:Addr).add j)=some v:=fun j v hj=>by
  have:j=0:=by
   have:=(List.getElem?_eq_some_iff.1 hj).1;simpa using this
  subst this;simp at hj;rw[<-hj];exact jf
 have MV:=hid rQ;clear rQ;have GF:(prog.info? 3).map (·.size)=some 1:=by kernel_rfl
 have rY:0<([Value.int .i64 (-1)]:List Value).length->(some ⟨gN,0,none⟩:Option Addr)=some ⟨gN,0,none⟩/\∃ad,(some ⟨g,0,none⟩:Option Addr)=some ad/\∀j v,([Value.int .i64 (-1)]:List Value)[j]?=some v->W1.cell? (ad.add j)=some v:=fun _=>⟨rfl,⟨g,0,none⟩,rfl,MV.out⟩
 have nU:0+([Value.int .i64 (-1)]:List Value).length<=(replicate N (Value.int .i64 0)).length:=by rw[length_replicate];show 0+1<=N;omega
 have rn:∀v∈([Value.int .i64 (-1)]:List Value),v.oneCell'=true:=by intro v hv;rw[List.mem_singleton.1 hv];rfl
 have HP:=hid (Zz rY (Zz nU rn));have Oq:=hid IA;clear rY nU rn IA;go_wp2_with (refine wpList_copy_splice rfl _ _ _ _ rfl 3 underlying43 GF (some ⟨gN,0,none⟩) (some ⟨g,0,none⟩) N N 1 1 rfl rfl gN 0 (replicate N (.int .i64 0)) 3 HG.out.1 [.int .i64 (-1)] Oq.out.symm HP.out.1 HP.out.2.1 HP.out.2.2 gN w HG.out.2 (le_refl _) ?_);intro W2 Ti mo;have H2:Hid (W2.heap[gN]?=some (.cells (iC N 1).toArray 3 (0,0))/\Below gN w W2):=by
  refine⟨?_,mo⟩;have h:=Ti.out;rcases zmh N with e|e
  ·rw[e] at h;exact h
  omega
 clear Ti mo HG jf;go_wp2;go_loopw [8] (fun v wr=>∃n:Nat,v=.int .i64 n/\1<=n/\n<=N/\Hid (wr.heap[gN]?=some (.cells (iC N n).toArray 3 (0,0))/\Below gN w wr)) (fun v _=>N-(intOf v).toNat)
 ·exact⟨1,rfl,le_refl _,VI,H2.out⟩
 clear H2;obtain⟨n,rfl,fA,hn,HL⟩:=hrel;by_cases aw:n<N
 ·have j1:(n:Int)<N:=by omega
  have j2:(n:Int)<=N:=by omega
  obtain⟨m,iJ⟩:∃m,min n (N-n)=m:=⟨_,rfl⟩
  have nc:1<=m/\n+m<=N/\m<=n:=by omega
  have FY:Nat.min n (N-n)=m:=iJ;have vp:(replicate m (Value.int .i64 (-1))).length=Nat.min n (N-n):=by rw[length_replicate,FY]
  have rY:0<(replicate m (Value.int .i64 (-1))).length->(some ⟨gN,n,none⟩:Option Addr)=some ⟨gN,n,none⟩/\∃ad,(some ⟨gN,0,none⟩:Option Addr)=some ad/\∀j v,(replicate m (Value.int .i64 (-1)))[j]?=some v->wr.drew.cell? (ad.add j)=some v:=fun _=>⟨rfl,⟨gN,0,none⟩,rfl,fun j v hj=>by
   have hj2:j<m:=by simpa using (List.getElem?_eq_some_iff.1 hj).1
   have hv:v=.int .i64 (-1):=by
    have:=(List.getElem?_eq_some_iff.1 hj).2
    simpa using this.symm
   have hc:wr.cell? ⟨gN,j,none⟩=(iC N n).toArray[j]?:=cell_of_row wr gN j _ _ _ HL.out.1
   have e:(⟨gN,0,none⟩:Addr).add j=⟨gN,j,none⟩:=by unfold Addr.add;split <;> simp_all
   rw[e]
   show wr.cell? ⟨gN,j,none⟩=some v
   rw[hc,hv]
   simp[iC,List.getElem?_append,show j<n by omega]⟩
  have nU:n+(replicate m (Value.int .i64 (-1))).length<=(iC N n).length:=by rw[length_replicate,QL N n hn];omega
  have rn:∀v∈replicate m (Value.int .i64 (-1)),v.oneCell'=true:=by intro v hv;rw[List.eq_of_mem_replicate hv];rfl
  have HP:=hid (Zz vp (Zz rY (Zz nU rn)));have Mk:Hid (wr.drew.heap[gN]?=some (.cells (iC N n).toArray 3 (0,0))/\Below gN w wr.drew):=⟨HL.out.1,HL.out.2.drew⟩
  have HS:Hid (splice (iC N n) n (replicate m (Value.int .i64 (-1)))=iC N (n+m)):=zgH N n m nc.2.1;have Hm:=hid (Zz iJ nc);clear vp rY nU rn iJ FY nc;have hne:¬(N=n):=by omega
  go_upto_region 9 with fail;refine wp_region_held_drew (S:=fun W'=>Below gN w W') (by kernel_rfl) Mk.out.2 (fun hHeld=>?_)
  (refine aq 0 ?_;refine aq 1 ?_;refine aq 2 ?_;try simp only[put,sA,sB,sC];refine aq 3 ?_;refine aq 4 ?_;refine aq 5 ?_;try simp only[put,sA,sB,sC];refine aq 6 ?_;try simp only[put,sA,sB,sC])
  refine aQ 7 (fun K hK=>?_);skip;refine step_copy_splice (by rfl) _ _ _ _ (by rfl) 3 underlying43 GF (some ⟨gN,n,none⟩) (some ⟨gN,0,none⟩) (N-n) (N-n) n N (by rfl) (by rfl) gN n (iC N n) 3 Mk.out.1 (replicate m (Value.int .i64 (-1))) HP.out.1 HP.out.2.1 HP.out.2.2.1 HP.out.2.2.2 gN w Mk.out.2 (le_refl _) ?_;intro W5 VV kT;have H5:Hid (W5.heap[gN]?=some (.cells (iC N (n+m)).toArray 3 (0,0))/\Below gN w W5):=by
   have h:=VV.out;rw[HS.out] at h;exact⟨h,kT⟩
  have hlen:(replicate m (Value.int .i64 (-1))).length=m:=length_replicate;rw[hlen];refine hK.out _ _ (kT) (fun hHeld=>?_);clear hK K
  try simp only[put,sA,sB,sC]
  have w1:(n:Int)+(m:Int)<=100000:=by have:=Hm.out.2;omega
  have w2:IntKind.i64.wrap ((n:Int)+(m:Int))=(n:Int)+(m:Int):=IntWalk.i64_in _ (by omega)
  (refine aq 8 ?_;refine aq 9 ?_;try simp only[put,sA,sB,sC])
  refine wpAnyH_done (by kernel_rfl) ?_ _;clear VV kT Mk HP HL HS hHeld;go_wp2;go_roundw
  ·exact⟨n+m,by go_num,by have:=Hm.out.2;omega,by have:=Hm.out.2;omega,H5.out⟩
  (have h8:=Hm.out.2;have h9:((n:Int)+(m:Int)).toNat=n+m:=(by omega);simp[intOf];omega)
 obtain rfl:n=N:=by omega
 have HF:Hid (Qc n w (.returned (.slice (some ⟨gN,0,none⟩) n n)) wr):=by
  refine⟨gN,rfl,?_,by rw[S7.out];exact HL.out.2⟩;rw[S7.out];have e:iC n n=ints (replicate n (-1)):=by simp[iC,ints]
  refine⟨by simp[ints],inr ⟨gN,n,_,rfl,le_refl _,HL.out.1,le_refl _,by unfold maxLen;omega,by simp[QL n n (le_refl _)],?_⟩⟩;rw[<-e];simp[take_of_length_le,QL n n (le_refl _)]
 clear HL;go_wp2;go_ret;exact HF.out
def oI(f:Nat->Int)(n:Nat):List Value:=(range n).map fun y=>Value.int .i64 (f y)
theorem JU(f:Nat->Int)(n x:Nat)(h:x<n):(oI f n)[x]?=some (.int .i64 (f x)):=by simp[oI,h]
theorem Yh(f:Nat->Int)(n x:Nat)(v:Int):(oI f n).set x (.int .i64 v)=oI (fun y=>if y=x then v else f y) n:=by
 unfold oI;apply ext_getElem?;intro i;rw[List.getElem?_set];by_cases e:x=i
 ·subst e;by_cases h:x<n
  ·simp[h]
  simp[h]
 rw[if_neg e];by_cases h:i<n
 ·simp[h,Ne.symm e,show ¬i=x from fun h=>e h.symm]
 simp[h]
theorem Vu(n:Nat)(v:Int):ints (replicate n v)=oI (fun _=>v) n:=by
 unfold oI ints;apply ext_getElem?;intro i;by_cases h:i<n <;> simp[h]
def LL(x:Nat->Int):Int->List Nat->Prop
 | v,[]=>v=-1
 | v,a :: l=>v=(a:Int)/\LL x (x a) l
def chain(t:Nat->Nat)(k s:Nat):List Nat:=((range k).filter fun i=>t i == s).reverse
theorem GP(t:Nat->Nat)(k s i:Nat):i∈chain t k s↔i<k/\t i=s:=by simp[chain]
theorem zgt(t:Nat->Nat)(k s:Nat):(chain t k s).Nodup:=by
 unfold chain;exact List.pairwise_reverse.2 ((List.Nodup.sublist List.filter_sublist List.nodup_range).imp fun h=>Ne.symm h)
theorem ziq(t:Nat->Nat)(k s:Nat):chain t (k+1) s=if t k=s then k :: chain t k s else chain t k s:=by
 unfold chain;rw[range_succ,List.filter_append,List.reverse_append];by_cases h:t k=s
 ·simp[h]
 simp[h]
theorem LL.congr{x x':Nat->Int}:∀(l:List Nat) (v:Int),(∀a∈l,x a=x' a)->LL x v l->LL x' v l
 | [],_,_,h=>h
 | a :: l,v,e,h=>⟨h.1,by
   have h2:=h.2
   rw[e a List.mem_cons_self] at h2
   exact LL.congr l _ (fun b hb=>e b (List.mem_cons_of_mem _ hb)) h2⟩
theorem LL.link{t:Nat->Nat}{k:Nat}(h:∀s,s<N->LL x (f s) (chain t k s))(hk:t k<N):
  ∀s,s<N->LL (fun j=>if j=k then f (t k) else x j) (if s=t k then (k:Int) else f s) (chain t (k+1) s):=by
 intro s xO;rw[ziq];have hc:∀s,s<N->LL (fun j=>if j=k then f (t k) else x j) (f s) (chain t k s):=fun s xO=>
  LL.congr _ _ (fun a ha=>by
   have:=((GP t k s a).1 ha).1
   rw[if_neg (by omega)]) (h s xO)
 by_cases e:s=t k
 ·subst e;rw[if_pos rfl,if_pos rfl];refine⟨rfl,?_⟩;show LL _ (if k=k then f (t k) else x k) _;rw[if_pos rfl];exact hc _ xO
 rw[if_neg e,if_neg (fun e2=>e e2.symm)];exact hc _ xO
structure rb (W0 w:World)(b gF gX N:Nat)(f x:Nat->Int):Prop where
 aU:Below W0.heap.size W0 w
 st:St w 210 b #[.slice (some ⟨gF,0,none⟩) N N,.slice (some ⟨gX,0,none⟩) N N]
 fs:w.ownsRow W0.heap.size 3 1 (.slice (some ⟨gF,0,none⟩) N N) N (oI f N)
 xs:w.ownsRow W0.heap.size 3 1 (.slice (some ⟨gX,0,none⟩) N N) N (oI x N)
 ne:gF≠gX
 lo:W0.heap.size<=b
theorem rb.aa{w:World}{b:Nat}(h:rb W0 w b gF gX N f x)(k:Below w.heap.size w w1):rb W0 w1 b gF gX N f x:=
 ⟨h.aU.trans (k.mono h.aU.size),h.st.aa k,dp h.fs k,dp h.xs k,h.ne,h.lo⟩
theorem rb.Qo{w:World}{b:Nat}(h:rb W0 w b gF gX N f x)(i:Nat)(hi:i<N)(v:Int):rb W0 (w.setCell ⟨gX,i,none⟩ (.int .i64 v)) b gF gX N f (fun j=>if j=i then v else x j):=by
 have hk:Kept [] [gX] w (w.setCell ⟨gX,i,none⟩ (.int .i64 v)):=(Kept.refl _ _ _).setCell _ _ (inl (by simp));refine⟨h.aU.setCell (p:=⟨gX,i,none⟩) (km h.xs gX rfl) _,h.st.eD (p:=⟨gX,i,none⟩) (fun e=>dG h.xs h.st (by decide) gX rfl e.symm) _,fy h.fs hk (by simp) (fun g e hm=>?_),?_,h.ne,h.lo⟩
 ·rw[List.mem_singleton.1 hm] at e;simp[ownBlock] at e;exact h.ne e
 rw[<-Yh];exact vn h.xs i hi _
theorem rb.RE{w:World}{b:Nat}(h:rb W0 w b gF gX N f x)(i:Nat)(hi:i<N)(v:Int):rb W0 (w.setCell ⟨gF,i,none⟩ (.int .i64 v)) b gF gX N (fun j=>if j=i then v else f j) x:=by
 have hk:Kept [] [gF] w (w.setCell ⟨gF,i,none⟩ (.int .i64 v)):=(Kept.refl _ _ _).setCell _ _ (inl (by simp));refine⟨h.aU.setCell (p:=⟨gF,i,none⟩) (km h.fs gF rfl) _,h.st.eD (p:=⟨gF,i,none⟩) (fun e=>dG h.fs h.st (by decide) gF rfl e.symm) _,?_,fy h.xs hk (by simp) (fun g e hm=>?_),h.ne,h.lo⟩
 ·rw[<-Yh];exact vn h.fs i hi _
 rw[List.mem_singleton.1 hm] at e;simp[ownBlock] at e;exact h.ne e.symm
theorem rb.atF{w:World}{b:Nat}(h:rb W0 w b gF gX N f x)(i:Nat)(hi:i<N):w.cell? ⟨gF,i,none⟩=some (.int .i64 (f i))/\w.frozen? ⟨gF,i,none⟩=false:=by
 obtain⟨g,e,_,_,hc⟩:=eR h.fs (by omega);injection e with e;injection e with e;subst e;obtain⟨h1,h2⟩:=hc i (by omega);exact⟨by rw[h1,JU _ _ _ hi],h2⟩
theorem rb.atX{w:World}{b:Nat}(h:rb W0 w b gF gX N f x)(i:Nat)(hi:i<N):w.cell? ⟨gX,i,none⟩=some (.int .i64 (x i))/\w.frozen? ⟨gX,i,none⟩=false:=by
 obtain⟨g,e,_,_,hc⟩:=eR h.xs (by omega);injection e with e;injection e with e;subst e;obtain⟨h1,h2⟩:=hc i (by omega);exact⟨by rw[h1,JU _ _ _ hi],h2⟩
theorem zir:∀(args:Array Value) (W:World),(callFunc 182 args).run prog W=.ok (.enter 182 args) W:=fun _ _=>by rfl
def zl0(W0 w:World)(b gF gX N:Nat)(f x:Nat->Int)(e:Ending)(w':World):Prop:=e=.returned (.tuple #[])/\rb W0 w' b gF gX N f x/\Kept [] [gF,gX] w w'
theorem YJ(W0 w:World)(b gF gX N:Nat)(f x:Nat->Int)(h:rb W0 w b gF gX N f x)(i t:Nat)(hi:i<N)(ht:t<N):
  Calls prog 182 #[.int .i64 (i:Int),.int .i64 (t:Int),.pointer (some ⟨b,0,none⟩)] w (zl0 W0 w b gF gX N (fun j=>if j=t then (i:Int) else f j) (fun j=>if j=i then f t else x j)):=by
 have c0:w.cell? ⟨b,0,none⟩=some (.slice (some ⟨gF,0,none⟩) N N):=h.st.at_ 0;have c1:w.cell? ⟨b,1,none⟩=some (.slice (some ⟨gX,0,none⟩) N N):=h.st.at_ 1;obtain⟨d0,d1⟩:=h.atF t ht;obtain⟨d2,d3⟩:=h.atX i hi;have fw:gX≠b:=dG h.xs h.st (by decide) gX rfl;have cv:gF≠b:=dG h.fs h.st (by decide) gF rfl;have iW:b≠gX:=fun e=>fw e.symm
 have iM:b≠gF:=fun e=>cv e.symm
 have hF:=hid ((h.Qo i hi (f t)).RE t ht (i:Int));have e1:gX≠gF:=fun e=>h.ne e.symm
 have e2:gF≠gX:=h.ne;have i1:(i:Int)<N:=by omega
 have i2:(t:Int)<N:=by omega
 clear h;generalize f t=ft at d0 hF⊢;generalize x i=xi at d2;go_enter func182,ntmps182;go_wp2_with fail
 go_region
 go_wp2_with fail;go_end0;exact⟨rfl,hF.out.aa (Below.refl _ _).drew,(((Kept.refl _ _ _).setCell _ _ (inl (by simp))).setCell _ _ (inl (by simp))).drew⟩
def tD(D:Dd)(i c:Nat):Nat:=if i<D.n/\0<=D.nx i c then (D.nx i c).toNat else D.n
theorem Ej(h:DR D C)(i c:Nat)(hc:c<C):tD D i c<D.n+1:=by
 unfold tD;split
 ·rename_i h1;have:=h.nx i c h1.1 hc;omega
 omega
def UR(D:Dd)(c:Nat)(w:World)(e:Ending)(w':World):Prop:=
 ∃(gF gX:Nat) (f x:Nat->Int),e=.returned (.agg #[.slice (some ⟨gF,0,none⟩) (D.n+1) (D.n+1),.slice (some ⟨gX,0,none⟩) (D.n+1) (D.n+1)])/\
  w'.ownsRow w.heap.size 3 1 (.slice (some ⟨gF,0,none⟩) (D.n+1) (D.n+1)) (D.n+1) (oI f (D.n+1))/\w'.ownsRow w.heap.size 3 1 (.slice (some ⟨gX,0,none⟩) (D.n+1) (D.n+1)) (D.n+1) (oI x (D.n+1))/\
  (∀s,s<D.n+1->LL x (f s) (chain (fun i=>tD D i c) (D.n+1) s))/\Below w.heap.size w w'
theorem zeM(D:Dd)(C:Nat)(hR:DR D C)(c:Nat)(hc:c<C)(w:World)(hD:DM w D):
  Calls prog 162 #[.agg D.cD,.int .i64 (c:Int)] w (UR D c w):=by
 have dj:=hR.n2;obtain⟨N,hN⟩:∃N,D.n+1=N:=⟨_,rfl⟩
 have pG:Hid (∀(W:World) (g:Nat),W.cell? ⟨g,0,none⟩=some (.int .i64 (-1))->g<W.heap.size->Calls prog 181 #[.slice (some ⟨g,0,none⟩) 1 1,.int .i64 ((D.n:Int)+1)] W (Qc N W)):=fun W g h1 h2=>by
  have:=ziB N (by omega) (by omega) g W h1 h2;rw[<-hN] at this⊢;exact this
 have HD:=hid hD;have HB:=hid (Zz (dc.new hD) (Zz (al w (.cells D.cD 101)) (Zz hR hN)));clear hD hR hN;go_enter func162,ntmps162;go_upto_region 1 with fail;obtain⟨W1,qk⟩:∃W1,(w.alloc (.cells D.cD 101)).alloc (.cells #[.slice none 0 0,.slice none 0 0] 210)=W1:=⟨_,rfl⟩
 obtain⟨b0,bc⟩:∃b0,w.heap.size=b0:=⟨_,rfl⟩
 have H1:Hid (dc W1 b0 D/\St W1 210 (b0+1) #[.slice none 0 0,.slice none 0 0]/\Below b0 w W1):=by
  have k2:=al (w.alloc (.cells D.cD 101)) (.cells #[.slice none 0 0,.slice none 0 0] 210);rw[<-qk,<-bc];refine⟨HB.out.1.aa k2,?_,HB.out.2.1.trans (k2.mono (by simp))⟩;have:=St.new (w.alloc (.cells D.cD 101)) 210 #[.slice none 0 0,.slice none 0 0];rw[show (w.alloc (.cells D.cD 101)).heap.size=w.heap.size+1 by simp] at this;exact this
 have dO:=hid bc;rw[qk,bc];clear qk bc;have c1:=H1.out.1.f1;go_wp2_with fail;refine (pG.out _ _ (by exact cell_one_new _ _ _ 0 _ rfl) (by simp)).mono ?_;rintro e w5 ⟨gF,rfl,o5,b5⟩;obtain⟨W5,Eh⟩:∃W5,W5=w5:=⟨_,rfl⟩
 have H5:Hid (w5.ownsRow b0 3 1 (.slice (some ⟨gF,0,none⟩) N N) N (oI (fun _=>-1) N)/\St w5 210 (b0+1) #[.slice none 0 0,.slice none 0 0]/\Below b0 w w5/\gF<w5.heap.size/\Below W1.heap.size W1 w5):=by
  have k1:=al W1 (.cells #[.int .i64 (-1)] 3);have kz:=H1.out.2.2.size;have nw:b0<=W1.heap.size:=by have:=H1.out.2.1.lt;omega
  rw[Vu] at o5;exact⟨jF o5 (by simp;omega),(H1.out.2.1.aa k1).aa b5,H1.out.2.2.trans ((k1.mono nw).trans (b5.mono (by simp;omega))),lx o5 gF rfl,k1.trans (b5.mono (by simp))⟩
 clear o5 b5 Eh W5;go_wp2_with fail;refine (pG.out _ _ (by exact cell_one_new _ _ _ 0 _ rfl) (by simp)).mono ?_;rintro e w6 ⟨gX,rfl,o6,b6⟩;have H6:Hid (w6.ownsRow b0 3 1 (.slice (some ⟨gF,0,none⟩) N N) N (oI (fun _=>-1) N)/\w6.ownsRow b0 3 1 (.slice (some ⟨gX,0,none⟩) N N) N (oI (fun _=>-1) N)/\St w6 210 (b0+1) #[.slice none 0 0,.slice none 0 0]/\Below b0 w w6/\gF≠gX/\Below W1.heap.size W1 w6):=by
  have k1:=al w5 (.cells #[.int .i64 (-1)] 3);have nw:b0<=w5.heap.size:=by have:=H5.out.2.1.lt;omega
  rw[Vu] at o6;have Qu:=km o6 gX rfl;have aw:=H5.out.2.2.2.1;refine⟨dp (dp H5.out.1 k1) b6,jF o6 (by simp;omega),(H5.out.2.1.aa k1).aa b6,H5.out.2.2.1.trans ((k1.mono nw).trans (b6.mono (by simp;omega))),?_,H5.out.2.2.2.2.trans ((k1.mono H5.out.2.2.2.2.size).trans (b6.mono (by have:=H5.out.2.2.2.2.size;simp;omega)))⟩;rw[show (w5.alloc (.cells #[.int .i64 (-1)] 3)).heap.size=w5.heap.size+1 by simp] at Qu;omega
 clear o6 b6 H5 c1;go_upto_region 3 with fail;obtain⟨W7,M8⟩:∃W7,w6.alloc (.cells #[.slice (some ⟨gF,0,none⟩) N N,.slice (some ⟨gX,0,none⟩) N N] 210)=W7:=⟨_,rfl⟩
 obtain⟨b6,ec⟩:∃b6,w6.heap.size=b6:=⟨_,rfl⟩
 have H7:Hid (rb w W7 b6 gF gX N (fun _=>-1) (fun _=>-1)/\St W7 210 (b0+1) #[.slice none 0 0,.slice none 0 0]/\b0+1≠b6/\Below W1.heap.size W1 W7):=by
  have k1:=al w6 (.cells #[.slice (some ⟨gF,0,none⟩) N N,.slice (some ⟨gX,0,none⟩) N N] 210);have nw:=H6.out.2.2.1.lt;rw[<-M8,<-ec];refine⟨⟨?_,St.new _ _ _,?_,?_,H6.out.2.2.2.2.1,?_⟩,H6.out.2.2.1.aa k1,by omega,H6.out.2.2.2.2.2.trans (k1.mono (H6.out.2.2.2.2.2.size))⟩
  ·rw[dO.out];exact H6.out.2.2.2.1.trans (k1.mono (by omega))
  ·rw[dO.out];exact dp H6.out.1 k1
  ·rw[dO.out];exact dp H6.out.2.1 k1
  rw[dO.out];omega
 rw[M8,ec];clear M8 ec H6;have eK:=zir;have HN:=HB.out.2.2.2;have c1:W7.cell? ⟨b0,256,none⟩=some (.slice D.aN D.n D.cN):=(H7.out.2.2.2.cell (p:=⟨b0,256,none⟩) H1.out.1.st.lt).trans H1.out.1.f1;go_wp2;go_loopw [8,9,10,27] (fun _ _ _ vk wr=>∃k:Nat,vk=.int .i64 k/\k<=D.n/\Hid (∃f x,rb w wr b6 gF gX N f x/\St wr 210 (b0+1) #[.slice none 0 0,.slice none 0 0]/\∀s,s<N->LL x (f s) (chain (fun i=>tD D i c) k s))) (fun _ _ _ v _=>D.n-(intOf v).toNat)
 ·exact⟨0,rfl,zero_le _,_,_,H7.out.1,H7.out.2.1,fun s _=>rfl⟩
 obtain⟨k,rfl,hk,HL⟩:=hrel;by_cases aw:k<D.n
 ·obtain⟨f,x,yB,rI,Bw⟩:=HL.out;obtain⟨gN,oN,eN,_,qE⟩:=(HD.out.rN.below yB.aU) (by omega);obtain⟨cN,zN⟩:=qE k aw;rw[HB.out.2.2.1.len k aw] at cN zN;have G1:0<C:=by omega
  obtain⟨gA,oA,eA,_,oU⟩:=zN G1;have cA:=oU c hc;rw[eA] at cN;have Fj:=HB.out.2.2.1.nx k c aw hc;obtain⟨t,ht⟩:∃t,tD D k c=t:=⟨_,rfl⟩
  have DW:t<N:=by rw[<-ht,<-HN];exact Ej HB.out.2.2.1 k c hc
  have HC:=hid (YJ w wr b6 gF gX N f x yB k t (by omega) DW);have Em:=hid (LL.link (t:=fun i=>tD D i c) (k:=k) Bw (by show tD D k c<N;rw[ht];exact DW));have qO:b0+1≠gF:=fun e=>dG yB.fs rI (by decide) gF rfl e.symm
  have pt:b0+1≠gX:=fun e=>dG yB.xs rI (by decide) gX rfl e.symm
  have zX:Hid (∀w',Kept [] [gF,gX] wr w'->St w' 210 (b0+1) #[.slice none 0 0,.slice none 0 0]):=fun w' hk=>rI.kept hk (by simp) (by simp[qO,pt])
  have Ht:=hid ht;have TN:(D.nx k c=-1/\t=D.n)\/(D.nx k c≠-1/\D.nx k c=(t:Int)):=by
   rw[<-ht];unfold tD;by_cases h0:D.nx k c=-1
   ·exact inl ⟨h0,by rw[if_neg (by omega)]⟩
   exact inr ⟨h0,by rw[if_pos ⟨aw,by omega⟩];omega⟩
  have i1:(k:Int)<(D.n:Int):=by omega
  have i2:(c:Int)<C:=by omega
  rw[eN];have Av:=hid eN;generalize D.nx k c=nx at cA TN;clear qE zN oU yB rI Bw Fj ht eA HL c1 HN eN qO pt;rcases TN with ⟨rfl,rfl⟩|⟨h0,rfl⟩
  ·go_wp2_with fail;refine HC.out.mono ?_;rintro e w8 ⟨rfl,oB,wW⟩;have H8:=hid (Zz oB (zX.out _ wW));clear oB wW HC cN cA;go_wp2;go_roundw
   ·refine⟨k+1,by go_num,by omega,_,_,H8.out.1,H8.out.2,fun s hs=>?_⟩;have:=Em.out s hs;simp only[Ht.out] at this;exact this
   simp[intOf];omega
  have i3:((t:Int) == -1)=false:=by rw[beq_eq_false_iff_ne];omega
  go_wp2_with fail;refine HC.out.mono ?_;rintro e w8 ⟨rfl,oB,wW⟩;have H8:=hid (Zz oB (zX.out _ wW));clear oB wW HC cN cA;go_wp2;go_roundw
  ·refine⟨k+1,by go_num,by omega,_,_,H8.out.1,H8.out.2,fun s hs=>?_⟩;have:=Em.out s hs;simp only[Ht.out] at this;exact this
  simp[intOf];omega
 obtain rfl:k=D.n:=by omega
 obtain⟨f,x,yB,rI,Bw⟩:=HL.out;have OK:tD D D.n c=D.n:=by unfold tD;rw[if_neg (by omega)]
 have HC:=hid (YJ w wr b6 gF gX N f x yB D.n D.n (by omega) (by omega));have Em:=hid (LL.link (t:=fun i=>tD D i c) (k:=D.n) Bw (by show tD D D.n c<N;rw[OK];omega));have qO:b0+1≠gF:=fun e=>dG yB.fs rI (by decide) gF rfl e.symm
 have pt:b0+1≠gX:=fun e=>dG yB.xs rI (by decide) gX rfl e.symm
 have zX:Hid (∀w',Kept [] [gF,gX] wr w'->St w' 210 (b0+1) #[.slice none 0 0,.slice none 0 0]):=fun w' hk=>rI.kept hk (by simp) (by simp[qO,pt])
 have Htn:=hid OK;have JV:=hid HN;clear yB rI Bw OK HL c1 HN qO pt;go_wp2_with fail;refine HC.out.mono ?_;rintro e w8 ⟨rfl,oB,wW⟩;have ES:=zX.out _ wW;have s0:w8.cell? ⟨b6,0,none⟩=some (.slice (some ⟨gF,0,none⟩) N N):=oB.st.at_ 0;have s1:w8.cell? ⟨b6,1,none⟩=some (.slice (some ⟨gX,0,none⟩) N N):=oB.st.at_ 1;have s2:w8.cell? ⟨b0+1,0,none⟩=some (.slice none 0 0):=ES.at_ 0;have s3:w8.cell? ⟨b0+1,1,none⟩=some (.slice none 0 0):=ES.at_ 1;have z2:=ES.ba 0;have z3:=ES.ba 1;have H8:=hid (Zz oB ES);clear oB ES wW HC;have HF:Hid (UR D c w (.returned (.agg #[.slice (some ⟨gF,0,none⟩) N N,.slice (some ⟨gX,0,none⟩) N N])) ((w8.setCell ⟨b0+1,0,none⟩ (.slice (some ⟨gF,0,none⟩) N N)).setCell ⟨b0+1,1,none⟩ (.slice (some ⟨gX,0,none⟩) N N))):=by
  have hk:Kept [] [b0+1] w8 ((w8.setCell ⟨b0+1,0,none⟩ (.slice (some ⟨gF,0,none⟩) N N)).setCell ⟨b0+1,1,none⟩ (.slice (some ⟨gX,0,none⟩) N N)):=((Kept.refl _ _ _).setCell _ _ (inl (by simp))).setCell _ _ (inl (by simp));have o1:=fy H8.out.1.fs hk (by simp) (fun g e hm=>dG H8.out.1.fs H8.out.2 (by decide) g e (List.mem_singleton.1 hm));have o2:=fy H8.out.1.xs hk (by simp) (fun g e hm=>dG H8.out.1.xs H8.out.2 (by decide) g e (List.mem_singleton.1 hm));refine⟨gF,gX,_,_,by rw[JV.out],by rw[JV.out];exact o1,by rw[JV.out];exact o2,fun s hs=>?_,?_⟩
  ·have:=Em.out s (by rw[<-JV.out];exact hs);simp only[Htn.out] at this;exact this
  have hb:=dO.out;exact (H8.out.1.aU.setCell (p:=⟨b0+1,0,none⟩) (by show w.heap.size<=b0+1;omega) _).setCell (p:=⟨b0+1,1,none⟩) (by show w.heap.size<=b0+1;omega) _
 go_wp2_with fail;refine bodyPost_ret (v:=.agg #[.slice (some ⟨gF,0,none⟩) N N,.slice (some ⟨gX,0,none⟩) N N]) (by simp[results,results162,go_sem,z2,z3,s2,s3]) rfl ?_;exact HF.out
def jl(t:Nat->Nat)(N:Nat)(T:List Nat):List Nat:=T.flatMap (chain t N)
theorem R6(t:Nat->Nat)(N:Nat)(T:List Nat)(i:Nat):i∈jl t N T↔i<N/\t i∈T:=by
 unfold jl;rw[List.mem_flatMap];constructor
 ·rintro⟨s,hs,h⟩;obtain⟨h1,h2⟩:=(GP t N s i).1 h;exact⟨h1,by rw[h2];exact hs⟩
 rintro⟨h1,h2⟩;exact⟨t i,h2,(GP t N _ i).2 ⟨h1,rfl⟩⟩
theorem Ui(t:Nat->Nat)(N:Nat):∀(T:List Nat),T.Nodup->(jl t N T).Nodup:=by
 intro T
 induction T with
 | nil=>intro _;simp[jl]
 | cons s T ih=>
  intro h;have h2:=List.nodup_cons.1 h;show (chain t N s++jl t N T).Nodup;rw[List.nodup_append];refine⟨zgt t N s,ih h2.2,fun a ha b hb e=>?_⟩;subst e;have h3:=((GP t N s a).1 ha).2;have h4:=((R6 t N T a).1 hb).2;rw[h3] at h4;exact h2.1 h4
theorem zj1(t:Nat->Nat)(N:Nat)(T:List Nat)(k:Nat)(h:k<T.length):jl t N (T.take (k+1))=jl t N (T.take k)++chain t N T[k]:=by
 unfold jl;rw[Me _ _ h,oG _ _ _ h,List.flatMap_append];simp
structure lj (V:World)(B:Nat)(ls:List Nat)(l:List Nat)(v:Value)(w:World):Prop where
 kept:Kept [] ls V w
 below:Below B V w
 own:w.ownsRow B 3 1 v l.length (cy l)
 loc:∀g,v.ownBlock=some g->g∈ls\/V.heap.size<=g
 lo:B<=V.heap.size
theorem lj.aa{v:Value}{w:World}(h:lj V B ls l v w)(k:Below w.heap.size w w1):lj V B ls l v w1:=
 ⟨h.kept.below k,h.below.trans (k.mono (le_trans h.lo h.below.size)),dp h.own k,h.loc,h.lo⟩
theorem lj.app{V:World}{B q:Nat}{ls l:List Nat}{v v':Value}{w w':World}{x:Nat}(h:lj V B ls l v w)(hq:l.length=q)(ho:w'.ownsRow B 3 1 v' (q+1) (cy l++[.int .i64 (x:Int)]))(hg:w.grownBy w' v.ownBlock)(ew:v'.ownBlock=v.ownBlock\/v'.ownBlock=some w.heap.size):lj V B ls (l++[x]) v' w':=by
 subst hq;have hB:B<=w.heap.size:=le_trans h.lo h.below.size;refine⟨h.kept.grown hg (fun g e=>(h.loc g e).elim inl (fun x=>inr (inl x))),fH h.below h.own hB hg,?_,fun g e=>?_,h.lo⟩
 ·rw[x8,List.length_append];exact ho
 rcases ew with e1|e1
 ·exact h.loc g (by rw[<-e1];exact e)
 rw[e] at e1;injection e1 with e1;exact inr (by have:=h.below.size;omega)
def C7:Value->Nat
 | .slice _ n _=>n
 | _=>0
def Nn(B:Nat)(ls l:List Nat)(w:World)(e:Ending)(w':World):Prop:=∃a c,e=.returned (.slice a l.length c)/\lj w B ls l (.slice a l.length c) w'
theorem ZJ(N:Nat)(hN:N<=100000)(t:Nat->Nat)(ht:∀i,i<N->t i<N)(f x:Nat->Int)(Bw:∀s,s<N->LL x (f s) (chain t N s))(gF gX:Nat)(B B1:Nat)(aS:Option Addr)(cS:Nat)(T:List Nat)(m:Nat)(hm:T.length=m)(hT:T.Nodup)(NY:∀s∈T,s<N)(aT:Option Addr)(cT:Nat)(w:World)
  (oF:w.ownsRow B1 3 1 (.slice (some ⟨gF,0,none⟩) N N) N (oI f N)) (oX:w.ownsRow B1 3 1 (.slice (some ⟨gX,0,none⟩) N N) N (oI x N)) (oS:w.ownsRow B 3 1 (.slice aS 0 cS) 0 []) (hB:B<=w.heap.size) (hL:nH w aT T)
  (ls:List Nat) (vD:ls=(Value.slice aS 0 cS).ownBlock.toList) (nF:gF∉ls) (nX:gX∉ls) (nT:∀ad,aT=some ad->ad.block∉ls):
  Calls prog 164 #[.agg #[.slice (some ⟨gF,0,none⟩) N N,.slice (some ⟨gX,0,none⟩) N N],.slice aS 0 cS,.slice aT m cT] w (Nn B ls (jl t N T) w):=by
 have VO:m<=N:=by rw[<-hm];exact pW hT NY
 have JD:∀k,k<=m->(jl t N (T.take k)).length<=N:=fun k hk=>pW (Ui t N _ (hT.sublist (List.take_sublist _ _))) (fun i hi=>((R6 t N _ i).1 hi).1)
 have CI:∀g∈ls,g<w.heap.size:=fun g hg=>by
  rw[vD] at hg;exact lx oS g (by simpa using hg)
 have h0:lj w B ls [] (.slice aS 0 cS) w:=⟨Kept.refl _ _ _,Below.refl _ _,oS,fun g e=>inl (by rw[vD];simpa using e),hB⟩
 have k1:=al w (.cells #[.slice (some ⟨gF,0,none⟩) N N,.slice (some ⟨gX,0,none⟩) N N] 210);have G1:=h0.aa k1;have BA:=St.new w 210 #[.slice (some ⟨gF,0,none⟩) N N,.slice (some ⟨gX,0,none⟩) N N];have HX:=hid (Zz ht (Zz Bw (Zz hm (Zz hT (Zz NY (Zz oF (Zz oX (Zz hL (Zz nF (Zz nX (Zz nT (Zz JD CI))))))))))));obtain⟨b3,iW⟩:∃b3,w.heap.size=b3:=⟨_,rfl⟩
 have FF:b3∉ls:=fun pd=>by have:=CI b3 pd;omega
 rw[iW] at BA;have H1:=hid (Zz G1 (Zz BA FF));have pE:=hid iW;clear ht Bw hm hT NY oF oX oS hB hL vD nF nX nT JD CI h0 k1 G1 BA FF;go_enter func164,ntmps164;go_upto_region 1 with fail;generalize w.alloc (.cells #[.slice (some ⟨gF,0,none⟩) N N,.slice (some ⟨gX,0,none⟩) N N] 210)=W1 at H1⊢;clear iW;go_wp2;go_loopw [1,8,9,12] (fun v1 _ _ vk wr=>∃(k p:Nat) (a:Option Addr) (c:Nat),vk=.int .i64 k/\k<=m/\p<=N/\v1=.slice a p c/\Hid ((jl t N (T.take k)).length=p/\lj w B ls (jl t N (T.take k)) (.slice a p c) wr/\St wr 210 b3 #[.slice (some ⟨gF,0,none⟩) N N,.slice (some ⟨gX,0,none⟩) N N])) (fun _ _ _ v _=>m-(intOf v).toNat)
 ·exact⟨0,0,aS,cS,rfl,zero_le _,zero_le _,rfl,rfl,H1.out.1,H1.out.2.1⟩
 obtain⟨k,p,a,c,rfl,hk,hpN,rfl,HL⟩:=hrel;by_cases aw:k<m
 ·have hkl:k<T.length:=by rw[HX.out.2.2.1];exact aw
  obtain⟨gT,oT,eT,_,py⟩:=(nH.sQ HX.out.2.2.2.2.2.2.2.1 HL.out.2.1.kept HL.out.2.1.below.size HX.out.2.2.2.2.2.2.2.2.2.2.1) (by omega);have QC:wr.cell? ⟨gT,oT+k,none⟩=some (.int .i64 ((T.getD k 0:Nat):Int)):=py k hkl;rw[oG _ _ _ hkl] at QC;have MB:=HX.out.2.2.2.2.1 _ (List.getElem_mem hkl);have dC:=zj1 t N T k hkl;have CH:=HX.out.2.1 _ MB;have xj:=HX.out.2.2.2.2.2.2.2.2.2.2.2.1 (k+1) (by omega);rw[dC] at xj;have CU:=hid dC;obtain⟨s,hs⟩:∃s,T[k]=s:=⟨_,rfl⟩
  rw[hs] at QC MB CH xj CU;clear hs dC py;obtain⟨P0,vp⟩:∃P0,jl t N (T.take k)=P0:=⟨_,rfl⟩
  rw[vp] at xj CU HL;obtain⟨cF,QB⟩:∃cF:Nat->Int,cF=f:=⟨f,rfl⟩
  have Xc:=fy HX.out.2.2.2.2.2.1 HL.out.2.1.kept (by simp) (fun g e pd=>by simp[ownBlock] at e;rw[<-e] at pd;exact HX.out.2.2.2.2.2.2.2.2.1 pd);obtain⟨gF',eF,_,_,Tg⟩:=eR Xc (by omega);injection eF with eF;injection eF with eF;subst eF;have d0:=(Tg s (by omega)).1;rw[JU _ _ _ MB] at d0;have s0:wr.cell? ⟨b3,0,none⟩=some (.slice (some ⟨gF,0,none⟩) N N):=HL.out.2.2.at_ 0;have i1:(k:Int)<m:=by omega
  have i2:(s:Int)<N:=by omega
  rw[eT];have HeT:=hid eT;have RB:=hid (Zz CH xj);clear Tg Xc eT CH xj vp QB;obtain⟨fs,j8⟩:∃fs,f s=fs:=⟨_,rfl⟩
  rw[j8] at d0 RB;clear j8;go_wp2_with fail;obtain⟨W9,U2⟩:∃W9,W9=wr:=⟨wr,rfl⟩
  clear U2 W9 d0 s0 QC;go_loopw [1,9] (fun v1 v9 wq=>∃(u:Int) (dn rest:List Nat) (p2:Nat) (a2:Option Addr) (c2:Nat),v9=.int .i64 u/\p2<=N/\v1=.slice a2 p2 c2/\Hid (chain t N s=dn++rest/\LL x u rest/\(P0++dn).length=p2/\lj w B ls (P0++dn) (.slice a2 p2 c2) wq/\St wq 210 b3 #[.slice (some ⟨gF,0,none⟩) N N,.slice (some ⟨gX,0,none⟩) N N])) (fun v1 _ _=>N-C7 v1)
  ·exact⟨fs,[],chain t N s,p,a,c,rfl,hpN,rfl,rfl,RB.out.1,by simpa using HL.out.1,by simpa using HL.out.2.1,HL.out.2.2⟩
  obtain⟨u,dn,rest,p2,a2,c2,rfl,fj,rfl,HK⟩:=hrel;rcases rest with _|⟨y,rest⟩
  ·obtain rfl:u=-1:=HK.out.2.1;have HZ:Hid (jl t N (T.take (k+1))=P0++dn):=by
    show _=_;rw[CU.out,HK.out.1,List.append_nil]
   have y7:Hid ((P0++dn).length=p2/\lj w B ls (P0++dn) (.slice a2 p2 c2) wr/\St wr 210 b3 #[.slice (some ⟨gF,0,none⟩) N N,.slice (some ⟨gX,0,none⟩) N N]):=HK.out.2.2;clear HK HL;go_wp2;go_roundw
   ·exact⟨k+1,p2,a2,c2,by go_num,by omega,fj,rfl,by rw[HZ.out];exact y7.out⟩
   simp[intOf];omega
  obtain⟨rfl,It⟩:u=(y:Int)/\LL x (x y) rest:=HK.out.2.1;have hy:y∈chain t N s:=by rw[HK.out.1];simp
  have hyN:=((GP t N s y).1 hy).1;have gK:p2+1<=N:=by
   have h1:=RB.out.2;rw[HK.out.1] at h1;have h2:=HK.out.2.2.1;simp at h1 h2;omega
  have U5:=fy HX.out.2.2.2.2.2.2.1 HK.out.2.2.2.1.kept (by simp) (fun g e pd=>by simp[ownBlock] at e;rw[<-e] at pd;exact HX.out.2.2.2.2.2.2.2.2.2.1 pd);have HoX:=hid U5;have hO:=HK.out.2.2.2.1.own;rw[HK.out.2.2.1] at hO;have sb:B<=wr.heap.size:=le_trans HK.out.2.2.2.1.lo HK.out.2.2.2.1.below.size;obtain⟨i0,hi,dD,db,cW⟩:=info_parts az;have i3:((y:Int) != -1)=true:=by first|(simp;done)|(simp;omega)
  have i4:(y:Int)<N:=by omega
  have Xd:=hid It;clear hy U5 It;go_wp2_with (at_builtin;refine wpList_append_own_at _ rfl _ _ 43 rfl B 3 i0 (.int .i64 0) 1 8 underlying43 hi dD db cW rfl (by decide) _ _ _ rfl (hO.alloc _) ⟨wr.heap.size,0,none⟩ 1 1 [.int .i64 (y:Int)] rfl rfl (cell_one_new _ _ _) ?d2 ?d3 ?d4 ?d5 ?_)
  case d2=>first|(intro u hu;simp at hu;subst hu;rfl)|rfl
  case d3=>unfold maxLen;omega
  case d4=>omega
  case d5=>first|(simp;omega)|omega
  intro v' w5 ak aj _ bg;obtain⟨a5,c5,rfl⟩:=bF ak;have B8:Hid (lj w B ls (P0++(dn++[y])) (.slice a5 (p2+1) c5) w5/\St w5 210 b3 #[.slice (some ⟨gF,0,none⟩) N N,.slice (some ⟨gX,0,none⟩) N N]):=by
   have h2:=HK.out.2.2.2.1.aa (al wr (.cells #[.int .i64 (y:Int)] 3));have h3:=h2.app (v':=.slice a5 (p2+1) c5) HK.out.2.2.1 ak aj (by
    rw[show (wr.alloc (.cells #[.int .i64 (y:Int)] 3)).heap.size=wr.heap.size+1 by simp]
    exact bg)
   rw[<-List.append_assoc];exact⟨h3,(HK.out.2.2.2.2.alloc _).ag (hO.alloc _) (by decide) aj⟩
  have s1:w5.cell? ⟨b3,1,none⟩=some (.slice (some ⟨gX,0,none⟩) N N):=B8.out.2.at_ 1;have TZ:=fy HX.out.2.2.2.2.2.2.1 B8.out.1.kept (by simp) (fun g e pd=>by simp[ownBlock] at e;rw[<-e] at pd;exact HX.out.2.2.2.2.2.2.2.2.2.1 pd);obtain⟨gX',eX,_,_,SH⟩:=eR TZ (by omega);injection eX with eX;injection eX with eX;subst eX;have d1:=(SH y (by omega)).1;rw[JU _ _ _ hyN] at d1;obtain⟨xy,hxy⟩:∃xy,x y=xy:=⟨_,rfl⟩
  rw[hxy] at d1 Xd;have C3:Hid (chain t N s=(dn++[y])++rest/\(P0++(dn++[y])).length=p2+1):=by
   have h1:=HK.out.1;have h2:=HK.out.2.2.1;refine⟨by rw[h1];simp,?_⟩;simp at h2⊢;omega
  clear ak aj bg TZ SH hxy hO HK HoX;go_wp2;go_roundw
  ·exact⟨xy,dn++[y],rest,p2+1,a5,c5,rfl,gK,rfl,C3.out.1,Xd.out,C3.out.2,B8.out.1,B8.out.2⟩
  simp[C7];omega
 obtain rfl:k=m:=by omega
 have HF:Hid (Nn B ls (jl t N T) w (.returned (.slice a p c)) wr):=by
  have h1:=HL.out;rw[take_of_length_le (by rw[HX.out.2.2.1];exact le_refl _)] at h1;refine⟨a,c,by rw[h1.1],?_⟩;rw[h1.1];exact h1.2.1
 clear HL;go_wp2;go_ret;exact HF.out
theorem bq.sQ{b:Nat}{w w':World}(h:bq V B bs b v vS P w)(k:Kept [] ls w w')(hB:Below B w w')(h1:∀x∈ls,x∉bf b v vS)(h2:∀x∈ls,V.heap.size<=x\/x∈bs):bq V B bs b v vS P w':=by
 refine⟨fun g o hg ho hn=>?_,h.below.trans hB,h.st.kept k (by simp) (fun hm=>h1 _ hm (uF.2 (inl rfl))),fun i hi=>fy (h.row i hi) k (by simp) (fun g e hm=>h1 _ hm (uF.2 (inr (inr ⟨i,hi,e⟩)))),h.sep,fy h.ny k (by simp) (fun g e hm=>h1 _ hm (uF.2 (inr (inl e)))),h.loc,h.lT,h.jx,h.lo⟩;refine k g o (h.kept g o hg ho hn) ho (fun hm=>?_);rcases h2 g hm with h3|h3
 ·have:=(Array.getElem?_eq_some_iff.1 hg).1;omega
 exact hn h3
theorem bq.blt{b:Nat}{w:World}(h:bq V B bs b v vS P w):∀x∈bf b v vS,x<w.heap.size:=fun x hx=>by
 rcases uF.1 hx with rfl|e|⟨i,hi,e⟩
 ·exact h.st.lt
 ·exact lx h.ny x e
 ·exact lx (h.row i hi) x e
def mD(D:Dd)(i:Nat):Int:=if i<D.n then D.q i else -1
def qt(D:Dd)(μ:Int):List Nat:=(range D.n).filter fun i=>D.q i == μ
theorem Lc(D:Dd)(μ:Int)(i:Nat):i∈qt D μ↔i<D.n/\D.q i=μ:=by simp[qt]
theorem Mr(D:Dd)(μ:Int):(qt D μ).Nodup:=List.Nodup.sublist List.filter_sublist List.nodup_range
theorem zok(D:Dd)(μ:Int):(qt D μ).length<=D.n:=pW (Mr D μ) (fun i hi=>((Lc D μ i).1 hi).1)
theorem J6(D:Dd)(μ:Int)(h:0<=μ)(i:Nat):i∈qt D μ↔mD D i=μ:=by
 rw[Lc];unfold mD;split
 ·rename_i h1;exact⟨fun h=>h.2,fun h=>⟨h1,h⟩⟩
 rename_i h1;exact⟨fun h=>absurd h.1 h1,fun h=>by omega⟩
structure wM (D:Dd)(C:Nat)(P:Pt)(ms:List Int):Prop where
 h:hY (D.n+1) C (tD D) (mD D) P C (fun _=>False)
 m:∀μ∈ms,∀x y,x<D.n+1->y<D.n+1->P.b x=P.b y->(mD D x=μ↔mD D y=μ)
 mu:P.mu (D.n+1)=D.n
theorem wM.start(D:Dd)(C:Nat):wM D C (fk (D.n+1)) []:=⟨hY.start (by omega),fun μ h=>by simp at h,by rw[zlI _ (by omega)];omega⟩
theorem wM.step{D:Dd}{C:Nat}{P:Pt}{ms:List Int}(hR:DR D C)(h:wM D C P ms)(μ:Int)(hμ:0<=μ):wM D C (mh P (qt D μ)) (ms++[μ]):=by
 have hl:∀x∈qt D μ,x<D.n+1:=fun x hx=>by have:=((Lc D μ x).1 hx).1;omega
 have hd:=IQ h.h.pz (qt D μ) (Mr D μ) hl;refine⟨h.h.xQ (fun x c _ hc=>Ej hR x c hc) _ (Mr D μ) hl (fun x y hx hy he=>by rw[J6 D μ hμ,J6 D μ hμ,he.mark]),fun ν hν x y hx hy hb=>?_,by rw[hd.mu];exact h.mu⟩;have h2:=(hd.b x y hx hy).1 hb;rcases List.mem_append.1 hν with h3|h3
 ·exact h.m ν h3 x y hx hy h2.1
 rw[List.mem_singleton.1 h3,<-J6 D μ hμ,<-J6 D μ hμ];exact h2.2
theorem wM.done{ms:List Int}(hR:DR D C)(h:wM D C P ms)(oc:∀μ∈ms,0<=μ)(dU:∀i,i<D.n->0<=D.q i->D.q i∈ms):∀x y,x<D.n+1->y<D.n+1->P.b x=P.b y->mD D x=mD D y:=by
 have one:∀x y,x<D.n+1->y<D.n+1->P.b x=P.b y->mD D x≠-1->mD D x=mD D y:=fun x y hx hy hb hne=>by
  have iL:x<D.n:=by
   refine(Classical.byContradiction fun h0=>hne ?_);unfold mD;rw[if_neg h0]
  have hq:mD D x=D.q x:=by unfold mD;rw[if_pos iL]
  have:=hR.q x iL;have hm:=dU x iL (by omega);rw[<-hq] at hm;exact ((h.m _ hm x y hx hy hb).1 rfl).symm
 intro x y hx hy hb;by_cases h1:mD D x=-1
 ·by_cases h2:mD D y=-1
  ·rw[h1,h2]
  exact (one y x hy hx hb.symm h2).symm
 exact one x y hx hy hb h1
def Oc(D:Dd)(w:World)(e:Ending)(w':World):Prop:=
 ∃(ms:List Int) (aM:Option Addr) (cM:Nat) (A:Nat->Option Addr) (Cp:Nat->Nat),e=.returned (.slice aM ms.length cM)/\(∀μ∈ms,0<=μ)/\(∀i,i<D.n->0<=D.q i->D.q i∈ms)/\ms.length<=D.n/\Below w.heap.size w w'/\
  w'.ownsRow w.heap.size 43 1 (.slice aM ms.length cM) ms.length ((range ms.length).map fun j=>.slice (A j) (qt D (ms.getD j 0)).length (Cp j))/\
  ∀j,j<ms.length->w'.ownsRow w.heap.size 3 1 (.slice (A j) (qt D (ms.getD j 0)).length (Cp j)) (qt D (ms.getD j 0)).length (cy (qt D (ms.getD j 0)))
def RZ(D:Dd)(C:Nat)(w:World)(e:Ending)(w':World):Prop:=
 ∃(bl:List Nat) (a:Option Addr) (c:Nat),e=.returned (.slice a (D.n+1) c)/\bl.length=D.n+1/\(∀x∈bl,x<=D.n+1)/\D.n+1<=c/\w'.ownsRow w.heap.size 3 1 (.slice a (D.n+1) c) (D.n+1) (cy bl)/\
  (∀x y,x<D.n+1->y<D.n+1->(bl.getD x 0=bl.getD y 0↔la C (tD D) (mD D) x y))/\Below w.heap.size w w'
theorem uS:(prog.info? 210).map (fun i=>(i.zero,i.size,i.bytes))=some (some (.agg #[.slice none 0 0,.slice none 0 0]),2,48):=by kernel_rfl
def tF(N:Nat)(gF gX:Nat->Nat):Nat->List Value
 | 0=>[]
 | c+1=>tF N gF gX c++[.slice (some ⟨gF c,0,none⟩) N N,.slice (some ⟨gX c,0,none⟩) N N]
theorem zol(N:Nat)(gF gX:Nat->Nat)(c:Nat):(tF N gF gX c).length=c*2:=by
 induction c with
 | zero=>rfl
 | succ c ih=>simp[tF,ih];omega
theorem TJ(N:Nat){gF gX gF' gX':Nat->Nat}:∀(c:Nat),(∀i,i<c->gF i=gF' i/\gX i=gX' i)->tF N gF gX c=tF N gF' gX' c
 | 0,_=>rfl
 | c+1,h=>by
   unfold tF
   rw[TJ N c (fun i hi=>h i (by omega)),(h c (by omega)).1,(h c (by omega)).2]
theorem WA(N:Nat)(gF gX:Nat->Nat)(c i:Nat)(h:i<c):(tF N gF gX c)[i*2]?=some (.slice (some ⟨gF i,0,none⟩) N N)/\(tF N gF gX c)[i*2+1]?=some (.slice (some ⟨gX i,0,none⟩) N N):=by
 induction c with
 | zero=>omega
 | succ c ih=>
  have hl:=zol N gF gX c;unfold tF;by_cases e:i=c
  ·subst e;rw[List.getElem?_append_right (by omega),List.getElem?_append_right (by omega),hl];simp
  rw[List.getElem?_append_left (by omega),List.getElem?_append_left (by omega)];exact ih (by omega)
structure yq (D:Dd)(N:Nat)(W3:World)(c:Nat)(vB:Value)(gF gX:Nat->Nat)(f x:Nat->Nat->Int)(w:World):Prop where
 below:Below W3.heap.size W3 w
 own:w.ownsRow W3.heap.size 210 2 vB c (tF N gF gX c)
 F:∀i,i<c->w.ownsRow W3.heap.size 3 1 (.slice (some ⟨gF i,0,none⟩) N N) N (oI (f i) N)
 X:∀i,i<c->w.ownsRow W3.heap.size 3 1 (.slice (some ⟨gX i,0,none⟩) N N) N (oI (x i) N)
 L:∀i,i<c->∀s,s<N->LL (x i) (f i s) (chain (fun k=>tD D k i) N s)
theorem yq.aa{W3 w:World}{vB:Value}{gF gX:Nat->Nat}{f x:Nat->Nat->Int}(h:yq D N W3 c vB gF gX f x w)(k:Below w.heap.size w w1):yq D N W3 c vB gF gX f x w1:=
 ⟨h.below.trans (k.mono h.below.size),dp h.own k,fun i hi=>dp (h.F i hi) k,fun i hi=>dp (h.X i hi) k,h.L⟩
theorem yq.app{D:Dd}{N c:Nat}{W3 w w':World}{vB US:Value}{gF gX:Nat->Nat}{f x:Nat->Nat->Int}{pF pX:Nat}{fc xc:Nat->Int}(h:yq D N W3 c vB gF gX f x w)(oF:w.ownsRow W3.heap.size 3 1 (.slice (some ⟨pF,0,none⟩) N N) N (oI fc N))(oX:w.ownsRow W3.heap.size 3 1 (.slice (some ⟨pX,0,none⟩) N N) N (oI xc N))(hL:∀s,s<N->LL xc (fc s) (chain (fun k=>tD D k c) N s))
  (ho:w'.ownsRow W3.heap.size 210 2 US (c+1) (tF N gF gX c++[.slice (some ⟨pF,0,none⟩) N N,.slice (some ⟨pX,0,none⟩) N N])) (hg:w.grownBy w' vB.ownBlock):
  yq D N W3 (c+1) US (fun i=>if i=c then pF else gF i) (fun i=>if i=c then pX else gX i) (fun i=>if i=c then fc else f i) (fun i=>if i=c then xc else x i) w':=by
 have kp:∀{v:Value}{xs:List Value},w.ownsRow W3.heap.size 3 1 v N xs->w'.ownsRow W3.heap.size 3 1 v N xs:=fun o=>uO o h.own (by decide) hg
 refine⟨fH h.below h.own h.below.size hg,?_,fun i hi=>?_,fun i hi=>?_,fun i hi=>?_⟩
 ·have e:tF N (fun i=>if i=c then pF else gF i) (fun i=>if i=c then pX else gX i) (c+1)=tF N gF gX c++[.slice (some ⟨pF,0,none⟩) N N,.slice (some ⟨pX,0,none⟩) N N]:=by
   show tF N _ _ c++_=_;rw[TJ N (gF':=gF) (gX':=gX) c (fun i hi=>⟨if_neg (by omega),if_neg (by omega)⟩)];simp
  rw[e];exact ho
 ·by_cases e:i=c
  ·simp only[if_pos e];exact kp oF
  simp only[if_neg e];exact kp (h.F i (by omega))
 ·by_cases e:i=c
  ·simp only[if_pos e];exact kp oX
  simp only[if_neg e];exact kp (h.X i (by omega))
 by_cases e:i=c
 ·simp only[if_pos e];rw[e];exact hL
 simp only[if_neg e];exact h.L i (by omega)
def EX(b i:Nat)(w:World):Nat:=match w.cell? ⟨b,i,none⟩ with
 | some v=>C7 v
 | none=>0
def CZ(b N:Nat)(v9:Value)(w:World):Nat:=(N-EX b 3 w)+EX b 5 w+(if C7 v9=0 then 0 else 1)
theorem RQ{b:Nat}{w:World}(h:bq V B bs b v vS P w)(N:Nat)(v9:Value):CZ b N v9 w=P.mu N+(if C7 v9=0 then 0 else 1):=by
 have h1:EX b 3 w=P.sp.length:=by
  unfold EX;rw[h.mA.1];obtain⟨a,c,e⟩:=bF h.ny;show C7 vS=_;rw[e];rfl
 have h2:EX b 5 w=(P.L 4).length:=by
  unfold EX;rw[h.c4.1];obtain⟨a,c,e⟩:=h.CV 4 (by omega) rfl;show C7 (v 4)=_;rw[e];rfl
 unfold CZ Pt.mu;rw[h1,h2]
structure nK (D:Dd)(C N:Nat)(Wb:World)(B0:Nat)(pb:List Nat)(b:Nat)(T:List Nat)(gT cT:Nat)(P:Pt)(v:Nat->Value)(vS:Value)(aS:Option Addr)(q cS:Nat)(L8:List Nat)(cd:Nat)(wr:World):Prop where
 pm:bq Wb B0 pb b v vS P wr
 ql:L8.length=q
 oS:wr.ownsRow Wb.heap.size 3 1 (.slice aS q cS) q (cy L8)
 sS:∀g,(Value.slice aS q cS).ownBlock=some g->g∉bf b v vS
 oT:wr.ownsRow Wb.heap.size 3 1 (.slice (some ⟨gT,0,none⟩) T.length cT) T.length (cy T)
 sT:gT∉bf b v vS
 F6:(Value.slice aS q cS).ownBlock≠some gT
 tn:T.Nodup
 tl:∀x∈T,x<N
 jG:hY N C (tD D) (mD D) P cd (fun z=>z∈T)
 ct:∀x y,x<N->y<N->P.b x=P.b y->mD D x=mD D y
section
variable {D : Dd}{C N B0 b gT cT q cS cd : Nat}{Wb wr : World}{pb T L8 : List Nat}{P : Pt}{v : Nat → Value}{vS : Value}{aS : Option Addr}
theorem nK.sz(h:nK D C N Wb B0 pb b T gT cT P v vS aS q cS L8 cd wr):Wb.heap.size<=wr.heap.size:=h.pm.below.size
theorem nK.aa(h:nK D C N Wb B0 pb b T gT cT P v vS aS q cS L8 cd wr)(k:Below wr.heap.size wr w1):nK D C N Wb B0 pb b T gT cT P v vS aS q cS L8 cd w1:=
 ⟨h.pm.aa k,h.ql,dp h.oS k,h.sS,dp h.oT k,h.sT,h.F6,h.tn,h.tl,h.jG,h.ct⟩
theorem XP(a:Option Addr)(n c n':Nat):(Value.slice a n c).ownBlock=(Value.slice a n' c).ownBlock:=by cases a <;> rfl
theorem nK.add{w5:World}{a:Option Addr}(h:nK D C N Wb B0 pb b T gT cT P v vS aS q cS L8 cd wr)(hc:lj wr Wb.heap.size (Value.slice aS 0 cS).ownBlock.toList l (.slice a l.length c) w5):
  nK D C N Wb B0 pb b T gT cT P v vS a l.length c l cd w5:=by
 have vD:∀x∈(Value.slice aS 0 cS).ownBlock.toList,(Value.slice aS q cS).ownBlock=some x:=fun x hx=>by
  rw[XP aS q cS 0];simpa using hx
 have F9:∀g,(Value.slice a l.length c).ownBlock=some g->(Value.slice aS q cS).ownBlock=some g\/wr.heap.size<=g:=fun g e=>by
  rcases hc.loc g e with h1|h1
  ·exact inl (vD g h1)
  exact inr h1
 have hB:Below B0 wr w5:=hc.below.mono h.pm.lo.2;refine⟨h.pm.sQ hc.kept hB (fun x hx=>h.sS x (vD x hx)) (fun x hx=>inl (km h.oS x (vD x hx))),rfl,hc.own,fun g e=>?_,fy h.oT hc.kept (by simp) (fun g e hm=>?_),h.sT,fun e=>?_,h.tn,h.tl,h.jG,h.ct⟩
 ·rcases F9 g e with h1|h1
  ·exact h.sS g h1
  exact fun hm=>by have:=h.pm.blt g hm;omega
 ·have:=vD g hm;simp[ownBlock] at e;rw[<-e] at this;exact h.F6 this
 rcases F9 gT e with h1|h1
 ·exact h.F6 h1
 have:=lx h.oT gT rfl;omega
theorem nK.call(h:nK D C N Wb B0 pb b T gT cT P v vS aS q cS L8 cd wr)(hN:N<=100000)(hn:L8.Nodup)(hl:∀x∈L8,x<N):
  Calls prog 161 #[.pointer (some ⟨b,0,none⟩),.slice aS q cS] wr (OC wr B0 (bf b v vS) b (mh P L8)):=
 YZ N hN wr B0 b (bf b v vS) v vS P wr h.pm.start h.jG.pz L8 q h.ql hn hl aS cS (uj h.oS h.ql) (fun ad e=>h.sS ad.block (by rw[e];rfl))
theorem nK.div(h:nK D C N Wb B0 pb b T gT cT P v vS aS q cS L8 cd wr)(hN:D.n+1=N)(hR:DR D C)(Fv:cd<C)(hn:L8.Nodup)(hl:∀x,x∈L8↔x<N/\tD D x cd∈T)(h6:bq wr B0 (bf b v vS) b v' vS' (mh P L8) w6):
  nK D C N Wb B0 pb b T gT cT (mh P L8) v' vS' aS q cS L8 (cd+1) w6:=by
 have hlN:∀x∈L8,x<N:=fun x hx=>((hl x).1 hx).1
 have ht:∀x c,x<N->c<C->tD D x c<N:=fun x c _ hc=>by rw[<-hN];exact Ej hR x c hc
 have eD:∀g,g<wr.heap.size->g∉bf b v vS->g∉bf b v' vS':=fun g h1 h2 hm=>by
  rcases h6.rU g hm with h3|h3
  ·exact h2 h3
  omega
 have hd:=IQ h.jG.pz L8 hn hlN;refine⟨h.pm.back h6,h.ql,fy h.oS h6.kept (by simp) h.sS,fun g e=>eD g (lx h.oS g e) (h.sS g e),fy h.oT h6.kept (by simp) (fun g e=>?_),eD gT (lx h.oT gT rfl) h.sT,h.F6,h.tn,h.tl,h.jG.class Fv ht L8 hn hl,fun x y hx hy hb=>h.ct x y hx hy ((hd.b x y hx hy).1 hb).1⟩;simp[ownBlock] at e;rw[<-e];exact h.sT
structure vw (D:Dd)(C N:Nat)(Wb:World)(B0:Nat)(pb:List Nat)(b:Nat)(P:Pt)(v:Nat->Value)(vS:Value)(aS:Option Addr)(q cS:Nat)(L8:List Nat)(wr:World):Prop where
 pm:bq Wb B0 pb b v vS P wr
 ql:L8.length=q
 oS:wr.ownsRow Wb.heap.size 3 1 (.slice aS q cS) q (cy L8)
 sS:∀g,(Value.slice aS q cS).ownBlock=some g->g∉bf b v vS
 jG:hY N C (tD D) (mD D) P C (fun _=>False)
 ct:∀x y,x<N->y<N->P.b x=P.b y->mD D x=mD D y
theorem nK.all(h:nK D C N Wb B0 pb b T gT cT P v vS aS q cS L8 C wr):vw D C N Wb B0 pb b P v vS aS q cS L8 wr:=
 ⟨h.pm,h.ql,h.oS,h.sS,⟨h.jG.pz,h.jG.sat,fun _ _ _ _ _=>Iff.rfl,fun x y hx hy hb c hc=>by
  rcases h.jG.jG x y hx hy hb c hc with h1|h1
  ·exact inl h1
  ·omega⟩,h.ct⟩
theorem vw.call(h:vw D C N Wb B0 pb b P v vS aS q cS L8 wr)(hN:N<=100000):Calls prog 163 #[.pointer (some ⟨b,0,none⟩)] wr (IJ wr B0 (bf b v vS) b P wr):=
 zmi N hN wr B0 b (bf b v vS) v vS P wr h.pm.start h.jG.pz
theorem vw.take{g:Nat}(h:vw D C N Wb B0 pb b P v vS aS q cS L8 wr)(hN:D.n+1=N)(hR:DR D C)(hne:P.L 4≠[])(hB:Below B0 wr w6)(ho:w6.ownsRow wr.heap.size 3 1 (.slice (some ⟨g,0,none⟩) (eh P).length c) (eh P).length (cy (eh P)))(h6:bq wr B0 (bf b v vS) b v' vS' (ga P) w6)(hg:g∉bf b v' vS'):
  nK D C N Wb B0 pb b (eh P) g c (ga P) v' vS' aS q cS L8 0 w6/\0<(eh P).length/\(ga P).mu N+1=P.mu N:=by
 have ht:∀x c,x<N->c<C->tD D x c<N:=fun x c _ hc=>by rw[<-hN];exact Ej hR x c hc
 obtain⟨t1,t2,t3,t4,t5,t6,t7,t8⟩:=h.jG.take hne ht;have eD:∀g,g<wr.heap.size->g∉bf b v vS->g∉bf b v' vS':=fun g h1 h2 hm=>by
  rcases h6.rU g hm with h3|h3
  ·exact h2 h3
  omega
 refine⟨⟨h.pm.back h6,h.ql,fy h.oS h6.kept (by simp) h.sS,fun g e=>eD g (lx h.oS g e) (h.sS g e),jF ho h.pm.below.size,hg,fun e=>?_,t4,fun x hx=>((t5 x).1 hx).1,t6,fun x y hx hy hb=>h.ct x y hx hy (by rw[<-t8,<-t8];exact hb)⟩,?_,t7⟩
 ·have h1:=lx h.oS g e;have h2:=km ho g rfl;omega
 unfold eh;have hl:=h.jG.pz.1.l0;simp;omega
theorem vw.none(h:vw D C N Wb B0 pb b P v vS aS q cS L8 wr)(h6:bq wr B0 (bf b v vS) b v' vS' P w6):vw D C N Wb B0 pb b P v' vS' aS q cS L8 w6:=by
 refine⟨h.pm.back h6,h.ql,fy h.oS h6.kept (by simp) h.sS,fun g e hm=>?_,h.jG,h.ct⟩;rcases h6.rU g hm with h3|h3
 ·exact h.sS g e h3
 have:=lx h.oS g e;omega
end
def TV(D:Dd)(C N:Nat)(Wb:World)(B0:Nat)(pb:List Nat)(b:Nat)(v8 v9:Value)(wq:World):Prop:=
 ∃(aS:Option Addr) (q cS:Nat),v8=.slice aS q cS/\q<=N/\((v9=.slice none 0 0/\∃P v vS L8,vw D C N Wb B0 pb b P v vS aS q cS L8 wq/\P.L 4=[])\/
  ∃gT m cT,v9=.slice (some ⟨gT,0,none⟩) m cT/\0<m/\m<=N/\∃T P v vS L8,T.length=m/\nK D C N Wb B0 pb b T gT cT P v vS aS q cS L8 0 wq)
theorem vw.WW{B0 b q cS:Nat}{Wb wr:World}{pb L8:List Nat}{aS:Option Addr}{e:Ending}(h:vw D C N Wb B0 pb b P v vS aS q cS L8 wr)(hN:D.n+1=N)(hR:DR D C)(hq:q<=N)(ht:IJ wr B0 (bf b v vS) b P wr e w6):
  ∃v9,e=.returned v9/\TV D C N Wb B0 pb b (.slice aS q cS) v9 w6/\CZ b N v9 w6=P.mu N:=by
 rcases ht with ⟨h1,rfl,v',vS',h2⟩|⟨h1,g,c,v',vS',rfl,ho,h2,hg⟩
 ·have hz:=h.none h2;exact⟨_,rfl,⟨aS,q,cS,rfl,hq,inl ⟨rfl,P,v',vS',L8,hz,h1⟩⟩,by rw[RQ hz.pm];rfl⟩
 obtain⟨hi,hl,hm⟩:=h.take hN hR h1 h2.below ho h2 hg;refine⟨_,rfl,⟨aS,q,cS,rfl,hq,inr ⟨g,_,c,rfl,hl,pW hi.tn hi.tl,eh P,ga P,v',vS',L8,rfl,hi⟩⟩,?_⟩;rw[RQ hi.pm,<-hm];show _+(if (eh P).length=0 then 0 else 1)=_;rw[if_neg (by omega)]
theorem zj7(a:Option Addr)(n c:Nat)(W:World):(binOp .neq 43 (.slice a n c) (.slice none 0 0)).run prog W=.ok (.bool a.isSome) W:=by
 have h:=run_equal_slice_nil W 43 3 a n c underlying43;unfold binOp;simp only[Sem.run_bind,h,Result.andThen_ok,Sem.run_pure];cases a <;> rfl
theorem ziu(D:Dd)(C:Nat)(hR:DR D C)(w:World)(hD:DM w D)(SN:∀W,DM W D->Calls prog 160 #[.agg D.cD] W (Oc D W)):
  Calls prog 132 #[.agg D.cD] w (RZ D C w):=by
 have dj:=hR.n2;have Ah:=(hR.ke hD.kl).2;obtain⟨N,hN⟩:∃N,D.n+1=N:=⟨_,rfl⟩
 have Ew:N<=100000:=by omega
 have HBy:=hid SN;have HB:=hid (Zz (dc.new hD) (Zz (al w (.cells D.cD 101)) (Zz hR hN)));have HWh:Hid (∀W,Calls prog 159 #[.int .i64 ((D.n:Int)+1)] W (QR N W)):=fun W=>by
  have:=ZR N Ew W;rw[<-hN] at this⊢;exact this
 clear hD hR hN SN;go_enter func132,ntmps132;go_upto_region 1 with fail;generalize w.alloc (.cells D.cD 101)=W0 at HB⊢;obtain⟨b0,bc⟩:∃b0,w.heap.size=b0:=⟨_,rfl⟩
 have dO:=hid bc;rw[bc] at HB;rw[bc];clear bc;have f1:=HB.out.1.f1;go_wp2_with fail;refine (HWh.out _).mono ?_;rintro e w1 ⟨b,v,vS,rfl,rY,KO,Jm⟩;have BW:=hid (Zz (HB.out.1.aa KO) (HB.out.2.1.trans (KO.mono (by have:=HB.out.2.1.size;have:=dO.out;omega))));have gw:=hid (Zz rY Jm);have jL:Hid (w.heap.size<=w1.heap.size/\w.heap.size<=W0.heap.size/\Below W0.heap.size W0 w1):=⟨by have:=BW.out.2.size;have:=dO.out;omega,by have:=HB.out.2.1.size;have:=dO.out;omega,KO⟩
 clear rY KO Jm f1;go_wp2_with (refine oa (by rfl) 101 _ rfl ⟨b0,0,none⟩ rfl D.cD _ BW.out.1.st.part underlying101 rfl BW.out.1.dm.info ?_);refine (HBy.out _ BW.out.1.dm).mono ?_;rintro e w2 ⟨ms,aM,cM,A,Cp,rfl,Gj,dU,nV,b2,oM,oR⟩;obtain⟨nm,jc⟩:∃nm,ms.length=nm:=⟨_,rfl⟩
 rw[jc] at nV oM;have HM:=hid (Zz Gj (Zz dU (Zz jc (Zz oM oR))));have HD2:=hid (Zz (BW.out.1.aa b2) (BW.out.2.trans (b2.mono (by have:=jL.out.1;have:=dO.out;omega))));have kr:Hid (bq w2 W0.heap.size (bf b v vS) b v vS (fk N) w2/\∀x∈bf b v vS,W0.heap.size<=x/\x<w1.heap.size):=⟨(gw.out.1.aa b2).start.congr (fun i hi=>rfl) rfl,fun x hx=>⟨gw.out.2 x hx,gw.out.1.blt x hx⟩⟩
 have Hsz:Hid (w1.heap.size<=w2.heap.size/\Below W0.heap.size W0 w2):=⟨b2.size,jL.out.2.2.trans (b2.mono jL.out.2.2.size)⟩
 rw[jc];clear Gj dU jc b2 oM oR gw;go_wp2;go_loopw [5,20] (fun _ vj wr=>∃j:Nat,vj=.int .i64 j/\j<=nm/\Hid (∃v' vS' P,bq w2 W0.heap.size (bf b v vS) b v' vS' P wr/\wM D C P (ms.take j))) (fun _ v _=>nm-(intOf v).toNat)
 ·exact⟨0,rfl,zero_le _,v,vS,fk N,kr.out.1,by rw[<-HB.out.2.2.2];exact wM.start D C⟩
 obtain⟨j,rfl,hj,HL⟩:=hrel;by_cases aw:j<nm
 ·obtain⟨v',vS',P,hP,hI⟩:=HL.out;have IZ:j<ms.length:=by rw[HM.out.2.2.1];exact aw
  obtain⟨μ,hμ⟩:∃μ,ms.getD j 0=μ:=⟨_,rfl⟩
  have hμ0:0<=μ:=by
   rw[<-hμ,oG _ _ _ IZ];exact HM.out.1 _ (List.getElem_mem IZ)
  have DV:=HM.out.2.2.2.2 j IZ;rw[hμ] at DV;have Pp:=HM.out.2.2.2.1;have VG:=fy Pp hP.kept (by simp) (fun g e hm=>by have h1:=km Pp g e;have h2:=(kr.out.2 g hm).2;omega);obtain⟨gM,rfl,_,_,Vt⟩:=eR VG (by omega);have d0:=(Vt j (by omega)).1;rw[List.getElem?_map,List.getElem?_range (by omega)] at d0;replace d0:wr.cell? ⟨gM,j,none⟩=some (.slice (A j) (qt D (ms.getD j 0)).length (Cp j)):=d0;rw[hμ] at d0;obtain⟨q,hq⟩:∃q,(qt D μ).length=q:=⟨_,rfl⟩
  rw[hq] at d0 DV;have NF:q<=D.n:=by rw[<-hq];exact zok D μ
  have Uz:=fy DV hP.kept (by simp) (fun g e hm=>by have h1:=km DV g e;have h2:=(kr.out.2 g hm).2;omega);have Tn:=hP.start;have GV:∀ad,A j=some ad->ad.block∉bf b v' vS':=fun ad e hm=>by
   have e1:(Value.slice (A j) q (Cp j)).ownBlock=some ad.block:=(by rw[e];rfl);have h1:=km DV _ e1;have h3:=lx DV _ e1;rcases hP.rU _ hm with h2|h2
   ·have:=(kr.out.2 _ h2).2;omega
   omega
  have HC:=hid (YZ N Ew wr W0.heap.size b (bf b v' vS') v' vS' P wr Tn (by rw[<-HB.out.2.2.2];exact hI.h.pz) (qt D μ) q hq (Mr D μ) (fun x hx=>by have:=((Lc D μ x).1 hx).1;have:=HB.out.2.2.2;omega) (A j) (Cp j) (uj Uz hq) GV);have HI:Hid (wM D C (mh P (qt D μ)) (ms.take (j+1))):=by
   have h:=hI.step HB.out.2.2.1 μ hμ0;have e:ms.take (j+1)=ms.take j++[μ]:=by
    rw[List.take_add_one,List.getElem?_eq_getElem IZ,<-hμ,oG _ _ _ IZ];rfl
   show wM D C _ (ms.take (j+1));rw[e];exact h
  have oD:=hid hP;have i1:(j:Int)<nm:=by omega
  clear hP hI DV Pp VG Vt hμ hq Uz Tn GV HL;go_wp2_with fail;refine HC.out.mono ?_;rintro e w5 ⟨v5,rq,rfl,og⟩;have yM:=hid (oD.out.back og);clear og HC oD d0;go_wp2;go_roundw
  ·exact⟨j+1,by go_num,by omega,v5,rq,_,yM.out,HI.out⟩
  simp[intOf];omega
 obtain rfl:j=nm:=by omega
 obtain⟨v3,rz,P3,rn,Ir⟩:=HL.out;rw[take_of_length_le (by rw[HM.out.2.2.1];exact le_refl _)] at Ir;have CX:=kr.out.2;have WT:Hid (hY N C (tD D) (mD D) P3 C (fun _=>False)/\(∀x y,x<N->y<N->P3.b x=P3.b y->mD D x=mD D y)/\P3.mu N=D.n):=by
  refine⟨by rw[<-HB.out.2.2.2];exact Ir.h,?_,by rw[<-HB.out.2.2.2];exact Ir.mu⟩;rw[<-HB.out.2.2.2];exact Ir.done HB.out.2.2.1 HM.out.1 HM.out.2.1
 have Cb:Below W0.heap.size W0 wr:=Hsz.out.2.trans rn.below;obtain⟨W3,tY⟩:∃W3,W3=wr:=⟨wr,rfl⟩
 have Bk:Hid (bq W3 W0.heap.size (bf b v3 rz) b v3 rz P3 W3):=by rw[tY];exact rn.start
 have Cr:Hid (dc wr b0 D/\Below W0.heap.size W0 wr):=⟨HB.out.1.aa Cb,Cb⟩
 clear rn Ir CX Cb HL kr HM HD2 BW;go_wp2_with (refine oa (by rfl) 98 _ rfl ⟨b0,0,none⟩ rfl (aY D.K) _ Cr.out.1.eo underlying98 rfl (y9 D.K) ?_);refine (Mh D.K C HB.out.2.2.1.c HB.out.1.dm.kl _).mono ?_;rintro e w4 ⟨rfl,b4⟩;have H4:Hid (yq D N W3 0 (.slice none 0 0) (fun _=>0) (fun _=>0) (fun _ _=>0) (fun _ _=>0) w4):=by
  rw[tY];exact⟨b4,ownsRow_nil _ _ _ _,fun i hi=>absurd hi (by omega),fun i hi=>absurd hi (by omega),fun i hi=>absurd hi (by omega)⟩
 rw[<-tY] at Cr;clear tY b4;go_wp2;go_loopw [6,7,31] (fun v6 _ vc wq=>∃(c:Nat) (aB:Option Addr) (cB:Nat),vc=.int .i64 c/\c<=C/\v6=.slice aB c cB/\Hid (∃gF gX f x,yq D N W3 c (.slice aB c cB) gF gX f x wq)) (fun _ _ v _=>C-(intOf v).toNat)
 ·exact⟨0,none,0,rfl,zero_le _,rfl,_,_,_,_,H4.out⟩
 obtain⟨c,aB,cB,rfl,hc,rfl,HK⟩:=hrel;by_cases uf:c<C
 ·obtain⟨gF,gX,f,x,hK⟩:=HK.out;have KQ:=hid (Cr.out.1.aa hK.below);have HC:=hid (zeM D C HB.out.2.2.1 c uf wr KQ.out.dm);have KF:=hid hK;have i1:(c:Int)<C:=by omega
  obtain⟨i0,hi,dD,db,cW⟩:=info_parts uS;clear hK HK;go_wp2_with (refine oa (by rfl) 101 _ rfl ⟨b0,0,none⟩ rfl D.cD _ KQ.out.st.part underlying101 rfl KQ.out.dm.info ?_);refine HC.out.mono ?_;rintro e w5 ⟨pF,pX,fc,xc,rfl,oF,oX,hL,b5⟩;rw[HB.out.2.2.2] at oF oX hL⊢;have JY:=KF.out.aa b5;have hO:=JY.own;have sb:=JY.below.size;have H5:=hid (Zz JY (Zz (jF oF KF.out.below.size) (Zz (jF oX KF.out.below.size) hL)));clear oF oX hL b5 JY HC KQ;go_wp2_with (at_builtin;refine wpList_append_own_at _ rfl _ _ 208 rfl W3.heap.size 210 i0 (.agg #[.slice none 0 0,.slice none 0 0]) 2 48 underlying208 hi dD db cW rfl (by decide) _ _ _ rfl (hO.alloc _) ⟨w5.heap.size,0,none⟩ 1 1 [.slice (some ⟨pF,0,none⟩) N N,.slice (some ⟨pX,0,none⟩) N N] rfl rfl (cell_two_new _ _ _ _) ?d2 ?d3 ?d4 ?d5 ?_)
  case d2=>intro u hu;simp at hu;rcases hu with rfl|rfl <;> rfl
  case d3=>unfold maxLen;omega
  case d4=>omega
  case d5=>first|(simp;omega)|omega
  intro v6 w6 an af _ bH;obtain⟨a6,c6,rfl⟩:=bF an;have H6:Hid (∃gF gX f x,yq D N W3 (c+1) (.slice a6 (c+1) c6) gF gX f x w6):=by
   have k:=al w5 (.cells #[.slice (some ⟨pF,0,none⟩) N N,.slice (some ⟨pX,0,none⟩) N N] 210);exact⟨_,_,_,_,(H5.out.1.aa k).app (dp H5.out.2.1 k) (dp H5.out.2.2.1 k) H5.out.2.2.2 an af⟩
  clear an af bH hO H5 KF;go_wp2;go_roundw
  ·exact⟨c+1,a6,c6,by go_num,by omega,rfl,H6.out⟩
  simp[intOf];omega
 obtain rfl:c=C:=by omega
 obtain⟨gF,gX,f,x,hK⟩:=HK.out;obtain⟨Wb,Fy⟩:∃Wb,Wb=wr:=⟨wr,rfl⟩
 have jT:Hid (yq D N W3 c (.slice aB c cB) gF gX f x Wb):=by rw[Fy];exact hK
 have XL:bq Wb W0.heap.size (bf b v3 rz) b v3 rz P3 Wb:=by rw[Fy];exact (Bk.out.aa hK.below).start
 have VR:Hid (vw D c N Wb W0.heap.size (bf b v3 rz) b P3 v3 rz none 0 0 [] Wb):=⟨XL,rfl,ownsRow_nil _ _ _ _,fun g e=>by simp[ownBlock] at e,WT.out.1,WT.out.2.1⟩
 have KV:Hid (dc Wb b0 D/\Below W0.heap.size W0 Wb/\(∀y∈bf b v3 rz,y<W3.heap.size)):=by rw[Fy];exact⟨Cr.out.1.aa hK.below,Cr.out.2.trans (hK.below.mono Cr.out.2.size),Bk.out.blt⟩
 have HT:=hid (VR.out.call Ew);rw[<-Fy];clear XL hK Fy HK Cr;go_wp2_with fail;refine HT.out.mono ?_;rintro e w6 h6;obtain⟨v9,rfl,Ga,Mw⟩:=VR.out.WW HB.out.2.2.2 HB.out.2.2.1 (zero_le _) h6;have JF:=hid Ga;have CA:=zj7;clear Ga Mw h6 HT;go_wp2;go_loopw [8,9,11,49] (fun v8 v9 _ _ wq=>TV D c N Wb W0.heap.size (bf b v3 rz) b v8 v9 wq) (fun _ v9 _ _ wq=>CZ b N v9 wq)
 ·exact JF.out
 clear JF;obtain⟨aS,q,cS,rfl,hq,hR⟩:=hrel;rcases hR with ⟨rfl,P,v5,rq,L8,hZ,AU⟩|⟨gT,m,cT,rfl,oo,VO,T,P,v5,rq,L8,XE,hI⟩
 ·have b2:=hZ.pm.c2.1;have iE:=hZ.jG.pz.1.l2;obtain⟨a2,c2,e2⟩:=hZ.pm.CV 2 (by omega) iE;have HF:Hid (RZ D c w (.returned (.slice a2 N c2)) wr):=by
   have ho:=hZ.pm.row 2 (by omega);rw[iE,e2] at ho;have jf:N<=c2:=by
    rcases ho.2 with ⟨h1,h0⟩|⟨_,cap,_,h1,_,_,h2,_⟩
    ·have:=HB.out.2.2.2;omega
    injection h1 with _ e1 e3;omega
   have qg:=jL.out.2.1;refine⟨P.L 2,a2,c2,?_,?_,?_,?_,?_,?_,?_⟩
   ·rw[HB.out.2.2.2]
   ·rw[HB.out.2.2.2];exact iE
   ·rw[HB.out.2.2.2];intro x hx;obtain⟨i,hi,e⟩:=List.getElem_of_mem hx;have h1:=(hZ.jG.pz.1.bk i (by omega)).1;have h2:=hZ.jG.pz.1.len;have h3:P.b i=x:=by
     show (P.L 2).getD i 0=x;rw[getD_eq_getElem?_getD,List.getElem?_eq_getElem hi];exact e
    omega
   ·rw[HB.out.2.2.2];exact jf
   ·rw[HB.out.2.2.2];exact jF ho qg
   ·rw[HB.out.2.2.2];exact hZ.jG.done AU (fun x d _ hd=>by rw[<-HB.out.2.2.2];exact Ej HB.out.2.2.1 x d hd) hZ.ct
   have bc:=dO.out;have h1:Below w.heap.size w Wb:=(by rw[bc];exact HB.out.2.1.trans (KV.out.2.1.mono (by omega)));exact h1.trans (hZ.pm.below.mono qg)
  rw[e2] at b2;clear hZ iE e2;go_wp2;go_ret;exact HF.out
 obtain⟨EN,pD⟩:∃EN,P.mu N=EN:=⟨_,rfl⟩
 have Hmu:Hid (CZ b N (.slice (some ⟨gT,0,none⟩) m cT) wr=EN+1):=by
  show _=_;rw[RQ hI.pm,pD];show _+(if m=0 then 0 else 1)=_;rw[if_neg (by omega)]
 have HI0:Hid (∃P v vS L8,P.mu N=EN/\nK D c N Wb W0.heap.size (bf b v3 rz) b T gT cT P v vS aS q cS L8 0 wr):=⟨P,v5,rq,L8,pD,hI⟩
 have ZL:=hid XE;clear hI pD XE;go_wp2_with fail;obtain⟨W8,hW8⟩:∃W8,W8=wr:=⟨wr,rfl⟩
 clear hW8 W8;go_loopw [8,11,49] (fun v8 _ vi wq=>∃(i:Nat) (aS:Option Addr) (q cS:Nat),vi=.int .i64 i/\i<=c/\v8=.slice aS q cS/\q<=N/\Hid (∃P v vS L8,P.mu N=EN/\nK D c N Wb W0.heap.size (bf b v3 rz) b T gT cT P v vS aS q cS L8 i wq)) (fun _ _ v _=>c-(intOf v).toNat)
 ·exact⟨0,aS,q,cS,rfl,zero_le _,rfl,hq,HI0.out⟩
 obtain⟨i,aS,q,cS,rfl,hi,rfl,hq,tj⟩:=hrel;by_cases tL:i<c
 ·obtain⟨P,v5,rq,L8,pD,hI⟩:=tj.out;have Tp:=fy jT.out.own hI.pm.kept (by simp) (fun g e hm=>by have h1:=km jT.out.own g e;have:=KV.out.2.2 g hm;omega);obtain⟨gB,rfl,_,_,Qx⟩:=eR Tp (by omega);have d0:=(Qx (i*2) (by omega)).1;have d1:=(Qx (i*2+1) (by omega)).1;rw[(WA N gF gX c i tL).1] at d0;rw[(WA N gF gX c i tL).2] at d1;have XO:=hid (Zz pD hI);have i1:(i:Int)<c:=by omega
  obtain⟨pF,Ow⟩:∃pF,gF i=pF:=⟨_,rfl⟩
  obtain⟨pX,Rn⟩:∃pX,gX i=pX:=⟨_,rfl⟩
  rw[Ow] at d0;rw[Rn] at d1;have Hp:=hid (Zz Ow Rn);clear Tp Qx pD hI Ow Rn tj;go_upto_region 20 with fail;obtain⟨W5,Eh⟩:∃W5,wr.alloc (.cells #[.slice (some ⟨pF,0,none⟩) N N,.slice (some ⟨pX,0,none⟩) N N] 210)=W5:=⟨_,rfl⟩
  obtain⟨bR,El⟩:∃bR,wr.heap.size=bR:=⟨_,rfl⟩
  have rI:St W5 210 bR #[.slice (some ⟨pF,0,none⟩) N N,.slice (some ⟨pX,0,none⟩) N N]:=by rw[<-Eh,<-El];exact St.new _ _ _
  have AZ:nK D c N Wb W0.heap.size (bf b v3 rz) b T gT cT P v5 rq aS q cS L8 i W5:=by rw[<-Eh];exact XO.out.2.aa (al wr _)
  rw[Eh,El];clear Eh El;have r0:W5.cell? ⟨bR,0,none⟩=some (.slice (some ⟨pF,0,none⟩) N N):=rI.at_ 0;have r1:W5.cell? ⟨bR,1,none⟩=some (.slice (some ⟨pX,0,none⟩) N N):=rI.at_ 1;have N7:=hid AZ;have hq0:(0:Int)<=cS:=by omega
  clear AZ rI d0 d1
  go_still_tail 4,(by kernel_rfl)
  change wpList _ _ _ _ _ W5.drew;have HC:Hid (Calls prog 164 #[.agg #[.slice (some ⟨pF,0,none⟩) N N,.slice (some ⟨pX,0,none⟩) N N],.slice aS 0 cS,.slice (some ⟨gT,0,none⟩) m cT] W5.drew (Nn Wb.heap.size (Value.slice aS 0 cS).ownBlock.toList (jl (fun k=>tD D k i) N T) W5.drew)):=by
   have yw:=N7.out.aa (Below.refl W5.heap.size W5).drew;have oF:=fy (jT.out.F i tL) yw.pm.kept (by simp) (fun g e hm=>by have h1:=km (jT.out.F i tL) g e;have:=KV.out.2.2 g hm;omega);have oX:=fy (jT.out.X i tL) yw.pm.kept (by simp) (fun g e hm=>by have h1:=km (jT.out.X i tL) g e;have:=KV.out.2.2 g hm;omega);have hF:=lx (jT.out.F i tL) (gF i) rfl;have hX:=lx (jT.out.X i tL) (gX i) rfl;rw[Hp.out.1] at oF hF;rw[Hp.out.2] at oX hX;have vD:∀g∈(Value.slice aS 0 cS).ownBlock.toList,(Value.slice aS q cS).ownBlock=some g:=(fun g hg=>by rw[XP aS q cS 0];simpa using hg);have hoT:=yw.oT;have e9:=ZL.out;refine ZJ N Ew (fun k=>tD D k i) (fun k hk=>by rw[<-HB.out.2.2.2];exact Ej HB.out.2.2.1 k i tL) (f i) (x i) (jT.out.L i tL) pF pX Wb.heap.size W3.heap.size aS cS T m e9 yw.tn yw.tl (some ⟨gT,0,none⟩) cT W5.drew oF oX (Vd yw.oS) yw.sz (uj hoT rfl) _ rfl (fun hm=>?_) (fun hm=>?_) (fun ad e hm=>?_)
   ·have:=km yw.oS pF (vD _ hm);omega
   ·have:=km yw.oS pX (vD _ hm);omega
   have e2:gT=ad.block:=(by injection e with e;rw[<-e]);rw[<-e2] at hm;exact yw.F6 (vD _ hm)
  have lu:Hid (nK D c N Wb W0.heap.size (bf b v3 rz) b T gT cT P v5 rq aS q cS L8 i W5.drew):=N7.out.aa (Below.refl W5.heap.size W5).drew;generalize W5.drew=W6 at HC lu⊢;clear r0 r1 N7;go_wp2_with fail;refine HC.out.mono ?_;rintro e w7 ⟨a7,c7,rfl,I0⟩;have Ji:=lu.out.add I0;obtain⟨L9,zp⟩:∃L9,jl (fun k=>tD D k i) N T=L9:=⟨_,rfl⟩
  have zt:L9.Nodup:=by rw[<-zp];exact Ui _ _ _ lu.out.tn
  have zE:∀z,z∈L9↔z<N/\tD D z i∈T:=fun z=>by rw[<-zp];exact R6 _ _ _ z
  rw[zp] at Ji⊢;obtain⟨q9,uX⟩:∃q9,L9.length=q9:=⟨_,rfl⟩
  rw[uX] at Ji⊢;have Qq:q9<=N:=by rw[<-uX];exact pW zt (fun z hz=>((zE z).1 hz).1)
  have uq:=hid (Ji.call Ew zt (fun z hz=>((zE z).1 hz).1));have kv:=hid (Zz Ji (Zz zt zE));clear I0 Ji zt zE zp uX HC;go_wp2_with fail;refine uq.out.mono ?_;rintro e w8 ⟨v8,vS8,rfl,E8⟩;have lO:Hid (∃P v vS L8,P.mu N=EN/\nK D c N Wb W0.heap.size (bf b v3 rz) b T gT cT P v vS a7 q9 c7 L8 (i+1) w8):=by
   refine⟨_,v8,vS8,L9,?_,kv.out.1.div HB.out.2.2.2 HB.out.2.2.1 tL kv.out.2.1 kv.out.2.2 E8⟩;rw[hY.mu kv.out.1.jG.pz L9 kv.out.2.1 (fun z hz=>((kv.out.2.2 z).1 hz).1)];exact XO.out.1
  clear E8 uq;go_wp2;go_roundw
  ·exact⟨i+1,a7,q9,c7,by go_num,by omega,rfl,Qq,lO.out⟩
  simp[intOf];omega
 obtain rfl:i=c:=by omega
 obtain⟨P,v5,rq,L8,pD,hI⟩:=tj.out;have hZ:=hI.all;have HT:=hid (hZ.call Ew);have HZ:=hid (Zz hZ pD);clear hI hZ tj pD;go_wp2_with fail;refine HT.out.mono ?_;rintro e w6 h6;obtain⟨v9',rfl,Ga,Mw⟩:=HZ.out.1.WW HB.out.2.2.2 HB.out.2.2.1 hq h6;have JF:=hid (Zz Ga Mw);clear h6 Ga Mw HT;go_wp2;go_roundw
 ·exact JF.out.1
 show CZ b N _ _<CZ b N _ _;have h1:=JF.out.2;have h2:=Hmu.out;have h3:=HZ.out.2;omega
end Go.Proofs.YtiijebameffenaaGreat
