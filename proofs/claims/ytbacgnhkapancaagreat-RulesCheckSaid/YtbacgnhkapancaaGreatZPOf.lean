import Derived.Test.YtbacgnhkapancaaGreatZPMst
set_option linter.all false
set_option maxHeartbeats 4000000
set_option maxRecDepth 100000
open Go.Lib (hid)
namespace Go.Proofs.YtbacgnhkapancaaGreat
open Go.Proofs.Tryz
open Act (put)
open IntKind (signed wrap)
open List (length_map map_append range)
section
variable {C N r i k c : Nat}{t : Nat → Nat → Nat}{m : Nat → Int}{A : Nat → Nat → Bool}
end
open Go.RowKit Go.Maps Go.WideElems Go.ChangeMaps Go.MapKept
def ng(D:Dd)(i:Int):Int:=if 0<=i/\i<(D.m:Int) then D.q i.toNat else -1
theorem XI(D:Dd)(i:Int)(w:World)(hD:DM w D)(hm:D.m<=100000):
  Calls prog 15 #[.agg D.cD,.int .i64 i] w fun e w'=>e=.returned (.int .i64 (ng D i))/\Below w.heap.size w w':=by
 have HB:=hid (Zz (cm.new hD) (al w (.cells D.cD 39)));clear hD;go_enter func15,ntmps15;go_upto_region 1 with fail;generalize w.alloc (.cells D.cD 39)=W0 at HB⊢;obtain⟨b0,aD⟩:∃b0,w.heap.size=b0:=⟨_,rfl⟩
 have cP:=hid aD;rw[aD] at HB;rw[aD];clear aD;have HF:=hid (show Below w.heap.size w W0 by rw[cP.out];exact HB.out.2);have f2:=HB.out.1.f2;by_cases h0:0<=i
 ·by_cases h1:i<(D.m:Int)
  ·obtain⟨k,rfl⟩:∃k:Nat,i=k:=(⟨i.toNat,by omega⟩);have hk:k<D.m:=(by omega);obtain⟨g,off,e,hg,hc⟩:=HB.out.1.dm.rM (by omega);have c1:=hc k hk;rw[e] at f2;have i1:¬((D.m:Int)<=(k:Int)):=(by omega);have i2:¬((k:Int)<0):=(by omega);have HZ:Hid (ng D (k:Int)=D.q k):=(by show _=_;unfold ng;rw[if_pos ⟨by omega,by omega⟩];simp);clear hc e;go_wp2;go_ret;exact⟨by rw[HZ.out];rfl,HF.out⟩
  have i1:(D.m:Int)<=i:=by omega
  have i2:¬(i<0):=by omega
  have HZ:Hid (ng D i=-1):=by show _=_;unfold ng;rw[if_neg (by omega)]
  go_wp2;go_ret;exact⟨by rw[HZ.out];rfl,HF.out⟩
 have i1:i<0:=by omega
 have HZ:Hid (ng D i=-1):=by show _=_;unfold ng;rw[if_neg (by omega)]
 go_wp2;go_ret;exact⟨by rw[HZ.out];rfl,HF.out⟩
section
variable {W0 w w' : World}{M N : Nat}{vO : Value}{gs : Nat → Nat}{A : Nat → Nat → Bool}
end
def A0(D:Dd)(x y:Nat):Bool:=mD D x != mD D y
theorem zdA(K:Nat->Nat)(C:Nat)(hC:Ag K C)(hk:∀j,j<256->K j<256)(w:World):
  Calls prog 68 #[.agg (aP K)] w (tY (∀c,c<C->∃j,j<256/\K j=c) w):=by
 have J8:C<=256:=by
  obtain⟨j,hj,e⟩:=hC.2;have:=hk j hj;omega
 have HB:=hid (Zz (St.new w 36 (aP K)) (Zz (al w (.cells (aP K) 36)) (Zz hC (Zz hk hk))));have dL:=vU K;clear hC hk;go_enter func68,ntmps68;go_wp2_with fail;generalize w.alloc (.cells (aP K) 36)=W0 at HB⊢;obtain⟨b0,aD⟩:∃b0,w.heap.size=b0:=⟨_,rfl⟩
 have cP:=hid aD;rw[aD] at HB;rw[aD];clear aD;have tr:=hid (Ez K C HB.out.2.2.1 HB.out.2.2.2.1 W0);refine wp_scope_straight (wp_seq (wp_label ?_));go_wp2_with (refine pM rfl 36 _ rfl ⟨b0,0,none⟩ rfl (aP K) (.array 256 5) HB.out.1.dC underlying36 rfl dL ?_);refine tr.out.mono ?_;rintro e w1 ⟨rfl,b1⟩;have H1:=hid (Zz (HB.out.1.ab b1) (HB.out.2.1.trans (b1.mono (by have:=HB.out.2.1.size;have:=cP.out;omega))));clear b1 tr;go_wp2_with fail;go_loopw [3,5,8,12] (fun _ _ v _ wr=>∃(c:Nat),v=.int .i64 c/\c<=C/\wr=w1/\Hid (∀c',c'<c->∃j,j<256/\K j=c')) (fun _ _ v _ _=>C-(intOf v).toNat)
 ·exact⟨0,rfl,by omega,rfl,fun c' h=>absurd h (by omega)⟩
 obtain⟨c,rfl,hc,rfl,Gv⟩:=hrel;by_cases an:c<C
 ·have i1:(c:Int)<C:=by omega
  obtain⟨W9,OK⟩:∃W9,W9=wr:=⟨wr,rfl⟩
  have eB:=hid H1.out.1;go_wp2_with (refine pM rfl 36 _ rfl ⟨b0,0,none⟩ rfl (aP K) (.array 256 5) eB.out.dC underlying36 rfl dL ?_);go_loopw [5,12] (fun _ v wq=>∃(k:Nat),v=.int .i64 k/\k<=256/\wq=wr/\Hid (∀j,j<k->K j≠c)) (fun _ v _=>256-(intOf v).toNat)
  ·exact⟨0,rfl,by omega,rfl,fun j hj=>by omega⟩
  obtain⟨k,rfl,eQ,rfl,HN⟩:=hrel;by_cases dN:k<256
  ·have i2:(k:Int)<256:=(by omega);have hv:=Db K k dN;have Ac:=KR 36 5 256 (aP K) k _ underlying36 dN (by kernel_rfl) ⟨_,underlying5,rfl⟩ hv wr;have vY:=HB.out.2.2.2.1 k dN;have HS:Hid (K k≠c->∀j,j<k+1->K j≠c):=fun h j hj=>by
    by_cases e:j=k
    ·subst e;exact h
    exact HN.out j (by omega)
   have HY:Hid (K k=c->∀c',c'<c+1->∃j,j<256/\K j=c'):=fun h c' hc'=>by
    by_cases e:c'=c
    ·exact⟨k,dN,by rw[h,e]⟩
    exact Gv.out c' (by omega)
   generalize K k=y at hv Ac vY HS HY;by_cases e:y=c
   ·subst e;have HY2:=hid (HY.out rfl);clear HS HY;go_wp2;go_roundw
    ·exact⟨y+1,by go_num,by omega,by first|trivial|rfl,HY2⟩
    simp[intOf];omega
   have HZ:=hid (HS.out e);clear HY;have i3:¬((y:Int)=c):=(by omega);go_wp2;go_roundw
   ·exact⟨k+1,by go_num,by omega,by first|trivial|rfl,HZ⟩
   simp[intOf];omega
  obtain rfl:k=256:=by omega
  have HF:Hid (tY (∀c,c<C->∃j,j<256/\K j=c) w (.returned (.bool false)) wr):=⟨false,rfl,⟨(fun h=>by cases h),fun h=>by
   obtain⟨j,hj,e⟩:=h c an
   exact absurd e (HN.out j hj)⟩,by rw[cP.out];exact H1.out.2⟩
  go_wp2_with fail
  try dsimp only[Exit.noGoto]
  go_ret;exact HF.out
 obtain rfl:c=C:=by omega
 go_wp2_with fail
 try dsimp only[Exit.noGoto]
 go_ret;exact⟨true,rfl,⟨fun _=>Gv.out,fun _=>rfl⟩,by rw[cP.out];exact H1.out.2⟩
theorem zeC(D:Dd)(hm:D.m<=100000)(hn:D.n<=100000)(w:World)(hD:DM w D):
  Calls prog 69 #[.agg D.cD] w (tY ((∀i,i<D.m->-1<=D.q i/\D.q i<32768)/\D.m=D.n) w):=by
 have HB:=hid (Zz (cm.new hD) (al w (.cells D.cD 39)));clear hD;go_enter func69,ntmps69;go_upto_region 1 with fail;generalize w.alloc (.cells D.cD 39)=W0 at HB⊢;obtain⟨b0,aD⟩:∃b0,w.heap.size=b0:=⟨_,rfl⟩
 have cP:=hid aD;rw[aD] at HB;rw[aD];clear aD;have f1:=HB.out.1.f1;have f2:=HB.out.1.f2;have Kr:=hid (show Below w.heap.size w W0 by rw[cP.out];exact HB.out.2);go_wp2_with fail;go_loopw [4,8] (fun _ v wr=>∃(k:Nat),v=.int .i64 k/\k<=D.m/\wr=W0/\Hid (∀i,i<k->-1<=D.q i/\D.q i<32768)) (fun _ v _=>D.m-(intOf v).toNat)
 ·exact⟨0,rfl,by omega,rfl,fun i h=>absurd h (by omega)⟩
 obtain⟨k,rfl,hk,rfl,HK⟩:=hrel;by_cases an:k<D.m
 ·obtain⟨gM,oM,eM,_,mo⟩:=HB.out.1.dm.rM (by omega);have cM:=mo k an;have i1:(k:Int)<(D.m:Int):=by omega
  rw[eM];have Qe:=hid eM;have HS:Hid (-1<=D.q k/\D.q k<32768->∀i,i<k+1->-1<=D.q i/\D.q i<32768):=fun h i hi=>by
   by_cases e:i=k
   ·subst e;exact h
   exact HK.out i (by omega)
  have gD:Hid ((∀i,i<D.m->-1<=D.q i/\D.q i<32768)->-1<=D.q k/\D.q k<32768):=fun h=>h k an
  clear mo eM;generalize D.q k=y at cM HS gD;by_cases h1:y < -1
  ·have i2:decide (y < -1)=true:=(by simp;omega);have HF:Hid (tY ((∀i,i<D.m->-1<=D.q i/\D.q i<32768)/\D.m=D.n) w (.returned (.bool false)) wr):=(⟨false,rfl,⟨(fun h=>by cases h),(fun h=>by have:=gD.out h.1;omega)⟩,Kr.out⟩);clear HS gD;go_wp2;go_ret;exact HF.out
  have i2:decide (y < -1)=false:=by simp;omega
  by_cases h2:32768<=y
  ·have i3:decide (32768<=y)=true:=(by simp;omega);have HF:Hid (tY ((∀i,i<D.m->-1<=D.q i/\D.q i<32768)/\D.m=D.n) w (.returned (.bool false)) wr):=(⟨false,rfl,⟨(fun h=>by cases h),(fun h=>by have:=gD.out h.1;omega)⟩,Kr.out⟩);clear HS gD;go_wp2;go_ret;exact HF.out
  have i3:decide (32768<=y)=false:=by simp;omega
  have oc:=hid (HS.out ⟨by omega,by omega⟩);clear HS gD;go_wp2;go_roundw
  ·exact⟨k+1,by go_num,by omega,by first|trivial|rfl,oc⟩
  simp[intOf];omega
 obtain rfl:k=D.m:=by omega
 by_cases jF:D.m=D.n
 ·have HF:Hid (tY ((∀i,i<D.m->-1<=D.q i/\D.q i<32768)/\D.m=D.n) w (.returned (.bool true)) wr):=⟨true,rfl,⟨fun _=>⟨HK.out,jF⟩,fun _=>rfl⟩,Kr.out⟩
  have i4:((D.m:Int) == (D.n:Int))=true:=by simp;omega
  go_wp2;go_ret
  first|exact HF.out|(rw[i4];exact HF.out)|(simp only[jF] at *;simpa using HF.out)
 have HF:Hid (tY ((∀i,i<D.m->-1<=D.q i/\D.q i<32768)/\D.m=D.n) w (.returned (.bool false)) wr):=⟨false,rfl,⟨(fun h=>by cases h),fun h=>absurd h.2 jF⟩,Kr.out⟩
 have i4:((D.m:Int) == (D.n:Int))=false:=by simp;omega
 go_wp2;go_ret
 first|exact HF.out|(rw[i4];exact HF.out)
theorem zfM(D:Dd)(C:Nat)(hC:Ag D.K C)(hn:D.n<=32768)(hl:∀i,i<D.n->D.len i<=100000)(w:World)(hD:DM w D):
  Calls prog 70 #[.agg D.cD] w (tY (∀i,i<D.n->D.len i=C/\∀c,c<C->-1<=D.nx i c/\D.nx i c<(D.n:Int)) w):=by
 have uN:C<=256:=by
  obtain⟨j,hj,e⟩:=hC.2;have:=hD.kl j hj;omega
 have HB:=hid (Zz (cm.new hD) (Zz (al w (.cells D.cD 39)) (Zz hC hl)));have dL:=vU D.K;clear hD hC hl;go_enter func70,ntmps70;go_upto_region 1 with fail;generalize w.alloc (.cells D.cD 39)=W0 at HB⊢;obtain⟨b0,aD⟩:∃b0,w.heap.size=b0:=⟨_,rfl⟩
 have cP:=hid aD;rw[aD] at HB;rw[aD];clear aD;have tr:=hid (Ez D.K C HB.out.2.2.1 HB.out.1.dm.kl W0);go_wp2_with (refine pM rfl 36 _ rfl ⟨b0,0,none⟩ rfl (aP D.K) (.array 256 5) HB.out.1.dC underlying36 rfl dL ?_);refine tr.out.mono ?_;rintro e w1 ⟨rfl,b1⟩;have H1:=hid (Zz (HB.out.1.ab b1) (HB.out.2.1.trans (b1.mono (by have:=HB.out.2.1.size;have:=cP.out;omega))));have yf:Hid (∀W',Below w1.heap.size w1 W'->∀bo:Bool,(bo=true↔(∀i,i<D.n->D.len i=C/\∀c,c<C->-1<=D.nx i c/\D.nx i c<(D.n:Int)))->tY (∀i,i<D.n->D.len i=C/\∀c,c<C->-1<=D.nx i c/\D.nx i c<(D.n:Int)) w (.returned (.bool bo)) W'):=fun W' h bo hb=>⟨bo,rfl,hb,by
  rw[cP.out]
  exact H1.out.2.trans (h.mono (by have:=H1.out.2.size;have:=cP.out;omega))⟩
 have f1:=H1.out.1.f1;clear b1 tr;by_cases kH:D.n=0
 ·have HF:=hid (yf.out w1 (Below.refl _ _) true ⟨fun _ i hi=>absurd hi (by omega),fun _=>rfl⟩);rw[kH] at f1;go_wp2_with fail;go_loopw [5,7,14,24] (fun _ _ v _ wr=>v=.int .i64 0/\wr=w1) (fun _ _ v _ _=>0)
  ·exact⟨rfl,rfl⟩
  obtain⟨rfl,rfl⟩:=hrel;go_wp2;go_ret;exact HF.out
 obtain⟨gN,oN,eN,lH,pv⟩:=H1.out.1.dm.rN (by omega);rw[eN] at f1;have z8:=hid eN;have rB:=hid pv;clear eN pv;go_wp2_with fail;go_loopw [5,7,14,24] (fun _ _ v _ wr=>∃(i:Nat),v=.int .i64 i/\i<=D.n/\Hid (Below w1.heap.size w1 wr)/\Hid (∀i',i'<i->D.len i'=C/\∀c,c<C->-1<=D.nx i' c/\D.nx i' c<(D.n:Int))) (fun _ _ v _ _=>D.n-(intOf v).toNat)
 ·exact⟨0,rfl,by omega,Below.refl _ _,fun i' h=>absurd h (by omega)⟩
 obtain⟨i,rfl,hi,HX,HI⟩:=hrel;clear f1;by_cases an:i<D.n
 ·have cN:=(HX.out.cell (p:=⟨gN,oN+i,none⟩) lH).trans (rB.out i an).1;have Ah:=hid (rB.out i an).2;have rW:=HB.out.2.2.2 i an;by_cases hlen:D.len i=C
  rotate_left
  ·have HF:=hid (yf.out wr HX.out false ⟨(fun h=>by cases h),(fun h=>absurd (h i an).1 hlen)⟩);obtain⟨ln,k8⟩:∃ln,D.len i=ln:=(⟨_,rfl⟩);rw[k8] at cN hlen rW;have i1:(i:Int)<(D.n:Int):=(by omega);have i2:((ln:Int) != (C:Int))=true:=by simp;omega
   try dsimp only at cN
   clear k8 Ah;go_wp2;go_ret;exact HF.out
  have HIs:Hid ((∀c,c<C->-1<=D.nx i c/\D.nx i c<(D.n:Int))->∀i',i'<i+1->D.len i'=C/\∀c,c<C->-1<=D.nx i' c/\D.nx i' c<(D.n:Int)):=fun h i' hi'=>by
   by_cases e:i'=i
   ·subst e;exact⟨hlen,h⟩
   exact HI.out i' (by omega)
  rw[hlen] at cN;rw[hlen] at Ah;have i1:(i:Int)<(D.n:Int):=by omega
  try dsimp only at cN
  clear hlen;go_wp2_with fail;go_loopw [7,24] (fun _ v wq=>∃(c:Nat),v=.int .i64 c/\c<=C/\Hid (Below w1.heap.size w1 wq)/\Hid (∀c',c'<c->-1<=D.nx i c'/\D.nx i c'<(D.n:Int))) (fun _ v _=>C-(intOf v).toNat)
  ·exact⟨0,rfl,by omega,HX,fun c' h=>absurd h (by omega)⟩
  clear HX cN;obtain⟨c,rfl,hc,HX,Gv⟩:=hrel;by_cases rT:c<C
  ·obtain⟨gA,oA,eA,Bv,mz⟩:=Ah.out (by omega);have cA:=(HX.out.cell (p:=⟨gA,oA+c,none⟩) Bv).trans (mz c rT);have i2:(c:Int)<C:=(by omega);have pg:=hid (H1.out.1.ab HX.out);have HS:Hid (-1<=D.nx i c/\D.nx i c<(D.n:Int)->∀c',c'<c+1->-1<=D.nx i c'/\D.nx i c'<(D.n:Int)):=fun h c' hc'=>by
    by_cases e:c'=c
    ·subst e;exact h
    exact Gv.out c' (by omega)
   have gD:Hid ((∀i,i<D.n->D.len i=C/\∀c,c<C->-1<=D.nx i c/\D.nx i c<(D.n:Int))->-1<=D.nx i c/\D.nx i c<(D.n:Int)):=(fun h=>(h i an).2 c rT);rw[eA];have Hj:=hid eA;clear mz eA;generalize D.nx i c=t at cA HS gD;by_cases ht:t=-1
   ·subst ht;have oc:=hid (HS.out ⟨by omega,by omega⟩);clear HS gD;go_wp2;go_roundw
    ·exact⟨c+1,by go_num,by omega,HX,oc⟩
    simp[intOf];omega
   have Hc:(t != (-1:Int))=true:=(by simp[ht]);have mB:=hid (I7 D t wr pg.out.dm);by_cases yJ:0<=t/\t<(D.n:Int)
   ·have Iu:Hid (decide (0<=t/\t<(D.n:Int))=true):=(by show _=_;simp;omega);have oc:=hid (HS.out ⟨by omega,by omega⟩);clear HS gD;go_wp2_with (refine kc (by first|rfl|(simp[ht];done)) 39 _ rfl ⟨b0,0,none⟩ rfl D.cD _ pg.out.st.part underlying39 rfl pg.out.dm.info ?_);refine mB.out.mono ?_;rintro e w5 ⟨rfl,b5⟩;have Qa:=hid (HX.out.trans (b5.mono HX.out.size));rw[Iu.out];clear b5 mB;go_wp2;go_roundw
    ·exact⟨c+1,by go_num,by omega,Qa,oc⟩
    simp[intOf];omega
   have Iu:Hid (decide (0<=t/\t<(D.n:Int))=false):=(by show _=_;simp;omega);have oc:Hid (¬(∀i,i<D.n->D.len i=C/\∀c,c<C->-1<=D.nx i c/\D.nx i c<(D.n:Int))):=(fun h=>by have:=gD.out h;omega);clear HS gD;go_wp2_with (refine kc (by first|rfl|(simp[ht];done)) 39 _ rfl ⟨b0,0,none⟩ rfl D.cD _ pg.out.st.part underlying39 rfl pg.out.dm.info ?_);refine mB.out.mono ?_;rintro e w5 ⟨rfl,b5⟩;have HF:=hid (yf.out w5 (HX.out.trans (b5.mono HX.out.size)) false ⟨(fun h=>by cases h),(fun h=>absurd h oc.out)⟩);rw[Iu.out];clear b5 mB;go_wp2;go_ret;exact HF.out
  obtain rfl:c=C:=by omega
  have oc:=hid (HIs.out Gv.out);go_wp2;go_roundw
  ·exact⟨i+1,by go_num,by omega,HX,oc⟩
  simp[intOf];omega
 obtain rfl:i=D.n:=by omega
 have HF:=hid (yf.out wr HX.out true ⟨fun _=>HI.out,fun _=>rfl⟩);go_wp2;go_ret;exact HF.out
theorem Y5{K:Nat->Nat}{C C':Nat}(h:Ag K C)(h':Ag K C'):C=C':=by
 obtain⟨j,hj,e⟩:=h.2;obtain⟨j',Ea,e'⟩:=h'.2;have h1:=h.1 j' Ea;have h2:=h'.1 j hj;omega
theorem zjO(D:Dd)(hn:D.n<=32768)(hm:D.m<=100000)(hl:∀i,i<D.n->D.len i<=100000)(w:World)(hD:DM w D):
  Calls prog 43 #[.agg D.cD] w (tY (∃C,DR D C) w):=by
 obtain⟨C,hC⟩:=zqO D.K;have HB:=hid (Zz (cm.new hD) (Zz (al w (.cells D.cD 39)) (Zz hC hl)));have dL:=vU D.K;clear hD hC hl;go_enter func43,ntmps43;go_upto_region 1 with fail;generalize w.alloc (.cells D.cD 39)=W0 at HB⊢;obtain⟨b0,aD⟩:∃b0,w.heap.size=b0:=⟨_,rfl⟩
 have cP:=hid aD;rw[aD] at HB;rw[aD];clear aD;have f1:=HB.out.1.f1;have qH:b0<=W0.heap.size:=by have:=HB.out.2.1.size;have:=cP.out;omega
 have yf:Hid (∀W',Below W0.heap.size W0 W'->∀bo:Bool,(bo=true↔∃C,DR D C)->tY (∃C,DR D C) w (.returned (.bool bo)) W'):=fun W' h bo hb=>⟨bo,rfl,hb,by
  rw[cP.out]
  exact HB.out.2.1.trans (h.mono qH)⟩
 by_cases cZ:D.n<1
 ·have HF:=hid (yf.out W0 (Below.refl _ _) false ⟨(fun h=>by cases h),(fun h=>by
   obtain⟨C',h⟩:=h
   have:=h.n1
   omega)⟩)
  have i1:((D.n:Int)<1):=by omega
  go_wp2;go_ret;exact HF.out
 have i1:¬((D.n:Int)<1):=by omega
 have i2:¬((32768:Int)<(D.n:Int)):=by omega
 have JK:=hid (zdA D.K C HB.out.2.2.1 HB.out.1.dm.kl W0);go_wp2_with (refine pM rfl 36 _ rfl ⟨b0,0,none⟩ rfl (aP D.K) (.array 256 5) HB.out.1.dC underlying36 rfl dL ?_);refine JK.out.mono ?_;rintro e w1 ⟨bo,rfl,rS,b1⟩;have Hg:=hid rS;have H1:=hid (Zz (HB.out.1.ab b1) b1);have EZ:=hid (zeC D hm (by omega) w1 H1.out.1.dm);clear b1 JK rS;rcases bo with _|_
 ·have HF:=hid (yf.out w1 H1.out.2 false ⟨(fun h=>by cases h),(fun h=>by
   obtain⟨C',h⟩:=h
   have e:=Y5 h.c HB.out.2.2.1
   subst e
   exact Hg.out.2 h.zy)⟩)
  clear f1;go_wp2;go_ret;exact HF.out
 clear f1;go_wp2_with (refine kc (by rfl) 39 _ rfl ⟨b0,0,none⟩ rfl D.cD _ H1.out.1.st.part underlying39 rfl H1.out.1.dm.info ?_);refine EZ.out.mono ?_;rintro e w2 ⟨bo,rfl,rS,b2⟩;have Hq:=hid rS;have H2:=hid (Zz (H1.out.1.ab b2) (H1.out.2.trans (b2.mono H1.out.2.size)));have vz:=hid (zfM D C HB.out.2.2.1 hn HB.out.2.2.2 w2 H2.out.1.dm);clear b2 EZ rS;rcases bo with _|_
 ·have HF:=hid (yf.out w2 H2.out.2 false ⟨(fun h=>by cases h),(fun h=>by
   obtain⟨C',h⟩:=h
   exact Hq.out.2 ⟨fun i hi=>h.q i (by have:=h.m;omega),h.m⟩)⟩)
  go_wp2;go_ret;exact HF.out
 go_wp2_with (refine kc (by rfl) 39 _ rfl ⟨b0,0,none⟩ rfl D.cD _ H2.out.1.st.part underlying39 rfl H2.out.1.dm.info ?_);refine vz.out.mono ?_;rintro e w3 ⟨bo,rfl,rS,b3⟩;have HF:=hid (yf.out w3 (H2.out.2.trans (b3.mono H2.out.2.size)) bo ⟨(fun h=>by
  have h3:=rS.1 h
  have h2:=Hq.out.1 (by first|rfl|trivial)
  exact⟨C,HB.out.2.2.1,by omega,hn,h2.2,Hg.out.1 (by first|rfl|trivial),fun i hi=>(h3 i hi).1,fun i hi=>h2.1 i (by have:=h2.2;omega),fun i c hi hc=>(h3 i hi).2 c hc⟩),(fun h=>by
  obtain⟨C',h⟩:=h
  have e:=Y5 h.c HB.out.2.2.1
  subst e
  exact rS.2 (fun i hi=>⟨h.len i hi,fun c hc=>h.nx i c hi hc⟩))⟩)
 clear b3 vz rS;go_wp2;go_ret;exact HF.out
theorem zhB(n:Nat)(hn:n<=1000000)(W:World):(Instr.makeSlice 86 (.int .i64 0) (.int .i64 (n:Int))).run prog W=.ok (.slice (some ⟨W.heap.size,0,none⟩) 0 n) (W.alloc (.cells (madeCells #[.int .u8 0] n) 5)):=by
 obtain⟨i0,hi,du,cH,ct⟩:=info_parts kZ;have h:=run_makeSlice (P:=prog) W 86 5 i0 (.int .u8 0) underlying86 hi du .i64 .i64 0 (n:Int) (by omega) (by omega) (by rw[cH];simp;omega) (by rw[ct];omega) (by omega);have e:(Value.int .u8 0).cells=#[.int .u8 0]:=rfl;rw[cH,e] at h;simpa using h
theorem zd8(n:Nat)(hn:n<=1000000)(W:World)(B:Nat)(hB:B<=W.heap.size):(W.alloc (.cells (madeCells #[.int .u8 0] n) 5)).ownsRow B 5 1 (.slice (some ⟨W.heap.size,0,none⟩) 0 n) 0 []:=
 World.ownsRow_made W _ n hB (by unfold maxLen;omega) (by have:=size_madeCells #[Value.int .u8 0] n;simpa using this)
theorem cell_two_new(w:World)(a b:Value)(t:TypeId):∀j u,[a,b][j]?=some u->(w.alloc (.cells #[a,b] t)).cell? ((⟨w.heap.size,0,none⟩:Addr).add j)=some u:=by
 intro j u h;have hS:=(St.new w t #[a,b]).part;exact hS j u h
theorem zhC(n:Nat)(hn:2*n<=1000000)(W:World):(Instr.makeSlice 86 (.int .i64 0) (.int .i64 (2*(n:Int)))).run prog W=.ok (.slice (some ⟨W.heap.size,0,none⟩) 0 (2*n)) (W.alloc (.cells (madeCells #[.int .u8 0] (2*n)) 5)):=by
 have h:=zhB (2*n) hn W;rwa [show ((2*n:Nat):Int)=2*(n:Int) by omega] at h
def qJ(D:Dd)(k:Nat):Value:=.string (strOf (ji (fun i=>D.nx i k) D.n))
theorem DM.rowAt{w:World}{D:Dd}(h:DM w D){g off:Nat}(e:D.aN=some ⟨g,off,none⟩){i:Nat}(hi:i<D.n):w.cell? ⟨g,off+i,none⟩=some (.slice (D.A i) (D.len i) (D.Cp i))/\kE w (D.A i) (D.len i) (D.nx i):=by
 obtain⟨g',kj,e',_,h1,h2⟩:=h.row i hi;rw[e] at e';injection e' with e';injection e' with e1 e2;subst e1 e2;exact⟨h1,h2⟩
def Wh(D:Dd)(C:Nat)(w:World)(e:Ending)(w':World):Prop:=
 ∃(a:Option Addr) (c:Nat),e=.returned (.slice a C c)/\w'.ownsRow w.heap.size 9 1 (.slice a C c) C ((range C).map (qJ D))/\Below w.heap.size w w'
theorem zm4(x:Int):IntKind.u16.wrap x=((lX x:Nat):Int):=by
 have h:IntKind.u16.wrap x=x % 65536:=by simp[wrap,IntKind.bits,signed]
 rw[h];unfold lX;omega
theorem zm5(z:Nat->Int)(i y:Nat)(hy:lX (z i)=y):lI (ji z (i+1))=lI (ji z i)++[.int .u8 ((y:Int) % 256),.int .u8 ((y:Int) / 256)]:=by
 subst hy;rw[ji,lI,map_append];congr 1
theorem zfI(D:Dd)(C:Nat)(hR:DR D C)(w:World)(hD:DM w D):Calls prog 91 #[.agg D.cD] w (Wh D C w):=by
 have cQ:=hR.n2;have cZ:=hR.n1;have uN:=(hR.jn hD.kl).2;have fu:=zhC D.n (by omega);have hk:=hD.kl;have HB:=hid (Zz (cm.new hD) (Zz (al w (.cells D.cD 39)) hR));obtain⟨iU,hU,hU0,hU1,hU2⟩:=info_parts kZ;obtain⟨iS,hS,hS0,Kj,hS2⟩:=info_parts oI;clear hD hR;go_enter func91,ntmps91;go_upto_region 1 with fail;generalize w.alloc (.cells D.cD 39)=W0 at HB⊢;obtain⟨b0,aD⟩:∃b0,w.heap.size=b0:=⟨_,rfl⟩
 rw[aD] at HB;rw[aD];have cP:=hid aD;clear aD;have tr:=hid (Ez D.K C HB.out.2.2.c hk W0);go_wp2_with (refine pM rfl 36 _ rfl ⟨b0,0,none⟩ rfl (aP D.K) (.array 256 5) HB.out.1.dC underlying36 rfl (vU D.K) ?_);refine tr.out.mono ?_;rintro e w1 ⟨rfl,b1⟩;have HG1:Hid (w.heap.size<=W0.heap.size):=show w.heap.size<=W0.heap.size by have:=HB.out.2.1.size;have:=cP.out;omega
 have r8:Hid (w1.ownsRow W0.heap.size 9 1 (.slice none 0 0) 0 ((range 0).map (qJ D))/\Below W0.heap.size W0 w1):=⟨World.ownsRow_nil _ _ _ _,b1⟩
 clear b1 tr;go_wp2_with fail;go_loopw [3,4,5,7,8,12] (fun v3 _ _ _ _ vk wr=>∃(k:Nat) (a3:Option Addr) (c3:Nat),v3=.slice a3 k c3/\vk=.int .i64 k/\k<=C/\Hid (wr.ownsRow W0.heap.size 9 1 v3 k ((range k).map (qJ D))/\Below W0.heap.size W0 wr)) (fun _ _ _ _ _ v _=>C-(intOf v).toNat)
 ·exact⟨0,none,0,rfl,rfl,Nat.zero_le _,r8.out⟩
 clear r8;obtain⟨k,a3,c3,rfl,rfl,eQ,HL⟩:=hrel;by_cases an:k<C
 ·have zT:=hid (HB.out.1.ab HL.out.2);have f1:=zT.out.f1;obtain⟨gN,oN,eN,lH,_,_⟩:=zT.out.dm.row 0 (by omega);rw[eN] at f1;have z8:=hid (Zz eN lH);have i1:(k:Int)<C:=by omega
  have Ix:=hid (zd8 (2*D.n) (by omega) wr wr.heap.size (Nat.le_refl _));have oD:=hid (al wr (.cells (madeCells #[.int .u8 0] (2*D.n)) 5));clear eN lH;go_upto_region 6 with fail;obtain⟨g,hg⟩:∃g,wr.heap.size=g:=⟨_,rfl⟩
  have j4:Hid ((wr.alloc (.cells (madeCells #[.int .u8 0] (2*D.n)) 5)).ownsRow g 5 1 (.slice (some ⟨g,0,none⟩) 0 (2*D.n)) 0 (lI (ji (fun i=>D.nx i k) 0))/\Below g wr (wr.alloc (.cells (madeCells #[.int .u8 0] (2*D.n)) 5))):=by
   rw[<-hg];exact⟨Ix.out,oD.out⟩
  have Hg:=hid hg;have GH:=(oD.out.cell (p:=⟨b0,256,none⟩) zT.out.st.lt).trans f1
  try rw[hg]
  clear Ix oD hg f1;generalize wr.alloc (.cells (madeCells #[.int .u8 0] (2*D.n)) 5)=W6 at j4 GH⊢;obtain⟨wo,JW⟩:∃wo,wo=wr:=⟨wr,rfl⟩
  subst JW;go_wp2_with fail;go_loopw [5,7,8,23] (fun v5 _ _ vi wq=>∃(i:Nat) (a5:Option Addr) (c5:Nat),v5=.slice a5 (2*i) c5/\vi=.int .i64 i/\i<=D.n/\Hid (wq.ownsRow g 5 1 v5 (2*i) (lI (ji (fun i=>D.nx i k) i))/\Below g wo wq)) (fun _ _ _ v _=>D.n-(intOf v).toNat)
  ·exact⟨0,_,_,rfl,rfl,Nat.zero_le _,j4⟩
  clear j4 GH;obtain⟨i,a5,c5,rfl,rfl,hi,HA⟩:=hrel;have kJ:Hid (Below wo.heap.size wo wr):=by rw[Hg.out];exact HA.out.2
  have HBq:=hid (zT.out.ab kJ.out);by_cases rW:i<D.n
  ·obtain⟨qj,zN⟩:=HBq.out.dm.rowAt z8.out.1 rW;rw[HB.out.2.2.len i rW] at qj zN;obtain⟨gr,or9,eA,nQ,cz⟩:=zN (by omega);rw[eA] at qj;have cz1:=cz k an;have i2:(i:Int)<(D.n:Int):=(by omega);obtain⟨x,hx⟩:∃x,D.nx i k=x:=(⟨_,rfl⟩);have Hx:=hid hx;rw[hx] at cz1;clear zN eA cz nQ hx;have hW:=zm4 x;obtain⟨y,hy⟩:∃y:Nat,lX x=y:=(⟨_,rfl⟩);have Hy:=hid (zm5 (fun i=>D.nx i k) i y (by show lX (D.nx i k)=y;rw[Hx.out];exact hy));rw[hy] at hW;have Ev:y<65536:=(by rw[<-hy];exact MJ x);clear hy;have Af:=HA.out.1;have hgs9:g<=wr.heap.size:=(by have:=HA.out.2.size;have:=Hg.out;omega);go_wp2_with (at_builtin;refine wpList_append_own_at _ rfl _ _ 86 rfl g 5 iU (.int .u8 0) 1 1 underlying86 hU hU0 hU1 hU2 rfl (by decide) _ _ _ rfl (Af.alloc _) ⟨wr.heap.size,0,none⟩ 2 2 [.int .u8 ((y:Int) % 256),.int .u8 ((y:Int) / 256)] rfl rfl (cell_two_new _ _ _ _) ?d2 ?d3 ?d4 ?d5 ?_)
   case d2=>first|(intro u hu;simp at hu;rcases hu with rfl|rfl <;> rfl)|rfl
   case d3=>unfold maxLen;omega
   case d4=>omega
   case d5=>first|(simp;omega)|omega
   intro v' w5 ah ag _ bG;obtain⟨a6,c6,rfl⟩:=bJ ah;have HF:Hid (w5.ownsRow g 5 1 (.slice a6 (2*i+2) c6) (2*i+2) (lI (ji (fun i=>D.nx i k) (i+1)))/\Below g wo w5):=by
    have k9:=al wr (.cells #[.int .u8 ((y:Int) % 256),.int .u8 ((y:Int) / 256)] 5);have WM:g<=wr.heap.size:=(by have:=HA.out.2.size;have:=Hg.out;omega);refine⟨?_,fC (HA.out.2.trans (k9.mono WM)) (cW HA.out.1 k9) (by simp;omega) ag⟩;rw[Hy.out];exact ah
   clear ah ag bG Af;go_wp2;go_roundw
   ·exact⟨i+1,a6,c6,rfl,by go_num,by omega,HF.out⟩
   simp[intOf];omega
  obtain rfl:i=D.n:=by omega
  have hcv:=LM (HA.out.1) (by rw[Nt]);have RL:=cW HL.out.1 kJ.out;have Ps:=kJ.out;have hs9:W0.heap.size<=wr.heap.size:=by have:=Ps.size;have:=HL.out.2.size;omega
  go_wp2_with (at_builtin;refine wpList_append_own_at _ rfl _ _ 122 rfl W0.heap.size 9 iS (.string ⟨#[]⟩) 1 16 underlying122 hS hS0 Kj hS2 rfl (by decide) _ _ _ rfl (RL.alloc _) ⟨wr.heap.size,0,none⟩ 1 1 [qJ D k] rfl rfl (cell_one_new _ _ _) ?d2 ?d3 ?d4 ?d5 ?_)
  case d2=>first|(intro u hu;simp at hu;subst hu;rfl)|rfl
  case d3=>unfold maxLen;omega
  case d4=>omega
  case d5=>first|(simp;omega)|omega
  intro v' w5 ah ag _ bG;obtain⟨a6,c6,rfl⟩:=bJ ah;have HF:Hid (w5.ownsRow W0.heap.size 9 1 (.slice a6 (k+1) c6) (k+1) ((range (k+1)).map (qJ D))/\Below W0.heap.size W0 w5):=by
   have k9:=al wr (.cells #[qJ D k] 9);have nJ:=HL.out.2.size;have kI:=Ps.size;refine⟨?_,fC ((HL.out.2.trans (Ps.mono nJ)).trans (k9.mono (by omega))) (cW RL k9) (by simp;omega) ag⟩;rw[List.range_succ,map_append];exact ah
  clear ah ag bG RL;go_wp2;go_roundw
  ·exact⟨k+1,a6,c6,rfl,by go_num,by omega,HF.out⟩
  simp[intOf];omega
 obtain rfl:k=C:=by omega
 have HF:Hid (Wh D k w (.returned (.slice a3 k c3)) wr):=by
  have h1:=HB.out.2.1;have h2:=HL.out.2;have h3:=HG1.out;have hs:=h1.size;have nJ:=cP.out;rw[<-nJ] at h1;exact⟨a3,c3,rfl,gE HL.out.1 h3,h1.trans (h2.mono (by omega))⟩
 clear HL;go_wp2;go_ret;exact HF.out
theorem UR:∀j,j<256->(zC 39)[j]?=some (.int .u8 0):=by
 have h:(range 256).all (fun j=>match (zC 39)[j]? with|some (.int .u8 0)=>true|_=>false)=true:=by kernel_rfl
 intro j hj;have h1:=List.all_eq_true.1 h j (by simpa using hj);split at h1
 ·rename_i e;rw[e]
 cases h1
theorem zjG(b:Option Addr)(m d:Nat)(W:World):(Instr.build 39 #[(2,.slice b m d)]).run prog W=.ok (.agg (dE (fun _=>0) (.slice none 0 0) (.slice b m d))) W:=by
 have e:prog.built 39 [(2,.slice b m d)]=Instr.fill (fun i=>#[(0,256),(256,1),(257,1)][i]?) (zC 39) [(2,.slice b m d)]:=by kernel_rfl
 have hz:=ir;obtain⟨d1,d2⟩:=E3;obtain⟨q1,q2⟩:=ym (zC 39) #[.slice b m d] 257 (by rw[hz];simp);rw[yl _ _ 2 257 1 (.slice b m d) [] (by rfl) (by rfl) (by rw[hz];omega)] at e;rw[show (Value.slice b m d).cells=#[.slice b m d] from rfl] at e;simp only[List.size_toArray,List.length_cons,List.length_nil] at q2;have e4:putAt (zC 39) #[.slice b m d] 257=dE (fun _=>0) (.slice none 0 0) (.slice b m d):=by
  refine BC _ _ _ _ (by rw[q1,hz]) (fun j hj=>by rw[q2,if_neg (by omega),UR j hj];rfl) (by rw[q2,if_neg (by omega),d1]) (by rw[q2,if_pos (by omega)];rfl)
 rw[e4] at e;exact run_build W _ _ _ e
theorem XW(K:Nat->Nat)(vN vK:Value)(j v:Nat)(hj:j<256):(dE K vN vK).setIfInBounds j (.int .u8 (v:Int))=dE (fun i=>if i=j then v else K i) vN vK:=by
 refine BC _ vN vK _ (by rw[Array.size_setIfInBounds,mA]) (fun i hi=>?_) ?_ ?_
 ·by_cases e:i=j
  ·subst e;rw[Array.getElem?_setIfInBounds_self_of_lt (by rw[mA];omega),if_pos rfl]
  rw[Array.getElem?_setIfInBounds_ne (fun h=>e h.symm),zQ K vN vK i hi,if_neg e]
 ·rw[Array.getElem?_setIfInBounds_ne (by omega),p7]
 rw[Array.getElem?_setIfInBounds_ne (by omega),yh]
theorem Wd{f g:Nat->Nat}:∀i,(∀j,j<i->f j=g j)->bD f i=bD g i:=by
 intro i
 induction i with
 | zero=>intro _;rfl
 | succ i ih=>
  intro h;have e:=ih (fun j hj=>h j (by omega));show (if f i<(bD f i).length then bD f i else bD f i++[i])=if g i<(bD g i).length then bD g i else bD g i++[i]
  rw[e,h i (by omega)]
def cS(D:Dd)(c:Nat):ByteArray:=strOf (ji (fun i=>D.nx i c) D.n)
theorem zqn(D:Dd)(c:Nat):(cS D c).size=2*D.n:=by unfold cS;rw[yM,Nt]
theorem zqT{D:Dd}{C:Nat}(hR:DR D C){a b:Nat}(ha:a<C)(hb:b<C):cS D a=cS D b↔∀i,i<D.n->D.nx i a=D.nx i b:=by
 have cQ:=hR.n2;rw[<-zmP (n:=D.n) (z:=fun i=>D.nx i a) (z':=fun i=>D.nx i b) (fun i hi=>by have:=hR.nx i a hi ha;omega) (fun i hi=>by have:=hR.nx i b hi hb;omega)];unfold cS;constructor
 ·intro h;have h1:=congrArg (fun s:ByteArray=>s.data.toList) h;simp only[yD] at h1;exact QL (Ue _ _) (Ue _ _) h1
 intro h;rw[h]
def KL(nm:List ByteArray)(key val:Value):Prop:=∃(b:Nat) (s:ByteArray),nm[b]?=some s/\key=.string s/\val=.int .u8 ((b:Nat):Int)
theorem zhD(W:World):(Instr.makeMap 139 none).run prog W=.ok (.map (some W.heap.size)) (W.alloc (.map #[] 0)):=by
 kernel_rfl
theorem zm6(w:World):(zeroValue 5).run prog w=.ok (.int .u8 0) w:=by kernel_rfl
structure pT (W0:World)(D:Dd)(C bM b4:Nat)(vC:Value)(k:Nat)(v6:Value)(nm:List ByteArray)(g:Nat->Nat)(w:World):Prop where
 bb:Below W0.heap.size W0 w
 map:dP w 9 bM nm.length (KL nm)
 kept:w.ownsRow W0.heap.size 3 1 v6 nm.length (cO ((bD g k).map D.K))
 kl:(bD g k).length=nm.length
 st:St w 39 b4 (dE (fun j=>if j<k then g j else 0) (.slice none 0 0) (.slice D.aM D.m D.cM))
 BY:w.ownsRow W0.heap.size 9 1 vC C ((range C).map (qJ D))
 at_:∀i,i<k->nm[g i]?=some (cS D (D.K i))
 num:fD (js D D.n) k g nm.length
 Nx:W0.heap.size<=bM
 GC:W0.heap.size<=b4
 nk:nm.length<=k
section
variable {W0 : World}{D : Dd}{C bM b4 : Nat}{vC : Value}{k : Nat}{v6 : Value}{nm : List ByteArray}{g : Nat → Nat}{w : World}
theorem pT.mem(h:pT W0 D C bM b4 vC k v6 nm g w)(s:ByteArray):s∈nm↔∃i,i<k/\cS D (D.K i)=s:=by
 constructor
 ·intro hm;obtain⟨b,hb,e⟩:=List.getElem_of_mem hm;obtain⟨i,h1,h2,_⟩:=h.num.new b hb;refine⟨i,h1,?_⟩;have:=h.at_ i h1;rw[h2,List.getElem?_eq_getElem hb,e] at this;exact (Option.some.inj this).symm
 rintro⟨i,hi,rfl⟩;exact List.mem_of_getElem? (h.at_ i hi)
theorem pT.look(h:pT W0 D C bM b4 vC k v6 nm g w)(s:ByteArray)(hs:s.size<=1000000):
  (∃b,nm[b]?=some s/\(Instr.lookup 139 (.map (some bM)) (.string s) true).run prog w=.ok (.tuple #[.int .u8 ((b:Nat):Int),.bool true]) w)\/
  (s∉nm/\(Instr.lookup 139 (.map (some bM)) (.string s) true).run prog w=.ok (.tuple #[.int .u8 0,.bool false]) w):=by
 rcases h.map.ex.np Ct underlying139 (zm6 w) (Go.WideMaps.keyOf_string_mk underlying9 (s:=s) (by unfold maxLen;omega)) with ⟨cj,gW⟩|⟨v,⟨b,s',h1,h2,rfl⟩,cj⟩
 ·refine Or.inr ⟨fun hm=>?_,cj⟩;obtain⟨b,hb,e⟩:=List.getElem_of_mem hm;exact gW _ ⟨b,s,by rw[List.getElem?_eq_getElem hb,e],rfl,rfl⟩
 injection h2 with h2;exact Or.inl ⟨b,by rw[h2];exact h1,cj⟩
theorem pT.put(h:pT W0 D C bM b4 vC k v6 nm g w)(s:ByteArray)(hs:s.size<=1000000)(hn:nm.length<maxLen)(hb:s∉nm):
  ∃w',(Instr.mapUpdate 139 (.map (some bM)) (.string s) (.int .u8 (nm.length:Int))).run prog w=.ok () w'/\dP w' 9 bM (nm.length+1) (KL (nm++[s]))/\w.grownBy w' (some bM):=by
 refine h.map.update Ct underlying139 hn (Go.WideMaps.keyOf_string_mk underlying9 (s:=s) (by unfold maxLen;omega)) ?_ ?_ ?_ ?_
 ·rintro y ⟨k,s',h1,h2,_⟩;injection h2 with h2;rw[<-h2] at h1;exact hb (List.mem_of_getElem? h1)
 ·rintro a b ⟨k,s',h1,h2,h3⟩;exact⟨k,s',by rw[List.getElem?_append_left (List.getElem?_eq_some_iff.1 h1).1];exact h1,h2,h3⟩
 ·exact⟨nm.length,s,by simp,rfl,rfl⟩
 rintro a b ⟨k,s',h1,h2,h3⟩ hne;by_cases e:k<nm.length
 ·rw[List.getElem?_append_left e] at h1;exact⟨b,k,s',h1,h2,h3⟩
 rw[List.getElem?_append_right (by omega)] at h1;cases hj:k-nm.length with
 | zero=>rw[hj] at h1;simp at h1;exact absurd (by rw[h2,h1]) hne
 | succ j=>rw[hj] at h1;simp at h1
theorem YB(g:Nat->Nat)(k b:Nat):(fun i=>if i=k then b else if i<k then g i else 0)=fun j=>if j<k+1 then (if j=k then b else g j) else 0:=by
 funext i;by_cases e:i=k
 ·rw[if_pos e,if_pos (by omega),if_pos e]
 rw[if_neg e];by_cases e2:i<k
 ·rw[if_pos e2,if_pos (by omega),if_neg e]
 rw[if_neg e2,if_neg (by omega)]
theorem TZ(hR:DR D C){a b:Nat}(ha:a<256)(hb:b<256):cS D (D.K a)=cS D (D.K b)↔js D D.n a b:=zqT hR (hR.c.1 a ha) (hR.c.1 b hb)
theorem dP.set{w:World}{k:TypeId}{b n t g i:Nat}{u:Value}{cs:Array Value}{Q:Value->Value->Prop}(h:dP w k b n Q)(h':St w t g cs):dP (w.setCell ⟨g,i,none⟩ u) k b n Q:=by
 refine h.same (Below.heap_setCell _ _ _ _ ?_);intro e;obtain⟨es,clock,hb,_⟩:=h;have h2:w.heap[g]?=_:=h';rw[show b=g from e,h2] at hb;cases hb
theorem pT.lf{b:Nat}(hR:DR D C)(hk:k<256)(h:pT W0 D C bM b4 vC k v6 nm g w)(hb:nm[b]?=some (cS D (D.K k))):
  ∃g',pT W0 D C bM b4 vC (k+1) v6 nm g' (w.setCell ⟨b4,k,none⟩ (.int .u8 (b:Int))):=by
 have gk:b<nm.length:=(List.getElem?_eq_some_iff.1 hb).1;obtain⟨i,h1,h2,_⟩:=h.num.new b gk;have hi:=h.at_ i h1;rw[h2,hb] at hi;have hi:=Option.some.inj hi;have hE:js D D.n i k:=(TZ hR (by omega) hk).1 hi.symm;have zM:bD (fun j=>if j=k then b else g j) (k+1)=bD g k:=by
  have e0:bD (fun j=>if j=k then b else g j) k=bD g k:=Wd k (fun j hj=>by simp only[if_neg (show ¬j=k by omega)]);rw[CW (f:=fun j=>if j=k then b else g j) (by rw[e0,h.kl];simp only[if_pos rfl];exact gk),e0]
 refine⟨fun j=>if j=k then b else g j,h.bb.setCell (p:=⟨b4,k,none⟩) h.GC _,h.map.set h.st,by rw[zM];exact jt h.kept h.st (by decide) _ _,by rw[zM];exact h.kl,?_,jt h.BY h.st (by decide) _ _,fun j hj=>?_,?_,h.Nx,h.GC,by have:=h.nk;omega⟩
 ·have:=h.st.set k (.int .u8 (b:Int));rw[XW _ _ _ k b hk,YB] at this;exact this
 ·by_cases e:j=k
  ·simp only[if_pos e];rw[e];exact hb
  simp only[if_neg e];exact h.at_ j (by omega)
 have:=h.num.lf (fun i j e x hx=>(e x hx).symm) (fun i j l e e2 x hx=>(e x hx).trans (e2 x hx)) (fun i x hx=>rfl) h1 hE;rw[h2] at this;exact this
theorem pT.fresh{w1 w2 w3:World}{EU:Value}(hR:DR D C)(hk:k<256)(h:pT W0 D C bM b4 vC k v6 nm g w)(hb:cS D (D.K k)∉nm)(hm:dP w1 9 bM (nm.length+1) (KL (nm++[cS D (D.K k)])))(lE:w.grownBy w1 (some bM))
  (k2:Below w1.heap.size w1 w2) (hg:w2.grownBy w3 v6.ownBlock) (ho:w3.ownsRow W0.heap.size 3 1 EU (nm.length+1) (cO ((bD g k).map D.K)++[.int .i64 ((D.K k:Nat):Int)])):
  ∃g',pT W0 D C bM b4 vC (k+1) EU (nm++[cS D (D.K k)]) g' (w3.setCell ⟨b4,k,none⟩ (.int .u8 (nm.length:Int))):=by
 have l8:Below W0.heap.size W0 w1:=h.bb.grown lE h.bb.size (fun g e=>by injection e with e;rw[<-e];exact h.Nx);have mK:=l8.trans (k2.mono l8.size);have o2:=cW (wI h.kept h.map.ex.of lE) k2;have c2:=cW (wI h.BY h.map.ex.of lE) k2;have m2:=hm.same (k2.block _ hm.lt);have s2:=(h.st.dY h.map.ex.of lE).ab k2;have s3:=s2.ae o2 (by decide) hg;have m3:=m2.ae o2 hg;have c3:=qM c2 hg (fun b e e2=>iy c2 o2 (by decide) b e e2.symm);have B3:=fC mK o2 mK.size hg;have zM:bD (fun j=>if j=k then nm.length else g j) (k+1)=bD g k++[k]:=by
  have e0:bD (fun j=>if j=k then nm.length else g j) k=bD g k:=Wd k (fun j hj=>by simp only[if_neg (show ¬j=k by omega)]);rw[Cg (f:=fun j=>if j=k then nm.length else g j) (by rw[e0,h.kl];show ¬(if k=k then nm.length else g k)<nm.length;rw[if_pos rfl];omega),e0]
 have hlen:(nm++[cS D (D.K k)]).length=nm.length+1:=by simp
 refine⟨fun j=>if j=k then nm.length else g j,B3.setCell (p:=⟨b4,k,none⟩) h.GC _,by rw[hlen];exact m3.set s3,?_,by rw[zM,hlen,List.length_append,h.kl];rfl,?_,jt c3 s3 (by decide) _ _,fun j hj=>?_,?_,h.Nx,h.GC,by rw[hlen];have:=h.nk;omega⟩
 ·rw[zM,hlen,map_append,show cO ((bD g k).map D.K++[k].map D.K)=cO ((bD g k).map D.K)++[.int .i64 ((D.K k:Nat):Int)] by simp[cO]];exact jt ho s3 (by decide) _ _
 ·have:=s3.set k (.int .u8 (nm.length:Int));rw[XW _ _ _ k _ hk,YB] at this;exact this
 ·by_cases e:j=k
  ·simp only[if_pos e];rw[e];simp
  simp only[if_neg e];have:=h.at_ j (by omega);rw[List.getElem?_append_left (List.getElem?_eq_some_iff.1 this).1];exact this
 rw[hlen];exact h.num.fresh (fun i j e x hx=>(e x hx).symm) (fun i x hx=>rfl) (fun i hi e=>hb ((h.mem _).2 ⟨i,hi,(TZ hR (by omega) hk).2 e⟩))
end
structure sZ (W0:World)(D:Dd)(b4 C':Nat)(K':Nat->Nat)(vN:Value)(R:List (List Int))(ws:Nat->Value)(v6:Value)(l:List Nat)(w:World):Prop where
 bb:Below W0.heap.size W0 w
 st:St w 39 b4 (dE K' vN (.slice D.aM D.m D.cM))
 next:bF w W0.heap.size 30 3 1 vN R.length ws (fun _=>C') (fun j=>ints (R.getD j []))
 kept:w.ownsRow W0.heap.size 3 1 v6 C' (cO l)
 sep:∀i,i<R.length->∀b,(ws i).ownBlock=some b->v6.ownBlock≠some b
 lo:W0.heap.size<=b4
section
variable {W0 : World}{D : Dd}{b4 C' : Nat}{K' : Nat → Nat}{vN v6 : Value}{R : List (List Int)}{ws : Nat → Value}{l : List Nat}{w : World}
theorem sZ.ab{w1:World}(h:sZ W0 D b4 C' K' vN R ws v6 l w)(k:Below w.heap.size w w1):sZ W0 D b4 C' K' vN R ws v6 l w1:=
 ⟨h.bb.trans (k.mono h.bb.size),h.st.ab k,h.next.ab k,cW h.kept k,h.sep,h.lo⟩
theorem sZ.f1(h:sZ W0 D b4 C' K' vN R ws v6 l w):w.cell? ⟨b4,256,none⟩=some vN:=by rw[h.st.at_,p7]
theorem pT.done{C bM:Nat}{vC:Value}{nm:List ByteArray}{g:Nat->Nat}{ws:Nat->Value}(h:pT W0 D C bM b4 vC 256 v6 nm g w)(hm:nm.length=C'):sZ W0 D b4 C' (fun j=>if j<256 then g j else 0) (.slice none 0 0) [] ws v6 ((bD g 256).map D.K) w:=by
 subst hm;exact⟨h.bb,h.st,⟨World.ownsRow_nil _ _ _ _,fun i hi=>absurd hi (by simp),fun i j hi=>absurd hi (by simp)⟩,h.kept,fun i hi=>absurd hi (by simp),h.GC⟩
theorem sZ.gj{w':World}{vN' u:Value}{row:List Int}{q:Nat}(h:sZ W0 D b4 C' K' vN R ws v6 l w)(hu:w.ownsRow W0.heap.size 3 1 u C' (ints row))(hs:∀i,i<R.length->∀b,(ws i).ownBlock=some b->u.ownBlock≠some b)(td:∀b,u.ownBlock=some b->v6.ownBlock≠some b)(hq:R.length=q)
  (ho:w'.ownsRow W0.heap.size 30 1 vN' (q+1) ((range q).map ws++[u])) (hg:w.grownBy w' vN.ownBlock):sZ W0 D b4 C' K' vN' (R++[row]) (fun j=>if j=q then u else ws j) v6 l (w'.setCell ⟨b4,256,none⟩ vN'):=by
 subst hq;have bQ:St w' 39 b4 (dE K' vN (.slice D.aM D.m D.cM)):=h.st.ae h.next.own (by decide) hg
 have h1:bF w W0.heap.size 30 3 1 vN R.length ws (fun _=>C') (fun j=>ints ((R++[row]).getD j [])):=h.next.congr (fun i hi=>⟨rfl,by simp[List.getD_eq_getElem?_getD,List.getElem?_append_left hi]⟩)
 have h2:=h1.tF (v':=vN') (u:=u) (w':=w') (by decide) (by simpa [List.getD_eq_getElem?_getD] using hu) hs ho hg;have hm:w'.ownsRow W0.heap.size 3 1 v6 C' (cO l):=qM h.kept hg (fun b e e2=>iy h.kept h.next.own (by decide) b e e2.symm);refine⟨(fC h.bb h.next.own h.bb.size hg).setCell (p:=⟨b4,256,none⟩) h.lo _,?_,?_,yW hm bQ (by decide),?_,h.lo⟩
 ·have:=bQ.set 256 vN';rwa [YJ] at this
 ·rw[List.length_append];exact⟨yW h2.own bQ (by decide),fun i hi=>yW (h2.row i hi) bQ (by decide),h2.sep⟩
 intro i hi b e;by_cases e1:i=R.length
 ·rw[if_pos e1] at e;exact td b e
 rw[if_neg e1] at e;exact h.sep i (by simp at hi;omega) b e
def Qp(D:Dd)(w:World)(e:Ending)(w':World):Prop:=
 ∃(P:Dd) (g:Nat->Nat) (C':Nat),e=.returned (.agg P.cD)/\DM w' P/\fD (js D D.n) 256 g C'/\sD D g C' P/\Below w.heap.size w w'
def nh(D:Dd)(l:List Nat)(n:Nat):List (List Int):=(range n).map fun i=>l.map (D.nx i)
theorem sZ.fin{C bR:Nat}{wS w':World}{g:Nat->Nat}{cs lf:Array Value}(hD:DM wS D)(hR:DR D C)(hN:fD (js D D.n) 256 g C')(h:sZ W0 D b4 C' (fun j=>if j<256 then g j else 0) vN (nh D ((bD g 256).map D.K) D.n) ws v6 ((bD g 256).map D.K) w)
  (hs:St w 39 bR lf) (hw:w'=w.setRow bR cs) (hB:Below wS.heap.size wS w'):Qp D wS (.returned (.agg (dE (fun j=>if j<256 then g j else 0) vN (.slice D.aM D.m D.cM)))) w':=by
 subst hw;obtain⟨aN,cN,rfl⟩:=bJ h.next.own
 have hlen:(nh D ((bD g 256).map D.K) D.n).length=D.n:=by simp[nh]
 have pq:∀{B t n:Nat}{v:Value}{xs:List Value},t≠39->w.ownsRow B t 1 v n xs->(w.setRow bR cs).ownsRow B t 1 v n xs:=fun {B t n v xs} ht ho=>
  fA (ts:=[]) (bs:=[bR]) ho (FQ w bR cs) (by simp) (fun g e hm=>ef ho hs ht g e (List.mem_singleton.1 hm))
 have cQ:bF (w.setRow bR cs) W0.heap.size 30 3 1 (.slice aN (nh D ((bD g 256).map D.K) D.n).length cN) (nh D ((bD g 256).map D.K) D.n).length ws (fun _=>C') (fun j=>ints ((nh D ((bD g 256).map D.K) D.n).getD j [])):=⟨pq (by decide) h.next.own,fun i hi=>pq (by decide) (h.next.row i hi),h.next.sep⟩
 have vu:∀r∈nh D ((bD g 256).map D.K) D.n,r.length=C':=by
  intro r hr;obtain⟨i,_,rfl⟩:=List.mem_map.1 hr;rw[length_map,length_map,hN.ib]
 have hm:=hR.m;have hg:∀j,j<256->g j<256:=fun j hj=>by have:=hN.le j hj;omega
 refine⟨⟨dE (fun j=>if j<256 then g j else 0) (.slice aN (nh D ((bD g 256).map D.K) D.n).length cN) (.slice D.aM D.m D.cM),fun j=>if j<256 then g j else 0,aN,(nh D ((bD g 256).map D.K) D.n).length,cN,fun i=>uf (ws i),fun i=>ye (ws i),fun _=>C',fun i x=>((nh D ((bD g 256).map D.K) D.n).getD i []).getD x 0,D.aM,D.m,D.cM,D.q⟩,g,C',rfl,
  ⟨mA _ _ _,xr _ _ _ _ _ _ _,fun j hj=>zQ _ _ _ j hj,fun j hj=>?_,p7 _ _ _,yh _ _ _,cQ.zs rfl vu,(hD.below hB).rM⟩,hN,⟨fun b hb=>?_,hlen,hm,fun i hi=>rfl,fun i hi c hc=>?_,fun i hi=>rfl⟩,hB⟩
 ·show (if j<256 then g j else 0)<256;rw[if_pos hj];exact hg j hj
 ·show (if b<256 then g b else 0)=g b;rw[if_pos hb]
 show ((nh D ((bD g 256).map D.K) D.n).getD i []).getD c 0=D.nx i (D.K ((bD g 256).getD c 0));have fH:c<(bD g 256).length:=by rw[hN.ib];exact hc
 unfold nh;simp[List.getD_eq_getElem?_getD,hi,fH]
end
theorem SM(D:Dd)(l:List Nat)(i:Nat):nh D l (i+1)=nh D l i++[l.map (D.nx i)]:=by
 unfold nh;rw[List.range_succ,map_append];rfl
theorem zpt(D:Dd)(l:List Nat)(i:Nat):(nh D l i).length=i:=by simp[nh]
theorem Nd(D:Dd)(C:Nat)(hR:DR D C)(w:World)(hD:DM w D):
  Calls prog 57 #[.agg D.cD] w (Qp D w):=by
 have cQ:=hR.n2;have cZ:=hR.n1;have uN:=(hR.jn hD.kl).2;have xR:=hD.kl;have iQ:=zhD;have HB:=hid (Zz (cm.new hD) (Zz (al w (.cells D.cD 39)) (Zz hR hD)));obtain⟨iI,hI,pW,p9,qa⟩:=info_parts az;obtain⟨iV,hV,um,uU,uL⟩:=info_parts ew;have VI:=hid xR;clear hD hR xR;go_enter func57,ntmps57;go_upto_region 1 with (refine oO rfl 39 rfl (zC 39) (lP _) ?_)
 try simp only[put,List.setIfInBounds_toArray,List.set_cons_zero,List.set_cons_succ,Gb]
 have H0:Hid (cm ((w.alloc (.cells D.cD 39)).alloc (.cells (zC 39) 39)) w.heap.size D/\St ((w.alloc (.cells D.cD 39)).alloc (.cells (zC 39) 39)) 39 (w.heap.size+1) (zC 39)/\Below w.heap.size w ((w.alloc (.cells D.cD 39)).alloc (.cells (zC 39) 39))):=by
  refine⟨HB.out.1.ab (al _ _),?_,HB.out.2.1.trans ((al _ _).mono (by simp))⟩;have:=St.new (w.alloc (.cells D.cD 39)) 39 (zC 39);simpa using this
 generalize (w.alloc (.cells D.cD 39)).alloc (.cells (zC 39) 39)=Wn at H0⊢;obtain⟨b2,cr⟩:∃b2,w.heap.size+1=b2:=⟨_,rfl⟩
 obtain⟨b0,aD⟩:∃b0,w.heap.size=b0:=⟨_,rfl⟩
 rw[cr,aD] at H0;rw[cr,aD];have Hb:=hid (Zz aD cr);clear cr aD;have f2:=H0.out.1.f2;have k5:=al Wn (.cells (zC 39) 39);have gV:St (Wn.alloc (.cells (zC 39) 39)) 39 Wn.heap.size (zC 39):=St.new _ _ _;have jk:=hid gV;have jR:Hid (St ((Wn.alloc (.cells (zC 39) 39)).setRow Wn.heap.size (dE (fun _=>0) (.slice none 0 0) (.slice D.aM D.m D.cM))) 39 Wn.heap.size (dE (fun _=>0) (.slice none 0 0) (.slice D.aM D.m D.cM))/\Below Wn.heap.size Wn ((Wn.alloc (.cells (zC 39) 39)).setRow Wn.heap.size (dE (fun _=>0) (.slice none 0 0) (.slice D.aM D.m D.cM)))):=⟨gV.setRow,lk k5 (Nat.le_refl _) _⟩
 clear k5 gV;go_upto_region 2 with (first
  | (refine zw rfl 39 _ rfl #[(2,.slice D.aM D.m D.cM)] (by first|rfl|kernel_rfl|(go_simp;done)) (.agg (dE (fun _=>0) (.slice none 0 0) (.slice D.aM D.m D.cM))) (zjG D.aM D.m D.cM _) ?_)
  | (refine oO rfl 39 rfl (zC 39) (lP _) ?_)
  | (refine l6 rfl 39 _ _ rfl Wn.heap.size 39 (zC 39) (dE (fun _=>0) (.slice none 0 0) (.slice D.aM D.m D.cM)) rfl rfl jk.out (by rw[ir,mA]) (by rw[fB,mA]) (xr _ _ _ _ _ _ _) ?_))
 simp only[put,sA,sB,sC];clear f2;obtain⟨b4,eV⟩:∃b4,Wn.heap.size=b4:=⟨_,rfl⟩
 have EJ:=hid eV;rw[eV] at jR;rw[eV];generalize (Wn.alloc (.cells (zC 39) 39)).setRow b4 (dE (fun _=>0) (.slice none 0 0) (.slice D.aM D.m D.cM))=W4 at jR⊢;clear eV jk;have ue:=hid (H0.out.1.ab (show Below Wn.heap.size Wn W4 by rw[EJ.out];exact jR.out.2));have HCo:=hid (zfI D C HB.out.2.2.1 W4 ue.out.dm);go_wp2_with (refine kc (by rfl) 39 _ rfl ⟨b0,0,none⟩ rfl D.cD _ ue.out.st.part underlying39 rfl ue.out.dm.info ?_);refine HCo.out.mono ?_;rintro e w5 ⟨aC,cC,rfl,jl,b5⟩;obtain⟨gC,rfl,Qw,RX,Rt⟩:=ep jl (show 0<C by have:=HB.out.2.2.1.jn VI.out;omega);have k6:=al w5 (.map #[] 0);have Vg:dP (w5.alloc (.map #[] 0)) 9 w5.heap.size 0 (KL []):=dP.made _ _ _ (fun x y h=>by
  obtain⟨k,s,h1,_⟩:=h
  simp at h1)
 have LF:Hid (pT Wn D C w5.heap.size b4 (.slice (some ⟨gC,0,none⟩) C cC) 0 (.slice none 0 0) [] (fun _=>0) (w5.alloc (.map #[] 0))):=by
  have eY:b4<=W4.heap.size:=by have:=jR.out.2.size;have:=EJ.out;omega
  have je:=b5.size;have Sz:=EJ.out;have hbA:Below Wn.heap.size Wn w5:=(show Below Wn.heap.size Wn W4 by rw[EJ.out];exact jR.out.2).trans (b5.mono (by omega));refine⟨hbA.trans (k6.mono (by omega)),Vg,World.ownsRow_nil _ _ _ _,rfl,?_,gE (cW jl k6) (by omega),fun i hi=>absurd hi (by omega),fD.zero _,by omega,by omega,by simp⟩;have:=(jR.out.1.ab b5).ab k6;have e:(fun j=>if j<0 then (fun _=>0:Nat->Nat) j else 0)=fun _=>0:=by funext j;simp
  rw[e];exact this
 have I5:=hid ((ue.out.ab b5).ab k6);clear jl b5 Qw RX Rt k6 Vg HCo;go_upto_region 5 with fail;obtain⟨bM,nD⟩:∃bM,w5.heap.size=bM:=⟨_,rfl⟩
 rw[nD] at LF
 try rw[nD]
 generalize w5.alloc (.map #[] 0)=W6 at LF I5⊢;clear nD;have dL:=vU D.K;go_wp2_with (refine pM rfl 36 _ rfl ⟨b0,0,none⟩ rfl (aP D.K) (.array 256 5) I5.out.dC underlying36 rfl dL ?_);go_loopw [6,7,8,9,10,11,22] (fun v6 _ _ _ _ _ vk wr=>∃(k m:Nat) (a6:Option Addr) (c6:Nat),v6=.slice a6 m c6/\vk=.int .i64 k/\k<=256/\m<=k/\Hid (∃nm g,nm.length=m/\pT Wn D C bM b4 (.slice (some ⟨gC,0,none⟩) C cC) k v6 nm g wr)) (fun _ _ _ _ _ _ v _=>256-(intOf v).toNat)
 ·exact⟨0,0,none,0,rfl,rfl,by omega,by omega,_,_,rfl,LF.out⟩
 clear LF;obtain⟨k,m,a6,c6,rfl,rfl,hk,fu,HL⟩:=hrel;by_cases dN:k<256
 ·obtain⟨nm,g,jV,hM⟩:=HL.out;have HM:=hid hM;have MP:=hid jV;have i2:(k:Int)<256:=by omega
  have hv:=Db D.K k dN;have Ac:=KR 36 5 256 (aP D.K) k _ underlying36 dN (by kernel_rfl) ⟨_,underlying5,rfl⟩ hv wr;have vY:=VI.out k dN;have O1:=HB.out.2.2.1.c.1 k dN;obtain⟨gX,Dj,Jt,FF,CB⟩:=ep hM.BY (by omega);have dv:=(CB (D.K k) (by omega)).1;have SA:gX=gC:=by injection Dj with Dj;injection Dj with Dj _;exact Dj.symm
  rw[SA] at dv;have hcv:((range C).map (qJ D))[D.K k]?=some (.string (cS D (D.K k))):=by simp[O1];rfl
  rw[hcv] at dv;have cU:(cS D (D.K k)).size<=1000000:=by rw[zqn];omega
  have yc:=hM.look (cS D (D.K k)) cU;have hlen:=hM.map.len (ty:=3) (t:=139) (by rw[underlying139];rfl);rw[jV] at hlen;have hw8:IntKind.u8.wrap (m:Int)=m:=by simp[wrap,IntKind.bits,signed];omega
  have z1:=hM.st.at_ k;have z2:=hM.st.aZ k;rw[zQ _ _ _ k dN] at z1;rcases yc with ⟨b,hb,cj⟩|⟨hb,cj⟩
  ·have HF:Hid (∃nm g,nm.length=m/\pT Wn D C bM b4 (.slice (some ⟨gC,0,none⟩) C cC) (k+1) (.slice a6 m c6) nm g (wr.setCell ⟨b4,k,none⟩ (.int .u8 (b:Int)))):=by
    obtain⟨g',Ap⟩:=hM.lf HB.out.2.2.1 dN hb;exact⟨nm,g',jV,Ap⟩
   clear hM hb hlen hw8 Dj Jt FF CB hcv jV HM MP cU HL;obtain⟨y,hy⟩:∃y,D.K k=y:=(⟨_,rfl⟩);obtain⟨s,hs⟩:∃s,cS D y=s:=(⟨_,rfl⟩);rw[hy] at hv Ac vY O1 dv cj;rw[hs] at dv cj;clear hy hs;go_wp2;go_roundw
   ·exact⟨k+1,m,a6,c6,rfl,by go_num,by omega,by omega,HF.out⟩
   simp[intOf];omega
  have lO:nm.length<maxLen:=by unfold maxLen;omega
  obtain⟨w1,vJ,iD,lE⟩:=hM.put (cS D (D.K k)) cU lO hb;rw[jV] at vJ;have AW:=wI hM.kept hM.map.ex.of lE;rw[jV] at AW;have S5:=(hM.bb.grown lE hM.bb.size (fun g e=>by injection e with e;rw[<-e];exact hM.Nx)).size;have oq:=hid (hM.st.dY hM.map.ex.of lE);have Pg:Hid (∀(w2 w3:World) (EU:Value),Below w1.heap.size w1 w2->w2.grownBy w3 (Value.slice a6 m c6).ownBlock->w3.ownsRow Wn.heap.size 3 1 EU (m+1) (cO ((bD g k).map D.K)++[.int .i64 ((D.K k:Nat):Int)])->∃nm g,nm.length=m+1/\pT Wn D C bM b4 (.slice (some ⟨gC,0,none⟩) C cC) (k+1) EU nm g (w3.setCell ⟨b4,k,none⟩ (.int .u8 (m:Int)))):=fun w2 w3 EU h1 h2 h3=>by
   obtain⟨g',Ap⟩:=hM.fresh HB.out.2.2.1 dN hb iD lE h1 h2 (by rw[jV];exact h3);rw[jV] at Ap;exact⟨_,g',by simp[jV],Ap⟩
  clear hM hb Dj Jt FF CB hcv jV HM MP cU HL iD lE z1 z2 lO;obtain⟨y,hy⟩:∃y,D.K k=y:=⟨_,rfl⟩
  obtain⟨s,hs⟩:∃s,cS D y=s:=⟨_,rfl⟩
  rw[hy] at hv Ac vY O1 dv cj vJ Pg;rw[hs] at dv cj vJ;clear hy hs;obtain⟨l9,yB⟩:∃l9,cO ((bD g k).map D.K)=l9:=⟨_,rfl⟩
  rw[yB] at AW Pg;clear yB;go_wp2_with (at_builtin;refine wpList_append_own_at _ rfl _ _ 30 rfl Wn.heap.size 3 iI (.int .i64 0) 1 8 underlying30 hI pW p9 qa rfl (by decide) _ _ _ rfl (AW.alloc _) ⟨w1.heap.size,0,none⟩ 1 1 [.int .i64 (y:Int)] rfl rfl (cell_one_new _ _ _) ?d2 ?d3 ?d4 ?d5 ?_)
  case d2=>first|(intro u hu;simp at hu;subst hu;rfl)|rfl
  case d3=>unfold maxLen;omega
  case d4=>omega
  case d5=>first|(simp;omega)|omega
  intro v' w5 ah ag _ bG;obtain⟨a7,c7,rfl⟩:=bJ ah;have k9:=al w1 (.cells #[.int .i64 (y:Int)] 3);have HF:=hid (Pg.out _ w5 (.slice a7 (m+1) c7) k9 ag ah);have Uy:=hid ((oq.out.ab k9).ae (cW AW k9) (by decide) ag);have z1:=Uy.out.at_ k;have z2:=Uy.out.aZ k;rw[zQ _ _ _ k dN] at z1;clear ah ag bG AW k9;go_wp2;go_roundw
  ·exact⟨k+1,m+1,a7,c7,rfl,by go_num,by omega,by omega,HF.out⟩
  simp[intOf];omega
 obtain rfl:k=256:=by omega
 obtain⟨nm,g,jV,hM⟩:=HL.out;have zi:=hM.num;rw[jV] at zi;have rm:=hM.done (ws:=fun _=>.slice none 0 0) jV;obtain⟨l,hl⟩:∃l,(bD g 256).map D.K=l:=⟨_,rfl⟩
 obtain⟨Kf,On⟩:∃Kf:Nat->Nat,(fun j=>if j<256 then g j else 0)=Kf:=⟨_,rfl⟩
 have zp:=hid (Zz zi (Zz hl On));rw[hl,On] at rm;have jR:Hid (sZ Wn D b4 m Kf (.slice none 0 0) (nh D l 0) (fun _=>.slice none 0 0) (.slice a6 m c6) l wr):=rm;have Hl:Hid (l.length=m/\∀x∈l,x<C):=by
  refine⟨by rw[<-hl,length_map,zi.ib],fun x hx=>?_⟩;rw[<-hl] at hx;obtain⟨j,hj,rfl⟩:=List.mem_map.1 hx;exact HB.out.2.2.1.c.1 j (zip g 256 j hj)
 have OF:=hid (H0.out.1.ab hM.bb);have f1:=OF.out.f1;obtain⟨gN,oN,eN,lH,pv⟩:=H0.out.1.dm.rN (by omega);rw[eN] at f1;have rB:=hid pv;have Hg:=hid lH;clear eN pv lH zi rm hl On hM HL jV;go_wp2_with fail;clear f1;rw[show ((256:Nat):Int)=256 from rfl];go_loopw [13,57] (fun _ v wr=>∃(i:Nat) (ws:Nat->Value) (aN:Option Addr) (cN:Nat),v=.int .i64 i/\i<=D.n/\Hid (sZ Wn D b4 m Kf (.slice aN i cN) (nh D l i) ws (.slice a6 m c6) l wr)) (fun _ v _=>D.n-(intOf v).toNat)
 ·exact⟨0,_,none,0,rfl,by omega,jR⟩
 clear jR;obtain⟨i,ws,aN,cN,rfl,hi,HT⟩:=hrel;have mr:Hid ((nh D l i).length=i):=zpt D l i;by_cases an:i<D.n
 ·have i1:(i:Int)<(D.n:Int):=by omega
  have hlen:=HB.out.2.2.1.len i an;have qj:=(HT.out.bb.cell (p:=⟨gN,oN+i,none⟩) Hg.out).trans (rB.out i an).1;have zN:=(rB.out i an).2;rw[hlen] at qj zN
  try dsimp only at qj
  have xK:Hid (kE wr.drew (D.A i) C (D.nx i)):=(zN.below HT.out.bb).below (Below.refl _ _).drew;clear hlen zN;go_upto_region 19 with fail;clear qj;refine wp_region_held_drew (S:=fun W'=>Below Wn.heap.size Wn W') (by kernel_rfl) HT.out.bb.drew (fun hHeld=>?_);have HT:Hid (sZ Wn D b4 m Kf (.slice aN i cN) (nh D l i) ws (.slice a6 m c6) l wr.drew):=HT.out.ab (Below.refl _ _).drew
  (refine av 0 ?_;refine av 2 ?_;refine av 3 ?_;try simp only[put,sA,sB,sC])
  refine wpAnyH_ready (rs:=[1,4]) (by kernel_rfl) (by simp) ?_;refine gy (fun K hK=>?_) ?_
  ·skip;have f1:=HT.out.f1;go_simp;refine hK.out _ _ (hHeld) (fun hHeld=>?_);clear hK K
   try simp only[put,sA,sB,sC]
   clear f1;refine bq 4 (fun K hK=>?_);skip;have iG:=(HT.out.next.lt).2;have jB:=lB HT.out.kept;have G3:=si HT.out.kept Hl.out.1;have Je:=xK.out;skip;go_simp;go_at_call 92;refine (Vw (D.nx i) C l m Hl.out.1 (by omega) (by omega) Hl.out.2 (D.A i) a6 (D.Cp i) c6 _ Je G3).mono ?_;rintro e w5 ⟨a5,c5,rfl,jl,b5⟩;have HU:Hid (w5.ownsRow Wn.heap.size 3 1 (.slice a5 m c5) m (ints (l.map (D.nx i)))/\(∀j,j<(nh D l i).length->∀b,(ws j).ownBlock=some b->(Value.slice a5 m c5).ownBlock≠some b)/\∀b,(Value.slice a5 m c5).ownBlock=some b->(Value.slice a6 m c6).ownBlock≠some b):=by
    have jN:=kq jl;refine⟨?_,fun j hj b e1 e2=>?_,fun b e1 e2=>?_⟩
    ·exact gE jl HT.out.bb.size
    ·have h1:=iG j hj b e1;have h2:=jN b e2
     try simp only[kG] at h1
     try simp only[kG] at h2
     omega
    have h1:=jB b e2;have h2:=jN b e1
    try simp only[kG] at h1
    try simp only[kG] at h2
    omega
   have HT:=hid (HT.out.ab b5);clear jl b5 iG jB G3 Je
   try go_wp2_with fail
   refine hK.out _ _ (HT.out.bb) (fun hHeld=>?_);clear hK K
   try simp only[put,sA,sB,sC]
   refine bq 5 (fun K hK=>?_);skip;go_simp;have kk:=al w5 (.cells #[.slice a5 m c5] 30);have HN:Hid (∀j u,[Value.slice a5 m c5][j]?=some u->(w5.alloc (.cells #[.slice a5 m c5] 30)).cell? ((⟨w5.heap.size,0,none⟩:Addr).add j)=some u):=cell_one_new _ _ _;have HT:=hid (HT.out.ab kk);have HU:=hid (Zz (cW HU.out.1 kk) HU.out.2);refine hK.out _ _ (HT.out.bb) (fun hHeld=>?_);clear hK K
   try simp only[put,sA,sB,sC]
   clear kk;generalize w5.alloc (.cells #[.slice a5 m c5] 30)=V5 at HN HT HU hHeld⊢;refine bq 6 (fun K hK=>?_);skip;have hO:=(HT.out.next.own);rw[mr.out] at hO;refine rz (by rfl) _ _ _ (by rfl) Wn.heap.size 30 iV (.slice none 0 0) 1 24 underlying37 hV um uU uL (by rfl) (by decide) _ i ((range i).map ws) (by rfl) hO ⟨w5.heap.size,0,none⟩ 1 1 [.slice a5 m c5] (by rfl) (by rfl) HN.out (by intro u hu;simp at hu;subst hu;rfl) (by unfold maxLen;omega) (by omega) HT.out.bb.size ?_;intro v6 w6 aj af;obtain⟨a7,c7,rfl⟩:=bJ aj;have jH:=hid (HT.out.gj (u:=.slice a5 m c5) (vN':=.slice a7 (i+1) c7) HU.out.1 HU.out.2.1 HU.out.2.2 mr.out aj af);have h9:=(HT.out.st.ae HT.out.next.own (by decide) af);have z2:w6.cell? ⟨b4,256,none⟩=some (.slice aN i cN):=(by rw[h9.at_,p7]);have z3:w6.frozen? ⟨b4,256,none⟩=false:=h9.aZ 256;have eJ:=(fC HT.out.bb HT.out.next.own HT.out.bb.size af);clear aj af h9 hO;refine hK.out _ _ (eJ) (fun hHeld=>?_);clear hK K
   try simp only[put,sA,sB,sC]
   (refine av 7 ?_;try simp only[put,sA,sB,sC])
   refine bq 8 (fun K hK=>?_);skip;go_simp;refine hK.out _ _ (jH.out.bb) (fun hHeld=>?_);clear hK K
   try simp only[put,sA,sB,sC]
   refine wpAnyH_done (by kernel_rfl) ?_ _;rw[<-SM] at jH;clear hHeld z2 z3 eJ;go_wp2;go_roundw
   ·exact⟨i+1,_,a7,c7,by go_num,by omega,jH⟩
   simp[intOf];omega
  refine gy (fun K hK=>?_) ?_
  ·skip;have iG:=(HT.out.next.lt).2;have jB:=lB HT.out.kept;have G3:=si HT.out.kept Hl.out.1;have Je:=xK.out;skip;go_simp;go_at_call 92;refine (Vw (D.nx i) C l m Hl.out.1 (by omega) (by omega) Hl.out.2 (D.A i) a6 (D.Cp i) c6 _ Je G3).mono ?_;rintro e w5 ⟨a5,c5,rfl,jl,b5⟩;have HU:Hid (w5.ownsRow Wn.heap.size 3 1 (.slice a5 m c5) m (ints (l.map (D.nx i)))/\(∀j,j<(nh D l i).length->∀b,(ws j).ownBlock=some b->(Value.slice a5 m c5).ownBlock≠some b)/\∀b,(Value.slice a5 m c5).ownBlock=some b->(Value.slice a6 m c6).ownBlock≠some b):=by
    have jN:=kq jl;refine⟨?_,fun j hj b e1 e2=>?_,fun b e1 e2=>?_⟩
    ·exact gE jl HT.out.bb.size
    ·have h1:=iG j hj b e1;have h2:=jN b e2
     try simp only[kG] at h1
     try simp only[kG] at h2
     omega
    have h1:=jB b e2;have h2:=jN b e1
    try simp only[kG] at h1
    try simp only[kG] at h2
    omega
   have HT:=hid (HT.out.ab b5);clear jl b5 iG jB G3 Je
   try go_wp2_with fail
   refine hK.out _ _ (HT.out.bb) (fun hHeld=>?_);clear hK K
   try simp only[put,sA,sB,sC]
   refine wpAnyH_ready (rs:=[1,5]) (by kernel_rfl) (by simp) ?_;refine gy (fun K hK=>?_) ?_
   ·skip;have f1:=HT.out.f1;go_simp;refine hK.out _ _ (hHeld) (fun hHeld=>?_);clear hK K
    try simp only[put,sA,sB,sC]
    clear f1;refine bq 5 (fun K hK=>?_);skip;go_simp;have kk:=al w5 (.cells #[.slice a5 m c5] 30);have HN:Hid (∀j u,[Value.slice a5 m c5][j]?=some u->(w5.alloc (.cells #[.slice a5 m c5] 30)).cell? ((⟨w5.heap.size,0,none⟩:Addr).add j)=some u):=cell_one_new _ _ _;have HT:=hid (HT.out.ab kk);have HU:=hid (Zz (cW HU.out.1 kk) HU.out.2);refine hK.out _ _ (HT.out.bb) (fun hHeld=>?_);clear hK K
    try simp only[put,sA,sB,sC]
    clear kk;generalize w5.alloc (.cells #[.slice a5 m c5] 30)=V5 at HN HT HU hHeld⊢;refine bq 6 (fun K hK=>?_);skip;have hO:=(HT.out.next.own);rw[mr.out] at hO;refine rz (by rfl) _ _ _ (by rfl) Wn.heap.size 30 iV (.slice none 0 0) 1 24 underlying37 hV um uU uL (by rfl) (by decide) _ i ((range i).map ws) (by rfl) hO ⟨w5.heap.size,0,none⟩ 1 1 [.slice a5 m c5] (by rfl) (by rfl) HN.out (by intro u hu;simp at hu;subst hu;rfl) (by unfold maxLen;omega) (by omega) HT.out.bb.size ?_;intro v6 w6 aj af;obtain⟨a7,c7,rfl⟩:=bJ aj;have jH:=hid (HT.out.gj (u:=.slice a5 m c5) (vN':=.slice a7 (i+1) c7) HU.out.1 HU.out.2.1 HU.out.2.2 mr.out aj af);have h9:=(HT.out.st.ae HT.out.next.own (by decide) af);have z2:w6.cell? ⟨b4,256,none⟩=some (.slice aN i cN):=(by rw[h9.at_,p7]);have z3:w6.frozen? ⟨b4,256,none⟩=false:=h9.aZ 256;have eJ:=(fC HT.out.bb HT.out.next.own HT.out.bb.size af);clear aj af h9 hO;refine hK.out _ _ (eJ) (fun hHeld=>?_);clear hK K
    try simp only[put,sA,sB,sC]
    (refine av 7 ?_;try simp only[put,sA,sB,sC])
    refine bq 8 (fun K hK=>?_);skip;go_simp;refine hK.out _ _ (jH.out.bb) (fun hHeld=>?_);clear hK K
    try simp only[put,sA,sB,sC]
    refine wpAnyH_done (by kernel_rfl) ?_ _;rw[<-SM] at jH;clear hHeld z2 z3 eJ;go_wp2;go_roundw
    ·exact⟨i+1,_,a7,c7,by go_num,by omega,jH⟩
    simp[intOf];omega
   refine gy (fun K hK=>?_) ?_
   ·skip;go_simp;have kk:=al w5 (.cells #[.slice a5 m c5] 30);have HN:Hid (∀j u,[Value.slice a5 m c5][j]?=some u->(w5.alloc (.cells #[.slice a5 m c5] 30)).cell? ((⟨w5.heap.size,0,none⟩:Addr).add j)=some u):=cell_one_new _ _ _;have HT:=hid (HT.out.ab kk);have HU:=hid (Zz (cW HU.out.1 kk) HU.out.2);refine hK.out _ _ (HT.out.bb) (fun hHeld=>?_);clear hK K
    try simp only[put,sA,sB,sC]
    clear kk;generalize w5.alloc (.cells #[.slice a5 m c5] 30)=V5 at HN HT HU hHeld⊢;refine bq 1 (fun K hK=>?_);skip;have f1:=HT.out.f1;go_simp;refine hK.out _ _ (hHeld) (fun hHeld=>?_);clear hK K
    try simp only[put,sA,sB,sC]
    clear f1;refine bq 6 (fun K hK=>?_);skip;have hO:=(HT.out.next.own);rw[mr.out] at hO;refine rz (by rfl) _ _ _ (by rfl) Wn.heap.size 30 iV (.slice none 0 0) 1 24 underlying37 hV um uU uL (by rfl) (by decide) _ i ((range i).map ws) (by rfl) hO ⟨w5.heap.size,0,none⟩ 1 1 [.slice a5 m c5] (by rfl) (by rfl) HN.out (by intro u hu;simp at hu;subst hu;rfl) (by unfold maxLen;omega) (by omega) HT.out.bb.size ?_;intro v6 w6 aj af;obtain⟨a7,c7,rfl⟩:=bJ aj;have jH:=hid (HT.out.gj (u:=.slice a5 m c5) (vN':=.slice a7 (i+1) c7) HU.out.1 HU.out.2.1 HU.out.2.2 mr.out aj af);have h9:=(HT.out.st.ae HT.out.next.own (by decide) af);have z2:w6.cell? ⟨b4,256,none⟩=some (.slice aN i cN):=(by rw[h9.at_,p7]);have z3:w6.frozen? ⟨b4,256,none⟩=false:=h9.aZ 256;have eJ:=(fC HT.out.bb HT.out.next.own HT.out.bb.size af);clear aj af h9 hO;refine hK.out _ _ (eJ) (fun hHeld=>?_);clear hK K
    try simp only[put,sA,sB,sC]
    (refine av 7 ?_;try simp only[put,sA,sB,sC])
    refine bq 8 (fun K hK=>?_);skip;go_simp;refine hK.out _ _ (jH.out.bb) (fun hHeld=>?_);clear hK K
    try simp only[put,sA,sB,sC]
    refine wpAnyH_done (by kernel_rfl) ?_ _;rw[<-SM] at jH;clear hHeld z2 z3 eJ;go_wp2;go_roundw
    ·exact⟨i+1,_,a7,c7,by go_num,by omega,jH⟩
    simp[intOf];omega
   exact AllReadyH.nil
  exact AllReadyH.nil
 obtain rfl:i=D.n:=by omega
 have SD:=hid HT.out;have jk:=hid HT.out.st;have fQ:=hid (H0.out.2.1.ab HT.out.bb);have hd:=mA Kf (.slice aN D.n cN) (.slice D.aM D.m D.cM);have EA:Hid (w.heap.size<=Wn.heap.size):=by have:=H0.out.2.2.size;have:=Hb.out.1;show _<=_;omega
 have AQ:Hid (Below w.heap.size w (wr.setRow b2 (dE Kf (.slice aN D.n cN) (.slice D.aM D.m D.cM)))):=
  lk ((show Below w.heap.size w Wn by rw[Hb.out.1];exact H0.out.2.2).trans (HT.out.bb.mono EA.out)) (by have:=Hb.out;omega) _
 have HF:Hid (Qp D w (.returned (.agg (dE Kf (.slice aN D.n cN) (.slice D.aM D.m D.cM)))) (wr.setRow b2 (dE Kf (.slice aN D.n cN) (.slice D.aM D.m D.cM)))):=by
  obtain⟨h1,h2,h3⟩:=zp.out;have hT:=SD.out;rw[<-h3] at hT AQ⊢;rw[<-h2] at hT;exact hT.fin HB.out.2.2.2 HB.out.2.2.1 h1 fQ.out rfl AQ.out
 clear HT;go_wp2_with (first|(refine pM rfl 39 _ rfl ⟨b4,0,none⟩ rfl (dE Kf (.slice aN D.n cN) (.slice D.aM D.m D.cM)) _ jk.out.part underlying39 rfl (by rw[fB,hd]) ?_)|(refine l6 rfl 39 _ _ rfl b2 39 (zC 39) (dE Kf (.slice aN D.n cN) (.slice D.aM D.m D.cM)) rfl rfl fQ.out (by rw[ir,hd]) (by rw[fB,hd]) (xr _ _ _ _ _ _ _) ?_));refine bodyPost_ret (results_cell_row rfl _ _ b2 39 (dE Kf (.slice aN D.n cN) (.slice D.aM D.m D.cM)) (0,0) _ rfl fQ.out.setRow underlying39 rfl (by rw[fB,hd])) rfl ?_;exact HF.out
theorem zqo{i:Nat}{v:Value}(h:(zC 39)[i]?=some v):v=.int .u8 0\/v=.slice none 0 0:=by
 have hz:=ir;by_cases a:i<256
 ·rw[UR i a] at h;exact Or.inl (Option.some.inj h).symm
 by_cases b:i=256
 ·subst b;rw[E3.1] at h;exact Or.inr (Option.some.inj h).symm
 by_cases c:i=257
 ·subst c;rw[E3.2] at h;exact Or.inr (Option.some.inj h).symm
 rw[Array.getElem?_eq_none (by omega)] at h;cases h
theorem DM.N4{w:World}{b:Nat}{D:Dd}{C:Nat}(hR:DR D C)(h:DM w D)(hs:St w 39 b (zC 39))(cs:Array Value):DM (w.setRow b cs) D:=by
 have hk:=FQ w b cs;have cU:(w.setRow b cs).heap.size=w.heap.size:=setRow_size _ _ _;have hC:=(hR.jn h.kl).1;have key:∀{g i:Nat}{v:Value},g<w.heap.size->w.cell? ⟨g,i,none⟩=some v->v≠.int .u8 0->v≠.slice none 0 0->(w.setRow b cs).cell? ⟨g,i,none⟩=some v:=fun {g i v} hg hc h1 h2=>by
  have hgb:g≠b:=fun e=>by
   subst e;rw[hs.at_] at hc;rcases zqo hc with e|e
   ·exact h1 e
   exact h2 e
  rw[hk.na (g:=g) (i:=i) (by simpa using hgb) hg];exact hc
 refine⟨h.sz,h.one,h.cl,h.kl,h.fN,h.fM,fun h0=>?_,fun h0=>?_⟩
 ·obtain⟨g,off,e,hg,hc⟩:=h.rN h0;refine⟨g,off,e,by rw[cU];exact hg,fun i hi=>⟨key hg (hc i hi).1 (fun e=>by cases e) (fun e=>by
   injection e with _ e _
   have:=hR.len i hi
   omega),fun h1=>?_⟩⟩
  obtain⟨g',kj,e',Ap,hc'⟩:=(hc i hi).2 h1;exact⟨g',kj,e',by rw[cU];exact Ap,fun j hj=>key Ap (hc' j hj) (fun e=>by cases e) (fun e=>by cases e)⟩
 obtain⟨g,off,e,hg,hc⟩:=h.rM h0;exact⟨g,off,e,by rw[cU];exact hg,fun j hj=>key hg (hc j hj) (fun e=>by cases e) (fun e=>by cases e)⟩
theorem cm.stored{w:World}{b:Nat}{D:Dd}{C:Nat}(hR:DR D C)(hD:DM w D)(h:St w 39 b (zC 39)):cm (w.setRow b D.cD) b D:=⟨h.setRow,hD.N4 hR h _⟩
def u9(O P:Dd)(C C':Nat):Prop:=∃(f:Nat->Nat) (B:Nat) (M:Dd) (g:Nat->Nat),fD (lj C (tD O) (mD O)) O.n f B/\qV O C f B M/\fD (js M M.n) 256 g C'/\sD M g C' P
theorem u9.right{O P:Dd}{C C':Nat}(hR:DR O C)(h:u9 O P C C'):DR P C':=by
 obtain⟨f,B,M,g,h1,h2,h3,h4⟩:=h;exact h4.right (h2.right hR h1) h3
theorem u9.le{O P:Dd}{C C':Nat}(h:u9 O P C C'):P.n<=O.n:=by
 obtain⟨f,B,M,g,h1,h2,h3,h4⟩:=h;have e:=h4.n;have e2:M.n=B:=h2.2.1;have e3:=h1.ib;have e4:=TF f O.n;omega
theorem u9.mn{O P X:Dd}{C C' k:Nat}{l:List Nat}(hR:DR O C)(hO:nZ O)(hT:vH O C)(h:u9 O P C C')(hl:l=dr (ar P.len P.nx) [0] k)(dN:l.length=k)(rG:k<=P.n)(hX:oJ P C' k (iJ P l) (fun i=>P.q (l.getD i 0)) X):Mn X C'/\eG X 0 O 0:=by
 obtain⟨f,B,M,g,h1,h2,h3,h4⟩:=h;exact Mn.made hR hO hT h1 h2 h3 h4 hl dN rG hX
structure S8 (D O:Dd)(C:Nat):Prop where
 r:DR O C
 ord:nZ O
 Er:vH O C
 xN:eG O 0 D 0
 le:O.n<=D.n
theorem S8.made{D T O:Dd}{C k:Nat}{l:List Nat}(hR:DR D C)(hT:oJ D C D.n (nG D) D.q T)(hl:l=dr (ar T.len T.nx) [0] k)(dN:l.length=k)(rG:k<=T.n)(hO:oJ T C k (iJ T l) (fun i=>T.q (l.getD i 0)) O):S8 D O C:=by
 have KU:=hT.kv hR;have hTT:=hT.xJ hR;have hn:=hR.n1;have h1:=Pm (D:=T) (k:=k) (by rw[<-hl];exact dN);rw[<-hl] at h1;have hb:=hO.pB KU hl dN (i:=0) (by omega);rw[h1.2] at hb;refine⟨?_,hO.Gt KU hl dN,hO.ti KU hTT hl dN,hb.trans (hT.qL hR (by omega)),by have h3:=hO.2.1;have h4:=hT.2.1;omega⟩;subst hl;exact hO.oW KU dN rG
def Ww(D:Dd)(w:World)(e:Ending)(w':World):Prop:=∃(X:Dd) (C':Nat),e=.returned (.tuple #[.agg X.cD,.int .i64 0])/\DM w' X/\Mn X C'/\eG X 0 D 0/\X.n<=D.n/\Below w.heap.size w w'
theorem Z5(D:Dd)(C:Nat)(hR:DR D C)(w:World)(hD:DM w D):Calls prog 33 #[.agg D.cD] w (Ww D w):=by
 have HB:=hid (Zz (cm.new hD) (Zz (al w (.cells D.cD 39)) hR));clear hD hR;go_enter func33,ntmps33;go_upto_region 1 with (refine oO rfl 39 rfl (zC 39) (lP _) ?_)
 try simp only[put,List.setIfInBounds_toArray,List.set_cons_zero,List.set_cons_succ,Gb]
 have H0:Hid (cm ((w.alloc (.cells D.cD 39)).alloc (.cells (zC 39) 39)) w.heap.size D/\St ((w.alloc (.cells D.cD 39)).alloc (.cells (zC 39) 39)) 39 (w.heap.size+1) (zC 39)/\Below w.heap.size w ((w.alloc (.cells D.cD 39)).alloc (.cells (zC 39) 39))):=by
  refine⟨HB.out.1.ab (al _ _),?_,HB.out.2.1.trans ((al _ _).mono (by simp))⟩;have:=St.new (w.alloc (.cells D.cD 39)) 39 (zC 39);simpa using this
 generalize (w.alloc (.cells D.cD 39)).alloc (.cells (zC 39) 39)=Wb at H0⊢;obtain⟨b2,cr⟩:∃b2,w.heap.size+1=b2:=⟨_,rfl⟩
 obtain⟨b0,aD⟩:∃b0,w.heap.size=b0:=⟨_,rfl⟩
 rw[cr,aD] at H0;rw[cr,aD];have Hb:=hid (Zz aD cr);clear cr aD;have qK:=hid (D4 D C HB.out.2.2 Wb H0.out.1.dm);go_wp2_with (refine kc (by rfl) 39 _ rfl ⟨b0,0,none⟩ rfl D.cD _ H0.out.1.st.part underlying39 rfl H0.out.1.dm.info ?_);refine qK.out.mono ?_;rintro e wy ⟨rfl,rO⟩;have rv:Hid (cm wy b0 D/\St wy 39 b2 (zC 39)/\Below b0 w wy/\b0<=wy.heap.size):=⟨H0.out.1.ab rO,H0.out.2.1.ab rO,H0.out.2.2.trans (rO.mono (by have:=H0.out.2.2.size;have:=Hb.out.1;omega)),by have:=H0.out.2.2.size;have:=rO.size;have:=Hb.out.1;omega⟩
 have zu:=hid (zol D C wy rv.out.1.dm HB.out.2.2);clear rO qK;go_wp2_with (refine kc (by rfl) 39 _ rfl ⟨b0,0,none⟩ rfl D.cD _ rv.out.1.st.part underlying39 rfl rv.out.1.dm.info ?_);refine zu.out.mono ?_;rintro e wT ⟨T,rfl,Xr,t1,t2,t3,t4,t5,t6,bT,_⟩;have HT:=hid (Zz Xr (show oJ D C D.n (nG D) D.q T from ⟨t1,t2,t3,t4,t5,t6⟩));have H1:Hid (St wT 39 b2 (zC 39)/\Below b0 w wT/\b0<=wT.heap.size):=⟨rv.out.2.1.ab bT,rv.out.2.2.1.trans (bT.mono rv.out.2.2.2),by have:=rv.out.2.2.2;have:=bT.size;omega⟩
 obtain⟨k,dN,rG⟩:=ZD (HT.out.2.kv HB.out.2.2);have HOr:=hid (ZR T C _ k rfl dN rG wT HT.out.1 (HT.out.2.kv HB.out.2.2));have Ys:=hid (Zz dN rG);clear Xr t1 t2 t3 t4 t5 t6 bT zu dN rG;go_wp2_with fail;refine HOr.out.mono ?_;rintro e wO ⟨O,rfl,Wi,t1,t2,t3,t4,t5,t6,bO,_⟩;have HO:=hid (Zz Wi (S8.made HB.out.2.2 HT.out.2 rfl Ys.out.1 Ys.out.2 ⟨t1,t2,t3,t4,t5,t6⟩));have H2:Hid (St wO 39 b2 (zC 39)/\Below b0 w wO/\b0<=wO.heap.size):=⟨H1.out.1.ab bO,H1.out.2.1.trans (bO.mono H1.out.2.2),by have:=H1.out.2.2;have:=bO.size;omega⟩
 clear Wi t1 t2 t3 t4 t5 t6 bO HOr;have jk:=hid (St.new wO 39 (zC 39));have H3:Hid (cm ((wO.alloc (.cells (zC 39) 39)).setRow wO.heap.size O.cD) wO.heap.size O/\Below wO.heap.size wO ((wO.alloc (.cells (zC 39) 39)).setRow wO.heap.size O.cD)):=
  ⟨cm.stored HO.out.2.r (HO.out.1.below (al _ _)) (St.new _ _ _),lk (al _ _) (Nat.le_refl _) _⟩
 go_upto_region 4 with (first
  | (refine oO rfl 39 rfl (zC 39) (lP _) ?_)
  | (refine l6 rfl 39 _ _ rfl wO.heap.size 39 (zC 39) O.cD rfl rfl jk.out (by rw[ir,HO.out.1.sz]) (by rw[fB,HO.out.1.sz]) HO.out.1.one ?_))
 simp only[put,sA,sB,sC];obtain⟨b4,eV⟩:∃b4,wO.heap.size=b4:=⟨_,rfl⟩
 rw[eV] at H3;rw[eV];generalize (wO.alloc (.cells (zC 39) 39)).setRow b4 O.cD=V at H3⊢;have H4:Hid (St V 39 b2 (zC 39)/\Below b0 w V/\b0<=V.heap.size):=by
  have h:=H3.out.2;have hs:=h.size;rw[<-eV] at h;exact⟨H2.out.1.ab h,H2.out.2.1.trans (h.mono H2.out.2.2),by have:=H2.out.2.2;omega⟩
 clear eV jk;have dG:Hid (∀W',Below V.heap.size V W'->Below V.heap.size V W'/\cm W' b4 O):=fun W' h=>⟨h,H3.out.1.ab h⟩
 go_cut [5] from 13 to 17 (fun v wx=>∃(b5:Nat) (P:Dd) (C':Nat),v=.pointer (some ⟨b5,0,none⟩)/\cm wx b5 P/\u9 O P C C'/\Below V.heap.size V wx)
 case first=>
  refine wp_region_held_drew (S:=fun W'=>Below V.heap.size V W'/\cm W' b4 O) (by kernel_rfl) (dG.out _ (Below.refl _ _).drew) (fun hHeld=>?_)
  (refine av 0 (v:=.agg O.cD) ?_ (hy:=by intro wz hSw;exact uI (o:=_) (ρ:=_) wz 39 (.tmp 4) rfl ⟨b4,0,none⟩ rfl O.cD _ (cm.st (And.right hSw)).part underlying39 rfl (cm.dm (And.right hSw)).info))
  (refine av 1 (v:=.agg O.cD) ?_ (hy:=by intro wz hSw;exact uI (o:=_) (ρ:=_) wz 39 (.tmp 4) rfl ⟨b4,0,none⟩ rfl O.cD _ (cm.st (And.right hSw)).part underlying39 rfl (cm.dm (And.right hSw)).info);try simp only[put,sA,sB,sC])
  refine wpAnyH_ready (rs:=[2,5]) (by kernel_rfl) (by simp) ?_;refine gy (fun K hK=>?_) ?_
  ·skip;go_simp;go_at_call 59;refine (Wt O C HO.out.2.r _ hHeld.2.dm).mono ?_;rintro e w8 ⟨f,B,aB,cB,rfl,ho,IU,vv⟩;have bY:Below V.heap.size V w8:=hHeld.1.trans (vv.mono hHeld.1.size);have HK:=hid (Zz (ziP ho) IU);clear ho IU vv
   try go_wp2_with fail
   refine hK.out _ _ (dG.out _ bY) (fun hHeld=>?_);clear hK K
   try simp only[put,sA,sB,sC]
   clear bY;refine wpAnyH_ready (rs:=[3,5]) (by kernel_rfl) (by simp) ?_;refine gy (fun K hK=>?_) ?_
   ·skip;go_simp;go_at_call 58;refine (S4 O C HO.out.2.r _ f B HK.out.2 aB cB _ hHeld.2.dm HK.out.1).mono ?_;rintro e w9 ⟨M,rfl,AZ,t1,t2,t3,t4,t5,t6,vv,_⟩;have bY:Below V.heap.size V w9:=hHeld.1.trans (vv.mono hHeld.1.size);have nI:=hid (Zz AZ (show qV O C f B M from ⟨t1,t2,t3,t4,t5,t6⟩));clear AZ t1 t2 t3 t4 t5 t6 vv
    try go_wp2_with fail
    refine hK.out _ _ (dG.out _ bY) (fun hHeld=>?_);clear hK K
    try simp only[put,sA,sB,sC]
    clear bY;refine wpAnyH_ready (rs:=[4,5]) (by kernel_rfl) (by simp) ?_;refine gy (fun K hK=>?_) ?_
    ·skip;go_simp;go_at_call 57;refine (Nd M C (nI.out.2.right HO.out.2.r HK.out.2) _ nI.out.1).mono ?_;rintro e qs ⟨P,g,C',rfl,wY,xj,tO,vv⟩;have bY:Below V.heap.size V qs:=hHeld.1.trans (vv.mono hHeld.1.size);have kz:=hid (Zz wY (show u9 O P C C' from ⟨f,B,M,g,HK.out.2,nI.out.2,xj,tO⟩));clear wY xj tO vv
     try go_wp2_with fail
     refine hK.out _ _ (dG.out _ bY) (fun hHeld=>?_);clear hK K
     try simp only[put,sA,sB,sC]
     clear bY;refine bq 5 (fun K hK=>?_);skip;refine EY (by rfl) 39 (by rfl) (zC 39) (lP _) ?_;have kk:=al qs (.cells (zC 39) 39);have bY:Below V.heap.size V (qs.alloc (.cells (zC 39) 39)):=hHeld.1.trans (kk.mono hHeld.1.size);have kz:=hid (Zz (kz.out.1.below kk) kz.out.2);have H7:Hid (St (qs.alloc (.cells (zC 39) 39)) 39 qs.heap.size (zC 39)/\V.heap.size<=qs.heap.size):=(⟨St.new _ _ _,hHeld.1.size⟩);refine hK.out _ _ (dG.out _ bY) (fun hHeld=>?_);clear hK K
     try simp only[put,sA,sB,sC]
     try simp only[kG]
     clear kk;generalize (qs.alloc (.cells (zC 39) 39))=V7 at H7 kz hHeld bY⊢;refine bq 6 (fun K hK=>?_);skip;refine Ec (by rfl) 39 _ _ (by rfl) qs.heap.size 39 (zC 39) P.cD (by rfl) (by rfl) H7.out.1 (by rw[ir,kz.out.1.sz]) (by rw[fB,kz.out.1.sz]) kz.out.1.one ?_;have HE:=hid (Zz (cm.stored (kz.out.2.right HO.out.2.r) kz.out.1 H7.out.1) (Zz kz.out.2 (lk hHeld.1 H7.out.2 P.cD)));refine hK.out _ _ (dG.out _ HE.out.2.2) (fun hHeld=>?_);clear hK K
     try simp only[put,sA,sB,sC]
     refine wpAnyH_done (by kernel_rfl) ?_ _;clear hHeld;go_wp2_with fail
     go_meet
     exact⟨_,P,C',rfl,HE.out⟩
    refine gy (fun K hK=>?_) ?_
    ·skip;refine EY (by rfl) 39 (by rfl) (zC 39) (lP _) ?_;have kk:=al w9 (.cells (zC 39) 39);have bY:Below V.heap.size V (w9.alloc (.cells (zC 39) 39)):=hHeld.1.trans (kk.mono hHeld.1.size);have nI:=hid (Zz (nI.out.1.below kk) nI.out.2);have H7:Hid (St (w9.alloc (.cells (zC 39) 39)) 39 w9.heap.size (zC 39)/\V.heap.size<=w9.heap.size):=(⟨St.new _ _ _,hHeld.1.size⟩);refine hK.out _ _ (dG.out _ bY) (fun hHeld=>?_);clear hK K
     try simp only[put,sA,sB,sC]
     try simp only[kG]
     clear kk;generalize (w9.alloc (.cells (zC 39) 39))=V7 at H7 nI hHeld bY⊢;refine bq 4 (fun K hK=>?_);skip;go_simp;go_at_call 57;refine (Nd M C (nI.out.2.right HO.out.2.r HK.out.2) _ nI.out.1).mono ?_;rintro e qs ⟨P,g,C',rfl,wY,xj,tO,vv⟩;have H7:Hid (St qs 39 w9.heap.size (zC 39)/\V.heap.size<=w9.heap.size):=(⟨H7.out.1.ab vv,H7.out.2⟩);have bY:Below V.heap.size V qs:=hHeld.1.trans (vv.mono hHeld.1.size);have kz:=hid (Zz wY (show u9 O P C C' from ⟨f,B,M,g,HK.out.2,nI.out.2,xj,tO⟩));clear wY xj tO vv
     try go_wp2_with fail
     refine hK.out _ _ (dG.out _ bY) (fun hHeld=>?_);clear hK K
     try simp only[put,sA,sB,sC]
     clear bY;refine bq 6 (fun K hK=>?_);skip;refine Ec (by rfl) 39 _ _ (by rfl) w9.heap.size 39 (zC 39) P.cD (by rfl) (by rfl) H7.out.1 (by rw[ir,kz.out.1.sz]) (by rw[fB,kz.out.1.sz]) kz.out.1.one ?_;have HE:=hid (Zz (cm.stored (kz.out.2.right HO.out.2.r) kz.out.1 H7.out.1) (Zz kz.out.2 (lk hHeld.1 H7.out.2 P.cD)));refine hK.out _ _ (dG.out _ HE.out.2.2) (fun hHeld=>?_);clear hK K
     try simp only[put,sA,sB,sC]
     refine wpAnyH_done (by kernel_rfl) ?_ _;clear hHeld;go_wp2_with fail
     go_meet
     exact⟨_,P,C',rfl,HE.out⟩
    exact AllReadyH.nil
   refine gy (fun K hK=>?_) ?_
   ·skip;refine EY (by rfl) 39 (by rfl) (zC 39) (lP _) ?_;have kk:=al w8 (.cells (zC 39) 39);have bY:Below V.heap.size V (w8.alloc (.cells (zC 39) 39)):=hHeld.1.trans (kk.mono hHeld.1.size);have HK:=hid (Zz (HK.out.1.below kk) HK.out.2);have H7:Hid (St (w8.alloc (.cells (zC 39) 39)) 39 w8.heap.size (zC 39)/\V.heap.size<=w8.heap.size):=(⟨St.new _ _ _,hHeld.1.size⟩);refine hK.out _ _ (dG.out _ bY) (fun hHeld=>?_);clear hK K
    try simp only[put,sA,sB,sC]
    try simp only[kG]
    clear kk;generalize (w8.alloc (.cells (zC 39) 39))=V7 at H7 HK hHeld bY⊢;refine bq 3 (fun K hK=>?_);skip;go_simp;go_at_call 58;refine (S4 O C HO.out.2.r _ f B HK.out.2 aB cB _ hHeld.2.dm HK.out.1).mono ?_;rintro e w9 ⟨M,rfl,AZ,t1,t2,t3,t4,t5,t6,vv,_⟩;have H7:Hid (St w9 39 w8.heap.size (zC 39)/\V.heap.size<=w8.heap.size):=(⟨H7.out.1.ab vv,H7.out.2⟩);have bY:Below V.heap.size V w9:=hHeld.1.trans (vv.mono hHeld.1.size);have nI:=hid (Zz AZ (show qV O C f B M from ⟨t1,t2,t3,t4,t5,t6⟩));clear AZ t1 t2 t3 t4 t5 t6 vv
    try go_wp2_with fail
    refine hK.out _ _ (dG.out _ bY) (fun hHeld=>?_);clear hK K
    try simp only[put,sA,sB,sC]
    clear bY;refine bq 4 (fun K hK=>?_);skip;go_simp;go_at_call 57;refine (Nd M C (nI.out.2.right HO.out.2.r HK.out.2) _ nI.out.1).mono ?_;rintro e qs ⟨P,g,C',rfl,wY,xj,tO,vv⟩;have H7:Hid (St qs 39 w8.heap.size (zC 39)/\V.heap.size<=w8.heap.size):=(⟨H7.out.1.ab vv,H7.out.2⟩);have bY:Below V.heap.size V qs:=hHeld.1.trans (vv.mono hHeld.1.size);have kz:=hid (Zz wY (show u9 O P C C' from ⟨f,B,M,g,HK.out.2,nI.out.2,xj,tO⟩));clear wY xj tO vv
    try go_wp2_with fail
    refine hK.out _ _ (dG.out _ bY) (fun hHeld=>?_);clear hK K
    try simp only[put,sA,sB,sC]
    clear bY;refine bq 6 (fun K hK=>?_);skip;refine Ec (by rfl) 39 _ _ (by rfl) w8.heap.size 39 (zC 39) P.cD (by rfl) (by rfl) H7.out.1 (by rw[ir,kz.out.1.sz]) (by rw[fB,kz.out.1.sz]) kz.out.1.one ?_;have HE:=hid (Zz (cm.stored (kz.out.2.right HO.out.2.r) kz.out.1 H7.out.1) (Zz kz.out.2 (lk hHeld.1 H7.out.2 P.cD)));refine hK.out _ _ (dG.out _ HE.out.2.2) (fun hHeld=>?_);clear hK K
    try simp only[put,sA,sB,sC]
    refine wpAnyH_done (by kernel_rfl) ?_ _;clear hHeld;go_wp2_with fail
    go_meet
    exact⟨_,P,C',rfl,HE.out⟩
   exact AllReadyH.nil
  refine gy (fun K hK=>?_) ?_
  ·skip;refine EY (by rfl) 39 (by rfl) (zC 39) (lP _) ?_;have kk:=al V.drew (.cells (zC 39) 39);have bY:Below V.heap.size V (V.drew.alloc (.cells (zC 39) 39)):=hHeld.1.trans (kk.mono hHeld.1.size);have H7:Hid (St (V.drew.alloc (.cells (zC 39) 39)) 39 V.heap.size (zC 39)/\V.heap.size<=V.heap.size):=(⟨St.new _ _ _,hHeld.1.size⟩);refine hK.out _ _ (dG.out _ bY) (fun hHeld=>?_);clear hK K
   try simp only[put,sA,sB,sC]
   try simp only[kG]
   clear kk;generalize (V.drew.alloc (.cells (zC 39) 39))=V7 at H7 hHeld bY⊢;refine bq 2 (fun K hK=>?_);skip;go_simp;go_at_call 59;refine (Wt O C HO.out.2.r _ hHeld.2.dm).mono ?_;rintro e w8 ⟨f,B,aB,cB,rfl,ho,IU,vv⟩;have H7:Hid (St w8 39 V.heap.size (zC 39)/\V.heap.size<=V.heap.size):=(⟨H7.out.1.ab vv,H7.out.2⟩);have bY:Below V.heap.size V w8:=hHeld.1.trans (vv.mono hHeld.1.size);have HK:=hid (Zz (ziP ho) IU);clear ho IU vv
   try go_wp2_with fail
   refine hK.out _ _ (dG.out _ bY) (fun hHeld=>?_);clear hK K
   try simp only[put,sA,sB,sC]
   clear bY;refine bq 3 (fun K hK=>?_);skip;go_simp;go_at_call 58;refine (S4 O C HO.out.2.r _ f B HK.out.2 aB cB _ hHeld.2.dm HK.out.1).mono ?_;rintro e w9 ⟨M,rfl,AZ,t1,t2,t3,t4,t5,t6,vv,_⟩;have H7:Hid (St w9 39 V.heap.size (zC 39)/\V.heap.size<=V.heap.size):=(⟨H7.out.1.ab vv,H7.out.2⟩);have bY:Below V.heap.size V w9:=hHeld.1.trans (vv.mono hHeld.1.size);have nI:=hid (Zz AZ (show qV O C f B M from ⟨t1,t2,t3,t4,t5,t6⟩));clear AZ t1 t2 t3 t4 t5 t6 vv
   try go_wp2_with fail
   refine hK.out _ _ (dG.out _ bY) (fun hHeld=>?_);clear hK K
   try simp only[put,sA,sB,sC]
   clear bY;refine bq 4 (fun K hK=>?_);skip;go_simp;go_at_call 57;refine (Nd M C (nI.out.2.right HO.out.2.r HK.out.2) _ nI.out.1).mono ?_;rintro e qs ⟨P,g,C',rfl,wY,xj,tO,vv⟩;have H7:Hid (St qs 39 V.heap.size (zC 39)/\V.heap.size<=V.heap.size):=(⟨H7.out.1.ab vv,H7.out.2⟩);have bY:Below V.heap.size V qs:=hHeld.1.trans (vv.mono hHeld.1.size);have kz:=hid (Zz wY (show u9 O P C C' from ⟨f,B,M,g,HK.out.2,nI.out.2,xj,tO⟩));clear wY xj tO vv
   try go_wp2_with fail
   refine hK.out _ _ (dG.out _ bY) (fun hHeld=>?_);clear hK K
   try simp only[put,sA,sB,sC]
   clear bY;refine bq 6 (fun K hK=>?_);skip;refine Ec (by rfl) 39 _ _ (by rfl) V.heap.size 39 (zC 39) P.cD (by rfl) (by rfl) H7.out.1 (by rw[ir,kz.out.1.sz]) (by rw[fB,kz.out.1.sz]) kz.out.1.one ?_;have HE:=hid (Zz (cm.stored (kz.out.2.right HO.out.2.r) kz.out.1 H7.out.1) (Zz kz.out.2 (lk hHeld.1 H7.out.2 P.cD)));refine hK.out _ _ (dG.out _ HE.out.2.2) (fun hHeld=>?_);clear hK K
   try simp only[put,sA,sB,sC]
   refine wpAnyH_done (by kernel_rfl) ?_ _;clear hHeld;go_wp2_with fail
   go_meet
   exact⟨_,P,C',rfl,HE.out⟩
  exact AllReadyH.nil
 case rest=>
  obtain⟨b5,P,C',rfl,Nu,Qv,Km⟩:=hcut;have HP:=hid (Zz Nu (Zz Qv Km));have H5:Hid (St wc 39 b2 (zC 39)/\Below b0 w wc/\b0<=wc.heap.size):=⟨H4.out.1.ab Km,H4.out.2.1.trans (Km.mono H4.out.2.2),by have:=H4.out.2.2;have:=Km.size;omega⟩
  obtain⟨k2,yc,Dn⟩:=ZD (HP.out.2.1.right HO.out.2.r);have HOr:=hid (ZR P C' _ k2 rfl yc Dn wc HP.out.1.dm (HP.out.2.1.right HO.out.2.r));have CC:=hid (Zz yc Dn);clear Nu Qv Km yc Dn;go_wp2_with (refine kc (by rfl) 39 _ rfl ⟨b5,0,none⟩ rfl P.cD _ HP.out.1.st.part underlying39 rfl HP.out.1.dm.info ?_);refine HOr.out.mono ?_;rintro e wX ⟨X,rfl,BI,t1,t2,t3,t4,t5,t6,bX,_⟩;have HX:=hid (u9.mn HO.out.2.r HO.out.2.ord HO.out.2.Er HP.out.2.1 rfl CC.out.1 CC.out.2 (X:=X) ⟨t1,t2,t3,t4,t5,t6⟩);have A5:=hid BI;have ux:Hid (X.n<=D.n):=by have h1:=HP.out.2.1.le;have h2:=HO.out.2.le;have h3:=CC.out.2;show X.n<=D.n;omega
  have fQ:=hid (H5.out.1.ab bX);have HF:Hid (Ww D w (.returned (.tuple #[.agg X.cD,.int .i64 0])) (wX.setRow b2 X.cD)):=by
   have hb:Below w.heap.size w wX:=by
    have h:=H5.out.2.1.trans (bX.mono H5.out.2.2);rw[Hb.out.1];exact h
   refine⟨X,C',rfl,(cm.stored HX.out.1.r BI fQ.out).dm,HX.out.1,HX.out.2.trans HO.out.2.xN,ux.out,lk hb (by have:=Hb.out.2;omega) _⟩
  clear BI t1 t2 t3 t4 t5 t6 bX HOr;go_wp2_with (refine l6 rfl 39 _ _ rfl b2 39 (zC 39) X.cD rfl rfl fQ.out (by rw[ir,A5.out.sz]) (by rw[fB,A5.out.sz]) A5.out.one ?_);refine bodyPost_ret (wR rfl _ _ b2 X.cD _ rfl fQ.out.setRow.part underlying39 rfl (by rw[fB,A5.out.sz])) rfl ?_;exact HF.out
end Go.Proofs.YtbacgnhkapancaaGreat
