import Derived.Test.YtbacgnhkapancaaGreatZSVar
import Derived.BigFrame
import Derived.Deep.RegionHeld
import Derived.OrdersHeld
import Derived.Scope
set_option linter.all false
set_option maxHeartbeats 1000000
set_option maxRecDepth 100000
open Go.Lib (hid)
namespace Go.Proofs.YtbacgnhkapancaaGreat
open Go.RowKit Go.Maps Go.WideElems Go.ChangeMaps Go.MapKept Go.Proofs.Tryz
open Or (inl inr)
structure Dd where
 cD:Array Value
 K:Nat->Nat
 aN:Option Addr
 n:Nat
 cN:Nat
 A:Nat->Option Addr
 Cp:Nat->Nat
 len:Nat->Nat
 nx:Nat->Nat->Int
 aM:Option Addr
 m:Nat
 cM:Nat
 q:Nat->Int
structure DM (w:World)(D:Dd):Prop where
 sz:D.cD.size=258
 one:∀v∈D.cD.toList,v.oneCell'=true
 cl:∀j,j<256->D.cD[j]?=some (.int .u8 ((D.K j:Nat):Int))
 kl:∀j,j<256->D.K j<256
 fN:D.cD[256]?=some (.slice D.aN D.n D.cN)
 fM:D.cD[257]?=some (.slice D.aM D.m D.cM)
 rN:pQ w D.aN D.n D.A D.Cp D.len D.nx
 rM:kE w D.aM D.m D.q
theorem DM.below{w w':World}{D:Dd}(h:DM w D)(k:Below w.heap.size w w'):DM w' D:=⟨h.sz,h.one,h.cl,h.kl,h.fN,h.fM,h.rN.below k,h.rM.below k⟩
structure cm (w:World)(b:Nat)(D:Dd):Prop where
 st:St w 39 b D.cD
 dm:DM w D
theorem cm.ab{w w':World}{b:Nat}{D:Dd}(h:cm w b D)(k:Below w.heap.size w w'):cm w' b D:=⟨h.st.ab k,h.dm.below k⟩
theorem cm.new{w:World}{D:Dd}(h:DM w D):cm (w.alloc (.cells D.cD 39)) w.heap.size D:=⟨St.new _ _ _,h.below (al w _)⟩
theorem cm.f1{w:World}{b:Nat}{D:Dd}(h:cm w b D):w.cell? ⟨b,256,none⟩=some (.slice D.aN D.n D.cN):=by rw[h.st.at_,h.dm.fN]
theorem cm.f2{w:World}{b:Nat}{D:Dd}(h:cm w b D):w.cell? ⟨b,257,none⟩=some (.slice D.aM D.m D.cM):=by rw[h.st.at_,h.dm.fM]
theorem cm.f0{w:World}{b:Nat}{D:Dd}(h:cm w b D)(j:Nat)(hj:j<256):w.cell? ⟨b,j,none⟩=some (.int .u8 ((D.K j:Nat):Int)):=by rw[h.st.at_,h.dm.cl j hj]
theorem DM.info{w:World}{D:Dd}(h:DM w D):(prog.info? 39).map (·.size)=some D.cD.size:=by rw[fB,h.sz]
theorem DM.row{w:World}{D:Dd}(h:DM w D)(i:Nat)(hi:i<D.n):∃g off,D.aN=some ⟨g,off,none⟩/\g<w.heap.size/\w.cell? ⟨g,off+i,none⟩=some (.slice (D.A i) (D.len i) (D.Cp i))/\kE w (D.A i) (D.len i) (D.nx i):=by
 obtain⟨g,off,e,hg,hc⟩:=h.rN (by omega);exact⟨g,off,e,hg,hc i hi⟩
def Ag(K:Nat->Nat)(C:Nat):Prop:=(∀j,j<256->K j<C)/\∃j,j<256/\K j+1=C
structure DR (D:Dd)(C:Nat):Prop where
 c:Ag D.K C
 n1:1<=D.n
 n2:D.n<=32768
 m:D.m=D.n
 zy:∀c,c<C->∃j,j<256/\D.K j=c
 len:∀i,i<D.n->D.len i=C
 q:∀i,i<D.n->-1<=D.q i/\D.q i<32768
 nx:∀i c,i<D.n->c<C->-1<=D.nx i c/\D.nx i c<(D.n:Int)
theorem DR.jn{D:Dd}{C:Nat}(h:DR D C)(hk:∀j,j<256->D.K j<256):1<=C/\C<=256:=by
 obtain⟨j,hj,e⟩:=h.c.2;have:=hk j hj;omega
def aP(K:Nat->Nat):Array Value:=((List.range 256).map fun j=>Value.int .u8 ((K j:Nat):Int)).toArray
theorem Db(K:Nat->Nat)(j:Nat)(hj:j<256):(aP K)[j]?=some (.int .u8 ((K j:Nat):Int)):=by simp[aP,hj]
theorem Nw(K:Nat->Nat):(aP K).size=256:=by simp[aP]
theorem vU(K:Nat->Nat):(prog.info? 36).map (·.size)=some (aP K).size:=by rw[Nw];kernel_rfl
theorem cm.dC{w:World}{b:Nat}{D:Dd}(h:cm w b D):∀j v,(aP D.K).toList[j]?=some v->w.cell? ((⟨b,0,none⟩:Addr).add j)=some v:=fun j v hj=>by
 have hl:j<256:=by
  have:=(List.getElem?_eq_some_iff.1 hj).1
  simpa [Nw] using this
 have e:(⟨b,0,none⟩:Addr).add j=⟨b,j,none⟩:=by unfold Addr.add;split <;> simp_all
 rw[e,h.f0 j hl,<-hj,Array.getElem?_toList,Db _ j hl]
theorem St.dC{w:World}{b t:Nat}{K:Nat->Nat}(h:St w t b (aP K)):∀j v,(aP K).toList[j]?=some v->w.cell? ((⟨b,0,none⟩:Addr).add j)=some v:=h.part
theorem kc{P:Program}{ops:Array Oper}{rest:List Oper}{o:Oper}{a:Act}{w:World}{Q:Exit->Act->World->Prop}(hw:Region.wanted o (yielded ops a.tmps)=true)(ty:TypeId)(x:Operand)(ho:o.op=.load ty x)
  (ad:Addr) (hx:a.eval x=.pointer (some ad)) (cs:Array Value) (d:TypeDesc) (hc:∀j v,cs.toList[j]?=some v->w.cell? (ad.add j)=some v)
  (hu:P.underlying ty=some d) (hd:(match d with|.struct _|.array _ _=>true|_=>false)=true) (hi:(P.info? ty).map (·.size)=some cs.size)
  (h:wpList P ops Q rest (a.put o.dst (.agg cs)) w):wpList P ops Q (o :: rest) a w:=
 BigFrame.wpList_want hw fun _ hK=>by
  unfold Oper.wp execOp
  simp only[ho,hx,Instr.loadAt,Instr.sureAddr,Sem.run_bind,Sem.run_pure,Result.andThen_ok,Gh w ad ty cs d hc hu hd hi]
  exact hK _ _ h
theorem Ez(K:Nat->Nat)(C:Nat)(hC:Ag K C)(hk:∀j,j<256->K j<256)(w:World):
  Calls prog 104 #[.agg (aP K)] w fun e w'=>e=.returned (.int .i64 (C:Int))/\Below w.heap.size w w':=by
 have hB:=al w (.cells (aP K) 36);have hS:=St.new w 36 (aP K);have hM:=hid (Xi K 256 256 w.heap.size (by omega) (by omega) hk (w.alloc (.cells (aP K) 36)) (fun j hj=>by rw[hS.at_,Db K j hj]));have HB:=hid hB;have HT:Hid (∀x,(∀j,j<256->K j<=x)->(∃j,j<256/\K j=x)->x+1=C/\x<256):=fun x h1 h2=>by
  obtain⟨j,hj,e⟩:=hC.2;obtain⟨j',Ea,rfl⟩:=h2;have:=hC.1 j' Ea;have:=h1 j hj;have:=hk j' Ea;omega
 clear hB hS;go_enter func104,ntmps104;go_wp2_with fail;refine hM.out.mono ?_;rintro e w2 ⟨x,rfl,h1,h2,rfl⟩;obtain⟨hx,ld⟩:=HT.out x h1 h2;have HX:=hid hx;clear h1 h2 hx;go_wp2;go_ret;exact⟨by rw[<-HX.out];first|rfl|(simp;done),HB.out⟩
theorem I7(D:Dd)(s:Int)(w:World)(hD:DM w D):
  Calls prog 105 #[.agg D.cD,.int .i64 s] w fun e w'=>e=.returned (.bool (decide (0<=s/\s<(D.n:Int))))/\Below w.heap.size w w':=by
 have HB:=hid (Zz (cm.new hD) (al w (.cells D.cD 39)));clear hD;go_enter func105,ntmps105;go_upto_region 1 with fail;generalize w.alloc (.cells D.cD 39)=W0 at HB⊢;obtain⟨b0,aD⟩:∃b0,w.heap.size=b0:=⟨_,rfl⟩
 have cP:=hid aD;rw[aD] at HB;rw[aD];clear aD;have f1:=HB.out.1.f1;by_cases h0:0<=s
 ·by_cases h1:s<(D.n:Int)
  ·have HZ:Hid (decide (0<=s/\s<(D.n:Int))=true):=(by show _=_;simp[h0,h1]);go_wp2;go_ret;exact⟨by rw[HZ.out];first|rfl|simp[h0,h1],by first|exact HB.out.2|(rw[cP.out];exact HB.out.2)⟩
  have HZ:Hid (decide (0<=s/\s<(D.n:Int))=false):=by show _=_;simp;omega
  go_wp2;go_ret;exact⟨by first|(rw[HZ.out];rfl)|(rw[show decide (0<=s/\s<(D.n:Int))=false from HZ.out];rfl)|(have:=HZ.out;simp_all),by first|exact HB.out.2|(rw[cP.out];exact HB.out.2)⟩
 have HZ:Hid (decide (0<=s/\s<(D.n:Int))=false):=by show _=_;simp;omega
 go_wp2;go_ret;exact⟨by first|(rw[HZ.out];rfl)|(rw[show decide (0<=s/\s<(D.n:Int))=false from HZ.out];rfl)|(have:=HZ.out;simp_all),by first|exact HB.out.2|(rw[cP.out];exact HB.out.2)⟩
theorem zdB(K:Nat->Nat)(C:Nat)(hC:Ag K C)(hk:∀j,j<256->K j<256)(hg:∀c,c<C->∃j,j<256/\K j=c)(w:World):
  Calls prog 68 #[.agg (aP K)] w fun e w'=>e=.returned (.bool true)/\Below w.heap.size w w':=by
 have J8:C<=256:=by
  obtain⟨j,hj,e⟩:=hC.2;have:=hk j hj;omega
 have HB:=hid (Zz (St.new w 36 (aP K)) (Zz (al w (.cells (aP K) 36)) (Zz hC (Zz hk hg))));have dL:=vU K;clear hC hk hg;go_enter func68,ntmps68;go_wp2_with fail;generalize w.alloc (.cells (aP K) 36)=W0 at HB⊢;obtain⟨b0,aD⟩:∃b0,w.heap.size=b0:=⟨_,rfl⟩
 have cP:=hid aD;rw[aD] at HB;rw[aD];clear aD;have tr:=hid (Ez K C HB.out.2.2.1 HB.out.2.2.2.1 W0);refine wp_scope_straight (wp_seq (wp_label ?_));go_wp2_with (refine pM rfl 36 _ rfl ⟨b0,0,none⟩ rfl (aP K) (.array 256 5) HB.out.1.dC underlying36 rfl dL ?_);refine tr.out.mono ?_;rintro e w1 ⟨rfl,b1⟩;have H1:=hid (Zz (HB.out.1.ab b1) (HB.out.2.1.trans (b1.mono (by have:=HB.out.2.1.size;have:=cP.out;omega))));clear b1 tr;go_wp2_with fail;go_loopw [3,5,8,12] (fun _ _ v _ wr=>∃(c:Nat),v=.int .i64 c/\c<=C/\wr=w1) (fun _ _ v _ _=>C-(intOf v).toNat)
 ·exact⟨0,rfl,by omega,rfl⟩
 obtain⟨c,rfl,hc,rfl⟩:=hrel;by_cases an:c<C
 ·have i1:(c:Int)<C:=by omega
  obtain⟨W9,OK⟩:∃W9,W9=wr:=⟨wr,rfl⟩
  have eB:=hid H1.out.1;go_wp2_with (refine pM rfl 36 _ rfl ⟨b0,0,none⟩ rfl (aP K) (.array 256 5) eB.out.dC underlying36 rfl dL ?_);go_loopw [5,12] (fun _ v wq=>∃(k:Nat),v=.int .i64 k/\k<=256/\wq=wr/\Hid (∀j,j<k->K j≠c)) (fun _ v _=>256-(intOf v).toNat)
  ·exact⟨0,rfl,by omega,rfl,fun j hj=>by omega⟩
  obtain⟨k,rfl,eQ,rfl,HN⟩:=hrel;by_cases dN:k<256
  ·have i2:(k:Int)<256:=(by omega);have hv:=Db K k dN;have Ac:=KR 36 5 256 (aP K) k _ underlying36 dN (by kernel_rfl) ⟨_,underlying5,rfl⟩ hv wr;have vY:=HB.out.2.2.2.1 k dN;have HS:Hid (K k≠c->∀j,j<k+1->K j≠c):=fun h j hj=>by
    by_cases e:j=k
    ·subst e;exact h
    exact HN.out j (by omega)
   generalize K k=y at hv Ac vY HS;by_cases e:y=c
   ·subst e;clear HS;go_wp2;go_roundw
    ·exact⟨y+1,by go_num,by omega,by first|trivial|rfl⟩
    simp[intOf];omega
   have HZ:=hid (HS.out e);have i3:¬((y:Int)=c):=(by omega);go_wp2;go_roundw
   ·exact⟨k+1,by go_num,by omega,by first|trivial|rfl,HZ⟩
   simp[intOf];omega
  obtain rfl:k=256:=by omega
  obtain⟨j,hj,e⟩:=HB.out.2.2.2.2 c an;exact absurd e (HN.out j hj)
 obtain rfl:c=C:=by omega
 go_wp2_with fail
 try dsimp only[Exit.noGoto]
 go_ret;exact⟨rfl,by rw[cP.out];exact H1.out.2⟩
theorem zeH(D:Dd)(C:Nat)(hR:DR D C)(w:World)(hD:DM w D):
  Calls prog 69 #[.agg D.cD] w fun e w'=>e=.returned (.bool true)/\Below w.heap.size w w':=by
 have HB:=hid (Zz (cm.new hD) (Zz (al w (.cells D.cD 39)) hR));have cQ:=hR.n2;have jF:=hR.m;clear hD hR;go_enter func69,ntmps69;go_upto_region 1 with fail;generalize w.alloc (.cells D.cD 39)=W0 at HB⊢;obtain⟨b0,aD⟩:∃b0,w.heap.size=b0:=⟨_,rfl⟩
 have cP:=hid aD;rw[aD] at HB;rw[aD];clear aD;have f1:=HB.out.1.f1;have f2:=HB.out.1.f2;rw[jF] at f2;have Kz:=hid jF;clear jF;go_wp2_with fail;go_loopw [4,8] (fun _ v wr=>∃(k:Nat),v=.int .i64 k/\k<=D.n/\wr=W0) (fun _ v _=>D.n-(intOf v).toNat)
 ·exact⟨0,rfl,by omega,rfl⟩
 obtain⟨k,rfl,hk,rfl⟩:=hrel;by_cases an:k<D.n
 ·obtain⟨gM,oM,eM,_,mo⟩:=HB.out.1.dm.rM (by have:=Kz.out;omega);have cM:=mo k (by have:=Kz.out;omega);have hq:=HB.out.2.2.q k an;have i1:(k:Int)<(D.n:Int):=by omega
  rw[eM];have Qe:=hid eM;clear mo eM;generalize D.q k=y at cM hq;have i2:decide (y < -1)=false:=by simp;omega
  have i3:decide (32768<=y)=false:=by simp;omega
  go_wp2;go_roundw
  ·exact⟨k+1,by go_num,by omega,by first|trivial|rfl⟩
  simp[intOf];omega
 obtain rfl:k=D.n:=by omega
 go_wp2;go_ret;exact⟨rfl,by rw[cP.out];exact HB.out.2.1⟩
theorem zf8(D:Dd)(C:Nat)(hR:DR D C)(w:World)(hD:DM w D):
  Calls prog 70 #[.agg D.cD] w fun e w'=>e=.returned (.bool true)/\Below w.heap.size w w':=by
 have HB:=hid (Zz (cm.new hD) (Zz (al w (.cells D.cD 39)) hR));have cQ:=hR.n2;have uN:=(hR.jn hD.kl).2;have dL:=vU D.K;clear hD hR;go_enter func70,ntmps70;go_upto_region 1 with fail;generalize w.alloc (.cells D.cD 39)=W0 at HB⊢;obtain⟨b0,aD⟩:∃b0,w.heap.size=b0:=⟨_,rfl⟩
 have cP:=hid aD;rw[aD] at HB;rw[aD];clear aD;have tr:=hid (Ez D.K C HB.out.2.2.c HB.out.1.dm.kl W0);go_wp2_with (refine pM rfl 36 _ rfl ⟨b0,0,none⟩ rfl (aP D.K) (.array 256 5) HB.out.1.dC underlying36 rfl dL ?_);refine tr.out.mono ?_;rintro e w1 ⟨rfl,b1⟩;have H1:=hid (Zz (HB.out.1.ab b1) (HB.out.2.1.trans (b1.mono (by have:=HB.out.2.1.size;have:=cP.out;omega))));have f1:=H1.out.1.f1;clear b1 tr;obtain⟨gN,oN,eN,lH,pv⟩:=H1.out.1.dm.rN (by have:=HB.out.2.2.n1;omega);rw[eN] at f1;have z8:=hid eN;have rB:=hid pv;clear eN pv;go_wp2_with fail;go_loopw [5,7,14,24] (fun _ _ v _ wr=>∃(i:Nat),v=.int .i64 i/\i<=D.n/\Hid (Below w1.heap.size w1 wr)) (fun _ _ v _ _=>D.n-(intOf v).toNat)
 ·exact⟨0,rfl,by omega,Below.refl _ _⟩
 obtain⟨i,rfl,hi,HX⟩:=hrel;clear f1;by_cases an:i<D.n
 ·have cN:=(HX.out.cell (p:=⟨gN,oN+i,none⟩) lH).trans (rB.out i an).1;have Ah:=hid (rB.out i an).2;have hlen:=HB.out.2.2.len i an;rw[hlen] at cN;rw[hlen] at Ah;have i1:(i:Int)<(D.n:Int):=by omega
  try dsimp only at cN
  clear hlen;go_wp2_with fail;go_loopw [7,24] (fun _ v wq=>∃(c:Nat),v=.int .i64 c/\c<=C/\Hid (Below w1.heap.size w1 wq)) (fun _ v _=>C-(intOf v).toNat)
  ·exact⟨0,rfl,by omega,HX⟩
  clear HX cN;obtain⟨c,rfl,hc,HX⟩:=hrel;by_cases rT:c<C
  ·obtain⟨gA,oA,eA,Bv,mz⟩:=Ah.out (by omega);have cA:=(HX.out.cell (p:=⟨gA,oA+c,none⟩) Bv).trans (mz c rT);have hb:=HB.out.2.2.nx i c an rT;have i2:(c:Int)<C:=(by omega);have pg:=hid (H1.out.1.ab HX.out);rw[eA];have Hj:=hid eA;clear mz eA;generalize D.nx i c=t at cA hb;by_cases ht:t=-1
   ·subst ht;go_wp2;go_roundw
    ·exact⟨c+1,by go_num,by omega,HX⟩
    simp[intOf];omega
   have Hc:(t != (-1:Int))=true:=(by simp[ht]);have mB:=hid (I7 D t wr pg.out.dm);have Iu:Hid (decide (0<=t/\t<(D.n:Int))=true):=(by show _=_;simp;omega);go_wp2_with (refine kc (by first|rfl|(simp[ht];done)) 39 _ rfl ⟨b0,0,none⟩ rfl D.cD _ pg.out.st.part underlying39 rfl pg.out.dm.info ?_);refine mB.out.mono ?_;rintro e w5 ⟨rfl,b5⟩;have Qa:=hid (HX.out.trans (b5.mono HX.out.size));rw[Iu.out];clear b5 mB;go_wp2;go_roundw
   ·exact⟨c+1,by go_num,by omega,Qa⟩
   simp[intOf];omega
  obtain rfl:c=C:=by omega
  go_wp2;go_roundw
  ·exact⟨i+1,by go_num,by omega,HX⟩
  simp[intOf];omega
 obtain rfl:i=D.n:=by omega
 have HF:Hid (Below w.heap.size w wr):=by
  rw[cP.out];exact H1.out.2.trans (HX.out.mono (by have:=H1.out.2.size;have:=cP.out;omega))
 go_wp2;go_ret;exact⟨rfl,HF.out⟩
theorem D4(D:Dd)(C:Nat)(hR:DR D C)(w:World)(hD:DM w D):
  Calls prog 43 #[.agg D.cD] w fun e w'=>e=.returned (.bool true)/\Below w.heap.size w w':=by
 have HB:=hid (Zz (cm.new hD) (Zz (al w (.cells D.cD 39)) hR));have cQ:=hR.n2;have cZ:=hR.n1;have dL:=vU D.K;clear hD hR;go_enter func43,ntmps43;go_upto_region 1 with fail;generalize w.alloc (.cells D.cD 39)=W0 at HB⊢;obtain⟨b0,aD⟩:∃b0,w.heap.size=b0:=⟨_,rfl⟩
 have cP:=hid aD;rw[aD] at HB;rw[aD];clear aD;have f1:=HB.out.1.f1;have i1:¬((D.n:Int)<1):=by omega
 have i2:¬((32768:Int)<(D.n:Int)):=by omega
 have qH:b0<=W0.heap.size:=by have:=HB.out.2.1.size;have:=cP.out;omega
 have JK:=hid (zdB D.K C HB.out.2.2.c HB.out.1.dm.kl HB.out.2.2.zy W0);go_wp2_with (refine pM rfl 36 _ rfl ⟨b0,0,none⟩ rfl (aP D.K) (.array 256 5) HB.out.1.dC underlying36 rfl dL ?_);refine JK.out.mono ?_;rintro e w1 ⟨rfl,b1⟩;have H1:=hid (Zz (HB.out.1.ab b1) (HB.out.2.1.trans (b1.mono qH)));have fp:b0<=w1.heap.size:=by have:=b1.size;omega
 have EZ:=hid (zeH D C HB.out.2.2 w1 H1.out.1.dm);clear b1 f1 JK;go_wp2_with (refine kc (by rfl) 39 _ rfl ⟨b0,0,none⟩ rfl D.cD _ H1.out.1.st.part underlying39 rfl H1.out.1.dm.info ?_);refine EZ.out.mono ?_;rintro e w2 ⟨rfl,b2⟩;have H2:=hid (Zz (H1.out.1.ab b2) (H1.out.2.trans (b2.mono fp)));have cr:b0<=w2.heap.size:=by have:=b2.size;omega
 have vz:=hid (zf8 D C HB.out.2.2 w2 H2.out.1.dm);clear b2 EZ;go_wp2_with (refine kc (by rfl) 39 _ rfl ⟨b0,0,none⟩ rfl D.cD _ H2.out.1.st.part underlying39 rfl H2.out.1.dm.info ?_);refine vz.out.mono ?_;rintro e w3 ⟨rfl,b3⟩;have HF:Hid (Below w.heap.size w w3):=by
  rw[cP.out];exact H2.out.2.trans (b3.mono cr)
 clear b3 vz;go_wp2;go_ret;exact⟨rfl,HF.out⟩
theorem zqO(K:Nat->Nat):∃C,Ag K C:=by
 suffices h:∀k,∃C,(∀j,j<k+1->K j<C)/\∃j,j<k+1/\K j+1=C from h 255
 intro k
 induction k with
 | zero=>exact⟨K 0+1,fun j hj=>by rw[show j=0 by omega];omega,0,by omega,rfl⟩
 | succ k ih=>
  obtain⟨C,h1,j,hj,h2⟩:=ih;by_cases h:K (k+1)<C
  ·exact⟨C,fun i hi=>by
    by_cases e:i=k+1
    ·rw[e];exact h
    ·exact h1 i (by omega),j,by omega,h2⟩
  exact⟨K (k+1)+1,fun i hi=>by
   by_cases e:i=k+1
   ·rw[e];omega
   ·have:=h1 i (by omega);omega,k+1,by omega,rfl⟩
theorem zex{P:Program}(w:World)(ty:TypeId)(ad:Addr)(cs:Array Value)(d:TypeDesc)(hc:∀j v,cs.toList[j]?=some v->w.cell? (ad.add j)=some v)
  (hu:P.underlying ty=some d) (hd:(match d with|.struct _|.array _ _=>true|_=>false)=true) (hi:(P.info? ty).map (·.size)=some cs.size):
  (Instr.loadAt ty (.pointer (some ad))).run P w=.ok (.agg cs) w:=by
 simp only[Instr.loadAt,Instr.sureAddr,Sem.run_bind,Sem.run_pure,Result.andThen_ok,Gh w ad ty cs d hc hu hd hi]
theorem uI{P:Program}{ρ:Operand->Value}{o:Oper}(w:World)(ty:TypeId)(x:Operand)(ho:o.op=.load ty x)(ad:Addr)(hx:ρ x=.pointer (some ad))(cs:Array Value)(d:TypeDesc)(hc:∀j v,cs.toList[j]?=some v->w.cell? (ad.add j)=some v)
  (hu:P.underlying ty=some d) (hd:(match d with|.struct _|.array _ _=>true|_=>false)=true) (hi:(P.info? ty).map (·.size)=some cs.size):
  (execOp ρ o).run P w=.ok (.value (.agg cs)) w:=by
 unfold execOp;simp only[ho,hx,Sem.run_bind,zex w ty ad cs d hc hu hd hi,Result.andThen_ok,Sem.run_pure]
inductive jv (E:Nat->Nat->Prop) (A:Nat->Prop):Nat->Prop
 | base {x:Nat}:A x->jv E A x
 | step {x y:Nat}:jv E A x->E x y->jv E A y
open Classical in
noncomputable def vZ (P:Nat->Prop):Nat->Nat
 | 0=>0
 | n+1=>vZ P n+if P n then 1 else 0
theorem jv.lt{E:Nat->Nat->Prop}{A:Nat->Prop}{N:Nat}(hA:∀x,A x->x<N)(hE:∀x y,E x y->y<N){x:Nat}(h:jv E A x):x<N:=by
 cases h with
 | base h=>exact hA _ h
 | step _ e=>exact hE _ _ e
theorem jv.head{E:Nat->Nat->Prop}{x y:Nat}{B:Nat->Prop}(hxy:E x y){k:Nat}(h:jv E (fun z=>z=y) k):jv E (fun z=>z=x) k:=by
 induction h with
 | base h=>subst h;exact .step (.base rfl) hxy
 | step _ e ih=>exact .step ih e
theorem zod{E:Nat->Nat->Prop}{B:Nat->Prop}(x:Nat):jv (fun a b=>E b a) B x↔∃k,jv E (fun z=>z=x) k/\B k:=by
 constructor
 ·intro h
  induction h with
  | base h=>exact⟨_,.base rfl,h⟩
  | @step a b _ e ih=>
   obtain⟨k,h1,h2⟩:=ih;exact⟨k,jv.head (B:=B) e h1,h2⟩
 rintro⟨k,h1,h2⟩;have:∀y,jv E (fun z=>z=x) y->jv (fun a b=>E b a) B y->jv (fun a b=>E b a) B x:=by
  intro y hy
  induction hy with
  | base h=>subst h;exact fun h=>h
  | step _ e ih=>exact fun h=>ih (.step h e)
 exact this k h1 (.base h2)
def Ed(D:Dd)(x y:Nat):Prop:=x<D.n/\∃c,c<D.len x/\D.nx x c=(y:Int)
theorem DR.ed{D:Dd}{C:Nat}(h:DR D C):∀x y,Ed D x y->y<D.n:=fun x y ⟨hx,c,hc,e⟩=>by
 rw[h.len x hx] at hc
 have:=h.nx x c hx hc
 omega
def iY(m:List Nat)(t:Int):List Nat:=if 0<=t/\t.toNat∉m then m++[t.toNat] else m
def ij(m:List Nat)(row:List Int):List Nat:=row.foldl iY m
def oK(rows:Nat->List Int)(m:List Nat)(i:Nat):List Nat:=if i<m.length then ij m (rows (m.getD i 0)) else m
def dr(rows:Nat->List Int)(m:List Nat):Nat->List Nat
 | 0=>m
 | k+1=>oK rows (dr rows m k) k
theorem zoe(m:List Nat)(t:Int):m <+: iY m t:=by
 unfold iY;split
 ·exact List.prefix_append _ _
 exact List.prefix_refl _
theorem zog(row:List Int):∀m,m <+: ij m row:=by
 induction row with
 | nil=>exact fun m=>List.prefix_refl _
 | cons t row ih=>exact fun m=>(zoe m t).trans (ih _)
theorem zms(m:List Nat)(row:List Int)(t:Int):ij m (row++[t])=iY (ij m row) t:=by simp[ij,List.foldl_append]
theorem Yb(m:List Nat)(t:Int)(x:Nat):x∈iY m t↔x∈m\/t=(x:Int):=by
 unfold iY;split
 ·rename_i h;rw[List.mem_append,List.mem_singleton];constructor
  ·rintro (h1|h1)
   ·exact inl h1
   exact inr (by omega)
  rintro (h1|h1)
  ·exact inl h1
  exact inr (by omega)
 rename_i h;refine⟨inl,?_⟩;rintro (h1|h1)
 ·exact h1
 refine Classical.byContradiction fun hn=>h ⟨by omega,?_⟩
 have:t.toNat=x:=by omega
 rw[this];exact hn
theorem P6(row:List Int):∀m x,x∈ij m row↔x∈m\/((x:Nat):Int)∈row:=by
 induction row with
 | nil=>intro m x;simp[ij]
 | cons t row ih=>
  intro m x;show x∈ij (iY m t) row↔_;rw[ih,Yb,List.mem_cons];constructor
  ·rintro ((h|h)|h)
   ·exact inl h
   ·exact inr (inl h.symm)
   exact inr (inr h)
  rintro (h|h|h)
  ·exact inl (inl h)
  ·exact inl (inr h.symm)
  exact inr h
theorem zkn{m:List Nat}(h:m.Nodup)(t:Int):(iY m t).Nodup:=by
 unfold iY;split
 ·rename_i h2;rw[List.nodup_append];exact⟨h,by simp,fun a ha b hb e=>by
   rw[List.mem_singleton.1 hb] at e
   rw[e] at ha
   exact h2.2 ha⟩
 exact h
theorem My(rows:Nat->List Int)(m:List Nat)(k:Nat):dr rows m k <+: dr rows m (k+1):=by
 show _ <+: oK rows (dr rows m k) k;unfold oK;split
 ·exact zog _ _
 exact List.prefix_refl _
theorem Yt(rows:Nat->List Int)(m:List Nat){k:Nat}(h:(dr rows m k).length=k):∀j,k<=j->dr rows m j=dr rows m k:=by
 intro j hj
 induction j with
 | zero=>rw[show k=0 by omega]
 | succ j ih=>
  by_cases e:k=j+1
  ·rw[e]
  have h2:=ih (by omega);show oK rows (dr rows m j) j=_;rw[h2];unfold oK;rw[if_neg (by omega)]
theorem zoh(rows:Nat->List Int)(m:List Nat){i j:Nat}(hi:(dr rows m i).length=i)(hj:(dr rows m j).length=j):dr rows m i=dr rows m j:=by
 rcases Nat.le_total i j with h|h
 ·exact (Yt rows m hi j h).symm
 exact Yt rows m hj i h
def WE(rows:Nat->List Int)(x y:Nat):Prop:=((y:Nat):Int)∈rows x
theorem Zo(rows:Nat->List Int)(m:List Nat)(k:Nat):∀x∈dr rows m k,jv (WE rows) (fun y=>y∈m) x:=by
 induction k with
 | zero=>exact fun x hx=>.base hx
 | succ k ih=>
  intro x hx;have ld:x∈oK rows (dr rows m k) k:=hx;unfold oK at ld;split at ld
  ·rename_i h;rw[P6] at ld;rcases ld with h1|h1
   ·exact ih x h1
   refine .step (ih ((dr rows m k).getD k 0) ?_) h1;rw[show (dr rows m k).getD k 0=(dr rows m k)[k] by simp[List.getD_eq_getElem?_getD,h]];exact List.getElem_mem h
  exact ih x ld
theorem KW(rows:Nat->List Int)(m:List Nat)(k:Nat):∀j,j<k->∀h:j<(dr rows m k).length,∀y,WE rows (dr rows m k)[j] y->y∈dr rows m k:=by
 induction k with
 | zero=>intro j hj;omega
 | succ k ih=>
  intro j hj h y hy;have hp:=My rows m k;by_cases hl:k<(dr rows m k).length
  ·have e1:dr rows m (k+1)=ij (dr rows m k) (rows ((dr rows m k).getD k 0)):=by
    show oK rows _ k=_;unfold oK;rw[if_pos hl]
   by_cases e:j=k
   ·subst e;rw[<-hp.getElem hl] at hy;rw[e1,P6];refine inr ?_;have e2:(dr rows m j).getD j 0=(dr rows m j)[j]:=(by simp[List.getD_eq_getElem?_getD,hl]);rw[e2];exact hy
   have fY:j<(dr rows m k).length:=(by omega);rw[<-hp.getElem fY] at hy;have:=ih j (by omega) fY y hy;exact hp.subset this
  have e1:dr rows m (k+1)=dr rows m k:=by
   show oK rows _ k=_;unfold oK;rw[if_neg hl]
  have fY:j<(dr rows m k).length:=by rw[e1] at h;exact h
  have mG:WE rows (dr rows m k)[j] y:=by
   rw[hp.getElem fY];exact hy
  rw[e1];exact ih j (by omega) fY y mG
theorem KY(rows:Nat->List Int)(m:List Nat)(k:Nat):m <+: dr rows m k:=by
 induction k with
 | zero=>exact List.prefix_refl _
 | succ k ih=>exact ih.trans (My rows m k)
theorem RE(rows:Nat->List Int)(m:List Nat){i:Nat}(hi:(dr rows m i).length=i)(x:Nat):x∈dr rows m i↔jv (WE rows) (fun y=>y∈m) x:=by
 refine⟨Zo rows m i x,fun h=>?_⟩
 induction h with
 | base h=>exact (KY rows m i).subset h
 | step _ e ih=>
  obtain⟨j,hj,e2⟩:=List.getElem_of_mem ih;refine KW rows m i j (by omega) hj _ ?_;rw[e2];exact e
theorem Ko(rows:Nat->List Int){m:List Nat}(hm:m.Nodup)(k:Nat):(dr rows m k).Nodup:=by
 have hR:∀(row:List Int) (m:List Nat),m.Nodup->(ij m row).Nodup:=by
  intro row
  induction row with
  | nil=>exact fun m h=>h
  | cons t row ih=>exact fun m h=>ih _ (zkn h t)
 induction k with
 | zero=>exact hm
 | succ k ih=>
  show (oK rows _ k).Nodup;unfold oK;split
  ·exact hR _ _ ih
  exact ih
structure OB (W0:World)(g n:Nat)(f:Nat->Bool)(wr:World):Prop where
 own:wr.ownsRow W0.heap.size 4 1 (.slice (some ⟨g,0,none⟩) n n) n (iN f n)
 bb:Below W0.heap.size W0 wr
 lo:W0.heap.size<=g
theorem OB.made(W0:World)(n:Nat)(hn:n<=maxLen):OB W0 W0.heap.size n (fun _=>false) (W0.alloc (.cells (madeCells #[.bool false] n) 4)):=by
 refine⟨?_,al W0 _,Nat.le_refl _⟩;have:=DX W0 W0.heap.size n 4 (.bool false) (Nat.le_refl _) hn;rwa [zo9] at this
theorem OB.put{W0 wr:World}{g n:Nat}{f:Nat->Bool}(h:OB W0 g n f wr)(j:Nat)(hj:j<n)(v:Bool):OB W0 g n (fun i=>if i=j then v else f i) (wr.setCell ⟨g,j,none⟩ (.bool v)):=by
 refine⟨?_,h.bb.setCell (p:=⟨g,j,none⟩) h.lo _,h.lo⟩;have:=uA h.own j hj (.bool v);rwa [YO] at this
theorem OB.cell{W0 wr:World}{g n:Nat}{f:Nat->Bool}(h:OB W0 g n f wr)(j:Nat)(hj:j<n):wr.cell? ⟨g,j,none⟩=some (.bool (f j))/\wr.frozen? ⟨g,j,none⟩=false:=by
 obtain⟨g',e,_,_,hc⟩:=ep h.own (by omega);have e2:g'=g:=by
  injection e with e;injection e with e _;exact e.symm
 subst e2;obtain⟨h1,h2⟩:=hc j (by omega);exact⟨by rw[h1];simp[iN,hj],h2⟩
def BS(n:Nat)(P:Nat->Prop)(w:World)(e:Ending)(w':World):Prop:=
 ∃(f:Nat->Bool) (a:Option Addr) (c:Nat),e=.returned (.slice a n c)/\w'.ownsRow w.heap.size 4 1 (.slice a n c) n (iN f n)/\(∀x,x<n->(f x=true↔P x))/\Below w.heap.size w w'
def zG(D:Dd)(s:Int)(x:Nat):Prop:=0<=s/\s<(D.n:Int)/\jv (Ed D) (fun y=>y=s.toNat) x
def vw(D:Dd)(x:Nat):Prop:=∃k,jv (Ed D) (fun y=>y=x) k/\0<=D.q k
end Go.Proofs.YtbacgnhkapancaaGreat
