import Derived.Test.YtkkhakmdjinenaaGreatZSFrame
import Derived.BigFrame
import Derived.Deep.RegionHeld
import Derived.OrdersHeld
import Derived.Scope
set_option linter.all false
set_option maxHeartbeats 1000000
set_option maxRecDepth 100000
open Go.Lib (hid)
namespace Go.Proofs.YtkkhakmdjinenaaGreat
open Go.RowKit Go.Maps Go.Proofs.Tryz
open Or (inl inr)
variable {C g i k n x y:Nat}{K:Nat->Nat}{P:Program}{W0 w w' wr:World}{f:Nat->Bool}{m:List Nat}
structure Dd where
 cD:Array Value
 K:Nat->Nat
 aN:Option Addr
 n:Nat
 cN:Nat
 A:Nat->Option Addr
 Cp:Nat->Nat
 len:Nat->Nat
 nx:Nat->Nat->Int
 aM:Option Addr
 m:Nat
 cM:Nat
 q:Nat->Int
structure DM (w:World)(D:Dd):Prop where
 sz:D.cD.size=258
 one:∀v∈D.cD.toList,v.oneCell'=true
 cl:∀j,j<256->D.cD[j]?=some (.int .u8 (D.K j))
 kl:∀j,j<256->D.K j<256
 fN:D.cD[256]?=some (.slice D.aN D.n D.cN)
 fM:D.cD[257]?=some (.slice D.aM D.m D.cM)
 rN:qp w D.aN D.n D.A D.Cp D.len D.nx
 rM:kY w D.aM D.m D.q
theorem DM.below{D:Dd}(h:DM w D)(k:Below w.heap.size w w'):DM w' D:=⟨h.sz,h.one,h.cl,h.kl,h.fN,h.fM,h.rN.below k,h.rM.below k⟩
structure bg (w:World)(b:Nat)(D:Dd):Prop where
 st:St w 29 b D.cD
 dm:DM w D
theorem bg.ab{b:Nat}{D:Dd}(h:bg w b D)(k:Below w.heap.size w w'):bg w' b D:=⟨h.st.ab k,h.dm.below k⟩
theorem bg.new{D:Dd}(h:DM w D):bg (w.alloc (.cells D.cD 29)) w.heap.size D:=⟨St.new _ _ _,h.below (al w _)⟩
theorem bg.f1{b:Nat}{D:Dd}(h:bg w b D):w.cell? ⟨b,256,none⟩=some (.slice D.aN D.n D.cN):=by rw[h.st.at_,h.dm.fN]
theorem bg.f2{b:Nat}{D:Dd}(h:bg w b D):w.cell? ⟨b,257,none⟩=some (.slice D.aM D.m D.cM):=by rw[h.st.at_,h.dm.fM]
theorem bg.f0{b:Nat}{D:Dd}(h:bg w b D)(j:Nat)(hj:j<256):w.cell? ⟨b,j,none⟩=some (.int .u8 (D.K j)):=by rw[h.st.at_,h.dm.cl j hj]
theorem DM.info{D:Dd}(h:DM w D):(prog.info? 29).map (·.size)=some D.cD.size:=by rw[fH,h.sz]
theorem DM.row{D:Dd}(h:DM w D)(i:Nat)(hi:i<D.n):∃g off,D.aN=some ⟨g,off,none⟩/\g<w.heap.size/\w.cell? ⟨g,off+i,none⟩=some (.slice (D.A i) (D.len i) (D.Cp i))/\kY w (D.A i) (D.len i) (D.nx i):=by
 obtain⟨g,off,e,hg,hc⟩:=h.rN (by omega);exact⟨g,off,e,hg,hc i hi⟩
def qH(K:Nat->Nat)(C:Nat):Prop:=(∀j,j<256->K j<C)/\∃j,j<256/\K j+1=C
theorem qH.uniq{C':Nat}(h:qH K C)(h':qH K C'):C=C':=by
 obtain⟨j,hj,e⟩:=h.2;obtain⟨j',Bh,e'⟩:=h'.2;have:=h.1 j' Bh;have:=h'.1 j hj;omega
structure DR (D:Dd)(C:Nat):Prop where
 c:qH D.K C
 n1:1<=D.n
 n2:D.n<=32768
 m:D.m=D.n
 xj:∀c,c<C->∃j,j<256/\D.K j=c
 len:∀i,i<D.n->D.len i=C
 q:∀i,i<D.n->-1<=D.q i/\D.q i<32768
 nx:∀i c,i<D.n->c<C->-1<=D.nx i c/\D.nx i c<(D.n:Int)
theorem DR.il{D:Dd}(h:DR D C)(hk:∀j,j<256->D.K j<256):1<=C/\C<=256:=by
 obtain⟨j,hj,e⟩:=h.c.2;have:=hk j hj;omega
def aU(K:Nat->Nat):Array Value:=((List.range 256).map fun j=>Value.int .u8 (K j)).toArray
theorem Ec(K:Nat->Nat)(j:Nat)(hj:j<256):(aU K)[j]?=some (.int .u8 (K j)):=by simp[aU,hj]
theorem NS(K:Nat->Nat):(aU K).size=256:=by simp[aU]
theorem vX(K:Nat->Nat):(prog.info? 25).map (·.size)=some (aU K).size:=by rw[NS];kernel_rfl
theorem bg.dL{b:Nat}{D:Dd}(h:bg w b D):∀j v,(aU D.K).toList[j]?=some v->w.cell? ((⟨b,0,none⟩:Addr).add j)=some v:=fun j v hj=>by
 have hl:j<256:=by
  have:=(List.getElem?_eq_some_iff.1 hj).1
  simpa [NS] using this
 have e:(⟨b,0,none⟩:Addr).add j=⟨b,j,none⟩:=by unfold Addr.add;split <;> simp_all
 rw[e,h.f0 j hl,<-hj,Array.getElem?_toList,Ec _ j hl]
theorem St.dL{b t:Nat}(h:St w t b (aU K)):∀j v,(aU K).toList[j]?=some v->w.cell? ((⟨b,0,none⟩:Addr).add j)=some v:=h.part
theorem js{ops:Array Oper}{rest:List Oper}{o:Oper}{a:Act}{Q:Exit->Act->World->Prop}(hw:Region.wanted o (yielded ops a.tmps)=true)(ty:TypeId)(x:Operand)(ho:o.op=.load ty x)
  (ad:Addr) (hx:a.eval x=.pointer (some ad)) (cs:Array Value) (d:TypeDesc) (hc:∀j v,cs.toList[j]?=some v->w.cell? (ad.add j)=some v)
  (hu:P.underlying ty=some d) (hd:(match d with|.struct _|.array _ _=>true|_=>false)=true) (hi:(P.info? ty).map (·.size)=some cs.size)
  (h:wpList P ops Q rest (a.put o.dst (.agg cs)) w):wpList P ops Q (o :: rest) a w:=
 BigFrame.wpList_want hw fun _ hK=>by
  unfold Oper.wp execOp
  simp only[ho,hx,Instr.loadAt,Instr.sureAddr,Sem.run_bind,Sem.run_pure,Result.andThen_ok,Jb w ad ty cs d hc hu hd hi]
  exact hK _ _ h
theorem Gd(K:Nat->Nat)(C:Nat)(hC:qH K C)(hk:∀j,j<256->K j<256)(w:World):
  Calls prog 92 #[.agg (aU K)] w fun e w'=>e=.returned (.int .i64 (C:Int))/\Below w.heap.size w w':=by
 have hB:=al w (.cells (aU K) 25);have hS:=St.new w 25 (aU K);have hM:=hid (Xj K 256 256 w.heap.size (by omega) (by omega) hk (w.alloc (.cells (aU K) 25)) (fun j hj=>by rw[hS.at_,Ec K j hj]));have HB:=hid hB;have HT:Hid (∀x,(∀j,j<256->K j<=x)->(∃j,j<256/\K j=x)->x+1=C/\x<256):=fun x h1 h2=>by
  obtain⟨j,hj,e⟩:=hC.2;obtain⟨j',Bh,rfl⟩:=h2;have:=hC.1 j' Bh;have:=h1 j hj;have:=hk j' Bh;omega
 clear hB hS;go_in;go_wp2_with fail;refine hM.out.mono ?_;rintro e w2 ⟨x,rfl,h1,h2,rfl⟩;obtain⟨hx,lE⟩:=HT.out x h1 h2;have HX:=hid hx;clear h1 h2 hx;go_wp2;go_ret;exact⟨by rw[<-HX.out];first|rfl|(simp;done),HB.out⟩
theorem Kc(D:Dd)(s:Int)(w:World)(hD:DM w D):
  Calls prog 93 #[.agg D.cD,.int .i64 s] w fun e w'=>e=.returned (.bool (decide (0<=s/\s<(D.n:Int))))/\Below w.heap.size w w':=by
 have HB:=ζ (bg.new hD) (al w (.cells D.cD 29));clear hD;go_in;go_upto_region 1 with fail;generalize w.alloc (.cells D.cD 29)=W0 at HB⊢;generalize ay:w.heap.size=b0 at HB⊢;have bW:=hid ay;clear ay;have f1:=HB.out.1.f1;by_cases h0:0<=s
 ·by_cases h1:s<(D.n:Int)
  ·have HZ:Hid (decide (0<=s/\s<(D.n:Int))=true):=(by show _=_;simp[h0,h1]);go_wp2;go_ret;exact⟨by rw[HZ.out];first|rfl|simp[h0,h1],by first|exact HB.out.2|(rw[bW.out];exact HB.out.2)⟩
  have HZ:Hid (decide (0<=s/\s<(D.n:Int))=false):=by show _=_;simp;omega
  go_wp2;go_ret;exact⟨by first|(rw[HZ.out];rfl)|(rw[show decide (0<=s/\s<(D.n:Int))=false from HZ.out];rfl)|(have:=HZ.out;simp_all),by first|exact HB.out.2|(rw[bW.out];exact HB.out.2)⟩
 have HZ:Hid (decide (0<=s/\s<(D.n:Int))=false):=by show _=_;simp;omega
 go_wp2;go_ret;exact⟨by first|(rw[HZ.out];rfl)|(rw[show decide (0<=s/\s<(D.n:Int))=false from HZ.out];rfl)|(have:=HZ.out;simp_all),by first|exact HB.out.2|(rw[bW.out];exact HB.out.2)⟩
theorem zdG(K:Nat->Nat)(C:Nat)(hC:qH K C)(hk:∀j,j<256->K j<256)(hg:∀c,c<C->∃j,j<256/\K j=c)(w:World):
  Calls prog 55 #[.agg (aU K)] w fun e w'=>e=.returned (.bool true)/\Below w.heap.size w w':=by
 have BN:C<=256:=by
  obtain⟨j,hj,e⟩:=hC.2;have:=hk j hj;omega
 have HB:=φ (St.new w 25 (aU K)) (al w (.cells (aU K) 25)) hC hk hg;have dO:=vX K;clear hC hk hg;go_in;go_wp2_with fail;generalize w.alloc (.cells (aU K) 25)=W0 at HB⊢;generalize ay:w.heap.size=b0 at HB⊢;have bW:=hid ay;clear ay;have ur:=hid (Gd K C HB.out.2.2.1 HB.out.2.2.2.1 W0);refine wp_scope_straight (wp_seq (wp_label ?_));go_wp2_with (refine p5 rfl 25 _ rfl ⟨b0,0,none⟩ rfl (aU K) (.array 256 5) HB.out.1.dL underlying25 rfl dO ?_);refine ur.out.mono ?_;rintro e w1 ⟨rfl,b1⟩;have H1:=ζ (HB.out.1.ab b1) (HB.out.2.1.trans (b1.mono (by have:=HB.out.2.1.size;have:=bW.out;omega)));clear b1 ur;go_wp2;go_loopw [3,5,8,12] (fun _ _ v _ wr=>∃(c:Nat),v=.int .i64 c/\c<=C/\wr=w1) (fun _ _ v _ _=>C-(intOf v).toNat)
 ·exact⟨0,rfl,by omega,rfl⟩
 obtain⟨c,rfl,hc,rfl⟩:=hrel;by_cases aq:c<C
 ·have i1:(c:Int)<C:=by omega
  obtain⟨W9,Un⟩:∃W9,W9=wr:=⟨wr,rfl⟩
  have ep:=hid H1.out.1;go_wp2_with (refine p5 rfl 25 _ rfl ⟨b0,0,none⟩ rfl (aU K) (.array 256 5) ep.out.dL underlying25 rfl dO ?_);go_loopw [5,12] (fun _ v wq=>∃(k:Nat),v=.int .i64 k/\k<=256/\wq=wr/\Hid (∀j,j<k->K j≠c)) (fun _ v _=>256-(intOf v).toNat)
  ·exact⟨0,rfl,by omega,rfl,fun j hj=>by omega⟩
  obtain⟨k,rfl,fm,rfl,HN⟩:=hrel;by_cases dE:k<256
  ·have i2:(k:Int)<256:=(by omega);have hv:=Ec K k dE;have Ai:=Mr 25 5 256 (aU K) k _ underlying25 dE (by kernel_rfl) ⟨_,underlying5,rfl⟩ hv wr;have tO:=HB.out.2.2.2.1 k dE;have HS:Hid (K k≠c->∀j,j<k+1->K j≠c):=fun h j hj=>by
    by_cases e:j=k
    ·subst e;exact h
    exact HN.out j (by omega)
   generalize K k=y at hv Ai tO HS;by_cases e:y=c
   ·subst e;clear HS;go_wp2;go_roundw
    ·exact⟨y+1,by go_num,by omega,by first|trivial|rfl⟩
    simp[intOf];omega
   have HZ:=hid (HS.out e);have i3:¬((y:Int)=c):=(by omega);go_wp2;go_roundw
   ·exact⟨k+1,by go_num,by omega,by first|trivial|rfl,HZ⟩
   simp[intOf];omega
  obtain rfl:k=256:=by omega
  obtain⟨j,hj,e⟩:=HB.out.2.2.2.2 c aq;exact absurd e (HN.out j hj)
 obtain rfl:c=C:=by omega
 go_wp2_with fail
 try dsimp only[Exit.noGoto]
 go_ret;exact⟨rfl,by rw[bW.out];exact H1.out.2⟩
theorem zeN(D:Dd)(C:Nat)(hR:DR D C)(w:World)(hD:DM w D):
  Calls prog 56 #[.agg D.cD] w fun e w'=>e=.returned (.bool true)/\Below w.heap.size w w':=by
 have HB:=ξ (bg.new hD) (al w (.cells D.cD 29)) hR;have cU:=hR.n2;have jl:=hR.m;clear hD hR;go_in;go_upto_region 1 with fail;generalize w.alloc (.cells D.cD 29)=W0 at HB⊢;generalize ay:w.heap.size=b0 at HB⊢;have bW:=hid ay;clear ay;have f1:=HB.out.1.f1;have f2:=HB.out.1.f2;rw[jl] at f2;have MW:=hid jl;clear jl;go_wp2;go_loopw [4,8] (fun _ v wr=>∃(k:Nat),v=.int .i64 k/\k<=D.n/\wr=W0) (fun _ v _=>D.n-(intOf v).toNat)
 ·exact⟨0,rfl,by omega,rfl⟩
 obtain⟨k,rfl,hk,rfl⟩:=hrel;by_cases aq:k<D.n
 ·obtain⟨gM,oM,eM,_,lJ⟩:=HB.out.1.dm.rM (by have:=MW.out;omega);have cM:=lJ k (by have:=MW.out;omega);have hq:=HB.out.2.2.q k aq;have i1:(k:Int)<(D.n:Int):=by omega
  rw[eM];have NC:=hid eM;clear lJ eM;generalize D.q k=y at cM hq;have i2:decide (y < -1)=false:=by simp;omega
  have i3:decide (32768<=y)=false:=by simp;omega
  go_wp2;go_roundw
  ·exact⟨k+1,by go_num,by omega,by first|trivial|rfl⟩
  simp[intOf];omega
 obtain rfl:k=D.n:=by omega
 go_wp2;go_ret;exact⟨rfl,by rw[bW.out];exact HB.out.2.1⟩
theorem zgg(D:Dd)(C:Nat)(hR:DR D C)(w:World)(hD:DM w D):
  Calls prog 57 #[.agg D.cD] w fun e w'=>e=.returned (.bool true)/\Below w.heap.size w w':=by
 have HB:=ξ (bg.new hD) (al w (.cells D.cD 29)) hR;have cU:=hR.n2;have tq:=(hR.il hD.kl).2;have dO:=vX D.K;clear hD hR;go_in;go_upto_region 1 with fail;generalize w.alloc (.cells D.cD 29)=W0 at HB⊢;generalize ay:w.heap.size=b0 at HB⊢;have bW:=hid ay;clear ay;have ur:=hid (Gd D.K C HB.out.2.2.c HB.out.1.dm.kl W0);go_wp2_with (refine p5 rfl 25 _ rfl ⟨b0,0,none⟩ rfl (aU D.K) (.array 256 5) HB.out.1.dL underlying25 rfl dO ?_);refine ur.out.mono ?_;rintro e w1 ⟨rfl,b1⟩;have H1:=ζ (HB.out.1.ab b1) (HB.out.2.1.trans (b1.mono (by have:=HB.out.2.1.size;have:=bW.out;omega)));have f1:=H1.out.1.f1;clear b1 ur;obtain⟨gN,oN,eN,ky,pO⟩:=H1.out.1.dm.rN (by have:=HB.out.2.2.n1;omega);rw[eN] at f1;have vZ:=hid eN;have sw:=hid pO;clear eN pO;go_wp2;go_loopw [5,7,14,24] (fun _ _ v _ wr=>∃(i:Nat),v=.int .i64 i/\i<=D.n/\Hid (Below w1.heap.size w1 wr)) (fun _ _ v _ _=>D.n-(intOf v).toNat)
 ·exact⟨0,rfl,by omega,Below.refl _ _⟩
 obtain⟨i,rfl,hi,HX⟩:=hrel;clear f1;by_cases aq:i<D.n
 ·have cN:=(HX.out.cell (p:=⟨gN,oN+i,none⟩) ky).trans (sw.out i aq).1;have vG:=hid (sw.out i aq).2;have hlen:=HB.out.2.2.len i aq;rw[hlen] at cN;rw[hlen] at vG;have i1:(i:Int)<(D.n:Int):=by omega
  try dsimp only at cN
  clear hlen;go_wp2;go_loopw [7,24] (fun _ v wq=>∃(c:Nat),v=.int .i64 c/\c<=C/\Hid (Below w1.heap.size w1 wq)) (fun _ v _=>C-(intOf v).toNat)
  ·exact⟨0,rfl,by omega,HX⟩
  clear HX cN;obtain⟨c,rfl,hc,HX⟩:=hrel;by_cases lT:c<C
  ·obtain⟨gA,oA,eA,Bm,lH⟩:=vG.out (by omega);have cA:=(HX.out.cell (p:=⟨gA,oA+c,none⟩) Bm).trans (lH c lT);have hb:=HB.out.2.2.nx i c aq lT;have i2:(c:Int)<C:=(by omega);have kg:=hid (H1.out.1.ab HX.out);rw[eA];have GJ:=hid eA;clear lH eA;generalize D.nx i c=t at cA hb;by_cases ht:t=-1
   ·subst ht;go_wp2;go_roundw
    ·exact⟨c+1,by go_num,by omega,HX⟩
    simp[intOf];omega
   have Io:(t != (-1:Int))=true:=(by simp[ht]);have nb:=hid (Kc D t wr kg.out.dm);have J5:Hid (decide (0<=t/\t<(D.n:Int))=true):=(by show _=_;simp;omega);go_wp2_with (refine js (by first|rfl|(simp[ht];done)) 29 _ rfl ⟨b0,0,none⟩ rfl D.cD _ kg.out.st.part underlying29 rfl kg.out.dm.info ?_);refine nb.out.mono ?_;rintro e w5 ⟨rfl,b5⟩;have Th:=hid (HX.out.trans (b5.mono HX.out.size));rw[J5.out];clear b5 nb;go_wp2;go_roundw
   ·exact⟨c+1,by go_num,by omega,Th⟩
   simp[intOf];omega
  obtain rfl:c=C:=by omega
  go_wp2;go_roundw
  ·exact⟨i+1,by go_num,by omega,HX⟩
  simp[intOf];omega
 obtain rfl:i=D.n:=by omega
 have HF:Hid (Below w.heap.size w wr):=by
  rw[bW.out];exact H1.out.2.trans (HX.out.mono (by have:=H1.out.2.size;have:=bW.out;omega))
 go_wp2;go_ret;exact⟨rfl,HF.out⟩
theorem Fv(D:Dd)(C:Nat)(hR:DR D C)(w:World)(hD:DM w D):
  Calls prog 34 #[.agg D.cD] w fun e w'=>e=.returned (.bool true)/\Below w.heap.size w w':=by
 have HB:=ξ (bg.new hD) (al w (.cells D.cD 29)) hR;have cU:=hR.n2;have da:=hR.n1;have dO:=vX D.K;clear hD hR;go_in;go_upto_region 1 with fail;generalize w.alloc (.cells D.cD 29)=W0 at HB⊢;generalize ay:w.heap.size=b0 at HB⊢;have bW:=hid ay;clear ay;have f1:=HB.out.1.f1;have i1:¬((D.n:Int)<1):=by omega
 have i2:¬((32768:Int)<(D.n:Int)):=by omega
 have oV:b0<=W0.heap.size:=by have:=HB.out.2.1.size;have:=bW.out;omega
 have KG:=hid (zdG D.K C HB.out.2.2.c HB.out.1.dm.kl HB.out.2.2.xj W0);go_wp2_with (refine p5 rfl 25 _ rfl ⟨b0,0,none⟩ rfl (aU D.K) (.array 256 5) HB.out.1.dL underlying25 rfl dO ?_);refine KG.out.mono ?_;rintro e w1 ⟨rfl,b1⟩;have H1:=ζ (HB.out.1.ab b1) (HB.out.2.1.trans (b1.mono oV));have eQ:b0<=w1.heap.size:=by have:=b1.size;omega
 have Fa:=hid (zeN D C HB.out.2.2 w1 H1.out.1.dm);clear b1 f1 KG;go_wp2_with (refine js (by rfl) 29 _ rfl ⟨b0,0,none⟩ rfl D.cD _ H1.out.1.st.part underlying29 rfl H1.out.1.dm.info ?_);refine Fa.out.mono ?_;rintro e w2 ⟨rfl,b2⟩;have H2:=ζ (H1.out.1.ab b2) (H1.out.2.trans (b2.mono eQ));have cv:b0<=w2.heap.size:=by have:=b2.size;omega
 have zW:=hid (zgg D C HB.out.2.2 w2 H2.out.1.dm);clear b2 Fa;go_wp2_with (refine js (by rfl) 29 _ rfl ⟨b0,0,none⟩ rfl D.cD _ H2.out.1.st.part underlying29 rfl H2.out.1.dm.info ?_);refine zW.out.mono ?_;rintro e w3 ⟨rfl,b3⟩;have HF:Hid (Below w.heap.size w w3):=by
  rw[bW.out];exact H2.out.2.trans (b3.mono cv)
 clear b3 zW;go_wp2;go_ret;exact⟨rfl,HF.out⟩
theorem Ys(K:Nat->Nat):∃C,qH K C:=by
 suffices h:∀k,∃C,(∀j,j<k+1->K j<C)/\∃j,j<k+1/\K j+1=C from h 255
 intro k
 induction k with
 | zero=>exact⟨K 0+1,fun j hj=>by rw[show j=0 by omega];omega,0,by omega,rfl⟩
 | succ k ih=>
  obtain⟨C,h1,j,hj,h2⟩:=ih;by_cases h:K (k+1)<C
  ·exact⟨C,fun i hi=>by
    by_cases e:i=k+1
    ·rw[e];exact h
    ·exact h1 i (by omega),j,by omega,h2⟩
  exact⟨K (k+1)+1,fun i hi=>by
   by_cases e:i=k+1
   ·rw[e];omega
   ·have:=h1 i (by omega);omega,k+1,by omega,rfl⟩
theorem VK(D:Dd)(C:Nat)(hC:qH D.K C)(w:World)(hD:DM w D):
  Calls prog 26 #[.agg D.cD] w fun e w'=>e=.returned (.int .i64 (C:Int))/\Below w.heap.size w w':=by
 have KY:=bg.new hD;have HB:=ψ KY (al w (.cells D.cD 29)) hC hD.kl;clear KY hC hD;go_in;go_wp2_with fail;generalize w.alloc (.cells D.cD 29)=W0 at HB⊢;obtain⟨b0,ay⟩:∃b0,w.heap.size=b0:=⟨_,rfl⟩
 rw[ay] at HB;rw[ay];go_loopw [3,4] (fun v i wr=>∃(k x:Nat),i=.int .i64 k/\k<=256/\v=.int .i64 (x:Int)/\x<=256/\wr=W0/\Hid ((∀j,j<k->D.K j<x)/\((k=0/\x=0)\/∃j,j<k/\D.K j+1=x))) (fun _ i _=>256-(intOf i).toNat)
 ·exact⟨0,0,rfl,by omega,rfl,by omega,rfl,⟨fun j hj=>by omega,inl ⟨rfl,rfl⟩⟩⟩
 obtain⟨k,x,rfl,hk,rfl,hx,rfl,HX⟩:=hrel;by_cases aq:k<256
 ·have ck:=HB.out.1.f0 k aq;have Hh:=HB.out.2.2.2 k aq;have HZ:Hid (∀y,(y=x/\D.K k+1<=x)\/(y=D.K k+1/\x<=D.K k+1)->(∀j,j<k+1->D.K j<y)/\((k+1=0/\y=0)\/∃j,j<k+1/\D.K j+1=y)):=fun y hy=>by
   obtain⟨h1,h2⟩:=HX.out;rcases hy with ⟨rfl,hy⟩|⟨rfl,hy⟩
   ·refine⟨fun j hj=>by by_cases e:j=k;rw[e];omega;exact h1 j (by omega),inr ?_⟩;rcases h2 with ⟨e1,e2⟩|⟨j,hj,e⟩
    ·exact absurd hy (by omega)
    exact⟨j,by omega,e⟩
   exact⟨fun j hj=>by by_cases e:j=k;rw[e];omega;have:=h1 j (by omega);omega,inr ⟨k,by omega,rfl⟩⟩
  generalize D.K k=y at ck Hh HZ;have i1:(k:Int)<256:=by omega
  rcases Nat.le_total (y+1) x with AZ|AZ
  ·have sR:=hid (HZ.out x (inl ⟨rfl,AZ⟩));have Ei:max (x:Int) ((y:Int)+1)=(x:Int):=(by omega);have AF:max x (y+1)=x:=(by omega);go_wp2;go_roundw
   ·exact⟨k+1,x,by go_num,by omega,by first|rfl|simp[Ei],hx,by first|trivial|rfl,sR⟩
   simp[intOf];omega
  have sR:=hid (HZ.out (y+1) (inr ⟨rfl,AZ⟩));have Ei:max (x:Int) ((y:Int)+1)=((y:Int)+1):=by omega
  have AF:max x (y+1)=y+1:=by omega
  go_wp2;go_roundw
  ·exact⟨k+1,y+1,by go_num,by omega,by first|rfl|simp[Ei]|(simp[AF];done),by omega,by first|trivial|rfl,sR⟩
  simp[intOf];omega
 obtain rfl:k=256:=by omega
 have HZ:Hid (x=C):=by
  obtain⟨h1,h2⟩:=HX.out;rcases h2 with ⟨e1,e2⟩|h2
  ·omega
  exact qH.uniq ⟨h1,h2⟩ HB.out.2.2.1
 go_wp2;go_ret;refine⟨by rw[HZ.out];first|rfl|simp,?_⟩;rw[ay];exact HB.out.2.1
theorem zhg(D:Dd)(C:Nat)(hC:qH D.K C)(w:World)(hD:DM w D):
  Calls prog 25 #[.agg D.cD] w (tz (∀c,c<C->∃j,j<256/\D.K j=c) w):=by
 have KY:=bg.new hD;have fB:C<=256:=by
  obtain⟨j,hj,e⟩:=hC.2;have:=hD.kl j hj;omega
 have HB:=ψ KY (al w (.cells D.cD 29)) hC hD.kl;clear KY hC hD;go_in;go_wp2_with fail;generalize w.alloc (.cells D.cD 29)=W0 at HB⊢;obtain⟨b0,ay⟩:∃b0,w.heap.size=b0:=⟨_,rfl⟩
 rw[ay] at HB;rw[ay];go_loopw [3,4,5] (fun i _ _ wr=>∃(c:Nat),i=.int .i64 c/\c<=C/\Hid (Below b0 w wr/\Below W0.heap.size W0 wr/\∀d,d<c->∃j,j<256/\D.K j=d)) (fun i _ _ _=>C-(intOf i).toNat)
 ·exact⟨0,rfl,by omega,⟨HB.out.2.1,Below.refl _ _,fun d hd=>by omega⟩⟩
 obtain⟨c,rfl,hc,HX⟩:=hrel;have kg:=hid (HB.out.1.ab HX.out.2.1);have pP:=hid (VK D C HB.out.2.2.1 wr kg.out.dm);go_wp2_with (refine js (by rfl) 29 _ rfl ⟨b0,0,none⟩ rfl D.cD _ kg.out.st.part underlying29 rfl kg.out.dm.info ?_);refine pP.out.mono ?_;rintro e w2 ⟨rfl,b2⟩;have lP:Hid (Below b0 w w2/\Below W0.heap.size W0 w2):=⟨HX.out.1.trans (b2.mono (by have:=HX.out.1.size;omega)),HX.out.2.1.trans (b2.mono HX.out.2.1.size)⟩
 have QE:=hid (kg.out.ab b2);clear b2 kg pP;by_cases aq:c<C
 ·have i1:(c:Int)<C:=by omega
  go_wp2_with fail;obtain⟨W9,rfl⟩:∃W9,W9=w2:=⟨w2,rfl⟩
  go_loopw [4,5] (fun v i wq=>∃(k:Nat) (f:Bool),i=.int .i64 k/\k<=256/\v=.bool f/\wq=W9/\Hid (f=true↔∃j,j<k/\D.K j=c)) (fun _ i _=>256-(intOf i).toNat)
  ·exact⟨0,false,rfl,by omega,rfl,rfl,⟨(fun h=>by cases h),(fun ⟨j,hj,_⟩=>by omega)⟩⟩
  obtain⟨k,f,rfl,hk,rfl,rfl,HF⟩:=hrel;by_cases dE:k<256
  ·have ck:=QE.out.f0 k dE;have i2:(k:Int)<256:=(by omega);have Hh:=HB.out.2.2.2 k dE;have HS:Hid (∀f':Bool,(f'=true↔(f=true\/D.K k=c))->(f'=true↔∃j,j<k+1/\D.K j=c)):=fun f' h=>by
    rw[h,HF.out];constructor
    ·rintro (⟨j,hj,e⟩|e)
     ·exact⟨j,by omega,e⟩
     exact⟨k,by omega,e⟩
    rintro⟨j,hj,e⟩;by_cases e2:j=k
    ·subst e2;exact inr e
    exact inl ⟨j,by omega,e⟩
   generalize D.K k=y at ck HS Hh;rcases f with _|_
   ·by_cases e:y=c
    ·subst e;have HZ:=hid (HS.out true (by simp));go_wp2;go_roundw
     ·exact⟨k+1,true,by go_num,by omega,rfl,by first|trivial|rfl,HZ⟩
     simp[intOf];omega
    have HZ:=hid (HS.out false (by simp[e]));have i3:¬((y:Int)=c):=(by omega);go_wp2;go_roundw
    ·exact⟨k+1,false,by go_num,by omega,by first|rfl|(simp;omega),by first|trivial|rfl,HZ⟩
    simp[intOf];omega
   have HZ:=hid (HS.out true (by simp));go_wp2;go_roundw
   ·exact⟨k+1,true,by go_num,by omega,rfl,by first|trivial|rfl,HZ⟩
   simp[intOf];omega
  obtain rfl:k=256:=by omega
  rcases f with _|_
  ·have HZ:Hid (¬∀c,c<C->∃j,j<256/\D.K j=c):=fun h=>by
    have:=HF.out.2 (h c aq);cases this
   go_wp2;go_ret;refine⟨false,rfl,⟨(fun h=>by cases h),(fun h=>absurd h HZ.out)⟩,?_⟩;rw[ay];exact lP.out.1
  have HZ:Hid (∃j,j<256/\D.K j=c):=HF.out.1 rfl;have mz:Hid (Below b0 w wr/\Below W0.heap.size W0 wr/\∀d,d<c+1->∃j,j<256/\D.K j=d):=⟨lP.out.1,lP.out.2,fun d hd=>by
   by_cases e:d=c
   ·subst e;exact HZ.out
   ·exact HX.out.2.2 d (by omega)⟩
  go_wp2;go_roundw
  ·exact⟨c+1,by go_num,by omega,mz⟩
  simp[intOf];omega
 obtain rfl:c=C:=by omega
 go_wp2;go_ret;refine⟨true,rfl,⟨(fun _=>HX.out.2.2),(fun _=>rfl)⟩,?_⟩;rw[ay];exact lP.out.1
theorem zeE(w:World)(ty:TypeId)(ad:Addr)(cs:Array Value)(d:TypeDesc)(hc:∀j v,cs.toList[j]?=some v->w.cell? (ad.add j)=some v)
  (hu:P.underlying ty=some d) (hd:(match d with|.struct _|.array _ _=>true|_=>false)=true) (hi:(P.info? ty).map (·.size)=some cs.size):
  (Instr.loadAt ty (.pointer (some ad))).run P w=.ok (.agg cs) w:=by
 simp only[Instr.loadAt,Instr.sureAddr,Sem.run_bind,Sem.run_pure,Result.andThen_ok,Jb w ad ty cs d hc hu hd hi]
theorem ob{ρ:Operand->Value}{o:Oper}(w:World)(ty:TypeId)(x:Operand)(ho:o.op=.load ty x)(ad:Addr)(hx:ρ x=.pointer (some ad))(cs:Array Value)(d:TypeDesc)(hc:∀j v,cs.toList[j]?=some v->w.cell? (ad.add j)=some v)
  (hu:P.underlying ty=some d) (hd:(match d with|.struct _|.array _ _=>true|_=>false)=true) (hi:(P.info? ty).map (·.size)=some cs.size):
  (execOp ρ o).run P w=.ok (.value (.agg cs)) w:=by
 unfold execOp;simp only[ho,hx,Sem.run_bind,zeE w ty ad cs d hc hu hd hi,Result.andThen_ok,Sem.run_pure]
def Oy(D:Dd)(C i:Nat):Prop:=D.len i=C/\(-1<=D.q i/\D.q i<32768)/\∀c,c<C->-1<=D.nx i c/\D.nx i c<(D.n:Int)
inductive jI (E:Nat->Nat->Prop) (A:Nat->Prop):Nat->Prop
 | base {x:Nat}:A x->jI E A x
 | step {x y:Nat}:jI E A x->E x y->jI E A y
open Classical in
noncomputable def oO (P:Nat->Prop):Nat->Nat
 | 0=>0
 | n+1=>oO P n+if P n then 1 else 0
theorem zrb(P:Nat->Prop)(n:Nat):oO P n<=n:=by
 induction n with
 | zero=>exact Nat.le_refl _
 | succ n ih=>simp only[oO];split <;> omega
theorem zot{P Q:Nat->Prop}(n:Nat)(h:∀x,x<n->P x->Q x):oO P n<=oO Q n:=by
 induction n with
 | zero=>exact Nat.le_refl _
 | succ n ih=>
  have h1:=ih (fun x hx=>h x (by omega));have h2:=h n (by omega);simp only[oO];by_cases hp:P n
  ·rw[if_pos hp,if_pos (h2 hp)];omega
  rw[if_neg hp];split <;> omega
theorem zo7{P Q:Nat->Prop}(n:Nat)(h:∀x,x<n->P x->Q x)(hy:y<n)(hq:Q y)(hp:¬P y):oO P n+1<=oO Q n:=by
 induction n with
 | zero=>omega
 | succ n ih=>
  simp only[oO];by_cases e:y=n
  ·subst e;have:=zot y (fun x hx=>h x (by omega));rw[if_neg hp,if_pos hq];omega
  have h1:=ih (fun x hx=>h x (by omega)) (by omega);have h2:=h n (by omega);by_cases AI:P n
  ·rw[if_pos AI,if_pos (h2 AI)];omega
  rw[if_neg AI];split <;> omega
theorem jI.lt{E:Nat->Nat->Prop}{A:Nat->Prop}{N:Nat}(hA:∀x,A x->x<N)(hE:∀x y,E x y->y<N)(h:jI E A x):x<N:=by
 cases h with
 | base h=>exact hA _ h
 | step _ e=>exact hE _ _ e
theorem jI.head{E:Nat->Nat->Prop}{B:Nat->Prop}(hxy:E x y)(h:jI E (fun z=>z=y) k):jI E (fun z=>z=x) k:=by
 induction h with
 | base h=>subst h;exact .step (.base rfl) hxy
 | step _ e ih=>exact .step ih e
theorem zou{E:Nat->Nat->Prop}{B:Nat->Prop}(x:Nat):jI (fun a b=>E b a) B x↔∃k,jI E (fun z=>z=x) k/\B k:=by
 constructor
 ·intro h
  induction h with
  | base h=>exact⟨_,.base rfl,h⟩
  | @step a b _ e ih=>
   obtain⟨k,h1,h2⟩:=ih;exact⟨k,jI.head (B:=B) e h1,h2⟩
 rintro⟨k,h1,h2⟩;have:∀y,jI E (fun z=>z=x) y->jI (fun a b=>E b a) B y->jI (fun a b=>E b a) B x:=by
  intro y hy
  induction hy with
  | base h=>subst h;exact fun h=>h
  | step _ e ih=>exact fun h=>ih (.step h e)
 exact this k h1 (.base h2)
def Ed(D:Dd)(x y:Nat):Prop:=x<D.n/\∃c,c<D.len x/\D.nx x c=(y:Int)
theorem DR.ed{D:Dd}(h:DR D C):∀x y,Ed D x y->y<D.n:=fun x y ⟨hx,c,hc,e⟩=>by
 rw[h.len x hx] at hc
 have:=h.nx x c hx hc
 omega
def jo(m:List Nat)(t:Int):List Nat:=if 0<=t/\t.toNat∉m then m++[t.toNat] else m
def iF(m:List Nat)(row:List Int):List Nat:=row.foldl jo m
def pE(rows:Nat->List Int)(m:List Nat)(i:Nat):List Nat:=if i<m.length then iF m (rows (m.getD i 0)) else m
def dw(rows:Nat->List Int)(m:List Nat):Nat->List Nat
 | 0=>m
 | k+1=>pE rows (dw rows m k) k
theorem zov(m:List Nat)(t:Int):m <+: jo m t:=by
 unfold jo;split
 ·exact List.prefix_append _ _
 exact List.prefix_refl _
theorem zow(row:List Int):∀m,m <+: iF m row:=by
 induction row with
 | nil=>exact fun m=>List.prefix_refl _
 | cons t row ih=>exact fun m=>(zov m t).trans (ih _)
theorem zmH(m:List Nat)(row:List Int)(t:Int):iF m (row++[t])=jo (iF m row) t:=by simp[iF,List.foldl_append]
theorem UE(m:List Nat)(t:Int)(x:Nat):x∈jo m t↔x∈m\/t=(x:Int):=by
 unfold jo;split
 ·rename_i h;rw[List.mem_append,List.mem_singleton];constructor
  ·rintro (h1|h1)
   ·exact inl h1
   exact inr (by omega)
  rintro (h1|h1)
  ·exact inl h1
  exact inr (by omega)
 rename_i h;refine⟨inl,?_⟩;rintro (h1|h1)
 ·exact h1
 refine Classical.byContradiction fun hn=>h ⟨by omega,?_⟩
 have:t.toNat=x:=by omega
 rw[this];exact hn
theorem Ul(row:List Int):∀m x,x∈iF m row↔x∈m\/((x:Nat):Int)∈row:=by
 induction row with
 | nil=>intro m x;simp[iF]
 | cons t row ih=>
  intro m x;show x∈iF (jo m t) row↔_;rw[ih,UE,List.mem_cons];constructor
  ·rintro ((h|h)|h)
   ·exact inl h
   ·exact inr (inl h.symm)
   exact inr (inr h)
  rintro (h|h|h)
  ·exact inl (inl h)
  ·exact inl (inr h.symm)
  exact inr h
theorem zkE(h:m.Nodup)(t:Int):(jo m t).Nodup:=by
 unfold jo;split
 ·rename_i h2;rw[List.nodup_append];exact⟨h,by simp,fun a ha b hb e=>by
   rw[List.mem_singleton.1 hb] at e
   rw[e] at ha
   exact h2.2 ha⟩
 exact h
theorem NU(rows:Nat->List Int)(m:List Nat)(k:Nat):dw rows m k <+: dw rows m (k+1):=by
 show _ <+: pE rows (dw rows m k) k;unfold pE;split
 ·exact zow _ _
 exact List.prefix_refl _
theorem Ux(rows:Nat->List Int)(m:List Nat)(h:(dw rows m k).length=k):∀j,k<=j->dw rows m j=dw rows m k:=by
 intro j hj
 induction j with
 | zero=>rw[show k=0 by omega]
 | succ j ih=>
  by_cases e:k=j+1
  ·rw[e]
  have h2:=ih (by omega);show pE rows (dw rows m j) j=_;rw[h2];unfold pE;rw[if_neg (by omega)]
theorem zox(rows:Nat->List Int)(m:List Nat){j:Nat}(hi:(dw rows m i).length=i)(hj:(dw rows m j).length=j):dw rows m i=dw rows m j:=by
 rcases Nat.le_total i j with h|h
 ·exact (Ux rows m hi j h).symm
 exact Ux rows m hj i h
def WE(rows:Nat->List Int)(x y:Nat):Prop:=((y:Nat):Int)∈rows x
theorem Wl(rows:Nat->List Int)(m:List Nat)(k:Nat):∀x∈dw rows m k,jI (WE rows) (fun y=>y∈m) x:=by
 induction k with
 | zero=>exact fun x hx=>.base hx
 | succ k ih=>
  intro x hx;have lE:x∈pE rows (dw rows m k) k:=hx;unfold pE at lE;split at lE
  ·rename_i h;rw[Ul] at lE;rcases lE with h1|h1
   ·exact ih x h1
   refine .step (ih ((dw rows m k).getD k 0) ?_) h1;rw[show (dw rows m k).getD k 0=(dw rows m k)[k] by simp[List.getD_eq_getElem?_getD,h]];exact List.getElem_mem h
  exact ih x lE
theorem M9(rows:Nat->List Int)(m:List Nat)(k:Nat):∀j,j<k->∀h:j<(dw rows m k).length,∀y,WE rows (dw rows m k)[j] y->y∈dw rows m k:=by
 induction k with
 | zero=>intro j hj;omega
 | succ k ih=>
  intro j hj h y hy;have hp:=NU rows m k;by_cases hl:k<(dw rows m k).length
  ·have e1:dw rows m (k+1)=iF (dw rows m k) (rows ((dw rows m k).getD k 0)):=by
    show pE rows _ k=_;unfold pE;rw[if_pos hl]
   by_cases e:j=k
   ·subst e;rw[<-hp.getElem hl] at hy;rw[e1,Ul];refine inr ?_;have e2:(dw rows m j).getD j 0=(dw rows m j)[j]:=(by simp[List.getD_eq_getElem?_getD,hl]);rw[e2];exact hy
   have gy:j<(dw rows m k).length:=(by omega);rw[<-hp.getElem gy] at hy;have:=ih j (by omega) gy y hy;exact hp.subset this
  have e1:dw rows m (k+1)=dw rows m k:=by
   show pE rows _ k=_;unfold pE;rw[if_neg hl]
  have gy:j<(dw rows m k).length:=by rw[e1] at h;exact h
  have nc:WE rows (dw rows m k)[j] y:=by
   rw[hp.getElem gy];exact hy
  rw[e1];exact ih j (by omega) gy y nc
theorem Ny(rows:Nat->List Int)(m:List Nat)(k:Nat):m <+: dw rows m k:=by
 induction k with
 | zero=>exact List.prefix_refl _
 | succ k ih=>exact ih.trans (NU rows m k)
theorem OG(rows:Nat->List Int)(m:List Nat)(hi:(dw rows m i).length=i)(x:Nat):x∈dw rows m i↔jI (WE rows) (fun y=>y∈m) x:=by
 refine⟨Wl rows m i x,fun h=>?_⟩
 induction h with
 | base h=>exact (Ny rows m i).subset h
 | step _ e ih=>
  obtain⟨j,hj,e2⟩:=List.getElem_of_mem ih;refine M9 rows m i j (by omega) hj _ ?_;rw[e2];exact e
theorem NZ(rows:Nat->List Int)(hm:m.Nodup)(k:Nat):(dw rows m k).Nodup:=by
 have hR:∀(row:List Int) (m:List Nat),m.Nodup->(iF m row).Nodup:=by
  intro row
  induction row with
  | nil=>exact fun m h=>h
  | cons t row ih=>exact fun m h=>ih _ (zkE h t)
 induction k with
 | zero=>exact hm
 | succ k ih=>
  show (pE rows _ k).Nodup;unfold pE;split
  ·exact hR _ _ ih
  exact ih
structure OB (W0:World)(g n:Nat)(f:Nat->Bool)(wr:World):Prop where
 own:wr.ownsRow W0.heap.size 4 1 (.slice (some ⟨g,0,none⟩) n n) n (fG f n)
 aP:Below W0.heap.size W0 wr
 lo:W0.heap.size<=g
theorem OB.made(W0:World)(n:Nat)(hn:n<=maxLen):OB W0 W0.heap.size n (fun _=>false) (W0.alloc (.cells (madeCells #[.bool false] n) 4)):=by
 refine⟨?_,al W0 _,Nat.le_refl _⟩;have:=Ee W0 W0.heap.size n 4 (.bool false) (Nat.le_refl _) hn;rwa [zpu] at this
theorem OB.ab{w1:World}(h:OB W0 g n f wr)(k:Below wr.heap.size wr w1):OB W0 g n f w1:=⟨db h.own k,h.aP.trans (k.mono h.aP.size),h.lo⟩
theorem OB.put(h:OB W0 g n f wr)(j:Nat)(hj:j<n)(v:Bool):OB W0 g n (fun i=>if i=j then v else f i) (wr.setCell ⟨g,j,none⟩ (.bool v)):=by
 refine⟨?_,h.aP.setCell (p:=⟨g,j,none⟩) h.lo _,h.lo⟩;have:=uj h.own j hj (.bool v);rwa [RI] at this
theorem OB.cell(h:OB W0 g n f wr)(j:Nat)(hj:j<n):wr.cell? ⟨g,j,none⟩=some (.bool (f j))/\wr.frozen? ⟨g,j,none⟩=false:=by
 obtain⟨g',e,_,_,hc⟩:=eC h.own (by omega);have e2:g'=g:=by
  injection e with e;injection e with e _;exact e.symm
 subst e2;obtain⟨h1,h2⟩:=hc j (by omega);exact⟨by rw[h1];simp[fG,hj],h2⟩
def DV(n:Nat)(P:Nat->Prop)(w:World)(e:Ending)(w':World):Prop:=
 ∃(f:Nat->Bool) (a:Option Addr) (c:Nat),e=.returned (.slice a n c)/\w'.ownsRow w.heap.size 4 1 (.slice a n c) n (fG f n)/\(∀x,x<n->(f x=true↔P x))/\Below w.heap.size w w'
def AP(D:Dd)(s:Int)(x:Nat):Prop:=0<=s/\s<(D.n:Int)/\jI (Ed D) (fun y=>y=s.toNat) x
def wN(D:Dd)(x:Nat):Prop:=∃k,jI (Ed D) (fun y=>y=x) k/\0<=D.q k
