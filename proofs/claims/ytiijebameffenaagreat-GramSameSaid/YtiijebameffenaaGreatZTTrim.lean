import Derived.Test.YtiijebameffenaaGreatZSROfM
import Derived.BigFrame
import Derived.Deep.RegionHeld
import Derived.OrdersHeld
import Derived.Scope
set_option linter.all false
set_option maxHeartbeats 4000000
set_option maxRecDepth 100000
open Go.Lib (hid)
namespace Go.Proofs.YtiijebameffenaaGreat
open Go.RowKit Go.Maps Go.WideElems Go.ChangeMaps Go.MapKept Go.Proofs.Tryz
open List (getD_eq_getElem?_getD getElem?_append getElem_mem length_append map_append mem_append mem_singleton nodup_append prefix_refl range range_succ replicate)
open Region (wanted)
open Instr (build fill loadAt sureAddr)
open Sem (run_bind run_pure)
open Result (andThen_ok)
open Or (inl inr)
open Nat (le_refl le_trans)
variable {B C b4 c f g i k n q t x:Nat}{K:Nat->Nat}{P:Program}{W0 w w' wr:World}{a:Option Addr}{l m:List Nat}{ms:List Int}{ops:Array Oper}{tg:Nat->List Nat}{u:Value}{ws:Nat->Value}{xs:List Value}{ρ:Operand->Value}
structure Dd where
 cD:Array Value
 K:Nat->Nat
 aN:Option Addr
 n:Nat
 cN:Nat
 A:Nat->Option Addr
 Cp:Nat->Nat
 len:Nat->Nat
 nx:Nat->Nat->Int
 aM:Option Addr
 m:Nat
 cM:Nat
 q:Nat->Int
structure DM (w:World)(D:Dd):Prop where
 sz:D.cD.size=258
 one:∀v∈D.cD.toList,v.oneCell'=true
 cl:∀j,j<256->D.cD[j]?=some (.int .u8 ((D.K j:Nat):Int))
 kl:∀j,j<256->D.K j<256
 fN:D.cD[256]?=some (.slice D.aN D.n D.cN)
 fM:D.cD[257]?=some (.slice D.aM D.m D.cM)
 rN:mr w D.aN D.n D.A D.Cp D.len D.nx
 rM:kv w D.aM D.m D.q
theorem DM.below{D:Dd}(h:DM w D)(k:Below w.heap.size w w'):DM w' D:=⟨h.sz,h.one,h.cl,h.kl,h.fN,h.fM,h.rN.below k,h.rM.below k⟩
structure cZ (w:World)(b:Nat)(D:Dd):Prop where
 st:St w 101 b D.cD
 dm:DM w D
theorem cZ.aa{b:Nat}{D:Dd}(h:cZ w b D)(k:Below w.heap.size w w'):cZ w' b D:=⟨h.st.aa k,h.dm.below k⟩
theorem cZ.new{D:Dd}(h:DM w D):cZ (w.alloc (.cells D.cD 101)) w.heap.size D:=⟨St.new _ _ _,h.below (al w _)⟩
theorem cZ.f1{b:Nat}{D:Dd}(h:cZ w b D):w.cell? ⟨b,256,none⟩=some (.slice D.aN D.n D.cN):=by rw[h.st.at_,h.dm.fN]
theorem cZ.f2{b:Nat}{D:Dd}(h:cZ w b D):w.cell? ⟨b,257,none⟩=some (.slice D.aM D.m D.cM):=by rw[h.st.at_,h.dm.fM]
theorem cZ.f0{b:Nat}{D:Dd}(h:cZ w b D)(j:Nat)(hj:j<256):w.cell? ⟨b,j,none⟩=some (.int .u8 ((D.K j:Nat):Int)):=by rw[h.st.at_,h.dm.cl j hj]
theorem DM.info{D:Dd}(h:DM w D):(prog.info? 101).map (·.size)=some D.cD.size:=by rw[gO,h.sz]
theorem DM.row{D:Dd}(h:DM w D)(i:Nat)(hi:i<D.n):∃g off,D.aN=some ⟨g,off,none⟩/\g<w.heap.size/\w.cell? ⟨g,off+i,none⟩=some (.slice (D.A i) (D.len i) (D.Cp i))/\kv w (D.A i) (D.len i) (D.nx i):=by
 obtain⟨g,off,e,hg,hc⟩:=h.rN (by omega);exact⟨g,off,e,hg,hc i hi⟩
def Lm(K:Nat->Nat)(C:Nat):Prop:=(∀j,j<256->K j<C)/\∃j,j<256/\K j+1=C
structure DR (D:Dd)(C:Nat):Prop where
 c:Lm D.K C
 n1:1<=D.n
 n2:D.n<=32768
 m:D.m=D.n
 Bb:∀c,c<C->∃j,j<256/\D.K j=c
 len:∀i,i<D.n->D.len i=C
 q:∀i,i<D.n->-1<=D.q i/\D.q i<32768
 nx:∀i c,i<D.n->c<C->-1<=D.nx i c/\D.nx i c<(D.n:Int)
theorem DR.jF{D:Dd}(h:DR D C)(hk:∀j,j<256->D.K j<256):1<=C/\C<=256:=by
 obtain⟨j,hj,e⟩:=h.c.2;have:=hk j hj;omega
def aU(K:Nat->Nat):Array Value:=((range 256).map fun j=>Value.int .u8 ((K j:Nat):Int)).toArray
theorem EG(K:Nat->Nat)(j:Nat)(hj:j<256):(aU K)[j]?=some (.int .u8 ((K j:Nat):Int)):=by simp[aU,hj]
theorem KR(K:Nat->Nat):(aU K).size=256:=by simp[aU]
theorem yD(K:Nat->Nat):(prog.info? 98).map (·.size)=some (aU K).size:=by rw[KR];kernel_rfl
theorem cZ.en{b:Nat}{D:Dd}(h:cZ w b D):∀j v,(aU D.K).toList[j]?=some v->w.cell? ((⟨b,0,none⟩:Addr).add j)=some v:=fun j v hj=>by
 have hl:j<256:=by
  have:=(List.getElem?_eq_some_iff.1 hj).1
  simpa [KR] using this
 have e:(⟨b,0,none⟩:Addr).add j=⟨b,j,none⟩:=by unfold Addr.add;split <;> simp_all
 rw[e,h.f0 j hl,<-hj,Array.getElem?_toList,EG _ j hl]
theorem St.en{b:Nat}(h:St w t b (aU K)):∀j v,(aU K).toList[j]?=some v->w.cell? ((⟨b,0,none⟩:Addr).add j)=some v:=h.part
theorem nO{rest:List Oper}{o:Oper}{a:Act}{Q:Exit->Act->World->Prop}(hw:wanted o (yielded ops a.tmps)=true)(ty:TypeId)(x:Operand)(ho:o.op=.load ty x)
  (ad:Addr) (hx:a.eval x=.pointer (some ad)) (cs:Array Value) (d:TypeDesc) (hc:∀j v,cs.toList[j]?=some v->w.cell? (ad.add j)=some v)
  (hu:P.underlying ty=some d) (hd:(match d with|.struct _|.array _ _=>true|_=>false)=true) (hi:(P.info? ty).map (·.size)=some cs.size)
  (h:wpList P ops Q rest (a.put o.dst (.agg cs)) w):wpList P ops Q (o :: rest) a w:=
 BigFrame.wpList_want hw fun _ hK=>by
  unfold Oper.wp execOp
  simp only[ho,hx,loadAt,sureAddr,run_bind,run_pure,andThen_ok,GH w ad ty cs d hc hu hd hi]
  exact hK _ _ h
theorem LO(K:Nat->Nat)(C:Nat)(hC:Lm K C)(hk:∀j,j<256->K j<256)(w:World):
  Calls prog 155 #[.agg (aU K)] w fun e w'=>e=.returned (.int .i64 (C:Int))/\Below w.heap.size w w':=by
 have hB:=al w (.cells (aU K) 98);have hS:=St.new w 98 (aU K);have hM:=hid (Uw K 256 256 w.heap.size (by omega) (by omega) hk (w.alloc (.cells (aU K) 98)) (fun j hj=>by rw[hS.at_,EG K j hj]));have HB:=hid hB;have HT:Hid (∀x,(∀j,j<256->K j<=x)->(∃j,j<256/\K j=x)->x+1=C/\x<256):=fun x h1 h2=>by
  obtain⟨j,hj,e⟩:=hC.2;obtain⟨j',J8,rfl⟩:=h2;have:=hC.1 j' J8;have:=h1 j hj;have:=hk j' J8;omega
 clear hB hS;go_enter func155,ntmps155;go_wp2_with fail;refine hM.out.mono ?_;rintro e w2 ⟨x,rfl,h1,h2,rfl⟩;obtain⟨hx,kC⟩:=HT.out x h1 h2;have HX:=hid hx;clear h1 h2 hx;go_wp2;go_ret;exact⟨by rw[<-HX.out];first|rfl|(simp;done),HB.out⟩
theorem Oi(D:Dd)(s:Int)(w:World)(hD:DM w D):
  Calls prog 103 #[.agg D.cD,.int .i64 s] w fun e w'=>e=.returned (.bool (decide (0<=s/\s<(D.n:Int))))/\Below w.heap.size w w':=by
 have HB:=hid (Zz (cZ.new hD) (al w (.cells D.cD 101)));clear hD;go_enter func103,ntmps103;go_upto_region 1 with fail;generalize w.alloc (.cells D.cD 101)=W0 at HB⊢;obtain⟨b0,aY⟩:∃b0,w.heap.size=b0:=⟨_,rfl⟩
 have dW:=hid aY;rw[aY] at HB;rw[aY];clear aY;have f1:=HB.out.1.f1;by_cases h0:0<=s
 ·by_cases h1:s<(D.n:Int)
  ·have HZ:Hid (decide (0<=s/\s<(D.n:Int))=true):=(by show _=_;simp[h0,h1]);go_wp2;go_ret;exact⟨by rw[HZ.out];first|rfl|simp[h0,h1],by first|exact HB.out.2|(rw[dW.out];exact HB.out.2)⟩
  have HZ:Hid (decide (0<=s/\s<(D.n:Int))=false):=by show _=_;simp;omega
  go_wp2;go_ret;exact⟨by first|(rw[HZ.out];rfl)|(rw[show decide (0<=s/\s<(D.n:Int))=false from HZ.out];rfl)|(have:=HZ.out;simp_all),by first|exact HB.out.2|(rw[dW.out];exact HB.out.2)⟩
 have HZ:Hid (decide (0<=s/\s<(D.n:Int))=false):=by show _=_;simp;omega
 go_wp2;go_ret;exact⟨by first|(rw[HZ.out];rfl)|(rw[show decide (0<=s/\s<(D.n:Int))=false from HZ.out];rfl)|(have:=HZ.out;simp_all),by first|exact HB.out.2|(rw[dW.out];exact HB.out.2)⟩
theorem zc6(K:Nat->Nat)(C:Nat)(hC:Lm K C)(hk:∀j,j<256->K j<256)(hg:∀c,c<C->∃j,j<256/\K j=c)(w:World):
  Calls prog 121 #[.agg (aU K)] w fun e w'=>e=.returned (.bool true)/\Below w.heap.size w w':=by
 have WB:C<=256:=by
  obtain⟨j,hj,e⟩:=hC.2;have:=hk j hj;omega
 have HB:=hid (Zz (St.new w 98 (aU K)) (Zz (al w (.cells (aU K) 98)) (Zz hC (Zz hk hg))));have eG:=yD K;clear hC hk hg;go_enter func121,ntmps121;go_wp2_with fail;generalize w.alloc (.cells (aU K) 98)=W0 at HB⊢;obtain⟨b0,aY⟩:∃b0,w.heap.size=b0:=⟨_,rfl⟩
 have dW:=hid aY;rw[aY] at HB;rw[aY];clear aY;have AX:=hid (LO K C HB.out.2.2.1 HB.out.2.2.2.1 W0);refine wp_scope_straight (wp_seq (wp_label ?_));go_wp2_with (refine rD rfl 98 _ rfl ⟨b0,0,none⟩ rfl (aU K) (.array 256 5) HB.out.1.en underlying98 rfl eG ?_);refine AX.out.mono ?_;rintro e w1 ⟨rfl,b1⟩;have H1:=hid (Zz (HB.out.1.aa b1) (HB.out.2.1.trans (b1.mono (by have:=HB.out.2.1.size;have:=dW.out;omega))));clear b1 AX;go_wp2;go_loopw [3,5,8,12] (fun _ _ v _ wr=>∃(c:Nat),v=.int .i64 c/\c<=C/\wr=w1) (fun _ _ v _ _=>C-(intOf v).toNat)
 ·exact⟨0,rfl,by omega,rfl⟩
 obtain⟨c,rfl,hc,rfl⟩:=hrel;by_cases av:c<C
 ·have i1:(c:Int)<C:=by omega
  obtain⟨W9,TA⟩:∃W9,W9=wr:=⟨wr,rfl⟩
  have jT:=hid H1.out.1;go_wp2_with (refine rD rfl 98 _ rfl ⟨b0,0,none⟩ rfl (aU K) (.array 256 5) jT.out.en underlying98 rfl eG ?_);go_loopw [5,12] (fun _ v wq=>∃(k:Nat),v=.int .i64 k/\k<=256/\wq=wr/\Hid (∀j,j<k->K j≠c)) (fun _ v _=>256-(intOf v).toNat)
  ·exact⟨0,rfl,by omega,rfl,fun j hj=>by omega⟩
  obtain⟨k,rfl,ey,rfl,HN⟩:=hrel;by_cases dG:k<256
  ·have i2:(k:Int)<256:=(by omega);have hv:=EG K k dG;have Dj:=OQ 98 5 256 (aU K) k _ underlying98 dG (by kernel_rfl) ⟨_,underlying5,rfl⟩ hv wr;have xM:=HB.out.2.2.2.1 k dG;have HS:Hid (K k≠c->∀j,j<k+1->K j≠c):=fun h j hj=>by
    by_cases e:j=k
    ·subst e;exact h
    exact HN.out j (by omega)
   generalize K k=y at hv Dj xM HS;by_cases e:y=c
   ·subst e;clear HS;go_wp2;go_roundw
    ·exact⟨y+1,by go_num,by omega,by first|trivial|rfl⟩
    simp[intOf];omega
   have HZ:=hid (HS.out e);have i3:¬((y:Int)=c):=(by omega);go_wp2;go_roundw
   ·exact⟨k+1,by go_num,by omega,by first|trivial|rfl,HZ⟩
   simp[intOf];omega
  obtain rfl:k=256:=by omega
  obtain⟨j,hj,e⟩:=HB.out.2.2.2.2 c av;exact absurd e (HN.out j hj)
 obtain rfl:c=C:=by omega
 go_wp2_with fail
 try dsimp only[Exit.noGoto]
 go_ret;exact⟨rfl,by rw[dW.out];exact H1.out.2⟩
theorem zdX(D:Dd)(C:Nat)(hR:DR D C)(w:World)(hD:DM w D):
  Calls prog 122 #[.agg D.cD] w fun e w'=>e=.returned (.bool true)/\Below w.heap.size w w':=by
 have HB:=hid (Zz (cZ.new hD) (Zz (al w (.cells D.cD 101)) hR));have dk:=hR.n2;have np:=hR.m;clear hD hR;go_enter func122,ntmps122;go_upto_region 1 with fail;generalize w.alloc (.cells D.cD 101)=W0 at HB⊢;obtain⟨b0,aY⟩:∃b0,w.heap.size=b0:=⟨_,rfl⟩
 have dW:=hid aY;rw[aY] at HB;rw[aY];clear aY;have f1:=HB.out.1.f1;have f2:=HB.out.1.f2;rw[np] at f2;have JS:=hid np;clear np;go_wp2;go_loopw [4,8] (fun _ v wr=>∃(k:Nat),v=.int .i64 k/\k<=D.n/\wr=W0) (fun _ v _=>D.n-(intOf v).toNat)
 ·exact⟨0,rfl,by omega,rfl⟩
 obtain⟨k,rfl,hk,rfl⟩:=hrel;by_cases av:k<D.n
 ·obtain⟨gM,oM,eM,_,na⟩:=HB.out.1.dm.rM (by have:=JS.out;omega);have cM:=na k (by have:=JS.out;omega);have hq:=HB.out.2.2.q k av;have i1:(k:Int)<(D.n:Int):=by omega
  rw[eM];have TV:=hid eM;clear na eM;generalize D.q k=y at cM hq;have i2:decide (y < -1)=false:=by simp;omega
  have i3:decide (32768<=y)=false:=by simp;omega
  go_wp2;go_roundw
  ·exact⟨k+1,by go_num,by omega,by first|trivial|rfl⟩
  simp[intOf];omega
 obtain rfl:k=D.n:=by omega
 go_wp2;go_ret;exact⟨rfl,by rw[dW.out];exact HB.out.2.1⟩
theorem ze3(D:Dd)(C:Nat)(hR:DR D C)(w:World)(hD:DM w D):
  Calls prog 123 #[.agg D.cD] w fun e w'=>e=.returned (.bool true)/\Below w.heap.size w w':=by
 have HB:=hid (Zz (cZ.new hD) (Zz (al w (.cells D.cD 101)) hR));have dk:=hR.n2;have yP:=(hR.jF hD.kl).2;have eG:=yD D.K;clear hD hR;go_enter func123,ntmps123;go_upto_region 1 with fail;generalize w.alloc (.cells D.cD 101)=W0 at HB⊢;obtain⟨b0,aY⟩:∃b0,w.heap.size=b0:=⟨_,rfl⟩
 have dW:=hid aY;rw[aY] at HB;rw[aY];clear aY;have AX:=hid (LO D.K C HB.out.2.2.c HB.out.1.dm.kl W0);go_wp2_with (refine rD rfl 98 _ rfl ⟨b0,0,none⟩ rfl (aU D.K) (.array 256 5) HB.out.1.en underlying98 rfl eG ?_);refine AX.out.mono ?_;rintro e w1 ⟨rfl,b1⟩;have H1:=hid (Zz (HB.out.1.aa b1) (HB.out.2.1.trans (b1.mono (by have:=HB.out.2.1.size;have:=dW.out;omega))));have f1:=H1.out.1.f1;clear b1 AX;obtain⟨gN,oN,eN,mC,qQ⟩:=H1.out.1.dm.rN (by have:=HB.out.2.2.n1;omega);rw[eN] at f1;have A7:=hid eN;have uc:=hid qQ;clear eN qQ;go_wp2;go_loopw [5,7,14,24] (fun _ _ v _ wr=>∃(i:Nat),v=.int .i64 i/\i<=D.n/\Hid (Below w1.heap.size w1 wr)) (fun _ _ v _ _=>D.n-(intOf v).toNat)
 ·exact⟨0,rfl,by omega,Below.refl _ _⟩
 obtain⟨i,rfl,hi,HX⟩:=hrel;clear f1;by_cases av:i<D.n
 ·have cN:=(HX.out.cell (p:=⟨gN,oN+i,none⟩) mC).trans (uc.out i av).1;have FE:=hid (uc.out i av).2;have hlen:=HB.out.2.2.len i av;rw[hlen] at cN;rw[hlen] at FE;have i1:(i:Int)<(D.n:Int):=by omega
  try dsimp only at cN
  clear hlen;go_wp2;go_loopw [7,24] (fun _ v wq=>∃(c:Nat),v=.int .i64 c/\c<=C/\Hid (Below w1.heap.size w1 wq)) (fun _ v _=>C-(intOf v).toNat)
  ·exact⟨0,rfl,by omega,HX⟩
  clear HX cN;obtain⟨c,rfl,hc,HX⟩:=hrel;by_cases tW:c<C
  ·obtain⟨gA,oA,eA,EZ,oj⟩:=FE.out (by omega);have cA:=(HX.out.cell (p:=⟨gA,oA+c,none⟩) EZ).trans (oj c tW);have hb:=HB.out.2.2.nx i c av tW;have i2:(c:Int)<C:=(by omega);have sJ:=hid (H1.out.1.aa HX.out);rw[eA];have Jo:=hid eA;clear oj eA;generalize D.nx i c=t at cA hb;by_cases ht:t=-1
   ·subst ht;go_wp2;go_roundw
    ·exact⟨c+1,by go_num,by omega,HX⟩
    simp[intOf];omega
   have Lz:(t != (-1:Int))=true:=(by simp[ht]);have tP:=hid (Oi D t wr sJ.out.dm);have Zu:Hid (decide (0<=t/\t<(D.n:Int))=true):=(by show _=_;simp;omega);go_wp2_with (refine nO (by first|rfl|(simp[ht];done)) 101 _ rfl ⟨b0,0,none⟩ rfl D.cD _ sJ.out.st.part underlying101 rfl sJ.out.dm.info ?_);refine tP.out.mono ?_;rintro e w5 ⟨rfl,b5⟩;have oK:=hid (HX.out.trans (b5.mono HX.out.size));rw[Zu.out];clear b5 tP;go_wp2;go_roundw
   ·exact⟨c+1,by go_num,by omega,oK⟩
   simp[intOf];omega
  obtain rfl:c=C:=by omega
  go_wp2;go_roundw
  ·exact⟨i+1,by go_num,by omega,HX⟩
  simp[intOf];omega
 obtain rfl:i=D.n:=by omega
 have HF:Hid (Below w.heap.size w wr):=by
  rw[dW.out];exact H1.out.2.trans (HX.out.mono (by have:=H1.out.2.size;have:=dW.out;omega))
 go_wp2;go_ret;exact⟨rfl,HF.out⟩
theorem Fh(D:Dd)(C:Nat)(hR:DR D C)(w:World)(hD:DM w D):
  Calls prog 97 #[.agg D.cD] w fun e w'=>e=.returned (.bool true)/\Below w.heap.size w w':=by
 have HB:=hid (Zz (cZ.new hD) (Zz (al w (.cells D.cD 101)) hR));have dk:=hR.n2;have fx:=hR.n1;have eG:=yD D.K;clear hD hR;go_enter func97,ntmps97;go_upto_region 1 with fail;generalize w.alloc (.cells D.cD 101)=W0 at HB⊢;obtain⟨b0,aY⟩:∃b0,w.heap.size=b0:=⟨_,rfl⟩
 have dW:=hid aY;rw[aY] at HB;rw[aY];clear aY;have f1:=HB.out.1.f1;have i1:¬((D.n:Int)<1):=by omega
 have i2:¬((32768:Int)<(D.n:Int)):=by omega
 have Jm:b0<=W0.heap.size:=by have:=HB.out.2.1.size;have:=dW.out;omega
 have Fb:=hid (zc6 D.K C HB.out.2.2.c HB.out.1.dm.kl HB.out.2.2.Bb W0);go_wp2_with (refine rD rfl 98 _ rfl ⟨b0,0,none⟩ rfl (aU D.K) (.array 256 5) HB.out.1.en underlying98 rfl eG ?_);refine Fb.out.mono ?_;rintro e w1 ⟨rfl,b1⟩;have H1:=hid (Zz (HB.out.1.aa b1) (HB.out.2.1.trans (b1.mono Jm)));have eU:b0<=w1.heap.size:=by have:=b1.size;omega
 have xZ:=hid (zdX D C HB.out.2.2 w1 H1.out.1.dm);clear b1 f1 Fb;go_wp2_with (refine nO (by rfl) 101 _ rfl ⟨b0,0,none⟩ rfl D.cD _ H1.out.1.st.part underlying101 rfl H1.out.1.dm.info ?_);refine xZ.out.mono ?_;rintro e w2 ⟨rfl,b2⟩;have H2:=hid (Zz (H1.out.1.aa b2) (H1.out.2.trans (b2.mono eU)));have bZ:b0<=w2.heap.size:=by have:=b2.size;omega
 have yJ:=hid (ze3 D C HB.out.2.2 w2 H2.out.1.dm);clear b2 xZ;go_wp2_with (refine nO (by rfl) 101 _ rfl ⟨b0,0,none⟩ rfl D.cD _ H2.out.1.st.part underlying101 rfl H2.out.1.dm.info ?_);refine yJ.out.mono ?_;rintro e w3 ⟨rfl,b3⟩;have HF:Hid (Below w.heap.size w w3):=by
  rw[dW.out];exact H2.out.2.trans (b3.mono bZ)
 clear b3 yJ;go_wp2;go_ret;exact⟨rfl,HF.out⟩
theorem zdP(w:World)(ty:TypeId)(ad:Addr)(cs:Array Value)(d:TypeDesc)(hc:∀j v,cs.toList[j]?=some v->w.cell? (ad.add j)=some v)
  (hu:P.underlying ty=some d) (hd:(match d with|.struct _|.array _ _=>true|_=>false)=true) (hi:(P.info? ty).map (·.size)=some cs.size):
  (loadAt ty (.pointer (some ad))).run P w=.ok (.agg cs) w:=by
 simp only[loadAt,sureAddr,run_bind,run_pure,andThen_ok,GH w ad ty cs d hc hu hd hi]
theorem C0{o:Oper}(w:World)(ty:TypeId)(x:Operand)(ho:o.op=.load ty x)(ad:Addr)(hx:ρ x=.pointer (some ad))(cs:Array Value)(d:TypeDesc)(hc:∀j v,cs.toList[j]?=some v->w.cell? (ad.add j)=some v)
  (hu:P.underlying ty=some d) (hd:(match d with|.struct _|.array _ _=>true|_=>false)=true) (hi:(P.info? ty).map (·.size)=some cs.size):
  (execOp ρ o).run P w=.ok (.value (.agg cs)) w:=by
 unfold execOp;simp only[ho,hx,run_bind,zdP w ty ad cs d hc hu hd hi,andThen_ok,run_pure]
inductive jX (E:Nat->Nat->Prop) (A:Nat->Prop):Nat->Prop
 | base {x:Nat}:A x->jX E A x
 | step {x y:Nat}:jX E A x->E x y->jX E A y
theorem jX.lt{E:Nat->Nat->Prop}{A:Nat->Prop}{N:Nat}(hA:∀x,A x->x<N)(hE:∀x y,E x y->y<N)(h:jX E A x):x<N:=by
 cases h with
 | base h=>exact hA _ h
 | step _ e=>exact hE _ _ e
theorem jX.head{E:Nat->Nat->Prop}{y:Nat}{B:Nat->Prop}(hxy:E x y)(h:jX E (fun z=>z=y) k):jX E (fun z=>z=x) k:=by
 induction h with
 | base h=>subst h;exact .step (.base rfl) hxy
 | step _ e ih=>exact .step ih e
theorem ZJ{E:Nat->Nat->Prop}{B:Nat->Prop}(x:Nat):jX (fun a b=>E b a) B x↔∃k,jX E (fun z=>z=x) k/\B k:=by
 constructor
 ·intro h
  induction h with
  | base h=>exact⟨_,.base rfl,h⟩
  | @step a b _ e ih=>
   obtain⟨k,h1,h2⟩:=ih;exact⟨k,jX.head (B:=B) e h1,h2⟩
 rintro⟨k,h1,h2⟩;have:∀y,jX E (fun z=>z=x) y->jX (fun a b=>E b a) B y->jX (fun a b=>E b a) B x:=by
  intro y hy
  induction hy with
  | base h=>subst h;exact fun h=>h
  | step _ e ih=>exact fun h=>ih (.step h e)
 exact this k h1 (.base h2)
def Ed(D:Dd)(x y:Nat):Prop:=x<D.n/\∃c,c<D.len x/\D.nx x c=(y:Int)
theorem DR.ed{D:Dd}(h:DR D C):∀x y,Ed D x y->y<D.n:=fun x y ⟨hx,c,hc,e⟩=>by
 rw[h.len x hx] at hc
 have:=h.nx x c hx hc
 omega
def iv(m:List Nat)(t:Int):List Nat:=if 0<=t/\t.toNat∉m then m++[t.toNat] else m
def gy(m:List Nat)(row:List Int):List Nat:=row.foldl iv m
def oP(rows:Nat->List Int)(m:List Nat)(i:Nat):List Nat:=if i<m.length then gy m (rows (m.getD i 0)) else m
def cv(rows:Nat->List Int)(m:List Nat):Nat->List Nat
 | 0=>m
 | k+1=>oP rows (cv rows m k) k
theorem zmA(m:List Nat)(t:Int):m <+: iv m t:=by
 unfold iv;split
 ·exact List.prefix_append _ _
 exact prefix_refl _
theorem zmB(row:List Int):∀m,m <+: gy m row:=by
 induction row with
 | nil=>exact fun m=>prefix_refl _
 | cons t row ih=>exact fun m=>(zmA m t).trans (ih _)
theorem zkO(m:List Nat)(row:List Int)(t:Int):gy m (row++[t])=iv (gy m row) t:=by simp[gy,List.foldl_append]
theorem WO(m:List Nat)(t:Int)(x:Nat):x∈iv m t↔x∈m\/t=(x:Int):=by
 unfold iv;split
 ·rename_i h;rw[mem_append,mem_singleton];constructor
  ·rintro (h1|h1)
   ·exact inl h1
   exact inr (by omega)
  rintro (h1|h1)
  ·exact inl h1
  exact inr (by omega)
 rename_i h;refine⟨inl,?_⟩;rintro (h1|h1)
 ·exact h1
 refine Classical.byContradiction fun hn=>h ⟨by omega,?_⟩
 have:t.toNat=x:=by omega
 rw[this];exact hn
theorem Pm(row:List Int):∀m x,x∈gy m row↔x∈m\/((x:Nat):Int)∈row:=by
 induction row with
 | nil=>intro m x;simp[gy]
 | cons t row ih=>
  intro m x;show x∈gy (iv m t) row↔_;rw[ih,WO,List.mem_cons];constructor
  ·rintro ((h|h)|h)
   ·exact inl h
   ·exact inr (inl h.symm)
   exact inr (inr h)
  rintro (h|h|h)
  ·exact inl (inl h)
  ·exact inl (inr h.symm)
  exact inr h
theorem ziP(h:m.Nodup)(t:Int):(iv m t).Nodup:=by
 unfold iv;split
 ·rename_i h2;rw[nodup_append];exact⟨h,by simp,fun a ha b hb e=>by
   rw[List.mem_singleton.1 hb] at e
   rw[e] at ha
   exact h2.2 ha⟩
 exact h
theorem KB(rows:Nat->List Int)(m:List Nat)(k:Nat):cv rows m k <+: cv rows m (k+1):=by
 show _ <+: oP rows (cv rows m k) k;unfold oP;split
 ·exact zmB _ _
 exact prefix_refl _
theorem Rt(rows:Nat->List Int)(m:List Nat)(h:(cv rows m k).length=k):∀j,k<=j->cv rows m j=cv rows m k:=by
 intro j hj
 induction j with
 | zero=>rw[show k=0 by omega]
 | succ j ih=>
  by_cases e:k=j+1
  ·rw[e]
  have h2:=ih (by omega);show oP rows (cv rows m j) j=_;rw[h2];unfold oP;rw[if_neg (by omega)]
theorem YA(rows:Nat->List Int)(m:List Nat){j:Nat}(hi:(cv rows m i).length=i)(hj:(cv rows m j).length=j):cv rows m i=cv rows m j:=by
 rcases Nat.le_total i j with h|h
 ·exact (Rt rows m hi j h).symm
 exact Rt rows m hj i h
def WE(rows:Nat->List Int)(x y:Nat):Prop:=((y:Nat):Int)∈rows x
theorem XO(rows:Nat->List Int)(m:List Nat)(k:Nat):∀x∈cv rows m k,jX (WE rows) (fun y=>y∈m) x:=by
 induction k with
 | zero=>exact fun x hx=>.base hx
 | succ k ih=>
  intro x hx;have kC:x∈oP rows (cv rows m k) k:=hx;unfold oP at kC;split at kC
  ·rename_i h;rw[Pm] at kC;rcases kC with h1|h1
   ·exact ih x h1
   refine .step (ih ((cv rows m k).getD k 0) ?_) h1;rw[show (cv rows m k).getD k 0=(cv rows m k)[k] by simp[getD_eq_getElem?_getD,h]];exact getElem_mem h
  exact ih x kC
theorem L5(rows:Nat->List Int)(m:List Nat)(k:Nat):∀j,j<k->∀h:j<(cv rows m k).length,∀y,WE rows (cv rows m k)[j] y->y∈cv rows m k:=by
 induction k with
 | zero=>intro j hj;omega
 | succ k ih=>
  intro j hj h y hy;have hp:=KB rows m k;by_cases hl:k<(cv rows m k).length
  ·have e1:cv rows m (k+1)=gy (cv rows m k) (rows ((cv rows m k).getD k 0)):=by
    show oP rows _ k=_;unfold oP;rw[if_pos hl]
   by_cases e:j=k
   ·subst e;rw[<-hp.getElem hl] at hy;rw[e1,Pm];refine inr ?_;have e2:(cv rows m j).getD j 0=(cv rows m j)[j]:=(by simp[getD_eq_getElem?_getD,hl]);rw[e2];exact hy
   have iz:j<(cv rows m k).length:=(by omega);rw[<-hp.getElem iz] at hy;have:=ih j (by omega) iz y hy;exact hp.subset this
  have e1:cv rows m (k+1)=cv rows m k:=by
   show oP rows _ k=_;unfold oP;rw[if_neg hl]
  have iz:j<(cv rows m k).length:=by rw[e1] at h;exact h
  have AU:WE rows (cv rows m k)[j] y:=by
   rw[hp.getElem iz];exact hy
  rw[e1];exact ih j (by omega) iz y AU
theorem KT(rows:Nat->List Int)(m:List Nat)(k:Nat):m <+: cv rows m k:=by
 induction k with
 | zero=>exact prefix_refl _
 | succ k ih=>exact ih.trans (KB rows m k)
theorem R6(rows:Nat->List Int)(m:List Nat)(hi:(cv rows m i).length=i)(x:Nat):x∈cv rows m i↔jX (WE rows) (fun y=>y∈m) x:=by
 refine⟨XO rows m i x,fun h=>?_⟩
 induction h with
 | base h=>exact (KT rows m i).subset h
 | step _ e ih=>
  obtain⟨j,hj,e2⟩:=List.getElem_of_mem ih;refine L5 rows m i j (by omega) hj _ ?_;rw[e2];exact e
theorem Kd(rows:Nat->List Int)(hm:m.Nodup)(k:Nat):(cv rows m k).Nodup:=by
 have hR:∀(row:List Int) (m:List Nat),m.Nodup->(gy m row).Nodup:=by
  intro row
  induction row with
  | nil=>exact fun m h=>h
  | cons t row ih=>exact fun m h=>ih _ (ziP h t)
 induction k with
 | zero=>exact hm
 | succ k ih=>
  show (oP rows _ k).Nodup;unfold oP;split
  ·exact hR _ _ ih
  exact ih
structure OB (W0:World)(g n:Nat)(f:Nat->Bool)(wr:World):Prop where
 own:wr.ownsRow W0.heap.size 4 1 (.slice (some ⟨g,0,none⟩) n n) n (kj f n)
 aJ:Below W0.heap.size W0 wr
 lo:W0.heap.size<=g
theorem OB.made(W0:World)(n:Nat)(hn:n<=maxLen):OB W0 W0.heap.size n (fun _=>false) (W0.alloc (.cells (madeCells #[.bool false] n) 4)):=by
 refine⟨?_,al W0 _,le_refl _⟩;have:=Ca W0 W0.heap.size n 4 (.bool false) (le_refl _) hn;rwa [znz] at this
theorem OB.put{f:Nat->Bool}(h:OB W0 g n f wr)(j:Nat)(hj:j<n)(v:Bool):OB W0 g n (fun i=>if i=j then v else f i) (wr.setCell ⟨g,j,none⟩ (.bool v)):=by
 refine⟨?_,h.aJ.setCell (p:=⟨g,j,none⟩) h.lo _,h.lo⟩;have:=uV h.own j hj (.bool v);rwa [Sl] at this
theorem OB.cell{f:Nat->Bool}(h:OB W0 g n f wr)(j:Nat)(hj:j<n):wr.cell? ⟨g,j,none⟩=some (.bool (f j))/\wr.frozen? ⟨g,j,none⟩=false:=by
 obtain⟨g',e,_,_,hc⟩:=fa h.own (by omega);have e2:g'=g:=by
  injection e with e;injection e with e _;exact e.symm
 subst e2;obtain⟨h1,h2⟩:=hc j (by omega);exact⟨by rw[h1];simp[kj,hj],h2⟩
def Lw(n:Nat)(P:Nat->Prop)(w:World)(e:Ending)(w':World):Prop:=
 ∃(f:Nat->Bool) (a:Option Addr) (c:Nat),e=.returned (.slice a n c)/\w'.ownsRow w.heap.size 4 1 (.slice a n c) n (kj f n)/\(∀x,x<n->(f x=true↔P x))/\Below w.heap.size w w'
def uS(D:Dd)(x:Nat):Prop:=∃k,jX (Ed D) (fun y=>y=x) k/\0<=D.q k
def mV(w:World)(a:Option Addr)(l:List Nat):Prop:=kv w a l.length (fun i=>((l.getD i 0:Nat):Int))
theorem mV.below(h:mV w a l)(k:Below w.heap.size w w'):mV w' a l:=kv.below h k
theorem tU(h:w.ownsRow B 3 1 (.slice a n c) n (cy l))(hl:l.length=n):mV w a l:=by
 have e:cy l=ints (l.map fun x=>((x:Nat):Int)):=by simp[cy,ints]
 rw[e] at h;have h2:=P9 h (by simpa using hl);unfold mV;rw[hl];intro h0;obtain⟨g,off,e1,e2,hc⟩:=h2 h0;refine⟨g,off,e1,e2,fun j hj=>?_⟩;rw[hc j hj];have:j<l.length:=by omega
 simp[getD_eq_getElem?_getD,this]
theorem TC(n:Nat)(l:List Nat)(a:Option Addr)(q c:Nat)(hq:l.length=q)(hq2:q<=1000000)(hn:n<=1000000)(hl:∀x∈l,x<n)(w:World)(hL:mV w a l):
  Calls prog 157 #[.int .i64 (n:Int),.slice a q c] w (Lw n (fun x=>x∈l) w):=by
 have iP:=zny n (by omega);have HL:=hid (Zz hL (Zz hq hl));have HO:=hid (OB.made w n (by unfold maxLen;omega));clear hL hq hl;go_enter func157,ntmps157;go_wp2_with fail;obtain⟨g,hg⟩:∃g,w.heap.size=g:=⟨_,rfl⟩
 have kQ:Hid (∀W1,(w.alloc (.cells (madeCells #[.bool false] n) 4))=W1->OB w g n (fun _=>false) W1):=fun W1 h=>by rw[<-h,<-hg];exact HO.out
 rw[hg];generalize qK:w.alloc (.cells (madeCells #[.bool false] n) 4)=W1;have HO:=hid (kQ.out W1 qK);have HOl:=hid (fun (wr:World) (h:OB w g n (fun _=>false) wr)=>h);have HLW:=hid (fun (wr:World) (hb:Below w.heap.size w wr)=>HL.out.1.below hb);clear kQ hg qK;go_loopw [7,12] (fun _ v wr=>∃(k:Nat) (f:Nat->Bool),v=.int .i64 k/\k<=q/\Hid (OB w g n f wr/\∀x,f x=true↔x∈l.take k)) (fun _ v _=>q-(intOf v).toNat)
 ·exact⟨0,_,rfl,by omega,⟨HO.out,fun x=>by simp⟩⟩
 clear HO;obtain⟨k,f,rfl,hk,HX⟩:=hrel;by_cases av:k<q
 ·have hkl:k<l.length:=by rw[HL.out.2.1];exact av
  obtain⟨gL,oL,rfl,_,c0⟩:=HLW.out wr HX.out.1.aJ (by omega);have c1:=c0 k hkl;have hx:l.getD k 0=l[k]:=by simp[getD_eq_getElem?_getD,hkl]
  have iH:=HL.out.2.2 l[k] (getElem_mem hkl);dsimp only at c1;rw[hx] at c1;have HS:Hid (∀x,(if x=l[k] then true else f x)=true↔x∈l.take (k+1)):=fun x=>by
   rw[List.take_succ_eq_append_getElem hkl,mem_append,mem_singleton];by_cases e:x=l[k]
   ·rw[if_pos e];simp[e]
   rw[if_neg e,HX.out.2];simp[e]
  clear c0 hx;generalize l[k]=t at c1 iH HS;obtain⟨y0,y1⟩:=HX.out.1.cell t iH;have HA:=hid (HX.out.1.put t iH true);have i1:(k:Int)<q:=by omega
  have i2:(t:Int)<n:=by omega
  go_wp2;go_roundw
  ·exact⟨k+1,_,by go_num,by omega,⟨HA.out,HS.out⟩⟩
  simp[intOf];omega
 obtain rfl:k=q:=by omega
 have HZ:Hid (Lw n (fun x=>x∈l) w (.returned (.slice (some ⟨g,0,none⟩) n n)) wr):=
  ⟨f,_,_,rfl,HX.out.1.own,fun x _=>by rw[HX.out.2,List.take_of_length_le (by rw[HL.out.2.1];exact le_refl _)],HX.out.1.aJ⟩
 go_wp2;go_ret;exact HZ.out
def Ma(q:Nat)(z:Nat->Int)(w:World)(e:Ending)(w':World):Prop:=
 ∃(a:Option Addr) (c:Nat),e=.returned (.slice a q c)/\w'.ownsRow w.heap.size 3 1 (.slice a q c) q (ints ((range q).map z))/\Below w.heap.size w w'
theorem TN{z:Nat->Int}{o:Nat}(hc:∀j,j<q->w.cell? ⟨g,o+j,none⟩=some (.int .i64 (z j))):∀j u,(ints ((range q).map z))[j]?=some u->w.cell? ((⟨g,o,none⟩:Addr).add j)=some u:=by
 intro j u hj;have hl:j<q:=by
  have:=(List.getElem?_eq_some_iff.1 hj).1;simpa [ints] using this
 have e:(⟨g,o,none⟩:Addr).add j=⟨g,o+j,none⟩:=by unfold Addr.add;split <;> simp_all
 rw[e,hc j hl];simp[ints,hl] at hj;rw[hj]
theorem VO(a:Option Addr)(n c:Nat)(W:World):(binOp .eql 43 (.slice a n c) (.slice none 0 0)).run prog W=.ok (.bool a.isNone) W:=by
 have h:=run_equal_slice_nil W 43 3 a n c underlying43;unfold binOp;simp only[run_bind,h,andThen_ok,run_pure]
theorem LZ(q c:Nat)(a:Option Addr)(z:Nat->Int)(hq:q<=1000000)(w:World)(hz:kv w a q z)(ha:a=none->q=0/\c=0)(hs:∀ad,a=some ad->ad.spot=none):
  Calls prog 128 #[.slice a q c] w (Ma q z w):=by
 have HZ:=hid hz;obtain⟨iI,hI,pT,pJ,pK⟩:=info_parts az;clear hz;go_enter func128,ntmps128;rcases a with _|⟨g,o,sp⟩
 ·obtain⟨rfl,rfl⟩:=ha rfl;have he:(binOp .eql 43 (.slice none 0 0) (.slice none 0 0)).run prog w=.ok (.bool true) w:=VO none 0 0 w;have HF:Hid (Ma 0 z w (.returned (.slice none 0 0)) w):=⟨none,0,rfl,World.ownsRow_nil _ _ _ _,Below.refl _ _⟩
  go_wp2;go_ret;exact HF.out
 obtain rfl:sp=none:=hs _ rfl;have he:(binOp .eql 43 (.slice (some ⟨g,o,none⟩) q c) (.slice none 0 0)).run prog w=.ok (.bool false) w:=VO _ q c w;have HN:Hid (∀W,Below w.heap.size w W->∀j u,(ints ((range q).map z))[j]?=some u->W.cell? ((⟨g,o,none⟩:Addr).add j)=some u):=fun W hb=>by
  rcases Nat.eq_zero_or_pos q with h0|h0
  ·subst h0;intro j u hj;simp[ints] at hj
  obtain⟨g',o',e,_,hc⟩:=(HZ.out.below hb) h0;injection e with e;injection e with e1 e2;subst e1 e2;exact TN hc
 have aQ:=Am w w.heap.size 3 1 #[] 0 rfl (le_refl _) (by decide);go_wp2_with (at_builtin;refine wpList_append_own_at _ rfl _ _ 43 rfl w.heap.size 3 iI (.int .i64 0) 1 8 underlying43 hI pT pJ pK rfl (by decide) _ _ _ rfl aQ ⟨g,o,none⟩ q c (ints ((range q).map z)) rfl (by simp[ints]) (HN.out _ (al w _)) ?d2 ?d3 ?d4 ?d5 ?_)
 case d2=>
  intro u hu;simp[ints] at hu;obtain⟨x,_,rfl⟩:=hu;rfl
 case d3=>unfold maxLen;omega
 case d4=>omega
 any_goals (first|(simp;done)|skip)
 intro v5 w5 an aj _ bw
 try rw[Nat.zero_add] at an
 try rw[Array.toList_empty,List.nil_append] at an
 obtain⟨a5,c5,rfl⟩:=bE an;have HF:Hid (Ma q z w (.returned (.slice a5 q c5)) w5):=⟨a5,c5,rfl,an,fA (al w (.cells #[] 3)) aQ (by simp) aj⟩
 clear an aj bw;go_wp2;go_ret;exact HF.out
def aw(len:Nat->Nat)(nx:Nat->Nat->Int)(i:Nat):List Int:=(range (len i)).map (nx i)
def Uo(rows:Nat->List Int)(l0:List Nat)(n:Nat)(w:World)(e:Ending)(w':World):Prop:=
 ∃(l:List Nat) (i:Nat) (a:Option Addr) (c:Nat),e=.returned (.slice a i c)/\w'.ownsRow w.heap.size 3 1 (.slice a i c) i (cy l)/\l=cv rows l0 i/\l.length=i/\i<=n/\(∀x∈l,x<n)/\Below w.heap.size w w'
theorem YJ(nx:Nat->Nat->Int)(x c:Nat)(m:List Nat):gy m ((range (c+1)).map (nx x))=iv (gy m ((range c).map (nx x))) (nx x c):=by
 rw[range_succ,map_append,List.map_singleton,zkO]
theorem Xm(n cL:Nat)(aL:Option Addr)(A:Nat->Option Addr)(Cp len:Nat->Nat)(nx:Nat->Nat->Int)(l0:List Nat)(aF:Option Addr)(q cF:Nat)(hn:n<=100000)(hlen:∀i,i<n->len i<=100000)(DJ:∀i c,i<n->c<len i->-1<=nx i c/\nx i c<(n:Int))
  (hq:l0.length=q) (iM:l0.Nodup) (kD:∀x∈l0,x<n) (w:World) (hR:mr w aL n A Cp len nx) (hF:mV w aF l0) (ha:aF=none->q=0/\cF=0) (hs:∀ad,aF=some ad->ad.spot=none):
  Calls prog 124 #[.slice aL n cL,.slice aF q cF] w (Uo (aw len nx) l0 n w):=by
 have Se:q<=n:=by rw[<-hq];exact pR iM kD
 have HX:=hid (Zz hlen (Zz DJ (Zz hq (Zz iM (Zz kD (Zz hR hF))))));have dz:=hid (LZ q cF aF (fun i=>((l0.getD i 0:Nat):Int)) (by omega) w (by rw[<-hq];exact hF) ha hs);obtain⟨iI,hI,pT,pJ,pK⟩:=info_parts az;clear hlen DJ hq iM kD hR hF ha hs;go_enter func124,ntmps124;go_wp2_with fail;refine dz.out.mono ?_;rintro e w1 ⟨a1,c1,rfl,aQ,b1⟩;have yW:ints ((range q).map (fun i=>((l0.getD i 0:Nat):Int)))=cy l0:=by
  apply List.ext_getElem?;intro j;have hq:=HX.out.2.2.1;by_cases h:j<q
  ·have h2:j<l0.length:=(by omega);simp[ints,cy,h,h2,getD_eq_getElem?_getD]
  have h2:¬j<l0.length:=by omega
  simp[ints,cy,h,h2]
 rw[yW] at aQ;have yg:=hid (Zz aQ b1);have Vj:=hid (TC n l0 a1 q c1 HX.out.2.2.1 (by omega) (by omega) HX.out.2.2.2.2.1 w1 (tU aQ HX.out.2.2.1));clear aQ b1 yW dz;go_wp2_with fail;refine Vj.out.mono ?_;rintro e w2 ⟨f,a2,c2,rfl,si,hf,b2⟩;have iQ:∃g,(Value.slice a2 n c2)=.slice (some ⟨g,0,none⟩) n c2\/n=0:=by
  rcases Nat.eq_zero_or_pos n with h|h
  ·exact⟨0,inr h⟩
  obtain⟨g,e,_⟩:=fa si h;exact⟨g,inl (by rw[e])⟩
 have bZ:kj f n=kj (fun x=>decide (x∈l0)) n:=Xa fun j hj=>by rw[Bool.eq_iff_iff,hf j hj,decide_eq_true_iff]
 rw[bZ] at si;have kQ:Hid (w2.ownsRow w.heap.size 3 1 (.slice a1 q c1) q (cy l0)/\w2.ownsRow w.heap.size 4 1 (.slice a2 n c2) n (kj (fun x=>decide (x∈l0)) n)/\Below w.heap.size w w2):=⟨dr yg.out.1 b2,jL si yg.out.2.size,yg.out.2.trans (b2.mono yg.out.2.size)⟩
 clear si hf b2 bZ Vj yg;go_wp2;go_loopw [5,7,9,30] (fun v5 v7 _ _ wr=>∃(i p:Nat) (l:List Nat) (a:Option Addr) (c:Nat),v7=.int .i64 i/\i<=p/\p<=n/\v5=.slice a p c/\Hid (l=cv (aw len nx) l0 i/\l.length=p/\l.Nodup/\(∀x∈l,x<n)/\wr.ownsRow w.heap.size 3 1 (.slice a p c) p (cy l)/\wr.ownsRow w.heap.size 4 1 (.slice a2 n c2) n (kj (fun x=>decide (x∈l)) n)/\Below w.heap.size w wr)) (fun _ v _ _ _=>n-(intOf v).toNat)
 ·exact⟨0,q,l0,a1,c1,rfl,by omega,Se,rfl,⟨rfl,HX.out.2.2.1,HX.out.2.2.2.1,HX.out.2.2.2.2.1,kQ.out.1,kQ.out.2.1,kQ.out.2.2⟩⟩
 clear kQ;obtain⟨i,p,l,a,c,rfl,hip,FM,rfl,HL⟩:=hrel;by_cases av:i<p
 ·have lY:i<l.length:=by rw[HL.out.2.1];exact av
  obtain⟨gM,rfl,_,_,cM⟩:=fa HL.out.2.2.2.2.1 (by omega);have d0:=(cM i (by omega)).1;rw[AD l i lY] at d0;have iH:=HL.out.2.2.2.1 l[i] (getElem_mem lY);have GX:Hid (cv (aw len nx) l0 (i+1)=gy l (aw len nx l[i])):=by
   show oP _ (cv _ _ i) i=_;rw[<-HL.out.1];unfold oP;rw[if_pos lY];simp[getD_eq_getElem?_getD,lY]
  clear cM;generalize l[i]=x at d0 iH GX;obtain⟨g2,o9⟩:=iQ;obtain rfl:a2=some ⟨g2,0,none⟩:=by
   rcases o9 with h|h
   ·injection h
   omega
  clear o9;have vr:=HX.out.1 x iH;obtain⟨gL,oL,eL,_,A9⟩:=(HX.out.2.2.2.2.2.1.below HL.out.2.2.2.2.2.2) (by omega);obtain⟨d1,zx⟩:=A9 x iH;have IG:Hid (kv w (A x) (len x) (nx x)):=by
   obtain⟨_,_,_,_,cLw⟩:=HX.out.2.2.2.2.2.1 (by omega);exact (cLw x iH).2
  have Jy:=hid (fun c hc=>HX.out.2.1 x c iH hc);have HeL:=hid eL;rw[eL];have i1:(i:Int)<p:=by omega
  have i2:(x:Int)<n:=by omega
  clear A9 zx eL;obtain⟨m,hm⟩:∃m,len x=m:=⟨_,rfl⟩
  have Hm:=hid hm;rw[hm] at d1 vr IG;generalize A x=ax at d1 IG;generalize Cp x=cx at d1;clear hm;go_wp2_with fail;obtain⟨W9,rfl⟩:∃W9,W9=wr:=⟨wr,rfl⟩
  clear d0 d1;go_loopw [5,9,30] (fun v5 _ v30 wq=>∃(k p2:Nat) (l2:List Nat) (a:Option Addr) (c:Nat),v30=.int .i64 k/\k<=m/\p<=p2/\p2<=n/\v5=.slice a p2 c/\Hid (l2=gy l ((range k).map (nx x))/\l2.length=p2/\l2.Nodup/\(∀x∈l2,x<n)/\wq.ownsRow w.heap.size 3 1 (.slice a p2 c) p2 (cy l2)/\wq.ownsRow w.heap.size 4 1 (.slice (some ⟨g2,0,none⟩) n c2) n (kj (fun x=>decide (x∈l2)) n)/\Below w.heap.size w wq)) (fun _ _ v _=>m-(intOf v).toNat)
  ·exact⟨0,p,l,_,c,rfl,by omega,by omega,FM,rfl,⟨rfl,HL.out.2.1,HL.out.2.2.1,HL.out.2.2.2.1,HL.out.2.2.2.2.1,HL.out.2.2.2.2.2.1,HL.out.2.2.2.2.2.2⟩⟩
  obtain⟨k,p2,l2,a,c,rfl,hk,qV,fp,rfl,HK⟩:=hrel;by_cases dG:k<m
  ·obtain⟨gA,oA,eA,_,oj⟩:=(IG.out.below HK.out.2.2.2.2.2.2) (by omega);have cA:=oj k dG;have hb:=Jy.out k (by rw[Hm.out];exact dG);have HS:=hid (YJ nx x k l);rw[eA];have Jo:=hid eA;have i3:(k:Int)<m:=(by omega);clear oj eA;generalize nx x k=t at cA hb HS;by_cases ht:t=-1
   ·subst ht;have HZ:Hid (l2=gy l ((range (k+1)).map (nx x))):=by
     show _=_;rw[HS.out,<-HK.out.1];unfold iv;rw[if_neg (by omega)]
    go_wp2;go_roundw
    ·exact⟨k+1,p2,l2,a,c,by go_num,by omega,by omega,by omega,rfl,⟨HZ.out,HK.out.2⟩⟩
    simp[intOf];omega
   obtain⟨u,rfl⟩:∃u:Nat,t=(u:Int):=(⟨t.toNat,by omega⟩);have hu:u<n:=(by omega);have i4:(u:Int)<n:=(by omega);have Lz:((u:Int) != (-1:Int))=true:=(by first|(simp;done)|(simp;omega));obtain⟨gS,eS,xn,_,cS⟩:=fa HK.out.2.2.2.2.2.1 (by omega);obtain rfl:gS=g2:=by
    injection eS with eS;injection eS with eS _;exact eS.symm
   have y0:=(cS u (by omega)).1;have y1:=(cS u (by omega)).2;have y2:(kj (fun x=>decide (x∈l2)) n)[u]?=some (.bool (decide (u∈l2))):=(by simp[kj,hu]);rw[y2] at y0;clear cS y2 eS ht;by_cases nK:u∈l2
   ·have hd:decide (u∈l2)=true:=(by simp[nK]);rw[hd] at y0;have HZ:Hid (l2=gy l ((range (k+1)).map (nx x))):=by
     show _=_;rw[HS.out,<-HK.out.1];unfold iv;rw[if_neg (by simp[nK])]
    clear hd nK;go_wp2;go_roundw
    ·exact⟨k+1,p2,l2,a,c,by go_num,by omega,by omega,by omega,rfl,⟨HZ.out,HK.out.2⟩⟩
    simp[intOf];omega
   have hd:decide (u∈l2)=false:=(by simp[nK]);rw[hd] at y0;have HZ:Hid (l2++[u]=gy l ((range (k+1)).map (nx x))):=by
    show _=_;rw[HS.out,<-HK.out.1];unfold iv;rw[if_pos ⟨by omega,by simpa using nK⟩];simp
   have HN:Hid ((l2++[u]).Nodup/\∀x∈l2++[u],x<n):=by
    refine⟨?_,fun y hy=>?_⟩
    ·rw[nodup_append];exact⟨HK.out.2.2.1,by simp,fun a ha b bZ e=>by
      rw[List.mem_singleton.1 bZ] at e
      rw[e] at ha
      exact nK ha⟩
    rcases List.mem_append.1 hy with h|h
    ·exact HK.out.2.2.2.1 y h
    rw[List.mem_singleton.1 h];exact hu
   have Yl:p2+1<=n:=by
    have:=pR HN.out.1 HN.out.2;simp[HK.out.2.1] at this;exact this
   have HT:Hid ((wr.setCell ⟨gS,u,none⟩ (.bool true)).ownsRow w.heap.size 3 1 (.slice a p2 c) p2 (cy l2)/\(wr.setCell ⟨gS,u,none⟩ (.bool true)).ownsRow w.heap.size 4 1 (.slice (some ⟨gS,0,none⟩) n c2) n (kj (fun x=>decide (x∈l2++[u])) n)/\Below w.heap.size w (wr.setCell ⟨gS,u,none⟩ (.bool true))):=by
    have h1:=HK.out.2.2.2.2.1;have h2:=HK.out.2.2.2.2.2.1;refine⟨fu (ts:=[]) (bs:=[gS]) h1 ((Kept.refl _ _ _).setCell _ _ (inl (by simp))) (by simp) (fun b e hm=>gH h1 h2 (by decide) b e (by simp[List.mem_singleton.1 hm,Value.ownBlock])),?_,HK.out.2.2.2.2.2.2.setCell (p:=⟨gS,u,none⟩) xn _⟩;have h3:=uV h2 u hu (.bool true);rw[Sl] at h3;have e:kj (fun x=>decide (x∈l2++[u])) n=kj (fun i=>if i=u then true else decide (i∈l2)) n:=Xa fun j hj=>by
     by_cases e:j=u
     ·simp[e]
     simp[e]
    rw[e];exact h3
   clear hd nK;go_upto_region 11 with fail;generalize wr.setCell ⟨gS,u,none⟩ (.bool true)=W5 at HT⊢;have hO:=HT.out.1;clear y0 y1;go_wp2_with (at_builtin;refine wpList_append_own_at _ rfl _ _ 43 rfl w.heap.size 3 iI (.int .i64 0) 1 8 underlying43 hI pT pJ pK rfl (by decide) _ _ _ rfl (hO.alloc _) ⟨W5.heap.size,0,none⟩ 1 1 [.int .i64 (u:Int)] rfl rfl (cell_one_new _ _ _) ?d2 ?d3 ?d4 ?d5 ?_)
   case d2=>first|(intro u hu;simp at hu;subst hu;rfl)|rfl
   case d3=>unfold maxLen;omega
   case d4=>omega
   case d5=>have:=HT.out.2.2.size;simp at this⊢;omega
   intro v5 w5 an aj _ bw;obtain⟨a5,c5,rfl⟩:=bE an;have kk:=al W5 (.cells #[.int .i64 (u:Int)] 3);have qw:=HT.out.2.2.size;have h2:=dr HT.out.2.1 kk;have HY:Hid (w5.ownsRow w.heap.size 3 1 (.slice a5 (p2+1) c5) (p2+1) (cy (l2++[u]))/\w5.ownsRow w.heap.size 4 1 (.slice (some ⟨gS,0,none⟩) n c2) n (kj (fun x=>decide (x∈l2++[u])) n)/\Below w.heap.size w w5):=by
    refine⟨by rw[xw];exact an,qc h2 aj (fun b e e2=>gH h2 (hO.alloc _) (by decide) b e e2.symm),fA (HT.out.2.2.trans (kk.mono qw)) (hO.alloc _) (le_trans qw kk.size) aj⟩
   clear an aj bw hO kk h2;go_wp2;go_roundw
   ·exact⟨k+1,p2+1,l2++[u],a5,c5,by go_num,by omega,by omega,by omega,rfl,⟨HZ.out,by rw[length_append,HK.out.2.1];rfl,HN.out.1,HN.out.2,HY.out.1,HY.out.2.1,HY.out.2.2⟩⟩
   simp[intOf];omega
  obtain rfl:k=m:=by omega
  have HZ:Hid (l2=cv (aw len nx) l0 (i+1)):=by
   show _=_;rw[GX.out,HK.out.1];unfold aw;rw[Hm.out]
  go_wp2;go_roundw
  ·exact⟨i+1,p2,l2,a,c,by go_num,by omega,fp,rfl,⟨HZ.out,HK.out.2⟩⟩
  simp[intOf];omega
 obtain rfl:i=p:=by omega
 have HF:Hid (Uo (aw len nx) l0 n w (.returned (.slice a i c)) wr):=⟨l,i,a,c,rfl,HL.out.2.2.2.2.1,HL.out.1,HL.out.2.1,FM,HL.out.2.2.2.1,HL.out.2.2.2.2.2.2⟩
 go_wp2;go_ret;exact HF.out
theorem zfZ(l:List Nat)(s q c:Nat)(a:Option Addr)(hq:l.length=q)(hq2:q<=1000000)(w:World)(hL:mV w a l):
  Calls prog 176 #[.slice a q c,.int .i64 (s:Int)] w (TL (l.getLast?=some s) w):=by
 have HL:=hid (Zz hL hq);clear hL hq;go_enter func176,ntmps176;rcases q with _|q
 ·have HZ:Hid (l.getLast?≠some s):=by
   show ¬_=_;rw[List.eq_nil_of_length_eq_zero HL.out.2];intro h;cases h
  go_wp2;go_ret;exact⟨false,rfl,⟨(fun h=>by cases h),(fun h=>absurd h HZ.out)⟩,Below.refl _ _⟩
 have hne:l.length=q+1:=HL.out.2;obtain⟨g,o,rfl,_,c0⟩:=HL.out.1 (by omega);have c1:=c0 q (by omega);have iz:l.getLast?=some (l.getD q 0):=by
  rw[List.getLast?_eq_getElem?,hne];have:q<l.length:=by omega
  simp[getD_eq_getElem?_getD,this]
 have HS:Hid (l.getLast?=some s↔l.getD q 0=s):=by
  show _↔_;rw[iz];simp
 clear c0 iz hne;dsimp only at c1;generalize l.getD q 0=t at c1 HS;have i1:((q:Int)+1)-1=(q:Int):=by omega
 have i2:(0:Int)<q+1:=by omega
 have i3:(q:Int)<q+1:=by omega
 by_cases e:t=s
 ·subst e;have HZ:=hid (HS.out.2 rfl);go_wp2_with fail
  try go_quiet (fail)
  try go_wp2
  go_ret;exact⟨true,rfl,⟨(fun _=>HZ.out),(fun _=>rfl)⟩,by first|exact Below.refl _ _|exact (Below.refl _ _).drew⟩
 have HZ:Hid (¬l.getLast?=some s):=fun h=>e (HS.out.1 h)
 have i4:((t:Int) == (s:Int))=false:=by simp;omega
 go_wp2_with fail
 try go_quiet (fail)
 try go_wp2
 go_ret;exact⟨false,rfl,⟨(fun h=>by cases h),(fun h=>absurd h HZ.out)⟩,by first|exact Below.refl _ _|exact (Below.refl _ _).drew⟩
structure nf (D:Dd)(f c:Nat)(tg:Nat->List Nat):Prop where
 mem:∀t,t<D.n->∀x,x∈tg t↔(x<f/\Ed D x t)\/(x=f/\f<D.n/\∃c',c'<c/\D.nx f c'=(t:Int))
 inc:∀t,t<D.n->(tg t).Pairwise (·<·)
theorem zgS(hp:l.Pairwise (·<·))(hle:∀x∈l,x<=f):l.getLast?=some f↔f∈l:=by
 constructor
 ·intro h;exact List.mem_of_getLast? h
 intro h;obtain⟨i,hi,e⟩:=List.getElem_of_mem h;have qq:i=l.length-1:=by
  refine Classical.byContradiction fun hne=>?_
  have h2:=(List.pairwise_iff_getElem.1 hp) i (i+1) hi (by omega) (by omega);have h3:=hle l[i+1] (getElem_mem (by omega));omega
 rw[List.getLast?_eq_getElem?];rw[<-qq,List.getElem?_eq_getElem hi,e]
theorem WH(hp:l.Pairwise (·<·))(av:∀x∈l,x<n):l.length<=n:=
 pR (hp.imp fun h=>by omega) av
theorem nf.start(D:Dd):nf D 0 0 (fun _=>[]):=⟨fun t ht x=>⟨fun h=>by simp at h,fun h=>by rcases h with h|⟨_,_,c',h,_⟩ <;> omega⟩,fun t ht=>List.Pairwise.nil⟩
theorem nf.le{D:Dd}(h:nf D f c tg)(ht:t<D.n):∀x∈tg t,x<=f:=fun x hx=>by
 rcases (h.mem t ht x).1 hx with h1|h1
 ·omega
 ·omega
theorem nf.has{D:Dd}(h:nf D f c tg)(ht:t<D.n):(tg t).getLast?=some f↔f∈tg t:=zgS (h.inc t ht) (h.le ht)
theorem nf.skip{D:Dd}(h:nf D f c tg)(hx:D.nx f c<0\/∃t:Nat,D.nx f c=(t:Int)/\t<D.n/\f∈tg t):nf D f (c+1) tg:=by
 refine⟨fun t ht x=>?_,h.inc⟩;rw[h.mem t ht];constructor
 ·rintro (h1|⟨h1,h2,c',h3,h4⟩)
  ·exact inl h1
  exact inr ⟨h1,h2,c',by omega,h4⟩
 rintro (h1|⟨h1,h2,c',h3,h4⟩)
 ·exact inl h1
 by_cases e:c'=c
 ·subst e;rcases hx with hx|⟨t',e',xe,hm⟩
  ·omega
  have:t'=t:=by omega
  subst this;have:=(h.mem t' ht f).1 hm;subst h1;exact this
 exact inr ⟨h1,h2,c',by omega,h4⟩
theorem nf.put{D:Dd}(h:nf D f c tg)(hf:f<D.n)(hx:D.nx f c=(t:Int))(ht:t<D.n)(hm:f∉tg t):nf D f (c+1) (fun j=>if j=t then tg t++[f] else tg j):=by
 refine⟨fun t' xe x=>?_,fun t' xe=>?_⟩
 ·by_cases e:t'=t
  ·subst e;show x∈(if t'=t' then tg t'++[f] else tg t')↔_;rw[if_pos rfl,mem_append,mem_singleton,h.mem t' xe];constructor
   ·rintro ((h1|⟨h1,h2,c',h3,h4⟩)|h1)
    ·exact inl h1
    ·exact inr ⟨h1,h2,c',by omega,h4⟩
    exact inr ⟨h1,hf,c,by omega,hx⟩
   rintro (h1|⟨h1,h2,c',h3,h4⟩)
   ·exact inl (inl h1)
   exact inr h1
  simp only[if_neg e];rw[h.mem t' xe];constructor
  ·rintro (h1|⟨h1,h2,c',h3,h4⟩)
   ·exact inl h1
   exact inr ⟨h1,h2,c',by omega,h4⟩
  rintro (h1|⟨h1,h2,c',h3,h4⟩)
  ·exact inl h1
  by_cases e2:c'=c
  ·subst e2;omega
  exact inr ⟨h1,h2,c',by omega,h4⟩
 by_cases e:t'=t
 ·subst e;show List.Pairwise _ (if t'=t' then tg t'++[f] else tg t');rw[if_pos rfl,List.pairwise_append];refine⟨h.inc t' xe,by simp,fun a ha b hb=>?_⟩;rw[List.mem_singleton.1 hb];have h1:=h.le xe a ha;have h2:a≠f:=fun e=>by rw[e] at ha;exact hm ha
  omega
 simp only[if_neg e];exact h.inc t' xe
theorem nf.row{D:Dd}{C:Nat}(h:nf D f c tg)(hf:f<D.n)(hc:D.len f=c):nf D (f+1) 0 tg:=by
 refine⟨fun t ht x=>?_,h.inc⟩;rw[h.mem t ht];constructor
 ·rintro (h1|⟨h1,h2,c',h3,h4⟩)
  ·exact inl ⟨by omega,h1.2⟩
  subst h1;exact inl ⟨by omega,hf,c',by omega,h4⟩
 rintro (⟨h1,h2⟩|⟨_,_,c',h3,_⟩)
 ·by_cases e:x=f
  ·subst e;obtain⟨_,c',h3,h4⟩:=h2;exact inr ⟨rfl,hf,c',by omega,h4⟩
  exact inl ⟨by omega,h2⟩
 omega
def WI(D:Dd)(w:World)(e:Ending)(w':World):Prop:=
 ∃(g:Nat) (A:Nat->Option Addr) (Cp:Nat->Nat) (tg:Nat->List Nat),e=.returned (.slice (some ⟨g,0,none⟩) D.n D.n)/\mr w' (some ⟨g,0,none⟩) D.n A Cp (fun i=>(tg i).length) (fun i c=>(((tg i).getD c 0:Nat):Int))/\nf D D.n 0 tg/\Below w.heap.size w w'
theorem ie.zs{w3 wq:World}{gT:Nat}{vs:Nat->Value}(h:ie w3 B gT C vs tg wq):mr wq (some ⟨gT,0,none⟩) C (fun i=>tu (vs i)) (fun i=>vD (vs i)) (fun i=>(tg i).length) (fun i c=>(((tg i).getD c 0:Nat):Int)):=by
 intro h0;have av:gT<wq.heap.size:=by
  have:=(h.ig.cell 0 h0).1;by_cases hb:gT<wq.heap.size
  ·exact hb
  simp[World.cell?,Array.getElem?_eq_none (by omega:wq.heap.size<=gT)] at this
 refine⟨gT,0,rfl,av,fun i hi=>?_⟩;obtain⟨ai,ci,e⟩:=bE (h.ig.2.1 i hi);have hr:=h.ig.2.1 i hi;refine⟨?_,?_⟩
 ·rw[Nat.zero_add,(h.ig.cell i hi).1];simp[e,tu,vD]
 show kv wq (tu (vs i)) _ _;rw[e] at hr⊢;exact tU hr rfl
theorem zgT(D:Dd)(C:Nat)(w:World)(hD:DM w D)(hR:DR D C):
  Calls prog 158 #[.agg D.cD] w (WI D w):=by
 have iP:=Wr D.n (by have:=hR.n2;omega);have dk:=hR.n2;have fx:=hR.n1;have yP:=(hR.jF hD.kl).2;have HB:=hid (Zz (cZ.new hD) (Zz (al w (.cells D.cD 101)) hR));obtain⟨iI,hI,pT,pJ,pK⟩:=info_parts az;clear hD hR;go_enter func158,ntmps158;go_upto_region 1 with fail;generalize w.alloc (.cells D.cD 101)=W0 at HB⊢;obtain⟨b0,aY⟩:∃b0,w.heap.size=b0:=⟨_,rfl⟩
 rw[aY] at HB;rw[aY];have dW:=hid aY;clear aY;have f1:=HB.out.1.f1;have yB:ie (W0.alloc (.cells (madeCells #[.slice none 0 0] D.n) 43)) W0.heap.size W0.heap.size D.n (fun _=>.slice none 0 0) (fun _=>[]) (W0.alloc (.cells (madeCells #[.slice none 0 0] D.n) 43)):=ie.made W0 W0.heap.size D.n _ (le_refl _) (Below.refl _ _);have js:=hid yB;have pr:=hid (al W0 (.cells (madeCells #[.slice none 0 0] D.n) 43));clear yB;go_upto_region 2 with fail;obtain⟨gT,Au⟩:∃gT,W0.heap.size=gT:=⟨_,rfl⟩
 have QK:=hid Au;rw[Au] at js;rw[Au];generalize W0.alloc (.cells (madeCells #[.slice none 0 0] D.n) 43)=W1 at js pr⊢;clear Au f1;have Ja:=hid (HB.out.1.aa pr.out);have f1:=Ja.out.f1;obtain⟨gN,oN,eN,mC,qQ⟩:=Ja.out.dm.rN (by omega);rw[eN] at f1;have A7:=hid eN;have uc:=hid qQ;clear eN qQ;go_wp2_with fail;clear f1;go_loopw [4,5,7,15,22] (fun _ _ _ v _ wr=>∃(f:Nat) (vs:Nat->Value) (tg:Nat->List Nat),v=.int .i64 f/\f<=D.n/\Hid (ie W1 gT gT D.n vs tg wr/\nf D f 0 tg)) (fun _ _ _ v _ _=>D.n-(intOf v).toNat)
 ·exact⟨0,_,_,rfl,by omega,⟨js.out,nf.start D⟩⟩
 clear js;obtain⟨f,vs,tg,rfl,hf,HX⟩:=hrel;by_cases av:f<D.n
 ·have eU:gN<gT:=by
   obtain⟨g,o,e,hg,_⟩:=HB.out.1.dm.rN (by omega);rw[A7.out] at e;injection e with e;injection e with e _;rw[QK.out] at hg;omega
  have cN:=(HX.out.1.below.cell (p:=⟨gN,oN+f,none⟩) eU).trans (uc.out f av).1;have FE:Hid (kv W0 (D.A f) (D.len f) (D.nx f)):=by
   obtain⟨_,_,_,_,c9⟩:=HB.out.1.dm.rN (by omega);exact (c9 f av).2
  have hlen:=HB.out.2.2.len f av;rw[hlen] at cN;rw[hlen] at FE;have vb:=hid hlen;have i1:(f:Int)<(D.n:Int):=by omega
  try dsimp only at cN
  clear hlen eU;go_wp2_with fail;clear cN;go_loopw [7,22] (fun _ v wr=>∃(c:Nat) (vs:Nat->Value) (tg:Nat->List Nat),v=.int .i64 c/\c<=C/\Hid (ie W1 gT gT D.n vs tg wr/\nf D f c tg)) (fun _ v _=>C-(intOf v).toNat)
  ·exact⟨0,vs,tg,rfl,by omega,HX⟩
  clear HX;obtain⟨c,vs,tg,rfl,hc,HX⟩:=hrel;have J5:Hid (Below W0.heap.size W0 wr):=by
   have h:=HX.out.1.below;rw[<-QK.out] at h;exact pr.out.trans h
  by_cases tW:c<C
  ·obtain⟨gA,oA,eA,_,oj⟩:=(FE.out.below J5.out) (by omega);have cA:=oj c tW;have hb:=HB.out.2.2.nx f c av tW;have G5:=hid (fun h=>HX.out.2.skip h);have U7:=hid (fun (t:Nat) h1 h2 h3=>HX.out.2.put (t:=t) av h1 h2 h3);have i2:(c:Int)<C:=(by omega);rw[eA];have Jo:=hid eA;clear oj eA;generalize D.nx f c=t at cA hb G5 U7;by_cases ht:t=-1
   ·subst ht;have HZ:=hid (G5.out (inl (by omega)));go_wp2;go_roundw
    ·exact⟨c+1,vs,tg,by go_num,by omega,⟨HX.out.1,HZ.out⟩⟩
    simp[intOf];omega
   obtain⟨u,rfl⟩:∃u:Nat,t=(u:Int):=(⟨t.toNat,by omega⟩);have hu:u<D.n:=(by omega);have i3:(u:Int)<(D.n:Int):=(by omega);have Lz:((u:Int) != (-1:Int))=true:=(by first|(simp;done)|(simp;omega));obtain⟨y0,y1⟩:=HX.out.1.ig.cell u hu;have MV:=HX.out.1.ig.2.1 u hu;obtain⟨au,cu,Kk⟩:=bE MV;have oy:(tg u).length<=D.n:=WH (HX.out.2.inc u hu) (fun x hx=>by have:=HX.out.2.le hu x hx;omega);rw[Kk] at y0;have CU:=MV;rw[Kk] at CU;have zk:=hid (zfZ (tg u) f (tg u).length cu au rfl (by omega) wr (tU CU rfl));have IJ:=hid Kk;clear MV CU Kk ht;obtain⟨q,hq⟩:∃q,(tg u).length=q:=(⟨_,rfl⟩);have Hq:=hid hq;dsimp only at y0;rw[hq] at y0 zk oy;clear hq;go_wp2_with fail;refine zk.out.mono ?_;rintro e w5 ⟨b,rfl,cn,k5⟩;have Ek:=hid (HX.out.1.aa k5);have zT:Hid (b=true↔f∈tg u):=by
    show _↔_;rw[cn,HX.out.2.has hu]
   clear cn k5 zk y0 y1;rcases b with _|_
   ·have HN:Hid (f∉tg u):=(fun h=>by have:=zT.out.2 h;cases this);have HZ:=hid (U7.out u rfl hu HN.out);obtain⟨y0,y1⟩:=Ek.out.ig.cell u hu;rw[IJ.out] at y0;have hO:=Ek.out.ig.2.1 u hu;dsimp only at hO y0;rw[IJ.out,Hq.out] at hO;rw[Hq.out] at y0;go_wp2_with (at_builtin;refine wpList_append_own_at _ rfl _ _ 43 rfl W1.heap.size 3 iI (.int .i64 0) 1 8 underlying43 hI pT pJ pK rfl (by decide) _ _ _ rfl (hO.alloc _) ⟨w5.heap.size,0,none⟩ 1 1 [.int .i64 (f:Int)] rfl rfl (cell_one_new _ _ _) ?d2 ?d3 ?d4 ?d5 ?_)
    case d2=>first|(intro u hu;simp at hu;subst hu;rfl)|rfl
    case d3=>unfold maxLen;omega
    case d4=>omega
    case d5=>have:=Ek.out.below.size;simp;omega
    intro v6 w6 aq ag _ cj;have kk:=al w5 (.cells #[.int .i64 (f:Int)] 3);have pg:=hid ((Ek.out.aa kk).app hu Hq.out (v':=v6) (t:=f) (by exact aq) (by rw[IJ.out,Hq.out];exact ag) (fun b e=>by
     rcases cj with h|h
     ·rw[h] at e
      refine inl ?_
      rw[IJ.out,Hq.out]
      exact e
     ·rw[h] at e
      refine inr ?_
      simp at e
      simp
      omega))
    obtain⟨a6,c6,rfl⟩:=bE aq;have fR:=ag;obtain⟨z0,z1⟩:w6.cell? ⟨gT,u,none⟩=some (vs u)/\w6.frozen? ⟨gT,u,none⟩=false:=by
     have sh:=(Ek.out.aa kk).ig;have hs:=sh.1.af (sh.2.1 u hu) (by decide) (by rw[IJ.out,Hq.out];exact fR);exact⟨by rw[hs.at_];simp[hu],hs.aX u⟩
    clear aq ag cj hO kk fR y0 y1;go_wp2;go_roundw
    ·exact⟨c+1,_,_,by go_num,by omega,⟨pg.out,HZ.out⟩⟩
    simp[intOf];omega
   have HZ:=hid (G5.out (inr ⟨u,rfl,hu,zT.out.1 rfl⟩));go_wp2;go_roundw
   ·exact⟨c+1,vs,tg,by go_num,by omega,⟨Ek.out,HZ.out⟩⟩
   simp[intOf];omega
  obtain rfl:c=C:=by omega
  have HZ:=hid (HX.out.2.row (C:=c) av vb.out);go_wp2;go_roundw
  ·exact⟨f+1,vs,tg,by go_num,by omega,⟨HX.out.1,HZ.out⟩⟩
  simp[intOf];omega
 obtain rfl:f=D.n:=by omega
 have HF:Hid (WI D w (.returned (.slice (some ⟨gT,0,none⟩) D.n D.n)) wr):=by
  refine⟨gT,_,_,tg,rfl,HX.out.1.zs,HX.out.2,?_⟩;have h:=HX.out.1.below;rw[<-QK.out] at h;have h0:=HB.out.2.1;rw[<-dW.out] at h0;exact h0.trans ((pr.out.trans h).mono h0.size)
 go_wp2;go_ret;exact HF.out
theorem zmD(h:w.ownsRow B 3 1 (.slice a q c) q xs)(ha:a=none):q=0/\c=0:=by
 subst ha;rcases h.2 with ⟨h1,h2⟩|⟨g,cap,cur,hv,_⟩
 ·injection h1 with _ h3 h4;exact⟨h3,h4⟩
 injection hv with h1 _ _;cases h1
theorem zmE{ad:Addr}(h:w.ownsRow B 3 1 (.slice a q c) q xs)(ha:a=some ad):ad.spot=none:=by
 subst ha;rcases h.2 with ⟨h1,h2⟩|⟨g,cap,cur,hv,_⟩
 ·injection h1 with h3 _ _;cases h3
 injection hv with h1 _ _;injection h1 with h1;rw[h1]
theorem zog{D:Dd}(h:nf D D.n 0 tg)(i:Nat)(hi:i<D.n):(tg i).length<=D.n:=WH (h.inc i hi) (fun x hx=>by
 rcases (h.mem i hi x).1 hx with h1|⟨_,_,c',h3,_⟩
 ·exact h1.1
 ·omega)
theorem Zg{D:Dd}(h:nf D D.n 0 tg)(i c:Nat)(hi:i<D.n)(hc:c<(tg i).length):-1<=(((tg i).getD c 0:Nat):Int)/\(((tg i).getD c 0:Nat):Int)<(D.n:Int):=by
 have e:(tg i).getD c 0=(tg i)[c]:=by simp[getD_eq_getElem?_getD,hc]
 rw[e];rcases (h.mem i hi _).1 (getElem_mem hc) with h1|⟨_,_,c',h3,_⟩
 ·have:=h1.1;omega
 omega
theorem zoh{D:Dd}(hR:DR D C)(h:nf D D.n 0 tg)(hl:∀x,x∈l↔x<D.n/\0<=D.q x)(x:Nat)(hx:x<D.n):jX (WE (aw (fun i=>(tg i).length) (fun i c=>(((tg i).getD c 0:Nat):Int)))) (fun y=>y∈l) x↔uS D x:=by
 have mem:∀x y,WE (aw (fun i=>(tg i).length) (fun i c=>(((tg i).getD c 0:Nat):Int))) x y↔y∈tg x:=fun x y=>by
  unfold WE aw;constructor
  ·intro h;obtain⟨c,hc,e⟩:=List.mem_map.1 h;have iQ:c<(tg x).length:=(by simpa using hc);have e2:(tg x).getD c 0=(tg x)[c]:=(by simp[getD_eq_getElem?_getD,iQ]);have e1:(((tg x).getD c 0:Nat):Int)=(y:Int):=e;have e3:(tg x)[c]=y:=(by rw[<-e2];omega);rw[<-e3];exact getElem_mem iQ
  intro h;obtain⟨c,hc,e⟩:=List.getElem_of_mem h;refine List.mem_map.2 ⟨c,by simpa using hc,?_⟩;simp[getD_eq_getElem?_getD,hc,e]
 have ed:∀x,x<D.n->∀y,y∈tg x↔Ed D y x:=fun x hx y=>by
  rw[h.mem x hx];constructor
  ·rintro (h1|⟨_,_,c',h3,_⟩)
   ·exact h1.2
   omega
  exact fun h1=>inl ⟨h1.1,h1⟩
 have e1:jX (WE (aw (fun i=>(tg i).length) (fun i c=>(((tg i).getD c 0:Nat):Int)))) (fun y=>y∈l) x↔jX (fun a b=>Ed D b a) (fun y=>y<D.n/\0<=D.q y) x:=by
  constructor
  ·intro h;have:jX (fun a b=>Ed D b a) (fun y=>y<D.n/\0<=D.q y) x/\x<D.n:=by
    clear hx
    induction h with
    | base h=>exact⟨.base ((hl _).1 h),((hl _).1 h).1⟩
    | step _ e ih=>
     have h2:=(ed _ ih.2 _).1 ((mem _ _).1 e);exact⟨.step ih.1 h2,h2.1⟩
   exact this.1
  intro h;have:jX (WE (aw (fun i=>(tg i).length) (fun i c=>(((tg i).getD c 0:Nat):Int)))) (fun y=>y∈l) x/\x<D.n:=by
   clear hx
   induction h with
   | base h=>exact⟨.base ((hl _).2 h),h.1⟩
   | step _ e ih=>exact⟨.step ih.1 ((mem _ _).2 ((ed _ ih.2 _).2 e)),e.1⟩
  exact this.1
 rw[e1,ZJ];constructor
 ·rintro⟨k,h1,h2⟩;exact⟨k,h1,h2.2⟩
 rintro⟨k,h1,h2⟩;exact⟨k,h1,jX.lt (fun y hy=>by rw[hy];exact hx) hR.ed h1,h2⟩
theorem zkU(D:Dd)(C:Nat)(w:World)(hD:DM w D)(hR:DR D C):
  Calls prog 127 #[.agg D.cD] w (Lw D.n (uS D) w):=by
 have dk:=hR.n2;have fx:=hR.n1;have np:=hR.m;have yP:=(hR.jF hD.kl).2;have HB:=hid (Zz (cZ.new hD) (Zz (al w (.cells D.cD 101)) hR));obtain⟨iI,hI,pT,pJ,pK⟩:=info_parts az;clear hD hR;go_enter func127,ntmps127;go_upto_region 1 with fail;generalize w.alloc (.cells D.cD 101)=W0 at HB⊢;obtain⟨b0,aY⟩:∃b0,w.heap.size=b0:=⟨_,rfl⟩
 rw[aY] at HB;rw[aY];have dW:=hid aY;have Jm:b0<=W0.heap.size:=by have:=HB.out.2.1.size;omega
 clear aY;have sf:=hid (Fh D C HB.out.2.2 W0 HB.out.1.dm);go_wp2_with (refine nO (by rfl) 101 _ rfl ⟨b0,0,none⟩ rfl D.cD _ HB.out.1.st.part underlying101 rfl HB.out.1.dm.info ?_);refine sf.out.mono ?_;rintro e w2 ⟨rfl,b1⟩;have H2:=hid (Zz (HB.out.1.aa b1) (HB.out.2.1.trans (b1.mono Jm)));have bZ:b0<=w2.heap.size:=by have:=b1.size;omega
 clear b1 sf;have CR:Hid (∀W',Below w2.heap.size w2 W'->Below w.heap.size w W'):=fun W' h=>by
  rw[dW.out];exact H2.out.2.trans (h.mono bZ)
 have bK:Hid (w.heap.size<=w2.heap.size):=by show _<=_;rw[dW.out];exact bZ
 have f2:=H2.out.1.f2;obtain⟨gM,oM,eM,rR,na⟩:=H2.out.1.dm.rM (by omega);rw[eM,np] at f2;have J2:=hid na;have TV:=hid eM;have JS:=hid np;clear eM na np;go_wp2_with fail;clear f2;go_loopw [3,4,5,12] (fun v3 _ _ v wr=>∃(k p:Nat) (l:List Nat) (a:Option Addr) (c:Nat),v=.int .i64 k/\k<=D.n/\p<=k/\v3=.slice a p c/\Hid (l.length=p/\l.Nodup/\(∀x,x∈l↔x<k/\0<=D.q x)/\wr.ownsRow w2.heap.size 3 1 (.slice a p c) p (cy l)/\Below w2.heap.size w2 wr)) (fun _ _ _ v _=>D.n-(intOf v).toNat)
 ·exact⟨0,0,[],none,0,rfl,by omega,by omega,rfl,⟨rfl,by simp,fun x=>by simp,World.ownsRow_nil _ _ _ _,Below.refl _ _⟩⟩
 obtain⟨k,p,l,a,c,rfl,hk,hp,rfl,HX⟩:=hrel;by_cases av:k<D.n
 ·have cM:=(HX.out.2.2.2.2.cell (p:=⟨gM,oM+k,none⟩) rR).trans (J2.out k (by rw[JS.out];exact av));have hq:=HB.out.2.2.q k av;have i1:(k:Int)<(D.n:Int):=by omega
  have HS:Hid (∀l',(l'=l/\D.q k<0)\/(l'=l++[k]/\0<=D.q k)->l'.Nodup/\∀x,x∈l'↔x<k+1/\0<=D.q x):=fun l' h=>by
   rcases h with ⟨rfl,h⟩|⟨rfl,h⟩
   ·refine⟨HX.out.2.1,fun x=>?_⟩;rw[HX.out.2.2.1];constructor
    ·rintro⟨h1,h2⟩;exact⟨by omega,h2⟩
    rintro⟨h1,h2⟩;by_cases e:x=k
    ·subst e;omega
    exact⟨by omega,h2⟩
   refine⟨?_,fun x=>?_⟩
   ·rw[nodup_append];exact⟨HX.out.2.1,by simp,fun a ha b hb e=>by
     rw[List.mem_singleton.1 hb] at e
     rw[e] at ha
     have:=((HX.out.2.2.1 k).1 ha).1
     omega⟩
   rw[mem_append,mem_singleton,HX.out.2.2.1];constructor
   ·rintro (⟨h1,h2⟩|h1)
    ·exact⟨by omega,h2⟩
    subst h1;exact⟨by omega,h⟩
   rintro⟨h1,h2⟩;by_cases e:x=k
   ·exact inr e
   exact inl ⟨by omega,h2⟩
  try dsimp only at cM
  generalize D.q k=y at cM hq HS;by_cases hy:y=-1
  ·subst hy;have HZ:=hid (HS.out l (inl ⟨rfl,by omega⟩));go_wp2;go_roundw
   ·exact⟨k+1,p,l,a,c,by go_num,by omega,by omega,rfl,⟨HX.out.1,HZ.out.1,HZ.out.2,HX.out.2.2.2.1,HX.out.2.2.2.2⟩⟩
   simp[intOf];omega
  have HZ:=hid (HS.out (l++[k]) (inr ⟨rfl,by omega⟩));have AU:(y != (-1:Int))=true:=by simp[hy]
  have hO:=HX.out.2.2.2.1;go_wp2_with (at_builtin;refine wpList_append_own_at _ rfl _ _ 43 rfl w2.heap.size 3 iI (.int .i64 0) 1 8 underlying43 hI pT pJ pK rfl (by decide) _ _ _ rfl (hO.alloc _) ⟨wr.heap.size,0,none⟩ 1 1 [.int .i64 (k:Int)] rfl rfl (cell_one_new _ _ _) ?d2 ?d3 ?d4 ?d5 ?_)
  case d2=>first|(intro u hu;simp at hu;subst hu;rfl)|rfl
  case d3=>unfold maxLen;omega
  case d4=>omega
  case d5=>have:=HX.out.2.2.2.2.size;simp;omega
  intro v5 w5 an aj _ bw;obtain⟨a5,c5,rfl⟩:=bE an;have qw:=HX.out.2.2.2.2.size;have kk:=al wr (.cells #[.int .i64 (k:Int)] 3);have HY:Hid (w5.ownsRow w2.heap.size 3 1 (.slice a5 (p+1) c5) (p+1) (cy (l++[k]))/\Below w2.heap.size w2 w5):=⟨by rw[xw];exact an,fA (HX.out.2.2.2.2.trans (kk.mono qw)) (hO.alloc _) (le_trans qw kk.size) aj⟩
  clear an aj bw hO kk;go_wp2;go_roundw
  ·exact⟨k+1,p+1,l++[k],a5,c5,by go_num,by omega,by omega,rfl,⟨by rw[length_append,HX.out.1];rfl,HZ.out.1,HZ.out.2,HY.out.1,HY.out.2⟩⟩
  simp[intOf];omega
 obtain rfl:k=D.n:=by omega
 have J5:=hid (H2.out.1.aa HX.out.2.2.2.2);have rX:=hid (fun (W':World) (h:Below wr.heap.size wr W')=>CR.out W' (HX.out.2.2.2.2.trans (h.mono HX.out.2.2.2.2.size)));have NP:Hid (w.heap.size<=wr.heap.size):=le_trans bK.out HX.out.2.2.2.2.size;have dA:Hid (∀W',Below wr.heap.size wr W'->Below wr.heap.size wr W'/\cZ W' b0 D/\W'.cell? ⟨b0,256,none⟩=some (.slice D.aN D.n D.cN)):=fun W' h=>⟨h,J5.out.aa h,(J5.out.aa h).f1⟩
 go_upto_region 10 with fail;refine wp_region_held_drew (S:=fun W'=>Below wr.heap.size wr W'/\cZ W' b0 D/\W'.cell? ⟨b0,256,none⟩=some (.slice D.aN D.n D.cN)) (by kernel_rfl) (dA.out _ (Below.refl _ _).drew) (fun hHeld=>?_)
 (refine ak 0 ?_;refine ak 1 ?_;refine ak 2 ?_)
 (refine ak 3 (v:=.agg D.cD) ?_ (hy:=by intro wz hSw;exact C0 (o:=_) (ρ:=_) wz 101 (.tmp 1) rfl ⟨b0,0,none⟩ rfl D.cD _ (cZ.st (And.left (And.right hSw))).part underlying101 rfl (cZ.dm (And.left (And.right hSw))).info))
 (refine ak 5 ?_;try simp only[Act.put,sA,sB,sC])
 refine bc 4 (fun K hK=>?_);skip;go_simp;go_at_call 158;refine (zgT D C _ hHeld.2.1.dm HB.out.2.2).mono ?_;rintro e w5 ⟨gS,AS,CS,tg,rfl,hS5,Nb,b5⟩;have kA:Below wr.heap.size wr w5:=hHeld.1.trans (b5.mono hHeld.1.size);clear b5
 try go_wp2_with fail
 refine hK.out _ _ (dA.out _ kA) (fun hHeld=>?_);clear hK K
 try simp only[Act.put,sA,sB,sC]
 refine bc 6 (fun K hK=>?_);skip;go_simp;go_at_call 124;refine (Xm D.n D.n (some ⟨gS,0,none⟩) AS CS (fun i=>(tg i).length) (fun i c=>(((tg i).getD c 0:Nat):Int)) l a p c (by omega) (fun i hi=>by have:=zog Nb i hi;omega) (fun i c hi hc=>Zg Nb i c hi hc) HX.out.1 HX.out.2.1 (fun x hx=>((HX.out.2.2.1 x).1 hx).1) w5 hS5 (mV.below (tU HX.out.2.2.2.1 HX.out.1) kA) (fun h=>zmD HX.out.2.2.2.1 h) (fun ad h=>zmE HX.out.2.2.2.1 h)).mono ?_;rintro e w7 ⟨l9,i,ad,c9,rfl,Uh,D4,pA,nK,iz,b7⟩;have aZ:Below wr.heap.size wr w7:=kA.trans (b7.mono kA.size);have j8:=hid (Zz Uh aZ);clear Uh b7
 try go_wp2_with fail
 refine hK.out _ _ (dA.out _ aZ) (fun hHeld=>?_);clear hK K aZ
 try simp only[Act.put,sA,sB,sC]
 refine bc 7 (fun K hK=>?_);skip;go_simp;go_at_call 157;refine (TC D.n l9 ad i c9 pA (by omega) (by omega) iz _ (tU j8.out.1 pA)).mono ?_;rintro e w8 ⟨f8,a8,c8,rfl,SW,TY,b8⟩;have aZ:Below wr.heap.size wr w8:=j8.out.2.trans (b8.mono j8.out.2.size);have Mp:=j8.out.2.size;have HF:Hid (Lw D.n (uS D) w (.returned (.slice a8 D.n c8)) w8):=⟨f8,a8,c8,rfl,jL SW (le_trans NP.out Mp),fun x hx=>by
  rw[TY x hx]
  show x∈l9↔_
  rw[D4,R6 _ _ (by rw[<-D4];exact pA)]
  exact zoh HB.out.2.2 Nb (fun y=>HX.out.2.2.1 y) x hx,rX.out _ aZ⟩
 clear SW TY b8
 try go_wp2_with fail
 refine hK.out _ _ (dA.out _ aZ) (fun hHeld=>?_);clear hK K aZ
 try simp only[Act.put,sA,sB,sC]
 (refine ak 8 ?_;try simp only[Act.put,sA,sB,sC])
 refine wpAnyH_done (by kernel_rfl) ?_ _;clear hHeld;go_wp2;go_ret;exact HF.out
def de(K:Nat->Nat)(vN vK:Value):Array Value:=(((range 256).map fun j=>Value.int .u8 ((K j:Nat):Int))++[vN,vK]).toArray
theorem mc(K:Nat->Nat)(vN vK:Value):(de K vN vK).size=258:=by simp[de]
theorem zu(K:Nat->Nat)(vN vK:Value)(j:Nat)(hj:j<256):(de K vN vK)[j]?=some (.int .u8 ((K j:Nat):Int)):=by
 simp[de,getElem?_append,hj]
theorem pO(K:Nat->Nat)(vN vK:Value):(de K vN vK)[256]?=some vN:=by simp[de,getElem?_append]
theorem yj(K:Nat->Nat)(vN vK:Value):(de K vN vK)[257]?=some vK:=by simp[de,getElem?_append]
theorem vu(K:Nat->Nat)(a b:Option Addr)(n c m d:Nat):∀v∈(de K (.slice a n c) (.slice b m d)).toList,v.oneCell'=true:=by
 intro v hv;simp[de] at hv;rcases hv with ⟨j,_,rfl⟩|rfl|rfl <;> rfl
theorem B7(K:Nat->Nat)(vN vK:Value)(cs:Array Value)(hs:cs.size=258)(h1:∀j,j<256->cs[j]?=some (.int .u8 ((K j:Nat):Int)))(h2:cs[256]?=some vN)(h3:cs[257]?=some vK):cs=de K vN vK:=by
 apply Array.ext_getElem?;intro i;by_cases a:i<256
 ·rw[h1 i a,zu K vN vK i a]
 by_cases b:i=256
 ·subst b;rw[h2,pO]
 by_cases c:i=257
 ·subst c;rw[h3,yj]
 rw[Array.getElem?_eq_none (by omega),Array.getElem?_eq_none (by rw[mc];omega)]
theorem Xz(K:Nat->Nat)(vN vK v:Value):(de K vN vK).setIfInBounds 256 v=de K v vK:=by
 refine B7 K v vK _ (by rw[Array.size_setIfInBounds,mc]) (fun j hj=>?_) ?_ ?_
 ·rw[Array.getElem?_setIfInBounds_ne (by omega),zu K vN vK j hj]
 ·rw[Array.getElem?_setIfInBounds_self_of_lt (by rw[mc];omega)]
 rw[Array.getElem?_setIfInBounds_ne (by omega),yj]
theorem zmF(K:Nat->Nat)(vN vK v:Value):(de K vN vK).setIfInBounds 257 v=de K vN v:=by
 refine B7 K vN v _ (by rw[Array.size_setIfInBounds,mc]) (fun j hj=>?_) ?_ ?_
 ·rw[Array.getElem?_setIfInBounds_ne (by omega),zu K vN vK j hj]
 ·rw[Array.getElem?_setIfInBounds_ne (by omega),pO]
 rw[Array.getElem?_setIfInBounds_self_of_lt (by rw[mc];omega)]
theorem VS(K:Nat->Nat)(W:World):(build 101 #[(0,.agg (aU K))]).run prog W=.ok (.agg (de K (.slice none 0 0) (.slice none 0 0))) W:=by
 have e:prog.built 101 [(0,.agg (aU K))]=fill (fun i=>#[(0,256),(256,1),(257,1)][i]?) (zC 101) [(0,.agg (aU K))]:=by kernel_rfl
 have hz:=jq;have hs:=KR K;obtain⟨p1,p2⟩:=xW (zC 101) (aU K) 0 (by rw[hz];omega);rw[xQ _ _ 0 0 256 (.agg (aU K)) [] (by rfl) hs (by rw[hz];omega)] at e;obtain⟨d1,d2⟩:=EO;have e2:putAt (zC 101) (aU K) 0=de K (.slice none 0 0) (.slice none 0 0):=B7 _ _ _ _ (by rw[p1,hz]) (fun j hj=>by rw[p2,if_pos ⟨by omega,by omega⟩];exact EG K j hj) (by rw[p2,if_neg (by omega),d1]) (by rw[p2,if_neg (by omega),d2]);have e3:(Value.agg (aU K)).cells=aU K:=rfl;rw[e3,e2] at e;exact run_build W _ _ _ e
theorem RY(K:Nat->Nat)(a:Option Addr)(n c:Nat)(W:World):(build 101 #[(0,.agg (aU K)),(2,.slice a n c)]).run prog W=.ok (.agg (de K (.slice none 0 0) (.slice a n c))) W:=by
 have e:prog.built 101 [(0,.agg (aU K)),(2,.slice a n c)]=fill (fun i=>#[(0,256),(256,1),(257,1)][i]?) (zC 101) [(0,.agg (aU K)),(2,.slice a n c)]:=by kernel_rfl
 have hz:=jq;have hs:=KR K;obtain⟨p1,p2⟩:=xW (zC 101) (aU K) 0 (by rw[hz];omega);rw[xQ _ _ 0 0 256 (.agg (aU K)) _ (by rfl) hs (by rw[hz];omega)] at e;obtain⟨d1,d2⟩:=EO;have e2:putAt (zC 101) (aU K) 0=de K (.slice none 0 0) (.slice none 0 0):=B7 _ _ _ _ (by rw[p1,hz]) (fun j hj=>by rw[p2,if_pos ⟨by omega,by omega⟩];exact EG K j hj) (by rw[p2,if_neg (by omega),d1]) (by rw[p2,if_neg (by omega),d2]);have e3:(Value.agg (aU K)).cells=aU K:=rfl;rw[e3,e2] at e;have hd:=mc K (.slice none 0 0) (.slice none 0 0);obtain⟨q1,q2⟩:=xW (de K (.slice none 0 0) (.slice none 0 0)) #[.slice a n c] 257 (by rw[hd];simp);rw[xQ _ _ 2 257 1 (.slice a n c) [] (by rfl) (by rfl) (by rw[hd];omega)] at e;have e4:putAt (de K (.slice none 0 0) (.slice none 0 0)) #[.slice a n c] 257=de K (.slice none 0 0) (.slice a n c):=by
  simp only[List.size_toArray,List.length_cons,List.length_nil] at q2;refine B7 _ _ _ _ (by rw[q1,hd]) (fun j hj=>by rw[q2,if_neg (by omega),zu _ _ _ j hj]) (by rw[q2,if_neg (by omega),pO]) (by rw[q2,if_pos (by omega)];rfl)
 have e5:(Value.slice a n c).cells=#[.slice a n c]:=rfl;rw[e5,e4] at e;exact run_build W _ _ _ e
structure gZ (W0:World)(b4:Nat)(K:Nat->Nat)(C:Nat)(vN:Value)(R:List (List Int))(ws:Nat->Value)(vK:Value)(ms:List Int)(w:World):Prop where
 aJ:Below W0.heap.size W0 w
 st:St w 101 b4 (de K vN vK)
 next:bq w W0.heap.size 43 3 1 vN R.length ws (fun _=>C) (fun j=>ints (R.getD j []))
 ct:w.ownsRow W0.heap.size 3 1 vK ms.length (ints ms)
 sep:∀i,i<R.length->∀b,(ws i).ownBlock=some b->vK.ownBlock≠some b
 lo:W0.heap.size<=b4
section
variable {W0 : World}{b4 C : Nat}{K : Nat → Nat}{vN : Value}{R : List (List Int)}{ws : Nat → Value}{vK : Value}{ms : List Int}{w : World}
theorem gZ.aa{w1:World}(h:gZ W0 b4 K C vN R ws vK ms w)(k:Below w.heap.size w w1):gZ W0 b4 K C vN R ws vK ms w1:=
 ⟨h.aJ.trans (k.mono h.aJ.size),h.st.aa k,h.next.aa k,dr h.ct k,h.sep,h.lo⟩
theorem gZ.f1(h:gZ W0 b4 K C vN R ws vK ms w):w.cell? ⟨b4,256,none⟩=some vN:=by rw[h.st.at_,pO]
theorem gZ.f2(h:gZ W0 b4 K C vN R ws vK ms w):w.cell? ⟨b4,257,none⟩=some vK:=by rw[h.st.at_,yj]
theorem y9{cs:Array Value}{v:Value}(h:w.ownsRow B t 1 v n xs)(hs:St w 101 b4 cs)(ht:t≠101):(w.setCell ⟨b4,i,none⟩ u).ownsRow B t 1 v n xs:=
 fu (ts:=[]) (bs:=[b4]) h ((Kept.refl _ _ _).setCell _ _ (inl (by simp))) (by simp) (fun b e hm=>dH h hs ht b e (List.mem_singleton.1 hm))
theorem gZ.fL{vN':Value}{row:List Int}(h:gZ W0 b4 K C vN R ws vK ms w)(hu:w.ownsRow W0.heap.size 3 1 u C (ints row))(hs:∀i,i<R.length->∀b,(ws i).ownBlock=some b->u.ownBlock≠some b)(qw:∀b,u.ownBlock=some b->vK.ownBlock≠some b)(hq:R.length=q)
  (ho:w'.ownsRow W0.heap.size 43 1 vN' (q+1) ((range q).map ws++[u])) (hg:w.grownBy w' vN.ownBlock):gZ W0 b4 K C vN' (R++[row]) (fun j=>if j=q then u else ws j) vK ms (w'.setCell ⟨b4,256,none⟩ vN'):=by
 subst hq;have dE:St w' 101 b4 (de K vN vK):=h.st.af h.next.own (by decide) hg
 have h1:bq w W0.heap.size 43 3 1 vN R.length ws (fun _=>C) (fun j=>ints ((R++[row]).getD j [])):=h.next.congr (fun i hi=>⟨rfl,by simp[getD_eq_getElem?_getD,List.getElem?_append_left hi]⟩)
 have h2:=h1.sU (v':=vN') (u:=u) (w':=w') (by decide) (by simpa [getD_eq_getElem?_getD] using hu) hs ho hg;have hm:w'.ownsRow W0.heap.size 3 1 vK ms.length (ints ms):=qc h.ct hg (fun b e e2=>gH h.ct h.next.own (by decide) b e e2.symm);refine⟨(fA h.aJ h.next.own h.aJ.size hg).setCell (p:=⟨b4,256,none⟩) h.lo _,?_,?_,y9 hm dE (by decide),?_,h.lo⟩
 ·have:=dE.set 256 vN';rwa [Xz] at this
 ·rw[length_append];exact⟨y9 h2.own dE (by decide),fun i hi=>y9 (h2.row i hi) dE (by decide),h2.sep⟩
 intro i hi b e;by_cases e1:i=R.length
 ·rw[if_pos e1] at e;exact qw b e
 rw[if_neg e1] at e;exact h.sep i (by simp at hi;omega) b e
theorem gZ.l5{vK':Value}{m:Int}(h:gZ W0 b4 K C vN R ws vK ms w)(hq:ms.length=q)
  (ho:w'.ownsRow W0.heap.size 3 1 vK' (q+1) (ints ms++[.int .i64 m])) (hg:w.grownBy w' vK.ownBlock) (eu:vK'.ownBlock=vK.ownBlock\/vK'.ownBlock=some w.heap.size):
  gZ W0 b4 K C vN R ws vK' (ms++[m]) (w'.setCell ⟨b4,257,none⟩ vK'):=by
 subst hq;have dE:St w' 101 b4 (de K vN vK):=h.st.af h.ct (by decide) hg;have hG:bq w' W0.heap.size 43 3 1 vN R.length ws (fun _=>C) (fun j=>ints (R.getD j [])):=
  ⟨qc h.next.own hg (fun b e e2=>gH h.next.own h.ct (by decide) b e e2.symm),fun i hi=>qc (h.next.row i hi) hg (fun b e e2=>h.sep i hi b e e2.symm),h.next.sep⟩
 refine⟨(fA h.aJ h.ct h.aJ.size hg).setCell (p:=⟨b4,257,none⟩) h.lo _,?_,⟨y9 hG.own dE (by decide),fun i hi=>y9 (hG.row i hi) dE (by decide),hG.sep⟩,?_,?_,h.lo⟩
 ·have:=dE.set 257 vK';rwa [zmF] at this
 ·have:=y9 (i:=257) (u:=vK') ho dE (by decide);rw[length_append];simpa [ints] using this
 intro i hi b e;rcases eu with e2|e2
 ·rw[e2];exact h.sep i hi b e
 rw[e2];intro e3;have:=kP (h.next.row i hi) b e;simp at e3;omega
end
def Bk(D:Dd)(C n':Nat)(EC:Nat->Nat->Int)(q':Nat->Int)(w:World)(e:Ending)(w':World):Prop:=
 ∃D':Dd,e=.returned (.agg D'.cD)/\DM w' D'/\D'.K=D.K/\D'.n=n'/\D'.m=n'/\(∀i,i<n'->D'.len i=C)/\(∀i,i<n'->∀c,c<C->D'.nx i c=EC i c)/\(∀i,i<n'->D'.q i=q' i)/\Below w.heap.size w w'/\w'.ownsRow w.heap.size 3 1 (.slice D'.aM n' D'.cM) n' (ints ((range n').map q'))
theorem gZ.MX{D:Dd}{vN:Value}{R:List (List Int)}{vK:Value}{n':Nat}{EC:Nat->Nat->Int}{q':Nat->Int}(hk:∀j,j<256->D.K j<256)(h:gZ W0 b4 D.K C vN R ws vK ms wr)(hR:R.length=n')(uC:∀r∈R,r.length=C)(nL:ms=(range n').map q')
  (DJ:∀i,i<n'->∀c,c<C->(R.getD i []).getD c 0=EC i c) (hw:w.heap.size<=W0.heap.size) (hb:Below wr.heap.size wr w'\/(∃b cs kz,St wr 101 b kz/\w'=wr.setRow b cs)) (hB:Below w.heap.size w w'):Bk D C n' EC q' w (.returned (.agg (de D.K vN vK))) w':=by
 obtain⟨aN,cN,rfl⟩:=bE h.next.own
 obtain⟨aK,cK,rfl⟩:=bE h.ct;have mw:ms.length=n':=by rw[nL];simp
 have oD:∀{B t n:Nat}{v:Value}{xs:List Value},t≠101->wr.ownsRow B t 1 v n xs->w'.ownsRow B t 1 v n xs:=fun {B t n v xs} ht ho=>by
  rcases hb with hb|⟨b,cs,kz,hs,rfl⟩
  ·exact dr ho hb
  exact fu (ts:=[]) (bs:=[b]) ho (G9 wr b cs) (by simp) (fun g e hm=>dH ho hs ht g e (List.mem_singleton.1 hm))
 have dk:bq w' W0.heap.size 43 3 1 (.slice aN R.length cN) R.length ws (fun _=>C) (fun j=>ints (R.getD j [])):=⟨oD (by decide) h.next.own,fun i hi=>oD (by decide) (h.next.row i hi),h.next.sep⟩
 have ow:=oD (by decide) h.ct;refine⟨⟨de D.K (.slice aN R.length cN) (.slice aK ms.length cK),D.K,aN,R.length,cN,fun i=>tu (ws i),fun i=>vD (ws i),fun _=>C,fun i x=>(R.getD i []).getD x 0,aK,ms.length,cK,fun i=>ms.getD i 0⟩,rfl,
  ⟨mc _ _ _,vu _ _ _ _ _ _ _,fun j hj=>zu _ _ _ j hj,hk,pO _ _ _,yj _ _ _,dk.zs rfl uC,P9 ow rfl⟩,rfl,hR,mw,fun i hi=>rfl,DJ,fun i hi=>?_,hB,?_⟩
 ·show ms.getD i 0=_;rw[nL];simp[getD_eq_getElem?_getD,hi]
 show w'.ownsRow _ _ _ (.slice aK n' cK) n' _;rw[<-nL,<-mw];exact jL ow hw
theorem jV(w:World):w.drew.heap.size=w.heap.size:=rfl
theorem Ip(w:World)(o:Obj):(w.alloc o).heap.size=w.heap.size+1:=by simp
theorem Tu{o:Oper}(w:World)(t:TypeId)(parts:Array (Nat × Operand))(ho:o.op=.build t parts)(ps:Array (Nat × Value))(hp:(parts.map fun (i,x)=>(i,ρ x))=ps)(v:Value)(hb:(build t ps).run P w=.ok v w):
  (execOp ρ o).run P w=.ok (.value v) w:=by
 unfold execOp;simp only[ho,hp,run_bind,hb,andThen_ok,run_pure]
theorem Ez{o:Oper}{a:Act}{K:Act->World->Prop}{Q:Exit->Act->World->Prop}{E:Prop}(pV:o.guard=none)(t:TypeId)(ho:o.op=.alloc t)(cs:Array Value)(hz:(zeroValue t).run P w=.ok (.agg cs) w)
  (h:K (a.put o.dst (.pointer (some ⟨w.heap.size,0,none⟩))) (w.alloc (.cells cs t))):if wanted o (yielded ops a.tmps)=true then Oper.wp P o a w K Q else E:=by
 have hw:wanted o (yielded ops a.tmps)=true:=by simp[wanted,pV]
 rw[if_pos hw];unfold Oper.wp execOp;simp only[ho,Instr.alloc,run_bind,hz,andThen_ok,newVar,newRow,newObj,Value.cells];exact h
theorem DC{o:Oper}{a:Act}{K:Act->World->Prop}{Q:Exit->Act->World->Prop}{E:Prop}(pV:o.guard=none)(ty:TypeId)(x v:Operand)(ho:o.op=.store ty x v)(g t:Nat)(kz cs:Array Value)(hx:a.eval x=.pointer (some ⟨g,0,none⟩))(hv:a.eval v=.agg cs)
  (dE:w.heap[g]?=some (.cells kz t (0,0))) (dp:kz.size=cs.size) (hi:(P.info? ty).map (·.size)=some cs.size) (h1:∀u∈cs.toList,u.oneCell'=true) (h:K (a.put o.dst undef) (w.setRow g cs)):if wanted o (yielded ops a.tmps)=true then Oper.wp P o a w K Q else E:=by
 have bS:(storeVar ty ⟨g,0,none⟩ (.agg cs)).run P w=.ok () (w.setRow g cs):=by
  have hs:(sizeOf ty).run P w=.ok cs.size w:=by
   cases hq:P.info? ty with
   | none=>simp[hq] at hi
   | some inf=>
    have:inf.size=cs.size:=(by simpa [hq] using hi);simp[sizeOf,typeInfo,hq,this]
  have:=run_storeCells_at (P:=P) g 0 t cs.toList 0 kz w dE (by simp[dp]) h1;unfold storeVar;simp only[run_bind,hs,andThen_ok];rw[if_neg (show ¬((Value.agg cs).cells.size≠cs.size) from fun h=>h rfl)];show (storeCells ⟨g,0,none⟩ cs.toList).run P w=_;rw[this];congr 2;have hd:List.drop cs.size kz.toList=[]:=List.drop_of_length_le (by simp[dp]);simp[hd]
 have hw:wanted o (yielded ops a.tmps)=true:=by simp[wanted,pV]
 rw[if_pos hw];unfold Oper.wp execOp;simp only[ho,hx,hv,Instr.storeAt,sureAddr,run_bind,run_pure,andThen_ok,bS];exact h
open Classical in
noncomputable def ni (D:Dd) (i c:Nat):Int:=if 0<=D.nx i c/\¬uS D (D.nx i c).toNat then -1 else D.nx i c
theorem gZ.start{V0 V:World}{m:Nat}(hm:V.ownsRow V0.heap.size 3 1 (.slice a m c) m (ints ms))(hl:ms.length=m)(hb:Below V0.heap.size V0 V)(dE:St V 101 b4 (zC 101))(rz:V0.heap.size<=b4):
  gZ V0 b4 K C (.slice none 0 0) [] ws (.slice a m c) ms (V.setRow b4 (de K (.slice none 0 0) (.slice a m c))):=by
 refine⟨mT hb rz _,dE.setRow,⟨World.ownsRow_nil _ _ _ _,fun i hi=>absurd hi (by simp),fun i j hi=>absurd hi (by simp)⟩,?_,fun i hi=>absurd hi (by simp),rz⟩;rw[hl];exact fu (ts:=[]) (bs:=[b4]) hm (G9 _ _ _) (by simp) (fun g e h=>dH hm dE (by decide) g e (List.mem_singleton.1 h))
theorem FU(N:Nat)(hN:N<=2147483647)(W:World):(Instr.makeSlice 43 (.int .i64 (N:Int)) (.int .i64 (N:Int))).run prog W=.ok (.slice (some ⟨W.heap.size,0,none⟩) N N) (W.alloc (.cells (madeCells #[.int .i64 0] N) 3)):=by
 have:=run_make_row' (P:=prog) 43 3 (.int .i64 0) 8 underlying43 az rfl .i64 .i64 N (by omega) (by omega) W;simpa using this
theorem DG(row:List Int)(m k:Nat)(v:Int)(h:row.length=k)(hk:k<m):(ints (row++replicate (m-k) 0)).set k (.int .i64 v)=ints ((row++[v])++replicate (m-(k+1)) 0):=by
 have e:replicate (m-k) (0:Int)=0 :: replicate (m-(k+1)) 0:=by
  rw[show m-k=(m-(k+1))+1 by omega,List.replicate_succ]
 rw[e];subst h;simp[ints,List.set_append]
def nD(z:Nat->Int)(fn:Nat->Int)(i:Nat):Int:=if z i=-1 then -1 else fn (z i).toNat
def WD(m:Nat)(r:Nat->Int)(w:World)(e:Ending)(w':World):Prop:=
 ∃(a:Option Addr) (c:Nat),e=.returned (.slice a m c)/\w'.ownsRow w.heap.size 3 1 (.slice a m c) m (ints ((range m).map r))/\Below w.heap.size w w'
theorem Kh(kf bV n:Nat)(fn:Nat->Int)(m c:Nat)(a:Option Addr)(z:Nat->Int)(w:World)(HC:∀(args:Array Value) (W:World),(callFunc kf args).run prog W=.ok (.enter kf args) W)
  (HM:∀W,Below w.heap.size w W->∀x,x<n->Calls prog kf #[.int .i64 ((x:Nat):Int),.pointer (some ⟨bV,0,none⟩)] W fun e w'=>e=.returned (.int .i64 (fn x))/\w'=W)
  (hm:m<=1000) (hz:kv w a m z) (hb:∀i,i<m->-1<=z i/\z i<(n:Int)) (hn:n<=1000000):
  Calls prog 125 #[.slice a m c,.func (.func kf) #[] #[.pointer (some ⟨bV,0,none⟩)]] w (WD m (nD z fn) w):=by
 have iP:=FU m (by omega);have HX:=hid (Zz HM (Zz hz hb));have HO:=hid (Ca w w.heap.size m 3 (.int .i64 0) (le_refl _) (by unfold maxLen;omega));have ny:=hid (al w (.cells (madeCells #[.int .i64 0] m) 3));clear HM hz hb;go_enter func125,ntmps125;go_wp2_with fail;obtain⟨g,hg⟩:∃g,w.heap.size=g:=⟨_,rfl⟩
 have kQ:Hid ((w.alloc (.cells (madeCells #[.int .i64 0] m) 3)).ownsRow g 3 1 (.slice (some ⟨g,0,none⟩) m m) m (ints ([]++replicate (m-0) 0))/\Below g w (w.alloc (.cells (madeCells #[.int .i64 0] m) 3))):=by
  rw[<-hg];refine⟨?_,ny.out⟩;have:=HO.out;simpa [ints] using this
 rw[hg];generalize w.alloc (.cells (madeCells #[.int .i64 0] m) 3)=W1 at kQ⊢;have Hg:=hid hg;clear HO ny hg;go_loopw [6,7,13] (fun _ _ v wr=>∃(k:Nat),v=.int .i64 k/\k<=m/\Hid (wr.ownsRow g 3 1 (.slice (some ⟨g,0,none⟩) m m) m (ints ((range k).map (nD z fn)++replicate (m-k) 0))/\Below g w wr)) (fun _ _ v _=>m-(intOf v).toNat)
 ·exact⟨0,rfl,by omega,kQ⟩
 clear kQ;obtain⟨k,rfl,hk,HA⟩:=hrel;by_cases av:k<m
 ·have jm:Below w.heap.size w wr:=by rw[Hg.out];exact HA.out.2
  obtain⟨gA,oA,rfl,EZ,oj⟩:=HX.out.2.1 (by omega);have cA:=(jm.cell (p:=⟨gA,oA+k,none⟩) EZ).trans (oj k av);have Jl:=HX.out.2.2 k av;obtain⟨g',e',_,_,nt⟩:=fa HA.out.1 (by omega);obtain rfl:g'=g:=by
   injection e' with e';injection e' with e' _;exact e'.symm
  obtain⟨y0,y1⟩:=nt k (by omega);have hlen:((range k).map (nD z fn)).length=k:=by simp
  have y2:(ints ((range k).map (nD z fn)++replicate (m-k) 0))[k]?=some (.int .i64 0):=by
   have:0<m-k:=(by omega);simp[ints,getElem?_append,this]
  rw[y2] at y0;have gf:Hid ((wr.setCell ⟨g',k,none⟩ (.int .i64 (-1))).ownsRow g' 3 1 (.slice (some ⟨g',0,none⟩) m m) m (ints (((range k).map (nD z fn)++[-1])++replicate (m-(k+1)) 0))/\Below g' w (wr.setCell ⟨g',k,none⟩ (.int .i64 (-1)))):=by
   refine⟨?_,HA.out.2.setCell (p:=⟨g',k,none⟩) (le_refl _) _⟩;have:=uV HA.out.1 k av (.int .i64 (-1));rwa [DG _ m k _ hlen av] at this
  have FQ:Hid (∀v,nD z fn k=v->(range (k+1)).map (nD z fn)=(range k).map (nD z fn)++[v]):=fun v h=>by
   rw[range_succ,map_append,List.map_singleton,h]
  have Bu:Hid ((z k=-1->nD z fn k=-1)/\∀x:Nat,z k=(x:Int)->nD z fn k=fn x):=⟨fun h=>by simp[nD,h],fun x h=>by
   unfold nD
   rw[if_neg (by omega),h]
   rfl⟩
  have vb:=hid hlen;have i1:(k:Int)<m:=by omega
  have IG:=hid HX.out.1
  try dsimp only at cA
  clear oj nt e' y2 hlen;generalize z k=t at cA Jl Bu;go_upto_region 6 with fail;generalize wr.setCell ⟨g',k,none⟩ (.int .i64 (-1))=W5 at gf⊢;clear y0 y1 cA jm;by_cases ht:t=-1
  ·subst ht;have HZ:=hid (FQ.out (-1) (Bu.out.1 rfl));go_wp2;go_roundw
   ·exact⟨k+1,by go_num,by omega,by rw[HZ.out];exact gf⟩
   simp[intOf];omega
  obtain⟨x,rfl⟩:∃x:Nat,t=(x:Int):=⟨t.toNat,by omega⟩
  have iH:x<n:=by omega
  have kC:((x:Int) != (-1:Int))=true:=by first|(simp;done)|(simp;omega)
  have Ul:=hid (IG.out W5 (by rw[Hg.out];exact gf.out.2) x iH);have HZ:=hid (FQ.out (fn x) (Bu.out.2 x rfl));generalize fn x=r at Ul HZ;go_wp2_with fail;refine Ul.out.mono ?_;rintro e w6 ⟨rfl,rfl⟩;obtain⟨g2,e2,_,_,iQ⟩:=fa gf.out.1 (by omega);obtain rfl:g2=g':=by
   injection e2 with e2;injection e2 with e2 _;exact e2.symm
  obtain⟨y0,y1⟩:=iQ k (by omega);have y2:(ints (((range k).map (nD z fn)++[-1])++replicate (m-(k+1)) 0))[k]?=some (.int .i64 (-1)):=by
   simp[ints,getElem?_append]
  rw[y2] at y0;have jW:Hid ((w6.setCell ⟨g2,k,none⟩ (.int .i64 r)).ownsRow g2 3 1 (.slice (some ⟨g2,0,none⟩) m m) m (ints (((range k).map (nD z fn)++[r])++replicate (m-(k+1)) 0))/\Below g2 w (w6.setCell ⟨g2,k,none⟩ (.int .i64 r))):=by
   refine⟨?_,gf.out.2.setCell (p:=⟨g2,k,none⟩) (le_refl _) _⟩;have:=uV gf.out.1 k av (.int .i64 r);have e3:(ints (((range k).map (nD z fn)++[-1])++replicate (m-(k+1)) 0)).set k (.int .i64 r)=ints (((range k).map (nD z fn)++[r])++replicate (m-(k+1)) 0):=by
    have hl:=vb.out;rw[<-DG _ m k (-1) hl av,List.set_set,DG _ m k r hl av]
   rwa [e3] at this
  clear iQ e2 y2;go_wp2;go_roundw
  ·exact⟨k+1,by go_num,by omega,by rw[HZ.out];exact jW⟩
  simp[intOf];omega
 obtain rfl:k=m:=by omega
 have HF:Hid (WD k (nD z fn) w (.returned (.slice (some ⟨g,0,none⟩) k k)) wr):=by
  refine⟨_,_,rfl,?_,by rw[Hg.out];exact HA.out.2⟩;have:=HA.out.1;rw[Nat.sub_self,List.replicate_zero,List.append_nil,<-Hg.out] at this;rw[<-Hg.out];exact this
 go_wp2;go_ret;exact HF.out
theorem S4:∀(args:Array Value) (W:World),(callFunc 129 args).run prog W=.ok (.enter 129 args) W:=fun _ _=>by rfl
theorem WJ(b3 n c:Nat)(a:Option Addr)(f:Nat->Bool)(w:World)(hS:St w 129 b3 #[.slice a n c])(hf:FG w a n f)(x:Nat)(hx:x<n):
  Calls prog 129 #[.int .i64 (x:Int),.pointer (some ⟨b3,0,none⟩)] w fun e w'=>e=.returned (.int .i64 (if f x=true then (x:Int) else -1))/\w'=w:=by
 have c0:w.cell? ⟨b3,0,none⟩=some (.slice a n c):=hS.at_ 0;obtain⟨g,o,rfl,_,q⟩:=hf (by omega);have d0:=q x hx;have i1:(x:Int)<n:=by omega
 clear q;rcases Eb:f x with _|_
 ·rw[Eb] at d0;have HZ:Hid ((if (false=true) then (x:Int) else -1)=-1):=by show _=_;simp
  clear Eb;go_enter func129,ntmps129;go_wp2;go_ret;exact⟨by first|rfl|(rw[HZ.out];rfl)|simp,rfl⟩
 rw[Eb] at d0;clear Eb;go_enter func129,ntmps129;go_wp2;go_ret;exact⟨by first|rfl|simp,rfl⟩
theorem zmG(D:Dd)(C:Nat)(w:World)(hD:DM w D)(hR:DR D C):
  Calls prog 99 #[.agg D.cD] w (Bk D C D.n (ni D) D.q w):=by
 have zd:∀(fn:Fn) (first cap:Array Value) (w:World),(Instr.makeFunc fn first cap).run prog w=.ok (.func fn first cap) w:=fun _ _ _ _=>rfl
 have dk:=hR.n2;have fx:=hR.n1;have np:=hR.m;have yP:=(hR.jF hD.kl).2;have HB:=hid (Zz (cZ.new hD) (Zz (al w (.cells D.cD 101)) hR));obtain⟨iI,hI,pT,pJ,pK⟩:=info_parts az;obtain⟨iV,hV,tI,uh,uq⟩:=info_parts dR;clear hD hR;go_enter func99,ntmps99;go_upto_region 1 with (refine rq rfl 101 rfl (zC 101) (mX _) ?_);simp only[Act.put,List.setIfInBounds_toArray,List.set_cons_zero,List.set_cons_succ,Ip];have H0:Hid (cZ ((w.alloc (.cells D.cD 101)).alloc (.cells (zC 101) 101)) w.heap.size D/\St ((w.alloc (.cells D.cD 101)).alloc (.cells (zC 101) 101)) 101 (w.heap.size+1) (zC 101)/\Below w.heap.size w ((w.alloc (.cells D.cD 101)).alloc (.cells (zC 101) 101))):=by
  refine⟨HB.out.1.aa (al _ _),?_,HB.out.2.1.trans ((al _ _).mono (by simp))⟩;have:=St.new (w.alloc (.cells D.cD 101)) 101 (zC 101);simpa using this
 generalize (w.alloc (.cells D.cD 101)).alloc (.cells (zC 101) 101)=Wb at H0⊢;obtain⟨b2,bZ⟩:∃b2,w.heap.size+1=b2:=⟨_,rfl⟩
 obtain⟨b0,aY⟩:∃b0,w.heap.size=b0:=⟨_,rfl⟩
 rw[bZ,aY] at H0;rw[bZ,aY];have Hb:=hid (Zz aY bZ);clear bZ aY;have sf:=hid (Fh D C HB.out.2.2 Wb H0.out.1.dm);go_wp2_with (refine nO (by rfl) 101 _ rfl ⟨b0,0,none⟩ rfl D.cD _ H0.out.1.st.part underlying101 rfl H0.out.1.dm.info ?_);refine sf.out.mono ?_;rintro e wy ⟨rfl,ra⟩;have qZ:Hid (cZ wy b0 D/\St wy 101 b2 (zC 101)/\Below b0 w wy):=⟨H0.out.1.aa ra,H0.out.2.1.aa ra,H0.out.2.2.trans (ra.mono (by have:=H0.out.2.2.size;have:=Hb.out.1;omega))⟩
 have Ux:=hid (zkU D C wy qZ.out.1.dm HB.out.2.2);clear ra sf;go_wp2_with (refine nO (by rfl) 101 _ rfl ⟨b0,0,none⟩ rfl D.cD _ qZ.out.1.st.part underlying101 rfl qZ.out.1.dm.info ?_);refine Ux.out.mono ?_;rintro e wA ⟨f,aA,cA,rfl,Xk,Wc,bA⟩;go_upto_region 4 with fail;have k3:=al wA (.cells #[.slice aA D.n cA] 129);have rj:Hid (St (wA.alloc (.cells #[.slice aA D.n cA] 129)) 129 wA.heap.size #[.slice aA D.n cA]):=St.new _ _ _;have b1:Below wy.heap.size wy (wA.alloc (.cells #[.slice aA D.n cA] 129)):=bA.trans (k3.mono bA.size);have Gh:=hid (Zz ((Z9 Xk).below k3) Wc);obtain⟨b3,iL⟩:∃b3,wA.heap.size=b3:=⟨_,rfl⟩
 rw[iL] at rj;rw[iL];generalize wA.alloc (.cells #[.slice aA D.n cA] 129)=w1 at b1 Gh rj⊢;clear k3 iL bA;have H1:=hid (Zz (qZ.out.1.aa b1) (Zz (qZ.out.2.1.aa b1) (qZ.out.2.2.trans (b1.mono (by have:=qZ.out.2.2.size;have:=Hb.out.1;omega)))));obtain⟨gM,oM,eM,rR,na⟩:=H1.out.1.dm.rM (by omega);have Aj:=hid (Zz eM (Zz rR (Zz (by rw[np] at na;exact na:∀j,j<D.n->w1.cell? ⟨gM,oM+j,none⟩=some (.int .i64 (D.q j))) np)));have tF:Hid (w.heap.size<=w1.heap.size):=by have h1:=qZ.out.2.2.size;have h2:=b1.size;have h3:=Hb.out.1;show _<=_;omega
 have dA:Hid (∀W',Below w1.heap.size w1 W'->Below w1.heap.size w1 W'/\cZ W' b0 D/\W'.cell? ⟨b0,257,none⟩=some (.slice (some ⟨gM,oM,none⟩) D.n D.cM)):=fun W' h=>⟨h,H1.out.1.aa h,by have:=(H1.out.1.aa h).f2;rw[eM,np] at this;exact this⟩
 have kB:Hid (∀W',Below w1.heap.size w1 W'->∀j u,(ints ((range D.n).map D.q))[j]?=some u->W'.cell? ((⟨gM,oM,none⟩:Addr).add j)=some u):=fun W' h=>TN (fun j hj=>(h.cell (p:=⟨gM,oM+j,none⟩) Aj.out.2.1).trans (Aj.out.2.2.1 j hj))
 clear Xk Wc b1 Ux eM na rR np
 go_cut [4] from 13 to 18 (fun v wx=>∃(b4:Nat) (a6:Option Addr) (c6:Nat),v=.pointer (some ⟨b4,0,none⟩)/\gZ w1 b4 D.K C (.slice none 0 0) [] (fun _=>.slice none 0 0) (.slice a6 D.n c6) ((range D.n).map D.q) wx)
 case first=>
  refine wp_region_held_drew (S:=fun W'=>Below w1.heap.size w1 W'/\cZ W' b0 D/\W'.cell? ⟨b0,257,none⟩=some (.slice (some ⟨gM,oM,none⟩) D.n D.cM)) (by kernel_rfl) (dA.out _ (Below.refl _ _).drew) (fun hHeld=>?_)
  (refine ak 0 ?_)
  (refine ak 1 (v:=.agg (aU D.K)) ?_ (hy:=by intro wz hSw;exact C0 (o:=_) (ρ:=_) wz 98 (.tmp 13) rfl ⟨b0,0,none⟩ rfl (aU D.K) _ (cZ.en (And.left (And.right hSw))) underlying98 rfl (yD D.K)))
  (refine ak 2 ?_;refine ak 3 ?_;try simp only[Act.put,sA,sB,sC])
  refine wpAnyH_ready (rs:=[4,6]) (by kernel_rfl) (by simp) ?_;refine ik (fun K hK=>?_) ?_
  ·skip;go_simp;go_at_call 128;refine (LZ D.n D.cM (some ⟨gM,oM,none⟩) D.q (by omega) _ (fun _=>⟨gM,oM,rfl,Nat.lt_of_lt_of_le Aj.out.2.1 hHeld.1.size,fun j hj=>(hHeld.1.cell (p:=⟨gM,oM+j,none⟩) Aj.out.2.1).trans (Aj.out.2.2.1 j hj)⟩) (fun h=>by cases h) (fun ad h=>by injection h with h;rw[<-h])).mono ?_;rintro e V5 ⟨a6,c6,rfl,aq,b6⟩;have th:=hid (Zz (jL aq hHeld.1.size) (hHeld.1.trans (b6.mono hHeld.1.size)));clear aq b6
   try go_wp2_with fail
   refine hK.out _ _ (dA.out _ th.out.2) (fun hHeld=>?_);clear hK K
   try simp only[Act.put,sA,sB,sC]
   (refine wpAnyH_take (i:=5) (oi:=?_) (v:=.agg (de D.K (.slice none 0 0) (.slice a6 D.n c6))) ?_ (by kernel_rfl) (by kernel_rfl) (by kernel_rfl) ?_ (inl ⟨?_,?_⟩) (by assumption) ?_;rotate_left;(focus ((simp only[List.getElem?_toArray,List.getElem?_cons_succ,List.getElem?_cons_zero]);first|done|rfl));(focus (exact fun _ _ _ h=>h));(focus rfl);(focus (intro wz hSw;exact Tu wz _ _ rfl #[(0,.agg (aU D.K)),(2,.slice a6 D.n c6)] (by first|rfl|simp[Act.eval]|(simp;rfl)) _ (RY D.K a6 D.n c6 wz)));try simp only[Act.put,sA,sB,sC])
   refine bc 6 (fun K hK=>?_);skip;refine Ez (by rfl) 101 (by rfl) (zC 101) (mX _) ?_;have kk:=al V5 (.cells (zC 101) 101);have aZ:Below w1.heap.size w1 (V5.alloc (.cells (zC 101) 101)):=hHeld.1.trans (kk.mono hHeld.1.size);have H7:Hid (St (V5.alloc (.cells (zC 101) 101)) 101 V5.heap.size (zC 101)/\w1.heap.size<=V5.heap.size):=(⟨St.new _ _ _,hHeld.1.size⟩);have th:Hid ((V5.alloc (.cells (zC 101) 101)).ownsRow w1.heap.size 3 1 (.slice a6 D.n c6) D.n (ints ((range D.n).map D.q))/\Below w1.heap.size w1 (V5.alloc (.cells (zC 101) 101))):=(⟨dr th.out.1 kk,aZ⟩);refine hK.out _ _ (dA.out _ aZ) (fun hHeld=>?_);clear hK K
   try simp only[Act.put,sA,sB,sC]
   try simp only[jV]
   clear kk;generalize (V5.alloc (.cells (zC 101) 101))=V7 at H7 th hHeld aZ⊢;refine bc 7 (fun K hK=>?_);skip;refine DC (by rfl) 101 _ _ (by rfl) V5.heap.size 101 (zC 101) (de D.K (.slice none 0 0) (.slice a6 D.n c6)) (by rfl) (by rfl) H7.out.1 (by rw[jq,mc]) (by rw[gO,mc]) (vu _ _ _ _ _ _ _) ?_;have js:=hid (gZ.start (K:=D.K) (C:=C) (ws:=fun _=>.slice none 0 0) th.out.1 (by simp) th.out.2 H7.out.1 H7.out.2);refine hK.out _ _ (dA.out _ js.out.aJ) (fun hHeld=>?_);clear hK K
   try simp only[Act.put,sA,sB,sC]
   refine wpAnyH_done (by kernel_rfl) ?_ _;clear hHeld th H7;go_wp2_with fail
   go_meet
   exact⟨_,_,_,rfl,js.out⟩
  refine ik (fun K hK=>?_) ?_
  ·skip;refine Ez (by rfl) 101 (by rfl) (zC 101) (mX _) ?_;have kk:=al w1.drew (.cells (zC 101) 101);have aZ:Below w1.heap.size w1 (w1.drew.alloc (.cells (zC 101) 101)):=hHeld.1.trans (kk.mono hHeld.1.size);have H7:Hid (St (w1.drew.alloc (.cells (zC 101) 101)) 101 w1.heap.size (zC 101)/\w1.heap.size<=w1.heap.size):=(⟨St.new _ _ _,hHeld.1.size⟩);refine hK.out _ _ (dA.out _ aZ) (fun hHeld=>?_);clear hK K
   try simp only[Act.put,sA,sB,sC]
   try simp only[jV]
   clear kk;generalize (w1.drew.alloc (.cells (zC 101) 101))=V7 at H7 hHeld aZ⊢;refine bc 4 (fun K hK=>?_);skip;go_simp;go_at_call 128;refine (LZ D.n D.cM (some ⟨gM,oM,none⟩) D.q (by omega) _ (fun _=>⟨gM,oM,rfl,Nat.lt_of_lt_of_le Aj.out.2.1 hHeld.1.size,fun j hj=>(hHeld.1.cell (p:=⟨gM,oM+j,none⟩) Aj.out.2.1).trans (Aj.out.2.2.1 j hj)⟩) (fun h=>by cases h) (fun ad h=>by injection h with h;rw[<-h])).mono ?_;rintro e V5 ⟨a6,c6,rfl,aq,b6⟩;have th:=hid (Zz (jL aq hHeld.1.size) (hHeld.1.trans (b6.mono hHeld.1.size)));have H7:Hid (St V5 101 w1.heap.size (zC 101)/\w1.heap.size<=w1.heap.size):=(⟨H7.out.1.aa b6,H7.out.2⟩);clear aq b6
   try go_wp2_with fail
   refine hK.out _ _ (dA.out _ th.out.2) (fun hHeld=>?_);clear hK K
   try simp only[Act.put,sA,sB,sC]
   (refine wpAnyH_take (i:=5) (oi:=?_) (v:=.agg (de D.K (.slice none 0 0) (.slice a6 D.n c6))) ?_ (by kernel_rfl) (by kernel_rfl) (by kernel_rfl) ?_ (inl ⟨?_,?_⟩) (by assumption) ?_;rotate_left;(focus ((simp only[List.getElem?_toArray,List.getElem?_cons_succ,List.getElem?_cons_zero]);first|done|rfl));(focus (exact fun _ _ _ h=>h));(focus rfl);(focus (intro wz hSw;exact Tu wz _ _ rfl #[(0,.agg (aU D.K)),(2,.slice a6 D.n c6)] (by first|rfl|simp[Act.eval]|(simp;rfl)) _ (RY D.K a6 D.n c6 wz)));try simp only[Act.put,sA,sB,sC])
   refine bc 7 (fun K hK=>?_);skip;refine DC (by rfl) 101 _ _ (by rfl) w1.heap.size 101 (zC 101) (de D.K (.slice none 0 0) (.slice a6 D.n c6)) (by rfl) (by rfl) H7.out.1 (by rw[jq,mc]) (by rw[gO,mc]) (vu _ _ _ _ _ _ _) ?_;have js:=hid (gZ.start (K:=D.K) (C:=C) (ws:=fun _=>.slice none 0 0) th.out.1 (by simp) th.out.2 H7.out.1 H7.out.2);refine hK.out _ _ (dA.out _ js.out.aJ) (fun hHeld=>?_);clear hK K
   try simp only[Act.put,sA,sB,sC]
   refine wpAnyH_done (by kernel_rfl) ?_ _;clear hHeld th H7;go_wp2_with fail
   go_meet
   exact⟨_,_,_,rfl,js.out⟩
  exact AllReadyH.nil
 case rest=>
  obtain⟨b4,a6,c6,rfl,yB⟩:=hcut;have js:=hid yB;clear yB;obtain⟨gN,oN,eN,mC,qQ⟩:=H1.out.1.dm.rN (by omega);have tX:=hid (H1.out.1.aa js.out.aJ);have f1:=tX.out.f1;rw[eN] at f1;have A7:=hid eN;have uc:=hid qQ;have Hg:=hid mC;clear eN qQ mC;go_wp2_with fail;clear f1;go_loopw [6,22] (fun _ v wr=>∃(i:Nat) (ws:Nat->Value) (aN:Option Addr) (cN:Nat),v=.int .i64 i/\i<=D.n/\Hid (gZ w1 b4 D.K C (.slice aN i cN) ((range i).map fun i=>(range C).map (ni D i)) ws (.slice a6 D.n c6) ((range D.n).map D.q) wr)) (fun _ v _=>D.n-(intOf v).toNat)
  ·exact⟨0,_,none,0,rfl,by omega,js⟩
  clear js;obtain⟨i,ws,aN,cN,rfl,hi,HT⟩:=hrel;have lH:Hid (((range i).map fun i=>(range C).map (ni D i)).length=i):=by show _=_;simp
  by_cases av:i<D.n
  ·have i1:(i:Int)<(D.n:Int):=(by omega);have hlen:=HB.out.2.2.len i av;have pM:=(HT.out.aJ.cell (p:=⟨gN,oN+i,none⟩) Hg.out).trans (uc.out i av).1;have zN:=(uc.out i av).2;rw[hlen] at pM zN
   try dsimp only at pM
   have wg:Hid (kv wr.drew (D.A i) C (D.nx i)):=(zN.below HT.out.aJ).below (Below.refl _ _).drew;have B2:Hid ((range (i+1)).map (fun i=>(range C).map (ni D i))=(range i).map (fun i=>(range C).map (ni D i))++[(range C).map (ni D i)]):=(by show _=_;rw[range_succ,map_append];rfl);have tr:Hid ((range C).map (nD (D.nx i) (fun x=>if f x=true then ((x:Nat):Int) else -1))=(range C).map (ni D i)):=by
    show _=_;refine(List.map_congr_left fun c hc=>?_);have iQ:c<C:=(by simpa using hc);have hb:=HB.out.2.2.nx i c av iQ;unfold nD ni;by_cases h1:D.nx i c=-1
    ·rw[if_pos h1,if_neg (by omega),h1]
    rw[if_neg h1];have hx:(D.nx i c).toNat<D.n:=(by omega);dsimp only;by_cases h2:f (D.nx i c).toNat=true
    ·rw[if_pos h2,if_neg (fun h=>h.2 ((Gh.out.2 _ hx).1 h2))];omega
    rw[if_neg h2,if_pos ⟨by omega,fun h=>h2 ((Gh.out.2 _ hx).2 h)⟩]
   clear hlen zN;go_upto_region 8 with fail;clear pM;refine wp_region_held_drew (S:=fun W'=>Below w1.heap.size w1 W') (by kernel_rfl) HT.out.aJ.drew (fun hHeld=>?_);have HT:Hid (gZ w1 b4 D.K C (.slice aN i cN) ((range i).map fun i=>(range C).map (ni D i)) ws (.slice a6 D.n c6) ((range D.n).map D.q) wr.drew):=HT.out.aa (Below.refl _ _).drew
   (refine ak 0 ?_;refine ak 2 ?_;refine ak 3 ?_;try simp only[Act.put,sA,sB,sC])
   refine wpAnyH_ready (rs:=[1,4]) (by kernel_rfl) (by simp) ?_;refine ik (fun K hK=>?_) ?_
   ·skip;have f1:=HT.out.f1;go_simp;refine hK.out _ _ (hHeld) (fun hHeld=>?_);clear hK K
    try simp only[Act.put,sA,sB,sC]
    clear f1;refine bc 4 (fun K hK=>?_);skip;have ic:=(HT.out.next.lt).2;have iY:=kP HT.out.ct;go_simp;go_at_call 125;refine (Kh 129 b3 D.n (fun x=>if f x=true then ((x:Nat):Int) else -1) C (D.Cp i) (D.A i) (D.nx i) _ S4 (fun W' h x hx=>WJ b3 D.n cA aA f W' ((rj.out.aa HT.out.aJ).aa h) ((Gh.out.1.below HT.out.aJ).below h) x hx) (by omega) (by have h9:=wg.out;exact h9) (fun c hc=>HB.out.2.2.nx i c av hc) (by omega)).mono ?_;rintro e w5 ⟨a5,c5,rfl,jw,b5⟩;have HU:Hid (w5.ownsRow w1.heap.size 3 1 (.slice a5 C c5) C (ints ((range C).map (ni D i)))/\(∀j,j<((range i).map fun i=>(range C).map (ni D i)).length->∀b,(ws j).ownBlock=some b->(Value.slice a5 C c5).ownBlock≠some b)/\∀b,(Value.slice a5 C c5).ownBlock=some b->(Value.slice a6 D.n c6).ownBlock≠some b):=by
     have jc:=jZ jw;refine⟨?_,fun j hj b e1 e2=>?_,fun b e1 e2=>?_⟩
     ·rw[<-tr.out];exact jL jw HT.out.aJ.size
     ·have h1:=ic j hj b e1;have h2:=jc b e2
      try simp only[jV] at h1
      try simp only[jV] at h2
      omega
     have h1:=iY b e2;have h2:=jc b e1
     try simp only[jV] at h1
     try simp only[jV] at h2
     omega
    have HT:=hid (HT.out.aa b5);clear jw b5 ic iY
    try go_wp2_with fail
    refine hK.out _ _ (HT.out.aJ) (fun hHeld=>?_);clear hK K
    try simp only[Act.put,sA,sB,sC]
    refine bc 5 (fun K hK=>?_);skip;go_simp;have kk:=al w5 (.cells #[.slice a5 C c5] 43);have HN:Hid (∀j u,[Value.slice a5 C c5][j]?=some u->(w5.alloc (.cells #[.slice a5 C c5] 43)).cell? ((⟨w5.heap.size,0,none⟩:Addr).add j)=some u):=cell_one_new _ _ _;have HT:=hid (HT.out.aa kk);have HU:=hid (Zz (dr HU.out.1 kk) HU.out.2);refine hK.out _ _ (HT.out.aJ) (fun hHeld=>?_);clear hK K
    try simp only[Act.put,sA,sB,sC]
    clear kk;generalize w5.alloc (.cells #[.slice a5 C c5] 43)=V5 at HN HT HU hHeld⊢;refine bc 6 (fun K hK=>?_);skip;have hO:=(HT.out.next.own);rw[lH.out] at hO;refine wB (by rfl) _ _ _ (by rfl) w1.heap.size 43 iV (.slice none 0 0) 1 24 underlying99 hV tI uh uq (by rfl) (by decide) _ i ((range i).map ws) (by rfl) hO ⟨w5.heap.size,0,none⟩ 1 1 [.slice a5 C c5] (by rfl) (by rfl) HN.out (by intro u hu;simp at hu;subst hu;rfl) (by unfold maxLen;omega) (by omega) HT.out.aJ.size ?_;intro v6 w6 aq ag;obtain⟨a7,c7,rfl⟩:=bE aq;have ji:=hid (HT.out.fL (u:=.slice a5 C c5) (vN':=.slice a7 (i+1) c7) HU.out.1 HU.out.2.1 HU.out.2.2 lH.out aq ag);have h9:=(HT.out.st.af HT.out.next.own (by decide) ag);have z2:w6.cell? ⟨b4,256,none⟩=some (.slice aN i cN):=(by rw[h9.at_,pO]);have z3:w6.frozen? ⟨b4,256,none⟩=false:=h9.aX 256;have eC:=(fA HT.out.aJ HT.out.next.own HT.out.aJ.size ag);clear aq ag h9 hO;refine hK.out _ _ (eC) (fun hHeld=>?_);clear hK K
    try simp only[Act.put,sA,sB,sC]
    (refine ak 7 ?_;try simp only[Act.put,sA,sB,sC])
    refine bc 8 (fun K hK=>?_);skip;go_simp;refine hK.out _ _ (ji.out.aJ) (fun hHeld=>?_);clear hK K
    try simp only[Act.put,sA,sB,sC]
    refine wpAnyH_done (by kernel_rfl) ?_ _;rw[<-B2.out] at ji;clear hHeld z2 z3 eC;go_wp2;go_roundw
    ·exact⟨i+1,_,a7,c7,by go_num,by omega,ji⟩
    simp[intOf];omega
   refine ik (fun K hK=>?_) ?_
   ·skip;have ic:=(HT.out.next.lt).2;have iY:=kP HT.out.ct;go_simp;go_at_call 125;refine (Kh 129 b3 D.n (fun x=>if f x=true then ((x:Nat):Int) else -1) C (D.Cp i) (D.A i) (D.nx i) _ S4 (fun W' h x hx=>WJ b3 D.n cA aA f W' ((rj.out.aa HT.out.aJ).aa h) ((Gh.out.1.below HT.out.aJ).below h) x hx) (by omega) (by have h9:=wg.out;exact h9) (fun c hc=>HB.out.2.2.nx i c av hc) (by omega)).mono ?_;rintro e w5 ⟨a5,c5,rfl,jw,b5⟩;have HU:Hid (w5.ownsRow w1.heap.size 3 1 (.slice a5 C c5) C (ints ((range C).map (ni D i)))/\(∀j,j<((range i).map fun i=>(range C).map (ni D i)).length->∀b,(ws j).ownBlock=some b->(Value.slice a5 C c5).ownBlock≠some b)/\∀b,(Value.slice a5 C c5).ownBlock=some b->(Value.slice a6 D.n c6).ownBlock≠some b):=by
     have jc:=jZ jw;refine⟨?_,fun j hj b e1 e2=>?_,fun b e1 e2=>?_⟩
     ·rw[<-tr.out];exact jL jw HT.out.aJ.size
     ·have h1:=ic j hj b e1;have h2:=jc b e2
      try simp only[jV] at h1
      try simp only[jV] at h2
      omega
     have h1:=iY b e2;have h2:=jc b e1
     try simp only[jV] at h1
     try simp only[jV] at h2
     omega
    have HT:=hid (HT.out.aa b5);clear jw b5 ic iY
    try go_wp2_with fail
    refine hK.out _ _ (HT.out.aJ) (fun hHeld=>?_);clear hK K
    try simp only[Act.put,sA,sB,sC]
    refine wpAnyH_ready (rs:=[1,5]) (by kernel_rfl) (by simp) ?_;refine ik (fun K hK=>?_) ?_
    ·skip;have f1:=HT.out.f1;go_simp;refine hK.out _ _ (hHeld) (fun hHeld=>?_);clear hK K
     try simp only[Act.put,sA,sB,sC]
     clear f1;refine bc 5 (fun K hK=>?_);skip;go_simp;have kk:=al w5 (.cells #[.slice a5 C c5] 43);have HN:Hid (∀j u,[Value.slice a5 C c5][j]?=some u->(w5.alloc (.cells #[.slice a5 C c5] 43)).cell? ((⟨w5.heap.size,0,none⟩:Addr).add j)=some u):=cell_one_new _ _ _;have HT:=hid (HT.out.aa kk);have HU:=hid (Zz (dr HU.out.1 kk) HU.out.2);refine hK.out _ _ (HT.out.aJ) (fun hHeld=>?_);clear hK K
     try simp only[Act.put,sA,sB,sC]
     clear kk;generalize w5.alloc (.cells #[.slice a5 C c5] 43)=V5 at HN HT HU hHeld⊢;refine bc 6 (fun K hK=>?_);skip;have hO:=(HT.out.next.own);rw[lH.out] at hO;refine wB (by rfl) _ _ _ (by rfl) w1.heap.size 43 iV (.slice none 0 0) 1 24 underlying99 hV tI uh uq (by rfl) (by decide) _ i ((range i).map ws) (by rfl) hO ⟨w5.heap.size,0,none⟩ 1 1 [.slice a5 C c5] (by rfl) (by rfl) HN.out (by intro u hu;simp at hu;subst hu;rfl) (by unfold maxLen;omega) (by omega) HT.out.aJ.size ?_;intro v6 w6 aq ag;obtain⟨a7,c7,rfl⟩:=bE aq;have ji:=hid (HT.out.fL (u:=.slice a5 C c5) (vN':=.slice a7 (i+1) c7) HU.out.1 HU.out.2.1 HU.out.2.2 lH.out aq ag);have h9:=(HT.out.st.af HT.out.next.own (by decide) ag);have z2:w6.cell? ⟨b4,256,none⟩=some (.slice aN i cN):=(by rw[h9.at_,pO]);have z3:w6.frozen? ⟨b4,256,none⟩=false:=h9.aX 256;have eC:=(fA HT.out.aJ HT.out.next.own HT.out.aJ.size ag);clear aq ag h9 hO;refine hK.out _ _ (eC) (fun hHeld=>?_);clear hK K
     try simp only[Act.put,sA,sB,sC]
     (refine ak 7 ?_;try simp only[Act.put,sA,sB,sC])
     refine bc 8 (fun K hK=>?_);skip;go_simp;refine hK.out _ _ (ji.out.aJ) (fun hHeld=>?_);clear hK K
     try simp only[Act.put,sA,sB,sC]
     refine wpAnyH_done (by kernel_rfl) ?_ _;rw[<-B2.out] at ji;clear hHeld z2 z3 eC;go_wp2;go_roundw
     ·exact⟨i+1,_,a7,c7,by go_num,by omega,ji⟩
     simp[intOf];omega
    refine ik (fun K hK=>?_) ?_
    ·skip;go_simp;have kk:=al w5 (.cells #[.slice a5 C c5] 43);have HN:Hid (∀j u,[Value.slice a5 C c5][j]?=some u->(w5.alloc (.cells #[.slice a5 C c5] 43)).cell? ((⟨w5.heap.size,0,none⟩:Addr).add j)=some u):=cell_one_new _ _ _;have HT:=hid (HT.out.aa kk);have HU:=hid (Zz (dr HU.out.1 kk) HU.out.2);refine hK.out _ _ (HT.out.aJ) (fun hHeld=>?_);clear hK K
     try simp only[Act.put,sA,sB,sC]
     clear kk;generalize w5.alloc (.cells #[.slice a5 C c5] 43)=V5 at HN HT HU hHeld⊢;refine bc 1 (fun K hK=>?_);skip;have f1:=HT.out.f1;go_simp;refine hK.out _ _ (hHeld) (fun hHeld=>?_);clear hK K
     try simp only[Act.put,sA,sB,sC]
     clear f1;refine bc 6 (fun K hK=>?_);skip;have hO:=(HT.out.next.own);rw[lH.out] at hO;refine wB (by rfl) _ _ _ (by rfl) w1.heap.size 43 iV (.slice none 0 0) 1 24 underlying99 hV tI uh uq (by rfl) (by decide) _ i ((range i).map ws) (by rfl) hO ⟨w5.heap.size,0,none⟩ 1 1 [.slice a5 C c5] (by rfl) (by rfl) HN.out (by intro u hu;simp at hu;subst hu;rfl) (by unfold maxLen;omega) (by omega) HT.out.aJ.size ?_;intro v6 w6 aq ag;obtain⟨a7,c7,rfl⟩:=bE aq;have ji:=hid (HT.out.fL (u:=.slice a5 C c5) (vN':=.slice a7 (i+1) c7) HU.out.1 HU.out.2.1 HU.out.2.2 lH.out aq ag);have h9:=(HT.out.st.af HT.out.next.own (by decide) ag);have z2:w6.cell? ⟨b4,256,none⟩=some (.slice aN i cN):=(by rw[h9.at_,pO]);have z3:w6.frozen? ⟨b4,256,none⟩=false:=h9.aX 256;have eC:=(fA HT.out.aJ HT.out.next.own HT.out.aJ.size ag);clear aq ag h9 hO;refine hK.out _ _ (eC) (fun hHeld=>?_);clear hK K
     try simp only[Act.put,sA,sB,sC]
     (refine ak 7 ?_;try simp only[Act.put,sA,sB,sC])
     refine bc 8 (fun K hK=>?_);skip;go_simp;refine hK.out _ _ (ji.out.aJ) (fun hHeld=>?_);clear hK K
     try simp only[Act.put,sA,sB,sC]
     refine wpAnyH_done (by kernel_rfl) ?_ _;rw[<-B2.out] at ji;clear hHeld z2 z3 eC;go_wp2;go_roundw
     ·exact⟨i+1,_,a7,c7,by go_num,by omega,ji⟩
     simp[intOf];omega
    exact AllReadyH.nil
   exact AllReadyH.nil
  obtain rfl:i=D.n:=by omega
  have iy:=hid HT.out.st;have iw:=hid (H1.out.2.1.aa HT.out.aJ);have hd:=mc D.K (.slice aN D.n cN) (.slice a6 D.n c6);have Bg:Hid (Below w.heap.size w (wr.setRow b2 (de D.K (.slice aN D.n cN) (.slice a6 D.n c6)))):=by
   rw[Hb.out.1];exact mT (H1.out.2.2.trans (HT.out.aJ.mono (by have:=tF.out;have:=Hb.out.1;omega))) (by have:=Hb.out;omega) _
  have HF:Hid (Bk D C D.n (ni D) D.q w (.returned (.agg (de D.K (.slice aN D.n cN) (.slice a6 D.n c6)))) (wr.setRow b2 (de D.K (.slice aN D.n cN) (.slice a6 D.n c6)))):=
   HT.out.MX HB.out.1.dm.kl lH.out (fun r hr=>by obtain⟨j,_,rfl⟩:=List.mem_map.1 hr;simp) rfl (fun j hj c hc=>by simp[getD_eq_getElem?_getD,hj,hc]) tF.out (inr ⟨b2,_,_,iw.out,rfl⟩) Bg.out
  go_wp2_with (first|(refine rD rfl 101 _ rfl ⟨b4,0,none⟩ rfl (de D.K (.slice aN D.n cN) (.slice a6 D.n c6)) _ iy.out.part underlying101 rfl (by rw[gO,hd]) ?_)|(refine ph rfl 101 _ _ rfl b2 101 (zC 101) (de D.K (.slice aN D.n cN) (.slice a6 D.n c6)) rfl rfl iw.out (by rw[jq,hd]) (by rw[gO,hd]) (vu _ _ _ _ _ _ _) ?_));refine bodyPost_ret (results_cell_row rfl _ _ b2 101 (de D.K (.slice aN D.n cN) (.slice a6 D.n c6)) (0,0) _ rfl iw.out.setRow underlying101 rfl (by rw[gO,hd])) rfl ?_;exact HF.out
end Go.Proofs.YtiijebameffenaaGreat
