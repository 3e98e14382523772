import Derived.Test.YtiijebameffenaaGreatZSROfM
import Derived.BigFrame
import Derived.Deep.RegionHeld
import Derived.OrdersHeld
import Derived.Scope
set_option linter.all false
set_option maxHeartbeats 4000000
set_option maxRecDepth 100000
open Go.Lib (hid)
namespace Go.Proofs.YtiijebameffenaaGreat
open Go.RowKit Go.Maps Go.WideElems Go.ChangeMaps Go.MapKept Go.Proofs.Tryz
open List (getD_eq_getElem?_getD getElem?_append getElem_mem length_append map_append mem_append mem_singleton nodup_append prefix_refl range range_succ replicate)
open Region (wanted)
open Instr (build fill loadAt sureAddr)
open Sem (run_bind run_pure)
open Result (andThen_ok)
open Or (inl inr)
open Nat (le_refl le_trans)
variable {B C b4 c f g i k n q t x:Nat}{K:Nat->Nat}{P:Program}{W0 w' wr:World}{a:Option Addr}{l m:List Nat}{ms:List Int}{ops:Array Oper}{tg:Nat->List Nat}{u:Value}{ws:Nat->Value}{xs:List Value}{ρ:Operand->Value}
structure Dd where
 cD:Array Value
 K:Nat->Nat
 aN:Option Addr
 n:Nat
 cN:Nat
 A:Nat->Option Addr
 Cp:Nat->Nat
 len:Nat->Nat
 nx:Nat->Nat->Int
 aM:Option Addr
 m:Nat
 cM:Nat
 q:Nat->Int
structure DM (w:World)(D:Dd):Prop where
 sz:D.cD.size=258
 one:∀v∈D.cD.toList,v.oneCell'=true
 cl:∀j,j<256->D.cD[j]?=some (.int .u8 ((D.K j:Nat):Int))
 kl:∀j,j<256->D.K j<256
 fN:D.cD[256]?=some (.slice D.aN D.n D.cN)
 fM:D.cD[257]?=some (.slice D.aM D.m D.cM)
 rN:mX w D.aN D.n D.A D.Cp D.len D.nx
 rM:lb w D.aM D.m D.q
theorem DM.below{w:World}{D:Dd}(h:DM w D)(k:Below w.heap.size w w'):DM w' D:=⟨h.sz,h.one,h.cl,h.kl,h.fN,h.fM,h.rN.below k,h.rM.below k⟩
structure dc (w:World)(b:Nat)(D:Dd):Prop where
 st:St w 101 b D.cD
 dm:DM w D
theorem dc.aa{w:World}{b:Nat}{D:Dd}(h:dc w b D)(k:Below w.heap.size w w'):dc w' b D:=⟨h.st.aa k,h.dm.below k⟩
theorem dc.new{w:World}{D:Dd}(h:DM w D):dc (w.alloc (.cells D.cD 101)) w.heap.size D:=⟨St.new _ _ _,h.below (al w _)⟩
theorem dc.f1{w:World}{b:Nat}{D:Dd}(h:dc w b D):w.cell? ⟨b,256,none⟩=some (.slice D.aN D.n D.cN):=by rw[h.st.at_,h.dm.fN]
theorem dc.f2{w:World}{b:Nat}{D:Dd}(h:dc w b D):w.cell? ⟨b,257,none⟩=some (.slice D.aM D.m D.cM):=by rw[h.st.at_,h.dm.fM]
theorem dc.f0{w:World}{b:Nat}{D:Dd}(h:dc w b D)(j:Nat)(hj:j<256):w.cell? ⟨b,j,none⟩=some (.int .u8 ((D.K j:Nat):Int)):=by rw[h.st.at_,h.dm.cl j hj]
theorem DM.info{w:World}{D:Dd}(h:DM w D):(prog.info? 101).map (·.size)=some D.cD.size:=by rw[gO,h.sz]
theorem DM.row{w:World}{D:Dd}(h:DM w D)(i:Nat)(hi:i<D.n):∃g off,D.aN=some ⟨g,off,none⟩/\g<w.heap.size/\w.cell? ⟨g,off+i,none⟩=some (.slice (D.A i) (D.len i) (D.Cp i))/\lb w (D.A i) (D.len i) (D.nx i):=by
 obtain⟨g,off,e,hg,hc⟩:=h.rN (by omega);exact⟨g,off,e,hg,hc i hi⟩
def Mb(K:Nat->Nat)(C:Nat):Prop:=(∀j,j<256->K j<C)/\∃j,j<256/\K j+1=C
structure DR (D:Dd)(C:Nat):Prop where
 c:Mb D.K C
 n1:1<=D.n
 n2:D.n<=32768
 m:D.m=D.n
 AY:∀c,c<C->∃j,j<256/\D.K j=c
 len:∀i,i<D.n->D.len i=C
 q:∀i,i<D.n->-1<=D.q i/\D.q i<32768
 nx:∀i c,i<D.n->c<C->-1<=D.nx i c/\D.nx i c<(D.n:Int)
theorem DR.ke{D:Dd}(h:DR D C)(hk:∀j,j<256->D.K j<256):1<=C/\C<=256:=by
 obtain⟨j,hj,e⟩:=h.c.2;have:=hk j hj;omega
def aY(K:Nat->Nat):Array Value:=((range 256).map fun j=>Value.int .u8 ((K j:Nat):Int)).toArray
theorem Ei(K:Nat->Nat)(j:Nat)(hj:j<256):(aY K)[j]?=some (.int .u8 ((K j:Nat):Int)):=by simp[aY,hj]
theorem LG(K:Nat->Nat):(aY K).size=256:=by simp[aY]
theorem y9(K:Nat->Nat):(prog.info? 98).map (·.size)=some (aY K).size:=by rw[LG];kernel_rfl
theorem dc.eo{w:World}{b:Nat}{D:Dd}(h:dc w b D):∀j v,(aY D.K).toList[j]?=some v->w.cell? ((⟨b,0,none⟩:Addr).add j)=some v:=fun j v hj=>by
 have hl:j<256:=by
  have:=(List.getElem?_eq_some_iff.1 hj).1
  simpa [LG] using this
 have e:(⟨b,0,none⟩:Addr).add j=⟨b,j,none⟩:=by unfold Addr.add;split <;> simp_all
 rw[e,h.f0 j hl,<-hj,Array.getElem?_toList,Ei _ j hl]
theorem St.eo{w:World}{b:Nat}(h:St w t b (aY K)):∀j v,(aY K).toList[j]?=some v->w.cell? ((⟨b,0,none⟩:Addr).add j)=some v:=h.part
theorem oa{rest:List Oper}{o:Oper}{a:Act}{w:World}{Q:Exit->Act->World->Prop}(hw:wanted o (yielded ops a.tmps)=true)(ty:TypeId)(x:Operand)(ho:o.op=.load ty x)
  (ad:Addr) (hx:a.eval x=.pointer (some ad)) (cs:Array Value) (d:TypeDesc) (hc:∀j v,cs.toList[j]?=some v->w.cell? (ad.add j)=some v)
  (hu:P.underlying ty=some d) (hd:(match d with|.struct _|.array _ _=>true|_=>false)=true) (hi:(P.info? ty).map (·.size)=some cs.size)
  (h:wpList P ops Q rest (a.put o.dst (.agg cs)) w):wpList P ops Q (o :: rest) a w:=
 BigFrame.wpList_want hw fun _ hK=>by
  unfold Oper.wp execOp
  simp only[ho,hx,loadAt,sureAddr,run_bind,run_pure,andThen_ok,Gm w ad ty cs d hc hu hd hi]
  exact hK _ _ h
theorem Mh(K:Nat->Nat)(C:Nat)(hC:Mb K C)(hk:∀j,j<256->K j<256)(w:World):
  Calls prog 155 #[.agg (aY K)] w fun e w'=>e=.returned (.int .i64 (C:Int))/\Below w.heap.size w w':=by
 have hB:=al w (.cells (aY K) 98);have hS:=St.new w 98 (aY K);have hM:=hid (Yx K 256 256 w.heap.size (by omega) (by omega) hk (w.alloc (.cells (aY K) 98)) (fun j hj=>by rw[hS.at_,Ei K j hj]));have HB:=hid hB;have HT:Hid (∀x,(∀j,j<256->K j<=x)->(∃j,j<256/\K j=x)->x+1=C/\x<256):=fun x h1 h2=>by
  obtain⟨j,hj,e⟩:=hC.2;obtain⟨j',zl,rfl⟩:=h2;have:=hC.1 j' zl;have:=h1 j hj;have:=hk j' zl;omega
 clear hB hS;go_enter func155,ntmps155;go_wp2_with fail;refine hM.out.mono ?_;rintro e w2 ⟨x,rfl,h1,h2,rfl⟩;obtain⟨hx,kY⟩:=HT.out x h1 h2;have HX:=hid hx;clear h1 h2 hx;go_wp2;go_ret;exact⟨by rw[<-HX.out];first|rfl|(simp;done),HB.out⟩
theorem PU(D:Dd)(s:Int)(w:World)(hD:DM w D):
  Calls prog 103 #[.agg D.cD,.int .i64 s] w fun e w'=>e=.returned (.bool (decide (0<=s/\s<(D.n:Int))))/\Below w.heap.size w w':=by
 have HB:=hid (Zz (dc.new hD) (al w (.cells D.cD 101)));clear hD;go_enter func103,ntmps103;go_upto_region 1 with fail;generalize w.alloc (.cells D.cD 101)=W0 at HB⊢;obtain⟨b0,bc⟩:∃b0,w.heap.size=b0:=⟨_,rfl⟩
 have dO:=hid bc;rw[bc] at HB;rw[bc];clear bc;have f1:=HB.out.1.f1;by_cases h0:0<=s
 ·by_cases h1:s<(D.n:Int)
  ·have HZ:Hid (decide (0<=s/\s<(D.n:Int))=true):=(by show _=_;simp[h0,h1]);go_wp2;go_ret;exact⟨by rw[HZ.out];first|rfl|simp[h0,h1],by first|exact HB.out.2|(rw[dO.out];exact HB.out.2)⟩
  have HZ:Hid (decide (0<=s/\s<(D.n:Int))=false):=by show _=_;simp;omega
  go_wp2;go_ret;exact⟨by first|(rw[HZ.out];rfl)|(rw[show decide (0<=s/\s<(D.n:Int))=false from HZ.out];rfl)|(have:=HZ.out;simp_all),by first|exact HB.out.2|(rw[dO.out];exact HB.out.2)⟩
 have HZ:Hid (decide (0<=s/\s<(D.n:Int))=false):=by show _=_;simp;omega
 go_wp2;go_ret;exact⟨by first|(rw[HZ.out];rfl)|(rw[show decide (0<=s/\s<(D.n:Int))=false from HZ.out];rfl)|(have:=HZ.out;simp_all),by first|exact HB.out.2|(rw[dO.out];exact HB.out.2)⟩
theorem zc9(K:Nat->Nat)(C:Nat)(hC:Mb K C)(hk:∀j,j<256->K j<256)(hg:∀c,c<C->∃j,j<256/\K j=c)(w:World):
  Calls prog 121 #[.agg (aY K)] w fun e w'=>e=.returned (.bool true)/\Below w.heap.size w w':=by
 have UU:C<=256:=by
  obtain⟨j,hj,e⟩:=hC.2;have:=hk j hj;omega
 have HB:=hid (Zz (St.new w 98 (aY K)) (Zz (al w (.cells (aY K) 98)) (Zz hC (Zz hk hg))));have eG:=y9 K;clear hC hk hg;go_enter func121,ntmps121;go_wp2_with fail;generalize w.alloc (.cells (aY K) 98)=W0 at HB⊢;obtain⟨b0,bc⟩:∃b0,w.heap.size=b0:=⟨_,rfl⟩
 have dO:=hid bc;rw[bc] at HB;rw[bc];clear bc;have Ar:=hid (Mh K C HB.out.2.2.1 HB.out.2.2.2.1 W0);refine wp_scope_straight (wp_seq (wp_label ?_));go_wp2_with (refine si rfl 98 _ rfl ⟨b0,0,none⟩ rfl (aY K) (.array 256 5) HB.out.1.eo underlying98 rfl eG ?_);refine Ar.out.mono ?_;rintro e w1 ⟨rfl,b1⟩;have H1:=hid (Zz (HB.out.1.aa b1) (HB.out.2.1.trans (b1.mono (by have:=HB.out.2.1.size;have:=dO.out;omega))));clear b1 Ar;go_wp2;go_loopw [3,5,8,12] (fun _ _ v _ wr=>∃(c:Nat),v=.int .i64 c/\c<=C/\wr=w1) (fun _ _ v _ _=>C-(intOf v).toNat)
 ·exact⟨0,rfl,by omega,rfl⟩
 obtain⟨c,rfl,hc,rfl⟩:=hrel;by_cases aw:c<C
 ·have i1:(c:Int)<C:=by omega
  obtain⟨W9,U2⟩:∃W9,W9=wr:=⟨wr,rfl⟩
  have kn:=hid H1.out.1;go_wp2_with (refine si rfl 98 _ rfl ⟨b0,0,none⟩ rfl (aY K) (.array 256 5) kn.out.eo underlying98 rfl eG ?_);go_loopw [5,12] (fun _ v wq=>∃(k:Nat),v=.int .i64 k/\k<=256/\wq=wr/\Hid (∀j,j<k->K j≠c)) (fun _ v _=>256-(intOf v).toNat)
  ·exact⟨0,rfl,by omega,rfl,fun j hj=>by omega⟩
  obtain⟨k,rfl,eO,rfl,HN⟩:=hrel;by_cases dE:k<256
  ·have i2:(k:Int)<256:=(by omega);have hv:=Ei K k dE;have C8:=Ot 98 5 256 (aY K) k _ underlying98 dE (by kernel_rfl) ⟨_,underlying5,rfl⟩ hv wr;have yu:=HB.out.2.2.2.1 k dE;have HS:Hid (K k≠c->∀j,j<k+1->K j≠c):=fun h j hj=>by
    by_cases e:j=k
    ·subst e;exact h
    exact HN.out j (by omega)
   generalize K k=y at hv C8 yu HS;by_cases e:y=c
   ·subst e;clear HS;go_wp2;go_roundw
    ·exact⟨y+1,by go_num,by omega,by first|trivial|rfl⟩
    simp[intOf];omega
   have HZ:=hid (HS.out e);have i3:¬((y:Int)=c):=(by omega);go_wp2;go_roundw
   ·exact⟨k+1,by go_num,by omega,by first|trivial|rfl,HZ⟩
   simp[intOf];omega
  obtain rfl:k=256:=by omega
  obtain⟨j,hj,e⟩:=HB.out.2.2.2.2 c aw;exact absurd e (HN.out j hj)
 obtain rfl:c=C:=by omega
 go_wp2_with fail
 try dsimp only[Exit.noGoto]
 go_ret;exact⟨rfl,by rw[dO.out];exact H1.out.2⟩
theorem zdY(D:Dd)(C:Nat)(hR:DR D C)(w:World)(hD:DM w D):
  Calls prog 122 #[.agg D.cD] w fun e w'=>e=.returned (.bool true)/\Below w.heap.size w w':=by
 have HB:=hid (Zz (dc.new hD) (Zz (al w (.cells D.cD 101)) hR));have dj:=hR.n2;have nV:=hR.m;clear hD hR;go_enter func122,ntmps122;go_upto_region 1 with fail;generalize w.alloc (.cells D.cD 101)=W0 at HB⊢;obtain⟨b0,bc⟩:∃b0,w.heap.size=b0:=⟨_,rfl⟩
 have dO:=hid bc;rw[bc] at HB;rw[bc];clear bc;have f1:=HB.out.1.f1;have f2:=HB.out.1.f2;rw[nV] at f2;have KB:=hid nV;clear nV;go_wp2;go_loopw [4,8] (fun _ v wr=>∃(k:Nat),v=.int .i64 k/\k<=D.n/\wr=W0) (fun _ v _=>D.n-(intOf v).toNat)
 ·exact⟨0,rfl,by omega,rfl⟩
 obtain⟨k,rfl,hk,rfl⟩:=hrel;by_cases aw:k<D.n
 ·obtain⟨gM,oM,eM,_,nA⟩:=HB.out.1.dm.rM (by have:=KB.out;omega);have cM:=nA k (by have:=KB.out;omega);have hq:=HB.out.2.2.q k aw;have i1:(k:Int)<(D.n:Int):=by omega
  rw[eM];have YM:=hid eM;clear nA eM;generalize D.q k=y at cM hq;have i2:decide (y < -1)=false:=by simp;omega
  have i3:decide (32768<=y)=false:=by simp;omega
  go_wp2;go_roundw
  ·exact⟨k+1,by go_num,by omega,by first|trivial|rfl⟩
  simp[intOf];omega
 obtain rfl:k=D.n:=by omega
 go_wp2;go_ret;exact⟨rfl,by rw[dO.out];exact HB.out.2.1⟩
theorem ze8(D:Dd)(C:Nat)(hR:DR D C)(w:World)(hD:DM w D):
  Calls prog 123 #[.agg D.cD] w fun e w'=>e=.returned (.bool true)/\Below w.heap.size w w':=by
 have HB:=hid (Zz (dc.new hD) (Zz (al w (.cells D.cD 101)) hR));have dj:=hR.n2;have Ah:=(hR.ke hD.kl).2;have eG:=y9 D.K;clear hD hR;go_enter func123,ntmps123;go_upto_region 1 with fail;generalize w.alloc (.cells D.cD 101)=W0 at HB⊢;obtain⟨b0,bc⟩:∃b0,w.heap.size=b0:=⟨_,rfl⟩
 have dO:=hid bc;rw[bc] at HB;rw[bc];clear bc;have Ar:=hid (Mh D.K C HB.out.2.2.c HB.out.1.dm.kl W0);go_wp2_with (refine si rfl 98 _ rfl ⟨b0,0,none⟩ rfl (aY D.K) (.array 256 5) HB.out.1.eo underlying98 rfl eG ?_);refine Ar.out.mono ?_;rintro e w1 ⟨rfl,b1⟩;have H1:=hid (Zz (HB.out.1.aa b1) (HB.out.2.1.trans (b1.mono (by have:=HB.out.2.1.size;have:=dO.out;omega))));have f1:=H1.out.1.f1;clear b1 Ar;obtain⟨gN,oN,eN,mC,qE⟩:=H1.out.1.dm.rN (by have:=HB.out.2.2.n1;omega);rw[eN] at f1;have Av:=hid eN;have uy:=hid qE;clear eN qE;go_wp2;go_loopw [5,7,14,24] (fun _ _ v _ wr=>∃(i:Nat),v=.int .i64 i/\i<=D.n/\Hid (Below w1.heap.size w1 wr)) (fun _ _ v _ _=>D.n-(intOf v).toNat)
 ·exact⟨0,rfl,by omega,Below.refl _ _⟩
 obtain⟨i,rfl,hi,HX⟩:=hrel;clear f1;by_cases aw:i<D.n
 ·have cN:=(HX.out.cell (p:=⟨gN,oN+i,none⟩) mC).trans (uy.out i aw).1;have JB:=hid (uy.out i aw).2;have hlen:=HB.out.2.2.len i aw;rw[hlen] at cN;rw[hlen] at JB;have i1:(i:Int)<(D.n:Int):=by omega
  try dsimp only at cN
  clear hlen;go_wp2;go_loopw [7,24] (fun _ v wq=>∃(c:Nat),v=.int .i64 c/\c<=C/\Hid (Below w1.heap.size w1 wq)) (fun _ v _=>C-(intOf v).toNat)
  ·exact⟨0,rfl,by omega,HX⟩
  clear HX cN;obtain⟨c,rfl,hc,HX⟩:=hrel;by_cases uf:c<C
  ·obtain⟨gA,oA,eA,D8,oU⟩:=JB.out (by omega);have cA:=(HX.out.cell (p:=⟨gA,oA+c,none⟩) D8).trans (oU c uf);have hb:=HB.out.2.2.nx i c aw uf;have i2:(c:Int)<C:=(by omega);have sO:=hid (H1.out.1.aa HX.out);rw[eA];have LO:=hid eA;clear oU eA;generalize D.nx i c=t at cA hb;by_cases ht:t=-1
   ·subst ht;go_wp2;go_roundw
    ·exact⟨c+1,by go_num,by omega,HX⟩
    simp[intOf];omega
   have KU:(t != (-1:Int))=true:=(by simp[ht]);have tZ:=hid (PU D t wr sO.out.dm);have HDe:Hid (decide (0<=t/\t<(D.n:Int))=true):=(by show _=_;simp;omega);go_wp2_with (refine oa (by first|rfl|(simp[ht];done)) 101 _ rfl ⟨b0,0,none⟩ rfl D.cD _ sO.out.st.part underlying101 rfl sO.out.dm.info ?_);refine tZ.out.mono ?_;rintro e w5 ⟨rfl,b5⟩;have kA:=hid (HX.out.trans (b5.mono HX.out.size));rw[HDe.out];clear b5 tZ;go_wp2;go_roundw
   ·exact⟨c+1,by go_num,by omega,kA⟩
   simp[intOf];omega
  obtain rfl:c=C:=by omega
  go_wp2;go_roundw
  ·exact⟨i+1,by go_num,by omega,HX⟩
  simp[intOf];omega
 obtain rfl:i=D.n:=by omega
 have HF:Hid (Below w.heap.size w wr):=by
  rw[dO.out];exact H1.out.2.trans (HX.out.mono (by have:=H1.out.2.size;have:=dO.out;omega))
 go_wp2;go_ret;exact⟨rfl,HF.out⟩
theorem Jc(D:Dd)(C:Nat)(hR:DR D C)(w:World)(hD:DM w D):
  Calls prog 97 #[.agg D.cD] w fun e w'=>e=.returned (.bool true)/\Below w.heap.size w w':=by
 have HB:=hid (Zz (dc.new hD) (Zz (al w (.cells D.cD 101)) hR));have dj:=hR.n2;have fA:=hR.n1;have eG:=y9 D.K;clear hD hR;go_enter func97,ntmps97;go_upto_region 1 with fail;generalize w.alloc (.cells D.cD 101)=W0 at HB⊢;obtain⟨b0,bc⟩:∃b0,w.heap.size=b0:=⟨_,rfl⟩
 have dO:=hid bc;rw[bc] at HB;rw[bc];clear bc;have f1:=HB.out.1.f1;have i1:¬((D.n:Int)<1):=by omega
 have i2:¬((32768:Int)<(D.n:Int)):=by omega
 have Ge:b0<=W0.heap.size:=by have:=HB.out.2.1.size;have:=dO.out;omega
 have vg:=hid (zc9 D.K C HB.out.2.2.c HB.out.1.dm.kl HB.out.2.2.AY W0);go_wp2_with (refine si rfl 98 _ rfl ⟨b0,0,none⟩ rfl (aY D.K) (.array 256 5) HB.out.1.eo underlying98 rfl eG ?_);refine vg.out.mono ?_;rintro e w1 ⟨rfl,b1⟩;have H1:=hid (Zz (HB.out.1.aa b1) (HB.out.2.1.trans (b1.mono Ge)));have fw:b0<=w1.heap.size:=by have:=b1.size;omega
 have DQ:=hid (zdY D C HB.out.2.2 w1 H1.out.1.dm);clear b1 f1 vg;go_wp2_with (refine oa (by rfl) 101 _ rfl ⟨b0,0,none⟩ rfl D.cD _ H1.out.1.st.part underlying101 rfl H1.out.1.dm.info ?_);refine DQ.out.mono ?_;rintro e w2 ⟨rfl,b2⟩;have H2:=hid (Zz (H1.out.1.aa b2) (H1.out.2.trans (b2.mono fw)));have cv:b0<=w2.heap.size:=by have:=b2.size;omega
 have D9:=hid (ze8 D C HB.out.2.2 w2 H2.out.1.dm);clear b2 DQ;go_wp2_with (refine oa (by rfl) 101 _ rfl ⟨b0,0,none⟩ rfl D.cD _ H2.out.1.st.part underlying101 rfl H2.out.1.dm.info ?_);refine D9.out.mono ?_;rintro e w3 ⟨rfl,b3⟩;have HF:Hid (Below w.heap.size w w3):=by
  rw[dO.out];exact H2.out.2.trans (b3.mono cv)
 clear b3 D9;go_wp2;go_ret;exact⟨rfl,HF.out⟩
theorem zdR(w:World)(ty:TypeId)(ad:Addr)(cs:Array Value)(d:TypeDesc)(hc:∀j v,cs.toList[j]?=some v->w.cell? (ad.add j)=some v)
  (hu:P.underlying ty=some d) (hd:(match d with|.struct _|.array _ _=>true|_=>false)=true) (hi:(P.info? ty).map (·.size)=some cs.size):
  (loadAt ty (.pointer (some ad))).run P w=.ok (.agg cs) w:=by
 simp only[loadAt,sureAddr,run_bind,run_pure,andThen_ok,Gm w ad ty cs d hc hu hd hi]
theorem Cm{o:Oper}(w:World)(ty:TypeId)(x:Operand)(ho:o.op=.load ty x)(ad:Addr)(hx:ρ x=.pointer (some ad))(cs:Array Value)(d:TypeDesc)(hc:∀j v,cs.toList[j]?=some v->w.cell? (ad.add j)=some v)
  (hu:P.underlying ty=some d) (hd:(match d with|.struct _|.array _ _=>true|_=>false)=true) (hi:(P.info? ty).map (·.size)=some cs.size):
  (execOp ρ o).run P w=.ok (.value (.agg cs)) w:=by
 unfold execOp;simp only[ho,hx,run_bind,zdR w ty ad cs d hc hu hd hi,andThen_ok,run_pure]
inductive kq (E:Nat->Nat->Prop) (A:Nat->Prop):Nat->Prop
 | base {x:Nat}:A x->kq E A x
 | step {x y:Nat}:kq E A x->E x y->kq E A y
theorem kq.lt{E:Nat->Nat->Prop}{A:Nat->Prop}{N:Nat}(hA:∀x,A x->x<N)(hE:∀x y,E x y->y<N)(h:kq E A x):x<N:=by
 cases h with
 | base h=>exact hA _ h
 | step _ e=>exact hE _ _ e
theorem kq.head{E:Nat->Nat->Prop}{y:Nat}{B:Nat->Prop}(hxy:E x y)(h:kq E (fun z=>z=y) k):kq E (fun z=>z=x) k:=by
 induction h with
 | base h=>subst h;exact .step (.base rfl) hxy
 | step _ e ih=>exact .step ih e
theorem zmQ{E:Nat->Nat->Prop}{B:Nat->Prop}(x:Nat):kq (fun a b=>E b a) B x↔∃k,kq E (fun z=>z=x) k/\B k:=by
 constructor
 ·intro h
  induction h with
  | base h=>exact⟨_,.base rfl,h⟩
  | @step a b _ e ih=>
   obtain⟨k,h1,h2⟩:=ih;exact⟨k,kq.head (B:=B) e h1,h2⟩
 rintro⟨k,h1,h2⟩;have:∀y,kq E (fun z=>z=x) y->kq (fun a b=>E b a) B y->kq (fun a b=>E b a) B x:=by
  intro y hy
  induction hy with
  | base h=>subst h;exact fun h=>h
  | step _ e ih=>exact fun h=>ih (.step h e)
 exact this k h1 (.base h2)
def Ed(D:Dd)(x y:Nat):Prop:=x<D.n/\∃c,c<D.len x/\D.nx x c=(y:Int)
theorem DR.ed{D:Dd}(h:DR D C):∀x y,Ed D x y->y<D.n:=fun x y ⟨hx,c,hc,e⟩=>by
 rw[h.len x hx] at hc
 have:=h.nx x c hx hc
 omega
def iy(m:List Nat)(t:Int):List Nat:=if 0<=t/\t.toNat∉m then m++[t.toNat] else m
def gH(m:List Nat)(row:List Int):List Nat:=row.foldl iy m
def o8(rows:Nat->List Int)(m:List Nat)(i:Nat):List Nat:=if i<m.length then gH m (rows (m.getD i 0)) else m
def cH(rows:Nat->List Int)(m:List Nat):Nat->List Nat
 | 0=>m
 | k+1=>o8 rows (cH rows m k) k
theorem zmR(m:List Nat)(t:Int):m <+: iy m t:=by
 unfold iy;split
 ·exact List.prefix_append _ _
 exact prefix_refl _
theorem zmS(row:List Int):∀m,m <+: gH m row:=by
 induction row with
 | nil=>exact fun m=>prefix_refl _
 | cons t row ih=>exact fun m=>(zmR m t).trans (ih _)
theorem zk1(m:List Nat)(row:List Int)(t:Int):gH m (row++[t])=iy (gH m row) t:=by simp[gH,List.foldl_append]
theorem WL(m:List Nat)(t:Int)(x:Nat):x∈iy m t↔x∈m\/t=(x:Int):=by
 unfold iy;split
 ·rename_i h;rw[mem_append,mem_singleton];constructor
  ·rintro (h1|h1)
   ·exact inl h1
   exact inr (by omega)
  rintro (h1|h1)
  ·exact inl h1
  exact inr (by omega)
 rename_i h;refine⟨inl,?_⟩;rintro (h1|h1)
 ·exact h1
 refine Classical.byContradiction fun hn=>h ⟨by omega,?_⟩
 have:t.toNat=x:=by omega
 rw[this];exact hn
theorem RF(row:List Int):∀m x,x∈gH m row↔x∈m\/((x:Nat):Int)∈row:=by
 induction row with
 | nil=>intro m x;simp[gH]
 | cons t row ih=>
  intro m x;show x∈gH (iy m t) row↔_;rw[ih,WL,List.mem_cons];constructor
  ·rintro ((h|h)|h)
   ·exact inl h
   ·exact inr (inl h.symm)
   exact inr (inr h)
  rintro (h|h|h)
  ·exact inl (inl h)
  ·exact inl (inr h.symm)
  exact inr h
theorem ziW(h:m.Nodup)(t:Int):(iy m t).Nodup:=by
 unfold iy;split
 ·rename_i h2;rw[nodup_append];exact⟨h,by simp,fun a ha b hb e=>by
   rw[List.mem_singleton.1 hb] at e
   rw[e] at ha
   exact h2.2 ha⟩
 exact h
theorem Kz(rows:Nat->List Int)(m:List Nat)(k:Nat):cH rows m k <+: cH rows m (k+1):=by
 show _ <+: o8 rows (cH rows m k) k;unfold o8;split
 ·exact zmS _ _
 exact prefix_refl _
theorem Yv(rows:Nat->List Int)(m:List Nat)(h:(cH rows m k).length=k):∀j,k<=j->cH rows m j=cH rows m k:=by
 intro j hj
 induction j with
 | zero=>rw[show k=0 by omega]
 | succ j ih=>
  by_cases e:k=j+1
  ·rw[e]
  have h2:=ih (by omega);show o8 rows (cH rows m j) j=_;rw[h2];unfold o8;rw[if_neg (by omega)]
theorem zmT(rows:Nat->List Int)(m:List Nat){j:Nat}(hi:(cH rows m i).length=i)(hj:(cH rows m j).length=j):cH rows m i=cH rows m j:=by
 rcases Nat.le_total i j with h|h
 ·exact (Yv rows m hi j h).symm
 exact Yv rows m hj i h
def WE(rows:Nat->List Int)(x y:Nat):Prop:=((y:Nat):Int)∈rows x
theorem XW(rows:Nat->List Int)(m:List Nat)(k:Nat):∀x∈cH rows m k,kq (WE rows) (fun y=>y∈m) x:=by
 induction k with
 | zero=>exact fun x hx=>.base hx
 | succ k ih=>
  intro x hx;have kY:x∈o8 rows (cH rows m k) k:=hx;unfold o8 at kY;split at kY
  ·rename_i h;rw[RF] at kY;rcases kY with h1|h1
   ·exact ih x h1
   refine .step (ih ((cH rows m k).getD k 0) ?_) h1;rw[show (cH rows m k).getD k 0=(cH rows m k)[k] by simp[getD_eq_getElem?_getD,h]];exact getElem_mem h
  exact ih x kY
theorem J9(rows:Nat->List Int)(m:List Nat)(k:Nat):∀j,j<k->∀h:j<(cH rows m k).length,∀y,WE rows (cH rows m k)[j] y->y∈cH rows m k:=by
 induction k with
 | zero=>intro j hj;omega
 | succ k ih=>
  intro j hj h y hy;have hp:=Kz rows m k;by_cases hl:k<(cH rows m k).length
  ·have e1:cH rows m (k+1)=gH (cH rows m k) (rows ((cH rows m k).getD k 0)):=by
    show o8 rows _ k=_;unfold o8;rw[if_pos hl]
   by_cases e:j=k
   ·subst e;rw[<-hp.getElem hl] at hy;rw[e1,RF];refine inr ?_;have e2:(cH rows m j).getD j 0=(cH rows m j)[j]:=(by simp[getD_eq_getElem?_getD,hl]);rw[e2];exact hy
   have iE:j<(cH rows m k).length:=(by omega);rw[<-hp.getElem iE] at hy;have:=ih j (by omega) iE y hy;exact hp.subset this
  have e1:cH rows m (k+1)=cH rows m k:=by
   show o8 rows _ k=_;unfold o8;rw[if_neg hl]
  have iE:j<(cH rows m k).length:=by rw[e1] at h;exact h
  have Ba:WE rows (cH rows m k)[j] y:=by
   rw[hp.getElem iE];exact hy
  rw[e1];exact ih j (by omega) iE y Ba
theorem LB(rows:Nat->List Int)(m:List Nat)(k:Nat):m <+: cH rows m k:=by
 induction k with
 | zero=>exact prefix_refl _
 | succ k ih=>exact ih.trans (Kz rows m k)
theorem TS(rows:Nat->List Int)(m:List Nat)(hi:(cH rows m i).length=i)(x:Nat):x∈cH rows m i↔kq (WE rows) (fun y=>y∈m) x:=by
 refine⟨XW rows m i x,fun h=>?_⟩
 induction h with
 | base h=>exact (LB rows m i).subset h
 | step _ e ih=>
  obtain⟨j,hj,e2⟩:=List.getElem_of_mem ih;refine J9 rows m i j (by omega) hj _ ?_;rw[e2];exact e
theorem Kk(rows:Nat->List Int)(hm:m.Nodup)(k:Nat):(cH rows m k).Nodup:=by
 have hR:∀(row:List Int) (m:List Nat),m.Nodup->(gH m row).Nodup:=by
  intro row
  induction row with
  | nil=>exact fun m h=>h
  | cons t row ih=>exact fun m h=>ih _ (ziW h t)
 induction k with
 | zero=>exact hm
 | succ k ih=>
  show (o8 rows _ k).Nodup;unfold o8;split
  ·exact hR _ _ ih
  exact ih
structure OB (W0:World)(g n:Nat)(f:Nat->Bool)(wr:World):Prop where
 own:wr.ownsRow W0.heap.size 4 1 (.slice (some ⟨g,0,none⟩) n n) n (kB f n)
 aU:Below W0.heap.size W0 wr
 lo:W0.heap.size<=g
theorem OB.made(W0:World)(n:Nat)(hn:n<=maxLen):OB W0 W0.heap.size n (fun _=>false) (W0.alloc (.cells (madeCells #[.bool false] n) 4)):=by
 refine⟨?_,al W0 _,le_refl _⟩;have:=Cx W0 W0.heap.size n 4 (.bool false) (le_refl _) hn;rwa [zn4] at this
theorem OB.put{f:Nat->Bool}(h:OB W0 g n f wr)(j:Nat)(hj:j<n)(v:Bool):OB W0 g n (fun i=>if i=j then v else f i) (wr.setCell ⟨g,j,none⟩ (.bool v)):=by
 refine⟨?_,h.aU.setCell (p:=⟨g,j,none⟩) h.lo _,h.lo⟩;have:=vn h.own j hj (.bool v);rwa [U9] at this
theorem OB.cell{f:Nat->Bool}(h:OB W0 g n f wr)(j:Nat)(hj:j<n):wr.cell? ⟨g,j,none⟩=some (.bool (f j))/\wr.frozen? ⟨g,j,none⟩=false:=by
 obtain⟨g',e,_,_,hc⟩:=eR h.own (by omega);have e2:g'=g:=by
  injection e with e;injection e with e _;exact e.symm
 subst e2;obtain⟨h1,h2⟩:=hc j (by omega);exact⟨by rw[h1];simp[kB,hj],h2⟩
def Mq(n:Nat)(P:Nat->Prop)(w:World)(e:Ending)(w':World):Prop:=
 ∃(f:Nat->Bool) (a:Option Addr) (c:Nat),e=.returned (.slice a n c)/\w'.ownsRow w.heap.size 4 1 (.slice a n c) n (kB f n)/\(∀x,x<n->(f x=true↔P x))/\Below w.heap.size w w'
def vd(D:Dd)(x:Nat):Prop:=∃k,kq (Ed D) (fun y=>y=x) k/\0<=D.q k
def nH(w:World)(a:Option Addr)(l:List Nat):Prop:=lb w a l.length (fun i=>((l.getD i 0:Nat):Int))
theorem nH.below{w:World}(h:nH w a l)(k:Below w.heap.size w w'):nH w' a l:=lb.below h k
theorem uj{w:World}(h:w.ownsRow B 3 1 (.slice a n c) n (cy l))(hl:l.length=n):nH w a l:=by
 have e:cy l=ints (l.map fun x=>((x:Nat):Int)):=by simp[cy,ints]
 rw[e] at h;have h2:=Ng h (by simpa using hl);unfold nH;rw[hl];intro h0;obtain⟨g,off,e1,e2,hc⟩:=h2 h0;refine⟨g,off,e1,e2,fun j hj=>?_⟩;rw[hc j hj];have:j<l.length:=by omega
 simp[getD_eq_getElem?_getD,this]
theorem Zd(n:Nat)(l:List Nat)(a:Option Addr)(q c:Nat)(hq:l.length=q)(hq2:q<=1000000)(hn:n<=1000000)(hl:∀x∈l,x<n)(w:World)(hL:nH w a l):
  Calls prog 157 #[.int .i64 (n:Int),.slice a q c] w (Mq n (fun x=>x∈l) w):=by
 have iZ:=zn3 n (by omega);have HL:=hid (Zz hL (Zz hq hl));have HO:=hid (OB.made w n (by unfold maxLen;omega));clear hL hq hl;go_enter func157,ntmps157;go_wp2_with fail;obtain⟨g,hg⟩:∃g,w.heap.size=g:=⟨_,rfl⟩
 have lh:Hid (∀W1,(w.alloc (.cells (madeCells #[.bool false] n) 4))=W1->OB w g n (fun _=>false) W1):=fun W1 h=>by rw[<-h,<-hg];exact HO.out
 rw[hg];generalize qk:w.alloc (.cells (madeCells #[.bool false] n) 4)=W1;have HO:=hid (lh.out W1 qk);have HOl:=hid (fun (wr:World) (h:OB w g n (fun _=>false) wr)=>h);have HLW:=hid (fun (wr:World) (hb:Below w.heap.size w wr)=>HL.out.1.below hb);clear lh hg qk;go_loopw [7,12] (fun _ v wr=>∃(k:Nat) (f:Nat->Bool),v=.int .i64 k/\k<=q/\Hid (OB w g n f wr/\∀x,f x=true↔x∈l.take k)) (fun _ v _=>q-(intOf v).toNat)
 ·exact⟨0,_,rfl,by omega,⟨HO.out,fun x=>by simp⟩⟩
 clear HO;obtain⟨k,f,rfl,hk,HX⟩:=hrel;by_cases aw:k<q
 ·have hkl:k<l.length:=by rw[HL.out.2.1];exact aw
  obtain⟨gL,oL,rfl,_,c0⟩:=HLW.out wr HX.out.1.aU (by omega);have c1:=c0 k hkl;have hx:l.getD k 0=l[k]:=by simp[getD_eq_getElem?_getD,hkl]
  have iL:=HL.out.2.2 l[k] (getElem_mem hkl);dsimp only at c1;rw[hx] at c1;have HS:Hid (∀x,(if x=l[k] then true else f x)=true↔x∈l.take (k+1)):=fun x=>by
   rw[List.take_succ_eq_append_getElem hkl,mem_append,mem_singleton];by_cases e:x=l[k]
   ·rw[if_pos e];simp[e]
   rw[if_neg e,HX.out.2];simp[e]
  clear c0 hx;generalize l[k]=t at c1 iL HS;obtain⟨y0,y1⟩:=HX.out.1.cell t iL;have HA:=hid (HX.out.1.put t iL true);have i1:(k:Int)<q:=by omega
  have i2:(t:Int)<n:=by omega
  go_wp2;go_roundw
  ·exact⟨k+1,_,by go_num,by omega,⟨HA.out,HS.out⟩⟩
  simp[intOf];omega
 obtain rfl:k=q:=by omega
 have HZ:Hid (Mq n (fun x=>x∈l) w (.returned (.slice (some ⟨g,0,none⟩) n n)) wr):=
  ⟨f,_,_,rfl,HX.out.1.own,fun x _=>by rw[HX.out.2,List.take_of_length_le (by rw[HL.out.2.1];exact le_refl _)],HX.out.1.aU⟩
 go_wp2;go_ret;exact HZ.out
def PN(q:Nat)(z:Nat->Int)(w:World)(e:Ending)(w':World):Prop:=
 ∃(a:Option Addr) (c:Nat),e=.returned (.slice a q c)/\w'.ownsRow w.heap.size 3 1 (.slice a q c) q (ints ((range q).map z))/\Below w.heap.size w w'
theorem UH{w:World}{z:Nat->Int}{o:Nat}(hc:∀j,j<q->w.cell? ⟨g,o+j,none⟩=some (.int .i64 (z j))):∀j u,(ints ((range q).map z))[j]?=some u->w.cell? ((⟨g,o,none⟩:Addr).add j)=some u:=by
 intro j u hj;have hl:j<q:=by
  have:=(List.getElem?_eq_some_iff.1 hj).1;simpa [ints] using this
 have e:(⟨g,o,none⟩:Addr).add j=⟨g,o+j,none⟩:=by unfold Addr.add;split <;> simp_all
 rw[e,hc j hl];simp[ints,hl] at hj;rw[hj]
theorem SV(a:Option Addr)(n c:Nat)(W:World):(binOp .eql 43 (.slice a n c) (.slice none 0 0)).run prog W=.ok (.bool a.isNone) W:=by
 have h:=run_equal_slice_nil W 43 3 a n c underlying43;unfold binOp;simp only[run_bind,h,andThen_ok,run_pure]
theorem JT(q c:Nat)(a:Option Addr)(z:Nat->Int)(hq:q<=1000000)(w:World)(hz:lb w a q z)(ha:a=none->q=0/\c=0)(hs:∀ad,a=some ad->ad.spot=none):
  Calls prog 128 #[.slice a q c] w (PN q z w):=by
 have HZ:=hid hz;obtain⟨iI,hI,pT,qd,qb⟩:=info_parts az;clear hz;go_enter func128,ntmps128;rcases a with _|⟨g,o,sp⟩
 ·obtain⟨rfl,rfl⟩:=ha rfl;have he:(binOp .eql 43 (.slice none 0 0) (.slice none 0 0)).run prog w=.ok (.bool true) w:=SV none 0 0 w;have HF:Hid (PN 0 z w (.returned (.slice none 0 0)) w):=⟨none,0,rfl,World.ownsRow_nil _ _ _ _,Below.refl _ _⟩
  go_wp2;go_ret;exact HF.out
 obtain rfl:sp=none:=hs _ rfl;have he:(binOp .eql 43 (.slice (some ⟨g,o,none⟩) q c) (.slice none 0 0)).run prog w=.ok (.bool false) w:=SV _ q c w;have HN:Hid (∀W,Below w.heap.size w W->∀j u,(ints ((range q).map z))[j]?=some u->W.cell? ((⟨g,o,none⟩:Addr).add j)=some u):=fun W hb=>by
  rcases Nat.eq_zero_or_pos q with h0|h0
  ·subst h0;intro j u hj;simp[ints] at hj
  obtain⟨g',o',e,_,hc⟩:=(HZ.out.below hb) h0;injection e with e;injection e with e1 e2;subst e1 e2;exact UH hc
 have aX:=Bl w w.heap.size 3 1 #[] 0 rfl (le_refl _) (by decide);go_wp2_with (at_builtin;refine wpList_append_own_at _ rfl _ _ 43 rfl w.heap.size 3 iI (.int .i64 0) 1 8 underlying43 hI pT qd qb rfl (by decide) _ _ _ rfl aX ⟨g,o,none⟩ q c (ints ((range q).map z)) rfl (by simp[ints]) (HN.out _ (al w _)) ?d2 ?d3 ?d4 ?d5 ?_)
 case d2=>
  intro u hu;simp[ints] at hu;obtain⟨x,_,rfl⟩:=hu;rfl
 case d3=>unfold maxLen;omega
 case d4=>omega
 any_goals (first|(simp;done)|skip)
 intro v5 w5 ak aj _ bg
 try rw[Nat.zero_add] at ak
 try rw[Array.toList_empty,List.nil_append] at ak
 obtain⟨a5,c5,rfl⟩:=bF ak;have HF:Hid (PN q z w (.returned (.slice a5 q c5)) w5):=⟨a5,c5,rfl,ak,fH (al w (.cells #[] 3)) aX (by simp) aj⟩
 clear ak aj bg;go_wp2;go_ret;exact HF.out
def av(len:Nat->Nat)(nx:Nat->Nat->Int)(i:Nat):List Int:=(range (len i)).map (nx i)
def YW(rows:Nat->List Int)(l0:List Nat)(n:Nat)(w:World)(e:Ending)(w':World):Prop:=
 ∃(l:List Nat) (i:Nat) (a:Option Addr) (c:Nat),e=.returned (.slice a i c)/\w'.ownsRow w.heap.size 3 1 (.slice a i c) i (cy l)/\l=cH rows l0 i/\l.length=i/\i<=n/\(∀x∈l,x<n)/\Below w.heap.size w w'
theorem zk4(nx:Nat->Nat->Int)(x c:Nat)(m:List Nat):gH m ((range (c+1)).map (nx x))=iy (gH m ((range c).map (nx x))) (nx x c):=by
 rw[range_succ,map_append,List.map_singleton,zk1]
theorem Ze(n cL:Nat)(aL:Option Addr)(A:Nat->Option Addr)(Cp len:Nat->Nat)(nx:Nat->Nat->Int)(l0:List Nat)(aF:Option Addr)(q cF:Nat)(hn:n<=100000)(hlen:∀i,i<n->len i<=100000)(Fj:∀i c,i<n->c<len i->-1<=nx i c/\nx i c<(n:Int))
  (hq:l0.length=q) (iO:l0.Nodup) (lg:∀x∈l0,x<n) (w:World) (hR:mX w aL n A Cp len nx) (hF:nH w aF l0) (ha:aF=none->q=0/\cF=0) (hs:∀ad,aF=some ad->ad.spot=none):
  Calls prog 124 #[.slice aL n cL,.slice aF q cF] w (YW (av len nx) l0 n w):=by
 have NF:q<=n:=by rw[<-hq];exact pW iO lg
 have HX:=hid (Zz hlen (Zz Fj (Zz hq (Zz iO (Zz lg (Zz hR hF))))));have nR:=hid (JT q cF aF (fun i=>((l0.getD i 0:Nat):Int)) (by omega) w (by rw[<-hq];exact hF) ha hs);obtain⟨iI,hI,pT,qd,qb⟩:=info_parts az;clear hlen Fj hq iO lg hR hF ha hs;go_enter func124,ntmps124;go_wp2_with fail;refine nR.out.mono ?_;rintro e w1 ⟨a1,c1,rfl,aX,b1⟩;have ze:ints ((range q).map (fun i=>((l0.getD i 0:Nat):Int)))=cy l0:=by
  apply List.ext_getElem?;intro j;have hq:=HX.out.2.2.1;by_cases h:j<q
  ·have h2:j<l0.length:=(by omega);simp[ints,cy,h,h2,getD_eq_getElem?_getD]
  have h2:¬j<l0.length:=by omega
  simp[ints,cy,h,h2]
 rw[ze] at aX;have tw:=hid (Zz aX b1);have XN:=hid (Zd n l0 a1 q c1 HX.out.2.2.1 (by omega) (by omega) HX.out.2.2.2.2.1 w1 (uj aX HX.out.2.2.1));clear aX b1 ze nR;go_wp2_with fail;refine XN.out.mono ?_;rintro e w2 ⟨f,a2,c2,rfl,td,hf,b2⟩;have jf:∃g,(Value.slice a2 n c2)=.slice (some ⟨g,0,none⟩) n c2\/n=0:=by
  rcases Nat.eq_zero_or_pos n with h|h
  ·exact⟨0,inr h⟩
  obtain⟨g,e,_⟩:=eR td h;exact⟨g,inl (by rw[e])⟩
 have cv:kB f n=kB (fun x=>decide (x∈l0)) n:=Vx fun j hj=>by rw[Bool.eq_iff_iff,hf j hj,decide_eq_true_iff]
 rw[cv] at td;have lh:Hid (w2.ownsRow w.heap.size 3 1 (.slice a1 q c1) q (cy l0)/\w2.ownsRow w.heap.size 4 1 (.slice a2 n c2) n (kB (fun x=>decide (x∈l0)) n)/\Below w.heap.size w w2):=⟨dp tw.out.1 b2,jF td tw.out.2.size,tw.out.2.trans (b2.mono tw.out.2.size)⟩
 clear td hf b2 cv XN tw;go_wp2;go_loopw [5,7,9,30] (fun v5 v7 _ _ wr=>∃(i p:Nat) (l:List Nat) (a:Option Addr) (c:Nat),v7=.int .i64 i/\i<=p/\p<=n/\v5=.slice a p c/\Hid (l=cH (av len nx) l0 i/\l.length=p/\l.Nodup/\(∀x∈l,x<n)/\wr.ownsRow w.heap.size 3 1 (.slice a p c) p (cy l)/\wr.ownsRow w.heap.size 4 1 (.slice a2 n c2) n (kB (fun x=>decide (x∈l)) n)/\Below w.heap.size w wr)) (fun _ v _ _ _=>n-(intOf v).toNat)
 ·exact⟨0,q,l0,a1,c1,rfl,by omega,NF,rfl,⟨rfl,HX.out.2.2.1,HX.out.2.2.2.1,HX.out.2.2.2.2.1,lh.out.1,lh.out.2.1,lh.out.2.2⟩⟩
 clear lh;obtain⟨i,p,l,a,c,rfl,hip,FE,rfl,HL⟩:=hrel;by_cases aw:i<p
 ·have ku:i<l.length:=by rw[HL.out.2.1];exact aw
  obtain⟨gM,rfl,_,_,cM⟩:=eR HL.out.2.2.2.2.1 (by omega);have d0:=(cM i (by omega)).1;rw[AN l i ku] at d0;have iL:=HL.out.2.2.2.1 l[i] (getElem_mem ku);have G2:Hid (cH (av len nx) l0 (i+1)=gH l (av len nx l[i])):=by
   show o8 _ (cH _ _ i) i=_;rw[<-HL.out.1];unfold o8;rw[if_pos ku];simp[getD_eq_getElem?_getD,ku]
  clear cM;generalize l[i]=x at d0 iL G2;obtain⟨g2,yi⟩:=jf;obtain rfl:a2=some ⟨g2,0,none⟩:=by
   rcases yi with h|h
   ·injection h
   omega
  clear yi;have ZH:=HX.out.1 x iL;obtain⟨gL,oL,eL,_,A4⟩:=(HX.out.2.2.2.2.2.1.below HL.out.2.2.2.2.2.2) (by omega);obtain⟨d1,zx⟩:=A4 x iL;have Gu:Hid (lb w (A x) (len x) (nx x)):=by
   obtain⟨_,_,_,_,cLw⟩:=HX.out.2.2.2.2.2.1 (by omega);exact (cLw x iL).2
  have KC:=hid (fun c hc=>HX.out.2.1 x c iL hc);have HeL:=hid eL;rw[eL];have i1:(i:Int)<p:=by omega
  have i2:(x:Int)<n:=by omega
  clear A4 zx eL;obtain⟨m,hm⟩:∃m,len x=m:=⟨_,rfl⟩
  have Hm:=hid hm;rw[hm] at d1 ZH Gu;generalize A x=ax at d1 Gu;generalize Cp x=cx at d1;clear hm;go_wp2_with fail;obtain⟨W9,rfl⟩:∃W9,W9=wr:=⟨wr,rfl⟩
  clear d0 d1;go_loopw [5,9,30] (fun v5 _ v30 wq=>∃(k p2:Nat) (l2:List Nat) (a:Option Addr) (c:Nat),v30=.int .i64 k/\k<=m/\p<=p2/\p2<=n/\v5=.slice a p2 c/\Hid (l2=gH l ((range k).map (nx x))/\l2.length=p2/\l2.Nodup/\(∀x∈l2,x<n)/\wq.ownsRow w.heap.size 3 1 (.slice a p2 c) p2 (cy l2)/\wq.ownsRow w.heap.size 4 1 (.slice (some ⟨g2,0,none⟩) n c2) n (kB (fun x=>decide (x∈l2)) n)/\Below w.heap.size w wq)) (fun _ _ v _=>m-(intOf v).toNat)
  ·exact⟨0,p,l,_,c,rfl,by omega,by omega,FE,rfl,⟨rfl,HL.out.2.1,HL.out.2.2.1,HL.out.2.2.2.1,HL.out.2.2.2.2.1,HL.out.2.2.2.2.2.1,HL.out.2.2.2.2.2.2⟩⟩
  obtain⟨k,p2,l2,a,c,rfl,hk,rH,fj,rfl,HK⟩:=hrel;by_cases dE:k<m
  ·obtain⟨gA,oA,eA,_,oU⟩:=(Gu.out.below HK.out.2.2.2.2.2.2) (by omega);have cA:=oU k dE;have hb:=KC.out k (by rw[Hm.out];exact dE);have HS:=hid (zk4 nx x k l);rw[eA];have LO:=hid eA;have i3:(k:Int)<m:=(by omega);clear oU eA;generalize nx x k=t at cA hb HS;by_cases ht:t=-1
   ·subst ht;have HZ:Hid (l2=gH l ((range (k+1)).map (nx x))):=by
     show _=_;rw[HS.out,<-HK.out.1];unfold iy;rw[if_neg (by omega)]
    go_wp2;go_roundw
    ·exact⟨k+1,p2,l2,a,c,by go_num,by omega,by omega,by omega,rfl,⟨HZ.out,HK.out.2⟩⟩
    simp[intOf];omega
   obtain⟨u,rfl⟩:∃u:Nat,t=(u:Int):=(⟨t.toNat,by omega⟩);have hu:u<n:=(by omega);have i4:(u:Int)<n:=(by omega);have KU:((u:Int) != (-1:Int))=true:=(by first|(simp;done)|(simp;omega));obtain⟨gS,eS,wZ,_,cS⟩:=eR HK.out.2.2.2.2.2.1 (by omega);obtain rfl:gS=g2:=by
    injection eS with eS;injection eS with eS _;exact eS.symm
   have y0:=(cS u (by omega)).1;have y1:=(cS u (by omega)).2;have y2:(kB (fun x=>decide (x∈l2)) n)[u]?=some (.bool (decide (u∈l2))):=(by simp[kB,hu]);rw[y2] at y0;clear cS y2 eS ht;by_cases oz:u∈l2
   ·have hd:decide (u∈l2)=true:=(by simp[oz]);rw[hd] at y0;have HZ:Hid (l2=gH l ((range (k+1)).map (nx x))):=by
     show _=_;rw[HS.out,<-HK.out.1];unfold iy;rw[if_neg (by simp[oz])]
    clear hd oz;go_wp2;go_roundw
    ·exact⟨k+1,p2,l2,a,c,by go_num,by omega,by omega,by omega,rfl,⟨HZ.out,HK.out.2⟩⟩
    simp[intOf];omega
   have hd:decide (u∈l2)=false:=(by simp[oz]);rw[hd] at y0;have HZ:Hid (l2++[u]=gH l ((range (k+1)).map (nx x))):=by
    show _=_;rw[HS.out,<-HK.out.1];unfold iy;rw[if_pos ⟨by omega,by simpa using oz⟩];simp
   have HN:Hid ((l2++[u]).Nodup/\∀x∈l2++[u],x<n):=by
    refine⟨?_,fun y hy=>?_⟩
    ·rw[nodup_append];exact⟨HK.out.2.2.1,by simp,fun a ha b cv e=>by
      rw[List.mem_singleton.1 cv] at e
      rw[e] at ha
      exact oz ha⟩
    rcases List.mem_append.1 hy with h|h
    ·exact HK.out.2.2.2.1 y h
    rw[List.mem_singleton.1 h];exact hu
   have hpn3:p2+1<=n:=by
    have:=pW HN.out.1 HN.out.2;simp[HK.out.2.1] at this;exact this
   have HT:Hid ((wr.setCell ⟨gS,u,none⟩ (.bool true)).ownsRow w.heap.size 3 1 (.slice a p2 c) p2 (cy l2)/\(wr.setCell ⟨gS,u,none⟩ (.bool true)).ownsRow w.heap.size 4 1 (.slice (some ⟨gS,0,none⟩) n c2) n (kB (fun x=>decide (x∈l2++[u])) n)/\Below w.heap.size w (wr.setCell ⟨gS,u,none⟩ (.bool true))):=by
    have h1:=HK.out.2.2.2.2.1;have h2:=HK.out.2.2.2.2.2.1;refine⟨fy (ts:=[]) (bs:=[gS]) h1 ((Kept.refl _ _ _).setCell _ _ (inl (by simp))) (by simp) (fun b e hm=>gP h1 h2 (by decide) b e (by simp[List.mem_singleton.1 hm,Value.ownBlock])),?_,HK.out.2.2.2.2.2.2.setCell (p:=⟨gS,u,none⟩) wZ _⟩;have h3:=vn h2 u hu (.bool true);rw[U9] at h3;have e:kB (fun x=>decide (x∈l2++[u])) n=kB (fun i=>if i=u then true else decide (i∈l2)) n:=Vx fun j hj=>by
     by_cases e:j=u
     ·simp[e]
     simp[e]
    rw[e];exact h3
   clear hd oz;go_upto_region 11 with fail;generalize wr.setCell ⟨gS,u,none⟩ (.bool true)=W5 at HT⊢;have hO:=HT.out.1;clear y0 y1;go_wp2_with (at_builtin;refine wpList_append_own_at _ rfl _ _ 43 rfl w.heap.size 3 iI (.int .i64 0) 1 8 underlying43 hI pT qd qb rfl (by decide) _ _ _ rfl (hO.alloc _) ⟨W5.heap.size,0,none⟩ 1 1 [.int .i64 (u:Int)] rfl rfl (cell_one_new _ _ _) ?d2 ?d3 ?d4 ?d5 ?_)
   case d2=>first|(intro u hu;simp at hu;subst hu;rfl)|rfl
   case d3=>unfold maxLen;omega
   case d4=>omega
   case d5=>have:=HT.out.2.2.size;simp at this⊢;omega
   intro v5 w5 ak aj _ bg;obtain⟨a5,c5,rfl⟩:=bF ak;have kk:=al W5 (.cells #[.int .i64 (u:Int)] 3);have nY:=HT.out.2.2.size;have h2:=dp HT.out.2.1 kk;have HY:Hid (w5.ownsRow w.heap.size 3 1 (.slice a5 (p2+1) c5) (p2+1) (cy (l2++[u]))/\w5.ownsRow w.heap.size 4 1 (.slice (some ⟨gS,0,none⟩) n c2) n (kB (fun x=>decide (x∈l2++[u])) n)/\Below w.heap.size w w5):=by
    refine⟨by rw[x8];exact ak,ri h2 aj (fun b e e2=>gP h2 (hO.alloc _) (by decide) b e e2.symm),fH (HT.out.2.2.trans (kk.mono nY)) (hO.alloc _) (le_trans nY kk.size) aj⟩
   clear ak aj bg hO kk h2;go_wp2;go_roundw
   ·exact⟨k+1,p2+1,l2++[u],a5,c5,by go_num,by omega,by omega,by omega,rfl,⟨HZ.out,by rw[length_append,HK.out.2.1];rfl,HN.out.1,HN.out.2,HY.out.1,HY.out.2.1,HY.out.2.2⟩⟩
   simp[intOf];omega
  obtain rfl:k=m:=by omega
  have HZ:Hid (l2=cH (av len nx) l0 (i+1)):=by
   show _=_;rw[G2.out,HK.out.1];unfold av;rw[Hm.out]
  go_wp2;go_roundw
  ·exact⟨i+1,p2,l2,a,c,by go_num,by omega,fj,rfl,⟨HZ.out,HK.out.2⟩⟩
  simp[intOf];omega
 obtain rfl:i=p:=by omega
 have HF:Hid (YW (av len nx) l0 n w (.returned (.slice a i c)) wr):=⟨l,i,a,c,rfl,HL.out.2.2.2.2.1,HL.out.1,HL.out.2.1,FE,HL.out.2.2.2.1,HL.out.2.2.2.2.2.2⟩
 go_wp2;go_ret;exact HF.out
theorem zf2(l:List Nat)(s q c:Nat)(a:Option Addr)(hq:l.length=q)(hq2:q<=1000000)(w:World)(hL:nH w a l):
  Calls prog 176 #[.slice a q c,.int .i64 (s:Int)] w (SO (l.getLast?=some s) w):=by
 have HL:=hid (Zz hL hq);clear hL hq;go_enter func176,ntmps176;rcases q with _|q
 ·have HZ:Hid (l.getLast?≠some s):=by
   show ¬_=_;rw[List.eq_nil_of_length_eq_zero HL.out.2];intro h;cases h
  go_wp2;go_ret;exact⟨false,rfl,⟨(fun h=>by cases h),(fun h=>absurd h HZ.out)⟩,Below.refl _ _⟩
 have hne:l.length=q+1:=HL.out.2;obtain⟨g,o,rfl,_,c0⟩:=HL.out.1 (by omega);have c1:=c0 q (by omega);have iE:l.getLast?=some (l.getD q 0):=by
  rw[List.getLast?_eq_getElem?,hne];have:q<l.length:=by omega
  simp[getD_eq_getElem?_getD,this]
 have HS:Hid (l.getLast?=some s↔l.getD q 0=s):=by
  show _↔_;rw[iE];simp
 clear c0 iE hne;dsimp only at c1;generalize l.getD q 0=t at c1 HS;have i1:((q:Int)+1)-1=(q:Int):=by omega
 have i2:(0:Int)<q+1:=by omega
 have i3:(q:Int)<q+1:=by omega
 by_cases e:t=s
 ·subst e;have HZ:=hid (HS.out.2 rfl);go_wp2_with fail
  try go_quiet (fail)
  try go_wp2
  go_ret;exact⟨true,rfl,⟨(fun _=>HZ.out),(fun _=>rfl)⟩,by first|exact Below.refl _ _|exact (Below.refl _ _).drew⟩
 have HZ:Hid (¬l.getLast?=some s):=fun h=>e (HS.out.1 h)
 have i4:((t:Int) == (s:Int))=false:=by simp;omega
 go_wp2_with fail
 try go_quiet (fail)
 try go_wp2
 go_ret;exact⟨false,rfl,⟨(fun h=>by cases h),(fun h=>absurd h HZ.out)⟩,by first|exact Below.refl _ _|exact (Below.refl _ _).drew⟩
structure nP (D:Dd)(f c:Nat)(tg:Nat->List Nat):Prop where
 mem:∀t,t<D.n->∀x,x∈tg t↔(x<f/\Ed D x t)\/(x=f/\f<D.n/\∃c',c'<c/\D.nx f c'=(t:Int))
 inc:∀t,t<D.n->(tg t).Pairwise (·<·)
theorem zgW(hp:l.Pairwise (·<·))(hle:∀x∈l,x<=f):l.getLast?=some f↔f∈l:=by
 constructor
 ·intro h;exact List.mem_of_getLast? h
 intro h;obtain⟨i,hi,e⟩:=List.getElem_of_mem h;have qK:i=l.length-1:=by
  refine Classical.byContradiction fun hne=>?_
  have h2:=(List.pairwise_iff_getElem.1 hp) i (i+1) hi (by omega) (by omega);have h3:=hle l[i+1] (getElem_mem (by omega));omega
 rw[List.getLast?_eq_getElem?];rw[<-qK,List.getElem?_eq_getElem hi,e]
theorem WJ(hp:l.Pairwise (·<·))(aw:∀x∈l,x<n):l.length<=n:=
 pW (hp.imp fun h=>by omega) aw
theorem nP.start(D:Dd):nP D 0 0 (fun _=>[]):=⟨fun t ht x=>⟨fun h=>by simp at h,fun h=>by rcases h with h|⟨_,_,c',h,_⟩ <;> omega⟩,fun t ht=>List.Pairwise.nil⟩
theorem nP.le{D:Dd}(h:nP D f c tg)(ht:t<D.n):∀x∈tg t,x<=f:=fun x hx=>by
 rcases (h.mem t ht x).1 hx with h1|h1
 ·omega
 ·omega
theorem nP.has{D:Dd}(h:nP D f c tg)(ht:t<D.n):(tg t).getLast?=some f↔f∈tg t:=zgW (h.inc t ht) (h.le ht)
theorem nP.skip{D:Dd}(h:nP D f c tg)(hx:D.nx f c<0\/∃t:Nat,D.nx f c=(t:Int)/\t<D.n/\f∈tg t):nP D f (c+1) tg:=by
 refine⟨fun t ht x=>?_,h.inc⟩;rw[h.mem t ht];constructor
 ·rintro (h1|⟨h1,h2,c',h3,h4⟩)
  ·exact inl h1
  exact inr ⟨h1,h2,c',by omega,h4⟩
 rintro (h1|⟨h1,h2,c',h3,h4⟩)
 ·exact inl h1
 by_cases e:c'=c
 ·subst e;rcases hx with hx|⟨t',e',sq,hm⟩
  ·omega
  have:t'=t:=by omega
  subst this;have:=(h.mem t' ht f).1 hm;subst h1;exact this
 exact inr ⟨h1,h2,c',by omega,h4⟩
theorem nP.put{D:Dd}(h:nP D f c tg)(hf:f<D.n)(hx:D.nx f c=(t:Int))(ht:t<D.n)(hm:f∉tg t):nP D f (c+1) (fun j=>if j=t then tg t++[f] else tg j):=by
 refine⟨fun t' sq x=>?_,fun t' sq=>?_⟩
 ·by_cases e:t'=t
  ·subst e;show x∈(if t'=t' then tg t'++[f] else tg t')↔_;rw[if_pos rfl,mem_append,mem_singleton,h.mem t' sq];constructor
   ·rintro ((h1|⟨h1,h2,c',h3,h4⟩)|h1)
    ·exact inl h1
    ·exact inr ⟨h1,h2,c',by omega,h4⟩
    exact inr ⟨h1,hf,c,by omega,hx⟩
   rintro (h1|⟨h1,h2,c',h3,h4⟩)
   ·exact inl (inl h1)
   exact inr h1
  simp only[if_neg e];rw[h.mem t' sq];constructor
  ·rintro (h1|⟨h1,h2,c',h3,h4⟩)
   ·exact inl h1
   exact inr ⟨h1,h2,c',by omega,h4⟩
  rintro (h1|⟨h1,h2,c',h3,h4⟩)
  ·exact inl h1
  by_cases e2:c'=c
  ·subst e2;omega
  exact inr ⟨h1,h2,c',by omega,h4⟩
 by_cases e:t'=t
 ·subst e;show List.Pairwise _ (if t'=t' then tg t'++[f] else tg t');rw[if_pos rfl,List.pairwise_append];refine⟨h.inc t' sq,by simp,fun a ha b hb=>?_⟩;rw[List.mem_singleton.1 hb];have h1:=h.le sq a ha;have h2:a≠f:=fun e=>by rw[e] at ha;exact hm ha
  omega
 simp only[if_neg e];exact h.inc t' sq
theorem nP.row{D:Dd}{C:Nat}(h:nP D f c tg)(hf:f<D.n)(hc:D.len f=c):nP D (f+1) 0 tg:=by
 refine⟨fun t ht x=>?_,h.inc⟩;rw[h.mem t ht];constructor
 ·rintro (h1|⟨h1,h2,c',h3,h4⟩)
  ·exact inl ⟨by omega,h1.2⟩
  subst h1;exact inl ⟨by omega,hf,c',by omega,h4⟩
 rintro (⟨h1,h2⟩|⟨_,_,c',h3,_⟩)
 ·by_cases e:x=f
  ·subst e;obtain⟨_,c',h3,h4⟩:=h2;exact inr ⟨rfl,hf,c',by omega,h4⟩
  exact inl ⟨by omega,h2⟩
 omega
def Yt(D:Dd)(w:World)(e:Ending)(w':World):Prop:=
 ∃(g:Nat) (A:Nat->Option Addr) (Cp:Nat->Nat) (tg:Nat->List Nat),e=.returned (.slice (some ⟨g,0,none⟩) D.n D.n)/\mX w' (some ⟨g,0,none⟩) D.n A Cp (fun i=>(tg i).length) (fun i c=>(((tg i).getD c 0:Nat):Int))/\nP D D.n 0 tg/\Below w.heap.size w w'
theorem ic.zs{w3 wq:World}{gT:Nat}{vs:Nat->Value}(h:ic w3 B gT C vs tg wq):mX wq (some ⟨gT,0,none⟩) C (fun i=>uT (vs i)) (fun i=>xV (vs i)) (fun i=>(tg i).length) (fun i c=>(((tg i).getD c 0:Nat):Int)):=by
 intro h0;have aw:gT<wq.heap.size:=by
  have:=(h.ig.cell 0 h0).1;by_cases hb:gT<wq.heap.size
  ·exact hb
  simp[World.cell?,Array.getElem?_eq_none (by omega:wq.heap.size<=gT)] at this
 refine⟨gT,0,rfl,aw,fun i hi=>?_⟩;obtain⟨ai,ci,e⟩:=bF (h.ig.2.1 i hi);have hr:=h.ig.2.1 i hi;refine⟨?_,?_⟩
 ·rw[Nat.zero_add,(h.ig.cell i hi).1];simp[e,uT,xV]
 show lb wq (uT (vs i)) _ _;rw[e] at hr⊢;exact uj hr rfl
theorem zgX(D:Dd)(C:Nat)(w:World)(hD:DM w D)(hR:DR D C):
  Calls prog 158 #[.agg D.cD] w (Yt D w):=by
 have iZ:=VB D.n (by have:=hR.n2;omega);have dj:=hR.n2;have fA:=hR.n1;have Ah:=(hR.ke hD.kl).2;have HB:=hid (Zz (dc.new hD) (Zz (al w (.cells D.cD 101)) hR));obtain⟨iI,hI,pT,qd,qb⟩:=info_parts az;clear hD hR;go_enter func158,ntmps158;go_upto_region 1 with fail;generalize w.alloc (.cells D.cD 101)=W0 at HB⊢;obtain⟨b0,bc⟩:∃b0,w.heap.size=b0:=⟨_,rfl⟩
 rw[bc] at HB;rw[bc];have dO:=hid bc;clear bc;have f1:=HB.out.1.f1;have va:ic (W0.alloc (.cells (madeCells #[.slice none 0 0] D.n) 43)) W0.heap.size W0.heap.size D.n (fun _=>.slice none 0 0) (fun _=>[]) (W0.alloc (.cells (madeCells #[.slice none 0 0] D.n) 43)):=ic.made W0 W0.heap.size D.n _ (le_refl _) (Below.refl _ _);have jy:=hid va;have pH:=hid (al W0 (.cells (madeCells #[.slice none 0 0] D.n) 43));clear va;go_upto_region 2 with fail;obtain⟨gT,AK⟩:∃gT,W0.heap.size=gT:=⟨_,rfl⟩
 have OE:=hid AK;rw[AK] at jy;rw[AK];generalize W0.alloc (.cells (madeCells #[.slice none 0 0] D.n) 43)=W1 at jy pH⊢;clear AK f1;have Gw:=hid (HB.out.1.aa pH.out);have f1:=Gw.out.f1;obtain⟨gN,oN,eN,mC,qE⟩:=Gw.out.dm.rN (by omega);rw[eN] at f1;have Av:=hid eN;have uy:=hid qE;clear eN qE;go_wp2_with fail;clear f1;go_loopw [4,5,7,15,22] (fun _ _ _ v _ wr=>∃(f:Nat) (vs:Nat->Value) (tg:Nat->List Nat),v=.int .i64 f/\f<=D.n/\Hid (ic W1 gT gT D.n vs tg wr/\nP D f 0 tg)) (fun _ _ _ v _ _=>D.n-(intOf v).toNat)
 ·exact⟨0,_,_,rfl,by omega,⟨jy.out,nP.start D⟩⟩
 clear jy;obtain⟨f,vs,tg,rfl,hf,HX⟩:=hrel;by_cases aw:f<D.n
 ·have fw:gN<gT:=by
   obtain⟨g,o,e,hg,_⟩:=HB.out.1.dm.rN (by omega);rw[Av.out] at e;injection e with e;injection e with e _;rw[OE.out] at hg;omega
  have cN:=(HX.out.1.below.cell (p:=⟨gN,oN+f,none⟩) fw).trans (uy.out f aw).1;have JB:Hid (lb W0 (D.A f) (D.len f) (D.nx f)):=by
   obtain⟨_,_,_,_,c9⟩:=HB.out.1.dm.rN (by omega);exact (c9 f aw).2
  have hlen:=HB.out.2.2.len f aw;rw[hlen] at cN;rw[hlen] at JB;have wY:=hid hlen;have i1:(f:Int)<(D.n:Int):=by omega
  try dsimp only at cN
  clear hlen fw;go_wp2_with fail;clear cN;go_loopw [7,22] (fun _ v wr=>∃(c:Nat) (vs:Nat->Value) (tg:Nat->List Nat),v=.int .i64 c/\c<=C/\Hid (ic W1 gT gT D.n vs tg wr/\nP D f c tg)) (fun _ v _=>C-(intOf v).toNat)
  ·exact⟨0,vs,tg,rfl,by omega,HX⟩
  clear HX;obtain⟨c,vs,tg,rfl,hc,HX⟩:=hrel;have Kv:Hid (Below W0.heap.size W0 wr):=by
   have h:=HX.out.1.below;rw[<-OE.out] at h;exact pH.out.trans h
  by_cases uf:c<C
  ·obtain⟨gA,oA,eA,_,oU⟩:=(JB.out.below Kv.out) (by omega);have cA:=oU c uf;have hb:=HB.out.2.2.nx f c aw uf;have IS:=hid (fun h=>HX.out.2.skip h);have UO:=hid (fun (t:Nat) h1 h2 h3=>HX.out.2.put (t:=t) aw h1 h2 h3);have i2:(c:Int)<C:=(by omega);rw[eA];have LO:=hid eA;clear oU eA;generalize D.nx f c=t at cA hb IS UO;by_cases ht:t=-1
   ·subst ht;have HZ:=hid (IS.out (inl (by omega)));go_wp2;go_roundw
    ·exact⟨c+1,vs,tg,by go_num,by omega,⟨HX.out.1,HZ.out⟩⟩
    simp[intOf];omega
   obtain⟨u,rfl⟩:∃u:Nat,t=(u:Int):=(⟨t.toNat,by omega⟩);have hu:u<D.n:=(by omega);have i3:(u:Int)<(D.n:Int):=(by omega);have KU:((u:Int) != (-1:Int))=true:=(by first|(simp;done)|(simp;omega));obtain⟨y0,y1⟩:=HX.out.1.ig.cell u hu;have Ri:=HX.out.1.ig.2.1 u hu;obtain⟨au,cu,Kl⟩:=bF Ri;have tx:(tg u).length<=D.n:=WJ (HX.out.2.inc u hu) (fun x hx=>by have:=HX.out.2.le hu x hx;omega);rw[Kl] at y0;have BM:=Ri;rw[Kl] at BM;have z7:=hid (zf2 (tg u) f (tg u).length cu au rfl (by omega) wr (uj BM rfl));have Fw:=hid Kl;clear Ri BM Kl ht;obtain⟨q,hq⟩:∃q,(tg u).length=q:=(⟨_,rfl⟩);have Hq:=hid hq;dsimp only at y0;rw[hq] at y0 z7 tx;clear hq;go_wp2_with fail;refine z7.out.mono ?_;rintro e w5 ⟨b,rfl,jE,k5⟩;have Fo:=hid (HX.out.1.aa k5);have I1:Hid (b=true↔f∈tg u):=by
    show _↔_;rw[jE,HX.out.2.has hu]
   clear jE k5 z7 y0 y1;rcases b with _|_
   ·have HN:Hid (f∉tg u):=(fun h=>by have:=I1.out.2 h;cases this);have HZ:=hid (UO.out u rfl hu HN.out);obtain⟨y0,y1⟩:=Fo.out.ig.cell u hu;rw[Fw.out] at y0;have hO:=Fo.out.ig.2.1 u hu;dsimp only at hO y0;rw[Fw.out,Hq.out] at hO;rw[Hq.out] at y0;go_wp2_with (at_builtin;refine wpList_append_own_at _ rfl _ _ 43 rfl W1.heap.size 3 iI (.int .i64 0) 1 8 underlying43 hI pT qd qb rfl (by decide) _ _ _ rfl (hO.alloc _) ⟨w5.heap.size,0,none⟩ 1 1 [.int .i64 (f:Int)] rfl rfl (cell_one_new _ _ _) ?d2 ?d3 ?d4 ?d5 ?_)
    case d2=>first|(intro u hu;simp at hu;subst hu;rfl)|rfl
    case d3=>unfold maxLen;omega
    case d4=>omega
    case d5=>have:=Fo.out.below.size;simp;omega
    intro v6 w6 an af _ bH;have kk:=al w5 (.cells #[.int .i64 (f:Int)] 3);have pO:=hid ((Fo.out.aa kk).app hu Hq.out (v':=v6) (t:=f) (by exact an) (by rw[Fw.out,Hq.out];exact af) (fun b e=>by
     rcases bH with h|h
     ·rw[h] at e
      refine inl ?_
      rw[Fw.out,Hq.out]
      exact e
     ·rw[h] at e
      refine inr ?_
      simp at e
      simp
      omega))
    obtain⟨a6,c6,rfl⟩:=bF an;have fQ:=af;obtain⟨z0,z1⟩:w6.cell? ⟨gT,u,none⟩=some (vs u)/\w6.frozen? ⟨gT,u,none⟩=false:=by
     have tf:=(Fo.out.aa kk).ig;have hs:=tf.1.ag (tf.2.1 u hu) (by decide) (by rw[Fw.out,Hq.out];exact fQ);exact⟨by rw[hs.at_];simp[hu],hs.ba u⟩
    clear an af bH hO kk fQ y0 y1;go_wp2;go_roundw
    ·exact⟨c+1,_,_,by go_num,by omega,⟨pO.out,HZ.out⟩⟩
    simp[intOf];omega
   have HZ:=hid (IS.out (inr ⟨u,rfl,hu,I1.out.1 rfl⟩));go_wp2;go_roundw
   ·exact⟨c+1,vs,tg,by go_num,by omega,⟨Fo.out,HZ.out⟩⟩
   simp[intOf];omega
  obtain rfl:c=C:=by omega
  have HZ:=hid (HX.out.2.row (C:=c) aw wY.out);go_wp2;go_roundw
  ·exact⟨f+1,vs,tg,by go_num,by omega,⟨HX.out.1,HZ.out⟩⟩
  simp[intOf];omega
 obtain rfl:f=D.n:=by omega
 have HF:Hid (Yt D w (.returned (.slice (some ⟨gT,0,none⟩) D.n D.n)) wr):=by
  refine⟨gT,_,_,tg,rfl,HX.out.1.zs,HX.out.2,?_⟩;have h:=HX.out.1.below;rw[<-OE.out] at h;have h0:=HB.out.2.1;rw[<-dO.out] at h0;exact h0.trans ((pH.out.trans h).mono h0.size)
 go_wp2;go_ret;exact HF.out
theorem zmU{w:World}(h:w.ownsRow B 3 1 (.slice a q c) q xs)(ha:a=none):q=0/\c=0:=by
 subst ha;rcases h.2 with ⟨h1,h2⟩|⟨g,cap,cur,hv,_⟩
 ·injection h1 with _ h3 h4;exact⟨h3,h4⟩
 injection hv with h1 _ _;cases h1
theorem zmV{w:World}{ad:Addr}(h:w.ownsRow B 3 1 (.slice a q c) q xs)(ha:a=some ad):ad.spot=none:=by
 subst ha;rcases h.2 with ⟨h1,h2⟩|⟨g,cap,cur,hv,_⟩
 ·injection h1 with h3 _ _;cases h3
 injection hv with h1 _ _;injection h1 with h1;rw[h1]
theorem zoM{D:Dd}(h:nP D D.n 0 tg)(i:Nat)(hi:i<D.n):(tg i).length<=D.n:=WJ (h.inc i hi) (fun x hx=>by
 rcases (h.mem i hi x).1 hx with h1|⟨_,_,c',h3,_⟩
 ·exact h1.1
 ·omega)
theorem zpE{D:Dd}(h:nP D D.n 0 tg)(i c:Nat)(hi:i<D.n)(hc:c<(tg i).length):-1<=(((tg i).getD c 0:Nat):Int)/\(((tg i).getD c 0:Nat):Int)<(D.n:Int):=by
 have e:(tg i).getD c 0=(tg i)[c]:=by simp[getD_eq_getElem?_getD,hc]
 rw[e];rcases (h.mem i hi _).1 (getElem_mem hc) with h1|⟨_,_,c',h3,_⟩
 ·have:=h1.1;omega
 omega
theorem zoN{D:Dd}(hR:DR D C)(h:nP D D.n 0 tg)(hl:∀x,x∈l↔x<D.n/\0<=D.q x)(x:Nat)(hx:x<D.n):kq (WE (av (fun i=>(tg i).length) (fun i c=>(((tg i).getD c 0:Nat):Int)))) (fun y=>y∈l) x↔vd D x:=by
 have mem:∀x y,WE (av (fun i=>(tg i).length) (fun i c=>(((tg i).getD c 0:Nat):Int))) x y↔y∈tg x:=fun x y=>by
  unfold WE av;constructor
  ·intro h;obtain⟨c,hc,e⟩:=List.mem_map.1 h;have jf:c<(tg x).length:=(by simpa using hc);have e2:(tg x).getD c 0=(tg x)[c]:=(by simp[getD_eq_getElem?_getD,jf]);have e1:(((tg x).getD c 0:Nat):Int)=(y:Int):=e;have e3:(tg x)[c]=y:=(by rw[<-e2];omega);rw[<-e3];exact getElem_mem jf
  intro h;obtain⟨c,hc,e⟩:=List.getElem_of_mem h;refine List.mem_map.2 ⟨c,by simpa using hc,?_⟩;simp[getD_eq_getElem?_getD,hc,e]
 have ed:∀x,x<D.n->∀y,y∈tg x↔Ed D y x:=fun x hx y=>by
  rw[h.mem x hx];constructor
  ·rintro (h1|⟨_,_,c',h3,_⟩)
   ·exact h1.2
   omega
  exact fun h1=>inl ⟨h1.1,h1⟩
 have e1:kq (WE (av (fun i=>(tg i).length) (fun i c=>(((tg i).getD c 0:Nat):Int)))) (fun y=>y∈l) x↔kq (fun a b=>Ed D b a) (fun y=>y<D.n/\0<=D.q y) x:=by
  constructor
  ·intro h;have:kq (fun a b=>Ed D b a) (fun y=>y<D.n/\0<=D.q y) x/\x<D.n:=by
    clear hx
    induction h with
    | base h=>exact⟨.base ((hl _).1 h),((hl _).1 h).1⟩
    | step _ e ih=>
     have h2:=(ed _ ih.2 _).1 ((mem _ _).1 e);exact⟨.step ih.1 h2,h2.1⟩
   exact this.1
  intro h;have:kq (WE (av (fun i=>(tg i).length) (fun i c=>(((tg i).getD c 0:Nat):Int)))) (fun y=>y∈l) x/\x<D.n:=by
   clear hx
   induction h with
   | base h=>exact⟨.base ((hl _).2 h),h.1⟩
   | step _ e ih=>exact⟨.step ih.1 ((mem _ _).2 ((ed _ ih.2 _).2 e)),e.1⟩
  exact this.1
 rw[e1,zmQ];constructor
 ·rintro⟨k,h1,h2⟩;exact⟨k,h1,h2.2⟩
 rintro⟨k,h1,h2⟩;exact⟨k,h1,kq.lt (fun y hy=>by rw[hy];exact hx) hR.ed h1,h2⟩
theorem zk7(D:Dd)(C:Nat)(w:World)(hD:DM w D)(hR:DR D C):
  Calls prog 127 #[.agg D.cD] w (Mq D.n (vd D) w):=by
 have dj:=hR.n2;have fA:=hR.n1;have nV:=hR.m;have Ah:=(hR.ke hD.kl).2;have HB:=hid (Zz (dc.new hD) (Zz (al w (.cells D.cD 101)) hR));obtain⟨iI,hI,pT,qd,qb⟩:=info_parts az;clear hD hR;go_enter func127,ntmps127;go_upto_region 1 with fail;generalize w.alloc (.cells D.cD 101)=W0 at HB⊢;obtain⟨b0,bc⟩:∃b0,w.heap.size=b0:=⟨_,rfl⟩
 rw[bc] at HB;rw[bc];have dO:=hid bc;have Ge:b0<=W0.heap.size:=by have:=HB.out.2.1.size;omega
 clear bc;have sY:=hid (Jc D C HB.out.2.2 W0 HB.out.1.dm);go_wp2_with (refine oa (by rfl) 101 _ rfl ⟨b0,0,none⟩ rfl D.cD _ HB.out.1.st.part underlying101 rfl HB.out.1.dm.info ?_);refine sY.out.mono ?_;rintro e w2 ⟨rfl,b1⟩;have H2:=hid (Zz (HB.out.1.aa b1) (HB.out.2.1.trans (b1.mono Ge)));have cv:b0<=w2.heap.size:=by have:=b1.size;omega
 clear b1 sY;have BS:Hid (∀W',Below w2.heap.size w2 W'->Below w.heap.size w W'):=fun W' h=>by
  rw[dO.out];exact H2.out.2.trans (h.mono cv)
 have bQ:Hid (w.heap.size<=w2.heap.size):=by show _<=_;rw[dO.out];exact cv
 have f2:=H2.out.1.f2;obtain⟨gM,oM,eM,r9,nA⟩:=H2.out.1.dm.rM (by omega);rw[eM,nV] at f2;have MF:=hid nA;have YM:=hid eM;have KB:=hid nV;clear eM nA nV;go_wp2_with fail;clear f2;go_loopw [3,4,5,12] (fun v3 _ _ v wr=>∃(k p:Nat) (l:List Nat) (a:Option Addr) (c:Nat),v=.int .i64 k/\k<=D.n/\p<=k/\v3=.slice a p c/\Hid (l.length=p/\l.Nodup/\(∀x,x∈l↔x<k/\0<=D.q x)/\wr.ownsRow w2.heap.size 3 1 (.slice a p c) p (cy l)/\Below w2.heap.size w2 wr)) (fun _ _ _ v _=>D.n-(intOf v).toNat)
 ·exact⟨0,0,[],none,0,rfl,by omega,by omega,rfl,⟨rfl,by simp,fun x=>by simp,World.ownsRow_nil _ _ _ _,Below.refl _ _⟩⟩
 obtain⟨k,p,l,a,c,rfl,hk,hp,rfl,HX⟩:=hrel;by_cases aw:k<D.n
 ·have cM:=(HX.out.2.2.2.2.cell (p:=⟨gM,oM+k,none⟩) r9).trans (MF.out k (by rw[KB.out];exact aw));have hq:=HB.out.2.2.q k aw;have i1:(k:Int)<(D.n:Int):=by omega
  have HS:Hid (∀l',(l'=l/\D.q k<0)\/(l'=l++[k]/\0<=D.q k)->l'.Nodup/\∀x,x∈l'↔x<k+1/\0<=D.q x):=fun l' h=>by
   rcases h with ⟨rfl,h⟩|⟨rfl,h⟩
   ·refine⟨HX.out.2.1,fun x=>?_⟩;rw[HX.out.2.2.1];constructor
    ·rintro⟨h1,h2⟩;exact⟨by omega,h2⟩
    rintro⟨h1,h2⟩;by_cases e:x=k
    ·subst e;omega
    exact⟨by omega,h2⟩
   refine⟨?_,fun x=>?_⟩
   ·rw[nodup_append];exact⟨HX.out.2.1,by simp,fun a ha b hb e=>by
     rw[List.mem_singleton.1 hb] at e
     rw[e] at ha
     have:=((HX.out.2.2.1 k).1 ha).1
     omega⟩
   rw[mem_append,mem_singleton,HX.out.2.2.1];constructor
   ·rintro (⟨h1,h2⟩|h1)
    ·exact⟨by omega,h2⟩
    subst h1;exact⟨by omega,h⟩
   rintro⟨h1,h2⟩;by_cases e:x=k
   ·exact inr e
   exact inl ⟨by omega,h2⟩
  try dsimp only at cM
  generalize D.q k=y at cM hq HS;by_cases hy:y=-1
  ·subst hy;have HZ:=hid (HS.out l (inl ⟨rfl,by omega⟩));go_wp2;go_roundw
   ·exact⟨k+1,p,l,a,c,by go_num,by omega,by omega,rfl,⟨HX.out.1,HZ.out.1,HZ.out.2,HX.out.2.2.2.1,HX.out.2.2.2.2⟩⟩
   simp[intOf];omega
  have HZ:=hid (HS.out (l++[k]) (inr ⟨rfl,by omega⟩));have Ba:(y != (-1:Int))=true:=by simp[hy]
  have hO:=HX.out.2.2.2.1;go_wp2_with (at_builtin;refine wpList_append_own_at _ rfl _ _ 43 rfl w2.heap.size 3 iI (.int .i64 0) 1 8 underlying43 hI pT qd qb rfl (by decide) _ _ _ rfl (hO.alloc _) ⟨wr.heap.size,0,none⟩ 1 1 [.int .i64 (k:Int)] rfl rfl (cell_one_new _ _ _) ?d2 ?d3 ?d4 ?d5 ?_)
  case d2=>first|(intro u hu;simp at hu;subst hu;rfl)|rfl
  case d3=>unfold maxLen;omega
  case d4=>omega
  case d5=>have:=HX.out.2.2.2.2.size;simp;omega
  intro v5 w5 ak aj _ bg;obtain⟨a5,c5,rfl⟩:=bF ak;have nY:=HX.out.2.2.2.2.size;have kk:=al wr (.cells #[.int .i64 (k:Int)] 3);have HY:Hid (w5.ownsRow w2.heap.size 3 1 (.slice a5 (p+1) c5) (p+1) (cy (l++[k]))/\Below w2.heap.size w2 w5):=⟨by rw[x8];exact ak,fH (HX.out.2.2.2.2.trans (kk.mono nY)) (hO.alloc _) (le_trans nY kk.size) aj⟩
  clear ak aj bg hO kk;go_wp2;go_roundw
  ·exact⟨k+1,p+1,l++[k],a5,c5,by go_num,by omega,by omega,rfl,⟨by rw[length_append,HX.out.1];rfl,HZ.out.1,HZ.out.2,HY.out.1,HY.out.2⟩⟩
  simp[intOf];omega
 obtain rfl:k=D.n:=by omega
 have Kv:=hid (H2.out.1.aa HX.out.2.2.2.2);have qa:=hid (fun (W':World) (h:Below wr.heap.size wr W')=>BS.out W' (HX.out.2.2.2.2.trans (h.mono HX.out.2.2.2.2.size)));have Q2:Hid (w.heap.size<=wr.heap.size):=le_trans bQ.out HX.out.2.2.2.2.size;have dz:Hid (∀W',Below wr.heap.size wr W'->Below wr.heap.size wr W'/\dc W' b0 D/\W'.cell? ⟨b0,256,none⟩=some (.slice D.aN D.n D.cN)):=fun W' h=>⟨h,Kv.out.aa h,(Kv.out.aa h).f1⟩
 go_upto_region 10 with fail;refine wp_region_held_drew (S:=fun W'=>Below wr.heap.size wr W'/\dc W' b0 D/\W'.cell? ⟨b0,256,none⟩=some (.slice D.aN D.n D.cN)) (by kernel_rfl) (dz.out _ (Below.refl _ _).drew) (fun hHeld=>?_)
 (refine aq 0 ?_;refine aq 1 ?_;refine aq 2 ?_)
 (refine aq 3 (v:=.agg D.cD) ?_ (hy:=by intro wz hSw;exact Cm (o:=_) (ρ:=_) wz 101 (.tmp 1) rfl ⟨b0,0,none⟩ rfl D.cD _ (dc.st (And.left (And.right hSw))).part underlying101 rfl (dc.dm (And.left (And.right hSw))).info))
 (refine aq 5 ?_;try simp only[Act.put,sA,sB,sC])
 refine aQ 4 (fun K hK=>?_);skip;go_simp;go_at_call 158;refine (zgX D C _ hHeld.2.1.dm HB.out.2.2).mono ?_;rintro e w5 ⟨gS,AS,CS,tg,rfl,ZC,Pu,b5⟩;have kT:Below wr.heap.size wr w5:=hHeld.1.trans (b5.mono hHeld.1.size);clear b5
 try go_wp2_with fail
 refine hK.out _ _ (dz.out _ kT) (fun hHeld=>?_);clear hK K
 try simp only[Act.put,sA,sB,sC]
 refine aQ 6 (fun K hK=>?_);skip;go_simp;go_at_call 124;refine (Ze D.n D.n (some ⟨gS,0,none⟩) AS CS (fun i=>(tg i).length) (fun i c=>(((tg i).getD c 0:Nat):Int)) l a p c (by omega) (fun i hi=>by have:=zoM Pu i hi;omega) (fun i c hi hc=>zpE Pu i c hi hc) HX.out.1 HX.out.2.1 (fun x hx=>((HX.out.2.2.1 x).1 hx).1) w5 ZC (nH.below (uj HX.out.2.2.2.1 HX.out.1) kT) (fun h=>zmU HX.out.2.2.2.1 h) (fun ad h=>zmV HX.out.2.2.2.1 h)).mono ?_;rintro e w7 ⟨l9,i,ad,c9,rfl,YD,D5,pR,oz,iE,b7⟩;have aJ:Below wr.heap.size wr w7:=kT.trans (b7.mono kT.size);have kI:=hid (Zz YD aJ);clear YD b7
 try go_wp2_with fail
 refine hK.out _ _ (dz.out _ aJ) (fun hHeld=>?_);clear hK K aJ
 try simp only[Act.put,sA,sB,sC]
 refine aQ 7 (fun K hK=>?_);skip;go_simp;go_at_call 157;refine (Zd D.n l9 ad i c9 pR (by omega) (by omega) iE _ (uj kI.out.1 pR)).mono ?_;rintro e w8 ⟨f8,a8,c8,rfl,Wv,gq,b8⟩;have aJ:Below wr.heap.size wr w8:=kI.out.2.trans (b8.mono kI.out.2.size);have Rs:=kI.out.2.size;have HF:Hid (Mq D.n (vd D) w (.returned (.slice a8 D.n c8)) w8):=⟨f8,a8,c8,rfl,jF Wv (le_trans Q2.out Rs),fun x hx=>by
  rw[gq x hx]
  show x∈l9↔_
  rw[D5,TS _ _ (by rw[<-D5];exact pR)]
  exact zoN HB.out.2.2 Pu (fun y=>HX.out.2.2.1 y) x hx,qa.out _ aJ⟩
 clear Wv gq b8
 try go_wp2_with fail
 refine hK.out _ _ (dz.out _ aJ) (fun hHeld=>?_);clear hK K aJ
 try simp only[Act.put,sA,sB,sC]
 (refine aq 8 ?_;try simp only[Act.put,sA,sB,sC])
 refine wpAnyH_done (by kernel_rfl) ?_ _;clear hHeld;go_wp2;go_ret;exact HF.out
def df(K:Nat->Nat)(vN vK:Value):Array Value:=(((range 256).map fun j=>Value.int .u8 ((K j:Nat):Int))++[vN,vK]).toArray
theorem mw(K:Nat->Nat)(vN vK:Value):(df K vN vK).size=258:=by simp[df]
theorem zU(K:Nat->Nat)(vN vK:Value)(j:Nat)(hj:j<256):(df K vN vK)[j]?=some (.int .u8 ((K j:Nat):Int)):=by
 simp[df,getElem?_append,hj]
theorem qe(K:Nat->Nat)(vN vK:Value):(df K vN vK)[256]?=some vN:=by simp[df,getElem?_append]
theorem yv(K:Nat->Nat)(vN vK:Value):(df K vN vK)[257]?=some vK:=by simp[df,getElem?_append]
theorem xe(K:Nat->Nat)(a b:Option Addr)(n c m d:Nat):∀v∈(df K (.slice a n c) (.slice b m d)).toList,v.oneCell'=true:=by
 intro v hv;simp[df] at hv;rcases hv with ⟨j,_,rfl⟩|rfl|rfl <;> rfl
theorem Cd(K:Nat->Nat)(vN vK:Value)(cs:Array Value)(hs:cs.size=258)(h1:∀j,j<256->cs[j]?=some (.int .u8 ((K j:Nat):Int)))(h2:cs[256]?=some vN)(h3:cs[257]?=some vK):cs=df K vN vK:=by
 apply Array.ext_getElem?;intro i;by_cases a:i<256
 ·rw[h1 i a,zU K vN vK i a]
 by_cases b:i=256
 ·subst b;rw[h2,qe]
 by_cases c:i=257
 ·subst c;rw[h3,yv]
 rw[Array.getElem?_eq_none (by omega),Array.getElem?_eq_none (by rw[mw];omega)]
theorem TD(K:Nat->Nat)(vN vK v:Value):(df K vN vK).setIfInBounds 256 v=df K v vK:=by
 refine Cd K v vK _ (by rw[Array.size_setIfInBounds,mw]) (fun j hj=>?_) ?_ ?_
 ·rw[Array.getElem?_setIfInBounds_ne (by omega),zU K vN vK j hj]
 ·rw[Array.getElem?_setIfInBounds_self_of_lt (by rw[mw];omega)]
 rw[Array.getElem?_setIfInBounds_ne (by omega),yv]
theorem zmW(K:Nat->Nat)(vN vK v:Value):(df K vN vK).setIfInBounds 257 v=df K vN v:=by
 refine Cd K vN v _ (by rw[Array.size_setIfInBounds,mw]) (fun j hj=>?_) ?_ ?_
 ·rw[Array.getElem?_setIfInBounds_ne (by omega),zU K vN vK j hj]
 ·rw[Array.getElem?_setIfInBounds_ne (by omega),qe]
 rw[Array.getElem?_setIfInBounds_self_of_lt (by rw[mw];omega)]
theorem Sl(K:Nat->Nat)(W:World):(build 101 #[(0,.agg (aY K))]).run prog W=.ok (.agg (df K (.slice none 0 0) (.slice none 0 0))) W:=by
 have e:prog.built 101 [(0,.agg (aY K))]=fill (fun i=>#[(0,256),(256,1),(257,1)][i]?) (zC 101) [(0,.agg (aY K))]:=by kernel_rfl
 have hz:=jA;have hs:=LG K;obtain⟨p1,p2⟩:=xZ (zC 101) (aY K) 0 (by rw[hz];omega);rw[ym _ _ 0 0 256 (.agg (aY K)) [] (by rfl) hs (by rw[hz];omega)] at e;obtain⟨d1,d2⟩:=E3;have e2:putAt (zC 101) (aY K) 0=df K (.slice none 0 0) (.slice none 0 0):=Cd _ _ _ _ (by rw[p1,hz]) (fun j hj=>by rw[p2,if_pos ⟨by omega,by omega⟩];exact Ei K j hj) (by rw[p2,if_neg (by omega),d1]) (by rw[p2,if_neg (by omega),d2]);have e3:(Value.agg (aY K)).cells=aY K:=rfl;rw[e3,e2] at e;exact run_build W _ _ _ e
theorem Td(K:Nat->Nat)(a:Option Addr)(n c:Nat)(W:World):(build 101 #[(0,.agg (aY K)),(2,.slice a n c)]).run prog W=.ok (.agg (df K (.slice none 0 0) (.slice a n c))) W:=by
 have e:prog.built 101 [(0,.agg (aY K)),(2,.slice a n c)]=fill (fun i=>#[(0,256),(256,1),(257,1)][i]?) (zC 101) [(0,.agg (aY K)),(2,.slice a n c)]:=by kernel_rfl
 have hz:=jA;have hs:=LG K;obtain⟨p1,p2⟩:=xZ (zC 101) (aY K) 0 (by rw[hz];omega);rw[ym _ _ 0 0 256 (.agg (aY K)) _ (by rfl) hs (by rw[hz];omega)] at e;obtain⟨d1,d2⟩:=E3;have e2:putAt (zC 101) (aY K) 0=df K (.slice none 0 0) (.slice none 0 0):=Cd _ _ _ _ (by rw[p1,hz]) (fun j hj=>by rw[p2,if_pos ⟨by omega,by omega⟩];exact Ei K j hj) (by rw[p2,if_neg (by omega),d1]) (by rw[p2,if_neg (by omega),d2]);have e3:(Value.agg (aY K)).cells=aY K:=rfl;rw[e3,e2] at e;have hd:=mw K (.slice none 0 0) (.slice none 0 0);obtain⟨q1,q2⟩:=xZ (df K (.slice none 0 0) (.slice none 0 0)) #[.slice a n c] 257 (by rw[hd];simp);rw[ym _ _ 2 257 1 (.slice a n c) [] (by rfl) (by rfl) (by rw[hd];omega)] at e;have e4:putAt (df K (.slice none 0 0) (.slice none 0 0)) #[.slice a n c] 257=df K (.slice none 0 0) (.slice a n c):=by
  simp only[List.size_toArray,List.length_cons,List.length_nil] at q2;refine Cd _ _ _ _ (by rw[q1,hd]) (fun j hj=>by rw[q2,if_neg (by omega),zU _ _ _ j hj]) (by rw[q2,if_neg (by omega),qe]) (by rw[q2,if_pos (by omega)];rfl)
 have e5:(Value.slice a n c).cells=#[.slice a n c]:=rfl;rw[e5,e4] at e;exact run_build W _ _ _ e
structure gZ (W0:World)(b4:Nat)(K:Nat->Nat)(C:Nat)(vN:Value)(R:List (List Int))(ws:Nat->Value)(vK:Value)(ms:List Int)(w:World):Prop where
 aU:Below W0.heap.size W0 w
 st:St w 101 b4 (df K vN vK)
 next:bu w W0.heap.size 43 3 1 vN R.length ws (fun _=>C) (fun j=>ints (R.getD j []))
 ct:w.ownsRow W0.heap.size 3 1 vK ms.length (ints ms)
 sep:∀i,i<R.length->∀b,(ws i).ownBlock=some b->vK.ownBlock≠some b
 lo:W0.heap.size<=b4
section
variable {W0 : World}{b4 C : Nat}{K : Nat → Nat}{vN : Value}{R : List (List Int)}{ws : Nat → Value}{vK : Value}{ms : List Int}{w : World}
theorem gZ.aa{w1:World}(h:gZ W0 b4 K C vN R ws vK ms w)(k:Below w.heap.size w w1):gZ W0 b4 K C vN R ws vK ms w1:=
 ⟨h.aU.trans (k.mono h.aU.size),h.st.aa k,h.next.aa k,dp h.ct k,h.sep,h.lo⟩
theorem gZ.f1(h:gZ W0 b4 K C vN R ws vK ms w):w.cell? ⟨b4,256,none⟩=some vN:=by rw[h.st.at_,qe]
theorem gZ.f2(h:gZ W0 b4 K C vN R ws vK ms w):w.cell? ⟨b4,257,none⟩=some vK:=by rw[h.st.at_,yv]
theorem yZ{w:World}{cs:Array Value}{v:Value}(h:w.ownsRow B t 1 v n xs)(hs:St w 101 b4 cs)(ht:t≠101):(w.setCell ⟨b4,i,none⟩ u).ownsRow B t 1 v n xs:=
 fy (ts:=[]) (bs:=[b4]) h ((Kept.refl _ _ _).setCell _ _ (inl (by simp))) (by simp) (fun b e hm=>dG h hs ht b e (List.mem_singleton.1 hm))
theorem gZ.fT{vN':Value}{row:List Int}(h:gZ W0 b4 K C vN R ws vK ms w)(hu:w.ownsRow W0.heap.size 3 1 u C (ints row))(hs:∀i,i<R.length->∀b,(ws i).ownBlock=some b->u.ownBlock≠some b)(nY:∀b,u.ownBlock=some b->vK.ownBlock≠some b)(hq:R.length=q)
  (ho:w'.ownsRow W0.heap.size 43 1 vN' (q+1) ((range q).map ws++[u])) (hg:w.grownBy w' vN.ownBlock):gZ W0 b4 K C vN' (R++[row]) (fun j=>if j=q then u else ws j) vK ms (w'.setCell ⟨b4,256,none⟩ vN'):=by
 subst hq;have dC:St w' 101 b4 (df K vN vK):=h.st.ag h.next.own (by decide) hg
 have h1:bu w W0.heap.size 43 3 1 vN R.length ws (fun _=>C) (fun j=>ints ((R++[row]).getD j [])):=h.next.congr (fun i hi=>⟨rfl,by simp[getD_eq_getElem?_getD,List.getElem?_append_left hi]⟩)
 have h2:=h1.tz (v':=vN') (u:=u) (w':=w') (by decide) (by simpa [getD_eq_getElem?_getD] using hu) hs ho hg;have hm:w'.ownsRow W0.heap.size 3 1 vK ms.length (ints ms):=ri h.ct hg (fun b e e2=>gP h.ct h.next.own (by decide) b e e2.symm);refine⟨(fH h.aU h.next.own h.aU.size hg).setCell (p:=⟨b4,256,none⟩) h.lo _,?_,?_,yZ hm dC (by decide),?_,h.lo⟩
 ·have:=dC.set 256 vN';rwa [TD] at this
 ·rw[length_append];exact⟨yZ h2.own dC (by decide),fun i hi=>yZ (h2.row i hi) dC (by decide),h2.sep⟩
 intro i hi b e;by_cases e1:i=R.length
 ·rw[if_pos e1] at e;exact nY b e
 rw[if_neg e1] at e;exact h.sep i (by simp at hi;omega) b e
theorem gZ.mq{vK':Value}{m:Int}(h:gZ W0 b4 K C vN R ws vK ms w)(hq:ms.length=q)
  (ho:w'.ownsRow W0.heap.size 3 1 vK' (q+1) (ints ms++[.int .i64 m])) (hg:w.grownBy w' vK.ownBlock) (ew:vK'.ownBlock=vK.ownBlock\/vK'.ownBlock=some w.heap.size):
  gZ W0 b4 K C vN R ws vK' (ms++[m]) (w'.setCell ⟨b4,257,none⟩ vK'):=by
 subst hq;have dC:St w' 101 b4 (df K vN vK):=h.st.ag h.ct (by decide) hg;have hG:bu w' W0.heap.size 43 3 1 vN R.length ws (fun _=>C) (fun j=>ints (R.getD j [])):=
  ⟨ri h.next.own hg (fun b e e2=>gP h.next.own h.ct (by decide) b e e2.symm),fun i hi=>ri (h.next.row i hi) hg (fun b e e2=>h.sep i hi b e e2.symm),h.next.sep⟩
 refine⟨(fH h.aU h.ct h.aU.size hg).setCell (p:=⟨b4,257,none⟩) h.lo _,?_,⟨yZ hG.own dC (by decide),fun i hi=>yZ (hG.row i hi) dC (by decide),hG.sep⟩,?_,?_,h.lo⟩
 ·have:=dC.set 257 vK';rwa [zmW] at this
 ·have:=yZ (i:=257) (u:=vK') ho dC (by decide);rw[length_append];simpa [ints] using this
 intro i hi b e;rcases ew with e2|e2
 ·rw[e2];exact h.sep i hi b e
 rw[e2];intro e3;have:=lx (h.next.row i hi) b e;simp at e3;omega
end
def CW(D:Dd)(C n':Nat)(Fl:Nat->Nat->Int)(q':Nat->Int)(w:World)(e:Ending)(w':World):Prop:=
 ∃D':Dd,e=.returned (.agg D'.cD)/\DM w' D'/\D'.K=D.K/\D'.n=n'/\D'.m=n'/\(∀i,i<n'->D'.len i=C)/\(∀i,i<n'->∀c,c<C->D'.nx i c=Fl i c)/\(∀i,i<n'->D'.q i=q' i)/\Below w.heap.size w w'/\w'.ownsRow w.heap.size 3 1 (.slice D'.aM n' D'.cM) n' (ints ((range n').map q'))
theorem gZ.QN{D:Dd}{vN:Value}{R:List (List Int)}{vK:Value}{w:World}{n':Nat}{Fl:Nat->Nat->Int}{q':Nat->Int}(hk:∀j,j<256->D.K j<256)(h:gZ W0 b4 D.K C vN R ws vK ms wr)(hR:R.length=n')(pa:∀r∈R,r.length=C)(oc:ms=(range n').map q')
  (Fj:∀i,i<n'->∀c,c<C->(R.getD i []).getD c 0=Fl i c) (hw:w.heap.size<=W0.heap.size) (hb:Below wr.heap.size wr w'\/(∃b cs old,St wr 101 b old/\w'=wr.setRow b cs)) (hB:Below w.heap.size w w'):CW D C n' Fl q' w (.returned (.agg (df D.K vN vK))) w':=by
 obtain⟨aN,cN,rfl⟩:=bF h.next.own
 obtain⟨aK,cK,rfl⟩:=bF h.ct;have mT:ms.length=n':=by rw[oc];simp
 have ph:∀{B t n:Nat}{v:Value}{xs:List Value},t≠101->wr.ownsRow B t 1 v n xs->w'.ownsRow B t 1 v n xs:=fun {B t n v xs} ht ho=>by
  rcases hb with hb|⟨b,cs,old,hs,rfl⟩
  ·exact dp ho hb
  exact fy (ts:=[]) (bs:=[b]) ho (Iz wr b cs) (by simp) (fun g e hm=>dG ho hs ht g e (List.mem_singleton.1 hm))
 have dj:bu w' W0.heap.size 43 3 1 (.slice aN R.length cN) R.length ws (fun _=>C) (fun j=>ints (R.getD j [])):=⟨ph (by decide) h.next.own,fun i hi=>ph (by decide) (h.next.row i hi),h.next.sep⟩
 have pd:=ph (by decide) h.ct;refine⟨⟨df D.K (.slice aN R.length cN) (.slice aK ms.length cK),D.K,aN,R.length,cN,fun i=>uT (ws i),fun i=>xV (ws i),fun _=>C,fun i x=>(R.getD i []).getD x 0,aK,ms.length,cK,fun i=>ms.getD i 0⟩,rfl,
  ⟨mw _ _ _,xe _ _ _ _ _ _ _,fun j hj=>zU _ _ _ j hj,hk,qe _ _ _,yv _ _ _,dj.zs rfl pa,Ng pd rfl⟩,rfl,hR,mT,fun i hi=>rfl,Fj,fun i hi=>?_,hB,?_⟩
 ·show ms.getD i 0=_;rw[oc];simp[getD_eq_getElem?_getD,hi]
 show w'.ownsRow _ _ _ (.slice aK n' cK) n' _;rw[<-oc,<-mT];exact jF pd hw
theorem ko(w:World):w.drew.heap.size=w.heap.size:=rfl
theorem Ib(w:World)(o:Obj):(w.alloc o).heap.size=w.heap.size+1:=by simp
theorem XF{o:Oper}(w:World)(t:TypeId)(parts:Array (Nat × Operand))(ho:o.op=.build t parts)(ps:Array (Nat × Value))(hp:(parts.map fun (i,x)=>(i,ρ x))=ps)(v:Value)(hb:(build t ps).run P w=.ok v w):
  (execOp ρ o).run P w=.ok (.value v) w:=by
 unfold execOp;simp only[ho,hp,run_bind,hb,andThen_ok,run_pure]
theorem EM{o:Oper}{a:Act}{w:World}{K:Act->World->Prop}{Q:Exit->Act->World->Prop}{E:Prop}(qF:o.guard=none)(t:TypeId)(ho:o.op=.alloc t)(cs:Array Value)(hz:(zeroValue t).run P w=.ok (.agg cs) w)
  (h:K (a.put o.dst (.pointer (some ⟨w.heap.size,0,none⟩))) (w.alloc (.cells cs t))):if wanted o (yielded ops a.tmps)=true then Oper.wp P o a w K Q else E:=by
 have hw:wanted o (yielded ops a.tmps)=true:=by simp[wanted,qF]
 rw[if_pos hw];unfold Oper.wp execOp;simp only[ho,Instr.alloc,run_bind,hz,andThen_ok,newVar,newRow,newObj,Value.cells];exact h
theorem EJ{o:Oper}{a:Act}{w:World}{K:Act->World->Prop}{Q:Exit->Act->World->Prop}{E:Prop}(qF:o.guard=none)(ty:TypeId)(x v:Operand)(ho:o.op=.store ty x v)(g t:Nat)(old cs:Array Value)(hx:a.eval x=.pointer (some ⟨g,0,none⟩))(hv:a.eval v=.agg cs)
  (dC:w.heap[g]?=some (.cells old t (0,0))) (da:old.size=cs.size) (hi:(P.info? ty).map (·.size)=some cs.size) (h1:∀u∈cs.toList,u.oneCell'=true) (h:K (a.put o.dst undef) (w.setRow g cs)):if wanted o (yielded ops a.tmps)=true then Oper.wp P o a w K Q else E:=by
 have bU:(storeVar ty ⟨g,0,none⟩ (.agg cs)).run P w=.ok () (w.setRow g cs):=by
  have hs:(sizeOf ty).run P w=.ok cs.size w:=by
   cases hq:P.info? ty with
   | none=>simp[hq] at hi
   | some inf=>
    have:inf.size=cs.size:=(by simpa [hq] using hi);simp[sizeOf,typeInfo,hq,this]
  have:=run_storeCells_at (P:=P) g 0 t cs.toList 0 old w dC (by simp[da]) h1;unfold storeVar;simp only[run_bind,hs,andThen_ok];rw[if_neg (show ¬((Value.agg cs).cells.size≠cs.size) from fun h=>h rfl)];show (storeCells ⟨g,0,none⟩ cs.toList).run P w=_;rw[this];congr 2;have hd:List.drop cs.size old.toList=[]:=List.drop_of_length_le (by simp[da]);simp[hd]
 have hw:wanted o (yielded ops a.tmps)=true:=by simp[wanted,qF]
 rw[if_pos hw];unfold Oper.wp execOp;simp only[ho,hx,hv,Instr.storeAt,sureAddr,run_bind,run_pure,andThen_ok,bU];exact h
open Classical in
noncomputable def nE (D:Dd) (i c:Nat):Int:=if 0<=D.nx i c/\¬vd D (D.nx i c).toNat then -1 else D.nx i c
theorem gZ.start{V0 V:World}{m:Nat}(hm:V.ownsRow V0.heap.size 3 1 (.slice a m c) m (ints ms))(hl:ms.length=m)(hb:Below V0.heap.size V0 V)(dC:St V 101 b4 (zC 101))(sb:V0.heap.size<=b4):
  gZ V0 b4 K C (.slice none 0 0) [] ws (.slice a m c) ms (V.setRow b4 (df K (.slice none 0 0) (.slice a m c))):=by
 refine⟨mY hb sb _,dC.setRow,⟨World.ownsRow_nil _ _ _ _,fun i hi=>absurd hi (by simp),fun i j hi=>absurd hi (by simp)⟩,?_,fun i hi=>absurd hi (by simp),sb⟩;rw[hl];exact fy (ts:=[]) (bs:=[b4]) hm (Iz _ _ _) (by simp) (fun g e h=>dG hm dC (by decide) g e (List.mem_singleton.1 h))
theorem Fu(N:Nat)(hN:N<=2147483647)(W:World):(Instr.makeSlice 43 (.int .i64 (N:Int)) (.int .i64 (N:Int))).run prog W=.ok (.slice (some ⟨W.heap.size,0,none⟩) N N) (W.alloc (.cells (madeCells #[.int .i64 0] N) 3)):=by
 have:=run_make_row' (P:=prog) 43 3 (.int .i64 0) 8 underlying43 az rfl .i64 .i64 N (by omega) (by omega) W;simpa using this
theorem EE(row:List Int)(m k:Nat)(v:Int)(h:row.length=k)(hk:k<m):(ints (row++replicate (m-k) 0)).set k (.int .i64 v)=ints ((row++[v])++replicate (m-(k+1)) 0):=by
 have e:replicate (m-k) (0:Int)=0 :: replicate (m-(k+1)) 0:=by
  rw[show m-k=(m-(k+1))+1 by omega,List.replicate_succ]
 rw[e];subst h;simp[ints,List.set_append]
def oj(z:Nat->Int)(fn:Nat->Int)(i:Nat):Int:=if z i=-1 then -1 else fn (z i).toNat
def Wz(m:Nat)(r:Nat->Int)(w:World)(e:Ending)(w':World):Prop:=
 ∃(a:Option Addr) (c:Nat),e=.returned (.slice a m c)/\w'.ownsRow w.heap.size 3 1 (.slice a m c) m (ints ((range m).map r))/\Below w.heap.size w w'
theorem KW(kf bV n:Nat)(fn:Nat->Int)(m c:Nat)(a:Option Addr)(z:Nat->Int)(w:World)(HC:∀(args:Array Value) (W:World),(callFunc kf args).run prog W=.ok (.enter kf args) W)
  (HM:∀W,Below w.heap.size w W->∀x,x<n->Calls prog kf #[.int .i64 ((x:Nat):Int),.pointer (some ⟨bV,0,none⟩)] W fun e w'=>e=.returned (.int .i64 (fn x))/\w'=W)
  (hm:m<=1000) (hz:lb w a m z) (hb:∀i,i<m->-1<=z i/\z i<(n:Int)) (hn:n<=1000000):
  Calls prog 125 #[.slice a m c,.func (.func kf) #[] #[.pointer (some ⟨bV,0,none⟩)]] w (Wz m (oj z fn) w):=by
 have iZ:=Fu m (by omega);have HX:=hid (Zz HM (Zz hz hb));have HO:=hid (Cx w w.heap.size m 3 (.int .i64 0) (le_refl _) (by unfold maxLen;omega));have nL:=hid (al w (.cells (madeCells #[.int .i64 0] m) 3));clear HM hz hb;go_enter func125,ntmps125;go_wp2_with fail;obtain⟨g,hg⟩:∃g,w.heap.size=g:=⟨_,rfl⟩
 have lh:Hid ((w.alloc (.cells (madeCells #[.int .i64 0] m) 3)).ownsRow g 3 1 (.slice (some ⟨g,0,none⟩) m m) m (ints ([]++replicate (m-0) 0))/\Below g w (w.alloc (.cells (madeCells #[.int .i64 0] m) 3))):=by
  rw[<-hg];refine⟨?_,nL.out⟩;have:=HO.out;simpa [ints] using this
 rw[hg];generalize w.alloc (.cells (madeCells #[.int .i64 0] m) 3)=W1 at lh⊢;have Hg:=hid hg;clear HO nL hg;go_loopw [6,7,13] (fun _ _ v wr=>∃(k:Nat),v=.int .i64 k/\k<=m/\Hid (wr.ownsRow g 3 1 (.slice (some ⟨g,0,none⟩) m m) m (ints ((range k).map (oj z fn)++replicate (m-k) 0))/\Below g w wr)) (fun _ _ v _=>m-(intOf v).toNat)
 ·exact⟨0,rfl,by omega,lh⟩
 clear lh;obtain⟨k,rfl,hk,HA⟩:=hrel;by_cases aw:k<m
 ·have ju:Below w.heap.size w wr:=by rw[Hg.out];exact HA.out.2
  obtain⟨gA,oA,rfl,D8,oU⟩:=HX.out.2.1 (by omega);have cA:=(ju.cell (p:=⟨gA,oA+k,none⟩) D8).trans (oU k aw);have I3:=HX.out.2.2 k aw;obtain⟨g',e',_,_,nz⟩:=eR HA.out.1 (by omega);obtain rfl:g'=g:=by
   injection e' with e';injection e' with e' _;exact e'.symm
  obtain⟨y0,y1⟩:=nz k (by omega);have hlen:((range k).map (oj z fn)).length=k:=by simp
  have y2:(ints ((range k).map (oj z fn)++replicate (m-k) 0))[k]?=some (.int .i64 0):=by
   have:0<m-k:=(by omega);simp[ints,getElem?_append,this]
  rw[y2] at y0;have gw:Hid ((wr.setCell ⟨g',k,none⟩ (.int .i64 (-1))).ownsRow g' 3 1 (.slice (some ⟨g',0,none⟩) m m) m (ints (((range k).map (oj z fn)++[-1])++replicate (m-(k+1)) 0))/\Below g' w (wr.setCell ⟨g',k,none⟩ (.int .i64 (-1)))):=by
   refine⟨?_,HA.out.2.setCell (p:=⟨g',k,none⟩) (le_refl _) _⟩;have:=vn HA.out.1 k aw (.int .i64 (-1));rwa [EE _ m k _ hlen aw] at this
  have JM:Hid (∀v,oj z fn k=v->(range (k+1)).map (oj z fn)=(range k).map (oj z fn)++[v]):=fun v h=>by
   rw[range_succ,map_append,List.map_singleton,h]
  have DF:Hid ((z k=-1->oj z fn k=-1)/\∀x:Nat,z k=(x:Int)->oj z fn k=fn x):=⟨fun h=>by simp[oj,h],fun x h=>by
   unfold oj
   rw[if_neg (by omega),h]
   rfl⟩
  have wY:=hid hlen;have i1:(k:Int)<m:=by omega
  have Gu:=hid HX.out.1
  try dsimp only at cA
  clear oU nz e' y2 hlen;generalize z k=t at cA I3 DF;go_upto_region 6 with fail;generalize wr.setCell ⟨g',k,none⟩ (.int .i64 (-1))=W5 at gw⊢;clear y0 y1 cA ju;by_cases ht:t=-1
  ·subst ht;have HZ:=hid (JM.out (-1) (DF.out.1 rfl));go_wp2;go_roundw
   ·exact⟨k+1,by go_num,by omega,by rw[HZ.out];exact gw⟩
   simp[intOf];omega
  obtain⟨x,rfl⟩:∃x:Nat,t=(x:Int):=⟨t.toNat,by omega⟩
  have iL:x<n:=by omega
  have kY:((x:Int) != (-1:Int))=true:=by first|(simp;done)|(simp;omega)
  have Yc:=hid (Gu.out W5 (by rw[Hg.out];exact gw.out.2) x iL);have HZ:=hid (JM.out (fn x) (DF.out.2 x rfl));generalize fn x=r at Yc HZ;go_wp2_with fail;refine Yc.out.mono ?_;rintro e w6 ⟨rfl,rfl⟩;obtain⟨g2,e2,_,_,jf⟩:=eR gw.out.1 (by omega);obtain rfl:g2=g':=by
   injection e2 with e2;injection e2 with e2 _;exact e2.symm
  obtain⟨y0,y1⟩:=jf k (by omega);have y2:(ints (((range k).map (oj z fn)++[-1])++replicate (m-(k+1)) 0))[k]?=some (.int .i64 (-1)):=by
   simp[ints,getElem?_append]
  rw[y2] at y0;have kr:Hid ((w6.setCell ⟨g2,k,none⟩ (.int .i64 r)).ownsRow g2 3 1 (.slice (some ⟨g2,0,none⟩) m m) m (ints (((range k).map (oj z fn)++[r])++replicate (m-(k+1)) 0))/\Below g2 w (w6.setCell ⟨g2,k,none⟩ (.int .i64 r))):=by
   refine⟨?_,gw.out.2.setCell (p:=⟨g2,k,none⟩) (le_refl _) _⟩;have:=vn gw.out.1 k aw (.int .i64 r);have e3:(ints (((range k).map (oj z fn)++[-1])++replicate (m-(k+1)) 0)).set k (.int .i64 r)=ints (((range k).map (oj z fn)++[r])++replicate (m-(k+1)) 0):=by
    have hl:=wY.out;rw[<-EE _ m k (-1) hl aw,List.set_set,EE _ m k r hl aw]
   rwa [e3] at this
  clear jf e2 y2;go_wp2;go_roundw
  ·exact⟨k+1,by go_num,by omega,by rw[HZ.out];exact kr⟩
  simp[intOf];omega
 obtain rfl:k=m:=by omega
 have HF:Hid (Wz k (oj z fn) w (.returned (.slice (some ⟨g,0,none⟩) k k)) wr):=by
  refine⟨_,_,rfl,?_,by rw[Hg.out];exact HA.out.2⟩;have:=HA.out.1;rw[Nat.sub_self,List.replicate_zero,List.append_nil,<-Hg.out] at this;rw[<-Hg.out];exact this
 go_wp2;go_ret;exact HF.out
theorem U3:∀(args:Array Value) (W:World),(callFunc 129 args).run prog W=.ok (.enter 129 args) W:=fun _ _=>by rfl
theorem T0(b3 n c:Nat)(a:Option Addr)(f:Nat->Bool)(w:World)(hS:St w 129 b3 #[.slice a n c])(hf:Jk w a n f)(x:Nat)(hx:x<n):
  Calls prog 129 #[.int .i64 (x:Int),.pointer (some ⟨b3,0,none⟩)] w fun e w'=>e=.returned (.int .i64 (if f x=true then (x:Int) else -1))/\w'=w:=by
 have c0:w.cell? ⟨b3,0,none⟩=some (.slice a n c):=hS.at_ 0;obtain⟨g,o,rfl,_,q⟩:=hf (by omega);have d0:=q x hx;have i1:(x:Int)<n:=by omega
 clear q;rcases EW:f x with _|_
 ·rw[EW] at d0;have HZ:Hid ((if (false=true) then (x:Int) else -1)=-1):=by show _=_;simp
  clear EW;go_enter func129,ntmps129;go_wp2;go_ret;exact⟨by first|rfl|(rw[HZ.out];rfl)|simp,rfl⟩
 rw[EW] at d0;clear EW;go_enter func129,ntmps129;go_wp2;go_ret;exact⟨by first|rfl|simp,rfl⟩
theorem zmX(D:Dd)(C:Nat)(w:World)(hD:DM w D)(hR:DR D C):
  Calls prog 99 #[.agg D.cD] w (CW D C D.n (nE D) D.q w):=by
 have zy:∀(fn:Fn) (first cap:Array Value) (w:World),(Instr.makeFunc fn first cap).run prog w=.ok (.func fn first cap) w:=fun _ _ _ _=>rfl
 have dj:=hR.n2;have fA:=hR.n1;have nV:=hR.m;have Ah:=(hR.ke hD.kl).2;have HB:=hid (Zz (dc.new hD) (Zz (al w (.cells D.cD 101)) hR));obtain⟨iI,hI,pT,qd,qb⟩:=info_parts az;obtain⟨iV,hV,ur,ub,uC⟩:=info_parts dP;clear hD hR;go_enter func99,ntmps99;go_upto_region 1 with (refine rB rfl 101 rfl (zC 101) (nG _) ?_);simp only[Act.put,List.setIfInBounds_toArray,List.set_cons_zero,List.set_cons_succ,Ib];have H0:Hid (dc ((w.alloc (.cells D.cD 101)).alloc (.cells (zC 101) 101)) w.heap.size D/\St ((w.alloc (.cells D.cD 101)).alloc (.cells (zC 101) 101)) 101 (w.heap.size+1) (zC 101)/\Below w.heap.size w ((w.alloc (.cells D.cD 101)).alloc (.cells (zC 101) 101))):=by
  refine⟨HB.out.1.aa (al _ _),?_,HB.out.2.1.trans ((al _ _).mono (by simp))⟩;have:=St.new (w.alloc (.cells D.cD 101)) 101 (zC 101);simpa using this
 generalize (w.alloc (.cells D.cD 101)).alloc (.cells (zC 101) 101)=Wb at H0⊢;obtain⟨b2,cv⟩:∃b2,w.heap.size+1=b2:=⟨_,rfl⟩
 obtain⟨b0,bc⟩:∃b0,w.heap.size=b0:=⟨_,rfl⟩
 rw[cv,bc] at H0;rw[cv,bc];have Hb:=hid (Zz bc cv);clear cv bc;have sY:=hid (Jc D C HB.out.2.2 Wb H0.out.1.dm);go_wp2_with (refine oa (by rfl) 101 _ rfl ⟨b0,0,none⟩ rfl D.cD _ H0.out.1.st.part underlying101 rfl H0.out.1.dm.info ?_);refine sY.out.mono ?_;rintro e wy ⟨rfl,rD⟩;have ry:Hid (dc wy b0 D/\St wy 101 b2 (zC 101)/\Below b0 w wy):=⟨H0.out.1.aa rD,H0.out.2.1.aa rD,H0.out.2.2.trans (rD.mono (by have:=H0.out.2.2.size;have:=Hb.out.1;omega))⟩
 have T1:=hid (zk7 D C wy ry.out.1.dm HB.out.2.2);clear rD sY;go_wp2_with (refine oa (by rfl) 101 _ rfl ⟨b0,0,none⟩ rfl D.cD _ ry.out.1.st.part underlying101 rfl ry.out.1.dm.info ?_);refine T1.out.mono ?_;rintro e wA ⟨f,aA,cA,rfl,WY,Yq,bA⟩;go_upto_region 4 with fail;have k3:=al wA (.cells #[.slice aA D.n cA] 129);have ud:Hid (St (wA.alloc (.cells #[.slice aA D.n cA] 129)) 129 wA.heap.size #[.slice aA D.n cA]):=St.new _ _ _;have b1:Below wy.heap.size wy (wA.alloc (.cells #[.slice aA D.n cA] 129)):=bA.trans (k3.mono bA.size);have I7:=hid (Zz ((zpf WY).below k3) Yq);obtain⟨b3,iW⟩:∃b3,wA.heap.size=b3:=⟨_,rfl⟩
 rw[iW] at ud;rw[iW];generalize wA.alloc (.cells #[.slice aA D.n cA] 129)=w1 at b1 I7 ud⊢;clear k3 iW bA;have H1:=hid (Zz (ry.out.1.aa b1) (Zz (ry.out.2.1.aa b1) (ry.out.2.2.trans (b1.mono (by have:=ry.out.2.2.size;have:=Hb.out.1;omega)))));obtain⟨gM,oM,eM,r9,nA⟩:=H1.out.1.dm.rM (by omega);have As:=hid (Zz eM (Zz r9 (Zz (by rw[nV] at nA;exact nA:∀j,j<D.n->w1.cell? ⟨gM,oM+j,none⟩=some (.int .i64 (D.q j))) nV)));have tP:Hid (w.heap.size<=w1.heap.size):=by have h1:=ry.out.2.2.size;have h2:=b1.size;have h3:=Hb.out.1;show _<=_;omega
 have dz:Hid (∀W',Below w1.heap.size w1 W'->Below w1.heap.size w1 W'/\dc W' b0 D/\W'.cell? ⟨b0,257,none⟩=some (.slice (some ⟨gM,oM,none⟩) D.n D.cM)):=fun W' h=>⟨h,H1.out.1.aa h,by have:=(H1.out.1.aa h).f2;rw[eM,nV] at this;exact this⟩
 have kQ:Hid (∀W',Below w1.heap.size w1 W'->∀j u,(ints ((range D.n).map D.q))[j]?=some u->W'.cell? ((⟨gM,oM,none⟩:Addr).add j)=some u):=fun W' h=>UH (fun j hj=>(h.cell (p:=⟨gM,oM+j,none⟩) As.out.2.1).trans (As.out.2.2.1 j hj))
 clear WY Yq b1 T1 eM nA r9 nV
 go_cut [4] from 13 to 18 (fun v wx=>∃(b4:Nat) (a6:Option Addr) (c6:Nat),v=.pointer (some ⟨b4,0,none⟩)/\gZ w1 b4 D.K C (.slice none 0 0) [] (fun _=>.slice none 0 0) (.slice a6 D.n c6) ((range D.n).map D.q) wx)
 case first=>
  refine wp_region_held_drew (S:=fun W'=>Below w1.heap.size w1 W'/\dc W' b0 D/\W'.cell? ⟨b0,257,none⟩=some (.slice (some ⟨gM,oM,none⟩) D.n D.cM)) (by kernel_rfl) (dz.out _ (Below.refl _ _).drew) (fun hHeld=>?_)
  (refine aq 0 ?_)
  (refine aq 1 (v:=.agg (aY D.K)) ?_ (hy:=by intro wz hSw;exact Cm (o:=_) (ρ:=_) wz 98 (.tmp 13) rfl ⟨b0,0,none⟩ rfl (aY D.K) _ (dc.eo (And.left (And.right hSw))) underlying98 rfl (y9 D.K)))
  (refine aq 2 ?_;refine aq 3 ?_;try simp only[Act.put,sA,sB,sC])
  refine wpAnyH_ready (rs:=[4,6]) (by kernel_rfl) (by simp) ?_;refine eV (fun K hK=>?_) ?_
  ·skip;go_simp;go_at_call 128;refine (JT D.n D.cM (some ⟨gM,oM,none⟩) D.q (by omega) _ (fun _=>⟨gM,oM,rfl,Nat.lt_of_lt_of_le As.out.2.1 hHeld.1.size,fun j hj=>(hHeld.1.cell (p:=⟨gM,oM+j,none⟩) As.out.2.1).trans (As.out.2.2.1 j hj)⟩) (fun h=>by cases h) (fun ad h=>by injection h with h;rw[<-h])).mono ?_;rintro e V5 ⟨a6,c6,rfl,an,b6⟩;have sX:=hid (Zz (jF an hHeld.1.size) (hHeld.1.trans (b6.mono hHeld.1.size)));clear an b6
   try go_wp2_with fail
   refine hK.out _ _ (dz.out _ sX.out.2) (fun hHeld=>?_);clear hK K
   try simp only[Act.put,sA,sB,sC]
   (refine wpAnyH_take (i:=5) (oi:=?_) (v:=.agg (df D.K (.slice none 0 0) (.slice a6 D.n c6))) ?_ (by kernel_rfl) (by kernel_rfl) (by kernel_rfl) ?_ (inl ⟨?_,?_⟩) (by assumption) ?_;rotate_left;(focus ((simp only[List.getElem?_toArray,List.getElem?_cons_succ,List.getElem?_cons_zero]);first|done|rfl));(focus (exact fun _ _ _ h=>h));(focus rfl);(focus (intro wz hSw;exact XF wz _ _ rfl #[(0,.agg (aY D.K)),(2,.slice a6 D.n c6)] (by first|rfl|simp[Act.eval]|(simp;rfl)) _ (Td D.K a6 D.n c6 wz)));try simp only[Act.put,sA,sB,sC])
   refine aQ 6 (fun K hK=>?_);skip;refine EM (by rfl) 101 (by rfl) (zC 101) (nG _) ?_;have kk:=al V5 (.cells (zC 101) 101);have aJ:Below w1.heap.size w1 (V5.alloc (.cells (zC 101) 101)):=hHeld.1.trans (kk.mono hHeld.1.size);have H7:Hid (St (V5.alloc (.cells (zC 101) 101)) 101 V5.heap.size (zC 101)/\w1.heap.size<=V5.heap.size):=(⟨St.new _ _ _,hHeld.1.size⟩);have sX:Hid ((V5.alloc (.cells (zC 101) 101)).ownsRow w1.heap.size 3 1 (.slice a6 D.n c6) D.n (ints ((range D.n).map D.q))/\Below w1.heap.size w1 (V5.alloc (.cells (zC 101) 101))):=(⟨dp sX.out.1 kk,aJ⟩);refine hK.out _ _ (dz.out _ aJ) (fun hHeld=>?_);clear hK K
   try simp only[Act.put,sA,sB,sC]
   try simp only[ko]
   clear kk;generalize (V5.alloc (.cells (zC 101) 101))=V7 at H7 sX hHeld aJ⊢;refine aQ 7 (fun K hK=>?_);skip;refine EJ (by rfl) 101 _ _ (by rfl) V5.heap.size 101 (zC 101) (df D.K (.slice none 0 0) (.slice a6 D.n c6)) (by rfl) (by rfl) H7.out.1 (by rw[jA,mw]) (by rw[gO,mw]) (xe _ _ _ _ _ _ _) ?_;have jy:=hid (gZ.start (K:=D.K) (C:=C) (ws:=fun _=>.slice none 0 0) sX.out.1 (by simp) sX.out.2 H7.out.1 H7.out.2);refine hK.out _ _ (dz.out _ jy.out.aU) (fun hHeld=>?_);clear hK K
   try simp only[Act.put,sA,sB,sC]
   refine wpAnyH_done (by kernel_rfl) ?_ _;clear hHeld sX H7;go_wp2_with fail
   go_meet
   exact⟨_,_,_,rfl,jy.out⟩
  refine eV (fun K hK=>?_) ?_
  ·skip;refine EM (by rfl) 101 (by rfl) (zC 101) (nG _) ?_;have kk:=al w1.drew (.cells (zC 101) 101);have aJ:Below w1.heap.size w1 (w1.drew.alloc (.cells (zC 101) 101)):=hHeld.1.trans (kk.mono hHeld.1.size);have H7:Hid (St (w1.drew.alloc (.cells (zC 101) 101)) 101 w1.heap.size (zC 101)/\w1.heap.size<=w1.heap.size):=(⟨St.new _ _ _,hHeld.1.size⟩);refine hK.out _ _ (dz.out _ aJ) (fun hHeld=>?_);clear hK K
   try simp only[Act.put,sA,sB,sC]
   try simp only[ko]
   clear kk;generalize (w1.drew.alloc (.cells (zC 101) 101))=V7 at H7 hHeld aJ⊢;refine aQ 4 (fun K hK=>?_);skip;go_simp;go_at_call 128;refine (JT D.n D.cM (some ⟨gM,oM,none⟩) D.q (by omega) _ (fun _=>⟨gM,oM,rfl,Nat.lt_of_lt_of_le As.out.2.1 hHeld.1.size,fun j hj=>(hHeld.1.cell (p:=⟨gM,oM+j,none⟩) As.out.2.1).trans (As.out.2.2.1 j hj)⟩) (fun h=>by cases h) (fun ad h=>by injection h with h;rw[<-h])).mono ?_;rintro e V5 ⟨a6,c6,rfl,an,b6⟩;have sX:=hid (Zz (jF an hHeld.1.size) (hHeld.1.trans (b6.mono hHeld.1.size)));have H7:Hid (St V5 101 w1.heap.size (zC 101)/\w1.heap.size<=w1.heap.size):=(⟨H7.out.1.aa b6,H7.out.2⟩);clear an b6
   try go_wp2_with fail
   refine hK.out _ _ (dz.out _ sX.out.2) (fun hHeld=>?_);clear hK K
   try simp only[Act.put,sA,sB,sC]
   (refine wpAnyH_take (i:=5) (oi:=?_) (v:=.agg (df D.K (.slice none 0 0) (.slice a6 D.n c6))) ?_ (by kernel_rfl) (by kernel_rfl) (by kernel_rfl) ?_ (inl ⟨?_,?_⟩) (by assumption) ?_;rotate_left;(focus ((simp only[List.getElem?_toArray,List.getElem?_cons_succ,List.getElem?_cons_zero]);first|done|rfl));(focus (exact fun _ _ _ h=>h));(focus rfl);(focus (intro wz hSw;exact XF wz _ _ rfl #[(0,.agg (aY D.K)),(2,.slice a6 D.n c6)] (by first|rfl|simp[Act.eval]|(simp;rfl)) _ (Td D.K a6 D.n c6 wz)));try simp only[Act.put,sA,sB,sC])
   refine aQ 7 (fun K hK=>?_);skip;refine EJ (by rfl) 101 _ _ (by rfl) w1.heap.size 101 (zC 101) (df D.K (.slice none 0 0) (.slice a6 D.n c6)) (by rfl) (by rfl) H7.out.1 (by rw[jA,mw]) (by rw[gO,mw]) (xe _ _ _ _ _ _ _) ?_;have jy:=hid (gZ.start (K:=D.K) (C:=C) (ws:=fun _=>.slice none 0 0) sX.out.1 (by simp) sX.out.2 H7.out.1 H7.out.2);refine hK.out _ _ (dz.out _ jy.out.aU) (fun hHeld=>?_);clear hK K
   try simp only[Act.put,sA,sB,sC]
   refine wpAnyH_done (by kernel_rfl) ?_ _;clear hHeld sX H7;go_wp2_with fail
   go_meet
   exact⟨_,_,_,rfl,jy.out⟩
  exact AllReadyH.nil
 case rest=>
  obtain⟨b4,a6,c6,rfl,va⟩:=hcut;have jy:=hid va;clear va;obtain⟨gN,oN,eN,mC,qE⟩:=H1.out.1.dm.rN (by omega);have ux:=hid (H1.out.1.aa jy.out.aU);have f1:=ux.out.f1;rw[eN] at f1;have Av:=hid eN;have uy:=hid qE;have Hg:=hid mC;clear eN qE mC;go_wp2_with fail;clear f1;go_loopw [6,22] (fun _ v wr=>∃(i:Nat) (ws:Nat->Value) (aN:Option Addr) (cN:Nat),v=.int .i64 i/\i<=D.n/\Hid (gZ w1 b4 D.K C (.slice aN i cN) ((range i).map fun i=>(range C).map (nE D i)) ws (.slice a6 D.n c6) ((range D.n).map D.q) wr)) (fun _ v _=>D.n-(intOf v).toNat)
  ·exact⟨0,_,none,0,rfl,by omega,jy⟩
  clear jy;obtain⟨i,ws,aN,cN,rfl,hi,HT⟩:=hrel;have mi:Hid (((range i).map fun i=>(range C).map (nE D i)).length=i):=by show _=_;simp
  by_cases aw:i<D.n
  ·have i1:(i:Int)<(D.n:Int):=(by omega);have hlen:=HB.out.2.2.len i aw;have p7:=(HT.out.aU.cell (p:=⟨gN,oN+i,none⟩) Hg.out).trans (uy.out i aw).1;have zN:=(uy.out i aw).2;rw[hlen] at p7 zN
   try dsimp only at p7
   have xz:Hid (lb wr.drew (D.A i) C (D.nx i)):=(zN.below HT.out.aU).below (Below.refl _ _).drew;have BP:Hid ((range (i+1)).map (fun i=>(range C).map (nE D i))=(range i).map (fun i=>(range C).map (nE D i))++[(range C).map (nE D i)]):=(by show _=_;rw[range_succ,map_append];rfl);have uI:Hid ((range C).map (oj (D.nx i) (fun x=>if f x=true then ((x:Nat):Int) else -1))=(range C).map (nE D i)):=by
    show _=_;refine(List.map_congr_left fun c hc=>?_);have jf:c<C:=(by simpa using hc);have hb:=HB.out.2.2.nx i c aw jf;unfold oj nE;by_cases h1:D.nx i c=-1
    ·rw[if_pos h1,if_neg (by omega),h1]
    rw[if_neg h1];have hx:(D.nx i c).toNat<D.n:=(by omega);dsimp only;by_cases h2:f (D.nx i c).toNat=true
    ·rw[if_pos h2,if_neg (fun h=>h.2 ((I7.out.2 _ hx).1 h2))];omega
    rw[if_neg h2,if_pos ⟨by omega,fun h=>h2 ((I7.out.2 _ hx).2 h)⟩]
   clear hlen zN;go_upto_region 8 with fail;clear p7;refine wp_region_held_drew (S:=fun W'=>Below w1.heap.size w1 W') (by kernel_rfl) HT.out.aU.drew (fun hHeld=>?_);have HT:Hid (gZ w1 b4 D.K C (.slice aN i cN) ((range i).map fun i=>(range C).map (nE D i)) ws (.slice a6 D.n c6) ((range D.n).map D.q) wr.drew):=HT.out.aa (Below.refl _ _).drew
   (refine aq 0 ?_;refine aq 2 ?_;refine aq 3 ?_;try simp only[Act.put,sA,sB,sC])
   refine wpAnyH_ready (rs:=[1,4]) (by kernel_rfl) (by simp) ?_;refine eV (fun K hK=>?_) ?_
   ·skip;have f1:=HT.out.f1;go_simp;refine hK.out _ _ (hHeld) (fun hHeld=>?_);clear hK K
    try simp only[Act.put,sA,sB,sC]
    clear f1;refine aQ 4 (fun K hK=>?_);skip;have ia:=(HT.out.next.lt).2;have jo:=lx HT.out.ct;go_simp;go_at_call 125;refine (KW 129 b3 D.n (fun x=>if f x=true then ((x:Nat):Int) else -1) C (D.Cp i) (D.A i) (D.nx i) _ U3 (fun W' h x hx=>T0 b3 D.n cA aA f W' ((ud.out.aa HT.out.aU).aa h) ((I7.out.1.below HT.out.aU).below h) x hx) (by omega) (by have h9:=xz.out;exact h9) (fun c hc=>HB.out.2.2.nx i c aw hc) (by omega)).mono ?_;rintro e w5 ⟨a5,c5,rfl,jH,b5⟩;have HU:Hid (w5.ownsRow w1.heap.size 3 1 (.slice a5 C c5) C (ints ((range C).map (nE D i)))/\(∀j,j<((range i).map fun i=>(range C).map (nE D i)).length->∀b,(ws j).ownBlock=some b->(Value.slice a5 C c5).ownBlock≠some b)/\∀b,(Value.slice a5 C c5).ownBlock=some b->(Value.slice a6 D.n c6).ownBlock≠some b):=by
     have jk:=km jH;refine⟨?_,fun j hj b e1 e2=>?_,fun b e1 e2=>?_⟩
     ·rw[<-uI.out];exact jF jH HT.out.aU.size
     ·have h1:=ia j hj b e1;have h2:=jk b e2
      try simp only[ko] at h1
      try simp only[ko] at h2
      omega
     have h1:=jo b e2;have h2:=jk b e1
     try simp only[ko] at h1
     try simp only[ko] at h2
     omega
    have HT:=hid (HT.out.aa b5);clear jH b5 ia jo
    try go_wp2_with fail
    refine hK.out _ _ (HT.out.aU) (fun hHeld=>?_);clear hK K
    try simp only[Act.put,sA,sB,sC]
    refine aQ 5 (fun K hK=>?_);skip;go_simp;have kk:=al w5 (.cells #[.slice a5 C c5] 43);have HN:Hid (∀j u,[Value.slice a5 C c5][j]?=some u->(w5.alloc (.cells #[.slice a5 C c5] 43)).cell? ((⟨w5.heap.size,0,none⟩:Addr).add j)=some u):=cell_one_new _ _ _;have HT:=hid (HT.out.aa kk);have HU:=hid (Zz (dp HU.out.1 kk) HU.out.2);refine hK.out _ _ (HT.out.aU) (fun hHeld=>?_);clear hK K
    try simp only[Act.put,sA,sB,sC]
    clear kk;generalize w5.alloc (.cells #[.slice a5 C c5] 43)=V5 at HN HT HU hHeld⊢;refine aQ 6 (fun K hK=>?_);skip;have hO:=(HT.out.next.own);rw[mi.out] at hO;refine xM (by rfl) _ _ _ (by rfl) w1.heap.size 43 iV (.slice none 0 0) 1 24 underlying99 hV ur ub uC (by rfl) (by decide) _ i ((range i).map ws) (by rfl) hO ⟨w5.heap.size,0,none⟩ 1 1 [.slice a5 C c5] (by rfl) (by rfl) HN.out (by intro u hu;simp at hu;subst hu;rfl) (by unfold maxLen;omega) (by omega) HT.out.aU.size ?_;intro v6 w6 an af;obtain⟨a7,c7,rfl⟩:=bF an;have jt:=hid (HT.out.fT (u:=.slice a5 C c5) (vN':=.slice a7 (i+1) c7) HU.out.1 HU.out.2.1 HU.out.2.2 mi.out an af);have h9:=(HT.out.st.ag HT.out.next.own (by decide) af);have z2:w6.cell? ⟨b4,256,none⟩=some (.slice aN i cN):=(by rw[h9.at_,qe]);have z3:w6.frozen? ⟨b4,256,none⟩=false:=h9.ba 256;have ec:=(fH HT.out.aU HT.out.next.own HT.out.aU.size af);clear an af h9 hO;refine hK.out _ _ (ec) (fun hHeld=>?_);clear hK K
    try simp only[Act.put,sA,sB,sC]
    (refine aq 7 ?_;try simp only[Act.put,sA,sB,sC])
    refine aQ 8 (fun K hK=>?_);skip;go_simp;refine hK.out _ _ (jt.out.aU) (fun hHeld=>?_);clear hK K
    try simp only[Act.put,sA,sB,sC]
    refine wpAnyH_done (by kernel_rfl) ?_ _;rw[<-BP.out] at jt;clear hHeld z2 z3 ec;go_wp2;go_roundw
    ·exact⟨i+1,_,a7,c7,by go_num,by omega,jt⟩
    simp[intOf];omega
   refine eV (fun K hK=>?_) ?_
   ·skip;have ia:=(HT.out.next.lt).2;have jo:=lx HT.out.ct;go_simp;go_at_call 125;refine (KW 129 b3 D.n (fun x=>if f x=true then ((x:Nat):Int) else -1) C (D.Cp i) (D.A i) (D.nx i) _ U3 (fun W' h x hx=>T0 b3 D.n cA aA f W' ((ud.out.aa HT.out.aU).aa h) ((I7.out.1.below HT.out.aU).below h) x hx) (by omega) (by have h9:=xz.out;exact h9) (fun c hc=>HB.out.2.2.nx i c aw hc) (by omega)).mono ?_;rintro e w5 ⟨a5,c5,rfl,jH,b5⟩;have HU:Hid (w5.ownsRow w1.heap.size 3 1 (.slice a5 C c5) C (ints ((range C).map (nE D i)))/\(∀j,j<((range i).map fun i=>(range C).map (nE D i)).length->∀b,(ws j).ownBlock=some b->(Value.slice a5 C c5).ownBlock≠some b)/\∀b,(Value.slice a5 C c5).ownBlock=some b->(Value.slice a6 D.n c6).ownBlock≠some b):=by
     have jk:=km jH;refine⟨?_,fun j hj b e1 e2=>?_,fun b e1 e2=>?_⟩
     ·rw[<-uI.out];exact jF jH HT.out.aU.size
     ·have h1:=ia j hj b e1;have h2:=jk b e2
      try simp only[ko] at h1
      try simp only[ko] at h2
      omega
     have h1:=jo b e2;have h2:=jk b e1
     try simp only[ko] at h1
     try simp only[ko] at h2
     omega
    have HT:=hid (HT.out.aa b5);clear jH b5 ia jo
    try go_wp2_with fail
    refine hK.out _ _ (HT.out.aU) (fun hHeld=>?_);clear hK K
    try simp only[Act.put,sA,sB,sC]
    refine wpAnyH_ready (rs:=[1,5]) (by kernel_rfl) (by simp) ?_;refine eV (fun K hK=>?_) ?_
    ·skip;have f1:=HT.out.f1;go_simp;refine hK.out _ _ (hHeld) (fun hHeld=>?_);clear hK K
     try simp only[Act.put,sA,sB,sC]
     clear f1;refine aQ 5 (fun K hK=>?_);skip;go_simp;have kk:=al w5 (.cells #[.slice a5 C c5] 43);have HN:Hid (∀j u,[Value.slice a5 C c5][j]?=some u->(w5.alloc (.cells #[.slice a5 C c5] 43)).cell? ((⟨w5.heap.size,0,none⟩:Addr).add j)=some u):=cell_one_new _ _ _;have HT:=hid (HT.out.aa kk);have HU:=hid (Zz (dp HU.out.1 kk) HU.out.2);refine hK.out _ _ (HT.out.aU) (fun hHeld=>?_);clear hK K
     try simp only[Act.put,sA,sB,sC]
     clear kk;generalize w5.alloc (.cells #[.slice a5 C c5] 43)=V5 at HN HT HU hHeld⊢;refine aQ 6 (fun K hK=>?_);skip;have hO:=(HT.out.next.own);rw[mi.out] at hO;refine xM (by rfl) _ _ _ (by rfl) w1.heap.size 43 iV (.slice none 0 0) 1 24 underlying99 hV ur ub uC (by rfl) (by decide) _ i ((range i).map ws) (by rfl) hO ⟨w5.heap.size,0,none⟩ 1 1 [.slice a5 C c5] (by rfl) (by rfl) HN.out (by intro u hu;simp at hu;subst hu;rfl) (by unfold maxLen;omega) (by omega) HT.out.aU.size ?_;intro v6 w6 an af;obtain⟨a7,c7,rfl⟩:=bF an;have jt:=hid (HT.out.fT (u:=.slice a5 C c5) (vN':=.slice a7 (i+1) c7) HU.out.1 HU.out.2.1 HU.out.2.2 mi.out an af);have h9:=(HT.out.st.ag HT.out.next.own (by decide) af);have z2:w6.cell? ⟨b4,256,none⟩=some (.slice aN i cN):=(by rw[h9.at_,qe]);have z3:w6.frozen? ⟨b4,256,none⟩=false:=h9.ba 256;have ec:=(fH HT.out.aU HT.out.next.own HT.out.aU.size af);clear an af h9 hO;refine hK.out _ _ (ec) (fun hHeld=>?_);clear hK K
     try simp only[Act.put,sA,sB,sC]
     (refine aq 7 ?_;try simp only[Act.put,sA,sB,sC])
     refine aQ 8 (fun K hK=>?_);skip;go_simp;refine hK.out _ _ (jt.out.aU) (fun hHeld=>?_);clear hK K
     try simp only[Act.put,sA,sB,sC]
     refine wpAnyH_done (by kernel_rfl) ?_ _;rw[<-BP.out] at jt;clear hHeld z2 z3 ec;go_wp2;go_roundw
     ·exact⟨i+1,_,a7,c7,by go_num,by omega,jt⟩
     simp[intOf];omega
    refine eV (fun K hK=>?_) ?_
    ·skip;go_simp;have kk:=al w5 (.cells #[.slice a5 C c5] 43);have HN:Hid (∀j u,[Value.slice a5 C c5][j]?=some u->(w5.alloc (.cells #[.slice a5 C c5] 43)).cell? ((⟨w5.heap.size,0,none⟩:Addr).add j)=some u):=cell_one_new _ _ _;have HT:=hid (HT.out.aa kk);have HU:=hid (Zz (dp HU.out.1 kk) HU.out.2);refine hK.out _ _ (HT.out.aU) (fun hHeld=>?_);clear hK K
     try simp only[Act.put,sA,sB,sC]
     clear kk;generalize w5.alloc (.cells #[.slice a5 C c5] 43)=V5 at HN HT HU hHeld⊢;refine aQ 1 (fun K hK=>?_);skip;have f1:=HT.out.f1;go_simp;refine hK.out _ _ (hHeld) (fun hHeld=>?_);clear hK K
     try simp only[Act.put,sA,sB,sC]
     clear f1;refine aQ 6 (fun K hK=>?_);skip;have hO:=(HT.out.next.own);rw[mi.out] at hO;refine xM (by rfl) _ _ _ (by rfl) w1.heap.size 43 iV (.slice none 0 0) 1 24 underlying99 hV ur ub uC (by rfl) (by decide) _ i ((range i).map ws) (by rfl) hO ⟨w5.heap.size,0,none⟩ 1 1 [.slice a5 C c5] (by rfl) (by rfl) HN.out (by intro u hu;simp at hu;subst hu;rfl) (by unfold maxLen;omega) (by omega) HT.out.aU.size ?_;intro v6 w6 an af;obtain⟨a7,c7,rfl⟩:=bF an;have jt:=hid (HT.out.fT (u:=.slice a5 C c5) (vN':=.slice a7 (i+1) c7) HU.out.1 HU.out.2.1 HU.out.2.2 mi.out an af);have h9:=(HT.out.st.ag HT.out.next.own (by decide) af);have z2:w6.cell? ⟨b4,256,none⟩=some (.slice aN i cN):=(by rw[h9.at_,qe]);have z3:w6.frozen? ⟨b4,256,none⟩=false:=h9.ba 256;have ec:=(fH HT.out.aU HT.out.next.own HT.out.aU.size af);clear an af h9 hO;refine hK.out _ _ (ec) (fun hHeld=>?_);clear hK K
     try simp only[Act.put,sA,sB,sC]
     (refine aq 7 ?_;try simp only[Act.put,sA,sB,sC])
     refine aQ 8 (fun K hK=>?_);skip;go_simp;refine hK.out _ _ (jt.out.aU) (fun hHeld=>?_);clear hK K
     try simp only[Act.put,sA,sB,sC]
     refine wpAnyH_done (by kernel_rfl) ?_ _;rw[<-BP.out] at jt;clear hHeld z2 z3 ec;go_wp2;go_roundw
     ·exact⟨i+1,_,a7,c7,by go_num,by omega,jt⟩
     simp[intOf];omega
    exact AllReadyH.nil
   exact AllReadyH.nil
  obtain rfl:i=D.n:=by omega
  have iG:=hid HT.out.st;have iF:=hid (H1.out.2.1.aa HT.out.aU);have hd:=mw D.K (.slice aN D.n cN) (.slice a6 D.n c6);have BF:Hid (Below w.heap.size w (wr.setRow b2 (df D.K (.slice aN D.n cN) (.slice a6 D.n c6)))):=by
   rw[Hb.out.1];exact mY (H1.out.2.2.trans (HT.out.aU.mono (by have:=tP.out;have:=Hb.out.1;omega))) (by have:=Hb.out;omega) _
  have HF:Hid (CW D C D.n (nE D) D.q w (.returned (.agg (df D.K (.slice aN D.n cN) (.slice a6 D.n c6)))) (wr.setRow b2 (df D.K (.slice aN D.n cN) (.slice a6 D.n c6)))):=
   HT.out.QN HB.out.1.dm.kl mi.out (fun r hr=>by obtain⟨j,_,rfl⟩:=List.mem_map.1 hr;simp) rfl (fun j hj c hc=>by simp[getD_eq_getElem?_getD,hj,hc]) tP.out (inr ⟨b2,_,_,iF.out,rfl⟩) BF.out
  go_wp2_with (first|(refine si rfl 101 _ rfl ⟨b4,0,none⟩ rfl (df D.K (.slice aN D.n cN) (.slice a6 D.n c6)) _ iG.out.part underlying101 rfl (by rw[gO,hd]) ?_)|(refine pN rfl 101 _ _ rfl b2 101 (zC 101) (df D.K (.slice aN D.n cN) (.slice a6 D.n c6)) rfl rfl iF.out (by rw[jA,hd]) (by rw[gO,hd]) (xe _ _ _ _ _ _ _) ?_));refine bodyPost_ret (results_cell_row rfl _ _ b2 101 (df D.K (.slice aN D.n cN) (.slice a6 D.n c6)) (0,0) _ rfl iF.out.setRow underlying101 rfl (by rw[gO,hd])) rfl ?_;exact HF.out
end Go.Proofs.YtiijebameffenaaGreat
