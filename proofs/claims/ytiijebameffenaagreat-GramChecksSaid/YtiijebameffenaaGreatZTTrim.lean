import Derived.Test.YtiijebameffenaaGreatZSROfM
import Derived.BigFrame
import Derived.Deep.RegionHeld
import Derived.OrdersHeld
import Derived.Scope
set_option linter.all false
set_option maxHeartbeats 4000000
set_option maxRecDepth 100000
open Go.Lib (hid)
namespace Go.Proofs.YtiijebameffenaaGreat
open Go.RowKit Go.Maps Go.Proofs.Tryz
open List (getD_eq_getElem?_getD getElem?_append getElem_mem length_append map_append mem_append mem_singleton nodup_append prefix_refl range range_succ replicate)
open Region (wanted)
open Instr (build fill loadAt sureAddr)
open Sem (run_bind run_pure)
open Result (andThen_ok)
open Or (inl inr)
open Nat (le_refl le_trans)
variable {B C b4 c f g i k n q t x:Nat}{K:Nat->Nat}{P:Program}{W0 w w' wr:World}{a:Option Addr}{l m:List Nat}{ms:List Int}{ops:Array Oper}{tg:Nat->List Nat}{u:Value}{ws:Nat->Value}{xs:List Value}{ρ:Operand->Value}
structure Dd where
 cD:Array Value
 K:Nat->Nat
 aN:Option Addr
 n:Nat
 cN:Nat
 A:Nat->Option Addr
 Cp:Nat->Nat
 len:Nat->Nat
 nx:Nat->Nat->Int
 aM:Option Addr
 m:Nat
 cM:Nat
 q:Nat->Int
structure DM (w:World)(D:Dd):Prop where
 sz:D.cD.size=258
 one:∀v∈D.cD.toList,v.oneCell'=true
 cl:∀j,j<256->D.cD[j]?=some (.int .u8 (D.K j))
 kl:∀j,j<256->D.K j<256
 fN:D.cD[256]?=some (.slice D.aN D.n D.cN)
 fM:D.cD[257]?=some (.slice D.aM D.m D.cM)
 rN:oP w D.aN D.n D.A D.Cp D.len D.nx
 rM:lT w D.aM D.m D.q
theorem DM.below{D:Dd}(h:DM w D)(k:Below w.heap.size w w'):DM w' D:=⟨h.sz,h.one,h.cl,h.kl,h.fN,h.fM,h.rN.below k,h.rM.below k⟩
structure dD (w:World)(b:Nat)(D:Dd):Prop where
 st:St w 101 b D.cD
 dm:DM w D
theorem dD.ae{b:Nat}{D:Dd}(h:dD w b D)(k:Below w.heap.size w w'):dD w' b D:=⟨h.st.ae k,h.dm.below k⟩
theorem dD.new{D:Dd}(h:DM w D):dD (w.alloc (.cells D.cD 101)) w.heap.size D:=⟨St.new _ _ _,h.below (al w _)⟩
theorem dD.f1{b:Nat}{D:Dd}(h:dD w b D):w.cell? ⟨b,256,none⟩=some (.slice D.aN D.n D.cN):=by rw[h.st.at_,h.dm.fN]
theorem dD.f2{b:Nat}{D:Dd}(h:dD w b D):w.cell? ⟨b,257,none⟩=some (.slice D.aM D.m D.cM):=by rw[h.st.at_,h.dm.fM]
theorem dD.f0{b:Nat}{D:Dd}(h:dD w b D)(j:Nat)(hj:j<256):w.cell? ⟨b,j,none⟩=some (.int .u8 (D.K j)):=by rw[h.st.at_,h.dm.cl j hj]
theorem DM.info{D:Dd}(h:DM w D):(prog.info? 101).map (·.size)=some D.cD.size:=by rw[iN,h.sz]
theorem DM.row{D:Dd}(h:DM w D)(i:Nat)(hi:i<D.n):∃g off,D.aN=some ⟨g,off,none⟩/\g<w.heap.size/\w.cell? ⟨g,off+i,none⟩=some (.slice (D.A i) (D.len i) (D.Cp i))/\lT w (D.A i) (D.len i) (D.nx i):=by
 obtain⟨g,off,e,hg,hc⟩:=h.rN (by omega);exact⟨g,off,e,hg,hc i hi⟩
def Nz(K:Nat->Nat)(C:Nat):Prop:=(∀j,j<256->K j<C)/\∃j,j<256/\K j+1=C
structure DR (D:Dd)(C:Nat):Prop where
 c:Nz D.K C
 n1:1<=D.n
 n2:D.n<=32768
 m:D.m=D.n
 LY:∀c,c<C->∃j,j<256/\D.K j=c
 len:∀i,i<D.n->D.len i=C
 q:∀i,i<D.n->-1<=D.q i/\D.q i<32768
 nx:∀i c,i<D.n->c<C->-1<=D.nx i c/\D.nx i c<(D.n:Int)
theorem DR.lf{D:Dd}(h:DR D C)(hk:∀j,j<256->D.K j<256):1<=C/\C<=256:=by
 obtain⟨j,hj,e⟩:=h.c.2;have:=hk j hj;omega
def bu(K:Nat->Nat):Array Value:=((range 256).map fun j=>Value.int .u8 (K j)).toArray
theorem Ii(K:Nat->Nat)(j:Nat)(hj:j<256):(bu K)[j]?=some (.int .u8 (K j)):=by simp[bu,hj]
theorem Ml(K:Nat->Nat):(bu K).size=256:=by simp[bu]
theorem BG(K:Nat->Nat):(prog.info? 98).map (·.size)=some (bu K).size:=by rw[Ml];kernel_rfl
theorem dD.fy{b:Nat}{D:Dd}(h:dD w b D):∀j v,(bu D.K).toList[j]?=some v->w.cell? ((⟨b,0,none⟩:Addr).add j)=some v:=fun j v hj=>by
 have hl:j<256:=by
  have:=(List.getElem?_eq_some_iff.1 hj).1
  simpa [Ml] using this
 have e:(⟨b,0,none⟩:Addr).add j=⟨b,j,none⟩:=by unfold Addr.add;split <;> simp_all
 rw[e,h.f0 j hl,<-hj,Array.getElem?_toList,Ii _ j hl]
theorem St.fy{b:Nat}(h:St w t b (bu K)):∀j v,(bu K).toList[j]?=some v->w.cell? ((⟨b,0,none⟩:Addr).add j)=some v:=h.part
theorem pU{rest:List Oper}{o:Oper}{a:Act}{Q:Exit->Act->World->Prop}(hw:wanted o (yielded ops a.tmps)=true)(ty:TypeId)(x:Operand)(ho:o.op=.load ty x)
  (ad:Addr) (hx:a.eval x=.pointer (some ad)) (cs:Array Value) (d:TypeDesc) (hc:∀j v,cs.toList[j]?=some v->w.cell? (ad.add j)=some v)
  (hu:P.underlying ty=some d) (hd:(match d with|.struct _|.array _ _=>true|_=>false)=true) (hi:(P.info? ty).map (·.size)=some cs.size)
  (h:wpList P ops Q rest (a.put o.dst (.agg cs)) w):wpList P ops Q (o :: rest) a w:=
 BigFrame.wpList_want hw fun _ hK=>by
  unfold Oper.wp execOp
  simp only[ho,hx,loadAt,sureAddr,run_bind,run_pure,andThen_ok,JC w ad ty cs d hc hu hd hi]
  exact hK _ _ h
theorem M4(K:Nat->Nat)(C:Nat)(hC:Nz K C)(hk:∀j,j<256->K j<256)(w:World):
  Calls prog 155 #[.agg (bu K)] w fun e w'=>e=.returned (.int .i64 (C:Int))/\Below w.heap.size w w':=by
 have hB:=al w (.cells (bu K) 98);have hS:=St.new w 98 (bu K);have hM:=hid (XZ K 256 256 w.heap.size (by omega) (by omega) hk (w.alloc (.cells (bu K) 98)) (fun j hj=>by rw[hS.at_,Ii K j hj]));have HB:=hid hB;have HT:Hid (∀x,(∀j,j<256->K j<=x)->(∃j,j<256/\K j=x)->x+1=C/\x<256):=fun x h1 h2=>by
  obtain⟨j,hj,e⟩:=hC.2;obtain⟨j',E9,rfl⟩:=h2;have:=hC.1 j' E9;have:=h1 j hj;have:=hk j' E9;omega
 clear hB hS;go_in;go_wp2_with fail;refine hM.o.mono ?_;rintro e w2 ⟨x,rfl,h1,h2,rfl⟩;obtain⟨hx,lZ⟩:=HT.o x h1 h2;have HX:=hid hx;clear h1 h2 hx;go_wp2;go_ret;exact⟨by rw[<-HX.o];first|rfl|(simp;done),HB.o⟩
theorem Qe(D:Dd)(s:Int)(w:World)(hD:DM w D):
  Calls prog 103 #[.agg D.cD,.int .i64 s] w fun e w'=>e=.returned (.bool (decide (0<=s/\s<(D.n:Int))))/\Below w.heap.size w w':=by
 have HB:=ζ (dD.new hD) (al w (.cells D.cD 101));clear hD;go_in;go_upto_region 1 with fail;generalize w.alloc (.cells D.cD 101)=W0 at HB⊢;generalize bz:w.heap.size=b0 at HB⊢;have eY:=hid bz;clear bz;have f1:=HB.o.1.f1;by_cases h0:0<=s
 ·by_cases h1:s<(D.n:Int)
  ·have HZ:Hid (decide (0<=s/\s<(D.n:Int))=true):=(by show _=_;simp[h0,h1]);go_wp2;go_ret;exact⟨by rw[HZ.o];first|rfl|simp[h0,h1],by first|exact HB.o.2|(rw[eY.o];exact HB.o.2)⟩
  have HZ:Hid (decide (0<=s/\s<(D.n:Int))=false):=by show _=_;simp;omega
  go_wp2;go_ret;exact⟨by first|(rw[HZ.o];rfl)|(rw[show decide (0<=s/\s<(D.n:Int))=false from HZ.o];rfl)|(have:=HZ.o;simp_all),by first|exact HB.o.2|(rw[eY.o];exact HB.o.2)⟩
 have HZ:Hid (decide (0<=s/\s<(D.n:Int))=false):=by show _=_;simp;omega
 go_wp2;go_ret;exact⟨by first|(rw[HZ.o];rfl)|(rw[show decide (0<=s/\s<(D.n:Int))=false from HZ.o];rfl)|(have:=HZ.o;simp_all),by first|exact HB.o.2|(rw[eY.o];exact HB.o.2)⟩
theorem zdB(K:Nat->Nat)(C:Nat)(hC:Nz K C)(hk:∀j,j<256->K j<256)(hg:∀c,c<C->∃j,j<256/\K j=c)(w:World):
  Calls prog 121 #[.agg (bu K)] w fun e w'=>e=.returned (.bool true)/\Below w.heap.size w w':=by
 have hC256:C<=256:=by
  obtain⟨j,hj,e⟩:=hC.2;have:=hk j hj;omega
 have HB:=φ (St.new w 98 (bu K)) (al w (.cells (bu K) 98)) hC hk hg;have fI:=BG K;clear hC hk hg;go_in;go_wp2_with fail;generalize w.alloc (.cells (bu K) 98)=W0 at HB⊢;generalize bz:w.heap.size=b0 at HB⊢;have eY:=hid bz;clear bz;have CQ:=hid (M4 K C HB.o.2.2.1 HB.o.2.2.2.1 W0);refine wp_scope_straight (wp_seq (wp_label ?_));go_wp2_with (refine tH rfl 98 _ rfl ⟨b0,0,none⟩ rfl (bu K) (.array 256 5) HB.o.1.fy underlying98 rfl fI ?_);refine CQ.o.mono ?_;rintro e w1 ⟨rfl,b1⟩;have H1:=ζ (HB.o.1.ae b1) (HB.o.2.1.trans (b1.mono (by have:=HB.o.2.1.size;have:=eY.o;omega)));clear b1 CQ;go_wp2;go_loopw [3,5,8,12] (fun _ _ v _ wr=>∃(c:Nat),v=.int .i64 c/\c<=C/\wr=w1) (fun _ _ v _ _=>C-(intOf v).toNat)
 ·exact⟨0,rfl,by omega,rfl⟩
 obtain⟨c,rfl,hc,rfl⟩:=hrel;by_cases aq:c<C
 ·have i1:(c:Int)<C:=by omega
  obtain⟨W9,hW9⟩:∃W9,W9=wr:=⟨wr,rfl⟩
  have fC:=hid H1.o.1;go_wp2_with (refine tH rfl 98 _ rfl ⟨b0,0,none⟩ rfl (bu K) (.array 256 5) fC.o.fy underlying98 rfl fI ?_);go_loopw [5,12] (fun _ v wq=>∃(k:Nat),v=.int .i64 k/\k<=256/\wq=wr/\Hid (∀j,j<k->K j≠c)) (fun _ v _=>256-(intOf v).toNat)
  ·exact⟨0,rfl,by omega,rfl,fun j hj=>by omega⟩
  obtain⟨k,rfl,fS,rfl,HN⟩:=hrel;by_cases fW:k<256
  ·have i2:(k:Int)<256:=(by omega);have hv:=Ii K k fW;have DK:=T0 98 5 256 (bu K) k _ underlying98 fW (by kernel_rfl) ⟨_,underlying5,rfl⟩ hv wr;have Ar:=HB.o.2.2.2.1 k fW;have HS:Hid (K k≠c->∀j,j<k+1->K j≠c):=fun h j hj=>by
    by_cases e:j=k
    ·subst e;exact h
    exact HN.o j (by omega)
   generalize K k=y at hv DK Ar HS;by_cases e:y=c
   ·subst e;clear HS;go_wp2;go_roundw
    ·exact⟨y+1,by go_num,by omega,by first|trivial|rfl⟩
    simp[intOf];omega
   have HZ:=hid (HS.o e);have i3:¬((y:Int)=c):=(by omega);go_wp2;go_roundw
   ·exact⟨k+1,by go_num,by omega,by first|trivial|rfl,HZ⟩
   simp[intOf];omega
  obtain rfl:k=256:=by omega
  obtain⟨j,hj,e⟩:=HB.o.2.2.2.2 c aq;exact absurd e (HN.o j hj)
 obtain rfl:c=C:=by omega
 go_wp2_with fail
 try dsimp only[Exit.noGoto]
 go_ret;exact⟨rfl,by rw[eY.o];exact H1.o.2⟩
theorem zeG(D:Dd)(C:Nat)(hR:DR D C)(w:World)(hD:DM w D):
  Calls prog 122 #[.agg D.cD] w fun e w'=>e=.returned (.bool true)/\Below w.heap.size w w':=by
 have HB:=ξ (dD.new hD) (al w (.cells D.cD 101)) hR;have dd:=hR.n2;have ly:=hR.m;clear hD hR;go_in;go_upto_region 1 with fail;generalize w.alloc (.cells D.cD 101)=W0 at HB⊢;generalize bz:w.heap.size=b0 at HB⊢;have eY:=hid bz;clear bz;have f1:=HB.o.1.f1;have f2:=HB.o.1.f2;rw[ly] at f2;have Pd:=hid ly;clear ly;go_wp2;go_loopw [4,8] (fun _ v wr=>∃(k:Nat),v=.int .i64 k/\k<=D.n/\wr=W0) (fun _ v _=>D.n-(intOf v).toNat)
 ·exact⟨0,rfl,by omega,rfl⟩
 obtain⟨k,rfl,hk,rfl⟩:=hrel;by_cases aq:k<D.n
 ·obtain⟨gM,oM,eM,_,pj⟩:=HB.o.1.dm.rM (by have:=Pd.o;omega);have cM:=pj k (by have:=Pd.o;omega);have hq:=HB.o.2.2.q k aq;have i1:(k:Int)<(D.n:Int):=by omega
  rw[eM];have HeM:=hid eM;clear pj eM;generalize D.q k=y at cM hq;have i2:decide (y < -1)=false:=by simp;omega
  have i3:decide (32768<=y)=false:=by simp;omega
  go_wp2;go_roundw
  ·exact⟨k+1,by go_num,by omega,by first|trivial|rfl⟩
  simp[intOf];omega
 obtain rfl:k=D.n:=by omega
 go_wp2;go_ret;exact⟨rfl,by rw[eY.o];exact HB.o.2.1⟩
theorem zf7(D:Dd)(C:Nat)(hR:DR D C)(w:World)(hD:DM w D):
  Calls prog 123 #[.agg D.cD] w fun e w'=>e=.returned (.bool true)/\Below w.heap.size w w':=by
 have HB:=ξ (dD.new hD) (al w (.cells D.cD 101)) hR;have dd:=hR.n2;have Bt:=(hR.lf hD.kl).2;have fI:=BG D.K;clear hD hR;go_in;go_upto_region 1 with fail;generalize w.alloc (.cells D.cD 101)=W0 at HB⊢;generalize bz:w.heap.size=b0 at HB⊢;have eY:=hid bz;clear bz;have CQ:=hid (M4 D.K C HB.o.2.2.c HB.o.1.dm.kl W0);go_wp2_with (refine tH rfl 98 _ rfl ⟨b0,0,none⟩ rfl (bu D.K) (.array 256 5) HB.o.1.fy underlying98 rfl fI ?_);refine CQ.o.mono ?_;rintro e w1 ⟨rfl,b1⟩;have H1:=ζ (HB.o.1.ae b1) (HB.o.2.1.trans (b1.mono (by have:=HB.o.2.1.size;have:=eY.o;omega)));have f1:=H1.o.1.f1;clear b1 CQ;obtain⟨gN,oN,eN,od,rF⟩:=H1.o.1.dm.rN (by have:=HB.o.2.2.n1;omega);rw[eN] at f1;have Db:=hid eN;have xA:=hid rF;clear eN rF;go_wp2;go_loopw [5,7,14,24] (fun _ _ v _ wr=>∃(i:Nat),v=.int .i64 i/\i<=D.n/\Hid (Below w1.heap.size w1 wr)) (fun _ _ v _ _=>D.n-(intOf v).toNat)
 ·exact⟨0,rfl,by omega,Below.refl _ _⟩
 obtain⟨i,rfl,hi,HX⟩:=hrel;clear f1;by_cases aq:i<D.n
 ·have cN:=(HX.o.cell (p:=⟨gN,oN+i,none⟩) od).trans (xA.o i aq).1;have KR:=hid (xA.o i aq).2;have hlen:=HB.o.2.2.len i aq;rw[hlen] at cN;rw[hlen] at KR;have i1:(i:Int)<(D.n:Int):=by omega
  try dsimp only at cN
  clear hlen;go_wp2;go_loopw [7,24] (fun _ v wq=>∃(c:Nat),v=.int .i64 c/\c<=C/\Hid (Below w1.heap.size w1 wq)) (fun _ v _=>C-(intOf v).toNat)
  ·exact⟨0,rfl,by omega,HX⟩
  clear HX cN;obtain⟨c,rfl,hc,HX⟩:=hrel;by_cases xu:c<C
  ·obtain⟨gA,oA,eA,FX,p9⟩:=KR.o (by omega);have cA:=(HX.o.cell (p:=⟨gA,oA+c,none⟩) FX).trans (p9 c xu);have hb:=HB.o.2.2.nx i c aq xu;have i2:(c:Int)<C:=(by omega);have vd:=hid (H1.o.1.ae HX.o);rw[eA];have O5:=hid eA;clear p9 eA;generalize D.nx i c=t at cA hb;by_cases ht:t=-1
   ·subst ht;go_wp2;go_roundw
    ·exact⟨c+1,by go_num,by omega,HX⟩
    simp[intOf];omega
   have ht2:(t != (-1:Int))=true:=(by simp[ht]);have xv:=hid (Qe D t wr vd.o.dm);have HDe:Hid (decide (0<=t/\t<(D.n:Int))=true):=(by show _=_;simp;omega);go_wp2_with (refine pU (by first|rfl|(simp[ht];done)) 101 _ rfl ⟨b0,0,none⟩ rfl D.cD _ vd.o.st.part underlying101 rfl vd.o.dm.info ?_);refine xv.o.mono ?_;rintro e w5 ⟨rfl,b5⟩;have ob:=hid (HX.o.trans (b5.mono HX.o.size));rw[HDe.o];clear b5 xv;go_wp2;go_roundw
   ·exact⟨c+1,by go_num,by omega,ob⟩
   simp[intOf];omega
  obtain rfl:c=C:=by omega
  go_wp2;go_roundw
  ·exact⟨i+1,by go_num,by omega,HX⟩
  simp[intOf];omega
 obtain rfl:i=D.n:=by omega
 have HF:Hid (Below w.heap.size w wr):=by
  rw[eY.o];exact H1.o.2.trans (HX.o.mono (by have:=H1.o.2.size;have:=eY.o;omega))
 go_wp2;go_ret;exact⟨rfl,HF.o⟩
theorem Ji(D:Dd)(C:Nat)(hR:DR D C)(w:World)(hD:DM w D):
  Calls prog 97 #[.agg D.cD] w fun e w'=>e=.returned (.bool true)/\Below w.heap.size w w':=by
 have HB:=ξ (dD.new hD) (al w (.cells D.cD 101)) hR;have dd:=hR.n2;have dr:=hR.n1;have fI:=BG D.K;clear hD hR;go_in;go_upto_region 1 with fail;generalize w.alloc (.cells D.cD 101)=W0 at HB⊢;generalize bz:w.heap.size=b0 at HB⊢;have eY:=hid bz;clear bz;have f1:=HB.o.1.f1;have i1:¬((D.n:Int)<1):=by omega
 have i2:¬((32768:Int)<(D.n:Int)):=by omega
 have IQ:b0<=W0.heap.size:=by have:=HB.o.2.1.size;have:=eY.o;omega
 have ZH:=hid (zdB D.K C HB.o.2.2.c HB.o.1.dm.kl HB.o.2.2.LY W0);go_wp2_with (refine tH rfl 98 _ rfl ⟨b0,0,none⟩ rfl (bu D.K) (.array 256 5) HB.o.1.fy underlying98 rfl fI ?_);refine ZH.o.mono ?_;rintro e w1 ⟨rfl,b1⟩;have H1:=ζ (HB.o.1.ae b1) (HB.o.2.1.trans (b1.mono IQ));have fT:b0<=w1.heap.size:=by have:=b1.size;omega
 have Aj:=hid (zeG D C HB.o.2.2 w1 H1.o.1.dm);clear b1 f1 ZH;go_wp2_with (refine pU (by rfl) 101 _ rfl ⟨b0,0,none⟩ rfl D.cD _ H1.o.1.st.part underlying101 rfl H1.o.1.dm.info ?_);refine Aj.o.mono ?_;rintro e w2 ⟨rfl,b2⟩;have H2:=ζ (H1.o.1.ae b2) (H1.o.2.trans (b2.mono fT));have cH:b0<=w2.heap.size:=by have:=b2.size;omega
 have F7:=hid (zf7 D C HB.o.2.2 w2 H2.o.1.dm);clear b2 Aj;go_wp2_with (refine pU (by rfl) 101 _ rfl ⟨b0,0,none⟩ rfl D.cD _ H2.o.1.st.part underlying101 rfl H2.o.1.dm.info ?_);refine F7.o.mono ?_;rintro e w3 ⟨rfl,b3⟩;have HF:Hid (Below w.heap.size w w3):=by
  rw[eY.o];exact H2.o.2.trans (b3.mono cH)
 clear b3 F7;go_wp2;go_ret;exact⟨rfl,HF.o⟩
theorem zez(w:World)(ty:TypeId)(ad:Addr)(cs:Array Value)(d:TypeDesc)(hc:∀j v,cs.toList[j]?=some v->w.cell? (ad.add j)=some v)
  (hu:P.underlying ty=some d) (hd:(match d with|.struct _|.array _ _=>true|_=>false)=true) (hi:(P.info? ty).map (·.size)=some cs.size):
  (loadAt ty (.pointer (some ad))).run P w=.ok (.agg cs) w:=by
 simp only[loadAt,sureAddr,run_bind,run_pure,andThen_ok,JC w ad ty cs d hc hu hd hi]
theorem EZ{o:Oper}(w:World)(ty:TypeId)(x:Operand)(ho:o.op=.load ty x)(ad:Addr)(hx:ρ x=.pointer (some ad))(cs:Array Value)(d:TypeDesc)(hc:∀j v,cs.toList[j]?=some v->w.cell? (ad.add j)=some v)
  (hu:P.underlying ty=some d) (hd:(match d with|.struct _|.array _ _=>true|_=>false)=true) (hi:(P.info? ty).map (·.size)=some cs.size):
  (execOp ρ o).run P w=.ok (.value (.agg cs)) w:=by
 unfold execOp;simp only[ho,hx,run_bind,zez w ty ad cs d hc hu hd hi,andThen_ok,run_pure]
inductive nV (E:Nat->Nat->Prop) (A:Nat->Prop):Nat->Prop
 | base {x:Nat}:A x->nV E A x
 | step {x y:Nat}:nV E A x->E x y->nV E A y
theorem nV.lt{E:Nat->Nat->Prop}{A:Nat->Prop}{N:Nat}(hA:∀x,A x->x<N)(hE:∀x y,E x y->y<N)(h:nV E A x):x<N:=by
 cases h with
 | base h=>exact hA _ h
 | step _ e=>exact hE _ _ e
theorem nV.head{E:Nat->Nat->Prop}{y:Nat}{B:Nat->Prop}(hxy:E x y)(h:nV E (fun z=>z=y) k):nV E (fun z=>z=x) k:=by
 induction h with
 | base h=>subst h;exact .step (.base rfl) hxy
 | step _ e ih=>exact .step ih e
theorem zoY{E:Nat->Nat->Prop}{B:Nat->Prop}(x:Nat):nV (fun a b=>E b a) B x↔∃k,nV E (fun z=>z=x) k/\B k:=by
 constructor
 ·intro h
  induction h with
  | base h=>exact⟨_,.base rfl,h⟩
  | @step a b _ e ih=>
   obtain⟨k,h1,h2⟩:=ih;exact⟨k,nV.head (B:=B) e h1,h2⟩
 rintro⟨k,h1,h2⟩;have:∀y,nV E (fun z=>z=x) y->nV (fun a b=>E b a) B y->nV (fun a b=>E b a) B x:=by
  intro y hy
  induction hy with
  | base h=>subst h;exact fun h=>h
  | step _ e ih=>exact fun h=>ih (.step h e)
 exact this k h1 (.base h2)
def Ed(D:Dd)(x y:Nat):Prop:=x<D.n/\∃c,c<D.len x/\D.nx x c=(y:Int)
theorem DR.ed{D:Dd}(h:DR D C):∀x y,Ed D x y->y<D.n:=fun x y ⟨hx,c,hc,e⟩=>by
 rw[h.len x hx] at hc
 have:=h.nx x c hx hc
 omega
def l7(m:List Nat)(t:Int):List Nat:=if 0<=t/\t.toNat∉m then m++[t.toNat] else m
def jZ(m:List Nat)(row:List Int):List Nat:=row.foldl l7 m
def rR(rows:Nat->List Int)(m:List Nat)(i:Nat):List Nat:=if i<m.length then jZ m (rows (m.getD i 0)) else m
def dN(rows:Nat->List Int)(m:List Nat):Nat->List Nat
 | 0=>m
 | k+1=>rR rows (dN rows m k) k
theorem zoZ(m:List Nat)(t:Int):m <+: l7 m t:=by
 unfold l7;split
 ·exact List.prefix_append _ _
 exact prefix_refl _
theorem zo0(row:List Int):∀m,m <+: jZ m row:=by
 induction row with
 | nil=>exact fun m=>prefix_refl _
 | cons t row ih=>exact fun m=>(zoZ m t).trans (ih _)
theorem zmX(m:List Nat)(row:List Int)(t:Int):jZ m (row++[t])=l7 (jZ m row) t:=by simp[jZ,List.foldl_append]
theorem zo1(m:List Nat)(t:Int)(x:Nat):x∈l7 m t↔x∈m\/t=(x:Int):=by
 unfold l7;split
 ·rename_i h;rw[mem_append,mem_singleton];constructor
  ·rintro (h1|h1)
   ·exact inl h1
   exact inr (by omega)
  rintro (h1|h1)
  ·exact inl h1
  exact inr (by omega)
 rename_i h;refine⟨inl,?_⟩;rintro (h1|h1)
 ·exact h1
 refine Classical.byContradiction fun hn=>h ⟨by omega,?_⟩
 have:t.toNat=x:=by omega
 rw[this];exact hn
theorem Ps(row:List Int):∀m x,x∈jZ m row↔x∈m\/((x:Nat):Int)∈row:=by
 induction row with
 | nil=>intro m x;simp[jZ]
 | cons t row ih=>
  intro m x;show x∈jZ (l7 m t) row↔_;rw[ih,zo1,List.mem_cons];constructor
  ·rintro ((h|h)|h)
   ·exact inl h
   ·exact inr (inl h.symm)
   exact inr (inr h)
  rintro (h|h|h)
  ·exact inl (inl h)
  ·exact inl (inr h.symm)
  exact inr h
theorem zkD(h:m.Nodup)(t:Int):(l7 m t).Nodup:=by
 unfold l7;split
 ·rename_i h2;rw[nodup_append];exact⟨h,by simp,fun a ha b hb e=>by
   rw[List.mem_singleton.1 hb] at e
   rw[e] at ha
   exact h2.2 ha⟩
 exact h
theorem T8(rows:Nat->List Int)(m:List Nat)(k:Nat):dN rows m k <+: dN rows m (k+1):=by
 show _ <+: rR rows (dN rows m k) k;unfold rR;split
 ·exact zo0 _ _
 exact prefix_refl _
theorem zjm(rows:Nat->List Int)(m:List Nat)(h:(dN rows m k).length=k):∀j,k<=j->dN rows m j=dN rows m k:=by
 intro j hj
 induction j with
 | zero=>rw[show k=0 by omega]
 | succ j ih=>
  by_cases e:k=j+1
  ·rw[e]
  have h2:=ih (by omega);show rR rows (dN rows m j) j=_;rw[h2];unfold rR;rw[if_neg (by omega)]
theorem zo2(rows:Nat->List Int)(m:List Nat){j:Nat}(hi:(dN rows m i).length=i)(hj:(dN rows m j).length=j):dN rows m i=dN rows m j:=by
 rcases Nat.le_total i j with h|h
 ·exact (zjm rows m hi j h).symm
 exact zjm rows m hj i h
def WE(rows:Nat->List Int)(x y:Nat):Prop:=((y:Nat):Int)∈rows x
theorem zrT(rows:Nat->List Int)(m:List Nat)(k:Nat):∀x∈dN rows m k,nV (WE rows) (fun y=>y∈m) x:=by
 induction k with
 | zero=>exact fun x hx=>.base hx
 | succ k ih=>
  intro x hx;have lZ:x∈rR rows (dN rows m k) k:=hx;unfold rR at lZ;split at lZ
  ·rename_i h;rw[Ps] at lZ;rcases lZ with h1|h1
   ·exact ih x h1
   refine .step (ih ((dN rows m k).getD k 0) ?_) h1;rw[show (dN rows m k).getD k 0=(dN rows m k)[k] by simp[getD_eq_getElem?_getD,h]];exact getElem_mem h
  exact ih x lZ
theorem Uq(rows:Nat->List Int)(m:List Nat)(k:Nat):∀j,j<k->∀h:j<(dN rows m k).length,∀y,WE rows (dN rows m k)[j] y->y∈dN rows m k:=by
 induction k with
 | zero=>intro j hj;omega
 | succ k ih=>
  intro j hj h y hy;have hp:=T8 rows m k;by_cases hl:k<(dN rows m k).length
  ·have e1:dN rows m (k+1)=jZ (dN rows m k) (rows ((dN rows m k).getD k 0)):=by
    show rR rows _ k=_;unfold rR;rw[if_pos hl]
   by_cases e:j=k
   ·subst e;rw[<-hp.getElem hl] at hy;rw[e1,Ps];refine inr ?_;have e2:(dN rows m j).getD j 0=(dN rows m j)[j]:=(by simp[getD_eq_getElem?_getD,hl]);rw[e2];exact hy
   have iu:j<(dN rows m k).length:=(by omega);rw[<-hp.getElem iu] at hy;have:=ih j (by omega) iu y hy;exact hp.subset this
  have e1:dN rows m (k+1)=dN rows m k:=by
   show rR rows _ k=_;unfold rR;rw[if_neg hl]
  have iu:j<(dN rows m k).length:=by rw[e1] at h;exact h
  have qw:WE rows (dN rows m k)[j] y:=by
   rw[hp.getElem iu];exact hy
  rw[e1];exact ih j (by omega) iu y qw
theorem Tv(rows:Nat->List Int)(m:List Nat)(k:Nat):m <+: dN rows m k:=by
 induction k with
 | zero=>exact prefix_refl _
 | succ k ih=>exact ih.trans (T8 rows m k)
theorem zqX(rows:Nat->List Int)(m:List Nat)(hi:(dN rows m i).length=i)(x:Nat):x∈dN rows m i↔nV (WE rows) (fun y=>y∈m) x:=by
 refine⟨zrT rows m i x,fun h=>?_⟩
 induction h with
 | base h=>exact (Tv rows m i).subset h
 | step _ e ih=>
  obtain⟨j,hj,e2⟩:=List.getElem_of_mem ih;refine Uq rows m i j (by omega) hj _ ?_;rw[e2];exact e
theorem VO(rows:Nat->List Int)(hm:m.Nodup)(k:Nat):(dN rows m k).Nodup:=by
 have hR:∀(row:List Int) (m:List Nat),m.Nodup->(jZ m row).Nodup:=by
  intro row
  induction row with
  | nil=>exact fun m h=>h
  | cons t row ih=>exact fun m h=>ih _ (zkD h t)
 induction k with
 | zero=>exact hm
 | succ k ih=>
  show (rR rows _ k).Nodup;unfold rR;split
  ·exact hR _ _ ih
  exact ih
structure OB (W0:World)(g n:Nat)(f:Nat->Bool)(wr:World):Prop where
 own:wr.ownsRow W0.heap.size 4 1 (.slice (some ⟨g,0,none⟩) n n) n (jC f n)
 bc:Below W0.heap.size W0 wr
 lo:W0.heap.size<=g
theorem OB.made(W0:World)(n:Nat)(hn:n<=maxLen):OB W0 W0.heap.size n (fun _=>false) (W0.alloc (.cells (madeCells #[.bool false] n) 4)):=by
 refine⟨?_,al W0 _,le_refl _⟩;have:=Fb W0 W0.heap.size n 4 (.bool false) (le_refl _) hn;rwa [zqc] at this
theorem OB.put{f:Nat->Bool}(h:OB W0 g n f wr)(j:Nat)(hj:j<n)(v:Bool):OB W0 g n (fun i=>if i=j then v else f i) (wr.setCell ⟨g,j,none⟩ (.bool v)):=by
 refine⟨?_,h.bc.setCell (p:=⟨g,j,none⟩) h.lo _,h.lo⟩;have:=xC h.own j hj (.bool v);rwa [ziJ] at this
theorem OB.cell{f:Nat->Bool}(h:OB W0 g n f wr)(j:Nat)(hj:j<n):wr.cell? ⟨g,j,none⟩=some (.bool (f j))/\wr.frozen? ⟨g,j,none⟩=false:=by
 obtain⟨g',e,_,_,hc⟩:=fG h.own (by omega);have e2:g'=g:=by
  injection e with e;injection e with e _;exact e.symm
 subst e2;obtain⟨h1,h2⟩:=hc j (by omega);exact⟨by rw[h1];simp[jC,hj],h2⟩
def N5(n:Nat)(P:Nat->Prop)(w:World)(e:Ending)(w':World):Prop:=
 ∃(f:Nat->Bool) (a:Option Addr) (c:Nat),e=.returned (.slice a n c)/\w'.ownsRow w.heap.size 4 1 (.slice a n c) n (jC f n)/\(∀x,x<n->(f x=true↔P x))/\Below w.heap.size w w'
def AE(D:Dd)(x:Nat):Prop:=∃k,nV (Ed D) (fun y=>y=x) k/\0<=D.q k
def pe(w:World)(a:Option Addr)(l:List Nat):Prop:=lT w a l.length (fun i=>((l.getD i 0:Nat):Int))
theorem pe.below(h:pe w a l)(k:Below w.heap.size w w'):pe w' a l:=lT.below h k
theorem vy(h:w.ownsRow B 3 1 (.slice a n c) n (dv l))(hl:l.length=n):pe w a l:=by
 have e:dv l=ints (l.map fun x=>((x:Nat):Int)):=by simp[dv,ints]
 rw[e] at h;have h2:=U0 h (by simpa using hl);unfold pe;rw[hl];intro h0;obtain⟨g,off,e1,e2,hc⟩:=h2 h0;refine⟨g,off,e1,e2,fun j hj=>?_⟩;rw[hc j hj];have:j<l.length:=by omega
 simp[getD_eq_getElem?_getD,this]
theorem VU(n:Nat)(l:List Nat)(a:Option Addr)(q c:Nat)(hq:l.length=q)(hq2:q<=1000000)(hn:n<=1000000)(hl:∀x∈l,x<n)(w:World)(hL:pe w a l):
  Calls prog 157 #[.int .i64 (n:Int),.slice a q c] w (N5 n (fun x=>x∈l) w):=by
 have gP:=zqb n (by omega);have HL:=ξ hL hq hl;have HO:=hid (OB.made w n (by unfold maxLen;omega));clear hL hq hl;go_in;go_wp2_with fail;obtain⟨g,hg⟩:=Ξ w.heap.size
 have lz:Hid (∀W1,(w.alloc (.cells (madeCells #[.bool false] n) 4))=W1->OB w g n (fun _=>false) W1):=fun W1 h=>by rw[<-h,<-hg];exact HO.o
 rw[hg];generalize qa:w.alloc (.cells (madeCells #[.bool false] n) 4)=W1;have HO:=hid (lz.o W1 qa);have HOl:=hid (fun (wr:World) (h:OB w g n (fun _=>false) wr)=>h);have HLW:=hid (fun (wr:World) (hb:Below w.heap.size w wr)=>HL.o.1.below hb);clear lz hg qa;go_loopw [7,12] (fun _ v wr=>∃(k:Nat) (f:Nat->Bool),v=.int .i64 k/\k<=q/\Hid (OB w g n f wr/\∀x,f x=true↔x∈l.take k)) (fun _ v _=>q-(intOf v).toNat)
 ·exact⟨0,_,rfl,by omega,⟨HO.o,fun x=>by simp⟩⟩
 clear HO;obtain⟨k,f,rfl,hk,HX⟩:=hrel;by_cases aq:k<q
 ·have hkl:k<l.length:=by rw[HL.o.2.1];exact aq
  obtain⟨gL,oL,rfl,_,c0⟩:=HLW.o wr HX.o.1.bc (by omega);have c1:=c0 k hkl;have hx:l.getD k 0=l[k]:=by simp[getD_eq_getElem?_getD,hkl]
  have kE:=HL.o.2.2 l[k] (getElem_mem hkl);dsimp only at c1;rw[hx] at c1;have HS:Hid (∀x,(if x=l[k] then true else f x)=true↔x∈l.take (k+1)):=fun x=>by
   rw[List.take_succ_eq_append_getElem hkl,mem_append,mem_singleton];by_cases e:x=l[k]
   ·rw[if_pos e];simp[e]
   rw[if_neg e,HX.o.2];simp[e]
  clear c0 hx;generalize l[k]=t at c1 kE HS;obtain⟨y0,y1⟩:=HX.o.1.cell t kE;have HA:=hid (HX.o.1.put t kE true);have i1:(k:Int)<q:=by omega
  have i2:(t:Int)<n:=by omega
  go_wp2;go_roundw
  ·exact⟨k+1,_,by go_num,by omega,⟨HA.o,HS.o⟩⟩
  simp[intOf];omega
 obtain rfl:k=q:=by omega
 have HZ:Hid (N5 n (fun x=>x∈l) w (.returned (.slice (some ⟨g,0,none⟩) n n)) wr):=
  ⟨f,_,_,rfl,HX.o.1.own,fun x _=>by rw[HX.o.2,List.take_of_length_le (by rw[HL.o.2.1];exact le_refl _)],HX.o.1.bc⟩
 go_wp2;go_ret;exact HZ.o
def UM(q:Nat)(z:Nat->Int)(w:World)(e:Ending)(w':World):Prop:=
 ∃(a:Option Addr) (c:Nat),e=.returned (.slice a q c)/\w'.ownsRow w.heap.size 3 1 (.slice a q c) q (ints ((range q).map z))/\Below w.heap.size w w'
theorem YO{z:Nat->Int}{o:Nat}(hc:∀j,j<q->w.cell? ⟨g,o+j,none⟩=some (.int .i64 (z j))):∀j u,(ints ((range q).map z))[j]?=some u->w.cell? ((⟨g,o,none⟩:Addr).add j)=some u:=by
 intro j u hj;have hl:j<q:=by
  have:=(List.getElem?_eq_some_iff.1 hj).1;simpa [ints] using this
 have e:(⟨g,o,none⟩:Addr).add j=⟨g,o+j,none⟩:=by unfold Addr.add;split <;> simp_all
 rw[e,hc j hl];simp[ints,hl] at hj;rw[hj]
theorem zjo(a:Option Addr)(n c:Nat)(W:World):(binOp .eql 43 (.slice a n c) (.slice none 0 0)).run prog W=.ok (.bool a.isNone) W:=by
 have h:=run_equal_slice_nil W 43 3 a n c underlying43;unfold binOp;simp only[run_bind,h,andThen_ok,run_pure]
theorem N8(q c:Nat)(a:Option Addr)(z:Nat->Int)(hq:q<=1000000)(w:World)(hz:lT w a q z)(ha:a=none->q=0/\c=0)(hs:∀ad,a=some ad->ad.spot=none):
  Calls prog 128 #[.slice a q c] w (UM q z w):=by
 have HZ:=hid hz;obtain⟨iI,hI,q8,rm,rf⟩:=info_parts aH;clear hz;go_in;rcases a with _|⟨g,o,sp⟩
 ·obtain⟨rfl,rfl⟩:=ha rfl;have he:(binOp .eql 43 (.slice none 0 0) (.slice none 0 0)).run prog w=.ok (.bool true) w:=zjo none 0 0 w;have HF:Hid (UM 0 z w (.returned (.slice none 0 0)) w):=⟨none,0,rfl,World.ownsRow_nil _ _ _ _,Below.refl _ _⟩
  go_wp2;go_ret;exact HF.o
 obtain rfl:sp=none:=hs _ rfl;have he:(binOp .eql 43 (.slice (some ⟨g,o,none⟩) q c) (.slice none 0 0)).run prog w=.ok (.bool false) w:=zjo _ q c w;have HN:Hid (∀W,Below w.heap.size w W->∀j u,(ints ((range q).map z))[j]?=some u->W.cell? ((⟨g,o,none⟩:Addr).add j)=some u):=fun W hb=>by
  rcases Nat.eq_zero_or_pos q with h0|h0
  ·subst h0;intro j u hj;simp[ints] at hj
  obtain⟨g',o',e,_,hc⟩:=(HZ.o.below hb) h0;injection e with e;injection e with e1 e2;subst e1 e2;exact YO hc
 have az:=zG w w.heap.size 3 1 #[] 0 rfl (le_refl _) (by decide);go_wp2_with (at_builtin;refine wpList_append_own_at _ rfl _ _ 43 rfl w.heap.size 3 iI (.int .i64 0) 1 8 underlying43 hI q8 rm rf rfl (by decide) _ _ _ rfl az ⟨g,o,none⟩ q c (ints ((range q).map z)) rfl (by simp[ints]) (HN.o _ (al w _)) ?d2 ?d3 ?d4 ?d5 ?_)
 case d2=>
  intro u hu;simp[ints] at hu;obtain⟨x,_,rfl⟩:=hu;rfl
 case d3=>unfold maxLen;omega
 case d4=>omega
 any_goals (first|(simp;done)|skip)
 intro v5 w5 ak aj _ bW
 try rw[Nat.zero_add] at ak
 try rw[Array.toList_empty,List.nil_append] at ak
 obtain⟨a5,c5,rfl⟩:=cy ak;have HF:Hid (UM q z w (.returned (.slice a5 q c5)) w5):=⟨a5,c5,rfl,ak,gu (al w (.cells #[] 3)) az (by simp) aj⟩
 clear ak aj bW;go_wp2;go_ret;exact HF.o
def aQ(len:Nat->Nat)(nx:Nat->Nat->Int)(i:Nat):List Int:=(range (len i)).map (nx i)
def Xl(rows:Nat->List Int)(l0:List Nat)(n:Nat)(w:World)(e:Ending)(w':World):Prop:=
 ∃(l:List Nat) (i:Nat) (a:Option Addr) (c:Nat),e=.returned (.slice a i c)/\w'.ownsRow w.heap.size 3 1 (.slice a i c) i (dv l)/\l=dN rows l0 i/\l.length=i/\i<=n/\(∀x∈l,x<n)/\Below w.heap.size w w'
theorem zm0(nx:Nat->Nat->Int)(x c:Nat)(m:List Nat):jZ m ((range (c+1)).map (nx x))=l7 (jZ m ((range c).map (nx x))) (nx x c):=by
 rw[range_succ,map_append,List.map_singleton,zmX]
theorem WR(n cL:Nat)(aL:Option Addr)(A:Nat->Option Addr)(Cp len:Nat->Nat)(nx:Nat->Nat->Int)(l0:List Nat)(aF:Option Addr)(q cF:Nat)(hn:n<=100000)(hlen:∀i,i<n->len i<=100000)(zQ:∀i c,i<n->c<len i->-1<=nx i c/\nx i c<(n:Int))
  (hq:l0.length=q) (kG:l0.Nodup) (l5:∀x∈l0,x<n) (w:World) (hR:oP w aL n A Cp len nx) (hF:pe w aF l0) (ha:aF=none->q=0/\cF=0) (hs:∀ad,aF=some ad->ad.spot=none):
  Calls prog 124 #[.slice aL n cL,.slice aF q cF] w (Xl (aQ len nx) l0 n w):=by
 have GO:q<=n:=by rw[<-hq];exact rb kG l5
 have HX:=hid (Zz hlen (Zz zQ (Zz hq (Zz kG (Zz l5 (Zz hR hF))))));have jM:=hid (N8 q cF aF (fun i=>((l0.getD i 0:Nat):Int)) (by omega) w (by rw[<-hq];exact hF) ha hs);obtain⟨iI,hI,q8,rm,rf⟩:=info_parts aH;clear hlen zQ hq kG l5 hR hF ha hs;go_in;go_wp2_with fail;refine jM.o.mono ?_;rintro e w1 ⟨a1,c1,rfl,az,b1⟩;have BP:ints ((range q).map (fun i=>((l0.getD i 0:Nat):Int)))=dv l0:=by
  apply List.ext_getElem?;intro j;have hq:=HX.o.2.2.1;by_cases h:j<q
  ·have h2:j<l0.length:=(by omega);simp[ints,dv,h,h2,getD_eq_getElem?_getD]
  have h2:¬j<l0.length:=by omega
  simp[ints,dv,h,h2]
 rw[BP] at az;have Ao:=ζ az b1;have HFl:=hid (VU n l0 a1 q c1 HX.o.2.2.1 (by omega) (by omega) HX.o.2.2.2.2.1 w1 (vy az HX.o.2.2.1));clear az b1 BP jM;go_wp2_with fail;refine HFl.o.mono ?_;rintro e w2 ⟨f,a2,c2,rfl,fx,hf,b2⟩;have gj:∃g,(Value.slice a2 n c2)=.slice (some ⟨g,0,none⟩) n c2\/n=0:=by
  rcases Nat.eq_zero_or_pos n with h|h
  ·exact⟨0,inr h⟩
  obtain⟨g,e,_⟩:=fG fx h;exact⟨g,inl (by rw[e])⟩
 have cH:jC f n=jC (fun x=>decide (x∈l0)) n:=zgx fun j hj=>by rw[Bool.eq_iff_iff,hf j hj,decide_eq_true_iff]
 rw[cH] at fx;have lz:Hid (w2.ownsRow w.heap.size 3 1 (.slice a1 q c1) q (dv l0)/\w2.ownsRow w.heap.size 4 1 (.slice a2 n c2) n (jC (fun x=>decide (x∈l0)) n)/\Below w.heap.size w w2):=⟨dE Ao.o.1 b2,jH fx Ao.o.2.size,Ao.o.2.trans (b2.mono Ao.o.2.size)⟩
 clear fx hf b2 cH HFl Ao;go_wp2;go_loopw [5,7,9,30] (fun v5 v7 _ _ wr=>∃(i p:Nat) (l:List Nat) (a:Option Addr) (c:Nat),v7=.int .i64 i/\i<=p/\p<=n/\v5=.slice a p c/\Hid (l=dN (aQ len nx) l0 i/\l.length=p/\l.Nodup/\(∀x∈l,x<n)/\wr.ownsRow w.heap.size 3 1 (.slice a p c) p (dv l)/\wr.ownsRow w.heap.size 4 1 (.slice a2 n c2) n (jC (fun x=>decide (x∈l)) n)/\Below w.heap.size w wr)) (fun _ v _ _ _=>n-(intOf v).toNat)
 ·exact⟨0,q,l0,a1,c1,rfl,by omega,GO,rfl,⟨rfl,HX.o.2.2.1,HX.o.2.2.2.1,HX.o.2.2.2.2.1,lz.o.1,lz.o.2.1,lz.o.2.2⟩⟩
 clear lz;obtain⟨i,p,l,a,c,rfl,hip,J5,rfl,HL⟩:=hrel;by_cases aq:i<p
 ·have tV:i<l.length:=by rw[HL.o.2.1];exact aq
  obtain⟨gM,rfl,_,_,cM⟩:=fG HL.o.2.2.2.2.1 (by omega);have d0:=(cM i (by omega)).1;rw[Ck l i tV] at d0;have kE:=HL.o.2.2.2.1 l[i] (getElem_mem tV);have I8:Hid (dN (aQ len nx) l0 (i+1)=jZ l (aQ len nx l[i])):=by
   show rR _ (dN _ _ i) i=_;rw[<-HL.o.1];unfold rR;rw[if_pos tV];simp[getD_eq_getElem?_getD,tV]
  clear cM;generalize l[i]=x at d0 kE I8;obtain⟨g2,Bu⟩:=gj;obtain rfl:a2=some ⟨g2,0,none⟩:=by
   rcases Bu with h|h
   ·injection h
   omega
  clear Bu;have hlx:=HX.o.1 x kE;obtain⟨gL,oL,eL,_,Cf⟩:=(HX.o.2.2.2.2.2.1.below HL.o.2.2.2.2.2.2) (by omega);obtain⟨d1,zx⟩:=Cf x kE;have KA:Hid (lT w (A x) (len x) (nx x)):=by
   obtain⟨_,_,_,_,cLw⟩:=HX.o.2.2.2.2.2.1 (by omega);exact (cLw x kE).2
  have ML:=hid (fun c hc=>HX.o.2.1 x c kE hc);have HeL:=hid eL;rw[eL];have i1:(i:Int)<p:=by omega
  have i2:(x:Int)<n:=by omega
  clear Cf zx eL;obtain⟨m,hm⟩:=Ξ (len x)
  have Hm:=hid hm;rw[hm] at d1 hlx KA;generalize A x=ax at d1 KA;generalize Cp x=cx at d1;clear hm;go_wp2_with fail;obtain⟨W9,rfl⟩:∃W9,W9=wr:=⟨wr,rfl⟩
  clear d0 d1;go_loopw [5,9,30] (fun v5 _ v30 wq=>∃(k p2:Nat) (l2:List Nat) (a:Option Addr) (c:Nat),v30=.int .i64 k/\k<=m/\p<=p2/\p2<=n/\v5=.slice a p2 c/\Hid (l2=jZ l ((range k).map (nx x))/\l2.length=p2/\l2.Nodup/\(∀x∈l2,x<n)/\wq.ownsRow w.heap.size 3 1 (.slice a p2 c) p2 (dv l2)/\wq.ownsRow w.heap.size 4 1 (.slice (some ⟨g2,0,none⟩) n c2) n (jC (fun x=>decide (x∈l2)) n)/\Below w.heap.size w wq)) (fun _ _ v _=>m-(intOf v).toNat)
  ·exact⟨0,p,l,_,c,rfl,by omega,by omega,J5,rfl,⟨rfl,HL.o.2.1,HL.o.2.2.1,HL.o.2.2.2.1,HL.o.2.2.2.2.1,HL.o.2.2.2.2.2.1,HL.o.2.2.2.2.2.2⟩⟩
  obtain⟨k,p2,l2,a,c,rfl,hk,tw,fR,rfl,HK⟩:=hrel;by_cases fW:k<m
  ·obtain⟨gA,oA,eA,_,p9⟩:=(KA.o.below HK.o.2.2.2.2.2.2) (by omega);have cA:=p9 k fW;have hb:=ML.o k (by rw[Hm.o];exact fW);have HS:=hid (zm0 nx x k l);rw[eA];have O5:=hid eA;have i3:(k:Int)<m:=(by omega);clear p9 eA;generalize nx x k=t at cA hb HS;by_cases ht:t=-1
   ·subst ht;have HZ:Hid (l2=jZ l ((range (k+1)).map (nx x))):=by
     show _=_;rw[HS.o,<-HK.o.1];unfold l7;rw[if_neg (by omega)]
    go_wp2;go_roundw
    ·exact⟨k+1,p2,l2,a,c,by go_num,by omega,by omega,by omega,rfl,⟨HZ.o,HK.o.2⟩⟩
    simp[intOf];omega
   obtain⟨u,rfl⟩:∃u:Nat,t=(u:Int):=(⟨t.toNat,by omega⟩);have hu:u<n:=(by omega);have i4:(u:Int)<n:=(by omega);have ht2:((u:Int) != (-1:Int))=true:=(by first|(simp;done)|(simp;omega));obtain⟨gS,eS,zu,_,cS⟩:=fG HK.o.2.2.2.2.2.1 (by omega);obtain rfl:gS=g2:=by
    injection eS with eS;injection eS with eS _;exact eS.symm
   have y0:=(cS u (by omega)).1;have y1:=(cS u (by omega)).2;have y2:(jC (fun x=>decide (x∈l2)) n)[u]?=some (.bool (decide (u∈l2))):=(by simp[jC,hu]);rw[y2] at y0;clear cS y2 eS ht;by_cases nf:u∈l2
   ·have hd:decide (u∈l2)=true:=(by simp[nf]);rw[hd] at y0;have HZ:Hid (l2=jZ l ((range (k+1)).map (nx x))):=by
     show _=_;rw[HS.o,<-HK.o.1];unfold l7;rw[if_neg (by simp[nf])]
    clear hd nf;go_wp2;go_roundw
    ·exact⟨k+1,p2,l2,a,c,by go_num,by omega,by omega,by omega,rfl,⟨HZ.o,HK.o.2⟩⟩
    simp[intOf];omega
   have hd:decide (u∈l2)=false:=(by simp[nf]);rw[hd] at y0;have HZ:Hid (l2++[u]=jZ l ((range (k+1)).map (nx x))):=by
    show _=_;rw[HS.o,<-HK.o.1];unfold l7;rw[if_pos ⟨by omega,by simpa using nf⟩];simp
   have HN:Hid ((l2++[u]).Nodup/\∀x∈l2++[u],x<n):=by
    refine⟨?_,fun y hy=>?_⟩
    ·rw[nodup_append];exact⟨HK.o.2.2.1,by simp,fun a ha b cH e=>by
      rw[List.mem_singleton.1 cH] at e
      rw[e] at ha
      exact nf ha⟩
    rcases List.mem_append.1 hy with h|h
    ·exact HK.o.2.2.2.1 y h
    rw[List.mem_singleton.1 h];exact hu
   have hpn3:p2+1<=n:=by
    have:=rb HN.o.1 HN.o.2;simp[HK.o.2.1] at this;exact this
   have HT:Hid ((wr.setCell ⟨gS,u,none⟩ (.bool true)).ownsRow w.heap.size 3 1 (.slice a p2 c) p2 (dv l2)/\(wr.setCell ⟨gS,u,none⟩ (.bool true)).ownsRow w.heap.size 4 1 (.slice (some ⟨gS,0,none⟩) n c2) n (jC (fun x=>decide (x∈l2++[u])) n)/\Below w.heap.size w (wr.setCell ⟨gS,u,none⟩ (.bool true))):=by
    have h1:=HK.o.2.2.2.2.1;have h2:=HK.o.2.2.2.2.2.1;refine⟨gk (ts:=[]) (bs:=[gS]) h1 ((Kept.refl _ _ _).setCell _ _ (inl (by simp))) (by simp) (fun b e hm=>iO h1 h2 (by decide) b e (by simp[List.mem_singleton.1 hm,Value.ownBlock])),?_,HK.o.2.2.2.2.2.2.setCell (p:=⟨gS,u,none⟩) zu _⟩;have h3:=xC h2 u hu (.bool true);rw[ziJ] at h3;have e:jC (fun x=>decide (x∈l2++[u])) n=jC (fun i=>if i=u then true else decide (i∈l2)) n:=zgx fun j hj=>by
     by_cases e:j=u
     ·simp[e]
     simp[e]
    rw[e];exact h3
   clear hd nf;go_upto_region 11 with fail;generalize wr.setCell ⟨gS,u,none⟩ (.bool true)=W5 at HT⊢;have hO:=HT.o.1;clear y0 y1;go_wp2_with (at_builtin;refine wpList_append_own_at _ rfl _ _ 43 rfl w.heap.size 3 iI (.int .i64 0) 1 8 underlying43 hI q8 rm rf rfl (by decide) _ _ _ rfl (hO.alloc _) ⟨W5.heap.size,0,none⟩ 1 1 [.int .i64 (u:Int)] rfl rfl (cell_one_new _ _ _) ?d2 ?d3 ?d4 ?d5 ?_)
   case d2=>first|(intro u hu;simp at hu;subst hu;rfl)|rfl
   case d3=>unfold maxLen;omega
   case d4=>omega
   case d5=>have:=HT.o.2.2.size;simp at this⊢;omega
   intro v5 w5 ak aj _ bW;obtain⟨a5,c5,rfl⟩:=cy ak;have kk:=al W5 (.cells #[.int .i64 (u:Int)] 3);have sX:=HT.o.2.2.size;have h2:=dE HT.o.2.1 kk;have HY:Hid (w5.ownsRow w.heap.size 3 1 (.slice a5 (p2+1) c5) (p2+1) (dv (l2++[u]))/\w5.ownsRow w.heap.size 4 1 (.slice (some ⟨gS,0,none⟩) n c2) n (jC (fun x=>decide (x∈l2++[u])) n)/\Below w.heap.size w w5):=by
    refine⟨by rw[Ad];exact ak,rS h2 aj (fun b e e2=>iO h2 (hO.alloc _) (by decide) b e e2.symm),gu (HT.o.2.2.trans (kk.mono sX)) (hO.alloc _) (le_trans sX kk.size) aj⟩
   clear ak aj bW hO kk h2;go_wp2;go_roundw
   ·exact⟨k+1,p2+1,l2++[u],a5,c5,by go_num,by omega,by omega,by omega,rfl,⟨HZ.o,by rw[length_append,HK.o.2.1];rfl,HN.o.1,HN.o.2,HY.o.1,HY.o.2.1,HY.o.2.2⟩⟩
   simp[intOf];omega
  obtain rfl:k=m:=by omega
  have HZ:Hid (l2=dN (aQ len nx) l0 (i+1)):=by
   show _=_;rw[I8.o,HK.o.1];unfold aQ;rw[Hm.o]
  go_wp2;go_roundw
  ·exact⟨i+1,p2,l2,a,c,by go_num,by omega,fR,rfl,⟨HZ.o,HK.o.2⟩⟩
  simp[intOf];omega
 obtain rfl:i=p:=by omega
 have HF:Hid (Xl (aQ len nx) l0 n w (.returned (.slice a i c)) wr):=⟨l,i,a,c,rfl,HL.o.2.2.2.2.1,HL.o.1,HL.o.2.1,J5,HL.o.2.2.2.1,HL.o.2.2.2.2.2.2⟩
 go_wp2;go_ret;exact HF.o
theorem zg9(l:List Nat)(s q c:Nat)(a:Option Addr)(hq:l.length=q)(hq2:q<=1000000)(w:World)(hL:pe w a l):
  Calls prog 176 #[.slice a q c,.int .i64 (s:Int)] w (zmI (l.getLast?=some s) w):=by
 have HL:=ζ hL hq;clear hL hq;go_in;rcases q with _|q
 ·have HZ:Hid (l.getLast?≠some s):=by
   show ¬_=_;rw[List.eq_nil_of_length_eq_zero HL.o.2];intro h;cases h
  go_wp2;go_ret;exact⟨false,rfl,⟨(fun h=>by cases h),(fun h=>absurd h HZ.o)⟩,Below.refl _ _⟩
 have hne:l.length=q+1:=HL.o.2;obtain⟨g,o,rfl,_,c0⟩:=HL.o.1 (by omega);have c1:=c0 q (by omega);have iu:l.getLast?=some (l.getD q 0):=by
  rw[List.getLast?_eq_getElem?,hne];have:q<l.length:=by omega
  simp[getD_eq_getElem?_getD,this]
 have HS:Hid (l.getLast?=some s↔l.getD q 0=s):=by
  show _↔_;rw[iu];simp
 clear c0 iu hne;dsimp only at c1;generalize l.getD q 0=t at c1 HS;have i1:((q:Int)+1)-1=(q:Int):=by omega
 have i2:(0:Int)<q+1:=by omega
 have i3:(q:Int)<q+1:=by omega
 by_cases e:t=s
 ·subst e;have HZ:=hid (HS.o.2 rfl);go_wp2_with fail
  try go_quiet (fail)
  try go_wp2
  go_ret;exact⟨true,rfl,⟨(fun _=>HZ.o),(fun _=>rfl)⟩,by first|exact Below.refl _ _|exact (Below.refl _ _).drew⟩
 have HZ:Hid (¬l.getLast?=some s):=fun h=>e (HS.o.1 h)
 have i4:((t:Int) == (s:Int))=false:=by simp;omega
 go_wp2_with fail
 try go_quiet (fail)
 try go_wp2
 go_ret;exact⟨false,rfl,⟨(fun h=>by cases h),(fun h=>absurd h HZ.o)⟩,by first|exact Below.refl _ _|exact (Below.refl _ _).drew⟩
structure pv (D:Dd)(f c:Nat)(tg:Nat->List Nat):Prop where
 mem:∀t,t<D.n->∀x,x∈tg t↔(x<f/\Ed D x t)\/(x=f/\f<D.n/\∃c',c'<c/\D.nx f c'=(t:Int))
 inc:∀t,t<D.n->(tg t).Pairwise (·<·)
theorem zif(hp:l.Pairwise (·<·))(hle:∀x∈l,x<=f):l.getLast?=some f↔f∈l:=by
 constructor
 ·intro h;exact List.mem_of_getLast? h
 intro h;obtain⟨i,hi,e⟩:=List.getElem_of_mem h;have sj:i=l.length-1:=by
  refine Classical.byContradiction fun hne=>?_
  have h2:=(List.pairwise_iff_getElem.1 hp) i (i+1) hi (by omega) (by omega);have h3:=hle l[i+1] (getElem_mem (by omega));omega
 rw[List.getLast?_eq_getElem?];rw[<-sj,List.getElem?_eq_getElem hi,e]
theorem zm1(hp:l.Pairwise (·<·))(aq:∀x∈l,x<n):l.length<=n:=
 rb (hp.imp fun h=>by omega) aq
theorem pv.start(D:Dd):pv D 0 0 (fun _=>[]):=⟨fun t ht x=>⟨fun h=>by simp at h,fun h=>by rcases h with h|⟨_,_,c',h,_⟩ <;> omega⟩,fun t ht=>List.Pairwise.nil⟩
theorem pv.le{D:Dd}(h:pv D f c tg)(ht:t<D.n):∀x∈tg t,x<=f:=fun x hx=>by
 rcases (h.mem t ht x).1 hx with h1|h1
 ·omega
 ·omega
theorem pv.has{D:Dd}(h:pv D f c tg)(ht:t<D.n):(tg t).getLast?=some f↔f∈tg t:=zif (h.inc t ht) (h.le ht)
theorem pv.skip{D:Dd}(h:pv D f c tg)(hx:D.nx f c<0\/∃t:Nat,D.nx f c=(t:Int)/\t<D.n/\f∈tg t):pv D f (c+1) tg:=by
 refine⟨fun t ht x=>?_,h.inc⟩;rw[h.mem t ht];constructor
 ·rintro (h1|⟨h1,h2,c',h3,h4⟩)
  ·exact inl h1
  exact inr ⟨h1,h2,c',by omega,h4⟩
 rintro (h1|⟨h1,h2,c',h3,h4⟩)
 ·exact inl h1
 by_cases e:c'=c
 ·subst e;rcases hx with hx|⟨t',e',zj,hm⟩
  ·omega
  have:t'=t:=by omega
  subst this;have:=(h.mem t' ht f).1 hm;subst h1;exact this
 exact inr ⟨h1,h2,c',by omega,h4⟩
theorem pv.put{D:Dd}(h:pv D f c tg)(hf:f<D.n)(hx:D.nx f c=(t:Int))(ht:t<D.n)(hm:f∉tg t):pv D f (c+1) (fun j=>if j=t then tg t++[f] else tg j):=by
 refine⟨fun t' zj x=>?_,fun t' zj=>?_⟩
 ·by_cases e:t'=t
  ·subst e;show x∈(if t'=t' then tg t'++[f] else tg t')↔_;rw[if_pos rfl,mem_append,mem_singleton,h.mem t' zj];constructor
   ·rintro ((h1|⟨h1,h2,c',h3,h4⟩)|h1)
    ·exact inl h1
    ·exact inr ⟨h1,h2,c',by omega,h4⟩
    exact inr ⟨h1,hf,c,by omega,hx⟩
   rintro (h1|⟨h1,h2,c',h3,h4⟩)
   ·exact inl (inl h1)
   exact inr h1
  simp only[if_neg e];rw[h.mem t' zj];constructor
  ·rintro (h1|⟨h1,h2,c',h3,h4⟩)
   ·exact inl h1
   exact inr ⟨h1,h2,c',by omega,h4⟩
  rintro (h1|⟨h1,h2,c',h3,h4⟩)
  ·exact inl h1
  by_cases e2:c'=c
  ·subst e2;omega
  exact inr ⟨h1,h2,c',by omega,h4⟩
 by_cases e:t'=t
 ·subst e;show List.Pairwise _ (if t'=t' then tg t'++[f] else tg t');rw[if_pos rfl,List.pairwise_append];refine⟨h.inc t' zj,by simp,fun a ha b hb=>?_⟩;rw[List.mem_singleton.1 hb];have h1:=h.le zj a ha;have h2:a≠f:=fun e=>by rw[e] at ha;exact hm ha
  omega
 simp only[if_neg e];exact h.inc t' zj
theorem pv.row{D:Dd}{C:Nat}(h:pv D f c tg)(hf:f<D.n)(hc:D.len f=c):pv D (f+1) 0 tg:=by
 refine⟨fun t ht x=>?_,h.inc⟩;rw[h.mem t ht];constructor
 ·rintro (h1|⟨h1,h2,c',h3,h4⟩)
  ·exact inl ⟨by omega,h1.2⟩
  subst h1;exact inl ⟨by omega,hf,c',by omega,h4⟩
 rintro (⟨h1,h2⟩|⟨_,_,c',h3,_⟩)
 ·by_cases e:x=f
  ·subst e;obtain⟨_,c',h3,h4⟩:=h2;exact inr ⟨rfl,hf,c',by omega,h4⟩
  exact inl ⟨by omega,h2⟩
 omega
def YS(D:Dd)(w:World)(e:Ending)(w':World):Prop:=
 ∃(g:Nat) (A:Nat->Option Addr) (Cp:Nat->Nat) (tg:Nat->List Nat),e=.returned (.slice (some ⟨g,0,none⟩) D.n D.n)/\oP w' (some ⟨g,0,none⟩) D.n A Cp (fun i=>(tg i).length) (fun i c=>(((tg i).getD c 0:Nat):Int))/\pv D D.n 0 tg/\Below w.heap.size w w'
theorem jl.zs{w3 wq:World}{gT:Nat}{vs:Nat->Value}(h:jl w3 B gT C vs tg wq):oP wq (some ⟨gT,0,none⟩) C (fun i=>wZ (vs i)) (fun i=>yQ (vs i)) (fun i=>(tg i).length) (fun i c=>(((tg i).getD c 0:Nat):Int)):=by
 intro h0;have aq:gT<wq.heap.size:=by
  have:=(h.jd.cell 0 h0).1;by_cases hb:gT<wq.heap.size
  ·exact hb
  simp[World.cell?,Array.getElem?_eq_none (by omega:wq.heap.size<=gT)] at this
 refine⟨gT,0,rfl,aq,fun i hi=>?_⟩;obtain⟨ai,ci,e⟩:=cy (h.jd.2.1 i hi);have hr:=h.jd.2.1 i hi;refine⟨?_,?_⟩
 ·rw[Nat.zero_add,(h.jd.cell i hi).1];simp[e,wZ,yQ]
 show lT wq (wZ (vs i)) _ _;rw[e] at hr⊢;exact vy hr rfl
theorem zig(D:Dd)(C:Nat)(w:World)(hD:DM w D)(hR:DR D C):
  Calls prog 158 #[.agg D.cD] w (YS D w):=by
 have gP:=Xv D.n (by have:=hR.n2;omega);have dd:=hR.n2;have dr:=hR.n1;have Bt:=(hR.lf hD.kl).2;have HB:=ξ (dD.new hD) (al w (.cells D.cD 101)) hR;obtain⟨iI,hI,q8,rm,rf⟩:=info_parts aH;clear hD hR;go_in;go_upto_region 1 with fail;generalize w.alloc (.cells D.cD 101)=W0 at HB⊢;obtain⟨b0,bz⟩:=Ξ w.heap.size
 rw[bz] at HB;rw[bz];have eY:=hid bz;clear bz;have f1:=HB.o.1.f1;have Bo:jl (W0.alloc (.cells (madeCells #[.slice none 0 0] D.n) 43)) W0.heap.size W0.heap.size D.n (fun _=>.slice none 0 0) (fun _=>[]) (W0.alloc (.cells (madeCells #[.slice none 0 0] D.n) 43)):=jl.made W0 W0.heap.size D.n _ (le_refl _) (Below.refl _ _);have kq:=hid Bo;have qP:=hid (al W0 (.cells (madeCells #[.slice none 0 0] D.n) 43));clear Bo;go_upto_region 2 with fail;obtain⟨gT,Cq⟩:=Ξ W0.heap.size
 have Ui:=hid Cq;rw[Cq] at kq;rw[Cq];generalize W0.alloc (.cells (madeCells #[.slice none 0 0] D.n) 43)=W1 at kq qP⊢;clear Cq f1;have Ir:=hid (HB.o.1.ae qP.o);have f1:=Ir.o.f1;obtain⟨gN,oN,eN,od,rF⟩:=Ir.o.dm.rN (by omega);rw[eN] at f1;have Db:=hid eN;have xA:=hid rF;clear eN rF;go_wp2_with fail;clear f1;go_loopw [4,5,7,15,22] (fun _ _ _ v _ wr=>∃(f:Nat) (vs:Nat->Value) (tg:Nat->List Nat),v=.int .i64 f/\f<=D.n/\Hid (jl W1 gT gT D.n vs tg wr/\pv D f 0 tg)) (fun _ _ _ v _ _=>D.n-(intOf v).toNat)
 ·exact⟨0,_,_,rfl,by omega,⟨kq.o,pv.start D⟩⟩
 clear kq;obtain⟨f,vs,tg,rfl,hf,HX⟩:=hrel;by_cases aq:f<D.n
 ·have fT:gN<gT:=by
   obtain⟨g,o,e,hg,_⟩:=HB.o.1.dm.rN (by omega);rw[Db.o] at e;injection e with e;injection e with e _;rw[Ui.o] at hg;omega
  have cN:=(HX.o.1.below.cell (p:=⟨gN,oN+f,none⟩) fT).trans (xA.o f aq).1;have KR:Hid (lT W0 (D.A f) (D.len f) (D.nx f)):=by
   obtain⟨_,_,_,_,c9⟩:=HB.o.1.dm.rN (by omega);exact (c9 f aq).2
  have hlen:=HB.o.2.2.len f aq;rw[hlen] at cN;rw[hlen] at KR;have yP:=hid hlen;have i1:(f:Int)<(D.n:Int):=by omega
  try dsimp only at cN
  clear hlen fT;go_wp2_with fail;clear cN;go_loopw [7,22] (fun _ v wr=>∃(c:Nat) (vs:Nat->Value) (tg:Nat->List Nat),v=.int .i64 c/\c<=C/\Hid (jl W1 gT gT D.n vs tg wr/\pv D f c tg)) (fun _ v _=>C-(intOf v).toNat)
  ·exact⟨0,vs,tg,rfl,by omega,HX⟩
  clear HX;obtain⟨c,vs,tg,rfl,hc,HX⟩:=hrel;have Oq:Hid (Below W0.heap.size W0 wr):=by
   have h:=HX.o.1.below;rw[<-Ui.o] at h;exact qP.o.trans h
  by_cases xu:c<C
  ·obtain⟨gA,oA,eA,_,p9⟩:=(KR.o.below Oq.o) (by omega);have cA:=p9 c xu;have hb:=HB.o.2.2.nx f c aq xu;have yc:=hid (fun h=>HX.o.2.skip h);have HPu:=hid (fun (t:Nat) h1 h2 h3=>HX.o.2.put (t:=t) aq h1 h2 h3);have i2:(c:Int)<C:=(by omega);rw[eA];have O5:=hid eA;clear p9 eA;generalize D.nx f c=t at cA hb yc HPu;by_cases ht:t=-1
   ·subst ht;have HZ:=hid (yc.o (inl (by omega)));go_wp2;go_roundw
    ·exact⟨c+1,vs,tg,by go_num,by omega,⟨HX.o.1,HZ.o⟩⟩
    simp[intOf];omega
   obtain⟨u,rfl⟩:∃u:Nat,t=(u:Int):=(⟨t.toNat,by omega⟩);have hu:u<D.n:=(by omega);have i3:(u:Int)<(D.n:Int):=(by omega);have ht2:((u:Int) != (-1:Int))=true:=(by first|(simp;done)|(simp;omega));obtain⟨y0,y1⟩:=HX.o.1.jd.cell u hu;have UY:=HX.o.1.jd.2.1 u hu;obtain⟨au,cu,Og⟩:=cy UY;have qb:(tg u).length<=D.n:=zm1 (HX.o.2.inc u hu) (fun x hx=>by have:=HX.o.2.le hu x hx;omega);rw[Og] at y0;have EF:=UY;rw[Og] at EF;have ze:=hid (zg9 (tg u) f (tg u).length cu au rfl (by omega) wr (vy EF rfl));have J9:=hid Og;clear UY EF Og ht;obtain⟨q,hq⟩:=Ξ ((tg u).length);have Hq:=hid hq;dsimp only at y0;rw[hq] at y0 ze qb;clear hq;go_wp2_with fail;refine ze.o.mono ?_;rintro e w5 ⟨b,rfl,ku,k5⟩;have Ha:=hid (HX.o.1.ae k5);have Li:Hid (b=true↔f∈tg u):=by
    show _↔_;rw[ku,HX.o.2.has hu]
   clear ku k5 ze y0 y1;rcases b with _|_
   ·have HN:Hid (f∉tg u):=(fun h=>by have:=Li.o.2 h;cases this);have HZ:=hid (HPu.o u rfl hu HN.o);obtain⟨y0,y1⟩:=Ha.o.jd.cell u hu;rw[J9.o] at y0;have hO:=Ha.o.jd.2.1 u hu;dsimp only at hO y0;rw[J9.o,Hq.o] at hO;rw[Hq.o] at y0;go_wp2_with (at_builtin;refine wpList_append_own_at _ rfl _ _ 43 rfl W1.heap.size 3 iI (.int .i64 0) 1 8 underlying43 hI q8 rm rf rfl (by decide) _ _ _ rfl (hO.alloc _) ⟨w5.heap.size,0,none⟩ 1 1 [.int .i64 (f:Int)] rfl rfl (cell_one_new _ _ _) ?d2 ?d3 ?d4 ?d5 ?_)
    case d2=>first|(intro u hu;simp at hu;subst hu;rfl)|rfl
    case d3=>unfold maxLen;omega
    case d4=>omega
    case d5=>have:=Ha.o.below.size;simp;omega
    intro v6 w6 an ag _ di;have kk:=al w5 (.cells #[.int .i64 (f:Int)] 3);have qL:=hid ((Ha.o.ae kk).app hu Hq.o (v':=v6) (t:=f) (by exact an) (by rw[J9.o,Hq.o];exact ag) (fun b e=>by
     rcases di with h|h
     ·rw[h] at e
      refine inl ?_
      rw[J9.o,Hq.o]
      exact e
     ·rw[h] at e
      refine inr ?_
      simp at e
      simp
      omega))
    obtain⟨a6,c6,rfl⟩:=cy an;have gQ:=ag;obtain⟨z0,z1⟩:w6.cell? ⟨gT,u,none⟩=some (vs u)/\w6.frozen? ⟨gT,u,none⟩=false:=by
     have ph:=(Ha.o.ae kk).jd;have hs:=ph.1.af (ph.2.1 u hu) (by decide) (by rw[J9.o,Hq.o];exact gQ);exact⟨by rw[hs.at_];simp[hu],hs.bE u⟩
    clear an ag di hO kk gQ y0 y1;go_wp2;go_roundw
    ·exact⟨c+1,_,_,by go_num,by omega,⟨qL.o,HZ.o⟩⟩
    simp[intOf];omega
   have HZ:=hid (yc.o (inr ⟨u,rfl,hu,Li.o.1 rfl⟩));go_wp2;go_roundw
   ·exact⟨c+1,vs,tg,by go_num,by omega,⟨Ha.o,HZ.o⟩⟩
   simp[intOf];omega
  obtain rfl:c=C:=by omega
  have HZ:=hid (HX.o.2.row (C:=c) aq yP.o);go_wp2;go_roundw
  ·exact⟨f+1,vs,tg,by go_num,by omega,⟨HX.o.1,HZ.o⟩⟩
  simp[intOf];omega
 obtain rfl:f=D.n:=by omega
 have HF:Hid (YS D w (.returned (.slice (some ⟨gT,0,none⟩) D.n D.n)) wr):=by
  refine⟨gT,_,_,tg,rfl,HX.o.1.zs,HX.o.2,?_⟩;have h:=HX.o.1.below;rw[<-Ui.o] at h;have h0:=HB.o.2.1;rw[<-eY.o] at h0;exact h0.trans ((qP.o.trans h).mono h0.size)
 go_wp2;go_ret;exact HF.o
theorem zo3(h:w.ownsRow B 3 1 (.slice a q c) q xs)(ha:a=none):q=0/\c=0:=by
 subst ha;rcases h.2 with ⟨h1,h2⟩|⟨g,cap,cur,hv,_⟩
 ·injection h1 with _ h3 h4;exact⟨h3,h4⟩
 injection hv with h1 _ _;cases h1
theorem zo4{ad:Addr}(h:w.ownsRow B 3 1 (.slice a q c) q xs)(ha:a=some ad):ad.spot=none:=by
 subst ha;rcases h.2 with ⟨h1,h2⟩|⟨g,cap,cur,hv,_⟩
 ·injection h1 with h3 _ _;cases h3
 injection hv with h1 _ _;injection h1 with h1;rw[h1]
theorem zqY{D:Dd}(h:pv D D.n 0 tg)(i:Nat)(hi:i<D.n):(tg i).length<=D.n:=zm1 (h.inc i hi) (fun x hx=>by
 rcases (h.mem i hi x).1 hx with h1|⟨_,_,c',h3,_⟩
 ·exact h1.1
 ·omega)
theorem zrU{D:Dd}(h:pv D D.n 0 tg)(i c:Nat)(hi:i<D.n)(hc:c<(tg i).length):-1<=(((tg i).getD c 0:Nat):Int)/\(((tg i).getD c 0:Nat):Int)<(D.n:Int):=by
 have e:(tg i).getD c 0=(tg i)[c]:=by simp[getD_eq_getElem?_getD,hc]
 rw[e];rcases (h.mem i hi _).1 (getElem_mem hc) with h1|⟨_,_,c',h3,_⟩
 ·have:=h1.1;omega
 omega
theorem zqZ{D:Dd}(hR:DR D C)(h:pv D D.n 0 tg)(hl:∀x,x∈l↔x<D.n/\0<=D.q x)(x:Nat)(hx:x<D.n):nV (WE (aQ (fun i=>(tg i).length) (fun i c=>(((tg i).getD c 0:Nat):Int)))) (fun y=>y∈l) x↔AE D x:=by
 have mem:∀x y,WE (aQ (fun i=>(tg i).length) (fun i c=>(((tg i).getD c 0:Nat):Int))) x y↔y∈tg x:=fun x y=>by
  unfold WE aQ;constructor
  ·intro h;obtain⟨c,hc,e⟩:=List.mem_map.1 h;have gj:c<(tg x).length:=(by simpa using hc);have e2:(tg x).getD c 0=(tg x)[c]:=(by simp[getD_eq_getElem?_getD,gj]);have e1:(((tg x).getD c 0:Nat):Int)=(y:Int):=e;have e3:(tg x)[c]=y:=(by rw[<-e2];omega);rw[<-e3];exact getElem_mem gj
  intro h;obtain⟨c,hc,e⟩:=List.getElem_of_mem h;refine List.mem_map.2 ⟨c,by simpa using hc,?_⟩;simp[getD_eq_getElem?_getD,hc,e]
 have ed:∀x,x<D.n->∀y,y∈tg x↔Ed D y x:=fun x hx y=>by
  rw[h.mem x hx];constructor
  ·rintro (h1|⟨_,_,c',h3,_⟩)
   ·exact h1.2
   omega
  exact fun h1=>inl ⟨h1.1,h1⟩
 have e1:nV (WE (aQ (fun i=>(tg i).length) (fun i c=>(((tg i).getD c 0:Nat):Int)))) (fun y=>y∈l) x↔nV (fun a b=>Ed D b a) (fun y=>y<D.n/\0<=D.q y) x:=by
  constructor
  ·intro h;have:nV (fun a b=>Ed D b a) (fun y=>y<D.n/\0<=D.q y) x/\x<D.n:=by
    clear hx
    induction h with
    | base h=>exact⟨.base ((hl _).1 h),((hl _).1 h).1⟩
    | step _ e ih=>
     have h2:=(ed _ ih.2 _).1 ((mem _ _).1 e);exact⟨.step ih.1 h2,h2.1⟩
   exact this.1
  intro h;have:nV (WE (aQ (fun i=>(tg i).length) (fun i c=>(((tg i).getD c 0:Nat):Int)))) (fun y=>y∈l) x/\x<D.n:=by
   clear hx
   induction h with
   | base h=>exact⟨.base ((hl _).2 h),h.1⟩
   | step _ e ih=>exact⟨.step ih.1 ((mem _ _).2 ((ed _ ih.2 _).2 e)),e.1⟩
  exact this.1
 rw[e1,zoY];constructor
 ·rintro⟨k,h1,h2⟩;exact⟨k,h1,h2.2⟩
 rintro⟨k,h1,h2⟩;exact⟨k,h1,nV.lt (fun y hy=>by rw[hy];exact hx) hR.ed h1,h2⟩
theorem zm3(D:Dd)(C:Nat)(w:World)(hD:DM w D)(hR:DR D C):
  Calls prog 127 #[.agg D.cD] w (N5 D.n (AE D) w):=by
 have dd:=hR.n2;have dr:=hR.n1;have ly:=hR.m;have Bt:=(hR.lf hD.kl).2;have HB:=ξ (dD.new hD) (al w (.cells D.cD 101)) hR;obtain⟨iI,hI,q8,rm,rf⟩:=info_parts aH;clear hD hR;go_in;go_upto_region 1 with fail;generalize w.alloc (.cells D.cD 101)=W0 at HB⊢;obtain⟨b0,bz⟩:=Ξ w.heap.size
 rw[bz] at HB;rw[bz];have eY:=hid bz;have IQ:b0<=W0.heap.size:=by have:=HB.o.2.1.size;omega
 clear bz;have uX:=hid (Ji D C HB.o.2.2 W0 HB.o.1.dm);go_wp2_with (refine pU (by rfl) 101 _ rfl ⟨b0,0,none⟩ rfl D.cD _ HB.o.1.st.part underlying101 rfl HB.o.1.dm.info ?_);refine uX.o.mono ?_;rintro e w2 ⟨rfl,b1⟩;have H2:=ζ (HB.o.1.ae b1) (HB.o.2.1.trans (b1.mono IQ));have cH:b0<=w2.heap.size:=by have:=b1.size;omega
 clear b1 uX;have Fk:Hid (∀W',Below w2.heap.size w2 W'->Below w.heap.size w W'):=fun W' h=>by
  rw[eY.o];exact H2.o.2.trans (h.mono cH)
 have dQ:Hid (w.heap.size<=w2.heap.size):=by show _<=_;rw[eY.o];exact cH
 have f2:=H2.o.1.f2;obtain⟨gM,oM,eM,uc,pj⟩:=H2.o.1.dm.rM (by omega);rw[eM,ly] at f2;have Nu:=hid pj;have HeM:=hid eM;have Pd:=hid ly;clear eM pj ly;go_wp2_with fail;clear f2;go_loopw [3,4,5,12] (fun v3 _ _ v wr=>∃(k p:Nat) (l:List Nat) (a:Option Addr) (c:Nat),v=.int .i64 k/\k<=D.n/\p<=k/\v3=.slice a p c/\Hid (l.length=p/\l.Nodup/\(∀x,x∈l↔x<k/\0<=D.q x)/\wr.ownsRow w2.heap.size 3 1 (.slice a p c) p (dv l)/\Below w2.heap.size w2 wr)) (fun _ _ _ v _=>D.n-(intOf v).toNat)
 ·exact⟨0,0,[],none,0,rfl,by omega,by omega,rfl,⟨rfl,by simp,fun x=>by simp,World.ownsRow_nil _ _ _ _,Below.refl _ _⟩⟩
 obtain⟨k,p,l,a,c,rfl,hk,hp,rfl,HX⟩:=hrel;by_cases aq:k<D.n
 ·have cM:=(HX.o.2.2.2.2.cell (p:=⟨gM,oM+k,none⟩) uc).trans (Nu.o k (by rw[Pd.o];exact aq));have hq:=HB.o.2.2.q k aq;have i1:(k:Int)<(D.n:Int):=by omega
  have HS:Hid (∀l',(l'=l/\D.q k<0)\/(l'=l++[k]/\0<=D.q k)->l'.Nodup/\∀x,x∈l'↔x<k+1/\0<=D.q x):=fun l' h=>by
   rcases h with ⟨rfl,h⟩|⟨rfl,h⟩
   ·refine⟨HX.o.2.1,fun x=>?_⟩;rw[HX.o.2.2.1];constructor
    ·rintro⟨h1,h2⟩;exact⟨by omega,h2⟩
    rintro⟨h1,h2⟩;by_cases e:x=k
    ·subst e;omega
    exact⟨by omega,h2⟩
   refine⟨?_,fun x=>?_⟩
   ·rw[nodup_append];exact⟨HX.o.2.1,by simp,fun a ha b hb e=>by
     rw[List.mem_singleton.1 hb] at e
     rw[e] at ha
     have:=((HX.o.2.2.1 k).1 ha).1
     omega⟩
   rw[mem_append,mem_singleton,HX.o.2.2.1];constructor
   ·rintro (⟨h1,h2⟩|h1)
    ·exact⟨by omega,h2⟩
    subst h1;exact⟨by omega,h⟩
   rintro⟨h1,h2⟩;by_cases e:x=k
   ·exact inr e
   exact inl ⟨by omega,h2⟩
  try dsimp only at cM
  generalize D.q k=y at cM hq HS;by_cases hy:y=-1
  ·subst hy;have HZ:=hid (HS.o l (inl ⟨rfl,by omega⟩));go_wp2;go_roundw
   ·exact⟨k+1,p,l,a,c,by go_num,by omega,by omega,rfl,⟨HX.o.1,HZ.o.1,HZ.o.2,HX.o.2.2.2.1,HX.o.2.2.2.2⟩⟩
   simp[intOf];omega
  have HZ:=hid (HS.o (l++[k]) (inr ⟨rfl,by omega⟩));have qw:(y != (-1:Int))=true:=by simp[hy]
  have hO:=HX.o.2.2.2.1;go_wp2_with (at_builtin;refine wpList_append_own_at _ rfl _ _ 43 rfl w2.heap.size 3 iI (.int .i64 0) 1 8 underlying43 hI q8 rm rf rfl (by decide) _ _ _ rfl (hO.alloc _) ⟨wr.heap.size,0,none⟩ 1 1 [.int .i64 (k:Int)] rfl rfl (cell_one_new _ _ _) ?d2 ?d3 ?d4 ?d5 ?_)
  case d2=>first|(intro u hu;simp at hu;subst hu;rfl)|rfl
  case d3=>unfold maxLen;omega
  case d4=>omega
  case d5=>have:=HX.o.2.2.2.2.size;simp;omega
  intro v5 w5 ak aj _ bW;obtain⟨a5,c5,rfl⟩:=cy ak;have sX:=HX.o.2.2.2.2.size;have kk:=al wr (.cells #[.int .i64 (k:Int)] 3);have HY:Hid (w5.ownsRow w2.heap.size 3 1 (.slice a5 (p+1) c5) (p+1) (dv (l++[k]))/\Below w2.heap.size w2 w5):=⟨by rw[Ad];exact ak,gu (HX.o.2.2.2.2.trans (kk.mono sX)) (hO.alloc _) (le_trans sX kk.size) aj⟩
  clear ak aj bW hO kk;go_wp2;go_roundw
  ·exact⟨k+1,p+1,l++[k],a5,c5,by go_num,by omega,by omega,rfl,⟨by rw[length_append,HX.o.1];rfl,HZ.o.1,HZ.o.2,HY.o.1,HY.o.2⟩⟩
  simp[intOf];omega
 obtain rfl:k=D.n:=by omega
 have Oq:=hid (H2.o.1.ae HX.o.2.2.2.2);have rk:=hid (fun (W':World) (h:Below wr.heap.size wr W')=>Fk.o W' (HX.o.2.2.2.2.trans (h.mono HX.o.2.2.2.2.size)));have T5:Hid (w.heap.size<=wr.heap.size):=le_trans dQ.o HX.o.2.2.2.2.size;have eh:Hid (∀W',Below wr.heap.size wr W'->Below wr.heap.size wr W'/\dD W' b0 D/\W'.cell? ⟨b0,256,none⟩=some (.slice D.aN D.n D.cN)):=fun W' h=>⟨h,Oq.o.ae h,(Oq.o.ae h).f1⟩
 go_upto_region 10 with fail;refine wp_region_held_drew (S:=fun W'=>Below wr.heap.size wr W'/\dD W' b0 D/\W'.cell? ⟨b0,256,none⟩=some (.slice D.aN D.n D.cN)) (by kernel_rfl) (eh.o _ (Below.refl _ _).drew) (fun η=>?_)
 (refine ay 0 ?_;refine ay 1 ?_;refine ay 2 ?_)
 (refine ay 3 (v:=.agg D.cD) ?_ (hy:=by intro wz hSw;exact EZ (o:=_) (ρ:=_) wz 101 (.tmp 1) rfl ⟨b0,0,none⟩ rfl D.cD _ (dD.st (And.left (And.right hSw))).part underlying101 rfl (dD.dm (And.left (And.right hSw))).info))
 (refine ay 5 ?_;try simp only[Act.put,sA])
 refine bH 4 (fun K hK=>?_);skip;go_simp;go_at_call 158;refine (zig D C _ η.2.1.dm HB.o.2.2).mono ?_;rintro e w5 ⟨gS,AS,CS,tg,rfl,hS5,Uf,b5⟩;have eB:Below wr.heap.size wr w5:=η.1.trans (b5.mono η.1.size);clear b5
 try go_wp2_with fail
 refine hK.out _ _ (eh.o _ eB) fun η=>?_;clear hK K
 try simp only[Act.put,sA]
 refine bH 6 (fun K hK=>?_);skip;go_simp;go_at_call 124;refine (WR D.n D.n (some ⟨gS,0,none⟩) AS CS (fun i=>(tg i).length) (fun i c=>(((tg i).getD c 0:Nat):Int)) l a p c (by omega) (fun i hi=>by have:=zqY Uf i hi;omega) (fun i c hi hc=>zrU Uf i c hi hc) HX.o.1 HX.o.2.1 (fun x hx=>((HX.o.2.2.1 x).1 hx).1) w5 hS5 (pe.below (vy HX.o.2.2.2.1 HX.o.1) eB) (fun h=>zo3 HX.o.2.2.2.1 h) (fun ad h=>zo4 HX.o.2.2.2.1 h)).mono ?_;rintro e w7 ⟨l9,i,ad,c9,rfl,Wg,Cy,lb,nf,iu,b7⟩;have bQ:Below wr.heap.size wr w7:=eB.trans (b7.mono eB.size);have lJ:=ζ Wg bQ;clear Wg b7
 try go_wp2_with fail
 refine hK.out _ _ (eh.o _ bQ) fun η=>?_;clear hK K bQ
 try simp only[Act.put,sA]
 refine bH 7 (fun K hK=>?_);skip;go_simp;go_at_call 157;refine (VU D.n l9 ad i c9 lb (by omega) (by omega) iu _ (vy lJ.o.1 lb)).mono ?_;rintro e w8 ⟨f8,a8,c8,rfl,X8,WS,b8⟩;have bQ:Below wr.heap.size wr w8:=lJ.o.2.trans (b8.mono lJ.o.2.size);have SG:=lJ.o.2.size;have HF:Hid (N5 D.n (AE D) w (.returned (.slice a8 D.n c8)) w8):=⟨f8,a8,c8,rfl,jH X8 (le_trans T5.o SG),fun x hx=>by
  rw[WS x hx]
  show x∈l9↔_
  rw[Cy,zqX _ _ (by rw[<-Cy];exact lb)]
  exact zqZ HB.o.2.2 Uf (fun y=>HX.o.2.2.1 y) x hx,rk.o _ bQ⟩
 clear X8 WS b8
 try go_wp2_with fail
 refine hK.out _ _ (eh.o _ bQ) fun η=>?_;clear hK K bQ
 try simp only[Act.put,sA]
 (refine ay 8 ?_;try simp only[Act.put,sA])
 refine wpAnyH_done (by kernel_rfl) ?_ _;clear η;go_wp2;go_ret;exact HF.o
def dH(K:Nat->Nat)(vN vK:Value):Array Value:=(((range 256).map fun j=>Value.int .u8 (K j))++[vN,vK]).toArray
theorem nP(K:Nat->Nat)(vN vK:Value):(dH K vN vK).size=258:=by simp[dH]
theorem Bi(K:Nat->Nat)(vN vK:Value)(j:Nat)(hj:j<256):(dH K vN vK)[j]?=some (.int .u8 (K j)):=by
 simp[dH,getElem?_append,hj]
theorem ri(K:Nat->Nat)(vN vK:Value):(dH K vN vK)[256]?=some vN:=by simp[dH,getElem?_append]
theorem AK(K:Nat->Nat)(vN vK:Value):(dH K vN vK)[257]?=some vK:=by simp[dH,getElem?_append]
theorem yZ(K:Nat->Nat)(a b:Option Addr)(n c m d:Nat):∀v∈(dH K (.slice a n c) (.slice b m d)).toList,v.oneCell'=true:=by
 intro v hv;simp[dH] at hv;rcases hv with ⟨j,_,rfl⟩|rfl|rfl <;> rfl
theorem Dj(K:Nat->Nat)(vN vK:Value)(cs:Array Value)(hs:cs.size=258)(h1:∀j,j<256->cs[j]?=some (.int .u8 (K j)))(h2:cs[256]?=some vN)(h3:cs[257]?=some vK):cs=dH K vN vK:=by
 apply Array.ext_getElem?;intro i;by_cases a:i<256
 ·rw[h1 i a,Bi K vN vK i a]
 by_cases b:i=256
 ·subst b;rw[h2,ri]
 by_cases c:i=257
 ·subst c;rw[h3,AK]
 rw[Array.getElem?_eq_none (by omega),Array.getElem?_eq_none (by rw[nP];omega)]
theorem Yw(K:Nat->Nat)(vN vK v:Value):(dH K vN vK).setIfInBounds 256 v=dH K v vK:=by
 refine Dj K v vK _ (by rw[Array.size_setIfInBounds,nP]) (fun j hj=>?_) ?_ ?_
 ·rw[Array.getElem?_setIfInBounds_ne (by omega),Bi K vN vK j hj]
 ·rw[Array.getElem?_setIfInBounds_self_of_lt (by rw[nP];omega)]
 rw[Array.getElem?_setIfInBounds_ne (by omega),AK]
theorem zo5(K:Nat->Nat)(vN vK v:Value):(dH K vN vK).setIfInBounds 257 v=dH K vN v:=by
 refine Dj K vN v _ (by rw[Array.size_setIfInBounds,nP]) (fun j hj=>?_) ?_ ?_
 ·rw[Array.getElem?_setIfInBounds_ne (by omega),Bi K vN vK j hj]
 ·rw[Array.getElem?_setIfInBounds_ne (by omega),ri]
 rw[Array.getElem?_setIfInBounds_self_of_lt (by rw[nP];omega)]
theorem Xe(K:Nat->Nat)(W:World):(build 101 #[(0,.agg (bu K))]).run prog W=.ok (.agg (dH K (.slice none 0 0) (.slice none 0 0))) W:=by
 have e:prog.built 101 [(0,.agg (bu K))]=fill (fun i=>#[(0,256),(256,1),(257,1)][i]?) (zC 101) [(0,.agg (bu K))]:=by kernel_rfl
 have hz:=kr;have hs:=Ml K;obtain⟨p1,p2⟩:=zZ (zC 101) (bu K) 0 (by rw[hz];omega);rw[Ak _ _ 0 0 256 (.agg (bu K)) [] (by rfl) hs (by rw[hz];omega)] at e;obtain⟨d1,d2⟩:=G5;have e2:putAt (zC 101) (bu K) 0=dH K (.slice none 0 0) (.slice none 0 0):=Dj _ _ _ _ (by rw[p1,hz]) (fun j hj=>by rw[p2,if_pos ⟨by omega,by omega⟩];exact Ii K j hj) (by rw[p2,if_neg (by omega),d1]) (by rw[p2,if_neg (by omega),d2]);have e3:(Value.agg (bu K)).cells=bu K:=rfl;rw[e3,e2] at e;exact run_build W _ _ _ e
theorem YM(K:Nat->Nat)(a:Option Addr)(n c:Nat)(W:World):(build 101 #[(0,.agg (bu K)),(2,.slice a n c)]).run prog W=.ok (.agg (dH K (.slice none 0 0) (.slice a n c))) W:=by
 have e:prog.built 101 [(0,.agg (bu K)),(2,.slice a n c)]=fill (fun i=>#[(0,256),(256,1),(257,1)][i]?) (zC 101) [(0,.agg (bu K)),(2,.slice a n c)]:=by kernel_rfl
 have hz:=kr;have hs:=Ml K;obtain⟨p1,p2⟩:=zZ (zC 101) (bu K) 0 (by rw[hz];omega);rw[Ak _ _ 0 0 256 (.agg (bu K)) _ (by rfl) hs (by rw[hz];omega)] at e;obtain⟨d1,d2⟩:=G5;have e2:putAt (zC 101) (bu K) 0=dH K (.slice none 0 0) (.slice none 0 0):=Dj _ _ _ _ (by rw[p1,hz]) (fun j hj=>by rw[p2,if_pos ⟨by omega,by omega⟩];exact Ii K j hj) (by rw[p2,if_neg (by omega),d1]) (by rw[p2,if_neg (by omega),d2]);have e3:(Value.agg (bu K)).cells=bu K:=rfl;rw[e3,e2] at e;have hd:=nP K (.slice none 0 0) (.slice none 0 0);obtain⟨q1,q2⟩:=zZ (dH K (.slice none 0 0) (.slice none 0 0)) #[.slice a n c] 257 (by rw[hd];simp);rw[Ak _ _ 2 257 1 (.slice a n c) [] (by rfl) (by rfl) (by rw[hd];omega)] at e;have e4:putAt (dH K (.slice none 0 0) (.slice none 0 0)) #[.slice a n c] 257=dH K (.slice none 0 0) (.slice a n c):=by
  simp only[List.size_toArray,List.length_cons,List.length_nil] at q2;refine Dj _ _ _ _ (by rw[q1,hd]) (fun j hj=>by rw[q2,if_neg (by omega),Bi _ _ _ j hj]) (by rw[q2,if_neg (by omega),ri]) (by rw[q2,if_pos (by omega)];rfl)
 have e5:(Value.slice a n c).cells=#[.slice a n c]:=rfl;rw[e5,e4] at e;exact run_build W _ _ _ e
structure iX (W0:World)(b4:Nat)(K:Nat->Nat)(C:Nat)(vN:Value)(R:List (List Int))(ws:Nat->Value)(vK:Value)(ms:List Int)(w:World):Prop where
 bc:Below W0.heap.size W0 w
 st:St w 101 b4 (dH K vN vK)
 next:bK w W0.heap.size 43 3 1 vN R.length ws (fun _=>C) (fun j=>ints (R.getD j []))
 dt:w.ownsRow W0.heap.size 3 1 vK ms.length (ints ms)
 sep:∀i,i<R.length->∀b,(ws i).ownBlock=some b->vK.ownBlock≠some b
 lo:W0.heap.size<=b4
section
variable {W0 : World}{b4 C : Nat}{K : Nat → Nat}{vN : Value}{R : List (List Int)}{ws : Nat → Value}{vK : Value}{ms : List Int}{w : World}
theorem iX.ae{w1:World}(h:iX W0 b4 K C vN R ws vK ms w)(k:Below w.heap.size w w1):iX W0 b4 K C vN R ws vK ms w1:=
 ⟨h.bc.trans (k.mono h.bc.size),h.st.ae k,h.next.ae k,dE h.dt k,h.sep,h.lo⟩
theorem iX.f1(h:iX W0 b4 K C vN R ws vK ms w):w.cell? ⟨b4,256,none⟩=some vN:=by rw[h.st.at_,ri]
theorem iX.f2(h:iX W0 b4 K C vN R ws vK ms w):w.cell? ⟨b4,257,none⟩=some vK:=by rw[h.st.at_,AK]
theorem Bn{cs:Array Value}{v:Value}(h:w.ownsRow B t 1 v n xs)(hs:St w 101 b4 cs)(ht:t≠101):(w.setCell ⟨b4,i,none⟩ u).ownsRow B t 1 v n xs:=
 gk (ts:=[]) (bs:=[b4]) h ((Kept.refl _ _ _).setCell _ _ (inl (by simp))) (by simp) (fun b e hm=>eI h hs ht b e (List.mem_singleton.1 hm))
theorem iX.gY{vN':Value}{row:List Int}(h:iX W0 b4 K C vN R ws vK ms w)(hu:w.ownsRow W0.heap.size 3 1 u C (ints row))(hs:∀i,i<R.length->∀b,(ws i).ownBlock=some b->u.ownBlock≠some b)(sX:∀b,u.ownBlock=some b->vK.ownBlock≠some b)(hq:R.length=q)
  (ho:w'.ownsRow W0.heap.size 43 1 vN' (q+1) ((range q).map ws++[u])) (hg:w.grownBy w' vN.ownBlock):iX W0 b4 K C vN' (R++[row]) (fun j=>if j=q then u else ws j) vK ms (w'.setCell ⟨b4,256,none⟩ vN'):=by
 subst hq;have cU:St w' 101 b4 (dH K vN vK):=h.st.af h.next.own (by decide) hg
 have h1:bK w W0.heap.size 43 3 1 vN R.length ws (fun _=>C) (fun j=>ints ((R++[row]).getD j [])):=h.next.congr (fun i hi=>⟨rfl,by simp[getD_eq_getElem?_getD,List.getElem?_append_left hi]⟩)
 have h2:=h1.uW (v':=vN') (u:=u) (w':=w') (by decide) (by simpa [getD_eq_getElem?_getD] using hu) hs ho hg;have hm:w'.ownsRow W0.heap.size 3 1 vK ms.length (ints ms):=rS h.dt hg (fun b e e2=>iO h.dt h.next.own (by decide) b e e2.symm);refine⟨(gu h.bc h.next.own h.bc.size hg).setCell (p:=⟨b4,256,none⟩) h.lo _,?_,?_,Bn hm cU (by decide),?_,h.lo⟩
 ·have:=cU.set 256 vN';rwa [Yw] at this
 ·rw[length_append];exact⟨Bn h2.own cU (by decide),fun i hi=>Bn (h2.row i hi) cU (by decide),h2.sep⟩
 intro i hi b e;by_cases e1:i=R.length
 ·rw[if_pos e1] at e;exact sX b e
 rw[if_neg e1] at e;exact h.sep i (by simp at hi;omega) b e
theorem iX.nQ{vK':Value}{m:Int}(h:iX W0 b4 K C vN R ws vK ms w)(hq:ms.length=q)
  (ho:w'.ownsRow W0.heap.size 3 1 vK' (q+1) (ints ms++[.int .i64 m])) (hg:w.grownBy w' vK.ownBlock) (fD:vK'.ownBlock=vK.ownBlock\/vK'.ownBlock=some w.heap.size):
  iX W0 b4 K C vN R ws vK' (ms++[m]) (w'.setCell ⟨b4,257,none⟩ vK'):=by
 subst hq;have cU:St w' 101 b4 (dH K vN vK):=h.st.af h.dt (by decide) hg;have hG:bK w' W0.heap.size 43 3 1 vN R.length ws (fun _=>C) (fun j=>ints (R.getD j [])):=
  ⟨rS h.next.own hg (fun b e e2=>iO h.next.own h.dt (by decide) b e e2.symm),fun i hi=>rS (h.next.row i hi) hg (fun b e e2=>h.sep i hi b e e2.symm),h.next.sep⟩
 refine⟨(gu h.bc h.dt h.bc.size hg).setCell (p:=⟨b4,257,none⟩) h.lo _,?_,⟨Bn hG.own cU (by decide),fun i hi=>Bn (hG.row i hi) cU (by decide),hG.sep⟩,?_,?_,h.lo⟩
 ·have:=cU.set 257 vK';rwa [zo5] at this
 ·have:=Bn (i:=257) (u:=vK') ho cU (by decide);rw[length_append];simpa [ints] using this
 intro i hi b e;rcases fD with e2|e2
 ·rw[e2];exact h.sep i hi b e
 rw[e2];intro e3;have:=me (h.next.row i hi) b e;simp at e3;omega
end
def EK(D:Dd)(C n':Nat)(Gh:Nat->Nat->Int)(q':Nat->Int)(w:World)(e:Ending)(w':World):Prop:=
 ∃D':Dd,e=.returned (.agg D'.cD)/\DM w' D'/\D'.K=D.K/\D'.n=n'/\D'.m=n'/\(∀i,i<n'->D'.len i=C)/\(∀i,i<n'->∀c,c<C->D'.nx i c=Gh i c)/\(∀i,i<n'->D'.q i=q' i)/\Below w.heap.size w w'/\w'.ownsRow w.heap.size 3 1 (.slice D'.aM n' D'.cM) n' (ints ((range n').map q'))
theorem iX.TE{D:Dd}{vN:Value}{R:List (List Int)}{vK:Value}{n':Nat}{Gh:Nat->Nat->Int}{q':Nat->Int}(hk:∀j,j<256->D.K j<256)(h:iX W0 b4 D.K C vN R ws vK ms wr)(hR:R.length=n')(xL:∀r∈R,r.length=C)(nK:ms=(range n').map q')
  (zQ:∀i,i<n'->∀c,c<C->(R.getD i []).getD c 0=Gh i c) (hw:w.heap.size<=W0.heap.size) (hb:Below wr.heap.size wr w'\/(∃b cs lX,St wr 101 b lX/\w'=wr.setRow b cs)) (hB:Below w.heap.size w w'):EK D C n' Gh q' w (.returned (.agg (dH D.K vN vK))) w':=by
 obtain⟨aN,cN,rfl⟩:=cy h.next.own
 obtain⟨aK,cK,rfl⟩:=cy h.dt;have oD:ms.length=n':=by rw[nK];simp
 have qj:∀{B t n:Nat}{v:Value}{xs:List Value},t≠101->wr.ownsRow B t 1 v n xs->w'.ownsRow B t 1 v n xs:=fun {B t n v xs} ht ho=>by
  rcases hb with hb|⟨b,cs,lX,hs,rfl⟩
  ·exact dE ho hb
  exact gk (ts:=[]) (bs:=[b]) ho (JH wr b cs) (by simp) (fun g e hm=>eI ho hs ht g e (List.mem_singleton.1 hm))
 have dd:bK w' W0.heap.size 43 3 1 (.slice aN R.length cN) R.length ws (fun _=>C) (fun j=>ints (R.getD j [])):=⟨qj (by decide) h.next.own,fun i hi=>qj (by decide) (h.next.row i hi),h.next.sep⟩
 have mC:=qj (by decide) h.dt;refine⟨⟨dH D.K (.slice aN R.length cN) (.slice aK ms.length cK),D.K,aN,R.length,cN,fun i=>wZ (ws i),fun i=>yQ (ws i),fun _=>C,fun i x=>(R.getD i []).getD x 0,aK,ms.length,cK,fun i=>ms.getD i 0⟩,rfl,
  ⟨nP _ _ _,yZ _ _ _ _ _ _ _,fun j hj=>Bi _ _ _ j hj,hk,ri _ _ _,AK _ _ _,dd.zs rfl xL,U0 mC rfl⟩,rfl,hR,oD,fun i hi=>rfl,zQ,fun i hi=>?_,hB,?_⟩
 ·show ms.getD i 0=_;rw[nK];simp[getD_eq_getElem?_getD,hi]
 show w'.ownsRow _ _ _ (.slice aK n' cK) n' _;rw[<-nK,<-oD];exact jH mC hw
theorem lj(w:World):w.drew.heap.size=w.heap.size:=rfl
theorem Ke(w:World)(o:Obj):(w.alloc o).heap.size=w.heap.size+1:=by simp
theorem Ys{o:Oper}(w:World)(t:TypeId)(parts:Array (Nat × Operand))(ho:o.op=.build t parts)(ps:Array (Nat × Value))(hp:(parts.map fun (i,x)=>(i,ρ x))=ps)(v:Value)(hb:(build t ps).run P w=.ok v w):
  (execOp ρ o).run P w=.ok (.value v) w:=by
 unfold execOp;simp only[ho,hp,run_bind,hb,andThen_ok,run_pure]
theorem Gw{o:Oper}{a:Act}{K:Act->World->Prop}{Q:Exit->Act->World->Prop}{E:Prop}(qC:o.guard=none)(t:TypeId)(ho:o.op=.alloc t)(cs:Array Value)(hz:(zeroValue t).run P w=.ok (.agg cs) w)
  (h:K (a.put o.dst (.pointer (some ⟨w.heap.size,0,none⟩))) (w.alloc (.cells cs t))):if wanted o (yielded ops a.tmps)=true then Oper.wp P o a w K Q else E:=by
 have hw:wanted o (yielded ops a.tmps)=true:=by simp[wanted,qC]
 rw[if_pos hw];unfold Oper.wp execOp;simp only[ho,Instr.alloc,run_bind,hz,andThen_ok,newVar,newRow,newObj,Value.cells];exact h
theorem GV{o:Oper}{a:Act}{K:Act->World->Prop}{Q:Exit->Act->World->Prop}{E:Prop}(qC:o.guard=none)(ty:TypeId)(x v:Operand)(ho:o.op=.store ty x v)(g t:Nat)(lX cs:Array Value)(hx:a.eval x=.pointer (some ⟨g,0,none⟩))(hv:a.eval v=.agg cs)
  (cU:w.heap[g]?=some (.cells lX t (0,0))) (cQ:lX.size=cs.size) (hi:(P.info? ty).map (·.size)=some cs.size) (h1:∀u∈cs.toList,u.oneCell'=true) (h:K (a.put o.dst undef) (w.setRow g cs)):if wanted o (yielded ops a.tmps)=true then Oper.wp P o a w K Q else E:=by
 have cZ:(storeVar ty ⟨g,0,none⟩ (.agg cs)).run P w=.ok () (w.setRow g cs):=by
  have hs:(sizeOf ty).run P w=.ok cs.size w:=by
   cases hq:P.info? ty with
   | none=>simp[hq] at hi
   | some inf=>
    have:inf.size=cs.size:=(by simpa [hq] using hi);simp[sizeOf,typeInfo,hq,this]
  have:=run_storeCells_at (P:=P) g 0 t cs.toList 0 lX w cU (by simp[cQ]) h1;unfold storeVar;simp only[run_bind,hs,andThen_ok];rw[if_neg (show ¬((Value.agg cs).cells.size≠cs.size) from fun h=>h rfl)];show (storeCells ⟨g,0,none⟩ cs.toList).run P w=_;rw[this];congr 2;have hd:List.drop cs.size lX.toList=[]:=List.drop_of_length_le (by simp[cQ]);simp[hd]
 have hw:wanted o (yielded ops a.tmps)=true:=by simp[wanted,qC]
 rw[if_pos hw];unfold Oper.wp execOp;simp only[ho,hx,hv,Instr.storeAt,sureAddr,run_bind,run_pure,andThen_ok,cZ];exact h
open Classical in
noncomputable def qh (D:Dd) (i c:Nat):Int:=if 0<=D.nx i c/\¬AE D (D.nx i c).toNat then -1 else D.nx i c
theorem iX.start{V0 V:World}{m:Nat}(hm:V.ownsRow V0.heap.size 3 1 (.slice a m c) m (ints ms))(hl:ms.length=m)(hb:Below V0.heap.size V0 V)(cU:St V 101 b4 (zC 101))(ur:V0.heap.size<=b4):
  iX V0 b4 K C (.slice none 0 0) [] ws (.slice a m c) ms (V.setRow b4 (dH K (.slice none 0 0) (.slice a m c))):=by
 refine⟨nY hb ur _,cU.setRow,⟨World.ownsRow_nil _ _ _ _,fun i hi=>absurd hi (by simp),fun i j hi=>absurd hi (by simp)⟩,?_,fun i hi=>absurd hi (by simp),ur⟩;rw[hl];exact gk (ts:=[]) (bs:=[b4]) hm (JH _ _ _) (by simp) (fun g e h=>eI hm cU (by decide) g e (List.mem_singleton.1 h))
theorem Ki(N:Nat)(hN:N<=2147483647)(W:World):(Instr.makeSlice 43 (.int .i64 (N:Int)) (.int .i64 (N:Int))).run prog W=.ok (.slice (some ⟨W.heap.size,0,none⟩) N N) (W.alloc (.cells (madeCells #[.int .i64 0] N) 3)):=by
 have:=run_make_row' (P:=prog) 43 3 (.int .i64 0) 8 underlying43 aH rfl .i64 .i64 N (by omega) (by omega) W;simpa using this
theorem G7(row:List Int)(m k:Nat)(v:Int)(h:row.length=k)(hk:k<m):(ints (row++replicate (m-k) 0)).set k (.int .i64 v)=ints ((row++[v])++replicate (m-(k+1)) 0):=by
 have e:replicate (m-k) (0:Int)=0 :: replicate (m-(k+1)) 0:=by
  rw[show m-k=(m-(k+1))+1 by omega,List.replicate_succ]
 rw[e];subst h;simp[ints,List.set_append]
def pO(z:Nat->Int)(fn:Nat->Int)(i:Nat):Int:=if z i=-1 then -1 else fn (z i).toNat
def VN(m:Nat)(r:Nat->Int)(w:World)(e:Ending)(w':World):Prop:=
 ∃(a:Option Addr) (c:Nat),e=.returned (.slice a m c)/\w'.ownsRow w.heap.size 3 1 (.slice a m c) m (ints ((range m).map r))/\Below w.heap.size w w'
theorem MI(kf bV n:Nat)(fn:Nat->Int)(m c:Nat)(a:Option Addr)(z:Nat->Int)(w:World)(HC:∀(args:Array Value) (W:World),(callFunc kf args).run prog W=.ok (.enter kf args) W)
  (HM:∀W,Below w.heap.size w W->∀x,x<n->Calls prog kf #[.int .i64 ((x:Nat):Int),.pointer (some ⟨bV,0,none⟩)] W fun e w'=>e=.returned (.int .i64 (fn x))/\w'=W)
  (hm:m<=1000) (hz:lT w a m z) (hb:∀i,i<m->-1<=z i/\z i<(n:Int)) (hn:n<=1000000):
  Calls prog 125 #[.slice a m c,.func (.func kf) #[] #[.pointer (some ⟨bV,0,none⟩)]] w (VN m (pO z fn) w):=by
 have gP:=Ki m (by omega);have HX:=ξ HM hz hb;have HO:=hid (Fb w w.heap.size m 3 (.int .i64 0) (le_refl _) (by unfold maxLen;omega));have pd:=hid (al w (.cells (madeCells #[.int .i64 0] m) 3));clear HM hz hb;go_in;go_wp2_with fail;obtain⟨g,hg⟩:=Ξ w.heap.size
 have lz:Hid ((w.alloc (.cells (madeCells #[.int .i64 0] m) 3)).ownsRow g 3 1 (.slice (some ⟨g,0,none⟩) m m) m (ints ([]++replicate (m-0) 0))/\Below g w (w.alloc (.cells (madeCells #[.int .i64 0] m) 3))):=by
  rw[<-hg];refine⟨?_,pd.o⟩;have:=HO.o;simpa [ints] using this
 rw[hg];generalize w.alloc (.cells (madeCells #[.int .i64 0] m) 3)=W1 at lz⊢;have Hg:=hid hg;clear HO pd hg;go_loopw [6,7,13] (fun _ _ v wr=>∃(k:Nat),v=.int .i64 k/\k<=m/\Hid (wr.ownsRow g 3 1 (.slice (some ⟨g,0,none⟩) m m) m (ints ((range k).map (pO z fn)++replicate (m-k) 0))/\Below g w wr)) (fun _ _ v _=>m-(intOf v).toNat)
 ·exact⟨0,rfl,by omega,lz⟩
 clear lz;obtain⟨k,rfl,hk,HA⟩:=hrel;by_cases aq:k<m
 ·have km:Below w.heap.size w wr:=by rw[Hg.o];exact HA.o.2
  obtain⟨gA,oA,rfl,FX,p9⟩:=HX.o.2.1 (by omega);have cA:=(km.cell (p:=⟨gA,oA+k,none⟩) FX).trans (p9 k aq);have Jk:=HX.o.2.2 k aq;obtain⟨g',e',_,_,nH⟩:=fG HA.o.1 (by omega);obtain rfl:g'=g:=by
   injection e' with e';injection e' with e' _;exact e'.symm
  obtain⟨y0,y1⟩:=nH k (by omega);have hlen:((range k).map (pO z fn)).length=k:=by simp
  have y2:(ints ((range k).map (pO z fn)++replicate (m-k) 0))[k]?=some (.int .i64 0):=by
   have:0<m-k:=(by omega);simp[ints,getElem?_append,this]
  rw[y2] at y0;have fP:Hid ((wr.setCell ⟨g',k,none⟩ (.int .i64 (-1))).ownsRow g' 3 1 (.slice (some ⟨g',0,none⟩) m m) m (ints (((range k).map (pO z fn)++[-1])++replicate (m-(k+1)) 0))/\Below g' w (wr.setCell ⟨g',k,none⟩ (.int .i64 (-1)))):=by
   refine⟨?_,HA.o.2.setCell (p:=⟨g',k,none⟩) (le_refl _) _⟩;have:=xC HA.o.1 k aq (.int .i64 (-1));rwa [G7 _ m k _ hlen aq] at this
  have KO:Hid (∀v,pO z fn k=v->(range (k+1)).map (pO z fn)=(range k).map (pO z fn)++[v]):=fun v h=>by
   rw[range_succ,map_append,List.map_singleton,h]
  have DC:Hid ((z k=-1->pO z fn k=-1)/\∀x:Nat,z k=(x:Int)->pO z fn k=fn x):=⟨fun h=>by simp[pO,h],fun x h=>by
   unfold pO
   rw[if_neg (by omega),h]
   rfl⟩
  have yP:=hid hlen;have i1:(k:Int)<m:=by omega
  have KA:=hid HX.o.1
  try dsimp only at cA
  clear p9 nH e' y2 hlen;generalize z k=t at cA Jk DC;go_upto_region 6 with fail;generalize wr.setCell ⟨g',k,none⟩ (.int .i64 (-1))=W5 at fP⊢;clear y0 y1 cA km;by_cases ht:t=-1
  ·subst ht;have HZ:=hid (KO.o (-1) (DC.o.1 rfl));go_wp2;go_roundw
   ·exact⟨k+1,by go_num,by omega,by rw[HZ.o];exact fP⟩
   simp[intOf];omega
  obtain⟨x,rfl⟩:∃x:Nat,t=(x:Int):=⟨t.toNat,by omega⟩
  have kE:x<n:=by omega
  have lZ:((x:Int) != (-1:Int))=true:=by first|(simp;done)|(simp;omega)
  have yT:=hid (KA.o W5 (by rw[Hg.o];exact fP.o.2) x kE);have HZ:=hid (KO.o (fn x) (DC.o.2 x rfl));generalize fn x=r at yT HZ;go_wp2_with fail;refine yT.o.mono ?_;rintro e w6 ⟨rfl,rfl⟩;obtain⟨g2,e2,_,_,gj⟩:=fG fP.o.1 (by omega);obtain rfl:g2=g':=by
   injection e2 with e2;injection e2 with e2 _;exact e2.symm
  obtain⟨y0,y1⟩:=gj k (by omega);have y2:(ints (((range k).map (pO z fn)++[-1])++replicate (m-(k+1)) 0))[k]?=some (.int .i64 (-1)):=by
   simp[ints,getElem?_append]
  rw[y2] at y0;have jA:Hid ((w6.setCell ⟨g2,k,none⟩ (.int .i64 r)).ownsRow g2 3 1 (.slice (some ⟨g2,0,none⟩) m m) m (ints (((range k).map (pO z fn)++[r])++replicate (m-(k+1)) 0))/\Below g2 w (w6.setCell ⟨g2,k,none⟩ (.int .i64 r))):=by
   refine⟨?_,fP.o.2.setCell (p:=⟨g2,k,none⟩) (le_refl _) _⟩;have:=xC fP.o.1 k aq (.int .i64 r);have e3:(ints (((range k).map (pO z fn)++[-1])++replicate (m-(k+1)) 0)).set k (.int .i64 r)=ints (((range k).map (pO z fn)++[r])++replicate (m-(k+1)) 0):=by
    have hl:=yP.o;rw[<-G7 _ m k (-1) hl aq,List.set_set,G7 _ m k r hl aq]
   rwa [e3] at this
  clear gj e2 y2;go_wp2;go_roundw
  ·exact⟨k+1,by go_num,by omega,by rw[HZ.o];exact jA⟩
  simp[intOf];omega
 obtain rfl:k=m:=by omega
 have HF:Hid (VN k (pO z fn) w (.returned (.slice (some ⟨g,0,none⟩) k k)) wr):=by
  refine⟨_,_,rfl,?_,by rw[Hg.o];exact HA.o.2⟩;have:=HA.o.1;rw[Nat.sub_self,List.replicate_zero,List.append_nil,<-Hg.o] at this;rw[<-Hg.o];exact this
 go_wp2;go_ret;exact HF.o
theorem WN:∀(args:Array Value) (W:World),(callFunc 129 args).run prog W=.ok (.enter 129 args) W:=fun _ _=>by rfl
theorem zha(b3 n c:Nat)(a:Option Addr)(f:Nat->Bool)(w:World)(hS:St w 129 b3 #[.slice a n c])(hf:pN w a n f)(x:Nat)(hx:x<n):
  Calls prog 129 #[.int .i64 (x:Int),.pointer (some ⟨b3,0,none⟩)] w fun e w'=>e=.returned (.int .i64 (if f x=true then (x:Int) else -1))/\w'=w:=by
 have c0:w.cell? ⟨b3,0,none⟩=some (.slice a n c):=hS.at_ 0;obtain⟨g,o,rfl,_,q⟩:=hf (by omega);have d0:=q x hx;have i1:(x:Int)<n:=by omega
 clear q;rcases MC:f x with _|_
 ·rw[MC] at d0;have HZ:Hid ((if (false=true) then (x:Int) else -1)=-1):=by show _=_;simp
  clear MC;go_in;go_wp2;go_ret;exact⟨by first|rfl|(rw[HZ.o];rfl)|simp,rfl⟩
 rw[MC] at d0;clear MC;go_in;go_wp2;go_ret;exact⟨by first|rfl|simp,rfl⟩
theorem zo6(D:Dd)(C:Nat)(w:World)(hD:DM w D)(hR:DR D C):
  Calls prog 99 #[.agg D.cD] w (EK D C D.n (qh D) D.q w):=by
 have Bm:∀(fn:Fn) (first cap:Array Value) (w:World),(Instr.makeFunc fn first cap).run prog w=.ok (.func fn first cap) w:=fun _ _ _ _=>rfl
 have dd:=hR.n2;have dr:=hR.n1;have ly:=hR.m;have Bt:=(hR.lf hD.kl).2;have HB:=ξ (dD.new hD) (al w (.cells D.cD 101)) hR;obtain⟨iI,hI,q8,rm,rf⟩:=info_parts aH;obtain⟨iV,hV,wF,wg,wD⟩:=info_parts fa;clear hD hR;go_in;go_upto_region 1 with (refine tq rfl 101 rfl (zC 101) (o8 _) ?_);simp only[Act.put,List.setIfInBounds_toArray,List.set_cons_zero,List.set_cons_succ,Ke];have H0:Hid (dD ((w.alloc (.cells D.cD 101)).alloc (.cells (zC 101) 101)) w.heap.size D/\St ((w.alloc (.cells D.cD 101)).alloc (.cells (zC 101) 101)) 101 (w.heap.size+1) (zC 101)/\Below w.heap.size w ((w.alloc (.cells D.cD 101)).alloc (.cells (zC 101) 101))):=by
  refine⟨HB.o.1.ae (al _ _),?_,HB.o.2.1.trans ((al _ _).mono (by simp))⟩;have:=St.new (w.alloc (.cells D.cD 101)) 101 (zC 101);simpa using this
 generalize (w.alloc (.cells D.cD 101)).alloc (.cells (zC 101) 101)=Wb at H0⊢;obtain⟨b2,cH⟩:=Ξ (w.heap.size+1)
 obtain⟨b0,bz⟩:=Ξ w.heap.size
 rw[cH,bz] at H0;rw[cH,bz];have Hb:=ζ bz cH;clear cH bz;have uX:=hid (Ji D C HB.o.2.2 Wb H0.o.1.dm);go_wp2_with (refine pU (by rfl) 101 _ rfl ⟨b0,0,none⟩ rfl D.cD _ H0.o.1.st.part underlying101 rfl H0.o.1.dm.info ?_);refine uX.o.mono ?_;rintro e wy ⟨rfl,ta⟩;have tv:Hid (dD wy b0 D/\St wy 101 b2 (zC 101)/\Below b0 w wy):=⟨H0.o.1.ae ta,H0.o.2.1.ae ta,H0.o.2.2.trans (ta.mono (by have:=H0.o.2.2.size;have:=Hb.o.1;omega))⟩
 have X6:=hid (zm3 D C wy tv.o.1.dm HB.o.2.2);clear ta uX;go_wp2_with (refine pU (by rfl) 101 _ rfl ⟨b0,0,none⟩ rfl D.cD _ tv.o.1.st.part underlying101 rfl tv.o.1.dm.info ?_);refine X6.o.mono ?_;rintro e wA ⟨f,aA,cA,rfl,hoA,hfA,bA⟩;go_upto_region 4 with fail;have k3:=al wA (.cells #[.slice aA D.n cA] 129);have vG:Hid (St (wA.alloc (.cells #[.slice aA D.n cA] 129)) 129 wA.heap.size #[.slice aA D.n cA]):=St.new _ _ _;have b1:Below wy.heap.size wy (wA.alloc (.cells #[.slice aA D.n cA] 129)):=bA.trans (k3.mono bA.size);have KY:=ζ ((Ow hoA).below k3) hfA;obtain⟨b3,dY⟩:=Ξ wA.heap.size
 rw[dY] at vG;rw[dY];generalize wA.alloc (.cells #[.slice aA D.n cA] 129)=w1 at b1 KY vG⊢;clear k3 dY bA;have H1:=ξ (tv.o.1.ae b1) (tv.o.2.1.ae b1) (tv.o.2.2.trans (b1.mono (by have:=tv.o.2.2.size;have:=Hb.o.1;omega)));obtain⟨gM,oM,eM,uc,pj⟩:=H1.o.1.dm.rM (by omega);have Cj:=ψ eM uc (by rw[ly] at pj;exact pj:∀j,j<D.n->w1.cell? ⟨gM,oM+j,none⟩=some (.int .i64 (D.q j))) ly;have xe:Hid (w.heap.size<=w1.heap.size):=by have h1:=tv.o.2.2.size;have h2:=b1.size;have h3:=Hb.o.1;show _<=_;omega
 have eh:Hid (∀W',Below w1.heap.size w1 W'->Below w1.heap.size w1 W'/\dD W' b0 D/\W'.cell? ⟨b0,257,none⟩=some (.slice (some ⟨gM,oM,none⟩) D.n D.cM)):=fun W' h=>⟨h,H1.o.1.ae h,by have:=(H1.o.1.ae h).f2;rw[eM,ly] at this;exact this⟩
 have lY:Hid (∀W',Below w1.heap.size w1 W'->∀j u,(ints ((range D.n).map D.q))[j]?=some u->W'.cell? ((⟨gM,oM,none⟩:Addr).add j)=some u):=fun W' h=>YO (fun j hj=>(h.cell (p:=⟨gM,oM+j,none⟩) Cj.o.2.1).trans (Cj.o.2.2.1 j hj))
 clear hoA hfA b1 X6 eM pj uc ly
 go_cut [4] from 13 to 18 (fun v wx=>∃(b4:Nat) (a6:Option Addr) (c6:Nat),v=.pointer (some ⟨b4,0,none⟩)/\iX w1 b4 D.K C (.slice none 0 0) [] (fun _=>.slice none 0 0) (.slice a6 D.n c6) ((range D.n).map D.q) wx)
 case first=>
  refine wp_region_held_drew (S:=fun W'=>Below w1.heap.size w1 W'/\dD W' b0 D/\W'.cell? ⟨b0,257,none⟩=some (.slice (some ⟨gM,oM,none⟩) D.n D.cM)) (by kernel_rfl) (eh.o _ (Below.refl _ _).drew) (fun η=>?_)
  (refine ay 0 ?_)
  (refine ay 1 (v:=.agg (bu D.K)) ?_ (hy:=by intro wz hSw;exact EZ (o:=_) (ρ:=_) wz 98 (.tmp 13) rfl ⟨b0,0,none⟩ rfl (bu D.K) _ (dD.fy (And.left (And.right hSw))) underlying98 rfl (BG D.K)))
  (refine ay 2 ?_;refine ay 3 ?_;try simp only[Act.put,sA])
  refine wpAnyH_ready (rs:=[4,6]) (by kernel_rfl) (by simp) ?_;refine jn (fun K hK=>?_) ?_
  ·skip;go_simp;go_at_call 128;refine (N8 D.n D.cM (some ⟨gM,oM,none⟩) D.q (by omega) _ (fun _=>⟨gM,oM,rfl,Nat.lt_of_lt_of_le Cj.o.2.1 η.1.size,fun j hj=>(η.1.cell (p:=⟨gM,oM+j,none⟩) Cj.o.2.1).trans (Cj.o.2.2.1 j hj)⟩) (fun h=>by cases h) (fun ad h=>by injection h with h;rw[<-h])).mono ?_;rintro e V5 ⟨a6,c6,rfl,an,b6⟩;have ve:=ζ (jH an η.1.size) (η.1.trans (b6.mono η.1.size));clear an b6
   try go_wp2_with fail
   refine hK.out _ _ (eh.o _ ve.o.2) fun η=>?_;clear hK K
   try simp only[Act.put,sA]
   (refine wpAnyH_take (i:=5) (oi:=?_) (v:=.agg (dH D.K (.slice none 0 0) (.slice a6 D.n c6))) ?_ (by kernel_rfl) (by kernel_rfl) (by kernel_rfl) ?_ (inl ⟨?_,?_⟩) (by assumption) ?_;rotate_left;(focus ((simp only[List.getElem?_toArray,List.getElem?_cons_succ,List.getElem?_cons_zero]);first|done|rfl));(focus (exact fun _ _ _ h=>h));(focus rfl);(focus (intro wz hSw;exact Ys wz _ _ rfl #[(0,.agg (bu D.K)),(2,.slice a6 D.n c6)] (by first|rfl|simp[Act.eval]|(simp;rfl)) _ (YM D.K a6 D.n c6 wz)));try simp only[Act.put,sA])
   refine bH 6 (fun K hK=>?_);skip;refine Gw (by rfl) 101 (by rfl) (zC 101) (o8 _) ?_;have kk:=al V5 (.cells (zC 101) 101);have bQ:Below w1.heap.size w1 (V5.alloc (.cells (zC 101) 101)):=η.1.trans (kk.mono η.1.size);have H7:Hid (St (V5.alloc (.cells (zC 101) 101)) 101 V5.heap.size (zC 101)/\w1.heap.size<=V5.heap.size):=(⟨St.new _ _ _,η.1.size⟩);have ve:Hid ((V5.alloc (.cells (zC 101) 101)).ownsRow w1.heap.size 3 1 (.slice a6 D.n c6) D.n (ints ((range D.n).map D.q))/\Below w1.heap.size w1 (V5.alloc (.cells (zC 101) 101))):=(⟨dE ve.o.1 kk,bQ⟩);refine hK.out _ _ (eh.o _ bQ) fun η=>?_;clear hK K
   try simp only[Act.put,sA]
   try simp only[lj]
   clear kk;generalize (V5.alloc (.cells (zC 101) 101))=V7 at H7 ve η bQ⊢;refine bH 7 (fun K hK=>?_);skip;refine GV (by rfl) 101 _ _ (by rfl) V5.heap.size 101 (zC 101) (dH D.K (.slice none 0 0) (.slice a6 D.n c6)) (by rfl) (by rfl) H7.o.1 (by rw[kr,nP]) (by rw[iN,nP]) (yZ _ _ _ _ _ _ _) ?_;have kq:=hid (iX.start (K:=D.K) (C:=C) (ws:=fun _=>.slice none 0 0) ve.o.1 (by simp) ve.o.2 H7.o.1 H7.o.2);refine hK.out _ _ (eh.o _ kq.o.bc) fun η=>?_;clear hK K
   try simp only[Act.put,sA]
   refine wpAnyH_done (by kernel_rfl) ?_ _;clear η ve H7;go_wp2_with fail
   go_meet
   exact⟨_,_,_,rfl,kq.o⟩
  refine jn (fun K hK=>?_) ?_
  ·skip;refine Gw (by rfl) 101 (by rfl) (zC 101) (o8 _) ?_;have kk:=al w1.drew (.cells (zC 101) 101);have bQ:Below w1.heap.size w1 (w1.drew.alloc (.cells (zC 101) 101)):=η.1.trans (kk.mono η.1.size);have H7:Hid (St (w1.drew.alloc (.cells (zC 101) 101)) 101 w1.heap.size (zC 101)/\w1.heap.size<=w1.heap.size):=(⟨St.new _ _ _,η.1.size⟩);refine hK.out _ _ (eh.o _ bQ) fun η=>?_;clear hK K
   try simp only[Act.put,sA]
   try simp only[lj]
   clear kk;generalize (w1.drew.alloc (.cells (zC 101) 101))=V7 at H7 η bQ⊢;refine bH 4 (fun K hK=>?_);skip;go_simp;go_at_call 128;refine (N8 D.n D.cM (some ⟨gM,oM,none⟩) D.q (by omega) _ (fun _=>⟨gM,oM,rfl,Nat.lt_of_lt_of_le Cj.o.2.1 η.1.size,fun j hj=>(η.1.cell (p:=⟨gM,oM+j,none⟩) Cj.o.2.1).trans (Cj.o.2.2.1 j hj)⟩) (fun h=>by cases h) (fun ad h=>by injection h with h;rw[<-h])).mono ?_;rintro e V5 ⟨a6,c6,rfl,an,b6⟩;have ve:=ζ (jH an η.1.size) (η.1.trans (b6.mono η.1.size));have H7:Hid (St V5 101 w1.heap.size (zC 101)/\w1.heap.size<=w1.heap.size):=(⟨H7.o.1.ae b6,H7.o.2⟩);clear an b6
   try go_wp2_with fail
   refine hK.out _ _ (eh.o _ ve.o.2) fun η=>?_;clear hK K
   try simp only[Act.put,sA]
   (refine wpAnyH_take (i:=5) (oi:=?_) (v:=.agg (dH D.K (.slice none 0 0) (.slice a6 D.n c6))) ?_ (by kernel_rfl) (by kernel_rfl) (by kernel_rfl) ?_ (inl ⟨?_,?_⟩) (by assumption) ?_;rotate_left;(focus ((simp only[List.getElem?_toArray,List.getElem?_cons_succ,List.getElem?_cons_zero]);first|done|rfl));(focus (exact fun _ _ _ h=>h));(focus rfl);(focus (intro wz hSw;exact Ys wz _ _ rfl #[(0,.agg (bu D.K)),(2,.slice a6 D.n c6)] (by first|rfl|simp[Act.eval]|(simp;rfl)) _ (YM D.K a6 D.n c6 wz)));try simp only[Act.put,sA])
   refine bH 7 (fun K hK=>?_);skip;refine GV (by rfl) 101 _ _ (by rfl) w1.heap.size 101 (zC 101) (dH D.K (.slice none 0 0) (.slice a6 D.n c6)) (by rfl) (by rfl) H7.o.1 (by rw[kr,nP]) (by rw[iN,nP]) (yZ _ _ _ _ _ _ _) ?_;have kq:=hid (iX.start (K:=D.K) (C:=C) (ws:=fun _=>.slice none 0 0) ve.o.1 (by simp) ve.o.2 H7.o.1 H7.o.2);refine hK.out _ _ (eh.o _ kq.o.bc) fun η=>?_;clear hK K
   try simp only[Act.put,sA]
   refine wpAnyH_done (by kernel_rfl) ?_ _;clear η ve H7;go_wp2_with fail
   go_meet
   exact⟨_,_,_,rfl,kq.o⟩
  exact AllReadyH.nil
 case rest=>
  obtain⟨b4,a6,c6,rfl,Bo⟩:=hcut;have kq:=hid Bo;clear Bo;obtain⟨gN,oN,eN,od,rF⟩:=H1.o.1.dm.rN (by omega);have wP:=hid (H1.o.1.ae kq.o.bc);have f1:=wP.o.f1;rw[eN] at f1;have Db:=hid eN;have xA:=hid rF;have Hg:=hid od;clear eN rF od;go_wp2_with fail;clear f1;go_loopw [6,22] (fun _ v wr=>∃(i:Nat) (ws:Nat->Value) (aN:Option Addr) (cN:Nat),v=.int .i64 i/\i<=D.n/\Hid (iX w1 b4 D.K C (.slice aN i cN) ((range i).map fun i=>(range C).map (qh D i)) ws (.slice a6 D.n c6) ((range D.n).map D.q) wr)) (fun _ v _=>D.n-(intOf v).toNat)
  ·exact⟨0,_,none,0,rfl,by omega,kq⟩
  clear kq;obtain⟨i,ws,aN,cN,rfl,hi,HT⟩:=hrel;have nA:Hid (((range i).map fun i=>(range C).map (qh D i)).length=i):=by show _=_;simp
  by_cases aq:i<D.n
  ·have i1:(i:Int)<(D.n:Int):=(by omega);have hlen:=HB.o.2.2.len i aq;have qZ:=(HT.o.bc.cell (p:=⟨gN,oN+i,none⟩) Hg.o).trans (xA.o i aq).1;have zN:=(xA.o i aq).2;rw[hlen] at qZ zN
   try dsimp only at qZ
   have yV:Hid (lT wr.drew (D.A i) C (D.nx i)):=(zN.below HT.o.bc).below (Below.refl _ _).drew;have FG:Hid ((range (i+1)).map (fun i=>(range C).map (qh D i))=(range i).map (fun i=>(range C).map (qh D i))++[(range C).map (qh D i)]):=(by show _=_;rw[range_succ,map_append];rfl);have xj:Hid ((range C).map (pO (D.nx i) (fun x=>if f x=true then ((x:Nat):Int) else -1))=(range C).map (qh D i)):=by
    show _=_;refine(List.map_congr_left fun c hc=>?_);have gj:c<C:=(by simpa using hc);have hb:=HB.o.2.2.nx i c aq gj;unfold pO qh;by_cases h1:D.nx i c=-1
    ·rw[if_pos h1,if_neg (by omega),h1]
    rw[if_neg h1];have hx:(D.nx i c).toNat<D.n:=(by omega);dsimp only;by_cases h2:f (D.nx i c).toNat=true
    ·rw[if_pos h2,if_neg (fun h=>h.2 ((KY.o.2 _ hx).1 h2))];omega
    rw[if_neg h2,if_pos ⟨by omega,fun h=>h2 ((KY.o.2 _ hx).2 h)⟩]
   clear hlen zN;go_upto_region 8 with fail;clear qZ;refine wp_region_held_drew (S:=fun W'=>Below w1.heap.size w1 W') (by kernel_rfl) HT.o.bc.drew fun η=>?_;have HT:Hid (iX w1 b4 D.K C (.slice aN i cN) ((range i).map fun i=>(range C).map (qh D i)) ws (.slice a6 D.n c6) ((range D.n).map D.q) wr.drew):=HT.o.ae (Below.refl _ _).drew
   (refine ay 0 ?_;refine ay 2 ?_;refine ay 3 ?_;try simp only[Act.put,sA])
   ·refine wpAnyH_ready (rs:=[1,4]) (by kernel_rfl) (by simp) (jn (fun K hK=>?_) (jn (fun K hK=>?_) AllReadyH.nil))
    skip;have f1:=HT.o.f1;go_simp;refine hK.out _ _ (η) fun η=>?_;clear hK K
    try simp only[Act.put,sA]
    clear f1;refine bH 4 (fun K hK=>?_);skip;have iQ:=(HT.o.next.lt).2;have ka:=me HT.o.dt;go_simp;go_at_call 125;refine (MI 129 b3 D.n (fun x=>if f x=true then ((x:Nat):Int) else -1) C (D.Cp i) (D.A i) (D.nx i) _ WN (fun W' h x hx=>zha b3 D.n cA aA f W' ((vG.o.ae HT.o.bc).ae h) ((KY.o.1.below HT.o.bc).below h) x hx) (by omega) (by have h9:=yV.o;exact h9) (fun c hc=>HB.o.2.2.nx i c aq hc) (by omega)).mono ?_;rintro e w5 ⟨a5,c5,rfl,ky,b5⟩;have HU:Hid (w5.ownsRow w1.heap.size 3 1 (.slice a5 C c5) C (ints ((range C).map (qh D i)))/\(∀j,j<((range i).map fun i=>(range C).map (qh D i)).length->∀b,(ws j).ownBlock=some b->(Value.slice a5 C c5).ownBlock≠some b)/\∀b,(Value.slice a5 C c5).ownBlock=some b->(Value.slice a6 D.n c6).ownBlock≠some b):=by
     have jS:=ln ky;refine⟨?_,fun j hj b e1 e2=>?_,fun b e1 e2=>?_⟩
     ·rw[<-xj.o];exact jH ky HT.o.bc.size
     ·have h1:=iQ j hj b e1;have h2:=jS b e2
      try simp only[lj] at h1
      try simp only[lj] at h2
      omega
     have h1:=ka b e2;have h2:=jS b e1
     try simp only[lj] at h1
     try simp only[lj] at h2
     omega
    have HT:=hid (HT.o.ae b5);clear ky b5 iQ ka
    try go_wp2_with fail
    refine hK.out _ _ (HT.o.bc) fun η=>?_;clear hK K
    try simp only[Act.put,sA]
    refine bH 5 (fun K hK=>?_);skip;go_simp;have kk:=al w5 (.cells #[.slice a5 C c5] 43);have HN:Hid (∀j u,[Value.slice a5 C c5][j]?=some u->(w5.alloc (.cells #[.slice a5 C c5] 43)).cell? ((⟨w5.heap.size,0,none⟩:Addr).add j)=some u):=cell_one_new _ _ _;have HT:=hid (HT.o.ae kk);have HU:=ζ (dE HU.o.1 kk) HU.o.2;refine hK.out _ _ (HT.o.bc) fun η=>?_;clear hK K
    try simp only[Act.put,sA]
    clear kk;generalize w5.alloc (.cells #[.slice a5 C c5] 43)=V5 at HN HT HU η⊢;refine bH 6 (fun K hK=>?_);skip;have hO:=(HT.o.next.own);rw[nA.o] at hO;refine yX (by rfl) _ _ _ (by rfl) w1.heap.size 43 iV (.slice none 0 0) 1 24 underlying99 hV wF wg wD (by rfl) (by decide) _ i ((range i).map ws) (by rfl) hO ⟨w5.heap.size,0,none⟩ 1 1 [.slice a5 C c5] (by rfl) (by rfl) HN.o (by intro u hu;simp at hu;subst hu;rfl) (by unfold maxLen;omega) (by omega) HT.o.bc.size ?_;intro v6 w6 an ag;obtain⟨a7,c7,rfl⟩:=cy an;have jT:=hid (HT.o.gY (u:=.slice a5 C c5) (vN':=.slice a7 (i+1) c7) HU.o.1 HU.o.2.1 HU.o.2.2 nA.o an ag);have h9:=(HT.o.st.af HT.o.next.own (by decide) ag);have z2:w6.cell? ⟨b4,256,none⟩=some (.slice aN i cN):=(by rw[h9.at_,ri]);have z3:w6.frozen? ⟨b4,256,none⟩=false:=h9.bE 256;have eJ:=(gu HT.o.bc HT.o.next.own HT.o.bc.size ag);clear an ag h9 hO;refine hK.out _ _ (eJ) fun η=>?_;clear hK K
    rotate_left
    skip;have iQ:=(HT.o.next.lt).2;have ka:=me HT.o.dt;go_simp;go_at_call 125;refine (MI 129 b3 D.n (fun x=>if f x=true then ((x:Nat):Int) else -1) C (D.Cp i) (D.A i) (D.nx i) _ WN (fun W' h x hx=>zha b3 D.n cA aA f W' ((vG.o.ae HT.o.bc).ae h) ((KY.o.1.below HT.o.bc).below h) x hx) (by omega) (by have h9:=yV.o;exact h9) (fun c hc=>HB.o.2.2.nx i c aq hc) (by omega)).mono ?_;rintro e w5 ⟨a5,c5,rfl,ky,b5⟩;have HU:Hid (w5.ownsRow w1.heap.size 3 1 (.slice a5 C c5) C (ints ((range C).map (qh D i)))/\(∀j,j<((range i).map fun i=>(range C).map (qh D i)).length->∀b,(ws j).ownBlock=some b->(Value.slice a5 C c5).ownBlock≠some b)/\∀b,(Value.slice a5 C c5).ownBlock=some b->(Value.slice a6 D.n c6).ownBlock≠some b):=by
     have jS:=ln ky;refine⟨?_,fun j hj b e1 e2=>?_,fun b e1 e2=>?_⟩
     ·rw[<-xj.o];exact jH ky HT.o.bc.size
     ·have h1:=iQ j hj b e1;have h2:=jS b e2
      try simp only[lj] at h1
      try simp only[lj] at h2
      omega
     have h1:=ka b e2;have h2:=jS b e1
     try simp only[lj] at h1
     try simp only[lj] at h2
     omega
    have HT:=hid (HT.o.ae b5);clear ky b5 iQ ka
    try go_wp2_with fail
    refine hK.out _ _ (HT.o.bc) fun η=>?_;clear hK K
    try simp only[Act.put,sA]
    refine wpAnyH_ready (rs:=[1,5]) (by kernel_rfl) (by simp) (jn (fun K hK=>?_) (jn (fun K hK=>?_) AllReadyH.nil))
    skip;have f1:=HT.o.f1;go_simp;refine hK.out _ _ (η) fun η=>?_;clear hK K
    try simp only[Act.put,sA]
    clear f1;refine bH 5 (fun K hK=>?_);skip;go_simp;have kk:=al w5 (.cells #[.slice a5 C c5] 43);have HN:Hid (∀j u,[Value.slice a5 C c5][j]?=some u->(w5.alloc (.cells #[.slice a5 C c5] 43)).cell? ((⟨w5.heap.size,0,none⟩:Addr).add j)=some u):=cell_one_new _ _ _;have HT:=hid (HT.o.ae kk);have HU:=ζ (dE HU.o.1 kk) HU.o.2;refine hK.out _ _ (HT.o.bc) fun η=>?_;clear hK K
    try simp only[Act.put,sA]
    clear kk;generalize w5.alloc (.cells #[.slice a5 C c5] 43)=V5 at HN HT HU η⊢;refine bH 6 (fun K hK=>?_);skip;have hO:=(HT.o.next.own);rw[nA.o] at hO;refine yX (by rfl) _ _ _ (by rfl) w1.heap.size 43 iV (.slice none 0 0) 1 24 underlying99 hV wF wg wD (by rfl) (by decide) _ i ((range i).map ws) (by rfl) hO ⟨w5.heap.size,0,none⟩ 1 1 [.slice a5 C c5] (by rfl) (by rfl) HN.o (by intro u hu;simp at hu;subst hu;rfl) (by unfold maxLen;omega) (by omega) HT.o.bc.size ?_;intro v6 w6 an ag;obtain⟨a7,c7,rfl⟩:=cy an;have jT:=hid (HT.o.gY (u:=.slice a5 C c5) (vN':=.slice a7 (i+1) c7) HU.o.1 HU.o.2.1 HU.o.2.2 nA.o an ag);have h9:=(HT.o.st.af HT.o.next.own (by decide) ag);have z2:w6.cell? ⟨b4,256,none⟩=some (.slice aN i cN):=(by rw[h9.at_,ri]);have z3:w6.frozen? ⟨b4,256,none⟩=false:=h9.bE 256;have eJ:=(gu HT.o.bc HT.o.next.own HT.o.bc.size ag);clear an ag h9 hO;refine hK.out _ _ (eJ) fun η=>?_;clear hK K
    rotate_left
    skip;go_simp;have kk:=al w5 (.cells #[.slice a5 C c5] 43);have HN:Hid (∀j u,[Value.slice a5 C c5][j]?=some u->(w5.alloc (.cells #[.slice a5 C c5] 43)).cell? ((⟨w5.heap.size,0,none⟩:Addr).add j)=some u):=cell_one_new _ _ _;have HT:=hid (HT.o.ae kk);have HU:=ζ (dE HU.o.1 kk) HU.o.2;refine hK.out _ _ (HT.o.bc) fun η=>?_;clear hK K
    try simp only[Act.put,sA]
    clear kk;generalize w5.alloc (.cells #[.slice a5 C c5] 43)=V5 at HN HT HU η⊢;refine bH 1 (fun K hK=>?_);skip;have f1:=HT.o.f1;go_simp;refine hK.out _ _ (η) fun η=>?_;clear hK K
    try simp only[Act.put,sA]
    clear f1;refine bH 6 (fun K hK=>?_);skip;have hO:=(HT.o.next.own);rw[nA.o] at hO;refine yX (by rfl) _ _ _ (by rfl) w1.heap.size 43 iV (.slice none 0 0) 1 24 underlying99 hV wF wg wD (by rfl) (by decide) _ i ((range i).map ws) (by rfl) hO ⟨w5.heap.size,0,none⟩ 1 1 [.slice a5 C c5] (by rfl) (by rfl) HN.o (by intro u hu;simp at hu;subst hu;rfl) (by unfold maxLen;omega) (by omega) HT.o.bc.size ?_;intro v6 w6 an ag;obtain⟨a7,c7,rfl⟩:=cy an;have jT:=hid (HT.o.gY (u:=.slice a5 C c5) (vN':=.slice a7 (i+1) c7) HU.o.1 HU.o.2.1 HU.o.2.2 nA.o an ag);have h9:=(HT.o.st.af HT.o.next.own (by decide) ag);have z2:w6.cell? ⟨b4,256,none⟩=some (.slice aN i cN):=(by rw[h9.at_,ri]);have z3:w6.frozen? ⟨b4,256,none⟩=false:=h9.bE 256;have eJ:=(gu HT.o.bc HT.o.next.own HT.o.bc.size ag);clear an ag h9 hO;refine hK.out _ _ (eJ) fun η=>?_;clear hK K
    rotate_left
    all_goals
     try simp only[Act.put,sA]
     (refine ay 7 ?_;try simp only[Act.put,sA])
     refine bH 8 (fun K hK=>?_);skip;go_simp;refine hK.out _ _ (jT.o.bc) fun η=>?_;clear hK K
     try simp only[Act.put,sA]
     refine wpAnyH_done (by kernel_rfl) ?_ _;rw[<-FG.o] at jT;clear η z2 z3 eJ;go_wp2;go_roundw
     ·exact⟨i+1,_,a7,c7,by go_num,by omega,jT⟩
     simp[intOf];omega
  obtain rfl:i=D.n:=by omega
  have jB:=hid HT.o.st;have gq:=hid (H1.o.2.1.ae HT.o.bc);have hd:=nP D.K (.slice aN D.n cN) (.slice a6 D.n c6);have CP:Hid (Below w.heap.size w (wr.setRow b2 (dH D.K (.slice aN D.n cN) (.slice a6 D.n c6)))):=by
   rw[Hb.o.1];exact nY (H1.o.2.2.trans (HT.o.bc.mono (by have:=xe.o;have:=Hb.o.1;omega))) (by have:=Hb.o;omega) _
  have HF:Hid (EK D C D.n (qh D) D.q w (.returned (.agg (dH D.K (.slice aN D.n cN) (.slice a6 D.n c6)))) (wr.setRow b2 (dH D.K (.slice aN D.n cN) (.slice a6 D.n c6)))):=
   HT.o.TE HB.o.1.dm.kl nA.o (fun r hr=>by obtain⟨j,_,rfl⟩:=List.mem_map.1 hr;simp) rfl (fun j hj c hc=>by simp[getD_eq_getElem?_getD,hj,hc]) xe.o (inr ⟨b2,_,_,gq.o,rfl⟩) CP.o
  go_wp2_with (first|(refine tH rfl 101 _ rfl ⟨b4,0,none⟩ rfl (dH D.K (.slice aN D.n cN) (.slice a6 D.n c6)) _ jB.o.part underlying101 rfl (by rw[iN,hd]) ?_)|(refine qD rfl 101 _ _ rfl b2 101 (zC 101) (dH D.K (.slice aN D.n cN) (.slice a6 D.n c6)) rfl rfl gq.o (by rw[kr,hd]) (by rw[iN,hd]) (yZ _ _ _ _ _ _ _) ?_));refine bodyPost_ret (results_cell_row rfl _ _ b2 101 (dH D.K (.slice aN D.n cN) (.slice a6 D.n c6)) (0,0) _ rfl gq.o.setRow underlying101 rfl (by rw[iN,hd])) rfl ?_;exact HF.o
