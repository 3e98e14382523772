import Derived.Test.YtiijebameffenaaGreatZNRClose
import Derived.Test.YtiijebameffenaaGreatZTk
set_option linter.all false
set_option maxHeartbeats 2000000
set_option maxRecDepth 100000
open Go.Lib (hid)
namespace Go.Proofs.YtiijebameffenaaGreat
open Go.RowKit Go.Proofs.Tryz
open Nat (le_refl zero_le)
open Or (inl inr)
open List (getElem_append_left length_append map_cons map_nil mem_cons)
open Sem (run_bind run_pure)
open _root_.Array (getElem?_setIfInBounds_ne)
open Region (wanted)
open Act (put)
open Option (mem_toList)
variable {B M bM bm gI k m n q t:Nat}{P P':Nat->Bool}{V W w w1 w3 w5 wr:World}{a:Act}{bs l l':List Nat}{cs:Array Value}{jN vK vL vS:Value}{ms:List Int}{ops:Array Oper}{ss:List ByteArray}
def ng(s:ByteArray)(k:Nat):Nat:=(s.get! k).toNat
theorem Zn(s:ByteArray)(k:Nat):ng s k<256:=UInt8.toNat_lt _
theorem QT(s:ByteArray)(k:Nat)(h:k<s.size):(s[k]'h).toNat=ng s k:=by
 unfold ng;rw[show s.get! k=s[k]'h from getElem!_pos s.data k h]
open Go.Maps Go.WideElems Go.ChangeMaps Go.MapKept
def Df(b t:Nat):Prop:=b≠0->t<8/\b.testBit t=true/\(b &&& (b-1))<b/\∀j,j<8->(b &&& (b-1)).testBit j=(b.testBit j && decide (j≠t))
instance (b t:Nat):Decidable (Df b t):=by unfold Df;infer_instance
theorem zoN(x:UInt8):wrap64 (x.toNat:Int)=(x.toNat:Int):=by
 have:x.toNat<256:=UInt8.toNat_lt x;exact IntWalk.wrap64_in _ ⟨by omega,by omega⟩
theorem zqQ(b:Nat)(hb:b<256)(w:World):Calls prog 175 #[.int .u8 (b:Int)] w fun e w'=>∃t:Nat,e=.returned (.int .i64 (t:Int))/\Df b t/\w'=w:=by
 go_in;go_wp2;go_ret;refine⟨_,congrArg (fun z=>Ending.returned (Value.int IntKind.i64 z)) (zoN _),?_,rfl⟩;clear w;rename_i h;revert h;revert hb;revert b;decide +kernel
def zqR(n:Nat)(g:Nat->Bool)(w:World)(e:Ending)(w':World):Prop:=
 ∃(L:List Nat) (a:Option Addr) (c:Nat),e=.returned (.slice a L.length c)/\w'.ownsRow w.heap.size 3 1 (.slice a L.length c) L.length (dv L)/\L.Nodup/\(∀x,x∈L↔x<8*n/\g x=true)/\ϐ w w'
theorem zh8(s:ByteArray)(n:Nat)(hs:s.size=n)(hn:n<=100000)(g:Nat->Bool)(hg:∀i,i<n->ng s i=kL g i)(w:World):Calls prog 156 #[.string s] w (zqR n g w):=by
 have H:=ζ hs hg;have Ei:=hs;obtain⟨i0,hi,dP,dc,db⟩:=info_parts aH;clear hg hs;go_in;go_wp2;go_loopw [3,4,5,8] (fun v3 _ _ v wr=>∃(k:Nat) (L:List Nat) (a:Option Addr) (c:Nat),v=.int .i64 k/\k<=n/\v3=.slice a L.length c/\Hid (wr.ownsRow w.heap.size 3 1 (.slice a L.length c) L.length (dv L)/\L.Nodup/\(∀x,x∈L↔x<8*k/\g x=true)/\ϐ w wr)) (fun _ _ _ v _=>n-(intOf v).toNat)
 ·exact⟨0,[],none,0,rfl,zero_le _,rfl,World.ownsRow_nil _ _ _ _,List.nodup_nil,fun x=>by simp,Below.refl _ _⟩
 obtain⟨k,L,a,c,rfl,hk,rfl,HA⟩:=hrel;by_cases aq:k<n
 ·have tN:k<s.size:=by rw[Ei];exact aq
  obtain⟨bt,nJ⟩:=Ξ ((s[k]'tN).toNat)
  have Ba:=QT s k tN;rw[nJ,H.o.2 k aq] at Ba;have mW:bt<256:=by rw[Ba];exact Mw g k
  have HB:=hid Ba;have i1:(k:Int)<n:=by omega
  clear Ba;go_wp2;go_loopw [3,5] (fun v3 v5 wq=>∃(b:Nat) (L2:List Nat) (a2:Option Addr) (c2:Nat),v5=.int .u8 b/\b<256/\v3=.slice a2 L2.length c2/\L2.length<=8*k+8/\Hid (wq.ownsRow w.heap.size 3 1 (.slice a2 L2.length c2) L2.length (dv L2)/\L2.Nodup/\(∀x,x∈L2↔(x<8*k/\g x=true)\/∃j,j<8/\x=8*k+j/\g x=true/\b.testBit j=false)/\ϐ w wq)/\Hid (∀j,j<8->b.testBit j=true->g (8*k+j)=true)) (fun _ v _=>(intOf v).toNat)
  ·refine⟨bt,L,a,c,rfl,mW,rfl,?_,⟨HA.o.1,HA.o.2.1,fun x=>?_,HA.o.2.2.2⟩,fun j hj h=>?_⟩
   ·have:=rb HA.o.2.1 (m:=8*k) (fun x hx=>((HA.o.2.2.1 x).1 hx).1);omega
   ·rw[HA.o.2.2.1 x];constructor
    ·exact inl
    rintro (h|⟨j,hj,rfl,h1,h2⟩)
    ·exact h
    rw[HB.o,BO] at h2;simp[hj,h1] at h2
   rw[HB.o,BO] at h;simpa [hj] using h
  obtain⟨b,L2,a2,c2,rfl,hb,rfl,hlen,HC,HD⟩:=hrel;by_cases bz:b=0
  ·subst bz;have HZ:Hid (wr.ownsRow w.heap.size 3 1 (.slice a2 L2.length c2) L2.length (dv L2)/\L2.Nodup/\(∀x,x∈L2↔x<8*(k+1)/\g x=true)/\ϐ w wr):=by
    refine⟨HC.o.1,HC.o.2.1,fun x=>?_,HC.o.2.2.2⟩;rw[HC.o.2.2.1 x];constructor
    ·rintro (⟨h1,h2⟩|⟨j,hj,rfl,h1,h2⟩)
     ·exact⟨by omega,h2⟩
     exact⟨by omega,h1⟩
    rintro⟨h1,h2⟩;by_cases h3:x<8*k
    ·exact inl ⟨h3,h2⟩
    exact inr ⟨x-8*k,by omega,by omega,h2,by simp⟩
   clear HA HC HD nJ;go_wp2;go_roundw
   ·exact⟨k+1,L2,a2,c2,by go_num,by omega,rfl,HZ⟩
   simp[intOf];omega
  have Aj:=hid HC.o.1;have hO:=HC.o.1;have hB:=HC.o.2.2.2;have Lg:=hB.size;obtain⟨q,hq⟩:=Ξ L2.length
  rw[hq] at hlen hO;have HQ:=hid hq;have fT:¬((b:Int)=0):=by omega
  clear HA nJ;go_wp2_with fail;refine (zqQ b hb _).mono ?_;rintro e w3 ⟨t,rfl,htz,rfl⟩;obtain⟨UL,Zy,jK,qe⟩:=htz bz;rw[hq];go_wp2_with (at_builtin;refine wpList_append_own _ rfl _ _ 43 rfl w.heap.size 3 i0 (.int .i64 0) 1 8 underlying43 hi dP dc db rfl (by decide) _ _ _ rfl (hO.alloc _) ⟨w3.heap.size,0,none⟩ 1 1 [.int .i64 (8*(k:Int)+(t:Int))] rfl rfl (cell_one_new _ _ _) ?d2 ?d3 ?d4 ?d5 ?_)
  case d2=>intro u hu;simp at hu;subst hu;rfl
  case d3=>unfold maxLen;omega
  case d4=>omega
  case d5=>simp;omega
  intro v' w5 ak aj _;obtain⟨a5,c5,rfl⟩:=cy ak;have eB:=gu (hB.trans ((al w3 (.cells #[.int .i64 (8*(k:Int)+(t:Int))] 3)).mono Lg)) (hO.alloc _) (by simp;omega) aj;have kQ:8*k+t∉L2:=by
   rw[HC.o.2.2.1];rintro (⟨h1,h2⟩|⟨j,hj,h1,h2,h3⟩)
   ·omega
   rw[show j=t by omega,Zy] at h3;cases h3
  obtain⟨b2,cH⟩:=Ξ (b &&& (b-1))
  rw[cH] at jK qe;have hand:bits .and .u8 (b:Int) ((b:Int)-1)=(b2:Int):=by
   have:=u8_and_nat b (b-1) hb (by omega);rw[cH] at this;rw[<-this];congr 1;omega
  have HZ:Hid (w5.ownsRow w.heap.size 3 1 (.slice a5 (L2++[8*k+t]).length c5) (L2++[8*k+t]).length (dv (L2++[8*k+t]))/\(L2++[8*k+t]).Nodup/\(∀x,x∈L2++[8*k+t]↔(x<8*k/\g x=true)\/∃j,j<8/\x=8*k+j/\g x=true/\b2.testBit j=false)/\ϐ w w5):=by
   refine⟨?_,?_,fun x=>?_,eB⟩
   ·rw[Ad,length_append,hq];simpa using ak
   ·refine List.nodup_append.2 ⟨HC.o.2.1,by simp,fun a ha b hb e=>?_⟩;rw[List.mem_singleton.1 hb] at e;exact kQ (e ▸ ha)
   rw[List.mem_append,HC.o.2.2.1 x,List.mem_singleton];constructor
   ·rintro ((h|⟨j,hj,h1,h2,h3⟩)|h)
    ·exact inl h
    ·exact inr ⟨j,hj,h1,h2,by rw[qe j hj,h3];rfl⟩
    exact inr ⟨t,UL,h,by rw[h];exact HD.o t UL Zy,by rw[qe t UL];simp⟩
   rintro (h|⟨j,hj,h1,h2,h3⟩)
   ·exact inl (inl h)
   by_cases e:j=t
   ·exact inr (by rw[h1,e])
   rw[qe j hj] at h3;exact inl (inr ⟨j,hj,h1,h2,by simpa [e] using h3⟩)
  have zD:Hid (∀j,j<8->b2.testBit j=true->g (8*k+j)=true):=fun j hj h=>by
   rw[qe j hj] at h;simp at h;exact HD.o j hj h.1
  have Cy:(L2++[8*k+t]).length<=8*k+8:=rb HZ.o.2.1 (fun x hx=>by
   rcases (HZ.o.2.2.1 x).1 hx with h|⟨j,hj,h,_⟩ <;> omega)
  have xH:q+1<=8*k+8:=by rw[length_append,hq] at Cy;simpa using Cy
  have wC:Hid ((L2++[8*k+t]).length=q+1):=by show _=_;rw[length_append,hq];rfl
  have Rv:b2<256:=by omega
  clear ak aj eB kQ cH qe hO hB Cy hq;go_wp2;go_roundw
  ·exact⟨b2,L2++[8*k+t],a5,c5,rfl,Rv,by rw[wC.o],by rw[wC.o];exact xH,HZ,zD⟩
  simp[intOf];omega
 obtain rfl:k=n:=by omega
 go_wp2;go_ret;exact⟨L,a,c,rfl,HA.o⟩
theorem XZ(v:Nat->Nat)(n c g:Nat)(hn:0<n)(dd:n<=1000)(hv:∀j,j<n->v j<256)(w:World)(h:∀j,j<n->w.cell? ⟨g,j,none⟩=some (.int .u8 (v j))):
  Calls prog 174 #[.slice (some ⟨g,0,none⟩) n c] w fun e w'=>∃x:Nat,e=.returned (.int .u8 (x:Int))/\(∀j,j<n->v j<=x)/\(∃j,j<n/\v j=x)/\w'=w:=by
 have H:=ζ hv h;have c0:=h 0 hn;have hz:¬((n:Int)<1):=by omega
 clear hv h;go_in;go_wp2;go_loopw [3,4] (fun v3 i wr=>∃(k x:Nat),i=.int .i64 k/\1<=k/\k<=n/\v3=.int .u8 (x:Int)/\Hid ((∀j,j<k->v j<=x)/\∃j,j<k/\v j=x)/\wr=w) (fun _ i _=>n-(intOf i).toNat)
 ·exact⟨1,v 0,rfl,le_refl _,hn,rfl,⟨fun j hj=>by rw[show j=0 by omega];exact le_refl _,0,by omega,rfl⟩,rfl⟩
 obtain⟨k,x,rfl,ll,hk,rfl,HX,rfl⟩:=hrel;by_cases aq:k<n
 ·have ck:=H.o.2 k aq;have hvk:=H.o.1 k aq;have HZ:Hid (∀y,(y=x/\v k<=x)\/(y=v k/\x<=v k)->(∀j,j<k+1->v j<=y)/\∃j,j<k+1/\v j=y):=fun y hy=>by
   obtain⟨h1,j0,h2,h3⟩:=HX.o;rcases hy with ⟨rfl,hy⟩|⟨rfl,hy⟩
   ·exact⟨fun j hj=>by by_cases e:j=k;rw[e];exact hy;exact h1 j (by omega),j0,by omega,h3⟩
   exact⟨fun j hj=>by by_cases e:j=k;rw[e];exact le_refl _;exact Nat.le_trans (h1 j (by omega)) hy,k,by omega,rfl⟩
  generalize v k=y at ck hvk HZ;have i1:(k:Int)<n:=by omega
  rcases Nat.le_total y x with T1|T1
  ·have zD:=hid (HZ.o x (inl ⟨rfl,T1⟩));have RI:max (x:Int) (y:Int)=x:=(by omega);have RF:max x y=x:=(by omega);go_wp2;go_roundw
   ·exact⟨k+1,x,by go_num,by omega,by omega,by first|rfl|simp[RI],zD,by first|trivial|rfl⟩
   simp[intOf];omega
  have zD:=hid (HZ.o y (inr ⟨rfl,T1⟩));have RI:max (x:Int) (y:Int)=y:=by omega
  have RF:max x y=y:=by omega
  go_wp2;go_roundw
  ·exact⟨k+1,y,by go_num,by omega,by omega,by first|rfl|simp[RI],zD,by first|trivial|rfl⟩
  simp[intOf];omega
 obtain rfl:k=n:=by omega
 go_wp2;go_ret;exact⟨x,rfl,HX.o.1,HX.o.2,rfl⟩
theorem zmC(K:Nat->Lit)(cs:Array Value)(hs:cs.size=256)(hc:∀j,j<256->cs[j]?=some (.int .u8 (cls K j)))(w:World):
  Calls prog 155 #[.agg cs] w fun e w'=>e=.returned (.int .i64 (dA K 256))/\ϐ w w':=by
 have eR:∀j,j<256->cls K j<256:=fun j hj=>by have:=Pz K j;omega
 have hB:=al w (.cells cs 98);have hS:=St.new w 98 cs;have hM:=hid (XZ (cls K) 256 256 w.heap.size (by omega) (by omega) eR (w.alloc (.cells cs 98)) (fun j hj=>by rw[hS.at_,hc j hj]));have HB:=hid hB;have HT:Hid (∀x,(∀j,j<256->cls K j<=x)->(∃j,j<256/\cls K j=x)->x+1=dA K 256/\x<256):=fun x h1 h2=>by
  obtain⟨b,hb,e⟩:=zpC K 256 (by omega);obtain⟨j,hj,rfl⟩:=h2;have:=FZ K j 256 hj;have:=h1 b hb;have:=eR j hj;omega
 clear eR hB hS hc;go_in;go_wp2_with fail;refine hM.o.mono ?_;rintro e w2 ⟨x,rfl,h1,h2,rfl⟩;obtain⟨hx,lZ⟩:=HT.o x h1 h2;have HX:=hid hx;clear h1 h2 hx;go_wp2;go_ret;exact⟨by rw[<-HX.o];first|rfl|(simp;done),HB.o⟩
theorem JC{P:Program}(w:World)(ad:Addr)(ty:TypeId)(cs:Array Value)(d:TypeDesc)(hc:∀j v,cs.toList[j]?=some v->w.cell? (ad.add j)=some v)
  (hu:P.underlying ty=some d) (hd:(match d with|.struct _|.array _ _=>true|_=>false)=true) (hi:(P.info? ty).map (·.size)=some cs.size):
  (loadVar ty ad).run P w=.ok (.agg cs) w:=by
 have hl:(loadCells ad cs.toList.length).run P w=.ok cs.toList.toArray w:=run_loadCells_list (P:=P) w ad cs.toList hc;cases hq:P.info? ty with
 | none=>simp[hq] at hi
 | some i=>
  have hs:i.size=cs.size:=by simpa [hq] using hi
  have DP:(isAgg ty).run P w=.ok true w:=by
   unfold isAgg;rw[run_bind,run_underlying hu w];cases d <;> simp_all
  simp only[Array.length_toList,Array.toArray_toList] at hl;simp[loadVar,run_bind,DP,sizeOf,typeInfo,hq,hs,hl]
theorem tH{P:Program}{rest:List Oper}{o:Oper}{Q:Exit->Act->World->Prop}(qC:o.guard=none)(ty:TypeId)(x:Operand)(ho:o.op=.load ty x)
  (ad:Addr) (hx:a.eval x=.pointer (some ad)) (cs:Array Value) (d:TypeDesc) (hc:∀j v,cs.toList[j]?=some v->w.cell? (ad.add j)=some v)
  (hu:P.underlying ty=some d) (hd:(match d with|.struct _|.array _ _=>true|_=>false)=true) (hi:(P.info? ty).map (·.size)=some cs.size)
  (h:wpList P ops Q rest (a.put o.dst (.agg cs)) w):wpList P ops Q (o :: rest) a w:=
 wpList_plain qC fun _ hK=>by
  unfold Oper.wp execOp
  simp only[ho,hx,Instr.loadAt,Instr.sureAddr,run_bind,run_pure,Result.andThen_ok,JC w ad ty cs d hc hu hd hi]
  exact hK _ _ h
noncomputable def rl (K:Nat->Lit):Nat->List Nat
 | 0=>[]
 | k+1=>if cls K k=(rl K k).length then rl K k++[k] else rl K k
theorem A8(K:Nat->Lit)(k:Nat):(rl K k).length=dA K k:=by
 induction k with
 | zero=>rfl
 | succ k ih=>
  rw[rl,dA,ih];by_cases e:fst K k=k
  ·have:cls K k=dA K k:=(by unfold cls;rw[e]);rw[if_pos this,if_pos e];simp[ih]
  have h1:=(Ab K k).1;have h2:cls K k+1<=dA K k:=by
   have h3:fst K k<k:=(by omega);have:=FZ K (fst K k) k h3;unfold cls at this⊢;rwa [OI] at this
  rw[if_neg (by omega),if_neg e,ih];omega
theorem zrQ(K:Nat->Lit)(k:Nat):∀c (h:c<(rl K k).length),cls K (rl K k)[c]=c/\(rl K k)[c]<k:=by
 induction k with
 | zero=>intro c h;simp[rl] at h
 | succ k ih=>
  intro c h;by_cases e:cls K k=(rl K k).length
  ·have er:rl K (k+1)=rl K k++[k]:=(by rw[rl,if_pos e]);simp only[er] at h⊢;by_cases hc:c<(rl K k).length
   ·rw[getElem_append_left hc];have:=ih c hc;omega
   rw[length_append] at h;have:c=(rl K k).length:=(by simp at h;omega);subst this;rw[List.getElem_append_right (le_refl _)];simp[e]
  have er:rl K (k+1)=rl K k:=by rw[rl,if_neg e]
  simp only[er] at h⊢;have:=ih c h;omega
structure IH (w:World)(B bn:Nat)(K:Nat->Lit)(cs:Array Value):Prop where
 hY:bn<B
 sz:cs.size=256
 val:∀j,j<256->cs[j]?=some (.int .u8 (cls K j))
 at_:∀j v,cs.toList[j]?=some v->w.cell? ((⟨bn,0,none⟩:Addr).add j)=some v
theorem T0{P:Program}(t e:TypeId)(n:Nat)(cs:Array Value)(i:Nat)(v:Value)(h:P.underlying t=some (.array n e))(hi:i<n)(hs:(P.info? e).map (·.size)=some 1)(hd:∃d,P.underlying e=some d/\(match d with|.struct _|.array _ _=>true|_=>false)=false)(hv:cs[i]?=some v)(w:World):
  (Instr.index t (.agg cs) (.int .i64 (i:Int))).run P w=.ok v w:=by
 obtain⟨d,Ur,hd2⟩:=hd;cases hq:P.info? e with
 | none=>simp[hq] at hs
 | some inf=>
  have my:inf.size=1:=by simpa [hq] using hs
  have DP:(isAgg e).run P w=.ok false w:=by
   unfold isAgg;rw[run_bind,run_underlying Ur w];cases d <;> simp_all
  have h1:(0:Int)<=i/\(i:Int)<n:=by omega
  simp[Instr.index,asIntOf,run_underlying h,h1,sizeOf,typeInfo,hq,my,part,DP,hv];intro hni;omega
def Xg(K:Nat->Lit)(w:World)(e:Ending)(w':World):Prop:=
 ∃(a:Option Addr) (c:Nat),e=.returned (.slice a (dA K 256) c)/\w'.ownsRow w.heap.size 5 1 (.slice a (dA K 256) c) (dA K 256) (jx (rl K 256))/\ϐ w w'
theorem zeF(K:Nat->Lit)(B bn:Nat)(cs:Array Value)(w:World)(h:IH w B bn K cs):Calls prog 169 #[.pointer (some ⟨bn,0,none⟩)] w (Xg K w):=by
 have H:=hid h;have fI:(prog.info? 98).map (·.size)=some cs.size:=by rw[h.sz];kernel_rfl
 obtain⟨i0,hi,dP,dc,db⟩:=info_parts kn;clear h;go_in;go_wp2_with (refine tH rfl 98 _ rfl ⟨bn,0,none⟩ rfl cs (.array 256 5) H.o.at_ underlying98 rfl fI ?_);go_loopw [3,4,5,10] (fun v3 _ _ v wr=>∃(k q:Nat) (a:Option Addr) (c:Nat),v=.int .i64 k/\k<=256/\q<=256/\v3=.slice a q c/\Hid ((rl K k).length=q/\wr.ownsRow w.heap.size 5 1 (.slice a q c) q (jx (rl K k))/\ϐ w wr)) (fun _ _ _ v _=>256-(intOf v).toNat)
 ·exact⟨0,0,none,0,rfl,zero_le _,zero_le _,rfl,rfl,World.ownsRow_nil _ _ _ _,Below.refl _ _⟩
 obtain⟨k,q,a,c,rfl,hk,hq,rfl,HA⟩:=hrel;by_cases aq:k<256
 ·have hv:=H.o.val k aq;have cQ:=H.o.sz;have GU:(k:Int)<256:=by omega
  have DK:=T0 98 5 256 cs k _ underlying98 aq (by kernel_rfl) ⟨_,underlying5,rfl⟩ hv wr;have eR:cls K k<=k:=Pz K k;have hle:q<=k:=by rw[<-HA.o.1,A8];exact N1 K k
  by_cases hc:cls K k=q
  ·have HZ:Hid (rl K (k+1)=rl K k++[k]/\(rl K (k+1)).length=q+1):=by
    have e:rl K (k+1)=rl K k++[k]:=(by rw[rl,if_pos (by rw[HA.o.1];exact hc)]);exact⟨e,by rw[e,length_append,HA.o.1];rfl⟩
   generalize cls K k=x at hv eR hc DK;subst hc;have hO:=HA.o.2.1;have hB:=HA.o.2.2;have Lg:=hB.size;go_wp2_with (at_builtin;refine wpList_append_own _ rfl _ _ 76 rfl w.heap.size 5 i0 (.int .u8 0) 1 1 underlying76 hi dP dc db rfl (by decide) _ _ _ rfl (hO.alloc _) ⟨wr.heap.size,0,none⟩ 1 1 [.int .u8 (k:Int)] rfl rfl (cell_one_new _ _ _) ?d2 ?d3 ?d4 ?d5 ?_)
   case d2=>intro u hu;simp at hu;subst hu;rfl
   case d3=>unfold maxLen;omega
   case d4=>omega
   case d5=>simp;omega
   intro v' w5 ak aj _;obtain⟨a5,c5,rfl⟩:=cy ak;have eB:=gu (hB.trans ((al wr (.cells #[.int .u8 (k:Int)] 5)).mono Lg)) (hO.alloc _) (by simp;omega) aj;have HF:Hid ((rl K (k+1)).length=x+1/\w5.ownsRow w.heap.size 5 1 (.slice a5 (x+1) c5) (x+1) (jx (rl K (k+1)))/\ϐ w w5):=by
    refine⟨HZ.o.2,?_,eB⟩;rw[HZ.o.1,zna];exact ak
   clear ak aj eB hO hB HA;go_wp2;go_roundw
   ·exact⟨k+1,x+1,a5,c5,by go_num,by omega,by omega,rfl,HF⟩
   simp[intOf];omega
  have HZ:Hid (rl K (k+1)=rl K k):=by
   show _=_;rw[rl,if_neg (by rw[HA.o.1];exact hc)]
  generalize cls K k=x at hv eR hc DK;have gj:¬((x:Int)=q):=by omega
  go_wp2;go_roundw
  ·exact⟨k+1,q,a,c,by go_num,by omega,hq,rfl,by rw[HZ.o];exact HA⟩
  simp[intOf];omega
 obtain rfl:k=256:=by omega
 have HF:Hid (Xg K w (.returned (.slice a q c)) wr):=by
  have e:=HA.o.1;rw[A8] at e;subst e;exact⟨a,c,rfl,HA.o.2.1,HA.o.2.2⟩
 go_wp2;go_ret;exact HF.o
theorem iL.grown{row:Option Nat}(h:iL V B bs bm gI m cs P l vL wr)(hg:wr.grownBy w1 row)(hr:∀g,row=some g->g∈bs\/V.heap.size<=g)(hB:∀g,row=some g->B<=g)
  (h1:some bm≠row) (h2:some gI≠row) (h3:∀b,vL.ownBlock=some b->some b≠row):iL V B bs bm gI m cs P l vL w1:=
 ⟨h.kept.grown hg (fun g e=>(hr g e).elim inl (fun x=>inr (inl x))),h.below.grown hg h.hB hB,h.sm.grown hg h1,h.sz,h.cI,rS h.lW hg (fun g e=>by simp only[Value.ownBlock] at e;rw[<-e];exact h2),rS h.dg hg h3,h.loc,h.ko,h.lo⟩
theorem zmF(cs:Array Value)(i:Nat)(hi:i≠262)(u v:Value):(cs.setIfInBounds 262 v).setIfInBounds i u=(cs.setIfInBounds i u).setIfInBounds 262 v:=by
 apply Array.ext_getElem?;intro j;simp only[Array.getElem?_setIfInBounds,Array.size_setIfInBounds];by_cases h1:i=j <;> by_cases h2:262=j <;> simp[h1,h2]
 omega
theorem iL.yG(h:iL V B bs bm gI m cs P l vL wr)(i:Nat)(h1:i≠261)(h2:i≠262)(u:Value):iL V B bs bm gI m (cs.setIfInBounds i u) P l vL (wr.setCell ⟨bm,i,none⟩ u):=by
 refine⟨h.kept.setCell _ _ (inl h.ko.1),h.below.setCell (p:=⟨bm,i,none⟩) h.lo.1 _,?_,by rw[Array.size_setIfInBounds];exact h.sz,by rw[getElem?_setIfInBounds_ne h1];exact h.cI,kz h.lW h.sm (by decide) _ _,kz h.dg h.sm (by decide) _ _,h.loc,h.ko,h.lo⟩;have:=h.sm.set i u;rwa [zmF cs i h2 u vL] at this
theorem iL.other(h:iL V B bs bm gI m cs P l vL wr)(i:Nat)(hi:i≠262):wr.cell? ⟨bm,i,none⟩=cs[i]?:=by
 rw[h.sm.at_,getElem?_setIfInBounds_ne (fun e=>hi e.symm)]
theorem jq.grown{row:Option Nat}(h:jq V B bs bm gI m M cs l vL wr)(hg:wr.grownBy w1 row)(hr:∀g,row=some g->g∈bs\/V.heap.size<=g)(hB:∀g,row=some g->B<=g)
  (h1:some bm≠row) (h2:some gI≠row) (h3:∀b,vL.ownBlock=some b->some b≠row):jq V B bs bm gI m M cs l vL w1:=⟨h.r.grown hg hr hB h1 h2 h3,h.nd,h.lt⟩
theorem jq.yG(h:jq V B bs bm gI m M cs l vL wr)(i:Nat)(h1:i≠261)(h2:i≠262)(u:Value):jq V B bs bm gI m M (cs.setIfInBounds i u) l vL (wr.setCell ⟨bm,i,none⟩ u):=⟨h.r.yG i h1 h2 u,h.nd,h.lt⟩
def strs(l:List ByteArray):List Value:=l.map fun s=>.string s
def ints(l:List Int):List Value:=l.map fun x=>.int .i64 x
theorem p7:(prog.info? 9).map (fun i=>(i.zero,i.size,i.bytes))=some (some (.string ⟨#[]⟩),1,16):=by kernel_rfl
theorem FN:Keyed prog 9:=string_keyed underlying9
structure nE (V:World)(B:Nat)(bs:List Nat)(bM:Nat)(cs:Array Value)(vL:Value)(k q n:Nat)(ss:List ByteArray)(ms:List Int)(Q:Value->Value->Prop)(vS vK:Value)(wr:World):Prop where
 cK:cs[258]?=some vK
 cS:cs[259]?=some vS
 cM:cs[260]?=some (.map (some bM))
 os:wr.ownsRow B 9 1 vS k (strs ss)
 ok:wr.ownsRow B 3 1 vK q (ints ms)
 map:aJ wr 9 bM n Q
 sep:∀b,vL.ownBlock=some b->vK.ownBlock≠some b
 lS:∀b,vS.ownBlock=some b->b∈bs\/V.heap.size<=b
 lK:∀b,vK.ownBlock=some b->b∈bs\/V.heap.size<=b
 lM:bM∈bs/\B<=bM
theorem nE.ae{Q:Value->Value->Prop}(h:nE V B bs bM cs vL k q n ss ms Q vS vK wr)(b:ϐ wr w1):nE V B bs bM cs vL k q n ss ms Q vS vK w1:=
 ⟨h.cK,h.cS,h.cM,dE h.os b,dE h.ok b,h.map.same (b.block _ h.map.lt),h.sep,h.lS,h.lK,h.lM⟩
def OR(V:World)(B:Nat)(bs:List Nat)(bm gI m M bM:Nat)(cs:Array Value)(l:List Nat)(vL:Value)(k n:Nat)(ss:List ByteArray)(ms:List Int)(Q':Value->Value->Prop)(s:ByteArray)(mk:Nat->Int)(e:Ending)(w':World):Prop:=
 ∃(r:Int) (vS' vK':Value),e=.returned (.int .i64 (k:Int))/\cJ mk (fun x=>x∈l) r/\jq V B bs bm gI m M ((cs.setIfInBounds 259 vS').setIfInBounds 258 vK') l vL w'/\
  nE V B bs bM ((cs.setIfInBounds 259 vS').setIfInBounds 258 vK') vL (k+1) (k+1) (n+1) (ss++[s]) (ms++[r]) Q' vS' vK' w'
theorem Cx{b g:Nat}{Q:Value->Value->Prop}(hm:aJ w k b n Q)(h:St w t g cs):g≠b:=by
 rintro rfl;obtain⟨es,clock,hb,_⟩:=hm;have h1:w.heap[g]?=_:=h;rw[h1] at hb;cases hb
theorem zz{b size:Nat}{v:Value}{xs:List Value}{Q:Value->Value->Prop}(hm:aJ w k b n Q)(h:w.ownsRow B t size v q xs):∀g,v.ownBlock=some g->g≠b:=by
 rintro g e rfl;obtain⟨c,fz,hc⟩:=qX h g e;obtain⟨es,clock,hb,_⟩:=hm;rw[hc] at hb;cases hb
theorem zqS{vS':Value}{Q:Value->Value->Prop}{s:ByteArray}
  (h:jq V B bs bm gI m M cs l vL W) (t:nE V B bs bM cs vL k q n ss ms Q vS vK W) (ho:w5.ownsRow B 9 1 vS' (k+1) (strs ss++[.string s])) (hg:W.grownBy w5 vS.ownBlock) (fD:vS'.ownBlock=vS.ownBlock\/vS'.ownBlock=some W.heap.size):
  jq V B bs bm gI m M (cs.setIfInBounds 259 vS') l vL (w5.setCell ⟨bm,259,none⟩ vS')/\nE V B bs bM (cs.setIfInBounds 259 vS') vL (k+1) q n (ss++[s]) ms Q vS' vK (w5.setCell ⟨bm,259,none⟩ vS'):=by
 have h5:=h.grown hg t.lS (ln t.os) (fun e=>eI t.os h.r.sm (by decide) bm e.symm rfl) (fun e=>iO t.os h.r.lW (by decide) gI e.symm rfl) (fun b e1 e2=>iO h.r.dg t.os (by decide) b e1 e2.symm);have ny:=h5.r.sm;refine⟨h5.yG 259 (by decide) (by decide) vS',by rw[getElem?_setIfInBounds_ne (by decide)];exact t.cK,by rw[Array.getElem?_setIfInBounds_self_of_lt (by rw[h.r.sz];decide)],by rw[getElem?_setIfInBounds_ne (by decide)];exact t.cM,?_,
  kz (wE t.ok t.os (by decide) hg) ny (by decide) _ _,(t.map.af t.os hg).set ny,t.sep,?_,t.lK,t.lM⟩
 ·rw[show strs (ss++[s])=strs ss++[.string s] by simp[strs]];exact kz ho ny (by decide) _ _
 intro b e1;rcases fD with h1|h1
 ·exact t.lS b (by rw[<-h1];exact e1)
 rw[h1] at e1;injection e1 with e1;exact inr (by rw[<-e1];exact h.r.below.size)
theorem Td{vK':Value}{Q:Value->Value->Prop}{r:Int}
  (h:jq V B bs bm gI m M cs l vL W) (t:nE V B bs bM cs vL k q n ss ms Q vS vK W) (ho:w5.ownsRow B 3 1 vK' (q+1) (ints ms++[.int .i64 r])) (hg:W.grownBy w5 vK.ownBlock) (fD:vK'.ownBlock=vK.ownBlock\/vK'.ownBlock=some W.heap.size):
  jq V B bs bm gI m M (cs.setIfInBounds 258 vK') l vL (w5.setCell ⟨bm,258,none⟩ vK')/\nE V B bs bM (cs.setIfInBounds 258 vK') vL k (q+1) n ss (ms++[r]) Q vS vK' (w5.setCell ⟨bm,258,none⟩ vK'):=by
 have h5:=h.grown hg t.lK (ln t.ok) (fun e=>eI t.ok h.r.sm (by decide) bm e.symm rfl) (fun e=>iO t.ok h.r.lW (by decide) gI e.symm rfl) (fun b e1 e2=>t.sep b e1 e2.symm);have ny:=h5.r.sm;refine⟨h5.yG 258 (by decide) (by decide) vK',by rw[Array.getElem?_setIfInBounds_self_of_lt (by rw[h.r.sz];decide)],by rw[getElem?_setIfInBounds_ne (by decide)];exact t.cS,by rw[getElem?_setIfInBounds_ne (by decide)];exact t.cM,
  kz (wE t.os t.ok (by decide) hg) ny (by decide) _ _,?_,(t.map.af t.ok hg).set ny,fun b e1 e2=>?_,t.lS,?_,t.lM⟩
 ·rw[show ints (ms++[r])=ints ms++[.int .i64 r] by simp[ints]];exact kz ho ny (by decide) _ _
 ·rcases fD with h1|h1
  ·exact t.sep b e1 (by rw[<-h1];exact e2)
  rw[h1] at e2;injection e2 with e2;obtain⟨c,fz,hc⟩:=qX h.r.dg b e1;have:=(Array.getElem?_eq_some_iff.1 hc).1;omega
 intro b e1;rcases fD with h1|h1
 ·exact t.lK b (by rw[<-h1];exact e1)
 rw[h1] at e1;injection e1 with e1;exact inr (by rw[<-e1];exact h.r.below.size)
theorem zpt{n':Nat}{Q Q':Value->Value->Prop}
  (h:jq V B bs bm gI m M cs l vL W) (t:nE V B bs bM cs vL k q n ss ms Q vS vK W) (hm:aJ w5 9 bM n' Q') (hg:W.grownBy w5 (some bM)):
  jq V B bs bm gI m M cs l vL w5/\nE V B bs bM cs vL k q n' ss ms Q' vS vK w5:=by
 have pH:=t.map;have h5:=h.grown hg (fun g e=>by injection e with e;rw[<-e];exact inl t.lM.1) (fun g e=>by injection e with e;rw[<-e];exact t.lM.2) (fun e=>by injection e with e;exact Cx pH h.r.sm e) (fun e=>by injection e with e;exact zz pH h.r.lW gI rfl e) (fun b e1 e2=>by injection e2 with e2;exact zz pH h.r.dg b e1 e2);exact⟨h5,t.cK,t.cS,t.cM,AD t.os pH.of hg,AD t.ok pH.of hg,hm,t.sep,t.lS,t.lK,t.lM⟩
theorem zmG(f t:Nat):dJ (bY f t).z=[.int .i64 (f:Int),.int .i64 (t:Int),.int .u64 0,.int .u64 0,.int .u64 0,.int .u64 0,.bool true]:=by
 simp[dJ,En.z,bY,xD]
theorem vH(f t:Nat)(w:World):Calls prog 167 #[.int .i64 (f:Int),.int .i64 (t:Int)] w fun e w'=>e=.returned (.agg #[.int .i64 (f:Int),.int .i64 (t:Int),.int .u64 0,.int .u64 0,.int .u64 0,.int .u64 0,.bool true])/\ϐ w w':=by
 have HB:=hid ((Below.refl w.heap.size w).alloc (le_refl _) (.cells #[.int .i64 (f:Int),.int .i64 (t:Int),.int .u64 0,.int .u64 0,.int .u64 0,.int .u64 0,.bool true] 186));have HS:=hid (St.new w 186 #[.int .i64 (f:Int),.int .i64 (t:Int),.int .u64 0,.int .u64 0,.int .u64 0,.int .u64 0,.bool true]);go_in;go_wp2_with fail;generalize w.alloc (.cells #[.int .i64 (f:Int),.int .i64 (t:Int),.int .u64 0,.int .u64 0,.int .u64 0,.int .u64 0,.bool true] 186)=W at HB HS⊢;obtain⟨v0,v1,v2,v3,v4,v5,v6⟩:=Wt HS.o;exact bodyPost_ret (v:=.agg #[.int .i64 (f:Int),.int .i64 (t:Int),.int .u64 0,.int .u64 0,.int .u64 0,.int .u64 0,.bool true]) (by simp[results,results167,go_sem,v0,v1,v2,v3,v4,v5,v6]) rfl ⟨rfl,HB.o⟩
theorem yX{P:Program}{o:Oper}{K:Act->World->Prop}{Q:Exit->Act->World->Prop}{E:Prop}(qC:o.guard=none)(s x:Operand)(t:TypeId)
  (ho:o.op=.call { callee:=.builtin .append,args:=#[s,x],argTypes:=#[t,t] })
  (base:Nat) (e:TypeId) (i:TypeInfo) (z:Value) (size bytes:Nat) (ht:P.underlying t=some (.slice e)) (hi:P.info? e=some i) (hz:i.zero=some z)
  (sg:i.size=size) (Jw:i.bytes=bytes) (Jh:z.cells.size=size) (cQ:0<size)
  (v:Value) (n:Nat) (xs:List Value) (hs:a.eval s=v) (az:w.ownsRow base e size v n xs)
  (ad:Addr) (m c:Nat) (news:List Value) (hx:a.eval x=.slice (some ad) m c) (hl:news.length=m*size) (oQ:∀j u,news[j]?=some u->w.cell? (ad.add j)=some u) (h1:∀u∈news,u.oneCell'=true)
  (LS:n+m<=maxLen) (kU:(n+m)*bytes<=140737488355328) (rL:base<=w.heap.size)
  (h:∀v' w',w'.ownsRow base e size v' (n+m) (xs++news)->w.grownBy w' v.ownBlock->K (a.put o.dst v') w'):
  if wanted o (yielded ops a.tmps)=true then Oper.wp P o a w K Q else E:=by
 have hw:wanted o (yielded ops a.tmps)=true:=by simp[wanted,qC]
 rw[if_pos hw];obtain⟨v',w',hr,h2,h3,_,_⟩:=run_append_own_at (P:=P) w base t o.type e i z size bytes ht hi hz sg Jw Jh cQ v n xs az ad m c news hl oQ h1 LS kU rL;unfold Oper.wp execOp;simp only[ho,resolve,invoke,builtin,run_bind,run_pure,Result.andThen_ok,List.map_toArray,map_cons,map_nil,hs,hx,hr];exact h v' w' h2 h3
theorem Vb{P:Program}{o:Oper}{K:Act->World->Prop}{Q:Exit->Act->World->Prop}{E:Prop}(qC:o.guard=none)(s x:Operand)(t:TypeId)
  (ho:o.op=.call { callee:=.builtin .append,args:=#[s,x],argTypes:=#[t,t] })
  (base:Nat) (e:TypeId) (i:TypeInfo) (z:Value) (size bytes:Nat) (ht:P.underlying t=some (.slice e)) (hi:P.info? e=some i) (hz:i.zero=some z)
  (sg:i.size=size) (Jw:i.bytes=bytes) (Jh:z.cells.size=size) (cQ:0<size)
  (v:Value) (n:Nat) (xs:List Value) (hs:a.eval s=v) (az:w.ownsRow base e size v n xs)
  (ad:Addr) (m c:Nat) (news:List Value) (hx:a.eval x=.slice (some ad) m c) (hl:news.length=m*size) (oQ:∀j u,news[j]?=some u->w.cell? (ad.add j)=some u) (h1:∀u∈news,u.oneCell'=true)
  (LS:n+m<=maxLen) (kU:(n+m)*bytes<=140737488355328) (rL:base<=w.heap.size)
  (h:∀v' w',w'.ownsRow base e size v' (n+m) (xs++news)->w.grownBy w' v.ownBlock->(v'.ownBlock=v.ownBlock\/v'.ownBlock=some w.heap.size)->K (a.put o.dst v') w'):
  if wanted o (yielded ops a.tmps)=true then Oper.wp P o a w K Q else E:=by
 have hw:wanted o (yielded ops a.tmps)=true:=by simp[wanted,qC]
 rw[if_pos hw];obtain⟨v',w',hr,h2,h3,_,h4⟩:=run_append_own_at (P:=P) w base t o.type e i z size bytes ht hi hz sg Jw Jh cQ v n xs az ad m c news hl oQ h1 LS kU rL;unfold Oper.wp execOp;simp only[ho,resolve,invoke,builtin,run_bind,run_pure,Result.andThen_ok,List.map_toArray,map_cons,map_nil,hs,hx,hr];exact h v' w' h2 h3 h4
theorem zoO(V:World)(B:Nat)(bs:List Nat)(bm gI m M bM bn gM cM:Nat)(cs:Array Value)(mk:Nat->Int)(HV:lq V B bn gM M cM mk)(gP:∀i,i<M->-1<=mk i)(qO:cs[0]?=some (.pointer (some ⟨bn,0,none⟩)))(hM:M<=100000)
  (l:List Nat) (vL vS vK:Value) (k n:Nat) (ss:List ByteArray) (ms:List Int) (Q Q':Value->Value->Prop) (s:ByteArray) (hs:s.size<=100000) (hk:k<=1000000) (hn:n<=1000000) (jv:∀y,¬Q (.string s) y) (hQ1:∀x y,Q x y->Q' x y) (Xc:Q' (.string s) (.int .i64 (k:Int))) (hQ3:∀x y,Q' x y->x≠.string s->∃y',Q x y')
  (wr:World) (h:jq V B bs bm gI m M cs l vL wr) (t:nE V B bs bM cs vL k k n ss ms Q vS vK wr):
  Calls prog 154 #[.pointer (some ⟨bm,0,none⟩),.string s] wr (OR V B bs bm gI m M bM cs l vL k n ss ms Q' s mk):=by
 obtain⟨aS,cS,rfl⟩:=cy t.os;obtain⟨aK,cK,rfl⟩:=cy t.ok;have c1:wr.cell? ⟨bm,259,none⟩=some (.slice aS k cS):=(h.r.other 259 (by decide)).trans t.cS;obtain⟨kl,hkl⟩:∃kl,keyOf prog 9 (.string s)=some kl:=⟨_,Go.WideMaps.keyOf_string_mk underlying9 (by unfold maxLen;omega)⟩
 have HH:=ζ h t;have SW:=ξ HV gP qO;have HQ:=ψ hQ1 Xc hQ3 jv;obtain⟨i0,hi,dP,dc,db⟩:=info_parts aH;obtain⟨i1,GU,Vc,Fo,qw⟩:=info_parts p7;have hO:=t.os;have nW:=h.r.hB;clear h t HV gP qO hQ1 Xc hQ3 jv;go_in;go_wp2_with (at_builtin;refine wpList_append_own_at _ rfl _ _ 23 rfl B 9 i1 (.string ⟨#[]⟩) 1 16 underlying23 GU Vc Fo qw rfl (by decide) _ _ _ rfl (hO.alloc _) ⟨wr.heap.size,0,none⟩ 1 1 [.string s] rfl rfl (cell_one_new _ _ _) ?d2 ?d3 ?d4 ?d5 ?_)
 case d2=>intro u hu;simp at hu;subst hu;rfl
 case d3=>unfold maxLen;omega
 case d4=>omega
 case d5=>simp;omega
 intro v' w5 ak aj _ bW;obtain⟨a5,c5,rfl⟩:=cy ak;have KZ:=al wr (.cells #[.string s] 9);have nK:=zqS (HH.o.1.ae KZ) (HH.o.2.ae KZ) (s:=s) (vS':=.slice a5 (k+1) c5) ak aj (by rw[show (wr.alloc (.cells #[.string s] 9)).heap.size=wr.heap.size+1 by simp];exact bW);have FP:St w5 168 bm _:=(HH.o.1.ae KZ).r.sm.af (HH.o.2.ae KZ).os (by decide) aj;have p1:w5.cell? ⟨bm,259,none⟩=some (.slice aS k cS):=by rw[FP.at_,getElem?_setIfInBounds_ne (by decide)];exact HH.o.2.cS
 have pf:=FP.bE 259;have HS:=hid nK;have Ek:=nK.2.map;have q1:(w5.setCell ⟨bm,259,none⟩ (.slice a5 (k+1) c5)).cell? ⟨bm,260,none⟩=some (.map (some bM)):=(nK.1.r.other 260 (by decide)).trans nK.2.cM;clear ak aj bW KZ nK FP hO;go_wp2_with (at_mapUpdate;refine zdA _ rfl _ _ _ 166 rfl 9 3 FN underlying166 bM n Q Q' rfl Ek (by unfold maxLen;omega) _ _ kl rfl rfl hkl HQ.o.2.2.2 HQ.o.1 HQ.o.2.1 HQ.o.2.2.1 ?_);intro w6 qT gQ;have jR:=zpt HS.o.1 HS.o.2 qT gQ;clear qT gQ Ek q1 p1 pf HS;have iT:Hid (jq V B bs bm gI m M (cs.setIfInBounds 259 (.slice a5 (k+1) c5)) l vL w6.drew/\nE V B bs bM (cs.setIfInBounds 259 (.slice a5 (k+1) c5)) vL (k+1) k (n+1) (ss++[s]) ms Q' (.slice a5 (k+1) c5) (.slice aK k cK) w6.drew):=
  ⟨jR.1.ae (Below.refl w6.heap.size w6).drew,jR.2.ae (Below.refl w6.heap.size w6).drew⟩
 clear jR;generalize w6=W3 at iT⊢;have e3:W3.drew.cell? ⟨bm,258,none⟩=some (.slice aK k cK):=(iT.o.1.r.other 258 (by decide)).trans iT.o.2.cK;have Gz:=hid (zgB V B bs bm gI m M bn gM cM (cs.setIfInBounds 259 (.slice a5 (k+1) c5)) mk SW.o.1 SW.o.2.1 (by rw[getElem?_setIfInBounds_ne (by decide)];exact SW.o.2.2) hM l vL W3.drew iT.o.1);go_wp2_with fail;refine wp_region_held_drew (S:=fun _=>True) (by kernel_rfl) trivial (fun η=>?_)
 (refine ay 0 ?_;refine ay 1 ?_;refine ay 2 ?_;try simp only[put,sA];refine ay 3 ?_;refine ay 4 ?_;refine ay 6 ?_;try simp only[put,sA])
 ·refine wpAnyH_ready (rs:=[5,7]) (by kernel_rfl) (by simp) (jn (fun K hK=>?_) (jn (fun K hK=>?_) AllReadyH.nil))
  skip;go_simp;refine hK.out _ _ trivial fun η=>?_;clear hK K
  try simp only[put,sA]
  refine bH 7 (fun K hK=>?_);skip;go_simp;go_at_call 173;refine Gz.o.mono ?_;rintro e w5 ⟨r,rfl,hr,rfl⟩;have HR:=hid hr;clear hr
  try go_wp2_with fail
  refine hK.out _ _ trivial fun η=>?_;clear hK K
  try simp only[put,sA]
  refine bH 8 (fun K hK=>?_);skip;go_simp;have uO:=hid (iT.o.1.ae (al W3.drew (.cells #[.int .i64 r] 3)));have qL:=hid (iT.o.2.ae (al W3.drew (.cells #[.int .i64 r] 3)));have e6:(W3.alloc (.cells #[.int .i64 r] 3)).cell? ⟨bm,258,none⟩=some (.slice aK k cK):=(uO.o.r.other 258 (by decide)).trans qL.o.cK;refine hK.out _ _ trivial fun η=>?_;clear hK K
  try simp only[put,sA]
  refine bH 9 (fun K hK=>?_);skip;skip;refine Vb (by rfl) _ _ _ (by rfl) B 3 i0 (.int .i64 0) 1 8 underlying43 hi dP dc db (by rfl) (by decide) _ k (ints ms) (by rfl) qL.o.ok ⟨W3.heap.size,0,none⟩ 1 1 (#[.int .i64 r]).toList (by rfl) (by rfl) (World.news_of_block (cs:=#[.int .i64 r]) (t:=3) (fr:=(0,0)) (heap_alloc_new W3.drew _)) (by simp[Value.oneCell']) (by unfold maxLen;omega) (by omega) uO.o.r.hB ?_;intro v6 w6 an ag di;obtain⟨a6,c6,rfl⟩:=cy an;have gP:=Td uO.o qL.o (r:=r) (vK':=.slice a6 (k+1) c6) an ag di;have oH:St w6 168 bm _:=uO.o.r.sm.af qL.o.ok (by decide) ag;have t3:w6.cell? ⟨bm,258,none⟩=some (.slice aK k cK):=by rw[oH.at_,getElem?_setIfInBounds_ne (by decide)];exact qL.o.cK
  have f3:=oH.bE 258;have HF:Hid (OR V B bs bm gI m M bM cs l vL k n ss ms Q' s mk (.returned (.int .i64 (k:Int))) (w6.setCell ⟨bm,258,none⟩ (.slice a6 (k+1) c6))):=⟨r,_,_,rfl,HR.o,gP.1,gP.2⟩
  refine hK.out _ _ trivial fun η=>?_;clear hK K an ag di gP oH
  rotate_left
  skip;go_simp;go_at_call 173;refine Gz.o.mono ?_;rintro e w5 ⟨r,rfl,hr,rfl⟩;have HR:=hid hr;clear hr
  try go_wp2_with fail
  refine hK.out _ _ trivial fun η=>?_;clear hK K
  try simp only[put,sA]
  refine wpAnyH_ready (rs:=[5,8]) (by kernel_rfl) (by simp) (jn (fun K hK=>?_) (jn (fun K hK=>?_) AllReadyH.nil))
  skip;go_simp;refine hK.out _ _ trivial fun η=>?_;clear hK K
  try simp only[put,sA]
  refine bH 8 (fun K hK=>?_);skip;go_simp;have uO:=hid (iT.o.1.ae (al W3.drew (.cells #[.int .i64 r] 3)));have qL:=hid (iT.o.2.ae (al W3.drew (.cells #[.int .i64 r] 3)));have e6:(W3.alloc (.cells #[.int .i64 r] 3)).cell? ⟨bm,258,none⟩=some (.slice aK k cK):=(uO.o.r.other 258 (by decide)).trans qL.o.cK;refine hK.out _ _ trivial fun η=>?_;clear hK K
  try simp only[put,sA]
  refine bH 9 (fun K hK=>?_);skip;skip;refine Vb (by rfl) _ _ _ (by rfl) B 3 i0 (.int .i64 0) 1 8 underlying43 hi dP dc db (by rfl) (by decide) _ k (ints ms) (by rfl) qL.o.ok ⟨W3.heap.size,0,none⟩ 1 1 (#[.int .i64 r]).toList (by rfl) (by rfl) (World.news_of_block (cs:=#[.int .i64 r]) (t:=3) (fr:=(0,0)) (heap_alloc_new W3.drew _)) (by simp[Value.oneCell']) (by unfold maxLen;omega) (by omega) uO.o.r.hB ?_;intro v6 w6 an ag di;obtain⟨a6,c6,rfl⟩:=cy an;have gP:=Td uO.o qL.o (r:=r) (vK':=.slice a6 (k+1) c6) an ag di;have oH:St w6 168 bm _:=uO.o.r.sm.af qL.o.ok (by decide) ag;have t3:w6.cell? ⟨bm,258,none⟩=some (.slice aK k cK):=(by rw[oH.at_,getElem?_setIfInBounds_ne (by decide)];exact qL.o.cK);have f3:=oH.bE 258;have HF:Hid (OR V B bs bm gI m M bM cs l vL k n ss ms Q' s mk (.returned (.int .i64 (k:Int))) (w6.setCell ⟨bm,258,none⟩ (.slice a6 (k+1) c6))):=(⟨r,_,_,rfl,HR.o,gP.1,gP.2⟩);refine hK.out _ _ trivial fun η=>?_;clear hK K an ag di gP oH
  rotate_left
  skip;go_simp;have uO:=hid (iT.o.1.ae (al W3.drew (.cells #[.int .i64 r] 3)));have qL:=hid (iT.o.2.ae (al W3.drew (.cells #[.int .i64 r] 3)));have e6:(W3.alloc (.cells #[.int .i64 r] 3)).cell? ⟨bm,258,none⟩=some (.slice aK k cK):=(uO.o.r.other 258 (by decide)).trans qL.o.cK;refine hK.out _ _ trivial fun η=>?_;clear hK K
  try simp only[put,sA]
  refine bH 5 (fun K hK=>?_);skip;go_simp;refine hK.out _ _ trivial fun η=>?_;clear hK K
  try simp only[put,sA]
  refine bH 9 (fun K hK=>?_);skip;skip;refine Vb (by rfl) _ _ _ (by rfl) B 3 i0 (.int .i64 0) 1 8 underlying43 hi dP dc db (by rfl) (by decide) _ k (ints ms) (by rfl) qL.o.ok ⟨W3.heap.size,0,none⟩ 1 1 (#[.int .i64 r]).toList (by rfl) (by rfl) (World.news_of_block (cs:=#[.int .i64 r]) (t:=3) (fr:=(0,0)) (heap_alloc_new W3.drew _)) (by simp[Value.oneCell']) (by unfold maxLen;omega) (by omega) uO.o.r.hB ?_;intro v6 w6 an ag di;obtain⟨a6,c6,rfl⟩:=cy an;have gP:=Td uO.o qL.o (r:=r) (vK':=.slice a6 (k+1) c6) an ag di;have oH:St w6 168 bm _:=uO.o.r.sm.af qL.o.ok (by decide) ag;have t3:w6.cell? ⟨bm,258,none⟩=some (.slice aK k cK):=(by rw[oH.at_,getElem?_setIfInBounds_ne (by decide)];exact qL.o.cK);have f3:=oH.bE 258;have HF:Hid (OR V B bs bm gI m M bM cs l vL k n ss ms Q' s mk (.returned (.int .i64 (k:Int))) (w6.setCell ⟨bm,258,none⟩ (.slice a6 (k+1) c6))):=(⟨r,_,_,rfl,HR.o,gP.1,gP.2⟩);refine hK.out _ _ trivial fun η=>?_;clear hK K an ag di gP oH
  rotate_left
  all_goals
   try simp only[put,sA]
   (refine ay 10 ?_;refine ay 11 ?_;refine ay 12 ?_;try simp only[put,sA])
   refine bH 13 (fun K hK=>?_);skip;go_simp;refine hK.out _ _ trivial fun η=>?_;clear hK K
   try simp only[put,sA]
   refine wpAnyH_done (by kernel_rfl) ?_ _;clear η;go_wp2;go_ret;exact HF.o
def kT(bm gI:Nat)(vL:Value):List Nat:=bm :: gI :: vL.ownBlock.toList
theorem iL.base(h:iL V B bs bm gI m cs P l vL wr):iL wr B (kT bm gI vL) bm gI m cs P l vL wr:=
 ⟨Kept.refl _ _ _,Below.refl _ _,h.sm,h.sz,h.cI,h.lW,h.dg,fun b e=>inl (by simp[kT,e]),⟨by simp[kT],by simp[kT]⟩,h.lo.1,h.lo.2.1,h.hB⟩
theorem iL.back{im:Array Value}(h:iL V B bs bm gI m cs P l vL wr)(h':iL wr B (kT bm gI vL) bm gI m im P' l' jN w3):iL V B bs bm gI m im P' l' jN w3:=by
 have cQ:=h.below.size;refine⟨fun k o hk ho hn=>h'.kept k o (h.kept k o hk ho hn) ho (fun hm=>?_),h.below.trans h'.below,h'.sm,h'.sz,h'.cI,h'.lW,h'.dg,fun b e=>?_,h.ko,h.lo⟩
 ·simp only[kT,mem_cons,mem_toList] at hm;rcases hm with rfl|rfl|hm
  ·exact hn h.ko.1
  ·exact hn h.ko.2
  rcases h.loc k hm with h1|h1
  ·exact hn h1
  have:=(Array.getElem?_eq_some_iff.1 hk).1;omega
 rcases h'.loc b e with hm|hm
 ·simp only[kT,mem_cons,mem_toList] at hm;rcases hm with rfl|rfl|hm
  ·exact inl h.ko.1
  ·exact inl h.ko.2
  exact h.loc b hm
 exact inr (by omega)
theorem nE.over{Q:Value->Value->Prop}(h:iL V B bs bm gI m cs P l vL wr)(t:nE V B bs bM cs vL k q n ss ms Q vS vK wr)
  (h':iL wr B (kT bm gI vL) bm gI m cs P' l' jN w3):nE V B bs bM cs jN k q n ss ms Q vS vK w3:=by
 have hn:∀{t' n':Nat}{v:Value}{xs:List Value},wr.ownsRow B t' 1 v n' xs->t'≠168->t'≠5->(∀b,vL.ownBlock=some b->v.ownBlock≠some b)->∀g,v.ownBlock=some g->g∉kT bm gI vL:=by
  intro t' n' v xs ho h1 h2 h3 g hg hm;simp only[kT,mem_cons,mem_toList] at hm;rcases hm with rfl|rfl|hm
  ·exact eI ho h.sm h1 g hg rfl
  ·exact iO ho h.lW h2 g hg rfl
  exact h3 g hm hg
 refine⟨t.cK,t.cS,t.cM,gk t.os h'.kept (by simp) (hn t.os (by decide) (by decide) (fun b e1 e2=>iO h.dg t.os (by decide) b e1 e2)),gk t.ok h'.kept (by simp) (hn t.ok (by decide) (by decide) t.sep),t.map.kept h'.kept ?_,fun b e1 e2=>?_,t.lS,t.lK,t.lM⟩
 ·simp only[kT,mem_cons,mem_toList];rintro (e|e|e)
  ·exact Cx t.map h.sm e.symm
  ·exact zz t.map h.lW gI rfl e.symm
  exact zz t.map h.dg bM e rfl
 rcases h'.loc b e1 with hm|hm
 ·exact hn t.ok (by decide) (by decide) t.sep b e2 hm
 obtain⟨c,fz,hc⟩:=qX t.ok b e2;have:=(Array.getElem?_eq_some_iff.1 hc).1;omega
def kI(M:Nat)(f:Nat->Bool):ByteArray:=strOf (gw f M)
theorem U5(M:Nat)(f g:Nat->Bool):kI M f=kI M g↔∀x,x<M->f x=g x:=by
 constructor
 ·intro h;exact (Nv f g M).1 (Ud (Jz _ M) (Jz _ M) (by rw[<-xW,<-xW];exact congrArg (fun s:ByteArray=>s.data.toList) h))
 intro h;unfold kI;rw[(Nv f g M).2 h]
def MQ(M:Nat)(D:List ((Nat->Bool) × Nat))(x y:Value):Prop:=∃p∈D,x=.string (kI M p.1)/\y=.int .i64 ((p.2:Nat):Int)
structure Inv (L:List En)(M:Nat)(mk:Nat->Int)(SS:List (Nat->Bool))(ms:List Int)(D:List ((Nat->Bool) × Nat)):Prop where
 own:∀j (h:j<SS.length),(SS[j],j)∈D
 S4:∀p∈D,∃h:p.2<SS.length,∀x,x<M->(SS[p.2] x=true↔FR L (fun y=>y<M/\p.1 y=true) x)
 len:ms.length=SS.length
 dt:∀j (h:j<SS.length) (h2:j<ms.length),cJ mk (fun x=>x<M/\SS[j] x=true) ms[j]
theorem zjh(f:Nat->Bool)(M m:Nat)(hm:(M+7) / 8=m)(h:∀x,f x=true->x<M):iC f m=gw f M:=by
 unfold iC gw;rw[hm];refine List.map_congr_left fun j _=>UK fun k _=>?_
 by_cases e:8*j+k<M
 ·simp[cv,e]
 have:f (8*j+k)=false:=by
  cases hf:f (8*j+k) with
  | false=>rfl
  | true=>exact absurd (h _ hf) e
 simp[cv,e,this]
theorem iL.I7(h:iL V B bs bm gI m cs P l vL wr)(k:Kept [] (kT bm gI vL) wr W):Kept [] bs V W:=fun k0 o hk ho hn=>k k0 o (h.kept k0 o hk ho hn) ho (fun hm=>by
 simp only[kT,mem_cons,mem_toList] at hm
 rcases hm with rfl|rfl|hm
 ·exact hn h.ko.1
 ·exact hn h.ko.2
 ·rcases h.loc k0 hm with h1|h1
  ·exact hn h1
  ·have:=(Array.getElem?_eq_some_iff.1 hk).1
   omega)
theorem FR.idem{L:List En}{A:Nat->Prop}(x:Nat):FR L (FR L A) x↔FR L A x:=by
 constructor
 ·intro k
  induction k with
  | base h=>exact h
  | step e _ h1 h2 h3 h4 ih=>exact .step e ih h1 h2 h3 h4
 exact .base
theorem aJ.again{k t e:TypeId}{b:Nat}{Q:Value->Value->Prop}(h:aJ w k b n Q)(K:Keyed prog k)(ht:prog.underlying t=some (.map k e))
  {key val:Value}{kl:Lit}(fw:keyOf prog k key=some kl) (hv:Q key val):∃w',(Instr.mapUpdate t (.map (some b)) key val).run prog w=.ok () w'/\aJ w' k b n Q/\w.grownBy w' (some b):=by
 obtain⟨es,clock,hb,F,hs,hq,eO⟩:=h;obtain⟨F1,_,_⟩:=F.stay (R':=fY) (fun x hx z hz=>hz);rcases K.find w fw es.toList F.keys with ⟨h1,h2⟩|⟨j,e0,h1,h2,h3⟩
 ·obtain⟨e1,h4,h5⟩:=eO _ _ hv;exact absurd h5 (h2 e1 h4)
 have hj:es[j]?=some e0:=by simpa using h2
 have yv:∀e',es[j]?=some e'->({ e' with key:=key,val:=val }:MapEntry).key=e'.key:=fun e' tz=>by rw[hj] at tz;cases tz;exact h3.symm
 have oo:(es.modify j (fun e'=>{ e' with key:=key,val:=val })).toList=es.toList.set j { e0 with key:=key,val:=val }:=by rw[Array.toList_modify,modify_eq_set _ _ _ _ h2]
 have JM:∀x∈es.toList.set j { e0 with key:=key,val:=val },x={ e0 with key:=key,val:=val }\/x∈es.toList:=by
  intro x hx;rcases List.mem_or_eq_of_mem_set hx with h|h
  ·exact inr h
  exact inl h
 have pS:∀bn,WideElems.rd prog k fY ⟨key,val,bn⟩=some (kl,.held val):=fun bn=>by unfold WideElems.rd fY;rw[fw];rfl
 refine⟨setBlock w b (.map (es.modify j (fun e'=>{ e' with key:=key,val:=val })) clock),?_,⟨es.modify j (fun e'=>{ e' with key:=key,val:=val }),clock,heap_setBlock_same hb _,⟨by simpa using F.size,stamped_modify F.stamped _ _ (fun _ _=>rfl) (fun e' _ tz=>yv e' tz),?_⟩,by simpa using hs,fun x hx=>?_,fun x y hx=>?_⟩,⟨rfl,rfl,rfl,by simp[setBlock],fun i _ hi=>heap_setBlock_other hb _ (fun e=>hi (by rw[e]))⟩⟩
 ·simp[Instr.mapUpdate,run_underlying ht,MapKept.run_getObj_map hb,K.check w false fw,h1,hj,h3,K.stays w fw,MapKept.run_setObj_map _ hb,Result.andThen,setBlock]
 ·intro x hx;rw[oo] at hx;rcases JM x hx with rfl|Fe
  ·exact⟨_,pS _⟩
  exact F1.reads x Fe
 ·rw[oo] at hx;rcases JM x hx with rfl|Fe
  ·exact hv
  exact hq x Fe
 obtain⟨e1,h4,h5⟩:=eO x y hx;rw[oo];obtain⟨i,hi,ei⟩:=List.getElem_of_mem h4;by_cases Rt:i=j
 ·refine⟨{ e0 with key:=key,val:=val },List.mem_set (by rw[<-Rt];exact hi) _,?_⟩;subst Rt;rw[List.getElem?_eq_getElem hi,ei] at h2;injection h2 with h2;rw[<-h5,h2];exact h3.symm
 exact⟨e1,by
  have:(es.toList.set j { e0 with key:=key,val:=val })[i]?=some e1:=by
   rw[List.getElem?_set_ne (fun e=>Rt e.symm),List.getElem?_eq_getElem hi,ei]
  exact List.mem_of_getElem? this,h5⟩
def Iu(V:World)(B:Nat)(bs:List Nat)(bm gI m M bM:Nat)(cs:Array Value)(L:List En)(mk:Nat->Int)(SS:List (Nat->Bool))(st:List Nat)(n:Nat)(e:Ending)(w':World):Prop:=
 ∃(j:Nat) (ki:List (Nat->Bool)) (vf:List Int) (D':List ((Nat->Bool) × Nat)) (jN vS' vK':Value) (im:Array Value) (l':List Nat) (n':Nat),e=.returned (.int .i64 (j:Int))/\jq V B bs bm gI m M im l' jN w'/\
  nE V B bs bM im jN ki.length ki.length n' (ki.map (kI M)) vf (MQ M D') vS' vK' w'/\Inv L M mk ki vf D'/\n'+2*SS.length<=n+2*ki.length/\(∀i,i≠258->i≠259->im[i]?=cs[i]?)/\(∃h:j<ki.length,∀x,x<M->(ki[j] x=true↔FR L (fun y=>y∈st) x))/\
  (ki=SS\/∃f,ki=SS++[f]/\j=SS.length/\∀i (h:i<SS.length),∃x,x<M/\SS[i] x≠f x)
theorem Zw(V:World)(B:Nat)(bs:List Nat)(bm gI m M bM bn gM cM gF cF:Nat)(aF:Nat->Option Addr)(cR:Nat->Nat)(L:List En)(HF:mF V B bn gF M cF aF cR L)(hE:∀e∈L,e.f<M/\e.t<M)(Oc:L.length<=6400)(cs:Array Value)(mk:Nat->Int)(HV:lq V B bn gM M cM mk)(gP:∀i,i<M->-1<=mk i)(qO:cs[0]?=some (.pointer (some ⟨bn,0,none⟩)))(hM:M<=100000)(hm:(M+7) / 8=m)
  (P:Nat->Bool) (l:List Nat) (vL vS vK:Value) (n:Nat) (SS:List (Nat->Bool)) (ms:List Int) (D:List ((Nat->Bool) × Nat)) (hk:SS.length<=100000) (hn:n<=100000) (qb:l.length<=100000)
  (a:Option Addr) (q c:Nat) (st:List Nat) (cU:st.length=q) (hq:q<=100000000000) (aq:∀x∈st,x<M) (hr:∀W,Kept [] bs V W->Cm W W.heap.size a st)
  (wr:World) (h:iL V B bs bm gI m cs P l vL wr) (t:nE V B bs bM cs vL SS.length SS.length n (SS.map (kI M)) ms (MQ M D) vS vK wr) (inv:Inv L M mk SS ms D):
  Calls prog 119 #[.pointer (some ⟨bm,0,none⟩),.slice a q c] wr (Iu V B bs bm gI m M bM cs L mk SS st n):=by
 have HH:=ξ h t inv;have HN:=hid (Zz HF (Zz hE (Zz HV (Zz gP (Zz qO hm)))));have HG:=hid (zhz wr B (kT bm gI vL) bm gI m M cs P l vL wr h.base hM hm (by omega) a q c st cU hq aq (fun W hW=>hr W (h.I7 hW)));clear h t inv HF hE HV gP qO cU aq hr;go_in;go_wp2_with fail;refine HG.o.mono ?_;rintro e w2 ⟨l2,rX,rfl,h2,iu⟩;obtain⟨f2,pw⟩:∃f2:Nat->Bool,(fun x=>decide (x∈l2))=f2:=⟨_,rfl⟩
 have OH:=h2.ae (Below.refl w2.heap.size w2).drew;have NH:=nE.over HH.o.1 HH.o.2.1 OH.r;have Fg:∀x,f2 x=true->x<M:=fun x hx=>h2.lt x (by rw[<-pw] at hx;simpa using hx)
 have hcv:(convert 76 9 (.slice (some ⟨gI,0,none⟩) m m)).run prog w2.drew=.ok (.string (kI M f2)) w2.drew:=by
  have:=Mz (l:=iC f2 m) (by have:=OH.r.lW;rw[pw] at this;exact this) (by rw[MD]);rw[zjh f2 M m HN.o.2.2.2.2.2 Fg] at this;exact this
 have hkl:keyOf prog 9 (.string (kI M f2))=some _:=Go.WideMaps.keyOf_string_mk underlying9 (by unfold kI;rw[yu];simp[gw];unfold maxLen;omega);have hFR:∀x,FR L (fun y=>y<M/\f2 y=true) x↔FR L (fun y=>y∈st) x:=fun x=>FR.congr (fun y=>by
  rw[<-iu,<-pw]
  exact⟨fun h=>by simpa using h.2,fun h=>⟨h2.lt y h,by simpa using h⟩⟩) x
 have c0:w2.cell? ⟨bm,260,none⟩=some (.map (some bM)):=(h2.r.other 260 (by decide)).trans NH.cM;have c1:w2.cell? ⟨bm,261,none⟩=some (.slice (some ⟨gI,0,none⟩) m m):=h2.r.cells.1;have H2:=hid (Zz OH (Zz NH (Zz iu (Zz hFR (Zz pw Fg)))));have zM:=NH.map.qm FN underlying166 (OA w2.drew) hkl;clear h2 iu HG OH NH hFR hkl Fg;rcases zM with ⟨cZ,jv⟩|⟨v,⟨p,hp,Bp,rfl⟩,cZ⟩
 ·have ke:=hid jv;clear jv;go_wp2_with fail
  go_region
  go_wp2_with fail;refine (zhf wr B (kT bm gI vL) bm gI m M bn gF cF cs aF cR L (HN.o.1.below HH.o.1.below) HN.o.2.2.2.2.1 HN.o.2.1 hM HN.o.2.2.2.2.2 Oc l2 rX w2.drew H2.o.1).mono ?_;rintro e w4 ⟨l4,NF,rfl,h4,xH⟩;obtain⟨f4,N6⟩:∃f4:Nat->Bool,(fun x=>decide (x∈l4))=f4:=⟨_,rfl⟩
  have t4:=nE.over HH.o.1 HH.o.2.1 h4.r;have LX:∀x,f4 x=true->x<M:=fun x hx=>h4.lt x (by rw[<-N6] at hx;simpa using hx)
  have AO:∀x,f4 x=true↔x∈l4:=fun x=>by rw[<-N6];simp
  have hcv4:(convert 76 9 (.slice (some ⟨gI,0,none⟩) m m)).run prog w4=.ok (.string (kI M f4)) w4:=by
   have:=Mz (l:=iC f4 m) (by have:=h4.r.lW;rw[N6] at this;exact this) (by rw[MD]);rw[zjh f4 M m HN.o.2.2.2.2.2 LX] at this;exact this
  have Ll:keyOf prog 9 (.string (kI M f4))=some _:=Go.WideMaps.keyOf_string_mk underlying9 (by unfold kI;rw[yu];simp[gw];unfold maxLen;omega);have Pp:(kI M f4).size<=100000:=by unfold kI;rw[yu];simp[gw];omega
  have iv:∀x,x∈l4↔FR L (fun y=>y∈st) x:=fun x=>by rw[xH x];exact FR.congr (fun y=>H2.o.2.2.1 y) x
  have LV:∀x,FR L (fun y=>y<M/\f4 y=true) x↔FR L (fun y=>y∈st) x:=fun x=>by
   rw[show FR L (fun y=>y<M/\f4 y=true) x↔FR L (FR L (fun y=>y∈st)) x from FR.congr (fun y=>⟨fun h=>(iv y).1 ((AO y).1 h.2),fun h=>⟨h4.lt y ((iv y).2 h),(AO y).2 ((iv y).2 h)⟩⟩) x];exact FR.idem x
  have d0:w4.cell? ⟨bm,260,none⟩=some (.map (some bM)):=(h4.r.other 260 (by decide)).trans t4.cM;have d1:w4.cell? ⟨bm,261,none⟩=some (.slice (some ⟨gI,0,none⟩) m m):=h4.r.cells.1;have Yo:jq V B bs bm gI m M cs l4 NF w4:=⟨HH.o.1.back h4.r,h4.nd,h4.lt⟩
  have H4:=φ Yo t4 iv LV AO;have zM:=t4.map.qm FN underlying166 (OA w4) Ll;clear h4 t4 LX AO iv LV Yo xH N6 c0 c1 hcv cZ;rcases zM with ⟨cZ,jv⟩|⟨v,⟨p,hp,Bp,rfl⟩,cZ⟩
  ·obtain⟨k,Ar⟩:=Ξ SS.length;have HK:=hid Ar;have fS:k<=100000:=(by omega);have AB:=hid (zoO V B bs bm gI m M bM bn gM cM cs mk HN.o.2.2.1 HN.o.2.2.2.1 HN.o.2.2.2.2.1 hM l4 NF vS vK SS.length n (SS.map (kI M)) ms (MQ M D) (MQ M (D++[(f4,SS.length)])) (kI M f4) Pp (by omega) (by omega) jv
    (fun x y ⟨p,hp,h1,h2⟩=>⟨p,List.mem_append.2 (inl hp),h1,h2⟩) ⟨(f4,SS.length),by simp,rfl,rfl⟩
    (fun x y ⟨p,hp,h1,h2⟩ hne=>by
     rcases List.mem_append.1 hp with hp|hp
     ·exact⟨y,p,hp,h1,h2⟩
     ·rw[List.mem_singleton.1 hp] at h1
      exact absurd h1 hne) w4 H4.o.1 H4.o.2.1)
   have RB:=hid jv;rw[Ar] at AB;clear jv Ar;go_wp2_with fail;refine AB.o.mono ?_;rintro e w5 ⟨r,vS',vK',rfl,hr,QO,JL⟩;have Fc:keyOf prog 9 (.string (kI M f2))=some _:=Go.WideMaps.keyOf_string_mk underlying9 (by unfold kI;rw[yu];simp[gw];unfold maxLen;omega);obtain⟨w6,Ah,qT,gQ⟩:∃w6,(Instr.mapUpdate 166 (.map (some bM)) (.string (kI M f2)) (.int .i64 (k:Int))).run prog w5=.ok () w6/\aJ w6 9 bM (n+2) (MQ M (D++[(f4,k)]++[(f2,k)]))/\w5.grownBy w6 (some bM):=by
    by_cases e:kI M f2=kI M f4
    ·obtain⟨w6,h1,h2,h3⟩:=JL.map.again FN underlying166 Fc (val:=.int .i64 (k:Int)) ⟨(f4,k),by simp,by rw[e],rfl⟩;refine⟨w6,h1,?_,h3⟩;have e2:MQ M (D++[(f4,k)]++[(f2,k)])=MQ M (D++[(f4,k)]):=by
      funext x y;refine propext ⟨fun ⟨p,hp,h1,h2⟩=>?_,fun ⟨p,hp,h1,h2⟩=>⟨p,List.mem_append.2 (inl hp),h1,h2⟩⟩;rcases List.mem_append.1 hp with hp|hp
      ·exact⟨p,hp,h1,h2⟩
      rw[List.mem_singleton.1 hp] at h1 h2;exact⟨(f4,k),by simp,by rw[h1,<-e],h2⟩
     rw[e2];exact h2.more (by omega)
    exact JL.map.update FN underlying166 (by unfold maxLen;omega) Fc (Q':=MQ M (D++[(f4,k)]++[(f2,k)]))
     (fun y ⟨p,hp,h1,h2⟩=>by
      rcases List.mem_append.1 hp with hp|hp
      ·exact ke.o y ⟨p,hp,h1,h2⟩
      ·rw[List.mem_singleton.1 hp] at h1
       injection h1 with h1
       exact e h1)
     (fun x y ⟨p,hp,h1,h2⟩=>⟨p,List.mem_append.2 (inl hp),h1,h2⟩) ⟨(f2,k),by simp,rfl,rfl⟩
     (fun x y ⟨p,hp,h1,h2⟩ hne=>by
      rcases List.mem_append.1 hp with hp|hp
      ·exact⟨y,p,hp,h1,h2⟩
      ·rw[List.mem_singleton.1 hp] at h1
       exact absurd h1 hne)
   have kY:=zpt QO JL qT gQ;have e0:w5.cell? ⟨bm,260,none⟩=some (.map (some bM)):=(QO.r.other 260 (by decide)).trans JL.cM;have HF:Hid (Iu V B bs bm gI m M bM cs L mk SS st n (.returned (.int .i64 (k:Int))) w6):=by
    have Ar:=HK.o;subst Ar;have inv:=HH.o.2.2;refine⟨SS.length,SS++[f4],ms++[r],D++[(f4,SS.length)]++[(f2,SS.length)],NF,vS',vK',_,l4,n+2,rfl,kY.1,?_,⟨fun j hj=>?_,fun p hp=>?_,by simp[inv.len],fun j hj hj2=>?_⟩,(by simp;omega),fun i h1 h2=>?_,⟨by simp,fun x hx=>?_⟩,inr ⟨f4,rfl,rfl,fun i hi=>?_⟩⟩
    ·have:=kY.2;simpa using this
    ·by_cases e:j<SS.length
     ·rw[getElem_append_left e];exact List.mem_append.2 (inl (List.mem_append.2 (inl (inv.own j e))))
     have:j=SS.length:=(by simp at hj;omega);subst this;simp
    ·rcases List.mem_append.1 hp with hp|hp
     ·rcases List.mem_append.1 hp with hp|hp
      ·obtain⟨h1,h2⟩:=inv.S4 p hp;refine⟨by simp;omega,fun x hx=>?_⟩;rw[getElem_append_left h1];exact h2 x hx
      rw[List.mem_singleton.1 hp];refine⟨by simp,fun x hx=>?_⟩;simp only[List.getElem_concat_length];rw[H4.o.2.2.2.2 x,H4.o.2.2.1 x,H4.o.2.2.2.1 x]
     rw[List.mem_singleton.1 hp];refine⟨by simp,fun x hx=>?_⟩;simp only[List.getElem_concat_length];rw[H4.o.2.2.2.2 x,H4.o.2.2.1 x,H2.o.2.2.2.1 x]
    ·by_cases e:j<SS.length
     ·have e2:j<ms.length:=(by rw[inv.len];exact e);have:=inv.dt j e e2;rw[getElem_append_left e2];simpa [getElem_append_left e] using this
     have:j=SS.length:=(by simp at hj;omega);subst this;have e3:(ms++[r])[SS.length]=r:=by
      rw[List.getElem_append_right (by rw[inv.len];exact le_refl _)];simp[inv.len]
     rw[e3];refine hr.congr (fun x=>?_);simp only[List.getElem_concat_length];rw[H4.o.2.2.2.2 x];exact⟨fun h=>⟨H4.o.1.lt x h,h⟩,fun h=>h.2⟩
    ·rw[getElem?_setIfInBounds_ne (fun e=>h1 e.symm),getElem?_setIfInBounds_ne (fun e=>h2 e.symm)]
    ·simp only[List.getElem_concat_length];rw[H4.o.2.2.2.2 x,H4.o.2.2.1 x]
    refine(Classical.byContradiction fun eO=>?_);have h7:∀x,x<M->SS[i] x=f4 x:=(fun x hx=>Classical.byContradiction fun h=>eO ⟨x,hx,h⟩);exact RB.o (.int .i64 (i:Int)) ⟨(SS[i],i),inv.own i hi,by rw[(U5 M _ _).2 h7],rfl⟩
   clear hr QO JL qT gQ kY Fc Ll;go_wp2;go_ret;exact HF.o
  have vI:=HH.o.2.2.S4 p hp;have HF:Hid (Iu V B bs bm gI m M bM cs L mk SS st n (.returned (.int .i64 (p.2:Int))) w4):=by
   refine⟨p.2,SS,ms,D,NF,vS,vK,cs,l4,n,rfl,H4.o.1,H4.o.2.1,HH.o.2.2,by omega,fun _ _ _=>rfl,?_,inl rfl⟩;obtain⟨h1,h3⟩:=vI;refine⟨h1,fun x hx=>?_⟩;rw[h3 x hx,<-H4.o.2.2.2.1 x];injection Bp with Bp;have h5:=(U5 M _ _).1 Bp;exact FR.congr (fun y=>⟨fun h=>⟨h.1,by rw[h5 y h.1];exact h.2⟩,fun h=>⟨h.1,by rw[<-h5 y h.1];exact h.2⟩⟩) x
  clear hp Bp vI;go_wp2;go_ret;exact HF.o
 have vI:=HH.o.2.2.S4 p hp;have HF:Hid (Iu V B bs bm gI m M bM cs L mk SS st n (.returned (.int .i64 (p.2:Int))) w2.drew):=by
  refine⟨p.2,SS,ms,D,rX,vS,vK,cs,l2,n,rfl,⟨HH.o.1.back H2.o.1.r,H2.o.1.nd,H2.o.1.lt⟩,H2.o.2.1,HH.o.2.2,by omega,fun _ _ _=>rfl,?_,inl rfl⟩;obtain⟨h1,h3⟩:=vI;refine⟨h1,fun x hx=>?_⟩;rw[h3 x hx,<-H2.o.2.2.2.1 x];injection Bp with Bp;have h5:=(U5 M _ _).1 Bp;exact FR.congr (fun y=>⟨fun h=>⟨h.1,by rw[h5 y h.1];exact h.2⟩,fun h=>⟨h.1,by rw[<-h5 y h.1];exact h.2⟩⟩) x
 clear hp Bp vI;go_wp2_with fail
 go_region
 go_wp2;go_ret;exact HF.o
