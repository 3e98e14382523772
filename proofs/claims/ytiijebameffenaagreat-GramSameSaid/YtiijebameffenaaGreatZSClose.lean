import Derived.Test.YtiijebameffenaaGreatZNRClose
import Derived.Test.YtiijebameffenaaGreatZTk
set_option linter.all false
set_option maxHeartbeats 2000000
set_option maxRecDepth 100000
open Go.Lib (hid)
namespace Go.Proofs.YtiijebameffenaaGreat
open Go.RowKit Go.Proofs.Tryz
open Nat (le_refl zero_le)
open Or (inl inr)
open List (getElem_append_left length_append map_cons map_nil mem_cons)
open Sem (run_bind run_pure)
open _root_.Array (getElem?_setIfInBounds_ne)
open Region (wanted)
open Act (put)
open Option (mem_toList)
variable {B M bM bm gI k m n q t:Nat}{P P':Nat->Bool}{V W w w1 w3 w5 wr:World}{a:Act}{bs l l':List Nat}{cs:Array Value}{iN vK vL vS:Value}{ms:List Int}{ops:Array Oper}{ss:List ByteArray}
def lE(s:ByteArray)(k:Nat):Nat:=(s.get! k).toNat
theorem XK(s:ByteArray)(k:Nat):lE s k<256:=UInt8.toNat_lt _
theorem N0(s:ByteArray)(k:Nat)(h:k<s.size):(s[k]'h).toNat=lE s k:=by
 unfold lE;rw[show s.get! k=s[k]'h from getElem!_pos s.data k h]
open Go.Maps Go.WideElems Go.ChangeMaps Go.MapKept
def Dn(b t:Nat):Prop:=b≠0->t<8/\b.testBit t=true/\(b &&& (b-1))<b/\∀j,j<8->(b &&& (b-1)).testBit j=(b.testBit j && decide (j≠t))
instance (b t:Nat):Decidable (Dn b t):=by unfold Dn;infer_instance
theorem zmo(x:UInt8):wrap64 (x.toNat:Int)=(x.toNat:Int):=by
 have:x.toNat<256:=UInt8.toNat_lt x;exact IntWalk.wrap64_in _ ⟨by omega,by omega⟩
theorem zn7(b:Nat)(hb:b<256)(w:World):Calls prog 175 #[.int .u8 (b:Int)] w fun e w'=>∃t:Nat,e=.returned (.int .i64 (t:Int))/\Dn b t/\w'=w:=by
 go_enter func175,ntmps175;go_wp2;go_ret;refine⟨_,congrArg (fun z=>Ending.returned (Value.int IntKind.i64 z)) (zmo _),?_,rfl⟩;clear w;rename_i h;revert h;revert hb;revert b;decide +kernel
def zn8(n:Nat)(g:Nat->Bool)(w:World)(e:Ending)(w':World):Prop:=
 ∃(L:List Nat) (a:Option Addr) (c:Nat),e=.returned (.slice a L.length c)/\w'.ownsRow w.heap.size 3 1 (.slice a L.length c) L.length (cy L)/\L.Nodup/\(∀x,x∈L↔x<8*n/\g x=true)/\Below w.heap.size w w'
theorem zgM(s:ByteArray)(n:Nat)(hs:s.size=n)(hn:n<=100000)(g:Nat->Bool)(hg:∀i,i<n->lE s i=jH g i)(w:World):Calls prog 156 #[.string s] w (zn8 n g w):=by
 have H:=hid (Zz hs hg);have Ph:=hs;obtain⟨i0,hi,dF,cY,cO⟩:=info_parts az;clear hg hs;go_enter func156,ntmps156;go_wp2;go_loopw [3,4,5,8] (fun v3 _ _ v wr=>∃(k:Nat) (L:List Nat) (a:Option Addr) (c:Nat),v=.int .i64 k/\k<=n/\v3=.slice a L.length c/\Hid (wr.ownsRow w.heap.size 3 1 (.slice a L.length c) L.length (cy L)/\L.Nodup/\(∀x,x∈L↔x<8*k/\g x=true)/\Below w.heap.size w wr)) (fun _ _ _ v _=>n-(intOf v).toNat)
 ·exact⟨0,[],none,0,rfl,zero_le _,rfl,World.ownsRow_nil _ _ _ _,List.nodup_nil,fun x=>by simp,Below.refl _ _⟩
 obtain⟨k,L,a,c,rfl,hk,rfl,HA⟩:=hrel;by_cases av:k<n
 ·have Fj:k<s.size:=by rw[Ph];exact av
  obtain⟨bt,tq⟩:∃bt,(s[k]'Fj).toNat=bt:=⟨_,rfl⟩
  have zK:=N0 s k Fj;rw[tq,H.out.2 k av] at zK;have uw:bt<256:=by rw[zK];exact KX g k
  have HB:=hid zK;have i1:(k:Int)<n:=by omega
  clear zK;go_wp2;go_loopw [3,5] (fun v3 v5 wq=>∃(b:Nat) (L2:List Nat) (a2:Option Addr) (c2:Nat),v5=.int .u8 b/\b<256/\v3=.slice a2 L2.length c2/\L2.length<=8*k+8/\Hid (wq.ownsRow w.heap.size 3 1 (.slice a2 L2.length c2) L2.length (cy L2)/\L2.Nodup/\(∀x,x∈L2↔(x<8*k/\g x=true)\/∃j,j<8/\x=8*k+j/\g x=true/\b.testBit j=false)/\Below w.heap.size w wq)/\Hid (∀j,j<8->b.testBit j=true->g (8*k+j)=true)) (fun _ v _=>(intOf v).toNat)
  ·refine⟨bt,L,a,c,rfl,uw,rfl,?_,⟨HA.out.1,HA.out.2.1,fun x=>?_,HA.out.2.2.2⟩,fun j hj h=>?_⟩
   ·have:=pR HA.out.2.1 (m:=8*k) (fun x hx=>((HA.out.2.2.1 x).1 hx).1);omega
   ·rw[HA.out.2.2.1 x];constructor
    ·exact inl
    rintro (h|⟨j,hj,rfl,h1,h2⟩)
    ·exact h
    rw[HB.out,yX] at h2;simp[hj,h1] at h2
   rw[HB.out,yX] at h;simpa [hj] using h
  obtain⟨b,L2,a2,c2,rfl,hb,rfl,hlen,HC,HD⟩:=hrel;by_cases aY:b=0
  ·subst aY;have HZ:Hid (wr.ownsRow w.heap.size 3 1 (.slice a2 L2.length c2) L2.length (cy L2)/\L2.Nodup/\(∀x,x∈L2↔x<8*(k+1)/\g x=true)/\Below w.heap.size w wr):=by
    refine⟨HC.out.1,HC.out.2.1,fun x=>?_,HC.out.2.2.2⟩;rw[HC.out.2.2.1 x];constructor
    ·rintro (⟨h1,h2⟩|⟨j,hj,rfl,h1,h2⟩)
     ·exact⟨by omega,h2⟩
     exact⟨by omega,h1⟩
    rintro⟨h1,h2⟩;by_cases h3:x<8*k
    ·exact inl ⟨h3,h2⟩
    exact inr ⟨x-8*k,by omega,by omega,h2,by simp⟩
   clear HA HC HD tq;go_wp2;go_roundw
   ·exact⟨k+1,L2,a2,c2,by go_num,by omega,rfl,HZ⟩
   simp[intOf];omega
  have xZ:=hid HC.out.1;have hO:=HC.out.1;have hB:=HC.out.2.2.2;have Il:=hB.size;obtain⟨q,hq⟩:∃q,L2.length=q:=⟨_,rfl⟩
  rw[hq] at hlen hO;have HQ:=hid hq;have eU:¬((b:Int)=0):=by omega
  clear HA tq;go_wp2_with fail;refine (zn7 b hb _).mono ?_;rintro e w3 ⟨t,rfl,htz,rfl⟩;obtain⟨Py,SO,Md,oC⟩:=htz aY;rw[hq];go_wp2_with (at_builtin;refine wpList_append_own _ rfl _ _ 43 rfl w.heap.size 3 i0 (.int .i64 0) 1 8 underlying43 hi dF cY cO rfl (by decide) _ _ _ rfl (hO.alloc _) ⟨w3.heap.size,0,none⟩ 1 1 [.int .i64 (8*(k:Int)+(t:Int))] rfl rfl (cell_one_new _ _ _) ?d2 ?d3 ?d4 ?d5 ?_)
  case d2=>intro u hu;simp at hu;subst hu;rfl
  case d3=>unfold maxLen;omega
  case d4=>omega
  case d5=>simp;omega
  intro v' w5 an aj _;obtain⟨a5,c5,rfl⟩:=bE an;have kA:=fA (hB.trans ((al w3 (.cells #[.int .i64 (8*(k:Int)+(t:Int))] 3)).mono Il)) (hO.alloc _) (by simp;omega) aj;have jK:8*k+t∉L2:=by
   rw[HC.out.2.2.1];rintro (⟨h1,h2⟩|⟨j,hj,h1,h2,h3⟩)
   ·omega
   rw[show j=t by omega,SO] at h3;cases h3
  obtain⟨b2,bZ⟩:∃b2,b &&& (b-1)=b2:=⟨_,rfl⟩
  rw[bZ] at Md oC;have hand:bits .and .u8 (b:Int) ((b:Int)-1)=(b2:Int):=by
   have:=u8_and_nat b (b-1) hb (by omega);rw[bZ] at this;rw[<-this];congr 1;omega
  have HZ:Hid (w5.ownsRow w.heap.size 3 1 (.slice a5 (L2++[8*k+t]).length c5) (L2++[8*k+t]).length (cy (L2++[8*k+t]))/\(L2++[8*k+t]).Nodup/\(∀x,x∈L2++[8*k+t]↔(x<8*k/\g x=true)\/∃j,j<8/\x=8*k+j/\g x=true/\b2.testBit j=false)/\Below w.heap.size w w5):=by
   refine⟨?_,?_,fun x=>?_,kA⟩
   ·rw[xw,length_append,hq];simpa using an
   ·refine List.nodup_append.2 ⟨HC.out.2.1,by simp,fun a ha b hb e=>?_⟩;rw[List.mem_singleton.1 hb] at e;exact jK (e ▸ ha)
   rw[List.mem_append,HC.out.2.2.1 x,List.mem_singleton];constructor
   ·rintro ((h|⟨j,hj,h1,h2,h3⟩)|h)
    ·exact inl h
    ·exact inr ⟨j,hj,h1,h2,by rw[oC j hj,h3];rfl⟩
    exact inr ⟨t,Py,h,by rw[h];exact HD.out t Py SO,by rw[oC t Py];simp⟩
   rintro (h|⟨j,hj,h1,h2,h3⟩)
   ·exact inl (inl h)
   by_cases e:j=t
   ·exact inr (by rw[h1,e])
   rw[oC j hj] at h3;exact inl (inr ⟨j,hj,h1,h2,by simpa [e] using h3⟩)
  have yt:Hid (∀j,j<8->b2.testBit j=true->g (8*k+j)=true):=fun j hj h=>by
   rw[oC j hj] at h;simp at h;exact HD.out j hj h.1
  have D4:(L2++[8*k+t]).length<=8*k+8:=pR HZ.out.2.1 (fun x hx=>by
   rcases (HZ.out.2.2.1 x).1 hx with h|⟨j,hj,h,_⟩ <;> omega)
  have yk:q+1<=8*k+8:=by rw[length_append,hq] at D4;simpa using D4
  have tY:Hid ((L2++[8*k+t]).length=q+1):=by show _=_;rw[length_append,hq];rfl
  have Mq:b2<256:=by omega
  clear an aj kA jK bZ oC hO hB D4 hq;go_wp2;go_roundw
  ·exact⟨b2,L2++[8*k+t],a5,c5,rfl,Mq,by rw[tY.out],by rw[tY.out];exact yk,HZ,yt⟩
  simp[intOf];omega
 obtain rfl:k=n:=by omega
 go_wp2;go_ret;exact⟨L,a,c,rfl,HA.out⟩
theorem Uw(v:Nat->Nat)(n c g:Nat)(hn:0<n)(dk:n<=1000)(hv:∀j,j<n->v j<256)(w:World)(h:∀j,j<n->w.cell? ⟨g,j,none⟩=some (.int .u8 ((v j:Nat):Int))):
  Calls prog 174 #[.slice (some ⟨g,0,none⟩) n c] w fun e w'=>∃x:Nat,e=.returned (.int .u8 (x:Int))/\(∀j,j<n->v j<=x)/\(∃j,j<n/\v j=x)/\w'=w:=by
 have H:=hid (Zz hv h);have c0:=h 0 hn;have hz:¬((n:Int)<1):=by omega
 clear hv h;go_enter func174,ntmps174;go_wp2;go_loopw [3,4] (fun v3 i wr=>∃(k x:Nat),i=.int .i64 k/\1<=k/\k<=n/\v3=.int .u8 (x:Int)/\Hid ((∀j,j<k->v j<=x)/\∃j,j<k/\v j=x)/\wr=w) (fun _ i _=>n-(intOf i).toNat)
 ·exact⟨1,v 0,rfl,le_refl _,hn,rfl,⟨fun j hj=>by rw[show j=0 by omega];exact le_refl _,0,by omega,rfl⟩,rfl⟩
 obtain⟨k,x,rfl,pP,hk,rfl,HX,rfl⟩:=hrel;by_cases av:k<n
 ·have ck:=H.out.2 k av;have hvk:=H.out.1 k av;have HZ:Hid (∀y,(y=x/\v k<=x)\/(y=v k/\x<=v k)->(∀j,j<k+1->v j<=y)/\∃j,j<k+1/\v j=y):=fun y hy=>by
   obtain⟨h1,j0,h2,h3⟩:=HX.out;rcases hy with ⟨rfl,hy⟩|⟨rfl,hy⟩
   ·exact⟨fun j hj=>by by_cases e:j=k;rw[e];exact hy;exact h1 j (by omega),j0,by omega,h3⟩
   exact⟨fun j hj=>by by_cases e:j=k;rw[e];exact le_refl _;exact Nat.le_trans (h1 j (by omega)) hy,k,by omega,rfl⟩
  generalize v k=y at ck hvk HZ;have i1:(k:Int)<n:=by omega
  rcases Nat.le_total y x with My|My
  ·have yt:=hid (HZ.out x (inl ⟨rfl,My⟩));have QX:max (x:Int) (y:Int)=x:=(by omega);have O6:max x y=x:=(by omega);go_wp2;go_roundw
   ·exact⟨k+1,x,by go_num,by omega,by omega,by first|rfl|simp[QX],yt,by first|trivial|rfl⟩
   simp[intOf];omega
  have yt:=hid (HZ.out y (inr ⟨rfl,My⟩));have QX:max (x:Int) (y:Int)=y:=by omega
  have O6:max x y=y:=by omega
  go_wp2;go_roundw
  ·exact⟨k+1,y,by go_num,by omega,by omega,by first|rfl|simp[QX],yt,by first|trivial|rfl⟩
  simp[intOf];omega
 obtain rfl:k=n:=by omega
 go_wp2;go_ret;exact⟨x,rfl,HX.out.1,HX.out.2,rfl⟩
theorem YQ(K:Nat->Lit)(cs:Array Value)(hs:cs.size=256)(hc:∀j,j<256->cs[j]?=some (.int .u8 ((cls K j:Nat):Int)))(w:World):
  Calls prog 155 #[.agg cs] w fun e w'=>e=.returned (.int .i64 ((cH K 256:Nat):Int))/\Below w.heap.size w w':=by
 have fq:∀j,j<256->cls K j<256:=fun j hj=>by have:=PR K j;omega
 have hB:=al w (.cells cs 98);have hS:=St.new w 98 cs;have hM:=hid (Uw (cls K) 256 256 w.heap.size (by omega) (by omega) fq (w.alloc (.cells cs 98)) (fun j hj=>by rw[hS.at_,hc j hj]));have HB:=hid hB;have HT:Hid (∀x,(∀j,j<256->cls K j<=x)->(∃j,j<256/\cls K j=x)->x+1=cH K 256/\x<256):=fun x h1 h2=>by
  obtain⟨b,hb,e⟩:=zne K 256 (by omega);obtain⟨j,hj,rfl⟩:=h2;have:=DB K j 256 hj;have:=h1 b hb;have:=fq j hj;omega
 clear fq hB hS hc;go_enter func155,ntmps155;go_wp2_with fail;refine hM.out.mono ?_;rintro e w2 ⟨x,rfl,h1,h2,rfl⟩;obtain⟨hx,kC⟩:=HT.out x h1 h2;have HX:=hid hx;clear h1 h2 hx;go_wp2;go_ret;exact⟨by rw[<-HX.out];first|rfl|(simp;done),HB.out⟩
theorem GH{P:Program}(w:World)(ad:Addr)(ty:TypeId)(cs:Array Value)(d:TypeDesc)(hc:∀j v,cs.toList[j]?=some v->w.cell? (ad.add j)=some v)
  (hu:P.underlying ty=some d) (hd:(match d with|.struct _|.array _ _=>true|_=>false)=true) (hi:(P.info? ty).map (·.size)=some cs.size):
  (loadVar ty ad).run P w=.ok (.agg cs) w:=by
 have hl:(loadCells ad cs.toList.length).run P w=.ok cs.toList.toArray w:=run_loadCells_list (P:=P) w ad cs.toList hc;cases hq:P.info? ty with
 | none=>simp[hq] at hi
 | some i=>
  have hs:i.size=cs.size:=by simpa [hq] using hi
  have Ch:(isAgg ty).run P w=.ok true w:=by
   unfold isAgg;rw[run_bind,run_underlying hu w];cases d <;> simp_all
  simp only[Array.length_toList,Array.toArray_toList] at hl;simp[loadVar,run_bind,Ch,sizeOf,typeInfo,hq,hs,hl]
theorem rD{P:Program}{rest:List Oper}{o:Oper}{Q:Exit->Act->World->Prop}(pV:o.guard=none)(ty:TypeId)(x:Operand)(ho:o.op=.load ty x)
  (ad:Addr) (hx:a.eval x=.pointer (some ad)) (cs:Array Value) (d:TypeDesc) (hc:∀j v,cs.toList[j]?=some v->w.cell? (ad.add j)=some v)
  (hu:P.underlying ty=some d) (hd:(match d with|.struct _|.array _ _=>true|_=>false)=true) (hi:(P.info? ty).map (·.size)=some cs.size)
  (h:wpList P ops Q rest (a.put o.dst (.agg cs)) w):wpList P ops Q (o :: rest) a w:=
 wpList_plain pV fun _ hK=>by
  unfold Oper.wp execOp
  simp only[ho,hx,Instr.loadAt,Instr.sureAddr,run_bind,run_pure,Result.andThen_ok,GH w ad ty cs d hc hu hd hi]
  exact hK _ _ h
noncomputable def rl (K:Nat->Lit):Nat->List Nat
 | 0=>[]
 | k+1=>if cls K k=(rl K k).length then rl K k++[k] else rl K k
theorem yO(K:Nat->Lit)(k:Nat):(rl K k).length=cH K k:=by
 induction k with
 | zero=>rfl
 | succ k ih=>
  rw[rl,cH,ih];by_cases e:fst K k=k
  ·have:cls K k=cH K k:=(by unfold cls;rw[e]);rw[if_pos this,if_pos e];simp[ih]
  have h1:=(xO K k).1;have h2:cls K k+1<=cH K k:=by
   have h3:fst K k<k:=(by omega);have:=DB K (fst K k) k h3;unfold cls at this⊢;rwa [JC] at this
  rw[if_neg (by omega),if_neg e,ih];omega
theorem VF(K:Nat->Lit)(k:Nat):∀c (h:c<(rl K k).length),cls K (rl K k)[c]=c/\(rl K k)[c]<k:=by
 induction k with
 | zero=>intro c h;simp[rl] at h
 | succ k ih=>
  intro c h;by_cases e:cls K k=(rl K k).length
  ·have er:rl K (k+1)=rl K k++[k]:=(by rw[rl,if_pos e]);simp only[er] at h⊢;by_cases hc:c<(rl K k).length
   ·rw[getElem_append_left hc];have:=ih c hc;omega
   rw[length_append] at h;have:c=(rl K k).length:=(by simp at h;omega);subst this;rw[List.getElem_append_right (le_refl _)];simp[e]
  have er:rl K (k+1)=rl K k:=by rw[rl,if_neg e]
  simp only[er] at h⊢;have:=ih c h;omega
structure Gi (w:World)(B bn:Nat)(K:Nat->Lit)(cs:Array Value):Prop where
 fU:bn<B
 sz:cs.size=256
 val:∀j,j<256->cs[j]?=some (.int .u8 ((cls K j:Nat):Int))
 at_:∀j v,cs.toList[j]?=some v->w.cell? ((⟨bn,0,none⟩:Addr).add j)=some v
theorem OQ{P:Program}(t e:TypeId)(n:Nat)(cs:Array Value)(i:Nat)(v:Value)(h:P.underlying t=some (.array n e))(hi:i<n)(hs:(P.info? e).map (·.size)=some 1)(hd:∃d,P.underlying e=some d/\(match d with|.struct _|.array _ _=>true|_=>false)=false)(hv:cs[i]?=some v)(w:World):
  (Instr.index t (.agg cs) (.int .i64 (i:Int))).run P w=.ok v w:=by
 obtain⟨d,hd1,hd2⟩:=hd;cases hq:P.info? e with
 | none=>simp[hq] at hs
 | some inf=>
  have lp:inf.size=1:=by simpa [hq] using hs
  have Ch:(isAgg e).run P w=.ok false w:=by
   unfold isAgg;rw[run_bind,run_underlying hd1 w];cases d <;> simp_all
  have h1:(0:Int)<=i/\(i:Int)<n:=by omega
  simp[Instr.index,asIntOf,run_underlying h,h1,sizeOf,typeInfo,hq,lp,part,Ch,hv];intro hni;omega
def XZ(K:Nat->Lit)(w:World)(e:Ending)(w':World):Prop:=
 ∃(a:Option Addr) (c:Nat),e=.returned (.slice a (cH K 256) c)/\w'.ownsRow w.heap.size 5 1 (.slice a (cH K 256) c) (cH K 256) (iq (rl K 256))/\Below w.heap.size w w'
theorem Zh(K:Nat->Lit)(B bn:Nat)(cs:Array Value)(w:World)(h:Gi w B bn K cs):Calls prog 169 #[.pointer (some ⟨bn,0,none⟩)] w (XZ K w):=by
 have H:=hid h;have eG:(prog.info? 98).map (·.size)=some cs.size:=by rw[h.sz];kernel_rfl
 obtain⟨i0,hi,dF,cY,cO⟩:=info_parts jr;clear h;go_enter func169,ntmps169;go_wp2_with (refine rD rfl 98 _ rfl ⟨bn,0,none⟩ rfl cs (.array 256 5) H.out.at_ underlying98 rfl eG ?_);go_loopw [3,4,5,10] (fun v3 _ _ v wr=>∃(k q:Nat) (a:Option Addr) (c:Nat),v=.int .i64 k/\k<=256/\q<=256/\v3=.slice a q c/\Hid ((rl K k).length=q/\wr.ownsRow w.heap.size 5 1 (.slice a q c) q (iq (rl K k))/\Below w.heap.size w wr)) (fun _ _ _ v _=>256-(intOf v).toNat)
 ·exact⟨0,0,none,0,rfl,zero_le _,zero_le _,rfl,rfl,World.ownsRow_nil _ _ _ _,Below.refl _ _⟩
 obtain⟨k,q,a,c,rfl,hk,hq,rfl,HA⟩:=hrel;by_cases av:k<256
 ·have hv:=H.out.val k av;have dp:=H.out.sz;have Ex:(k:Int)<256:=by omega
  have Dj:=OQ 98 5 256 cs k _ underlying98 av (by kernel_rfl) ⟨_,underlying5,rfl⟩ hv wr;have fq:cls K k<=k:=PR K k;have hle:q<=k:=by rw[<-HA.out.1,yO];exact JF K k
  by_cases hc:cls K k=q
  ·have HZ:Hid (rl K (k+1)=rl K k++[k]/\(rl K (k+1)).length=q+1):=by
    have e:rl K (k+1)=rl K k++[k]:=(by rw[rl,if_pos (by rw[HA.out.1];exact hc)]);exact⟨e,by rw[e,length_append,HA.out.1];rfl⟩
   generalize cls K k=x at hv fq hc Dj;subst hc;have hO:=HA.out.2.1;have hB:=HA.out.2.2;have Il:=hB.size;go_wp2_with (at_builtin;refine wpList_append_own _ rfl _ _ 76 rfl w.heap.size 5 i0 (.int .u8 0) 1 1 underlying76 hi dF cY cO rfl (by decide) _ _ _ rfl (hO.alloc _) ⟨wr.heap.size,0,none⟩ 1 1 [.int .u8 (k:Int)] rfl rfl (cell_one_new _ _ _) ?d2 ?d3 ?d4 ?d5 ?_)
   case d2=>intro u hu;simp at hu;subst hu;rfl
   case d3=>unfold maxLen;omega
   case d4=>omega
   case d5=>simp;omega
   intro v' w5 an aj _;obtain⟨a5,c5,rfl⟩:=bE an;have kA:=fA (hB.trans ((al wr (.cells #[.int .u8 (k:Int)] 5)).mono Il)) (hO.alloc _) (by simp;omega) aj;have HF:Hid ((rl K (k+1)).length=x+1/\w5.ownsRow w.heap.size 5 1 (.slice a5 (x+1) c5) (x+1) (iq (rl K (k+1)))/\Below w.heap.size w w5):=by
    refine⟨HZ.out.2,?_,kA⟩;rw[HZ.out.1,zk0];exact an
   clear an aj kA hO hB HA;go_wp2;go_roundw
   ·exact⟨k+1,x+1,a5,c5,by go_num,by omega,by omega,rfl,HF⟩
   simp[intOf];omega
  have HZ:Hid (rl K (k+1)=rl K k):=by
   show _=_;rw[rl,if_neg (by rw[HA.out.1];exact hc)]
  generalize cls K k=x at hv fq hc Dj;have iQ:¬((x:Int)=q):=by omega
  go_wp2;go_roundw
  ·exact⟨k+1,q,a,c,by go_num,by omega,hq,rfl,by rw[HZ.out];exact HA⟩
  simp[intOf];omega
 obtain rfl:k=256:=by omega
 have HF:Hid (XZ K w (.returned (.slice a q c)) wr):=by
  have e:=HA.out.1;rw[yO] at e;subst e;exact⟨a,c,rfl,HA.out.2.1,HA.out.2.2⟩
 go_wp2;go_ret;exact HF.out
theorem gG.grown{row:Option Nat}(h:gG V B bs bm gI m cs P l vL wr)(hg:wr.grownBy w1 row)(hr:∀g,row=some g->g∈bs\/V.heap.size<=g)(hB:∀g,row=some g->B<=g)
  (h1:some bm≠row) (h2:some gI≠row) (h3:∀b,vL.ownBlock=some b->some b≠row):gG V B bs bm gI m cs P l vL w1:=
 ⟨h.kept.grown hg (fun g e=>(hr g e).elim inl (fun x=>inr (inl x))),h.below.grown hg h.hB hB,h.sm.grown hg h1,h.sz,h.cI,qc h.kt hg (fun g e=>by simp only[Value.ownBlock] at e;rw[<-e];exact h2),qc h.ca hg h3,h.loc,h.jn,h.lo⟩
theorem zkw(cs:Array Value)(i:Nat)(hi:i≠262)(u v:Value):(cs.setIfInBounds 262 v).setIfInBounds i u=(cs.setIfInBounds i u).setIfInBounds 262 v:=by
 apply Array.ext_getElem?;intro j;simp only[Array.getElem?_setIfInBounds,Array.size_setIfInBounds];by_cases h1:i=j <;> by_cases h2:262=j <;> simp[h1,h2]
 omega
theorem gG.wN(h:gG V B bs bm gI m cs P l vL wr)(i:Nat)(h1:i≠261)(h2:i≠262)(u:Value):gG V B bs bm gI m (cs.setIfInBounds i u) P l vL (wr.setCell ⟨bm,i,none⟩ u):=by
 refine⟨h.kept.setCell _ _ (inl h.jn.1),h.below.setCell (p:=⟨bm,i,none⟩) h.lo.1 _,?_,by rw[Array.size_setIfInBounds];exact h.sz,by rw[getElem?_setIfInBounds_ne h1];exact h.cI,ju h.kt h.sm (by decide) _ _,ju h.ca h.sm (by decide) _ _,h.loc,h.jn,h.lo⟩;have:=h.sm.set i u;rwa [zkw cs i h2 u vL] at this
theorem gG.other(h:gG V B bs bm gI m cs P l vL wr)(i:Nat)(hi:i≠262):wr.cell? ⟨bm,i,none⟩=cs[i]?:=by
 rw[h.sm.at_,getElem?_setIfInBounds_ne (fun e=>hi e.symm)]
theorem ij.grown{row:Option Nat}(h:ij V B bs bm gI m M cs l vL wr)(hg:wr.grownBy w1 row)(hr:∀g,row=some g->g∈bs\/V.heap.size<=g)(hB:∀g,row=some g->B<=g)
  (h1:some bm≠row) (h2:some gI≠row) (h3:∀b,vL.ownBlock=some b->some b≠row):ij V B bs bm gI m M cs l vL w1:=⟨h.r.grown hg hr hB h1 h2 h3,h.nd,h.lt⟩
theorem ij.wN(h:ij V B bs bm gI m M cs l vL wr)(i:Nat)(h1:i≠261)(h2:i≠262)(u:Value):ij V B bs bm gI m M (cs.setIfInBounds i u) l vL (wr.setCell ⟨bm,i,none⟩ u):=⟨h.r.wN i h1 h2 u,h.nd,h.lt⟩
def strs(l:List ByteArray):List Value:=l.map fun s=>.string s
def ints(l:List Int):List Value:=l.map fun x=>.int .i64 x
theorem oO:(prog.info? 9).map (fun i=>(i.zero,i.size,i.bytes))=some (some (.string ⟨#[]⟩),1,16):=by kernel_rfl
theorem De:Keyed prog 9:=string_keyed underlying9
structure lq (V:World)(B:Nat)(bs:List Nat)(bM:Nat)(cs:Array Value)(vL:Value)(k q n:Nat)(ss:List ByteArray)(ms:List Int)(Q:Value->Value->Prop)(vS vK:Value)(wr:World):Prop where
 cK:cs[258]?=some vK
 cS:cs[259]?=some vS
 cM:cs[260]?=some (.map (some bM))
 os:wr.ownsRow B 9 1 vS k (strs ss)
 ok:wr.ownsRow B 3 1 vK q (ints ms)
 map:aD wr 9 bM n Q
 sep:∀b,vL.ownBlock=some b->vK.ownBlock≠some b
 lS:∀b,vS.ownBlock=some b->b∈bs\/V.heap.size<=b
 lK:∀b,vK.ownBlock=some b->b∈bs\/V.heap.size<=b
 lM:bM∈bs/\B<=bM
theorem lq.aa{Q:Value->Value->Prop}(h:lq V B bs bM cs vL k q n ss ms Q vS vK wr)(b:Below wr.heap.size wr w1):lq V B bs bM cs vL k q n ss ms Q vS vK w1:=
 ⟨h.cK,h.cS,h.cM,dr h.os b,dr h.ok b,h.map.same (b.block _ h.map.lt),h.sep,h.lS,h.lK,h.lM⟩
def JG(V:World)(B:Nat)(bs:List Nat)(bm gI m M bM:Nat)(cs:Array Value)(l:List Nat)(vL:Value)(k n:Nat)(ss:List ByteArray)(ms:List Int)(Q':Value->Value->Prop)(s:ByteArray)(mk:Nat->Int)(e:Ending)(w':World):Prop:=
 ∃(r:Int) (vS' vK':Value),e=.returned (.int .i64 (k:Int))/\bD mk (fun x=>x∈l) r/\ij V B bs bm gI m M ((cs.setIfInBounds 259 vS').setIfInBounds 258 vK') l vL w'/\
  lq V B bs bM ((cs.setIfInBounds 259 vS').setIfInBounds 258 vK') vL (k+1) (k+1) (n+1) (ss++[s]) (ms++[r]) Q' vS' vK' w'
theorem Bf{b g:Nat}{Q:Value->Value->Prop}(hm:aD w k b n Q)(h:St w t g cs):g≠b:=by
 rintro rfl;obtain⟨es,clock,hb,_⟩:=hm;have h1:w.heap[g]?=_:=h;rw[h1] at hb;cases hb
theorem wF{b size:Nat}{v:Value}{xs:List Value}{Q:Value->Value->Prop}(hm:aD w k b n Q)(h:w.ownsRow B t size v q xs):∀g,v.ownBlock=some g->g≠b:=by
 rintro g e rfl;obtain⟨c,fz,hc⟩:=pG h g e;obtain⟨es,clock,hb,_⟩:=hm;rw[hc] at hb;cases hb
theorem zn9{vS':Value}{Q:Value->Value->Prop}{s:ByteArray}
  (h:ij V B bs bm gI m M cs l vL W) (t:lq V B bs bM cs vL k q n ss ms Q vS vK W) (ho:w5.ownsRow B 9 1 vS' (k+1) (strs ss++[.string s])) (hg:W.grownBy w5 vS.ownBlock) (eu:vS'.ownBlock=vS.ownBlock\/vS'.ownBlock=some W.heap.size):
  ij V B bs bm gI m M (cs.setIfInBounds 259 vS') l vL (w5.setCell ⟨bm,259,none⟩ vS')/\lq V B bs bM (cs.setIfInBounds 259 vS') vL (k+1) q n (ss++[s]) ms Q vS' vK (w5.setCell ⟨bm,259,none⟩ vS'):=by
 have h5:=h.grown hg t.lS (jZ t.os) (fun e=>dH t.os h.r.sm (by decide) bm e.symm rfl) (fun e=>gH t.os h.r.kt (by decide) gI e.symm rfl) (fun b e1 e2=>gH h.r.ca t.os (by decide) b e1 e2.symm);have lu:=h5.r.sm;refine⟨h5.wN 259 (by decide) (by decide) vS',by rw[getElem?_setIfInBounds_ne (by decide)];exact t.cK,by rw[Array.getElem?_setIfInBounds_self_of_lt (by rw[h.r.sz];decide)],by rw[getElem?_setIfInBounds_ne (by decide)];exact t.cM,?_,
  ju (tw t.ok t.os (by decide) hg) lu (by decide) _ _,(t.map.af t.os hg).set lu,t.sep,?_,t.lK,t.lM⟩
 ·rw[show strs (ss++[s])=strs ss++[.string s] by simp[strs]];exact ju ho lu (by decide) _ _
 intro b e1;rcases eu with h1|h1
 ·exact t.lS b (by rw[<-h1];exact e1)
 rw[h1] at e1;injection e1 with e1;exact inr (by rw[<-e1];exact h.r.below.size)
theorem OI{vK':Value}{Q:Value->Value->Prop}{r:Int}
  (h:ij V B bs bm gI m M cs l vL W) (t:lq V B bs bM cs vL k q n ss ms Q vS vK W) (ho:w5.ownsRow B 3 1 vK' (q+1) (ints ms++[.int .i64 r])) (hg:W.grownBy w5 vK.ownBlock) (eu:vK'.ownBlock=vK.ownBlock\/vK'.ownBlock=some W.heap.size):
  ij V B bs bm gI m M (cs.setIfInBounds 258 vK') l vL (w5.setCell ⟨bm,258,none⟩ vK')/\lq V B bs bM (cs.setIfInBounds 258 vK') vL k (q+1) n ss (ms++[r]) Q vS vK' (w5.setCell ⟨bm,258,none⟩ vK'):=by
 have h5:=h.grown hg t.lK (jZ t.ok) (fun e=>dH t.ok h.r.sm (by decide) bm e.symm rfl) (fun e=>gH t.ok h.r.kt (by decide) gI e.symm rfl) (fun b e1 e2=>t.sep b e1 e2.symm);have lu:=h5.r.sm;refine⟨h5.wN 258 (by decide) (by decide) vK',by rw[Array.getElem?_setIfInBounds_self_of_lt (by rw[h.r.sz];decide)],by rw[getElem?_setIfInBounds_ne (by decide)];exact t.cS,by rw[getElem?_setIfInBounds_ne (by decide)];exact t.cM,
  ju (tw t.os t.ok (by decide) hg) lu (by decide) _ _,?_,(t.map.af t.ok hg).set lu,fun b e1 e2=>?_,t.lS,?_,t.lM⟩
 ·rw[show ints (ms++[r])=ints ms++[.int .i64 r] by simp[ints]];exact ju ho lu (by decide) _ _
 ·rcases eu with h1|h1
  ·exact t.sep b e1 (by rw[<-h1];exact e2)
  rw[h1] at e2;injection e2 with e2;obtain⟨c,fz,hc⟩:=pG h.r.ca b e1;have:=(Array.getElem?_eq_some_iff.1 hc).1;omega
 intro b e1;rcases eu with h1|h1
 ·exact t.lK b (by rw[<-h1];exact e1)
 rw[h1] at e1;injection e1 with e1;exact inr (by rw[<-e1];exact h.r.below.size)
theorem VX{n':Nat}{Q Q':Value->Value->Prop}
  (h:ij V B bs bm gI m M cs l vL W) (t:lq V B bs bM cs vL k q n ss ms Q vS vK W) (hm:aD w5 9 bM n' Q') (hg:W.grownBy w5 (some bM)):
  ij V B bs bm gI m M cs l vL w5/\lq V B bs bM cs vL k q n' ss ms Q' vS vK w5:=by
 have nG:=t.map;have h5:=h.grown hg (fun g e=>by injection e with e;rw[<-e];exact inl t.lM.1) (fun g e=>by injection e with e;rw[<-e];exact t.lM.2) (fun e=>by injection e with e;exact Bf nG h.r.sm e) (fun e=>by injection e with e;exact wF nG h.r.kt gI rfl e) (fun b e1 e2=>by injection e2 with e2;exact wF nG h.r.ca b e1 e2);exact⟨h5,t.cK,t.cS,t.cM,yi t.os nG.of hg,yi t.ok nG.of hg,hm,t.sep,t.lS,t.lK,t.lM⟩
theorem zkx(f t:Nat):dc (bx f t).z=[.int .i64 (f:Int),.int .i64 (t:Int),.int .u64 0,.int .u64 0,.int .u64 0,.int .u64 0,.bool true]:=by
 simp[dc,En.z,bx,zg]
theorem ue(f t:Nat)(w:World):Calls prog 167 #[.int .i64 (f:Int),.int .i64 (t:Int)] w fun e w'=>e=.returned (.agg #[.int .i64 (f:Int),.int .i64 (t:Int),.int .u64 0,.int .u64 0,.int .u64 0,.int .u64 0,.bool true])/\Below w.heap.size w w':=by
 have HB:=hid ((Below.refl w.heap.size w).alloc (le_refl _) (.cells #[.int .i64 (f:Int),.int .i64 (t:Int),.int .u64 0,.int .u64 0,.int .u64 0,.int .u64 0,.bool true] 186));have HS:=hid (St.new w 186 #[.int .i64 (f:Int),.int .i64 (t:Int),.int .u64 0,.int .u64 0,.int .u64 0,.int .u64 0,.bool true]);go_enter func167,ntmps167;go_wp2_with fail;generalize w.alloc (.cells #[.int .i64 (f:Int),.int .i64 (t:Int),.int .u64 0,.int .u64 0,.int .u64 0,.int .u64 0,.bool true] 186)=W at HB HS⊢;obtain⟨v0,v1,v2,v3,v4,v5,v6⟩:=SY HS.out;exact bodyPost_ret (v:=.agg #[.int .i64 (f:Int),.int .i64 (t:Int),.int .u64 0,.int .u64 0,.int .u64 0,.int .u64 0,.bool true]) (by simp[results,results167,go_sem,v0,v1,v2,v3,v4,v5,v6]) rfl ⟨rfl,HB.out⟩
theorem wB{P:Program}{o:Oper}{K:Act->World->Prop}{Q:Exit->Act->World->Prop}{E:Prop}(pV:o.guard=none)(s x:Operand)(t:TypeId)
  (ho:o.op=.call { callee:=.builtin .append,args:=#[s,x],argTypes:=#[t,t] })
  (base:Nat) (e:TypeId) (i:TypeInfo) (z:Value) (size bytes:Nat) (ht:P.underlying t=some (.slice e)) (hi:P.info? e=some i) (hz:i.zero=some z)
  (qt:i.size=size) (Gq:i.bytes=bytes) (Fk:z.cells.size=size) (dp:0<size)
  (v:Value) (n:Nat) (xs:List Value) (hs:a.eval s=v) (aQ:w.ownsRow base e size v n xs)
  (ad:Addr) (m c:Nat) (news:List Value) (hx:a.eval x=.slice (some ad) m c) (hl:news.length=m*size) (qC:∀j u,news[j]?=some u->w.cell? (ad.add j)=some u) (h1:∀u∈news,u.oneCell'=true)
  (Jf:n+m<=maxLen) (jO:(n+m)*bytes<=140737488355328) (qG:base<=w.heap.size)
  (h:∀v' w',w'.ownsRow base e size v' (n+m) (xs++news)->w.grownBy w' v.ownBlock->K (a.put o.dst v') w'):
  if wanted o (yielded ops a.tmps)=true then Oper.wp P o a w K Q else E:=by
 have hw:wanted o (yielded ops a.tmps)=true:=by simp[wanted,pV]
 rw[if_pos hw];obtain⟨v',w',hr,h2,h3,_,_⟩:=run_append_own_at (P:=P) w base t o.type e i z size bytes ht hi hz qt Gq Fk dp v n xs aQ ad m c news hl qC h1 Jf jO qG;unfold Oper.wp execOp;simp only[ho,resolve,invoke,builtin,run_bind,run_pure,Result.andThen_ok,List.map_toArray,map_cons,map_nil,hs,hx,hr];exact h v' w' h2 h3
theorem Nf{P:Program}{o:Oper}{K:Act->World->Prop}{Q:Exit->Act->World->Prop}{E:Prop}(pV:o.guard=none)(s x:Operand)(t:TypeId)
  (ho:o.op=.call { callee:=.builtin .append,args:=#[s,x],argTypes:=#[t,t] })
  (base:Nat) (e:TypeId) (i:TypeInfo) (z:Value) (size bytes:Nat) (ht:P.underlying t=some (.slice e)) (hi:P.info? e=some i) (hz:i.zero=some z)
  (qt:i.size=size) (Gq:i.bytes=bytes) (Fk:z.cells.size=size) (dp:0<size)
  (v:Value) (n:Nat) (xs:List Value) (hs:a.eval s=v) (aQ:w.ownsRow base e size v n xs)
  (ad:Addr) (m c:Nat) (news:List Value) (hx:a.eval x=.slice (some ad) m c) (hl:news.length=m*size) (qC:∀j u,news[j]?=some u->w.cell? (ad.add j)=some u) (h1:∀u∈news,u.oneCell'=true)
  (Jf:n+m<=maxLen) (jO:(n+m)*bytes<=140737488355328) (qG:base<=w.heap.size)
  (h:∀v' w',w'.ownsRow base e size v' (n+m) (xs++news)->w.grownBy w' v.ownBlock->(v'.ownBlock=v.ownBlock\/v'.ownBlock=some w.heap.size)->K (a.put o.dst v') w'):
  if wanted o (yielded ops a.tmps)=true then Oper.wp P o a w K Q else E:=by
 have hw:wanted o (yielded ops a.tmps)=true:=by simp[wanted,pV]
 rw[if_pos hw];obtain⟨v',w',hr,h2,h3,_,h4⟩:=run_append_own_at (P:=P) w base t o.type e i z size bytes ht hi hz qt Gq Fk dp v n xs aQ ad m c news hl qC h1 Jf jO qG;unfold Oper.wp execOp;simp only[ho,resolve,invoke,builtin,run_bind,run_pure,Result.andThen_ok,List.map_toArray,map_cons,map_nil,hs,hx,hr];exact h v' w' h2 h3 h4
theorem zmp(V:World)(B:Nat)(bs:List Nat)(bm gI m M bM bn gM cM:Nat)(cs:Array Value)(mk:Nat->Int)(HV:kr V B bn gM M cM mk)(iP:∀i,i<M->-1<=mk i)(o0:cs[0]?=some (.pointer (some ⟨bn,0,none⟩)))(hM:M<=100000)
  (l:List Nat) (vL vS vK:Value) (k n:Nat) (ss:List ByteArray) (ms:List Int) (Q Q':Value->Value->Prop) (s:ByteArray) (hs:s.size<=100000) (hk:k<=1000000) (hn:n<=1000000) (iG:∀y,¬Q (.string s) y) (Tj:∀x y,Q x y->Q' x y) (XL:Q' (.string s) (.int .i64 (k:Int))) (Sr:∀x y,Q' x y->x≠.string s->∃y',Q x y')
  (wr:World) (h:ij V B bs bm gI m M cs l vL wr) (t:lq V B bs bM cs vL k k n ss ms Q vS vK wr):
  Calls prog 154 #[.pointer (some ⟨bm,0,none⟩),.string s] wr (JG V B bs bm gI m M bM cs l vL k n ss ms Q' s mk):=by
 obtain⟨aS,cS,rfl⟩:=bE t.os;obtain⟨aK,cK,rfl⟩:=bE t.ok;have c1:wr.cell? ⟨bm,259,none⟩=some (.slice aS k cS):=(h.r.other 259 (by decide)).trans t.cS;obtain⟨kl,hkl⟩:∃kl,keyOf prog 9 (.string s)=some kl:=⟨_,Go.WideMaps.keyOf_string_mk underlying9 (by unfold maxLen;omega)⟩
 have HH:=hid (Zz h t);have Ow:=hid (Zz HV (Zz iP o0));have HQ:=hid (Zz Tj (Zz XL (Zz Sr iG)));obtain⟨i0,hi,dF,cY,cO⟩:=info_parts az;obtain⟨i1,Ex,NS,PO,AU⟩:=info_parts oO;have hO:=t.os;have lJ:=h.r.hB;clear h t HV iP o0 Tj XL Sr iG;go_enter func154,ntmps154;go_wp2_with (at_builtin;refine wpList_append_own_at _ rfl _ _ 23 rfl B 9 i1 (.string ⟨#[]⟩) 1 16 underlying23 Ex NS PO AU rfl (by decide) _ _ _ rfl (hO.alloc _) ⟨wr.heap.size,0,none⟩ 1 1 [.string s] rfl rfl (cell_one_new _ _ _) ?d2 ?d3 ?d4 ?d5 ?_)
 case d2=>intro u hu;simp at hu;subst hu;rfl
 case d3=>unfold maxLen;omega
 case d4=>omega
 case d5=>simp;omega
 intro v' w5 an aj _ bw;obtain⟨a5,c5,rfl⟩:=bE an;have Ii:=al wr (.cells #[.string s] 9);have nL:=zn9 (HH.out.1.aa Ii) (HH.out.2.aa Ii) (s:=s) (vS':=.slice a5 (k+1) c5) an aj (by rw[show (wr.alloc (.cells #[.string s] 9)).heap.size=wr.heap.size+1 by simp];exact bw);have Cz:St w5 168 bm _:=(HH.out.1.aa Ii).r.sm.af (HH.out.2.aa Ii).os (by decide) aj;have p1:w5.cell? ⟨bm,259,none⟩=some (.slice aS k cS):=by rw[Cz.at_,getElem?_setIfInBounds_ne (by decide)];exact HH.out.2.cS
 have pf:=Cz.aX 259;have HS:=hid nL;have IA:=nL.2.map;have q1:(w5.setCell ⟨bm,259,none⟩ (.slice a5 (k+1) c5)).cell? ⟨bm,260,none⟩=some (.map (some bM)):=(nL.1.r.other 260 (by decide)).trans nL.2.cM;clear an aj bw Ii nL Cz hO;go_wp2_with (at_mapUpdate;refine Y9 _ rfl _ _ _ 166 rfl 9 3 De underlying166 bM n Q Q' rfl IA (by unfold maxLen;omega) _ _ kl rfl rfl hkl HQ.out.2.2.2 HQ.out.1 HQ.out.2.1 HQ.out.2.2.1 ?_);intro w6 vg fR;have iD:=VX HS.out.1 HS.out.2 vg fR;clear vg fR IA q1 p1 pf HS;have hY:Hid (ij V B bs bm gI m M (cs.setIfInBounds 259 (.slice a5 (k+1) c5)) l vL w6.drew/\lq V B bs bM (cs.setIfInBounds 259 (.slice a5 (k+1) c5)) vL (k+1) k (n+1) (ss++[s]) ms Q' (.slice a5 (k+1) c5) (.slice aK k cK) w6.drew):=
  ⟨iD.1.aa (Below.refl w6.heap.size w6).drew,iD.2.aa (Below.refl w6.heap.size w6).drew⟩
 clear iD;generalize w6=W3 at hY⊢;have e3:W3.drew.cell? ⟨bm,258,none⟩=some (.slice aK k cK):=(hY.out.1.r.other 258 (by decide)).trans hY.out.2.cK;have EM:=hid (zfs V B bs bm gI m M bn gM cM (cs.setIfInBounds 259 (.slice a5 (k+1) c5)) mk Ow.out.1 Ow.out.2.1 (by rw[getElem?_setIfInBounds_ne (by decide)];exact Ow.out.2.2) hM l vL W3.drew hY.out.1);go_wp2_with fail;refine wp_region_held_drew (S:=fun _=>True) (by kernel_rfl) trivial (fun hHeld=>?_)
 (refine ak 0 ?_;refine ak 1 ?_;refine ak 2 ?_;try simp only[put,sA,sB,sC];refine ak 3 ?_;refine ak 4 ?_;refine ak 6 ?_;try simp only[put,sA,sB,sC])
 refine wpAnyH_ready (rs:=[5,7]) (by kernel_rfl) (by simp) ?_;refine ik (fun K hK=>?_) ?_
 ·skip;go_simp;refine hK.out _ _ trivial (fun hHeld=>?_);clear hK K
  try simp only[put,sA,sB,sC]
  refine bc 7 (fun K hK=>?_);skip;go_simp;go_at_call 173;refine EM.out.mono ?_;rintro e w5 ⟨r,rfl,hr,rfl⟩;have HR:=hid hr;clear hr
  try go_wp2_with fail
  refine hK.out _ _ trivial (fun hHeld=>?_);clear hK K
  try simp only[put,sA,sB,sC]
  refine bc 8 (fun K hK=>?_);skip;go_simp;have tf:=hid (hY.out.1.aa (al W3.drew (.cells #[.int .i64 r] 3)));have pg:=hid (hY.out.2.aa (al W3.drew (.cells #[.int .i64 r] 3)));have e6:(W3.alloc (.cells #[.int .i64 r] 3)).cell? ⟨bm,258,none⟩=some (.slice aK k cK):=(tf.out.r.other 258 (by decide)).trans pg.out.cK;refine hK.out _ _ trivial (fun hHeld=>?_);clear hK K
  try simp only[put,sA,sB,sC]
  refine bc 9 (fun K hK=>?_);skip;skip;refine Nf (by rfl) _ _ _ (by rfl) B 3 i0 (.int .i64 0) 1 8 underlying43 hi dF cY cO (by rfl) (by decide) _ k (ints ms) (by rfl) pg.out.ok ⟨W3.heap.size,0,none⟩ 1 1 (#[.int .i64 r]).toList (by rfl) (by rfl) (World.news_of_block (cs:=#[.int .i64 r]) (t:=3) (fr:=(0,0)) (heap_alloc_new W3.drew _)) (by simp[Value.oneCell']) (by unfold maxLen;omega) (by omega) tf.out.r.hB ?_;intro v6 w6 aq ag cj;obtain⟨a6,c6,rfl⟩:=bE aq;have iP:=OI tf.out pg.out (r:=r) (vK':=.slice a6 (k+1) c6) aq ag cj;have mz:St w6 168 bm _:=tf.out.r.sm.af pg.out.ok (by decide) ag;have t3:w6.cell? ⟨bm,258,none⟩=some (.slice aK k cK):=by rw[mz.at_,getElem?_setIfInBounds_ne (by decide)];exact pg.out.cK
  have f3:=mz.aX 258;have HF:Hid (JG V B bs bm gI m M bM cs l vL k n ss ms Q' s mk (.returned (.int .i64 (k:Int))) (w6.setCell ⟨bm,258,none⟩ (.slice a6 (k+1) c6))):=⟨r,_,_,rfl,HR.out,iP.1,iP.2⟩
  refine hK.out _ _ trivial (fun hHeld=>?_);clear hK K aq ag cj iP mz
  try simp only[put,sA,sB,sC]
  (refine ak 10 ?_;refine ak 11 ?_;refine ak 12 ?_;try simp only[put,sA,sB,sC])
  refine bc 13 (fun K hK=>?_);skip;go_simp;refine hK.out _ _ trivial (fun hHeld=>?_);clear hK K
  try simp only[put,sA,sB,sC]
  refine wpAnyH_done (by kernel_rfl) ?_ _;clear hHeld;go_wp2;go_ret;exact HF.out
 refine ik (fun K hK=>?_) ?_
 ·skip;go_simp;go_at_call 173;refine EM.out.mono ?_;rintro e w5 ⟨r,rfl,hr,rfl⟩;have HR:=hid hr;clear hr
  try go_wp2_with fail
  refine hK.out _ _ trivial (fun hHeld=>?_);clear hK K
  try simp only[put,sA,sB,sC]
  refine wpAnyH_ready (rs:=[5,8]) (by kernel_rfl) (by simp) ?_;refine ik (fun K hK=>?_) ?_
  ·skip;go_simp;refine hK.out _ _ trivial (fun hHeld=>?_);clear hK K
   try simp only[put,sA,sB,sC]
   refine bc 8 (fun K hK=>?_);skip;go_simp;have tf:=hid (hY.out.1.aa (al W3.drew (.cells #[.int .i64 r] 3)));have pg:=hid (hY.out.2.aa (al W3.drew (.cells #[.int .i64 r] 3)));have e6:(W3.alloc (.cells #[.int .i64 r] 3)).cell? ⟨bm,258,none⟩=some (.slice aK k cK):=(tf.out.r.other 258 (by decide)).trans pg.out.cK;refine hK.out _ _ trivial (fun hHeld=>?_);clear hK K
   try simp only[put,sA,sB,sC]
   refine bc 9 (fun K hK=>?_);skip;skip;refine Nf (by rfl) _ _ _ (by rfl) B 3 i0 (.int .i64 0) 1 8 underlying43 hi dF cY cO (by rfl) (by decide) _ k (ints ms) (by rfl) pg.out.ok ⟨W3.heap.size,0,none⟩ 1 1 (#[.int .i64 r]).toList (by rfl) (by rfl) (World.news_of_block (cs:=#[.int .i64 r]) (t:=3) (fr:=(0,0)) (heap_alloc_new W3.drew _)) (by simp[Value.oneCell']) (by unfold maxLen;omega) (by omega) tf.out.r.hB ?_;intro v6 w6 aq ag cj;obtain⟨a6,c6,rfl⟩:=bE aq;have iP:=OI tf.out pg.out (r:=r) (vK':=.slice a6 (k+1) c6) aq ag cj;have mz:St w6 168 bm _:=tf.out.r.sm.af pg.out.ok (by decide) ag;have t3:w6.cell? ⟨bm,258,none⟩=some (.slice aK k cK):=(by rw[mz.at_,getElem?_setIfInBounds_ne (by decide)];exact pg.out.cK);have f3:=mz.aX 258;have HF:Hid (JG V B bs bm gI m M bM cs l vL k n ss ms Q' s mk (.returned (.int .i64 (k:Int))) (w6.setCell ⟨bm,258,none⟩ (.slice a6 (k+1) c6))):=(⟨r,_,_,rfl,HR.out,iP.1,iP.2⟩);refine hK.out _ _ trivial (fun hHeld=>?_);clear hK K aq ag cj iP mz
   try simp only[put,sA,sB,sC]
   (refine ak 10 ?_;refine ak 11 ?_;refine ak 12 ?_;try simp only[put,sA,sB,sC])
   refine bc 13 (fun K hK=>?_);skip;go_simp;refine hK.out _ _ trivial (fun hHeld=>?_);clear hK K
   try simp only[put,sA,sB,sC]
   refine wpAnyH_done (by kernel_rfl) ?_ _;clear hHeld;go_wp2;go_ret;exact HF.out
  refine ik (fun K hK=>?_) ?_
  ·skip;go_simp;have tf:=hid (hY.out.1.aa (al W3.drew (.cells #[.int .i64 r] 3)));have pg:=hid (hY.out.2.aa (al W3.drew (.cells #[.int .i64 r] 3)));have e6:(W3.alloc (.cells #[.int .i64 r] 3)).cell? ⟨bm,258,none⟩=some (.slice aK k cK):=(tf.out.r.other 258 (by decide)).trans pg.out.cK;refine hK.out _ _ trivial (fun hHeld=>?_);clear hK K
   try simp only[put,sA,sB,sC]
   refine bc 5 (fun K hK=>?_);skip;go_simp;refine hK.out _ _ trivial (fun hHeld=>?_);clear hK K
   try simp only[put,sA,sB,sC]
   refine bc 9 (fun K hK=>?_);skip;skip;refine Nf (by rfl) _ _ _ (by rfl) B 3 i0 (.int .i64 0) 1 8 underlying43 hi dF cY cO (by rfl) (by decide) _ k (ints ms) (by rfl) pg.out.ok ⟨W3.heap.size,0,none⟩ 1 1 (#[.int .i64 r]).toList (by rfl) (by rfl) (World.news_of_block (cs:=#[.int .i64 r]) (t:=3) (fr:=(0,0)) (heap_alloc_new W3.drew _)) (by simp[Value.oneCell']) (by unfold maxLen;omega) (by omega) tf.out.r.hB ?_;intro v6 w6 aq ag cj;obtain⟨a6,c6,rfl⟩:=bE aq;have iP:=OI tf.out pg.out (r:=r) (vK':=.slice a6 (k+1) c6) aq ag cj;have mz:St w6 168 bm _:=tf.out.r.sm.af pg.out.ok (by decide) ag;have t3:w6.cell? ⟨bm,258,none⟩=some (.slice aK k cK):=(by rw[mz.at_,getElem?_setIfInBounds_ne (by decide)];exact pg.out.cK);have f3:=mz.aX 258;have HF:Hid (JG V B bs bm gI m M bM cs l vL k n ss ms Q' s mk (.returned (.int .i64 (k:Int))) (w6.setCell ⟨bm,258,none⟩ (.slice a6 (k+1) c6))):=(⟨r,_,_,rfl,HR.out,iP.1,iP.2⟩);refine hK.out _ _ trivial (fun hHeld=>?_);clear hK K aq ag cj iP mz
   try simp only[put,sA,sB,sC]
   (refine ak 10 ?_;refine ak 11 ?_;refine ak 12 ?_;try simp only[put,sA,sB,sC])
   refine bc 13 (fun K hK=>?_);skip;go_simp;refine hK.out _ _ trivial (fun hHeld=>?_);clear hK K
   try simp only[put,sA,sB,sC]
   refine wpAnyH_done (by kernel_rfl) ?_ _;clear hHeld;go_wp2;go_ret;exact HF.out
  exact AllReadyH.nil
 exact AllReadyH.nil
def jQ(bm gI:Nat)(vL:Value):List Nat:=bm :: gI :: vL.ownBlock.toList
theorem gG.base(h:gG V B bs bm gI m cs P l vL wr):gG wr B (jQ bm gI vL) bm gI m cs P l vL wr:=
 ⟨Kept.refl _ _ _,Below.refl _ _,h.sm,h.sz,h.cI,h.kt,h.ca,fun b e=>inl (by simp[jQ,e]),⟨by simp[jQ],by simp[jQ]⟩,h.lo.1,h.lo.2.1,h.hB⟩
theorem gG.back{fY:Array Value}(h:gG V B bs bm gI m cs P l vL wr)(h':gG wr B (jQ bm gI vL) bm gI m fY P' l' iN w3):gG V B bs bm gI m fY P' l' iN w3:=by
 have dp:=h.below.size;refine⟨fun k o hk ho hn=>h'.kept k o (h.kept k o hk ho hn) ho (fun hm=>?_),h.below.trans h'.below,h'.sm,h'.sz,h'.cI,h'.kt,h'.ca,fun b e=>?_,h.jn,h.lo⟩
 ·simp only[jQ,mem_cons,mem_toList] at hm;rcases hm with rfl|rfl|hm
  ·exact hn h.jn.1
  ·exact hn h.jn.2
  rcases h.loc k hm with h1|h1
  ·exact hn h1
  have:=(Array.getElem?_eq_some_iff.1 hk).1;omega
 rcases h'.loc b e with hm|hm
 ·simp only[jQ,mem_cons,mem_toList] at hm;rcases hm with rfl|rfl|hm
  ·exact inl h.jn.1
  ·exact inl h.jn.2
  exact h.loc b hm
 exact inr (by omega)
theorem lq.over{Q:Value->Value->Prop}(h:gG V B bs bm gI m cs P l vL wr)(t:lq V B bs bM cs vL k q n ss ms Q vS vK wr)
  (h':gG wr B (jQ bm gI vL) bm gI m cs P' l' iN w3):lq V B bs bM cs iN k q n ss ms Q vS vK w3:=by
 have hn:∀{t' n':Nat}{v:Value}{xs:List Value},wr.ownsRow B t' 1 v n' xs->t'≠168->t'≠5->(∀b,vL.ownBlock=some b->v.ownBlock≠some b)->∀g,v.ownBlock=some g->g∉jQ bm gI vL:=by
  intro t' n' v xs ho h1 h2 h3 g hg hm;simp only[jQ,mem_cons,mem_toList] at hm;rcases hm with rfl|rfl|hm
  ·exact dH ho h.sm h1 g hg rfl
  ·exact gH ho h.kt h2 g hg rfl
  exact h3 g hm hg
 refine⟨t.cK,t.cS,t.cM,fu t.os h'.kept (by simp) (hn t.os (by decide) (by decide) (fun b e1 e2=>gH h.ca t.os (by decide) b e1 e2)),fu t.ok h'.kept (by simp) (hn t.ok (by decide) (by decide) t.sep),t.map.kept h'.kept ?_,fun b e1 e2=>?_,t.lS,t.lK,t.lM⟩
 ·simp only[jQ,mem_cons,mem_toList];rintro (e|e|e)
  ·exact Bf t.map h.sm e.symm
  ·exact wF t.map h.kt gI rfl e.symm
  exact wF t.map h.ca bM e rfl
 rcases h'.loc b e1 with hm|hm
 ·exact hn t.ok (by decide) (by decide) t.sep b e2 hm
 obtain⟨c,fz,hc⟩:=pG t.ok b e2;have:=(Array.getElem?_eq_some_iff.1 hc).1;omega
def jB(M:Nat)(f:Nat->Bool):ByteArray:=strOf (fG f M)
theorem Nx(M:Nat)(f g:Nat->Bool):jB M f=jB M g↔∀x,x<M->f x=g x:=by
 constructor
 ·intro h;exact (Kt f g M).1 (Oz (IF _ M) (IF _ M) (by rw[<-AP,<-AP];exact congrArg (fun s:ByteArray=>s.data.toList) h))
 intro h;unfold jB;rw[(Kt f g M).2 h]
def MQ(M:Nat)(D:List ((Nat->Bool) × Nat))(x y:Value):Prop:=∃p∈D,x=.string (jB M p.1)/\y=.int .i64 ((p.2:Nat):Int)
structure Inv (L:List En)(M:Nat)(mk:Nat->Int)(SS:List (Nat->Bool))(ms:List Int)(D:List ((Nat->Bool) × Nat)):Prop where
 own:∀j (h:j<SS.length),(SS[j],j)∈D
 OH:∀p∈D,∃h:p.2<SS.length,∀x,x<M->(SS[p.2] x=true↔FR L (fun y=>y<M/\p.1 y=true) x)
 len:ms.length=SS.length
 ct:∀j (h:j<SS.length) (h2:j<ms.length),bD mk (fun x=>x<M/\SS[j] x=true) ms[j]
theorem UK(f:Nat->Bool)(M m:Nat)(hm:(M+7) / 8=m)(h:∀x,f x=true->x<M):gv f m=fG f M:=by
 unfold gv fG;rw[hm];refine List.map_congr_left fun j _=>OD fun k _=>?_
 by_cases e:8*j+k<M
 ·simp[eJ,e]
 have:f (8*j+k)=false:=by
  cases hf:f (8*j+k) with
  | false=>rfl
  | true=>exact absurd (h _ hf) e
 simp[eJ,e,this]
theorem gG.E9(h:gG V B bs bm gI m cs P l vL wr)(k:Kept [] (jQ bm gI vL) wr W):Kept [] bs V W:=fun k0 o hk ho hn=>k k0 o (h.kept k0 o hk ho hn) ho (fun hm=>by
 simp only[jQ,mem_cons,mem_toList] at hm
 rcases hm with rfl|rfl|hm
 ·exact hn h.jn.1
 ·exact hn h.jn.2
 ·rcases h.loc k0 hm with h1|h1
  ·exact hn h1
  ·have:=(Array.getElem?_eq_some_iff.1 hk).1
   omega)
theorem FR.idem{L:List En}{A:Nat->Prop}(x:Nat):FR L (FR L A) x↔FR L A x:=by
 constructor
 ·intro k
  induction k with
  | base h=>exact h
  | step e _ h1 h2 h3 h4 ih=>exact .step e ih h1 h2 h3 h4
 exact .base
theorem aD.again{k t e:TypeId}{b:Nat}{Q:Value->Value->Prop}(h:aD w k b n Q)(K:Keyed prog k)(ht:prog.underlying t=some (.map k e))
  {key val:Value}{kl:Lit}(ek:keyOf prog k key=some kl) (hv:Q key val):∃w',(Instr.mapUpdate t (.map (some b)) key val).run prog w=.ok () w'/\aD w' k b n Q/\w.grownBy w' (some b):=by
 obtain⟨es,clock,hb,F,hs,hq,ea⟩:=h;obtain⟨F1,_,_⟩:=F.stay (R':=fj) (fun x hx z hz=>hz);rcases K.find w ek es.toList F.keys with ⟨h1,h2⟩|⟨j,e0,h1,h2,h3⟩
 ·obtain⟨e1,h4,h5⟩:=ea _ _ hv;exact absurd h5 (h2 e1 h4)
 have hj:es[j]?=some e0:=by simpa using h2
 have wD:∀e',es[j]?=some e'->({ e' with key:=key,val:=val }:MapEntry).key=e'.key:=fun e' rV=>by rw[hj] at rV;cases rV;exact h3.symm
 have mK:(es.modify j (fun e'=>{ e' with key:=key,val:=val })).toList=es.toList.set j { e0 with key:=key,val:=val }:=by rw[Array.toList_modify,modify_eq_set _ _ _ _ h2]
 have G3:∀x∈es.toList.set j { e0 with key:=key,val:=val },x={ e0 with key:=key,val:=val }\/x∈es.toList:=by
  intro x hx;rcases List.mem_or_eq_of_mem_set hx with h|h
  ·exact inr h
  exact inl h
 have Eu:∀bn,WideElems.rd prog k fj ⟨key,val,bn⟩=some (kl,.held val):=fun bn=>by unfold WideElems.rd fj;rw[ek];rfl
 refine⟨setBlock w b (.map (es.modify j (fun e'=>{ e' with key:=key,val:=val })) clock),?_,⟨es.modify j (fun e'=>{ e' with key:=key,val:=val }),clock,heap_setBlock_same hb _,⟨by simpa using F.size,stamped_modify F.stamped _ _ (fun _ _=>rfl) (fun e' _ rV=>wD e' rV),?_⟩,by simpa using hs,fun x hx=>?_,fun x y hx=>?_⟩,⟨rfl,rfl,rfl,by simp[setBlock],fun i _ hi=>heap_setBlock_other hb _ (fun e=>hi (by rw[e]))⟩⟩
 ·simp[Instr.mapUpdate,run_underlying ht,MapKept.run_getObj_map hb,K.check w false ek,h1,hj,h3,K.stays w ek,MapKept.run_setObj_map _ hb,Result.andThen,setBlock]
 ·intro x hx;rw[mK] at hx;rcases G3 x hx with rfl|CH
  ·exact⟨_,Eu _⟩
  exact F1.reads x CH
 ·rw[mK] at hx;rcases G3 x hx with rfl|CH
  ·exact hv
  exact hq x CH
 obtain⟨e1,h4,h5⟩:=ea x y hx;rw[mK];obtain⟨i,hi,ei⟩:=List.getElem_of_mem h4;by_cases Pq:i=j
 ·refine⟨{ e0 with key:=key,val:=val },List.mem_set (by rw[<-Pq];exact hi) _,?_⟩;subst Pq;rw[List.getElem?_eq_getElem hi,ei] at h2;injection h2 with h2;rw[<-h5,h2];exact h3.symm
 exact⟨e1,by
  have:(es.toList.set j { e0 with key:=key,val:=val })[i]?=some e1:=by
   rw[List.getElem?_set_ne (fun e=>Pq e.symm),List.getElem?_eq_getElem hi,ei]
  exact List.mem_of_getElem? this,h5⟩
def Gf(V:World)(B:Nat)(bs:List Nat)(bm gI m M bM:Nat)(cs:Array Value)(L:List En)(mk:Nat->Int)(SS:List (Nat->Bool))(st:List Nat)(n:Nat)(e:Ending)(w':World):Prop:=
 ∃(j:Nat) (jf:List (Nat->Bool)) (s9:List Int) (D':List ((Nat->Bool) × Nat)) (iN vS' vK':Value) (fY:Array Value) (l':List Nat) (n':Nat),e=.returned (.int .i64 (j:Int))/\ij V B bs bm gI m M fY l' iN w'/\
  lq V B bs bM fY iN jf.length jf.length n' (jf.map (jB M)) s9 (MQ M D') vS' vK' w'/\Inv L M mk jf s9 D'/\n'+2*SS.length<=n+2*jf.length/\(∀i,i≠258->i≠259->fY[i]?=cs[i]?)/\(∃h:j<jf.length,∀x,x<M->(jf[j] x=true↔FR L (fun y=>y∈st) x))/\
  (jf=SS\/∃f,jf=SS++[f]/\j=SS.length/\∀i (h:i<SS.length),∃x,x<M/\SS[i] x≠f x)
theorem Wy(V:World)(B:Nat)(bs:List Nat)(bm gI m M bM bn gM cM gF cF:Nat)(aF:Nat->Option Addr)(cR:Nat->Nat)(L:List En)(HF:lf V B bn gF M cF aF cR L)(hE:∀e∈L,e.f<M/\e.t<M)(JT:L.length<=6400)(cs:Array Value)(mk:Nat->Int)(HV:kr V B bn gM M cM mk)(iP:∀i,i<M->-1<=mk i)(o0:cs[0]?=some (.pointer (some ⟨bn,0,none⟩)))(hM:M<=100000)(hm:(M+7) / 8=m)
  (P:Nat->Bool) (l:List Nat) (vL vS vK:Value) (n:Nat) (SS:List (Nat->Bool)) (ms:List Int) (D:List ((Nat->Bool) × Nat)) (hk:SS.length<=100000) (hn:n<=100000) (oy:l.length<=100000)
  (a:Option Addr) (q c:Nat) (st:List Nat) (dE:st.length=q) (hq:q<=100000000000) (av:∀x∈st,x<M) (hr:∀W,Kept [] bs V W->AJ W W.heap.size a st)
  (wr:World) (h:gG V B bs bm gI m cs P l vL wr) (t:lq V B bs bM cs vL SS.length SS.length n (SS.map (jB M)) ms (MQ M D) vS vK wr) (inv:Inv L M mk SS ms D):
  Calls prog 119 #[.pointer (some ⟨bm,0,none⟩),.slice a q c] wr (Gf V B bs bm gI m M bM cs L mk SS st n):=by
 have HH:=hid (Zz h (Zz t inv));have HN:=hid (Zz HF (Zz hE (Zz HV (Zz iP (Zz o0 hm)))));have HG:=hid (zgk wr B (jQ bm gI vL) bm gI m M cs P l vL wr h.base hM hm (by omega) a q c st dE hq av (fun W hW=>hr W (h.E9 hW)));clear h t inv HF hE HV iP o0 dE av hr;go_enter func119,ntmps119;go_wp2_with fail;refine HG.out.mono ?_;rintro e w2 ⟨l2,qB,rfl,h2,iz⟩;obtain⟨f2,mW⟩:∃f2:Nat->Bool,(fun x=>decide (x∈l2))=f2:=⟨_,rfl⟩
 have JB:=h2.aa (Below.refl w2.heap.size w2).drew;have Lh:=lq.over HH.out.1 HH.out.2.1 JB.r;have Dm:∀x,f2 x=true->x<M:=fun x hx=>h2.lt x (by rw[<-mW] at hx;simpa using hx)
 have hcv:(convert 76 9 (.slice (some ⟨gI,0,none⟩) m m)).run prog w2.drew=.ok (.string (jB M f2)) w2.drew:=by
  have:=LY (l:=gv f2 m) (by have:=JB.r.kt;rw[mW] at this;exact this) (by rw[LG]);rw[UK f2 M m HN.out.2.2.2.2.2 Dm] at this;exact this
 have hkl:keyOf prog 9 (.string (jB M f2))=some _:=Go.WideMaps.keyOf_string_mk underlying9 (by unfold jB;rw[zE];simp[fG];unfold maxLen;omega);have UF:∀x,FR L (fun y=>y<M/\f2 y=true) x↔FR L (fun y=>y∈st) x:=fun x=>FR.congr (fun y=>by
  rw[<-iz,<-mW]
  exact⟨fun h=>by simpa using h.2,fun h=>⟨h2.lt y h,by simpa using h⟩⟩) x
 have c0:w2.cell? ⟨bm,260,none⟩=some (.map (some bM)):=(h2.r.other 260 (by decide)).trans Lh.cM;have c1:w2.cell? ⟨bm,261,none⟩=some (.slice (some ⟨gI,0,none⟩) m m):=h2.r.cells.1;have H2:=hid (Zz JB (Zz Lh (Zz iz (Zz UF (Zz mW Dm)))));have we:=Lh.map.ox De underlying166 (Kl w2.drew) hkl;clear h2 iz HG JB Lh UF hkl Dm;rcases we with ⟨bS,iG⟩|⟨v,⟨p,hp,yZ,rfl⟩,bS⟩
 ·have km:=hid iG;clear iG;go_wp2_with fail
  go_region
  go_wp2_with fail;refine (zf5 wr B (jQ bm gI vL) bm gI m M bn gF cF cs aF cR L (HN.out.1.below HH.out.1.below) HN.out.2.2.2.2.1 HN.out.2.1 hM HN.out.2.2.2.2.2 JT l2 qB w2.drew H2.out.1).mono ?_;rintro e w4 ⟨l4,KJ,rfl,h4,yk⟩;obtain⟨f4,LF⟩:∃f4:Nat->Bool,(fun x=>decide (x∈l4))=f4:=⟨_,rfl⟩
  have t4:=lq.over HH.out.1 HH.out.2.1 h4.r;have Fz:∀x,f4 x=true->x<M:=fun x hx=>h4.lt x (by rw[<-LF] at hx;simpa using hx)
  have za:∀x,f4 x=true↔x∈l4:=fun x=>by rw[<-LF];simp
  have hcv4:(convert 76 9 (.slice (some ⟨gI,0,none⟩) m m)).run prog w4=.ok (.string (jB M f4)) w4:=by
   have:=LY (l:=gv f4 m) (by have:=h4.r.kt;rw[LF] at this;exact this) (by rw[LG]);rw[UK f4 M m HN.out.2.2.2.2.2 Fz] at this;exact this
  have Jg:keyOf prog 9 (.string (jB M f4))=some _:=Go.WideMaps.keyOf_string_mk underlying9 (by unfold jB;rw[zE];simp[fG];unfold maxLen;omega);have Nl:(jB M f4).size<=100000:=by unfold jB;rw[zE];simp[fG];omega
  have fX:∀x,x∈l4↔FR L (fun y=>y∈st) x:=fun x=>by rw[yk x];exact FR.congr (fun y=>H2.out.2.2.1 y) x
  have Gx:∀x,FR L (fun y=>y<M/\f4 y=true) x↔FR L (fun y=>y∈st) x:=fun x=>by
   rw[show FR L (fun y=>y<M/\f4 y=true) x↔FR L (FR L (fun y=>y∈st)) x from FR.congr (fun y=>⟨fun h=>(fX y).1 ((za y).1 h.2),fun h=>⟨h4.lt y ((fX y).2 h),(za y).2 ((fX y).2 h)⟩⟩) x];exact FR.idem x
  have d0:w4.cell? ⟨bm,260,none⟩=some (.map (some bM)):=(h4.r.other 260 (by decide)).trans t4.cM;have d1:w4.cell? ⟨bm,261,none⟩=some (.slice (some ⟨gI,0,none⟩) m m):=h4.r.cells.1;have Tc:ij V B bs bm gI m M cs l4 KJ w4:=⟨HH.out.1.back h4.r,h4.nd,h4.lt⟩
  have H4:=hid (Zz Tc (Zz t4 (Zz fX (Zz Gx za))));have we:=t4.map.ox De underlying166 (Kl w4) Jg;clear h4 t4 Fz za fX Gx Tc yk LF c0 c1 hcv bS;rcases we with ⟨bS,iG⟩|⟨v,⟨p,hp,yZ,rfl⟩,bS⟩
  ·obtain⟨k,xM⟩:∃k,SS.length=k:=(⟨_,rfl⟩);have HK:=hid xM;have ey:k<=100000:=(by omega);have xB:=hid (zmp V B bs bm gI m M bM bn gM cM cs mk HN.out.2.2.1 HN.out.2.2.2.1 HN.out.2.2.2.2.1 hM l4 KJ vS vK SS.length n (SS.map (jB M)) ms (MQ M D) (MQ M (D++[(f4,SS.length)])) (jB M f4) Nl (by omega) (by omega) iG
    (fun x y ⟨p,hp,h1,h2⟩=>⟨p,List.mem_append.2 (inl hp),h1,h2⟩) ⟨(f4,SS.length),by simp,rfl,rfl⟩
    (fun x y ⟨p,hp,h1,h2⟩ hne=>by
     rcases List.mem_append.1 hp with hp|hp
     ·exact⟨y,p,hp,h1,h2⟩
     ·rw[List.mem_singleton.1 hp] at h1
      exact absurd h1 hne) w4 H4.out.1 H4.out.2.1)
   have QI:=hid iG;rw[xM] at xB;clear iG xM;go_wp2_with fail;refine xB.out.mono ?_;rintro e w5 ⟨r,vS',vK',rfl,hr,NR,Iy⟩;have BO:keyOf prog 9 (.string (jB M f2))=some _:=Go.WideMaps.keyOf_string_mk underlying9 (by unfold jB;rw[zE];simp[fG];unfold maxLen;omega);obtain⟨w6,xx,vg,fR⟩:∃w6,(Instr.mapUpdate 166 (.map (some bM)) (.string (jB M f2)) (.int .i64 (k:Int))).run prog w5=.ok () w6/\aD w6 9 bM (n+2) (MQ M (D++[(f4,k)]++[(f2,k)]))/\w5.grownBy w6 (some bM):=by
    by_cases e:jB M f2=jB M f4
    ·obtain⟨w6,h1,h2,h3⟩:=Iy.map.again De underlying166 BO (val:=.int .i64 (k:Int)) ⟨(f4,k),by simp,by rw[e],rfl⟩;refine⟨w6,h1,?_,h3⟩;have e2:MQ M (D++[(f4,k)]++[(f2,k)])=MQ M (D++[(f4,k)]):=by
      funext x y;refine propext ⟨fun ⟨p,hp,h1,h2⟩=>?_,fun ⟨p,hp,h1,h2⟩=>⟨p,List.mem_append.2 (inl hp),h1,h2⟩⟩;rcases List.mem_append.1 hp with hp|hp
      ·exact⟨p,hp,h1,h2⟩
      rw[List.mem_singleton.1 hp] at h1 h2;exact⟨(f4,k),by simp,by rw[h1,<-e],h2⟩
     rw[e2];exact h2.more (by omega)
    exact Iy.map.update De underlying166 (by unfold maxLen;omega) BO (Q':=MQ M (D++[(f4,k)]++[(f2,k)]))
     (fun y ⟨p,hp,h1,h2⟩=>by
      rcases List.mem_append.1 hp with hp|hp
      ·exact km.out y ⟨p,hp,h1,h2⟩
      ·rw[List.mem_singleton.1 hp] at h1
       injection h1 with h1
       exact e h1)
     (fun x y ⟨p,hp,h1,h2⟩=>⟨p,List.mem_append.2 (inl hp),h1,h2⟩) ⟨(f2,k),by simp,rfl,rfl⟩
     (fun x y ⟨p,hp,h1,h2⟩ hne=>by
      rcases List.mem_append.1 hp with hp|hp
      ·exact⟨y,p,hp,h1,h2⟩
      ·rw[List.mem_singleton.1 hp] at h1
       exact absurd h1 hne)
   have BW:=VX NR Iy vg fR;have e0:w5.cell? ⟨bm,260,none⟩=some (.map (some bM)):=(NR.r.other 260 (by decide)).trans Iy.cM;have HF:Hid (Gf V B bs bm gI m M bM cs L mk SS st n (.returned (.int .i64 (k:Int))) w6):=by
    have xM:=HK.out;subst xM;have inv:=HH.out.2.2;refine⟨SS.length,SS++[f4],ms++[r],D++[(f4,SS.length)]++[(f2,SS.length)],KJ,vS',vK',_,l4,n+2,rfl,BW.1,?_,⟨fun j hj=>?_,fun p hp=>?_,by simp[inv.len],fun j hj hj2=>?_⟩,(by simp;omega),fun i h1 h2=>?_,⟨by simp,fun x hx=>?_⟩,inr ⟨f4,rfl,rfl,fun i hi=>?_⟩⟩
    ·have:=BW.2;simpa using this
    ·by_cases e:j<SS.length
     ·rw[getElem_append_left e];exact List.mem_append.2 (inl (List.mem_append.2 (inl (inv.own j e))))
     have:j=SS.length:=(by simp at hj;omega);subst this;simp
    ·rcases List.mem_append.1 hp with hp|hp
     ·rcases List.mem_append.1 hp with hp|hp
      ·obtain⟨h1,h2⟩:=inv.OH p hp;refine⟨by simp;omega,fun x hx=>?_⟩;rw[getElem_append_left h1];exact h2 x hx
      rw[List.mem_singleton.1 hp];refine⟨by simp,fun x hx=>?_⟩;simp only[List.getElem_concat_length];rw[H4.out.2.2.2.2 x,H4.out.2.2.1 x,H4.out.2.2.2.1 x]
     rw[List.mem_singleton.1 hp];refine⟨by simp,fun x hx=>?_⟩;simp only[List.getElem_concat_length];rw[H4.out.2.2.2.2 x,H4.out.2.2.1 x,H2.out.2.2.2.1 x]
    ·by_cases e:j<SS.length
     ·have e2:j<ms.length:=(by rw[inv.len];exact e);have:=inv.ct j e e2;rw[getElem_append_left e2];simpa [getElem_append_left e] using this
     have:j=SS.length:=(by simp at hj;omega);subst this;have e3:(ms++[r])[SS.length]=r:=by
      rw[List.getElem_append_right (by rw[inv.len];exact le_refl _)];simp[inv.len]
     rw[e3];refine hr.congr (fun x=>?_);simp only[List.getElem_concat_length];rw[H4.out.2.2.2.2 x];exact⟨fun h=>⟨H4.out.1.lt x h,h⟩,fun h=>h.2⟩
    ·rw[getElem?_setIfInBounds_ne (fun e=>h1 e.symm),getElem?_setIfInBounds_ne (fun e=>h2 e.symm)]
    ·simp only[List.getElem_concat_length];rw[H4.out.2.2.2.2 x,H4.out.2.2.1 x]
    refine(Classical.byContradiction fun ea=>?_);have h7:∀x,x<M->SS[i] x=f4 x:=(fun x hx=>Classical.byContradiction fun h=>ea ⟨x,hx,h⟩);exact QI.out (.int .i64 (i:Int)) ⟨(SS[i],i),inv.own i hi,by rw[(Nx M _ _).2 h7],rfl⟩
   clear hr NR Iy vg fR BW BO Jg;go_wp2;go_ret;exact HF.out
  have ub:=HH.out.2.2.OH p hp;have HF:Hid (Gf V B bs bm gI m M bM cs L mk SS st n (.returned (.int .i64 (p.2:Int))) w4):=by
   refine⟨p.2,SS,ms,D,KJ,vS,vK,cs,l4,n,rfl,H4.out.1,H4.out.2.1,HH.out.2.2,by omega,fun _ _ _=>rfl,?_,inl rfl⟩;obtain⟨h1,h3⟩:=ub;refine⟨h1,fun x hx=>?_⟩;rw[h3 x hx,<-H4.out.2.2.2.1 x];injection yZ with yZ;have h5:=(Nx M _ _).1 yZ;exact FR.congr (fun y=>⟨fun h=>⟨h.1,by rw[h5 y h.1];exact h.2⟩,fun h=>⟨h.1,by rw[<-h5 y h.1];exact h.2⟩⟩) x
  clear hp yZ ub;go_wp2;go_ret;exact HF.out
 have ub:=HH.out.2.2.OH p hp;have HF:Hid (Gf V B bs bm gI m M bM cs L mk SS st n (.returned (.int .i64 (p.2:Int))) w2.drew):=by
  refine⟨p.2,SS,ms,D,qB,vS,vK,cs,l2,n,rfl,⟨HH.out.1.back H2.out.1.r,H2.out.1.nd,H2.out.1.lt⟩,H2.out.2.1,HH.out.2.2,by omega,fun _ _ _=>rfl,?_,inl rfl⟩;obtain⟨h1,h3⟩:=ub;refine⟨h1,fun x hx=>?_⟩;rw[h3 x hx,<-H2.out.2.2.2.1 x];injection yZ with yZ;have h5:=(Nx M _ _).1 yZ;exact FR.congr (fun y=>⟨fun h=>⟨h.1,by rw[h5 y h.1];exact h.2⟩,fun h=>⟨h.1,by rw[<-h5 y h.1];exact h.2⟩⟩) x
 clear hp yZ ub;go_wp2_with fail
 go_region
 go_wp2;go_ret;exact HF.out
end Go.Proofs.YtiijebameffenaaGreat
