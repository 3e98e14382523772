import Derived.Test.YtkkhakmdjinenaaGreatZNRClose
import Derived.Test.YtkkhakmdjinenaaGreatZTk
set_option linter.all false
set_option maxHeartbeats 2000000
set_option maxRecDepth 100000
open Go.Lib (hid)
namespace Go.Proofs.YtkkhakmdjinenaaGreat
open Go.RowKit Go.Proofs.Tryz
open Nat (le_refl zero_le)
open World (news_of_block ownsRow_nil)
open Or (inl inr)
open List (getElem_append_left getElem_map length_append length_map map_cons map_nil mem_cons)
open Sem (run_bind run_pure)
open _root_.Array (getElem?_setIfInBounds_ne)
open Region (wanted)
open Act (put)
open Value (oneCell')
open Option (mem_toList)
variable {B M bM bm gI k m n q t:Nat}{L:List En}{P P':Nat->Bool}{V W w w1 w3 w5 wr:World}{a:Act}{bs l l' ls:List Nat}{cs:Array Value}{jr vE vK vL vS:Value}{ms:List Int}{ops:Array Oper}{ss:List ByteArray}
def eW(s:ByteArray)(k:Nat):Nat:=(s.get! k).toNat
theorem uT(s:ByteArray)(k:Nat):eW s k<256:=UInt8.toNat_lt _
theorem Og(s:ByteArray)(k:Nat)(h:k<s.size):(s[k]'h).toNat=eW s k:=by
 unfold eW;rw[show s.get! k=s[k]'h from getElem!_pos s.data k h]
open Go.Maps Go.WideElems Go.ChangeMaps Go.MapKept
def CT(b t:Nat):Prop:=b≠0->t<8/\b.testBit t=true/\(b &&& (b-1))<b/\∀j,j<8->(b &&& (b-1)).testBit j=(b.testBit j && decide (j≠t))
instance (b t:Nat):Decidable (CT b t):=by unfold CT;infer_instance
theorem zoi(x:UInt8):wrap64 (x.toNat:Int)=(x.toNat:Int):=by
 have:x.toNat<256:=UInt8.toNat_lt x;exact IntWalk.wrap64_in _ ⟨by omega,by omega⟩
theorem zqh(b:Nat)(hb:b<256)(w:World):Calls prog 138 #[.int .u8 (b:Int)] w fun e w'=>∃t:Nat,e=.returned (.int .i64 (t:Int))/\CT b t/\w'=w:=by
 go_in;go_wp2;go_ret;refine⟨_,congrArg (fun z=>Ending.returned (Value.int IntKind.i64 z)) (zoi _),?_,rfl⟩;clear w;rename_i h;revert h;revert hb;revert b;decide +kernel
def zqi(n:Nat)(g:Nat->Bool)(w:World)(e:Ending)(w':World):Prop:=
 ∃(L:List Nat) (a:Option Addr) (c:Nat),e=.returned (.slice a L.length c)/\w'.ownsRow w.heap.size 3 1 (.slice a L.length c) L.length (cY L)/\L.Nodup/\(∀x,x∈L↔x<8*n/\g x=true)/\Below w.heap.size w w'
theorem zim(s:ByteArray)(n:Nat)(hs:s.size=n)(hn:n<=100000)(g:Nat->Bool)(hg:∀i,i<n->eW s i=kH g i)(w:World):Calls prog 108 #[.string s] w (zqi n g w):=by
 have H:=ζ hs hg;have zT:=hs;obtain⟨i0,hi,dv,cP,cG⟩:=info_parts aG;clear hg hs;go_in;go_wp2;go_loopw [3,4,5,8] (fun v3 _ _ v wr=>∃(k:Nat) (L:List Nat) (a:Option Addr) (c:Nat),v=.int .i64 k/\k<=n/\v3=.slice a L.length c/\Hid (wr.ownsRow w.heap.size 3 1 (.slice a L.length c) L.length (cY L)/\L.Nodup/\(∀x,x∈L↔x<8*k/\g x=true)/\Below w.heap.size w wr)) (fun _ _ _ v _=>n-(intOf v).toNat)
 ·exact⟨0,[],none,0,rfl,zero_le _,rfl,ownsRow_nil _ _ _ _,List.nodup_nil,fun x=>by simp,Below.refl _ _⟩
 obtain⟨k,L,a,c,rfl,hk,rfl,HA⟩:=hrel;by_cases aq:k<n
 ·have qy:k<s.size:=by rw[zT];exact aq
  obtain⟨bt,qJ⟩:∃bt,(s[k]'qy).toNat=bt:=⟨_,rfl⟩
  have tQ:=Og s k qy;rw[qJ,H.out.2 k aq] at tQ;have km:bt<256:=by rw[tQ];exact L6 g k
  have HB:=hid tQ;have i1:(k:Int)<n:=by omega
  clear tQ;go_wp2;go_loopw [3,5] (fun v3 v5 wq=>∃(b:Nat) (L2:List Nat) (a2:Option Addr) (c2:Nat),v5=.int .u8 b/\b<256/\v3=.slice a2 L2.length c2/\L2.length<=8*k+8/\Hid (wq.ownsRow w.heap.size 3 1 (.slice a2 L2.length c2) L2.length (cY L2)/\L2.Nodup/\(∀x,x∈L2↔(x<8*k/\g x=true)\/∃j,j<8/\x=8*k+j/\g x=true/\b.testBit j=false)/\Below w.heap.size w wq)/\Hid (∀j,j<8->b.testBit j=true->g (8*k+j)=true)) (fun _ v _=>(intOf v).toNat)
  ·refine⟨bt,L,a,c,rfl,km,rfl,?_,⟨HA.out.1,HA.out.2.1,fun x=>?_,HA.out.2.2.2⟩,fun j hj h=>?_⟩
   ·have:=qw HA.out.2.1 (m:=8*k) (fun x hx=>((HA.out.2.2.1 x).1 hx).1);omega
   ·rw[HA.out.2.2.1 x];constructor
    ·exact inl
    rintro (h|⟨j,hj,rfl,h1,h2⟩)
    ·exact h
    rw[HB.out,zI] at h2;simp[hj,h1] at h2
   rw[HB.out,zI] at h;simpa [hj] using h
  obtain⟨b,L2,a2,c2,rfl,hb,rfl,hlen,HC,HD⟩:=hrel;by_cases ay:b=0
  ·subst ay;have HZ:Hid (wr.ownsRow w.heap.size 3 1 (.slice a2 L2.length c2) L2.length (cY L2)/\L2.Nodup/\(∀x,x∈L2↔x<8*(k+1)/\g x=true)/\Below w.heap.size w wr):=by
    refine⟨HC.out.1,HC.out.2.1,fun x=>?_,HC.out.2.2.2⟩;rw[HC.out.2.2.1 x];constructor
    ·rintro (⟨h1,h2⟩|⟨j,hj,rfl,h1,h2⟩)
     ·exact⟨by omega,h2⟩
     exact⟨by omega,h1⟩
    rintro⟨h1,h2⟩;by_cases h3:x<8*k
    ·exact inl ⟨h3,h2⟩
    exact inr ⟨x-8*k,by omega,by omega,h2,by simp⟩
   clear HA HC HD qJ;go_wp2;go_roundw
   ·exact⟨k+1,L2,a2,c2,by go_num,by omega,rfl,HZ⟩
   simp[intOf];omega
  have Fa:=hid HC.out.1;have hO:=HC.out.1;have hB:=HC.out.2.2.2;have J6:=hB.size;obtain⟨q,hq⟩:∃q,L2.length=q:=⟨_,rfl⟩
  rw[hq] at hlen hO;have HQ:=hid hq;have eQ:¬((b:Int)=0):=by omega
  clear HA qJ;go_wp2_with fail;refine (zqh b hb _).mono ?_;rintro e w3 ⟨t,rfl,htz,rfl⟩;obtain⟨Sd,ZE,jF,pR⟩:=htz ay;rw[hq];go_wp2_with (at_builtin;refine wpList_append_own _ rfl _ _ 27 rfl w.heap.size 3 i0 (.int .i64 0) 1 8 underlying27 hi dv cP cG rfl (by decide) _ _ _ rfl (hO.alloc _) ⟨w3.heap.size,0,none⟩ 1 1 [.int .i64 (8*(k:Int)+(t:Int))] rfl rfl (cell_one_new _ _ _) ?d2 ?d3 ?d4 ?d5 ?_)
  case d2=>intro u hu;simp at hu;subst hu;rfl
  case d3=>unfold maxLen;omega
  case d4=>omega
  case d5=>simp;omega
  intro v' w5 ah ag _;obtain⟨a5,c5,rfl⟩:=bP ah;have eu:=fL (hB.trans ((al w3 (.cells #[.int .i64 (8*(k:Int)+(t:Int))] 3)).mono J6)) (hO.alloc _) (by simp;omega) ag;have kO:8*k+t∉L2:=by
   rw[HC.out.2.2.1];rintro (⟨h1,h2⟩|⟨j,hj,h1,h2,h3⟩)
   ·omega
   rw[show j=t by omega,ZE] at h3;cases h3
  obtain⟨b2,cv⟩:∃b2,b &&& (b-1)=b2:=⟨_,rfl⟩
  rw[cv] at jF pR;have hand:bits .and .u8 (b:Int) ((b:Int)-1)=(b2:Int):=by
   have:=u8_and_nat b (b-1) hb (by omega);rw[cv] at this;rw[<-this];congr 1;omega
  have HZ:Hid (w5.ownsRow w.heap.size 3 1 (.slice a5 (L2++[8*k+t]).length c5) (L2++[8*k+t]).length (cY (L2++[8*k+t]))/\(L2++[8*k+t]).Nodup/\(∀x,x∈L2++[8*k+t]↔(x<8*k/\g x=true)\/∃j,j<8/\x=8*k+j/\g x=true/\b2.testBit j=false)/\Below w.heap.size w w5):=by
   refine⟨?_,?_,fun x=>?_,eu⟩
   ·rw[xG,length_append,hq];simpa using ah
   ·refine List.nodup_append.2 ⟨HC.out.2.1,by simp,fun a ha b hb e=>?_⟩;rw[List.mem_singleton.1 hb] at e;exact kO (e ▸ ha)
   rw[List.mem_append,HC.out.2.2.1 x,List.mem_singleton];constructor
   ·rintro ((h|⟨j,hj,h1,h2,h3⟩)|h)
    ·exact inl h
    ·exact inr ⟨j,hj,h1,h2,by rw[pR j hj,h3];rfl⟩
    exact inr ⟨t,Sd,h,by rw[h];exact HD.out t Sd ZE,by rw[pR t Sd];simp⟩
   rintro (h|⟨j,hj,h1,h2,h3⟩)
   ·exact inl (inl h)
   by_cases e:j=t
   ·exact inr (by rw[h1,e])
   rw[pR j hj] at h3;exact inl (inr ⟨j,hj,h1,h2,by simpa [e] using h3⟩)
  have sR:Hid (∀j,j<8->b2.testBit j=true->g (8*k+j)=true):=fun j hj h=>by
   rw[pR j hj] at h;simp at h;exact HD.out j hj h.1
  have yg:(L2++[8*k+t]).length<=8*k+8:=qw HZ.out.2.1 (fun x hx=>by
   rcases (HZ.out.2.2.1 x).1 hx with h|⟨j,hj,h,_⟩ <;> omega)
  have ta:q+1<=8*k+8:=by rw[length_append,hq] at yg;simpa using yg
  have rb:Hid ((L2++[8*k+t]).length=q+1):=by show _=_;rw[length_append,hq];rfl
  have QM:b2<256:=by omega
  clear ah ag eu kO cv pR hO hB yg hq;go_wp2;go_roundw
  ·exact⟨b2,L2++[8*k+t],a5,c5,rfl,QM,by rw[rb.out],by rw[rb.out];exact ta,HZ,sR⟩
  simp[intOf];omega
 obtain rfl:k=n:=by omega
 go_wp2;go_ret;exact⟨L,a,c,rfl,HA.out⟩
theorem Xj(v:Nat->Nat)(n c g:Nat)(hn:0<n)(cU:n<=1000)(hv:∀j,j<n->v j<256)(w:World)(h:∀j,j<n->w.cell? ⟨g,j,none⟩=some (.int .u8 (v j))):
  Calls prog 129 #[.slice (some ⟨g,0,none⟩) n c] w fun e w'=>∃x:Nat,e=.returned (.int .u8 (x:Int))/\(∀j,j<n->v j<=x)/\(∃j,j<n/\v j=x)/\w'=w:=by
 have H:=ζ hv h;have c0:=h 0 hn;have hz:¬((n:Int)<1):=by omega
 clear hv h;go_in;go_wp2;go_loopw [3,4] (fun v3 i wr=>∃(k x:Nat),i=.int .i64 k/\1<=k/\k<=n/\v3=.int .u8 (x:Int)/\Hid ((∀j,j<k->v j<=x)/\∃j,j<k/\v j=x)/\wr=w) (fun _ i _=>n-(intOf i).toNat)
 ·exact⟨1,v 0,rfl,le_refl _,hn,rfl,⟨fun j hj=>by rw[show j=0 by omega];exact le_refl _,0,by omega,rfl⟩,rfl⟩
 obtain⟨k,x,rfl,ka,hk,rfl,HX,rfl⟩:=hrel;by_cases aq:k<n
 ·have ck:=H.out.2 k aq;have Hh:=H.out.1 k aq;have HZ:Hid (∀y,(y=x/\v k<=x)\/(y=v k/\x<=v k)->(∀j,j<k+1->v j<=y)/\∃j,j<k+1/\v j=y):=fun y hy=>by
   obtain⟨h1,j0,h2,h3⟩:=HX.out;rcases hy with ⟨rfl,hy⟩|⟨rfl,hy⟩
   ·exact⟨fun j hj=>by by_cases e:j=k;rw[e];exact hy;exact h1 j (by omega),j0,by omega,h3⟩
   exact⟨fun j hj=>by by_cases e:j=k;rw[e];exact le_refl _;exact Nat.le_trans (h1 j (by omega)) hy,k,by omega,rfl⟩
  generalize v k=y at ck Hh HZ;have i1:(k:Int)<n:=by omega
  rcases Nat.le_total y x with AZ|AZ
  ·have sR:=hid (HZ.out x (inl ⟨rfl,AZ⟩));have Ei:max (x:Int) (y:Int)=x:=(by omega);have AF:max x y=x:=(by omega);go_wp2;go_roundw
   ·exact⟨k+1,x,by go_num,by omega,by omega,by first|rfl|simp[Ei],sR,by first|trivial|rfl⟩
   simp[intOf];omega
  have sR:=hid (HZ.out y (inr ⟨rfl,AZ⟩));have Ei:max (x:Int) (y:Int)=y:=by omega
  have AF:max x y=y:=by omega
  go_wp2;go_roundw
  ·exact⟨k+1,y,by go_num,by omega,by omega,by first|rfl|simp[Ei],sR,by first|trivial|rfl⟩
  simp[intOf];omega
 obtain rfl:k=n:=by omega
 go_wp2;go_ret;exact⟨x,rfl,HX.out.1,HX.out.2,rfl⟩
theorem zmm(K:Nat->Lit)(cs:Array Value)(hs:cs.size=256)(hc:∀j,j<256->cs[j]?=some (.int .u8 (cls K j)))(w:World):
  Calls prog 92 #[.agg cs] w fun e w'=>e=.returned (.int .i64 (dD K 256))/\Below w.heap.size w w':=by
 have gq:∀j,j<256->cls K j<256:=fun j hj=>by have:=Ov K j;omega
 have hB:=al w (.cells cs 25);have hS:=St.new w 25 cs;have hM:=hid (Xj (cls K) 256 256 w.heap.size (by omega) (by omega) gq (w.alloc (.cells cs 25)) (fun j hj=>by rw[hS.at_,hc j hj]));have HB:=hid hB;have HT:Hid (∀x,(∀j,j<256->cls K j<=x)->(∃j,j<256/\cls K j=x)->x+1=dD K 256/\x<256):=fun x h1 h2=>by
  obtain⟨b,hb,e⟩:=zpf K 256 (by omega);obtain⟨j,hj,rfl⟩:=h2;have:=E9 K j 256 hj;have:=h1 b hb;have:=gq j hj;omega
 clear gq hB hS hc;go_in;go_wp2_with fail;refine hM.out.mono ?_;rintro e w2 ⟨x,rfl,h1,h2,rfl⟩;obtain⟨hx,lE⟩:=HT.out x h1 h2;have HX:=hid hx;clear h1 h2 hx;go_wp2;go_ret;exact⟨by rw[<-HX.out];first|rfl|(simp;done),HB.out⟩
theorem Jb{P:Program}(w:World)(ad:Addr)(ty:TypeId)(cs:Array Value)(d:TypeDesc)(hc:∀j v,cs.toList[j]?=some v->w.cell? (ad.add j)=some v)
  (hu:P.underlying ty=some d) (hd:(match d with|.struct _|.array _ _=>true|_=>false)=true) (hi:(P.info? ty).map (·.size)=some cs.size):
  (loadVar ty ad).run P w=.ok (.agg cs) w:=by
 have hl:(loadCells ad cs.toList.length).run P w=.ok cs.toList.toArray w:=run_loadCells_list (P:=P) w ad cs.toList hc;cases hq:P.info? ty with
 | none=>simp[hq] at hi
 | some i=>
  have hs:i.size=cs.size:=by simpa [hq] using hi
  have Er:(isAgg ty).run P w=.ok true w:=by
   unfold isAgg;rw[run_bind,run_underlying hu w];cases d <;> simp_all
  simp only[Array.length_toList,Array.toArray_toList] at hl;simp[loadVar,run_bind,Er,sizeOf,typeInfo,hq,hs,hl]
theorem p5{P:Program}{rest:List Oper}{o:Oper}{Q:Exit->Act->World->Prop}(oE:o.guard=none)(ty:TypeId)(x:Operand)(ho:o.op=.load ty x)
  (ad:Addr) (hx:a.eval x=.pointer (some ad)) (cs:Array Value) (d:TypeDesc) (hc:∀j v,cs.toList[j]?=some v->w.cell? (ad.add j)=some v)
  (hu:P.underlying ty=some d) (hd:(match d with|.struct _|.array _ _=>true|_=>false)=true) (hi:(P.info? ty).map (·.size)=some cs.size)
  (h:wpList P ops Q rest (a.put o.dst (.agg cs)) w):wpList P ops Q (o :: rest) a w:=
 wpList_plain oE fun _ hK=>by
  unfold Oper.wp execOp
  simp only[ho,hx,Instr.loadAt,Instr.sureAddr,run_bind,run_pure,Result.andThen_ok,Jb w ad ty cs d hc hu hd hi]
  exact hK _ _ h
noncomputable def rl (K:Nat->Lit):Nat->List Nat
 | 0=>[]
 | k+1=>if cls K k=(rl K k).length then rl K k++[k] else rl K k
theorem zB(K:Nat->Lit)(k:Nat):(rl K k).length=dD K k:=by
 induction k with
 | zero=>rfl
 | succ k ih=>
  rw[rl,dD,ih];by_cases e:fst K k=k
  ·have:cls K k=dD K k:=(by unfold cls;rw[e]);rw[if_pos this,if_pos e];simp[ih]
  have h1:=(zi K k).1;have h2:cls K k+1<=dD K k:=by
   have h3:fst K k<k:=(by omega);have:=E9 K (fst K k) k h3;unfold cls at this⊢;rwa [Ml] at this
  rw[if_neg (by omega),if_neg e,ih];omega
theorem Yq(K:Nat->Lit)(k:Nat):∀c (h:c<(rl K k).length),cls K (rl K k)[c]=c/\(rl K k)[c]<k:=by
 induction k with
 | zero=>intro c h;simp[rl] at h
 | succ k ih=>
  intro c h;by_cases e:cls K k=(rl K k).length
  ·have er:rl K (k+1)=rl K k++[k]:=(by rw[rl,if_pos e]);simp only[er] at h⊢;by_cases hc:c<(rl K k).length
   ·rw[getElem_append_left hc];have:=ih c hc;omega
   rw[length_append] at h;have:c=(rl K k).length:=(by simp at h;omega);subst this;rw[List.getElem_append_right (le_refl _)];simp[e]
  have er:rl K (k+1)=rl K k:=by rw[rl,if_neg e]
  simp only[er] at h⊢;have:=ih c h;omega
structure Gl (w:World)(B bn:Nat)(K:Nat->Lit)(cs:Array Value):Prop where
 gG:bn<B
 sz:cs.size=256
 val:∀j,j<256->cs[j]?=some (.int .u8 (cls K j))
 at_:∀j v,cs.toList[j]?=some v->w.cell? ((⟨bn,0,none⟩:Addr).add j)=some v
theorem Mr{P:Program}(t e:TypeId)(n:Nat)(cs:Array Value)(i:Nat)(v:Value)(h:P.underlying t=some (.array n e))(hi:i<n)(hs:(P.info? e).map (·.size)=some 1)(hd:∃d,P.underlying e=some d/\(match d with|.struct _|.array _ _=>true|_=>false)=false)(hv:cs[i]?=some v)(w:World):
  (Instr.index t (.agg cs) (.int .i64 (i:Int))).run P w=.ok v w:=by
 obtain⟨d,TG,hd2⟩:=hd;cases hq:P.info? e with
 | none=>simp[hq] at hs
 | some inf=>
  have lf:inf.size=1:=by simpa [hq] using hs
  have Er:(isAgg e).run P w=.ok false w:=by
   unfold isAgg;rw[run_bind,run_underlying TG w];cases d <;> simp_all
  have h1:(0:Int)<=i/\(i:Int)<n:=by omega
  simp[Instr.index,asIntOf,run_underlying h,h1,sizeOf,typeInfo,hq,lf,part,Er,hv];intro hni;omega
def WQ(K:Nat->Lit)(w:World)(e:Ending)(w':World):Prop:=
 ∃(a:Option Addr) (c:Nat),e=.returned (.slice a (dD K 256) c)/\w'.ownsRow w.heap.size 5 1 (.slice a (dD K 256) c) (dD K 256) (mm (rl K 256))/\Below w.heap.size w w'
theorem zeM(K:Nat->Lit)(B bn:Nat)(cs:Array Value)(w:World)(h:Gl w B bn K cs):Calls prog 133 #[.pointer (some ⟨bn,0,none⟩)] w (WQ K w):=by
 have H:=hid h;have dO:(prog.info? 25).map (·.size)=some cs.size:=by rw[h.sz];kernel_rfl
 obtain⟨i0,hi,dv,cP,cG⟩:=info_parts lx;clear h;go_in;go_wp2_with (refine p5 rfl 25 _ rfl ⟨bn,0,none⟩ rfl cs (.array 256 5) H.out.at_ underlying25 rfl dO ?_);go_loopw [3,4,5,10] (fun v3 _ _ v wr=>∃(k q:Nat) (a:Option Addr) (c:Nat),v=.int .i64 k/\k<=256/\q<=256/\v3=.slice a q c/\Hid ((rl K k).length=q/\wr.ownsRow w.heap.size 5 1 (.slice a q c) q (mm (rl K k))/\Below w.heap.size w wr)) (fun _ _ _ v _=>256-(intOf v).toNat)
 ·exact⟨0,0,none,0,rfl,zero_le _,zero_le _,rfl,rfl,ownsRow_nil _ _ _ _,Below.refl _ _⟩
 obtain⟨k,q,a,c,rfl,hk,hq,rfl,HA⟩:=hrel;by_cases aq:k<256
 ·have hv:=H.out.val k aq;have dc:=H.out.sz;have BG:(k:Int)<256:=by omega
  have Ai:=Mr 25 5 256 cs k _ underlying25 aq (by kernel_rfl) ⟨_,underlying5,rfl⟩ hv wr;have gq:cls K k<=k:=Ov K k;have hle:q<=k:=by rw[<-HA.out.1,zB];exact NJ K k
  by_cases hc:cls K k=q
  ·have HZ:Hid (rl K (k+1)=rl K k++[k]/\(rl K (k+1)).length=q+1):=by
    have e:rl K (k+1)=rl K k++[k]:=(by rw[rl,if_pos (by rw[HA.out.1];exact hc)]);exact⟨e,by rw[e,length_append,HA.out.1];rfl⟩
   generalize cls K k=x at hv gq hc Ai;subst hc;have hO:=HA.out.2.1;have hB:=HA.out.2.2;have J6:=hB.size;go_wp2_with (at_builtin;refine wpList_append_own _ rfl _ _ 112 rfl w.heap.size 5 i0 (.int .u8 0) 1 1 underlying112 hi dv cP cG rfl (by decide) _ _ _ rfl (hO.alloc _) ⟨wr.heap.size,0,none⟩ 1 1 [.int .u8 (k:Int)] rfl rfl (cell_one_new _ _ _) ?d2 ?d3 ?d4 ?d5 ?_)
   case d2=>intro u hu;simp at hu;subst hu;rfl
   case d3=>unfold maxLen;omega
   case d4=>omega
   case d5=>simp;omega
   intro v' w5 ah ag _;obtain⟨a5,c5,rfl⟩:=bP ah;have eu:=fL (hB.trans ((al wr (.cells #[.int .u8 (k:Int)] 5)).mono J6)) (hO.alloc _) (by simp;omega) ag;have HF:Hid ((rl K (k+1)).length=x+1/\w5.ownsRow w.heap.size 5 1 (.slice a5 (x+1) c5) (x+1) (mm (rl K (k+1)))/\Below w.heap.size w w5):=by
    refine⟨HZ.out.2,?_,eu⟩;rw[HZ.out.1,zmS];exact ah
   clear ah ag eu hO hB HA;go_wp2;go_roundw
   ·exact⟨k+1,x+1,a5,c5,by go_num,by omega,by omega,rfl,HF⟩
   simp[intOf];omega
  have HZ:Hid (rl K (k+1)=rl K k):=by
   show _=_;rw[rl,if_neg (by rw[HA.out.1];exact hc)]
  generalize cls K k=x at hv gq hc Ai;have fB:¬((x:Int)=q):=by omega
  go_wp2;go_roundw
  ·exact⟨k+1,q,a,c,by go_num,by omega,hq,rfl,by rw[HZ.out];exact HA⟩
  simp[intOf];omega
 obtain rfl:k=256:=by omega
 have HF:Hid (WQ K w (.returned (.slice a q c)) wr):=by
  have e:=HA.out.1;rw[zB] at e;subst e;exact⟨a,c,rfl,HA.out.2.1,HA.out.2.2⟩
 go_wp2;go_ret;exact HF.out
theorem iK.grown{row:Option Nat}(h:iK V B bs bm gI m cs P l vL wr)(hg:wr.grownBy w1 row)(hr:∀g,row=some g->g∈bs\/V.heap.size<=g)(hB:∀g,row=some g->B<=g)
  (h1:some bm≠row) (h2:some gI≠row) (h3:∀b,vL.ownBlock=some b->some b≠row):iK V B bs bm gI m cs P l vL w1:=
 ⟨h.kept.grown hg (fun g e=>(hr g e).elim inl (fun x=>inr (inl x))),h.below.grown hg h.hB hB,h.sm.grown hg h1,h.sz,h.cI,rF h.lG hg (fun g e=>by simp only[Value.ownBlock] at e;rw[<-e];exact h2),rF h.de hg h3,h.loc,h.kd,h.lo⟩
theorem zmp(cs:Array Value)(i:Nat)(hi:i≠262)(u v:Value):(cs.setIfInBounds 262 v).setIfInBounds i u=(cs.setIfInBounds i u).setIfInBounds 262 v:=by
 apply Array.ext_getElem?;intro j;simp only[Array.getElem?_setIfInBounds,Array.size_setIfInBounds];by_cases h1:i=j <;> by_cases h2:262=j <;> simp[h1,h2]
 omega
theorem iK.yh(h:iK V B bs bm gI m cs P l vL wr)(i:Nat)(h1:i≠261)(h2:i≠262)(u:Value):iK V B bs bm gI m (cs.setIfInBounds i u) P l vL (wr.setCell ⟨bm,i,none⟩ u):=by
 refine⟨h.kept.setCell _ _ (inl h.kd.1),h.below.setCell (p:=⟨bm,i,none⟩) h.lo.1 _,?_,by rw[Array.size_setIfInBounds];exact h.sz,by rw[getElem?_setIfInBounds_ne h1];exact h.cI,jE h.lG h.sm (by decide) _ _,jE h.de h.sm (by decide) _ _,h.loc,h.kd,h.lo⟩;have:=h.sm.set i u;rwa [zmp cs i h2 u vL] at this
theorem iK.other(h:iK V B bs bm gI m cs P l vL wr)(i:Nat)(hi:i≠262):wr.cell? ⟨bm,i,none⟩=cs[i]?:=by
 rw[h.sm.at_,getElem?_setIfInBounds_ne (fun e=>hi e.symm)]
theorem ji.grown{row:Option Nat}(h:ji V B bs bm gI m M cs l vL wr)(hg:wr.grownBy w1 row)(hr:∀g,row=some g->g∈bs\/V.heap.size<=g)(hB:∀g,row=some g->B<=g)
  (h1:some bm≠row) (h2:some gI≠row) (h3:∀b,vL.ownBlock=some b->some b≠row):ji V B bs bm gI m M cs l vL w1:=⟨h.r.grown hg hr hB h1 h2 h3,h.nd,h.lt⟩
theorem ji.yh(h:ji V B bs bm gI m M cs l vL wr)(i:Nat)(h1:i≠261)(h2:i≠262)(u:Value):ji V B bs bm gI m M (cs.setIfInBounds i u) l vL (wr.setCell ⟨bm,i,none⟩ u):=⟨h.r.yh i h1 h2 u,h.nd,h.lt⟩
def strs(l:List ByteArray):List Value:=l.map fun s=>.string s
def ints(l:List Int):List Value:=l.map fun x=>.int .i64 x
theorem pq:(prog.info? 9).map (fun i=>(i.zero,i.size,i.bytes))=some (some (.string ⟨#[]⟩),1,16):=by kernel_rfl
theorem Et:Keyed prog 9:=string_keyed underlying9
structure mH (V:World)(B:Nat)(bs:List Nat)(bM:Nat)(cs:Array Value)(vL:Value)(k q n:Nat)(ss:List ByteArray)(ms:List Int)(Q:Value->Value->Prop)(vS vK:Value)(wr:World):Prop where
 cK:cs[258]?=some vK
 cS:cs[259]?=some vS
 cM:cs[260]?=some (.map (some bM))
 os:wr.ownsRow B 9 1 vS k (strs ss)
 ok:wr.ownsRow B 3 1 vK q (ints ms)
 map:aO wr 9 bM n Q
 sep:∀b,vL.ownBlock=some b->vK.ownBlock≠some b
 lS:∀b,vS.ownBlock=some b->b∈bs\/V.heap.size<=b
 lK:∀b,vK.ownBlock=some b->b∈bs\/V.heap.size<=b
 lM:bM∈bs/\B<=bM
theorem mH.ab{Q:Value->Value->Prop}(h:mH V B bs bM cs vL k q n ss ms Q vS vK wr)(b:Below wr.heap.size wr w1):mH V B bs bM cs vL k q n ss ms Q vS vK w1:=
 ⟨h.cK,h.cS,h.cM,db h.os b,db h.ok b,h.map.same (b.block _ h.map.lt),h.sep,h.lS,h.lK,h.lM⟩
def Mi(V:World)(B:Nat)(bs:List Nat)(bm gI m M bM:Nat)(cs:Array Value)(l:List Nat)(vL:Value)(k n:Nat)(ss:List ByteArray)(ms:List Int)(Q':Value->Value->Prop)(s:ByteArray)(mk:Nat->Int)(e:Ending)(w':World):Prop:=
 ∃(r:Int) (vS' vK':Value),e=.returned (.int .i64 (k:Int))/\bU mk (fun x=>x∈l) r/\ji V B bs bm gI m M ((cs.setIfInBounds 259 vS').setIfInBounds 258 vK') l vL w'/\
  mH V B bs bM ((cs.setIfInBounds 259 vS').setIfInBounds 258 vK') vL (k+1) (k+1) (n+1) (ss++[s]) (ms++[r]) Q' vS' vK' w'
theorem AW{b g:Nat}{Q:Value->Value->Prop}(hm:aO w k b n Q)(h:St w t g cs):g≠b:=by
 rintro rfl;obtain⟨es,clock,hb,_⟩:=hm;have h1:w.heap[g]?=_:=h;rw[h1] at hb;cases hb
theorem xK{b size:Nat}{v:Value}{xs:List Value}{Q:Value->Value->Prop}(hm:aO w k b n Q)(h:w.ownsRow B t size v q xs):∀g,v.ownBlock=some g->g≠b:=by
 rintro g e rfl;obtain⟨c,fz,hc⟩:=qi h g e;obtain⟨es,clock,hb,_⟩:=hm;rw[hc] at hb;cases hb
theorem zqj{vS':Value}{Q:Value->Value->Prop}{s:ByteArray}
  (h:ji V B bs bm gI m M cs l vL W) (t:mH V B bs bM cs vL k q n ss ms Q vS vK W) (ho:w5.ownsRow B 9 1 vS' (k+1) (strs ss++[.string s])) (hg:W.grownBy w5 vS.ownBlock) (fx:vS'.ownBlock=vS.ownBlock\/vS'.ownBlock=some W.heap.size):
  ji V B bs bm gI m M (cs.setIfInBounds 259 vS') l vL (w5.setCell ⟨bm,259,none⟩ vS')/\mH V B bs bM (cs.setIfInBounds 259 vS') vL (k+1) q n (ss++[s]) ms Q vS' vK (w5.setCell ⟨bm,259,none⟩ vS'):=by
 have h5:=h.grown hg t.lS (kL t.os) (fun e=>eB t.os h.r.sm (by decide) bm e.symm rfl) (fun e=>iB t.os h.r.lG (by decide) gI e.symm rfl) (fun b e1 e2=>iB h.r.de t.os (by decide) b e1 e2.symm);have mN:=h5.r.sm;refine⟨h5.yh 259 (by decide) (by decide) vS',by rw[getElem?_setIfInBounds_ne (by decide)];exact t.cK,by rw[Array.getElem?_setIfInBounds_self_of_lt (by rw[h.r.sz];decide)],by rw[getElem?_setIfInBounds_ne (by decide)];exact t.cM,?_,
  jE (sO t.ok t.os (by decide) hg) mN (by decide) _ _,(t.map.ae t.os hg).set mN,t.sep,?_,t.lK,t.lM⟩
 ·rw[show strs (ss++[s])=strs ss++[.string s] by simp[strs]];exact jE ho mN (by decide) _ _
 intro b e1;rcases fx with h1|h1
 ·exact t.lS b (by rw[<-h1];exact e1)
 rw[h1] at e1;injection e1 with e1;exact inr (by rw[<-e1];exact h.r.below.size)
theorem T0{vK':Value}{Q:Value->Value->Prop}{r:Int}
  (h:ji V B bs bm gI m M cs l vL W) (t:mH V B bs bM cs vL k q n ss ms Q vS vK W) (ho:w5.ownsRow B 3 1 vK' (q+1) (ints ms++[.int .i64 r])) (hg:W.grownBy w5 vK.ownBlock) (fx:vK'.ownBlock=vK.ownBlock\/vK'.ownBlock=some W.heap.size):
  ji V B bs bm gI m M (cs.setIfInBounds 258 vK') l vL (w5.setCell ⟨bm,258,none⟩ vK')/\mH V B bs bM (cs.setIfInBounds 258 vK') vL k (q+1) n ss (ms++[r]) Q vS vK' (w5.setCell ⟨bm,258,none⟩ vK'):=by
 have h5:=h.grown hg t.lK (kL t.ok) (fun e=>eB t.ok h.r.sm (by decide) bm e.symm rfl) (fun e=>iB t.ok h.r.lG (by decide) gI e.symm rfl) (fun b e1 e2=>t.sep b e1 e2.symm);have mN:=h5.r.sm;refine⟨h5.yh 258 (by decide) (by decide) vK',by rw[Array.getElem?_setIfInBounds_self_of_lt (by rw[h.r.sz];decide)],by rw[getElem?_setIfInBounds_ne (by decide)];exact t.cS,by rw[getElem?_setIfInBounds_ne (by decide)];exact t.cM,
  jE (sO t.os t.ok (by decide) hg) mN (by decide) _ _,?_,(t.map.ae t.ok hg).set mN,fun b e1 e2=>?_,t.lS,?_,t.lM⟩
 ·rw[show ints (ms++[r])=ints ms++[.int .i64 r] by simp[ints]];exact jE ho mN (by decide) _ _
 ·rcases fx with h1|h1
  ·exact t.sep b e1 (by rw[<-h1];exact e2)
  rw[h1] at e2;injection e2 with e2;obtain⟨c,fz,hc⟩:=qi h.r.de b e1;have:=(Array.getElem?_eq_some_iff.1 hc).1;omega
 intro b e1;rcases fx with h1|h1
 ·exact t.lK b (by rw[<-h1];exact e1)
 rw[h1] at e1;injection e1 with e1;exact inr (by rw[<-e1];exact h.r.below.size)
theorem U5{n':Nat}{Q Q':Value->Value->Prop}
  (h:ji V B bs bm gI m M cs l vL W) (t:mH V B bs bM cs vL k q n ss ms Q vS vK W) (hm:aO w5 9 bM n' Q') (hg:W.grownBy w5 (some bM)):
  ji V B bs bm gI m M cs l vL w5/\mH V B bs bM cs vL k q n' ss ms Q' vS vK w5:=by
 have pe:=t.map;have h5:=h.grown hg (fun g e=>by injection e with e;rw[<-e];exact inl t.lM.1) (fun g e=>by injection e with e;rw[<-e];exact t.lM.2) (fun e=>by injection e with e;exact AW pe h.r.sm e) (fun e=>by injection e with e;exact xK pe h.r.lG gI rfl e) (fun b e1 e2=>by injection e2 with e2;exact xK pe h.r.de b e1 e2);exact⟨h5,t.cK,t.cS,t.cM,wV t.os pe.of hg,wV t.ok pe.of hg,hm,t.sep,t.lS,t.lK,t.lM⟩
theorem Vv(f t:Nat):cQ (bG f t).z=[.int .i64 (f:Int),.int .i64 (t:Int),.int .u64 0,.int .u64 0,.int .u64 0,.int .u64 0,.bool true]:=by
 simp[cQ,En.z,bG,wQ]
theorem uh(f t:Nat)(w:World):Calls prog 69 #[.int .i64 (f:Int),.int .i64 (t:Int)] w fun e w'=>e=.returned (.agg #[.int .i64 (f:Int),.int .i64 (t:Int),.int .u64 0,.int .u64 0,.int .u64 0,.int .u64 0,.bool true])/\Below w.heap.size w w':=by
 have HB:=hid ((Below.refl w.heap.size w).alloc (le_refl _) (.cells #[.int .i64 (f:Int),.int .i64 (t:Int),.int .u64 0,.int .u64 0,.int .u64 0,.int .u64 0,.bool true] 117));have HS:=hid (St.new w 117 #[.int .i64 (f:Int),.int .i64 (t:Int),.int .u64 0,.int .u64 0,.int .u64 0,.int .u64 0,.bool true]);go_in;go_wp2_with fail;generalize w.alloc (.cells #[.int .i64 (f:Int),.int .i64 (t:Int),.int .u64 0,.int .u64 0,.int .u64 0,.int .u64 0,.bool true] 117)=W at HB HS⊢;obtain⟨v0,v1,v2,v3,v4,v5,v6⟩:=Xi HS.out;exact bodyPost_ret (v:=.agg #[.int .i64 (f:Int),.int .i64 (t:Int),.int .u64 0,.int .u64 0,.int .u64 0,.int .u64 0,.bool true]) (by simp[results,results69,go_sem,v0,v1,v2,v3,v4,v5,v6]) rfl ⟨rfl,HB.out⟩
theorem Ww(L:List En)(o:Nat)(a:Option Addr)(n c:Nat)(w:World)(hL:gV w a (L.map En.z))(hn:L.length=n)(dG:n<=1000)(ho:o<=1000000)(hb:∀e∈L,e.f<=1000000/\e.t<=1000000):
  Calls prog 70 #[.slice a n c,.int .i64 (o:Int)] w fun e w'=>∃g,e=.returned (.slice (some ⟨g,0,none⟩) n n)/\w'.ownsRow w.heap.size 117 7 (.slice (some ⟨g,0,none⟩) n n) n (dj ((L.map (En.by o)).map En.z))/\Below w.heap.size w w':=by
 have HL:=ξ hL hn hb;obtain⟨i0,hi,dv,cP,cG⟩:=info_parts kc;have dc:(prog.info? 117).map (·.size)=some 7:=by kernel_rfl
 clear hL hn hb;go_in;go_wp2_with (at_make;refine wpList_make_full _ rfl _ _ 53 rfl w.heap.size 117 i0 (.agg #[.int .i64 0,.int .i64 0,.int .u64 0,.int .u64 0,.int .u64 0,.int .u64 0,.bool false]) 7 underlying53 hi dv cP .i64 .i64 _ _ n rfl rfl ?c1 ?c2 ?c3 ?c4 ?c5 ?_)
 case c1=>omega
 case c2=>omega
 case c3=>rw[cG];omega
 case c4=>unfold maxLen;omega
 case c5=>omega
 intro w1 az dy;have eQ:Below w.heap.size w w1:=⟨dy.os,dy.tape,dy.output,dy.size,fun k hk=>dy.block k hk (by simp)⟩
 have HO:=ξ az eQ (zo az);have HX:Hid ((dj (L.map En.z)).length=n*7/\(0<n->∃ad,a=some ad/\∀j v,(dj (L.map En.z))[j]?=some v->w1.cell? (ad.add j)=some v)):=by
  show _/\_;have hlen:(dj (L.map En.z)).length=n*7:=by rw[N1,length_map,HL.out.2.1]
  refine⟨hlen,fun h0=>?_⟩;obtain⟨g,off,e,hg,hc⟩:=(HL.out.1.below eQ) (by rw[length_map,HL.out.2.1];exact h0);refine⟨_,e,fun j v hj=>?_⟩;have hjl:=(List.getElem?_eq_some_iff.1 hj).1;have:(⟨g,off,none⟩:Addr).add j=⟨g,off+j,none⟩:=by unfold Addr.add;split <;> simp_all
  rw[this,hc j (by rw[<-N1];exact hjl)];exact hj
 clear az dy eQ;go_wp2_with (refine zdD rfl _ _ _ _ rfl 117 7 underlying53 dc w.heap.size n n c a rfl rfl _ 117 HO.out.2.2.1 (dj (L.map En.z)) HX.out.1 (by have:=HO.out.2.2.2.2.2;have h2:=HX.out.1;simp at this⊢;omega) HX.out.2 (GL _) ?_);have HA:Hid ((w1.setRow w.heap.size (dj (L.map En.z)).toArray).ownsRow w.heap.size 117 7 (.slice (some ⟨w.heap.size,0,none⟩) n n) n (dj ((mx o L 0).map En.z))/\Below w.heap.size w (w1.setRow w.heap.size (dj (L.map En.z)).toArray)):=
  ⟨VZ HO.out.1 HX.out.1,below_setRow HO.out.2.1 (le_refl _) _⟩
 generalize w1.setRow w.heap.size (dj (L.map En.z)).toArray=w2 at HA⊢;clear HO HX;go_wp2;go_loopw [6,15] (fun _ i wr=>∃k:Nat,i=.int .i64 k/\k<=n/\Hid (wr.ownsRow w.heap.size 117 7 (.slice (some ⟨w.heap.size,0,none⟩) n n) n (dj ((mx o L k).map En.z))/\Below w.heap.size w wr)) (fun _ i _=>n-(intOf i).toNat)
 ·exact⟨0,rfl,zero_le _,HA⟩
 clear HA;obtain⟨k,rfl,hk,HA⟩:=hrel;by_cases aq:k<n
 ·have hkl:k<L.length:=by rw[HL.out.2.1];exact aq
  have FL:k<((mx o L k).map En.z).length:=by rw[length_map,Xt];exact hkl
  have hx:=HL.out.2.2 L[k] (List.getElem_mem _);have bY:St wr 117 w.heap.size (dj ((mx o L k).map En.z)).toArray:=(zo HA.out.1).1;have P9:∀j,j<7->(dj ((mx o L k).map En.z))[k*7+j]?=(cQ L[k].z)[j]?:=fun j hj=>by
   rw[Pe _ k FL j hj,getElem_map,Rk o L k hkl]
  have c0:wr.cell? ⟨w.heap.size,k*7,none⟩=some (.int .i64 ((L[k].f:Nat):Int)):=by rw[bY.at_,List.getElem?_toArray];exact P9 0 (by omega)
  have c1:wr.cell? ⟨w.heap.size,k*7+1,none⟩=some (.int .i64 ((L[k].t:Nat):Int)):=by rw[bY.at_,List.getElem?_toArray];exact P9 1 (by omega)
  have f0:=bY.bb (k*7);have f1:=bY.bb (k*7+1);have HF:Hid (((wr.setCell ⟨w.heap.size,k*7,none⟩ (.int .i64 ((L[k].f:Int)+(o:Int)))).setCell ⟨w.heap.size,k*7+1,none⟩ (.int .i64 ((L[k].t:Int)+(o:Int)))).ownsRow w.heap.size 117 7 (.slice (some ⟨w.heap.size,0,none⟩) n n) n (dj ((mx o L (k+1)).map En.z))/\
    Below w.heap.size w ((wr.setCell ⟨w.heap.size,k*7,none⟩ (.int .i64 ((L[k].f:Int)+(o:Int)))).setCell ⟨w.heap.size,k*7+1,none⟩ (.int .i64 ((L[k].t:Int)+(o:Int))))):=by
   show _/\_
   refine⟨?_,(HA.out.2.setCell (p:=⟨w.heap.size,k*7,none⟩) (le_refl _) _).setCell (p:=⟨w.heap.size,k*7+1,none⟩) (le_refl _) _⟩
   have h1:=TL (TL HA.out.1 (k*7) (by omega) (.int .i64 ((L[k].f:Int)+(o:Int)))) (k*7+1) (by omega) (.int .i64 ((L[k].t:Int)+(o:Int)))
   have h2:=zpz ((mx o L k).map En.z) k (L[k].by o).z FL (by rw[getElem_map,Rk o L k hkl];rfl) (by rw[getElem_map,Rk o L k hkl];rfl)
   rw[<-List.map_set,zqE o L k hkl] at h2
   rw[h2]
   exact h1
  generalize L[k].f=xf at c0 hx HF;generalize L[k].t=xt at c1 hx HF;clear bY P9 hkl FL HA;go_wp2;go_roundw
  ·exact⟨k+1,by go_num,by omega,HF⟩
  simp[intOf];omega
 obtain rfl:k=n:=by omega
 have HF:Hid (wr.ownsRow w.heap.size 117 7 (.slice (some ⟨w.heap.size,0,none⟩) k k) k (dj ((L.map (En.by o)).map En.z))/\Below w.heap.size w wr):=by
  show _/\_;have h:=HA.out;rw[show mx o L k=L.map (En.by o) by unfold mx;rw[List.take_of_length_le (by rw[HL.out.2.1];exact le_refl _),List.drop_eq_nil_of_le (by rw[HL.out.2.1];exact le_refl _),List.append_nil]] at h;exact h
 go_wp2;go_ret;exact⟨w.heap.size,rfl,HF.out.1,HF.out.2⟩
theorem si{P:Program}{o:Oper}{K:Act->World->Prop}{Q:Exit->Act->World->Prop}{E:Prop}(oE:o.guard=none)(s x:Operand)(t:TypeId)
  (ho:o.op=.call { callee:=.builtin .append,args:=#[s,x],argTypes:=#[t,t] })
  (base:Nat) (e:TypeId) (i:TypeInfo) (z:Value) (size bytes:Nat) (ht:P.underlying t=some (.slice e)) (hi:P.info? e=some i) (hz:i.zero=some z)
  (qO:i.size=size) (Jw:i.bytes=bytes) (Jz:z.cells.size=size) (dc:0<size)
  (v:Value) (n:Nat) (xs:List Value) (hs:a.eval s=v) (az:w.ownsRow base e size v n xs)
  (ad:Addr) (m c:Nat) (news:List Value) (hx:a.eval x=.slice (some ad) m c) (hl:news.length=m*size) (nw:∀j u,news[j]?=some u->w.cell? (ad.add j)=some u) (h1:∀u∈news,u.oneCell'=true)
  (JJ:n+m<=maxLen) (kQ:(n+m)*bytes<=140737488355328) (rP:base<=w.heap.size)
  (h:∀v' w',w'.ownsRow base e size v' (n+m) (xs++news)->w.grownBy w' v.ownBlock->K (a.put o.dst v') w'):
  if wanted o (yielded ops a.tmps)=true then Oper.wp P o a w K Q else E:=by
 have hw:wanted o (yielded ops a.tmps)=true:=by simp[wanted,oE]
 rw[if_pos hw];obtain⟨v',w',hr,h2,h3,_,_⟩:=run_append_own_at (P:=P) w base t o.type e i z size bytes ht hi hz qO Jw Jz dc v n xs az ad m c news hl nw h1 JJ kQ rP;unfold Oper.wp execOp;simp only[ho,resolve,invoke,builtin,run_bind,run_pure,Result.andThen_ok,List.map_toArray,map_cons,map_nil,hs,hx,hr];exact h v' w' h2 h3
structure Mg where
 S:Int
 F:Int
 T:Int
 a:Option Addr
 c:Nat
 L:List Eg
def yp(w:World)(a:Option Addr)(n:Nat)(G:Nat->Mg):Prop:=0<n->∃g off,a=some ⟨g,off,none⟩/\g<w.heap.size/\∀k,k<n->
 (w.cell? ⟨g,off+k*4,none⟩=some (.int .i64 (G k).S)/\w.cell? ⟨g,off+k*4+1,none⟩=some (.slice (G k).a (G k).L.length (G k).c)/\w.cell? ⟨g,off+k*4+2,none⟩=some (.int .i64 (G k).F)/\w.cell? ⟨g,off+k*4+3,none⟩=some (.int .i64 (G k).T))/\gV w (G k).a (G k).L
theorem yp.below{w':World}{a:Option Addr}{G:Nat->Mg}(h:yp w a n G)(k:Below w.heap.size w w'):yp w' a n G:=by
 intro h0;obtain⟨g,off,e,hg,hc⟩:=h h0;have:=k.size;refine⟨g,off,e,by omega,fun j hj=>?_⟩;obtain⟨⟨h1,h2,h3,h4⟩,h5⟩:=hc j hj;exact⟨⟨(k.cell (p:=⟨g,_,none⟩) hg).trans h1,(k.cell (p:=⟨g,_,none⟩) hg).trans h2,(k.cell (p:=⟨g,_,none⟩) hg).trans h3,(k.cell (p:=⟨g,_,none⟩) hg).trans h4⟩,h5.below k⟩
def NF.mg(m:NF)(a:Option Addr)(c:Nat):Mg:=⟨(m.N:Int),(m.F:Int),(m.T:Int),a,c,m.L.map En.z⟩
def jZ(M:Nat->NF):Nat->List Nat
 | 0=>[]
 | k+1=>jZ M k++[uo M k+(M k).T]
theorem zmq(M:Nat->NF)(k:Nat):(jZ M k).length=k:=by
 induction k with
 | zero=>rfl
 | succ k ih=>simp[jZ,ih]
structure sy (w:World)(p:Nat)(L:List En)(k:Nat)(ls:List Nat)(vE vL:Value)(wr:World):Prop where
 s2:St wr 55 w.heap.size #[.int .i64 0,.slice none 0 0,.int .i64 0,.int .i64 0]
 s4:St wr 55 (w.heap.size+1) #[.int .i64 (p:Int),vE,.int .i64 0,.int .i64 0]
 oe:wr.ownsRow w.heap.size 117 7 vE L.length (dj (L.map En.z))
 ol:wr.ownsRow w.heap.size 3 1 vL k (cY ls)
 below:Below w.heap.size w wr
theorem sy.ab{p:Nat}(h:sy w p L k ls vE vL wr)(b:Below wr.heap.size wr w1):sy w p L k ls vE vL w1:=
 ⟨h.s2.ab b,h.s4.ab b,db h.oe b,db h.ol b,h.below.trans (b.mono h.below.size)⟩
theorem sy.app{w wr w1:World}{p k:Nat}{L L2:List En}{ls:List Nat}{vE vL vE':Value}(h:sy w p L k ls vE vL wr)(ho:w1.ownsRow w.heap.size 117 7 vE' (L++L2).length (dj (L.map En.z)++dj (L2.map En.z)))(hg:wr.grownBy w1 vE.ownBlock):
  sy w p (L++L2) k ls vE' vL (w1.setCell ⟨w.heap.size+1,1,none⟩ vE'):=by
 have h2:=h.s2.ae h.oe (by decide) hg;have h4:=h.s4.ae h.oe (by decide) hg;refine⟨h2.fK (p:=⟨w.heap.size+1,1,none⟩) (by show w.heap.size≠w.heap.size+1;omega) _,?_,?_,jE (sO h.ol h.oe (by decide) hg) h4 (by decide) 1 vE',(fL h.below h.oe h.below.size hg).setCell (p:=⟨w.heap.size+1,1,none⟩) (by show w.heap.size<=w.heap.size+1;omega) _⟩
 ·have:=h4.set 1 vE';simpa using this
 rw[List.map_append,zeX];exact jE ho h4 (by decide) 1 vE'
theorem sy.last{p N:Nat}{o:Obj}(h:sy w p L k ls vE vL wr)(ho:w1.ownsRow w.heap.size 3 1 jr (k+1) (cY ls++[.int .i64 (t:Int)]))(hg:(wr.alloc o).grownBy w1 vL.ownBlock):
  sy w (p+N) L (k+1) (ls++[t]) vE jr (w1.setCell ⟨w.heap.size+1,0,none⟩ (.int .i64 ((p:Int)+(N:Int)))):=by
 have h0:sy w p L k ls vE vL (wr.alloc o):=h.ab (al wr o);have h2:=h0.s2.ae h0.ol (by decide) hg;have h4:=h0.s4.ae h0.ol (by decide) hg;refine⟨h2.fK (p:=⟨w.heap.size+1,0,none⟩) (by show w.heap.size≠w.heap.size+1;omega) _,?_,jE (sO h0.oe h0.ol (by decide) hg) h4 (by decide) 0 _,?_,(fL h0.below h0.ol h0.below.size hg).setCell (p:=⟨w.heap.size+1,0,none⟩) (by show w.heap.size<=w.heap.size+1;omega) _⟩
 ·have:=h4.set 0 (.int .i64 ((p:Int)+(N:Int)));simpa using this
 rw[xG];exact jE ho h4 (by decide) 0 _
theorem zmr(M:Nat->NF)(n:Nat)(hM:∀k,k<n->(M k).ok/\(M k).N<=1000/\(M k).L.length<=1000)(hn:n<=100)(A:Nat->Option Addr)(C:Nat->Nat)(a:Option Addr)(c:Nat)(w:World)(hL:yp w a n (fun k=>(M k).mg (A k) (C k))):
  Calls prog 39 #[.slice a n c] w fun e w'=>∃aE cE aL cL,e=.returned (.tuple #[.agg #[.int .i64 (uo M n),.slice aE (uE M n).length cE,.int .i64 0,.int .i64 0],.slice aL n cL])/\
   w'.ownsRow w.heap.size 117 7 (.slice aE (uE M n).length cE) (uE M n).length (dj ((uE M n).map En.z))/\w'.ownsRow w.heap.size 3 1 (.slice aL n cL) n (cY (jZ M n))/\Below w.heap.size w w':=by
 have HL:=ζ hL hM;have HU:Hid (sy w (uo M 0) (uE M 0) 0 (jZ M 0) (.slice none 0 0) (.slice none 0 0) ((w.alloc (.cells #[.int .i64 0,.slice none 0 0,.int .i64 0,.int .i64 0] 55)).alloc (.cells #[.int .i64 1,.slice none 0 0,.int .i64 0,.int .i64 0] 55))):=by
  refine⟨(St.new w _ _).alloc _,?_,ownsRow_nil _ _ _ _,ownsRow_nil _ _ _ _,((Below.refl _ _).alloc (le_refl _) _).alloc (by simp) _⟩;have:=St.new (w.alloc (.cells #[.int .i64 0,.slice none 0 0,.int .i64 0,.int .i64 0] 55)) 55 #[.int .i64 1,.slice none 0 0,.int .i64 0,.int .i64 0];exact (by simpa using this:St _ 55 (w.heap.size+1) #[.int .i64 1,.slice none 0 0,.int .i64 0,.int .i64 0])
 clear hL hM;go_in;go_wp2_with fail;generalize (w.alloc (.cells #[.int .i64 0,.slice none 0 0,.int .i64 0,.int .i64 0] 55)).alloc (.cells #[.int .i64 1,.slice none 0 0,.int .i64 0,.int .i64 0] 55)=W0 at HU⊢;go_loopw [5,7,11] (fun v _ i wr=>∃(k:Nat) (aE:Option Addr) (cE:Nat) (aL:Option Addr) (cL:Nat),i=.int .i64 k/\k<=n/\v=.slice aL k cL/\Hid (sy w (uo M k) (uE M k) k (jZ M k) (.slice aE (uE M k).length cE) (.slice aL k cL) wr)) (fun _ _ i _=>n-(intOf i).toNat)
 ·exact⟨0,none,0,none,0,rfl,zero_le _,rfl,HU⟩
 clear HU;obtain⟨k,aE,cE,aL,cL,rfl,hk,rfl,HA⟩:=hrel;by_cases aq:k<n
 ·obtain⟨g,off,rfl,hg,mS⟩:=(HL.out.1.below HA.out.below) (by omega);obtain⟨⟨c0,c1,c2,c3⟩,_⟩:=mS k aq;have Qt:gV w (A k) ((M k).mg (A k) (C k)).L:=by
   obtain⟨g',kJ,_,_,h⟩:=HL.out.1 (by omega);exact (h k aq).2
  simp only[NF.mg,length_map] at c0 c1 c2 c3 Qt;obtain⟨zk,Bp,tX⟩:=HL.out.2 k aq;have fQ:=OA M k 1000 (fun j hj=>(HL.out.2 j (by omega)).2.1);have CZ:=YO M k 1000 (fun j hj=>(HL.out.2 j (by omega)).2.2);have hf:=zk.f;have ht:=zk.t;have Nc:Hid (uo M (k+1)=uo M k+(M k).N/\uE M (k+1)=uE M k++[bG 0 (uo M k+(M k).F)]++(M k).L.map (En.by (uo M k))/\jZ M (k+1)=jZ M k++[uo M k+(M k).T]):=⟨rfl,by rw[List.append_assoc];rfl,rfl⟩
  have KF:=ζ zk Qt;clear mS zk Qt;obtain⟨p,hp⟩:∃p,uo M k=p:=⟨_,rfl⟩
  obtain⟨E,hE⟩:∃E,uE M k=E:=⟨_,rfl⟩
  obtain⟨⟨N,F,T,L⟩,hm⟩:∃m,M k=m:=⟨_,rfl⟩
  rw[hp,hE] at HA;rw[hp,hE,hm] at Nc;rw[hm] at c0 c1 c2 c3 Bp tX hf ht KF;rw[hp] at fQ;rw[hE] at CZ;dsimp only at c0 c1 c2 c3 Bp tX hf ht;clear hp hE hm;have px:k*1000<=100000:=by omega
  have ka:k*(1000+1)<=100100:=by omega
  have Br:p<=100001:=by omega
  have hEb:E.length<=100100:=by omega
  clear fQ CZ px ka;obtain⟨z0,z1,z2,z3⟩:=HA.out.s4.bZ;have ph:=hid (HA.out.ab ((Below.refl wr.heap.size wr).alloc (le_refl _) (.cells #[.int .i64 (N:Int),.slice (A k) L.length (C k),.int .i64 (F:Int),.int .i64 (T:Int)] 55)));have oB:=hid (St.new wr 55 #[.int .i64 (N:Int),.slice (A k) L.length (C k),.int .i64 (F:Int),.int .i64 (T:Int)]);obtain⟨ak,Nd⟩:∃ak,A k=ak:=⟨_,rfl⟩
  obtain⟨ck,Fq⟩:∃ck,C k=ck:=⟨_,rfl⟩
  rw[Nd,Fq] at ph oB;rw[Nd,Fq] at c1;rw[Nd] at KF;clear Nd Fq;go_wp2_with fail;generalize wr.alloc (.cells #[.int .i64 (N:Int),.slice ak L.length ck,.int .i64 (F:Int),.int .i64 (T:Int)] 55)=W1 at ph oB⊢;have hb47:w.heap.size+1<wr.heap.size:=HA.out.s4.lt;have PC:Hid (∀e∈L,e.f<=1000000/\e.t<=1000000):=fun e he=>by
   have:e.f<N/\e.t<N:=KF.out.1.e e he;omega
  have C6:Hid (∀W:World,Calls prog 69 #[.int .i64 0,.int .i64 ((p:Int)+(F:Int))] W (fun e w'=>e=.returned (.agg #[.int .i64 0,.int .i64 ((p:Int)+(F:Int)),.int .u64 0,.int .u64 0,.int .u64 0,.int .u64 0,.bool true])/\Below W.heap.size W w')):=fun W=>by
   have:=uh 0 (p+F) W;simpa using this
  have Wr:Hid (IntKind.i64.wrap ((p:Int)+(F:Int))=(p:Int)+(F:Int)):=IntWalk.i64_in _ (by omega);have Du:Hid (dj ([bG 0 (p+F)].map En.z)=[.int .i64 0,.int .i64 ((p:Int)+(F:Int)),.int .u64 0,.int .u64 0,.int .u64 0,.int .u64 0,.bool true]):=by
   show dj [(bG 0 (p+F)).z]=_;simp[dj,Vv]
  obtain⟨i0,hi,dv,cP,cG⟩:=info_parts kc;clear HA z0 z1 z2 z3 c0 c1 c2 c3
  go_cut [5] from 15 to 25 (fun v wx=>∃(RN:Option Addr) (Q3:Nat),v=.slice aL k cL/\sy w p (E++[bG 0 (p+F)]) k (jZ M k) (.slice RN (E.length+1) Q3) (.slice aL k cL) wx/\St wx 55 wr.heap.size #[.int .i64 (N:Int),.slice ak L.length ck,.int .i64 (F:Int),.int .i64 (T:Int)])
  case first=>
   have iX:=hid (ph.out.ab (Below.refl W1.heap.size W1).drew);have kD:Hid (St W1.drew 55 wr.heap.size #[.int .i64 (N:Int),.slice ak L.length ck,.int .i64 (F:Int),.int .i64 (T:Int)]):=oB.out.drew;have e2:W1.drew.cell? ⟨w.heap.size+1,1,none⟩=some (.slice aE E.length cE):=iX.out.s4.at_ 1;have dz:Hid (∀(W:World) (v:Value),St W 55 (w.heap.size+1) #[.int .i64 (p:Int),v,.int .i64 0,.int .i64 0]->St W 55 wr.heap.size #[.int .i64 (N:Int),.slice ak L.length ck,.int .i64 (F:Int),.int .i64 (T:Int)]->(W.cell? ⟨w.heap.size+1,0,none⟩=some (.int .i64 (p:Int))/\W.cell? ⟨wr.heap.size,2,none⟩=some (.int .i64 (F:Int)))):=(fun W v h1 h2=>⟨h1.at_ 0,h2.at_ 2⟩);refine wp_region_held_drew (S:=fun W'=>W'.cell? ⟨w.heap.size+1,0,none⟩=some (.int .i64 (p:Int))/\W'.cell? ⟨wr.heap.size,2,none⟩=some (.int .i64 (F:Int))) (by kernel_rfl) (dz.out _ _ iX.out.s4 kD.out) (fun η=>?_)
   (refine an 0 ?_;refine an 2 ?_;refine an 3 ?_;try simp only[put,sA];refine an 4 ?_;refine an 5 ?_;refine an 6 ?_;try simp only[put,sA])
   ·refine wpAnyH_ready (rs:=[1,7]) (by kernel_rfl) (by simp) (hJ (fun K hK=>?_) (hJ (fun K hK=>?_) AllReadyH.nil))
    skip;go_simp;refine hK.out _ _ (dz.out _ _ iX.out.s4 kD.out) fun η=>?_;clear hK K
    try simp only[put,sA]
    refine bc 7 (fun K hK=>?_);skip;go_simp;rw[Wr.out];go_at_call 69;refine (C6.out _).mono ?_;rintro e w5 ⟨rfl,v5⟩;have dr:=hid (iX.out.ab v5);have oI:=hid (kD.out.ab v5);have e5:w5.cell? ⟨w.heap.size+1,1,none⟩=some (.slice aE E.length cE):=dr.out.s4.at_ 1;clear v5
    try go_wp2_with fail
    refine hK.out _ _ (dz.out _ _ dr.out.s4 oI.out) fun η=>?_;clear hK K
    try simp only[put,sA]
    refine bc 8 (fun K hK=>?_);skip;go_simp;have iL:=hid (dr.out.ab (al w5 (.cells #[.int .i64 0,.int .i64 ((p:Int)+(F:Int)),.int .u64 0,.int .u64 0,.int .u64 0,.int .u64 0,.bool true] 117)));have AB:=hid (oI.out.ab (al w5 (.cells #[.int .i64 0,.int .i64 ((p:Int)+(F:Int)),.int .u64 0,.int .u64 0,.int .u64 0,.int .u64 0,.bool true] 117)));have e6:(w5.alloc (.cells #[.int .i64 0,.int .i64 ((p:Int)+(F:Int)),.int .u64 0,.int .u64 0,.int .u64 0,.int .u64 0,.bool true] 117)).cell? ⟨w.heap.size+1,1,none⟩=some (.slice aE E.length cE):=iL.out.s4.at_ 1;refine hK.out _ _ (dz.out _ _ iL.out.s4 AB.out) fun η=>?_;clear hK K
    rotate_left
    skip;go_simp;rw[Wr.out];go_at_call 69;refine (C6.out _).mono ?_;rintro e w5 ⟨rfl,v5⟩;have dr:=hid (iX.out.ab v5);have oI:=hid (kD.out.ab v5);have e5:w5.cell? ⟨w.heap.size+1,1,none⟩=some (.slice aE E.length cE):=dr.out.s4.at_ 1;clear v5
    try go_wp2_with fail
    refine hK.out _ _ (dz.out _ _ dr.out.s4 oI.out) fun η=>?_;clear hK K
    try simp only[put,sA]
    refine wpAnyH_ready (rs:=[1,8]) (by kernel_rfl) (by simp) (hJ (fun K hK=>?_) (hJ (fun K hK=>?_) AllReadyH.nil))
    skip;go_simp;refine hK.out _ _ (dz.out _ _ dr.out.s4 oI.out) fun η=>?_;clear hK K
    try simp only[put,sA]
    refine bc 8 (fun K hK=>?_);skip;go_simp;have iL:=hid (dr.out.ab (al w5 (.cells #[.int .i64 0,.int .i64 ((p:Int)+(F:Int)),.int .u64 0,.int .u64 0,.int .u64 0,.int .u64 0,.bool true] 117)));have AB:=hid (oI.out.ab (al w5 (.cells #[.int .i64 0,.int .i64 ((p:Int)+(F:Int)),.int .u64 0,.int .u64 0,.int .u64 0,.int .u64 0,.bool true] 117)));have e6:(w5.alloc (.cells #[.int .i64 0,.int .i64 ((p:Int)+(F:Int)),.int .u64 0,.int .u64 0,.int .u64 0,.int .u64 0,.bool true] 117)).cell? ⟨w.heap.size+1,1,none⟩=some (.slice aE E.length cE):=iL.out.s4.at_ 1;refine hK.out _ _ (dz.out _ _ iL.out.s4 AB.out) fun η=>?_;clear hK K
    rotate_left
    skip;go_simp;have iL:=hid (dr.out.ab (al w5 (.cells #[.int .i64 0,.int .i64 ((p:Int)+(F:Int)),.int .u64 0,.int .u64 0,.int .u64 0,.int .u64 0,.bool true] 117)));have AB:=hid (oI.out.ab (al w5 (.cells #[.int .i64 0,.int .i64 ((p:Int)+(F:Int)),.int .u64 0,.int .u64 0,.int .u64 0,.int .u64 0,.bool true] 117)));have e6:(w5.alloc (.cells #[.int .i64 0,.int .i64 ((p:Int)+(F:Int)),.int .u64 0,.int .u64 0,.int .u64 0,.int .u64 0,.bool true] 117)).cell? ⟨w.heap.size+1,1,none⟩=some (.slice aE E.length cE):=iL.out.s4.at_ 1;refine hK.out _ _ (dz.out _ _ iL.out.s4 AB.out) fun η=>?_;clear hK K
    try simp only[put,sA]
    refine bc 1 (fun K hK=>?_);skip;go_simp;refine hK.out _ _ (dz.out _ _ iL.out.s4 AB.out) fun η=>?_;clear hK K
    rotate_left
    all_goals
     try simp only[put,sA]
     refine bc 9 (fun K hK=>?_);skip;skip;refine si (by rfl) _ _ _ (by rfl) w.heap.size 117 i0 (.agg #[.int .i64 0,.int .i64 0,.int .u64 0,.int .u64 0,.int .u64 0,.int .u64 0,.bool false]) 7 56 underlying53 hi dv cP cG (by rfl) (by decide) _ E.length (dj (E.map En.z)) (by rfl) iL.out.oe ⟨w5.heap.size,0,none⟩ 1 1 (#[.int .i64 0,.int .i64 ((p:Int)+(F:Int)),.int .u64 0,.int .u64 0,.int .u64 0,.int .u64 0,.bool true]).toList (by rfl) (by rfl) (news_of_block (cs:=#[.int .i64 0,.int .i64 ((p:Int)+(F:Int)),.int .u64 0,.int .u64 0,.int .u64 0,.int .u64 0,.bool true]) (t:=117) (fr:=(0,0)) (heap_alloc_new w5 _)) (by simp[oneCell']) (by unfold maxLen;omega) (by omega) iL.out.below.size ?_;intro v6 w6 aj af;obtain⟨a6,c6,rfl⟩:=bP aj;have fq:=iL.out.s4.ae iL.out.oe (by decide) af;have pU:=AB.out.ae iL.out.oe (by decide) af;have pC:=hid (iL.out.app (L2:=[bG 0 (p+F)]) (vE':=.slice a6 (E.length+1) c6) (by first|exact (by rw[Du.out];exact aj)|(rw[length_append];exact (by rw[Du.out];exact aj))) af);have uy:=hid (pU.fK (p:=⟨w.heap.size+1,1,none⟩) (by show wr.heap.size≠w.heap.size+1;omega) (.slice a6 (E.length+1) c6));have t3:w6.cell? ⟨w.heap.size+1,1,none⟩=some (.slice aE E.length cE):=fq.at_ 1;have f3:=fq.bb 1;refine hK.out _ _ (dz.out _ _ fq pU) fun η=>?_;clear hK K aj af fq pU
     try simp only[put,sA]
     (refine an 10 ?_;try simp only[put,sA])
     refine bc 11 (fun K hK=>?_);skip;go_simp;refine hK.out _ _ (dz.out _ _ pC.out.s4 uy.out) fun η=>?_;clear hK K
     try simp only[put,sA]
     refine wpAnyH_done (by kernel_rfl) ?_ _;clear η;go_wp2_with fail
     go_meet
     exact⟨_,_,rfl,pC.out,uy.out⟩
  case rest=>
   obtain⟨Ky,I4,rfl,Fo,Bp⟩:=hcut;obtain⟨E1,CZ⟩:∃E1,E++[bG 0 (p+F)]=E1:=(⟨_,rfl⟩);have GW:E1.length=E.length+1:=(by rw[<-CZ];simp);have me:=hid CZ;rw[CZ,<-GW] at Fo;have hE1b:E1.length<=100101:=(by omega);have ph:=hid Fo;have oB:=hid Bp;clear Fo Bp CZ GW C6 Du Wr;obtain⟨z0,z1,z2,z3⟩:=ph.out.s4.bZ;go_wp2_with fail
   go_cut [5] from 26 to 34 (fun v wx=>∃(RN:Option Addr) (Q3:Nat),v=.slice aL k cL/\sy w p (E1++L.map (En.by p)) k (jZ M k) (.slice RN (E1.length+L.length) Q3) (.slice aL k cL) wx/\St wx 55 wr.heap.size #[.int .i64 (N:Int),.slice ak L.length ck,.int .i64 (F:Int),.int .i64 (T:Int)])
   case first=>
    have iX:=hid (ph.out.ab (Below.refl wc.heap.size wc).drew);have kD:Hid (St wc.drew 55 wr.heap.size #[.int .i64 (N:Int),.slice ak L.length ck,.int .i64 (F:Int),.int .i64 (T:Int)]):=oB.out.drew;have e2:wc.drew.cell? ⟨w.heap.size+1,1,none⟩=some (.slice Ky E1.length I4):=iX.out.s4.at_ 1;clear z0 z1 z2 z3;have dz:Hid (∀(W:World) (v:Value),St W 55 (w.heap.size+1) #[.int .i64 (p:Int),v,.int .i64 0,.int .i64 0]->St W 55 wr.heap.size #[.int .i64 (N:Int),.slice ak L.length ck,.int .i64 (F:Int),.int .i64 (T:Int)]->(W.cell? ⟨w.heap.size+1,0,none⟩=some (.int .i64 (p:Int))/\W.cell? ⟨wr.heap.size,1,none⟩=some (.slice ak L.length ck))):=(fun W v h1 h2=>⟨h1.at_ 0,h2.at_ 1⟩);refine wp_region_held_drew (S:=fun W'=>W'.cell? ⟨w.heap.size+1,0,none⟩=some (.int .i64 (p:Int))/\W'.cell? ⟨wr.heap.size,1,none⟩=some (.slice ak L.length ck)) (by kernel_rfl) (dz.out _ _ iX.out.s4 kD.out) (fun η=>?_)
    (refine an 0 ?_;refine an 2 ?_;refine an 3 ?_;try simp only[put,sA];refine an 4 ?_;refine an 5 ?_;try simp only[put,sA])
    ·refine wpAnyH_ready (rs:=[1,6]) (by kernel_rfl) (by simp) (hJ (fun K hK=>?_) (hJ (fun K hK=>?_) AllReadyH.nil))
     skip;go_simp;refine hK.out _ _ (dz.out _ _ iX.out.s4 kD.out) fun η=>?_;clear hK K
     try simp only[put,sA]
     refine bc 6 (fun K hK=>?_);skip;go_simp;go_at_call 70;refine (Ww L p ak L.length ck _ (KF.out.2.below iX.out.below) rfl tX (by omega) PC.out).mono ?_;rintro e w5 ⟨g5,rfl,jz,v5⟩;have dr:=hid (iX.out.ab v5);have oI:=hid (kD.out.ab v5);have rz:=hid jz;have e5:w5.cell? ⟨w.heap.size+1,1,none⟩=some (.slice Ky E1.length I4):=dr.out.s4.at_ 1;clear v5 jz
     try go_wp2_with fail
     refine hK.out _ _ (dz.out _ _ dr.out.s4 oI.out) fun η=>?_;clear hK K
     rotate_left
     skip;go_simp;go_at_call 70;refine (Ww L p ak L.length ck _ (KF.out.2.below iX.out.below) rfl tX (by omega) PC.out).mono ?_;rintro e w5 ⟨g5,rfl,jz,v5⟩;have dr:=hid (iX.out.ab v5);have oI:=hid (kD.out.ab v5);have rz:=hid jz;have e5:w5.cell? ⟨w.heap.size+1,1,none⟩=some (.slice Ky E1.length I4):=dr.out.s4.at_ 1;clear v5 jz
     try go_wp2_with fail
     refine hK.out _ _ (dz.out _ _ dr.out.s4 oI.out) fun η=>?_;clear hK K
     try simp only[put,sA]
     refine bc 1 (fun K hK=>?_);skip;go_simp;refine hK.out _ _ (dz.out _ _ dr.out.s4 oI.out) fun η=>?_;clear hK K
     rotate_left
     all_goals
      try simp only[put,sA]
      refine bc 7 (fun K hK=>?_);skip;skip;refine si (by rfl) _ _ _ (by rfl) w.heap.size 117 i0 (.agg #[.int .i64 0,.int .i64 0,.int .u64 0,.int .u64 0,.int .u64 0,.int .u64 0,.bool false]) 7 56 underlying53 hi dv cP cG (by rfl) (by decide) _ E1.length (dj (E1.map En.z)) (by rfl) dr.out.oe ⟨g5,0,none⟩ L.length L.length (dj ((L.map (En.by p)).map En.z)) (by rfl) (zo rz.out).2.2.2 (news_of_block (cs:=(dj ((L.map (En.by p)).map En.z)).toArray) (zo rz.out).1) (GL _) (by unfold maxLen;omega) (by omega) dr.out.below.size ?_;intro v6 w6 aj af;obtain⟨a6,c6,rfl⟩:=bP aj;have fq:=dr.out.s4.ae dr.out.oe (by decide) af;have pU:=oI.out.ae dr.out.oe (by decide) af;have pC:=hid (dr.out.app (L2:=(L.map (En.by p))) (vE':=.slice a6 (E1.length+L.length) c6) (by first|exact (by rw[length_map];exact aj)|(rw[length_append];exact (by rw[length_map];exact aj))) af);have uy:=hid (pU.fK (p:=⟨w.heap.size+1,1,none⟩) (by show wr.heap.size≠w.heap.size+1;omega) (.slice a6 (E1.length+L.length) c6));have t3:w6.cell? ⟨w.heap.size+1,1,none⟩=some (.slice Ky E1.length I4):=fq.at_ 1;have f3:=fq.bb 1;refine hK.out _ _ (dz.out _ _ fq pU) fun η=>?_;clear hK K aj af fq pU
      try simp only[put,sA]
      (refine an 8 ?_;try simp only[put,sA])
      refine bc 9 (fun K hK=>?_);skip;go_simp;refine hK.out _ _ (dz.out _ _ pC.out.s4 uy.out) fun η=>?_;clear hK K
      try simp only[put,sA]
      refine wpAnyH_done (by kernel_rfl) ?_ _;clear η;go_wp2_with fail
      go_meet
      exact⟨_,_,rfl,pC.out,uy.out⟩
   case rest=>
    obtain⟨aE2,WL,rfl,Be,BX⟩:=hcut;obtain⟨E2,MN⟩:∃E2,E1++L.map (En.by p)=E2:=(⟨_,rfl⟩);have KE:E2.length=E1.length+L.length:=(by rw[<-MN];simp);have HE2:=hid MN;rw[MN,<-KE] at Be;have gp:=hid Be;have sP:=hid BX;clear Be BX MN KE ph oB z0 z1 z2 z3 PC;obtain⟨z0,z1,z2,z3⟩:=gp.out.s4.bZ;obtain⟨y0,y1,y2,y3⟩:=sP.out.bZ;have Dw:=gp.out.ol;have lf:=gp.out.below.size;obtain⟨i1,BG,Jl,xe,nc⟩:=info_parts aG;go_wp2_with (at_builtin;refine wpList_append_own _ rfl _ _ 27 rfl w.heap.size 3 i1 (.int .i64 0) 1 8 underlying27 BG Jl xe nc rfl (by decide) _ _ _ rfl (Dw.alloc _) ⟨wc.heap.size,0,none⟩ 1 1 [.int .i64 ((p:Int)+(T:Int))] rfl rfl (cell_one_new _ _ _) ?d2 ?d3 ?d4 ?d5 ?_)
    case d2=>simp[oneCell']
    case d3=>unfold maxLen;omega
    case d4=>omega
    case d5=>simp;omega
    intro v6 w6 aj af _;obtain⟨a6,c6,rfl⟩:=bP aj;have hF:=gp.out.last (N:=N) (t:=p+T) aj af;have ka:k+1<=n:=(by omega);have HF:Hid (sy w (uo M (k+1)) (uE M (k+1)) (k+1) (jZ M (k+1)) (.slice aE2 (uE M (k+1)).length WL) (.slice a6 (k+1) c6) (w6.setCell ⟨w.heap.size+1,0,none⟩ (.int .i64 ((p:Int)+(N:Int))))):=by
     show sy _ _ _ _ _ _ _ _;rw[Nc.out.1,Nc.out.2.1,Nc.out.2.2];have e:E++[bG 0 (p+F)]++L.map (En.by p)=E2:=(by rw[me.out,HE2.out]);rw[e];exact hF
    have xk:=al wc (.cells #[.int .i64 ((p:Int)+(T:Int))] 3);have fq:=(gp.out.s4.ab xk).ae (db Dw xk) (by decide) af;have YK:=(sP.out.ab xk).ae (db Dw xk) (by decide) af;clear z0 z1 z2 z3 y0 y1 y2 y3 hF xk;obtain⟨z0,z1,z2,z3⟩:=fq.bZ;obtain⟨y0,y1,y2,y3⟩:=YK.bZ;have f0:=fq.bb 0;clear aj af fq YK Dw gp sP;go_wp2;go_roundw
    ·exact⟨k+1,aE2,WL,a6,c6,by go_num,ka,rfl,HF⟩
    simp[intOf];omega
 obtain rfl:k=n:=by omega
 obtain⟨z0,z1,z2,z3⟩:=HA.out.s4.bZ;obtain⟨x0,x1,x2,x3,g0,g1,g2,g3⟩:=bQ HA.out.s2;obtain⟨E,hE⟩:∃E,uE M k=E:=⟨_,rfl⟩
 obtain⟨p,hp⟩:∃p,uo M k=p:=⟨_,rfl⟩
 rw[hE,hp] at HA;rw[hp] at z0;rw[hE] at z1;have pg:Hid (St ((((wr.setCell ⟨w.heap.size,0,none⟩ (.int .i64 (p:Int))).setCell ⟨w.heap.size,1,none⟩ (.slice aE E.length cE)).setCell ⟨w.heap.size,2,none⟩ (.int .i64 0)).setCell ⟨w.heap.size,3,none⟩ (.int .i64 0)) 55 w.heap.size #[.int .i64 (p:Int),.slice aE E.length cE,.int .i64 0,.int .i64 0]):=HA.out.s2.mG _ _ _ _;have HF:=ξ (Fx HA.out.oe HA.out.s2 (by decide) (.int .i64 (p:Int)) (.slice aE E.length cE) (.int .i64 0) (.int .i64 0)) (Fx HA.out.ol HA.out.s2 (by decide) (.int .i64 (p:Int)) (.slice aE E.length cE) (.int .i64 0) (.int .i64 0)) (qA HA.out.below (le_refl _) (.int .i64 (p:Int)) (.slice aE E.length cE) (.int .i64 0) (.int .i64 0));go_wp2_with fail;generalize (((wr.setCell ⟨w.heap.size,0,none⟩ (.int .i64 (p:Int))).setCell ⟨w.heap.size,1,none⟩ (.slice aE E.length cE)).setCell ⟨w.heap.size,2,none⟩ (.int .i64 0)).setCell ⟨w.heap.size,3,none⟩ (.int .i64 0)=Wf at HF pg⊢;obtain⟨v0,v1,v2,v3⟩:=pg.out.bZ;rw[hE,hp];exact bodyPost_ret (v:=.tuple #[.agg #[.int .i64 (p:Int),.slice aE E.length cE,.int .i64 0,.int .i64 0],.slice aL k cL]) (by simp[results,results39,go_sem,v0,v1,v2,v3]) rfl ⟨aE,cE,aL,cL,rfl,HF.out.1,HF.out.2.1,HF.out.2.2⟩
theorem Rf{P:Program}{o:Oper}{K:Act->World->Prop}{Q:Exit->Act->World->Prop}{E:Prop}(oE:o.guard=none)(s x:Operand)(t:TypeId)
  (ho:o.op=.call { callee:=.builtin .append,args:=#[s,x],argTypes:=#[t,t] })
  (base:Nat) (e:TypeId) (i:TypeInfo) (z:Value) (size bytes:Nat) (ht:P.underlying t=some (.slice e)) (hi:P.info? e=some i) (hz:i.zero=some z)
  (qO:i.size=size) (Jw:i.bytes=bytes) (Jz:z.cells.size=size) (dc:0<size)
  (v:Value) (n:Nat) (xs:List Value) (hs:a.eval s=v) (az:w.ownsRow base e size v n xs)
  (ad:Addr) (m c:Nat) (news:List Value) (hx:a.eval x=.slice (some ad) m c) (hl:news.length=m*size) (nw:∀j u,news[j]?=some u->w.cell? (ad.add j)=some u) (h1:∀u∈news,u.oneCell'=true)
  (JJ:n+m<=maxLen) (kQ:(n+m)*bytes<=140737488355328) (rP:base<=w.heap.size)
  (h:∀v' w',w'.ownsRow base e size v' (n+m) (xs++news)->w.grownBy w' v.ownBlock->(v'.ownBlock=v.ownBlock\/v'.ownBlock=some w.heap.size)->K (a.put o.dst v') w'):
  if wanted o (yielded ops a.tmps)=true then Oper.wp P o a w K Q else E:=by
 have hw:wanted o (yielded ops a.tmps)=true:=by simp[wanted,oE]
 rw[if_pos hw];obtain⟨v',w',hr,h2,h3,_,h4⟩:=run_append_own_at (P:=P) w base t o.type e i z size bytes ht hi hz qO Jw Jz dc v n xs az ad m c news hl nw h1 JJ kQ rP;unfold Oper.wp execOp;simp only[ho,resolve,invoke,builtin,run_bind,run_pure,Result.andThen_ok,List.map_toArray,map_cons,map_nil,hs,hx,hr];exact h v' w' h2 h3 h4
theorem zoj(V:World)(B:Nat)(bs:List Nat)(bm gI m M bM bn gM cM:Nat)(cs:Array Value)(mk:Nat->Int)(HV:lu V B bn gM M cM mk)(fJ:∀i,i<M->-1<=mk i)(pT:cs[0]?=some (.pointer (some ⟨bn,0,none⟩)))(hM:M<=100000)
  (l:List Nat) (vL vS vK:Value) (k n:Nat) (ss:List ByteArray) (ms:List Int) (Q Q':Value->Value->Prop) (s:ByteArray) (hs:s.size<=100000) (hk:k<=1000000) (hn:n<=1000000) (gm:∀y,¬Q (.string s) y) (ZG:∀x y,Q x y->Q' x y) (Yg:Q' (.string s) (.int .i64 (k:Int))) (Xz:∀x y,Q' x y->x≠.string s->∃y',Q x y')
  (wr:World) (h:ji V B bs bm gI m M cs l vL wr) (t:mH V B bs bM cs vL k k n ss ms Q vS vK wr):
  Calls prog 107 #[.pointer (some ⟨bm,0,none⟩),.string s] wr (Mi V B bs bm gI m M bM cs l vL k n ss ms Q' s mk):=by
 obtain⟨aS,cS,rfl⟩:=bP t.os;obtain⟨aK,cK,rfl⟩:=bP t.ok;have c1:wr.cell? ⟨bm,259,none⟩=some (.slice aS k cS):=(h.r.other 259 (by decide)).trans t.cS;obtain⟨kl,hkl⟩:∃kl,keyOf prog 9 (.string s)=some kl:=⟨_,Go.WideMaps.keyOf_string_mk underlying9 (by unfold maxLen;omega)⟩
 have HH:=ζ h t;have TN:=ξ HV fJ pT;have HQ:=ψ ZG Yg Xz gm;obtain⟨i0,hi,dv,cP,cG⟩:=info_parts aG;obtain⟨i1,BG,Jl,xe,nc⟩:=info_parts pq;have hO:=t.os;have lF:=h.r.hB;clear h t HV fJ pT ZG Yg Xz gm;go_in;go_wp2_with (at_builtin;refine wpList_append_own_at _ rfl _ _ 110 rfl B 9 i1 (.string ⟨#[]⟩) 1 16 underlying110 BG Jl xe nc rfl (by decide) _ _ _ rfl (hO.alloc _) ⟨wr.heap.size,0,none⟩ 1 1 [.string s] rfl rfl (cell_one_new _ _ _) ?d2 ?d3 ?d4 ?d5 ?_)
 case d2=>intro u hu;simp at hu;subst hu;rfl
 case d3=>unfold maxLen;omega
 case d4=>omega
 case d5=>simp;omega
 intro v' w5 ah ag _ bJ;obtain⟨a5,c5,rfl⟩:=bP ah;have xk:=al wr (.cells #[.string s] 9);have lW:=zqj (HH.out.1.ab xk) (HH.out.2.ab xk) (s:=s) (vS':=.slice a5 (k+1) c5) ah ag (by rw[show (wr.alloc (.cells #[.string s] 9)).heap.size=wr.heap.size+1 by simp];exact bJ);have CF:St w5 114 bm _:=(HH.out.1.ab xk).r.sm.ae (HH.out.2.ab xk).os (by decide) ag;have p1:w5.cell? ⟨bm,259,none⟩=some (.slice aS k cS):=by rw[CF.at_,getElem?_setIfInBounds_ne (by decide)];exact HH.out.2.cS
 have pf:=CF.bb 259;have HS:=hid lW;have B8:=lW.2.map;have q1:(w5.setCell ⟨bm,259,none⟩ (.slice a5 (k+1) c5)).cell? ⟨bm,260,none⟩=some (.map (some bM)):=(lW.1.r.other 260 (by decide)).trans lW.2.cM;clear ah ag bJ xk lW CF hO;go_wp2_with (at_mapUpdate;refine zdC _ rfl _ _ _ 111 rfl 9 3 Et underlying111 bM n Q Q' rfl B8 (by unfold maxLen;omega) _ _ kl rfl rfl hkl HQ.out.2.2.2 HQ.out.1 HQ.out.2.1 HQ.out.2.2.1 ?_);intro w6 qj gQ;have ju:=U5 HS.out.1 HS.out.2 qj gQ;clear qj gQ B8 q1 p1 pf HS;have gp:Hid (ji V B bs bm gI m M (cs.setIfInBounds 259 (.slice a5 (k+1) c5)) l vL w6.drew/\mH V B bs bM (cs.setIfInBounds 259 (.slice a5 (k+1) c5)) vL (k+1) k (n+1) (ss++[s]) ms Q' (.slice a5 (k+1) c5) (.slice aK k cK) w6.drew):=
  ⟨ju.1.ab (Below.refl w6.heap.size w6).drew,ju.2.ab (Below.refl w6.heap.size w6).drew⟩
 clear ju;generalize w6=W3 at gp⊢;have e3:W3.drew.cell? ⟨bm,258,none⟩=some (.slice aK k cK):=(gp.out.1.r.other 258 (by decide)).trans gp.out.2.cK;have Hi:=hid (zgH V B bs bm gI m M bn gM cM (cs.setIfInBounds 259 (.slice a5 (k+1) c5)) mk TN.out.1 TN.out.2.1 (by rw[getElem?_setIfInBounds_ne (by decide)];exact TN.out.2.2) hM l vL W3.drew gp.out.1);go_wp2_with fail;refine wp_region_held_drew (S:=fun _=>True) (by kernel_rfl) trivial (fun η=>?_)
 (refine an 0 ?_;refine an 1 ?_;refine an 2 ?_;try simp only[put,sA];refine an 3 ?_;refine an 4 ?_;refine an 6 ?_;try simp only[put,sA])
 ·refine wpAnyH_ready (rs:=[5,7]) (by kernel_rfl) (by simp) (hJ (fun K hK=>?_) (hJ (fun K hK=>?_) AllReadyH.nil))
  skip;go_simp;refine hK.out _ _ trivial fun η=>?_;clear hK K
  try simp only[put,sA]
  refine bc 7 (fun K hK=>?_);skip;go_simp;go_at_call 137;refine Hi.out.mono ?_;rintro e w5 ⟨r,rfl,hr,rfl⟩;have HR:=hid hr;clear hr
  try go_wp2_with fail
  refine hK.out _ _ trivial fun η=>?_;clear hK K
  try simp only[put,sA]
  refine bc 8 (fun K hK=>?_);skip;go_simp;have iL:=hid (gp.out.1.ab (al W3.drew (.cells #[.int .i64 r] 3)));have p7:=hid (gp.out.2.ab (al W3.drew (.cells #[.int .i64 r] 3)));have e6:(W3.alloc (.cells #[.int .i64 r] 3)).cell? ⟨bm,258,none⟩=some (.slice aK k cK):=(iL.out.r.other 258 (by decide)).trans p7.out.cK;refine hK.out _ _ trivial fun η=>?_;clear hK K
  try simp only[put,sA]
  refine bc 9 (fun K hK=>?_);skip;skip;refine Rf (by rfl) _ _ _ (by rfl) B 3 i0 (.int .i64 0) 1 8 underlying27 hi dv cP cG (by rfl) (by decide) _ k (ints ms) (by rfl) p7.out.ok ⟨W3.heap.size,0,none⟩ 1 1 (#[.int .i64 r]).toList (by rfl) (by rfl) (news_of_block (cs:=#[.int .i64 r]) (t:=3) (fr:=(0,0)) (heap_alloc_new W3.drew _)) (by simp[oneCell']) (by unfold maxLen;omega) (by omega) iL.out.r.hB ?_;intro v6 w6 aj af dg;obtain⟨a6,c6,rfl⟩:=bP aj;have fJ:=T0 iL.out p7.out (r:=r) (vK':=.slice a6 (k+1) c6) aj af dg;have nu:St w6 114 bm _:=iL.out.r.sm.ae p7.out.ok (by decide) af;have t3:w6.cell? ⟨bm,258,none⟩=some (.slice aK k cK):=by rw[nu.at_,getElem?_setIfInBounds_ne (by decide)];exact p7.out.cK
  have f3:=nu.bb 258;have HF:Hid (Mi V B bs bm gI m M bM cs l vL k n ss ms Q' s mk (.returned (.int .i64 (k:Int))) (w6.setCell ⟨bm,258,none⟩ (.slice a6 (k+1) c6))):=⟨r,_,_,rfl,HR.out,fJ.1,fJ.2⟩
  refine hK.out _ _ trivial fun η=>?_;clear hK K aj af dg fJ nu
  rotate_left
  skip;go_simp;go_at_call 137;refine Hi.out.mono ?_;rintro e w5 ⟨r,rfl,hr,rfl⟩;have HR:=hid hr;clear hr
  try go_wp2_with fail
  refine hK.out _ _ trivial fun η=>?_;clear hK K
  try simp only[put,sA]
  refine wpAnyH_ready (rs:=[5,8]) (by kernel_rfl) (by simp) (hJ (fun K hK=>?_) (hJ (fun K hK=>?_) AllReadyH.nil))
  skip;go_simp;refine hK.out _ _ trivial fun η=>?_;clear hK K
  try simp only[put,sA]
  refine bc 8 (fun K hK=>?_);skip;go_simp;have iL:=hid (gp.out.1.ab (al W3.drew (.cells #[.int .i64 r] 3)));have p7:=hid (gp.out.2.ab (al W3.drew (.cells #[.int .i64 r] 3)));have e6:(W3.alloc (.cells #[.int .i64 r] 3)).cell? ⟨bm,258,none⟩=some (.slice aK k cK):=(iL.out.r.other 258 (by decide)).trans p7.out.cK;refine hK.out _ _ trivial fun η=>?_;clear hK K
  try simp only[put,sA]
  refine bc 9 (fun K hK=>?_);skip;skip;refine Rf (by rfl) _ _ _ (by rfl) B 3 i0 (.int .i64 0) 1 8 underlying27 hi dv cP cG (by rfl) (by decide) _ k (ints ms) (by rfl) p7.out.ok ⟨W3.heap.size,0,none⟩ 1 1 (#[.int .i64 r]).toList (by rfl) (by rfl) (news_of_block (cs:=#[.int .i64 r]) (t:=3) (fr:=(0,0)) (heap_alloc_new W3.drew _)) (by simp[oneCell']) (by unfold maxLen;omega) (by omega) iL.out.r.hB ?_;intro v6 w6 aj af dg;obtain⟨a6,c6,rfl⟩:=bP aj;have fJ:=T0 iL.out p7.out (r:=r) (vK':=.slice a6 (k+1) c6) aj af dg;have nu:St w6 114 bm _:=iL.out.r.sm.ae p7.out.ok (by decide) af;have t3:w6.cell? ⟨bm,258,none⟩=some (.slice aK k cK):=(by rw[nu.at_,getElem?_setIfInBounds_ne (by decide)];exact p7.out.cK);have f3:=nu.bb 258;have HF:Hid (Mi V B bs bm gI m M bM cs l vL k n ss ms Q' s mk (.returned (.int .i64 (k:Int))) (w6.setCell ⟨bm,258,none⟩ (.slice a6 (k+1) c6))):=(⟨r,_,_,rfl,HR.out,fJ.1,fJ.2⟩);refine hK.out _ _ trivial fun η=>?_;clear hK K aj af dg fJ nu
  rotate_left
  skip;go_simp;have iL:=hid (gp.out.1.ab (al W3.drew (.cells #[.int .i64 r] 3)));have p7:=hid (gp.out.2.ab (al W3.drew (.cells #[.int .i64 r] 3)));have e6:(W3.alloc (.cells #[.int .i64 r] 3)).cell? ⟨bm,258,none⟩=some (.slice aK k cK):=(iL.out.r.other 258 (by decide)).trans p7.out.cK;refine hK.out _ _ trivial fun η=>?_;clear hK K
  try simp only[put,sA]
  refine bc 5 (fun K hK=>?_);skip;go_simp;refine hK.out _ _ trivial fun η=>?_;clear hK K
  try simp only[put,sA]
  refine bc 9 (fun K hK=>?_);skip;skip;refine Rf (by rfl) _ _ _ (by rfl) B 3 i0 (.int .i64 0) 1 8 underlying27 hi dv cP cG (by rfl) (by decide) _ k (ints ms) (by rfl) p7.out.ok ⟨W3.heap.size,0,none⟩ 1 1 (#[.int .i64 r]).toList (by rfl) (by rfl) (news_of_block (cs:=#[.int .i64 r]) (t:=3) (fr:=(0,0)) (heap_alloc_new W3.drew _)) (by simp[oneCell']) (by unfold maxLen;omega) (by omega) iL.out.r.hB ?_;intro v6 w6 aj af dg;obtain⟨a6,c6,rfl⟩:=bP aj;have fJ:=T0 iL.out p7.out (r:=r) (vK':=.slice a6 (k+1) c6) aj af dg;have nu:St w6 114 bm _:=iL.out.r.sm.ae p7.out.ok (by decide) af;have t3:w6.cell? ⟨bm,258,none⟩=some (.slice aK k cK):=(by rw[nu.at_,getElem?_setIfInBounds_ne (by decide)];exact p7.out.cK);have f3:=nu.bb 258;have HF:Hid (Mi V B bs bm gI m M bM cs l vL k n ss ms Q' s mk (.returned (.int .i64 (k:Int))) (w6.setCell ⟨bm,258,none⟩ (.slice a6 (k+1) c6))):=(⟨r,_,_,rfl,HR.out,fJ.1,fJ.2⟩);refine hK.out _ _ trivial fun η=>?_;clear hK K aj af dg fJ nu
  rotate_left
  all_goals
   try simp only[put,sA]
   (refine an 10 ?_;refine an 11 ?_;refine an 12 ?_;try simp only[put,sA])
   refine bc 13 (fun K hK=>?_);skip;go_simp;refine hK.out _ _ trivial fun η=>?_;clear hK K
   try simp only[put,sA]
   refine wpAnyH_done (by kernel_rfl) ?_ _;clear η;go_wp2;go_ret;exact HF.out
def kM(bm gI:Nat)(vL:Value):List Nat:=bm :: gI :: vL.ownBlock.toList
theorem iK.base(h:iK V B bs bm gI m cs P l vL wr):iK wr B (kM bm gI vL) bm gI m cs P l vL wr:=
 ⟨Kept.refl _ _ _,Below.refl _ _,h.sm,h.sz,h.cI,h.lG,h.de,fun b e=>inl (by simp[kM,e]),⟨by simp[kM],by simp[kM]⟩,h.lo.1,h.lo.2.1,h.hB⟩
theorem iK.back{iJ:Array Value}(h:iK V B bs bm gI m cs P l vL wr)(h':iK wr B (kM bm gI vL) bm gI m iJ P' l' jr w3):iK V B bs bm gI m iJ P' l' jr w3:=by
 have dc:=h.below.size;refine⟨fun k o hk ho hn=>h'.kept k o (h.kept k o hk ho hn) ho (fun hm=>?_),h.below.trans h'.below,h'.sm,h'.sz,h'.cI,h'.lG,h'.de,fun b e=>?_,h.kd,h.lo⟩
 ·simp only[kM,mem_cons,mem_toList] at hm;rcases hm with rfl|rfl|hm
  ·exact hn h.kd.1
  ·exact hn h.kd.2
  rcases h.loc k hm with h1|h1
  ·exact hn h1
  have:=(Array.getElem?_eq_some_iff.1 hk).1;omega
 rcases h'.loc b e with hm|hm
 ·simp only[kM,mem_cons,mem_toList] at hm;rcases hm with rfl|rfl|hm
  ·exact inl h.kd.1
  ·exact inl h.kd.2
  exact h.loc b hm
 exact inr (by omega)
theorem mH.over{Q:Value->Value->Prop}(h:iK V B bs bm gI m cs P l vL wr)(t:mH V B bs bM cs vL k q n ss ms Q vS vK wr)
  (h':iK wr B (kM bm gI vL) bm gI m cs P' l' jr w3):mH V B bs bM cs jr k q n ss ms Q vS vK w3:=by
 have hn:∀{t' n':Nat}{v:Value}{xs:List Value},wr.ownsRow B t' 1 v n' xs->t'≠114->t'≠5->(∀b,vL.ownBlock=some b->v.ownBlock≠some b)->∀g,v.ownBlock=some g->g∉kM bm gI vL:=by
  intro t' n' v xs ho h1 h2 h3 g hg hm;simp only[kM,mem_cons,mem_toList] at hm;rcases hm with rfl|rfl|hm
  ·exact eB ho h.sm h1 g hg rfl
  ·exact iB ho h.lG h2 g hg rfl
  exact h3 g hm hg
 refine⟨t.cK,t.cS,t.cM,fI t.os h'.kept (by simp) (hn t.os (by decide) (by decide) (fun b e1 e2=>iB h.de t.os (by decide) b e1 e2)),fI t.ok h'.kept (by simp) (hn t.ok (by decide) (by decide) t.sep),t.map.kept h'.kept ?_,fun b e1 e2=>?_,t.lS,t.lK,t.lM⟩
 ·simp only[kM,mem_cons,mem_toList];rintro (e|e|e)
  ·exact AW t.map h.sm e.symm
  ·exact xK t.map h.lG gI rfl e.symm
  exact xK t.map h.de bM e rfl
 rcases h'.loc b e1 with hm|hm
 ·exact hn t.ok (by decide) (by decide) t.sep b e2 hm
 obtain⟨c,fz,hc⟩:=qi t.ok b e2;have:=(Array.getElem?_eq_some_iff.1 hc).1;omega
def kv(M:Nat)(f:Nat->Bool):ByteArray:=strOf (gk f M)
theorem Ub(M:Nat)(f g:Nat->Bool):kv M f=kv M g↔∀x,x<M->f x=g x:=by
 constructor
 ·intro h;exact (MX f g M).1 (Td (IA _ M) (IA _ M) (by rw[<-yU,<-yU];exact congrArg (fun s:ByteArray=>s.data.toList) h))
 intro h;unfold kv;rw[(MX f g M).2 h]
def MQ(M:Nat)(D:List ((Nat->Bool) × Nat))(x y:Value):Prop:=∃p∈D,x=.string (kv M p.1)/\y=.int .i64 ((p.2:Nat):Int)
structure Inv (L:List En)(M:Nat)(mk:Nat->Int)(SS:List (Nat->Bool))(ms:List Int)(D:List ((Nat->Bool) × Nat)):Prop where
 own:∀j (h:j<SS.length),(SS[j],j)∈D
 OX:∀p∈D,∃h:p.2<SS.length,∀x,x<M->(SS[p.2] x=true↔FR L (fun y=>y<M/\p.1 y=true) x)
 len:ms.length=SS.length
 dt:∀j (h:j<SS.length) (h2:j<ms.length),bU mk (fun x=>x<M/\SS[j] x=true) ms[j]
theorem Xd(f:Nat->Bool)(M m:Nat)(hm:(M+7) / 8=m)(h:∀x,f x=true->x<M):iH f m=gk f M:=by
 unfold iH gk;rw[hm];refine List.map_congr_left fun j _=>SD fun k _=>?_
 by_cases e:8*j+k<M
 ·simp[cm,e]
 have:f (8*j+k)=false:=by
  cases hf:f (8*j+k) with
  | false=>rfl
  | true=>exact absurd (h _ hf) e
 simp[cm,e,this]
theorem iK.I1(h:iK V B bs bm gI m cs P l vL wr)(k:Kept [] (kM bm gI vL) wr W):Kept [] bs V W:=fun k0 o hk ho hn=>k k0 o (h.kept k0 o hk ho hn) ho (fun hm=>by
 simp only[kM,mem_cons,mem_toList] at hm
 rcases hm with rfl|rfl|hm
 ·exact hn h.kd.1
 ·exact hn h.kd.2
 ·rcases h.loc k0 hm with h1|h1
  ·exact hn h1
  ·have:=(Array.getElem?_eq_some_iff.1 hk).1
   omega)
theorem FR.idem{A:Nat->Prop}(x:Nat):FR L (FR L A) x↔FR L A x:=by
 constructor
 ·intro k
  induction k with
  | base h=>exact h
  | step e _ h1 h2 h3 h4 ih=>exact .step e ih h1 h2 h3 h4
 exact .base
theorem aO.again{k t e:TypeId}{b:Nat}{Q:Value->Value->Prop}(h:aO w k b n Q)(K:Keyed prog k)(ht:prog.underlying t=some (.map k e))
  {key val:Value}{kl:Lit}(ef:keyOf prog k key=some kl) (hv:Q key val):∃w',(Instr.mapUpdate t (.map (some b)) key val).run prog w=.ok () w'/\aO w' k b n Q/\w.grownBy w' (some b):=by
 obtain⟨es,clock,hb,F,hs,hq,eo⟩:=h;obtain⟨F1,_,_⟩:=F.stay (R':=fP) (fun x hx z hz=>hz);rcases K.find w ef es.toList F.keys with ⟨h1,h2⟩|⟨j,e0,h1,h2,h3⟩
 ·obtain⟨e1,h4,h5⟩:=eo _ _ hv;exact absurd h5 (h2 e1 h4)
 have hj:es[j]?=some e0:=by simpa using h2
 have re:∀e',es[j]?=some e'->({ e' with key:=key,val:=val }:MapEntry).key=e'.key:=fun e' jX=>by rw[hj] at jX;cases jX;exact h3.symm
 have jV:(es.modify j (fun e'=>{ e' with key:=key,val:=val })).toList=es.toList.set j { e0 with key:=key,val:=val }:=by rw[Array.toList_modify,modify_eq_set _ _ _ _ h2]
 have Bz:∀x∈es.toList.set j { e0 with key:=key,val:=val },x={ e0 with key:=key,val:=val }\/x∈es.toList:=by
  intro x hx;rcases List.mem_or_eq_of_mem_set hx with h|h
  ·exact inr h
  exact inl h
 have o9:∀bn,WideElems.rd prog k fP ⟨key,val,bn⟩=some (kl,.held val):=fun bn=>by unfold WideElems.rd fP;rw[ef];rfl
 refine⟨setBlock w b (.map (es.modify j (fun e'=>{ e' with key:=key,val:=val })) clock),?_,⟨es.modify j (fun e'=>{ e' with key:=key,val:=val }),clock,heap_setBlock_same hb _,⟨by simpa using F.size,stamped_modify F.stamped _ _ (fun _ _=>rfl) (fun e' _ jX=>re e' jX),?_⟩,by simpa using hs,fun x hx=>?_,fun x y hx=>?_⟩,⟨rfl,rfl,rfl,by simp[setBlock],fun i _ hi=>heap_setBlock_other hb _ (fun e=>hi (by rw[e]))⟩⟩
 ·simp[Instr.mapUpdate,run_underlying ht,MapKept.run_getObj_map hb,K.check w false ef,h1,hj,h3,K.stays w ef,MapKept.run_setObj_map _ hb,Result.andThen,setBlock]
 ·intro x hx;rw[jV] at hx;rcases Bz x hx with rfl|xr
  ·exact⟨_,o9 _⟩
  exact F1.reads x xr
 ·rw[jV] at hx;rcases Bz x hx with rfl|xr
  ·exact hv
  exact hq x xr
 obtain⟨e1,h4,h5⟩:=eo x y hx;rw[jV];obtain⟨i,hi,ei⟩:=List.getElem_of_mem h4;by_cases Rz:i=j
 ·refine⟨{ e0 with key:=key,val:=val },List.mem_set (by rw[<-Rz];exact hi) _,?_⟩;subst Rz;rw[List.getElem?_eq_getElem hi,ei] at h2;injection h2 with h2;rw[<-h5,h2];exact h3.symm
 exact⟨e1,by
  have:(es.toList.set j { e0 with key:=key,val:=val })[i]?=some e1:=by
   rw[List.getElem?_set_ne (fun e=>Rz e.symm),List.getElem?_eq_getElem hi,ei]
  exact List.mem_of_getElem? this,h5⟩
def JT(V:World)(B:Nat)(bs:List Nat)(bm gI m M bM:Nat)(cs:Array Value)(L:List En)(mk:Nat->Int)(SS:List (Nat->Bool))(st:List Nat)(n:Nat)(e:Ending)(w':World):Prop:=
 ∃(j:Nat) (jY:List (Nat->Bool)) (uq:List Int) (D':List ((Nat->Bool) × Nat)) (jr vS' vK':Value) (iJ:Array Value) (l':List Nat) (n':Nat),e=.returned (.int .i64 (j:Int))/\ji V B bs bm gI m M iJ l' jr w'/\
  mH V B bs bM iJ jr jY.length jY.length n' (jY.map (kv M)) uq (MQ M D') vS' vK' w'/\Inv L M mk jY uq D'/\n'+2*SS.length<=n+2*jY.length/\(∀i,i≠258->i≠259->iJ[i]?=cs[i]?)/\(∃h:j<jY.length,∀x,x<M->(jY[j] x=true↔FR L (fun y=>y∈st) x))/\
  (jY=SS\/∃f,jY=SS++[f]/\j=SS.length/\∀i (h:i<SS.length),∃x,x<M/\SS[i] x≠f x)
theorem Yd(V:World)(B:Nat)(bs:List Nat)(bm gI m M bM bn gM cM gF cF:Nat)(aF:Nat->Option Addr)(cR:Nat->Nat)(L:List En)(HF:mq V B bn gF M cF aF cR L)(hE:∀e∈L,e.f<M/\e.t<M)(NL:L.length<=6400)(cs:Array Value)(mk:Nat->Int)(HV:lu V B bn gM M cM mk)(fJ:∀i,i<M->-1<=mk i)(pT:cs[0]?=some (.pointer (some ⟨bn,0,none⟩)))(hM:M<=100000)(hm:(M+7) / 8=m)
  (P:Nat->Bool) (l:List Nat) (vL vS vK:Value) (n:Nat) (SS:List (Nat->Bool)) (ms:List Int) (D:List ((Nat->Bool) × Nat)) (hk:SS.length<=100000) (hn:n<=100000) (uu:l.length<=100000)
  (a:Option Addr) (q c:Nat) (st:List Nat) (bY:st.length=q) (hq:q<=100000000000) (aq:∀x∈st,x<M) (hr:∀W,Kept [] bs V W->Bk W W.heap.size a st)
  (wr:World) (h:iK V B bs bm gI m cs P l vL wr) (t:mH V B bs bM cs vL SS.length SS.length n (SS.map (kv M)) ms (MQ M D) vS vK wr) (inv:Inv L M mk SS ms D):
  Calls prog 67 #[.pointer (some ⟨bm,0,none⟩),.slice a q c] wr (JT V B bs bm gI m M bM cs L mk SS st n):=by
 have HH:=ξ h t inv;have HN:=hid (Zz HF (Zz hE (Zz HV (Zz fJ (Zz pT hm)))));have HG:=hid (zhD wr B (kM bm gI vL) bm gI m M cs P l vL wr h.base hM hm (by omega) a q c st bY hq aq (fun W hW=>hr W (h.I1 hW)));clear h t inv HF hE HV fJ pT bY aq hr;go_in;go_wp2_with fail;refine HG.out.mono ?_;rintro e w2 ⟨l2,rq,rfl,h2,gy⟩;obtain⟨f2,nY⟩:∃f2:Nat->Bool,(fun x=>decide (x∈l2))=f2:=⟨_,rfl⟩
 have LN:=h2.ab (Below.refl w2.heap.size w2).drew;have Np:=mH.over HH.out.1 HH.out.2.1 LN.r;have D7:∀x,f2 x=true->x<M:=fun x hx=>h2.lt x (by rw[<-nY] at hx;simpa using hx)
 have hcv:(convert 112 9 (.slice (some ⟨gI,0,none⟩) m m)).run prog w2.drew=.ok (.string (kv M f2)) w2.drew:=by
  have:=Oi (l:=iH f2 m) (by have:=LN.r.lG;rw[nY] at this;exact this) (by rw[Nx]);rw[Xd f2 M m HN.out.2.2.2.2.2 D7] at this;exact this
 have hkl:keyOf prog 9 (.string (kv M f2))=some _:=Go.WideMaps.keyOf_string_mk underlying9 (by unfold kv;rw[zg];simp[gk];unfold maxLen;omega);have hFR:∀x,FR L (fun y=>y<M/\f2 y=true) x↔FR L (fun y=>y∈st) x:=fun x=>FR.congr (fun y=>by
  rw[<-gy,<-nY]
  exact⟨fun h=>by simpa using h.2,fun h=>⟨h2.lt y h,by simpa using h⟩⟩) x
 have c0:w2.cell? ⟨bm,260,none⟩=some (.map (some bM)):=(h2.r.other 260 (by decide)).trans Np.cM;have c1:w2.cell? ⟨bm,261,none⟩=some (.slice (some ⟨gI,0,none⟩) m m):=h2.r.cells.1;have H2:=hid (Zz LN (Zz Np (Zz gy (Zz hFR (Zz nY D7)))));have yG:=Np.map.nH Et underlying111 (MI w2.drew) hkl;clear h2 gy HG LN Np hFR hkl D7;rcases yG with ⟨cy,gm⟩|⟨v,⟨p,hp,Ag,rfl⟩,cy⟩
 ·have ox:=hid gm;clear gm;go_wp2_with fail
  go_region
  go_wp2_with fail;refine (zhm wr B (kM bm gI vL) bm gI m M bn gF cF cs aF cR L (HN.out.1.below HH.out.1.below) HN.out.2.2.2.2.1 HN.out.2.1 hM HN.out.2.2.2.2.2 NL l2 rq w2.drew H2.out.1).mono ?_;rintro e w4 ⟨l4,Mb,rfl,h4,ta⟩;obtain⟨f4,LH⟩:∃f4:Nat->Bool,(fun x=>decide (x∈l4))=f4:=⟨_,rfl⟩
  have t4:=mH.over HH.out.1 HH.out.2.1 h4.r;have Je:∀x,f4 x=true->x<M:=fun x hx=>h4.lt x (by rw[<-LH] at hx;simpa using hx)
  have zV:∀x,f4 x=true↔x∈l4:=fun x=>by rw[<-LH];simp
  have hcv4:(convert 112 9 (.slice (some ⟨gI,0,none⟩) m m)).run prog w4=.ok (.string (kv M f4)) w4:=by
   have:=Oi (l:=iH f4 m) (by have:=h4.r.lG;rw[LH] at this;exact this) (by rw[Nx]);rw[Xd f4 M m HN.out.2.2.2.2.2 Je] at this;exact this
  have Jc:keyOf prog 9 (.string (kv M f4))=some _:=Go.WideMaps.keyOf_string_mk underlying9 (by unfold kv;rw[zg];simp[gk];unfold maxLen;omega);have Qa:(kv M f4).size<=100000:=by unfold kv;rw[zg];simp[gk];omega
  have ij:∀x,x∈l4↔FR L (fun y=>y∈st) x:=fun x=>by rw[ta x];exact FR.congr (fun y=>H2.out.2.2.1 y) x
  have I5:∀x,FR L (fun y=>y<M/\f4 y=true) x↔FR L (fun y=>y∈st) x:=fun x=>by
   rw[show FR L (fun y=>y<M/\f4 y=true) x↔FR L (FR L (fun y=>y∈st)) x from FR.congr (fun y=>⟨fun h=>(ij y).1 ((zV y).1 h.2),fun h=>⟨h4.lt y ((ij y).2 h),(zV y).2 ((ij y).2 h)⟩⟩) x];exact FR.idem x
  have d0:w4.cell? ⟨bm,260,none⟩=some (.map (some bM)):=(h4.r.other 260 (by decide)).trans t4.cM;have d1:w4.cell? ⟨bm,261,none⟩=some (.slice (some ⟨gI,0,none⟩) m m):=h4.r.cells.1;have UO:ji V B bs bm gI m M cs l4 Mb w4:=⟨HH.out.1.back h4.r,h4.nd,h4.lt⟩
  have H4:=φ UO t4 ij I5 zV;have yG:=t4.map.nH Et underlying111 (MI w4) Jc;clear h4 t4 Je zV ij I5 UO ta LH c0 c1 hcv cy;rcases yG with ⟨cy,gm⟩|⟨v,⟨p,hp,Ag,rfl⟩,cy⟩
  ·obtain⟨k,tO⟩:∃k,SS.length=k:=(⟨_,rfl⟩);have HK:=hid tO;have fm:k<=100000:=(by omega);have yL:=hid (zoj V B bs bm gI m M bM bn gM cM cs mk HN.out.2.2.1 HN.out.2.2.2.1 HN.out.2.2.2.2.1 hM l4 Mb vS vK SS.length n (SS.map (kv M)) ms (MQ M D) (MQ M (D++[(f4,SS.length)])) (kv M f4) Qa (by omega) (by omega) gm
    (fun x y ⟨p,hp,h1,h2⟩=>⟨p,List.mem_append.2 (inl hp),h1,h2⟩) ⟨(f4,SS.length),by simp,rfl,rfl⟩
    (fun x y ⟨p,hp,h1,h2⟩ hne=>by
     rcases List.mem_append.1 hp with hp|hp
     ·exact⟨y,p,hp,h1,h2⟩
     ·rw[List.mem_singleton.1 hp] at h1
      exact absurd h1 hne) w4 H4.out.1 H4.out.2.1)
   have Qn:=hid gm;rw[tO] at yL;clear gm tO;go_wp2_with fail;refine yL.out.mono ?_;rintro e w5 ⟨r,vS',vK',rfl,hr,S5,Ik⟩;have D3:keyOf prog 9 (.string (kv M f2))=some _:=Go.WideMaps.keyOf_string_mk underlying9 (by unfold kv;rw[zg];simp[gk];unfold maxLen;omega);obtain⟨w6,wF,qj,gQ⟩:∃w6,(Instr.mapUpdate 111 (.map (some bM)) (.string (kv M f2)) (.int .i64 (k:Int))).run prog w5=.ok () w6/\aO w6 9 bM (n+2) (MQ M (D++[(f4,k)]++[(f2,k)]))/\w5.grownBy w6 (some bM):=by
    by_cases e:kv M f2=kv M f4
    ·obtain⟨w6,h1,h2,h3⟩:=Ik.map.again Et underlying111 D3 (val:=.int .i64 (k:Int)) ⟨(f4,k),by simp,by rw[e],rfl⟩;refine⟨w6,h1,?_,h3⟩;have e2:MQ M (D++[(f4,k)]++[(f2,k)])=MQ M (D++[(f4,k)]):=by
      funext x y;refine propext ⟨fun ⟨p,hp,h1,h2⟩=>?_,fun ⟨p,hp,h1,h2⟩=>⟨p,List.mem_append.2 (inl hp),h1,h2⟩⟩;rcases List.mem_append.1 hp with hp|hp
      ·exact⟨p,hp,h1,h2⟩
      rw[List.mem_singleton.1 hp] at h1 h2;exact⟨(f4,k),by simp,by rw[h1,<-e],h2⟩
     rw[e2];exact h2.more (by omega)
    exact Ik.map.update Et underlying111 (by unfold maxLen;omega) D3 (Q':=MQ M (D++[(f4,k)]++[(f2,k)]))
     (fun y ⟨p,hp,h1,h2⟩=>by
      rcases List.mem_append.1 hp with hp|hp
      ·exact ox.out y ⟨p,hp,h1,h2⟩
      ·rw[List.mem_singleton.1 hp] at h1
       injection h1 with h1
       exact e h1)
     (fun x y ⟨p,hp,h1,h2⟩=>⟨p,List.mem_append.2 (inl hp),h1,h2⟩) ⟨(f2,k),by simp,rfl,rfl⟩
     (fun x y ⟨p,hp,h1,h2⟩ hne=>by
      rcases List.mem_append.1 hp with hp|hp
      ·exact⟨y,p,hp,h1,h2⟩
      ·rw[List.mem_singleton.1 hp] at h1
       exact absurd h1 hne)
   have kG:=U5 S5 Ik qj gQ;have e0:w5.cell? ⟨bm,260,none⟩=some (.map (some bM)):=(S5.r.other 260 (by decide)).trans Ik.cM;have HF:Hid (JT V B bs bm gI m M bM cs L mk SS st n (.returned (.int .i64 (k:Int))) w6):=by
    have tO:=HK.out;subst tO;have inv:=HH.out.2.2;refine⟨SS.length,SS++[f4],ms++[r],D++[(f4,SS.length)]++[(f2,SS.length)],Mb,vS',vK',_,l4,n+2,rfl,kG.1,?_,⟨fun j hj=>?_,fun p hp=>?_,by simp[inv.len],fun j hj hj2=>?_⟩,(by simp;omega),fun i h1 h2=>?_,⟨by simp,fun x hx=>?_⟩,inr ⟨f4,rfl,rfl,fun i hi=>?_⟩⟩
    ·have:=kG.2;simpa using this
    ·by_cases e:j<SS.length
     ·rw[getElem_append_left e];exact List.mem_append.2 (inl (List.mem_append.2 (inl (inv.own j e))))
     have:j=SS.length:=(by simp at hj;omega);subst this;simp
    ·rcases List.mem_append.1 hp with hp|hp
     ·rcases List.mem_append.1 hp with hp|hp
      ·obtain⟨h1,h2⟩:=inv.OX p hp;refine⟨by simp;omega,fun x hx=>?_⟩;rw[getElem_append_left h1];exact h2 x hx
      rw[List.mem_singleton.1 hp];refine⟨by simp,fun x hx=>?_⟩;simp only[List.getElem_concat_length];rw[H4.out.2.2.2.2 x,H4.out.2.2.1 x,H4.out.2.2.2.1 x]
     rw[List.mem_singleton.1 hp];refine⟨by simp,fun x hx=>?_⟩;simp only[List.getElem_concat_length];rw[H4.out.2.2.2.2 x,H4.out.2.2.1 x,H2.out.2.2.2.1 x]
    ·by_cases e:j<SS.length
     ·have e2:j<ms.length:=(by rw[inv.len];exact e);have:=inv.dt j e e2;rw[getElem_append_left e2];simpa [getElem_append_left e] using this
     have:j=SS.length:=(by simp at hj;omega);subst this;have e3:(ms++[r])[SS.length]=r:=by
      rw[List.getElem_append_right (by rw[inv.len];exact le_refl _)];simp[inv.len]
     rw[e3];refine hr.congr (fun x=>?_);simp only[List.getElem_concat_length];rw[H4.out.2.2.2.2 x];exact⟨fun h=>⟨H4.out.1.lt x h,h⟩,fun h=>h.2⟩
    ·rw[getElem?_setIfInBounds_ne (fun e=>h1 e.symm),getElem?_setIfInBounds_ne (fun e=>h2 e.symm)]
    ·simp only[List.getElem_concat_length];rw[H4.out.2.2.2.2 x,H4.out.2.2.1 x]
    refine(Classical.byContradiction fun eo=>?_);have h7:∀x,x<M->SS[i] x=f4 x:=(fun x hx=>Classical.byContradiction fun h=>eo ⟨x,hx,h⟩);exact Qn.out (.int .i64 (i:Int)) ⟨(SS[i],i),inv.own i hi,by rw[(Ub M _ _).2 h7],rfl⟩
   clear hr S5 Ik qj gQ kG D3 Jc;go_wp2;go_ret;exact HF.out
  have vl:=HH.out.2.2.OX p hp;have HF:Hid (JT V B bs bm gI m M bM cs L mk SS st n (.returned (.int .i64 (p.2:Int))) w4):=by
   refine⟨p.2,SS,ms,D,Mb,vS,vK,cs,l4,n,rfl,H4.out.1,H4.out.2.1,HH.out.2.2,by omega,fun _ _ _=>rfl,?_,inl rfl⟩;obtain⟨h1,h3⟩:=vl;refine⟨h1,fun x hx=>?_⟩;rw[h3 x hx,<-H4.out.2.2.2.1 x];injection Ag with Ag;have h5:=(Ub M _ _).1 Ag;exact FR.congr (fun y=>⟨fun h=>⟨h.1,by rw[h5 y h.1];exact h.2⟩,fun h=>⟨h.1,by rw[<-h5 y h.1];exact h.2⟩⟩) x
  clear hp Ag vl;go_wp2;go_ret;exact HF.out
 have vl:=HH.out.2.2.OX p hp;have HF:Hid (JT V B bs bm gI m M bM cs L mk SS st n (.returned (.int .i64 (p.2:Int))) w2.drew):=by
  refine⟨p.2,SS,ms,D,rq,vS,vK,cs,l2,n,rfl,⟨HH.out.1.back H2.out.1.r,H2.out.1.nd,H2.out.1.lt⟩,H2.out.2.1,HH.out.2.2,by omega,fun _ _ _=>rfl,?_,inl rfl⟩;obtain⟨h1,h3⟩:=vl;refine⟨h1,fun x hx=>?_⟩;rw[h3 x hx,<-H2.out.2.2.2.1 x];injection Ag with Ag;have h5:=(Ub M _ _).1 Ag;exact FR.congr (fun y=>⟨fun h=>⟨h.1,by rw[h5 y h.1];exact h.2⟩,fun h=>⟨h.1,by rw[<-h5 y h.1];exact h.2⟩⟩) x
 clear hp Ag vl;go_wp2_with fail
 go_region
 go_wp2;go_ret;exact HF.out
