import Derived.Test.YtiijebameffenaaGreatZNRClose
import Derived.Test.YtiijebameffenaaGreatZTk
set_option linter.all false
set_option maxHeartbeats 2000000
set_option maxRecDepth 100000
open Go.Lib (hid)
namespace Go.Proofs.YtiijebameffenaaGreat
open Go.RowKit Go.Proofs.Tryz
open Nat (le_refl zero_le)
open Or (inl inr)
open List (getElem_append_left length_append map_cons map_nil mem_cons)
open Sem (run_bind run_pure)
open _root_.Array (getElem?_setIfInBounds_ne)
open Region (wanted)
open Act (put)
open Option (mem_toList)
variable {B M bM bm gI k m n q t:Nat}{P P':Nat->Bool}{V W w1 w3 w5 wr:World}{a:Act}{bs l l':List Nat}{je vK vL vS:Value}{ms:List Int}{ops:Array Oper}{ss:List ByteArray}
def lQ(s:ByteArray)(k:Nat):Nat:=(s.get! k).toNat
theorem XS(s:ByteArray)(k:Nat):lQ s k<256:=UInt8.toNat_lt _
theorem N6(s:ByteArray)(k:Nat)(h:k<s.size):(s[k]'h).toNat=lQ s k:=by
 unfold lQ;rw[show s.get! k=s[k]'h from getElem!_pos s.data k h]
open Go.Maps Go.WideElems Go.ChangeMaps Go.MapKept
def BT(b t:Nat):Prop:=b≠0->t<8/\b.testBit t=true/\(b &&& (b-1))<b/\∀j,j<8->(b &&& (b-1)).testBit j=(b.testBit j && decide (j≠t))
instance (b t:Nat):Decidable (BT b t):=by unfold BT;infer_instance
theorem zmF(x:UInt8):wrap64 (x.toNat:Int)=(x.toNat:Int):=by
 have:x.toNat<256:=UInt8.toNat_lt x;exact IntWalk.wrap64_in _ ⟨by omega,by omega⟩
theorem zoD(b:Nat)(hb:b<256)(w:World):Calls prog 175 #[.int .u8 (b:Int)] w fun e w'=>∃t:Nat,e=.returned (.int .i64 (t:Int))/\BT b t/\w'=w:=by
 go_enter func175,ntmps175;go_wp2;go_ret;refine⟨_,congrArg (fun z=>Ending.returned (Value.int IntKind.i64 z)) (zmF _),?_,rfl⟩;clear w;rename_i h;revert h;revert hb;revert b;decide +kernel
def zoE(n:Nat)(g:Nat->Bool)(w:World)(e:Ending)(w':World):Prop:=
 ∃(L:List Nat) (a:Option Addr) (c:Nat),e=.returned (.slice a L.length c)/\w'.ownsRow w.heap.size 3 1 (.slice a L.length c) L.length (cy L)/\L.Nodup/\(∀x,x∈L↔x<8*n/\g x=true)/\Below w.heap.size w w'
theorem zgP(s:ByteArray)(n:Nat)(hs:s.size=n)(hn:n<=100000)(g:Nat->Bool)(hg:∀i,i<n->lQ s i=jY g i)(w:World):Calls prog 156 #[.string s] w (zoE n g w):=by
 have H:=hid (Zz hs hg);have RL:=hs;obtain⟨i0,hi,dD,db,cW⟩:=info_parts az;clear hg hs;go_enter func156,ntmps156;go_wp2;go_loopw [3,4,5,8] (fun v3 _ _ v wr=>∃(k:Nat) (L:List Nat) (a:Option Addr) (c:Nat),v=.int .i64 k/\k<=n/\v3=.slice a L.length c/\Hid (wr.ownsRow w.heap.size 3 1 (.slice a L.length c) L.length (cy L)/\L.Nodup/\(∀x,x∈L↔x<8*k/\g x=true)/\Below w.heap.size w wr)) (fun _ _ _ v _=>n-(intOf v).toNat)
 ·exact⟨0,[],none,0,rfl,zero_le _,rfl,World.ownsRow_nil _ _ _ _,List.nodup_nil,fun x=>by simp,Below.refl _ _⟩
 obtain⟨k,L,a,c,rfl,hk,rfl,HA⟩:=hrel;by_cases aw:k<n
 ·have Js:k<s.size:=by rw[RL];exact aw
  obtain⟨bt,uu⟩:∃bt,(s[k]'Js).toNat=bt:=⟨_,rfl⟩
  have zQ:=N6 s k Js;rw[uu,H.out.2 k aw] at zQ;have vG:bt<256:=by rw[zQ];exact J8 g k
  have HB:=hid zQ;have i1:(k:Int)<n:=by omega
  clear zQ;go_wp2;go_loopw [3,5] (fun v3 v5 wq=>∃(b:Nat) (L2:List Nat) (a2:Option Addr) (c2:Nat),v5=.int .u8 b/\b<256/\v3=.slice a2 L2.length c2/\L2.length<=8*k+8/\Hid (wq.ownsRow w.heap.size 3 1 (.slice a2 L2.length c2) L2.length (cy L2)/\L2.Nodup/\(∀x,x∈L2↔(x<8*k/\g x=true)\/∃j,j<8/\x=8*k+j/\g x=true/\b.testBit j=false)/\Below w.heap.size w wq)/\Hid (∀j,j<8->b.testBit j=true->g (8*k+j)=true)) (fun _ v _=>(intOf v).toNat)
  ·refine⟨bt,L,a,c,rfl,vG,rfl,?_,⟨HA.out.1,HA.out.2.1,fun x=>?_,HA.out.2.2.2⟩,fun j hj h=>?_⟩
   ·have:=pW HA.out.2.1 (m:=8*k) (fun x hx=>((HA.out.2.2.1 x).1 hx).1);omega
   ·rw[HA.out.2.2.1 x];constructor
    ·exact inl
    rintro (h|⟨j,hj,rfl,h1,h2⟩)
    ·exact h
    rw[HB.out,yT] at h2;simp[hj,h1] at h2
   rw[HB.out,yT] at h;simpa [hj] using h
  obtain⟨b,L2,a2,c2,rfl,hb,rfl,hlen,HC,HD⟩:=hrel;by_cases bc:b=0
  ·subst bc;have HZ:Hid (wr.ownsRow w.heap.size 3 1 (.slice a2 L2.length c2) L2.length (cy L2)/\L2.Nodup/\(∀x,x∈L2↔x<8*(k+1)/\g x=true)/\Below w.heap.size w wr):=by
    refine⟨HC.out.1,HC.out.2.1,fun x=>?_,HC.out.2.2.2⟩;rw[HC.out.2.2.1 x];constructor
    ·rintro (⟨h1,h2⟩|⟨j,hj,rfl,h1,h2⟩)
     ·exact⟨by omega,h2⟩
     exact⟨by omega,h1⟩
    rintro⟨h1,h2⟩;by_cases h3:x<8*k
    ·exact inl ⟨h3,h2⟩
    exact inr ⟨x-8*k,by omega,by omega,h2,by simp⟩
   clear HA HC HD uu;go_wp2;go_roundw
   ·exact⟨k+1,L2,a2,c2,by go_num,by omega,rfl,HZ⟩
   simp[intOf];omega
  have DQ:=hid HC.out.1;have hO:=HC.out.1;have hB:=HC.out.2.2.2;have I6:=hB.size;obtain⟨q,hq⟩:∃q,L2.length=q:=⟨_,rfl⟩
  rw[hq] at hlen hO;have HQ:=hid hq;have fw:¬((b:Int)=0):=by omega
  clear HA uu;go_wp2_with fail;refine (zoD b hb _).mono ?_;rintro e w3 ⟨t,rfl,htz,rfl⟩;obtain⟨R5,Us,PR,oV⟩:=htz bc;rw[hq];go_wp2_with (at_builtin;refine wpList_append_own _ rfl _ _ 43 rfl w.heap.size 3 i0 (.int .i64 0) 1 8 underlying43 hi dD db cW rfl (by decide) _ _ _ rfl (hO.alloc _) ⟨w3.heap.size,0,none⟩ 1 1 [.int .i64 (8*(k:Int)+(t:Int))] rfl rfl (cell_one_new _ _ _) ?d2 ?d3 ?d4 ?d5 ?_)
  case d2=>intro u hu;simp at hu;subst hu;rfl
  case d3=>unfold maxLen;omega
  case d4=>omega
  case d5=>simp;omega
  intro v' w5 ak aj _;obtain⟨a5,c5,rfl⟩:=bF ak;have kT:=fH (hB.trans ((al w3 (.cells #[.int .i64 (8*(k:Int)+(t:Int))] 3)).mono I6)) (hO.alloc _) (by simp;omega) aj;have gD:8*k+t∉L2:=by
   rw[HC.out.2.2.1];rintro (⟨h1,h2⟩|⟨j,hj,h1,h2,h3⟩)
   ·omega
   rw[show j=t by omega,Us] at h3;cases h3
  obtain⟨b2,cv⟩:∃b2,b &&& (b-1)=b2:=⟨_,rfl⟩
  rw[cv] at PR oV;have hand:bits .and .u8 (b:Int) ((b:Int)-1)=(b2:Int):=by
   have:=u8_and_nat b (b-1) hb (by omega);rw[cv] at this;rw[<-this];congr 1;omega
  have HZ:Hid (w5.ownsRow w.heap.size 3 1 (.slice a5 (L2++[8*k+t]).length c5) (L2++[8*k+t]).length (cy (L2++[8*k+t]))/\(L2++[8*k+t]).Nodup/\(∀x,x∈L2++[8*k+t]↔(x<8*k/\g x=true)\/∃j,j<8/\x=8*k+j/\g x=true/\b2.testBit j=false)/\Below w.heap.size w w5):=by
   refine⟨?_,?_,fun x=>?_,kT⟩
   ·rw[x8,length_append,hq];simpa using ak
   ·refine List.nodup_append.2 ⟨HC.out.2.1,by simp,fun a ha b hb e=>?_⟩;rw[List.mem_singleton.1 hb] at e;exact gD (e ▸ ha)
   rw[List.mem_append,HC.out.2.2.1 x,List.mem_singleton];constructor
   ·rintro ((h|⟨j,hj,h1,h2,h3⟩)|h)
    ·exact inl h
    ·exact inr ⟨j,hj,h1,h2,by rw[oV j hj,h3];rfl⟩
    exact inr ⟨t,R5,h,by rw[h];exact HD.out t R5 Us,by rw[oV t R5];simp⟩
   rintro (h|⟨j,hj,h1,h2,h3⟩)
   ·exact inl (inl h)
   by_cases e:j=t
   ·exact inr (by rw[h1,e])
   rw[oV j hj] at h3;exact inl (inr ⟨j,hj,h1,h2,by simpa [e] using h3⟩)
  have y7:Hid (∀j,j<8->b2.testBit j=true->g (8*k+j)=true):=fun j hj h=>by
   rw[oV j hj] at h;simp at h;exact HD.out j hj h.1
  have D5:(L2++[8*k+t]).length<=8*k+8:=pW HZ.out.2.1 (fun x hx=>by
   rcases (HZ.out.2.2.1 x).1 hx with h|⟨j,hj,h,_⟩ <;> omega)
  have yD:q+1<=8*k+8:=by rw[length_append,hq] at D5;simpa using D5
  have um:Hid ((L2++[8*k+t]).length=q+1):=by show _=_;rw[length_append,hq];rfl
  have Qy:b2<256:=by omega
  clear ak aj kT gD cv oV hO hB D5 hq;go_wp2;go_roundw
  ·exact⟨b2,L2++[8*k+t],a5,c5,rfl,Qy,by rw[um.out],by rw[um.out];exact yD,HZ,y7⟩
  simp[intOf];omega
 obtain rfl:k=n:=by omega
 go_wp2;go_ret;exact⟨L,a,c,rfl,HA.out⟩
theorem Yx(v:Nat->Nat)(n c g:Nat)(hn:0<n)(dj:n<=1000)(hv:∀j,j<n->v j<256)(w:World)(h:∀j,j<n->w.cell? ⟨g,j,none⟩=some (.int .u8 ((v j:Nat):Int))):
  Calls prog 174 #[.slice (some ⟨g,0,none⟩) n c] w fun e w'=>∃x:Nat,e=.returned (.int .u8 (x:Int))/\(∀j,j<n->v j<=x)/\(∃j,j<n/\v j=x)/\w'=w:=by
 have H:=hid (Zz hv h);have c0:=h 0 hn;have hz:¬((n:Int)<1):=by omega
 clear hv h;go_enter func174,ntmps174;go_wp2;go_loopw [3,4] (fun v3 i wr=>∃(k x:Nat),i=.int .i64 k/\1<=k/\k<=n/\v3=.int .u8 (x:Int)/\Hid ((∀j,j<k->v j<=x)/\∃j,j<k/\v j=x)/\wr=w) (fun _ i _=>n-(intOf i).toNat)
 ·exact⟨1,v 0,rfl,le_refl _,hn,rfl,⟨fun j hj=>by rw[show j=0 by omega];exact le_refl _,0,by omega,rfl⟩,rfl⟩
 obtain⟨k,x,rfl,pM,hk,rfl,HX,rfl⟩:=hrel;by_cases aw:k<n
 ·have ck:=H.out.2 k aw;have hvk:=H.out.1 k aw;have HZ:Hid (∀y,(y=x/\v k<=x)\/(y=v k/\x<=v k)->(∀j,j<k+1->v j<=y)/\∃j,j<k+1/\v j=y):=fun y hy=>by
   obtain⟨h1,j0,h2,h3⟩:=HX.out;rcases hy with ⟨rfl,hy⟩|⟨rfl,hy⟩
   ·exact⟨fun j hj=>by by_cases e:j=k;rw[e];exact hy;exact h1 j (by omega),j0,by omega,h3⟩
   exact⟨fun j hj=>by by_cases e:j=k;rw[e];exact le_refl _;exact Nat.le_trans (h1 j (by omega)) hy,k,by omega,rfl⟩
  generalize v k=y at ck hvk HZ;have i1:(k:Int)<n:=by omega
  rcases Nat.le_total y x with M3|M3
  ·have y7:=hid (HZ.out x (inl ⟨rfl,M3⟩));have Og:max (x:Int) (y:Int)=x:=(by omega);have PK:max x y=x:=(by omega);go_wp2;go_roundw
   ·exact⟨k+1,x,by go_num,by omega,by omega,by first|rfl|simp[Og],y7,by first|trivial|rfl⟩
   simp[intOf];omega
  have y7:=hid (HZ.out y (inr ⟨rfl,M3⟩));have Og:max (x:Int) (y:Int)=y:=by omega
  have PK:max x y=y:=by omega
  go_wp2;go_roundw
  ·exact⟨k+1,y,by go_num,by omega,by omega,by first|rfl|simp[Og],y7,by first|trivial|rfl⟩
  simp[intOf];omega
 obtain rfl:k=n:=by omega
 go_wp2;go_ret;exact⟨x,rfl,HX.out.1,HX.out.2,rfl⟩
theorem zkE(K:Nat->Lit)(cs:Array Value)(hs:cs.size=256)(hc:∀j,j<256->cs[j]?=some (.int .u8 ((cls K j:Nat):Int)))(w:World):
  Calls prog 155 #[.agg cs] w fun e w'=>e=.returned (.int .i64 ((cQ K 256:Nat):Int))/\Below w.heap.size w w':=by
 have eK:∀j,j<256->cls K j<256:=fun j hj=>by have:=Qz K j;omega
 have hB:=al w (.cells cs 98);have hS:=St.new w 98 cs;have hM:=hid (Yx (cls K) 256 256 w.heap.size (by omega) (by omega) eK (w.alloc (.cells cs 98)) (fun j hj=>by rw[hS.at_,hc j hj]));have HB:=hid hB;have HT:Hid (∀x,(∀j,j<256->cls K j<=x)->(∃j,j<256/\cls K j=x)->x+1=cQ K 256/\x<256):=fun x h1 h2=>by
  obtain⟨b,hb,e⟩:=ZN K 256 (by omega);obtain⟨j,hj,rfl⟩:=h2;have:=Es K j 256 hj;have:=h1 b hb;have:=eK j hj;omega
 clear eK hB hS hc;go_enter func155,ntmps155;go_wp2_with fail;refine hM.out.mono ?_;rintro e w2 ⟨x,rfl,h1,h2,rfl⟩;obtain⟨hx,kY⟩:=HT.out x h1 h2;have HX:=hid hx;clear h1 h2 hx;go_wp2;go_ret;exact⟨by rw[<-HX.out];first|rfl|(simp;done),HB.out⟩
theorem Gm{P:Program}(w:World)(ad:Addr)(ty:TypeId)(cs:Array Value)(d:TypeDesc)(hc:∀j v,cs.toList[j]?=some v->w.cell? (ad.add j)=some v)
  (hu:P.underlying ty=some d) (hd:(match d with|.struct _|.array _ _=>true|_=>false)=true) (hi:(P.info? ty).map (·.size)=some cs.size):
  (loadVar ty ad).run P w=.ok (.agg cs) w:=by
 have hl:(loadCells ad cs.toList.length).run P w=.ok cs.toList.toArray w:=run_loadCells_list (P:=P) w ad cs.toList hc;cases hq:P.info? ty with
 | none=>simp[hq] at hi
 | some i=>
  have hs:i.size=cs.size:=by simpa [hq] using hi
  have C9:(isAgg ty).run P w=.ok true w:=by
   unfold isAgg;rw[run_bind,run_underlying hu w];cases d <;> simp_all
  simp only[Array.length_toList,Array.toArray_toList] at hl;simp[loadVar,run_bind,C9,sizeOf,typeInfo,hq,hs,hl]
theorem si{P:Program}{rest:List Oper}{o:Oper}{w:World}{Q:Exit->Act->World->Prop}(qF:o.guard=none)(ty:TypeId)(x:Operand)(ho:o.op=.load ty x)
  (ad:Addr) (hx:a.eval x=.pointer (some ad)) (cs:Array Value) (d:TypeDesc) (hc:∀j v,cs.toList[j]?=some v->w.cell? (ad.add j)=some v)
  (hu:P.underlying ty=some d) (hd:(match d with|.struct _|.array _ _=>true|_=>false)=true) (hi:(P.info? ty).map (·.size)=some cs.size)
  (h:wpList P ops Q rest (a.put o.dst (.agg cs)) w):wpList P ops Q (o :: rest) a w:=
 wpList_plain qF fun _ hK=>by
  unfold Oper.wp execOp
  simp only[ho,hx,Instr.loadAt,Instr.sureAddr,run_bind,run_pure,Result.andThen_ok,Gm w ad ty cs d hc hu hd hi]
  exact hK _ _ h
noncomputable def rl (K:Nat->Lit):Nat->List Nat
 | 0=>[]
 | k+1=>if cls K k=(rl K k).length then rl K k++[k] else rl K k
theorem yR(K:Nat->Lit)(k:Nat):(rl K k).length=cQ K k:=by
 induction k with
 | zero=>rfl
 | succ k ih=>
  rw[rl,cQ,ih];by_cases e:fst K k=k
  ·have:cls K k=cQ K k:=(by unfold cls;rw[e]);rw[if_pos this,if_pos e];simp[ih]
  have h1:=(yA K k).1;have h2:cls K k+1<=cQ K k:=by
   have h3:fst K k<k:=(by omega);have:=Es K (fst K k) k h3;unfold cls at this⊢;rwa [Kp] at this
  rw[if_neg (by omega),if_neg e,ih];omega
theorem X7(K:Nat->Lit)(k:Nat):∀c (h:c<(rl K k).length),cls K (rl K k)[c]=c/\(rl K k)[c]<k:=by
 induction k with
 | zero=>intro c h;simp[rl] at h
 | succ k ih=>
  intro c h;by_cases e:cls K k=(rl K k).length
  ·have er:rl K (k+1)=rl K k++[k]:=(by rw[rl,if_pos e]);simp only[er] at h⊢;by_cases hc:c<(rl K k).length
   ·rw[getElem_append_left hc];have:=ih c hc;omega
   rw[length_append] at h;have:c=(rl K k).length:=(by simp at h;omega);subst this;rw[List.getElem_append_right (le_refl _)];simp[e]
  have er:rl K (k+1)=rl K k:=by rw[rl,if_neg e]
  simp only[er] at h⊢;have:=ih c h;omega
structure JH (w:World)(B bn:Nat)(K:Nat->Lit)(cs:Array Value):Prop where
 fR:bn<B
 sz:cs.size=256
 val:∀j,j<256->cs[j]?=some (.int .u8 ((cls K j:Nat):Int))
 at_:∀j v,cs.toList[j]?=some v->w.cell? ((⟨bn,0,none⟩:Addr).add j)=some v
theorem Ot{P:Program}(t e:TypeId)(n:Nat)(cs:Array Value)(i:Nat)(v:Value)(h:P.underlying t=some (.array n e))(hi:i<n)(hs:(P.info? e).map (·.size)=some 1)(hd:∃d,P.underlying e=some d/\(match d with|.struct _|.array _ _=>true|_=>false)=false)(hv:cs[i]?=some v)(w:World):
  (Instr.index t (.agg cs) (.int .i64 (i:Int))).run P w=.ok v w:=by
 obtain⟨d,hd1,hd2⟩:=hd;cases hq:P.info? e with
 | none=>simp[hq] at hs
 | some inf=>
  have kz:inf.size=1:=by simpa [hq] using hs
  have C9:(isAgg e).run P w=.ok false w:=by
   unfold isAgg;rw[run_bind,run_underlying hd1 w];cases d <;> simp_all
  have h1:(0:Int)<=i/\(i:Int)<n:=by omega
  simp[Instr.index,asIntOf,run_underlying h,h1,sizeOf,typeInfo,hq,kz,part,C9,hv];intro hni;omega
def Wu(K:Nat->Lit)(w:World)(e:Ending)(w':World):Prop:=
 ∃(a:Option Addr) (c:Nat),e=.returned (.slice a (cQ K 256) c)/\w'.ownsRow w.heap.size 5 1 (.slice a (cQ K 256) c) (cQ K 256) (ix (rl K 256))/\Below w.heap.size w w'
theorem zdX(K:Nat->Lit)(B bn:Nat)(cs:Array Value)(w:World)(h:JH w B bn K cs):Calls prog 169 #[.pointer (some ⟨bn,0,none⟩)] w (Wu K w):=by
 have H:=hid h;have eG:(prog.info? 98).map (·.size)=some cs.size:=by rw[h.sz];kernel_rfl
 obtain⟨i0,hi,dD,db,cW⟩:=info_parts jB;clear h;go_enter func169,ntmps169;go_wp2_with (refine si rfl 98 _ rfl ⟨bn,0,none⟩ rfl cs (.array 256 5) H.out.at_ underlying98 rfl eG ?_);go_loopw [3,4,5,10] (fun v3 _ _ v wr=>∃(k q:Nat) (a:Option Addr) (c:Nat),v=.int .i64 k/\k<=256/\q<=256/\v3=.slice a q c/\Hid ((rl K k).length=q/\wr.ownsRow w.heap.size 5 1 (.slice a q c) q (ix (rl K k))/\Below w.heap.size w wr)) (fun _ _ _ v _=>256-(intOf v).toNat)
 ·exact⟨0,0,none,0,rfl,zero_le _,zero_le _,rfl,rfl,World.ownsRow_nil _ _ _ _,Below.refl _ _⟩
 obtain⟨k,q,a,c,rfl,hk,hq,rfl,HA⟩:=hrel;by_cases aw:k<256
 ·have hv:=H.out.val k aw;have da:=H.out.sz;have Ez:(k:Int)<256:=by omega
  have C8:=Ot 98 5 256 cs k _ underlying98 aw (by kernel_rfl) ⟨_,underlying5,rfl⟩ hv wr;have eK:cls K k<=k:=Qz K k;have hle:q<=k:=by rw[<-HA.out.1,yR];exact KI K k
  by_cases hc:cls K k=q
  ·have HZ:Hid (rl K (k+1)=rl K k++[k]/\(rl K (k+1)).length=q+1):=by
    have e:rl K (k+1)=rl K k++[k]:=(by rw[rl,if_pos (by rw[HA.out.1];exact hc)]);exact⟨e,by rw[e,length_append,HA.out.1];rfl⟩
   generalize cls K k=x at hv eK hc C8;subst hc;have hO:=HA.out.2.1;have hB:=HA.out.2.2;have I6:=hB.size;go_wp2_with (at_builtin;refine wpList_append_own _ rfl _ _ 76 rfl w.heap.size 5 i0 (.int .u8 0) 1 1 underlying76 hi dD db cW rfl (by decide) _ _ _ rfl (hO.alloc _) ⟨wr.heap.size,0,none⟩ 1 1 [.int .u8 (k:Int)] rfl rfl (cell_one_new _ _ _) ?d2 ?d3 ?d4 ?d5 ?_)
   case d2=>intro u hu;simp at hu;subst hu;rfl
   case d3=>unfold maxLen;omega
   case d4=>omega
   case d5=>simp;omega
   intro v' w5 ak aj _;obtain⟨a5,c5,rfl⟩:=bF ak;have kT:=fH (hB.trans ((al wr (.cells #[.int .u8 (k:Int)] 5)).mono I6)) (hO.alloc _) (by simp;omega) aj;have HF:Hid ((rl K (k+1)).length=x+1/\w5.ownsRow w.heap.size 5 1 (.slice a5 (x+1) c5) (x+1) (ix (rl K (k+1)))/\Below w.heap.size w w5):=by
    refine⟨HZ.out.2,?_,kT⟩;rw[HZ.out.1,zld];exact ak
   clear ak aj kT hO hB HA;go_wp2;go_roundw
   ·exact⟨k+1,x+1,a5,c5,by go_num,by omega,by omega,rfl,HF⟩
   simp[intOf];omega
  have HZ:Hid (rl K (k+1)=rl K k):=by
   show _=_;rw[rl,if_neg (by rw[HA.out.1];exact hc)]
  generalize cls K k=x at hv eK hc C8;have jf:¬((x:Int)=q):=by omega
  go_wp2;go_roundw
  ·exact⟨k+1,q,a,c,by go_num,by omega,hq,rfl,by rw[HZ.out];exact HA⟩
  simp[intOf];omega
 obtain rfl:k=256:=by omega
 have HF:Hid (Wu K w (.returned (.slice a q c)) wr):=by
  have e:=HA.out.1;rw[yR] at e;subst e;exact⟨a,c,rfl,HA.out.2.1,HA.out.2.2⟩
 go_wp2;go_ret;exact HF.out
theorem gV.grown{cs:Array Value}{row:Option Nat}(h:gV V B bs bm gI m cs P l vL wr)(hg:wr.grownBy w1 row)(hr:∀g,row=some g->g∈bs\/V.heap.size<=g)(hB:∀g,row=some g->B<=g)
  (h1:some bm≠row) (h2:some gI≠row) (h3:∀b,vL.ownBlock=some b->some b≠row):gV V B bs bm gI m cs P l vL w1:=
 ⟨h.kept.grown hg (fun g e=>(hr g e).elim inl (fun x=>inr (inl x))),h.below.grown hg h.hB hB,h.sm.grown hg h1,h.sz,h.cI,ri h.kX hg (fun g e=>by simp only[Value.ownBlock] at e;rw[<-e];exact h2),ri h.cm hg h3,h.loc,h.jx,h.lo⟩
theorem zkH(cs:Array Value)(i:Nat)(hi:i≠262)(u v:Value):(cs.setIfInBounds 262 v).setIfInBounds i u=(cs.setIfInBounds i u).setIfInBounds 262 v:=by
 apply Array.ext_getElem?;intro j;simp only[Array.getElem?_setIfInBounds,Array.size_setIfInBounds];by_cases h1:i=j <;> by_cases h2:262=j <;> simp[h1,h2]
 omega
theorem gV.xu{cs:Array Value}(h:gV V B bs bm gI m cs P l vL wr)(i:Nat)(h1:i≠261)(h2:i≠262)(u:Value):gV V B bs bm gI m (cs.setIfInBounds i u) P l vL (wr.setCell ⟨bm,i,none⟩ u):=by
 refine⟨h.kept.setCell _ _ (inl h.jx.1),h.below.setCell (p:=⟨bm,i,none⟩) h.lo.1 _,?_,by rw[Array.size_setIfInBounds];exact h.sz,by rw[getElem?_setIfInBounds_ne h1];exact h.cI,jI h.kX h.sm (by decide) _ _,jI h.cm h.sm (by decide) _ _,h.loc,h.jx,h.lo⟩;have:=h.sm.set i u;rwa [zkH cs i h2 u vL] at this
theorem gV.other{cs:Array Value}(h:gV V B bs bm gI m cs P l vL wr)(i:Nat)(hi:i≠262):wr.cell? ⟨bm,i,none⟩=cs[i]?:=by
 rw[h.sm.at_,getElem?_setIfInBounds_ne (fun e=>hi e.symm)]
theorem iu.grown{cs:Array Value}{row:Option Nat}(h:iu V B bs bm gI m M cs l vL wr)(hg:wr.grownBy w1 row)(hr:∀g,row=some g->g∈bs\/V.heap.size<=g)(hB:∀g,row=some g->B<=g)
  (h1:some bm≠row) (h2:some gI≠row) (h3:∀b,vL.ownBlock=some b->some b≠row):iu V B bs bm gI m M cs l vL w1:=⟨h.r.grown hg hr hB h1 h2 h3,h.nd,h.lt⟩
theorem iu.xu{cs:Array Value}(h:iu V B bs bm gI m M cs l vL wr)(i:Nat)(h1:i≠261)(h2:i≠262)(u:Value):iu V B bs bm gI m M (cs.setIfInBounds i u) l vL (wr.setCell ⟨bm,i,none⟩ u):=⟨h.r.xu i h1 h2 u,h.nd,h.lt⟩
def strs(l:List ByteArray):List Value:=l.map fun s=>.string s
def ints(l:List Int):List Value:=l.map fun x=>.int .i64 x
theorem pk:(prog.info? 9).map (fun i=>(i.zero,i.size,i.bytes))=some (some (.string ⟨#[]⟩),1,16):=by kernel_rfl
theorem Cs:Keyed prog 9:=string_keyed underlying9
structure mm (V:World)(B:Nat)(bs:List Nat)(bM:Nat)(cs:Array Value)(vL:Value)(k q n:Nat)(ss:List ByteArray)(ms:List Int)(Q:Value->Value->Prop)(vS vK:Value)(wr:World):Prop where
 cK:cs[258]?=some vK
 cS:cs[259]?=some vS
 cM:cs[260]?=some (.map (some bM))
 os:wr.ownsRow B 9 1 vS k (strs ss)
 ok:wr.ownsRow B 3 1 vK q (ints ms)
 map:aD wr 9 bM n Q
 sep:∀b,vL.ownBlock=some b->vK.ownBlock≠some b
 lS:∀b,vS.ownBlock=some b->b∈bs\/V.heap.size<=b
 lK:∀b,vK.ownBlock=some b->b∈bs\/V.heap.size<=b
 lM:bM∈bs/\B<=bM
theorem mm.aa{cs:Array Value}{Q:Value->Value->Prop}(h:mm V B bs bM cs vL k q n ss ms Q vS vK wr)(b:Below wr.heap.size wr w1):mm V B bs bM cs vL k q n ss ms Q vS vK w1:=
 ⟨h.cK,h.cS,h.cM,dp h.os b,dp h.ok b,h.map.same (b.block _ h.map.lt),h.sep,h.lS,h.lK,h.lM⟩
def Mg(V:World)(B:Nat)(bs:List Nat)(bm gI m M bM:Nat)(cs:Array Value)(l:List Nat)(vL:Value)(k n:Nat)(ss:List ByteArray)(ms:List Int)(Q':Value->Value->Prop)(s:ByteArray)(mk:Nat->Int)(e:Ending)(w':World):Prop:=
 ∃(r:Int) (vS' vK':Value),e=.returned (.int .i64 (k:Int))/\bG mk (fun x=>x∈l) r/\iu V B bs bm gI m M ((cs.setIfInBounds 259 vS').setIfInBounds 258 vK') l vL w'/\
  mm V B bs bM ((cs.setIfInBounds 259 vS').setIfInBounds 258 vK') vL (k+1) (k+1) (n+1) (ss++[s]) (ms++[r]) Q' vS' vK' w'
theorem By{w:World}{b g:Nat}{cs:Array Value}{Q:Value->Value->Prop}(hm:aD w k b n Q)(h:St w t g cs):g≠b:=by
 rintro rfl;obtain⟨es,clock,hb,_⟩:=hm;have h1:w.heap[g]?=_:=h;rw[h1] at hb;cases hb
theorem xk{w:World}{b size:Nat}{v:Value}{xs:List Value}{Q:Value->Value->Prop}(hm:aD w k b n Q)(h:w.ownsRow B t size v q xs):∀g,v.ownBlock=some g->g≠b:=by
 rintro g e rfl;obtain⟨c,fz,hc⟩:=pS h g e;obtain⟨es,clock,hb,_⟩:=hm;rw[hc] at hb;cases hb
theorem ZO{cs:Array Value}{vS':Value}{Q:Value->Value->Prop}{s:ByteArray}
  (h:iu V B bs bm gI m M cs l vL W) (t:mm V B bs bM cs vL k q n ss ms Q vS vK W) (ho:w5.ownsRow B 9 1 vS' (k+1) (strs ss++[.string s])) (hg:W.grownBy w5 vS.ownBlock) (ew:vS'.ownBlock=vS.ownBlock\/vS'.ownBlock=some W.heap.size):
  iu V B bs bm gI m M (cs.setIfInBounds 259 vS') l vL (w5.setCell ⟨bm,259,none⟩ vS')/\mm V B bs bM (cs.setIfInBounds 259 vS') vL (k+1) q n (ss++[s]) ms Q vS' vK (w5.setCell ⟨bm,259,none⟩ vS'):=by
 have h5:=h.grown hg t.lS (km t.os) (fun e=>dG t.os h.r.sm (by decide) bm e.symm rfl) (fun e=>gP t.os h.r.kX (by decide) gI e.symm rfl) (fun b e1 e2=>gP h.r.cm t.os (by decide) b e1 e2.symm);have lX:=h5.r.sm;refine⟨h5.xu 259 (by decide) (by decide) vS',by rw[getElem?_setIfInBounds_ne (by decide)];exact t.cK,by rw[Array.getElem?_setIfInBounds_self_of_lt (by rw[h.r.sz];decide)],by rw[getElem?_setIfInBounds_ne (by decide)];exact t.cM,?_,
  jI (uO t.ok t.os (by decide) hg) lX (by decide) _ _,(t.map.ag t.os hg).set lX,t.sep,?_,t.lK,t.lM⟩
 ·rw[show strs (ss++[s])=strs ss++[.string s] by simp[strs]];exact jI ho lX (by decide) _ _
 intro b e1;rcases ew with h1|h1
 ·exact t.lS b (by rw[<-h1];exact e1)
 rw[h1] at e1;injection e1 with e1;exact inr (by rw[<-e1];exact h.r.below.size)
theorem Nx{cs:Array Value}{vK':Value}{Q:Value->Value->Prop}{r:Int}
  (h:iu V B bs bm gI m M cs l vL W) (t:mm V B bs bM cs vL k q n ss ms Q vS vK W) (ho:w5.ownsRow B 3 1 vK' (q+1) (ints ms++[.int .i64 r])) (hg:W.grownBy w5 vK.ownBlock) (ew:vK'.ownBlock=vK.ownBlock\/vK'.ownBlock=some W.heap.size):
  iu V B bs bm gI m M (cs.setIfInBounds 258 vK') l vL (w5.setCell ⟨bm,258,none⟩ vK')/\mm V B bs bM (cs.setIfInBounds 258 vK') vL k (q+1) n ss (ms++[r]) Q vS vK' (w5.setCell ⟨bm,258,none⟩ vK'):=by
 have h5:=h.grown hg t.lK (km t.ok) (fun e=>dG t.ok h.r.sm (by decide) bm e.symm rfl) (fun e=>gP t.ok h.r.kX (by decide) gI e.symm rfl) (fun b e1 e2=>t.sep b e1 e2.symm);have lX:=h5.r.sm;refine⟨h5.xu 258 (by decide) (by decide) vK',by rw[Array.getElem?_setIfInBounds_self_of_lt (by rw[h.r.sz];decide)],by rw[getElem?_setIfInBounds_ne (by decide)];exact t.cS,by rw[getElem?_setIfInBounds_ne (by decide)];exact t.cM,
  jI (uO t.os t.ok (by decide) hg) lX (by decide) _ _,?_,(t.map.ag t.ok hg).set lX,fun b e1 e2=>?_,t.lS,?_,t.lM⟩
 ·rw[show ints (ms++[r])=ints ms++[.int .i64 r] by simp[ints]];exact jI ho lX (by decide) _ _
 ·rcases ew with h1|h1
  ·exact t.sep b e1 (by rw[<-h1];exact e2)
  rw[h1] at e2;injection e2 with e2;obtain⟨c,fz,hc⟩:=pS h.r.cm b e1;have:=(Array.getElem?_eq_some_iff.1 hc).1;omega
 intro b e1;rcases ew with h1|h1
 ·exact t.lK b (by rw[<-h1];exact e1)
 rw[h1] at e1;injection e1 with e1;exact inr (by rw[<-e1];exact h.r.below.size)
theorem UP{n':Nat}{cs:Array Value}{Q Q':Value->Value->Prop}
  (h:iu V B bs bm gI m M cs l vL W) (t:mm V B bs bM cs vL k q n ss ms Q vS vK W) (hm:aD w5 9 bM n' Q') (hg:W.grownBy w5 (some bM)):
  iu V B bs bm gI m M cs l vL w5/\mm V B bs bM cs vL k q n' ss ms Q' vS vK w5:=by
 have oo:=t.map;have h5:=h.grown hg (fun g e=>by injection e with e;rw[<-e];exact inl t.lM.1) (fun g e=>by injection e with e;rw[<-e];exact t.lM.2) (fun e=>by injection e with e;exact By oo h.r.sm e) (fun e=>by injection e with e;exact xk oo h.r.kX gI rfl e) (fun b e1 e2=>by injection e2 with e2;exact xk oo h.r.cm b e1 e2);exact⟨h5,t.cK,t.cS,t.cM,yG t.os oo.of hg,yG t.ok oo.of hg,hm,t.sep,t.lS,t.lK,t.lM⟩
theorem zkI(f t:Nat):dg (bx f t).z=[.int .i64 (f:Int),.int .i64 (t:Int),.int .u64 0,.int .u64 0,.int .u64 0,.int .u64 0,.bool true]:=by
 simp[dg,En.z,bx,zq]
theorem uK(f t:Nat)(w:World):Calls prog 167 #[.int .i64 (f:Int),.int .i64 (t:Int)] w fun e w'=>e=.returned (.agg #[.int .i64 (f:Int),.int .i64 (t:Int),.int .u64 0,.int .u64 0,.int .u64 0,.int .u64 0,.bool true])/\Below w.heap.size w w':=by
 have HB:=hid ((Below.refl w.heap.size w).alloc (le_refl _) (.cells #[.int .i64 (f:Int),.int .i64 (t:Int),.int .u64 0,.int .u64 0,.int .u64 0,.int .u64 0,.bool true] 186));have HS:=hid (St.new w 186 #[.int .i64 (f:Int),.int .i64 (t:Int),.int .u64 0,.int .u64 0,.int .u64 0,.int .u64 0,.bool true]);go_enter func167,ntmps167;go_wp2_with fail;generalize w.alloc (.cells #[.int .i64 (f:Int),.int .i64 (t:Int),.int .u64 0,.int .u64 0,.int .u64 0,.int .u64 0,.bool true] 186)=W at HB HS⊢;obtain⟨v0,v1,v2,v3,v4,v5,v6⟩:=Y4 HS.out;exact bodyPost_ret (v:=.agg #[.int .i64 (f:Int),.int .i64 (t:Int),.int .u64 0,.int .u64 0,.int .u64 0,.int .u64 0,.bool true]) (by simp[results,results167,go_sem,v0,v1,v2,v3,v4,v5,v6]) rfl ⟨rfl,HB.out⟩
theorem xM{P:Program}{o:Oper}{w:World}{K:Act->World->Prop}{Q:Exit->Act->World->Prop}{E:Prop}(qF:o.guard=none)(s x:Operand)(t:TypeId)
  (ho:o.op=.call { callee:=.builtin .append,args:=#[s,x],argTypes:=#[t,t] })
  (base:Nat) (e:TypeId) (i:TypeInfo) (z:Value) (size bytes:Nat) (ht:P.underlying t=some (.slice e)) (hi:P.info? e=some i) (hz:i.zero=some z)
  (qC:i.size=size) (Hi:i.bytes=bytes) (II:z.cells.size=size) (da:0<size)
  (v:Value) (n:Nat) (xs:List Value) (hs:a.eval s=v) (aX:w.ownsRow base e size v n xs)
  (ad:Addr) (m c:Nat) (news:List Value) (hx:a.eval x=.slice (some ad) m c) (hl:news.length=m*size) (qU:∀j u,news[j]?=some u->w.cell? (ad.add j)=some u) (h1:∀u∈news,u.oneCell'=true)
  (Jo:n+m<=maxLen) (kg:(n+m)*bytes<=140737488355328) (qX:base<=w.heap.size)
  (h:∀v' w',w'.ownsRow base e size v' (n+m) (xs++news)->w.grownBy w' v.ownBlock->K (a.put o.dst v') w'):
  if wanted o (yielded ops a.tmps)=true then Oper.wp P o a w K Q else E:=by
 have hw:wanted o (yielded ops a.tmps)=true:=by simp[wanted,qF]
 rw[if_pos hw];obtain⟨v',w',hr,h2,h3,_,_⟩:=run_append_own_at (P:=P) w base t o.type e i z size bytes ht hi hz qC Hi II da v n xs aX ad m c news hl qU h1 Jo kg qX;unfold Oper.wp execOp;simp only[ho,resolve,invoke,builtin,run_bind,run_pure,Result.andThen_ok,List.map_toArray,map_cons,map_nil,hs,hx,hr];exact h v' w' h2 h3
theorem P6{P:Program}{o:Oper}{w:World}{K:Act->World->Prop}{Q:Exit->Act->World->Prop}{E:Prop}(qF:o.guard=none)(s x:Operand)(t:TypeId)
  (ho:o.op=.call { callee:=.builtin .append,args:=#[s,x],argTypes:=#[t,t] })
  (base:Nat) (e:TypeId) (i:TypeInfo) (z:Value) (size bytes:Nat) (ht:P.underlying t=some (.slice e)) (hi:P.info? e=some i) (hz:i.zero=some z)
  (qC:i.size=size) (Hi:i.bytes=bytes) (II:z.cells.size=size) (da:0<size)
  (v:Value) (n:Nat) (xs:List Value) (hs:a.eval s=v) (aX:w.ownsRow base e size v n xs)
  (ad:Addr) (m c:Nat) (news:List Value) (hx:a.eval x=.slice (some ad) m c) (hl:news.length=m*size) (qU:∀j u,news[j]?=some u->w.cell? (ad.add j)=some u) (h1:∀u∈news,u.oneCell'=true)
  (Jo:n+m<=maxLen) (kg:(n+m)*bytes<=140737488355328) (qX:base<=w.heap.size)
  (h:∀v' w',w'.ownsRow base e size v' (n+m) (xs++news)->w.grownBy w' v.ownBlock->(v'.ownBlock=v.ownBlock\/v'.ownBlock=some w.heap.size)->K (a.put o.dst v') w'):
  if wanted o (yielded ops a.tmps)=true then Oper.wp P o a w K Q else E:=by
 have hw:wanted o (yielded ops a.tmps)=true:=by simp[wanted,qF]
 rw[if_pos hw];obtain⟨v',w',hr,h2,h3,_,h4⟩:=run_append_own_at (P:=P) w base t o.type e i z size bytes ht hi hz qC Hi II da v n xs aX ad m c news hl qU h1 Jo kg qX;unfold Oper.wp execOp;simp only[ho,resolve,invoke,builtin,run_bind,run_pure,Result.andThen_ok,List.map_toArray,map_cons,map_nil,hs,hx,hr];exact h v' w' h2 h3 h4
theorem Zk(V:World)(B:Nat)(bs:List Nat)(bm gI m M bM bn gM cM:Nat)(cs:Array Value)(mk:Nat->Int)(HV:kM V B bn gM M cM mk)(iZ:∀i,i<M->-1<=mk i)(py:cs[0]?=some (.pointer (some ⟨bn,0,none⟩)))(hM:M<=100000)
  (l:List Nat) (vL vS vK:Value) (k n:Nat) (ss:List ByteArray) (ms:List Int) (Q Q':Value->Value->Prop) (s:ByteArray) (hs:s.size<=100000) (hk:k<=1000000) (hn:n<=1000000) (iN:∀y,¬Q (.string s) y) (UD:∀x y,Q x y->Q' x y) (XJ:Q' (.string s) (.int .i64 (k:Int))) (SR:∀x y,Q' x y->x≠.string s->∃y',Q x y')
  (wr:World) (h:iu V B bs bm gI m M cs l vL wr) (t:mm V B bs bM cs vL k k n ss ms Q vS vK wr):
  Calls prog 154 #[.pointer (some ⟨bm,0,none⟩),.string s] wr (Mg V B bs bm gI m M bM cs l vL k n ss ms Q' s mk):=by
 obtain⟨aS,cS,rfl⟩:=bF t.os;obtain⟨aK,cK,rfl⟩:=bF t.ok;have c1:wr.cell? ⟨bm,259,none⟩=some (.slice aS k cS):=(h.r.other 259 (by decide)).trans t.cS;obtain⟨kl,hkl⟩:∃kl,keyOf prog 9 (.string s)=some kl:=⟨_,Go.WideMaps.keyOf_string_mk underlying9 (by unfold maxLen;omega)⟩
 have HH:=hid (Zz h t);have Oa:=hid (Zz HV (Zz iZ py));have HQ:=hid (Zz UD (Zz XJ (Zz SR iN)));obtain⟨i0,hi,dD,db,cW⟩:=info_parts az;obtain⟨i1,Ez,Sh,Qd,Ba⟩:=info_parts pk;have hO:=t.os;have mr:=h.r.hB;clear h t HV iZ py UD XJ SR iN;go_enter func154,ntmps154;go_wp2_with (at_builtin;refine wpList_append_own_at _ rfl _ _ 23 rfl B 9 i1 (.string ⟨#[]⟩) 1 16 underlying23 Ez Sh Qd Ba rfl (by decide) _ _ _ rfl (hO.alloc _) ⟨wr.heap.size,0,none⟩ 1 1 [.string s] rfl rfl (cell_one_new _ _ _) ?d2 ?d3 ?d4 ?d5 ?_)
 case d2=>intro u hu;simp at hu;subst hu;rfl
 case d3=>unfold maxLen;omega
 case d4=>omega
 case d5=>simp;omega
 intro v' w5 ak aj _ bg;obtain⟨a5,c5,rfl⟩:=bF ak;have GR:=al wr (.cells #[.string s] 9);have oc:=ZO (HH.out.1.aa GR) (HH.out.2.aa GR) (s:=s) (vS':=.slice a5 (k+1) c5) ak aj (by rw[show (wr.alloc (.cells #[.string s] 9)).heap.size=wr.heap.size+1 by simp];exact bg);have BY:St w5 168 bm _:=(HH.out.1.aa GR).r.sm.ag (HH.out.2.aa GR).os (by decide) aj;have p1:w5.cell? ⟨bm,259,none⟩=some (.slice aS k cS):=by rw[BY.at_,getElem?_setIfInBounds_ne (by decide)];exact HH.out.2.cS
 have pf:=BY.ba 259;have HS:=hid oc;have Ih:=oc.2.map;have q1:(w5.setCell ⟨bm,259,none⟩ (.slice a5 (k+1) c5)).cell? ⟨bm,260,none⟩=some (.map (some bM)):=(oc.1.r.other 260 (by decide)).trans oc.2.cM;clear ak aj bg GR oc BY hO;go_wp2_with (at_mapUpdate;refine zc8 _ rfl _ _ _ 166 rfl 9 3 Cs underlying166 bM n Q Q' rfl Ih (by unfold maxLen;omega) _ _ kl rfl rfl hkl HQ.out.2.2.2 HQ.out.1 HQ.out.2.1 HQ.out.2.2.1 ?_);intro w6 xw fQ;have iJ:=UP HS.out.1 HS.out.2 xw fQ;clear xw fQ Ih q1 p1 pf HS;have ij:Hid (iu V B bs bm gI m M (cs.setIfInBounds 259 (.slice a5 (k+1) c5)) l vL w6.drew/\mm V B bs bM (cs.setIfInBounds 259 (.slice a5 (k+1) c5)) vL (k+1) k (n+1) (ss++[s]) ms Q' (.slice a5 (k+1) c5) (.slice aK k cK) w6.drew):=
  ⟨iJ.1.aa (Below.refl w6.heap.size w6).drew,iJ.2.aa (Below.refl w6.heap.size w6).drew⟩
 clear iJ;generalize w6=W3 at ij⊢;have e3:W3.drew.cell? ⟨bm,258,none⟩=some (.slice aK k cK):=(ij.out.1.r.other 258 (by decide)).trans ij.out.2.cK;have Kg:=hid (zfv V B bs bm gI m M bn gM cM (cs.setIfInBounds 259 (.slice a5 (k+1) c5)) mk Oa.out.1 Oa.out.2.1 (by rw[getElem?_setIfInBounds_ne (by decide)];exact Oa.out.2.2) hM l vL W3.drew ij.out.1);go_wp2_with fail;refine wp_region_held_drew (S:=fun _=>True) (by kernel_rfl) trivial (fun hHeld=>?_)
 (refine aq 0 ?_;refine aq 1 ?_;refine aq 2 ?_;try simp only[put,sA,sB,sC];refine aq 3 ?_;refine aq 4 ?_;refine aq 6 ?_;try simp only[put,sA,sB,sC])
 refine wpAnyH_ready (rs:=[5,7]) (by kernel_rfl) (by simp) ?_;refine eV (fun K hK=>?_) ?_
 ·skip;go_simp;refine hK.out _ _ trivial (fun hHeld=>?_);clear hK K
  try simp only[put,sA,sB,sC]
  refine aQ 7 (fun K hK=>?_);skip;go_simp;go_at_call 173;refine Kg.out.mono ?_;rintro e w5 ⟨r,rfl,hr,rfl⟩;have HR:=hid hr;clear hr
  try go_wp2_with fail
  refine hK.out _ _ trivial (fun hHeld=>?_);clear hK K
  try simp only[put,sA,sB,sC]
  refine aQ 8 (fun K hK=>?_);skip;go_simp;have s6:=hid (ij.out.1.aa (al W3.drew (.cells #[.int .i64 r] 3)));have pO:=hid (ij.out.2.aa (al W3.drew (.cells #[.int .i64 r] 3)));have e6:(W3.alloc (.cells #[.int .i64 r] 3)).cell? ⟨bm,258,none⟩=some (.slice aK k cK):=(s6.out.r.other 258 (by decide)).trans pO.out.cK;refine hK.out _ _ trivial (fun hHeld=>?_);clear hK K
  try simp only[put,sA,sB,sC]
  refine aQ 9 (fun K hK=>?_);skip;skip;refine P6 (by rfl) _ _ _ (by rfl) B 3 i0 (.int .i64 0) 1 8 underlying43 hi dD db cW (by rfl) (by decide) _ k (ints ms) (by rfl) pO.out.ok ⟨W3.heap.size,0,none⟩ 1 1 (#[.int .i64 r]).toList (by rfl) (by rfl) (World.news_of_block (cs:=#[.int .i64 r]) (t:=3) (fr:=(0,0)) (heap_alloc_new W3.drew _)) (by simp[Value.oneCell']) (by unfold maxLen;omega) (by omega) s6.out.r.hB ?_;intro v6 w6 an af bH;obtain⟨a6,c6,rfl⟩:=bF an;have iZ:=Nx s6.out pO.out (r:=r) (vK':=.slice a6 (k+1) c6) an af bH;have mx:St w6 168 bm _:=s6.out.r.sm.ag pO.out.ok (by decide) af;have t3:w6.cell? ⟨bm,258,none⟩=some (.slice aK k cK):=by rw[mx.at_,getElem?_setIfInBounds_ne (by decide)];exact pO.out.cK
  have f3:=mx.ba 258;have HF:Hid (Mg V B bs bm gI m M bM cs l vL k n ss ms Q' s mk (.returned (.int .i64 (k:Int))) (w6.setCell ⟨bm,258,none⟩ (.slice a6 (k+1) c6))):=⟨r,_,_,rfl,HR.out,iZ.1,iZ.2⟩
  refine hK.out _ _ trivial (fun hHeld=>?_);clear hK K an af bH iZ mx
  try simp only[put,sA,sB,sC]
  (refine aq 10 ?_;refine aq 11 ?_;refine aq 12 ?_;try simp only[put,sA,sB,sC])
  refine aQ 13 (fun K hK=>?_);skip;go_simp;refine hK.out _ _ trivial (fun hHeld=>?_);clear hK K
  try simp only[put,sA,sB,sC]
  refine wpAnyH_done (by kernel_rfl) ?_ _;clear hHeld;go_wp2;go_ret;exact HF.out
 refine eV (fun K hK=>?_) ?_
 ·skip;go_simp;go_at_call 173;refine Kg.out.mono ?_;rintro e w5 ⟨r,rfl,hr,rfl⟩;have HR:=hid hr;clear hr
  try go_wp2_with fail
  refine hK.out _ _ trivial (fun hHeld=>?_);clear hK K
  try simp only[put,sA,sB,sC]
  refine wpAnyH_ready (rs:=[5,8]) (by kernel_rfl) (by simp) ?_;refine eV (fun K hK=>?_) ?_
  ·skip;go_simp;refine hK.out _ _ trivial (fun hHeld=>?_);clear hK K
   try simp only[put,sA,sB,sC]
   refine aQ 8 (fun K hK=>?_);skip;go_simp;have s6:=hid (ij.out.1.aa (al W3.drew (.cells #[.int .i64 r] 3)));have pO:=hid (ij.out.2.aa (al W3.drew (.cells #[.int .i64 r] 3)));have e6:(W3.alloc (.cells #[.int .i64 r] 3)).cell? ⟨bm,258,none⟩=some (.slice aK k cK):=(s6.out.r.other 258 (by decide)).trans pO.out.cK;refine hK.out _ _ trivial (fun hHeld=>?_);clear hK K
   try simp only[put,sA,sB,sC]
   refine aQ 9 (fun K hK=>?_);skip;skip;refine P6 (by rfl) _ _ _ (by rfl) B 3 i0 (.int .i64 0) 1 8 underlying43 hi dD db cW (by rfl) (by decide) _ k (ints ms) (by rfl) pO.out.ok ⟨W3.heap.size,0,none⟩ 1 1 (#[.int .i64 r]).toList (by rfl) (by rfl) (World.news_of_block (cs:=#[.int .i64 r]) (t:=3) (fr:=(0,0)) (heap_alloc_new W3.drew _)) (by simp[Value.oneCell']) (by unfold maxLen;omega) (by omega) s6.out.r.hB ?_;intro v6 w6 an af bH;obtain⟨a6,c6,rfl⟩:=bF an;have iZ:=Nx s6.out pO.out (r:=r) (vK':=.slice a6 (k+1) c6) an af bH;have mx:St w6 168 bm _:=s6.out.r.sm.ag pO.out.ok (by decide) af;have t3:w6.cell? ⟨bm,258,none⟩=some (.slice aK k cK):=(by rw[mx.at_,getElem?_setIfInBounds_ne (by decide)];exact pO.out.cK);have f3:=mx.ba 258;have HF:Hid (Mg V B bs bm gI m M bM cs l vL k n ss ms Q' s mk (.returned (.int .i64 (k:Int))) (w6.setCell ⟨bm,258,none⟩ (.slice a6 (k+1) c6))):=(⟨r,_,_,rfl,HR.out,iZ.1,iZ.2⟩);refine hK.out _ _ trivial (fun hHeld=>?_);clear hK K an af bH iZ mx
   try simp only[put,sA,sB,sC]
   (refine aq 10 ?_;refine aq 11 ?_;refine aq 12 ?_;try simp only[put,sA,sB,sC])
   refine aQ 13 (fun K hK=>?_);skip;go_simp;refine hK.out _ _ trivial (fun hHeld=>?_);clear hK K
   try simp only[put,sA,sB,sC]
   refine wpAnyH_done (by kernel_rfl) ?_ _;clear hHeld;go_wp2;go_ret;exact HF.out
  refine eV (fun K hK=>?_) ?_
  ·skip;go_simp;have s6:=hid (ij.out.1.aa (al W3.drew (.cells #[.int .i64 r] 3)));have pO:=hid (ij.out.2.aa (al W3.drew (.cells #[.int .i64 r] 3)));have e6:(W3.alloc (.cells #[.int .i64 r] 3)).cell? ⟨bm,258,none⟩=some (.slice aK k cK):=(s6.out.r.other 258 (by decide)).trans pO.out.cK;refine hK.out _ _ trivial (fun hHeld=>?_);clear hK K
   try simp only[put,sA,sB,sC]
   refine aQ 5 (fun K hK=>?_);skip;go_simp;refine hK.out _ _ trivial (fun hHeld=>?_);clear hK K
   try simp only[put,sA,sB,sC]
   refine aQ 9 (fun K hK=>?_);skip;skip;refine P6 (by rfl) _ _ _ (by rfl) B 3 i0 (.int .i64 0) 1 8 underlying43 hi dD db cW (by rfl) (by decide) _ k (ints ms) (by rfl) pO.out.ok ⟨W3.heap.size,0,none⟩ 1 1 (#[.int .i64 r]).toList (by rfl) (by rfl) (World.news_of_block (cs:=#[.int .i64 r]) (t:=3) (fr:=(0,0)) (heap_alloc_new W3.drew _)) (by simp[Value.oneCell']) (by unfold maxLen;omega) (by omega) s6.out.r.hB ?_;intro v6 w6 an af bH;obtain⟨a6,c6,rfl⟩:=bF an;have iZ:=Nx s6.out pO.out (r:=r) (vK':=.slice a6 (k+1) c6) an af bH;have mx:St w6 168 bm _:=s6.out.r.sm.ag pO.out.ok (by decide) af;have t3:w6.cell? ⟨bm,258,none⟩=some (.slice aK k cK):=(by rw[mx.at_,getElem?_setIfInBounds_ne (by decide)];exact pO.out.cK);have f3:=mx.ba 258;have HF:Hid (Mg V B bs bm gI m M bM cs l vL k n ss ms Q' s mk (.returned (.int .i64 (k:Int))) (w6.setCell ⟨bm,258,none⟩ (.slice a6 (k+1) c6))):=(⟨r,_,_,rfl,HR.out,iZ.1,iZ.2⟩);refine hK.out _ _ trivial (fun hHeld=>?_);clear hK K an af bH iZ mx
   try simp only[put,sA,sB,sC]
   (refine aq 10 ?_;refine aq 11 ?_;refine aq 12 ?_;try simp only[put,sA,sB,sC])
   refine aQ 13 (fun K hK=>?_);skip;go_simp;refine hK.out _ _ trivial (fun hHeld=>?_);clear hK K
   try simp only[put,sA,sB,sC]
   refine wpAnyH_done (by kernel_rfl) ?_ _;clear hHeld;go_wp2;go_ret;exact HF.out
  exact AllReadyH.nil
 exact AllReadyH.nil
def jW(bm gI:Nat)(vL:Value):List Nat:=bm :: gI :: vL.ownBlock.toList
theorem gV.base{cs:Array Value}(h:gV V B bs bm gI m cs P l vL wr):gV wr B (jW bm gI vL) bm gI m cs P l vL wr:=
 ⟨Kept.refl _ _ _,Below.refl _ _,h.sm,h.sz,h.cI,h.kX,h.cm,fun b e=>inl (by simp[jW,e]),⟨by simp[jW],by simp[jW]⟩,h.lo.1,h.lo.2.1,h.hB⟩
theorem gV.back{cs gd:Array Value}(h:gV V B bs bm gI m cs P l vL wr)(h':gV wr B (jW bm gI vL) bm gI m gd P' l' je w3):gV V B bs bm gI m gd P' l' je w3:=by
 have da:=h.below.size;refine⟨fun k o hk ho hn=>h'.kept k o (h.kept k o hk ho hn) ho (fun hm=>?_),h.below.trans h'.below,h'.sm,h'.sz,h'.cI,h'.kX,h'.cm,fun b e=>?_,h.jx,h.lo⟩
 ·simp only[jW,mem_cons,mem_toList] at hm;rcases hm with rfl|rfl|hm
  ·exact hn h.jx.1
  ·exact hn h.jx.2
  rcases h.loc k hm with h1|h1
  ·exact hn h1
  have:=(Array.getElem?_eq_some_iff.1 hk).1;omega
 rcases h'.loc b e with hm|hm
 ·simp only[jW,mem_cons,mem_toList] at hm;rcases hm with rfl|rfl|hm
  ·exact inl h.jx.1
  ·exact inl h.jx.2
  exact h.loc b hm
 exact inr (by omega)
theorem mm.over{cs:Array Value}{Q:Value->Value->Prop}(h:gV V B bs bm gI m cs P l vL wr)(t:mm V B bs bM cs vL k q n ss ms Q vS vK wr)
  (h':gV wr B (jW bm gI vL) bm gI m cs P' l' je w3):mm V B bs bM cs je k q n ss ms Q vS vK w3:=by
 have hn:∀{t' n':Nat}{v:Value}{xs:List Value},wr.ownsRow B t' 1 v n' xs->t'≠168->t'≠5->(∀b,vL.ownBlock=some b->v.ownBlock≠some b)->∀g,v.ownBlock=some g->g∉jW bm gI vL:=by
  intro t' n' v xs ho h1 h2 h3 g hg hm;simp only[jW,mem_cons,mem_toList] at hm;rcases hm with rfl|rfl|hm
  ·exact dG ho h.sm h1 g hg rfl
  ·exact gP ho h.kX h2 g hg rfl
  exact h3 g hm hg
 refine⟨t.cK,t.cS,t.cM,fy t.os h'.kept (by simp) (hn t.os (by decide) (by decide) (fun b e1 e2=>gP h.cm t.os (by decide) b e1 e2)),fy t.ok h'.kept (by simp) (hn t.ok (by decide) (by decide) t.sep),t.map.kept h'.kept ?_,fun b e1 e2=>?_,t.lS,t.lK,t.lM⟩
 ·simp only[jW,mem_cons,mem_toList];rintro (e|e|e)
  ·exact By t.map h.sm e.symm
  ·exact xk t.map h.kX gI rfl e.symm
  exact xk t.map h.cm bM e rfl
 rcases h'.loc b e1 with hm|hm
 ·exact hn t.ok (by decide) (by decide) t.sep b e2 hm
 obtain⟨c,fz,hc⟩:=pS t.ok b e2;have:=(Array.getElem?_eq_some_iff.1 hc).1;omega
def jR(M:Nat)(f:Nat->Bool):ByteArray:=strOf (fI f M)
theorem RR(M:Nat)(f g:Nat->Bool):jR M f=jR M g↔∀x,x<M->f x=g x:=by
 constructor
 ·intro h;exact (Lt f g M).1 (RC (Jf _ M) (Jf _ M) (by rw[<-Bo,<-Bo];exact congrArg (fun s:ByteArray=>s.data.toList) h))
 intro h;unfold jR;rw[(Lt f g M).2 h]
def MQ(M:Nat)(D:List ((Nat->Bool) × Nat))(x y:Value):Prop:=∃p∈D,x=.string (jR M p.1)/\y=.int .i64 ((p.2:Nat):Int)
structure Inv (L:List En)(M:Nat)(mk:Nat->Int)(SS:List (Nat->Bool))(ms:List Int)(D:List ((Nat->Bool) × Nat)):Prop where
 own:∀j (h:j<SS.length),(SS[j],j)∈D
 QY:∀p∈D,∃h:p.2<SS.length,∀x,x<M->(SS[p.2] x=true↔FR L (fun y=>y<M/\p.1 y=true) x)
 len:ms.length=SS.length
 ct:∀j (h:j<SS.length) (h2:j<ms.length),bG mk (fun x=>x<M/\SS[j] x=true) ms[j]
theorem Vw(f:Nat->Bool)(M m:Nat)(hm:(M+7) / 8=m)(h:∀x,f x=true->x<M):gy f m=fI f M:=by
 unfold gy fI;rw[hm];refine List.map_congr_left fun j _=>NW fun k _=>?_
 by_cases e:8*j+k<M
 ·simp[eH,e]
 have:f (8*j+k)=false:=by
  cases hf:f (8*j+k) with
  | false=>rfl
  | true=>exact absurd (h _ hf) e
 simp[eH,e,this]
theorem gV.JE{cs:Array Value}(h:gV V B bs bm gI m cs P l vL wr)(k:Kept [] (jW bm gI vL) wr W):Kept [] bs V W:=fun k0 o hk ho hn=>k k0 o (h.kept k0 o hk ho hn) ho (fun hm=>by
 simp only[jW,mem_cons,mem_toList] at hm
 rcases hm with rfl|rfl|hm
 ·exact hn h.jx.1
 ·exact hn h.jx.2
 ·rcases h.loc k0 hm with h1|h1
  ·exact hn h1
  ·have:=(Array.getElem?_eq_some_iff.1 hk).1
   omega)
theorem FR.idem{L:List En}{A:Nat->Prop}(x:Nat):FR L (FR L A) x↔FR L A x:=by
 constructor
 ·intro k
  induction k with
  | base h=>exact h
  | step e _ h1 h2 h3 h4 ih=>exact .step e ih h1 h2 h3 h4
 exact .base
theorem aD.again{w:World}{k t e:TypeId}{b:Nat}{Q:Value->Value->Prop}(h:aD w k b n Q)(K:Keyed prog k)(ht:prog.underlying t=some (.map k e))
  {key val:Value}{kl:Lit}(ek:keyOf prog k key=some kl) (hv:Q key val):∃w',(Instr.mapUpdate t (.map (some b)) key val).run prog w=.ok () w'/\aD w' k b n Q/\w.grownBy w' (some b):=by
 obtain⟨es,clock,hb,F,hs,hq,dU⟩:=h;obtain⟨F1,_,_⟩:=F.stay (R':=fe) (fun x hx z hz=>hz);rcases K.find w ek es.toList F.keys with ⟨h1,h2⟩|⟨j,e0,h1,h2,h3⟩
 ·obtain⟨e1,h4,h5⟩:=dU _ _ hv;exact absurd h5 (h2 e1 h4)
 have hj:es[j]?=some e0:=by simpa using h2
 have xx:∀e',es[j]?=some e'->({ e' with key:=key,val:=val }:MapEntry).key=e'.key:=fun e' rR=>by rw[hj] at rR;cases rR;exact h3.symm
 have mH:(es.modify j (fun e'=>{ e' with key:=key,val:=val })).toList=es.toList.set j { e0 with key:=key,val:=val }:=by rw[Array.toList_modify,modify_eq_set _ _ _ _ h2]
 have Hf:∀x∈es.toList.set j { e0 with key:=key,val:=val },x={ e0 with key:=key,val:=val }\/x∈es.toList:=by
  intro x hx;rcases List.mem_or_eq_of_mem_set hx with h|h
  ·exact inr h
  exact inl h
 have EV:∀bn,WideElems.rd prog k fe ⟨key,val,bn⟩=some (kl,.held val):=fun bn=>by unfold WideElems.rd fe;rw[ek];rfl
 refine⟨setBlock w b (.map (es.modify j (fun e'=>{ e' with key:=key,val:=val })) clock),?_,⟨es.modify j (fun e'=>{ e' with key:=key,val:=val }),clock,heap_setBlock_same hb _,⟨by simpa using F.size,stamped_modify F.stamped _ _ (fun _ _=>rfl) (fun e' _ rR=>xx e' rR),?_⟩,by simpa using hs,fun x hx=>?_,fun x y hx=>?_⟩,⟨rfl,rfl,rfl,by simp[setBlock],fun i _ hi=>heap_setBlock_other hb _ (fun e=>hi (by rw[e]))⟩⟩
 ·simp[Instr.mapUpdate,run_underlying ht,MapKept.run_getObj_map hb,K.check w false ek,h1,hj,h3,K.stays w ek,MapKept.run_setObj_map _ hb,Result.andThen,setBlock]
 ·intro x hx;rw[mH] at hx;rcases Hf x hx with rfl|CR
  ·exact⟨_,EV _⟩
  exact F1.reads x CR
 ·rw[mH] at hx;rcases Hf x hx with rfl|CR
  ·exact hv
  exact hq x CR
 obtain⟨e1,h4,h5⟩:=dU x y hx;rw[mH];obtain⟨i,hi,ei⟩:=List.getElem_of_mem h4;by_cases Sc:i=j
 ·refine⟨{ e0 with key:=key,val:=val },List.mem_set (by rw[<-Sc];exact hi) _,?_⟩;subst Sc;rw[List.getElem?_eq_getElem hi,ei] at h2;injection h2 with h2;rw[<-h5,h2];exact h3.symm
 exact⟨e1,by
  have:(es.toList.set j { e0 with key:=key,val:=val })[i]?=some e1:=by
   rw[List.getElem?_set_ne (fun e=>Sc e.symm),List.getElem?_eq_getElem hi,ei]
  exact List.mem_of_getElem? this,h5⟩
def GH(V:World)(B:Nat)(bs:List Nat)(bm gI m M bM:Nat)(cs:Array Value)(L:List En)(mk:Nat->Int)(SS:List (Nat->Bool))(st:List Nat)(n:Nat)(e:Ending)(w':World):Prop:=
 ∃(j:Nat) (jd:List (Nat->Bool)) (tB:List Int) (D':List ((Nat->Bool) × Nat)) (je vS' vK':Value) (gd:Array Value) (l':List Nat) (n':Nat),e=.returned (.int .i64 (j:Int))/\iu V B bs bm gI m M gd l' je w'/\
  mm V B bs bM gd je jd.length jd.length n' (jd.map (jR M)) tB (MQ M D') vS' vK' w'/\Inv L M mk jd tB D'/\n'+2*SS.length<=n+2*jd.length/\(∀i,i≠258->i≠259->gd[i]?=cs[i]?)/\(∃h:j<jd.length,∀x,x<M->(jd[j] x=true↔FR L (fun y=>y∈st) x))/\
  (jd=SS\/∃f,jd=SS++[f]/\j=SS.length/\∀i (h:i<SS.length),∃x,x<M/\SS[i] x≠f x)
theorem VM(V:World)(B:Nat)(bs:List Nat)(bm gI m M bM bn gM cM gF cF:Nat)(aF:Nat->Option Addr)(cR:Nat->Nat)(L:List En)(HF:lE V B bn gF M cF aF cR L)(hE:∀e∈L,e.f<M/\e.t<M)(Lf:L.length<=6400)(cs:Array Value)(mk:Nat->Int)(HV:kM V B bn gM M cM mk)(iZ:∀i,i<M->-1<=mk i)(py:cs[0]?=some (.pointer (some ⟨bn,0,none⟩)))(hM:M<=100000)(hm:(M+7) / 8=m)
  (P:Nat->Bool) (l:List Nat) (vL vS vK:Value) (n:Nat) (SS:List (Nat->Bool)) (ms:List Int) (D:List ((Nat->Bool) × Nat)) (hk:SS.length<=100000) (hn:n<=100000) (tx:l.length<=100000)
  (a:Option Addr) (q c:Nat) (st:List Nat) (dC:st.length=q) (hq:q<=100000000000) (aw:∀x∈st,x<M) (hr:∀W,Kept [] bs V W->AA W W.heap.size a st)
  (wr:World) (h:gV V B bs bm gI m cs P l vL wr) (t:mm V B bs bM cs vL SS.length SS.length n (SS.map (jR M)) ms (MQ M D) vS vK wr) (inv:Inv L M mk SS ms D):
  Calls prog 119 #[.pointer (some ⟨bm,0,none⟩),.slice a q c] wr (GH V B bs bm gI m M bM cs L mk SS st n):=by
 have HH:=hid (Zz h (Zz t inv));have HN:=hid (Zz HF (Zz hE (Zz HV (Zz iZ (Zz py hm)))));have HG:=hid (zgn wr B (jW bm gI vL) bm gI m M cs P l vL wr h.base hM hm (by omega) a q c st dC hq aw (fun W hW=>hr W (h.JE hW)));clear h t inv HF hE HV iZ py dC aw hr;go_enter func119,ntmps119;go_wp2_with fail;refine HG.out.mono ?_;rintro e w2 ⟨l2,re,rfl,h2,iE⟩;obtain⟨f2,nD⟩:∃f2:Nat->Bool,(fun x=>decide (x∈l2))=f2:=⟨_,rfl⟩
 have J0:=h2.aa (Below.refl w2.heap.size w2).drew;have KP:=mm.over HH.out.1 HH.out.2.1 J0.r;have B4:∀x,f2 x=true->x<M:=fun x hx=>h2.lt x (by rw[<-nD] at hx;simpa using hx)
 have hcv:(convert 76 9 (.slice (some ⟨gI,0,none⟩) m m)).run prog w2.drew=.ok (.string (jR M f2)) w2.drew:=by
  have:=J2 (l:=gy f2 m) (by have:=J0.r.kX;rw[nD] at this;exact this) (by rw[LI]);rw[Vw f2 M m HN.out.2.2.2.2.2 B4] at this;exact this
 have hkl:keyOf prog 9 (.string (jR M f2))=some _:=Go.WideMaps.keyOf_string_mk underlying9 (by unfold jR;rw[z8];simp[fI];unfold maxLen;omega);have Ws:∀x,FR L (fun y=>y<M/\f2 y=true) x↔FR L (fun y=>y∈st) x:=fun x=>FR.congr (fun y=>by
  rw[<-iE,<-nD]
  exact⟨fun h=>by simpa using h.2,fun h=>⟨h2.lt y h,by simpa using h⟩⟩) x
 have c0:w2.cell? ⟨bm,260,none⟩=some (.map (some bM)):=(h2.r.other 260 (by decide)).trans KP.cM;have c1:w2.cell? ⟨bm,261,none⟩=some (.slice (some ⟨gI,0,none⟩) m m):=h2.r.cells.1;have H2:=hid (Zz J0 (Zz KP (Zz iE (Zz Ws (Zz nD B4)))));have wh:=KP.map.pj Cs underlying166 (MK w2.drew) hkl;clear h2 iE HG J0 KP Ws hkl B4;rcases wh with ⟨bU,iN⟩|⟨v,⟨p,hp,zn,rfl⟩,bU⟩
 ·have kD:=hid iN;clear iN;go_wp2_with fail
  go_region
  go_wp2_with fail;refine (zf8 wr B (jW bm gI vL) bm gI m M bn gF cF cs aF cR L (HN.out.1.below HH.out.1.below) HN.out.2.2.2.2.1 HN.out.2.1 hM HN.out.2.2.2.2.2 Lf l2 re w2.drew H2.out.1).mono ?_;rintro e w4 ⟨l4,JS,rfl,h4,yD⟩;obtain⟨f4,K0⟩:∃f4:Nat->Bool,(fun x=>decide (x∈l4))=f4:=⟨_,rfl⟩
  have t4:=mm.over HH.out.1 HH.out.2.1 h4.r;have IF:∀x,f4 x=true->x<M:=fun x hx=>h4.lt x (by rw[<-K0] at hx;simpa using hx)
  have Ao:∀x,f4 x=true↔x∈l4:=fun x=>by rw[<-K0];simp
  have hcv4:(convert 76 9 (.slice (some ⟨gI,0,none⟩) m m)).run prog w4=.ok (.string (jR M f4)) w4:=by
   have:=J2 (l:=gy f4 m) (by have:=h4.r.kX;rw[K0] at this;exact this) (by rw[LI]);rw[Vw f4 M m HN.out.2.2.2.2.2 IF] at this;exact this
  have JL:keyOf prog 9 (.string (jR M f4))=some _:=Go.WideMaps.keyOf_string_mk underlying9 (by unfold jR;rw[z8];simp[fI];unfold maxLen;omega);have O0:(jR M f4).size<=100000:=by unfold jR;rw[z8];simp[fI];omega
  have gj:∀x,x∈l4↔FR L (fun y=>y∈st) x:=fun x=>by rw[yD x];exact FR.congr (fun y=>H2.out.2.2.1 y) x
  have FC:∀x,FR L (fun y=>y<M/\f4 y=true) x↔FR L (fun y=>y∈st) x:=fun x=>by
   rw[show FR L (fun y=>y<M/\f4 y=true) x↔FR L (FR L (fun y=>y∈st)) x from FR.congr (fun y=>⟨fun h=>(gj y).1 ((Ao y).1 h.2),fun h=>⟨h4.lt y ((gj y).2 h),(Ao y).2 ((gj y).2 h)⟩⟩) x];exact FR.idem x
  have d0:w4.cell? ⟨bm,260,none⟩=some (.map (some bM)):=(h4.r.other 260 (by decide)).trans t4.cM;have d1:w4.cell? ⟨bm,261,none⟩=some (.slice (some ⟨gI,0,none⟩) m m):=h4.r.cells.1;have TP:iu V B bs bm gI m M cs l4 JS w4:=⟨HH.out.1.back h4.r,h4.nd,h4.lt⟩
  have H4:=hid (Zz TP (Zz t4 (Zz gj (Zz FC Ao))));have wh:=t4.map.pj Cs underlying166 (MK w4) JL;clear h4 t4 IF Ao gj FC TP yD K0 c0 c1 hcv bU;rcases wh with ⟨bU,iN⟩|⟨v,⟨p,hp,zn,rfl⟩,bU⟩
  ·obtain⟨k,yu⟩:∃k,SS.length=k:=(⟨_,rfl⟩);have HK:=hid yu;have eO:k<=100000:=(by omega);have yd:=hid (Zk V B bs bm gI m M bM bn gM cM cs mk HN.out.2.2.1 HN.out.2.2.2.1 HN.out.2.2.2.2.1 hM l4 JS vS vK SS.length n (SS.map (jR M)) ms (MQ M D) (MQ M (D++[(f4,SS.length)])) (jR M f4) O0 (by omega) (by omega) iN
    (fun x y ⟨p,hp,h1,h2⟩=>⟨p,List.mem_append.2 (inl hp),h1,h2⟩) ⟨(f4,SS.length),by simp,rfl,rfl⟩
    (fun x y ⟨p,hp,h1,h2⟩ hne=>by
     rcases List.mem_append.1 hp with hp|hp
     ·exact⟨y,p,hp,h1,h2⟩
     ·rw[List.mem_singleton.1 hp] at h1
      exact absurd h1 hne) w4 H4.out.1 H4.out.2.1)
   have NU:=hid iN;rw[yu] at yd;clear iN yu;go_wp2_with fail;refine yd.out.mono ?_;rintro e w5 ⟨r,vS',vK',rfl,hr,RM,FP⟩;have Df:keyOf prog 9 (.string (jR M f2))=some _:=Go.WideMaps.keyOf_string_mk underlying9 (by unfold jR;rw[z8];simp[fI];unfold maxLen;omega);obtain⟨w6,yH,xw,fQ⟩:∃w6,(Instr.mapUpdate 166 (.map (some bM)) (.string (jR M f2)) (.int .i64 (k:Int))).run prog w5=.ok () w6/\aD w6 9 bM (n+2) (MQ M (D++[(f4,k)]++[(f2,k)]))/\w5.grownBy w6 (some bM):=by
    by_cases e:jR M f2=jR M f4
    ·obtain⟨w6,h1,h2,h3⟩:=FP.map.again Cs underlying166 Df (val:=.int .i64 (k:Int)) ⟨(f4,k),by simp,by rw[e],rfl⟩;refine⟨w6,h1,?_,h3⟩;have e2:MQ M (D++[(f4,k)]++[(f2,k)])=MQ M (D++[(f4,k)]):=by
      funext x y;refine propext ⟨fun ⟨p,hp,h1,h2⟩=>?_,fun ⟨p,hp,h1,h2⟩=>⟨p,List.mem_append.2 (inl hp),h1,h2⟩⟩;rcases List.mem_append.1 hp with hp|hp
      ·exact⟨p,hp,h1,h2⟩
      rw[List.mem_singleton.1 hp] at h1 h2;exact⟨(f4,k),by simp,by rw[h1,<-e],h2⟩
     rw[e2];exact h2.more (by omega)
    exact FP.map.update Cs underlying166 (by unfold maxLen;omega) Df (Q':=MQ M (D++[(f4,k)]++[(f2,k)]))
     (fun y ⟨p,hp,h1,h2⟩=>by
      rcases List.mem_append.1 hp with hp|hp
      ·exact kD.out y ⟨p,hp,h1,h2⟩
      ·rw[List.mem_singleton.1 hp] at h1
       injection h1 with h1
       exact e h1)
     (fun x y ⟨p,hp,h1,h2⟩=>⟨p,List.mem_append.2 (inl hp),h1,h2⟩) ⟨(f2,k),by simp,rfl,rfl⟩
     (fun x y ⟨p,hp,h1,h2⟩ hne=>by
      rcases List.mem_append.1 hp with hp|hp
      ·exact⟨y,p,hp,h1,h2⟩
      ·rw[List.mem_singleton.1 hp] at h1
       exact absurd h1 hne)
   have DX:=UP RM FP xw fQ;have e0:w5.cell? ⟨bm,260,none⟩=some (.map (some bM)):=(RM.r.other 260 (by decide)).trans FP.cM;have HF:Hid (GH V B bs bm gI m M bM cs L mk SS st n (.returned (.int .i64 (k:Int))) w6):=by
    have yu:=HK.out;subst yu;have inv:=HH.out.2.2;refine⟨SS.length,SS++[f4],ms++[r],D++[(f4,SS.length)]++[(f2,SS.length)],JS,vS',vK',_,l4,n+2,rfl,DX.1,?_,⟨fun j hj=>?_,fun p hp=>?_,by simp[inv.len],fun j hj hj2=>?_⟩,(by simp;omega),fun i h1 h2=>?_,⟨by simp,fun x hx=>?_⟩,inr ⟨f4,rfl,rfl,fun i hi=>?_⟩⟩
    ·have:=DX.2;simpa using this
    ·by_cases e:j<SS.length
     ·rw[getElem_append_left e];exact List.mem_append.2 (inl (List.mem_append.2 (inl (inv.own j e))))
     have:j=SS.length:=(by simp at hj;omega);subst this;simp
    ·rcases List.mem_append.1 hp with hp|hp
     ·rcases List.mem_append.1 hp with hp|hp
      ·obtain⟨h1,h2⟩:=inv.QY p hp;refine⟨by simp;omega,fun x hx=>?_⟩;rw[getElem_append_left h1];exact h2 x hx
      rw[List.mem_singleton.1 hp];refine⟨by simp,fun x hx=>?_⟩;simp only[List.getElem_concat_length];rw[H4.out.2.2.2.2 x,H4.out.2.2.1 x,H4.out.2.2.2.1 x]
     rw[List.mem_singleton.1 hp];refine⟨by simp,fun x hx=>?_⟩;simp only[List.getElem_concat_length];rw[H4.out.2.2.2.2 x,H4.out.2.2.1 x,H2.out.2.2.2.1 x]
    ·by_cases e:j<SS.length
     ·have e2:j<ms.length:=(by rw[inv.len];exact e);have:=inv.ct j e e2;rw[getElem_append_left e2];simpa [getElem_append_left e] using this
     have:j=SS.length:=(by simp at hj;omega);subst this;have e3:(ms++[r])[SS.length]=r:=by
      rw[List.getElem_append_right (by rw[inv.len];exact le_refl _)];simp[inv.len]
     rw[e3];refine hr.congr (fun x=>?_);simp only[List.getElem_concat_length];rw[H4.out.2.2.2.2 x];exact⟨fun h=>⟨H4.out.1.lt x h,h⟩,fun h=>h.2⟩
    ·rw[getElem?_setIfInBounds_ne (fun e=>h1 e.symm),getElem?_setIfInBounds_ne (fun e=>h2 e.symm)]
    ·simp only[List.getElem_concat_length];rw[H4.out.2.2.2.2 x,H4.out.2.2.1 x]
    refine(Classical.byContradiction fun dU=>?_);have h7:∀x,x<M->SS[i] x=f4 x:=(fun x hx=>Classical.byContradiction fun h=>dU ⟨x,hx,h⟩);exact NU.out (.int .i64 (i:Int)) ⟨(SS[i],i),inv.own i hi,by rw[(RR M _ _).2 h7],rfl⟩
   clear hr RM FP xw fQ DX Df JL;go_wp2;go_ret;exact HF.out
  have tR:=HH.out.2.2.QY p hp;have HF:Hid (GH V B bs bm gI m M bM cs L mk SS st n (.returned (.int .i64 (p.2:Int))) w4):=by
   refine⟨p.2,SS,ms,D,JS,vS,vK,cs,l4,n,rfl,H4.out.1,H4.out.2.1,HH.out.2.2,by omega,fun _ _ _=>rfl,?_,inl rfl⟩;obtain⟨h1,h3⟩:=tR;refine⟨h1,fun x hx=>?_⟩;rw[h3 x hx,<-H4.out.2.2.2.1 x];injection zn with zn;have h5:=(RR M _ _).1 zn;exact FR.congr (fun y=>⟨fun h=>⟨h.1,by rw[h5 y h.1];exact h.2⟩,fun h=>⟨h.1,by rw[<-h5 y h.1];exact h.2⟩⟩) x
  clear hp zn tR;go_wp2;go_ret;exact HF.out
 have tR:=HH.out.2.2.QY p hp;have HF:Hid (GH V B bs bm gI m M bM cs L mk SS st n (.returned (.int .i64 (p.2:Int))) w2.drew):=by
  refine⟨p.2,SS,ms,D,re,vS,vK,cs,l2,n,rfl,⟨HH.out.1.back H2.out.1.r,H2.out.1.nd,H2.out.1.lt⟩,H2.out.2.1,HH.out.2.2,by omega,fun _ _ _=>rfl,?_,inl rfl⟩;obtain⟨h1,h3⟩:=tR;refine⟨h1,fun x hx=>?_⟩;rw[h3 x hx,<-H2.out.2.2.2.1 x];injection zn with zn;have h5:=(RR M _ _).1 zn;exact FR.congr (fun y=>⟨fun h=>⟨h.1,by rw[h5 y h.1];exact h.2⟩,fun h=>⟨h.1,by rw[<-h5 y h.1];exact h.2⟩⟩) x
 clear hp zn tR;go_wp2_with fail
 go_region
 go_wp2;go_ret;exact HF.out
end Go.Proofs.YtiijebameffenaaGreat
