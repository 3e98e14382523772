import Derived.Test.YtiijebameffenaaGreatZNRClose
import Derived.Test.YtiijebameffenaaGreatZTk
set_option linter.all false
set_option maxHeartbeats 2000000
set_option maxRecDepth 100000
open Go.Lib (hid)
namespace Go.Proofs.YtiijebameffenaaGreat
open Go.RowKit Go.Proofs.Tryz
open Nat (le_refl zero_le)
open Or (inl inr)
open List (getElem_append_left length_append map_cons map_nil mem_cons)
open Sem (run_bind run_pure)
open _root_.Array (getElem?_setIfInBounds_ne)
open Region (wanted)
open Act (put)
open Option (mem_toList)
variable {B M bM bm gI k m n q t:Nat}{P P':Nat->Bool}{V W w w1 w3 w5 wr:World}{a:Act}{bs l l':List Nat}{cs:Array Value}{jf vK vL vS:Value}{ms:List Int}{ops:Array Oper}{ss:List ByteArray}
def lW(s:ByteArray)(k:Nat):Nat:=(s.get! k).toNat
theorem UM(s:ByteArray)(k:Nat):lW s k<256:=UInt8.toNat_lt _
theorem Nl(s:ByteArray)(k:Nat)(h:k<s.size):(s[k]'h).toNat=lW s k:=by
 unfold lW;rw[show s.get! k=s[k]'h from getElem!_pos s.data k h]
open Go.Maps Go.WideElems Go.ChangeMaps Go.MapKept
def BL(b t:Nat):Prop:=b≠0->t<8/\b.testBit t=true/\(b &&& (b-1))<b/\∀j,j<8->(b &&& (b-1)).testBit j=(b.testBit j && decide (j≠t))
instance (b t:Nat):Decidable (BL b t):=by unfold BL;infer_instance
theorem zmn(x:UInt8):wrap64 (x.toNat:Int)=(x.toNat:Int):=by
 have:x.toNat<256:=UInt8.toNat_lt x;exact IntWalk.wrap64_in _ ⟨by omega,by omega⟩
theorem ZI(b:Nat)(hb:b<256)(w:World):Calls prog 175 #[.int .u8 (b:Int)] w fun e w'=>∃t:Nat,e=.returned (.int .i64 (t:Int))/\BL b t/\w'=w:=by
 go_enter func175,ntmps175;go_wp2;go_ret;refine⟨_,congrArg (fun z=>Ending.returned (Value.int IntKind.i64 z)) (zmn _),?_,rfl⟩;clear w;rename_i h;revert h;revert hb;revert b;decide +kernel
def zob(n:Nat)(g:Nat->Bool)(w:World)(e:Ending)(w':World):Prop:=
 ∃(L:List Nat) (a:Option Addr) (c:Nat),e=.returned (.slice a L.length c)/\w'.ownsRow w.heap.size 3 1 (.slice a L.length c) L.length (cG L)/\L.Nodup/\(∀x,x∈L↔x<8*n/\g x=true)/\Below w.heap.size w w'
theorem zgS(s:ByteArray)(n:Nat)(hs:s.size=n)(hn:n<=100000)(g:Nat->Bool)(hg:∀i,i<n->lW s i=jV g i)(w:World):Calls prog 156 #[.string s] w (zob n g w):=by
 have H:=hid (Zz hs hg);have JC:=hs;obtain⟨i0,hi,dD,cQ,cJ⟩:=info_parts az;clear hg hs;go_enter func156,ntmps156;go_wp2;go_loopw [3,4,5,8] (fun v3 _ _ v wr=>∃(k:Nat) (L:List Nat) (a:Option Addr) (c:Nat),v=.int .i64 k/\k<=n/\v3=.slice a L.length c/\Hid (wr.ownsRow w.heap.size 3 1 (.slice a L.length c) L.length (cG L)/\L.Nodup/\(∀x,x∈L↔x<8*k/\g x=true)/\Below w.heap.size w wr)) (fun _ _ _ v _=>n-(intOf v).toNat)
 ·exact⟨0,[],none,0,rfl,zero_le _,rfl,World.ownsRow_nil _ _ _ _,List.nodup_nil,fun x=>by simp,Below.refl _ _⟩
 obtain⟨k,L,a,c,rfl,hk,rfl,HA⟩:=hrel;by_cases aw:k<n
 ·have Gh:k<s.size:=by rw[JC];exact aw
  obtain⟨bt,ru⟩:∃bt,(s[k]'Gh).toNat=bt:=⟨_,rfl⟩
  have yE:=Nl s k Gh;rw[ru,H.out.2 k aw] at yE;have uQ:bt<256:=by rw[yE];exact Lk g k
  have HB:=hid yE;have i1:(k:Int)<n:=by omega
  clear yE;go_wp2;go_loopw [3,5] (fun v3 v5 wq=>∃(b:Nat) (L2:List Nat) (a2:Option Addr) (c2:Nat),v5=.int .u8 b/\b<256/\v3=.slice a2 L2.length c2/\L2.length<=8*k+8/\Hid (wq.ownsRow w.heap.size 3 1 (.slice a2 L2.length c2) L2.length (cG L2)/\L2.Nodup/\(∀x,x∈L2↔(x<8*k/\g x=true)\/∃j,j<8/\x=8*k+j/\g x=true/\b.testBit j=false)/\Below w.heap.size w wq)/\Hid (∀j,j<8->b.testBit j=true->g (8*k+j)=true)) (fun _ v _=>(intOf v).toNat)
  ·refine⟨bt,L,a,c,rfl,uQ,rfl,?_,⟨HA.out.1,HA.out.2.1,fun x=>?_,HA.out.2.2.2⟩,fun j hj h=>?_⟩
   ·have:=p9 HA.out.2.1 (m:=8*k) (fun x hx=>((HA.out.2.2.1 x).1 hx).1);omega
   ·rw[HA.out.2.2.1 x];constructor
    ·exact inl
    rintro (h|⟨j,hj,rfl,h1,h2⟩)
    ·exact h
    rw[HB.out,zq] at h2;simp[hj,h1] at h2
   rw[HB.out,zq] at h;simpa [hj] using h
  obtain⟨b,L2,a2,c2,rfl,hb,rfl,hlen,HC,HD⟩:=hrel;by_cases aY:b=0
  ·subst aY;have HZ:Hid (wr.ownsRow w.heap.size 3 1 (.slice a2 L2.length c2) L2.length (cG L2)/\L2.Nodup/\(∀x,x∈L2↔x<8*(k+1)/\g x=true)/\Below w.heap.size w wr):=by
    refine⟨HC.out.1,HC.out.2.1,fun x=>?_,HC.out.2.2.2⟩;rw[HC.out.2.2.1 x];constructor
    ·rintro (⟨h1,h2⟩|⟨j,hj,rfl,h1,h2⟩)
     ·exact⟨by omega,h2⟩
     exact⟨by omega,h1⟩
    rintro⟨h1,h2⟩;by_cases h3:x<8*k
    ·exact inl ⟨h3,h2⟩
    exact inr ⟨x-8*k,by omega,by omega,h2,by simp⟩
   clear HA HC HD ru;go_wp2;go_roundw
   ·exact⟨k+1,L2,a2,c2,by go_num,by omega,rfl,HZ⟩
   simp[intOf];omega
  have C0:=hid HC.out.1;have hO:=HC.out.1;have hB:=HC.out.2.2.2;have Ia:=hB.size;obtain⟨q,hq⟩:∃q,L2.length=q:=⟨_,rfl⟩
  rw[hq] at hlen hO;have HQ:=hid hq;have fG:¬((b:Int)=0):=by omega
  clear HA ru;go_wp2_with fail;refine (ZI b hb _).mono ?_;rintro e w3 ⟨t,rfl,htz,rfl⟩;obtain⟨Qc,VE,Pm,oE⟩:=htz aY;rw[hq];go_wp2_with (at_builtin;refine wpList_append_own _ rfl _ _ 43 rfl w.heap.size 3 i0 (.int .i64 0) 1 8 underlying43 hi dD cQ cJ rfl (by decide) _ _ _ rfl (hO.alloc _) ⟨w3.heap.size,0,none⟩ 1 1 [.int .i64 (8*(k:Int)+(t:Int))] rfl rfl (cell_one_new _ _ _) ?d2 ?d3 ?d4 ?d5 ?_)
  case d2=>intro u hu;simp at hu;subst hu;rfl
  case d3=>unfold maxLen;omega
  case d4=>omega
  case d5=>simp;omega
  intro v' w5 an ak _;obtain⟨a5,c5,rfl⟩:=bG an;have kM:=fO (hB.trans ((al w3 (.cells #[.int .i64 (8*(k:Int)+(t:Int))] 3)).mono Ia)) (hO.alloc _) (by simp;omega) ak;have jU:8*k+t∉L2:=by
   rw[HC.out.2.2.1];rintro (⟨h1,h2⟩|⟨j,hj,h1,h2,h3⟩)
   ·omega
   rw[show j=t by omega,VE] at h3;cases h3
  obtain⟨b2,ct⟩:∃b2,b &&& (b-1)=b2:=⟨_,rfl⟩
  rw[ct] at Pm oE;have hand:bits .and .u8 (b:Int) ((b:Int)-1)=(b2:Int):=by
   have:=u8_and_nat b (b-1) hb (by omega);rw[ct] at this;rw[<-this];congr 1;omega
  have HZ:Hid (w5.ownsRow w.heap.size 3 1 (.slice a5 (L2++[8*k+t]).length c5) (L2++[8*k+t]).length (cG (L2++[8*k+t]))/\(L2++[8*k+t]).Nodup/\(∀x,x∈L2++[8*k+t]↔(x<8*k/\g x=true)\/∃j,j<8/\x=8*k+j/\g x=true/\b2.testBit j=false)/\Below w.heap.size w w5):=by
   refine⟨?_,?_,fun x=>?_,kM⟩
   ·rw[yt,length_append,hq];simpa using an
   ·refine List.nodup_append.2 ⟨HC.out.2.1,by simp,fun a ha b hb e=>?_⟩;rw[List.mem_singleton.1 hb] at e;exact jU (e ▸ ha)
   rw[List.mem_append,HC.out.2.2.1 x,List.mem_singleton];constructor
   ·rintro ((h|⟨j,hj,h1,h2,h3⟩)|h)
    ·exact inl h
    ·exact inr ⟨j,hj,h1,h2,by rw[oE j hj,h3];rfl⟩
    exact inr ⟨t,Qc,h,by rw[h];exact HD.out t Qc VE,by rw[oE t Qc];simp⟩
   rintro (h|⟨j,hj,h1,h2,h3⟩)
   ·exact inl (inl h)
   by_cases e:j=t
   ·exact inr (by rw[h1,e])
   rw[oE j hj] at h3;exact inl (inr ⟨j,hj,h1,h2,by simpa [e] using h3⟩)
  have yS:Hid (∀j,j<8->b2.testBit j=true->g (8*k+j)=true):=fun j hj h=>by
   rw[oE j hj] at h;simp at h;exact HD.out j hj h.1
  have E0:(L2++[8*k+t]).length<=8*k+8:=p9 HZ.out.2.1 (fun x hx=>by
   rcases (HZ.out.2.2.1 x).1 hx with h|⟨j,hj,h,_⟩ <;> omega)
  have xW:q+1<=8*k+8:=by rw[length_append,hq] at E0;simpa using E0
  have uj:Hid ((L2++[8*k+t]).length=q+1):=by show _=_;rw[length_append,hq];rfl
  have Nb:b2<256:=by omega
  clear an ak kM jU ct oE hO hB E0 hq;go_wp2;go_roundw
  ·exact⟨b2,L2++[8*k+t],a5,c5,rfl,Nb,by rw[uj.out],by rw[uj.out];exact xW,HZ,yS⟩
  simp[intOf];omega
 obtain rfl:k=n:=by omega
 go_wp2;go_ret;exact⟨L,a,c,rfl,HA.out⟩
theorem VR(v:Nat->Nat)(n c g:Nat)(hn:0<n)(dj:n<=1000)(hv:∀j,j<n->v j<256)(w:World)(h:∀j,j<n->w.cell? ⟨g,j,none⟩=some (.int .u8 ((v j:Nat):Int))):
  Calls prog 174 #[.slice (some ⟨g,0,none⟩) n c] w fun e w'=>∃x:Nat,e=.returned (.int .u8 (x:Int))/\(∀j,j<n->v j<=x)/\(∃j,j<n/\v j=x)/\w'=w:=by
 have H:=hid (Zz hv h);have c0:=h 0 hn;have hz:¬((n:Int)<1):=by omega
 clear hv h;go_enter func174,ntmps174;go_wp2;go_loopw [3,4] (fun v3 i wr=>∃(k x:Nat),i=.int .i64 k/\1<=k/\k<=n/\v3=.int .u8 (x:Int)/\Hid ((∀j,j<k->v j<=x)/\∃j,j<k/\v j=x)/\wr=w) (fun _ i _=>n-(intOf i).toNat)
 ·exact⟨1,v 0,rfl,le_refl _,hn,rfl,⟨fun j hj=>by rw[show j=0 by omega];exact le_refl _,0,by omega,rfl⟩,rfl⟩
 obtain⟨k,x,rfl,qb,hk,rfl,HX,rfl⟩:=hrel;by_cases aw:k<n
 ·have ck:=H.out.2 k aw;have hvk:=H.out.1 k aw;have HZ:Hid (∀y,(y=x/\v k<=x)\/(y=v k/\x<=v k)->(∀j,j<k+1->v j<=y)/\∃j,j<k+1/\v j=y):=fun y hy=>by
   obtain⟨h1,j0,h2,h3⟩:=HX.out;rcases hy with ⟨rfl,hy⟩|⟨rfl,hy⟩
   ·exact⟨fun j hj=>by by_cases e:j=k;rw[e];exact hy;exact h1 j (by omega),j0,by omega,h3⟩
   exact⟨fun j hj=>by by_cases e:j=k;rw[e];exact le_refl _;exact Nat.le_trans (h1 j (by omega)) hy,k,by omega,rfl⟩
  generalize v k=y at ck hvk HZ;have i1:(k:Int)<n:=by omega
  rcases Nat.le_total y x with M8|M8
  ·have yS:=hid (HZ.out x (inl ⟨rfl,M8⟩));have O2:max (x:Int) (y:Int)=x:=(by omega);have Oc:max x y=x:=(by omega);go_wp2;go_roundw
   ·exact⟨k+1,x,by go_num,by omega,by omega,by first|rfl|simp[O2],yS,by first|trivial|rfl⟩
   simp[intOf];omega
  have yS:=hid (HZ.out y (inr ⟨rfl,M8⟩));have O2:max (x:Int) (y:Int)=y:=by omega
  have Oc:max x y=y:=by omega
  go_wp2;go_roundw
  ·exact⟨k+1,y,by go_num,by omega,by omega,by first|rfl|simp[O2],yS,by first|trivial|rfl⟩
  simp[intOf];omega
 obtain rfl:k=n:=by omega
 go_wp2;go_ret;exact⟨x,rfl,HX.out.1,HX.out.2,rfl⟩
theorem ZF(K:Nat->Lit)(cs:Array Value)(hs:cs.size=256)(hc:∀j,j<256->cs[j]?=some (.int .u8 ((cls K j:Nat):Int)))(w:World):
  Calls prog 155 #[.agg cs] w fun e w'=>e=.returned (.int .i64 ((cO K 256:Nat):Int))/\Below w.heap.size w w':=by
 have fk:∀j,j<256->cls K j<256:=fun j hj=>by have:=PK K j;omega
 have hB:=al w (.cells cs 98);have hS:=St.new w 98 cs;have hM:=hid (VR (cls K) 256 256 w.heap.size (by omega) (by omega) fk (w.alloc (.cells cs 98)) (fun j hj=>by rw[hS.at_,hc j hj]));have HB:=hid hB;have HT:Hid (∀x,(∀j,j<256->cls K j<=x)->(∃j,j<256/\cls K j=x)->x+1=cO K 256/\x<256):=fun x h1 h2=>by
  obtain⟨b,hb,e⟩:=zne K 256 (by omega);obtain⟨j,hj,rfl⟩:=h2;have:=DV K j 256 hj;have:=h1 b hb;have:=fk j hj;omega
 clear fk hB hS hc;go_enter func155,ntmps155;go_wp2_with fail;refine hM.out.mono ?_;rintro e w2 ⟨x,rfl,h1,h2,rfl⟩;obtain⟨hx,kT⟩:=HT.out x h1 h2;have HX:=hid hx;clear h1 h2 hx;go_wp2;go_ret;exact⟨by rw[<-HX.out];first|rfl|(simp;done),HB.out⟩
theorem Jc{P:Program}(w:World)(ad:Addr)(ty:TypeId)(cs:Array Value)(d:TypeDesc)(hc:∀j v,cs.toList[j]?=some v->w.cell? (ad.add j)=some v)
  (hu:P.underlying ty=some d) (hd:(match d with|.struct _|.array _ _=>true|_=>false)=true) (hi:(P.info? ty).map (·.size)=some cs.size):
  (loadVar ty ad).run P w=.ok (.agg cs) w:=by
 have hl:(loadCells ad cs.toList.length).run P w=.ok cs.toList.toArray w:=run_loadCells_list (P:=P) w ad cs.toList hc;cases hq:P.info? ty with
 | none=>simp[hq] at hi
 | some i=>
  have hs:i.size=cs.size:=by simpa [hq] using hi
  have Dr:(isAgg ty).run P w=.ok true w:=by
   unfold isAgg;rw[run_bind,run_underlying hu w];cases d <;> simp_all
  simp only[Array.length_toList,Array.toArray_toList] at hl;simp[loadVar,run_bind,Dr,sizeOf,typeInfo,hq,hs,hl]
theorem r8{P:Program}{rest:List Oper}{o:Oper}{Q:Exit->Act->World->Prop}(oZ:o.guard=none)(ty:TypeId)(x:Operand)(ho:o.op=.load ty x)
  (ad:Addr) (hx:a.eval x=.pointer (some ad)) (cs:Array Value) (d:TypeDesc) (hc:∀j v,cs.toList[j]?=some v->w.cell? (ad.add j)=some v)
  (hu:P.underlying ty=some d) (hd:(match d with|.struct _|.array _ _=>true|_=>false)=true) (hi:(P.info? ty).map (·.size)=some cs.size)
  (h:wpList P ops Q rest (a.put o.dst (.agg cs)) w):wpList P ops Q (o :: rest) a w:=
 wpList_plain oZ fun _ hK=>by
  unfold Oper.wp execOp
  simp only[ho,hx,Instr.loadAt,Instr.sureAddr,run_bind,run_pure,Result.andThen_ok,Jc w ad ty cs d hc hu hd hi]
  exact hK _ _ h
noncomputable def rl (K:Nat->Lit):Nat->List Nat
 | 0=>[]
 | k+1=>if cls K k=(rl K k).length then rl K k++[k] else rl K k
theorem zA(K:Nat->Lit)(k:Nat):(rl K k).length=cO K k:=by
 induction k with
 | zero=>rfl
 | succ k ih=>
  rw[rl,cO,ih];by_cases e:fst K k=k
  ·have:cls K k=cO K k:=(by unfold cls;rw[e]);rw[if_pos this,if_pos e];simp[ih]
  have h1:=(xS K k).1;have h2:cls K k+1<=cO K k:=by
   have h3:fst K k<k:=(by omega);have:=DV K (fst K k) k h3;unfold cls at this⊢;rwa [J8] at this
  rw[if_neg (by omega),if_neg e,ih];omega
theorem Se(K:Nat->Lit)(k:Nat):∀c (h:c<(rl K k).length),cls K (rl K k)[c]=c/\(rl K k)[c]<k:=by
 induction k with
 | zero=>intro c h;simp[rl] at h
 | succ k ih=>
  intro c h;by_cases e:cls K k=(rl K k).length
  ·have er:rl K (k+1)=rl K k++[k]:=(by rw[rl,if_pos e]);simp only[er] at h⊢;by_cases hc:c<(rl K k).length
   ·rw[getElem_append_left hc];have:=ih c hc;omega
   rw[length_append] at h;have:c=(rl K k).length:=(by simp at h;omega);subst this;rw[List.getElem_append_right (le_refl _)];simp[e]
  have er:rl K (k+1)=rl K k:=by rw[rl,if_neg e]
  simp only[er] at h⊢;have:=ih c h;omega
structure F5 (w:World)(B bn:Nat)(K:Nat->Lit)(cs:Array Value):Prop where
 fY:bn<B
 sz:cs.size=256
 val:∀j,j<256->cs[j]?=some (.int .u8 ((cls K j:Nat):Int))
 at_:∀j v,cs.toList[j]?=some v->w.cell? ((⟨bn,0,none⟩:Addr).add j)=some v
theorem OA{P:Program}(t e:TypeId)(n:Nat)(cs:Array Value)(i:Nat)(v:Value)(h:P.underlying t=some (.array n e))(hi:i<n)(hs:(P.info? e).map (·.size)=some 1)(hd:∃d,P.underlying e=some d/\(match d with|.struct _|.array _ _=>true|_=>false)=false)(hv:cs[i]?=some v)(w:World):
  (Instr.index t (.agg cs) (.int .i64 (i:Int))).run P w=.ok v w:=by
 obtain⟨d,hd1,J6⟩:=hd;cases hq:P.info? e with
 | none=>simp[hq] at hs
 | some inf=>
  have lZ:inf.size=1:=by simpa [hq] using hs
  have Dr:(isAgg e).run P w=.ok false w:=by
   unfold isAgg;rw[run_bind,run_underlying hd1 w];cases d <;> simp_all
  have h1:(0:Int)<=i/\(i:Int)<n:=by omega
  simp[Instr.index,asIntOf,run_underlying h,h1,sizeOf,typeInfo,hq,lZ,part,Dr,hv];intro hni;omega
def Xr(K:Nat->Lit)(w:World)(e:Ending)(w':World):Prop:=
 ∃(a:Option Addr) (c:Nat),e=.returned (.slice a (cO K 256) c)/\w'.ownsRow w.heap.size 5 1 (.slice a (cO K 256) c) (cO K 256) (ix (rl K 256))/\Below w.heap.size w w'
theorem zdV(K:Nat->Lit)(B bn:Nat)(cs:Array Value)(w:World)(h:F5 w B bn K cs):Calls prog 169 #[.pointer (some ⟨bn,0,none⟩)] w (Xr K w):=by
 have H:=hid h;have eC:(prog.info? 98).map (·.size)=some cs.size:=by rw[h.sz];kernel_rfl
 obtain⟨i0,hi,dD,cQ,cJ⟩:=info_parts jD;clear h;go_enter func169,ntmps169;go_wp2_with (refine r8 rfl 98 _ rfl ⟨bn,0,none⟩ rfl cs (.array 256 5) H.out.at_ underlying98 rfl eC ?_);go_loopw [3,4,5,10] (fun v3 _ _ v wr=>∃(k q:Nat) (a:Option Addr) (c:Nat),v=.int .i64 k/\k<=256/\q<=256/\v3=.slice a q c/\Hid ((rl K k).length=q/\wr.ownsRow w.heap.size 5 1 (.slice a q c) q (ix (rl K k))/\Below w.heap.size w wr)) (fun _ _ _ v _=>256-(intOf v).toNat)
 ·exact⟨0,0,none,0,rfl,zero_le _,zero_le _,rfl,rfl,World.ownsRow_nil _ _ _ _,Below.refl _ _⟩
 obtain⟨k,q,a,c,rfl,hk,hq,rfl,HA⟩:=hrel;by_cases aw:k<256
 ·have hv:=H.out.val k aw;have da:=H.out.sz;have Em:(k:Int)<256:=by omega
  have Bi:=OA 98 5 256 cs k _ underlying98 aw (by kernel_rfl) ⟨_,underlying5,rfl⟩ hv wr;have fk:cls K k<=k:=PK K k;have hle:q<=k:=by rw[<-HA.out.1,zA];exact JW K k
  by_cases hc:cls K k=q
  ·have HZ:Hid (rl K (k+1)=rl K k++[k]/\(rl K (k+1)).length=q+1):=by
    have e:rl K (k+1)=rl K k++[k]:=(by rw[rl,if_pos (by rw[HA.out.1];exact hc)]);exact⟨e,by rw[e,length_append,HA.out.1];rfl⟩
   generalize cls K k=x at hv fk hc Bi;subst hc;have hO:=HA.out.2.1;have hB:=HA.out.2.2;have Ia:=hB.size;go_wp2_with (at_builtin;refine wpList_append_own _ rfl _ _ 76 rfl w.heap.size 5 i0 (.int .u8 0) 1 1 underlying76 hi dD cQ cJ rfl (by decide) _ _ _ rfl (hO.alloc _) ⟨wr.heap.size,0,none⟩ 1 1 [.int .u8 (k:Int)] rfl rfl (cell_one_new _ _ _) ?d2 ?d3 ?d4 ?d5 ?_)
   case d2=>intro u hu;simp at hu;subst hu;rfl
   case d3=>unfold maxLen;omega
   case d4=>omega
   case d5=>simp;omega
   intro v' w5 an ak _;obtain⟨a5,c5,rfl⟩:=bG an;have kM:=fO (hB.trans ((al wr (.cells #[.int .u8 (k:Int)] 5)).mono Ia)) (hO.alloc _) (by simp;omega) ak;have HF:Hid ((rl K (k+1)).length=x+1/\w5.ownsRow w.heap.size 5 1 (.slice a5 (x+1) c5) (x+1) (ix (rl K (k+1)))/\Below w.heap.size w w5):=by
    refine⟨HZ.out.2,?_,kM⟩;rw[HZ.out.1,zk1];exact an
   clear an ak kM hO hB HA;go_wp2;go_roundw
   ·exact⟨k+1,x+1,a5,c5,by go_num,by omega,by omega,rfl,HF⟩
   simp[intOf];omega
  have HZ:Hid (rl K (k+1)=rl K k):=by
   show _=_;rw[rl,if_neg (by rw[HA.out.1];exact hc)]
  generalize cls K k=x at hv fk hc Bi;have iZ:¬((x:Int)=q):=by omega
  go_wp2;go_roundw
  ·exact⟨k+1,q,a,c,by go_num,by omega,hq,rfl,by rw[HZ.out];exact HA⟩
  simp[intOf];omega
 obtain rfl:k=256:=by omega
 have HF:Hid (Xr K w (.returned (.slice a q c)) wr):=by
  have e:=HA.out.1;rw[zA] at e;subst e;exact⟨a,c,rfl,HA.out.2.1,HA.out.2.2⟩
 go_wp2;go_ret;exact HF.out
theorem gW.grown{row:Option Nat}(h:gW V B bs bm gI m cs P l vL wr)(hg:wr.grownBy w1 row)(hr:∀g,row=some g->g∈bs\/V.heap.size<=g)(hB:∀g,row=some g->B<=g)
  (h1:some bm≠row) (h2:some gI≠row) (h3:∀b,vL.ownBlock=some b->some b≠row):gW V B bs bm gI m cs P l vL w1:=
 ⟨h.kept.grown hg (fun g e=>(hr g e).elim inl (fun x=>inr (inl x))),h.below.grown hg h.hB hB,h.sm.grown hg h1,h.sz,h.cI,qV h.kK hg (fun g e=>by simp only[Value.ownBlock] at e;rw[<-e];exact h2),qV h.ca hg h3,h.loc,h.jA,h.lo⟩
theorem zkx(cs:Array Value)(i:Nat)(hi:i≠262)(u v:Value):(cs.setIfInBounds 262 v).setIfInBounds i u=(cs.setIfInBounds i u).setIfInBounds 262 v:=by
 apply Array.ext_getElem?;intro j;simp only[Array.getElem?_setIfInBounds,Array.size_setIfInBounds];by_cases h1:i=j <;> by_cases h2:262=j <;> simp[h1,h2]
 omega
theorem gW.wR(h:gW V B bs bm gI m cs P l vL wr)(i:Nat)(h1:i≠261)(h2:i≠262)(u:Value):gW V B bs bm gI m (cs.setIfInBounds i u) P l vL (wr.setCell ⟨bm,i,none⟩ u):=by
 refine⟨h.kept.setCell _ _ (inl h.jA.1),h.below.setCell (p:=⟨bm,i,none⟩) h.lo.1 _,?_,by rw[Array.size_setIfInBounds];exact h.sz,by rw[getElem?_setIfInBounds_ne h1];exact h.cI,jE h.kK h.sm (by decide) _ _,jE h.ca h.sm (by decide) _ _,h.loc,h.jA,h.lo⟩;have:=h.sm.set i u;rwa [zkx cs i h2 u vL] at this
theorem gW.other(h:gW V B bs bm gI m cs P l vL wr)(i:Nat)(hi:i≠262):wr.cell? ⟨bm,i,none⟩=cs[i]?:=by
 rw[h.sm.at_,getElem?_setIfInBounds_ne (fun e=>hi e.symm)]
theorem iu.grown{row:Option Nat}(h:iu V B bs bm gI m M cs l vL wr)(hg:wr.grownBy w1 row)(hr:∀g,row=some g->g∈bs\/V.heap.size<=g)(hB:∀g,row=some g->B<=g)
  (h1:some bm≠row) (h2:some gI≠row) (h3:∀b,vL.ownBlock=some b->some b≠row):iu V B bs bm gI m M cs l vL w1:=⟨h.r.grown hg hr hB h1 h2 h3,h.nd,h.lt⟩
theorem iu.wR(h:iu V B bs bm gI m M cs l vL wr)(i:Nat)(h1:i≠261)(h2:i≠262)(u:Value):iu V B bs bm gI m M (cs.setIfInBounds i u) l vL (wr.setCell ⟨bm,i,none⟩ u):=⟨h.r.wR i h1 h2 u,h.nd,h.lt⟩
def strs(l:List ByteArray):List Value:=l.map fun s=>.string s
def ints(l:List Int):List Value:=l.map fun x=>.int .i64 x
theorem ox:(prog.info? 9).map (fun i=>(i.zero,i.size,i.bytes))=some (some (.string ⟨#[]⟩),1,16):=by kernel_rfl
theorem B2:Keyed prog 9:=string_keyed underlying9
structure lH (V:World)(B:Nat)(bs:List Nat)(bM:Nat)(cs:Array Value)(vL:Value)(k q n:Nat)(ss:List ByteArray)(ms:List Int)(Q:Value->Value->Prop)(vS vK:Value)(wr:World):Prop where
 cK:cs[258]?=some vK
 cS:cs[259]?=some vS
 cM:cs[260]?=some (.map (some bM))
 os:wr.ownsRow B 9 1 vS k (strs ss)
 ok:wr.ownsRow B 3 1 vK q (ints ms)
 map:aD wr 9 bM n Q
 sep:∀b,vL.ownBlock=some b->vK.ownBlock≠some b
 lS:∀b,vS.ownBlock=some b->b∈bs\/V.heap.size<=b
 lK:∀b,vK.ownBlock=some b->b∈bs\/V.heap.size<=b
 lM:bM∈bs/\B<=bM
theorem lH.aa{Q:Value->Value->Prop}(h:lH V B bs bM cs vL k q n ss ms Q vS vK wr)(b:Below wr.heap.size wr w1):lH V B bs bM cs vL k q n ss ms Q vS vK w1:=
 ⟨h.cK,h.cS,h.cM,dr h.os b,dr h.ok b,h.map.same (b.block _ h.map.lt),h.sep,h.lS,h.lK,h.lM⟩
def LR(V:World)(B:Nat)(bs:List Nat)(bm gI m M bM:Nat)(cs:Array Value)(l:List Nat)(vL:Value)(k n:Nat)(ss:List ByteArray)(ms:List Int)(Q':Value->Value->Prop)(s:ByteArray)(mk:Nat->Int)(e:Ending)(w':World):Prop:=
 ∃(r:Int) (vS' vK':Value),e=.returned (.int .i64 (k:Int))/\bH mk (fun x=>x∈l) r/\iu V B bs bm gI m M ((cs.setIfInBounds 259 vS').setIfInBounds 258 vK') l vL w'/\
  lH V B bs bM ((cs.setIfInBounds 259 vS').setIfInBounds 258 vK') vL (k+1) (k+1) (n+1) (ss++[s]) (ms++[r]) Q' vS' vK' w'
theorem Ae{b g:Nat}{Q:Value->Value->Prop}(hm:aD w k b n Q)(h:St w t g cs):g≠b:=by
 rintro rfl;obtain⟨es,clock,hb,_⟩:=hm;have h1:w.heap[g]?=_:=h;rw[h1] at hb;cases hb
theorem wJ{b size:Nat}{v:Value}{xs:List Value}{Q:Value->Value->Prop}(hm:aD w k b n Q)(h:w.ownsRow B t size v q xs):∀g,v.ownBlock=some g->g≠b:=by
 rintro g e rfl;obtain⟨c,fz,hc⟩:=qa h g e;obtain⟨es,clock,hb,_⟩:=hm;rw[hc] at hb;cases hb
theorem zoc{vS':Value}{Q:Value->Value->Prop}{s:ByteArray}
  (h:iu V B bs bm gI m M cs l vL W) (t:lH V B bs bM cs vL k q n ss ms Q vS vK W) (ho:w5.ownsRow B 9 1 vS' (k+1) (strs ss++[.string s])) (hg:W.grownBy w5 vS.ownBlock) (ep:vS'.ownBlock=vS.ownBlock\/vS'.ownBlock=some W.heap.size):
  iu V B bs bm gI m M (cs.setIfInBounds 259 vS') l vL (w5.setCell ⟨bm,259,none⟩ vS')/\lH V B bs bM (cs.setIfInBounds 259 vS') vL (k+1) q n (ss++[s]) ms Q vS' vK (w5.setCell ⟨bm,259,none⟩ vS'):=by
 have h5:=h.grown hg t.lS (ko t.os) (fun e=>dH t.os h.r.sm (by decide) bm e.symm rfl) (fun e=>hJ t.os h.r.kK (by decide) gI e.symm rfl) (fun b e1 e2=>hJ h.r.ca t.os (by decide) b e1 e2.symm);have lT:=h5.r.sm;refine⟨h5.wR 259 (by decide) (by decide) vS',by rw[getElem?_setIfInBounds_ne (by decide)];exact t.cK,by rw[Array.getElem?_setIfInBounds_self_of_lt (by rw[h.r.sz];decide)],by rw[getElem?_setIfInBounds_ne (by decide)];exact t.cM,?_,
  jE (uI t.ok t.os (by decide) hg) lT (by decide) _ _,(t.map.af t.os hg).set lT,t.sep,?_,t.lK,t.lM⟩
 ·rw[show strs (ss++[s])=strs ss++[.string s] by simp[strs]];exact jE ho lT (by decide) _ _
 intro b e1;rcases ep with h1|h1
 ·exact t.lS b (by rw[<-h1];exact e1)
 rw[h1] at e1;injection e1 with e1;exact inr (by rw[<-e1];exact h.r.below.size)
theorem MR{vK':Value}{Q:Value->Value->Prop}{r:Int}
  (h:iu V B bs bm gI m M cs l vL W) (t:lH V B bs bM cs vL k q n ss ms Q vS vK W) (ho:w5.ownsRow B 3 1 vK' (q+1) (ints ms++[.int .i64 r])) (hg:W.grownBy w5 vK.ownBlock) (ep:vK'.ownBlock=vK.ownBlock\/vK'.ownBlock=some W.heap.size):
  iu V B bs bm gI m M (cs.setIfInBounds 258 vK') l vL (w5.setCell ⟨bm,258,none⟩ vK')/\lH V B bs bM (cs.setIfInBounds 258 vK') vL k (q+1) n ss (ms++[r]) Q vS vK' (w5.setCell ⟨bm,258,none⟩ vK'):=by
 have h5:=h.grown hg t.lK (ko t.ok) (fun e=>dH t.ok h.r.sm (by decide) bm e.symm rfl) (fun e=>hJ t.ok h.r.kK (by decide) gI e.symm rfl) (fun b e1 e2=>t.sep b e1 e2.symm);have lT:=h5.r.sm;refine⟨h5.wR 258 (by decide) (by decide) vK',by rw[Array.getElem?_setIfInBounds_self_of_lt (by rw[h.r.sz];decide)],by rw[getElem?_setIfInBounds_ne (by decide)];exact t.cS,by rw[getElem?_setIfInBounds_ne (by decide)];exact t.cM,
  jE (uI t.os t.ok (by decide) hg) lT (by decide) _ _,?_,(t.map.af t.ok hg).set lT,fun b e1 e2=>?_,t.lS,?_,t.lM⟩
 ·rw[show ints (ms++[r])=ints ms++[.int .i64 r] by simp[ints]];exact jE ho lT (by decide) _ _
 ·rcases ep with h1|h1
  ·exact t.sep b e1 (by rw[<-h1];exact e2)
  rw[h1] at e2;injection e2 with e2;obtain⟨c,fz,hc⟩:=qa h.r.ca b e1;have:=(Array.getElem?_eq_some_iff.1 hc).1;omega
 intro b e1;rcases ep with h1|h1
 ·exact t.lK b (by rw[<-h1];exact e1)
 rw[h1] at e1;injection e1 with e1;exact inr (by rw[<-e1];exact h.r.below.size)
theorem Vb{n':Nat}{Q Q':Value->Value->Prop}
  (h:iu V B bs bm gI m M cs l vL W) (t:lH V B bs bM cs vL k q n ss ms Q vS vK W) (hm:aD w5 9 bM n' Q') (hg:W.grownBy w5 (some bM)):
  iu V B bs bm gI m M cs l vL w5/\lH V B bs bM cs vL k q n' ss ms Q' vS vK w5:=by
 have ob:=t.map;have h5:=h.grown hg (fun g e=>by injection e with e;rw[<-e];exact inl t.lM.1) (fun g e=>by injection e with e;rw[<-e];exact t.lM.2) (fun e=>by injection e with e;exact Ae ob h.r.sm e) (fun e=>by injection e with e;exact wJ ob h.r.kK gI rfl e) (fun b e1 e2=>by injection e2 with e2;exact wJ ob h.r.ca b e1 e2);exact⟨h5,t.cK,t.cS,t.cM,ym t.os ob.of hg,ym t.ok ob.of hg,hm,t.sep,t.lS,t.lK,t.lM⟩
theorem zky(f t:Nat):dg (bx f t).z=[.int .i64 (f:Int),.int .i64 (t:Int),.int .u64 0,.int .u64 0,.int .u64 0,.int .u64 0,.bool true]:=by
 simp[dg,En.z,bx,zv]
theorem tR(f t:Nat)(w:World):Calls prog 167 #[.int .i64 (f:Int),.int .i64 (t:Int)] w fun e w'=>e=.returned (.agg #[.int .i64 (f:Int),.int .i64 (t:Int),.int .u64 0,.int .u64 0,.int .u64 0,.int .u64 0,.bool true])/\Below w.heap.size w w':=by
 have HB:=hid ((Below.refl w.heap.size w).alloc (le_refl _) (.cells #[.int .i64 (f:Int),.int .i64 (t:Int),.int .u64 0,.int .u64 0,.int .u64 0,.int .u64 0,.bool true] 186));have HS:=hid (St.new w 186 #[.int .i64 (f:Int),.int .i64 (t:Int),.int .u64 0,.int .u64 0,.int .u64 0,.int .u64 0,.bool true]);go_enter func167,ntmps167;go_wp2_with fail;generalize w.alloc (.cells #[.int .i64 (f:Int),.int .i64 (t:Int),.int .u64 0,.int .u64 0,.int .u64 0,.int .u64 0,.bool true] 186)=W at HB HS⊢;obtain⟨v0,v1,v2,v3,v4,v5,v6⟩:=T0 HS.out;exact bodyPost_ret (v:=.agg #[.int .i64 (f:Int),.int .i64 (t:Int),.int .u64 0,.int .u64 0,.int .u64 0,.int .u64 0,.bool true]) (by simp[results,results167,go_sem,v0,v1,v2,v3,v4,v5,v6]) rfl ⟨rfl,HB.out⟩
theorem xv{P:Program}{o:Oper}{K:Act->World->Prop}{Q:Exit->Act->World->Prop}{E:Prop}(oZ:o.guard=none)(s x:Operand)(t:TypeId)
  (ho:o.op=.call { callee:=.builtin .append,args:=#[s,x],argTypes:=#[t,t] })
  (base:Nat) (e:TypeId) (i:TypeInfo) (z:Value) (size bytes:Nat) (ht:P.underlying t=some (.slice e)) (hi:P.info? e=some i) (hz:i.zero=some z)
  (rb:i.size=size) (Ge:i.bytes=bytes) (IZ:z.cells.size=size) (da:0<size)
  (v:Value) (n:Nat) (xs:List Value) (hs:a.eval s=v) (aQ:w.ownsRow base e size v n xs)
  (ad:Addr) (m c:Nat) (news:List Value) (hx:a.eval x=.slice (some ad) m c) (hl:news.length=m*size) (qs:∀j u,news[j]?=some u->w.cell? (ad.add j)=some u) (h1:∀u∈news,u.oneCell'=true)
  (Fx:n+m<=maxLen) (jS:(n+m)*bytes<=140737488355328) (qp:base<=w.heap.size)
  (h:∀v' w',w'.ownsRow base e size v' (n+m) (xs++news)->w.grownBy w' v.ownBlock->K (a.put o.dst v') w'):
  if wanted o (yielded ops a.tmps)=true then Oper.wp P o a w K Q else E:=by
 have hw:wanted o (yielded ops a.tmps)=true:=by simp[wanted,oZ]
 rw[if_pos hw];obtain⟨v',w',hr,h2,h3,_,_⟩:=run_append_own_at (P:=P) w base t o.type e i z size bytes ht hi hz rb Ge IZ da v n xs aQ ad m c news hl qs h1 Fx jS qp;unfold Oper.wp execOp;simp only[ho,resolve,invoke,builtin,run_bind,run_pure,Result.andThen_ok,List.map_toArray,map_cons,map_nil,hs,hx,hr];exact h v' w' h2 h3
theorem Rg{P:Program}{o:Oper}{K:Act->World->Prop}{Q:Exit->Act->World->Prop}{E:Prop}(oZ:o.guard=none)(s x:Operand)(t:TypeId)
  (ho:o.op=.call { callee:=.builtin .append,args:=#[s,x],argTypes:=#[t,t] })
  (base:Nat) (e:TypeId) (i:TypeInfo) (z:Value) (size bytes:Nat) (ht:P.underlying t=some (.slice e)) (hi:P.info? e=some i) (hz:i.zero=some z)
  (rb:i.size=size) (Ge:i.bytes=bytes) (IZ:z.cells.size=size) (da:0<size)
  (v:Value) (n:Nat) (xs:List Value) (hs:a.eval s=v) (aQ:w.ownsRow base e size v n xs)
  (ad:Addr) (m c:Nat) (news:List Value) (hx:a.eval x=.slice (some ad) m c) (hl:news.length=m*size) (qs:∀j u,news[j]?=some u->w.cell? (ad.add j)=some u) (h1:∀u∈news,u.oneCell'=true)
  (Fx:n+m<=maxLen) (jS:(n+m)*bytes<=140737488355328) (qp:base<=w.heap.size)
  (h:∀v' w',w'.ownsRow base e size v' (n+m) (xs++news)->w.grownBy w' v.ownBlock->(v'.ownBlock=v.ownBlock\/v'.ownBlock=some w.heap.size)->K (a.put o.dst v') w'):
  if wanted o (yielded ops a.tmps)=true then Oper.wp P o a w K Q else E:=by
 have hw:wanted o (yielded ops a.tmps)=true:=by simp[wanted,oZ]
 rw[if_pos hw];obtain⟨v',w',hr,h2,h3,_,h4⟩:=run_append_own_at (P:=P) w base t o.type e i z size bytes ht hi hz rb Ge IZ da v n xs aQ ad m c news hl qs h1 Fx jS qp;unfold Oper.wp execOp;simp only[ho,resolve,invoke,builtin,run_bind,run_pure,Result.andThen_ok,List.map_toArray,map_cons,map_nil,hs,hx,hr];exact h v' w' h2 h3 h4
theorem zmo(V:World)(B:Nat)(bs:List Nat)(bm gI m M bM bn gM cM:Nat)(cs:Array Value)(mk:Nat->Int)(HV:kE V B bn gM M cM mk)(jd:∀i,i<M->-1<=mk i)(pJ:cs[0]?=some (.pointer (some ⟨bn,0,none⟩)))(hM:M<=100000)
  (l:List Nat) (vL vS vK:Value) (k n:Nat) (ss:List ByteArray) (ms:List Int) (Q Q':Value->Value->Prop) (s:ByteArray) (hs:s.size<=100000) (hk:k<=1000000) (hn:n<=1000000) (iQ:∀y,¬Q (.string s) y) (RQ:∀x y,Q x y->Q' x y) (Vy:Q' (.string s) (.int .i64 (k:Int))) (SW:∀x y,Q' x y->x≠.string s->∃y',Q x y')
  (wr:World) (h:iu V B bs bm gI m M cs l vL wr) (t:lH V B bs bM cs vL k k n ss ms Q vS vK wr):
  Calls prog 154 #[.pointer (some ⟨bm,0,none⟩),.string s] wr (LR V B bs bm gI m M bM cs l vL k n ss ms Q' s mk):=by
 obtain⟨aS,cS,rfl⟩:=bG t.os;obtain⟨aK,cK,rfl⟩:=bG t.ok;have c1:wr.cell? ⟨bm,259,none⟩=some (.slice aS k cS):=(h.r.other 259 (by decide)).trans t.cS;obtain⟨kl,hkl⟩:∃kl,keyOf prog 9 (.string s)=some kl:=⟨_,Go.WideMaps.keyOf_string_mk underlying9 (by unfold maxLen;omega)⟩
 have HH:=hid (Zz h t);have N1:=hid (Zz HV (Zz jd pJ));have HQ:=hid (Zz RQ (Zz Vy (Zz SW iQ)));obtain⟨i0,hi,dD,cQ,cJ⟩:=info_parts az;obtain⟨i1,Em,eV,eQ,ec⟩:=info_parts ox;have hO:=t.os;have l7:=h.r.hB;clear h t HV jd pJ RQ Vy SW iQ;go_enter func154,ntmps154;go_wp2_with (at_builtin;refine wpList_append_own_at _ rfl _ _ 23 rfl B 9 i1 (.string ⟨#[]⟩) 1 16 underlying23 Em eV eQ ec rfl (by decide) _ _ _ rfl (hO.alloc _) ⟨wr.heap.size,0,none⟩ 1 1 [.string s] rfl rfl (cell_one_new _ _ _) ?d2 ?d3 ?d4 ?d5 ?_)
 case d2=>intro u hu;simp at hu;subst hu;rfl
 case d3=>unfold maxLen;omega
 case d4=>omega
 case d5=>simp;omega
 intro v' w5 an ak _ bw;obtain⟨a5,c5,rfl⟩:=bG an;have Gf:=al wr (.cells #[.string s] 9);have oc:=zoc (HH.out.1.aa Gf) (HH.out.2.aa Gf) (s:=s) (vS':=.slice a5 (k+1) c5) an ak (by rw[show (wr.alloc (.cells #[.string s] 9)).heap.size=wr.heap.size+1 by simp];exact bw);have Da:St w5 168 bm _:=(HH.out.1.aa Gf).r.sm.af (HH.out.2.aa Gf).os (by decide) ak;have p1:w5.cell? ⟨bm,259,none⟩=some (.slice aS k cS):=by rw[Da.at_,getElem?_setIfInBounds_ne (by decide)];exact HH.out.2.cS
 have pf:=Da.aZ 259;have HS:=hid oc;have Jy:=oc.2.map;have q1:(w5.setCell ⟨bm,259,none⟩ (.slice a5 (k+1) c5)).cell? ⟨bm,260,none⟩=some (.map (some bM)):=(oc.1.r.other 260 (by decide)).trans oc.2.cM;clear an ak bw Gf oc Da hO;go_wp2_with (at_mapUpdate;refine ZE _ rfl _ _ _ 166 rfl 9 3 B2 underlying166 bM n Q Q' rfl Jy (by unfold maxLen;omega) _ _ kl rfl rfl hkl HQ.out.2.2.2 HQ.out.1 HQ.out.2.1 HQ.out.2.2.1 ?_);intro w6 xe ga;have iK:=Vb HS.out.1 HS.out.2 xe ga;clear xe ga Jy q1 p1 pf HS;have im:Hid (iu V B bs bm gI m M (cs.setIfInBounds 259 (.slice a5 (k+1) c5)) l vL w6.drew/\lH V B bs bM (cs.setIfInBounds 259 (.slice a5 (k+1) c5)) vL (k+1) k (n+1) (ss++[s]) ms Q' (.slice a5 (k+1) c5) (.slice aK k cK) w6.drew):=
  ⟨iK.1.aa (Below.refl w6.heap.size w6).drew,iK.2.aa (Below.refl w6.heap.size w6).drew⟩
 clear iK;generalize w6=W3 at im⊢;have e3:W3.drew.cell? ⟨bm,258,none⟩=some (.slice aK k cK):=(im.out.1.r.other 258 (by decide)).trans im.out.2.cK;have YD:=hid (zfw V B bs bm gI m M bn gM cM (cs.setIfInBounds 259 (.slice a5 (k+1) c5)) mk N1.out.1 N1.out.2.1 (by rw[getElem?_setIfInBounds_ne (by decide)];exact N1.out.2.2) hM l vL W3.drew im.out.1);go_wp2_with fail;refine wp_region_held_drew (S:=fun _=>True) (by kernel_rfl) trivial (fun hHeld=>?_)
 (refine ag 0 ?_;refine ag 1 ?_;refine ag 2 ?_;try simp only[put,sA,sB,sC];refine ag 3 ?_;refine ag 4 ?_;refine ag 6 ?_;try simp only[put,sA,sB,sC])
 refine wpAnyH_ready (rs:=[5,7]) (by kernel_rfl) (by simp) ?_;refine ir (fun K hK=>?_) ?_
 ·skip;go_simp;refine hK.out _ _ trivial (fun hHeld=>?_);clear hK K
  try simp only[put,sA,sB,sC]
  refine ba 7 (fun K hK=>?_);skip;go_simp;go_at_call 173;refine YD.out.mono ?_;rintro e w5 ⟨r,rfl,hr,rfl⟩;have HR:=hid hr;clear hr
  try go_wp2_with fail
  refine hK.out _ _ trivial (fun hHeld=>?_);clear hK K
  try simp only[put,sA,sB,sC]
  refine ba 8 (fun K hK=>?_);skip;go_simp;have td:=hid (im.out.1.aa (al W3.drew (.cells #[.int .i64 r] 3)));have pM:=hid (im.out.2.aa (al W3.drew (.cells #[.int .i64 r] 3)));have e6:(W3.alloc (.cells #[.int .i64 r] 3)).cell? ⟨bm,258,none⟩=some (.slice aK k cK):=(td.out.r.other 258 (by decide)).trans pM.out.cK;refine hK.out _ _ trivial (fun hHeld=>?_);clear hK K
  try simp only[put,sA,sB,sC]
  refine ba 9 (fun K hK=>?_);skip;skip;refine Rg (by rfl) _ _ _ (by rfl) B 3 i0 (.int .i64 0) 1 8 underlying43 hi dD cQ cJ (by rfl) (by decide) _ k (ints ms) (by rfl) pM.out.ok ⟨W3.heap.size,0,none⟩ 1 1 (#[.int .i64 r]).toList (by rfl) (by rfl) (World.news_of_block (cs:=#[.int .i64 r]) (t:=3) (fr:=(0,0)) (heap_alloc_new W3.drew _)) (by simp[Value.oneCell']) (by unfold maxLen;omega) (by omega) td.out.r.hB ?_;intro v6 w6 aq aj cj;obtain⟨a6,c6,rfl⟩:=bG aq;have jd:=MR td.out pM.out (r:=r) (vK':=.slice a6 (k+1) c6) aq aj cj;have mq:St w6 168 bm _:=td.out.r.sm.af pM.out.ok (by decide) aj;have t3:w6.cell? ⟨bm,258,none⟩=some (.slice aK k cK):=by rw[mq.at_,getElem?_setIfInBounds_ne (by decide)];exact pM.out.cK
  have f3:=mq.aZ 258;have HF:Hid (LR V B bs bm gI m M bM cs l vL k n ss ms Q' s mk (.returned (.int .i64 (k:Int))) (w6.setCell ⟨bm,258,none⟩ (.slice a6 (k+1) c6))):=⟨r,_,_,rfl,HR.out,jd.1,jd.2⟩
  refine hK.out _ _ trivial (fun hHeld=>?_);clear hK K aq aj cj jd mq
  try simp only[put,sA,sB,sC]
  (refine ag 10 ?_;refine ag 11 ?_;refine ag 12 ?_;try simp only[put,sA,sB,sC])
  refine ba 13 (fun K hK=>?_);skip;go_simp;refine hK.out _ _ trivial (fun hHeld=>?_);clear hK K
  try simp only[put,sA,sB,sC]
  refine wpAnyH_done (by kernel_rfl) ?_ _;clear hHeld;go_wp2;go_ret;exact HF.out
 refine ir (fun K hK=>?_) ?_
 ·skip;go_simp;go_at_call 173;refine YD.out.mono ?_;rintro e w5 ⟨r,rfl,hr,rfl⟩;have HR:=hid hr;clear hr
  try go_wp2_with fail
  refine hK.out _ _ trivial (fun hHeld=>?_);clear hK K
  try simp only[put,sA,sB,sC]
  refine wpAnyH_ready (rs:=[5,8]) (by kernel_rfl) (by simp) ?_;refine ir (fun K hK=>?_) ?_
  ·skip;go_simp;refine hK.out _ _ trivial (fun hHeld=>?_);clear hK K
   try simp only[put,sA,sB,sC]
   refine ba 8 (fun K hK=>?_);skip;go_simp;have td:=hid (im.out.1.aa (al W3.drew (.cells #[.int .i64 r] 3)));have pM:=hid (im.out.2.aa (al W3.drew (.cells #[.int .i64 r] 3)));have e6:(W3.alloc (.cells #[.int .i64 r] 3)).cell? ⟨bm,258,none⟩=some (.slice aK k cK):=(td.out.r.other 258 (by decide)).trans pM.out.cK;refine hK.out _ _ trivial (fun hHeld=>?_);clear hK K
   try simp only[put,sA,sB,sC]
   refine ba 9 (fun K hK=>?_);skip;skip;refine Rg (by rfl) _ _ _ (by rfl) B 3 i0 (.int .i64 0) 1 8 underlying43 hi dD cQ cJ (by rfl) (by decide) _ k (ints ms) (by rfl) pM.out.ok ⟨W3.heap.size,0,none⟩ 1 1 (#[.int .i64 r]).toList (by rfl) (by rfl) (World.news_of_block (cs:=#[.int .i64 r]) (t:=3) (fr:=(0,0)) (heap_alloc_new W3.drew _)) (by simp[Value.oneCell']) (by unfold maxLen;omega) (by omega) td.out.r.hB ?_;intro v6 w6 aq aj cj;obtain⟨a6,c6,rfl⟩:=bG aq;have jd:=MR td.out pM.out (r:=r) (vK':=.slice a6 (k+1) c6) aq aj cj;have mq:St w6 168 bm _:=td.out.r.sm.af pM.out.ok (by decide) aj;have t3:w6.cell? ⟨bm,258,none⟩=some (.slice aK k cK):=(by rw[mq.at_,getElem?_setIfInBounds_ne (by decide)];exact pM.out.cK);have f3:=mq.aZ 258;have HF:Hid (LR V B bs bm gI m M bM cs l vL k n ss ms Q' s mk (.returned (.int .i64 (k:Int))) (w6.setCell ⟨bm,258,none⟩ (.slice a6 (k+1) c6))):=(⟨r,_,_,rfl,HR.out,jd.1,jd.2⟩);refine hK.out _ _ trivial (fun hHeld=>?_);clear hK K aq aj cj jd mq
   try simp only[put,sA,sB,sC]
   (refine ag 10 ?_;refine ag 11 ?_;refine ag 12 ?_;try simp only[put,sA,sB,sC])
   refine ba 13 (fun K hK=>?_);skip;go_simp;refine hK.out _ _ trivial (fun hHeld=>?_);clear hK K
   try simp only[put,sA,sB,sC]
   refine wpAnyH_done (by kernel_rfl) ?_ _;clear hHeld;go_wp2;go_ret;exact HF.out
  refine ir (fun K hK=>?_) ?_
  ·skip;go_simp;have td:=hid (im.out.1.aa (al W3.drew (.cells #[.int .i64 r] 3)));have pM:=hid (im.out.2.aa (al W3.drew (.cells #[.int .i64 r] 3)));have e6:(W3.alloc (.cells #[.int .i64 r] 3)).cell? ⟨bm,258,none⟩=some (.slice aK k cK):=(td.out.r.other 258 (by decide)).trans pM.out.cK;refine hK.out _ _ trivial (fun hHeld=>?_);clear hK K
   try simp only[put,sA,sB,sC]
   refine ba 5 (fun K hK=>?_);skip;go_simp;refine hK.out _ _ trivial (fun hHeld=>?_);clear hK K
   try simp only[put,sA,sB,sC]
   refine ba 9 (fun K hK=>?_);skip;skip;refine Rg (by rfl) _ _ _ (by rfl) B 3 i0 (.int .i64 0) 1 8 underlying43 hi dD cQ cJ (by rfl) (by decide) _ k (ints ms) (by rfl) pM.out.ok ⟨W3.heap.size,0,none⟩ 1 1 (#[.int .i64 r]).toList (by rfl) (by rfl) (World.news_of_block (cs:=#[.int .i64 r]) (t:=3) (fr:=(0,0)) (heap_alloc_new W3.drew _)) (by simp[Value.oneCell']) (by unfold maxLen;omega) (by omega) td.out.r.hB ?_;intro v6 w6 aq aj cj;obtain⟨a6,c6,rfl⟩:=bG aq;have jd:=MR td.out pM.out (r:=r) (vK':=.slice a6 (k+1) c6) aq aj cj;have mq:St w6 168 bm _:=td.out.r.sm.af pM.out.ok (by decide) aj;have t3:w6.cell? ⟨bm,258,none⟩=some (.slice aK k cK):=(by rw[mq.at_,getElem?_setIfInBounds_ne (by decide)];exact pM.out.cK);have f3:=mq.aZ 258;have HF:Hid (LR V B bs bm gI m M bM cs l vL k n ss ms Q' s mk (.returned (.int .i64 (k:Int))) (w6.setCell ⟨bm,258,none⟩ (.slice a6 (k+1) c6))):=(⟨r,_,_,rfl,HR.out,jd.1,jd.2⟩);refine hK.out _ _ trivial (fun hHeld=>?_);clear hK K aq aj cj jd mq
   try simp only[put,sA,sB,sC]
   (refine ag 10 ?_;refine ag 11 ?_;refine ag 12 ?_;try simp only[put,sA,sB,sC])
   refine ba 13 (fun K hK=>?_);skip;go_simp;refine hK.out _ _ trivial (fun hHeld=>?_);clear hK K
   try simp only[put,sA,sB,sC]
   refine wpAnyH_done (by kernel_rfl) ?_ _;clear hHeld;go_wp2;go_ret;exact HF.out
  exact AllReadyH.nil
 exact AllReadyH.nil
def kg(bm gI:Nat)(vL:Value):List Nat:=bm :: gI :: vL.ownBlock.toList
theorem gW.base(h:gW V B bs bm gI m cs P l vL wr):gW wr B (kg bm gI vL) bm gI m cs P l vL wr:=
 ⟨Kept.refl _ _ _,Below.refl _ _,h.sm,h.sz,h.cI,h.kK,h.ca,fun b e=>inl (by simp[kg,e]),⟨by simp[kg],by simp[kg]⟩,h.lo.1,h.lo.2.1,h.hB⟩
theorem gW.back{gm:Array Value}(h:gW V B bs bm gI m cs P l vL wr)(h':gW wr B (kg bm gI vL) bm gI m gm P' l' jf w3):gW V B bs bm gI m gm P' l' jf w3:=by
 have da:=h.below.size;refine⟨fun k o hk ho hn=>h'.kept k o (h.kept k o hk ho hn) ho (fun hm=>?_),h.below.trans h'.below,h'.sm,h'.sz,h'.cI,h'.kK,h'.ca,fun b e=>?_,h.jA,h.lo⟩
 ·simp only[kg,mem_cons,mem_toList] at hm;rcases hm with rfl|rfl|hm
  ·exact hn h.jA.1
  ·exact hn h.jA.2
  rcases h.loc k hm with h1|h1
  ·exact hn h1
  have:=(Array.getElem?_eq_some_iff.1 hk).1;omega
 rcases h'.loc b e with hm|hm
 ·simp only[kg,mem_cons,mem_toList] at hm;rcases hm with rfl|rfl|hm
  ·exact inl h.jA.1
  ·exact inl h.jA.2
  exact h.loc b hm
 exact inr (by omega)
theorem lH.over{Q:Value->Value->Prop}(h:gW V B bs bm gI m cs P l vL wr)(t:lH V B bs bM cs vL k q n ss ms Q vS vK wr)
  (h':gW wr B (kg bm gI vL) bm gI m cs P' l' jf w3):lH V B bs bM cs jf k q n ss ms Q vS vK w3:=by
 have hn:∀{t' n':Nat}{v:Value}{xs:List Value},wr.ownsRow B t' 1 v n' xs->t'≠168->t'≠5->(∀b,vL.ownBlock=some b->v.ownBlock≠some b)->∀g,v.ownBlock=some g->g∉kg bm gI vL:=by
  intro t' n' v xs ho h1 h2 h3 g hg hm;simp only[kg,mem_cons,mem_toList] at hm;rcases hm with rfl|rfl|hm
  ·exact dH ho h.sm h1 g hg rfl
  ·exact hJ ho h.kK h2 g hg rfl
  exact h3 g hm hg
 refine⟨t.cK,t.cS,t.cM,fD t.os h'.kept (by simp) (hn t.os (by decide) (by decide) (fun b e1 e2=>hJ h.ca t.os (by decide) b e1 e2)),fD t.ok h'.kept (by simp) (hn t.ok (by decide) (by decide) t.sep),t.map.kept h'.kept ?_,fun b e1 e2=>?_,t.lS,t.lK,t.lM⟩
 ·simp only[kg,mem_cons,mem_toList];rintro (e|e|e)
  ·exact Ae t.map h.sm e.symm
  ·exact wJ t.map h.kK gI rfl e.symm
  exact wJ t.map h.ca bM e rfl
 rcases h'.loc b e1 with hm|hm
 ·exact hn t.ok (by decide) (by decide) t.sep b e2 hm
 obtain⟨c,fz,hc⟩:=qa t.ok b e2;have:=(Array.getElem?_eq_some_iff.1 hc).1;omega
def jN(M:Nat)(f:Nat->Bool):ByteArray:=strOf (fS f M)
theorem Nf(M:Nat)(f g:Nat->Bool):jN M f=jN M g↔∀x,x<M->f x=g x:=by
 constructor
 ·intro h;exact (J5 f g M).1 (Pd (Fq _ M) (Fq _ M) (by rw[<-Ao,<-Ao];exact congrArg (fun s:ByteArray=>s.data.toList) h))
 intro h;unfold jN;rw[(J5 f g M).2 h]
def MQ(M:Nat)(D:List ((Nat->Bool) × Nat))(x y:Value):Prop:=∃p∈D,x=.string (jN M p.1)/\y=.int .i64 ((p.2:Nat):Int)
structure Inv (L:List En)(M:Nat)(mk:Nat->Int)(SS:List (Nat->Bool))(ms:List Int)(D:List ((Nat->Bool) × Nat)):Prop where
 own:∀j (h:j<SS.length),(SS[j],j)∈D
 N8:∀p∈D,∃h:p.2<SS.length,∀x,x<M->(SS[p.2] x=true↔FR L (fun y=>y<M/\p.1 y=true) x)
 len:ms.length=SS.length
 cq:∀j (h:j<SS.length) (h2:j<ms.length),bH mk (fun x=>x<M/\SS[j] x=true) ms[j]
theorem TJ(f:Nat->Bool)(M m:Nat)(hm:(M+7) / 8=m)(h:∀x,f x=true->x<M):gP f m=fS f M:=by
 unfold gP fS;rw[hm];refine List.map_congr_left fun j _=>MI fun k _=>?_
 by_cases e:8*j+k<M
 ·simp[eK,e]
 have:f (8*j+k)=false:=by
  cases hf:f (8*j+k) with
  | false=>rfl
  | true=>exact absurd (h _ hf) e
 simp[eK,e,this]
theorem gW.Fk(h:gW V B bs bm gI m cs P l vL wr)(k:Kept [] (kg bm gI vL) wr W):Kept [] bs V W:=fun k0 o hk ho hn=>k k0 o (h.kept k0 o hk ho hn) ho (fun hm=>by
 simp only[kg,mem_cons,mem_toList] at hm
 rcases hm with rfl|rfl|hm
 ·exact hn h.jA.1
 ·exact hn h.jA.2
 ·rcases h.loc k0 hm with h1|h1
  ·exact hn h1
  ·have:=(Array.getElem?_eq_some_iff.1 hk).1
   omega)
theorem FR.idem{L:List En}{A:Nat->Prop}(x:Nat):FR L (FR L A) x↔FR L A x:=by
 constructor
 ·intro k
  induction k with
  | base h=>exact h
  | step e _ h1 h2 h3 h4 ih=>exact .step e ih h1 h2 h3 h4
 exact .base
theorem aD.again{k t e:TypeId}{b:Nat}{Q:Value->Value->Prop}(h:aD w k b n Q)(K:Keyed prog k)(ht:prog.underlying t=some (.map k e))
  {key val:Value}{kl:Lit}(ee:keyOf prog k key=some kl) (hv:Q key val):∃w',(Instr.mapUpdate t (.map (some b)) key val).run prog w=.ok () w'/\aD w' k b n Q/\w.grownBy w' (some b):=by
 obtain⟨es,clock,hb,F,hs,hq,dX⟩:=h;obtain⟨F1,_,_⟩:=F.stay (R':=fp) (fun x hx z hz=>hz);rcases K.find w ee es.toList F.keys with ⟨h1,h2⟩|⟨j,e0,h1,h2,h3⟩
 ·obtain⟨e1,h4,h5⟩:=dX _ _ hv;exact absurd h5 (h2 e1 h4)
 have hj:es[j]?=some e0:=by simpa using h2
 have wH:∀e',es[j]?=some e'->({ e' with key:=key,val:=val }:MapEntry).key=e'.key:=fun e' rU=>by rw[hj] at rU;cases rU;exact h3.symm
 have mN:(es.modify j (fun e'=>{ e' with key:=key,val:=val })).toList=es.toList.set j { e0 with key:=key,val:=val }:=by rw[Array.toList_modify,modify_eq_set _ _ _ _ h2]
 have E9:∀x∈es.toList.set j { e0 with key:=key,val:=val },x={ e0 with key:=key,val:=val }\/x∈es.toList:=by
  intro x hx;rcases List.mem_or_eq_of_mem_set hx with h|h
  ·exact inr h
  exact inl h
 have DB:∀bn,WideElems.rd prog k fp ⟨key,val,bn⟩=some (kl,.held val):=fun bn=>by unfold WideElems.rd fp;rw[ee];rfl
 refine⟨setBlock w b (.map (es.modify j (fun e'=>{ e' with key:=key,val:=val })) clock),?_,⟨es.modify j (fun e'=>{ e' with key:=key,val:=val }),clock,heap_setBlock_same hb _,⟨by simpa using F.size,stamped_modify F.stamped _ _ (fun _ _=>rfl) (fun e' _ rU=>wH e' rU),?_⟩,by simpa using hs,fun x hx=>?_,fun x y hx=>?_⟩,⟨rfl,rfl,rfl,by simp[setBlock],fun i _ hi=>heap_setBlock_other hb _ (fun e=>hi (by rw[e]))⟩⟩
 ·simp[Instr.mapUpdate,run_underlying ht,MapKept.run_getObj_map hb,K.check w false ee,h1,hj,h3,K.stays w ee,MapKept.run_setObj_map _ hb,Result.andThen,setBlock]
 ·intro x hx;rw[mN] at hx;rcases E9 x hx with rfl|BC
  ·exact⟨_,DB _⟩
  exact F1.reads x BC
 ·rw[mN] at hx;rcases E9 x hx with rfl|BC
  ·exact hv
  exact hq x BC
 obtain⟨e1,h4,h5⟩:=dX x y hx;rw[mN];obtain⟨i,hi,ei⟩:=List.getElem_of_mem h4;by_cases NY:i=j
 ·refine⟨{ e0 with key:=key,val:=val },List.mem_set (by rw[<-NY];exact hi) _,?_⟩;subst NY;rw[List.getElem?_eq_getElem hi,ei] at h2;injection h2 with h2;rw[<-h5,h2];exact h3.symm
 exact⟨e1,by
  have:(es.toList.set j { e0 with key:=key,val:=val })[i]?=some e1:=by
   rw[List.getElem?_set_ne (fun e=>NY e.symm),List.getElem?_eq_getElem hi,ei]
  exact List.mem_of_getElem? this,h5⟩
def Iy(V:World)(B:Nat)(bs:List Nat)(bm gI m M bM:Nat)(cs:Array Value)(L:List En)(mk:Nat->Int)(SS:List (Nat->Bool))(st:List Nat)(n:Nat)(e:Ending)(w':World):Prop:=
 ∃(j:Nat) (jr:List (Nat->Bool)) (sG:List Int) (D':List ((Nat->Bool) × Nat)) (jf vS' vK':Value) (gm:Array Value) (l':List Nat) (n':Nat),e=.returned (.int .i64 (j:Int))/\iu V B bs bm gI m M gm l' jf w'/\
  lH V B bs bM gm jf jr.length jr.length n' (jr.map (jN M)) sG (MQ M D') vS' vK' w'/\Inv L M mk jr sG D'/\n'+2*SS.length<=n+2*jr.length/\(∀i,i≠258->i≠259->gm[i]?=cs[i]?)/\(∃h:j<jr.length,∀x,x<M->(jr[j] x=true↔FR L (fun y=>y∈st) x))/\
  (jr=SS\/∃f,jr=SS++[f]/\j=SS.length/\∀i (h:i<SS.length),∃x,x<M/\SS[i] x≠f x)
theorem X9(V:World)(B:Nat)(bs:List Nat)(bm gI m M bM bn gM cM gF cF:Nat)(aF:Nat->Option Addr)(cR:Nat->Nat)(L:List En)(HF:lx V B bn gF M cF aF cR L)(hE:∀e∈L,e.f<M/\e.t<M)(KD:L.length<=6400)(cs:Array Value)(mk:Nat->Int)(HV:kE V B bn gM M cM mk)(jd:∀i,i<M->-1<=mk i)(pJ:cs[0]?=some (.pointer (some ⟨bn,0,none⟩)))(hM:M<=100000)(hm:(M+7) / 8=m)
  (P:Nat->Bool) (l:List Nat) (vL vS vK:Value) (n:Nat) (SS:List (Nat->Bool)) (ms:List Int) (D:List ((Nat->Bool) × Nat)) (hk:SS.length<=100000) (hn:n<=100000) (sy:l.length<=100000)
  (a:Option Addr) (q c:Nat) (st:List Nat) (dC:st.length=q) (hq:q<=100000000000) (aw:∀x∈st,x<M) (hr:∀W,Kept [] bs V W->Bc W W.heap.size a st)
  (wr:World) (h:gW V B bs bm gI m cs P l vL wr) (t:lH V B bs bM cs vL SS.length SS.length n (SS.map (jN M)) ms (MQ M D) vS vK wr) (inv:Inv L M mk SS ms D):
  Calls prog 119 #[.pointer (some ⟨bm,0,none⟩),.slice a q c] wr (Iy V B bs bm gI m M bM cs L mk SS st n):=by
 have HH:=hid (Zz h (Zz t inv));have HN:=hid (Zz HF (Zz hE (Zz HV (Zz jd (Zz pJ hm)))));have HG:=hid (zgq wr B (kg bm gI vL) bm gI m M cs P l vL wr h.base hM hm (by omega) a q c st dC hq aw (fun W hW=>hr W (h.Fk hW)));clear h t inv HF hE HV jd pJ dC aw hr;go_enter func119,ntmps119;go_wp2_with fail;refine HG.out.mono ?_;rintro e w2 ⟨l2,qI,rfl,h2,iy⟩;obtain⟨f2,ng⟩:∃f2:Nat->Bool,(fun x=>decide (x∈l2))=f2:=⟨_,rfl⟩
 have Kr:=h2.aa (Below.refl w2.heap.size w2).drew;have Me:=lH.over HH.out.1 HH.out.2.1 Kr.r;have De:∀x,f2 x=true->x<M:=fun x hx=>h2.lt x (by rw[<-ng] at hx;simpa using hx)
 have hcv:(convert 76 9 (.slice (some ⟨gI,0,none⟩) m m)).run prog w2.drew=.ok (.string (jN M f2)) w2.drew:=by
  have:=MD (l:=gP f2 m) (by have:=Kr.r.kK;rw[ng] at this;exact this) (by rw[Kt]);rw[TJ f2 M m HN.out.2.2.2.2.2 De] at this;exact this
 have hkl:keyOf prog 9 (.string (jN M f2))=some _:=Go.WideMaps.keyOf_string_mk underlying9 (by unfold jN;rw[yC];simp[fS];unfold maxLen;omega);have UP:∀x,FR L (fun y=>y<M/\f2 y=true) x↔FR L (fun y=>y∈st) x:=fun x=>FR.congr (fun y=>by
  rw[<-iy,<-ng]
  exact⟨fun h=>by simpa using h.2,fun h=>⟨h2.lt y h,by simpa using h⟩⟩) x
 have c0:w2.cell? ⟨bm,260,none⟩=some (.map (some bM)):=(h2.r.other 260 (by decide)).trans Me.cM;have c1:w2.cell? ⟨bm,261,none⟩=some (.slice (some ⟨gI,0,none⟩) m m):=h2.r.cells.1;have H2:=hid (Zz Kr (Zz Me (Zz iy (Zz UP (Zz ng De)))));have vz:=Me.map.oh B2 underlying166 (J9 w2.drew) hkl;clear h2 iy HG Kr Me UP hkl De;rcases vz with ⟨bU,iQ⟩|⟨v,⟨p,hp,zW,rfl⟩,bU⟩
 ·have jL:=hid iQ;clear iQ;go_wp2_with fail
  go_region
  go_wp2_with fail;refine (zf9 wr B (kg bm gI vL) bm gI m M bn gF cF cs aF cR L (HN.out.1.below HH.out.1.below) HN.out.2.2.2.2.1 HN.out.2.1 hM HN.out.2.2.2.2.2 KD l2 qI w2.drew H2.out.1).mono ?_;rintro e w4 ⟨l4,Kx,rfl,h4,xW⟩;obtain⟨f4,J2⟩:∃f4:Nat->Bool,(fun x=>decide (x∈l4))=f4:=⟨_,rfl⟩
  have t4:=lH.over HH.out.1 HH.out.2.1 h4.r;have FU:∀x,f4 x=true->x<M:=fun x hx=>h4.lt x (by rw[<-J2] at hx;simpa using hx)
  have zk:∀x,f4 x=true↔x∈l4:=fun x=>by rw[<-J2];simp
  have Y7:(convert 76 9 (.slice (some ⟨gI,0,none⟩) m m)).run prog w4=.ok (.string (jN M f4)) w4:=by
   have:=MD (l:=gP f4 m) (by have:=h4.r.kK;rw[J2] at this;exact this) (by rw[Kt]);rw[TJ f4 M m HN.out.2.2.2.2.2 FU] at this;exact this
  have E6:keyOf prog 9 (.string (jN M f4))=some _:=Go.WideMaps.keyOf_string_mk underlying9 (by unfold jN;rw[yC];simp[fS];unfold maxLen;omega);have RE:(jN M f4).size<=100000:=by unfold jN;rw[yC];simp[fS];omega
  have gq:∀x,x∈l4↔FR L (fun y=>y∈st) x:=fun x=>by rw[xW x];exact FR.congr (fun y=>H2.out.2.2.1 y) x
  have IS:∀x,FR L (fun y=>y<M/\f4 y=true) x↔FR L (fun y=>y∈st) x:=fun x=>by
   rw[show FR L (fun y=>y<M/\f4 y=true) x↔FR L (FR L (fun y=>y∈st)) x from FR.congr (fun y=>⟨fun h=>(gq y).1 ((zk y).1 h.2),fun h=>⟨h4.lt y ((gq y).2 h),(zk y).2 ((gq y).2 h)⟩⟩) x];exact FR.idem x
  have d0:w4.cell? ⟨bm,260,none⟩=some (.map (some bM)):=(h4.r.other 260 (by decide)).trans t4.cM;have d1:w4.cell? ⟨bm,261,none⟩=some (.slice (some ⟨gI,0,none⟩) m m):=h4.r.cells.1;have TD:iu V B bs bm gI m M cs l4 Kx w4:=⟨HH.out.1.back h4.r,h4.nd,h4.lt⟩
  have H4:=hid (Zz TD (Zz t4 (Zz gq (Zz IS zk))));have vz:=t4.map.oh B2 underlying166 (J9 w4) E6;clear h4 t4 FU zk gq IS TD xW J2 c0 c1 hcv bU;rcases vz with ⟨bU,iQ⟩|⟨v,⟨p,hp,zW,rfl⟩,bU⟩
  ·obtain⟨k,xM⟩:∃k,SS.length=k:=(⟨_,rfl⟩);have HK:=hid xM;have eD:k<=100000:=(by omega);have yi:=hid (zmo V B bs bm gI m M bM bn gM cM cs mk HN.out.2.2.1 HN.out.2.2.2.1 HN.out.2.2.2.2.1 hM l4 Kx vS vK SS.length n (SS.map (jN M)) ms (MQ M D) (MQ M (D++[(f4,SS.length)])) (jN M f4) RE (by omega) (by omega) iQ
    (fun x y ⟨p,hp,h1,h2⟩=>⟨p,List.mem_append.2 (inl hp),h1,h2⟩) ⟨(f4,SS.length),by simp,rfl,rfl⟩
    (fun x y ⟨p,hp,h1,h2⟩ hne=>by
     rcases List.mem_append.1 hp with hp|hp
     ·exact⟨y,p,hp,h1,h2⟩
     ·rw[List.mem_singleton.1 hp] at h1
      exact absurd h1 hne) w4 H4.out.1 H4.out.2.1)
   have Nv:=hid iQ;rw[xM] at yi;clear iQ xM;go_wp2_with fail;refine yi.out.mono ?_;rintro e w5 ⟨r,vS',vK',rfl,hr,Ow,I0⟩;have C8:keyOf prog 9 (.string (jN M f2))=some _:=Go.WideMaps.keyOf_string_mk underlying9 (by unfold jN;rw[yC];simp[fS];unfold maxLen;omega);obtain⟨w6,yd,xe,ga⟩:∃w6,(Instr.mapUpdate 166 (.map (some bM)) (.string (jN M f2)) (.int .i64 (k:Int))).run prog w5=.ok () w6/\aD w6 9 bM (n+2) (MQ M (D++[(f4,k)]++[(f2,k)]))/\w5.grownBy w6 (some bM):=by
    by_cases e:jN M f2=jN M f4
    ·obtain⟨w6,h1,h2,h3⟩:=I0.map.again B2 underlying166 C8 (val:=.int .i64 (k:Int)) ⟨(f4,k),by simp,by rw[e],rfl⟩;refine⟨w6,h1,?_,h3⟩;have e2:MQ M (D++[(f4,k)]++[(f2,k)])=MQ M (D++[(f4,k)]):=by
      funext x y;refine propext ⟨fun ⟨p,hp,h1,h2⟩=>?_,fun ⟨p,hp,h1,h2⟩=>⟨p,List.mem_append.2 (inl hp),h1,h2⟩⟩;rcases List.mem_append.1 hp with hp|hp
      ·exact⟨p,hp,h1,h2⟩
      rw[List.mem_singleton.1 hp] at h1 h2;exact⟨(f4,k),by simp,by rw[h1,<-e],h2⟩
     rw[e2];exact h2.more (by omega)
    exact I0.map.update B2 underlying166 (by unfold maxLen;omega) C8 (Q':=MQ M (D++[(f4,k)]++[(f2,k)]))
     (fun y ⟨p,hp,h1,h2⟩=>by
      rcases List.mem_append.1 hp with hp|hp
      ·exact jL.out y ⟨p,hp,h1,h2⟩
      ·rw[List.mem_singleton.1 hp] at h1
       injection h1 with h1
       exact e h1)
     (fun x y ⟨p,hp,h1,h2⟩=>⟨p,List.mem_append.2 (inl hp),h1,h2⟩) ⟨(f2,k),by simp,rfl,rfl⟩
     (fun x y ⟨p,hp,h1,h2⟩ hne=>by
      rcases List.mem_append.1 hp with hp|hp
      ·exact⟨y,p,hp,h1,h2⟩
      ·rw[List.mem_singleton.1 hp] at h1
       exact absurd h1 hne)
   have BP:=Vb Ow I0 xe ga;have e0:w5.cell? ⟨bm,260,none⟩=some (.map (some bM)):=(Ow.r.other 260 (by decide)).trans I0.cM;have HF:Hid (Iy V B bs bm gI m M bM cs L mk SS st n (.returned (.int .i64 (k:Int))) w6):=by
    have xM:=HK.out;subst xM;have inv:=HH.out.2.2;refine⟨SS.length,SS++[f4],ms++[r],D++[(f4,SS.length)]++[(f2,SS.length)],Kx,vS',vK',_,l4,n+2,rfl,BP.1,?_,⟨fun j hj=>?_,fun p hp=>?_,by simp[inv.len],fun j hj hj2=>?_⟩,(by simp;omega),fun i h1 h2=>?_,⟨by simp,fun x hx=>?_⟩,inr ⟨f4,rfl,rfl,fun i hi=>?_⟩⟩
    ·have:=BP.2;simpa using this
    ·by_cases e:j<SS.length
     ·rw[getElem_append_left e];exact List.mem_append.2 (inl (List.mem_append.2 (inl (inv.own j e))))
     have:j=SS.length:=(by simp at hj;omega);subst this;simp
    ·rcases List.mem_append.1 hp with hp|hp
     ·rcases List.mem_append.1 hp with hp|hp
      ·obtain⟨h1,h2⟩:=inv.N8 p hp;refine⟨by simp;omega,fun x hx=>?_⟩;rw[getElem_append_left h1];exact h2 x hx
      rw[List.mem_singleton.1 hp];refine⟨by simp,fun x hx=>?_⟩;simp only[List.getElem_concat_length];rw[H4.out.2.2.2.2 x,H4.out.2.2.1 x,H4.out.2.2.2.1 x]
     rw[List.mem_singleton.1 hp];refine⟨by simp,fun x hx=>?_⟩;simp only[List.getElem_concat_length];rw[H4.out.2.2.2.2 x,H4.out.2.2.1 x,H2.out.2.2.2.1 x]
    ·by_cases e:j<SS.length
     ·have e2:j<ms.length:=(by rw[inv.len];exact e);have:=inv.cq j e e2;rw[getElem_append_left e2];simpa [getElem_append_left e] using this
     have:j=SS.length:=(by simp at hj;omega);subst this;have e3:(ms++[r])[SS.length]=r:=by
      rw[List.getElem_append_right (by rw[inv.len];exact le_refl _)];simp[inv.len]
     rw[e3];refine hr.congr (fun x=>?_);simp only[List.getElem_concat_length];rw[H4.out.2.2.2.2 x];exact⟨fun h=>⟨H4.out.1.lt x h,h⟩,fun h=>h.2⟩
    ·rw[getElem?_setIfInBounds_ne (fun e=>h1 e.symm),getElem?_setIfInBounds_ne (fun e=>h2 e.symm)]
    ·simp only[List.getElem_concat_length];rw[H4.out.2.2.2.2 x,H4.out.2.2.1 x]
    refine(Classical.byContradiction fun dX=>?_);have h7:∀x,x<M->SS[i] x=f4 x:=(fun x hx=>Classical.byContradiction fun h=>dX ⟨x,hx,h⟩);exact Nv.out (.int .i64 (i:Int)) ⟨(SS[i],i),inv.own i hi,by rw[(Nf M _ _).2 h7],rfl⟩
   clear hr Ow I0 xe ga BP C8 E6;go_wp2;go_ret;exact HF.out
  have uo:=HH.out.2.2.N8 p hp;have HF:Hid (Iy V B bs bm gI m M bM cs L mk SS st n (.returned (.int .i64 (p.2:Int))) w4):=by
   refine⟨p.2,SS,ms,D,Kx,vS,vK,cs,l4,n,rfl,H4.out.1,H4.out.2.1,HH.out.2.2,by omega,fun _ _ _=>rfl,?_,inl rfl⟩;obtain⟨h1,h3⟩:=uo;refine⟨h1,fun x hx=>?_⟩;rw[h3 x hx,<-H4.out.2.2.2.1 x];injection zW with zW;have h5:=(Nf M _ _).1 zW;exact FR.congr (fun y=>⟨fun h=>⟨h.1,by rw[h5 y h.1];exact h.2⟩,fun h=>⟨h.1,by rw[<-h5 y h.1];exact h.2⟩⟩) x
  clear hp zW uo;go_wp2;go_ret;exact HF.out
 have uo:=HH.out.2.2.N8 p hp;have HF:Hid (Iy V B bs bm gI m M bM cs L mk SS st n (.returned (.int .i64 (p.2:Int))) w2.drew):=by
  refine⟨p.2,SS,ms,D,qI,vS,vK,cs,l2,n,rfl,⟨HH.out.1.back H2.out.1.r,H2.out.1.nd,H2.out.1.lt⟩,H2.out.2.1,HH.out.2.2,by omega,fun _ _ _=>rfl,?_,inl rfl⟩;obtain⟨h1,h3⟩:=uo;refine⟨h1,fun x hx=>?_⟩;rw[h3 x hx,<-H2.out.2.2.2.1 x];injection zW with zW;have h5:=(Nf M _ _).1 zW;exact FR.congr (fun y=>⟨fun h=>⟨h.1,by rw[h5 y h.1];exact h.2⟩,fun h=>⟨h.1,by rw[<-h5 y h.1];exact h.2⟩⟩) x
 clear hp zW uo;go_wp2_with fail
 go_region
 go_wp2;go_ret;exact HF.out
end Go.Proofs.YtiijebameffenaaGreat
