import Derived.Test.YtbacgnhkapancaaGreatZNRClose
import Derived.Test.YtbacgnhkapancaaGreatZTk
set_option linter.all false
set_option maxHeartbeats 2000000
set_option maxRecDepth 100000
open Go.Lib (hid)
namespace Go.Proofs.YtbacgnhkapancaaGreat
open Go.RowKit Go.Proofs.Tryz
open Option (mem_toList)
open Value (oneCell')
open Act (put)
open Region (wanted)
open _root_.Array (getElem?_setIfInBounds_ne)
open Sem (run_bind run_pure)
open List (getElem_append_left getElem_map length_append length_map map_cons map_nil mem_cons)
open Or (inl inr)
open World (news_of_block ownsRow_nil)
open Nat (le_refl zero_le)
variable {L:List En}{M bM bm gI:Nat}{P':Nat->Bool}{V w1 w3 w5 wr:World}{jd vE vK vL vS:Value}{l' ls:List Nat}{ops:Array Oper}{ss:List ByteArray}
def fU(s:ByteArray)(k:Nat):Nat:=(s.get! k).toNat
theorem xS(s:ByteArray)(k:Nat):fU s k<256:=UInt8.toNat_lt _
theorem LB(s:ByteArray)(k:Nat)(h:k<s.size):(s[k]'h).toNat=fU s k:=by
 unfold fU;rw[show s.get! k=s[k]'h from getElem!_pos s.data k h]
open Go.Maps Go.WideElems Go.ChangeMaps Go.MapKept
def Da(b t:Nat):Prop:=b≠0->t<8/\b.testBit t=true/\(b &&& (b-1))<b/\∀j,j<8->(b &&& (b-1)).testBit j=(b.testBit j && decide (j≠t))
instance (b t:Nat):Decidable (Da b t):=by unfold Da;infer_instance
theorem zn1(x:UInt8):wrap64 (x.toNat:Int)=(x.toNat:Int):=by
 have:x.toNat<256:=UInt8.toNat_lt x;exact IntWalk.wrap64_in _ ⟨by omega,by omega⟩
theorem zpW(b:Nat)(hb:b<256)(w:World):Calls prog 147 #[.int .u8 (b:Int)] w fun e w'=>∃t:Nat,e=.returned (.int .i64 (t:Int))/\Da b t/\w'=w:=by
 go_enter func147,ntmps147;go_wp2;go_ret;refine⟨_,congrArg (fun z=>Ending.returned (Value.int IntKind.i64 z)) (zn1 _),?_,rfl⟩;clear w;rename_i h;revert h;revert hb;revert b;decide +kernel
def zpX(n:Nat)(g:Nat->Bool)(w:World)(e:Ending)(w':World):Prop:=
 ∃(L:List Nat) (a:Option Addr) (c:Nat),e=.returned (.slice a L.length c)/\w'.ownsRow w.heap.size 3 1 (.slice a L.length c) L.length (cO L)/\L.Nodup/\(∀x,x∈L↔x<8*n/\g x=true)/\Below w.heap.size w w'
theorem zh7(s:ByteArray)(n:Nat)(hs:s.size=n)(hn:n<=100000)(g:Nat->Bool)(hg:∀i,i<n->fU s i=kg g i)(w:World):Calls prog 120 #[.string s] w (zpX n g w):=by
 have H:=hid (Zz hs hg);have zR:=hs;obtain⟨i0,hi,du,cH,ct⟩:=info_parts az;clear hg hs;go_enter func120,ntmps120;go_wp2_with fail;go_loopw [3,4,5,8] (fun v3 _ _ v wr=>∃(k:Nat) (L:List Nat) (a:Option Addr) (c:Nat),v=.int .i64 k/\k<=n/\v3=.slice a L.length c/\Hid (wr.ownsRow w.heap.size 3 1 (.slice a L.length c) L.length (cO L)/\L.Nodup/\(∀x,x∈L↔x<8*k/\g x=true)/\Below w.heap.size w wr)) (fun _ _ _ v _=>n-(intOf v).toNat)
 ·exact⟨0,[],none,0,rfl,zero_le _,rfl,ownsRow_nil _ _ _ _,List.nodup_nil,fun x=>by simp,Below.refl _ _⟩
 obtain⟨k,L,a,c,rfl,hk,rfl,HA⟩:=hrel;by_cases an:k<n
 ·have qn:k<s.size:=by rw[zR];exact an
  obtain⟨bt,qc⟩:∃bt,(s[k]'qn).toNat=bt:=⟨_,rfl⟩
  have tq:=LB s k qn;rw[qc,H.out.2 k an] at tq;have ky:bt<256:=by rw[tq];exact Ll g k
  have HB:=hid tq;have i1:(k:Int)<n:=by omega
  clear tq;go_wp2_with fail;go_loopw [3,5] (fun v3 v5 wq=>∃(b:Nat) (L2:List Nat) (a2:Option Addr) (c2:Nat),v5=.int .u8 b/\b<256/\v3=.slice a2 L2.length c2/\L2.length<=8*k+8/\Hid (wq.ownsRow w.heap.size 3 1 (.slice a2 L2.length c2) L2.length (cO L2)/\L2.Nodup/\(∀x,x∈L2↔(x<8*k/\g x=true)\/∃j,j<8/\x=8*k+j/\g x=true/\b.testBit j=false)/\Below w.heap.size w wq)/\Hid (∀j,j<8->b.testBit j=true->g (8*k+j)=true)) (fun _ v _=>(intOf v).toNat)
  ·refine⟨bt,L,a,c,rfl,ky,rfl,?_,⟨HA.out.1,HA.out.2.1,fun x=>?_,HA.out.2.2.2⟩,fun j hj h=>?_⟩
   ·have:=p8 HA.out.2.1 (m:=8*k) (fun x hx=>((HA.out.2.2.1 x).1 hx).1);omega
   ·rw[HA.out.2.2.1 x];constructor
    ·exact inl
    rintro (h|⟨j,hj,rfl,h1,h2⟩)
    ·exact h
    rw[HB.out,zU] at h2;simp[hj,h1] at h2
   rw[HB.out,zU] at h;simpa [hj] using h
  obtain⟨b,L2,a2,c2,rfl,hb,rfl,hlen,HC,HD⟩:=hrel;by_cases aD:b=0
  ·subst aD;have HZ:Hid (wr.ownsRow w.heap.size 3 1 (.slice a2 L2.length c2) L2.length (cO L2)/\L2.Nodup/\(∀x,x∈L2↔x<8*(k+1)/\g x=true)/\Below w.heap.size w wr):=by
    refine⟨HC.out.1,HC.out.2.1,fun x=>?_,HC.out.2.2.2⟩;rw[HC.out.2.2.1 x];constructor
    ·rintro (⟨h1,h2⟩|⟨j,hj,rfl,h1,h2⟩)
     ·exact⟨by omega,h2⟩
     exact⟨by omega,h1⟩
    rintro⟨h1,h2⟩;by_cases h3:x<8*k
    ·exact inl ⟨h3,h2⟩
    exact inr ⟨x-8*k,by omega,by omega,h2,by simp⟩
   clear HA HC HD qc;go_wp2;go_roundw
   ·exact⟨k+1,L2,a2,c2,by go_num,by omega,rfl,HZ⟩
   simp[intOf];omega
  have EZ:=hid HC.out.1;have hO:=HC.out.1;have hB:=HC.out.2.2.2;have J9:=hB.size;obtain⟨q,hq⟩:∃q,L2.length=q:=⟨_,rfl⟩
  rw[hq] at hlen hO;have HQ:=hid hq;have fp:¬((b:Int)=0):=by omega
  clear HA qc;go_wp2_with fail;refine (zpW b hb _).mono ?_;rintro e w3 ⟨t,rfl,htz,rfl⟩;obtain⟨Rn,Uj,ju,pe⟩:=htz aD;rw[hq];go_wp2_with (at_builtin;refine wpList_append_own _ rfl _ _ 30 rfl w.heap.size 3 i0 (.int .i64 0) 1 8 underlying30 hi du cH ct rfl (by decide) _ _ _ rfl (hO.alloc _) ⟨w3.heap.size,0,none⟩ 1 1 [.int .i64 (8*(k:Int)+(t:Int))] rfl rfl (cell_one_new _ _ _) ?d2 ?d3 ?d4 ?d5 ?_)
  case d2=>intro u hu;simp at hu;subst hu;rfl
  case d3=>unfold maxLen;omega
  case d4=>omega
  case d5=>simp;omega
  intro v' w5 ah ag _;obtain⟨a5,c5,rfl⟩:=bJ ah;have ec:=fC (hB.trans ((al w3 (.cells #[.int .i64 (8*(k:Int)+(t:Int))] 3)).mono J9)) (hO.alloc _) (by simp;omega) ag;have kh:8*k+t∉L2:=by
   rw[HC.out.2.2.1];rintro (⟨h1,h2⟩|⟨j,hj,h1,h2,h3⟩)
   ·omega
   rw[show j=t by omega,Uj] at h3;cases h3
  obtain⟨b2,cr⟩:∃b2,b &&& (b-1)=b2:=⟨_,rfl⟩
  rw[cr] at ju pe;have hand:bits .and .u8 (b:Int) ((b:Int)-1)=(b2:Int):=by
   have:=u8_and_nat b (b-1) hb (by omega);rw[cr] at this;rw[<-this];congr 1;omega
  have HZ:Hid (w5.ownsRow w.heap.size 3 1 (.slice a5 (L2++[8*k+t]).length c5) (L2++[8*k+t]).length (cO (L2++[8*k+t]))/\(L2++[8*k+t]).Nodup/\(∀x,x∈L2++[8*k+t]↔(x<8*k/\g x=true)\/∃j,j<8/\x=8*k+j/\g x=true/\b2.testBit j=false)/\Below w.heap.size w w5):=by
   refine⟨?_,?_,fun x=>?_,ec⟩
   ·rw[wC,length_append,hq];simpa using ah
   ·refine List.nodup_append.2 ⟨HC.out.2.1,by simp,fun a ha b hb e=>?_⟩;rw[List.mem_singleton.1 hb] at e;exact kh (e ▸ ha)
   rw[List.mem_append,HC.out.2.2.1 x,List.mem_singleton];constructor
   ·rintro ((h|⟨j,hj,h1,h2,h3⟩)|h)
    ·exact inl h
    ·exact inr ⟨j,hj,h1,h2,by rw[pe j hj,h3];rfl⟩
    exact inr ⟨t,Rn,h,by rw[h];exact HD.out t Rn Uj,by rw[pe t Rn];simp⟩
   rintro (h|⟨j,hj,h1,h2,h3⟩)
   ·exact inl (inl h)
   by_cases e:j=t
   ·exact inr (by rw[h1,e])
   rw[pe j hj] at h3;exact inl (inr ⟨j,hj,h1,h2,by simpa [e] using h3⟩)
  have we:Hid (∀j,j<8->b2.testBit j=true->g (8*k+j)=true):=fun j hj h=>by
   rw[pe j hj] at h;simp at h;exact HD.out j hj h.1
  have xX:(L2++[8*k+t]).length<=8*k+8:=p8 HZ.out.2.1 (fun x hx=>by
   rcases (HZ.out.2.2.1 x).1 hx with h|⟨j,hj,h,_⟩ <;> omega)
  have ve:q+1<=8*k+8:=by rw[length_append,hq] at xX;simpa using xX
  have uH:Hid ((L2++[8*k+t]).length=q+1):=by show _=_;rw[length_append,hq];rfl
  have NS:b2<256:=by omega
  clear ah ag ec kh cr pe hO hB xX hq;go_wp2;go_roundw
  ·exact⟨b2,L2++[8*k+t],a5,c5,rfl,NS,by rw[uH.out],by rw[uH.out];exact ve,HZ,we⟩
  simp[intOf];omega
 obtain rfl:k=n:=by omega
 go_wp2;go_ret;exact⟨L,a,c,rfl,HA.out⟩
theorem Xi(v:Nat->Nat)(n c g:Nat)(hn:0<n)(cQ:n<=1000)(hv:∀j,j<n->v j<256)(w:World)(h:∀j,j<n->w.cell? ⟨g,j,none⟩=some (.int .u8 ((v j:Nat):Int))):
  Calls prog 139 #[.slice (some ⟨g,0,none⟩) n c] w fun e w'=>∃x:Nat,e=.returned (.int .u8 (x:Int))/\(∀j,j<n->v j<=x)/\(∃j,j<n/\v j=x)/\w'=w:=by
 have H:=hid (Zz hv h);have c0:=h 0 hn;have hz:¬((n:Int)<1):=by omega
 clear hv h;go_enter func139,ntmps139;go_wp2_with fail;go_loopw [3,4] (fun v3 i wr=>∃(k x:Nat),i=.int .i64 k/\1<=k/\k<=n/\v3=.int .u8 (x:Int)/\Hid ((∀j,j<k->v j<=x)/\∃j,j<k/\v j=x)/\wr=w) (fun _ i _=>n-(intOf i).toNat)
 ·exact⟨1,v 0,rfl,le_refl _,hn,rfl,⟨fun j hj=>by rw[show j=0 by omega];exact le_refl _,0,by omega,rfl⟩,rfl⟩
 obtain⟨k,x,rfl,jU,hk,rfl,HX,rfl⟩:=hrel;by_cases an:k<n
 ·have ck:=H.out.2 k an;have hvk:=H.out.1 k an;have HZ:Hid (∀y,(y=x/\v k<=x)\/(y=v k/\x<=v k)->(∀j,j<k+1->v j<=y)/\∃j,j<k+1/\v j=y):=fun y hy=>by
   obtain⟨h1,j0,h2,h3⟩:=HX.out;rcases hy with ⟨rfl,hy⟩|⟨rfl,hy⟩
   ·exact⟨fun j hj=>by by_cases e:j=k;rw[e];exact hy;exact h1 j (by omega),j0,by omega,h3⟩
   exact⟨fun j hj=>by by_cases e:j=k;rw[e];exact le_refl _;exact Nat.le_trans (h1 j (by omega)) hy,k,by omega,rfl⟩
  generalize v k=y at ck hvk HZ;have i1:(k:Int)<n:=by omega
  rcases Nat.le_total y x with Q5|Q5
  ·have we:=hid (HZ.out x (inl ⟨rfl,Q5⟩));have Pe:max (x:Int) (y:Int)=x:=(by omega);have Sa:max x y=x:=(by omega);go_wp2;go_roundw
   ·exact⟨k+1,x,by go_num,by omega,by omega,by first|rfl|simp[Pe],we,by first|trivial|rfl⟩
   simp[intOf];omega
  have we:=hid (HZ.out y (inr ⟨rfl,Q5⟩));have Pe:max (x:Int) (y:Int)=y:=by omega
  have Sa:max x y=y:=by omega
  go_wp2;go_roundw
  ·exact⟨k+1,y,by go_num,by omega,by omega,by first|rfl|simp[Pe],we,by first|trivial|rfl⟩
  simp[intOf];omega
 obtain rfl:k=n:=by omega
 go_wp2;go_ret;exact⟨x,rfl,HX.out.1,HX.out.2,rfl⟩
theorem zl8(K:Nat->Lit)(cs:Array Value)(hs:cs.size=256)(hc:∀j,j<256->cs[j]?=some (.int .u8 ((cls K j:Nat):Int)))(w:World):
  Calls prog 104 #[.agg cs] w fun e w'=>e=.returned (.int .i64 ((dz K 256:Nat):Int))/\Below w.heap.size w w':=by
 have fW:∀j,j<256->cls K j<256:=fun j hj=>by have:=OR K j;omega
 have hB:=al w (.cells cs 36);have hS:=St.new w 36 cs;have hM:=hid (Xi (cls K) 256 256 w.heap.size (by omega) (by omega) fW (w.alloc (.cells cs 36)) (fun j hj=>by rw[hS.at_,hc j hj]));have HB:=hid hB;have HT:Hid (∀x,(∀j,j<256->cls K j<=x)->(∃j,j<256/\cls K j=x)->x+1=dz K 256/\x<256):=fun x h1 h2=>by
  obtain⟨b,hb,e⟩:=zoV K 256 (by omega);obtain⟨j,hj,rfl⟩:=h2;have:=Fc K j 256 hj;have:=h1 b hb;have:=fW j hj;omega
 clear fW hB hS hc;go_enter func104,ntmps104;go_wp2_with fail;refine hM.out.mono ?_;rintro e w2 ⟨x,rfl,h1,h2,rfl⟩;obtain⟨hx,ld⟩:=HT.out x h1 h2;have HX:=hid hx;clear h1 h2 hx;go_wp2;go_ret;exact⟨by rw[<-HX.out];first|rfl|(simp;done),HB.out⟩
theorem Gh{P:Program}(w:World)(ad:Addr)(ty:TypeId)(cs:Array Value)(d:TypeDesc)(hc:∀j v,cs.toList[j]?=some v->w.cell? (ad.add j)=some v)
  (hu:P.underlying ty=some d) (hd:(match d with|.struct _|.array _ _=>true|_=>false)=true) (hi:(P.info? ty).map (·.size)=some cs.size):
  (loadVar ty ad).run P w=.ok (.agg cs) w:=by
 have hl:(loadCells ad cs.toList.length).run P w=.ok cs.toList.toArray w:=run_loadCells_list (P:=P) w ad cs.toList hc;cases hq:P.info? ty with
 | none=>simp[hq] at hi
 | some i=>
  have hs:i.size=cs.size:=by simpa [hq] using hi
  have Dy:(isAgg ty).run P w=.ok true w:=by
   unfold isAgg;rw[run_bind,run_underlying hu w];cases d <;> simp_all
  simp only[Array.length_toList,Array.toArray_toList] at hl;simp[loadVar,run_bind,Dy,sizeOf,typeInfo,hq,hs,hl]
theorem pM{P:Program}{rest:List Oper}{o:Oper}{a:Act}{w:World}{Q:Exit->Act->World->Prop}(oG:o.guard=none)(ty:TypeId)(x:Operand)(ho:o.op=.load ty x)
  (ad:Addr) (hx:a.eval x=.pointer (some ad)) (cs:Array Value) (d:TypeDesc) (hc:∀j v,cs.toList[j]?=some v->w.cell? (ad.add j)=some v)
  (hu:P.underlying ty=some d) (hd:(match d with|.struct _|.array _ _=>true|_=>false)=true) (hi:(P.info? ty).map (·.size)=some cs.size)
  (h:wpList P ops Q rest (a.put o.dst (.agg cs)) w):wpList P ops Q (o :: rest) a w:=
 wpList_plain oG fun _ hK=>by
  unfold Oper.wp execOp
  simp only[ho,hx,Instr.loadAt,Instr.sureAddr,run_bind,run_pure,Result.andThen_ok,Gh w ad ty cs d hc hu hd hi]
  exact hK _ _ h
noncomputable def rl (K:Nat->Lit):Nat->List Nat
 | 0=>[]
 | k+1=>if cls K k=(rl K k).length then rl K k++[k] else rl K k
theorem zm(K:Nat->Lit)(k:Nat):(rl K k).length=dz K k:=by
 induction k with
 | zero=>rfl
 | succ k ih=>
  rw[rl,dz,ih];by_cases e:fst K k=k
  ·have:cls K k=dz K k:=(by unfold cls;rw[e]);rw[if_pos this,if_pos e];simp[ih]
  have h1:=(yr K k).1;have h2:cls K k+1<=dz K k:=by
   have h3:fst K k<k:=(by omega);have:=Fc K (fst K k) k h3;unfold cls at this⊢;rwa [Ns] at this
  rw[if_neg (by omega),if_neg e,ih];omega
theorem Ws(K:Nat->Lit)(k:Nat):∀c (h:c<(rl K k).length),cls K (rl K k)[c]=c/\(rl K k)[c]<k:=by
 induction k with
 | zero=>intro c h;simp[rl] at h
 | succ k ih=>
  intro c h;by_cases e:cls K k=(rl K k).length
  ·have er:rl K (k+1)=rl K k++[k]:=(by rw[rl,if_pos e]);simp only[er] at h⊢;by_cases hc:c<(rl K k).length
   ·rw[getElem_append_left hc];have:=ih c hc;omega
   rw[length_append] at h;have:c=(rl K k).length:=(by simp at h;omega);subst this;rw[List.getElem_append_right (le_refl _)];simp[e]
  have er:rl K (k+1)=rl K k:=by rw[rl,if_neg e]
  simp only[er] at h⊢;have:=ih c h;omega
structure GD (w:World)(B bn:Nat)(K:Nat->Lit)(cs:Array Value):Prop where
 ga:bn<B
 sz:cs.size=256
 val:∀j,j<256->cs[j]?=some (.int .u8 ((cls K j:Nat):Int))
 at_:∀j v,cs.toList[j]?=some v->w.cell? ((⟨bn,0,none⟩:Addr).add j)=some v
theorem KR{P:Program}(t e:TypeId)(n:Nat)(cs:Array Value)(i:Nat)(v:Value)(h:P.underlying t=some (.array n e))(hi:i<n)(hs:(P.info? e).map (·.size)=some 1)(hd:∃d,P.underlying e=some d/\(match d with|.struct _|.array _ _=>true|_=>false)=false)(hv:cs[i]?=some v)(w:World):
  (Instr.index t (.agg cs) (.int .i64 (i:Int))).run P w=.ok v w:=by
 obtain⟨d,OW,hd2⟩:=hd;cases hq:P.info? e with
 | none=>simp[hq] at hs
 | some inf=>
  have kI:inf.size=1:=by simpa [hq] using hs
  have Dy:(isAgg e).run P w=.ok false w:=by
   unfold isAgg;rw[run_bind,run_underlying OW w];cases d <;> simp_all
  have h1:(0:Int)<=i/\(i:Int)<n:=by omega
  simp[Instr.index,asIntOf,run_underlying h,h1,sizeOf,typeInfo,hq,kI,part,Dy,hv];intro hni;omega
def VC(K:Nat->Lit)(w:World)(e:Ending)(w':World):Prop:=
 ∃(a:Option Addr) (c:Nat),e=.returned (.slice a (dz K 256) c)/\w'.ownsRow w.heap.size 5 1 (.slice a (dz K 256) c) (dz K 256) (lI (rl K 256))/\Below w.heap.size w w'
theorem zeG(K:Nat->Lit)(B bn:Nat)(cs:Array Value)(w:World)(h:GD w B bn K cs):Calls prog 142 #[.pointer (some ⟨bn,0,none⟩)] w (VC K w):=by
 have H:=hid h;have dL:(prog.info? 36).map (·.size)=some cs.size:=by rw[h.sz];kernel_rfl
 obtain⟨i0,hi,du,cH,ct⟩:=info_parts kZ;clear h;go_enter func142,ntmps142;go_wp2_with (refine pM rfl 36 _ rfl ⟨bn,0,none⟩ rfl cs (.array 256 5) H.out.at_ underlying36 rfl dL ?_);go_loopw [3,4,5,10] (fun v3 _ _ v wr=>∃(k q:Nat) (a:Option Addr) (c:Nat),v=.int .i64 k/\k<=256/\q<=256/\v3=.slice a q c/\Hid ((rl K k).length=q/\wr.ownsRow w.heap.size 5 1 (.slice a q c) q (lI (rl K k))/\Below w.heap.size w wr)) (fun _ _ _ v _=>256-(intOf v).toNat)
 ·exact⟨0,0,none,0,rfl,zero_le _,zero_le _,rfl,rfl,ownsRow_nil _ _ _ _,Below.refl _ _⟩
 obtain⟨k,q,a,c,rfl,hk,hq,rfl,HA⟩:=hrel;by_cases an:k<256
 ·have hv:=H.out.val k an;have cU:=H.out.sz;have Az:(k:Int)<256:=by omega
  have Ac:=KR 36 5 256 cs k _ underlying36 an (by kernel_rfl) ⟨_,underlying5,rfl⟩ hv wr;have fW:cls K k<=k:=OR K k;have hle:q<=k:=by rw[<-HA.out.1,zm];exact KS K k
  by_cases hc:cls K k=q
  ·have HZ:Hid (rl K (k+1)=rl K k++[k]/\(rl K (k+1)).length=q+1):=by
    have e:rl K (k+1)=rl K k++[k]:=(by rw[rl,if_pos (by rw[HA.out.1];exact hc)]);exact⟨e,by rw[e,length_append,HA.out.1];rfl⟩
   generalize cls K k=x at hv fW hc Ac;subst hc;have hO:=HA.out.2.1;have hB:=HA.out.2.2;have J9:=hB.size;go_wp2_with (at_builtin;refine wpList_append_own _ rfl _ _ 86 rfl w.heap.size 5 i0 (.int .u8 0) 1 1 underlying86 hi du cH ct rfl (by decide) _ _ _ rfl (hO.alloc _) ⟨wr.heap.size,0,none⟩ 1 1 [.int .u8 (k:Int)] rfl rfl (cell_one_new _ _ _) ?d2 ?d3 ?d4 ?d5 ?_)
   case d2=>intro u hu;simp at hu;subst hu;rfl
   case d3=>unfold maxLen;omega
   case d4=>omega
   case d5=>simp;omega
   intro v' w5 ah ag _;obtain⟨a5,c5,rfl⟩:=bJ ah;have ec:=fC (hB.trans ((al wr (.cells #[.int .u8 (k:Int)] 5)).mono J9)) (hO.alloc _) (by simp;omega) ag;have HF:Hid ((rl K (k+1)).length=x+1/\w5.ownsRow w.heap.size 5 1 (.slice a5 (x+1) c5) (x+1) (lI (rl K (k+1)))/\Below w.heap.size w w5):=by
    refine⟨HZ.out.2,?_,ec⟩;rw[HZ.out.1,zmD];exact ah
   clear ah ag ec hO hB HA;go_wp2;go_roundw
   ·exact⟨k+1,x+1,a5,c5,by go_num,by omega,by omega,rfl,HF⟩
   simp[intOf];omega
  have HZ:Hid (rl K (k+1)=rl K k):=by
   show _=_;rw[rl,if_neg (by rw[HA.out.1];exact hc)]
  generalize cls K k=x at hv fW hc Ac;have fH:¬((x:Int)=q):=by omega
  go_wp2;go_roundw
  ·exact⟨k+1,q,a,c,by go_num,by omega,hq,rfl,by rw[HZ.out];exact HA⟩
  simp[intOf];omega
 obtain rfl:k=256:=by omega
 have HF:Hid (VC K w (.returned (.slice a q c)) wr):=by
  have e:=HA.out.1;rw[zm] at e;subst e;exact⟨a,c,rfl,HA.out.2.1,HA.out.2.2⟩
 go_wp2;go_ret;exact HF.out
theorem iv.grown{B m:Nat}{bs:List Nat}{cs:Array Value}{P:Nat->Bool}{l:List Nat}{row:Option Nat}(h:iv V B bs bm gI m cs P l vL wr)(hg:wr.grownBy w1 row)(hr:∀g,row=some g->g∈bs\/V.heap.size<=g)(hB:∀g,row=some g->B<=g)
  (h1:some bm≠row) (h2:some gI≠row) (h3:∀b,vL.ownBlock=some b->some b≠row):iv V B bs bm gI m cs P l vL w1:=
 ⟨h.kept.grown hg (fun g e=>(hr g e).elim inl (fun x=>inr (inl x))),h.below.grown hg h.hB hB,h.sm.grown hg h1,h.sz,h.cI,qM h.lg hg (fun g e=>by simp only[Value.ownBlock] at e;rw[<-e];exact h2),qM h.cY hg h3,h.loc,h.jT,h.lo⟩
theorem zmb(cs:Array Value)(i:Nat)(hi:i≠262)(u v:Value):(cs.setIfInBounds 262 v).setIfInBounds i u=(cs.setIfInBounds i u).setIfInBounds 262 v:=by
 apply Array.ext_getElem?;intro j;simp only[Array.getElem?_setIfInBounds,Array.size_setIfInBounds];by_cases h1:i=j <;> by_cases h2:262=j <;> simp[h1,h2]
 omega
theorem iv.wF{B m:Nat}{bs:List Nat}{cs:Array Value}{P:Nat->Bool}{l:List Nat}(h:iv V B bs bm gI m cs P l vL wr)(i:Nat)(h1:i≠261)(h2:i≠262)(u:Value):iv V B bs bm gI m (cs.setIfInBounds i u) P l vL (wr.setCell ⟨bm,i,none⟩ u):=by
 refine⟨h.kept.setCell _ _ (inl h.jT.1),h.below.setCell (p:=⟨bm,i,none⟩) h.lo.1 _,?_,by rw[Array.size_setIfInBounds];exact h.sz,by rw[getElem?_setIfInBounds_ne h1];exact h.cI,jt h.lg h.sm (by decide) _ _,jt h.cY h.sm (by decide) _ _,h.loc,h.jT,h.lo⟩;have:=h.sm.set i u;rwa [zmb cs i h2 u vL] at this
theorem iv.other{B m:Nat}{bs:List Nat}{cs:Array Value}{P:Nat->Bool}{l:List Nat}(h:iv V B bs bm gI m cs P l vL wr)(i:Nat)(hi:i≠262):wr.cell? ⟨bm,i,none⟩=cs[i]?:=by
 rw[h.sm.at_,getElem?_setIfInBounds_ne (fun e=>hi e.symm)]
theorem iP.grown{B m:Nat}{bs:List Nat}{cs:Array Value}{l:List Nat}{row:Option Nat}(h:iP V B bs bm gI m M cs l vL wr)(hg:wr.grownBy w1 row)(hr:∀g,row=some g->g∈bs\/V.heap.size<=g)(hB:∀g,row=some g->B<=g)
  (h1:some bm≠row) (h2:some gI≠row) (h3:∀b,vL.ownBlock=some b->some b≠row):iP V B bs bm gI m M cs l vL w1:=⟨h.r.grown hg hr hB h1 h2 h3,h.nd,h.lt⟩
theorem iP.wF{B m:Nat}{bs:List Nat}{cs:Array Value}{l:List Nat}(h:iP V B bs bm gI m M cs l vL wr)(i:Nat)(h1:i≠261)(h2:i≠262)(u:Value):iP V B bs bm gI m M (cs.setIfInBounds i u) l vL (wr.setCell ⟨bm,i,none⟩ u):=⟨h.r.wF i h1 h2 u,h.nd,h.lt⟩
def strs(l:List ByteArray):List Value:=l.map fun s=>.string s
def ints(l:List Int):List Value:=l.map fun x=>.int .i64 x
theorem oI:(prog.info? 9).map (fun i=>(i.zero,i.size,i.bytes))=some (some (.string ⟨#[]⟩),1,16):=by kernel_rfl
theorem Ct:Keyed prog 9:=string_keyed underlying9
structure mi (V:World)(B:Nat)(bs:List Nat)(bM:Nat)(cs:Array Value)(vL:Value)(k q n:Nat)(ss:List ByteArray)(ms:List Int)(Q:Value->Value->Prop)(vS vK:Value)(wr:World):Prop where
 cK:cs[258]?=some vK
 cS:cs[259]?=some vS
 cM:cs[260]?=some (.map (some bM))
 os:wr.ownsRow B 9 1 vS k (strs ss)
 ok:wr.ownsRow B 3 1 vK q (ints ms)
 map:aO wr 9 bM n Q
 sep:∀b,vL.ownBlock=some b->vK.ownBlock≠some b
 lS:∀b,vS.ownBlock=some b->b∈bs\/V.heap.size<=b
 lK:∀b,vK.ownBlock=some b->b∈bs\/V.heap.size<=b
 lM:bM∈bs/\B<=bM
theorem mi.ab{B k q n:Nat}{bs:List Nat}{cs:Array Value}{ms:List Int}{Q:Value->Value->Prop}(h:mi V B bs bM cs vL k q n ss ms Q vS vK wr)(b:Below wr.heap.size wr w1):mi V B bs bM cs vL k q n ss ms Q vS vK w1:=
 ⟨h.cK,h.cS,h.cM,cW h.os b,cW h.ok b,h.map.same (b.block _ h.map.lt),h.sep,h.lS,h.lK,h.lM⟩
def KO(V:World)(B:Nat)(bs:List Nat)(bm gI m M bM:Nat)(cs:Array Value)(l:List Nat)(vL:Value)(k n:Nat)(ss:List ByteArray)(ms:List Int)(Q':Value->Value->Prop)(s:ByteArray)(mk:Nat->Int)(e:Ending)(w':World):Prop:=
 ∃(r:Int) (vS' vK':Value),e=.returned (.int .i64 (k:Int))/\bI mk (fun x=>x∈l) r/\iP V B bs bm gI m M ((cs.setIfInBounds 259 vS').setIfInBounds 258 vK') l vL w'/\
  mi V B bs bM ((cs.setIfInBounds 259 vS').setIfInBounds 258 vK') vL (k+1) (k+1) (n+1) (ss++[s]) (ms++[r]) Q' vS' vK' w'
theorem A3{w:World}{k b n t g:Nat}{cs:Array Value}{Q:Value->Value->Prop}(hm:aO w k b n Q)(h:St w t g cs):g≠b:=by
 rintro rfl;obtain⟨es,clock,hb,_⟩:=hm;have h1:w.heap[g]?=_:=h;rw[h1] at hb;cases hb
theorem wH{w:World}{k b n B t size q:Nat}{v:Value}{xs:List Value}{Q:Value->Value->Prop}(hm:aO w k b n Q)(h:w.ownsRow B t size v q xs):∀g,v.ownBlock=some g->g≠b:=by
 rintro g e rfl;obtain⟨c,fz,hc⟩:=pL h g e;obtain⟨es,clock,hb,_⟩:=hm;rw[hc] at hb;cases hb
theorem zpY{W:World}{B m k q n:Nat}{bs:List Nat}{cs:Array Value}{l:List Nat}{vS':Value}{ms:List Int}{Q:Value->Value->Prop}{s:ByteArray}
  (h:iP V B bs bm gI m M cs l vL W) (t:mi V B bs bM cs vL k q n ss ms Q vS vK W) (ho:w5.ownsRow B 9 1 vS' (k+1) (strs ss++[.string s])) (hg:W.grownBy w5 vS.ownBlock) (eZ:vS'.ownBlock=vS.ownBlock\/vS'.ownBlock=some W.heap.size):
  iP V B bs bm gI m M (cs.setIfInBounds 259 vS') l vL (w5.setCell ⟨bm,259,none⟩ vS')/\mi V B bs bM (cs.setIfInBounds 259 vS') vL (k+1) q n (ss++[s]) ms Q vS' vK (w5.setCell ⟨bm,259,none⟩ vS'):=by
 have h5:=h.grown hg t.lS (kq t.os) (fun e=>ef t.os h.r.sm (by decide) bm e.symm rfl) (fun e=>iy t.os h.r.lg (by decide) gI e.symm rfl) (fun b e1 e2=>iy h.r.cY t.os (by decide) b e1 e2.symm);have mw:=h5.r.sm;refine⟨h5.wF 259 (by decide) (by decide) vS',by rw[getElem?_setIfInBounds_ne (by decide)];exact t.cK,by rw[Array.getElem?_setIfInBounds_self_of_lt (by rw[h.r.sz];decide)],by rw[getElem?_setIfInBounds_ne (by decide)];exact t.cM,?_,
  jt (sh t.ok t.os (by decide) hg) mw (by decide) _ _,(t.map.ae t.os hg).set mw,t.sep,?_,t.lK,t.lM⟩
 ·rw[show strs (ss++[s])=strs ss++[.string s] by simp[strs]];exact jt ho mw (by decide) _ _
 intro b e1;rcases eZ with h1|h1
 ·exact t.lS b (by rw[<-h1];exact e1)
 rw[h1] at e1;injection e1 with e1;exact inr (by rw[<-e1];exact h.r.below.size)
theorem QZ{W:World}{B m k q n:Nat}{bs:List Nat}{cs:Array Value}{l:List Nat}{vK':Value}{ms:List Int}{Q:Value->Value->Prop}{r:Int}
  (h:iP V B bs bm gI m M cs l vL W) (t:mi V B bs bM cs vL k q n ss ms Q vS vK W) (ho:w5.ownsRow B 3 1 vK' (q+1) (ints ms++[.int .i64 r])) (hg:W.grownBy w5 vK.ownBlock) (eZ:vK'.ownBlock=vK.ownBlock\/vK'.ownBlock=some W.heap.size):
  iP V B bs bm gI m M (cs.setIfInBounds 258 vK') l vL (w5.setCell ⟨bm,258,none⟩ vK')/\mi V B bs bM (cs.setIfInBounds 258 vK') vL k (q+1) n ss (ms++[r]) Q vS vK' (w5.setCell ⟨bm,258,none⟩ vK'):=by
 have h5:=h.grown hg t.lK (kq t.ok) (fun e=>ef t.ok h.r.sm (by decide) bm e.symm rfl) (fun e=>iy t.ok h.r.lg (by decide) gI e.symm rfl) (fun b e1 e2=>t.sep b e1 e2.symm);have mw:=h5.r.sm;refine⟨h5.wF 258 (by decide) (by decide) vK',by rw[Array.getElem?_setIfInBounds_self_of_lt (by rw[h.r.sz];decide)],by rw[getElem?_setIfInBounds_ne (by decide)];exact t.cS,by rw[getElem?_setIfInBounds_ne (by decide)];exact t.cM,
  jt (sh t.os t.ok (by decide) hg) mw (by decide) _ _,?_,(t.map.ae t.ok hg).set mw,fun b e1 e2=>?_,t.lS,?_,t.lM⟩
 ·rw[show ints (ms++[r])=ints ms++[.int .i64 r] by simp[ints]];exact jt ho mw (by decide) _ _
 ·rcases eZ with h1|h1
  ·exact t.sep b e1 (by rw[<-h1];exact e2)
  rw[h1] at e2;injection e2 with e2;obtain⟨c,fz,hc⟩:=pL h.r.cY b e1;have:=(Array.getElem?_eq_some_iff.1 hc).1;omega
 intro b e1;rcases eZ with h1|h1
 ·exact t.lK b (by rw[<-h1];exact e1)
 rw[h1] at e1;injection e1 with e1;exact inr (by rw[<-e1];exact h.r.below.size)
theorem XY{W:World}{B m k q n n':Nat}{bs:List Nat}{cs:Array Value}{l:List Nat}{ms:List Int}{Q Q':Value->Value->Prop}
  (h:iP V B bs bm gI m M cs l vL W) (t:mi V B bs bM cs vL k q n ss ms Q vS vK W) (hm:aO w5 9 bM n' Q') (hg:W.grownBy w5 (some bM)):
  iP V B bs bm gI m M cs l vL w5/\mi V B bs bM cs vL k q n' ss ms Q' vS vK w5:=by
 have ox:=t.map;have h5:=h.grown hg (fun g e=>by injection e with e;rw[<-e];exact inl t.lM.1) (fun g e=>by injection e with e;rw[<-e];exact t.lM.2) (fun e=>by injection e with e;exact A3 ox h.r.sm e) (fun e=>by injection e with e;exact wH ox h.r.lg gI rfl e) (fun b e1 e2=>by injection e2 with e2;exact wH ox h.r.cY b e1 e2);exact⟨h5,t.cK,t.cS,t.cM,wI t.os ox.of hg,wI t.ok ox.of hg,hm,t.sep,t.lS,t.lK,t.lM⟩
theorem ZP(f t:Nat):cG (bB f t).z=[.int .i64 (f:Int),.int .i64 (t:Int),.int .u64 0,.int .u64 0,.int .u64 0,.int .u64 0,.bool true]:=by
 simp[cG,En.z,bB,vb]
theorem tI(f t:Nat)(w:World):Calls prog 82 #[.int .i64 (f:Int),.int .i64 (t:Int)] w fun e w'=>e=.returned (.agg #[.int .i64 (f:Int),.int .i64 (t:Int),.int .u64 0,.int .u64 0,.int .u64 0,.int .u64 0,.bool true])/\Below w.heap.size w w':=by
 have HB:=hid ((Below.refl w.heap.size w).alloc (le_refl _) (.cells #[.int .i64 (f:Int),.int .i64 (t:Int),.int .u64 0,.int .u64 0,.int .u64 0,.int .u64 0,.bool true] 128));have HS:=hid (St.new w 128 #[.int .i64 (f:Int),.int .i64 (t:Int),.int .u64 0,.int .u64 0,.int .u64 0,.int .u64 0,.bool true]);go_enter func82,ntmps82;go_wp2_with fail;generalize w.alloc (.cells #[.int .i64 (f:Int),.int .i64 (t:Int),.int .u64 0,.int .u64 0,.int .u64 0,.int .u64 0,.bool true] 128)=W at HB HS⊢;obtain⟨v0,v1,v2,v3,v4,v5,v6⟩:=Xd HS.out;exact bodyPost_ret (v:=.agg #[.int .i64 (f:Int),.int .i64 (t:Int),.int .u64 0,.int .u64 0,.int .u64 0,.int .u64 0,.bool true]) (by simp[results,results82,go_sem,v0,v1,v2,v3,v4,v5,v6]) rfl ⟨rfl,HB.out⟩
theorem Zb(L:List En)(o:Nat)(a:Option Addr)(n c:Nat)(w:World)(hL:gq w a (L.map En.z))(hn:L.length=n)(dD:n<=1000)(ho:o<=1000000)(hb:∀e∈L,e.f<=1000000/\e.t<=1000000):
  Calls prog 83 #[.slice a n c,.int .i64 (o:Int)] w fun e w'=>∃g,e=.returned (.slice (some ⟨g,0,none⟩) n n)/\w'.ownsRow w.heap.size 128 7 (.slice (some ⟨g,0,none⟩) n n) n (dc ((L.map (En.by o)).map En.z))/\Below w.heap.size w w':=by
 have HL:=hid (Zz hL (Zz hn hb));obtain⟨i0,hi,du,cH,ct⟩:=info_parts jS;have cU:(prog.info? 128).map (·.size)=some 7:=by kernel_rfl
 clear hL hn hb;go_enter func83,ntmps83;go_wp2_with (at_make;refine wpList_make_full _ rfl _ _ 65 rfl w.heap.size 128 i0 (.agg #[.int .i64 0,.int .i64 0,.int .u64 0,.int .u64 0,.int .u64 0,.int .u64 0,.bool false]) 7 underlying65 hi du cH .i64 .i64 _ _ n rfl rfl ?c1 ?c2 ?c3 ?c4 ?c5 ?_)
 case c1=>omega
 case c2=>omega
 case c3=>rw[ct];omega
 case c4=>unfold maxLen;omega
 case c5=>omega
 intro w1 ay dp;have fp:Below w.heap.size w w1:=⟨dp.os,dp.tape,dp.output,dp.size,fun k hk=>dp.block k hk (by simp)⟩
 have HO:=hid (Zz ay (Zz fp (yI ay)));have HX:Hid ((dc (L.map En.z)).length=n*7/\(0<n->∃ad,a=some ad/\∀j v,(dc (L.map En.z))[j]?=some v->w1.cell? (ad.add j)=some v)):=by
  show _/\_;have hlen:(dc (L.map En.z)).length=n*7:=by rw[LG,length_map,HL.out.2.1]
  refine⟨hlen,fun h0=>?_⟩;obtain⟨g,off,e,hg,hc⟩:=(HL.out.1.below fp) (by rw[length_map,HL.out.2.1];exact h0);refine⟨_,e,fun j v hj=>?_⟩;have hjl:=(List.getElem?_eq_some_iff.1 hj).1;have:(⟨g,off,none⟩:Addr).add j=⟨g,off+j,none⟩:=by unfold Addr.add;split <;> simp_all
  rw[this,hc j (by rw[<-LG];exact hjl)];exact hj
 clear ay dp fp;go_wp2_with (refine zdz rfl _ _ _ _ rfl 128 7 underlying65 cU w.heap.size n n c a rfl rfl _ 128 HO.out.2.2.1 (dc (L.map En.z)) HX.out.1 (by have:=HO.out.2.2.2.2.2;have h2:=HX.out.1;simp at this⊢;omega) HX.out.2 (JY _) ?_);have HA:Hid ((w1.setRow w.heap.size (dc (L.map En.z)).toArray).ownsRow w.heap.size 128 7 (.slice (some ⟨w.heap.size,0,none⟩) n n) n (dc ((mx o L 0).map En.z))/\Below w.heap.size w (w1.setRow w.heap.size (dc (L.map En.z)).toArray)):=
  ⟨UD HO.out.1 HX.out.1,below_setRow HO.out.2.1 (le_refl _) _⟩
 generalize w1.setRow w.heap.size (dc (L.map En.z)).toArray=w2 at HA⊢;clear HO HX;go_wp2_with fail;go_loopw [6,15] (fun _ i wr=>∃k:Nat,i=.int .i64 k/\k<=n/\Hid (wr.ownsRow w.heap.size 128 7 (.slice (some ⟨w.heap.size,0,none⟩) n n) n (dc ((mx o L k).map En.z))/\Below w.heap.size w wr)) (fun _ i _=>n-(intOf i).toNat)
 ·exact⟨0,rfl,zero_le _,HA⟩
 clear HA;obtain⟨k,rfl,hk,HA⟩:=hrel;by_cases an:k<n
 ·have hkl:k<L.length:=by rw[HL.out.2.1];exact an
  have E8:k<((mx o L k).map En.z).length:=by rw[length_map,UU];exact hkl
  have hx:=HL.out.2.2 L[k] (List.getElem_mem _);have bQ:St wr 128 w.heap.size (dc ((mx o L k).map En.z)).toArray:=(yI HA.out.1).1;have QE:∀j,j<7->(dc ((mx o L k).map En.z))[k*7+j]?=(cG L[k].z)[j]?:=fun j hj=>by
   rw[P9 _ k E8 j hj,getElem_map,Ow o L k hkl]
  have c0:wr.cell? ⟨w.heap.size,k*7,none⟩=some (.int .i64 ((L[k].f:Nat):Int)):=by rw[bQ.at_,List.getElem?_toArray];exact QE 0 (by omega)
  have c1:wr.cell? ⟨w.heap.size,k*7+1,none⟩=some (.int .i64 ((L[k].t:Nat):Int)):=by rw[bQ.at_,List.getElem?_toArray];exact QE 1 (by omega)
  have f0:=bQ.aZ (k*7);have f1:=bQ.aZ (k*7+1);have HF:Hid (((wr.setCell ⟨w.heap.size,k*7,none⟩ (.int .i64 ((L[k].f:Int)+(o:Int)))).setCell ⟨w.heap.size,k*7+1,none⟩ (.int .i64 ((L[k].t:Int)+(o:Int)))).ownsRow w.heap.size 128 7 (.slice (some ⟨w.heap.size,0,none⟩) n n) n (dc ((mx o L (k+1)).map En.z))/\
    Below w.heap.size w ((wr.setCell ⟨w.heap.size,k*7,none⟩ (.int .i64 ((L[k].f:Int)+(o:Int)))).setCell ⟨w.heap.size,k*7+1,none⟩ (.int .i64 ((L[k].t:Int)+(o:Int))))):=by
   show _/\_
   refine⟨?_,(HA.out.2.setCell (p:=⟨w.heap.size,k*7,none⟩) (le_refl _) _).setCell (p:=⟨w.heap.size,k*7+1,none⟩) (le_refl _) _⟩
   have h1:=Qo (Qo HA.out.1 (k*7) (by omega) (.int .i64 ((L[k].f:Int)+(o:Int)))) (k*7+1) (by omega) (.int .i64 ((L[k].t:Int)+(o:Int)))
   have h2:=zpe ((mx o L k).map En.z) k (L[k].by o).z E8 (by rw[getElem_map,Ow o L k hkl];rfl) (by rw[getElem_map,Ow o L k hkl];rfl)
   rw[<-List.map_set,zqi o L k hkl] at h2
   rw[h2]
   exact h1
  generalize L[k].f=xf at c0 hx HF;generalize L[k].t=xt at c1 hx HF;clear bQ QE hkl E8 HA;go_wp2;go_roundw
  ·exact⟨k+1,by go_num,by omega,HF⟩
  simp[intOf];omega
 obtain rfl:k=n:=by omega
 have HF:Hid (wr.ownsRow w.heap.size 128 7 (.slice (some ⟨w.heap.size,0,none⟩) k k) k (dc ((L.map (En.by o)).map En.z))/\Below w.heap.size w wr):=by
  show _/\_;have h:=HA.out;rw[show mx o L k=L.map (En.by o) by unfold mx;rw[List.take_of_length_le (by rw[HL.out.2.1];exact le_refl _),List.drop_eq_nil_of_le (by rw[HL.out.2.1];exact le_refl _),List.append_nil]] at h;exact h
 go_wp2;go_ret;exact⟨w.heap.size,rfl,HF.out.1,HF.out.2⟩
theorem rz{P:Program}{o:Oper}{a:Act}{w:World}{K:Act->World->Prop}{Q:Exit->Act->World->Prop}{E:Prop}(oG:o.guard=none)(s x:Operand)(t:TypeId)
  (ho:o.op=.call { callee:=.builtin .append,args:=#[s,x],argTypes:=#[t,t] })
  (base:Nat) (e:TypeId) (i:TypeInfo) (z:Value) (size bytes:Nat) (ht:P.underlying t=some (.slice e)) (hi:P.info? e=some i) (hz:i.zero=some z)
  (rb:i.size=size) (IE:i.bytes=bytes) (FJ:z.cells.size=size) (cU:0<size)
  (v:Value) (n:Nat) (xs:List Value) (hs:a.eval s=v) (ay:w.ownsRow base e size v n xs)
  (ad:Addr) (m c:Nat) (news:List Value) (hx:a.eval x=.slice (some ad) m c) (hl:news.length=m*size) (mT:∀j u,news[j]?=some u->w.cell? (ad.add j)=some u) (h1:∀u∈news,u.oneCell'=true)
  (JI:n+m<=maxLen) (ke:(n+m)*bytes<=140737488355328) (ru:base<=w.heap.size)
  (h:∀v' w',w'.ownsRow base e size v' (n+m) (xs++news)->w.grownBy w' v.ownBlock->K (a.put o.dst v') w'):
  if wanted o (yielded ops a.tmps)=true then Oper.wp P o a w K Q else E:=by
 have hw:wanted o (yielded ops a.tmps)=true:=by simp[wanted,oG]
 rw[if_pos hw];obtain⟨v',w',hr,h2,h3,_,_⟩:=run_append_own_at (P:=P) w base t o.type e i z size bytes ht hi hz rb IE FJ cU v n xs ay ad m c news hl mT h1 JI ke ru;unfold Oper.wp execOp;simp only[ho,resolve,invoke,builtin,run_bind,run_pure,Result.andThen_ok,List.map_toArray,map_cons,map_nil,hs,hx,hr];exact h v' w' h2 h3
structure Mg where
 S:Int
 F:Int
 T:Int
 a:Option Addr
 c:Nat
 L:List Eg
def wJ(w:World)(a:Option Addr)(n:Nat)(G:Nat->Mg):Prop:=0<n->∃g off,a=some ⟨g,off,none⟩/\g<w.heap.size/\∀k,k<n->
 (w.cell? ⟨g,off+k*4,none⟩=some (.int .i64 (G k).S)/\w.cell? ⟨g,off+k*4+1,none⟩=some (.slice (G k).a (G k).L.length (G k).c)/\w.cell? ⟨g,off+k*4+2,none⟩=some (.int .i64 (G k).F)/\w.cell? ⟨g,off+k*4+3,none⟩=some (.int .i64 (G k).T))/\gq w (G k).a (G k).L
theorem wJ.below{w w':World}{a:Option Addr}{n:Nat}{G:Nat->Mg}(h:wJ w a n G)(k:Below w.heap.size w w'):wJ w' a n G:=by
 intro h0;obtain⟨g,off,e,hg,hc⟩:=h h0;have:=k.size;refine⟨g,off,e,by omega,fun j hj=>?_⟩;obtain⟨⟨h1,h2,h3,h4⟩,h5⟩:=hc j hj;exact⟨⟨(k.cell (p:=⟨g,_,none⟩) hg).trans h1,(k.cell (p:=⟨g,_,none⟩) hg).trans h2,(k.cell (p:=⟨g,_,none⟩) hg).trans h3,(k.cell (p:=⟨g,_,none⟩) hg).trans h4⟩,h5.below k⟩
def NF.mg(m:NF)(a:Option Addr)(c:Nat):Mg:=⟨(m.N:Int),(m.F:Int),(m.T:Int),a,c,m.L.map En.z⟩
def jA(M:Nat->NF):Nat->List Nat
 | 0=>[]
 | k+1=>jA M k++[uo M k+(M k).T]
theorem V4(M:Nat->NF)(k:Nat):(jA M k).length=k:=by
 induction k with
 | zero=>rfl
 | succ k ih=>simp[jA,ih]
structure rV (w:World)(p:Nat)(L:List En)(k:Nat)(ls:List Nat)(vE vL:Value)(wr:World):Prop where
 s2:St wr 67 w.heap.size #[.int .i64 0,.slice none 0 0,.int .i64 0,.int .i64 0]
 s4:St wr 67 (w.heap.size+1) #[.int .i64 (p:Int),vE,.int .i64 0,.int .i64 0]
 oe:wr.ownsRow w.heap.size 128 7 vE L.length (dc (L.map En.z))
 ol:wr.ownsRow w.heap.size 3 1 vL k (cO ls)
 below:Below w.heap.size w wr
theorem rV.ab{w:World}{p k:Nat}(h:rV w p L k ls vE vL wr)(b:Below wr.heap.size wr w1):rV w p L k ls vE vL w1:=
 ⟨h.s2.ab b,h.s4.ab b,cW h.oe b,cW h.ol b,h.below.trans (b.mono h.below.size)⟩
theorem rV.app{w wr w1:World}{p k:Nat}{L L2:List En}{ls:List Nat}{vE vL vE':Value}(h:rV w p L k ls vE vL wr)(ho:w1.ownsRow w.heap.size 128 7 vE' (L++L2).length (dc (L.map En.z)++dc (L2.map En.z)))(hg:wr.grownBy w1 vE.ownBlock):
  rV w p (L++L2) k ls vE' vL (w1.setCell ⟨w.heap.size+1,1,none⟩ vE'):=by
 have h2:=h.s2.ae h.oe (by decide) hg;have h4:=h.s4.ae h.oe (by decide) hg;refine⟨h2.fq (p:=⟨w.heap.size+1,1,none⟩) (by show w.heap.size≠w.heap.size+1;omega) _,?_,?_,jt (sh h.ol h.oe (by decide) hg) h4 (by decide) 1 vE',(fC h.below h.oe h.below.size hg).setCell (p:=⟨w.heap.size+1,1,none⟩) (by show w.heap.size<=w.heap.size+1;omega) _⟩
 ·have:=h4.set 1 vE';simpa using this
 rw[List.map_append,YU];exact jt ho h4 (by decide) 1 vE'
theorem rV.last{w:World}{p k N t:Nat}{o:Obj}(h:rV w p L k ls vE vL wr)(ho:w1.ownsRow w.heap.size 3 1 jd (k+1) (cO ls++[.int .i64 (t:Int)]))(hg:(wr.alloc o).grownBy w1 vL.ownBlock):
  rV w (p+N) L (k+1) (ls++[t]) vE jd (w1.setCell ⟨w.heap.size+1,0,none⟩ (.int .i64 ((p:Int)+(N:Int)))):=by
 have h0:rV w p L k ls vE vL (wr.alloc o):=h.ab (al wr o);have h2:=h0.s2.ae h0.ol (by decide) hg;have h4:=h0.s4.ae h0.ol (by decide) hg;refine⟨h2.fq (p:=⟨w.heap.size+1,0,none⟩) (by show w.heap.size≠w.heap.size+1;omega) _,?_,jt (sh h0.oe h0.ol (by decide) hg) h4 (by decide) 0 _,?_,(fC h0.below h0.ol h0.below.size hg).setCell (p:=⟨w.heap.size+1,0,none⟩) (by show w.heap.size<=w.heap.size+1;omega) _⟩
 ·have:=h4.set 0 (.int .i64 ((p:Int)+(N:Int)));simpa using this
 rw[wC];exact jt ho h4 (by decide) 0 _
theorem zmd(M:Nat->NF)(n:Nat)(hM:∀k,k<n->(M k).ok/\(M k).N<=1000/\(M k).L.length<=1000)(hn:n<=100)(A:Nat->Option Addr)(C:Nat->Nat)(a:Option Addr)(c:Nat)(w:World)(hL:wJ w a n (fun k=>(M k).mg (A k) (C k))):
  Calls prog 53 #[.slice a n c] w fun e w'=>∃aE cE aL cL,e=.returned (.tuple #[.agg #[.int .i64 ((uo M n:Nat):Int),.slice aE (uE M n).length cE,.int .i64 0,.int .i64 0],.slice aL n cL])/\
   w'.ownsRow w.heap.size 128 7 (.slice aE (uE M n).length cE) (uE M n).length (dc ((uE M n).map En.z))/\w'.ownsRow w.heap.size 3 1 (.slice aL n cL) n (cO (jA M n))/\Below w.heap.size w w':=by
 have HL:=hid (Zz hL hM);have HU:Hid (rV w (uo M 0) (uE M 0) 0 (jA M 0) (.slice none 0 0) (.slice none 0 0) ((w.alloc (.cells #[.int .i64 0,.slice none 0 0,.int .i64 0,.int .i64 0] 67)).alloc (.cells #[.int .i64 1,.slice none 0 0,.int .i64 0,.int .i64 0] 67))):=by
  refine⟨(St.new w _ _).alloc _,?_,ownsRow_nil _ _ _ _,ownsRow_nil _ _ _ _,((Below.refl _ _).alloc (le_refl _) _).alloc (by simp) _⟩;have:=St.new (w.alloc (.cells #[.int .i64 0,.slice none 0 0,.int .i64 0,.int .i64 0] 67)) 67 #[.int .i64 1,.slice none 0 0,.int .i64 0,.int .i64 0];exact (by simpa using this:St _ 67 (w.heap.size+1) #[.int .i64 1,.slice none 0 0,.int .i64 0,.int .i64 0])
 clear hL hM;go_enter func53,ntmps53;go_wp2_with fail;generalize (w.alloc (.cells #[.int .i64 0,.slice none 0 0,.int .i64 0,.int .i64 0] 67)).alloc (.cells #[.int .i64 1,.slice none 0 0,.int .i64 0,.int .i64 0] 67)=W0 at HU⊢;go_loopw [5,7,11] (fun v _ i wr=>∃(k:Nat) (aE:Option Addr) (cE:Nat) (aL:Option Addr) (cL:Nat),i=.int .i64 k/\k<=n/\v=.slice aL k cL/\Hid (rV w (uo M k) (uE M k) k (jA M k) (.slice aE (uE M k).length cE) (.slice aL k cL) wr)) (fun _ _ i _=>n-(intOf i).toNat)
 ·exact⟨0,none,0,none,0,rfl,zero_le _,rfl,HU⟩
 clear HU;obtain⟨k,aE,cE,aL,cL,rfl,hk,rfl,HA⟩:=hrel;by_cases an:k<n
 ·obtain⟨g,off,rfl,hg,mm⟩:=(HL.out.1.below HA.out.below) (by omega);obtain⟨⟨c0,c1,c2,c3⟩,_⟩:=mm k an;have Qj:gq w (A k) ((M k).mg (A k) (C k)).L:=by
   obtain⟨g',kj,_,_,h⟩:=HL.out.1 (by omega);exact (h k an).2
  simp only[NF.mg,length_map] at c0 c1 c2 c3 Qj;obtain⟨yJ,Br,tE⟩:=HL.out.2 k an;have fI:=Rk M k 1000 (fun j hj=>(HL.out.2 j (by omega)).2.1);have CU:=Uc M k 1000 (fun j hj=>(HL.out.2 j (by omega)).2.2);have hf:=yJ.f;have ht:=yJ.t;have L4:Hid (uo M (k+1)=uo M k+(M k).N/\uE M (k+1)=uE M k++[bB 0 (uo M k+(M k).F)]++(M k).L.map (En.by (uo M k))/\jA M (k+1)=jA M k++[uo M k+(M k).T]):=⟨rfl,by rw[List.append_assoc];rfl,rfl⟩
  have GL:=hid (Zz yJ Qj);clear mm yJ Qj;obtain⟨p,hp⟩:∃p,uo M k=p:=⟨_,rfl⟩
  obtain⟨E,hE⟩:∃E,uE M k=E:=⟨_,rfl⟩
  obtain⟨⟨N,F,T,L⟩,hm⟩:∃m,M k=m:=⟨_,rfl⟩
  rw[hp,hE] at HA;rw[hp,hE,hm] at L4;rw[hm] at c0 c1 c2 c3 Br tE hf ht GL;rw[hp] at fI;rw[hE] at CU;dsimp only at c0 c1 c2 c3 Br tE hf ht;clear hp hE hm;have oU:k*1000<=100000:=by omega
  have jU:k*(1000+1)<=100100:=by omega
  have Bd:p<=100001:=by omega
  have hEb:E.length<=100100:=by omega
  clear fI CU oU jU;obtain⟨z0,z1,z2,z3⟩:=HA.out.s4.bS;have qm:=hid (HA.out.ab ((Below.refl wr.heap.size wr).alloc (le_refl _) (.cells #[.int .i64 (N:Int),.slice (A k) L.length (C k),.int .i64 (F:Int),.int .i64 (T:Int)] 67)));have nV:=hid (St.new wr 67 #[.int .i64 (N:Int),.slice (A k) L.length (C k),.int .i64 (F:Int),.int .i64 (T:Int)]);obtain⟨ak,MO⟩:∃ak,A k=ak:=⟨_,rfl⟩
  obtain⟨ck,Fk⟩:∃ck,C k=ck:=⟨_,rfl⟩
  rw[MO,Fk] at qm nV;rw[MO,Fk] at c1;rw[MO] at GL;clear MO Fk;go_wp2_with fail;generalize wr.alloc (.cells #[.int .i64 (N:Int),.slice ak L.length ck,.int .i64 (F:Int),.int .i64 (T:Int)] 67)=W1 at qm nV⊢;have hb47:w.heap.size+1<wr.heap.size:=HA.out.s4.lt;have Rr:Hid (∀e∈L,e.f<=1000000/\e.t<=1000000):=fun e he=>by
   have:e.f<N/\e.t<N:=GL.out.1.e e he;omega
  have C6:Hid (∀W:World,Calls prog 82 #[.int .i64 0,.int .i64 ((p:Int)+(F:Int))] W (fun e w'=>e=.returned (.agg #[.int .i64 0,.int .i64 ((p:Int)+(F:Int)),.int .u64 0,.int .u64 0,.int .u64 0,.int .u64 0,.bool true])/\Below W.heap.size W w')):=fun W=>by
   have:=tI 0 (p+F) W;simpa using this
  have Wr:Hid (IntKind.i64.wrap ((p:Int)+(F:Int))=(p:Int)+(F:Int)):=IntWalk.i64_in _ (by omega);have Dz:Hid (dc ([bB 0 (p+F)].map En.z)=[.int .i64 0,.int .i64 ((p:Int)+(F:Int)),.int .u64 0,.int .u64 0,.int .u64 0,.int .u64 0,.bool true]):=by
   show dc [(bB 0 (p+F)).z]=_;simp[dc,ZP]
  obtain⟨i0,hi,du,cH,ct⟩:=info_parts jS;clear HA z0 z1 z2 z3 c0 c1 c2 c3
  go_cut [5] from 15 to 25 (fun v wx=>∃(QI:Option Addr) (Ox:Nat),v=.slice aL k cL/\rV w p (E++[bB 0 (p+F)]) k (jA M k) (.slice QI (E.length+1) Ox) (.slice aL k cL) wx/\St wx 67 wr.heap.size #[.int .i64 (N:Int),.slice ak L.length ck,.int .i64 (F:Int),.int .i64 (T:Int)])
  case first=>
   have iZ:=hid (qm.out.ab (Below.refl W1.heap.size W1).drew);have kd:Hid (St W1.drew 67 wr.heap.size #[.int .i64 (N:Int),.slice ak L.length ck,.int .i64 (F:Int),.int .i64 (T:Int)]):=nV.out.drew;have e2:W1.drew.cell? ⟨w.heap.size+1,1,none⟩=some (.slice aE E.length cE):=iZ.out.s4.at_ 1;have dt:Hid (∀(W:World) (v:Value),St W 67 (w.heap.size+1) #[.int .i64 (p:Int),v,.int .i64 0,.int .i64 0]->St W 67 wr.heap.size #[.int .i64 (N:Int),.slice ak L.length ck,.int .i64 (F:Int),.int .i64 (T:Int)]->(W.cell? ⟨w.heap.size+1,0,none⟩=some (.int .i64 (p:Int))/\W.cell? ⟨wr.heap.size,2,none⟩=some (.int .i64 (F:Int)))):=(fun W v h1 h2=>⟨h1.at_ 0,h2.at_ 2⟩);refine wp_region_held_drew (S:=fun W'=>W'.cell? ⟨w.heap.size+1,0,none⟩=some (.int .i64 (p:Int))/\W'.cell? ⟨wr.heap.size,2,none⟩=some (.int .i64 (F:Int))) (by kernel_rfl) (dt.out _ _ iZ.out.s4 kd.out) (fun hHeld=>?_)
   (refine av 0 ?_;refine av 2 ?_;refine av 3 ?_;try simp only[put,sA,sB,sC];refine av 4 ?_;refine av 5 ?_;refine av 6 ?_;try simp only[put,sA,sB,sC])
   refine wpAnyH_ready (rs:=[1,7]) (by kernel_rfl) (by simp) ?_;refine gy (fun K hK=>?_) ?_
   ·skip;go_simp;refine hK.out _ _ (dt.out _ _ iZ.out.s4 kd.out) (fun hHeld=>?_);clear hK K
    try simp only[put,sA,sB,sC]
    refine bq 7 (fun K hK=>?_);skip;go_simp;rw[Wr.out];go_at_call 82;refine (C6.out _).mono ?_;rintro e w5 ⟨rfl,v5⟩;have dk:=hid (iZ.out.ab v5);have oy:=hid (kd.out.ab v5);have e5:w5.cell? ⟨w.heap.size+1,1,none⟩=some (.slice aE E.length cE):=dk.out.s4.at_ 1;clear v5
    try go_wp2_with fail
    refine hK.out _ _ (dt.out _ _ dk.out.s4 oy.out) (fun hHeld=>?_);clear hK K
    try simp only[put,sA,sB,sC]
    refine bq 8 (fun K hK=>?_);skip;go_simp;have iu:=hid (dk.out.ab (al w5 (.cells #[.int .i64 0,.int .i64 ((p:Int)+(F:Int)),.int .u64 0,.int .u64 0,.int .u64 0,.int .u64 0,.bool true] 128)));have zd:=hid (oy.out.ab (al w5 (.cells #[.int .i64 0,.int .i64 ((p:Int)+(F:Int)),.int .u64 0,.int .u64 0,.int .u64 0,.int .u64 0,.bool true] 128)));have e6:(w5.alloc (.cells #[.int .i64 0,.int .i64 ((p:Int)+(F:Int)),.int .u64 0,.int .u64 0,.int .u64 0,.int .u64 0,.bool true] 128)).cell? ⟨w.heap.size+1,1,none⟩=some (.slice aE E.length cE):=iu.out.s4.at_ 1;refine hK.out _ _ (dt.out _ _ iu.out.s4 zd.out) (fun hHeld=>?_);clear hK K
    try simp only[put,sA,sB,sC]
    refine bq 9 (fun K hK=>?_);skip;skip;refine rz (by rfl) _ _ _ (by rfl) w.heap.size 128 i0 (.agg #[.int .i64 0,.int .i64 0,.int .u64 0,.int .u64 0,.int .u64 0,.int .u64 0,.bool false]) 7 56 underlying65 hi du cH ct (by rfl) (by decide) _ E.length (dc (E.map En.z)) (by rfl) iu.out.oe ⟨w5.heap.size,0,none⟩ 1 1 (#[.int .i64 0,.int .i64 ((p:Int)+(F:Int)),.int .u64 0,.int .u64 0,.int .u64 0,.int .u64 0,.bool true]).toList (by rfl) (by rfl) (news_of_block (cs:=#[.int .i64 0,.int .i64 ((p:Int)+(F:Int)),.int .u64 0,.int .u64 0,.int .u64 0,.int .u64 0,.bool true]) (t:=128) (fr:=(0,0)) (heap_alloc_new w5 _)) (by simp[oneCell']) (by unfold maxLen;omega) (by omega) iu.out.below.size ?_;intro v6 w6 aj af;obtain⟨a6,c6,rfl⟩:=bJ aj;have eY:=iu.out.s4.ae iu.out.oe (by decide) af;have pR:=zd.out.ae iu.out.oe (by decide) af;have oP:=hid (iu.out.app (L2:=[bB 0 (p+F)]) (vE':=.slice a6 (E.length+1) c6) (by first|exact (by rw[Dz.out];exact aj)|(rw[length_append];exact (by rw[Dz.out];exact aj))) af);have tz:=hid (pR.fq (p:=⟨w.heap.size+1,1,none⟩) (by show wr.heap.size≠w.heap.size+1;omega) (.slice a6 (E.length+1) c6));have t3:w6.cell? ⟨w.heap.size+1,1,none⟩=some (.slice aE E.length cE):=eY.at_ 1;have f3:=eY.aZ 1;refine hK.out _ _ (dt.out _ _ eY pR) (fun hHeld=>?_);clear hK K aj af eY pR
    try simp only[put,sA,sB,sC]
    (refine av 10 ?_;try simp only[put,sA,sB,sC])
    refine bq 11 (fun K hK=>?_);skip;go_simp;refine hK.out _ _ (dt.out _ _ oP.out.s4 tz.out) (fun hHeld=>?_);clear hK K
    try simp only[put,sA,sB,sC]
    refine wpAnyH_done (by kernel_rfl) ?_ _;clear hHeld;go_wp2_with fail
    go_meet
    exact⟨_,_,rfl,oP.out,tz.out⟩
   refine gy (fun K hK=>?_) ?_
   ·skip;go_simp;rw[Wr.out];go_at_call 82;refine (C6.out _).mono ?_;rintro e w5 ⟨rfl,v5⟩;have dk:=hid (iZ.out.ab v5);have oy:=hid (kd.out.ab v5);have e5:w5.cell? ⟨w.heap.size+1,1,none⟩=some (.slice aE E.length cE):=dk.out.s4.at_ 1;clear v5
    try go_wp2_with fail
    refine hK.out _ _ (dt.out _ _ dk.out.s4 oy.out) (fun hHeld=>?_);clear hK K
    try simp only[put,sA,sB,sC]
    refine wpAnyH_ready (rs:=[1,8]) (by kernel_rfl) (by simp) ?_;refine gy (fun K hK=>?_) ?_
    ·skip;go_simp;refine hK.out _ _ (dt.out _ _ dk.out.s4 oy.out) (fun hHeld=>?_);clear hK K
     try simp only[put,sA,sB,sC]
     refine bq 8 (fun K hK=>?_);skip;go_simp;have iu:=hid (dk.out.ab (al w5 (.cells #[.int .i64 0,.int .i64 ((p:Int)+(F:Int)),.int .u64 0,.int .u64 0,.int .u64 0,.int .u64 0,.bool true] 128)));have zd:=hid (oy.out.ab (al w5 (.cells #[.int .i64 0,.int .i64 ((p:Int)+(F:Int)),.int .u64 0,.int .u64 0,.int .u64 0,.int .u64 0,.bool true] 128)));have e6:(w5.alloc (.cells #[.int .i64 0,.int .i64 ((p:Int)+(F:Int)),.int .u64 0,.int .u64 0,.int .u64 0,.int .u64 0,.bool true] 128)).cell? ⟨w.heap.size+1,1,none⟩=some (.slice aE E.length cE):=iu.out.s4.at_ 1;refine hK.out _ _ (dt.out _ _ iu.out.s4 zd.out) (fun hHeld=>?_);clear hK K
     try simp only[put,sA,sB,sC]
     refine bq 9 (fun K hK=>?_);skip;skip;refine rz (by rfl) _ _ _ (by rfl) w.heap.size 128 i0 (.agg #[.int .i64 0,.int .i64 0,.int .u64 0,.int .u64 0,.int .u64 0,.int .u64 0,.bool false]) 7 56 underlying65 hi du cH ct (by rfl) (by decide) _ E.length (dc (E.map En.z)) (by rfl) iu.out.oe ⟨w5.heap.size,0,none⟩ 1 1 (#[.int .i64 0,.int .i64 ((p:Int)+(F:Int)),.int .u64 0,.int .u64 0,.int .u64 0,.int .u64 0,.bool true]).toList (by rfl) (by rfl) (news_of_block (cs:=#[.int .i64 0,.int .i64 ((p:Int)+(F:Int)),.int .u64 0,.int .u64 0,.int .u64 0,.int .u64 0,.bool true]) (t:=128) (fr:=(0,0)) (heap_alloc_new w5 _)) (by simp[oneCell']) (by unfold maxLen;omega) (by omega) iu.out.below.size ?_;intro v6 w6 aj af;obtain⟨a6,c6,rfl⟩:=bJ aj;have eY:=iu.out.s4.ae iu.out.oe (by decide) af;have pR:=zd.out.ae iu.out.oe (by decide) af;have oP:=hid (iu.out.app (L2:=[bB 0 (p+F)]) (vE':=.slice a6 (E.length+1) c6) (by first|exact (by rw[Dz.out];exact aj)|(rw[length_append];exact (by rw[Dz.out];exact aj))) af);have tz:=hid (pR.fq (p:=⟨w.heap.size+1,1,none⟩) (by show wr.heap.size≠w.heap.size+1;omega) (.slice a6 (E.length+1) c6));have t3:w6.cell? ⟨w.heap.size+1,1,none⟩=some (.slice aE E.length cE):=eY.at_ 1;have f3:=eY.aZ 1;refine hK.out _ _ (dt.out _ _ eY pR) (fun hHeld=>?_);clear hK K aj af eY pR
     try simp only[put,sA,sB,sC]
     (refine av 10 ?_;try simp only[put,sA,sB,sC])
     refine bq 11 (fun K hK=>?_);skip;go_simp;refine hK.out _ _ (dt.out _ _ oP.out.s4 tz.out) (fun hHeld=>?_);clear hK K
     try simp only[put,sA,sB,sC]
     refine wpAnyH_done (by kernel_rfl) ?_ _;clear hHeld;go_wp2_with fail
     go_meet
     exact⟨_,_,rfl,oP.out,tz.out⟩
    refine gy (fun K hK=>?_) ?_
    ·skip;go_simp;have iu:=hid (dk.out.ab (al w5 (.cells #[.int .i64 0,.int .i64 ((p:Int)+(F:Int)),.int .u64 0,.int .u64 0,.int .u64 0,.int .u64 0,.bool true] 128)));have zd:=hid (oy.out.ab (al w5 (.cells #[.int .i64 0,.int .i64 ((p:Int)+(F:Int)),.int .u64 0,.int .u64 0,.int .u64 0,.int .u64 0,.bool true] 128)));have e6:(w5.alloc (.cells #[.int .i64 0,.int .i64 ((p:Int)+(F:Int)),.int .u64 0,.int .u64 0,.int .u64 0,.int .u64 0,.bool true] 128)).cell? ⟨w.heap.size+1,1,none⟩=some (.slice aE E.length cE):=iu.out.s4.at_ 1;refine hK.out _ _ (dt.out _ _ iu.out.s4 zd.out) (fun hHeld=>?_);clear hK K
     try simp only[put,sA,sB,sC]
     refine bq 1 (fun K hK=>?_);skip;go_simp;refine hK.out _ _ (dt.out _ _ iu.out.s4 zd.out) (fun hHeld=>?_);clear hK K
     try simp only[put,sA,sB,sC]
     refine bq 9 (fun K hK=>?_);skip;skip;refine rz (by rfl) _ _ _ (by rfl) w.heap.size 128 i0 (.agg #[.int .i64 0,.int .i64 0,.int .u64 0,.int .u64 0,.int .u64 0,.int .u64 0,.bool false]) 7 56 underlying65 hi du cH ct (by rfl) (by decide) _ E.length (dc (E.map En.z)) (by rfl) iu.out.oe ⟨w5.heap.size,0,none⟩ 1 1 (#[.int .i64 0,.int .i64 ((p:Int)+(F:Int)),.int .u64 0,.int .u64 0,.int .u64 0,.int .u64 0,.bool true]).toList (by rfl) (by rfl) (news_of_block (cs:=#[.int .i64 0,.int .i64 ((p:Int)+(F:Int)),.int .u64 0,.int .u64 0,.int .u64 0,.int .u64 0,.bool true]) (t:=128) (fr:=(0,0)) (heap_alloc_new w5 _)) (by simp[oneCell']) (by unfold maxLen;omega) (by omega) iu.out.below.size ?_;intro v6 w6 aj af;obtain⟨a6,c6,rfl⟩:=bJ aj;have eY:=iu.out.s4.ae iu.out.oe (by decide) af;have pR:=zd.out.ae iu.out.oe (by decide) af;have oP:=hid (iu.out.app (L2:=[bB 0 (p+F)]) (vE':=.slice a6 (E.length+1) c6) (by first|exact (by rw[Dz.out];exact aj)|(rw[length_append];exact (by rw[Dz.out];exact aj))) af);have tz:=hid (pR.fq (p:=⟨w.heap.size+1,1,none⟩) (by show wr.heap.size≠w.heap.size+1;omega) (.slice a6 (E.length+1) c6));have t3:w6.cell? ⟨w.heap.size+1,1,none⟩=some (.slice aE E.length cE):=eY.at_ 1;have f3:=eY.aZ 1;refine hK.out _ _ (dt.out _ _ eY pR) (fun hHeld=>?_);clear hK K aj af eY pR
     try simp only[put,sA,sB,sC]
     (refine av 10 ?_;try simp only[put,sA,sB,sC])
     refine bq 11 (fun K hK=>?_);skip;go_simp;refine hK.out _ _ (dt.out _ _ oP.out.s4 tz.out) (fun hHeld=>?_);clear hK K
     try simp only[put,sA,sB,sC]
     refine wpAnyH_done (by kernel_rfl) ?_ _;clear hHeld;go_wp2_with fail
     go_meet
     exact⟨_,_,rfl,oP.out,tz.out⟩
    exact AllReadyH.nil
   exact AllReadyH.nil
  case rest=>
   obtain⟨Ju,Ge,rfl,S9,Br⟩:=hcut;obtain⟨E1,CU⟩:∃E1,E++[bB 0 (p+F)]=E1:=(⟨_,rfl⟩);have FI:E1.length=E.length+1:=(by rw[<-CU];simp);have lQ:=hid CU;rw[CU,<-FI] at S9;have hE1b:E1.length<=100101:=(by omega);have qm:=hid S9;have nV:=hid Br;clear S9 Br CU FI C6 Dz Wr;obtain⟨z0,z1,z2,z3⟩:=qm.out.s4.bS;go_wp2_with fail
   go_cut [5] from 26 to 34 (fun v wx=>∃(QI:Option Addr) (Ox:Nat),v=.slice aL k cL/\rV w p (E1++L.map (En.by p)) k (jA M k) (.slice QI (E1.length+L.length) Ox) (.slice aL k cL) wx/\St wx 67 wr.heap.size #[.int .i64 (N:Int),.slice ak L.length ck,.int .i64 (F:Int),.int .i64 (T:Int)])
   case first=>
    have iZ:=hid (qm.out.ab (Below.refl wc.heap.size wc).drew);have kd:Hid (St wc.drew 67 wr.heap.size #[.int .i64 (N:Int),.slice ak L.length ck,.int .i64 (F:Int),.int .i64 (T:Int)]):=nV.out.drew;have e2:wc.drew.cell? ⟨w.heap.size+1,1,none⟩=some (.slice Ju E1.length Ge):=iZ.out.s4.at_ 1;clear z0 z1 z2 z3;have dt:Hid (∀(W:World) (v:Value),St W 67 (w.heap.size+1) #[.int .i64 (p:Int),v,.int .i64 0,.int .i64 0]->St W 67 wr.heap.size #[.int .i64 (N:Int),.slice ak L.length ck,.int .i64 (F:Int),.int .i64 (T:Int)]->(W.cell? ⟨w.heap.size+1,0,none⟩=some (.int .i64 (p:Int))/\W.cell? ⟨wr.heap.size,1,none⟩=some (.slice ak L.length ck))):=(fun W v h1 h2=>⟨h1.at_ 0,h2.at_ 1⟩);refine wp_region_held_drew (S:=fun W'=>W'.cell? ⟨w.heap.size+1,0,none⟩=some (.int .i64 (p:Int))/\W'.cell? ⟨wr.heap.size,1,none⟩=some (.slice ak L.length ck)) (by kernel_rfl) (dt.out _ _ iZ.out.s4 kd.out) (fun hHeld=>?_)
    (refine av 0 ?_;refine av 2 ?_;refine av 3 ?_;try simp only[put,sA,sB,sC];refine av 4 ?_;refine av 5 ?_;try simp only[put,sA,sB,sC])
    refine wpAnyH_ready (rs:=[1,6]) (by kernel_rfl) (by simp) ?_;refine gy (fun K hK=>?_) ?_
    ·skip;go_simp;refine hK.out _ _ (dt.out _ _ iZ.out.s4 kd.out) (fun hHeld=>?_);clear hK K
     try simp only[put,sA,sB,sC]
     refine bq 6 (fun K hK=>?_);skip;go_simp;go_at_call 83;refine (Zb L p ak L.length ck _ (GL.out.2.below iZ.out.below) rfl tE (by omega) Rr.out).mono ?_;rintro e w5 ⟨g5,rfl,jl,v5⟩;have dk:=hid (iZ.out.ab v5);have oy:=hid (kd.out.ab v5);have qW:=hid jl;have e5:w5.cell? ⟨w.heap.size+1,1,none⟩=some (.slice Ju E1.length Ge):=dk.out.s4.at_ 1;clear v5 jl
     try go_wp2_with fail
     refine hK.out _ _ (dt.out _ _ dk.out.s4 oy.out) (fun hHeld=>?_);clear hK K
     try simp only[put,sA,sB,sC]
     refine bq 7 (fun K hK=>?_);skip;skip;refine rz (by rfl) _ _ _ (by rfl) w.heap.size 128 i0 (.agg #[.int .i64 0,.int .i64 0,.int .u64 0,.int .u64 0,.int .u64 0,.int .u64 0,.bool false]) 7 56 underlying65 hi du cH ct (by rfl) (by decide) _ E1.length (dc (E1.map En.z)) (by rfl) dk.out.oe ⟨g5,0,none⟩ L.length L.length (dc ((L.map (En.by p)).map En.z)) (by rfl) (yI qW.out).2.2.2 (news_of_block (cs:=(dc ((L.map (En.by p)).map En.z)).toArray) (yI qW.out).1) (JY _) (by unfold maxLen;omega) (by omega) dk.out.below.size ?_;intro v6 w6 aj af;obtain⟨a6,c6,rfl⟩:=bJ aj;have eY:=dk.out.s4.ae dk.out.oe (by decide) af;have pR:=oy.out.ae dk.out.oe (by decide) af;have oP:=hid (dk.out.app (L2:=(L.map (En.by p))) (vE':=.slice a6 (E1.length+L.length) c6) (by first|exact (by rw[length_map];exact aj)|(rw[length_append];exact (by rw[length_map];exact aj))) af);have tz:=hid (pR.fq (p:=⟨w.heap.size+1,1,none⟩) (by show wr.heap.size≠w.heap.size+1;omega) (.slice a6 (E1.length+L.length) c6));have t3:w6.cell? ⟨w.heap.size+1,1,none⟩=some (.slice Ju E1.length Ge):=eY.at_ 1;have f3:=eY.aZ 1;refine hK.out _ _ (dt.out _ _ eY pR) (fun hHeld=>?_);clear hK K aj af eY pR
     try simp only[put,sA,sB,sC]
     (refine av 8 ?_;try simp only[put,sA,sB,sC])
     refine bq 9 (fun K hK=>?_);skip;go_simp;refine hK.out _ _ (dt.out _ _ oP.out.s4 tz.out) (fun hHeld=>?_);clear hK K
     try simp only[put,sA,sB,sC]
     refine wpAnyH_done (by kernel_rfl) ?_ _;clear hHeld;go_wp2_with fail
     go_meet
     exact⟨_,_,rfl,oP.out,tz.out⟩
    refine gy (fun K hK=>?_) ?_
    ·skip;go_simp;go_at_call 83;refine (Zb L p ak L.length ck _ (GL.out.2.below iZ.out.below) rfl tE (by omega) Rr.out).mono ?_;rintro e w5 ⟨g5,rfl,jl,v5⟩;have dk:=hid (iZ.out.ab v5);have oy:=hid (kd.out.ab v5);have qW:=hid jl;have e5:w5.cell? ⟨w.heap.size+1,1,none⟩=some (.slice Ju E1.length Ge):=dk.out.s4.at_ 1;clear v5 jl
     try go_wp2_with fail
     refine hK.out _ _ (dt.out _ _ dk.out.s4 oy.out) (fun hHeld=>?_);clear hK K
     try simp only[put,sA,sB,sC]
     refine bq 1 (fun K hK=>?_);skip;go_simp;refine hK.out _ _ (dt.out _ _ dk.out.s4 oy.out) (fun hHeld=>?_);clear hK K
     try simp only[put,sA,sB,sC]
     refine bq 7 (fun K hK=>?_);skip;skip;refine rz (by rfl) _ _ _ (by rfl) w.heap.size 128 i0 (.agg #[.int .i64 0,.int .i64 0,.int .u64 0,.int .u64 0,.int .u64 0,.int .u64 0,.bool false]) 7 56 underlying65 hi du cH ct (by rfl) (by decide) _ E1.length (dc (E1.map En.z)) (by rfl) dk.out.oe ⟨g5,0,none⟩ L.length L.length (dc ((L.map (En.by p)).map En.z)) (by rfl) (yI qW.out).2.2.2 (news_of_block (cs:=(dc ((L.map (En.by p)).map En.z)).toArray) (yI qW.out).1) (JY _) (by unfold maxLen;omega) (by omega) dk.out.below.size ?_;intro v6 w6 aj af;obtain⟨a6,c6,rfl⟩:=bJ aj;have eY:=dk.out.s4.ae dk.out.oe (by decide) af;have pR:=oy.out.ae dk.out.oe (by decide) af;have oP:=hid (dk.out.app (L2:=(L.map (En.by p))) (vE':=.slice a6 (E1.length+L.length) c6) (by first|exact (by rw[length_map];exact aj)|(rw[length_append];exact (by rw[length_map];exact aj))) af);have tz:=hid (pR.fq (p:=⟨w.heap.size+1,1,none⟩) (by show wr.heap.size≠w.heap.size+1;omega) (.slice a6 (E1.length+L.length) c6));have t3:w6.cell? ⟨w.heap.size+1,1,none⟩=some (.slice Ju E1.length Ge):=eY.at_ 1;have f3:=eY.aZ 1;refine hK.out _ _ (dt.out _ _ eY pR) (fun hHeld=>?_);clear hK K aj af eY pR
     try simp only[put,sA,sB,sC]
     (refine av 8 ?_;try simp only[put,sA,sB,sC])
     refine bq 9 (fun K hK=>?_);skip;go_simp;refine hK.out _ _ (dt.out _ _ oP.out.s4 tz.out) (fun hHeld=>?_);clear hK K
     try simp only[put,sA,sB,sC]
     refine wpAnyH_done (by kernel_rfl) ?_ _;clear hHeld;go_wp2_with fail
     go_meet
     exact⟨_,_,rfl,oP.out,tz.out⟩
    exact AllReadyH.nil
   case rest=>
    obtain⟨VO,X7,rfl,Gm,A9⟩:=hcut;obtain⟨E2,NA⟩:∃E2,E1++L.map (En.by p)=E2:=(⟨_,rfl⟩);have IS:E2.length=E1.length+L.length:=(by rw[<-NA];simp);have LW:=hid NA;rw[NA,<-IS] at Gm;have fV:=hid Gm;have sH:=hid A9;clear Gm A9 NA IS qm nV z0 z1 z2 z3 Rr;obtain⟨z0,z1,z2,z3⟩:=fV.out.s4.bS;obtain⟨y0,y1,y2,y3⟩:=sH.out.bS;have DH:=fV.out.ol;have kI:=fV.out.below.size;obtain⟨i1,Az,JC,xh,mG⟩:=info_parts az;go_wp2_with (at_builtin;refine wpList_append_own _ rfl _ _ 30 rfl w.heap.size 3 i1 (.int .i64 0) 1 8 underlying30 Az JC xh mG rfl (by decide) _ _ _ rfl (DH.alloc _) ⟨wc.heap.size,0,none⟩ 1 1 [.int .i64 ((p:Int)+(T:Int))] rfl rfl (cell_one_new _ _ _) ?d2 ?d3 ?d4 ?d5 ?_)
    case d2=>simp[oneCell']
    case d3=>unfold maxLen;omega
    case d4=>omega
    case d5=>simp;omega
    intro v6 w6 aj af _;obtain⟨a6,c6,rfl⟩:=bJ aj;have hF:=fV.out.last (N:=N) (t:=p+T) aj af;have jU:k+1<=n:=(by omega);have HF:Hid (rV w (uo M (k+1)) (uE M (k+1)) (k+1) (jA M (k+1)) (.slice VO (uE M (k+1)).length X7) (.slice a6 (k+1) c6) (w6.setCell ⟨w.heap.size+1,0,none⟩ (.int .i64 ((p:Int)+(N:Int))))):=by
     show rV _ _ _ _ _ _ _ _;rw[L4.out.1,L4.out.2.1,L4.out.2.2];have e:E++[bB 0 (p+F)]++L.map (En.by p)=E2:=(by rw[lQ.out,LW.out]);rw[e];exact hF
    have xE:=al wc (.cells #[.int .i64 ((p:Int)+(T:Int))] 3);have eY:=(fV.out.s4.ab xE).ae (cW DH xE) (by decide) af;have TS:=(sH.out.ab xE).ae (cW DH xE) (by decide) af;clear z0 z1 z2 z3 y0 y1 y2 y3 hF xE;obtain⟨z0,z1,z2,z3⟩:=eY.bS;obtain⟨y0,y1,y2,y3⟩:=TS.bS;have f0:=eY.aZ 0;clear aj af eY TS DH fV sH;go_wp2;go_roundw
    ·exact⟨k+1,VO,X7,a6,c6,by go_num,jU,rfl,HF⟩
    simp[intOf];omega
 obtain rfl:k=n:=by omega
 obtain⟨z0,z1,z2,z3⟩:=HA.out.s4.bS;obtain⟨x0,x1,x2,x3,g0,g1,g2,g3⟩:=bK HA.out.s2;obtain⟨E,hE⟩:∃E,uE M k=E:=⟨_,rfl⟩
 obtain⟨p,hp⟩:∃p,uo M k=p:=⟨_,rfl⟩
 rw[hE,hp] at HA;rw[hp] at z0;rw[hE] at z1;have oz:Hid (St ((((wr.setCell ⟨w.heap.size,0,none⟩ (.int .i64 (p:Int))).setCell ⟨w.heap.size,1,none⟩ (.slice aE E.length cE)).setCell ⟨w.heap.size,2,none⟩ (.int .i64 0)).setCell ⟨w.heap.size,3,none⟩ (.int .i64 0)) 67 w.heap.size #[.int .i64 (p:Int),.slice aE E.length cE,.int .i64 0,.int .i64 0]):=HA.out.s2.ma _ _ _ _;have HF:=hid (Zz (E0 HA.out.oe HA.out.s2 (by decide) (.int .i64 (p:Int)) (.slice aE E.length cE) (.int .i64 0) (.int .i64 0)) (Zz (E0 HA.out.ol HA.out.s2 (by decide) (.int .i64 (p:Int)) (.slice aE E.length cE) (.int .i64 0) (.int .i64 0)) (p5 HA.out.below (le_refl _) (.int .i64 (p:Int)) (.slice aE E.length cE) (.int .i64 0) (.int .i64 0))));go_wp2_with fail;generalize (((wr.setCell ⟨w.heap.size,0,none⟩ (.int .i64 (p:Int))).setCell ⟨w.heap.size,1,none⟩ (.slice aE E.length cE)).setCell ⟨w.heap.size,2,none⟩ (.int .i64 0)).setCell ⟨w.heap.size,3,none⟩ (.int .i64 0)=Wf at HF oz⊢;obtain⟨v0,v1,v2,v3⟩:=oz.out.bS;rw[hE,hp];exact bodyPost_ret (v:=.tuple #[.agg #[.int .i64 (p:Int),.slice aE E.length cE,.int .i64 0,.int .i64 0],.slice aL k cL]) (by simp[results,results53,go_sem,v0,v1,v2,v3]) rfl ⟨aE,cE,aL,cL,rfl,HF.out.1,HF.out.2.1,HF.out.2.2⟩
theorem Pv{P:Program}{o:Oper}{a:Act}{w:World}{K:Act->World->Prop}{Q:Exit->Act->World->Prop}{E:Prop}(oG:o.guard=none)(s x:Operand)(t:TypeId)
  (ho:o.op=.call { callee:=.builtin .append,args:=#[s,x],argTypes:=#[t,t] })
  (base:Nat) (e:TypeId) (i:TypeInfo) (z:Value) (size bytes:Nat) (ht:P.underlying t=some (.slice e)) (hi:P.info? e=some i) (hz:i.zero=some z)
  (rb:i.size=size) (IE:i.bytes=bytes) (FJ:z.cells.size=size) (cU:0<size)
  (v:Value) (n:Nat) (xs:List Value) (hs:a.eval s=v) (ay:w.ownsRow base e size v n xs)
  (ad:Addr) (m c:Nat) (news:List Value) (hx:a.eval x=.slice (some ad) m c) (hl:news.length=m*size) (mT:∀j u,news[j]?=some u->w.cell? (ad.add j)=some u) (h1:∀u∈news,u.oneCell'=true)
  (JI:n+m<=maxLen) (ke:(n+m)*bytes<=140737488355328) (ru:base<=w.heap.size)
  (h:∀v' w',w'.ownsRow base e size v' (n+m) (xs++news)->w.grownBy w' v.ownBlock->(v'.ownBlock=v.ownBlock\/v'.ownBlock=some w.heap.size)->K (a.put o.dst v') w'):
  if wanted o (yielded ops a.tmps)=true then Oper.wp P o a w K Q else E:=by
 have hw:wanted o (yielded ops a.tmps)=true:=by simp[wanted,oG]
 rw[if_pos hw];obtain⟨v',w',hr,h2,h3,_,h4⟩:=run_append_own_at (P:=P) w base t o.type e i z size bytes ht hi hz rb IE FJ cU v n xs ay ad m c news hl mT h1 JI ke ru;unfold Oper.wp execOp;simp only[ho,resolve,invoke,builtin,run_bind,run_pure,Result.andThen_ok,List.map_toArray,map_cons,map_nil,hs,hx,hr];exact h v' w' h2 h3 h4
theorem zn2(V:World)(B:Nat)(bs:List Nat)(bm gI m M bM bn gM cM:Nat)(cs:Array Value)(mk:Nat->Int)(HV:kW V B bn gM M cM mk)(fu:∀i,i<M->-1<=mk i)(pG:cs[0]?=some (.pointer (some ⟨bn,0,none⟩)))(hM:M<=100000)
  (l:List Nat) (vL vS vK:Value) (k n:Nat) (ss:List ByteArray) (ms:List Int) (Q Q':Value->Value->Prop) (s:ByteArray) (hs:s.size<=100000) (hk:k<=1000000) (hn:n<=1000000) (gW:∀y,¬Q (.string s) y) (T9:∀x y,Q x y->Q' x y) (Xs:Q' (.string s) (.int .i64 (k:Int))) (Yn:∀x y,Q' x y->x≠.string s->∃y',Q x y')
  (wr:World) (h:iP V B bs bm gI m M cs l vL wr) (t:mi V B bs bM cs vL k k n ss ms Q vS vK wr):
  Calls prog 119 #[.pointer (some ⟨bm,0,none⟩),.string s] wr (KO V B bs bm gI m M bM cs l vL k n ss ms Q' s mk):=by
 obtain⟨aS,cS,rfl⟩:=bJ t.os;obtain⟨aK,cK,rfl⟩:=bJ t.ok;have c1:wr.cell? ⟨bm,259,none⟩=some (.slice aS k cS):=(h.r.other 259 (by decide)).trans t.cS;obtain⟨kl,hkl⟩:∃kl,keyOf prog 9 (.string s)=some kl:=⟨_,Go.WideMaps.keyOf_string_mk underlying9 (by unfold maxLen;omega)⟩
 have HH:=hid (Zz h t);have RN:=hid (Zz HV (Zz fu pG));have HQ:=hid (Zz T9 (Zz Xs (Zz Yn gW)));obtain⟨i0,hi,du,cH,ct⟩:=info_parts az;obtain⟨i1,Az,JC,xh,mG⟩:=info_parts oI;have hO:=t.os;have ll:=h.r.hB;clear h t HV fu pG T9 Xs Yn gW;go_enter func119,ntmps119;go_wp2_with (at_builtin;refine wpList_append_own_at _ rfl _ _ 122 rfl B 9 i1 (.string ⟨#[]⟩) 1 16 underlying122 Az JC xh mG rfl (by decide) _ _ _ rfl (hO.alloc _) ⟨wr.heap.size,0,none⟩ 1 1 [.string s] rfl rfl (cell_one_new _ _ _) ?d2 ?d3 ?d4 ?d5 ?_)
 case d2=>intro u hu;simp at hu;subst hu;rfl
 case d3=>unfold maxLen;omega
 case d4=>omega
 case d5=>simp;omega
 intro v' w5 ah ag _ bG;obtain⟨a5,c5,rfl⟩:=bJ ah;have xE:=al wr (.cells #[.string s] 9);have lx:=zpY (HH.out.1.ab xE) (HH.out.2.ab xE) (s:=s) (vS':=.slice a5 (k+1) c5) ah ag (by rw[show (wr.alloc (.cells #[.string s] 9)).heap.size=wr.heap.size+1 by simp];exact bG);have Cx:St w5 125 bm _:=(HH.out.1.ab xE).r.sm.ae (HH.out.2.ab xE).os (by decide) ag;have p1:w5.cell? ⟨bm,259,none⟩=some (.slice aS k cS):=by rw[Cx.at_,getElem?_setIfInBounds_ne (by decide)];exact HH.out.2.cS
 have pf:=Cx.aZ 259;have HS:=hid lx;have CG:=lx.2.map;have q1:(w5.setCell ⟨bm,259,none⟩ (.slice a5 (k+1) c5)).cell? ⟨bm,260,none⟩=some (.map (some bM)):=(lx.1.r.other 260 (by decide)).trans lx.2.cM;clear ah ag bG xE lx Cx hO;go_wp2_with (at_mapUpdate;refine zdy _ rfl _ _ _ 123 rfl 9 3 Ct underlying123 bM n Q Q' rfl CG (by unfold maxLen;omega) _ _ kl rfl rfl hkl HQ.out.2.2.2 HQ.out.1 HQ.out.2.1 HQ.out.2.2.1 ?_);intro w6 px gu;have iQ:=XY HS.out.1 HS.out.2 px gu;clear px gu CG q1 p1 pf HS;have fV:Hid (iP V B bs bm gI m M (cs.setIfInBounds 259 (.slice a5 (k+1) c5)) l vL w6.drew/\mi V B bs bM (cs.setIfInBounds 259 (.slice a5 (k+1) c5)) vL (k+1) k (n+1) (ss++[s]) ms Q' (.slice a5 (k+1) c5) (.slice aK k cK) w6.drew):=
  ⟨iQ.1.ab (Below.refl w6.heap.size w6).drew,iQ.2.ab (Below.refl w6.heap.size w6).drew⟩
 clear iQ;generalize w6=W3 at fV⊢;have e3:W3.drew.cell? ⟨bm,258,none⟩=some (.slice aK k cK):=(fV.out.1.r.other 258 (by decide)).trans fV.out.2.cK;have Za:=hid (zgy V B bs bm gI m M bn gM cM (cs.setIfInBounds 259 (.slice a5 (k+1) c5)) mk RN.out.1 RN.out.2.1 (by rw[getElem?_setIfInBounds_ne (by decide)];exact RN.out.2.2) hM l vL W3.drew fV.out.1);go_wp2_with fail;refine wp_region_held_drew (S:=fun _=>True) (by kernel_rfl) trivial (fun hHeld=>?_)
 (refine av 0 ?_;refine av 1 ?_;refine av 2 ?_;try simp only[put,sA,sB,sC];refine av 3 ?_;refine av 4 ?_;refine av 6 ?_;try simp only[put,sA,sB,sC])
 refine wpAnyH_ready (rs:=[5,7]) (by kernel_rfl) (by simp) ?_;refine gy (fun K hK=>?_) ?_
 ·skip;go_simp;refine hK.out _ _ trivial (fun hHeld=>?_);clear hK K
  try simp only[put,sA,sB,sC]
  refine bq 7 (fun K hK=>?_);skip;go_simp;go_at_call 146;refine Za.out.mono ?_;rintro e w5 ⟨r,rfl,hr,rfl⟩;have HR:=hid hr;clear hr
  try go_wp2_with fail
  refine hK.out _ _ trivial (fun hHeld=>?_);clear hK K
  try simp only[put,sA,sB,sC]
  refine bq 8 (fun K hK=>?_);skip;go_simp;have iu:=hid (fV.out.1.ab (al W3.drew (.cells #[.int .i64 r] 3)));have pA:=hid (fV.out.2.ab (al W3.drew (.cells #[.int .i64 r] 3)));have e6:(W3.alloc (.cells #[.int .i64 r] 3)).cell? ⟨bm,258,none⟩=some (.slice aK k cK):=(iu.out.r.other 258 (by decide)).trans pA.out.cK;refine hK.out _ _ trivial (fun hHeld=>?_);clear hK K
  try simp only[put,sA,sB,sC]
  refine bq 9 (fun K hK=>?_);skip;skip;refine Pv (by rfl) _ _ _ (by rfl) B 3 i0 (.int .i64 0) 1 8 underlying30 hi du cH ct (by rfl) (by decide) _ k (ints ms) (by rfl) pA.out.ok ⟨W3.heap.size,0,none⟩ 1 1 (#[.int .i64 r]).toList (by rfl) (by rfl) (news_of_block (cs:=#[.int .i64 r]) (t:=3) (fr:=(0,0)) (heap_alloc_new W3.drew _)) (by simp[oneCell']) (by unfold maxLen;omega) (by omega) iu.out.r.hB ?_;intro v6 w6 aj af db;obtain⟨a6,c6,rfl⟩:=bJ aj;have fu:=QZ iu.out pA.out (r:=r) (vK':=.slice a6 (k+1) c6) aj af db;have ny:St w6 125 bm _:=iu.out.r.sm.ae pA.out.ok (by decide) af;have t3:w6.cell? ⟨bm,258,none⟩=some (.slice aK k cK):=by rw[ny.at_,getElem?_setIfInBounds_ne (by decide)];exact pA.out.cK
  have f3:=ny.aZ 258;have HF:Hid (KO V B bs bm gI m M bM cs l vL k n ss ms Q' s mk (.returned (.int .i64 (k:Int))) (w6.setCell ⟨bm,258,none⟩ (.slice a6 (k+1) c6))):=⟨r,_,_,rfl,HR.out,fu.1,fu.2⟩
  refine hK.out _ _ trivial (fun hHeld=>?_);clear hK K aj af db fu ny
  try simp only[put,sA,sB,sC]
  (refine av 10 ?_;refine av 11 ?_;refine av 12 ?_;try simp only[put,sA,sB,sC])
  refine bq 13 (fun K hK=>?_);skip;go_simp;refine hK.out _ _ trivial (fun hHeld=>?_);clear hK K
  try simp only[put,sA,sB,sC]
  refine wpAnyH_done (by kernel_rfl) ?_ _;clear hHeld;go_wp2;go_ret;exact HF.out
 refine gy (fun K hK=>?_) ?_
 ·skip;go_simp;go_at_call 146;refine Za.out.mono ?_;rintro e w5 ⟨r,rfl,hr,rfl⟩;have HR:=hid hr;clear hr
  try go_wp2_with fail
  refine hK.out _ _ trivial (fun hHeld=>?_);clear hK K
  try simp only[put,sA,sB,sC]
  refine wpAnyH_ready (rs:=[5,8]) (by kernel_rfl) (by simp) ?_;refine gy (fun K hK=>?_) ?_
  ·skip;go_simp;refine hK.out _ _ trivial (fun hHeld=>?_);clear hK K
   try simp only[put,sA,sB,sC]
   refine bq 8 (fun K hK=>?_);skip;go_simp;have iu:=hid (fV.out.1.ab (al W3.drew (.cells #[.int .i64 r] 3)));have pA:=hid (fV.out.2.ab (al W3.drew (.cells #[.int .i64 r] 3)));have e6:(W3.alloc (.cells #[.int .i64 r] 3)).cell? ⟨bm,258,none⟩=some (.slice aK k cK):=(iu.out.r.other 258 (by decide)).trans pA.out.cK;refine hK.out _ _ trivial (fun hHeld=>?_);clear hK K
   try simp only[put,sA,sB,sC]
   refine bq 9 (fun K hK=>?_);skip;skip;refine Pv (by rfl) _ _ _ (by rfl) B 3 i0 (.int .i64 0) 1 8 underlying30 hi du cH ct (by rfl) (by decide) _ k (ints ms) (by rfl) pA.out.ok ⟨W3.heap.size,0,none⟩ 1 1 (#[.int .i64 r]).toList (by rfl) (by rfl) (news_of_block (cs:=#[.int .i64 r]) (t:=3) (fr:=(0,0)) (heap_alloc_new W3.drew _)) (by simp[oneCell']) (by unfold maxLen;omega) (by omega) iu.out.r.hB ?_;intro v6 w6 aj af db;obtain⟨a6,c6,rfl⟩:=bJ aj;have fu:=QZ iu.out pA.out (r:=r) (vK':=.slice a6 (k+1) c6) aj af db;have ny:St w6 125 bm _:=iu.out.r.sm.ae pA.out.ok (by decide) af;have t3:w6.cell? ⟨bm,258,none⟩=some (.slice aK k cK):=(by rw[ny.at_,getElem?_setIfInBounds_ne (by decide)];exact pA.out.cK);have f3:=ny.aZ 258;have HF:Hid (KO V B bs bm gI m M bM cs l vL k n ss ms Q' s mk (.returned (.int .i64 (k:Int))) (w6.setCell ⟨bm,258,none⟩ (.slice a6 (k+1) c6))):=(⟨r,_,_,rfl,HR.out,fu.1,fu.2⟩);refine hK.out _ _ trivial (fun hHeld=>?_);clear hK K aj af db fu ny
   try simp only[put,sA,sB,sC]
   (refine av 10 ?_;refine av 11 ?_;refine av 12 ?_;try simp only[put,sA,sB,sC])
   refine bq 13 (fun K hK=>?_);skip;go_simp;refine hK.out _ _ trivial (fun hHeld=>?_);clear hK K
   try simp only[put,sA,sB,sC]
   refine wpAnyH_done (by kernel_rfl) ?_ _;clear hHeld;go_wp2;go_ret;exact HF.out
  refine gy (fun K hK=>?_) ?_
  ·skip;go_simp;have iu:=hid (fV.out.1.ab (al W3.drew (.cells #[.int .i64 r] 3)));have pA:=hid (fV.out.2.ab (al W3.drew (.cells #[.int .i64 r] 3)));have e6:(W3.alloc (.cells #[.int .i64 r] 3)).cell? ⟨bm,258,none⟩=some (.slice aK k cK):=(iu.out.r.other 258 (by decide)).trans pA.out.cK;refine hK.out _ _ trivial (fun hHeld=>?_);clear hK K
   try simp only[put,sA,sB,sC]
   refine bq 5 (fun K hK=>?_);skip;go_simp;refine hK.out _ _ trivial (fun hHeld=>?_);clear hK K
   try simp only[put,sA,sB,sC]
   refine bq 9 (fun K hK=>?_);skip;skip;refine Pv (by rfl) _ _ _ (by rfl) B 3 i0 (.int .i64 0) 1 8 underlying30 hi du cH ct (by rfl) (by decide) _ k (ints ms) (by rfl) pA.out.ok ⟨W3.heap.size,0,none⟩ 1 1 (#[.int .i64 r]).toList (by rfl) (by rfl) (news_of_block (cs:=#[.int .i64 r]) (t:=3) (fr:=(0,0)) (heap_alloc_new W3.drew _)) (by simp[oneCell']) (by unfold maxLen;omega) (by omega) iu.out.r.hB ?_;intro v6 w6 aj af db;obtain⟨a6,c6,rfl⟩:=bJ aj;have fu:=QZ iu.out pA.out (r:=r) (vK':=.slice a6 (k+1) c6) aj af db;have ny:St w6 125 bm _:=iu.out.r.sm.ae pA.out.ok (by decide) af;have t3:w6.cell? ⟨bm,258,none⟩=some (.slice aK k cK):=(by rw[ny.at_,getElem?_setIfInBounds_ne (by decide)];exact pA.out.cK);have f3:=ny.aZ 258;have HF:Hid (KO V B bs bm gI m M bM cs l vL k n ss ms Q' s mk (.returned (.int .i64 (k:Int))) (w6.setCell ⟨bm,258,none⟩ (.slice a6 (k+1) c6))):=(⟨r,_,_,rfl,HR.out,fu.1,fu.2⟩);refine hK.out _ _ trivial (fun hHeld=>?_);clear hK K aj af db fu ny
   try simp only[put,sA,sB,sC]
   (refine av 10 ?_;refine av 11 ?_;refine av 12 ?_;try simp only[put,sA,sB,sC])
   refine bq 13 (fun K hK=>?_);skip;go_simp;refine hK.out _ _ trivial (fun hHeld=>?_);clear hK K
   try simp only[put,sA,sB,sC]
   refine wpAnyH_done (by kernel_rfl) ?_ _;clear hHeld;go_wp2;go_ret;exact HF.out
  exact AllReadyH.nil
 exact AllReadyH.nil
def kr(bm gI:Nat)(vL:Value):List Nat:=bm :: gI :: vL.ownBlock.toList
theorem iv.base{B m:Nat}{bs:List Nat}{cs:Array Value}{P:Nat->Bool}{l:List Nat}(h:iv V B bs bm gI m cs P l vL wr):iv wr B (kr bm gI vL) bm gI m cs P l vL wr:=
 ⟨Kept.refl _ _ _,Below.refl _ _,h.sm,h.sz,h.cI,h.lg,h.cY,fun b e=>inl (by simp[kr,e]),⟨by simp[kr],by simp[kr]⟩,h.lo.1,h.lo.2.1,h.hB⟩
theorem iv.back{B m:Nat}{bs:List Nat}{cs ix:Array Value}{P:Nat->Bool}{l:List Nat}(h:iv V B bs bm gI m cs P l vL wr)(h':iv wr B (kr bm gI vL) bm gI m ix P' l' jd w3):iv V B bs bm gI m ix P' l' jd w3:=by
 have cU:=h.below.size;refine⟨fun k o hk ho hn=>h'.kept k o (h.kept k o hk ho hn) ho (fun hm=>?_),h.below.trans h'.below,h'.sm,h'.sz,h'.cI,h'.lg,h'.cY,fun b e=>?_,h.jT,h.lo⟩
 ·simp only[kr,mem_cons,mem_toList] at hm;rcases hm with rfl|rfl|hm
  ·exact hn h.jT.1
  ·exact hn h.jT.2
  rcases h.loc k hm with h1|h1
  ·exact hn h1
  have:=(Array.getElem?_eq_some_iff.1 hk).1;omega
 rcases h'.loc b e with hm|hm
 ·simp only[kr,mem_cons,mem_toList] at hm;rcases hm with rfl|rfl|hm
  ·exact inl h.jT.1
  ·exact inl h.jT.2
  exact h.loc b hm
 exact inr (by omega)
theorem mi.over{B m k q n:Nat}{bs:List Nat}{cs:Array Value}{P:Nat->Bool}{l:List Nat}{ms:List Int}{Q:Value->Value->Prop}(h:iv V B bs bm gI m cs P l vL wr)(t:mi V B bs bM cs vL k q n ss ms Q vS vK wr)
  (h':iv wr B (kr bm gI vL) bm gI m cs P' l' jd w3):mi V B bs bM cs jd k q n ss ms Q vS vK w3:=by
 have hn:∀{t' n':Nat}{v:Value}{xs:List Value},wr.ownsRow B t' 1 v n' xs->t'≠125->t'≠5->(∀b,vL.ownBlock=some b->v.ownBlock≠some b)->∀g,v.ownBlock=some g->g∉kr bm gI vL:=by
  intro t' n' v xs ho h1 h2 h3 g hg hm;simp only[kr,mem_cons,mem_toList] at hm;rcases hm with rfl|rfl|hm
  ·exact ef ho h.sm h1 g hg rfl
  ·exact iy ho h.lg h2 g hg rfl
  exact h3 g hm hg
 refine⟨t.cK,t.cS,t.cM,fA t.os h'.kept (by simp) (hn t.os (by decide) (by decide) (fun b e1 e2=>iy h.cY t.os (by decide) b e1 e2)),fA t.ok h'.kept (by simp) (hn t.ok (by decide) (by decide) t.sep),t.map.kept h'.kept ?_,fun b e1 e2=>?_,t.lS,t.lK,t.lM⟩
 ·simp only[kr,mem_cons,mem_toList];rintro (e|e|e)
  ·exact A3 t.map h.sm e.symm
  ·exact wH t.map h.lg gI rfl e.symm
  exact wH t.map h.cY bM e rfl
 rcases h'.loc b e1 with hm|hm
 ·exact hn t.ok (by decide) (by decide) t.sep b e2 hm
 obtain⟨c,fz,hc⟩:=pL t.ok b e2;have:=(Array.getElem?_eq_some_iff.1 hc).1;omega
def j9(M:Nat)(f:Nat->Bool):ByteArray:=strOf (fT f M)
theorem Ta(M:Nat)(f g:Nat->Bool):j9 M f=j9 M g↔∀x,x<M->f x=g x:=by
 constructor
 ·intro h;exact (Ld f g M).1 (QL (IW _ M) (IW _ M) (by rw[<-yD,<-yD];exact congrArg (fun s:ByteArray=>s.data.toList) h))
 intro h;unfold j9;rw[(Ld f g M).2 h]
def MQ(M:Nat)(D:List ((Nat->Bool) × Nat))(x y:Value):Prop:=∃p∈D,x=.string (j9 M p.1)/\y=.int .i64 ((p.2:Nat):Int)
structure Inv (L:List En)(M:Nat)(mk:Nat->Int)(SS:List (Nat->Bool))(ms:List Int)(D:List ((Nat->Bool) × Nat)):Prop where
 own:∀j (h:j<SS.length),(SS[j],j)∈D
 NM:∀p∈D,∃h:p.2<SS.length,∀x,x<M->(SS[p.2] x=true↔FR L (fun y=>y<M/\p.1 y=true) x)
 len:ms.length=SS.length
 dj:∀j (h:j<SS.length) (h2:j<ms.length),bI mk (fun x=>x<M/\SS[j] x=true) ms[j]
theorem Z0(f:Nat->Bool)(M m:Nat)(hm:(M+7) / 8=m)(h:∀x,f x=true->x<M):ic f m=fT f M:=by
 unfold ic fT;rw[hm];refine List.map_congr_left fun j _=>SW fun k _=>?_
 by_cases e:8*j+k<M
 ·simp[bZ,e]
 have:f (8*j+k)=false:=by
  cases hf:f (8*j+k) with
  | false=>rfl
  | true=>exact absurd (h _ hf) e
 simp[bZ,e,this]
theorem iv.IM{W:World}{B m:Nat}{bs:List Nat}{cs:Array Value}{P:Nat->Bool}{l:List Nat}(h:iv V B bs bm gI m cs P l vL wr)(k:Kept [] (kr bm gI vL) wr W):Kept [] bs V W:=fun k0 o hk ho hn=>k k0 o (h.kept k0 o hk ho hn) ho (fun hm=>by
 simp only[kr,mem_cons,mem_toList] at hm
 rcases hm with rfl|rfl|hm
 ·exact hn h.jT.1
 ·exact hn h.jT.2
 ·rcases h.loc k0 hm with h1|h1
  ·exact hn h1
  ·have:=(Array.getElem?_eq_some_iff.1 hk).1
   omega)
theorem FR.idem{A:Nat->Prop}(x:Nat):FR L (FR L A) x↔FR L A x:=by
 constructor
 ·intro k
  induction k with
  | base h=>exact h
  | step e _ h1 h2 h3 h4 ih=>exact .step e ih h1 h2 h3 h4
 exact .base
theorem aO.again{w:World}{k t e:TypeId}{b n:Nat}{Q:Value->Value->Prop}(h:aO w k b n Q)(K:Keyed prog k)(ht:prog.underlying t=some (.map k e))
  {key val:Value}{kl:Lit}(dX:keyOf prog k key=some kl) (hv:Q key val):∃w',(Instr.mapUpdate t (.map (some b)) key val).run prog w=.ok () w'/\aO w' k b n Q/\w.grownBy w' (some b):=by
 obtain⟨es,clock,hb,F,hs,hq,eb⟩:=h;obtain⟨F1,_,_⟩:=F.stay (R':=fy) (fun x hx z hz=>hz);rcases K.find w dX es.toList F.keys with ⟨h1,h2⟩|⟨j,e0,h1,h2,h3⟩
 ·obtain⟨e1,h4,h5⟩:=eb _ _ hv;exact absurd h5 (h2 e1 h4)
 have hj:es[j]?=some e0:=by simpa using h2
 have qz:∀e',es[j]?=some e'->({ e' with key:=key,val:=val }:MapEntry).key=e'.key:=fun e' jw=>by rw[hj] at jw;cases jw;exact h3.symm
 have jE:(es.modify j (fun e'=>{ e' with key:=key,val:=val })).toList=es.toList.set j { e0 with key:=key,val:=val }:=by rw[Array.toList_modify,modify_eq_set _ _ _ _ h2]
 have AN:∀x∈es.toList.set j { e0 with key:=key,val:=val },x={ e0 with key:=key,val:=val }\/x∈es.toList:=by
  intro x hx;rcases List.mem_or_eq_of_mem_set hx with h|h
  ·exact inr h
  exact inl h
 have oC:∀bn,WideElems.rd prog k fy ⟨key,val,bn⟩=some (kl,.held val):=fun bn=>by unfold WideElems.rd fy;rw[dX];rfl
 refine⟨setBlock w b (.map (es.modify j (fun e'=>{ e' with key:=key,val:=val })) clock),?_,⟨es.modify j (fun e'=>{ e' with key:=key,val:=val }),clock,heap_setBlock_same hb _,⟨by simpa using F.size,stamped_modify F.stamped _ _ (fun _ _=>rfl) (fun e' _ jw=>qz e' jw),?_⟩,by simpa using hs,fun x hx=>?_,fun x y hx=>?_⟩,⟨rfl,rfl,rfl,by simp[setBlock],fun i _ hi=>heap_setBlock_other hb _ (fun e=>hi (by rw[e]))⟩⟩
 ·simp[Instr.mapUpdate,run_underlying ht,MapKept.run_getObj_map hb,K.check w false dX,h1,hj,h3,K.stays w dX,MapKept.run_setObj_map _ hb,Result.andThen,setBlock]
 ·intro x hx;rw[jE] at hx;rcases AN x hx with rfl|wB
  ·exact⟨_,oC _⟩
  exact F1.reads x wB
 ·rw[jE] at hx;rcases AN x hx with rfl|wB
  ·exact hv
  exact hq x wB
 obtain⟨e1,h4,h5⟩:=eb x y hx;rw[jE];obtain⟨i,hi,ei⟩:=List.getElem_of_mem h4;by_cases Qc:i=j
 ·refine⟨{ e0 with key:=key,val:=val },List.mem_set (by rw[<-Qc];exact hi) _,?_⟩;subst Qc;rw[List.getElem?_eq_getElem hi,ei] at h2;injection h2 with h2;rw[<-h5,h2];exact h3.symm
 exact⟨e1,by
  have:(es.toList.set j { e0 with key:=key,val:=val })[i]?=some e1:=by
   rw[List.getElem?_set_ne (fun e=>Qc e.symm),List.getElem?_eq_getElem hi,ei]
  exact List.mem_of_getElem? this,h5⟩
def JH(V:World)(B:Nat)(bs:List Nat)(bm gI m M bM:Nat)(cs:Array Value)(L:List En)(mk:Nat->Int)(SS:List (Nat->Bool))(st:List Nat)(n:Nat)(e:Ending)(w':World):Prop:=
 ∃(j:Nat) (jz:List (Nat->Bool)) (sX:List Int) (D':List ((Nat->Bool) × Nat)) (jd vS' vK':Value) (ix:Array Value) (l':List Nat) (n':Nat),e=.returned (.int .i64 (j:Int))/\iP V B bs bm gI m M ix l' jd w'/\
  mi V B bs bM ix jd jz.length jz.length n' (jz.map (j9 M)) sX (MQ M D') vS' vK' w'/\Inv L M mk jz sX D'/\n'+2*SS.length<=n+2*jz.length/\(∀i,i≠258->i≠259->ix[i]?=cs[i]?)/\(∃h:j<jz.length,∀x,x<M->(jz[j] x=true↔FR L (fun y=>y∈st) x))/\
  (jz=SS\/∃f,jz=SS++[f]/\j=SS.length/\∀i (h:i<SS.length),∃x,x<M/\SS[i] x≠f x)
theorem VZ(V:World)(B:Nat)(bs:List Nat)(bm gI m M bM bn gM cM gF cF:Nat)(aF:Nat->Option Addr)(cR:Nat->Nat)(L:List En)(HF:lU V B bn gF M cF aF cR L)(hE:∀e∈L,e.f<M/\e.t<M)(MC:L.length<=6400)(cs:Array Value)(mk:Nat->Int)(HV:kW V B bn gM M cM mk)(fu:∀i,i<M->-1<=mk i)(pG:cs[0]?=some (.pointer (some ⟨bn,0,none⟩)))(hM:M<=100000)(hm:(M+7) / 8=m)
  (P:Nat->Bool) (l:List Nat) (vL vS vK:Value) (n:Nat) (SS:List (Nat->Bool)) (ms:List Int) (D:List ((Nat->Bool) × Nat)) (hk:SS.length<=100000) (hn:n<=100000) (tH:l.length<=100000)
  (a:Option Addr) (q c:Nat) (st:List Nat) (bQ:st.length=q) (hq:q<=100000000000) (an:∀x∈st,x<M) (hr:∀W,Kept [] bs V W->Bm W W.heap.size a st)
  (wr:World) (h:iv V B bs bm gI m cs P l vL wr) (t:mi V B bs bM cs vL SS.length SS.length n (SS.map (j9 M)) ms (MQ M D) vS vK wr) (inv:Inv L M mk SS ms D):
  Calls prog 80 #[.pointer (some ⟨bm,0,none⟩),.slice a q c] wr (JH V B bs bm gI m M bM cs L mk SS st n):=by
 have HH:=hid (Zz h (Zz t inv));have HN:=hid (Zz HF (Zz hE (Zz HV (Zz fu (Zz pG hm)))));have HG:=hid (zht wr B (kr bm gI vL) bm gI m M cs P l vL wr h.base hM hm (by omega) a q c st bQ hq an (fun W hW=>hr W (h.IM hW)));clear h t inv HF hE HV fu pG bQ an hr;go_enter func80,ntmps80;go_wp2_with fail;refine HG.out.mono ?_;rintro e w2 ⟨l2,qu,rfl,h2,fY⟩;obtain⟨f2,nU⟩:∃f2:Nat->Bool,(fun x=>decide (x∈l2))=f2:=⟨_,rfl⟩
 have M8:=h2.ab (Below.refl w2.heap.size w2).drew;have Ml:=mi.over HH.out.1 HH.out.2.1 M8.r;have DS:∀x,f2 x=true->x<M:=fun x hx=>h2.lt x (by rw[<-nU] at hx;simpa using hx)
 have hcv:(convert 86 9 (.slice (some ⟨gI,0,none⟩) m m)).run prog w2.drew=.ok (.string (j9 M f2)) w2.drew:=by
  have:=LM (l:=ic f2 m) (by have:=M8.r.lg;rw[nU] at this;exact this) (by rw[LP]);rw[Z0 f2 M m HN.out.2.2.2.2.2 DS] at this;exact this
 have hkl:keyOf prog 9 (.string (j9 M f2))=some _:=Go.WideMaps.keyOf_string_mk underlying9 (by unfold j9;rw[yM];simp[fT];unfold maxLen;omega);have WU:∀x,FR L (fun y=>y<M/\f2 y=true) x↔FR L (fun y=>y∈st) x:=fun x=>FR.congr (fun y=>by
  rw[<-fY,<-nU]
  exact⟨fun h=>by simpa using h.2,fun h=>⟨h2.lt y h,by simpa using h⟩⟩) x
 have c0:w2.cell? ⟨bm,260,none⟩=some (.map (some bM)):=(h2.r.other 260 (by decide)).trans Ml.cM;have c1:w2.cell? ⟨bm,261,none⟩=some (.slice (some ⟨gI,0,none⟩) m m):=h2.r.cells.1;have H2:=hid (Zz M8 (Zz Ml (Zz fY (Zz WU (Zz nU DS)))));have xm:=Ml.map.np Ct underlying123 (Mt w2.drew) hkl;clear h2 fY HG M8 Ml WU hkl DS;rcases xm with ⟨cj,gW⟩|⟨v,⟨p,hp,zo,rfl⟩,cj⟩
 ·have nN:=hid gW;clear gW;go_wp2_with fail
  go_region
  go_wp2_with fail;refine (zhf wr B (kr bm gI vL) bm gI m M bn gF cF cs aF cR L (HN.out.1.below HH.out.1.below) HN.out.2.2.2.2.1 HN.out.2.1 hM HN.out.2.2.2.2.2 MC l2 qu w2.drew H2.out.1).mono ?_;rintro e w4 ⟨l4,Lu,rfl,h4,ve⟩;obtain⟨f4,Li⟩:∃f4:Nat->Bool,(fun x=>decide (x∈l4))=f4:=⟨_,rfl⟩
  have t4:=mi.over HH.out.1 HH.out.2.1 h4.r;have Fx:∀x,f4 x=true->x<M:=fun x hx=>h4.lt x (by rw[<-Li] at hx;simpa using hx)
  have ze:∀x,f4 x=true↔x∈l4:=fun x=>by rw[<-Li];simp
  have hcv4:(convert 86 9 (.slice (some ⟨gI,0,none⟩) m m)).run prog w4=.ok (.string (j9 M f4)) w4:=by
   have:=LM (l:=ic f4 m) (by have:=h4.r.lg;rw[Li] at this;exact this) (by rw[LP]);rw[Z0 f4 M m HN.out.2.2.2.2.2 Fx] at this;exact this
  have Is:keyOf prog 9 (.string (j9 M f4))=some _:=Go.WideMaps.keyOf_string_mk underlying9 (by unfold j9;rw[yM];simp[fT];unfold maxLen;omega);have QY:(j9 M f4).size<=100000:=by unfold j9;rw[yM];simp[fT];omega
  have gV:∀x,x∈l4↔FR L (fun y=>y∈st) x:=fun x=>by rw[ve x];exact FR.congr (fun y=>H2.out.2.2.1 y) x
  have Ir:∀x,FR L (fun y=>y<M/\f4 y=true) x↔FR L (fun y=>y∈st) x:=fun x=>by
   rw[show FR L (fun y=>y<M/\f4 y=true) x↔FR L (FR L (fun y=>y∈st)) x from FR.congr (fun y=>⟨fun h=>(gV y).1 ((ze y).1 h.2),fun h=>⟨h4.lt y ((gV y).2 h),(ze y).2 ((gV y).2 h)⟩⟩) x];exact FR.idem x
  have d0:w4.cell? ⟨bm,260,none⟩=some (.map (some bM)):=(h4.r.other 260 (by decide)).trans t4.cM;have d1:w4.cell? ⟨bm,261,none⟩=some (.slice (some ⟨gI,0,none⟩) m m):=h4.r.cells.1;have TR:iP V B bs bm gI m M cs l4 Lu w4:=⟨HH.out.1.back h4.r,h4.nd,h4.lt⟩
  have H4:=hid (Zz TR (Zz t4 (Zz gV (Zz Ir ze))));have xm:=t4.map.np Ct underlying123 (Mt w4) Is;clear h4 t4 Fx ze gV Ir TR ve Li c0 c1 hcv cj;rcases xm with ⟨cj,gW⟩|⟨v,⟨p,hp,zo,rfl⟩,cj⟩
  ·obtain⟨k,vY⟩:∃k,SS.length=k:=(⟨_,rfl⟩);have HK:=hid vY;have eQ:k<=100000:=(by omega);have yO:=hid (zn2 V B bs bm gI m M bM bn gM cM cs mk HN.out.2.2.1 HN.out.2.2.2.1 HN.out.2.2.2.2.1 hM l4 Lu vS vK SS.length n (SS.map (j9 M)) ms (MQ M D) (MQ M (D++[(f4,SS.length)])) (j9 M f4) QY (by omega) (by omega) gW
    (fun x y ⟨p,hp,h1,h2⟩=>⟨p,List.mem_append.2 (inl hp),h1,h2⟩) ⟨(f4,SS.length),by simp,rfl,rfl⟩
    (fun x y ⟨p,hp,h1,h2⟩ hne=>by
     rcases List.mem_append.1 hp with hp|hp
     ·exact⟨y,p,hp,h1,h2⟩
     ·rw[List.mem_singleton.1 hp] at h1
      exact absurd h1 hne) w4 H4.out.1 H4.out.2.1)
   have Q7:=hid gW;rw[vY] at yO;clear gW vY;go_wp2_with fail;refine yO.out.mono ?_;rintro e w5 ⟨r,vS',vK',rfl,hr,Sh,FL⟩;have B7:keyOf prog 9 (.string (j9 M f2))=some _:=Go.WideMaps.keyOf_string_mk underlying9 (by unfold j9;rw[yM];simp[fT];unfold maxLen;omega);obtain⟨w6,vJ,px,gu⟩:∃w6,(Instr.mapUpdate 123 (.map (some bM)) (.string (j9 M f2)) (.int .i64 (k:Int))).run prog w5=.ok () w6/\aO w6 9 bM (n+2) (MQ M (D++[(f4,k)]++[(f2,k)]))/\w5.grownBy w6 (some bM):=by
    by_cases e:j9 M f2=j9 M f4
    ·obtain⟨w6,h1,h2,h3⟩:=FL.map.again Ct underlying123 B7 (val:=.int .i64 (k:Int)) ⟨(f4,k),by simp,by rw[e],rfl⟩;refine⟨w6,h1,?_,h3⟩;have e2:MQ M (D++[(f4,k)]++[(f2,k)])=MQ M (D++[(f4,k)]):=by
      funext x y;refine propext ⟨fun ⟨p,hp,h1,h2⟩=>?_,fun ⟨p,hp,h1,h2⟩=>⟨p,List.mem_append.2 (inl hp),h1,h2⟩⟩;rcases List.mem_append.1 hp with hp|hp
      ·exact⟨p,hp,h1,h2⟩
      rw[List.mem_singleton.1 hp] at h1 h2;exact⟨(f4,k),by simp,by rw[h1,<-e],h2⟩
     rw[e2];exact h2.more (by omega)
    exact FL.map.update Ct underlying123 (by unfold maxLen;omega) B7 (Q':=MQ M (D++[(f4,k)]++[(f2,k)]))
     (fun y ⟨p,hp,h1,h2⟩=>by
      rcases List.mem_append.1 hp with hp|hp
      ·exact nN.out y ⟨p,hp,h1,h2⟩
      ·rw[List.mem_singleton.1 hp] at h1
       injection h1 with h1
       exact e h1)
     (fun x y ⟨p,hp,h1,h2⟩=>⟨p,List.mem_append.2 (inl hp),h1,h2⟩) ⟨(f2,k),by simp,rfl,rfl⟩
     (fun x y ⟨p,hp,h1,h2⟩ hne=>by
      rcases List.mem_append.1 hp with hp|hp
      ·exact⟨y,p,hp,h1,h2⟩
      ·rw[List.mem_singleton.1 hp] at h1
       exact absurd h1 hne)
   have kC:=XY Sh FL px gu;have e0:w5.cell? ⟨bm,260,none⟩=some (.map (some bM)):=(Sh.r.other 260 (by decide)).trans FL.cM;have HF:Hid (JH V B bs bm gI m M bM cs L mk SS st n (.returned (.int .i64 (k:Int))) w6):=by
    have vY:=HK.out;subst vY;have inv:=HH.out.2.2;refine⟨SS.length,SS++[f4],ms++[r],D++[(f4,SS.length)]++[(f2,SS.length)],Lu,vS',vK',_,l4,n+2,rfl,kC.1,?_,⟨fun j hj=>?_,fun p hp=>?_,by simp[inv.len],fun j hj hj2=>?_⟩,(by simp;omega),fun i h1 h2=>?_,⟨by simp,fun x hx=>?_⟩,inr ⟨f4,rfl,rfl,fun i hi=>?_⟩⟩
    ·have:=kC.2;simpa using this
    ·by_cases e:j<SS.length
     ·rw[getElem_append_left e];exact List.mem_append.2 (inl (List.mem_append.2 (inl (inv.own j e))))
     have:j=SS.length:=(by simp at hj;omega);subst this;simp
    ·rcases List.mem_append.1 hp with hp|hp
     ·rcases List.mem_append.1 hp with hp|hp
      ·obtain⟨h1,h2⟩:=inv.NM p hp;refine⟨by simp;omega,fun x hx=>?_⟩;rw[getElem_append_left h1];exact h2 x hx
      rw[List.mem_singleton.1 hp];refine⟨by simp,fun x hx=>?_⟩;simp only[List.getElem_concat_length];rw[H4.out.2.2.2.2 x,H4.out.2.2.1 x,H4.out.2.2.2.1 x]
     rw[List.mem_singleton.1 hp];refine⟨by simp,fun x hx=>?_⟩;simp only[List.getElem_concat_length];rw[H4.out.2.2.2.2 x,H4.out.2.2.1 x,H2.out.2.2.2.1 x]
    ·by_cases e:j<SS.length
     ·have e2:j<ms.length:=(by rw[inv.len];exact e);have:=inv.dj j e e2;rw[getElem_append_left e2];simpa [getElem_append_left e] using this
     have:j=SS.length:=(by simp at hj;omega);subst this;have e3:(ms++[r])[SS.length]=r:=by
      rw[List.getElem_append_right (by rw[inv.len];exact le_refl _)];simp[inv.len]
     rw[e3];refine hr.congr (fun x=>?_);simp only[List.getElem_concat_length];rw[H4.out.2.2.2.2 x];exact⟨fun h=>⟨H4.out.1.lt x h,h⟩,fun h=>h.2⟩
    ·rw[getElem?_setIfInBounds_ne (fun e=>h1 e.symm),getElem?_setIfInBounds_ne (fun e=>h2 e.symm)]
    ·simp only[List.getElem_concat_length];rw[H4.out.2.2.2.2 x,H4.out.2.2.1 x]
    refine(Classical.byContradiction fun eb=>?_);have h7:∀x,x<M->SS[i] x=f4 x:=(fun x hx=>Classical.byContradiction fun h=>eb ⟨x,hx,h⟩);exact Q7.out (.int .i64 (i:Int)) ⟨(SS[i],i),inv.own i hi,by rw[(Ta M _ _).2 h7],rfl⟩
   clear hr Sh FL px gu kC B7 Is;go_wp2;go_ret;exact HF.out
  have uG:=HH.out.2.2.NM p hp;have HF:Hid (JH V B bs bm gI m M bM cs L mk SS st n (.returned (.int .i64 (p.2:Int))) w4):=by
   refine⟨p.2,SS,ms,D,Lu,vS,vK,cs,l4,n,rfl,H4.out.1,H4.out.2.1,HH.out.2.2,by omega,fun _ _ _=>rfl,?_,inl rfl⟩;obtain⟨h1,h3⟩:=uG;refine⟨h1,fun x hx=>?_⟩;rw[h3 x hx,<-H4.out.2.2.2.1 x];injection zo with zo;have h5:=(Ta M _ _).1 zo;exact FR.congr (fun y=>⟨fun h=>⟨h.1,by rw[h5 y h.1];exact h.2⟩,fun h=>⟨h.1,by rw[<-h5 y h.1];exact h.2⟩⟩) x
  clear hp zo uG;go_wp2;go_ret;exact HF.out
 have uG:=HH.out.2.2.NM p hp;have HF:Hid (JH V B bs bm gI m M bM cs L mk SS st n (.returned (.int .i64 (p.2:Int))) w2.drew):=by
  refine⟨p.2,SS,ms,D,qu,vS,vK,cs,l2,n,rfl,⟨HH.out.1.back H2.out.1.r,H2.out.1.nd,H2.out.1.lt⟩,H2.out.2.1,HH.out.2.2,by omega,fun _ _ _=>rfl,?_,inl rfl⟩;obtain⟨h1,h3⟩:=uG;refine⟨h1,fun x hx=>?_⟩;rw[h3 x hx,<-H2.out.2.2.2.1 x];injection zo with zo;have h5:=(Ta M _ _).1 zo;exact FR.congr (fun y=>⟨fun h=>⟨h.1,by rw[h5 y h.1];exact h.2⟩,fun h=>⟨h.1,by rw[<-h5 y h.1];exact h.2⟩⟩) x
 clear hp zo uG;go_wp2_with fail
 go_region
 go_wp2;go_ret;exact HF.out
end Go.Proofs.YtbacgnhkapancaaGreat
