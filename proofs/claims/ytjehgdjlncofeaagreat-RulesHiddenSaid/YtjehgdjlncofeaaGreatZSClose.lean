import Derived.Test.YtjehgdjlncofeaaGreatZTk
import Derived.Test.YtjehgdjlncofeaaGreatZNRClose
set_option linter.unusedVariables false
set_option linter.unusedSimpArgs false
set_option maxHeartbeats 2000000
set_option maxRecDepth 100000
open Go.Lib (hid)
namespace Go.Proofs.YtjehgdjlncofeaaGreat
open Go.RowKit
def zof (s:ByteArray) (k:Nat):Nat:=(s.get! k).toNat
theorem zb5 (s:ByteArray) (k:Nat):zof s k<256:=UInt8.toNat_lt _
theorem zhI (s:ByteArray) (k:Nat) (h:k<s.size):(s[k]'h).toNat=zof s k:=by
 unfold zof
 rw[show s.get! k=s[k]'h from getElem!_pos s.data k h]
open Go.Maps Go.WideElems Go.ChangeMaps Go.MapKept
def TzOk (b t:Nat):Prop:=b≠0->t<8/\b.testBit t=true/\(b &&& (b-1))<b/\∀j,j<8->(b &&& (b-1)).testBit j=(b.testBit j && decide (j≠t))
instance (b t:Nat):Decidable (TzOk b t):=by unfold TzOk;infer_instance
theorem zlO (x:UInt8):wrap64 (x.toNat:Int)=(x.toNat:Int):=by
 have:x.toNat<256:=UInt8.toNat_lt x
 exact IntWalk.wrap64_in _ ⟨by omega,by omega⟩
theorem znD (b:Nat) (hb:b<256) (w:World):Calls Tryz.prog 147 #[.int .u8 (b:Int)] w fun e w'=>∃t:Nat,e=.returned (.int .i64 (t:Int))/\TzOk b t/\w'=w:=by
 go_enter Tryz.func147,Tryz.ntmps147
 go_wp2_with fail
 go_ret
 refine⟨_,congrArg (fun z=>Ending.returned (Value.int IntKind.i64 z)) (zlO _),?_,rfl⟩
 clear w
 rename_i h
 revert h
 revert hb
 revert b
 decide +kernel
def znE (n:Nat) (g:Nat->Bool) (w:World) (e:Ending) (w':World):Prop:=
 ∃(L:List Nat) (a:Option Addr) (c:Nat),e=.returned (.slice a L.length c)/\w'.ownsRow w.heap.size 3 1 (.slice a L.length c) L.length (zai L)/\L.Nodup/\(∀x,x∈L↔x<8*n/\g x=true)/\Below w.heap.size w w'
theorem zgQ (s:ByteArray) (n:Nat) (hs:s.size=n) (hn:n<=100000) (g:Nat->Bool) (hg:∀i,i<n->zof s i=by8 g i) (w:World):Calls Tryz.prog 120 #[.string s] w (znE n g w):=by
 have H:=hid (And.intro hs hg)
 have hss:=hs
 obtain⟨i0,hi,hz0,hz1,hz2⟩:=info_parts Tryz.info_int9
 clear hg hs
 go_enter Tryz.func120,Tryz.ntmps120
 go_wp2_with fail
 go_loopw [3,4,5,8] (fun v3 _ _ v wr=>∃(k:Nat) (L:List Nat) (a:Option Addr) (c:Nat),v=.int .i64 k/\k<=n/\v3=.slice a L.length c/\Hid (wr.ownsRow w.heap.size 3 1 (.slice a L.length c) L.length (zai L)/\L.Nodup/\(∀x,x∈L↔x<8*k/\g x=true)/\Below w.heap.size w wr)) (fun _ _ _ v _=>n-(intOf v).toNat)
 case atStart=>exact⟨0,[],none,0,rfl,Nat.zero_le _,rfl,World.ownsRow_nil _ _ _ _,List.nodup_nil,fun x=>by simp,Below.refl _ _⟩
 case round=>
  obtain⟨k,L,a,c,rfl,hk,rfl,HA⟩:=hrel
  by_cases hlt:k<n
  ·have hks:k<s.size:=by rw[hss];exact hlt
   obtain⟨bt,hbe⟩:∃bt,(s[k]'hks).toNat=bt:=⟨_,rfl⟩
   have hbz:=zhI s k hks
   rw[hbe,H.out.2 k hlt] at hbz
   have hbt:bt<256:=by rw[hbz];exact zg0 g k
   have HB:=hid hbz
   have i1:(k:Int)<(n:Int):=by omega
   clear hbz
   go_wp2_with fail
   go_loopw [3,5] (fun v3 v5 wq=>∃(b:Nat) (L2:List Nat) (a2:Option Addr) (c2:Nat),v5=.int .u8 b/\b<256/\v3=.slice a2 L2.length c2/\L2.length<=8*k+8/\Hid (wq.ownsRow w.heap.size 3 1 (.slice a2 L2.length c2) L2.length (zai L2)/\L2.Nodup/\(∀x,x∈L2↔(x<8*k/\g x=true)\/∃j,j<8/\x=8*k+j/\g x=true/\b.testBit j=false)/\Below w.heap.size w wq)/\Hid (∀j,j<8->b.testBit j=true->g (8*k+j)=true)) (fun _ v _=>(intOf v).toNat)
   case atStart=>
    refine⟨bt,L,a,c,rfl,hbt,rfl,?_,⟨HA.out.1,HA.out.2.1,fun x=>?_,HA.out.2.2.2⟩,fun j hj h=>?_⟩
    ·have:=zax HA.out.2.1 (m:=8*k) (fun x hx=>((HA.out.2.2.1 x).1 hx).1)
     omega
    ·rw[HA.out.2.2.1 x]
     constructor
     ·exact Or.inl
     ·rintro (h|⟨j,hj,rfl,h1,h2⟩)
      ·exact h
      ·rw[HB.out,zbK] at h2
       simp[hj,h1] at h2
    ·rw[HB.out,zbK] at h
     simpa [hj] using h
   case round=>
    obtain⟨b,L2,a2,c2,rfl,hb,rfl,hlen,HC,HD⟩:=hrel
    by_cases hb0:b=0
    ·subst hb0
     have HZ:Hid (wr.ownsRow w.heap.size 3 1 (.slice a2 L2.length c2) L2.length (zai L2)/\L2.Nodup/\(∀x,x∈L2↔x<8*(k+1)/\g x=true)/\Below w.heap.size w wr):=by
      refine⟨HC.out.1,HC.out.2.1,fun x=>?_,HC.out.2.2.2⟩
      rw[HC.out.2.2.1 x]
      constructor
      ·rintro (⟨h1,h2⟩|⟨j,hj,rfl,h1,h2⟩)
       ·exact⟨by omega,h2⟩
       ·exact⟨by omega,h1⟩
      ·rintro⟨h1,h2⟩
       by_cases h3:x<8*k
       ·exact Or.inl ⟨h3,h2⟩
       ·exact Or.inr ⟨x-8*k,by omega,by omega,h2,by simp⟩
     clear HA HC HD hbe
     go_wp2_with fail
     go_roundw
     case rel=>exact⟨k+1,L2,a2,c2,by go_num,by omega,rfl,HZ⟩
     case measure=>simp[intOf];omega
    ·have HC2:=hid HC.out.1
     have hO:=HC.out.1
     have hB:=HC.out.2.2.2
     have hBs:=hB.size
     obtain⟨q,hq⟩:∃q,L2.length=q:=⟨_,rfl⟩
     rw[hq] at hlen hO
     have HQ:=hid hq
     have hb1:¬((b:Int)=0):=by omega
     clear HA hbe
     go_wp2_with fail
     refine (znD b hb _).mono ?_
     rintro e w3 ⟨t,rfl,htz,rfl⟩
     obtain⟨ht8,htb,hdec,hbits⟩:=htz hb0
     rw[hq]
     go_wp2_with (at_builtin;refine wpList_append_own _ rfl _ _ 30 rfl w.heap.size 3 i0 (.int .i64 0) 1 8 Tryz.underlying30 hi hz0 hz1 hz2 rfl (by decide) _ _ _ rfl (hO.alloc _) ⟨w3.heap.size,0,none⟩ 1 1 [.int .i64 (8*(k:Int)+(t:Int))] rfl rfl (cell_one_new _ _ _) ?d2 ?d3 ?d4 ?d5 ?_)
     case d2=>intro u hu;simp at hu;subst hu;rfl
     case d3=>unfold maxLen;omega
     case d4=>omega
     case d5=>simp;omega
     intro v' w5 hown5 hgrow5 _
     obtain⟨a5,c5,rfl⟩:=zaa hown5
     have hB5:=zac (hB.trans ((al w3 (.cells #[.int .i64 (8*(k:Int)+(t:Int))] 3)).mono hBs)) (hO.alloc _) (by simp;omega) hgrow5
     have hnew:8*k+t∉L2:=by
      rw[HC.out.2.2.1]
      rintro (⟨h1,h2⟩|⟨j,hj,h1,h2,h3⟩)
      ·omega
      ·rw[show j=t by omega,htb] at h3;cases h3
     obtain⟨b2,hb2⟩:∃b2,b &&& (b-1)=b2:=⟨_,rfl⟩
     rw[hb2] at hdec hbits
     have hand:bits .and .u8 (b:Int) ((b:Int)-1)=(b2:Int):=by
      have:=u8_and_nat b (b-1) hb (by omega)
      rw[hb2] at this
      rw[<-this]
      congr 1
      omega
     have HZ:Hid (w5.ownsRow w.heap.size 3 1 (.slice a5 (L2++[8*k+t]).length c5) (L2++[8*k+t]).length (zai (L2++[8*k+t]))/\(L2++[8*k+t]).Nodup/\(∀x,x∈L2++[8*k+t]↔(x<8*k/\g x=true)\/∃j,j<8/\x=8*k+j/\g x=true/\b2.testBit j=false)/\Below w.heap.size w w5):=by
      refine⟨?_,?_,fun x=>?_,hB5⟩
      ·rw[zaL,List.length_append,hq]
       simpa using hown5
      ·refine List.nodup_append.2 ⟨HC.out.2.1,by simp,fun a ha b hb e=>?_⟩
       rw[List.mem_singleton.1 hb] at e
       exact hnew (e ▸ ha)
      ·rw[List.mem_append,HC.out.2.2.1 x,List.mem_singleton]
       constructor
       ·rintro ((h|⟨j,hj,h1,h2,h3⟩)|h)
        ·exact Or.inl h
        ·exact Or.inr ⟨j,hj,h1,h2,by rw[hbits j hj,h3];rfl⟩
        ·exact Or.inr ⟨t,ht8,h,by rw[h];exact HD.out t ht8 htb,by rw[hbits t ht8];simp⟩
       ·rintro (h|⟨j,hj,h1,h2,h3⟩)
        ·exact Or.inl (Or.inl h)
        ·by_cases e:j=t
         ·exact Or.inr (by rw[h1,e])
         ·rw[hbits j hj] at h3
          exact Or.inl (Or.inr ⟨j,hj,h1,h2,by simpa [e] using h3⟩)
     have HZ2:Hid (∀j,j<8->b2.testBit j=true->g (8*k+j)=true):=fun j hj h=>by
      rw[hbits j hj] at h
      simp at h
      exact HD.out j hj h.1
     have hl3:(L2++[8*k+t]).length<=8*k+8:=zax HZ.out.2.1 (fun x hx=>by
      rcases (HZ.out.2.2.1 x).1 hx with h|⟨j,hj,h,_⟩ <;> omega)
     have hl4:q+1<=8*k+8:=by rw[List.length_append,hq] at hl3;simpa using hl3
     have HQ2:Hid ((L2++[8*k+t]).length=q+1):=by show _=_;rw[List.length_append,hq];rfl
     have hb2l:b2<256:=by omega
     clear hown5 hgrow5 hB5 hnew hb2 hbits hO hB hl3 hq
     go_wp2_with fail
     go_roundw
     case rel=>exact⟨b2,L2++[8*k+t],a5,c5,rfl,hb2l,by rw[HQ2.out],by rw[HQ2.out];exact hl4,HZ,HZ2⟩
     case measure=>simp[intOf];omega
  ·obtain rfl:k=n:=by omega
   go_wp2_with fail
   go_ret
   exact⟨L,a,c,rfl,HA.out⟩
theorem zj9 (v:Nat->Nat) (n c g:Nat) (hn:0<n) (hn2:n<=1000) (hv:∀j,j<n->v j<256) (w:World) (h:∀j,j<n->w.cell? ⟨g,j,none⟩=some (.int .u8 ((v j:Nat):Int))):
  Calls Tryz.prog 139 #[.slice (some ⟨g,0,none⟩) n c] w fun e w'=>∃x:Nat,e=.returned (.int .u8 (x:Int))/\(∀j,j<n->v j<=x)/\(∃j,j<n/\v j=x)/\w'=w:=by
 have H:=hid (And.intro hv h)
 have c0:=h 0 hn
 have hz:¬((n:Int)<1):=by omega
 clear hv h
 go_enter Tryz.func139,Tryz.ntmps139
 go_wp2_with fail
 go_loopw [3,4] (fun v3 i wr=>∃(k x:Nat),i=.int .i64 k/\1<=k/\k<=n/\v3=.int .u8 (x:Int)/\Hid ((∀j,j<k->v j<=x)/\∃j,j<k/\v j=x)/\wr=w) (fun _ i _=>n-(intOf i).toNat)
 case atStart=>exact⟨1,v 0,rfl,Nat.le_refl _,hn,rfl,⟨fun j hj=>by rw[show j=0 by omega];exact Nat.le_refl _,0,by omega,rfl⟩,rfl⟩
 case round=>
  obtain⟨k,x,rfl,hk1,hk,rfl,HX,rfl⟩:=hrel
  by_cases hlt:k<n
  ·have ck:=H.out.2 k hlt
   have hvk:=H.out.1 k hlt
   have HZ:Hid (∀y,(y=x/\v k<=x)\/(y=v k/\x<=v k)->(∀j,j<k+1->v j<=y)/\∃j,j<k+1/\v j=y):=fun y hy=>by
    obtain⟨h1,j0,h2,h3⟩:=HX.out
    rcases hy with ⟨rfl,hy⟩|⟨rfl,hy⟩
    ·exact⟨fun j hj=>by by_cases e:j=k;rw[e];exact hy;exact h1 j (by omega),j0,by omega,h3⟩
    ·exact⟨fun j hj=>by by_cases e:j=k;rw[e];exact Nat.le_refl _;exact Nat.le_trans (h1 j (by omega)) hy,k,by omega,rfl⟩
   generalize v k=y at ck hvk HZ
   have i1:(k:Int)<(n:Int):=by omega
   rcases Nat.le_total y x with hyx|hyx
   ·have HZ2:=hid (HZ.out x (Or.inl ⟨rfl,hyx⟩))
    have hmx:max (x:Int) (y:Int)=(x:Int):=by omega
    have hmx2:max x y=x:=by omega
    go_wp2_with fail
    go_roundw
    case rel=>exact⟨k+1,x,by go_num,by omega,by omega,by first|rfl|simp[hmx],HZ2,by first|trivial|rfl⟩
    case measure=>simp[intOf];omega
   ·have HZ2:=hid (HZ.out y (Or.inr ⟨rfl,hyx⟩))
    have hmx:max (x:Int) (y:Int)=(y:Int):=by omega
    have hmx2:max x y=y:=by omega
    go_wp2_with fail
    go_roundw
    case rel=>exact⟨k+1,y,by go_num,by omega,by omega,by first|rfl|simp[hmx],HZ2,by first|trivial|rfl⟩
    case measure=>simp[intOf];omega
  ·obtain rfl:k=n:=by omega
   go_wp2_with fail
   go_ret
   exact⟨x,rfl,HX.out.1,HX.out.2,rfl⟩
theorem zka (K:Nat->Lit) (cs:Array Value) (hs:cs.size=256) (hc:∀j,j<256->cs[j]?=some (.int .u8 ((cls K j:Nat):Int))) (w:World):
  Calls Tryz.prog 104 #[.agg cs] w fun e w'=>e=.returned (.int .i64 ((nrep K 256:Nat):Int))/\Below w.heap.size w w':=by
 have hcl:∀j,j<256->cls K j<256:=fun j hj=>by have:=ziP K j;omega
 have hB:=al w (.cells cs 36)
 have hS:=St.new w 36 cs
 have hM:=hid (zj9 (cls K) 256 256 w.heap.size (by omega) (by omega) hcl (w.alloc (.cells cs 36)) (fun j hj=>by rw[hS.at_,hc j hj]))
 have HB:=hid hB
 have HT:Hid (∀x,(∀j,j<256->cls K j<=x)->(∃j,j<256/\cls K j=x)->x+1=nrep K 256/\x<256):=fun x h1 h2=>by
  obtain⟨b,hb,e⟩:=zmJ K 256 (by omega)
  obtain⟨j,hj,rfl⟩:=h2
  have:=zd0 K j 256 hj
  have:=h1 b hb
  have:=hcl j hj
  omega
 clear hcl hB hS hc
 go_enter Tryz.func104,Tryz.ntmps104
 go_wp2_with fail
 refine hM.out.mono ?_
 rintro e w2 ⟨x,rfl,h1,h2,rfl⟩
 obtain⟨hx,hx2⟩:=HT.out x h1 h2
 have HX:=hid hx
 clear h1 h2 hx
 go_wp2_with fail
 go_ret
 exact⟨by rw[<-HX.out];first|rfl|(simp;done),HB.out⟩
theorem zaU {P:Program}(w:World) (ad:Addr) (ty:TypeId) (cs:Array Value) (d:TypeDesc) (hc:∀j v,cs.toList[j]?=some v->w.cell? (ad.add j)=some v)
  (hu:P.underlying ty=some d) (hd:(match d with|.struct _|.array _ _=>true|_=>false)=true) (hi:(P.info? ty).map (·.size)=some cs.size):
  (loadVar ty ad).run P w=.ok (.agg cs) w:=by
 have hl:(loadCells ad cs.toList.length).run P w=.ok cs.toList.toArray w:=run_loadCells_list (P:=P) w ad cs.toList hc
 cases hq:P.info? ty with
 | none=>simp[hq] at hi
 | some i=>
  have hs:i.size=cs.size:=by simpa [hq] using hi
  have hagg:(isAgg ty).run P w=.ok true w:=by
   unfold isAgg
   rw[Sem.run_bind,run_underlying hu w]
   cases d <;> simp_all
  simp only[Array.length_toList,Array.toArray_toList] at hl
  simp[loadVar,Sem.run_bind,hagg,sizeOf,typeInfo,hq,hs,hl]
theorem zam {P:Program}{ops:Array Oper}{rest:List Oper}{o:Oper}{a:Act}{w:World}{Q:Exit->Act->World->Prop}(hgd:o.guard=none) (ty:TypeId) (x:Operand) (ho:o.op=.load ty x)
  (ad:Addr) (hx:a.eval x=.pointer (some ad)) (cs:Array Value) (d:TypeDesc) (hc:∀j v,cs.toList[j]?=some v->w.cell? (ad.add j)=some v)
  (hu:P.underlying ty=some d) (hd:(match d with|.struct _|.array _ _=>true|_=>false)=true) (hi:(P.info? ty).map (·.size)=some cs.size)
  (h:wpList P ops Q rest (a.put o.dst (.agg cs)) w):wpList P ops Q (o :: rest) a w:=
 wpList_plain hgd fun _ hK=>by
  unfold Oper.wp execOp
  simp only[ho,hx,Instr.loadAt,Instr.sureAddr,Sem.run_bind,Sem.run_pure,Result.andThen_ok,zaU w ad ty cs d hc hu hd hi]
  exact hK _ _ h
noncomputable def rl (K:Nat->Lit):Nat->List Nat
 | 0=>[]
 | k+1=>if cls K k=(rl K k).length then rl K k++[k] else rl K k
theorem zcL (K:Nat->Lit) (k:Nat):(rl K k).length=nrep K k:=by
 induction k with
 | zero=>rfl
 | succ k ih=>
  rw[rl,nrep,ih]
  by_cases e:fst K k=k
  ·have:cls K k=nrep K k:=by unfold cls;rw[e]
   rw[if_pos this,if_pos e]
   simp[ih]
  ·have h1:=(zbd K k).1
   have h2:cls K k+1<=nrep K k:=by
    have h3:fst K k<k:=by omega
    have:=zd0 K (fst K k) k h3
    unfold cls at this⊢
    rwa [zey] at this
   rw[if_neg (by omega),if_neg e,ih]
   omega
theorem zon (K:Nat->Lit) (k:Nat):∀c (h:c<(rl K k).length),cls K (rl K k)[c]=c/\(rl K k)[c]<k:=by
 induction k with
 | zero=>intro c h;simp[rl] at h
 | succ k ih=>
  intro c h
  by_cases e:cls K k=(rl K k).length
  ·have er:rl K (k+1)=rl K k++[k]:=by rw[rl,if_pos e]
   simp only[er] at h⊢
   by_cases hc:c<(rl K k).length
   ·rw[List.getElem_append_left hc]
    have:=ih c hc
    omega
   ·rw[List.length_append] at h
    have:c=(rl K k).length:=by simp at h;omega
    subst this
    rw[List.getElem_append_right (Nat.le_refl _)]
    simp[e]
  ·have er:rl K (k+1)=rl K k:=by rw[rl,if_neg e]
   simp only[er] at h⊢
   have:=ih c h
   omega
structure zkb (w:World) (B bn:Nat) (K:Nat->Lit) (cs:Array Value):Prop where
 blk:bn<B
 sz:cs.size=256
 val:∀j,j<256->cs[j]?=some (.int .u8 ((cls K j:Nat):Int))
 at_:∀j v,cs.toList[j]?=some v->w.cell? ((⟨bn,0,none⟩:Addr).add j)=some v
theorem zbg {P:Program}(t e:TypeId) (n:Nat) (cs:Array Value) (i:Nat) (v:Value) (h:P.underlying t=some (.array n e)) (hi:i<n) (hs:(P.info? e).map (·.size)=some 1) (hd:∃d,P.underlying e=some d/\(match d with|.struct _|.array _ _=>true|_=>false)=false) (hv:cs[i]?=some v) (w:World):
  (Instr.index t (.agg cs) (.int .i64 (i:Int))).run P w=.ok v w:=by
 obtain⟨d,hd1,hd2⟩:=hd
 cases hq:P.info? e with
 | none=>simp[hq] at hs
 | some inf=>
  have hs1:inf.size=1:=by simpa [hq] using hs
  have hagg:(isAgg e).run P w=.ok false w:=by
   unfold isAgg
   rw[Sem.run_bind,run_underlying hd1 w]
   cases d <;> simp_all
  have h1:(0:Int)<=(i:Int)/\(i:Int)<(n:Int):=by omega
  simp[Instr.index,asIntOf,run_underlying h,h1,sizeOf,typeInfo,hq,hs1,part,hagg,hv]
  intro hni
  omega
def zkc (K:Nat->Lit) (w:World) (e:Ending) (w':World):Prop:=
 ∃(a:Option Addr) (c:Nat),e=.returned (.slice a (nrep K 256) c)/\w'.ownsRow w.heap.size 5 1 (.slice a (nrep K 256) c) (nrep K 256) (u8s (rl K 256))/\Below w.heap.size w w'
theorem zdY (K:Nat->Lit) (B bn:Nat) (cs:Array Value) (w:World) (h:zkb w B bn K cs):Calls Tryz.prog 142 #[.pointer (some ⟨bn,0,none⟩)] w (zkc K w):=by
 have H:=hid h
 have hinfo:(Tryz.prog.info? 36).map (·.size)=some cs.size:=by rw[h.sz];kernel_rfl
 obtain⟨i0,hi,hz0,hz1,hz2⟩:=info_parts Tryz.info_u8
 clear h
 go_enter Tryz.func142,Tryz.ntmps142
 go_wp2_with (refine zam rfl 36 _ rfl ⟨bn,0,none⟩ rfl cs (.array 256 5) H.out.at_ Tryz.underlying36 rfl hinfo ?_)
 go_loopw [3,4,5,10] (fun v3 _ _ v wr=>∃(k q:Nat) (a:Option Addr) (c:Nat),v=.int .i64 k/\k<=256/\q<=256/\v3=.slice a q c/\Hid ((rl K k).length=q/\wr.ownsRow w.heap.size 5 1 (.slice a q c) q (u8s (rl K k))/\Below w.heap.size w wr)) (fun _ _ _ v _=>256-(intOf v).toNat)
 case atStart=>exact⟨0,0,none,0,rfl,Nat.zero_le _,Nat.zero_le _,rfl,rfl,World.ownsRow_nil _ _ _ _,Below.refl _ _⟩
 case round=>
  obtain⟨k,q,a,c,rfl,hk,hq,rfl,HA⟩:=hrel
  by_cases hlt:k<256
  ·have hv:=H.out.val k hlt
   have hsz:=H.out.sz
   have hi1:(k:Int)<256:=by omega
   have hix:=zbg 36 5 256 cs k _ Tryz.underlying36 hlt (by kernel_rfl) ⟨_,Tryz.underlying5,rfl⟩ hv wr
   have hcl:cls K k<=k:=ziP K k
   have hle:q<=k:=by rw[<-HA.out.1,zcL];exact zez K k
   by_cases hc:cls K k=q
   ·have HZ:Hid (rl K (k+1)=rl K k++[k]/\(rl K (k+1)).length=q+1):=by
     have e:rl K (k+1)=rl K k++[k]:=by rw[rl,if_pos (by rw[HA.out.1];exact hc)]
     exact⟨e,by rw[e,List.length_append,HA.out.1];rfl⟩
    generalize cls K k=x at hv hcl hc hix
    subst hc
    have hO:=HA.out.2.1
    have hB:=HA.out.2.2
    have hBs:=hB.size
    go_wp2_with (at_builtin;refine wpList_append_own _ rfl _ _ 86 rfl w.heap.size 5 i0 (.int .u8 0) 1 1 Tryz.underlying86 hi hz0 hz1 hz2 rfl (by decide) _ _ _ rfl (hO.alloc _) ⟨wr.heap.size,0,none⟩ 1 1 [.int .u8 (k:Int)] rfl rfl (cell_one_new _ _ _) ?d2 ?d3 ?d4 ?d5 ?_)
    case d2=>intro u hu;simp at hu;subst hu;rfl
    case d3=>unfold maxLen;omega
    case d4=>omega
    case d5=>simp;omega
    intro v' w5 hown5 hgrow5 _
    obtain⟨a5,c5,rfl⟩:=zaa hown5
    have hB5:=zac (hB.trans ((al wr (.cells #[.int .u8 (k:Int)] 5)).mono hBs)) (hO.alloc _) (by simp;omega) hgrow5
    have HF:Hid ((rl K (k+1)).length=x+1/\w5.ownsRow w.heap.size 5 1 (.slice a5 (x+1) c5) (x+1) (u8s (rl K (k+1)))/\Below w.heap.size w w5):=by
     refine⟨HZ.out.2,?_,hB5⟩
     rw[HZ.out.1,zkI]
     exact hown5
    clear hown5 hgrow5 hB5 hO hB HA
    go_wp2_with fail
    go_roundw
    case rel=>exact⟨k+1,x+1,a5,c5,by go_num,by omega,by omega,rfl,HF⟩
    case measure=>simp[intOf];omega
   ·have HZ:Hid (rl K (k+1)=rl K k):=by
     show _=_
     rw[rl,if_neg (by rw[HA.out.1];exact hc)]
    generalize cls K k=x at hv hcl hc hix
    have hc2:¬((x:Int)=(q:Int)):=by omega
    go_wp2_with fail
    go_roundw
    case rel=>exact⟨k+1,q,a,c,by go_num,by omega,hq,rfl,by rw[HZ.out];exact HA⟩
    case measure=>simp[intOf];omega
  ·obtain rfl:k=256:=by omega
   have HF:Hid (zkc K w (.returned (.slice a q c)) wr):=by
    have e:=HA.out.1
    rw[zcL] at e
    subst e
    exact⟨a,c,rfl,HA.out.2.1,HA.out.2.2⟩
   go_wp2_with fail
   go_ret
   exact HF.out
theorem MkR.grown {V wr w1:World}{B bm gI m:Nat}{bs:List Nat}{cs:Array Value}{P:Nat->Bool}{l:List Nat}{vL:Value}{row:Option Nat}(h:MkR V B bs bm gI m cs P l vL wr) (hg:wr.grownBy w1 row) (hr:∀g,row=some g->g∈bs\/V.heap.size<=g) (hB:∀g,row=some g->B<=g)
  (h1:some bm≠row) (h2:some gI≠row) (h3:∀b,vL.ownBlock=some b->some b≠row):MkR V B bs bm gI m cs P l vL w1:=
 ⟨h.kept.grown hg (fun g e=>(hr g e).elim Or.inl (fun x=>Or.inr (Or.inl x))),h.below.grown hg h.hB hB,h.sm.grown hg h1,h.sz,h.cI,zaG h.inn hg (fun g e=>by simp only[Value.ownBlock] at e;rw[<-e];exact h2),zaG h.lst hg h3,h.loc,h.inb,h.lo⟩
theorem zkd (cs:Array Value) (i:Nat) (hi:i≠262) (u v:Value):(cs.setIfInBounds 262 v).setIfInBounds i u=(cs.setIfInBounds i u).setIfInBounds 262 v:=by
 apply Array.ext_getElem?
 intro j
 simp only[Array.getElem?_setIfInBounds,Array.size_setIfInBounds]
 by_cases h1:i=j <;> by_cases h2:262=j <;> simp[h1,h2]
 omega
theorem MkR.setm {V wr:World}{B bm gI m:Nat}{bs:List Nat}{cs:Array Value}{P:Nat->Bool}{l:List Nat}{vL:Value}(h:MkR V B bs bm gI m cs P l vL wr) (i:Nat) (h1:i≠261) (h2:i≠262) (u:Value):MkR V B bs bm gI m (cs.setIfInBounds i u) P l vL (wr.setCell ⟨bm,i,none⟩ u):=by
 refine⟨h.kept.setCell _ _ (Or.inl h.inb.1),h.below.setCell (p:=⟨bm,i,none⟩) h.lo.1 _,?_,by rw[Array.size_setIfInBounds];exact h.sz,by rw[Array.getElem?_setIfInBounds_ne h1];exact h.cI,zau h.inn h.sm (by decide) _ _,zau h.lst h.sm (by decide) _ _,h.loc,h.inb,h.lo⟩
 have:=h.sm.set i u
 rwa [zkd cs i h2 u vL] at this
theorem MkR.other {V wr:World}{B bm gI m:Nat}{bs:List Nat}{cs:Array Value}{P:Nat->Bool}{l:List Nat}{vL:Value}(h:MkR V B bs bm gI m cs P l vL wr) (i:Nat) (hi:i≠262):wr.cell? ⟨bm,i,none⟩=cs[i]?:=by
 rw[h.sm.at_,Array.getElem?_setIfInBounds_ne (fun e=>hi e.symm)]
theorem MkA.grown {V wr w1:World}{B bm gI m M:Nat}{bs:List Nat}{cs:Array Value}{l:List Nat}{vL:Value}{row:Option Nat}(h:MkA V B bs bm gI m M cs l vL wr) (hg:wr.grownBy w1 row) (hr:∀g,row=some g->g∈bs\/V.heap.size<=g) (hB:∀g,row=some g->B<=g)
  (h1:some bm≠row) (h2:some gI≠row) (h3:∀b,vL.ownBlock=some b->some b≠row):MkA V B bs bm gI m M cs l vL w1:=⟨h.r.grown hg hr hB h1 h2 h3,h.nd,h.lt⟩
theorem MkA.setm {V wr:World}{B bm gI m M:Nat}{bs:List Nat}{cs:Array Value}{l:List Nat}{vL:Value}(h:MkA V B bs bm gI m M cs l vL wr) (i:Nat) (h1:i≠261) (h2:i≠262) (u:Value):MkA V B bs bm gI m M (cs.setIfInBounds i u) l vL (wr.setCell ⟨bm,i,none⟩ u):=⟨h.r.setm i h1 h2 u,h.nd,h.lt⟩
def strs (l:List ByteArray):List Value:=l.map fun s=>.string s
def ints (l:List Int):List Value:=l.map fun x=>.int .i64 x
theorem Tryz.info_str9:(Tryz.prog.info? 9).map (fun i=>(i.zero,i.size,i.bytes))=some (some (.string ⟨#[]⟩),1,16):=by kernel_rfl
theorem zbT:Keyed Tryz.prog 9:=string_keyed Tryz.underlying9
structure MkT (V:World) (B:Nat) (bs:List Nat) (bM:Nat) (cs:Array Value) (vL:Value) (k q n:Nat) (ss:List ByteArray) (ms:List Int) (Q:Value->Value->Prop) (vS vK:Value) (wr:World):Prop where
 cK:cs[258]?=some vK
 cS:cs[259]?=some vS
 cM:cs[260]?=some (.map (some bM))
 os:wr.ownsRow B 9 1 vS k (strs ss)
 ok:wr.ownsRow B 3 1 vK q (ints ms)
 map:MapEx wr 9 bM n Q
 sep:∀b,vL.ownBlock=some b->vK.ownBlock≠some b
 lS:∀b,vS.ownBlock=some b->b∈bs\/V.heap.size<=b
 lK:∀b,vK.ownBlock=some b->b∈bs\/V.heap.size<=b
 lM:bM∈bs/\B<=bM
theorem MkT.keep {V wr w1:World}{B bM k q n:Nat}{bs:List Nat}{cs:Array Value}{vL vS vK:Value}{ss:List ByteArray}{ms:List Int}{Q:Value->Value->Prop}(h:MkT V B bs bM cs vL k q n ss ms Q vS vK wr) (b:Below wr.heap.size wr w1):MkT V B bs bM cs vL k q n ss ms Q vS vK w1:=
 ⟨h.cK,h.cS,h.cM,zab h.os b,zab h.ok b,h.map.same (b.block _ h.map.lt),h.sep,h.lS,h.lK,h.lM⟩
def ze5 (V:World) (B:Nat) (bs:List Nat) (bm gI m M bM:Nat) (cs:Array Value) (l:List Nat) (vL:Value) (k n:Nat) (ss:List ByteArray) (ms:List Int) (Q':Value->Value->Prop) (s:ByteArray) (mk:Nat->Int) (e:Ending) (w':World):Prop:=
 ∃(r:Int) (vS' vK':Value),e=.returned (.int .i64 (k:Int))/\Least mk (fun x=>x∈l) r/\MkA V B bs bm gI m M ((cs.setIfInBounds 259 vS').setIfInBounds 258 vK') l vL w'/\
  MkT V B bs bM ((cs.setIfInBounds 259 vS').setIfInBounds 258 vK') vL (k+1) (k+1) (n+1) (ss++[s]) (ms++[r]) Q' vS' vK' w'
theorem zbi {w:World}{k b n t g:Nat}{cs:Array Value}{Q:Value->Value->Prop}(hm:MapEx w k b n Q) (h:St w t g cs):g≠b:=by
 rintro rfl
 obtain⟨es,clock,hb,_⟩:=hm
 have h1:w.heap[g]?=_:=h
 rw[h1] at hb
 cases hb
theorem zaP {w:World}{k b n B t size q:Nat}{v:Value}{xs:List Value}{Q:Value->Value->Prop}(hm:MapEx w k b n Q) (h:w.ownsRow B t size v q xs):∀g,v.ownBlock=some g->g≠b:=by
 rintro g e rfl
 obtain⟨c,fz,hc⟩:=zaI h g e
 obtain⟨es,clock,hb,_⟩:=hm
 rw[hc] at hb
 cases hb
theorem znF {V W w5:World}{B bm gI m M bM k q n:Nat}{bs:List Nat}{cs:Array Value}{l:List Nat}{vL vS vK vS':Value}{ss:List ByteArray}{ms:List Int}{Q:Value->Value->Prop}{s:ByteArray}
  (h:MkA V B bs bm gI m M cs l vL W) (t:MkT V B bs bM cs vL k q n ss ms Q vS vK W) (ho:w5.ownsRow B 9 1 vS' (k+1) (strs ss++[.string s])) (hg:W.grownBy w5 vS.ownBlock) (hat:vS'.ownBlock=vS.ownBlock\/vS'.ownBlock=some W.heap.size):
  MkA V B bs bm gI m M (cs.setIfInBounds 259 vS') l vL (w5.setCell ⟨bm,259,none⟩ vS')/\MkT V B bs bM (cs.setIfInBounds 259 vS') vL (k+1) q n (ss++[s]) ms Q vS' vK (w5.setCell ⟨bm,259,none⟩ vS'):=by
 have h5:=h.grown hg t.lS (zas t.os) (fun e=>zaq t.os h.r.sm (by decide) bm e.symm rfl) (fun e=>zan t.os h.r.inn (by decide) gI e.symm rfl) (fun b e1 e2=>zan h.r.lst t.os (by decide) b e1 e2.symm)
 have hsm:=h5.r.sm
 refine⟨h5.setm 259 (by decide) (by decide) vS',by rw[Array.getElem?_setIfInBounds_ne (by decide)];exact t.cK,by rw[Array.getElem?_setIfInBounds_self_of_lt (by rw[h.r.sz];decide)],by rw[Array.getElem?_setIfInBounds_ne (by decide)];exact t.cM,?_,
  zau (zav t.ok t.os (by decide) hg) hsm (by decide) _ _,(t.map.grown_own t.os hg).set hsm,t.sep,?_,t.lK,t.lM⟩
 ·rw[show strs (ss++[s])=strs ss++[.string s] by simp[strs]]
  exact zau ho hsm (by decide) _ _
 ·intro b e1
  rcases hat with h1|h1
  ·exact t.lS b (by rw[<-h1];exact e1)
  ·rw[h1] at e1
   injection e1 with e1
   exact Or.inr (by rw[<-e1];exact h.r.below.size)
theorem ze6 {V W w5:World}{B bm gI m M bM k q n:Nat}{bs:List Nat}{cs:Array Value}{l:List Nat}{vL vS vK vK':Value}{ss:List ByteArray}{ms:List Int}{Q:Value->Value->Prop}{r:Int}
  (h:MkA V B bs bm gI m M cs l vL W) (t:MkT V B bs bM cs vL k q n ss ms Q vS vK W) (ho:w5.ownsRow B 3 1 vK' (q+1) (ints ms++[.int .i64 r])) (hg:W.grownBy w5 vK.ownBlock) (hat:vK'.ownBlock=vK.ownBlock\/vK'.ownBlock=some W.heap.size):
  MkA V B bs bm gI m M (cs.setIfInBounds 258 vK') l vL (w5.setCell ⟨bm,258,none⟩ vK')/\MkT V B bs bM (cs.setIfInBounds 258 vK') vL k (q+1) n ss (ms++[r]) Q vS vK' (w5.setCell ⟨bm,258,none⟩ vK'):=by
 have h5:=h.grown hg t.lK (zas t.ok) (fun e=>zaq t.ok h.r.sm (by decide) bm e.symm rfl) (fun e=>zan t.ok h.r.inn (by decide) gI e.symm rfl) (fun b e1 e2=>t.sep b e1 e2.symm)
 have hsm:=h5.r.sm
 refine⟨h5.setm 258 (by decide) (by decide) vK',by rw[Array.getElem?_setIfInBounds_self_of_lt (by rw[h.r.sz];decide)],by rw[Array.getElem?_setIfInBounds_ne (by decide)];exact t.cS,by rw[Array.getElem?_setIfInBounds_ne (by decide)];exact t.cM,
  zau (zav t.os t.ok (by decide) hg) hsm (by decide) _ _,?_,(t.map.grown_own t.ok hg).set hsm,fun b e1 e2=>?_,t.lS,?_,t.lM⟩
 ·rw[show ints (ms++[r])=ints ms++[.int .i64 r] by simp[ints]]
  exact zau ho hsm (by decide) _ _
 ·rcases hat with h1|h1
  ·exact t.sep b e1 (by rw[<-h1];exact e2)
  ·rw[h1] at e2
   injection e2 with e2
   obtain⟨c,fz,hc⟩:=zaI h.r.lst b e1
   have:=(Array.getElem?_eq_some_iff.1 hc).1
   omega
 ·intro b e1
  rcases hat with h1|h1
  ·exact t.lK b (by rw[<-h1];exact e1)
  ·rw[h1] at e1
   injection e1 with e1
   exact Or.inr (by rw[<-e1];exact h.r.below.size)
theorem zmz {V W w5:World}{B bm gI m M bM k q n n':Nat}{bs:List Nat}{cs:Array Value}{l:List Nat}{vL vS vK:Value}{ss:List ByteArray}{ms:List Int}{Q Q':Value->Value->Prop}
  (h:MkA V B bs bm gI m M cs l vL W) (t:MkT V B bs bM cs vL k q n ss ms Q vS vK W) (hm:MapEx w5 9 bM n' Q') (hg:W.grownBy w5 (some bM)):
  MkA V B bs bm gI m M cs l vL w5/\MkT V B bs bM cs vL k q n' ss ms Q' vS vK w5:=by
 have hm0:=t.map
 have h5:=h.grown hg (fun g e=>by injection e with e;rw[<-e];exact Or.inl t.lM.1) (fun g e=>by injection e with e;rw[<-e];exact t.lM.2) (fun e=>by injection e with e;exact zbi hm0 h.r.sm e) (fun e=>by injection e with e;exact zaP hm0 h.r.inn gI rfl e) (fun b e1 e2=>by injection e2 with e2;exact zaP hm0 h.r.lst b e1 e2)
 exact⟨h5,t.cK,t.cS,t.cM,zaB t.os hm0.of hg,zaB t.ok hm0.of hg,hm,t.sep,t.lS,t.lK,t.lM⟩
theorem zfT (f t:Nat):egCells (fre f t).z=[.int .i64 (f:Int),.int .i64 (t:Int),.int .u64 0,.int .u64 0,.int .u64 0,.int .u64 0,.bool true]:=by
 simp[egCells,En.z,fre,zbN]
theorem zaz (f t:Nat) (w:World):Calls Tryz.prog 82 #[.int .i64 (f:Int),.int .i64 (t:Int)] w fun e w'=>e=.returned (.agg #[.int .i64 (f:Int),.int .i64 (t:Int),.int .u64 0,.int .u64 0,.int .u64 0,.int .u64 0,.bool true])/\Below w.heap.size w w':=by
 have HB:=hid ((Below.refl w.heap.size w).alloc (Nat.le_refl _) (.cells #[.int .i64 (f:Int),.int .i64 (t:Int),.int .u64 0,.int .u64 0,.int .u64 0,.int .u64 0,.bool true] 128))
 have HS:=hid (St.new w 128 #[.int .i64 (f:Int),.int .i64 (t:Int),.int .u64 0,.int .u64 0,.int .u64 0,.int .u64 0,.bool true])
 go_enter Tryz.func82,Tryz.ntmps82
 go_wp2_with fail
 generalize w.alloc (.cells #[.int .i64 (f:Int),.int .i64 (t:Int),.int .u64 0,.int .u64 0,.int .u64 0,.int .u64 0,.bool true] 128)=W at HB HS⊢
 obtain⟨v0,v1,v2,v3,v4,v5,v6⟩:=znY HS.out
 exact bodyPost_ret (v:=.agg #[.int .i64 (f:Int),.int .i64 (t:Int),.int .u64 0,.int .u64 0,.int .u64 0,.int .u64 0,.bool true]) (by simp[results,Tryz.results82,go_sem,v0,v1,v2,v3,v4,v5,v6]) rfl ⟨rfl,HB.out⟩
theorem zfU (L:List En) (o:Nat) (a:Option Addr) (n c:Nat) (w:World) (hL:EdAt w a (L.map En.z)) (hn:L.length=n) (hmax:n<=1000) (ho:o<=1000000) (hb:∀e∈L,e.f<=1000000/\e.t<=1000000):
  Calls Tryz.prog 83 #[.slice a n c,.int .i64 (o:Int)] w fun e w'=>∃g,e=.returned (.slice (some ⟨g,0,none⟩) n n)/\w'.ownsRow w.heap.size 128 7 (.slice (some ⟨g,0,none⟩) n n) n (egs ((L.map (En.by o)).map En.z))/\Below w.heap.size w w':=by
 have HL:=hid (And.intro hL (And.intro hn hb))
 obtain⟨i0,hi,hz0,hz1,hz2⟩:=info_parts Tryz.info_edge
 have hsz:(Tryz.prog.info? 128).map (·.size)=some 7:=by kernel_rfl
 clear hL hn hb
 go_enter Tryz.func83,Tryz.ntmps83
 go_wp2_with (at_make;refine wpList_make_full _ rfl _ _ 65 rfl w.heap.size 128 i0 (.agg #[.int .i64 0,.int .i64 0,.int .u64 0,.int .u64 0,.int .u64 0,.int .u64 0,.bool false]) 7 Tryz.underlying65 hi hz0 hz1 .i64 .i64 _ _ n rfl rfl ?c1 ?c2 ?c3 ?c4 ?c5 ?_)
 case c1=>omega
 case c2=>omega
 case c3=>rw[hz2];omega
 case c4=>unfold maxLen;omega
 case c5=>omega
 intro w1 hown hgrow
 have hb1:Below w.heap.size w w1:=⟨hgrow.os,hgrow.tape,hgrow.output,hgrow.size,fun k hk=>hgrow.block k hk (by simp)⟩
 have HO:=hid (And.intro hown (And.intro hb1 (zbf hown)))
 have HX:Hid ((egs (L.map En.z)).length=n*7/\(0<n->∃ad,a=some ad/\∀j v,(egs (L.map En.z))[j]?=some v->w1.cell? (ad.add j)=some v)):=by
  show _/\_
  have hlen:(egs (L.map En.z)).length=n*7:=by rw[zcb,List.length_map,HL.out.2.1]
  refine⟨hlen,fun h0=>?_⟩
  obtain⟨g,off,e,hg,hc⟩:=(HL.out.1.below hb1) (by rw[List.length_map,HL.out.2.1];exact h0)
  refine⟨_,e,fun j v hj=>?_⟩
  have hjl:=(List.getElem?_eq_some_iff.1 hj).1
  have:(⟨g,off,none⟩:Addr).add j=⟨g,off+j,none⟩:=by unfold Addr.add;split <;> simp_all
  rw[this,hc j (by rw[<-zcb];exact hjl)]
  exact hj
 clear hown hgrow hb1
 go_wp2_with (refine zc1 rfl _ _ _ _ rfl 128 7 Tryz.underlying65 hsz w.heap.size n n c a rfl rfl _ 128 HO.out.2.2.1 (egs (L.map En.z)) HX.out.1 (by have:=HO.out.2.2.2.2.2;have h2:=HX.out.1;simp at this⊢;omega) HX.out.2 (zdt _) ?_)
 have HA:Hid ((w1.setRow w.heap.size (egs (L.map En.z)).toArray).ownsRow w.heap.size 128 7 (.slice (some ⟨w.heap.size,0,none⟩) n n) n (egs ((mx o L 0).map En.z))/\Below w.heap.size w (w1.setRow w.heap.size (egs (L.map En.z)).toArray)):=
  ⟨zd6 HO.out.1 HX.out.1,below_setRow HO.out.2.1 (Nat.le_refl _) _⟩
 generalize w1.setRow w.heap.size (egs (L.map En.z)).toArray=w2 at HA⊢
 clear HO HX
 go_wp2_with fail
 go_loopw [6,15] (fun _ i wr=>∃k:Nat,i=.int .i64 k/\k<=n/\Hid (wr.ownsRow w.heap.size 128 7 (.slice (some ⟨w.heap.size,0,none⟩) n n) n (egs ((mx o L k).map En.z))/\Below w.heap.size w wr)) (fun _ i _=>n-(intOf i).toNat)
 case atStart=>exact⟨0,rfl,Nat.zero_le _,HA⟩
 case round=>
  clear HA
  obtain⟨k,rfl,hk,HA⟩:=hrel
  by_cases hlt:k<n
  ·have hkl:k<L.length:=by rw[HL.out.2.1];exact hlt
   have hkm:k<((mx o L k).map En.z).length:=by rw[List.length_map,zmi];exact hkl
   have hx:=HL.out.2.2 L[k] (List.getElem_mem _)
   have hst:St wr 128 w.heap.size (egs ((mx o L k).map En.z)).toArray:=(zbf HA.out.1).1
   have hce:∀j,j<7->(egs ((mx o L k).map En.z))[k*7+j]?=(egCells L[k].z)[j]?:=fun j hj=>by
    rw[zgf _ k hkm j hj,List.getElem_map,zm0 o L k hkl]
   have c0:wr.cell? ⟨w.heap.size,k*7,none⟩=some (.int .i64 ((L[k].f:Nat):Int)):=by rw[hst.at_,List.getElem?_toArray];exact hce 0 (by omega)
   have c1:wr.cell? ⟨w.heap.size,k*7+1,none⟩=some (.int .i64 ((L[k].t:Nat):Int)):=by rw[hst.at_,List.getElem?_toArray];exact hce 1 (by omega)
   have f0:=hst.thaw_ (k*7)
   have f1:=hst.thaw_ (k*7+1)
   have HF:Hid (((wr.setCell ⟨w.heap.size,k*7,none⟩ (.int .i64 ((L[k].f:Int)+(o:Int)))).setCell ⟨w.heap.size,k*7+1,none⟩ (.int .i64 ((L[k].t:Int)+(o:Int)))).ownsRow w.heap.size 128 7 (.slice (some ⟨w.heap.size,0,none⟩) n n) n (egs ((mx o L (k+1)).map En.z))/\
     Below w.heap.size w ((wr.setCell ⟨w.heap.size,k*7,none⟩ (.int .i64 ((L[k].f:Int)+(o:Int)))).setCell ⟨w.heap.size,k*7+1,none⟩ (.int .i64 ((L[k].t:Int)+(o:Int))))):=by
    show _/\_
    refine⟨?_,(HA.out.2.setCell (p:=⟨w.heap.size,k*7,none⟩) (Nat.le_refl _) _).setCell (p:=⟨w.heap.size,k*7+1,none⟩) (Nat.le_refl _) _⟩
    have h1:=zeG (zeG HA.out.1 (k*7) (by omega) (.int .i64 ((L[k].f:Int)+(o:Int)))) (k*7+1) (by omega) (.int .i64 ((L[k].t:Int)+(o:Int)))
    have h2:=zmZ ((mx o L k).map En.z) k (L[k].by o).z hkm (by rw[List.getElem_map,zm0 o L k hkl];rfl) (by rw[List.getElem_map,zm0 o L k hkl];rfl)
    rw[<-List.map_set,znZ o L k hkl] at h2
    rw[h2]
    exact h1
   generalize L[k].f=xf at c0 hx HF
   generalize L[k].t=xt at c1 hx HF
   clear hst hce hkl hkm HA
   go_wp2_with fail
   go_roundw
   case rel=>exact⟨k+1,by go_num,by omega,HF⟩
   case measure=>simp[intOf];omega
  ·obtain rfl:k=n:=by omega
   have HF:Hid (wr.ownsRow w.heap.size 128 7 (.slice (some ⟨w.heap.size,0,none⟩) k k) k (egs ((L.map (En.by o)).map En.z))/\Below w.heap.size w wr):=by
    show _/\_
    have h:=HA.out
    rw[show mx o L k=L.map (En.by o) by unfold mx;rw[List.take_of_length_le (by rw[HL.out.2.1];exact Nat.le_refl _),List.drop_eq_nil_of_le (by rw[HL.out.2.1];exact Nat.le_refl _),List.append_nil]] at h
    exact h
   go_wp2_with fail
   go_ret
   exact⟨w.heap.size,rfl,HF.out.1,HF.out.2⟩
theorem zao {P:Program}{ops:Array Oper}{o:Oper}{a:Act}{w:World}{K:Act->World->Prop}{Q:Exit->Act->World->Prop}{E:Prop}(hgd:o.guard=none) (s x:Operand) (t:TypeId)
  (ho:o.op=.call { callee:=.builtin .append,args:=#[s,x],argTypes:=#[t,t] })
  (base:Nat) (e:TypeId) (i:TypeInfo) (z:Value) (size bytes:Nat) (ht:P.underlying t=some (.slice e)) (hi:P.info? e=some i) (hz:i.zero=some z)
  (hsize:i.size=size) (hby:i.bytes=bytes) (hzs:z.cells.size=size) (hsz:0<size)
  (v:Value) (n:Nat) (xs:List Value) (hs:a.eval s=v) (hown:w.ownsRow base e size v n xs)
  (ad:Addr) (m c:Nat) (news:List Value) (hx:a.eval x=.slice (some ad) m c) (hl:news.length=m*size) (hnews:∀j u,news[j]?=some u->w.cell? (ad.add j)=some u) (h1:∀u∈news,u.oneCell'=true)
  (h63:n+m<=maxLen) (hbytes:(n+m)*bytes<=140737488355328) (hbase:base<=w.heap.size)
  (h:∀v' w',w'.ownsRow base e size v' (n+m) (xs++news)->w.grownBy w' v.ownBlock->K (a.put o.dst v') w'):
  if Region.wanted o (yielded ops a.tmps)=true then Oper.wp P o a w K Q else E:=by
 have hw:Region.wanted o (yielded ops a.tmps)=true:=by simp[Region.wanted,hgd]
 rw[if_pos hw]
 obtain⟨v',w',hr,h2,h3,_,_⟩:=run_append_own_at (P:=P) w base t o.type e i z size bytes ht hi hz hsize hby hzs hsz v n xs hown ad m c news hl hnews h1 h63 hbytes hbase
 unfold Oper.wp execOp
 simp only[ho,resolve,invoke,builtin,Sem.run_bind,Sem.run_pure,Result.andThen_ok,List.map_toArray,List.map_cons,List.map_nil,hs,hx,hr]
 exact h v' w' h2 h3
structure Mg where
 S:Int
 F:Int
 T:Int
 a:Option Addr
 c:Nat
 L:List Eg
def MgAt (w:World) (a:Option Addr) (n:Nat) (G:Nat->Mg):Prop:=0<n->∃g off,a=some ⟨g,off,none⟩/\g<w.heap.size/\∀k,k<n->
 (w.cell? ⟨g,off+k*4,none⟩=some (.int .i64 (G k).S)/\w.cell? ⟨g,off+k*4+1,none⟩=some (.slice (G k).a (G k).L.length (G k).c)/\w.cell? ⟨g,off+k*4+2,none⟩=some (.int .i64 (G k).F)/\w.cell? ⟨g,off+k*4+3,none⟩=some (.int .i64 (G k).T))/\EdAt w (G k).a (G k).L
theorem MgAt.below {w w':World}{a:Option Addr}{n:Nat}{G:Nat->Mg}(h:MgAt w a n G) (k:Below w.heap.size w w'):MgAt w' a n G:=by
 intro h0
 obtain⟨g,off,e,hg,hc⟩:=h h0
 have:=k.size
 refine⟨g,off,e,by omega,fun j hj=>?_⟩
 obtain⟨⟨h1,h2,h3,h4⟩,h5⟩:=hc j hj
 exact⟨⟨(k.cell (p:=⟨g,_,none⟩) hg).trans h1,(k.cell (p:=⟨g,_,none⟩) hg).trans h2,(k.cell (p:=⟨g,_,none⟩) hg).trans h3,(k.cell (p:=⟨g,_,none⟩) hg).trans h4⟩,h5.below k⟩
def NF.mg (m:NF) (a:Option Addr) (c:Nat):Mg:=⟨(m.N:Int),(m.F:Int),(m.T:Int),a,c,m.L.map En.z⟩
def ula (M:Nat->NF):Nat->List Nat
 | 0=>[]
 | k+1=>ula M k++[uo M k+(M k).T]
theorem zke (M:Nat->NF) (k:Nat):(ula M k).length=k:=by
 induction k with
 | zero=>rfl
 | succ k ih=>simp[ula,ih]
structure UnA (w:World) (p:Nat) (L:List En) (k:Nat) (ls:List Nat) (vE vL:Value) (wr:World):Prop where
 s2:St wr 67 w.heap.size #[.int .i64 0,.slice none 0 0,.int .i64 0,.int .i64 0]
 s4:St wr 67 (w.heap.size+1) #[.int .i64 (p:Int),vE,.int .i64 0,.int .i64 0]
 oe:wr.ownsRow w.heap.size 128 7 vE L.length (egs (L.map En.z))
 ol:wr.ownsRow w.heap.size 3 1 vL k (zai ls)
 below:Below w.heap.size w wr
theorem UnA.keep {w wr w1:World}{p k:Nat}{L:List En}{ls:List Nat}{vE vL:Value}(h:UnA w p L k ls vE vL wr) (b:Below wr.heap.size wr w1):UnA w p L k ls vE vL w1:=
 ⟨h.s2.keep b,h.s4.keep b,zab h.oe b,zab h.ol b,h.below.trans (b.mono h.below.size)⟩
theorem UnA.app {w wr w1:World}{p k:Nat}{L L2:List En}{ls:List Nat}{vE vL vE':Value}(h:UnA w p L k ls vE vL wr) (ho:w1.ownsRow w.heap.size 128 7 vE' (L++L2).length (egs (L.map En.z)++egs (L2.map En.z))) (hg:wr.grownBy w1 vE.ownBlock):
  UnA w p (L++L2) k ls vE' vL (w1.setCell ⟨w.heap.size+1,1,none⟩ vE'):=by
 have h2:=h.s2.grown_own h.oe (by decide) hg
 have h4:=h.s4.grown_own h.oe (by decide) hg
 refine⟨h2.far (p:=⟨w.heap.size+1,1,none⟩) (by show w.heap.size≠w.heap.size+1;omega) _,?_,?_,zau (zav h.ol h.oe (by decide) hg) h4 (by decide) 1 vE',(zac h.below h.oe h.below.size hg).setCell (p:=⟨w.heap.size+1,1,none⟩) (by show w.heap.size<=w.heap.size+1;omega) _⟩
 ·have:=h4.set 1 vE'
  simpa using this
 ·rw[List.map_append,zd5]
  exact zau ho h4 (by decide) 1 vE'
theorem UnA.last {w wr w1:World}{p k N t:Nat}{L:List En}{ls:List Nat}{vE vL vL':Value}{o:Obj}(h:UnA w p L k ls vE vL wr) (ho:w1.ownsRow w.heap.size 3 1 vL' (k+1) (zai ls++[.int .i64 (t:Int)])) (hg:(wr.alloc o).grownBy w1 vL.ownBlock):
  UnA w (p+N) L (k+1) (ls++[t]) vE vL' (w1.setCell ⟨w.heap.size+1,0,none⟩ (.int .i64 ((p:Int)+(N:Int)))):=by
 have h0:UnA w p L k ls vE vL (wr.alloc o):=h.keep (al wr o)
 have h2:=h0.s2.grown_own h0.ol (by decide) hg
 have h4:=h0.s4.grown_own h0.ol (by decide) hg
 refine⟨h2.far (p:=⟨w.heap.size+1,0,none⟩) (by show w.heap.size≠w.heap.size+1;omega) _,?_,zau (zav h0.oe h0.ol (by decide) hg) h4 (by decide) 0 _,?_,(zac h0.below h0.ol h0.below.size hg).setCell (p:=⟨w.heap.size+1,0,none⟩) (by show w.heap.size<=w.heap.size+1;omega) _⟩
 ·have:=h4.set 0 (.int .i64 ((p:Int)+(N:Int)))
  simpa using this
 ·rw[zaL]
  exact zau ho h4 (by decide) 0 _
theorem zkf (M:Nat->NF) (n:Nat) (hM:∀k,k<n->(M k).ok/\(M k).N<=1000/\(M k).L.length<=1000) (hn:n<=100) (A:Nat->Option Addr) (C:Nat->Nat) (a:Option Addr) (c:Nat) (w:World) (hL:MgAt w a n (fun k=>(M k).mg (A k) (C k))):
  Calls Tryz.prog 53 #[.slice a n c] w fun e w'=>∃aE cE aL cL,e=.returned (.tuple #[.agg #[.int .i64 ((uo M n:Nat):Int),.slice aE (uE M n).length cE,.int .i64 0,.int .i64 0],.slice aL n cL])/\
   w'.ownsRow w.heap.size 128 7 (.slice aE (uE M n).length cE) (uE M n).length (egs ((uE M n).map En.z))/\w'.ownsRow w.heap.size 3 1 (.slice aL n cL) n (zai (ula M n))/\Below w.heap.size w w':=by
 have HL:=hid (And.intro hL hM)
 have HU:Hid (UnA w (uo M 0) (uE M 0) 0 (ula M 0) (.slice none 0 0) (.slice none 0 0) ((w.alloc (.cells #[.int .i64 0,.slice none 0 0,.int .i64 0,.int .i64 0] 67)).alloc (.cells #[.int .i64 1,.slice none 0 0,.int .i64 0,.int .i64 0] 67))):=by
  refine⟨(St.new w _ _).alloc _,?_,World.ownsRow_nil _ _ _ _,World.ownsRow_nil _ _ _ _,((Below.refl _ _).alloc (Nat.le_refl _) _).alloc (by simp) _⟩
  have:=St.new (w.alloc (.cells #[.int .i64 0,.slice none 0 0,.int .i64 0,.int .i64 0] 67)) 67 #[.int .i64 1,.slice none 0 0,.int .i64 0,.int .i64 0]
  exact (by simpa using this:St _ 67 (w.heap.size+1) #[.int .i64 1,.slice none 0 0,.int .i64 0,.int .i64 0])
 clear hL hM
 go_enter Tryz.func53,Tryz.ntmps53
 go_wp2_with fail
 generalize (w.alloc (.cells #[.int .i64 0,.slice none 0 0,.int .i64 0,.int .i64 0] 67)).alloc (.cells #[.int .i64 1,.slice none 0 0,.int .i64 0,.int .i64 0] 67)=W0 at HU⊢
 go_loopw [5,7,11] (fun v _ i wr=>∃(k:Nat) (aE:Option Addr) (cE:Nat) (aL:Option Addr) (cL:Nat),i=.int .i64 k/\k<=n/\v=.slice aL k cL/\Hid (UnA w (uo M k) (uE M k) k (ula M k) (.slice aE (uE M k).length cE) (.slice aL k cL) wr)) (fun _ _ i _=>n-(intOf i).toNat)
 case atStart=>exact⟨0,none,0,none,0,rfl,Nat.zero_le _,rfl,HU⟩
 case round=>
  clear HU
  obtain⟨k,aE,cE,aL,cL,rfl,hk,rfl,HA⟩:=hrel
  by_cases hlt:k<n
  ·obtain⟨g,off,rfl,hg,hcs⟩:=(HL.out.1.below HA.out.below) (by omega)
   obtain⟨⟨c0,c1,c2,c3⟩,_⟩:=hcs k hlt
   have hed:EdAt w (A k) ((M k).mg (A k) (C k)).L:=by
    obtain⟨g',off',_,_,h⟩:=HL.out.1 (by omega)
    exact (h k hlt).2
   simp only[NF.mg,List.length_map] at c0 c1 c2 c3 hed
   obtain⟨hok,hN1,hL1⟩:=HL.out.2 k hlt
   have hp1:=zi6 M k 1000 (fun j hj=>(HL.out.2 j (by omega)).2.1)
   have hE1:=zmh M k 1000 (fun j hj=>(HL.out.2 j (by omega)).2.2)
   have hf:=hok.f
   have ht:=hok.t
   have HSu:Hid (uo M (k+1)=uo M k+(M k).N/\uE M (k+1)=uE M k++[fre 0 (uo M k+(M k).F)]++(M k).L.map (En.by (uo M k))/\ula M (k+1)=ula M k++[uo M k+(M k).T]):=⟨rfl,by rw[List.append_assoc];rfl,rfl⟩
   have HOk:=hid (And.intro hok hed)
   clear hcs hok hed
   obtain⟨p,hp⟩:∃p,uo M k=p:=⟨_,rfl⟩
   obtain⟨E,hE⟩:∃E,uE M k=E:=⟨_,rfl⟩
   obtain⟨⟨N,F,T,L⟩,hm⟩:∃m,M k=m:=⟨_,rfl⟩
   rw[hp,hE] at HA
   rw[hp,hE,hm] at HSu
   rw[hm] at c0 c1 c2 c3 hN1 hL1 hf ht HOk
   rw[hp] at hp1
   rw[hE] at hE1
   dsimp only at c0 c1 c2 c3 hN1 hL1 hf ht
   clear hp hE hm
   have hk0:k*1000<=100000:=by omega
   have hk1:k*(1000+1)<=100100:=by omega
   have hpb:p<=100001:=by omega
   have hEb:E.length<=100100:=by omega
   clear hp1 hE1 hk0 hk1
   obtain⟨z0,z1,z2,z3⟩:=HA.out.s4.cells4
   have HA1:=hid (HA.out.keep ((Below.refl wr.heap.size wr).alloc (Nat.le_refl _) (.cells #[.int .i64 (N:Int),.slice (A k) L.length (C k),.int .i64 (F:Int),.int .i64 (T:Int)] 67)))
   have HN1:=hid (St.new wr 67 #[.int .i64 (N:Int),.slice (A k) L.length (C k),.int .i64 (F:Int),.int .i64 (T:Int)])
   obtain⟨ak,hak⟩:∃ak,A k=ak:=⟨_,rfl⟩
   obtain⟨ck,hck⟩:∃ck,C k=ck:=⟨_,rfl⟩
   rw[hak,hck] at HA1 HN1
   rw[hak,hck] at c1
   rw[hak] at HOk
   clear hak hck
   go_wp2_with fail
   generalize wr.alloc (.cells #[.int .i64 (N:Int),.slice ak L.length ck,.int .i64 (F:Int),.int .i64 (T:Int)] 67)=W1 at HA1 HN1⊢
   have hb47:w.heap.size+1<wr.heap.size:=HA.out.s4.lt
   have HbL:Hid (∀e∈L,e.f<=1000000/\e.t<=1000000):=fun e he=>by
    have:e.f<N/\e.t<N:=HOk.out.1.e e he
    omega
   have C6:Hid (∀W:World,Calls Tryz.prog 82 #[.int .i64 0,.int .i64 ((p:Int)+(F:Int))] W (fun e w'=>e=.returned (.agg #[.int .i64 0,.int .i64 ((p:Int)+(F:Int)),.int .u64 0,.int .u64 0,.int .u64 0,.int .u64 0,.bool true])/\Below W.heap.size W w')):=fun W=>by
    have:=zaz 0 (p+F) W
    simpa using this
   have Wr:Hid (IntKind.i64.wrap ((p:Int)+(F:Int))=(p:Int)+(F:Int)):=IntWalk.i64_in _ (by omega)
   have HF7:Hid (egs ([fre 0 (p+F)].map En.z)=[.int .i64 0,.int .i64 ((p:Int)+(F:Int)),.int .u64 0,.int .u64 0,.int .u64 0,.int .u64 0,.bool true]):=by
    show egs [(fre 0 (p+F)).z]=_
    simp[egs,zfT]
   obtain⟨i0,hi,hz0,hz1,hz2⟩:=info_parts Tryz.info_edge
   clear HA z0 z1 z2 z3 c0 c1 c2 c3
   go_cut [5] from 15 to 25 (fun v wx=>∃(aE':Option Addr) (cE':Nat),v=.slice aL k cL/\UnA w p (E++[fre 0 (p+F)]) k (ula M k) (.slice aE' (E.length+1) cE') (.slice aL k cL) wx/\St wx 67 wr.heap.size #[.int .i64 (N:Int),.slice ak L.length ck,.int .i64 (F:Int),.int .i64 (T:Int)])
   case first=>
    have HA2:=hid (HA1.out.keep (Below.refl W1.heap.size W1).drew)
    have HN2:Hid (St W1.drew 67 wr.heap.size #[.int .i64 (N:Int),.slice ak L.length ck,.int .i64 (F:Int),.int .i64 (T:Int)]):=HN1.out.drew
    have e2:W1.drew.cell? ⟨w.heap.size+1,1,none⟩=some (.slice aE E.length cE):=HA2.out.s4.at_ 1
    have HS0:Hid (∀(W:World) (v:Value),St W 67 (w.heap.size+1) #[.int .i64 (p:Int),v,.int .i64 0,.int .i64 0]->St W 67 wr.heap.size #[.int .i64 (N:Int),.slice ak L.length ck,.int .i64 (F:Int),.int .i64 (T:Int)]->(W.cell? ⟨w.heap.size+1,0,none⟩=some (.int .i64 (p:Int))/\W.cell? ⟨wr.heap.size,2,none⟩=some (.int .i64 (F:Int)))):=fun W v h1 h2=>⟨h1.at_ 0,h2.at_ 2⟩
    refine wp_region_held_drew (S:=fun W'=>W'.cell? ⟨w.heap.size+1,0,none⟩=some (.int .i64 (p:Int))/\W'.cell? ⟨wr.heap.size,2,none⟩=some (.int .i64 (F:Int))) (by kernel_rfl) (HS0.out _ _ HA2.out.s4 HN2.out) (fun hHeld=>?_)
    (refine tkA 0 ?_;refine tkA 2 ?_;refine tkA 3 ?_;refine tkA 4 ?_;refine tkA 5 ?_;refine tkA 6 ?_;try simp only[Act.put,sA,sB,sC])
    refine wpAnyH_ready (rs:=[1,7]) (by kernel_rfl) (by simp) ?_
    refine arC (fun K hK=>?_) ?_
    ·skip
     go_simp
     refine hK.out _ _ (HS0.out _ _ HA2.out.s4 HN2.out) (fun hHeld=>?_)
     clear hK K
     try simp only[Act.put,sA,sB,sC]
     refine rd1 7 (fun K hK=>?_)
     ·skip
      go_simp
      rw[Wr.out]
      go_at_call 82
      refine (C6.out _).mono ?_
      rintro e w5 ⟨rfl,v5⟩
      have HA5:=hid (HA2.out.keep v5)
      have HN5:=hid (HN2.out.keep v5)
      have e5:w5.cell? ⟨w.heap.size+1,1,none⟩=some (.slice aE E.length cE):=HA5.out.s4.at_ 1
      clear v5
      try go_wp2_with fail
      refine hK.out _ _ (HS0.out _ _ HA5.out.s4 HN5.out) (fun hHeld=>?_)
      clear hK K
      try simp only[Act.put,sA,sB,sC]
      refine rd1 8 (fun K hK=>?_)
      ·skip
       go_simp
       have HA6:=hid (HA5.out.keep (al w5 (.cells #[.int .i64 0,.int .i64 ((p:Int)+(F:Int)),.int .u64 0,.int .u64 0,.int .u64 0,.int .u64 0,.bool true] 128)))
       have HN6:=hid (HN5.out.keep (al w5 (.cells #[.int .i64 0,.int .i64 ((p:Int)+(F:Int)),.int .u64 0,.int .u64 0,.int .u64 0,.int .u64 0,.bool true] 128)))
       have e6:(w5.alloc (.cells #[.int .i64 0,.int .i64 ((p:Int)+(F:Int)),.int .u64 0,.int .u64 0,.int .u64 0,.int .u64 0,.bool true] 128)).cell? ⟨w.heap.size+1,1,none⟩=some (.slice aE E.length cE):=HA6.out.s4.at_ 1
       refine hK.out _ _ (HS0.out _ _ HA6.out.s4 HN6.out) (fun hHeld=>?_)
       clear hK K
       try simp only[Act.put,sA,sB,sC]
       refine rd1 9 (fun K hK=>?_)
       ·skip
        skip
        refine zao (by rfl) _ _ _ (by rfl) w.heap.size 128 i0 (.agg #[.int .i64 0,.int .i64 0,.int .u64 0,.int .u64 0,.int .u64 0,.int .u64 0,.bool false]) 7 56 Tryz.underlying65 hi hz0 hz1 hz2 (by rfl) (by decide) _ E.length (egs (E.map En.z)) (by rfl) HA6.out.oe ⟨w5.heap.size,0,none⟩ 1 1 (#[.int .i64 0,.int .i64 ((p:Int)+(F:Int)),.int .u64 0,.int .u64 0,.int .u64 0,.int .u64 0,.bool true]).toList (by rfl) (by rfl) (World.news_of_block (cs:=#[.int .i64 0,.int .i64 ((p:Int)+(F:Int)),.int .u64 0,.int .u64 0,.int .u64 0,.int .u64 0,.bool true]) (t:=128) (fr:=(0,0)) (heap_alloc_new w5 _)) (by simp[Value.oneCell']) (by unfold maxLen;omega) (by omega) HA6.out.below.size ?_
        intro v6 w6 hown6 hgrow6
        obtain⟨a6,c6,rfl⟩:=zaa hown6
        have hs4:=HA6.out.s4.grown_own HA6.out.oe (by decide) hgrow6
        have hn6:=HN6.out.grown_own HA6.out.oe (by decide) hgrow6
        have HA7:=hid (HA6.out.app (L2:=[fre 0 (p+F)]) (vE':=.slice a6 (E.length+1) c6) (by first|exact (by rw[HF7.out];exact hown6)|(rw[List.length_append];exact (by rw[HF7.out];exact hown6))) hgrow6)
        have HN7:=hid (hn6.far (p:=⟨w.heap.size+1,1,none⟩) (by show wr.heap.size≠w.heap.size+1;omega) (.slice a6 (E.length+1) c6))
        have t3:w6.cell? ⟨w.heap.size+1,1,none⟩=some (.slice aE E.length cE):=hs4.at_ 1
        have f3:=hs4.thaw_ 1
        refine hK.out _ _ (HS0.out _ _ hs4 hn6) (fun hHeld=>?_)
        clear hK K hown6 hgrow6 hs4 hn6
        try simp only[Act.put,sA,sB,sC]
        (refine tkA 10 ?_;try simp only[Act.put,sA,sB,sC])
        refine rd1 11 (fun K hK=>?_)
        ·skip
         go_simp
         refine hK.out _ _ (HS0.out _ _ HA7.out.s4 HN7.out) (fun hHeld=>?_)
         clear hK K
         try simp only[Act.put,sA,sB,sC]
         refine wpAnyH_done (by kernel_rfl) ?_ _
         clear hHeld
         go_wp2_with fail
         go_meet
         exact⟨_,_,rfl,HA7.out,HN7.out⟩
    refine arC (fun K hK=>?_) ?_
    ·skip
     go_simp
     rw[Wr.out]
     go_at_call 82
     refine (C6.out _).mono ?_
     rintro e w5 ⟨rfl,v5⟩
     have HA5:=hid (HA2.out.keep v5)
     have HN5:=hid (HN2.out.keep v5)
     have e5:w5.cell? ⟨w.heap.size+1,1,none⟩=some (.slice aE E.length cE):=HA5.out.s4.at_ 1
     clear v5
     try go_wp2_with fail
     refine hK.out _ _ (HS0.out _ _ HA5.out.s4 HN5.out) (fun hHeld=>?_)
     clear hK K
     try simp only[Act.put,sA,sB,sC]
     refine wpAnyH_ready (rs:=[1,8]) (by kernel_rfl) (by simp) ?_
     refine arC (fun K hK=>?_) ?_
     ·skip
      go_simp
      refine hK.out _ _ (HS0.out _ _ HA5.out.s4 HN5.out) (fun hHeld=>?_)
      clear hK K
      try simp only[Act.put,sA,sB,sC]
      refine rd1 8 (fun K hK=>?_)
      ·skip
       go_simp
       have HA6:=hid (HA5.out.keep (al w5 (.cells #[.int .i64 0,.int .i64 ((p:Int)+(F:Int)),.int .u64 0,.int .u64 0,.int .u64 0,.int .u64 0,.bool true] 128)))
       have HN6:=hid (HN5.out.keep (al w5 (.cells #[.int .i64 0,.int .i64 ((p:Int)+(F:Int)),.int .u64 0,.int .u64 0,.int .u64 0,.int .u64 0,.bool true] 128)))
       have e6:(w5.alloc (.cells #[.int .i64 0,.int .i64 ((p:Int)+(F:Int)),.int .u64 0,.int .u64 0,.int .u64 0,.int .u64 0,.bool true] 128)).cell? ⟨w.heap.size+1,1,none⟩=some (.slice aE E.length cE):=HA6.out.s4.at_ 1
       refine hK.out _ _ (HS0.out _ _ HA6.out.s4 HN6.out) (fun hHeld=>?_)
       clear hK K
       try simp only[Act.put,sA,sB,sC]
       refine rd1 9 (fun K hK=>?_)
       ·skip
        skip
        refine zao (by rfl) _ _ _ (by rfl) w.heap.size 128 i0 (.agg #[.int .i64 0,.int .i64 0,.int .u64 0,.int .u64 0,.int .u64 0,.int .u64 0,.bool false]) 7 56 Tryz.underlying65 hi hz0 hz1 hz2 (by rfl) (by decide) _ E.length (egs (E.map En.z)) (by rfl) HA6.out.oe ⟨w5.heap.size,0,none⟩ 1 1 (#[.int .i64 0,.int .i64 ((p:Int)+(F:Int)),.int .u64 0,.int .u64 0,.int .u64 0,.int .u64 0,.bool true]).toList (by rfl) (by rfl) (World.news_of_block (cs:=#[.int .i64 0,.int .i64 ((p:Int)+(F:Int)),.int .u64 0,.int .u64 0,.int .u64 0,.int .u64 0,.bool true]) (t:=128) (fr:=(0,0)) (heap_alloc_new w5 _)) (by simp[Value.oneCell']) (by unfold maxLen;omega) (by omega) HA6.out.below.size ?_
        intro v6 w6 hown6 hgrow6
        obtain⟨a6,c6,rfl⟩:=zaa hown6
        have hs4:=HA6.out.s4.grown_own HA6.out.oe (by decide) hgrow6
        have hn6:=HN6.out.grown_own HA6.out.oe (by decide) hgrow6
        have HA7:=hid (HA6.out.app (L2:=[fre 0 (p+F)]) (vE':=.slice a6 (E.length+1) c6) (by first|exact (by rw[HF7.out];exact hown6)|(rw[List.length_append];exact (by rw[HF7.out];exact hown6))) hgrow6)
        have HN7:=hid (hn6.far (p:=⟨w.heap.size+1,1,none⟩) (by show wr.heap.size≠w.heap.size+1;omega) (.slice a6 (E.length+1) c6))
        have t3:w6.cell? ⟨w.heap.size+1,1,none⟩=some (.slice aE E.length cE):=hs4.at_ 1
        have f3:=hs4.thaw_ 1
        refine hK.out _ _ (HS0.out _ _ hs4 hn6) (fun hHeld=>?_)
        clear hK K hown6 hgrow6 hs4 hn6
        try simp only[Act.put,sA,sB,sC]
        (refine tkA 10 ?_;try simp only[Act.put,sA,sB,sC])
        refine rd1 11 (fun K hK=>?_)
        ·skip
         go_simp
         refine hK.out _ _ (HS0.out _ _ HA7.out.s4 HN7.out) (fun hHeld=>?_)
         clear hK K
         try simp only[Act.put,sA,sB,sC]
         refine wpAnyH_done (by kernel_rfl) ?_ _
         clear hHeld
         go_wp2_with fail
         go_meet
         exact⟨_,_,rfl,HA7.out,HN7.out⟩
     refine arC (fun K hK=>?_) ?_
     ·skip
      go_simp
      have HA6:=hid (HA5.out.keep (al w5 (.cells #[.int .i64 0,.int .i64 ((p:Int)+(F:Int)),.int .u64 0,.int .u64 0,.int .u64 0,.int .u64 0,.bool true] 128)))
      have HN6:=hid (HN5.out.keep (al w5 (.cells #[.int .i64 0,.int .i64 ((p:Int)+(F:Int)),.int .u64 0,.int .u64 0,.int .u64 0,.int .u64 0,.bool true] 128)))
      have e6:(w5.alloc (.cells #[.int .i64 0,.int .i64 ((p:Int)+(F:Int)),.int .u64 0,.int .u64 0,.int .u64 0,.int .u64 0,.bool true] 128)).cell? ⟨w.heap.size+1,1,none⟩=some (.slice aE E.length cE):=HA6.out.s4.at_ 1
      refine hK.out _ _ (HS0.out _ _ HA6.out.s4 HN6.out) (fun hHeld=>?_)
      clear hK K
      try simp only[Act.put,sA,sB,sC]
      refine rd1 1 (fun K hK=>?_)
      ·skip
       go_simp
       refine hK.out _ _ (HS0.out _ _ HA6.out.s4 HN6.out) (fun hHeld=>?_)
       clear hK K
       try simp only[Act.put,sA,sB,sC]
       refine rd1 9 (fun K hK=>?_)
       ·skip
        skip
        refine zao (by rfl) _ _ _ (by rfl) w.heap.size 128 i0 (.agg #[.int .i64 0,.int .i64 0,.int .u64 0,.int .u64 0,.int .u64 0,.int .u64 0,.bool false]) 7 56 Tryz.underlying65 hi hz0 hz1 hz2 (by rfl) (by decide) _ E.length (egs (E.map En.z)) (by rfl) HA6.out.oe ⟨w5.heap.size,0,none⟩ 1 1 (#[.int .i64 0,.int .i64 ((p:Int)+(F:Int)),.int .u64 0,.int .u64 0,.int .u64 0,.int .u64 0,.bool true]).toList (by rfl) (by rfl) (World.news_of_block (cs:=#[.int .i64 0,.int .i64 ((p:Int)+(F:Int)),.int .u64 0,.int .u64 0,.int .u64 0,.int .u64 0,.bool true]) (t:=128) (fr:=(0,0)) (heap_alloc_new w5 _)) (by simp[Value.oneCell']) (by unfold maxLen;omega) (by omega) HA6.out.below.size ?_
        intro v6 w6 hown6 hgrow6
        obtain⟨a6,c6,rfl⟩:=zaa hown6
        have hs4:=HA6.out.s4.grown_own HA6.out.oe (by decide) hgrow6
        have hn6:=HN6.out.grown_own HA6.out.oe (by decide) hgrow6
        have HA7:=hid (HA6.out.app (L2:=[fre 0 (p+F)]) (vE':=.slice a6 (E.length+1) c6) (by first|exact (by rw[HF7.out];exact hown6)|(rw[List.length_append];exact (by rw[HF7.out];exact hown6))) hgrow6)
        have HN7:=hid (hn6.far (p:=⟨w.heap.size+1,1,none⟩) (by show wr.heap.size≠w.heap.size+1;omega) (.slice a6 (E.length+1) c6))
        have t3:w6.cell? ⟨w.heap.size+1,1,none⟩=some (.slice aE E.length cE):=hs4.at_ 1
        have f3:=hs4.thaw_ 1
        refine hK.out _ _ (HS0.out _ _ hs4 hn6) (fun hHeld=>?_)
        clear hK K hown6 hgrow6 hs4 hn6
        try simp only[Act.put,sA,sB,sC]
        (refine tkA 10 ?_;try simp only[Act.put,sA,sB,sC])
        refine rd1 11 (fun K hK=>?_)
        ·skip
         go_simp
         refine hK.out _ _ (HS0.out _ _ HA7.out.s4 HN7.out) (fun hHeld=>?_)
         clear hK K
         try simp only[Act.put,sA,sB,sC]
         refine wpAnyH_done (by kernel_rfl) ?_ _
         clear hHeld
         go_wp2_with fail
         go_meet
         exact⟨_,_,rfl,HA7.out,HN7.out⟩
     exact AllReadyH.nil
    exact AllReadyH.nil
   case rest=>
    obtain⟨aE1,cE1,rfl,hA1,hN1⟩:=hcut
    obtain⟨E1,hE1⟩:∃E1,E++[fre 0 (p+F)]=E1:=⟨_,rfl⟩
    have hE1l:E1.length=E.length+1:=by rw[<-hE1];simp
    have HE1:=hid hE1
    rw[hE1,<-hE1l] at hA1
    have hE1b:E1.length<=100101:=by omega
    have HA1:=hid hA1
    have HN1:=hid hN1
    clear hA1 hN1 hE1 hE1l C6 HF7 Wr
    obtain⟨z0,z1,z2,z3⟩:=HA1.out.s4.cells4
    go_wp2_with fail
    go_cut [5] from 26 to 34 (fun v wx=>∃(aE':Option Addr) (cE':Nat),v=.slice aL k cL/\UnA w p (E1++L.map (En.by p)) k (ula M k) (.slice aE' (E1.length+L.length) cE') (.slice aL k cL) wx/\St wx 67 wr.heap.size #[.int .i64 (N:Int),.slice ak L.length ck,.int .i64 (F:Int),.int .i64 (T:Int)])
    case first=>
     have HA2:=hid (HA1.out.keep (Below.refl wc.heap.size wc).drew)
     have HN2:Hid (St wc.drew 67 wr.heap.size #[.int .i64 (N:Int),.slice ak L.length ck,.int .i64 (F:Int),.int .i64 (T:Int)]):=HN1.out.drew
     have e2:wc.drew.cell? ⟨w.heap.size+1,1,none⟩=some (.slice aE1 E1.length cE1):=HA2.out.s4.at_ 1
     clear z0 z1 z2 z3
     have HS0:Hid (∀(W:World) (v:Value),St W 67 (w.heap.size+1) #[.int .i64 (p:Int),v,.int .i64 0,.int .i64 0]->St W 67 wr.heap.size #[.int .i64 (N:Int),.slice ak L.length ck,.int .i64 (F:Int),.int .i64 (T:Int)]->(W.cell? ⟨w.heap.size+1,0,none⟩=some (.int .i64 (p:Int))/\W.cell? ⟨wr.heap.size,1,none⟩=some (.slice ak L.length ck))):=fun W v h1 h2=>⟨h1.at_ 0,h2.at_ 1⟩
     refine wp_region_held_drew (S:=fun W'=>W'.cell? ⟨w.heap.size+1,0,none⟩=some (.int .i64 (p:Int))/\W'.cell? ⟨wr.heap.size,1,none⟩=some (.slice ak L.length ck)) (by kernel_rfl) (HS0.out _ _ HA2.out.s4 HN2.out) (fun hHeld=>?_)
     (refine tkA 0 ?_;refine tkA 2 ?_;refine tkA 3 ?_;refine tkA 4 ?_;refine tkA 5 ?_;try simp only[Act.put,sA,sB,sC])
     refine wpAnyH_ready (rs:=[1,6]) (by kernel_rfl) (by simp) ?_
     refine arC (fun K hK=>?_) ?_
     ·skip
      go_simp
      refine hK.out _ _ (HS0.out _ _ HA2.out.s4 HN2.out) (fun hHeld=>?_)
      clear hK K
      try simp only[Act.put,sA,sB,sC]
      refine rd1 6 (fun K hK=>?_)
      ·skip
       go_simp
       go_at_call 83
       refine (zfU L p ak L.length ck _ (HOk.out.2.below HA2.out.below) rfl hL1 (by omega) HbL.out).mono ?_
       rintro e w5 ⟨g5,rfl,ho5,v5⟩
       have HA5:=hid (HA2.out.keep v5)
       have HN5:=hid (HN2.out.keep v5)
       have HO5:=hid ho5
       have e5:w5.cell? ⟨w.heap.size+1,1,none⟩=some (.slice aE1 E1.length cE1):=HA5.out.s4.at_ 1
       clear v5 ho5
       try go_wp2_with fail
       refine hK.out _ _ (HS0.out _ _ HA5.out.s4 HN5.out) (fun hHeld=>?_)
       clear hK K
       try simp only[Act.put,sA,sB,sC]
       refine rd1 7 (fun K hK=>?_)
       ·skip
        skip
        refine zao (by rfl) _ _ _ (by rfl) w.heap.size 128 i0 (.agg #[.int .i64 0,.int .i64 0,.int .u64 0,.int .u64 0,.int .u64 0,.int .u64 0,.bool false]) 7 56 Tryz.underlying65 hi hz0 hz1 hz2 (by rfl) (by decide) _ E1.length (egs (E1.map En.z)) (by rfl) HA5.out.oe ⟨g5,0,none⟩ L.length L.length (egs ((L.map (En.by p)).map En.z)) (by rfl) (zbf HO5.out).2.2.2 (World.news_of_block (cs:=(egs ((L.map (En.by p)).map En.z)).toArray) (zbf HO5.out).1) (zdt _) (by unfold maxLen;omega) (by omega) HA5.out.below.size ?_
        intro v6 w6 hown6 hgrow6
        obtain⟨a6,c6,rfl⟩:=zaa hown6
        have hs4:=HA5.out.s4.grown_own HA5.out.oe (by decide) hgrow6
        have hn6:=HN5.out.grown_own HA5.out.oe (by decide) hgrow6
        have HA7:=hid (HA5.out.app (L2:=(L.map (En.by p))) (vE':=.slice a6 (E1.length+L.length) c6) (by first|exact (by rw[List.length_map];exact hown6)|(rw[List.length_append];exact (by rw[List.length_map];exact hown6))) hgrow6)
        have HN7:=hid (hn6.far (p:=⟨w.heap.size+1,1,none⟩) (by show wr.heap.size≠w.heap.size+1;omega) (.slice a6 (E1.length+L.length) c6))
        have t3:w6.cell? ⟨w.heap.size+1,1,none⟩=some (.slice aE1 E1.length cE1):=hs4.at_ 1
        have f3:=hs4.thaw_ 1
        refine hK.out _ _ (HS0.out _ _ hs4 hn6) (fun hHeld=>?_)
        clear hK K hown6 hgrow6 hs4 hn6
        try simp only[Act.put,sA,sB,sC]
        (refine tkA 8 ?_;try simp only[Act.put,sA,sB,sC])
        refine rd1 9 (fun K hK=>?_)
        ·skip
         go_simp
         refine hK.out _ _ (HS0.out _ _ HA7.out.s4 HN7.out) (fun hHeld=>?_)
         clear hK K
         try simp only[Act.put,sA,sB,sC]
         refine wpAnyH_done (by kernel_rfl) ?_ _
         clear hHeld
         go_wp2_with fail
         go_meet
         exact⟨_,_,rfl,HA7.out,HN7.out⟩
     refine arC (fun K hK=>?_) ?_
     ·skip
      go_simp
      go_at_call 83
      refine (zfU L p ak L.length ck _ (HOk.out.2.below HA2.out.below) rfl hL1 (by omega) HbL.out).mono ?_
      rintro e w5 ⟨g5,rfl,ho5,v5⟩
      have HA5:=hid (HA2.out.keep v5)
      have HN5:=hid (HN2.out.keep v5)
      have HO5:=hid ho5
      have e5:w5.cell? ⟨w.heap.size+1,1,none⟩=some (.slice aE1 E1.length cE1):=HA5.out.s4.at_ 1
      clear v5 ho5
      try go_wp2_with fail
      refine hK.out _ _ (HS0.out _ _ HA5.out.s4 HN5.out) (fun hHeld=>?_)
      clear hK K
      try simp only[Act.put,sA,sB,sC]
      refine rd1 1 (fun K hK=>?_)
      ·skip
       go_simp
       refine hK.out _ _ (HS0.out _ _ HA5.out.s4 HN5.out) (fun hHeld=>?_)
       clear hK K
       try simp only[Act.put,sA,sB,sC]
       refine rd1 7 (fun K hK=>?_)
       ·skip
        skip
        refine zao (by rfl) _ _ _ (by rfl) w.heap.size 128 i0 (.agg #[.int .i64 0,.int .i64 0,.int .u64 0,.int .u64 0,.int .u64 0,.int .u64 0,.bool false]) 7 56 Tryz.underlying65 hi hz0 hz1 hz2 (by rfl) (by decide) _ E1.length (egs (E1.map En.z)) (by rfl) HA5.out.oe ⟨g5,0,none⟩ L.length L.length (egs ((L.map (En.by p)).map En.z)) (by rfl) (zbf HO5.out).2.2.2 (World.news_of_block (cs:=(egs ((L.map (En.by p)).map En.z)).toArray) (zbf HO5.out).1) (zdt _) (by unfold maxLen;omega) (by omega) HA5.out.below.size ?_
        intro v6 w6 hown6 hgrow6
        obtain⟨a6,c6,rfl⟩:=zaa hown6
        have hs4:=HA5.out.s4.grown_own HA5.out.oe (by decide) hgrow6
        have hn6:=HN5.out.grown_own HA5.out.oe (by decide) hgrow6
        have HA7:=hid (HA5.out.app (L2:=(L.map (En.by p))) (vE':=.slice a6 (E1.length+L.length) c6) (by first|exact (by rw[List.length_map];exact hown6)|(rw[List.length_append];exact (by rw[List.length_map];exact hown6))) hgrow6)
        have HN7:=hid (hn6.far (p:=⟨w.heap.size+1,1,none⟩) (by show wr.heap.size≠w.heap.size+1;omega) (.slice a6 (E1.length+L.length) c6))
        have t3:w6.cell? ⟨w.heap.size+1,1,none⟩=some (.slice aE1 E1.length cE1):=hs4.at_ 1
        have f3:=hs4.thaw_ 1
        refine hK.out _ _ (HS0.out _ _ hs4 hn6) (fun hHeld=>?_)
        clear hK K hown6 hgrow6 hs4 hn6
        try simp only[Act.put,sA,sB,sC]
        (refine tkA 8 ?_;try simp only[Act.put,sA,sB,sC])
        refine rd1 9 (fun K hK=>?_)
        ·skip
         go_simp
         refine hK.out _ _ (HS0.out _ _ HA7.out.s4 HN7.out) (fun hHeld=>?_)
         clear hK K
         try simp only[Act.put,sA,sB,sC]
         refine wpAnyH_done (by kernel_rfl) ?_ _
         clear hHeld
         go_wp2_with fail
         go_meet
         exact⟨_,_,rfl,HA7.out,HN7.out⟩
     exact AllReadyH.nil
    case rest=>
     obtain⟨aE2,cE2,rfl,hA2,hN2⟩:=hcut
     obtain⟨E2,hE2⟩:∃E2,E1++L.map (En.by p)=E2:=⟨_,rfl⟩
     have hE2l:E2.length=E1.length+L.length:=by rw[<-hE2];simp
     have HE2:=hid hE2
     rw[hE2,<-hE2l] at hA2
     have HA3:=hid hA2
     have HN3:=hid hN2
     clear hA2 hN2 hE2 hE2l HA1 HN1 z0 z1 z2 z3 HbL
     obtain⟨z0,z1,z2,z3⟩:=HA3.out.s4.cells4
     obtain⟨y0,y1,y2,y3⟩:=HN3.out.cells4
     have hO1:=HA3.out.ol
     have hs1:=HA3.out.below.size
     obtain⟨i1,hi1,hy0,hy1,hy2⟩:=info_parts Tryz.info_int9
     go_wp2_with (at_builtin;refine wpList_append_own _ rfl _ _ 30 rfl w.heap.size 3 i1 (.int .i64 0) 1 8 Tryz.underlying30 hi1 hy0 hy1 hy2 rfl (by decide) _ _ _ rfl (hO1.alloc _) ⟨wc.heap.size,0,none⟩ 1 1 [.int .i64 ((p:Int)+(T:Int))] rfl rfl (cell_one_new _ _ _) ?d2 ?d3 ?d4 ?d5 ?_)
     case d2=>simp[Value.oneCell']
     case d3=>unfold maxLen;omega
     case d4=>omega
     case d5=>simp;omega
     intro v6 w6 hown6 hgrow6 _
     obtain⟨a6,c6,rfl⟩:=zaa hown6
     have hF:=HA3.out.last (N:=N) (t:=p+T) hown6 hgrow6
     have hk1:k+1<=n:=by omega
     have HF:Hid (UnA w (uo M (k+1)) (uE M (k+1)) (k+1) (ula M (k+1)) (.slice aE2 (uE M (k+1)).length cE2) (.slice a6 (k+1) c6) (w6.setCell ⟨w.heap.size+1,0,none⟩ (.int .i64 ((p:Int)+(N:Int))))):=by
      show UnA _ _ _ _ _ _ _ _
      rw[HSu.out.1,HSu.out.2.1,HSu.out.2.2]
      have e:E++[fre 0 (p+F)]++L.map (En.by p)=E2:=by rw[HE1.out,HE2.out]
      rw[e]
      exact hF
     have al1:=al wc (.cells #[.int .i64 ((p:Int)+(T:Int))] 3)
     have hs4:=(HA3.out.s4.keep al1).grown_own (zab hO1 al1) (by decide) hgrow6
     have hs7:=(HN3.out.keep al1).grown_own (zab hO1 al1) (by decide) hgrow6
     clear z0 z1 z2 z3 y0 y1 y2 y3 hF al1
     obtain⟨z0,z1,z2,z3⟩:=hs4.cells4
     obtain⟨y0,y1,y2,y3⟩:=hs7.cells4
     have f0:=hs4.thaw_ 0
     clear hown6 hgrow6 hs4 hs7 hO1 HA3 HN3
     go_wp2_with fail
     go_roundw
     case rel=>exact⟨k+1,aE2,cE2,a6,c6,by go_num,hk1,rfl,HF⟩
     case measure=>simp[intOf];omega
  ·obtain rfl:k=n:=by omega
   obtain⟨z0,z1,z2,z3⟩:=HA.out.s4.cells4
   obtain⟨x0,x1,x2,x3,g0,g1,g2,g3⟩:=row4 HA.out.s2
   obtain⟨E,hE⟩:∃E,uE M k=E:=⟨_,rfl⟩
   obtain⟨p,hp⟩:∃p,uo M k=p:=⟨_,rfl⟩
   rw[hE,hp] at HA
   rw[hp] at z0
   rw[hE] at z1
   have HSf:Hid (St ((((wr.setCell ⟨w.heap.size,0,none⟩ (.int .i64 (p:Int))).setCell ⟨w.heap.size,1,none⟩ (.slice aE E.length cE)).setCell ⟨w.heap.size,2,none⟩ (.int .i64 0)).setCell ⟨w.heap.size,3,none⟩ (.int .i64 0)) 67 w.heap.size #[.int .i64 (p:Int),.slice aE E.length cE,.int .i64 0,.int .i64 0]):=HA.out.s2.set4 _ _ _ _
   have HF:=hid (And.intro (zbD HA.out.oe HA.out.s2 (by decide) (.int .i64 (p:Int)) (.slice aE E.length cE) (.int .i64 0) (.int .i64 0)) (And.intro (zbD HA.out.ol HA.out.s2 (by decide) (.int .i64 (p:Int)) (.slice aE E.length cE) (.int .i64 0) (.int .i64 0)) (zbp HA.out.below (Nat.le_refl _) (.int .i64 (p:Int)) (.slice aE E.length cE) (.int .i64 0) (.int .i64 0))))
   go_wp2_with fail
   generalize (((wr.setCell ⟨w.heap.size,0,none⟩ (.int .i64 (p:Int))).setCell ⟨w.heap.size,1,none⟩ (.slice aE E.length cE)).setCell ⟨w.heap.size,2,none⟩ (.int .i64 0)).setCell ⟨w.heap.size,3,none⟩ (.int .i64 0)=Wf at HF HSf⊢
   obtain⟨v0,v1,v2,v3⟩:=HSf.out.cells4
   rw[hE,hp]
   exact bodyPost_ret (v:=.tuple #[.agg #[.int .i64 (p:Int),.slice aE E.length cE,.int .i64 0,.int .i64 0],.slice aL k cL]) (by simp[results,Tryz.results53,go_sem,v0,v1,v2,v3]) rfl ⟨aE,cE,aL,cL,rfl,HF.out.1,HF.out.2.1,HF.out.2.2⟩
theorem za6 {P:Program}{ops:Array Oper}{o:Oper}{a:Act}{w:World}{K:Act->World->Prop}{Q:Exit->Act->World->Prop}{E:Prop}(hgd:o.guard=none) (s x:Operand) (t:TypeId)
  (ho:o.op=.call { callee:=.builtin .append,args:=#[s,x],argTypes:=#[t,t] })
  (base:Nat) (e:TypeId) (i:TypeInfo) (z:Value) (size bytes:Nat) (ht:P.underlying t=some (.slice e)) (hi:P.info? e=some i) (hz:i.zero=some z)
  (hsize:i.size=size) (hby:i.bytes=bytes) (hzs:z.cells.size=size) (hsz:0<size)
  (v:Value) (n:Nat) (xs:List Value) (hs:a.eval s=v) (hown:w.ownsRow base e size v n xs)
  (ad:Addr) (m c:Nat) (news:List Value) (hx:a.eval x=.slice (some ad) m c) (hl:news.length=m*size) (hnews:∀j u,news[j]?=some u->w.cell? (ad.add j)=some u) (h1:∀u∈news,u.oneCell'=true)
  (h63:n+m<=maxLen) (hbytes:(n+m)*bytes<=140737488355328) (hbase:base<=w.heap.size)
  (h:∀v' w',w'.ownsRow base e size v' (n+m) (xs++news)->w.grownBy w' v.ownBlock->(v'.ownBlock=v.ownBlock\/v'.ownBlock=some w.heap.size)->K (a.put o.dst v') w'):
  if Region.wanted o (yielded ops a.tmps)=true then Oper.wp P o a w K Q else E:=by
 have hw:Region.wanted o (yielded ops a.tmps)=true:=by simp[Region.wanted,hgd]
 rw[if_pos hw]
 obtain⟨v',w',hr,h2,h3,_,h4⟩:=run_append_own_at (P:=P) w base t o.type e i z size bytes ht hi hz hsize hby hzs hsz v n xs hown ad m c news hl hnews h1 h63 hbytes hbase
 unfold Oper.wp execOp
 simp only[ho,resolve,invoke,builtin,Sem.run_bind,Sem.run_pure,Result.andThen_ok,List.map_toArray,List.map_cons,List.map_nil,hs,hx,hr]
 exact h v' w' h2 h3 h4
theorem zlP (V:World) (B:Nat) (bs:List Nat) (bm gI m M bM bn gM cM:Nat) (cs:Array Value) (mk:Nat->Int) (HV:NetMk V B bn gM M cM mk) (hmk:∀i,i<M->-1<=mk i) (hc0:cs[0]?=some (.pointer (some ⟨bn,0,none⟩))) (hM:M<=100000)
  (l:List Nat) (vL vS vK:Value) (k n:Nat) (ss:List ByteArray) (ms:List Int) (Q Q':Value->Value->Prop) (s:ByteArray) (hs:s.size<=100000) (hk:k<=1000000) (hn:n<=1000000) (hno:∀y,¬Q (.string s) y) (hQ1:∀x y,Q x y->Q' x y) (hQ2:Q' (.string s) (.int .i64 (k:Int))) (hQ3:∀x y,Q' x y->x≠.string s->∃y',Q x y')
  (wr:World) (h:MkA V B bs bm gI m M cs l vL wr) (t:MkT V B bs bM cs vL k k n ss ms Q vS vK wr):
  Calls Tryz.prog 119 #[.pointer (some ⟨bm,0,none⟩),.string s] wr (ze5 V B bs bm gI m M bM cs l vL k n ss ms Q' s mk):=by
 obtain⟨aS,cS,rfl⟩:=zaa t.os
 obtain⟨aK,cK,rfl⟩:=zaa t.ok
 have c1:wr.cell? ⟨bm,259,none⟩=some (.slice aS k cS):=(h.r.other 259 (by decide)).trans t.cS
 obtain⟨kl,hkl⟩:∃kl,keyOf Tryz.prog 9 (.string s)=some kl:=⟨_,Go.WideMaps.keyOf_string_mk Tryz.underlying9 (by unfold maxLen;omega)⟩
 have HH:=hid (And.intro h t)
 have HV2:=hid (And.intro HV (And.intro hmk hc0))
 have HQ:=hid (And.intro hQ1 (And.intro hQ2 (And.intro hQ3 hno)))
 obtain⟨i0,hi,hz0,hz1,hz2⟩:=info_parts Tryz.info_int9
 obtain⟨i1,hi1,hy0,hy1,hy2⟩:=info_parts Tryz.info_str9
 have hO:=t.os
 have hB0:=h.r.hB
 clear h t HV hmk hc0 hQ1 hQ2 hQ3 hno
 go_enter Tryz.func119,Tryz.ntmps119
 go_wp2_with (at_builtin;refine wpList_append_own_at _ rfl _ _ 122 rfl B 9 i1 (.string ⟨#[]⟩) 1 16 Tryz.underlying122 hi1 hy0 hy1 hy2 rfl (by decide) _ _ _ rfl (hO.alloc _) ⟨wr.heap.size,0,none⟩ 1 1 [.string s] rfl rfl (cell_one_new _ _ _) ?d2 ?d3 ?d4 ?d5 ?_)
 case d2=>intro u hu;simp at hu;subst hu;rfl
 case d3=>unfold maxLen;omega
 case d4=>omega
 case d5=>simp;omega
 intro v' w5 hown5 hgrow5 _ hat5
 obtain⟨a5,c5,rfl⟩:=zaa hown5
 have al1:=al wr (.cells #[.string s] 9)
 have hms:=znF (HH.out.1.keep al1) (HH.out.2.keep al1) (s:=s) (vS':=.slice a5 (k+1) c5) hown5 hgrow5 (by rw[show (wr.alloc (.cells #[.string s] 9)).heap.size=wr.heap.size+1 by simp];exact hat5)
 have hsm5:St w5 125 bm _:=(HH.out.1.keep al1).r.sm.grown_own (HH.out.2.keep al1).os (by decide) hgrow5
 have p1:w5.cell? ⟨bm,259,none⟩=some (.slice aS k cS):=by rw[hsm5.at_,Array.getElem?_setIfInBounds_ne (by decide)];exact HH.out.2.cS
 have pf:=hsm5.thaw_ 259
 have HS:=hid hms
 have HM5:=hms.2.map
 have q1:(w5.setCell ⟨bm,259,none⟩ (.slice a5 (k+1) c5)).cell? ⟨bm,260,none⟩=some (.map (some bM)):=(hms.1.r.other 260 (by decide)).trans hms.2.cM
 clear hown5 hgrow5 hat5 al1 hms hsm5 hO
 go_wp2_with (at_mapUpdate;refine zc0 _ rfl _ _ _ 123 rfl 9 3 zbT Tryz.underlying123 bM n Q Q' rfl HM5 (by unfold maxLen;omega) _ _ kl rfl rfl hkl HQ.out.2.2.2 HQ.out.1 HQ.out.2.1 HQ.out.2.2.1 ?_)
 intro w6 hM6 hg6
 have hmm:=zmz HS.out.1 HS.out.2 hM6 hg6
 clear hM6 hg6 HM5 q1 p1 pf HS
 have HA3:Hid (MkA V B bs bm gI m M (cs.setIfInBounds 259 (.slice a5 (k+1) c5)) l vL w6.drew/\MkT V B bs bM (cs.setIfInBounds 259 (.slice a5 (k+1) c5)) vL (k+1) k (n+1) (ss++[s]) ms Q' (.slice a5 (k+1) c5) (.slice aK k cK) w6.drew):=
  ⟨hmm.1.keep (Below.refl w6.heap.size w6).drew,hmm.2.keep (Below.refl w6.heap.size w6).drew⟩
 clear hmm
 generalize w6=W3 at HA3⊢
 have e3:W3.drew.cell? ⟨bm,258,none⟩=some (.slice aK k cK):=(HA3.out.1.r.other 258 (by decide)).trans HA3.out.2.cK
 have HSm:=hid (zfs V B bs bm gI m M bn gM cM (cs.setIfInBounds 259 (.slice a5 (k+1) c5)) mk HV2.out.1 HV2.out.2.1 (by rw[Array.getElem?_setIfInBounds_ne (by decide)];exact HV2.out.2.2) hM l vL W3.drew HA3.out.1)
 go_wp2_with fail
 refine wp_region_held_drew (S:=fun _=>True) (by kernel_rfl) trivial (fun hHeld=>?_)
 (refine tkA 0 ?_;refine tkA 1 ?_;refine tkA 2 ?_;refine tkA 3 ?_;refine tkA 4 ?_;refine tkA 6 ?_;try simp only[Act.put,sA,sB,sC])
 refine wpAnyH_ready (rs:=[5,7]) (by kernel_rfl) (by simp) ?_
 refine arC (fun K hK=>?_) ?_
 ·skip
  go_simp
  refine hK.out _ _ trivial (fun hHeld=>?_)
  clear hK K
  try simp only[Act.put,sA,sB,sC]
  refine rd1 7 (fun K hK=>?_)
  ·skip
   go_simp
   go_at_call 146
   refine HSm.out.mono ?_
   rintro e w5 ⟨r,rfl,hr,rfl⟩
   have HR:=hid hr
   clear hr
   try go_wp2_with fail
   refine hK.out _ _ trivial (fun hHeld=>?_)
   clear hK K
   try simp only[Act.put,sA,sB,sC]
   refine rd1 8 (fun K hK=>?_)
   ·skip
    go_simp
    have HA6:=hid (HA3.out.1.keep (al W3.drew (.cells #[.int .i64 r] 3)))
    have HT6:=hid (HA3.out.2.keep (al W3.drew (.cells #[.int .i64 r] 3)))
    have e6:(W3.alloc (.cells #[.int .i64 r] 3)).cell? ⟨bm,258,none⟩=some (.slice aK k cK):=(HA6.out.r.other 258 (by decide)).trans HT6.out.cK
    refine hK.out _ _ trivial (fun hHeld=>?_)
    clear hK K
    try simp only[Act.put,sA,sB,sC]
    refine rd1 9 (fun K hK=>?_)
    ·skip
     skip
     refine za6 (by rfl) _ _ _ (by rfl) B 3 i0 (.int .i64 0) 1 8 Tryz.underlying30 hi hz0 hz1 hz2 (by rfl) (by decide) _ k (ints ms) (by rfl) HT6.out.ok ⟨W3.heap.size,0,none⟩ 1 1 (#[.int .i64 r]).toList (by rfl) (by rfl) (World.news_of_block (cs:=#[.int .i64 r]) (t:=3) (fr:=(0,0)) (heap_alloc_new W3.drew _)) (by simp[Value.oneCell']) (by unfold maxLen;omega) (by omega) HA6.out.r.hB ?_
     intro v6 w6 hown6 hgrow6 hat6
     obtain⟨a6,c6,rfl⟩:=zaa hown6
     have hmk:=ze6 HA6.out HT6.out (r:=r) (vK':=.slice a6 (k+1) c6) hown6 hgrow6 hat6
     have hsm6:St w6 125 bm _:=HA6.out.r.sm.grown_own HT6.out.ok (by decide) hgrow6
     have t3:w6.cell? ⟨bm,258,none⟩=some (.slice aK k cK):=by rw[hsm6.at_,Array.getElem?_setIfInBounds_ne (by decide)];exact HT6.out.cK
     have f3:=hsm6.thaw_ 258
     have HF:Hid (ze5 V B bs bm gI m M bM cs l vL k n ss ms Q' s mk (.returned (.int .i64 (k:Int))) (w6.setCell ⟨bm,258,none⟩ (.slice a6 (k+1) c6))):=⟨r,_,_,rfl,HR.out,hmk.1,hmk.2⟩
     refine hK.out _ _ trivial (fun hHeld=>?_)
     clear hK K hown6 hgrow6 hat6 hmk hsm6
     try simp only[Act.put,sA,sB,sC]
     (refine tkA 10 ?_;refine tkA 11 ?_;refine tkA 12 ?_;try simp only[Act.put,sA,sB,sC])
     refine rd1 13 (fun K hK=>?_)
     ·skip
      go_simp
      refine hK.out _ _ trivial (fun hHeld=>?_)
      clear hK K
      try simp only[Act.put,sA,sB,sC]
      refine wpAnyH_done (by kernel_rfl) ?_ _
      clear hHeld
      go_wp2_with fail
      go_ret
      exact HF.out
 refine arC (fun K hK=>?_) ?_
 ·skip
  go_simp
  go_at_call 146
  refine HSm.out.mono ?_
  rintro e w5 ⟨r,rfl,hr,rfl⟩
  have HR:=hid hr
  clear hr
  try go_wp2_with fail
  refine hK.out _ _ trivial (fun hHeld=>?_)
  clear hK K
  try simp only[Act.put,sA,sB,sC]
  refine wpAnyH_ready (rs:=[5,8]) (by kernel_rfl) (by simp) ?_
  refine arC (fun K hK=>?_) ?_
  ·skip
   go_simp
   refine hK.out _ _ trivial (fun hHeld=>?_)
   clear hK K
   try simp only[Act.put,sA,sB,sC]
   refine rd1 8 (fun K hK=>?_)
   ·skip
    go_simp
    have HA6:=hid (HA3.out.1.keep (al W3.drew (.cells #[.int .i64 r] 3)))
    have HT6:=hid (HA3.out.2.keep (al W3.drew (.cells #[.int .i64 r] 3)))
    have e6:(W3.alloc (.cells #[.int .i64 r] 3)).cell? ⟨bm,258,none⟩=some (.slice aK k cK):=(HA6.out.r.other 258 (by decide)).trans HT6.out.cK
    refine hK.out _ _ trivial (fun hHeld=>?_)
    clear hK K
    try simp only[Act.put,sA,sB,sC]
    refine rd1 9 (fun K hK=>?_)
    ·skip
     skip
     refine za6 (by rfl) _ _ _ (by rfl) B 3 i0 (.int .i64 0) 1 8 Tryz.underlying30 hi hz0 hz1 hz2 (by rfl) (by decide) _ k (ints ms) (by rfl) HT6.out.ok ⟨W3.heap.size,0,none⟩ 1 1 (#[.int .i64 r]).toList (by rfl) (by rfl) (World.news_of_block (cs:=#[.int .i64 r]) (t:=3) (fr:=(0,0)) (heap_alloc_new W3.drew _)) (by simp[Value.oneCell']) (by unfold maxLen;omega) (by omega) HA6.out.r.hB ?_
     intro v6 w6 hown6 hgrow6 hat6
     obtain⟨a6,c6,rfl⟩:=zaa hown6
     have hmk:=ze6 HA6.out HT6.out (r:=r) (vK':=.slice a6 (k+1) c6) hown6 hgrow6 hat6
     have hsm6:St w6 125 bm _:=HA6.out.r.sm.grown_own HT6.out.ok (by decide) hgrow6
     have t3:w6.cell? ⟨bm,258,none⟩=some (.slice aK k cK):=by rw[hsm6.at_,Array.getElem?_setIfInBounds_ne (by decide)];exact HT6.out.cK
     have f3:=hsm6.thaw_ 258
     have HF:Hid (ze5 V B bs bm gI m M bM cs l vL k n ss ms Q' s mk (.returned (.int .i64 (k:Int))) (w6.setCell ⟨bm,258,none⟩ (.slice a6 (k+1) c6))):=⟨r,_,_,rfl,HR.out,hmk.1,hmk.2⟩
     refine hK.out _ _ trivial (fun hHeld=>?_)
     clear hK K hown6 hgrow6 hat6 hmk hsm6
     try simp only[Act.put,sA,sB,sC]
     (refine tkA 10 ?_;refine tkA 11 ?_;refine tkA 12 ?_;try simp only[Act.put,sA,sB,sC])
     refine rd1 13 (fun K hK=>?_)
     ·skip
      go_simp
      refine hK.out _ _ trivial (fun hHeld=>?_)
      clear hK K
      try simp only[Act.put,sA,sB,sC]
      refine wpAnyH_done (by kernel_rfl) ?_ _
      clear hHeld
      go_wp2_with fail
      go_ret
      exact HF.out
  refine arC (fun K hK=>?_) ?_
  ·skip
   go_simp
   have HA6:=hid (HA3.out.1.keep (al W3.drew (.cells #[.int .i64 r] 3)))
   have HT6:=hid (HA3.out.2.keep (al W3.drew (.cells #[.int .i64 r] 3)))
   have e6:(W3.alloc (.cells #[.int .i64 r] 3)).cell? ⟨bm,258,none⟩=some (.slice aK k cK):=(HA6.out.r.other 258 (by decide)).trans HT6.out.cK
   refine hK.out _ _ trivial (fun hHeld=>?_)
   clear hK K
   try simp only[Act.put,sA,sB,sC]
   refine rd1 5 (fun K hK=>?_)
   ·skip
    go_simp
    refine hK.out _ _ trivial (fun hHeld=>?_)
    clear hK K
    try simp only[Act.put,sA,sB,sC]
    refine rd1 9 (fun K hK=>?_)
    ·skip
     skip
     refine za6 (by rfl) _ _ _ (by rfl) B 3 i0 (.int .i64 0) 1 8 Tryz.underlying30 hi hz0 hz1 hz2 (by rfl) (by decide) _ k (ints ms) (by rfl) HT6.out.ok ⟨W3.heap.size,0,none⟩ 1 1 (#[.int .i64 r]).toList (by rfl) (by rfl) (World.news_of_block (cs:=#[.int .i64 r]) (t:=3) (fr:=(0,0)) (heap_alloc_new W3.drew _)) (by simp[Value.oneCell']) (by unfold maxLen;omega) (by omega) HA6.out.r.hB ?_
     intro v6 w6 hown6 hgrow6 hat6
     obtain⟨a6,c6,rfl⟩:=zaa hown6
     have hmk:=ze6 HA6.out HT6.out (r:=r) (vK':=.slice a6 (k+1) c6) hown6 hgrow6 hat6
     have hsm6:St w6 125 bm _:=HA6.out.r.sm.grown_own HT6.out.ok (by decide) hgrow6
     have t3:w6.cell? ⟨bm,258,none⟩=some (.slice aK k cK):=by rw[hsm6.at_,Array.getElem?_setIfInBounds_ne (by decide)];exact HT6.out.cK
     have f3:=hsm6.thaw_ 258
     have HF:Hid (ze5 V B bs bm gI m M bM cs l vL k n ss ms Q' s mk (.returned (.int .i64 (k:Int))) (w6.setCell ⟨bm,258,none⟩ (.slice a6 (k+1) c6))):=⟨r,_,_,rfl,HR.out,hmk.1,hmk.2⟩
     refine hK.out _ _ trivial (fun hHeld=>?_)
     clear hK K hown6 hgrow6 hat6 hmk hsm6
     try simp only[Act.put,sA,sB,sC]
     (refine tkA 10 ?_;refine tkA 11 ?_;refine tkA 12 ?_;try simp only[Act.put,sA,sB,sC])
     refine rd1 13 (fun K hK=>?_)
     ·skip
      go_simp
      refine hK.out _ _ trivial (fun hHeld=>?_)
      clear hK K
      try simp only[Act.put,sA,sB,sC]
      refine wpAnyH_done (by kernel_rfl) ?_ _
      clear hHeld
      go_wp2_with fail
      go_ret
      exact HF.out
  exact AllReadyH.nil
 exact AllReadyH.nil
def bsOf (bm gI:Nat) (vL:Value):List Nat:=bm :: gI :: vL.ownBlock.toList
theorem MkR.base {V wr:World}{B bm gI m:Nat}{bs:List Nat}{cs:Array Value}{P:Nat->Bool}{l:List Nat}{vL:Value}(h:MkR V B bs bm gI m cs P l vL wr):MkR wr B (bsOf bm gI vL) bm gI m cs P l vL wr:=
 ⟨Kept.refl _ _ _,Below.refl _ _,h.sm,h.sz,h.cI,h.inn,h.lst,fun b e=>Or.inl (by simp[bsOf,e]),⟨by simp[bsOf],by simp[bsOf]⟩,h.lo.1,h.lo.2.1,h.hB⟩
theorem MkR.back {V wr w3:World}{B bm gI m:Nat}{bs:List Nat}{cs cs':Array Value}{P P':Nat->Bool}{l l':List Nat}{vL vL':Value}(h:MkR V B bs bm gI m cs P l vL wr) (h':MkR wr B (bsOf bm gI vL) bm gI m cs' P' l' vL' w3):MkR V B bs bm gI m cs' P' l' vL' w3:=by
 have hsz:=h.below.size
 refine⟨fun k o hk ho hn=>h'.kept k o (h.kept k o hk ho hn) ho (fun hm=>?_),h.below.trans h'.below,h'.sm,h'.sz,h'.cI,h'.inn,h'.lst,fun b e=>?_,h.inb,h.lo⟩
 ·simp only[bsOf,List.mem_cons,Option.mem_toList] at hm
  rcases hm with rfl|rfl|hm
  ·exact hn h.inb.1
  ·exact hn h.inb.2
  ·rcases h.loc k hm with h1|h1
   ·exact hn h1
   ·have:=(Array.getElem?_eq_some_iff.1 hk).1
    omega
 ·rcases h'.loc b e with hm|hm
  ·simp only[bsOf,List.mem_cons,Option.mem_toList] at hm
   rcases hm with rfl|rfl|hm
   ·exact Or.inl h.inb.1
   ·exact Or.inl h.inb.2
   ·exact h.loc b hm
  ·exact Or.inr (by omega)
theorem MkT.over {V wr w3:World}{B bm gI m bM k q n:Nat}{bs:List Nat}{cs:Array Value}{P P':Nat->Bool}{l l':List Nat}{vL vL' vS vK:Value}{ss:List ByteArray}{ms:List Int}{Q:Value->Value->Prop}(h:MkR V B bs bm gI m cs P l vL wr) (t:MkT V B bs bM cs vL k q n ss ms Q vS vK wr)
  (h':MkR wr B (bsOf bm gI vL) bm gI m cs P' l' vL' w3):MkT V B bs bM cs vL' k q n ss ms Q vS vK w3:=by
 have hn:∀{t' n':Nat}{v:Value}{xs:List Value},wr.ownsRow B t' 1 v n' xs->t'≠125->t'≠5->(∀b,vL.ownBlock=some b->v.ownBlock≠some b)->∀g,v.ownBlock=some g->g∉bsOf bm gI vL:=by
  intro t' n' v xs ho h1 h2 h3 g hg hm
  simp only[bsOf,List.mem_cons,Option.mem_toList] at hm
  rcases hm with rfl|rfl|hm
  ·exact zaq ho h.sm h1 g hg rfl
  ·exact zan ho h.inn h2 g hg rfl
  ·exact h3 g hm hg
 refine⟨t.cK,t.cS,t.cM,zal t.os h'.kept (by simp) (hn t.os (by decide) (by decide) (fun b e1 e2=>zan h.lst t.os (by decide) b e1 e2)),zal t.ok h'.kept (by simp) (hn t.ok (by decide) (by decide) t.sep),t.map.kept h'.kept ?_,fun b e1 e2=>?_,t.lS,t.lK,t.lM⟩
 ·simp only[bsOf,List.mem_cons,Option.mem_toList]
  rintro (e|e|e)
  ·exact zbi t.map h.sm e.symm
  ·exact zaP t.map h.inn gI rfl e.symm
  ·exact zaP t.map h.lst bM e rfl
 ·rcases h'.loc b e1 with hm|hm
  ·exact hn t.ok (by decide) (by decide) t.sep b e2 hm
  ·obtain⟨c,fz,hc⟩:=zaI t.ok b e2
   have:=(Array.getElem?_eq_some_iff.1 hc).1
   omega
def txt (M:Nat) (f:Nat->Bool):ByteArray:=strOf (keyL f M)
theorem zkg (M:Nat) (f g:Nat->Bool):txt M f=txt M g↔∀x,x<M->f x=g x:=by
 constructor
 ·intro h
  exact (zex f g M).1 (zdl (zbB _ M) (zbB _ M) (by rw[<-zbA,<-zbA];exact congrArg (fun s:ByteArray=>s.data.toList) h))
 ·intro h
  unfold txt
  rw[(zex f g M).2 h]
def MQ (M:Nat) (D:List ((Nat->Bool) × Nat)) (x y:Value):Prop:=∃p∈D,x=.string (txt M p.1)/\y=.int .i64 ((p.2:Nat):Int)
structure Inv (L:List En) (M:Nat) (mk:Nat->Int) (SS:List (Nat->Bool)) (ms:List Int) (D:List ((Nat->Bool) × Nat)):Prop where
 own:∀j (h:j<SS.length),(SS[j],j)∈D
 ent:∀p∈D,∃h:p.2<SS.length,∀x,x<M->(SS[p.2] x=true↔FR L (fun y=>y<M/\p.1 y=true) x)
 len:ms.length=SS.length
 mks:∀j (h:j<SS.length) (h2:j<ms.length),Least mk (fun x=>x<M/\SS[j] x=true) ms[j]
theorem zhJ (f:Nat->Bool) (M m:Nat) (hm:(M+7) / 8=m) (h:∀x,f x=true->x<M):rowL f m=keyL f M:=by
 unfold rowL keyL
 rw[hm]
 refine List.map_congr_left fun j _=>zdj fun k _=>?_
 by_cases e:8*j+k<M
 ·simp[upTo,e]
 ·have:f (8*j+k)=false:=by
   cases hf:f (8*j+k) with
   | false=>rfl
   | true=>exact absurd (h _ hf) e
  simp[upTo,e,this]
theorem MkR.kback {V wr W:World}{B bm gI m:Nat}{bs:List Nat}{cs:Array Value}{P:Nat->Bool}{l:List Nat}{vL:Value}(h:MkR V B bs bm gI m cs P l vL wr) (k:Kept [] (bsOf bm gI vL) wr W):Kept [] bs V W:=fun k0 o hk ho hn=>k k0 o (h.kept k0 o hk ho hn) ho (fun hm=>by
 simp only[bsOf,List.mem_cons,Option.mem_toList] at hm
 rcases hm with rfl|rfl|hm
 ·exact hn h.inb.1
 ·exact hn h.inb.2
 ·rcases h.loc k0 hm with h1|h1
  ·exact hn h1
  ·have:=(Array.getElem?_eq_some_iff.1 hk).1
   omega)
theorem FR.idem {L:List En}{A:Nat->Prop}(x:Nat):FR L (FR L A) x↔FR L A x:=by
 constructor
 ·intro k
  induction k with
  | base h=>exact h
  | step e _ h1 h2 h3 h4 ih=>exact .step e ih h1 h2 h3 h4
 ·exact .base
theorem MapEx.again {w:World}{k t e:TypeId}{b n:Nat}{Q:Value->Value->Prop}(h:MapEx w k b n Q) (K:Keyed Tryz.prog k) (ht:Tryz.prog.underlying t=some (.map k e))
  {key val:Value}{kl:Lit}(hkey:keyOf Tryz.prog k key=some kl) (hv:Q key val):∃w',(Instr.mapUpdate t (.map (some b)) key val).run Tryz.prog w=.ok () w'/\MapEx w' k b n Q/\w.grownBy w' (some b):=by
 obtain⟨es,clock,hb,F,hs,hq,hall⟩:=h
 obtain⟨F1,_,_⟩:=F.stay (R':=anyR) (fun x hx z hz=>hz)
 rcases K.find w hkey es.toList F.keys with ⟨h1,h2⟩|⟨j,e0,h1,h2,h3⟩
 ·obtain⟨e1,h4,h5⟩:=hall _ _ hv
  exact absurd h5 (h2 e1 h4)
 ·have hj:es[j]?=some e0:=by simpa using h2
  have hkeyf:∀e',es[j]?=some e'->({ e' with key:=key,val:=val }:MapEntry).key=e'.key:=fun e' he'=>by rw[hj] at he';cases he';exact h3.symm
  have hlist:(es.modify j (fun e'=>{ e' with key:=key,val:=val })).toList=es.toList.set j { e0 with key:=key,val:=val }:=by rw[Array.toList_modify,modify_eq_set _ _ _ _ h2]
  have who:∀x∈es.toList.set j { e0 with key:=key,val:=val },x={ e0 with key:=key,val:=val }\/x∈es.toList:=by
   intro x hx
   rcases List.mem_or_eq_of_mem_set hx with h|h
   ·exact Or.inr h
   ·exact Or.inl h
  have hrd:∀bn,WideElems.rd Tryz.prog k anyR ⟨key,val,bn⟩=some (kl,.held val):=fun bn=>by unfold WideElems.rd anyR;rw[hkey];rfl
  refine⟨setBlock w b (.map (es.modify j (fun e'=>{ e' with key:=key,val:=val })) clock),?_,⟨es.modify j (fun e'=>{ e' with key:=key,val:=val }),clock,heap_setBlock_same hb _,⟨by simpa using F.size,stamped_modify F.stamped _ _ (fun _ _=>rfl) (fun e' _ he'=>hkeyf e' he'),?_⟩,by simpa using hs,fun x hx=>?_,fun x y hx=>?_⟩,⟨rfl,rfl,rfl,by simp[setBlock],fun i _ hi=>heap_setBlock_other hb _ (fun e=>hi (by rw[e]))⟩⟩
  ·simp[Instr.mapUpdate,run_underlying ht,MapKept.run_getObj_map hb,K.check w false hkey,h1,hj,h3,K.stays w hkey,MapKept.run_setObj_map _ hb,Result.andThen,setBlock]
  ·intro x hx
   rw[hlist] at hx
   rcases who x hx with rfl|hx'
   ·exact⟨_,hrd _⟩
   ·exact F1.reads x hx'
  ·rw[hlist] at hx
   rcases who x hx with rfl|hx'
   ·exact hv
   ·exact hq x hx'
  ·obtain⟨e1,h4,h5⟩:=hall x y hx
   rw[hlist]
   obtain⟨i,hi,ei⟩:=List.getElem_of_mem h4
   by_cases eij:i=j
   ·refine⟨{ e0 with key:=key,val:=val },List.mem_set (by rw[<-eij];exact hi) _,?_⟩
    subst eij
    rw[List.getElem?_eq_getElem hi,ei] at h2
    injection h2 with h2
    rw[<-h5,h2]
    exact h3.symm
   ·exact⟨e1,by
     have:(es.toList.set j { e0 with key:=key,val:=val })[i]?=some e1:=by
      rw[List.getElem?_set_ne (fun e=>eij e.symm),List.getElem?_eq_getElem hi,ei]
     exact List.mem_of_getElem? this,h5⟩
def zfV (V:World) (B:Nat) (bs:List Nat) (bm gI m M bM:Nat) (cs:Array Value) (L:List En) (mk:Nat->Int) (SS:List (Nat->Bool)) (st:List Nat) (n:Nat) (e:Ending) (w':World):Prop:=
 ∃(j:Nat) (SS':List (Nat->Bool)) (ms':List Int) (D':List ((Nat->Bool) × Nat)) (vL' vS' vK':Value) (cs':Array Value) (l':List Nat) (n':Nat),e=.returned (.int .i64 (j:Int))/\MkA V B bs bm gI m M cs' l' vL' w'/\
  MkT V B bs bM cs' vL' SS'.length SS'.length n' (SS'.map (txt M)) ms' (MQ M D') vS' vK' w'/\Inv L M mk SS' ms' D'/\n'+2*SS.length<=n+2*SS'.length/\(∀i,i≠258->i≠259->cs'[i]?=cs[i]?)/\(∃h:j<SS'.length,∀x,x<M->(SS'[j] x=true↔FR L (fun y=>y∈st) x))/\
  (SS'=SS\/∃f,SS'=SS++[f]/\j=SS.length/\∀i (h:i<SS.length),∃x,x<M/\SS[i] x≠f x)
theorem zdM (V:World) (B:Nat) (bs:List Nat) (bm gI m M bM bn gM cM gF cF:Nat) (aF:Nat->Option Addr) (cR:Nat->Nat) (L:List En) (HF:NetFr V B bn gF M cF aF cR L) (hE:∀e∈L,e.f<M/\e.t<M) (hLl:L.length<=6400) (cs:Array Value) (mk:Nat->Int) (HV:NetMk V B bn gM M cM mk) (hmk:∀i,i<M->-1<=mk i) (hc0:cs[0]?=some (.pointer (some ⟨bn,0,none⟩))) (hM:M<=100000) (hm:(M+7) / 8=m)
  (P:Nat->Bool) (l:List Nat) (vL vS vK:Value) (n:Nat) (SS:List (Nat->Bool)) (ms:List Int) (D:List ((Nat->Bool) × Nat)) (hk:SS.length<=100000) (hn:n<=100000) (hll:l.length<=100000)
  (a:Option Addr) (q c:Nat) (st:List Nat) (hst:st.length=q) (hq:q<=100000000000) (hlt:∀x∈st,x<M) (hr:∀W,Kept [] bs V W->IAt W W.heap.size a st)
  (wr:World) (h:MkR V B bs bm gI m cs P l vL wr) (t:MkT V B bs bM cs vL SS.length SS.length n (SS.map (txt M)) ms (MQ M D) vS vK wr) (inv:Inv L M mk SS ms D):
  Calls Tryz.prog 80 #[.pointer (some ⟨bm,0,none⟩),.slice a q c] wr (zfV V B bs bm gI m M bM cs L mk SS st n):=by
 have HH:=hid (And.intro h (And.intro t inv))
 have HN:=hid (And.intro HF (And.intro hE (And.intro HV (And.intro hmk (And.intro hc0 hm)))))
 have HG:=hid (zgi wr B (bsOf bm gI vL) bm gI m M cs P l vL wr h.base hM hm (by omega) a q c st hst hq hlt (fun W hW=>hr W (h.kback hW)))
 clear h t inv HF hE HV hmk hc0 hst hlt hr
 go_enter Tryz.func80,Tryz.ntmps80
 go_wp2_with fail
 refine HG.out.mono ?_
 rintro e w2 ⟨l2,vL2,rfl,h2,hl2⟩
 obtain⟨f2,hf2⟩:∃f2:Nat->Bool,(fun x=>decide (x∈l2))=f2:=⟨_,rfl⟩
 have h2d:=h2.keep (Below.refl w2.heap.size w2).drew
 have t2d:=MkT.over HH.out.1 HH.out.2.1 h2d.r
 have hf2M:∀x,f2 x=true->x<M:=fun x hx=>h2.lt x (by rw[<-hf2] at hx;simpa using hx)
 have hcv:(convert 86 9 (.slice (some ⟨gI,0,none⟩) m m)).run Tryz.prog w2.drew=.ok (.string (txt M f2)) w2.drew:=by
  have:=zc4 (l:=rowL f2 m) (by have:=h2d.r.inn;rw[hf2] at this;exact this) (by rw[zbL])
  rw[zhJ f2 M m HN.out.2.2.2.2.2 hf2M] at this
  exact this
 have hkl:keyOf Tryz.prog 9 (.string (txt M f2))=some _:=Go.WideMaps.keyOf_string_mk Tryz.underlying9 (by unfold txt;rw[zaY];simp[keyL];unfold maxLen;omega)
 have hFR:∀x,FR L (fun y=>y<M/\f2 y=true) x↔FR L (fun y=>y∈st) x:=fun x=>FR.congr (fun y=>by
  rw[<-hl2,<-hf2]
  exact⟨fun h=>by simpa using h.2,fun h=>⟨h2.lt y h,by simpa using h⟩⟩) x
 have c0:w2.cell? ⟨bm,260,none⟩=some (.map (some bM)):=(h2.r.other 260 (by decide)).trans t2d.cM
 have c1:w2.cell? ⟨bm,261,none⟩=some (.slice (some ⟨gI,0,none⟩) m m):=h2.r.cells.1
 have H2:=hid (And.intro h2d (And.intro t2d (And.intro hl2 (And.intro hFR (And.intro hf2 hf2M)))))
 have hlook:=t2d.map.look2 zbT Tryz.underlying123 (zcs w2.drew) hkl
 clear h2 hl2 HG h2d t2d hFR hkl hf2M
 rcases hlook with ⟨hrun,hno⟩|⟨v,⟨p,hp,hpe,rfl⟩,hrun⟩
 ·have HNo:=hid hno
  clear hno
  go_wp2_with fail
  go_region
  go_wp2_with fail
  refine (zf8 wr B (bsOf bm gI vL) bm gI m M bn gF cF cs aF cR L (HN.out.1.below HH.out.1.below) HN.out.2.2.2.2.1 HN.out.2.1 hM HN.out.2.2.2.2.2 hLl l2 vL2 w2.drew H2.out.1).mono ?_
  rintro e w4 ⟨l4,vL4,rfl,h4,hl4⟩
  obtain⟨f4,hf4⟩:∃f4:Nat->Bool,(fun x=>decide (x∈l4))=f4:=⟨_,rfl⟩
  have t4:=MkT.over HH.out.1 HH.out.2.1 h4.r
  have hf4M:∀x,f4 x=true->x<M:=fun x hx=>h4.lt x (by rw[<-hf4] at hx;simpa using hx)
  have hf4l:∀x,f4 x=true↔x∈l4:=fun x=>by rw[<-hf4];simp
  have hcv4:(convert 86 9 (.slice (some ⟨gI,0,none⟩) m m)).run Tryz.prog w4=.ok (.string (txt M f4)) w4:=by
   have:=zc4 (l:=rowL f4 m) (by have:=h4.r.inn;rw[hf4] at this;exact this) (by rw[zbL])
   rw[zhJ f4 M m HN.out.2.2.2.2.2 hf4M] at this
   exact this
  have hkl4:keyOf Tryz.prog 9 (.string (txt M f4))=some _:=Go.WideMaps.keyOf_string_mk Tryz.underlying9 (by unfold txt;rw[zaY];simp[keyL];unfold maxLen;omega)
  have hsz4:(txt M f4).size<=100000:=by unfold txt;rw[zaY];simp[keyL];omega
  have hst4:∀x,x∈l4↔FR L (fun y=>y∈st) x:=fun x=>by rw[hl4 x];exact FR.congr (fun y=>H2.out.2.2.1 y) x
  have hcl4:∀x,FR L (fun y=>y<M/\f4 y=true) x↔FR L (fun y=>y∈st) x:=fun x=>by
   rw[show FR L (fun y=>y<M/\f4 y=true) x↔FR L (FR L (fun y=>y∈st)) x from FR.congr (fun y=>⟨fun h=>(hst4 y).1 ((hf4l y).1 h.2),fun h=>⟨h4.lt y ((hst4 y).2 h),(hf4l y).2 ((hst4 y).2 h)⟩⟩) x]
   exact FR.idem x
  have d0:w4.cell? ⟨bm,260,none⟩=some (.map (some bM)):=(h4.r.other 260 (by decide)).trans t4.cM
  have d1:w4.cell? ⟨bm,261,none⟩=some (.slice (some ⟨gI,0,none⟩) m m):=h4.r.cells.1
  have hA4:MkA V B bs bm gI m M cs l4 vL4 w4:=⟨HH.out.1.back h4.r,h4.nd,h4.lt⟩
  have H4:=hid (And.intro hA4 (And.intro t4 (And.intro hst4 (And.intro hcl4 hf4l))))
  have hlook:=t4.map.look2 zbT Tryz.underlying123 (zcs w4) hkl4
  clear h4 t4 hf4M hf4l hst4 hcl4 hA4 hl4 hf4 c0 c1 hcv hrun
  rcases hlook with ⟨hrun,hno⟩|⟨v,⟨p,hp,hpe,rfl⟩,hrun⟩
  ·obtain⟨k,hkk⟩:∃k,SS.length=k:=⟨_,rfl⟩
   have HK:=hid hkk
   have hk2:k<=100000:=by omega
   have HAd:=hid (zlP V B bs bm gI m M bM bn gM cM cs mk HN.out.2.2.1 HN.out.2.2.2.1 HN.out.2.2.2.2.1 hM l4 vL4 vS vK SS.length n (SS.map (txt M)) ms (MQ M D) (MQ M (D++[(f4,SS.length)])) (txt M f4) hsz4 (by omega) (by omega) hno
    (fun x y ⟨p,hp,h1,h2⟩=>⟨p,List.mem_append.2 (Or.inl hp),h1,h2⟩) ⟨(f4,SS.length),by simp,rfl,rfl⟩
    (fun x y ⟨p,hp,h1,h2⟩ hne=>by
     rcases List.mem_append.1 hp with hp|hp
     ·exact⟨y,p,hp,h1,h2⟩
     ·rw[List.mem_singleton.1 hp] at h1
      exact absurd h1 hne) w4 H4.out.1 H4.out.2.1)
   have HNo4:=hid hno
   rw[hkk] at HAd
   clear hno hkk
   go_wp2_with fail
   refine HAd.out.mono ?_
   rintro e w5 ⟨r,vS',vK',rfl,hr,hA5,hT5⟩
   have hkl2:keyOf Tryz.prog 9 (.string (txt M f2))=some _:=Go.WideMaps.keyOf_string_mk Tryz.underlying9 (by unfold txt;rw[zaY];simp[keyL];unfold maxLen;omega)
   obtain⟨w6,hup,hM6,hg6⟩:∃w6,(Instr.mapUpdate 123 (.map (some bM)) (.string (txt M f2)) (.int .i64 (k:Int))).run Tryz.prog w5=.ok () w6/\MapEx w6 9 bM (n+2) (MQ M (D++[(f4,k)]++[(f2,k)]))/\w5.grownBy w6 (some bM):=by
    by_cases e:txt M f2=txt M f4
    ·obtain⟨w6,h1,h2,h3⟩:=hT5.map.again zbT Tryz.underlying123 hkl2 (val:=.int .i64 (k:Int)) ⟨(f4,k),by simp,by rw[e],rfl⟩
     refine⟨w6,h1,?_,h3⟩
     have e2:MQ M (D++[(f4,k)]++[(f2,k)])=MQ M (D++[(f4,k)]):=by
      funext x y
      refine propext ⟨fun ⟨p,hp,h1,h2⟩=>?_,fun ⟨p,hp,h1,h2⟩=>⟨p,List.mem_append.2 (Or.inl hp),h1,h2⟩⟩
      rcases List.mem_append.1 hp with hp|hp
      ·exact⟨p,hp,h1,h2⟩
      ·rw[List.mem_singleton.1 hp] at h1 h2
       exact⟨(f4,k),by simp,by rw[h1,<-e],h2⟩
     rw[e2]
     exact h2.more (by omega)
    ·exact hT5.map.update zbT Tryz.underlying123 (by unfold maxLen;omega) hkl2 (Q':=MQ M (D++[(f4,k)]++[(f2,k)]))
      (fun y ⟨p,hp,h1,h2⟩=>by
       rcases List.mem_append.1 hp with hp|hp
       ·exact HNo.out y ⟨p,hp,h1,h2⟩
       ·rw[List.mem_singleton.1 hp] at h1
        injection h1 with h1
        exact e h1)
      (fun x y ⟨p,hp,h1,h2⟩=>⟨p,List.mem_append.2 (Or.inl hp),h1,h2⟩) ⟨(f2,k),by simp,rfl,rfl⟩
      (fun x y ⟨p,hp,h1,h2⟩ hne=>by
       rcases List.mem_append.1 hp with hp|hp
       ·exact⟨y,p,hp,h1,h2⟩
       ·rw[List.mem_singleton.1 hp] at h1
        exact absurd h1 hne)
   have hfin:=zmz hA5 hT5 hM6 hg6
   have e0:w5.cell? ⟨bm,260,none⟩=some (.map (some bM)):=(hA5.r.other 260 (by decide)).trans hT5.cM
   have HF:Hid (zfV V B bs bm gI m M bM cs L mk SS st n (.returned (.int .i64 (k:Int))) w6):=by
    have hkk:=HK.out
    subst hkk
    have inv:=HH.out.2.2
    refine⟨SS.length,SS++[f4],ms++[r],D++[(f4,SS.length)]++[(f2,SS.length)],vL4,vS',vK',_,l4,n+2,rfl,hfin.1,?_,⟨fun j hj=>?_,fun p hp=>?_,by simp[inv.len],fun j hj hj2=>?_⟩,(by simp;omega),fun i h1 h2=>?_,⟨by simp,fun x hx=>?_⟩,Or.inr ⟨f4,rfl,rfl,fun i hi=>?_⟩⟩
    ·have:=hfin.2
     simpa using this
    ·by_cases e:j<SS.length
     ·rw[List.getElem_append_left e]
      exact List.mem_append.2 (Or.inl (List.mem_append.2 (Or.inl (inv.own j e))))
     ·have:j=SS.length:=by simp at hj;omega
      subst this
      simp
    ·rcases List.mem_append.1 hp with hp|hp
     ·rcases List.mem_append.1 hp with hp|hp
      ·obtain⟨h1,h2⟩:=inv.ent p hp
       refine⟨by simp;omega,fun x hx=>?_⟩
       rw[List.getElem_append_left h1]
       exact h2 x hx
      ·rw[List.mem_singleton.1 hp]
       refine⟨by simp,fun x hx=>?_⟩
       simp only[List.getElem_concat_length]
       rw[H4.out.2.2.2.2 x,H4.out.2.2.1 x,H4.out.2.2.2.1 x]
     ·rw[List.mem_singleton.1 hp]
      refine⟨by simp,fun x hx=>?_⟩
      simp only[List.getElem_concat_length]
      rw[H4.out.2.2.2.2 x,H4.out.2.2.1 x,H2.out.2.2.2.1 x]
    ·by_cases e:j<SS.length
     ·have e2:j<ms.length:=by rw[inv.len];exact e
      have:=inv.mks j e e2
      rw[List.getElem_append_left e2]
      simpa [List.getElem_append_left e] using this
     ·have:j=SS.length:=by simp at hj;omega
      subst this
      have e3:(ms++[r])[SS.length]=r:=by
       rw[List.getElem_append_right (by rw[inv.len];exact Nat.le_refl _)]
       simp[inv.len]
      rw[e3]
      refine hr.congr (fun x=>?_)
      simp only[List.getElem_concat_length]
      rw[H4.out.2.2.2.2 x]
      exact⟨fun h=>⟨H4.out.1.lt x h,h⟩,fun h=>h.2⟩
    ·rw[Array.getElem?_setIfInBounds_ne (fun e=>h1 e.symm),Array.getElem?_setIfInBounds_ne (fun e=>h2 e.symm)]
    ·simp only[List.getElem_concat_length]
     rw[H4.out.2.2.2.2 x,H4.out.2.2.1 x]
    ·refine Classical.byContradiction fun hall=>?_
     have h7:∀x,x<M->SS[i] x=f4 x:=fun x hx=>Classical.byContradiction fun h=>hall ⟨x,hx,h⟩
     exact HNo4.out (.int .i64 (i:Int)) ⟨(SS[i],i),inv.own i hi,by rw[(zkg M _ _).2 h7],rfl⟩
   clear hr hA5 hT5 hM6 hg6 hfin hkl2 hkl4
   go_wp2_with fail
   go_ret
   exact HF.out
  ·have hpl:=HH.out.2.2.ent p hp
   have HF:Hid (zfV V B bs bm gI m M bM cs L mk SS st n (.returned (.int .i64 (p.2:Int))) w4):=by
    refine⟨p.2,SS,ms,D,vL4,vS,vK,cs,l4,n,rfl,H4.out.1,H4.out.2.1,HH.out.2.2,by omega,fun _ _ _=>rfl,?_,Or.inl rfl⟩
    obtain⟨h1,h3⟩:=hpl
    refine⟨h1,fun x hx=>?_⟩
    rw[h3 x hx,<-H4.out.2.2.2.1 x]
    injection hpe with hpe
    have h5:=(zkg M _ _).1 hpe
    exact FR.congr (fun y=>⟨fun h=>⟨h.1,by rw[h5 y h.1];exact h.2⟩,fun h=>⟨h.1,by rw[<-h5 y h.1];exact h.2⟩⟩) x
   clear hp hpe hpl
   go_wp2_with fail
   go_ret
   exact HF.out
 ·have hpl:=HH.out.2.2.ent p hp
  have HF:Hid (zfV V B bs bm gI m M bM cs L mk SS st n (.returned (.int .i64 (p.2:Int))) w2.drew):=by
   refine⟨p.2,SS,ms,D,vL2,vS,vK,cs,l2,n,rfl,⟨HH.out.1.back H2.out.1.r,H2.out.1.nd,H2.out.1.lt⟩,H2.out.2.1,HH.out.2.2,by omega,fun _ _ _=>rfl,?_,Or.inl rfl⟩
   obtain⟨h1,h3⟩:=hpl
   refine⟨h1,fun x hx=>?_⟩
   rw[h3 x hx,<-H2.out.2.2.2.1 x]
   injection hpe with hpe
   have h5:=(zkg M _ _).1 hpe
   exact FR.congr (fun y=>⟨fun h=>⟨h.1,by rw[h5 y h.1];exact h.2⟩,fun h=>⟨h.1,by rw[<-h5 y h.1];exact h.2⟩⟩) x
  clear hp hpe hpl
  go_wp2_with fail
  go_region
  go_wp2_with fail
  go_ret
  exact HF.out
end Go.Proofs.YtjehgdjlncofeaaGreat
