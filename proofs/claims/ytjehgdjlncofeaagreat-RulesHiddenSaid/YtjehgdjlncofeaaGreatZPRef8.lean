import Derived.Test.YtjehgdjlncofeaaGreatZPRBlk
set_option linter.unusedVariables false
set_option linter.unusedSimpArgs false
set_option maxHeartbeats 4000000
set_option maxRecDepth 100000
open Go.Lib (hid)
namespace Go.Proofs.YtjehgdjlncofeaaGreat
open Go.RowKit Go.Maps Go.WideElems Go.ChangeMaps Go.MapKept
theorem zc2 (K:Nat->Nat) (C:Nat) (hC:IsC K C) (hk:∀j,j<256->K j<256) (w:World):
  Calls Tryz.prog 68 #[.agg (clsOf K)] w (zaV (∀c,c<C->∃j,j<256/\K j=c) w):=by
 have hC256:C<=256:=by
  obtain⟨j,hj,e⟩:=hC.2
  have:=hk j hj
  omega
 have HB:=hid (And.intro (St.new w 36 (clsOf K)) (And.intro (al w (.cells (clsOf K) 36)) (And.intro hC (And.intro hk hk))))
 have hinfo:=zaK K
 clear hC hk
 go_enter Tryz.func68,Tryz.ntmps68
 go_wp2_with fail
 generalize w.alloc (.cells (clsOf K) 36)=W0 at HB⊢
 obtain⟨b0,hb0⟩:∃b0,w.heap.size=b0:=⟨_,rfl⟩
 have Hb0:=hid hb0
 rw[hb0] at HB
 rw[hb0]
 clear hb0
 have HCn:=hid (zbo K C HB.out.2.2.1 HB.out.2.2.2.1 W0)
 refine wp_scope_straight (wp_seq (wp_label ?_))
 go_wp2_with (refine zam rfl 36 _ rfl ⟨b0,0,none⟩ rfl (clsOf K) (.array 256 5) HB.out.1.clsPart Tryz.underlying36 rfl hinfo ?_)
 refine HCn.out.mono ?_
 rintro e w1 ⟨rfl,b1⟩
 have H1:=hid (And.intro (HB.out.1.keep b1) (HB.out.2.1.trans (b1.mono (by have:=HB.out.2.1.size;have:=Hb0.out;omega))))
 clear b1 HCn
 go_wp2_with fail
 go_loopw [3,5,8,12] (fun _ _ v _ wr=>∃(c:Nat),v=.int .i64 c/\c<=C/\wr=w1/\Hid (∀c',c'<c->∃j,j<256/\K j=c')) (fun _ _ v _ _=>C-(intOf v).toNat)
 case atStart=>exact⟨0,rfl,by omega,rfl,fun c' h=>absurd h (by omega)⟩
 case round=>
  obtain⟨c,rfl,hc,rfl,HC9⟩:=hrel
  by_cases hlt:c<C
  ·have i1:(c:Int)<(C:Int):=by omega
   obtain⟨W9,hW9⟩:∃W9,W9=wr:=⟨wr,rfl⟩
   have HSt:=hid H1.out.1
   go_wp2_with (refine zam rfl 36 _ rfl ⟨b0,0,none⟩ rfl (clsOf K) (.array 256 5) HSt.out.clsPart Tryz.underlying36 rfl hinfo ?_)
   go_loopw [5,12] (fun _ v wq=>∃(k:Nat),v=.int .i64 k/\k<=256/\wq=wr/\Hid (∀j,j<k->K j≠c)) (fun _ v _=>256-(intOf v).toNat)
   case atStart=>exact⟨0,rfl,by omega,rfl,fun j hj=>by omega⟩
   case round=>
    obtain⟨k,rfl,hk2,rfl,HN⟩:=hrel
    by_cases hlk:k<256
    ·have i2:(k:Int)<256:=by omega
     have hv:=zbx K k hlk
     have hix:=zbg 36 5 256 (clsOf K) k _ Tryz.underlying36 hlk (by kernel_rfl) ⟨_,Tryz.underlying5,rfl⟩ hv wr
     have hkk:=HB.out.2.2.2.1 k hlk
     have HS:Hid (K k≠c->∀j,j<k+1->K j≠c):=fun h j hj=>by
      by_cases e:j=k
      ·subst e;exact h
      ·exact HN.out j (by omega)
     have HY:Hid (K k=c->∀c',c'<c+1->∃j,j<256/\K j=c'):=fun h c' hc'=>by
      by_cases e:c'=c
      ·exact⟨k,hlk,by rw[h,e]⟩
      ·exact HC9.out c' (by omega)
     generalize K k=y at hv hix hkk HS HY
     by_cases e:y=c
     ·subst e
      have HY2:=hid (HY.out rfl)
      clear HS HY
      go_wp2_with fail
      go_roundw
      case rel=>exact⟨y+1,by go_num,by omega,by first|trivial|rfl,HY2⟩
      case measure=>simp[intOf];omega
     ·have HZ:=hid (HS.out e)
      clear HY
      have i3:¬((y:Int)=(c:Int)):=by omega
      go_wp2_with fail
      go_roundw
      case rel=>exact⟨k+1,by go_num,by omega,by first|trivial|rfl,HZ⟩
      case measure=>simp[intOf];omega
    ·obtain rfl:k=256:=by omega
     have HF:Hid (zaV (∀c,c<C->∃j,j<256/\K j=c) w (.returned (.bool false)) wr):=⟨false,rfl,⟨(fun h=>by cases h),fun h=>by
      obtain⟨j,hj,e⟩:=h c hlt
      exact absurd e (HN.out j hj)⟩,by rw[Hb0.out];exact H1.out.2⟩
     go_wp2_with fail
     try dsimp only[Exit.noGoto]
     go_ret
     exact HF.out
  ·obtain rfl:c=C:=by omega
   go_wp2_with fail
   try dsimp only[Exit.noGoto]
   go_ret
   exact⟨true,rfl,⟨fun _=>HC9.out,fun _=>rfl⟩,by rw[Hb0.out];exact H1.out.2⟩
theorem zdU (D:Dd) (hm:D.m<=100000) (hn:D.n<=100000) (w:World) (hD:DM w D):
  Calls Tryz.prog 69 #[.agg D.cD] w (zaV ((∀i,i<D.m->-1<=D.q i/\D.q i<32768)/\D.m=D.n) w):=by
 have HB:=hid (And.intro (DBx.new hD) (al w (.cells D.cD 39)))
 clear hD
 go_enter Tryz.func69,Tryz.ntmps69
 go_upto_region 1 with fail
 generalize w.alloc (.cells D.cD 39)=W0 at HB⊢
 obtain⟨b0,hb0⟩:∃b0,w.heap.size=b0:=⟨_,rfl⟩
 have Hb0:=hid hb0
 rw[hb0] at HB
 rw[hb0]
 clear hb0
 have f1:=HB.out.1.f1
 have f2:=HB.out.1.f2
 have HF9:=hid (show Below w.heap.size w W0 by rw[Hb0.out];exact HB.out.2)
 go_wp2_with fail
 go_loopw [4,8] (fun _ v wr=>∃(k:Nat),v=.int .i64 k/\k<=D.m/\wr=W0/\Hid (∀i,i<k->-1<=D.q i/\D.q i<32768)) (fun _ v _=>D.m-(intOf v).toNat)
 case atStart=>exact⟨0,rfl,by omega,rfl,fun i h=>absurd h (by omega)⟩
 case round=>
  obtain⟨k,rfl,hk,rfl,HK⟩:=hrel
  by_cases hlt:k<D.m
  ·obtain⟨gM,oM,eM,_,cM0⟩:=HB.out.1.dm.rM (by omega)
   have cM:=cM0 k hlt
   have i1:(k:Int)<(D.m:Int):=by omega
   rw[eM]
   have HeM:=hid eM
   have HS:Hid (-1<=D.q k/\D.q k<32768->∀i,i<k+1->-1<=D.q i/\D.q i<32768):=fun h i hi=>by
    by_cases e:i=k
    ·subst e;exact h
    ·exact HK.out i (by omega)
   have HS2:Hid ((∀i,i<D.m->-1<=D.q i/\D.q i<32768)->-1<=D.q k/\D.q k<32768):=fun h=>h k hlt
   clear cM0 eM
   generalize D.q k=y at cM HS HS2
   by_cases h1:y < -1
   ·have i2:decide (y < -1)=true:=by simp;omega
    have HF:Hid (zaV ((∀i,i<D.m->-1<=D.q i/\D.q i<32768)/\D.m=D.n) w (.returned (.bool false)) wr):=⟨false,rfl,⟨(fun h=>by cases h),(fun h=>by have:=HS2.out h.1;omega)⟩,HF9.out⟩
    clear HS HS2
    go_wp2_with fail
    go_ret
    exact HF.out
   ·have i2:decide (y < -1)=false:=by simp;omega
    by_cases h2:32768<=y
    ·have i3:decide (32768<=y)=true:=by simp;omega
     have HF:Hid (zaV ((∀i,i<D.m->-1<=D.q i/\D.q i<32768)/\D.m=D.n) w (.returned (.bool false)) wr):=⟨false,rfl,⟨(fun h=>by cases h),(fun h=>by have:=HS2.out h.1;omega)⟩,HF9.out⟩
     clear HS HS2
     go_wp2_with fail
     go_ret
     exact HF.out
    ·have i3:decide (32768<=y)=false:=by simp;omega
     have HS9:=hid (HS.out ⟨by omega,by omega⟩)
     clear HS HS2
     go_wp2_with fail
     go_roundw
     case rel=>exact⟨k+1,by go_num,by omega,by first|trivial|rfl,HS9⟩
     case measure=>simp[intOf];omega
  ·obtain rfl:k=D.m:=by omega
   by_cases hmn:D.m=D.n
   ·have HF:Hid (zaV ((∀i,i<D.m->-1<=D.q i/\D.q i<32768)/\D.m=D.n) w (.returned (.bool true)) wr):=⟨true,rfl,⟨fun _=>⟨HK.out,hmn⟩,fun _=>rfl⟩,HF9.out⟩
    have i4:((D.m:Int) == (D.n:Int))=true:=by simp;omega
    go_wp2_with fail
    go_ret
    first|exact HF.out|(rw[i4];exact HF.out)|(simp only[hmn] at *;simpa using HF.out)
   ·have HF:Hid (zaV ((∀i,i<D.m->-1<=D.q i/\D.q i<32768)/\D.m=D.n) w (.returned (.bool false)) wr):=⟨false,rfl,⟨(fun h=>by cases h),fun h=>absurd h.2 hmn⟩,HF9.out⟩
    have i4:((D.m:Int) == (D.n:Int))=false:=by simp;omega
    go_wp2_with fail
    go_ret
    first|exact HF.out|(rw[i4];exact HF.out)
theorem zeR (D:Dd) (C:Nat) (hC:IsC D.K C) (hn:D.n<=32768) (hl:∀i,i<D.n->D.len i<=100000) (w:World) (hD:DM w D):
  Calls Tryz.prog 70 #[.agg D.cD] w (zaV (∀i,i<D.n->D.len i=C/\∀c,c<C->-1<=D.nx i c/\D.nx i c<(D.n:Int)) w):=by
 have hC6:C<=256:=by
  obtain⟨j,hj,e⟩:=hC.2
  have:=hD.kl j hj
  omega
 have HB:=hid (And.intro (DBx.new hD) (And.intro (al w (.cells D.cD 39)) (And.intro hC hl)))
 have hinfo:=zaK D.K
 clear hD hC hl
 go_enter Tryz.func70,Tryz.ntmps70
 go_upto_region 1 with fail
 generalize w.alloc (.cells D.cD 39)=W0 at HB⊢
 obtain⟨b0,hb0⟩:∃b0,w.heap.size=b0:=⟨_,rfl⟩
 have Hb0:=hid hb0
 rw[hb0] at HB
 rw[hb0]
 clear hb0
 have HCn:=hid (zbo D.K C HB.out.2.2.1 HB.out.1.dm.kl W0)
 go_wp2_with (refine zam rfl 36 _ rfl ⟨b0,0,none⟩ rfl (clsOf D.K) (.array 256 5) HB.out.1.clsPart Tryz.underlying36 rfl hinfo ?_)
 refine HCn.out.mono ?_
 rintro e w1 ⟨rfl,b1⟩
 have H1:=hid (And.intro (HB.out.1.keep b1) (HB.out.2.1.trans (b1.mono (by have:=HB.out.2.1.size;have:=Hb0.out;omega))))
 have HFa:Hid (∀W',Below w1.heap.size w1 W'->∀bo:Bool,(bo=true↔(∀i,i<D.n->D.len i=C/\∀c,c<C->-1<=D.nx i c/\D.nx i c<(D.n:Int)))->zaV (∀i,i<D.n->D.len i=C/\∀c,c<C->-1<=D.nx i c/\D.nx i c<(D.n:Int)) w (.returned (.bool bo)) W'):=fun W' h bo hb=>⟨bo,rfl,hb,by
  rw[Hb0.out]
  exact H1.out.2.trans (h.mono (by have:=H1.out.2.size;have:=Hb0.out;omega))⟩
 have f1:=H1.out.1.f1
 clear b1 HCn
 by_cases hn0:D.n=0
 ·have HF:=hid (HFa.out w1 (Below.refl _ _) true ⟨fun _ i hi=>absurd hi (by omega),fun _=>rfl⟩)
  rw[hn0] at f1
  go_wp2_with fail
  go_loopw [5,7,14,24] (fun _ _ v _ wr=>v=.int .i64 0/\wr=w1) (fun _ _ v _ _=>0)
  case atStart=>exact⟨rfl,rfl⟩
  case round=>
   obtain⟨rfl,rfl⟩:=hrel
   go_wp2_with fail
   go_ret
   exact HF.out
 obtain⟨gN,oN,eN,hgN,cN0⟩:=H1.out.1.dm.rN (by omega)
 rw[eN] at f1
 have HeN:=hid eN
 have HcN:=hid cN0
 clear eN cN0
 go_wp2_with fail
 go_loopw [5,7,14,24] (fun _ _ v _ wr=>∃(i:Nat),v=.int .i64 i/\i<=D.n/\Hid (Below w1.heap.size w1 wr)/\Hid (∀i',i'<i->D.len i'=C/\∀c,c<C->-1<=D.nx i' c/\D.nx i' c<(D.n:Int))) (fun _ _ v _ _=>D.n-(intOf v).toNat)
 case atStart=>exact⟨0,rfl,by omega,Below.refl _ _,fun i' h=>absurd h (by omega)⟩
 case round=>
  obtain⟨i,rfl,hi,HX,HI⟩:=hrel
  clear f1
  by_cases hlt:i<D.n
  ·have cN:=(HX.out.cell (p:=⟨gN,oN+i,none⟩) hgN).trans (HcN.out i hlt).1
   have HZn:=hid (HcN.out i hlt).2
   have hli:=HB.out.2.2.2 i hlt
   by_cases hlen:D.len i=C
   rotate_left
   ·have HF:=hid (HFa.out wr HX.out false ⟨(fun h=>by cases h),(fun h=>absurd (h i hlt).1 hlen)⟩)
    obtain⟨ln,hln⟩:∃ln,D.len i=ln:=⟨_,rfl⟩
    rw[hln] at cN hlen hli
    have i1:(i:Int)<(D.n:Int):=by omega
    have i2:((ln:Int) != (C:Int))=true:=by simp;omega
    try dsimp only at cN
    clear hln HZn
    go_wp2_with fail
    go_ret
    exact HF.out
   have HIs:Hid ((∀c,c<C->-1<=D.nx i c/\D.nx i c<(D.n:Int))->∀i',i'<i+1->D.len i'=C/\∀c,c<C->-1<=D.nx i' c/\D.nx i' c<(D.n:Int)):=fun h i' hi'=>by
    by_cases e:i'=i
    ·subst e;exact⟨hlen,h⟩
    ·exact HI.out i' (by omega)
   rw[hlen] at cN
   rw[hlen] at HZn
   have i1:(i:Int)<(D.n:Int):=by omega
   try dsimp only at cN
   clear hlen
   go_wp2_with fail
   go_loopw [7,24] (fun _ v wq=>∃(c:Nat),v=.int .i64 c/\c<=C/\Hid (Below w1.heap.size w1 wq)/\Hid (∀c',c'<c->-1<=D.nx i c'/\D.nx i c'<(D.n:Int))) (fun _ v _=>C-(intOf v).toNat)
   case atStart=>exact⟨0,rfl,by omega,HX,fun c' h=>absurd h (by omega)⟩
   case round=>
    clear HX cN
    obtain⟨c,rfl,hc,HX,HC9⟩:=hrel
    by_cases hlc:c<C
    ·obtain⟨gA,oA,eA,hgA,cA0⟩:=HZn.out (by omega)
     have cA:=(HX.out.cell (p:=⟨gA,oA+c,none⟩) hgA).trans (cA0 c hlc)
     have i2:(c:Int)<(C:Int):=by omega
     have HBx:=hid (H1.out.1.keep HX.out)
     have HS:Hid (-1<=D.nx i c/\D.nx i c<(D.n:Int)->∀c',c'<c+1->-1<=D.nx i c'/\D.nx i c'<(D.n:Int)):=fun h c' hc'=>by
      by_cases e:c'=c
      ·subst e;exact h
      ·exact HC9.out c' (by omega)
     have HS2:Hid ((∀i,i<D.n->D.len i=C/\∀c,c<C->-1<=D.nx i c/\D.nx i c<(D.n:Int))->-1<=D.nx i c/\D.nx i c<(D.n:Int)):=fun h=>(h i hlt).2 c hlc
     rw[eA]
     have HeA:=hid eA
     clear cA0 eA
     generalize D.nx i c=t at cA HS HS2
     by_cases ht:t=-1
     ·subst ht
      have HS9:=hid (HS.out ⟨by omega,by omega⟩)
      clear HS HS2
      go_wp2_with fail
      go_roundw
      case rel=>exact⟨c+1,by go_num,by omega,HX,HS9⟩
      case measure=>simp[intOf];omega
     ·have ht2:(t != (-1:Int))=true:=by simp[ht]
      have HEx:=hid (zbG D t wr HBx.out.dm)
      by_cases hok:0<=t/\t<(D.n:Int)
      ·have HDe:Hid (decide (0<=t/\t<(D.n:Int))=true):=by show _=_;simp;omega
       have HS9:=hid (HS.out ⟨by omega,by omega⟩)
       clear HS HS2
       go_wp2_with (refine zad (by first|rfl|(simp[ht];done)) 39 _ rfl ⟨b0,0,none⟩ rfl D.cD _ HBx.out.st.part Tryz.underlying39 rfl HBx.out.dm.info ?_)
       refine HEx.out.mono ?_
       rintro e w5 ⟨rfl,b5⟩
       have HX5:=hid (HX.out.trans (b5.mono HX.out.size))
       rw[HDe.out]
       clear b5 HEx
       go_wp2_with fail
       go_roundw
       case rel=>exact⟨c+1,by go_num,by omega,HX5,HS9⟩
       case measure=>simp[intOf];omega
      ·have HDe:Hid (decide (0<=t/\t<(D.n:Int))=false):=by show _=_;simp;omega
       have HS9:Hid (¬(∀i,i<D.n->D.len i=C/\∀c,c<C->-1<=D.nx i c/\D.nx i c<(D.n:Int))):=fun h=>by have:=HS2.out h;omega
       clear HS HS2
       go_wp2_with (refine zad (by first|rfl|(simp[ht];done)) 39 _ rfl ⟨b0,0,none⟩ rfl D.cD _ HBx.out.st.part Tryz.underlying39 rfl HBx.out.dm.info ?_)
       refine HEx.out.mono ?_
       rintro e w5 ⟨rfl,b5⟩
       have HF:=hid (HFa.out w5 (HX.out.trans (b5.mono HX.out.size)) false ⟨(fun h=>by cases h),(fun h=>absurd h HS9.out)⟩)
       rw[HDe.out]
       clear b5 HEx
       go_wp2_with fail
       go_ret
       exact HF.out
    ·obtain rfl:c=C:=by omega
     have HS9:=hid (HIs.out HC9.out)
     go_wp2_with fail
     go_roundw
     case rel=>exact⟨i+1,by go_num,by omega,HX,HS9⟩
     case measure=>simp[intOf];omega
  ·obtain rfl:i=D.n:=by omega
   have HF:=hid (HFa.out wr HX.out true ⟨fun _=>HI.out,fun _=>rfl⟩)
   go_wp2_with fail
   go_ret
   exact HF.out
theorem zht {K:Nat->Nat}{C C':Nat}(h:IsC K C) (h':IsC K C'):C=C':=by
 obtain⟨j,hj,e⟩:=h.2
 obtain⟨j',hj',e'⟩:=h'.2
 have h1:=h.1 j' hj'
 have h2:=h'.1 j hj
 omega
theorem zii (D:Dd) (hn:D.n<=32768) (hm:D.m<=100000) (hl:∀i,i<D.n->D.len i<=100000) (w:World) (hD:DM w D):
  Calls Tryz.prog 43 #[.agg D.cD] w (zaV (∃C,DR D C) w):=by
 obtain⟨C,hC⟩:=zmB D.K
 have HB:=hid (And.intro (DBx.new hD) (And.intro (al w (.cells D.cD 39)) (And.intro hC hl)))
 have hinfo:=zaK D.K
 clear hD hC hl
 go_enter Tryz.func43,Tryz.ntmps43
 go_upto_region 1 with fail
 generalize w.alloc (.cells D.cD 39)=W0 at HB⊢
 obtain⟨b0,hb0⟩:∃b0,w.heap.size=b0:=⟨_,rfl⟩
 have Hb0:=hid hb0
 rw[hb0] at HB
 rw[hb0]
 clear hb0
 have f1:=HB.out.1.f1
 have hb9:b0<=W0.heap.size:=by have:=HB.out.2.1.size;have:=Hb0.out;omega
 have HFa:Hid (∀W',Below W0.heap.size W0 W'->∀bo:Bool,(bo=true↔∃C,DR D C)->zaV (∃C,DR D C) w (.returned (.bool bo)) W'):=fun W' h bo hb=>⟨bo,rfl,hb,by
  rw[Hb0.out]
  exact HB.out.2.1.trans (h.mono hb9)⟩
 by_cases hn1:D.n<1
 ·have HF:=hid (HFa.out W0 (Below.refl _ _) false ⟨(fun h=>by cases h),(fun h=>by
   obtain⟨C',h⟩:=h
   have:=h.n1
   omega)⟩)
  have i1:((D.n:Int)<1):=by omega
  go_wp2_with fail
  go_ret
  exact HF.out
 have i1:¬((D.n:Int)<1):=by omega
 have i2:¬((32768:Int)<(D.n:Int)):=by omega
 have HC1:=hid (zc2 D.K C HB.out.2.2.1 HB.out.1.dm.kl W0)
 go_wp2_with (refine zam rfl 36 _ rfl ⟨b0,0,none⟩ rfl (clsOf D.K) (.array 256 5) HB.out.1.clsPart Tryz.underlying36 rfl hinfo ?_)
 refine HC1.out.mono ?_
 rintro e w1 ⟨bo,rfl,hbo,b1⟩
 have Hg:=hid hbo
 have H1:=hid (And.intro (HB.out.1.keep b1) b1)
 have HC2:=hid (zdU D hm (by omega) w1 H1.out.1.dm)
 clear b1 HC1 hbo
 rcases bo with _|_
 ·have HF:=hid (HFa.out w1 H1.out.2 false ⟨(fun h=>by cases h),(fun h=>by
   obtain⟨C',h⟩:=h
   have e:=zht h.c HB.out.2.2.1
   subst e
   exact Hg.out.2 h.gap)⟩)
  clear f1
  go_wp2_with fail
  go_ret
  exact HF.out
 clear f1
 go_wp2_with (refine zad (by rfl) 39 _ rfl ⟨b0,0,none⟩ rfl D.cD _ H1.out.1.st.part Tryz.underlying39 rfl H1.out.1.dm.info ?_)
 refine HC2.out.mono ?_
 rintro e w2 ⟨bo,rfl,hbo,b2⟩
 have Hq:=hid hbo
 have H2:=hid (And.intro (H1.out.1.keep b2) (H1.out.2.trans (b2.mono H1.out.2.size)))
 have HC3:=hid (zeR D C HB.out.2.2.1 hn HB.out.2.2.2 w2 H2.out.1.dm)
 clear b2 HC2 hbo
 rcases bo with _|_
 ·have HF:=hid (HFa.out w2 H2.out.2 false ⟨(fun h=>by cases h),(fun h=>by
   obtain⟨C',h⟩:=h
   exact Hq.out.2 ⟨fun i hi=>h.q i (by have:=h.m;omega),h.m⟩)⟩)
  go_wp2_with fail
  go_ret
  exact HF.out
 go_wp2_with (refine zad (by rfl) 39 _ rfl ⟨b0,0,none⟩ rfl D.cD _ H2.out.1.st.part Tryz.underlying39 rfl H2.out.1.dm.info ?_)
 refine HC3.out.mono ?_
 rintro e w3 ⟨bo,rfl,hbo,b3⟩
 have HF:=hid (HFa.out w3 (H2.out.2.trans (b3.mono H2.out.2.size)) bo ⟨(fun h=>by
  have h3:=hbo.1 h
  have h2:=Hq.out.1 (by first|rfl|trivial)
  exact⟨C,HB.out.2.2.1,by omega,hn,h2.2,Hg.out.1 (by first|rfl|trivial),fun i hi=>(h3 i hi).1,fun i hi=>h2.1 i (by have:=h2.2;omega),fun i c hi hc=>(h3 i hi).2 c hc⟩),(fun h=>by
  obtain⟨C',h⟩:=h
  have e:=zht h.c HB.out.2.2.1
  subst e
  exact hbo.2 (fun i hi=>⟨h.len i hi,fun c hc=>h.nx i c hi hc⟩))⟩)
 clear b3 HC3 hbo
 go_wp2_with fail
 go_ret
 exact HF.out
theorem zdy (D:Dd) (w:World) (hD:DM w D) (hn:D.n<=20) (hm:D.m<=30) (hl:∀i,i<D.n->D.len i<=256):
  Calls Tryz.prog 14 #[.agg D.cD] w (zaV (∃C,DR D C) w):=by
 obtain⟨C,hC⟩:=zmB D.K
 have hC256:C<=256:=by
  obtain⟨j,hj,e⟩:=hC.2
  have:=hD.kl j hj
  omega
 have HC:=hid hC
 have HB:=hid (And.intro (DBx.new hD) (And.intro (al w (.cells D.cD 39)) hl))
 clear hC hD hl
 go_enter Tryz.func14,Tryz.ntmps14
 go_upto_region 1 with fail
 generalize w.alloc (.cells D.cD 39)=W0 at HB⊢
 obtain⟨b0,hb0⟩:∃b0,w.heap.size=b0:=⟨_,rfl⟩
 rw[hb0] at HB
 rw[hb0]
 have Hb0:=hid hb0
 clear hb0
 have f1:=HB.out.1.f1
 have f2:=HB.out.1.f2
 by_cases hn1:D.n<1
 ·go_wp2_with fail
  go_ret
  exact⟨false,rfl,⟨(fun h=>by cases h),(fun h=>by
   obtain⟨C9,h9⟩:=h
   have:=h9.n1
   omega)⟩,by rw[Hb0.out];exact HB.out.2.1⟩
 have i1:¬((D.n:Int)<1):=by omega
 have i2:¬((32768:Int)<(D.n:Int)):=by omega
 by_cases hmn:D.m=D.n
 rotate_left
 ·have i3:¬((D.m:Int)=(D.n:Int)):=by omega
  go_wp2_with fail
  go_ret
  exact⟨false,rfl,⟨(fun h=>by cases h),(fun h=>by
   obtain⟨C9,h9⟩:=h
   exact absurd h9.m hmn)⟩,by rw[Hb0.out];exact HB.out.2.1⟩
 have HMN:=hid hmn
 rw[hmn] at f2
 have HG:=hid (zf2 D C HC.out W0 HB.out.1.dm)
 clear hmn
 go_wp2_with (refine zad (by rfl) 39 _ rfl ⟨b0,0,none⟩ rfl D.cD _ HB.out.1.st.part Tryz.underlying39 rfl HB.out.1.dm.info ?_)
 refine HG.out.mono ?_
 rintro e w1 ⟨bo,rfl,hbo,b1⟩
 have H1:=hid (And.intro (HB.out.1.keep b1) (HB.out.2.1.trans (b1.mono (by have:=HB.out.2.1.size;have:=Hb0.out;omega))))
 have HGp:=hid hbo
 clear b1 hbo HG f1 f2
 rcases bo with _|_
 ·go_wp2_with fail
  go_ret
  exact⟨false,rfl,⟨(fun h=>by cases h),(fun h=>by
   obtain⟨C9,h9⟩:=h
   have e:=IsC.uniq h9.c HC.out
   subst e
   exact HGp.out.2 h9.gap)⟩,by rw[Hb0.out];exact H1.out.2⟩
 have HGap:=hid (HGp.out.1 rfl)
 clear HGp
 obtain⟨W1,hW1⟩:∃W1,w1=W1:=⟨_,rfl⟩
 rw[hW1] at H1
 rw[hW1]
 clear hW1
 go_wp2_with fail
 go_loopw [4,5] (fun v _ wr=>∃(i:Nat),v=.int .i64 i/\i<=D.n/\Hid (Below W1.heap.size W1 wr/\∀i',i'<i->Rok D C i')) (fun v _ _=>D.n-(intOf v).toNat)
 case atStart=>exact⟨0,rfl,by omega,⟨Below.refl _ _,fun i' h=>by omega⟩⟩
 case round=>
  obtain⟨i,rfl,hi,HX⟩:=hrel
  have HBx:=hid (H1.out.1.keep HX.out.1)
  have HFin:Hid (∀W',Below wr.heap.size wr W'->Below w.heap.size w W'):=fun W' h=>by
   rw[Hb0.out]
   have h1:b0<=W1.heap.size:=by have:=H1.out.2.size;have:=Hb0.out;omega
   have h2:=HX.out.1.size
   exact H1.out.2.trans ((HX.out.1.trans (h.mono h2)).mono h1)
  by_cases hlt:i<D.n
  ·obtain⟨gN,oN,eN,hgN,cN,zN⟩:=HBx.out.dm.row i hlt
   obtain⟨gM,oM,eM,hgM,cM0⟩:=HBx.out.dm.rM (by have:=HMN.out;omega)
   have cM:=cM0 i (by have:=HMN.out;omega)
   clear cM0
   have f1:=HBx.out.f1
   have f2:=HBx.out.f2
   rw[eN] at f1
   rw[eM] at f2
   have hli:=HB.out.2.2 i hlt
   have i3:(i:Int)<(D.n:Int):=by omega
   have i4:(i:Int)<(D.m:Int):=by have:=HMN.out;omega
   have HRk:Hid (D.len i=C->(-1<=D.q i/\D.q i<32768)->(∀c,c<C->-1<=D.nx i c/\D.nx i c<(D.n:Int))->∀i',i'<i+1->Rok D C i'):=fun h1 h2 h3 i' hi'=>by
    by_cases e:i'=i
    ·subst e;exact⟨h1,h2,h3⟩
    ·exact HX.out.2 i' (by omega)
   have HBd:Hid ((∃C',DR D C')->D.len i=C/\-1<=D.q i/\D.q i<32768):=fun h=>by
    obtain⟨C9,h9⟩:=h
    have e:=IsC.uniq h9.c HC.out
    subst e
    exact⟨h9.len i hlt,h9.q i hlt⟩
   have HBn:Hid ((∃C',DR D C')->∀c,c<C->-1<=D.nx i c/\D.nx i c<(D.n:Int)):=fun h=>by
    obtain⟨C9,h9⟩:=h
    have e:=IsC.uniq h9.c HC.out
    subst e
    exact fun c hc=>h9.nx i c hlt hc
   have HZn:=hid zN
   generalize D.len i=ln at cN HRk hli HZn HBd
   generalize D.A i=ai at cN HZn
   generalize D.Cp i=ci at cN
   generalize hy:D.q i=y at cM HRk HBd
   have HSo:Hid (∀W',Below wr.heap.size wr W'->Below wr.heap.size wr W'/\DBx W' b0 D/\W'.cell? ⟨b0,256,none⟩=some (.slice (some ⟨gN,oN,none⟩) D.n D.cN)/\W'.cell? ⟨gN,oN+i,none⟩=some (.slice ai ln ci)/\W'.cell? ⟨b0,257,none⟩=some (.slice (some ⟨gM,oM,none⟩) D.m D.cM)/\W'.cell? ⟨gM,oM+i,none⟩=some (.int .i64 y)):=fun W' h=>
    ⟨h,HBx.out.keep h,(h.cell (p:=⟨b0,256,none⟩) HBx.out.st.lt).trans f1,(h.cell (p:=⟨gN,oN+i,none⟩) hgN).trans cN,(h.cell (p:=⟨b0,257,none⟩) HBx.out.st.lt).trans f2,(h.cell (p:=⟨gM,oM+i,none⟩) hgM).trans cM⟩
   have HeN:=hid eN
   have HeM:=hid eM
   have HmM:=hid HMN.out
   clear eN eM hy zN hgN hgM f1 f2 cN cM
   go_upto_region 7 with fail
   by_cases e1:ln=C
   rotate_left
   ·have i5:((ln:Int) != (C:Int))=true:=by simp;omega
    refine wp_region_held_drew (S:=fun W'=>Below wr.heap.size wr W'/\DBx W' b0 D/\W'.cell? ⟨b0,256,none⟩=some (.slice (some ⟨gN,oN,none⟩) D.n D.cN)/\W'.cell? ⟨gN,oN+i,none⟩=some (.slice ai ln ci)/\W'.cell? ⟨b0,257,none⟩=some (.slice (some ⟨gM,oM,none⟩) D.m D.cM)/\W'.cell? ⟨gM,oM+i,none⟩=some (.int .i64 y)) (by kernel_rfl) (HSo.out _ (Below.refl _ _).drew) (fun hHeld=>?_)
    (refine tkA 0 ?_;refine tkA 1 ?_;refine tkA 2 ?_;try simp only[Act.put,sA,sB,sC];refine tkA 3 ?_;refine tkA 4 ?_;refine tkA 5 ?_)
    (refine tkA 6 (v:=.agg D.cD) ?_ (hy:=by intro wz hSw;exact zar (o:=_) (ρ:=_) wz 39 (.tmp 1) rfl ⟨b0,0,none⟩ rfl D.cD _ (DBx.st (And.left (And.right hSw))).part Tryz.underlying39 rfl (DBx.dm (And.left (And.right hSw))).info);try simp only[Act.put,sA,sB,sC])
    refine rd1 7 (fun K hK=>?_)
    ·skip
     go_simp
     go_at_call 35
     refine (zbk D C HC.out _ hHeld.2.1.dm).mono ?_
     rintro e wj ⟨rfl,vj⟩
     have hbn:Below wr.heap.size wr wj:=hHeld.1.trans (vj.mono hHeld.1.size)
     clear vj
     try go_wp2_with fail
     refine hK.out _ _ (HSo.out _ hbn) (fun hHeld=>?_)
     clear hK K hbn
     try simp only[Act.put,sA,sB,sC]
     (refine tkA 8 ?_;refine tkA 9 ?_;refine tkB 10 ?_;try simp only[Act.put,sA,sB,sC];refine tkB 11 ?_;refine tkB 12 ?_;refine tkB 13 ?_;try simp only[Act.put,sA,sB,sC];refine tkB 14 ?_;refine tkB 15 ?_;refine tkA 16 ?_;try simp only[Act.put,sA,sB,sC];refine tkA 17 ?_;refine tkB 18 ?_;refine tkB 19 ?_;try simp only[Act.put,sA,sB,sC];refine tkB 20 ?_;refine tkB 21 ?_;refine tkB 22 ?_;try simp only[Act.put,sA,sB,sC];refine tkB 23 ?_;refine tkA 24 ?_;try simp only[Act.put,sA,sB,sC])
     refine wpAnyH_done (by kernel_rfl) ?_ _
     have HB7:=hid hHeld.1
     clear hHeld
     have HFi:=hid (HFin.out _ HB7.out)
     go_wp2_with fail
     go_ret
     exact⟨false,rfl,⟨(fun h=>by cases h),(fun h=>by have:=HBd.out h;omega)⟩,HFi.out⟩
   ·subst e1
    have i7:((ln:Int) != (ln:Int))=false:=by simp
    have HRl:=hid (HRk.out rfl)
    clear HRk
    by_cases e2:y < -1
    ·have i5:decide (y < -1)=true:=by simp;omega
     refine wp_region_held_drew (S:=fun W'=>Below wr.heap.size wr W'/\DBx W' b0 D/\W'.cell? ⟨b0,256,none⟩=some (.slice (some ⟨gN,oN,none⟩) D.n D.cN)/\W'.cell? ⟨gN,oN+i,none⟩=some (.slice ai ln ci)/\W'.cell? ⟨b0,257,none⟩=some (.slice (some ⟨gM,oM,none⟩) D.m D.cM)/\W'.cell? ⟨gM,oM+i,none⟩=some (.int .i64 y)) (by kernel_rfl) (HSo.out _ (Below.refl _ _).drew) (fun hHeld=>?_)
     (refine tkA 0 ?_;refine tkA 1 ?_;refine tkA 2 ?_;try simp only[Act.put,sA,sB,sC];refine tkA 3 ?_;refine tkA 4 ?_;refine tkA 5 ?_)
     (refine tkA 6 (v:=.agg D.cD) ?_ (hy:=by intro wz hSw;exact zar (o:=_) (ρ:=_) wz 39 (.tmp 1) rfl ⟨b0,0,none⟩ rfl D.cD _ (DBx.st (And.left (And.right hSw))).part Tryz.underlying39 rfl (DBx.dm (And.left (And.right hSw))).info);try simp only[Act.put,sA,sB,sC])
     refine rd1 7 (fun K hK=>?_)
     ·skip
      go_simp
      go_at_call 35
      refine (zbk D ln HC.out _ hHeld.2.1.dm).mono ?_
      rintro e wj ⟨rfl,vj⟩
      have hbn:Below wr.heap.size wr wj:=hHeld.1.trans (vj.mono hHeld.1.size)
      clear vj
      try go_wp2_with fail
      refine hK.out _ _ (HSo.out _ hbn) (fun hHeld=>?_)
      clear hK K hbn
      try simp only[Act.put,sA,sB,sC]
      (refine tkA 8 ?_;refine tkA 9 ?_;refine tkA 10 ?_;try simp only[Act.put,sA,sB,sC];refine tkA 11 ?_;refine tkA 12 ?_;refine tkA 13 ?_;try simp only[Act.put,sA,sB,sC];refine tkA 14 ?_;refine tkA 15 ?_;refine tkA 16 ?_;try simp only[Act.put,sA,sB,sC];refine tkA 17 ?_;refine tkB 18 ?_;refine tkB 19 ?_;try simp only[Act.put,sA,sB,sC];refine tkB 20 ?_;refine tkB 21 ?_;refine tkB 22 ?_;try simp only[Act.put,sA,sB,sC];refine tkB 23 ?_;refine tkA 24 ?_;try simp only[Act.put,sA,sB,sC])
      refine wpAnyH_done (by kernel_rfl) ?_ _
      have HB7:=hid hHeld.1
      clear hHeld
      have HFi:=hid (HFin.out _ HB7.out)
      go_wp2_with fail
      go_ret
      exact⟨false,rfl,⟨(fun h=>by cases h),(fun h=>by have:=HBd.out h;omega)⟩,HFi.out⟩
    by_cases e3:32768<=y
    ·have i5:decide (y < -1)=false:=by simp;omega
     have i6:decide (32768<=y)=true:=by simp;omega
     refine wp_region_held_drew (S:=fun W'=>Below wr.heap.size wr W'/\DBx W' b0 D/\W'.cell? ⟨b0,256,none⟩=some (.slice (some ⟨gN,oN,none⟩) D.n D.cN)/\W'.cell? ⟨gN,oN+i,none⟩=some (.slice ai ln ci)/\W'.cell? ⟨b0,257,none⟩=some (.slice (some ⟨gM,oM,none⟩) D.m D.cM)/\W'.cell? ⟨gM,oM+i,none⟩=some (.int .i64 y)) (by kernel_rfl) (HSo.out _ (Below.refl _ _).drew) (fun hHeld=>?_)
     (refine tkA 0 ?_;refine tkA 1 ?_;refine tkA 2 ?_;try simp only[Act.put,sA,sB,sC];refine tkA 3 ?_;refine tkA 4 ?_;refine tkA 5 ?_)
     (refine tkA 6 (v:=.agg D.cD) ?_ (hy:=by intro wz hSw;exact zar (o:=_) (ρ:=_) wz 39 (.tmp 1) rfl ⟨b0,0,none⟩ rfl D.cD _ (DBx.st (And.left (And.right hSw))).part Tryz.underlying39 rfl (DBx.dm (And.left (And.right hSw))).info);try simp only[Act.put,sA,sB,sC])
     refine rd1 7 (fun K hK=>?_)
     ·skip
      go_simp
      go_at_call 35
      refine (zbk D ln HC.out _ hHeld.2.1.dm).mono ?_
      rintro e wj ⟨rfl,vj⟩
      have hbn:Below wr.heap.size wr wj:=hHeld.1.trans (vj.mono hHeld.1.size)
      clear vj
      try go_wp2_with fail
      refine hK.out _ _ (HSo.out _ hbn) (fun hHeld=>?_)
      clear hK K hbn
      try simp only[Act.put,sA,sB,sC]
      (refine tkA 8 ?_;refine tkA 9 ?_;refine tkA 10 ?_;try simp only[Act.put,sA,sB,sC];refine tkA 11 ?_;refine tkA 12 ?_;refine tkA 13 ?_;try simp only[Act.put,sA,sB,sC];refine tkA 14 ?_;refine tkA 15 ?_;refine tkA 16 ?_;try simp only[Act.put,sA,sB,sC];refine tkA 17 ?_;refine tkA 18 ?_;refine tkA 19 ?_;try simp only[Act.put,sA,sB,sC];refine tkA 20 ?_;refine tkA 21 ?_;refine tkA 22 ?_;try simp only[Act.put,sA,sB,sC];refine tkA 23 ?_;refine tkA 24 ?_;try simp only[Act.put,sA,sB,sC])
      refine wpAnyH_done (by kernel_rfl) ?_ _
      have HB7:=hid hHeld.1
      clear hHeld
      have HFi:=hid (HFin.out _ HB7.out)
      go_wp2_with fail
      go_ret
      exact⟨false,rfl,⟨(fun h=>by cases h),(fun h=>by have:=HBd.out h;omega)⟩,HFi.out⟩
    have i5:decide (y < -1)=false:=by simp;omega
    have i6:decide (32768<=y)=false:=by simp;omega
    have HRm:=hid (HRl.out ⟨by omega,by omega⟩)
    clear HRl
    refine wp_region_held_drew (S:=fun W'=>Below wr.heap.size wr W'/\DBx W' b0 D/\W'.cell? ⟨b0,256,none⟩=some (.slice (some ⟨gN,oN,none⟩) D.n D.cN)/\W'.cell? ⟨gN,oN+i,none⟩=some (.slice ai ln ci)/\W'.cell? ⟨b0,257,none⟩=some (.slice (some ⟨gM,oM,none⟩) D.m D.cM)/\W'.cell? ⟨gM,oM+i,none⟩=some (.int .i64 y)) (by kernel_rfl) (HSo.out _ (Below.refl _ _).drew) (fun hHeld=>?_)
    (refine tkA 0 ?_;refine tkA 1 ?_;refine tkA 2 ?_;try simp only[Act.put,sA,sB,sC];refine tkA 3 ?_;refine tkA 4 ?_;refine tkA 5 ?_)
    (refine tkA 6 (v:=.agg D.cD) ?_ (hy:=by intro wz hSw;exact zar (o:=_) (ρ:=_) wz 39 (.tmp 1) rfl ⟨b0,0,none⟩ rfl D.cD _ (DBx.st (And.left (And.right hSw))).part Tryz.underlying39 rfl (DBx.dm (And.left (And.right hSw))).info);try simp only[Act.put,sA,sB,sC])
    refine rd1 7 (fun K hK=>?_)
    ·skip
     go_simp
     go_at_call 35
     refine (zbk D ln HC.out _ hHeld.2.1.dm).mono ?_
     rintro e wj ⟨rfl,vj⟩
     have hbn:Below wr.heap.size wr wj:=hHeld.1.trans (vj.mono hHeld.1.size)
     clear vj
     try go_wp2_with fail
     refine hK.out _ _ (HSo.out _ hbn) (fun hHeld=>?_)
     clear hK K hbn
     try simp only[Act.put,sA,sB,sC]
     (refine tkA 8 ?_;refine tkA 9 ?_;refine tkA 10 ?_;try simp only[Act.put,sA,sB,sC];refine tkA 11 ?_;refine tkA 12 ?_;refine tkA 13 ?_;try simp only[Act.put,sA,sB,sC];refine tkA 14 ?_;refine tkA 15 ?_;refine tkA 16 ?_;try simp only[Act.put,sA,sB,sC];refine tkA 17 ?_;refine tkA 18 ?_;refine tkA 19 ?_;try simp only[Act.put,sA,sB,sC];refine tkA 20 ?_;refine tkA 21 ?_;refine tkA 22 ?_;try simp only[Act.put,sA,sB,sC];refine tkA 23 ?_;refine tkA 24 ?_;try simp only[Act.put,sA,sB,sC])
     refine wpAnyH_done (by kernel_rfl) ?_ _
     have HB7:=hid hHeld.1
     clear hHeld
     obtain⟨W7,hW7⟩:∃W7,wj=W7:=⟨_,rfl⟩
     rw[hW7] at HB7
     rw[hW7]
     clear hW7
     have HZ7:=hid (HZn.out.below HB7.out)
     have HS7:=hid (HSo.out _ HB7.out)
     clear HSo
     go_wp2_with fail
     go_loopw [5] (fun v wq=>∃(c:Nat),v=.int .i64 c/\c<=ln/\wq=W7/\Hid (∀c',c'<c->-1<=D.nx i c'/\D.nx i c'<(D.n:Int))) (fun v _=>ln-(intOf v).toNat)
     case atStart=>exact⟨0,rfl,by omega,rfl,fun c' h=>by omega⟩
     case round=>
      obtain⟨c,rfl,hc,rfl,HY⟩:=hrel
      obtain⟨_,_,g1,g2,_,_⟩:=HS7.out
      by_cases hlc:c<ln
      ·obtain⟨gA,oA,rfl,_,cA0⟩:=HZ7.out (by omega)
       have cA:=cA0 c hlc
       clear cA0
       have i7:(c:Int)<(ln:Int):=by omega
       have HYs:Hid ((-1<=D.nx i c/\D.nx i c<(D.n:Int))->∀c',c'<c+1->-1<=D.nx i c'/\D.nx i c'<(D.n:Int)):=fun h c' hc'=>by
        by_cases e:c'=c
        ·subst e;exact h
        ·exact HY.out c' (by omega)
       have HYb:Hid ((∃C',DR D C')->-1<=D.nx i c/\D.nx i c<(D.n:Int)):=fun h=>HBn.out h c hlc
       generalize D.nx i c=t at cA HYs HYb
       by_cases e4:t < -1
       ·have i8:decide (t < -1)=true:=by simp;omega
        have HFi:=hid (HFin.out _ HB7.out)
        go_wp2_with fail
        go_ret
        exact⟨false,rfl,⟨(fun h=>by cases h),(fun h=>by have:=HYb.out h;omega)⟩,HFi.out⟩
       by_cases e5:(D.n:Int)<=t
       ·have i8:decide (t < -1)=false:=by simp;omega
        have i9:decide ((D.n:Int)<=t)=true:=by simp;omega
        have HFi:=hid (HFin.out _ HB7.out)
        go_wp2_with fail
        go_ret
        exact⟨false,rfl,⟨(fun h=>by cases h),(fun h=>by have:=HYb.out h;omega)⟩,HFi.out⟩
       have i8:decide (t < -1)=false:=by simp;omega
       have i9:decide ((D.n:Int)<=t)=false:=by simp;omega
       have HZ:=hid (HYs.out ⟨by omega,by omega⟩)
       go_wp2_with fail
       go_roundw
       case rel=>exact⟨c+1,by go_num,by omega,by first|trivial|rfl,HZ⟩
       case measure=>simp[intOf];omega
      ·obtain rfl:c=ln:=by omega
       have HX2:Hid (Below W1.heap.size W1 wr/\∀i',i'<i+1->Rok D c i'):=⟨HX.out.1.trans (HB7.out.mono HX.out.1.size),HRm.out HY.out⟩
       go_wp2_with fail
       go_roundw
       case rel=>exact⟨i+1,by go_num,by omega,HX2⟩
       case measure=>simp[intOf];omega
  ·obtain rfl:i=D.n:=by omega
   have HFi:=hid (HFin.out wr (Below.refl _ _))
   have HDR:Hid (∃C,DR D C):=⟨C,HC.out,by omega,by omega,HMN.out,HGap.out,fun i h=>(HX.out.2 i h).1,fun i h=>(HX.out.2 i h).2.1,fun i c h1 h2=>(HX.out.2 i h1).2.2 c h2⟩
   go_wp2_with fail
   go_ret
   exact⟨true,rfl,⟨fun _=>HDR.out,fun _=>rfl⟩,HFi.out⟩
end Go.Proofs.YtjehgdjlncofeaaGreat
