import Derived.Test.YtjehgdjlncofeaaGreatZTLaw
set_option linter.unusedVariables false
set_option linter.unusedSimpArgs false
set_option maxHeartbeats 2000000
set_option maxRecDepth 100000
open Go.Lib (hid)
namespace Go.Proofs.YtjehgdjlncofeaaGreat
open Go.RowKit Go.Maps Go.WideElems Go.ChangeMaps Go.MapKept
theorem zef (D:Dd) (C:Nat) (hR:DR D C) (st:Int) (b:Nat) (hb:b<256) (w:World) (hD:DM w D):
  Calls Tryz.prog 36 #[.agg D.cD,.int .i64 st,.int .i64 (b:Int)] w fun e w'=>e=.returned (.int .i64 (stepF D st b))/\Below w.heap.size w w':=by
 have HB:=hid (And.intro (DBx.new hD) (And.intro (al w (.cells D.cD 39)) hR))
 have hn2:=hR.n2
 have hC6:=(hR.c256 hD.kl).2
 clear hD hR
 go_enter Tryz.func36,Tryz.ntmps36
 go_upto_region 1 with fail
 generalize w.alloc (.cells D.cD 39)=W0 at HB⊢
 obtain⟨b0,hb0⟩:∃b0,w.heap.size=b0:=⟨_,rfl⟩
 have Hb0:=hid hb0
 rw[hb0] at HB
 rw[hb0]
 clear hb0
 have HF:=hid (show Below w.heap.size w W0 by rw[Hb0.out];exact HB.out.2.1)
 have k0:=HB.out.1.f0 b hb
 have hkl:=HB.out.1.dm.kl b hb
 have hkc:=HB.out.2.2.c.1 b hb
 have i0:(b:Int)<256:=by omega
 have f1:=HB.out.1.f1
 obtain⟨kb,hkb⟩:∃kb,D.K b=kb:=⟨_,rfl⟩
 have Hkb:=hid hkb
 rw[hkb] at k0 hkl hkc
 clear hkb
 by_cases h0:0<=st
 ·obtain⟨s,rfl⟩:∃s:Nat,st=(s:Int):=⟨st.toNat,by omega⟩
  by_cases hsn:s<D.n
  ·have HV:Hid (stepF D (s:Int) b=D.nx s kb):=by
    show _=_
    unfold stepF
    rw[if_pos (by omega),Hkb.out]
    rfl
   have hcell:Hid (∀W',Below W0.heap.size W0 W'->∃gN oN gA oA cA,W'.cell? ⟨b0,256,none⟩=some (.slice (some ⟨gN,oN,none⟩) D.n D.cN)/\W'.cell? ⟨gN,oN+s,none⟩=some (.slice (some ⟨gA,oA,none⟩) C cA)/\W'.cell? ⟨gA,oA+kb,none⟩=some (.int .i64 (D.nx s kb))/\W'.cell? ⟨b0,b,none⟩=some (.int .u8 (kb:Int))):=fun W' h=>by
    have hb9:=HB.out.1.keep h
    have f1:=hb9.f1
    obtain⟨gN,oN,eN,hgN,cN,zN⟩:=hb9.dm.row s hsn
    rw[HB.out.2.2.len s hsn] at cN zN
    rw[eN] at f1
    obtain⟨gA,oA,eA,_,cA0⟩:=zN (by omega)
    rw[eA] at cN
    have k0:=hb9.f0 b hb
    rw[Hkb.out] at k0
    exact⟨gN,oN,gA,oA,_,f1,cN,cA0 kb hkc,k0⟩
   have i1:(kb:Int)<(C:Int):=by omega
   have i2:(s:Int)<(D.n:Int):=by omega
   have i3:¬((C:Int)<=(kb:Int)):=by omega
   have i4:¬((D.n:Int)<=(s:Int)):=by omega
   have i5:¬((s:Int)<0):=by omega
   clear h0 f1 k0
   generalize D.nx s kb=r at hcell HV
   obtain⟨gN,oN,gA,oA,cA,c1,c2,c3,c4⟩:=hcell.out W0 (Below.refl _ _)
   go_quiet (fail)
   go_wp2_with fail
   go_quiet (fail)
   go_wp2_with fail
   go_ret
   exact⟨by rw[HV.out];first|rfl|simp,below_drewN (below_drewN HF.out _) _⟩
  ·have HV:Hid (stepF D (s:Int) b=-1):=by
    show _=_
    unfold stepF
    rw[if_neg (by omega)]
   have i4:(D.n:Int)<=(s:Int):=by omega
   have i5:¬((s:Int)<0):=by omega
   clear h0
   go_quiet (fail)
   go_wp2_with fail
   go_ret
   exact⟨by rw[HV.out];first|rfl|simp,below_drewN HF.out _⟩
 ·have HV:Hid (stepF D st b=-1):=by
   show _=_
   unfold stepF
   rw[if_neg (by omega)]
  have i5:st<0:=by omega
  clear h0
  go_quiet (fail)
  go_wp2_with fail
  go_ret
  exact⟨by rw[HV.out];first|rfl|simp,below_drewN HF.out _⟩
theorem zfE (D:Dd) (C:Nat) (hR:DR D C) (st:Int) (s:ByteArray) (m:Nat) (hs:s.size=m) (hm:m<=1000000) (w:World) (hD:DM w D):
  Calls Tryz.prog 16 #[.agg D.cD,.int .i64 st,.string s] w fun e w'=>e=.returned (.int .i64 (runF D st (zof s) m))/\Below w.heap.size w w':=by
 have HB:=hid (And.intro (DBx.new hD) (And.intro (al w (.cells D.cD 39)) hR))
 have hss:=hs
 have HS:=hid hs
 clear hD hR hs
 go_enter Tryz.func16,Tryz.ntmps16
 go_upto_region 1 with fail
 generalize w.alloc (.cells D.cD 39)=W0 at HB⊢
 obtain⟨b0,hb0⟩:∃b0,w.heap.size=b0:=⟨_,rfl⟩
 have Hb0:=hid hb0
 rw[hb0] at HB
 rw[hb0]
 clear hb0
 go_wp2_with fail
 go_loopw [1,7] (fun v1 v wr=>∃(k:Nat),v=.int .i64 k/\k<=m/\v1=.int .i64 (runF D st (zof s) k)/\Hid (Below W0.heap.size W0 wr)) (fun _ v _=>m-(intOf v).toNat)
 case atStart=>exact⟨0,rfl,by omega,rfl,Below.refl _ _⟩
 case round=>
  obtain⟨k,rfl,hk,rfl,HX⟩:=hrel
  have HFw:Hid (∀W',Below W0.heap.size W0 W'->Below w.heap.size w W'):=fun W' h=>by
   rw[Hb0.out]
   exact HB.out.2.1.trans (h.mono (by have:=HB.out.2.1.size;have:=Hb0.out;omega))
  by_cases hlt:k<m
  ·have hks:k<s.size:=by rw[hss];exact hlt
   obtain⟨bt,hbe⟩:∃bt,(s[k]'hks).toNat=bt:=⟨_,rfl⟩
   have hbz:=zhI s k hks
   rw[hbe] at hbz
   have hbt:bt<256:=by rw[hbz];exact zb5 s k
   have HSt:Hid (runF D st (zof s) (k+1)=stepF D (runF D st (zof s) k) bt):=by show stepF D (runF D st (zof s) k) (zof s k)=_;rw[<-hbz]
   have i1:(k:Int)<(m:Int):=by omega
   generalize runF D st (zof s) k=a at HSt⊢
   have HSo:Hid (∀W',Below W0.heap.size W0 W'->Below W0.heap.size W0 W'/\DBx W' b0 D):=fun W' h=>⟨h,HB.out.1.keep h⟩
   clear hbz
   go_upto_region 4 with fail
   refine wp_region_held_drew (S:=fun W'=>Below W0.heap.size W0 W'/\DBx W' b0 D) (by kernel_rfl) (HSo.out _ HX.out.drew) (fun hHeld=>?_)
   (refine tkA 0 (v:=.agg D.cD) ?_ (hy:=by intro wz hSw;exact zar (o:=_) (ρ:=_) wz 39 (.tmp 3) rfl ⟨b0,0,none⟩ rfl D.cD _ (DBx.st (And.right hSw)).part Tryz.underlying39 rfl (DBx.dm (And.right hSw)).info))
   (refine tkA 1 ?_;refine tkA 2 ?_;refine tkA 3 ?_;refine tkA 4 ?_;refine tkA 5 ?_;try simp only[Act.put,sA,sB,sC])
   refine rd1 6 (fun K hK=>?_)
   ·skip
    go_simp
    go_at_call 36
    have hwr:IntKind.i64.wrap (bt:Int)=(bt:Int):=by rw[IntKind.wrap_i64];omega
    rw[hwr]
    clear hwr
    refine (zef D C HB.out.2.2 a bt hbt _ hHeld.2.dm).mono ?_
    rintro e wj ⟨rfl,vj⟩
    have hbn:Below W0.heap.size W0 wj:=hHeld.1.trans (vj.mono hHeld.1.size)
    clear vj
    try go_wp2_with fail
    refine hK.out _ _ (HSo.out _ hbn) (fun hHeld=>?_)
    clear hK K
    try simp only[Act.put,sA,sB,sC]
    (refine tkA 7 ?_;try simp only[Act.put,sA,sB,sC])
    refine wpAnyH_done (by kernel_rfl) ?_ _
    have HBn:=hid hbn
    clear hHeld hbn
    go_wp2_with fail
    go_roundw
    case rel=>exact⟨k+1,by go_num,by omega,by rw[HSt.out],HBn⟩
    case measure=>simp[intOf];omega
  ·obtain rfl:k=m:=by omega
   have HF:=hid (HFw.out wr HX.out)
   go_wp2_with fail
   go_ret
   exact⟨rfl,HF.out⟩
end Go.Proofs.YtjehgdjlncofeaaGreat
