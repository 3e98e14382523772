import Derived.Test.YtjehgdjlncofeaaGreatZTTrim
import Derived.ChangeKeysEq
set_option linter.unusedVariables false
set_option linter.unusedSimpArgs false
set_option maxHeartbeats 8000000
set_option maxRecDepth 100000
open Go.Lib (hid)
namespace Go.Proofs.YtjehgdjlncofeaaGreat
open Go.ChangeShapes Go.WideShapes Go.ChangeAt Go.RowKit Go.Deep
theorem zcW {α:Type}(l:List α) (k:Nat) (h:k<l.length):(l.drop k).take 1=[l[k]]:=by rw[List.drop_eq_getElem_cons h];rfl
theorem ziI {H:Type}{enc:TypeId × Value->H}{w:World}{base fuel:Nat}{spare:Nat->Bool}{held:Bool}{a:Option Addr}{len cap:Nat}{x:DataW H × List MemPlace}
  (h:DataW.trod enc Tryz.prog w base spare held fuel 37 [.slice a len cap]=some x):
  (∃(A:Nat->Option Addr) (Cp ln:Nat->Nat) (z:Nat->Nat->Int),ZsAt w a len A Cp ln z/\∀i,i<len->ln i<=maxLen)/\len<=cap/\cap<=maxLen:=by
 rcases open_slice Tryz.underlying37 h with ⟨hcs,_⟩|⟨ad,l,c,m,n,D,Pl,hcs,hb,hl,hm,hmm,hx,hi⟩
 ·simp at hcs
  obtain⟨rfl,rfl,rfl⟩:=hcs
  exact⟨⟨fun _=>none,fun _=>0,fun _=>0,fun _ _=>0,fun h=>absurd h (by omega),fun i h=>absurd h (by omega)⟩,Nat.le_refl _,by unfold maxLen;omega⟩
 ·simp at hcs
  obtain⟨rfl,rfl,rfl⟩:=hcs
  have h1:Tryz.prog.cellsOf 30=1:=by kernel_rfl
  have hp:∀i,i<len->∃p:Option Addr × Nat × Nat × (Nat->Int),w.cell? (ad.add i)=some (.slice p.1 p.2.1 p.2.2.1)/\ZAt w p.1 p.2.1 p.2.2.2/\p.2.1<=maxLen:=by
   intro i him
   obtain⟨cs',hc,ht⟩:=hi i (by rw[hmm];split <;> omega)
   rw[h1] at hc
   obtain⟨_,hcl,hat⟩:=World.cells?_some hc
   have hsl:∃a' n' c',cs'=[.slice a' n' c']:=by
    rcases open_slice Tryz.underlying30 ht with ⟨hcs,_⟩|⟨ad',l',c',m',n',D',Pl',hcs,_⟩
    ·exact⟨_,_,_,hcs⟩
    ·exact⟨_,_,_,hcs⟩
   obtain⟨a',n',c',rfl⟩:=hsl
   obtain⟨⟨g,hg⟩,h4,h5⟩:=zeq ht
   have h2:=hat 0 (by omega)
   rw[Go.Deep.add_add] at h2
   exact⟨(a',n',c',g),by simpa using h2,hg,by show n'<=maxLen;omega⟩
  obtain⟨b,off,spot⟩:=ad
  obtain⟨G,hs⟩:∃G:Nat->Option Addr × Nat × Nat × (Nat->Int),∀i,i<len->w.cell? ((⟨b,off,spot⟩:Addr).add i)=some (.slice (G i).1 (G i).2.1 (G i).2.2.1)/\ZAt w (G i).1 (G i).2.1 (G i).2.2.2/\(G i).2.1<=maxLen:=
   ⟨fun i=>if h:i<len then Classical.choose (hp i h) else (none,0,0,fun _=>0),fun i h=>by
    have:=Classical.choose_spec (hp i h)
    simp only[dif_pos h]
    exact this⟩
  refine⟨⟨fun i=>(G i).1,fun i=>(G i).2.2.1,fun i=>(G i).2.1,fun i=>(G i).2.2.2,fun h0=>?_,fun i hi=>(hs i hi).2.2⟩,hl,hm⟩
  have hspot:spot=none:=by
   have:=(hs 0 h0).1
   simpa [Addr.add] using World.cell?_spot this
  subst hspot
  refine⟨b,off,rfl,?_,fun j hj=>⟨?_,(hs j hj).2.1⟩⟩
  ·have:=(hs 0 h0).1
   by_cases hb:b<w.heap.size
   ·exact hb
   ·rw[zdh] at this
    simp[World.cell?,Array.getElem?_eq_none (by omega:w.heap.size<=b)] at this
  ·have:=(hs j hj).1
   rwa [zdh] at this
theorem zlU {H:Type}{enc:TypeId × Value->H}{w:World}{base fuel:Nat}{spare:Nat->Bool}{held:Bool}{xs:Array Value}{x:DataW H × List MemPlace}(hlen:xs.size=258)
  (h:DataW.trod enc Tryz.prog w base spare held fuel 39 xs.toList=some x):∃D:Dd,D.cD=xs/\DM w D/\D.n<=maxLen/\D.m<=maxLen/\∀i,i<D.n->D.len i<=maxLen:=by
 have c3:Tryz.prog.cellsOf 36=256:=by kernel_rfl
 have c4:Tryz.prog.cellsOf 37=1:=by kernel_rfl
 have c5:Tryz.prog.cellsOf 30=1:=by kernel_rfl
 have c6:Tryz.prog.cellsOf 5=1:=by kernel_rfl
 obtain⟨ys,n',hn',hy,hl,hyl,hf⟩:=DataW.trod_struct Tryz.underlying39 h
 have f0:DataW.trod enc Tryz.prog w base spare held n' 36 ((xs.toList.drop 0).take (Tryz.prog.cellsOf 36))=ys[0]?:=hf 0 _ rfl
 have f1:DataW.trod enc Tryz.prog w base spare held n' 37 ((xs.toList.drop 256).take (Tryz.prog.cellsOf 37))=ys[1]?:=hf 1 _ rfl
 have f2:DataW.trod enc Tryz.prog w base spare held n' 30 ((xs.toList.drop 257).take (Tryz.prog.cellsOf 30))=ys[2]?:=hf 2 _ rfl
 rw[c3] at f0
 rw[c4] at f1
 rw[c5] at f2
 have hyl3:ys.length=3:=hyl
 have g0:ys[0]?=some ys[0]:=List.getElem?_eq_getElem _
 have g1:ys[1]?=some ys[1]:=List.getElem?_eq_getElem _
 have g2:ys[2]?=some ys[2]:=List.getElem?_eq_getElem _
 rw[g0] at f0
 rw[g1] at f1
 rw[g2] at f2
 have hsz:xs.toList.length=258:=by simpa using hlen
 have e1:∃v,xs[256]?=some v/\(xs.toList.drop 256).take 1=[v]:=⟨xs[256],by simp,by
  rw[zcW _ _ (by omega)];simp⟩
 have e2:∃v,xs[257]?=some v/\(xs.toList.drop 257).take 1=[v]:=⟨xs[257],by simp,by
  rw[zcW _ _ (by omega)];simp⟩
 obtain⟨v1,hv1,q1⟩:=e1
 obtain⟨v2,hv2,q2⟩:=e2
 rw[q1] at f1
 rw[q2] at f2
 have hs1:∃a' n' c',v1=.slice a' n' c':=by
  rcases open_slice Tryz.underlying37 f1 with ⟨hcs,_⟩|⟨ad',l',c',m',n',D',Pl',hcs,_⟩
  ·simp at hcs;exact⟨_,_,_,hcs⟩
  ·simp at hcs;exact⟨_,_,_,hcs⟩
 have hs2:∃a' n' c',v2=.slice a' n' c':=by
  rcases open_slice Tryz.underlying30 f2 with ⟨hcs,_⟩|⟨ad',l',c',m',n',D',Pl',hcs,_⟩
  ·simp at hcs;exact⟨_,_,_,hcs⟩
  ·simp at hcs;exact⟨_,_,_,hcs⟩
 obtain⟨aN,nN,cN,rfl⟩:=hs1
 obtain⟨aM,nM,cM,rfl⟩:=hs2
 obtain⟨⟨A,Cp,ln,z,hz,hln⟩,hnc,hcm⟩:=ziI f1
 obtain⟨⟨g,hg⟩,hmc,hcm2⟩:=zeq f2
 obtain⟨us,mu,_,_,_,hul,hu⟩:=DataW.trod_array Tryz.underlying36 f0
 have hK:∀j,j<256->∃k:Nat,xs[j]?=some (.int .u8 (k:Int))/\k<256:=by
  intro j hj
  have h1:=hu j hj
  rw[c6,List.getElem?_eq_getElem (by omega)] at h1
  have h2:(((xs.toList.drop 0).take 256).drop (j*1)).take 1=[xs[j]]:=by
   rw[List.drop_zero,Nat.mul_one,zcW _ _ (by simp;omega)]
   simp
  rw[h2] at h1
  obtain⟨k,e,_,hwf⟩:=DataW.trod_int Tryz.underlying5 h1
  have e':xs[j]=.int .u8 k:=by simpa using e
  have hk:0<=k/\k<256:=by
   simp[Lit.wf] at hwf
   have a1:IntKind.u8.min=0:=by decide
   have a2:IntKind.u8.max=255:=by decide
   rw[a1,a2] at hwf
   omega
  refine⟨k.toNat,?_,by omega⟩
  rw[Array.getElem?_eq_getElem (by omega),e',show (k.toNat:Int)=k by omega]
 obtain⟨K,hK2⟩:∃K:Nat->Nat,∀j,j<256->xs[j]?=some (.int .u8 ((K j:Nat):Int))/\K j<256:=
  ⟨fun j=>if h:j<256 then Classical.choose (hK j h) else 0,fun j h=>by
   have:=Classical.choose_spec (hK j h)
   simp only[dif_pos h]
   exact this⟩
 refine⟨⟨xs,K,aN,nN,cN,A,Cp,ln,z,aM,nM,cM,g⟩,rfl,⟨hlen,?_,fun j hj=>(hK2 j hj).1,fun j hj=>(hK2 j hj).2,hv1,hv2,hz,hg⟩,by show nN<=maxLen;omega,by show nM<=maxLen;omega,hln⟩
 intro v hv
 obtain⟨j,hj,rfl⟩:=List.getElem_of_mem hv
 have hj':j<258:=by simpa [hlen] using hj
 by_cases h1:j<256
 ·have:=(hK2 j h1).1
  rw[Array.getElem?_eq_getElem (by omega)] at this
  simp only[Array.getElem_toList]
  rw[Option.some.inj this]
  rfl
 ·by_cases h2:j=256
  ·subst h2
   rw[Array.getElem?_eq_getElem (by omega)] at hv1
   simp only[Array.getElem_toList]
   rw[Option.some.inj hv1]
   rfl
  ·obtain rfl:j=257:=by omega
   rw[Array.getElem?_eq_getElem (by omega)] at hv2
   simp only[Array.getElem_toList]
   rw[Option.some.inj hv2]
   rfl
theorem zfY {H:Type}{enc:TypeId × Value->H}{w:World}{base b0:Nat}{r:Reach}{spare:Nat->Bool}{held:Bool}{v:Value}(hk:Value.okWide Tryz.prog w r b0 39 v)
  (h:∃(fuel:Nat) (x:DataW H × List MemPlace),DataW.trod enc Tryz.prog w base spare held fuel 39 v.cells.toList=some x):
  ∃D:Dd,v=.agg D.cD/\DM w D/\D.n<=maxLen/\D.m<=maxLen/\∀i,i<D.n->D.len i<=maxLen:=by
 obtain⟨xs,rfl,hsz⟩:∃xs:Array Value,v=.agg xs/\xs.size=Tryz.prog.cellsOf 39:=by
  simp only[Value.okWide,Tryz.underlying39] at hk
  obtain⟨cs,h1,h2,_⟩:=hk
  exact⟨cs,h1,h2⟩
 rw[show Tryz.prog.cellsOf 39=258 by kernel_rfl] at hsz
 obtain⟨fuel,x,hf⟩:=h
 have hcs:(Value.agg xs).cells.toList=xs.toList:=rfl
 rw[hcs] at hf
 obtain⟨D,rfl,h1⟩:=zlU hsz hf
 exact⟨D,rfl,h1⟩
open Go.Maps Go.WideElems Go.ChangeMaps Go.MapKept
def stepF (D:Dd) (st:Int) (b:Nat):Int:=if 0<=st/\st<(D.n:Int) then D.nx st.toNat (D.K b) else -1
def runF (D:Dd) (st:Int) (z:Nat->Nat):Nat->Int
 | 0=>st
 | k+1=>stepF D (runF D st z k) (z k)
def markF (D:Dd) (st:Int):Int:=if 0<=st/\st<(D.n:Int) then D.q st.toNat else -1
theorem zfZ (D:Dd) (st:Int) (z:Nat->Nat) {k:Nat}(h:runF D st z k=-1):∀m,k<=m->runF D st z m=-1:=by
 intro m hm
 induction m with
 | zero=>rw[show k=0 by omega] at h;exact h
 | succ m ih=>
  by_cases e:k=m+1
  ·rw[<-e];exact h
  ·show stepF D (runF D st z m) (z m)=-1
   rw[ih (by omega)]
   unfold stepF
   rw[if_neg (by omega)]
theorem zks (D:Dd) (C:Nat) (hR:DR D C) (st:Int) (b:Nat) (hb:b<256) (w:World) (hD:DM w D):
  Calls Tryz.prog 108 #[.agg D.cD,.int .i64 st,.int .u8 (b:Int)] w fun e w'=>e=.returned (.int .i64 (stepF D st b))/\Below w.heap.size w w':=by
 have HB:=hid (And.intro (DBx.new hD) (And.intro (al w (.cells D.cD 39)) hR))
 have hn2:=hR.n2
 have hC6:=(hR.c256 hD.kl).2
 clear hD hR
 go_enter Tryz.func108,Tryz.ntmps108
 go_upto_region 1 with fail
 generalize w.alloc (.cells D.cD 39)=W0 at HB⊢
 obtain⟨b0,hb0⟩:∃b0,w.heap.size=b0:=⟨_,rfl⟩
 have Hb0:=hid hb0
 rw[hb0] at HB
 rw[hb0]
 clear hb0
 have k0:=HB.out.1.f0 b hb
 have hkl:=HB.out.1.dm.kl b hb
 have hkc:=HB.out.2.2.c.1 b hb
 have i0:(b:Int)<256:=by omega
 have HEx:=hid (zbG D st W0 HB.out.1.dm)
 obtain⟨kb,hkb⟩:∃kb,D.K b=kb:=⟨_,rfl⟩
 have Hkb:=hid hkb
 rw[hkb] at k0 hkl hkc
 clear hkb
 go_wp2_with (refine zad (by rfl) 39 _ rfl ⟨b0,0,none⟩ rfl D.cD _ HB.out.1.st.part Tryz.underlying39 rfl HB.out.1.dm.info ?_)
 refine HEx.out.mono ?_
 rintro e w2 ⟨rfl,b2⟩
 have HBx:=hid (HB.out.1.keep b2)
 have HF:Hid (Below w.heap.size w w2):=by
  rw[Hb0.out]
  exact HB.out.2.1.trans (b2.mono (by have:=HB.out.2.1.size;have:=Hb0.out;omega))
 clear b2 HEx k0
 by_cases hs:0<=st/\st<(D.n:Int)
 ·obtain⟨s,rfl⟩:∃s:Nat,st=(s:Int):=⟨st.toNat,by omega⟩
  have hsn:s<D.n:=by omega
  have HZ:Hid (decide (0<=(s:Int)/\(s:Int)<(D.n:Int))=true):=by show _=_;simp;omega
  have HV:Hid (stepF D (s:Int) b=D.nx s kb):=by
   show _=_
   unfold stepF
   rw[if_pos hs,Hkb.out]
   rfl
  have f1:=HBx.out.f1
  obtain⟨gN,oN,eN,hgN,cN,zN⟩:=HBx.out.dm.row s hsn
  rw[HB.out.2.2.len s hsn] at cN zN
  rw[eN] at f1
  obtain⟨gA,oA,eA,_,cA0⟩:=zN (by omega)
  have cA:=cA0 kb hkc
  rw[eA] at cN
  have i1:(kb:Int)<(C:Int):=by omega
  have i2:(s:Int)<(D.n:Int):=by omega
  have i3:¬((C:Int)<=(kb:Int)):=by omega
  rw[HZ.out]
  have HeN:=hid eN
  have HeA:=hid eA
  clear eN eA cA0 zN hs hgN
  generalize D.nx s kb=r at cA HV
  go_wp2_with fail
  go_ret
  exact⟨by rw[HV.out];first|rfl|simp,HF.out⟩
 ·have HZ:Hid (decide (0<=st/\st<(D.n:Int))=false):=by show _=_;simp;omega
  have HV:Hid (stepF D st b=-1):=by
   show _=_
   unfold stepF
   rw[if_neg hs]
  rw[HZ.out]
  clear hs
  go_wp2_with fail
  go_ret
  exact⟨by rw[HV.out];first|rfl|simp,HF.out⟩
theorem zf0 (D:Dd) (C:Nat) (hR:DR D C) (st:Int) (w:World) (hD:DM w D):
  Calls Tryz.prog 72 #[.agg D.cD,.int .i64 st] w fun e w'=>e=.returned (.int .i64 (markF D st))/\Below w.heap.size w w':=by
 have HB:=hid (And.intro (DBx.new hD) (And.intro (al w (.cells D.cD 39)) hR))
 have hn2:=hR.n2
 have hmn:=hR.m
 clear hD hR
 go_enter Tryz.func72,Tryz.ntmps72
 go_upto_region 1 with fail
 generalize w.alloc (.cells D.cD 39)=W0 at HB⊢
 obtain⟨b0,hb0⟩:∃b0,w.heap.size=b0:=⟨_,rfl⟩
 have Hb0:=hid hb0
 rw[hb0] at HB
 rw[hb0]
 clear hb0
 have HEx:=hid (zbG D st W0 HB.out.1.dm)
 go_wp2_with (refine zad (by rfl) 39 _ rfl ⟨b0,0,none⟩ rfl D.cD _ HB.out.1.st.part Tryz.underlying39 rfl HB.out.1.dm.info ?_)
 refine HEx.out.mono ?_
 rintro e w2 ⟨rfl,b2⟩
 have HBx:=hid (HB.out.1.keep b2)
 have HF:Hid (Below w.heap.size w w2):=by
  rw[Hb0.out]
  exact HB.out.2.1.trans (b2.mono (by have:=HB.out.2.1.size;have:=Hb0.out;omega))
 clear b2 HEx
 by_cases hs:0<=st/\st<(D.n:Int)
 ·obtain⟨s,rfl⟩:∃s:Nat,st=(s:Int):=⟨st.toNat,by omega⟩
  have hsn:s<D.n:=by omega
  have HZ:Hid (decide (0<=(s:Int)/\(s:Int)<(D.n:Int))=true):=by show _=_;simp;omega
  have HV:Hid (markF D (s:Int)=D.q s):=by
   show _=_
   unfold markF
   rw[if_pos hs]
   rfl
  have f2:=HBx.out.f2
  obtain⟨gM,oM,eM,_,cM0⟩:=HBx.out.dm.rM (by omega)
  have cM:=cM0 s (by omega)
  rw[eM,hmn] at f2
  have i2:(s:Int)<(D.n:Int):=by omega
  have i3:¬((D.n:Int)<=(s:Int)):=by omega
  rw[HZ.out]
  have HeM:=hid eM
  clear eM cM0 hs hmn
  generalize D.q s=r at cM HV
  go_wp2_with fail
  go_ret
  exact⟨by rw[HV.out];first|rfl|simp,HF.out⟩
 ·have HZ:Hid (decide (0<=st/\st<(D.n:Int))=false):=by show _=_;simp;omega
  have HV:Hid (markF D st=-1):=by
   show _=_
   unfold markF
   rw[if_neg hs]
  rw[HZ.out]
  clear hs hmn
  go_wp2_with fail
  go_ret
  exact⟨by rw[HV.out];first|rfl|simp,HF.out⟩
theorem zlV (D:Dd) (C:Nat) (hR:DR D C) (st:Int) (s:ByteArray) (m:Nat) (hs:s.size=m) (hm:m<=1000000) (w:World) (hD:DM w D):
  Calls Tryz.prog 75 #[.agg D.cD,.int .i64 st,.string s] w fun e w'=>e=.returned (.int .i64 (runF D st (zof s) m))/\Below w.heap.size w w':=by
 have HB:=hid (And.intro (DBx.new hD) (And.intro (al w (.cells D.cD 39)) hR))
 have hss:=hs
 have HS:=hid hs
 clear hD hR hs
 go_enter Tryz.func75,Tryz.ntmps75
 go_upto_region 1 with fail
 generalize w.alloc (.cells D.cD 39)=W0 at HB⊢
 obtain⟨b0,hb0⟩:∃b0,w.heap.size=b0:=⟨_,rfl⟩
 have Hb0:=hid hb0
 rw[hb0] at HB
 rw[hb0]
 clear hb0
 go_wp2_with fail
 go_loopw [1,7,10] (fun v1 _ v wr=>∃(k:Nat),v=.int .i64 k/\k<=m/\v1=.int .i64 (runF D st (zof s) k)/\Hid (Below W0.heap.size W0 wr)) (fun _ _ v _=>m-(intOf v).toNat)
 case atStart=>exact⟨0,rfl,by omega,rfl,Below.refl _ _⟩
 case round=>
  obtain⟨k,rfl,hk,rfl,HX⟩:=hrel
  have HFw:Hid (∀W',Below W0.heap.size W0 W'->Below w.heap.size w W'):=fun W' h=>by
   rw[Hb0.out]
   exact HB.out.2.1.trans (h.mono (by have:=HB.out.2.1.size;have:=Hb0.out;omega))
  have HDd:Hid (runF D st (zof s) k=-1->runF D st (zof s) m=-1):=fun h=>zfZ D st _ h m hk
  by_cases hlt:k<m
  ·have hks:k<s.size:=by rw[hss];exact hlt
   obtain⟨bt,hbe⟩:∃bt,(s[k]'hks).toNat=bt:=⟨_,rfl⟩
   have hbz:=zhI s k hks
   rw[hbe] at hbz
   have hbt:bt<256:=by rw[hbz];exact zb5 s k
   have HSt:Hid (runF D st (zof s) (k+1)=stepF D (runF D st (zof s) k) bt):=by show stepF D (runF D st (zof s) k) (zof s k)=_;rw[<-hbz]
   have HDs:Hid (runF D st (zof s) (k+1)=-1->runF D st (zof s) m=-1):=fun h=>zfZ D st _ h m (by omega)
   have i1:(k:Int)<(m:Int):=by omega
   generalize runF D st (zof s) k=a at HSt HDd⊢
   have HSo:Hid (∀W',Below W0.heap.size W0 W'->Below W0.heap.size W0 W'/\DBx W' b0 D):=fun W' h=>⟨h,HB.out.1.keep h⟩
   clear hbz
   go_upto_region 4 with fail
   refine wp_region_held_drew (S:=fun W'=>Below W0.heap.size W0 W'/\DBx W' b0 D) (by kernel_rfl) (HSo.out _ HX.out.drew) (fun hHeld=>?_)
   (refine tkA 0 (v:=.agg D.cD) ?_ (hy:=by intro wz hSw;exact zar (o:=_) (ρ:=_) wz 39 (.tmp 3) rfl ⟨b0,0,none⟩ rfl D.cD _ (DBx.st (And.right hSw)).part Tryz.underlying39 rfl (DBx.dm (And.right hSw)).info))
   (refine tkA 1 ?_;refine tkA 2 ?_;refine tkA 3 ?_;refine tkA 4 ?_;try simp only[Act.put,sA,sB,sC])
   refine rd1 5 (fun K hK=>?_)
   ·skip
    go_simp
    go_at_call 108
    refine (zks D C HB.out.2.2 a bt hbt _ hHeld.2.dm).mono ?_
    rintro e wj ⟨rfl,vj⟩
    have hbn:Below W0.heap.size W0 wj:=hHeld.1.trans (vj.mono hHeld.1.size)
    clear vj
    try go_wp2_with fail
    refine hK.out _ _ (HSo.out _ hbn) (fun hHeld=>?_)
    clear hK K
    try simp only[Act.put,sA,sB,sC]
    (refine tkA 6 ?_;try simp only[Act.put,sA,sB,sC])
    refine wpAnyH_done (by kernel_rfl) ?_ _
    have HBn:=hid hbn
    clear hHeld hbn
    rw[<-HSt.out]
    have HF:=hid (HFw.out _ HBn.out)
    by_cases hd:runF D st (zof s) (k+1)=-1
    ·have HV:=hid (HDs.out hd)
     rw[hd]
     go_wp2_with fail
     go_ret
     exact⟨by rw[HV.out];first|rfl|simp,HF.out⟩
    ·have HR2:Hid (runF D st (zof s) (k+1)=runF D st (zof s) (k+1)):=rfl
     obtain⟨r,hr⟩:∃r,runF D st (zof s) (k+1)=r:=⟨_,rfl⟩
     have Hr:=hid hr
     rw[hr] at hd
     rw[hr]
     clear hr HR2 HSt
     go_wp2_with fail
     go_roundw
     case rel=>exact⟨k+1,by go_num,by omega,by rw[Hr.out],HBn⟩
     case measure=>simp[intOf];omega
  ·obtain rfl:k=m:=by omega
   have HF:=hid (HFw.out wr HX.out)
   clear HDd
   go_wp2_with fail
   go_ret
   exact⟨rfl,HF.out⟩
theorem zlW (D:Dd) (C:Nat) (hR:DR D C) (s:ByteArray) (m:Nat) (hs:s.size=m) (hm:m<=1000000) (w:World) (hD:DM w D):
  Calls Tryz.prog 49 #[.agg D.cD,.string s] w fun e w'=>e=.returned (.int .i64 (markF D (runF D 0 (zof s) m)))/\Below w.heap.size w w':=by
 have HB:=hid (And.intro (DBx.new hD) (And.intro (al w (.cells D.cD 39)) (And.intro hR hs)))
 clear hD hR hs
 go_enter Tryz.func49,Tryz.ntmps49
 go_upto_region 1 with fail
 generalize w.alloc (.cells D.cD 39)=W0 at HB⊢
 obtain⟨b0,hb0⟩:∃b0,w.heap.size=b0:=⟨_,rfl⟩
 have Hb0:=hid hb0
 rw[hb0] at HB
 rw[hb0]
 clear hb0
 have HFw:Hid (∀W',Below W0.heap.size W0 W'->Below w.heap.size w W'):=fun W' h=>by
  rw[Hb0.out]
  exact HB.out.2.1.trans (h.mono (by have:=HB.out.2.1.size;have:=Hb0.out;omega))
 have HSo:Hid (∀W',Below W0.heap.size W0 W'->Below W0.heap.size W0 W'/\DBx W' b0 D):=fun W' h=>⟨h,HB.out.1.keep h⟩
 refine wp_region_held_drew (S:=fun W'=>Below W0.heap.size W0 W'/\DBx W' b0 D) (by kernel_rfl) (HSo.out _ (Below.refl _ _).drew) (fun hHeld=>?_)
 (refine tkA 0 (v:=.agg D.cD) ?_ (hy:=by intro wz hSw;exact zar (o:=_) (ρ:=_) wz 39 (.tmp 2) rfl ⟨b0,0,none⟩ rfl D.cD _ (DBx.st (And.right hSw)).part Tryz.underlying39 rfl (DBx.dm (And.right hSw)).info))
 (refine tkA 1 (v:=.agg D.cD) ?_ (hy:=by intro wz hSw;exact zar (o:=_) (ρ:=_) wz 39 (.tmp 2) rfl ⟨b0,0,none⟩ rfl D.cD _ (DBx.st (And.right hSw)).part Tryz.underlying39 rfl (DBx.dm (And.right hSw)).info))
 (refine tkA 2 ?_;try simp only[Act.put,sA,sB,sC])
 refine rd1 3 (fun K hK=>?_)
 ·skip
  go_simp
  go_at_call 75
  refine (zlV D C HB.out.2.2.1 0 s m HB.out.2.2.2 hm _ hHeld.2.dm).mono ?_
  rintro e wj ⟨rfl,vj⟩
  have hbn:Below W0.heap.size W0 wj:=hHeld.1.trans (vj.mono hHeld.1.size)
  clear vj
  try go_wp2_with fail
  refine hK.out _ _ (HSo.out _ hbn) (fun hHeld=>?_)
  clear hK K
  try simp only[Act.put,sA,sB,sC]
  clear hbn
  refine rd1 4 (fun K hK=>?_)
  ·skip
   go_simp
   go_at_call 72
   refine (zf0 D C HB.out.2.2.1 (runF D 0 (zof s) m) _ hHeld.2.dm).mono ?_
   rintro e wk ⟨rfl,vk⟩
   have hbn:Below W0.heap.size W0 wk:=hHeld.1.trans (vk.mono hHeld.1.size)
   clear vk
   try go_wp2_with fail
   refine hK.out _ _ (HSo.out _ hbn) (fun hHeld=>?_)
   clear hK K
   try simp only[Act.put,sA,sB,sC]
   (refine tkA 5 ?_;try simp only[Act.put,sA,sB,sC])
   refine wpAnyH_done (by kernel_rfl) ?_ _
   have HF:=hid (HFw.out _ hbn)
   clear hHeld hbn
   go_wp2_with fail
   go_ret
   exact⟨rfl,HF.out⟩
def plF (l:List Nat) (t:Int):Int:=if t=-1 then -1 else ((l.idxOf t.toNat:Nat):Int)
def ordF (D:Dd) (l:List Nat) (i c:Nat):Int:=plF l (D.nx (l.getD i 0) c)
theorem znJ {l1 l2:List Nat}{x:Nat}(h:l1 <+: l2) (hx:x∈l1):l2.idxOf x=l1.idxOf x:=by
 obtain⟨t,rfl⟩:=h
 rw[List.idxOf_append,if_pos hx]
theorem zhO {D:Dd}{C:Nat}(hR:DR D C) (i:Nat):∀x∈wkN (rowsF D.len D.nx) [0] i,x<D.n:=by
 have h0:=hR.n1
 induction i with
 | zero=>intro x hx;rw[List.mem_singleton.1 hx];omega
 | succ i ih=>
  intro x hx
  have hx2:x∈wkS (rowsF D.len D.nx) (wkN (rowsF D.len D.nx) [0] i) i:=hx
  unfold wkS at hx2
  split at hx2
  ·rename_i h
   rw[zfa] at hx2
   rcases hx2 with h1|h1
   ·exact ih x h1
   ·have hm:(wkN (rowsF D.len D.nx) [0] i).getD i 0∈wkN (rowsF D.len D.nx) [0] i:=by
     rw[show (wkN (rowsF D.len D.nx) [0] i).getD i 0=(wkN (rowsF D.len D.nx) [0] i)[i] by simp[List.getD_eq_getElem?_getD,h]]
     exact List.getElem_mem h
    have hs:=ih _ hm
    generalize (wkN (rowsF D.len D.nx) [0] i).getD i 0=y at h1 hs
    unfold rowsF at h1
    obtain⟨c,hc,e⟩:=List.mem_map.1 h1
    have hc2:c<D.len y:=List.mem_range.1 hc
    exact hR.ed _ _ ⟨hs,c,hc2,e⟩
  ·exact ih x hx2
theorem zkt {D:Dd}{C:Nat}(hR:DR D C):∃k,(wkN (rowsF D.len D.nx) [0] k).length=k/\k<=D.n:=by
 have hb:∀i,(wkN (rowsF D.len D.nx) [0] i).length<=D.n:=fun i=>zax (zcN _ (by simp) i) (zhO hR i)
 have hp:∀i j,i<=j->(wkN (rowsF D.len D.nx) [0] i).length<=(wkN (rowsF D.len D.nx) [0] j).length:=fun i j h=>by
  induction j with
  | zero=>rw[show i=0 by omega];exact Nat.le_refl _
  | succ j ih=>
   by_cases e:i=j+1
   ·rw[e];exact Nat.le_refl _
   ·exact Nat.le_trans (ih (by omega)) (zfb _ _ j).length_le
 have key:∀m,(∃k,k<=m/\(wkN (rowsF D.len D.nx) [0] k).length=k)\/m<(wkN (rowsF D.len D.nx) [0] m).length:=by
  intro m
  induction m with
  | zero=>exact Or.inr (by simp[wkN])
  | succ m ih=>
   rcases ih with ⟨k,h1,h2⟩|h
   ·exact Or.inl ⟨k,by omega,h2⟩
   ·have:=hp m (m+1) (by omega)
    by_cases e:(wkN (rowsF D.len D.nx) [0] (m+1)).length=m+1
    ·exact Or.inl ⟨m+1,Nat.le_refl _,e⟩
    ·exact Or.inr (by omega)
 rcases key D.n with ⟨k,h1,h2⟩|h
 ·exact⟨k,h2,h1⟩
 ·have:=hb D.n
  omega
theorem zop {rows:Nat->List Int}{m:List Nat}{i k:Nat}(h:i<=k):wkN rows m i <+: wkN rows m k:=by
 induction k with
 | zero=>rw[show i=0 by omega];exact List.prefix_refl _
 | succ k ih=>
  by_cases e:i=k+1
  ·rw[e];exact List.prefix_refl _
  ·exact (ih (by omega)).trans (zfb rows m k)
section
variable {W0 : World}{b4 C : Nat}{K : Nat → Nat}{vN : Value}{R : List (List Int)}{ws : Nat → Value}{vK : Value}{ms : List Int}{vL : Value}{l : List Nat}{w : World}
end
section
variable {W0 : World}{b4 C z : Nat}{K : Nat → Nat}{vN : Value}{R : List (List Int)}{ws : Nat → Value}{vK : Value}{ms : List Int}{vL vW : Value}{l : List Nat}{row : List Int}{w : World}
end
theorem zaX {P:Program}{ops:Array Oper}{o:Oper}{a:Act}{w:World}{K:Act->World->Prop}{Q:Exit->Act->World->Prop}{E:Prop}(hgd:o.guard=none) (s x:Operand) (t:TypeId)
  (ho:o.op=.call { callee:=.builtin .append,args:=#[s,x],argTypes:=#[t,t] })
  (base:Nat) (e:TypeId) (i:TypeInfo) (z:Value) (size bytes:Nat) (ht:P.underlying t=some (.slice e)) (hi:P.info? e=some i) (hz:i.zero=some z)
  (hsize:i.size=size) (hby:i.bytes=bytes) (hzs:z.cells.size=size) (hsz:0<size)
  (v:Value) (n:Nat) (xs:List Value) (hs:a.eval s=v) (hown:w.ownsRow base e size v n xs)
  (ad:Addr) (m c:Nat) (news:List Value) (hx:a.eval x=.slice (some ad) m c) (hl:news.length=m*size) (hnews:∀j u,news[j]?=some u->w.cell? (ad.add j)=some u) (h1:∀u∈news,u.oneCell'=true)
  (h63:n+m<=maxLen) (hbytes:(n+m)*bytes<=140737488355328) (hbase:base<=w.heap.size)
  (h:∀v' w',w'.ownsRow base e size v' (n+m) (xs++news)->w.grownBy w' v.ownBlock->(v'.ownBlock=v.ownBlock\/v'.ownBlock=some w.heap.size)->K (a.put o.dst v') w'):
  if Region.wanted o (yielded ops a.tmps)=true then Oper.wp P o a w K Q else E:=by
 have hw:Region.wanted o (yielded ops a.tmps)=true:=by simp[Region.wanted,hgd]
 rw[if_pos hw]
 obtain⟨v',w',hr,h2,h3,_,h5⟩:=run_append_own_at (P:=P) w base t o.type e i z size bytes ht hi hz hsize hby hzs hsz v n xs hown ad m c news hl hnews h1 h63 hbytes hbase
 unfold Oper.wp execOp
 simp only[ho,resolve,invoke,builtin,Sem.run_bind,Sem.run_pure,Result.andThen_ok,List.map_toArray,List.map_cons,List.map_nil,hs,hx,hr]
 exact h v' w' h2 h3 h5
def rwO (D:Dd) (C:Nat) (l:List Nat) (i:Nat):List (List Int):=(List.range i).map fun j=>(List.range C).map (ordF D l j)
def mkO (D:Dd) (l:List Nat) (i:Nat):List Int:=(List.range i).map fun j=>D.q (l.getD j 0)
theorem zcp (D:Dd) (C:Nat) (l:List Nat) (i:Nat):(rwO D C l i).length=i:=by simp[rwO]
theorem ze8 (D:Dd) (l:List Nat) (i:Nat):(mkO D l i).length=i:=by simp[mkO]
theorem zlX (D:Dd) (C:Nat) (l:List Nat) (i:Nat):rwO D C l (i+1)=rwO D C l i++[(List.range C).map (ordF D l i)]:=by
 unfold rwO
 rw[List.range_succ,List.map_append];rfl
theorem zlY (D:Dd) (l:List Nat) (i:Nat):mkO D l (i+1)=mkO D l i++[D.q (l.getD i 0)]:=by
 unfold mkO
 rw[List.range_succ,List.map_append];rfl
theorem zdO:∀(args:Array Value) (W:World),(callFunc 87 args).run Tryz.prog W=.ok (.enter 87 args) W:=fun _ _=>by rfl
def nmF (f:Nat->Nat) (n:Nat):List Value:=(List.range n).map fun y=>Value.int .i64 ((f y:Nat):Int)
theorem znK (f:Nat->Nat) (n x v:Nat):(nmF f n).set x (.int .i64 (v:Int))=nmF (fun y=>if y=x then v else f y) n:=by
 unfold nmF
 apply List.ext_getElem?
 intro i
 rw[List.getElem?_set]
 by_cases e:x=i
 ·subst e
  by_cases h:x<n
  ·simp[h]
  ·simp[h]
 ·rw[if_neg e]
  by_cases h:i<n
  ·simp[h,Ne.symm e,show ¬i=x from fun h=>e h.symm]
  ·simp[h]
theorem zlZ (n:Nat):List.replicate n (Value.int .i64 0)=nmF (fun _=>0) n:=by
 unfold nmF
 apply List.ext_getElem?
 intro i
 by_cases h:i<n <;> simp[h]
theorem zer (b5 n g:Nat) (f:Nat->Nat) (w:World) (hS:St w 30 b5 #[.slice (some ⟨g,0,none⟩) n n]) (hc:∀x,x<n->w.cell? ⟨g,x,none⟩=some (.int .i64 ((f x:Nat):Int))) (x:Nat) (hx:x<n):
  Calls Tryz.prog 87 #[.int .i64 (x:Int),.pointer (some ⟨b5,0,none⟩)] w fun e w'=>e=.returned (.int .i64 ((f x:Nat):Int))/\w'=w:=by
 have c0:w.cell? ⟨b5,0,none⟩=some (.slice (some ⟨g,0,none⟩) n n):=hS.at_ 0
 have d0:=hc x hx
 have i1:(x:Int)<(n:Int):=by omega
 clear hc
 go_enter Tryz.func87,Tryz.ntmps87
 go_wp2_with fail
 go_ret
 exact⟨rfl,rfl⟩
theorem zf1 (D:Dd) (C:Nat) (l:List Nat) (k:Nat) (hl:l=wkN (rowsF D.len D.nx) [0] k) (hlk:l.length=k) (hkn:k<=D.n) (w:World) (hD:DM w D) (hR:DR D C):
  Calls Tryz.prog 55 #[.agg D.cD] w (DfP D C k (ordF D l) (fun i=>D.q (l.getD i 0)) w):=by
 have hmf:∀(fn:Fn) (first cap:Array Value) (w:World),(Instr.makeFunc fn first cap).run Tryz.prog w=.ok (.func fn first cap) w:=fun _ _ _ _=>rfl
 have hn2:=hR.n2
 have hn1:=hR.n1
 have hmn:=hR.m
 have hC6:=(hR.c256 hD.kl).2
 have hmk:=zbI D.n (by omega)
 have HB:=hid (And.intro (DBx.new hD) (And.intro (al w (.cells D.cD 39)) hR))
 have HL:=hid (And.intro hl hlk)
 obtain⟨iI,hI,hI0,hI1,hI2⟩:=info_parts Tryz.info_int9
 obtain⟨iV,hV,hV0,hV1,hV2⟩:=info_parts Tryz.info_ints
 clear hD hR hl hlk
 go_enter Tryz.func55,Tryz.ntmps55
 go_upto_region 1 with (refine zap rfl 39 rfl (zC 39) (zat _) ?_)
 simp only[Act.put,List.setIfInBounds_toArray,List.set_cons_zero,List.set_cons_succ,zb8]
 have H0:Hid (DBx ((w.alloc (.cells D.cD 39)).alloc (.cells (zC 39) 39)) w.heap.size D/\St ((w.alloc (.cells D.cD 39)).alloc (.cells (zC 39) 39)) 39 (w.heap.size+1) (zC 39)/\Below w.heap.size w ((w.alloc (.cells D.cD 39)).alloc (.cells (zC 39) 39))):=by
  refine⟨HB.out.1.keep (al _ _),?_,HB.out.2.1.trans ((al _ _).mono (by simp))⟩
  have:=St.new (w.alloc (.cells D.cD 39)) 39 (zC 39)
  simpa using this
 generalize (w.alloc (.cells D.cD 39)).alloc (.cells (zC 39) 39)=Wb at H0⊢
 obtain⟨b2,hb2⟩:∃b2,w.heap.size+1=b2:=⟨_,rfl⟩
 obtain⟨b0,hb0⟩:∃b0,w.heap.size=b0:=⟨_,rfl⟩
 rw[hb2,hb0] at H0
 rw[hb2,hb0]
 have Hb:=hid (And.intro hb0 hb2)
 clear hb2 hb0
 have HRy:=hid (zbH D C HB.out.2.2 Wb H0.out.1.dm)
 go_wp2_with (refine zad (by rfl) 39 _ rfl ⟨b0,0,none⟩ rfl D.cD _ H0.out.1.st.part Tryz.underlying39 rfl H0.out.1.dm.info ?_)
 refine HRy.out.mono ?_
 rintro e wy ⟨rfl,by_⟩
 have H1:Hid (DBx wy b0 D/\St wy 39 b2 (zC 39)/\Below b0 w wy):=⟨H0.out.1.keep by_,H0.out.2.1.keep by_,H0.out.2.2.trans (by_.mono (by have:=H0.out.2.2.size;have:=Hb.out.1;omega))⟩
 have hbwy:Hid (b0<=wy.heap.size):=by have h1:=H0.out.2.2.size;have h2:=by_.size;have h3:=Hb.out.1;show _<=_;omega
 have f1:=H1.out.1.f1
 have k1:=al wy (.cells #[.int .i64 0] 3)
 have HWk:=hid (zfc D.n D.cN D.aN D.A D.Cp D.len D.nx [0] (some ⟨wy.heap.size,0,none⟩) 1 1 (by omega) (fun i hi=>by rw[HB.out.2.2.len i hi];omega) (fun i c hi hc=>HB.out.2.2.nx i c hi (by rw[<-HB.out.2.2.len i hi];exact hc)) rfl (by simp) (fun x hx=>by rw[List.mem_singleton.1 hx];omega) (wy.alloc (.cells #[.int .i64 0] 3)) (H1.out.1.keep k1).dm.rN (za7 (zbM wy wy.heap.size 3 1 #[.int .i64 0] 1 rfl (Nat.le_refl _) (by decide)) rfl) (fun h=>by cases h) (fun ad h=>by injection h with h;rw[<-h]))
 have Hk1:=hid k1
 clear by_ HRy k1
 go_wp2_with fail
 refine HWk.out.mono ?_
 rintro e w3 ⟨l9,i9,aL,cL,rfl,hoL,hl9,hi9,_,hlt9,b3⟩
 have hk9:l9=l/\i9=k:=by
  have h1:(wkN (rowsF D.len D.nx) [0] i9).length=i9:=by rw[<-hl9];exact hi9
  have h2:=zl4 (rowsF D.len D.nx) [0] h1 (by rw[<-HL.out.1];exact HL.out.2:(wkN (rowsF D.len D.nx) [0] k).length=k)
  have h3:l9=l:=by rw[hl9,h2,<-HL.out.1]
  exact⟨h3,by rw[<-hi9,h3];exact HL.out.2⟩
 obtain⟨rfl,rfl⟩:=hk9
 have HNd:Hid (l9.Nodup/\(∀x∈l9,x<D.n)):=⟨by rw[HL.out.1];exact zcN _ (by simp) _,hlt9⟩
 have H3:Hid (DBx w3 b0 D/\St w3 39 b2 (zC 39)/\Below b0 w w3/\LAt w3 aL l9):=by
  have k2:=Hk1.out.trans (b3.mono Hk1.out.size)
  exact⟨H1.out.1.keep k2,H1.out.2.1.keep k2,H1.out.2.2.trans (k2.mono hbwy.out),za7 hoL hi9⟩
 have hbw3:Hid (b0<=w3.heap.size):=by have h1:=Hk1.out.size;have h2:=b3.size;have h3:=hbwy.out;show _<=_;omega
 clear hoL hl9 hi9 hlt9 b3 HWk f1
 have f1:=H3.out.1.f1
 have HNu:Hid ((w3.alloc (.cells (madeCells #[.int .i64 0] D.n) 3)).ownsRow w3.heap.size 3 1 (.slice (some ⟨w3.heap.size,0,none⟩) D.n D.n) D.n (nmF (fun _=>0) D.n)):=by
  have h:=zbO w3 w3.heap.size D.n 3 (.int .i64 0) (Nat.le_refl _) (by unfold maxLen;omega)
  rw[zlZ] at h
  exact h
 have k3:=al w3 (.cells (madeCells #[.int .i64 0] D.n) 3)
 go_upto_region 5 with fail
 have k4:=al (w3.alloc (.cells (madeCells #[.int .i64 0] D.n) 3)) (.cells #[.slice (some ⟨w3.heap.size,0,none⟩) D.n D.n] 30)
 have HN5:Hid (((w3.alloc (.cells (madeCells #[.int .i64 0] D.n) 3)).alloc (.cells #[.slice (some ⟨w3.heap.size,0,none⟩) D.n D.n] 30)).ownsRow w3.heap.size 3 1 (.slice (some ⟨w3.heap.size,0,none⟩) D.n D.n) D.n (nmF (fun _=>0) D.n)/\St ((w3.alloc (.cells (madeCells #[.int .i64 0] D.n) 3)).alloc (.cells #[.slice (some ⟨w3.heap.size,0,none⟩) D.n D.n] 30)) 30 (w3.heap.size+1) #[.slice (some ⟨w3.heap.size,0,none⟩) D.n D.n]/\Below w3.heap.size w3 ((w3.alloc (.cells (madeCells #[.int .i64 0] D.n) 3)).alloc (.cells #[.slice (some ⟨w3.heap.size,0,none⟩) D.n D.n] 30))):=by
  refine⟨zab HNu.out k4,?_,k3.trans (k4.mono k3.size)⟩
  have:=St.new (w3.alloc (.cells (madeCells #[.int .i64 0] D.n) 3)) 30 #[.slice (some ⟨w3.heap.size,0,none⟩) D.n D.n]
  simpa using this
 generalize (w3.alloc (.cells (madeCells #[.int .i64 0] D.n) 3)).alloc (.cells #[.slice (some ⟨w3.heap.size,0,none⟩) D.n D.n] 30)=W5 at HN5⊢
 obtain⟨b5,hb5⟩:∃b5,w3.heap.size+1=b5:=⟨_,rfl⟩
 obtain⟨gU,hgU⟩:∃gU,w3.heap.size=gU:=⟨_,rfl⟩
 rw[hb5,hgU] at HN5
 rw[hb5,hgU]
 have HgU:=hid hgU
 clear hb5 hgU k3 k4 HNu f1
 obtain⟨gL,oL,rfl,hgL,cL0⟩:=H3.out.2.2.2 (by
  have h:=(zdi (rowsF D.len D.nx) [0] i9).length_le
  rw[<-HL.out.1] at h
  exact h)
 have HcL:=hid cL0
 have Hgl:=hid hgL
 clear cL0 hgL
 have HLn:=hid HL.out.2
 go_wp2_with fail
 go_loopw [5,6,24] (fun _ _ v wr=>∃(j:Nat) (f:Nat->Nat),v=.int .i64 j/\j<=i9/\Hid (wr.ownsRow gU 3 1 (.slice (some ⟨gU,0,none⟩) D.n D.n) D.n (nmF f D.n)/\St wr 30 b5 #[.slice (some ⟨gU,0,none⟩) D.n D.n]/\Below gU w3 wr/\∀j',j'<j->f (l9.getD j' 0)=j')) (fun _ _ v _=>i9-(intOf v).toNat)
 case atStart=>exact⟨0,_,rfl,by omega,⟨HN5.out.1,HN5.out.2.1,HN5.out.2.2,fun j' h=>by omega⟩⟩
 case round=>
  clear HN5
  obtain⟨j,f,rfl,hj,HA⟩:=hrel
  have hBw:Below w3.heap.size w3 wr:=by rw[HgU.out];exact HA.out.2.2.1
  by_cases hlt:j<i9
  ·have hjl:j<l9.length:=by rw[HLn.out];exact hlt
   have d0:=(hBw.cell (p:=⟨gL,oL+j,none⟩) Hgl.out).trans (HcL.out j hjl)
   have hx1:l9.getD j 0=l9[j]:=by simp[List.getD_eq_getElem?_getD,hjl]
   have hxn:l9.getD j 0<D.n:=by rw[hx1];exact HNd.out.2 _ (List.getElem_mem hjl)
   have HS:Hid (∀j',j'<j+1->(fun y=>if y=l9.getD j 0 then j else f y) (l9.getD j' 0)=j'):=fun j' h=>by
    by_cases e:j'=j
    ·subst e;simp
    ·have h2:j'<l9.length:=by omega
     have hne:¬l9.getD j' 0=l9.getD j 0:=fun h3=>by
      exact e (zi2 HNd.out.1 h2 hjl h3)
     simp only[if_neg hne]
     exact HA.out.2.2.2 j' (by omega)
   obtain⟨g9,e9,_,_,c9⟩:=zae HA.out.1 (by omega)
   obtain rfl:g9=gU:=by
    injection e9 with e9
    injection e9 with e9 _
    exact e9.symm
   have e5:wr.cell? ⟨b5,0,none⟩=some (.slice (some ⟨g9,0,none⟩) D.n D.n):=HA.out.2.1.at_ 0
   try dsimp only at d0
   clear hx1
   generalize l9.getD j 0=x at d0 hxn HS
   obtain⟨y0,y1⟩:=c9 x (by omega)
   have y2:(nmF f D.n)[x]?=some (.int .i64 ((f x:Nat):Int)):=by simp[nmF,hxn]
   rw[y2] at y0
   have HP:Hid ((wr.setCell ⟨g9,x,none⟩ (.int .i64 (j:Int))).ownsRow g9 3 1 (.slice (some ⟨g9,0,none⟩) D.n D.n) D.n (nmF (fun y=>if y=x then j else f y) D.n)/\St (wr.setCell ⟨g9,x,none⟩ (.int .i64 (j:Int))) 30 b5 #[.slice (some ⟨g9,0,none⟩) D.n D.n]/\Below g9 w3 (wr.setCell ⟨g9,x,none⟩ (.int .i64 (j:Int)))):=by
    refine⟨?_,HA.out.2.1.far (p:=⟨g9,x,none⟩) (fun h=>zaq HA.out.1 HA.out.2.1 (by decide) g9 rfl h.symm) _,HA.out.2.2.1.setCell (p:=⟨g9,x,none⟩) (Nat.le_refl _) _⟩
    have:=za9 HA.out.1 x hxn (.int .i64 (j:Int))
    rwa [znK] at this
   have i1:(j:Int)<(i9:Int):=by omega
   have i2:(x:Int)<(D.n:Int):=by omega
   clear c9 e9 y2 hBw
   go_wp2_with fail
   go_roundw
   case rel=>exact⟨j+1,_,by go_num,by omega,⟨HP.out.1,HP.out.2.1,HP.out.2.2,HS.out⟩⟩
   case measure=>simp[intOf];omega
  ·obtain rfl:j=i9:=by omega
   obtain⟨Wn,rfl⟩:∃Wn,Wn=wr:=⟨wr,rfl⟩
   have HN:Hid (DBx Wn b0 D/\St Wn 39 b2 (zC 39)/\Below b0 w Wn/\St Wn 30 b5 #[.slice (some ⟨gU,0,none⟩) D.n D.n]/\b0<=Wn.heap.size):=⟨H3.out.1.keep hBw,H3.out.2.1.keep hBw,H3.out.2.2.1.trans (hBw.mono hbw3.out),HA.out.2.1,Nat.le_trans hbw3.out hBw.size⟩
   have HcN:Hid (∀x,x<D.n->Wn.cell? ⟨gU,x,none⟩=some (.int .i64 ((f x:Nat):Int))):=fun x hx=>by
    obtain⟨g9,e9,_,_,c9⟩:=zae HA.out.1 (by omega)
    have e8:g9=gU:=by
     injection e9 with e9
     injection e9 with e9 _
     exact e9.symm
    subst e8
    rw[(c9 x (by omega)).1]
    simp[nmF,hx]
   have HFi:Hid (∀x∈l9,f x=l9.idxOf x):=fun x hx=>by
    have h1:l9.idxOf x<l9.length:=List.idxOf_lt_length_iff.2 hx
    have h2:=HA.out.2.2.2 (l9.idxOf x) (by have:=HLn.out;omega)
    rw[show l9.getD (l9.idxOf x) 0=l9[l9.idxOf x] by simp[List.getD_eq_getElem?_getD,h1],List.getElem_idxOf h1] at h2
    exact h2
   have hglw:Hid (gL<Wn.heap.size/\gU<Wn.heap.size):=by
    refine⟨Nat.lt_of_lt_of_le Hgl.out hBw.size,?_⟩
    obtain⟨g9,e9,_,h9,_⟩:=zae HA.out.1 (by omega)
    injection e9 with e9
    injection e9 with e9 _
    rw[e9];exact h9
   have HcLn:Hid (∀i,i<j->Wn.cell? ⟨gL,oL+i,none⟩=some (.int .i64 ((l9.getD i 0:Nat):Int))):=fun i hi=>(hBw.cell (p:=⟨gL,oL+i,none⟩) Hgl.out).trans (HcL.out i (by rw[HLn.out];exact hi))
   clear HA hBw
   have HBx:=hid HN.out.1
   have k5:=al Wn (.cells (zC 39) 39)
   have hst4:St (Wn.alloc (.cells (zC 39) 39)) 39 Wn.heap.size (zC 39):=St.new _ _ _
   have hTr:TrA Wn Wn.heap.size D.K C (.slice none 0 0) (rwO D C l9 0) (fun _=>.slice none 0 0) (.slice none 0 0) (mkO D l9 0) ((Wn.alloc (.cells (zC 39) 39)).setRow Wn.heap.size (dfC D.K (.slice none 0 0) (.slice none 0 0))):=TrA.start (V0:=Wn) (K:=D.K) (C:=C) (ws:=fun _=>.slice none 0 0) (a:=none) (c:=0) (ms:=[]) (World.ownsRow_nil _ _ _ _) rfl k5 hst4 (Nat.le_refl _)
   have HT0:=hid hTr
   have HSt4:=hid hst4
   clear k5 hst4 hTr
   go_upto_region 11 with (first
    | (refine zam rfl 36 _ rfl ⟨b0,0,none⟩ rfl (clsOf D.K) (.array 256 5) HBx.out.clsPart Tryz.underlying36 rfl (zaK D.K) ?_)
    | (refine zaF rfl 39 _ rfl #[(0,.agg (clsOf D.K))] (by first|rfl|kernel_rfl|(go_simp;done)) (.agg (dfC D.K (.slice none 0 0) (.slice none 0 0))) (zes D.K _) ?_)
    | (refine zap rfl 39 rfl (zC 39) (zat _) ?_)
    | (refine zaf rfl 39 _ _ rfl Wn.heap.size 39 (zC 39) (dfC D.K (.slice none 0 0) (.slice none 0 0)) rfl rfl HSt4.out (by rw[zak,zay]) (by rw[zah,zay]) (zba _ _ _ _ _ _ _) ?_))
   simp only[Act.put,sA,sB,sC]
   obtain⟨b4,hb4⟩:∃b4,Wn.heap.size=b4:=⟨_,rfl⟩
   have Hb4:=hid hb4
   rw[hb4] at HT0
   rw[hb4]
   generalize (Wn.alloc (.cells (zC 39) 39)).setRow b4 (dfC D.K (.slice none 0 0) (.slice none 0 0))=W4 at HT0⊢
   clear hb4 HSt4
   have i4:j<=32768:=by omega
   go_wp2_with fail
   go_loopw [9,39] (fun _ v wr=>∃(i:Nat) (ws:Nat->Value) (aN aK:Option Addr) (cN cK:Nat),v=.int .i64 i/\i<=j/\Hid (TrA Wn b4 D.K C (.slice aN i cN) (rwO D C l9 i) ws (.slice aK i cK) (mkO D l9 i) wr)) (fun _ v _=>j-(intOf v).toNat)
   case atStart=>exact⟨0,_,none,none,0,0,rfl,by omega,HT0⟩
   case round=>
    clear HT0
    obtain⟨i,ws,aN,aK,cN,cK,rfl,hi,HT⟩:=hrel
    by_cases hlt:i<j
    ·have hil:i<l9.length:=by rw[HLn.out];exact hlt
     have d0:=(HT.out.bel.cell (p:=⟨gL,oL+i,none⟩) hglw.out.1).trans (HcLn.out i hlt)
     have hx1:l9.getD i 0=l9[i]:=by simp[List.getD_eq_getElem?_getD,hil]
     have hxn:l9.getD i 0<D.n:=by rw[hx1];exact HNd.out.2 _ (List.getElem_mem hil)
     have HRow:Hid ((List.range C).map (mvF (D.nx (l9.getD i 0)) (fun y=>((f y:Nat):Int)))=(List.range C).map (ordF D l9 i)):=by
      show _=_
      refine List.map_congr_left fun c hc=>?_
      have hc2:c<C:=by simpa using hc
      have hb:=HB.out.2.2.nx (l9.getD i 0) c hxn hc2
      unfold mvF ordF plF
      by_cases h1:D.nx (l9.getD i 0) c=-1
      ·rw[if_pos h1,if_pos h1]
      ·rw[if_neg h1,if_neg h1]
       have hm:(D.nx (l9.getD i 0) c).toNat∈l9:=by
        have h2:=zhR (rowsF D.len D.nx) [0] j i hlt (by rw[<-HL.out.1];exact hil) (D.nx (l9.getD i 0) c).toNat (by
         unfold WE rowsF
         have e7:(wkN (rowsF D.len D.nx) [0] j)[i]'(by rw[<-HL.out.1];exact hil)=l9.getD i 0:=by
          rw[hx1]
          congr 1
          exact HL.out.1.symm
         unfold rowsF at e7
         rw[e7,HB.out.2.2.len _ hxn]
         refine List.mem_map.2 ⟨c,by simpa using hc2,?_⟩
         omega)
        rw[<-HL.out.1] at h2
        exact h2
       dsimp only
       rw[HFi.out _ hm]
     have hMk:Hid (mkO D l9 (i+1)=mkO D l9 i++[D.q (l9.getD i 0)]):=zlY D l9 i
     have hRs:Hid (rwO D C l9 (i+1)=rwO D C l9 i++[(List.range C).map (ordF D l9 i)]):=zlX D C l9 i
     have i1:(i:Int)<(j:Int):=by omega
     try dsimp only at d0
     clear hx1 hil
     generalize l9.getD i 0=x at d0 hxn HRow hMk
     have i2:(x:Int)<(D.n:Int):=by omega
     obtain⟨gM,oM,eM,hgM,cM0⟩:=HN.out.1.dm.rM (by omega)
     have hf2:=HN.out.1.f2
     rw[eM] at hf2
     have i3:(x:Int)<(D.m:Int):=by omega
     have cM1:=cM0 x (by omega)
     have HSo:Hid (∀W',Below Wn.heap.size Wn W'->Below Wn.heap.size Wn W'/\W'.cell? ⟨b0,257,none⟩=some (.slice (some ⟨gM,oM,none⟩) D.m D.cM)/\W'.cell? ⟨gM,oM+x,none⟩=some (.int .i64 (D.q x))):=fun W' h=>⟨h,(h.cell (p:=⟨b0,257,none⟩) HN.out.1.st.lt).trans hf2,(h.cell (p:=⟨gM,oM+x,none⟩) hgM).trans cM1⟩
     clear eM hgM cM0 hf2 cM1
     generalize D.q x=qx at HSo hMk
     go_upto_region 14 with fail
     clear d0
     go_cut [9] from 43 to 52 (fun v wx=>v=.int .i64 (x:Int)/\∃(a9:Option Addr) (c9:Nat),TrA Wn b4 D.K C (.slice aN i cN) (rwO D C l9 i) ws (.slice a9 (i+1) c9) (mkO D l9 (i+1)) wx)
     case first=>
      refine wp_region_held_drew (S:=fun W'=>Below Wn.heap.size Wn W'/\W'.cell? ⟨b0,257,none⟩=some (.slice (some ⟨gM,oM,none⟩) D.m D.cM)/\W'.cell? ⟨gM,oM+x,none⟩=some (.int .i64 qx)) (by kernel_rfl) (HSo.out _ HT.out.bel.drew) (fun hHeld=>?_)
      have HO:Hid (TrA Wn b4 D.K C (.slice aN i cN) (rwO D C l9 i) ws (.slice aK i cK) (mkO D l9 i) wr.drew):=HT.out.keep (Below.refl _ _).drew
      (refine tkA 0 ?_;refine tkA 2 ?_;refine tkA 3 ?_;refine tkA 4 ?_;refine tkA 5 ?_;refine tkA 6 ?_;try simp only[Act.put,sA,sB,sC])
      refine wpAnyH_ready (rs:=[1,7]) (by kernel_rfl) (by simp) ?_
      refine arC (fun K hK=>?_) ?_
      ·skip
       have f2:=HO.out.f2
       go_simp
       refine hK.out _ _ (hHeld) (fun hHeld=>?_)
       clear hK K
       try simp only[Act.put,sA,sB,sC]
       clear f2
       refine rd1 7 (fun K hK=>?_)
       ·skip
        go_simp
        have kk:=al wr.drew (.cells #[.int .i64 qx] 3)
        have HNw:Hid (∀j u,[Value.int .i64 qx][j]?=some u->((wr.alloc (.cells #[.int .i64 qx] 3)).drew).cell? ((⟨wr.heap.size,0,none⟩:Addr).add j)=some u):=cell_one_new wr.drew _ _
        have HO:Hid (TrA Wn b4 D.K C (.slice aN i cN) (rwO D C l9 i) ws (.slice aK i cK) (mkO D l9 i) ((wr.alloc (.cells #[.int .i64 qx] 3)).drew)):=HO.out.keep kk
        refine hK.out _ _ (HSo.out _ HO.out.bel) (fun hHeld=>?_)
        clear hK K
        try simp only[Act.put,sA,sB,sC]
        clear kk
        generalize (wr.alloc (.cells #[.int .i64 qx] 3)).drew=V5 at HNw HO hHeld⊢
        refine rd1 8 (fun K hK=>?_)
        ·skip
         have hO:=HO.out.mks
         rw[ze8] at hO
         refine zaX (by rfl) _ _ _ (by rfl) Wn.heap.size 3 iI (.int .i64 0) 1 8 Tryz.underlying30 hI hI0 hI1 hI2 (by rfl) (by decide) _ i (ints (mkO D l9 i)) (by rfl) hO ⟨wr.heap.size,0,none⟩ 1 1 [.int .i64 qx] (by rfl) (by rfl) HNw.out (by intro u hu;simp at hu;subst hu;rfl) (by unfold maxLen;omega) (by omega) HO.out.bel.size ?_
         intro v6 w6 hown6 hgrow6 hat6
         obtain⟨a9,c9,rfl⟩:=zaa hown6
         have HO8:=hid (HO.out.addMark (vK':=.slice a9 (i+1) c9) (ze8 D l9 i) hown6 hgrow6 hat6)
         have h9:=HO.out.st.grown_own HO.out.mks (by decide) hgrow6
         have z2:w6.cell? ⟨b4,257,none⟩=some (.slice aK i cK):=by rw[h9.at_,zci]
         have z3:w6.frozen? ⟨b4,257,none⟩=false:=h9.thaw_ 257
         have hb6:=zac HO.out.bel HO.out.mks HO.out.bel.size hgrow6
         clear hown6 hgrow6 hat6 h9 hO
         refine hK.out _ _ (HSo.out _ hb6) (fun hHeld=>?_)
         clear hK K
         try simp only[Act.put,sA,sB,sC]
         (refine tkA 9 ?_;try simp only[Act.put,sA,sB,sC])
         refine rd1 10 (fun K hK=>?_)
         ·skip
          go_simp
          refine hK.out _ _ (HSo.out _ HO8.out.bel) (fun hHeld=>?_)
          clear hK K
          try simp only[Act.put,sA,sB,sC]
          refine wpAnyH_done (by kernel_rfl) ?_ _
          rw[<-hMk.out] at HO8
          clear hHeld z2 z3 hb6
          go_wp2_with fail
          go_meet
          exact⟨rfl,a9,c9,HO8.out⟩
      refine arC (fun K hK=>?_) ?_
      ·skip
       go_simp
       have kk:=al wr.drew (.cells #[.int .i64 qx] 3)
       have HNw:Hid (∀j u,[Value.int .i64 qx][j]?=some u->((wr.alloc (.cells #[.int .i64 qx] 3)).drew).cell? ((⟨wr.heap.size,0,none⟩:Addr).add j)=some u):=cell_one_new wr.drew _ _
       have HO:Hid (TrA Wn b4 D.K C (.slice aN i cN) (rwO D C l9 i) ws (.slice aK i cK) (mkO D l9 i) ((wr.alloc (.cells #[.int .i64 qx] 3)).drew)):=HO.out.keep kk
       refine hK.out _ _ (HSo.out _ HO.out.bel) (fun hHeld=>?_)
       clear hK K
       try simp only[Act.put,sA,sB,sC]
       clear kk
       generalize (wr.alloc (.cells #[.int .i64 qx] 3)).drew=V5 at HNw HO hHeld⊢
       refine rd1 1 (fun K hK=>?_)
       ·skip
        have f2:=HO.out.f2
        go_simp
        refine hK.out _ _ (hHeld) (fun hHeld=>?_)
        clear hK K
        try simp only[Act.put,sA,sB,sC]
        clear f2
        refine rd1 8 (fun K hK=>?_)
        ·skip
         have hO:=HO.out.mks
         rw[ze8] at hO
         refine zaX (by rfl) _ _ _ (by rfl) Wn.heap.size 3 iI (.int .i64 0) 1 8 Tryz.underlying30 hI hI0 hI1 hI2 (by rfl) (by decide) _ i (ints (mkO D l9 i)) (by rfl) hO ⟨wr.heap.size,0,none⟩ 1 1 [.int .i64 qx] (by rfl) (by rfl) HNw.out (by intro u hu;simp at hu;subst hu;rfl) (by unfold maxLen;omega) (by omega) HO.out.bel.size ?_
         intro v6 w6 hown6 hgrow6 hat6
         obtain⟨a9,c9,rfl⟩:=zaa hown6
         have HO8:=hid (HO.out.addMark (vK':=.slice a9 (i+1) c9) (ze8 D l9 i) hown6 hgrow6 hat6)
         have h9:=HO.out.st.grown_own HO.out.mks (by decide) hgrow6
         have z2:w6.cell? ⟨b4,257,none⟩=some (.slice aK i cK):=by rw[h9.at_,zci]
         have z3:w6.frozen? ⟨b4,257,none⟩=false:=h9.thaw_ 257
         have hb6:=zac HO.out.bel HO.out.mks HO.out.bel.size hgrow6
         clear hown6 hgrow6 hat6 h9 hO
         refine hK.out _ _ (HSo.out _ hb6) (fun hHeld=>?_)
         clear hK K
         try simp only[Act.put,sA,sB,sC]
         (refine tkA 9 ?_;try simp only[Act.put,sA,sB,sC])
         refine rd1 10 (fun K hK=>?_)
         ·skip
          go_simp
          refine hK.out _ _ (HSo.out _ HO8.out.bel) (fun hHeld=>?_)
          clear hK K
          try simp only[Act.put,sA,sB,sC]
          refine wpAnyH_done (by kernel_rfl) ?_ _
          rw[<-hMk.out] at HO8
          clear hHeld z2 z3 hb6
          go_wp2_with fail
          go_meet
          exact⟨rfl,a9,c9,HO8.out⟩
      exact AllReadyH.nil
     case rest=>
      obtain⟨rfl,a9,c9,hT9⟩:=hcut
      have HT9:=hid hT9
      clear hT9 HT
      obtain⟨gN,oN,eN,hgN,cN0⟩:=HN.out.1.dm.rN (by omega)
      have hf1:=HN.out.1.f1
      rw[eN] at hf1
      obtain⟨cN1,zN⟩:=cN0 x hxn
      have hlen:=HB.out.2.2.len x hxn
      rw[hlen] at cN1 zN
      have HzN:=hid zN
      have HSo2:Hid (∀W',Below Wn.heap.size Wn W'->Below Wn.heap.size Wn W'/\W'.cell? ⟨b0,256,none⟩=some (.slice (some ⟨gN,oN,none⟩) D.n D.cN)/\W'.cell? ⟨gN,oN+x,none⟩=some (.slice (D.A x) C (D.Cp x))):=fun W' h=>⟨h,(h.cell (p:=⟨b0,256,none⟩) HN.out.1.st.lt).trans hf1,(h.cell (p:=⟨gN,oN+x,none⟩) hgN).trans cN1⟩
      clear eN hgN cN0 hf1 cN1 zN hlen HSo
      go_upto_region 15 with fail
      refine wp_region_held_drew (S:=fun W'=>Below Wn.heap.size Wn W'/\W'.cell? ⟨b0,256,none⟩=some (.slice (some ⟨gN,oN,none⟩) D.n D.cN)/\W'.cell? ⟨gN,oN+x,none⟩=some (.slice (D.A x) C (D.Cp x))) (by kernel_rfl) (HSo2.out _ HT9.out.bel.drew) (fun hHeld=>?_)
      have HO:Hid (TrA Wn b4 D.K C (.slice aN i cN) (rwO D C l9 i) ws (.slice a9 (i+1) c9) (mkO D l9 (i+1)) wc.drew):=HT9.out.keep (Below.refl _ _).drew
      (refine tkA 0 ?_;refine tkA 2 ?_;refine tkA 3 ?_;refine tkA 4 ?_;refine tkA 5 ?_;refine tkA 6 ?_;refine tkA 7 ?_;try simp only[Act.put,sA,sB,sC])
      refine wpAnyH_ready (rs:=[1,8]) (by kernel_rfl) (by simp) ?_
      refine arC (fun K hK=>?_) ?_
      ·skip
       have f1:=HO.out.f1
       go_simp
       refine hK.out _ _ (hHeld) (fun hHeld=>?_)
       clear hK K
       try simp only[Act.put,sA,sB,sC]
       clear f1
       refine rd1 8 (fun K hK=>?_)
       ·skip
        have hlt9:=(HO.out.next.lt).2
        have hltK:=zaE HO.out.mks
        go_simp
        go_at_call 86
        refine (zch 87 b5 D.n (fun y=>((f y:Nat):Int)) C (D.Cp x) (D.A x) (D.nx x) _ zdO (fun W' h y hy=>zer b5 D.n gU f W' ((HN.out.2.2.2.1.keep HO.out.bel).keep h) (fun z hz=>((HO.out.bel.trans (h.mono HO.out.bel.size)).cell (p:=⟨gU,z,none⟩) hglw.out.2).trans (HcN.out z hz)) y hy) (by omega) (HzN.out.below HO.out.bel) (fun c hc=>HB.out.2.2.nx x c hxn hc) (by omega)).mono ?_
        rintro e w5 ⟨a5,c5,rfl,ho5,b5'⟩
        have HU:Hid (w5.ownsRow Wn.heap.size 3 1 (.slice a5 C c5) C (ints ((List.range C).map (ordF D l9 i)))/\(∀j,j<(rwO D C l9 i).length->∀b,(ws j).ownBlock=some b->(Value.slice a5 C c5).ownBlock≠some b)/\∀b,(Value.slice a5 C c5).ownBlock=some b->(Value.slice a9 (i+1) c9).ownBlock≠some b):=by
         have habv:=zas ho5
         refine⟨?_,fun j hj b e1 e2=>?_,fun b e1 e2=>?_⟩
         ·rw[<-HRow.out];exact zag ho5 HO.out.bel.size
         ·have h1:=hlt9 j hj b e1
          have h2:=habv b e2
          try simp only[zaw] at h1
          try simp only[zaw] at h2
          omega
         ·have h1:=hltK b e2
          have h2:=habv b e1
          try simp only[zaw] at h1
          try simp only[zaw] at h2
          omega
        have HO:=hid (HO.out.keep b5')
        clear ho5 b5' hlt9 hltK
        try go_wp2_with fail
        refine hK.out _ _ (HSo2.out _ HO.out.bel) (fun hHeld=>?_)
        clear hK K
        try simp only[Act.put,sA,sB,sC]
        refine rd1 9 (fun K hK=>?_)
        ·skip
         go_simp
         have kk:=al w5 (.cells #[.slice a5 C c5] 30)
         have HNw:Hid (∀j u,[Value.slice a5 C c5][j]?=some u->(w5.alloc (.cells #[.slice a5 C c5] 30)).cell? ((⟨w5.heap.size,0,none⟩:Addr).add j)=some u):=cell_one_new _ _ _
         have HO:=hid (HO.out.keep kk)
         have HU:=hid (And.intro (zab HU.out.1 kk) HU.out.2)
         refine hK.out _ _ (HSo2.out _ HO.out.bel) (fun hHeld=>?_)
         clear hK K
         try simp only[Act.put,sA,sB,sC]
         clear kk
         generalize w5.alloc (.cells #[.slice a5 C c5] 30)=V5 at HNw HO HU hHeld⊢
         refine rd1 10 (fun K hK=>?_)
         ·skip
          have hO:=HO.out.next.own
          rw[zcp] at hO
          refine zao (by rfl) _ _ _ (by rfl) Wn.heap.size 30 iV (.slice none 0 0) 1 24 Tryz.underlying37 hV hV0 hV1 hV2 (by rfl) (by decide) _ i ((List.range i).map ws) (by rfl) hO ⟨w5.heap.size,0,none⟩ 1 1 [.slice a5 C c5] (by rfl) (by rfl) HNw.out (by intro u hu;simp at hu;subst hu;rfl) (by unfold maxLen;omega) (by omega) HO.out.bel.size ?_
          intro v6 w6 hown6 hgrow6
          obtain⟨a7,c7,rfl⟩:=zaa hown6
          have HT8:=hid (HO.out.addRow (u:=.slice a5 C c5) (vN':=.slice a7 (i+1) c7) HU.out.1 HU.out.2.1 HU.out.2.2 (zcp D C l9 i) hown6 hgrow6)
          have h9:=HO.out.st.grown_own HO.out.next.own (by decide) hgrow6
          have z2:w6.cell? ⟨b4,256,none⟩=some (.slice aN i cN):=by rw[h9.at_,zbV]
          have z3:w6.frozen? ⟨b4,256,none⟩=false:=h9.thaw_ 256
          have hb6:=zac HO.out.bel HO.out.next.own HO.out.bel.size hgrow6
          clear hown6 hgrow6 h9 hO
          refine hK.out _ _ (HSo2.out _ hb6) (fun hHeld=>?_)
          clear hK K
          try simp only[Act.put,sA,sB,sC]
          (refine tkA 11 ?_;try simp only[Act.put,sA,sB,sC])
          refine rd1 12 (fun K hK=>?_)
          ·skip
           go_simp
           refine hK.out _ _ (HSo2.out _ HT8.out.bel) (fun hHeld=>?_)
           clear hK K
           try simp only[Act.put,sA,sB,sC]
           refine wpAnyH_done (by kernel_rfl) ?_ _
           rw[<-hRs.out] at HT8
           clear hHeld z2 z3 hb6
           go_wp2_with fail
           go_roundw
           case rel=>exact⟨i+1,_,a7,a9,c7,c9,by go_num,by omega,HT8⟩
           case measure=>simp[intOf];omega
      refine arC (fun K hK=>?_) ?_
      ·skip
       have hlt9:=(HO.out.next.lt).2
       have hltK:=zaE HO.out.mks
       go_simp
       go_at_call 86
       refine (zch 87 b5 D.n (fun y=>((f y:Nat):Int)) C (D.Cp x) (D.A x) (D.nx x) _ zdO (fun W' h y hy=>zer b5 D.n gU f W' ((HN.out.2.2.2.1.keep HO.out.bel).keep h) (fun z hz=>((HO.out.bel.trans (h.mono HO.out.bel.size)).cell (p:=⟨gU,z,none⟩) hglw.out.2).trans (HcN.out z hz)) y hy) (by omega) (HzN.out.below HO.out.bel) (fun c hc=>HB.out.2.2.nx x c hxn hc) (by omega)).mono ?_
       rintro e w5 ⟨a5,c5,rfl,ho5,b5'⟩
       have HU:Hid (w5.ownsRow Wn.heap.size 3 1 (.slice a5 C c5) C (ints ((List.range C).map (ordF D l9 i)))/\(∀j,j<(rwO D C l9 i).length->∀b,(ws j).ownBlock=some b->(Value.slice a5 C c5).ownBlock≠some b)/\∀b,(Value.slice a5 C c5).ownBlock=some b->(Value.slice a9 (i+1) c9).ownBlock≠some b):=by
        have habv:=zas ho5
        refine⟨?_,fun j hj b e1 e2=>?_,fun b e1 e2=>?_⟩
        ·rw[<-HRow.out];exact zag ho5 HO.out.bel.size
        ·have h1:=hlt9 j hj b e1
         have h2:=habv b e2
         try simp only[zaw] at h1
         try simp only[zaw] at h2
         omega
        ·have h1:=hltK b e2
         have h2:=habv b e1
         try simp only[zaw] at h1
         try simp only[zaw] at h2
         omega
       have HO:=hid (HO.out.keep b5')
       clear ho5 b5' hlt9 hltK
       try go_wp2_with fail
       refine hK.out _ _ (HSo2.out _ HO.out.bel) (fun hHeld=>?_)
       clear hK K
       try simp only[Act.put,sA,sB,sC]
       refine wpAnyH_ready (rs:=[1,9]) (by kernel_rfl) (by simp) ?_
       refine arC (fun K hK=>?_) ?_
       ·skip
        have f1:=HO.out.f1
        go_simp
        refine hK.out _ _ (hHeld) (fun hHeld=>?_)
        clear hK K
        try simp only[Act.put,sA,sB,sC]
        clear f1
        refine rd1 9 (fun K hK=>?_)
        ·skip
         go_simp
         have kk:=al w5 (.cells #[.slice a5 C c5] 30)
         have HNw:Hid (∀j u,[Value.slice a5 C c5][j]?=some u->(w5.alloc (.cells #[.slice a5 C c5] 30)).cell? ((⟨w5.heap.size,0,none⟩:Addr).add j)=some u):=cell_one_new _ _ _
         have HO:=hid (HO.out.keep kk)
         have HU:=hid (And.intro (zab HU.out.1 kk) HU.out.2)
         refine hK.out _ _ (HSo2.out _ HO.out.bel) (fun hHeld=>?_)
         clear hK K
         try simp only[Act.put,sA,sB,sC]
         clear kk
         generalize w5.alloc (.cells #[.slice a5 C c5] 30)=V5 at HNw HO HU hHeld⊢
         refine rd1 10 (fun K hK=>?_)
         ·skip
          have hO:=HO.out.next.own
          rw[zcp] at hO
          refine zao (by rfl) _ _ _ (by rfl) Wn.heap.size 30 iV (.slice none 0 0) 1 24 Tryz.underlying37 hV hV0 hV1 hV2 (by rfl) (by decide) _ i ((List.range i).map ws) (by rfl) hO ⟨w5.heap.size,0,none⟩ 1 1 [.slice a5 C c5] (by rfl) (by rfl) HNw.out (by intro u hu;simp at hu;subst hu;rfl) (by unfold maxLen;omega) (by omega) HO.out.bel.size ?_
          intro v6 w6 hown6 hgrow6
          obtain⟨a7,c7,rfl⟩:=zaa hown6
          have HT8:=hid (HO.out.addRow (u:=.slice a5 C c5) (vN':=.slice a7 (i+1) c7) HU.out.1 HU.out.2.1 HU.out.2.2 (zcp D C l9 i) hown6 hgrow6)
          have h9:=HO.out.st.grown_own HO.out.next.own (by decide) hgrow6
          have z2:w6.cell? ⟨b4,256,none⟩=some (.slice aN i cN):=by rw[h9.at_,zbV]
          have z3:w6.frozen? ⟨b4,256,none⟩=false:=h9.thaw_ 256
          have hb6:=zac HO.out.bel HO.out.next.own HO.out.bel.size hgrow6
          clear hown6 hgrow6 h9 hO
          refine hK.out _ _ (HSo2.out _ hb6) (fun hHeld=>?_)
          clear hK K
          try simp only[Act.put,sA,sB,sC]
          (refine tkA 11 ?_;try simp only[Act.put,sA,sB,sC])
          refine rd1 12 (fun K hK=>?_)
          ·skip
           go_simp
           refine hK.out _ _ (HSo2.out _ HT8.out.bel) (fun hHeld=>?_)
           clear hK K
           try simp only[Act.put,sA,sB,sC]
           refine wpAnyH_done (by kernel_rfl) ?_ _
           rw[<-hRs.out] at HT8
           clear hHeld z2 z3 hb6
           go_wp2_with fail
           go_roundw
           case rel=>exact⟨i+1,_,a7,a9,c7,c9,by go_num,by omega,HT8⟩
           case measure=>simp[intOf];omega
       refine arC (fun K hK=>?_) ?_
       ·skip
        go_simp
        have kk:=al w5 (.cells #[.slice a5 C c5] 30)
        have HNw:Hid (∀j u,[Value.slice a5 C c5][j]?=some u->(w5.alloc (.cells #[.slice a5 C c5] 30)).cell? ((⟨w5.heap.size,0,none⟩:Addr).add j)=some u):=cell_one_new _ _ _
        have HO:=hid (HO.out.keep kk)
        have HU:=hid (And.intro (zab HU.out.1 kk) HU.out.2)
        refine hK.out _ _ (HSo2.out _ HO.out.bel) (fun hHeld=>?_)
        clear hK K
        try simp only[Act.put,sA,sB,sC]
        clear kk
        generalize w5.alloc (.cells #[.slice a5 C c5] 30)=V5 at HNw HO HU hHeld⊢
        refine rd1 1 (fun K hK=>?_)
        ·skip
         have f1:=HO.out.f1
         go_simp
         refine hK.out _ _ (hHeld) (fun hHeld=>?_)
         clear hK K
         try simp only[Act.put,sA,sB,sC]
         clear f1
         refine rd1 10 (fun K hK=>?_)
         ·skip
          have hO:=HO.out.next.own
          rw[zcp] at hO
          refine zao (by rfl) _ _ _ (by rfl) Wn.heap.size 30 iV (.slice none 0 0) 1 24 Tryz.underlying37 hV hV0 hV1 hV2 (by rfl) (by decide) _ i ((List.range i).map ws) (by rfl) hO ⟨w5.heap.size,0,none⟩ 1 1 [.slice a5 C c5] (by rfl) (by rfl) HNw.out (by intro u hu;simp at hu;subst hu;rfl) (by unfold maxLen;omega) (by omega) HO.out.bel.size ?_
          intro v6 w6 hown6 hgrow6
          obtain⟨a7,c7,rfl⟩:=zaa hown6
          have HT8:=hid (HO.out.addRow (u:=.slice a5 C c5) (vN':=.slice a7 (i+1) c7) HU.out.1 HU.out.2.1 HU.out.2.2 (zcp D C l9 i) hown6 hgrow6)
          have h9:=HO.out.st.grown_own HO.out.next.own (by decide) hgrow6
          have z2:w6.cell? ⟨b4,256,none⟩=some (.slice aN i cN):=by rw[h9.at_,zbV]
          have z3:w6.frozen? ⟨b4,256,none⟩=false:=h9.thaw_ 256
          have hb6:=zac HO.out.bel HO.out.next.own HO.out.bel.size hgrow6
          clear hown6 hgrow6 h9 hO
          refine hK.out _ _ (HSo2.out _ hb6) (fun hHeld=>?_)
          clear hK K
          try simp only[Act.put,sA,sB,sC]
          (refine tkA 11 ?_;try simp only[Act.put,sA,sB,sC])
          refine rd1 12 (fun K hK=>?_)
          ·skip
           go_simp
           refine hK.out _ _ (HSo2.out _ HT8.out.bel) (fun hHeld=>?_)
           clear hK K
           try simp only[Act.put,sA,sB,sC]
           refine wpAnyH_done (by kernel_rfl) ?_ _
           rw[<-hRs.out] at HT8
           clear hHeld z2 z3 hb6
           go_wp2_with fail
           go_roundw
           case rel=>exact⟨i+1,_,a7,a9,c7,c9,by go_num,by omega,HT8⟩
           case measure=>simp[intOf];omega
       exact AllReadyH.nil
      exact AllReadyH.nil
    ·obtain rfl:i=j:=by omega
     have HSt4:=hid HT.out.st
     have HSt2:=hid (HN.out.2.1.keep HT.out.bel)
     have hd:=zay D.K (.slice aN i cN) (.slice aK i cK)
     have hwn:Hid (w.heap.size<=Wn.heap.size):=by have h1:=HN.out.2.2.2.2;have h2:=Hb.out.1;show _<=_;omega
     have hbB:Hid (Below w.heap.size w (wr.setRow b2 (dfC D.K (.slice aN i cN) (.slice aK i cK)))):=by
      rw[Hb.out.1]
      exact zaj (HN.out.2.2.1.trans (HT.out.bel.mono HN.out.2.2.2.2)) (by have:=Hb.out;omega) _
     have HF:Hid (DfP D C i (ordF D l9) (fun i=>D.q (l9.getD i 0)) w (.returned (.agg (dfC D.K (.slice aN i cN) (.slice aK i cK)))) (wr.setRow b2 (dfC D.K (.slice aN i cN) (.slice aK i cK)))):=
      HT.out.dfp HB.out.1.dm.kl (zcp D C l9 i) (fun r hr=>by unfold rwO at hr;obtain⟨j,_,rfl⟩:=List.mem_map.1 hr;simp) rfl (fun j hj c hc=>by unfold rwO;simp[List.getD_eq_getElem?_getD,hj,hc]) hwn.out (Or.inr ⟨b2,_,_,HSt2.out,rfl⟩) hbB.out
     go_wp2_with (first|(refine zam rfl 39 _ rfl ⟨b4,0,none⟩ rfl (dfC D.K (.slice aN i cN) (.slice aK i cK)) _ HSt4.out.part Tryz.underlying39 rfl (by rw[zah,hd]) ?_)|(refine zaf rfl 39 _ _ rfl b2 39 (zC 39) (dfC D.K (.slice aN i cN) (.slice aK i cK)) rfl rfl HSt2.out (by rw[zak,hd]) (by rw[zah,hd]) (zba _ _ _ _ _ _ _) ?_))
     refine bodyPost_ret (results_cell_row rfl _ _ b2 39 (dfC D.K (.slice aN i cN) (.slice aK i cK)) (0,0) _ rfl HSt2.out.setRow Tryz.underlying39 rfl (by rw[zah,hd])) rfl ?_
     exact HF.out
def zoq (D:Dd) (w:World) (e:Ending) (w':World):Prop:=∃b:Bool,e=.returned (.bool b)/\(b=true->D.n<=20/\D.m<=30/\∀i,i<D.n->D.len i<=256)/\Below w.heap.size w w'
theorem zku (D:Dd) (hn:D.n<=9223372036854775807) (hm:D.m<=9223372036854775807) (hl:∀i,i<D.n->D.len i<=9223372036854775807) (w:World) (hD:DM w D):
  Calls Tryz.prog 18 #[.agg D.cD] w (zoq D w):=by
 have HB:=hid (And.intro (DBx.new hD) (And.intro (al w (.cells D.cD 39)) hl))
 clear hD hl
 go_enter Tryz.func18,Tryz.ntmps18
 go_upto_region 1 with fail
 generalize w.alloc (.cells D.cD 39)=W0 at HB⊢
 obtain⟨b0,hb0⟩:∃b0,w.heap.size=b0:=⟨_,rfl⟩
 have Hb0:=hid hb0
 rw[hb0] at HB
 rw[hb0]
 clear hb0
 have f1:=HB.out.1.f1
 have f2:=HB.out.1.f2
 have HF:Hid (Below w.heap.size w W0):=by rw[Hb0.out];exact HB.out.2.1
 by_cases h1:20<D.n
 ·have i1:(20:Int)<(D.n:Int):=by omega
  go_wp2_with fail
  go_ret
  exact⟨false,rfl,(fun h=>by cases h),HF.out⟩
 by_cases h2:30<D.m
 ·have i1:¬((20:Int)<(D.n:Int)):=by omega
  have i2:(30:Int)<(D.m:Int):=by omega
  go_wp2_with fail
  go_ret
  exact⟨false,rfl,(fun h=>by cases h),HF.out⟩
 have i1:¬((20:Int)<(D.n:Int)):=by omega
 have i2:¬((30:Int)<(D.m:Int)):=by omega
 go_wp2_with fail
 clear f1 f2
 go_loopw [3] (fun v wr=>∃(i:Nat),v=.int .i64 i/\i<=D.n/\wr=W0/\Hid (∀j,j<i->D.len j<=256)) (fun v _=>D.n-(intOf v).toNat)
 case atStart=>exact⟨0,rfl,by omega,rfl,fun j hj=>by omega⟩
 case round=>
  obtain⟨i,rfl,hi,rfl,HX⟩:=hrel
  have f1:=HB.out.1.f1
  by_cases hlt:i<D.n
  ·obtain⟨gN,oN,eN,hgN,cN,_⟩:=HB.out.1.dm.row i hlt
   rw[eN] at f1
   have i3:(i:Int)<(D.n:Int):=by omega
   have hb:=HB.out.2.2 i hlt
   have HS:Hid (D.len i<=256->∀j,j<i+1->D.len j<=256):=fun h j hj=>by
    by_cases e:j=i
    ·subst e;exact h
    ·exact HX.out j (by omega)
   have HeN:=hid eN
   clear eN
   generalize D.len i=ln at cN hb HS
   by_cases h3:256<ln
   ·have i4:(256:Int)<(ln:Int):=by omega
    go_wp2_with fail
    go_ret
    exact⟨false,rfl,(fun h=>by cases h),HF.out⟩
   ·have i4:¬((256:Int)<(ln:Int)):=by omega
    have HZ:=hid (HS.out (by omega))
    go_wp2_with fail
    go_roundw
    case rel=>exact⟨i+1,by go_num,by omega,by first|trivial|rfl,HZ⟩
    case measure=>simp[intOf];omega
  ·obtain rfl:i=D.n:=by omega
   have i3:¬((D.n:Int)<(D.n:Int)):=by omega
   have hn9:D.n<=20/\D.m<=30:=by omega
   have HZ:Hid (D.n<=20/\D.m<=30/\∀j,j<D.n->D.len j<=256):=⟨hn9.1,hn9.2,HX.out⟩
   go_wp2_with fail
   go_ret
   exact⟨true,rfl,(fun _=>HZ.out),HF.out⟩
def DfF (D:Dd) (C n':Nat) (nx':Nat->Nat->Int) (q':Nat->Int) (D':Dd):Prop:=
 D'.K=D.K/\D'.n=n'/\D'.m=n'/\(∀i,i<n'->D'.len i=C)/\(∀i,i<n'->∀c,c<C->D'.nx i c=nx' i c)/\∀i,i<n'->D'.q i=q' i
end Go.Proofs.YtjehgdjlncofeaaGreat
