import Derived.Test.YtkkhakmdjinenaaGreatZTLaw
set_option linter.all false
set_option maxHeartbeats 2000000
set_option maxRecDepth 100000
open Go.Lib (hid)
namespace Go.Proofs.YtkkhakmdjinenaaGreat
open Go.RowKit Go.Maps Go.Proofs.Tryz
variable {C k:Nat}{D D1:Dd}
theorem zj6(D:Dd)(C:Nat)(hR:DR D C)(st:Int)(b:Nat)(hb:b<256)(w:World)(hD:DM w D):
  Calls prog 27 #[.agg D.cD,.int .i64 st,.int .i64 (b:Int)] w fun e w'=>e=.returned (.int .i64 (bK D st b))/\Below w.heap.size w w':=by
 have HB:=ξ (bg.new hD) (al w (.cells D.cD 29)) hR;have cU:=hR.n2;have tq:=(hR.il hD.kl).2;clear hD hR;go_in;go_upto_region 1 with fail;generalize w.alloc (.cells D.cD 29)=W0 at HB⊢;generalize ay:w.heap.size=b0 at HB⊢;have bW:=hid ay;clear ay;have HF:=hid (show Below w.heap.size w W0 by rw[bW.out];exact HB.out.2.1);have k0:=HB.out.1.f0 b hb;have hkl:=HB.out.1.dm.kl b hb;have Dn:=HB.out.2.2.c.1 b hb;have i0:(b:Int)<256:=by omega
 have f1:=HB.out.1.f1;obtain⟨kb,D9⟩:∃kb,D.K b=kb:=⟨_,rfl⟩
 have MB:=hid D9;rw[D9] at k0 hkl Dn;clear D9;by_cases h0:0<=st
 ·obtain⟨s,rfl⟩:∃s:Nat,st=(s:Int):=⟨st.toNat,by omega⟩
  by_cases oc:s<D.n
  ·have HV:Hid (bK D (s:Int) b=D.nx s kb):=by
    show _=_;unfold bK;rw[if_pos (by omega),MB.out];rfl
   have dB:Hid (∀W',Below W0.heap.size W0 W'->∃gN oN gA oA cA,W'.cell? ⟨b0,256,none⟩=some (.slice (some ⟨gN,oN,none⟩) D.n D.cN)/\W'.cell? ⟨gN,oN+s,none⟩=some (.slice (some ⟨gA,oA,none⟩) C cA)/\W'.cell? ⟨gA,oA+kb,none⟩=some (.int .i64 (D.nx s kb))/\W'.cell? ⟨b0,b,none⟩=some (.int .u8 (kb:Int))):=fun W' h=>by
    have oV:=HB.out.1.ab h;have f1:=oV.f1;obtain⟨gN,oN,eN,ky,cN,zN⟩:=oV.dm.row s oc;rw[HB.out.2.2.len s oc] at cN zN;rw[eN] at f1;obtain⟨gA,oA,eA,_,lH⟩:=zN (by omega);rw[eA] at cN;have k0:=oV.f0 b hb;rw[MB.out] at k0;exact⟨gN,oN,gA,oA,_,f1,cN,lH kb Dn,k0⟩
   have i1:(kb:Int)<C:=(by omega);have i2:(s:Int)<(D.n:Int):=(by omega);have i3:¬((C:Int)<=kb):=(by omega);have i4:¬((D.n:Int)<=(s:Int)):=(by omega);have i5:¬((s:Int)<0):=(by omega);clear h0 f1 k0;generalize D.nx s kb=r at dB HV;obtain⟨gN,oN,gA,oA,cA,c1,c2,c3,c4⟩:=dB.out W0 (Below.refl _ _);go_quiet (fail);go_wp2_with fail;go_quiet (fail);go_wp2;go_ret;exact⟨by rw[HV.out];first|rfl|simp,below_drewN (below_drewN HF.out _) _⟩
  have HV:Hid (bK D (s:Int) b=-1):=by
   show _=_;unfold bK;rw[if_neg (by omega)]
  have i4:(D.n:Int)<=(s:Int):=by omega
  have i5:¬((s:Int)<0):=by omega
  clear h0;go_quiet (fail);go_wp2;go_ret;exact⟨by rw[HV.out];first|rfl|simp,below_drewN HF.out _⟩
 have HV:Hid (bK D st b=-1):=by
  show _=_;unfold bK;rw[if_neg (by omega)]
 have i5:st<0:=by omega
 clear h0;go_quiet (fail);go_wp2;go_ret;exact⟨by rw[HV.out];first|rfl|simp,below_drewN HF.out _⟩
theorem Qg(D:Dd)(C:Nat)(hR:DR D C)(st:Int)(s:ByteArray)(m:Nat)(hs:s.size=m)(hm:m<=1000000)(w:World)(hD:DM w D):
  Calls prog 11 #[.agg D.cD,.int .i64 st,.string s] w fun e w'=>e=.returned (.int .i64 (bD D st (eW s) m))/\Below w.heap.size w w':=by
 have HB:=ξ (bg.new hD) (al w (.cells D.cD 29)) hR;have zT:=hs;have HS:=hid hs;clear hD hR hs;go_in;go_upto_region 1 with fail;generalize w.alloc (.cells D.cD 29)=W0 at HB⊢;generalize ay:w.heap.size=b0 at HB⊢;have bW:=hid ay;clear ay;go_wp2;go_loopw [1,7] (fun v1 v wr=>∃(k:Nat),v=.int .i64 k/\k<=m/\v1=.int .i64 (bD D st (eW s) k)/\Hid (Below W0.heap.size W0 wr)) (fun _ v _=>m-(intOf v).toNat)
 ·exact⟨0,rfl,by omega,rfl,Below.refl _ _⟩
 obtain⟨k,rfl,hk,rfl,HX⟩:=hrel;have mh:Hid (∀W',Below W0.heap.size W0 W'->Below w.heap.size w W'):=fun W' h=>by
  rw[bW.out];exact HB.out.2.1.trans (h.mono (by have:=HB.out.2.1.size;have:=bW.out;omega))
 by_cases aq:k<m
 ·have qy:k<s.size:=by rw[zT];exact aq
  obtain⟨bt,qJ⟩:∃bt,(s[k]'qy).toNat=bt:=⟨_,rfl⟩
  have tQ:=Og s k qy;rw[qJ] at tQ;have km:bt<256:=by rw[tQ];exact uT s k
  have ep:Hid (bD D st (eW s) (k+1)=bK D (bD D st (eW s) k) bt):=by show bK D (bD D st (eW s) k) (eW s k)=_;rw[<-tQ]
  have i1:(k:Int)<m:=by omega
  generalize bD D st (eW s) k=a at ep⊢;have cZ:Hid (∀W',Below W0.heap.size W0 W'->Below W0.heap.size W0 W'/\bg W' b0 D):=fun W' h=>⟨h,HB.out.1.ab h⟩
  clear tQ;go_upto_region 4 with fail;refine wp_region_held_drew (S:=fun W'=>Below W0.heap.size W0 W'/\bg W' b0 D) (by kernel_rfl) (cZ.out _ HX.out.drew) (fun η=>?_)
  (refine an 0 (v:=.agg D.cD) ?_ (hy:=by intro wz hSw;exact ob (o:=_) (ρ:=_) wz 29 (.tmp 3) rfl ⟨b0,0,none⟩ rfl D.cD _ (bg.st (And.right hSw)).part underlying29 rfl (bg.dm (And.right hSw)).info))
  (refine an 1 ?_;refine an 2 ?_;refine an 3 ?_;try simp only[Act.put,sA];refine an 4 ?_;refine an 5 ?_;try simp only[Act.put,sA])
  refine bc 6 (fun K hK=>?_);skip;go_simp;go_at_call 27;have Dh:IntKind.i64.wrap (bt:Int)=bt:=by rw[IntKind.wrap_i64];omega
  rw[Dh];clear Dh;refine (zj6 D C HB.out.2.2 a bt km _ η.2.dm).mono ?_;rintro e wj ⟨rfl,vj⟩;have bz:Below W0.heap.size W0 wj:=η.1.trans (vj.mono η.1.size);clear vj
  try go_wp2_with fail
  refine hK.out _ _ (cZ.out _ bz) fun η=>?_;clear hK K
  try simp only[Act.put,sA]
  (refine an 7 ?_;try simp only[Act.put,sA])
  refine wpAnyH_done (by kernel_rfl) ?_ _;have p9:=hid bz;clear η bz;go_wp2;go_roundw
  ·exact⟨k+1,by go_num,by omega,by rw[ep.out],p9⟩
  simp[intOf];omega
 obtain rfl:k=m:=by omega
 have HF:=hid (mh.out wr HX.out);go_wp2;go_ret;exact⟨rfl,HF.out⟩
theorem pJ.kE(hR:DR D C)(h:pJ D C D.n (oj D) D.q D1):DR D1 C:=by
 obtain⟨e1,e2,e3,e4,e5,e6⟩:=h;refine⟨by rw[e1];exact hR.c,by rw[e2];exact hR.n1,by rw[e2];exact hR.n2,by rw[e3,e2],fun c hc=>by rw[e1];exact hR.xj c hc,fun i hi=>e4 i (by omega),fun i hi=>by rw[e6 i (by omega)];exact hR.q i (by omega),fun i c hi hc=>?_⟩;rw[e5 i (by omega) c hc,e2];have:=hR.nx i c (by omega) hc;unfold oj;split <;> omega
theorem wN.of{x y:Nat}(he:Ed D x y)(h:wN D y):wN D x:=by
 obtain⟨k,h1,h2⟩:=h;exact⟨k,jI.head (B:=fun _=>True) he h1,h2⟩
theorem qW(D:Dd)(b:Nat):bK D (-1) b=-1:=by unfold bK;rw[if_neg (by omega)]
theorem CE(hR:DR D C)(dE:(dw (av D.len D.nx) [0] k).length=k)(i c:Nat)(hi:i<k)(hc:c<C):
  (dw (av D.len D.nx) [0] k).getD i 0<D.n/\((D.nx ((dw (av D.len D.nx) [0] k).getD i 0) c=-1/\jg D (dw (av D.len D.nx) [0] k) i c=-1)\/
   ∃j,j<k/\jg D (dw (av D.len D.nx) [0] k) i c=((j:Nat):Int)/\D.nx ((dw (av D.len D.nx) [0] k).getD i 0) c=(((dw (av D.len D.nx) [0] k).getD j 0:Nat):Int)):=by
 have gq:=M9 (av D.len D.nx) [0] k i hi;have gw:=M5 hR k;generalize dw (av D.len D.nx) [0] k=l at dE gq gw⊢;have lI:i<l.length:=by omega
 have hx:l.getD i 0=l[i]:=by simp[List.getD_eq_getElem?_getD,lI]
 have ix:l[i]<D.n:=gw _ (List.getElem_mem lI);unfold jg zM;rw[hx];refine⟨ix,?_⟩;have hb:=hR.nx l[i] c ix hc;by_cases h1:D.nx l[i] c=-1
 ·exact Or.inl ⟨h1,by rw[if_pos h1]⟩
 rw[if_neg h1];right;have hm:(D.nx l[i] c).toNat∈l:=by
  refine gq lI _ ?_;unfold WE av;exact List.mem_map.2 ⟨c,by rw[List.mem_range,hR.len _ ix];exact hc,by omega⟩
 have aq:=List.idxOf_lt_length_iff.2 hm;refine⟨l.idxOf (D.nx l[i] c).toNat,by omega,rfl,?_⟩;have h2:l.getD (l.idxOf (D.nx l[i] c).toNat) 0=(D.nx l[i] c).toNat:=by
  rw[List.getD_eq_getElem?_getD,List.getElem?_eq_getElem aq,List.getElem_idxOf];rfl
 rw[h2];omega
theorem Qx(dE:(dw (av D.len D.nx) [0] k).length=k):1<=k/\(dw (av D.len D.nx) [0] k).getD 0 0=0:=by
 obtain⟨t,ht⟩:=Ny (av D.len D.nx) [0] k;generalize dw (av D.len D.nx) [0] k=l at dE ht⊢;subst ht;refine⟨?_,rfl⟩;simp at dE;omega
theorem pJ.pG(hR:DR D C)(dE:(dw (av D.len D.nx) [0] k).length=k)(sh:k<=D.n)(h:pJ D C k (jg D (dw (av D.len D.nx) [0] k)) (fun i=>D.q ((dw (av D.len D.nx) [0] k).getD i 0)) D1):DR D1 C:=by
 obtain⟨e1,e2,e3,e4,e5,e6⟩:=h;have h1:=(Qx dE).1;have cU:=hR.n2;have QP:0<C:=by have:=hR.c.1 0 (by omega);omega
 refine⟨by rw[e1];exact hR.c,by omega,by omega,by rw[e3,e2],fun c hc=>by rw[e1];exact hR.xj c hc,fun i hi=>e4 i (by omega),fun i hi=>?_,fun i c hi hc=>?_⟩
 ·rw[e6 i (by omega)];exact hR.q _ (CE hR dE i 0 (by omega) QP).1
 rw[e5 i (by omega) c hc,e2];rcases (CE hR dE i c (by omega) hc).2 with ⟨_,h2⟩|⟨j,hj,h2,_⟩
 ·rw[h2];omega
 rw[h2];omega
