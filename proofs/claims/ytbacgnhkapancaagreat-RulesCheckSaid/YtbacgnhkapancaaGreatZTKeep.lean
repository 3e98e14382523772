import Derived.Test.YtbacgnhkapancaaGreatZTLaw
set_option linter.all false
set_option maxHeartbeats 2000000
set_option maxRecDepth 100000
open Go.Lib (hid)
namespace Go.Proofs.YtbacgnhkapancaaGreat
open Go.RowKit Go.Maps Go.WideElems Go.ChangeMaps Go.MapKept Go.Proofs.Tryz
theorem zjP(D:Dd)(C:Nat)(hR:DR D C)(st:Int)(b:Nat)(hb:b<256)(w:World)(hD:DM w D):
  Calls prog 36 #[.agg D.cD,.int .i64 st,.int .i64 (b:Int)] w fun e w'=>e=.returned (.int .i64 (bH D st b))/\Below w.heap.size w w':=by
 have HB:=hid (Zz (cm.new hD) (Zz (al w (.cells D.cD 39)) hR));have cQ:=hR.n2;have uN:=(hR.jn hD.kl).2;clear hD hR;go_enter func36,ntmps36;go_upto_region 1 with fail;generalize w.alloc (.cells D.cD 39)=W0 at HB⊢;obtain⟨b0,aD⟩:∃b0,w.heap.size=b0:=⟨_,rfl⟩
 have cP:=hid aD;rw[aD] at HB;rw[aD];clear aD;have HF:=hid (show Below w.heap.size w W0 by rw[cP.out];exact HB.out.2.1);have k0:=HB.out.1.f0 b hb;have hkl:=HB.out.1.dm.kl b hb;have DK:=HB.out.2.2.c.1 b hb;have i0:(b:Int)<256:=by omega
 have f1:=HB.out.1.f1;obtain⟨kb,CV⟩:∃kb,D.K b=kb:=⟨_,rfl⟩
 have KZ:=hid CV;rw[CV] at k0 hkl DK;clear CV;by_cases h0:0<=st
 ·obtain⟨s,rfl⟩:∃s:Nat,st=(s:Int):=⟨st.toNat,by omega⟩
  by_cases nW:s<D.n
  ·have HV:Hid (bH D (s:Int) b=D.nx s kb):=by
    show _=_;unfold bH;rw[if_pos (by omega),KZ.out];rfl
   have dv:Hid (∀W',Below W0.heap.size W0 W'->∃gN oN gA oA cA,W'.cell? ⟨b0,256,none⟩=some (.slice (some ⟨gN,oN,none⟩) D.n D.cN)/\W'.cell? ⟨gN,oN+s,none⟩=some (.slice (some ⟨gA,oA,none⟩) C cA)/\W'.cell? ⟨gA,oA+kb,none⟩=some (.int .i64 (D.nx s kb))/\W'.cell? ⟨b0,b,none⟩=some (.int .u8 (kb:Int))):=fun W' h=>by
    have qH:=HB.out.1.ab h;have f1:=qH.f1;obtain⟨gN,oN,eN,lH,cN,zN⟩:=qH.dm.row s nW;rw[HB.out.2.2.len s nW] at cN zN;rw[eN] at f1;obtain⟨gA,oA,eA,_,mz⟩:=zN (by omega);rw[eA] at cN;have k0:=qH.f0 b hb;rw[KZ.out] at k0;exact⟨gN,oN,gA,oA,_,f1,cN,mz kb DK,k0⟩
   have i1:(kb:Int)<C:=(by omega);have i2:(s:Int)<(D.n:Int):=(by omega);have i3:¬((C:Int)<=kb):=(by omega);have i4:¬((D.n:Int)<=(s:Int)):=(by omega);have i5:¬((s:Int)<0):=(by omega);clear h0 f1 k0;generalize D.nx s kb=r at dv HV;obtain⟨gN,oN,gA,oA,cA,c1,c2,c3,c4⟩:=dv.out W0 (Below.refl _ _);go_quiet (fail);go_wp2_with fail;go_quiet (fail);go_wp2;go_ret;exact⟨by rw[HV.out];first|rfl|simp,below_drewN (below_drewN HF.out _) _⟩
  have HV:Hid (bH D (s:Int) b=-1):=by
   show _=_;unfold bH;rw[if_neg (by omega)]
  have i4:(D.n:Int)<=(s:Int):=by omega
  have i5:¬((s:Int)<0):=by omega
  clear h0;go_quiet (fail);go_wp2;go_ret;exact⟨by rw[HV.out];first|rfl|simp,below_drewN HF.out _⟩
 have HV:Hid (bH D st b=-1):=by
  show _=_;unfold bH;rw[if_neg (by omega)]
 have i5:st<0:=by omega
 clear h0;go_quiet (fail);go_wp2;go_ret;exact⟨by rw[HV.out];first|rfl|simp,below_drewN HF.out _⟩
theorem Xh(D:Dd)(C:Nat)(hR:DR D C)(st:Int)(s:ByteArray)(m:Nat)(hs:s.size=m)(hm:m<=1000000)(w:World)(hD:DM w D):
  Calls prog 16 #[.agg D.cD,.int .i64 st,.string s] w fun e w'=>e=.returned (.int .i64 (bx D st (fU s) m))/\Below w.heap.size w w':=by
 have HB:=hid (Zz (cm.new hD) (Zz (al w (.cells D.cD 39)) hR));have zR:=hs;have HS:=hid hs;clear hD hR hs;go_enter func16,ntmps16;go_upto_region 1 with fail;generalize w.alloc (.cells D.cD 39)=W0 at HB⊢;obtain⟨b0,aD⟩:∃b0,w.heap.size=b0:=⟨_,rfl⟩
 have cP:=hid aD;rw[aD] at HB;rw[aD];clear aD;go_wp2_with fail;go_loopw [1,7] (fun v1 v wr=>∃(k:Nat),v=.int .i64 k/\k<=m/\v1=.int .i64 (bx D st (fU s) k)/\Hid (Below W0.heap.size W0 wr)) (fun _ v _=>m-(intOf v).toNat)
 ·exact⟨0,rfl,by omega,rfl,Below.refl _ _⟩
 obtain⟨k,rfl,hk,rfl,HX⟩:=hrel;have nL:Hid (∀W',Below W0.heap.size W0 W'->Below w.heap.size w W'):=fun W' h=>by
  rw[cP.out];exact HB.out.2.1.trans (h.mono (by have:=HB.out.2.1.size;have:=cP.out;omega))
 by_cases an:k<m
 ·have qn:k<s.size:=by rw[zR];exact an
  obtain⟨bt,qc⟩:∃bt,(s[k]'qn).toNat=bt:=⟨_,rfl⟩
  have tq:=LB s k qn;rw[qc] at tq;have ky:bt<256:=by rw[tq];exact xS s k
  have eB:Hid (bx D st (fU s) (k+1)=bH D (bx D st (fU s) k) bt):=by show bH D (bx D st (fU s) k) (fU s k)=_;rw[<-tq]
  have i1:(k:Int)<m:=by omega
  generalize bx D st (fU s) k=a at eB⊢;have dG:Hid (∀W',Below W0.heap.size W0 W'->Below W0.heap.size W0 W'/\cm W' b0 D):=fun W' h=>⟨h,HB.out.1.ab h⟩
  clear tq;go_upto_region 4 with fail;refine wp_region_held_drew (S:=fun W'=>Below W0.heap.size W0 W'/\cm W' b0 D) (by kernel_rfl) (dG.out _ HX.out.drew) (fun hHeld=>?_)
  (refine av 0 (v:=.agg D.cD) ?_ (hy:=by intro wz hSw;exact uI (o:=_) (ρ:=_) wz 39 (.tmp 3) rfl ⟨b0,0,none⟩ rfl D.cD _ (cm.st (And.right hSw)).part underlying39 rfl (cm.dm (And.right hSw)).info))
  (refine av 1 ?_;refine av 2 ?_;refine av 3 ?_;try simp only[Act.put,sA,sB,sC];refine av 4 ?_;refine av 5 ?_;try simp only[Act.put,sA,sB,sC])
  refine bq 6 (fun K hK=>?_);skip;go_simp;go_at_call 36;have Vk:IntKind.i64.wrap (bt:Int)=bt:=by rw[IntKind.wrap_i64];omega
  rw[Vk];clear Vk;refine (zjP D C HB.out.2.2 a bt ky _ hHeld.2.dm).mono ?_;rintro e wj ⟨rfl,vj⟩;have bY:Below W0.heap.size W0 wj:=hHeld.1.trans (vj.mono hHeld.1.size);clear vj
  try go_wp2_with fail
  refine hK.out _ _ (dG.out _ bY) (fun hHeld=>?_);clear hK K
  try simp only[Act.put,sA,sB,sC]
  (refine av 7 ?_;try simp only[Act.put,sA,sB,sC])
  refine wpAnyH_done (by kernel_rfl) ?_ _;have qw:=hid bY;clear hHeld bY;go_wp2;go_roundw
  ·exact⟨k+1,by go_num,by omega,by rw[eB.out],qw⟩
  simp[intOf];omega
 obtain rfl:k=m:=by omega
 have HF:=hid (nL.out wr HX.out);go_wp2;go_ret;exact⟨rfl,HF.out⟩
theorem oJ.kv{D D1:Dd}{C:Nat}(hR:DR D C)(h:oJ D C D.n (nG D) D.q D1):DR D1 C:=by
 obtain⟨e1,e2,e3,e4,e5,e6⟩:=h;refine⟨by rw[e1];exact hR.c,by rw[e2];exact hR.n1,by rw[e2];exact hR.n2,by rw[e3,e2],fun c hc=>by rw[e1];exact hR.zy c hc,fun i hi=>e4 i (by omega),fun i hi=>by rw[e6 i (by omega)];exact hR.q i (by omega),fun i c hi hc=>?_⟩;rw[e5 i (by omega) c hc,e2];have:=hR.nx i c (by omega) hc;unfold nG;split <;> omega
theorem vw.of{D:Dd}{x y:Nat}(he:Ed D x y)(h:vw D y):vw D x:=by
 obtain⟨k,h1,h2⟩:=h;exact⟨k,jv.head (B:=fun _=>True) he h1,h2⟩
theorem ry(D:Dd)(b:Nat):bH D (-1) b=-1:=by unfold bH;rw[if_neg (by omega)]
theorem BA{D:Dd}{C k:Nat}(hR:DR D C)(dN:(dr (ar D.len D.nx) [0] k).length=k)(i c:Nat)(hi:i<k)(hc:c<C):
  (dr (ar D.len D.nx) [0] k).getD i 0<D.n/\((D.nx ((dr (ar D.len D.nx) [0] k).getD i 0) c=-1/\iJ D (dr (ar D.len D.nx) [0] k) i c=-1)\/
   ∃j,j<k/\iJ D (dr (ar D.len D.nx) [0] k) i c=((j:Nat):Int)/\D.nx ((dr (ar D.len D.nx) [0] k).getD i 0) c=(((dr (ar D.len D.nx) [0] k).getD j 0:Nat):Int)):=by
 have fW:=KW (ar D.len D.nx) [0] k i hi;have gm:=MF hR k;generalize dr (ar D.len D.nx) [0] k=l at dN fW gm⊢;have lp:i<l.length:=by omega
 have hx:l.getD i 0=l[i]:=by simp[List.getD_eq_getElem?_getD,lp]
 have jq:l[i]<D.n:=gm _ (List.getElem_mem lp);unfold iJ zb;rw[hx];refine⟨jq,?_⟩;have hb:=hR.nx l[i] c jq hc;by_cases h1:D.nx l[i] c=-1
 ·exact Or.inl ⟨h1,by rw[if_pos h1]⟩
 rw[if_neg h1];right;have hm:(D.nx l[i] c).toNat∈l:=by
  refine fW lp _ ?_;unfold WE ar;exact List.mem_map.2 ⟨c,by rw[List.mem_range,hR.len _ jq];exact hc,by omega⟩
 have an:=List.idxOf_lt_length_iff.2 hm;refine⟨l.idxOf (D.nx l[i] c).toNat,by omega,rfl,?_⟩;have h2:l.getD (l.idxOf (D.nx l[i] c).toNat) 0=(D.nx l[i] c).toNat:=by
  rw[List.getD_eq_getElem?_getD,List.getElem?_eq_getElem an,List.getElem_idxOf];rfl
 rw[h2];omega
theorem Pm{D:Dd}{k:Nat}(dN:(dr (ar D.len D.nx) [0] k).length=k):1<=k/\(dr (ar D.len D.nx) [0] k).getD 0 0=0:=by
 obtain⟨t,ht⟩:=KY (ar D.len D.nx) [0] k;generalize dr (ar D.len D.nx) [0] k=l at dN ht⊢;subst ht;refine⟨?_,rfl⟩;simp at dN;omega
theorem oJ.oW{D D1:Dd}{C k:Nat}(hR:DR D C)(dN:(dr (ar D.len D.nx) [0] k).length=k)(rG:k<=D.n)(h:oJ D C k (iJ D (dr (ar D.len D.nx) [0] k)) (fun i=>D.q ((dr (ar D.len D.nx) [0] k).getD i 0)) D1):DR D1 C:=by
 obtain⟨e1,e2,e3,e4,e5,e6⟩:=h;have h1:=(Pm dN).1;have cQ:=hR.n2;have OG:0<C:=by have:=hR.c.1 0 (by omega);omega
 refine⟨by rw[e1];exact hR.c,by omega,by omega,by rw[e3,e2],fun c hc=>by rw[e1];exact hR.zy c hc,fun i hi=>e4 i (by omega),fun i hi=>?_,fun i c hi hc=>?_⟩
 ·rw[e6 i (by omega)];exact hR.q _ (BA hR dN i 0 (by omega) OG).1
 rw[e5 i (by omega) c hc,e2];rcases (BA hR dN i c (by omega) hc).2 with ⟨_,h2⟩|⟨j,hj,h2,_⟩
 ·rw[h2];omega
 rw[h2];omega
end Go.Proofs.YtbacgnhkapancaaGreat
