import Derived.Test.YtiijebameffenaaGreatZTTrim
import Derived.ChangeKeysEq
set_option linter.all false
set_option maxHeartbeats 8000000
set_option maxRecDepth 100000
open Go.Lib (hid)
namespace Go.Proofs.YtiijebameffenaaGreat
open Go.RowKit Go.Maps Go.WideElems Go.ChangeMaps Go.MapKept Go.Proofs.Tryz
open Act (put)
open List (getD_eq_getElem?_getD getElem_mem range)
open Nat (le_refl)
variable {C k x:Nat}{D D1:Dd}
def dr(D:Dd)(st:Int)(b:Nat):Int:=if 0<=st/\st<(D.n:Int) then D.nx st.toNat (D.K b) else -1
def dt(D:Dd)(st:Int)(z:Nat->Nat):Nat->Int
 | 0=>st
 | k+1=>dr D (dt D st z k) (z k)
def dk(D:Dd)(st:Int):Int:=if 0<=st/\st<(D.n:Int) then D.q st.toNat else -1
theorem S6(D:Dd)(st:Int)(z:Nat->Nat)(h:dt D st z k=-1):∀m,k<=m->dt D st z m=-1:=by
 intro m hm
 induction m with
 | zero=>rw[show k=0 by omega] at h;exact h
 | succ m ih=>
  by_cases e:k=m+1
  ·rw[<-e];exact h
  show dr D (dt D st z m) (z m)=-1;rw[ih (by omega)];unfold dr;rw[if_neg (by omega)]
theorem zkY(D:Dd)(C:Nat)(hR:DR D C)(st:Int)(b:Nat)(hb:b<256)(w:World)(hD:DM w D):
  Calls prog 104 #[.agg D.cD,.int .i64 st,.int .u8 (b:Int)] w fun e w'=>e=.returned (.int .i64 (dr D st b))/\Below w.heap.size w w':=by
 have HB:=hid (Zz (dc.new hD) (Zz (al w (.cells D.cD 101)) hR));have dj:=hR.n2;have Ah:=(hR.ke hD.kl).2;clear hD hR;go_enter func104,ntmps104;go_upto_region 1 with fail;generalize w.alloc (.cells D.cD 101)=W0 at HB⊢;obtain⟨b0,bc⟩:∃b0,w.heap.size=b0:=⟨_,rfl⟩
 have dO:=hid bc;rw[bc] at HB;rw[bc];clear bc;have k0:=HB.out.1.f0 b hb;have hkl:=HB.out.1.dm.kl b hb;have Xk:=HB.out.2.2.c.1 b hb;have i0:(b:Int)<256:=by omega
 have tZ:=hid (PU D st W0 HB.out.1.dm);obtain⟨kb,QX⟩:∃kb,D.K b=kb:=⟨_,rfl⟩
 have Hkb:=hid QX;rw[QX] at k0 hkl Xk;clear QX;go_wp2_with (refine oa (by rfl) 101 _ rfl ⟨b0,0,none⟩ rfl D.cD _ HB.out.1.st.part underlying101 rfl HB.out.1.dm.info ?_);refine tZ.out.mono ?_;rintro e w2 ⟨rfl,b2⟩;have sO:=hid (HB.out.1.aa b2);have HF:Hid (Below w.heap.size w w2):=by
  rw[dO.out];exact HB.out.2.1.trans (b2.mono (by have:=HB.out.2.1.size;have:=dO.out;omega))
 clear b2 tZ k0;by_cases hs:0<=st/\st<(D.n:Int)
 ·obtain⟨s,rfl⟩:∃s:Nat,st=(s:Int):=⟨st.toNat,by omega⟩
  have qn:s<D.n:=by omega
  have HZ:Hid (decide (0<=(s:Int)/\(s:Int)<(D.n:Int))=true):=by show _=_;simp;omega
  have HV:Hid (dr D (s:Int) b=D.nx s kb):=by
   show _=_;unfold dr;rw[if_pos hs,Hkb.out];rfl
  have f1:=sO.out.f1;obtain⟨gN,oN,eN,mC,cN,zN⟩:=sO.out.dm.row s qn;rw[HB.out.2.2.len s qn] at cN zN;rw[eN] at f1;obtain⟨gA,oA,eA,_,oU⟩:=zN (by omega);have cA:=oU kb Xk;rw[eA] at cN;have i1:(kb:Int)<C:=by omega
  have i2:(s:Int)<(D.n:Int):=by omega
  have i3:¬((C:Int)<=kb):=by omega
  rw[HZ.out];have Av:=hid eN;have LO:=hid eA;clear eN eA oU zN hs mC;generalize D.nx s kb=r at cA HV;go_wp2;go_ret;exact⟨by rw[HV.out];first|rfl|simp,HF.out⟩
 have HZ:Hid (decide (0<=st/\st<(D.n:Int))=false):=by show _=_;simp;omega
 have HV:Hid (dr D st b=-1):=by
  show _=_;unfold dr;rw[if_neg hs]
 rw[HZ.out];clear hs;go_wp2;go_ret;exact⟨by rw[HV.out];first|rfl|simp,HF.out⟩
theorem Zr(D:Dd)(C:Nat)(hR:DR D C)(st:Int)(w:World)(hD:DM w D):
  Calls prog 84 #[.agg D.cD,.int .i64 st] w fun e w'=>e=.returned (.int .i64 (dk D st))/\Below w.heap.size w w':=by
 have HB:=hid (Zz (dc.new hD) (Zz (al w (.cells D.cD 101)) hR));have dj:=hR.n2;have nV:=hR.m;clear hD hR;go_enter func84,ntmps84;go_upto_region 1 with fail;generalize w.alloc (.cells D.cD 101)=W0 at HB⊢;obtain⟨b0,bc⟩:∃b0,w.heap.size=b0:=⟨_,rfl⟩
 have dO:=hid bc;rw[bc] at HB;rw[bc];clear bc;have tZ:=hid (PU D st W0 HB.out.1.dm);go_wp2_with (refine oa (by rfl) 101 _ rfl ⟨b0,0,none⟩ rfl D.cD _ HB.out.1.st.part underlying101 rfl HB.out.1.dm.info ?_);refine tZ.out.mono ?_;rintro e w2 ⟨rfl,b2⟩;have sO:=hid (HB.out.1.aa b2);have HF:Hid (Below w.heap.size w w2):=by
  rw[dO.out];exact HB.out.2.1.trans (b2.mono (by have:=HB.out.2.1.size;have:=dO.out;omega))
 clear b2 tZ;by_cases hs:0<=st/\st<(D.n:Int)
 ·obtain⟨s,rfl⟩:∃s:Nat,st=(s:Int):=⟨st.toNat,by omega⟩
  have qn:s<D.n:=by omega
  have HZ:Hid (decide (0<=(s:Int)/\(s:Int)<(D.n:Int))=true):=by show _=_;simp;omega
  have HV:Hid (dk D (s:Int)=D.q s):=by
   show _=_;unfold dk;rw[if_pos hs];rfl
  have f2:=sO.out.f2;obtain⟨gM,oM,eM,_,nA⟩:=sO.out.dm.rM (by omega);have cM:=nA s (by omega);rw[eM,nV] at f2;have i2:(s:Int)<(D.n:Int):=by omega
  have i3:¬((D.n:Int)<=(s:Int)):=by omega
  rw[HZ.out];have YM:=hid eM;clear eM nA hs nV;generalize D.q s=r at cM HV;go_wp2;go_ret;exact⟨by rw[HV.out];first|rfl|simp,HF.out⟩
 have HZ:Hid (decide (0<=st/\st<(D.n:Int))=false):=by show _=_;simp;omega
 have HV:Hid (dk D st=-1):=by
  show _=_;unfold dk;rw[if_neg hs]
 rw[HZ.out];clear hs nV;go_wp2;go_ret;exact⟨by rw[HV.out];first|rfl|simp,HF.out⟩
theorem zmL(D:Dd)(C:Nat)(hR:DR D C)(st:Int)(s:ByteArray)(m:Nat)(hs:s.size=m)(hm:m<=1000000)(w:World)(hD:DM w D):
  Calls prog 85 #[.agg D.cD,.int .i64 st,.string s] w fun e w'=>e=.returned (.int .i64 (dt D st (lQ s) m))/\Below w.heap.size w w':=by
 have HB:=hid (Zz (dc.new hD) (Zz (al w (.cells D.cD 101)) hR));have RL:=hs;have HS:=hid hs;clear hD hR hs;go_enter func85,ntmps85;go_upto_region 1 with fail;generalize w.alloc (.cells D.cD 101)=W0 at HB⊢;obtain⟨b0,bc⟩:∃b0,w.heap.size=b0:=⟨_,rfl⟩
 have dO:=hid bc;rw[bc] at HB;rw[bc];clear bc;go_wp2;go_loopw [1,7,10] (fun v1 _ v wr=>∃(k:Nat),v=.int .i64 k/\k<=m/\v1=.int .i64 (dt D st (lQ s) k)/\Hid (Below W0.heap.size W0 wr)) (fun _ _ v _=>m-(intOf v).toNat)
 ·exact⟨0,rfl,by omega,rfl,Below.refl _ _⟩
 obtain⟨k,rfl,hk,rfl,HX⟩:=hrel;have qa:Hid (∀W',Below W0.heap.size W0 W'->Below w.heap.size w W'):=fun W' h=>by
  rw[dO.out];exact HB.out.2.1.trans (h.mono (by have:=HB.out.2.1.size;have:=dO.out;omega))
 have YE:Hid (dt D st (lQ s) k=-1->dt D st (lQ s) m=-1):=fun h=>S6 D st _ h m hk
 by_cases aw:k<m
 ·have Js:k<s.size:=by rw[RL];exact aw
  obtain⟨bt,uu⟩:∃bt,(s[k]'Js).toNat=bt:=⟨_,rfl⟩
  have zQ:=N6 s k Js;rw[uu] at zQ;have vG:bt<256:=by rw[zQ];exact XS s k
  have kn:Hid (dt D st (lQ s) (k+1)=dr D (dt D st (lQ s) k) bt):=by show dr D (dt D st (lQ s) k) (lQ s k)=_;rw[<-zQ]
  have ZM:Hid (dt D st (lQ s) (k+1)=-1->dt D st (lQ s) m=-1):=fun h=>S6 D st _ h m (by omega)
  have i1:(k:Int)<m:=by omega
  generalize dt D st (lQ s) k=a at kn YE⊢;have dz:Hid (∀W',Below W0.heap.size W0 W'->Below W0.heap.size W0 W'/\dc W' b0 D):=fun W' h=>⟨h,HB.out.1.aa h⟩
  clear zQ;go_upto_region 4 with fail;refine wp_region_held_drew (S:=fun W'=>Below W0.heap.size W0 W'/\dc W' b0 D) (by kernel_rfl) (dz.out _ HX.out.drew) (fun hHeld=>?_)
  (refine aq 0 (v:=.agg D.cD) ?_ (hy:=by intro wz hSw;exact Cm (o:=_) (ρ:=_) wz 101 (.tmp 3) rfl ⟨b0,0,none⟩ rfl D.cD _ (dc.st (And.right hSw)).part underlying101 rfl (dc.dm (And.right hSw)).info))
  (refine aq 1 ?_;refine aq 2 ?_;refine aq 3 ?_;try simp only[put,sA,sB,sC];refine aq 4 ?_;try simp only[put,sA,sB,sC])
  refine aQ 5 (fun K hK=>?_);skip;go_simp;go_at_call 104;refine (zkY D C HB.out.2.2 a bt vG _ hHeld.2.dm).mono ?_;rintro e wj ⟨rfl,vj⟩;have aJ:Below W0.heap.size W0 wj:=hHeld.1.trans (vj.mono hHeld.1.size);clear vj
  try go_wp2_with fail
  refine hK.out _ _ (dz.out _ aJ) (fun hHeld=>?_);clear hK K
  try simp only[put,sA,sB,sC]
  (refine aq 6 ?_;try simp only[put,sA,sB,sC])
  refine wpAnyH_done (by kernel_rfl) ?_ _;have ra:=hid aJ;clear hHeld aJ;rw[<-kn.out];have HF:=hid (qa.out _ ra.out);by_cases hd:dt D st (lQ s) (k+1)=-1
  ·have HV:=hid (ZM.out hd);rw[hd];go_wp2;go_ret;exact⟨by rw[HV.out];first|rfl|simp,HF.out⟩
  have yj:Hid (dt D st (lQ s) (k+1)=dt D st (lQ s) (k+1)):=rfl;obtain⟨r,hr⟩:∃r,dt D st (lQ s) (k+1)=r:=⟨_,rfl⟩
  have Hr:=hid hr;rw[hr] at hd;rw[hr];clear hr yj kn;go_wp2;go_roundw
  ·exact⟨k+1,by go_num,by omega,by rw[Hr.out],ra⟩
  simp[intOf];omega
 obtain rfl:k=m:=by omega
 have HF:=hid (qa.out wr HX.out);clear YE;go_wp2;go_ret;exact⟨rfl,HF.out⟩
theorem zmM(D:Dd)(C:Nat)(hR:DR D C)(s:ByteArray)(m:Nat)(hs:s.size=m)(hm:m<=1000000)(w:World)(hD:DM w D):
  Calls prog 69 #[.agg D.cD,.string s] w fun e w'=>e=.returned (.int .i64 (dk D (dt D 0 (lQ s) m)))/\Below w.heap.size w w':=by
 have HB:=hid (Zz (dc.new hD) (Zz (al w (.cells D.cD 101)) (Zz hR hs)));clear hD hR hs;go_enter func69,ntmps69;go_upto_region 1 with fail;generalize w.alloc (.cells D.cD 101)=W0 at HB⊢;obtain⟨b0,bc⟩:∃b0,w.heap.size=b0:=⟨_,rfl⟩
 have dO:=hid bc;rw[bc] at HB;rw[bc];clear bc;have qa:Hid (∀W',Below W0.heap.size W0 W'->Below w.heap.size w W'):=fun W' h=>by
  rw[dO.out];exact HB.out.2.1.trans (h.mono (by have:=HB.out.2.1.size;have:=dO.out;omega))
 have dz:Hid (∀W',Below W0.heap.size W0 W'->Below W0.heap.size W0 W'/\dc W' b0 D):=fun W' h=>⟨h,HB.out.1.aa h⟩
 refine wp_region_held_drew (S:=fun W'=>Below W0.heap.size W0 W'/\dc W' b0 D) (by kernel_rfl) (dz.out _ (Below.refl _ _).drew) (fun hHeld=>?_)
 (refine aq 0 (v:=.agg D.cD) ?_ (hy:=by intro wz hSw;exact Cm (o:=_) (ρ:=_) wz 101 (.tmp 2) rfl ⟨b0,0,none⟩ rfl D.cD _ (dc.st (And.right hSw)).part underlying101 rfl (dc.dm (And.right hSw)).info))
 (refine aq 1 (v:=.agg D.cD) ?_ (hy:=by intro wz hSw;exact Cm (o:=_) (ρ:=_) wz 101 (.tmp 2) rfl ⟨b0,0,none⟩ rfl D.cD _ (dc.st (And.right hSw)).part underlying101 rfl (dc.dm (And.right hSw)).info))
 (refine aq 2 ?_;try simp only[put,sA,sB,sC])
 refine aQ 3 (fun K hK=>?_);skip;go_simp;go_at_call 85;refine (zmL D C HB.out.2.2.1 0 s m HB.out.2.2.2 hm _ hHeld.2.dm).mono ?_;rintro e wj ⟨rfl,vj⟩;have aJ:Below W0.heap.size W0 wj:=hHeld.1.trans (vj.mono hHeld.1.size);clear vj
 try go_wp2_with fail
 refine hK.out _ _ (dz.out _ aJ) (fun hHeld=>?_);clear hK K
 try simp only[put,sA,sB,sC]
 clear aJ;refine aQ 4 (fun K hK=>?_);skip;go_simp;go_at_call 84;refine (Zr D C HB.out.2.2.1 (dt D 0 (lQ s) m) _ hHeld.2.dm).mono ?_;rintro e wk ⟨rfl,vk⟩;have aJ:Below W0.heap.size W0 wk:=hHeld.1.trans (vk.mono hHeld.1.size);clear vk
 try go_wp2_with fail
 refine hK.out _ _ (dz.out _ aJ) (fun hHeld=>?_);clear hK K
 try simp only[put,sA,sB,sC]
 (refine aq 5 ?_;try simp only[put,sA,sB,sC])
 refine wpAnyH_done (by kernel_rfl) ?_ _;have HF:=hid (qa.out _ aJ);clear hHeld aJ;go_wp2;go_ret;exact⟨rfl,HF.out⟩
def zo(l:List Nat)(t:Int):Int:=if t=-1 then -1 else ((l.idxOf t.toNat:Nat):Int)
def il(D:Dd)(l:List Nat)(i c:Nat):Int:=zo l (D.nx (l.getD i 0) c)
theorem zoK{l1 l2:List Nat}(h:l1 <+: l2)(hx:x∈l1):l2.idxOf x=l1.idxOf x:=by
 obtain⟨t,rfl⟩:=h;rw[List.idxOf_append,if_pos hx]
theorem Lm(hR:DR D C)(i:Nat):∀x∈cH (av D.len D.nx) [0] i,x<D.n:=by
 have h0:=hR.n1
 induction i with
 | zero=>intro x hx;rw[List.mem_singleton.1 hx];omega
 | succ i ih=>
  intro x hx;have kY:x∈o8 (av D.len D.nx) (cH (av D.len D.nx) [0] i) i:=hx;unfold o8 at kY;split at kY
  ·rename_i h;rw[RF] at kY;rcases kY with h1|h1
   ·exact ih x h1
   have hm:(cH (av D.len D.nx) [0] i).getD i 0∈cH (av D.len D.nx) [0] i:=by
    rw[show (cH (av D.len D.nx) [0] i).getD i 0=(cH (av D.len D.nx) [0] i)[i] by simp[getD_eq_getElem?_getD,h]];exact getElem_mem h
   have hs:=ih _ hm;generalize (cH (av D.len D.nx) [0] i).getD i 0=y at h1 hs;unfold av at h1;obtain⟨c,hc,e⟩:=List.mem_map.1 h1;have jf:c<D.len y:=List.mem_range.1 hc;exact hR.ed _ _ ⟨hs,c,jf,e⟩
  exact ih x kY
theorem Y7(hR:DR D C):∃k,(cH (av D.len D.nx) [0] k).length=k/\k<=D.n:=by
 have hb:∀i,(cH (av D.len D.nx) [0] i).length<=D.n:=fun i=>pW (Kk _ (by simp) i) (Lm hR i)
 have hp:∀i j,i<=j->(cH (av D.len D.nx) [0] i).length<=(cH (av D.len D.nx) [0] j).length:=fun i j h=>by
  induction j with
  | zero=>rw[show i=0 by omega];exact le_refl _
  | succ j ih=>
   by_cases e:i=j+1
   ·rw[e];exact le_refl _
   exact Nat.le_trans (ih (by omega)) (Kz _ _ j).length_le
 have key:∀m,(∃k,k<=m/\(cH (av D.len D.nx) [0] k).length=k)\/m<(cH (av D.len D.nx) [0] m).length:=by
  intro m
  induction m with
  | zero=>exact Or.inr (by simp[cH])
  | succ m ih=>
   rcases ih with ⟨k,h1,h2⟩|h
   ·exact Or.inl ⟨k,by omega,h2⟩
   have:=hp m (m+1) (by omega);by_cases e:(cH (av D.len D.nx) [0] (m+1)).length=m+1
   ·exact Or.inl ⟨m+1,le_refl _,e⟩
   exact Or.inr (by omega)
 rcases key D.n with ⟨k,h1,h2⟩|h
 ·exact⟨k,h2,h1⟩
 have:=hb D.n;omega
theorem zpD{rows:Nat->List Int}{m:List Nat}{i:Nat}(h:i<=k):cH rows m i <+: cH rows m k:=by
 induction k with
 | zero=>rw[show i=0 by omega];exact List.prefix_refl _
 | succ k ih=>
  by_cases e:i=k+1
  ·rw[e];exact List.prefix_refl _
  exact (ih (by omega)).trans (Kz rows m k)
section
variable {W0 : World}{b4 C : Nat}{K : Nat → Nat}{vN : Value}{R : List (List Int)}{ws : Nat → Value}{vK : Value}{ms : List Int}{vL : Value}{l : List Nat}{w : World}
end
section
variable {W0 : World}{b4 C z : Nat}{K : Nat → Nat}{vN : Value}{R : List (List Int)}{ws : Nat → Value}{vK : Value}{ms : List Int}{vL vW : Value}{l : List Nat}{row : List Int}{w : World}
end
theorem Gz{P:Program}{ops:Array Oper}{o:Oper}{a:Act}{w:World}{K:Act->World->Prop}{Q:Exit->Act->World->Prop}{E:Prop}(qF:o.guard=none)(s x:Operand)(t:TypeId)
  (ho:o.op=.call { callee:=.builtin .append,args:=#[s,x],argTypes:=#[t,t] })
  (base:Nat) (e:TypeId) (i:TypeInfo) (z:Value) (size bytes:Nat) (ht:P.underlying t=some (.slice e)) (hi:P.info? e=some i) (hz:i.zero=some z)
  (qC:i.size=size) (Hi:i.bytes=bytes) (II:z.cells.size=size) (da:0<size)
  (v:Value) (n:Nat) (xs:List Value) (hs:a.eval s=v) (aX:w.ownsRow base e size v n xs)
  (ad:Addr) (m c:Nat) (news:List Value) (hx:a.eval x=.slice (some ad) m c) (hl:news.length=m*size) (qU:∀j u,news[j]?=some u->w.cell? (ad.add j)=some u) (h1:∀u∈news,u.oneCell'=true)
  (Jo:n+m<=maxLen) (kg:(n+m)*bytes<=140737488355328) (qX:base<=w.heap.size)
  (h:∀v' w',w'.ownsRow base e size v' (n+m) (xs++news)->w.grownBy w' v.ownBlock->(v'.ownBlock=v.ownBlock\/v'.ownBlock=some w.heap.size)->K (a.put o.dst v') w'):
  if Region.wanted o (yielded ops a.tmps)=true then Oper.wp P o a w K Q else E:=by
 have hw:Region.wanted o (yielded ops a.tmps)=true:=by simp[Region.wanted,qF]
 rw[if_pos hw];obtain⟨v',w',hr,h2,h3,_,h5⟩:=run_append_own_at (P:=P) w base t o.type e i z size bytes ht hi hz qC Hi II da v n xs aX ad m c news hl qU h1 Jo kg qX;unfold Oper.wp execOp;simp only[ho,resolve,invoke,builtin,Sem.run_bind,Sem.run_pure,Result.andThen_ok,List.map_toArray,List.map_cons,List.map_nil,hs,hx,hr];exact h v' w' h2 h3 h5
def pZ(D:Dd)(C:Nat)(l:List Nat)(i:Nat):List (List Int):=(range i).map fun j=>(range C).map (il D l j)
def rm(D:Dd)(l:List Nat)(i:Nat):List Int:=(range i).map fun j=>D.q (l.getD j 0)
theorem Dx(D:Dd)(C:Nat)(l:List Nat)(i:Nat):(pZ D C l i).length=i:=by simp[pZ]
theorem MA(D:Dd)(l:List Nat)(i:Nat):(rm D l i).length=i:=by simp[rm]
theorem zmN(D:Dd)(C:Nat)(l:List Nat)(i:Nat):pZ D C l (i+1)=pZ D C l i++[(range C).map (il D l i)]:=by
 unfold pZ;rw[List.range_succ,List.map_append];rfl
theorem zmO(D:Dd)(l:List Nat)(i:Nat):rm D l (i+1)=rm D l i++[D.q (l.getD i 0)]:=by
 unfold rm;rw[List.range_succ,List.map_append];rfl
theorem T9:∀(args:Array Value) (W:World),(callFunc 126 args).run prog W=.ok (.enter 126 args) W:=fun _ _=>by rfl
def vb(f:Nat->Nat)(n:Nat):List Value:=(range n).map fun y=>Value.int .i64 ((f y:Nat):Int)
theorem zoL(f:Nat->Nat)(n x v:Nat):(vb f n).set x (.int .i64 (v:Int))=vb (fun y=>if y=x then v else f y) n:=by
 unfold vb;apply List.ext_getElem?;intro i;rw[List.getElem?_set];by_cases e:x=i
 ·subst e;by_cases h:x<n
  ·simp[h]
  simp[h]
 rw[if_neg e];by_cases h:i<n
 ·simp[h,Ne.symm e,show ¬i=x from fun h=>e h.symm]
 simp[h]
theorem zmP(n:Nat):List.replicate n (Value.int .i64 0)=vb (fun _=>0) n:=by
 unfold vb;apply List.ext_getElem?;intro i;by_cases h:i<n <;> simp[h]
theorem Xb(b5 n g:Nat)(f:Nat->Nat)(w:World)(hS:St w 43 b5 #[.slice (some ⟨g,0,none⟩) n n])(hc:∀x,x<n->w.cell? ⟨g,x,none⟩=some (.int .i64 ((f x:Nat):Int)))(x:Nat)(hx:x<n):
  Calls prog 126 #[.int .i64 (x:Int),.pointer (some ⟨b5,0,none⟩)] w fun e w'=>e=.returned (.int .i64 ((f x:Nat):Int))/\w'=w:=by
 have c0:w.cell? ⟨b5,0,none⟩=some (.slice (some ⟨g,0,none⟩) n n):=hS.at_ 0;have d0:=hc x hx;have i1:(x:Int)<n:=by omega
 clear hc;go_enter func126,ntmps126;go_wp2;go_ret;exact⟨rfl,rfl⟩
theorem Xh(D:Dd)(C:Nat)(l:List Nat)(k:Nat)(hl:l=cH (av D.len D.nx) [0] k)(dE:l.length=k)(rL:k<=D.n)(w:World)(hD:DM w D)(hR:DR D C):
  Calls prog 98 #[.agg D.cD] w (CW D C k (il D l) (fun i=>D.q (l.getD i 0)) w):=by
 have zy:∀(fn:Fn) (first cap:Array Value) (w:World),(Instr.makeFunc fn first cap).run prog w=.ok (.func fn first cap) w:=fun _ _ _ _=>rfl
 have dj:=hR.n2;have fA:=hR.n1;have nV:=hR.m;have Ah:=(hR.ke hD.kl).2;have iZ:=Fu D.n (by omega);have HB:=hid (Zz (dc.new hD) (Zz (al w (.cells D.cD 101)) hR));have HL:=hid (Zz hl dE);obtain⟨iI,hI,pT,qd,qb⟩:=info_parts az;obtain⟨iV,hV,ur,ub,uC⟩:=info_parts dP;clear hD hR hl dE;go_enter func98,ntmps98;go_upto_region 1 with (refine rB rfl 101 rfl (zC 101) (nG _) ?_);simp only[put,List.setIfInBounds_toArray,List.set_cons_zero,List.set_cons_succ,Ib];have H0:Hid (dc ((w.alloc (.cells D.cD 101)).alloc (.cells (zC 101) 101)) w.heap.size D/\St ((w.alloc (.cells D.cD 101)).alloc (.cells (zC 101) 101)) 101 (w.heap.size+1) (zC 101)/\Below w.heap.size w ((w.alloc (.cells D.cD 101)).alloc (.cells (zC 101) 101))):=by
  refine⟨HB.out.1.aa (al _ _),?_,HB.out.2.1.trans ((al _ _).mono (by simp))⟩;have:=St.new (w.alloc (.cells D.cD 101)) 101 (zC 101);simpa using this
 generalize (w.alloc (.cells D.cD 101)).alloc (.cells (zC 101) 101)=Wb at H0⊢;obtain⟨b2,cv⟩:∃b2,w.heap.size+1=b2:=⟨_,rfl⟩
 obtain⟨b0,bc⟩:∃b0,w.heap.size=b0:=⟨_,rfl⟩
 rw[cv,bc] at H0;rw[cv,bc];have Hb:=hid (Zz bc cv);clear cv bc;have sY:=hid (Jc D C HB.out.2.2 Wb H0.out.1.dm);go_wp2_with (refine oa (by rfl) 101 _ rfl ⟨b0,0,none⟩ rfl D.cD _ H0.out.1.st.part underlying101 rfl H0.out.1.dm.info ?_);refine sY.out.mono ?_;rintro e wy ⟨rfl,rD⟩;have H1:Hid (dc wy b0 D/\St wy 101 b2 (zC 101)/\Below b0 w wy):=⟨H0.out.1.aa rD,H0.out.2.1.aa rD,H0.out.2.2.trans (rD.mono (by have:=H0.out.2.2.size;have:=Hb.out.1;omega))⟩
 have I8:Hid (b0<=wy.heap.size):=by have h1:=H0.out.2.2.size;have h2:=rD.size;have h3:=Hb.out.1;show _<=_;omega
 have f1:=H1.out.1.f1;have k1:=al wy (.cells #[.int .i64 0] 3);have X5:=hid (Ze D.n D.cN D.aN D.A D.Cp D.len D.nx [0] (some ⟨wy.heap.size,0,none⟩) 1 1 (by omega) (fun i hi=>by rw[HB.out.2.2.len i hi];omega) (fun i c hi hc=>HB.out.2.2.nx i c hi (by rw[<-HB.out.2.2.len i hi];exact hc)) rfl (by simp) (fun x hx=>by rw[List.mem_singleton.1 hx];omega) (wy.alloc (.cells #[.int .i64 0] 3)) (H1.out.1.aa k1).dm.rN (uj (Bl wy wy.heap.size 3 1 #[.int .i64 0] 1 rfl (le_refl _) (by decide)) rfl) (fun h=>by cases h) (fun ad h=>by injection h with h;rw[<-h]));have O4:=hid k1;clear rD sY k1;go_wp2_with fail;refine X5.out.mono ?_;rintro e w3 ⟨l9,i9,aL,cL,rfl,Yb,xd,Ey,_,ia,b3⟩;have hk9:l9=l/\i9=k:=by
  have h1:(cH (av D.len D.nx) [0] i9).length=i9:=by rw[<-xd];exact Ey
  have h2:=zmT (av D.len D.nx) [0] h1 (by rw[<-HL.out.1];exact HL.out.2:(cH (av D.len D.nx) [0] k).length=k);have h3:l9=l:=by rw[xd,h2,<-HL.out.1]
  exact⟨h3,by rw[<-Ey,h3];exact HL.out.2⟩
 obtain⟨rfl,rfl⟩:=hk9;have Rg:Hid (l9.Nodup/\(∀x∈l9,x<D.n)):=⟨by rw[HL.out.1];exact Kk _ (by simp) _,ia⟩
 have H3:Hid (dc w3 b0 D/\St w3 101 b2 (zC 101)/\Below b0 w w3/\nH w3 aL l9):=by
  have k2:=O4.out.trans (b3.mono O4.out.size);exact⟨H1.out.1.aa k2,H1.out.2.1.aa k2,H1.out.2.2.trans (k2.mono I8.out),uj Yb Ey⟩
 have Io:Hid (b0<=w3.heap.size):=by have h1:=O4.out.size;have h2:=b3.size;have h3:=I8.out;show _<=_;omega
 clear Yb xd Ey ia b3 X5 f1;have f1:=H3.out.1.f1;have Xr:Hid ((w3.alloc (.cells (madeCells #[.int .i64 0] D.n) 3)).ownsRow w3.heap.size 3 1 (.slice (some ⟨w3.heap.size,0,none⟩) D.n D.n) D.n (vb (fun _=>0) D.n)):=by
  have h:=Cx w3 w3.heap.size D.n 3 (.int .i64 0) (le_refl _) (by unfold maxLen;omega);rw[zmP] at h;exact h
 have k3:=al w3 (.cells (madeCells #[.int .i64 0] D.n) 3);go_upto_region 5 with fail;have k4:=al (w3.alloc (.cells (madeCells #[.int .i64 0] D.n) 3)) (.cells #[.slice (some ⟨w3.heap.size,0,none⟩) D.n D.n] 43);have EY:Hid (((w3.alloc (.cells (madeCells #[.int .i64 0] D.n) 3)).alloc (.cells #[.slice (some ⟨w3.heap.size,0,none⟩) D.n D.n] 43)).ownsRow w3.heap.size 3 1 (.slice (some ⟨w3.heap.size,0,none⟩) D.n D.n) D.n (vb (fun _=>0) D.n)/\St ((w3.alloc (.cells (madeCells #[.int .i64 0] D.n) 3)).alloc (.cells #[.slice (some ⟨w3.heap.size,0,none⟩) D.n D.n] 43)) 43 (w3.heap.size+1) #[.slice (some ⟨w3.heap.size,0,none⟩) D.n D.n]/\Below w3.heap.size w3 ((w3.alloc (.cells (madeCells #[.int .i64 0] D.n) 3)).alloc (.cells #[.slice (some ⟨w3.heap.size,0,none⟩) D.n D.n] 43))):=by
  refine⟨dp Xr.out k4,?_,k3.trans (k4.mono k3.size)⟩;have:=St.new (w3.alloc (.cells (madeCells #[.int .i64 0] D.n) 3)) 43 #[.slice (some ⟨w3.heap.size,0,none⟩) D.n D.n];simpa using this
 generalize (w3.alloc (.cells (madeCells #[.int .i64 0] D.n) 3)).alloc (.cells #[.slice (some ⟨w3.heap.size,0,none⟩) D.n D.n] 43)=W5 at EY⊢;obtain⟨b5,rJ⟩:∃b5,w3.heap.size+1=b5:=⟨_,rfl⟩
 obtain⟨gU,LK⟩:∃gU,w3.heap.size=gU:=⟨_,rfl⟩
 rw[rJ,LK] at EY;rw[rJ,LK];have HgU:=hid LK;clear rJ LK k3 k4 Xr f1;obtain⟨gL,oL,rfl,CL,A4⟩:=H3.out.2.2.2 (by
  have h:=(LB (av D.len D.nx) [0] i9).length_le
  rw[<-HL.out.1] at h
  exact h)
 have IE:=hid A4;have Py:=hid CL;clear A4 CL;have lA:=hid HL.out.2;go_wp2;go_loopw [5,6,24] (fun _ _ v wr=>∃(j:Nat) (f:Nat->Nat),v=.int .i64 j/\j<=i9/\Hid (wr.ownsRow gU 3 1 (.slice (some ⟨gU,0,none⟩) D.n D.n) D.n (vb f D.n)/\St wr 43 b5 #[.slice (some ⟨gU,0,none⟩) D.n D.n]/\Below gU w3 wr/\∀j',j'<j->f (l9.getD j' 0)=j')) (fun _ _ v _=>i9-(intOf v).toNat)
 ·exact⟨0,_,rfl,by omega,⟨EY.out.1,EY.out.2.1,EY.out.2.2,fun j' h=>by omega⟩⟩
 clear EY;obtain⟨j,f,rfl,hj,HA⟩:=hrel;have ju:Below w3.heap.size w3 wr:=by rw[HgU.out];exact HA.out.2.2.1
 by_cases aw:j<i9
 ·have hjl:j<l9.length:=by rw[lA.out];exact aw
  have d0:=(ju.cell (p:=⟨gL,oL+j,none⟩) Py.out).trans (IE.out j hjl);have AE:l9.getD j 0=l9[j]:=by simp[getD_eq_getElem?_getD,hjl]
  have iL:l9.getD j 0<D.n:=by rw[AE];exact Rg.out.2 _ (getElem_mem hjl)
  have HS:Hid (∀j',j'<j+1->(fun y=>if y=l9.getD j 0 then j else f y) (l9.getD j' 0)=j'):=fun j' h=>by
   by_cases e:j'=j
   ·subst e;simp
   have h2:j'<l9.length:=(by omega);have hne:¬l9.getD j' 0=l9.getD j 0:=fun h3=>by
    exact e (MO Rg.out.1 h2 hjl h3)
   simp only[if_neg hne];exact HA.out.2.2.2 j' (by omega)
  obtain⟨g9,e9,_,_,c9⟩:=eR HA.out.1 (by omega);obtain rfl:g9=gU:=by
   injection e9 with e9;injection e9 with e9 _;exact e9.symm
  have e5:wr.cell? ⟨b5,0,none⟩=some (.slice (some ⟨g9,0,none⟩) D.n D.n):=HA.out.2.1.at_ 0
  try dsimp only at d0
  clear AE;generalize l9.getD j 0=x at d0 iL HS;obtain⟨y0,y1⟩:=c9 x (by omega);have y2:(vb f D.n)[x]?=some (.int .i64 ((f x:Nat):Int)):=by simp[vb,iL]
  rw[y2] at y0;have HP:Hid ((wr.setCell ⟨g9,x,none⟩ (.int .i64 (j:Int))).ownsRow g9 3 1 (.slice (some ⟨g9,0,none⟩) D.n D.n) D.n (vb (fun y=>if y=x then j else f y) D.n)/\St (wr.setCell ⟨g9,x,none⟩ (.int .i64 (j:Int))) 43 b5 #[.slice (some ⟨g9,0,none⟩) D.n D.n]/\Below g9 w3 (wr.setCell ⟨g9,x,none⟩ (.int .i64 (j:Int)))):=by
   refine⟨?_,HA.out.2.1.eD (p:=⟨g9,x,none⟩) (fun h=>dG HA.out.1 HA.out.2.1 (by decide) g9 rfl h.symm) _,HA.out.2.2.1.setCell (p:=⟨g9,x,none⟩) (le_refl _) _⟩;have:=vn HA.out.1 x iL (.int .i64 (j:Int));rwa [zoL] at this
  have i1:(j:Int)<i9:=by omega
  have i2:(x:Int)<(D.n:Int):=by omega
  clear c9 e9 y2 ju;go_wp2;go_roundw
  ·exact⟨j+1,_,by go_num,by omega,⟨HP.out.1,HP.out.2.1,HP.out.2.2,HS.out⟩⟩
  simp[intOf];omega
 obtain rfl:j=i9:=by omega
 obtain⟨Wn,rfl⟩:∃Wn,Wn=wr:=⟨wr,rfl⟩
 have HN:Hid (dc Wn b0 D/\St Wn 101 b2 (zC 101)/\Below b0 w Wn/\St Wn 43 b5 #[.slice (some ⟨gU,0,none⟩) D.n D.n]/\b0<=Wn.heap.size):=⟨H3.out.1.aa ju,H3.out.2.1.aa ju,H3.out.2.2.1.trans (ju.mono Io.out),HA.out.2.1,Nat.le_trans Io.out ju.size⟩
 have uy:Hid (∀x,x<D.n->Wn.cell? ⟨gU,x,none⟩=some (.int .i64 ((f x:Nat):Int))):=fun x hx=>by
  obtain⟨g9,e9,_,_,c9⟩:=eR HA.out.1 (by omega);have e8:g9=gU:=by
   injection e9 with e9;injection e9 with e9 _;exact e9.symm
  subst e8;rw[(c9 x (by omega)).1];simp[vb,hx]
 have P9:Hid (∀x∈l9,f x=l9.idxOf x):=fun x hx=>by
  have h1:l9.idxOf x<l9.length:=List.idxOf_lt_length_iff.2 hx;have h2:=HA.out.2.2.2 (l9.idxOf x) (by have:=lA.out;omega);rw[show l9.getD (l9.idxOf x) 0=l9[l9.idxOf x] by simp[getD_eq_getElem?_getD,h1],List.getElem_idxOf h1] at h2;exact h2
 have CM:Hid (gL<Wn.heap.size/\gU<Wn.heap.size):=by
  refine⟨Nat.lt_of_lt_of_le Py.out ju.size,?_⟩;obtain⟨g9,e9,_,h9,_⟩:=eR HA.out.1 (by omega);injection e9 with e9;injection e9 with e9 _;rw[e9];exact h9
 have NZ:Hid (∀i,i<j->Wn.cell? ⟨gL,oL+i,none⟩=some (.int .i64 ((l9.getD i 0:Nat):Int))):=fun i hi=>(ju.cell (p:=⟨gL,oL+i,none⟩) Py.out).trans (IE.out i (by rw[lA.out];exact hi))
 clear HA ju;have sO:=hid HN.out.1;have k5:=al Wn (.cells (zC 101) 101);have gj:St (Wn.alloc (.cells (zC 101) 101)) 101 Wn.heap.size (zC 101):=St.new _ _ _;have F0:gZ Wn Wn.heap.size D.K C (.slice none 0 0) (pZ D C l9 0) (fun _=>.slice none 0 0) (.slice none 0 0) (rm D l9 0) ((Wn.alloc (.cells (zC 101) 101)).setRow Wn.heap.size (df D.K (.slice none 0 0) (.slice none 0 0))):=gZ.start (V0:=Wn) (K:=D.K) (C:=C) (ws:=fun _=>.slice none 0 0) (a:=none) (c:=0) (ms:=[]) (World.ownsRow_nil _ _ _ _) rfl k5 gj (le_refl _);have jy:=hid F0;have iG:=hid gj;clear k5 gj F0;go_upto_region 11 with (first
  | (refine si rfl 98 _ rfl ⟨b0,0,none⟩ rfl (aY D.K) (.array 256 5) sO.out.eo underlying98 rfl (y9 D.K) ?_)
  | (refine BU rfl 101 _ rfl #[(0,.agg (aY D.K))] (by first|rfl|kernel_rfl|(go_simp;done)) (.agg (df D.K (.slice none 0 0) (.slice none 0 0))) (Sl D.K _) ?_)
  | (refine rB rfl 101 rfl (zC 101) (nG _) ?_)
  | (refine pN rfl 101 _ _ rfl Wn.heap.size 101 (zC 101) (df D.K (.slice none 0 0) (.slice none 0 0)) rfl rfl iG.out (by rw[jA,mw]) (by rw[gO,mw]) (xe _ _ _ _ _ _ _) ?_))
 simp only[put,sA,sB,sC];obtain⟨b4,iM⟩:∃b4,Wn.heap.size=b4:=⟨_,rfl⟩
 have Fk:=hid iM;rw[iM] at jy;rw[iM];generalize (Wn.alloc (.cells (zC 101) 101)).setRow b4 (df D.K (.slice none 0 0) (.slice none 0 0))=W4 at jy⊢;clear iM iG;have i4:j<=32768:=by omega
 go_wp2;go_loopw [9,39] (fun _ v wr=>∃(i:Nat) (ws:Nat->Value) (aN aK:Option Addr) (cN cK:Nat),v=.int .i64 i/\i<=j/\Hid (gZ Wn b4 D.K C (.slice aN i cN) (pZ D C l9 i) ws (.slice aK i cK) (rm D l9 i) wr)) (fun _ v _=>j-(intOf v).toNat)
 ·exact⟨0,_,none,none,0,0,rfl,by omega,jy⟩
 clear jy;obtain⟨i,ws,aN,aK,cN,cK,rfl,hi,HT⟩:=hrel;by_cases aw:i<j
 ·have sK:i<l9.length:=by rw[lA.out];exact aw
  have d0:=(HT.out.aU.cell (p:=⟨gL,oL+i,none⟩) CM.out.1).trans (NZ.out i aw);have AE:l9.getD i 0=l9[i]:=by simp[getD_eq_getElem?_getD,sK]
  have iL:l9.getD i 0<D.n:=by rw[AE];exact Rg.out.2 _ (getElem_mem sK)
  have uI:Hid ((range C).map (oj (D.nx (l9.getD i 0)) (fun y=>((f y:Nat):Int)))=(range C).map (il D l9 i)):=by
   show _=_;refine(List.map_congr_left fun c hc=>?_);have jf:c<C:=(by simpa using hc);have hb:=HB.out.2.2.nx (l9.getD i 0) c iL jf;unfold oj il zo;by_cases h1:D.nx (l9.getD i 0) c=-1
   ·rw[if_pos h1,if_pos h1]
   rw[if_neg h1,if_neg h1];have hm:(D.nx (l9.getD i 0) c).toNat∈l9:=by
    have h2:=J9 (av D.len D.nx) [0] j i aw (by rw[<-HL.out.1];exact sK) (D.nx (l9.getD i 0) c).toNat (by
     unfold WE av
     have e7:(cH (av D.len D.nx) [0] j)[i]'(by rw[<-HL.out.1];exact sK)=l9.getD i 0:=by
      rw[AE]
      congr 1
      exact HL.out.1.symm
     unfold av at e7
     rw[e7,HB.out.2.2.len _ iL]
     refine List.mem_map.2 ⟨c,by simpa using jf,?_⟩
     omega)
    rw[<-HL.out.1] at h2;exact h2
   dsimp only;rw[P9.out _ hm]
  have wv:Hid (rm D l9 (i+1)=rm D l9 i++[D.q (l9.getD i 0)]):=zmO D l9 i;have BP:Hid (pZ D C l9 (i+1)=pZ D C l9 i++[(range C).map (il D l9 i)]):=zmN D C l9 i;have i1:(i:Int)<j:=by omega
  try dsimp only at d0
  clear AE sK;generalize l9.getD i 0=x at d0 iL uI wv;have i2:(x:Int)<(D.n:Int):=by omega
  obtain⟨gM,oM,eM,r9,nA⟩:=HN.out.1.dm.rM (by omega);have nD:=HN.out.1.f2;rw[eM] at nD;have i3:(x:Int)<(D.m:Int):=by omega
  have ID:=nA x (by omega);have dz:Hid (∀W',Below Wn.heap.size Wn W'->Below Wn.heap.size Wn W'/\W'.cell? ⟨b0,257,none⟩=some (.slice (some ⟨gM,oM,none⟩) D.m D.cM)/\W'.cell? ⟨gM,oM+x,none⟩=some (.int .i64 (D.q x))):=fun W' h=>⟨h,(h.cell (p:=⟨b0,257,none⟩) HN.out.1.st.lt).trans nD,(h.cell (p:=⟨gM,oM+x,none⟩) r9).trans ID⟩
  clear eM r9 nA nD ID;generalize D.q x=qx at dz wv;go_upto_region 14 with fail;clear d0
  go_cut [9] from 43 to 52 (fun v wx=>v=.int .i64 (x:Int)/\∃(a9:Option Addr) (c9:Nat),gZ Wn b4 D.K C (.slice aN i cN) (pZ D C l9 i) ws (.slice a9 (i+1) c9) (rm D l9 (i+1)) wx)
  case first=>
   refine wp_region_held_drew (S:=fun W'=>Below Wn.heap.size Wn W'/\W'.cell? ⟨b0,257,none⟩=some (.slice (some ⟨gM,oM,none⟩) D.m D.cM)/\W'.cell? ⟨gM,oM+x,none⟩=some (.int .i64 qx)) (by kernel_rfl) (dz.out _ HT.out.aU.drew) (fun hHeld=>?_);have HO:Hid (gZ Wn b4 D.K C (.slice aN i cN) (pZ D C l9 i) ws (.slice aK i cK) (rm D l9 i) wr.drew):=HT.out.aa (Below.refl _ _).drew
   (refine aq 0 ?_;refine aq 2 ?_;refine aq 3 ?_;try simp only[put,sA,sB,sC];refine aq 4 ?_;refine aq 5 ?_;refine aq 6 ?_;try simp only[put,sA,sB,sC])
   refine wpAnyH_ready (rs:=[1,7]) (by kernel_rfl) (by simp) ?_;refine eV (fun K hK=>?_) ?_
   ·skip;have f2:=HO.out.f2;go_simp;refine hK.out _ _ (hHeld) (fun hHeld=>?_);clear hK K
    try simp only[put,sA,sB,sC]
    clear f2;refine aQ 7 (fun K hK=>?_);skip;go_simp;have kk:=al wr.drew (.cells #[.int .i64 qx] 3);have kQ:Hid (∀j u,[Value.int .i64 qx][j]?=some u->((wr.alloc (.cells #[.int .i64 qx] 3)).drew).cell? ((⟨wr.heap.size,0,none⟩:Addr).add j)=some u):=cell_one_new wr.drew _ _;have HO:Hid (gZ Wn b4 D.K C (.slice aN i cN) (pZ D C l9 i) ws (.slice aK i cK) (rm D l9 i) ((wr.alloc (.cells #[.int .i64 qx] 3)).drew)):=HO.out.aa kk;refine hK.out _ _ (dz.out _ HO.out.aU) (fun hHeld=>?_);clear hK K
    try simp only[put,sA,sB,sC]
    clear kk;generalize (wr.alloc (.cells #[.int .i64 qx] 3)).drew=V5 at kQ HO hHeld⊢;refine aQ 8 (fun K hK=>?_);skip;have hO:=HO.out.ct;rw[MA] at hO;refine Gz (by rfl) _ _ _ (by rfl) Wn.heap.size 3 iI (.int .i64 0) 1 8 underlying43 hI pT qd qb (by rfl) (by decide) _ i (ints (rm D l9 i)) (by rfl) hO ⟨wr.heap.size,0,none⟩ 1 1 [.int .i64 qx] (by rfl) (by rfl) kQ.out (by intro u hu;simp at hu;subst hu;rfl) (by unfold maxLen;omega) (by omega) HO.out.aU.size ?_;intro v6 w6 an af bH;obtain⟨a9,c9,rfl⟩:=bF an;have sG:=hid (HO.out.mq (vK':=.slice a9 (i+1) c9) (MA D l9 i) an af bH);have h9:=HO.out.st.ag HO.out.ct (by decide) af;have z2:w6.cell? ⟨b4,257,none⟩=some (.slice aK i cK):=(by rw[h9.at_,yv]);have z3:w6.frozen? ⟨b4,257,none⟩=false:=h9.ba 257;have ec:=fH HO.out.aU HO.out.ct HO.out.aU.size af;clear an af bH h9 hO;refine hK.out _ _ (dz.out _ ec) (fun hHeld=>?_);clear hK K
    try simp only[put,sA,sB,sC]
    (refine aq 9 ?_;try simp only[put,sA,sB,sC])
    refine aQ 10 (fun K hK=>?_);skip;go_simp;refine hK.out _ _ (dz.out _ sG.out.aU) (fun hHeld=>?_);clear hK K
    try simp only[put,sA,sB,sC]
    refine wpAnyH_done (by kernel_rfl) ?_ _;rw[<-wv.out] at sG;clear hHeld z2 z3 ec;go_wp2_with fail
    go_meet
    exact⟨rfl,a9,c9,sG.out⟩
   refine eV (fun K hK=>?_) ?_
   ·skip;go_simp;have kk:=al wr.drew (.cells #[.int .i64 qx] 3);have kQ:Hid (∀j u,[Value.int .i64 qx][j]?=some u->((wr.alloc (.cells #[.int .i64 qx] 3)).drew).cell? ((⟨wr.heap.size,0,none⟩:Addr).add j)=some u):=cell_one_new wr.drew _ _;have HO:Hid (gZ Wn b4 D.K C (.slice aN i cN) (pZ D C l9 i) ws (.slice aK i cK) (rm D l9 i) ((wr.alloc (.cells #[.int .i64 qx] 3)).drew)):=HO.out.aa kk;refine hK.out _ _ (dz.out _ HO.out.aU) (fun hHeld=>?_);clear hK K
    try simp only[put,sA,sB,sC]
    clear kk;generalize (wr.alloc (.cells #[.int .i64 qx] 3)).drew=V5 at kQ HO hHeld⊢;refine aQ 1 (fun K hK=>?_);skip;have f2:=HO.out.f2;go_simp;refine hK.out _ _ (hHeld) (fun hHeld=>?_);clear hK K
    try simp only[put,sA,sB,sC]
    clear f2;refine aQ 8 (fun K hK=>?_);skip;have hO:=HO.out.ct;rw[MA] at hO;refine Gz (by rfl) _ _ _ (by rfl) Wn.heap.size 3 iI (.int .i64 0) 1 8 underlying43 hI pT qd qb (by rfl) (by decide) _ i (ints (rm D l9 i)) (by rfl) hO ⟨wr.heap.size,0,none⟩ 1 1 [.int .i64 qx] (by rfl) (by rfl) kQ.out (by intro u hu;simp at hu;subst hu;rfl) (by unfold maxLen;omega) (by omega) HO.out.aU.size ?_;intro v6 w6 an af bH;obtain⟨a9,c9,rfl⟩:=bF an;have sG:=hid (HO.out.mq (vK':=.slice a9 (i+1) c9) (MA D l9 i) an af bH);have h9:=HO.out.st.ag HO.out.ct (by decide) af;have z2:w6.cell? ⟨b4,257,none⟩=some (.slice aK i cK):=(by rw[h9.at_,yv]);have z3:w6.frozen? ⟨b4,257,none⟩=false:=h9.ba 257;have ec:=fH HO.out.aU HO.out.ct HO.out.aU.size af;clear an af bH h9 hO;refine hK.out _ _ (dz.out _ ec) (fun hHeld=>?_);clear hK K
    try simp only[put,sA,sB,sC]
    (refine aq 9 ?_;try simp only[put,sA,sB,sC])
    refine aQ 10 (fun K hK=>?_);skip;go_simp;refine hK.out _ _ (dz.out _ sG.out.aU) (fun hHeld=>?_);clear hK K
    try simp only[put,sA,sB,sC]
    refine wpAnyH_done (by kernel_rfl) ?_ _;rw[<-wv.out] at sG;clear hHeld z2 z3 ec;go_wp2_with fail
    go_meet
    exact⟨rfl,a9,c9,sG.out⟩
   exact AllReadyH.nil
  case rest=>
   obtain⟨rfl,a9,c9,SC⟩:=hcut;have Tc:=hid SC;clear SC HT;obtain⟨gN,oN,eN,mC,qE⟩:=HN.out.1.dm.rN (by omega);have Ro:=HN.out.1.f1;rw[eN] at Ro;obtain⟨p7,zN⟩:=qE x iL;have hlen:=HB.out.2.2.len x iL;rw[hlen] at p7 zN;have xz:=hid zN;have lU:Hid (∀W',Below Wn.heap.size Wn W'->Below Wn.heap.size Wn W'/\W'.cell? ⟨b0,256,none⟩=some (.slice (some ⟨gN,oN,none⟩) D.n D.cN)/\W'.cell? ⟨gN,oN+x,none⟩=some (.slice (D.A x) C (D.Cp x))):=(fun W' h=>⟨h,(h.cell (p:=⟨b0,256,none⟩) HN.out.1.st.lt).trans Ro,(h.cell (p:=⟨gN,oN+x,none⟩) mC).trans p7⟩);clear eN mC qE Ro p7 zN hlen dz;go_upto_region 15 with fail;refine wp_region_held_drew (S:=fun W'=>Below Wn.heap.size Wn W'/\W'.cell? ⟨b0,256,none⟩=some (.slice (some ⟨gN,oN,none⟩) D.n D.cN)/\W'.cell? ⟨gN,oN+x,none⟩=some (.slice (D.A x) C (D.Cp x))) (by kernel_rfl) (lU.out _ Tc.out.aU.drew) (fun hHeld=>?_);have HO:Hid (gZ Wn b4 D.K C (.slice aN i cN) (pZ D C l9 i) ws (.slice a9 (i+1) c9) (rm D l9 (i+1)) wc.drew):=Tc.out.aa (Below.refl _ _).drew
   (refine aq 0 ?_;refine aq 2 ?_;refine aq 3 ?_;try simp only[put,sA,sB,sC];refine aq 4 ?_;refine aq 5 ?_;refine aq 6 ?_;try simp only[put,sA,sB,sC];refine aq 7 ?_;try simp only[put,sA,sB,sC])
   refine wpAnyH_ready (rs:=[1,8]) (by kernel_rfl) (by simp) ?_;refine eV (fun K hK=>?_) ?_
   ·skip;have f1:=HO.out.f1;go_simp;refine hK.out _ _ (hHeld) (fun hHeld=>?_);clear hK K
    try simp only[put,sA,sB,sC]
    clear f1;refine aQ 8 (fun K hK=>?_);skip;have ia:=(HO.out.next.lt).2;have jo:=lx HO.out.ct;go_simp;go_at_call 125;refine (KW 126 b5 D.n (fun y=>((f y:Nat):Int)) C (D.Cp x) (D.A x) (D.nx x) _ T9 (fun W' h y hy=>Xb b5 D.n gU f W' ((HN.out.2.2.2.1.aa HO.out.aU).aa h) (fun z hz=>((HO.out.aU.trans (h.mono HO.out.aU.size)).cell (p:=⟨gU,z,none⟩) CM.out.2).trans (uy.out z hz)) y hy) (by omega) (xz.out.below HO.out.aU) (fun c hc=>HB.out.2.2.nx x c iL hc) (by omega)).mono ?_;rintro e w5 ⟨a5,c5,rfl,jH,IL⟩;have HU:Hid (w5.ownsRow Wn.heap.size 3 1 (.slice a5 C c5) C (ints ((range C).map (il D l9 i)))/\(∀j,j<(pZ D C l9 i).length->∀b,(ws j).ownBlock=some b->(Value.slice a5 C c5).ownBlock≠some b)/\∀b,(Value.slice a5 C c5).ownBlock=some b->(Value.slice a9 (i+1) c9).ownBlock≠some b):=by
     have jk:=km jH;refine⟨?_,fun j hj b e1 e2=>?_,fun b e1 e2=>?_⟩
     ·rw[<-uI.out];exact jF jH HO.out.aU.size
     ·have h1:=ia j hj b e1;have h2:=jk b e2
      try simp only[ko] at h1
      try simp only[ko] at h2
      omega
     have h1:=jo b e2;have h2:=jk b e1
     try simp only[ko] at h1
     try simp only[ko] at h2
     omega
    have HO:=hid (HO.out.aa IL);clear jH IL ia jo
    try go_wp2_with fail
    refine hK.out _ _ (lU.out _ HO.out.aU) (fun hHeld=>?_);clear hK K
    try simp only[put,sA,sB,sC]
    refine aQ 9 (fun K hK=>?_);skip;go_simp;have kk:=al w5 (.cells #[.slice a5 C c5] 43);have kQ:Hid (∀j u,[Value.slice a5 C c5][j]?=some u->(w5.alloc (.cells #[.slice a5 C c5] 43)).cell? ((⟨w5.heap.size,0,none⟩:Addr).add j)=some u):=cell_one_new _ _ _;have HO:=hid (HO.out.aa kk);have HU:=hid (Zz (dp HU.out.1 kk) HU.out.2);refine hK.out _ _ (lU.out _ HO.out.aU) (fun hHeld=>?_);clear hK K
    try simp only[put,sA,sB,sC]
    clear kk;generalize w5.alloc (.cells #[.slice a5 C c5] 43)=V5 at kQ HO HU hHeld⊢;refine aQ 10 (fun K hK=>?_);skip;have hO:=(HO.out.next.own);rw[Dx] at hO;refine xM (by rfl) _ _ _ (by rfl) Wn.heap.size 43 iV (.slice none 0 0) 1 24 underlying99 hV ur ub uC (by rfl) (by decide) _ i ((range i).map ws) (by rfl) hO ⟨w5.heap.size,0,none⟩ 1 1 [.slice a5 C c5] (by rfl) (by rfl) kQ.out (by intro u hu;simp at hu;subst hu;rfl) (by unfold maxLen;omega) (by omega) HO.out.aU.size ?_;intro v6 w6 an af;obtain⟨a7,c7,rfl⟩:=bF an;have jt:=hid (HO.out.fT (u:=.slice a5 C c5) (vN':=.slice a7 (i+1) c7) HU.out.1 HU.out.2.1 HU.out.2.2 (Dx D C l9 i) an af);have h9:=(HO.out.st.ag HO.out.next.own (by decide) af);have z2:w6.cell? ⟨b4,256,none⟩=some (.slice aN i cN):=(by rw[h9.at_,qe]);have z3:w6.frozen? ⟨b4,256,none⟩=false:=h9.ba 256;have ec:=(fH HO.out.aU HO.out.next.own HO.out.aU.size af);clear an af h9 hO;refine hK.out _ _ (lU.out _ ec) (fun hHeld=>?_);clear hK K
    try simp only[put,sA,sB,sC]
    (refine aq 11 ?_;try simp only[put,sA,sB,sC])
    refine aQ 12 (fun K hK=>?_);skip;go_simp;refine hK.out _ _ (lU.out _ jt.out.aU) (fun hHeld=>?_);clear hK K
    try simp only[put,sA,sB,sC]
    refine wpAnyH_done (by kernel_rfl) ?_ _;rw[<-BP.out] at jt;clear hHeld z2 z3 ec;go_wp2;go_roundw
    ·exact⟨i+1,_,a7,a9,c7,c9,by go_num,by omega,jt⟩
    simp[intOf];omega
   refine eV (fun K hK=>?_) ?_
   ·skip;have ia:=(HO.out.next.lt).2;have jo:=lx HO.out.ct;go_simp;go_at_call 125;refine (KW 126 b5 D.n (fun y=>((f y:Nat):Int)) C (D.Cp x) (D.A x) (D.nx x) _ T9 (fun W' h y hy=>Xb b5 D.n gU f W' ((HN.out.2.2.2.1.aa HO.out.aU).aa h) (fun z hz=>((HO.out.aU.trans (h.mono HO.out.aU.size)).cell (p:=⟨gU,z,none⟩) CM.out.2).trans (uy.out z hz)) y hy) (by omega) (xz.out.below HO.out.aU) (fun c hc=>HB.out.2.2.nx x c iL hc) (by omega)).mono ?_;rintro e w5 ⟨a5,c5,rfl,jH,IL⟩;have HU:Hid (w5.ownsRow Wn.heap.size 3 1 (.slice a5 C c5) C (ints ((range C).map (il D l9 i)))/\(∀j,j<(pZ D C l9 i).length->∀b,(ws j).ownBlock=some b->(Value.slice a5 C c5).ownBlock≠some b)/\∀b,(Value.slice a5 C c5).ownBlock=some b->(Value.slice a9 (i+1) c9).ownBlock≠some b):=by
     have jk:=km jH;refine⟨?_,fun j hj b e1 e2=>?_,fun b e1 e2=>?_⟩
     ·rw[<-uI.out];exact jF jH HO.out.aU.size
     ·have h1:=ia j hj b e1;have h2:=jk b e2
      try simp only[ko] at h1
      try simp only[ko] at h2
      omega
     have h1:=jo b e2;have h2:=jk b e1
     try simp only[ko] at h1
     try simp only[ko] at h2
     omega
    have HO:=hid (HO.out.aa IL);clear jH IL ia jo
    try go_wp2_with fail
    refine hK.out _ _ (lU.out _ HO.out.aU) (fun hHeld=>?_);clear hK K
    try simp only[put,sA,sB,sC]
    refine wpAnyH_ready (rs:=[1,9]) (by kernel_rfl) (by simp) ?_;refine eV (fun K hK=>?_) ?_
    ·skip;have f1:=HO.out.f1;go_simp;refine hK.out _ _ (hHeld) (fun hHeld=>?_);clear hK K
     try simp only[put,sA,sB,sC]
     clear f1;refine aQ 9 (fun K hK=>?_);skip;go_simp;have kk:=al w5 (.cells #[.slice a5 C c5] 43);have kQ:Hid (∀j u,[Value.slice a5 C c5][j]?=some u->(w5.alloc (.cells #[.slice a5 C c5] 43)).cell? ((⟨w5.heap.size,0,none⟩:Addr).add j)=some u):=cell_one_new _ _ _;have HO:=hid (HO.out.aa kk);have HU:=hid (Zz (dp HU.out.1 kk) HU.out.2);refine hK.out _ _ (lU.out _ HO.out.aU) (fun hHeld=>?_);clear hK K
     try simp only[put,sA,sB,sC]
     clear kk;generalize w5.alloc (.cells #[.slice a5 C c5] 43)=V5 at kQ HO HU hHeld⊢;refine aQ 10 (fun K hK=>?_);skip;have hO:=(HO.out.next.own);rw[Dx] at hO;refine xM (by rfl) _ _ _ (by rfl) Wn.heap.size 43 iV (.slice none 0 0) 1 24 underlying99 hV ur ub uC (by rfl) (by decide) _ i ((range i).map ws) (by rfl) hO ⟨w5.heap.size,0,none⟩ 1 1 [.slice a5 C c5] (by rfl) (by rfl) kQ.out (by intro u hu;simp at hu;subst hu;rfl) (by unfold maxLen;omega) (by omega) HO.out.aU.size ?_;intro v6 w6 an af;obtain⟨a7,c7,rfl⟩:=bF an;have jt:=hid (HO.out.fT (u:=.slice a5 C c5) (vN':=.slice a7 (i+1) c7) HU.out.1 HU.out.2.1 HU.out.2.2 (Dx D C l9 i) an af);have h9:=(HO.out.st.ag HO.out.next.own (by decide) af);have z2:w6.cell? ⟨b4,256,none⟩=some (.slice aN i cN):=(by rw[h9.at_,qe]);have z3:w6.frozen? ⟨b4,256,none⟩=false:=h9.ba 256;have ec:=(fH HO.out.aU HO.out.next.own HO.out.aU.size af);clear an af h9 hO;refine hK.out _ _ (lU.out _ ec) (fun hHeld=>?_);clear hK K
     try simp only[put,sA,sB,sC]
     (refine aq 11 ?_;try simp only[put,sA,sB,sC])
     refine aQ 12 (fun K hK=>?_);skip;go_simp;refine hK.out _ _ (lU.out _ jt.out.aU) (fun hHeld=>?_);clear hK K
     try simp only[put,sA,sB,sC]
     refine wpAnyH_done (by kernel_rfl) ?_ _;rw[<-BP.out] at jt;clear hHeld z2 z3 ec;go_wp2;go_roundw
     ·exact⟨i+1,_,a7,a9,c7,c9,by go_num,by omega,jt⟩
     simp[intOf];omega
    refine eV (fun K hK=>?_) ?_
    ·skip;go_simp;have kk:=al w5 (.cells #[.slice a5 C c5] 43);have kQ:Hid (∀j u,[Value.slice a5 C c5][j]?=some u->(w5.alloc (.cells #[.slice a5 C c5] 43)).cell? ((⟨w5.heap.size,0,none⟩:Addr).add j)=some u):=cell_one_new _ _ _;have HO:=hid (HO.out.aa kk);have HU:=hid (Zz (dp HU.out.1 kk) HU.out.2);refine hK.out _ _ (lU.out _ HO.out.aU) (fun hHeld=>?_);clear hK K
     try simp only[put,sA,sB,sC]
     clear kk;generalize w5.alloc (.cells #[.slice a5 C c5] 43)=V5 at kQ HO HU hHeld⊢;refine aQ 1 (fun K hK=>?_);skip;have f1:=HO.out.f1;go_simp;refine hK.out _ _ (hHeld) (fun hHeld=>?_);clear hK K
     try simp only[put,sA,sB,sC]
     clear f1;refine aQ 10 (fun K hK=>?_);skip;have hO:=(HO.out.next.own);rw[Dx] at hO;refine xM (by rfl) _ _ _ (by rfl) Wn.heap.size 43 iV (.slice none 0 0) 1 24 underlying99 hV ur ub uC (by rfl) (by decide) _ i ((range i).map ws) (by rfl) hO ⟨w5.heap.size,0,none⟩ 1 1 [.slice a5 C c5] (by rfl) (by rfl) kQ.out (by intro u hu;simp at hu;subst hu;rfl) (by unfold maxLen;omega) (by omega) HO.out.aU.size ?_;intro v6 w6 an af;obtain⟨a7,c7,rfl⟩:=bF an;have jt:=hid (HO.out.fT (u:=.slice a5 C c5) (vN':=.slice a7 (i+1) c7) HU.out.1 HU.out.2.1 HU.out.2.2 (Dx D C l9 i) an af);have h9:=(HO.out.st.ag HO.out.next.own (by decide) af);have z2:w6.cell? ⟨b4,256,none⟩=some (.slice aN i cN):=(by rw[h9.at_,qe]);have z3:w6.frozen? ⟨b4,256,none⟩=false:=h9.ba 256;have ec:=(fH HO.out.aU HO.out.next.own HO.out.aU.size af);clear an af h9 hO;refine hK.out _ _ (lU.out _ ec) (fun hHeld=>?_);clear hK K
     try simp only[put,sA,sB,sC]
     (refine aq 11 ?_;try simp only[put,sA,sB,sC])
     refine aQ 12 (fun K hK=>?_);skip;go_simp;refine hK.out _ _ (lU.out _ jt.out.aU) (fun hHeld=>?_);clear hK K
     try simp only[put,sA,sB,sC]
     refine wpAnyH_done (by kernel_rfl) ?_ _;rw[<-BP.out] at jt;clear hHeld z2 z3 ec;go_wp2;go_roundw
     ·exact⟨i+1,_,a7,a9,c7,c9,by go_num,by omega,jt⟩
     simp[intOf];omega
    exact AllReadyH.nil
   exact AllReadyH.nil
 obtain rfl:i=j:=by omega
 have iG:=hid HT.out.st;have iF:=hid (HN.out.2.1.aa HT.out.aU);have hd:=mw D.K (.slice aN i cN) (.slice aK i cK);have Ec:Hid (w.heap.size<=Wn.heap.size):=by have h1:=HN.out.2.2.2.2;have h2:=Hb.out.1;show _<=_;omega
 have BF:Hid (Below w.heap.size w (wr.setRow b2 (df D.K (.slice aN i cN) (.slice aK i cK)))):=by
  rw[Hb.out.1];exact mY (HN.out.2.2.1.trans (HT.out.aU.mono HN.out.2.2.2.2)) (by have:=Hb.out;omega) _
 have HF:Hid (CW D C i (il D l9) (fun i=>D.q (l9.getD i 0)) w (.returned (.agg (df D.K (.slice aN i cN) (.slice aK i cK)))) (wr.setRow b2 (df D.K (.slice aN i cN) (.slice aK i cK)))):=
  HT.out.QN HB.out.1.dm.kl (Dx D C l9 i) (fun r hr=>by unfold pZ at hr;obtain⟨j,_,rfl⟩:=List.mem_map.1 hr;simp) rfl (fun j hj c hc=>by unfold pZ;simp[getD_eq_getElem?_getD,hj,hc]) Ec.out (Or.inr ⟨b2,_,_,iF.out,rfl⟩) BF.out
 go_wp2_with (first|(refine si rfl 101 _ rfl ⟨b4,0,none⟩ rfl (df D.K (.slice aN i cN) (.slice aK i cK)) _ iG.out.part underlying101 rfl (by rw[gO,hd]) ?_)|(refine pN rfl 101 _ _ rfl b2 101 (zC 101) (df D.K (.slice aN i cN) (.slice aK i cK)) rfl rfl iF.out (by rw[jA,hd]) (by rw[gO,hd]) (xe _ _ _ _ _ _ _) ?_));refine bodyPost_ret (results_cell_row rfl _ _ b2 101 (df D.K (.slice aN i cN) (.slice aK i cK)) (0,0) _ rfl iF.out.setRow underlying101 rfl (by rw[gO,hd])) rfl ?_;exact HF.out
def oY(D:Dd)(C n':Nat)(Fl:Nat->Nat->Int)(q':Nat->Int)(D':Dd):Prop:=
 D'.K=D.K/\D'.n=n'/\D'.m=n'/\(∀i,i<n'->D'.len i=C)/\(∀i,i<n'->∀c,c<C->D'.nx i c=Fl i c)/\∀i,i<n'->D'.q i=q' i
theorem oY.jZ(hR:DR D C)(h:oY D C D.n (nE D) D.q D1):DR D1 C:=by
 obtain⟨e1,e2,e3,e4,e5,e6⟩:=h;refine⟨by rw[e1];exact hR.c,by rw[e2];exact hR.n1,by rw[e2];exact hR.n2,by rw[e3,e2],fun c hc=>by rw[e1];exact hR.AY c hc,fun i hi=>e4 i (by omega),fun i hi=>by rw[e6 i (by omega)];exact hR.q i (by omega),fun i c hi hc=>?_⟩;rw[e5 i (by omega) c hc,e2];have:=hR.nx i c (by omega) hc;unfold nE;split <;> omega
theorem vd.of{y:Nat}(he:Ed D x y)(h:vd D y):vd D x:=by
 obtain⟨k,h1,h2⟩:=h;exact⟨k,kq.head (B:=fun _=>True) he h1,h2⟩
theorem rv(D:Dd)(b:Nat):dr D (-1) b=-1:=by unfold dr;rw[if_neg (by omega)]
theorem Cj(hR:DR D C)(dE:(cH (av D.len D.nx) [0] k).length=k)(i c:Nat)(hi:i<k)(hc:c<C):
  (cH (av D.len D.nx) [0] k).getD i 0<D.n/\((D.nx ((cH (av D.len D.nx) [0] k).getD i 0) c=-1/\il D (cH (av D.len D.nx) [0] k) i c=-1)\/
   ∃j,j<k/\il D (cH (av D.len D.nx) [0] k) i c=((j:Nat):Int)/\D.nx ((cH (av D.len D.nx) [0] k).getD i 0) c=(((cH (av D.len D.nx) [0] k).getD j 0:Nat):Int)):=by
 have eK:=J9 (av D.len D.nx) [0] k i hi;have fW:=Lm hR k;generalize cH (av D.len D.nx) [0] k=l at dE eK fW⊢;have ku:i<l.length:=by omega
 have hx:l.getD i 0=l[i]:=by simp[getD_eq_getElem?_getD,ku]
 have iL:l[i]<D.n:=fW _ (getElem_mem ku);unfold il zo;rw[hx];refine⟨iL,?_⟩;have hb:=hR.nx l[i] c iL hc;by_cases h1:D.nx l[i] c=-1
 ·exact Or.inl ⟨h1,by rw[if_pos h1]⟩
 rw[if_neg h1];right;have hm:(D.nx l[i] c).toNat∈l:=by
  refine eK ku _ ?_;unfold WE av;exact List.mem_map.2 ⟨c,by rw[List.mem_range,hR.len _ iL];exact hc,by omega⟩
 have aw:=List.idxOf_lt_length_iff.2 hm;refine⟨l.idxOf (D.nx l[i] c).toNat,by omega,rfl,?_⟩;have h2:l.getD (l.idxOf (D.nx l[i] c).toNat) 0=(D.nx l[i] c).toNat:=by
  rw[getD_eq_getElem?_getD,List.getElem?_eq_getElem aw,List.getElem_idxOf];rfl
 rw[h2];omega
theorem PA(dE:(cH (av D.len D.nx) [0] k).length=k):1<=k/\(cH (av D.len D.nx) [0] k).getD 0 0=0:=by
 obtain⟨t,ht⟩:=LB (av D.len D.nx) [0] k;generalize cH (av D.len D.nx) [0] k=l at dE ht⊢;subst ht;refine⟨?_,rfl⟩;simp at dE;omega
theorem oY.pe(hR:DR D C)(dE:(cH (av D.len D.nx) [0] k).length=k)(rL:k<=D.n)(h:oY D C k (il D (cH (av D.len D.nx) [0] k)) (fun i=>D.q ((cH (av D.len D.nx) [0] k).getD i 0)) D1):DR D1 C:=by
 obtain⟨e1,e2,e3,e4,e5,e6⟩:=h;have h1:=(PA dE).1;have dj:=hR.n2;have PG:0<C:=by have:=hR.c.1 0 (by omega);omega
 refine⟨by rw[e1];exact hR.c,by omega,by omega,by rw[e3,e2],fun c hc=>by rw[e1];exact hR.AY c hc,fun i hi=>e4 i (by omega),fun i hi=>?_,fun i c hi hc=>?_⟩
 ·rw[e6 i (by omega)];exact hR.q _ (Cj hR dE i 0 (by omega) PG).1
 rw[e5 i (by omega) c hc,e2];rcases (Cj hR dE i c (by omega) hc).2 with ⟨_,h2⟩|⟨j,hj,h2,_⟩
 ·rw[h2];omega
 rw[h2];omega
end Go.Proofs.YtiijebameffenaaGreat
