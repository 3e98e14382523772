import Derived.Test.YtiijebameffenaaGreatZTTrim
import Derived.ChangeKeysEq
set_option linter.all false
set_option maxHeartbeats 8000000
set_option maxRecDepth 100000
open Go.Lib (hid)
namespace Go.Proofs.YtiijebameffenaaGreat
open Go.RowKit Go.Maps Go.WideElems Go.ChangeMaps Go.MapKept Go.Proofs.Tryz
open Act (put)
open List (getD_eq_getElem?_getD getElem_mem range)
open Nat (le_refl)
variable {C k x:Nat}{D D1:Dd}
def dt(D:Dd)(st:Int)(b:Nat):Int:=if 0<=st/\st<(D.n:Int) then D.nx st.toNat (D.K b) else -1
def du(D:Dd)(st:Int)(z:Nat->Nat):Nat->Int
 | 0=>st
 | k+1=>dt D (du D st z k) (z k)
def dj(D:Dd)(st:Int):Int:=if 0<=st/\st<(D.n:Int) then D.q st.toNat else -1
theorem Wz(D:Dd)(st:Int)(z:Nat->Nat)(h:du D st z k=-1):∀m,k<=m->du D st z m=-1:=by
 intro m hm
 induction m with
 | zero=>rw[show k=0 by omega] at h;exact h
 | succ m ih=>
  by_cases e:k=m+1
  ·rw[<-e];exact h
  show dt D (du D st z m) (z m)=-1;rw[ih (by omega)];unfold dt;rw[if_neg (by omega)]
theorem Yu(D:Dd)(C:Nat)(hR:DR D C)(st:Int)(b:Nat)(hb:b<256)(w:World)(hD:DM w D):
  Calls prog 104 #[.agg D.cD,.int .i64 st,.int .u8 (b:Int)] w fun e w'=>e=.returned (.int .i64 (dt D st b))/\Below w.heap.size w w':=by
 have HB:=hid (Zz (cZ.new hD) (Zz (al w (.cells D.cD 101)) hR));have dk:=hR.n2;have yP:=(hR.jF hD.kl).2;clear hD hR;go_enter func104,ntmps104;go_upto_region 1 with fail;generalize w.alloc (.cells D.cD 101)=W0 at HB⊢;obtain⟨b0,aY⟩:∃b0,w.heap.size=b0:=⟨_,rfl⟩
 have dW:=hid aY;rw[aY] at HB;rw[aY];clear aY;have k0:=HB.out.1.f0 b hb;have hkl:=HB.out.1.dm.kl b hb;have UG:=HB.out.2.2.c.1 b hb;have i0:(b:Int)<256:=by omega
 have tP:=hid (Oi D st W0 HB.out.1.dm);obtain⟨kb,Pk⟩:∃kb,D.K b=kb:=⟨_,rfl⟩
 have Hkb:=hid Pk;rw[Pk] at k0 hkl UG;clear Pk;go_wp2_with (refine nO (by rfl) 101 _ rfl ⟨b0,0,none⟩ rfl D.cD _ HB.out.1.st.part underlying101 rfl HB.out.1.dm.info ?_);refine tP.out.mono ?_;rintro e w2 ⟨rfl,b2⟩;have sJ:=hid (HB.out.1.aa b2);have HF:Hid (Below w.heap.size w w2):=by
  rw[dW.out];exact HB.out.2.1.trans (b2.mono (by have:=HB.out.2.1.size;have:=dW.out;omega))
 clear b2 tP k0;by_cases hs:0<=st/\st<(D.n:Int)
 ·obtain⟨s,rfl⟩:∃s:Nat,st=(s:Int):=⟨st.toNat,by omega⟩
  have qj:s<D.n:=by omega
  have HZ:Hid (decide (0<=(s:Int)/\(s:Int)<(D.n:Int))=true):=by show _=_;simp;omega
  have HV:Hid (dt D (s:Int) b=D.nx s kb):=by
   show _=_;unfold dt;rw[if_pos hs,Hkb.out];rfl
  have f1:=sJ.out.f1;obtain⟨gN,oN,eN,mC,cN,zN⟩:=sJ.out.dm.row s qj;rw[HB.out.2.2.len s qj] at cN zN;rw[eN] at f1;obtain⟨gA,oA,eA,_,oj⟩:=zN (by omega);have cA:=oj kb UG;rw[eA] at cN;have i1:(kb:Int)<C:=by omega
  have i2:(s:Int)<(D.n:Int):=by omega
  have i3:¬((C:Int)<=kb):=by omega
  rw[HZ.out];have A7:=hid eN;have Jo:=hid eA;clear eN eA oj zN hs mC;generalize D.nx s kb=r at cA HV;go_wp2;go_ret;exact⟨by rw[HV.out];first|rfl|simp,HF.out⟩
 have HZ:Hid (decide (0<=st/\st<(D.n:Int))=false):=by show _=_;simp;omega
 have HV:Hid (dt D st b=-1):=by
  show _=_;unfold dt;rw[if_neg hs]
 rw[HZ.out];clear hs;go_wp2;go_ret;exact⟨by rw[HV.out];first|rfl|simp,HF.out⟩
theorem ZW(D:Dd)(C:Nat)(hR:DR D C)(st:Int)(w:World)(hD:DM w D):
  Calls prog 84 #[.agg D.cD,.int .i64 st] w fun e w'=>e=.returned (.int .i64 (dj D st))/\Below w.heap.size w w':=by
 have HB:=hid (Zz (cZ.new hD) (Zz (al w (.cells D.cD 101)) hR));have dk:=hR.n2;have np:=hR.m;clear hD hR;go_enter func84,ntmps84;go_upto_region 1 with fail;generalize w.alloc (.cells D.cD 101)=W0 at HB⊢;obtain⟨b0,aY⟩:∃b0,w.heap.size=b0:=⟨_,rfl⟩
 have dW:=hid aY;rw[aY] at HB;rw[aY];clear aY;have tP:=hid (Oi D st W0 HB.out.1.dm);go_wp2_with (refine nO (by rfl) 101 _ rfl ⟨b0,0,none⟩ rfl D.cD _ HB.out.1.st.part underlying101 rfl HB.out.1.dm.info ?_);refine tP.out.mono ?_;rintro e w2 ⟨rfl,b2⟩;have sJ:=hid (HB.out.1.aa b2);have HF:Hid (Below w.heap.size w w2):=by
  rw[dW.out];exact HB.out.2.1.trans (b2.mono (by have:=HB.out.2.1.size;have:=dW.out;omega))
 clear b2 tP;by_cases hs:0<=st/\st<(D.n:Int)
 ·obtain⟨s,rfl⟩:∃s:Nat,st=(s:Int):=⟨st.toNat,by omega⟩
  have qj:s<D.n:=by omega
  have HZ:Hid (decide (0<=(s:Int)/\(s:Int)<(D.n:Int))=true):=by show _=_;simp;omega
  have HV:Hid (dj D (s:Int)=D.q s):=by
   show _=_;unfold dj;rw[if_pos hs];rfl
  have f2:=sJ.out.f2;obtain⟨gM,oM,eM,_,na⟩:=sJ.out.dm.rM (by omega);have cM:=na s (by omega);rw[eM,np] at f2;have i2:(s:Int)<(D.n:Int):=by omega
  have i3:¬((D.n:Int)<=(s:Int)):=by omega
  rw[HZ.out];have TV:=hid eM;clear eM na hs np;generalize D.q s=r at cM HV;go_wp2;go_ret;exact⟨by rw[HV.out];first|rfl|simp,HF.out⟩
 have HZ:Hid (decide (0<=st/\st<(D.n:Int))=false):=by show _=_;simp;omega
 have HV:Hid (dj D st=-1):=by
  show _=_;unfold dj;rw[if_neg hs]
 rw[HZ.out];clear hs np;go_wp2;go_ret;exact⟨by rw[HV.out];first|rfl|simp,HF.out⟩
theorem zmu(D:Dd)(C:Nat)(hR:DR D C)(st:Int)(s:ByteArray)(m:Nat)(hs:s.size=m)(hm:m<=1000000)(w:World)(hD:DM w D):
  Calls prog 85 #[.agg D.cD,.int .i64 st,.string s] w fun e w'=>e=.returned (.int .i64 (du D st (lE s) m))/\Below w.heap.size w w':=by
 have HB:=hid (Zz (cZ.new hD) (Zz (al w (.cells D.cD 101)) hR));have Ph:=hs;have HS:=hid hs;clear hD hR hs;go_enter func85,ntmps85;go_upto_region 1 with fail;generalize w.alloc (.cells D.cD 101)=W0 at HB⊢;obtain⟨b0,aY⟩:∃b0,w.heap.size=b0:=⟨_,rfl⟩
 have dW:=hid aY;rw[aY] at HB;rw[aY];clear aY;go_wp2;go_loopw [1,7,10] (fun v1 _ v wr=>∃(k:Nat),v=.int .i64 k/\k<=m/\v1=.int .i64 (du D st (lE s) k)/\Hid (Below W0.heap.size W0 wr)) (fun _ _ v _=>m-(intOf v).toNat)
 ·exact⟨0,rfl,by omega,rfl,Below.refl _ _⟩
 obtain⟨k,rfl,hk,rfl,HX⟩:=hrel;have rX:Hid (∀W',Below W0.heap.size W0 W'->Below w.heap.size w W'):=fun W' h=>by
  rw[dW.out];exact HB.out.2.1.trans (h.mono (by have:=HB.out.2.1.size;have:=dW.out;omega))
 have UM:Hid (du D st (lE s) k=-1->du D st (lE s) m=-1):=fun h=>Wz D st _ h m hk
 by_cases av:k<m
 ·have Fj:k<s.size:=by rw[Ph];exact av
  obtain⟨bt,tq⟩:∃bt,(s[k]'Fj).toNat=bt:=⟨_,rfl⟩
  have zK:=N0 s k Fj;rw[tq] at zK;have uw:bt<256:=by rw[zK];exact XK s k
  have jT:Hid (du D st (lE s) (k+1)=dt D (du D st (lE s) k) bt):=by show dt D (du D st (lE s) k) (lE s k)=_;rw[<-zK]
  have HDs:Hid (du D st (lE s) (k+1)=-1->du D st (lE s) m=-1):=fun h=>Wz D st _ h m (by omega)
  have i1:(k:Int)<m:=by omega
  generalize du D st (lE s) k=a at jT UM⊢;have dA:Hid (∀W',Below W0.heap.size W0 W'->Below W0.heap.size W0 W'/\cZ W' b0 D):=fun W' h=>⟨h,HB.out.1.aa h⟩
  clear zK;go_upto_region 4 with fail;refine wp_region_held_drew (S:=fun W'=>Below W0.heap.size W0 W'/\cZ W' b0 D) (by kernel_rfl) (dA.out _ HX.out.drew) (fun hHeld=>?_)
  (refine ak 0 (v:=.agg D.cD) ?_ (hy:=by intro wz hSw;exact C0 (o:=_) (ρ:=_) wz 101 (.tmp 3) rfl ⟨b0,0,none⟩ rfl D.cD _ (cZ.st (And.right hSw)).part underlying101 rfl (cZ.dm (And.right hSw)).info))
  (refine ak 1 ?_;refine ak 2 ?_;refine ak 3 ?_;try simp only[put,sA,sB,sC];refine ak 4 ?_;try simp only[put,sA,sB,sC])
  refine bc 5 (fun K hK=>?_);skip;go_simp;go_at_call 104;refine (Yu D C HB.out.2.2 a bt uw _ hHeld.2.dm).mono ?_;rintro e wj ⟨rfl,vj⟩;have aZ:Below W0.heap.size W0 wj:=hHeld.1.trans (vj.mono hHeld.1.size);clear vj
  try go_wp2_with fail
  refine hK.out _ _ (dA.out _ aZ) (fun hHeld=>?_);clear hK K
  try simp only[put,sA,sB,sC]
  (refine ak 6 ?_;try simp only[put,sA,sB,sC])
  refine wpAnyH_done (by kernel_rfl) ?_ _;have qm:=hid aZ;clear hHeld aZ;rw[<-jT.out];have HF:=hid (rX.out _ qm.out);by_cases hd:du D st (lE s) (k+1)=-1
  ·have HV:=hid (HDs.out hd);rw[hd];go_wp2;go_ret;exact⟨by rw[HV.out];first|rfl|simp,HF.out⟩
  have yf:Hid (du D st (lE s) (k+1)=du D st (lE s) (k+1)):=rfl;obtain⟨r,hr⟩:∃r,du D st (lE s) (k+1)=r:=⟨_,rfl⟩
  have Hr:=hid hr;rw[hr] at hd;rw[hr];clear hr yf jT;go_wp2;go_roundw
  ·exact⟨k+1,by go_num,by omega,by rw[Hr.out],qm⟩
  simp[intOf];omega
 obtain rfl:k=m:=by omega
 have HF:=hid (rX.out wr HX.out);clear UM;go_wp2;go_ret;exact⟨rfl,HF.out⟩
theorem zmv(D:Dd)(C:Nat)(hR:DR D C)(s:ByteArray)(m:Nat)(hs:s.size=m)(hm:m<=1000000)(w:World)(hD:DM w D):
  Calls prog 69 #[.agg D.cD,.string s] w fun e w'=>e=.returned (.int .i64 (dj D (du D 0 (lE s) m)))/\Below w.heap.size w w':=by
 have HB:=hid (Zz (cZ.new hD) (Zz (al w (.cells D.cD 101)) (Zz hR hs)));clear hD hR hs;go_enter func69,ntmps69;go_upto_region 1 with fail;generalize w.alloc (.cells D.cD 101)=W0 at HB⊢;obtain⟨b0,aY⟩:∃b0,w.heap.size=b0:=⟨_,rfl⟩
 have dW:=hid aY;rw[aY] at HB;rw[aY];clear aY;have rX:Hid (∀W',Below W0.heap.size W0 W'->Below w.heap.size w W'):=fun W' h=>by
  rw[dW.out];exact HB.out.2.1.trans (h.mono (by have:=HB.out.2.1.size;have:=dW.out;omega))
 have dA:Hid (∀W',Below W0.heap.size W0 W'->Below W0.heap.size W0 W'/\cZ W' b0 D):=fun W' h=>⟨h,HB.out.1.aa h⟩
 refine wp_region_held_drew (S:=fun W'=>Below W0.heap.size W0 W'/\cZ W' b0 D) (by kernel_rfl) (dA.out _ (Below.refl _ _).drew) (fun hHeld=>?_)
 (refine ak 0 (v:=.agg D.cD) ?_ (hy:=by intro wz hSw;exact C0 (o:=_) (ρ:=_) wz 101 (.tmp 2) rfl ⟨b0,0,none⟩ rfl D.cD _ (cZ.st (And.right hSw)).part underlying101 rfl (cZ.dm (And.right hSw)).info))
 (refine ak 1 (v:=.agg D.cD) ?_ (hy:=by intro wz hSw;exact C0 (o:=_) (ρ:=_) wz 101 (.tmp 2) rfl ⟨b0,0,none⟩ rfl D.cD _ (cZ.st (And.right hSw)).part underlying101 rfl (cZ.dm (And.right hSw)).info))
 (refine ak 2 ?_;try simp only[put,sA,sB,sC])
 refine bc 3 (fun K hK=>?_);skip;go_simp;go_at_call 85;refine (zmu D C HB.out.2.2.1 0 s m HB.out.2.2.2 hm _ hHeld.2.dm).mono ?_;rintro e wj ⟨rfl,vj⟩;have aZ:Below W0.heap.size W0 wj:=hHeld.1.trans (vj.mono hHeld.1.size);clear vj
 try go_wp2_with fail
 refine hK.out _ _ (dA.out _ aZ) (fun hHeld=>?_);clear hK K
 try simp only[put,sA,sB,sC]
 clear aZ;refine bc 4 (fun K hK=>?_);skip;go_simp;go_at_call 84;refine (ZW D C HB.out.2.2.1 (du D 0 (lE s) m) _ hHeld.2.dm).mono ?_;rintro e wk ⟨rfl,vk⟩;have aZ:Below W0.heap.size W0 wk:=hHeld.1.trans (vk.mono hHeld.1.size);clear vk
 try go_wp2_with fail
 refine hK.out _ _ (dA.out _ aZ) (fun hHeld=>?_);clear hK K
 try simp only[put,sA,sB,sC]
 (refine ak 5 ?_;try simp only[put,sA,sB,sC])
 refine wpAnyH_done (by kernel_rfl) ?_ _;have HF:=hid (rX.out _ aZ);clear hHeld aZ;go_wp2;go_ret;exact⟨rfl,HF.out⟩
def zf(l:List Nat)(t:Int):Int:=if t=-1 then -1 else ((l.idxOf t.toNat:Nat):Int)
def gW(D:Dd)(l:List Nat)(i c:Nat):Int:=zf l (D.nx (l.getD i 0) c)
theorem zod{l1 l2:List Nat}(h:l1 <+: l2)(hx:x∈l1):l2.idxOf x=l1.idxOf x:=by
 obtain⟨t,rfl⟩:=h;rw[List.idxOf_append,if_pos hx]
theorem K9(hR:DR D C)(i:Nat):∀x∈cv (aw D.len D.nx) [0] i,x<D.n:=by
 have h0:=hR.n1
 induction i with
 | zero=>intro x hx;rw[List.mem_singleton.1 hx];omega
 | succ i ih=>
  intro x hx;have kC:x∈oP (aw D.len D.nx) (cv (aw D.len D.nx) [0] i) i:=hx;unfold oP at kC;split at kC
  ·rename_i h;rw[Pm] at kC;rcases kC with h1|h1
   ·exact ih x h1
   have hm:(cv (aw D.len D.nx) [0] i).getD i 0∈cv (aw D.len D.nx) [0] i:=by
    rw[show (cv (aw D.len D.nx) [0] i).getD i 0=(cv (aw D.len D.nx) [0] i)[i] by simp[getD_eq_getElem?_getD,h]];exact getElem_mem h
   have hs:=ih _ hm;generalize (cv (aw D.len D.nx) [0] i).getD i 0=y at h1 hs;unfold aw at h1;obtain⟨c,hc,e⟩:=List.mem_map.1 h1;have iQ:c<D.len y:=List.mem_range.1 hc;exact hR.ed _ _ ⟨hs,c,iQ,e⟩
  exact ih x kC
theorem T7(hR:DR D C):∃k,(cv (aw D.len D.nx) [0] k).length=k/\k<=D.n:=by
 have hb:∀i,(cv (aw D.len D.nx) [0] i).length<=D.n:=fun i=>pR (Kd _ (by simp) i) (K9 hR i)
 have hp:∀i j,i<=j->(cv (aw D.len D.nx) [0] i).length<=(cv (aw D.len D.nx) [0] j).length:=fun i j h=>by
  induction j with
  | zero=>rw[show i=0 by omega];exact le_refl _
  | succ j ih=>
   by_cases e:i=j+1
   ·rw[e];exact le_refl _
   exact Nat.le_trans (ih (by omega)) (KB _ _ j).length_le
 have key:∀m,(∃k,k<=m/\(cv (aw D.len D.nx) [0] k).length=k)\/m<(cv (aw D.len D.nx) [0] m).length:=by
  intro m
  induction m with
  | zero=>exact Or.inr (by simp[cv])
  | succ m ih=>
   rcases ih with ⟨k,h1,h2⟩|h
   ·exact Or.inl ⟨k,by omega,h2⟩
   have:=hp m (m+1) (by omega);by_cases e:(cv (aw D.len D.nx) [0] (m+1)).length=m+1
   ·exact Or.inl ⟨m+1,le_refl _,e⟩
   exact Or.inr (by omega)
 rcases key D.n with ⟨k,h1,h2⟩|h
 ·exact⟨k,h2,h1⟩
 have:=hb D.n;omega
theorem zo5{rows:Nat->List Int}{m:List Nat}{i:Nat}(h:i<=k):cv rows m i <+: cv rows m k:=by
 induction k with
 | zero=>rw[show i=0 by omega];exact List.prefix_refl _
 | succ k ih=>
  by_cases e:i=k+1
  ·rw[e];exact List.prefix_refl _
  exact (ih (by omega)).trans (KB rows m k)
section
variable {W0 : World}{b4 C : Nat}{K : Nat → Nat}{vN : Value}{R : List (List Int)}{ws : Nat → Value}{vK : Value}{ms : List Int}{vL : Value}{l : List Nat}{w : World}
end
section
variable {W0 : World}{b4 C z : Nat}{K : Nat → Nat}{vN : Value}{R : List (List Int)}{ws : Nat → Value}{vK : Value}{ms : List Int}{vL vW : Value}{l : List Nat}{row : List Int}{w : World}
end
theorem Gz{P:Program}{ops:Array Oper}{o:Oper}{a:Act}{w:World}{K:Act->World->Prop}{Q:Exit->Act->World->Prop}{E:Prop}(pV:o.guard=none)(s x:Operand)(t:TypeId)
  (ho:o.op=.call { callee:=.builtin .append,args:=#[s,x],argTypes:=#[t,t] })
  (base:Nat) (e:TypeId) (i:TypeInfo) (z:Value) (size bytes:Nat) (ht:P.underlying t=some (.slice e)) (hi:P.info? e=some i) (hz:i.zero=some z)
  (qt:i.size=size) (Gq:i.bytes=bytes) (Fk:z.cells.size=size) (dp:0<size)
  (v:Value) (n:Nat) (xs:List Value) (hs:a.eval s=v) (aQ:w.ownsRow base e size v n xs)
  (ad:Addr) (m c:Nat) (news:List Value) (hx:a.eval x=.slice (some ad) m c) (hl:news.length=m*size) (qC:∀j u,news[j]?=some u->w.cell? (ad.add j)=some u) (h1:∀u∈news,u.oneCell'=true)
  (Jf:n+m<=maxLen) (jO:(n+m)*bytes<=140737488355328) (qG:base<=w.heap.size)
  (h:∀v' w',w'.ownsRow base e size v' (n+m) (xs++news)->w.grownBy w' v.ownBlock->(v'.ownBlock=v.ownBlock\/v'.ownBlock=some w.heap.size)->K (a.put o.dst v') w'):
  if Region.wanted o (yielded ops a.tmps)=true then Oper.wp P o a w K Q else E:=by
 have hw:Region.wanted o (yielded ops a.tmps)=true:=by simp[Region.wanted,pV]
 rw[if_pos hw];obtain⟨v',w',hr,h2,h3,_,h5⟩:=run_append_own_at (P:=P) w base t o.type e i z size bytes ht hi hz qt Gq Fk dp v n xs aQ ad m c news hl qC h1 Jf jO qG;unfold Oper.wp execOp;simp only[ho,resolve,invoke,builtin,Sem.run_bind,Sem.run_pure,Result.andThen_ok,List.map_toArray,List.map_cons,List.map_nil,hs,hx,hr];exact h v' w' h2 h3 h5
def pL(D:Dd)(C:Nat)(l:List Nat)(i:Nat):List (List Int):=(range i).map fun j=>(range C).map (gW D l j)
def re(D:Dd)(l:List Nat)(i:Nat):List Int:=(range i).map fun j=>D.q (l.getD j 0)
theorem BL(D:Dd)(C:Nat)(l:List Nat)(i:Nat):(pL D C l i).length=i:=by simp[pL]
theorem Ko(D:Dd)(l:List Nat)(i:Nat):(re D l i).length=i:=by simp[re]
theorem zmw(D:Dd)(C:Nat)(l:List Nat)(i:Nat):pL D C l (i+1)=pL D C l i++[(range C).map (gW D l i)]:=by
 unfold pL;rw[List.range_succ,List.map_append];rfl
theorem ZZ(D:Dd)(l:List Nat)(i:Nat):re D l (i+1)=re D l i++[D.q (l.getD i 0)]:=by
 unfold re;rw[List.range_succ,List.map_append];rfl
theorem T6:∀(args:Array Value) (W:World),(callFunc 126 args).run prog W=.ok (.enter 126 args) W:=fun _ _=>by rfl
def uG(f:Nat->Nat)(n:Nat):List Value:=(range n).map fun y=>Value.int .i64 ((f y:Nat):Int)
theorem zoe(f:Nat->Nat)(n x v:Nat):(uG f n).set x (.int .i64 (v:Int))=uG (fun y=>if y=x then v else f y) n:=by
 unfold uG;apply List.ext_getElem?;intro i;rw[List.getElem?_set];by_cases e:x=i
 ·subst e;by_cases h:x<n
  ·simp[h]
  simp[h]
 rw[if_neg e];by_cases h:i<n
 ·simp[h,Ne.symm e,show ¬i=x from fun h=>e h.symm]
 simp[h]
theorem zmy(n:Nat):List.replicate n (Value.int .i64 0)=uG (fun _=>0) n:=by
 unfold uG;apply List.ext_getElem?;intro i;by_cases h:i<n <;> simp[h]
theorem Xg(b5 n g:Nat)(f:Nat->Nat)(w:World)(hS:St w 43 b5 #[.slice (some ⟨g,0,none⟩) n n])(hc:∀x,x<n->w.cell? ⟨g,x,none⟩=some (.int .i64 ((f x:Nat):Int)))(x:Nat)(hx:x<n):
  Calls prog 126 #[.int .i64 (x:Int),.pointer (some ⟨b5,0,none⟩)] w fun e w'=>e=.returned (.int .i64 ((f x:Nat):Int))/\w'=w:=by
 have c0:w.cell? ⟨b5,0,none⟩=some (.slice (some ⟨g,0,none⟩) n n):=hS.at_ 0;have d0:=hc x hx;have i1:(x:Int)<n:=by omega
 clear hc;go_enter func126,ntmps126;go_wp2;go_ret;exact⟨rfl,rfl⟩
theorem Rc(D:Dd)(C:Nat)(l:List Nat)(k:Nat)(hl:l=cv (aw D.len D.nx) [0] k)(dG:l.length=k)(rS:k<=D.n)(w:World)(hD:DM w D)(hR:DR D C):
  Calls prog 98 #[.agg D.cD] w (Bk D C k (gW D l) (fun i=>D.q (l.getD i 0)) w):=by
 have zd:∀(fn:Fn) (first cap:Array Value) (w:World),(Instr.makeFunc fn first cap).run prog w=.ok (.func fn first cap) w:=fun _ _ _ _=>rfl
 have dk:=hR.n2;have fx:=hR.n1;have np:=hR.m;have yP:=(hR.jF hD.kl).2;have iP:=FU D.n (by omega);have HB:=hid (Zz (cZ.new hD) (Zz (al w (.cells D.cD 101)) hR));have HL:=hid (Zz hl dG);obtain⟨iI,hI,pT,pJ,pK⟩:=info_parts az;obtain⟨iV,hV,tI,uh,uq⟩:=info_parts dR;clear hD hR hl dG;go_enter func98,ntmps98;go_upto_region 1 with (refine rq rfl 101 rfl (zC 101) (mX _) ?_);simp only[put,List.setIfInBounds_toArray,List.set_cons_zero,List.set_cons_succ,Ip];have H0:Hid (cZ ((w.alloc (.cells D.cD 101)).alloc (.cells (zC 101) 101)) w.heap.size D/\St ((w.alloc (.cells D.cD 101)).alloc (.cells (zC 101) 101)) 101 (w.heap.size+1) (zC 101)/\Below w.heap.size w ((w.alloc (.cells D.cD 101)).alloc (.cells (zC 101) 101))):=by
  refine⟨HB.out.1.aa (al _ _),?_,HB.out.2.1.trans ((al _ _).mono (by simp))⟩;have:=St.new (w.alloc (.cells D.cD 101)) 101 (zC 101);simpa using this
 generalize (w.alloc (.cells D.cD 101)).alloc (.cells (zC 101) 101)=Wb at H0⊢;obtain⟨b2,bZ⟩:∃b2,w.heap.size+1=b2:=⟨_,rfl⟩
 obtain⟨b0,aY⟩:∃b0,w.heap.size=b0:=⟨_,rfl⟩
 rw[bZ,aY] at H0;rw[bZ,aY];have Hb:=hid (Zz aY bZ);clear bZ aY;have sf:=hid (Fh D C HB.out.2.2 Wb H0.out.1.dm);go_wp2_with (refine nO (by rfl) 101 _ rfl ⟨b0,0,none⟩ rfl D.cD _ H0.out.1.st.part underlying101 rfl H0.out.1.dm.info ?_);refine sf.out.mono ?_;rintro e wy ⟨rfl,ra⟩;have H1:Hid (cZ wy b0 D/\St wy 101 b2 (zC 101)/\Below b0 w wy):=⟨H0.out.1.aa ra,H0.out.2.1.aa ra,H0.out.2.2.trans (ra.mono (by have:=H0.out.2.2.size;have:=Hb.out.1;omega))⟩
 have GN:Hid (b0<=wy.heap.size):=by have h1:=H0.out.2.2.size;have h2:=ra.size;have h3:=Hb.out.1;show _<=_;omega
 have f1:=H1.out.1.f1;have k1:=al wy (.cells #[.int .i64 0] 3);have Sn:=hid (Xm D.n D.cN D.aN D.A D.Cp D.len D.nx [0] (some ⟨wy.heap.size,0,none⟩) 1 1 (by omega) (fun i hi=>by rw[HB.out.2.2.len i hi];omega) (fun i c hi hc=>HB.out.2.2.nx i c hi (by rw[<-HB.out.2.2.len i hi];exact hc)) rfl (by simp) (fun x hx=>by rw[List.mem_singleton.1 hx];omega) (wy.alloc (.cells #[.int .i64 0] 3)) (H1.out.1.aa k1).dm.rN (tU (Am wy wy.heap.size 3 1 #[.int .i64 0] 1 rfl (le_refl _) (by decide)) rfl) (fun h=>by cases h) (fun ad h=>by injection h with h;rw[<-h]));have NF:=hid k1;clear ra sf k1;go_wp2_with fail;refine Sn.out.mono ?_;rintro e w3 ⟨l9,i9,aL,cL,rfl,Wp,xd,Ey,_,ic,b3⟩;have hk9:l9=l/\i9=k:=by
  have h1:(cv (aw D.len D.nx) [0] i9).length=i9:=by rw[<-xd];exact Ey
  have h2:=YA (aw D.len D.nx) [0] h1 (by rw[<-HL.out.1];exact HL.out.2:(cv (aw D.len D.nx) [0] k).length=k);have h3:l9=l:=by rw[xd,h2,<-HL.out.1]
  exact⟨h3,by rw[<-Ey,h3];exact HL.out.2⟩
 obtain⟨rfl,rfl⟩:=hk9;have N6:Hid (l9.Nodup/\(∀x∈l9,x<D.n)):=⟨by rw[HL.out.1];exact Kd _ (by simp) _,ic⟩
 have H3:Hid (cZ w3 b0 D/\St w3 101 b2 (zC 101)/\Below b0 w w3/\mV w3 aL l9):=by
  have k2:=NF.out.trans (b3.mono NF.out.size);exact⟨H1.out.1.aa k2,H1.out.2.1.aa k2,H1.out.2.2.trans (k2.mono GN.out),tU Wp Ey⟩
 have G6:Hid (b0<=w3.heap.size):=by have h1:=NF.out.size;have h2:=b3.size;have h3:=GN.out;show _<=_;omega
 clear Wp xd Ey ic b3 Sn f1;have f1:=H3.out.1.f1;have RI:Hid ((w3.alloc (.cells (madeCells #[.int .i64 0] D.n) 3)).ownsRow w3.heap.size 3 1 (.slice (some ⟨w3.heap.size,0,none⟩) D.n D.n) D.n (uG (fun _=>0) D.n)):=by
  have h:=Ca w3 w3.heap.size D.n 3 (.int .i64 0) (le_refl _) (by unfold maxLen;omega);rw[zmy] at h;exact h
 have k3:=al w3 (.cells (madeCells #[.int .i64 0] D.n) 3);go_upto_region 5 with fail;have k4:=al (w3.alloc (.cells (madeCells #[.int .i64 0] D.n) 3)) (.cells #[.slice (some ⟨w3.heap.size,0,none⟩) D.n D.n] 43);have DP:Hid (((w3.alloc (.cells (madeCells #[.int .i64 0] D.n) 3)).alloc (.cells #[.slice (some ⟨w3.heap.size,0,none⟩) D.n D.n] 43)).ownsRow w3.heap.size 3 1 (.slice (some ⟨w3.heap.size,0,none⟩) D.n D.n) D.n (uG (fun _=>0) D.n)/\St ((w3.alloc (.cells (madeCells #[.int .i64 0] D.n) 3)).alloc (.cells #[.slice (some ⟨w3.heap.size,0,none⟩) D.n D.n] 43)) 43 (w3.heap.size+1) #[.slice (some ⟨w3.heap.size,0,none⟩) D.n D.n]/\Below w3.heap.size w3 ((w3.alloc (.cells (madeCells #[.int .i64 0] D.n) 3)).alloc (.cells #[.slice (some ⟨w3.heap.size,0,none⟩) D.n D.n] 43))):=by
  refine⟨dr RI.out k4,?_,k3.trans (k4.mono k3.size)⟩;have:=St.new (w3.alloc (.cells (madeCells #[.int .i64 0] D.n) 3)) 43 #[.slice (some ⟨w3.heap.size,0,none⟩) D.n D.n];simpa using this
 generalize (w3.alloc (.cells (madeCells #[.int .i64 0] D.n) 3)).alloc (.cells #[.slice (some ⟨w3.heap.size,0,none⟩) D.n D.n] 43)=W5 at DP⊢;obtain⟨b5,uz⟩:∃b5,w3.heap.size+1=b5:=⟨_,rfl⟩
 obtain⟨gU,Jn⟩:∃gU,w3.heap.size=gU:=⟨_,rfl⟩
 rw[uz,Jn] at DP;rw[uz,Jn];have HgU:=hid Jn;clear uz Jn k3 k4 RI f1;obtain⟨gL,oL,rfl,Cd,A9⟩:=H3.out.2.2.2 (by
  have h:=(KT (aw D.len D.nx) [0] i9).length_le
  rw[<-HL.out.1] at h
  exact h)
 have F4:=hid A9;have M3:=hid Cd;clear A9 Cd;have kU:=hid HL.out.2;go_wp2;go_loopw [5,6,24] (fun _ _ v wr=>∃(j:Nat) (f:Nat->Nat),v=.int .i64 j/\j<=i9/\Hid (wr.ownsRow gU 3 1 (.slice (some ⟨gU,0,none⟩) D.n D.n) D.n (uG f D.n)/\St wr 43 b5 #[.slice (some ⟨gU,0,none⟩) D.n D.n]/\Below gU w3 wr/\∀j',j'<j->f (l9.getD j' 0)=j')) (fun _ _ v _=>i9-(intOf v).toNat)
 ·exact⟨0,_,rfl,by omega,⟨DP.out.1,DP.out.2.1,DP.out.2.2,fun j' h=>by omega⟩⟩
 clear DP;obtain⟨j,f,rfl,hj,HA⟩:=hrel;have jm:Below w3.heap.size w3 wr:=by rw[HgU.out];exact HA.out.2.2.1
 by_cases av:j<i9
 ·have hjl:j<l9.length:=by rw[kU.out];exact av
  have d0:=(jm.cell (p:=⟨gL,oL+j,none⟩) M3.out).trans (F4.out j hjl);have AV:l9.getD j 0=l9[j]:=by simp[getD_eq_getElem?_getD,hjl]
  have iH:l9.getD j 0<D.n:=by rw[AV];exact N6.out.2 _ (getElem_mem hjl)
  have HS:Hid (∀j',j'<j+1->(fun y=>if y=l9.getD j 0 then j else f y) (l9.getD j' 0)=j'):=fun j' h=>by
   by_cases e:j'=j
   ·subst e;simp
   have h2:j'<l9.length:=(by omega);have hne:¬l9.getD j' 0=l9.getD j 0:=fun h3=>by
    exact e (MK N6.out.1 h2 hjl h3)
   simp only[if_neg hne];exact HA.out.2.2.2 j' (by omega)
  obtain⟨g9,e9,_,_,c9⟩:=fa HA.out.1 (by omega);obtain rfl:g9=gU:=by
   injection e9 with e9;injection e9 with e9 _;exact e9.symm
  have e5:wr.cell? ⟨b5,0,none⟩=some (.slice (some ⟨g9,0,none⟩) D.n D.n):=HA.out.2.1.at_ 0
  try dsimp only at d0
  clear AV;generalize l9.getD j 0=x at d0 iH HS;obtain⟨y0,y1⟩:=c9 x (by omega);have y2:(uG f D.n)[x]?=some (.int .i64 ((f x:Nat):Int)):=by simp[uG,iH]
  rw[y2] at y0;have HP:Hid ((wr.setCell ⟨g9,x,none⟩ (.int .i64 (j:Int))).ownsRow g9 3 1 (.slice (some ⟨g9,0,none⟩) D.n D.n) D.n (uG (fun y=>if y=x then j else f y) D.n)/\St (wr.setCell ⟨g9,x,none⟩ (.int .i64 (j:Int))) 43 b5 #[.slice (some ⟨g9,0,none⟩) D.n D.n]/\Below g9 w3 (wr.setCell ⟨g9,x,none⟩ (.int .i64 (j:Int)))):=by
   refine⟨?_,HA.out.2.1.fV (p:=⟨g9,x,none⟩) (fun h=>dH HA.out.1 HA.out.2.1 (by decide) g9 rfl h.symm) _,HA.out.2.2.1.setCell (p:=⟨g9,x,none⟩) (le_refl _) _⟩;have:=uV HA.out.1 x iH (.int .i64 (j:Int));rwa [zoe] at this
  have i1:(j:Int)<i9:=by omega
  have i2:(x:Int)<(D.n:Int):=by omega
  clear c9 e9 y2 jm;go_wp2;go_roundw
  ·exact⟨j+1,_,by go_num,by omega,⟨HP.out.1,HP.out.2.1,HP.out.2.2,HS.out⟩⟩
  simp[intOf];omega
 obtain rfl:j=i9:=by omega
 obtain⟨Wn,rfl⟩:∃Wn,Wn=wr:=⟨wr,rfl⟩
 have HN:Hid (cZ Wn b0 D/\St Wn 101 b2 (zC 101)/\Below b0 w Wn/\St Wn 43 b5 #[.slice (some ⟨gU,0,none⟩) D.n D.n]/\b0<=Wn.heap.size):=⟨H3.out.1.aa jm,H3.out.2.1.aa jm,H3.out.2.2.1.trans (jm.mono G6.out),HA.out.2.1,Nat.le_trans G6.out jm.size⟩
 have uc:Hid (∀x,x<D.n->Wn.cell? ⟨gU,x,none⟩=some (.int .i64 ((f x:Nat):Int))):=fun x hx=>by
  obtain⟨g9,e9,_,_,c9⟩:=fa HA.out.1 (by omega);have e8:g9=gU:=by
   injection e9 with e9;injection e9 with e9 _;exact e9.symm
  subst e8;rw[(c9 x (by omega)).1];simp[uG,hx]
 have MD:Hid (∀x∈l9,f x=l9.idxOf x):=fun x hx=>by
  have h1:l9.idxOf x<l9.length:=List.idxOf_lt_length_iff.2 hx;have h2:=HA.out.2.2.2 (l9.idxOf x) (by have:=kU.out;omega);rw[show l9.getD (l9.idxOf x) 0=l9[l9.idxOf x] by simp[getD_eq_getElem?_getD,h1],List.getElem_idxOf h1] at h2;exact h2
 have CT:Hid (gL<Wn.heap.size/\gU<Wn.heap.size):=by
  refine⟨Nat.lt_of_lt_of_le M3.out jm.size,?_⟩;obtain⟨g9,e9,_,h9,_⟩:=fa HA.out.1 (by omega);injection e9 with e9;injection e9 with e9 _;rw[e9];exact h9
 have Px:Hid (∀i,i<j->Wn.cell? ⟨gL,oL+i,none⟩=some (.int .i64 ((l9.getD i 0:Nat):Int))):=fun i hi=>(jm.cell (p:=⟨gL,oL+i,none⟩) M3.out).trans (F4.out i (by rw[kU.out];exact hi))
 clear HA jm;have sJ:=hid HN.out.1;have k5:=al Wn (.cells (zC 101) 101);have fX:St (Wn.alloc (.cells (zC 101) 101)) 101 Wn.heap.size (zC 101):=St.new _ _ _;have G7:gZ Wn Wn.heap.size D.K C (.slice none 0 0) (pL D C l9 0) (fun _=>.slice none 0 0) (.slice none 0 0) (re D l9 0) ((Wn.alloc (.cells (zC 101) 101)).setRow Wn.heap.size (de D.K (.slice none 0 0) (.slice none 0 0))):=gZ.start (V0:=Wn) (K:=D.K) (C:=C) (ws:=fun _=>.slice none 0 0) (a:=none) (c:=0) (ms:=[]) (World.ownsRow_nil _ _ _ _) rfl k5 fX (le_refl _);have js:=hid G7;have iy:=hid fX;clear k5 fX G7;go_upto_region 11 with (first
  | (refine rD rfl 98 _ rfl ⟨b0,0,none⟩ rfl (aU D.K) (.array 256 5) sJ.out.en underlying98 rfl (yD D.K) ?_)
  | (refine CZ rfl 101 _ rfl #[(0,.agg (aU D.K))] (by first|rfl|kernel_rfl|(go_simp;done)) (.agg (de D.K (.slice none 0 0) (.slice none 0 0))) (VS D.K _) ?_)
  | (refine rq rfl 101 rfl (zC 101) (mX _) ?_)
  | (refine ph rfl 101 _ _ rfl Wn.heap.size 101 (zC 101) (de D.K (.slice none 0 0) (.slice none 0 0)) rfl rfl iy.out (by rw[jq,mc]) (by rw[gO,mc]) (vu _ _ _ _ _ _ _) ?_))
 simp only[put,sA,sB,sC];obtain⟨b4,iE⟩:∃b4,Wn.heap.size=b4:=⟨_,rfl⟩
 have EX:=hid iE;rw[iE] at js;rw[iE];generalize (Wn.alloc (.cells (zC 101) 101)).setRow b4 (de D.K (.slice none 0 0) (.slice none 0 0))=W4 at js⊢;clear iE iy;have i4:j<=32768:=by omega
 go_wp2;go_loopw [9,39] (fun _ v wr=>∃(i:Nat) (ws:Nat->Value) (aN aK:Option Addr) (cN cK:Nat),v=.int .i64 i/\i<=j/\Hid (gZ Wn b4 D.K C (.slice aN i cN) (pL D C l9 i) ws (.slice aK i cK) (re D l9 i) wr)) (fun _ v _=>j-(intOf v).toNat)
 ·exact⟨0,_,none,none,0,0,rfl,by omega,js⟩
 clear js;obtain⟨i,ws,aN,aK,cN,cK,rfl,hi,HT⟩:=hrel;by_cases av:i<j
 ·have sE:i<l9.length:=by rw[kU.out];exact av
  have d0:=(HT.out.aJ.cell (p:=⟨gL,oL+i,none⟩) CT.out.1).trans (Px.out i av);have AV:l9.getD i 0=l9[i]:=by simp[getD_eq_getElem?_getD,sE]
  have iH:l9.getD i 0<D.n:=by rw[AV];exact N6.out.2 _ (getElem_mem sE)
  have tr:Hid ((range C).map (nD (D.nx (l9.getD i 0)) (fun y=>((f y:Nat):Int)))=(range C).map (gW D l9 i)):=by
   show _=_;refine(List.map_congr_left fun c hc=>?_);have iQ:c<C:=(by simpa using hc);have hb:=HB.out.2.2.nx (l9.getD i 0) c iH iQ;unfold nD gW zf;by_cases h1:D.nx (l9.getD i 0) c=-1
   ·rw[if_pos h1,if_pos h1]
   rw[if_neg h1,if_neg h1];have hm:(D.nx (l9.getD i 0) c).toNat∈l9:=by
    have h2:=L5 (aw D.len D.nx) [0] j i av (by rw[<-HL.out.1];exact sE) (D.nx (l9.getD i 0) c).toNat (by
     unfold WE aw
     have e7:(cv (aw D.len D.nx) [0] j)[i]'(by rw[<-HL.out.1];exact sE)=l9.getD i 0:=by
      rw[AV]
      congr 1
      exact HL.out.1.symm
     unfold aw at e7
     rw[e7,HB.out.2.2.len _ iH]
     refine List.mem_map.2 ⟨c,by simpa using iQ,?_⟩
     omega)
    rw[<-HL.out.1] at h2;exact h2
   dsimp only;rw[MD.out _ hm]
  have ve:Hid (re D l9 (i+1)=re D l9 i++[D.q (l9.getD i 0)]):=ZZ D l9 i;have B2:Hid (pL D C l9 (i+1)=pL D C l9 i++[(range C).map (gW D l9 i)]):=zmw D C l9 i;have i1:(i:Int)<j:=by omega
  try dsimp only at d0
  clear AV sE;generalize l9.getD i 0=x at d0 iH tr ve;have i2:(x:Int)<(D.n:Int):=by omega
  obtain⟨gM,oM,eM,rR,na⟩:=HN.out.1.dm.rM (by omega);have mW:=HN.out.1.f2;rw[eM] at mW;have i3:(x:Int)<(D.m:Int):=by omega
  have Iw:=na x (by omega);have dA:Hid (∀W',Below Wn.heap.size Wn W'->Below Wn.heap.size Wn W'/\W'.cell? ⟨b0,257,none⟩=some (.slice (some ⟨gM,oM,none⟩) D.m D.cM)/\W'.cell? ⟨gM,oM+x,none⟩=some (.int .i64 (D.q x))):=fun W' h=>⟨h,(h.cell (p:=⟨b0,257,none⟩) HN.out.1.st.lt).trans mW,(h.cell (p:=⟨gM,oM+x,none⟩) rR).trans Iw⟩
  clear eM rR na mW Iw;generalize D.q x=qx at dA ve;go_upto_region 14 with fail;clear d0
  go_cut [9] from 43 to 52 (fun v wx=>v=.int .i64 (x:Int)/\∃(a9:Option Addr) (c9:Nat),gZ Wn b4 D.K C (.slice aN i cN) (pL D C l9 i) ws (.slice a9 (i+1) c9) (re D l9 (i+1)) wx)
  case first=>
   refine wp_region_held_drew (S:=fun W'=>Below Wn.heap.size Wn W'/\W'.cell? ⟨b0,257,none⟩=some (.slice (some ⟨gM,oM,none⟩) D.m D.cM)/\W'.cell? ⟨gM,oM+x,none⟩=some (.int .i64 qx)) (by kernel_rfl) (dA.out _ HT.out.aJ.drew) (fun hHeld=>?_);have HO:Hid (gZ Wn b4 D.K C (.slice aN i cN) (pL D C l9 i) ws (.slice aK i cK) (re D l9 i) wr.drew):=HT.out.aa (Below.refl _ _).drew
   (refine ak 0 ?_;refine ak 2 ?_;refine ak 3 ?_;try simp only[put,sA,sB,sC];refine ak 4 ?_;refine ak 5 ?_;refine ak 6 ?_;try simp only[put,sA,sB,sC])
   refine wpAnyH_ready (rs:=[1,7]) (by kernel_rfl) (by simp) ?_;refine ik (fun K hK=>?_) ?_
   ·skip;have f2:=HO.out.f2;go_simp;refine hK.out _ _ (hHeld) (fun hHeld=>?_);clear hK K
    try simp only[put,sA,sB,sC]
    clear f2;refine bc 7 (fun K hK=>?_);skip;go_simp;have kk:=al wr.drew (.cells #[.int .i64 qx] 3);have kB:Hid (∀j u,[Value.int .i64 qx][j]?=some u->((wr.alloc (.cells #[.int .i64 qx] 3)).drew).cell? ((⟨wr.heap.size,0,none⟩:Addr).add j)=some u):=cell_one_new wr.drew _ _;have HO:Hid (gZ Wn b4 D.K C (.slice aN i cN) (pL D C l9 i) ws (.slice aK i cK) (re D l9 i) ((wr.alloc (.cells #[.int .i64 qx] 3)).drew)):=HO.out.aa kk;refine hK.out _ _ (dA.out _ HO.out.aJ) (fun hHeld=>?_);clear hK K
    try simp only[put,sA,sB,sC]
    clear kk;generalize (wr.alloc (.cells #[.int .i64 qx] 3)).drew=V5 at kB HO hHeld⊢;refine bc 8 (fun K hK=>?_);skip;have hO:=HO.out.ct;rw[Ko] at hO;refine Gz (by rfl) _ _ _ (by rfl) Wn.heap.size 3 iI (.int .i64 0) 1 8 underlying43 hI pT pJ pK (by rfl) (by decide) _ i (ints (re D l9 i)) (by rfl) hO ⟨wr.heap.size,0,none⟩ 1 1 [.int .i64 qx] (by rfl) (by rfl) kB.out (by intro u hu;simp at hu;subst hu;rfl) (by unfold maxLen;omega) (by omega) HO.out.aJ.size ?_;intro v6 w6 aq ag cj;obtain⟨a9,c9,rfl⟩:=bE aq;have rB:=hid (HO.out.l5 (vK':=.slice a9 (i+1) c9) (Ko D l9 i) aq ag cj);have h9:=HO.out.st.af HO.out.ct (by decide) ag;have z2:w6.cell? ⟨b4,257,none⟩=some (.slice aK i cK):=(by rw[h9.at_,yj]);have z3:w6.frozen? ⟨b4,257,none⟩=false:=h9.aX 257;have eC:=fA HO.out.aJ HO.out.ct HO.out.aJ.size ag;clear aq ag cj h9 hO;refine hK.out _ _ (dA.out _ eC) (fun hHeld=>?_);clear hK K
    try simp only[put,sA,sB,sC]
    (refine ak 9 ?_;try simp only[put,sA,sB,sC])
    refine bc 10 (fun K hK=>?_);skip;go_simp;refine hK.out _ _ (dA.out _ rB.out.aJ) (fun hHeld=>?_);clear hK K
    try simp only[put,sA,sB,sC]
    refine wpAnyH_done (by kernel_rfl) ?_ _;rw[<-ve.out] at rB;clear hHeld z2 z3 eC;go_wp2_with fail
    go_meet
    exact⟨rfl,a9,c9,rB.out⟩
   refine ik (fun K hK=>?_) ?_
   ·skip;go_simp;have kk:=al wr.drew (.cells #[.int .i64 qx] 3);have kB:Hid (∀j u,[Value.int .i64 qx][j]?=some u->((wr.alloc (.cells #[.int .i64 qx] 3)).drew).cell? ((⟨wr.heap.size,0,none⟩:Addr).add j)=some u):=cell_one_new wr.drew _ _;have HO:Hid (gZ Wn b4 D.K C (.slice aN i cN) (pL D C l9 i) ws (.slice aK i cK) (re D l9 i) ((wr.alloc (.cells #[.int .i64 qx] 3)).drew)):=HO.out.aa kk;refine hK.out _ _ (dA.out _ HO.out.aJ) (fun hHeld=>?_);clear hK K
    try simp only[put,sA,sB,sC]
    clear kk;generalize (wr.alloc (.cells #[.int .i64 qx] 3)).drew=V5 at kB HO hHeld⊢;refine bc 1 (fun K hK=>?_);skip;have f2:=HO.out.f2;go_simp;refine hK.out _ _ (hHeld) (fun hHeld=>?_);clear hK K
    try simp only[put,sA,sB,sC]
    clear f2;refine bc 8 (fun K hK=>?_);skip;have hO:=HO.out.ct;rw[Ko] at hO;refine Gz (by rfl) _ _ _ (by rfl) Wn.heap.size 3 iI (.int .i64 0) 1 8 underlying43 hI pT pJ pK (by rfl) (by decide) _ i (ints (re D l9 i)) (by rfl) hO ⟨wr.heap.size,0,none⟩ 1 1 [.int .i64 qx] (by rfl) (by rfl) kB.out (by intro u hu;simp at hu;subst hu;rfl) (by unfold maxLen;omega) (by omega) HO.out.aJ.size ?_;intro v6 w6 aq ag cj;obtain⟨a9,c9,rfl⟩:=bE aq;have rB:=hid (HO.out.l5 (vK':=.slice a9 (i+1) c9) (Ko D l9 i) aq ag cj);have h9:=HO.out.st.af HO.out.ct (by decide) ag;have z2:w6.cell? ⟨b4,257,none⟩=some (.slice aK i cK):=(by rw[h9.at_,yj]);have z3:w6.frozen? ⟨b4,257,none⟩=false:=h9.aX 257;have eC:=fA HO.out.aJ HO.out.ct HO.out.aJ.size ag;clear aq ag cj h9 hO;refine hK.out _ _ (dA.out _ eC) (fun hHeld=>?_);clear hK K
    try simp only[put,sA,sB,sC]
    (refine ak 9 ?_;try simp only[put,sA,sB,sC])
    refine bc 10 (fun K hK=>?_);skip;go_simp;refine hK.out _ _ (dA.out _ rB.out.aJ) (fun hHeld=>?_);clear hK K
    try simp only[put,sA,sB,sC]
    refine wpAnyH_done (by kernel_rfl) ?_ _;rw[<-ve.out] at rB;clear hHeld z2 z3 eC;go_wp2_with fail
    go_meet
    exact⟨rfl,a9,c9,rB.out⟩
   exact AllReadyH.nil
  case rest=>
   obtain⟨rfl,a9,c9,Xo⟩:=hcut;have RF:=hid Xo;clear Xo HT;obtain⟨gN,oN,eN,mC,qQ⟩:=HN.out.1.dm.rN (by omega);have Q2:=HN.out.1.f1;rw[eN] at Q2;obtain⟨pM,zN⟩:=qQ x iH;have hlen:=HB.out.2.2.len x iH;rw[hlen] at pM zN;have wg:=hid zN;have lA:Hid (∀W',Below Wn.heap.size Wn W'->Below Wn.heap.size Wn W'/\W'.cell? ⟨b0,256,none⟩=some (.slice (some ⟨gN,oN,none⟩) D.n D.cN)/\W'.cell? ⟨gN,oN+x,none⟩=some (.slice (D.A x) C (D.Cp x))):=(fun W' h=>⟨h,(h.cell (p:=⟨b0,256,none⟩) HN.out.1.st.lt).trans Q2,(h.cell (p:=⟨gN,oN+x,none⟩) mC).trans pM⟩);clear eN mC qQ Q2 pM zN hlen dA;go_upto_region 15 with fail;refine wp_region_held_drew (S:=fun W'=>Below Wn.heap.size Wn W'/\W'.cell? ⟨b0,256,none⟩=some (.slice (some ⟨gN,oN,none⟩) D.n D.cN)/\W'.cell? ⟨gN,oN+x,none⟩=some (.slice (D.A x) C (D.Cp x))) (by kernel_rfl) (lA.out _ RF.out.aJ.drew) (fun hHeld=>?_);have HO:Hid (gZ Wn b4 D.K C (.slice aN i cN) (pL D C l9 i) ws (.slice a9 (i+1) c9) (re D l9 (i+1)) wc.drew):=RF.out.aa (Below.refl _ _).drew
   (refine ak 0 ?_;refine ak 2 ?_;refine ak 3 ?_;try simp only[put,sA,sB,sC];refine ak 4 ?_;refine ak 5 ?_;refine ak 6 ?_;try simp only[put,sA,sB,sC];refine ak 7 ?_;try simp only[put,sA,sB,sC])
   refine wpAnyH_ready (rs:=[1,8]) (by kernel_rfl) (by simp) ?_;refine ik (fun K hK=>?_) ?_
   ·skip;have f1:=HO.out.f1;go_simp;refine hK.out _ _ (hHeld) (fun hHeld=>?_);clear hK K
    try simp only[put,sA,sB,sC]
    clear f1;refine bc 8 (fun K hK=>?_);skip;have ic:=(HO.out.next.lt).2;have iY:=kP HO.out.ct;go_simp;go_at_call 125;refine (Kh 126 b5 D.n (fun y=>((f y:Nat):Int)) C (D.Cp x) (D.A x) (D.nx x) _ T6 (fun W' h y hy=>Xg b5 D.n gU f W' ((HN.out.2.2.2.1.aa HO.out.aJ).aa h) (fun z hz=>((HO.out.aJ.trans (h.mono HO.out.aJ.size)).cell (p:=⟨gU,z,none⟩) CT.out.2).trans (uc.out z hz)) y hy) (by omega) (wg.out.below HO.out.aJ) (fun c hc=>HB.out.2.2.nx x c iH hc) (by omega)).mono ?_;rintro e w5 ⟨a5,c5,rfl,jw,Hi⟩;have HU:Hid (w5.ownsRow Wn.heap.size 3 1 (.slice a5 C c5) C (ints ((range C).map (gW D l9 i)))/\(∀j,j<(pL D C l9 i).length->∀b,(ws j).ownBlock=some b->(Value.slice a5 C c5).ownBlock≠some b)/\∀b,(Value.slice a5 C c5).ownBlock=some b->(Value.slice a9 (i+1) c9).ownBlock≠some b):=by
     have jc:=jZ jw;refine⟨?_,fun j hj b e1 e2=>?_,fun b e1 e2=>?_⟩
     ·rw[<-tr.out];exact jL jw HO.out.aJ.size
     ·have h1:=ic j hj b e1;have h2:=jc b e2
      try simp only[jV] at h1
      try simp only[jV] at h2
      omega
     have h1:=iY b e2;have h2:=jc b e1
     try simp only[jV] at h1
     try simp only[jV] at h2
     omega
    have HO:=hid (HO.out.aa Hi);clear jw Hi ic iY
    try go_wp2_with fail
    refine hK.out _ _ (lA.out _ HO.out.aJ) (fun hHeld=>?_);clear hK K
    try simp only[put,sA,sB,sC]
    refine bc 9 (fun K hK=>?_);skip;go_simp;have kk:=al w5 (.cells #[.slice a5 C c5] 43);have kB:Hid (∀j u,[Value.slice a5 C c5][j]?=some u->(w5.alloc (.cells #[.slice a5 C c5] 43)).cell? ((⟨w5.heap.size,0,none⟩:Addr).add j)=some u):=cell_one_new _ _ _;have HO:=hid (HO.out.aa kk);have HU:=hid (Zz (dr HU.out.1 kk) HU.out.2);refine hK.out _ _ (lA.out _ HO.out.aJ) (fun hHeld=>?_);clear hK K
    try simp only[put,sA,sB,sC]
    clear kk;generalize w5.alloc (.cells #[.slice a5 C c5] 43)=V5 at kB HO HU hHeld⊢;refine bc 10 (fun K hK=>?_);skip;have hO:=(HO.out.next.own);rw[BL] at hO;refine wB (by rfl) _ _ _ (by rfl) Wn.heap.size 43 iV (.slice none 0 0) 1 24 underlying99 hV tI uh uq (by rfl) (by decide) _ i ((range i).map ws) (by rfl) hO ⟨w5.heap.size,0,none⟩ 1 1 [.slice a5 C c5] (by rfl) (by rfl) kB.out (by intro u hu;simp at hu;subst hu;rfl) (by unfold maxLen;omega) (by omega) HO.out.aJ.size ?_;intro v6 w6 aq ag;obtain⟨a7,c7,rfl⟩:=bE aq;have ji:=hid (HO.out.fL (u:=.slice a5 C c5) (vN':=.slice a7 (i+1) c7) HU.out.1 HU.out.2.1 HU.out.2.2 (BL D C l9 i) aq ag);have h9:=(HO.out.st.af HO.out.next.own (by decide) ag);have z2:w6.cell? ⟨b4,256,none⟩=some (.slice aN i cN):=(by rw[h9.at_,pO]);have z3:w6.frozen? ⟨b4,256,none⟩=false:=h9.aX 256;have eC:=(fA HO.out.aJ HO.out.next.own HO.out.aJ.size ag);clear aq ag h9 hO;refine hK.out _ _ (lA.out _ eC) (fun hHeld=>?_);clear hK K
    try simp only[put,sA,sB,sC]
    (refine ak 11 ?_;try simp only[put,sA,sB,sC])
    refine bc 12 (fun K hK=>?_);skip;go_simp;refine hK.out _ _ (lA.out _ ji.out.aJ) (fun hHeld=>?_);clear hK K
    try simp only[put,sA,sB,sC]
    refine wpAnyH_done (by kernel_rfl) ?_ _;rw[<-B2.out] at ji;clear hHeld z2 z3 eC;go_wp2;go_roundw
    ·exact⟨i+1,_,a7,a9,c7,c9,by go_num,by omega,ji⟩
    simp[intOf];omega
   refine ik (fun K hK=>?_) ?_
   ·skip;have ic:=(HO.out.next.lt).2;have iY:=kP HO.out.ct;go_simp;go_at_call 125;refine (Kh 126 b5 D.n (fun y=>((f y:Nat):Int)) C (D.Cp x) (D.A x) (D.nx x) _ T6 (fun W' h y hy=>Xg b5 D.n gU f W' ((HN.out.2.2.2.1.aa HO.out.aJ).aa h) (fun z hz=>((HO.out.aJ.trans (h.mono HO.out.aJ.size)).cell (p:=⟨gU,z,none⟩) CT.out.2).trans (uc.out z hz)) y hy) (by omega) (wg.out.below HO.out.aJ) (fun c hc=>HB.out.2.2.nx x c iH hc) (by omega)).mono ?_;rintro e w5 ⟨a5,c5,rfl,jw,Hi⟩;have HU:Hid (w5.ownsRow Wn.heap.size 3 1 (.slice a5 C c5) C (ints ((range C).map (gW D l9 i)))/\(∀j,j<(pL D C l9 i).length->∀b,(ws j).ownBlock=some b->(Value.slice a5 C c5).ownBlock≠some b)/\∀b,(Value.slice a5 C c5).ownBlock=some b->(Value.slice a9 (i+1) c9).ownBlock≠some b):=by
     have jc:=jZ jw;refine⟨?_,fun j hj b e1 e2=>?_,fun b e1 e2=>?_⟩
     ·rw[<-tr.out];exact jL jw HO.out.aJ.size
     ·have h1:=ic j hj b e1;have h2:=jc b e2
      try simp only[jV] at h1
      try simp only[jV] at h2
      omega
     have h1:=iY b e2;have h2:=jc b e1
     try simp only[jV] at h1
     try simp only[jV] at h2
     omega
    have HO:=hid (HO.out.aa Hi);clear jw Hi ic iY
    try go_wp2_with fail
    refine hK.out _ _ (lA.out _ HO.out.aJ) (fun hHeld=>?_);clear hK K
    try simp only[put,sA,sB,sC]
    refine wpAnyH_ready (rs:=[1,9]) (by kernel_rfl) (by simp) ?_;refine ik (fun K hK=>?_) ?_
    ·skip;have f1:=HO.out.f1;go_simp;refine hK.out _ _ (hHeld) (fun hHeld=>?_);clear hK K
     try simp only[put,sA,sB,sC]
     clear f1;refine bc 9 (fun K hK=>?_);skip;go_simp;have kk:=al w5 (.cells #[.slice a5 C c5] 43);have kB:Hid (∀j u,[Value.slice a5 C c5][j]?=some u->(w5.alloc (.cells #[.slice a5 C c5] 43)).cell? ((⟨w5.heap.size,0,none⟩:Addr).add j)=some u):=cell_one_new _ _ _;have HO:=hid (HO.out.aa kk);have HU:=hid (Zz (dr HU.out.1 kk) HU.out.2);refine hK.out _ _ (lA.out _ HO.out.aJ) (fun hHeld=>?_);clear hK K
     try simp only[put,sA,sB,sC]
     clear kk;generalize w5.alloc (.cells #[.slice a5 C c5] 43)=V5 at kB HO HU hHeld⊢;refine bc 10 (fun K hK=>?_);skip;have hO:=(HO.out.next.own);rw[BL] at hO;refine wB (by rfl) _ _ _ (by rfl) Wn.heap.size 43 iV (.slice none 0 0) 1 24 underlying99 hV tI uh uq (by rfl) (by decide) _ i ((range i).map ws) (by rfl) hO ⟨w5.heap.size,0,none⟩ 1 1 [.slice a5 C c5] (by rfl) (by rfl) kB.out (by intro u hu;simp at hu;subst hu;rfl) (by unfold maxLen;omega) (by omega) HO.out.aJ.size ?_;intro v6 w6 aq ag;obtain⟨a7,c7,rfl⟩:=bE aq;have ji:=hid (HO.out.fL (u:=.slice a5 C c5) (vN':=.slice a7 (i+1) c7) HU.out.1 HU.out.2.1 HU.out.2.2 (BL D C l9 i) aq ag);have h9:=(HO.out.st.af HO.out.next.own (by decide) ag);have z2:w6.cell? ⟨b4,256,none⟩=some (.slice aN i cN):=(by rw[h9.at_,pO]);have z3:w6.frozen? ⟨b4,256,none⟩=false:=h9.aX 256;have eC:=(fA HO.out.aJ HO.out.next.own HO.out.aJ.size ag);clear aq ag h9 hO;refine hK.out _ _ (lA.out _ eC) (fun hHeld=>?_);clear hK K
     try simp only[put,sA,sB,sC]
     (refine ak 11 ?_;try simp only[put,sA,sB,sC])
     refine bc 12 (fun K hK=>?_);skip;go_simp;refine hK.out _ _ (lA.out _ ji.out.aJ) (fun hHeld=>?_);clear hK K
     try simp only[put,sA,sB,sC]
     refine wpAnyH_done (by kernel_rfl) ?_ _;rw[<-B2.out] at ji;clear hHeld z2 z3 eC;go_wp2;go_roundw
     ·exact⟨i+1,_,a7,a9,c7,c9,by go_num,by omega,ji⟩
     simp[intOf];omega
    refine ik (fun K hK=>?_) ?_
    ·skip;go_simp;have kk:=al w5 (.cells #[.slice a5 C c5] 43);have kB:Hid (∀j u,[Value.slice a5 C c5][j]?=some u->(w5.alloc (.cells #[.slice a5 C c5] 43)).cell? ((⟨w5.heap.size,0,none⟩:Addr).add j)=some u):=cell_one_new _ _ _;have HO:=hid (HO.out.aa kk);have HU:=hid (Zz (dr HU.out.1 kk) HU.out.2);refine hK.out _ _ (lA.out _ HO.out.aJ) (fun hHeld=>?_);clear hK K
     try simp only[put,sA,sB,sC]
     clear kk;generalize w5.alloc (.cells #[.slice a5 C c5] 43)=V5 at kB HO HU hHeld⊢;refine bc 1 (fun K hK=>?_);skip;have f1:=HO.out.f1;go_simp;refine hK.out _ _ (hHeld) (fun hHeld=>?_);clear hK K
     try simp only[put,sA,sB,sC]
     clear f1;refine bc 10 (fun K hK=>?_);skip;have hO:=(HO.out.next.own);rw[BL] at hO;refine wB (by rfl) _ _ _ (by rfl) Wn.heap.size 43 iV (.slice none 0 0) 1 24 underlying99 hV tI uh uq (by rfl) (by decide) _ i ((range i).map ws) (by rfl) hO ⟨w5.heap.size,0,none⟩ 1 1 [.slice a5 C c5] (by rfl) (by rfl) kB.out (by intro u hu;simp at hu;subst hu;rfl) (by unfold maxLen;omega) (by omega) HO.out.aJ.size ?_;intro v6 w6 aq ag;obtain⟨a7,c7,rfl⟩:=bE aq;have ji:=hid (HO.out.fL (u:=.slice a5 C c5) (vN':=.slice a7 (i+1) c7) HU.out.1 HU.out.2.1 HU.out.2.2 (BL D C l9 i) aq ag);have h9:=(HO.out.st.af HO.out.next.own (by decide) ag);have z2:w6.cell? ⟨b4,256,none⟩=some (.slice aN i cN):=(by rw[h9.at_,pO]);have z3:w6.frozen? ⟨b4,256,none⟩=false:=h9.aX 256;have eC:=(fA HO.out.aJ HO.out.next.own HO.out.aJ.size ag);clear aq ag h9 hO;refine hK.out _ _ (lA.out _ eC) (fun hHeld=>?_);clear hK K
     try simp only[put,sA,sB,sC]
     (refine ak 11 ?_;try simp only[put,sA,sB,sC])
     refine bc 12 (fun K hK=>?_);skip;go_simp;refine hK.out _ _ (lA.out _ ji.out.aJ) (fun hHeld=>?_);clear hK K
     try simp only[put,sA,sB,sC]
     refine wpAnyH_done (by kernel_rfl) ?_ _;rw[<-B2.out] at ji;clear hHeld z2 z3 eC;go_wp2;go_roundw
     ·exact⟨i+1,_,a7,a9,c7,c9,by go_num,by omega,ji⟩
     simp[intOf];omega
    exact AllReadyH.nil
   exact AllReadyH.nil
 obtain rfl:i=j:=by omega
 have iy:=hid HT.out.st;have iw:=hid (HN.out.2.1.aa HT.out.aJ);have hd:=mc D.K (.slice aN i cN) (.slice aK i cK);have Dw:Hid (w.heap.size<=Wn.heap.size):=by have h1:=HN.out.2.2.2.2;have h2:=Hb.out.1;show _<=_;omega
 have Bg:Hid (Below w.heap.size w (wr.setRow b2 (de D.K (.slice aN i cN) (.slice aK i cK)))):=by
  rw[Hb.out.1];exact mT (HN.out.2.2.1.trans (HT.out.aJ.mono HN.out.2.2.2.2)) (by have:=Hb.out;omega) _
 have HF:Hid (Bk D C i (gW D l9) (fun i=>D.q (l9.getD i 0)) w (.returned (.agg (de D.K (.slice aN i cN) (.slice aK i cK)))) (wr.setRow b2 (de D.K (.slice aN i cN) (.slice aK i cK)))):=
  HT.out.MX HB.out.1.dm.kl (BL D C l9 i) (fun r hr=>by unfold pL at hr;obtain⟨j,_,rfl⟩:=List.mem_map.1 hr;simp) rfl (fun j hj c hc=>by unfold pL;simp[getD_eq_getElem?_getD,hj,hc]) Dw.out (Or.inr ⟨b2,_,_,iw.out,rfl⟩) Bg.out
 go_wp2_with (first|(refine rD rfl 101 _ rfl ⟨b4,0,none⟩ rfl (de D.K (.slice aN i cN) (.slice aK i cK)) _ iy.out.part underlying101 rfl (by rw[gO,hd]) ?_)|(refine ph rfl 101 _ _ rfl b2 101 (zC 101) (de D.K (.slice aN i cN) (.slice aK i cK)) rfl rfl iw.out (by rw[jq,hd]) (by rw[gO,hd]) (vu _ _ _ _ _ _ _) ?_));refine bodyPost_ret (results_cell_row rfl _ _ b2 101 (de D.K (.slice aN i cN) (.slice aK i cK)) (0,0) _ rfl iw.out.setRow underlying101 rfl (by rw[gO,hd])) rfl ?_;exact HF.out
def oI(D:Dd)(C n':Nat)(EC:Nat->Nat->Int)(q':Nat->Int)(D':Dd):Prop:=
 D'.K=D.K/\D'.n=n'/\D'.m=n'/\(∀i,i<n'->D'.len i=C)/\(∀i,i<n'->∀c,c<C->D'.nx i c=EC i c)/\∀i,i<n'->D'.q i=q' i
theorem oI.jM(hR:DR D C)(h:oI D C D.n (ni D) D.q D1):DR D1 C:=by
 obtain⟨e1,e2,e3,e4,e5,e6⟩:=h;refine⟨by rw[e1];exact hR.c,by rw[e2];exact hR.n1,by rw[e2];exact hR.n2,by rw[e3,e2],fun c hc=>by rw[e1];exact hR.Bb c hc,fun i hi=>e4 i (by omega),fun i hi=>by rw[e6 i (by omega)];exact hR.q i (by omega),fun i c hi hc=>?_⟩;rw[e5 i (by omega) c hc,e2];have:=hR.nx i c (by omega) hc;unfold ni;split <;> omega
theorem uS.of{y:Nat}(he:Ed D x y)(h:uS D y):uS D x:=by
 obtain⟨k,h1,h2⟩:=h;exact⟨k,jX.head (B:=fun _=>True) he h1,h2⟩
theorem qW(D:Dd)(b:Nat):dt D (-1) b=-1:=by unfold dt;rw[if_neg (by omega)]
theorem Bx(hR:DR D C)(dG:(cv (aw D.len D.nx) [0] k).length=k)(i c:Nat)(hi:i<k)(hc:c<C):
  (cv (aw D.len D.nx) [0] k).getD i 0<D.n/\((D.nx ((cv (aw D.len D.nx) [0] k).getD i 0) c=-1/\gW D (cv (aw D.len D.nx) [0] k) i c=-1)\/
   ∃j,j<k/\gW D (cv (aw D.len D.nx) [0] k) i c=((j:Nat):Int)/\D.nx ((cv (aw D.len D.nx) [0] k).getD i 0) c=(((cv (aw D.len D.nx) [0] k).getD j 0:Nat):Int)):=by
 have fq:=L5 (aw D.len D.nx) [0] k i hi;have fS:=K9 hR k;generalize cv (aw D.len D.nx) [0] k=l at dG fq fS⊢;have lY:i<l.length:=by omega
 have hx:l.getD i 0=l[i]:=by simp[getD_eq_getElem?_getD,lY]
 have iH:l[i]<D.n:=fS _ (getElem_mem lY);unfold gW zf;rw[hx];refine⟨iH,?_⟩;have hb:=hR.nx l[i] c iH hc;by_cases h1:D.nx l[i] c=-1
 ·exact Or.inl ⟨h1,by rw[if_pos h1]⟩
 rw[if_neg h1];right;have hm:(D.nx l[i] c).toNat∈l:=by
  refine fq lY _ ?_;unfold WE aw;exact List.mem_map.2 ⟨c,by rw[List.mem_range,hR.len _ iH];exact hc,by omega⟩
 have av:=List.idxOf_lt_length_iff.2 hm;refine⟨l.idxOf (D.nx l[i] c).toNat,by omega,rfl,?_⟩;have h2:l.getD (l.idxOf (D.nx l[i] c).toNat) 0=(D.nx l[i] c).toNat:=by
  rw[getD_eq_getElem?_getD,List.getElem?_eq_getElem av,List.getElem_idxOf];rfl
 rw[h2];omega
theorem OA(dG:(cv (aw D.len D.nx) [0] k).length=k):1<=k/\(cv (aw D.len D.nx) [0] k).getD 0 0=0:=by
 obtain⟨t,ht⟩:=KT (aw D.len D.nx) [0] k;generalize cv (aw D.len D.nx) [0] k=l at dG ht⊢;subst ht;refine⟨?_,rfl⟩;simp at dG;omega
theorem oI.oh(hR:DR D C)(dG:(cv (aw D.len D.nx) [0] k).length=k)(rS:k<=D.n)(h:oI D C k (gW D (cv (aw D.len D.nx) [0] k)) (fun i=>D.q ((cv (aw D.len D.nx) [0] k).getD i 0)) D1):DR D1 C:=by
 obtain⟨e1,e2,e3,e4,e5,e6⟩:=h;have h1:=(OA dG).1;have dk:=hR.n2;have Qn:0<C:=by have:=hR.c.1 0 (by omega);omega
 refine⟨by rw[e1];exact hR.c,by omega,by omega,by rw[e3,e2],fun c hc=>by rw[e1];exact hR.Bb c hc,fun i hi=>e4 i (by omega),fun i hi=>?_,fun i c hi hc=>?_⟩
 ·rw[e6 i (by omega)];exact hR.q _ (Bx hR dG i 0 (by omega) Qn).1
 rw[e5 i (by omega) c hc,e2];rcases (Bx hR dG i c (by omega) hc).2 with ⟨_,h2⟩|⟨j,hj,h2,_⟩
 ·rw[h2];omega
 rw[h2];omega
end Go.Proofs.YtiijebameffenaaGreat
