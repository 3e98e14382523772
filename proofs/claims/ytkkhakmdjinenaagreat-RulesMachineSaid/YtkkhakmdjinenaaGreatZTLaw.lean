import Derived.Test.YtkkhakmdjinenaaGreatZTTrim
import Derived.ChangeKeysEq
set_option linter.all false
set_option maxHeartbeats 8000000
set_option maxRecDepth 100000
open Go.Lib (hid)
namespace Go.Proofs.YtkkhakmdjinenaaGreat
open Go.RowKit Go.Proofs.Tryz
open Go.Maps
open Act (put)
open List (getD_eq_getElem?_getD getElem_mem range)
open Nat (le_refl)
def bK(D:Dd)(st:Int)(b:Nat):Int:=if 0<=st/\st<(D.n:Int) then D.nx st.toNat (D.K b) else -1
def bD(D:Dd)(st:Int)(z:Nat->Nat):Nat->Int
 | 0=>st
 | k+1=>bK D (bD D st z k) (z k)
def bu(D:Dd)(st:Int):Int:=if 0<=st/\st<(D.n:Int) then D.q st.toNat else -1
theorem YC(D:Dd)(st:Int)(z:Nat->Nat){k:Nat}(h:bD D st z k=-1):∀m,k<=m->bD D st z m=-1:=by
 intro m hm
 induction m with
 | zero=>rw[show k=0 by omega] at h;exact h
 | succ m ih=>
  by_cases e:k=m+1
  ·rw[<-e];exact h
  show bK D (bD D st z m) (z m)=-1;rw[ih (by omega)];unfold bK;rw[if_neg (by omega)]
theorem zmE(D:Dd)(C:Nat)(hR:DR D C)(st:Int)(b:Nat)(hb:b<256)(w:World)(hD:DM w D):
  Calls prog 131 #[.agg D.cD,.int .i64 st,.int .u8 (b:Int)] w fun e w'=>e=.returned (.int .i64 (bK D st b))/\Below w.heap.size w w':=by
 have HB:=ξ (bg.new hD) (al w (.cells D.cD 29)) hR;have cU:=hR.n2;have tq:=(hR.il hD.kl).2;clear hD hR;go_in;go_upto_region 1 with fail;generalize w.alloc (.cells D.cD 29)=W0 at HB⊢;generalize ay:w.heap.size=b0 at HB⊢;have bW:=hid ay;clear ay;have k0:=HB.out.1.f0 b hb;have hkl:=HB.out.1.dm.kl b hb;have Dn:=HB.out.2.2.c.1 b hb;have i0:(b:Int)<256:=by omega
 have nb:=hid (Kc D st W0 HB.out.1.dm);obtain⟨kb,D9⟩:∃kb,D.K b=kb:=⟨_,rfl⟩
 have MB:=hid D9;rw[D9] at k0 hkl Dn;clear D9;go_wp2_with (refine js (by rfl) 29 _ rfl ⟨b0,0,none⟩ rfl D.cD _ HB.out.1.st.part underlying29 rfl HB.out.1.dm.info ?_);refine nb.out.mono ?_;rintro e w2 ⟨rfl,b2⟩;have kg:=hid (HB.out.1.ab b2);have HF:Hid (Below w.heap.size w w2):=by
  rw[bW.out];exact HB.out.2.1.trans (b2.mono (by have:=HB.out.2.1.size;have:=bW.out;omega))
 clear b2 nb k0;by_cases hs:0<=st/\st<(D.n:Int)
 ·obtain⟨s,rfl⟩:∃s:Nat,st=(s:Int):=⟨st.toNat,by omega⟩
  have oc:s<D.n:=by omega
  have HZ:Hid (decide (0<=(s:Int)/\(s:Int)<(D.n:Int))=true):=by show _=_;simp;omega
  have HV:Hid (bK D (s:Int) b=D.nx s kb):=by
   show _=_;unfold bK;rw[if_pos hs,MB.out];rfl
  have f1:=kg.out.f1;obtain⟨gN,oN,eN,ky,cN,zN⟩:=kg.out.dm.row s oc;rw[HB.out.2.2.len s oc] at cN zN;rw[eN] at f1;obtain⟨gA,oA,eA,_,lH⟩:=zN (by omega);have cA:=lH kb Dn;rw[eA] at cN;have i1:(kb:Int)<C:=by omega
  have i2:(s:Int)<(D.n:Int):=by omega
  have i3:¬((C:Int)<=kb):=by omega
  rw[HZ.out];have vZ:=hid eN;have GJ:=hid eA;clear eN eA lH zN hs ky;generalize D.nx s kb=r at cA HV;go_wp2;go_ret;exact⟨by rw[HV.out];first|rfl|simp,HF.out⟩
 have HZ:Hid (decide (0<=st/\st<(D.n:Int))=false):=by show _=_;simp;omega
 have HV:Hid (bK D st b=-1):=by
  show _=_;unfold bK;rw[if_neg hs]
 rw[HZ.out];clear hs;go_wp2;go_ret;exact⟨by rw[HV.out];first|rfl|simp,HF.out⟩
theorem zhe(D:Dd)(C:Nat)(hR:DR D C)(st:Int)(w:World)(hD:DM w D):
  Calls prog 59 #[.agg D.cD,.int .i64 st] w fun e w'=>e=.returned (.int .i64 (bu D st))/\Below w.heap.size w w':=by
 have HB:=ξ (bg.new hD) (al w (.cells D.cD 29)) hR;have cU:=hR.n2;have jl:=hR.m;clear hD hR;go_in;go_upto_region 1 with fail;generalize w.alloc (.cells D.cD 29)=W0 at HB⊢;generalize ay:w.heap.size=b0 at HB⊢;have bW:=hid ay;clear ay;have nb:=hid (Kc D st W0 HB.out.1.dm);go_wp2_with (refine js (by rfl) 29 _ rfl ⟨b0,0,none⟩ rfl D.cD _ HB.out.1.st.part underlying29 rfl HB.out.1.dm.info ?_);refine nb.out.mono ?_;rintro e w2 ⟨rfl,b2⟩;have kg:=hid (HB.out.1.ab b2);have HF:Hid (Below w.heap.size w w2):=by
  rw[bW.out];exact HB.out.2.1.trans (b2.mono (by have:=HB.out.2.1.size;have:=bW.out;omega))
 clear b2 nb;by_cases hs:0<=st/\st<(D.n:Int)
 ·obtain⟨s,rfl⟩:∃s:Nat,st=(s:Int):=⟨st.toNat,by omega⟩
  have oc:s<D.n:=by omega
  have HZ:Hid (decide (0<=(s:Int)/\(s:Int)<(D.n:Int))=true):=by show _=_;simp;omega
  have HV:Hid (bu D (s:Int)=D.q s):=by
   show _=_;unfold bu;rw[if_pos hs];rfl
  have f2:=kg.out.f2;obtain⟨gM,oM,eM,_,lJ⟩:=kg.out.dm.rM (by omega);have cM:=lJ s (by omega);rw[eM,jl] at f2;have i2:(s:Int)<(D.n:Int):=by omega
  have i3:¬((D.n:Int)<=(s:Int)):=by omega
  rw[HZ.out];have NC:=hid eM;clear eM lJ hs jl;generalize D.q s=r at cM HV;go_wp2;go_ret;exact⟨by rw[HV.out];first|rfl|simp,HF.out⟩
 have HZ:Hid (decide (0<=st/\st<(D.n:Int))=false):=by show _=_;simp;omega
 have HV:Hid (bu D st=-1):=by
  show _=_;unfold bu;rw[if_neg hs]
 rw[HZ.out];clear hs jl;go_wp2;go_ret;exact⟨by rw[HV.out];first|rfl|simp,HF.out⟩
theorem zoo(D:Dd)(C:Nat)(hR:DR D C)(st:Int)(s:ByteArray)(m:Nat)(hs:s.size=m)(hm:m<=1000000)(w:World)(hD:DM w D):
  Calls prog 98 #[.agg D.cD,.int .i64 st,.string s] w fun e w'=>e=.returned (.int .i64 (bD D st (eW s) m))/\Below w.heap.size w w':=by
 have HB:=ξ (bg.new hD) (al w (.cells D.cD 29)) hR;have zT:=hs;have HS:=hid hs;clear hD hR hs;go_in;go_upto_region 1 with fail;generalize w.alloc (.cells D.cD 29)=W0 at HB⊢;generalize ay:w.heap.size=b0 at HB⊢;have bW:=hid ay;clear ay;go_wp2;go_loopw [1,7,10] (fun v1 _ v wr=>∃(k:Nat),v=.int .i64 k/\k<=m/\v1=.int .i64 (bD D st (eW s) k)/\Hid (Below W0.heap.size W0 wr)) (fun _ _ v _=>m-(intOf v).toNat)
 ·exact⟨0,rfl,by omega,rfl,Below.refl _ _⟩
 obtain⟨k,rfl,hk,rfl,HX⟩:=hrel;have mh:Hid (∀W',Below W0.heap.size W0 W'->Below w.heap.size w W'):=fun W' h=>by
  rw[bW.out];exact HB.out.2.1.trans (h.mono (by have:=HB.out.2.1.size;have:=bW.out;omega))
 have Wm:Hid (bD D st (eW s) k=-1->bD D st (eW s) m=-1):=fun h=>YC D st _ h m hk
 by_cases aq:k<m
 ·have qy:k<s.size:=by rw[zT];exact aq
  obtain⟨bt,qJ⟩:∃bt,(s[k]'qy).toNat=bt:=⟨_,rfl⟩
  have tQ:=Og s k qy;rw[qJ] at tQ;have km:bt<256:=by rw[tQ];exact uT s k
  have ep:Hid (bD D st (eW s) (k+1)=bK D (bD D st (eW s) k) bt):=by show bK D (bD D st (eW s) k) (eW s k)=_;rw[<-tQ]
  have HDs:Hid (bD D st (eW s) (k+1)=-1->bD D st (eW s) m=-1):=fun h=>YC D st _ h m (by omega)
  have i1:(k:Int)<m:=by omega
  generalize bD D st (eW s) k=a at ep Wm⊢;have cZ:Hid (∀W',Below W0.heap.size W0 W'->Below W0.heap.size W0 W'/\bg W' b0 D):=fun W' h=>⟨h,HB.out.1.ab h⟩
  clear tQ;go_upto_region 4 with fail;refine wp_region_held_drew (S:=fun W'=>Below W0.heap.size W0 W'/\bg W' b0 D) (by kernel_rfl) (cZ.out _ HX.out.drew) (fun η=>?_)
  (refine an 0 (v:=.agg D.cD) ?_ (hy:=by intro wz hSw;exact ob (o:=_) (ρ:=_) wz 29 (.tmp 3) rfl ⟨b0,0,none⟩ rfl D.cD _ (bg.st (And.right hSw)).part underlying29 rfl (bg.dm (And.right hSw)).info))
  (refine an 1 ?_;refine an 2 ?_;refine an 3 ?_;try simp only[put,sA];refine an 4 ?_;try simp only[put,sA])
  refine bc 5 (fun K hK=>?_);skip;go_simp;go_at_call 131;refine (zmE D C HB.out.2.2 a bt km _ η.2.dm).mono ?_;rintro e wj ⟨rfl,vj⟩;have bz:Below W0.heap.size W0 wj:=η.1.trans (vj.mono η.1.size);clear vj
  try go_wp2_with fail
  refine hK.out _ _ (cZ.out _ bz) fun η=>?_;clear hK K
  try simp only[put,sA]
  (refine an 6 ?_;try simp only[put,sA])
  refine wpAnyH_done (by kernel_rfl) ?_ _;have p9:=hid bz;clear η bz;rw[<-ep.out];have HF:=hid (mh.out _ p9.out);by_cases hd:bD D st (eW s) (k+1)=-1
  ·have HV:=hid (HDs.out hd);rw[hd];go_wp2;go_ret;exact⟨by rw[HV.out];first|rfl|simp,HF.out⟩
  have QD:Hid (bD D st (eW s) (k+1)=bD D st (eW s) (k+1)):=rfl;obtain⟨r,hr⟩:∃r,bD D st (eW s) (k+1)=r:=⟨_,rfl⟩
  have Hr:=hid hr;rw[hr] at hd;rw[hr];clear hr QD ep;go_wp2;go_roundw
  ·exact⟨k+1,by go_num,by omega,by rw[Hr.out],p9⟩
  simp[intOf];omega
 obtain rfl:k=m:=by omega
 have HF:=hid (mh.out wr HX.out);clear Wm;go_wp2;go_ret;exact⟨rfl,HF.out⟩
theorem zop(D:Dd)(C:Nat)(hR:DR D C)(s:ByteArray)(m:Nat)(hs:s.size=m)(hm:m<=1000000)(w:World)(hD:DM w D):
  Calls prog 63 #[.agg D.cD,.string s] w fun e w'=>e=.returned (.int .i64 (bu D (bD D 0 (eW s) m)))/\Below w.heap.size w w':=by
 have HB:=ψ (bg.new hD) (al w (.cells D.cD 29)) hR hs;clear hD hR hs;go_in;go_upto_region 1 with fail;generalize w.alloc (.cells D.cD 29)=W0 at HB⊢;generalize ay:w.heap.size=b0 at HB⊢;have bW:=hid ay;clear ay;have mh:Hid (∀W',Below W0.heap.size W0 W'->Below w.heap.size w W'):=fun W' h=>by
  rw[bW.out];exact HB.out.2.1.trans (h.mono (by have:=HB.out.2.1.size;have:=bW.out;omega))
 have cZ:Hid (∀W',Below W0.heap.size W0 W'->Below W0.heap.size W0 W'/\bg W' b0 D):=fun W' h=>⟨h,HB.out.1.ab h⟩
 refine wp_region_held_drew (S:=fun W'=>Below W0.heap.size W0 W'/\bg W' b0 D) (by kernel_rfl) (cZ.out _ (Below.refl _ _).drew) (fun η=>?_)
 (refine an 0 (v:=.agg D.cD) ?_ (hy:=by intro wz hSw;exact ob (o:=_) (ρ:=_) wz 29 (.tmp 2) rfl ⟨b0,0,none⟩ rfl D.cD _ (bg.st (And.right hSw)).part underlying29 rfl (bg.dm (And.right hSw)).info))
 (refine an 1 (v:=.agg D.cD) ?_ (hy:=by intro wz hSw;exact ob (o:=_) (ρ:=_) wz 29 (.tmp 2) rfl ⟨b0,0,none⟩ rfl D.cD _ (bg.st (And.right hSw)).part underlying29 rfl (bg.dm (And.right hSw)).info))
 (refine an 2 ?_;try simp only[put,sA])
 refine bc 3 (fun K hK=>?_);skip;go_simp;go_at_call 98;refine (zoo D C HB.out.2.2.1 0 s m HB.out.2.2.2 hm _ η.2.dm).mono ?_;rintro e wj ⟨rfl,vj⟩;have bz:Below W0.heap.size W0 wj:=η.1.trans (vj.mono η.1.size);clear vj
 try go_wp2_with fail
 refine hK.out _ _ (cZ.out _ bz) fun η=>?_;clear hK K
 try simp only[put,sA]
 clear bz;refine bc 4 (fun K hK=>?_);skip;go_simp;go_at_call 59;refine (zhe D C HB.out.2.2.1 (bD D 0 (eW s) m) _ η.2.dm).mono ?_;rintro e wk ⟨rfl,vk⟩;have bz:Below W0.heap.size W0 wk:=η.1.trans (vk.mono η.1.size);clear vk
 try go_wp2_with fail
 refine hK.out _ _ (cZ.out _ bz) fun η=>?_;clear hK K
 try simp only[put,sA]
 (refine an 5 ?_;try simp only[put,sA])
 refine wpAnyH_done (by kernel_rfl) ?_ _;have HF:=hid (mh.out _ bz);clear η bz;go_wp2;go_ret;exact⟨rfl,HF.out⟩
def zM(l:List Nat)(t:Int):Int:=if t=-1 then -1 else ((l.idxOf t.toNat:Nat):Int)
def jg(D:Dd)(l:List Nat)(i c:Nat):Int:=zM l (D.nx (l.getD i 0) c)
theorem zqn{l1 l2:List Nat}{x:Nat}(h:l1 <+: l2)(hx:x∈l1):l2.idxOf x=l1.idxOf x:=by
 obtain⟨t,rfl⟩:=h;rw[List.idxOf_append,if_pos hx]
theorem M5{D:Dd}{C:Nat}(hR:DR D C)(i:Nat):∀x∈dw (av D.len D.nx) [0] i,x<D.n:=by
 have h0:=hR.n1
 induction i with
 | zero=>intro x hx;rw[List.mem_singleton.1 hx];omega
 | succ i ih=>
  intro x hx;have lE:x∈pE (av D.len D.nx) (dw (av D.len D.nx) [0] i) i:=hx;unfold pE at lE;split at lE
  ·rename_i h;rw[Ul] at lE;rcases lE with h1|h1
   ·exact ih x h1
   have hm:(dw (av D.len D.nx) [0] i).getD i 0∈dw (av D.len D.nx) [0] i:=by
    rw[show (dw (av D.len D.nx) [0] i).getD i 0=(dw (av D.len D.nx) [0] i)[i] by simp[getD_eq_getElem?_getD,h]];exact getElem_mem h
   have hs:=ih _ hm;generalize (dw (av D.len D.nx) [0] i).getD i 0=y at h1 hs;unfold av at h1;obtain⟨c,hc,e⟩:=List.mem_map.1 h1;have fB:c<D.len y:=List.mem_range.1 hc;exact hR.ed _ _ ⟨hs,c,fB,e⟩
  exact ih x lE
theorem ZS{D:Dd}{C:Nat}(hR:DR D C):∃k,(dw (av D.len D.nx) [0] k).length=k/\k<=D.n:=by
 have hb:∀i,(dw (av D.len D.nx) [0] i).length<=D.n:=fun i=>qw (NZ _ (by simp) i) (M5 hR i)
 have hp:∀i j,i<=j->(dw (av D.len D.nx) [0] i).length<=(dw (av D.len D.nx) [0] j).length:=fun i j h=>by
  induction j with
  | zero=>rw[show i=0 by omega];exact le_refl _
  | succ j ih=>
   by_cases e:i=j+1
   ·rw[e];exact le_refl _
   exact Nat.le_trans (ih (by omega)) (NU _ _ j).length_le
 have key:∀m,(∃k,k<=m/\(dw (av D.len D.nx) [0] k).length=k)\/m<(dw (av D.len D.nx) [0] m).length:=by
  intro m
  induction m with
  | zero=>exact Or.inr (by simp[dw])
  | succ m ih=>
   rcases ih with ⟨k,h1,h2⟩|h
   ·exact Or.inl ⟨k,by omega,h2⟩
   have:=hp m (m+1) (by omega);by_cases e:(dw (av D.len D.nx) [0] (m+1)).length=m+1
   ·exact Or.inl ⟨m+1,le_refl _,e⟩
   exact Or.inr (by omega)
 rcases key D.n with ⟨k,h1,h2⟩|h
 ·exact⟨k,h2,h1⟩
 have:=hb D.n;omega
theorem zq9{rows:Nat->List Int}{m:List Nat}{i k:Nat}(h:i<=k):dw rows m i <+: dw rows m k:=by
 induction k with
 | zero=>rw[show i=0 by omega];exact List.prefix_refl _
 | succ k ih=>
  by_cases e:i=k+1
  ·rw[e];exact List.prefix_refl _
  exact (ih (by omega)).trans (NU rows m k)
section
variable {W0 : World}{b4 C : Nat}{K : Nat → Nat}{vN : Value}{R : List (List Int)}{ws : Nat → Value}{vK : Value}{ms : List Int}{vL : Value}{l : List Nat}{w : World}
end
section
variable {W0 : World}{b4 C z : Nat}{K : Nat → Nat}{vN : Value}{R : List (List Int)}{ws : Nat → Value}{vK : Value}{ms : List Int}{vL vW : Value}{l : List Nat}{row : List Int}{w : World}
end
theorem J9{P:Program}{ops:Array Oper}{o:Oper}{a:Act}{w:World}{K:Act->World->Prop}{Q:Exit->Act->World->Prop}{E:Prop}(oE:o.guard=none)(s x:Operand)(t:TypeId)
  (ho:o.op=.call { callee:=.builtin .append,args:=#[s,x],argTypes:=#[t,t] })
  (base:Nat) (e:TypeId) (i:TypeInfo) (z:Value) (size bytes:Nat) (ht:P.underlying t=some (.slice e)) (hi:P.info? e=some i) (hz:i.zero=some z)
  (qO:i.size=size) (Jw:i.bytes=bytes) (Jz:z.cells.size=size) (dc:0<size)
  (v:Value) (n:Nat) (xs:List Value) (hs:a.eval s=v) (az:w.ownsRow base e size v n xs)
  (ad:Addr) (m c:Nat) (news:List Value) (hx:a.eval x=.slice (some ad) m c) (hl:news.length=m*size) (nw:∀j u,news[j]?=some u->w.cell? (ad.add j)=some u) (h1:∀u∈news,u.oneCell'=true)
  (JJ:n+m<=maxLen) (kQ:(n+m)*bytes<=140737488355328) (rP:base<=w.heap.size)
  (h:∀v' w',w'.ownsRow base e size v' (n+m) (xs++news)->w.grownBy w' v.ownBlock->(v'.ownBlock=v.ownBlock\/v'.ownBlock=some w.heap.size)->K (a.put o.dst v') w'):
  if Region.wanted o (yielded ops a.tmps)=true then Oper.wp P o a w K Q else E:=by
 have hw:Region.wanted o (yielded ops a.tmps)=true:=by simp[Region.wanted,oE]
 rw[if_pos hw];obtain⟨v',w',hr,h2,h3,_,h5⟩:=run_append_own_at (P:=P) w base t o.type e i z size bytes ht hi hz qO Jw Jz dc v n xs az ad m c news hl nw h1 JJ kQ rP;unfold Oper.wp execOp;simp only[ho,resolve,invoke,builtin,Sem.run_bind,Sem.run_pure,Result.andThen_ok,List.map_toArray,List.map_cons,List.map_nil,hs,hx,hr];exact h v' w' h2 h3 h5
def qI(D:Dd)(C:Nat)(l:List Nat)(i:Nat):List (List Int):=(range i).map fun j=>(range C).map (jg D l j)
def sg(D:Dd)(l:List Nat)(i:Nat):List Int:=(range i).map fun j=>D.q (l.getD j 0)
theorem CL(D:Dd)(C:Nat)(l:List Nat)(i:Nat):(qI D C l i).length=i:=by simp[qI]
theorem L3(D:Dd)(l:List Nat)(i:Nat):(sg D l i).length=i:=by simp[sg]
theorem zoq(D:Dd)(C:Nat)(l:List Nat)(i:Nat):qI D C l (i+1)=qI D C l i++[(range C).map (jg D l i)]:=by
 unfold qI;rw[List.range_succ,List.map_append];rfl
theorem zor(D:Dd)(l:List Nat)(i:Nat):sg D l (i+1)=sg D l i++[D.q (l.getD i 0)]:=by
 unfold sg;rw[List.range_succ,List.map_append];rfl
theorem zeD:∀(args:Array Value) (W:World),(callFunc 74 args).run prog W=.ok (.enter 74 args) W:=fun _ _=>by rfl
def wR(f:Nat->Nat)(n:Nat):List Value:=(range n).map fun y=>Value.int .i64 (f y)
theorem zqo(f:Nat->Nat)(n x v:Nat):(wR f n).set x (.int .i64 (v:Int))=wR (fun y=>if y=x then v else f y) n:=by
 unfold wR;apply List.ext_getElem?;intro i;rw[List.getElem?_set];by_cases e:x=i
 ·subst e;by_cases h:x<n
  ·simp[h]
  simp[h]
 rw[if_neg e];by_cases h:i<n
 ·simp[h,Ne.symm e,show ¬i=x from fun h=>e h.symm]
 simp[h]
theorem zos(n:Nat):List.replicate n (Value.int .i64 0)=wR (fun _=>0) n:=by
 unfold wR;apply List.ext_getElem?;intro i;by_cases h:i<n <;> simp[h]
theorem zfm(b5 n g:Nat)(f:Nat->Nat)(w:World)(hS:St w 27 b5 #[.slice (some ⟨g,0,none⟩) n n])(hc:∀x,x<n->w.cell? ⟨g,x,none⟩=some (.int .i64 (f x)))(x:Nat)(hx:x<n):
  Calls prog 74 #[.int .i64 (x:Int),.pointer (some ⟨b5,0,none⟩)] w fun e w'=>e=.returned (.int .i64 (f x))/\w'=w:=by
 have c0:w.cell? ⟨b5,0,none⟩=some (.slice (some ⟨g,0,none⟩) n n):=hS.at_ 0;have d0:=hc x hx;have i1:(x:Int)<n:=by omega
 clear hc;go_in;go_wp2;go_ret;exact⟨rfl,rfl⟩
theorem WR(D:Dd)(C:Nat)(l:List Nat)(k:Nat)(hl:l=dw (av D.len D.nx) [0] k)(dE:l.length=k)(sh:k<=D.n)(w:World)(hD:DM w D)(hR:DR D C):
  Calls prog 41 #[.agg D.cD] w (Eo D C k (jg D l) (fun i=>D.q (l.getD i 0)) w):=by
 have D5:∀(fn:Fn) (first cap:Array Value) (w:World),(Instr.makeFunc fn first cap).run prog w=.ok (.func fn first cap) w:=fun _ _ _ _=>rfl
 have cU:=hR.n2;have da:=hR.n1;have jl:=hR.m;have tq:=(hR.il hD.kl).2;have fJ:=Is D.n (by omega);have HB:=ξ (bg.new hD) (al w (.cells D.cD 29)) hR;have HL:=ζ hl dE;obtain⟨iI,hI,se,sD,sx⟩:=info_parts aG;obtain⟨iV,hV,vb,va,vD⟩:=info_parts eI;clear hD hR hl dE;go_in;go_upto_region 1 with (refine og rfl 29 rfl (zC 29) (lN _) ?_);simp only[put,List.setIfInBounds_toArray,List.set_cons_zero,List.set_cons_succ,Hc];have H0:Hid (bg ((w.alloc (.cells D.cD 29)).alloc (.cells (zC 29) 29)) w.heap.size D/\St ((w.alloc (.cells D.cD 29)).alloc (.cells (zC 29) 29)) 29 (w.heap.size+1) (zC 29)/\Below w.heap.size w ((w.alloc (.cells D.cD 29)).alloc (.cells (zC 29) 29))):=by
  refine⟨HB.out.1.ab (al _ _),?_,HB.out.2.1.trans ((al _ _).mono (by simp))⟩;have:=St.new (w.alloc (.cells D.cD 29)) 29 (zC 29);simpa using this
 generalize (w.alloc (.cells D.cD 29)).alloc (.cells (zC 29) 29)=Wb at H0⊢;obtain⟨b2,cv⟩:∃b2,w.heap.size+1=b2:=⟨_,rfl⟩
 obtain⟨b0,ay⟩:∃b0,w.heap.size=b0:=⟨_,rfl⟩
 rw[cv,ay] at H0;rw[cv,ay];have Hb:=ζ ay cv;clear cv ay;have rO:=hid (Fv D C HB.out.2.2 Wb H0.out.1.dm);go_wp2_with (refine js (by rfl) 29 _ rfl ⟨b0,0,none⟩ rfl D.cD _ H0.out.1.st.part underlying29 rfl H0.out.1.dm.info ?_);refine rO.out.mono ?_;rintro e wy ⟨rfl,so⟩;have H1:Hid (bg wy b0 D/\St wy 29 b2 (zC 29)/\Below b0 w wy):=⟨H0.out.1.ab so,H0.out.2.1.ab so,H0.out.2.2.trans (so.mono (by have:=H0.out.2.2.size;have:=Hb.out.1;omega))⟩
 have Kl:Hid (b0<=wy.heap.size):=by have h1:=H0.out.2.2.size;have h2:=so.size;have h3:=Hb.out.1;show _<=_;omega
 have f1:=H1.out.1.f1;have k1:=al wy (.cells #[.int .i64 0] 3);have Z8:=hid (RZ D.n D.cN D.aN D.A D.Cp D.len D.nx [0] (some ⟨wy.heap.size,0,none⟩) 1 1 (by omega) (fun i hi=>by rw[HB.out.2.2.len i hi];omega) (fun i c hi hc=>HB.out.2.2.nx i c hi (by rw[<-HB.out.2.2.len i hi];exact hc)) rfl (by simp) (fun x hx=>by rw[List.mem_singleton.1 hx];omega) (wy.alloc (.cells #[.int .i64 0] 3)) (H1.out.1.ab k1).dm.rN (sZ (vJ wy wy.heap.size 3 1 #[.int .i64 0] 1 rfl (le_refl _) (by decide)) rfl) (fun h=>by cases h) (fun ad h=>by injection h with h;rw[<-h]));have Tj:=hid k1;clear so rO k1;go_wp2_with fail;refine Z8.out.mono ?_;rintro e w3 ⟨l9,i9,aL,cL,rfl,EV,yN,BF,_,iR,b3⟩;have wm:l9=l/\i9=k:=by
  have h1:(dw (av D.len D.nx) [0] i9).length=i9:=by rw[<-yN];exact BF
  have h2:=zox (av D.len D.nx) [0] h1 (by rw[<-HL.out.1];exact HL.out.2:(dw (av D.len D.nx) [0] k).length=k);have h3:l9=l:=by rw[yN,h2,<-HL.out.1]
  exact⟨h3,by rw[<-BF,h3];exact HL.out.2⟩
 obtain⟨rfl,rfl⟩:=wm;have TP:Hid (l9.Nodup/\(∀x∈l9,x<D.n)):=⟨by rw[HL.out.1];exact NZ _ (by simp) _,iR⟩
 have H3:Hid (bg w3 b0 D/\St w3 29 b2 (zC 29)/\Below b0 w w3/\nQ w3 aL l9):=by
  have k2:=Tj.out.trans (b3.mono Tj.out.size);exact⟨H1.out.1.ab k2,H1.out.2.1.ab k2,H1.out.2.2.trans (k2.mono Kl.out),sZ EV BF⟩
 have Iy:Hid (b0<=w3.heap.size):=by have h1:=Tj.out.size;have h2:=b3.size;have h3:=Kl.out;show _<=_;omega
 clear EV yN BF iR b3 Z8 f1;have f1:=H3.out.1.f1;have Ya:Hid ((w3.alloc (.cells (madeCells #[.int .i64 0] D.n) 3)).ownsRow w3.heap.size 3 1 (.slice (some ⟨w3.heap.size,0,none⟩) D.n D.n) D.n (wR (fun _=>0) D.n)):=by
  have h:=Ee w3 w3.heap.size D.n 3 (.int .i64 0) (le_refl _) (by unfold maxLen;omega);rw[zos] at h;exact h
 have k3:=al w3 (.cells (madeCells #[.int .i64 0] D.n) 3);go_upto_region 5 with fail;have k4:=al (w3.alloc (.cells (madeCells #[.int .i64 0] D.n) 3)) (.cells #[.slice (some ⟨w3.heap.size,0,none⟩) D.n D.n] 27);have oI:Hid (((w3.alloc (.cells (madeCells #[.int .i64 0] D.n) 3)).alloc (.cells #[.slice (some ⟨w3.heap.size,0,none⟩) D.n D.n] 27)).ownsRow w3.heap.size 3 1 (.slice (some ⟨w3.heap.size,0,none⟩) D.n D.n) D.n (wR (fun _=>0) D.n)/\St ((w3.alloc (.cells (madeCells #[.int .i64 0] D.n) 3)).alloc (.cells #[.slice (some ⟨w3.heap.size,0,none⟩) D.n D.n] 27)) 27 (w3.heap.size+1) #[.slice (some ⟨w3.heap.size,0,none⟩) D.n D.n]/\Below w3.heap.size w3 ((w3.alloc (.cells (madeCells #[.int .i64 0] D.n) 3)).alloc (.cells #[.slice (some ⟨w3.heap.size,0,none⟩) D.n D.n] 27))):=by
  refine⟨db Ya.out k4,?_,k3.trans (k4.mono k3.size)⟩;have:=St.new (w3.alloc (.cells (madeCells #[.int .i64 0] D.n) 3)) 27 #[.slice (some ⟨w3.heap.size,0,none⟩) D.n D.n];simpa using this
 generalize (w3.alloc (.cells (madeCells #[.int .i64 0] D.n) 3)).alloc (.cells #[.slice (some ⟨w3.heap.size,0,none⟩) D.n D.n] 27)=W5 at oI⊢;obtain⟨b5,ku⟩:∃b5,w3.heap.size+1=b5:=⟨_,rfl⟩
 obtain⟨gU,LD⟩:∃gU,w3.heap.size=gU:=⟨_,rfl⟩
 rw[ku,LD] at oI;rw[ku,LD];have HgU:=hid LD;clear ku LD k3 k4 Ya f1;obtain⟨gL,oL,rfl,EI,Bq⟩:=H3.out.2.2.2 (by
  have h:=(Ny (av D.len D.nx) [0] i9).length_le
  rw[<-HL.out.1] at h
  exact h)
 have IT:=hid Bq;have S8:=hid EI;clear Bq EI;have N8:=hid HL.out.2;go_wp2;go_loopw [5,6,24] (fun _ _ v wr=>∃(j:Nat) (f:Nat->Nat),v=.int .i64 j/\j<=i9/\Hid (wr.ownsRow gU 3 1 (.slice (some ⟨gU,0,none⟩) D.n D.n) D.n (wR f D.n)/\St wr 27 b5 #[.slice (some ⟨gU,0,none⟩) D.n D.n]/\Below gU w3 wr/\∀j',j'<j->f (l9.getD j' 0)=j')) (fun _ _ v _=>i9-(intOf v).toNat)
 ·exact⟨0,_,rfl,by omega,⟨oI.out.1,oI.out.2.1,oI.out.2.2,fun j' h=>by omega⟩⟩
 clear oI;obtain⟨j,f,rfl,hj,HA⟩:=hrel;have ld:Below w3.heap.size w3 wr:=by rw[HgU.out];exact HA.out.2.2.1
 by_cases aq:j<i9
 ·have hjl:j<l9.length:=by rw[N8.out];exact aq
  have d0:=(ld.cell (p:=⟨gL,oL+j,none⟩) S8.out).trans (IT.out j hjl);have BA:l9.getD j 0=l9[j]:=by simp[getD_eq_getElem?_getD,hjl]
  have ix:l9.getD j 0<D.n:=by rw[BA];exact TP.out.2 _ (getElem_mem hjl)
  have HS:Hid (∀j',j'<j+1->(fun y=>if y=l9.getD j 0 then j else f y) (l9.getD j' 0)=j'):=fun j' h=>by
   by_cases e:j'=j
   ·subst e;simp
   have h2:j'<l9.length:=(by omega);have hne:¬l9.getD j' 0=l9.getD j 0:=fun h3=>by
    exact e (Qp TP.out.1 h2 hjl h3)
   simp only[if_neg hne];exact HA.out.2.2.2 j' (by omega)
  obtain⟨g9,e9,_,_,c9⟩:=eC HA.out.1 (by omega);obtain rfl:g9=gU:=by
   injection e9 with e9;injection e9 with e9 _;exact e9.symm
  have e5:wr.cell? ⟨b5,0,none⟩=some (.slice (some ⟨g9,0,none⟩) D.n D.n):=HA.out.2.1.at_ 0
  try dsimp only at d0
  clear BA;generalize l9.getD j 0=x at d0 ix HS;obtain⟨y0,y1⟩:=c9 x (by omega);have y2:(wR f D.n)[x]?=some (.int .i64 (f x)):=by simp[wR,ix]
  rw[y2] at y0;have HP:Hid ((wr.setCell ⟨g9,x,none⟩ (.int .i64 (j:Int))).ownsRow g9 3 1 (.slice (some ⟨g9,0,none⟩) D.n D.n) D.n (wR (fun y=>if y=x then j else f y) D.n)/\St (wr.setCell ⟨g9,x,none⟩ (.int .i64 (j:Int))) 27 b5 #[.slice (some ⟨g9,0,none⟩) D.n D.n]/\Below g9 w3 (wr.setCell ⟨g9,x,none⟩ (.int .i64 (j:Int)))):=by
   refine⟨?_,HA.out.2.1.fK (p:=⟨g9,x,none⟩) (fun h=>eB HA.out.1 HA.out.2.1 (by decide) g9 rfl h.symm) _,HA.out.2.2.1.setCell (p:=⟨g9,x,none⟩) (le_refl _) _⟩;have:=uj HA.out.1 x ix (.int .i64 (j:Int));rwa [zqo] at this
  have i1:(j:Int)<i9:=by omega
  have i2:(x:Int)<(D.n:Int):=by omega
  clear c9 e9 y2 ld;go_wp2;go_roundw
  ·exact⟨j+1,_,by go_num,by omega,⟨HP.out.1,HP.out.2.1,HP.out.2.2,HS.out⟩⟩
  simp[intOf];omega
 obtain rfl:j=i9:=by omega
 obtain⟨Wn,rfl⟩:∃Wn,Wn=wr:=⟨wr,rfl⟩
 have HN:Hid (bg Wn b0 D/\St Wn 29 b2 (zC 29)/\Below b0 w Wn/\St Wn 27 b5 #[.slice (some ⟨gU,0,none⟩) D.n D.n]/\b0<=Wn.heap.size):=⟨H3.out.1.ab ld,H3.out.2.1.ab ld,H3.out.2.2.1.trans (ld.mono Iy.out),HA.out.2.1,Nat.le_trans Iy.out ld.size⟩
 have sw:Hid (∀x,x<D.n->Wn.cell? ⟨gU,x,none⟩=some (.int .i64 (f x))):=fun x hx=>by
  obtain⟨g9,e9,_,_,c9⟩:=eC HA.out.1 (by omega);have e8:g9=gU:=by
   injection e9 with e9;injection e9 with e9 _;exact e9.symm
  subst e8;rw[(c9 x (by omega)).1];simp[wR,hx]
 have rL:Hid (∀x∈l9,f x=l9.idxOf x):=fun x hx=>by
  have h1:l9.idxOf x<l9.length:=List.idxOf_lt_length_iff.2 hx;have h2:=HA.out.2.2.2 (l9.idxOf x) (by have:=N8.out;omega);rw[show l9.getD (l9.idxOf x) 0=l9[l9.idxOf x] by simp[getD_eq_getElem?_getD,h1],List.getElem_idxOf h1] at h2;exact h2
 have DA:Hid (gL<Wn.heap.size/\gU<Wn.heap.size):=by
  refine⟨Nat.lt_of_lt_of_le S8.out ld.size,?_⟩;obtain⟨g9,e9,_,h9,_⟩:=eC HA.out.1 (by omega);injection e9 with e9;injection e9 with e9 _;rw[e9];exact h9
 have Si:Hid (∀i,i<j->Wn.cell? ⟨gL,oL+i,none⟩=some (.int .i64 (l9.getD i 0))):=fun i hi=>(ld.cell (p:=⟨gL,oL+i,none⟩) S8.out).trans (IT.out i (by rw[N8.out];exact hi))
 clear HA ld;have kg:=hid HN.out.1;have k5:=al Wn (.cells (zC 29) 29);have ij:St (Wn.alloc (.cells (zC 29) 29)) 29 Wn.heap.size (zC 29):=St.new _ _ _;have Ie:iN Wn Wn.heap.size D.K C (.slice none 0 0) (qI D C l9 0) (fun _=>.slice none 0 0) (.slice none 0 0) (sg D l9 0) ((Wn.alloc (.cells (zC 29) 29)).setRow Wn.heap.size (dJ D.K (.slice none 0 0) (.slice none 0 0))):=iN.start (V0:=Wn) (K:=D.K) (C:=C) (ws:=fun _=>.slice none 0 0) (a:=none) (c:=0) (ms:=[]) (World.ownsRow_nil _ _ _ _) rfl k5 ij (le_refl _);have j8:=hid Ie;have jq:=hid ij;clear k5 ij Ie;go_upto_region 11 with (first
  | (refine p5 rfl 25 _ rfl ⟨b0,0,none⟩ rfl (aU D.K) (.array 256 5) kg.out.dL underlying25 rfl (vX D.K) ?_)
  | (refine AH rfl 29 _ rfl #[(0,.agg (aU D.K))] (by first|rfl|kernel_rfl|(go_simp;done)) (.agg (dJ D.K (.slice none 0 0) (.slice none 0 0))) (WT D.K _) ?_)
  | (refine og rfl 29 rfl (zC 29) (lN _) ?_)
  | (refine lO rfl 29 _ _ rfl Wn.heap.size 29 (zC 29) (dJ D.K (.slice none 0 0) (.slice none 0 0)) rfl rfl jq.out (by rw[ia,mY]) (by rw[fH,mY]) (yj _ _ _ _ _ _ _) ?_))
 simp only[put,sA];obtain⟨b4,fp⟩:∃b4,Wn.heap.size=b4:=⟨_,rfl⟩
 have Fk:=hid fp;rw[fp] at j8;rw[fp];generalize (Wn.alloc (.cells (zC 29) 29)).setRow b4 (dJ D.K (.slice none 0 0) (.slice none 0 0))=W4 at j8⊢;clear fp jq;have i4:j<=32768:=by omega
 go_wp2;go_loopw [9,39] (fun _ v wr=>∃(i:Nat) (ws:Nat->Value) (aN aK:Option Addr) (cN cK:Nat),v=.int .i64 i/\i<=j/\Hid (iN Wn b4 D.K C (.slice aN i cN) (qI D C l9 i) ws (.slice aK i cK) (sg D l9 i) wr)) (fun _ v _=>j-(intOf v).toNat)
 ·exact⟨0,_,none,none,0,0,rfl,by omega,j8⟩
 clear j8;obtain⟨i,ws,aN,aK,cN,cK,rfl,hi,HT⟩:=hrel;by_cases aq:i<j
 ·have ux:i<l9.length:=by rw[N8.out];exact aq
  have d0:=(HT.out.aP.cell (p:=⟨gL,oL+i,none⟩) DA.out.1).trans (Si.out i aq);have BA:l9.getD i 0=l9[i]:=by simp[getD_eq_getElem?_getD,ux]
  have ix:l9.getD i 0<D.n:=by rw[BA];exact TP.out.2 _ (getElem_mem ux)
  have ve:Hid ((range C).map (oQ (D.nx (l9.getD i 0)) (fun y=>((f y:Nat):Int)))=(range C).map (jg D l9 i)):=by
   show _=_;refine(List.map_congr_left fun c hc=>?_);have fB:c<C:=(by simpa using hc);have hb:=HB.out.2.2.nx (l9.getD i 0) c ix fB;unfold oQ jg zM;by_cases h1:D.nx (l9.getD i 0) c=-1
   ·rw[if_pos h1,if_pos h1]
   rw[if_neg h1,if_neg h1];have hm:(D.nx (l9.getD i 0) c).toNat∈l9:=by
    have h2:=M9 (av D.len D.nx) [0] j i aq (by rw[<-HL.out.1];exact ux) (D.nx (l9.getD i 0) c).toNat (by
     unfold WE av
     have e7:(dw (av D.len D.nx) [0] j)[i]'(by rw[<-HL.out.1];exact ux)=l9.getD i 0:=by
      rw[BA]
      congr 1
      exact HL.out.1.symm
     unfold av at e7
     rw[e7,HB.out.2.2.len _ ix]
     refine List.mem_map.2 ⟨c,by simpa using fB,?_⟩
     omega)
    rw[<-HL.out.1] at h2;exact h2
   dsimp only;rw[rL.out _ hm]
  have tm:Hid (sg D l9 (i+1)=sg D l9 i++[D.q (l9.getD i 0)]):=zor D l9 i;have C0:Hid (qI D C l9 (i+1)=qI D C l9 i++[(range C).map (jg D l9 i)]):=zoq D C l9 i;have i1:(i:Int)<j:=by omega
  try dsimp only at d0
  clear BA ux;generalize l9.getD i 0=x at d0 ix ve tm;have i2:(x:Int)<(D.n:Int):=by omega
  obtain⟨gM,oM,eM,pW,lJ⟩:=HN.out.1.dm.rM (by omega);have nY:=HN.out.1.f2;rw[eM] at nY;have i3:(x:Int)<(D.m:Int):=by omega
  have Iw:=lJ x (by omega);have cZ:Hid (∀W',Below Wn.heap.size Wn W'->Below Wn.heap.size Wn W'/\W'.cell? ⟨b0,257,none⟩=some (.slice (some ⟨gM,oM,none⟩) D.m D.cM)/\W'.cell? ⟨gM,oM+x,none⟩=some (.int .i64 (D.q x))):=fun W' h=>⟨h,(h.cell (p:=⟨b0,257,none⟩) HN.out.1.st.lt).trans nY,(h.cell (p:=⟨gM,oM+x,none⟩) pW).trans Iw⟩
  clear eM pW lJ nY Iw;generalize D.q x=qx at cZ tm;go_upto_region 14 with fail;clear d0
  go_cut [9] from 43 to 52 (fun v wx=>v=.int .i64 (x:Int)/\∃(a9:Option Addr) (c9:Nat),iN Wn b4 D.K C (.slice aN i cN) (qI D C l9 i) ws (.slice a9 (i+1) c9) (sg D l9 (i+1)) wx)
  case first=>
   refine wp_region_held_drew (S:=fun W'=>Below Wn.heap.size Wn W'/\W'.cell? ⟨b0,257,none⟩=some (.slice (some ⟨gM,oM,none⟩) D.m D.cM)/\W'.cell? ⟨gM,oM+x,none⟩=some (.int .i64 qx)) (by kernel_rfl) (cZ.out _ HT.out.aP.drew) fun η=>?_;have HO:Hid (iN Wn b4 D.K C (.slice aN i cN) (qI D C l9 i) ws (.slice aK i cK) (sg D l9 i) wr.drew):=HT.out.ab (Below.refl _ _).drew
   (refine an 0 ?_;refine an 2 ?_;refine an 3 ?_;try simp only[put,sA];refine an 4 ?_;refine an 5 ?_;refine an 6 ?_;try simp only[put,sA])
   refine wpAnyH_ready (rs:=[1,7]) (by kernel_rfl) (by simp) ?_;refine hJ (fun K hK=>?_) ?_
   ·skip;have f2:=HO.out.f2;go_simp;refine hK.out _ _ (η) fun η=>?_;clear hK K
    try simp only[put,sA]
    clear f2;refine bc 7 (fun K hK=>?_);skip;go_simp;have kk:=al wr.drew (.cells #[.int .i64 qx] 3);have mj:Hid (∀j u,[Value.int .i64 qx][j]?=some u->((wr.alloc (.cells #[.int .i64 qx] 3)).drew).cell? ((⟨wr.heap.size,0,none⟩:Addr).add j)=some u):=cell_one_new wr.drew _ _;have HO:Hid (iN Wn b4 D.K C (.slice aN i cN) (qI D C l9 i) ws (.slice aK i cK) (sg D l9 i) ((wr.alloc (.cells #[.int .i64 qx] 3)).drew)):=HO.out.ab kk;refine hK.out _ _ (cZ.out _ HO.out.aP) fun η=>?_;clear hK K
    try simp only[put,sA]
    clear kk;generalize (wr.alloc (.cells #[.int .i64 qx] 3)).drew=V5 at mj HO η⊢;refine bc 8 (fun K hK=>?_);skip;have hO:=HO.out.dt;rw[L3] at hO;refine J9 (by rfl) _ _ _ (by rfl) Wn.heap.size 3 iI (.int .i64 0) 1 8 underlying27 hI se sD sx (by rfl) (by decide) _ i (ints (sg D l9 i)) (by rfl) hO ⟨wr.heap.size,0,none⟩ 1 1 [.int .i64 qx] (by rfl) (by rfl) mj.out (by intro u hu;simp at hu;subst hu;rfl) (by unfold maxLen;omega) (by omega) HO.out.aP.size ?_;intro v6 w6 aj af dg;obtain⟨a9,c9,rfl⟩:=bP aj;have sN:=hid (HO.out.mZ (vK':=.slice a9 (i+1) c9) (L3 D l9 i) aj af dg);have h9:=HO.out.st.ae HO.out.dt (by decide) af;have z2:w6.cell? ⟨b4,257,none⟩=some (.slice aK i cK):=(by rw[h9.at_,zf]);have z3:w6.frozen? ⟨b4,257,none⟩=false:=h9.bb 257;have eU:=fL HO.out.aP HO.out.dt HO.out.aP.size af;clear aj af dg h9 hO;refine hK.out _ _ (cZ.out _ eU) fun η=>?_;clear hK K
    try simp only[put,sA]
    (refine an 9 ?_;try simp only[put,sA])
    refine bc 10 (fun K hK=>?_);skip;go_simp;refine hK.out _ _ (cZ.out _ sN.out.aP) fun η=>?_;clear hK K
    try simp only[put,sA]
    refine wpAnyH_done (by kernel_rfl) ?_ _;rw[<-tm.out] at sN;clear η z2 z3 eU;go_wp2_with fail
    go_meet
    exact⟨rfl,a9,c9,sN.out⟩
   refine hJ (fun K hK=>?_) ?_
   ·skip;go_simp;have kk:=al wr.drew (.cells #[.int .i64 qx] 3);have mj:Hid (∀j u,[Value.int .i64 qx][j]?=some u->((wr.alloc (.cells #[.int .i64 qx] 3)).drew).cell? ((⟨wr.heap.size,0,none⟩:Addr).add j)=some u):=cell_one_new wr.drew _ _;have HO:Hid (iN Wn b4 D.K C (.slice aN i cN) (qI D C l9 i) ws (.slice aK i cK) (sg D l9 i) ((wr.alloc (.cells #[.int .i64 qx] 3)).drew)):=HO.out.ab kk;refine hK.out _ _ (cZ.out _ HO.out.aP) fun η=>?_;clear hK K
    try simp only[put,sA]
    clear kk;generalize (wr.alloc (.cells #[.int .i64 qx] 3)).drew=V5 at mj HO η⊢;refine bc 1 (fun K hK=>?_);skip;have f2:=HO.out.f2;go_simp;refine hK.out _ _ (η) fun η=>?_;clear hK K
    try simp only[put,sA]
    clear f2;refine bc 8 (fun K hK=>?_);skip;have hO:=HO.out.dt;rw[L3] at hO;refine J9 (by rfl) _ _ _ (by rfl) Wn.heap.size 3 iI (.int .i64 0) 1 8 underlying27 hI se sD sx (by rfl) (by decide) _ i (ints (sg D l9 i)) (by rfl) hO ⟨wr.heap.size,0,none⟩ 1 1 [.int .i64 qx] (by rfl) (by rfl) mj.out (by intro u hu;simp at hu;subst hu;rfl) (by unfold maxLen;omega) (by omega) HO.out.aP.size ?_;intro v6 w6 aj af dg;obtain⟨a9,c9,rfl⟩:=bP aj;have sN:=hid (HO.out.mZ (vK':=.slice a9 (i+1) c9) (L3 D l9 i) aj af dg);have h9:=HO.out.st.ae HO.out.dt (by decide) af;have z2:w6.cell? ⟨b4,257,none⟩=some (.slice aK i cK):=(by rw[h9.at_,zf]);have z3:w6.frozen? ⟨b4,257,none⟩=false:=h9.bb 257;have eU:=fL HO.out.aP HO.out.dt HO.out.aP.size af;clear aj af dg h9 hO;refine hK.out _ _ (cZ.out _ eU) fun η=>?_;clear hK K
    try simp only[put,sA]
    (refine an 9 ?_;try simp only[put,sA])
    refine bc 10 (fun K hK=>?_);skip;go_simp;refine hK.out _ _ (cZ.out _ sN.out.aP) fun η=>?_;clear hK K
    try simp only[put,sA]
    refine wpAnyH_done (by kernel_rfl) ?_ _;rw[<-tm.out] at sN;clear η z2 z3 eU;go_wp2_with fail
    go_meet
    exact⟨rfl,a9,c9,sN.out⟩
   exact AllReadyH.nil
  case rest=>
   obtain⟨rfl,a9,c9,Yh⟩:=hcut;have V3:=hid Yh;clear Yh HT;obtain⟨gN,oN,eN,ky,pO⟩:=HN.out.1.dm.rN (by omega);have FO:=HN.out.1.f1;rw[eN] at FO;obtain⟨qB,zN⟩:=pO x ix;have hlen:=HB.out.2.2.len x ix;rw[hlen] at qB zN;have xM:=hid zN;have mJ:Hid (∀W',Below Wn.heap.size Wn W'->Below Wn.heap.size Wn W'/\W'.cell? ⟨b0,256,none⟩=some (.slice (some ⟨gN,oN,none⟩) D.n D.cN)/\W'.cell? ⟨gN,oN+x,none⟩=some (.slice (D.A x) C (D.Cp x))):=(fun W' h=>⟨h,(h.cell (p:=⟨b0,256,none⟩) HN.out.1.st.lt).trans FO,(h.cell (p:=⟨gN,oN+x,none⟩) ky).trans qB⟩);clear eN ky pO FO qB zN hlen cZ;go_upto_region 15 with fail;refine wp_region_held_drew (S:=fun W'=>Below Wn.heap.size Wn W'/\W'.cell? ⟨b0,256,none⟩=some (.slice (some ⟨gN,oN,none⟩) D.n D.cN)/\W'.cell? ⟨gN,oN+x,none⟩=some (.slice (D.A x) C (D.Cp x))) (by kernel_rfl) (mJ.out _ V3.out.aP.drew) fun η=>?_;have HO:Hid (iN Wn b4 D.K C (.slice aN i cN) (qI D C l9 i) ws (.slice a9 (i+1) c9) (sg D l9 (i+1)) wc.drew):=V3.out.ab (Below.refl _ _).drew
   (refine an 0 ?_;refine an 2 ?_;refine an 3 ?_;try simp only[put,sA];refine an 4 ?_;refine an 5 ?_;refine an 6 ?_;try simp only[put,sA];refine an 7 ?_;try simp only[put,sA])
   ·refine wpAnyH_ready (rs:=[1,8]) (by kernel_rfl) (by simp) (hJ (fun K hK=>?_) (hJ (fun K hK=>?_) AllReadyH.nil))
    skip;have f1:=HO.out.f1;go_simp;refine hK.out _ _ (η) fun η=>?_;clear hK K
    try simp only[put,sA]
    clear f1;refine bc 8 (fun K hK=>?_);skip;have iR:=(HO.out.next.lt).2;have jT:=lZ HO.out.dt;go_simp;go_at_call 73;refine (NX 74 b5 D.n (fun y=>((f y:Nat):Int)) C (D.Cp x) (D.A x) (D.nx x) _ zeD (fun W' h y hy=>zfm b5 D.n gU f W' ((HN.out.2.2.2.1.ab HO.out.aP).ab h) (fun z hz=>((HO.out.aP.trans (h.mono HO.out.aP.size)).cell (p:=⟨gU,z,none⟩) DA.out.2).trans (sw.out z hz)) y hy) (by omega) (xM.out.below HO.out.aP) (fun c hc=>HB.out.2.2.nx x c ix hc) (by omega)).mono ?_;rintro e w5 ⟨a5,c5,rfl,jz,zG⟩;have HU:Hid (w5.ownsRow Wn.heap.size 3 1 (.slice a5 C c5) C (ints ((range C).map (jg D l9 i)))/\(∀j,j<(qI D C l9 i).length->∀b,(ws j).ownBlock=some b->(Value.slice a5 C c5).ownBlock≠some b)/\∀b,(Value.slice a5 C c5).ownBlock=some b->(Value.slice a9 (i+1) c9).ownBlock≠some b):=by
     have jK:=kL jz;refine⟨?_,fun j hj b e1 e2=>?_,fun b e1 e2=>?_⟩
     ·rw[<-ve.out];exact gn jz HO.out.aP.size
     ·have h1:=iR j hj b e1;have h2:=jK b e2
      try simp only[k8] at h1
      try simp only[k8] at h2
      omega
     have h1:=jT b e2;have h2:=jK b e1
     try simp only[k8] at h1
     try simp only[k8] at h2
     omega
    have HO:=hid (HO.out.ab zG);clear jz zG iR jT
    try go_wp2_with fail
    refine hK.out _ _ (mJ.out _ HO.out.aP) fun η=>?_;clear hK K
    try simp only[put,sA]
    refine bc 9 (fun K hK=>?_);skip;go_simp;have kk:=al w5 (.cells #[.slice a5 C c5] 27);have mj:Hid (∀j u,[Value.slice a5 C c5][j]?=some u->(w5.alloc (.cells #[.slice a5 C c5] 27)).cell? ((⟨w5.heap.size,0,none⟩:Addr).add j)=some u):=cell_one_new _ _ _;have HO:=hid (HO.out.ab kk);have HU:=ζ (db HU.out.1 kk) HU.out.2;refine hK.out _ _ (mJ.out _ HO.out.aP) fun η=>?_;clear hK K
    try simp only[put,sA]
    clear kk;generalize w5.alloc (.cells #[.slice a5 C c5] 27)=V5 at mj HO HU η⊢;refine bc 10 (fun K hK=>?_);skip;have hO:=(HO.out.next.own);rw[CL] at hO;refine si (by rfl) _ _ _ (by rfl) Wn.heap.size 27 iV (.slice none 0 0) 1 24 underlying26 hV vb va vD (by rfl) (by decide) _ i ((range i).map ws) (by rfl) hO ⟨w5.heap.size,0,none⟩ 1 1 [.slice a5 C c5] (by rfl) (by rfl) mj.out (by intro u hu;simp at hu;subst hu;rfl) (by unfold maxLen;omega) (by omega) HO.out.aP.size ?_;intro v6 w6 aj af;obtain⟨a7,c7,rfl⟩:=bP aj;have jJ:=hid (HO.out.gJ (u:=.slice a5 C c5) (vN':=.slice a7 (i+1) c7) HU.out.1 HU.out.2.1 HU.out.2.2 (CL D C l9 i) aj af);have h9:=(HO.out.st.ae HO.out.next.own (by decide) af);have z2:w6.cell? ⟨b4,256,none⟩=some (.slice aN i cN):=(by rw[h9.at_,qu]);have z3:w6.frozen? ⟨b4,256,none⟩=false:=h9.bb 256;have eU:=(fL HO.out.aP HO.out.next.own HO.out.aP.size af);clear aj af h9 hO;refine hK.out _ _ (mJ.out _ eU) fun η=>?_;clear hK K
    rotate_left
    skip;have iR:=(HO.out.next.lt).2;have jT:=lZ HO.out.dt;go_simp;go_at_call 73;refine (NX 74 b5 D.n (fun y=>((f y:Nat):Int)) C (D.Cp x) (D.A x) (D.nx x) _ zeD (fun W' h y hy=>zfm b5 D.n gU f W' ((HN.out.2.2.2.1.ab HO.out.aP).ab h) (fun z hz=>((HO.out.aP.trans (h.mono HO.out.aP.size)).cell (p:=⟨gU,z,none⟩) DA.out.2).trans (sw.out z hz)) y hy) (by omega) (xM.out.below HO.out.aP) (fun c hc=>HB.out.2.2.nx x c ix hc) (by omega)).mono ?_;rintro e w5 ⟨a5,c5,rfl,jz,zG⟩;have HU:Hid (w5.ownsRow Wn.heap.size 3 1 (.slice a5 C c5) C (ints ((range C).map (jg D l9 i)))/\(∀j,j<(qI D C l9 i).length->∀b,(ws j).ownBlock=some b->(Value.slice a5 C c5).ownBlock≠some b)/\∀b,(Value.slice a5 C c5).ownBlock=some b->(Value.slice a9 (i+1) c9).ownBlock≠some b):=by
     have jK:=kL jz;refine⟨?_,fun j hj b e1 e2=>?_,fun b e1 e2=>?_⟩
     ·rw[<-ve.out];exact gn jz HO.out.aP.size
     ·have h1:=iR j hj b e1;have h2:=jK b e2
      try simp only[k8] at h1
      try simp only[k8] at h2
      omega
     have h1:=jT b e2;have h2:=jK b e1
     try simp only[k8] at h1
     try simp only[k8] at h2
     omega
    have HO:=hid (HO.out.ab zG);clear jz zG iR jT
    try go_wp2_with fail
    refine hK.out _ _ (mJ.out _ HO.out.aP) fun η=>?_;clear hK K
    try simp only[put,sA]
    refine wpAnyH_ready (rs:=[1,9]) (by kernel_rfl) (by simp) (hJ (fun K hK=>?_) (hJ (fun K hK=>?_) AllReadyH.nil))
    skip;have f1:=HO.out.f1;go_simp;refine hK.out _ _ (η) fun η=>?_;clear hK K
    try simp only[put,sA]
    clear f1;refine bc 9 (fun K hK=>?_);skip;go_simp;have kk:=al w5 (.cells #[.slice a5 C c5] 27);have mj:Hid (∀j u,[Value.slice a5 C c5][j]?=some u->(w5.alloc (.cells #[.slice a5 C c5] 27)).cell? ((⟨w5.heap.size,0,none⟩:Addr).add j)=some u):=cell_one_new _ _ _;have HO:=hid (HO.out.ab kk);have HU:=ζ (db HU.out.1 kk) HU.out.2;refine hK.out _ _ (mJ.out _ HO.out.aP) fun η=>?_;clear hK K
    try simp only[put,sA]
    clear kk;generalize w5.alloc (.cells #[.slice a5 C c5] 27)=V5 at mj HO HU η⊢;refine bc 10 (fun K hK=>?_);skip;have hO:=(HO.out.next.own);rw[CL] at hO;refine si (by rfl) _ _ _ (by rfl) Wn.heap.size 27 iV (.slice none 0 0) 1 24 underlying26 hV vb va vD (by rfl) (by decide) _ i ((range i).map ws) (by rfl) hO ⟨w5.heap.size,0,none⟩ 1 1 [.slice a5 C c5] (by rfl) (by rfl) mj.out (by intro u hu;simp at hu;subst hu;rfl) (by unfold maxLen;omega) (by omega) HO.out.aP.size ?_;intro v6 w6 aj af;obtain⟨a7,c7,rfl⟩:=bP aj;have jJ:=hid (HO.out.gJ (u:=.slice a5 C c5) (vN':=.slice a7 (i+1) c7) HU.out.1 HU.out.2.1 HU.out.2.2 (CL D C l9 i) aj af);have h9:=(HO.out.st.ae HO.out.next.own (by decide) af);have z2:w6.cell? ⟨b4,256,none⟩=some (.slice aN i cN):=(by rw[h9.at_,qu]);have z3:w6.frozen? ⟨b4,256,none⟩=false:=h9.bb 256;have eU:=(fL HO.out.aP HO.out.next.own HO.out.aP.size af);clear aj af h9 hO;refine hK.out _ _ (mJ.out _ eU) fun η=>?_;clear hK K
    rotate_left
    skip;go_simp;have kk:=al w5 (.cells #[.slice a5 C c5] 27);have mj:Hid (∀j u,[Value.slice a5 C c5][j]?=some u->(w5.alloc (.cells #[.slice a5 C c5] 27)).cell? ((⟨w5.heap.size,0,none⟩:Addr).add j)=some u):=cell_one_new _ _ _;have HO:=hid (HO.out.ab kk);have HU:=ζ (db HU.out.1 kk) HU.out.2;refine hK.out _ _ (mJ.out _ HO.out.aP) fun η=>?_;clear hK K
    try simp only[put,sA]
    clear kk;generalize w5.alloc (.cells #[.slice a5 C c5] 27)=V5 at mj HO HU η⊢;refine bc 1 (fun K hK=>?_);skip;have f1:=HO.out.f1;go_simp;refine hK.out _ _ (η) fun η=>?_;clear hK K
    try simp only[put,sA]
    clear f1;refine bc 10 (fun K hK=>?_);skip;have hO:=(HO.out.next.own);rw[CL] at hO;refine si (by rfl) _ _ _ (by rfl) Wn.heap.size 27 iV (.slice none 0 0) 1 24 underlying26 hV vb va vD (by rfl) (by decide) _ i ((range i).map ws) (by rfl) hO ⟨w5.heap.size,0,none⟩ 1 1 [.slice a5 C c5] (by rfl) (by rfl) mj.out (by intro u hu;simp at hu;subst hu;rfl) (by unfold maxLen;omega) (by omega) HO.out.aP.size ?_;intro v6 w6 aj af;obtain⟨a7,c7,rfl⟩:=bP aj;have jJ:=hid (HO.out.gJ (u:=.slice a5 C c5) (vN':=.slice a7 (i+1) c7) HU.out.1 HU.out.2.1 HU.out.2.2 (CL D C l9 i) aj af);have h9:=(HO.out.st.ae HO.out.next.own (by decide) af);have z2:w6.cell? ⟨b4,256,none⟩=some (.slice aN i cN):=(by rw[h9.at_,qu]);have z3:w6.frozen? ⟨b4,256,none⟩=false:=h9.bb 256;have eU:=(fL HO.out.aP HO.out.next.own HO.out.aP.size af);clear aj af h9 hO;refine hK.out _ _ (mJ.out _ eU) fun η=>?_;clear hK K
    rotate_left
    all_goals
     try simp only[put,sA]
     (refine an 11 ?_;try simp only[put,sA])
     refine bc 12 (fun K hK=>?_);skip;go_simp;refine hK.out _ _ (mJ.out _ jJ.out.aP) fun η=>?_;clear hK K
     try simp only[put,sA]
     refine wpAnyH_done (by kernel_rfl) ?_ _;rw[<-C0.out] at jJ;clear η z2 z3 eU;go_wp2;go_roundw
     ·exact⟨i+1,_,a7,a9,c7,c9,by go_num,by omega,jJ⟩
     simp[intOf];omega
 obtain rfl:i=j:=by omega
 have jq:=hid HT.out.st;have gd:=hid (HN.out.2.1.ab HT.out.aP);have hd:=mY D.K (.slice aN i cN) (.slice aK i cK);have FZ:Hid (w.heap.size<=Wn.heap.size):=by have h1:=HN.out.2.2.2.2;have h2:=Hb.out.1;show _<=_;omega
 have Bi:Hid (Below w.heap.size w (wr.setRow b2 (dJ D.K (.slice aN i cN) (.slice aK i cK)))):=by
  rw[Hb.out.1];exact kZ (HN.out.2.2.1.trans (HT.out.aP.mono HN.out.2.2.2.2)) (by have:=Hb.out;omega) _
 have HF:Hid (Eo D C i (jg D l9) (fun i=>D.q (l9.getD i 0)) w (.returned (.agg (dJ D.K (.slice aN i cN) (.slice aK i cK)))) (wr.setRow b2 (dJ D.K (.slice aN i cN) (.slice aK i cK)))):=
  HT.out.RD HB.out.1.dm.kl (CL D C l9 i) (fun r hr=>by unfold qI at hr;obtain⟨j,_,rfl⟩:=List.mem_map.1 hr;simp) rfl (fun j hj c hc=>by unfold qI;simp[getD_eq_getElem?_getD,hj,hc]) FZ.out (Or.inr ⟨b2,_,_,gd.out,rfl⟩) Bi.out
 go_wp2_with (first|(refine p5 rfl 29 _ rfl ⟨b4,0,none⟩ rfl (dJ D.K (.slice aN i cN) (.slice aK i cK)) _ jq.out.part underlying29 rfl (by rw[fH,hd]) ?_)|(refine lO rfl 29 _ _ rfl b2 29 (zC 29) (dJ D.K (.slice aN i cN) (.slice aK i cK)) rfl rfl gd.out (by rw[ia,hd]) (by rw[fH,hd]) (yj _ _ _ _ _ _ _) ?_));refine bodyPost_ret (results_cell_row rfl _ _ b2 29 (dJ D.K (.slice aN i cN) (.slice aK i cK)) (0,0) _ rfl gd.out.setRow underlying29 rfl (by rw[fH,hd])) rfl ?_;exact HF.out
def zra(D:Dd)(w:World)(e:Ending)(w':World):Prop:=∃b:Bool,e=.returned (.bool b)/\(b=true->D.n<=20/\D.m<=30/\∀i,i<D.n->D.len i<=256)/\Below w.heap.size w w'
theorem zmG(D:Dd)(hn:D.n<=9223372036854775807)(hm:D.m<=9223372036854775807)(hl:∀i,i<D.n->D.len i<=9223372036854775807)(w:World)(hD:DM w D):
  Calls prog 13 #[.agg D.cD] w (zra D w):=by
 have HB:=ξ (bg.new hD) (al w (.cells D.cD 29)) hl;clear hD hl;go_in;go_upto_region 1 with fail;generalize w.alloc (.cells D.cD 29)=W0 at HB⊢;generalize ay:w.heap.size=b0 at HB⊢;have bW:=hid ay;clear ay;have f1:=HB.out.1.f1;have f2:=HB.out.1.f2;have HF:Hid (Below w.heap.size w W0):=by rw[bW.out];exact HB.out.2.1
 by_cases h1:20<D.n
 ·have i1:(20:Int)<(D.n:Int):=by omega
  go_wp2;go_ret;exact⟨false,rfl,(fun h=>by cases h),HF.out⟩
 by_cases h2:30<D.m
 ·have i1:¬((20:Int)<(D.n:Int)):=by omega
  have i2:(30:Int)<(D.m:Int):=by omega
  go_wp2;go_ret;exact⟨false,rfl,(fun h=>by cases h),HF.out⟩
 have i1:¬((20:Int)<(D.n:Int)):=by omega
 have i2:¬((30:Int)<(D.m:Int)):=by omega
 go_wp2_with fail;clear f1 f2;go_loopw [3] (fun v wr=>∃(i:Nat),v=.int .i64 i/\i<=D.n/\wr=W0/\Hid (∀j,j<i->D.len j<=256)) (fun v _=>D.n-(intOf v).toNat)
 ·exact⟨0,rfl,by omega,rfl,fun j hj=>by omega⟩
 obtain⟨i,rfl,hi,rfl,HX⟩:=hrel;have f1:=HB.out.1.f1;by_cases aq:i<D.n
 ·obtain⟨gN,oN,eN,ky,cN,_⟩:=HB.out.1.dm.row i aq;rw[eN] at f1;have i3:(i:Int)<(D.n:Int):=by omega
  have hb:=HB.out.2.2 i aq;have HS:Hid (D.len i<=256->∀j,j<i+1->D.len j<=256):=fun h j hj=>by
   by_cases e:j=i
   ·subst e;exact h
   exact HX.out j (by omega)
  have vZ:=hid eN;clear eN;generalize D.len i=ln at cN hb HS;by_cases h3:256<ln
  ·have i4:(256:Int)<ln:=(by omega);go_wp2;go_ret;exact⟨false,rfl,(fun h=>by cases h),HF.out⟩
  have i4:¬((256:Int)<ln):=by omega
  have HZ:=hid (HS.out (by omega));go_wp2;go_roundw
  ·exact⟨i+1,by go_num,by omega,by first|trivial|rfl,HZ⟩
  simp[intOf];omega
 obtain rfl:i=D.n:=by omega
 have i3:¬((D.n:Int)<(D.n:Int)):=by omega
 have ra:D.n<=20/\D.m<=30:=by omega
 have HZ:Hid (D.n<=20/\D.m<=30/\∀j,j<D.n->D.len j<=256):=⟨ra.1,ra.2,HX.out⟩
 go_wp2;go_ret;exact⟨true,rfl,(fun _=>HZ.out),HF.out⟩
def pJ(D:Dd)(C n':Nat)(FD:Nat->Nat->Int)(q':Nat->Int)(D':Dd):Prop:=
 D'.K=D.K/\D'.n=n'/\D'.m=n'/\(∀i,i<n'->D'.len i=C)/\(∀i,i<n'->∀c,c<C->D'.nx i c=FD i c)/\∀i,i<n'->D'.q i=q' i
