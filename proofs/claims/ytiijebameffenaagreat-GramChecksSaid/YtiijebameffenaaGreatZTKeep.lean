import Derived.Test.YtiijebameffenaaGreatZTTrim
import Derived.ChangeKeysEq
set_option linter.all false
set_option maxHeartbeats 8000000
set_option maxRecDepth 100000
open Go.Lib (hid)
namespace Go.Proofs.YtiijebameffenaaGreat
open Go.RowKit Go.Maps Go.Proofs.Tryz
open Act (put)
open List (getD_eq_getElem?_getD getElem_mem range)
open Nat (le_refl)
variable {C k:Nat}{D D1:Dd}
def dW(D:Dd)(st:Int)(b:Nat):Int:=if 0<=st/\st<(D.n:Int) then D.nx st.toNat (D.K b) else -1
def ec(D:Dd)(st:Int)(z:Nat->Nat):Nat->Int
 | 0=>st
 | k+1=>dW D (ec D st z k) (z k)
def dL(D:Dd)(st:Int):Int:=if 0<=st/\st<(D.n:Int) then D.q st.toNat else -1
theorem XP(D:Dd)(st:Int)(z:Nat->Nat)(h:ec D st z k=-1):∀m,k<=m->ec D st z m=-1:=by
 intro m hm
 induction m with
 | zero=>rw[show k=0 by omega] at h;exact h
 | succ m ih=>
  by_cases e:k=m+1
  ·rw[<-e];exact h
  show dW D (ec D st z m) (z m)=-1;rw[ih (by omega)];unfold dW;rw[if_neg (by omega)]
theorem zmU(D:Dd)(C:Nat)(hR:DR D C)(st:Int)(b:Nat)(hb:b<256)(w:World)(hD:DM w D):
  Calls prog 104 #[.agg D.cD,.int .i64 st,.int .u8 (b:Int)] w fun e w'=>e=.returned (.int .i64 (dW D st b))/\Below w.heap.size w w':=by
 have HB:=ξ (dD.new hD) (al w (.cells D.cD 101)) hR;have dd:=hR.n2;have Bt:=(hR.lf hD.kl).2;clear hD hR;go_in;go_upto_region 1 with fail;generalize w.alloc (.cells D.cD 101)=W0 at HB⊢;generalize bz:w.heap.size=b0 at HB⊢;have eY:=hid bz;clear bz;have k0:=HB.o.1.f0 b hb;have hkl:=HB.o.1.dm.kl b hb;have MR:=HB.o.2.2.c.1 b hb;have i0:(b:Int)<256:=by omega
 have xv:=hid (Qe D st W0 HB.o.1.dm);obtain⟨kb,US⟩:=Ξ (D.K b)
 have Hkb:=hid US;rw[US] at k0 hkl MR;clear US;go_wp2_with (refine pU (by rfl) 101 _ rfl ⟨b0,0,none⟩ rfl D.cD _ HB.o.1.st.part underlying101 rfl HB.o.1.dm.info ?_);refine xv.o.mono ?_;rintro e w2 ⟨rfl,b2⟩;have vd:=hid (HB.o.1.ae b2);have HF:Hid (Below w.heap.size w w2):=by
  rw[eY.o];exact HB.o.2.1.trans (b2.mono (by have:=HB.o.2.1.size;have:=eY.o;omega))
 clear b2 xv k0;by_cases hs:0<=st/\st<(D.n:Int)
 ·obtain⟨s,rfl⟩:∃s:Nat,st=(s:Int):=⟨st.toNat,by omega⟩
  have qJ:s<D.n:=by omega
  have HZ:Hid (decide (0<=(s:Int)/\(s:Int)<(D.n:Int))=true):=by show _=_;simp;omega
  have HV:Hid (dW D (s:Int) b=D.nx s kb):=by
   show _=_;unfold dW;rw[if_pos hs,Hkb.o];rfl
  have f1:=vd.o.f1;obtain⟨gN,oN,eN,od,cN,zN⟩:=vd.o.dm.row s qJ;rw[HB.o.2.2.len s qJ] at cN zN;rw[eN] at f1;obtain⟨gA,oA,eA,_,p9⟩:=zN (by omega);have cA:=p9 kb MR;rw[eA] at cN;have i1:(kb:Int)<C:=by omega
  have i2:(s:Int)<(D.n:Int):=by omega
  have i3:¬((C:Int)<=kb):=by omega
  rw[HZ.o];have Db:=hid eN;have O5:=hid eA;clear eN eA p9 zN hs od;generalize D.nx s kb=r at cA HV;go_wp2;go_ret;exact⟨by rw[HV.o];first|rfl|simp,HF.o⟩
 have HZ:Hid (decide (0<=st/\st<(D.n:Int))=false):=by show _=_;simp;omega
 have HV:Hid (dW D st b=-1):=by
  show _=_;unfold dW;rw[if_neg hs]
 rw[HZ.o];clear hs;go_wp2;go_ret;exact⟨by rw[HV.o];first|rfl|simp,HF.o⟩
theorem zmV(D:Dd)(C:Nat)(hR:DR D C)(st:Int)(w:World)(hD:DM w D):
  Calls prog 84 #[.agg D.cD,.int .i64 st] w fun e w'=>e=.returned (.int .i64 (dL D st))/\Below w.heap.size w w':=by
 have HB:=ξ (dD.new hD) (al w (.cells D.cD 101)) hR;have dd:=hR.n2;have ly:=hR.m;clear hD hR;go_in;go_upto_region 1 with fail;generalize w.alloc (.cells D.cD 101)=W0 at HB⊢;generalize bz:w.heap.size=b0 at HB⊢;have eY:=hid bz;clear bz;have xv:=hid (Qe D st W0 HB.o.1.dm);go_wp2_with (refine pU (by rfl) 101 _ rfl ⟨b0,0,none⟩ rfl D.cD _ HB.o.1.st.part underlying101 rfl HB.o.1.dm.info ?_);refine xv.o.mono ?_;rintro e w2 ⟨rfl,b2⟩;have vd:=hid (HB.o.1.ae b2);have HF:Hid (Below w.heap.size w w2):=by
  rw[eY.o];exact HB.o.2.1.trans (b2.mono (by have:=HB.o.2.1.size;have:=eY.o;omega))
 clear b2 xv;by_cases hs:0<=st/\st<(D.n:Int)
 ·obtain⟨s,rfl⟩:∃s:Nat,st=(s:Int):=⟨st.toNat,by omega⟩
  have qJ:s<D.n:=by omega
  have HZ:Hid (decide (0<=(s:Int)/\(s:Int)<(D.n:Int))=true):=by show _=_;simp;omega
  have HV:Hid (dL D (s:Int)=D.q s):=by
   show _=_;unfold dL;rw[if_pos hs];rfl
  have f2:=vd.o.f2;obtain⟨gM,oM,eM,_,pj⟩:=vd.o.dm.rM (by omega);have cM:=pj s (by omega);rw[eM,ly] at f2;have i2:(s:Int)<(D.n:Int):=by omega
  have i3:¬((D.n:Int)<=(s:Int)):=by omega
  rw[HZ.o];have HeM:=hid eM;clear eM pj hs ly;generalize D.q s=r at cM HV;go_wp2;go_ret;exact⟨by rw[HV.o];first|rfl|simp,HF.o⟩
 have HZ:Hid (decide (0<=st/\st<(D.n:Int))=false):=by show _=_;simp;omega
 have HV:Hid (dL D st=-1):=by
  show _=_;unfold dL;rw[if_neg hs]
 rw[HZ.o];clear hs ly;go_wp2;go_ret;exact⟨by rw[HV.o];first|rfl|simp,HF.o⟩
theorem zoT(D:Dd)(C:Nat)(hR:DR D C)(st:Int)(s:ByteArray)(m:Nat)(hs:s.size=m)(hm:m<=1000000)(w:World)(hD:DM w D):
  Calls prog 85 #[.agg D.cD,.int .i64 st,.string s] w fun e w'=>e=.returned (.int .i64 (ec D st (ng s) m))/\Below w.heap.size w w':=by
 have HB:=ξ (dD.new hD) (al w (.cells D.cD 101)) hR;have Ei:=hs;have HS:=hid hs;clear hD hR hs;go_in;go_upto_region 1 with fail;generalize w.alloc (.cells D.cD 101)=W0 at HB⊢;generalize bz:w.heap.size=b0 at HB⊢;have eY:=hid bz;clear bz;go_wp2;go_loopw [1,7,10] (fun v1 _ v wr=>∃(k:Nat),v=.int .i64 k/\k<=m/\v1=.int .i64 (ec D st (ng s) k)/\Hid (Below W0.heap.size W0 wr)) (fun _ _ v _=>m-(intOf v).toNat)
 ·exact⟨0,rfl,by omega,rfl,Below.refl _ _⟩
 obtain⟨k,rfl,hk,rfl,HX⟩:=hrel;have rk:Hid (∀W',Below W0.heap.size W0 W'->Below w.heap.size w W'):=fun W' h=>by
  rw[eY.o];exact HB.o.2.1.trans (h.mono (by have:=HB.o.2.1.size;have:=eY.o;omega))
 have YQ:Hid (ec D st (ng s) k=-1->ec D st (ng s) m=-1):=fun h=>XP D st _ h m hk
 by_cases aq:k<m
 ·have tN:k<s.size:=by rw[Ei];exact aq
  obtain⟨bt,nJ⟩:=Ξ ((s[k]'tN).toNat)
  have Ba:=QT s k tN;rw[nJ] at Ba;have mW:bt<256:=by rw[Ba];exact Zn s k
  have fC:Hid (ec D st (ng s) (k+1)=dW D (ec D st (ng s) k) bt):=by show dW D (ec D st (ng s) k) (ng s k)=_;rw[<-Ba]
  have HDs:Hid (ec D st (ng s) (k+1)=-1->ec D st (ng s) m=-1):=fun h=>XP D st _ h m (by omega)
  have i1:(k:Int)<m:=by omega
  generalize ec D st (ng s) k=a at fC YQ⊢;have eh:Hid (∀W',Below W0.heap.size W0 W'->Below W0.heap.size W0 W'/\dD W' b0 D):=fun W' h=>⟨h,HB.o.1.ae h⟩
  clear Ba;go_upto_region 4 with fail;refine wp_region_held_drew (S:=fun W'=>Below W0.heap.size W0 W'/\dD W' b0 D) (by kernel_rfl) (eh.o _ HX.o.drew) (fun η=>?_)
  (refine ay 0 (v:=.agg D.cD) ?_ (hy:=by intro wz hSw;exact EZ (o:=_) (ρ:=_) wz 101 (.tmp 3) rfl ⟨b0,0,none⟩ rfl D.cD _ (dD.st (And.right hSw)).part underlying101 rfl (dD.dm (And.right hSw)).info))
  (refine ay 1 ?_;refine ay 2 ?_;refine ay 3 ?_;try simp only[put,sA];refine ay 4 ?_;try simp only[put,sA])
  refine bH 5 (fun K hK=>?_);skip;go_simp;go_at_call 104;refine (zmU D C HB.o.2.2 a bt mW _ η.2.dm).mono ?_;rintro e wj ⟨rfl,vj⟩;have bQ:Below W0.heap.size W0 wj:=η.1.trans (vj.mono η.1.size);clear vj
  try go_wp2_with fail
  refine hK.out _ _ (eh.o _ bQ) fun η=>?_;clear hK K
  try simp only[put,sA]
  (refine ay 6 ?_;try simp only[put,sA])
  refine wpAnyH_done (by kernel_rfl) ?_ _;have so:=hid bQ;clear η bQ;rw[<-fC.o];have HF:=hid (rk.o _ so.o);by_cases hd:ec D st (ng s) (k+1)=-1
  ·have HV:=hid (HDs.o hd);rw[hd];go_wp2;go_ret;exact⟨by rw[HV.o];first|rfl|simp,HF.o⟩
  have uE:Hid (ec D st (ng s) (k+1)=ec D st (ng s) (k+1)):=rfl;obtain⟨r,hr⟩:=Ξ (ec D st (ng s) (k+1))
  have Hr:=hid hr;rw[hr] at hd;rw[hr];clear hr uE fC;go_wp2;go_roundw
  ·exact⟨k+1,by go_num,by omega,by rw[Hr.o],so⟩
  simp[intOf];omega
 obtain rfl:k=m:=by omega
 have HF:=hid (rk.o wr HX.o);clear YQ;go_wp2;go_ret;exact⟨rfl,HF.o⟩
theorem zoU(D:Dd)(C:Nat)(hR:DR D C)(s:ByteArray)(m:Nat)(hs:s.size=m)(hm:m<=1000000)(w:World)(hD:DM w D):
  Calls prog 69 #[.agg D.cD,.string s] w fun e w'=>e=.returned (.int .i64 (dL D (ec D 0 (ng s) m)))/\Below w.heap.size w w':=by
 have HB:=ψ (dD.new hD) (al w (.cells D.cD 101)) hR hs;clear hD hR hs;go_in;go_upto_region 1 with fail;generalize w.alloc (.cells D.cD 101)=W0 at HB⊢;generalize bz:w.heap.size=b0 at HB⊢;have eY:=hid bz;clear bz;have rk:Hid (∀W',Below W0.heap.size W0 W'->Below w.heap.size w W'):=fun W' h=>by
  rw[eY.o];exact HB.o.2.1.trans (h.mono (by have:=HB.o.2.1.size;have:=eY.o;omega))
 have eh:Hid (∀W',Below W0.heap.size W0 W'->Below W0.heap.size W0 W'/\dD W' b0 D):=fun W' h=>⟨h,HB.o.1.ae h⟩
 refine wp_region_held_drew (S:=fun W'=>Below W0.heap.size W0 W'/\dD W' b0 D) (by kernel_rfl) (eh.o _ (Below.refl _ _).drew) (fun η=>?_)
 (refine ay 0 (v:=.agg D.cD) ?_ (hy:=by intro wz hSw;exact EZ (o:=_) (ρ:=_) wz 101 (.tmp 2) rfl ⟨b0,0,none⟩ rfl D.cD _ (dD.st (And.right hSw)).part underlying101 rfl (dD.dm (And.right hSw)).info))
 (refine ay 1 (v:=.agg D.cD) ?_ (hy:=by intro wz hSw;exact EZ (o:=_) (ρ:=_) wz 101 (.tmp 2) rfl ⟨b0,0,none⟩ rfl D.cD _ (dD.st (And.right hSw)).part underlying101 rfl (dD.dm (And.right hSw)).info))
 (refine ay 2 ?_;try simp only[put,sA])
 refine bH 3 (fun K hK=>?_);skip;go_simp;go_at_call 85;refine (zoT D C HB.o.2.2.1 0 s m HB.o.2.2.2 hm _ η.2.dm).mono ?_;rintro e wj ⟨rfl,vj⟩;have bQ:Below W0.heap.size W0 wj:=η.1.trans (vj.mono η.1.size);clear vj
 try go_wp2_with fail
 refine hK.out _ _ (eh.o _ bQ) fun η=>?_;clear hK K
 try simp only[put,sA]
 clear bQ;refine bH 4 (fun K hK=>?_);skip;go_simp;go_at_call 84;refine (zmV D C HB.o.2.2.1 (ec D 0 (ng s) m) _ η.2.dm).mono ?_;rintro e wk ⟨rfl,vk⟩;have bQ:Below W0.heap.size W0 wk:=η.1.trans (vk.mono η.1.size);clear vk
 try go_wp2_with fail
 refine hK.out _ _ (eh.o _ bQ) fun η=>?_;clear hK K
 try simp only[put,sA]
 (refine ay 5 ?_;try simp only[put,sA])
 refine wpAnyH_done (by kernel_rfl) ?_ _;have HF:=hid (rk.o _ bQ);clear η bQ;go_wp2;go_ret;exact⟨rfl,HF.o⟩
def Tq(l:List Nat)(t:Int):Int:=if t=-1 then -1 else ((l.idxOf t.toNat:Nat):Int)
def kD(D:Dd)(l:List Nat)(i c:Nat):Int:=Tq l (D.nx (l.getD i 0) c)
theorem Yz(hR:DR D C)(i:Nat):∀x∈dN (aQ D.len D.nx) [0] i,x<D.n:=by
 have h0:=hR.n1
 induction i with
 | zero=>intro x hx;rw[List.mem_singleton.1 hx];omega
 | succ i ih=>
  intro x hx;have lZ:x∈rR (aQ D.len D.nx) (dN (aQ D.len D.nx) [0] i) i:=hx;unfold rR at lZ;split at lZ
  ·rename_i h;rw[Ps] at lZ;rcases lZ with h1|h1
   ·exact ih x h1
   have hm:(dN (aQ D.len D.nx) [0] i).getD i 0∈dN (aQ D.len D.nx) [0] i:=by
    rw[show (dN (aQ D.len D.nx) [0] i).getD i 0=(dN (aQ D.len D.nx) [0] i)[i] by simp[getD_eq_getElem?_getD,h]];exact getElem_mem h
   have hs:=ih _ hm;generalize (dN (aQ D.len D.nx) [0] i).getD i 0=y at h1 hs;unfold aQ at h1;obtain⟨c,hc,e⟩:=List.mem_map.1 h1;have gj:c<D.len y:=List.mem_range.1 hc;exact hR.ed _ _ ⟨hs,c,gj,e⟩
  exact ih x lZ
theorem zmW(hR:DR D C):∃k,(dN (aQ D.len D.nx) [0] k).length=k/\k<=D.n:=by
 have hb:∀i,(dN (aQ D.len D.nx) [0] i).length<=D.n:=fun i=>rb (VO _ (by simp) i) (Yz hR i)
 have hp:∀i j,i<=j->(dN (aQ D.len D.nx) [0] i).length<=(dN (aQ D.len D.nx) [0] j).length:=fun i j h=>by
  induction j with
  | zero=>rw[show i=0 by omega];exact le_refl _
  | succ j ih=>
   by_cases e:i=j+1
   ·rw[e];exact le_refl _
   exact Nat.le_trans (ih (by omega)) (T8 _ _ j).length_le
 have key:∀m,(∃k,k<=m/\(dN (aQ D.len D.nx) [0] k).length=k)\/m<(dN (aQ D.len D.nx) [0] m).length:=by
  intro m
  induction m with
  | zero=>exact Or.inr (by simp[dN])
  | succ m ih=>
   rcases ih with ⟨k,h1,h2⟩|h
   ·exact Or.inl ⟨k,by omega,h2⟩
   have:=hp m (m+1) (by omega);by_cases e:(dN (aQ D.len D.nx) [0] (m+1)).length=m+1
   ·exact Or.inl ⟨m+1,le_refl _,e⟩
   exact Or.inr (by omega)
 rcases key D.n with ⟨k,h1,h2⟩|h
 ·exact⟨k,h2,h1⟩
 have:=hb D.n;omega
section
variable {W0 : World}{b4 C : Nat}{K : Nat → Nat}{vN : Value}{R : List (List Int)}{ws : Nat → Value}{vK : Value}{ms : List Int}{vL : Value}{l : List Nat}{w : World}
end
section
variable {W0 : World}{b4 C z : Nat}{K : Nat → Nat}{vN : Value}{R : List (List Int)}{ws : Nat → Value}{vK : Value}{ms : List Int}{vL vW : Value}{l : List Nat}{row : List Int}{w : World}
end
theorem KT{P:Program}{ops:Array Oper}{o:Oper}{a:Act}{w:World}{K:Act->World->Prop}{Q:Exit->Act->World->Prop}{E:Prop}(qC:o.guard=none)(s x:Operand)(t:TypeId)
  (ho:o.op=.call { callee:=.builtin .append,args:=#[s,x],argTypes:=#[t,t] })
  (base:Nat) (e:TypeId) (i:TypeInfo) (z:Value) (size bytes:Nat) (ht:P.underlying t=some (.slice e)) (hi:P.info? e=some i) (hz:i.zero=some z)
  (sg:i.size=size) (Jw:i.bytes=bytes) (Jh:z.cells.size=size) (cQ:0<size)
  (v:Value) (n:Nat) (xs:List Value) (hs:a.eval s=v) (az:w.ownsRow base e size v n xs)
  (ad:Addr) (m c:Nat) (news:List Value) (hx:a.eval x=.slice (some ad) m c) (hl:news.length=m*size) (oQ:∀j u,news[j]?=some u->w.cell? (ad.add j)=some u) (h1:∀u∈news,u.oneCell'=true)
  (LS:n+m<=maxLen) (kU:(n+m)*bytes<=140737488355328) (rL:base<=w.heap.size)
  (h:∀v' w',w'.ownsRow base e size v' (n+m) (xs++news)->w.grownBy w' v.ownBlock->(v'.ownBlock=v.ownBlock\/v'.ownBlock=some w.heap.size)->K (a.put o.dst v') w'):
  if Region.wanted o (yielded ops a.tmps)=true then Oper.wp P o a w K Q else E:=by
 have hw:Region.wanted o (yielded ops a.tmps)=true:=by simp[Region.wanted,qC]
 rw[if_pos hw];obtain⟨v',w',hr,h2,h3,_,h5⟩:=run_append_own_at (P:=P) w base t o.type e i z size bytes ht hi hz sg Jw Jh cQ v n xs az ad m c news hl oQ h1 LS kU rL;unfold Oper.wp execOp;simp only[ho,resolve,invoke,builtin,Sem.run_bind,Sem.run_pure,Result.andThen_ok,List.map_toArray,List.map_cons,List.map_nil,hs,hx,hr];exact h v' w' h2 h3 h5
def ru(D:Dd)(C:Nat)(l:List Nat)(i:Nat):List (List Int):=(range i).map fun j=>(range C).map (kD D l j)
def th(D:Dd)(l:List Nat)(i:Nat):List Int:=(range i).map fun j=>D.q (l.getD j 0)
theorem ET(D:Dd)(C:Nat)(l:List Nat)(i:Nat):(ru D C l i).length=i:=by simp[ru]
theorem Mq(D:Dd)(l:List Nat)(i:Nat):(th D l i).length=i:=by simp[th]
theorem zoV(D:Dd)(C:Nat)(l:List Nat)(i:Nat):ru D C l (i+1)=ru D C l i++[(range C).map (kD D l i)]:=by
 unfold ru;rw[List.range_succ,List.map_append];rfl
theorem zoW(D:Dd)(l:List Nat)(i:Nat):th D l (i+1)=th D l i++[D.q (l.getD i 0)]:=by
 unfold th;rw[List.range_succ,List.map_append];rfl
theorem zey:∀(args:Array Value) (W:World),(callFunc 126 args).run prog W=.ok (.enter 126 args) W:=fun _ _=>by rfl
def yi(f:Nat->Nat)(n:Nat):List Value:=(range n).map fun y=>Value.int .i64 (f y)
theorem zqW(f:Nat->Nat)(n x v:Nat):(yi f n).set x (.int .i64 (v:Int))=yi (fun y=>if y=x then v else f y) n:=by
 unfold yi;apply List.ext_getElem?;intro i;rw[List.getElem?_set];by_cases e:x=i
 ·subst e;by_cases h:x<n
  ·simp[h]
  simp[h]
 rw[if_neg e];by_cases h:i<n
 ·simp[h,Ne.symm e,show ¬i=x from fun h=>e h.symm]
 simp[h]
theorem zoX(n:Nat):List.replicate n (Value.int .i64 0)=yi (fun _=>0) n:=by
 unfold yi;apply List.ext_getElem?;intro i;by_cases h:i<n <;> simp[h]
theorem YR(b5 n g:Nat)(f:Nat->Nat)(w:World)(hS:St w 43 b5 #[.slice (some ⟨g,0,none⟩) n n])(hc:∀x,x<n->w.cell? ⟨g,x,none⟩=some (.int .i64 (f x)))(x:Nat)(hx:x<n):
  Calls prog 126 #[.int .i64 (x:Int),.pointer (some ⟨b5,0,none⟩)] w fun e w'=>e=.returned (.int .i64 (f x))/\w'=w:=by
 have c0:w.cell? ⟨b5,0,none⟩=some (.slice (some ⟨g,0,none⟩) n n):=hS.at_ 0;have d0:=hc x hx;have i1:(x:Int)<n:=by omega
 clear hc;go_in;go_wp2;go_ret;exact⟨rfl,rfl⟩
theorem zg6(D:Dd)(C:Nat)(l:List Nat)(k:Nat)(hl:l=dN (aQ D.len D.nx) [0] k)(fW:l.length=k)(uS:k<=D.n)(w:World)(hD:DM w D)(hR:DR D C):
  Calls prog 98 #[.agg D.cD] w (EK D C k (kD D l) (fun i=>D.q (l.getD i 0)) w):=by
 have Bm:∀(fn:Fn) (first cap:Array Value) (w:World),(Instr.makeFunc fn first cap).run prog w=.ok (.func fn first cap) w:=fun _ _ _ _=>rfl
 have dd:=hR.n2;have dr:=hR.n1;have ly:=hR.m;have Bt:=(hR.lf hD.kl).2;have gP:=Ki D.n (by omega);have HB:=ξ (dD.new hD) (al w (.cells D.cD 101)) hR;have HL:=ζ hl fW;obtain⟨iI,hI,q8,rm,rf⟩:=info_parts aH;obtain⟨iV,hV,wF,wg,wD⟩:=info_parts fa;clear hD hR hl fW;go_in;go_upto_region 1 with (refine tq rfl 101 rfl (zC 101) (o8 _) ?_);simp only[put,List.setIfInBounds_toArray,List.set_cons_zero,List.set_cons_succ,Ke];have H0:Hid (dD ((w.alloc (.cells D.cD 101)).alloc (.cells (zC 101) 101)) w.heap.size D/\St ((w.alloc (.cells D.cD 101)).alloc (.cells (zC 101) 101)) 101 (w.heap.size+1) (zC 101)/\Below w.heap.size w ((w.alloc (.cells D.cD 101)).alloc (.cells (zC 101) 101))):=by
  refine⟨HB.o.1.ae (al _ _),?_,HB.o.2.1.trans ((al _ _).mono (by simp))⟩;have:=St.new (w.alloc (.cells D.cD 101)) 101 (zC 101);simpa using this
 generalize (w.alloc (.cells D.cD 101)).alloc (.cells (zC 101) 101)=Wb at H0⊢;obtain⟨b2,cH⟩:=Ξ (w.heap.size+1)
 obtain⟨b0,bz⟩:=Ξ w.heap.size
 rw[cH,bz] at H0;rw[cH,bz];have Hb:=ζ bz cH;clear cH bz;have uX:=hid (Ji D C HB.o.2.2 Wb H0.o.1.dm);go_wp2_with (refine pU (by rfl) 101 _ rfl ⟨b0,0,none⟩ rfl D.cD _ H0.o.1.st.part underlying101 rfl H0.o.1.dm.info ?_);refine uX.o.mono ?_;rintro e wy ⟨rfl,ta⟩;have H1:Hid (dD wy b0 D/\St wy 101 b2 (zC 101)/\Below b0 w wy):=⟨H0.o.1.ae ta,H0.o.2.1.ae ta,H0.o.2.2.trans (ta.mono (by have:=H0.o.2.2.size;have:=Hb.o.1;omega))⟩
 have KC:Hid (b0<=wy.heap.size):=by have h1:=H0.o.2.2.size;have h2:=ta.size;have h3:=Hb.o.1;show _<=_;omega
 have f1:=H1.o.1.f1;have k1:=al wy (.cells #[.int .i64 0] 3);have X5:=hid (WR D.n D.cN D.aN D.A D.Cp D.len D.nx [0] (some ⟨wy.heap.size,0,none⟩) 1 1 (by omega) (fun i hi=>by rw[HB.o.2.2.len i hi];omega) (fun i c hi hc=>HB.o.2.2.nx i c hi (by rw[<-HB.o.2.2.len i hi];exact hc)) rfl (by simp) (fun x hx=>by rw[List.mem_singleton.1 hx];omega) (wy.alloc (.cells #[.int .i64 0] 3)) (H1.o.1.ae k1).dm.rN (vy (zG wy wy.heap.size 3 1 #[.int .i64 0] 1 rfl (le_refl _) (by decide)) rfl) (fun h=>by cases h) (fun ad h=>by injection h with h;rw[<-h]));have Vh:=hid k1;clear ta uX k1;go_wp2_with fail;refine X5.o.mono ?_;rintro e w3 ⟨l9,i9,aL,cL,rfl,Zp,sc,G3,_,iQ,b3⟩;have xR:l9=l/\i9=k:=by
  have h1:(dN (aQ D.len D.nx) [0] i9).length=i9:=by rw[<-sc];exact G3
  have h2:=zo2 (aQ D.len D.nx) [0] h1 (by rw[<-HL.o.1];exact HL.o.2:(dN (aQ D.len D.nx) [0] k).length=k);have h3:l9=l:=by rw[sc,h2,<-HL.o.1]
  exact⟨h3,by rw[<-G3,h3];exact HL.o.2⟩
 obtain⟨rfl,rfl⟩:=xR;have Ry:Hid (l9.Nodup/\(∀x∈l9,x<D.n)):=⟨by rw[HL.o.1];exact VO _ (by simp) _,iQ⟩
 have H3:Hid (dD w3 b0 D/\St w3 101 b2 (zC 101)/\Below b0 w w3/\pe w3 aL l9):=by
  have k2:=Vh.o.trans (b3.mono Vh.o.size);exact⟨H1.o.1.ae k2,H1.o.2.1.ae k2,H1.o.2.2.trans (k2.mono KC.o),vy Zp G3⟩
 have LB:Hid (b0<=w3.heap.size):=by have h1:=Vh.o.size;have h2:=b3.size;have h3:=KC.o;show _<=_;omega
 clear Zp sc G3 iQ b3 X5 f1;have f1:=H3.o.1.f1;have HNu:Hid ((w3.alloc (.cells (madeCells #[.int .i64 0] D.n) 3)).ownsRow w3.heap.size 3 1 (.slice (some ⟨w3.heap.size,0,none⟩) D.n D.n) D.n (yi (fun _=>0) D.n)):=by
  have h:=Fb w3 w3.heap.size D.n 3 (.int .i64 0) (le_refl _) (by unfold maxLen;omega);rw[zoX] at h;exact h
 have k3:=al w3 (.cells (madeCells #[.int .i64 0] D.n) 3);go_upto_region 5 with fail;have k4:=al (w3.alloc (.cells (madeCells #[.int .i64 0] D.n) 3)) (.cells #[.slice (some ⟨w3.heap.size,0,none⟩) D.n D.n] 43);have GA:Hid (((w3.alloc (.cells (madeCells #[.int .i64 0] D.n) 3)).alloc (.cells #[.slice (some ⟨w3.heap.size,0,none⟩) D.n D.n] 43)).ownsRow w3.heap.size 3 1 (.slice (some ⟨w3.heap.size,0,none⟩) D.n D.n) D.n (yi (fun _=>0) D.n)/\St ((w3.alloc (.cells (madeCells #[.int .i64 0] D.n) 3)).alloc (.cells #[.slice (some ⟨w3.heap.size,0,none⟩) D.n D.n] 43)) 43 (w3.heap.size+1) #[.slice (some ⟨w3.heap.size,0,none⟩) D.n D.n]/\Below w3.heap.size w3 ((w3.alloc (.cells (madeCells #[.int .i64 0] D.n) 3)).alloc (.cells #[.slice (some ⟨w3.heap.size,0,none⟩) D.n D.n] 43))):=by
  refine⟨dE HNu.o k4,?_,k3.trans (k4.mono k3.size)⟩;have:=St.new (w3.alloc (.cells (madeCells #[.int .i64 0] D.n) 3)) 43 #[.slice (some ⟨w3.heap.size,0,none⟩) D.n D.n];simpa using this
 generalize (w3.alloc (.cells (madeCells #[.int .i64 0] D.n) 3)).alloc (.cells #[.slice (some ⟨w3.heap.size,0,none⟩) D.n D.n] 43)=W5 at GA⊢;obtain⟨b5,nL⟩:=Ξ (w3.heap.size+1)
 obtain⟨gU,MG⟩:=Ξ w3.heap.size
 rw[nL,MG] at GA;rw[nL,MG];have HgU:=hid MG;clear nL MG k3 k4 HNu f1;obtain⟨gL,oL,rfl,Dl,Cf⟩:=H3.o.2.2.2 (by
  have h:=(Tv (aQ D.len D.nx) [0] i9).length_le
  rw[<-HL.o.1] at h
  exact h)
 have KB:=hid Cf;have Uz:=hid Dl;clear Cf Dl;have mm:=hid HL.o.2;go_wp2;go_loopw [5,6,24] (fun _ _ v wr=>∃(j:Nat) (f:Nat->Nat),v=.int .i64 j/\j<=i9/\Hid (wr.ownsRow gU 3 1 (.slice (some ⟨gU,0,none⟩) D.n D.n) D.n (yi f D.n)/\St wr 43 b5 #[.slice (some ⟨gU,0,none⟩) D.n D.n]/\Below gU w3 wr/\∀j',j'<j->f (l9.getD j' 0)=j')) (fun _ _ v _=>i9-(intOf v).toNat)
 ·exact⟨0,_,rfl,by omega,⟨GA.o.1,GA.o.2.1,GA.o.2.2,fun j' h=>by omega⟩⟩
 clear GA;obtain⟨j,f,rfl,hj,HA⟩:=hrel;have km:Below w3.heap.size w3 wr:=by rw[HgU.o];exact HA.o.2.2.1
 by_cases aq:j<i9
 ·have hjl:j<l9.length:=by rw[mm.o];exact aq
  have d0:=(km.cell (p:=⟨gL,oL+j,none⟩) Uz.o).trans (KB.o j hjl);have CI:l9.getD j 0=l9[j]:=by simp[getD_eq_getElem?_getD,hjl]
  have kE:l9.getD j 0<D.n:=by rw[CI];exact Ry.o.2 _ (getElem_mem hjl)
  have HS:Hid (∀j',j'<j+1->(fun y=>if y=l9.getD j 0 then j else f y) (l9.getD j' 0)=j'):=fun j' h=>by
   by_cases e:j'=j
   ·subst e;simp
   have h2:j'<l9.length:=(by omega);have hne:¬l9.getD j' 0=l9.getD j 0:=fun h3=>by
    exact e (Uo Ry.o.1 h2 hjl h3)
   simp only[if_neg hne];exact HA.o.2.2.2 j' (by omega)
  obtain⟨g9,e9,_,_,c9⟩:=fG HA.o.1 (by omega);obtain rfl:g9=gU:=by
   injection e9 with e9;injection e9 with e9 _;exact e9.symm
  have e5:wr.cell? ⟨b5,0,none⟩=some (.slice (some ⟨g9,0,none⟩) D.n D.n):=HA.o.2.1.at_ 0
  try dsimp only at d0
  clear CI;generalize l9.getD j 0=x at d0 kE HS;obtain⟨y0,y1⟩:=c9 x (by omega);have y2:(yi f D.n)[x]?=some (.int .i64 (f x)):=by simp[yi,kE]
  rw[y2] at y0;have HP:Hid ((wr.setCell ⟨g9,x,none⟩ (.int .i64 (j:Int))).ownsRow g9 3 1 (.slice (some ⟨g9,0,none⟩) D.n D.n) D.n (yi (fun y=>if y=x then j else f y) D.n)/\St (wr.setCell ⟨g9,x,none⟩ (.int .i64 (j:Int))) 43 b5 #[.slice (some ⟨g9,0,none⟩) D.n D.n]/\Below g9 w3 (wr.setCell ⟨g9,x,none⟩ (.int .i64 (j:Int)))):=by
   refine⟨?_,HA.o.2.1.gJ (p:=⟨g9,x,none⟩) (fun h=>eI HA.o.1 HA.o.2.1 (by decide) g9 rfl h.symm) _,HA.o.2.2.1.setCell (p:=⟨g9,x,none⟩) (le_refl _) _⟩;have:=xC HA.o.1 x kE (.int .i64 (j:Int));rwa [zqW] at this
  have i1:(j:Int)<i9:=by omega
  have i2:(x:Int)<(D.n:Int):=by omega
  clear c9 e9 y2 km;go_wp2;go_roundw
  ·exact⟨j+1,_,by go_num,by omega,⟨HP.o.1,HP.o.2.1,HP.o.2.2,HS.o⟩⟩
  simp[intOf];omega
 obtain rfl:j=i9:=by omega
 obtain⟨Wn,rfl⟩:∃Wn,Wn=wr:=⟨wr,rfl⟩
 have HN:Hid (dD Wn b0 D/\St Wn 101 b2 (zC 101)/\Below b0 w Wn/\St Wn 43 b5 #[.slice (some ⟨gU,0,none⟩) D.n D.n]/\b0<=Wn.heap.size):=⟨H3.o.1.ae km,H3.o.2.1.ae km,H3.o.2.2.1.trans (km.mono LB.o),HA.o.2.1,Nat.le_trans LB.o km.size⟩
 have xA:Hid (∀x,x<D.n->Wn.cell? ⟨gU,x,none⟩=some (.int .i64 (f x))):=fun x hx=>by
  obtain⟨g9,e9,_,_,c9⟩:=fG HA.o.1 (by omega);have e8:g9=gU:=by
   injection e9 with e9;injection e9 with e9 _;exact e9.symm
  subst e8;rw[(c9 x (by omega)).1];simp[yi,hx]
 have PR:Hid (∀x∈l9,f x=l9.idxOf x):=fun x hx=>by
  have h1:l9.idxOf x<l9.length:=List.idxOf_lt_length_iff.2 hx;have h2:=HA.o.2.2.2 (l9.idxOf x) (by have:=mm.o;omega);rw[show l9.getD (l9.idxOf x) 0=l9[l9.idxOf x] by simp[getD_eq_getElem?_getD,h1],List.getElem_idxOf h1] at h2;exact h2
 have Ds:Hid (gL<Wn.heap.size/\gU<Wn.heap.size):=by
  refine⟨Nat.lt_of_lt_of_le Uz.o km.size,?_⟩;obtain⟨g9,e9,_,h9,_⟩:=fG HA.o.1 (by omega);injection e9 with e9;injection e9 with e9 _;rw[e9];exact h9
 have Rf:Hid (∀i,i<j->Wn.cell? ⟨gL,oL+i,none⟩=some (.int .i64 (l9.getD i 0))):=fun i hi=>(km.cell (p:=⟨gL,oL+i,none⟩) Uz.o).trans (KB.o i (by rw[mm.o];exact hi))
 clear HA km;have vd:=hid HN.o.1;have k5:=al Wn (.cells (zC 101) 101);have iv:St (Wn.alloc (.cells (zC 101) 101)) 101 Wn.heap.size (zC 101):=St.new _ _ _;have Lv:iX Wn Wn.heap.size D.K C (.slice none 0 0) (ru D C l9 0) (fun _=>.slice none 0 0) (.slice none 0 0) (th D l9 0) ((Wn.alloc (.cells (zC 101) 101)).setRow Wn.heap.size (dH D.K (.slice none 0 0) (.slice none 0 0))):=iX.start (V0:=Wn) (K:=D.K) (C:=C) (ws:=fun _=>.slice none 0 0) (a:=none) (c:=0) (ms:=[]) (World.ownsRow_nil _ _ _ _) rfl k5 iv (le_refl _);have kq:=hid Lv;have jB:=hid iv;clear k5 iv Lv;go_upto_region 11 with (first
  | (refine tH rfl 98 _ rfl ⟨b0,0,none⟩ rfl (bu D.K) (.array 256 5) vd.o.fy underlying98 rfl (BG D.K) ?_)
  | (refine Dn rfl 101 _ rfl #[(0,.agg (bu D.K))] (by first|rfl|kernel_rfl|(go_simp;done)) (.agg (dH D.K (.slice none 0 0) (.slice none 0 0))) (Xe D.K _) ?_)
  | (refine tq rfl 101 rfl (zC 101) (o8 _) ?_)
  | (refine qD rfl 101 _ _ rfl Wn.heap.size 101 (zC 101) (dH D.K (.slice none 0 0) (.slice none 0 0)) rfl rfl jB.o (by rw[kr,nP]) (by rw[iN,nP]) (yZ _ _ _ _ _ _ _) ?_))
 simp only[put,sA];obtain⟨b4,fV⟩:=Ξ Wn.heap.size
 have Gu:=hid fV;rw[fV] at kq;rw[fV];generalize (Wn.alloc (.cells (zC 101) 101)).setRow b4 (dH D.K (.slice none 0 0) (.slice none 0 0))=W4 at kq⊢;clear fV jB;have i4:j<=32768:=by omega
 go_wp2;go_loopw [9,39] (fun _ v wr=>∃(i:Nat) (ws:Nat->Value) (aN aK:Option Addr) (cN cK:Nat),v=.int .i64 i/\i<=j/\Hid (iX Wn b4 D.K C (.slice aN i cN) (ru D C l9 i) ws (.slice aK i cK) (th D l9 i) wr)) (fun _ v _=>j-(intOf v).toNat)
 ·exact⟨0,_,none,none,0,0,rfl,by omega,kq⟩
 clear kq;obtain⟨i,ws,aN,aK,cN,cK,rfl,hi,HT⟩:=hrel;by_cases aq:i<j
 ·have uA:i<l9.length:=by rw[mm.o];exact aq
  have d0:=(HT.o.bc.cell (p:=⟨gL,oL+i,none⟩) Ds.o.1).trans (Rf.o i aq);have CI:l9.getD i 0=l9[i]:=by simp[getD_eq_getElem?_getD,uA]
  have kE:l9.getD i 0<D.n:=by rw[CI];exact Ry.o.2 _ (getElem_mem uA)
  have xj:Hid ((range C).map (pO (D.nx (l9.getD i 0)) (fun y=>((f y:Nat):Int)))=(range C).map (kD D l9 i)):=by
   show _=_;refine(List.map_congr_left fun c hc=>?_);have gj:c<C:=(by simpa using hc);have hb:=HB.o.2.2.nx (l9.getD i 0) c kE gj;unfold pO kD Tq;by_cases h1:D.nx (l9.getD i 0) c=-1
   ·rw[if_pos h1,if_pos h1]
   rw[if_neg h1,if_neg h1];have hm:(D.nx (l9.getD i 0) c).toNat∈l9:=by
    have h2:=Uq (aQ D.len D.nx) [0] j i aq (by rw[<-HL.o.1];exact uA) (D.nx (l9.getD i 0) c).toNat (by
     unfold WE aQ
     have e7:(dN (aQ D.len D.nx) [0] j)[i]'(by rw[<-HL.o.1];exact uA)=l9.getD i 0:=by
      rw[CI]
      congr 1
      exact HL.o.1.symm
     unfold aQ at e7
     rw[e7,HB.o.2.2.len _ kE]
     refine List.mem_map.2 ⟨c,by simpa using gj,?_⟩
     omega)
    rw[<-HL.o.1] at h2;exact h2
   dsimp only;rw[PR.o _ hm]
  have zE:Hid (th D l9 (i+1)=th D l9 i++[D.q (l9.getD i 0)]):=zoW D l9 i;have FG:Hid (ru D C l9 (i+1)=ru D C l9 i++[(range C).map (kD D l9 i)]):=zoV D C l9 i;have i1:(i:Int)<j:=by omega
  try dsimp only at d0
  clear CI uA;generalize l9.getD i 0=x at d0 kE xj zE;have i2:(x:Int)<(D.n:Int):=by omega
  obtain⟨gM,oM,eM,uc,pj⟩:=HN.o.1.dm.rM (by omega);have pw:=HN.o.1.f2;rw[eM] at pw;have i3:(x:Int)<(D.m:Int):=by omega
  have IG:=pj x (by omega);have eh:Hid (∀W',Below Wn.heap.size Wn W'->Below Wn.heap.size Wn W'/\W'.cell? ⟨b0,257,none⟩=some (.slice (some ⟨gM,oM,none⟩) D.m D.cM)/\W'.cell? ⟨gM,oM+x,none⟩=some (.int .i64 (D.q x))):=fun W' h=>⟨h,(h.cell (p:=⟨b0,257,none⟩) HN.o.1.st.lt).trans pw,(h.cell (p:=⟨gM,oM+x,none⟩) uc).trans IG⟩
  clear eM uc pj pw IG;generalize D.q x=qx at eh zE;go_upto_region 14 with fail;clear d0
  go_cut [9] from 43 to 52 (fun v wx=>v=.int .i64 (x:Int)/\∃(a9:Option Addr) (c9:Nat),iX Wn b4 D.K C (.slice aN i cN) (ru D C l9 i) ws (.slice a9 (i+1) c9) (th D l9 (i+1)) wx)
  case first=>
   refine wp_region_held_drew (S:=fun W'=>Below Wn.heap.size Wn W'/\W'.cell? ⟨b0,257,none⟩=some (.slice (some ⟨gM,oM,none⟩) D.m D.cM)/\W'.cell? ⟨gM,oM+x,none⟩=some (.int .i64 qx)) (by kernel_rfl) (eh.o _ HT.o.bc.drew) fun η=>?_;have HO:Hid (iX Wn b4 D.K C (.slice aN i cN) (ru D C l9 i) ws (.slice aK i cK) (th D l9 i) wr.drew):=HT.o.ae (Below.refl _ _).drew
   (refine ay 0 ?_;refine ay 2 ?_;refine ay 3 ?_;try simp only[put,sA];refine ay 4 ?_;refine ay 5 ?_;refine ay 6 ?_;try simp only[put,sA])
   refine wpAnyH_ready (rs:=[1,7]) (by kernel_rfl) (by simp) ?_;refine jn (fun K hK=>?_) ?_
   ·skip;have f2:=HO.o.f2;go_simp;refine hK.out _ _ (η) fun η=>?_;clear hK K
    try simp only[put,sA]
    clear f2;refine bH 7 (fun K hK=>?_);skip;go_simp;have kk:=al wr.drew (.cells #[.int .i64 qx] 3);have lY:Hid (∀j u,[Value.int .i64 qx][j]?=some u->((wr.alloc (.cells #[.int .i64 qx] 3)).drew).cell? ((⟨wr.heap.size,0,none⟩:Addr).add j)=some u):=cell_one_new wr.drew _ _;have HO:Hid (iX Wn b4 D.K C (.slice aN i cN) (ru D C l9 i) ws (.slice aK i cK) (th D l9 i) ((wr.alloc (.cells #[.int .i64 qx] 3)).drew)):=HO.o.ae kk;refine hK.out _ _ (eh.o _ HO.o.bc) fun η=>?_;clear hK K
    try simp only[put,sA]
    clear kk;generalize (wr.alloc (.cells #[.int .i64 qx] 3)).drew=V5 at lY HO η⊢;refine bH 8 (fun K hK=>?_);skip;have hO:=HO.o.dt;rw[Mq] at hO;refine KT (by rfl) _ _ _ (by rfl) Wn.heap.size 3 iI (.int .i64 0) 1 8 underlying43 hI q8 rm rf (by rfl) (by decide) _ i (ints (th D l9 i)) (by rfl) hO ⟨wr.heap.size,0,none⟩ 1 1 [.int .i64 qx] (by rfl) (by rfl) lY.o (by intro u hu;simp at hu;subst hu;rfl) (by unfold maxLen;omega) (by omega) HO.o.bc.size ?_;intro v6 w6 an ag di;obtain⟨a9,c9,rfl⟩:=cy an;have tE:=hid (HO.o.nQ (vK':=.slice a9 (i+1) c9) (Mq D l9 i) an ag di);have h9:=HO.o.st.af HO.o.dt (by decide) ag;have z2:w6.cell? ⟨b4,257,none⟩=some (.slice aK i cK):=(by rw[h9.at_,AK]);have z3:w6.frozen? ⟨b4,257,none⟩=false:=h9.bE 257;have eJ:=gu HO.o.bc HO.o.dt HO.o.bc.size ag;clear an ag di h9 hO;refine hK.out _ _ (eh.o _ eJ) fun η=>?_;clear hK K
    try simp only[put,sA]
    (refine ay 9 ?_;try simp only[put,sA])
    refine bH 10 (fun K hK=>?_);skip;go_simp;refine hK.out _ _ (eh.o _ tE.o.bc) fun η=>?_;clear hK K
    try simp only[put,sA]
    refine wpAnyH_done (by kernel_rfl) ?_ _;rw[<-zE.o] at tE;clear η z2 z3 eJ;go_wp2_with fail
    go_meet
    exact⟨rfl,a9,c9,tE.o⟩
   refine jn (fun K hK=>?_) ?_
   ·skip;go_simp;have kk:=al wr.drew (.cells #[.int .i64 qx] 3);have lY:Hid (∀j u,[Value.int .i64 qx][j]?=some u->((wr.alloc (.cells #[.int .i64 qx] 3)).drew).cell? ((⟨wr.heap.size,0,none⟩:Addr).add j)=some u):=cell_one_new wr.drew _ _;have HO:Hid (iX Wn b4 D.K C (.slice aN i cN) (ru D C l9 i) ws (.slice aK i cK) (th D l9 i) ((wr.alloc (.cells #[.int .i64 qx] 3)).drew)):=HO.o.ae kk;refine hK.out _ _ (eh.o _ HO.o.bc) fun η=>?_;clear hK K
    try simp only[put,sA]
    clear kk;generalize (wr.alloc (.cells #[.int .i64 qx] 3)).drew=V5 at lY HO η⊢;refine bH 1 (fun K hK=>?_);skip;have f2:=HO.o.f2;go_simp;refine hK.out _ _ (η) fun η=>?_;clear hK K
    try simp only[put,sA]
    clear f2;refine bH 8 (fun K hK=>?_);skip;have hO:=HO.o.dt;rw[Mq] at hO;refine KT (by rfl) _ _ _ (by rfl) Wn.heap.size 3 iI (.int .i64 0) 1 8 underlying43 hI q8 rm rf (by rfl) (by decide) _ i (ints (th D l9 i)) (by rfl) hO ⟨wr.heap.size,0,none⟩ 1 1 [.int .i64 qx] (by rfl) (by rfl) lY.o (by intro u hu;simp at hu;subst hu;rfl) (by unfold maxLen;omega) (by omega) HO.o.bc.size ?_;intro v6 w6 an ag di;obtain⟨a9,c9,rfl⟩:=cy an;have tE:=hid (HO.o.nQ (vK':=.slice a9 (i+1) c9) (Mq D l9 i) an ag di);have h9:=HO.o.st.af HO.o.dt (by decide) ag;have z2:w6.cell? ⟨b4,257,none⟩=some (.slice aK i cK):=(by rw[h9.at_,AK]);have z3:w6.frozen? ⟨b4,257,none⟩=false:=h9.bE 257;have eJ:=gu HO.o.bc HO.o.dt HO.o.bc.size ag;clear an ag di h9 hO;refine hK.out _ _ (eh.o _ eJ) fun η=>?_;clear hK K
    try simp only[put,sA]
    (refine ay 9 ?_;try simp only[put,sA])
    refine bH 10 (fun K hK=>?_);skip;go_simp;refine hK.out _ _ (eh.o _ tE.o.bc) fun η=>?_;clear hK K
    try simp only[put,sA]
    refine wpAnyH_done (by kernel_rfl) ?_ _;rw[<-zE.o] at tE;clear η z2 z3 eJ;go_wp2_with fail
    go_meet
    exact⟨rfl,a9,c9,tE.o⟩
   exact AllReadyH.nil
  case rest=>
   obtain⟨rfl,a9,c9,Yq⟩:=hcut;have WJ:=hid Yq;clear Yq HT;obtain⟨gN,oN,eN,od,rF⟩:=HN.o.1.dm.rN (by omega);have Um:=HN.o.1.f1;rw[eN] at Um;obtain⟨qZ,zN⟩:=rF x kE;have hlen:=HB.o.2.2.len x kE;rw[hlen] at qZ zN;have yV:=hid zN;have nD:Hid (∀W',Below Wn.heap.size Wn W'->Below Wn.heap.size Wn W'/\W'.cell? ⟨b0,256,none⟩=some (.slice (some ⟨gN,oN,none⟩) D.n D.cN)/\W'.cell? ⟨gN,oN+x,none⟩=some (.slice (D.A x) C (D.Cp x))):=(fun W' h=>⟨h,(h.cell (p:=⟨b0,256,none⟩) HN.o.1.st.lt).trans Um,(h.cell (p:=⟨gN,oN+x,none⟩) od).trans qZ⟩);clear eN od rF Um qZ zN hlen eh;go_upto_region 15 with fail;refine wp_region_held_drew (S:=fun W'=>Below Wn.heap.size Wn W'/\W'.cell? ⟨b0,256,none⟩=some (.slice (some ⟨gN,oN,none⟩) D.n D.cN)/\W'.cell? ⟨gN,oN+x,none⟩=some (.slice (D.A x) C (D.Cp x))) (by kernel_rfl) (nD.o _ WJ.o.bc.drew) fun η=>?_;have HO:Hid (iX Wn b4 D.K C (.slice aN i cN) (ru D C l9 i) ws (.slice a9 (i+1) c9) (th D l9 (i+1)) wc.drew):=WJ.o.ae (Below.refl _ _).drew
   (refine ay 0 ?_;refine ay 2 ?_;refine ay 3 ?_;try simp only[put,sA];refine ay 4 ?_;refine ay 5 ?_;refine ay 6 ?_;try simp only[put,sA];refine ay 7 ?_;try simp only[put,sA])
   ·refine wpAnyH_ready (rs:=[1,8]) (by kernel_rfl) (by simp) (jn (fun K hK=>?_) (jn (fun K hK=>?_) AllReadyH.nil))
    skip;have f1:=HO.o.f1;go_simp;refine hK.out _ _ (η) fun η=>?_;clear hK K
    try simp only[put,sA]
    clear f1;refine bH 8 (fun K hK=>?_);skip;have iQ:=(HO.o.next.lt).2;have ka:=me HO.o.dt;go_simp;go_at_call 125;refine (MI 126 b5 D.n (fun y=>((f y:Nat):Int)) C (D.Cp x) (D.A x) (D.nx x) _ zey (fun W' h y hy=>YR b5 D.n gU f W' ((HN.o.2.2.2.1.ae HO.o.bc).ae h) (fun z hz=>((HO.o.bc.trans (h.mono HO.o.bc.size)).cell (p:=⟨gU,z,none⟩) Ds.o.2).trans (xA.o z hz)) y hy) (by omega) (yV.o.below HO.o.bc) (fun c hc=>HB.o.2.2.nx x c kE hc) (by omega)).mono ?_;rintro e w5 ⟨a5,c5,rfl,ky,AR⟩;have HU:Hid (w5.ownsRow Wn.heap.size 3 1 (.slice a5 C c5) C (ints ((range C).map (kD D l9 i)))/\(∀j,j<(ru D C l9 i).length->∀b,(ws j).ownBlock=some b->(Value.slice a5 C c5).ownBlock≠some b)/\∀b,(Value.slice a5 C c5).ownBlock=some b->(Value.slice a9 (i+1) c9).ownBlock≠some b):=by
     have jS:=ln ky;refine⟨?_,fun j hj b e1 e2=>?_,fun b e1 e2=>?_⟩
     ·rw[<-xj.o];exact jH ky HO.o.bc.size
     ·have h1:=iQ j hj b e1;have h2:=jS b e2
      try simp only[lj] at h1
      try simp only[lj] at h2
      omega
     have h1:=ka b e2;have h2:=jS b e1
     try simp only[lj] at h1
     try simp only[lj] at h2
     omega
    have HO:=hid (HO.o.ae AR);clear ky AR iQ ka
    try go_wp2_with fail
    refine hK.out _ _ (nD.o _ HO.o.bc) fun η=>?_;clear hK K
    try simp only[put,sA]
    refine bH 9 (fun K hK=>?_);skip;go_simp;have kk:=al w5 (.cells #[.slice a5 C c5] 43);have lY:Hid (∀j u,[Value.slice a5 C c5][j]?=some u->(w5.alloc (.cells #[.slice a5 C c5] 43)).cell? ((⟨w5.heap.size,0,none⟩:Addr).add j)=some u):=cell_one_new _ _ _;have HO:=hid (HO.o.ae kk);have HU:=ζ (dE HU.o.1 kk) HU.o.2;refine hK.out _ _ (nD.o _ HO.o.bc) fun η=>?_;clear hK K
    try simp only[put,sA]
    clear kk;generalize w5.alloc (.cells #[.slice a5 C c5] 43)=V5 at lY HO HU η⊢;refine bH 10 (fun K hK=>?_);skip;have hO:=(HO.o.next.own);rw[ET] at hO;refine yX (by rfl) _ _ _ (by rfl) Wn.heap.size 43 iV (.slice none 0 0) 1 24 underlying99 hV wF wg wD (by rfl) (by decide) _ i ((range i).map ws) (by rfl) hO ⟨w5.heap.size,0,none⟩ 1 1 [.slice a5 C c5] (by rfl) (by rfl) lY.o (by intro u hu;simp at hu;subst hu;rfl) (by unfold maxLen;omega) (by omega) HO.o.bc.size ?_;intro v6 w6 an ag;obtain⟨a7,c7,rfl⟩:=cy an;have jT:=hid (HO.o.gY (u:=.slice a5 C c5) (vN':=.slice a7 (i+1) c7) HU.o.1 HU.o.2.1 HU.o.2.2 (ET D C l9 i) an ag);have h9:=(HO.o.st.af HO.o.next.own (by decide) ag);have z2:w6.cell? ⟨b4,256,none⟩=some (.slice aN i cN):=(by rw[h9.at_,ri]);have z3:w6.frozen? ⟨b4,256,none⟩=false:=h9.bE 256;have eJ:=(gu HO.o.bc HO.o.next.own HO.o.bc.size ag);clear an ag h9 hO;refine hK.out _ _ (nD.o _ eJ) fun η=>?_;clear hK K
    rotate_left
    skip;have iQ:=(HO.o.next.lt).2;have ka:=me HO.o.dt;go_simp;go_at_call 125;refine (MI 126 b5 D.n (fun y=>((f y:Nat):Int)) C (D.Cp x) (D.A x) (D.nx x) _ zey (fun W' h y hy=>YR b5 D.n gU f W' ((HN.o.2.2.2.1.ae HO.o.bc).ae h) (fun z hz=>((HO.o.bc.trans (h.mono HO.o.bc.size)).cell (p:=⟨gU,z,none⟩) Ds.o.2).trans (xA.o z hz)) y hy) (by omega) (yV.o.below HO.o.bc) (fun c hc=>HB.o.2.2.nx x c kE hc) (by omega)).mono ?_;rintro e w5 ⟨a5,c5,rfl,ky,AR⟩;have HU:Hid (w5.ownsRow Wn.heap.size 3 1 (.slice a5 C c5) C (ints ((range C).map (kD D l9 i)))/\(∀j,j<(ru D C l9 i).length->∀b,(ws j).ownBlock=some b->(Value.slice a5 C c5).ownBlock≠some b)/\∀b,(Value.slice a5 C c5).ownBlock=some b->(Value.slice a9 (i+1) c9).ownBlock≠some b):=by
     have jS:=ln ky;refine⟨?_,fun j hj b e1 e2=>?_,fun b e1 e2=>?_⟩
     ·rw[<-xj.o];exact jH ky HO.o.bc.size
     ·have h1:=iQ j hj b e1;have h2:=jS b e2
      try simp only[lj] at h1
      try simp only[lj] at h2
      omega
     have h1:=ka b e2;have h2:=jS b e1
     try simp only[lj] at h1
     try simp only[lj] at h2
     omega
    have HO:=hid (HO.o.ae AR);clear ky AR iQ ka
    try go_wp2_with fail
    refine hK.out _ _ (nD.o _ HO.o.bc) fun η=>?_;clear hK K
    try simp only[put,sA]
    refine wpAnyH_ready (rs:=[1,9]) (by kernel_rfl) (by simp) (jn (fun K hK=>?_) (jn (fun K hK=>?_) AllReadyH.nil))
    skip;have f1:=HO.o.f1;go_simp;refine hK.out _ _ (η) fun η=>?_;clear hK K
    try simp only[put,sA]
    clear f1;refine bH 9 (fun K hK=>?_);skip;go_simp;have kk:=al w5 (.cells #[.slice a5 C c5] 43);have lY:Hid (∀j u,[Value.slice a5 C c5][j]?=some u->(w5.alloc (.cells #[.slice a5 C c5] 43)).cell? ((⟨w5.heap.size,0,none⟩:Addr).add j)=some u):=cell_one_new _ _ _;have HO:=hid (HO.o.ae kk);have HU:=ζ (dE HU.o.1 kk) HU.o.2;refine hK.out _ _ (nD.o _ HO.o.bc) fun η=>?_;clear hK K
    try simp only[put,sA]
    clear kk;generalize w5.alloc (.cells #[.slice a5 C c5] 43)=V5 at lY HO HU η⊢;refine bH 10 (fun K hK=>?_);skip;have hO:=(HO.o.next.own);rw[ET] at hO;refine yX (by rfl) _ _ _ (by rfl) Wn.heap.size 43 iV (.slice none 0 0) 1 24 underlying99 hV wF wg wD (by rfl) (by decide) _ i ((range i).map ws) (by rfl) hO ⟨w5.heap.size,0,none⟩ 1 1 [.slice a5 C c5] (by rfl) (by rfl) lY.o (by intro u hu;simp at hu;subst hu;rfl) (by unfold maxLen;omega) (by omega) HO.o.bc.size ?_;intro v6 w6 an ag;obtain⟨a7,c7,rfl⟩:=cy an;have jT:=hid (HO.o.gY (u:=.slice a5 C c5) (vN':=.slice a7 (i+1) c7) HU.o.1 HU.o.2.1 HU.o.2.2 (ET D C l9 i) an ag);have h9:=(HO.o.st.af HO.o.next.own (by decide) ag);have z2:w6.cell? ⟨b4,256,none⟩=some (.slice aN i cN):=(by rw[h9.at_,ri]);have z3:w6.frozen? ⟨b4,256,none⟩=false:=h9.bE 256;have eJ:=(gu HO.o.bc HO.o.next.own HO.o.bc.size ag);clear an ag h9 hO;refine hK.out _ _ (nD.o _ eJ) fun η=>?_;clear hK K
    rotate_left
    skip;go_simp;have kk:=al w5 (.cells #[.slice a5 C c5] 43);have lY:Hid (∀j u,[Value.slice a5 C c5][j]?=some u->(w5.alloc (.cells #[.slice a5 C c5] 43)).cell? ((⟨w5.heap.size,0,none⟩:Addr).add j)=some u):=cell_one_new _ _ _;have HO:=hid (HO.o.ae kk);have HU:=ζ (dE HU.o.1 kk) HU.o.2;refine hK.out _ _ (nD.o _ HO.o.bc) fun η=>?_;clear hK K
    try simp only[put,sA]
    clear kk;generalize w5.alloc (.cells #[.slice a5 C c5] 43)=V5 at lY HO HU η⊢;refine bH 1 (fun K hK=>?_);skip;have f1:=HO.o.f1;go_simp;refine hK.out _ _ (η) fun η=>?_;clear hK K
    try simp only[put,sA]
    clear f1;refine bH 10 (fun K hK=>?_);skip;have hO:=(HO.o.next.own);rw[ET] at hO;refine yX (by rfl) _ _ _ (by rfl) Wn.heap.size 43 iV (.slice none 0 0) 1 24 underlying99 hV wF wg wD (by rfl) (by decide) _ i ((range i).map ws) (by rfl) hO ⟨w5.heap.size,0,none⟩ 1 1 [.slice a5 C c5] (by rfl) (by rfl) lY.o (by intro u hu;simp at hu;subst hu;rfl) (by unfold maxLen;omega) (by omega) HO.o.bc.size ?_;intro v6 w6 an ag;obtain⟨a7,c7,rfl⟩:=cy an;have jT:=hid (HO.o.gY (u:=.slice a5 C c5) (vN':=.slice a7 (i+1) c7) HU.o.1 HU.o.2.1 HU.o.2.2 (ET D C l9 i) an ag);have h9:=(HO.o.st.af HO.o.next.own (by decide) ag);have z2:w6.cell? ⟨b4,256,none⟩=some (.slice aN i cN):=(by rw[h9.at_,ri]);have z3:w6.frozen? ⟨b4,256,none⟩=false:=h9.bE 256;have eJ:=(gu HO.o.bc HO.o.next.own HO.o.bc.size ag);clear an ag h9 hO;refine hK.out _ _ (nD.o _ eJ) fun η=>?_;clear hK K
    rotate_left
    all_goals
     try simp only[put,sA]
     (refine ay 11 ?_;try simp only[put,sA])
     refine bH 12 (fun K hK=>?_);skip;go_simp;refine hK.out _ _ (nD.o _ jT.o.bc) fun η=>?_;clear hK K
     try simp only[put,sA]
     refine wpAnyH_done (by kernel_rfl) ?_ _;rw[<-FG.o] at jT;clear η z2 z3 eJ;go_wp2;go_roundw
     ·exact⟨i+1,_,a7,a9,c7,c9,by go_num,by omega,jT⟩
     simp[intOf];omega
 obtain rfl:i=j:=by omega
 have jB:=hid HT.o.st;have gq:=hid (HN.o.2.1.ae HT.o.bc);have hd:=nP D.K (.slice aN i cN) (.slice aK i cK);have GG:Hid (w.heap.size<=Wn.heap.size):=by have h1:=HN.o.2.2.2.2;have h2:=Hb.o.1;show _<=_;omega
 have CP:Hid (Below w.heap.size w (wr.setRow b2 (dH D.K (.slice aN i cN) (.slice aK i cK)))):=by
  rw[Hb.o.1];exact nY (HN.o.2.2.1.trans (HT.o.bc.mono HN.o.2.2.2.2)) (by have:=Hb.o;omega) _
 have HF:Hid (EK D C i (kD D l9) (fun i=>D.q (l9.getD i 0)) w (.returned (.agg (dH D.K (.slice aN i cN) (.slice aK i cK)))) (wr.setRow b2 (dH D.K (.slice aN i cN) (.slice aK i cK)))):=
  HT.o.TE HB.o.1.dm.kl (ET D C l9 i) (fun r hr=>by unfold ru at hr;obtain⟨j,_,rfl⟩:=List.mem_map.1 hr;simp) rfl (fun j hj c hc=>by unfold ru;simp[getD_eq_getElem?_getD,hj,hc]) GG.o (Or.inr ⟨b2,_,_,gq.o,rfl⟩) CP.o
 go_wp2_with (first|(refine tH rfl 101 _ rfl ⟨b4,0,none⟩ rfl (dH D.K (.slice aN i cN) (.slice aK i cK)) _ jB.o.part underlying101 rfl (by rw[iN,hd]) ?_)|(refine qD rfl 101 _ _ rfl b2 101 (zC 101) (dH D.K (.slice aN i cN) (.slice aK i cK)) rfl rfl gq.o (by rw[kr,hd]) (by rw[iN,hd]) (yZ _ _ _ _ _ _ _) ?_));refine bodyPost_ret (results_cell_row rfl _ _ b2 101 (dH D.K (.slice aN i cN) (.slice aK i cK)) (0,0) _ rfl gq.o.setRow underlying101 rfl (by rw[iN,hd])) rfl ?_;exact HF.o
def wv(D:Dd)(C n':Nat)(Gh:Nat->Nat->Int)(q':Nat->Int)(D':Dd):Prop:=
 D'.K=D.K/\D'.n=n'/\D'.m=n'/\(∀i,i<n'->D'.len i=C)/\(∀i,i<n'->∀c,c<C->D'.nx i c=Gh i c)/\∀i,i<n'->D'.q i=q' i
theorem wv.ld(hR:DR D C)(h:wv D C D.n (qh D) D.q D1):DR D1 C:=by
 obtain⟨e1,e2,e3,e4,e5,e6⟩:=h;refine⟨by rw[e1];exact hR.c,by rw[e2];exact hR.n1,by rw[e2];exact hR.n2,by rw[e3,e2],fun c hc=>by rw[e1];exact hR.LY c hc,fun i hi=>e4 i (by omega),fun i hi=>by rw[e6 i (by omega)];exact hR.q i (by omega),fun i c hi hc=>?_⟩;rw[e5 i (by omega) c hc,e2];have:=hR.nx i c (by omega) hc;unfold qh;split <;> omega
theorem AE.of{x y:Nat}(he:Ed D x y)(h:AE D y):AE D x:=by
 obtain⟨k,h1,h2⟩:=h;exact⟨k,nV.head (B:=fun _=>True) he h1,h2⟩
theorem wL(D:Dd)(b:Nat):dW D (-1) b=-1:=by unfold dW;rw[if_neg (by omega)]
theorem Nh(hR:DR D C)(fW:(dN (aQ D.len D.nx) [0] k).length=k)(i c:Nat)(hi:i<k)(hc:c<C):
  (dN (aQ D.len D.nx) [0] k).getD i 0<D.n/\((D.nx ((dN (aQ D.len D.nx) [0] k).getD i 0) c=-1/\kD D (dN (aQ D.len D.nx) [0] k) i c=-1)\/
   ∃j,j<k/\kD D (dN (aQ D.len D.nx) [0] k) i c=((j:Nat):Int)/\D.nx ((dN (aQ D.len D.nx) [0] k).getD i 0) c=(((dN (aQ D.len D.nx) [0] k).getD j 0:Nat):Int)):=by
 have eR:=Uq (aQ D.len D.nx) [0] k i hi;have kj:=Yz hR k;generalize dN (aQ D.len D.nx) [0] k=l at fW eR kj⊢;have tV:i<l.length:=by omega
 have hx:l.getD i 0=l[i]:=by simp[getD_eq_getElem?_getD,tV]
 have kE:l[i]<D.n:=kj _ (getElem_mem tV);unfold kD Tq;rw[hx];refine⟨kE,?_⟩;have hb:=hR.nx l[i] c kE hc;by_cases h1:D.nx l[i] c=-1
 ·exact Or.inl ⟨h1,by rw[if_pos h1]⟩
 rw[if_neg h1];right;have hm:(D.nx l[i] c).toNat∈l:=by
  refine eR tV _ ?_;unfold WE aQ;exact List.mem_map.2 ⟨c,by rw[List.mem_range,hR.len _ kE];exact hc,by omega⟩
 have aq:=List.idxOf_lt_length_iff.2 hm;refine⟨l.idxOf (D.nx l[i] c).toNat,by omega,rfl,?_⟩;have h2:l.getD (l.idxOf (D.nx l[i] c).toNat) 0=(D.nx l[i] c).toNat:=by
  rw[getD_eq_getElem?_getD,List.getElem?_eq_getElem aq,List.getElem_idxOf];rfl
 rw[h2];omega
theorem Vg(fW:(dN (aQ D.len D.nx) [0] k).length=k):1<=k/\(dN (aQ D.len D.nx) [0] k).getD 0 0=0:=by
 obtain⟨t,ht⟩:=Tv (aQ D.len D.nx) [0] k;generalize dN (aQ D.len D.nx) [0] k=l at fW ht⊢;subst ht;refine⟨?_,rfl⟩;simp at fW;omega
theorem wv.qs(hR:DR D C)(fW:(dN (aQ D.len D.nx) [0] k).length=k)(uS:k<=D.n)(h:wv D C k (kD D (dN (aQ D.len D.nx) [0] k)) (fun i=>D.q ((dN (aQ D.len D.nx) [0] k).getD i 0)) D1):DR D1 C:=by
 obtain⟨e1,e2,e3,e4,e5,e6⟩:=h;have h1:=(Vg fW).1;have dd:=hR.n2;have TI:0<C:=by have:=hR.c.1 0 (by omega);omega
 refine⟨by rw[e1];exact hR.c,by omega,by omega,by rw[e3,e2],fun c hc=>by rw[e1];exact hR.LY c hc,fun i hi=>e4 i (by omega),fun i hi=>?_,fun i c hi hc=>?_⟩
 ·rw[e6 i (by omega)];exact hR.q _ (Nh hR fW i 0 (by omega) TI).1
 rw[e5 i (by omega) c hc,e2];rcases (Nh hR fW i c (by omega) hc).2 with ⟨_,h2⟩|⟨j,hj,h2,_⟩
 ·rw[h2];omega
 rw[h2];omega
