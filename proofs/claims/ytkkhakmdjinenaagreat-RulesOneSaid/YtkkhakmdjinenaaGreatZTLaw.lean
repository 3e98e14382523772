import Derived.Test.YtkkhakmdjinenaaGreatZTTrim
import Derived.ChangeKeysEq
set_option linter.all false
set_option maxHeartbeats 8000000
set_option maxRecDepth 100000
open Go.Lib (hid)
namespace Go.Proofs.YtkkhakmdjinenaaGreat
open Go.ChangeShapes Go.WideShapes Go.ChangeAt Go.RowKit Go.Deep Go.Proofs.Tryz
open Go.Maps Go.WideElems Go.ChangeMaps Go.MapKept
open Act (put)
open List (getD_eq_getElem?_getD getElem_mem range)
open Nat (le_refl)
def bK(D:Dd)(st:Int)(b:Nat):Int:=if 0<=st/\st<(D.n:Int) then D.nx st.toNat (D.K b) else -1
def bB(D:Dd)(st:Int)(z:Nat->Nat):Nat->Int
 | 0=>st
 | k+1=>bK D (bB D st z k) (z k)
def bp(D:Dd)(st:Int):Int:=if 0<=st/\st<(D.n:Int) then D.q st.toNat else -1
theorem Xy(D:Dd)(st:Int)(z:Nat->Nat){k:Nat}(h:bB D st z k=-1):∀m,k<=m->bB D st z m=-1:=by
 intro m hm
 induction m with
 | zero=>rw[show k=0 by omega] at h;exact h
 | succ m ih=>
  by_cases e:k=m+1
  ·rw[<-e];exact h
  show bK D (bB D st z m) (z m)=-1;rw[ih (by omega)];unfold bK;rw[if_neg (by omega)]
theorem zmq(D:Dd)(C:Nat)(hR:DR D C)(st:Int)(b:Nat)(hb:b<256)(w:World)(hD:DM w D):
  Calls prog 131 #[.agg D.cD,.int .i64 st,.int .u8 (b:Int)] w fun e w'=>e=.returned (.int .i64 (bK D st b))/\Below w.heap.size w w':=by
 have HB:=hid (Zz (bz.new hD) (Zz (al w (.cells D.cD 29)) hR));have cU:=hR.n2;have tX:=(hR.iq hD.kl).2;clear hD hR;go_in;go_upto_region 1 with fail;generalize w.alloc (.cells D.cD 29)=W0 at HB⊢;obtain⟨b0,ay⟩:∃b0,w.heap.size=b0:=⟨_,rfl⟩
 have bW:=hid ay;rw[ay] at HB;rw[ay];clear ay;have k0:=HB.out.1.f0 b hb;have hkl:=HB.out.1.dm.kl b hb;have BW:=HB.out.2.2.c.1 b hb;have i0:(b:Int)<256:=by omega
 have mW:=hid (Jd D st W0 HB.out.1.dm);obtain⟨kb,Et⟩:∃kb,D.K b=kb:=⟨_,rfl⟩
 have N7:=hid Et;rw[Et] at k0 hkl BW;clear Et;go_wp2_with (refine jr (by rfl) 29 _ rfl ⟨b0,0,none⟩ rfl D.cD _ HB.out.1.st.part underlying29 rfl HB.out.1.dm.info ?_);refine mW.out.mono ?_;rintro e w2 ⟨rfl,b2⟩;have jX:=hid (HB.out.1.ab b2);have HF:Hid (Below w.heap.size w w2):=by
  rw[bW.out];exact HB.out.2.1.trans (b2.mono (by have:=HB.out.2.1.size;have:=bW.out;omega))
 clear b2 mW k0;by_cases hs:0<=st/\st<(D.n:Int)
 ·obtain⟨s,rfl⟩:∃s:Nat,st=(s:Int):=⟨st.toNat,by omega⟩
  have oj:s<D.n:=by omega
  have HZ:Hid (decide (0<=(s:Int)/\(s:Int)<(D.n:Int))=true):=by show _=_;simp;omega
  have HV:Hid (bK D (s:Int) b=D.nx s kb):=by
   show _=_;unfold bK;rw[if_pos hs,N7.out];rfl
  have f1:=jX.out.f1;obtain⟨gN,oN,eN,km,cN,zN⟩:=jX.out.dm.row s oj;rw[HB.out.2.2.len s oj] at cN zN;rw[eN] at f1;obtain⟨gA,oA,eA,_,lC⟩:=zN (by omega);have cA:=lC kb BW;rw[eA] at cN;have i1:(kb:Int)<C:=by omega
  have i2:(s:Int)<(D.n:Int):=by omega
  have i3:¬((C:Int)<=kb):=by omega
  rw[HZ.out];have wF:=hid eN;have Ib:=hid eA;clear eN eA lC zN hs km;generalize D.nx s kb=r at cA HV;go_wp2;go_ret;exact⟨by rw[HV.out];first|rfl|simp,HF.out⟩
 have HZ:Hid (decide (0<=st/\st<(D.n:Int))=false):=by show _=_;simp;omega
 have HV:Hid (bK D st b=-1):=by
  show _=_;unfold bK;rw[if_neg hs]
 rw[HZ.out];clear hs;go_wp2;go_ret;exact⟨by rw[HV.out];first|rfl|simp,HF.out⟩
theorem ZU(D:Dd)(C:Nat)(hR:DR D C)(st:Int)(w:World)(hD:DM w D):
  Calls prog 59 #[.agg D.cD,.int .i64 st] w fun e w'=>e=.returned (.int .i64 (bp D st))/\Below w.heap.size w w':=by
 have HB:=hid (Zz (bz.new hD) (Zz (al w (.cells D.cD 29)) hR));have cU:=hR.n2;have iX:=hR.m;clear hD hR;go_in;go_upto_region 1 with fail;generalize w.alloc (.cells D.cD 29)=W0 at HB⊢;obtain⟨b0,ay⟩:∃b0,w.heap.size=b0:=⟨_,rfl⟩
 have bW:=hid ay;rw[ay] at HB;rw[ay];clear ay;have mW:=hid (Jd D st W0 HB.out.1.dm);go_wp2_with (refine jr (by rfl) 29 _ rfl ⟨b0,0,none⟩ rfl D.cD _ HB.out.1.st.part underlying29 rfl HB.out.1.dm.info ?_);refine mW.out.mono ?_;rintro e w2 ⟨rfl,b2⟩;have jX:=hid (HB.out.1.ab b2);have HF:Hid (Below w.heap.size w w2):=by
  rw[bW.out];exact HB.out.2.1.trans (b2.mono (by have:=HB.out.2.1.size;have:=bW.out;omega))
 clear b2 mW;by_cases hs:0<=st/\st<(D.n:Int)
 ·obtain⟨s,rfl⟩:∃s:Nat,st=(s:Int):=⟨st.toNat,by omega⟩
  have oj:s<D.n:=by omega
  have HZ:Hid (decide (0<=(s:Int)/\(s:Int)<(D.n:Int))=true):=by show _=_;simp;omega
  have HV:Hid (bp D (s:Int)=D.q s):=by
   show _=_;unfold bp;rw[if_pos hs];rfl
  have f2:=jX.out.f2;obtain⟨gM,oM,eM,_,ly⟩:=jX.out.dm.rM (by omega);have cM:=ly s (by omega);rw[eM,iX] at f2;have i2:(s:Int)<(D.n:Int):=by omega
  have i3:¬((D.n:Int)<=(s:Int)):=by omega
  rw[HZ.out];have Nf:=hid eM;clear eM ly hs iX;generalize D.q s=r at cM HV;go_wp2;go_ret;exact⟨by rw[HV.out];first|rfl|simp,HF.out⟩
 have HZ:Hid (decide (0<=st/\st<(D.n:Int))=false):=by show _=_;simp;omega
 have HV:Hid (bp D st=-1):=by
  show _=_;unfold bp;rw[if_neg hs]
 rw[HZ.out];clear hs iX;go_wp2;go_ret;exact⟨by rw[HV.out];first|rfl|simp,HF.out⟩
theorem zn4(D:Dd)(C:Nat)(hR:DR D C)(st:Int)(s:ByteArray)(m:Nat)(hs:s.size=m)(hm:m<=1000000)(w:World)(hD:DM w D):
  Calls prog 98 #[.agg D.cD,.int .i64 st,.string s] w fun e w'=>e=.returned (.int .i64 (bB D st (fw s) m))/\Below w.heap.size w w':=by
 have HB:=hid (Zz (bz.new hD) (Zz (al w (.cells D.cD 29)) hR));have zP:=hs;have HS:=hid hs;clear hD hR hs;go_in;go_upto_region 1 with fail;generalize w.alloc (.cells D.cD 29)=W0 at HB⊢;obtain⟨b0,ay⟩:∃b0,w.heap.size=b0:=⟨_,rfl⟩
 have bW:=hid ay;rw[ay] at HB;rw[ay];clear ay;go_wp2;go_loopw [1,7,10] (fun v1 _ v wr=>∃(k:Nat),v=.int .i64 k/\k<=m/\v1=.int .i64 (bB D st (fw s) k)/\Hid (Below W0.heap.size W0 wr)) (fun _ _ v _=>m-(intOf v).toNat)
 ·exact⟨0,rfl,by omega,rfl,Below.refl _ _⟩
 obtain⟨k,rfl,hk,rfl,HX⟩:=hrel;have oB:Hid (∀W',Below W0.heap.size W0 W'->Below w.heap.size w W'):=fun W' h=>by
  rw[bW.out];exact HB.out.2.1.trans (h.mono (by have:=HB.out.2.1.size;have:=bW.out;omega))
 have VH:Hid (bB D st (fw s) k=-1->bB D st (fw s) m=-1):=fun h=>Xy D st _ h m hk
 by_cases aq:k<m
 ·have qh:k<s.size:=by rw[zP];exact aq
  obtain⟨bt,qE⟩:∃bt,(s[k]'qh).toNat=bt:=⟨_,rfl⟩
  have ub:=M3 s k qh;rw[qE] at ub;have kc:bt<256:=by rw[ub];exact vy s k
  have ee:Hid (bB D st (fw s) (k+1)=bK D (bB D st (fw s) k) bt):=by show bK D (bB D st (fw s) k) (fw s k)=_;rw[<-ub]
  have HDs:Hid (bB D st (fw s) (k+1)=-1->bB D st (fw s) m=-1):=fun h=>Xy D st _ h m (by omega)
  have i1:(k:Int)<m:=by omega
  generalize bB D st (fw s) k=a at ee VH⊢;have dc:Hid (∀W',Below W0.heap.size W0 W'->Below W0.heap.size W0 W'/\bz W' b0 D):=fun W' h=>⟨h,HB.out.1.ab h⟩
  clear ub;go_upto_region 4 with fail;refine wp_region_held_drew (S:=fun W'=>Below W0.heap.size W0 W'/\bz W' b0 D) (by kernel_rfl) (dc.out _ HX.out.drew) (fun hHeld=>?_)
  (refine an 0 (v:=.agg D.cD) ?_ (hy:=by intro wz hSw;exact pt (o:=_) (ρ:=_) wz 29 (.tmp 3) rfl ⟨b0,0,none⟩ rfl D.cD _ (bz.st (And.right hSw)).part underlying29 rfl (bz.dm (And.right hSw)).info))
  (refine an 1 ?_;refine an 2 ?_;refine an 3 ?_;try simp only[put,sA];refine an 4 ?_;try simp only[put,sA])
  refine bf 5 (fun K hK=>?_);skip;go_simp;go_at_call 131;refine (zmq D C HB.out.2.2 a bt kc _ hHeld.2.dm).mono ?_;rintro e wj ⟨rfl,vj⟩;have bD:Below W0.heap.size W0 wj:=hHeld.1.trans (vj.mono hHeld.1.size);clear vj
  try go_wp2_with fail
  refine hK.out _ _ (dc.out _ bD) fun hHeld=>?_;clear hK K
  try simp only[put,sA]
  (refine an 6 ?_;try simp only[put,sA])
  refine wpAnyH_done (by kernel_rfl) ?_ _;have qb:=hid bD;clear hHeld bD;rw[<-ee.out];have HF:=hid (oB.out _ qb.out);by_cases hd:bB D st (fw s) (k+1)=-1
  ·have HV:=hid (HDs.out hd);rw[hd];go_wp2;go_ret;exact⟨by rw[HV.out];first|rfl|simp,HF.out⟩
  have RJ:Hid (bB D st (fw s) (k+1)=bB D st (fw s) (k+1)):=rfl;obtain⟨r,hr⟩:∃r,bB D st (fw s) (k+1)=r:=⟨_,rfl⟩
  have Hr:=hid hr;rw[hr] at hd;rw[hr];clear hr RJ ee;go_wp2;go_roundw
  ·exact⟨k+1,by go_num,by omega,by rw[Hr.out],qb⟩
  simp[intOf];omega
 obtain rfl:k=m:=by omega
 have HF:=hid (oB.out wr HX.out);clear VH;go_wp2;go_ret;exact⟨rfl,HF.out⟩
theorem zn5(D:Dd)(C:Nat)(hR:DR D C)(s:ByteArray)(m:Nat)(hs:s.size=m)(hm:m<=1000000)(w:World)(hD:DM w D):
  Calls prog 63 #[.agg D.cD,.string s] w fun e w'=>e=.returned (.int .i64 (bp D (bB D 0 (fw s) m)))/\Below w.heap.size w w':=by
 have HB:=hid (Zz (bz.new hD) (Zz (al w (.cells D.cD 29)) (Zz hR hs)));clear hD hR hs;go_in;go_upto_region 1 with fail;generalize w.alloc (.cells D.cD 29)=W0 at HB⊢;obtain⟨b0,ay⟩:∃b0,w.heap.size=b0:=⟨_,rfl⟩
 have bW:=hid ay;rw[ay] at HB;rw[ay];clear ay;have oB:Hid (∀W',Below W0.heap.size W0 W'->Below w.heap.size w W'):=fun W' h=>by
  rw[bW.out];exact HB.out.2.1.trans (h.mono (by have:=HB.out.2.1.size;have:=bW.out;omega))
 have dc:Hid (∀W',Below W0.heap.size W0 W'->Below W0.heap.size W0 W'/\bz W' b0 D):=fun W' h=>⟨h,HB.out.1.ab h⟩
 refine wp_region_held_drew (S:=fun W'=>Below W0.heap.size W0 W'/\bz W' b0 D) (by kernel_rfl) (dc.out _ (Below.refl _ _).drew) (fun hHeld=>?_)
 (refine an 0 (v:=.agg D.cD) ?_ (hy:=by intro wz hSw;exact pt (o:=_) (ρ:=_) wz 29 (.tmp 2) rfl ⟨b0,0,none⟩ rfl D.cD _ (bz.st (And.right hSw)).part underlying29 rfl (bz.dm (And.right hSw)).info))
 (refine an 1 (v:=.agg D.cD) ?_ (hy:=by intro wz hSw;exact pt (o:=_) (ρ:=_) wz 29 (.tmp 2) rfl ⟨b0,0,none⟩ rfl D.cD _ (bz.st (And.right hSw)).part underlying29 rfl (bz.dm (And.right hSw)).info))
 (refine an 2 ?_;try simp only[put,sA])
 refine bf 3 (fun K hK=>?_);skip;go_simp;go_at_call 98;refine (zn4 D C HB.out.2.2.1 0 s m HB.out.2.2.2 hm _ hHeld.2.dm).mono ?_;rintro e wj ⟨rfl,vj⟩;have bD:Below W0.heap.size W0 wj:=hHeld.1.trans (vj.mono hHeld.1.size);clear vj
 try go_wp2_with fail
 refine hK.out _ _ (dc.out _ bD) fun hHeld=>?_;clear hK K
 try simp only[put,sA]
 clear bD;refine bf 4 (fun K hK=>?_);skip;go_simp;go_at_call 59;refine (ZU D C HB.out.2.2.1 (bB D 0 (fw s) m) _ hHeld.2.dm).mono ?_;rintro e wk ⟨rfl,vk⟩;have bD:Below W0.heap.size W0 wk:=hHeld.1.trans (vk.mono hHeld.1.size);clear vk
 try go_wp2_with fail
 refine hK.out _ _ (dc.out _ bD) fun hHeld=>?_;clear hK K
 try simp only[put,sA]
 (refine an 5 ?_;try simp only[put,sA])
 refine wpAnyH_done (by kernel_rfl) ?_ _;have HF:=hid (oB.out _ bD);clear hHeld bD;go_wp2;go_ret;exact⟨rfl,HF.out⟩
def AI(l:List Nat)(t:Int):Int:=if t=-1 then -1 else ((l.idxOf t.toNat:Nat):Int)
def iC(D:Dd)(l:List Nat)(i c:Nat):Int:=AI l (D.nx (l.getD i 0) c)
theorem zp3{l1 l2:List Nat}{x:Nat}(h:l1 <+: l2)(hx:x∈l1):l2.idxOf x=l1.idxOf x:=by
 obtain⟨t,rfl⟩:=h;rw[List.idxOf_append,if_pos hx]
theorem Mk{D:Dd}{C:Nat}(hR:DR D C)(i:Nat):∀x∈dw (av D.len D.nx) [0] i,x<D.n:=by
 have h0:=hR.n1
 induction i with
 | zero=>intro x hx;rw[List.mem_singleton.1 hx];omega
 | succ i ih=>
  intro x hx;have lu:x∈pr (av D.len D.nx) (dw (av D.len D.nx) [0] i) i:=hx;unfold pr at lu;split at lu
  ·rename_i h;rw[Pb] at lu;rcases lu with h1|h1
   ·exact ih x h1
   have hm:(dw (av D.len D.nx) [0] i).getD i 0∈dw (av D.len D.nx) [0] i:=by
    rw[show (dw (av D.len D.nx) [0] i).getD i 0=(dw (av D.len D.nx) [0] i)[i] by simp[getD_eq_getElem?_getD,h]];exact getElem_mem h
   have hs:=ih _ hm;generalize (dw (av D.len D.nx) [0] i).getD i 0=y at h1 hs;unfold av at h1;obtain⟨c,hc,e⟩:=List.mem_map.1 h1;have fp:c<D.len y:=List.mem_range.1 hc;exact hR.ed _ _ ⟨hs,c,fp,e⟩
  exact ih x lu
theorem Xt{D:Dd}{C:Nat}(hR:DR D C):∃k,(dw (av D.len D.nx) [0] k).length=k/\k<=D.n:=by
 have hb:∀i,(dw (av D.len D.nx) [0] i).length<=D.n:=fun i=>qC (M6 _ (by simp) i) (Mk hR i)
 have hp:∀i j,i<=j->(dw (av D.len D.nx) [0] i).length<=(dw (av D.len D.nx) [0] j).length:=fun i j h=>by
  induction j with
  | zero=>rw[show i=0 by omega];exact le_refl _
  | succ j ih=>
   by_cases e:i=j+1
   ·rw[e];exact le_refl _
   exact Nat.le_trans (ih (by omega)) (NK _ _ j).length_le
 have key:∀m,(∃k,k<=m/\(dw (av D.len D.nx) [0] k).length=k)\/m<(dw (av D.len D.nx) [0] m).length:=by
  intro m
  induction m with
  | zero=>exact Or.inr (by simp[dw])
  | succ m ih=>
   rcases ih with ⟨k,h1,h2⟩|h
   ·exact Or.inl ⟨k,by omega,h2⟩
   have:=hp m (m+1) (by omega);by_cases e:(dw (av D.len D.nx) [0] (m+1)).length=m+1
   ·exact Or.inl ⟨m+1,le_refl _,e⟩
   exact Or.inr (by omega)
 rcases key D.n with ⟨k,h1,h2⟩|h
 ·exact⟨k,h2,h1⟩
 have:=hb D.n;omega
theorem zqP{rows:Nat->List Int}{m:List Nat}{i k:Nat}(h:i<=k):dw rows m i <+: dw rows m k:=by
 induction k with
 | zero=>rw[show i=0 by omega];exact List.prefix_refl _
 | succ k ih=>
  by_cases e:i=k+1
  ·rw[e];exact List.prefix_refl _
  exact (ih (by omega)).trans (NK rows m k)
section
variable {W0 : World}{b4 C : Nat}{K : Nat → Nat}{vN : Value}{R : List (List Int)}{ws : Nat → Value}{vK : Value}{ms : List Int}{vL : Value}{l : List Nat}{w : World}
end
section
variable {W0 : World}{b4 C z : Nat}{K : Nat → Nat}{vN : Value}{R : List (List Int)}{ws : Nat → Value}{vK : Value}{ms : List Int}{vL vW : Value}{l : List Nat}{row : List Int}{w : World}
end
theorem Ke{P:Program}{ops:Array Oper}{o:Oper}{a:Act}{w:World}{K:Act->World->Prop}{Q:Exit->Act->World->Prop}{E:Prop}(ow:o.guard=none)(s x:Operand)(t:TypeId)
  (ho:o.op=.call { callee:=.builtin .append,args:=#[s,x],argTypes:=#[t,t] })
  (base:Nat) (e:TypeId) (i:TypeInfo) (z:Value) (size bytes:Nat) (ht:P.underlying t=some (.slice e)) (hi:P.info? e=some i) (hz:i.zero=some z)
  (qF:i.size=size) (Ir:i.bytes=bytes) (Jv:z.cells.size=size) (cZ:0<size)
  (v:Value) (n:Nat) (xs:List Value) (hs:a.eval s=v) (az:w.ownsRow base e size v n xs)
  (ad:Addr) (m c:Nat) (news:List Value) (hx:a.eval x=.slice (some ad) m c) (hl:news.length=m*size) (nG:∀j u,news[j]?=some u->w.cell? (ad.add j)=some u) (h1:∀u∈news,u.oneCell'=true)
  (Jj:n+m<=maxLen) (kL:(n+m)*bytes<=140737488355328) (ru:base<=w.heap.size)
  (h:∀v' w',w'.ownsRow base e size v' (n+m) (xs++news)->w.grownBy w' v.ownBlock->(v'.ownBlock=v.ownBlock\/v'.ownBlock=some w.heap.size)->K (a.put o.dst v') w'):
  if Region.wanted o (yielded ops a.tmps)=true then Oper.wp P o a w K Q else E:=by
 have hw:Region.wanted o (yielded ops a.tmps)=true:=by simp[Region.wanted,ow]
 rw[if_pos hw];obtain⟨v',w',hr,h2,h3,_,h5⟩:=run_append_own_at (P:=P) w base t o.type e i z size bytes ht hi hz qF Ir Jv cZ v n xs az ad m c news hl nG h1 Jj kL ru;unfold Oper.wp execOp;simp only[ho,resolve,invoke,builtin,Sem.run_bind,Sem.run_pure,Result.andThen_ok,List.map_toArray,List.map_cons,List.map_nil,hs,hx,hr];exact h v' w' h2 h3 h5
def qw(D:Dd)(C:Nat)(l:List Nat)(i:Nat):List (List Int):=(range i).map fun j=>(range C).map (iC D l j)
def sq(D:Dd)(l:List Nat)(i:Nat):List Int:=(range i).map fun j=>D.q (l.getD j 0)
theorem C4(D:Dd)(C:Nat)(l:List Nat)(i:Nat):(qw D C l i).length=i:=by simp[qw]
theorem L0(D:Dd)(l:List Nat)(i:Nat):(sq D l i).length=i:=by simp[sq]
theorem zn6(D:Dd)(C:Nat)(l:List Nat)(i:Nat):qw D C l (i+1)=qw D C l i++[(range C).map (iC D l i)]:=by
 unfold qw;rw[List.range_succ,List.map_append];rfl
theorem zn7(D:Dd)(l:List Nat)(i:Nat):sq D l (i+1)=sq D l i++[D.q (l.getD i 0)]:=by
 unfold sq;rw[List.range_succ,List.map_append];rfl
theorem WO:∀(args:Array Value) (W:World),(callFunc 74 args).run prog W=.ok (.enter 74 args) W:=fun _ _=>by rfl
def vH(f:Nat->Nat)(n:Nat):List Value:=(range n).map fun y=>Value.int .i64 ((f y:Nat):Int)
theorem zp4(f:Nat->Nat)(n x v:Nat):(vH f n).set x (.int .i64 (v:Int))=vH (fun y=>if y=x then v else f y) n:=by
 unfold vH;apply List.ext_getElem?;intro i;rw[List.getElem?_set];by_cases e:x=i
 ·subst e;by_cases h:x<n
  ·simp[h]
  simp[h]
 rw[if_neg e];by_cases h:i<n
 ·simp[h,Ne.symm e,show ¬i=x from fun h=>e h.symm]
 simp[h]
theorem zn8(n:Nat):List.replicate n (Value.int .i64 0)=vH (fun _=>0) n:=by
 unfold vH;apply List.ext_getElem?;intro i;by_cases h:i<n <;> simp[h]
theorem Vy(b5 n g:Nat)(f:Nat->Nat)(w:World)(hS:St w 27 b5 #[.slice (some ⟨g,0,none⟩) n n])(hc:∀x,x<n->w.cell? ⟨g,x,none⟩=some (.int .i64 ((f x:Nat):Int)))(x:Nat)(hx:x<n):
  Calls prog 74 #[.int .i64 (x:Int),.pointer (some ⟨b5,0,none⟩)] w fun e w'=>e=.returned (.int .i64 ((f x:Nat):Int))/\w'=w:=by
 have c0:w.cell? ⟨b5,0,none⟩=some (.slice (some ⟨g,0,none⟩) n n):=hS.at_ 0;have d0:=hc x hx;have i1:(x:Int)<n:=by omega
 clear hc;go_in;go_wp2;go_ret;exact⟨rfl,rfl⟩
theorem Zq(D:Dd)(C:Nat)(l:List Nat)(k:Nat)(hl:l=dw (av D.len D.nx) [0] k)(dE:l.length=k)(rV:k<=D.n)(w:World)(hD:DM w D)(hR:DR D C):
  Calls prog 41 #[.agg D.cD] w (B2 D C k (iC D l) (fun i=>D.q (l.getD i 0)) w):=by
 have CY:∀(fn:Fn) (first cap:Array Value) (w:World),(Instr.makeFunc fn first cap).run prog w=.ok (.func fn first cap) w:=fun _ _ _ _=>rfl
 have cU:=hR.n2;have da:=hR.n1;have iX:=hR.m;have tX:=(hR.iq hD.kl).2;have eR:=G8 D.n (by omega);have HB:=hid (Zz (bz.new hD) (Zz (al w (.cells D.cD 29)) hR));have HL:=hid (Zz hl dE);obtain⟨iI,hI,rW,r8,sh⟩:=info_parts aG;obtain⟨iV,hV,uJ,uY,ur⟩:=info_parts ez;clear hD hR hl dE;go_in;go_upto_region 1 with (refine nR rfl 29 rfl (zC 29) (lA _) ?_);simp only[put,List.setIfInBounds_toArray,List.set_cons_zero,List.set_cons_succ,GV];have H0:Hid (bz ((w.alloc (.cells D.cD 29)).alloc (.cells (zC 29) 29)) w.heap.size D/\St ((w.alloc (.cells D.cD 29)).alloc (.cells (zC 29) 29)) 29 (w.heap.size+1) (zC 29)/\Below w.heap.size w ((w.alloc (.cells D.cD 29)).alloc (.cells (zC 29) 29))):=by
  refine⟨HB.out.1.ab (al _ _),?_,HB.out.2.1.trans ((al _ _).mono (by simp))⟩;have:=St.new (w.alloc (.cells D.cD 29)) 29 (zC 29);simpa using this
 generalize (w.alloc (.cells D.cD 29)).alloc (.cells (zC 29) 29)=Wb at H0⊢;obtain⟨b2,cr⟩:∃b2,w.heap.size+1=b2:=⟨_,rfl⟩
 obtain⟨b0,ay⟩:∃b0,w.heap.size=b0:=⟨_,rfl⟩
 rw[cr,ay] at H0;rw[cr,ay];have Hb:=hid (Zz ay cr);clear cr ay;have rG:=hid (EO D C HB.out.2.2 Wb H0.out.1.dm);go_wp2_with (refine jr (by rfl) 29 _ rfl ⟨b0,0,none⟩ rfl D.cD _ H0.out.1.st.part underlying29 rfl H0.out.1.dm.info ?_);refine rG.out.mono ?_;rintro e wy ⟨rfl,rR⟩;have H1:Hid (bz wy b0 D/\St wy 29 b2 (zC 29)/\Below b0 w wy):=⟨H0.out.1.ab rR,H0.out.2.1.ab rR,H0.out.2.2.trans (rR.mono (by have:=H0.out.2.2.size;have:=Hb.out.1;omega))⟩
 have IJ:Hid (b0<=wy.heap.size):=by have h1:=H0.out.2.2.size;have h2:=rR.size;have h3:=Hb.out.1;show _<=_;omega
 have f1:=H1.out.1.f1;have k1:=al wy (.cells #[.int .i64 0] 3);have XJ:=hid (TG D.n D.cN D.aN D.A D.Cp D.len D.nx [0] (some ⟨wy.heap.size,0,none⟩) 1 1 (by omega) (fun i hi=>by rw[HB.out.2.2.len i hi];omega) (fun i c hi hc=>HB.out.2.2.nx i c hi (by rw[<-HB.out.2.2.len i hi];exact hc)) rfl (by simp) (fun x hx=>by rw[List.mem_singleton.1 hx];omega) (wy.alloc (.cells #[.int .i64 0] 3)) (H1.out.1.ab k1).dm.rN (sx (vV wy wy.heap.size 3 1 #[.int .i64 0] 1 rfl (le_refl _) (by decide)) rfl) (fun h=>by cases h) (fun ad h=>by injection h with h;rw[<-h]));have Sv:=hid k1;clear rR rG k1;go_wp2_with fail;refine XJ.out.mono ?_;rintro e w3 ⟨l9,i9,aL,cL,rfl,FV,yy,AV,_,iQ,b3⟩;have vq:l9=l/\i9=k:=by
  have h1:(dw (av D.len D.nx) [0] i9).length=i9:=by rw[<-yy];exact AV
  have h2:=zod (av D.len D.nx) [0] h1 (by rw[<-HL.out.1];exact HL.out.2:(dw (av D.len D.nx) [0] k).length=k);have h3:l9=l:=by rw[yy,h2,<-HL.out.1]
  exact⟨h3,by rw[<-AV,h3];exact HL.out.2⟩
 obtain⟨rfl,rfl⟩:=vq;have Sx:Hid (l9.Nodup/\(∀x∈l9,x<D.n)):=⟨by rw[HL.out.1];exact M6 _ (by simp) _,iQ⟩
 have H3:Hid (bz w3 b0 D/\St w3 29 b2 (zC 29)/\Below b0 w w3/\nA w3 aL l9):=by
  have k2:=Sv.out.trans (b3.mono Sv.out.size);exact⟨H1.out.1.ab k2,H1.out.2.1.ab k2,H1.out.2.2.trans (k2.mono IJ.out),sx FV AV⟩
 have Gg:Hid (b0<=w3.heap.size):=by have h1:=Sv.out.size;have h2:=b3.size;have h3:=IJ.out;show _<=_;omega
 clear FV yy AV iQ b3 XJ f1;have f1:=H3.out.1.f1;have HNu:Hid ((w3.alloc (.cells (madeCells #[.int .i64 0] D.n) 3)).ownsRow w3.heap.size 3 1 (.slice (some ⟨w3.heap.size,0,none⟩) D.n D.n) D.n (vH (fun _=>0) D.n)):=by
  have h:=C8 w3 w3.heap.size D.n 3 (.int .i64 0) (le_refl _) (by unfold maxLen;omega);rw[zn8] at h;exact h
 have k3:=al w3 (.cells (madeCells #[.int .i64 0] D.n) 3);go_upto_region 5 with fail;have k4:=al (w3.alloc (.cells (madeCells #[.int .i64 0] D.n) 3)) (.cells #[.slice (some ⟨w3.heap.size,0,none⟩) D.n D.n] 27);have oD:Hid (((w3.alloc (.cells (madeCells #[.int .i64 0] D.n) 3)).alloc (.cells #[.slice (some ⟨w3.heap.size,0,none⟩) D.n D.n] 27)).ownsRow w3.heap.size 3 1 (.slice (some ⟨w3.heap.size,0,none⟩) D.n D.n) D.n (vH (fun _=>0) D.n)/\St ((w3.alloc (.cells (madeCells #[.int .i64 0] D.n) 3)).alloc (.cells #[.slice (some ⟨w3.heap.size,0,none⟩) D.n D.n] 27)) 27 (w3.heap.size+1) #[.slice (some ⟨w3.heap.size,0,none⟩) D.n D.n]/\Below w3.heap.size w3 ((w3.alloc (.cells (madeCells #[.int .i64 0] D.n) 3)).alloc (.cells #[.slice (some ⟨w3.heap.size,0,none⟩) D.n D.n] 27))):=by
  refine⟨cY HNu.out k4,?_,k3.trans (k4.mono k3.size)⟩;have:=St.new (w3.alloc (.cells (madeCells #[.int .i64 0] D.n) 3)) 27 #[.slice (some ⟨w3.heap.size,0,none⟩) D.n D.n];simpa using this
 generalize (w3.alloc (.cells (madeCells #[.int .i64 0] D.n) 3)).alloc (.cells #[.slice (some ⟨w3.heap.size,0,none⟩) D.n D.n] 27)=W5 at oD⊢;obtain⟨b5,kt⟩:∃b5,w3.heap.size+1=b5:=⟨_,rfl⟩
 obtain⟨gU,Mb⟩:∃gU,w3.heap.size=gU:=⟨_,rfl⟩
 rw[kt,Mb] at oD;rw[kt,Mb];have HgU:=hid Mb;clear kt Mb k3 k4 HNu f1;obtain⟨gL,oL,rfl,D3,AZ⟩:=H3.out.2.2.2 (by
  have h:=(KU (av D.len D.nx) [0] i9).length_le
  rw[<-HL.out.1] at h
  exact h)
 have J2:=hid AZ;have PT:=hid D3;clear AZ D3;have NI:=hid HL.out.2;go_wp2;go_loopw [5,6,24] (fun _ _ v wr=>∃(j:Nat) (f:Nat->Nat),v=.int .i64 j/\j<=i9/\Hid (wr.ownsRow gU 3 1 (.slice (some ⟨gU,0,none⟩) D.n D.n) D.n (vH f D.n)/\St wr 27 b5 #[.slice (some ⟨gU,0,none⟩) D.n D.n]/\Below gU w3 wr/\∀j',j'<j->f (l9.getD j' 0)=j')) (fun _ _ v _=>i9-(intOf v).toNat)
 ·exact⟨0,_,rfl,by omega,⟨oD.out.1,oD.out.2.1,oD.out.2.2,fun j' h=>by omega⟩⟩
 clear oD;obtain⟨j,f,rfl,hj,HA⟩:=hrel;have kP:Below w3.heap.size w3 wr:=by rw[HgU.out];exact HA.out.2.2.1
 by_cases aq:j<i9
 ·have hjl:j<l9.length:=by rw[NI.out];exact aq
  have d0:=(kP.cell (p:=⟨gL,oL+j,none⟩) PT.out).trans (J2.out j hjl);have AX:l9.getD j 0=l9[j]:=by simp[getD_eq_getElem?_getD,hjl]
  have hY:l9.getD j 0<D.n:=by rw[AX];exact Sx.out.2 _ (getElem_mem hjl)
  have HS:Hid (∀j',j'<j+1->(fun y=>if y=l9.getD j 0 then j else f y) (l9.getD j' 0)=j'):=fun j' h=>by
   by_cases e:j'=j
   ·subst e;simp
   have h2:j'<l9.length:=(by omega);have hne:¬l9.getD j' 0=l9.getD j 0:=fun h3=>by
    exact e (Sd Sx.out.1 h2 hjl h3)
   simp only[if_neg hne];exact HA.out.2.2.2 j' (by omega)
  obtain⟨g9,e9,_,_,c9⟩:=ek HA.out.1 (by omega);obtain rfl:g9=gU:=by
   injection e9 with e9;injection e9 with e9 _;exact e9.symm
  have e5:wr.cell? ⟨b5,0,none⟩=some (.slice (some ⟨g9,0,none⟩) D.n D.n):=HA.out.2.1.at_ 0
  try dsimp only at d0
  clear AX;generalize l9.getD j 0=x at d0 hY HS;obtain⟨y0,y1⟩:=c9 x (by omega);have y2:(vH f D.n)[x]?=some (.int .i64 ((f x:Nat):Int)):=by simp[vH,hY]
  rw[y2] at y0;have HP:Hid ((wr.setCell ⟨g9,x,none⟩ (.int .i64 (j:Int))).ownsRow g9 3 1 (.slice (some ⟨g9,0,none⟩) D.n D.n) D.n (vH (fun y=>if y=x then j else f y) D.n)/\St (wr.setCell ⟨g9,x,none⟩ (.int .i64 (j:Int))) 27 b5 #[.slice (some ⟨g9,0,none⟩) D.n D.n]/\Below g9 w3 (wr.setCell ⟨g9,x,none⟩ (.int .i64 (j:Int)))):=by
   refine⟨?_,HA.out.2.1.fA (p:=⟨g9,x,none⟩) (fun h=>ew HA.out.1 HA.out.2.1 (by decide) g9 rfl h.symm) _,HA.out.2.2.1.setCell (p:=⟨g9,x,none⟩) (le_refl _) _⟩;have:=ua HA.out.1 x hY (.int .i64 (j:Int));rwa [zp4] at this
  have i1:(j:Int)<i9:=by omega
  have i2:(x:Int)<(D.n:Int):=by omega
  clear c9 e9 y2 kP;go_wp2;go_roundw
  ·exact⟨j+1,_,by go_num,by omega,⟨HP.out.1,HP.out.2.1,HP.out.2.2,HS.out⟩⟩
  simp[intOf];omega
 obtain rfl:j=i9:=by omega
 obtain⟨Wn,rfl⟩:∃Wn,Wn=wr:=⟨wr,rfl⟩
 have HN:Hid (bz Wn b0 D/\St Wn 29 b2 (zC 29)/\Below b0 w Wn/\St Wn 27 b5 #[.slice (some ⟨gU,0,none⟩) D.n D.n]/\b0<=Wn.heap.size):=⟨H3.out.1.ab kP,H3.out.2.1.ab kP,H3.out.2.2.1.trans (kP.mono Gg.out),HA.out.2.1,Nat.le_trans Gg.out kP.size⟩
 have sj:Hid (∀x,x<D.n->Wn.cell? ⟨gU,x,none⟩=some (.int .i64 ((f x:Nat):Int))):=fun x hx=>by
  obtain⟨g9,e9,_,_,c9⟩:=ek HA.out.1 (by omega);have e8:g9=gU:=by
   injection e9 with e9;injection e9 with e9 _;exact e9.symm
  subst e8;rw[(c9 x (by omega)).1];simp[vH,hx]
 have tF:Hid (∀x∈l9,f x=l9.idxOf x):=fun x hx=>by
  have h1:l9.idxOf x<l9.length:=List.idxOf_lt_length_iff.2 hx;have h2:=HA.out.2.2.2 (l9.idxOf x) (by have:=NI.out;omega);rw[show l9.getD (l9.idxOf x) 0=l9[l9.idxOf x] by simp[getD_eq_getElem?_getD,h1],List.getElem_idxOf h1] at h2;exact h2
 have B4:Hid (gL<Wn.heap.size/\gU<Wn.heap.size):=by
  refine⟨Nat.lt_of_lt_of_le PT.out kP.size,?_⟩;obtain⟨g9,e9,_,h9,_⟩:=ek HA.out.1 (by omega);injection e9 with e9;injection e9 with e9 _;rw[e9];exact h9
 have OQ:Hid (∀i,i<j->Wn.cell? ⟨gL,oL+i,none⟩=some (.int .i64 ((l9.getD i 0:Nat):Int))):=fun i hi=>(kP.cell (p:=⟨gL,oL+i,none⟩) PT.out).trans (J2.out i (by rw[NI.out];exact hi))
 clear HA kP;have jX:=hid HN.out.1;have k5:=al Wn (.cells (zC 29) 29);have gZ:St (Wn.alloc (.cells (zC 29) 29)) 29 Wn.heap.size (zC 29):=St.new _ _ _;have GB:iN Wn Wn.heap.size D.K C (.slice none 0 0) (qw D C l9 0) (fun _=>.slice none 0 0) (.slice none 0 0) (sq D l9 0) ((Wn.alloc (.cells (zC 29) 29)).setRow Wn.heap.size (dH D.K (.slice none 0 0) (.slice none 0 0))):=iN.start (V0:=Wn) (K:=D.K) (C:=C) (ws:=fun _=>.slice none 0 0) (a:=none) (c:=0) (ms:=[]) (World.ownsRow_nil _ _ _ _) rfl k5 gZ (le_refl _);have jZ:=hid GB;have jc:=hid gZ;clear k5 gZ GB;go_upto_region 11 with (first
  | (refine p6 rfl 25 _ rfl ⟨b0,0,none⟩ rfl (aQ D.K) (.array 256 5) jX.out.dG underlying25 rfl (vt D.K) ?_)
  | (refine AE rfl 29 _ rfl #[(0,.agg (aQ D.K))] (by first|rfl|kernel_rfl|(go_simp;done)) (.agg (dH D.K (.slice none 0 0) (.slice none 0 0))) (VZ D.K _) ?_)
  | (refine nR rfl 29 rfl (zC 29) (lA _) ?_)
  | (refine lJ rfl 29 _ _ rfl Wn.heap.size 29 (zC 29) (dH D.K (.slice none 0 0) (.slice none 0 0)) rfl rfl jc.out (by rw[gY,mV]) (by rw[fD,mV]) (xY _ _ _ _ _ _ _) ?_))
 simp only[put,sA];obtain⟨b4,fj⟩:∃b4,Wn.heap.size=b4:=⟨_,rfl⟩
 have ER:=hid fj;rw[fj] at jZ;rw[fj];generalize (Wn.alloc (.cells (zC 29) 29)).setRow b4 (dH D.K (.slice none 0 0) (.slice none 0 0))=W4 at jZ⊢;clear fj jc;have i4:j<=32768:=by omega
 go_wp2;go_loopw [9,39] (fun _ v wr=>∃(i:Nat) (ws:Nat->Value) (aN aK:Option Addr) (cN cK:Nat),v=.int .i64 i/\i<=j/\Hid (iN Wn b4 D.K C (.slice aN i cN) (qw D C l9 i) ws (.slice aK i cK) (sq D l9 i) wr)) (fun _ v _=>j-(intOf v).toNat)
 ·exact⟨0,_,none,none,0,0,rfl,by omega,jZ⟩
 clear jZ;obtain⟨i,ws,aN,aK,cN,cK,rfl,hi,HT⟩:=hrel;by_cases aq:i<j
 ·have tJ:i<l9.length:=by rw[NI.out];exact aq
  have d0:=(HT.out.aP.cell (p:=⟨gL,oL+i,none⟩) B4.out.1).trans (OQ.out i aq);have AX:l9.getD i 0=l9[i]:=by simp[getD_eq_getElem?_getD,tJ]
  have hY:l9.getD i 0<D.n:=by rw[AX];exact Sx.out.2 _ (getElem_mem tJ)
  have ui:Hid ((range C).map (oy (D.nx (l9.getD i 0)) (fun y=>((f y:Nat):Int)))=(range C).map (iC D l9 i)):=by
   show _=_;refine(List.map_congr_left fun c hc=>?_);have fp:c<C:=(by simpa using hc);have hb:=HB.out.2.2.nx (l9.getD i 0) c hY fp;unfold oy iC AI;by_cases h1:D.nx (l9.getD i 0) c=-1
   ·rw[if_pos h1,if_pos h1]
   rw[if_neg h1,if_neg h1];have hm:(D.nx (l9.getD i 0) c).toNat∈l9:=by
    have h2:=NL (av D.len D.nx) [0] j i aq (by rw[<-HL.out.1];exact tJ) (D.nx (l9.getD i 0) c).toNat (by
     unfold WE av
     have e7:(dw (av D.len D.nx) [0] j)[i]'(by rw[<-HL.out.1];exact tJ)=l9.getD i 0:=by
      rw[AX]
      congr 1
      exact HL.out.1.symm
     unfold av at e7
     rw[e7,HB.out.2.2.len _ hY]
     refine List.mem_map.2 ⟨c,by simpa using fp,?_⟩
     omega)
    rw[<-HL.out.1] at h2;exact h2
   dsimp only;rw[tF.out _ hm]
  have sW:Hid (sq D l9 (i+1)=sq D l9 i++[D.q (l9.getD i 0)]):=zn7 D l9 i;have D4:Hid (qw D C l9 (i+1)=qw D C l9 i++[(range C).map (iC D l9 i)]):=zn6 D C l9 i;have i1:(i:Int)<j:=by omega
  try dsimp only at d0
  clear AX tJ;generalize l9.getD i 0=x at d0 hY ui sW;have i2:(x:Int)<(D.n:Int):=by omega
  obtain⟨gM,oM,eM,pY,ly⟩:=HN.out.1.dm.rM (by omega);have nV:=HN.out.1.f2;rw[eM] at nV;have i3:(x:Int)<(D.m:Int):=by omega
  have JV:=ly x (by omega);have dc:Hid (∀W',Below Wn.heap.size Wn W'->Below Wn.heap.size Wn W'/\W'.cell? ⟨b0,257,none⟩=some (.slice (some ⟨gM,oM,none⟩) D.m D.cM)/\W'.cell? ⟨gM,oM+x,none⟩=some (.int .i64 (D.q x))):=fun W' h=>⟨h,(h.cell (p:=⟨b0,257,none⟩) HN.out.1.st.lt).trans nV,(h.cell (p:=⟨gM,oM+x,none⟩) pY).trans JV⟩
  clear eM pY ly nV JV;generalize D.q x=qx at dc sW;go_upto_region 14 with fail;clear d0
  go_cut [9] from 43 to 52 (fun v wx=>v=.int .i64 (x:Int)/\∃(a9:Option Addr) (c9:Nat),iN Wn b4 D.K C (.slice aN i cN) (qw D C l9 i) ws (.slice a9 (i+1) c9) (sq D l9 (i+1)) wx)
  case first=>
   refine wp_region_held_drew (S:=fun W'=>Below Wn.heap.size Wn W'/\W'.cell? ⟨b0,257,none⟩=some (.slice (some ⟨gM,oM,none⟩) D.m D.cM)/\W'.cell? ⟨gM,oM+x,none⟩=some (.int .i64 qx)) (by kernel_rfl) (dc.out _ HT.out.aP.drew) fun hHeld=>?_;have HO:Hid (iN Wn b4 D.K C (.slice aN i cN) (qw D C l9 i) ws (.slice aK i cK) (sq D l9 i) wr.drew):=HT.out.ab (Below.refl _ _).drew
   (refine an 0 ?_;refine an 2 ?_;refine an 3 ?_;try simp only[put,sA];refine an 4 ?_;refine an 5 ?_;refine an 6 ?_;try simp only[put,sA])
   refine wpAnyH_ready (rs:=[1,7]) (by kernel_rfl) (by simp) ?_;refine gG (fun K hK=>?_) ?_
   ·skip;have f2:=HO.out.f2;go_simp;refine hK.out _ _ (hHeld) fun hHeld=>?_;clear hK K
    try simp only[put,sA]
    clear f2;refine bf 7 (fun K hK=>?_);skip;go_simp;have kk:=al wr.drew (.cells #[.int .i64 qx] 3);have lW:Hid (∀j u,[Value.int .i64 qx][j]?=some u->((wr.alloc (.cells #[.int .i64 qx] 3)).drew).cell? ((⟨wr.heap.size,0,none⟩:Addr).add j)=some u):=cell_one_new wr.drew _ _;have HO:Hid (iN Wn b4 D.K C (.slice aN i cN) (qw D C l9 i) ws (.slice aK i cK) (sq D l9 i) ((wr.alloc (.cells #[.int .i64 qx] 3)).drew)):=HO.out.ab kk;refine hK.out _ _ (dc.out _ HO.out.aP) fun hHeld=>?_;clear hK K
    try simp only[put,sA]
    clear kk;generalize (wr.alloc (.cells #[.int .i64 qx] 3)).drew=V5 at lW HO hHeld⊢;refine bf 8 (fun K hK=>?_);skip;have hO:=HO.out.dt;rw[L0] at hO;refine Ke (by rfl) _ _ _ (by rfl) Wn.heap.size 3 iI (.int .i64 0) 1 8 underlying27 hI rW r8 sh (by rfl) (by decide) _ i (ints (sq D l9 i)) (by rfl) hO ⟨wr.heap.size,0,none⟩ 1 1 [.int .i64 qx] (by rfl) (by rfl) lW.out (by intro u hu;simp at hu;subst hu;rfl) (by unfold maxLen;omega) (by omega) HO.out.aP.size ?_;intro v6 w6 aj af dg;obtain⟨a9,c9,rfl⟩:=bP aj;have sJ:=hid (HO.out.mU (vK':=.slice a9 (i+1) c9) (L0 D l9 i) aj af dg);have h9:=HO.out.st.ae HO.out.dt (by decide) af;have z2:w6.cell? ⟨b4,257,none⟩=some (.slice aK i cK):=(by rw[h9.at_,yP]);have z3:w6.frozen? ⟨b4,257,none⟩=false:=h9.bb 257;have eI:=fG HO.out.aP HO.out.dt HO.out.aP.size af;clear aj af dg h9 hO;refine hK.out _ _ (dc.out _ eI) fun hHeld=>?_;clear hK K
    try simp only[put,sA]
    (refine an 9 ?_;try simp only[put,sA])
    refine bf 10 (fun K hK=>?_);skip;go_simp;refine hK.out _ _ (dc.out _ sJ.out.aP) fun hHeld=>?_;clear hK K
    try simp only[put,sA]
    refine wpAnyH_done (by kernel_rfl) ?_ _;rw[<-sW.out] at sJ;clear hHeld z2 z3 eI;go_wp2_with fail
    go_meet
    exact⟨rfl,a9,c9,sJ.out⟩
   refine gG (fun K hK=>?_) ?_
   ·skip;go_simp;have kk:=al wr.drew (.cells #[.int .i64 qx] 3);have lW:Hid (∀j u,[Value.int .i64 qx][j]?=some u->((wr.alloc (.cells #[.int .i64 qx] 3)).drew).cell? ((⟨wr.heap.size,0,none⟩:Addr).add j)=some u):=cell_one_new wr.drew _ _;have HO:Hid (iN Wn b4 D.K C (.slice aN i cN) (qw D C l9 i) ws (.slice aK i cK) (sq D l9 i) ((wr.alloc (.cells #[.int .i64 qx] 3)).drew)):=HO.out.ab kk;refine hK.out _ _ (dc.out _ HO.out.aP) fun hHeld=>?_;clear hK K
    try simp only[put,sA]
    clear kk;generalize (wr.alloc (.cells #[.int .i64 qx] 3)).drew=V5 at lW HO hHeld⊢;refine bf 1 (fun K hK=>?_);skip;have f2:=HO.out.f2;go_simp;refine hK.out _ _ (hHeld) fun hHeld=>?_;clear hK K
    try simp only[put,sA]
    clear f2;refine bf 8 (fun K hK=>?_);skip;have hO:=HO.out.dt;rw[L0] at hO;refine Ke (by rfl) _ _ _ (by rfl) Wn.heap.size 3 iI (.int .i64 0) 1 8 underlying27 hI rW r8 sh (by rfl) (by decide) _ i (ints (sq D l9 i)) (by rfl) hO ⟨wr.heap.size,0,none⟩ 1 1 [.int .i64 qx] (by rfl) (by rfl) lW.out (by intro u hu;simp at hu;subst hu;rfl) (by unfold maxLen;omega) (by omega) HO.out.aP.size ?_;intro v6 w6 aj af dg;obtain⟨a9,c9,rfl⟩:=bP aj;have sJ:=hid (HO.out.mU (vK':=.slice a9 (i+1) c9) (L0 D l9 i) aj af dg);have h9:=HO.out.st.ae HO.out.dt (by decide) af;have z2:w6.cell? ⟨b4,257,none⟩=some (.slice aK i cK):=(by rw[h9.at_,yP]);have z3:w6.frozen? ⟨b4,257,none⟩=false:=h9.bb 257;have eI:=fG HO.out.aP HO.out.dt HO.out.aP.size af;clear aj af dg h9 hO;refine hK.out _ _ (dc.out _ eI) fun hHeld=>?_;clear hK K
    try simp only[put,sA]
    (refine an 9 ?_;try simp only[put,sA])
    refine bf 10 (fun K hK=>?_);skip;go_simp;refine hK.out _ _ (dc.out _ sJ.out.aP) fun hHeld=>?_;clear hK K
    try simp only[put,sA]
    refine wpAnyH_done (by kernel_rfl) ?_ _;rw[<-sW.out] at sJ;clear hHeld z2 z3 eI;go_wp2_with fail
    go_meet
    exact⟨rfl,a9,c9,sJ.out⟩
   exact AllReadyH.nil
  case rest=>
   obtain⟨rfl,a9,c9,Yb⟩:=hcut;have Wd:=hid Yb;clear Yb HT;obtain⟨gN,oN,eN,km,pC⟩:=HN.out.1.dm.rN (by omega);have FQ:=HN.out.1.f1;rw[eN] at FQ;obtain⟨qB,zN⟩:=pC x hY;have hlen:=HB.out.2.2.len x hY;rw[hlen] at qB zN;have xo:=hid zN;have mF:Hid (∀W',Below Wn.heap.size Wn W'->Below Wn.heap.size Wn W'/\W'.cell? ⟨b0,256,none⟩=some (.slice (some ⟨gN,oN,none⟩) D.n D.cN)/\W'.cell? ⟨gN,oN+x,none⟩=some (.slice (D.A x) C (D.Cp x))):=(fun W' h=>⟨h,(h.cell (p:=⟨b0,256,none⟩) HN.out.1.st.lt).trans FQ,(h.cell (p:=⟨gN,oN+x,none⟩) km).trans qB⟩);clear eN km pC FQ qB zN hlen dc;go_upto_region 15 with fail;refine wp_region_held_drew (S:=fun W'=>Below Wn.heap.size Wn W'/\W'.cell? ⟨b0,256,none⟩=some (.slice (some ⟨gN,oN,none⟩) D.n D.cN)/\W'.cell? ⟨gN,oN+x,none⟩=some (.slice (D.A x) C (D.Cp x))) (by kernel_rfl) (mF.out _ Wd.out.aP.drew) fun hHeld=>?_;have HO:Hid (iN Wn b4 D.K C (.slice aN i cN) (qw D C l9 i) ws (.slice a9 (i+1) c9) (sq D l9 (i+1)) wc.drew):=Wd.out.ab (Below.refl _ _).drew
   (refine an 0 ?_;refine an 2 ?_;refine an 3 ?_;try simp only[put,sA];refine an 4 ?_;refine an 5 ?_;refine an 6 ?_;try simp only[put,sA];refine an 7 ?_;try simp only[put,sA])
   refine wpAnyH_ready (rs:=[1,8]) (by kernel_rfl) (by simp) ?_;refine gG (fun K hK=>?_) ?_
   ·skip;have f1:=HO.out.f1;go_simp;refine hK.out _ _ (hHeld) fun hHeld=>?_;clear hK K
    try simp only[put,sA]
    clear f1;refine bf 8 (fun K hK=>?_);skip;have iQ:=(HO.out.next.lt).2;have jE:=lE HO.out.dt;go_simp;go_at_call 73;refine (Mh 74 b5 D.n (fun y=>((f y:Nat):Int)) C (D.Cp x) (D.A x) (D.nx x) _ WO (fun W' h y hy=>Vy b5 D.n gU f W' ((HN.out.2.2.2.1.ab HO.out.aP).ab h) (fun z hz=>((HO.out.aP.trans (h.mono HO.out.aP.size)).cell (p:=⟨gU,z,none⟩) B4.out.2).trans (sj.out z hz)) y hy) (by omega) (xo.out.below HO.out.aP) (fun c hc=>HB.out.2.2.nx x c hY hc) (by omega)).mono ?_;rintro e w5 ⟨a5,c5,rfl,jk,Au⟩;have HU:Hid (w5.ownsRow Wn.heap.size 3 1 (.slice a5 C c5) C (ints ((range C).map (iC D l9 i)))/\(∀j,j<(qw D C l9 i).length->∀b,(ws j).ownBlock=some b->(Value.slice a5 C c5).ownBlock≠some b)/\∀b,(Value.slice a5 C c5).ownBlock=some b->(Value.slice a9 (i+1) c9).ownBlock≠some b):=by
     have jD:=kD jk;refine⟨?_,fun j hj b e1 e2=>?_,fun b e1 e2=>?_⟩
     ·rw[<-ui.out];exact ga jk HO.out.aP.size
     ·have h1:=iQ j hj b e1;have h2:=jD b e2
      try simp only[kU] at h1
      try simp only[kU] at h2
      omega
     have h1:=jE b e2;have h2:=jD b e1
     try simp only[kU] at h1
     try simp only[kU] at h2
     omega
    have HO:=hid (HO.out.ab Au);clear jk Au iQ jE
    try go_wp2_with fail
    refine hK.out _ _ (mF.out _ HO.out.aP) fun hHeld=>?_;clear hK K
    try simp only[put,sA]
    refine bf 9 (fun K hK=>?_);skip;go_simp;have kk:=al w5 (.cells #[.slice a5 C c5] 27);have lW:Hid (∀j u,[Value.slice a5 C c5][j]?=some u->(w5.alloc (.cells #[.slice a5 C c5] 27)).cell? ((⟨w5.heap.size,0,none⟩:Addr).add j)=some u):=cell_one_new _ _ _;have HO:=hid (HO.out.ab kk);have HU:=hid (Zz (cY HU.out.1 kk) HU.out.2);refine hK.out _ _ (mF.out _ HO.out.aP) fun hHeld=>?_;clear hK K
    try simp only[put,sA]
    clear kk;generalize w5.alloc (.cells #[.slice a5 C c5] 27)=V5 at lW HO HU hHeld⊢;refine bf 10 (fun K hK=>?_);skip;have hO:=(HO.out.next.own);rw[C4] at hO;refine sa (by rfl) _ _ _ (by rfl) Wn.heap.size 27 iV (.slice none 0 0) 1 24 underlying26 hV uJ uY ur (by rfl) (by decide) _ i ((range i).map ws) (by rfl) hO ⟨w5.heap.size,0,none⟩ 1 1 [.slice a5 C c5] (by rfl) (by rfl) lW.out (by intro u hu;simp at hu;subst hu;rfl) (by unfold maxLen;omega) (by omega) HO.out.aP.size ?_;intro v6 w6 aj af;obtain⟨a7,c7,rfl⟩:=bP aj;have js:=hid (HO.out.gu (u:=.slice a5 C c5) (vN':=.slice a7 (i+1) c7) HU.out.1 HU.out.2.1 HU.out.2.2 (C4 D C l9 i) aj af);have h9:=(HO.out.st.ae HO.out.next.own (by decide) af);have z2:w6.cell? ⟨b4,256,none⟩=some (.slice aN i cN):=(by rw[h9.at_,qp]);have z3:w6.frozen? ⟨b4,256,none⟩=false:=h9.bb 256;have eI:=(fG HO.out.aP HO.out.next.own HO.out.aP.size af);clear aj af h9 hO;refine hK.out _ _ (mF.out _ eI) fun hHeld=>?_;clear hK K
    try simp only[put,sA]
    (refine an 11 ?_;try simp only[put,sA])
    refine bf 12 (fun K hK=>?_);skip;go_simp;refine hK.out _ _ (mF.out _ js.out.aP) fun hHeld=>?_;clear hK K
    try simp only[put,sA]
    refine wpAnyH_done (by kernel_rfl) ?_ _;rw[<-D4.out] at js;clear hHeld z2 z3 eI;go_wp2;go_roundw
    ·exact⟨i+1,_,a7,a9,c7,c9,by go_num,by omega,js⟩
    simp[intOf];omega
   refine gG (fun K hK=>?_) ?_
   ·skip;have iQ:=(HO.out.next.lt).2;have jE:=lE HO.out.dt;go_simp;go_at_call 73;refine (Mh 74 b5 D.n (fun y=>((f y:Nat):Int)) C (D.Cp x) (D.A x) (D.nx x) _ WO (fun W' h y hy=>Vy b5 D.n gU f W' ((HN.out.2.2.2.1.ab HO.out.aP).ab h) (fun z hz=>((HO.out.aP.trans (h.mono HO.out.aP.size)).cell (p:=⟨gU,z,none⟩) B4.out.2).trans (sj.out z hz)) y hy) (by omega) (xo.out.below HO.out.aP) (fun c hc=>HB.out.2.2.nx x c hY hc) (by omega)).mono ?_;rintro e w5 ⟨a5,c5,rfl,jk,Au⟩;have HU:Hid (w5.ownsRow Wn.heap.size 3 1 (.slice a5 C c5) C (ints ((range C).map (iC D l9 i)))/\(∀j,j<(qw D C l9 i).length->∀b,(ws j).ownBlock=some b->(Value.slice a5 C c5).ownBlock≠some b)/\∀b,(Value.slice a5 C c5).ownBlock=some b->(Value.slice a9 (i+1) c9).ownBlock≠some b):=by
     have jD:=kD jk;refine⟨?_,fun j hj b e1 e2=>?_,fun b e1 e2=>?_⟩
     ·rw[<-ui.out];exact ga jk HO.out.aP.size
     ·have h1:=iQ j hj b e1;have h2:=jD b e2
      try simp only[kU] at h1
      try simp only[kU] at h2
      omega
     have h1:=jE b e2;have h2:=jD b e1
     try simp only[kU] at h1
     try simp only[kU] at h2
     omega
    have HO:=hid (HO.out.ab Au);clear jk Au iQ jE
    try go_wp2_with fail
    refine hK.out _ _ (mF.out _ HO.out.aP) fun hHeld=>?_;clear hK K
    try simp only[put,sA]
    refine wpAnyH_ready (rs:=[1,9]) (by kernel_rfl) (by simp) ?_;refine gG (fun K hK=>?_) ?_
    ·skip;have f1:=HO.out.f1;go_simp;refine hK.out _ _ (hHeld) fun hHeld=>?_;clear hK K
     try simp only[put,sA]
     clear f1;refine bf 9 (fun K hK=>?_);skip;go_simp;have kk:=al w5 (.cells #[.slice a5 C c5] 27);have lW:Hid (∀j u,[Value.slice a5 C c5][j]?=some u->(w5.alloc (.cells #[.slice a5 C c5] 27)).cell? ((⟨w5.heap.size,0,none⟩:Addr).add j)=some u):=cell_one_new _ _ _;have HO:=hid (HO.out.ab kk);have HU:=hid (Zz (cY HU.out.1 kk) HU.out.2);refine hK.out _ _ (mF.out _ HO.out.aP) fun hHeld=>?_;clear hK K
     try simp only[put,sA]
     clear kk;generalize w5.alloc (.cells #[.slice a5 C c5] 27)=V5 at lW HO HU hHeld⊢;refine bf 10 (fun K hK=>?_);skip;have hO:=(HO.out.next.own);rw[C4] at hO;refine sa (by rfl) _ _ _ (by rfl) Wn.heap.size 27 iV (.slice none 0 0) 1 24 underlying26 hV uJ uY ur (by rfl) (by decide) _ i ((range i).map ws) (by rfl) hO ⟨w5.heap.size,0,none⟩ 1 1 [.slice a5 C c5] (by rfl) (by rfl) lW.out (by intro u hu;simp at hu;subst hu;rfl) (by unfold maxLen;omega) (by omega) HO.out.aP.size ?_;intro v6 w6 aj af;obtain⟨a7,c7,rfl⟩:=bP aj;have js:=hid (HO.out.gu (u:=.slice a5 C c5) (vN':=.slice a7 (i+1) c7) HU.out.1 HU.out.2.1 HU.out.2.2 (C4 D C l9 i) aj af);have h9:=(HO.out.st.ae HO.out.next.own (by decide) af);have z2:w6.cell? ⟨b4,256,none⟩=some (.slice aN i cN):=(by rw[h9.at_,qp]);have z3:w6.frozen? ⟨b4,256,none⟩=false:=h9.bb 256;have eI:=(fG HO.out.aP HO.out.next.own HO.out.aP.size af);clear aj af h9 hO;refine hK.out _ _ (mF.out _ eI) fun hHeld=>?_;clear hK K
     try simp only[put,sA]
     (refine an 11 ?_;try simp only[put,sA])
     refine bf 12 (fun K hK=>?_);skip;go_simp;refine hK.out _ _ (mF.out _ js.out.aP) fun hHeld=>?_;clear hK K
     try simp only[put,sA]
     refine wpAnyH_done (by kernel_rfl) ?_ _;rw[<-D4.out] at js;clear hHeld z2 z3 eI;go_wp2;go_roundw
     ·exact⟨i+1,_,a7,a9,c7,c9,by go_num,by omega,js⟩
     simp[intOf];omega
    refine gG (fun K hK=>?_) ?_
    ·skip;go_simp;have kk:=al w5 (.cells #[.slice a5 C c5] 27);have lW:Hid (∀j u,[Value.slice a5 C c5][j]?=some u->(w5.alloc (.cells #[.slice a5 C c5] 27)).cell? ((⟨w5.heap.size,0,none⟩:Addr).add j)=some u):=cell_one_new _ _ _;have HO:=hid (HO.out.ab kk);have HU:=hid (Zz (cY HU.out.1 kk) HU.out.2);refine hK.out _ _ (mF.out _ HO.out.aP) fun hHeld=>?_;clear hK K
     try simp only[put,sA]
     clear kk;generalize w5.alloc (.cells #[.slice a5 C c5] 27)=V5 at lW HO HU hHeld⊢;refine bf 1 (fun K hK=>?_);skip;have f1:=HO.out.f1;go_simp;refine hK.out _ _ (hHeld) fun hHeld=>?_;clear hK K
     try simp only[put,sA]
     clear f1;refine bf 10 (fun K hK=>?_);skip;have hO:=(HO.out.next.own);rw[C4] at hO;refine sa (by rfl) _ _ _ (by rfl) Wn.heap.size 27 iV (.slice none 0 0) 1 24 underlying26 hV uJ uY ur (by rfl) (by decide) _ i ((range i).map ws) (by rfl) hO ⟨w5.heap.size,0,none⟩ 1 1 [.slice a5 C c5] (by rfl) (by rfl) lW.out (by intro u hu;simp at hu;subst hu;rfl) (by unfold maxLen;omega) (by omega) HO.out.aP.size ?_;intro v6 w6 aj af;obtain⟨a7,c7,rfl⟩:=bP aj;have js:=hid (HO.out.gu (u:=.slice a5 C c5) (vN':=.slice a7 (i+1) c7) HU.out.1 HU.out.2.1 HU.out.2.2 (C4 D C l9 i) aj af);have h9:=(HO.out.st.ae HO.out.next.own (by decide) af);have z2:w6.cell? ⟨b4,256,none⟩=some (.slice aN i cN):=(by rw[h9.at_,qp]);have z3:w6.frozen? ⟨b4,256,none⟩=false:=h9.bb 256;have eI:=(fG HO.out.aP HO.out.next.own HO.out.aP.size af);clear aj af h9 hO;refine hK.out _ _ (mF.out _ eI) fun hHeld=>?_;clear hK K
     try simp only[put,sA]
     (refine an 11 ?_;try simp only[put,sA])
     refine bf 12 (fun K hK=>?_);skip;go_simp;refine hK.out _ _ (mF.out _ js.out.aP) fun hHeld=>?_;clear hK K
     try simp only[put,sA]
     refine wpAnyH_done (by kernel_rfl) ?_ _;rw[<-D4.out] at js;clear hHeld z2 z3 eI;go_wp2;go_roundw
     ·exact⟨i+1,_,a7,a9,c7,c9,by go_num,by omega,js⟩
     simp[intOf];omega
    exact AllReadyH.nil
   exact AllReadyH.nil
 obtain rfl:i=j:=by omega
 have jc:=hid HT.out.st;have fV:=hid (HN.out.2.1.ab HT.out.aP);have hd:=mV D.K (.slice aN i cN) (.slice aK i cK);have Fs:Hid (w.heap.size<=Wn.heap.size):=by have h1:=HN.out.2.2.2.2;have h2:=Hb.out.1;show _<=_;omega
 have Bh:Hid (Below w.heap.size w (wr.setRow b2 (dH D.K (.slice aN i cN) (.slice aK i cK)))):=by
  rw[Hb.out.1];exact kT (HN.out.2.2.1.trans (HT.out.aP.mono HN.out.2.2.2.2)) (by have:=Hb.out;omega) _
 have HF:Hid (B2 D C i (iC D l9) (fun i=>D.q (l9.getD i 0)) w (.returned (.agg (dH D.K (.slice aN i cN) (.slice aK i cK)))) (wr.setRow b2 (dH D.K (.slice aN i cN) (.slice aK i cK)))):=
  HT.out.Sl HB.out.1.dm.kl (C4 D C l9 i) (fun r hr=>by unfold qw at hr;obtain⟨j,_,rfl⟩:=List.mem_map.1 hr;simp) rfl (fun j hj c hc=>by unfold qw;simp[getD_eq_getElem?_getD,hj,hc]) Fs.out (Or.inr ⟨b2,_,_,fV.out,rfl⟩) Bh.out
 go_wp2_with (first|(refine p6 rfl 29 _ rfl ⟨b4,0,none⟩ rfl (dH D.K (.slice aN i cN) (.slice aK i cK)) _ jc.out.part underlying29 rfl (by rw[fD,hd]) ?_)|(refine lJ rfl 29 _ _ rfl b2 29 (zC 29) (dH D.K (.slice aN i cN) (.slice aK i cK)) rfl rfl fV.out (by rw[gY,hd]) (by rw[fD,hd]) (xY _ _ _ _ _ _ _) ?_));refine bodyPost_ret (results_cell_row rfl _ _ b2 29 (dH D.K (.slice aN i cN) (.slice aK i cK)) (0,0) _ rfl fV.out.setRow underlying29 rfl (by rw[fD,hd])) rfl ?_;exact HF.out
def zqQ(D:Dd)(w:World)(e:Ending)(w':World):Prop:=∃b:Bool,e=.returned (.bool b)/\(b=true->D.n<=20/\D.m<=30/\∀i,i<D.n->D.len i<=256)/\Below w.heap.size w w'
theorem zms(D:Dd)(hn:D.n<=9223372036854775807)(hm:D.m<=9223372036854775807)(hl:∀i,i<D.n->D.len i<=9223372036854775807)(w:World)(hD:DM w D):
  Calls prog 13 #[.agg D.cD] w (zqQ D w):=by
 have HB:=hid (Zz (bz.new hD) (Zz (al w (.cells D.cD 29)) hl));clear hD hl;go_in;go_upto_region 1 with fail;generalize w.alloc (.cells D.cD 29)=W0 at HB⊢;obtain⟨b0,ay⟩:∃b0,w.heap.size=b0:=⟨_,rfl⟩
 have bW:=hid ay;rw[ay] at HB;rw[ay];clear ay;have f1:=HB.out.1.f1;have f2:=HB.out.1.f2;have HF:Hid (Below w.heap.size w W0):=by rw[bW.out];exact HB.out.2.1
 by_cases h1:20<D.n
 ·have i1:(20:Int)<(D.n:Int):=by omega
  go_wp2;go_ret;exact⟨false,rfl,(fun h=>by cases h),HF.out⟩
 by_cases h2:30<D.m
 ·have i1:¬((20:Int)<(D.n:Int)):=by omega
  have i2:(30:Int)<(D.m:Int):=by omega
  go_wp2;go_ret;exact⟨false,rfl,(fun h=>by cases h),HF.out⟩
 have i1:¬((20:Int)<(D.n:Int)):=by omega
 have i2:¬((30:Int)<(D.m:Int)):=by omega
 go_wp2_with fail;clear f1 f2;go_loopw [3] (fun v wr=>∃(i:Nat),v=.int .i64 i/\i<=D.n/\wr=W0/\Hid (∀j,j<i->D.len j<=256)) (fun v _=>D.n-(intOf v).toNat)
 ·exact⟨0,rfl,by omega,rfl,fun j hj=>by omega⟩
 obtain⟨i,rfl,hi,rfl,HX⟩:=hrel;have f1:=HB.out.1.f1;by_cases aq:i<D.n
 ·obtain⟨gN,oN,eN,km,cN,_⟩:=HB.out.1.dm.row i aq;rw[eN] at f1;have i3:(i:Int)<(D.n:Int):=by omega
  have hb:=HB.out.2.2 i aq;have HS:Hid (D.len i<=256->∀j,j<i+1->D.len j<=256):=fun h j hj=>by
   by_cases e:j=i
   ·subst e;exact h
   exact HX.out j (by omega)
  have wF:=hid eN;clear eN;generalize D.len i=ln at cN hb HS;by_cases h3:256<ln
  ·have i4:(256:Int)<ln:=(by omega);go_wp2;go_ret;exact⟨false,rfl,(fun h=>by cases h),HF.out⟩
  have i4:¬((256:Int)<ln):=by omega
  have HZ:=hid (HS.out (by omega));go_wp2;go_roundw
  ·exact⟨i+1,by go_num,by omega,by first|trivial|rfl,HZ⟩
  simp[intOf];omega
 obtain rfl:i=D.n:=by omega
 have i3:¬((D.n:Int)<(D.n:Int)):=by omega
 have rh:D.n<=20/\D.m<=30:=by omega
 have HZ:Hid (D.n<=20/\D.m<=30/\∀j,j<D.n->D.len j<=256):=⟨rh.1,rh.2,HX.out⟩
 go_wp2;go_ret;exact⟨true,rfl,(fun _=>HZ.out),HF.out⟩
def pn(D:Dd)(C n':Nat)(Fx:Nat->Nat->Int)(q':Nat->Int)(D':Dd):Prop:=
 D'.K=D.K/\D'.n=n'/\D'.m=n'/\(∀i,i<n'->D'.len i=C)/\(∀i,i<n'->∀c,c<C->D'.nx i c=Fx i c)/\∀i,i<n'->D'.q i=q' i
