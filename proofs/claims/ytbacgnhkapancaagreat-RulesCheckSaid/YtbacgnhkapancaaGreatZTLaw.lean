import Derived.Test.YtbacgnhkapancaaGreatZTTrim
import Derived.ChangeKeysEq
set_option linter.all false
set_option maxHeartbeats 8000000
set_option maxRecDepth 100000
open Go.Lib (hid)
namespace Go.Proofs.YtbacgnhkapancaaGreat
open Go.ChangeShapes Go.WideShapes Go.ChangeAt Go.RowKit Go.Deep Go.Proofs.Tryz
open Go.Maps Go.WideElems Go.ChangeMaps Go.MapKept
open Nat (le_refl)
open List (getD_eq_getElem?_getD getElem_mem range)
open Act (put)
def bH(D:Dd)(st:Int)(b:Nat):Int:=if 0<=st/\st<(D.n:Int) then D.nx st.toNat (D.K b) else -1
def bx(D:Dd)(st:Int)(z:Nat->Nat):Nat->Int
 | 0=>st
 | k+1=>bH D (bx D st z k) (z k)
def bu(D:Dd)(st:Int):Int:=if 0<=st/\st<(D.n:Int) then D.q st.toNat else -1
theorem Yv(D:Dd)(st:Int)(z:Nat->Nat){k:Nat}(h:bx D st z k=-1):∀m,k<=m->bx D st z m=-1:=by
 intro m hm
 induction m with
 | zero=>rw[show k=0 by omega] at h;exact h
 | succ m ih=>
  by_cases e:k=m+1
  ·rw[<-e];exact h
  show bH D (bx D st z m) (z m)=-1;rw[ih (by omega)];unfold bH;rw[if_neg (by omega)]
theorem zmq(D:Dd)(C:Nat)(hR:DR D C)(st:Int)(b:Nat)(hb:b<256)(w:World)(hD:DM w D):
  Calls prog 108 #[.agg D.cD,.int .i64 st,.int .u8 (b:Int)] w fun e w'=>e=.returned (.int .i64 (bH D st b))/\Below w.heap.size w w':=by
 have HB:=hid (Zz (cm.new hD) (Zz (al w (.cells D.cD 39)) hR));have cQ:=hR.n2;have uN:=(hR.jn hD.kl).2;clear hD hR;go_enter func108,ntmps108;go_upto_region 1 with fail;generalize w.alloc (.cells D.cD 39)=W0 at HB⊢;obtain⟨b0,aD⟩:∃b0,w.heap.size=b0:=⟨_,rfl⟩
 have cP:=hid aD;rw[aD] at HB;rw[aD];clear aD;have k0:=HB.out.1.f0 b hb;have hkl:=HB.out.1.dm.kl b hb;have DK:=HB.out.2.2.c.1 b hb;have i0:(b:Int)<256:=by omega
 have mB:=hid (I7 D st W0 HB.out.1.dm);obtain⟨kb,CV⟩:∃kb,D.K b=kb:=⟨_,rfl⟩
 have KZ:=hid CV;rw[CV] at k0 hkl DK;clear CV;go_wp2_with (refine kc (by rfl) 39 _ rfl ⟨b0,0,none⟩ rfl D.cD _ HB.out.1.st.part underlying39 rfl HB.out.1.dm.info ?_);refine mB.out.mono ?_;rintro e w2 ⟨rfl,b2⟩;have pg:=hid (HB.out.1.ab b2);have HF:Hid (Below w.heap.size w w2):=by
  rw[cP.out];exact HB.out.2.1.trans (b2.mono (by have:=HB.out.2.1.size;have:=cP.out;omega))
 clear b2 mB k0;by_cases hs:0<=st/\st<(D.n:Int)
 ·obtain⟨s,rfl⟩:∃s:Nat,st=(s:Int):=⟨st.toNat,by omega⟩
  have nW:s<D.n:=by omega
  have HZ:Hid (decide (0<=(s:Int)/\(s:Int)<(D.n:Int))=true):=by show _=_;simp;omega
  have HV:Hid (bH D (s:Int) b=D.nx s kb):=by
   show _=_;unfold bH;rw[if_pos hs,KZ.out];rfl
  have f1:=pg.out.f1;obtain⟨gN,oN,eN,lH,cN,zN⟩:=pg.out.dm.row s nW;rw[HB.out.2.2.len s nW] at cN zN;rw[eN] at f1;obtain⟨gA,oA,eA,_,mz⟩:=zN (by omega);have cA:=mz kb DK;rw[eA] at cN;have i1:(kb:Int)<C:=by omega
  have i2:(s:Int)<(D.n:Int):=by omega
  have i3:¬((C:Int)<=kb):=by omega
  rw[HZ.out];have z8:=hid eN;have Hj:=hid eA;clear eN eA mz zN hs lH;generalize D.nx s kb=r at cA HV;go_wp2;go_ret;exact⟨by rw[HV.out];first|rfl|simp,HF.out⟩
 have HZ:Hid (decide (0<=st/\st<(D.n:Int))=false):=by show _=_;simp;omega
 have HV:Hid (bH D st b=-1):=by
  show _=_;unfold bH;rw[if_neg hs]
 rw[HZ.out];clear hs;go_wp2;go_ret;exact⟨by rw[HV.out];first|rfl|simp,HF.out⟩
theorem Zp(D:Dd)(C:Nat)(hR:DR D C)(st:Int)(w:World)(hD:DM w D):
  Calls prog 72 #[.agg D.cD,.int .i64 st] w fun e w'=>e=.returned (.int .i64 (bu D st))/\Below w.heap.size w w':=by
 have HB:=hid (Zz (cm.new hD) (Zz (al w (.cells D.cD 39)) hR));have cQ:=hR.n2;have jF:=hR.m;clear hD hR;go_enter func72,ntmps72;go_upto_region 1 with fail;generalize w.alloc (.cells D.cD 39)=W0 at HB⊢;obtain⟨b0,aD⟩:∃b0,w.heap.size=b0:=⟨_,rfl⟩
 have cP:=hid aD;rw[aD] at HB;rw[aD];clear aD;have mB:=hid (I7 D st W0 HB.out.1.dm);go_wp2_with (refine kc (by rfl) 39 _ rfl ⟨b0,0,none⟩ rfl D.cD _ HB.out.1.st.part underlying39 rfl HB.out.1.dm.info ?_);refine mB.out.mono ?_;rintro e w2 ⟨rfl,b2⟩;have pg:=hid (HB.out.1.ab b2);have HF:Hid (Below w.heap.size w w2):=by
  rw[cP.out];exact HB.out.2.1.trans (b2.mono (by have:=HB.out.2.1.size;have:=cP.out;omega))
 clear b2 mB;by_cases hs:0<=st/\st<(D.n:Int)
 ·obtain⟨s,rfl⟩:∃s:Nat,st=(s:Int):=⟨st.toNat,by omega⟩
  have nW:s<D.n:=by omega
  have HZ:Hid (decide (0<=(s:Int)/\(s:Int)<(D.n:Int))=true):=by show _=_;simp;omega
  have HV:Hid (bu D (s:Int)=D.q s):=by
   show _=_;unfold bu;rw[if_pos hs];rfl
  have f2:=pg.out.f2;obtain⟨gM,oM,eM,_,mo⟩:=pg.out.dm.rM (by omega);have cM:=mo s (by omega);rw[eM,jF] at f2;have i2:(s:Int)<(D.n:Int):=by omega
  have i3:¬((D.n:Int)<=(s:Int)):=by omega
  rw[HZ.out];have Qe:=hid eM;clear eM mo hs jF;generalize D.q s=r at cM HV;go_wp2;go_ret;exact⟨by rw[HV.out];first|rfl|simp,HF.out⟩
 have HZ:Hid (decide (0<=st/\st<(D.n:Int))=false):=by show _=_;simp;omega
 have HV:Hid (bu D st=-1):=by
  show _=_;unfold bu;rw[if_neg hs]
 rw[HZ.out];clear hs jF;go_wp2;go_ret;exact⟨by rw[HV.out];first|rfl|simp,HF.out⟩
theorem zn8(D:Dd)(C:Nat)(hR:DR D C)(st:Int)(s:ByteArray)(m:Nat)(hs:s.size=m)(hm:m<=1000000)(w:World)(hD:DM w D):
  Calls prog 75 #[.agg D.cD,.int .i64 st,.string s] w fun e w'=>e=.returned (.int .i64 (bx D st (fU s) m))/\Below w.heap.size w w':=by
 have HB:=hid (Zz (cm.new hD) (Zz (al w (.cells D.cD 39)) hR));have zR:=hs;have HS:=hid hs;clear hD hR hs;go_enter func75,ntmps75;go_upto_region 1 with fail;generalize w.alloc (.cells D.cD 39)=W0 at HB⊢;obtain⟨b0,aD⟩:∃b0,w.heap.size=b0:=⟨_,rfl⟩
 have cP:=hid aD;rw[aD] at HB;rw[aD];clear aD;go_wp2_with fail;go_loopw [1,7,10] (fun v1 _ v wr=>∃(k:Nat),v=.int .i64 k/\k<=m/\v1=.int .i64 (bx D st (fU s) k)/\Hid (Below W0.heap.size W0 wr)) (fun _ _ v _=>m-(intOf v).toNat)
 ·exact⟨0,rfl,by omega,rfl,Below.refl _ _⟩
 obtain⟨k,rfl,hk,rfl,HX⟩:=hrel;have nL:Hid (∀W',Below W0.heap.size W0 W'->Below w.heap.size w W'):=fun W' h=>by
  rw[cP.out];exact HB.out.2.1.trans (h.mono (by have:=HB.out.2.1.size;have:=cP.out;omega))
 have T5:Hid (bx D st (fU s) k=-1->bx D st (fU s) m=-1):=fun h=>Yv D st _ h m hk
 by_cases an:k<m
 ·have qn:k<s.size:=by rw[zR];exact an
  obtain⟨bt,qc⟩:∃bt,(s[k]'qn).toNat=bt:=⟨_,rfl⟩
  have tq:=LB s k qn;rw[qc] at tq;have ky:bt<256:=by rw[tq];exact xS s k
  have eB:Hid (bx D st (fU s) (k+1)=bH D (bx D st (fU s) k) bt):=by show bH D (bx D st (fU s) k) (fU s k)=_;rw[<-tq]
  have HDs:Hid (bx D st (fU s) (k+1)=-1->bx D st (fU s) m=-1):=fun h=>Yv D st _ h m (by omega)
  have i1:(k:Int)<m:=by omega
  generalize bx D st (fU s) k=a at eB T5⊢;have dG:Hid (∀W',Below W0.heap.size W0 W'->Below W0.heap.size W0 W'/\cm W' b0 D):=fun W' h=>⟨h,HB.out.1.ab h⟩
  clear tq;go_upto_region 4 with fail;refine wp_region_held_drew (S:=fun W'=>Below W0.heap.size W0 W'/\cm W' b0 D) (by kernel_rfl) (dG.out _ HX.out.drew) (fun hHeld=>?_)
  (refine av 0 (v:=.agg D.cD) ?_ (hy:=by intro wz hSw;exact uI (o:=_) (ρ:=_) wz 39 (.tmp 3) rfl ⟨b0,0,none⟩ rfl D.cD _ (cm.st (And.right hSw)).part underlying39 rfl (cm.dm (And.right hSw)).info))
  (refine av 1 ?_;refine av 2 ?_;refine av 3 ?_;try simp only[put,sA,sB,sC];refine av 4 ?_;try simp only[put,sA,sB,sC])
  refine bq 5 (fun K hK=>?_);skip;go_simp;go_at_call 108;refine (zmq D C HB.out.2.2 a bt ky _ hHeld.2.dm).mono ?_;rintro e wj ⟨rfl,vj⟩;have bY:Below W0.heap.size W0 wj:=hHeld.1.trans (vj.mono hHeld.1.size);clear vj
  try go_wp2_with fail
  refine hK.out _ _ (dG.out _ bY) (fun hHeld=>?_);clear hK K
  try simp only[put,sA,sB,sC]
  (refine av 6 ?_;try simp only[put,sA,sB,sC])
  refine wpAnyH_done (by kernel_rfl) ?_ _;have qw:=hid bY;clear hHeld bY;rw[<-eB.out];have HF:=hid (nL.out _ qw.out);by_cases hd:bx D st (fU s) (k+1)=-1
  ·have HV:=hid (HDs.out hd);rw[hd];go_wp2;go_ret;exact⟨by rw[HV.out];first|rfl|simp,HF.out⟩
  have Tf:Hid (bx D st (fU s) (k+1)=bx D st (fU s) (k+1)):=rfl;obtain⟨r,hr⟩:∃r,bx D st (fU s) (k+1)=r:=⟨_,rfl⟩
  have Hr:=hid hr;rw[hr] at hd;rw[hr];clear hr Tf eB;go_wp2;go_roundw
  ·exact⟨k+1,by go_num,by omega,by rw[Hr.out],qw⟩
  simp[intOf];omega
 obtain rfl:k=m:=by omega
 have HF:=hid (nL.out wr HX.out);clear T5;go_wp2;go_ret;exact⟨rfl,HF.out⟩
theorem zn9(D:Dd)(C:Nat)(hR:DR D C)(s:ByteArray)(m:Nat)(hs:s.size=m)(hm:m<=1000000)(w:World)(hD:DM w D):
  Calls prog 49 #[.agg D.cD,.string s] w fun e w'=>e=.returned (.int .i64 (bu D (bx D 0 (fU s) m)))/\Below w.heap.size w w':=by
 have HB:=hid (Zz (cm.new hD) (Zz (al w (.cells D.cD 39)) (Zz hR hs)));clear hD hR hs;go_enter func49,ntmps49;go_upto_region 1 with fail;generalize w.alloc (.cells D.cD 39)=W0 at HB⊢;obtain⟨b0,aD⟩:∃b0,w.heap.size=b0:=⟨_,rfl⟩
 have cP:=hid aD;rw[aD] at HB;rw[aD];clear aD;have nL:Hid (∀W',Below W0.heap.size W0 W'->Below w.heap.size w W'):=fun W' h=>by
  rw[cP.out];exact HB.out.2.1.trans (h.mono (by have:=HB.out.2.1.size;have:=cP.out;omega))
 have dG:Hid (∀W',Below W0.heap.size W0 W'->Below W0.heap.size W0 W'/\cm W' b0 D):=fun W' h=>⟨h,HB.out.1.ab h⟩
 refine wp_region_held_drew (S:=fun W'=>Below W0.heap.size W0 W'/\cm W' b0 D) (by kernel_rfl) (dG.out _ (Below.refl _ _).drew) (fun hHeld=>?_)
 (refine av 0 (v:=.agg D.cD) ?_ (hy:=by intro wz hSw;exact uI (o:=_) (ρ:=_) wz 39 (.tmp 2) rfl ⟨b0,0,none⟩ rfl D.cD _ (cm.st (And.right hSw)).part underlying39 rfl (cm.dm (And.right hSw)).info))
 (refine av 1 (v:=.agg D.cD) ?_ (hy:=by intro wz hSw;exact uI (o:=_) (ρ:=_) wz 39 (.tmp 2) rfl ⟨b0,0,none⟩ rfl D.cD _ (cm.st (And.right hSw)).part underlying39 rfl (cm.dm (And.right hSw)).info))
 (refine av 2 ?_;try simp only[put,sA,sB,sC])
 refine bq 3 (fun K hK=>?_);skip;go_simp;go_at_call 75;refine (zn8 D C HB.out.2.2.1 0 s m HB.out.2.2.2 hm _ hHeld.2.dm).mono ?_;rintro e wj ⟨rfl,vj⟩;have bY:Below W0.heap.size W0 wj:=hHeld.1.trans (vj.mono hHeld.1.size);clear vj
 try go_wp2_with fail
 refine hK.out _ _ (dG.out _ bY) (fun hHeld=>?_);clear hK K
 try simp only[put,sA,sB,sC]
 clear bY;refine bq 4 (fun K hK=>?_);skip;go_simp;go_at_call 72;refine (Zp D C HB.out.2.2.1 (bx D 0 (fU s) m) _ hHeld.2.dm).mono ?_;rintro e wk ⟨rfl,vk⟩;have bY:Below W0.heap.size W0 wk:=hHeld.1.trans (vk.mono hHeld.1.size);clear vk
 try go_wp2_with fail
 refine hK.out _ _ (dG.out _ bY) (fun hHeld=>?_);clear hK K
 try simp only[put,sA,sB,sC]
 (refine av 5 ?_;try simp only[put,sA,sB,sC])
 refine wpAnyH_done (by kernel_rfl) ?_ _;have HF:=hid (nL.out _ bY);clear hHeld bY;go_wp2;go_ret;exact⟨rfl,HF.out⟩
def zb(l:List Nat)(t:Int):Int:=if t=-1 then -1 else ((l.idxOf t.toNat:Nat):Int)
def iJ(D:Dd)(l:List Nat)(i c:Nat):Int:=zb l (D.nx (l.getD i 0) c)
theorem zp2{l1 l2:List Nat}{x:Nat}(h:l1 <+: l2)(hx:x∈l1):l2.idxOf x=l1.idxOf x:=by
 obtain⟨t,rfl⟩:=h;rw[List.idxOf_append,if_pos hx]
theorem MF{D:Dd}{C:Nat}(hR:DR D C)(i:Nat):∀x∈dr (ar D.len D.nx) [0] i,x<D.n:=by
 have h0:=hR.n1
 induction i with
 | zero=>intro x hx;rw[List.mem_singleton.1 hx];omega
 | succ i ih=>
  intro x hx;have ld:x∈oK (ar D.len D.nx) (dr (ar D.len D.nx) [0] i) i:=hx;unfold oK at ld;split at ld
  ·rename_i h;rw[P6] at ld;rcases ld with h1|h1
   ·exact ih x h1
   have hm:(dr (ar D.len D.nx) [0] i).getD i 0∈dr (ar D.len D.nx) [0] i:=by
    rw[show (dr (ar D.len D.nx) [0] i).getD i 0=(dr (ar D.len D.nx) [0] i)[i] by simp[getD_eq_getElem?_getD,h]];exact getElem_mem h
   have hs:=ih _ hm;generalize (dr (ar D.len D.nx) [0] i).getD i 0=y at h1 hs;unfold ar at h1;obtain⟨c,hc,e⟩:=List.mem_map.1 h1;have fH:c<D.len y:=List.mem_range.1 hc;exact hR.ed _ _ ⟨hs,c,fH,e⟩
  exact ih x ld
theorem ZD{D:Dd}{C:Nat}(hR:DR D C):∃k,(dr (ar D.len D.nx) [0] k).length=k/\k<=D.n:=by
 have hb:∀i,(dr (ar D.len D.nx) [0] i).length<=D.n:=fun i=>p8 (Ko _ (by simp) i) (MF hR i)
 have hp:∀i j,i<=j->(dr (ar D.len D.nx) [0] i).length<=(dr (ar D.len D.nx) [0] j).length:=fun i j h=>by
  induction j with
  | zero=>rw[show i=0 by omega];exact le_refl _
  | succ j ih=>
   by_cases e:i=j+1
   ·rw[e];exact le_refl _
   exact Nat.le_trans (ih (by omega)) (My _ _ j).length_le
 have key:∀m,(∃k,k<=m/\(dr (ar D.len D.nx) [0] k).length=k)\/m<(dr (ar D.len D.nx) [0] m).length:=by
  intro m
  induction m with
  | zero=>exact Or.inr (by simp[dr])
  | succ m ih=>
   rcases ih with ⟨k,h1,h2⟩|h
   ·exact Or.inl ⟨k,by omega,h2⟩
   have:=hp m (m+1) (by omega);by_cases e:(dr (ar D.len D.nx) [0] (m+1)).length=m+1
   ·exact Or.inl ⟨m+1,le_refl _,e⟩
   exact Or.inr (by omega)
 rcases key D.n with ⟨k,h1,h2⟩|h
 ·exact⟨k,h2,h1⟩
 have:=hb D.n;omega
theorem zqN{rows:Nat->List Int}{m:List Nat}{i k:Nat}(h:i<=k):dr rows m i <+: dr rows m k:=by
 induction k with
 | zero=>rw[show i=0 by omega];exact List.prefix_refl _
 | succ k ih=>
  by_cases e:i=k+1
  ·rw[e];exact List.prefix_refl _
  exact (ih (by omega)).trans (My rows m k)
section
variable {W0 : World}{b4 C : Nat}{K : Nat → Nat}{vN : Value}{R : List (List Int)}{ws : Nat → Value}{vK : Value}{ms : List Int}{vL : Value}{l : List Nat}{w : World}
end
section
variable {W0 : World}{b4 C z : Nat}{K : Nat → Nat}{vN : Value}{R : List (List Int)}{ws : Nat → Value}{vK : Value}{ms : List Int}{vL vW : Value}{l : List Nat}{row : List Int}{w : World}
end
theorem GU{P:Program}{ops:Array Oper}{o:Oper}{a:Act}{w:World}{K:Act->World->Prop}{Q:Exit->Act->World->Prop}{E:Prop}(oG:o.guard=none)(s x:Operand)(t:TypeId)
  (ho:o.op=.call { callee:=.builtin .append,args:=#[s,x],argTypes:=#[t,t] })
  (base:Nat) (e:TypeId) (i:TypeInfo) (z:Value) (size bytes:Nat) (ht:P.underlying t=some (.slice e)) (hi:P.info? e=some i) (hz:i.zero=some z)
  (rb:i.size=size) (IE:i.bytes=bytes) (FJ:z.cells.size=size) (cU:0<size)
  (v:Value) (n:Nat) (xs:List Value) (hs:a.eval s=v) (ay:w.ownsRow base e size v n xs)
  (ad:Addr) (m c:Nat) (news:List Value) (hx:a.eval x=.slice (some ad) m c) (hl:news.length=m*size) (mT:∀j u,news[j]?=some u->w.cell? (ad.add j)=some u) (h1:∀u∈news,u.oneCell'=true)
  (JI:n+m<=maxLen) (ke:(n+m)*bytes<=140737488355328) (ru:base<=w.heap.size)
  (h:∀v' w',w'.ownsRow base e size v' (n+m) (xs++news)->w.grownBy w' v.ownBlock->(v'.ownBlock=v.ownBlock\/v'.ownBlock=some w.heap.size)->K (a.put o.dst v') w'):
  if Region.wanted o (yielded ops a.tmps)=true then Oper.wp P o a w K Q else E:=by
 have hw:Region.wanted o (yielded ops a.tmps)=true:=by simp[Region.wanted,oG]
 rw[if_pos hw];obtain⟨v',w',hr,h2,h3,_,h5⟩:=run_append_own_at (P:=P) w base t o.type e i z size bytes ht hi hz rb IE FJ cU v n xs ay ad m c news hl mT h1 JI ke ru;unfold Oper.wp execOp;simp only[ho,resolve,invoke,builtin,Sem.run_bind,Sem.run_pure,Result.andThen_ok,List.map_toArray,List.map_cons,List.map_nil,hs,hx,hr];exact h v' w' h2 h3 h5
def pV(D:Dd)(C:Nat)(l:List Nat)(i:Nat):List (List Int):=(range i).map fun j=>(range C).map (iJ D l j)
def rC(D:Dd)(l:List Nat)(i:Nat):List Int:=(range i).map fun j=>D.q (l.getD j 0)
theorem DJ(D:Dd)(C:Nat)(l:List Nat)(i:Nat):(pV D C l i).length=i:=by simp[pV]
theorem Ku(D:Dd)(l:List Nat)(i:Nat):(rC D l i).length=i:=by simp[rC]
theorem zoa(D:Dd)(C:Nat)(l:List Nat)(i:Nat):pV D C l (i+1)=pV D C l i++[(range C).map (iJ D l i)]:=by
 unfold pV;rw[List.range_succ,List.map_append];rfl
theorem zob(D:Dd)(l:List Nat)(i:Nat):rC D l (i+1)=rC D l i++[D.q (l.getD i 0)]:=by
 unfold rC;rw[List.range_succ,List.map_append];rfl
theorem WL:∀(args:Array Value) (W:World),(callFunc 87 args).run prog W=.ok (.enter 87 args) W:=fun _ _=>by rfl
def vd(f:Nat->Nat)(n:Nat):List Value:=(range n).map fun y=>Value.int .i64 ((f y:Nat):Int)
theorem zp3(f:Nat->Nat)(n x v:Nat):(vd f n).set x (.int .i64 (v:Int))=vd (fun y=>if y=x then v else f y) n:=by
 unfold vd;apply List.ext_getElem?;intro i;rw[List.getElem?_set];by_cases e:x=i
 ·subst e;by_cases h:x<n
  ·simp[h]
  simp[h]
 rw[if_neg e];by_cases h:i<n
 ·simp[h,Ne.symm e,show ¬i=x from fun h=>e h.symm]
 simp[h]
theorem zoc(n:Nat):List.replicate n (Value.int .i64 0)=vd (fun _=>0) n:=by
 unfold vd;apply List.ext_getElem?;intro i;by_cases h:i<n <;> simp[h]
theorem V9(b5 n g:Nat)(f:Nat->Nat)(w:World)(hS:St w 30 b5 #[.slice (some ⟨g,0,none⟩) n n])(hc:∀x,x<n->w.cell? ⟨g,x,none⟩=some (.int .i64 ((f x:Nat):Int)))(x:Nat)(hx:x<n):
  Calls prog 87 #[.int .i64 (x:Int),.pointer (some ⟨b5,0,none⟩)] w fun e w'=>e=.returned (.int .i64 ((f x:Nat):Int))/\w'=w:=by
 have c0:w.cell? ⟨b5,0,none⟩=some (.slice (some ⟨g,0,none⟩) n n):=hS.at_ 0;have d0:=hc x hx;have i1:(x:Int)<n:=by omega
 clear hc;go_enter func87,ntmps87;go_wp2;go_ret;exact⟨rfl,rfl⟩
theorem ZR(D:Dd)(C:Nat)(l:List Nat)(k:Nat)(hl:l=dr (ar D.len D.nx) [0] k)(dN:l.length=k)(rG:k<=D.n)(w:World)(hD:DM w D)(hR:DR D C):
  Calls prog 55 #[.agg D.cD] w (C1 D C k (iJ D l) (fun i=>D.q (l.getD i 0)) w):=by
 have DE:∀(fn:Fn) (first cap:Array Value) (w:World),(Instr.makeFunc fn first cap).run prog w=.ok (.func fn first cap) w:=fun _ _ _ _=>rfl
 have cQ:=hR.n2;have cZ:=hR.n1;have jF:=hR.m;have uN:=(hR.jn hD.kl).2;have fu:=JA D.n (by omega);have HB:=hid (Zz (cm.new hD) (Zz (al w (.cells D.cD 39)) hR));have HL:=hid (Zz hl dN);obtain⟨iI,hI,pW,p9,qa⟩:=info_parts az;obtain⟨iV,hV,um,uU,uL⟩:=info_parts ew;clear hD hR hl dN;go_enter func55,ntmps55;go_upto_region 1 with (refine oO rfl 39 rfl (zC 39) (lP _) ?_);simp only[put,List.setIfInBounds_toArray,List.set_cons_zero,List.set_cons_succ,Gb];have H0:Hid (cm ((w.alloc (.cells D.cD 39)).alloc (.cells (zC 39) 39)) w.heap.size D/\St ((w.alloc (.cells D.cD 39)).alloc (.cells (zC 39) 39)) 39 (w.heap.size+1) (zC 39)/\Below w.heap.size w ((w.alloc (.cells D.cD 39)).alloc (.cells (zC 39) 39))):=by
  refine⟨HB.out.1.ab (al _ _),?_,HB.out.2.1.trans ((al _ _).mono (by simp))⟩;have:=St.new (w.alloc (.cells D.cD 39)) 39 (zC 39);simpa using this
 generalize (w.alloc (.cells D.cD 39)).alloc (.cells (zC 39) 39)=Wb at H0⊢;obtain⟨b2,cr⟩:∃b2,w.heap.size+1=b2:=⟨_,rfl⟩
 obtain⟨b0,aD⟩:∃b0,w.heap.size=b0:=⟨_,rfl⟩
 rw[cr,aD] at H0;rw[cr,aD];have Hb:=hid (Zz aD cr);clear cr aD;have qK:=hid (D4 D C HB.out.2.2 Wb H0.out.1.dm);go_wp2_with (refine kc (by rfl) 39 _ rfl ⟨b0,0,none⟩ rfl D.cD _ H0.out.1.st.part underlying39 rfl H0.out.1.dm.info ?_);refine qK.out.mono ?_;rintro e wy ⟨rfl,rO⟩;have H1:Hid (cm wy b0 D/\St wy 39 b2 (zC 39)/\Below b0 w wy):=⟨H0.out.1.ab rO,H0.out.2.1.ab rO,H0.out.2.2.trans (rO.mono (by have:=H0.out.2.2.size;have:=Hb.out.1;omega))⟩
 have FU:Hid (b0<=wy.heap.size):=by have h1:=H0.out.2.2.size;have h2:=rO.size;have h3:=Hb.out.1;show _<=_;omega
 have f1:=H1.out.1.f1;have k1:=al wy (.cells #[.int .i64 0] 3);have Up:=hid (Pq D.n D.cN D.aN D.A D.Cp D.len D.nx [0] (some ⟨wy.heap.size,0,none⟩) 1 1 (by omega) (fun i hi=>by rw[HB.out.2.2.len i hi];omega) (fun i c hi hc=>HB.out.2.2.nx i c hi (by rw[<-HB.out.2.2.len i hi];exact hc)) rfl (by simp) (fun x hx=>by rw[List.mem_singleton.1 hx];omega) (wy.alloc (.cells #[.int .i64 0] 3)) (H1.out.1.ab k1).dm.rN (si (vx wy wy.heap.size 3 1 #[.int .i64 0] 1 rfl (le_refl _) (by decide)) rfl) (fun h=>by cases h) (fun ad h=>by injection h with h;rw[<-h]));have OV:=hid k1;clear rO qK k1;go_wp2_with fail;refine Up.out.mono ?_;rintro e w3 ⟨l9,i9,aL,cL,rfl,Et,yB,ES,_,iG,b3⟩;have vh:l9=l/\i9=k:=by
  have h1:(dr (ar D.len D.nx) [0] i9).length=i9:=by rw[<-yB];exact ES
  have h2:=zoh (ar D.len D.nx) [0] h1 (by rw[<-HL.out.1];exact HL.out.2:(dr (ar D.len D.nx) [0] k).length=k);have h3:l9=l:=by rw[yB,h2,<-HL.out.1]
  exact⟨h3,by rw[<-ES,h3];exact HL.out.2⟩
 obtain⟨rfl,rfl⟩:=vh;have NN:Hid (l9.Nodup/\(∀x∈l9,x<D.n)):=⟨by rw[HL.out.1];exact Ko _ (by simp) _,iG⟩
 have H3:Hid (cm w3 b0 D/\St w3 39 b2 (zC 39)/\Below b0 w w3/\nr w3 aL l9):=by
  have k2:=OV.out.trans (b3.mono OV.out.size);exact⟨H1.out.1.ab k2,H1.out.2.1.ab k2,H1.out.2.2.trans (k2.mono FU.out),si Et ES⟩
 have FD:Hid (b0<=w3.heap.size):=by have h1:=OV.out.size;have h2:=b3.size;have h3:=FU.out;show _<=_;omega
 clear Et yB ES iG b3 Up f1;have f1:=H3.out.1.f1;have YS:Hid ((w3.alloc (.cells (madeCells #[.int .i64 0] D.n) 3)).ownsRow w3.heap.size 3 1 (.slice (some ⟨w3.heap.size,0,none⟩) D.n D.n) D.n (vd (fun _=>0) D.n)):=by
  have h:=DX w3 w3.heap.size D.n 3 (.int .i64 0) (le_refl _) (by unfold maxLen;omega);rw[zoc] at h;exact h
 have k3:=al w3 (.cells (madeCells #[.int .i64 0] D.n) 3);go_upto_region 5 with fail;have k4:=al (w3.alloc (.cells (madeCells #[.int .i64 0] D.n) 3)) (.cells #[.slice (some ⟨w3.heap.size,0,none⟩) D.n D.n] 30);have oy:Hid (((w3.alloc (.cells (madeCells #[.int .i64 0] D.n) 3)).alloc (.cells #[.slice (some ⟨w3.heap.size,0,none⟩) D.n D.n] 30)).ownsRow w3.heap.size 3 1 (.slice (some ⟨w3.heap.size,0,none⟩) D.n D.n) D.n (vd (fun _=>0) D.n)/\St ((w3.alloc (.cells (madeCells #[.int .i64 0] D.n) 3)).alloc (.cells #[.slice (some ⟨w3.heap.size,0,none⟩) D.n D.n] 30)) 30 (w3.heap.size+1) #[.slice (some ⟨w3.heap.size,0,none⟩) D.n D.n]/\Below w3.heap.size w3 ((w3.alloc (.cells (madeCells #[.int .i64 0] D.n) 3)).alloc (.cells #[.slice (some ⟨w3.heap.size,0,none⟩) D.n D.n] 30))):=by
  refine⟨cW YS.out k4,?_,k3.trans (k4.mono k3.size)⟩;have:=St.new (w3.alloc (.cells (madeCells #[.int .i64 0] D.n) 3)) 30 #[.slice (some ⟨w3.heap.size,0,none⟩) D.n D.n];simpa using this
 generalize (w3.alloc (.cells (madeCells #[.int .i64 0] D.n) 3)).alloc (.cells #[.slice (some ⟨w3.heap.size,0,none⟩) D.n D.n] 30)=W5 at oy⊢;obtain⟨b5,mC⟩:∃b5,w3.heap.size+1=b5:=⟨_,rfl⟩
 obtain⟨gU,K0⟩:∃gU,w3.heap.size=gU:=⟨_,rfl⟩
 rw[mC,K0] at oy;rw[mC,K0];have HgU:=hid K0;clear mC K0 k3 k4 YS f1;obtain⟨gL,oL,rfl,BK,Bn⟩:=H3.out.2.2.2 (by
  have h:=(KY (ar D.len D.nx) [0] i9).length_le
  rw[<-HL.out.1] at h
  exact h)
 have JD:=hid Bn;have OQ:=hid BK;clear Bn BK;have MI:=hid HL.out.2;go_wp2_with fail;go_loopw [5,6,24] (fun _ _ v wr=>∃(j:Nat) (f:Nat->Nat),v=.int .i64 j/\j<=i9/\Hid (wr.ownsRow gU 3 1 (.slice (some ⟨gU,0,none⟩) D.n D.n) D.n (vd f D.n)/\St wr 30 b5 #[.slice (some ⟨gU,0,none⟩) D.n D.n]/\Below gU w3 wr/\∀j',j'<j->f (l9.getD j' 0)=j')) (fun _ _ v _=>i9-(intOf v).toNat)
 ·exact⟨0,_,rfl,by omega,⟨oy.out.1,oy.out.2.1,oy.out.2.2,fun j' h=>by omega⟩⟩
 clear oy;obtain⟨j,f,rfl,hj,HA⟩:=hrel;have kJ:Below w3.heap.size w3 wr:=by rw[HgU.out];exact HA.out.2.2.1
 by_cases an:j<i9
 ·have hjl:j<l9.length:=by rw[MI.out];exact an
  have d0:=(kJ.cell (p:=⟨gL,oL+j,none⟩) OQ.out).trans (JD.out j hjl);have AU:l9.getD j 0=l9[j]:=by simp[getD_eq_getElem?_getD,hjl]
  have jq:l9.getD j 0<D.n:=by rw[AU];exact NN.out.2 _ (getElem_mem hjl)
  have HS:Hid (∀j',j'<j+1->(fun y=>if y=l9.getD j 0 then j else f y) (l9.getD j' 0)=j'):=fun j' h=>by
   by_cases e:j'=j
   ·subst e;simp
   have h2:j'<l9.length:=(by omega);have hne:¬l9.getD j' 0=l9.getD j 0:=fun h3=>by
    exact e (S7 NN.out.1 h2 hjl h3)
   simp only[if_neg hne];exact HA.out.2.2.2 j' (by omega)
  obtain⟨g9,e9,_,_,c9⟩:=ep HA.out.1 (by omega);obtain rfl:g9=gU:=by
   injection e9 with e9;injection e9 with e9 _;exact e9.symm
  have e5:wr.cell? ⟨b5,0,none⟩=some (.slice (some ⟨g9,0,none⟩) D.n D.n):=HA.out.2.1.at_ 0
  try dsimp only at d0
  clear AU;generalize l9.getD j 0=x at d0 jq HS;obtain⟨y0,y1⟩:=c9 x (by omega);have y2:(vd f D.n)[x]?=some (.int .i64 ((f x:Nat):Int)):=by simp[vd,jq]
  rw[y2] at y0;have HP:Hid ((wr.setCell ⟨g9,x,none⟩ (.int .i64 (j:Int))).ownsRow g9 3 1 (.slice (some ⟨g9,0,none⟩) D.n D.n) D.n (vd (fun y=>if y=x then j else f y) D.n)/\St (wr.setCell ⟨g9,x,none⟩ (.int .i64 (j:Int))) 30 b5 #[.slice (some ⟨g9,0,none⟩) D.n D.n]/\Below g9 w3 (wr.setCell ⟨g9,x,none⟩ (.int .i64 (j:Int)))):=by
   refine⟨?_,HA.out.2.1.fq (p:=⟨g9,x,none⟩) (fun h=>ef HA.out.1 HA.out.2.1 (by decide) g9 rfl h.symm) _,HA.out.2.2.1.setCell (p:=⟨g9,x,none⟩) (le_refl _) _⟩;have:=uA HA.out.1 x jq (.int .i64 (j:Int));rwa [zp3] at this
  have i1:(j:Int)<i9:=by omega
  have i2:(x:Int)<(D.n:Int):=by omega
  clear c9 e9 y2 kJ;go_wp2;go_roundw
  ·exact⟨j+1,_,by go_num,by omega,⟨HP.out.1,HP.out.2.1,HP.out.2.2,HS.out⟩⟩
  simp[intOf];omega
 obtain rfl:j=i9:=by omega
 obtain⟨Wn,rfl⟩:∃Wn,Wn=wr:=⟨wr,rfl⟩
 have HN:Hid (cm Wn b0 D/\St Wn 39 b2 (zC 39)/\Below b0 w Wn/\St Wn 30 b5 #[.slice (some ⟨gU,0,none⟩) D.n D.n]/\b0<=Wn.heap.size):=⟨H3.out.1.ab kJ,H3.out.2.1.ab kJ,H3.out.2.2.1.trans (kJ.mono FD.out),HA.out.2.1,Nat.le_trans FD.out kJ.size⟩
 have rB:Hid (∀x,x<D.n->Wn.cell? ⟨gU,x,none⟩=some (.int .i64 ((f x:Nat):Int))):=fun x hx=>by
  obtain⟨g9,e9,_,_,c9⟩:=ep HA.out.1 (by omega);have e8:g9=gU:=by
   injection e9 with e9;injection e9 with e9 _;exact e9.symm
  subst e8;rw[(c9 x (by omega)).1];simp[vd,hx]
 have AE:Hid (∀x∈l9,f x=l9.idxOf x):=fun x hx=>by
  have h1:l9.idxOf x<l9.length:=List.idxOf_lt_length_iff.2 hx;have h2:=HA.out.2.2.2 (l9.idxOf x) (by have:=MI.out;omega);rw[show l9.getD (l9.idxOf x) 0=l9[l9.idxOf x] by simp[getD_eq_getElem?_getD,h1],List.getElem_idxOf h1] at h2;exact h2
 have DP:Hid (gL<Wn.heap.size/\gU<Wn.heap.size):=by
  refine⟨Nat.lt_of_lt_of_le OQ.out kJ.size,?_⟩;obtain⟨g9,e9,_,h9,_⟩:=ep HA.out.1 (by omega);injection e9 with e9;injection e9 with e9 _;rw[e9];exact h9
 have NW:Hid (∀i,i<j->Wn.cell? ⟨gL,oL+i,none⟩=some (.int .i64 ((l9.getD i 0:Nat):Int))):=fun i hi=>(kJ.cell (p:=⟨gL,oL+i,none⟩) OQ.out).trans (JD.out i (by rw[MI.out];exact hi))
 clear HA kJ;have pg:=hid HN.out.1;have k5:=al Wn (.cells (zC 39) 39);have gV:St (Wn.alloc (.cells (zC 39) 39)) 39 Wn.heap.size (zC 39):=St.new _ _ _;have J4:iK Wn Wn.heap.size D.K C (.slice none 0 0) (pV D C l9 0) (fun _=>.slice none 0 0) (.slice none 0 0) (rC D l9 0) ((Wn.alloc (.cells (zC 39) 39)).setRow Wn.heap.size (dE D.K (.slice none 0 0) (.slice none 0 0))):=iK.start (V0:=Wn) (K:=D.K) (C:=C) (ws:=fun _=>.slice none 0 0) (a:=none) (c:=0) (ms:=[]) (World.ownsRow_nil _ _ _ _) rfl k5 gV (le_refl _);have jR:=hid J4;have jk:=hid gV;clear k5 gV J4;go_upto_region 11 with (first
  | (refine pM rfl 36 _ rfl ⟨b0,0,none⟩ rfl (aP D.K) (.array 256 5) pg.out.dC underlying36 rfl (vU D.K) ?_)
  | (refine zw rfl 39 _ rfl #[(0,.agg (aP D.K))] (by first|rfl|kernel_rfl|(go_simp;done)) (.agg (dE D.K (.slice none 0 0) (.slice none 0 0))) (ZM D.K _) ?_)
  | (refine oO rfl 39 rfl (zC 39) (lP _) ?_)
  | (refine l6 rfl 39 _ _ rfl Wn.heap.size 39 (zC 39) (dE D.K (.slice none 0 0) (.slice none 0 0)) rfl rfl jk.out (by rw[ir,mA]) (by rw[fB,mA]) (xr _ _ _ _ _ _ _) ?_))
 simp only[put,sA,sB,sC];obtain⟨b4,eV⟩:∃b4,Wn.heap.size=b4:=⟨_,rfl⟩
 have EJ:=hid eV;rw[eV] at jR;rw[eV];generalize (Wn.alloc (.cells (zC 39) 39)).setRow b4 (dE D.K (.slice none 0 0) (.slice none 0 0))=W4 at jR⊢;clear eV jk;have i4:j<=32768:=by omega
 go_wp2_with fail;go_loopw [9,39] (fun _ v wr=>∃(i:Nat) (ws:Nat->Value) (aN aK:Option Addr) (cN cK:Nat),v=.int .i64 i/\i<=j/\Hid (iK Wn b4 D.K C (.slice aN i cN) (pV D C l9 i) ws (.slice aK i cK) (rC D l9 i) wr)) (fun _ v _=>j-(intOf v).toNat)
 ·exact⟨0,_,none,none,0,0,rfl,by omega,jR⟩
 clear jR;obtain⟨i,ws,aN,aK,cN,cK,rfl,hi,HT⟩:=hrel;by_cases an:i<j
 ·have tN:i<l9.length:=by rw[MI.out];exact an
  have d0:=(HT.out.bb.cell (p:=⟨gL,oL+i,none⟩) DP.out.1).trans (NW.out i an);have AU:l9.getD i 0=l9[i]:=by simp[getD_eq_getElem?_getD,tN]
  have jq:l9.getD i 0<D.n:=by rw[AU];exact NN.out.2 _ (getElem_mem tN)
  have uR:Hid ((range C).map (oo (D.nx (l9.getD i 0)) (fun y=>((f y:Nat):Int)))=(range C).map (iJ D l9 i)):=by
   show _=_;refine(List.map_congr_left fun c hc=>?_);have fH:c<C:=(by simpa using hc);have hb:=HB.out.2.2.nx (l9.getD i 0) c jq fH;unfold oo iJ zb;by_cases h1:D.nx (l9.getD i 0) c=-1
   ·rw[if_pos h1,if_pos h1]
   rw[if_neg h1,if_neg h1];have hm:(D.nx (l9.getD i 0) c).toNat∈l9:=by
    have h2:=KW (ar D.len D.nx) [0] j i an (by rw[<-HL.out.1];exact tN) (D.nx (l9.getD i 0) c).toNat (by
     unfold WE ar
     have e7:(dr (ar D.len D.nx) [0] j)[i]'(by rw[<-HL.out.1];exact tN)=l9.getD i 0:=by
      rw[AU]
      congr 1
      exact HL.out.1.symm
     unfold ar at e7
     rw[e7,HB.out.2.2.len _ jq]
     refine List.mem_map.2 ⟨c,by simpa using fH,?_⟩
     omega)
    rw[<-HL.out.1] at h2;exact h2
   dsimp only;rw[AE.out _ hm]
  have se:Hid (rC D l9 (i+1)=rC D l9 i++[D.q (l9.getD i 0)]):=zob D l9 i;have Dh:Hid (pV D C l9 (i+1)=pV D C l9 i++[(range C).map (iJ D l9 i)]):=zoa D C l9 i;have i1:(i:Int)<j:=by omega
  try dsimp only at d0
  clear AU tN;generalize l9.getD i 0=x at d0 jq uR se;have i2:(x:Int)<(D.n:Int):=by omega
  obtain⟨gM,oM,eM,rF,mo⟩:=HN.out.1.dm.rM (by omega);have nU:=HN.out.1.f2;rw[eM] at nU;have i3:(x:Int)<(D.m:Int):=by omega
  have IX:=mo x (by omega);have dG:Hid (∀W',Below Wn.heap.size Wn W'->Below Wn.heap.size Wn W'/\W'.cell? ⟨b0,257,none⟩=some (.slice (some ⟨gM,oM,none⟩) D.m D.cM)/\W'.cell? ⟨gM,oM+x,none⟩=some (.int .i64 (D.q x))):=fun W' h=>⟨h,(h.cell (p:=⟨b0,257,none⟩) HN.out.1.st.lt).trans nU,(h.cell (p:=⟨gM,oM+x,none⟩) rF).trans IX⟩
  clear eM rF mo nU IX;generalize D.q x=qx at dG se;go_upto_region 14 with fail;clear d0
  go_cut [9] from 43 to 52 (fun v wx=>v=.int .i64 (x:Int)/\∃(a9:Option Addr) (c9:Nat),iK Wn b4 D.K C (.slice aN i cN) (pV D C l9 i) ws (.slice a9 (i+1) c9) (rC D l9 (i+1)) wx)
  case first=>
   refine wp_region_held_drew (S:=fun W'=>Below Wn.heap.size Wn W'/\W'.cell? ⟨b0,257,none⟩=some (.slice (some ⟨gM,oM,none⟩) D.m D.cM)/\W'.cell? ⟨gM,oM+x,none⟩=some (.int .i64 qx)) (by kernel_rfl) (dG.out _ HT.out.bb.drew) (fun hHeld=>?_);have HO:Hid (iK Wn b4 D.K C (.slice aN i cN) (pV D C l9 i) ws (.slice aK i cK) (rC D l9 i) wr.drew):=HT.out.ab (Below.refl _ _).drew
   (refine av 0 ?_;refine av 2 ?_;refine av 3 ?_;try simp only[put,sA,sB,sC];refine av 4 ?_;refine av 5 ?_;refine av 6 ?_;try simp only[put,sA,sB,sC])
   refine wpAnyH_ready (rs:=[1,7]) (by kernel_rfl) (by simp) ?_;refine gy (fun K hK=>?_) ?_
   ·skip;have f2:=HO.out.f2;go_simp;refine hK.out _ _ (hHeld) (fun hHeld=>?_);clear hK K
    try simp only[put,sA,sB,sC]
    clear f2;refine bq 7 (fun K hK=>?_);skip;go_simp;have kk:=al wr.drew (.cells #[.int .i64 qx] 3);have lJ:Hid (∀j u,[Value.int .i64 qx][j]?=some u->((wr.alloc (.cells #[.int .i64 qx] 3)).drew).cell? ((⟨wr.heap.size,0,none⟩:Addr).add j)=some u):=cell_one_new wr.drew _ _;have HO:Hid (iK Wn b4 D.K C (.slice aN i cN) (pV D C l9 i) ws (.slice aK i cK) (rC D l9 i) ((wr.alloc (.cells #[.int .i64 qx] 3)).drew)):=HO.out.ab kk;refine hK.out _ _ (dG.out _ HO.out.bb) (fun hHeld=>?_);clear hK K
    try simp only[put,sA,sB,sC]
    clear kk;generalize (wr.alloc (.cells #[.int .i64 qx] 3)).drew=V5 at lJ HO hHeld⊢;refine bq 8 (fun K hK=>?_);skip;have hO:=HO.out.dj;rw[Ku] at hO;refine GU (by rfl) _ _ _ (by rfl) Wn.heap.size 3 iI (.int .i64 0) 1 8 underlying30 hI pW p9 qa (by rfl) (by decide) _ i (ints (rC D l9 i)) (by rfl) hO ⟨wr.heap.size,0,none⟩ 1 1 [.int .i64 qx] (by rfl) (by rfl) lJ.out (by intro u hu;simp at hu;subst hu;rfl) (by unfold maxLen;omega) (by omega) HO.out.bb.size ?_;intro v6 w6 aj af db;obtain⟨a9,c9,rfl⟩:=bJ aj;have rX:=hid (HO.out.mF (vK':=.slice a9 (i+1) c9) (Ku D l9 i) aj af db);have h9:=HO.out.st.ae HO.out.dj (by decide) af;have z2:w6.cell? ⟨b4,257,none⟩=some (.slice aK i cK):=(by rw[h9.at_,yh]);have z3:w6.frozen? ⟨b4,257,none⟩=false:=h9.aZ 257;have eJ:=fC HO.out.bb HO.out.dj HO.out.bb.size af;clear aj af db h9 hO;refine hK.out _ _ (dG.out _ eJ) (fun hHeld=>?_);clear hK K
    try simp only[put,sA,sB,sC]
    (refine av 9 ?_;try simp only[put,sA,sB,sC])
    refine bq 10 (fun K hK=>?_);skip;go_simp;refine hK.out _ _ (dG.out _ rX.out.bb) (fun hHeld=>?_);clear hK K
    try simp only[put,sA,sB,sC]
    refine wpAnyH_done (by kernel_rfl) ?_ _;rw[<-se.out] at rX;clear hHeld z2 z3 eJ;go_wp2_with fail
    go_meet
    exact⟨rfl,a9,c9,rX.out⟩
   refine gy (fun K hK=>?_) ?_
   ·skip;go_simp;have kk:=al wr.drew (.cells #[.int .i64 qx] 3);have lJ:Hid (∀j u,[Value.int .i64 qx][j]?=some u->((wr.alloc (.cells #[.int .i64 qx] 3)).drew).cell? ((⟨wr.heap.size,0,none⟩:Addr).add j)=some u):=cell_one_new wr.drew _ _;have HO:Hid (iK Wn b4 D.K C (.slice aN i cN) (pV D C l9 i) ws (.slice aK i cK) (rC D l9 i) ((wr.alloc (.cells #[.int .i64 qx] 3)).drew)):=HO.out.ab kk;refine hK.out _ _ (dG.out _ HO.out.bb) (fun hHeld=>?_);clear hK K
    try simp only[put,sA,sB,sC]
    clear kk;generalize (wr.alloc (.cells #[.int .i64 qx] 3)).drew=V5 at lJ HO hHeld⊢;refine bq 1 (fun K hK=>?_);skip;have f2:=HO.out.f2;go_simp;refine hK.out _ _ (hHeld) (fun hHeld=>?_);clear hK K
    try simp only[put,sA,sB,sC]
    clear f2;refine bq 8 (fun K hK=>?_);skip;have hO:=HO.out.dj;rw[Ku] at hO;refine GU (by rfl) _ _ _ (by rfl) Wn.heap.size 3 iI (.int .i64 0) 1 8 underlying30 hI pW p9 qa (by rfl) (by decide) _ i (ints (rC D l9 i)) (by rfl) hO ⟨wr.heap.size,0,none⟩ 1 1 [.int .i64 qx] (by rfl) (by rfl) lJ.out (by intro u hu;simp at hu;subst hu;rfl) (by unfold maxLen;omega) (by omega) HO.out.bb.size ?_;intro v6 w6 aj af db;obtain⟨a9,c9,rfl⟩:=bJ aj;have rX:=hid (HO.out.mF (vK':=.slice a9 (i+1) c9) (Ku D l9 i) aj af db);have h9:=HO.out.st.ae HO.out.dj (by decide) af;have z2:w6.cell? ⟨b4,257,none⟩=some (.slice aK i cK):=(by rw[h9.at_,yh]);have z3:w6.frozen? ⟨b4,257,none⟩=false:=h9.aZ 257;have eJ:=fC HO.out.bb HO.out.dj HO.out.bb.size af;clear aj af db h9 hO;refine hK.out _ _ (dG.out _ eJ) (fun hHeld=>?_);clear hK K
    try simp only[put,sA,sB,sC]
    (refine av 9 ?_;try simp only[put,sA,sB,sC])
    refine bq 10 (fun K hK=>?_);skip;go_simp;refine hK.out _ _ (dG.out _ rX.out.bb) (fun hHeld=>?_);clear hK K
    try simp only[put,sA,sB,sC]
    refine wpAnyH_done (by kernel_rfl) ?_ _;rw[<-se.out] at rX;clear hHeld z2 z3 eJ;go_wp2_with fail
    go_meet
    exact⟨rfl,a9,c9,rX.out⟩
   exact AllReadyH.nil
  case rest=>
   obtain⟨rfl,a9,c9,UI⟩:=hcut;have Yl:=hid UI;clear UI HT;obtain⟨gN,oN,eN,lH,pv⟩:=HN.out.1.dm.rN (by omega);have Fa:=HN.out.1.f1;rw[eN] at Fa;obtain⟨qj,zN⟩:=pv x jq;have hlen:=HB.out.2.2.len x jq;rw[hlen] at qj zN;have xK:=hid zN;have my:Hid (∀W',Below Wn.heap.size Wn W'->Below Wn.heap.size Wn W'/\W'.cell? ⟨b0,256,none⟩=some (.slice (some ⟨gN,oN,none⟩) D.n D.cN)/\W'.cell? ⟨gN,oN+x,none⟩=some (.slice (D.A x) C (D.Cp x))):=(fun W' h=>⟨h,(h.cell (p:=⟨b0,256,none⟩) HN.out.1.st.lt).trans Fa,(h.cell (p:=⟨gN,oN+x,none⟩) lH).trans qj⟩);clear eN lH pv Fa qj zN hlen dG;go_upto_region 15 with fail;refine wp_region_held_drew (S:=fun W'=>Below Wn.heap.size Wn W'/\W'.cell? ⟨b0,256,none⟩=some (.slice (some ⟨gN,oN,none⟩) D.n D.cN)/\W'.cell? ⟨gN,oN+x,none⟩=some (.slice (D.A x) C (D.Cp x))) (by kernel_rfl) (my.out _ Yl.out.bb.drew) (fun hHeld=>?_);have HO:Hid (iK Wn b4 D.K C (.slice aN i cN) (pV D C l9 i) ws (.slice a9 (i+1) c9) (rC D l9 (i+1)) wc.drew):=Yl.out.ab (Below.refl _ _).drew
   (refine av 0 ?_;refine av 2 ?_;refine av 3 ?_;try simp only[put,sA,sB,sC];refine av 4 ?_;refine av 5 ?_;refine av 6 ?_;try simp only[put,sA,sB,sC];refine av 7 ?_;try simp only[put,sA,sB,sC])
   refine wpAnyH_ready (rs:=[1,8]) (by kernel_rfl) (by simp) ?_;refine gy (fun K hK=>?_) ?_
   ·skip;have f1:=HO.out.f1;go_simp;refine hK.out _ _ (hHeld) (fun hHeld=>?_);clear hK K
    try simp only[put,sA,sB,sC]
    clear f1;refine bq 8 (fun K hK=>?_);skip;have iG:=(HO.out.next.lt).2;have jB:=lB HO.out.dj;go_simp;go_at_call 86;refine (Lc 87 b5 D.n (fun y=>((f y:Nat):Int)) C (D.Cp x) (D.A x) (D.nx x) _ WL (fun W' h y hy=>V9 b5 D.n gU f W' ((HN.out.2.2.2.1.ab HO.out.bb).ab h) (fun z hz=>((HO.out.bb.trans (h.mono HO.out.bb.size)).cell (p:=⟨gU,z,none⟩) DP.out.2).trans (rB.out z hz)) y hy) (by omega) (xK.out.below HO.out.bb) (fun c hc=>HB.out.2.2.nx x c jq hc) (by omega)).mono ?_;rintro e w5 ⟨a5,c5,rfl,jl,zV⟩;have HU:Hid (w5.ownsRow Wn.heap.size 3 1 (.slice a5 C c5) C (ints ((range C).map (iJ D l9 i)))/\(∀j,j<(pV D C l9 i).length->∀b,(ws j).ownBlock=some b->(Value.slice a5 C c5).ownBlock≠some b)/\∀b,(Value.slice a5 C c5).ownBlock=some b->(Value.slice a9 (i+1) c9).ownBlock≠some b):=by
     have jN:=kq jl;refine⟨?_,fun j hj b e1 e2=>?_,fun b e1 e2=>?_⟩
     ·rw[<-uR.out];exact gE jl HO.out.bb.size
     ·have h1:=iG j hj b e1;have h2:=jN b e2
      try simp only[kG] at h1
      try simp only[kG] at h2
      omega
     have h1:=jB b e2;have h2:=jN b e1
     try simp only[kG] at h1
     try simp only[kG] at h2
     omega
    have HO:=hid (HO.out.ab zV);clear jl zV iG jB
    try go_wp2_with fail
    refine hK.out _ _ (my.out _ HO.out.bb) (fun hHeld=>?_);clear hK K
    try simp only[put,sA,sB,sC]
    refine bq 9 (fun K hK=>?_);skip;go_simp;have kk:=al w5 (.cells #[.slice a5 C c5] 30);have lJ:Hid (∀j u,[Value.slice a5 C c5][j]?=some u->(w5.alloc (.cells #[.slice a5 C c5] 30)).cell? ((⟨w5.heap.size,0,none⟩:Addr).add j)=some u):=cell_one_new _ _ _;have HO:=hid (HO.out.ab kk);have HU:=hid (Zz (cW HU.out.1 kk) HU.out.2);refine hK.out _ _ (my.out _ HO.out.bb) (fun hHeld=>?_);clear hK K
    try simp only[put,sA,sB,sC]
    clear kk;generalize w5.alloc (.cells #[.slice a5 C c5] 30)=V5 at lJ HO HU hHeld⊢;refine bq 10 (fun K hK=>?_);skip;have hO:=(HO.out.next.own);rw[DJ] at hO;refine rz (by rfl) _ _ _ (by rfl) Wn.heap.size 30 iV (.slice none 0 0) 1 24 underlying37 hV um uU uL (by rfl) (by decide) _ i ((range i).map ws) (by rfl) hO ⟨w5.heap.size,0,none⟩ 1 1 [.slice a5 C c5] (by rfl) (by rfl) lJ.out (by intro u hu;simp at hu;subst hu;rfl) (by unfold maxLen;omega) (by omega) HO.out.bb.size ?_;intro v6 w6 aj af;obtain⟨a7,c7,rfl⟩:=bJ aj;have jH:=hid (HO.out.gj (u:=.slice a5 C c5) (vN':=.slice a7 (i+1) c7) HU.out.1 HU.out.2.1 HU.out.2.2 (DJ D C l9 i) aj af);have h9:=(HO.out.st.ae HO.out.next.own (by decide) af);have z2:w6.cell? ⟨b4,256,none⟩=some (.slice aN i cN):=(by rw[h9.at_,p7]);have z3:w6.frozen? ⟨b4,256,none⟩=false:=h9.aZ 256;have eJ:=(fC HO.out.bb HO.out.next.own HO.out.bb.size af);clear aj af h9 hO;refine hK.out _ _ (my.out _ eJ) (fun hHeld=>?_);clear hK K
    try simp only[put,sA,sB,sC]
    (refine av 11 ?_;try simp only[put,sA,sB,sC])
    refine bq 12 (fun K hK=>?_);skip;go_simp;refine hK.out _ _ (my.out _ jH.out.bb) (fun hHeld=>?_);clear hK K
    try simp only[put,sA,sB,sC]
    refine wpAnyH_done (by kernel_rfl) ?_ _;rw[<-Dh.out] at jH;clear hHeld z2 z3 eJ;go_wp2;go_roundw
    ·exact⟨i+1,_,a7,a9,c7,c9,by go_num,by omega,jH⟩
    simp[intOf];omega
   refine gy (fun K hK=>?_) ?_
   ·skip;have iG:=(HO.out.next.lt).2;have jB:=lB HO.out.dj;go_simp;go_at_call 86;refine (Lc 87 b5 D.n (fun y=>((f y:Nat):Int)) C (D.Cp x) (D.A x) (D.nx x) _ WL (fun W' h y hy=>V9 b5 D.n gU f W' ((HN.out.2.2.2.1.ab HO.out.bb).ab h) (fun z hz=>((HO.out.bb.trans (h.mono HO.out.bb.size)).cell (p:=⟨gU,z,none⟩) DP.out.2).trans (rB.out z hz)) y hy) (by omega) (xK.out.below HO.out.bb) (fun c hc=>HB.out.2.2.nx x c jq hc) (by omega)).mono ?_;rintro e w5 ⟨a5,c5,rfl,jl,zV⟩;have HU:Hid (w5.ownsRow Wn.heap.size 3 1 (.slice a5 C c5) C (ints ((range C).map (iJ D l9 i)))/\(∀j,j<(pV D C l9 i).length->∀b,(ws j).ownBlock=some b->(Value.slice a5 C c5).ownBlock≠some b)/\∀b,(Value.slice a5 C c5).ownBlock=some b->(Value.slice a9 (i+1) c9).ownBlock≠some b):=by
     have jN:=kq jl;refine⟨?_,fun j hj b e1 e2=>?_,fun b e1 e2=>?_⟩
     ·rw[<-uR.out];exact gE jl HO.out.bb.size
     ·have h1:=iG j hj b e1;have h2:=jN b e2
      try simp only[kG] at h1
      try simp only[kG] at h2
      omega
     have h1:=jB b e2;have h2:=jN b e1
     try simp only[kG] at h1
     try simp only[kG] at h2
     omega
    have HO:=hid (HO.out.ab zV);clear jl zV iG jB
    try go_wp2_with fail
    refine hK.out _ _ (my.out _ HO.out.bb) (fun hHeld=>?_);clear hK K
    try simp only[put,sA,sB,sC]
    refine wpAnyH_ready (rs:=[1,9]) (by kernel_rfl) (by simp) ?_;refine gy (fun K hK=>?_) ?_
    ·skip;have f1:=HO.out.f1;go_simp;refine hK.out _ _ (hHeld) (fun hHeld=>?_);clear hK K
     try simp only[put,sA,sB,sC]
     clear f1;refine bq 9 (fun K hK=>?_);skip;go_simp;have kk:=al w5 (.cells #[.slice a5 C c5] 30);have lJ:Hid (∀j u,[Value.slice a5 C c5][j]?=some u->(w5.alloc (.cells #[.slice a5 C c5] 30)).cell? ((⟨w5.heap.size,0,none⟩:Addr).add j)=some u):=cell_one_new _ _ _;have HO:=hid (HO.out.ab kk);have HU:=hid (Zz (cW HU.out.1 kk) HU.out.2);refine hK.out _ _ (my.out _ HO.out.bb) (fun hHeld=>?_);clear hK K
     try simp only[put,sA,sB,sC]
     clear kk;generalize w5.alloc (.cells #[.slice a5 C c5] 30)=V5 at lJ HO HU hHeld⊢;refine bq 10 (fun K hK=>?_);skip;have hO:=(HO.out.next.own);rw[DJ] at hO;refine rz (by rfl) _ _ _ (by rfl) Wn.heap.size 30 iV (.slice none 0 0) 1 24 underlying37 hV um uU uL (by rfl) (by decide) _ i ((range i).map ws) (by rfl) hO ⟨w5.heap.size,0,none⟩ 1 1 [.slice a5 C c5] (by rfl) (by rfl) lJ.out (by intro u hu;simp at hu;subst hu;rfl) (by unfold maxLen;omega) (by omega) HO.out.bb.size ?_;intro v6 w6 aj af;obtain⟨a7,c7,rfl⟩:=bJ aj;have jH:=hid (HO.out.gj (u:=.slice a5 C c5) (vN':=.slice a7 (i+1) c7) HU.out.1 HU.out.2.1 HU.out.2.2 (DJ D C l9 i) aj af);have h9:=(HO.out.st.ae HO.out.next.own (by decide) af);have z2:w6.cell? ⟨b4,256,none⟩=some (.slice aN i cN):=(by rw[h9.at_,p7]);have z3:w6.frozen? ⟨b4,256,none⟩=false:=h9.aZ 256;have eJ:=(fC HO.out.bb HO.out.next.own HO.out.bb.size af);clear aj af h9 hO;refine hK.out _ _ (my.out _ eJ) (fun hHeld=>?_);clear hK K
     try simp only[put,sA,sB,sC]
     (refine av 11 ?_;try simp only[put,sA,sB,sC])
     refine bq 12 (fun K hK=>?_);skip;go_simp;refine hK.out _ _ (my.out _ jH.out.bb) (fun hHeld=>?_);clear hK K
     try simp only[put,sA,sB,sC]
     refine wpAnyH_done (by kernel_rfl) ?_ _;rw[<-Dh.out] at jH;clear hHeld z2 z3 eJ;go_wp2;go_roundw
     ·exact⟨i+1,_,a7,a9,c7,c9,by go_num,by omega,jH⟩
     simp[intOf];omega
    refine gy (fun K hK=>?_) ?_
    ·skip;go_simp;have kk:=al w5 (.cells #[.slice a5 C c5] 30);have lJ:Hid (∀j u,[Value.slice a5 C c5][j]?=some u->(w5.alloc (.cells #[.slice a5 C c5] 30)).cell? ((⟨w5.heap.size,0,none⟩:Addr).add j)=some u):=cell_one_new _ _ _;have HO:=hid (HO.out.ab kk);have HU:=hid (Zz (cW HU.out.1 kk) HU.out.2);refine hK.out _ _ (my.out _ HO.out.bb) (fun hHeld=>?_);clear hK K
     try simp only[put,sA,sB,sC]
     clear kk;generalize w5.alloc (.cells #[.slice a5 C c5] 30)=V5 at lJ HO HU hHeld⊢;refine bq 1 (fun K hK=>?_);skip;have f1:=HO.out.f1;go_simp;refine hK.out _ _ (hHeld) (fun hHeld=>?_);clear hK K
     try simp only[put,sA,sB,sC]
     clear f1;refine bq 10 (fun K hK=>?_);skip;have hO:=(HO.out.next.own);rw[DJ] at hO;refine rz (by rfl) _ _ _ (by rfl) Wn.heap.size 30 iV (.slice none 0 0) 1 24 underlying37 hV um uU uL (by rfl) (by decide) _ i ((range i).map ws) (by rfl) hO ⟨w5.heap.size,0,none⟩ 1 1 [.slice a5 C c5] (by rfl) (by rfl) lJ.out (by intro u hu;simp at hu;subst hu;rfl) (by unfold maxLen;omega) (by omega) HO.out.bb.size ?_;intro v6 w6 aj af;obtain⟨a7,c7,rfl⟩:=bJ aj;have jH:=hid (HO.out.gj (u:=.slice a5 C c5) (vN':=.slice a7 (i+1) c7) HU.out.1 HU.out.2.1 HU.out.2.2 (DJ D C l9 i) aj af);have h9:=(HO.out.st.ae HO.out.next.own (by decide) af);have z2:w6.cell? ⟨b4,256,none⟩=some (.slice aN i cN):=(by rw[h9.at_,p7]);have z3:w6.frozen? ⟨b4,256,none⟩=false:=h9.aZ 256;have eJ:=(fC HO.out.bb HO.out.next.own HO.out.bb.size af);clear aj af h9 hO;refine hK.out _ _ (my.out _ eJ) (fun hHeld=>?_);clear hK K
     try simp only[put,sA,sB,sC]
     (refine av 11 ?_;try simp only[put,sA,sB,sC])
     refine bq 12 (fun K hK=>?_);skip;go_simp;refine hK.out _ _ (my.out _ jH.out.bb) (fun hHeld=>?_);clear hK K
     try simp only[put,sA,sB,sC]
     refine wpAnyH_done (by kernel_rfl) ?_ _;rw[<-Dh.out] at jH;clear hHeld z2 z3 eJ;go_wp2;go_roundw
     ·exact⟨i+1,_,a7,a9,c7,c9,by go_num,by omega,jH⟩
     simp[intOf];omega
    exact AllReadyH.nil
   exact AllReadyH.nil
 obtain rfl:i=j:=by omega
 have jk:=hid HT.out.st;have fQ:=hid (HN.out.2.1.ab HT.out.bb);have hd:=mA D.K (.slice aN i cN) (.slice aK i cK);have EA:Hid (w.heap.size<=Wn.heap.size):=by have h1:=HN.out.2.2.2.2;have h2:=Hb.out.1;show _<=_;omega
 have AQ:Hid (Below w.heap.size w (wr.setRow b2 (dE D.K (.slice aN i cN) (.slice aK i cK)))):=by
  rw[Hb.out.1];exact lk (HN.out.2.2.1.trans (HT.out.bb.mono HN.out.2.2.2.2)) (by have:=Hb.out;omega) _
 have HF:Hid (C1 D C i (iJ D l9) (fun i=>D.q (l9.getD i 0)) w (.returned (.agg (dE D.K (.slice aN i cN) (.slice aK i cK)))) (wr.setRow b2 (dE D.K (.slice aN i cN) (.slice aK i cK)))):=
  HT.out.Sm HB.out.1.dm.kl (DJ D C l9 i) (fun r hr=>by unfold pV at hr;obtain⟨j,_,rfl⟩:=List.mem_map.1 hr;simp) rfl (fun j hj c hc=>by unfold pV;simp[getD_eq_getElem?_getD,hj,hc]) EA.out (Or.inr ⟨b2,_,_,fQ.out,rfl⟩) AQ.out
 go_wp2_with (first|(refine pM rfl 39 _ rfl ⟨b4,0,none⟩ rfl (dE D.K (.slice aN i cN) (.slice aK i cK)) _ jk.out.part underlying39 rfl (by rw[fB,hd]) ?_)|(refine l6 rfl 39 _ _ rfl b2 39 (zC 39) (dE D.K (.slice aN i cN) (.slice aK i cK)) rfl rfl fQ.out (by rw[ir,hd]) (by rw[fB,hd]) (xr _ _ _ _ _ _ _) ?_));refine bodyPost_ret (results_cell_row rfl _ _ b2 39 (dE D.K (.slice aN i cN) (.slice aK i cK)) (0,0) _ rfl fQ.out.setRow underlying39 rfl (by rw[fB,hd])) rfl ?_;exact HF.out
def oJ(D:Dd)(C n':Nat)(EG:Nat->Nat->Int)(q':Nat->Int)(D':Dd):Prop:=
 D'.K=D.K/\D'.n=n'/\D'.m=n'/\(∀i,i<n'->D'.len i=C)/\(∀i,i<n'->∀c,c<C->D'.nx i c=EG i c)/\∀i,i<n'->D'.q i=q' i
end Go.Proofs.YtbacgnhkapancaaGreat
