import Derived.Test.YtiijebameffenaaGreatZDMath
import Derived.Test.YtiijebameffenaaGreatZDREnds1
import Derived.Test.YtiijebameffenaaGreatZTk
set_option linter.all false
set_option maxHeartbeats 2000000
set_option maxRecDepth 100000
open Go.Lib (hid)
namespace Go.Proofs.YtiijebameffenaaGreat
open Go.RowKit Go.Proofs.Tryz
open Nat (le_refl le_trans)
open IntWalk (i64_in)
open Act (put)
open Or (inl inr)
variable {E:(Nat->Bool)->Nat->Bool}{L:List Nat}{N:Nat}{f:Nat->Bool}
theorem znd(x:Pc)(s t:Rx)(hk:x.k=2)(hw:((Rx.bin x s t)).wf)(ih:uo s)(jh:uo t):uo (.bin x s t):=by
 intro s0 N hs hN g off n cap w f a c hL hn dZ dq hF;obtain⟨m,hm⟩:=Ξ (n-1)
 have hpos:=(Rx.bin x s t).aZ;have dr:n=m+1:=by omega
 obtain⟨g',lF,e,hg,d0,-⟩:=hL.get m (by omega);simp at e;obtain⟨rfl,rfl⟩:=e;have oI:(Rx.bin x s t).flat[m]'(by omega)=x:=by
  have h1:=(Rx.bin x s t).j7;rw[hn,hm,List.getElem?_eq_getElem (by omega)] at h1;exact Option.some.inj h1
 rw[oI] at d0;have hB:ϐ w (w.alloc (.cells (madeCells #[.bool false] (N+1)) 4)):=(Below.refl _ _).alloc (le_refl _) _;have HC:=hid (Ew (.bin x s t) hw g off n cap _ (hL.below hB) hn dZ dq);have HB:=hid hB;have HF:=hid hF;have HK:=hid hk;have HS:=hid hs;have gP:=Cc N hN;have cQ:=hB.size;have en:(n:Int)-1=(m:Int):=by omega
 have ly:m<n:=by omega
 have tZ:n<=9223372036854775807:=by have:=dq.1;have:=dq.2;unfold maxLen at this;omega
 have Ac:s.flat.length<=1000000/\t.flat.length<=1000000:=by
  have:(Rx.bin x s t).flat.length=s.flat.length+t.flat.length+1:=by simp[Rx.flat];omega
  omega
 clear hL hn dq hB oI hw dr hm hpos hk hs hF;go_in;go_wp2_with fail;refine HC.o.mono ?_;rintro e w5 ⟨aL,cL,rfl,qy,b5⟩;have eB:=HB.o.trans (b5.mono cQ);have jE:=eB.size;have e0:=(eB.cell (p:=⟨g,off+m*5,none⟩) hg).trans d0;have uR:=hid (HF.o.below eB);have hk:=HK.o;have k0:(x.k == 0)=false:=by simp;omega
 have k1:(x.k == 1)=false:=by simp;omega
 have k2:(x.k == 2)=true:=by simp[hk]
 obtain⟨b,g1,o1,c1,rfl,ie,sr,_,eC,jD,lH⟩:=qy 0 (by show 0<2;decide);obtain⟨b',g2,o2,c2,px,gj,AT,_,_,mC,zv⟩:=qy 1 (by show 1<2;decide);simp at px;subst px;obtain⟨n1,dr⟩:=Ξ s.flat.length
 obtain⟨n2,dd⟩:=Ξ t.flat.length
 have t1:w5.cell? ⟨b,0,none⟩=some (.slice (some ⟨g1,o1,none⟩) n1 c1):=by rw[<-dr];exact ie
 have t2:w5.cell? ⟨b,1,none⟩=some (.slice (some ⟨g2,o2,none⟩) n2 c2):=by rw[<-dd];exact gj
 have HI:=hid (fun (W:World) (bw:ϐ w5 W) (f:Nat->Bool) (a:Option Addr) (c:Nat) (hf:pN W a (N+1) f)=>ih s0 N HS.o hN g1 o1 n1 c1 W f a c (sr.below bw) dr (by omega) ⟨by rw[<-dr];exact jD,lH⟩ hf);have HJ:=hid (fun (W:World) (bw:ϐ w5 W) (f:Nat->Bool) (a:Option Addr) (c:Nat) (hf:pN W a (N+1) f)=>jh s0 N HS.o hN g2 o2 n2 c2 W f a c (AT.below bw) dd (by omega) ⟨by rw[<-dd];exact mC,zv⟩ hf);rw[show (Rx.bin x s t).kids.length=2 from rfl];have HE:Hid (dz s0 N (.bin x s t) f=dz s0 N t (dz s0 N s f)):=by show (if x.k=2 then _ else _:(Nat->Bool))=_;rw[if_pos hk]
 clear qy ie sr dr jD lH gj AT dd mC zv hk;have zF:True:=trivial;have zg:True:=trivial;go_wp2_with fail
 go_region_with (first
  | (have _t:=zF;go_at_call 90;refine (HI.o w5.drew (Below.refl _ _).drew f a c uR.o).mono ?_;rintro e w6 ⟨a6,c6,rfl,h6,mo⟩;have b6:ϐ w5 w6:=⟨mo.os,mo.tape,mo.output,mo.size,mo.block⟩;have t6:=(b6.cell (p:=⟨b,1,none⟩) eC).trans t2;clear _t zF)
  | (have _u:=zg;go_at_call 90;refine (HJ.o w6 b6 (dz s0 N s f) a6 c6 h6).mono ?_;rintro e w7 ⟨a7,c7,rfl,h7,b7⟩;clear _u zg))
 all_goals
  go_wp2
  go_ret
  exact⟨a7,c7,rfl,by rw[HE.o];exact h7,(eB.trans (b6.mono jE)).trans (b7.mono (le_trans jE b6.size))⟩
theorem zne(x:Pc)(s t:Rx)(hk:x.k=3)(hw:((Rx.bin x s t)).wf)(ih:uo s)(jh:uo t):uo (.bin x s t):=by
 intro s0 N hs hN g off n cap w f a c hL hn dZ dq hF;obtain⟨m,hm⟩:=Ξ (n-1)
 have hpos:=(Rx.bin x s t).aZ;have dr:n=m+1:=by omega
 obtain⟨g',lF,e,hg,d0,-⟩:=hL.get m (by omega);simp at e;obtain⟨rfl,rfl⟩:=e;have oI:(Rx.bin x s t).flat[m]'(by omega)=x:=by
  have h1:=(Rx.bin x s t).j7;rw[hn,hm,List.getElem?_eq_getElem (by omega)] at h1;exact Option.some.inj h1
 rw[oI] at d0;have hB:ϐ w (w.alloc (.cells (madeCells #[.bool false] (N+1)) 4)):=(Below.refl _ _).alloc (le_refl _) _;have HC:=hid (Ew (.bin x s t) hw g off n cap _ (hL.below hB) hn dZ dq);have HB:=hid hB;have HF:=hid hF;have HK:=hid hk;have HS:=hid hs;have gP:=Cc N hN;have cQ:=hB.size;have en:(n:Int)-1=(m:Int):=by omega
 have ly:m<n:=by omega
 have tZ:n<=9223372036854775807:=by have:=dq.1;have:=dq.2;unfold maxLen at this;omega
 have Ac:s.flat.length<=1000000/\t.flat.length<=1000000:=by
  have:(Rx.bin x s t).flat.length=s.flat.length+t.flat.length+1:=by simp[Rx.flat];omega
  omega
 clear hL hn dq hB oI hw dr hm hpos hk hs hF;go_in;go_wp2_with fail;refine HC.o.mono ?_;rintro e w5 ⟨aL,cL,rfl,qy,b5⟩;have eB:=HB.o.trans (b5.mono cQ);have jE:=eB.size;have e0:=(eB.cell (p:=⟨g,off+m*5,none⟩) hg).trans d0;have uR:=hid (HF.o.below eB);have hk:=HK.o;have k0:(x.k == 0)=false:=by simp;omega
 have k1:(x.k == 1)=false:=by simp;omega
 have k2:(x.k == 2)=false:=by simp;omega
 have k3:(x.k == 3)=true:=by simp[hk]
 obtain⟨b,g1,o1,c1,rfl,ie,sr,_,eC,jD,lH⟩:=qy 0 (by show 0<2;decide);obtain⟨b',g2,o2,c2,px,gj,AT,_,_,mC,zv⟩:=qy 1 (by show 1<2;decide);simp at px;subst px;obtain⟨n1,dr⟩:=Ξ s.flat.length
 obtain⟨n2,dd⟩:=Ξ t.flat.length
 have t1:w5.cell? ⟨b,0,none⟩=some (.slice (some ⟨g1,o1,none⟩) n1 c1):=by rw[<-dr];exact ie
 have t2:w5.cell? ⟨b,1,none⟩=some (.slice (some ⟨g2,o2,none⟩) n2 c2):=by rw[<-dd];exact gj
 have HI:=hid (fun (W:World) (bw:ϐ w5 W) (f:Nat->Bool) (a:Option Addr) (c:Nat) (hf:pN W a (N+1) f)=>ih s0 N HS.o hN g1 o1 n1 c1 W f a c (sr.below bw) dr (by omega) ⟨by rw[<-dr];exact jD,lH⟩ hf);have HJ:=hid (fun (W:World) (bw:ϐ w5 W) (f:Nat->Bool) (a:Option Addr) (c:Nat) (hf:pN W a (N+1) f)=>jh s0 N HS.o hN g2 o2 n2 c2 W f a c (AT.below bw) dd (by omega) ⟨by rw[<-dd];exact mC,zv⟩ hf);rw[show (Rx.bin x s t).kids.length=2 from rfl];have HE:Hid (dz s0 N (.bin x s t) f=lD (dz s0 N s f) (dz s0 N t f)):=by show (if x.k=2 then _ else _:(Nat->Bool))=_;rw[if_neg (by omega)]
 clear qy ie sr dr jD lH gj AT dd mC zv hk;have zF:True:=trivial;have zg:True:=trivial;go_wp2_with fail
 go_region_with (first
  | (have _t:=zF;go_at_call 90;refine (HI.o w5.drew (Below.refl _ _).drew f a c uR.o).mono ?_;rintro e w6 ⟨a6,c6,rfl,h6,mo⟩;have b6:ϐ w5 w6:=⟨mo.os,mo.tape,mo.output,mo.size,mo.block⟩;have t6:=(b6.cell (p:=⟨b,1,none⟩) eC).trans t2;have Ku:=hid (uR.o.below b6);clear _t zF)
  | (have _u:=zg;go_at_call 90;refine (HJ.o w6 b6 f a c Ku.o).mono ?_;rintro e w7 ⟨a7,c7,rfl,h7,b7⟩;have h67:=h6.below b7;clear _u zg)
  | (go_at_call 109;refine (TQ (dz s0 N s f) (dz s0 N t f) a6 a7 (N+1) c6 c7 w7 h67 h7 (by omega)).mono ?_;rintro e w8 ⟨a8,c8,rfl,h8,b8⟩))
 all_goals
  go_wp2
  go_ret
  exact⟨a8,c8,rfl,by rw[HE.o];exact Ow h8,((eB.trans (b6.mono jE)).trans (b7.mono (le_trans jE b6.size))).trans (b8.mono (le_trans jE (le_trans b6.size b7.size)))⟩
theorem zkT(x:Pc)(s:Rx)(hk:x.k=5)(hw:((Rx.un x s)).wf)(ih:uo s):uo (.un x s):=by
 intro s0 N hs hN g off n cap w f a c hL hn dZ dq hF;obtain⟨m,hm⟩:=Ξ (n-1)
 have hpos:=(Rx.un x s).aZ;have dr:n=m+1:=by omega
 obtain⟨g',lF,e,hg,d0,-⟩:=hL.get m (by omega);simp at e;obtain⟨rfl,rfl⟩:=e;have oI:(Rx.un x s).flat[m]'(by omega)=x:=by
  have h1:=(Rx.un x s).j7;rw[hn,hm,List.getElem?_eq_getElem (by omega)] at h1;exact Option.some.inj h1
 rw[oI] at d0;have hB:ϐ w (w.alloc (.cells (madeCells #[.bool false] (N+1)) 4)):=(Below.refl _ _).alloc (le_refl _) _;have HC:=hid (Ew (.un x s) hw g off n cap _ (hL.below hB) hn dZ dq);have HB:=hid hB;have HF:=hid hF;have HK:=hid hk;have HS:=hid hs;have gP:=Cc N hN;have cQ:=hB.size;have en:(n:Int)-1=(m:Int):=by omega
 have ly:m<n:=by omega
 have tZ:n<=9223372036854775807:=by have:=dq.1;have:=dq.2;unfold maxLen at this;omega
 have Ac:s.flat.length<=1000000:=by
  have:(Rx.un x s).flat.length=s.flat.length+1:=by simp[Rx.flat]
  omega
 clear hL hn dq hB oI hw dr hm hpos hk hs hF;go_in;go_wp2_with fail;refine HC.o.mono ?_;rintro e w5 ⟨aL,cL,rfl,qy,b5⟩;have eB:=HB.o.trans (b5.mono cQ);have jE:=eB.size;have e0:=(eB.cell (p:=⟨g,off+m*5,none⟩) hg).trans d0;have uR:=hid (HF.o.below eB);have hk:=HK.o;have k0:(x.k == 0)=false:=by simp;omega
 have k1:(x.k == 1)=false:=by simp;omega
 have k2:(x.k == 2)=false:=by simp;omega
 have k3:(x.k == 3)=false:=by simp;omega
 have k6:(x.k == 6)=false:=by simp;omega
 have k4:(x.k == 4)=false:=by simp;omega
 obtain⟨b,g1,o1,c1,rfl,ie,sr,_,eC,jD,lH⟩:=qy 0 (by show 0<1;decide);obtain⟨n1,dr⟩:=Ξ s.flat.length
 have t1:w5.cell? ⟨b,0,none⟩=some (.slice (some ⟨g1,o1,none⟩) n1 c1):=by rw[<-dr];exact ie
 have HI:=hid (fun (W:World) (bw:ϐ w5 W) (f:Nat->Bool) (a:Option Addr) (c:Nat) (hf:pN W a (N+1) f)=>ih s0 N HS.o hN g1 o1 n1 c1 W f a c (sr.below bw) dr (by omega) ⟨by rw[<-dr];exact jD,lH⟩ hf);rw[show (Rx.un x s).kids.length=1 from rfl];have HE:Hid (dz s0 N (.un x s) f=dI (dz s0 N s) (N+1) (N+1) (dz s0 N s f)):=by show (if x.k=6 then _ else if x.k=4 then _ else _:(Nat->Bool))=_;rw[if_neg (by omega),if_neg (by omega)]
 clear qy ie sr dr jD lH hk;go_wp2_with fail
 go_region_with (first
  | (go_at_call 90;refine (HI.o w5.drew (Below.refl _ _).drew f a c uR.o).mono ?_;rintro e w6 ⟨a6,c6,rfl,h6,mo⟩;have b6:ϐ w5 w6:=⟨mo.os,mo.tape,mo.output,mo.size,mo.block⟩;have t6:=(b6.cell (p:=⟨b,0,none⟩) eC).trans t1)
  | (go_at_call 110;refine (zeK (dz s0 N s) _ s0 N HS.o hN w6 (fun f a c W bw hf=>HI.o W (b6.trans (bw.mono b6.size)) f a c hf) (dz s0 N s f) a6 c6 h6).mono ?_;rintro e w7 ⟨a7,c7,rfl,h7,b7⟩))
 all_goals
  go_wp2
  go_ret
  exact⟨a7,c7,rfl,by rw[HE.o];exact h7,(eB.trans (b6.mono jE)).trans (b7.mono (le_trans jE b6.size))⟩
def sq(f:Nat->Bool)(p:Nat->Bool)(s:ByteArray)(k:Nat):Nat->Bool:=fun j=>match j with|0=>false|i+1=>decide (i<k) && (f i && p (s.get! i).toNat)
def gO(f:Nat->Bool)(p:Nat->Bool)(s:ByteArray)(k n:Nat):Array Value:=(jC (sq f p s k) n).toArray
theorem De(f p:Nat->Bool)(s:ByteArray)(k n:Nat):(gO f p s k n).size=n:=by simp[gO,jC]
theorem Ie(f p:Nat->Bool)(s:ByteArray)(k n j:Nat)(h:j<n):(gO f p s k n)[j]?=some (.bool (sq f p s k j)):=by simp[gO,jC,h]
theorem YI(f p:Nat->Bool)(s:ByteArray)(n:Nat):madeCells #[.bool false] n=gO f p s 0 n:=by
 apply Array.ext
 ·rw[size_madeCells,De]
 intro j h1 h2;rw[De] at h2;have e:=Ie f p s 0 n j h2;rw[Array.getElem?_eq_getElem (by rw[De];exact h2)] at e;rw[Option.some.inj e];have h0:sq f p s 0 j=false:=by cases j <;> simp[sq]
 rw[h0];simp[madeCells,Nat.mod_one]
theorem zjy(f p:Nat->Bool)(s:ByteArray)(k n:Nat)(h:k+1<n):(gO f p s k n).setIfInBounds (k+1) (.bool (f k && p (s.get! k).toNat))=gO f p s (k+1) n:=by
 apply Array.ext
 ·simp[De]
 intro j h1 h2;rw[De] at h2;have e:=Ie f p s (k+1) n j h2;rw[Array.getElem?_eq_getElem (by rw[De];exact h2)] at e;rw[Option.some.inj e];by_cases hj:j=k+1
 ·subst hj;rw[Array.getElem_setIfInBounds_self];simp[sq]
 rw[Array.getElem_setIfInBounds_ne (by simpa [De] using h2) (Ne.symm hj)];have e2:=Ie f p s k n j h2;rw[Array.getElem?_eq_getElem (by rw[De];exact h2)] at e2;rw[Option.some.inj e2];congr 1
 match j,hj with
 | 0,_=>rfl
 | i+1,hj=>
  show (decide (i<k) && _)=(decide (i<k+1) && _);rw[show decide (i<k)=decide (i<k+1) from by simp;omega]
theorem znf(x:Pc)(hk:x.k=1)(hw:(Rx.leaf x).wf):uo (.leaf x):=by
 intro s0 N hs hN g off n cap w f a c hL hn dZ dq hF;obtain rfl:n=1:=by rw[<-hn];rfl
 obtain⟨g',lF,e,hg,d0,d1,d2,d3,d4⟩:=hL.get 0 (by simp[Rx.flat]);simp at e;obtain⟨rfl,rfl⟩:=e;have oI:(Rx.leaf x).flat[0]'(by simp[Rx.flat])=x:=rfl;rw[oI] at d0 d1 d2 d3 d4;simp only[Nat.zero_mul,Nat.add_zero] at d0 d1 d2 d3 d4;have hB:ϐ w (w.alloc (.cells (madeCells #[.bool false] (N+1)) 4)):=(Below.refl _ _).alloc (le_refl _) _;have hM:=St.new w 4 (madeCells #[.bool false] (N+1));rw[YI f x.p s0 (N+1)] at hM;have HC:=hid (Ew (.leaf x) hw g off 1 cap _ (hL.below hB) hn dZ dq);have HM:Hid (St (w.alloc (.cells (madeCells #[.bool false] (N+1)) 4)) 4 w.heap.size (gO f x.p s0 0 (N+1))):=by
  show St _ _ _ _;rw[YI f x.p s0 (N+1)];exact hM
 have HB:=hid hB;have HF:=hid hF;have HK:=hid hk;have HS:=hid hs;have gP:=Cc N hN;have cQ:=hB.size;clear hL hn dq hB oI hw hk hs hF hM;go_in;go_wp2_with fail;refine HC.o.mono ?_;rintro e w5 ⟨aL,cL,rfl,qy,b5⟩;have eB:=HB.o.trans (b5.mono cQ);have e0:=(eB.cell (p:=⟨g,off,none⟩) hg).trans d0;have hk:=HK.o;have k0:(x.k == 0)=false:=by simp;omega
 have k1:(x.k == 1)=true:=by simp[hk]
 have HE:Hid (∀j,j<N+1->dz s0 N (.leaf x) f j=sq f x.p s0 N j):=hid fun j hj=>by
  show (if x.k=1 then _ else _:(Nat->Bool)) j=_
  rw[if_pos hk]
  match j,hj with
  | 0,_=>rfl
  | i+1,hj=>
   show (f i && x.p (s0.get! i).toNat)=(decide (i<N) && _);rw[decide_eq_true (by omega)];rfl
 have Ek:=hid (HM.o.ae b5);clear qy hk;go_wp2;go_loopw [9] (fun i wr=>∃k:Nat,i=.int .i64 k/\k<=N/\Hid (St wr 4 w.heap.size (gO f x.p s0 k (N+1)))/\ϐ w wr) (fun i _=>N-(intOf i).toNat)
 ·exact⟨0,rfl,Nat.zero_le _,Ek.o,eB⟩
 obtain⟨k,rfl,hkN,BJ,bg⟩:=hrel;by_cases aq:k<N
 ·obtain⟨gf,FV,rfl,NB,uU⟩:=HF.o (by omega);have KQ:=uU k (by omega);have Ei:=HS.o;obtain⟨fk,Jl⟩:∃b,f k=b:=⟨_,rfl⟩
  rw[Jl] at KQ;have df:=(bg.cell (p:=⟨gf,FV+k,none⟩) NB).trans KQ;have p1:=(bg.cell (p:=⟨g,off+1,none⟩) hg).trans d1;have p2:=(bg.cell (p:=⟨g,off+2,none⟩) hg).trans d2;have p3:=(bg.cell (p:=⟨g,off+3,none⟩) hg).trans d3;have p4:=(bg.cell (p:=⟨g,off+4,none⟩) hg).trans d4;have hwk:IntKind.i64.wrap ((k:Int)+1)=(k:Int)+1:=i64_in _ (by omega);have tN:k<s0.size:=by rw[Ei];exact aq
  have yk:s0.get! k=s0[k]'tN:=getElem!_pos s0.data k tN;obtain⟨bt,nJ⟩:=Ξ ((s0[k]'tN).toNat)
  have mW:bt<256:=by rw[<-nJ];exact UInt8.toNat_lt _
  have zQ:=zjy f x.p s0 k (N+1) (by omega);rw[yk,nJ] at zQ;have HNX:=hid zQ;have ZJ:IntKind.i64.wrap (bt:Int)=bt:=i64_in _ (by omega);have ff:=BJ.o.FJ (k+1);have cf:wr.cell? ⟨w.heap.size,k+1,none⟩=some (.bool (sq f x.p s0 k (k+1))):=by rw[BJ.o.cell,Ie _ _ _ _ _ _ (by omega)]
  clear zQ yk;have i1:(k:Int)<N+1:=by omega
  have i2:(k:Int)+1<(N:Int)+1:=by omega
  have i3:(k:Int)<N:=by omega
  have i4:k<N:=aq;have i5:(0:Int)<=k+1:=by omega
  have RO:IntKind.i64.wrap 0=0:=rfl;clear uU;go_wp2_with fail;rcases fk with _|_
  ·skip;refine wp_region_held_drew (S:=fun W'=>ϐ w W'/\W'.cell? ⟨gf,FV+k,none⟩=some (.bool false)/\W'.cell? ⟨g,off+1,none⟩=some (.int .u64 (wd x.p 0))/\W'.cell? ⟨g,off+2,none⟩=some (.int .u64 (wd x.p 1))/\W'.cell? ⟨g,off+3,none⟩=some (.int .u64 (wd x.p 2))/\W'.cell? ⟨g,off+4,none⟩=some (.int .u64 (wd x.p 3))) (by kernel_rfl) ⟨bg.drew,df,p1,p2,p3,p4⟩ (fun η=>?_)
   (refine ay 0 ?_;refine ay 1 ?_;refine ay 2 ?_;try simp only[put,sA];refine ay 3 ?_;refine ay 4 ?_;refine ay 5 ?_;try simp only[put,sA];refine ay 6 ?_;refine ay 7 ?_;refine bS 8 ?_;try simp only[put,sA];refine bS 9 ?_;refine bS 10 ?_;refine bS 11 ?_;try simp only[put,sA];refine bS 12 ?_;refine bS 13 ?_;refine bS 14 ?_;try simp only[put,sA];refine bS 15 ?_;refine bS 16 ?_;refine bS 17 ?_;try simp only[put,sA];refine bS 18 ?_;try simp only[put,sA])
   refine bH 19 (fun K hK=>?_);skip;go_simp;refine hK.out _ _ η fun η=>?_;clear hK K
   try simp only[put,sA]
   have qT:=BJ.o;have rv:=bg
   (refine ay 20 ?_;refine ay 21 ?_;try simp only[put,sA])
   refine bH 22 (fun K hK=>?_);skip;go_simp;have yf:=(qT.set (k+1) (.bool (false))).drew;have rK:=(rv.setCell (p:=⟨w.heap.size,k+1,none⟩) (le_refl _) (.bool (false))).drew;have Ju:=(rK.cell (p:=⟨gf,FV+k,none⟩) NB).trans KQ;have J0:=(rK.cell (p:=⟨g,off+1,none⟩) hg).trans d1;have J3:=(rK.cell (p:=⟨g,off+2,none⟩) hg).trans d2;have LF:=(rK.cell (p:=⟨g,off+3,none⟩) hg).trans d3;have JS:=(rK.cell (p:=⟨g,off+4,none⟩) hg).trans d4;refine hK.out _ _ ⟨rK,Ju,J0,J3,LF,JS⟩ fun η=>?_;clear hK K
   try simp only[put,sA]
   refine wpAnyH_done (by kernel_rfl) ?_ _;have QB:Hid (St (wr.setCell ⟨w.heap.size,k+1,none⟩ (.bool (false))).drew 4 w.heap.size (gO f x.p s0 (k+1) (N+1))):=(by show St _ _ _ _;rw[<-HNX.o,Jl];exact yf);have xP:=hid rK;clear yf rK Ju J0 J3 LF JS qT rv;go_wp2;go_roundw
   ·exact⟨k+1,by go_num,by omega,QB,xP.o⟩
   simp[intOf];omega
  skip;refine wp_region_held_drew (S:=fun W'=>ϐ w W'/\W'.cell? ⟨gf,FV+k,none⟩=some (.bool true)/\W'.cell? ⟨g,off+1,none⟩=some (.int .u64 (wd x.p 0))/\W'.cell? ⟨g,off+2,none⟩=some (.int .u64 (wd x.p 1))/\W'.cell? ⟨g,off+3,none⟩=some (.int .u64 (wd x.p 2))/\W'.cell? ⟨g,off+4,none⟩=some (.int .u64 (wd x.p 3))) (by kernel_rfl) ⟨bg.drew,df,p1,p2,p3,p4⟩ (fun η=>?_)
  (refine ay 0 ?_;refine ay 1 ?_;refine ay 2 ?_;try simp only[put,sA];refine ay 3 ?_;refine ay 4 ?_;refine ay 5 ?_;try simp only[put,sA];refine ay 6 ?_;refine ay 7 ?_;refine ay 8 ?_;try simp only[put,sA];refine ay 9 ?_;refine ay 10 ?_;refine ay 11 ?_;try simp only[put,sA];refine ay 12 ?_;refine ay 13 ?_;refine ay 14 ?_;try simp only[put,sA];refine ay 15 ?_;refine ay 16 ?_;refine ay 17 ?_;try simp only[put,sA];refine ay 18 ?_;try simp only[put,sA])
  refine bH 19 (fun K hK=>?_);skip;go_simp;go_at_call 108;refine (SQ x.p bt mW _).mono ?_;rintro e w6 ⟨rfl,mo⟩;have b6:ϐ wr w6:=⟨mo.os,mo.tape,mo.output,mo.size,mo.block⟩
  have qT:=BJ.o.ae b6;have rv:=bg.trans (b6.mono bg.size);have f6:=qT.FJ (k+1);have c6:w6.cell? ⟨w.heap.size,k+1,none⟩=some (.bool (sq f x.p s0 k (k+1))):=by rw[qT.cell,Ie _ _ _ _ _ _ (by omega)]
  have df6:=(rv.cell (p:=⟨gf,FV+k,none⟩) NB).trans KQ;have p16:=(rv.cell (p:=⟨g,off+1,none⟩) hg).trans d1;have p26:=(rv.cell (p:=⟨g,off+2,none⟩) hg).trans d2;have p36:=(rv.cell (p:=⟨g,off+3,none⟩) hg).trans d3;have p46:=(rv.cell (p:=⟨g,off+4,none⟩) hg).trans d4
  try go_wp2_with fail
  refine hK.out _ _ ⟨rv,df6,p16,p26,p36,p46⟩ fun η=>?_;clear hK K
  try simp only[put,sA]
  (refine ay 20 ?_;refine ay 21 ?_;try simp only[put,sA])
  refine bH 22 (fun K hK=>?_);skip;go_simp;have yf:=qT.set (k+1) (.bool (x.p bt));have rK:=rv.setCell (p:=⟨w.heap.size,k+1,none⟩) (le_refl _) (.bool (x.p bt));have Ju:=(rK.cell (p:=⟨gf,FV+k,none⟩) NB).trans KQ;have J0:=(rK.cell (p:=⟨g,off+1,none⟩) hg).trans d1;have J3:=(rK.cell (p:=⟨g,off+2,none⟩) hg).trans d2;have LF:=(rK.cell (p:=⟨g,off+3,none⟩) hg).trans d3;have JS:=(rK.cell (p:=⟨g,off+4,none⟩) hg).trans d4;refine hK.out _ _ ⟨rK,Ju,J0,J3,LF,JS⟩ fun η=>?_;clear hK K
  try simp only[put,sA]
  refine wpAnyH_done (by kernel_rfl) ?_ _;have QB:Hid (St (w6.setCell ⟨w.heap.size,k+1,none⟩ (.bool (x.p bt))) 4 w.heap.size (gO f x.p s0 (k+1) (N+1))):=by show St _ _ _ _;rw[<-HNX.o,Jl];exact yf
  have xP:=hid rK;clear yf rK Ju J0 J3 LF JS qT rv f6 c6;go_wp2;go_roundw
  ·exact⟨k+1,by go_num,by omega,QB,xP.o⟩
  simp[intOf];omega
 obtain rfl:k=N:=by omega
 have Ei:=HS.o;go_wp2;go_ret;refine⟨_,_,rfl,?_,bg⟩;intro _;refine⟨w.heap.size,0,rfl,BJ.o.lt,fun j hj=>?_⟩;rw[Nat.zero_add,BJ.o.cell,Ie _ _ _ _ _ _ hj,HE.o j hj]
theorem zng(t:Rx)(hw:t.wf):uo t:=by
 induction t with
 | leaf x=>
  have hk:x.k=0\/x.k=1:=by have:=tO x.k;have:=hw.1;omega
  rcases hk with h|h
  ·exact zkS x h hw
  exact znf x h hw
 | un x s ih=>
  have hk:x.k=4\/x.k=5\/x.k=6:=by have:=tO x.k;have:=hw.1;omega
  rcases hk with h|h|h
  ·exact zkR x s h hw (ih hw.2.2)
  ·exact zkT x s h hw (ih hw.2.2)
  exact znc x s h hw (ih hw.2.2)
 | bin x s t ihs iht=>
  have hk:x.k=2\/x.k=3:=by have:=tO x.k;have:=hw.1;omega
  rcases hk with h|h
  ·exact znd x s t h hw (ihs hw.2.2.1) (iht hw.2.2.2)
  exact zne x s t h hw (ihs hw.2.2.1) (iht hw.2.2.2)
def Fp:Nat->Bool:=fun j=>j == 0
theorem zkU(t:Rx)(hw:t.wf)(s:ByteArray)(N:Nat)(hs:s.size=N)(hN:N<=99998)(g off n cap:Nat)(w:World)(hL:iq w (some ⟨g,off,none⟩) t.flat)(hn:t.flat.length=n)(dZ:n<=1000000)(dq:n<=cap/\cap<=maxLen):
  Calls prog 78 #[.slice (some ⟨g,off,none⟩) n cap,.string s] w fun e w'=>e=.returned (.bool (dz s N t Fp N))/\ϐ w w':=by
 have hB:ϐ w (w.alloc (.cells ((madeCells #[.bool false] (N+1)).setIfInBounds 0 (.bool true)) 4)):=(Below.refl _ _).alloc (le_refl _) _;have hM:=St.new w 4 (madeCells #[.bool false] (N+1));have SL:=St.new w 4 ((madeCells #[.bool false] (N+1)).setIfInBounds 0 (.bool true));have dy:∀j,j<N+1->(madeCells #[.bool false] (N+1))[j]?=some (.bool false):=fun j hj=>by simp[madeCells,hj,Nat.mod_one]
 have c0:(w.alloc (.cells (madeCells #[.bool false] (N+1)) 4)).cell? ⟨w.heap.size,0,none⟩=some (.bool false):=by rw[hM.cell];exact dy 0 (by omega)
 have f0:=hM.FJ 0;have hF:pN (w.alloc (.cells ((madeCells #[.bool false] (N+1)).setIfInBounds 0 (.bool true)) 4)) (some ⟨w.heap.size,0,none⟩) (N+1) Fp:=by
  intro _;refine⟨w.heap.size,0,rfl,SL.lt,fun j hj=>?_⟩;rw[Nat.zero_add,SL.cell];by_cases h0:j=0
  ·subst h0;rw[Array.getElem?_setIfInBounds_self,if_pos (by rw[size_madeCells];omega)];rfl
  rw[Array.getElem?_setIfInBounds_ne (by omega),dy j hj];simp[Fp,h0]
 have HC:=hid (zng t hw s N hs hN g off n cap _ Fp (some ⟨w.heap.size,0,none⟩) (N+1) (hL.below hB) hn dZ dq hF);have HB:=hid hB;have HS:=hid hs;have gP:=Cc N hN;have Ei:=hs;have CH:IntKind.i64.wrap ((N:Int)+1)=(N:Int)+1:=i64_in _ (by omega);have cQ:=hB.size;clear hL hn dq hB hM SL dy hF hw hs;go_in;go_wp2_with fail;refine HC.o.mono ?_;rintro e w5 ⟨a5,c5,rfl,h5,b5⟩;obtain⟨g5,o5,rfl,tr,vt⟩:=h5 (by omega);have d5:=vt N (by omega);have i1:(N:Int)<N+1:=by omega
 clear vt h5;go_wp2;go_ret;exact⟨rfl,HB.o.trans (b5.mono cQ)⟩
def qn(L:List Nat)(i j:Nat):List Nat:=(L.drop i).take (j-i)
theorem M0(L:List Nat)(i:Nat):qn L i i=[]:=by simp[qn]
theorem Na(L:List Nat)(i m j:Nat)(h1:i<=m)(h2:m<=j):qn L i j=qn L i m++qn L m j:=by
 unfold qn;rw[show j-i=(m-i)+(j-m) by omega,List.take_add,List.drop_drop,show i+(m-i)=m by omega]
theorem GC(L:List Nat)(i j:Nat)(h1:i<=j)(h2:j<=L.length):(qn L i j).length=j-i:=by simp[qn];omega
theorem Ue(L:List Nat)(i j:Nat)(h1:i<=j)(h2:j<=L.length)(u v:List Nat)(h:qn L i j=u++v):∃m,i<=m/\m<=j/\u=qn L i m/\v=qn L m j:=by
 have hl:=congrArg List.length h;rw[GC L i j h1 h2,List.length_append] at hl;refine⟨i+u.length,by omega,by omega,?_⟩;have h3:=Na L i (i+u.length) j (by omega) (by omega);rw[h] at h3;have h4:(qn L i (i+u.length)).length=u.length:=by rw[GC L _ _ (by omega) (by omega)];omega
 exact List.append_inj h3 h4.symm
theorem ZT(L:List Nat)(i:Nat)(h:i<L.length):qn L i (i+1)=[L[i]]:=by
 unfold qn;rw[show i+1-i=1 by omega,List.take_one,List.head?_drop,List.getElem?_eq_getElem h];rfl
def Es(L:List Nat)(N:Nat)(A:List Nat->Prop)(E:(Nat->Bool)->Nat->Bool):Prop:=∀f j,j<=N->(E f j=true↔∃i,i<=j/\f i=true/\A (qn L i j))
theorem zgg(f h:Nat->Bool)(n:Nat):iR f h n=true↔∀j,j<n->f j=h j:=by
 induction n with
 | zero=>simp[iR]
 | succ n ih=>
  simp only[iR,Bool.and_eq_true,ih,beq_iff_eq];constructor
  ·rintro⟨h1,h2⟩ j hj;rcases Nat.lt_or_ge j n with h|h
   ·exact h1 j h
   rw[show j=n by omega];exact h2
  exact fun h=>⟨fun j hj=>h j (by omega),h n (by omega)⟩
def lO(f:Nat->Bool):Nat->Nat
 | 0=>0
 | n+1=>lO f n+if f n=true then 0 else 1
theorem zpG(f:Nat->Bool)(n:Nat):lO f n<=n:=by
 induction n with
 | zero=>simp[lO]
 | succ n ih=>simp only[lO];split <;> omega
theorem zkW(f h:Nat->Bool)(n:Nat)(hs:∀j,j<n->f j=true->h j=true):lO h n<=lO f n:=by
 induction n with
 | zero=>simp[lO]
 | succ n ih=>
  have h1:=ih (fun j hj=>hs j (by omega));have h2:=hs n (by omega);simp only[lO];by_cases hf:f n=true
  ·rw[if_pos hf,if_pos (h2 hf)];omega
  rw[if_neg hf];split <;> omega
theorem zkX(f h:Nat->Bool)(n:Nat)(hs:∀j,j<n->f j=true->h j=true)(j:Nat)(hj:j<n)(h0:f j=false)(h1:h j=true):lO h n<lO f n:=by
 induction n with
 | zero=>omega
 | succ n ih=>
  have hm:=zkW f h n (fun j hj=>hs j (by omega));simp only[lO];by_cases he:j=n
  ·subst he;rw[if_pos h1,h0];simp;omega
  have:=ih (fun j hj=>hs j (by omega)) (by omega);have h2:=hs n (by omega);by_cases hf:f n=true
  ·rw[if_pos hf,if_pos (h2 hf)];omega
  rw[if_neg hf];split <;> omega
theorem zkY(f:Nat->Bool)(n j:Nat)(hj:j<n)(h:f j=true):lO f n<n:=by
 induction n with
 | zero=>omega
 | succ n ih=>
  have hl:=zpG f n;simp only[lO];by_cases he:j=n
  ·subst he;rw[if_pos h];omega
  have:=ih (by omega);split <;> omega
def VE(N:Nat)(E:(Nat->Bool)->Nat->Bool)(f:Nat->Bool):Prop:=∀j,j<=N->E f j=true->f j=true
theorem zk0{A:List Nat->Prop}(hE:Es L N A E){h:Nat->Bool}(e:∀j,j<=N->f j=h j)(j:Nat)(hj:j<=N):E f j=true↔E h j=true:=by
 rw[hE f j hj,hE h j hj];exact⟨fun ⟨i,h1,h2,h3⟩=>⟨i,h1,by rw[<-e i (by omega)];exact h2,h3⟩,fun ⟨i,h1,h2,h3⟩=>⟨i,h1,by rw[e i (by omega)];exact h2,h3⟩⟩
theorem Wk{L:List Nat}{N:Nat}{A:List Nat->Prop}{E:(Nat->Bool)->Nat->Bool}(hE:Es L N A E):∀(k:Nat) (f:Nat->Bool),(lO f (N+1)<k\/(0<k/\∀j,j<=N->f j=false))->VE N E (dI E (N+1) k f)
 | 0,f,h=>by omega
 | k+1,f,h=>by
  unfold dI
  by_cases hs:iR (lD f (E f)) f (N+1)=true
  ·rw[if_pos hs]
   have he:=(zgg _ _ _).1 hs
   intro j hj h1
   have h2:=(zk0 hE (fun j hj=>he j (by omega)) j hj).1 h1
   simp[lD,h2]
  ·rw[if_neg hs]
   refine Wk hE k _ ?_
   have hne:∃j,j<=N/\f j=false/\E f j=true:=by
    refine Classical.byContradiction fun jv=>hs ((zgg _ _ _).2 fun j hj=>?_)
    by_cases hf:f j=true
    ·simp[lD,hf]
    ·have X3:f j=false:=by simpa using hf
     have:E f j=false:=by
      by_cases GN:E f j=true
      ·exact absurd ⟨j,by omega,X3,GN⟩ jv
      ·simpa using GN
     simp[lD,X3,this]
   obtain⟨j,hj,h0,h1⟩:=hne
   rcases h with h|⟨_,h⟩
   ·have:=zkX f (lD f (E f)) (N+1) (fun i hi vz=>by simp[lD,vz]) j (by omega) h0 (by simp[lD,h1])
    exact inl (by omega)
   ·obtain⟨i,hi,vz,_⟩:=(hE f j hj).1 h1
    rw[h i (by omega)] at vz
    cases vz
theorem YG{L:List Nat}{N:Nat}(hN:L.length=N){A:List Nat->Prop}{E:(Nat->Bool)->Nat->Bool}(hE:Es L N A E):∀(k:Nat) (f:Nat->Bool),(∀j,j<=N->f j=true->dI E (N+1) k f j=true)/\∀j,j<=N->dI E (N+1) k f j=true->∃i,i<=j/\f i=true/\dO A (qn L i j)
 | 0,f=>⟨fun j _ h=>h,fun j _ h=>⟨j,le_refl _,h,by rw[M0];exact dO.nil⟩⟩
 | k+1,f=>by
  have zi:∀j,j<=N->lD f (E f) j=true->∃i,i<=j/\f i=true/\dO A (qn L i j):=by
   intro j hj h
   simp only[lD,Bool.or_eq_true] at h
   rcases h with h|h
   ·exact⟨j,le_refl _,h,by rw[M0];exact dO.nil⟩
   ·obtain⟨i,h1,h2,h3⟩:=(hE f j hj).1 h
    exact⟨i,h1,h2,dO.one h3⟩
  obtain⟨h1,h2⟩:=YG hN hE k (lD f (E f))
  unfold dI
  by_cases hs:iR (lD f (E f)) f (N+1)=true
  ·rw[if_pos hs]
   exact⟨fun j _ h=>by simp[lD,h],zi⟩
  ·rw[if_neg hs]
   refine⟨fun j hj h=>h1 j hj (by simp[lD,h]),fun j hj h=>?_⟩
   obtain⟨m,h3,h4,h5⟩:=h2 j hj h
   obtain⟨i,h6,h7,h8⟩:=zi m (by omega) h4
   exact⟨i,by omega,h7,by rw[Na L i m j h6 h3];exact h8.cat h5⟩
theorem zhn(hN:L.length=N){A:List Nat->Prop}(hE:Es L N A E)(hc:VE N E f){s:List Nat}(h:dO A s):∀i j,i<=j->j<=N->qn L i j=s->f i=true->f j=true:=by
 induction h with
 | nil=>
  intro i j h1 h2 h3 h4;have:=GC L i j h1 (by omega);rw[h3] at this;simp at this;rw[show j=i by omega];exact h4
 | @app u v hu hv ih=>
  intro i j h1 h2 h3 h4;obtain⟨m,h5,h6,rfl,rfl⟩:=Ue L i j h1 (by omega) u v h3;exact ih m j h6 h2 rfl (hc m (by omega) ((hE f m (by omega)).2 ⟨i,h5,h4,hu⟩))
theorem zk1(hN:L.length=N){A:List Nat->Prop}(hE:Es L N A E):Es L N (dO A) (dI E (N+1) (N+1)):=by
 intro f j hj;obtain⟨h1,h2⟩:=YG hN hE (N+1) f;refine⟨h2 j hj,fun ⟨i,h3,h4,h5⟩=>?_⟩;have hc:=Wk hE (N+1) f (inl (zkY f (N+1) i (by omega) h4));exact zhn hN hE hc h5 i j h3 hj rfl (h1 i (by omega) h4)
theorem znh(s:ByteArray)(L:List Nat)(N:Nat)(hN:L.length=N)(hb:∀i (h:i<L.length),L[i]=(s.get! i).toNat)(t:Rx)(hw:t.wf):Es L N (fj t) (dz s N t):=by
 induction t with
 | leaf x=>
  intro f j hj;show (if x.k=1 then _ else _:(Nat->Bool)) j=true↔_;by_cases hk:x.k=1
  ·rw[if_pos hk];constructor
   ·intro h
    match j,hj,h with
    | i+1,hj,h=>
     simp only[Bool.and_eq_true] at h;have hi:i<L.length:=(by omega);refine⟨i,by omega,h.1,?_⟩;rw[ZT L i hi,CU,if_pos hk];exact⟨_,rfl,by rw[hb i hi];exact UInt8.toNat_lt _,by rw[hb i hi];exact h.2⟩
   rintro⟨i,h1,h2,h3⟩;rw[CU,if_pos hk] at h3;obtain⟨b,h4,h5,h6⟩:=h3;have hl:=GC L i j h1 (by omega);rw[h4] at hl;have NU:j=i+1:=(by simp at hl;omega);subst NU;rw[ZT L i (by omega)] at h4;have px:L[i]'(by omega)=b:=(by simpa using h4);show (f i && x.p (s.get! i).toNat)=true;rw[<-hb i (by omega),px,h2,h6];rfl
  rw[if_neg hk];constructor
  ·exact fun h=>⟨j,le_refl _,h,by rw[M0,CU,if_neg hk]⟩
  rintro⟨i,h1,h2,h3⟩;rw[CU,if_neg hk] at h3;have hl:=GC L i j h1 (by omega);rw[h3] at hl;simp at hl;rw[show j=i by omega];exact h2
 | un x a ih=>
  have hE:=ih hw.2.2;have hS:=zk1 hN hE;have hk:x.k=4\/x.k=5\/x.k=6:=by have:=tO x.k;have:=hw.1;omega
  intro f j hj;show (if x.k=6 then lD f (dz s N a f) else if x.k=4 then dI (dz s N a) (N+1) (N+1) f else dI (dz s N a) (N+1) (N+1) (dz s N a f)) j=true↔_;rcases hk with h|h|h
  ·rw[if_neg (by omega),if_pos h,hS f j hj];simp only[CM,h,if_true]
  ·rw[if_neg (by omega),if_neg (by omega),hS _ j hj];simp only[CM,h,show ¬((5:Int)=4) by decide,if_false,if_true];constructor
   ·rintro⟨m,h1,h2,h3⟩;obtain⟨i,h4,h5,h6⟩:=(hE f m (by omega)).1 h2;exact⟨i,by omega,h5,_,_,Na L i m j h4 h1,h6,h3⟩
   rintro⟨i,h1,h2,u,v,h3,h4,h5⟩;obtain⟨m,h6,h7,rfl,rfl⟩:=Ue L i j h1 (by omega) u v h3;exact⟨m,h7,(hE f m (by omega)).2 ⟨i,h6,h2,h4⟩,h5⟩
  rw[if_pos h];simp only[CM,h,show ¬((6:Int)=4) by decide,show ¬((6:Int)=5) by decide,if_false,lD,Bool.or_eq_true,hE f j hj];constructor
  ·rintro (h1|⟨i,h1,h2,h3⟩)
   ·exact⟨j,le_refl _,h1,inl (M0 L j)⟩
   exact⟨i,h1,h2,inr h3⟩
  rintro⟨i,h1,h2,h3|h3⟩
  ·have hl:=GC L i j h1 (by omega);rw[h3] at hl;simp at hl;exact inl (by rw[show j=i by omega];exact h2)
  exact inr ⟨i,h1,h2,h3⟩
 | bin x a b iha ihb=>
  have hA:=iha hw.2.2.1;have hB:=ihb hw.2.2.2;have hk:x.k=2\/x.k=3:=by have:=tO x.k;have:=hw.1;omega
  intro f j hj;show (if x.k=2 then dz s N b (dz s N a f) else lD (dz s N a f) (dz s N b f)) j=true↔_;rcases hk with h|h
  ·rw[if_pos h,hB _ j hj];simp only[Gd,h,if_true];constructor
   ·rintro⟨m,h1,h2,h3⟩;obtain⟨i,h4,h5,h6⟩:=(hA f m (by omega)).1 h2;exact⟨i,by omega,h5,_,_,Na L i m j h4 h1,h6,h3⟩
   rintro⟨i,h1,h2,u,v,h3,h4,h5⟩;obtain⟨m,h6,h7,rfl,rfl⟩:=Ue L i j h1 (by omega) u v h3;exact⟨m,h7,(hA f m (by omega)).2 ⟨i,h6,h2,h4⟩,h5⟩
  rw[if_neg (by omega)];simp only[Gd,h,show ¬((3:Int)=2) by decide,if_false,lD,Bool.or_eq_true,hA f j hj,hB f j hj];constructor
  ·rintro (⟨i,h1,h2,h3⟩|⟨i,h1,h2,h3⟩)
   ·exact⟨i,h1,h2,inl h3⟩
   exact⟨i,h1,h2,inr h3⟩
  rintro⟨i,h1,h2,h3|h3⟩
  ·exact inl ⟨i,h1,h2,h3⟩
  exact inr ⟨i,h1,h2,h3⟩
theorem zni(s:ByteArray)(L:List Nat)(N:Nat)(hN:L.length=N)(hb:∀i (h:i<L.length),L[i]=(s.get! i).toNat)(t:Rx)(hw:t.wf):dz s N t Fp N=true↔fj t L:=by
 rw[znh s L N hN hb t hw Fp N (le_refl _)];have eO:qn L 0 N=L:=by simp[qn,<-hN]
 constructor
 ·rintro⟨i,h1,h2,h3⟩;have:i=0:=by simpa [Fp] using h2
  subst this;rw[eO] at h3;exact h3
 exact fun h=>⟨0,Nat.zero_le _,rfl,by rw[eO];exact h⟩
