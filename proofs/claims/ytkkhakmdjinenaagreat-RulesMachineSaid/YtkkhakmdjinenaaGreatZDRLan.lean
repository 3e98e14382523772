import Derived.Test.YtkkhakmdjinenaaGreatZDMath
import Derived.Test.YtkkhakmdjinenaaGreatZDREnds1
import Derived.Test.YtkkhakmdjinenaaGreatZTk
set_option linter.all false
set_option maxHeartbeats 2000000
set_option maxRecDepth 100000
open Go.Lib (hid)
namespace Go.Proofs.YtkkhakmdjinenaaGreat
open Go.RowKit Go.Proofs.Tryz
open Nat (le_refl le_trans)
open IntWalk (i64_in)
open Act (put)
open Or (inl inr)
variable {E:(Nat->Bool)->Nat->Bool}{L:List Nat}{N:Nat}{f:Nat->Bool}
theorem zmV(x:Pc)(s t:Rx)(hk:x.k=2)(hw:((Rx.bin x s t)).wf)(ih:tr s)(jh:tr t):tr (.bin x s t):=by
 intro s0 N hs hN g off n cap w f a c hL hn dG dq hF;obtain⟨m,hm⟩:∃m,n-1=m:=⟨_,rfl⟩
 have hpos:=(Rx.bin x s t).aZ;have da:n=m+1:=by omega
 obtain⟨g',kJ,e,hg,d0,-⟩:=hL.get m (by omega);simp at e;obtain⟨rfl,rfl⟩:=e;have nU:(Rx.bin x s t).flat[m]'(by omega)=x:=by
  have h1:=(Rx.bin x s t).jL;rw[hn,hm,List.getElem?_eq_getElem (by omega)] at h1;exact Option.some.inj h1
 rw[nU] at d0;have hB:Below w.heap.size w (w.alloc (.cells (madeCells #[.bool false] (N+1)) 4)):=(Below.refl _ _).alloc (le_refl _) _;have HC:=hid (Dv (.bin x s t) hw g off n cap _ (hL.below hB) hn dG dq);have HB:=hid hB;have HF:=hid hF;have HK:=hid hk;have HS:=hid hs;have fJ:=Ba N hN;have dc:=hB.size;have en:(n:Int)-1=(m:Int):=by omega
 have jl:m<n:=by omega
 have tv:n<=9223372036854775807:=by have:=dq.1;have:=dq.2;unfold maxLen at this;omega
 have zr:s.flat.length<=1000000/\t.flat.length<=1000000:=by
  have:(Rx.bin x s t).flat.length=s.flat.length+t.flat.length+1:=by simp[Rx.flat];omega
  omega
 clear hL hn dq hB nU hw da hm hpos hk hs hF;go_in;go_wp2_with fail;refine HC.out.mono ?_;rintro e w5 ⟨aL,cL,rfl,pt,b5⟩;have eu:=HB.out.trans (b5.mono dc);have jv:=eu.size;have e0:=(eu.cell (p:=⟨g,off+m*5,none⟩) hg).trans d0;have wZ:=hid (HF.out.below eu);have hk:=HK.out;have k0:(x.k == 0)=false:=by simp;omega
 have k1:(x.k == 1)=false:=by simp;omega
 have k2:(x.k == 2)=true:=by simp[hk]
 obtain⟨b,g1,o1,c1,rfl,gZ,rf,_,gE,jd,ly⟩:=pt 0 (by show 0<2;decide);obtain⟨b',g2,o2,c2,nZ,fB,AL,_,_,mr,xH⟩:=pt 1 (by show 1<2;decide);simp at nZ;subst nZ;obtain⟨n1,da⟩:∃n1,s.flat.length=n1:=⟨_,rfl⟩
 obtain⟨n2,cU⟩:∃n2,t.flat.length=n2:=⟨_,rfl⟩
 have t1:w5.cell? ⟨b,0,none⟩=some (.slice (some ⟨g1,o1,none⟩) n1 c1):=by rw[<-da];exact gZ
 have t2:w5.cell? ⟨b,1,none⟩=some (.slice (some ⟨g2,o2,none⟩) n2 c2):=by rw[<-cU];exact fB
 have HI:=hid (fun (W:World) (bw:Below w5.heap.size w5 W) (f:Nat->Bool) (a:Option Addr) (c:Nat) (hf:pd W a (N+1) f)=>ih s0 N HS.out hN g1 o1 n1 c1 W f a c (rf.below bw) da (by omega) ⟨by rw[<-da];exact jd,ly⟩ hf);have HJ:=hid (fun (W:World) (bw:Below w5.heap.size w5 W) (f:Nat->Bool) (a:Option Addr) (c:Nat) (hf:pd W a (N+1) f)=>jh s0 N HS.out hN g2 o2 n2 c2 W f a c (AL.below bw) cU (by omega) ⟨by rw[<-cU];exact mr,xH⟩ hf);rw[show (Rx.bin x s t).kids.length=2 from rfl];have HE:Hid (dC s0 N (.bin x s t) f=dC s0 N t (dC s0 N s f)):=by show (if x.k=2 then _ else _:(Nat->Bool))=_;rw[if_pos hk]
 clear pt gZ rf da jd ly fB AL cU mr xH hk;have xX:True:=trivial;have yd:True:=trivial;go_wp2_with fail
 go_region_with (first
  | (have _t:=xX;go_at_call 33;refine (HI.out w5.drew (Below.refl _ _).drew f a c wZ.out).mono ?_;rintro e w6 ⟨a6,c6,rfl,h6,lQ⟩;have b6:Below w5.heap.size w5 w6:=⟨lQ.os,lQ.tape,lQ.output,lQ.size,lQ.block⟩;have t6:=(b6.cell (p:=⟨b,1,none⟩) gE).trans t2;clear _t xX)
  | (have _u:=yd;go_at_call 33;refine (HJ.out w6 b6 (dC s0 N s f) a6 c6 h6).mono ?_;rintro e w7 ⟨a7,c7,rfl,h7,b7⟩;clear _u yd))
 all_goals
  go_wp2
  go_ret
  exact⟨a7,c7,rfl,by rw[HE.out];exact h7,(eu.trans (b6.mono jv)).trans (b7.mono (le_trans jv b6.size))⟩
theorem zmW(x:Pc)(s t:Rx)(hk:x.k=3)(hw:((Rx.bin x s t)).wf)(ih:tr s)(jh:tr t):tr (.bin x s t):=by
 intro s0 N hs hN g off n cap w f a c hL hn dG dq hF;obtain⟨m,hm⟩:∃m,n-1=m:=⟨_,rfl⟩
 have hpos:=(Rx.bin x s t).aZ;have da:n=m+1:=by omega
 obtain⟨g',kJ,e,hg,d0,-⟩:=hL.get m (by omega);simp at e;obtain⟨rfl,rfl⟩:=e;have nU:(Rx.bin x s t).flat[m]'(by omega)=x:=by
  have h1:=(Rx.bin x s t).jL;rw[hn,hm,List.getElem?_eq_getElem (by omega)] at h1;exact Option.some.inj h1
 rw[nU] at d0;have hB:Below w.heap.size w (w.alloc (.cells (madeCells #[.bool false] (N+1)) 4)):=(Below.refl _ _).alloc (le_refl _) _;have HC:=hid (Dv (.bin x s t) hw g off n cap _ (hL.below hB) hn dG dq);have HB:=hid hB;have HF:=hid hF;have HK:=hid hk;have HS:=hid hs;have fJ:=Ba N hN;have dc:=hB.size;have en:(n:Int)-1=(m:Int):=by omega
 have jl:m<n:=by omega
 have tv:n<=9223372036854775807:=by have:=dq.1;have:=dq.2;unfold maxLen at this;omega
 have zr:s.flat.length<=1000000/\t.flat.length<=1000000:=by
  have:(Rx.bin x s t).flat.length=s.flat.length+t.flat.length+1:=by simp[Rx.flat];omega
  omega
 clear hL hn dq hB nU hw da hm hpos hk hs hF;go_in;go_wp2_with fail;refine HC.out.mono ?_;rintro e w5 ⟨aL,cL,rfl,pt,b5⟩;have eu:=HB.out.trans (b5.mono dc);have jv:=eu.size;have e0:=(eu.cell (p:=⟨g,off+m*5,none⟩) hg).trans d0;have wZ:=hid (HF.out.below eu);have hk:=HK.out;have k0:(x.k == 0)=false:=by simp;omega
 have k1:(x.k == 1)=false:=by simp;omega
 have k2:(x.k == 2)=false:=by simp;omega
 have k3:(x.k == 3)=true:=by simp[hk]
 obtain⟨b,g1,o1,c1,rfl,gZ,rf,_,gE,jd,ly⟩:=pt 0 (by show 0<2;decide);obtain⟨b',g2,o2,c2,nZ,fB,AL,_,_,mr,xH⟩:=pt 1 (by show 1<2;decide);simp at nZ;subst nZ;obtain⟨n1,da⟩:∃n1,s.flat.length=n1:=⟨_,rfl⟩
 obtain⟨n2,cU⟩:∃n2,t.flat.length=n2:=⟨_,rfl⟩
 have t1:w5.cell? ⟨b,0,none⟩=some (.slice (some ⟨g1,o1,none⟩) n1 c1):=by rw[<-da];exact gZ
 have t2:w5.cell? ⟨b,1,none⟩=some (.slice (some ⟨g2,o2,none⟩) n2 c2):=by rw[<-cU];exact fB
 have HI:=hid (fun (W:World) (bw:Below w5.heap.size w5 W) (f:Nat->Bool) (a:Option Addr) (c:Nat) (hf:pd W a (N+1) f)=>ih s0 N HS.out hN g1 o1 n1 c1 W f a c (rf.below bw) da (by omega) ⟨by rw[<-da];exact jd,ly⟩ hf);have HJ:=hid (fun (W:World) (bw:Below w5.heap.size w5 W) (f:Nat->Bool) (a:Option Addr) (c:Nat) (hf:pd W a (N+1) f)=>jh s0 N HS.out hN g2 o2 n2 c2 W f a c (AL.below bw) cU (by omega) ⟨by rw[<-cU];exact mr,xH⟩ hf);rw[show (Rx.bin x s t).kids.length=2 from rfl];have HE:Hid (dC s0 N (.bin x s t) f=lj (dC s0 N s f) (dC s0 N t f)):=by show (if x.k=2 then _ else _:(Nat->Bool))=_;rw[if_neg (by omega)]
 clear pt gZ rf da jd ly fB AL cU mr xH hk;have xX:True:=trivial;have yd:True:=trivial;go_wp2_with fail
 go_region_with (first
  | (have _t:=xX;go_at_call 33;refine (HI.out w5.drew (Below.refl _ _).drew f a c wZ.out).mono ?_;rintro e w6 ⟨a6,c6,rfl,h6,lQ⟩;have b6:Below w5.heap.size w5 w6:=⟨lQ.os,lQ.tape,lQ.output,lQ.size,lQ.block⟩;have t6:=(b6.cell (p:=⟨b,1,none⟩) gE).trans t2;have IC:=hid (wZ.out.below b6);clear _t xX)
  | (have _u:=yd;go_at_call 33;refine (HJ.out w6 b6 f a c IC.out).mono ?_;rintro e w7 ⟨a7,c7,rfl,h7,b7⟩;have h67:=h6.below b7;clear _u yd)
  | (go_at_call 53;refine (OQ (dC s0 N s f) (dC s0 N t f) a6 a7 (N+1) c6 c7 w7 h67 h7 (by omega)).mono ?_;rintro e w8 ⟨a8,c8,rfl,h8,b8⟩))
 all_goals
  go_wp2
  go_ret
  exact⟨a8,c8,rfl,by rw[HE.out];exact Ix h8,((eu.trans (b6.mono jv)).trans (b7.mono (le_trans jv b6.size))).trans (b8.mono (le_trans jv (le_trans b6.size b7.size)))⟩
theorem zkR(x:Pc)(s:Rx)(hk:x.k=5)(hw:((Rx.un x s)).wf)(ih:tr s):tr (.un x s):=by
 intro s0 N hs hN g off n cap w f a c hL hn dG dq hF;obtain⟨m,hm⟩:∃m,n-1=m:=⟨_,rfl⟩
 have hpos:=(Rx.un x s).aZ;have da:n=m+1:=by omega
 obtain⟨g',kJ,e,hg,d0,-⟩:=hL.get m (by omega);simp at e;obtain⟨rfl,rfl⟩:=e;have nU:(Rx.un x s).flat[m]'(by omega)=x:=by
  have h1:=(Rx.un x s).jL;rw[hn,hm,List.getElem?_eq_getElem (by omega)] at h1;exact Option.some.inj h1
 rw[nU] at d0;have hB:Below w.heap.size w (w.alloc (.cells (madeCells #[.bool false] (N+1)) 4)):=(Below.refl _ _).alloc (le_refl _) _;have HC:=hid (Dv (.un x s) hw g off n cap _ (hL.below hB) hn dG dq);have HB:=hid hB;have HF:=hid hF;have HK:=hid hk;have HS:=hid hs;have fJ:=Ba N hN;have dc:=hB.size;have en:(n:Int)-1=(m:Int):=by omega
 have jl:m<n:=by omega
 have tv:n<=9223372036854775807:=by have:=dq.1;have:=dq.2;unfold maxLen at this;omega
 have zr:s.flat.length<=1000000:=by
  have:(Rx.un x s).flat.length=s.flat.length+1:=by simp[Rx.flat]
  omega
 clear hL hn dq hB nU hw da hm hpos hk hs hF;go_in;go_wp2_with fail;refine HC.out.mono ?_;rintro e w5 ⟨aL,cL,rfl,pt,b5⟩;have eu:=HB.out.trans (b5.mono dc);have jv:=eu.size;have e0:=(eu.cell (p:=⟨g,off+m*5,none⟩) hg).trans d0;have wZ:=hid (HF.out.below eu);have hk:=HK.out;have k0:(x.k == 0)=false:=by simp;omega
 have k1:(x.k == 1)=false:=by simp;omega
 have k2:(x.k == 2)=false:=by simp;omega
 have k3:(x.k == 3)=false:=by simp;omega
 have k6:(x.k == 6)=false:=by simp;omega
 have k4:(x.k == 4)=false:=by simp;omega
 obtain⟨b,g1,o1,c1,rfl,gZ,rf,_,gE,jd,ly⟩:=pt 0 (by show 0<1;decide);obtain⟨n1,da⟩:∃n1,s.flat.length=n1:=⟨_,rfl⟩
 have t1:w5.cell? ⟨b,0,none⟩=some (.slice (some ⟨g1,o1,none⟩) n1 c1):=by rw[<-da];exact gZ
 have HI:=hid (fun (W:World) (bw:Below w5.heap.size w5 W) (f:Nat->Bool) (a:Option Addr) (c:Nat) (hf:pd W a (N+1) f)=>ih s0 N HS.out hN g1 o1 n1 c1 W f a c (rf.below bw) da (by omega) ⟨by rw[<-da];exact jd,ly⟩ hf);rw[show (Rx.un x s).kids.length=1 from rfl];have HE:Hid (dC s0 N (.un x s) f=dK (dC s0 N s) (N+1) (N+1) (dC s0 N s f)):=by show (if x.k=6 then _ else if x.k=4 then _ else _:(Nat->Bool))=_;rw[if_neg (by omega),if_neg (by omega)]
 clear pt gZ rf da jd ly hk;go_wp2_with fail
 go_region_with (first
  | (go_at_call 33;refine (HI.out w5.drew (Below.refl _ _).drew f a c wZ.out).mono ?_;rintro e w6 ⟨a6,c6,rfl,h6,lQ⟩;have b6:Below w5.heap.size w5 w6:=⟨lQ.os,lQ.tape,lQ.output,lQ.size,lQ.block⟩;have t6:=(b6.cell (p:=⟨b,0,none⟩) gE).trans t1)
  | (go_at_call 54;refine (XL (dC s0 N s) _ s0 N HS.out hN w6 (fun f a c W bw hf=>HI.out W (b6.trans (bw.mono b6.size)) f a c hf) (dC s0 N s f) a6 c6 h6).mono ?_;rintro e w7 ⟨a7,c7,rfl,h7,b7⟩))
 all_goals
  go_wp2
  go_ret
  exact⟨a7,c7,rfl,by rw[HE.out];exact h7,(eu.trans (b6.mono jv)).trans (b7.mono (le_trans jv b6.size))⟩
def qP(f:Nat->Bool)(p:Nat->Bool)(s:ByteArray)(k:Nat):Nat->Bool:=fun j=>match j with|0=>false|i+1=>decide (i<k) && (f i && p (s.get! i).toNat)
def gz(f:Nat->Bool)(p:Nat->Bool)(s:ByteArray)(k n:Nat):Array Value:=(fG (qP f p s k) n).toArray
theorem Bt(f p:Nat->Bool)(s:ByteArray)(k n:Nat):(gz f p s k n).size=n:=by simp[gz,fG]
theorem Fp(f p:Nat->Bool)(s:ByteArray)(k n j:Nat)(h:j<n):(gz f p s k n)[j]?=some (.bool (qP f p s k j)):=by simp[gz,fG,h]
theorem Zy(f p:Nat->Bool)(s:ByteArray)(n:Nat):madeCells #[.bool false] n=gz f p s 0 n:=by
 apply Array.ext
 ·rw[size_madeCells,Bt]
 intro j h1 h2;rw[Bt] at h2;have e:=Fp f p s 0 n j h2;rw[Array.getElem?_eq_getElem (by rw[Bt];exact h2)] at e;rw[Option.some.inj e];have h0:qP f p s 0 j=false:=by cases j <;> simp[qP]
 rw[h0];simp[madeCells,Nat.mod_one]
theorem zjJ(f p:Nat->Bool)(s:ByteArray)(k n:Nat)(h:k+1<n):(gz f p s k n).setIfInBounds (k+1) (.bool (f k && p (s.get! k).toNat))=gz f p s (k+1) n:=by
 apply Array.ext
 ·simp[Bt]
 intro j h1 h2;rw[Bt] at h2;have e:=Fp f p s (k+1) n j h2;rw[Array.getElem?_eq_getElem (by rw[Bt];exact h2)] at e;rw[Option.some.inj e];by_cases hj:j=k+1
 ·subst hj;rw[Array.getElem_setIfInBounds_self];simp[qP]
 rw[Array.getElem_setIfInBounds_ne (by simpa [Bt] using h2) (Ne.symm hj)];have e2:=Fp f p s k n j h2;rw[Array.getElem?_eq_getElem (by rw[Bt];exact h2)] at e2;rw[Option.some.inj e2];congr 1
 match j,hj with
 | 0,_=>rfl
 | i+1,hj=>
  show (decide (i<k) && _)=(decide (i<k+1) && _);rw[show decide (i<k)=decide (i<k+1) from by simp;omega]
theorem zmX(x:Pc)(hk:x.k=1)(hw:(Rx.leaf x).wf):tr (.leaf x):=by
 intro s0 N hs hN g off n cap w f a c hL hn dG dq hF;obtain rfl:n=1:=by rw[<-hn];rfl
 obtain⟨g',kJ,e,hg,d0,d1,d2,d3,d4⟩:=hL.get 0 (by simp[Rx.flat]);simp at e;obtain⟨rfl,rfl⟩:=e;have nU:(Rx.leaf x).flat[0]'(by simp[Rx.flat])=x:=rfl;rw[nU] at d0 d1 d2 d3 d4;simp only[Nat.zero_mul,Nat.add_zero] at d0 d1 d2 d3 d4;have hB:Below w.heap.size w (w.alloc (.cells (madeCells #[.bool false] (N+1)) 4)):=(Below.refl _ _).alloc (le_refl _) _;have hM:=St.new w 4 (madeCells #[.bool false] (N+1));rw[Zy f x.p s0 (N+1)] at hM;have HC:=hid (Dv (.leaf x) hw g off 1 cap _ (hL.below hB) hn dG dq);have HM:Hid (St (w.alloc (.cells (madeCells #[.bool false] (N+1)) 4)) 4 w.heap.size (gz f x.p s0 0 (N+1))):=by
  show St _ _ _ _;rw[Zy f x.p s0 (N+1)];exact hM
 have HB:=hid hB;have HF:=hid hF;have HK:=hid hk;have HS:=hid hs;have fJ:=Ba N hN;have dc:=hB.size;clear hL hn dq hB nU hw hk hs hF hM;go_in;go_wp2_with fail;refine HC.out.mono ?_;rintro e w5 ⟨aL,cL,rfl,pt,b5⟩;have eu:=HB.out.trans (b5.mono dc);have e0:=(eu.cell (p:=⟨g,off,none⟩) hg).trans d0;have hk:=HK.out;have k0:(x.k == 0)=false:=by simp;omega
 have k1:(x.k == 1)=true:=by simp[hk]
 have HE:Hid (∀j,j<N+1->dC s0 N (.leaf x) f j=qP f x.p s0 N j):=hid fun j hj=>by
  show (if x.k=1 then _ else _:(Nat->Bool)) j=_
  rw[if_pos hk]
  match j,hj with
  | 0,_=>rfl
  | i+1,hj=>
   show (f i && x.p (s0.get! i).toNat)=(decide (i<N) && _);rw[decide_eq_true (by omega)];rfl
 have B8:=hid (HM.out.ab b5);clear pt hk;go_wp2;go_loopw [9] (fun i wr=>∃k:Nat,i=.int .i64 k/\k<=N/\Hid (St wr 4 w.heap.size (gz f x.p s0 k (N+1)))/\Below w.heap.size w wr) (fun i _=>N-(intOf i).toNat)
 ·exact⟨0,rfl,Nat.zero_le _,B8.out,eu⟩
 obtain⟨k,rfl,hkN,uv,bp⟩:=hrel;by_cases aq:k<N
 ·obtain⟨gf,FE,rfl,Lg,Pj⟩:=HF.out (by omega);have G8:=Pj k (by omega);have zT:=HS.out;obtain⟨fk,yK⟩:∃b,f k=b:=⟨_,rfl⟩
  rw[yK] at G8;have df:=(bp.cell (p:=⟨gf,FE+k,none⟩) Lg).trans G8;have p1:=(bp.cell (p:=⟨g,off+1,none⟩) hg).trans d1;have p2:=(bp.cell (p:=⟨g,off+2,none⟩) hg).trans d2;have p3:=(bp.cell (p:=⟨g,off+3,none⟩) hg).trans d3;have p4:=(bp.cell (p:=⟨g,off+4,none⟩) hg).trans d4;have hwk:IntKind.i64.wrap ((k:Int)+1)=(k:Int)+1:=i64_in _ (by omega);have qy:k<s0.size:=by rw[zT];exact aq
  have xd:s0.get! k=s0[k]'qy:=getElem!_pos s0.data k qy;obtain⟨bt,qJ⟩:∃bt,(s0[k]'qy).toNat=bt:=⟨_,rfl⟩
  have km:bt<256:=by rw[<-qJ];exact UInt8.toNat_lt _
  have yQ:=zjJ f x.p s0 k (N+1) (by omega);rw[xd,qJ] at yQ;have HNX:=hid yQ;have YF:IntKind.i64.wrap (bt:Int)=bt:=i64_in _ (by omega);have ff:=uv.out.Cx (k+1);have cf:wr.cell? ⟨w.heap.size,k+1,none⟩=some (.bool (qP f x.p s0 k (k+1))):=by rw[uv.out.cell,Fp _ _ _ _ _ _ (by omega)]
  clear yQ xd;have i1:(k:Int)<N+1:=by omega
  have i2:(k:Int)+1<(N:Int)+1:=by omega
  have i3:(k:Int)<N:=by omega
  have i4:k<N:=aq;have i5:(0:Int)<=k+1:=by omega
  have Rj:IntKind.i64.wrap 0=0:=rfl;clear Pj;go_wp2_with fail;rcases fk with _|_
  ·skip;refine wp_region_held_drew (S:=fun W'=>Below w.heap.size w W'/\W'.cell? ⟨gf,FE+k,none⟩=some (.bool false)/\W'.cell? ⟨g,off+1,none⟩=some (.int .u64 (wd x.p 0))/\W'.cell? ⟨g,off+2,none⟩=some (.int .u64 (wd x.p 1))/\W'.cell? ⟨g,off+3,none⟩=some (.int .u64 (wd x.p 2))/\W'.cell? ⟨g,off+4,none⟩=some (.int .u64 (wd x.p 3))) (by kernel_rfl) ⟨bp.drew,df,p1,p2,p3,p4⟩ (fun η=>?_)
   (refine an 0 ?_;refine an 1 ?_;refine an 2 ?_;try simp only[put,sA];refine an 3 ?_;refine an 4 ?_;refine an 5 ?_;try simp only[put,sA];refine an 6 ?_;refine an 7 ?_;refine xh 8 ?_;try simp only[put,sA];refine xh 9 ?_;refine xh 10 ?_;refine xh 11 ?_;try simp only[put,sA];refine xh 12 ?_;refine xh 13 ?_;refine xh 14 ?_;try simp only[put,sA];refine xh 15 ?_;refine xh 16 ?_;refine xh 17 ?_;try simp only[put,sA];refine xh 18 ?_;try simp only[put,sA])
   refine bc 19 (fun K hK=>?_);skip;go_simp;refine hK.out _ _ η fun η=>?_;clear hK K
   try simp only[put,sA]
   have qj:=uv.out;have qD:=bp
   (refine an 20 ?_;refine an 21 ?_;try simp only[put,sA])
   refine bc 22 (fun K hK=>?_);skip;go_simp;have we:=(qj.set (k+1) (.bool (false))).drew;have rm:=(qD.setCell (p:=⟨w.heap.size,k+1,none⟩) (le_refl _) (.bool (false))).drew;have G0:=(rm.cell (p:=⟨gf,FE+k,none⟩) Lg).trans G8;have Jf:=(rm.cell (p:=⟨g,off+1,none⟩) hg).trans d1;have II:=(rm.cell (p:=⟨g,off+2,none⟩) hg).trans d2;have Jt:=(rm.cell (p:=⟨g,off+3,none⟩) hg).trans d3;have GP:=(rm.cell (p:=⟨g,off+4,none⟩) hg).trans d4;refine hK.out _ _ ⟨rm,G0,Jf,II,Jt,GP⟩ fun η=>?_;clear hK K
   try simp only[put,sA]
   refine wpAnyH_done (by kernel_rfl) ?_ _;have Ro:Hid (St (wr.setCell ⟨w.heap.size,k+1,none⟩ (.bool (false))).drew 4 w.heap.size (gz f x.p s0 (k+1) (N+1))):=(by show St _ _ _ _;rw[<-HNX.out,yK];exact we);have Qd:=hid rm;clear we rm G0 Jf II Jt GP qj qD;go_wp2;go_roundw
   ·exact⟨k+1,by go_num,by omega,Ro,Qd.out⟩
   simp[intOf];omega
  skip;refine wp_region_held_drew (S:=fun W'=>Below w.heap.size w W'/\W'.cell? ⟨gf,FE+k,none⟩=some (.bool true)/\W'.cell? ⟨g,off+1,none⟩=some (.int .u64 (wd x.p 0))/\W'.cell? ⟨g,off+2,none⟩=some (.int .u64 (wd x.p 1))/\W'.cell? ⟨g,off+3,none⟩=some (.int .u64 (wd x.p 2))/\W'.cell? ⟨g,off+4,none⟩=some (.int .u64 (wd x.p 3))) (by kernel_rfl) ⟨bp.drew,df,p1,p2,p3,p4⟩ (fun η=>?_)
  (refine an 0 ?_;refine an 1 ?_;refine an 2 ?_;try simp only[put,sA];refine an 3 ?_;refine an 4 ?_;refine an 5 ?_;try simp only[put,sA];refine an 6 ?_;refine an 7 ?_;refine an 8 ?_;try simp only[put,sA];refine an 9 ?_;refine an 10 ?_;refine an 11 ?_;try simp only[put,sA];refine an 12 ?_;refine an 13 ?_;refine an 14 ?_;try simp only[put,sA];refine an 15 ?_;refine an 16 ?_;refine an 17 ?_;try simp only[put,sA];refine an 18 ?_;try simp only[put,sA])
  refine bc 19 (fun K hK=>?_);skip;go_simp;go_at_call 52;refine (Ox x.p bt km _).mono ?_;rintro e w6 ⟨rfl,lQ⟩;have b6:Below wr.heap.size wr w6:=⟨lQ.os,lQ.tape,lQ.output,lQ.size,lQ.block⟩
  have qj:=uv.out.ab b6;have qD:=bp.trans (b6.mono bp.size);have f6:=qj.Cx (k+1);have c6:w6.cell? ⟨w.heap.size,k+1,none⟩=some (.bool (qP f x.p s0 k (k+1))):=by rw[qj.cell,Fp _ _ _ _ _ _ (by omega)]
  have df6:=(qD.cell (p:=⟨gf,FE+k,none⟩) Lg).trans G8;have p16:=(qD.cell (p:=⟨g,off+1,none⟩) hg).trans d1;have p26:=(qD.cell (p:=⟨g,off+2,none⟩) hg).trans d2;have p36:=(qD.cell (p:=⟨g,off+3,none⟩) hg).trans d3;have p46:=(qD.cell (p:=⟨g,off+4,none⟩) hg).trans d4
  try go_wp2_with fail
  refine hK.out _ _ ⟨qD,df6,p16,p26,p36,p46⟩ fun η=>?_;clear hK K
  try simp only[put,sA]
  (refine an 20 ?_;refine an 21 ?_;try simp only[put,sA])
  refine bc 22 (fun K hK=>?_);skip;go_simp;have we:=qj.set (k+1) (.bool (x.p bt));have rm:=qD.setCell (p:=⟨w.heap.size,k+1,none⟩) (le_refl _) (.bool (x.p bt));have G0:=(rm.cell (p:=⟨gf,FE+k,none⟩) Lg).trans G8;have Jf:=(rm.cell (p:=⟨g,off+1,none⟩) hg).trans d1;have II:=(rm.cell (p:=⟨g,off+2,none⟩) hg).trans d2;have Jt:=(rm.cell (p:=⟨g,off+3,none⟩) hg).trans d3;have GP:=(rm.cell (p:=⟨g,off+4,none⟩) hg).trans d4;refine hK.out _ _ ⟨rm,G0,Jf,II,Jt,GP⟩ fun η=>?_;clear hK K
  try simp only[put,sA]
  refine wpAnyH_done (by kernel_rfl) ?_ _;have Ro:Hid (St (w6.setCell ⟨w.heap.size,k+1,none⟩ (.bool (x.p bt))) 4 w.heap.size (gz f x.p s0 (k+1) (N+1))):=by show St _ _ _ _;rw[<-HNX.out,yK];exact we
  have Qd:=hid rm;clear we rm G0 Jf II Jt GP qj qD f6 c6;go_wp2;go_roundw
  ·exact⟨k+1,by go_num,by omega,Ro,Qd.out⟩
  simp[intOf];omega
 obtain rfl:k=N:=by omega
 have zT:=HS.out;go_wp2;go_ret;refine⟨_,_,rfl,?_,bp⟩;intro _;refine⟨w.heap.size,0,rfl,uv.out.lt,fun j hj=>?_⟩;rw[Nat.zero_add,uv.out.cell,Fp _ _ _ _ _ _ hj,HE.out j hj]
theorem zmY(t:Rx)(hw:t.wf):tr t:=by
 induction t with
 | leaf x=>
  have hk:x.k=0\/x.k=1:=by have:=tw x.k;have:=hw.1;omega
  rcases hk with h|h
  ·exact zkQ x h hw
  exact zmX x h hw
 | un x s ih=>
  have hk:x.k=4\/x.k=5\/x.k=6:=by have:=tw x.k;have:=hw.1;omega
  rcases hk with h|h|h
  ·exact zkP x s h hw (ih hw.2.2)
  ·exact zkR x s h hw (ih hw.2.2)
  exact zmU x s h hw (ih hw.2.2)
 | bin x s t ihs iht=>
  have hk:x.k=2\/x.k=3:=by have:=tw x.k;have:=hw.1;omega
  rcases hk with h|h
  ·exact zmV x s t h hw (ihs hw.2.2.1) (iht hw.2.2.2)
  exact zmW x s t h hw (ihs hw.2.2.1) (iht hw.2.2.2)
def Dz:Nat->Bool:=fun j=>j == 0
theorem Yw(t:Rx)(hw:t.wf)(s:ByteArray)(N:Nat)(hs:s.size=N)(hN:N<=99998)(g off n cap:Nat)(w:World)(hL:ik w (some ⟨g,off,none⟩) t.flat)(hn:t.flat.length=n)(dG:n<=1000000)(dq:n<=cap/\cap<=maxLen):
  Calls prog 18 #[.slice (some ⟨g,off,none⟩) n cap,.string s] w fun e w'=>e=.returned (.bool (dC s N t Dz N))/\Below w.heap.size w w':=by
 have hB:Below w.heap.size w (w.alloc (.cells ((madeCells #[.bool false] (N+1)).setIfInBounds 0 (.bool true)) 4)):=(Below.refl _ _).alloc (le_refl _) _;have hM:=St.new w 4 (madeCells #[.bool false] (N+1));have Ud:=St.new w 4 ((madeCells #[.bool false] (N+1)).setIfInBounds 0 (.bool true));have dB:∀j,j<N+1->(madeCells #[.bool false] (N+1))[j]?=some (.bool false):=fun j hj=>by simp[madeCells,hj,Nat.mod_one]
 have c0:(w.alloc (.cells (madeCells #[.bool false] (N+1)) 4)).cell? ⟨w.heap.size,0,none⟩=some (.bool false):=by rw[hM.cell];exact dB 0 (by omega)
 have f0:=hM.Cx 0;have hF:pd (w.alloc (.cells ((madeCells #[.bool false] (N+1)).setIfInBounds 0 (.bool true)) 4)) (some ⟨w.heap.size,0,none⟩) (N+1) Dz:=by
  intro _;refine⟨w.heap.size,0,rfl,Ud.lt,fun j hj=>?_⟩;rw[Nat.zero_add,Ud.cell];by_cases h0:j=0
  ·subst h0;rw[Array.getElem?_setIfInBounds_self,if_pos (by rw[size_madeCells];omega)];rfl
  rw[Array.getElem?_setIfInBounds_ne (by omega),dB j hj];simp[Dz,h0]
 have HC:=hid (zmY t hw s N hs hN g off n cap _ Dz (some ⟨w.heap.size,0,none⟩) (N+1) (hL.below hB) hn dG dq hF);have HB:=hid hB;have HS:=hid hs;have fJ:=Ba N hN;have zT:=hs;have BD:IntKind.i64.wrap ((N:Int)+1)=(N:Int)+1:=i64_in _ (by omega);have dc:=hB.size;clear hL hn dq hB hM Ud dB hF hw hs;go_in;go_wp2_with fail;refine HC.out.mono ?_;rintro e w5 ⟨a5,c5,rfl,h5,b5⟩;obtain⟨g5,o5,rfl,sa,tZ⟩:=h5 (by omega);have d5:=tZ N (by omega);have i1:(N:Int)<N+1:=by omega
 clear tZ h5;go_wp2;go_ret;exact⟨rfl,HB.out.trans (b5.mono dc)⟩
def pB(L:List Nat)(i j:Nat):List Nat:=(L.drop i).take (j-i)
theorem Om(L:List Nat)(i:Nat):pB L i i=[]:=by simp[pB]
theorem Lp(L:List Nat)(i m j:Nat)(h1:i<=m)(h2:m<=j):pB L i j=pB L i m++pB L m j:=by
 unfold pB;rw[show j-i=(m-i)+(j-m) by omega,List.take_add,List.drop_drop,show i+(m-i)=m by omega]
theorem FM(L:List Nat)(i j:Nat)(h1:i<=j)(h2:j<=L.length):(pB L i j).length=j-i:=by simp[pB];omega
theorem Uq(L:List Nat)(i j:Nat)(h1:i<=j)(h2:j<=L.length)(u v:List Nat)(h:pB L i j=u++v):∃m,i<=m/\m<=j/\u=pB L i m/\v=pB L m j:=by
 have hl:=congrArg List.length h;rw[FM L i j h1 h2,List.length_append] at hl;refine⟨i+u.length,by omega,by omega,?_⟩;have h3:=Lp L i (i+u.length) j (by omega) (by omega);rw[h] at h3;have h4:(pB L i (i+u.length)).length=u.length:=by rw[FM L _ _ (by omega) (by omega)];omega
 exact List.append_inj h3 h4.symm
theorem zkS(L:List Nat)(i:Nat)(h:i<L.length):pB L i (i+1)=[L[i]]:=by
 unfold pB;rw[show i+1-i=1 by omega,List.take_one,List.head?_drop,List.getElem?_eq_getElem h];rfl
def Ev(L:List Nat)(N:Nat)(A:List Nat->Prop)(E:(Nat->Bool)->Nat->Bool):Prop:=∀f j,j<=N->(E f j=true↔∃i,i<=j/\f i=true/\A (pB L i j))
theorem WG(f h:Nat->Bool)(n:Nat):iY f h n=true↔∀j,j<n->f j=h j:=by
 induction n with
 | zero=>simp[iY]
 | succ n ih=>
  simp only[iY,Bool.and_eq_true,ih,beq_iff_eq];constructor
  ·rintro⟨h1,h2⟩ j hj;rcases Nat.lt_or_ge j n with h|h
   ·exact h1 j h
   rw[show j=n by omega];exact h2
  exact fun h=>⟨fun j hj=>h j (by omega),h n (by omega)⟩
def lq(f:Nat->Bool):Nat->Nat
 | 0=>0
 | n+1=>lq f n+if f n=true then 0 else 1
theorem zpj(f:Nat->Bool)(n:Nat):lq f n<=n:=by
 induction n with
 | zero=>simp[lq]
 | succ n ih=>simp only[lq];split <;> omega
theorem zkT(f h:Nat->Bool)(n:Nat)(hs:∀j,j<n->f j=true->h j=true):lq h n<=lq f n:=by
 induction n with
 | zero=>simp[lq]
 | succ n ih=>
  have h1:=ih (fun j hj=>hs j (by omega));have h2:=hs n (by omega);simp only[lq];by_cases hf:f n=true
  ·rw[if_pos hf,if_pos (h2 hf)];omega
  rw[if_neg hf];split <;> omega
theorem zkU(f h:Nat->Bool)(n:Nat)(hs:∀j,j<n->f j=true->h j=true)(j:Nat)(hj:j<n)(h0:f j=false)(h1:h j=true):lq h n<lq f n:=by
 induction n with
 | zero=>omega
 | succ n ih=>
  have hm:=zkT f h n (fun j hj=>hs j (by omega));simp only[lq];by_cases he:j=n
  ·subst he;rw[if_pos h1,h0];simp;omega
  have:=ih (fun j hj=>hs j (by omega)) (by omega);have h2:=hs n (by omega);by_cases hf:f n=true
  ·rw[if_pos hf,if_pos (h2 hf)];omega
  rw[if_neg hf];split <;> omega
theorem zkV(f:Nat->Bool)(n j:Nat)(hj:j<n)(h:f j=true):lq f n<n:=by
 induction n with
 | zero=>omega
 | succ n ih=>
  have hl:=zpj f n;simp only[lq];by_cases he:j=n
  ·subst he;rw[if_pos h];omega
  have:=ih (by omega);split <;> omega
def Vm(N:Nat)(E:(Nat->Bool)->Nat->Bool)(f:Nat->Bool):Prop:=∀j,j<=N->E f j=true->f j=true
theorem zkX{A:List Nat->Prop}(hE:Ev L N A E){h:Nat->Bool}(e:∀j,j<=N->f j=h j)(j:Nat)(hj:j<=N):E f j=true↔E h j=true:=by
 rw[hE f j hj,hE h j hj];exact⟨fun ⟨i,h1,h2,h3⟩=>⟨i,h1,by rw[<-e i (by omega)];exact h2,h3⟩,fun ⟨i,h1,h2,h3⟩=>⟨i,h1,by rw[e i (by omega)];exact h2,h3⟩⟩
theorem Y8{L:List Nat}{N:Nat}{A:List Nat->Prop}{E:(Nat->Bool)->Nat->Bool}(hE:Ev L N A E):∀(k:Nat) (f:Nat->Bool),(lq f (N+1)<k\/(0<k/\∀j,j<=N->f j=false))->Vm N E (dK E (N+1) k f)
 | 0,f,h=>by omega
 | k+1,f,h=>by
  unfold dK
  by_cases hs:iY (lj f (E f)) f (N+1)=true
  ·rw[if_pos hs]
   have he:=(WG _ _ _).1 hs
   intro j hj h1
   have h2:=(zkX hE (fun j hj=>he j (by omega)) j hj).1 h1
   simp[lj,h2]
  ·rw[if_neg hs]
   refine Y8 hE k _ ?_
   have hne:∃j,j<=N/\f j=false/\E f j=true:=by
    refine Classical.byContradiction fun gm=>hs ((WG _ _ _).2 fun j hj=>?_)
    by_cases hf:f j=true
    ·simp[lj,hf]
    ·have Vk:f j=false:=by simpa using hf
     have:E f j=false:=by
      by_cases FQ:E f j=true
      ·exact absurd ⟨j,by omega,Vk,FQ⟩ gm
      ·simpa using FQ
     simp[lj,Vk,this]
   obtain⟨j,hj,h0,h1⟩:=hne
   rcases h with h|⟨_,h⟩
   ·have:=zkU f (lj f (E f)) (N+1) (fun i hi nP=>by simp[lj,nP]) j (by omega) h0 (by simp[lj,h1])
    exact inl (by omega)
   ·obtain⟨i,hi,nP,_⟩:=(hE f j hj).1 h1
    rw[h i (by omega)] at nP
    cases nP
theorem ZH{L:List Nat}{N:Nat}(hN:L.length=N){A:List Nat->Prop}{E:(Nat->Bool)->Nat->Bool}(hE:Ev L N A E):∀(k:Nat) (f:Nat->Bool),(∀j,j<=N->f j=true->dK E (N+1) k f j=true)/\∀j,j<=N->dK E (N+1) k f j=true->∃i,i<=j/\f i=true/\dH A (pB L i j)
 | 0,f=>⟨fun j _ h=>h,fun j _ h=>⟨j,le_refl _,h,by rw[Om];exact dH.nil⟩⟩
 | k+1,f=>by
  have uY:∀j,j<=N->lj f (E f) j=true->∃i,i<=j/\f i=true/\dH A (pB L i j):=by
   intro j hj h
   simp only[lj,Bool.or_eq_true] at h
   rcases h with h|h
   ·exact⟨j,le_refl _,h,by rw[Om];exact dH.nil⟩
   ·obtain⟨i,h1,h2,h3⟩:=(hE f j hj).1 h
    exact⟨i,h1,h2,dH.one h3⟩
  obtain⟨h1,h2⟩:=ZH hN hE k (lj f (E f))
  unfold dK
  by_cases hs:iY (lj f (E f)) f (N+1)=true
  ·rw[if_pos hs]
   exact⟨fun j _ h=>by simp[lj,h],uY⟩
  ·rw[if_neg hs]
   refine⟨fun j hj h=>h1 j hj (by simp[lj,h]),fun j hj h=>?_⟩
   obtain⟨m,h3,h4,h5⟩:=h2 j hj h
   obtain⟨i,h6,h7,h8⟩:=uY m (by omega) h4
   exact⟨i,by omega,h7,by rw[Lp L i m j h6 h3];exact h8.cat h5⟩
theorem zhu(hN:L.length=N){A:List Nat->Prop}(hE:Ev L N A E)(hc:Vm N E f){s:List Nat}(h:dH A s):∀i j,i<=j->j<=N->pB L i j=s->f i=true->f j=true:=by
 induction h with
 | nil=>
  intro i j h1 h2 h3 h4;have:=FM L i j h1 (by omega);rw[h3] at this;simp at this;rw[show j=i by omega];exact h4
 | @app u v hu hv ih=>
  intro i j h1 h2 h3 h4;obtain⟨m,h5,h6,rfl,rfl⟩:=Uq L i j h1 (by omega) u v h3;exact ih m j h6 h2 rfl (hc m (by omega) ((hE f m (by omega)).2 ⟨i,h5,h4,hu⟩))
theorem zkY(hN:L.length=N){A:List Nat->Prop}(hE:Ev L N A E):Ev L N (dH A) (dK E (N+1) (N+1)):=by
 intro f j hj;obtain⟨h1,h2⟩:=ZH hN hE (N+1) f;refine⟨h2 j hj,fun ⟨i,h3,h4,h5⟩=>?_⟩;have hc:=Y8 hE (N+1) f (inl (zkV f (N+1) i (by omega) h4));exact zhu hN hE hc h5 i j h3 hj rfl (h1 i (by omega) h4)
theorem zmZ(s:ByteArray)(L:List Nat)(N:Nat)(hN:L.length=N)(hb:∀i (h:i<L.length),L[i]=(s.get! i).toNat)(t:Rx)(hw:t.wf):Ev L N (dI t) (dC s N t):=by
 induction t with
 | leaf x=>
  intro f j hj;show (if x.k=1 then _ else _:(Nat->Bool)) j=true↔_;by_cases hk:x.k=1
  ·rw[if_pos hk];constructor
   ·intro h
    match j,hj,h with
    | i+1,hj,h=>
     simp only[Bool.and_eq_true] at h;have hi:i<L.length:=(by omega);refine⟨i,by omega,h.1,?_⟩;rw[zkS L i hi,yX,if_pos hk];exact⟨_,rfl,by rw[hb i hi];exact UInt8.toNat_lt _,by rw[hb i hi];exact h.2⟩
   rintro⟨i,h1,h2,h3⟩;rw[yX,if_pos hk] at h3;obtain⟨b,h4,h5,h6⟩:=h3;have hl:=FM L i j h1 (by omega);rw[h4] at hl;have Ni:j=i+1:=(by simp at hl;omega);subst Ni;rw[zkS L i (by omega)] at h4;have nZ:L[i]'(by omega)=b:=(by simpa using h4);show (f i && x.p (s.get! i).toNat)=true;rw[<-hb i (by omega),nZ,h2,h6];rfl
  rw[if_neg hk];constructor
  ·exact fun h=>⟨j,le_refl _,h,by rw[Om,yX,if_neg hk]⟩
  rintro⟨i,h1,h2,h3⟩;rw[yX,if_neg hk] at h3;have hl:=FM L i j h1 (by omega);rw[h3] at hl;simp at hl;rw[show j=i by omega];exact h2
 | un x a ih=>
  have hE:=ih hw.2.2;have hS:=zkY hN hE;have hk:x.k=4\/x.k=5\/x.k=6:=by have:=tw x.k;have:=hw.1;omega
  intro f j hj;show (if x.k=6 then lj f (dC s N a f) else if x.k=4 then dK (dC s N a) (N+1) (N+1) f else dK (dC s N a) (N+1) (N+1) (dC s N a f)) j=true↔_;rcases hk with h|h|h
  ·rw[if_neg (by omega),if_pos h,hS f j hj];simp only[zj,h,if_true]
  ·rw[if_neg (by omega),if_neg (by omega),hS _ j hj];simp only[zj,h,show ¬((5:Int)=4) by decide,if_false,if_true];constructor
   ·rintro⟨m,h1,h2,h3⟩;obtain⟨i,h4,h5,h6⟩:=(hE f m (by omega)).1 h2;exact⟨i,by omega,h5,_,_,Lp L i m j h4 h1,h6,h3⟩
   rintro⟨i,h1,h2,u,v,h3,h4,h5⟩;obtain⟨m,h6,h7,rfl,rfl⟩:=Uq L i j h1 (by omega) u v h3;exact⟨m,h7,(hE f m (by omega)).2 ⟨i,h6,h2,h4⟩,h5⟩
  rw[if_pos h];simp only[zj,h,show ¬((6:Int)=4) by decide,show ¬((6:Int)=5) by decide,if_false,lj,Bool.or_eq_true,hE f j hj];constructor
  ·rintro (h1|⟨i,h1,h2,h3⟩)
   ·exact⟨j,le_refl _,h1,inl (Om L j)⟩
   exact⟨i,h1,h2,inr h3⟩
  rintro⟨i,h1,h2,h3|h3⟩
  ·have hl:=FM L i j h1 (by omega);rw[h3] at hl;simp at hl;exact inl (by rw[show j=i by omega];exact h2)
  exact inr ⟨i,h1,h2,h3⟩
 | bin x a b iha ihb=>
  have hA:=iha hw.2.2.1;have hB:=ihb hw.2.2.2;have hk:x.k=2\/x.k=3:=by have:=tw x.k;have:=hw.1;omega
  intro f j hj;show (if x.k=2 then dC s N b (dC s N a f) else lj (dC s N a f) (dC s N b f)) j=true↔_;rcases hk with h|h
  ·rw[if_pos h,hB _ j hj];simp only[Ds,h,if_true];constructor
   ·rintro⟨m,h1,h2,h3⟩;obtain⟨i,h4,h5,h6⟩:=(hA f m (by omega)).1 h2;exact⟨i,by omega,h5,_,_,Lp L i m j h4 h1,h6,h3⟩
   rintro⟨i,h1,h2,u,v,h3,h4,h5⟩;obtain⟨m,h6,h7,rfl,rfl⟩:=Uq L i j h1 (by omega) u v h3;exact⟨m,h7,(hA f m (by omega)).2 ⟨i,h6,h2,h4⟩,h5⟩
  rw[if_neg (by omega)];simp only[Ds,h,show ¬((3:Int)=2) by decide,if_false,lj,Bool.or_eq_true,hA f j hj,hB f j hj];constructor
  ·rintro (⟨i,h1,h2,h3⟩|⟨i,h1,h2,h3⟩)
   ·exact⟨i,h1,h2,inl h3⟩
   exact⟨i,h1,h2,inr h3⟩
  rintro⟨i,h1,h2,h3|h3⟩
  ·exact inl ⟨i,h1,h2,h3⟩
  exact inr ⟨i,h1,h2,h3⟩
theorem XC(s:ByteArray)(L:List Nat)(N:Nat)(hN:L.length=N)(hb:∀i (h:i<L.length),L[i]=(s.get! i).toNat)(t:Rx)(hw:t.wf):dC s N t Dz N=true↔dI t L:=by
 rw[zmZ s L N hN hb t hw Dz N (le_refl _)];have eo:pB L 0 N=L:=by simp[pB,<-hN]
 constructor
 ·rintro⟨i,h1,h2,h3⟩;have:i=0:=by simpa [Dz] using h2
  subst this;rw[eo] at h3;exact h3
 exact fun h=>⟨0,Nat.zero_le _,rfl,by rw[eo];exact h⟩
