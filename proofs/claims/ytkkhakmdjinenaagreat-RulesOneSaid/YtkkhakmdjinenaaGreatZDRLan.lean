import Derived.Test.YtkkhakmdjinenaaGreatZDMath
import Derived.Test.YtkkhakmdjinenaaGreatZDREnds1
import Derived.Test.YtkkhakmdjinenaaGreatZTk
set_option linter.all false
set_option maxHeartbeats 2000000
set_option maxRecDepth 100000
open Go.Lib (hid)
namespace Go.Proofs.YtkkhakmdjinenaaGreat
open Go.RowKit Go.Proofs.Tryz
open Nat (le_refl le_trans)
open IntWalk (i64_in)
open Act (put)
open Or (inl inr)
variable {E:(Nat->Bool)->Nat->Bool}{L:List Nat}{N:Nat}{f:Nat->Bool}
theorem zmH(x:Pc)(s t:Rx)(hk:x.k=2)(hw:((Rx.bin x s t)).wf)(ih:sr s)(jh:sr t):sr (.bin x s t):=by
 intro s0 N hs hN g off n cap w f a c hL hn dK dq hF;obtain⟨m,hm⟩:∃m,n-1=m:=⟨_,rfl⟩
 have hpos:=(Rx.bin x s t).aZ;have da:n=m+1:=by omega
 obtain⟨g',lg,e,hg,d0,-⟩:=hL.get m (by omega);simp at e;obtain⟨rfl,rfl⟩:=e;have nh:(Rx.bin x s t).flat[m]'(by omega)=x:=by
  have h1:=(Rx.bin x s t).jN;rw[hn,hm,List.getElem?_eq_getElem (by omega)] at h1;exact Option.some.inj h1
 rw[nh] at d0;have hB:Below w.heap.size w (w.alloc (.cells (madeCells #[.bool false] (N+1)) 4)):=(Below.refl _ _).alloc (le_refl _) _;have HC:=hid (DW (.bin x s t) hw g off n cap _ (hL.below hB) hn dK dq);have HB:=hid hB;have HF:=hid hF;have HK:=hid hk;have HS:=hid hs;have eR:=BM N hN;have cZ:=hB.size;have en:(n:Int)-1=(m:Int):=by omega
 have iX:m<n:=by omega
 have tp:n<=9223372036854775807:=by have:=dq.1;have:=dq.2;unfold maxLen at this;omega
 have yF:s.flat.length<=1000000/\t.flat.length<=1000000:=by
  have:(Rx.bin x s t).flat.length=s.flat.length+t.flat.length+1:=by simp[Rx.flat];omega
  omega
 clear hL hn dq hB nh hw da hm hpos hk hs hF;go_in;go_wp2_with fail;refine HC.out.mono ?_;rintro e w5 ⟨aL,cL,rfl,pa,b5⟩;have ef:=HB.out.trans (b5.mono cZ);have jn:=ef.size;have e0:=(ef.cell (p:=⟨g,off+m*5,none⟩) hg).trans d0;have xU:=hid (HF.out.below ef);have hk:=HK.out;have k0:(x.k == 0)=false:=by simp;omega
 have k1:(x.k == 1)=false:=by simp;omega
 have k2:(x.k == 2)=true:=by simp[hk]
 obtain⟨b,g1,o1,c1,rfl,gE,rI,_,gp,iF,lk⟩:=pa 0 (by show 0<2;decide);obtain⟨b',g2,o2,c2,og,fp,zt,_,_,me,xD⟩:=pa 1 (by show 1<2;decide);simp at og;subst og;obtain⟨n1,da⟩:∃n1,s.flat.length=n1:=⟨_,rfl⟩
 obtain⟨n2,cU⟩:∃n2,t.flat.length=n2:=⟨_,rfl⟩
 have t1:w5.cell? ⟨b,0,none⟩=some (.slice (some ⟨g1,o1,none⟩) n1 c1):=by rw[<-da];exact gE
 have t2:w5.cell? ⟨b,1,none⟩=some (.slice (some ⟨g2,o2,none⟩) n2 c2):=by rw[<-cU];exact fp
 have HI:=hid (fun (W:World) (bw:Below w5.heap.size w5 W) (f:Nat->Bool) (a:Option Addr) (c:Nat) (hf:oE W a (N+1) f)=>ih s0 N HS.out hN g1 o1 n1 c1 W f a c (rI.below bw) da (by omega) ⟨by rw[<-da];exact iF,lk⟩ hf);have HJ:=hid (fun (W:World) (bw:Below w5.heap.size w5 W) (f:Nat->Bool) (a:Option Addr) (c:Nat) (hf:oE W a (N+1) f)=>jh s0 N HS.out hN g2 o2 n2 c2 W f a c (zt.below bw) cU (by omega) ⟨by rw[<-cU];exact me,xD⟩ hf);rw[show (Rx.bin x s t).kids.length=2 from rfl];have HE:Hid (db s0 N (.bin x s t) f=db s0 N t (db s0 N s f)):=by show (if x.k=2 then _ else _:(Nat->Bool))=_;rw[if_pos hk]
 clear pa gE rI da iF lk fp zt cU me xD hk;have xJ:True:=trivial;have wR:True:=trivial;go_wp2_with fail
 go_region_with (first
  | (have _t:=xJ;go_at_call 33;refine (HI.out w5.drew (Below.refl _ _).drew f a c xU.out).mono ?_;rintro e w6 ⟨a6,c6,rfl,h6,lF⟩;have b6:Below w5.heap.size w5 w6:=⟨lF.os,lF.tape,lF.output,lF.size,lF.block⟩;have t6:=(b6.cell (p:=⟨b,1,none⟩) gp).trans t2;clear _t xJ)
  | (have _u:=wR;go_at_call 33;refine (HJ.out w6 b6 (db s0 N s f) a6 c6 h6).mono ?_;rintro e w7 ⟨a7,c7,rfl,h7,b7⟩;clear _u wR))
 all_goals
  go_wp2
  go_ret
  exact⟨a7,c7,rfl,by rw[HE.out];exact h7,(ef.trans (b6.mono jn)).trans (b7.mono (le_trans jn b6.size))⟩
theorem zmI(x:Pc)(s t:Rx)(hk:x.k=3)(hw:((Rx.bin x s t)).wf)(ih:sr s)(jh:sr t):sr (.bin x s t):=by
 intro s0 N hs hN g off n cap w f a c hL hn dK dq hF;obtain⟨m,hm⟩:∃m,n-1=m:=⟨_,rfl⟩
 have hpos:=(Rx.bin x s t).aZ;have da:n=m+1:=by omega
 obtain⟨g',lg,e,hg,d0,-⟩:=hL.get m (by omega);simp at e;obtain⟨rfl,rfl⟩:=e;have nh:(Rx.bin x s t).flat[m]'(by omega)=x:=by
  have h1:=(Rx.bin x s t).jN;rw[hn,hm,List.getElem?_eq_getElem (by omega)] at h1;exact Option.some.inj h1
 rw[nh] at d0;have hB:Below w.heap.size w (w.alloc (.cells (madeCells #[.bool false] (N+1)) 4)):=(Below.refl _ _).alloc (le_refl _) _;have HC:=hid (DW (.bin x s t) hw g off n cap _ (hL.below hB) hn dK dq);have HB:=hid hB;have HF:=hid hF;have HK:=hid hk;have HS:=hid hs;have eR:=BM N hN;have cZ:=hB.size;have en:(n:Int)-1=(m:Int):=by omega
 have iX:m<n:=by omega
 have tp:n<=9223372036854775807:=by have:=dq.1;have:=dq.2;unfold maxLen at this;omega
 have yF:s.flat.length<=1000000/\t.flat.length<=1000000:=by
  have:(Rx.bin x s t).flat.length=s.flat.length+t.flat.length+1:=by simp[Rx.flat];omega
  omega
 clear hL hn dq hB nh hw da hm hpos hk hs hF;go_in;go_wp2_with fail;refine HC.out.mono ?_;rintro e w5 ⟨aL,cL,rfl,pa,b5⟩;have ef:=HB.out.trans (b5.mono cZ);have jn:=ef.size;have e0:=(ef.cell (p:=⟨g,off+m*5,none⟩) hg).trans d0;have xU:=hid (HF.out.below ef);have hk:=HK.out;have k0:(x.k == 0)=false:=by simp;omega
 have k1:(x.k == 1)=false:=by simp;omega
 have k2:(x.k == 2)=false:=by simp;omega
 have k3:(x.k == 3)=true:=by simp[hk]
 obtain⟨b,g1,o1,c1,rfl,gE,rI,_,gp,iF,lk⟩:=pa 0 (by show 0<2;decide);obtain⟨b',g2,o2,c2,og,fp,zt,_,_,me,xD⟩:=pa 1 (by show 1<2;decide);simp at og;subst og;obtain⟨n1,da⟩:∃n1,s.flat.length=n1:=⟨_,rfl⟩
 obtain⟨n2,cU⟩:∃n2,t.flat.length=n2:=⟨_,rfl⟩
 have t1:w5.cell? ⟨b,0,none⟩=some (.slice (some ⟨g1,o1,none⟩) n1 c1):=by rw[<-da];exact gE
 have t2:w5.cell? ⟨b,1,none⟩=some (.slice (some ⟨g2,o2,none⟩) n2 c2):=by rw[<-cU];exact fp
 have HI:=hid (fun (W:World) (bw:Below w5.heap.size w5 W) (f:Nat->Bool) (a:Option Addr) (c:Nat) (hf:oE W a (N+1) f)=>ih s0 N HS.out hN g1 o1 n1 c1 W f a c (rI.below bw) da (by omega) ⟨by rw[<-da];exact iF,lk⟩ hf);have HJ:=hid (fun (W:World) (bw:Below w5.heap.size w5 W) (f:Nat->Bool) (a:Option Addr) (c:Nat) (hf:oE W a (N+1) f)=>jh s0 N HS.out hN g2 o2 n2 c2 W f a c (zt.below bw) cU (by omega) ⟨by rw[<-cU];exact me,xD⟩ hf);rw[show (Rx.bin x s t).kids.length=2 from rfl];have HE:Hid (db s0 N (.bin x s t) f=lf (db s0 N s f) (db s0 N t f)):=by show (if x.k=2 then _ else _:(Nat->Bool))=_;rw[if_neg (by omega)]
 clear pa gE rI da iF lk fp zt cU me xD hk;have xJ:True:=trivial;have wR:True:=trivial;go_wp2_with fail
 go_region_with (first
  | (have _t:=xJ;go_at_call 33;refine (HI.out w5.drew (Below.refl _ _).drew f a c xU.out).mono ?_;rintro e w6 ⟨a6,c6,rfl,h6,lF⟩;have b6:Below w5.heap.size w5 w6:=⟨lF.os,lF.tape,lF.output,lF.size,lF.block⟩;have t6:=(b6.cell (p:=⟨b,1,none⟩) gp).trans t2;have Jz:=hid (xU.out.below b6);clear _t xJ)
  | (have _u:=wR;go_at_call 33;refine (HJ.out w6 b6 f a c Jz.out).mono ?_;rintro e w7 ⟨a7,c7,rfl,h7,b7⟩;have h67:=h6.below b7;clear _u wR)
  | (go_at_call 53;refine (OJ (db s0 N s f) (db s0 N t f) a6 a7 (N+1) c6 c7 w7 h67 h7 (by omega)).mono ?_;rintro e w8 ⟨a8,c8,rfl,h8,b8⟩))
 all_goals
  go_wp2
  go_ret
  exact⟨a8,c8,rfl,by rw[HE.out];exact Ko h8,((ef.trans (b6.mono jn)).trans (b7.mono (le_trans jn b6.size))).trans (b8.mono (le_trans jn (le_trans b6.size b7.size)))⟩
theorem zkE(x:Pc)(s:Rx)(hk:x.k=5)(hw:((Rx.un x s)).wf)(ih:sr s):sr (.un x s):=by
 intro s0 N hs hN g off n cap w f a c hL hn dK dq hF;obtain⟨m,hm⟩:∃m,n-1=m:=⟨_,rfl⟩
 have hpos:=(Rx.un x s).aZ;have da:n=m+1:=by omega
 obtain⟨g',lg,e,hg,d0,-⟩:=hL.get m (by omega);simp at e;obtain⟨rfl,rfl⟩:=e;have nh:(Rx.un x s).flat[m]'(by omega)=x:=by
  have h1:=(Rx.un x s).jN;rw[hn,hm,List.getElem?_eq_getElem (by omega)] at h1;exact Option.some.inj h1
 rw[nh] at d0;have hB:Below w.heap.size w (w.alloc (.cells (madeCells #[.bool false] (N+1)) 4)):=(Below.refl _ _).alloc (le_refl _) _;have HC:=hid (DW (.un x s) hw g off n cap _ (hL.below hB) hn dK dq);have HB:=hid hB;have HF:=hid hF;have HK:=hid hk;have HS:=hid hs;have eR:=BM N hN;have cZ:=hB.size;have en:(n:Int)-1=(m:Int):=by omega
 have iX:m<n:=by omega
 have tp:n<=9223372036854775807:=by have:=dq.1;have:=dq.2;unfold maxLen at this;omega
 have yF:s.flat.length<=1000000:=by
  have:(Rx.un x s).flat.length=s.flat.length+1:=by simp[Rx.flat]
  omega
 clear hL hn dq hB nh hw da hm hpos hk hs hF;go_in;go_wp2_with fail;refine HC.out.mono ?_;rintro e w5 ⟨aL,cL,rfl,pa,b5⟩;have ef:=HB.out.trans (b5.mono cZ);have jn:=ef.size;have e0:=(ef.cell (p:=⟨g,off+m*5,none⟩) hg).trans d0;have xU:=hid (HF.out.below ef);have hk:=HK.out;have k0:(x.k == 0)=false:=by simp;omega
 have k1:(x.k == 1)=false:=by simp;omega
 have k2:(x.k == 2)=false:=by simp;omega
 have k3:(x.k == 3)=false:=by simp;omega
 have k6:(x.k == 6)=false:=by simp;omega
 have k4:(x.k == 4)=false:=by simp;omega
 obtain⟨b,g1,o1,c1,rfl,gE,rI,_,gp,iF,lk⟩:=pa 0 (by show 0<1;decide);obtain⟨n1,da⟩:∃n1,s.flat.length=n1:=⟨_,rfl⟩
 have t1:w5.cell? ⟨b,0,none⟩=some (.slice (some ⟨g1,o1,none⟩) n1 c1):=by rw[<-da];exact gE
 have HI:=hid (fun (W:World) (bw:Below w5.heap.size w5 W) (f:Nat->Bool) (a:Option Addr) (c:Nat) (hf:oE W a (N+1) f)=>ih s0 N HS.out hN g1 o1 n1 c1 W f a c (rI.below bw) da (by omega) ⟨by rw[<-da];exact iF,lk⟩ hf);rw[show (Rx.un x s).kids.length=1 from rfl];have HE:Hid (db s0 N (.un x s) f=dI (db s0 N s) (N+1) (N+1) (db s0 N s f)):=by show (if x.k=6 then _ else if x.k=4 then _ else _:(Nat->Bool))=_;rw[if_neg (by omega),if_neg (by omega)]
 clear pa gE rI da iF lk hk;go_wp2_with fail
 go_region_with (first
  | (go_at_call 33;refine (HI.out w5.drew (Below.refl _ _).drew f a c xU.out).mono ?_;rintro e w6 ⟨a6,c6,rfl,h6,lF⟩;have b6:Below w5.heap.size w5 w6:=⟨lF.os,lF.tape,lF.output,lF.size,lF.block⟩;have t6:=(b6.cell (p:=⟨b,0,none⟩) gp).trans t1)
  | (go_at_call 54;refine (ZD (db s0 N s) _ s0 N HS.out hN w6 (fun f a c W bw hf=>HI.out W (b6.trans (bw.mono b6.size)) f a c hf) (db s0 N s f) a6 c6 h6).mono ?_;rintro e w7 ⟨a7,c7,rfl,h7,b7⟩))
 all_goals
  go_wp2
  go_ret
  exact⟨a7,c7,rfl,by rw[HE.out];exact h7,(ef.trans (b6.mono jn)).trans (b7.mono (le_trans jn b6.size))⟩
def qJ(f:Nat->Bool)(p:Nat->Bool)(s:ByteArray)(k:Nat):Nat->Bool:=fun j=>match j with|0=>false|i+1=>decide (i<k) && (f i && p (s.get! i).toNat)
def gh(f:Nat->Bool)(p:Nat->Bool)(s:ByteArray)(k n:Nat):Array Value:=(fB (qJ f p s k) n).toArray
theorem AL(f p:Nat->Bool)(s:ByteArray)(k n:Nat):(gh f p s k n).size=n:=by simp[gh,fB]
theorem FL(f p:Nat->Bool)(s:ByteArray)(k n j:Nat)(h:j<n):(gh f p s k n)[j]?=some (.bool (qJ f p s k j)):=by simp[gh,fB,h]
theorem Zn(f p:Nat->Bool)(s:ByteArray)(n:Nat):madeCells #[.bool false] n=gh f p s 0 n:=by
 apply Array.ext
 ·rw[size_madeCells,AL]
 intro j h1 h2;rw[AL] at h2;have e:=FL f p s 0 n j h2;rw[Array.getElem?_eq_getElem (by rw[AL];exact h2)] at e;rw[Option.some.inj e];have h0:qJ f p s 0 j=false:=by cases j <;> simp[qJ]
 rw[h0];simp[madeCells,Nat.mod_one]
theorem zjx(f p:Nat->Bool)(s:ByteArray)(k n:Nat)(h:k+1<n):(gh f p s k n).setIfInBounds (k+1) (.bool (f k && p (s.get! k).toNat))=gh f p s (k+1) n:=by
 apply Array.ext
 ·simp[AL]
 intro j h1 h2;rw[AL] at h2;have e:=FL f p s (k+1) n j h2;rw[Array.getElem?_eq_getElem (by rw[AL];exact h2)] at e;rw[Option.some.inj e];by_cases hj:j=k+1
 ·subst hj;rw[Array.getElem_setIfInBounds_self];simp[qJ]
 rw[Array.getElem_setIfInBounds_ne (by simpa [AL] using h2) (Ne.symm hj)];have e2:=FL f p s k n j h2;rw[Array.getElem?_eq_getElem (by rw[AL];exact h2)] at e2;rw[Option.some.inj e2];congr 1
 match j,hj with
 | 0,_=>rfl
 | i+1,hj=>
  show (decide (i<k) && _)=(decide (i<k+1) && _);rw[show decide (i<k)=decide (i<k+1) from by simp;omega]
theorem zmJ(x:Pc)(hk:x.k=1)(hw:(Rx.leaf x).wf):sr (.leaf x):=by
 intro s0 N hs hN g off n cap w f a c hL hn dK dq hF;obtain rfl:n=1:=by rw[<-hn];rfl
 obtain⟨g',lg,e,hg,d0,d1,d2,d3,d4⟩:=hL.get 0 (by simp[Rx.flat]);simp at e;obtain⟨rfl,rfl⟩:=e;have nh:(Rx.leaf x).flat[0]'(by simp[Rx.flat])=x:=rfl;rw[nh] at d0 d1 d2 d3 d4;simp only[Nat.zero_mul,Nat.add_zero] at d0 d1 d2 d3 d4;have hB:Below w.heap.size w (w.alloc (.cells (madeCells #[.bool false] (N+1)) 4)):=(Below.refl _ _).alloc (le_refl _) _;have hM:=St.new w 4 (madeCells #[.bool false] (N+1));rw[Zn f x.p s0 (N+1)] at hM;have HC:=hid (DW (.leaf x) hw g off 1 cap _ (hL.below hB) hn dK dq);have HM:Hid (St (w.alloc (.cells (madeCells #[.bool false] (N+1)) 4)) 4 w.heap.size (gh f x.p s0 0 (N+1))):=by
  show St _ _ _ _;rw[Zn f x.p s0 (N+1)];exact hM
 have HB:=hid hB;have HF:=hid hF;have HK:=hid hk;have HS:=hid hs;have eR:=BM N hN;have cZ:=hB.size;clear hL hn dq hB nh hw hk hs hF hM;go_in;go_wp2_with fail;refine HC.out.mono ?_;rintro e w5 ⟨aL,cL,rfl,pa,b5⟩;have ef:=HB.out.trans (b5.mono cZ);have e0:=(ef.cell (p:=⟨g,off,none⟩) hg).trans d0;have hk:=HK.out;have k0:(x.k == 0)=false:=by simp;omega
 have k1:(x.k == 1)=true:=by simp[hk]
 have HE:Hid (∀j,j<N+1->db s0 N (.leaf x) f j=qJ f x.p s0 N j):=hid fun j hj=>by
  show (if x.k=1 then _ else _:(Nat->Bool)) j=_
  rw[if_pos hk]
  match j,hj with
  | 0,_=>rfl
  | i+1,hj=>
   show (f i && x.p (s0.get! i).toNat)=(decide (i<N) && _);rw[decide_eq_true (by omega)];rfl
 have Di:=hid (HM.out.ab b5);clear pa hk;go_wp2;go_loopw [9] (fun i wr=>∃k:Nat,i=.int .i64 k/\k<=N/\Hid (St wr 4 w.heap.size (gh f x.p s0 k (N+1)))/\Below w.heap.size w wr) (fun i _=>N-(intOf i).toNat)
 ·exact⟨0,rfl,Nat.zero_le _,Di.out,ef⟩
 obtain⟨k,rfl,hkN,vu,bg⟩:=hrel;by_cases aq:k<N
 ·obtain⟨gf,Ez,rfl,Nk,RA⟩:=HF.out (by omega);have Io:=RA k (by omega);have zP:=HS.out;obtain⟨fk,zc⟩:∃b,f k=b:=⟨_,rfl⟩
  rw[zc] at Io;have df:=(bg.cell (p:=⟨gf,Ez+k,none⟩) Nk).trans Io;have p1:=(bg.cell (p:=⟨g,off+1,none⟩) hg).trans d1;have p2:=(bg.cell (p:=⟨g,off+2,none⟩) hg).trans d2;have p3:=(bg.cell (p:=⟨g,off+3,none⟩) hg).trans d3;have p4:=(bg.cell (p:=⟨g,off+4,none⟩) hg).trans d4;have hwk:IntKind.i64.wrap ((k:Int)+1)=(k:Int)+1:=i64_in _ (by omega);have qh:k<s0.size:=by rw[zP];exact aq
  have xv:s0.get! k=s0[k]'qh:=getElem!_pos s0.data k qh;obtain⟨bt,qE⟩:∃bt,(s0[k]'qh).toNat=bt:=⟨_,rfl⟩
  have kc:bt<256:=by rw[<-qE];exact UInt8.toNat_lt _
  have yT:=zjx f x.p s0 k (N+1) (by omega);rw[xv,qE] at yT;have TZ:=hid yT;have Uf:IntKind.i64.wrap (bt:Int)=bt:=i64_in _ (by omega);have ff:=vu.out.Cy (k+1);have cf:wr.cell? ⟨w.heap.size,k+1,none⟩=some (.bool (qJ f x.p s0 k (k+1))):=by rw[vu.out.cell,FL _ _ _ _ _ _ (by omega)]
  clear yT xv;have i1:(k:Int)<N+1:=by omega
  have i2:(k:Int)+1<(N:Int)+1:=by omega
  have i3:(k:Int)<N:=by omega
  have i4:k<N:=aq;have i5:(0:Int)<=k+1:=by omega
  have TX:IntKind.i64.wrap 0=0:=rfl;clear RA;go_wp2_with fail;rcases fk with _|_
  ·skip;refine wp_region_held_drew (S:=fun W'=>Below w.heap.size w W'/\W'.cell? ⟨gf,Ez+k,none⟩=some (.bool false)/\W'.cell? ⟨g,off+1,none⟩=some (.int .u64 ((wd x.p 0:Nat):Int))/\W'.cell? ⟨g,off+2,none⟩=some (.int .u64 ((wd x.p 1:Nat):Int))/\W'.cell? ⟨g,off+3,none⟩=some (.int .u64 ((wd x.p 2:Nat):Int))/\W'.cell? ⟨g,off+4,none⟩=some (.int .u64 ((wd x.p 3:Nat):Int))) (by kernel_rfl) ⟨bg.drew,df,p1,p2,p3,p4⟩ (fun hHeld=>?_)
   (refine an 0 ?_;refine an 1 ?_;refine an 2 ?_;try simp only[put,sA];refine an 3 ?_;refine an 4 ?_;refine an 5 ?_;try simp only[put,sA];refine an 6 ?_;refine an 7 ?_;refine xI 8 ?_;try simp only[put,sA];refine xI 9 ?_;refine xI 10 ?_;refine xI 11 ?_;try simp only[put,sA];refine xI 12 ?_;refine xI 13 ?_;refine xI 14 ?_;try simp only[put,sA];refine xI 15 ?_;refine xI 16 ?_;refine xI 17 ?_;try simp only[put,sA];refine xI 18 ?_;try simp only[put,sA])
   refine bf 19 (fun K hK=>?_);skip;go_simp;refine hK.out _ _ hHeld fun hHeld=>?_;clear hK K
   try simp only[put,sA]
   have qa:=vu.out;have qm:=bg
   (refine an 20 ?_;refine an 21 ?_;try simp only[put,sA])
   refine bf 22 (fun K hK=>?_);skip;go_simp;have vX:=(qa.set (k+1) (.bool (false))).drew;have ra:=(qm.setCell (p:=⟨w.heap.size,k+1,none⟩) (le_refl _) (.bool (false))).drew;have Hv:=(ra.cell (p:=⟨gf,Ez+k,none⟩) Nk).trans Io;have JI:=(ra.cell (p:=⟨g,off+1,none⟩) hg).trans d1;have G9:=(ra.cell (p:=⟨g,off+2,none⟩) hg).trans d2;have Jk:=(ra.cell (p:=⟨g,off+3,none⟩) hg).trans d3;have G5:=(ra.cell (p:=⟨g,off+4,none⟩) hg).trans d4;refine hK.out _ _ ⟨ra,Hv,JI,G9,Jk,G5⟩ fun hHeld=>?_;clear hK K
   try simp only[put,sA]
   refine wpAnyH_done (by kernel_rfl) ?_ _;have Q5:Hid (St (wr.setCell ⟨w.heap.size,k+1,none⟩ (.bool (false))).drew 4 w.heap.size (gh f x.p s0 (k+1) (N+1))):=(by show St _ _ _ _;rw[<-TZ.out,zc];exact vX);have SM:=hid ra;clear vX ra Hv JI G9 Jk G5 qa qm;go_wp2;go_roundw
   ·exact⟨k+1,by go_num,by omega,Q5,SM.out⟩
   simp[intOf];omega
  skip;refine wp_region_held_drew (S:=fun W'=>Below w.heap.size w W'/\W'.cell? ⟨gf,Ez+k,none⟩=some (.bool true)/\W'.cell? ⟨g,off+1,none⟩=some (.int .u64 ((wd x.p 0:Nat):Int))/\W'.cell? ⟨g,off+2,none⟩=some (.int .u64 ((wd x.p 1:Nat):Int))/\W'.cell? ⟨g,off+3,none⟩=some (.int .u64 ((wd x.p 2:Nat):Int))/\W'.cell? ⟨g,off+4,none⟩=some (.int .u64 ((wd x.p 3:Nat):Int))) (by kernel_rfl) ⟨bg.drew,df,p1,p2,p3,p4⟩ (fun hHeld=>?_)
  (refine an 0 ?_;refine an 1 ?_;refine an 2 ?_;try simp only[put,sA];refine an 3 ?_;refine an 4 ?_;refine an 5 ?_;try simp only[put,sA];refine an 6 ?_;refine an 7 ?_;refine an 8 ?_;try simp only[put,sA];refine an 9 ?_;refine an 10 ?_;refine an 11 ?_;try simp only[put,sA];refine an 12 ?_;refine an 13 ?_;refine an 14 ?_;try simp only[put,sA];refine an 15 ?_;refine an 16 ?_;refine an 17 ?_;try simp only[put,sA];refine an 18 ?_;try simp only[put,sA])
  refine bf 19 (fun K hK=>?_);skip;go_simp;go_at_call 52;refine (RM x.p bt kc _).mono ?_;rintro e w6 ⟨rfl,lF⟩;have b6:Below wr.heap.size wr w6:=⟨lF.os,lF.tape,lF.output,lF.size,lF.block⟩
  have qa:=vu.out.ab b6;have qm:=bg.trans (b6.mono bg.size);have f6:=qa.Cy (k+1);have c6:w6.cell? ⟨w.heap.size,k+1,none⟩=some (.bool (qJ f x.p s0 k (k+1))):=by rw[qa.cell,FL _ _ _ _ _ _ (by omega)]
  have df6:=(qm.cell (p:=⟨gf,Ez+k,none⟩) Nk).trans Io;have p16:=(qm.cell (p:=⟨g,off+1,none⟩) hg).trans d1;have p26:=(qm.cell (p:=⟨g,off+2,none⟩) hg).trans d2;have p36:=(qm.cell (p:=⟨g,off+3,none⟩) hg).trans d3;have p46:=(qm.cell (p:=⟨g,off+4,none⟩) hg).trans d4
  try go_wp2_with fail
  refine hK.out _ _ ⟨qm,df6,p16,p26,p36,p46⟩ fun hHeld=>?_;clear hK K
  try simp only[put,sA]
  (refine an 20 ?_;refine an 21 ?_;try simp only[put,sA])
  refine bf 22 (fun K hK=>?_);skip;go_simp;have vX:=qa.set (k+1) (.bool (x.p bt));have ra:=qm.setCell (p:=⟨w.heap.size,k+1,none⟩) (le_refl _) (.bool (x.p bt));have Hv:=(ra.cell (p:=⟨gf,Ez+k,none⟩) Nk).trans Io;have JI:=(ra.cell (p:=⟨g,off+1,none⟩) hg).trans d1;have G9:=(ra.cell (p:=⟨g,off+2,none⟩) hg).trans d2;have Jk:=(ra.cell (p:=⟨g,off+3,none⟩) hg).trans d3;have G5:=(ra.cell (p:=⟨g,off+4,none⟩) hg).trans d4;refine hK.out _ _ ⟨ra,Hv,JI,G9,Jk,G5⟩ fun hHeld=>?_;clear hK K
  try simp only[put,sA]
  refine wpAnyH_done (by kernel_rfl) ?_ _;have Q5:Hid (St (w6.setCell ⟨w.heap.size,k+1,none⟩ (.bool (x.p bt))) 4 w.heap.size (gh f x.p s0 (k+1) (N+1))):=by show St _ _ _ _;rw[<-TZ.out,zc];exact vX
  have SM:=hid ra;clear vX ra Hv JI G9 Jk G5 qa qm f6 c6;go_wp2;go_roundw
  ·exact⟨k+1,by go_num,by omega,Q5,SM.out⟩
  simp[intOf];omega
 obtain rfl:k=N:=by omega
 have zP:=HS.out;go_wp2;go_ret;refine⟨_,_,rfl,?_,bg⟩;intro _;refine⟨w.heap.size,0,rfl,vu.out.lt,fun j hj=>?_⟩;rw[Nat.zero_add,vu.out.cell,FL _ _ _ _ _ _ hj,HE.out j hj]
theorem zmK(t:Rx)(hw:t.wf):sr t:=by
 induction t with
 | leaf x=>
  have hk:x.k=0\/x.k=1:=by have:=sE x.k;have:=hw.1;omega
  rcases hk with h|h
  ·exact zkD x h hw
  exact zmJ x h hw
 | un x s ih=>
  have hk:x.k=4\/x.k=5\/x.k=6:=by have:=sE x.k;have:=hw.1;omega
  rcases hk with h|h|h
  ·exact zkC x s h hw (ih hw.2.2)
  ·exact zkE x s h hw (ih hw.2.2)
  exact zmG x s h hw (ih hw.2.2)
 | bin x s t ihs iht=>
  have hk:x.k=2\/x.k=3:=by have:=sE x.k;have:=hw.1;omega
  rcases hk with h|h
  ·exact zmH x s t h hw (ihs hw.2.2.1) (iht hw.2.2.2)
  exact zmI x s t h hw (ihs hw.2.2.1) (iht hw.2.2.2)
def wE:Nat->Bool:=fun j=>j == 0
theorem zkF(t:Rx)(hw:t.wf)(s:ByteArray)(N:Nat)(hs:s.size=N)(hN:N<=99998)(g off n cap:Nat)(w:World)(hL:gP w (some ⟨g,off,none⟩) t.flat)(hn:t.flat.length=n)(dK:n<=1000000)(dq:n<=cap/\cap<=maxLen):
  Calls prog 18 #[.slice (some ⟨g,off,none⟩) n cap,.string s] w fun e w'=>e=.returned (.bool (db s N t wE N))/\Below w.heap.size w w':=by
 have hB:Below w.heap.size w (w.alloc (.cells ((madeCells #[.bool false] (N+1)).setIfInBounds 0 (.bool true)) 4)):=(Below.refl _ _).alloc (le_refl _) _;have hM:=St.new w 4 (madeCells #[.bool false] (N+1));have SR:=St.new w 4 ((madeCells #[.bool false] (N+1)).setIfInBounds 0 (.bool true));have dL:∀j,j<N+1->(madeCells #[.bool false] (N+1))[j]?=some (.bool false):=fun j hj=>by simp[madeCells,hj,Nat.mod_one]
 have c0:(w.alloc (.cells (madeCells #[.bool false] (N+1)) 4)).cell? ⟨w.heap.size,0,none⟩=some (.bool false):=by rw[hM.cell];exact dL 0 (by omega)
 have f0:=hM.Cy 0;have hF:oE (w.alloc (.cells ((madeCells #[.bool false] (N+1)).setIfInBounds 0 (.bool true)) 4)) (some ⟨w.heap.size,0,none⟩) (N+1) wE:=by
  intro _;refine⟨w.heap.size,0,rfl,SR.lt,fun j hj=>?_⟩;rw[Nat.zero_add,SR.cell];by_cases h0:j=0
  ·subst h0;rw[Array.getElem?_setIfInBounds_self,if_pos (by rw[size_madeCells];omega)];rfl
  rw[Array.getElem?_setIfInBounds_ne (by omega),dL j hj];simp[wE,h0]
 have HC:=hid (zmK t hw s N hs hN g off n cap _ wE (some ⟨w.heap.size,0,none⟩) (N+1) (hL.below hB) hn dK dq hF);have HB:=hid hB;have HS:=hid hs;have eR:=BM N hN;have zP:=hs;have Bc:IntKind.i64.wrap ((N:Int)+1)=(N:Int)+1:=i64_in _ (by omega);have cZ:=hB.size;clear hL hn dq hB hM SR dL hF hw hs;go_in;go_wp2_with fail;refine HC.out.mono ?_;rintro e w5 ⟨a5,c5,rfl,h5,b5⟩;obtain⟨g5,o5,rfl,rZ,uf⟩:=h5 (by omega);have d5:=uf N (by omega);have i1:(N:Int)<N+1:=by omega
 clear uf h5;go_wp2;go_ret;exact⟨rfl,HB.out.trans (b5.mono cZ)⟩
def pG(L:List Nat)(i j:Nat):List Nat:=(L.drop i).take (j-i)
theorem NX(L:List Nat)(i:Nat):pG L i i=[]:=by simp[pG]
theorem KS(L:List Nat)(i m j:Nat)(h1:i<=m)(h2:m<=j):pG L i j=pG L i m++pG L m j:=by
 unfold pG;rw[show j-i=(m-i)+(j-m) by omega,List.take_add,List.drop_drop,show i+(m-i)=m by omega]
theorem Fm(L:List Nat)(i j:Nat)(h1:i<=j)(h2:j<=L.length):(pG L i j).length=j-i:=by simp[pG];omega
theorem PV(L:List Nat)(i j:Nat)(h1:i<=j)(h2:j<=L.length)(u v:List Nat)(h:pG L i j=u++v):∃m,i<=m/\m<=j/\u=pG L i m/\v=pG L m j:=by
 have hl:=congrArg List.length h;rw[Fm L i j h1 h2,List.length_append] at hl;refine⟨i+u.length,by omega,by omega,?_⟩;have h3:=KS L i (i+u.length) j (by omega) (by omega);rw[h] at h3;have h4:(pG L i (i+u.length)).length=u.length:=by rw[Fm L _ _ (by omega) (by omega)];omega
 exact List.append_inj h3 h4.symm
theorem X0(L:List Nat)(i:Nat)(h:i<L.length):pG L i (i+1)=[L[i]]:=by
 unfold pG;rw[show i+1-i=1 by omega,List.take_one,List.head?_drop,List.getElem?_eq_getElem h];rfl
def DF(L:List Nat)(N:Nat)(A:List Nat->Prop)(E:(Nat->Bool)->Nat->Bool):Prop:=∀f j,j<=N->(E f j=true↔∃i,i<=j/\f i=true/\A (pG L i j))
theorem T5(f h:Nat->Bool)(n:Nat):iG f h n=true↔∀j,j<n->f j=h j:=by
 induction n with
 | zero=>simp[iG]
 | succ n ih=>
  simp only[iG,Bool.and_eq_true,ih,beq_iff_eq];constructor
  ·rintro⟨h1,h2⟩ j hj;rcases Nat.lt_or_ge j n with h|h
   ·exact h1 j h
   rw[show j=n by omega];exact h2
  exact fun h=>⟨fun j hj=>h j (by omega),h n (by omega)⟩
def lh(f:Nat->Bool):Nat->Nat
 | 0=>0
 | n+1=>lh f n+if f n=true then 0 else 1
theorem zo1(f:Nat->Bool)(n:Nat):lh f n<=n:=by
 induction n with
 | zero=>simp[lh]
 | succ n ih=>simp only[lh];split <;> omega
theorem zkH(f h:Nat->Bool)(n:Nat)(hs:∀j,j<n->f j=true->h j=true):lh h n<=lh f n:=by
 induction n with
 | zero=>simp[lh]
 | succ n ih=>
  have h1:=ih (fun j hj=>hs j (by omega));have h2:=hs n (by omega);simp only[lh];by_cases hf:f n=true
  ·rw[if_pos hf,if_pos (h2 hf)];omega
  rw[if_neg hf];split <;> omega
theorem zkI(f h:Nat->Bool)(n:Nat)(hs:∀j,j<n->f j=true->h j=true)(j:Nat)(hj:j<n)(h0:f j=false)(h1:h j=true):lh h n<lh f n:=by
 induction n with
 | zero=>omega
 | succ n ih=>
  have hm:=zkH f h n (fun j hj=>hs j (by omega));simp only[lh];by_cases he:j=n
  ·subst he;rw[if_pos h1,h0];simp;omega
  have:=ih (fun j hj=>hs j (by omega)) (by omega);have h2:=hs n (by omega);by_cases hf:f n=true
  ·rw[if_pos hf,if_pos (h2 hf)];omega
  rw[if_neg hf];split <;> omega
theorem zkJ(f:Nat->Bool)(n j:Nat)(hj:j<n)(h:f j=true):lh f n<n:=by
 induction n with
 | zero=>omega
 | succ n ih=>
  have hl:=zo1 f n;simp only[lh];by_cases he:j=n
  ·subst he;rw[if_pos h];omega
  have:=ih (by omega);split <;> omega
def Uc(N:Nat)(E:(Nat->Bool)->Nat->Bool)(f:Nat->Bool):Prop:=∀j,j<=N->E f j=true->f j=true
theorem zkL{A:List Nat->Prop}(hE:DF L N A E){h:Nat->Bool}(e:∀j,j<=N->f j=h j)(j:Nat)(hj:j<=N):E f j=true↔E h j=true:=by
 rw[hE f j hj,hE h j hj];exact⟨fun ⟨i,h1,h2,h3⟩=>⟨i,h1,by rw[<-e i (by omega)];exact h2,h3⟩,fun ⟨i,h1,h2,h3⟩=>⟨i,h1,by rw[e i (by omega)];exact h2,h3⟩⟩
theorem Vu{L:List Nat}{N:Nat}{A:List Nat->Prop}{E:(Nat->Bool)->Nat->Bool}(hE:DF L N A E):∀(k:Nat) (f:Nat->Bool),(lh f (N+1)<k\/(0<k/\∀j,j<=N->f j=false))->Uc N E (dI E (N+1) k f)
 | 0,f,h=>by omega
 | k+1,f,h=>by
  unfold dI
  by_cases hs:iG (lf f (E f)) f (N+1)=true
  ·rw[if_pos hs]
   have he:=(T5 _ _ _).1 hs
   intro j hj h1
   have h2:=(zkL hE (fun j hj=>he j (by omega)) j hj).1 h1
   simp[lf,h2]
  ·rw[if_neg hs]
   refine Vu hE k _ ?_
   have hne:∃j,j<=N/\f j=false/\E f j=true:=by
    refine Classical.byContradiction fun gd=>hs ((T5 _ _ _).2 fun j hj=>?_)
    by_cases hf:f j=true
    ·simp[lf,hf]
    ·have hf':f j=false:=by simpa using hf
     have:E f j=false:=by
      by_cases EG:E f j=true
      ·exact absurd ⟨j,by omega,hf',EG⟩ gd
      ·simpa using EG
     simp[lf,hf',this]
   obtain⟨j,hj,h0,h1⟩:=hne
   rcases h with h|⟨_,h⟩
   ·have:=zkI f (lf f (E f)) (N+1) (fun i hi r9=>by simp[lf,r9]) j (by omega) h0 (by simp[lf,h1])
    exact inl (by omega)
   ·obtain⟨i,hi,r9,_⟩:=(hE f j hj).1 h1
    rw[h i (by omega)] at r9
    cases r9
theorem Xo{L:List Nat}{N:Nat}(hN:L.length=N){A:List Nat->Prop}{E:(Nat->Bool)->Nat->Bool}(hE:DF L N A E):∀(k:Nat) (f:Nat->Bool),(∀j,j<=N->f j=true->dI E (N+1) k f j=true)/\∀j,j<=N->dI E (N+1) k f j=true->∃i,i<=j/\f i=true/\dF A (pG L i j)
 | 0,f=>⟨fun j _ h=>h,fun j _ h=>⟨j,le_refl _,h,by rw[NX];exact dF.nil⟩⟩
 | k+1,f=>by
  have uN:∀j,j<=N->lf f (E f) j=true->∃i,i<=j/\f i=true/\dF A (pG L i j):=by
   intro j hj h
   simp only[lf,Bool.or_eq_true] at h
   rcases h with h|h
   ·exact⟨j,le_refl _,h,by rw[NX];exact dF.nil⟩
   ·obtain⟨i,h1,h2,h3⟩:=(hE f j hj).1 h
    exact⟨i,h1,h2,dF.one h3⟩
  obtain⟨h1,h2⟩:=Xo hN hE k (lf f (E f))
  unfold dI
  by_cases hs:iG (lf f (E f)) f (N+1)=true
  ·rw[if_pos hs]
   exact⟨fun j _ h=>by simp[lf,h],uN⟩
  ·rw[if_neg hs]
   refine⟨fun j hj h=>h1 j hj (by simp[lf,h]),fun j hj h=>?_⟩
   obtain⟨m,h3,h4,h5⟩:=h2 j hj h
   obtain⟨i,h6,h7,h8⟩:=uN m (by omega) h4
   exact⟨i,by omega,h7,by rw[KS L i m j h6 h3];exact h8.cat h5⟩
theorem zhm(hN:L.length=N){A:List Nat->Prop}(hE:DF L N A E)(hc:Uc N E f){s:List Nat}(h:dF A s):∀i j,i<=j->j<=N->pG L i j=s->f i=true->f j=true:=by
 induction h with
 | nil=>
  intro i j h1 h2 h3 h4;have:=Fm L i j h1 (by omega);rw[h3] at this;simp at this;rw[show j=i by omega];exact h4
 | @app u v hu hv ih=>
  intro i j h1 h2 h3 h4;obtain⟨m,h5,h6,rfl,rfl⟩:=PV L i j h1 (by omega) u v h3;exact ih m j h6 h2 rfl (hc m (by omega) ((hE f m (by omega)).2 ⟨i,h5,h4,hu⟩))
theorem zkM(hN:L.length=N){A:List Nat->Prop}(hE:DF L N A E):DF L N (dF A) (dI E (N+1) (N+1)):=by
 intro f j hj;obtain⟨h1,h2⟩:=Xo hN hE (N+1) f;refine⟨h2 j hj,fun ⟨i,h3,h4,h5⟩=>?_⟩;have hc:=Vu hE (N+1) f (inl (zkJ f (N+1) i (by omega) h4));exact zhm hN hE hc h5 i j h3 hj rfl (h1 i (by omega) h4)
theorem zmL(s:ByteArray)(L:List Nat)(N:Nat)(hN:L.length=N)(hb:∀i (h:i<L.length),L[i]=(s.get! i).toNat)(t:Rx)(hw:t.wf):DF L N (ec t) (db s N t):=by
 induction t with
 | leaf x=>
  intro f j hj;show (if x.k=1 then _ else _:(Nat->Bool)) j=true↔_;by_cases hk:x.k=1
  ·rw[if_pos hk];constructor
   ·intro h
    match j,hj,h with
    | i+1,hj,h=>
     simp only[Bool.and_eq_true] at h;have hi:i<L.length:=(by omega);refine⟨i,by omega,h.1,?_⟩;rw[X0 L i hi,yC,if_pos hk];exact⟨_,rfl,by rw[hb i hi];exact UInt8.toNat_lt _,by rw[hb i hi];exact h.2⟩
   rintro⟨i,h1,h2,h3⟩;rw[yC,if_pos hk] at h3;obtain⟨b,h4,h5,h6⟩:=h3;have hl:=Fm L i j h1 (by omega);rw[h4] at hl;have My:j=i+1:=(by simp at hl;omega);subst My;rw[X0 L i (by omega)] at h4;have og:L[i]'(by omega)=b:=(by simpa using h4);show (f i && x.p (s.get! i).toNat)=true;rw[<-hb i (by omega),og,h2,h6];rfl
  rw[if_neg hk];constructor
  ·exact fun h=>⟨j,le_refl _,h,by rw[NX,yC,if_neg hk]⟩
  rintro⟨i,h1,h2,h3⟩;rw[yC,if_neg hk] at h3;have hl:=Fm L i j h1 (by omega);rw[h3] at hl;simp at hl;rw[show j=i by omega];exact h2
 | un x a ih=>
  have hE:=ih hw.2.2;have hS:=zkM hN hE;have hk:x.k=4\/x.k=5\/x.k=6:=by have:=sE x.k;have:=hw.1;omega
  intro f j hj;show (if x.k=6 then lf f (db s N a f) else if x.k=4 then dI (db s N a) (N+1) (N+1) f else dI (db s N a) (N+1) (N+1) (db s N a f)) j=true↔_;rcases hk with h|h|h
  ·rw[if_neg (by omega),if_pos h,hS f j hj];simp only[yD,h,if_true]
  ·rw[if_neg (by omega),if_neg (by omega),hS _ j hj];simp only[yD,h,show ¬((5:Int)=4) by decide,if_false,if_true];constructor
   ·rintro⟨m,h1,h2,h3⟩;obtain⟨i,h4,h5,h6⟩:=(hE f m (by omega)).1 h2;exact⟨i,by omega,h5,_,_,KS L i m j h4 h1,h6,h3⟩
   rintro⟨i,h1,h2,u,v,h3,h4,h5⟩;obtain⟨m,h6,h7,rfl,rfl⟩:=PV L i j h1 (by omega) u v h3;exact⟨m,h7,(hE f m (by omega)).2 ⟨i,h6,h2,h4⟩,h5⟩
  rw[if_pos h];simp only[yD,h,show ¬((6:Int)=4) by decide,show ¬((6:Int)=5) by decide,if_false,lf,Bool.or_eq_true,hE f j hj];constructor
  ·rintro (h1|⟨i,h1,h2,h3⟩)
   ·exact⟨j,le_refl _,h1,inl (NX L j)⟩
   exact⟨i,h1,h2,inr h3⟩
  rintro⟨i,h1,h2,h3|h3⟩
  ·have hl:=Fm L i j h1 (by omega);rw[h3] at hl;simp at hl;exact inl (by rw[show j=i by omega];exact h2)
  exact inr ⟨i,h1,h2,h3⟩
 | bin x a b iha ihb=>
  have hA:=iha hw.2.2.1;have hB:=ihb hw.2.2.2;have hk:x.k=2\/x.k=3:=by have:=sE x.k;have:=hw.1;omega
  intro f j hj;show (if x.k=2 then db s N b (db s N a f) else lf (db s N a f) (db s N b f)) j=true↔_;rcases hk with h|h
  ·rw[if_pos h,hB _ j hj];simp only[CD,h,if_true];constructor
   ·rintro⟨m,h1,h2,h3⟩;obtain⟨i,h4,h5,h6⟩:=(hA f m (by omega)).1 h2;exact⟨i,by omega,h5,_,_,KS L i m j h4 h1,h6,h3⟩
   rintro⟨i,h1,h2,u,v,h3,h4,h5⟩;obtain⟨m,h6,h7,rfl,rfl⟩:=PV L i j h1 (by omega) u v h3;exact⟨m,h7,(hA f m (by omega)).2 ⟨i,h6,h2,h4⟩,h5⟩
  rw[if_neg (by omega)];simp only[CD,h,show ¬((3:Int)=2) by decide,if_false,lf,Bool.or_eq_true,hA f j hj,hB f j hj];constructor
  ·rintro (⟨i,h1,h2,h3⟩|⟨i,h1,h2,h3⟩)
   ·exact⟨i,h1,h2,inl h3⟩
   exact⟨i,h1,h2,inr h3⟩
  rintro⟨i,h1,h2,h3|h3⟩
  ·exact inl ⟨i,h1,h2,h3⟩
  exact inr ⟨i,h1,h2,h3⟩
theorem zmM(s:ByteArray)(L:List Nat)(N:Nat)(hN:L.length=N)(hb:∀i (h:i<L.length),L[i]=(s.get! i).toNat)(t:Rx)(hw:t.wf):db s N t wE N=true↔ec t L:=by
 rw[zmL s L N hN hb t hw wE N (le_refl _)];have eu:pG L 0 N=L:=by simp[pG,<-hN]
 constructor
 ·rintro⟨i,h1,h2,h3⟩;have:i=0:=by simpa [wE] using h2
  subst this;rw[eu] at h3;exact h3
 exact fun h=>⟨0,Nat.zero_le _,rfl,by rw[eu];exact h⟩
