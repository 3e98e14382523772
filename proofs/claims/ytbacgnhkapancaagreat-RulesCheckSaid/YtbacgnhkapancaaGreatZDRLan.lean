import Derived.Test.YtbacgnhkapancaaGreatZDMath
import Derived.Test.YtbacgnhkapancaaGreatZDREnds1
import Derived.Test.YtbacgnhkapancaaGreatZTk
set_option linter.all false
set_option maxHeartbeats 2000000
set_option maxRecDepth 100000
open Go.Lib (hid)
namespace Go.Proofs.YtbacgnhkapancaaGreat
open Go.RowKit Go.Proofs.Tryz
open Or (inl inr)
open Act (put)
open IntWalk (i64_in)
open Nat (le_refl le_trans)
variable {E:(Nat->Bool)->Nat->Bool}{L:List Nat}
theorem zmG(x:Pc)(s t:Rx)(hk:x.k=2)(hw:((Rx.bin x s t)).wf)(ih:sd s)(jh:sd t):sd (.bin x s t):=by
 intro s0 N hs hN g off n cap w f a c hL hn dD di hF;obtain⟨m,hm⟩:∃m,n-1=m:=⟨_,rfl⟩
 have hpos:=(Rx.bin x s t).aY;have cZ:n=m+1:=by omega
 obtain⟨g',kj,e,hg,d0,-⟩:=hL.get m (by omega);simp at e;obtain⟨rfl,rfl⟩:=e;have mP:(Rx.bin x s t).flat[m]'(by omega)=x:=by
  have h1:=(Rx.bin x s t).jx;rw[hn,hm,List.getElem?_eq_getElem (by omega)] at h1;exact Option.some.inj h1
 rw[mP] at d0;have hB:Below w.heap.size w (w.alloc (.cells (madeCells #[.bool false] (N+1)) 4)):=(Below.refl _ _).alloc (le_refl _) _;have HC:=hid (BB (.bin x s t) hw g off n cap _ (hL.below hB) hn dD di);have HB:=hid hB;have HF:=hid hF;have HK:=hid hk;have HS:=hid hs;have fu:=AO N hN;have cU:=hB.size;have en:(n:Int)-1=(m:Int):=by omega
 have jF:m<n:=by omega
 have sL:n<=9223372036854775807:=by have:=di.1;have:=di.2;unfold maxLen at this;omega
 have yG:s.flat.length<=1000000/\t.flat.length<=1000000:=by
  have:(Rx.bin x s t).flat.length=s.flat.length+t.flat.length+1:=by simp[Rx.flat];omega
  omega
 clear hL hn di hB mP hw cZ hm hpos hk hs hF;go_enter func42,ntmps42;go_wp2_with fail;refine HC.out.mono ?_;rintro e w5 ⟨aL,cL,rfl,o0,b5⟩;have ec:=HB.out.trans (b5.mono cU);have je:=ec.size;have e0:=(ec.cell (p:=⟨g,off+m*5,none⟩) hg).trans d0;have xv:=hid (HF.out.below ec);have hk:=HK.out;have k0:(x.k == 0)=false:=by simp;omega
 have k1:(x.k == 1)=false:=by simp;omega
 have k2:(x.k == 2)=true:=by simp[hk]
 obtain⟨b,g1,o1,c1,rfl,gz,qB,_,gk,iD,kL⟩:=o0 0 (by show 0<2;decide);obtain⟨b',g2,o2,c2,nH,fH,yV,_,_,lG,wG⟩:=o0 1 (by show 1<2;decide);simp at nH;subst nH;obtain⟨n1,cZ⟩:∃n1,s.flat.length=n1:=⟨_,rfl⟩
 obtain⟨n2,cQ⟩:∃n2,t.flat.length=n2:=⟨_,rfl⟩
 have t1:w5.cell? ⟨b,0,none⟩=some (.slice (some ⟨g1,o1,none⟩) n1 c1):=by rw[<-cZ];exact gz
 have t2:w5.cell? ⟨b,1,none⟩=some (.slice (some ⟨g2,o2,none⟩) n2 c2):=by rw[<-cQ];exact fH
 have HI:=hid (fun (W:World) (bw:Below w5.heap.size w5 W) (f:Nat->Bool) (a:Option Addr) (c:Nat) (hf:oB W a (N+1) f)=>ih s0 N HS.out hN g1 o1 n1 c1 W f a c (qB.below bw) cZ (by omega) ⟨by rw[<-cZ];exact iD,kL⟩ hf);have HJ:=hid (fun (W:World) (bw:Below w5.heap.size w5 W) (f:Nat->Bool) (a:Option Addr) (c:Nat) (hf:oB W a (N+1) f)=>jh s0 N HS.out hN g2 o2 n2 c2 W f a c (yV.below bw) cQ (by omega) ⟨by rw[<-cQ];exact lG,wG⟩ hf);rw[show (Rx.bin x s t).kids.length=2 from rfl];have HE:Hid (dy s0 N (.bin x s t) f=dy s0 N t (dy s0 N s f)):=by show (if x.k=2 then _ else _:(Nat->Bool))=_;rw[if_pos hk]
 clear o0 gz qB cZ iD kL fH yV cQ lG wG hk;have wi:True:=trivial;have wu:True:=trivial;go_wp2_with fail
 go_region_with (first
  | (have _t:=wi;go_at_call 42;refine (HI.out w5.drew (Below.refl _ _).drew f a c xv.out).mono ?_;rintro e w6 ⟨a6,c6,rfl,h6,lv⟩;have b6:Below w5.heap.size w5 w6:=⟨lv.os,lv.tape,lv.output,lv.size,lv.block⟩;have t6:=(b6.cell (p:=⟨b,1,none⟩) gk).trans t2;clear _t wi)
  | (have _u:=wu;go_at_call 42;refine (HJ.out w6 b6 (dy s0 N s f) a6 c6 h6).mono ?_;rintro e w7 ⟨a7,c7,rfl,h7,b7⟩;clear _u wu))
 all_goals
  go_wp2_with fail
  go_ret
  exact⟨a7,c7,rfl,by rw[HE.out];exact h7,(ec.trans (b6.mono je)).trans (b7.mono (le_trans je b6.size))⟩
theorem zmH(x:Pc)(s t:Rx)(hk:x.k=3)(hw:((Rx.bin x s t)).wf)(ih:sd s)(jh:sd t):sd (.bin x s t):=by
 intro s0 N hs hN g off n cap w f a c hL hn dD di hF;obtain⟨m,hm⟩:∃m,n-1=m:=⟨_,rfl⟩
 have hpos:=(Rx.bin x s t).aY;have cZ:n=m+1:=by omega
 obtain⟨g',kj,e,hg,d0,-⟩:=hL.get m (by omega);simp at e;obtain⟨rfl,rfl⟩:=e;have mP:(Rx.bin x s t).flat[m]'(by omega)=x:=by
  have h1:=(Rx.bin x s t).jx;rw[hn,hm,List.getElem?_eq_getElem (by omega)] at h1;exact Option.some.inj h1
 rw[mP] at d0;have hB:Below w.heap.size w (w.alloc (.cells (madeCells #[.bool false] (N+1)) 4)):=(Below.refl _ _).alloc (le_refl _) _;have HC:=hid (BB (.bin x s t) hw g off n cap _ (hL.below hB) hn dD di);have HB:=hid hB;have HF:=hid hF;have HK:=hid hk;have HS:=hid hs;have fu:=AO N hN;have cU:=hB.size;have en:(n:Int)-1=(m:Int):=by omega
 have jF:m<n:=by omega
 have sL:n<=9223372036854775807:=by have:=di.1;have:=di.2;unfold maxLen at this;omega
 have yG:s.flat.length<=1000000/\t.flat.length<=1000000:=by
  have:(Rx.bin x s t).flat.length=s.flat.length+t.flat.length+1:=by simp[Rx.flat];omega
  omega
 clear hL hn di hB mP hw cZ hm hpos hk hs hF;go_enter func42,ntmps42;go_wp2_with fail;refine HC.out.mono ?_;rintro e w5 ⟨aL,cL,rfl,o0,b5⟩;have ec:=HB.out.trans (b5.mono cU);have je:=ec.size;have e0:=(ec.cell (p:=⟨g,off+m*5,none⟩) hg).trans d0;have xv:=hid (HF.out.below ec);have hk:=HK.out;have k0:(x.k == 0)=false:=by simp;omega
 have k1:(x.k == 1)=false:=by simp;omega
 have k2:(x.k == 2)=false:=by simp;omega
 have k3:(x.k == 3)=true:=by simp[hk]
 obtain⟨b,g1,o1,c1,rfl,gz,qB,_,gk,iD,kL⟩:=o0 0 (by show 0<2;decide);obtain⟨b',g2,o2,c2,nH,fH,yV,_,_,lG,wG⟩:=o0 1 (by show 1<2;decide);simp at nH;subst nH;obtain⟨n1,cZ⟩:∃n1,s.flat.length=n1:=⟨_,rfl⟩
 obtain⟨n2,cQ⟩:∃n2,t.flat.length=n2:=⟨_,rfl⟩
 have t1:w5.cell? ⟨b,0,none⟩=some (.slice (some ⟨g1,o1,none⟩) n1 c1):=by rw[<-cZ];exact gz
 have t2:w5.cell? ⟨b,1,none⟩=some (.slice (some ⟨g2,o2,none⟩) n2 c2):=by rw[<-cQ];exact fH
 have HI:=hid (fun (W:World) (bw:Below w5.heap.size w5 W) (f:Nat->Bool) (a:Option Addr) (c:Nat) (hf:oB W a (N+1) f)=>ih s0 N HS.out hN g1 o1 n1 c1 W f a c (qB.below bw) cZ (by omega) ⟨by rw[<-cZ];exact iD,kL⟩ hf);have HJ:=hid (fun (W:World) (bw:Below w5.heap.size w5 W) (f:Nat->Bool) (a:Option Addr) (c:Nat) (hf:oB W a (N+1) f)=>jh s0 N HS.out hN g2 o2 n2 c2 W f a c (yV.below bw) cQ (by omega) ⟨by rw[<-cQ];exact lG,wG⟩ hf);rw[show (Rx.bin x s t).kids.length=2 from rfl];have HE:Hid (dy s0 N (.bin x s t) f=kM (dy s0 N s f) (dy s0 N t f)):=by show (if x.k=2 then _ else _:(Nat->Bool))=_;rw[if_neg (by omega)]
 clear o0 gz qB cZ iD kL fH yV cQ lG wG hk;have wi:True:=trivial;have wu:True:=trivial;go_wp2_with fail
 go_region_with (first
  | (have _t:=wi;go_at_call 42;refine (HI.out w5.drew (Below.refl _ _).drew f a c xv.out).mono ?_;rintro e w6 ⟨a6,c6,rfl,h6,lv⟩;have b6:Below w5.heap.size w5 w6:=⟨lv.os,lv.tape,lv.output,lv.size,lv.block⟩;have t6:=(b6.cell (p:=⟨b,1,none⟩) gk).trans t2;have G9:=hid (xv.out.below b6);clear _t wi)
  | (have _u:=wu;go_at_call 42;refine (HJ.out w6 b6 f a c G9.out).mono ?_;rintro e w7 ⟨a7,c7,rfl,h7,b7⟩;have h67:=h6.below b7;clear _u wu)
  | (go_at_call 66;refine (Q4 (dy s0 N s f) (dy s0 N t f) a6 a7 (N+1) c6 c7 w7 h67 h7 (by omega)).mono ?_;rintro e w8 ⟨a8,c8,rfl,h8,b8⟩))
 all_goals
  go_wp2_with fail
  go_ret
  exact⟨a8,c8,rfl,by rw[HE.out];exact FB h8,((ec.trans (b6.mono je)).trans (b7.mono (le_trans je b6.size))).trans (b8.mono (le_trans je (le_trans b6.size b7.size)))⟩
theorem zkA(x:Pc)(s:Rx)(hk:x.k=5)(hw:((Rx.un x s)).wf)(ih:sd s):sd (.un x s):=by
 intro s0 N hs hN g off n cap w f a c hL hn dD di hF;obtain⟨m,hm⟩:∃m,n-1=m:=⟨_,rfl⟩
 have hpos:=(Rx.un x s).aY;have cZ:n=m+1:=by omega
 obtain⟨g',kj,e,hg,d0,-⟩:=hL.get m (by omega);simp at e;obtain⟨rfl,rfl⟩:=e;have mP:(Rx.un x s).flat[m]'(by omega)=x:=by
  have h1:=(Rx.un x s).jx;rw[hn,hm,List.getElem?_eq_getElem (by omega)] at h1;exact Option.some.inj h1
 rw[mP] at d0;have hB:Below w.heap.size w (w.alloc (.cells (madeCells #[.bool false] (N+1)) 4)):=(Below.refl _ _).alloc (le_refl _) _;have HC:=hid (BB (.un x s) hw g off n cap _ (hL.below hB) hn dD di);have HB:=hid hB;have HF:=hid hF;have HK:=hid hk;have HS:=hid hs;have fu:=AO N hN;have cU:=hB.size;have en:(n:Int)-1=(m:Int):=by omega
 have jF:m<n:=by omega
 have sL:n<=9223372036854775807:=by have:=di.1;have:=di.2;unfold maxLen at this;omega
 have yG:s.flat.length<=1000000:=by
  have:(Rx.un x s).flat.length=s.flat.length+1:=by simp[Rx.flat]
  omega
 clear hL hn di hB mP hw cZ hm hpos hk hs hF;go_enter func42,ntmps42;go_wp2_with fail;refine HC.out.mono ?_;rintro e w5 ⟨aL,cL,rfl,o0,b5⟩;have ec:=HB.out.trans (b5.mono cU);have je:=ec.size;have e0:=(ec.cell (p:=⟨g,off+m*5,none⟩) hg).trans d0;have xv:=hid (HF.out.below ec);have hk:=HK.out;have k0:(x.k == 0)=false:=by simp;omega
 have k1:(x.k == 1)=false:=by simp;omega
 have k2:(x.k == 2)=false:=by simp;omega
 have k3:(x.k == 3)=false:=by simp;omega
 have k6:(x.k == 6)=false:=by simp;omega
 have k4:(x.k == 4)=false:=by simp;omega
 obtain⟨b,g1,o1,c1,rfl,gz,qB,_,gk,iD,kL⟩:=o0 0 (by show 0<1;decide);obtain⟨n1,cZ⟩:∃n1,s.flat.length=n1:=⟨_,rfl⟩
 have t1:w5.cell? ⟨b,0,none⟩=some (.slice (some ⟨g1,o1,none⟩) n1 c1):=by rw[<-cZ];exact gz
 have HI:=hid (fun (W:World) (bw:Below w5.heap.size w5 W) (f:Nat->Bool) (a:Option Addr) (c:Nat) (hf:oB W a (N+1) f)=>ih s0 N HS.out hN g1 o1 n1 c1 W f a c (qB.below bw) cZ (by omega) ⟨by rw[<-cZ];exact iD,kL⟩ hf);rw[show (Rx.un x s).kids.length=1 from rfl];have HE:Hid (dy s0 N (.un x s) f=dF (dy s0 N s) (N+1) (N+1) (dy s0 N s f)):=by show (if x.k=6 then _ else if x.k=4 then _ else _:(Nat->Bool))=_;rw[if_neg (by omega),if_neg (by omega)]
 clear o0 gz qB cZ iD kL hk;go_wp2_with fail
 go_region_with (first
  | (go_at_call 42;refine (HI.out w5.drew (Below.refl _ _).drew f a c xv.out).mono ?_;rintro e w6 ⟨a6,c6,rfl,h6,lv⟩;have b6:Below w5.heap.size w5 w6:=⟨lv.os,lv.tape,lv.output,lv.size,lv.block⟩;have t6:=(b6.cell (p:=⟨b,0,none⟩) gk).trans t1)
  | (go_at_call 67;refine (Z1 (dy s0 N s) _ s0 N HS.out hN w6 (fun f a c W bw hf=>HI.out W (b6.trans (bw.mono b6.size)) f a c hf) (dy s0 N s f) a6 c6 h6).mono ?_;rintro e w7 ⟨a7,c7,rfl,h7,b7⟩))
 all_goals
  go_wp2_with fail
  go_ret
  exact⟨a7,c7,rfl,by rw[HE.out];exact h7,(ec.trans (b6.mono je)).trans (b7.mono (le_trans je b6.size))⟩
def ra(f:Nat->Bool)(p:Nat->Bool)(s:ByteArray)(k:Nat):Nat->Bool:=fun j=>match j with|0=>false|i+1=>decide (i<k) && (f i && p (s.get! i).toNat)
def gh(f:Nat->Bool)(p:Nat->Bool)(s:ByteArray)(k n:Nat):Array Value:=(iN (ra f p s k) n).toArray
theorem Bx(f p:Nat->Bool)(s:ByteArray)(k n:Nat):(gh f p s k n).size=n:=by simp[gh,iN]
theorem EH(f p:Nat->Bool)(s:ByteArray)(k n j:Nat)(h:j<n):(gh f p s k n)[j]?=some (.bool (ra f p s k j)):=by simp[gh,iN,h]
theorem UT(f p:Nat->Bool)(s:ByteArray)(n:Nat):madeCells #[.bool false] n=gh f p s 0 n:=by
 apply Array.ext
 ·rw[size_madeCells,Bx]
 intro j h1 h2;rw[Bx] at h2;have e:=EH f p s 0 n j h2;rw[Array.getElem?_eq_getElem (by rw[Bx];exact h2)] at e;rw[Option.some.inj e];have h0:ra f p s 0 j=false:=by cases j <;> simp[ra]
 rw[h0];simp[madeCells,Nat.mod_one]
theorem zjt(f p:Nat->Bool)(s:ByteArray)(k n:Nat)(h:k+1<n):(gh f p s k n).setIfInBounds (k+1) (.bool (f k && p (s.get! k).toNat))=gh f p s (k+1) n:=by
 apply Array.ext
 ·simp[Bx]
 intro j h1 h2;rw[Bx] at h2;have e:=EH f p s (k+1) n j h2;rw[Array.getElem?_eq_getElem (by rw[Bx];exact h2)] at e;rw[Option.some.inj e];by_cases hj:j=k+1
 ·subst hj;rw[Array.getElem_setIfInBounds_self];simp[ra]
 rw[Array.getElem_setIfInBounds_ne (by simpa [Bx] using h2) (Ne.symm hj)];have e2:=EH f p s k n j h2;rw[Array.getElem?_eq_getElem (by rw[Bx];exact h2)] at e2;rw[Option.some.inj e2];congr 1
 match j,hj with
 | 0,_=>rfl
 | i+1,hj=>
  show (decide (i<k) && _)=(decide (i<k+1) && _);rw[show decide (i<k)=decide (i<k+1) from by simp;omega]
theorem zmI(x:Pc)(hk:x.k=1)(hw:(Rx.leaf x).wf):sd (.leaf x):=by
 intro s0 N hs hN g off n cap w f a c hL hn dD di hF;obtain rfl:n=1:=by rw[<-hn];rfl
 obtain⟨g',kj,e,hg,d0,d1,d2,d3,d4⟩:=hL.get 0 (by simp[Rx.flat]);simp at e;obtain⟨rfl,rfl⟩:=e;have mP:(Rx.leaf x).flat[0]'(by simp[Rx.flat])=x:=rfl;rw[mP] at d0 d1 d2 d3 d4;simp only[Nat.zero_mul,Nat.add_zero] at d0 d1 d2 d3 d4;have hB:Below w.heap.size w (w.alloc (.cells (madeCells #[.bool false] (N+1)) 4)):=(Below.refl _ _).alloc (le_refl _) _;have hM:=St.new w 4 (madeCells #[.bool false] (N+1));rw[UT f x.p s0 (N+1)] at hM;have HC:=hid (BB (.leaf x) hw g off 1 cap _ (hL.below hB) hn dD di);have HM:Hid (St (w.alloc (.cells (madeCells #[.bool false] (N+1)) 4)) 4 w.heap.size (gh f x.p s0 0 (N+1))):=by
  show St _ _ _ _;rw[UT f x.p s0 (N+1)];exact hM
 have HB:=hid hB;have HF:=hid hF;have HK:=hid hk;have HS:=hid hs;have fu:=AO N hN;have cU:=hB.size;clear hL hn di hB mP hw hk hs hF hM;go_enter func42,ntmps42;go_wp2_with fail;refine HC.out.mono ?_;rintro e w5 ⟨aL,cL,rfl,o0,b5⟩;have ec:=HB.out.trans (b5.mono cU);have e0:=(ec.cell (p:=⟨g,off,none⟩) hg).trans d0;have hk:=HK.out;have k0:(x.k == 0)=false:=by simp;omega
 have k1:(x.k == 1)=true:=by simp[hk]
 have HE:Hid (∀j,j<N+1->dy s0 N (.leaf x) f j=ra f x.p s0 N j):=hid fun j hj=>by
  show (if x.k=1 then _ else _:(Nat->Bool)) j=_
  rw[if_pos hk]
  match j,hj with
  | 0,_=>rfl
  | i+1,hj=>
   show (f i && x.p (s0.get! i).toNat)=(decide (i<N) && _);rw[decide_eq_true (by omega)];rfl
 have CG:=hid (HM.out.ab b5);clear o0 hk;go_wp2_with fail;go_loopw [9] (fun i wr=>∃k:Nat,i=.int .i64 k/\k<=N/\Hid (St wr 4 w.heap.size (gh f x.p s0 k (N+1)))/\Below w.heap.size w wr) (fun i _=>N-(intOf i).toNat)
 ·exact⟨0,rfl,Nat.zero_le _,CG.out,ec⟩
 obtain⟨k,rfl,hkN,vt,bg⟩:=hrel;by_cases an:k<N
 ·obtain⟨gf,Ee,rfl,Kp,Qk⟩:=HF.out (by omega);have II:=Qk k (by omega);have zR:=HS.out;obtain⟨fk,yv⟩:∃b,f k=b:=⟨_,rfl⟩
  rw[yv] at II;have df:=(bg.cell (p:=⟨gf,Ee+k,none⟩) Kp).trans II;have p1:=(bg.cell (p:=⟨g,off+1,none⟩) hg).trans d1;have p2:=(bg.cell (p:=⟨g,off+2,none⟩) hg).trans d2;have p3:=(bg.cell (p:=⟨g,off+3,none⟩) hg).trans d3;have p4:=(bg.cell (p:=⟨g,off+4,none⟩) hg).trans d4;have hwk:IntKind.i64.wrap ((k:Int)+1)=(k:Int)+1:=i64_in _ (by omega);have qn:k<s0.size:=by rw[zR];exact an
  have xY:s0.get! k=s0[k]'qn:=getElem!_pos s0.data k qn;obtain⟨bt,qc⟩:∃bt,(s0[k]'qn).toNat=bt:=⟨_,rfl⟩
  have ky:bt<256:=by rw[<-qc];exact UInt8.toNat_lt _
  have yo:=zjt f x.p s0 k (N+1) (by omega);rw[xY,qc] at yo;have VS:=hid yo;have XD:IntKind.i64.wrap (bt:Int)=bt:=i64_in _ (by omega);have ff:=vt.out.Ci (k+1);have cf:wr.cell? ⟨w.heap.size,k+1,none⟩=some (.bool (ra f x.p s0 k (k+1))):=by rw[vt.out.cell,EH _ _ _ _ _ _ (by omega)]
  clear yo xY;have i1:(k:Int)<N+1:=by omega
  have i2:(k:Int)+1<(N:Int)+1:=by omega
  have i3:(k:Int)<N:=by omega
  have i4:k<N:=an;have i5:(0:Int)<=k+1:=by omega
  have RM:IntKind.i64.wrap 0=0:=rfl;clear Qk;go_wp2_with fail;rcases fk with _|_
  ·skip;refine wp_region_held_drew (S:=fun W'=>Below w.heap.size w W'/\W'.cell? ⟨gf,Ee+k,none⟩=some (.bool false)/\W'.cell? ⟨g,off+1,none⟩=some (.int .u64 ((wd x.p 0:Nat):Int))/\W'.cell? ⟨g,off+2,none⟩=some (.int .u64 ((wd x.p 1:Nat):Int))/\W'.cell? ⟨g,off+3,none⟩=some (.int .u64 ((wd x.p 2:Nat):Int))/\W'.cell? ⟨g,off+4,none⟩=some (.int .u64 ((wd x.p 3:Nat):Int))) (by kernel_rfl) ⟨bg.drew,df,p1,p2,p3,p4⟩ (fun hHeld=>?_)
   (refine av 0 ?_;refine av 1 ?_;refine av 2 ?_;try simp only[put,sA,sB,sC];refine av 3 ?_;refine av 4 ?_;refine av 5 ?_;try simp only[put,sA,sB,sC];refine av 6 ?_;refine av 7 ?_;refine wW 8 ?_;try simp only[put,sA,sB,sC];refine wW 9 ?_;refine wW 10 ?_;refine wW 11 ?_;try simp only[put,sA,sB,sC];refine wW 12 ?_;refine wW 13 ?_;refine wW 14 ?_;try simp only[put,sA,sB,sC];refine wW 15 ?_;refine wW 16 ?_;refine wW 17 ?_;try simp only[put,sA,sB,sC];refine wW 18 ?_;try simp only[put,sA,sB,sC])
   refine bq 19 (fun K hK=>?_);skip;go_simp;refine hK.out _ _ hHeld (fun hHeld=>?_);clear hK K
   try simp only[put,sA,sB,sC]
   have px:=vt.out;have qh:=bg
   (refine av 20 ?_;refine av 21 ?_;try simp only[put,sA,sB,sC])
   refine bq 22 (fun K hK=>?_);skip;go_simp;have vT:=(px.set (k+1) (.bool (false))).drew;have re:=(qh.setCell (p:=⟨w.heap.size,k+1,none⟩) (le_refl _) (.bool (false))).drew;have Hv:=(re.cell (p:=⟨gf,Ee+k,none⟩) Kp).trans II;have FC:=(re.cell (p:=⟨g,off+1,none⟩) hg).trans d1;have FX:=(re.cell (p:=⟨g,off+2,none⟩) hg).trans d2;have Gs:=(re.cell (p:=⟨g,off+3,none⟩) hg).trans d3;have GO:=(re.cell (p:=⟨g,off+4,none⟩) hg).trans d4;refine hK.out _ _ ⟨re,Hv,FC,FX,Gs,GO⟩ (fun hHeld=>?_);clear hK K
   try simp only[put,sA,sB,sC]
   refine wpAnyH_done (by kernel_rfl) ?_ _;have N5:Hid (St (wr.setCell ⟨w.heap.size,k+1,none⟩ (.bool (false))).drew 4 w.heap.size (gh f x.p s0 (k+1) (N+1))):=(by show St _ _ _ _;rw[<-VS.out,yv];exact vT);have R8:=hid re;clear vT re Hv FC FX Gs GO px qh;go_wp2;go_roundw
   ·exact⟨k+1,by go_num,by omega,N5,R8.out⟩
   simp[intOf];omega
  skip;refine wp_region_held_drew (S:=fun W'=>Below w.heap.size w W'/\W'.cell? ⟨gf,Ee+k,none⟩=some (.bool true)/\W'.cell? ⟨g,off+1,none⟩=some (.int .u64 ((wd x.p 0:Nat):Int))/\W'.cell? ⟨g,off+2,none⟩=some (.int .u64 ((wd x.p 1:Nat):Int))/\W'.cell? ⟨g,off+3,none⟩=some (.int .u64 ((wd x.p 2:Nat):Int))/\W'.cell? ⟨g,off+4,none⟩=some (.int .u64 ((wd x.p 3:Nat):Int))) (by kernel_rfl) ⟨bg.drew,df,p1,p2,p3,p4⟩ (fun hHeld=>?_)
  (refine av 0 ?_;refine av 1 ?_;refine av 2 ?_;try simp only[put,sA,sB,sC];refine av 3 ?_;refine av 4 ?_;refine av 5 ?_;try simp only[put,sA,sB,sC];refine av 6 ?_;refine av 7 ?_;refine av 8 ?_;try simp only[put,sA,sB,sC];refine av 9 ?_;refine av 10 ?_;refine av 11 ?_;try simp only[put,sA,sB,sC];refine av 12 ?_;refine av 13 ?_;refine av 14 ?_;try simp only[put,sA,sB,sC];refine av 15 ?_;refine av 16 ?_;refine av 17 ?_;try simp only[put,sA,sB,sC];refine av 18 ?_;try simp only[put,sA,sB,sC])
  refine bq 19 (fun K hK=>?_);skip;go_simp;go_at_call 65;refine (RV x.p bt ky _).mono ?_;rintro e w6 ⟨rfl,lv⟩;have b6:Below wr.heap.size wr w6:=⟨lv.os,lv.tape,lv.output,lv.size,lv.block⟩
  have px:=vt.out.ab b6;have qh:=bg.trans (b6.mono bg.size);have f6:=px.Ci (k+1);have c6:w6.cell? ⟨w.heap.size,k+1,none⟩=some (.bool (ra f x.p s0 k (k+1))):=by rw[px.cell,EH _ _ _ _ _ _ (by omega)]
  have df6:=(qh.cell (p:=⟨gf,Ee+k,none⟩) Kp).trans II;have p16:=(qh.cell (p:=⟨g,off+1,none⟩) hg).trans d1;have p26:=(qh.cell (p:=⟨g,off+2,none⟩) hg).trans d2;have p36:=(qh.cell (p:=⟨g,off+3,none⟩) hg).trans d3;have p46:=(qh.cell (p:=⟨g,off+4,none⟩) hg).trans d4
  try go_wp2_with fail
  refine hK.out _ _ ⟨qh,df6,p16,p26,p36,p46⟩ (fun hHeld=>?_);clear hK K
  try simp only[put,sA,sB,sC]
  (refine av 20 ?_;refine av 21 ?_;try simp only[put,sA,sB,sC])
  refine bq 22 (fun K hK=>?_);skip;go_simp;have vT:=px.set (k+1) (.bool (x.p bt));have re:=qh.setCell (p:=⟨w.heap.size,k+1,none⟩) (le_refl _) (.bool (x.p bt));have Hv:=(re.cell (p:=⟨gf,Ee+k,none⟩) Kp).trans II;have FC:=(re.cell (p:=⟨g,off+1,none⟩) hg).trans d1;have FX:=(re.cell (p:=⟨g,off+2,none⟩) hg).trans d2;have Gs:=(re.cell (p:=⟨g,off+3,none⟩) hg).trans d3;have GO:=(re.cell (p:=⟨g,off+4,none⟩) hg).trans d4;refine hK.out _ _ ⟨re,Hv,FC,FX,Gs,GO⟩ (fun hHeld=>?_);clear hK K
  try simp only[put,sA,sB,sC]
  refine wpAnyH_done (by kernel_rfl) ?_ _;have N5:Hid (St (w6.setCell ⟨w.heap.size,k+1,none⟩ (.bool (x.p bt))) 4 w.heap.size (gh f x.p s0 (k+1) (N+1))):=by show St _ _ _ _;rw[<-VS.out,yv];exact vT
  have R8:=hid re;clear vT re Hv FC FX Gs GO px qh f6 c6;go_wp2;go_roundw
  ·exact⟨k+1,by go_num,by omega,N5,R8.out⟩
  simp[intOf];omega
 obtain rfl:k=N:=by omega
 have zR:=HS.out;go_wp2;go_ret;refine⟨_,_,rfl,?_,bg⟩;intro _;refine⟨w.heap.size,0,rfl,vt.out.lt,fun j hj=>?_⟩;rw[Nat.zero_add,vt.out.cell,EH _ _ _ _ _ _ hj,HE.out j hj]
theorem zmJ(t:Rx)(hw:t.wf):sd t:=by
 induction t with
 | leaf x=>
  have hk:x.k=0\/x.k=1:=by have:=sJ x.k;have:=hw.1;omega
  rcases hk with h|h
  ·exact zkz x h hw
  exact zmI x h hw
 | un x s ih=>
  have hk:x.k=4\/x.k=5\/x.k=6:=by have:=sJ x.k;have:=hw.1;omega
  rcases hk with h|h|h
  ·exact zky x s h hw (ih hw.2.2)
  ·exact zkA x s h hw (ih hw.2.2)
  exact zmF x s h hw (ih hw.2.2)
 | bin x s t ihs iht=>
  have hk:x.k=2\/x.k=3:=by have:=sJ x.k;have:=hw.1;omega
  rcases hk with h|h
  ·exact zmG x s t h hw (ihs hw.2.2.1) (iht hw.2.2.2)
  exact zmH x s t h hw (ihs hw.2.2.1) (iht hw.2.2.2)
def CI:Nat->Bool:=fun j=>j == 0
theorem zkB(t:Rx)(hw:t.wf)(s:ByteArray)(N:Nat)(hs:s.size=N)(hN:N<=99998)(g off n cap:Nat)(w:World)(hL:gO w (some ⟨g,off,none⟩) t.flat)(hn:t.flat.length=n)(dD:n<=1000000)(di:n<=cap/\cap<=maxLen):
  Calls prog 23 #[.slice (some ⟨g,off,none⟩) n cap,.string s] w fun e w'=>e=.returned (.bool (dy s N t CI N))/\Below w.heap.size w w':=by
 have hB:Below w.heap.size w (w.alloc (.cells ((madeCells #[.bool false] (N+1)).setIfInBounds 0 (.bool true)) 4)):=(Below.refl _ _).alloc (le_refl _) _;have hM:=St.new w 4 (madeCells #[.bool false] (N+1));have O8:=St.new w 4 ((madeCells #[.bool false] (N+1)).setIfInBounds 0 (.bool true));have dv:∀j,j<N+1->(madeCells #[.bool false] (N+1))[j]?=some (.bool false):=fun j hj=>by simp[madeCells,hj,Nat.mod_one]
 have c0:(w.alloc (.cells (madeCells #[.bool false] (N+1)) 4)).cell? ⟨w.heap.size,0,none⟩=some (.bool false):=by rw[hM.cell];exact dv 0 (by omega)
 have f0:=hM.Ci 0;have hF:oB (w.alloc (.cells ((madeCells #[.bool false] (N+1)).setIfInBounds 0 (.bool true)) 4)) (some ⟨w.heap.size,0,none⟩) (N+1) CI:=by
  intro _;refine⟨w.heap.size,0,rfl,O8.lt,fun j hj=>?_⟩;rw[Nat.zero_add,O8.cell];by_cases h0:j=0
  ·subst h0;rw[Array.getElem?_setIfInBounds_self,if_pos (by rw[size_madeCells];omega)];rfl
  rw[Array.getElem?_setIfInBounds_ne (by omega),dv j hj];simp[CI,h0]
 have HC:=hid (zmJ t hw s N hs hN g off n cap _ CI (some ⟨w.heap.size,0,none⟩) (N+1) (hL.below hB) hn dD di hF);have HB:=hid hB;have HS:=hid hs;have fu:=AO N hN;have zR:=hs;have Bb:IntKind.i64.wrap ((N:Int)+1)=(N:Int)+1:=i64_in _ (by omega);have cU:=hB.size;clear hL hn di hB hM O8 dv hF hw hs;go_enter func23,ntmps23;go_wp2_with fail;refine HC.out.mono ?_;rintro e w5 ⟨a5,c5,rfl,h5,b5⟩;obtain⟨g5,o5,rfl,rE,tk⟩:=h5 (by omega);have d5:=tk N (by omega);have i1:(N:Int)<N+1:=by omega
 clear tk h5;go_wp2;go_ret;exact⟨rfl,HB.out.trans (b5.mono cU)⟩
def pa(L:List Nat)(i j:Nat):List Nat:=(L.drop i).take (j-i)
theorem Nz(L:List Nat)(i:Nat):pa L i i=[]:=by simp[pa]
theorem Nn(L:List Nat)(i m j:Nat)(h1:i<=m)(h2:m<=j):pa L i j=pa L i m++pa L m j:=by
 unfold pa;rw[show j-i=(m-i)+(j-m) by omega,List.take_add,List.drop_drop,show i+(m-i)=m by omega]
theorem EV(L:List Nat)(i j:Nat)(h1:i<=j)(h2:j<=L.length):(pa L i j).length=j-i:=by simp[pa];omega
theorem Rz(L:List Nat)(i j:Nat)(h1:i<=j)(h2:j<=L.length)(u v:List Nat)(h:pa L i j=u++v):∃m,i<=m/\m<=j/\u=pa L i m/\v=pa L m j:=by
 have hl:=congrArg List.length h;rw[EV L i j h1 h2,List.length_append] at hl;refine⟨i+u.length,by omega,by omega,?_⟩;have h3:=Nn L i (i+u.length) j (by omega) (by omega);rw[h] at h3;have h4:(pa L i (i+u.length)).length=u.length:=by rw[EV L _ _ (by omega) (by omega)];omega
 exact List.append_inj h3 h4.symm
theorem XP(L:List Nat)(i:Nat)(h:i<L.length):pa L i (i+1)=[L[i]]:=by
 unfold pa;rw[show i+1-i=1 by omega,List.take_one,List.head?_drop,List.getElem?_eq_getElem h];rfl
def BO(L:List Nat)(N:Nat)(A:List Nat->Prop)(E:(Nat->Bool)->Nat->Bool):Prop:=∀f j,j<=N->(E f j=true↔∃i,i<=j/\f i=true/\A (pa L i j))
theorem UL(f h:Nat->Bool)(n:Nat):iB f h n=true↔∀j,j<n->f j=h j:=by
 induction n with
 | zero=>simp[iB]
 | succ n ih=>
  simp only[iB,Bool.and_eq_true,ih,beq_iff_eq];constructor
  ·rintro⟨h1,h2⟩ j hj;rcases Nat.lt_or_ge j n with h|h
   ·exact h1 j h
   rw[show j=n by omega];exact h2
  exact fun h=>⟨fun j hj=>h j (by omega),h n (by omega)⟩
def kK(f:Nat->Bool):Nat->Nat
 | 0=>0
 | n+1=>kK f n+if f n=true then 0 else 1
theorem zoZ(f:Nat->Bool)(n:Nat):kK f n<=n:=by
 induction n with
 | zero=>simp[kK]
 | succ n ih=>simp only[kK];split <;> omega
theorem zkD(f h:Nat->Bool)(n:Nat)(hs:∀j,j<n->f j=true->h j=true):kK h n<=kK f n:=by
 induction n with
 | zero=>simp[kK]
 | succ n ih=>
  have h1:=ih (fun j hj=>hs j (by omega));have h2:=hs n (by omega);simp only[kK];by_cases hf:f n=true
  ·rw[if_pos hf,if_pos (h2 hf)];omega
  rw[if_neg hf];split <;> omega
theorem zkE(f h:Nat->Bool)(n:Nat)(hs:∀j,j<n->f j=true->h j=true)(j:Nat)(hj:j<n)(h0:f j=false)(h1:h j=true):kK h n<kK f n:=by
 induction n with
 | zero=>omega
 | succ n ih=>
  have hm:=zkD f h n (fun j hj=>hs j (by omega));simp only[kK];by_cases he:j=n
  ·subst he;rw[if_pos h1,h0];simp;omega
  have:=ih (fun j hj=>hs j (by omega)) (by omega);have h2:=hs n (by omega);by_cases hf:f n=true
  ·rw[if_pos hf,if_pos (h2 hf)];omega
  rw[if_neg hf];split <;> omega
theorem zkF(f:Nat->Bool)(n j:Nat)(hj:j<n)(h:f j=true):kK f n<n:=by
 induction n with
 | zero=>omega
 | succ n ih=>
  have hl:=zoZ f n;simp only[kK];by_cases he:j=n
  ·subst he;rw[if_pos h];omega
  have:=ih (by omega);split <;> omega
def VA(N:Nat)(E:(Nat->Bool)->Nat->Bool)(f:Nat->Bool):Prop:=∀j,j<=N->E f j=true->f j=true
theorem zkH{N:Nat}{A:List Nat->Prop}(hE:BO L N A E){f h:Nat->Bool}(e:∀j,j<=N->f j=h j)(j:Nat)(hj:j<=N):E f j=true↔E h j=true:=by
 rw[hE f j hj,hE h j hj];exact⟨fun ⟨i,h1,h2,h3⟩=>⟨i,h1,by rw[<-e i (by omega)];exact h2,h3⟩,fun ⟨i,h1,h2,h3⟩=>⟨i,h1,by rw[e i (by omega)];exact h2,h3⟩⟩
theorem VR{L:List Nat}{N:Nat}{A:List Nat->Prop}{E:(Nat->Bool)->Nat->Bool}(hE:BO L N A E):∀(k:Nat) (f:Nat->Bool),(kK f (N+1)<k\/(0<k/\∀j,j<=N->f j=false))->VA N E (dF E (N+1) k f)
 | 0,f,h=>by omega
 | k+1,f,h=>by
  unfold dF
  by_cases hs:iB (kM f (E f)) f (N+1)=true
  ·rw[if_pos hs]
   have he:=(UL _ _ _).1 hs
   intro j hj h1
   have h2:=(zkH hE (fun j hj=>he j (by omega)) j hj).1 h1
   simp[kM,h2]
  ·rw[if_neg hs]
   refine VR hE k _ ?_
   have hne:∃j,j<=N/\f j=false/\E f j=true:=by
    refine Classical.byContradiction fun gW=>hs ((UL _ _ _).2 fun j hj=>?_)
    by_cases hf:f j=true
    ·simp[kM,hf]
    ·have ZE:f j=false:=by simpa using hf
     have:E f j=false:=by
      by_cases Em:E f j=true
      ·exact absurd ⟨j,by omega,ZE,Em⟩ gW
      ·simpa using Em
     simp[kM,ZE,this]
   obtain⟨j,hj,h0,h1⟩:=hne
   rcases h with h|⟨_,h⟩
   ·have:=zkE f (kM f (E f)) (N+1) (fun i hi o9=>by simp[kM,o9]) j (by omega) h0 (by simp[kM,h1])
    exact inl (by omega)
   ·obtain⟨i,hi,o9,_⟩:=(hE f j hj).1 h1
    rw[h i (by omega)] at o9
    cases o9
theorem Xu{L:List Nat}{N:Nat}(hN:L.length=N){A:List Nat->Prop}{E:(Nat->Bool)->Nat->Bool}(hE:BO L N A E):∀(k:Nat) (f:Nat->Bool),(∀j,j<=N->f j=true->dF E (N+1) k f j=true)/\∀j,j<=N->dF E (N+1) k f j=true->∃i,i<=j/\f i=true/\dB A (pa L i j)
 | 0,f=>⟨fun j _ h=>h,fun j _ h=>⟨j,le_refl _,h,by rw[Nz];exact dB.nil⟩⟩
 | k+1,f=>by
  have uO:∀j,j<=N->kM f (E f) j=true->∃i,i<=j/\f i=true/\dB A (pa L i j):=by
   intro j hj h
   simp only[kM,Bool.or_eq_true] at h
   rcases h with h|h
   ·exact⟨j,le_refl _,h,by rw[Nz];exact dB.nil⟩
   ·obtain⟨i,h1,h2,h3⟩:=(hE f j hj).1 h
    exact⟨i,h1,h2,dB.one h3⟩
  obtain⟨h1,h2⟩:=Xu hN hE k (kM f (E f))
  unfold dF
  by_cases hs:iB (kM f (E f)) f (N+1)=true
  ·rw[if_pos hs]
   exact⟨fun j _ h=>by simp[kM,h],uO⟩
  ·rw[if_neg hs]
   refine⟨fun j hj h=>h1 j hj (by simp[kM,h]),fun j hj h=>?_⟩
   obtain⟨m,h3,h4,h5⟩:=h2 j hj h
   obtain⟨i,h6,h7,h8⟩:=uO m (by omega) h4
   exact⟨i,by omega,h7,by rw[Nn L i m j h6 h3];exact h8.cat h5⟩
theorem zhn{N:Nat}(hN:L.length=N){A:List Nat->Prop}(hE:BO L N A E){f:Nat->Bool}(hc:VA N E f){s:List Nat}(h:dB A s):∀i j,i<=j->j<=N->pa L i j=s->f i=true->f j=true:=by
 induction h with
 | nil=>
  intro i j h1 h2 h3 h4;have:=EV L i j h1 (by omega);rw[h3] at this;simp at this;rw[show j=i by omega];exact h4
 | @app u v hu hv ih=>
  intro i j h1 h2 h3 h4;obtain⟨m,h5,h6,rfl,rfl⟩:=Rz L i j h1 (by omega) u v h3;exact ih m j h6 h2 rfl (hc m (by omega) ((hE f m (by omega)).2 ⟨i,h5,h4,hu⟩))
theorem zkI{N:Nat}(hN:L.length=N){A:List Nat->Prop}(hE:BO L N A E):BO L N (dB A) (dF E (N+1) (N+1)):=by
 intro f j hj;obtain⟨h1,h2⟩:=Xu hN hE (N+1) f;refine⟨h2 j hj,fun ⟨i,h3,h4,h5⟩=>?_⟩;have hc:=VR hE (N+1) f (inl (zkF f (N+1) i (by omega) h4));exact zhn hN hE hc h5 i j h3 hj rfl (h1 i (by omega) h4)
theorem zmK(s:ByteArray)(L:List Nat)(N:Nat)(hN:L.length=N)(hb:∀i (h:i<L.length),L[i]=(s.get! i).toNat)(t:Rx)(hw:t.wf):BO L N (dO t) (dy s N t):=by
 induction t with
 | leaf x=>
  intro f j hj;show (if x.k=1 then _ else _:(Nat->Bool)) j=true↔_;by_cases hk:x.k=1
  ·rw[if_pos hk];constructor
   ·intro h
    match j,hj,h with
    | i+1,hj,h=>
     simp only[Bool.and_eq_true] at h;have hi:i<L.length:=(by omega);refine⟨i,by omega,h.1,?_⟩;rw[XP L i hi,yj,if_pos hk];exact⟨_,rfl,by rw[hb i hi];exact UInt8.toNat_lt _,by rw[hb i hi];exact h.2⟩
   rintro⟨i,h1,h2,h3⟩;rw[yj,if_pos hk] at h3;obtain⟨b,h4,h5,h6⟩:=h3;have hl:=EV L i j h1 (by omega);rw[h4] at hl;have Lw:j=i+1:=(by simp at hl;omega);subst Lw;rw[XP L i (by omega)] at h4;have nH:L[i]'(by omega)=b:=(by simpa using h4);show (f i && x.p (s.get! i).toNat)=true;rw[<-hb i (by omega),nH,h2,h6];rfl
  rw[if_neg hk];constructor
  ·exact fun h=>⟨j,le_refl _,h,by rw[Nz,yj,if_neg hk]⟩
  rintro⟨i,h1,h2,h3⟩;rw[yj,if_neg hk] at h3;have hl:=EV L i j h1 (by omega);rw[h3] at hl;simp at hl;rw[show j=i by omega];exact h2
 | un x a ih=>
  have hE:=ih hw.2.2;have hS:=zkI hN hE;have hk:x.k=4\/x.k=5\/x.k=6:=by have:=sJ x.k;have:=hw.1;omega
  intro f j hj;show (if x.k=6 then kM f (dy s N a f) else if x.k=4 then dF (dy s N a) (N+1) (N+1) f else dF (dy s N a) (N+1) (N+1) (dy s N a f)) j=true↔_;rcases hk with h|h|h
  ·rw[if_neg (by omega),if_pos h,hS f j hj];simp only[yA,h,if_true]
  ·rw[if_neg (by omega),if_neg (by omega),hS _ j hj];simp only[yA,h,show ¬((5:Int)=4) by decide,if_false,if_true];constructor
   ·rintro⟨m,h1,h2,h3⟩;obtain⟨i,h4,h5,h6⟩:=(hE f m (by omega)).1 h2;exact⟨i,by omega,h5,_,_,Nn L i m j h4 h1,h6,h3⟩
   rintro⟨i,h1,h2,u,v,h3,h4,h5⟩;obtain⟨m,h6,h7,rfl,rfl⟩:=Rz L i j h1 (by omega) u v h3;exact⟨m,h7,(hE f m (by omega)).2 ⟨i,h6,h2,h4⟩,h5⟩
  rw[if_pos h];simp only[yA,h,show ¬((6:Int)=4) by decide,show ¬((6:Int)=5) by decide,if_false,kM,Bool.or_eq_true,hE f j hj];constructor
  ·rintro (h1|⟨i,h1,h2,h3⟩)
   ·exact⟨j,le_refl _,h1,inl (Nz L j)⟩
   exact⟨i,h1,h2,inr h3⟩
  rintro⟨i,h1,h2,h3|h3⟩
  ·have hl:=EV L i j h1 (by omega);rw[h3] at hl;simp at hl;exact inl (by rw[show j=i by omega];exact h2)
  exact inr ⟨i,h1,h2,h3⟩
 | bin x a b iha ihb=>
  have hA:=iha hw.2.2.1;have hB:=ihb hw.2.2.2;have hk:x.k=2\/x.k=3:=by have:=sJ x.k;have:=hw.1;omega
  intro f j hj;show (if x.k=2 then dy s N b (dy s N a f) else kM (dy s N a f) (dy s N b f)) j=true↔_;rcases hk with h|h
  ·rw[if_pos h,hB _ j hj];simp only[Dx,h,if_true];constructor
   ·rintro⟨m,h1,h2,h3⟩;obtain⟨i,h4,h5,h6⟩:=(hA f m (by omega)).1 h2;exact⟨i,by omega,h5,_,_,Nn L i m j h4 h1,h6,h3⟩
   rintro⟨i,h1,h2,u,v,h3,h4,h5⟩;obtain⟨m,h6,h7,rfl,rfl⟩:=Rz L i j h1 (by omega) u v h3;exact⟨m,h7,(hA f m (by omega)).2 ⟨i,h6,h2,h4⟩,h5⟩
  rw[if_neg (by omega)];simp only[Dx,h,show ¬((3:Int)=2) by decide,if_false,kM,Bool.or_eq_true,hA f j hj,hB f j hj];constructor
  ·rintro (⟨i,h1,h2,h3⟩|⟨i,h1,h2,h3⟩)
   ·exact⟨i,h1,h2,inl h3⟩
   exact⟨i,h1,h2,inr h3⟩
  rintro⟨i,h1,h2,h3|h3⟩
  ·exact inl ⟨i,h1,h2,h3⟩
  exact inr ⟨i,h1,h2,h3⟩
theorem zmL(s:ByteArray)(L:List Nat)(N:Nat)(hN:L.length=N)(hb:∀i (h:i<L.length),L[i]=(s.get! i).toNat)(t:Rx)(hw:t.wf):dy s N t CI N=true↔dO t L:=by
 rw[zmK s L N hN hb t hw CI N (le_refl _)];have eb:pa L 0 N=L:=by simp[pa,<-hN]
 constructor
 ·rintro⟨i,h1,h2,h3⟩;have:i=0:=by simpa [CI] using h2
  subst this;rw[eb] at h3;exact h3
 exact fun h=>⟨0,Nat.zero_le _,rfl,by rw[eb];exact h⟩
end Go.Proofs.YtbacgnhkapancaaGreat
