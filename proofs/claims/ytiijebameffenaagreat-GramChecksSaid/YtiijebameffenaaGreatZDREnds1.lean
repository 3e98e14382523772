import Derived.Test.YtiijebameffenaaGreatZQThom
import Derived.StillTailTactics
import Derived.WalkSmall
set_option linter.all false
set_option maxHeartbeats 2000000
set_option maxRecDepth 100000
open Go.Lib (hid)
namespace Go.Proofs.YtiijebameffenaaGreat
open Go.RowKit Go.Proofs.Tryz
def zq2(w:World)(a:Option Addr)(L:List (List Pc)):Prop:=
 ∀i (h:i<L.length),∃b g off c,a=some ⟨b,0,none⟩/\w.cell? ⟨b,i,none⟩=some (.slice (some ⟨g,off,none⟩) L[i].length c)/\iq w (some ⟨g,off,none⟩) L[i]/\1<=L[i].length/\b<w.heap.size/\L[i].length<=c/\c<=maxLen
theorem Ew(t:Rx)(ht:t.wf)(g off n cap:Nat)(w:World)(hL:iq w (some ⟨g,off,none⟩) t.flat)(hn:t.flat.length=n)(dZ:n<=1000000)(dq:n<=cap/\cap<=maxLen):
  Calls prog 107 #[.slice (some ⟨g,off,none⟩) n cap] w fun e w'=>∃a c,e=.returned (.slice a t.kids.length c)/\zq2 w' a t.kids/\ϐ w w':=by
 obtain⟨g',lF,e,hg,tZ⟩:=hL t.aZ;simp at e;obtain⟨rfl,rfl⟩:=e
 match t,ht,hL,hn with
 | .leaf x,ht,hL,hn=>
  refine (zhk x ht.1 g off n cap w hL (by rw[<-hn];rfl)).mono ?_;rintro e w' ⟨a,c,rfl,hO,b⟩;exact⟨a,c,rfl,fun i hi=>absurd hi (by simp[Rx.kids]),b⟩
 | .un x s,ht,hL,hn=>
  have hp:=s.aZ;have qH:s.flat.length+1=n:=by rw[<-hn];simp[Rx.flat]
  refine (zkQ x s ht.2.2 ht.1 g off n cap w hL s.flat.length rfl qH.symm (by omega) dq).mono ?_;rintro e w' ⟨a,c,rfl,hO,b⟩;refine⟨a,c,rfl,?_,b⟩;obtain⟨gr,ha,_,ph,hc⟩:=fG hO (by simp);subst ha;intro i hi;have h0:i=0:=by simp[Rx.kids] at hi;omega
  subst h0;refine⟨gr,g,off,cap,rfl,(hc 0 (by simp)).1,?_,hp,ph,by show s.flat.length<=cap;omega,dq.2⟩;have hs:iq w (some ⟨g,off,none⟩) s.flat:=fun _=>⟨g,off,rfl,hg,fun j hj=>by
   rw[tZ j (by simp[Rx.flat] at hj⊢;omega)]
   show (fe (s.flat++[x]))[j]?=_
   rw[Ic,List.getElem?_append_left (by rw[Gp];exact hj)]⟩
  exact hs.below b
 | .bin x s u,ht,hL,hn=>
  have hp:=s.aZ;have fR:=u.aZ;have qH:s.flat.length+u.flat.length+1=n:=by rw[<-hn];simp[Rx.flat];omega
  refine (zjx x s u ht.2.2.1 ht.2.2.2 ht.1 g off n cap w hL s.flat.length u.flat.length rfl rfl qH.symm (by omega) dq).mono ?_;rintro e w' ⟨a,c,rfl,hO,b⟩;refine⟨a,c,rfl,?_,b⟩;obtain⟨gr,ha,_,ph,hc⟩:=fG hO (by simp);subst ha;have hs:iq w (some ⟨g,off,none⟩) s.flat:=fun _=>⟨g,off,rfl,hg,fun j hj=>by
   rw[tZ j (by simp[Rx.flat] at hj⊢;omega)]
   show (fe (s.flat++(u.flat++[x])))[j]?=_
   rw[Ic,List.getElem?_append_left (by rw[Gp];exact hj)]⟩
  have hu:iq w (some ⟨g,off+s.flat.length*5,none⟩) u.flat:=fun _=>⟨g,_,rfl,hg,fun j hj=>by
   have h1:=tZ (s.flat.length*5+j) (by simp[Rx.flat] at hj⊢;omega)
   rw[show off+s.flat.length*5+j=off+(s.flat.length*5+j) by omega,h1]
   show (fe (s.flat++(u.flat++[x])))[_]?=_
   have e5:=Gp s.flat
   have e6:=Gp u.flat
   rw[Ic,List.getElem?_append_right (by omega),Ic,List.getElem?_append_left (by omega)]
   congr 1
   omega⟩
  intro i hi;have h2:i=0\/i=1:=by simp[Rx.kids] at hi;omega
  rcases h2 with rfl|rfl
  ·exact⟨gr,g,off,cap,rfl,(hc 0 (by simp)).1,hs.below b,hp,ph,by show s.flat.length<=cap;omega,dq.2⟩
  exact⟨gr,g,_,_,rfl,(hc 1 (by simp)).1,hu.below b,fR,ph,by show u.flat.length<=cap-s.flat.length;omega,by have:=dq.2;omega⟩
theorem TQ(f h:Nat->Bool)(a1 a2:Option Addr)(n c1 c2:Nat)(w:World)(h1:pN w a1 n f)(h2:pN w a2 n h)(dZ:n<=100000):
  Calls prog 109 #[.slice a1 n c1,.slice a2 n c2] w fun e w'=>∃a c,e=.returned (.slice a n c)/\w'.ownsRow w.heap.size 4 1 (.slice a n c) n (jC (fun j=>f j || h j) n)/\ϐ w w':=by
 obtain⟨i0,hi,dP,dc,db⟩:=info_parts kt;have H1:=hid h1;have H2:=hid h2;clear h1 h2;go_in;go_wp2;go_loopw [5,6] (fun v i wr=>∃k:Nat,i=.int .i64 k/\k<=n/\Hid (wr.ownsRow w.heap.size 4 1 v k (jC (fun j=>f j || h j) k))/\ϐ w wr) (fun _ i _=>n-(intOf i).toNat)
 ·exact⟨0,rfl,Nat.zero_le _,World.ownsRow_nil _ _ _ _,Below.refl _ _⟩
 obtain⟨k,rfl,hk,HO,bg⟩:=hrel;obtain⟨a3,c3,rfl⟩:=cy HO.o;by_cases aq:k<n
 ·obtain⟨g1,o1,rfl,jF,ie⟩:=(H1.o.below bg) (by omega);obtain⟨g2,o2,rfl,Bu,gj⟩:=(H2.o.below bg) (by omega);have d1:=ie k aq;have d2:=gj k aq;have hO:=HO.o;have cQ:=bg.size;obtain⟨r,hr⟩:=Ξ (f k || h k)
  have HZ:Hid (jC (fun j=>f j || h j) (k+1)=jC (fun j=>f j || h j) k++[.bool r]):=by show _=_;rw[ZQ];simp only[hr]
  obtain⟨L,hL⟩:=Ξ (jC (fun j=>f j || h j) k)
  rw[hL] at hO HZ;obtain⟨x,hx⟩:=Ξ (f k)
  obtain⟨y,hy⟩:=Ξ (h k)
  rw[hx] at d1 hr;rw[hy] at d2 hr;clear ie gj hL hx hy HO;rcases x with _|_
  ·obtain rfl:y=r:=(by simpa using hr);clear hr;go_wp2_with (at_builtin;refine wpList_append_own _ rfl _ _ 129 rfl w.heap.size 4 i0 (.bool false) 1 1 underlying129 hi dP dc db rfl (by decide) _ _ _ rfl (hO.alloc _) ⟨wr.heap.size,0,none⟩ 1 1 [.bool y] rfl rfl (cell_one_new _ _ _) ?d2 ?d3 ?d4 ?d5 ?_)
   case d2=>intro u hu;simp at hu;subst hu;rfl
   case d3=>unfold maxLen;omega
   case d4=>omega
   case d5=>simp;omega
   intro v' w5 ak aj _;have eB:=bg.trans (((Below.refl _ wr).alloc cQ (.cells #[.bool y] 4)).trans (EE aj (hO.alloc _) (by simp;omega)));have vb:Hid (w5.ownsRow w.heap.size 4 1 v' (k+1) (jC (fun j=>f j || h j) (k+1))):=(by show World.ownsRow _ _ _ _ _ _ _;rw[HZ.o];exact ak);clear ak aj hO;go_wp2;go_roundw
   ·exact⟨k+1,by go_num,by omega,vb,eB⟩
   simp[intOf];omega
  obtain rfl:true=r:=by simpa using hr
  clear hr;go_wp2_with (at_builtin;refine wpList_append_own _ rfl _ _ 129 rfl w.heap.size 4 i0 (.bool false) 1 1 underlying129 hi dP dc db rfl (by decide) _ _ _ rfl (hO.alloc _) ⟨wr.heap.size,0,none⟩ 1 1 [.bool true] rfl rfl (cell_one_new _ _ _) ?d2 ?d3 ?d4 ?d5 ?_)
  case d2=>intro u hu;simp at hu;subst hu;rfl
  case d3=>unfold maxLen;omega
  case d4=>omega
  case d5=>simp;omega
  intro v' w5 ak aj _;have eB:=bg.trans (((Below.refl _ wr).alloc cQ (.cells #[.bool true] 4)).trans (EE aj (hO.alloc _) (by simp;omega)));have vb:Hid (w5.ownsRow w.heap.size 4 1 v' (k+1) (jC (fun j=>f j || h j) (k+1))):=by show World.ownsRow _ _ _ _ _ _ _;rw[HZ.o];exact ak
  clear ak aj hO;go_wp2;go_roundw
  ·exact⟨k+1,by go_num,by omega,vb,eB⟩
  simp[intOf];omega
 obtain rfl:k=n:=by omega
 go_wp2;go_ret;exact⟨a3,c3,rfl,HO.o,bg⟩
def lD(f h:Nat->Bool):Nat->Bool:=fun j=>f j || h j
def iR(f h:Nat->Bool):Nat->Bool
 | 0=>true
 | n+1=>iR f h n && (f n == h n)
def dI(E:(Nat->Bool)->Nat->Bool)(n:Nat):Nat->(Nat->Bool)->Nat->Bool
 | 0,f=>f
 | k+1,f=>if iR (lD f (E f)) f n=true then lD f (E f) else dI E n k (lD f (E f))
def SF(n:Nat)(h:Nat->Bool)(w:World)(e:Ending)(w':World):Prop:=∃a c,e=.returned (.slice a n c)/\pN w' a n h/\ϐ w w'
theorem zeK(E:(Nat->Bool)->Nat->Bool)(vr:Value)(s:ByteArray)(N:Nat)(hs:s.size=N)(hN:N<=99998)(w:World)
  (hE:∀f a c W,ϐ w W->pN W a (N+1) f->Calls prog 90 #[vr,.string s,.slice a (N+1) c] W (SF (N+1) (E f) W))
  (f0:Nat->Bool) (a0:Option Addr) (c0:Nat) (h0:pN w a0 (N+1) f0):
  Calls prog 110 #[vr,.string s,.slice a0 (N+1) c0] w (SF (N+1) (dI E (N+1) (N+1) f0) w):=by
 have HE:=hid hE;have H0:=hid h0;have HS:=hid hs;obtain⟨R,hR⟩:=Ξ (dI E (N+1) (N+1) f0)
 rw[hR];have HR:=hid hR;clear hE h0 hR;go_in;go_wp2;go_loopw [2,7] (fun v i wr=>∃(q:Nat) (f:Nat->Bool) (a:Option Addr) (c:Nat),i=.int .i64 q/\q<=N+1/\v=.slice a (N+1) c/\Hid (pN wr a (N+1) f)/\Hid (dI E (N+1) (N+1-q) f=R)/\ϐ w wr) (fun _ i _=>N+2-(intOf i).toNat)
 ·exact⟨0,f0,a0,c0,rfl,Nat.zero_le _,rfl,H0.o,by show _=_;rw[Nat.sub_zero];exact HR.o,Below.refl _ _⟩
 obtain⟨q,f,a,c,rfl,hq,rfl,HB,HG,bg⟩:=hrel;by_cases aq:q<=N
 ·have cQ:=bg.size;go_wp2_with fail;refine (HE.o f a c wr bg HB.o).mono ?_;rintro e w5 ⟨a5,c5,rfl,h5,b5⟩;have Sd:=HB.o.below b5;have nL:=bg.trans (b5.mono cQ);go_wp2_with fail;refine (TQ f (E f) a a5 (N+1) c c5 w5 Sd h5 (by omega)).mono ?_;rintro e w6 ⟨a6,c6,rfl,hO6,b6⟩;have eJ:=nL.trans (b6.mono nL.size);have hs6:=eJ.size;have AJ:Hid (dI E (N+1) (N+1-q) f=if iR (lD f (E f)) f (N+1)=true then lD f (E f) else dI E (N+1) (N-q) (lD f (E f))):=by
   show _=_;rw[show N+1-q=(N-q)+1 by omega];rfl
  have h6:pN w6 a6 (N+1) (lD f (E f)):=Ow hO6;obtain⟨g,hg⟩:=Ξ (lD f (E f))
  rw[hg] at AJ h6;have H6:=hid h6;have Ku:=hid (Sd.below b6);have p8:=hid eJ;clear hO6 h6 Sd hg h5 b5 b6 nL HB bg eJ;go_wp2;go_loopw [9,10] (fun v i wx=>∃j:Nat,i=.int .i64 j/\j<=N+1/\v=.bool (iR g f j)/\Hid (ϐ w6 wx)) (fun _ i _=>N+1-(intOf i).toNat)
  ·exact⟨0,rfl,Nat.zero_le _,rfl,Below.refl _ _⟩
  obtain⟨j,rfl,hj,rfl,HX⟩:=hrel;by_cases hjn:j<N+1
  ·obtain⟨g1,o1,rfl,jF,ie⟩:=(H6.o.below HX.o) (by omega);obtain⟨g2,o2,rfl,Bu,gj⟩:=(Ku.o.below HX.o) (by omega);have d1:=ie j hjn;have d2:=gj j hjn;have Fl:Hid (iR g f (j+1)=(iR g f j && (g j == f j))):=hid rfl;obtain⟨b,hb⟩:=Ξ (iR g f j);rw[hb] at Fl⊢;obtain⟨x,hx⟩:=Ξ (g j);obtain⟨y,hy⟩:=Ξ (f j);rw[hx] at d1 Fl;rw[hy] at d2 Fl;clear ie gj hb hx hy;go_wp2_with fail;rcases b with _|_
   ·go_quiet (fail);go_wp2;go_roundw
    ·exact⟨j+1,by go_num,by omega,by rw[Fl.o];simp,below_drewN HX.o _⟩
    simp[intOf];omega
   go_quiet (fail);go_wp2;go_roundw
   ·exact⟨j+1,by go_num,by omega,by rw[Fl.o];simp,below_drewN HX.o _⟩
   simp[intOf];omega
  obtain rfl:j=N+1:=by omega
  have Ox:=p8.o.trans (HX.o.mono hs6);obtain⟨b,hb⟩:=Ξ (iR g f (N+1))
  rw[hb] at AJ⊢;clear hb;rcases b with _|_
  ·have HZ:Hid (dI E (N+1) (N-q) g=R):=(by show _=_;rw[<-HG.o,AJ.o];simp);have Qz:=hid Ox;clear Ox;go_wp2;go_roundw
   ·exact⟨q+1,g,a6,c6,by go_num,by omega,rfl,H6.o.below HX.o,by show _=_;rw[show N+1-(q+1)=N-q by omega];exact HZ.o,Qz.o⟩
   simp[intOf];omega
  have HZ:Hid (g=R):=by show _=_;rw[<-HG.o,AJ.o];simp
  have Qz:=hid Ox;clear Ox;go_wp2;go_ret;exact⟨a6,c6,rfl,by rw[<-HZ.o];exact H6.o.below HX.o,Qz.o⟩
 obtain rfl:q=N+1:=by omega
 have HZ:Hid (f=R):=by
  show _=_;have:=HG.o;rw[Nat.sub_self] at this;exact this
 go_wp2;go_ret;exact⟨a,c,rfl,by rw[<-HZ.o];exact HB.o,bg⟩
def dz(s:ByteArray)(N:Nat):Rx->(Nat->Bool)->Nat->Bool
 | .leaf x=>fun f=>if x.k=1 then fun j=>match j with|0=>false|i+1=>f i && x.p (s.get! i).toNat else f
 | .un x a=>fun f=>if x.k=6 then lD f (dz s N a f) else if x.k=4 then dI (dz s N a) (N+1) (N+1) f else dI (dz s N a) (N+1) (N+1) (dz s N a f)
 | .bin x a b=>fun f=>if x.k=2 then dz s N b (dz s N a f) else lD (dz s N a f) (dz s N b f)
def uo(t:Rx):Prop:=∀(s:ByteArray) (N:Nat),s.size=N->N<=99998->∀(g off n cap:Nat) (w:World) (f:Nat->Bool) (a:Option Addr) (c:Nat),iq w (some ⟨g,off,none⟩) t.flat->t.flat.length=n->n<=1000000->n<=cap/\cap<=maxLen->pN w a (N+1) f->
 Calls prog 90 #[.slice (some ⟨g,off,none⟩) n cap,.string s,.slice a (N+1) c] w (SF (N+1) (dz s N t f) w)
theorem Cc(N:Nat)(hN:N<=99998)(W:World):(Instr.makeSlice 129 (.int .i64 ((N:Int)+1)) (.int .i64 ((N:Int)+1))).run prog W=.ok (.slice (some ⟨W.heap.size,0,none⟩) (N+1) (N+1)) (W.alloc (.cells (madeCells #[.bool false] (N+1)) 4)):=by
 have:=run_make_row' (P:=prog) 129 4 (.bool false) 1 underlying129 kt rfl .i64 .i64 (N+1) (by omega) (by omega) W;simpa using this
theorem znc(x:Pc)(s:Rx)(hk:x.k=6)(hw:((Rx.un x s)).wf)(ih:uo s):uo (.un x s):=by
 intro s0 N hs hN g off n cap w f a c hL hn dZ dq hF;obtain⟨m,hm⟩:=Ξ (n-1)
 have hpos:=(Rx.un x s).aZ;have dr:n=m+1:=by omega
 obtain⟨g',lF,e,hg,d0,-⟩:=hL.get m (by omega);simp at e;obtain⟨rfl,rfl⟩:=e;have oI:(Rx.un x s).flat[m]'(by omega)=x:=by
  have h1:=(Rx.un x s).j7;rw[hn,hm,List.getElem?_eq_getElem (by omega)] at h1;exact Option.some.inj h1
 rw[oI] at d0;have hB:ϐ w (w.alloc (.cells (madeCells #[.bool false] (N+1)) 4)):=(Below.refl _ _).alloc (Nat.le_refl _) _;have HC:=hid (Ew (.un x s) hw g off n cap _ (hL.below hB) hn dZ dq);have HB:=hid hB;have HF:=hid hF;have HK:=hid hk;have HS:=hid hs;have gP:=Cc N hN;have cQ:=hB.size;have en:(n:Int)-1=(m:Int):=by omega
 have ly:m<n:=by omega
 have tZ:n<=9223372036854775807:=by have:=dq.1;have:=dq.2;unfold maxLen at this;omega
 have Ac:s.flat.length<=1000000:=by
  have:(Rx.un x s).flat.length=s.flat.length+1:=by simp[Rx.flat]
  omega
 clear hL hn dq hB oI hw dr hm hpos hk hs hF;go_in;go_wp2_with fail;refine HC.o.mono ?_;rintro e w5 ⟨aL,cL,rfl,qy,b5⟩;have eB:=HB.o.trans (b5.mono cQ);have jE:=eB.size;have e0:=(eB.cell (p:=⟨g,off+m*5,none⟩) hg).trans d0;have uR:=hid (HF.o.below eB);have hk:=HK.o;have k0:(x.k == 0)=false:=by simp;omega
 have k1:(x.k == 1)=false:=by simp;omega
 have k2:(x.k == 2)=false:=by simp;omega
 have k3:(x.k == 3)=false:=by simp;omega
 have k6:(x.k == 6)=true:=by simp[hk]
 obtain⟨b,g1,o1,c1,rfl,ie,sr,_,eC,jD,lH⟩:=qy 0 (by show 0<1;decide);obtain⟨n1,dr⟩:=Ξ s.flat.length
 have t1:w5.cell? ⟨b,0,none⟩=some (.slice (some ⟨g1,o1,none⟩) n1 c1):=by rw[<-dr];exact ie
 have HI:=hid (fun (W:World) (bw:ϐ w5 W) (f:Nat->Bool) (a:Option Addr) (c:Nat) (hf:pN W a (N+1) f)=>ih s0 N HS.o hN g1 o1 n1 c1 W f a c (sr.below bw) dr (by omega) ⟨by rw[<-dr];exact jD,lH⟩ hf);rw[show (Rx.un x s).kids.length=1 from rfl];have HE:Hid (dz s0 N (.un x s) f=lD f (dz s0 N s f)):=by show (if x.k=6 then _ else _:(Nat->Bool))=_;rw[if_pos hk]
 clear qy ie sr dr jD lH hk;go_wp2_with fail;refine (HI.o w5 (Below.refl _ _) f a c uR.o).mono ?_;rintro e w6 ⟨a6,c6,rfl,h6,b6⟩;have eJ:=eB.trans (b6.mono jE);have Ku:=hid (uR.o.below b6);go_wp2_with fail;refine (TQ f (dz s0 N s f) a a6 (N+1) c c6 w6 Ku.o h6 (by omega)).mono ?_;rintro e w7 ⟨a7,c7,rfl,h7,b7⟩;go_wp2;go_ret;exact⟨a7,c7,rfl,by rw[HE.o];exact Ow h7,eJ.trans (b7.mono eJ.size)⟩
theorem zkR(x:Pc)(s:Rx)(hk:x.k=4)(hw:((Rx.un x s)).wf)(ih:uo s):uo (.un x s):=by
 intro s0 N hs hN g off n cap w f a c hL hn dZ dq hF;obtain⟨m,hm⟩:=Ξ (n-1)
 have hpos:=(Rx.un x s).aZ;have dr:n=m+1:=by omega
 obtain⟨g',lF,e,hg,d0,-⟩:=hL.get m (by omega);simp at e;obtain⟨rfl,rfl⟩:=e;have oI:(Rx.un x s).flat[m]'(by omega)=x:=by
  have h1:=(Rx.un x s).j7;rw[hn,hm,List.getElem?_eq_getElem (by omega)] at h1;exact Option.some.inj h1
 rw[oI] at d0;have hB:ϐ w (w.alloc (.cells (madeCells #[.bool false] (N+1)) 4)):=(Below.refl _ _).alloc (Nat.le_refl _) _;have HC:=hid (Ew (.un x s) hw g off n cap _ (hL.below hB) hn dZ dq);have HB:=hid hB;have HF:=hid hF;have HK:=hid hk;have HS:=hid hs;have gP:=Cc N hN;have cQ:=hB.size;have en:(n:Int)-1=(m:Int):=by omega
 have ly:m<n:=by omega
 have tZ:n<=9223372036854775807:=by have:=dq.1;have:=dq.2;unfold maxLen at this;omega
 have Ac:s.flat.length<=1000000:=by
  have:(Rx.un x s).flat.length=s.flat.length+1:=by simp[Rx.flat]
  omega
 clear hL hn dq hB oI hw dr hm hpos hk hs hF;go_in;go_wp2_with fail;refine HC.o.mono ?_;rintro e w5 ⟨aL,cL,rfl,qy,b5⟩;have eB:=HB.o.trans (b5.mono cQ);have jE:=eB.size;have e0:=(eB.cell (p:=⟨g,off+m*5,none⟩) hg).trans d0;have uR:=hid (HF.o.below eB);have hk:=HK.o;have k0:(x.k == 0)=false:=by simp;omega
 have k1:(x.k == 1)=false:=by simp;omega
 have k2:(x.k == 2)=false:=by simp;omega
 have k3:(x.k == 3)=false:=by simp;omega
 have k6:(x.k == 6)=false:=by simp;omega
 have k4:(x.k == 4)=true:=by simp[hk]
 obtain⟨b,g1,o1,c1,rfl,ie,sr,_,eC,jD,lH⟩:=qy 0 (by show 0<1;decide);obtain⟨n1,dr⟩:=Ξ s.flat.length
 have t1:w5.cell? ⟨b,0,none⟩=some (.slice (some ⟨g1,o1,none⟩) n1 c1):=by rw[<-dr];exact ie
 have HI:=hid (fun (W:World) (bw:ϐ w5 W) (f:Nat->Bool) (a:Option Addr) (c:Nat) (hf:pN W a (N+1) f)=>ih s0 N HS.o hN g1 o1 n1 c1 W f a c (sr.below bw) dr (by omega) ⟨by rw[<-dr];exact jD,lH⟩ hf);rw[show (Rx.un x s).kids.length=1 from rfl];have HE:Hid (dz s0 N (.un x s) f=dI (dz s0 N s) (N+1) (N+1) f):=by show (if x.k=6 then _ else if x.k=4 then _ else _:(Nat->Bool))=_;rw[if_neg (by omega),if_pos hk]
 clear qy ie sr dr jD lH hk;go_wp2_with fail;refine (zeK (dz s0 N s) _ s0 N HS.o hN w5 (fun f a c W bw hf=>HI.o W bw f a c hf) f a c uR.o).mono ?_;rintro e w6 ⟨a6,c6,rfl,h6,b6⟩;go_wp2;go_ret;exact⟨a6,c6,rfl,by rw[HE.o];exact h6,eB.trans (b6.mono jE)⟩
theorem zkS(x:Pc)(hk:x.k=0)(hw:(Rx.leaf x).wf):uo (.leaf x):=by
 intro s0 N hs hN g off n cap w f a c hL hn dZ dq hF;obtain rfl:n=1:=by rw[<-hn];rfl
 obtain⟨g',lF,e,hg,d0,-⟩:=hL.get 0 (by simp[Rx.flat]);simp at e;obtain⟨rfl,rfl⟩:=e;have oI:(Rx.leaf x).flat[0]'(by simp[Rx.flat])=x:=rfl;rw[oI] at d0;simp only[Nat.zero_mul,Nat.add_zero] at d0;have hB:ϐ w (w.alloc (.cells (madeCells #[.bool false] (N+1)) 4)):=(Below.refl _ _).alloc (Nat.le_refl _) _;have HC:=hid (Ew (.leaf x) hw g off 1 cap _ (hL.below hB) hn dZ dq);have HB:=hid hB;have HF:=hid hF;have HK:=hid hk;have gP:=Cc N hN;have cQ:=hB.size;clear hL hn dq hB oI hw hk hs hF;go_in;go_wp2_with fail;refine HC.o.mono ?_;rintro e w5 ⟨aL,cL,rfl,qy,b5⟩;have eB:=HB.o.trans (b5.mono cQ);have e0:=(eB.cell (p:=⟨g,off,none⟩) hg).trans d0;have hk:=HK.o;have k0:(x.k == 0)=true:=by simp[hk]
 have HE:Hid (dz s0 N (.leaf x) f=f):=by show (if x.k=1 then _ else _:(Nat->Bool))=_;rw[if_neg (by omega)]
 clear qy hk;go_wp2;go_ret;exact⟨a,c,rfl,by rw[HE.o];exact HF.o.below eB,eB⟩
