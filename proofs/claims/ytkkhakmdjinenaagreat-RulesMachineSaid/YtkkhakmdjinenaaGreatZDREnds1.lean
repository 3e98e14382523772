import Derived.Test.YtkkhakmdjinenaaGreatZQThom
import Derived.StillTailTactics
import Derived.WalkSmall
set_option linter.all false
set_option maxHeartbeats 2000000
set_option maxRecDepth 100000
open Go.Lib (hid)
namespace Go.Proofs.YtkkhakmdjinenaaGreat
open Go.RowKit Go.Proofs.Tryz
def zqt(w:World)(a:Option Addr)(L:List (List Pc)):Prop:=
 ∀i (h:i<L.length),∃b g off c,a=some ⟨b,0,none⟩/\w.cell? ⟨b,i,none⟩=some (.slice (some ⟨g,off,none⟩) L[i].length c)/\ik w (some ⟨g,off,none⟩) L[i]/\1<=L[i].length/\b<w.heap.size/\L[i].length<=c/\c<=maxLen
theorem Dv(t:Rx)(ht:t.wf)(g off n cap:Nat)(w:World)(hL:ik w (some ⟨g,off,none⟩) t.flat)(hn:t.flat.length=n)(dG:n<=1000000)(dq:n<=cap/\cap<=maxLen):
  Calls prog 51 #[.slice (some ⟨g,off,none⟩) n cap] w fun e w'=>∃a c,e=.returned (.slice a t.kids.length c)/\zqt w' a t.kids/\Below w.heap.size w w':=by
 obtain⟨g',kJ,e,hg,tv⟩:=hL t.aZ;simp at e;obtain⟨rfl,rfl⟩:=e
 match t,ht,hL,hn with
 | .leaf x,ht,hL,hn=>
  refine (zhr x ht.1 g off n cap w hL (by rw[<-hn];rfl)).mono ?_;rintro e w' ⟨a,c,rfl,hO,b⟩;exact⟨a,c,rfl,fun i hi=>absurd hi (by simp[Rx.kids]),b⟩
 | .un x s,ht,hL,hn=>
  have hp:=s.aZ;have lC:s.flat.length+1=n:=by rw[<-hn];simp[Rx.flat]
  refine (zkO x s ht.2.2 ht.1 g off n cap w hL s.flat.length rfl lC.symm (by omega) dq).mono ?_;rintro e w' ⟨a,c,rfl,hO,b⟩;refine⟨a,c,rfl,?_,b⟩;obtain⟨gr,ha,_,ov,hc⟩:=eC hO (by simp);subst ha;intro i hi;have h0:i=0:=by simp[Rx.kids] at hi;omega
  subst h0;refine⟨gr,g,off,cap,rfl,(hc 0 (by simp)).1,?_,hp,ov,by show s.flat.length<=cap;omega,dq.2⟩;have hs:ik w (some ⟨g,off,none⟩) s.flat:=fun _=>⟨g,off,rfl,hg,fun j hj=>by
   rw[tv j (by simp[Rx.flat] at hj⊢;omega)]
   show (eJ (s.flat++[x]))[j]?=_
   rw[ER,List.getElem?_append_left (by rw[Gg];exact hj)]⟩
  exact hs.below b
 | .bin x s u,ht,hL,hn=>
  have hp:=s.aZ;have fO:=u.aZ;have lC:s.flat.length+u.flat.length+1=n:=by rw[<-hn];simp[Rx.flat];omega
  refine (zjI x s u ht.2.2.1 ht.2.2.2 ht.1 g off n cap w hL s.flat.length u.flat.length rfl rfl lC.symm (by omega) dq).mono ?_;rintro e w' ⟨a,c,rfl,hO,b⟩;refine⟨a,c,rfl,?_,b⟩;obtain⟨gr,ha,_,ov,hc⟩:=eC hO (by simp);subst ha;have hs:ik w (some ⟨g,off,none⟩) s.flat:=fun _=>⟨g,off,rfl,hg,fun j hj=>by
   rw[tv j (by simp[Rx.flat] at hj⊢;omega)]
   show (eJ (s.flat++(u.flat++[x])))[j]?=_
   rw[ER,List.getElem?_append_left (by rw[Gg];exact hj)]⟩
  have hu:ik w (some ⟨g,off+s.flat.length*5,none⟩) u.flat:=fun _=>⟨g,_,rfl,hg,fun j hj=>by
   have h1:=tv (s.flat.length*5+j) (by simp[Rx.flat] at hj⊢;omega)
   rw[show off+s.flat.length*5+j=off+(s.flat.length*5+j) by omega,h1]
   show (eJ (s.flat++(u.flat++[x])))[_]?=_
   have e5:=Gg s.flat
   have e6:=Gg u.flat
   rw[ER,List.getElem?_append_right (by omega),ER,List.getElem?_append_left (by omega)]
   congr 1
   omega⟩
  intro i hi;have h2:i=0\/i=1:=by simp[Rx.kids] at hi;omega
  rcases h2 with rfl|rfl
  ·exact⟨gr,g,off,cap,rfl,(hc 0 (by simp)).1,hs.below b,hp,ov,by show s.flat.length<=cap;omega,dq.2⟩
  exact⟨gr,g,_,_,rfl,(hc 1 (by simp)).1,hu.below b,fO,ov,by show u.flat.length<=cap-s.flat.length;omega,by have:=dq.2;omega⟩
theorem OQ(f h:Nat->Bool)(a1 a2:Option Addr)(n c1 c2:Nat)(w:World)(h1:pd w a1 n f)(h2:pd w a2 n h)(dG:n<=100000):
  Calls prog 53 #[.slice a1 n c1,.slice a2 n c2] w fun e w'=>∃a c,e=.returned (.slice a n c)/\w'.ownsRow w.heap.size 4 1 (.slice a n c) n (fG (fun j=>f j || h j) n)/\Below w.heap.size w w':=by
 obtain⟨i0,hi,dv,cP,cG⟩:=info_parts ke;have H1:=hid h1;have H2:=hid h2;clear h1 h2;go_in;go_wp2;go_loopw [5,6] (fun v i wr=>∃k:Nat,i=.int .i64 k/\k<=n/\Hid (wr.ownsRow w.heap.size 4 1 v k (fG (fun j=>f j || h j) k))/\Below w.heap.size w wr) (fun _ i _=>n-(intOf i).toNat)
 ·exact⟨0,rfl,Nat.zero_le _,World.ownsRow_nil _ _ _ _,Below.refl _ _⟩
 obtain⟨k,rfl,hk,HO,bp⟩:=hrel;obtain⟨a3,c3,rfl⟩:=bP HO.out;by_cases aq:k<n
 ·obtain⟨g1,o1,rfl,l7,gZ⟩:=(H1.out.below bp) (by omega);obtain⟨g2,o2,rfl,yR,fB⟩:=(H2.out.below bp) (by omega);have d1:=gZ k aq;have d2:=fB k aq;have hO:=HO.out;have dc:=bp.size;obtain⟨r,hr⟩:∃r,(f k || h k)=r:=⟨_,rfl⟩
  have HZ:Hid (fG (fun j=>f j || h j) (k+1)=fG (fun j=>f j || h j) k++[.bool r]):=by show _=_;rw[VB];simp only[hr]
  obtain⟨L,hL⟩:∃L,fG (fun j=>f j || h j) k=L:=⟨_,rfl⟩
  rw[hL] at hO HZ;obtain⟨x,hx⟩:∃x,f k=x:=⟨_,rfl⟩
  obtain⟨y,hy⟩:∃y,h k=y:=⟨_,rfl⟩
  rw[hx] at d1 hr;rw[hy] at d2 hr;clear gZ fB hL hx hy HO;rcases x with _|_
  ·obtain rfl:y=r:=(by simpa using hr);clear hr;go_wp2_with (at_builtin;refine wpList_append_own _ rfl _ _ 64 rfl w.heap.size 4 i0 (.bool false) 1 1 underlying64 hi dv cP cG rfl (by decide) _ _ _ rfl (hO.alloc _) ⟨wr.heap.size,0,none⟩ 1 1 [.bool y] rfl rfl (cell_one_new _ _ _) ?d2 ?d3 ?d4 ?d5 ?_)
   case d2=>intro u hu;simp at hu;subst hu;rfl
   case d3=>unfold maxLen;omega
   case d4=>omega
   case d5=>simp;omega
   intro v' w5 ah ag _;have eu:=bp.trans (((Below.refl _ wr).alloc dc (.cells #[.bool y] 4)).trans (EK ag (hO.alloc _) (by simp;omega)));have rz:Hid (w5.ownsRow w.heap.size 4 1 v' (k+1) (fG (fun j=>f j || h j) (k+1))):=(by show World.ownsRow _ _ _ _ _ _ _;rw[HZ.out];exact ah);clear ah ag hO;go_wp2;go_roundw
   ·exact⟨k+1,by go_num,by omega,rz,eu⟩
   simp[intOf];omega
  obtain rfl:true=r:=by simpa using hr
  clear hr;go_wp2_with (at_builtin;refine wpList_append_own _ rfl _ _ 64 rfl w.heap.size 4 i0 (.bool false) 1 1 underlying64 hi dv cP cG rfl (by decide) _ _ _ rfl (hO.alloc _) ⟨wr.heap.size,0,none⟩ 1 1 [.bool true] rfl rfl (cell_one_new _ _ _) ?d2 ?d3 ?d4 ?d5 ?_)
  case d2=>intro u hu;simp at hu;subst hu;rfl
  case d3=>unfold maxLen;omega
  case d4=>omega
  case d5=>simp;omega
  intro v' w5 ah ag _;have eu:=bp.trans (((Below.refl _ wr).alloc dc (.cells #[.bool true] 4)).trans (EK ag (hO.alloc _) (by simp;omega)));have rz:Hid (w5.ownsRow w.heap.size 4 1 v' (k+1) (fG (fun j=>f j || h j) (k+1))):=by show World.ownsRow _ _ _ _ _ _ _;rw[HZ.out];exact ah
  clear ah ag hO;go_wp2;go_roundw
  ·exact⟨k+1,by go_num,by omega,rz,eu⟩
  simp[intOf];omega
 obtain rfl:k=n:=by omega
 go_wp2;go_ret;exact⟨a3,c3,rfl,HO.out,bp⟩
def lj(f h:Nat->Bool):Nat->Bool:=fun j=>f j || h j
def iY(f h:Nat->Bool):Nat->Bool
 | 0=>true
 | n+1=>iY f h n && (f n == h n)
def dK(E:(Nat->Bool)->Nat->Bool)(n:Nat):Nat->(Nat->Bool)->Nat->Bool
 | 0,f=>f
 | k+1,f=>if iY (lj f (E f)) f n=true then lj f (E f) else dK E n k (lj f (E f))
def PT(n:Nat)(h:Nat->Bool)(w:World)(e:Ending)(w':World):Prop:=∃a c,e=.returned (.slice a n c)/\pd w' a n h/\Below w.heap.size w w'
theorem XL(E:(Nat->Bool)->Nat->Bool)(vr:Value)(s:ByteArray)(N:Nat)(hs:s.size=N)(hN:N<=99998)(w:World)
  (hE:∀f a c W,Below w.heap.size w W->pd W a (N+1) f->Calls prog 33 #[vr,.string s,.slice a (N+1) c] W (PT (N+1) (E f) W))
  (f0:Nat->Bool) (a0:Option Addr) (c0:Nat) (h0:pd w a0 (N+1) f0):
  Calls prog 54 #[vr,.string s,.slice a0 (N+1) c0] w (PT (N+1) (dK E (N+1) (N+1) f0) w):=by
 have HE:=hid hE;have H0:=hid h0;have HS:=hid hs;obtain⟨R,hR⟩:∃R,dK E (N+1) (N+1) f0=R:=⟨_,rfl⟩
 rw[hR];have HR:=hid hR;clear hE h0 hR;go_in;go_wp2;go_loopw [2,7] (fun v i wr=>∃(q:Nat) (f:Nat->Bool) (a:Option Addr) (c:Nat),i=.int .i64 q/\q<=N+1/\v=.slice a (N+1) c/\Hid (pd wr a (N+1) f)/\Hid (dK E (N+1) (N+1-q) f=R)/\Below w.heap.size w wr) (fun _ i _=>N+2-(intOf i).toNat)
 ·exact⟨0,f0,a0,c0,rfl,Nat.zero_le _,rfl,H0.out,by show _=_;rw[Nat.sub_zero];exact HR.out,Below.refl _ _⟩
 obtain⟨q,f,a,c,rfl,hq,rfl,HB,HG,bp⟩:=hrel;by_cases aq:q<=N
 ·have dc:=bp.size;go_wp2_with fail;refine (HE.out f a c wr bp HB.out).mono ?_;rintro e w5 ⟨a5,c5,rfl,h5,b5⟩;have QT:=HB.out.below b5;have ku:=bp.trans (b5.mono dc);go_wp2_with fail;refine (OQ f (E f) a a5 (N+1) c c5 w5 QT h5 (by omega)).mono ?_;rintro e w6 ⟨a6,c6,rfl,Zr,b6⟩;have eU:=ku.trans (b6.mono ku.size);have hs6:=eU.size;have zm:Hid (dK E (N+1) (N+1-q) f=if iY (lj f (E f)) f (N+1)=true then lj f (E f) else dK E (N+1) (N-q) (lj f (E f))):=by
   show _=_;rw[show N+1-q=(N-q)+1 by omega];rfl
  have h6:pd w6 a6 (N+1) (lj f (E f)):=Ix Zr;obtain⟨g,hg⟩:∃g,lj f (E f)=g:=⟨_,rfl⟩
  rw[hg] at zm h6;have H6:=hid h6;have IC:=hid (QT.below b6);have Ay:=hid eU;clear Zr h6 QT hg h5 b5 b6 ku HB bp eU;go_wp2;go_loopw [9,10] (fun v i wx=>∃j:Nat,i=.int .i64 j/\j<=N+1/\v=.bool (iY g f j)/\Hid (Below w6.heap.size w6 wx)) (fun _ i _=>N+1-(intOf i).toNat)
  ·exact⟨0,rfl,Nat.zero_le _,rfl,Below.refl _ _⟩
  obtain⟨j,rfl,hj,rfl,HX⟩:=hrel;by_cases hjn:j<N+1
  ·obtain⟨g1,o1,rfl,l7,gZ⟩:=(H6.out.below HX.out) (by omega);obtain⟨g2,o2,rfl,yR,fB⟩:=(IC.out.below HX.out) (by omega);have d1:=gZ j hjn;have d2:=fB j hjn;have CQ:Hid (iY g f (j+1)=(iY g f j && (g j == f j))):=hid rfl;obtain⟨b,hb⟩:∃b,iY g f j=b:=(⟨_,rfl⟩);rw[hb] at CQ⊢;obtain⟨x,hx⟩:∃x,g j=x:=(⟨_,rfl⟩);obtain⟨y,hy⟩:∃y,f j=y:=(⟨_,rfl⟩);rw[hx] at d1 CQ;rw[hy] at d2 CQ;clear gZ fB hb hx hy;go_wp2_with fail;rcases b with _|_
   ·go_quiet (fail);go_wp2;go_roundw
    ·exact⟨j+1,by go_num,by omega,by rw[CQ.out];simp,below_drewN HX.out _⟩
    simp[intOf];omega
   go_quiet (fail);go_wp2;go_roundw
   ·exact⟨j+1,by go_num,by omega,by rw[CQ.out];simp,below_drewN HX.out _⟩
   simp[intOf];omega
  obtain rfl:j=N+1:=by omega
  have ME:=Ay.out.trans (HX.out.mono hs6);obtain⟨b,hb⟩:∃b,iY g f (N+1)=b:=⟨_,rfl⟩
  rw[hb] at zm⊢;clear hb;rcases b with _|_
  ·have HZ:Hid (dK E (N+1) (N-q) g=R):=(by show _=_;rw[<-HG.out,zm.out];simp);have PL:=hid ME;clear ME;go_wp2;go_roundw
   ·exact⟨q+1,g,a6,c6,by go_num,by omega,rfl,H6.out.below HX.out,by show _=_;rw[show N+1-(q+1)=N-q by omega];exact HZ.out,PL.out⟩
   simp[intOf];omega
  have HZ:Hid (g=R):=by show _=_;rw[<-HG.out,zm.out];simp
  have PL:=hid ME;clear ME;go_wp2;go_ret;exact⟨a6,c6,rfl,by rw[<-HZ.out];exact H6.out.below HX.out,PL.out⟩
 obtain rfl:q=N+1:=by omega
 have HZ:Hid (f=R):=by
  show _=_;have:=HG.out;rw[Nat.sub_self] at this;exact this
 go_wp2;go_ret;exact⟨a,c,rfl,by rw[<-HZ.out];exact HB.out,bp⟩
def dC(s:ByteArray)(N:Nat):Rx->(Nat->Bool)->Nat->Bool
 | .leaf x=>fun f=>if x.k=1 then fun j=>match j with|0=>false|i+1=>f i && x.p (s.get! i).toNat else f
 | .un x a=>fun f=>if x.k=6 then lj f (dC s N a f) else if x.k=4 then dK (dC s N a) (N+1) (N+1) f else dK (dC s N a) (N+1) (N+1) (dC s N a f)
 | .bin x a b=>fun f=>if x.k=2 then dC s N b (dC s N a f) else lj (dC s N a f) (dC s N b f)
def tr(t:Rx):Prop:=∀(s:ByteArray) (N:Nat),s.size=N->N<=99998->∀(g off n cap:Nat) (w:World) (f:Nat->Bool) (a:Option Addr) (c:Nat),ik w (some ⟨g,off,none⟩) t.flat->t.flat.length=n->n<=1000000->n<=cap/\cap<=maxLen->pd w a (N+1) f->
 Calls prog 33 #[.slice (some ⟨g,off,none⟩) n cap,.string s,.slice a (N+1) c] w (PT (N+1) (dC s N t f) w)
theorem Ba(N:Nat)(hN:N<=99998)(W:World):(Instr.makeSlice 64 (.int .i64 ((N:Int)+1)) (.int .i64 ((N:Int)+1))).run prog W=.ok (.slice (some ⟨W.heap.size,0,none⟩) (N+1) (N+1)) (W.alloc (.cells (madeCells #[.bool false] (N+1)) 4)):=by
 have:=run_make_row' (P:=prog) 64 4 (.bool false) 1 underlying64 ke rfl .i64 .i64 (N+1) (by omega) (by omega) W;simpa using this
theorem zmU(x:Pc)(s:Rx)(hk:x.k=6)(hw:((Rx.un x s)).wf)(ih:tr s):tr (.un x s):=by
 intro s0 N hs hN g off n cap w f a c hL hn dG dq hF;obtain⟨m,hm⟩:∃m,n-1=m:=⟨_,rfl⟩
 have hpos:=(Rx.un x s).aZ;have da:n=m+1:=by omega
 obtain⟨g',kJ,e,hg,d0,-⟩:=hL.get m (by omega);simp at e;obtain⟨rfl,rfl⟩:=e;have nU:(Rx.un x s).flat[m]'(by omega)=x:=by
  have h1:=(Rx.un x s).jL;rw[hn,hm,List.getElem?_eq_getElem (by omega)] at h1;exact Option.some.inj h1
 rw[nU] at d0;have hB:Below w.heap.size w (w.alloc (.cells (madeCells #[.bool false] (N+1)) 4)):=(Below.refl _ _).alloc (Nat.le_refl _) _;have HC:=hid (Dv (.un x s) hw g off n cap _ (hL.below hB) hn dG dq);have HB:=hid hB;have HF:=hid hF;have HK:=hid hk;have HS:=hid hs;have fJ:=Ba N hN;have dc:=hB.size;have en:(n:Int)-1=(m:Int):=by omega
 have jl:m<n:=by omega
 have tv:n<=9223372036854775807:=by have:=dq.1;have:=dq.2;unfold maxLen at this;omega
 have zr:s.flat.length<=1000000:=by
  have:(Rx.un x s).flat.length=s.flat.length+1:=by simp[Rx.flat]
  omega
 clear hL hn dq hB nU hw da hm hpos hk hs hF;go_in;go_wp2_with fail;refine HC.out.mono ?_;rintro e w5 ⟨aL,cL,rfl,pt,b5⟩;have eu:=HB.out.trans (b5.mono dc);have jv:=eu.size;have e0:=(eu.cell (p:=⟨g,off+m*5,none⟩) hg).trans d0;have wZ:=hid (HF.out.below eu);have hk:=HK.out;have k0:(x.k == 0)=false:=by simp;omega
 have k1:(x.k == 1)=false:=by simp;omega
 have k2:(x.k == 2)=false:=by simp;omega
 have k3:(x.k == 3)=false:=by simp;omega
 have k6:(x.k == 6)=true:=by simp[hk]
 obtain⟨b,g1,o1,c1,rfl,gZ,rf,_,gE,jd,ly⟩:=pt 0 (by show 0<1;decide);obtain⟨n1,da⟩:∃n1,s.flat.length=n1:=⟨_,rfl⟩
 have t1:w5.cell? ⟨b,0,none⟩=some (.slice (some ⟨g1,o1,none⟩) n1 c1):=by rw[<-da];exact gZ
 have HI:=hid (fun (W:World) (bw:Below w5.heap.size w5 W) (f:Nat->Bool) (a:Option Addr) (c:Nat) (hf:pd W a (N+1) f)=>ih s0 N HS.out hN g1 o1 n1 c1 W f a c (rf.below bw) da (by omega) ⟨by rw[<-da];exact jd,ly⟩ hf);rw[show (Rx.un x s).kids.length=1 from rfl];have HE:Hid (dC s0 N (.un x s) f=lj f (dC s0 N s f)):=by show (if x.k=6 then _ else _:(Nat->Bool))=_;rw[if_pos hk]
 clear pt gZ rf da jd ly hk;go_wp2_with fail;refine (HI.out w5 (Below.refl _ _) f a c wZ.out).mono ?_;rintro e w6 ⟨a6,c6,rfl,h6,b6⟩;have eU:=eu.trans (b6.mono jv);have IC:=hid (wZ.out.below b6);go_wp2_with fail;refine (OQ f (dC s0 N s f) a a6 (N+1) c c6 w6 IC.out h6 (by omega)).mono ?_;rintro e w7 ⟨a7,c7,rfl,h7,b7⟩;go_wp2;go_ret;exact⟨a7,c7,rfl,by rw[HE.out];exact Ix h7,eU.trans (b7.mono eU.size)⟩
theorem zkP(x:Pc)(s:Rx)(hk:x.k=4)(hw:((Rx.un x s)).wf)(ih:tr s):tr (.un x s):=by
 intro s0 N hs hN g off n cap w f a c hL hn dG dq hF;obtain⟨m,hm⟩:∃m,n-1=m:=⟨_,rfl⟩
 have hpos:=(Rx.un x s).aZ;have da:n=m+1:=by omega
 obtain⟨g',kJ,e,hg,d0,-⟩:=hL.get m (by omega);simp at e;obtain⟨rfl,rfl⟩:=e;have nU:(Rx.un x s).flat[m]'(by omega)=x:=by
  have h1:=(Rx.un x s).jL;rw[hn,hm,List.getElem?_eq_getElem (by omega)] at h1;exact Option.some.inj h1
 rw[nU] at d0;have hB:Below w.heap.size w (w.alloc (.cells (madeCells #[.bool false] (N+1)) 4)):=(Below.refl _ _).alloc (Nat.le_refl _) _;have HC:=hid (Dv (.un x s) hw g off n cap _ (hL.below hB) hn dG dq);have HB:=hid hB;have HF:=hid hF;have HK:=hid hk;have HS:=hid hs;have fJ:=Ba N hN;have dc:=hB.size;have en:(n:Int)-1=(m:Int):=by omega
 have jl:m<n:=by omega
 have tv:n<=9223372036854775807:=by have:=dq.1;have:=dq.2;unfold maxLen at this;omega
 have zr:s.flat.length<=1000000:=by
  have:(Rx.un x s).flat.length=s.flat.length+1:=by simp[Rx.flat]
  omega
 clear hL hn dq hB nU hw da hm hpos hk hs hF;go_in;go_wp2_with fail;refine HC.out.mono ?_;rintro e w5 ⟨aL,cL,rfl,pt,b5⟩;have eu:=HB.out.trans (b5.mono dc);have jv:=eu.size;have e0:=(eu.cell (p:=⟨g,off+m*5,none⟩) hg).trans d0;have wZ:=hid (HF.out.below eu);have hk:=HK.out;have k0:(x.k == 0)=false:=by simp;omega
 have k1:(x.k == 1)=false:=by simp;omega
 have k2:(x.k == 2)=false:=by simp;omega
 have k3:(x.k == 3)=false:=by simp;omega
 have k6:(x.k == 6)=false:=by simp;omega
 have k4:(x.k == 4)=true:=by simp[hk]
 obtain⟨b,g1,o1,c1,rfl,gZ,rf,_,gE,jd,ly⟩:=pt 0 (by show 0<1;decide);obtain⟨n1,da⟩:∃n1,s.flat.length=n1:=⟨_,rfl⟩
 have t1:w5.cell? ⟨b,0,none⟩=some (.slice (some ⟨g1,o1,none⟩) n1 c1):=by rw[<-da];exact gZ
 have HI:=hid (fun (W:World) (bw:Below w5.heap.size w5 W) (f:Nat->Bool) (a:Option Addr) (c:Nat) (hf:pd W a (N+1) f)=>ih s0 N HS.out hN g1 o1 n1 c1 W f a c (rf.below bw) da (by omega) ⟨by rw[<-da];exact jd,ly⟩ hf);rw[show (Rx.un x s).kids.length=1 from rfl];have HE:Hid (dC s0 N (.un x s) f=dK (dC s0 N s) (N+1) (N+1) f):=by show (if x.k=6 then _ else if x.k=4 then _ else _:(Nat->Bool))=_;rw[if_neg (by omega),if_pos hk]
 clear pt gZ rf da jd ly hk;go_wp2_with fail;refine (XL (dC s0 N s) _ s0 N HS.out hN w5 (fun f a c W bw hf=>HI.out W bw f a c hf) f a c wZ.out).mono ?_;rintro e w6 ⟨a6,c6,rfl,h6,b6⟩;go_wp2;go_ret;exact⟨a6,c6,rfl,by rw[HE.out];exact h6,eu.trans (b6.mono jv)⟩
theorem zkQ(x:Pc)(hk:x.k=0)(hw:(Rx.leaf x).wf):tr (.leaf x):=by
 intro s0 N hs hN g off n cap w f a c hL hn dG dq hF;obtain rfl:n=1:=by rw[<-hn];rfl
 obtain⟨g',kJ,e,hg,d0,-⟩:=hL.get 0 (by simp[Rx.flat]);simp at e;obtain⟨rfl,rfl⟩:=e;have nU:(Rx.leaf x).flat[0]'(by simp[Rx.flat])=x:=rfl;rw[nU] at d0;simp only[Nat.zero_mul,Nat.add_zero] at d0;have hB:Below w.heap.size w (w.alloc (.cells (madeCells #[.bool false] (N+1)) 4)):=(Below.refl _ _).alloc (Nat.le_refl _) _;have HC:=hid (Dv (.leaf x) hw g off 1 cap _ (hL.below hB) hn dG dq);have HB:=hid hB;have HF:=hid hF;have HK:=hid hk;have fJ:=Ba N hN;have dc:=hB.size;clear hL hn dq hB nU hw hk hs hF;go_in;go_wp2_with fail;refine HC.out.mono ?_;rintro e w5 ⟨aL,cL,rfl,pt,b5⟩;have eu:=HB.out.trans (b5.mono dc);have e0:=(eu.cell (p:=⟨g,off,none⟩) hg).trans d0;have hk:=HK.out;have k0:(x.k == 0)=true:=by simp[hk]
 have HE:Hid (dC s0 N (.leaf x) f=f):=by show (if x.k=1 then _ else _:(Nat->Bool))=_;rw[if_neg (by omega)]
 clear pt hk;go_wp2;go_ret;exact⟨a,c,rfl,by rw[HE.out];exact HF.out.below eu,eu⟩
