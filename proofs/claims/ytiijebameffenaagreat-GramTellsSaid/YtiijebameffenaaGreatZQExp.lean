import Derived.Test.YtiijebameffenaaGreatZPParse
import Derived.Test.YtiijebameffenaaGreatZQEof
set_option linter.all false
set_option maxHeartbeats 4000000
set_option maxRecDepth 100000
open Go.Lib (hid)
namespace Go.Proofs.YtiijebameffenaaGreat
open Go.RowKit Go.Proofs.Tryz
open Act (put)
variable {B c n:Nat}{a:Option Addr}{atom:bI->Option bI}{k:Int}{l r:List Nat}{w:World}
theorem ziE(p:Nat->Bool)(h:eh p=true):∀b,b<256->p b=false:=by
 intro b hb;have e:ca p 256=[]:=List.length_eq_zero_iff.1 (by simpa [eh] using h);rcases hp:p b with _|_
 ·rfl
 have:=(J7 p 256 b).2 ⟨hb,hp⟩;rw[e] at this;simp at this
def nN(l:List Nat):Prop:=∀x∈l,x<256
theorem nN.drop(h:nN l)(k:Nat):nN (l.drop k):=fun x hx=>h x (List.mem_of_mem_drop hx)
theorem nN.tail(h:nN (c :: l)):nN l:=fun x hx=>h x (List.mem_cons_of_mem _ hx)
theorem nN.skip{s:List Nat}(h:nN s)(e:aG c s=some r):nN r:=by
 have:=uL e;subst this;exact h.tail
def B9(b:List Pc)(s':bI):Prop:=(∃t:Rx,t.wf/\s'.1=b++t.flat)/\nN s'.2
def tX(g:bI->Option bI):Prop:=∀s s',nN s.2->g s=some s'->B9 s.1 s'
theorem VI{p:Nat->Bool}{b:Nat}(hb:b<256)(h:p b=true):eh p=false:=by
 cases e:eh p with
 | false=>rfl
 | true=>exact absurd (ziE p e b hb) (by rw[h];decide)
theorem XA:eh bE=true:=by decide +kernel
theorem zke:eh (fun _=>true)=false:=VI (b:=0) (by omega) rfl
theorem O7{p:Nat->Bool}(h:eh p=false):(Rx.leaf ⟨1,p⟩).wf:=⟨by show aI 1=0;decide,by unfold iO;rw[h];rfl⟩
theorem zl3:(Rx.leaf ⟨0,bE⟩).wf:=⟨by show aI 0=0;decide,by unfold iO;rw[XA];rfl⟩
theorem Hs(hk:(k == 1)=false):iO ⟨k,bE⟩=true:=by
 unfold iO;rw[XA];show (true != (k == 1))=true;rw[hk];rfl
theorem zl4(h:ia c=some k):aI k=1/\iO ⟨k,bE⟩=true:=by
 unfold ia at h;split at h
 ·injection h with h;subst h;exact⟨by decide,Hs rfl⟩
 split at h
 ·injection h with h;subst h;exact⟨by decide,Hs rfl⟩
 split at h
 ·injection h with h;subst h;exact⟨by decide,Hs rfl⟩
 cases h
theorem ziF:∀(r:List Nat) (b acc:List Pc),nN r->(∃t:Rx,t.wf/\acc=b++t.flat)->B9 b (cU r acc):=by
 intro r
 induction r with
 | nil=>intro b acc h ht;exact⟨ht,h⟩
 | cons c r ih=>
  intro b acc h ht
  show B9 b (match ia c with|some k=>cU r (acc++[⟨k,bE⟩])|none=>(acc,c :: r))
  cases hs:ia c with
  | none=>exact⟨ht,h⟩
  | some k=>
   obtain⟨t,hw,e⟩:=ht;have hk:=zl4 hs;exact ih b _ h.tail ⟨.un ⟨k,bE⟩ t,⟨hk.1,hk.2,hw⟩,by rw[e];simp[Rx.flat]⟩
theorem R5(h:tX atom):tX (dQ atom):=by
 intro s s' hb e;unfold dQ at e;cases ha:atom s with
 | none=>rw[ha] at e;cases e
 | some x=>
  rw[ha] at e;injection e with e;subst e;have:=h s x hb ha;exact ziF x.2 s.1 x.1 this.2 this.1
theorem ziG(h:tX atom):∀(f:Nat) (b:List Pc) (s s':bI),B9 b s->bQ atom f s=some s'->B9 b s':=by
 intro f
 induction f with
 | zero=>intro b s s' _ e;cases e
 | succ f ih=>
  intro b s s' hg e;unfold bQ at e;split at e
  ·injection e with e;subst e;exact hg
  cases ha:dQ atom s with
  | none=>rw[ha] at e;cases e
  | some x=>
   simp only[ha] at e;obtain⟨⟨u,hu,e1⟩,kT⟩:=R5 h s x hg.2 ha;obtain⟨⟨t,ht,e2⟩,_⟩:=hg;refine ih b (x.1++[⟨2,bE⟩],x.2) s' ⟨⟨.bin ⟨2,bE⟩ t u,⟨by decide,Hs rfl,ht,hu⟩,?_⟩,kT⟩ e;show x.1++[⟨2,bE⟩]=_;rw[e1,e2];simp[Rx.flat]
theorem SN(h:tX atom):tX (dT atom):=by
 intro s s' hb e;unfold dT at e;cases ha:dQ atom s with
 | none=>rw[ha] at e;cases e
 | some x=>
  rw[ha] at e;exact ziG h _ s.1 x s' (R5 h s x hb ha) e
theorem ziH(h:tX atom):∀(f:Nat) (b:List Pc) (s s':bI),B9 b s->bS atom f s=some s'->B9 b s':=by
 intro f
 induction f with
 | zero=>intro b s s' _ e;cases e
 | succ f ih=>
  intro b s s' hg e
  unfold bS at e
  cases hk:aG 124 s.2 with
  | none=>rw[hk] at e;injection e with e;subst e;exact hg
  | some r=>
   simp only[hk] at e
   cases ha:dT atom (s.1,r) with
   | none=>simp only[ha] at e;cases e
   | some x=>
    simp only[ha] at e;obtain⟨⟨u,hu,e1⟩,kT⟩:=SN h (s.1,r) x (hg.2.skip hk) ha;obtain⟨⟨t,ht,e2⟩,_⟩:=hg;refine ih b (x.1++[⟨3,bE⟩],x.2) s' ⟨⟨.bin ⟨3,bE⟩ t u,⟨by decide,Hs rfl,ht,hu⟩,?_⟩,kT⟩ e;show x.1++[⟨3,bE⟩]=_;rw[e1];show (s.1++u.flat)++_=_;rw[e2];simp[Rx.flat]
theorem XF(h:tX atom):tX (dc atom):=by
 intro s s' hb e;unfold dc at e;cases ha:dT atom s with
 | none=>rw[ha] at e;cases e
 | some x=>
  rw[ha] at e;exact ziH h _ s.1 x s' (SN h s x hb ha) e
theorem ziI(h:tX atom):tX (fJ atom):=by
 intro s s' hb e;unfold fJ at e;cases ha:dc atom s with
 | none=>rw[ha] at e;cases e
 | some x=>
  rw[ha] at e
  have hx:=XF h s x hb ha
  cases hk:aG 41 x.2 with
  | none=>simp only[hk] at e;cases e
  | some r=>
   simp only[hk] at e;injection e with e;subst e;exact⟨hx.1,hx.2.skip hk⟩
theorem QF{sp:ByteArray}{s:List Nat}(hb:nN s)(h:bu sp s=some (c,r)):c<256/\nN r:=by
 unfold bu at h;split at h
 ·injection h with h;injection h with h1 h2;subst h1 h2;exact⟨(Ot s hb).1,hb.drop _⟩
 cases h
theorem Z2{s:List Nat}{a:Nat}(hb:nN s)(h:dK s=some (a,c,r)):nN r:=by
 unfold dK at h;cases h1:bu eY s with
 | none=>rw[h1] at h;cases h
 | some x=>
  obtain⟨a1,r1⟩:=x
  rw[h1] at h
  have Er:=(QF hb h1).2
  cases h2:aG 45 r1 with
  | none=>simp only[h2] at h;injection h with h;injection h with _ h;injection h with _ h;subst h;exact Er
  | some r2=>
   simp only[h2] at h
   cases h3:bu eY r2 with
   | none=>simp only[h3] at h;cases h
   | some y=>
    obtain⟨c1,r3⟩:=y;simp only[h3] at h;split at h
    ·injection h with h;injection h with _ h;injection h with _ h;subst h;exact (QF (Er.skip h2) h3).2
    cases h
theorem T9:∀(f:Nat) (q:Nat->Bool) (s:List Nat) (q':Nat->Bool) (r:List Nat),nN s->aO f q s=some (q',r)->nN r:=by
 intro f
 induction f with
 | zero=>intro q s q' r _ h;cases h
 | succ f ih=>
  intro q s q' r hb h
  unfold aO at h
  cases h1:aG 93 s with
  | some r1=>simp only[h1] at h;injection h with h;injection h with _ h;subst h;exact hb.skip h1
  | none=>
   simp only[h1] at h
   cases h2:dK s with
   | none=>simp only[h2] at h;cases h
   | some y=>
    obtain⟨a,c,r1⟩:=y;simp only[h2] at h;exact ih _ r1 q' r (Z2 hb h2) h
theorem zl5{s:List Nat}{q:Nat->Bool}(hb:nN s)(h:eW s=some (q,r)):eh q=false/\nN r:=by
 unfold eW at h;cases h1:aG 94 s with
 | some r1=>
  simp only[h1] at h
  cases h2:aO (r1.length+1) bE r1 with
  | none=>simp only[h2] at h;cases h
  | some y=>
   obtain⟨q1,r2⟩:=y;simp only[h2] at h;split at h
   ·cases h
   rename_i hn;injection h with h;injection h with e1 e2;subst e1 e2;exact⟨by simpa using hn,T9 _ _ _ _ _ (hb.skip h1) h2⟩
 | none=>
  simp only[h1] at h
  cases h2:aO (s.length+1) bE s with
  | none=>simp only[h2] at h;cases h
  | some y=>
   obtain⟨q1,r2⟩:=y;simp only[h2] at h;split at h
   ·cases h
   rename_i hn;injection h with h;injection h with e1 e2;subst e1 e2;exact⟨by simpa using hn,T9 _ _ _ _ _ hb h2⟩
theorem V1{group:bI->Option bI}(h:tX group):tX (gd group):=by
 intro s s' hb e;unfold gd at e;cases h1:aG 46 s.2 with
 | some r=>
  simp only[h1] at e;injection e with e;subst e;exact⟨⟨.leaf ⟨1,fun _=>true⟩,O7 zke,rfl⟩,hb.skip h1⟩
 | none=>
  simp only[h1] at e
  cases h2:aG 126 s.2 with
  | some r=>
   simp only[h2] at e;injection e with e;subst e;exact⟨⟨.leaf ⟨0,bE⟩,zl3,rfl⟩,hb.skip h2⟩
  | none=>
   simp only[h2] at e
   cases h3:aG 40 s.2 with
   | some r=>
    simp only[h3] at e;exact h (s.1,r) s' (hb.skip h3) e
   | none=>
    simp only[h3] at e
    cases h4:aG 91 s.2 with
    | some r=>
     simp only[h4] at e
     cases h5:eW r with
     | none=>simp only[h5] at e;cases e
     | some y=>
      obtain⟨q,r1⟩:=y;simp only[h5] at e;injection e with e;subst e;have:=zl5 (hb.skip h4) h5;exact⟨⟨.leaf ⟨1,q⟩,O7 this.1,rfl⟩,this.2⟩
    | none=>
     simp only[h4] at e
     cases h5:bu uA s.2 with
     | none=>simp only[h5] at e;cases e
     | some y=>
      obtain⟨c,r⟩:=y;simp only[h5] at e;injection e with e;subst e;have:=QF hb h5;exact⟨⟨.leaf ⟨1,iT (fun _=>c) 1⟩,O7 (VI this.1 ((NN _ 1 c).2 ⟨0,by omega,rfl⟩)),rfl⟩,this.2⟩
theorem zl6:∀D,tX (eZ D):=by
 intro D
 induction D with
 | zero=>exact V1 (fun s s' _ e=>by cases e)
 | succ D ih=>exact V1 (ziI ih)
theorem ziK{s:List Nat}{l:List Pc}(hb:nN s)(h:dc (eZ 99) ([],s)=some (l,[])):∃t:Rx,t.wf/\t.flat=l:=by
 obtain⟨⟨t,hw,e⟩,_⟩:=XF (zl6 99) ([],s) (l,[]) hb h;exact⟨t,hw,by simpa using e.symm⟩
open Go.Maps Go.WideElems Go.ChangeMaps Go.MapKept
structure zu (W0:World)(br bn:Nat)(cN cF cT:Value)(vE:Value)(E:List En)(w:World):Prop where
 below:Below W0.heap.size W0 w
 s4:St w 119 bn #[cN,vE,cF,cT]
 s0:St w 119 br #[.int .i64 0,.slice none 0 0,.int .i64 0,.int .i64 0]
 oe:w.ownsRow W0.heap.size 186 7 vE E.length (fq (E.map En.z))
 ne:br≠bn
 lo:W0.heap.size<=bn/\W0.heap.size<=br
theorem zu.aa{W0 w':World}{br bn:Nat}{cN cF cT vE:Value}{E:List En}(h:zu W0 br bn cN cF cT vE E w)(k:Below w.heap.size w w'):zu W0 br bn cN cF cT vE E w':=
 ⟨h.below.trans (k.mono h.below.size),h.s4.aa k,h.s0.aa k,dr h.oe k,h.ne,h.lo⟩
theorem zu.app{W0 w w':World}{br bn:Nat}{cN cF cT vE vE':Value}{E L:List En}(h:zu W0 br bn cN cF cT vE E w)(ho:w'.ownsRow W0.heap.size 186 7 vE' (E.length+L.length) (fq (E.map En.z)++fq (L.map En.z)))(hg:w.grownBy w' vE.ownBlock):
  zu W0 br bn cN cF cT vE' (E++L) (w'.setCell ⟨bn,1,none⟩ vE'):=by
 have h4:=h.s4.af h.oe (by decide) hg;refine⟨(fO h.below h.oe h.below.size hg).setCell (p:=⟨bn,1,none⟩) h.lo.1 _,?_,(h.s0.af h.oe (by decide) hg).gh (p:=⟨bn,1,none⟩) h.ne _,?_,h.ne,h.lo⟩
 ·have:=h4.set 1 vE';simpa using this
 rw[List.length_append,List.map_append,zig];exact jE ho h4 (by decide) 1 vE'
theorem To{xs:List Value}(h:w.ownsRow B 186 7 (.slice a n c) n xs)(hn:0<n):∃g,Value.slice a n c=.slice (some ⟨g,0,none⟩) n c/\∀j u,xs[j]?=some u->w.cell? ((⟨g,0,none⟩:Addr).add j)=some u:=by
 obtain⟨g,e,_,_,hc⟩:=fe h hn;refine⟨g,by rw[e],fun j u hj=>?_⟩;have hl:=(List.getElem?_eq_some_iff.1 hj).1;rw[h.1] at hl;have e2:(⟨g,0,none⟩:Addr).add j=⟨g,j,none⟩:=by unfold Addr.add;split <;> simp_all
 rw[e2,(hc j hl).1,hj]
theorem zn3(l:List Pc)(i:Nat):1<=(kc l i).length:=by
 unfold kc;split
 ·simp[eB]
 split
 ·unfold cm;split <;> simp
 simp[fV]
theorem TP(l:List Pc)(i:Nat):(kc l i).length<=4:=by
 unfold kc;split
 ·unfold eB;split <;> split <;> simp
 split
 ·unfold cm;split <;> simp
 simp[fV]
def za(l:List Pc)(k:Nat):List En:=(List.range k).flatMap (kc l)
theorem Sz(l:List Pc)(k:Nat):za l (k+1)=za l k++kc l k:=by unfold za;rw[List.range_succ,List.flatMap_append];simp
theorem zoY(l:List Pc)(k:Nat):(za l k).length<=4*k:=by
 induction k with
 | zero=>simp[za]
 | succ k ih=>rw[Sz,List.length_append];have:=TP l k;omega
def vV(t:Rx)(n:Nat)(w:World)(e:Ending)(w':World):Prop:=
 ∃a c,e=.returned (.tuple #[.agg #[.int .i64 ((2*n:Nat):Int),.slice a (fB t 0).length c,.int .i64 ((2*eO t 0:Nat):Int),.int .i64 ((2*eO t 0+1:Nat):Int)],.int .i64 0])/\
  w'.ownsRow w.heap.size 186 7 (.slice a (fB t 0).length c) (fB t 0).length (fq ((fB t 0).map En.z))/\Below w.heap.size w w'
theorem zn4(t:Rx)(hw:t.wf)(a:Option Addr)(n cap:Nat)(w:World)(hL:ml w a t.flat)(hn:t.flat.length=n)(hc:lg t.flat=0)(ku:n<=400):
  Calls prog 94 #[.slice a n cap] w (vV t n w):=by
 obtain⟨l,hl⟩:∃l,t.flat=l:=⟨_,rfl⟩
 have HT:Hid (za l n=fB t 0/\eO t 0=n-1/\1<=n):=by
  refine⟨?_,?_,?_⟩
  ·rw[<-hl,<-hn];exact NI t hw
  ·unfold eO;omega
  have:=t.bZ;omega
 have Nn:Hid (∀k,k<n->∀W,Below w.heap.size w W->Calls prog 115 #[.slice a n cap,.int .i64 ((k:Nat):Int)] W (tL (kc l k) W)):=fun k hk W hW=>by
  have hv:∀x∈l,0<=aI x.k:=by rw[<-hl];exact zk2 t hw
  refine Y6 l a n cap W (by rw[<-hl];exact hL.below hW) (by rw[<-hl];exact hn) (by omega) k hk (hv _ ?_) (by rw[<-hl];exact zkc t hw k (by omega));rw[hl] at hn;rw[List.getD_eq_getElem?_getD,List.getElem?_eq_getElem (by omega)];exact List.getElem_mem (by omega)
 have IC:=hid (fun (W:World) (hW:Below w.heap.size w W)=>Zr t.flat a n cap W (hL.below hW) hn (by unfold maxLen;omega));rw[hc] at IC;have nu:=hid (Zz (al w (.cells #[.int .i64 0,.slice none 0 0,.int .i64 0,.int .i64 0] 119)) (St.new w 119 #[.int .i64 0,.slice none 0 0,.int .i64 0,.int .i64 0]));obtain⟨b,hb⟩:∃b,n-1=b:=⟨_,rfl⟩
 have aW:b+1=n:=by have:=HT.out.2.2;omega
 have Hb:=hid hb;have M9:=hid (fun (W:World)=>Bn b (by omega) W);have Du:=hid (fun (W:World)=>EV b (by omega) W);obtain⟨F,hF⟩:∃F:Nat,2*b=F:=⟨_,rfl⟩
 obtain⟨T,hT⟩:∃T:Nat,2*b+1=T:=⟨_,rfl⟩
 have TQ:=hid (Zz hF hT);rw[hF] at M9;rw[hT] at Du;obtain⟨S,hS⟩:∃S:Nat,2*n=S:=⟨_,rfl⟩
 have HSS:=hid hS;obtain⟨i0,hi,dD,cQ,cJ⟩:=info_parts oI;have w0:(n:Int)-1=(b:Int):=by omega
 have w1:2*(n:Int)=S:=by omega
 clear hL hn hc hb hF hT hS hl;go_enter func94,ntmps94;go_wp2_with fail;refine (IC.out _ nu.out.1).mono ?_;rintro e w2 ⟨rfl,v2⟩;have H2:=hid (Zz (nu.out.1.trans (v2.mono nu.out.1.size)) (nu.out.2.aa v2));clear v2 IC nu;go_wp2_with fail;refine (M9.out _).mono ?_;rintro e w3 ⟨rfl,rfl⟩;go_wp2_with fail;refine (Du.out _).mono ?_;rintro e w3 ⟨rfl,rfl⟩;go_wp2_with fail;have uZ:=al w2 (.cells #[.int .i64 (S:Int),.slice none 0 0,.int .i64 (F:Int),.int .i64 (T:Int)] 119);have H3:Hid (zu w w.heap.size w2.heap.size (.int .i64 (S:Int)) (.int .i64 (F:Int)) (.int .i64 (T:Int)) (.slice none 0 0) (za l 0) (w2.alloc (.cells #[.int .i64 (S:Int),.slice none 0 0,.int .i64 (F:Int),.int .i64 (T:Int)] 119))):=
  ⟨H2.out.1.trans (uZ.mono H2.out.1.size),St.new _ _ _,H2.out.2.aa uZ,World.ownsRow_nil _ _ _ _,Nat.ne_of_lt H2.out.2.lt,H2.out.1.size,Nat.le_refl _⟩
 clear uZ H2 M9 Du;generalize w2.alloc (.cells #[.int .i64 (S:Int),.slice none 0 0,.int .i64 (F:Int),.int .i64 (T:Int)] 119)=W1 at H3⊢;obtain⟨bn,B8⟩:∃bn,w2.heap.size=bn:=⟨_,rfl⟩
 rw[B8] at H3;rw[B8];clear B8;go_loopw [7,27] (fun _ v wr=>∃(k:Nat) (vE:Value) (E:List En),v=.int .i64 k/\k<=n/\Hid (E=za l k)/\Hid (zu w w.heap.size bn (.int .i64 (S:Int)) (.int .i64 (F:Int)) (.int .i64 (T:Int)) vE E wr)) (fun _ v _=>n-(intOf v).toNat)
 ·exact⟨0,_,_,rfl,by omega,rfl,H3.out⟩
 clear H3;obtain⟨k,vE,E,rfl,hk,HE,HA⟩:=hrel;obtain⟨aE,cE,rfl⟩:=bG HA.out.oe;by_cases aw:k<n
 ·have XY:=hid (Nn.out k aw);have yW:=zn3 l k;have AB:=TP l k;have hE4:E.length<=4*k:=by rw[HE.out];exact zoY l k
  have vw:Hid (E++kc l k=za l (k+1)):=by show _=_;rw[Sz,HE.out]
  have lN:Hid (zu w w.heap.size bn (.int .i64 (S:Int)) (.int .i64 (F:Int)) (.int .i64 (T:Int)) (.slice aE E.length cE) E wr.drew):=HA.out.aa (Below.refl _ _).drew;have e2:wr.cell? ⟨bn,1,none⟩=some (.slice aE E.length cE):=HA.out.s4.at_ 1;have i1:(k:Int)<n:=by omega
  go_upto_region 9 with fail;refine wp_region_held_drew (S:=fun W'=>Below w.heap.size w W'/\True) (by kernel_rfl) ⟨lN.out.below,trivial⟩ (fun hHeld=>?_)
  (refine ag 0 ?_;refine ag 2 ?_;refine ag 3 ?_;try simp only[put,sA,sB,sC])
  refine wpAnyH_ready (rs:=[1,4]) (by kernel_rfl) (by simp) ?_;refine ir (fun K hK=>?_) ?_
  ·skip;go_simp;refine hK.out _ _ ⟨lN.out.below,trivial⟩ (fun hHeld=>?_);clear hK K
   try simp only[put,sA,sB,sC]
   refine ba 4 (fun K hK=>?_);skip;go_simp;go_at_call 115;refine (XY.out _ lN.out.below).mono ?_;rintro e w5 ⟨a5,c5,rfl,jK,v5⟩;have AE:=hid jK;have dY:=hid (lN.out.aa v5);have e5:w5.cell? ⟨bn,1,none⟩=some (.slice aE E.length cE):=dY.out.s4.at_ 1;clear v5 jK
   try go_wp2_with fail
   refine hK.out _ _ ⟨dY.out.below,trivial⟩ (fun hHeld=>?_);clear hK K
   try simp only[put,sA,sB,sC]
   refine ba 5 (fun K hK=>?_);skip;skip;obtain⟨g5,Bg,su⟩:=To AE.out yW;injection Bg with Bg _ _;subst Bg;refine xv (by rfl) _ _ _ (by rfl) w.heap.size 186 i0 (.agg #[.int .i64 0,.int .i64 0,.int .u64 0,.int .u64 0,.int .u64 0,.int .u64 0,.bool false]) 7 56 underlying117 hi dD cQ cJ (by rfl) (by decide) _ E.length (fq (E.map En.z)) (by rfl) dY.out.oe ⟨g5,0,none⟩ (kc l k).length c5 (fq ((kc l k).map En.z)) (by rfl) (by rw[Vl,List.length_map]) su (Si _) (by unfold maxLen;omega) (by omega) dY.out.below.size ?_;intro v6 w6 aq aj;obtain⟨a6,c6,rfl⟩:=bG aq;have mW:=dY.out.s4.af dY.out.oe (by decide) aj;have Jq:=hid (dY.out.app (vE':=.slice a6 (E.length+(kc l k).length) c6) aq aj);have t3:w6.cell? ⟨bn,1,none⟩=some (.slice aE E.length cE):=mW.at_ 1;have f3:=mW.aZ 1;have ey:=fO dY.out.below dY.out.oe dY.out.below.size aj;refine hK.out _ _ ⟨ey,trivial⟩ (fun hHeld=>?_);clear hK K aq aj mW ey
   try simp only[put,sA,sB,sC]
   (refine ag 6 ?_;try simp only[put,sA,sB,sC])
   refine ba 7 (fun K hK=>?_);skip;go_simp;refine hK.out _ _ ⟨Jq.out.below,trivial⟩ (fun hHeld=>?_);clear hK K
   try simp only[put,sA,sB,sC]
   refine wpAnyH_done (by kernel_rfl) ?_ _;clear hHeld;go_wp2;go_roundw
   ·exact⟨k+1,_,E++kc l k,by go_num,by omega,vw.out,Jq.out⟩
   simp[intOf];omega
  refine ir (fun K hK=>?_) ?_
  ·skip;go_simp;go_at_call 115;refine (XY.out _ lN.out.below).mono ?_;rintro e w5 ⟨a5,c5,rfl,jK,v5⟩;have AE:=hid jK;have dY:=hid (lN.out.aa v5);have e5:w5.cell? ⟨bn,1,none⟩=some (.slice aE E.length cE):=dY.out.s4.at_ 1;clear v5 jK
   try go_wp2_with fail
   refine hK.out _ _ ⟨dY.out.below,trivial⟩ (fun hHeld=>?_);clear hK K
   try simp only[put,sA,sB,sC]
   refine ba 1 (fun K hK=>?_);skip;go_simp;refine hK.out _ _ ⟨dY.out.below,trivial⟩ (fun hHeld=>?_);clear hK K
   try simp only[put,sA,sB,sC]
   refine ba 5 (fun K hK=>?_);skip;skip;obtain⟨g5,Bg,su⟩:=To AE.out yW;injection Bg with Bg _ _;subst Bg;refine xv (by rfl) _ _ _ (by rfl) w.heap.size 186 i0 (.agg #[.int .i64 0,.int .i64 0,.int .u64 0,.int .u64 0,.int .u64 0,.int .u64 0,.bool false]) 7 56 underlying117 hi dD cQ cJ (by rfl) (by decide) _ E.length (fq (E.map En.z)) (by rfl) dY.out.oe ⟨g5,0,none⟩ (kc l k).length c5 (fq ((kc l k).map En.z)) (by rfl) (by rw[Vl,List.length_map]) su (Si _) (by unfold maxLen;omega) (by omega) dY.out.below.size ?_;intro v6 w6 aq aj;obtain⟨a6,c6,rfl⟩:=bG aq;have mW:=dY.out.s4.af dY.out.oe (by decide) aj;have Jq:=hid (dY.out.app (vE':=.slice a6 (E.length+(kc l k).length) c6) aq aj);have t3:w6.cell? ⟨bn,1,none⟩=some (.slice aE E.length cE):=mW.at_ 1;have f3:=mW.aZ 1;have ey:=fO dY.out.below dY.out.oe dY.out.below.size aj;refine hK.out _ _ ⟨ey,trivial⟩ (fun hHeld=>?_);clear hK K aq aj mW ey
   try simp only[put,sA,sB,sC]
   (refine ag 6 ?_;try simp only[put,sA,sB,sC])
   refine ba 7 (fun K hK=>?_);skip;go_simp;refine hK.out _ _ ⟨Jq.out.below,trivial⟩ (fun hHeld=>?_);clear hK K
   try simp only[put,sA,sB,sC]
   refine wpAnyH_done (by kernel_rfl) ?_ _;clear hHeld;go_wp2;go_roundw
   ·exact⟨k+1,_,E++kc l k,by go_num,by omega,vw.out,Jq.out⟩
   simp[intOf];omega
  exact AllReadyH.nil
 obtain rfl:k=n:=by omega
 obtain⟨p0,p1,p2,p3⟩:=HA.out.s4.dM;obtain⟨q0,q1,q2,q3,g0,g1,g2,g3⟩:=cW HA.out.s0;have HF:Hid (vV t k w (.returned (.tuple #[.agg #[.int .i64 (S:Int),.slice aE E.length cE,.int .i64 (F:Int),.int .i64 (T:Int)],.int .i64 0])) ((((wr.setCell ⟨w.heap.size,0,none⟩ (.int .i64 (S:Int))).setCell ⟨w.heap.size,1,none⟩ (.slice aE E.length cE)).setCell ⟨w.heap.size,2,none⟩ (.int .i64 (F:Int))).setCell ⟨w.heap.size,3,none⟩ (.int .i64 (T:Int)))):=by
  have hE:E=fB t 0:=by rw[HE.out];exact HT.out.1
  unfold vV;rw[<-hE,HT.out.2.1,Hb.out,TQ.out.2,TQ.out.1,HSS.out];exact⟨aE,cE,rfl,Vw HA.out.oe HA.out.s0 (by decide) _ _ _ _,uW HA.out.below (Nat.le_refl _) _ _ _ _⟩
 have r9:Hid (St ((((wr.setCell ⟨w.heap.size,0,none⟩ (.int .i64 (S:Int))).setCell ⟨w.heap.size,1,none⟩ (.slice aE E.length cE)).setCell ⟨w.heap.size,2,none⟩ (.int .i64 (F:Int))).setCell ⟨w.heap.size,3,none⟩ (.int .i64 (T:Int))) 119 w.heap.size #[.int .i64 (S:Int),.slice aE E.length cE,.int .i64 (F:Int),.int .i64 (T:Int)]):=HA.out.s0.qW _ _ _ _;go_wp2_with fail;generalize (((wr.setCell ⟨w.heap.size,0,none⟩ (.int .i64 (S:Int))).setCell ⟨w.heap.size,1,none⟩ (.slice aE E.length cE)).setCell ⟨w.heap.size,2,none⟩ (.int .i64 (F:Int))).setCell ⟨w.heap.size,3,none⟩ (.int .i64 (T:Int))=Wf at HF r9⊢;obtain⟨v0,v1,v2,v3⟩:=r9.out.dM;exact bodyPost_ret (v:=.tuple #[.agg #[.int .i64 (S:Int),.slice aE E.length cE,.int .i64 (F:Int),.int .i64 (T:Int)],.int .i64 0]) (by simp[results,results94,go_sem,v0,v1,v2,v3]) rfl HF.out
theorem zn5{l:List Pc}(h:w.ownsRow B 148 5 (.slice a n c) n (my l))(hn:l.length=n):ml w a l:=by
 intro h0;obtain⟨g,rfl,_,hg,hc⟩:=fe h (by omega);exact⟨g,0,rfl,hg,fun j hj=>by rw[Nat.zero_add,(hc j (by omega)).1]⟩
theorem ziL(t:Rx)(hw:t.wf):∀(r:List Pc) (n:Int),0<=n->eG (t.flat++r) n=eG r (n+1):=by
 induction t with
 | leaf x=>
  intro r n hn;show (if kB x n=true then eG r (n+1-aI x.k) else none)=_;have ho:kB x n=true:=by
   unfold kB;rw[hw.1,hw.2];simp;omega
  rw[if_pos ho,hw.1];congr 1;omega
 | un x a ih=>
  intro r n hn;show eG ((a.flat++[x])++r) n=_;rw[List.append_assoc,ih hw.2.2 _ n hn];show (if kB x (n+1)=true then eG r (n+1+1-aI x.k) else none)=_;have ho:kB x (n+1)=true:=by
   unfold kB;rw[hw.1,hw.2.1];simp;omega
  rw[if_pos ho,hw.1];congr 1;omega
 | bin x a b ih jh=>
  intro r n hn;show eG ((a.flat++(b.flat++[x]))++r) n=_;rw[List.append_assoc,List.append_assoc,ih hw.2.2.1 _ n hn,jh hw.2.2.2 _ (n+1) (by omega)];show (if kB x (n+1+1)=true then eG r (n+1+1+1-aI x.k) else none)=_;have ho:kB x (n+1+1)=true:=by
   unfold kB;rw[hw.1,hw.2.1];simp;omega
  rw[if_pos ho,hw.1];congr 1;omega
theorem ZD(t:Rx)(hw:t.wf)(h:t.flat.length<=400):lg t.flat=0:=by
 have h1:eG t.flat 0=some 1:=by
  have:=ziL t hw [] 0 (by omega);rw[List.append_nil] at this;rw[this];rfl
 unfold lg;rw[if_neg (by omega),if_pos h1]
def rS(s:ByteArray)(er:Nat):Prop:=(er=5/\∀l,dc (eZ 99) ([],ae s)≠some (l,[]))\/(er=6/\∃l,dc (eZ 99) ([],ae s)=some (l,[])/\400<l.length)
def M6(s:ByteArray)(w:World)(e:Ending)(w':World):Prop:=
 (∃er:Nat,rS s er/\e=.returned (.tuple #[.agg #[.int .i64 0,.slice none 0 0,.int .i64 0,.int .i64 0],.int .i64 (er:Int)])/\Below w.heap.size w w')\/
 (∃t:Rx,t.wf/\dc (eZ 99) ([],ae s)=some (t.flat,[])/\t.flat.length<=400/\vV t t.flat.length w e w')
theorem zeU(s:ByteArray)(hs:s.size<=1600)(w:World):Calls prog 81 #[.string s] w (M6 s w):=by
 have HB:=hid (Zz (al w (.cells #[.int .i64 0,.slice none 0 0,.int .i64 0,.int .i64 0] 119)) (St.new w 119 #[.int .i64 0,.slice none 0 0,.int .i64 0,.int .i64 0]));by_cases hp:∃l,dc (eZ 99) ([],ae s)=some (l,[])
 ·obtain⟨l,hl⟩:=hp;by_cases hm:400<l.length
  ·have HP:=hid (fun (W:World)=>ziv s W hs l hl hm);have HE:Hid (rS s 6):=Or.inr ⟨rfl,l,hl,hm⟩;clear hl hm;go_enter func81,ntmps81;go_wp2_with fail;refine (HP.out _).mono ?_;rintro e w2 ⟨rfl,k2⟩;have H2:=hid (Zz (HB.out.1.trans (k2.mono HB.out.1.size)) (HB.out.2.aa k2));clear k2 HP;obtain⟨q0,q1,q2,q3,g0,g1,g2,g3⟩:=cW H2.out.2;have r9:Hid (St ((((w2.setCell ⟨w.heap.size,0,none⟩ (.int .i64 0)).setCell ⟨w.heap.size,1,none⟩ (.slice none 0 0)).setCell ⟨w.heap.size,2,none⟩ (.int .i64 0)).setCell ⟨w.heap.size,3,none⟩ (.int .i64 0)) 119 w.heap.size #[.int .i64 0,.slice none 0 0,.int .i64 0,.int .i64 0]/\Below w.heap.size w ((((w2.setCell ⟨w.heap.size,0,none⟩ (.int .i64 0)).setCell ⟨w.heap.size,1,none⟩ (.slice none 0 0)).setCell ⟨w.heap.size,2,none⟩ (.int .i64 0)).setCell ⟨w.heap.size,3,none⟩ (.int .i64 0))):=(⟨H2.out.2.qW _ _ _ _,uW H2.out.1 (Nat.le_refl _) _ _ _ _⟩);go_wp2_with fail;generalize (((w2.setCell ⟨w.heap.size,0,none⟩ (.int .i64 0)).setCell ⟨w.heap.size,1,none⟩ (.slice none 0 0)).setCell ⟨w.heap.size,2,none⟩ (.int .i64 0)).setCell ⟨w.heap.size,3,none⟩ (.int .i64 0)=Wf at r9⊢;obtain⟨v0,v1,v2,v3⟩:=r9.out.1.dM;exact bodyPost_ret (v:=.tuple #[.agg #[.int .i64 0,.slice none 0 0,.int .i64 0,.int .i64 0],.int .i64 6]) (by simp[results,results81,go_sem,v0,v1,v2,v3]) rfl (Or.inl ⟨6,HE.out,rfl,r9.out.2⟩)
  obtain⟨t,hw,rfl⟩:=ziK (E4 s) hl;have hle:t.flat.length<=400:=by omega
  have HP:=hid (fun (W:World)=>zj3 s W hs t.flat hl hle);have HT:=hid (Zz hw (Zz hl hle));have V2:=ZD t hw hle;have jL:=hid (fun (a:Option Addr) (cap:Nat) (W:World) (hL:ml W a t.flat)=>zn4 t hw a t.flat.length cap W hL rfl V2 hle);clear hl hm hw V2;obtain⟨n,hn⟩:∃n,t.flat.length=n:=⟨_,rfl⟩
  have Hn:=hid hn;rw[hn] at HP jL hle;clear hn;go_enter func81,ntmps81;go_wp2_with fail;refine (HP.out _).mono ?_;rintro e w2 ⟨a2,c2,rfl,ho2,k2⟩;have H2:=hid (Zz (HB.out.1.trans (k2.mono HB.out.1.size)) (Zz (HB.out.2.aa k2) (zn5 ho2 Hn.out)));clear k2 HP ho2;have jO:=hid (jL.out a2 c2 w2 H2.out.2.2);go_wp2_with fail;refine jO.out.mono ?_;rintro e w3 ⟨a3,c3,rfl,UQ,k3⟩;have H3:=hid (Zz (H2.out.1.trans (k3.mono H2.out.1.size)) (Zz (H2.out.2.1.aa k3) (jR UQ H2.out.1.size)));clear k3 UQ jO jL;obtain⟨S,hS⟩:∃S:Nat,2*n=S:=⟨_,rfl⟩
  obtain⟨F,hF⟩:∃F:Nat,2*eO t 0=F:=⟨_,rfl⟩
  obtain⟨T,hT⟩:∃T:Nat,2*eO t 0+1=T:=⟨_,rfl⟩
  obtain⟨m,iK⟩:∃m,(fB t 0).length=m:=⟨_,rfl⟩
  have HQ:=hid (Zz hS (Zz hF (Zz hT iK)));rw[iK] at H3;rw[hT,hS,hF,iK];clear hS hF hT iK;obtain⟨q0,q1,q2,q3,g0,g1,g2,g3⟩:=cW H3.out.2.1;have r9:Hid (St ((((w3.setCell ⟨w.heap.size,0,none⟩ (.int .i64 (S:Int))).setCell ⟨w.heap.size,1,none⟩ (.slice a3 m c3)).setCell ⟨w.heap.size,2,none⟩ (.int .i64 (F:Int))).setCell ⟨w.heap.size,3,none⟩ (.int .i64 (T:Int))) 119 w.heap.size #[.int .i64 (S:Int),.slice a3 m c3,.int .i64 (F:Int),.int .i64 (T:Int)]/\Below w.heap.size w ((((w3.setCell ⟨w.heap.size,0,none⟩ (.int .i64 (S:Int))).setCell ⟨w.heap.size,1,none⟩ (.slice a3 m c3)).setCell ⟨w.heap.size,2,none⟩ (.int .i64 (F:Int))).setCell ⟨w.heap.size,3,none⟩ (.int .i64 (T:Int)))/\((((w3.setCell ⟨w.heap.size,0,none⟩ (.int .i64 (S:Int))).setCell ⟨w.heap.size,1,none⟩ (.slice a3 m c3)).setCell ⟨w.heap.size,2,none⟩ (.int .i64 (F:Int))).setCell ⟨w.heap.size,3,none⟩ (.int .i64 (T:Int))).ownsRow w.heap.size 186 7 (.slice a3 m c3) m (fq ((fB t 0).map En.z))):=⟨H3.out.2.1.qW _ _ _ _,uW H3.out.1 (Nat.le_refl _) _ _ _ _,Vw H3.out.2.2 H3.out.2.1 (by decide) _ _ _ _⟩
  go_wp2_with fail;generalize (((w3.setCell ⟨w.heap.size,0,none⟩ (.int .i64 (S:Int))).setCell ⟨w.heap.size,1,none⟩ (.slice a3 m c3)).setCell ⟨w.heap.size,2,none⟩ (.int .i64 (F:Int))).setCell ⟨w.heap.size,3,none⟩ (.int .i64 (T:Int))=Wf at r9⊢;obtain⟨v0,v1,v2,v3⟩:=r9.out.1.dM;refine bodyPost_ret (v:=.tuple #[.agg #[.int .i64 (S:Int),.slice a3 m c3,.int .i64 (F:Int),.int .i64 (T:Int)],.int .i64 0]) (by simp[results,results81,go_sem,v0,v1,v2,v3]) rfl (Or.inr ⟨t,HT.out.1,HT.out.2.1,HT.out.2.2,?_⟩);unfold vV;rw[Hn.out,HQ.out.1,HQ.out.2.2.1,HQ.out.2.1,HQ.out.2.2.2];exact⟨a3,c3,rfl,r9.out.2.2,r9.out.2.1⟩
 have iQ:∀l,dc (eZ 99) ([],ae s)≠some (l,[]):=fun l h=>hp ⟨l,h⟩
 have HP:=hid (fun (W:World)=>zlU s W hs iQ);have HE:Hid (rS s 5):=Or.inl ⟨rfl,iQ⟩;clear iQ hp;go_enter func81,ntmps81;go_wp2_with fail;refine (HP.out _).mono ?_;rintro e w2 ⟨rfl,k2⟩;have H2:=hid (Zz (HB.out.1.trans (k2.mono HB.out.1.size)) (HB.out.2.aa k2));clear k2 HP;obtain⟨q0,q1,q2,q3,g0,g1,g2,g3⟩:=cW H2.out.2;have r9:Hid (St ((((w2.setCell ⟨w.heap.size,0,none⟩ (.int .i64 0)).setCell ⟨w.heap.size,1,none⟩ (.slice none 0 0)).setCell ⟨w.heap.size,2,none⟩ (.int .i64 0)).setCell ⟨w.heap.size,3,none⟩ (.int .i64 0)) 119 w.heap.size #[.int .i64 0,.slice none 0 0,.int .i64 0,.int .i64 0]/\Below w.heap.size w ((((w2.setCell ⟨w.heap.size,0,none⟩ (.int .i64 0)).setCell ⟨w.heap.size,1,none⟩ (.slice none 0 0)).setCell ⟨w.heap.size,2,none⟩ (.int .i64 0)).setCell ⟨w.heap.size,3,none⟩ (.int .i64 0))):=⟨H2.out.2.qW _ _ _ _,uW H2.out.1 (Nat.le_refl _) _ _ _ _⟩
 go_wp2_with fail;generalize (((w2.setCell ⟨w.heap.size,0,none⟩ (.int .i64 0)).setCell ⟨w.heap.size,1,none⟩ (.slice none 0 0)).setCell ⟨w.heap.size,2,none⟩ (.int .i64 0)).setCell ⟨w.heap.size,3,none⟩ (.int .i64 0)=Wf at r9⊢;obtain⟨v0,v1,v2,v3⟩:=r9.out.1.dM;exact bodyPost_ret (v:=.tuple #[.agg #[.int .i64 0,.slice none 0 0,.int .i64 0,.int .i64 0],.int .i64 5]) (by simp[results,results81,go_sem,v0,v1,v2,v3]) rfl (Or.inl ⟨5,HE.out,rfl,r9.out.2⟩)
end Go.Proofs.YtiijebameffenaaGreat
