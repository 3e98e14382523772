import Derived.Test.YtiijebameffenaaGreatZPParse
import Derived.Test.YtiijebameffenaaGreatZQEof
set_option linter.all false
set_option maxHeartbeats 4000000
set_option maxRecDepth 100000
open Go.Lib (hid)
namespace Go.Proofs.YtiijebameffenaaGreat
open Go.RowKit Go.Proofs.Tryz
open Act (put)
variable {B c n:Nat}{a:Option Addr}{atom:bf->Option bf}{k:Int}{l r:List Nat}{w:World}
theorem zkf(p:Nat->Bool)(h:eD p=true):∀b,b<256->p b=false:=by
 intro b hb;have e:dg p 256=[]:=List.length_eq_zero_iff.1 (by simpa [eD] using h);rcases hp:p b with _|_
 ·rfl
 have:=(MP p 256 b).2 ⟨hb,hp⟩;rw[e] at this;simp at this
def pG(l:List Nat):Prop:=∀x∈l,x<256
theorem pG.drop(h:pG l)(k:Nat):pG (l.drop k):=fun x hx=>h x (List.mem_of_mem_drop hx)
theorem pG.tail(h:pG (c :: l)):pG l:=fun x hx=>h x (List.mem_cons_of_mem _ hx)
theorem pG.skip{s:List Nat}(h:pG s)(e:aw c s=some r):pG r:=by
 have:=xm e;subst this;exact h.tail
def Dx(b:List Pc)(s':bf):Prop:=(∃t:Rx,t.wf/\s'.1=b++t.flat)/\pG s'.2
def wQ(g:bf->Option bf):Prop:=∀s s',pG s.2->g s=some s'->Dx s.1 s'
theorem WA{p:Nat->Bool}{b:Nat}(hb:b<256)(h:p b=true):eD p=false:=by
 cases e:eD p with
 | false=>rfl
 | true=>exact absurd (zkf p e b hb) (by rw[h];decide)
theorem Xt:eD aO=true:=by decide +kernel
theorem zmc:eD (fun _=>true)=false:=WA (b:=0) (by omega) rfl
theorem T9{p:Nat->Bool}(h:eD p=false):(Rx.leaf ⟨1,p⟩).wf:=⟨by show aG 1=0;decide,by unfold jI;rw[h];rfl⟩
theorem zoe:(Rx.leaf ⟨0,aO⟩).wf:=⟨by show aG 0=0;decide,by unfold jI;rw[Xt];rfl⟩
theorem Lx(hk:(k == 1)=false):jI ⟨k,aO⟩=true:=by
 unfold jI;rw[Xt];show (true != (k == 1))=true;rw[hk];rfl
theorem zog(h:eZ c=some k):aG k=1/\jI ⟨k,aO⟩=true:=by
 unfold eZ at h;split at h
 ·injection h with h;subst h;exact⟨by decide,Lx rfl⟩
 split at h
 ·injection h with h;subst h;exact⟨by decide,Lx rfl⟩
 split at h
 ·injection h with h;subst h;exact⟨by decide,Lx rfl⟩
 cases h
theorem zkg:∀(r:List Nat) (b acc:List Pc),pG r->(∃t:Rx,t.wf/\acc=b++t.flat)->Dx b (bB r acc):=by
 intro r
 induction r with
 | nil=>intro b acc h ht;exact⟨ht,h⟩
 | cons c r ih=>
  intro b acc h ht
  show Dx b (match eZ c with|some k=>bB r (acc++[⟨k,aO⟩])|none=>(acc,c :: r))
  cases hs:eZ c with
  | none=>exact⟨ht,h⟩
  | some k=>
   obtain⟨t,hw,e⟩:=ht;have hk:=zog hs;exact ih b _ h.tail ⟨.un ⟨k,aO⟩ t,⟨hk.1,hk.2,hw⟩,by rw[e];simp[Rx.flat]⟩
theorem VJ(h:wQ atom):wQ (ct atom):=by
 intro s s' hb e;unfold ct at e;cases ha:atom s with
 | none=>rw[ha] at e;cases e
 | some x=>
  rw[ha] at e;injection e with e;subst e;have:=h s x hb ha;exact zkg x.2 s.1 x.1 this.2 this.1
theorem zkh(h:wQ atom):∀(f:Nat) (b:List Pc) (s s':bf),Dx b s->aX atom f s=some s'->Dx b s':=by
 intro f
 induction f with
 | zero=>intro b s s' _ e;cases e
 | succ f ih=>
  intro b s s' hg e;unfold aX at e;split at e
  ·injection e with e;subst e;exact hg
  cases ha:ct atom s with
  | none=>rw[ha] at e;cases e
  | some x=>
   simp only[ha] at e;obtain⟨⟨u,hu,e1⟩,lZ⟩:=VJ h s x hg.2 ha;obtain⟨⟨t,ht,e2⟩,_⟩:=hg;refine ih b (x.1++[⟨2,aO⟩],x.2) s' ⟨⟨.bin ⟨2,aO⟩ t u,⟨by decide,Lx rfl,ht,hu⟩,?_⟩,lZ⟩ e;show x.1++[⟨2,aO⟩]=_;rw[e1,e2];simp[Rx.flat]
theorem zi2(h:wQ atom):wQ (cm atom):=by
 intro s s' hb e;unfold cm at e;cases ha:ct atom s with
 | none=>rw[ha] at e;cases e
 | some x=>
  rw[ha] at e;exact zkh h _ s.1 x s' (VJ h s x hb ha) e
theorem zki(h:wQ atom):∀(f:Nat) (b:List Pc) (s s':bf),Dx b s->aY atom f s=some s'->Dx b s':=by
 intro f
 induction f with
 | zero=>intro b s s' _ e;cases e
 | succ f ih=>
  intro b s s' hg e
  unfold aY at e
  cases hk:aw 124 s.2 with
  | none=>rw[hk] at e;injection e with e;subst e;exact hg
  | some r=>
   simp only[hk] at e
   cases ha:cm atom (s.1,r) with
   | none=>simp only[ha] at e;cases e
   | some x=>
    simp only[ha] at e;obtain⟨⟨u,hu,e1⟩,lZ⟩:=zi2 h (s.1,r) x (hg.2.skip hk) ha;obtain⟨⟨t,ht,e2⟩,_⟩:=hg;refine ih b (x.1++[⟨3,aO⟩],x.2) s' ⟨⟨.bin ⟨3,aO⟩ t u,⟨by decide,Lx rfl,ht,hu⟩,?_⟩,lZ⟩ e;show x.1++[⟨3,aO⟩]=_;rw[e1];show (s.1++u.flat)++_=_;rw[e2];simp[Rx.flat]
theorem ZG(h:wQ atom):wQ (bx atom):=by
 intro s s' hb e;unfold bx at e;cases ha:cm atom s with
 | none=>rw[ha] at e;cases e
 | some x=>
  rw[ha] at e;exact zki h _ s.1 x s' (zi2 h s x hb ha) e
theorem zkj(h:wQ atom):wQ (eu atom):=by
 intro s s' hb e;unfold eu at e;cases ha:bx atom s with
 | none=>rw[ha] at e;cases e
 | some x=>
  rw[ha] at e
  have hx:=ZG h s x hb ha
  cases hk:aw 41 x.2 with
  | none=>simp only[hk] at e;cases e
  | some r=>
   simp only[hk] at e;injection e with e;subst e;exact⟨hx.1,hx.2.skip hk⟩
theorem Rp{sp:ByteArray}{s:List Nat}(hb:pG s)(h:aI sp s=some (c,r)):c<256/\pG r:=by
 unfold aI at h;split at h
 ·injection h with h;injection h with h1 h2;subst h1 h2;exact⟨(Gg s hb).1,hb.drop _⟩
 cases h
theorem zkk{s:List Nat}{a:Nat}(hb:pG s)(h:cO s=some (a,c,r)):pG r:=by
 unfold cO at h;cases h1:aI du s with
 | none=>rw[h1] at h;cases h
 | some x=>
  obtain⟨a1,r1⟩:=x
  rw[h1] at h
  have Ib:=(Rp hb h1).2
  cases h2:aw 45 r1 with
  | none=>simp only[h2] at h;injection h with h;injection h with _ h;injection h with _ h;subst h;exact Ib
  | some r2=>
   simp only[h2] at h
   cases h3:aI du r2 with
   | none=>simp only[h3] at h;cases h
   | some y=>
    obtain⟨c1,r3⟩:=y;simp only[h3] at h;split at h
    ·injection h with h;injection h with _ h;injection h with _ h;subst h;exact (Rp (Ib.skip h2) h3).2
    cases h
theorem Z9:∀(f:Nat) (q:Nat->Bool) (s:List Nat) (q':Nat->Bool) (r:List Nat),pG s->aD f q s=some (q',r)->pG r:=by
 intro f
 induction f with
 | zero=>intro q s q' r _ h;cases h
 | succ f ih=>
  intro q s q' r hb h
  unfold aD at h
  cases h1:aw 93 s with
  | some r1=>simp only[h1] at h;injection h with h;injection h with _ h;subst h;exact hb.skip h1
  | none=>
   simp only[h1] at h
   cases h2:cO s with
   | none=>simp only[h2] at h;cases h
   | some y=>
    obtain⟨a,c,r1⟩:=y;simp only[h2] at h;exact ih _ r1 q' r (zkk hb h2) h
theorem zoh{s:List Nat}{q:Nat->Bool}(hb:pG s)(h:ek s=some (q,r)):eD q=false/\pG r:=by
 unfold ek at h;cases h1:aw 94 s with
 | some r1=>
  simp only[h1] at h
  cases h2:aD (r1.length+1) aO r1 with
  | none=>simp only[h2] at h;cases h
  | some y=>
   obtain⟨q1,r2⟩:=y;simp only[h2] at h;split at h
   ·cases h
   rename_i hn;injection h with h;injection h with e1 e2;subst e1 e2;exact⟨by simpa using hn,Z9 _ _ _ _ _ (hb.skip h1) h2⟩
 | none=>
  simp only[h1] at h
  cases h2:aD (s.length+1) aO s with
  | none=>simp only[h2] at h;cases h
  | some y=>
   obtain⟨q1,r2⟩:=y;simp only[h2] at h;split at h
   ·cases h
   rename_i hn;injection h with h;injection h with e1 e2;subst e1 e2;exact⟨by simpa using hn,Z9 _ _ _ _ _ hb h2⟩
theorem zgS{group:bf->Option bf}(h:wQ group):wQ (aW group):=by
 intro s s' hb e;unfold aW at e;cases h1:aw 46 s.2 with
 | some r=>
  simp only[h1] at e;injection e with e;subst e;exact⟨⟨.leaf ⟨1,fun _=>true⟩,T9 zmc,rfl⟩,hb.skip h1⟩
 | none=>
  simp only[h1] at e
  cases h2:aw 126 s.2 with
  | some r=>
   simp only[h2] at e;injection e with e;subst e;exact⟨⟨.leaf ⟨0,aO⟩,zoe,rfl⟩,hb.skip h2⟩
  | none=>
   simp only[h2] at e
   cases h3:aw 40 s.2 with
   | some r=>
    simp only[h3] at e;exact h (s.1,r) s' (hb.skip h3) e
   | none=>
    simp only[h3] at e
    cases h4:aw 91 s.2 with
    | some r=>
     simp only[h4] at e
     cases h5:ek r with
     | none=>simp only[h5] at e;cases e
     | some y=>
      obtain⟨q,r1⟩:=y;simp only[h5] at e;injection e with e;subst e;have:=zoh (hb.skip h4) h5;exact⟨⟨.leaf ⟨1,q⟩,T9 this.1,rfl⟩,this.2⟩
    | none=>
     simp only[h4] at e
     cases h5:aI oy s.2 with
     | none=>simp only[h5] at e;cases e
     | some y=>
      obtain⟨c,r⟩:=y;simp only[h5] at e;injection e with e;subst e;have:=Rp hb h5;exact⟨⟨.leaf ⟨1,fu (fun _=>c) 1⟩,T9 (WA this.1 ((SY _ 1 c).2 ⟨0,by omega,rfl⟩)),rfl⟩,this.2⟩
theorem zoi:∀D,wQ (dB D):=by
 intro D
 induction D with
 | zero=>exact zgS (fun s s' _ e=>by cases e)
 | succ D ih=>exact zgS (zkj ih)
theorem ze3{s:List Nat}{l:List Pc}(hb:pG s)(h:bx (dB 99) ([],s)=some (l,[])):∃t:Rx,t.wf/\t.flat=l:=by
 obtain⟨⟨t,hw,e⟩,_⟩:=ZG (zoi 99) ([],s) (l,[]) hb h;exact⟨t,hw,by simpa using e.symm⟩
open Go.Maps
structure BM (W0:World)(br bn:Nat)(cN cF cT:Value)(vE:Value)(E:List En)(w:World):Prop where
 below:ϐ W0 w
 s4:St w 119 bn #[cN,vE,cF,cT]
 s0:St w 119 br #[.int .i64 0,.slice none 0 0,.int .i64 0,.int .i64 0]
 oe:w.ownsRow W0.heap.size 186 7 vE E.length (gd (E.map En.z))
 ne:br≠bn
 lo:W0.heap.size<=bn/\W0.heap.size<=br
theorem BM.ae{W0 w':World}{br bn:Nat}{cN cF cT vE:Value}{E:List En}(h:BM W0 br bn cN cF cT vE E w)(k:ϐ w w'):BM W0 br bn cN cF cT vE E w':=
 ⟨h.below.trans (k.mono h.below.size),h.s4.ae k,h.s0.ae k,dE h.oe k,h.ne,h.lo⟩
theorem BM.app{W0 w w':World}{br bn:Nat}{cN cF cT vE vE':Value}{E L:List En}(h:BM W0 br bn cN cF cT vE E w)(ho:w'.ownsRow W0.heap.size 186 7 vE' (E.length+L.length) (gd (E.map En.z)++gd (L.map En.z)))(hg:w.grownBy w' vE.ownBlock):
  BM W0 br bn cN cF cT vE' (E++L) (w'.setCell ⟨bn,1,none⟩ vE'):=by
 have h4:=h.s4.af h.oe (by decide) hg;refine⟨(gu h.below h.oe h.below.size hg).setCell (p:=⟨bn,1,none⟩) h.lo.1 _,?_,(h.s0.af h.oe (by decide) hg).gJ (p:=⟨bn,1,none⟩) h.ne _,?_,h.ne,h.lo⟩
 ·have:=h4.set 1 vE';simpa using this
 rw[List.length_append,List.map_append,zjS];exact kz ho h4 (by decide) 1 vE'
theorem VS{xs:List Value}(h:w.ownsRow B 186 7 (.slice a n c) n xs)(hn:0<n):∃g,Value.slice a n c=.slice (some ⟨g,0,none⟩) n c/\∀j u,xs[j]?=some u->w.cell? ((⟨g,0,none⟩:Addr).add j)=some u:=by
 obtain⟨g,e,_,_,hc⟩:=fG h hn;refine⟨g,by rw[e],fun j u hj=>?_⟩;have hl:=(List.getElem?_eq_some_iff.1 hj).1;rw[h.1] at hl;have e2:(⟨g,0,none⟩:Addr).add j=⟨g,j,none⟩:=by unfold Addr.add;split <;> simp_all
 rw[e2,(hc j hl).1,hj]
theorem zqC(l:List Pc)(i:Nat):1<=(k8 l i).length:=by
 unfold k8;split
 ·simp[fH]
 split
 ·unfold dj;split <;> simp
 simp[gZ]
theorem zpo(l:List Pc)(i:Nat):(k8 l i).length<=4:=by
 unfold k8;split
 ·unfold fH;split <;> split <;> simp
 split
 ·unfold dj;split <;> simp
 simp[gZ]
def A6(l:List Pc)(k:Nat):List En:=(List.range k).flatMap (k8 l)
theorem zi4(l:List Pc)(k:Nat):A6 l (k+1)=A6 l k++k8 l k:=by unfold A6;rw[List.range_succ,List.flatMap_append];simp
theorem zrC(l:List Pc)(k:Nat):(A6 l k).length<=4*k:=by
 induction k with
 | zero=>simp[A6]
 | succ k ih=>rw[zi4,List.length_append];have:=zpo l k;omega
def yA(t:Rx)(n:Nat)(w:World)(e:Ending)(w':World):Prop:=
 ∃a c,e=.returned (.tuple #[.agg #[.int .i64 ((2*n:Nat):Int),.slice a (gn t 0).length c,.int .i64 ((2*fK t 0:Nat):Int),.int .i64 ((2*fK t 0+1:Nat):Int)],.int .i64 0])/\
  w'.ownsRow w.heap.size 186 7 (.slice a (gn t 0).length c) (gn t 0).length (gd ((gn t 0).map En.z))/\ϐ w w'
theorem zqD(t:Rx)(hw:t.wf)(a:Option Addr)(n cap:Nat)(w:World)(hL:iq w a t.flat)(hn:t.flat.length=n)(hc:mc t.flat=0)(dZ:n<=400):
  Calls prog 94 #[.slice a n cap] w (yA t n w):=by
 obtain⟨l,hl⟩:=Ξ t.flat
 have HT:Hid (A6 l n=gn t 0/\fK t 0=n-1/\1<=n):=by
  refine⟨?_,?_,?_⟩
  ·rw[<-hl,<-hn];exact UU t hw
  ·unfold fK;omega
  have:=t.aZ;omega
 have Sv:Hid (∀k,k<n->∀W,ϐ w W->Calls prog 115 #[.slice a n cap,.int .i64 ((k:Nat):Int)] W (wK (k8 l k) W)):=fun k hk W hW=>by
  have hv:∀x∈l,0<=aG x.k:=by rw[<-hl];exact NZ t hw
  refine zhV l a n cap W (by rw[<-hl];exact hL.below hW) (by rw[<-hl];exact hn) (by omega) k hk (hv _ ?_) (by rw[<-hl];exact zma t hw k (by omega));rw[hl] at hn;rw[List.getD_eq_getElem?_getD,List.getElem?_eq_getElem (by omega)];exact List.getElem_mem (by omega)
 have CL:=hid (fun (W:World) (hW:ϐ w W)=>zkI t.flat a n cap W (hL.below hW) hn (by unfold maxLen;omega));rw[hc] at CL;have pd:=ζ (al w (.cells #[.int .i64 0,.slice none 0 0,.int .i64 0,.int .i64 0] 119)) (St.new w 119 #[.int .i64 0,.slice none 0 0,.int .i64 0,.int .i64 0]);obtain⟨b,hb⟩:=Ξ (n-1)
 have bQ:b+1=n:=by have:=HT.o.2.2;omega
 have Hb:=hid hb;have Rq:=hid (fun (W:World)=>Fi b (by omega) W);have Ee:=hid (fun (W:World)=>Ig b (by omega) W);obtain⟨F,hF⟩:∃F:Nat,2*b=F:=⟨_,rfl⟩
 obtain⟨T,hT⟩:∃T:Nat,2*b+1=T:=⟨_,rfl⟩
 have HFT:=ζ hF hT;rw[hF] at Rq;rw[hT] at Ee;obtain⟨S,hS⟩:∃S:Nat,2*n=S:=⟨_,rfl⟩
 have Fl:=hid hS;obtain⟨i0,hi,dP,dc,db⟩:=info_parts qg;have w0:(n:Int)-1=(b:Int):=by omega
 have w1:2*(n:Int)=S:=by omega
 clear hL hn hc hb hF hT hS hl;go_in;go_wp2_with fail;refine (CL.o _ pd.o.1).mono ?_;rintro e w2 ⟨rfl,v2⟩;have H2:=ζ (pd.o.1.trans (v2.mono pd.o.1.size)) (pd.o.2.ae v2);clear v2 CL pd;go_wp2_with fail;refine (Rq.o _).mono ?_;rintro e w3 ⟨rfl,rfl⟩;go_wp2_with fail;refine (Ee.o _).mono ?_;rintro e w3 ⟨rfl,rfl⟩;go_wp2_with fail;have xK:=al w2 (.cells #[.int .i64 (S:Int),.slice none 0 0,.int .i64 (F:Int),.int .i64 (T:Int)] 119);have H3:Hid (BM w w.heap.size w2.heap.size (.int .i64 (S:Int)) (.int .i64 (F:Int)) (.int .i64 (T:Int)) (.slice none 0 0) (A6 l 0) (w2.alloc (.cells #[.int .i64 (S:Int),.slice none 0 0,.int .i64 (F:Int),.int .i64 (T:Int)] 119))):=
  ⟨H2.o.1.trans (xK.mono H2.o.1.size),St.new _ _ _,H2.o.2.ae xK,World.ownsRow_nil _ _ _ _,Nat.ne_of_lt H2.o.2.lt,H2.o.1.size,Nat.le_refl _⟩
 clear xK H2 Rq Ee;generalize w2.alloc (.cells #[.int .i64 (S:Int),.slice none 0 0,.int .i64 (F:Int),.int .i64 (T:Int)] 119)=W1 at H3⊢;obtain⟨bn,D8⟩:=Ξ w2.heap.size
 rw[D8] at H3;rw[D8];clear D8;go_loopw [7,27] (fun _ v wr=>∃(k:Nat) (vE:Value) (E:List En),v=.int .i64 k/\k<=n/\Hid (E=A6 l k)/\Hid (BM w w.heap.size bn (.int .i64 (S:Int)) (.int .i64 (F:Int)) (.int .i64 (T:Int)) vE E wr)) (fun _ v _=>n-(intOf v).toNat)
 ·exact⟨0,_,_,rfl,by omega,rfl,H3.o⟩
 clear H3;obtain⟨k,vE,E,rfl,hk,HE,HA⟩:=hrel;obtain⟨aE,cE,rfl⟩:=cy HA.o.oe;by_cases aq:k<n
 ·have Xa:=hid (Sv.o k aq);have B6:=zqC l k;have Cg:=zpo l k;have yg:E.length<=4*k:=by rw[HE.o];exact zrC l k
  have ze:Hid (E++k8 l k=A6 l (k+1)):=by show _=_;rw[zi4,HE.o]
  have nu:Hid (BM w w.heap.size bn (.int .i64 (S:Int)) (.int .i64 (F:Int)) (.int .i64 (T:Int)) (.slice aE E.length cE) E wr.drew):=HA.o.ae (Below.refl _ _).drew;have e2:wr.cell? ⟨bn,1,none⟩=some (.slice aE E.length cE):=HA.o.s4.at_ 1;have i1:(k:Int)<n:=by omega
  go_upto_region 9 with fail;refine wp_region_held_drew (S:=fun W'=>ϐ w W'/\True) (by kernel_rfl) ⟨nu.o.below,trivial⟩ (fun η=>?_)
  (refine ay 0 ?_;refine ay 2 ?_;refine ay 3 ?_;try simp only[put,sA])
  ·refine wpAnyH_ready (rs:=[1,4]) (by kernel_rfl) (by simp) (jn (fun K hK=>?_) (jn (fun K hK=>?_) AllReadyH.nil))
   skip;go_simp;refine hK.out _ _ ⟨nu.o.below,trivial⟩ fun η=>?_;clear hK K
   try simp only[put,sA]
   refine bH 4 (fun K hK=>?_);skip;go_simp;go_at_call 115;refine (Xa.o _ nu.o.below).mono ?_;rintro e w5 ⟨a5,c5,rfl,ky,v5⟩;have vb:=hid ky;have fm:=hid (nu.o.ae v5);have e5:w5.cell? ⟨bn,1,none⟩=some (.slice aE E.length cE):=fm.o.s4.at_ 1;clear v5 ky
   try go_wp2_with fail
   refine hK.out _ _ ⟨fm.o.below,trivial⟩ fun η=>?_;clear hK K
   rotate_left
   skip;go_simp;go_at_call 115;refine (Xa.o _ nu.o.below).mono ?_;rintro e w5 ⟨a5,c5,rfl,ky,v5⟩;have vb:=hid ky;have fm:=hid (nu.o.ae v5);have e5:w5.cell? ⟨bn,1,none⟩=some (.slice aE E.length cE):=fm.o.s4.at_ 1;clear v5 ky
   try go_wp2_with fail
   refine hK.out _ _ ⟨fm.o.below,trivial⟩ fun η=>?_;clear hK K
   try simp only[put,sA]
   refine bH 1 (fun K hK=>?_);skip;go_simp;refine hK.out _ _ ⟨fm.o.below,trivial⟩ fun η=>?_;clear hK K
   rotate_left
   all_goals
    try simp only[put,sA]
    refine bH 5 (fun K hK=>?_);skip;skip;obtain⟨g5,DV,tr⟩:=VS vb.o B6;injection DV with DV _ _;subst DV;refine yX (by rfl) _ _ _ (by rfl) w.heap.size 186 i0 (.agg #[.int .i64 0,.int .i64 0,.int .u64 0,.int .u64 0,.int .u64 0,.int .u64 0,.bool false]) 7 56 underlying117 hi dP dc db (by rfl) (by decide) _ E.length (gd (E.map En.z)) (by rfl) fm.o.oe ⟨g5,0,none⟩ (k8 l k).length c5 (gd ((k8 l k).map En.z)) (by rfl) (by rw[Wr,List.length_map]) tr (YF _) (by unfold maxLen;omega) (by omega) fm.o.below.size ?_;intro v6 w6 an ag;obtain⟨a6,c6,rfl⟩:=cy an;have l6:=fm.o.s4.af fm.o.oe (by decide) ag;have IL:=hid (fm.o.app (vE':=.slice a6 (E.length+(k8 l k).length) c6) an ag);have t3:w6.cell? ⟨bn,1,none⟩=some (.slice aE E.length cE):=l6.at_ 1;have f3:=l6.bE 1;have eJ:=gu fm.o.below fm.o.oe fm.o.below.size ag;refine hK.out _ _ ⟨eJ,trivial⟩ fun η=>?_;clear hK K an ag l6 eJ
    try simp only[put,sA]
    (refine ay 6 ?_;try simp only[put,sA])
    refine bH 7 (fun K hK=>?_);skip;go_simp;refine hK.out _ _ ⟨IL.o.below,trivial⟩ fun η=>?_;clear hK K
    try simp only[put,sA]
    refine wpAnyH_done (by kernel_rfl) ?_ _;clear η;go_wp2;go_roundw
    ·exact⟨k+1,_,E++k8 l k,by go_num,by omega,ze.o,IL.o⟩
    simp[intOf];omega
 obtain rfl:k=n:=by omega
 obtain⟨p0,p1,p2,p3⟩:=HA.o.s4.eW;obtain⟨q0,q1,q2,q3,g0,g1,g2,g3⟩:=bZ HA.o.s0;have HF:Hid (yA t k w (.returned (.tuple #[.agg #[.int .i64 (S:Int),.slice aE E.length cE,.int .i64 (F:Int),.int .i64 (T:Int)],.int .i64 0])) ((((wr.setCell ⟨w.heap.size,0,none⟩ (.int .i64 (S:Int))).setCell ⟨w.heap.size,1,none⟩ (.slice aE E.length cE)).setCell ⟨w.heap.size,2,none⟩ (.int .i64 (F:Int))).setCell ⟨w.heap.size,3,none⟩ (.int .i64 (T:Int)))):=by
  have hE:E=gn t 0:=by rw[HE.o];exact HT.o.1
  unfold yA;rw[<-hE,HT.o.2.1,Hb.o,HFT.o.2,HFT.o.1,Fl.o];exact⟨aE,cE,rfl,XF HA.o.oe HA.o.s0 (by decide) _ _ _ _,td HA.o.below (Nat.le_refl _) _ _ _ _⟩
 have uf:Hid (St ((((wr.setCell ⟨w.heap.size,0,none⟩ (.int .i64 (S:Int))).setCell ⟨w.heap.size,1,none⟩ (.slice aE E.length cE)).setCell ⟨w.heap.size,2,none⟩ (.int .i64 (F:Int))).setCell ⟨w.heap.size,3,none⟩ (.int .i64 (T:Int))) 119 w.heap.size #[.int .i64 (S:Int),.slice aE E.length cE,.int .i64 (F:Int),.int .i64 (T:Int)]):=HA.o.s0.pQ _ _ _ _;go_wp2_with fail;generalize (((wr.setCell ⟨w.heap.size,0,none⟩ (.int .i64 (S:Int))).setCell ⟨w.heap.size,1,none⟩ (.slice aE E.length cE)).setCell ⟨w.heap.size,2,none⟩ (.int .i64 (F:Int))).setCell ⟨w.heap.size,3,none⟩ (.int .i64 (T:Int))=Wf at HF uf⊢;obtain⟨v0,v1,v2,v3⟩:=uf.o.eW;exact bodyPost_ret (v:=.tuple #[.agg #[.int .i64 (S:Int),.slice aE E.length cE,.int .i64 (F:Int),.int .i64 (T:Int)],.int .i64 0]) (by simp[results,results94,go_sem,v0,v1,v2,v3]) rfl HF.o
theorem Zu{l:List Pc}(h:w.ownsRow B 148 5 (.slice a n c) n (fe l))(hn:l.length=n):iq w a l:=by
 intro h0;obtain⟨g,rfl,_,hg,hc⟩:=fG h (by omega);exact⟨g,0,rfl,hg,fun j hj=>by rw[Nat.zero_add,(hc j (by omega)).1]⟩
theorem zkl(t:Rx)(hw:t.wf):∀(r:List Pc) (n:Int),0<=n->fJ (t.flat++r) n=fJ r (n+1):=by
 induction t with
 | leaf x=>
  intro r n hn;show (if lB x n=true then fJ r (n+1-aG x.k) else none)=_;have ho:lB x n=true:=by
   unfold lB;rw[hw.1,hw.2];simp;omega
  rw[if_pos ho,hw.1];congr 1;omega
 | un x a ih=>
  intro r n hn;show fJ ((a.flat++[x])++r) n=_;rw[List.append_assoc,ih hw.2.2 _ n hn];show (if lB x (n+1)=true then fJ r (n+1+1-aG x.k) else none)=_;have ho:lB x (n+1)=true:=by
   unfold lB;rw[hw.1,hw.2.1];simp;omega
  rw[if_pos ho,hw.1];congr 1;omega
 | bin x a b ih jh=>
  intro r n hn;show fJ ((a.flat++(b.flat++[x]))++r) n=_;rw[List.append_assoc,List.append_assoc,ih hw.2.2.1 _ n hn,jh hw.2.2.2 _ (n+1) (by omega)];show (if lB x (n+1+1)=true then fJ r (n+1+1+1-aG x.k) else none)=_;have ho:lB x (n+1+1)=true:=by
   unfold lB;rw[hw.1,hw.2.1];simp;omega
  rw[if_pos ho,hw.1];congr 1;omega
theorem zme(t:Rx)(hw:t.wf)(h:t.flat.length<=400):mc t.flat=0:=by
 have h1:fJ t.flat 0=some 1:=by
  have:=zkl t hw [] 0 (by omega);rw[List.append_nil] at this;rw[this];rfl
 unfold mc;rw[if_neg (by omega),if_pos h1]
def og(s:ByteArray)(er:Nat):Prop:=(er=5/\∀l,bx (dB 99) ([],aa s)≠some (l,[]))\/(er=6/\∃l,bx (dB 99) ([],aa s)=some (l,[])/\400<l.length)
def Sg(s:ByteArray)(w:World)(e:Ending)(w':World):Prop:=
 (∃er:Nat,og s er/\e=.returned (.tuple #[.agg #[.int .i64 0,.slice none 0 0,.int .i64 0,.int .i64 0],.int .i64 (er:Int)])/\ϐ w w')\/
 (∃t:Rx,t.wf/\bx (dB 99) ([],aa s)=some (t.flat,[])/\t.flat.length<=400/\yA t t.flat.length w e w')
theorem zfT(s:ByteArray)(hs:s.size<=1600)(w:World):Calls prog 81 #[.string s] w (Sg s w):=by
 have HB:=ζ (al w (.cells #[.int .i64 0,.slice none 0 0,.int .i64 0,.int .i64 0] 119)) (St.new w 119 #[.int .i64 0,.slice none 0 0,.int .i64 0,.int .i64 0]);by_cases hp:∃l,bx (dB 99) ([],aa s)=some (l,[])
 ·obtain⟨l,hl⟩:=hp;by_cases hm:400<l.length
  ·have HP:=hid (fun (W:World)=>zj6 s W hs l hl hm);have HE:Hid (og s 6):=Or.inr ⟨rfl,l,hl,hm⟩;clear hl hm;go_in;go_wp2_with fail;refine (HP.o _).mono ?_;rintro e w2 ⟨rfl,k2⟩;have H2:=ζ (HB.o.1.trans (k2.mono HB.o.1.size)) (HB.o.2.ae k2);clear k2 HP;obtain⟨q0,q1,q2,q3,g0,g1,g2,g3⟩:=bZ H2.o.2;have uf:Hid (St ((((w2.setCell ⟨w.heap.size,0,none⟩ (.int .i64 0)).setCell ⟨w.heap.size,1,none⟩ (.slice none 0 0)).setCell ⟨w.heap.size,2,none⟩ (.int .i64 0)).setCell ⟨w.heap.size,3,none⟩ (.int .i64 0)) 119 w.heap.size #[.int .i64 0,.slice none 0 0,.int .i64 0,.int .i64 0]/\ϐ w ((((w2.setCell ⟨w.heap.size,0,none⟩ (.int .i64 0)).setCell ⟨w.heap.size,1,none⟩ (.slice none 0 0)).setCell ⟨w.heap.size,2,none⟩ (.int .i64 0)).setCell ⟨w.heap.size,3,none⟩ (.int .i64 0))):=(⟨H2.o.2.pQ _ _ _ _,td H2.o.1 (Nat.le_refl _) _ _ _ _⟩);go_wp2_with fail;generalize (((w2.setCell ⟨w.heap.size,0,none⟩ (.int .i64 0)).setCell ⟨w.heap.size,1,none⟩ (.slice none 0 0)).setCell ⟨w.heap.size,2,none⟩ (.int .i64 0)).setCell ⟨w.heap.size,3,none⟩ (.int .i64 0)=Wf at uf⊢;obtain⟨v0,v1,v2,v3⟩:=uf.o.1.eW;exact bodyPost_ret (v:=.tuple #[.agg #[.int .i64 0,.slice none 0 0,.int .i64 0,.int .i64 0],.int .i64 6]) (by simp[results,results81,go_sem,v0,v1,v2,v3]) rfl (Or.inl ⟨6,HE.o,rfl,uf.o.2⟩)
  obtain⟨t,hw,rfl⟩:=ze3 (Al s) hl;have hle:t.flat.length<=400:=by omega
  have HP:=hid (fun (W:World)=>zl1 s W hs t.flat hl hle);have HT:=ξ hw hl hle;have Ym:=zme t hw hle;have ke:=hid (fun (a:Option Addr) (cap:Nat) (W:World) (hL:iq W a t.flat)=>zqD t hw a t.flat.length cap W hL rfl Ym hle);clear hl hm hw Ym;obtain⟨n,hn⟩:=Ξ t.flat.length
  have Hn:=hid hn;rw[hn] at HP ke hle;clear hn;go_in;go_wp2_with fail;refine (HP.o _).mono ?_;rintro e w2 ⟨a2,c2,rfl,ho2,k2⟩;have H2:=ξ (HB.o.1.trans (k2.mono HB.o.1.size)) (HB.o.2.ae k2) (Zu ho2 Hn.o);clear k2 HP ho2;have pn:=hid (ke.o a2 c2 w2 H2.o.2.2);go_wp2_with fail;refine pn.o.mono ?_;rintro e w3 ⟨a3,c3,rfl,ho3,k3⟩;have H3:=ξ (H2.o.1.trans (k3.mono H2.o.1.size)) (H2.o.2.1.ae k3) (jH ho3 H2.o.1.size);clear k3 ho3 pn ke;obtain⟨S,hS⟩:∃S:Nat,2*n=S:=⟨_,rfl⟩
  obtain⟨F,hF⟩:∃F:Nat,2*fK t 0=F:=⟨_,rfl⟩
  obtain⟨T,hT⟩:∃T:Nat,2*fK t 0+1=T:=⟨_,rfl⟩
  obtain⟨m,jR⟩:=Ξ ((gn t 0).length)
  have HQ:=ψ hS hF hT jR;rw[jR] at H3;rw[hT,hS,hF,jR];clear hS hF hT jR;obtain⟨q0,q1,q2,q3,g0,g1,g2,g3⟩:=bZ H3.o.2.1;have uf:Hid (St ((((w3.setCell ⟨w.heap.size,0,none⟩ (.int .i64 (S:Int))).setCell ⟨w.heap.size,1,none⟩ (.slice a3 m c3)).setCell ⟨w.heap.size,2,none⟩ (.int .i64 (F:Int))).setCell ⟨w.heap.size,3,none⟩ (.int .i64 (T:Int))) 119 w.heap.size #[.int .i64 (S:Int),.slice a3 m c3,.int .i64 (F:Int),.int .i64 (T:Int)]/\ϐ w ((((w3.setCell ⟨w.heap.size,0,none⟩ (.int .i64 (S:Int))).setCell ⟨w.heap.size,1,none⟩ (.slice a3 m c3)).setCell ⟨w.heap.size,2,none⟩ (.int .i64 (F:Int))).setCell ⟨w.heap.size,3,none⟩ (.int .i64 (T:Int)))/\((((w3.setCell ⟨w.heap.size,0,none⟩ (.int .i64 (S:Int))).setCell ⟨w.heap.size,1,none⟩ (.slice a3 m c3)).setCell ⟨w.heap.size,2,none⟩ (.int .i64 (F:Int))).setCell ⟨w.heap.size,3,none⟩ (.int .i64 (T:Int))).ownsRow w.heap.size 186 7 (.slice a3 m c3) m (gd ((gn t 0).map En.z))):=⟨H3.o.2.1.pQ _ _ _ _,td H3.o.1 (Nat.le_refl _) _ _ _ _,XF H3.o.2.2 H3.o.2.1 (by decide) _ _ _ _⟩
  go_wp2_with fail;generalize (((w3.setCell ⟨w.heap.size,0,none⟩ (.int .i64 (S:Int))).setCell ⟨w.heap.size,1,none⟩ (.slice a3 m c3)).setCell ⟨w.heap.size,2,none⟩ (.int .i64 (F:Int))).setCell ⟨w.heap.size,3,none⟩ (.int .i64 (T:Int))=Wf at uf⊢;obtain⟨v0,v1,v2,v3⟩:=uf.o.1.eW;refine bodyPost_ret (v:=.tuple #[.agg #[.int .i64 (S:Int),.slice a3 m c3,.int .i64 (F:Int),.int .i64 (T:Int)],.int .i64 0]) (by simp[results,results81,go_sem,v0,v1,v2,v3]) rfl (Or.inr ⟨t,HT.o.1,HT.o.2.1,HT.o.2.2,?_⟩);unfold yA;rw[Hn.o,HQ.o.1,HQ.o.2.2.1,HQ.o.2.1,HQ.o.2.2.2];exact⟨a3,c3,rfl,uf.o.2.2,uf.o.2.1⟩
 have jv:∀l,bx (dB 99) ([],aa s)≠some (l,[]):=fun l h=>hp ⟨l,h⟩
 have HP:=hid (fun (W:World)=>zn6 s W hs jv);have HE:Hid (og s 5):=Or.inl ⟨rfl,jv⟩;clear jv hp;go_in;go_wp2_with fail;refine (HP.o _).mono ?_;rintro e w2 ⟨rfl,k2⟩;have H2:=ζ (HB.o.1.trans (k2.mono HB.o.1.size)) (HB.o.2.ae k2);clear k2 HP;obtain⟨q0,q1,q2,q3,g0,g1,g2,g3⟩:=bZ H2.o.2;have uf:Hid (St ((((w2.setCell ⟨w.heap.size,0,none⟩ (.int .i64 0)).setCell ⟨w.heap.size,1,none⟩ (.slice none 0 0)).setCell ⟨w.heap.size,2,none⟩ (.int .i64 0)).setCell ⟨w.heap.size,3,none⟩ (.int .i64 0)) 119 w.heap.size #[.int .i64 0,.slice none 0 0,.int .i64 0,.int .i64 0]/\ϐ w ((((w2.setCell ⟨w.heap.size,0,none⟩ (.int .i64 0)).setCell ⟨w.heap.size,1,none⟩ (.slice none 0 0)).setCell ⟨w.heap.size,2,none⟩ (.int .i64 0)).setCell ⟨w.heap.size,3,none⟩ (.int .i64 0))):=⟨H2.o.2.pQ _ _ _ _,td H2.o.1 (Nat.le_refl _) _ _ _ _⟩
 go_wp2_with fail;generalize (((w2.setCell ⟨w.heap.size,0,none⟩ (.int .i64 0)).setCell ⟨w.heap.size,1,none⟩ (.slice none 0 0)).setCell ⟨w.heap.size,2,none⟩ (.int .i64 0)).setCell ⟨w.heap.size,3,none⟩ (.int .i64 0)=Wf at uf⊢;obtain⟨v0,v1,v2,v3⟩:=uf.o.1.eW;exact bodyPost_ret (v:=.tuple #[.agg #[.int .i64 0,.slice none 0 0,.int .i64 0,.int .i64 0],.int .i64 5]) (by simp[results,results81,go_sem,v0,v1,v2,v3]) rfl (Or.inl ⟨5,HE.o,rfl,uf.o.2⟩)
