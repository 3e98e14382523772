import Derived.Test.YtkkhakmdjinenaaGreatZPParse
import Derived.Test.YtkkhakmdjinenaaGreatZQEof
set_option linter.all false
set_option maxHeartbeats 4000000
set_option maxRecDepth 100000
open Go.Lib (hid)
namespace Go.Proofs.YtkkhakmdjinenaaGreat
open Go.RowKit Go.Proofs.Tryz
open Act (put)
variable {B c n:Nat}{a:Option Addr}{atom:bc->Option bc}{k:Int}{l r:List Nat}{w:World}
theorem zj2(p:Nat->Bool)(h:ep p=true):∀b,b<256->p b=false:=by
 intro b hb;have e:dd p 256=[]:=List.length_eq_zero_iff.1 (by simpa [ep] using h);rcases hp:p b with _|_
 ·rfl
 have:=(Lc p 256 b).2 ⟨hb,hp⟩;rw[e] at this;simp at this
def oC(l:List Nat):Prop:=∀x∈l,x<256
theorem oC.drop(h:oC l)(k:Nat):oC (l.drop k):=fun x hx=>h x (List.mem_of_mem_drop hx)
theorem oC.tail(h:oC (c :: l)):oC l:=fun x hx=>h x (List.mem_cons_of_mem _ hx)
theorem oC.skip{s:List Nat}(h:oC s)(e:aw c s=some r):oC r:=by
 have:=vf e;subst this;exact h.tail
def CW(b:List Pc)(s':bc):Prop:=(∃t:Rx,t.wf/\s'.1=b++t.flat)/\oC s'.2
def uh(g:bc->Option bc):Prop:=∀s s',oC s.2->g s=some s'->CW s.1 s'
theorem Vo{p:Nat->Bool}{b:Nat}(hb:b<256)(h:p b=true):ep p=false:=by
 cases e:ep p with
 | false=>rfl
 | true=>exact absurd (zj2 p e b hb) (by rw[h];decide)
theorem YD:ep aJ=true:=by decide +kernel
theorem zlH:ep (fun _=>true)=false:=Vo (b:=0) (by omega) rfl
theorem PJ{p:Nat->Bool}(h:ep p=false):(Rx.leaf ⟨1,p⟩).wf:=⟨by show aH 1=0;decide,by unfold jt;rw[h];rfl⟩
theorem znt:(Rx.leaf ⟨0,aJ⟩).wf:=⟨by show aH 0=0;decide,by unfold jt;rw[YD];rfl⟩
theorem KB(hk:(k == 1)=false):jt ⟨k,aJ⟩=true:=by
 unfold jt;rw[YD];show (true != (k == 1))=true;rw[hk];rfl
theorem znu(h:eC c=some k):aH k=1/\jt ⟨k,aJ⟩=true:=by
 unfold eC at h;split at h
 ·injection h with h;subst h;exact⟨by decide,KB rfl⟩
 split at h
 ·injection h with h;subst h;exact⟨by decide,KB rfl⟩
 split at h
 ·injection h with h;subst h;exact⟨by decide,KB rfl⟩
 cases h
theorem zj3:∀(r:List Nat) (b acc:List Pc),oC r->(∃t:Rx,t.wf/\acc=b++t.flat)->CW b (bx r acc):=by
 intro r
 induction r with
 | nil=>intro b acc h ht;exact⟨ht,h⟩
 | cons c r ih=>
  intro b acc h ht
  show CW b (match eC c with|some k=>bx r (acc++[⟨k,aJ⟩])|none=>(acc,c :: r))
  cases hs:eC c with
  | none=>exact⟨ht,h⟩
  | some k=>
   obtain⟨t,hw,e⟩:=ht;have hk:=znu hs;exact ih b _ h.tail ⟨.un ⟨k,aJ⟩ t,⟨hk.1,hk.2,hw⟩,by rw[e];simp[Rx.flat]⟩
theorem Xr(h:uh atom):uh (cq atom):=by
 intro s s' hb e;unfold cq at e;cases ha:atom s with
 | none=>rw[ha] at e;cases e
 | some x=>
  rw[ha] at e;injection e with e;subst e;have:=h s x hb ha;exact zj3 x.2 s.1 x.1 this.2 this.1
theorem zj4(h:uh atom):∀(f:Nat) (b:List Pc) (s s':bc),CW b s->aY atom f s=some s'->CW b s':=by
 intro f
 induction f with
 | zero=>intro b s s' _ e;cases e
 | succ f ih=>
  intro b s s' hg e;unfold aY at e;split at e
  ·injection e with e;subst e;exact hg
  cases ha:cq atom s with
  | none=>rw[ha] at e;cases e
  | some x=>
   simp only[ha] at e;obtain⟨⟨u,hu,e1⟩,lu⟩:=Xr h s x hg.2 ha;obtain⟨⟨t,ht,e2⟩,_⟩:=hg;refine ih b (x.1++[⟨2,aJ⟩],x.2) s' ⟨⟨.bin ⟨2,aJ⟩ t u,⟨by decide,KB rfl,ht,hu⟩,?_⟩,lu⟩ e;show x.1++[⟨2,aJ⟩]=_;rw[e1,e2];simp[Rx.flat]
theorem ziZ(h:uh atom):uh (cm atom):=by
 intro s s' hb e;unfold cm at e;cases ha:cq atom s with
 | none=>rw[ha] at e;cases e
 | some x=>
  rw[ha] at e;exact zj4 h _ s.1 x s' (Xr h s x hb ha) e
theorem zj5(h:uh atom):∀(f:Nat) (b:List Pc) (s s':bc),CW b s->aX atom f s=some s'->CW b s':=by
 intro f
 induction f with
 | zero=>intro b s s' _ e;cases e
 | succ f ih=>
  intro b s s' hg e
  unfold aX at e
  cases hk:aw 124 s.2 with
  | none=>rw[hk] at e;injection e with e;subst e;exact hg
  | some r=>
   simp only[hk] at e
   cases ha:cm atom (s.1,r) with
   | none=>simp only[ha] at e;cases e
   | some x=>
    simp only[ha] at e;obtain⟨⟨u,hu,e1⟩,lu⟩:=ziZ h (s.1,r) x (hg.2.skip hk) ha;obtain⟨⟨t,ht,e2⟩,_⟩:=hg;refine ih b (x.1++[⟨3,aJ⟩],x.2) s' ⟨⟨.bin ⟨3,aJ⟩ t u,⟨by decide,KB rfl,ht,hu⟩,?_⟩,lu⟩ e;show x.1++[⟨3,aJ⟩]=_;rw[e1];show (s.1++u.flat)++_=_;rw[e2];simp[Rx.flat]
theorem YV(h:uh atom):uh (bh atom):=by
 intro s s' hb e;unfold bh at e;cases ha:cm atom s with
 | none=>rw[ha] at e;cases e
 | some x=>
  rw[ha] at e;exact zj5 h _ s.1 x s' (ziZ h s x hb ha) e
theorem zj6(h:uh atom):uh (dZ atom):=by
 intro s s' hb e;unfold dZ at e;cases ha:bh atom s with
 | none=>rw[ha] at e;cases e
 | some x=>
  rw[ha] at e
  have hx:=YV h s x hb ha
  cases hk:aw 41 x.2 with
  | none=>simp only[hk] at e;cases e
  | some r=>
   simp only[hk] at e;injection e with e;subst e;exact⟨hx.1,hx.2.skip hk⟩
theorem Ol{sp:ByteArray}{s:List Nat}(hb:oC s)(h:aI sp s=some (c,r)):c<256/\oC r:=by
 unfold aI at h;split at h
 ·injection h with h;injection h with h1 h2;subst h1 h2;exact⟨(Fc s hb).1,hb.drop _⟩
 cases h
theorem zj7{s:List Nat}{a:Nat}(hb:oC s)(h:cH s=some (a,c,r)):oC r:=by
 unfold cH at h;cases h1:aI du s with
 | none=>rw[h1] at h;cases h
 | some x=>
  obtain⟨a1,r1⟩:=x
  rw[h1] at h
  have Bs:=(Ol hb h1).2
  cases h2:aw 45 r1 with
  | none=>simp only[h2] at h;injection h with h;injection h with _ h;injection h with _ h;subst h;exact Bs
  | some r2=>
   simp only[h2] at h
   cases h3:aI du r2 with
   | none=>simp only[h3] at h;cases h
   | some y=>
    obtain⟨c1,r3⟩:=y;simp only[h3] at h;split at h
    ·injection h with h;injection h with _ h;injection h with _ h;subst h;exact (Ol (Bs.skip h2) h3).2
    cases h
theorem Zj:∀(f:Nat) (q:Nat->Bool) (s:List Nat) (q':Nat->Bool) (r:List Nat),oC s->aD f q s=some (q',r)->oC r:=by
 intro f
 induction f with
 | zero=>intro q s q' r _ h;cases h
 | succ f ih=>
  intro q s q' r hb h
  unfold aD at h
  cases h1:aw 93 s with
  | some r1=>simp only[h1] at h;injection h with h;injection h with _ h;subst h;exact hb.skip h1
  | none=>
   simp only[h1] at h
   cases h2:cH s with
   | none=>simp only[h2] at h;cases h
   | some y=>
    obtain⟨a,c,r1⟩:=y;simp only[h2] at h;exact ih _ r1 q' r (zj7 hb h2) h
theorem znv{s:List Nat}{q:Nat->Bool}(hb:oC s)(h:dW s=some (q,r)):ep q=false/\oC r:=by
 unfold dW at h;cases h1:aw 94 s with
 | some r1=>
  simp only[h1] at h
  cases h2:aD (r1.length+1) aJ r1 with
  | none=>simp only[h2] at h;cases h
  | some y=>
   obtain⟨q1,r2⟩:=y;simp only[h2] at h;split at h
   ·cases h
   rename_i hn;injection h with h;injection h with e1 e2;subst e1 e2;exact⟨by simpa using hn,Zj _ _ _ _ _ (hb.skip h1) h2⟩
 | none=>
  simp only[h1] at h
  cases h2:aD (s.length+1) aJ s with
  | none=>simp only[h2] at h;cases h
  | some y=>
   obtain⟨q1,r2⟩:=y;simp only[h2] at h;split at h
   ·cases h
   rename_i hn;injection h with h;injection h with e1 e2;subst e1 e2;exact⟨by simpa using hn,Zj _ _ _ _ _ hb h2⟩
theorem XE{group:bc->Option bc}(h:uh group):uh (aW group):=by
 intro s s' hb e;unfold aW at e;cases h1:aw 46 s.2 with
 | some r=>
  simp only[h1] at e;injection e with e;subst e;exact⟨⟨.leaf ⟨1,fun _=>true⟩,PJ zlH,rfl⟩,hb.skip h1⟩
 | none=>
  simp only[h1] at e
  cases h2:aw 126 s.2 with
  | some r=>
   simp only[h2] at e;injection e with e;subst e;exact⟨⟨.leaf ⟨0,aJ⟩,znt,rfl⟩,hb.skip h2⟩
  | none=>
   simp only[h2] at e
   cases h3:aw 40 s.2 with
   | some r=>
    simp only[h3] at e;exact h (s.1,r) s' (hb.skip h3) e
   | none=>
    simp only[h3] at e
    cases h4:aw 91 s.2 with
    | some r=>
     simp only[h4] at e
     cases h5:dW r with
     | none=>simp only[h5] at e;cases e
     | some y=>
      obtain⟨q,r1⟩:=y;simp only[h5] at e;injection e with e;subst e;have:=znv (hb.skip h4) h5;exact⟨⟨.leaf ⟨1,q⟩,PJ this.1,rfl⟩,this.2⟩
    | none=>
     simp only[h4] at e
     cases h5:aI nC s.2 with
     | none=>simp only[h5] at e;cases e
     | some y=>
      obtain⟨c,r⟩:=y;simp only[h5] at e;injection e with e;subst e;have:=Ol hb h5;exact⟨⟨.leaf ⟨1,eH (fun _=>c) 1⟩,PJ (Vo this.1 ((TC _ 1 c).2 ⟨0,by omega,rfl⟩)),rfl⟩,this.2⟩
theorem znw:∀D,uh (dB D):=by
 intro D
 induction D with
 | zero=>exact XE (fun s s' _ e=>by cases e)
 | succ D ih=>exact XE (zj6 ih)
theorem WI{s:List Nat}{l:List Pc}(hb:oC s)(h:bh (dB 99) ([],s)=some (l,[])):∃t:Rx,t.wf/\t.flat=l:=by
 obtain⟨⟨t,hw,e⟩,_⟩:=YV (znw 99) ([],s) (l,[]) hb h;exact⟨t,hw,by simpa using e.symm⟩
open Go.Maps Go.WideElems Go.ChangeMaps Go.MapKept
structure zw (W0:World)(br bn:Nat)(cN cF cT:Value)(vE:Value)(E:List En)(w:World):Prop where
 below:Below W0.heap.size W0 w
 s4:St w 55 bn #[cN,vE,cF,cT]
 s0:St w 55 br #[.int .i64 0,.slice none 0 0,.int .i64 0,.int .i64 0]
 oe:w.ownsRow W0.heap.size 117 7 vE E.length (dj (E.map En.z))
 ne:br≠bn
 lo:W0.heap.size<=bn/\W0.heap.size<=br
theorem zw.ab{W0 w':World}{br bn:Nat}{cN cF cT vE:Value}{E:List En}(h:zw W0 br bn cN cF cT vE E w)(k:Below w.heap.size w w'):zw W0 br bn cN cF cT vE E w':=
 ⟨h.below.trans (k.mono h.below.size),h.s4.ab k,h.s0.ab k,cY h.oe k,h.ne,h.lo⟩
theorem zw.app{W0 w w':World}{br bn:Nat}{cN cF cT vE vE':Value}{E L:List En}(h:zw W0 br bn cN cF cT vE E w)(ho:w'.ownsRow W0.heap.size 117 7 vE' (E.length+L.length) (dj (E.map En.z)++dj (L.map En.z)))(hg:w.grownBy w' vE.ownBlock):
  zw W0 br bn cN cF cT vE' (E++L) (w'.setCell ⟨bn,1,none⟩ vE'):=by
 have h4:=h.s4.ae h.oe (by decide) hg;refine⟨(fG h.below h.oe h.below.size hg).setCell (p:=⟨bn,1,none⟩) h.lo.1 _,?_,(h.s0.ae h.oe (by decide) hg).fA (p:=⟨bn,1,none⟩) h.ne _,?_,h.ne,h.lo⟩
 ·have:=h4.set 1 vE';simpa using this
 rw[List.length_append,List.map_append,Ui];exact jz ho h4 (by decide) 1 vE'
theorem V8{xs:List Value}(h:w.ownsRow B 117 7 (.slice a n c) n xs)(hn:0<n):∃g,Value.slice a n c=.slice (some ⟨g,0,none⟩) n c/\∀j u,xs[j]?=some u->w.cell? ((⟨g,0,none⟩:Addr).add j)=some u:=by
 obtain⟨g,e,_,_,hc⟩:=ek h hn;refine⟨g,by rw[e],fun j u hj=>?_⟩;have hl:=(List.getElem?_eq_some_iff.1 hj).1;rw[h.1] at hl;have e2:(⟨g,0,none⟩:Addr).add j=⟨g,j,none⟩:=by unfold Addr.add;split <;> simp_all
 rw[e2,(hc j hl).1,hj]
theorem zpG(l:List Pc)(i:Nat):1<=(kz l i).length:=by
 unfold kz;split
 ·simp[eZ]
 split
 ·unfold di;split <;> simp
 simp[gv]
theorem zoH(l:List Pc)(i:Nat):(kz l i).length<=4:=by
 unfold kz;split
 ·unfold eZ;split <;> split <;> simp
 split
 ·unfold di;split <;> simp
 simp[gv]
def Av(l:List Pc)(k:Nat):List En:=(List.range k).flatMap (kz l)
theorem Z9(l:List Pc)(k:Nat):Av l (k+1)=Av l k++kz l k:=by unfold Av;rw[List.range_succ,List.flatMap_append];simp
theorem zqu(l:List Pc)(k:Nat):(Av l k).length<=4*k:=by
 induction k with
 | zero=>simp[Av]
 | succ k ih=>rw[Z9,List.length_append];have:=zoH l k;omega
def sY(t:Rx)(n:Nat)(w:World)(e:Ending)(w':World):Prop:=
 ∃a c,e=.returned (.tuple #[.agg #[.int .i64 ((2*n:Nat):Int),.slice a (eJ t 0).length c,.int .i64 ((2*eB t 0:Nat):Int),.int .i64 ((2*eB t 0+1:Nat):Int)],.int .i64 0])/\
  w'.ownsRow w.heap.size 117 7 (.slice a (eJ t 0).length c) (eJ t 0).length (dj ((eJ t 0).map En.z))/\Below w.heap.size w w'
theorem zpH(t:Rx)(hw:t.wf)(a:Option Addr)(n cap:Nat)(w:World)(hL:gP w a t.flat)(hn:t.flat.length=n)(hc:lH t.flat=0)(dK:n<=400):
  Calls prog 48 #[.slice a n cap] w (sY t n w):=by
 obtain⟨l,hl⟩:∃l,t.flat=l:=⟨_,rfl⟩
 have HT:Hid (Av l n=eJ t 0/\eB t 0=n-1/\1<=n):=by
  refine⟨?_,?_,?_⟩
  ·rw[<-hl,<-hn];exact Ra t hw
  ·unfold eB;omega
  have:=t.aZ;omega
 have O1:Hid (∀k,k<n->∀W,Below w.heap.size w W->Calls prog 87 #[.slice a n cap,.int .i64 ((k:Nat):Int)] W (vl (kz l k) W)):=fun k hk W hW=>by
  have hv:∀x∈l,0<=aH x.k:=by rw[<-hl];exact M5 t hw
  refine zhV l a n cap W (by rw[<-hl];exact hL.below hW) (by rw[<-hl];exact hn) (by omega) k hk (hv _ ?_) (by rw[<-hl];exact zlE t hw k (by omega));rw[hl] at hn;rw[List.getD_eq_getElem?_getD,List.getElem?_eq_getElem (by omega)];exact List.getElem_mem (by omega)
 have BN:=hid (fun (W:World) (hW:Below w.heap.size w W)=>zkt t.flat a n cap W (hL.below hW) hn (by unfold maxLen;omega));rw[hc] at BN;have oq:=hid (Zz (al w (.cells #[.int .i64 0,.slice none 0 0,.int .i64 0,.int .i64 0] 55)) (St.new w 55 #[.int .i64 0,.slice none 0 0,.int .i64 0,.int .i64 0]));obtain⟨b,hb⟩:∃b,n-1=b:=⟨_,rfl⟩
 have bD:b+1=n:=by have:=HT.out.2.2;omega
 have Hb:=hid hb;have O3:=hid (fun (W:World)=>Cb b (by omega) W);have Ek:=hid (fun (W:World)=>ED b (by omega) W);obtain⟨F,hF⟩:∃F:Nat,2*b=F:=⟨_,rfl⟩
 obtain⟨T,hT⟩:∃T:Nat,2*b+1=T:=⟨_,rfl⟩
 have X7:=hid (Zz hF hT);rw[hF] at O3;rw[hT] at Ek;obtain⟨S,hS⟩:∃S:Nat,2*n=S:=⟨_,rfl⟩
 have CO:=hid hS;obtain⟨i0,hi,dy,cJ,cv⟩:=info_parts jU;have w0:(n:Int)-1=(b:Int):=by omega
 have w1:2*(n:Int)=S:=by omega
 clear hL hn hc hb hF hT hS hl;go_in;go_wp2_with fail;refine (BN.out _ oq.out.1).mono ?_;rintro e w2 ⟨rfl,v2⟩;have H2:=hid (Zz (oq.out.1.trans (v2.mono oq.out.1.size)) (oq.out.2.ab v2));clear v2 BN oq;go_wp2_with fail;refine (O3.out _).mono ?_;rintro e w3 ⟨rfl,rfl⟩;go_wp2_with fail;refine (Ek.out _).mono ?_;rintro e w3 ⟨rfl,rfl⟩;go_wp2_with fail;have qs:=al w2 (.cells #[.int .i64 (S:Int),.slice none 0 0,.int .i64 (F:Int),.int .i64 (T:Int)] 55);have H3:Hid (zw w w.heap.size w2.heap.size (.int .i64 (S:Int)) (.int .i64 (F:Int)) (.int .i64 (T:Int)) (.slice none 0 0) (Av l 0) (w2.alloc (.cells #[.int .i64 (S:Int),.slice none 0 0,.int .i64 (F:Int),.int .i64 (T:Int)] 55))):=
  ⟨H2.out.1.trans (qs.mono H2.out.1.size),St.new _ _ _,H2.out.2.ab qs,World.ownsRow_nil _ _ _ _,Nat.ne_of_lt H2.out.2.lt,H2.out.1.size,Nat.le_refl _⟩
 clear qs H2 O3 Ek;generalize w2.alloc (.cells #[.int .i64 (S:Int),.slice none 0 0,.int .i64 (F:Int),.int .i64 (T:Int)] 55)=W1 at H3⊢;obtain⟨bn,C5⟩:∃bn,w2.heap.size=bn:=⟨_,rfl⟩
 rw[C5] at H3;rw[C5];clear C5;go_loopw [7,27] (fun _ v wr=>∃(k:Nat) (vE:Value) (E:List En),v=.int .i64 k/\k<=n/\Hid (E=Av l k)/\Hid (zw w w.heap.size bn (.int .i64 (S:Int)) (.int .i64 (F:Int)) (.int .i64 (T:Int)) vE E wr)) (fun _ v _=>n-(intOf v).toNat)
 ·exact⟨0,_,_,rfl,by omega,rfl,H3.out⟩
 clear H3;obtain⟨k,vE,E,rfl,hk,HE,HA⟩:=hrel;obtain⟨aE,cE,rfl⟩:=bP HA.out.oe;by_cases aq:k<n
 ·have Uo:=hid (O1.out k aq);have tK:=zpG l k;have BJ:=zoH l k;have wK:E.length<=4*k:=by rw[HE.out];exact zqu l k
  have EB:Hid (E++kz l k=Av l (k+1)):=by show _=_;rw[Z9,HE.out]
  have iD:Hid (zw w w.heap.size bn (.int .i64 (S:Int)) (.int .i64 (F:Int)) (.int .i64 (T:Int)) (.slice aE E.length cE) E wr.drew):=HA.out.ab (Below.refl _ _).drew;have e2:wr.cell? ⟨bn,1,none⟩=some (.slice aE E.length cE):=HA.out.s4.at_ 1;have i1:(k:Int)<n:=by omega
  go_upto_region 9 with fail;refine wp_region_held_drew (S:=fun W'=>Below w.heap.size w W'/\True) (by kernel_rfl) ⟨iD.out.below,trivial⟩ (fun hHeld=>?_)
  (refine an 0 ?_;refine an 2 ?_;refine an 3 ?_;try simp only[put,sA])
  refine wpAnyH_ready (rs:=[1,4]) (by kernel_rfl) (by simp) ?_;refine gG (fun K hK=>?_) ?_
  ·skip;go_simp;refine hK.out _ _ ⟨iD.out.below,trivial⟩ fun hHeld=>?_;clear hK K
   try simp only[put,sA]
   refine bf 4 (fun K hK=>?_);skip;go_simp;go_at_call 87;refine (Uo.out _ iD.out.below).mono ?_;rintro e w5 ⟨a5,c5,rfl,jk,v5⟩;have qP:=hid jk;have dr:=hid (iD.out.ab v5);have e5:w5.cell? ⟨bn,1,none⟩=some (.slice aE E.length cE):=dr.out.s4.at_ 1;clear v5 jk
   try go_wp2_with fail
   refine hK.out _ _ ⟨dr.out.below,trivial⟩ fun hHeld=>?_;clear hK K
   try simp only[put,sA]
   refine bf 5 (fun K hK=>?_);skip;skip;obtain⟨g5,Ck,rZ⟩:=V8 qP.out tK;injection Ck with Ck _ _;subst Ck;refine sa (by rfl) _ _ _ (by rfl) w.heap.size 117 i0 (.agg #[.int .i64 0,.int .i64 0,.int .u64 0,.int .u64 0,.int .u64 0,.int .u64 0,.bool false]) 7 56 underlying53 hi dy cJ cv (by rfl) (by decide) _ E.length (dj (E.map En.z)) (by rfl) dr.out.oe ⟨g5,0,none⟩ (kz l k).length c5 (dj ((kz l k).map En.z)) (by rfl) (by rw[MJ,List.length_map]) rZ (KL _) (by unfold maxLen;omega) (by omega) dr.out.below.size ?_;intro v6 w6 aj af;obtain⟨a6,c6,rfl⟩:=bP aj;have fe:=dr.out.s4.ae dr.out.oe (by decide) af;have pD:=hid (dr.out.app (vE':=.slice a6 (E.length+(kz l k).length) c6) aj af);have t3:w6.cell? ⟨bn,1,none⟩=some (.slice aE E.length cE):=fe.at_ 1;have f3:=fe.bb 1;have eI:=fG dr.out.below dr.out.oe dr.out.below.size af;refine hK.out _ _ ⟨eI,trivial⟩ fun hHeld=>?_;clear hK K aj af fe eI
   try simp only[put,sA]
   (refine an 6 ?_;try simp only[put,sA])
   refine bf 7 (fun K hK=>?_);skip;go_simp;refine hK.out _ _ ⟨pD.out.below,trivial⟩ fun hHeld=>?_;clear hK K
   try simp only[put,sA]
   refine wpAnyH_done (by kernel_rfl) ?_ _;clear hHeld;go_wp2;go_roundw
   ·exact⟨k+1,_,E++kz l k,by go_num,by omega,EB.out,pD.out⟩
   simp[intOf];omega
  refine gG (fun K hK=>?_) ?_
  ·skip;go_simp;go_at_call 87;refine (Uo.out _ iD.out.below).mono ?_;rintro e w5 ⟨a5,c5,rfl,jk,v5⟩;have qP:=hid jk;have dr:=hid (iD.out.ab v5);have e5:w5.cell? ⟨bn,1,none⟩=some (.slice aE E.length cE):=dr.out.s4.at_ 1;clear v5 jk
   try go_wp2_with fail
   refine hK.out _ _ ⟨dr.out.below,trivial⟩ fun hHeld=>?_;clear hK K
   try simp only[put,sA]
   refine bf 1 (fun K hK=>?_);skip;go_simp;refine hK.out _ _ ⟨dr.out.below,trivial⟩ fun hHeld=>?_;clear hK K
   try simp only[put,sA]
   refine bf 5 (fun K hK=>?_);skip;skip;obtain⟨g5,Ck,rZ⟩:=V8 qP.out tK;injection Ck with Ck _ _;subst Ck;refine sa (by rfl) _ _ _ (by rfl) w.heap.size 117 i0 (.agg #[.int .i64 0,.int .i64 0,.int .u64 0,.int .u64 0,.int .u64 0,.int .u64 0,.bool false]) 7 56 underlying53 hi dy cJ cv (by rfl) (by decide) _ E.length (dj (E.map En.z)) (by rfl) dr.out.oe ⟨g5,0,none⟩ (kz l k).length c5 (dj ((kz l k).map En.z)) (by rfl) (by rw[MJ,List.length_map]) rZ (KL _) (by unfold maxLen;omega) (by omega) dr.out.below.size ?_;intro v6 w6 aj af;obtain⟨a6,c6,rfl⟩:=bP aj;have fe:=dr.out.s4.ae dr.out.oe (by decide) af;have pD:=hid (dr.out.app (vE':=.slice a6 (E.length+(kz l k).length) c6) aj af);have t3:w6.cell? ⟨bn,1,none⟩=some (.slice aE E.length cE):=fe.at_ 1;have f3:=fe.bb 1;have eI:=fG dr.out.below dr.out.oe dr.out.below.size af;refine hK.out _ _ ⟨eI,trivial⟩ fun hHeld=>?_;clear hK K aj af fe eI
   try simp only[put,sA]
   (refine an 6 ?_;try simp only[put,sA])
   refine bf 7 (fun K hK=>?_);skip;go_simp;refine hK.out _ _ ⟨pD.out.below,trivial⟩ fun hHeld=>?_;clear hK K
   try simp only[put,sA]
   refine wpAnyH_done (by kernel_rfl) ?_ _;clear hHeld;go_wp2;go_roundw
   ·exact⟨k+1,_,E++kz l k,by go_num,by omega,EB.out,pD.out⟩
   simp[intOf];omega
  exact AllReadyH.nil
 obtain rfl:k=n:=by omega
 obtain⟨p0,p1,p2,p3⟩:=HA.out.s4.bZ;obtain⟨q0,q1,q2,q3,g0,g1,g2,g3⟩:=bS HA.out.s0;have HF:Hid (sY t k w (.returned (.tuple #[.agg #[.int .i64 (S:Int),.slice aE E.length cE,.int .i64 (F:Int),.int .i64 (T:Int)],.int .i64 0])) ((((wr.setCell ⟨w.heap.size,0,none⟩ (.int .i64 (S:Int))).setCell ⟨w.heap.size,1,none⟩ (.slice aE E.length cE)).setCell ⟨w.heap.size,2,none⟩ (.int .i64 (F:Int))).setCell ⟨w.heap.size,3,none⟩ (.int .i64 (T:Int)))):=by
  have hE:E=eJ t 0:=by rw[HE.out];exact HT.out.1
  unfold sY;rw[<-hE,HT.out.2.1,Hb.out,X7.out.2,X7.out.1,CO.out];exact⟨aE,cE,rfl,E9 HA.out.oe HA.out.s0 (by decide) _ _ _ _,qy HA.out.below (Nat.le_refl _) _ _ _ _⟩
 have oU:Hid (St ((((wr.setCell ⟨w.heap.size,0,none⟩ (.int .i64 (S:Int))).setCell ⟨w.heap.size,1,none⟩ (.slice aE E.length cE)).setCell ⟨w.heap.size,2,none⟩ (.int .i64 (F:Int))).setCell ⟨w.heap.size,3,none⟩ (.int .i64 (T:Int))) 55 w.heap.size #[.int .i64 (S:Int),.slice aE E.length cE,.int .i64 (F:Int),.int .i64 (T:Int)]):=HA.out.s0.mo _ _ _ _;go_wp2_with fail;generalize (((wr.setCell ⟨w.heap.size,0,none⟩ (.int .i64 (S:Int))).setCell ⟨w.heap.size,1,none⟩ (.slice aE E.length cE)).setCell ⟨w.heap.size,2,none⟩ (.int .i64 (F:Int))).setCell ⟨w.heap.size,3,none⟩ (.int .i64 (T:Int))=Wf at HF oU⊢;obtain⟨v0,v1,v2,v3⟩:=oU.out.bZ;exact bodyPost_ret (v:=.tuple #[.agg #[.int .i64 (S:Int),.slice aE E.length cE,.int .i64 (F:Int),.int .i64 (T:Int)],.int .i64 0]) (by simp[results,results48,go_sem,v0,v1,v2,v3]) rfl HF.out
theorem zlI{l:List Pc}(h:w.ownsRow B 91 5 (.slice a n c) n (eK l))(hn:l.length=n):gP w a l:=by
 intro h0;obtain⟨g,rfl,_,hg,hc⟩:=ek h (by omega);exact⟨g,0,rfl,hg,fun j hj=>by rw[Nat.zero_add,(hc j (by omega)).1]⟩
theorem zj8(t:Rx)(hw:t.wf):∀(r:List Pc) (n:Int),0<=n->fo (t.flat++r) n=fo r (n+1):=by
 induction t with
 | leaf x=>
  intro r n hn;show (if lp x n=true then fo r (n+1-aH x.k) else none)=_;have ho:lp x n=true:=by
   unfold lp;rw[hw.1,hw.2];simp;omega
  rw[if_pos ho,hw.1];congr 1;omega
 | un x a ih=>
  intro r n hn;show fo ((a.flat++[x])++r) n=_;rw[List.append_assoc,ih hw.2.2 _ n hn];show (if lp x (n+1)=true then fo r (n+1+1-aH x.k) else none)=_;have ho:lp x (n+1)=true:=by
   unfold lp;rw[hw.1,hw.2.1];simp;omega
  rw[if_pos ho,hw.1];congr 1;omega
 | bin x a b ih jh=>
  intro r n hn;show fo ((a.flat++(b.flat++[x]))++r) n=_;rw[List.append_assoc,List.append_assoc,ih hw.2.2.1 _ n hn,jh hw.2.2.2 _ (n+1) (by omega)];show (if lp x (n+1+1)=true then fo r (n+1+1+1-aH x.k) else none)=_;have ho:lp x (n+1+1)=true:=by
   unfold lp;rw[hw.1,hw.2.1];simp;omega
  rw[if_pos ho,hw.1];congr 1;omega
theorem zlJ(t:Rx)(hw:t.wf)(h:t.flat.length<=400):lH t.flat=0:=by
 have h1:fo t.flat 0=some 1:=by
  have:=zj8 t hw [] 0 (by omega);rw[List.append_nil] at this;rw[this];rfl
 unfold lH;rw[if_neg (by omega),if_pos h1]
def nu(s:ByteArray)(er:Nat):Prop:=(er=5/\∀l,bh (dB 99) ([],aa s)≠some (l,[]))\/(er=6/\∃l,bh (dB 99) ([],aa s)=some (l,[])/\400<l.length)
def Q9(s:ByteArray)(w:World)(e:Ending)(w':World):Prop:=
 (∃er:Nat,nu s er/\e=.returned (.tuple #[.agg #[.int .i64 0,.slice none 0 0,.int .i64 0,.int .i64 0],.int .i64 (er:Int)])/\Below w.heap.size w w')\/
 (∃t:Rx,t.wf/\bh (dB 99) ([],aa s)=some (t.flat,[])/\t.flat.length<=400/\sY t t.flat.length w e w')
theorem WL(s:ByteArray)(hs:s.size<=1600)(w:World):Calls prog 30 #[.string s] w (Q9 s w):=by
 have HB:=hid (Zz (al w (.cells #[.int .i64 0,.slice none 0 0,.int .i64 0,.int .i64 0] 55)) (St.new w 55 #[.int .i64 0,.slice none 0 0,.int .i64 0,.int .i64 0]));by_cases hp:∃l,bh (dB 99) ([],aa s)=some (l,[])
 ·obtain⟨l,hl⟩:=hp;by_cases hm:400<l.length
  ·have HP:=hid (fun (W:World)=>zjN s W hs l hl hm);have HE:Hid (nu s 6):=Or.inr ⟨rfl,l,hl,hm⟩;clear hl hm;go_in;go_wp2_with fail;refine (HP.out _).mono ?_;rintro e w2 ⟨rfl,k2⟩;have H2:=hid (Zz (HB.out.1.trans (k2.mono HB.out.1.size)) (HB.out.2.ab k2));clear k2 HP;obtain⟨q0,q1,q2,q3,g0,g1,g2,g3⟩:=bS H2.out.2;have oU:Hid (St ((((w2.setCell ⟨w.heap.size,0,none⟩ (.int .i64 0)).setCell ⟨w.heap.size,1,none⟩ (.slice none 0 0)).setCell ⟨w.heap.size,2,none⟩ (.int .i64 0)).setCell ⟨w.heap.size,3,none⟩ (.int .i64 0)) 55 w.heap.size #[.int .i64 0,.slice none 0 0,.int .i64 0,.int .i64 0]/\Below w.heap.size w ((((w2.setCell ⟨w.heap.size,0,none⟩ (.int .i64 0)).setCell ⟨w.heap.size,1,none⟩ (.slice none 0 0)).setCell ⟨w.heap.size,2,none⟩ (.int .i64 0)).setCell ⟨w.heap.size,3,none⟩ (.int .i64 0))):=(⟨H2.out.2.mo _ _ _ _,qy H2.out.1 (Nat.le_refl _) _ _ _ _⟩);go_wp2_with fail;generalize (((w2.setCell ⟨w.heap.size,0,none⟩ (.int .i64 0)).setCell ⟨w.heap.size,1,none⟩ (.slice none 0 0)).setCell ⟨w.heap.size,2,none⟩ (.int .i64 0)).setCell ⟨w.heap.size,3,none⟩ (.int .i64 0)=Wf at oU⊢;obtain⟨v0,v1,v2,v3⟩:=oU.out.1.bZ;exact bodyPost_ret (v:=.tuple #[.agg #[.int .i64 0,.slice none 0 0,.int .i64 0,.int .i64 0],.int .i64 6]) (by simp[results,results30,go_sem,v0,v1,v2,v3]) rfl (Or.inl ⟨6,HE.out,rfl,oU.out.2⟩)
  obtain⟨t,hw,rfl⟩:=WI (BH s) hl;have hle:t.flat.length<=400:=by omega
  have HP:=hid (fun (W:World)=>zlr s W hs t.flat hl hle);have HT:=hid (Zz hw (Zz hl hle));have EL:=zlJ t hw hle;have sg:=hid (fun (a:Option Addr) (cap:Nat) (W:World) (hL:gP W a t.flat)=>zpH t hw a t.flat.length cap W hL rfl EL hle);clear hl hm hw EL;obtain⟨n,hn⟩:∃n,t.flat.length=n:=⟨_,rfl⟩
  have Hn:=hid hn;rw[hn] at HP sg hle;clear hn;go_in;go_wp2_with fail;refine (HP.out _).mono ?_;rintro e w2 ⟨a2,c2,rfl,ho2,k2⟩;have H2:=hid (Zz (HB.out.1.trans (k2.mono HB.out.1.size)) (Zz (HB.out.2.ab k2) (zlI ho2 Hn.out)));clear k2 HP ho2;have kh:=hid (sg.out a2 c2 w2 H2.out.2.2);go_wp2_with fail;refine kh.out.mono ?_;rintro e w3 ⟨a3,c3,rfl,ho3,k3⟩;have H3:=hid (Zz (H2.out.1.trans (k3.mono H2.out.1.size)) (Zz (H2.out.2.1.ab k3) (ga ho3 H2.out.1.size)));clear k3 ho3 kh sg;obtain⟨S,hS⟩:∃S:Nat,2*n=S:=⟨_,rfl⟩
  obtain⟨F,hF⟩:∃F:Nat,2*eB t 0=F:=⟨_,rfl⟩
  obtain⟨T,hT⟩:∃T:Nat,2*eB t 0+1=T:=⟨_,rfl⟩
  obtain⟨m,jw⟩:∃m,(eJ t 0).length=m:=⟨_,rfl⟩
  have HQ:=hid (Zz hS (Zz hF (Zz hT jw)));rw[jw] at H3;rw[hT,hS,hF,jw];clear hS hF hT jw;obtain⟨q0,q1,q2,q3,g0,g1,g2,g3⟩:=bS H3.out.2.1;have oU:Hid (St ((((w3.setCell ⟨w.heap.size,0,none⟩ (.int .i64 (S:Int))).setCell ⟨w.heap.size,1,none⟩ (.slice a3 m c3)).setCell ⟨w.heap.size,2,none⟩ (.int .i64 (F:Int))).setCell ⟨w.heap.size,3,none⟩ (.int .i64 (T:Int))) 55 w.heap.size #[.int .i64 (S:Int),.slice a3 m c3,.int .i64 (F:Int),.int .i64 (T:Int)]/\Below w.heap.size w ((((w3.setCell ⟨w.heap.size,0,none⟩ (.int .i64 (S:Int))).setCell ⟨w.heap.size,1,none⟩ (.slice a3 m c3)).setCell ⟨w.heap.size,2,none⟩ (.int .i64 (F:Int))).setCell ⟨w.heap.size,3,none⟩ (.int .i64 (T:Int)))/\((((w3.setCell ⟨w.heap.size,0,none⟩ (.int .i64 (S:Int))).setCell ⟨w.heap.size,1,none⟩ (.slice a3 m c3)).setCell ⟨w.heap.size,2,none⟩ (.int .i64 (F:Int))).setCell ⟨w.heap.size,3,none⟩ (.int .i64 (T:Int))).ownsRow w.heap.size 117 7 (.slice a3 m c3) m (dj ((eJ t 0).map En.z))):=⟨H3.out.2.1.mo _ _ _ _,qy H3.out.1 (Nat.le_refl _) _ _ _ _,E9 H3.out.2.2 H3.out.2.1 (by decide) _ _ _ _⟩
  go_wp2_with fail;generalize (((w3.setCell ⟨w.heap.size,0,none⟩ (.int .i64 (S:Int))).setCell ⟨w.heap.size,1,none⟩ (.slice a3 m c3)).setCell ⟨w.heap.size,2,none⟩ (.int .i64 (F:Int))).setCell ⟨w.heap.size,3,none⟩ (.int .i64 (T:Int))=Wf at oU⊢;obtain⟨v0,v1,v2,v3⟩:=oU.out.1.bZ;refine bodyPost_ret (v:=.tuple #[.agg #[.int .i64 (S:Int),.slice a3 m c3,.int .i64 (F:Int),.int .i64 (T:Int)],.int .i64 0]) (by simp[results,results30,go_sem,v0,v1,v2,v3]) rfl (Or.inr ⟨t,HT.out.1,HT.out.2.1,HT.out.2.2,?_⟩);unfold sY;rw[Hn.out,HQ.out.1,HQ.out.2.2.1,HQ.out.2.1,HQ.out.2.2.2];exact⟨a3,c3,rfl,oU.out.2.2,oU.out.2.1⟩
 have gd:∀l,bh (dB 99) ([],aa s)≠some (l,[]):=fun l h=>hp ⟨l,h⟩
 have HP:=hid (fun (W:World)=>znf s W hs gd);have HE:Hid (nu s 5):=Or.inl ⟨rfl,gd⟩;clear gd hp;go_in;go_wp2_with fail;refine (HP.out _).mono ?_;rintro e w2 ⟨rfl,k2⟩;have H2:=hid (Zz (HB.out.1.trans (k2.mono HB.out.1.size)) (HB.out.2.ab k2));clear k2 HP;obtain⟨q0,q1,q2,q3,g0,g1,g2,g3⟩:=bS H2.out.2;have oU:Hid (St ((((w2.setCell ⟨w.heap.size,0,none⟩ (.int .i64 0)).setCell ⟨w.heap.size,1,none⟩ (.slice none 0 0)).setCell ⟨w.heap.size,2,none⟩ (.int .i64 0)).setCell ⟨w.heap.size,3,none⟩ (.int .i64 0)) 55 w.heap.size #[.int .i64 0,.slice none 0 0,.int .i64 0,.int .i64 0]/\Below w.heap.size w ((((w2.setCell ⟨w.heap.size,0,none⟩ (.int .i64 0)).setCell ⟨w.heap.size,1,none⟩ (.slice none 0 0)).setCell ⟨w.heap.size,2,none⟩ (.int .i64 0)).setCell ⟨w.heap.size,3,none⟩ (.int .i64 0))):=⟨H2.out.2.mo _ _ _ _,qy H2.out.1 (Nat.le_refl _) _ _ _ _⟩
 go_wp2_with fail;generalize (((w2.setCell ⟨w.heap.size,0,none⟩ (.int .i64 0)).setCell ⟨w.heap.size,1,none⟩ (.slice none 0 0)).setCell ⟨w.heap.size,2,none⟩ (.int .i64 0)).setCell ⟨w.heap.size,3,none⟩ (.int .i64 0)=Wf at oU⊢;obtain⟨v0,v1,v2,v3⟩:=oU.out.1.bZ;exact bodyPost_ret (v:=.tuple #[.agg #[.int .i64 0,.slice none 0 0,.int .i64 0,.int .i64 0],.int .i64 5]) (by simp[results,results30,go_sem,v0,v1,v2,v3]) rfl (Or.inl ⟨5,HE.out,rfl,oU.out.2⟩)
