import Derived.Test.YtkkhakmdjinenaaGreatZPParse
import Derived.Test.YtkkhakmdjinenaaGreatZQEof
set_option linter.all false
set_option maxHeartbeats 4000000
set_option maxRecDepth 100000
open Go.Lib (hid)
namespace Go.Proofs.YtkkhakmdjinenaaGreat
open Go.RowKit Go.Proofs.Tryz
open Act (put)
variable {B c n:Nat}{a:Option Addr}{atom:bf->Option bf}{k:Int}{l r:List Nat}{w:World}
theorem zkf(p:Nat->Bool)(h:ew p=true):∀b,b<256->p b=false:=by
 intro b hb;have e:de p 256=[]:=List.length_eq_zero_iff.1 (by simpa [ew] using h);rcases hp:p b with _|_
 ·rfl
 have:=(Nv p 256 b).2 ⟨hb,hp⟩;rw[e] at this;simp at this
def oU(l:List Nat):Prop:=∀x∈l,x<256
theorem oU.drop(h:oU l)(k:Nat):oU (l.drop k):=fun x hx=>h x (List.mem_of_mem_drop hx)
theorem oU.tail(h:oU (c :: l)):oU l:=fun x hx=>h x (List.mem_cons_of_mem _ hx)
theorem oU.skip{s:List Nat}(h:oU s)(e:aw c s=some r):oU r:=by
 have:=uZ e;subst this;exact h.tail
def Dg(b:List Pc)(s':bf):Prop:=(∃t:Rx,t.wf/\s'.1=b++t.flat)/\oU s'.2
def uN(g:bf->Option bf):Prop:=∀s s',oU s.2->g s=some s'->Dg s.1 s'
theorem V1{p:Nat->Bool}{b:Nat}(hb:b<256)(h:p b=true):ew p=false:=by
 cases e:ew p with
 | false=>rfl
 | true=>exact absurd (zkf p e b hb) (by rw[h];decide)
theorem YJ:ew aJ=true:=by decide +kernel
theorem zlU:ew (fun _=>true)=false:=V1 (b:=0) (by omega) rfl
theorem Rq{p:Nat->Bool}(h:ew p=false):(Rx.leaf ⟨1,p⟩).wf:=⟨by show aH 1=0;decide,by unfold jB;rw[h];rfl⟩
theorem znI:(Rx.leaf ⟨0,aJ⟩).wf:=⟨by show aH 0=0;decide,by unfold jB;rw[YJ];rfl⟩
theorem KD(hk:(k == 1)=false):jB ⟨k,aJ⟩=true:=by
 unfold jB;rw[YJ];show (true != (k == 1))=true;rw[hk];rfl
theorem znJ(h:eH c=some k):aH k=1/\jB ⟨k,aJ⟩=true:=by
 unfold eH at h;split at h
 ·injection h with h;subst h;exact⟨by decide,KD rfl⟩
 split at h
 ·injection h with h;subst h;exact⟨by decide,KD rfl⟩
 split at h
 ·injection h with h;subst h;exact⟨by decide,KD rfl⟩
 cases h
theorem zkg:∀(r:List Nat) (b acc:List Pc),oU r->(∃t:Rx,t.wf/\acc=b++t.flat)->Dg b (bx r acc):=by
 intro r
 induction r with
 | nil=>intro b acc h ht;exact⟨ht,h⟩
 | cons c r ih=>
  intro b acc h ht
  show Dg b (match eH c with|some k=>bx r (acc++[⟨k,aJ⟩])|none=>(acc,c :: r))
  cases hs:eH c with
  | none=>exact⟨ht,h⟩
  | some k=>
   obtain⟨t,hw,e⟩:=ht;have hk:=znJ hs;exact ih b _ h.tail ⟨.un ⟨k,aJ⟩ t,⟨hk.1,hk.2,hw⟩,by rw[e];simp[Rx.flat]⟩
theorem Zi(h:uN atom):uN (cr atom):=by
 intro s s' hb e;unfold cr at e;cases ha:atom s with
 | none=>rw[ha] at e;cases e
 | some x=>
  rw[ha] at e;injection e with e;subst e;have:=h s x hb ha;exact zkg x.2 s.1 x.1 this.2 this.1
theorem zkh(h:uN atom):∀(f:Nat) (b:List Pc) (s s':bf),Dg b s->aY atom f s=some s'->Dg b s':=by
 intro f
 induction f with
 | zero=>intro b s s' _ e;cases e
 | succ f ih=>
  intro b s s' hg e;unfold aY at e;split at e
  ·injection e with e;subst e;exact hg
  cases ha:cr atom s with
  | none=>rw[ha] at e;cases e
  | some x=>
   simp only[ha] at e;obtain⟨⟨u,hu,e1⟩,lE⟩:=Zi h s x hg.2 ha;obtain⟨⟨t,ht,e2⟩,_⟩:=hg;refine ih b (x.1++[⟨2,aJ⟩],x.2) s' ⟨⟨.bin ⟨2,aJ⟩ t u,⟨by decide,KD rfl,ht,hu⟩,?_⟩,lE⟩ e;show x.1++[⟨2,aJ⟩]=_;rw[e1,e2];simp[Rx.flat]
theorem WS(h:uN atom):uN (cq atom):=by
 intro s s' hb e;unfold cq at e;cases ha:cr atom s with
 | none=>rw[ha] at e;cases e
 | some x=>
  rw[ha] at e;exact zkh h _ s.1 x s' (Zi h s x hb ha) e
theorem zki(h:uN atom):∀(f:Nat) (b:List Pc) (s s':bf),Dg b s->aX atom f s=some s'->Dg b s':=by
 intro f
 induction f with
 | zero=>intro b s s' _ e;cases e
 | succ f ih=>
  intro b s s' hg e
  unfold aX at e
  cases hk:aw 124 s.2 with
  | none=>rw[hk] at e;injection e with e;subst e;exact hg
  | some r=>
   simp only[hk] at e
   cases ha:cq atom (s.1,r) with
   | none=>simp only[ha] at e;cases e
   | some x=>
    simp only[ha] at e;obtain⟨⟨u,hu,e1⟩,lE⟩:=WS h (s.1,r) x (hg.2.skip hk) ha;obtain⟨⟨t,ht,e2⟩,_⟩:=hg;refine ih b (x.1++[⟨3,aJ⟩],x.2) s' ⟨⟨.bin ⟨3,aJ⟩ t u,⟨by decide,KD rfl,ht,hu⟩,?_⟩,lE⟩ e;show x.1++[⟨3,aJ⟩]=_;rw[e1];show (s.1++u.flat)++_=_;rw[e2];simp[Rx.flat]
theorem Vd(h:uN atom):uN (bh atom):=by
 intro s s' hb e;unfold bh at e;cases ha:cq atom s with
 | none=>rw[ha] at e;cases e
 | some x=>
  rw[ha] at e;exact zki h _ s.1 x s' (WS h s x hb ha) e
theorem zkj(h:uN atom):uN (eh atom):=by
 intro s s' hb e;unfold eh at e;cases ha:bh atom s with
 | none=>rw[ha] at e;cases e
 | some x=>
  rw[ha] at e
  have hx:=Vd h s x hb ha
  cases hk:aw 41 x.2 with
  | none=>simp only[hk] at e;cases e
  | some r=>
   simp only[hk] at e;injection e with e;subst e;exact⟨hx.1,hx.2.skip hk⟩
theorem QF{sp:ByteArray}{s:List Nat}(hb:oU s)(h:aI sp s=some (c,r)):c<256/\oU r:=by
 unfold aI at h;split at h
 ·injection h with h;injection h with h1 h2;subst h1 h2;exact⟨(Fg s hb).1,hb.drop _⟩
 cases h
theorem zkk{s:List Nat}{a:Nat}(hb:oU s)(h:cJ s=some (a,c,r)):oU r:=by
 unfold cJ at h;cases h1:aI du s with
 | none=>rw[h1] at h;cases h
 | some x=>
  obtain⟨a1,r1⟩:=x
  rw[h1] at h
  have Bg:=(QF hb h1).2
  cases h2:aw 45 r1 with
  | none=>simp only[h2] at h;injection h with h;injection h with _ h;injection h with _ h;subst h;exact Bg
  | some r2=>
   simp only[h2] at h
   cases h3:aI du r2 with
   | none=>simp only[h3] at h;cases h
   | some y=>
    obtain⟨c1,r3⟩:=y;simp only[h3] at h;split at h
    ·injection h with h;injection h with _ h;injection h with _ h;subst h;exact (QF (Bg.skip h2) h3).2
    cases h
theorem XW:∀(f:Nat) (q:Nat->Bool) (s:List Nat) (q':Nat->Bool) (r:List Nat),oU s->aD f q s=some (q',r)->oU r:=by
 intro f
 induction f with
 | zero=>intro q s q' r _ h;cases h
 | succ f ih=>
  intro q s q' r hb h
  unfold aD at h
  cases h1:aw 93 s with
  | some r1=>simp only[h1] at h;injection h with h;injection h with _ h;subst h;exact hb.skip h1
  | none=>
   simp only[h1] at h
   cases h2:cJ s with
   | none=>simp only[h2] at h;cases h
   | some y=>
    obtain⟨a,c,r1⟩:=y;simp only[h2] at h;exact ih _ r1 q' r (zkk hb h2) h
theorem znK{s:List Nat}{q:Nat->Bool}(hb:oU s)(h:ec s=some (q,r)):ew q=false/\oU r:=by
 unfold ec at h;cases h1:aw 94 s with
 | some r1=>
  simp only[h1] at h
  cases h2:aD (r1.length+1) aJ r1 with
  | none=>simp only[h2] at h;cases h
  | some y=>
   obtain⟨q1,r2⟩:=y;simp only[h2] at h;split at h
   ·cases h
   rename_i hn;injection h with h;injection h with e1 e2;subst e1 e2;exact⟨by simpa using hn,XW _ _ _ _ _ (hb.skip h1) h2⟩
 | none=>
  simp only[h1] at h
  cases h2:aD (s.length+1) aJ s with
  | none=>simp only[h2] at h;cases h
  | some y=>
   obtain⟨q1,r2⟩:=y;simp only[h2] at h;split at h
   ·cases h
   rename_i hn;injection h with h;injection h with e1 e2;subst e1 e2;exact⟨by simpa using hn,XW _ _ _ _ _ hb h2⟩
theorem Xs{group:bf->Option bf}(h:uN group):uN (aW group):=by
 intro s s' hb e;unfold aW at e;cases h1:aw 46 s.2 with
 | some r=>
  simp only[h1] at e;injection e with e;subst e;exact⟨⟨.leaf ⟨1,fun _=>true⟩,Rq zlU,rfl⟩,hb.skip h1⟩
 | none=>
  simp only[h1] at e
  cases h2:aw 126 s.2 with
  | some r=>
   simp only[h2] at e;injection e with e;subst e;exact⟨⟨.leaf ⟨0,aJ⟩,znI,rfl⟩,hb.skip h2⟩
  | none=>
   simp only[h2] at e
   cases h3:aw 40 s.2 with
   | some r=>
    simp only[h3] at e;exact h (s.1,r) s' (hb.skip h3) e
   | none=>
    simp only[h3] at e
    cases h4:aw 91 s.2 with
    | some r=>
     simp only[h4] at e
     cases h5:ec r with
     | none=>simp only[h5] at e;cases e
     | some y=>
      obtain⟨q,r1⟩:=y;simp only[h5] at e;injection e with e;subst e;have:=znK (hb.skip h4) h5;exact⟨⟨.leaf ⟨1,q⟩,Rq this.1,rfl⟩,this.2⟩
    | none=>
     simp only[h4] at e
     cases h5:aI nC s.2 with
     | none=>simp only[h5] at e;cases e
     | some y=>
      obtain⟨c,r⟩:=y;simp only[h5] at e;injection e with e;subst e;have:=QF hb h5;exact⟨⟨.leaf ⟨1,eP (fun _=>c) 1⟩,Rq (V1 this.1 ((Pb _ 1 c).2 ⟨0,by omega,rfl⟩)),rfl⟩,this.2⟩
theorem znL:∀D,uN (dA D):=by
 intro D
 induction D with
 | zero=>exact Xs (fun s s' _ e=>by cases e)
 | succ D ih=>exact Xs (zkj ih)
theorem Z3{s:List Nat}{l:List Pc}(hb:oU s)(h:bh (dA 99) ([],s)=some (l,[])):∃t:Rx,t.wf/\t.flat=l:=by
 obtain⟨⟨t,hw,e⟩,_⟩:=Vd (znL 99) ([],s) (l,[]) hb h;exact⟨t,hw,by simpa using e.symm⟩
open Go.Maps
structure Ah (W0:World)(br bn:Nat)(cN cF cT:Value)(vE:Value)(E:List En)(w:World):Prop where
 below:Below W0.heap.size W0 w
 s4:St w 55 bn #[cN,vE,cF,cT]
 s0:St w 55 br #[.int .i64 0,.slice none 0 0,.int .i64 0,.int .i64 0]
 oe:w.ownsRow W0.heap.size 117 7 vE E.length (dj (E.map En.z))
 ne:br≠bn
 lo:W0.heap.size<=bn/\W0.heap.size<=br
theorem Ah.ab{W0 w':World}{br bn:Nat}{cN cF cT vE:Value}{E:List En}(h:Ah W0 br bn cN cF cT vE E w)(k:Below w.heap.size w w'):Ah W0 br bn cN cF cT vE E w':=
 ⟨h.below.trans (k.mono h.below.size),h.s4.ab k,h.s0.ab k,db h.oe k,h.ne,h.lo⟩
theorem Ah.app{W0 w w':World}{br bn:Nat}{cN cF cT vE vE':Value}{E L:List En}(h:Ah W0 br bn cN cF cT vE E w)(ho:w'.ownsRow W0.heap.size 117 7 vE' (E.length+L.length) (dj (E.map En.z)++dj (L.map En.z)))(hg:w.grownBy w' vE.ownBlock):
  Ah W0 br bn cN cF cT vE' (E++L) (w'.setCell ⟨bn,1,none⟩ vE'):=by
 have h4:=h.s4.ae h.oe (by decide) hg;refine⟨(fL h.below h.oe h.below.size hg).setCell (p:=⟨bn,1,none⟩) h.lo.1 _,?_,(h.s0.ae h.oe (by decide) hg).fK (p:=⟨bn,1,none⟩) h.ne _,?_,h.ne,h.lo⟩
 ·have:=h4.set 1 vE';simpa using this
 rw[List.length_append,List.map_append,zeX];exact jE ho h4 (by decide) 1 vE'
theorem zg1{xs:List Value}(h:w.ownsRow B 117 7 (.slice a n c) n xs)(hn:0<n):∃g,Value.slice a n c=.slice (some ⟨g,0,none⟩) n c/\∀j u,xs[j]?=some u->w.cell? ((⟨g,0,none⟩:Addr).add j)=some u:=by
 obtain⟨g,e,_,_,hc⟩:=eC h hn;refine⟨g,by rw[e],fun j u hj=>?_⟩;have hl:=(List.getElem?_eq_some_iff.1 hj).1;rw[h.1] at hl;have e2:(⟨g,0,none⟩:Addr).add j=⟨g,j,none⟩:=by unfold Addr.add;split <;> simp_all
 rw[e2,(hc j hl).1,hj]
theorem zp0(l:List Pc)(i:Nat):1<=(kU l i).length:=by
 unfold kU;split
 ·simp[fw]
 split
 ·unfold di;split <;> simp
 simp[gv]
theorem UM(l:List Pc)(i:Nat):(kU l i).length<=4:=by
 unfold kU;split
 ·unfold fw;split <;> split <;> simp
 split
 ·unfold di;split <;> simp
 simp[gv]
def zK(l:List Pc)(k:Nat):List En:=(List.range k).flatMap (kU l)
theorem zje(l:List Pc)(k:Nat):zK l (k+1)=zK l k++kU l k:=by unfold zK;rw[List.range_succ,List.flatMap_append];simp
theorem zqO(l:List Pc)(k:Nat):(zK l k).length<=4*k:=by
 induction k with
 | zero=>simp[zK]
 | succ k ih=>rw[zje,List.length_append];have:=UM l k;omega
def s9(t:Rx)(n:Nat)(w:World)(e:Ending)(w':World):Prop:=
 ∃a c,e=.returned (.tuple #[.agg #[.int .i64 ((2*n:Nat):Int),.slice a (eY t 0).length c,.int .i64 ((2*eG t 0:Nat):Int),.int .i64 ((2*eG t 0+1:Nat):Int)],.int .i64 0])/\
  w'.ownsRow w.heap.size 117 7 (.slice a (eY t 0).length c) (eY t 0).length (dj ((eY t 0).map En.z))/\Below w.heap.size w w'
theorem zp1(t:Rx)(hw:t.wf)(a:Option Addr)(n cap:Nat)(w:World)(hL:ik w a t.flat)(hn:t.flat.length=n)(hc:lU t.flat=0)(dG:n<=400):
  Calls prog 48 #[.slice a n cap] w (s9 t n w):=by
 obtain⟨l,hl⟩:∃l,t.flat=l:=⟨_,rfl⟩
 have HT:Hid (zK l n=eY t 0/\eG t 0=n-1/\1<=n):=by
  refine⟨?_,?_,?_⟩
  ·rw[<-hl,<-hn];exact QZ t hw
  ·unfold eG;omega
  have:=t.aZ;omega
 have Ug:Hid (∀k,k<n->∀W,Below w.heap.size w W->Calls prog 87 #[.slice a n cap,.int .i64 ((k:Nat):Int)] W (uG (kU l k) W)):=fun k hk W hW=>by
  have hv:∀x∈l,0<=aH x.k:=by rw[<-hl];exact Of t hw
  refine zh4 l a n cap W (by rw[<-hl];exact hL.below hW) (by rw[<-hl];exact hn) (by omega) k hk (hv _ ?_) (by rw[<-hl];exact zlR t hw k (by omega));rw[hl] at hn;rw[List.getD_eq_getElem?_getD,List.getElem?_eq_getElem (by omega)];exact List.getElem_mem (by omega)
 have A8:=hid (fun (W:World) (hW:Below w.heap.size w W)=>zkG t.flat a n cap W (hL.below hW) hn (by unfold maxLen;omega));rw[hc] at A8;have pn:=ζ (al w (.cells #[.int .i64 0,.slice none 0 0,.int .i64 0,.int .i64 0] 55)) (St.new w 55 #[.int .i64 0,.slice none 0 0,.int .i64 0,.int .i64 0]);obtain⟨b,hb⟩:∃b,n-1=b:=⟨_,rfl⟩
 have bz:b+1=n:=by have:=HT.out.2.2;omega
 have Hb:=hid hb;have SE:=hid (fun (W:World)=>Eu b (by omega) W);have CP:=hid (fun (W:World)=>Fl b (by omega) W);obtain⟨F,hF⟩:∃F:Nat,2*b=F:=⟨_,rfl⟩
 obtain⟨T,hT⟩:∃T:Nat,2*b+1=T:=⟨_,rfl⟩
 have HFT:=ζ hF hT;rw[hF] at SE;rw[hT] at CP;obtain⟨S,hS⟩:∃S:Nat,2*n=S:=⟨_,rfl⟩
 have CQ:=hid hS;obtain⟨i0,hi,dv,cP,cG⟩:=info_parts kc;have w0:(n:Int)-1=(b:Int):=by omega
 have w1:2*(n:Int)=S:=by omega
 clear hL hn hc hb hF hT hS hl;go_in;go_wp2_with fail;refine (A8.out _ pn.out.1).mono ?_;rintro e w2 ⟨rfl,v2⟩;have H2:=ζ (pn.out.1.trans (v2.mono pn.out.1.size)) (pn.out.2.ab v2);clear v2 A8 pn;go_wp2_with fail;refine (SE.out _).mono ?_;rintro e w3 ⟨rfl,rfl⟩;go_wp2_with fail;refine (CP.out _).mono ?_;rintro e w3 ⟨rfl,rfl⟩;go_wp2_with fail;have qF:=al w2 (.cells #[.int .i64 (S:Int),.slice none 0 0,.int .i64 (F:Int),.int .i64 (T:Int)] 55);have H3:Hid (Ah w w.heap.size w2.heap.size (.int .i64 (S:Int)) (.int .i64 (F:Int)) (.int .i64 (T:Int)) (.slice none 0 0) (zK l 0) (w2.alloc (.cells #[.int .i64 (S:Int),.slice none 0 0,.int .i64 (F:Int),.int .i64 (T:Int)] 55))):=
  ⟨H2.out.1.trans (qF.mono H2.out.1.size),St.new _ _ _,H2.out.2.ab qF,World.ownsRow_nil _ _ _ _,Nat.ne_of_lt H2.out.2.lt,H2.out.1.size,Nat.le_refl _⟩
 clear qF H2 SE CP;generalize w2.alloc (.cells #[.int .i64 (S:Int),.slice none 0 0,.int .i64 (F:Int),.int .i64 (T:Int)] 55)=W1 at H3⊢;obtain⟨bn,DN⟩:∃bn,w2.heap.size=bn:=⟨_,rfl⟩
 rw[DN] at H3;rw[DN];clear DN;go_loopw [7,27] (fun _ v wr=>∃(k:Nat) (vE:Value) (E:List En),v=.int .i64 k/\k<=n/\Hid (E=zK l k)/\Hid (Ah w w.heap.size bn (.int .i64 (S:Int)) (.int .i64 (F:Int)) (.int .i64 (T:Int)) vE E wr)) (fun _ v _=>n-(intOf v).toNat)
 ·exact⟨0,_,_,rfl,by omega,rfl,H3.out⟩
 clear H3;obtain⟨k,vE,E,rfl,hk,HE,HA⟩:=hrel;obtain⟨aE,cE,rfl⟩:=bP HA.out.oe;by_cases aq:k<n
 ·have Vz:=hid (Ug.out k aq);have tX:=zp0 l k;have By:=UM l k;have wD:E.length<=4*k:=by rw[HE.out];exact zqO l k
  have FK:Hid (E++kU l k=zK l (k+1)):=by show _=_;rw[zje,HE.out]
  have iX:Hid (Ah w w.heap.size bn (.int .i64 (S:Int)) (.int .i64 (F:Int)) (.int .i64 (T:Int)) (.slice aE E.length cE) E wr.drew):=HA.out.ab (Below.refl _ _).drew;have e2:wr.cell? ⟨bn,1,none⟩=some (.slice aE E.length cE):=HA.out.s4.at_ 1;have i1:(k:Int)<n:=by omega
  go_upto_region 9 with fail;refine wp_region_held_drew (S:=fun W'=>Below w.heap.size w W'/\True) (by kernel_rfl) ⟨iX.out.below,trivial⟩ (fun η=>?_)
  (refine an 0 ?_;refine an 2 ?_;refine an 3 ?_;try simp only[put,sA])
  ·refine wpAnyH_ready (rs:=[1,4]) (by kernel_rfl) (by simp) (hJ (fun K hK=>?_) (hJ (fun K hK=>?_) AllReadyH.nil))
   skip;go_simp;refine hK.out _ _ ⟨iX.out.below,trivial⟩ fun η=>?_;clear hK K
   try simp only[put,sA]
   refine bc 4 (fun K hK=>?_);skip;go_simp;go_at_call 87;refine (Vz.out _ iX.out.below).mono ?_;rintro e w5 ⟨a5,c5,rfl,jz,v5⟩;have rz:=hid jz;have dr:=hid (iX.out.ab v5);have e5:w5.cell? ⟨bn,1,none⟩=some (.slice aE E.length cE):=dr.out.s4.at_ 1;clear v5 jz
   try go_wp2_with fail
   refine hK.out _ _ ⟨dr.out.below,trivial⟩ fun η=>?_;clear hK K
   rotate_left
   skip;go_simp;go_at_call 87;refine (Vz.out _ iX.out.below).mono ?_;rintro e w5 ⟨a5,c5,rfl,jz,v5⟩;have rz:=hid jz;have dr:=hid (iX.out.ab v5);have e5:w5.cell? ⟨bn,1,none⟩=some (.slice aE E.length cE):=dr.out.s4.at_ 1;clear v5 jz
   try go_wp2_with fail
   refine hK.out _ _ ⟨dr.out.below,trivial⟩ fun η=>?_;clear hK K
   try simp only[put,sA]
   refine bc 1 (fun K hK=>?_);skip;go_simp;refine hK.out _ _ ⟨dr.out.below,trivial⟩ fun η=>?_;clear hK K
   rotate_left
   all_goals
    try simp only[put,sA]
    refine bc 5 (fun K hK=>?_);skip;skip;obtain⟨g5,DZ,sa⟩:=zg1 rz.out tX;injection DZ with DZ _ _;subst DZ;refine si (by rfl) _ _ _ (by rfl) w.heap.size 117 i0 (.agg #[.int .i64 0,.int .i64 0,.int .u64 0,.int .u64 0,.int .u64 0,.int .u64 0,.bool false]) 7 56 underlying53 hi dv cP cG (by rfl) (by decide) _ E.length (dj (E.map En.z)) (by rfl) dr.out.oe ⟨g5,0,none⟩ (kU l k).length c5 (dj ((kU l k).map En.z)) (by rfl) (by rw[N1,List.length_map]) sa (GL _) (by unfold maxLen;omega) (by omega) dr.out.below.size ?_;intro v6 w6 aj af;obtain⟨a6,c6,rfl⟩:=bP aj;have fq:=dr.out.s4.ae dr.out.oe (by decide) af;have pC:=hid (dr.out.app (vE':=.slice a6 (E.length+(kU l k).length) c6) aj af);have t3:w6.cell? ⟨bn,1,none⟩=some (.slice aE E.length cE):=fq.at_ 1;have f3:=fq.bb 1;have eU:=fL dr.out.below dr.out.oe dr.out.below.size af;refine hK.out _ _ ⟨eU,trivial⟩ fun η=>?_;clear hK K aj af fq eU
    try simp only[put,sA]
    (refine an 6 ?_;try simp only[put,sA])
    refine bc 7 (fun K hK=>?_);skip;go_simp;refine hK.out _ _ ⟨pC.out.below,trivial⟩ fun η=>?_;clear hK K
    try simp only[put,sA]
    refine wpAnyH_done (by kernel_rfl) ?_ _;clear η;go_wp2;go_roundw
    ·exact⟨k+1,_,E++kU l k,by go_num,by omega,FK.out,pC.out⟩
    simp[intOf];omega
 obtain rfl:k=n:=by omega
 obtain⟨p0,p1,p2,p3⟩:=HA.out.s4.bZ;obtain⟨q0,q1,q2,q3,g0,g1,g2,g3⟩:=bQ HA.out.s0;have HF:Hid (s9 t k w (.returned (.tuple #[.agg #[.int .i64 (S:Int),.slice aE E.length cE,.int .i64 (F:Int),.int .i64 (T:Int)],.int .i64 0])) ((((wr.setCell ⟨w.heap.size,0,none⟩ (.int .i64 (S:Int))).setCell ⟨w.heap.size,1,none⟩ (.slice aE E.length cE)).setCell ⟨w.heap.size,2,none⟩ (.int .i64 (F:Int))).setCell ⟨w.heap.size,3,none⟩ (.int .i64 (T:Int)))):=by
  have hE:E=eY t 0:=by rw[HE.out];exact HT.out.1
  unfold s9;rw[<-hE,HT.out.2.1,Hb.out,HFT.out.2,HFT.out.1,CQ.out];exact⟨aE,cE,rfl,Fx HA.out.oe HA.out.s0 (by decide) _ _ _ _,qA HA.out.below (Nat.le_refl _) _ _ _ _⟩
 have pg:Hid (St ((((wr.setCell ⟨w.heap.size,0,none⟩ (.int .i64 (S:Int))).setCell ⟨w.heap.size,1,none⟩ (.slice aE E.length cE)).setCell ⟨w.heap.size,2,none⟩ (.int .i64 (F:Int))).setCell ⟨w.heap.size,3,none⟩ (.int .i64 (T:Int))) 55 w.heap.size #[.int .i64 (S:Int),.slice aE E.length cE,.int .i64 (F:Int),.int .i64 (T:Int)]):=HA.out.s0.mG _ _ _ _;go_wp2_with fail;generalize (((wr.setCell ⟨w.heap.size,0,none⟩ (.int .i64 (S:Int))).setCell ⟨w.heap.size,1,none⟩ (.slice aE E.length cE)).setCell ⟨w.heap.size,2,none⟩ (.int .i64 (F:Int))).setCell ⟨w.heap.size,3,none⟩ (.int .i64 (T:Int))=Wf at HF pg⊢;obtain⟨v0,v1,v2,v3⟩:=pg.out.bZ;exact bodyPost_ret (v:=.tuple #[.agg #[.int .i64 (S:Int),.slice aE E.length cE,.int .i64 (F:Int),.int .i64 (T:Int)],.int .i64 0]) (by simp[results,results48,go_sem,v0,v1,v2,v3]) rfl HF.out
theorem SY{l:List Pc}(h:w.ownsRow B 91 5 (.slice a n c) n (eJ l))(hn:l.length=n):ik w a l:=by
 intro h0;obtain⟨g,rfl,_,hg,hc⟩:=eC h (by omega);exact⟨g,0,rfl,hg,fun j hj=>by rw[Nat.zero_add,(hc j (by omega)).1]⟩
theorem zkl(t:Rx)(hw:t.wf):∀(r:List Pc) (n:Int),0<=n->fC (t.flat++r) n=fC r (n+1):=by
 induction t with
 | leaf x=>
  intro r n hn;show (if lg x n=true then fC r (n+1-aH x.k) else none)=_;have ho:lg x n=true:=by
   unfold lg;rw[hw.1,hw.2];simp;omega
  rw[if_pos ho,hw.1];congr 1;omega
 | un x a ih=>
  intro r n hn;show fC ((a.flat++[x])++r) n=_;rw[List.append_assoc,ih hw.2.2 _ n hn];show (if lg x (n+1)=true then fC r (n+1+1-aH x.k) else none)=_;have ho:lg x (n+1)=true:=by
   unfold lg;rw[hw.1,hw.2.1];simp;omega
  rw[if_pos ho,hw.1];congr 1;omega
 | bin x a b ih jh=>
  intro r n hn;show fC ((a.flat++(b.flat++[x]))++r) n=_;rw[List.append_assoc,List.append_assoc,ih hw.2.2.1 _ n hn,jh hw.2.2.2 _ (n+1) (by omega)];show (if lg x (n+1+1)=true then fC r (n+1+1+1-aH x.k) else none)=_;have ho:lg x (n+1+1)=true:=by
   unfold lg;rw[hw.1,hw.2.1];simp;omega
  rw[if_pos ho,hw.1];congr 1;omega
theorem zlV(t:Rx)(hw:t.wf)(h:t.flat.length<=400):lU t.flat=0:=by
 have h1:fC t.flat 0=some 1:=by
  have:=zkl t hw [] 0 (by omega);rw[List.append_nil] at this;rw[this];rfl
 unfold lU;rw[if_neg (by omega),if_pos h1]
def nh(s:ByteArray)(er:Nat):Prop:=(er=5/\∀l,bh (dA 99) ([],aa s)≠some (l,[]))\/(er=6/\∃l,bh (dA 99) ([],aa s)=some (l,[])/\400<l.length)
def PU(s:ByteArray)(w:World)(e:Ending)(w':World):Prop:=
 (∃er:Nat,nh s er/\e=.returned (.tuple #[.agg #[.int .i64 0,.slice none 0 0,.int .i64 0,.int .i64 0],.int .i64 (er:Int)])/\Below w.heap.size w w')\/
 (∃t:Rx,t.wf/\bh (dA 99) ([],aa s)=some (t.flat,[])/\t.flat.length<=400/\s9 t t.flat.length w e w')
theorem Y5(s:ByteArray)(hs:s.size<=1600)(w:World):Calls prog 30 #[.string s] w (PU s w):=by
 have HB:=ζ (al w (.cells #[.int .i64 0,.slice none 0 0,.int .i64 0,.int .i64 0] 55)) (St.new w 55 #[.int .i64 0,.slice none 0 0,.int .i64 0,.int .i64 0]);by_cases hp:∃l,bh (dA 99) ([],aa s)=some (l,[])
 ·obtain⟨l,hl⟩:=hp;by_cases hm:400<l.length
  ·have HP:=hid (fun (W:World)=>zj0 s W hs l hl hm);have HE:Hid (nh s 6):=Or.inr ⟨rfl,l,hl,hm⟩;clear hl hm;go_in;go_wp2_with fail;refine (HP.out _).mono ?_;rintro e w2 ⟨rfl,k2⟩;have H2:=ζ (HB.out.1.trans (k2.mono HB.out.1.size)) (HB.out.2.ab k2);clear k2 HP;obtain⟨q0,q1,q2,q3,g0,g1,g2,g3⟩:=bQ H2.out.2;have pg:Hid (St ((((w2.setCell ⟨w.heap.size,0,none⟩ (.int .i64 0)).setCell ⟨w.heap.size,1,none⟩ (.slice none 0 0)).setCell ⟨w.heap.size,2,none⟩ (.int .i64 0)).setCell ⟨w.heap.size,3,none⟩ (.int .i64 0)) 55 w.heap.size #[.int .i64 0,.slice none 0 0,.int .i64 0,.int .i64 0]/\Below w.heap.size w ((((w2.setCell ⟨w.heap.size,0,none⟩ (.int .i64 0)).setCell ⟨w.heap.size,1,none⟩ (.slice none 0 0)).setCell ⟨w.heap.size,2,none⟩ (.int .i64 0)).setCell ⟨w.heap.size,3,none⟩ (.int .i64 0))):=(⟨H2.out.2.mG _ _ _ _,qA H2.out.1 (Nat.le_refl _) _ _ _ _⟩);go_wp2_with fail;generalize (((w2.setCell ⟨w.heap.size,0,none⟩ (.int .i64 0)).setCell ⟨w.heap.size,1,none⟩ (.slice none 0 0)).setCell ⟨w.heap.size,2,none⟩ (.int .i64 0)).setCell ⟨w.heap.size,3,none⟩ (.int .i64 0)=Wf at pg⊢;obtain⟨v0,v1,v2,v3⟩:=pg.out.1.bZ;exact bodyPost_ret (v:=.tuple #[.agg #[.int .i64 0,.slice none 0 0,.int .i64 0,.int .i64 0],.int .i64 6]) (by simp[results,results30,go_sem,v0,v1,v2,v3]) rfl (Or.inl ⟨6,HE.out,rfl,pg.out.2⟩)
  obtain⟨t,hw,rfl⟩:=Z3 (A7 s) hl;have hle:t.flat.length<=400:=by omega
  have HP:=hid (fun (W:World)=>zlF s W hs t.flat hl hle);have HT:=ξ hw hl hle;have Fq:=zlV t hw hle;have ox:=hid (fun (a:Option Addr) (cap:Nat) (W:World) (hL:ik W a t.flat)=>zp1 t hw a t.flat.length cap W hL rfl Fq hle);clear hl hm hw Fq;obtain⟨n,hn⟩:∃n,t.flat.length=n:=⟨_,rfl⟩
  have Hn:=hid hn;rw[hn] at HP ox hle;clear hn;go_in;go_wp2_with fail;refine (HP.out _).mono ?_;rintro e w2 ⟨a2,c2,rfl,ho2,k2⟩;have H2:=ξ (HB.out.1.trans (k2.mono HB.out.1.size)) (HB.out.2.ab k2) (SY ho2 Hn.out);clear k2 HP ho2;have kD:=hid (ox.out a2 c2 w2 H2.out.2.2);go_wp2_with fail;refine kD.out.mono ?_;rintro e w3 ⟨a3,c3,rfl,Zp,k3⟩;have H3:=ξ (H2.out.1.trans (k3.mono H2.out.1.size)) (H2.out.2.1.ab k3) (gn Zp H2.out.1.size);clear k3 Zp kD ox;obtain⟨S,hS⟩:∃S:Nat,2*n=S:=⟨_,rfl⟩
  obtain⟨F,hF⟩:∃F:Nat,2*eG t 0=F:=⟨_,rfl⟩
  obtain⟨T,hT⟩:∃T:Nat,2*eG t 0+1=T:=⟨_,rfl⟩
  obtain⟨m,ju⟩:∃m,(eY t 0).length=m:=⟨_,rfl⟩
  have HQ:=ψ hS hF hT ju;rw[ju] at H3;rw[hT,hS,hF,ju];clear hS hF hT ju;obtain⟨q0,q1,q2,q3,g0,g1,g2,g3⟩:=bQ H3.out.2.1;have pg:Hid (St ((((w3.setCell ⟨w.heap.size,0,none⟩ (.int .i64 (S:Int))).setCell ⟨w.heap.size,1,none⟩ (.slice a3 m c3)).setCell ⟨w.heap.size,2,none⟩ (.int .i64 (F:Int))).setCell ⟨w.heap.size,3,none⟩ (.int .i64 (T:Int))) 55 w.heap.size #[.int .i64 (S:Int),.slice a3 m c3,.int .i64 (F:Int),.int .i64 (T:Int)]/\Below w.heap.size w ((((w3.setCell ⟨w.heap.size,0,none⟩ (.int .i64 (S:Int))).setCell ⟨w.heap.size,1,none⟩ (.slice a3 m c3)).setCell ⟨w.heap.size,2,none⟩ (.int .i64 (F:Int))).setCell ⟨w.heap.size,3,none⟩ (.int .i64 (T:Int)))/\((((w3.setCell ⟨w.heap.size,0,none⟩ (.int .i64 (S:Int))).setCell ⟨w.heap.size,1,none⟩ (.slice a3 m c3)).setCell ⟨w.heap.size,2,none⟩ (.int .i64 (F:Int))).setCell ⟨w.heap.size,3,none⟩ (.int .i64 (T:Int))).ownsRow w.heap.size 117 7 (.slice a3 m c3) m (dj ((eY t 0).map En.z))):=⟨H3.out.2.1.mG _ _ _ _,qA H3.out.1 (Nat.le_refl _) _ _ _ _,Fx H3.out.2.2 H3.out.2.1 (by decide) _ _ _ _⟩
  go_wp2_with fail;generalize (((w3.setCell ⟨w.heap.size,0,none⟩ (.int .i64 (S:Int))).setCell ⟨w.heap.size,1,none⟩ (.slice a3 m c3)).setCell ⟨w.heap.size,2,none⟩ (.int .i64 (F:Int))).setCell ⟨w.heap.size,3,none⟩ (.int .i64 (T:Int))=Wf at pg⊢;obtain⟨v0,v1,v2,v3⟩:=pg.out.1.bZ;refine bodyPost_ret (v:=.tuple #[.agg #[.int .i64 (S:Int),.slice a3 m c3,.int .i64 (F:Int),.int .i64 (T:Int)],.int .i64 0]) (by simp[results,results30,go_sem,v0,v1,v2,v3]) rfl (Or.inr ⟨t,HT.out.1,HT.out.2.1,HT.out.2.2,?_⟩);unfold s9;rw[Hn.out,HQ.out.1,HQ.out.2.2.1,HQ.out.2.1,HQ.out.2.2.2];exact⟨a3,c3,rfl,pg.out.2.2,pg.out.2.1⟩
 have gm:∀l,bh (dA 99) ([],aa s)≠some (l,[]):=fun l h=>hp ⟨l,h⟩
 have HP:=hid (fun (W:World)=>znu s W hs gm);have HE:Hid (nh s 5):=Or.inl ⟨rfl,gm⟩;clear gm hp;go_in;go_wp2_with fail;refine (HP.out _).mono ?_;rintro e w2 ⟨rfl,k2⟩;have H2:=ζ (HB.out.1.trans (k2.mono HB.out.1.size)) (HB.out.2.ab k2);clear k2 HP;obtain⟨q0,q1,q2,q3,g0,g1,g2,g3⟩:=bQ H2.out.2;have pg:Hid (St ((((w2.setCell ⟨w.heap.size,0,none⟩ (.int .i64 0)).setCell ⟨w.heap.size,1,none⟩ (.slice none 0 0)).setCell ⟨w.heap.size,2,none⟩ (.int .i64 0)).setCell ⟨w.heap.size,3,none⟩ (.int .i64 0)) 55 w.heap.size #[.int .i64 0,.slice none 0 0,.int .i64 0,.int .i64 0]/\Below w.heap.size w ((((w2.setCell ⟨w.heap.size,0,none⟩ (.int .i64 0)).setCell ⟨w.heap.size,1,none⟩ (.slice none 0 0)).setCell ⟨w.heap.size,2,none⟩ (.int .i64 0)).setCell ⟨w.heap.size,3,none⟩ (.int .i64 0))):=⟨H2.out.2.mG _ _ _ _,qA H2.out.1 (Nat.le_refl _) _ _ _ _⟩
 go_wp2_with fail;generalize (((w2.setCell ⟨w.heap.size,0,none⟩ (.int .i64 0)).setCell ⟨w.heap.size,1,none⟩ (.slice none 0 0)).setCell ⟨w.heap.size,2,none⟩ (.int .i64 0)).setCell ⟨w.heap.size,3,none⟩ (.int .i64 0)=Wf at pg⊢;obtain⟨v0,v1,v2,v3⟩:=pg.out.1.bZ;exact bodyPost_ret (v:=.tuple #[.agg #[.int .i64 0,.slice none 0 0,.int .i64 0,.int .i64 0],.int .i64 5]) (by simp[results,results30,go_sem,v0,v1,v2,v3]) rfl (Or.inl ⟨5,HE.out,rfl,pg.out.2⟩)
