import Derived.Test.YtiijebameffenaaGreatZPParse
import Derived.Test.YtiijebameffenaaGreatZQEof
set_option linter.all false
set_option maxHeartbeats 4000000
set_option maxRecDepth 100000
open Go.Lib (hid)
namespace Go.Proofs.YtiijebameffenaaGreat
open Go.RowKit Go.Proofs.Tryz
open Act (put)
variable {B c n:Nat}{a:Option Addr}{atom:bJ->Option bJ}{k:Int}{l r:List Nat}
theorem ziG(p:Nat->Bool)(h:en p=true):∀b,b<256->p b=false:=by
 intro b hb;have e:cm p 256=[]:=List.length_eq_zero_iff.1 (by simpa [en] using h);rcases hp:p b with _|_
 ·rfl
 have:=(KY p 256 b).2 ⟨hb,hp⟩;rw[e] at this;simp at this
def oq(l:List Nat):Prop:=∀x∈l,x<256
theorem oq.drop(h:oq l)(k:Nat):oq (l.drop k):=fun x hx=>h x (List.mem_of_mem_drop hx)
theorem oq.tail(h:oq (c :: l)):oq l:=fun x hx=>h x (List.mem_cons_of_mem _ hx)
theorem oq.skip{s:List Nat}(h:oq s)(e:aI c s=some r):oq r:=by
 have:=ve e;subst this;exact h.tail
def CN(b:List Pc)(s':bJ):Prop:=(∃t:Rx,t.wf/\s'.1=b++t.flat)/\oq s'.2
def tQ(g:bJ->Option bJ):Prop:=∀s s',oq s.2->g s=some s'->CN s.1 s'
theorem Uj{p:Nat->Bool}{b:Nat}(hb:b<256)(h:p b=true):en p=false:=by
 cases e:en p with
 | false=>rfl
 | true=>exact absurd (ziG p e b hb) (by rw[h];decide)
theorem Uo:en bE=true:=by decide +kernel
theorem zko:en (fun _=>true)=false:=Uj (b:=0) (by omega) rfl
theorem NL{p:Nat->Bool}(h:en p=false):(Rx.leaf ⟨1,p⟩).wf:=⟨by show aO 1=0;decide,by unfold iH;rw[h];rfl⟩
theorem zmm:(Rx.leaf ⟨0,bE⟩).wf:=⟨by show aO 0=0;decide,by unfold iH;rw[Uo];rfl⟩
theorem Gt(hk:(k == 1)=false):iH ⟨k,bE⟩=true:=by
 unfold iH;rw[Uo];show (true != (k == 1))=true;rw[hk];rfl
theorem zmn(h:im c=some k):aO k=1/\iH ⟨k,bE⟩=true:=by
 unfold im at h;split at h
 ·injection h with h;subst h;exact⟨by decide,Gt rfl⟩
 split at h
 ·injection h with h;subst h;exact⟨by decide,Gt rfl⟩
 split at h
 ·injection h with h;subst h;exact⟨by decide,Gt rfl⟩
 cases h
theorem ziH:∀(r:List Nat) (b acc:List Pc),oq r->(∃t:Rx,t.wf/\acc=b++t.flat)->CN b (cU r acc):=by
 intro r
 induction r with
 | nil=>intro b acc h ht;exact⟨ht,h⟩
 | cons c r ih=>
  intro b acc h ht
  show CN b (match im c with|some k=>cU r (acc++[⟨k,bE⟩])|none=>(acc,c :: r))
  cases hs:im c with
  | none=>exact⟨ht,h⟩
  | some k=>
   obtain⟨t,hw,e⟩:=ht;have hk:=zmn hs;exact ih b _ h.tail ⟨.un ⟨k,bE⟩ t,⟨hk.1,hk.2,hw⟩,by rw[e];simp[Rx.flat]⟩
theorem Xq(h:tQ atom):tQ (dQ atom):=by
 intro s s' hb e;unfold dQ at e;cases ha:atom s with
 | none=>rw[ha] at e;cases e
 | some x=>
  rw[ha] at e;injection e with e;subst e;have:=h s x hb ha;exact ziH x.2 s.1 x.1 this.2 this.1
theorem ziI(h:tQ atom):∀(f:Nat) (b:List Pc) (s s':bJ),CN b s->bS atom f s=some s'->CN b s':=by
 intro f
 induction f with
 | zero=>intro b s s' _ e;cases e
 | succ f ih=>
  intro b s s' hg e;unfold bS at e;split at e
  ·injection e with e;subst e;exact hg
  cases ha:dQ atom s with
  | none=>rw[ha] at e;cases e
  | some x=>
   simp only[ha] at e;obtain⟨⟨u,hu,e1⟩,kY⟩:=Xq h s x hg.2 ha;obtain⟨⟨t,ht,e2⟩,_⟩:=hg;refine ih b (x.1++[⟨2,bE⟩],x.2) s' ⟨⟨.bin ⟨2,bE⟩ t u,⟨by decide,Gt rfl,ht,hu⟩,?_⟩,kY⟩ e;show x.1++[⟨2,bE⟩]=_;rw[e1,e2];simp[Rx.flat]
theorem Yk(h:tQ atom):tQ (dR atom):=by
 intro s s' hb e;unfold dR at e;cases ha:dQ atom s with
 | none=>rw[ha] at e;cases e
 | some x=>
  rw[ha] at e;exact ziI h _ s.1 x s' (Xq h s x hb ha) e
theorem ziJ(h:tQ atom):∀(f:Nat) (b:List Pc) (s s':bJ),CN b s->bW atom f s=some s'->CN b s':=by
 intro f
 induction f with
 | zero=>intro b s s' _ e;cases e
 | succ f ih=>
  intro b s s' hg e
  unfold bW at e
  cases hk:aI 124 s.2 with
  | none=>rw[hk] at e;injection e with e;subst e;exact hg
  | some r=>
   simp only[hk] at e
   cases ha:dR atom (s.1,r) with
   | none=>simp only[ha] at e;cases e
   | some x=>
    simp only[ha] at e;obtain⟨⟨u,hu,e1⟩,kY⟩:=Yk h (s.1,r) x (hg.2.skip hk) ha;obtain⟨⟨t,ht,e2⟩,_⟩:=hg;refine ih b (x.1++[⟨3,bE⟩],x.2) s' ⟨⟨.bin ⟨3,bE⟩ t u,⟨by decide,Gt rfl,ht,hu⟩,?_⟩,kY⟩ e;show x.1++[⟨3,bE⟩]=_;rw[e1];show (s.1++u.flat)++_=_;rw[e2];simp[Rx.flat]
theorem V6(h:tQ atom):tQ (dd atom):=by
 intro s s' hb e;unfold dd at e;cases ha:dR atom s with
 | none=>rw[ha] at e;cases e
 | some x=>
  rw[ha] at e;exact ziJ h _ s.1 x s' (Yk h s x hb ha) e
theorem ziK(h:tQ atom):tQ (fB atom):=by
 intro s s' hb e;unfold fB at e;cases ha:dd atom s with
 | none=>rw[ha] at e;cases e
 | some x=>
  rw[ha] at e
  have hx:=V6 h s x hb ha
  cases hk:aI 41 x.2 with
  | none=>simp only[hk] at e;cases e
  | some r=>
   simp only[hk] at e;injection e with e;subst e;exact⟨hx.1,hx.2.skip hk⟩
theorem Nf{sp:ByteArray}{s:List Nat}(hb:oq s)(h:bw sp s=some (c,r)):c<256/\oq r:=by
 unfold bw at h;split at h
 ·injection h with h;injection h with h1 h2;subst h1 h2;exact⟨(Se s hb).1,hb.drop _⟩
 cases h
theorem ziL{s:List Nat}{a:Nat}(hb:oq s)(h:dJ s=some (a,c,r)):oq r:=by
 unfold dJ at h;cases h1:bw eU s with
 | none=>rw[h1] at h;cases h
 | some x=>
  obtain⟨a1,r1⟩:=x
  rw[h1] at h
  have Fi:=(Nf hb h1).2
  cases h2:aI 45 r1 with
  | none=>simp only[h2] at h;injection h with h;injection h with _ h;injection h with _ h;subst h;exact Fi
  | some r2=>
   simp only[h2] at h
   cases h3:bw eU r2 with
   | none=>simp only[h3] at h;cases h
   | some y=>
    obtain⟨c1,r3⟩:=y;simp only[h3] at h;split at h
    ·injection h with h;injection h with _ h;injection h with _ h;subst h;exact (Nf (Fi.skip h2) h3).2
    cases h
theorem X1:∀(f:Nat) (q:Nat->Bool) (s:List Nat) (q':Nat->Bool) (r:List Nat),oq s->aW f q s=some (q',r)->oq r:=by
 intro f
 induction f with
 | zero=>intro q s q' r _ h;cases h
 | succ f ih=>
  intro q s q' r hb h
  unfold aW at h
  cases h1:aI 93 s with
  | some r1=>simp only[h1] at h;injection h with h;injection h with _ h;subst h;exact hb.skip h1
  | none=>
   simp only[h1] at h
   cases h2:dJ s with
   | none=>simp only[h2] at h;cases h
   | some y=>
    obtain⟨a,c,r1⟩:=y;simp only[h2] at h;exact ih _ r1 q' r (ziL hb h2) h
theorem zmo{s:List Nat}{q:Nat->Bool}(hb:oq s)(h:eW s=some (q,r)):en q=false/\oq r:=by
 unfold eW at h;cases h1:aI 94 s with
 | some r1=>
  simp only[h1] at h
  cases h2:aW (r1.length+1) bE r1 with
  | none=>simp only[h2] at h;cases h
  | some y=>
   obtain⟨q1,r2⟩:=y;simp only[h2] at h;split at h
   ·cases h
   rename_i hn;injection h with h;injection h with e1 e2;subst e1 e2;exact⟨by simpa using hn,X1 _ _ _ _ _ (hb.skip h1) h2⟩
 | none=>
  simp only[h1] at h
  cases h2:aW (s.length+1) bE s with
  | none=>simp only[h2] at h;cases h
  | some y=>
   obtain⟨q1,r2⟩:=y;simp only[h2] at h;split at h
   ·cases h
   rename_i hn;injection h with h;injection h with e1 e2;subst e1 e2;exact⟨by simpa using hn,X1 _ _ _ _ _ hb h2⟩
theorem Ss{group:bJ->Option bJ}(h:tQ group):tQ (fP group):=by
 intro s s' hb e;unfold fP at e;cases h1:aI 46 s.2 with
 | some r=>
  simp only[h1] at e;injection e with e;subst e;exact⟨⟨.leaf ⟨1,fun _=>true⟩,NL zko,rfl⟩,hb.skip h1⟩
 | none=>
  simp only[h1] at e
  cases h2:aI 126 s.2 with
  | some r=>
   simp only[h2] at e;injection e with e;subst e;exact⟨⟨.leaf ⟨0,bE⟩,zmm,rfl⟩,hb.skip h2⟩
  | none=>
   simp only[h2] at e
   cases h3:aI 40 s.2 with
   | some r=>
    simp only[h3] at e;exact h (s.1,r) s' (hb.skip h3) e
   | none=>
    simp only[h3] at e
    cases h4:aI 91 s.2 with
    | some r=>
     simp only[h4] at e
     cases h5:eW r with
     | none=>simp only[h5] at e;cases e
     | some y=>
      obtain⟨q,r1⟩:=y;simp only[h5] at e;injection e with e;subst e;have:=zmo (hb.skip h4) h5;exact⟨⟨.leaf ⟨1,q⟩,NL this.1,rfl⟩,this.2⟩
    | none=>
     simp only[h4] at e
     cases h5:bw uR s.2 with
     | none=>simp only[h5] at e;cases e
     | some y=>
      obtain⟨c,r⟩:=y;simp only[h5] at e;injection e with e;subst e;have:=Nf hb h5;exact⟨⟨.leaf ⟨1,iQ (fun _=>c) 1⟩,NL (Uj this.1 ((Qs _ 1 c).2 ⟨0,by omega,rfl⟩)),rfl⟩,this.2⟩
theorem zmp:∀D,tQ (eZ D):=by
 intro D
 induction D with
 | zero=>exact Ss (fun s s' _ e=>by cases e)
 | succ D ih=>exact Ss (ziK ih)
theorem ziM{s:List Nat}{l:List Pc}(hb:oq s)(h:dd (eZ 99) ([],s)=some (l,[])):∃t:Rx,t.wf/\t.flat=l:=by
 obtain⟨⟨t,hw,e⟩,_⟩:=V6 (zmp 99) ([],s) (l,[]) hb h;exact⟨t,hw,by simpa using e.symm⟩
open Go.Maps Go.WideElems Go.ChangeMaps Go.MapKept
structure Ae (W0:World)(br bn:Nat)(cN cF cT:Value)(vE:Value)(E:List En)(w:World):Prop where
 below:Below W0.heap.size W0 w
 s4:St w 119 bn #[cN,vE,cF,cT]
 s0:St w 119 br #[.int .i64 0,.slice none 0 0,.int .i64 0,.int .i64 0]
 oe:w.ownsRow W0.heap.size 186 7 vE E.length (fp (E.map En.z))
 ne:br≠bn
 lo:W0.heap.size<=bn/\W0.heap.size<=br
theorem Ae.aa{W0 w w':World}{br bn:Nat}{cN cF cT vE:Value}{E:List En}(h:Ae W0 br bn cN cF cT vE E w)(k:Below w.heap.size w w'):Ae W0 br bn cN cF cT vE E w':=
 ⟨h.below.trans (k.mono h.below.size),h.s4.aa k,h.s0.aa k,dp h.oe k,h.ne,h.lo⟩
theorem Ae.app{W0 w w':World}{br bn:Nat}{cN cF cT vE vE':Value}{E L:List En}(h:Ae W0 br bn cN cF cT vE E w)(ho:w'.ownsRow W0.heap.size 186 7 vE' (E.length+L.length) (fp (E.map En.z)++fp (L.map En.z)))(hg:w.grownBy w' vE.ownBlock):
  Ae W0 br bn cN cF cT vE' (E++L) (w'.setCell ⟨bn,1,none⟩ vE'):=by
 have h4:=h.s4.ag h.oe (by decide) hg;refine⟨(fH h.below h.oe h.below.size hg).setCell (p:=⟨bn,1,none⟩) h.lo.1 _,?_,(h.s0.ag h.oe (by decide) hg).eD (p:=⟨bn,1,none⟩) h.ne _,?_,h.ne,h.lo⟩
 ·have:=h4.set 1 vE';simpa using this
 rw[List.length_append,List.map_append,zii];exact jI ho h4 (by decide) 1 vE'
theorem Ur{w:World}{xs:List Value}(h:w.ownsRow B 186 7 (.slice a n c) n xs)(hn:0<n):∃g,Value.slice a n c=.slice (some ⟨g,0,none⟩) n c/\∀j u,xs[j]?=some u->w.cell? ((⟨g,0,none⟩:Addr).add j)=some u:=by
 obtain⟨g,e,_,_,hc⟩:=eR h hn;refine⟨g,by rw[e],fun j u hj=>?_⟩;have hl:=(List.getElem?_eq_some_iff.1 hj).1;rw[h.1] at hl;have e2:(⟨g,0,none⟩:Addr).add j=⟨g,j,none⟩:=by unfold Addr.add;split <;> simp_all
 rw[e2,(hc j hl).1,hj]
theorem ZA(l:List Pc)(i:Nat):1<=(ki l i).length:=by
 unfold ki;split
 ·simp[eB]
 split
 ·unfold cn;split <;> simp
 simp[fS]
theorem Vv(l:List Pc)(i:Nat):(ki l i).length<=4:=by
 unfold ki;split
 ·unfold eB;split <;> split <;> simp
 split
 ·unfold cn;split <;> simp
 simp[fS]
def zv(l:List Pc)(k:Nat):List En:=(List.range k).flatMap (ki l)
theorem XY(l:List Pc)(k:Nat):zv l (k+1)=zv l k++ki l k:=by unfold zv;rw[List.range_succ,List.flatMap_append];simp
theorem zpq(l:List Pc)(k:Nat):(zv l k).length<=4*k:=by
 induction k with
 | zero=>simp[zv]
 | succ k ih=>rw[XY,List.length_append];have:=Vv l k;omega
def xI(t:Rx)(n:Nat)(w:World)(e:Ending)(w':World):Prop:=
 ∃a c,e=.returned (.tuple #[.agg #[.int .i64 ((2*n:Nat):Int),.slice a (fx t 0).length c,.int .i64 ((2*ef t 0:Nat):Int),.int .i64 ((2*ef t 0+1:Nat):Int)],.int .i64 0])/\
  w'.ownsRow w.heap.size 186 7 (.slice a (fx t 0).length c) (fx t 0).length (fp ((fx t 0).map En.z))/\Below w.heap.size w w'
theorem zox(t:Rx)(hw:t.wf)(a:Option Addr)(n cap:Nat)(w:World)(hL:mE w a t.flat)(hn:t.flat.length=n)(hc:ll t.flat=0)(kF:n<=400):
  Calls prog 94 #[.slice a n cap] w (xI t n w):=by
 obtain⟨l,hl⟩:∃l,t.flat=l:=⟨_,rfl⟩
 have HT:Hid (zv l n=fx t 0/\ef t 0=n-1/\1<=n):=by
  refine⟨?_,?_,?_⟩
  ·rw[<-hl,<-hn];exact PQ t hw
  ·unfold ef;omega
  have:=t.ca;omega
 have Pa:Hid (∀k,k<n->∀W,Below w.heap.size w W->Calls prog 115 #[.slice a n cap,.int .i64 ((k:Nat):Int)] W (uN (ki l k) W)):=fun k hk W hW=>by
  have hv:∀x∈l,0<=aO x.k:=by rw[<-hl];exact zle t hw
  refine zgJ l a n cap W (by rw[<-hl];exact hL.below hW) (by rw[<-hl];exact hn) (by omega) k hk (hv _ ?_) (by rw[<-hl];exact zkm t hw k (by omega));rw[hl] at hn;rw[List.getD_eq_getElem?_getD,List.getElem?_eq_getElem (by omega)];exact List.getElem_mem (by omega)
 have Iq:=hid (fun (W:World) (hW:Below w.heap.size w W)=>zi1 t.flat a n cap W (hL.below hW) hn (by unfold maxLen;omega));rw[hc] at Iq;have nL:=hid (Zz (al w (.cells #[.int .i64 0,.slice none 0 0,.int .i64 0,.int .i64 0] 119)) (St.new w 119 #[.int .i64 0,.slice none 0 0,.int .i64 0,.int .i64 0]));obtain⟨b,hb⟩:∃b,n-1=b:=⟨_,rfl⟩
 have aJ:b+1=n:=by have:=HT.out.2.2;omega
 have Hb:=hid hb;have OH:=hid (fun (W:World)=>CJ b (by omega) W);have Dc:=hid (fun (W:World)=>Fp b (by omega) W);obtain⟨F,hF⟩:∃F:Nat,2*b=F:=⟨_,rfl⟩
 obtain⟨T,hT⟩:∃T:Nat,2*b+1=T:=⟨_,rfl⟩
 have VL:=hid (Zz hF hT);rw[hF] at OH;rw[hT] at Dc;obtain⟨S,hS⟩:∃S:Nat,2*n=S:=⟨_,rfl⟩
 have HSS:=hid hS;obtain⟨i0,hi,dD,db,cW⟩:=info_parts oH;have w0:(n:Int)-1=(b:Int):=by omega
 have w1:2*(n:Int)=S:=by omega
 clear hL hn hc hb hF hT hS hl;go_enter func94,ntmps94;go_wp2_with fail;refine (Iq.out _ nL.out.1).mono ?_;rintro e w2 ⟨rfl,v2⟩;have H2:=hid (Zz (nL.out.1.trans (v2.mono nL.out.1.size)) (nL.out.2.aa v2));clear v2 Iq nL;go_wp2_with fail;refine (OH.out _).mono ?_;rintro e w3 ⟨rfl,rfl⟩;go_wp2_with fail;refine (Dc.out _).mono ?_;rintro e w3 ⟨rfl,rfl⟩;go_wp2_with fail;have vf:=al w2 (.cells #[.int .i64 (S:Int),.slice none 0 0,.int .i64 (F:Int),.int .i64 (T:Int)] 119);have H3:Hid (Ae w w.heap.size w2.heap.size (.int .i64 (S:Int)) (.int .i64 (F:Int)) (.int .i64 (T:Int)) (.slice none 0 0) (zv l 0) (w2.alloc (.cells #[.int .i64 (S:Int),.slice none 0 0,.int .i64 (F:Int),.int .i64 (T:Int)] 119))):=
  ⟨H2.out.1.trans (vf.mono H2.out.1.size),St.new _ _ _,H2.out.2.aa vf,World.ownsRow_nil _ _ _ _,Nat.ne_of_lt H2.out.2.lt,H2.out.1.size,Nat.le_refl _⟩
 clear vf H2 OH Dc;generalize w2.alloc (.cells #[.int .i64 (S:Int),.slice none 0 0,.int .i64 (F:Int),.int .i64 (T:Int)] 119)=W1 at H3⊢;obtain⟨bn,BL⟩:∃bn,w2.heap.size=bn:=⟨_,rfl⟩
 rw[BL] at H3;rw[BL];clear BL;go_loopw [7,27] (fun _ v wr=>∃(k:Nat) (vE:Value) (E:List En),v=.int .i64 k/\k<=n/\Hid (E=zv l k)/\Hid (Ae w w.heap.size bn (.int .i64 (S:Int)) (.int .i64 (F:Int)) (.int .i64 (T:Int)) vE E wr)) (fun _ v _=>n-(intOf v).toNat)
 ·exact⟨0,_,_,rfl,by omega,rfl,H3.out⟩
 clear H3;obtain⟨k,vE,E,rfl,hk,HE,HA⟩:=hrel;obtain⟨aE,cE,rfl⟩:=bF HA.out.oe;by_cases aw:k<n
 ·have Tb:=hid (Pa.out k aw);have zu:=ZA l k;have AU:=Vv l k;have hE4:E.length<=4*k:=by rw[HE.out];exact zpq l k
  have z7:Hid (E++ki l k=zv l (k+1)):=by show _=_;rw[XY,HE.out]
  have mj:Hid (Ae w w.heap.size bn (.int .i64 (S:Int)) (.int .i64 (F:Int)) (.int .i64 (T:Int)) (.slice aE E.length cE) E wr.drew):=HA.out.aa (Below.refl _ _).drew;have e2:wr.cell? ⟨bn,1,none⟩=some (.slice aE E.length cE):=HA.out.s4.at_ 1;have i1:(k:Int)<n:=by omega
  go_upto_region 9 with fail;refine wp_region_held_drew (S:=fun W'=>Below w.heap.size w W'/\True) (by kernel_rfl) ⟨mj.out.below,trivial⟩ (fun hHeld=>?_)
  (refine aq 0 ?_;refine aq 2 ?_;refine aq 3 ?_;try simp only[put,sA,sB,sC])
  refine wpAnyH_ready (rs:=[1,4]) (by kernel_rfl) (by simp) ?_;refine eV (fun K hK=>?_) ?_
  ·skip;go_simp;refine hK.out _ _ ⟨mj.out.below,trivial⟩ (fun hHeld=>?_);clear hK K
   try simp only[put,sA,sB,sC]
   refine aQ 4 (fun K hK=>?_);skip;go_simp;go_at_call 115;refine (Tb.out _ mj.out.below).mono ?_;rintro e w5 ⟨a5,c5,rfl,jH,v5⟩;have Bn:=hid jH;have dW:=hid (mj.out.aa v5);have e5:w5.cell? ⟨bn,1,none⟩=some (.slice aE E.length cE):=dW.out.s4.at_ 1;clear v5 jH
   try go_wp2_with fail
   refine hK.out _ _ ⟨dW.out.below,trivial⟩ (fun hHeld=>?_);clear hK K
   try simp only[put,sA,sB,sC]
   refine aQ 5 (fun K hK=>?_);skip;skip;obtain⟨g5,Ce,sf⟩:=Ur Bn.out zu;injection Ce with Ce _ _;subst Ce;refine xM (by rfl) _ _ _ (by rfl) w.heap.size 186 i0 (.agg #[.int .i64 0,.int .i64 0,.int .u64 0,.int .u64 0,.int .u64 0,.int .u64 0,.bool false]) 7 56 underlying117 hi dD db cW (by rfl) (by decide) _ E.length (fp (E.map En.z)) (by rfl) dW.out.oe ⟨g5,0,none⟩ (ki l k).length c5 (fp ((ki l k).map En.z)) (by rfl) (by rw[Vo,List.length_map]) sf (Sm _) (by unfold maxLen;omega) (by omega) dW.out.below.size ?_;intro v6 w6 an af;obtain⟨a6,c6,rfl⟩:=bF an;have nv:=dW.out.s4.ag dW.out.oe (by decide) af;have Gx:=hid (dW.out.app (vE':=.slice a6 (E.length+(ki l k).length) c6) an af);have t3:w6.cell? ⟨bn,1,none⟩=some (.slice aE E.length cE):=nv.at_ 1;have f3:=nv.ba 1;have ec:=fH dW.out.below dW.out.oe dW.out.below.size af;refine hK.out _ _ ⟨ec,trivial⟩ (fun hHeld=>?_);clear hK K an af nv ec
   try simp only[put,sA,sB,sC]
   (refine aq 6 ?_;try simp only[put,sA,sB,sC])
   refine aQ 7 (fun K hK=>?_);skip;go_simp;refine hK.out _ _ ⟨Gx.out.below,trivial⟩ (fun hHeld=>?_);clear hK K
   try simp only[put,sA,sB,sC]
   refine wpAnyH_done (by kernel_rfl) ?_ _;clear hHeld;go_wp2;go_roundw
   ·exact⟨k+1,_,E++ki l k,by go_num,by omega,z7.out,Gx.out⟩
   simp[intOf];omega
  refine eV (fun K hK=>?_) ?_
  ·skip;go_simp;go_at_call 115;refine (Tb.out _ mj.out.below).mono ?_;rintro e w5 ⟨a5,c5,rfl,jH,v5⟩;have Bn:=hid jH;have dW:=hid (mj.out.aa v5);have e5:w5.cell? ⟨bn,1,none⟩=some (.slice aE E.length cE):=dW.out.s4.at_ 1;clear v5 jH
   try go_wp2_with fail
   refine hK.out _ _ ⟨dW.out.below,trivial⟩ (fun hHeld=>?_);clear hK K
   try simp only[put,sA,sB,sC]
   refine aQ 1 (fun K hK=>?_);skip;go_simp;refine hK.out _ _ ⟨dW.out.below,trivial⟩ (fun hHeld=>?_);clear hK K
   try simp only[put,sA,sB,sC]
   refine aQ 5 (fun K hK=>?_);skip;skip;obtain⟨g5,Ce,sf⟩:=Ur Bn.out zu;injection Ce with Ce _ _;subst Ce;refine xM (by rfl) _ _ _ (by rfl) w.heap.size 186 i0 (.agg #[.int .i64 0,.int .i64 0,.int .u64 0,.int .u64 0,.int .u64 0,.int .u64 0,.bool false]) 7 56 underlying117 hi dD db cW (by rfl) (by decide) _ E.length (fp (E.map En.z)) (by rfl) dW.out.oe ⟨g5,0,none⟩ (ki l k).length c5 (fp ((ki l k).map En.z)) (by rfl) (by rw[Vo,List.length_map]) sf (Sm _) (by unfold maxLen;omega) (by omega) dW.out.below.size ?_;intro v6 w6 an af;obtain⟨a6,c6,rfl⟩:=bF an;have nv:=dW.out.s4.ag dW.out.oe (by decide) af;have Gx:=hid (dW.out.app (vE':=.slice a6 (E.length+(ki l k).length) c6) an af);have t3:w6.cell? ⟨bn,1,none⟩=some (.slice aE E.length cE):=nv.at_ 1;have f3:=nv.ba 1;have ec:=fH dW.out.below dW.out.oe dW.out.below.size af;refine hK.out _ _ ⟨ec,trivial⟩ (fun hHeld=>?_);clear hK K an af nv ec
   try simp only[put,sA,sB,sC]
   (refine aq 6 ?_;try simp only[put,sA,sB,sC])
   refine aQ 7 (fun K hK=>?_);skip;go_simp;refine hK.out _ _ ⟨Gx.out.below,trivial⟩ (fun hHeld=>?_);clear hK K
   try simp only[put,sA,sB,sC]
   refine wpAnyH_done (by kernel_rfl) ?_ _;clear hHeld;go_wp2;go_roundw
   ·exact⟨k+1,_,E++ki l k,by go_num,by omega,z7.out,Gx.out⟩
   simp[intOf];omega
  exact AllReadyH.nil
 obtain rfl:k=n:=by omega
 obtain⟨p0,p1,p2,p3⟩:=HA.out.s4.dM;obtain⟨q0,q1,q2,q3,g0,g1,g2,g3⟩:=cZ HA.out.s0;have HF:Hid (xI t k w (.returned (.tuple #[.agg #[.int .i64 (S:Int),.slice aE E.length cE,.int .i64 (F:Int),.int .i64 (T:Int)],.int .i64 0])) ((((wr.setCell ⟨w.heap.size,0,none⟩ (.int .i64 (S:Int))).setCell ⟨w.heap.size,1,none⟩ (.slice aE E.length cE)).setCell ⟨w.heap.size,2,none⟩ (.int .i64 (F:Int))).setCell ⟨w.heap.size,3,none⟩ (.int .i64 (T:Int)))):=by
  have hE:E=fx t 0:=by rw[HE.out];exact HT.out.1
  unfold xI;rw[<-hE,HT.out.2.1,Hb.out,VL.out.2,VL.out.1,HSS.out];exact⟨aE,cE,rfl,WQ HA.out.oe HA.out.s0 (by decide) _ _ _ _,uU HA.out.below (Nat.le_refl _) _ _ _ _⟩
 have sI:Hid (St ((((wr.setCell ⟨w.heap.size,0,none⟩ (.int .i64 (S:Int))).setCell ⟨w.heap.size,1,none⟩ (.slice aE E.length cE)).setCell ⟨w.heap.size,2,none⟩ (.int .i64 (F:Int))).setCell ⟨w.heap.size,3,none⟩ (.int .i64 (T:Int))) 119 w.heap.size #[.int .i64 (S:Int),.slice aE E.length cE,.int .i64 (F:Int),.int .i64 (T:Int)]):=HA.out.s0.rj _ _ _ _;go_wp2_with fail;generalize (((wr.setCell ⟨w.heap.size,0,none⟩ (.int .i64 (S:Int))).setCell ⟨w.heap.size,1,none⟩ (.slice aE E.length cE)).setCell ⟨w.heap.size,2,none⟩ (.int .i64 (F:Int))).setCell ⟨w.heap.size,3,none⟩ (.int .i64 (T:Int))=Wf at HF sI⊢;obtain⟨v0,v1,v2,v3⟩:=sI.out.dM;exact bodyPost_ret (v:=.tuple #[.agg #[.int .i64 (S:Int),.slice aE E.length cE,.int .i64 (F:Int),.int .i64 (T:Int)],.int .i64 0]) (by simp[results,results94,go_sem,v0,v1,v2,v3]) rfl HF.out
theorem zoy{w:World}{l:List Pc}(h:w.ownsRow B 148 5 (.slice a n c) n (mZ l))(hn:l.length=n):mE w a l:=by
 intro h0;obtain⟨g,rfl,_,hg,hc⟩:=eR h (by omega);exact⟨g,0,rfl,hg,fun j hj=>by rw[Nat.zero_add,(hc j (by omega)).1]⟩
theorem ziN(t:Rx)(hw:t.wf):∀(r:List Pc) (n:Int),0<=n->eE (t.flat++r) n=eE r (n+1):=by
 induction t with
 | leaf x=>
  intro r n hn;show (if kC x n=true then eE r (n+1-aO x.k) else none)=_;have ho:kC x n=true:=by
   unfold kC;rw[hw.1,hw.2];simp;omega
  rw[if_pos ho,hw.1];congr 1;omega
 | un x a ih=>
  intro r n hn;show eE ((a.flat++[x])++r) n=_;rw[List.append_assoc,ih hw.2.2 _ n hn];show (if kC x (n+1)=true then eE r (n+1+1-aO x.k) else none)=_;have ho:kC x (n+1)=true:=by
   unfold kC;rw[hw.1,hw.2.1];simp;omega
  rw[if_pos ho,hw.1];congr 1;omega
 | bin x a b ih jh=>
  intro r n hn;show eE ((a.flat++(b.flat++[x]))++r) n=_;rw[List.append_assoc,List.append_assoc,ih hw.2.2.1 _ n hn,jh hw.2.2.2 _ (n+1) (by omega)];show (if kC x (n+1+1)=true then eE r (n+1+1+1-aO x.k) else none)=_;have ho:kC x (n+1+1)=true:=by
   unfold kC;rw[hw.1,hw.2.1];simp;omega
  rw[if_pos ho,hw.1];congr 1;omega
theorem zkp(t:Rx)(hw:t.wf)(h:t.flat.length<=400):ll t.flat=0:=by
 have h1:eE t.flat 0=some 1:=by
  have:=ziN t hw [] 0 (by omega);rw[List.append_nil] at this;rw[this];rfl
 unfold ll;rw[if_neg (by omega),if_pos h1]
def sa(s:ByteArray)(er:Nat):Prop:=(er=5/\∀l,dd (eZ 99) ([],ae s)≠some (l,[]))\/(er=6/\∃l,dd (eZ 99) ([],ae s)=some (l,[])/\400<l.length)
def Ny(s:ByteArray)(w:World)(e:Ending)(w':World):Prop:=
 (∃er:Nat,sa s er/\e=.returned (.tuple #[.agg #[.int .i64 0,.slice none 0 0,.int .i64 0,.int .i64 0],.int .i64 (er:Int)])/\Below w.heap.size w w')\/
 (∃t:Rx,t.wf/\dd (eZ 99) ([],ae s)=some (t.flat,[])/\t.flat.length<=400/\xI t t.flat.length w e w')
theorem zeW(s:ByteArray)(hs:s.size<=1600)(w:World):Calls prog 81 #[.string s] w (Ny s w):=by
 have HB:=hid (Zz (al w (.cells #[.int .i64 0,.slice none 0 0,.int .i64 0,.int .i64 0] 119)) (St.new w 119 #[.int .i64 0,.slice none 0 0,.int .i64 0,.int .i64 0]));by_cases hp:∃l,dd (eZ 99) ([],ae s)=some (l,[])
 ·obtain⟨l,hl⟩:=hp;by_cases hm:400<l.length
  ·have HP:=hid (fun (W:World)=>zix s W hs l hl hm);have HE:Hid (sa s 6):=Or.inr ⟨rfl,l,hl,hm⟩;clear hl hm;go_enter func81,ntmps81;go_wp2_with fail;refine (HP.out _).mono ?_;rintro e w2 ⟨rfl,k2⟩;have H2:=hid (Zz (HB.out.1.trans (k2.mono HB.out.1.size)) (HB.out.2.aa k2));clear k2 HP;obtain⟨q0,q1,q2,q3,g0,g1,g2,g3⟩:=cZ H2.out.2;have sI:Hid (St ((((w2.setCell ⟨w.heap.size,0,none⟩ (.int .i64 0)).setCell ⟨w.heap.size,1,none⟩ (.slice none 0 0)).setCell ⟨w.heap.size,2,none⟩ (.int .i64 0)).setCell ⟨w.heap.size,3,none⟩ (.int .i64 0)) 119 w.heap.size #[.int .i64 0,.slice none 0 0,.int .i64 0,.int .i64 0]/\Below w.heap.size w ((((w2.setCell ⟨w.heap.size,0,none⟩ (.int .i64 0)).setCell ⟨w.heap.size,1,none⟩ (.slice none 0 0)).setCell ⟨w.heap.size,2,none⟩ (.int .i64 0)).setCell ⟨w.heap.size,3,none⟩ (.int .i64 0))):=(⟨H2.out.2.rj _ _ _ _,uU H2.out.1 (Nat.le_refl _) _ _ _ _⟩);go_wp2_with fail;generalize (((w2.setCell ⟨w.heap.size,0,none⟩ (.int .i64 0)).setCell ⟨w.heap.size,1,none⟩ (.slice none 0 0)).setCell ⟨w.heap.size,2,none⟩ (.int .i64 0)).setCell ⟨w.heap.size,3,none⟩ (.int .i64 0)=Wf at sI⊢;obtain⟨v0,v1,v2,v3⟩:=sI.out.1.dM;exact bodyPost_ret (v:=.tuple #[.agg #[.int .i64 0,.slice none 0 0,.int .i64 0,.int .i64 0],.int .i64 6]) (by simp[results,results81,go_sem,v0,v1,v2,v3]) rfl (Or.inl ⟨6,HE.out,rfl,sI.out.2⟩)
  obtain⟨t,hw,rfl⟩:=ziM (JI s) hl;have hle:t.flat.length<=400:=by omega
  have HP:=hid (fun (W:World)=>zkd s W hs t.flat hl hle);have HT:=hid (Zz hw (Zz hl hle));have VY:=zkp t hw hle;have kD:=hid (fun (a:Option Addr) (cap:Nat) (W:World) (hL:mE W a t.flat)=>zox t hw a t.flat.length cap W hL rfl VY hle);clear hl hm hw VY;obtain⟨n,hn⟩:∃n,t.flat.length=n:=⟨_,rfl⟩
  have Hn:=hid hn;rw[hn] at HP kD hle;clear hn;go_enter func81,ntmps81;go_wp2_with fail;refine (HP.out _).mono ?_;rintro e w2 ⟨a2,c2,rfl,ho2,k2⟩;have H2:=hid (Zz (HB.out.1.trans (k2.mono HB.out.1.size)) (Zz (HB.out.2.aa k2) (zoy ho2 Hn.out)));clear k2 HP ho2;have nQ:=hid (kD.out a2 c2 w2 H2.out.2.2);go_wp2_with fail;refine nQ.out.mono ?_;rintro e w3 ⟨a3,c3,rfl,Ts,k3⟩;have H3:=hid (Zz (H2.out.1.trans (k3.mono H2.out.1.size)) (Zz (H2.out.2.1.aa k3) (jF Ts H2.out.1.size)));clear k3 Ts nQ kD;obtain⟨S,hS⟩:∃S:Nat,2*n=S:=⟨_,rfl⟩
  obtain⟨F,hF⟩:∃F:Nat,2*ef t 0=F:=⟨_,rfl⟩
  obtain⟨T,hT⟩:∃T:Nat,2*ef t 0+1=T:=⟨_,rfl⟩
  obtain⟨m,iJ⟩:∃m,(fx t 0).length=m:=⟨_,rfl⟩
  have HQ:=hid (Zz hS (Zz hF (Zz hT iJ)));rw[iJ] at H3;rw[hT,hS,hF,iJ];clear hS hF hT iJ;obtain⟨q0,q1,q2,q3,g0,g1,g2,g3⟩:=cZ H3.out.2.1;have sI:Hid (St ((((w3.setCell ⟨w.heap.size,0,none⟩ (.int .i64 (S:Int))).setCell ⟨w.heap.size,1,none⟩ (.slice a3 m c3)).setCell ⟨w.heap.size,2,none⟩ (.int .i64 (F:Int))).setCell ⟨w.heap.size,3,none⟩ (.int .i64 (T:Int))) 119 w.heap.size #[.int .i64 (S:Int),.slice a3 m c3,.int .i64 (F:Int),.int .i64 (T:Int)]/\Below w.heap.size w ((((w3.setCell ⟨w.heap.size,0,none⟩ (.int .i64 (S:Int))).setCell ⟨w.heap.size,1,none⟩ (.slice a3 m c3)).setCell ⟨w.heap.size,2,none⟩ (.int .i64 (F:Int))).setCell ⟨w.heap.size,3,none⟩ (.int .i64 (T:Int)))/\((((w3.setCell ⟨w.heap.size,0,none⟩ (.int .i64 (S:Int))).setCell ⟨w.heap.size,1,none⟩ (.slice a3 m c3)).setCell ⟨w.heap.size,2,none⟩ (.int .i64 (F:Int))).setCell ⟨w.heap.size,3,none⟩ (.int .i64 (T:Int))).ownsRow w.heap.size 186 7 (.slice a3 m c3) m (fp ((fx t 0).map En.z))):=⟨H3.out.2.1.rj _ _ _ _,uU H3.out.1 (Nat.le_refl _) _ _ _ _,WQ H3.out.2.2 H3.out.2.1 (by decide) _ _ _ _⟩
  go_wp2_with fail;generalize (((w3.setCell ⟨w.heap.size,0,none⟩ (.int .i64 (S:Int))).setCell ⟨w.heap.size,1,none⟩ (.slice a3 m c3)).setCell ⟨w.heap.size,2,none⟩ (.int .i64 (F:Int))).setCell ⟨w.heap.size,3,none⟩ (.int .i64 (T:Int))=Wf at sI⊢;obtain⟨v0,v1,v2,v3⟩:=sI.out.1.dM;refine bodyPost_ret (v:=.tuple #[.agg #[.int .i64 (S:Int),.slice a3 m c3,.int .i64 (F:Int),.int .i64 (T:Int)],.int .i64 0]) (by simp[results,results81,go_sem,v0,v1,v2,v3]) rfl (Or.inr ⟨t,HT.out.1,HT.out.2.1,HT.out.2.2,?_⟩);unfold xI;rw[Hn.out,HQ.out.1,HQ.out.2.2.1,HQ.out.2.1,HQ.out.2.2.2];exact⟨a3,c3,rfl,sI.out.2.2,sI.out.2.1⟩
 have iN:∀l,dd (eZ 99) ([],ae s)≠some (l,[]):=fun l h=>hp ⟨l,h⟩
 have HP:=hid (fun (W:World)=>zmd s W hs iN);have HE:Hid (sa s 5):=Or.inl ⟨rfl,iN⟩;clear iN hp;go_enter func81,ntmps81;go_wp2_with fail;refine (HP.out _).mono ?_;rintro e w2 ⟨rfl,k2⟩;have H2:=hid (Zz (HB.out.1.trans (k2.mono HB.out.1.size)) (HB.out.2.aa k2));clear k2 HP;obtain⟨q0,q1,q2,q3,g0,g1,g2,g3⟩:=cZ H2.out.2;have sI:Hid (St ((((w2.setCell ⟨w.heap.size,0,none⟩ (.int .i64 0)).setCell ⟨w.heap.size,1,none⟩ (.slice none 0 0)).setCell ⟨w.heap.size,2,none⟩ (.int .i64 0)).setCell ⟨w.heap.size,3,none⟩ (.int .i64 0)) 119 w.heap.size #[.int .i64 0,.slice none 0 0,.int .i64 0,.int .i64 0]/\Below w.heap.size w ((((w2.setCell ⟨w.heap.size,0,none⟩ (.int .i64 0)).setCell ⟨w.heap.size,1,none⟩ (.slice none 0 0)).setCell ⟨w.heap.size,2,none⟩ (.int .i64 0)).setCell ⟨w.heap.size,3,none⟩ (.int .i64 0))):=⟨H2.out.2.rj _ _ _ _,uU H2.out.1 (Nat.le_refl _) _ _ _ _⟩
 go_wp2_with fail;generalize (((w2.setCell ⟨w.heap.size,0,none⟩ (.int .i64 0)).setCell ⟨w.heap.size,1,none⟩ (.slice none 0 0)).setCell ⟨w.heap.size,2,none⟩ (.int .i64 0)).setCell ⟨w.heap.size,3,none⟩ (.int .i64 0)=Wf at sI⊢;obtain⟨v0,v1,v2,v3⟩:=sI.out.1.dM;exact bodyPost_ret (v:=.tuple #[.agg #[.int .i64 0,.slice none 0 0,.int .i64 0,.int .i64 0],.int .i64 5]) (by simp[results,results81,go_sem,v0,v1,v2,v3]) rfl (Or.inl ⟨5,HE.out,rfl,sI.out.2⟩)
end Go.Proofs.YtiijebameffenaaGreat
