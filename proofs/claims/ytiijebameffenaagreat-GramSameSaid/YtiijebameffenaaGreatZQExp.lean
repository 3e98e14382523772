import Derived.Test.YtiijebameffenaaGreatZPParse
import Derived.Test.YtiijebameffenaaGreatZQEof
set_option linter.all false
set_option maxHeartbeats 4000000
set_option maxRecDepth 100000
open Go.Lib (hid)
namespace Go.Proofs.YtiijebameffenaaGreat
open Go.RowKit Go.Proofs.Tryz
open Act (put)
variable {B c n:Nat}{a:Option Addr}{atom:bJ->Option bJ}{k:Int}{l r:List Nat}{w:World}
theorem ziy(p:Nat->Bool)(h:ef p=true):∀b,b<256->p b=false:=by
 intro b hb;have e:ca p 256=[]:=List.length_eq_zero_iff.1 (by simpa [ef] using h);rcases hp:p b with _|_
 ·rfl
 have:=(Lo p 256 b).2 ⟨hb,hp⟩;rw[e] at this;simp at this
def nW(l:List Nat):Prop:=∀x∈l,x<256
theorem nW.drop(h:nW l)(k:Nat):nW (l.drop k):=fun x hx=>h x (List.mem_of_mem_drop hx)
theorem nW.tail(h:nW (c :: l)):nW l:=fun x hx=>h x (List.mem_cons_of_mem _ hx)
theorem nW.skip{s:List Nat}(h:nW s)(e:aG c s=some r):nW r:=by
 have:=uI e;subst this;exact h.tail
def C3(b:List Pc)(s':bJ):Prop:=(∃t:Rx,t.wf/\s'.1=b++t.flat)/\nW s'.2
def tK(g:bJ->Option bJ):Prop:=∀s s',nW s.2->g s=some s'->C3 s.1 s'
theorem XN{p:Nat->Bool}{b:Nat}(hb:b<256)(h:p b=true):ef p=false:=by
 cases e:ef p with
 | false=>rfl
 | true=>exact absurd (ziy p e b hb) (by rw[h];decide)
theorem UE:ef bB=true:=by decide +kernel
theorem zkd:ef (fun _=>true)=false:=XN (b:=0) (by omega) rfl
theorem PX{p:Nat->Bool}(h:ef p=false):(Rx.leaf ⟨1,p⟩).wf:=⟨by show aI 1=0;decide,by unfold iC;rw[h];rfl⟩
theorem zl4:(Rx.leaf ⟨0,bB⟩).wf:=⟨by show aI 0=0;decide,by unfold iC;rw[UE];rfl⟩
theorem Fc(hk:(k == 1)=false):iC ⟨k,bB⟩=true:=by
 unfold iC;rw[UE];show (true != (k == 1))=true;rw[hk];rfl
theorem ZT(h:ia c=some k):aI k=1/\iC ⟨k,bB⟩=true:=by
 unfold ia at h;split at h
 ·injection h with h;subst h;exact⟨by decide,Fc rfl⟩
 split at h
 ·injection h with h;subst h;exact⟨by decide,Fc rfl⟩
 split at h
 ·injection h with h;subst h;exact⟨by decide,Fc rfl⟩
 cases h
theorem Zb:∀(r:List Nat) (b acc:List Pc),nW r->(∃t:Rx,t.wf/\acc=b++t.flat)->C3 b (cJ r acc):=by
 intro r
 induction r with
 | nil=>intro b acc h ht;exact⟨ht,h⟩
 | cons c r ih=>
  intro b acc h ht
  show C3 b (match ia c with|some k=>cJ r (acc++[⟨k,bB⟩])|none=>(acc,c :: r))
  cases hs:ia c with
  | none=>exact⟨ht,h⟩
  | some k=>
   obtain⟨t,hw,e⟩:=ht;have hk:=ZT hs;exact ih b _ h.tail ⟨.un ⟨k,bB⟩ t,⟨hk.1,hk.2,hw⟩,by rw[e];simp[Rx.flat]⟩
theorem Us(h:tK atom):tK (dV atom):=by
 intro s s' hb e;unfold dV at e;cases ha:atom s with
 | none=>rw[ha] at e;cases e
 | some x=>
  rw[ha] at e;injection e with e;subst e;have:=h s x hb ha;exact Zb x.2 s.1 x.1 this.2 this.1
theorem ziA(h:tK atom):∀(f:Nat) (b:List Pc) (s s':bJ),C3 b s->bP atom f s=some s'->C3 b s':=by
 intro f
 induction f with
 | zero=>intro b s s' _ e;cases e
 | succ f ih=>
  intro b s s' hg e;unfold bP at e;split at e
  ·injection e with e;subst e;exact hg
  cases ha:dV atom s with
  | none=>rw[ha] at e;cases e
  | some x=>
   simp only[ha] at e;obtain⟨⟨u,hu,e1⟩,kC⟩:=Us h s x hg.2 ha;obtain⟨⟨t,ht,e2⟩,_⟩:=hg;refine ih b (x.1++[⟨2,bB⟩],x.2) s' ⟨⟨.bin ⟨2,bB⟩ t u,⟨by decide,Fc rfl,ht,hu⟩,?_⟩,kC⟩ e;show x.1++[⟨2,bB⟩]=_;rw[e1,e2];simp[Rx.flat]
theorem Sf(h:tK atom):tK (dU atom):=by
 intro s s' hb e;unfold dU at e;cases ha:dV atom s with
 | none=>rw[ha] at e;cases e
 | some x=>
  rw[ha] at e;exact ziA h _ s.1 x s' (Us h s x hb ha) e
theorem ziB(h:tK atom):∀(f:Nat) (b:List Pc) (s s':bJ),C3 b s->bQ atom f s=some s'->C3 b s':=by
 intro f
 induction f with
 | zero=>intro b s s' _ e;cases e
 | succ f ih=>
  intro b s s' hg e
  unfold bQ at e
  cases hk:aG 124 s.2 with
  | none=>rw[hk] at e;injection e with e;subst e;exact hg
  | some r=>
   simp only[hk] at e
   cases ha:dU atom (s.1,r) with
   | none=>simp only[ha] at e;cases e
   | some x=>
    simp only[ha] at e;obtain⟨⟨u,hu,e1⟩,kC⟩:=Sf h (s.1,r) x (hg.2.skip hk) ha;obtain⟨⟨t,ht,e2⟩,_⟩:=hg;refine ih b (x.1++[⟨3,bB⟩],x.2) s' ⟨⟨.bin ⟨3,bB⟩ t u,⟨by decide,Fc rfl,ht,hu⟩,?_⟩,kC⟩ e;show x.1++[⟨3,bB⟩]=_;rw[e1];show (s.1++u.flat)++_=_;rw[e2];simp[Rx.flat]
theorem SM(h:tK atom):tK (db atom):=by
 intro s s' hb e;unfold db at e;cases ha:dU atom s with
 | none=>rw[ha] at e;cases e
 | some x=>
  rw[ha] at e;exact ziB h _ s.1 x s' (Sf h s x hb ha) e
theorem ziC(h:tK atom):tK (fC atom):=by
 intro s s' hb e;unfold fC at e;cases ha:db atom s with
 | none=>rw[ha] at e;cases e
 | some x=>
  rw[ha] at e
  have hx:=SM h s x hb ha
  cases hk:aG 41 x.2 with
  | none=>simp only[hk] at e;cases e
  | some r=>
   simp only[hk] at e;injection e with e;subst e;exact⟨hx.1,hx.2.skip hk⟩
theorem Rb{sp:ByteArray}{s:List Nat}(hb:nW s)(h:bu sp s=some (c,r)):c<256/\nW r:=by
 unfold bu at h;split at h
 ·injection h with h;injection h with h1 h2;subst h1 h2;exact⟨(No s hb).1,hb.drop _⟩
 cases h
theorem X8{s:List Nat}{a:Nat}(hb:nW s)(h:dN s=some (a,c,r)):nW r:=by
 unfold dN at h;cases h1:bu eW s with
 | none=>rw[h1] at h;cases h
 | some x=>
  obtain⟨a1,r1⟩:=x
  rw[h1] at h
  have ES:=(Rb hb h1).2
  cases h2:aG 45 r1 with
  | none=>simp only[h2] at h;injection h with h;injection h with _ h;injection h with _ h;subst h;exact ES
  | some r2=>
   simp only[h2] at h
   cases h3:bu eW r2 with
   | none=>simp only[h3] at h;cases h
   | some y=>
    obtain⟨c1,r3⟩:=y;simp only[h3] at h;split at h
    ·injection h with h;injection h with _ h;injection h with _ h;subst h;exact (Rb (ES.skip h2) h3).2
    cases h
theorem Sx:∀(f:Nat) (q:Nat->Bool) (s:List Nat) (q':Nat->Bool) (r:List Nat),nW s->aO f q s=some (q',r)->nW r:=by
 intro f
 induction f with
 | zero=>intro q s q' r _ h;cases h
 | succ f ih=>
  intro q s q' r hb h
  unfold aO at h
  cases h1:aG 93 s with
  | some r1=>simp only[h1] at h;injection h with h;injection h with _ h;subst h;exact hb.skip h1
  | none=>
   simp only[h1] at h
   cases h2:dN s with
   | none=>simp only[h2] at h;cases h
   | some y=>
    obtain⟨a,c,r1⟩:=y;simp only[h2] at h;exact ih _ r1 q' r (X8 hb h2) h
theorem zl6{s:List Nat}{q:Nat->Bool}(hb:nW s)(h:eV s=some (q,r)):ef q=false/\nW r:=by
 unfold eV at h;cases h1:aG 94 s with
 | some r1=>
  simp only[h1] at h
  cases h2:aO (r1.length+1) bB r1 with
  | none=>simp only[h2] at h;cases h
  | some y=>
   obtain⟨q1,r2⟩:=y;simp only[h2] at h;split at h
   ·cases h
   rename_i hn;injection h with h;injection h with e1 e2;subst e1 e2;exact⟨by simpa using hn,Sx _ _ _ _ _ (hb.skip h1) h2⟩
 | none=>
  simp only[h1] at h
  cases h2:aO (s.length+1) bB s with
  | none=>simp only[h2] at h;cases h
  | some y=>
   obtain⟨q1,r2⟩:=y;simp only[h2] at h;split at h
   ·cases h
   rename_i hn;injection h with h;injection h with e1 e2;subst e1 e2;exact⟨by simpa using hn,Sx _ _ _ _ _ hb h2⟩
theorem Re{group:bJ->Option bJ}(h:tK group):tK (fT group):=by
 intro s s' hb e;unfold fT at e;cases h1:aG 46 s.2 with
 | some r=>
  simp only[h1] at e;injection e with e;subst e;exact⟨⟨.leaf ⟨1,fun _=>true⟩,PX zkd,rfl⟩,hb.skip h1⟩
 | none=>
  simp only[h1] at e
  cases h2:aG 126 s.2 with
  | some r=>
   simp only[h2] at e;injection e with e;subst e;exact⟨⟨.leaf ⟨0,bB⟩,zl4,rfl⟩,hb.skip h2⟩
  | none=>
   simp only[h2] at e
   cases h3:aG 40 s.2 with
   | some r=>
    simp only[h3] at e;exact h (s.1,r) s' (hb.skip h3) e
   | none=>
    simp only[h3] at e
    cases h4:aG 91 s.2 with
    | some r=>
     simp only[h4] at e
     cases h5:eV r with
     | none=>simp only[h5] at e;cases e
     | some y=>
      obtain⟨q,r1⟩:=y;simp only[h5] at e;injection e with e;subst e;have:=zl6 (hb.skip h4) h5;exact⟨⟨.leaf ⟨1,q⟩,PX this.1,rfl⟩,this.2⟩
    | none=>
     simp only[h4] at e
     cases h5:bu tZ s.2 with
     | none=>simp only[h5] at e;cases e
     | some y=>
      obtain⟨c,r⟩:=y;simp only[h5] at e;injection e with e;subst e;have:=Rb hb h5;exact⟨⟨.leaf ⟨1,iJ (fun _=>c) 1⟩,PX (XN this.1 ((Og _ 1 c).2 ⟨0,by omega,rfl⟩)),rfl⟩,this.2⟩
theorem zl7:∀D,tK (eR D):=by
 intro D
 induction D with
 | zero=>exact Re (fun s s' _ e=>by cases e)
 | succ D ih=>exact Re (ziC ih)
theorem ziE{s:List Nat}{l:List Pc}(hb:nW s)(h:db (eR 99) ([],s)=some (l,[])):∃t:Rx,t.wf/\t.flat=l:=by
 obtain⟨⟨t,hw,e⟩,_⟩:=SM (zl7 99) ([],s) (l,[]) hb h;exact⟨t,hw,by simpa using e.symm⟩
open Go.Maps Go.WideElems Go.ChangeMaps Go.MapKept
structure zj (W0:World)(br bn:Nat)(cN cF cT:Value)(vE:Value)(E:List En)(w:World):Prop where
 below:Below W0.heap.size W0 w
 s4:St w 119 bn #[cN,vE,cF,cT]
 s0:St w 119 br #[.int .i64 0,.slice none 0 0,.int .i64 0,.int .i64 0]
 oe:w.ownsRow W0.heap.size 186 7 vE E.length (fe (E.map En.z))
 ne:br≠bn
 lo:W0.heap.size<=bn/\W0.heap.size<=br
theorem zj.aa{W0 w':World}{br bn:Nat}{cN cF cT vE:Value}{E:List En}(h:zj W0 br bn cN cF cT vE E w)(k:Below w.heap.size w w'):zj W0 br bn cN cF cT vE E w':=
 ⟨h.below.trans (k.mono h.below.size),h.s4.aa k,h.s0.aa k,dr h.oe k,h.ne,h.lo⟩
theorem zj.app{W0 w w':World}{br bn:Nat}{cN cF cT vE vE':Value}{E L:List En}(h:zj W0 br bn cN cF cT vE E w)(ho:w'.ownsRow W0.heap.size 186 7 vE' (E.length+L.length) (fe (E.map En.z)++fe (L.map En.z)))(hg:w.grownBy w' vE.ownBlock):
  zj W0 br bn cN cF cT vE' (E++L) (w'.setCell ⟨bn,1,none⟩ vE'):=by
 have h4:=h.s4.af h.oe (by decide) hg;refine⟨(fA h.below h.oe h.below.size hg).setCell (p:=⟨bn,1,none⟩) h.lo.1 _,?_,(h.s0.af h.oe (by decide) hg).fV (p:=⟨bn,1,none⟩) h.ne _,?_,h.ne,h.lo⟩
 ·have:=h4.set 1 vE';simpa using this
 rw[List.length_append,List.map_append,zia];exact ju ho h4 (by decide) 1 vE'
theorem VB{xs:List Value}(h:w.ownsRow B 186 7 (.slice a n c) n xs)(hn:0<n):∃g,Value.slice a n c=.slice (some ⟨g,0,none⟩) n c/\∀j u,xs[j]?=some u->w.cell? ((⟨g,0,none⟩:Addr).add j)=some u:=by
 obtain⟨g,e,_,_,hc⟩:=fa h hn;refine⟨g,by rw[e],fun j u hj=>?_⟩;have hl:=(List.getElem?_eq_some_iff.1 hj).1;rw[h.1] at hl;have e2:(⟨g,0,none⟩:Addr).add j=⟨g,j,none⟩:=by unfold Addr.add;split <;> simp_all
 rw[e2,(hc j hl).1,hj]
theorem zn0(l:List Pc)(i:Nat):1<=(jG l i).length:=by
 unfold jG;split
 ·simp[eD]
 split
 ·unfold cm;split <;> simp
 simp[fK]
theorem XT(l:List Pc)(i:Nat):(jG l i).length<=4:=by
 unfold jG;split
 ·unfold eD;split <;> split <;> simp
 split
 ·unfold cm;split <;> simp
 simp[fK]
def zH(l:List Pc)(k:Nat):List En:=(List.range k).flatMap (jG l)
theorem RC(l:List Pc)(k:Nat):zH l (k+1)=zH l k++jG l k:=by unfold zH;rw[List.range_succ,List.flatMap_append];simp
theorem zoS(l:List Pc)(k:Nat):(zH l k).length<=4*k:=by
 induction k with
 | zero=>simp[zH]
 | succ k ih=>rw[RC,List.length_append];have:=XT l k;omega
def wi(t:Rx)(n:Nat)(w:World)(e:Ending)(w':World):Prop:=
 ∃a c,e=.returned (.tuple #[.agg #[.int .i64 ((2*n:Nat):Int),.slice a (fw t 0).length c,.int .i64 ((2*eI t 0:Nat):Int),.int .i64 ((2*eI t 0+1:Nat):Int)],.int .i64 0])/\
  w'.ownsRow w.heap.size 186 7 (.slice a (fw t 0).length c) (fw t 0).length (fe ((fw t 0).map En.z))/\Below w.heap.size w w'
theorem X1(t:Rx)(hw:t.wf)(a:Option Addr)(n cap:Nat)(w:World)(hL:mE w a t.flat)(hn:t.flat.length=n)(hc:kJ t.flat=0)(ka:n<=400):
  Calls prog 94 #[.slice a n cap] w (wi t n w):=by
 obtain⟨l,hl⟩:∃l,t.flat=l:=⟨_,rfl⟩
 have HT:Hid (zH l n=fw t 0/\eI t 0=n-1/\1<=n):=by
  refine⟨?_,?_,?_⟩
  ·rw[<-hl,<-hn];exact ON t hw
  ·unfold eI;omega
  have:=t.bY;omega
 have Qs:Hid (∀k,k<n->∀W,Below w.heap.size w W->Calls prog 115 #[.slice a n cap,.int .i64 ((k:Nat):Int)] W (um (jG l k) W)):=fun k hk W hW=>by
  have hv:∀x∈l,0<=aI x.k:=by rw[<-hl];exact Yw t hw
  refine zgG l a n cap W (by rw[<-hl];exact hL.below hW) (by rw[<-hl];exact hn) (by omega) k hk (hv _ ?_) (by rw[<-hl];exact zkb t hw k (by omega));rw[hl] at hn;rw[List.getD_eq_getElem?_getD,List.getElem?_eq_getElem (by omega)];exact List.getElem_mem (by omega)
 have Ik:=hid (fun (W:World) (hW:Below w.heap.size w W)=>Yd t.flat a n cap W (hL.below hW) hn (by unfold maxLen;omega));rw[hc] at Ik;have ny:=hid (Zz (al w (.cells #[.int .i64 0,.slice none 0 0,.int .i64 0,.int .i64 0] 119)) (St.new w 119 #[.int .i64 0,.slice none 0 0,.int .i64 0,.int .i64 0]));obtain⟨b,hb⟩:∃b,n-1=b:=⟨_,rfl⟩
 have aZ:b+1=n:=by have:=HT.out.2.2;omega
 have Hb:=hid hb;have MO:=hid (fun (W:World)=>Db b (by omega) W);have BH:=hid (fun (W:World)=>D3 b (by omega) W);obtain⟨F,hF⟩:∃F:Nat,2*b=F:=⟨_,rfl⟩
 obtain⟨T,hT⟩:∃T:Nat,2*b+1=T:=⟨_,rfl⟩
 have RD:=hid (Zz hF hT);rw[hF] at MO;rw[hT] at BH;obtain⟨S,hS⟩:∃S:Nat,2*n=S:=⟨_,rfl⟩
 have ZD:=hid hS;obtain⟨i0,hi,dF,cY,cO⟩:=info_parts oJ;have w0:(n:Int)-1=(b:Int):=by omega
 have w1:2*(n:Int)=S:=by omega
 clear hL hn hc hb hF hT hS hl;go_enter func94,ntmps94;go_wp2_with fail;refine (Ik.out _ ny.out.1).mono ?_;rintro e w2 ⟨rfl,v2⟩;have H2:=hid (Zz (ny.out.1.trans (v2.mono ny.out.1.size)) (ny.out.2.aa v2));clear v2 Ik ny;go_wp2_with fail;refine (MO.out _).mono ?_;rintro e w3 ⟨rfl,rfl⟩;go_wp2_with fail;refine (BH.out _).mono ?_;rintro e w3 ⟨rfl,rfl⟩;go_wp2_with fail;have uD:=al w2 (.cells #[.int .i64 (S:Int),.slice none 0 0,.int .i64 (F:Int),.int .i64 (T:Int)] 119);have H3:Hid (zj w w.heap.size w2.heap.size (.int .i64 (S:Int)) (.int .i64 (F:Int)) (.int .i64 (T:Int)) (.slice none 0 0) (zH l 0) (w2.alloc (.cells #[.int .i64 (S:Int),.slice none 0 0,.int .i64 (F:Int),.int .i64 (T:Int)] 119))):=
  ⟨H2.out.1.trans (uD.mono H2.out.1.size),St.new _ _ _,H2.out.2.aa uD,World.ownsRow_nil _ _ _ _,Nat.ne_of_lt H2.out.2.lt,H2.out.1.size,Nat.le_refl _⟩
 clear uD H2 MO BH;generalize w2.alloc (.cells #[.int .i64 (S:Int),.slice none 0 0,.int .i64 (F:Int),.int .i64 (T:Int)] 119)=W1 at H3⊢;obtain⟨bn,BA⟩:∃bn,w2.heap.size=bn:=⟨_,rfl⟩
 rw[BA] at H3;rw[BA];clear BA;go_loopw [7,27] (fun _ v wr=>∃(k:Nat) (vE:Value) (E:List En),v=.int .i64 k/\k<=n/\Hid (E=zH l k)/\Hid (zj w w.heap.size bn (.int .i64 (S:Int)) (.int .i64 (F:Int)) (.int .i64 (T:Int)) vE E wr)) (fun _ v _=>n-(intOf v).toNat)
 ·exact⟨0,_,_,rfl,by omega,rfl,H3.out⟩
 clear H3;obtain⟨k,vE,E,rfl,hk,HE,HA⟩:=hrel;obtain⟨aE,cE,rfl⟩:=bE HA.out.oe;by_cases av:k<n
 ·have VC:=hid (Qs.out k av);have wP:=zn0 l k;have Ac:=XT l k;have hE4:E.length<=4*k:=by rw[HE.out];exact zoS l k
  have zk:Hid (E++jG l k=zH l (k+1)):=by show _=_;rw[RC,HE.out]
  have lI:Hid (zj w w.heap.size bn (.int .i64 (S:Int)) (.int .i64 (F:Int)) (.int .i64 (T:Int)) (.slice aE E.length cE) E wr.drew):=HA.out.aa (Below.refl _ _).drew;have e2:wr.cell? ⟨bn,1,none⟩=some (.slice aE E.length cE):=HA.out.s4.at_ 1;have i1:(k:Int)<n:=by omega
  go_upto_region 9 with fail;refine wp_region_held_drew (S:=fun W'=>Below w.heap.size w W'/\True) (by kernel_rfl) ⟨lI.out.below,trivial⟩ (fun hHeld=>?_)
  (refine ak 0 ?_;refine ak 2 ?_;refine ak 3 ?_;try simp only[put,sA,sB,sC])
  refine wpAnyH_ready (rs:=[1,4]) (by kernel_rfl) (by simp) ?_;refine ik (fun K hK=>?_) ?_
  ·skip;go_simp;refine hK.out _ _ ⟨lI.out.below,trivial⟩ (fun hHeld=>?_);clear hK K
   try simp only[put,sA,sB,sC]
   refine bc 4 (fun K hK=>?_);skip;go_simp;go_at_call 115;refine (VC.out _ lI.out.below).mono ?_;rintro e w5 ⟨a5,c5,rfl,jw,v5⟩;have zV:=hid jw;have dZ:=hid (lI.out.aa v5);have e5:w5.cell? ⟨bn,1,none⟩=some (.slice aE E.length cE):=dZ.out.s4.at_ 1;clear v5 jw
   try go_wp2_with fail
   refine hK.out _ _ ⟨dZ.out.below,trivial⟩ (fun hHeld=>?_);clear hK K
   try simp only[put,sA,sB,sC]
   refine bc 5 (fun K hK=>?_);skip;skip;obtain⟨g5,CW,rK⟩:=VB zV.out wP;injection CW with CW _ _;subst CW;refine wB (by rfl) _ _ _ (by rfl) w.heap.size 186 i0 (.agg #[.int .i64 0,.int .i64 0,.int .u64 0,.int .u64 0,.int .u64 0,.int .u64 0,.bool false]) 7 56 underlying117 hi dF cY cO (by rfl) (by decide) _ E.length (fe (E.map En.z)) (by rfl) dZ.out.oe ⟨g5,0,none⟩ (jG l k).length c5 (fe ((jG l k).map En.z)) (by rfl) (by rw[RZ,List.length_map]) rK (Sw _) (by unfold maxLen;omega) (by omega) dZ.out.below.size ?_;intro v6 w6 aq ag;obtain⟨a6,c6,rfl⟩:=bE aq;have nz:=dZ.out.s4.af dZ.out.oe (by decide) ag;have Ha:=hid (dZ.out.app (vE':=.slice a6 (E.length+(jG l k).length) c6) aq ag);have t3:w6.cell? ⟨bn,1,none⟩=some (.slice aE E.length cE):=nz.at_ 1;have f3:=nz.aX 1;have eC:=fA dZ.out.below dZ.out.oe dZ.out.below.size ag;refine hK.out _ _ ⟨eC,trivial⟩ (fun hHeld=>?_);clear hK K aq ag nz eC
   try simp only[put,sA,sB,sC]
   (refine ak 6 ?_;try simp only[put,sA,sB,sC])
   refine bc 7 (fun K hK=>?_);skip;go_simp;refine hK.out _ _ ⟨Ha.out.below,trivial⟩ (fun hHeld=>?_);clear hK K
   try simp only[put,sA,sB,sC]
   refine wpAnyH_done (by kernel_rfl) ?_ _;clear hHeld;go_wp2;go_roundw
   ·exact⟨k+1,_,E++jG l k,by go_num,by omega,zk.out,Ha.out⟩
   simp[intOf];omega
  refine ik (fun K hK=>?_) ?_
  ·skip;go_simp;go_at_call 115;refine (VC.out _ lI.out.below).mono ?_;rintro e w5 ⟨a5,c5,rfl,jw,v5⟩;have zV:=hid jw;have dZ:=hid (lI.out.aa v5);have e5:w5.cell? ⟨bn,1,none⟩=some (.slice aE E.length cE):=dZ.out.s4.at_ 1;clear v5 jw
   try go_wp2_with fail
   refine hK.out _ _ ⟨dZ.out.below,trivial⟩ (fun hHeld=>?_);clear hK K
   try simp only[put,sA,sB,sC]
   refine bc 1 (fun K hK=>?_);skip;go_simp;refine hK.out _ _ ⟨dZ.out.below,trivial⟩ (fun hHeld=>?_);clear hK K
   try simp only[put,sA,sB,sC]
   refine bc 5 (fun K hK=>?_);skip;skip;obtain⟨g5,CW,rK⟩:=VB zV.out wP;injection CW with CW _ _;subst CW;refine wB (by rfl) _ _ _ (by rfl) w.heap.size 186 i0 (.agg #[.int .i64 0,.int .i64 0,.int .u64 0,.int .u64 0,.int .u64 0,.int .u64 0,.bool false]) 7 56 underlying117 hi dF cY cO (by rfl) (by decide) _ E.length (fe (E.map En.z)) (by rfl) dZ.out.oe ⟨g5,0,none⟩ (jG l k).length c5 (fe ((jG l k).map En.z)) (by rfl) (by rw[RZ,List.length_map]) rK (Sw _) (by unfold maxLen;omega) (by omega) dZ.out.below.size ?_;intro v6 w6 aq ag;obtain⟨a6,c6,rfl⟩:=bE aq;have nz:=dZ.out.s4.af dZ.out.oe (by decide) ag;have Ha:=hid (dZ.out.app (vE':=.slice a6 (E.length+(jG l k).length) c6) aq ag);have t3:w6.cell? ⟨bn,1,none⟩=some (.slice aE E.length cE):=nz.at_ 1;have f3:=nz.aX 1;have eC:=fA dZ.out.below dZ.out.oe dZ.out.below.size ag;refine hK.out _ _ ⟨eC,trivial⟩ (fun hHeld=>?_);clear hK K aq ag nz eC
   try simp only[put,sA,sB,sC]
   (refine ak 6 ?_;try simp only[put,sA,sB,sC])
   refine bc 7 (fun K hK=>?_);skip;go_simp;refine hK.out _ _ ⟨Ha.out.below,trivial⟩ (fun hHeld=>?_);clear hK K
   try simp only[put,sA,sB,sC]
   refine wpAnyH_done (by kernel_rfl) ?_ _;clear hHeld;go_wp2;go_roundw
   ·exact⟨k+1,_,E++jG l k,by go_num,by omega,zk.out,Ha.out⟩
   simp[intOf];omega
  exact AllReadyH.nil
 obtain rfl:k=n:=by omega
 obtain⟨p0,p1,p2,p3⟩:=HA.out.s4.dP;obtain⟨q0,q1,q2,q3,g0,g1,g2,g3⟩:=cW HA.out.s0;have HF:Hid (wi t k w (.returned (.tuple #[.agg #[.int .i64 (S:Int),.slice aE E.length cE,.int .i64 (F:Int),.int .i64 (T:Int)],.int .i64 0])) ((((wr.setCell ⟨w.heap.size,0,none⟩ (.int .i64 (S:Int))).setCell ⟨w.heap.size,1,none⟩ (.slice aE E.length cE)).setCell ⟨w.heap.size,2,none⟩ (.int .i64 (F:Int))).setCell ⟨w.heap.size,3,none⟩ (.int .i64 (T:Int)))):=by
  have hE:E=fw t 0:=by rw[HE.out];exact HT.out.1
  unfold wi;rw[<-hE,HT.out.2.1,Hb.out,RD.out.2,RD.out.1,ZD.out];exact⟨aE,cE,rfl,T0 HA.out.oe HA.out.s0 (by decide) _ _ _ _,uF HA.out.below (Nat.le_refl _) _ _ _ _⟩
 have rF:Hid (St ((((wr.setCell ⟨w.heap.size,0,none⟩ (.int .i64 (S:Int))).setCell ⟨w.heap.size,1,none⟩ (.slice aE E.length cE)).setCell ⟨w.heap.size,2,none⟩ (.int .i64 (F:Int))).setCell ⟨w.heap.size,3,none⟩ (.int .i64 (T:Int))) 119 w.heap.size #[.int .i64 (S:Int),.slice aE E.length cE,.int .i64 (F:Int),.int .i64 (T:Int)]):=HA.out.s0.qH _ _ _ _;go_wp2_with fail;generalize (((wr.setCell ⟨w.heap.size,0,none⟩ (.int .i64 (S:Int))).setCell ⟨w.heap.size,1,none⟩ (.slice aE E.length cE)).setCell ⟨w.heap.size,2,none⟩ (.int .i64 (F:Int))).setCell ⟨w.heap.size,3,none⟩ (.int .i64 (T:Int))=Wf at HF rF⊢;obtain⟨v0,v1,v2,v3⟩:=rF.out.dP;exact bodyPost_ret (v:=.tuple #[.agg #[.int .i64 (S:Int),.slice aE E.length cE,.int .i64 (F:Int),.int .i64 (T:Int)],.int .i64 0]) (by simp[results,results94,go_sem,v0,v1,v2,v3]) rfl HF.out
theorem Z6{l:List Pc}(h:w.ownsRow B 148 5 (.slice a n c) n (mx l))(hn:l.length=n):mE w a l:=by
 intro h0;obtain⟨g,rfl,_,hg,hc⟩:=fa h (by omega);exact⟨g,0,rfl,hg,fun j hj=>by rw[Nat.zero_add,(hc j (by omega)).1]⟩
theorem Z0(t:Rx)(hw:t.wf):∀(r:List Pc) (n:Int),0<=n->eH (t.flat++r) n=eH r (n+1):=by
 induction t with
 | leaf x=>
  intro r n hn;show (if kh x n=true then eH r (n+1-aI x.k) else none)=_;have ho:kh x n=true:=by
   unfold kh;rw[hw.1,hw.2];simp;omega
  rw[if_pos ho,hw.1];congr 1;omega
 | un x a ih=>
  intro r n hn;show eH ((a.flat++[x])++r) n=_;rw[List.append_assoc,ih hw.2.2 _ n hn];show (if kh x (n+1)=true then eH r (n+1+1-aI x.k) else none)=_;have ho:kh x (n+1)=true:=by
   unfold kh;rw[hw.1,hw.2.1];simp;omega
  rw[if_pos ho,hw.1];congr 1;omega
 | bin x a b ih jh=>
  intro r n hn;show eH ((a.flat++(b.flat++[x]))++r) n=_;rw[List.append_assoc,List.append_assoc,ih hw.2.2.1 _ n hn,jh hw.2.2.2 _ (n+1) (by omega)];show (if kh x (n+1+1)=true then eH r (n+1+1+1-aI x.k) else none)=_;have ho:kh x (n+1+1)=true:=by
   unfold kh;rw[hw.1,hw.2.1];simp;omega
  rw[if_pos ho,hw.1];congr 1;omega
theorem zke(t:Rx)(hw:t.wf)(h:t.flat.length<=400):kJ t.flat=0:=by
 have h1:eH t.flat 0=some 1:=by
  have:=Z0 t hw [] 0 (by omega);rw[List.append_nil] at this;rw[this];rfl
 unfold kJ;rw[if_neg (by omega),if_pos h1]
def ru(s:ByteArray)(er:Nat):Prop:=(er=5/\∀l,db (eR 99) ([],ae s)≠some (l,[]))\/(er=6/\∃l,db (eR 99) ([],ae s)=some (l,[])/\400<l.length)
def ME(s:ByteArray)(w:World)(e:Ending)(w':World):Prop:=
 (∃er:Nat,ru s er/\e=.returned (.tuple #[.agg #[.int .i64 0,.slice none 0 0,.int .i64 0,.int .i64 0],.int .i64 (er:Int)])/\Below w.heap.size w w')\/
 (∃t:Rx,t.wf/\db (eR 99) ([],ae s)=some (t.flat,[])/\t.flat.length<=400/\wi t t.flat.length w e w')
theorem zeS(s:ByteArray)(hs:s.size<=1600)(w:World):Calls prog 81 #[.string s] w (ME s w):=by
 have HB:=hid (Zz (al w (.cells #[.int .i64 0,.slice none 0 0,.int .i64 0,.int .i64 0] 119)) (St.new w 119 #[.int .i64 0,.slice none 0 0,.int .i64 0,.int .i64 0]));by_cases hp:∃l,db (eR 99) ([],ae s)=some (l,[])
 ·obtain⟨l,hl⟩:=hp;by_cases hm:400<l.length
  ·have HP:=hid (fun (W:World)=>zip s W hs l hl hm);have HE:Hid (ru s 6):=Or.inr ⟨rfl,l,hl,hm⟩;clear hl hm;go_enter func81,ntmps81;go_wp2_with fail;refine (HP.out _).mono ?_;rintro e w2 ⟨rfl,k2⟩;have H2:=hid (Zz (HB.out.1.trans (k2.mono HB.out.1.size)) (HB.out.2.aa k2));clear k2 HP;obtain⟨q0,q1,q2,q3,g0,g1,g2,g3⟩:=cW H2.out.2;have rF:Hid (St ((((w2.setCell ⟨w.heap.size,0,none⟩ (.int .i64 0)).setCell ⟨w.heap.size,1,none⟩ (.slice none 0 0)).setCell ⟨w.heap.size,2,none⟩ (.int .i64 0)).setCell ⟨w.heap.size,3,none⟩ (.int .i64 0)) 119 w.heap.size #[.int .i64 0,.slice none 0 0,.int .i64 0,.int .i64 0]/\Below w.heap.size w ((((w2.setCell ⟨w.heap.size,0,none⟩ (.int .i64 0)).setCell ⟨w.heap.size,1,none⟩ (.slice none 0 0)).setCell ⟨w.heap.size,2,none⟩ (.int .i64 0)).setCell ⟨w.heap.size,3,none⟩ (.int .i64 0))):=(⟨H2.out.2.qH _ _ _ _,uF H2.out.1 (Nat.le_refl _) _ _ _ _⟩);go_wp2_with fail;generalize (((w2.setCell ⟨w.heap.size,0,none⟩ (.int .i64 0)).setCell ⟨w.heap.size,1,none⟩ (.slice none 0 0)).setCell ⟨w.heap.size,2,none⟩ (.int .i64 0)).setCell ⟨w.heap.size,3,none⟩ (.int .i64 0)=Wf at rF⊢;obtain⟨v0,v1,v2,v3⟩:=rF.out.1.dP;exact bodyPost_ret (v:=.tuple #[.agg #[.int .i64 0,.slice none 0 0,.int .i64 0,.int .i64 0],.int .i64 6]) (by simp[results,results81,go_sem,v0,v1,v2,v3]) rfl (Or.inl ⟨6,HE.out,rfl,rF.out.2⟩)
  obtain⟨t,hw,rfl⟩:=ziE (Gm s) hl;have hle:t.flat.length<=400:=by omega
  have HP:=hid (fun (W:World)=>zj2 s W hs t.flat hl hle);have HT:=hid (Zz hw (Zz hl hle));have WQ:=zke t hw hle;have km:=hid (fun (a:Option Addr) (cap:Nat) (W:World) (hL:mE W a t.flat)=>X1 t hw a t.flat.length cap W hL rfl WQ hle);clear hl hm hw WQ;obtain⟨n,hn⟩:∃n,t.flat.length=n:=⟨_,rfl⟩
  have Hn:=hid hn;rw[hn] at HP km hle;clear hn;go_enter func81,ntmps81;go_wp2_with fail;refine (HP.out _).mono ?_;rintro e w2 ⟨a2,c2,rfl,ho2,k2⟩;have H2:=hid (Zz (HB.out.1.trans (k2.mono HB.out.1.size)) (Zz (HB.out.2.aa k2) (Z6 ho2 Hn.out)));clear k2 HP ho2;have nC:=hid (km.out a2 c2 w2 H2.out.2.2);go_wp2_with fail;refine nC.out.mono ?_;rintro e w3 ⟨a3,c3,rfl,WS,k3⟩;have H3:=hid (Zz (H2.out.1.trans (k3.mono H2.out.1.size)) (Zz (H2.out.2.1.aa k3) (jL WS H2.out.1.size)));clear k3 WS nC km;obtain⟨S,hS⟩:∃S:Nat,2*n=S:=⟨_,rfl⟩
  obtain⟨F,hF⟩:∃F:Nat,2*eI t 0=F:=⟨_,rfl⟩
  obtain⟨T,hT⟩:∃T:Nat,2*eI t 0+1=T:=⟨_,rfl⟩
  obtain⟨m,iD⟩:∃m,(fw t 0).length=m:=⟨_,rfl⟩
  have HQ:=hid (Zz hS (Zz hF (Zz hT iD)));rw[iD] at H3;rw[hT,hS,hF,iD];clear hS hF hT iD;obtain⟨q0,q1,q2,q3,g0,g1,g2,g3⟩:=cW H3.out.2.1;have rF:Hid (St ((((w3.setCell ⟨w.heap.size,0,none⟩ (.int .i64 (S:Int))).setCell ⟨w.heap.size,1,none⟩ (.slice a3 m c3)).setCell ⟨w.heap.size,2,none⟩ (.int .i64 (F:Int))).setCell ⟨w.heap.size,3,none⟩ (.int .i64 (T:Int))) 119 w.heap.size #[.int .i64 (S:Int),.slice a3 m c3,.int .i64 (F:Int),.int .i64 (T:Int)]/\Below w.heap.size w ((((w3.setCell ⟨w.heap.size,0,none⟩ (.int .i64 (S:Int))).setCell ⟨w.heap.size,1,none⟩ (.slice a3 m c3)).setCell ⟨w.heap.size,2,none⟩ (.int .i64 (F:Int))).setCell ⟨w.heap.size,3,none⟩ (.int .i64 (T:Int)))/\((((w3.setCell ⟨w.heap.size,0,none⟩ (.int .i64 (S:Int))).setCell ⟨w.heap.size,1,none⟩ (.slice a3 m c3)).setCell ⟨w.heap.size,2,none⟩ (.int .i64 (F:Int))).setCell ⟨w.heap.size,3,none⟩ (.int .i64 (T:Int))).ownsRow w.heap.size 186 7 (.slice a3 m c3) m (fe ((fw t 0).map En.z))):=⟨H3.out.2.1.qH _ _ _ _,uF H3.out.1 (Nat.le_refl _) _ _ _ _,T0 H3.out.2.2 H3.out.2.1 (by decide) _ _ _ _⟩
  go_wp2_with fail;generalize (((w3.setCell ⟨w.heap.size,0,none⟩ (.int .i64 (S:Int))).setCell ⟨w.heap.size,1,none⟩ (.slice a3 m c3)).setCell ⟨w.heap.size,2,none⟩ (.int .i64 (F:Int))).setCell ⟨w.heap.size,3,none⟩ (.int .i64 (T:Int))=Wf at rF⊢;obtain⟨v0,v1,v2,v3⟩:=rF.out.1.dP;refine bodyPost_ret (v:=.tuple #[.agg #[.int .i64 (S:Int),.slice a3 m c3,.int .i64 (F:Int),.int .i64 (T:Int)],.int .i64 0]) (by simp[results,results81,go_sem,v0,v1,v2,v3]) rfl (Or.inr ⟨t,HT.out.1,HT.out.2.1,HT.out.2.2,?_⟩);unfold wi;rw[Hn.out,HQ.out.1,HQ.out.2.2.1,HQ.out.2.1,HQ.out.2.2.2];exact⟨a3,c3,rfl,rF.out.2.2,rF.out.2.1⟩
 have iG:∀l,db (eR 99) ([],ae s)≠some (l,[]):=fun l h=>hp ⟨l,h⟩
 have HP:=hid (fun (W:World)=>zlV s W hs iG);have HE:Hid (ru s 5):=Or.inl ⟨rfl,iG⟩;clear iG hp;go_enter func81,ntmps81;go_wp2_with fail;refine (HP.out _).mono ?_;rintro e w2 ⟨rfl,k2⟩;have H2:=hid (Zz (HB.out.1.trans (k2.mono HB.out.1.size)) (HB.out.2.aa k2));clear k2 HP;obtain⟨q0,q1,q2,q3,g0,g1,g2,g3⟩:=cW H2.out.2;have rF:Hid (St ((((w2.setCell ⟨w.heap.size,0,none⟩ (.int .i64 0)).setCell ⟨w.heap.size,1,none⟩ (.slice none 0 0)).setCell ⟨w.heap.size,2,none⟩ (.int .i64 0)).setCell ⟨w.heap.size,3,none⟩ (.int .i64 0)) 119 w.heap.size #[.int .i64 0,.slice none 0 0,.int .i64 0,.int .i64 0]/\Below w.heap.size w ((((w2.setCell ⟨w.heap.size,0,none⟩ (.int .i64 0)).setCell ⟨w.heap.size,1,none⟩ (.slice none 0 0)).setCell ⟨w.heap.size,2,none⟩ (.int .i64 0)).setCell ⟨w.heap.size,3,none⟩ (.int .i64 0))):=⟨H2.out.2.qH _ _ _ _,uF H2.out.1 (Nat.le_refl _) _ _ _ _⟩
 go_wp2_with fail;generalize (((w2.setCell ⟨w.heap.size,0,none⟩ (.int .i64 0)).setCell ⟨w.heap.size,1,none⟩ (.slice none 0 0)).setCell ⟨w.heap.size,2,none⟩ (.int .i64 0)).setCell ⟨w.heap.size,3,none⟩ (.int .i64 0)=Wf at rF⊢;obtain⟨v0,v1,v2,v3⟩:=rF.out.1.dP;exact bodyPost_ret (v:=.tuple #[.agg #[.int .i64 0,.slice none 0 0,.int .i64 0,.int .i64 0],.int .i64 5]) (by simp[results,results81,go_sem,v0,v1,v2,v3]) rfl (Or.inl ⟨5,HE.out,rfl,rF.out.2⟩)
end Go.Proofs.YtiijebameffenaaGreat
