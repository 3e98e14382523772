import Derived.Test.YtbacgnhkapancaaGreatZPParse
import Derived.Test.YtbacgnhkapancaaGreatZQEof
set_option linter.all false
set_option maxHeartbeats 4000000
set_option maxRecDepth 100000
open Go.Lib (hid)
namespace Go.Proofs.YtbacgnhkapancaaGreat
open Go.RowKit Go.Proofs.Tryz
open Act (put)
variable {atom:bc->Option bc}
theorem zjY(p:Nat->Bool)(h:eh p=true):∀b,b<256->p b=false:=by
 intro b hb;have e:cY p 256=[]:=List.length_eq_zero_iff.1 (by simpa [eh] using h);rcases hp:p b with _|_
 ·rfl
 have:=(MR p 256 b).2 ⟨hb,hp⟩;rw[e] at this;simp at this
def ow(l:List Nat):Prop:=∀x∈l,x<256
theorem ow.drop{l:List Nat}(h:ow l)(k:Nat):ow (l.drop k):=fun x hx=>h x (List.mem_of_mem_drop hx)
theorem ow.tail{c:Nat}{l:List Nat}(h:ow (c :: l)):ow l:=fun x hx=>h x (List.mem_cons_of_mem _ hx)
theorem ow.skip{c:Nat}{s r:List Nat}(h:ow s)(e:aw c s=some r):ow r:=by
 have:=uB e;subst this;exact h.tail
def BF(b:List Pc)(s':bc):Prop:=(∃t:Rx,t.wf/\s'.1=b++t.flat)/\ow s'.2
def tR(g:bc->Option bc):Prop:=∀s s',ow s.2->g s=some s'->BF s.1 s'
theorem Xz{p:Nat->Bool}{b:Nat}(hb:b<256)(h:p b=true):eh p=false:=by
 cases e:eh p with
 | false=>rfl
 | true=>exact absurd (zjY p e b hb) (by rw[h];decide)
theorem Yf:eh aJ=true:=by decide +kernel
theorem zlE:eh (fun _=>true)=false:=Xz (b:=0) (by omega) rfl
theorem Ph{p:Nat->Bool}(h:eh p=false):(Rx.leaf ⟨1,p⟩).wf:=⟨by show aH 1=0;decide,by unfold jm;rw[h];rfl⟩
theorem zns:(Rx.leaf ⟨0,aJ⟩).wf:=⟨by show aH 0=0;decide,by unfold jm;rw[Yf];rfl⟩
theorem JR{k:Int}(hk:(k == 1)=false):jm ⟨k,aJ⟩=true:=by
 unfold jm;rw[Yf];show (true != (k == 1))=true;rw[hk];rfl
theorem znt{c:Nat}{k:Int}(h:ey c=some k):aH k=1/\jm ⟨k,aJ⟩=true:=by
 unfold ey at h;split at h
 ·injection h with h;subst h;exact⟨by decide,JR rfl⟩
 split at h
 ·injection h with h;subst h;exact⟨by decide,JR rfl⟩
 split at h
 ·injection h with h;subst h;exact⟨by decide,JR rfl⟩
 cases h
theorem zjZ:∀(r:List Nat) (b acc:List Pc),ow r->(∃t:Rx,t.wf/\acc=b++t.flat)->BF b (bp r acc):=by
 intro r
 induction r with
 | nil=>intro b acc h ht;exact⟨ht,h⟩
 | cons c r ih=>
  intro b acc h ht
  show BF b (match ey c with|some k=>bp r (acc++[⟨k,aJ⟩])|none=>(acc,c :: r))
  cases hs:ey c with
  | none=>exact⟨ht,h⟩
  | some k=>
   obtain⟨t,hw,e⟩:=ht;have hk:=znt hs;exact ih b _ h.tail ⟨.un ⟨k,aJ⟩ t,⟨hk.1,hk.2,hw⟩,by rw[e];simp[Rx.flat]⟩
theorem ZX(h:tR atom):tR (ca atom):=by
 intro s s' hb e;unfold ca at e;cases ha:atom s with
 | none=>rw[ha] at e;cases e
 | some x=>
  rw[ha] at e;injection e with e;subst e;have:=h s x hb ha;exact zjZ x.2 s.1 x.1 this.2 this.1
theorem zj0(h:tR atom):∀(f:Nat) (b:List Pc) (s s':bc),BF b s->aX atom f s=some s'->BF b s':=by
 intro f
 induction f with
 | zero=>intro b s s' _ e;cases e
 | succ f ih=>
  intro b s s' hg e;unfold aX at e;split at e
  ·injection e with e;subst e;exact hg
  cases ha:ca atom s with
  | none=>rw[ha] at e;cases e
  | some x=>
   simp only[ha] at e;obtain⟨⟨u,hu,e1⟩,ld⟩:=ZX h s x hg.2 ha;obtain⟨⟨t,ht,e2⟩,_⟩:=hg;refine ih b (x.1++[⟨2,aJ⟩],x.2) s' ⟨⟨.bin ⟨2,aJ⟩ t u,⟨by decide,JR rfl,ht,hu⟩,?_⟩,ld⟩ e;show x.1++[⟨2,aJ⟩]=_;rw[e1,e2];simp[Rx.flat]
theorem XG(h:tR atom):tR (cb atom):=by
 intro s s' hb e;unfold cb at e;cases ha:ca atom s with
 | none=>rw[ha] at e;cases e
 | some x=>
  rw[ha] at e;exact zj0 h _ s.1 x s' (ZX h s x hb ha) e
theorem zj1(h:tR atom):∀(f:Nat) (b:List Pc) (s s':bc),BF b s->aW atom f s=some s'->BF b s':=by
 intro f
 induction f with
 | zero=>intro b s s' _ e;cases e
 | succ f ih=>
  intro b s s' hg e
  unfold aW at e
  cases hk:aw 124 s.2 with
  | none=>rw[hk] at e;injection e with e;subst e;exact hg
  | some r=>
   simp only[hk] at e
   cases ha:cb atom (s.1,r) with
   | none=>simp only[ha] at e;cases e
   | some x=>
    simp only[ha] at e;obtain⟨⟨u,hu,e1⟩,ld⟩:=XG h (s.1,r) x (hg.2.skip hk) ha;obtain⟨⟨t,ht,e2⟩,_⟩:=hg;refine ih b (x.1++[⟨3,aJ⟩],x.2) s' ⟨⟨.bin ⟨3,aJ⟩ t u,⟨by decide,JR rfl,ht,hu⟩,?_⟩,ld⟩ e;show x.1++[⟨3,aJ⟩]=_;rw[e1];show (s.1++u.flat)++_=_;rw[e2];simp[Rx.flat]
theorem Zr(h:tR atom):tR (bf atom):=by
 intro s s' hb e;unfold bf at e;cases ha:cb atom s with
 | none=>rw[ha] at e;cases e
 | some x=>
  rw[ha] at e;exact zj1 h _ s.1 x s' (XG h s x hb ha) e
theorem zj2(h:tR atom):tR (ea atom):=by
 intro s s' hb e;unfold ea at e;cases ha:bf atom s with
 | none=>rw[ha] at e;cases e
 | some x=>
  rw[ha] at e
  have hx:=Zr h s x hb ha
  cases hk:aw 41 x.2 with
  | none=>simp only[hk] at e;cases e
  | some r=>
   simp only[hk] at e;injection e with e;subst e;exact⟨hx.1,hx.2.skip hk⟩
theorem Pf{sp:ByteArray}{s r:List Nat}{c:Nat}(hb:ow s)(h:aI sp s=some (c,r)):c<256/\ow r:=by
 unfold aI at h;split at h
 ·injection h with h;injection h with h1 h2;subst h1 h2;exact⟨(EI s hb).1,hb.drop _⟩
 cases h
theorem zj3{s r:List Nat}{a c:Nat}(hb:ow s)(h:cy s=some (a,c,r)):ow r:=by
 unfold cy at h;cases h1:aI dq s with
 | none=>rw[h1] at h;cases h
 | some x=>
  obtain⟨a1,r1⟩:=x
  rw[h1] at h
  have AP:=(Pf hb h1).2
  cases h2:aw 45 r1 with
  | none=>simp only[h2] at h;injection h with h;injection h with _ h;injection h with _ h;subst h;exact AP
  | some r2=>
   simp only[h2] at h
   cases h3:aI dq r2 with
   | none=>simp only[h3] at h;cases h
   | some y=>
    obtain⟨c1,r3⟩:=y;simp only[h3] at h;split at h
    ·injection h with h;injection h with _ h;injection h with _ h;subst h;exact (Pf (AP.skip h2) h3).2
    cases h
theorem Vh:∀(f:Nat) (q:Nat->Bool) (s:List Nat) (q':Nat->Bool) (r:List Nat),ow s->aG f q s=some (q',r)->ow r:=by
 intro f
 induction f with
 | zero=>intro q s q' r _ h;cases h
 | succ f ih=>
  intro q s q' r hb h
  unfold aG at h
  cases h1:aw 93 s with
  | some r1=>simp only[h1] at h;injection h with h;injection h with _ h;subst h;exact hb.skip h1
  | none=>
   simp only[h1] at h
   cases h2:cy s with
   | none=>simp only[h2] at h;cases h
   | some y=>
    obtain⟨a,c,r1⟩:=y;simp only[h2] at h;exact ih _ r1 q' r (zj3 hb h2) h
theorem znu{s r:List Nat}{q:Nat->Bool}(hb:ow s)(h:dW s=some (q,r)):eh q=false/\ow r:=by
 unfold dW at h;cases h1:aw 94 s with
 | some r1=>
  simp only[h1] at h
  cases h2:aG (r1.length+1) aJ r1 with
  | none=>simp only[h2] at h;cases h
  | some y=>
   obtain⟨q1,r2⟩:=y;simp only[h2] at h;split at h
   ·cases h
   rename_i hn;injection h with h;injection h with e1 e2;subst e1 e2;exact⟨by simpa using hn,Vh _ _ _ _ _ (hb.skip h1) h2⟩
 | none=>
  simp only[h1] at h
  cases h2:aG (s.length+1) aJ s with
  | none=>simp only[h2] at h;cases h
  | some y=>
   obtain⟨q1,r2⟩:=y;simp only[h2] at h;split at h
   ·cases h
   rename_i hn;injection h with h;injection h with e1 e2;subst e1 e2;exact⟨by simpa using hn,Vh _ _ _ _ _ hb h2⟩
theorem X1{group:bc->Option bc}(h:tR group):tR (aU group):=by
 intro s s' hb e;unfold aU at e;cases h1:aw 46 s.2 with
 | some r=>
  simp only[h1] at e;injection e with e;subst e;exact⟨⟨.leaf ⟨1,fun _=>true⟩,Ph zlE,rfl⟩,hb.skip h1⟩
 | none=>
  simp only[h1] at e
  cases h2:aw 126 s.2 with
  | some r=>
   simp only[h2] at e;injection e with e;subst e;exact⟨⟨.leaf ⟨0,aJ⟩,zns,rfl⟩,hb.skip h2⟩
  | none=>
   simp only[h2] at e
   cases h3:aw 40 s.2 with
   | some r=>
    simp only[h3] at e;exact h (s.1,r) s' (hb.skip h3) e
   | none=>
    simp only[h3] at e
    cases h4:aw 91 s.2 with
    | some r=>
     simp only[h4] at e
     cases h5:dW r with
     | none=>simp only[h5] at e;cases e
     | some y=>
      obtain⟨q,r1⟩:=y;simp only[h5] at e;injection e with e;subst e;have:=znu (hb.skip h4) h5;exact⟨⟨.leaf ⟨1,q⟩,Ph this.1,rfl⟩,this.2⟩
    | none=>
     simp only[h4] at e
     cases h5:aI mU s.2 with
     | none=>simp only[h5] at e;cases e
     | some y=>
      obtain⟨c,r⟩:=y;simp only[h5] at e;injection e with e;subst e;have:=Pf hb h5;exact⟨⟨.leaf ⟨1,eE (fun _=>c) 1⟩,Ph (Xz this.1 ((Oa _ 1 c).2 ⟨0,by omega,rfl⟩)),rfl⟩,this.2⟩
theorem znv:∀D,tR (dw D):=by
 intro D
 induction D with
 | zero=>exact X1 (fun s s' _ e=>by cases e)
 | succ D ih=>exact X1 (zj2 ih)
theorem Tu{s:List Nat}{l:List Pc}(hb:ow s)(h:bf (dw 99) ([],s)=some (l,[])):∃t:Rx,t.wf/\t.flat=l:=by
 obtain⟨⟨t,hw,e⟩,_⟩:=Zr (znv 99) ([],s) (l,[]) hb h;exact⟨t,hw,by simpa using e.symm⟩
open Go.Maps Go.WideElems Go.ChangeMaps Go.MapKept
structure As (W0:World)(br bn:Nat)(cN cF cT:Value)(vE:Value)(E:List En)(w:World):Prop where
 below:Below W0.heap.size W0 w
 s4:St w 67 bn #[cN,vE,cF,cT]
 s0:St w 67 br #[.int .i64 0,.slice none 0 0,.int .i64 0,.int .i64 0]
 oe:w.ownsRow W0.heap.size 128 7 vE E.length (dc (E.map En.z))
 ne:br≠bn
 lo:W0.heap.size<=bn/\W0.heap.size<=br
theorem As.ab{W0 w w':World}{br bn:Nat}{cN cF cT vE:Value}{E:List En}(h:As W0 br bn cN cF cT vE E w)(k:Below w.heap.size w w'):As W0 br bn cN cF cT vE E w':=
 ⟨h.below.trans (k.mono h.below.size),h.s4.ab k,h.s0.ab k,cW h.oe k,h.ne,h.lo⟩
theorem As.app{W0 w w':World}{br bn:Nat}{cN cF cT vE vE':Value}{E L:List En}(h:As W0 br bn cN cF cT vE E w)(ho:w'.ownsRow W0.heap.size 128 7 vE' (E.length+L.length) (dc (E.map En.z)++dc (L.map En.z)))(hg:w.grownBy w' vE.ownBlock):
  As W0 br bn cN cF cT vE' (E++L) (w'.setCell ⟨bn,1,none⟩ vE'):=by
 have h4:=h.s4.ae h.oe (by decide) hg;refine⟨(fC h.below h.oe h.below.size hg).setCell (p:=⟨bn,1,none⟩) h.lo.1 _,?_,(h.s0.ae h.oe (by decide) hg).fq (p:=⟨bn,1,none⟩) h.ne _,?_,h.ne,h.lo⟩
 ·have:=h4.set 1 vE';simpa using this
 rw[List.length_append,List.map_append,YU];exact jt ho h4 (by decide) 1 vE'
theorem TH{w:World}{B n c:Nat}{a:Option Addr}{xs:List Value}(h:w.ownsRow B 128 7 (.slice a n c) n xs)(hn:0<n):∃g,Value.slice a n c=.slice (some ⟨g,0,none⟩) n c/\∀j u,xs[j]?=some u->w.cell? ((⟨g,0,none⟩:Addr).add j)=some u:=by
 obtain⟨g,e,_,_,hc⟩:=ep h hn;refine⟨g,by rw[e],fun j u hj=>?_⟩;have hl:=(List.getElem?_eq_some_iff.1 hj).1;rw[h.1] at hl;have e2:(⟨g,0,none⟩:Addr).add j=⟨g,j,none⟩:=by unfold Addr.add;split <;> simp_all
 rw[e2,(hc j hl).1,hj]
theorem zpF(l:List Pc)(i:Nat):1<=(kB l i).length:=by
 unfold kB;split
 ·simp[eW]
 split
 ·unfold dd;split <;> simp
 simp[gn]
theorem Y7(l:List Pc)(i:Nat):(kB l i).length<=4:=by
 unfold kB;split
 ·unfold eW;split <;> split <;> simp
 split
 ·unfold dd;split <;> simp
 simp[gn]
def Ak(l:List Pc)(k:Nat):List En:=(List.range k).flatMap (kB l)
theorem Us(l:List Pc)(k:Nat):Ak l (k+1)=Ak l k++kB l k:=by unfold Ak;rw[List.range_succ,List.flatMap_append];simp
theorem zqr(l:List Pc)(k:Nat):(Ak l k).length<=4*k:=by
 induction k with
 | zero=>simp[Ak]
 | succ k ih=>rw[Us,List.length_append];have:=Y7 l k;omega
def sa(t:Rx)(n:Nat)(w:World)(e:Ending)(w':World):Prop:=
 ∃a c,e=.returned (.tuple #[.agg #[.int .i64 ((2*n:Nat):Int),.slice a (eH t 0).length c,.int .i64 ((2*ez t 0:Nat):Int),.int .i64 ((2*ez t 0+1:Nat):Int)],.int .i64 0])/\
  w'.ownsRow w.heap.size 128 7 (.slice a (eH t 0).length c) (eH t 0).length (dc ((eH t 0).map En.z))/\Below w.heap.size w w'
theorem zpG(t:Rx)(hw:t.wf)(a:Option Addr)(n cap:Nat)(w:World)(hL:gO w a t.flat)(hn:t.flat.length=n)(hc:lu t.flat=0)(dD:n<=400):
  Calls prog 61 #[.slice a n cap] w (sa t n w):=by
 obtain⟨l,hl⟩:∃l,t.flat=l:=⟨_,rfl⟩
 have HT:Hid (Ak l n=eH t 0/\ez t 0=n-1/\1<=n):=by
  refine⟨?_,?_,?_⟩
  ·rw[<-hl,<-hn];exact SH t hw
  ·unfold ez;omega
  have:=t.aY;omega
 have Pw:Hid (∀k,k<n->∀W,Below w.heap.size w W->Calls prog 99 #[.slice a n cap,.int .i64 ((k:Nat):Int)] W (ui (kB l k) W)):=fun k hk W hW=>by
  have hv:∀x∈l,0<=aH x.k:=by rw[<-hl];exact Ni t hw
  refine zhR l a n cap W (by rw[<-hl];exact hL.below hW) (by rw[<-hl];exact hn) (by omega) k hk (hv _ ?_) (by rw[<-hl];exact zlB t hw k (by omega));rw[hl] at hn;rw[List.getD_eq_getElem?_getD,List.getElem?_eq_getElem (by omega)];exact List.getElem_mem (by omega)
 have Ba:=hid (fun (W:World) (hW:Below w.heap.size w W)=>zkp t.flat a n cap W (hL.below hW) hn (by unfold maxLen;omega));rw[hc] at Ba;have oD:=hid (Zz (al w (.cells #[.int .i64 0,.slice none 0 0,.int .i64 0,.int .i64 0] 67)) (St.new w 67 #[.int .i64 0,.slice none 0 0,.int .i64 0,.int .i64 0]));obtain⟨b,hb⟩:∃b,n-1=b:=⟨_,rfl⟩
 have bY:b+1=n:=by have:=HT.out.2.2;omega
 have Hb:=hid hb;have Ot:=hid (fun (W:World)=>Ce b (by omega) W);have Cc:=hid (fun (W:World)=>Fw b (by omega) W);obtain⟨F,hF⟩:∃F:Nat,2*b=F:=⟨_,rfl⟩
 obtain⟨T,hT⟩:∃T:Nat,2*b+1=T:=⟨_,rfl⟩
 have Um:=hid (Zz hF hT);rw[hF] at Ot;rw[hT] at Cc;obtain⟨S,hS⟩:∃S:Nat,2*n=S:=⟨_,rfl⟩
 have C3:=hid hS;obtain⟨i0,hi,du,cH,ct⟩:=info_parts jS;have w0:(n:Int)-1=(b:Int):=by omega
 have w1:2*(n:Int)=S:=by omega
 clear hL hn hc hb hF hT hS hl;go_enter func61,ntmps61;go_wp2_with fail;refine (Ba.out _ oD.out.1).mono ?_;rintro e w2 ⟨rfl,v2⟩;have H2:=hid (Zz (oD.out.1.trans (v2.mono oD.out.1.size)) (oD.out.2.ab v2));clear v2 Ba oD;go_wp2_with fail;refine (Ot.out _).mono ?_;rintro e w3 ⟨rfl,rfl⟩;go_wp2_with fail;refine (Cc.out _).mono ?_;rintro e w3 ⟨rfl,rfl⟩;go_wp2_with fail;have p6:=al w2 (.cells #[.int .i64 (S:Int),.slice none 0 0,.int .i64 (F:Int),.int .i64 (T:Int)] 67);have H3:Hid (As w w.heap.size w2.heap.size (.int .i64 (S:Int)) (.int .i64 (F:Int)) (.int .i64 (T:Int)) (.slice none 0 0) (Ak l 0) (w2.alloc (.cells #[.int .i64 (S:Int),.slice none 0 0,.int .i64 (F:Int),.int .i64 (T:Int)] 67))):=
  ⟨H2.out.1.trans (p6.mono H2.out.1.size),St.new _ _ _,H2.out.2.ab p6,World.ownsRow_nil _ _ _ _,Nat.ne_of_lt H2.out.2.lt,H2.out.1.size,Nat.le_refl _⟩
 clear p6 H2 Ot Cc;generalize w2.alloc (.cells #[.int .i64 (S:Int),.slice none 0 0,.int .i64 (F:Int),.int .i64 (T:Int)] 67)=W1 at H3⊢;obtain⟨bn,DZ⟩:∃bn,w2.heap.size=bn:=⟨_,rfl⟩
 rw[DZ] at H3;rw[DZ];clear DZ;go_loopw [7,27] (fun _ v wr=>∃(k:Nat) (vE:Value) (E:List En),v=.int .i64 k/\k<=n/\Hid (E=Ak l k)/\Hid (As w w.heap.size bn (.int .i64 (S:Int)) (.int .i64 (F:Int)) (.int .i64 (T:Int)) vE E wr)) (fun _ v _=>n-(intOf v).toNat)
 ·exact⟨0,_,_,rfl,by omega,rfl,H3.out⟩
 clear H3;obtain⟨k,vE,E,rfl,hk,HE,HA⟩:=hrel;obtain⟨aE,cE,rfl⟩:=bJ HA.out.oe;by_cases an:k<n
 ·have Wa:=hid (Pw.out k an);have tE:=zpF l k;have Bg:=Y7 l k;have vp:E.length<=4*k:=by rw[HE.out];exact zqr l k
  have EC:Hid (E++kB l k=Ak l (k+1)):=by show _=_;rw[Us,HE.out]
  have iZ:Hid (As w w.heap.size bn (.int .i64 (S:Int)) (.int .i64 (F:Int)) (.int .i64 (T:Int)) (.slice aE E.length cE) E wr.drew):=HA.out.ab (Below.refl _ _).drew;have e2:wr.cell? ⟨bn,1,none⟩=some (.slice aE E.length cE):=HA.out.s4.at_ 1;have i1:(k:Int)<n:=by omega
  go_upto_region 9 with fail;refine wp_region_held_drew (S:=fun W'=>Below w.heap.size w W'/\True) (by kernel_rfl) ⟨iZ.out.below,trivial⟩ (fun hHeld=>?_)
  (refine av 0 ?_;refine av 2 ?_;refine av 3 ?_;try simp only[put,sA,sB,sC])
  refine wpAnyH_ready (rs:=[1,4]) (by kernel_rfl) (by simp) ?_;refine gy (fun K hK=>?_) ?_
  ·skip;go_simp;refine hK.out _ _ ⟨iZ.out.below,trivial⟩ (fun hHeld=>?_);clear hK K
   try simp only[put,sA,sB,sC]
   refine bq 4 (fun K hK=>?_);skip;go_simp;go_at_call 99;refine (Wa.out _ iZ.out.below).mono ?_;rintro e w5 ⟨a5,c5,rfl,jl,v5⟩;have qW:=hid jl;have dk:=hid (iZ.out.ab v5);have e5:w5.cell? ⟨bn,1,none⟩=some (.slice aE E.length cE):=dk.out.s4.at_ 1;clear v5 jl
   try go_wp2_with fail
   refine hK.out _ _ ⟨dk.out.below,trivial⟩ (fun hHeld=>?_);clear hK K
   try simp only[put,sA,sB,sC]
   refine bq 5 (fun K hK=>?_);skip;skip;obtain⟨g5,BR,rE⟩:=TH qW.out tE;injection BR with BR _ _;subst BR;refine rz (by rfl) _ _ _ (by rfl) w.heap.size 128 i0 (.agg #[.int .i64 0,.int .i64 0,.int .u64 0,.int .u64 0,.int .u64 0,.int .u64 0,.bool false]) 7 56 underlying65 hi du cH ct (by rfl) (by decide) _ E.length (dc (E.map En.z)) (by rfl) dk.out.oe ⟨g5,0,none⟩ (kB l k).length c5 (dc ((kB l k).map En.z)) (by rfl) (by rw[LG,List.length_map]) rE (JY _) (by unfold maxLen;omega) (by omega) dk.out.below.size ?_;intro v6 w6 aj af;obtain⟨a6,c6,rfl⟩:=bJ aj;have eY:=dk.out.s4.ae dk.out.oe (by decide) af;have oP:=hid (dk.out.app (vE':=.slice a6 (E.length+(kB l k).length) c6) aj af);have t3:w6.cell? ⟨bn,1,none⟩=some (.slice aE E.length cE):=eY.at_ 1;have f3:=eY.aZ 1;have eJ:=fC dk.out.below dk.out.oe dk.out.below.size af;refine hK.out _ _ ⟨eJ,trivial⟩ (fun hHeld=>?_);clear hK K aj af eY eJ
   try simp only[put,sA,sB,sC]
   (refine av 6 ?_;try simp only[put,sA,sB,sC])
   refine bq 7 (fun K hK=>?_);skip;go_simp;refine hK.out _ _ ⟨oP.out.below,trivial⟩ (fun hHeld=>?_);clear hK K
   try simp only[put,sA,sB,sC]
   refine wpAnyH_done (by kernel_rfl) ?_ _;clear hHeld;go_wp2;go_roundw
   ·exact⟨k+1,_,E++kB l k,by go_num,by omega,EC.out,oP.out⟩
   simp[intOf];omega
  refine gy (fun K hK=>?_) ?_
  ·skip;go_simp;go_at_call 99;refine (Wa.out _ iZ.out.below).mono ?_;rintro e w5 ⟨a5,c5,rfl,jl,v5⟩;have qW:=hid jl;have dk:=hid (iZ.out.ab v5);have e5:w5.cell? ⟨bn,1,none⟩=some (.slice aE E.length cE):=dk.out.s4.at_ 1;clear v5 jl
   try go_wp2_with fail
   refine hK.out _ _ ⟨dk.out.below,trivial⟩ (fun hHeld=>?_);clear hK K
   try simp only[put,sA,sB,sC]
   refine bq 1 (fun K hK=>?_);skip;go_simp;refine hK.out _ _ ⟨dk.out.below,trivial⟩ (fun hHeld=>?_);clear hK K
   try simp only[put,sA,sB,sC]
   refine bq 5 (fun K hK=>?_);skip;skip;obtain⟨g5,BR,rE⟩:=TH qW.out tE;injection BR with BR _ _;subst BR;refine rz (by rfl) _ _ _ (by rfl) w.heap.size 128 i0 (.agg #[.int .i64 0,.int .i64 0,.int .u64 0,.int .u64 0,.int .u64 0,.int .u64 0,.bool false]) 7 56 underlying65 hi du cH ct (by rfl) (by decide) _ E.length (dc (E.map En.z)) (by rfl) dk.out.oe ⟨g5,0,none⟩ (kB l k).length c5 (dc ((kB l k).map En.z)) (by rfl) (by rw[LG,List.length_map]) rE (JY _) (by unfold maxLen;omega) (by omega) dk.out.below.size ?_;intro v6 w6 aj af;obtain⟨a6,c6,rfl⟩:=bJ aj;have eY:=dk.out.s4.ae dk.out.oe (by decide) af;have oP:=hid (dk.out.app (vE':=.slice a6 (E.length+(kB l k).length) c6) aj af);have t3:w6.cell? ⟨bn,1,none⟩=some (.slice aE E.length cE):=eY.at_ 1;have f3:=eY.aZ 1;have eJ:=fC dk.out.below dk.out.oe dk.out.below.size af;refine hK.out _ _ ⟨eJ,trivial⟩ (fun hHeld=>?_);clear hK K aj af eY eJ
   try simp only[put,sA,sB,sC]
   (refine av 6 ?_;try simp only[put,sA,sB,sC])
   refine bq 7 (fun K hK=>?_);skip;go_simp;refine hK.out _ _ ⟨oP.out.below,trivial⟩ (fun hHeld=>?_);clear hK K
   try simp only[put,sA,sB,sC]
   refine wpAnyH_done (by kernel_rfl) ?_ _;clear hHeld;go_wp2;go_roundw
   ·exact⟨k+1,_,E++kB l k,by go_num,by omega,EC.out,oP.out⟩
   simp[intOf];omega
  exact AllReadyH.nil
 obtain rfl:k=n:=by omega
 obtain⟨p0,p1,p2,p3⟩:=HA.out.s4.bS;obtain⟨q0,q1,q2,q3,g0,g1,g2,g3⟩:=bK HA.out.s0;have HF:Hid (sa t k w (.returned (.tuple #[.agg #[.int .i64 (S:Int),.slice aE E.length cE,.int .i64 (F:Int),.int .i64 (T:Int)],.int .i64 0])) ((((wr.setCell ⟨w.heap.size,0,none⟩ (.int .i64 (S:Int))).setCell ⟨w.heap.size,1,none⟩ (.slice aE E.length cE)).setCell ⟨w.heap.size,2,none⟩ (.int .i64 (F:Int))).setCell ⟨w.heap.size,3,none⟩ (.int .i64 (T:Int)))):=by
  have hE:E=eH t 0:=by rw[HE.out];exact HT.out.1
  unfold sa;rw[<-hE,HT.out.2.1,Hb.out,Um.out.2,Um.out.1,C3.out];exact⟨aE,cE,rfl,E0 HA.out.oe HA.out.s0 (by decide) _ _ _ _,p5 HA.out.below (Nat.le_refl _) _ _ _ _⟩
 have oz:Hid (St ((((wr.setCell ⟨w.heap.size,0,none⟩ (.int .i64 (S:Int))).setCell ⟨w.heap.size,1,none⟩ (.slice aE E.length cE)).setCell ⟨w.heap.size,2,none⟩ (.int .i64 (F:Int))).setCell ⟨w.heap.size,3,none⟩ (.int .i64 (T:Int))) 67 w.heap.size #[.int .i64 (S:Int),.slice aE E.length cE,.int .i64 (F:Int),.int .i64 (T:Int)]):=HA.out.s0.ma _ _ _ _;go_wp2_with fail;generalize (((wr.setCell ⟨w.heap.size,0,none⟩ (.int .i64 (S:Int))).setCell ⟨w.heap.size,1,none⟩ (.slice aE E.length cE)).setCell ⟨w.heap.size,2,none⟩ (.int .i64 (F:Int))).setCell ⟨w.heap.size,3,none⟩ (.int .i64 (T:Int))=Wf at HF oz⊢;obtain⟨v0,v1,v2,v3⟩:=oz.out.bS;exact bodyPost_ret (v:=.tuple #[.agg #[.int .i64 (S:Int),.slice aE E.length cE,.int .i64 (F:Int),.int .i64 (T:Int)],.int .i64 0]) (by simp[results,results61,go_sem,v0,v1,v2,v3]) rfl HF.out
theorem ZG{w:World}{B:Nat}{a:Option Addr}{n c:Nat}{l:List Pc}(h:w.ownsRow B 104 5 (.slice a n c) n (eC l))(hn:l.length=n):gO w a l:=by
 intro h0;obtain⟨g,rfl,_,hg,hc⟩:=ep h (by omega);exact⟨g,0,rfl,hg,fun j hj=>by rw[Nat.zero_add,(hc j (by omega)).1]⟩
theorem zj4(t:Rx)(hw:t.wf):∀(r:List Pc) (n:Int),0<=n->fe (t.flat++r) n=fe r (n+1):=by
 induction t with
 | leaf x=>
  intro r n hn;show (if lb x n=true then fe r (n+1-aH x.k) else none)=_;have ho:lb x n=true:=by
   unfold lb;rw[hw.1,hw.2];simp;omega
  rw[if_pos ho,hw.1];congr 1;omega
 | un x a ih=>
  intro r n hn;show fe ((a.flat++[x])++r) n=_;rw[List.append_assoc,ih hw.2.2 _ n hn];show (if lb x (n+1)=true then fe r (n+1+1-aH x.k) else none)=_;have ho:lb x (n+1)=true:=by
   unfold lb;rw[hw.1,hw.2.1];simp;omega
  rw[if_pos ho,hw.1];congr 1;omega
 | bin x a b ih jh=>
  intro r n hn;show fe ((a.flat++(b.flat++[x]))++r) n=_;rw[List.append_assoc,List.append_assoc,ih hw.2.2.1 _ n hn,jh hw.2.2.2 _ (n+1) (by omega)];show (if lb x (n+1+1)=true then fe r (n+1+1+1-aH x.k) else none)=_;have ho:lb x (n+1+1)=true:=by
   unfold lb;rw[hw.1,hw.2.1];simp;omega
  rw[if_pos ho,hw.1];congr 1;omega
theorem zlG(t:Rx)(hw:t.wf)(h:t.flat.length<=400):lu t.flat=0:=by
 have h1:fe t.flat 0=some 1:=by
  have:=zj4 t hw [] 0 (by omega);rw[List.append_nil] at this;rw[this];rfl
 unfold lu;rw[if_neg (by omega),if_pos h1]
def nz(s:ByteArray)(er:Nat):Prop:=(er=5/\∀l,bf (dw 99) ([],aa s)≠some (l,[]))\/(er=6/\∃l,bf (dw 99) ([],aa s)=some (l,[])/\400<l.length)
def Qr(s:ByteArray)(w:World)(e:Ending)(w':World):Prop:=
 (∃er:Nat,nz s er/\e=.returned (.tuple #[.agg #[.int .i64 0,.slice none 0 0,.int .i64 0,.int .i64 0],.int .i64 (er:Int)])/\Below w.heap.size w w')\/
 (∃t:Rx,t.wf/\bf (dw 99) ([],aa s)=some (t.flat,[])/\t.flat.length<=400/\sa t t.flat.length w e w')
theorem T8(s:ByteArray)(hs:s.size<=1600)(w:World):Calls prog 39 #[.string s] w (Qr s w):=by
 have HB:=hid (Zz (al w (.cells #[.int .i64 0,.slice none 0 0,.int .i64 0,.int .i64 0] 67)) (St.new w 67 #[.int .i64 0,.slice none 0 0,.int .i64 0,.int .i64 0]));by_cases hp:∃l,bf (dw 99) ([],aa s)=some (l,[])
 ·obtain⟨l,hl⟩:=hp;by_cases hm:400<l.length
  ·have HP:=hid (fun (W:World)=>zjK s W hs l hl hm);have HE:Hid (nz s 6):=Or.inr ⟨rfl,l,hl,hm⟩;clear hl hm;go_enter func39,ntmps39;go_wp2_with fail;refine (HP.out _).mono ?_;rintro e w2 ⟨rfl,k2⟩;have H2:=hid (Zz (HB.out.1.trans (k2.mono HB.out.1.size)) (HB.out.2.ab k2));clear k2 HP;obtain⟨q0,q1,q2,q3,g0,g1,g2,g3⟩:=bK H2.out.2;have oz:Hid (St ((((w2.setCell ⟨w.heap.size,0,none⟩ (.int .i64 0)).setCell ⟨w.heap.size,1,none⟩ (.slice none 0 0)).setCell ⟨w.heap.size,2,none⟩ (.int .i64 0)).setCell ⟨w.heap.size,3,none⟩ (.int .i64 0)) 67 w.heap.size #[.int .i64 0,.slice none 0 0,.int .i64 0,.int .i64 0]/\Below w.heap.size w ((((w2.setCell ⟨w.heap.size,0,none⟩ (.int .i64 0)).setCell ⟨w.heap.size,1,none⟩ (.slice none 0 0)).setCell ⟨w.heap.size,2,none⟩ (.int .i64 0)).setCell ⟨w.heap.size,3,none⟩ (.int .i64 0))):=(⟨H2.out.2.ma _ _ _ _,p5 H2.out.1 (Nat.le_refl _) _ _ _ _⟩);go_wp2_with fail;generalize (((w2.setCell ⟨w.heap.size,0,none⟩ (.int .i64 0)).setCell ⟨w.heap.size,1,none⟩ (.slice none 0 0)).setCell ⟨w.heap.size,2,none⟩ (.int .i64 0)).setCell ⟨w.heap.size,3,none⟩ (.int .i64 0)=Wf at oz⊢;obtain⟨v0,v1,v2,v3⟩:=oz.out.1.bS;exact bodyPost_ret (v:=.tuple #[.agg #[.int .i64 0,.slice none 0 0,.int .i64 0,.int .i64 0],.int .i64 6]) (by simp[results,results39,go_sem,v0,v1,v2,v3]) rfl (Or.inl ⟨6,HE.out,rfl,oz.out.2⟩)
  obtain⟨t,hw,rfl⟩:=Tu (Bk s) hl;have hle:t.flat.length<=400:=by omega
  have HP:=hid (fun (W:World)=>zlq s W hs t.flat hl hle);have HT:=hid (Zz hw (Zz hl hle));have Fk:=zlG t hw hle;have nN:=hid (fun (a:Option Addr) (cap:Nat) (W:World) (hL:gO W a t.flat)=>zpG t hw a t.flat.length cap W hL rfl Fk hle);clear hl hm hw Fk;obtain⟨n,hn⟩:∃n,t.flat.length=n:=⟨_,rfl⟩
  have Hn:=hid hn;rw[hn] at HP nN hle;clear hn;go_enter func39,ntmps39;go_wp2_with fail;refine (HP.out _).mono ?_;rintro e w2 ⟨a2,c2,rfl,ho2,k2⟩;have H2:=hid (Zz (HB.out.1.trans (k2.mono HB.out.1.size)) (Zz (HB.out.2.ab k2) (ZG ho2 Hn.out)));clear k2 HP ho2;have kd:=hid (nN.out a2 c2 w2 H2.out.2.2);go_wp2_with fail;refine kd.out.mono ?_;rintro e w3 ⟨a3,c3,rfl,Xy,k3⟩;have H3:=hid (Zz (H2.out.1.trans (k3.mono H2.out.1.size)) (Zz (H2.out.2.1.ab k3) (gE Xy H2.out.1.size)));clear k3 Xy kd nN;obtain⟨S,hS⟩:∃S:Nat,2*n=S:=⟨_,rfl⟩
  obtain⟨F,hF⟩:∃F:Nat,2*ez t 0=F:=⟨_,rfl⟩
  obtain⟨T,hT⟩:∃T:Nat,2*ez t 0+1=T:=⟨_,rfl⟩
  obtain⟨m,iQ⟩:∃m,(eH t 0).length=m:=⟨_,rfl⟩
  have HQ:=hid (Zz hS (Zz hF (Zz hT iQ)));rw[iQ] at H3;rw[hT,hS,hF,iQ];clear hS hF hT iQ;obtain⟨q0,q1,q2,q3,g0,g1,g2,g3⟩:=bK H3.out.2.1;have oz:Hid (St ((((w3.setCell ⟨w.heap.size,0,none⟩ (.int .i64 (S:Int))).setCell ⟨w.heap.size,1,none⟩ (.slice a3 m c3)).setCell ⟨w.heap.size,2,none⟩ (.int .i64 (F:Int))).setCell ⟨w.heap.size,3,none⟩ (.int .i64 (T:Int))) 67 w.heap.size #[.int .i64 (S:Int),.slice a3 m c3,.int .i64 (F:Int),.int .i64 (T:Int)]/\Below w.heap.size w ((((w3.setCell ⟨w.heap.size,0,none⟩ (.int .i64 (S:Int))).setCell ⟨w.heap.size,1,none⟩ (.slice a3 m c3)).setCell ⟨w.heap.size,2,none⟩ (.int .i64 (F:Int))).setCell ⟨w.heap.size,3,none⟩ (.int .i64 (T:Int)))/\((((w3.setCell ⟨w.heap.size,0,none⟩ (.int .i64 (S:Int))).setCell ⟨w.heap.size,1,none⟩ (.slice a3 m c3)).setCell ⟨w.heap.size,2,none⟩ (.int .i64 (F:Int))).setCell ⟨w.heap.size,3,none⟩ (.int .i64 (T:Int))).ownsRow w.heap.size 128 7 (.slice a3 m c3) m (dc ((eH t 0).map En.z))):=⟨H3.out.2.1.ma _ _ _ _,p5 H3.out.1 (Nat.le_refl _) _ _ _ _,E0 H3.out.2.2 H3.out.2.1 (by decide) _ _ _ _⟩
  go_wp2_with fail;generalize (((w3.setCell ⟨w.heap.size,0,none⟩ (.int .i64 (S:Int))).setCell ⟨w.heap.size,1,none⟩ (.slice a3 m c3)).setCell ⟨w.heap.size,2,none⟩ (.int .i64 (F:Int))).setCell ⟨w.heap.size,3,none⟩ (.int .i64 (T:Int))=Wf at oz⊢;obtain⟨v0,v1,v2,v3⟩:=oz.out.1.bS;refine bodyPost_ret (v:=.tuple #[.agg #[.int .i64 (S:Int),.slice a3 m c3,.int .i64 (F:Int),.int .i64 (T:Int)],.int .i64 0]) (by simp[results,results39,go_sem,v0,v1,v2,v3]) rfl (Or.inr ⟨t,HT.out.1,HT.out.2.1,HT.out.2.2,?_⟩);unfold sa;rw[Hn.out,HQ.out.1,HQ.out.2.2.1,HQ.out.2.1,HQ.out.2.2.2];exact⟨a3,c3,rfl,oz.out.2.2,oz.out.2.1⟩
 have gW:∀l,bf (dw 99) ([],aa s)≠some (l,[]):=fun l h=>hp ⟨l,h⟩
 have HP:=hid (fun (W:World)=>zne s W hs gW);have HE:Hid (nz s 5):=Or.inl ⟨rfl,gW⟩;clear gW hp;go_enter func39,ntmps39;go_wp2_with fail;refine (HP.out _).mono ?_;rintro e w2 ⟨rfl,k2⟩;have H2:=hid (Zz (HB.out.1.trans (k2.mono HB.out.1.size)) (HB.out.2.ab k2));clear k2 HP;obtain⟨q0,q1,q2,q3,g0,g1,g2,g3⟩:=bK H2.out.2;have oz:Hid (St ((((w2.setCell ⟨w.heap.size,0,none⟩ (.int .i64 0)).setCell ⟨w.heap.size,1,none⟩ (.slice none 0 0)).setCell ⟨w.heap.size,2,none⟩ (.int .i64 0)).setCell ⟨w.heap.size,3,none⟩ (.int .i64 0)) 67 w.heap.size #[.int .i64 0,.slice none 0 0,.int .i64 0,.int .i64 0]/\Below w.heap.size w ((((w2.setCell ⟨w.heap.size,0,none⟩ (.int .i64 0)).setCell ⟨w.heap.size,1,none⟩ (.slice none 0 0)).setCell ⟨w.heap.size,2,none⟩ (.int .i64 0)).setCell ⟨w.heap.size,3,none⟩ (.int .i64 0))):=⟨H2.out.2.ma _ _ _ _,p5 H2.out.1 (Nat.le_refl _) _ _ _ _⟩
 go_wp2_with fail;generalize (((w2.setCell ⟨w.heap.size,0,none⟩ (.int .i64 0)).setCell ⟨w.heap.size,1,none⟩ (.slice none 0 0)).setCell ⟨w.heap.size,2,none⟩ (.int .i64 0)).setCell ⟨w.heap.size,3,none⟩ (.int .i64 0)=Wf at oz⊢;obtain⟨v0,v1,v2,v3⟩:=oz.out.1.bS;exact bodyPost_ret (v:=.tuple #[.agg #[.int .i64 0,.slice none 0 0,.int .i64 0,.int .i64 0],.int .i64 5]) (by simp[results,results39,go_sem,v0,v1,v2,v3]) rfl (Or.inl ⟨5,HE.out,rfl,oz.out.2⟩)
end Go.Proofs.YtbacgnhkapancaaGreat
