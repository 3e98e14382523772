import Derived.Test.YtjehgdjlncofeaaGreatZPParse
import Derived.Test.YtjehgdjlncofeaaGreatZQEof
set_option linter.unusedVariables false
set_option linter.unusedSimpArgs false
set_option maxHeartbeats 4000000
set_option maxRecDepth 100000
open Go.Lib (hid)
namespace Go.Proofs.YtjehgdjlncofeaaGreat
open Go.RowKit
theorem zir (p:Nat->Bool) (h:noneB p=true):∀b,b<256->p b=false:=by
 intro b hb
 have e:lst p 256=[]:=List.length_eq_zero_iff.1 (by simpa [noneB] using h)
 rcases hp:p b with _|_
 ·rfl
 ·have:=(zeA p 256 b).2 ⟨hb,hp⟩
  rw[e] at this;simp at this
def Bts (l:List Nat):Prop:=∀x∈l,x<256
theorem Bts.drop {l:List Nat}(h:Bts l) (k:Nat):Bts (l.drop k):=fun x hx=>h x (List.mem_of_mem_drop hx)
theorem Bts.tail {c:Nat}{l:List Nat}(h:Bts (c :: l)):Bts l:=fun x hx=>h x (List.mem_cons_of_mem _ hx)
theorem Bts.skip {c:Nat}{s r:List Nat}(h:Bts s) (e:skipT c s=some r):Bts r:=by
 have:=zaS e
 subst this
 exact h.tail
def Grw (b:List Pc) (s':PSt):Prop:=(∃t:Rx,t.wf/\s'.1=b++t.flat)/\Bts s'.2
def WfG (g:PSt->Option PSt):Prop:=∀s s',Bts s.2->g s=some s'->Grw s.1 s'
theorem zek {p:Nat->Bool}{b:Nat}(hb:b<256) (h:p b=true):noneB p=false:=by
 cases e:noneB p with
 | false=>rfl
 | true=>exact absurd (zir p e b hb) (by rw[h];decide)
theorem zfK:noneB empP=true:=by decide +kernel
theorem zjO:noneB (fun _=>true)=false:=zek (b:=0) (by omega) rfl
theorem zeW {p:Nat->Bool}(h:noneB p=false):(Rx.leaf ⟨1,p⟩).wf:=⟨by show takesZ 1=0;decide,by unfold okSet;rw[h];rfl⟩
theorem zlu:(Rx.leaf ⟨0,empP⟩).wf:=⟨by show takesZ 0=0;decide,by unfold okSet;rw[zfK];rfl⟩
theorem zfL {k:Int}(hk:(k == 1)=false):okSet ⟨k,empP⟩=true:=by
 unfold okSet
 rw[zfK]
 show (true != (k == 1))=true
 rw[hk]
 rfl
theorem zlv {c:Nat}{k:Int}(h:signK c=some k):takesZ k=1/\okSet ⟨k,empP⟩=true:=by
 unfold signK at h
 split at h
 ·injection h with h;subst h;exact⟨by decide,zfL rfl⟩
 ·split at h
  ·injection h with h;subst h;exact⟨by decide,zfL rfl⟩
  ·split at h
   ·injection h with h;subst h;exact⟨by decide,zfL rfl⟩
   ·cases h
theorem zis:∀(r:List Nat) (b acc:List Pc),Bts r->(∃t:Rx,t.wf/\acc=b++t.flat)->Grw b (repLoop r acc):=by
 intro r
 induction r with
 | nil=>intro b acc h ht;exact⟨ht,h⟩
 | cons c r ih=>
  intro b acc h ht
  show Grw b (match signK c with|some k=>repLoop r (acc++[⟨k,empP⟩])|none=>(acc,c :: r))
  cases hs:signK c with
  | none=>exact⟨ht,h⟩
  | some k=>
   obtain⟨t,hw,e⟩:=ht
   have hk:=zlv hs
   exact ih b _ h.tail ⟨.un ⟨k,empP⟩ t,⟨hk.1,hk.2,hw⟩,by rw[e];simp[Rx.flat]⟩
theorem zhx {atom:PSt->Option PSt}(h:WfG atom):WfG (repOf atom):=by
 intro s s' hb e
 unfold repOf at e
 cases ha:atom s with
 | none=>rw[ha] at e;cases e
 | some x=>
  rw[ha] at e
  injection e with e
  subst e
  have:=h s x hb ha
  exact zis x.2 s.1 x.1 this.2 this.1
theorem zit {atom:PSt->Option PSt}(h:WfG atom):∀(f:Nat) (b:List Pc) (s s':PSt),Grw b s->seqLoop atom f s=some s'->Grw b s':=by
 intro f
 induction f with
 | zero=>intro b s s' _ e;cases e
 | succ f ih=>
  intro b s s' hg e
  unfold seqLoop at e
  split at e
  ·injection e with e;subst e;exact hg
  ·cases ha:repOf atom s with
   | none=>rw[ha] at e;cases e
   | some x=>
    simp only[ha] at e
    obtain⟨⟨u,hu,e1⟩,hx2⟩:=zhx h s x hg.2 ha
    obtain⟨⟨t,ht,e2⟩,_⟩:=hg
    refine ih b (x.1++[⟨2,empP⟩],x.2) s' ⟨⟨.bin ⟨2,empP⟩ t u,⟨by decide,zfL rfl,ht,hu⟩,?_⟩,hx2⟩ e
    show x.1++[⟨2,empP⟩]=_
    rw[e1,e2]
    simp[Rx.flat]
theorem zhy {atom:PSt->Option PSt}(h:WfG atom):WfG (seqOf atom):=by
 intro s s' hb e
 unfold seqOf at e
 cases ha:repOf atom s with
 | none=>rw[ha] at e;cases e
 | some x=>
  rw[ha] at e
  exact zit h _ s.1 x s' (zhx h s x hb ha) e
theorem ziu {atom:PSt->Option PSt}(h:WfG atom):∀(f:Nat) (b:List Pc) (s s':PSt),Grw b s->altLoop atom f s=some s'->Grw b s':=by
 intro f
 induction f with
 | zero=>intro b s s' _ e;cases e
 | succ f ih=>
  intro b s s' hg e
  unfold altLoop at e
  cases hk:skipT 124 s.2 with
  | none=>rw[hk] at e;injection e with e;subst e;exact hg
  | some r=>
   simp only[hk] at e
   cases ha:seqOf atom (s.1,r) with
   | none=>simp only[ha] at e;cases e
   | some x=>
    simp only[ha] at e
    obtain⟨⟨u,hu,e1⟩,hx2⟩:=zhy h (s.1,r) x (hg.2.skip hk) ha
    obtain⟨⟨t,ht,e2⟩,_⟩:=hg
    refine ih b (x.1++[⟨3,empP⟩],x.2) s' ⟨⟨.bin ⟨3,empP⟩ t u,⟨by decide,zfL rfl,ht,hu⟩,?_⟩,hx2⟩ e
    show x.1++[⟨3,empP⟩]=_
    rw[e1]
    show (s.1++u.flat)++_=_
    rw[e2]
    simp[Rx.flat]
theorem zhz {atom:PSt->Option PSt}(h:WfG atom):WfG (altOf atom):=by
 intro s s' hb e
 unfold altOf at e
 cases ha:seqOf atom s with
 | none=>rw[ha] at e;cases e
 | some x=>
  rw[ha] at e
  exact ziu h _ s.1 x s' (zhy h s x hb ha) e
theorem ziv {atom:PSt->Option PSt}(h:WfG atom):WfG (groupOf atom):=by
 intro s s' hb e
 unfold groupOf at e
 cases ha:altOf atom s with
 | none=>rw[ha] at e;cases e
 | some x=>
  rw[ha] at e
  have hx:=zhz h s x hb ha
  cases hk:skipT 41 x.2 with
  | none=>simp only[hk] at e;cases e
  | some r=>
   simp only[hk] at e
   injection e with e
   subst e
   exact⟨hx.1,hx.2.skip hk⟩
theorem zcV {sp:ByteArray}{s r:List Nat}{c:Nat}(hb:Bts s) (h:prRead sp s=some (c,r)):c<256/\Bts r:=by
 unfold prRead at h
 split at h
 ·injection h with h
  injection h with h1 h2
  subst h1 h2
  exact⟨(znC s hb).1,hb.drop _⟩
 ·cases h
theorem ziw {s r:List Nat}{a c:Nat}(hb:Bts s) (h:prSpan s=some (a,c,r)):Bts r:=by
 unfold prSpan at h
 cases h1:prRead insS s with
 | none=>rw[h1] at h;cases h
 | some x=>
  obtain⟨a1,r1⟩:=x
  rw[h1] at h
  have hr1:=(zcV hb h1).2
  cases h2:skipT 45 r1 with
  | none=>simp only[h2] at h;injection h with h;injection h with _ h;injection h with _ h;subst h;exact hr1
  | some r2=>
   simp only[h2] at h
   cases h3:prRead insS r2 with
   | none=>simp only[h3] at h;cases h
   | some y=>
    obtain⟨c1,r3⟩:=y
    simp only[h3] at h
    split at h
    ·injection h with h;injection h with _ h;injection h with _ h;subst h
     exact (zcV (hr1.skip h2) h3).2
    ·cases h
theorem zdE:∀(f:Nat) (q:Nat->Bool) (s:List Nat) (q':Nat->Bool) (r:List Nat),Bts s->prSpans f q s=some (q',r)->Bts r:=by
 intro f
 induction f with
 | zero=>intro q s q' r _ h;cases h
 | succ f ih=>
  intro q s q' r hb h
  unfold prSpans at h
  cases h1:skipT 93 s with
  | some r1=>simp only[h1] at h;injection h with h;injection h with _ h;subst h;exact hb.skip h1
  | none=>
   simp only[h1] at h
   cases h2:prSpan s with
   | none=>simp only[h2] at h;cases h
   | some y=>
    obtain⟨a,c,r1⟩:=y
    simp only[h2] at h
    exact ih _ r1 q' r (ziw hb h2) h
theorem zlw {s r:List Nat}{q:Nat->Bool}(hb:Bts s) (h:prSet s=some (q,r)):noneB q=false/\Bts r:=by
 unfold prSet at h
 cases h1:skipT 94 s with
 | some r1=>
  simp only[h1] at h
  cases h2:prSpans (r1.length+1) empP r1 with
  | none=>simp only[h2] at h;cases h
  | some y=>
   obtain⟨q1,r2⟩:=y
   simp only[h2] at h
   split at h
   ·cases h
   ·rename_i hn
    injection h with h;injection h with e1 e2;subst e1 e2
    exact⟨by simpa using hn,zdE _ _ _ _ _ (hb.skip h1) h2⟩
 | none=>
  simp only[h1] at h
  cases h2:prSpans (s.length+1) empP s with
  | none=>simp only[h2] at h;cases h
  | some y=>
   obtain⟨q1,r2⟩:=y
   simp only[h2] at h
   split at h
   ·cases h
   ·rename_i hn
    injection h with h;injection h with e1 e2;subst e1 e2
    exact⟨by simpa using hn,zdE _ _ _ _ _ hb h2⟩
theorem zfM {group:PSt->Option PSt}(h:WfG group):WfG (atomOf group):=by
 intro s s' hb e
 unfold atomOf at e
 cases h1:skipT 46 s.2 with
 | some r=>
  simp only[h1] at e
  injection e with e;subst e
  exact⟨⟨.leaf ⟨1,fun _=>true⟩,zeW zjO,rfl⟩,hb.skip h1⟩
 | none=>
  simp only[h1] at e
  cases h2:skipT 126 s.2 with
  | some r=>
   simp only[h2] at e
   injection e with e;subst e
   exact⟨⟨.leaf ⟨0,empP⟩,zlu,rfl⟩,hb.skip h2⟩
  | none=>
   simp only[h2] at e
   cases h3:skipT 40 s.2 with
   | some r=>
    simp only[h3] at e
    exact h (s.1,r) s' (hb.skip h3) e
   | none=>
    simp only[h3] at e
    cases h4:skipT 91 s.2 with
    | some r=>
     simp only[h4] at e
     cases h5:prSet r with
     | none=>simp only[h5] at e;cases e
     | some y=>
      obtain⟨q,r1⟩:=y
      simp only[h5] at e
      injection e with e;subst e
      have:=zlw (hb.skip h4) h5
      exact⟨⟨.leaf ⟨1,q⟩,zeW this.1,rfl⟩,this.2⟩
    | none=>
     simp only[h4] at e
     cases h5:prRead outS s.2 with
     | none=>simp only[h5] at e;cases e
     | some y=>
      obtain⟨c,r⟩:=y
      simp only[h5] at e
      injection e with e;subst e
      have:=zcV hb h5
      exact⟨⟨.leaf ⟨1,ofUp (fun _=>c) 1⟩,zeW (zek this.1 ((zeD _ 1 c).2 ⟨0,by omega,rfl⟩)),rfl⟩,this.2⟩
theorem zlx:∀D,WfG (atomD D):=by
 intro D
 induction D with
 | zero=>exact zfM (fun s s' _ e=>by cases e)
 | succ D ih=>exact zfM (ziv ih)
theorem zix {s:List Nat}{l:List Pc}(hb:Bts s) (h:altOf (atomD 99) ([],s)=some (l,[])):∃t:Rx,t.wf/\t.flat=l:=by
 obtain⟨⟨t,hw,e⟩,_⟩:=zhz (zlx 99) ([],s) (l,[]) hb h
 exact⟨t,hw,by simpa using e.symm⟩
open Go.Maps Go.WideElems Go.ChangeMaps Go.MapKept
structure NoA (W0:World) (br bn:Nat) (cN cF cT:Value) (vE:Value) (E:List En) (w:World):Prop where
 below:Below W0.heap.size W0 w
 s4:St w 67 bn #[cN,vE,cF,cT]
 s0:St w 67 br #[.int .i64 0,.slice none 0 0,.int .i64 0,.int .i64 0]
 oe:w.ownsRow W0.heap.size 128 7 vE E.length (egs (E.map En.z))
 ne:br≠bn
 lo:W0.heap.size<=bn/\W0.heap.size<=br
theorem NoA.keep {W0 w w':World}{br bn:Nat}{cN cF cT vE:Value}{E:List En}(h:NoA W0 br bn cN cF cT vE E w) (k:Below w.heap.size w w'):NoA W0 br bn cN cF cT vE E w':=
 ⟨h.below.trans (k.mono h.below.size),h.s4.keep k,h.s0.keep k,zab h.oe k,h.ne,h.lo⟩
theorem NoA.app {W0 w w':World}{br bn:Nat}{cN cF cT vE vE':Value}{E L:List En}(h:NoA W0 br bn cN cF cT vE E w) (ho:w'.ownsRow W0.heap.size 128 7 vE' (E.length+L.length) (egs (E.map En.z)++egs (L.map En.z))) (hg:w.grownBy w' vE.ownBlock):
  NoA W0 br bn cN cF cT vE' (E++L) (w'.setCell ⟨bn,1,none⟩ vE'):=by
 have h4:=h.s4.grown_own h.oe (by decide) hg
 refine⟨(zac h.below h.oe h.below.size hg).setCell (p:=⟨bn,1,none⟩) h.lo.1 _,?_,(h.s0.grown_own h.oe (by decide) hg).far (p:=⟨bn,1,none⟩) h.ne _,?_,h.ne,h.lo⟩
 ·have:=h4.set 1 vE'
  simpa using this
 ·rw[List.length_append,List.map_append,zd5]
  exact zau ho h4 (by decide) 1 vE'
theorem zfN {w:World}{B n c:Nat}{a:Option Addr}{xs:List Value}(h:w.ownsRow B 128 7 (.slice a n c) n xs) (hn:0<n):∃g,Value.slice a n c=.slice (some ⟨g,0,none⟩) n c/\∀j u,xs[j]?=some u->w.cell? ((⟨g,0,none⟩:Addr).add j)=some u:=by
 obtain⟨g,e,_,_,hc⟩:=zae h hn
 refine⟨g,by rw[e],fun j u hj=>?_⟩
 have hl:=(List.getElem?_eq_some_iff.1 hj).1
 rw[h.1] at hl
 have e2:(⟨g,0,none⟩:Addr).add j=⟨g,j,none⟩:=by unfold Addr.add;split <;> simp_all
 rw[e2,(hc j hl).1,hj]
theorem znr (l:List Pc) (i:Nat):1<=(edE l i).length:=by
 unfold edE
 split
 ·simp[repE]
 ·split
  ·unfold pairE;split <;> simp
  ·simp[leafE]
theorem zmt (l:List Pc) (i:Nat):(edE l i).length<=4:=by
 unfold edE
 split
 ·unfold repE;split <;> split <;> simp
 ·split
  ·unfold pairE;split <;> simp
  ·simp[leafE]
def edU (l:List Pc) (k:Nat):List En:=(List.range k).flatMap (edE l)
theorem zhA (l:List Pc) (k:Nat):edU l (k+1)=edU l k++edE l k:=by unfold edU;rw[List.range_succ,List.flatMap_append];simp
theorem zn8 (l:List Pc) (k:Nat):(edU l k).length<=4*k:=by
 induction k with
 | zero=>simp[edU]
 | succ k ih=>rw[zhA,List.length_append];have:=zmt l k;omega
def NofP (t:Rx) (n:Nat) (w:World) (e:Ending) (w':World):Prop:=
 ∃a c,e=.returned (.tuple #[.agg #[.int .i64 ((2*n:Nat):Int),.slice a (thE t 0).length c,.int .i64 ((2*rtI t 0:Nat):Int),.int .i64 ((2*rtI t 0+1:Nat):Int)],.int .i64 0])/\
  w'.ownsRow w.heap.size 128 7 (.slice a (thE t 0).length c) (thE t 0).length (egs ((thE t 0).map En.z))/\Below w.heap.size w w'
theorem zns (t:Rx) (hw:t.wf) (a:Option Addr) (n cap:Nat) (w:World) (hL:RxAt w a t.flat) (hn:t.flat.length=n) (hc:chkT t.flat=0) (hmax:n<=400):
  Calls Tryz.prog 61 #[.slice a n cap] w (NofP t n w):=by
 obtain⟨l,hl⟩:∃l,t.flat=l:=⟨_,rfl⟩
 have HT:Hid (edU l n=thE t 0/\rtI t 0=n-1/\1<=n):=by
  refine⟨?_,?_,?_⟩
  ·rw[<-hl,<-hn];exact zdD t hw
  ·unfold rtI;omega
  ·have:=t.flat_pos;omega
 have HEd':Hid (∀k,k<n->∀W,Below w.heap.size w W->Calls Tryz.prog 99 #[.slice a n cap,.int .i64 ((k:Nat):Int)] W (EdsP (edE l k) W)):=fun k hk W hW=>by
  have hv:∀x∈l,0<=takesZ x.k:=by rw[<-hl];exact zkJ t hw
  refine zgF l a n cap W (by rw[<-hl];exact hL.below hW) (by rw[<-hl];exact hn) (by omega) k hk (hv _ ?_) (by rw[<-hl];exact zjI t hw k (by omega))
  rw[hl] at hn
  rw[List.getD_eq_getElem?_getD,List.getElem?_eq_getElem (by omega)]
  exact List.getElem_mem (by omega)
 have HCk:=hid (fun (W:World) (hW:Below w.heap.size w W)=>ziL t.flat a n cap W (hL.below hW) hn (by unfold maxLen;omega))
 rw[hc] at HCk
 have HB0:=hid (And.intro (al w (.cells #[.int .i64 0,.slice none 0 0,.int .i64 0,.int .i64 0] 67)) (St.new w 67 #[.int .i64 0,.slice none 0 0,.int .i64 0,.int .i64 0]))
 obtain⟨b,hb⟩:∃b,n-1=b:=⟨_,rfl⟩
 have hbn:b+1=n:=by have:=HT.out.2.2;omega
 have Hb:=hid hb
 have HBg:=hid (fun (W:World)=>zbr b (by omega) W)
 have HEn9:=hid (fun (W:World)=>zcT b (by omega) W)
 obtain⟨F,hF⟩:∃F:Nat,2*b=F:=⟨_,rfl⟩
 obtain⟨T,hT⟩:∃T:Nat,2*b+1=T:=⟨_,rfl⟩
 have HFT:=hid (And.intro hF hT)
 rw[hF] at HBg
 rw[hT] at HEn9
 obtain⟨S,hS⟩:∃S:Nat,2*n=S:=⟨_,rfl⟩
 have HSS:=hid hS
 obtain⟨i0,hi,hz0,hz1,hz2⟩:=info_parts Tryz.info_edge
 have w0:(n:Int)-1=(b:Int):=by omega
 have w1:2*(n:Int)=(S:Int):=by omega
 clear hL hn hc hb hF hT hS hl
 go_enter Tryz.func61,Tryz.ntmps61
 go_wp2_with fail
 refine (HCk.out _ HB0.out.1).mono ?_
 rintro e w2 ⟨rfl,v2⟩
 have H2:=hid (And.intro (HB0.out.1.trans (v2.mono HB0.out.1.size)) (HB0.out.2.keep v2))
 clear v2 HCk HB0
 go_wp2_with fail
 refine (HBg.out _).mono ?_
 rintro e w3 ⟨rfl,rfl⟩
 go_wp2_with fail
 refine (HEn9.out _).mono ?_
 rintro e w3 ⟨rfl,rfl⟩
 go_wp2_with fail
 have hal:=al w2 (.cells #[.int .i64 (S:Int),.slice none 0 0,.int .i64 (F:Int),.int .i64 (T:Int)] 67)
 have H3:Hid (NoA w w.heap.size w2.heap.size (.int .i64 (S:Int)) (.int .i64 (F:Int)) (.int .i64 (T:Int)) (.slice none 0 0) (edU l 0) (w2.alloc (.cells #[.int .i64 (S:Int),.slice none 0 0,.int .i64 (F:Int),.int .i64 (T:Int)] 67))):=
  ⟨H2.out.1.trans (hal.mono H2.out.1.size),St.new _ _ _,H2.out.2.keep hal,World.ownsRow_nil _ _ _ _,Nat.ne_of_lt H2.out.2.lt,H2.out.1.size,Nat.le_refl _⟩
 clear hal H2 HBg HEn9
 generalize w2.alloc (.cells #[.int .i64 (S:Int),.slice none 0 0,.int .i64 (F:Int),.int .i64 (T:Int)] 67)=W1 at H3⊢
 obtain⟨bn,hbn2⟩:∃bn,w2.heap.size=bn:=⟨_,rfl⟩
 rw[hbn2] at H3
 rw[hbn2]
 clear hbn2
 go_loopw [7,27] (fun _ v wr=>∃(k:Nat) (vE:Value) (E:List En),v=.int .i64 k/\k<=n/\Hid (E=edU l k)/\Hid (NoA w w.heap.size bn (.int .i64 (S:Int)) (.int .i64 (F:Int)) (.int .i64 (T:Int)) vE E wr)) (fun _ v _=>n-(intOf v).toNat)
 case atStart=>exact⟨0,_,_,rfl,by omega,rfl,H3.out⟩
 case round=>
  clear H3
  obtain⟨k,vE,E,rfl,hk,HE,HA⟩:=hrel
  obtain⟨aE,cE,rfl⟩:=zaa HA.out.oe
  by_cases hlt:k<n
  ·have HEd:=hid (HEd'.out k hlt)
   have hL1:=znr l k
   have hL4:=zmt l k
   have hE4:E.length<=4*k:=by rw[HE.out];exact zn8 l k
   have HEn:Hid (E++edE l k=edU l (k+1)):=by show _=_;rw[zhA,HE.out]
   have HA2:Hid (NoA w w.heap.size bn (.int .i64 (S:Int)) (.int .i64 (F:Int)) (.int .i64 (T:Int)) (.slice aE E.length cE) E wr.drew):=HA.out.keep (Below.refl _ _).drew
   have e2:wr.cell? ⟨bn,1,none⟩=some (.slice aE E.length cE):=HA.out.s4.at_ 1
   have i1:(k:Int)<(n:Int):=by omega
   go_upto_region 9 with fail
   refine wp_region_held_drew (S:=fun W'=>Below w.heap.size w W'/\True) (by kernel_rfl) ⟨HA2.out.below,trivial⟩ (fun hHeld=>?_)
   (refine tkA 0 ?_;refine tkA 2 ?_;refine tkA 3 ?_;try simp only[Act.put,sA,sB,sC])
   refine wpAnyH_ready (rs:=[1,4]) (by kernel_rfl) (by simp) ?_
   refine arC (fun K hK=>?_) ?_
   ·skip
    go_simp
    refine hK.out _ _ ⟨HA2.out.below,trivial⟩ (fun hHeld=>?_)
    clear hK K
    try simp only[Act.put,sA,sB,sC]
    refine rd1 4 (fun K hK=>?_)
    ·skip
     go_simp
     go_at_call 99
     refine (HEd.out _ HA2.out.below).mono ?_
     rintro e w5 ⟨a5,c5,rfl,ho5,v5⟩
     have HO5:=hid ho5
     have HA5:=hid (HA2.out.keep v5)
     have e5:w5.cell? ⟨bn,1,none⟩=some (.slice aE E.length cE):=HA5.out.s4.at_ 1
     clear v5 ho5
     try go_wp2_with fail
     refine hK.out _ _ ⟨HA5.out.below,trivial⟩ (fun hHeld=>?_)
     clear hK K
     try simp only[Act.put,sA,sB,sC]
     refine rd1 5 (fun K hK=>?_)
     ·skip
      skip
      obtain⟨g5,eg5,hg5⟩:=zfN HO5.out hL1
      injection eg5 with eg5 _ _
      subst eg5
      refine zao (by rfl) _ _ _ (by rfl) w.heap.size 128 i0 (.agg #[.int .i64 0,.int .i64 0,.int .u64 0,.int .u64 0,.int .u64 0,.int .u64 0,.bool false]) 7 56 Tryz.underlying65 hi hz0 hz1 hz2 (by rfl) (by decide) _ E.length (egs (E.map En.z)) (by rfl) HA5.out.oe ⟨g5,0,none⟩ (edE l k).length c5 (egs ((edE l k).map En.z)) (by rfl) (by rw[zcb,List.length_map]) hg5 (zdt _) (by unfold maxLen;omega) (by omega) HA5.out.below.size ?_
      intro v6 w6 hown6 hgrow6
      obtain⟨a6,c6,rfl⟩:=zaa hown6
      have hs4:=HA5.out.s4.grown_own HA5.out.oe (by decide) hgrow6
      have HA7:=hid (HA5.out.app (vE':=.slice a6 (E.length+(edE l k).length) c6) hown6 hgrow6)
      have t3:w6.cell? ⟨bn,1,none⟩=some (.slice aE E.length cE):=hs4.at_ 1
      have f3:=hs4.thaw_ 1
      have hb6:=zac HA5.out.below HA5.out.oe HA5.out.below.size hgrow6
      refine hK.out _ _ ⟨hb6,trivial⟩ (fun hHeld=>?_)
      clear hK K hown6 hgrow6 hs4 hb6
      try simp only[Act.put,sA,sB,sC]
      (refine tkA 6 ?_;try simp only[Act.put,sA,sB,sC])
      refine rd1 7 (fun K hK=>?_)
      ·skip
       go_simp
       refine hK.out _ _ ⟨HA7.out.below,trivial⟩ (fun hHeld=>?_)
       clear hK K
       try simp only[Act.put,sA,sB,sC]
       refine wpAnyH_done (by kernel_rfl) ?_ _
       clear hHeld
       go_wp2_with fail
       go_roundw
       case rel=>exact⟨k+1,_,E++edE l k,by go_num,by omega,HEn.out,HA7.out⟩
       case measure=>simp[intOf];omega
   refine arC (fun K hK=>?_) ?_
   ·skip
    go_simp
    go_at_call 99
    refine (HEd.out _ HA2.out.below).mono ?_
    rintro e w5 ⟨a5,c5,rfl,ho5,v5⟩
    have HO5:=hid ho5
    have HA5:=hid (HA2.out.keep v5)
    have e5:w5.cell? ⟨bn,1,none⟩=some (.slice aE E.length cE):=HA5.out.s4.at_ 1
    clear v5 ho5
    try go_wp2_with fail
    refine hK.out _ _ ⟨HA5.out.below,trivial⟩ (fun hHeld=>?_)
    clear hK K
    try simp only[Act.put,sA,sB,sC]
    refine rd1 1 (fun K hK=>?_)
    ·skip
     go_simp
     refine hK.out _ _ ⟨HA5.out.below,trivial⟩ (fun hHeld=>?_)
     clear hK K
     try simp only[Act.put,sA,sB,sC]
     refine rd1 5 (fun K hK=>?_)
     ·skip
      skip
      obtain⟨g5,eg5,hg5⟩:=zfN HO5.out hL1
      injection eg5 with eg5 _ _
      subst eg5
      refine zao (by rfl) _ _ _ (by rfl) w.heap.size 128 i0 (.agg #[.int .i64 0,.int .i64 0,.int .u64 0,.int .u64 0,.int .u64 0,.int .u64 0,.bool false]) 7 56 Tryz.underlying65 hi hz0 hz1 hz2 (by rfl) (by decide) _ E.length (egs (E.map En.z)) (by rfl) HA5.out.oe ⟨g5,0,none⟩ (edE l k).length c5 (egs ((edE l k).map En.z)) (by rfl) (by rw[zcb,List.length_map]) hg5 (zdt _) (by unfold maxLen;omega) (by omega) HA5.out.below.size ?_
      intro v6 w6 hown6 hgrow6
      obtain⟨a6,c6,rfl⟩:=zaa hown6
      have hs4:=HA5.out.s4.grown_own HA5.out.oe (by decide) hgrow6
      have HA7:=hid (HA5.out.app (vE':=.slice a6 (E.length+(edE l k).length) c6) hown6 hgrow6)
      have t3:w6.cell? ⟨bn,1,none⟩=some (.slice aE E.length cE):=hs4.at_ 1
      have f3:=hs4.thaw_ 1
      have hb6:=zac HA5.out.below HA5.out.oe HA5.out.below.size hgrow6
      refine hK.out _ _ ⟨hb6,trivial⟩ (fun hHeld=>?_)
      clear hK K hown6 hgrow6 hs4 hb6
      try simp only[Act.put,sA,sB,sC]
      (refine tkA 6 ?_;try simp only[Act.put,sA,sB,sC])
      refine rd1 7 (fun K hK=>?_)
      ·skip
       go_simp
       refine hK.out _ _ ⟨HA7.out.below,trivial⟩ (fun hHeld=>?_)
       clear hK K
       try simp only[Act.put,sA,sB,sC]
       refine wpAnyH_done (by kernel_rfl) ?_ _
       clear hHeld
       go_wp2_with fail
       go_roundw
       case rel=>exact⟨k+1,_,E++edE l k,by go_num,by omega,HEn.out,HA7.out⟩
       case measure=>simp[intOf];omega
   exact AllReadyH.nil
  ·obtain rfl:k=n:=by omega
   obtain⟨p0,p1,p2,p3⟩:=HA.out.s4.cells4
   obtain⟨q0,q1,q2,q3,g0,g1,g2,g3⟩:=row4 HA.out.s0
   have HF:Hid (NofP t k w (.returned (.tuple #[.agg #[.int .i64 (S:Int),.slice aE E.length cE,.int .i64 (F:Int),.int .i64 (T:Int)],.int .i64 0])) ((((wr.setCell ⟨w.heap.size,0,none⟩ (.int .i64 (S:Int))).setCell ⟨w.heap.size,1,none⟩ (.slice aE E.length cE)).setCell ⟨w.heap.size,2,none⟩ (.int .i64 (F:Int))).setCell ⟨w.heap.size,3,none⟩ (.int .i64 (T:Int)))):=by
    have hE:E=thE t 0:=by rw[HE.out];exact HT.out.1
    unfold NofP
    rw[<-hE,HT.out.2.1,Hb.out,HFT.out.2,HFT.out.1,HSS.out]
    exact⟨aE,cE,rfl,zbD HA.out.oe HA.out.s0 (by decide) _ _ _ _,zbp HA.out.below (Nat.le_refl _) _ _ _ _⟩
   have HSf:Hid (St ((((wr.setCell ⟨w.heap.size,0,none⟩ (.int .i64 (S:Int))).setCell ⟨w.heap.size,1,none⟩ (.slice aE E.length cE)).setCell ⟨w.heap.size,2,none⟩ (.int .i64 (F:Int))).setCell ⟨w.heap.size,3,none⟩ (.int .i64 (T:Int))) 67 w.heap.size #[.int .i64 (S:Int),.slice aE E.length cE,.int .i64 (F:Int),.int .i64 (T:Int)]):=HA.out.s0.set4 _ _ _ _
   go_wp2_with fail
   generalize (((wr.setCell ⟨w.heap.size,0,none⟩ (.int .i64 (S:Int))).setCell ⟨w.heap.size,1,none⟩ (.slice aE E.length cE)).setCell ⟨w.heap.size,2,none⟩ (.int .i64 (F:Int))).setCell ⟨w.heap.size,3,none⟩ (.int .i64 (T:Int))=Wf at HF HSf⊢
   obtain⟨v0,v1,v2,v3⟩:=HSf.out.cells4
   exact bodyPost_ret (v:=.tuple #[.agg #[.int .i64 (S:Int),.slice aE E.length cE,.int .i64 (F:Int),.int .i64 (T:Int)],.int .i64 0]) (by simp[results,Tryz.results61,go_sem,v0,v1,v2,v3]) rfl HF.out
theorem znt {w:World}{B:Nat}{a:Option Addr}{n c:Nat}{l:List Pc}(h:w.ownsRow B 104 5 (.slice a n c) n (pcs l)) (hn:l.length=n):RxAt w a l:=by
 intro h0
 obtain⟨g,rfl,_,hg,hc⟩:=zae h (by omega)
 exact⟨g,0,rfl,hg,fun j hj=>by rw[Nat.zero_add,(hc j (by omega)).1]⟩
theorem ziy (t:Rx) (hw:t.wf):∀(r:List Pc) (n:Int),0<=n->chkGo (t.flat++r) n=chkGo r (n+1):=by
 induction t with
 | leaf x=>
  intro r n hn
  show (if okPc x n=true then chkGo r (n+1-takesZ x.k) else none)=_
  have ho:okPc x n=true:=by
   unfold okPc
   rw[hw.1,hw.2]
   simp
   omega
  rw[if_pos ho,hw.1]
  congr 1
  omega
 | un x a ih=>
  intro r n hn
  show chkGo ((a.flat++[x])++r) n=_
  rw[List.append_assoc,ih hw.2.2 _ n hn]
  show (if okPc x (n+1)=true then chkGo r (n+1+1-takesZ x.k) else none)=_
  have ho:okPc x (n+1)=true:=by
   unfold okPc
   rw[hw.1,hw.2.1]
   simp
   omega
  rw[if_pos ho,hw.1]
  congr 1
  omega
 | bin x a b ih jh=>
  intro r n hn
  show chkGo ((a.flat++(b.flat++[x]))++r) n=_
  rw[List.append_assoc,List.append_assoc,ih hw.2.2.1 _ n hn,jh hw.2.2.2 _ (n+1) (by omega)]
  show (if okPc x (n+1+1)=true then chkGo r (n+1+1+1-takesZ x.k) else none)=_
  have ho:okPc x (n+1+1)=true:=by
   unfold okPc
   rw[hw.1,hw.2.1]
   simp
   omega
  rw[if_pos ho,hw.1]
  congr 1
  omega
theorem zjP (t:Rx) (hw:t.wf) (h:t.flat.length<=400):chkT t.flat=0:=by
 have h1:chkGo t.flat 0=some 1:=by
  have:=ziy t hw [] 0 (by omega)
  rw[List.append_nil] at this
  rw[this]
  rfl
 unfold chkT
 rw[if_neg (by omega),if_pos h1]
def ErrP (s:ByteArray) (er:Nat):Prop:=(er=5/\∀l,altOf (atomD 99) ([],numsOf s)≠some (l,[]))\/(er=6/\∃l,altOf (atomD 99) ([],numsOf s)=some (l,[])/\400<l.length)
def ExpP (s:ByteArray) (w:World) (e:Ending) (w':World):Prop:=
 (∃er:Nat,ErrP s er/\e=.returned (.tuple #[.agg #[.int .i64 0,.slice none 0 0,.int .i64 0,.int .i64 0],.int .i64 (er:Int)])/\Below w.heap.size w w')\/
 (∃t:Rx,t.wf/\altOf (atomD 99) ([],numsOf s)=some (t.flat,[])/\t.flat.length<=400/\NofP t t.flat.length w e w')
theorem zcD (s:ByteArray) (hs:s.size<=1600) (w:World):Calls Tryz.prog 39 #[.string s] w (ExpP s w):=by
 have HB:=hid (And.intro (al w (.cells #[.int .i64 0,.slice none 0 0,.int .i64 0,.int .i64 0] 67)) (St.new w 67 #[.int .i64 0,.slice none 0 0,.int .i64 0,.int .i64 0]))
 by_cases hp:∃l,altOf (atomD 99) ([],numsOf s)=some (l,[])
 ·obtain⟨l,hl⟩:=hp
  by_cases hm:400<l.length
  ·have HP:=hid (fun (W:World)=>zie s W hs l hl hm)
   have HE:Hid (ErrP s 6):=Or.inr ⟨rfl,l,hl,hm⟩
   clear hl hm
   go_enter Tryz.func39,Tryz.ntmps39
   go_wp2_with fail
   refine (HP.out _).mono ?_
   rintro e w2 ⟨rfl,k2⟩
   have H2:=hid (And.intro (HB.out.1.trans (k2.mono HB.out.1.size)) (HB.out.2.keep k2))
   clear k2 HP
   obtain⟨q0,q1,q2,q3,g0,g1,g2,g3⟩:=row4 H2.out.2
   have HSf:Hid (St ((((w2.setCell ⟨w.heap.size,0,none⟩ (.int .i64 0)).setCell ⟨w.heap.size,1,none⟩ (.slice none 0 0)).setCell ⟨w.heap.size,2,none⟩ (.int .i64 0)).setCell ⟨w.heap.size,3,none⟩ (.int .i64 0)) 67 w.heap.size #[.int .i64 0,.slice none 0 0,.int .i64 0,.int .i64 0]/\Below w.heap.size w ((((w2.setCell ⟨w.heap.size,0,none⟩ (.int .i64 0)).setCell ⟨w.heap.size,1,none⟩ (.slice none 0 0)).setCell ⟨w.heap.size,2,none⟩ (.int .i64 0)).setCell ⟨w.heap.size,3,none⟩ (.int .i64 0))):=⟨H2.out.2.set4 _ _ _ _,zbp H2.out.1 (Nat.le_refl _) _ _ _ _⟩
   go_wp2_with fail
   generalize (((w2.setCell ⟨w.heap.size,0,none⟩ (.int .i64 0)).setCell ⟨w.heap.size,1,none⟩ (.slice none 0 0)).setCell ⟨w.heap.size,2,none⟩ (.int .i64 0)).setCell ⟨w.heap.size,3,none⟩ (.int .i64 0)=Wf at HSf⊢
   obtain⟨v0,v1,v2,v3⟩:=HSf.out.1.cells4
   exact bodyPost_ret (v:=.tuple #[.agg #[.int .i64 0,.slice none 0 0,.int .i64 0,.int .i64 0],.int .i64 6]) (by simp[results,Tryz.results39,go_sem,v0,v1,v2,v3]) rfl (Or.inl ⟨6,HE.out,rfl,HSf.out.2⟩)
  ·obtain⟨t,hw,rfl⟩:=zix (zdk s) hl
   have hle:t.flat.length<=400:=by omega
   have HP:=hid (fun (W:World)=>zjx s W hs t.flat hl hle)
   have HT:=hid (And.intro hw (And.intro hl hle))
   have hck:=zjP t hw hle
   have HNo:=hid (fun (a:Option Addr) (cap:Nat) (W:World) (hL:RxAt W a t.flat)=>zns t hw a t.flat.length cap W hL rfl hck hle)
   clear hl hm hw hck
   obtain⟨n,hn⟩:∃n,t.flat.length=n:=⟨_,rfl⟩
   have Hn:=hid hn
   rw[hn] at HP HNo hle
   clear hn
   go_enter Tryz.func39,Tryz.ntmps39
   go_wp2_with fail
   refine (HP.out _).mono ?_
   rintro e w2 ⟨a2,c2,rfl,ho2,k2⟩
   have H2:=hid (And.intro (HB.out.1.trans (k2.mono HB.out.1.size)) (And.intro (HB.out.2.keep k2) (znt ho2 Hn.out)))
   clear k2 HP ho2
   have HN2:=hid (HNo.out a2 c2 w2 H2.out.2.2)
   go_wp2_with fail
   refine HN2.out.mono ?_
   rintro e w3 ⟨a3,c3,rfl,ho3,k3⟩
   have H3:=hid (And.intro (H2.out.1.trans (k3.mono H2.out.1.size)) (And.intro (H2.out.2.1.keep k3) (zag ho3 H2.out.1.size)))
   clear k3 ho3 HN2 HNo
   obtain⟨S,hS⟩:∃S:Nat,2*n=S:=⟨_,rfl⟩
   obtain⟨F,hF⟩:∃F:Nat,2*rtI t 0=F:=⟨_,rfl⟩
   obtain⟨T,hT⟩:∃T:Nat,2*rtI t 0+1=T:=⟨_,rfl⟩
   obtain⟨m,hmm⟩:∃m,(thE t 0).length=m:=⟨_,rfl⟩
   have HQ:=hid (And.intro hS (And.intro hF (And.intro hT hmm)))
   rw[hmm] at H3
   rw[hT,hS,hF,hmm]
   clear hS hF hT hmm
   obtain⟨q0,q1,q2,q3,g0,g1,g2,g3⟩:=row4 H3.out.2.1
   have HSf:Hid (St ((((w3.setCell ⟨w.heap.size,0,none⟩ (.int .i64 (S:Int))).setCell ⟨w.heap.size,1,none⟩ (.slice a3 m c3)).setCell ⟨w.heap.size,2,none⟩ (.int .i64 (F:Int))).setCell ⟨w.heap.size,3,none⟩ (.int .i64 (T:Int))) 67 w.heap.size #[.int .i64 (S:Int),.slice a3 m c3,.int .i64 (F:Int),.int .i64 (T:Int)]/\Below w.heap.size w ((((w3.setCell ⟨w.heap.size,0,none⟩ (.int .i64 (S:Int))).setCell ⟨w.heap.size,1,none⟩ (.slice a3 m c3)).setCell ⟨w.heap.size,2,none⟩ (.int .i64 (F:Int))).setCell ⟨w.heap.size,3,none⟩ (.int .i64 (T:Int)))/\((((w3.setCell ⟨w.heap.size,0,none⟩ (.int .i64 (S:Int))).setCell ⟨w.heap.size,1,none⟩ (.slice a3 m c3)).setCell ⟨w.heap.size,2,none⟩ (.int .i64 (F:Int))).setCell ⟨w.heap.size,3,none⟩ (.int .i64 (T:Int))).ownsRow w.heap.size 128 7 (.slice a3 m c3) m (egs ((thE t 0).map En.z))):=⟨H3.out.2.1.set4 _ _ _ _,zbp H3.out.1 (Nat.le_refl _) _ _ _ _,zbD H3.out.2.2 H3.out.2.1 (by decide) _ _ _ _⟩
   go_wp2_with fail
   generalize (((w3.setCell ⟨w.heap.size,0,none⟩ (.int .i64 (S:Int))).setCell ⟨w.heap.size,1,none⟩ (.slice a3 m c3)).setCell ⟨w.heap.size,2,none⟩ (.int .i64 (F:Int))).setCell ⟨w.heap.size,3,none⟩ (.int .i64 (T:Int))=Wf at HSf⊢
   obtain⟨v0,v1,v2,v3⟩:=HSf.out.1.cells4
   refine bodyPost_ret (v:=.tuple #[.agg #[.int .i64 (S:Int),.slice a3 m c3,.int .i64 (F:Int),.int .i64 (T:Int)],.int .i64 0]) (by simp[results,Tryz.results39,go_sem,v0,v1,v2,v3]) rfl (Or.inr ⟨t,HT.out.1,HT.out.2.1,HT.out.2.2,?_⟩)
   unfold NofP
   rw[Hn.out,HQ.out.1,HQ.out.2.2.1,HQ.out.2.1,HQ.out.2.2.2]
   exact⟨a3,c3,rfl,HSf.out.2.2,HSf.out.2.1⟩
 ·have hno:∀l,altOf (atomD 99) ([],numsOf s)≠some (l,[]):=fun l h=>hp ⟨l,h⟩
  have HP:=hid (fun (W:World)=>zlf s W hs hno)
  have HE:Hid (ErrP s 5):=Or.inl ⟨rfl,hno⟩
  clear hno hp
  go_enter Tryz.func39,Tryz.ntmps39
  go_wp2_with fail
  refine (HP.out _).mono ?_
  rintro e w2 ⟨rfl,k2⟩
  have H2:=hid (And.intro (HB.out.1.trans (k2.mono HB.out.1.size)) (HB.out.2.keep k2))
  clear k2 HP
  obtain⟨q0,q1,q2,q3,g0,g1,g2,g3⟩:=row4 H2.out.2
  have HSf:Hid (St ((((w2.setCell ⟨w.heap.size,0,none⟩ (.int .i64 0)).setCell ⟨w.heap.size,1,none⟩ (.slice none 0 0)).setCell ⟨w.heap.size,2,none⟩ (.int .i64 0)).setCell ⟨w.heap.size,3,none⟩ (.int .i64 0)) 67 w.heap.size #[.int .i64 0,.slice none 0 0,.int .i64 0,.int .i64 0]/\Below w.heap.size w ((((w2.setCell ⟨w.heap.size,0,none⟩ (.int .i64 0)).setCell ⟨w.heap.size,1,none⟩ (.slice none 0 0)).setCell ⟨w.heap.size,2,none⟩ (.int .i64 0)).setCell ⟨w.heap.size,3,none⟩ (.int .i64 0))):=⟨H2.out.2.set4 _ _ _ _,zbp H2.out.1 (Nat.le_refl _) _ _ _ _⟩
  go_wp2_with fail
  generalize (((w2.setCell ⟨w.heap.size,0,none⟩ (.int .i64 0)).setCell ⟨w.heap.size,1,none⟩ (.slice none 0 0)).setCell ⟨w.heap.size,2,none⟩ (.int .i64 0)).setCell ⟨w.heap.size,3,none⟩ (.int .i64 0)=Wf at HSf⊢
  obtain⟨v0,v1,v2,v3⟩:=HSf.out.1.cells4
  exact bodyPost_ret (v:=.tuple #[.agg #[.int .i64 0,.slice none 0 0,.int .i64 0,.int .i64 0],.int .i64 5]) (by simp[results,Tryz.results39,go_sem,v0,v1,v2,v3]) rfl (Or.inl ⟨5,HE.out,rfl,HSf.out.2⟩)
end Go.Proofs.YtjehgdjlncofeaaGreat
