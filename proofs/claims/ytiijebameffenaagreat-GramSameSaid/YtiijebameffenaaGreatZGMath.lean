import Derived.Test.YtiijebameffenaaGreatZPPrint
import Derived.Test.YtiijebameffenaaGreatZRuM
import Derived.Deep.Cut
set_option linter.all false
set_option maxHeartbeats 4000000
set_option maxRecDepth 100000
open Go.Lib (hid)
namespace Go.Proofs.YtiijebameffenaaGreat
open Go.RowKit Go.Proofs.Tryz
open Nat (le_refl le_trans zero_le)
open DataW (trod trod_bool trod_int trod_string trod_struct)
open World (cell? cell?_spot cells?_some)
open Classical (choose_spec)
open List (range)
open Or (inl inr)
variable {a:Option Addr}{cap fuel i k:Nat}{f:Nat->Int}{held:Bool}{l:List ByteArray}{n:Int}{spare:Nat->Bool}{v:Value}{w w':World}
def qD(w:World)(a:Option Addr)(l:List ByteArray):Prop:=0<l.length->∃g off,a=some ⟨g,off,none⟩/\g<w.heap.size/\∀j (h:j<l.length),w.cell? ⟨g,off+j,none⟩=some (.string l[j])
theorem qD.below(h:qD w a l)(k:Below w.heap.size w w'):qD w' a l:=by
 intro h0;obtain⟨g,off,e,hg,hc⟩:=h h0;have:=k.size;exact⟨g,off,e,by omega,fun j hj=>(k.cell (p:=⟨g,off+j,none⟩) hg).trans (hc j hj)⟩
theorem xP(a b:ByteArray):(a.toList == b.toList)=decide (a=b):=by
 by_cases h:a=b
 ·subst h;simp
 have:¬a.toList=b.toList:=by
  intro e;rw[ByteArray.toList_eq,ByteArray.toList_eq] at e;exact h (JD e)
 simp[h,this]
structure Sy where
 s:Bool
 n:Int
def jo(x:Sy):List Value:=[.bool x.s,.int .i64 x.n]
def nM(w:World)(a:Option Addr)(l:List Sy):Prop:=0<l.length->∃g off,a=some ⟨g,off,none⟩/\g<w.heap.size/\∀i (h:i<l.length) j,j<2->w.cell? ⟨g,off+i*2+j,none⟩=(jo l[i])[j]?
theorem nM.below{l:List Sy}(h:nM w a l)(k:Below w.heap.size w w'):nM w' a l:=by
 intro h0;obtain⟨g,off,rfl,hg,hc⟩:=h h0;have:=k.size;exact⟨g,off,rfl,by omega,fun i hi j hj=>(k.cell (p:=⟨g,off+i*2+j,none⟩) hg).trans (hc i hi j hj)⟩
theorem nM.get{l:List Sy}(h:nM w a l)(k:Nat)(hk:k<l.length):
  ∃g off,a=some ⟨g,off,none⟩/\g<w.heap.size/\w.cell? ⟨g,off+k*2,none⟩=some (.bool l[k].s)/\w.cell? ⟨g,off+k*2+1,none⟩=some (.int .i64 l[k].n):=by
 obtain⟨g,off,rfl,hg,hc⟩:=h (by omega);exact⟨g,off,rfl,hg,hc k hk 0 (by omega),hc k hk 1 (by omega)⟩
def fP(w:World)(a:Option Addr)(l:List Int):Prop:=kv w a l.length (fun i=>l.getD i 0)
theorem fP.below{l:List Int}(h:fP w a l)(k:Below w.heap.size w w'):fP w' a l:=kv.below h k
theorem fP.get{l:List Int}(h:fP w a l)(k:Nat)(hk:k<l.length):
  ∃g off,a=some ⟨g,off,none⟩/\g<w.heap.size/\w.cell? ⟨g,off+k,none⟩=some (.int .i64 l[k]):=by
 obtain⟨g,off,rfl,hg,hc⟩:=h (by omega);exact⟨g,off,rfl,hg,by rw[hc k hk];simp[hk]⟩
structure gK where
 bF:Int
 bG:ByteArray
 ab:Option Addr
 cb:Nat
 body:List Sy
 par:Bool
 prec:Int
 ah:Option Addr
 ch:Nat
 hints:List Int
def l7(x:gK):List Value:=[.int .i64 x.bF,.string x.bG,.slice x.ab x.body.length x.cb,.bool x.par,.int .i64 x.prec,.slice x.ah x.hints.length x.ch]
def gK.val(x:gK):Value:=.agg (l7 x).toArray
structure gK.At (w:World)(x:gK):Prop where
 b:nM w x.ab x.body
 h:fP w x.ah x.hints
theorem gK.At.below{x:gK}(h:x.At w)(k:Below w.heap.size w w'):x.At w':=⟨h.b.below k,h.h.below k⟩
def pq(w:World)(a:Option Addr)(l:List gK):Prop:=0<l.length->∃g off,a=some ⟨g,off,none⟩/\g<w.heap.size/\∀i (h:i<l.length),l[i].At w/\∀j,j<6->w.cell? ⟨g,off+i*6+j,none⟩=(l7 l[i])[j]?
theorem pq.below{l:List gK}(h:pq w a l)(k:Below w.heap.size w w'):pq w' a l:=by
 intro h0;obtain⟨g,off,rfl,hg,hc⟩:=h h0;have:=k.size;exact⟨g,off,rfl,by omega,fun i hi=>⟨(hc i hi).1.below k,fun j hj=>(k.cell (p:=⟨g,off+i*6+j,none⟩) hg).trans ((hc i hi).2 j hj)⟩⟩
theorem pq.get{l:List gK}(h:pq w a l)(k:Nat)(hk:k<l.length):
  ∃g off,a=some ⟨g,off,none⟩/\g<w.heap.size/\l[k].At w/\w.cell? ⟨g,off+k*6,none⟩=some (.int .i64 l[k].bF)/\w.cell? ⟨g,off+k*6+1,none⟩=some (.string l[k].bG)/\
   w.cell? ⟨g,off+k*6+2,none⟩=some (.slice l[k].ab l[k].body.length l[k].cb)/\w.cell? ⟨g,off+k*6+3,none⟩=some (.bool l[k].par)/\
   w.cell? ⟨g,off+k*6+4,none⟩=some (.int .i64 l[k].prec)/\w.cell? ⟨g,off+k*6+5,none⟩=some (.slice l[k].ah l[k].hints.length l[k].ch):=by
 obtain⟨g,off,rfl,hg,hc⟩:=h (by omega);obtain⟨h1,h2⟩:=hc k hk;exact⟨g,off,rfl,hg,h1,h2 0 (by omega),h2 1 (by omega),h2 2 (by omega),h2 3 (by omega),h2 4 (by omega),h2 5 (by omega)⟩
structure qe where
 side:Int
 ar:Option Addr
 cr:Nat
 rules:List Int
def lT(x:qe):List Value:=[.int .i64 x.side,.slice x.ar x.rules.length x.cr]
def qe.val(x:qe):Value:=.agg (lT x).toArray
def qn(w:World)(a:Option Addr)(l:List qe):Prop:=0<l.length->∃g off,a=some ⟨g,off,none⟩/\g<w.heap.size/\∀i (h:i<l.length),fP w l[i].ar l[i].rules/\∀j,j<2->w.cell? ⟨g,off+i*2+j,none⟩=(lT l[i])[j]?
theorem qn.below{l:List qe}(h:qn w a l)(k:Below w.heap.size w w'):qn w' a l:=by
 intro h0;obtain⟨g,off,rfl,hg,hc⟩:=h h0;have:=k.size;exact⟨g,off,rfl,by omega,fun i hi=>⟨(hc i hi).1.below k,fun j hj=>(k.cell (p:=⟨g,off+i*2+j,none⟩) hg).trans ((hc i hi).2 j hj)⟩⟩
theorem qn.get{l:List qe}(h:qn w a l)(k:Nat)(hk:k<l.length):
  ∃g off,a=some ⟨g,off,none⟩/\g<w.heap.size/\fP w l[k].ar l[k].rules/\w.cell? ⟨g,off+k*2,none⟩=some (.int .i64 l[k].side)/\w.cell? ⟨g,off+k*2+1,none⟩=some (.slice l[k].ar l[k].rules.length l[k].cr):=by
 obtain⟨g,off,rfl,hg,hc⟩:=h (by omega);obtain⟨h1,h2⟩:=hc k hk;exact⟨g,off,rfl,hg,h1,h2 0 (by omega),h2 1 (by omega)⟩
structure Gr where
 aR:Option Addr
 cR:Nat
 R:List Ru
 aS:Option Addr
 cS:Nat
 S:List ByteArray
 aP:Option Addr
 cP:Nat
 P:List gK
 aL:Option Addr
 cL:Nat
 L:List qe
 st:Int
def Gr.cells(G:Gr):List Value:=[.slice G.aR G.R.length G.cR,.slice G.aS G.S.length G.cS,.slice G.aP G.P.length G.cP,.slice G.aL G.L.length G.cL,.int .i64 G.st]
def Gr.val(G:Gr):Value:=.agg G.cells.toArray
structure Gr.At (w:World)(G:Gr):Prop where
 r:jl w G.aR G.R
 s:qD w G.aS G.S
 p:pq w G.aP G.P
 l:qn w G.aL G.L
theorem Gr.At.below{G:Gr}(h:G.At w)(k:Below w.heap.size w w'):G.At w':=⟨h.r.below k,h.s.below k,h.p.below k,h.l.below k⟩
structure Gr.lb (m:Nat)(G:Gr):Prop where
 r:G.R.length<=m
 s:G.S.length<=m
 p:G.P.length<=m
 l:G.L.length<=m
 rs:∀i (h:i<G.R.length),G.R[i].nm.size<=m/\G.R[i].rx.size<=m
 ss:∀i (h:i<G.S.length),G.S[i].size<=m
 ps:∀i (h:i<G.P.length),G.P[i].bG.size<=m/\G.P[i].body.length<=m/\G.P[i].hints.length<=m
 ls:∀i (h:i<G.L.length),G.L[i].rules.length<=m
theorem Gr.lb.mono{m n:Nat}{G:Gr}(h:G.lb m)(k:m<=n):G.lb n:=
 ⟨le_trans h.r k,le_trans h.s k,le_trans h.p k,le_trans h.l k,fun i hi=>⟨le_trans (h.rs i hi).1 k,le_trans (h.rs i hi).2 k⟩,fun i hi=>le_trans (h.ss i hi) k,fun i hi=>⟨le_trans (h.ps i hi).1 k,le_trans (h.ps i hi).2.1 k,le_trans (h.ps i hi).2.2 k⟩,fun i hi=>le_trans (h.ls i hi) k⟩
open Go.ChangeShapes Go.WideShapes Go.ChangeAt Go.Deep
theorem DH(b o j:Nat):(⟨b,o,none⟩:Addr).add j=⟨b,o+j,none⟩:=by unfold Addr.add;split <;> simp_all
theorem zhV{H:Type}{enc:TypeId × Value->H}{base:Nat}{len:Nat}{x:DataW H × List MemPlace}
  (h:trod enc prog w base spare held fuel 43 [.slice a len cap]=some x):(∃g:Nat->Int,kv w a len g)/\len<=cap/\cap<=maxLen:=by
 rcases open_slice underlying43 h with ⟨fI,_⟩|⟨ad,l,c,m,n,D,Pl,fI,hb,hl,hm,iD,hx,hi⟩
 ·simp at fI;obtain⟨rfl,rfl,rfl⟩:=fI;exact⟨⟨fun _=>0,fun h=>absurd h (by omega)⟩,le_refl _,by unfold maxLen;omega⟩
 simp at fI;obtain⟨rfl,rfl,rfl⟩:=fI;have h1:prog.cellsOf 3=1:=by kernel_rfl
 have hp:∀i,i<len->∃p:Int,w.cell? (ad.add i)=some (.int .i64 p):=by
  intro i MY;obtain⟨fY,hc,ht⟩:=hi i (by rw[iD];split <;> omega);rw[h1] at hc;obtain⟨_,fq,eu⟩:=cells?_some hc;obtain⟨b,e,_⟩:=trod_int underlying3 ht;have h2:=eu 0 (by omega);rw[Go.Deep.add_add,e] at h2;exact⟨b,by simpa using h2⟩
 obtain⟨b,off,spot⟩:=ad;obtain⟨G,hs⟩:∃G:Nat->Int,∀i,i<len->w.cell? ((⟨b,off,spot⟩:Addr).add i)=some (.int .i64 (G i)):=
  ⟨fun i=>if h:i<len then Classical.choose (hp i h) else 0,fun i h=>by
   have:=choose_spec (hp i h)
   simp only[dif_pos h]
   exact this⟩
 refine⟨⟨G,fun h0=>?_⟩,hl,hm⟩;have ml:spot=none:=by
  have:=hs 0 h0;simpa [Addr.add] using cell?_spot this
 subst ml;refine⟨b,off,rfl,?_,fun j hj=>?_⟩
 ·have:=hs 0 h0;by_cases hb:b<w.heap.size
  ·exact hb
  rw[DH] at this;simp[cell?,Array.getElem?_eq_none (by omega:w.heap.size<=b)] at this
 have:=hs j hj;rwa [DH] at this
theorem zhW{H:Type}{enc:TypeId × Value->H}{base:Nat}{len:Nat}{x:DataW H × List MemPlace}
  (h:trod enc prog w base spare held fuel 23 [.slice a len cap]=some x):∃l:List ByteArray,l.length=len/\qD w a l/\len<=cap/\cap<=maxLen/\∀j (h:j<l.length),l[j].size<=maxLen:=by
 rcases open_slice underlying23 h with ⟨fI,_⟩|⟨ad,l,c,m,n,D,Pl,fI,hb,hl,hm,iD,hx,hi⟩
 ·simp at fI;obtain⟨rfl,rfl,rfl⟩:=fI;exact⟨[],rfl,fun h=>absurd h (by simp),le_refl _,by unfold maxLen;omega,fun j h=>absurd h (by simp)⟩
 simp at fI;obtain⟨rfl,rfl,rfl⟩:=fI;have h1:prog.cellsOf 9=1:=by kernel_rfl
 have hp:∀i,i<len->∃s:ByteArray,w.cell? (ad.add i)=some (.string s)/\s.size<=maxLen:=by
  intro i MY;obtain⟨fY,hc,ht⟩:=hi i (by rw[iD];split <;> omega);rw[h1] at hc;obtain⟨_,fq,eu⟩:=cells?_some hc;obtain⟨s,e,_,hs⟩:=trod_string underlying9 ht;have h2:=eu 0 (by omega);rw[Go.Deep.add_add,e] at h2;exact⟨s,by simpa using h2,hs⟩
 obtain⟨b,off,spot⟩:=ad;obtain⟨G,hs⟩:∃G:Nat->ByteArray,∀i,i<len->w.cell? ((⟨b,off,spot⟩:Addr).add i)=some (.string (G i))/\(G i).size<=maxLen:=
  ⟨fun i=>if h:i<len then Classical.choose (hp i h) else ⟨#[]⟩,fun i h=>by
   have:=choose_spec (hp i h)
   simp only[dif_pos h]
   exact this⟩
 refine⟨(range len).map G,by simp,fun h0=>?_,hl,hm,fun j hj=>by simp at hj⊢;exact (hs j hj).2⟩;simp at h0;have ml:spot=none:=by
  have:=(hs 0 h0).1;simpa [Addr.add] using cell?_spot this
 subst ml;refine⟨b,off,rfl,?_,fun j hj=>?_⟩
 ·have:=(hs 0 h0).1;by_cases hb:b<w.heap.size
  ·exact hb
  rw[DH] at this;simp[cell?,Array.getElem?_eq_none (by omega:w.heap.size<=b)] at this
 simp at hj;have:=(hs j hj).1;rw[DH] at this;rw[this];simp
theorem zi3{H:Type}{enc:TypeId × Value->H}{base:Nat}{cs:List Value}{x:DataW H × List MemPlace}(hlen:cs.length=3)
  (h:trod enc prog w base spare held fuel 55 cs=some x):∃p:Ru,cs=dL p/\p.nm.size<=maxLen/\p.rx.size<=maxLen:=by
 have c3:prog.cellsOf 3=1:=by kernel_rfl
 have c4:prog.cellsOf 9=1:=by kernel_rfl
 obtain⟨ys,n',KA,hy,hl,zG,hf⟩:=trod_struct underlying55 h;have f0:=hf 0 _ rfl;have f1:=hf 1 _ rfl;have f2:=hf 2 _ rfl
 match cs,hlen with
 | [v0,v1,v2],_=>
  simp[c3,c4] at f0 f1 f2
  match ys,zG with
  | [y0,y1,y2],_=>
   simp at f0 f1 f2;obtain⟨s,e0,_,hs⟩:=trod_string underlying9 f0;obtain⟨r,e1,_⟩:=trod_int underlying3 f1;obtain⟨p,e2,_,hp⟩:=trod_string underlying9 f2;simp at e0 e1 e2;subst e0 e1 e2;exact⟨⟨s,r,p⟩,rfl,hs,hp⟩
theorem Y5{H:Type}{enc:TypeId × Value->H}{base:Nat}{len:Nat}{x:DataW H × List MemPlace}
  (h:trod enc prog w base spare held fuel 22 [.slice a len cap]=some x):∃l:List Ru,l.length=len/\jl w a l/\len<=cap/\cap<=maxLen/\∀j (h:j<l.length),l[j].nm.size<=maxLen/\l[j].rx.size<=maxLen:=by
 rcases open_slice underlying22 h with ⟨fI,_⟩|⟨ad,l,c,m,n,D,Pl,fI,hb,hl,hm,iD,hx,hi⟩
 ·simp at fI;obtain⟨rfl,rfl,rfl⟩:=fI;exact⟨[],rfl,fun h=>absurd h (by simp),le_refl _,by unfold maxLen;omega,fun j h=>absurd h (by simp)⟩
 simp at fI;obtain⟨rfl,rfl,rfl⟩:=fI;have h7:prog.cellsOf 55=3:=by kernel_rfl
 have hp:∀i,i<len->∃p:Ru,(∀j,j<3->w.cell? (ad.add (i*3+j))=(dL p)[j]?)/\p.nm.size<=maxLen/\p.rx.size<=maxLen:=by
  intro i MY;obtain⟨fY,hc,ht⟩:=hi i (by rw[iD];split <;> omega);rw[h7] at hc;obtain⟨_,fq,eu⟩:=cells?_some hc;obtain⟨p,rfl,hs⟩:=zi3 fq ht;refine⟨p,fun j hj=>?_,hs⟩;rw[<-Go.Deep.add_add];exact eu j hj
 obtain⟨b,off,spot⟩:=ad;have ea:∃s:Nat->Ru,∀i,i<len->(∀j,j<3->w.cell? ((⟨b,off,spot⟩:Addr).add (i*3+j))=(dL (s i))[j]?)/\(s i).nm.size<=maxLen/\(s i).rx.size<=maxLen:=
  ⟨fun i=>if h:i<len then Classical.choose (hp i h) else ⟨⟨#[]⟩,0,⟨#[]⟩⟩,fun i h=>by
   have:=choose_spec (hp i h)
   simp only[dif_pos h]
   exact this⟩
 obtain⟨s,hs⟩:=ea;refine⟨(range len).map s,by simp,?_,hl,hm,fun j hj=>by simp at hj⊢;exact (hs j hj).2⟩;intro h0;simp at h0;have ml:spot=none:=by
  have:=(hs 0 h0).1 0 (by omega);simpa [Addr.add,dL] using cell?_spot this
 subst ml;have dI:∀i,i<len->∀j,j<3->w.cell? ⟨b,off+(i*3+j),none⟩=(dL (s i))[j]?:=fun i hi j hj=>by
  have:=(hs i hi).1 j hj;rw[DH] at this;exact this
 refine⟨b,off,rfl,?_,fun j hj=>?_⟩
 ·have:=dI 0 h0 0 (by omega);by_cases hb:b<w.heap.size
  ·exact hb
  simp[cell?,dL,Array.getElem?_eq_none (by omega:w.heap.size<=b)] at this
 simp at hj;have h1:=dI (j / 3) (by omega) (j % 3) (by omega);rw[show j / 3*3+j % 3=j by omega] at h1;rw[h1];have h2:=MA ((range len).map s) (j / 3) (by simp;omega) (j % 3) (by omega);rw[show j / 3*3+j % 3=j by omega] at h2;rw[h2];simp
theorem MN{H:Type}{enc:TypeId × Value->H}{base:Nat}{len:Nat}{x:DataW H × List MemPlace}{α:Type}
  (k:Nat) (hk:0<k) (t e:TypeId) (Po:prog.underlying t=some (.slice e)) (hce:prog.cellsOf e=k) (f:α->List Value) (hf:∀p,(f p).length=k) (Q:α->Prop) (d:α)
  (el:∀fuel cs x,cs.length=k->trod enc prog w base spare held fuel e cs=some x->∃p,cs=f p/\Q p)
  (h:trod enc prog w base spare held fuel t [.slice a len cap]=some x):
  ∃l:List α,l.length=len/\(0<l.length->∃g off,a=some ⟨g,off,none⟩/\g<w.heap.size/\∀i (h:i<l.length),Q l[i]/\∀j,j<k->w.cell? ⟨g,off+i*k+j,none⟩=(f l[i])[j]?)/\len<=cap/\cap<=maxLen/\∀i (h:i<l.length),Q l[i]:=by
 rcases open_slice Po h with ⟨fI,_⟩|⟨ad,l,c,m,n,D,Pl,fI,hb,hl,hm,iD,hx,hi⟩
 ·simp at fI;obtain⟨rfl,rfl,rfl⟩:=fI;exact⟨[],rfl,fun h=>absurd h (by simp),le_refl _,by unfold maxLen;omega,fun j h=>absurd h (by simp)⟩
 simp at fI;obtain⟨rfl,rfl,rfl⟩:=fI;have hp:∀i,i<len->∃p:α,(∀j,j<k->w.cell? (ad.add (i*k+j))=(f p)[j]?)/\Q p:=by
  intro i MY;obtain⟨fY,hc,ht⟩:=hi i (by rw[iD];split <;> omega);rw[hce] at hc;obtain⟨_,fq,eu⟩:=cells?_some hc;obtain⟨p,rfl,hs⟩:=el _ _ _ fq ht;refine⟨p,fun j hj=>?_,hs⟩;rw[<-Go.Deep.add_add];exact eu j hj
 obtain⟨b,off,spot⟩:=ad;have ea:∃s:Nat->α,∀i,i<len->(∀j,j<k->w.cell? ((⟨b,off,spot⟩:Addr).add (i*k+j))=(f (s i))[j]?)/\Q (s i):=
  ⟨fun i=>if h:i<len then Classical.choose (hp i h) else d,fun i h=>by
   have:=choose_spec (hp i h)
   simp only[dif_pos h]
   exact this⟩
 obtain⟨s,hs⟩:=ea;have hQ:∀i (h:i<((range len).map s).length),Q ((range len).map s)[i]:=fun i hi=>by
  simp at hi⊢;exact (hs i hi).2
 refine⟨(range len).map s,by simp,?_,hl,hm,hQ⟩;intro h0;simp at h0;obtain⟨v,hv⟩:∃v,(f (s 0))[0]?=some v:=⟨_,List.getElem?_eq_getElem (by rw[hf];exact hk)⟩
 have ml:spot=none:=by
  have h1:=(hs 0 h0).1 0 hk;rw[hv] at h1;have h2:=cell?_spot h1;simpa [Addr.add] using h2
 subst ml;have dI:∀i,i<len->∀j,j<k->w.cell? ⟨b,off+(i*k+j),none⟩=(f (s i))[j]?:=fun i hi j hj=>by
  have:=(hs i hi).1 j hj;rw[DH] at this;exact this
 refine⟨b,off,rfl,?_,fun i hi=>⟨hQ i hi,fun j hj=>?_⟩⟩
 ·have h1:=dI 0 h0 0 hk;rw[hv] at h1;by_cases hb:b<w.heap.size
  ·exact hb
  simp[cell?,Array.getElem?_eq_none (by omega:w.heap.size<=b)] at h1
 simp at hi;have h1:=dI i hi j hj;rw[Nat.add_assoc,h1];simp
section
variable {H : Type}{enc : TypeId × Value → H}{w : World}{base : Nat}{spare : Nat → Bool}{held : Bool}
theorem C4{t e:TypeId}(Po:prog.underlying t=some (.slice e)){x:DataW H × List MemPlace}(h:trod enc prog w base spare held fuel t [v]=some x):∃a n c,v=.slice a n c:=by
 rcases open_slice Po h with ⟨fI,_⟩|⟨ad,l,c,m,n,D,Pl,fI,_⟩
 ·simp at fI;exact⟨_,_,_,fI⟩
 simp at fI;exact⟨_,_,_,fI⟩
theorem Zn(fuel:Nat)(cs:List Value)(x:DataW H × List MemPlace)(hlen:cs.length=2)(h:trod enc prog w base spare held fuel 38 cs=some x):∃p:Sy,cs=jo p/\True:=by
 have c3:prog.cellsOf 3=1:=by kernel_rfl
 have c4:prog.cellsOf 4=1:=by kernel_rfl
 obtain⟨ys,n',KA,hy,hl,zG,hf⟩:=trod_struct underlying38 h;have f0:=hf 0 _ rfl;have f1:=hf 1 _ rfl
 match cs,hlen with
 | [v0,v1],_=>
  simp[c3,c4] at f0 f1
  match ys,zG with
  | [y0,y1],_=>
   simp at f0 f1;obtain⟨s,e0,_⟩:=trod_bool underlying4 f0;obtain⟨r,e1,_⟩:=trod_int underlying3 f1;simp at e0 e1;subst e0 e1;exact⟨⟨s,r⟩,rfl,trivial⟩
theorem WV{len:Nat}{x:DataW H × List MemPlace}(h:trod enc prog w base spare held fuel 43 [.slice a len cap]=some x):∃l:List Int,l.length=len/\fP w a l/\len<=maxLen:=by
 obtain⟨⟨g,hg⟩,h1,h2⟩:=zhV h;refine⟨(range len).map g,by simp,?_,le_trans h1 h2⟩;intro h0;rw[show ((range len).map g).length=len by simp] at h0⊢;obtain⟨b,off,e,hb,hc⟩:=hg h0;exact⟨b,off,e,hb,fun j hj=>by rw[hc j hj];simp[hj]⟩
theorem zga(fuel:Nat)(cs:List Value)(x:DataW H × List MemPlace)(hlen:cs.length=6)(h:trod enc prog w base spare held fuel 47 cs=some x):∃p:gK,cs=l7 p/\(p.At w/\p.bG.size<=maxLen/\p.body.length<=maxLen/\p.hints.length<=maxLen):=by
 have c3:prog.cellsOf 3=1:=by kernel_rfl
 have c4:prog.cellsOf 4=1:=by kernel_rfl
 have c5:prog.cellsOf 9=1:=by kernel_rfl
 have c6:prog.cellsOf 43=1:=by kernel_rfl
 have c7:prog.cellsOf 45=1:=by kernel_rfl
 have c8:prog.cellsOf 38=2:=by kernel_rfl
 obtain⟨ys,n',KA,hy,hl,zG,hf⟩:=trod_struct underlying47 h;have f0:=hf 0 _ rfl;have f1:=hf 1 _ rfl;have f2:=hf 2 _ rfl;have f3:=hf 3 _ rfl;have f4:=hf 4 _ rfl;have f5:=hf 5 _ rfl
 match cs,hlen with
 | [v0,v1,v2,v3,v4,v5],_=>
  simp[c3,c4,c5,c6,c7] at f0 f1 f2 f3 f4 f5
  match ys,zG with
  | [y0,y1,y2,y3,y4,y5],_=>
   simp at f0 f1 f2 f3 f4 f5;obtain⟨r,e0,_⟩:=trod_int underlying3 f0;obtain⟨s,e1,_,hs⟩:=trod_string underlying9 f1;obtain⟨a2,n2,k2,rfl⟩:=C4 underlying45 f2;obtain⟨b,e3,_⟩:=trod_bool underlying4 f3;obtain⟨p,e4,_⟩:=trod_int underlying3 f4;obtain⟨a5,n5,k5,rfl⟩:=C4 underlying43 f5;obtain⟨B,hB,sB,l2,m2,_⟩:=MN 2 (by decide) _ _ underlying45 c8 jo (fun _=>rfl) (fun _=>True) ⟨false,0⟩ Zn f2;obtain⟨Z,hZ,sZ,m5⟩:=WV f5;simp at e0 e1 e3 e4;subst e0 e1 e3 e4 hB hZ;refine⟨⟨r,s,a2,k2,B,b,p,a5,k5,Z⟩,rfl,⟨fun h0=>?_,sZ⟩,hs,le_trans l2 m2,m5⟩;obtain⟨g,off,e,hg,hc⟩:=sB h0;exact⟨g,off,e,hg,fun i hi=>(hc i hi).2⟩
theorem zfb(fuel:Nat)(cs:List Value)(x:DataW H × List MemPlace)(hlen:cs.length=2)(h:trod enc prog w base spare held fuel 58 cs=some x):∃p:qe,cs=lT p/\(fP w p.ar p.rules/\p.rules.length<=maxLen):=by
 have c3:prog.cellsOf 3=1:=by kernel_rfl
 have c6:prog.cellsOf 43=1:=by kernel_rfl
 obtain⟨ys,n',KA,hy,hl,zG,hf⟩:=trod_struct underlying58 h;have f0:=hf 0 _ rfl;have f1:=hf 1 _ rfl
 match cs,hlen with
 | [v0,v1],_=>
  simp[c3,c6] at f0 f1
  match ys,zG with
  | [y0,y1],_=>
   simp at f0 f1;obtain⟨r,e0,_⟩:=trod_int underlying3 f0;obtain⟨a5,n5,k5,rfl⟩:=C4 underlying43 f1;obtain⟨Z,hZ,sZ,m5⟩:=WV f1;simp at e0;subst e0 hZ;exact⟨⟨r,a5,k5,Z⟩,rfl,sZ,m5⟩
theorem zi4(fuel:Nat)(cs:List Value)(x:DataW H × List MemPlace)(hlen:cs.length=5)(h:trod enc prog w base spare held fuel 27 cs=some x):∃G:Gr,cs=G.cells/\G.At w/\G.lb maxLen/\G.R.length<=G.cR/\G.S.length<=G.cS/\G.P.length<=G.cP/\G.L.length<=G.cL:=by
 have c3:prog.cellsOf 3=1:=by kernel_rfl
 have c4:prog.cellsOf 22=1:=by kernel_rfl
 have c5:prog.cellsOf 23=1:=by kernel_rfl
 have c6:prog.cellsOf 24=1:=by kernel_rfl
 have c7:prog.cellsOf 25=1:=by kernel_rfl
 have c8:prog.cellsOf 47=6:=by kernel_rfl
 have c9:prog.cellsOf 58=2:=by kernel_rfl
 obtain⟨ys,n',KA,hy,hl,zG,hf⟩:=trod_struct underlying27 h;have f0:=hf 0 _ rfl;have f1:=hf 1 _ rfl;have f2:=hf 2 _ rfl;have f3:=hf 3 _ rfl;have f4:=hf 4 _ rfl
 match cs,hlen with
 | [v0,v1,v2,v3,v4],_=>
  simp[c3,c4,c5,c6,c7] at f0 f1 f2 f3 f4
  match ys,zG with
  | [y0,y1,y2,y3,y4],_=>
   simp at f0 f1 f2 f3 f4;obtain⟨a0,n0,k0,rfl⟩:=C4 underlying22 f0;obtain⟨a1,n1,k1,rfl⟩:=C4 underlying23 f1;obtain⟨a2,n2,k2,rfl⟩:=C4 underlying24 f2;obtain⟨a3,n3,k3,rfl⟩:=C4 underlying25 f3;obtain⟨st,e4,_⟩:=trod_int underlying3 f4;obtain⟨R,hR,sR,lR,mR,zR⟩:=Y5 f0;obtain⟨S,hS,sS,lS,mS,zS⟩:=zhW f1;obtain⟨P,hP,sP,lP,mP,zP⟩:=MN 6 (by decide) _ _ underlying24 c8 l7 (fun _=>rfl) (fun p=>p.At w/\p.bG.size<=maxLen/\p.body.length<=maxLen/\p.hints.length<=maxLen) ⟨0,⟨#[]⟩,none,0,[],false,0,none,0,[]⟩ zga f2;obtain⟨L,hL,sL,lL,mL,zL⟩:=MN 2 (by decide) _ _ underlying25 c9 lT (fun _=>rfl) (fun p=>fP w p.ar p.rules/\p.rules.length<=maxLen) ⟨0,none,0,[]⟩ zfb f3;simp at e4;subst e4 hR hS hP hL;refine⟨⟨a0,k0,R,a1,k1,S,a2,k2,P,a3,k3,L,st⟩,rfl,⟨sR,sS,fun h0=>?_,fun h0=>?_⟩,⟨le_trans lR mR,le_trans lS mS,le_trans lP mP,le_trans lL mL,zR,zS,fun i hi=>(zP i hi).2,fun i hi=>(zL i hi).2⟩,lR,lS,lP,lL⟩
   ·obtain⟨g,off,e,hg,hc⟩:=sP h0;exact⟨g,off,e,hg,fun i hi=>⟨(hc i hi).1.1,(hc i hi).2⟩⟩
   obtain⟨g,off,e,hg,hc⟩:=sL h0;exact⟨g,off,e,hg,fun i hi=>⟨(hc i hi).1.1,(hc i hi).2⟩⟩
theorem V8{b0:Nat}{r:Reach}(hk:Value.okWide prog w r b0 27 v)
  (h:∃(fuel:Nat) (x:DataW H × List MemPlace),trod enc prog w base spare held fuel 27 v.cells.toList=some x):
  ∃G:Gr,v=G.val/\G.At w/\G.lb maxLen/\G.R.length<=G.cR/\G.S.length<=G.cS/\G.P.length<=G.cP/\G.L.length<=G.cL:=by
 obtain⟨xs,rfl,dp⟩:∃xs:Array Value,v=.agg xs/\xs.size=prog.cellsOf 27:=by
  simp only[Value.okWide,underlying27] at hk;obtain⟨cs,h1,h2,_⟩:=hk;exact⟨cs,h1,h2⟩
 rw[show prog.cellsOf 27=5 by kernel_rfl] at dp;obtain⟨fuel,x,hf⟩:=h;have fI:(Value.agg xs).cells.toList=xs.toList:=rfl;rw[fI] at hf;obtain⟨G,h1,h2⟩:=zi4 _ _ _ (by simpa using dp) hf;exact⟨G,by unfold Gr.val;congr 1;exact Array.toList_inj.1 (by rw[h1]),h2⟩
end
def lg(f:Nat->Int):Nat->Int
 | 0=>0
 | n+1=>if lg f n≠0 then lg f n else f n
def Ao(f:Nat->Int):Nat->Nat
 | 0=>0
 | n+1=>if lg f n≠0 then Ao f n else n
theorem Dl{n:Nat}(h:∀j,j<n->f j=0):lg f n=0:=by
 induction n with
 | zero=>rfl
 | succ n ih=>
  have h1:=ih (fun j hj=>h j (by omega));simp[lg,h1,h n (by omega)]
theorem JA{n:Nat}(hk:k<n)(h:∀j,j<k->f j=0)(hf:f k≠0):lg f n=f k/\Ao f n=k:=by
 induction n with
 | zero=>omega
 | succ n ih=>
  rcases Nat.lt_or_ge k n with h1|h1
  ·obtain⟨e1,e2⟩:=ih h1;simp[lg,Ao,e1,hf,e2]
  obtain rfl:k=n:=by omega
  have:=Dl h;simp[lg,Ao,this]
def AK(G:Gr)(i:Nat):Ru:=G.R.getD i ⟨⟨#[]⟩,0,⟨#[]⟩⟩
def pN(G:Gr)(i:Nat):ByteArray:=G.S.getD i ⟨#[]⟩
def l8(G:Gr)(i:Nat):gK:=G.P.getD i ⟨0,⟨#[]⟩,none,0,[],false,0,none,0,[]⟩
def ga(G:Gr)(i:Nat):qe:=G.L.getD i ⟨0,none,0,[]⟩
theorem Fq{G:Gr}(h:i<G.R.length):AK G i=G.R[i]:=by simp[AK,h]
theorem xD{G:Gr}(h:i<G.S.length):pN G i=G.S[i]:=by simp[pN,h]
theorem EV{G:Gr}(h:i<G.P.length):l8 G i=G.P[i]:=by simp[l8,h]
theorem Qd{G:Gr}(h:i<G.L.length):ga G i=G.L[i]:=by simp[ga,h]
def iT(G:Gr)(n:Int):Bool:=decide (0<=n/\n<G.R.length) && (AK G n.toNat).k == 0
def wh(G:Gr)(n:Int):Bool:=decide (0<=n/\n<G.S.length)
def fQ(G:Gr)(x:Sy):Bool:=if x.s then wh G x.n else iT G x.n
def gp(p:gK):Bool:=match p.body with
 | [a,b,c]=>!a.s && b.s && b.n == p.bF && !c.s
 | _=>false
def kG(G:Gr)(x:Sy):ByteArray:=if x.n<0 then ⟨#[63]⟩ else if x.s=true/\x.n<G.S.length then pN G x.n.toNat else if x.s=false/\x.n<G.R.length then (AK G x.n.toNat).nm else ⟨#[63]⟩
noncomputable def je (G:Gr) (i:Nat):Int:=open Classical in
 if bU (pN G i)=false then 8 else if (∃k,k<i/\pN G k=pN G i) then 9 else if (∃k,k<G.R.length/\(AK G k).nm=pN G i) then 9 else 0
noncomputable def iO (G:Gr) (i:Nat):Int:=open Classical in
 let p:=l8 G i
 if p.bF<0\/(G.S.length:Int)<=p.bF then 11 else if bU p.bG=false then 8 else if 12<p.body.length then 6 else if p.hints.length≠p.body.length-1 then 1
 else if (∃k,k<i/\(l8 G k).bG=p.bG) then 9 else if (∃x∈p.body,fQ G x=false) then 11 else if (∃z∈p.hints,z<0\/3<z) then 1
 else if p.prec≠-1/\iT G p.prec=false then 11 else if p.par=true/\gp p=false then 15 else 0
def oz(G:Gr)(i k:Nat):Prop:=∃a b,(a<i\/a=i/\b<k)/\b<(ga G a).rules.length/\(ga G a).rules.getD b 0=(ga G i).rules.getD k 0
noncomputable def wY (G:Gr) (i k:Nat):Int:=open Classical in
 if iT G ((ga G i).rules.getD k 0)=false then 11 else if oz G i k then 9 else 0
noncomputable def pQ (G:Gr) (i:Nat):Int:=if (ga G i).side<1\/3<(ga G i).side\/(ga G i).rules.length=0\/60<=i then 1 else lg (wY G i) (ga G i).rules.length
noncomputable def gm (G:Gr):Int × Int × Int:=
 if 300<G.S.length then (6,2,G.S.length) else if lg (je G) G.S.length≠0 then (lg (je G) G.S.length,2,Ao (je G) G.S.length)
 else if 200<G.P.length then (6,3,G.P.length) else if lg (iO G) G.P.length≠0 then (lg (iO G) G.P.length,3,Ao (iO G) G.P.length)
 else if lg (pQ G) G.L.length≠0 then (lg (pQ G) G.L.length,4,Ao (pQ G) G.L.length)
 else if G.st<0\/(G.S.length:Int)<=G.st then (11,5,0) else (0,0,0)
def dd(x:gK):Int × ByteArray × List Sy × Bool × Int × List Int:=(x.bF,x.bG,x.body,x.par,x.prec,x.hints)
def dK(x:qe):Int × List Int:=(x.side,x.rules)
def dT(a b:Gr):Prop:=a.R=b.R/\a.S=b.S/\a.P.map dd=b.P.map dd/\a.L.map dK=b.L.map dK/\a.st=b.st
structure fo (w:World)(b:Nat)(G:Gr):Prop where
 c0:w.cell? ⟨b,0,none⟩=some (.slice G.aR G.R.length G.cR)
 c1:w.cell? ⟨b,1,none⟩=some (.slice G.aS G.S.length G.cS)
 c2:w.cell? ⟨b,2,none⟩=some (.slice G.aP G.P.length G.cP)
 c3:w.cell? ⟨b,3,none⟩=some (.slice G.aL G.L.length G.cL)
 c4:w.cell? ⟨b,4,none⟩=some (.int .i64 G.st)
 lt:b<w.heap.size
theorem fo.below{b:Nat}{G:Gr}(h:fo w b G)(k:Below w.heap.size w w'):fo w' b G:=
 ⟨(k.cell (p:=⟨b,0,none⟩) h.lt).trans h.c0,(k.cell (p:=⟨b,1,none⟩) h.lt).trans h.c1,(k.cell (p:=⟨b,2,none⟩) h.lt).trans h.c2,(k.cell (p:=⟨b,3,none⟩) h.lt).trans h.c3,(k.cell (p:=⟨b,4,none⟩) h.lt).trans h.c4,by have:=k.size;have:=h.lt;omega⟩
theorem p6(w:World)(cs:Array Value)(t:TypeId)(i:Nat)(v:Value)(h:cs[i]?=some v):(w.alloc (.cells cs t)).cell? ⟨w.heap.size,i,none⟩=some v:=by
 have hb:(w.alloc (.cells cs t)).heap[w.heap.size]?=some (.cells cs t (0,0)):=heap_alloc_new w _;rw[cell_of_row _ _ i cs t (0,0) hb];exact h
theorem fo.new(w:World)(G:Gr)(t:TypeId):fo (w.alloc (.cells #[.slice G.aR G.R.length G.cR,.slice G.aS G.S.length G.cS,.slice G.aP G.P.length G.cP,.slice G.aL G.L.length G.cL,.int .i64 G.st] t)) w.heap.size G:=
 ⟨p6 _ _ _ _ _ rfl,p6 _ _ _ _ _ rfl,p6 _ _ _ _ _ rfl,p6 _ _ _ _ _ rfl,p6 _ _ _ _ _ rfl,by simp⟩
structure sW (w:World)(b:Nat)(x:Sy):Prop where
 c0:w.cell? ⟨b,0,none⟩=some (.bool x.s)
 c1:w.cell? ⟨b,1,none⟩=some (.int .i64 x.n)
 lt:b<w.heap.size
theorem sW.below{b:Nat}{x:Sy}(h:sW w b x)(k:Below w.heap.size w w'):sW w' b x:=
 ⟨(k.cell (p:=⟨b,0,none⟩) h.lt).trans h.c0,(k.cell (p:=⟨b,1,none⟩) h.lt).trans h.c1,by have:=k.size;have:=h.lt;omega⟩
theorem sW.new(w:World)(x:Sy)(t:TypeId):sW (w.alloc (.cells #[.bool x.s,.int .i64 x.n] t)) w.heap.size x:=⟨p6 _ _ _ _ _ rfl,p6 _ _ _ _ _ rfl,by simp⟩
structure lF (w:World)(b:Nat)(x:gK):Prop where
 c0:w.cell? ⟨b,0,none⟩=some (.int .i64 x.bF)
 c1:w.cell? ⟨b,1,none⟩=some (.string x.bG)
 c2:w.cell? ⟨b,2,none⟩=some (.slice x.ab x.body.length x.cb)
 c3:w.cell? ⟨b,3,none⟩=some (.bool x.par)
 c4:w.cell? ⟨b,4,none⟩=some (.int .i64 x.prec)
 c5:w.cell? ⟨b,5,none⟩=some (.slice x.ah x.hints.length x.ch)
 lt:b<w.heap.size
theorem lF.below{b:Nat}{x:gK}(h:lF w b x)(k:Below w.heap.size w w'):lF w' b x:=
 ⟨(k.cell (p:=⟨b,0,none⟩) h.lt).trans h.c0,(k.cell (p:=⟨b,1,none⟩) h.lt).trans h.c1,(k.cell (p:=⟨b,2,none⟩) h.lt).trans h.c2,(k.cell (p:=⟨b,3,none⟩) h.lt).trans h.c3,(k.cell (p:=⟨b,4,none⟩) h.lt).trans h.c4,(k.cell (p:=⟨b,5,none⟩) h.lt).trans h.c5,by have:=k.size;have:=h.lt;omega⟩
theorem lF.new(w:World)(x:gK)(t:TypeId):lF (w.alloc (.cells #[.int .i64 x.bF,.string x.bG,.slice x.ab x.body.length x.cb,.bool x.par,.int .i64 x.prec,.slice x.ah x.hints.length x.ch] t)) w.heap.size x:=
 ⟨p6 _ _ _ _ _ rfl,p6 _ _ _ _ _ rfl,p6 _ _ _ _ _ rfl,p6 _ _ _ _ _ rfl,p6 _ _ _ _ _ rfl,p6 _ _ _ _ _ rfl,by simp⟩
structure wM (w:World)(b:Nat)(x:qe):Prop where
 c0:w.cell? ⟨b,0,none⟩=some (.int .i64 x.side)
 c1:w.cell? ⟨b,1,none⟩=some (.slice x.ar x.rules.length x.cr)
 lt:b<w.heap.size
theorem wM.below{b:Nat}{x:qe}(h:wM w b x)(k:Below w.heap.size w w'):wM w' b x:=
 ⟨(k.cell (p:=⟨b,0,none⟩) h.lt).trans h.c0,(k.cell (p:=⟨b,1,none⟩) h.lt).trans h.c1,by have:=k.size;have:=h.lt;omega⟩
theorem wM.new(w:World)(x:qe)(t:TypeId):wM (w.alloc (.cells #[.int .i64 x.side,.slice x.ar x.rules.length x.cr] t)) w.heap.size x:=⟨p6 _ _ _ _ _ rfl,p6 _ _ _ _ _ rfl,by simp⟩
open Go.Maps Go.WideElems Go.ChangeMaps Go.MapKept
def mB(b:Bool)(w:World)(e:Ending)(w':World):Prop:=e=.returned (.bool b)/\Below w.heap.size w w'
theorem QQ{G:Gr}:wh G n=(decide (0<=n) && decide (n<G.S.length)):=by
 unfold wh;by_cases h:0<=n <;> by_cases h':n<G.S.length <;> simp[h,h']
theorem zk3{G:Gr}(h:¬(0<=n/\n<G.R.length)):iT G n=false:=by simp only[iT,h];rfl
theorem ZG{G:Gr}(h:k<G.R.length):iT G (k:Int)=(G.R[k].k == 0):=by
 unfold iT;rw[Int.toNat_natCast,Fq h];have:(0<=(k:Int)/\(k:Int)<G.R.length):=⟨by omega,by omega⟩
 simp[this]
theorem dy(w:World){w1:World}(h:Below w.heap.size w w1)(n:Nat):Below w.heap.size w (w1.drewN n):=h.trans ⟨rfl,rfl,rfl,le_refl _,fun _ _=>rfl⟩
theorem Ae{α:Type}{l t:List α}(h1:i<l.length)(h2:i<t.length)(h:l[i]≠t[i]):l≠t:=fun e=>h (by subst e;rfl)
theorem A6{α:Type}{l t:List α}(hl:l.length=t.length)(h:∀j (h1:j<l.length) (h2:j<t.length),l[j]=t[j]):l=t:=List.ext_getElem hl h
theorem XW(l t:List Int)(n c m d:Nat)(a b:Option Addr)(hn:l.length=n)(hm:t.length=m)(uM:n<=9223372036854775807)(rm:m<=9223372036854775807)(w:World)(h1:fP w a l)(h2:fP w b t):
  Calls prog 52 #[.slice a n c,.slice b m d] w (mB (decide (l=t)) w):=by
 have H:=hid (Zz h1 (Zz h2 (Zz hn hm)));have HP:Hid (∀w',Below w.heap.size w w'->(l≠t->mB (decide (l=t)) w (.returned (.bool false)) w')/\(l=t->mB (decide (l=t)) w (.returned (.bool true)) w')):=fun w' hb=>⟨fun h=>⟨by simp[h],hb⟩,fun h=>⟨by simp[h],hb⟩⟩
 clear h1 h2 hn hm;go_enter func52,ntmps52;by_cases ez:n=m
 ·subst ez;go_wp2;go_loopw [5] (fun v wr=>∃k:Nat,v=.int .i64 k/\k<=n/\Hid (Below w.heap.size w wr/\∀j (h1:j<l.length) (h2:j<t.length),j<k->l[j]=t[j])) (fun v _=>n-(intOf v).toNat)
  ·exact⟨0,rfl,zero_le _,Below.refl _ _,fun j _ _ h=>absurd h (by omega)⟩
  obtain⟨k,rfl,hk,HX⟩:=hrel;by_cases av:k<n
  ·have cQ:k<l.length:=(by rw[H.out.2.2.1];exact av);have eY:k<t.length:=(by rw[H.out.2.2.2];exact av);obtain⟨g1,o1,rfl,_,y1⟩:=(H.out.1.below HX.out.1).get k cQ;obtain⟨g2,o2,rfl,_,y2⟩:=(H.out.2.1.below HX.out.1).get k eY;have HN:Hid ((l[k]=t[k]->∀j (h1:j<l.length) (h2:j<t.length),j<k+1->l[j]=t[j])/\(l[k]≠t[k]->l≠t)):=by
    refine⟨fun h j hj hj2 h3=>?_,fun h=>Ae cQ eY h⟩;by_cases e:j=k
    ·subst e;exact h
    exact HX.out.2 j hj hj2 (by omega)
   have i2:(k:Int)<n:=(by omega);generalize l[k]=u at y1 HN;generalize t[k]=v at y2 HN;have HB:=hid HX.out.1;by_cases qY:u=v
   ·have HZ:=hid (HN.out.1 qY);have IK:(u != v)=false:=(by simp[qY]);clear HN cQ eY qY HX;go_upto_region 6 with fail;go_quiet (fail);go_wp2;go_roundw
    ·exact⟨k+1,by go_num,by omega,dy w HB.out _,HZ.out⟩
    simp[intOf];omega
   have HZ:=hid (HN.out.2 qY);have IK:(u != v)=true:=(by simp[qY]);clear HN cQ eY qY HX;go_upto_region 6 with fail;go_quiet (fail);go_wp2;go_ret;exact (HP.out _ (dy w HB.out _)).1 HZ.out
  obtain rfl:k=n:=by omega
  have HZ:Hid (l=t):=A6 (by rw[H.out.2.2.1,H.out.2.2.2]) (fun j h1 h2=>HX.out.2 j h1 h2 (by rw[<-H.out.2.2.1];exact h1));have HB:=hid HX.out.1;go_wp2;go_ret;exact (HP.out _ HB.out).2 HZ.out
 have i1:((n:Int) != (m:Int))=true:=by simp;omega
 have HZ:Hid (l≠t):=fun e=>ez (by rw[<-H.out.2.2.1,<-H.out.2.2.2,e])
 go_wp2;go_ret;exact (HP.out _ (Below.refl _ _)).1 HZ.out
theorem ui{x y:gK}(h:x.bF≠y.bF\/x.bG≠y.bG\/x.par≠y.par\/x.prec≠y.prec\/x.body≠y.body\/x.hints≠y.hints):dd x≠dd y:=fun e=>by
 simp only[dd,Prod.mk.injEq] at e
 obtain⟨e1,e2,e3,e4,e5,e6⟩:=e
 rcases h with h|h|h|h|h|h <;> contradiction
theorem Tg{x y:gK}(h1:x.bF=y.bF)(h2:x.bG=y.bG)(h3:x.par=y.par)(h4:x.prec=y.prec)(h5:x.body=y.body)(h6:x.hints=y.hints):dd x=dd y:=by simp[dd,h1,h2,h3,h4,h5,h6]
theorem zet(x y:gK)(w:World)(hx:x.At w)(hy:y.At w)(uR:x.body.length<=9223372036854775807)(FX:x.hints.length<=9223372036854775807)(D9:y.body.length<=9223372036854775807)(F6:y.hints.length<=9223372036854775807):
  Calls prog 51 #[x.val,y.val] w (fun e w'=>∃b,(b=true↔dd x=dd y)/\mB b w e w'):=by
 show Calls prog 51 #[.agg #[.int .i64 x.bF,.string x.bG,.slice x.ab x.body.length x.cb,.bool x.par,.int .i64 x.prec,.slice x.ah x.hints.length x.ch],.agg #[.int .i64 y.bF,.string y.bG,.slice y.ab y.body.length y.cb,.bool y.par,.int .i64 y.prec,.slice y.ah y.hints.length y.ch]] w _;have HA:=hid (Zz hx hy);have X4:=hid (fun W (k:Below w.heap.size w W)=>XW x.hints y.hints x.hints.length x.ch y.hints.length y.ch x.ah y.ah rfl rfl FX F6 W (hx.h.below k) (hy.h.below k));have HP:Hid (∀w',Below w.heap.size w w'->(dd x≠dd y->∃b,(b=true↔dd x=dd y)/\mB b w (.returned (.bool false)) w')/\(dd x=dd y->∃b,(b=true↔dd x=dd y)/\mB b w (.returned (.bool true)) w')):=fun w' hb=>⟨fun h=>⟨false,by simp[h],rfl,hb⟩,fun h=>⟨true,by simp[h],rfl,hb⟩⟩
 clear hx hy FX F6;obtain⟨w2,bK⟩:∃w2,((w.alloc (.cells #[.int .i64 x.bF,.string x.bG,.slice x.ab x.body.length x.cb,.bool x.par,.int .i64 x.prec,.slice x.ah x.hints.length x.ch] 47)).alloc (.cells #[.int .i64 y.bF,.string y.bG,.slice y.ab y.body.length y.cb,.bool y.par,.int .i64 y.prec,.slice y.ah y.hints.length y.ch] 47))=w2:=⟨_,rfl⟩
 have H:Hid (lF w2 w.heap.size x/\lF w2 (w.heap.size+1) y/\Below w.heap.size w w2):=by
  rw[<-bK];have k0:=al w (.cells #[.int .i64 x.bF,.string x.bG,.slice x.ab x.body.length x.cb,.bool x.par,.int .i64 x.prec,.slice x.ah x.hints.length x.ch] 47);have k1:=al (w.alloc (.cells #[.int .i64 x.bF,.string x.bG,.slice x.ab x.body.length x.cb,.bool x.par,.int .i64 x.prec,.slice x.ah x.hints.length x.ch] 47)) (.cells #[.int .i64 y.bF,.string y.bG,.slice y.ab y.body.length y.cb,.bool y.par,.int .i64 y.prec,.slice y.ah y.hints.length y.ch] 47);exact⟨((lF.new w x 47).below k1),(by have h9:=(lF.new (w.alloc (.cells #[.int .i64 x.bF,.string x.bG,.slice x.ab x.body.length x.cb,.bool x.par,.int .i64 x.prec,.slice x.ah x.hints.length x.ch] 47)) y 47);simpa using h9),(k0.trans (k1.mono k0.size))⟩
 go_enter func51,ntmps51;go_upto_region 1 with fail
 try rw[bK]
 clear bK;have HB:=hid H.out.2.2;have HX:=hid (Zz H.out.1 H.out.2.1);have gq:=hid (X4.out w2 HB.out);obtain⟨b,hb⟩:∃b,w.heap.size=b:=⟨_,rfl⟩
 rw[hb] at HX;rw[hb];have Hb:=hid hb;clear hb H;have c0:=HX.out.1.c0;have c1:=HX.out.1.c1;have c2:=HX.out.1.c2;have c3:=HX.out.1.c3;have c4:=HX.out.1.c4;have c5:=HX.out.1.c5;have d0:=HX.out.2.c0;have d1:=HX.out.2.c1;have d2:=HX.out.2.c2;have d3:=HX.out.2.c3;have d4:=HX.out.2.c4;have d5:=HX.out.2.c5;by_cases e0:x.bF=y.bF
 ·have j0:(x.bF != y.bF)=false:=by simp[e0]
  by_cases e1:x.bG=y.bG
  ·have j1:(x.bG.toList == y.bG.toList)=true:=(by simp[e1]);have Zm:(x.bG.toList != y.bG.toList)=false:=(by simp[e1]);by_cases e3:x.par=y.par
   ·have j3:(x.par == y.par)=true:=(by simp[e3]);have ZY:(x.par != y.par)=false:=(by simp[e3]);by_cases e4:x.prec=y.prec
    ·have j4:(x.prec != y.prec)=false:=(by simp[e4]);by_cases e2:x.body.length=y.body.length
     ·have j2:((x.body.length:Int) != (y.body.length:Int))=false:=(by simp[e2]);have HE:=hid (Zz e0 (Zz e1 (Zz e3 (Zz e4 e2))));clear e0 e1 e3 e4;by_cases e5:x.hints=y.hints
      ·have d5:=decide_eq_true e5;rw[d5] at gq;have xH:=hid e5;clear e5;obtain⟨n,hn⟩:∃n,x.body.length=n:=(⟨_,rfl⟩);have HN:=hid (Zz hn (e2.symm.trans hn));rw[<-e2,hn] at d2 j2;rw[hn] at c2 uR;clear e2 hn;go_wp2_with (go_at_call 52;refine gq.out.mono ?_;rintro e w3 ⟨rfl,b3⟩;have LS:=hid (Zz (HX.out.1.below b3) (Zz (HX.out.2.below b3) (HB.out.trans (b3.mono HB.out.size))));clear b3);go_loopw [5] (fun v wr=>∃k:Nat,v=.int .i64 k/\k<=n/\Hid (lF wr b x/\lF wr (b+1) y/\Below w.heap.size w wr/\∀j (h1:j<x.body.length) (h2:j<y.body.length),j<k->x.body[j]=y.body[j])) (fun v _=>n-(intOf v).toNat)
       ·exact⟨0,rfl,zero_le _,LS.out.1,LS.out.2.1,LS.out.2.2,fun j _ _ h=>absurd h (by omega)⟩
       clear LS c0 c1 c2 c3 c4 c5 d0 d1 d2 d3 d4 d5;obtain⟨k,rfl,hk,HR⟩:=hrel;have c2:=HR.out.1.c2;have d2:=HR.out.2.1.c2;rw[HN.out.1] at c2;rw[HN.out.2] at d2;by_cases av:k<n
       ·have i2:(k:Int)<n:=(by omega);have cQ:k<x.body.length:=(by rw[HN.out.1];exact av);have eY:k<y.body.length:=(by rw[HN.out.2];exact av);obtain⟨g1,o1,e1,_,y0,y1⟩:=(HA.out.1.b.below HR.out.2.2.1).get k cQ;obtain⟨g2,o2,e2,_,z0,z1⟩:=(HA.out.2.b.below HR.out.2.2.1).get k eY;have gJ:Hid ((x.body[k]=y.body[k]->∀j (h1:j<x.body.length) (h2:j<y.body.length),j<k+1->x.body[j]=y.body[j])/\(x.body[k]≠y.body[k]->dd x≠dd y)):=by
         refine⟨fun h j hj hj2 h3=>?_,fun h=>ui (inr (inr (inr (inr (inl (Ae cQ eY h))))))⟩;by_cases e:j=k
         ·subst e;exact h
         exact HR.out.2.2.2 j hj hj2 (by omega)
        generalize x.body[k]=u at y0 y1 gJ;generalize y.body[k]=v at z0 z1 gJ;obtain⟨us,un⟩:=u;obtain⟨vs,vn⟩:=v;dsimp only at y0 y1 z0 z1;rw[e1] at c2;rw[e2] at d2;have HG:Hid (∀q,lF (wr.drewN q) b x/\lF (wr.drewN q) (b+1) y/\Below w.heap.size w (wr.drewN q)):=(fun q=>⟨HR.out.1.below (dy wr (Below.refl _ _) q),HR.out.2.1.below (dy wr (Below.refl _ _) q),dy w HR.out.2.2.1 q⟩);clear HR cQ eY e1 e2;by_cases f0:us=vs
        ·subst f0;by_cases f1:un=vn
         ·subst f1;have HZ:=hid (gJ.out.1 rfl);clear gJ;go_upto_region 6 with fail;go_quiet (fail);go_wp2;go_roundw
          ·exact⟨k+1,by go_num,by omega,(HG.out _).1,(HG.out _).2.1,(HG.out _).2.2,HZ.out⟩
          simp[intOf];omega
         have HZ:=hid (gJ.out.2 (fun e=>f1 (by injection e)));have j9:(un == vn)=false:=(by simp[f1]);clear gJ f1;go_upto_region 6 with fail;go_quiet (fail);go_wp2;go_ret;exact (HP.out _ (HG.out _).2.2).1 HZ.out
        have HZ:=hid (gJ.out.2 (fun e=>f0 (by injection e)));have j9:(us == vs)=false:=(by simp[f0]);clear gJ f0;go_upto_region 6 with fail;go_quiet (fail);go_wp2;go_ret;exact (HP.out _ (HG.out _).2.2).1 HZ.out
       obtain rfl:k=n:=(by omega);have HZ:Hid (dd x=dd y):=Tg HE.out.1 HE.out.2.1 HE.out.2.2.1 HE.out.2.2.2.1 (A6 HE.out.2.2.2.2 (fun j h1 h2=>HR.out.2.2.2 j h1 h2 (by rw[<-HN.out.1];exact h1))) xH.out;have kE:=hid HR.out.2.2.1;go_wp2;go_ret;exact (HP.out _ kE.out).2 HZ.out
      have d5:=decide_eq_false e5;rw[d5] at gq;have HZ:=hid (ui (x:=x) (y:=y) (inr (inr (inr (inr (inr e5))))));clear e5 e2;go_wp2_with (go_at_call 52;refine gq.out.mono ?_;rintro e w3 ⟨rfl,b3⟩;have kE:=hid (HB.out.trans (b3.mono HB.out.size));clear b3);go_ret;exact (HP.out _ kE.out).1 HZ.out
     have j2:((x.body.length:Int) != (y.body.length:Int))=true:=(by simp;omega);have HZ:=hid (ui (x:=x) (y:=y) (inr (inr (inr (inr (inl (fun e=>e2 (by rw[e]))))))));clear e0 e1 e2 e3 e4;go_wp2;go_ret;exact (HP.out _ HB.out).1 HZ.out
    have j4:(x.prec != y.prec)=true:=(by simp[e4]);have HZ:=hid (ui (x:=x) (y:=y) (inr (inr (inr (inl e4)))));clear e0 e1 e3 e4;go_wp2;go_ret;exact (HP.out _ HB.out).1 HZ.out
   have j3:(x.par == y.par)=false:=(by simp[e3]);have ZY:(x.par != y.par)=true:=(by simp[e3]);have HZ:=hid (ui (x:=x) (y:=y) (inr (inr (inl e3))));clear e0 e1 e3;go_wp2;go_ret;exact (HP.out _ HB.out).1 HZ.out
  have q1:=xP x.bG y.bG;have j1:(x.bG.toList == y.bG.toList)=false:=by rw[q1];simp[e1]
  have Zm:(x.bG.toList != y.bG.toList)=true:=by simp[bne,j1]
  have HZ:=hid (ui (x:=x) (y:=y) (inr (inl e1)));clear e0 e1 q1;go_wp2;go_ret;exact (HP.out _ HB.out).1 HZ.out
 have j0:(x.bF != y.bF)=true:=by simp[e0]
 have HZ:=hid (ui (x:=x) (y:=y) (inl e0));clear e0;go_wp2;go_ret;exact (HP.out _ HB.out).1 HZ.out
def yT(l:List Ru)(k:Nat):Prop:=∀j (h:j<l.length),j<k->l[j].rx.size<=40/\l[j].nm.size<=100
def MJ(l:List Ru)(w:World)(e:Ending)(w':World):Prop:=∃bo:Bool,e=.returned (.bool bo)/\(bo=true->l.length<=20/\yT l l.length)/\Below w.heap.size w w'
theorem zi6(n c:Nat)(a:Option Addr)(l:List Ru)(hl:l.length=n)(hn:n<=9223372036854775807)(w:World)(h1:jl w a l):
  Calls prog 25 #[.slice a n c] w (MJ l w):=by
 have H:=hid (Zz h1 hl);clear h1 hl;go_enter func25,ntmps25;by_cases h20:20<n
 ·have i1:(20:Int)<n:=by omega
  go_wp2;go_ret;exact⟨false,rfl,fun h=>(by cases h),Below.refl _ _⟩
 have i1:¬((20:Int)<n):=by omega
 go_wp2;go_loopw [3] (fun v wr=>∃k:Nat,v=.int .i64 k/\k<=n/\wr=w/\Hid (yT l k)) (fun v _=>n-(intOf v).toNat)
 ·exact⟨0,rfl,zero_le _,rfl,fun j _ h=>by omega⟩
 obtain⟨k,rfl,hk,rfl,HK⟩:=hrel;by_cases av:k<n
 ·have hkl:k<l.length:=by rw[H.out.2];exact av
  obtain⟨g,o,rfl,_,x0,x1,x2⟩:=H.out.1.get k hkl;have i2:(k:Int)<n:=by omega
  have HS:Hid (l[k].rx.size<=40->l[k].nm.size<=100->yT l (k+1)):=fun h1 h2 j hj hjk=>by
   by_cases e:j=k
   ·subst e;exact⟨h1,h2⟩
   exact HK.out j hj (by omega)
  clear x1;generalize l[k].nm=nm at x0 HS;generalize l[k].rx=rx at x2 HS;by_cases h40:40<rx.size
  ·have i3:decide ((40:Int)<(rx.size:Int))=true:=(by simp;omega);go_wp2;go_ret;exact⟨false,rfl,fun h=>(by cases h),Below.refl _ _⟩
  have i3:decide ((40:Int)<(rx.size:Int))=false:=by simp;omega
  by_cases ZS:100<nm.size
  ·have i4:((100:Int)<(nm.size:Int)):=(by omega);go_wp2;go_ret;exact⟨false,rfl,fun h=>(by cases h),Below.refl _ _⟩
  have i4:¬((100:Int)<(nm.size:Int)):=by omega
  have HZ:=hid (HS.out (by omega) (by omega));go_wp2;go_roundw
  ·exact⟨k+1,by go_num,by omega,trivial,HZ.out⟩
  simp[intOf];omega
 obtain rfl:k=n:=by omega
 have i2:¬((k:Int)<k):=by omega
 go_wp2;go_ret;exact⟨true,rfl,fun _=>⟨by rw[H.out.2];omega,by rw[H.out.2];exact HK.out⟩,Below.refl _ _⟩
def zn(s:ByteArray)(w:World)(e:Ending)(w':World):Prop:=e=.returned (.string s)/\Below w.heap.size w w'
theorem UT{G:Gr}{x:Sy}(h:x.n<0):kG G x=⟨#[63]⟩:=if_pos h
theorem YW{G:Gr}(h:k<G.S.length):kG G ⟨true,(k:Int)⟩=G.S[k]:=by
 unfold kG;rw[if_neg (by show ¬((k:Int)<0);omega),if_pos ⟨rfl,by show (k:Int)<_;omega⟩];show pN G (Int.toNat (k:Int))=_;rw[Int.toNat_natCast,xD h]
theorem zo9{G:Gr}(h:k<G.R.length):kG G ⟨false,(k:Int)⟩=G.R[k].nm:=by
 unfold kG;rw[if_neg (by show ¬((k:Int)<0);omega),if_neg (fun h=>by cases h.1),if_pos ⟨rfl,by show (k:Int)<_;omega⟩];show (AK G (Int.toNat (k:Int))).nm=_;rw[Int.toNat_natCast,Fq h]
theorem Z8{G:Gr}(h:¬n<G.S.length):kG G ⟨true,n⟩=⟨#[63]⟩:=by
 unfold kG;split
 ·rfl
 rw[if_neg (fun k=>h k.2),if_neg (fun k=>by cases k.1)]
theorem zol{G:Gr}(h:¬n<G.R.length):kG G ⟨false,n⟩=⟨#[63]⟩:=by
 unfold kG;split
 ·rfl
 rw[if_neg (fun k=>by cases k.1),if_neg (fun k=>h k.2)]
def px(s:ByteArray):List ByteArray->Nat
 | []=>0
 | a :: l=>if a=s then 0 else px s l+1
theorem QG{s:ByteArray}(hk:k<l.length)(h:l[k]=s)(hn:∀j (h:j<l.length),j<k->l[j]≠s):px s l=k:=by
 induction l generalizing k with
 | nil=>simp at hk
 | cons a l ih=>
  cases k with
  | zero=>simp at h;simp[px,h]
  | succ k=>
   have h0:=hn 0 (by simp) (by omega);simp at h0 h hk;simp only[px,if_neg h0];rw[ih hk h (fun j hj hjk=>by have:=hn (j+1) (by simp;omega) (by omega);simpa using this)]
theorem L3{s:ByteArray}(hn:∀j (h:j<l.length),l[j]≠s):px s l=l.length:=by
 induction l with
 | nil=>rfl
 | cons a l ih=>
  have h0:=hn 0 (by simp);simp at h0;simp only[px,if_neg h0,List.length_cons];rw[ih (fun j hj=>by have:=hn (j+1) (by simp;omega);simpa using this)]
def xG(l:List ByteArray)(s:ByteArray):Int:=if px s l<l.length then ((px s l:Nat):Int) else -1
theorem zom{s:ByteArray}(hk:k<l.length)(h:l[k]=s)(hn:∀j (h:j<l.length),j<k->l[j]≠s):xG l s=(k:Int):=by
 unfold xG;rw[QG hk h hn,if_pos hk]
theorem zon{s:ByteArray}(hn:∀j (h:j<l.length),l[j]≠s):xG l s=-1:=by
 unfold xG;rw[L3 hn,if_neg (by omega)]
end Go.Proofs.YtiijebameffenaaGreat
