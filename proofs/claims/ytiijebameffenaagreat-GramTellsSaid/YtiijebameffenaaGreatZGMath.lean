import Derived.Test.YtiijebameffenaaGreatZPPrint
import Derived.Test.YtiijebameffenaaGreatZRuM
import Derived.Deep.Cut
set_option linter.all false
set_option maxHeartbeats 2000000
set_option maxRecDepth 100000
open Go.Lib (hid)
namespace Go.Proofs.YtiijebameffenaaGreat
open Go.RowKit Go.Proofs.Tryz
open Nat (le_refl le_trans)
open DataW (trod trod_bool trod_int trod_string trod_struct)
open World (cell? cell?_spot cells?_some)
open Classical (choose_spec)
open List (range)
open Value (okWide)
variable {a:Option Addr}{b0 cap fuel i k:Nat}{f:Nat->Int}{held:Bool}{l:List ByteArray}{n:Int}{r:Reach}{spare:Nat->Bool}{v:Value}{w w':World}
def uG(w:World)(a:Option Addr)(l:List ByteArray):Prop:=0<l.length->∃g off,a=some ⟨g,off,none⟩/\g<w.heap.size/\∀j (h:j<l.length),w.cell? ⟨g,off+j,none⟩=some (.string l[j])
theorem uG.below(h:uG w a l)(k:Below w.heap.size w w'):uG w' a l:=by
 intro h0;obtain⟨g,off,e,hg,hc⟩:=h h0;have:=k.size;exact⟨g,off,e,by omega,fun j hj=>(k.cell (p:=⟨g,off+j,none⟩) hg).trans (hc j hj)⟩
theorem GK(a b:ByteArray):(a.toList == b.toList)=decide (a=b):=by
 by_cases h:a=b
 ·subst h;simp
 have:¬a.toList=b.toList:=by
  intro e;rw[ByteArray.toList_eq,ByteArray.toList_eq] at e;exact h (KO e)
 simp[h,this]
structure Sy where
 s:Bool
 n:Int
def de(x:Sy):List Value:=[.bool x.s,.int .i64 x.n]
def qv(w:World)(a:Option Addr)(l:List Sy):Prop:=0<l.length->∃g off,a=some ⟨g,off,none⟩/\g<w.heap.size/\∀i (h:i<l.length) j,j<2->w.cell? ⟨g,off+i*2+j,none⟩=(de l[i])[j]?
theorem qv.below{l:List Sy}(h:qv w a l)(k:Below w.heap.size w w'):qv w' a l:=by
 intro h0;obtain⟨g,off,rfl,hg,hc⟩:=h h0;have:=k.size;exact⟨g,off,rfl,by omega,fun i hi j hj=>(k.cell (p:=⟨g,off+i*2+j,none⟩) hg).trans (hc i hi j hj)⟩
theorem qv.get{l:List Sy}(h:qv w a l)(k:Nat)(hk:k<l.length):
  ∃g off,a=some ⟨g,off,none⟩/\g<w.heap.size/\w.cell? ⟨g,off+k*2,none⟩=some (.bool l[k].s)/\w.cell? ⟨g,off+k*2+1,none⟩=some (.int .i64 l[k].n):=by
 obtain⟨g,off,rfl,hg,hc⟩:=h (by omega);exact⟨g,off,rfl,hg,hc k hk 0 (by omega),hc k hk 1 (by omega)⟩
def eI(w:World)(a:Option Addr)(l:List Int):Prop:=kQ w a l.length (fun i=>l.getD i 0)
theorem eI.below{l:List Int}(h:eI w a l)(k:Below w.heap.size w w'):eI w' a l:=kQ.below h k
theorem eI.get{l:List Int}(h:eI w a l)(k:Nat)(hk:k<l.length):
  ∃g off,a=some ⟨g,off,none⟩/\g<w.heap.size/\w.cell? ⟨g,off+k,none⟩=some (.int .i64 l[k]):=by
 obtain⟨g,off,rfl,hg,hc⟩:=h (by omega);exact⟨g,off,rfl,hg,by rw[hc k hk];simp[hk]⟩
structure iw where
 bB:Int
 cZ:ByteArray
 ab:Option Addr
 cb:Nat
 body:List Sy
 par:Bool
 prec:Int
 ah:Option Addr
 ch:Nat
 hints:List Int
def mc(x:iw):List Value:=[.int .i64 x.bB,.string x.cZ,.slice x.ab x.body.length x.cb,.bool x.par,.int .i64 x.prec,.slice x.ah x.hints.length x.ch]
def iw.val(x:iw):Value:=.agg (mc x).toArray
structure iw.At (w:World)(x:iw):Prop where
 b:qv w x.ab x.body
 h:eI w x.ah x.hints
theorem iw.At.below{x:iw}(h:x.At w)(k:Below w.heap.size w w'):x.At w':=⟨h.b.below k,h.h.below k⟩
def rZ(w:World)(a:Option Addr)(l:List iw):Prop:=0<l.length->∃g off,a=some ⟨g,off,none⟩/\g<w.heap.size/\∀i (h:i<l.length),l[i].At w/\∀j,j<6->w.cell? ⟨g,off+i*6+j,none⟩=(mc l[i])[j]?
theorem rZ.below{l:List iw}(h:rZ w a l)(k:Below w.heap.size w w'):rZ w' a l:=by
 intro h0;obtain⟨g,off,rfl,hg,hc⟩:=h h0;have:=k.size;exact⟨g,off,rfl,by omega,fun i hi=>⟨(hc i hi).1.below k,fun j hj=>(k.cell (p:=⟨g,off+i*6+j,none⟩) hg).trans ((hc i hi).2 j hj)⟩⟩
theorem rZ.get{l:List iw}(h:rZ w a l)(k:Nat)(hk:k<l.length):
  ∃g off,a=some ⟨g,off,none⟩/\g<w.heap.size/\l[k].At w/\w.cell? ⟨g,off+k*6,none⟩=some (.int .i64 l[k].bB)/\w.cell? ⟨g,off+k*6+1,none⟩=some (.string l[k].cZ)/\
   w.cell? ⟨g,off+k*6+2,none⟩=some (.slice l[k].ab l[k].body.length l[k].cb)/\w.cell? ⟨g,off+k*6+3,none⟩=some (.bool l[k].par)/\
   w.cell? ⟨g,off+k*6+4,none⟩=some (.int .i64 l[k].prec)/\w.cell? ⟨g,off+k*6+5,none⟩=some (.slice l[k].ah l[k].hints.length l[k].ch):=by
 obtain⟨g,off,rfl,hg,hc⟩:=h (by omega);obtain⟨h1,h2⟩:=hc k hk;exact⟨g,off,rfl,hg,h1,h2 0 (by omega),h2 1 (by omega),h2 2 (by omega),h2 3 (by omega),h2 4 (by omega),h2 5 (by omega)⟩
structure y7 where
 side:Int
 ar:Option Addr
 cr:Nat
 rules:List Int
def pt(x:y7):List Value:=[.int .i64 x.side,.slice x.ar x.rules.length x.cr]
def tG(w:World)(a:Option Addr)(l:List y7):Prop:=0<l.length->∃g off,a=some ⟨g,off,none⟩/\g<w.heap.size/\∀i (h:i<l.length),eI w l[i].ar l[i].rules/\∀j,j<2->w.cell? ⟨g,off+i*2+j,none⟩=(pt l[i])[j]?
theorem tG.below{l:List y7}(h:tG w a l)(k:Below w.heap.size w w'):tG w' a l:=by
 intro h0;obtain⟨g,off,rfl,hg,hc⟩:=h h0;have:=k.size;exact⟨g,off,rfl,by omega,fun i hi=>⟨(hc i hi).1.below k,fun j hj=>(k.cell (p:=⟨g,off+i*2+j,none⟩) hg).trans ((hc i hi).2 j hj)⟩⟩
theorem tG.get{l:List y7}(h:tG w a l)(k:Nat)(hk:k<l.length):
  ∃g off,a=some ⟨g,off,none⟩/\g<w.heap.size/\eI w l[k].ar l[k].rules/\w.cell? ⟨g,off+k*2,none⟩=some (.int .i64 l[k].side)/\w.cell? ⟨g,off+k*2+1,none⟩=some (.slice l[k].ar l[k].rules.length l[k].cr):=by
 obtain⟨g,off,rfl,hg,hc⟩:=h (by omega);obtain⟨h1,h2⟩:=hc k hk;exact⟨g,off,rfl,hg,h1,h2 0 (by omega),h2 1 (by omega)⟩
structure Gr where
 aR:Option Addr
 cR:Nat
 R:List Ru
 aS:Option Addr
 cS:Nat
 S:List ByteArray
 aP:Option Addr
 cP:Nat
 P:List iw
 aL:Option Addr
 cL:Nat
 L:List y7
 st:Int
def Gr.cells(G:Gr):List Value:=[.slice G.aR G.R.length G.cR,.slice G.aS G.S.length G.cS,.slice G.aP G.P.length G.cP,.slice G.aL G.L.length G.cL,.int .i64 G.st]
def Gr.val(G:Gr):Value:=.agg G.cells.toArray
structure Gr.At (w:World)(G:Gr):Prop where
 r:ki w G.aR G.R
 s:uG w G.aS G.S
 p:rZ w G.aP G.P
 l:tG w G.aL G.L
theorem Gr.At.below{G:Gr}(h:G.At w)(k:Below w.heap.size w w'):G.At w':=⟨h.r.below k,h.s.below k,h.p.below k,h.l.below k⟩
structure Gr.na (m:Nat)(G:Gr):Prop where
 r:G.R.length<=m
 s:G.S.length<=m
 p:G.P.length<=m
 l:G.L.length<=m
 rs:∀i (h:i<G.R.length),G.R[i].nm.size<=m/\G.R[i].rx.size<=m
 ss:∀i (h:i<G.S.length),G.S[i].size<=m
 ps:∀i (h:i<G.P.length),G.P[i].cZ.size<=m/\G.P[i].body.length<=m/\G.P[i].hints.length<=m
 ls:∀i (h:i<G.L.length),G.L[i].rules.length<=m
theorem Gr.na.mono{m n:Nat}{G:Gr}(h:G.na m)(k:m<=n):G.na n:=
 ⟨le_trans h.r k,le_trans h.s k,le_trans h.p k,le_trans h.l k,fun i hi=>⟨le_trans (h.rs i hi).1 k,le_trans (h.rs i hi).2 k⟩,fun i hi=>le_trans (h.ss i hi) k,fun i hi=>⟨le_trans (h.ps i hi).1 k,le_trans (h.ps i hi).2.1 k,le_trans (h.ps i hi).2.2 k⟩,fun i hi=>le_trans (h.ls i hi) k⟩
open Go.ChangeShapes Go.WideShapes Go.ChangeAt Go.Deep
theorem Ee(b o j:Nat):(⟨b,o,none⟩:Addr).add j=⟨b,o+j,none⟩:=by unfold Addr.add;split <;> simp_all
theorem zh5{H:Type}{enc:TypeId × Value->H}{base:Nat}{len:Nat}{x:DataW H × List MemPlace}
  (h:trod enc prog w base spare held fuel 43 [.slice a len cap]=some x):(∃g:Nat->Int,kQ w a len g)/\len<=cap/\cap<=maxLen:=by
 rcases open_slice underlying43 h with ⟨fa,_⟩|⟨ad,l,c,m,n,D,Pl,fa,hb,hl,hm,iK,hx,hi⟩
 ·simp at fa;obtain⟨rfl,rfl,rfl⟩:=fa;exact⟨⟨fun _=>0,fun h=>absurd h (by omega)⟩,le_refl _,by unfold maxLen;omega⟩
 simp at fa;obtain⟨rfl,rfl,rfl⟩:=fa;have h1:prog.cellsOf 3=1:=by kernel_rfl
 have hp:∀i,i<len->∃p:Int,w.cell? (ad.add i)=some (.int .i64 p):=by
  intro i Po;obtain⟨gm,hc,ht⟩:=hi i (by rw[iK];split <;> omega);rw[h1] at hc;obtain⟨_,fk,ep⟩:=cells?_some hc;obtain⟨b,e,_⟩:=trod_int underlying3 ht;have h2:=ep 0 (by omega);rw[Go.Deep.add_add,e] at h2;exact⟨b,by simpa using h2⟩
 obtain⟨b,off,spot⟩:=ad;obtain⟨G,hs⟩:∃G:Nat->Int,∀i,i<len->w.cell? ((⟨b,off,spot⟩:Addr).add i)=some (.int .i64 (G i)):=
  ⟨fun i=>if h:i<len then Classical.choose (hp i h) else 0,fun i h=>by
   have:=choose_spec (hp i h)
   simp only[dif_pos h]
   exact this⟩
 refine⟨⟨G,fun h0=>?_⟩,hl,hm⟩;have mm:spot=none:=by
  have:=hs 0 h0;simpa [Addr.add] using cell?_spot this
 subst mm;refine⟨b,off,rfl,?_,fun j hj=>?_⟩
 ·have:=hs 0 h0;by_cases hb:b<w.heap.size
  ·exact hb
  rw[Ee] at this;simp[cell?,Array.getElem?_eq_none (by omega:w.heap.size<=b)] at this
 have:=hs j hj;rwa [Ee] at this
theorem zh6{H:Type}{enc:TypeId × Value->H}{base:Nat}{len:Nat}{x:DataW H × List MemPlace}
  (h:trod enc prog w base spare held fuel 23 [.slice a len cap]=some x):∃l:List ByteArray,l.length=len/\uG w a l/\len<=cap/\cap<=maxLen/\∀j (h:j<l.length),l[j].size<=maxLen:=by
 rcases open_slice underlying23 h with ⟨fa,_⟩|⟨ad,l,c,m,n,D,Pl,fa,hb,hl,hm,iK,hx,hi⟩
 ·simp at fa;obtain⟨rfl,rfl,rfl⟩:=fa;exact⟨[],rfl,fun h=>absurd h (by simp),le_refl _,by unfold maxLen;omega,fun j h=>absurd h (by simp)⟩
 simp at fa;obtain⟨rfl,rfl,rfl⟩:=fa;have h1:prog.cellsOf 9=1:=by kernel_rfl
 have hp:∀i,i<len->∃s:ByteArray,w.cell? (ad.add i)=some (.string s)/\s.size<=maxLen:=by
  intro i Po;obtain⟨gm,hc,ht⟩:=hi i (by rw[iK];split <;> omega);rw[h1] at hc;obtain⟨_,fk,ep⟩:=cells?_some hc;obtain⟨s,e,_,hs⟩:=trod_string underlying9 ht;have h2:=ep 0 (by omega);rw[Go.Deep.add_add,e] at h2;exact⟨s,by simpa using h2,hs⟩
 obtain⟨b,off,spot⟩:=ad;obtain⟨G,hs⟩:∃G:Nat->ByteArray,∀i,i<len->w.cell? ((⟨b,off,spot⟩:Addr).add i)=some (.string (G i))/\(G i).size<=maxLen:=
  ⟨fun i=>if h:i<len then Classical.choose (hp i h) else ⟨#[]⟩,fun i h=>by
   have:=choose_spec (hp i h)
   simp only[dif_pos h]
   exact this⟩
 refine⟨(range len).map G,by simp,fun h0=>?_,hl,hm,fun j hj=>by simp at hj⊢;exact (hs j hj).2⟩;simp at h0;have mm:spot=none:=by
  have:=(hs 0 h0).1;simpa [Addr.add] using cell?_spot this
 subst mm;refine⟨b,off,rfl,?_,fun j hj=>?_⟩
 ·have:=(hs 0 h0).1;by_cases hb:b<w.heap.size
  ·exact hb
  rw[Ee] at this;simp[cell?,Array.getElem?_eq_none (by omega:w.heap.size<=b)] at this
 simp at hj;have:=(hs j hj).1;rw[Ee] at this;rw[this];simp
theorem zi9{H:Type}{enc:TypeId × Value->H}{base:Nat}{cs:List Value}{x:DataW H × List MemPlace}(hlen:cs.length=3)
  (h:trod enc prog w base spare held fuel 55 cs=some x):∃p:Ru,cs=dJ p/\p.nm.size<=maxLen/\p.rx.size<=maxLen:=by
 have c3:prog.cellsOf 3=1:=by kernel_rfl
 have c4:prog.cellsOf 9=1:=by kernel_rfl
 obtain⟨ys,n',JU,hy,hl,zE,hf⟩:=trod_struct underlying55 h;have f0:=hf 0 _ rfl;have f1:=hf 1 _ rfl;have f2:=hf 2 _ rfl
 match cs,hlen with
 | [v0,v1,v2],_=>
  simp[c3,c4] at f0 f1 f2
  match ys,zE with
  | [y0,y1,y2],_=>
   simp at f0 f1 f2;obtain⟨s,e0,_,hs⟩:=trod_string underlying9 f0;obtain⟨r,e1,_⟩:=trod_int underlying3 f1;obtain⟨p,e2,_,hp⟩:=trod_string underlying9 f2;simp at e0 e1 e2;subst e0 e1 e2;exact⟨⟨s,r,p⟩,rfl,hs,hp⟩
theorem zh7{H:Type}{enc:TypeId × Value->H}{base:Nat}{len:Nat}{x:DataW H × List MemPlace}
  (h:trod enc prog w base spare held fuel 22 [.slice a len cap]=some x):∃l:List Ru,l.length=len/\ki w a l/\len<=cap/\cap<=maxLen/\∀j (h:j<l.length),l[j].nm.size<=maxLen/\l[j].rx.size<=maxLen:=by
 rcases open_slice underlying22 h with ⟨fa,_⟩|⟨ad,l,c,m,n,D,Pl,fa,hb,hl,hm,iK,hx,hi⟩
 ·simp at fa;obtain⟨rfl,rfl,rfl⟩:=fa;exact⟨[],rfl,fun h=>absurd h (by simp),le_refl _,by unfold maxLen;omega,fun j h=>absurd h (by simp)⟩
 simp at fa;obtain⟨rfl,rfl,rfl⟩:=fa;have h7:prog.cellsOf 55=3:=by kernel_rfl
 have hp:∀i,i<len->∃p:Ru,(∀j,j<3->w.cell? (ad.add (i*3+j))=(dJ p)[j]?)/\p.nm.size<=maxLen/\p.rx.size<=maxLen:=by
  intro i Po;obtain⟨gm,hc,ht⟩:=hi i (by rw[iK];split <;> omega);rw[h7] at hc;obtain⟨_,fk,ep⟩:=cells?_some hc;obtain⟨p,rfl,hs⟩:=zi9 fk ht;refine⟨p,fun j hj=>?_,hs⟩;rw[<-Go.Deep.add_add];exact ep j hj
 obtain⟨b,off,spot⟩:=ad;have dX:∃s:Nat->Ru,∀i,i<len->(∀j,j<3->w.cell? ((⟨b,off,spot⟩:Addr).add (i*3+j))=(dJ (s i))[j]?)/\(s i).nm.size<=maxLen/\(s i).rx.size<=maxLen:=
  ⟨fun i=>if h:i<len then Classical.choose (hp i h) else ⟨⟨#[]⟩,0,⟨#[]⟩⟩,fun i h=>by
   have:=choose_spec (hp i h)
   simp only[dif_pos h]
   exact this⟩
 obtain⟨s,hs⟩:=dX;refine⟨(range len).map s,by simp,?_,hl,hm,fun j hj=>by simp at hj⊢;exact (hs j hj).2⟩;intro h0;simp at h0;have mm:spot=none:=by
  have:=(hs 0 h0).1 0 (by omega);simpa [Addr.add,dJ] using cell?_spot this
 subst mm;have dF:∀i,i<len->∀j,j<3->w.cell? ⟨b,off+(i*3+j),none⟩=(dJ (s i))[j]?:=fun i hi j hj=>by
  have:=(hs i hi).1 j hj;rw[Ee] at this;exact this
 refine⟨b,off,rfl,?_,fun j hj=>?_⟩
 ·have:=dF 0 h0 0 (by omega);by_cases hb:b<w.heap.size
  ·exact hb
  simp[cell?,dJ,Array.getElem?_eq_none (by omega:w.heap.size<=b)] at this
 simp at hj;have h1:=dF (j / 3) (by omega) (j % 3) (by omega);rw[show j / 3*3+j % 3=j by omega] at h1;rw[h1];have h2:=RA ((range len).map s) (j / 3) (by simp;omega) (j % 3) (by omega);rw[show j / 3*3+j % 3=j by omega] at h2;rw[h2];simp
theorem Ob{H:Type}{enc:TypeId × Value->H}{base:Nat}{len:Nat}{x:DataW H × List MemPlace}{α:Type}
  (k:Nat) (hk:0<k) (t e:TypeId) (Nk:prog.underlying t=some (.slice e)) (JH:prog.cellsOf e=k) (f:α->List Value) (hf:∀p,(f p).length=k) (Q:α->Prop) (d:α)
  (el:∀fuel cs x,cs.length=k->trod enc prog w base spare held fuel e cs=some x->∃p,cs=f p/\Q p)
  (h:trod enc prog w base spare held fuel t [.slice a len cap]=some x):
  ∃l:List α,l.length=len/\(0<l.length->∃g off,a=some ⟨g,off,none⟩/\g<w.heap.size/\∀i (h:i<l.length),Q l[i]/\∀j,j<k->w.cell? ⟨g,off+i*k+j,none⟩=(f l[i])[j]?)/\len<=cap/\cap<=maxLen/\∀i (h:i<l.length),Q l[i]:=by
 rcases open_slice Nk h with ⟨fa,_⟩|⟨ad,l,c,m,n,D,Pl,fa,hb,hl,hm,iK,hx,hi⟩
 ·simp at fa;obtain⟨rfl,rfl,rfl⟩:=fa;exact⟨[],rfl,fun h=>absurd h (by simp),le_refl _,by unfold maxLen;omega,fun j h=>absurd h (by simp)⟩
 simp at fa;obtain⟨rfl,rfl,rfl⟩:=fa;have hp:∀i,i<len->∃p:α,(∀j,j<k->w.cell? (ad.add (i*k+j))=(f p)[j]?)/\Q p:=by
  intro i Po;obtain⟨gm,hc,ht⟩:=hi i (by rw[iK];split <;> omega);rw[JH] at hc;obtain⟨_,fk,ep⟩:=cells?_some hc;obtain⟨p,rfl,hs⟩:=el _ _ _ fk ht;refine⟨p,fun j hj=>?_,hs⟩;rw[<-Go.Deep.add_add];exact ep j hj
 obtain⟨b,off,spot⟩:=ad;have dX:∃s:Nat->α,∀i,i<len->(∀j,j<k->w.cell? ((⟨b,off,spot⟩:Addr).add (i*k+j))=(f (s i))[j]?)/\Q (s i):=
  ⟨fun i=>if h:i<len then Classical.choose (hp i h) else d,fun i h=>by
   have:=choose_spec (hp i h)
   simp only[dif_pos h]
   exact this⟩
 obtain⟨s,hs⟩:=dX;have hQ:∀i (h:i<((range len).map s).length),Q ((range len).map s)[i]:=fun i hi=>by
  simp at hi⊢;exact (hs i hi).2
 refine⟨(range len).map s,by simp,?_,hl,hm,hQ⟩;intro h0;simp at h0;obtain⟨v,hv⟩:∃v,(f (s 0))[0]?=some v:=⟨_,List.getElem?_eq_getElem (by rw[hf];exact hk)⟩
 have mm:spot=none:=by
  have h1:=(hs 0 h0).1 0 hk;rw[hv] at h1;have h2:=cell?_spot h1;simpa [Addr.add] using h2
 subst mm;have dF:∀i,i<len->∀j,j<k->w.cell? ⟨b,off+(i*k+j),none⟩=(f (s i))[j]?:=fun i hi j hj=>by
  have:=(hs i hi).1 j hj;rw[Ee] at this;exact this
 refine⟨b,off,rfl,?_,fun i hi=>⟨hQ i hi,fun j hj=>?_⟩⟩
 ·have h1:=dF 0 h0 0 hk;rw[hv] at h1;by_cases hb:b<w.heap.size
  ·exact hb
  simp[cell?,Array.getElem?_eq_none (by omega:w.heap.size<=b)] at h1
 simp at hi;have h1:=dF i hi j hj;rw[Nat.add_assoc,h1];simp
section
variable {H : Type}{enc : TypeId × Value → H}{w : World}{base : Nat}{spare : Nat → Bool}{held : Bool}
theorem Dt{t e:TypeId}(Nk:prog.underlying t=some (.slice e)){x:DataW H × List MemPlace}(h:trod enc prog w base spare held fuel t [v]=some x):∃a n c,v=.slice a n c:=by
 rcases open_slice Nk h with ⟨fa,_⟩|⟨ad,l,c,m,n,D,Pl,fa,_⟩
 ·simp at fa;exact⟨_,_,_,fa⟩
 simp at fa;exact⟨_,_,_,fa⟩
theorem Sq(fuel:Nat)(cs:List Value)(x:DataW H × List MemPlace)(hlen:cs.length=2)(h:trod enc prog w base spare held fuel 38 cs=some x):∃p:Sy,cs=de p/\True:=by
 have c3:prog.cellsOf 3=1:=by kernel_rfl
 have c4:prog.cellsOf 4=1:=by kernel_rfl
 obtain⟨ys,n',JU,hy,hl,zE,hf⟩:=trod_struct underlying38 h;have f0:=hf 0 _ rfl;have f1:=hf 1 _ rfl
 match cs,hlen with
 | [v0,v1],_=>
  simp[c3,c4] at f0 f1
  match ys,zE with
  | [y0,y1],_=>
   simp at f0 f1;obtain⟨s,e0,_⟩:=trod_bool underlying4 f0;obtain⟨r,e1,_⟩:=trod_int underlying3 f1;simp at e0 e1;subst e0 e1;exact⟨⟨s,r⟩,rfl,trivial⟩
theorem TF{len:Nat}{x:DataW H × List MemPlace}(h:trod enc prog w base spare held fuel 43 [.slice a len cap]=some x):∃l:List Int,l.length=len/\eI w a l/\len<=maxLen:=by
 obtain⟨⟨g,hg⟩,h1,h2⟩:=zh5 h;refine⟨(range len).map g,by simp,?_,le_trans h1 h2⟩;intro h0;rw[show ((range len).map g).length=len by simp] at h0⊢;obtain⟨b,off,e,hb,hc⟩:=hg h0;exact⟨b,off,e,hb,fun j hj=>by rw[hc j hj];simp[hj]⟩
theorem zge(fuel:Nat)(cs:List Value)(x:DataW H × List MemPlace)(hlen:cs.length=6)(h:trod enc prog w base spare held fuel 47 cs=some x):∃p:iw,cs=mc p/\(p.At w/\p.cZ.size<=maxLen/\p.body.length<=maxLen/\p.hints.length<=maxLen):=by
 have c3:prog.cellsOf 3=1:=by kernel_rfl
 have c4:prog.cellsOf 4=1:=by kernel_rfl
 have c5:prog.cellsOf 9=1:=by kernel_rfl
 have c6:prog.cellsOf 43=1:=by kernel_rfl
 have c7:prog.cellsOf 45=1:=by kernel_rfl
 have c8:prog.cellsOf 38=2:=by kernel_rfl
 obtain⟨ys,n',JU,hy,hl,zE,hf⟩:=trod_struct underlying47 h;have f0:=hf 0 _ rfl;have f1:=hf 1 _ rfl;have f2:=hf 2 _ rfl;have f3:=hf 3 _ rfl;have f4:=hf 4 _ rfl;have f5:=hf 5 _ rfl
 match cs,hlen with
 | [v0,v1,v2,v3,v4,v5],_=>
  simp[c3,c4,c5,c6,c7] at f0 f1 f2 f3 f4 f5
  match ys,zE with
  | [y0,y1,y2,y3,y4,y5],_=>
   simp at f0 f1 f2 f3 f4 f5;obtain⟨r,e0,_⟩:=trod_int underlying3 f0;obtain⟨s,e1,_,hs⟩:=trod_string underlying9 f1;obtain⟨a2,n2,k2,rfl⟩:=Dt underlying45 f2;obtain⟨b,e3,_⟩:=trod_bool underlying4 f3;obtain⟨p,e4,_⟩:=trod_int underlying3 f4;obtain⟨a5,n5,k5,rfl⟩:=Dt underlying43 f5;obtain⟨B,hB,sB,l2,m2,_⟩:=Ob 2 (by decide) _ _ underlying45 c8 de (fun _=>rfl) (fun _=>True) ⟨false,0⟩ Sq f2;obtain⟨Z,hZ,sZ,m5⟩:=TF f5;simp at e0 e1 e3 e4;subst e0 e1 e3 e4 hB hZ;refine⟨⟨r,s,a2,k2,B,b,p,a5,k5,Z⟩,rfl,⟨fun h0=>?_,sZ⟩,hs,le_trans l2 m2,m5⟩;obtain⟨g,off,e,hg,hc⟩:=sB h0;exact⟨g,off,e,hg,fun i hi=>(hc i hi).2⟩
theorem zfd(fuel:Nat)(cs:List Value)(x:DataW H × List MemPlace)(hlen:cs.length=2)(h:trod enc prog w base spare held fuel 58 cs=some x):∃p:y7,cs=pt p/\(eI w p.ar p.rules/\p.rules.length<=maxLen):=by
 have c3:prog.cellsOf 3=1:=by kernel_rfl
 have c6:prog.cellsOf 43=1:=by kernel_rfl
 obtain⟨ys,n',JU,hy,hl,zE,hf⟩:=trod_struct underlying58 h;have f0:=hf 0 _ rfl;have f1:=hf 1 _ rfl
 match cs,hlen with
 | [v0,v1],_=>
  simp[c3,c6] at f0 f1
  match ys,zE with
  | [y0,y1],_=>
   simp at f0 f1;obtain⟨r,e0,_⟩:=trod_int underlying3 f0;obtain⟨a5,n5,k5,rfl⟩:=Dt underlying43 f1;obtain⟨Z,hZ,sZ,m5⟩:=TF f1;simp at e0;subst e0 hZ;exact⟨⟨r,a5,k5,Z⟩,rfl,sZ,m5⟩
theorem zja(fuel:Nat)(cs:List Value)(x:DataW H × List MemPlace)(hlen:cs.length=5)(h:trod enc prog w base spare held fuel 27 cs=some x):∃G:Gr,cs=G.cells/\G.At w/\G.na maxLen/\G.R.length<=G.cR/\G.S.length<=G.cS/\G.P.length<=G.cP/\G.L.length<=G.cL:=by
 have c3:prog.cellsOf 3=1:=by kernel_rfl
 have c4:prog.cellsOf 22=1:=by kernel_rfl
 have c5:prog.cellsOf 23=1:=by kernel_rfl
 have c6:prog.cellsOf 24=1:=by kernel_rfl
 have c7:prog.cellsOf 25=1:=by kernel_rfl
 have c8:prog.cellsOf 47=6:=by kernel_rfl
 have c9:prog.cellsOf 58=2:=by kernel_rfl
 obtain⟨ys,n',JU,hy,hl,zE,hf⟩:=trod_struct underlying27 h;have f0:=hf 0 _ rfl;have f1:=hf 1 _ rfl;have f2:=hf 2 _ rfl;have f3:=hf 3 _ rfl;have f4:=hf 4 _ rfl
 match cs,hlen with
 | [v0,v1,v2,v3,v4],_=>
  simp[c3,c4,c5,c6,c7] at f0 f1 f2 f3 f4
  match ys,zE with
  | [y0,y1,y2,y3,y4],_=>
   simp at f0 f1 f2 f3 f4;obtain⟨a0,n0,k0,rfl⟩:=Dt underlying22 f0;obtain⟨a1,n1,k1,rfl⟩:=Dt underlying23 f1;obtain⟨a2,n2,k2,rfl⟩:=Dt underlying24 f2;obtain⟨a3,n3,k3,rfl⟩:=Dt underlying25 f3;obtain⟨st,e4,_⟩:=trod_int underlying3 f4;obtain⟨R,hR,sR,lR,mR,zR⟩:=zh7 f0;obtain⟨S,hS,sS,lS,mS,zS⟩:=zh6 f1;obtain⟨P,hP,sP,lP,mP,zP⟩:=Ob 6 (by decide) _ _ underlying24 c8 mc (fun _=>rfl) (fun p=>p.At w/\p.cZ.size<=maxLen/\p.body.length<=maxLen/\p.hints.length<=maxLen) ⟨0,⟨#[]⟩,none,0,[],false,0,none,0,[]⟩ zge f2;obtain⟨L,hL,sL,lL,mL,zL⟩:=Ob 2 (by decide) _ _ underlying25 c9 pt (fun _=>rfl) (fun p=>eI w p.ar p.rules/\p.rules.length<=maxLen) ⟨0,none,0,[]⟩ zfd f3;simp at e4;subst e4 hR hS hP hL;refine⟨⟨a0,k0,R,a1,k1,S,a2,k2,P,a3,k3,L,st⟩,rfl,⟨sR,sS,fun h0=>?_,fun h0=>?_⟩,⟨le_trans lR mR,le_trans lS mS,le_trans lP mP,le_trans lL mL,zR,zS,fun i hi=>(zP i hi).2,fun i hi=>(zL i hi).2⟩,lR,lS,lP,lL⟩
   ·obtain⟨g,off,e,hg,hc⟩:=sP h0;exact⟨g,off,e,hg,fun i hi=>⟨(hc i hi).1.1,(hc i hi).2⟩⟩
   obtain⟨g,off,e,hg,hc⟩:=sL h0;exact⟨g,off,e,hg,fun i hi=>⟨(hc i hi).1.1,(hc i hi).2⟩⟩
theorem zex(hk:okWide prog w r b0 27 v)
  (h:∃(fuel:Nat) (x:DataW H × List MemPlace),trod enc prog w base spare held fuel 27 v.cells.toList=some x):
  ∃G:Gr,v=G.val/\G.At w/\G.na maxLen/\G.R.length<=G.cR/\G.S.length<=G.cS/\G.P.length<=G.cP/\G.L.length<=G.cL:=by
 obtain⟨xs,rfl,da⟩:∃xs:Array Value,v=.agg xs/\xs.size=prog.cellsOf 27:=by
  simp only[okWide,underlying27] at hk;obtain⟨cs,h1,h2,_⟩:=hk;exact⟨cs,h1,h2⟩
 rw[show prog.cellsOf 27=5 by kernel_rfl] at da;obtain⟨fuel,x,hf⟩:=h;have fa:(Value.agg xs).cells.toList=xs.toList:=rfl;rw[fa] at hf;obtain⟨G,h1,h2⟩:=zja _ _ _ (by simpa using da) hf;exact⟨G,by unfold Gr.val;congr 1;exact Array.toList_inj.1 (by rw[h1]),h2⟩
theorem zfe(hk:okWide prog w r b0 38 v)
  (h:∃(fuel:Nat) (x:DataW H × List MemPlace),trod enc prog w base spare held fuel 38 v.cells.toList=some x):
  ∃y:Sy,v=.agg (de y).toArray:=by
 obtain⟨xs,rfl,da⟩:∃xs:Array Value,v=.agg xs/\xs.size=prog.cellsOf 38:=by
  simp only[okWide,underlying38] at hk;obtain⟨cs,h1,h2,_⟩:=hk;exact⟨cs,h1,h2⟩
 rw[show prog.cellsOf 38=2 by kernel_rfl] at da;obtain⟨fuel,x,hf⟩:=h;have fa:(Value.agg xs).cells.toList=xs.toList:=rfl;rw[fa] at hf;obtain⟨y,h1,_⟩:=Sq _ _ _ (by simpa using da) hf;exact⟨y,by congr 1;exact Array.toList_inj.1 (by rw[h1])⟩
end
def lA(f:Nat->Int):Nat->Int
 | 0=>0
 | n+1=>if lA f n≠0 then lA f n else f n
def Ah(f:Nat->Int):Nat->Nat
 | 0=>0
 | n+1=>if lA f n≠0 then Ah f n else n
theorem C4{n:Nat}(h:∀j,j<n->f j=0):lA f n=0:=by
 induction n with
 | zero=>rfl
 | succ n ih=>
  have h1:=ih (fun j hj=>h j (by omega));simp[lA,h1,h n (by omega)]
theorem JT{n:Nat}(hk:k<n)(h:∀j,j<k->f j=0)(hf:f k≠0):lA f n=f k/\Ah f n=k:=by
 induction n with
 | zero=>omega
 | succ n ih=>
  rcases Nat.lt_or_ge k n with h1|h1
  ·obtain⟨e1,e2⟩:=ih h1;simp[lA,Ah,e1,hf,e2]
  obtain rfl:k=n:=by omega
  have:=C4 h;simp[lA,Ah,this]
def zZ(G:Gr)(i:Nat):Ru:=G.R.getD i ⟨⟨#[]⟩,0,⟨#[]⟩⟩
def qc(G:Gr)(i:Nat):ByteArray:=G.S.getD i ⟨#[]⟩
def gj(G:Gr)(i:Nat):iw:=G.P.getD i ⟨0,⟨#[]⟩,none,0,[],false,0,none,0,[]⟩
def gp(G:Gr)(i:Nat):y7:=G.L.getD i ⟨0,none,0,[]⟩
theorem Jn{G:Gr}(h:i<G.R.length):zZ G i=G.R[i]:=by simp[zZ,h]
theorem yx{G:Gr}(h:i<G.S.length):qc G i=G.S[i]:=by simp[qc,h]
theorem qB{G:Gr}(h:i<G.P.length):gj G i=G.P[i]:=by simp[gj,h]
theorem Px{G:Gr}(h:i<G.L.length):gp G i=G.L[i]:=by simp[gp,h]
def jv(G:Gr)(n:Int):Bool:=decide (0<=n/\n<G.R.length) && (zZ G n.toNat).k == 0
def xu(G:Gr)(n:Int):Bool:=decide (0<=n/\n<G.S.length)
def dL(G:Gr)(x:Sy):Bool:=if x.s then xu G x.n else jv G x.n
def ek(p:iw):Bool:=match p.body with
 | [a,b,c]=>!a.s && b.s && b.n == p.bB && !c.s
 | _=>false
def gK(G:Gr)(x:Sy):ByteArray:=if x.n<0 then ⟨#[63]⟩ else if x.s=true/\x.n<G.S.length then qc G x.n.toNat else if x.s=false/\x.n<G.R.length then (zZ G x.n.toNat).nm else ⟨#[63]⟩
noncomputable def ju (G:Gr) (i:Nat):Int:=open Classical in
 if bW (qc G i)=false then 8 else if (∃k,k<i/\qc G k=qc G i) then 9 else if (∃k,k<G.R.length/\(zZ G k).nm=qc G i) then 9 else 0
noncomputable def je (G:Gr) (i:Nat):Int:=open Classical in
 let p:=gj G i
 if p.bB<0\/(G.S.length:Int)<=p.bB then 11 else if bW p.cZ=false then 8 else if 12<p.body.length then 6 else if p.hints.length≠p.body.length-1 then 1
 else if (∃k,k<i/\(gj G k).cZ=p.cZ) then 9 else if (∃x∈p.body,dL G x=false) then 11 else if (∃z∈p.hints,z<0\/3<z) then 1
 else if p.prec≠-1/\jv G p.prec=false then 11 else if p.par=true/\ek p=false then 15 else 0
def ov(G:Gr)(i k:Nat):Prop:=∃a b,(a<i\/a=i/\b<k)/\b<(gp G a).rules.length/\(gp G a).rules.getD b 0=(gp G i).rules.getD k 0
noncomputable def wv (G:Gr) (i k:Nat):Int:=open Classical in
 if jv G ((gp G i).rules.getD k 0)=false then 11 else if ov G i k then 9 else 0
noncomputable def pZ (G:Gr) (i:Nat):Int:=if (gp G i).side<1\/3<(gp G i).side\/(gp G i).rules.length=0\/60<=i then 1 else lA (wv G i) (gp G i).rules.length
noncomputable def gv (G:Gr):Int × Int × Int:=
 if 300<G.S.length then (6,2,G.S.length) else if lA (ju G) G.S.length≠0 then (lA (ju G) G.S.length,2,Ah (ju G) G.S.length)
 else if 200<G.P.length then (6,3,G.P.length) else if lA (je G) G.P.length≠0 then (lA (je G) G.P.length,3,Ah (je G) G.P.length)
 else if lA (pZ G) G.L.length≠0 then (lA (pZ G) G.L.length,4,Ah (pZ G) G.L.length)
 else if G.st<0\/(G.S.length:Int)<=G.st then (11,5,0) else (0,0,0)
structure eU (w:World)(b:Nat)(G:Gr):Prop where
 c0:w.cell? ⟨b,0,none⟩=some (.slice G.aR G.R.length G.cR)
 c1:w.cell? ⟨b,1,none⟩=some (.slice G.aS G.S.length G.cS)
 c2:w.cell? ⟨b,2,none⟩=some (.slice G.aP G.P.length G.cP)
 c3:w.cell? ⟨b,3,none⟩=some (.slice G.aL G.L.length G.cL)
 c4:w.cell? ⟨b,4,none⟩=some (.int .i64 G.st)
 lt:b<w.heap.size
theorem eU.below{b:Nat}{G:Gr}(h:eU w b G)(k:Below w.heap.size w w'):eU w' b G:=
 ⟨(k.cell (p:=⟨b,0,none⟩) h.lt).trans h.c0,(k.cell (p:=⟨b,1,none⟩) h.lt).trans h.c1,(k.cell (p:=⟨b,2,none⟩) h.lt).trans h.c2,(k.cell (p:=⟨b,3,none⟩) h.lt).trans h.c3,(k.cell (p:=⟨b,4,none⟩) h.lt).trans h.c4,by have:=k.size;have:=h.lt;omega⟩
theorem qy(w:World)(cs:Array Value)(t:TypeId)(i:Nat)(v:Value)(h:cs[i]?=some v):(w.alloc (.cells cs t)).cell? ⟨w.heap.size,i,none⟩=some v:=by
 have hb:(w.alloc (.cells cs t)).heap[w.heap.size]?=some (.cells cs t (0,0)):=heap_alloc_new w _;rw[cell_of_row _ _ i cs t (0,0) hb];exact h
theorem eU.new(w:World)(G:Gr)(t:TypeId):eU (w.alloc (.cells #[.slice G.aR G.R.length G.cR,.slice G.aS G.S.length G.cS,.slice G.aP G.P.length G.cP,.slice G.aL G.L.length G.cL,.int .i64 G.st] t)) w.heap.size G:=
 ⟨qy _ _ _ _ _ rfl,qy _ _ _ _ _ rfl,qy _ _ _ _ _ rfl,qy _ _ _ _ _ rfl,qy _ _ _ _ _ rfl,by simp⟩
structure kJ (w:World)(b:Nat)(x:Sy):Prop where
 c0:w.cell? ⟨b,0,none⟩=some (.bool x.s)
 c1:w.cell? ⟨b,1,none⟩=some (.int .i64 x.n)
 lt:b<w.heap.size
theorem kJ.below{b:Nat}{x:Sy}(h:kJ w b x)(k:Below w.heap.size w w'):kJ w' b x:=
 ⟨(k.cell (p:=⟨b,0,none⟩) h.lt).trans h.c0,(k.cell (p:=⟨b,1,none⟩) h.lt).trans h.c1,by have:=k.size;have:=h.lt;omega⟩
theorem kJ.new(w:World)(x:Sy)(t:TypeId):kJ (w.alloc (.cells #[.bool x.s,.int .i64 x.n] t)) w.heap.size x:=⟨qy _ _ _ _ _ rfl,qy _ _ _ _ _ rfl,by simp⟩
structure nW (w:World)(b:Nat)(x:iw):Prop where
 c0:w.cell? ⟨b,0,none⟩=some (.int .i64 x.bB)
 c1:w.cell? ⟨b,1,none⟩=some (.string x.cZ)
 c2:w.cell? ⟨b,2,none⟩=some (.slice x.ab x.body.length x.cb)
 c3:w.cell? ⟨b,3,none⟩=some (.bool x.par)
 c4:w.cell? ⟨b,4,none⟩=some (.int .i64 x.prec)
 c5:w.cell? ⟨b,5,none⟩=some (.slice x.ah x.hints.length x.ch)
 lt:b<w.heap.size
theorem nW.below{b:Nat}{x:iw}(h:nW w b x)(k:Below w.heap.size w w'):nW w' b x:=
 ⟨(k.cell (p:=⟨b,0,none⟩) h.lt).trans h.c0,(k.cell (p:=⟨b,1,none⟩) h.lt).trans h.c1,(k.cell (p:=⟨b,2,none⟩) h.lt).trans h.c2,(k.cell (p:=⟨b,3,none⟩) h.lt).trans h.c3,(k.cell (p:=⟨b,4,none⟩) h.lt).trans h.c4,(k.cell (p:=⟨b,5,none⟩) h.lt).trans h.c5,by have:=k.size;have:=h.lt;omega⟩
theorem nW.new(w:World)(x:iw)(t:TypeId):nW (w.alloc (.cells #[.int .i64 x.bB,.string x.cZ,.slice x.ab x.body.length x.cb,.bool x.par,.int .i64 x.prec,.slice x.ah x.hints.length x.ch] t)) w.heap.size x:=
 ⟨qy _ _ _ _ _ rfl,qy _ _ _ _ _ rfl,qy _ _ _ _ _ rfl,qy _ _ _ _ _ rfl,qy _ _ _ _ _ rfl,qy _ _ _ _ _ rfl,by simp⟩
structure KI (w:World)(b:Nat)(x:y7):Prop where
 c0:w.cell? ⟨b,0,none⟩=some (.int .i64 x.side)
 c1:w.cell? ⟨b,1,none⟩=some (.slice x.ar x.rules.length x.cr)
 lt:b<w.heap.size
theorem KI.new(w:World)(x:y7)(t:TypeId):KI (w.alloc (.cells #[.int .i64 x.side,.slice x.ar x.rules.length x.cr] t)) w.heap.size x:=⟨qy _ _ _ _ _ rfl,qy _ _ _ _ _ rfl,by simp⟩
open Go.Maps Go.WideElems Go.ChangeMaps Go.MapKept
def px(b:Bool)(w:World)(e:Ending)(w':World):Prop:=e=.returned (.bool b)/\Below w.heap.size w w'
theorem Mq{G:Gr}:xu G n=(decide (0<=n) && decide (n<G.S.length)):=by
 unfold xu;by_cases h:0<=n <;> by_cases h':n<G.S.length <;> simp[h,h']
theorem Oy{G:Gr}(h:¬(0<=n/\n<G.R.length)):jv G n=false:=by simp only[jv,h];rfl
theorem SD{G:Gr}(h:k<G.R.length):jv G (k:Int)=(G.R[k].k == 0):=by
 unfold jv;rw[Int.toNat_natCast,Jn h];have:(0<=(k:Int)/\(k:Int)<G.R.length):=⟨by omega,by omega⟩
 simp[this]
theorem zh8(G:Gr)(x:Sy)(w:World)(hA:G.At w)(hL:G.na 9223372036854775807):
  Calls prog 15 #[G.val,.agg (de x).toArray] w (px (dL G x) w):=by
 show Calls prog 15 #[.agg #[.slice G.aR G.R.length G.cR,.slice G.aS G.S.length G.cS,.slice G.aP G.P.length G.cP,.slice G.aL G.L.length G.cL,.int .i64 G.st],.agg #[.bool x.s,.int .i64 x.n]] w _;have HA:=hid hA;have BO:=hL.r;have uS:=hL.s;clear hA hL;obtain⟨w2,bD⟩:∃w2,((w.alloc (.cells #[.slice G.aR G.R.length G.cR,.slice G.aS G.S.length G.cS,.slice G.aP G.P.length G.cP,.slice G.aL G.L.length G.cL,.int .i64 G.st] 27)).alloc (.cells #[.bool x.s,.int .i64 x.n] 38))=w2:=⟨_,rfl⟩
 have H:Hid (eU w2 w.heap.size G/\kJ w2 (w.heap.size+1) x/\Below w.heap.size w w2):=by
  rw[<-bD];have k0:=al w (.cells #[.slice G.aR G.R.length G.cR,.slice G.aS G.S.length G.cS,.slice G.aP G.P.length G.cP,.slice G.aL G.L.length G.cL,.int .i64 G.st] 27);have k1:=al (w.alloc (.cells #[.slice G.aR G.R.length G.cR,.slice G.aS G.S.length G.cS,.slice G.aP G.P.length G.cP,.slice G.aL G.L.length G.cL,.int .i64 G.st] 27)) (.cells #[.bool x.s,.int .i64 x.n] 38);exact⟨((eU.new w G 27).below k1),(by have h9:=(kJ.new (w.alloc (.cells #[.slice G.aR G.R.length G.cR,.slice G.aS G.S.length G.cS,.slice G.aP G.P.length G.cP,.slice G.aL G.L.length G.cL,.int .i64 G.st] 27)) x 38);simpa using h9),(k0.trans (k1.mono k0.size))⟩
 go_enter func15,ntmps15;go_upto_region 1 with fail
 try rw[bD]
 clear bD;have c0:=H.out.1.c0;have c1:=H.out.1.c1;have s0:=H.out.2.1.c0;have s1:=H.out.2.1.c1;have HB:=hid H.out.2.2;obtain⟨xs,n⟩:=x;dsimp only at s0 s1;rcases xs with _|_
 ·by_cases h0:0<=n
  ·by_cases h1:n<(G.R.length:Int)
   ·obtain⟨k,rfl⟩:=Int.eq_ofNat_of_zero_le h0;have hk:k<G.R.length:=(by omega);obtain⟨g1,o1,e1,jx,x0,x1,x2⟩:=(HA.out.below HB.out).r.get k hk;have HZ:Hid (dL G ⟨false,(k:Int)⟩=(G.R[k].k == 0)):=SD hk;rw[e1] at c0;generalize G.R[k].k=q at x1 HZ;clear x0 x2 e1;go_wp2;go_ret;exact⟨by rw[HZ.out];rfl,HB.out⟩
   have HZ:Hid (dL G ⟨false,n⟩=false):=Oy (fun h=>h1 h.2);go_wp2;go_ret;exact⟨by rw[HZ.out];rfl,HB.out⟩
  have HZ:Hid (dL G ⟨false,n⟩=false):=Oy (fun h=>h0 h.1);go_wp2;go_ret;exact⟨by rw[HZ.out];rfl,HB.out⟩
 have HZ:Hid (dL G ⟨true,n⟩=(decide (0<=n) && decide (n<G.S.length))):=Mq;by_cases h0:0<=n
 ·by_cases h1:n<(G.S.length:Int)
  ·go_wp2;go_ret;exact⟨by rw[HZ.out];simp[h0,h1],HB.out⟩
  go_wp2;go_ret;exact⟨by rw[HZ.out];simp[h0,h1],HB.out⟩
 go_wp2;go_ret;exact⟨by rw[HZ.out];simp;omega,HB.out⟩
def zD(l:List Ru)(k:Nat):Prop:=∀j (h:j<l.length),j<k->l[j].rx.size<=40/\l[j].nm.size<=100
def Pq(l:List Ru)(w:World)(e:Ending)(w':World):Prop:=∃bo:Bool,e=.returned (.bool bo)/\(bo=true->l.length<=20/\zD l l.length)/\Below w.heap.size w w'
theorem zjd(n c:Nat)(a:Option Addr)(l:List Ru)(hl:l.length=n)(hn:n<=9223372036854775807)(w:World)(h1:ki w a l):
  Calls prog 25 #[.slice a n c] w (Pq l w):=by
 have H:=hid (Zz h1 hl);clear h1 hl;go_enter func25,ntmps25;by_cases h20:20<n
 ·have i1:(20:Int)<n:=by omega
  go_wp2;go_ret;exact⟨false,rfl,fun h=>(by cases h),Below.refl _ _⟩
 have i1:¬((20:Int)<n):=by omega
 go_wp2;go_loopw [3] (fun v wr=>∃k:Nat,v=.int .i64 k/\k<=n/\wr=w/\Hid (zD l k)) (fun v _=>n-(intOf v).toNat)
 ·exact⟨0,rfl,Nat.zero_le _,rfl,fun j _ h=>by omega⟩
 obtain⟨k,rfl,hk,rfl,HK⟩:=hrel;by_cases aw:k<n
 ·have hkl:k<l.length:=by rw[H.out.2];exact aw
  obtain⟨g,o,rfl,_,x0,x1,x2⟩:=H.out.1.get k hkl;have i2:(k:Int)<n:=by omega
  have HS:Hid (l[k].rx.size<=40->l[k].nm.size<=100->zD l (k+1)):=fun h1 h2 j hj hjk=>by
   by_cases e:j=k
   ·subst e;exact⟨h1,h2⟩
   exact HK.out j hj (by omega)
  clear x1;generalize l[k].nm=nm at x0 HS;generalize l[k].rx=rx at x2 HS;by_cases h40:40<rx.size
  ·have i3:decide ((40:Int)<(rx.size:Int))=true:=(by simp;omega);go_wp2;go_ret;exact⟨false,rfl,fun h=>(by cases h),Below.refl _ _⟩
  have i3:decide ((40:Int)<(rx.size:Int))=false:=by simp;omega
  by_cases Im:100<nm.size
  ·have i4:((100:Int)<(nm.size:Int)):=(by omega);go_wp2;go_ret;exact⟨false,rfl,fun h=>(by cases h),Below.refl _ _⟩
  have i4:¬((100:Int)<(nm.size:Int)):=by omega
  have HZ:=hid (HS.out (by omega) (by omega));go_wp2;go_roundw
  ·exact⟨k+1,by go_num,by omega,trivial,HZ.out⟩
  simp[intOf];omega
 obtain rfl:k=n:=by omega
 have i2:¬((k:Int)<k):=by omega
 go_wp2;go_ret;exact⟨true,rfl,fun _=>⟨by rw[H.out.2];omega,by rw[H.out.2];exact HK.out⟩,Below.refl _ _⟩
def iP(s:ByteArray)(w:World)(e:Ending)(w':World):Prop:=e=.returned (.string s)/\Below w.heap.size w w'
theorem RD{G:Gr}{x:Sy}(h:x.n<0):gK G x=⟨#[63]⟩:=if_pos h
theorem TM{G:Gr}(h:k<G.S.length):gK G ⟨true,(k:Int)⟩=G.S[k]:=by
 unfold gK;rw[if_neg (by show ¬((k:Int)<0);omega),if_pos ⟨rfl,by show (k:Int)<_;omega⟩];show qc G (Int.toNat (k:Int))=_;rw[Int.toNat_natCast,yx h]
theorem YC{G:Gr}(h:k<G.R.length):gK G ⟨false,(k:Int)⟩=G.R[k].nm:=by
 unfold gK;rw[if_neg (by show ¬((k:Int)<0);omega),if_neg (fun h=>by cases h.1),if_pos ⟨rfl,by show (k:Int)<_;omega⟩];show (zZ G (Int.toNat (k:Int))).nm=_;rw[Int.toNat_natCast,Jn h]
theorem Xt{G:Gr}(h:¬n<G.S.length):gK G ⟨true,n⟩=⟨#[63]⟩:=by
 unfold gK;split
 ·rfl
 rw[if_neg (fun k=>h k.2),if_neg (fun k=>by cases k.1)]
theorem Wu{G:Gr}(h:¬n<G.R.length):gK G ⟨false,n⟩=⟨#[63]⟩:=by
 unfold gK;split
 ·rfl
 rw[if_neg (fun k=>by cases k.1),if_neg (fun k=>h k.2)]
theorem zgg(G:Gr)(x:Sy)(w:World)(hA:G.At w)(hL:G.na 9223372036854775807):
  Calls prog 17 #[G.val,.agg (de x).toArray] w (iP (gK G x) w):=by
 show Calls prog 17 #[.agg #[.slice G.aR G.R.length G.cR,.slice G.aS G.S.length G.cS,.slice G.aP G.P.length G.cP,.slice G.aL G.L.length G.cL,.int .i64 G.st],.agg #[.bool x.s,.int .i64 x.n]] w _;have HA:=hid hA;have BO:=hL.r;have uS:=hL.s;clear hA hL;obtain⟨w2,bD⟩:∃w2,((w.alloc (.cells #[.slice G.aR G.R.length G.cR,.slice G.aS G.S.length G.cS,.slice G.aP G.P.length G.cP,.slice G.aL G.L.length G.cL,.int .i64 G.st] 27)).alloc (.cells #[.bool x.s,.int .i64 x.n] 38))=w2:=⟨_,rfl⟩
 have H:Hid (eU w2 w.heap.size G/\kJ w2 (w.heap.size+1) x/\Below w.heap.size w w2):=by
  rw[<-bD];have k0:=al w (.cells #[.slice G.aR G.R.length G.cR,.slice G.aS G.S.length G.cS,.slice G.aP G.P.length G.cP,.slice G.aL G.L.length G.cL,.int .i64 G.st] 27);have k1:=al (w.alloc (.cells #[.slice G.aR G.R.length G.cR,.slice G.aS G.S.length G.cS,.slice G.aP G.P.length G.cP,.slice G.aL G.L.length G.cL,.int .i64 G.st] 27)) (.cells #[.bool x.s,.int .i64 x.n] 38);exact⟨((eU.new w G 27).below k1),(by have h9:=(kJ.new (w.alloc (.cells #[.slice G.aR G.R.length G.cR,.slice G.aS G.S.length G.cS,.slice G.aP G.P.length G.cP,.slice G.aL G.L.length G.cL,.int .i64 G.st] 27)) x 38);simpa using h9),(k0.trans (k1.mono k0.size))⟩
 go_enter func17,ntmps17;go_upto_region 1 with fail
 try rw[bD]
 clear bD;have c0:=H.out.1.c0;have c1:=H.out.1.c1;have s0:=H.out.2.1.c0;have s1:=H.out.2.1.c1;have HB:=hid H.out.2.2;obtain⟨xs,n⟩:=x;dsimp only at s0 s1;by_cases h0:n<0
 ·have HZ:Hid (gK G ⟨xs,n⟩=⟨#[63]⟩):=RD h0;go_wp2;go_ret;exact⟨by rw[HZ.out];rfl,HB.out⟩
 obtain⟨k,rfl⟩:=Int.eq_ofNat_of_zero_le (by omega:0<=n);rcases xs with _|_
 ·by_cases h1:(k:Int)<(G.R.length:Int)
  ·have hk:k<G.R.length:=(by omega);obtain⟨g1,o1,e1,jx,x0,x1,x2⟩:=(HA.out.below HB.out).r.get k hk;have HZ:Hid (gK G ⟨false,(k:Int)⟩=G.R[k].nm):=YC hk;rw[e1] at c0;generalize G.R[k].nm=q at x0 HZ;clear x1 x2 e1;go_wp2;go_ret;exact⟨by rw[HZ.out];rfl,HB.out⟩
  have HZ:Hid (gK G ⟨false,(k:Int)⟩=⟨#[63]⟩):=Wu h1;go_wp2;go_ret;exact⟨by rw[HZ.out];rfl,HB.out⟩
 by_cases h1:(k:Int)<(G.S.length:Int)
 ·have hk:k<G.S.length:=by omega
  obtain⟨g1,o1,e1,jx,q1⟩:=(HA.out.below HB.out).s (by omega);have x1:=q1 k hk;have HZ:Hid (gK G ⟨true,(k:Int)⟩=G.S[k]):=TM hk;rw[e1] at c1;generalize G.S[k]=q at x1 HZ;clear q1 e1;go_wp2;go_ret;exact⟨by rw[HZ.out];rfl,HB.out⟩
 have HZ:Hid (gK G ⟨true,(k:Int)⟩=⟨#[63]⟩):=Xt h1;go_wp2;go_ret;exact⟨by rw[HZ.out];rfl,HB.out⟩
def pg(s:ByteArray):List ByteArray->Nat
 | []=>0
 | a :: l=>if a=s then 0 else pg s l+1
theorem Re{s:ByteArray}(hk:k<l.length)(h:l[k]=s)(hn:∀j (h:j<l.length),j<k->l[j]≠s):pg s l=k:=by
 induction l generalizing k with
 | nil=>simp at hk
 | cons a l ih=>
  cases k with
  | zero=>simp at h;simp[pg,h]
  | succ k=>
   have h0:=hn 0 (by simp) (by omega);simp at h0 h hk;simp only[pg,if_neg h0];rw[ih hk h (fun j hj hjk=>by have:=hn (j+1) (by simp;omega) (by omega);simpa using this)]
theorem Eh{s:ByteArray}(hn:∀j (h:j<l.length),l[j]≠s):pg s l=l.length:=by
 induction l with
 | nil=>rfl
 | cons a l ih=>
  have h0:=hn 0 (by simp);simp at h0;simp only[pg,if_neg h0,List.length_cons];rw[ih (fun j hj=>by have:=hn (j+1) (by simp;omega);simpa using this)]
def yk(l:List ByteArray)(s:ByteArray):Int:=if pg s l<l.length then ((pg s l:Nat):Int) else -1
theorem zop{s:ByteArray}(hk:k<l.length)(h:l[k]=s)(hn:∀j (h:j<l.length),j<k->l[j]≠s):yk l s=(k:Int):=by
 unfold yk;rw[Re hk h hn,if_pos hk]
theorem zoq{s:ByteArray}(hn:∀j (h:j<l.length),l[j]≠s):yk l s=-1:=by
 unfold yk;rw[Eh hn,if_neg (by omega)]
end Go.Proofs.YtiijebameffenaaGreat
