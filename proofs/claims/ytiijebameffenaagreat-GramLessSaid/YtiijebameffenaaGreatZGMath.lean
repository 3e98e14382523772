import Derived.Test.YtiijebameffenaaGreatZPPrint
import Derived.Test.YtiijebameffenaaGreatZRuM
import Derived.Deep.Cut
set_option linter.all false
set_option maxHeartbeats 1000000
set_option maxRecDepth 100000
open Go.Lib (hid)
namespace Go.Proofs.YtiijebameffenaaGreat
open Go.RowKit Go.Proofs.Tryz
open Nat (add_mul le_refl le_trans)
open DataW (trod trod_bool trod_int trod_string trod_struct)
open World (cell? cell?_spot cells?_some)
open Classical (choose_spec)
open List (range)
variable {a:Option Addr}{cap fuel i k n:Nat}{f:Nat->Int}{held:Bool}{l:List ByteArray}{spare:Nat->Bool}{v:Value}{w':World}
def lp(w:World)(a:Option Addr)(l:List ByteArray):Prop:=0<l.length->∃g off,a=some ⟨g,off,none⟩/\g<w.heap.size/\∀j (h:j<l.length),w.cell? ⟨g,off+j,none⟩=some (.string l[j])
theorem lp.below{w:World}(h:lp w a l)(k:Below w.heap.size w w'):lp w' a l:=by
 intro h0;obtain⟨g,off,e,hg,hc⟩:=h h0;have:=k.size;exact⟨g,off,e,by omega,fun j hj=>(k.cell (p:=⟨g,off+j,none⟩) hg).trans (hc j hj)⟩
def qY(l:List ByteArray):List Value:=l.map Value.string
theorem ZW{w:World}{B c:Nat}(hl:l.length=n)(h:w.ownsRow B 9 1 (.slice a n c) n (qY l)):lp w a l:=by
 intro h0;obtain⟨g,e,_,hg,hc⟩:=eR h (by omega);exact⟨g,0,e,hg,fun j hj=>by rw[Nat.zero_add,(hc j (by omega)).1];simp[qY,hj]⟩
theorem rP:(prog.info? 9).map (fun i=>(i.zero,i.size,i.bytes))=some (some (.string ⟨#[]⟩),1,16):=by kernel_rfl
theorem VC(a b:ByteArray):(a.toList == b.toList)=decide (a=b):=by
 by_cases h:a=b
 ·subst h;simp
 have:¬a.toList=b.toList:=by
  intro e;rw[ByteArray.toList_eq,ByteArray.toList_eq] at e;exact h (Ly e)
 simp[h,this]
theorem zlg{α:Type}(f:α->List Value)(k:Nat)(hf:∀x,(f x).length=k)(l:List α)(i:Nat)(h:i<l.length)(j:Nat)(hj:j<k):(l.flatMap f)[i*k+j]?=(f l[i])[j]?:=by
 induction l generalizing i with
 | nil=>simp at h
 | cons x l ih=>
  have hc:=hf x
  show (f x++l.flatMap f)[i*k+j]?=_
  match i,h with
  | 0,_=>
   rw[Nat.zero_mul,Nat.zero_add,List.getElem?_append_left (by omega)];rfl
  | i+1,h=>
   rw[List.getElem?_append_right (by rw[hc,add_mul];omega),hc,show (i+1)*k+j-k=i*k+j by rw[add_mul];omega,ih i (by simpa using h)];rfl
theorem zlh{α:Type}(f:α->List Value)(k:Nat)(hf:∀x,(f x).length=k)(l:List α):(l.flatMap f).length=l.length*k:=by
 induction l with
 | nil=>simp
 | cons x l ih=>rw[List.flatMap_cons,List.length_append,ih,hf,List.length_cons,add_mul];omega
structure Sy where
 s:Bool
 n:Int
def jw(x:Sy):List Value:=[.bool x.s,.int .i64 x.n]
def qw(w:World)(a:Option Addr)(l:List Sy):Prop:=0<l.length->∃g off,a=some ⟨g,off,none⟩/\g<w.heap.size/\∀i (h:i<l.length) j,j<2->w.cell? ⟨g,off+i*2+j,none⟩=(jw l[i])[j]?
theorem qw.below{w:World}{l:List Sy}(h:qw w a l)(k:Below w.heap.size w w'):qw w' a l:=by
 intro h0;obtain⟨g,off,rfl,hg,hc⟩:=h h0;have:=k.size;exact⟨g,off,rfl,by omega,fun i hi j hj=>(k.cell (p:=⟨g,off+i*2+j,none⟩) hg).trans (hc i hi j hj)⟩
theorem qw.get{w:World}{l:List Sy}(h:qw w a l)(k:Nat)(hk:k<l.length):
  ∃g off,a=some ⟨g,off,none⟩/\g<w.heap.size/\w.cell? ⟨g,off+k*2,none⟩=some (.bool l[k].s)/\w.cell? ⟨g,off+k*2+1,none⟩=some (.int .i64 l[k].n):=by
 obtain⟨g,off,rfl,hg,hc⟩:=h (by omega);exact⟨g,off,rfl,hg,hc k hk 0 (by omega),hc k hk 1 (by omega)⟩
def js(w:World)(a:Option Addr)(l:List Int):Prop:=lb w a l.length (fun i=>l.getD i 0)
theorem js.below{w:World}{l:List Int}(h:js w a l)(k:Below w.heap.size w w'):js w' a l:=lb.below h k
theorem js.get{w:World}{l:List Int}(h:js w a l)(k:Nat)(hk:k<l.length):
  ∃g off,a=some ⟨g,off,none⟩/\g<w.heap.size/\w.cell? ⟨g,off+k,none⟩=some (.int .i64 l[k]):=by
 obtain⟨g,off,rfl,hg,hc⟩:=h (by omega);exact⟨g,off,rfl,hg,by rw[hc k hk];simp[hk]⟩
structure fC where
 cj:Int
 cJ:ByteArray
 ab:Option Addr
 cb:Nat
 body:List Sy
 par:Bool
 prec:Int
 ah:Option Addr
 ch:Nat
 hints:List Int
def bI(x:fC):List Value:=[.int .i64 x.cj,.string x.cJ,.slice x.ab x.body.length x.cb,.bool x.par,.int .i64 x.prec,.slice x.ah x.hints.length x.ch]
def fC.val(x:fC):Value:=.agg (bI x).toArray
structure fC.At (w:World)(x:fC):Prop where
 b:qw w x.ab x.body
 h:js w x.ah x.hints
theorem fC.At.below{w:World}{x:fC}(h:x.At w)(k:Below w.heap.size w w'):x.At w':=⟨h.b.below k,h.h.below k⟩
def gf(w:World)(a:Option Addr)(l:List fC):Prop:=0<l.length->∃g off,a=some ⟨g,off,none⟩/\g<w.heap.size/\∀i (h:i<l.length),l[i].At w/\∀j,j<6->w.cell? ⟨g,off+i*6+j,none⟩=(bI l[i])[j]?
theorem gf.below{w:World}{l:List fC}(h:gf w a l)(k:Below w.heap.size w w'):gf w' a l:=by
 intro h0;obtain⟨g,off,rfl,hg,hc⟩:=h h0;have:=k.size;exact⟨g,off,rfl,by omega,fun i hi=>⟨(hc i hi).1.below k,fun j hj=>(k.cell (p:=⟨g,off+i*6+j,none⟩) hg).trans ((hc i hi).2 j hj)⟩⟩
theorem gf.get{w:World}{l:List fC}(h:gf w a l)(k:Nat)(hk:k<l.length):
  ∃g off,a=some ⟨g,off,none⟩/\g<w.heap.size/\l[k].At w/\w.cell? ⟨g,off+k*6,none⟩=some (.int .i64 l[k].cj)/\w.cell? ⟨g,off+k*6+1,none⟩=some (.string l[k].cJ)/\
   w.cell? ⟨g,off+k*6+2,none⟩=some (.slice l[k].ab l[k].body.length l[k].cb)/\w.cell? ⟨g,off+k*6+3,none⟩=some (.bool l[k].par)/\
   w.cell? ⟨g,off+k*6+4,none⟩=some (.int .i64 l[k].prec)/\w.cell? ⟨g,off+k*6+5,none⟩=some (.slice l[k].ah l[k].hints.length l[k].ch):=by
 obtain⟨g,off,rfl,hg,hc⟩:=h (by omega);obtain⟨h1,h2⟩:=hc k hk;exact⟨g,off,rfl,hg,h1,h2 0 (by omega),h2 1 (by omega),h2 2 (by omega),h2 3 (by omega),h2 4 (by omega),h2 5 (by omega)⟩
structure Aq where
 side:Int
 ar:Option Addr
 cr:Nat
 rules:List Int
def pQ(x:Aq):List Value:=[.int .i64 x.side,.slice x.ar x.rules.length x.cr]
def uh(w:World)(a:Option Addr)(l:List Aq):Prop:=0<l.length->∃g off,a=some ⟨g,off,none⟩/\g<w.heap.size/\∀i (h:i<l.length),js w l[i].ar l[i].rules/\∀j,j<2->w.cell? ⟨g,off+i*2+j,none⟩=(pQ l[i])[j]?
theorem uh.below{w:World}{l:List Aq}(h:uh w a l)(k:Below w.heap.size w w'):uh w' a l:=by
 intro h0;obtain⟨g,off,rfl,hg,hc⟩:=h h0;have:=k.size;exact⟨g,off,rfl,by omega,fun i hi=>⟨(hc i hi).1.below k,fun j hj=>(k.cell (p:=⟨g,off+i*2+j,none⟩) hg).trans ((hc i hi).2 j hj)⟩⟩
theorem uh.get{w:World}{l:List Aq}(h:uh w a l)(k:Nat)(hk:k<l.length):
  ∃g off,a=some ⟨g,off,none⟩/\g<w.heap.size/\js w l[k].ar l[k].rules/\w.cell? ⟨g,off+k*2,none⟩=some (.int .i64 l[k].side)/\w.cell? ⟨g,off+k*2+1,none⟩=some (.slice l[k].ar l[k].rules.length l[k].cr):=by
 obtain⟨g,off,rfl,hg,hc⟩:=h (by omega);obtain⟨h1,h2⟩:=hc k hk;exact⟨g,off,rfl,hg,h1,h2 0 (by omega),h2 1 (by omega)⟩
structure Gr where
 aR:Option Addr
 cR:Nat
 R:List Ru
 aS:Option Addr
 cS:Nat
 S:List ByteArray
 aP:Option Addr
 cP:Nat
 P:List fC
 aL:Option Addr
 cL:Nat
 L:List Aq
 st:Int
def Gr.cells(G:Gr):List Value:=[.slice G.aR G.R.length G.cR,.slice G.aS G.S.length G.cS,.slice G.aP G.P.length G.cP,.slice G.aL G.L.length G.cL,.int .i64 G.st]
def Gr.val(G:Gr):Value:=.agg G.cells.toArray
structure Gr.At (w:World)(G:Gr):Prop where
 r:ka w G.aR G.R
 s:lp w G.aS G.S
 p:gf w G.aP G.P
 l:uh w G.aL G.L
theorem Gr.At.below{w:World}{G:Gr}(h:G.At w)(k:Below w.heap.size w w'):G.At w':=⟨h.r.below k,h.s.below k,h.p.below k,h.l.below k⟩
structure Gr.mK (m:Nat)(G:Gr):Prop where
 r:G.R.length<=m
 s:G.S.length<=m
 p:G.P.length<=m
 l:G.L.length<=m
 rs:∀i (h:i<G.R.length),G.R[i].nm.size<=m/\G.R[i].rx.size<=m
 ss:∀i (h:i<G.S.length),G.S[i].size<=m
 ps:∀i (h:i<G.P.length),G.P[i].cJ.size<=m/\G.P[i].body.length<=m/\G.P[i].hints.length<=m
 ls:∀i (h:i<G.L.length),G.L[i].rules.length<=m
theorem Gr.mK.mono{m:Nat}{G:Gr}(h:G.mK m)(k:m<=n):G.mK n:=
 ⟨le_trans h.r k,le_trans h.s k,le_trans h.p k,le_trans h.l k,fun i hi=>⟨le_trans (h.rs i hi).1 k,le_trans (h.rs i hi).2 k⟩,fun i hi=>le_trans (h.ss i hi) k,fun i hi=>⟨le_trans (h.ps i hi).1 k,le_trans (h.ps i hi).2.1 k,le_trans (h.ps i hi).2.2 k⟩,fun i hi=>le_trans (h.ls i hi) k⟩
open Go.ChangeShapes Go.WideShapes Go.ChangeAt Go.Deep
theorem EA(b o j:Nat):(⟨b,o,none⟩:Addr).add j=⟨b,o+j,none⟩:=by unfold Addr.add;split <;> simp_all
theorem zh0{H:Type}{enc:TypeId × Value->H}{w:World}{base:Nat}{len:Nat}{x:DataW H × List MemPlace}
  (h:trod enc prog w base spare held fuel 43 [.slice a len cap]=some x):(∃g:Nat->Int,lb w a len g)/\len<=cap/\cap<=maxLen:=by
 rcases open_slice underlying43 h with ⟨fO,_⟩|⟨ad,l,c,m,n,D,Pl,fO,hb,hl,hm,iJ,hx,hi⟩
 ·simp at fO;obtain⟨rfl,rfl,rfl⟩:=fO;exact⟨⟨fun _=>0,fun h=>absurd h (by omega)⟩,le_refl _,by unfold maxLen;omega⟩
 simp at fO;obtain⟨rfl,rfl,rfl⟩:=fO;have h1:prog.cellsOf 3=1:=by kernel_rfl
 have hp:∀i,i<len->∃p:Int,w.cell? (ad.add i)=some (.int .i64 p):=by
  intro i M5;obtain⟨gd,hc,ht⟩:=hi i (by rw[iJ];split <;> omega);rw[h1] at hc;obtain⟨_,eK,ew⟩:=cells?_some hc;obtain⟨b,e,_⟩:=trod_int underlying3 ht;have h2:=ew 0 (by omega);rw[Go.Deep.add_add,e] at h2;exact⟨b,by simpa using h2⟩
 obtain⟨b,off,spot⟩:=ad;obtain⟨G,hs⟩:∃G:Nat->Int,∀i,i<len->w.cell? ((⟨b,off,spot⟩:Addr).add i)=some (.int .i64 (G i)):=
  ⟨fun i=>if h:i<len then Classical.choose (hp i h) else 0,fun i h=>by
   have:=choose_spec (hp i h)
   simp only[dif_pos h]
   exact this⟩
 refine⟨⟨G,fun h0=>?_⟩,hl,hm⟩;have nt:spot=none:=by
  have:=hs 0 h0;simpa [Addr.add] using cell?_spot this
 subst nt;refine⟨b,off,rfl,?_,fun j hj=>?_⟩
 ·have:=hs 0 h0;by_cases hb:b<w.heap.size
  ·exact hb
  rw[EA] at this;simp[cell?,Array.getElem?_eq_none (by omega:w.heap.size<=b)] at this
 have:=hs j hj;rwa [EA] at this
theorem zh1{H:Type}{enc:TypeId × Value->H}{w:World}{base:Nat}{len:Nat}{x:DataW H × List MemPlace}
  (h:trod enc prog w base spare held fuel 23 [.slice a len cap]=some x):∃l:List ByteArray,l.length=len/\lp w a l/\len<=cap/\cap<=maxLen/\∀j (h:j<l.length),l[j].size<=maxLen:=by
 rcases open_slice underlying23 h with ⟨fO,_⟩|⟨ad,l,c,m,n,D,Pl,fO,hb,hl,hm,iJ,hx,hi⟩
 ·simp at fO;obtain⟨rfl,rfl,rfl⟩:=fO;exact⟨[],rfl,fun h=>absurd h (by simp),le_refl _,by unfold maxLen;omega,fun j h=>absurd h (by simp)⟩
 simp at fO;obtain⟨rfl,rfl,rfl⟩:=fO;have h1:prog.cellsOf 9=1:=by kernel_rfl
 have hp:∀i,i<len->∃s:ByteArray,w.cell? (ad.add i)=some (.string s)/\s.size<=maxLen:=by
  intro i M5;obtain⟨gd,hc,ht⟩:=hi i (by rw[iJ];split <;> omega);rw[h1] at hc;obtain⟨_,eK,ew⟩:=cells?_some hc;obtain⟨s,e,_,hs⟩:=trod_string underlying9 ht;have h2:=ew 0 (by omega);rw[Go.Deep.add_add,e] at h2;exact⟨s,by simpa using h2,hs⟩
 obtain⟨b,off,spot⟩:=ad;obtain⟨G,hs⟩:∃G:Nat->ByteArray,∀i,i<len->w.cell? ((⟨b,off,spot⟩:Addr).add i)=some (.string (G i))/\(G i).size<=maxLen:=
  ⟨fun i=>if h:i<len then Classical.choose (hp i h) else ⟨#[]⟩,fun i h=>by
   have:=choose_spec (hp i h)
   simp only[dif_pos h]
   exact this⟩
 refine⟨(range len).map G,by simp,fun h0=>?_,hl,hm,fun j hj=>by simp at hj⊢;exact (hs j hj).2⟩;simp at h0;have nt:spot=none:=by
  have:=(hs 0 h0).1;simpa [Addr.add] using cell?_spot this
 subst nt;refine⟨b,off,rfl,?_,fun j hj=>?_⟩
 ·have:=(hs 0 h0).1;by_cases hb:b<w.heap.size
  ·exact hb
  rw[EA] at this;simp[cell?,Array.getElem?_eq_none (by omega:w.heap.size<=b)] at this
 simp at hj;have:=(hs j hj).1;rw[EA] at this;rw[this];simp
theorem ZI{H:Type}{enc:TypeId × Value->H}{w:World}{base:Nat}{cs:List Value}{x:DataW H × List MemPlace}(hlen:cs.length=3)
  (h:trod enc prog w base spare held fuel 55 cs=some x):∃p:Ru,cs=dI p/\p.nm.size<=maxLen/\p.rx.size<=maxLen:=by
 have c3:prog.cellsOf 3=1:=by kernel_rfl
 have c4:prog.cellsOf 9=1:=by kernel_rfl
 obtain⟨ys,n',Lp,hy,hl,zj,hf⟩:=trod_struct underlying55 h;have f0:=hf 0 _ rfl;have f1:=hf 1 _ rfl;have f2:=hf 2 _ rfl
 match cs,hlen with
 | [v0,v1,v2],_=>
  simp[c3,c4] at f0 f1 f2
  match ys,zj with
  | [y0,y1,y2],_=>
   simp at f0 f1 f2;obtain⟨s,e0,_,hs⟩:=trod_string underlying9 f0;obtain⟨r,e1,_⟩:=trod_int underlying3 f1;obtain⟨p,e2,_,hp⟩:=trod_string underlying9 f2;simp at e0 e1 e2;subst e0 e1 e2;exact⟨⟨s,r,p⟩,rfl,hs,hp⟩
theorem zh2{H:Type}{enc:TypeId × Value->H}{w:World}{base:Nat}{len:Nat}{x:DataW H × List MemPlace}
  (h:trod enc prog w base spare held fuel 22 [.slice a len cap]=some x):∃l:List Ru,l.length=len/\ka w a l/\len<=cap/\cap<=maxLen/\∀j (h:j<l.length),l[j].nm.size<=maxLen/\l[j].rx.size<=maxLen:=by
 rcases open_slice underlying22 h with ⟨fO,_⟩|⟨ad,l,c,m,n,D,Pl,fO,hb,hl,hm,iJ,hx,hi⟩
 ·simp at fO;obtain⟨rfl,rfl,rfl⟩:=fO;exact⟨[],rfl,fun h=>absurd h (by simp),le_refl _,by unfold maxLen;omega,fun j h=>absurd h (by simp)⟩
 simp at fO;obtain⟨rfl,rfl,rfl⟩:=fO;have h7:prog.cellsOf 55=3:=by kernel_rfl
 have hp:∀i,i<len->∃p:Ru,(∀j,j<3->w.cell? (ad.add (i*3+j))=(dI p)[j]?)/\p.nm.size<=maxLen/\p.rx.size<=maxLen:=by
  intro i M5;obtain⟨gd,hc,ht⟩:=hi i (by rw[iJ];split <;> omega);rw[h7] at hc;obtain⟨_,eK,ew⟩:=cells?_some hc;obtain⟨p,rfl,hs⟩:=ZI eK ht;refine⟨p,fun j hj=>?_,hs⟩;rw[<-Go.Deep.add_add];exact ew j hj
 obtain⟨b,off,spot⟩:=ad;have dU:∃s:Nat->Ru,∀i,i<len->(∀j,j<3->w.cell? ((⟨b,off,spot⟩:Addr).add (i*3+j))=(dI (s i))[j]?)/\(s i).nm.size<=maxLen/\(s i).rx.size<=maxLen:=
  ⟨fun i=>if h:i<len then Classical.choose (hp i h) else ⟨⟨#[]⟩,0,⟨#[]⟩⟩,fun i h=>by
   have:=choose_spec (hp i h)
   simp only[dif_pos h]
   exact this⟩
 obtain⟨s,hs⟩:=dU;refine⟨(range len).map s,by simp,?_,hl,hm,fun j hj=>by simp at hj⊢;exact (hs j hj).2⟩;intro h0;simp at h0;have nt:spot=none:=by
  have:=(hs 0 h0).1 0 (by omega);simpa [Addr.add,dI] using cell?_spot this
 subst nt;have dF:∀i,i<len->∀j,j<3->w.cell? ⟨b,off+(i*3+j),none⟩=(dI (s i))[j]?:=fun i hi j hj=>by
  have:=(hs i hi).1 j hj;rw[EA] at this;exact this
 refine⟨b,off,rfl,?_,fun j hj=>?_⟩
 ·have:=dF 0 h0 0 (by omega);by_cases hb:b<w.heap.size
  ·exact hb
  simp[cell?,dI,Array.getElem?_eq_none (by omega:w.heap.size<=b)] at this
 simp at hj;have h1:=dF (j / 3) (by omega) (j % 3) (by omega);rw[show j / 3*3+j % 3=j by omega] at h1;rw[h1];have h2:=OU ((range len).map s) (j / 3) (by simp;omega) (j % 3) (by omega);rw[show j / 3*3+j % 3=j by omega] at h2;rw[h2];simp
theorem Pj{H:Type}{enc:TypeId × Value->H}{w:World}{base:Nat}{len:Nat}{x:DataW H × List MemPlace}{α:Type}
  (k:Nat) (hk:0<k) (t e:TypeId) (N0:prog.underlying t=some (.slice e)) (hce:prog.cellsOf e=k) (f:α->List Value) (hf:∀p,(f p).length=k) (Q:α->Prop) (d:α)
  (el:∀fuel cs x,cs.length=k->trod enc prog w base spare held fuel e cs=some x->∃p,cs=f p/\Q p)
  (h:trod enc prog w base spare held fuel t [.slice a len cap]=some x):
  ∃l:List α,l.length=len/\(0<l.length->∃g off,a=some ⟨g,off,none⟩/\g<w.heap.size/\∀i (h:i<l.length),Q l[i]/\∀j,j<k->w.cell? ⟨g,off+i*k+j,none⟩=(f l[i])[j]?)/\len<=cap/\cap<=maxLen/\∀i (h:i<l.length),Q l[i]:=by
 rcases open_slice N0 h with ⟨fO,_⟩|⟨ad,l,c,m,n,D,Pl,fO,hb,hl,hm,iJ,hx,hi⟩
 ·simp at fO;obtain⟨rfl,rfl,rfl⟩:=fO;exact⟨[],rfl,fun h=>absurd h (by simp),le_refl _,by unfold maxLen;omega,fun j h=>absurd h (by simp)⟩
 simp at fO;obtain⟨rfl,rfl,rfl⟩:=fO;have hp:∀i,i<len->∃p:α,(∀j,j<k->w.cell? (ad.add (i*k+j))=(f p)[j]?)/\Q p:=by
  intro i M5;obtain⟨gd,hc,ht⟩:=hi i (by rw[iJ];split <;> omega);rw[hce] at hc;obtain⟨_,eK,ew⟩:=cells?_some hc;obtain⟨p,rfl,hs⟩:=el _ _ _ eK ht;refine⟨p,fun j hj=>?_,hs⟩;rw[<-Go.Deep.add_add];exact ew j hj
 obtain⟨b,off,spot⟩:=ad;have dU:∃s:Nat->α,∀i,i<len->(∀j,j<k->w.cell? ((⟨b,off,spot⟩:Addr).add (i*k+j))=(f (s i))[j]?)/\Q (s i):=
  ⟨fun i=>if h:i<len then Classical.choose (hp i h) else d,fun i h=>by
   have:=choose_spec (hp i h)
   simp only[dif_pos h]
   exact this⟩
 obtain⟨s,hs⟩:=dU;have hQ:∀i (h:i<((range len).map s).length),Q ((range len).map s)[i]:=fun i hi=>by
  simp at hi⊢;exact (hs i hi).2
 refine⟨(range len).map s,by simp,?_,hl,hm,hQ⟩;intro h0;simp at h0;obtain⟨v,hv⟩:∃v,(f (s 0))[0]?=some v:=⟨_,List.getElem?_eq_getElem (by rw[hf];exact hk)⟩
 have nt:spot=none:=by
  have h1:=(hs 0 h0).1 0 hk;rw[hv] at h1;have h2:=cell?_spot h1;simpa [Addr.add] using h2
 subst nt;have dF:∀i,i<len->∀j,j<k->w.cell? ⟨b,off+(i*k+j),none⟩=(f (s i))[j]?:=fun i hi j hj=>by
  have:=(hs i hi).1 j hj;rw[EA] at this;exact this
 refine⟨b,off,rfl,?_,fun i hi=>⟨hQ i hi,fun j hj=>?_⟩⟩
 ·have h1:=dF 0 h0 0 hk;rw[hv] at h1;by_cases hb:b<w.heap.size
  ·exact hb
  simp[cell?,Array.getElem?_eq_none (by omega:w.heap.size<=b)] at h1
 simp at hi;have h1:=dF i hi j hj;rw[Nat.add_assoc,h1];simp
section
variable {H : Type}{enc : TypeId × Value → H}{w : World}{base : Nat}{spare : Nat → Bool}{held : Bool}
theorem Ci{t e:TypeId}(N0:prog.underlying t=some (.slice e)){x:DataW H × List MemPlace}(h:trod enc prog w base spare held fuel t [v]=some x):∃a n c,v=.slice a n c:=by
 rcases open_slice N0 h with ⟨fO,_⟩|⟨ad,l,c,m,n,D,Pl,fO,_⟩
 ·simp at fO;exact⟨_,_,_,fO⟩
 simp at fO;exact⟨_,_,_,fO⟩
theorem zh3(fuel:Nat)(cs:List Value)(x:DataW H × List MemPlace)(hlen:cs.length=2)(h:trod enc prog w base spare held fuel 38 cs=some x):∃p:Sy,cs=jw p/\True:=by
 have c3:prog.cellsOf 3=1:=by kernel_rfl
 have c4:prog.cellsOf 4=1:=by kernel_rfl
 obtain⟨ys,n',Lp,hy,hl,zj,hf⟩:=trod_struct underlying38 h;have f0:=hf 0 _ rfl;have f1:=hf 1 _ rfl
 match cs,hlen with
 | [v0,v1],_=>
  simp[c3,c4] at f0 f1
  match ys,zj with
  | [y0,y1],_=>
   simp at f0 f1;obtain⟨s,e0,_⟩:=trod_bool underlying4 f0;obtain⟨r,e1,_⟩:=trod_int underlying3 f1;simp at e0 e1;subst e0 e1;exact⟨⟨s,r⟩,rfl,trivial⟩
theorem Yg{len:Nat}{x:DataW H × List MemPlace}(h:trod enc prog w base spare held fuel 43 [.slice a len cap]=some x):∃l:List Int,l.length=len/\js w a l/\len<=maxLen:=by
 obtain⟨⟨g,hg⟩,h1,h2⟩:=zh0 h;refine⟨(range len).map g,by simp,?_,le_trans h1 h2⟩;intro h0;rw[show ((range len).map g).length=len by simp] at h0⊢;obtain⟨b,off,e,hb,hc⟩:=hg h0;exact⟨b,off,e,hb,fun j hj=>by rw[hc j hj];simp[hj]⟩
theorem zgd(fuel:Nat)(cs:List Value)(x:DataW H × List MemPlace)(hlen:cs.length=6)(h:trod enc prog w base spare held fuel 47 cs=some x):∃p:fC,cs=bI p/\(p.At w/\p.cJ.size<=maxLen/\p.body.length<=maxLen/\p.hints.length<=maxLen):=by
 have c3:prog.cellsOf 3=1:=by kernel_rfl
 have c4:prog.cellsOf 4=1:=by kernel_rfl
 have c5:prog.cellsOf 9=1:=by kernel_rfl
 have c6:prog.cellsOf 43=1:=by kernel_rfl
 have c7:prog.cellsOf 45=1:=by kernel_rfl
 have c8:prog.cellsOf 38=2:=by kernel_rfl
 obtain⟨ys,n',Lp,hy,hl,zj,hf⟩:=trod_struct underlying47 h;have f0:=hf 0 _ rfl;have f1:=hf 1 _ rfl;have f2:=hf 2 _ rfl;have f3:=hf 3 _ rfl;have f4:=hf 4 _ rfl;have f5:=hf 5 _ rfl
 match cs,hlen with
 | [v0,v1,v2,v3,v4,v5],_=>
  simp[c3,c4,c5,c6,c7] at f0 f1 f2 f3 f4 f5
  match ys,zj with
  | [y0,y1,y2,y3,y4,y5],_=>
   simp at f0 f1 f2 f3 f4 f5;obtain⟨r,e0,_⟩:=trod_int underlying3 f0;obtain⟨s,e1,_,hs⟩:=trod_string underlying9 f1;obtain⟨a2,n2,k2,rfl⟩:=Ci underlying45 f2;obtain⟨b,e3,_⟩:=trod_bool underlying4 f3;obtain⟨p,e4,_⟩:=trod_int underlying3 f4;obtain⟨a5,n5,k5,rfl⟩:=Ci underlying43 f5;obtain⟨B,hB,sB,l2,m2,_⟩:=Pj 2 (by decide) _ _ underlying45 c8 jw (fun _=>rfl) (fun _=>True) ⟨false,0⟩ zh3 f2;obtain⟨Z,hZ,sZ,m5⟩:=Yg f5;simp at e0 e1 e3 e4;subst e0 e1 e3 e4 hB hZ;refine⟨⟨r,s,a2,k2,B,b,p,a5,k5,Z⟩,rfl,⟨fun h0=>?_,sZ⟩,hs,le_trans l2 m2,m5⟩;obtain⟨g,off,e,hg,hc⟩:=sB h0;exact⟨g,off,e,hg,fun i hi=>(hc i hi).2⟩
theorem zfg(fuel:Nat)(cs:List Value)(x:DataW H × List MemPlace)(hlen:cs.length=2)(h:trod enc prog w base spare held fuel 58 cs=some x):∃p:Aq,cs=pQ p/\(js w p.ar p.rules/\p.rules.length<=maxLen):=by
 have c3:prog.cellsOf 3=1:=by kernel_rfl
 have c6:prog.cellsOf 43=1:=by kernel_rfl
 obtain⟨ys,n',Lp,hy,hl,zj,hf⟩:=trod_struct underlying58 h;have f0:=hf 0 _ rfl;have f1:=hf 1 _ rfl
 match cs,hlen with
 | [v0,v1],_=>
  simp[c3,c6] at f0 f1
  match ys,zj with
  | [y0,y1],_=>
   simp at f0 f1;obtain⟨r,e0,_⟩:=trod_int underlying3 f0;obtain⟨a5,n5,k5,rfl⟩:=Ci underlying43 f1;obtain⟨Z,hZ,sZ,m5⟩:=Yg f1;simp at e0;subst e0 hZ;exact⟨⟨r,a5,k5,Z⟩,rfl,sZ,m5⟩
theorem zjb(fuel:Nat)(cs:List Value)(x:DataW H × List MemPlace)(hlen:cs.length=5)(h:trod enc prog w base spare held fuel 27 cs=some x):∃G:Gr,cs=G.cells/\G.At w/\G.mK maxLen/\G.R.length<=G.cR/\G.S.length<=G.cS/\G.P.length<=G.cP/\G.L.length<=G.cL:=by
 have c3:prog.cellsOf 3=1:=by kernel_rfl
 have c4:prog.cellsOf 22=1:=by kernel_rfl
 have c5:prog.cellsOf 23=1:=by kernel_rfl
 have c6:prog.cellsOf 24=1:=by kernel_rfl
 have c7:prog.cellsOf 25=1:=by kernel_rfl
 have c8:prog.cellsOf 47=6:=by kernel_rfl
 have c9:prog.cellsOf 58=2:=by kernel_rfl
 obtain⟨ys,n',Lp,hy,hl,zj,hf⟩:=trod_struct underlying27 h;have f0:=hf 0 _ rfl;have f1:=hf 1 _ rfl;have f2:=hf 2 _ rfl;have f3:=hf 3 _ rfl;have f4:=hf 4 _ rfl
 match cs,hlen with
 | [v0,v1,v2,v3,v4],_=>
  simp[c3,c4,c5,c6,c7] at f0 f1 f2 f3 f4
  match ys,zj with
  | [y0,y1,y2,y3,y4],_=>
   simp at f0 f1 f2 f3 f4;obtain⟨a0,n0,k0,rfl⟩:=Ci underlying22 f0;obtain⟨a1,n1,k1,rfl⟩:=Ci underlying23 f1;obtain⟨a2,n2,k2,rfl⟩:=Ci underlying24 f2;obtain⟨a3,n3,k3,rfl⟩:=Ci underlying25 f3;obtain⟨st,e4,_⟩:=trod_int underlying3 f4;obtain⟨R,hR,sR,lR,mR,zR⟩:=zh2 f0;obtain⟨S,hS,sS,lS,mS,zS⟩:=zh1 f1;obtain⟨P,hP,sP,lP,mP,zP⟩:=Pj 6 (by decide) _ _ underlying24 c8 bI (fun _=>rfl) (fun p=>p.At w/\p.cJ.size<=maxLen/\p.body.length<=maxLen/\p.hints.length<=maxLen) ⟨0,⟨#[]⟩,none,0,[],false,0,none,0,[]⟩ zgd f2;obtain⟨L,hL,sL,lL,mL,zL⟩:=Pj 2 (by decide) _ _ underlying25 c9 pQ (fun _=>rfl) (fun p=>js w p.ar p.rules/\p.rules.length<=maxLen) ⟨0,none,0,[]⟩ zfg f3;simp at e4;subst e4 hR hS hP hL;refine⟨⟨a0,k0,R,a1,k1,S,a2,k2,P,a3,k3,L,st⟩,rfl,⟨sR,sS,fun h0=>?_,fun h0=>?_⟩,⟨le_trans lR mR,le_trans lS mS,le_trans lP mP,le_trans lL mL,zR,zS,fun i hi=>(zP i hi).2,fun i hi=>(zL i hi).2⟩,lR,lS,lP,lL⟩
   ·obtain⟨g,off,e,hg,hc⟩:=sP h0;exact⟨g,off,e,hg,fun i hi=>⟨(hc i hi).1.1,(hc i hi).2⟩⟩
   obtain⟨g,off,e,hg,hc⟩:=sL h0;exact⟨g,off,e,hg,fun i hi=>⟨(hc i hi).1.1,(hc i hi).2⟩⟩
theorem zew{b0:Nat}{r:Reach}(hk:Value.okWide prog w r b0 27 v)
  (h:∃(fuel:Nat) (x:DataW H × List MemPlace),trod enc prog w base spare held fuel 27 v.cells.toList=some x):
  ∃G:Gr,v=G.val/\G.At w/\G.mK maxLen/\G.R.length<=G.cR/\G.S.length<=G.cS/\G.P.length<=G.cP/\G.L.length<=G.cL:=by
 obtain⟨xs,rfl,da⟩:∃xs:Array Value,v=.agg xs/\xs.size=prog.cellsOf 27:=by
  simp only[Value.okWide,underlying27] at hk;obtain⟨cs,h1,h2,_⟩:=hk;exact⟨cs,h1,h2⟩
 rw[show prog.cellsOf 27=5 by kernel_rfl] at da;obtain⟨fuel,x,hf⟩:=h;have fO:(Value.agg xs).cells.toList=xs.toList:=rfl;rw[fO] at hf;obtain⟨G,h1,h2⟩:=zjb _ _ _ (by simpa using da) hf;exact⟨G,by unfold Gr.val;congr 1;exact Array.toList_inj.1 (by rw[h1]),h2⟩
end
def iY(f:Nat->Int):Nat->Int
 | 0=>0
 | n+1=>if iY f n≠0 then iY f n else f n
def AJ(f:Nat->Int):Nat->Nat
 | 0=>0
 | n+1=>if iY f n≠0 then AJ f n else n
theorem vy(h:∀j,j<n->f j=0):iY f n=0:=by
 induction n with
 | zero=>rfl
 | succ n ih=>
  have h1:=ih (fun j hj=>h j (by omega));simp[iY,h1,h n (by omega)]
theorem EU(hk:k<n)(h:∀j,j<k->f j=0)(hf:f k≠0):iY f n=f k/\AJ f n=k:=by
 induction n with
 | zero=>omega
 | succ n ih=>
  rcases Nat.lt_or_ge k n with h1|h1
  ·obtain⟨e1,e2⟩:=ih h1;simp[iY,AJ,e1,hf,e2]
  obtain rfl:k=n:=by omega
  have:=vy h;simp[iY,AJ,this]
def yo(G:Gr)(i:Nat):Ru:=G.R.getD i ⟨⟨#[]⟩,0,⟨#[]⟩⟩
def ky(G:Gr)(i:Nat):ByteArray:=G.S.getD i ⟨#[]⟩
def du(G:Gr)(i:Nat):fC:=G.P.getD i ⟨0,⟨#[]⟩,none,0,[],false,0,none,0,[]⟩
def gb(G:Gr)(i:Nat):Aq:=G.L.getD i ⟨0,none,0,[]⟩
theorem Hw{G:Gr}(h:i<G.R.length):yo G i=G.R[i]:=by simp[yo,h]
theorem xY{G:Gr}(h:i<G.S.length):ky G i=G.S[i]:=by simp[ky,h]
theorem A8{G:Gr}(h:i<G.P.length):du G i=G.P[i]:=by simp[du,h]
theorem Q9{G:Gr}(h:i<G.L.length):gb G i=G.L[i]:=by simp[gb,h]
def ie(G:Gr)(n:Int):Bool:=decide (0<=n/\n<G.R.length) && (yo G n.toNat).k == 0
def tT(G:Gr)(n:Int):Bool:=decide (0<=n/\n<G.S.length)
def dT(G:Gr)(x:Sy):Bool:=if x.s then tT G x.n else ie G x.n
def eY(p:fC):Bool:=match p.body with
 | [a,b,c]=>!a.s && b.s && b.n == p.cj && !c.s
 | _=>false
def ly(G:Gr)(x:Sy):ByteArray:=if x.n<0 then ⟨#[63]⟩ else if x.s=true/\x.n<G.S.length then ky G x.n.toNat else if x.s=false/\x.n<G.R.length then (yo G x.n.toNat).nm else ⟨#[63]⟩
noncomputable def fL (G:Gr) (i:Nat):Int:=open Classical in
 if bD (ky G i)=false then 8 else if (∃k,k<i/\ky G k=ky G i) then 9 else if (∃k,k<G.R.length/\(yo G k).nm=ky G i) then 9 else 0
noncomputable def fY (G:Gr) (i:Nat):Int:=open Classical in
 let p:=du G i
 if p.cj<0\/(G.S.length:Int)<=p.cj then 11 else if bD p.cJ=false then 8 else if 12<p.body.length then 6 else if p.hints.length≠p.body.length-1 then 1
 else if (∃k,k<i/\(du G k).cJ=p.cJ) then 9 else if (∃x∈p.body,dT G x=false) then 11 else if (∃z∈p.hints,z<0\/3<z) then 1
 else if p.prec≠-1/\ie G p.prec=false then 11 else if p.par=true/\eY p=false then 15 else 0
def o9(G:Gr)(i k:Nat):Prop:=∃a b,(a<i\/a=i/\b<k)/\b<(gb G a).rules.length/\(gb G a).rules.getD b 0=(gb G i).rules.getD k 0
noncomputable def wJ (G:Gr) (i k:Nat):Int:=open Classical in
 if ie G ((gb G i).rules.getD k 0)=false then 11 else if o9 G i k then 9 else 0
noncomputable def oC (G:Gr) (i:Nat):Int:=if (gb G i).side<1\/3<(gb G i).side\/(gb G i).rules.length=0\/60<=i then 1 else iY (wJ G i) (gb G i).rules.length
noncomputable def bY (G:Gr):Int × Int × Int:=
 if 300<G.S.length then (6,2,G.S.length) else if iY (fL G) G.S.length≠0 then (iY (fL G) G.S.length,2,AJ (fL G) G.S.length)
 else if 200<G.P.length then (6,3,G.P.length) else if iY (fY G) G.P.length≠0 then (iY (fY G) G.P.length,3,AJ (fY G) G.P.length)
 else if iY (oC G) G.L.length≠0 then (iY (oC G) G.L.length,4,AJ (oC G) G.L.length)
 else if G.st<0\/(G.S.length:Int)<=G.st then (11,5,0) else (0,0,0)
structure ez (w:World)(b:Nat)(G:Gr):Prop where
 c0:w.cell? ⟨b,0,none⟩=some (.slice G.aR G.R.length G.cR)
 c1:w.cell? ⟨b,1,none⟩=some (.slice G.aS G.S.length G.cS)
 c2:w.cell? ⟨b,2,none⟩=some (.slice G.aP G.P.length G.cP)
 c3:w.cell? ⟨b,3,none⟩=some (.slice G.aL G.L.length G.cL)
 c4:w.cell? ⟨b,4,none⟩=some (.int .i64 G.st)
 lt:b<w.heap.size
theorem ez.below{w:World}{b:Nat}{G:Gr}(h:ez w b G)(k:Below w.heap.size w w'):ez w' b G:=
 ⟨(k.cell (p:=⟨b,0,none⟩) h.lt).trans h.c0,(k.cell (p:=⟨b,1,none⟩) h.lt).trans h.c1,(k.cell (p:=⟨b,2,none⟩) h.lt).trans h.c2,(k.cell (p:=⟨b,3,none⟩) h.lt).trans h.c3,(k.cell (p:=⟨b,4,none⟩) h.lt).trans h.c4,by have:=k.size;have:=h.lt;omega⟩
theorem qV(w:World)(cs:Array Value)(t:TypeId)(i:Nat)(v:Value)(h:cs[i]?=some v):(w.alloc (.cells cs t)).cell? ⟨w.heap.size,i,none⟩=some v:=by
 have hb:(w.alloc (.cells cs t)).heap[w.heap.size]?=some (.cells cs t (0,0)):=heap_alloc_new w _;rw[cell_of_row _ _ i cs t (0,0) hb];exact h
theorem ez.new(w:World)(G:Gr)(t:TypeId):ez (w.alloc (.cells #[.slice G.aR G.R.length G.cR,.slice G.aS G.S.length G.cS,.slice G.aP G.P.length G.cP,.slice G.aL G.L.length G.cL,.int .i64 G.st] t)) w.heap.size G:=
 ⟨qV _ _ _ _ _ rfl,qV _ _ _ _ _ rfl,qV _ _ _ _ _ rfl,qV _ _ _ _ _ rfl,qV _ _ _ _ _ rfl,by simp⟩
structure tG (w:World)(b:Nat)(x:Sy):Prop where
 c0:w.cell? ⟨b,0,none⟩=some (.bool x.s)
 c1:w.cell? ⟨b,1,none⟩=some (.int .i64 x.n)
 lt:b<w.heap.size
theorem tG.below{w:World}{b:Nat}{x:Sy}(h:tG w b x)(k:Below w.heap.size w w'):tG w' b x:=
 ⟨(k.cell (p:=⟨b,0,none⟩) h.lt).trans h.c0,(k.cell (p:=⟨b,1,none⟩) h.lt).trans h.c1,by have:=k.size;have:=h.lt;omega⟩
theorem tG.new(w:World)(x:Sy)(t:TypeId):tG (w.alloc (.cells #[.bool x.s,.int .i64 x.n] t)) w.heap.size x:=⟨qV _ _ _ _ _ rfl,qV _ _ _ _ _ rfl,by simp⟩
structure tO (w:World)(b:Nat)(x:fC):Prop where
 c0:w.cell? ⟨b,0,none⟩=some (.int .i64 x.cj)
 c1:w.cell? ⟨b,1,none⟩=some (.string x.cJ)
 c2:w.cell? ⟨b,2,none⟩=some (.slice x.ab x.body.length x.cb)
 c3:w.cell? ⟨b,3,none⟩=some (.bool x.par)
 c4:w.cell? ⟨b,4,none⟩=some (.int .i64 x.prec)
 c5:w.cell? ⟨b,5,none⟩=some (.slice x.ah x.hints.length x.ch)
 lt:b<w.heap.size
theorem tO.below{w:World}{b:Nat}{x:fC}(h:tO w b x)(k:Below w.heap.size w w'):tO w' b x:=
 ⟨(k.cell (p:=⟨b,0,none⟩) h.lt).trans h.c0,(k.cell (p:=⟨b,1,none⟩) h.lt).trans h.c1,(k.cell (p:=⟨b,2,none⟩) h.lt).trans h.c2,(k.cell (p:=⟨b,3,none⟩) h.lt).trans h.c3,(k.cell (p:=⟨b,4,none⟩) h.lt).trans h.c4,(k.cell (p:=⟨b,5,none⟩) h.lt).trans h.c5,by have:=k.size;have:=h.lt;omega⟩
theorem tO.new(w:World)(x:fC)(t:TypeId):tO (w.alloc (.cells #[.int .i64 x.cj,.string x.cJ,.slice x.ab x.body.length x.cb,.bool x.par,.int .i64 x.prec,.slice x.ah x.hints.length x.ch] t)) w.heap.size x:=
 ⟨qV _ _ _ _ _ rfl,qV _ _ _ _ _ rfl,qV _ _ _ _ _ rfl,qV _ _ _ _ _ rfl,qV _ _ _ _ _ rfl,qV _ _ _ _ _ rfl,by simp⟩
structure Mp (w:World)(b:Nat)(x:Aq):Prop where
 c0:w.cell? ⟨b,0,none⟩=some (.int .i64 x.side)
 c1:w.cell? ⟨b,1,none⟩=some (.slice x.ar x.rules.length x.cr)
 lt:b<w.heap.size
theorem Mp.new(w:World)(x:Aq)(t:TypeId):Mp (w.alloc (.cells #[.int .i64 x.side,.slice x.ar x.rules.length x.cr] t)) w.heap.size x:=⟨qV _ _ _ _ _ rfl,qV _ _ _ _ _ rfl,by simp⟩
open Go.Maps Go.WideElems Go.ChangeMaps Go.MapKept
def xU(b:Bool)(w:World)(e:Ending)(w':World):Prop:=e=.returned (.bool b)/\Below w.heap.size w w'
theorem Ns{G:Gr}{n:Int}:tT G n=(decide (0<=n) && decide (n<G.S.length)):=by
 unfold tT;by_cases h:0<=n <;> by_cases h':n<G.S.length <;> simp[h,h']
theorem zli{G:Gr}{n:Int}(h:¬(0<=n/\n<G.R.length)):ie G n=false:=by simp only[ie,h];rfl
theorem znC{G:Gr}(h:k<G.R.length):ie G (k:Int)=(G.R[k].k == 0):=by
 unfold ie;rw[Int.toNat_natCast,Hw h];have:(0<=(k:Int)/\(k:Int)<G.R.length):=⟨by omega,by omega⟩
 simp[this]
def Am(l:List Ru)(k:Nat):Prop:=∀j (h:j<l.length),j<k->l[j].rx.size<=40/\l[j].nm.size<=100
def Q6(l:List Ru)(w:World)(e:Ending)(w':World):Prop:=∃bo:Bool,e=.returned (.bool bo)/\(bo=true->l.length<=20/\Am l l.length)/\Below w.heap.size w w'
theorem zjd(n c:Nat)(a:Option Addr)(l:List Ru)(hl:l.length=n)(hn:n<=9223372036854775807)(w:World)(h1:ka w a l):
  Calls prog 25 #[.slice a n c] w (Q6 l w):=by
 have H:=hid (Zz h1 hl);clear h1 hl;go_enter func25,ntmps25;by_cases h20:20<n
 ·have i1:(20:Int)<n:=by omega
  go_wp2;go_ret;exact⟨false,rfl,fun h=>(by cases h),Below.refl _ _⟩
 have i1:¬((20:Int)<n):=by omega
 go_wp2;go_loopw [3] (fun v wr=>∃k:Nat,v=.int .i64 k/\k<=n/\wr=w/\Hid (Am l k)) (fun v _=>n-(intOf v).toNat)
 ·exact⟨0,rfl,Nat.zero_le _,rfl,fun j _ h=>by omega⟩
 obtain⟨k,rfl,hk,rfl,HK⟩:=hrel;by_cases aw:k<n
 ·have hkl:k<l.length:=by rw[H.out.2];exact aw
  obtain⟨g,o,rfl,_,x0,x1,x2⟩:=H.out.1.get k hkl;have i2:(k:Int)<n:=by omega
  have HS:Hid (l[k].rx.size<=40->l[k].nm.size<=100->Am l (k+1)):=fun h1 h2 j hj hjk=>by
   by_cases e:j=k
   ·subst e;exact⟨h1,h2⟩
   exact HK.out j hj (by omega)
  clear x1;generalize l[k].nm=nm at x0 HS;generalize l[k].rx=rx at x2 HS;by_cases h40:40<rx.size
  ·have i3:decide ((40:Int)<(rx.size:Int))=true:=(by simp;omega);go_wp2;go_ret;exact⟨false,rfl,fun h=>(by cases h),Below.refl _ _⟩
  have i3:decide ((40:Int)<(rx.size:Int))=false:=by simp;omega
  by_cases Zl:100<nm.size
  ·have i4:((100:Int)<(nm.size:Int)):=(by omega);go_wp2;go_ret;exact⟨false,rfl,fun h=>(by cases h),Below.refl _ _⟩
  have i4:¬((100:Int)<(nm.size:Int)):=by omega
  have HZ:=hid (HS.out (by omega) (by omega));go_wp2;go_roundw
  ·exact⟨k+1,by go_num,by omega,trivial,HZ.out⟩
  simp[intOf];omega
 obtain rfl:k=n:=by omega
 have i2:¬((k:Int)<k):=by omega
 go_wp2;go_ret;exact⟨true,rfl,fun _=>⟨by rw[H.out.2];omega,by rw[H.out.2];exact HK.out⟩,Below.refl _ _⟩
def zB(s:ByteArray)(w:World)(e:Ending)(w':World):Prop:=e=.returned (.string s)/\Below w.heap.size w w'
theorem VQ{G:Gr}{x:Sy}(h:x.n<0):ly G x=⟨#[63]⟩:=if_pos h
theorem zpG{G:Gr}(h:k<G.S.length):ly G ⟨true,(k:Int)⟩=G.S[k]:=by
 unfold ly;rw[if_neg (by show ¬((k:Int)<0);omega),if_pos ⟨rfl,by show (k:Int)<_;omega⟩];show ky G (Int.toNat (k:Int))=_;rw[Int.toNat_natCast,xY h]
theorem zpH{G:Gr}(h:k<G.R.length):ly G ⟨false,(k:Int)⟩=G.R[k].nm:=by
 unfold ly;rw[if_neg (by show ¬((k:Int)<0);omega),if_neg (fun h=>by cases h.1),if_pos ⟨rfl,by show (k:Int)<_;omega⟩];show (yo G (Int.toNat (k:Int))).nm=_;rw[Int.toNat_natCast,Hw h]
theorem zoQ{G:Gr}{n:Int}(h:¬n<G.S.length):ly G ⟨true,n⟩=⟨#[63]⟩:=by
 unfold ly;split
 ·rfl
 rw[if_neg (fun k=>h k.2),if_neg (fun k=>by cases k.1)]
theorem zoR{G:Gr}{n:Int}(h:¬n<G.R.length):ly G ⟨false,n⟩=⟨#[63]⟩:=by
 unfold ly;split
 ·rfl
 rw[if_neg (fun k=>by cases k.1),if_neg (fun k=>h k.2)]
def pC(s:ByteArray):List ByteArray->Nat
 | []=>0
 | a :: l=>if a=s then 0 else pC s l+1
theorem OV{s:ByteArray}(hk:k<l.length)(h:l[k]=s)(hn:∀j (h:j<l.length),j<k->l[j]≠s):pC s l=k:=by
 induction l generalizing k with
 | nil=>simp at hk
 | cons a l ih=>
  cases k with
  | zero=>simp at h;simp[pC,h]
  | succ k=>
   have h0:=hn 0 (by simp) (by omega);simp at h0 h hk;simp only[pC,if_neg h0];rw[ih hk h (fun j hj hjk=>by have:=hn (j+1) (by simp;omega) (by omega);simpa using this)]
theorem Kc{s:ByteArray}(hn:∀j (h:j<l.length),l[j]≠s):pC s l=l.length:=by
 induction l with
 | nil=>rfl
 | cons a l ih=>
  have h0:=hn 0 (by simp);simp at h0;simp only[pC,if_neg h0,List.length_cons];rw[ih (fun j hj=>by have:=hn (j+1) (by simp;omega);simpa using this)]
def yL(l:List ByteArray)(s:ByteArray):Int:=if pC s l<l.length then ((pC s l:Nat):Int) else -1
theorem zoS{s:ByteArray}(hk:k<l.length)(h:l[k]=s)(hn:∀j (h:j<l.length),j<k->l[j]≠s):yL l s=(k:Int):=by
 unfold yL;rw[OV hk h hn,if_pos hk]
theorem zoT{s:ByteArray}(hn:∀j (h:j<l.length),l[j]≠s):yL l s=-1:=by
 unfold yL;rw[Kc hn,if_neg (by omega)]
theorem zh4(l:List ByteArray):(qY l).length=l.length:=by simp[qY]
theorem zh5(a b:List ByteArray):qY (a++b)=qY a++qY b:=by simp[qY]
theorem znD(l:List ByteArray):∀u∈qY l,u.oneCell'=true:=by
 intro u hu;simp only[qY,List.mem_map] at hu;obtain⟨j,_,rfl⟩:=hu;rfl
theorem zh6(W:World):(W.alloc (.cells #[] 9)).ownsRow W.heap.size 9 1 (.slice (some ⟨W.heap.size,0,none⟩) 0 0) 0 []:=
 ⟨rfl,Or.inr ⟨W.heap.size,0,#[],rfl,le_refl _,by show (W.heap.push _)[W.heap.size]?=_;rw[Array.getElem?_push,if_pos rfl],le_refl _,by unfold maxLen;omega,rfl,rfl⟩⟩
theorem znE{w:World}{g off:Nat}(h:∀j (h:j<l.length),w.cell? ⟨g,off+j,none⟩=some (.string l[j])):∀j u,(qY l)[j]?=some u->w.cell? ((⟨g,off,none⟩:Addr).add j)=some u:=fun j u hj=>by
 have h1:j<l.length:=by
  have:=(List.getElem?_eq_some_iff.1 hj).1
  simpa [qY] using this
 rw[show (⟨g,off,none⟩:Addr).add j=⟨g,off+j,none⟩ by unfold Addr.add;split <;> simp_all,h j h1,<-hj]
 simp[qY,h1]
end Go.Proofs.YtiijebameffenaaGreat
