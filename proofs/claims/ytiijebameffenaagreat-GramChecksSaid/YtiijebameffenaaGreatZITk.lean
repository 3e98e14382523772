import Derived.Test.YtiijebameffenaaGreatZPPrint
import Derived.Test.YtiijebameffenaaGreatZRuM
import Derived.Test.YtiijebameffenaaGreatZTk
import Derived.Deep.Cut
set_option linter.all false
set_option maxHeartbeats 2000000
set_option maxRecDepth 100000
open Go.Lib (hid)
namespace Go.Proofs.YtiijebameffenaaGreat
open Go.RowKit Go.Proofs.Tryz
open Nat (le_refl le_trans)
open DataW (trod trod_bool trod_int trod_string trod_struct)
open World (cell? cell?_spot cells?_some)
open Classical (choose_spec)
open List (range)
open Region (free noSelect ready wanted)
variable {a:Option Addr}{cG:Array Bool}{cap fuel i k:Nat}{f:Nat->Int}{held:Bool}{l:List ByteArray}{n:Int}{oi:Oper}{spare:Nat->Bool}{v:Value}{w w':World}
def tC(w:World)(a:Option Addr)(l:List ByteArray):Prop:=0<l.length->∃g off,a=some ⟨g,off,none⟩/\g<w.heap.size/\∀j (h:j<l.length),w.cell? ⟨g,off+j,none⟩=some (.string l[j])
theorem tC.below(h:tC w a l)(k:ϐ w w'):tC w' a l:=by
 intro h0;obtain⟨g,off,e,hg,hc⟩:=h h0;have:=k.size;exact⟨g,off,e,by omega,fun j hj=>(k.cell (p:=⟨g,off+j,none⟩) hg).trans (hc j hj)⟩
theorem IB(a b:ByteArray):(a.toList == b.toList)=decide (a=b):=by
 by_cases h:a=b
 ·subst h;simp
 have:¬a.toList=b.toList:=by
  intro e;rw[ByteArray.toList_eq,ByteArray.toList_eq] at e;exact h (D6 e)
 simp[h,this]
structure Sy where
 s:Bool
 n:Int
def js(x:Sy):List Value:=[.bool x.s,.int .i64 x.n]
def qF(w:World)(a:Option Addr)(l:List Sy):Prop:=0<l.length->∃g off,a=some ⟨g,off,none⟩/\g<w.heap.size/\∀i (h:i<l.length) j,j<2->w.cell? ⟨g,off+i*2+j,none⟩=(js l[i])[j]?
theorem qF.below{l:List Sy}(h:qF w a l)(k:ϐ w w'):qF w' a l:=by
 intro h0;obtain⟨g,off,rfl,hg,hc⟩:=h h0;have:=k.size;exact⟨g,off,rfl,by omega,fun i hi j hj=>(k.cell (p:=⟨g,off+i*2+j,none⟩) hg).trans (hc i hi j hj)⟩
theorem qF.get{l:List Sy}(h:qF w a l)(k:Nat)(hk:k<l.length):
  ∃g off,a=some ⟨g,off,none⟩/\g<w.heap.size/\w.cell? ⟨g,off+k*2,none⟩=some (.bool l[k].s)/\w.cell? ⟨g,off+k*2+1,none⟩=some (.int .i64 l[k].n):=by
 obtain⟨g,off,rfl,hg,hc⟩:=h (by omega);exact⟨g,off,rfl,hg,hc k hk 0 (by omega),hc k hk 1 (by omega)⟩
def iP(w:World)(a:Option Addr)(l:List Int):Prop:=lT w a l.length (fun i=>l.getD i 0)
theorem iP.below{l:List Int}(h:iP w a l)(k:ϐ w w'):iP w' a l:=lT.below h k
theorem iP.get{l:List Int}(h:iP w a l)(k:Nat)(hk:k<l.length):
  ∃g off,a=some ⟨g,off,none⟩/\g<w.heap.size/\w.cell? ⟨g,off+k,none⟩=some (.int .i64 l[k]):=by
 obtain⟨g,off,rfl,hg,hc⟩:=h (by omega);exact⟨g,off,rfl,hg,by rw[hc k hk];simp[hk]⟩
structure iF where
 dF:Int
 dR:ByteArray
 ab:Option Addr
 cb:Nat
 body:List Sy
 par:Bool
 prec:Int
 ah:Option Addr
 ch:Nat
 hints:List Int
def nM(x:iF):List Value:=[.int .i64 x.dF,.string x.dR,.slice x.ab x.body.length x.cb,.bool x.par,.int .i64 x.prec,.slice x.ah x.hints.length x.ch]
def iF.val(x:iF):Value:=.agg (nM x).toArray
structure iF.At (w:World)(x:iF):Prop where
 b:qF w x.ab x.body
 h:iP w x.ah x.hints
theorem iF.At.below{x:iF}(h:x.At w)(k:ϐ w w'):x.At w':=⟨h.b.below k,h.h.below k⟩
def sE(w:World)(a:Option Addr)(l:List iF):Prop:=0<l.length->∃g off,a=some ⟨g,off,none⟩/\g<w.heap.size/\∀i (h:i<l.length),l[i].At w/\∀j,j<6->w.cell? ⟨g,off+i*6+j,none⟩=(nM l[i])[j]?
theorem sE.below{l:List iF}(h:sE w a l)(k:ϐ w w'):sE w' a l:=by
 intro h0;obtain⟨g,off,rfl,hg,hc⟩:=h h0;have:=k.size;exact⟨g,off,rfl,by omega,fun i hi=>⟨(hc i hi).1.below k,fun j hj=>(k.cell (p:=⟨g,off+i*6+j,none⟩) hg).trans ((hc i hi).2 j hj)⟩⟩
theorem sE.get{l:List iF}(h:sE w a l)(k:Nat)(hk:k<l.length):
  ∃g off,a=some ⟨g,off,none⟩/\g<w.heap.size/\l[k].At w/\w.cell? ⟨g,off+k*6,none⟩=some (.int .i64 l[k].dF)/\w.cell? ⟨g,off+k*6+1,none⟩=some (.string l[k].dR)/\
   w.cell? ⟨g,off+k*6+2,none⟩=some (.slice l[k].ab l[k].body.length l[k].cb)/\w.cell? ⟨g,off+k*6+3,none⟩=some (.bool l[k].par)/\
   w.cell? ⟨g,off+k*6+4,none⟩=some (.int .i64 l[k].prec)/\w.cell? ⟨g,off+k*6+5,none⟩=some (.slice l[k].ah l[k].hints.length l[k].ch):=by
 obtain⟨g,off,rfl,hg,hc⟩:=h (by omega);obtain⟨h1,h2⟩:=hc k hk;exact⟨g,off,rfl,hg,h1,h2 0 (by omega),h2 1 (by omega),h2 2 (by omega),h2 3 (by omega),h2 4 (by omega),h2 5 (by omega)⟩
structure tx where
 side:Int
 ar:Option Addr
 cr:Nat
 rules:List Int
def qV(x:tx):List Value:=[.int .i64 x.side,.slice x.ar x.rules.length x.cr]
def tS(w:World)(a:Option Addr)(l:List tx):Prop:=0<l.length->∃g off,a=some ⟨g,off,none⟩/\g<w.heap.size/\∀i (h:i<l.length),iP w l[i].ar l[i].rules/\∀j,j<2->w.cell? ⟨g,off+i*2+j,none⟩=(qV l[i])[j]?
theorem tS.below{l:List tx}(h:tS w a l)(k:ϐ w w'):tS w' a l:=by
 intro h0;obtain⟨g,off,rfl,hg,hc⟩:=h h0;have:=k.size;exact⟨g,off,rfl,by omega,fun i hi=>⟨(hc i hi).1.below k,fun j hj=>(k.cell (p:=⟨g,off+i*2+j,none⟩) hg).trans ((hc i hi).2 j hj)⟩⟩
theorem tS.get{l:List tx}(h:tS w a l)(k:Nat)(hk:k<l.length):
  ∃g off,a=some ⟨g,off,none⟩/\g<w.heap.size/\iP w l[k].ar l[k].rules/\w.cell? ⟨g,off+k*2,none⟩=some (.int .i64 l[k].side)/\w.cell? ⟨g,off+k*2+1,none⟩=some (.slice l[k].ar l[k].rules.length l[k].cr):=by
 obtain⟨g,off,rfl,hg,hc⟩:=h (by omega);obtain⟨h1,h2⟩:=hc k hk;exact⟨g,off,rfl,hg,h1,h2 0 (by omega),h2 1 (by omega)⟩
structure Gr where
 aR:Option Addr
 cR:Nat
 R:List Ru
 aS:Option Addr
 cS:Nat
 S:List ByteArray
 aP:Option Addr
 cP:Nat
 P:List iF
 aL:Option Addr
 cL:Nat
 L:List tx
 st:Int
def Gr.cells(G:Gr):List Value:=[.slice G.aR G.R.length G.cR,.slice G.aS G.S.length G.cS,.slice G.aP G.P.length G.cP,.slice G.aL G.L.length G.cL,.int .i64 G.st]
def Gr.val(G:Gr):Value:=.agg G.cells.toArray
abbrev ϑ(G:Gr):Value:=.agg #[.slice G.aR G.R.length G.cR,.slice G.aS G.S.length G.cS,.slice G.aP G.P.length G.cP,.slice G.aL G.L.length G.cL,.int .i64 G.st]
structure Gr.At (w:World)(G:Gr):Prop where
 r:jL w G.aR G.R
 s:tC w G.aS G.S
 p:sE w G.aP G.P
 l:tS w G.aL G.L
theorem Gr.At.below{G:Gr}(h:G.At w)(k:ϐ w w'):G.At w':=⟨h.r.below k,h.s.below k,h.p.below k,h.l.below k⟩
structure Gr.mE (m:Nat)(G:Gr):Prop where
 r:G.R.length<=m
 s:G.S.length<=m
 p:G.P.length<=m
 l:G.L.length<=m
 rs:∀i (h:i<G.R.length),G.R[i].nm.size<=m/\G.R[i].rx.size<=m
 ss:∀i (h:i<G.S.length),G.S[i].size<=m
 ps:∀i (h:i<G.P.length),G.P[i].dR.size<=m/\G.P[i].body.length<=m/\G.P[i].hints.length<=m
 ls:∀i (h:i<G.L.length),G.L[i].rules.length<=m
theorem Gr.mE.mono{m n:Nat}{G:Gr}(h:G.mE m)(k:m<=n):G.mE n:=
 ⟨le_trans h.r k,le_trans h.s k,le_trans h.p k,le_trans h.l k,fun i hi=>⟨le_trans (h.rs i hi).1 k,le_trans (h.rs i hi).2 k⟩,fun i hi=>le_trans (h.ss i hi) k,fun i hi=>⟨le_trans (h.ps i hi).1 k,le_trans (h.ps i hi).2.1 k,le_trans (h.ps i hi).2.2 k⟩,fun i hi=>le_trans (h.ls i hi) k⟩
open Go.Deep
theorem F9(b o j:Nat):(⟨b,o,none⟩:Addr).add j=⟨b,o+j,none⟩:=by unfold Addr.add;split <;> simp_all
theorem zjM{H:Type}{enc:TypeId × Value->H}{base:Nat}{len:Nat}{x:DataW H × List MemPlace}
  (h:trod enc prog w base spare held fuel 43 [.slice a len cap]=some x):(∃g:Nat->Int,lT w a len g)/\len<=cap/\cap<=maxLen:=by
 rcases open_slice underlying43 h with ⟨gH,_⟩|⟨ad,l,c,m,n,D,Pl,gH,hb,hl,hm,jR,hx,hi⟩
 ·simp at gH;obtain⟨rfl,rfl,rfl⟩:=gH;exact⟨⟨fun _=>0,fun h=>absurd h (by omega)⟩,le_refl _,by unfold maxLen;omega⟩
 simp at gH;obtain⟨rfl,rfl,rfl⟩:=gH;have h1:prog.cellsOf 3=1:=by kernel_rfl
 have hp:∀i,i<len->∃p:Int,w.cell? (ad.add i)=some (.int .i64 p):=by
  intro i Us;obtain⟨im,hc,ht⟩:=hi i (by rw[jR];split <;> omega);rw[h1] at hc;obtain⟨_,eR,fD⟩:=cells?_some hc;obtain⟨b,e,_⟩:=trod_int underlying3 ht;have h2:=fD 0 (by omega);rw[Go.Deep.add_add,e] at h2;exact⟨b,by simpa using h2⟩
 obtain⟨b,off,spot⟩:=ad;obtain⟨G,hs⟩:∃G:Nat->Int,∀i,i<len->w.cell? ((⟨b,off,spot⟩:Addr).add i)=some (.int .i64 (G i)):=
  ⟨fun i=>if h:i<len then Classical.choose (hp i h) else 0,fun i h=>by
   have:=choose_spec (hp i h)
   simp only[dif_pos h]
   exact this⟩
 refine⟨⟨G,fun h0=>?_⟩,hl,hm⟩;have oV:spot=none:=by
  have:=hs 0 h0;simpa [Addr.add] using cell?_spot this
 subst oV;refine⟨b,off,rfl,?_,fun j hj=>?_⟩
 ·have:=hs 0 h0;by_cases hb:b<w.heap.size
  ·exact hb
  rw[F9] at this;simp[cell?,Array.getElem?_eq_none (by omega:w.heap.size<=b)] at this
 have:=hs j hj;rwa [F9] at this
theorem zjN{H:Type}{enc:TypeId × Value->H}{base:Nat}{len:Nat}{x:DataW H × List MemPlace}
  (h:trod enc prog w base spare held fuel 23 [.slice a len cap]=some x):∃l:List ByteArray,l.length=len/\tC w a l/\len<=cap/\cap<=maxLen/\∀j (h:j<l.length),l[j].size<=maxLen:=by
 rcases open_slice underlying23 h with ⟨gH,_⟩|⟨ad,l,c,m,n,D,Pl,gH,hb,hl,hm,jR,hx,hi⟩
 ·simp at gH;obtain⟨rfl,rfl,rfl⟩:=gH;exact⟨[],rfl,fun h=>absurd h (by simp),le_refl _,by unfold maxLen;omega,fun j h=>absurd h (by simp)⟩
 simp at gH;obtain⟨rfl,rfl,rfl⟩:=gH;have h1:prog.cellsOf 9=1:=by kernel_rfl
 have hp:∀i,i<len->∃s:ByteArray,w.cell? (ad.add i)=some (.string s)/\s.size<=maxLen:=by
  intro i Us;obtain⟨im,hc,ht⟩:=hi i (by rw[jR];split <;> omega);rw[h1] at hc;obtain⟨_,eR,fD⟩:=cells?_some hc;obtain⟨s,e,_,hs⟩:=trod_string underlying9 ht;have h2:=fD 0 (by omega);rw[Go.Deep.add_add,e] at h2;exact⟨s,by simpa using h2,hs⟩
 obtain⟨b,off,spot⟩:=ad;obtain⟨G,hs⟩:∃G:Nat->ByteArray,∀i,i<len->w.cell? ((⟨b,off,spot⟩:Addr).add i)=some (.string (G i))/\(G i).size<=maxLen:=
  ⟨fun i=>if h:i<len then Classical.choose (hp i h) else ⟨#[]⟩,fun i h=>by
   have:=choose_spec (hp i h)
   simp only[dif_pos h]
   exact this⟩
 refine⟨(range len).map G,by simp,fun h0=>?_,hl,hm,fun j hj=>by simp at hj⊢;exact (hs j hj).2⟩;simp at h0;have oV:spot=none:=by
  have:=(hs 0 h0).1;simpa [Addr.add] using cell?_spot this
 subst oV;refine⟨b,off,rfl,?_,fun j hj=>?_⟩
 ·have:=(hs 0 h0).1;by_cases hb:b<w.heap.size
  ·exact hb
  rw[F9] at this;simp[cell?,Array.getElem?_eq_none (by omega:w.heap.size<=b)] at this
 simp at hj;have:=(hs j hj).1;rw[F9] at this;rw[this];simp
theorem zlh{H:Type}{enc:TypeId × Value->H}{base:Nat}{cs:List Value}{x:DataW H × List MemPlace}(hlen:cs.length=3)
  (h:trod enc prog w base spare held fuel 55 cs=some x):∃p:Ru,cs=eK p/\p.nm.size<=maxLen/\p.rx.size<=maxLen:=by
 have c3:prog.cellsOf 3=1:=by kernel_rfl
 have c4:prog.cellsOf 9=1:=by kernel_rfl
 obtain⟨ys,n',GD,hy,hl,A4,hf⟩:=trod_struct underlying55 h;have f0:=hf 0 _ rfl;have f1:=hf 1 _ rfl;have f2:=hf 2 _ rfl
 match cs,hlen with
 | [v0,v1,v2],_=>
  simp[c3,c4] at f0 f1 f2
  match ys,A4 with
  | [y0,y1,y2],_=>
   simp at f0 f1 f2;obtain⟨s,e0,_,hs⟩:=trod_string underlying9 f0;obtain⟨r,e1,_⟩:=trod_int underlying3 f1;obtain⟨p,e2,_,hp⟩:=trod_string underlying9 f2;simp at e0 e1 e2;subst e0 e1 e2;exact⟨⟨s,r,p⟩,rfl,hs,hp⟩
theorem zjO{H:Type}{enc:TypeId × Value->H}{base:Nat}{len:Nat}{x:DataW H × List MemPlace}
  (h:trod enc prog w base spare held fuel 22 [.slice a len cap]=some x):∃l:List Ru,l.length=len/\jL w a l/\len<=cap/\cap<=maxLen/\∀j (h:j<l.length),l[j].nm.size<=maxLen/\l[j].rx.size<=maxLen:=by
 rcases open_slice underlying22 h with ⟨gH,_⟩|⟨ad,l,c,m,n,D,Pl,gH,hb,hl,hm,jR,hx,hi⟩
 ·simp at gH;obtain⟨rfl,rfl,rfl⟩:=gH;exact⟨[],rfl,fun h=>absurd h (by simp),le_refl _,by unfold maxLen;omega,fun j h=>absurd h (by simp)⟩
 simp at gH;obtain⟨rfl,rfl,rfl⟩:=gH;have h7:prog.cellsOf 55=3:=by kernel_rfl
 have hp:∀i,i<len->∃p:Ru,(∀j,j<3->w.cell? (ad.add (i*3+j))=(eK p)[j]?)/\p.nm.size<=maxLen/\p.rx.size<=maxLen:=by
  intro i Us;obtain⟨im,hc,ht⟩:=hi i (by rw[jR];split <;> omega);rw[h7] at hc;obtain⟨_,eR,fD⟩:=cells?_some hc;obtain⟨p,rfl,hs⟩:=zlh eR ht;refine⟨p,fun j hj=>?_,hs⟩;rw[<-Go.Deep.add_add];exact fD j hj
 obtain⟨b,off,spot⟩:=ad;have eO:∃s:Nat->Ru,∀i,i<len->(∀j,j<3->w.cell? ((⟨b,off,spot⟩:Addr).add (i*3+j))=(eK (s i))[j]?)/\(s i).nm.size<=maxLen/\(s i).rx.size<=maxLen:=
  ⟨fun i=>if h:i<len then Classical.choose (hp i h) else ⟨⟨#[]⟩,0,⟨#[]⟩⟩,fun i h=>by
   have:=choose_spec (hp i h)
   simp only[dif_pos h]
   exact this⟩
 obtain⟨s,hs⟩:=eO;refine⟨(range len).map s,by simp,?_,hl,hm,fun j hj=>by simp at hj⊢;exact (hs j hj).2⟩;intro h0;simp at h0;have oV:spot=none:=by
  have:=(hs 0 h0).1 0 (by omega);simpa [Addr.add,eK] using cell?_spot this
 subst oV;have dy:∀i,i<len->∀j,j<3->w.cell? ⟨b,off+(i*3+j),none⟩=(eK (s i))[j]?:=fun i hi j hj=>by
  have:=(hs i hi).1 j hj;rw[F9] at this;exact this
 refine⟨b,off,rfl,?_,fun j hj=>?_⟩
 ·have:=dy 0 h0 0 (by omega);by_cases hb:b<w.heap.size
  ·exact hb
  simp[cell?,eK,Array.getElem?_eq_none (by omega:w.heap.size<=b)] at this
 simp at hj;have h1:=dy (j / 3) (by omega) (j % 3) (by omega);rw[show j / 3*3+j % 3=j by omega] at h1;rw[h1];have h2:=Rb ((range len).map s) (j / 3) (by simp;omega) (j % 3) (by omega);rw[show j / 3*3+j % 3=j by omega] at h2;rw[h2];simp
theorem T2{H:Type}{enc:TypeId × Value->H}{base:Nat}{len:Nat}{x:DataW H × List MemPlace}{α:Type}
  (k:Nat) (hk:0<k) (t e:TypeId) (R2:prog.underlying t=some (.slice e)) (hce:prog.cellsOf e=k) (f:α->List Value) (hf:∀p,(f p).length=k) (Q:α->Prop) (d:α)
  (el:∀fuel cs x,cs.length=k->trod enc prog w base spare held fuel e cs=some x->∃p,cs=f p/\Q p)
  (h:trod enc prog w base spare held fuel t [.slice a len cap]=some x):
  ∃l:List α,l.length=len/\(0<l.length->∃g off,a=some ⟨g,off,none⟩/\g<w.heap.size/\∀i (h:i<l.length),Q l[i]/\∀j,j<k->w.cell? ⟨g,off+i*k+j,none⟩=(f l[i])[j]?)/\len<=cap/\cap<=maxLen/\∀i (h:i<l.length),Q l[i]:=by
 rcases open_slice R2 h with ⟨gH,_⟩|⟨ad,l,c,m,n,D,Pl,gH,hb,hl,hm,jR,hx,hi⟩
 ·simp at gH;obtain⟨rfl,rfl,rfl⟩:=gH;exact⟨[],rfl,fun h=>absurd h (by simp),le_refl _,by unfold maxLen;omega,fun j h=>absurd h (by simp)⟩
 simp at gH;obtain⟨rfl,rfl,rfl⟩:=gH;have hp:∀i,i<len->∃p:α,(∀j,j<k->w.cell? (ad.add (i*k+j))=(f p)[j]?)/\Q p:=by
  intro i Us;obtain⟨im,hc,ht⟩:=hi i (by rw[jR];split <;> omega);rw[hce] at hc;obtain⟨_,eR,fD⟩:=cells?_some hc;obtain⟨p,rfl,hs⟩:=el _ _ _ eR ht;refine⟨p,fun j hj=>?_,hs⟩;rw[<-Go.Deep.add_add];exact fD j hj
 obtain⟨b,off,spot⟩:=ad;have eO:∃s:Nat->α,∀i,i<len->(∀j,j<k->w.cell? ((⟨b,off,spot⟩:Addr).add (i*k+j))=(f (s i))[j]?)/\Q (s i):=
  ⟨fun i=>if h:i<len then Classical.choose (hp i h) else d,fun i h=>by
   have:=choose_spec (hp i h)
   simp only[dif_pos h]
   exact this⟩
 obtain⟨s,hs⟩:=eO;have hQ:∀i (h:i<((range len).map s).length),Q ((range len).map s)[i]:=fun i hi=>by
  simp at hi⊢;exact (hs i hi).2
 refine⟨(range len).map s,by simp,?_,hl,hm,hQ⟩;intro h0;simp at h0;obtain⟨v,hv⟩:∃v,(f (s 0))[0]?=some v:=⟨_,List.getElem?_eq_getElem (by rw[hf];exact hk)⟩
 have oV:spot=none:=by
  have h1:=(hs 0 h0).1 0 hk;rw[hv] at h1;have h2:=cell?_spot h1;simpa [Addr.add] using h2
 subst oV;have dy:∀i,i<len->∀j,j<k->w.cell? ⟨b,off+(i*k+j),none⟩=(f (s i))[j]?:=fun i hi j hj=>by
  have:=(hs i hi).1 j hj;rw[F9] at this;exact this
 refine⟨b,off,rfl,?_,fun i hi=>⟨hQ i hi,fun j hj=>?_⟩⟩
 ·have h1:=dy 0 h0 0 hk;rw[hv] at h1;by_cases hb:b<w.heap.size
  ·exact hb
  simp[cell?,Array.getElem?_eq_none (by omega:w.heap.size<=b)] at h1
 simp at hi;have h1:=dy i hi j hj;rw[Nat.add_assoc,h1];simp
section
variable {H : Type}{enc : TypeId × Value → H}{w : World}{base : Nat}{spare : Nat → Bool}{held : Bool}
theorem Dq{t e:TypeId}(R2:prog.underlying t=some (.slice e)){x:DataW H × List MemPlace}(h:trod enc prog w base spare held fuel t [v]=some x):∃a n c,v=.slice a n c:=by
 rcases open_slice R2 h with ⟨gH,_⟩|⟨ad,l,c,m,n,D,Pl,gH,_⟩
 ·simp at gH;exact⟨_,_,_,gH⟩
 simp at gH;exact⟨_,_,_,gH⟩
theorem zjP(fuel:Nat)(cs:List Value)(x:DataW H × List MemPlace)(hlen:cs.length=2)(h:trod enc prog w base spare held fuel 38 cs=some x):∃p:Sy,cs=js p/\True:=by
 have c3:prog.cellsOf 3=1:=by kernel_rfl
 have c4:prog.cellsOf 4=1:=by kernel_rfl
 obtain⟨ys,n',GD,hy,hl,A4,hf⟩:=trod_struct underlying38 h;have f0:=hf 0 _ rfl;have f1:=hf 1 _ rfl
 match cs,hlen with
 | [v0,v1],_=>
  simp[c3,c4] at f0 f1
  match ys,A4 with
  | [y0,y1],_=>
   simp at f0 f1;obtain⟨s,e0,_⟩:=trod_bool underlying4 f0;obtain⟨r,e1,_⟩:=trod_int underlying3 f1;simp at e0 e1;subst e0 e1;exact⟨⟨s,r⟩,rfl,trivial⟩
theorem zd6{len:Nat}{x:DataW H × List MemPlace}(h:trod enc prog w base spare held fuel 43 [.slice a len cap]=some x):∃l:List Int,l.length=len/\iP w a l/\len<=maxLen:=by
 obtain⟨⟨g,hg⟩,h1,h2⟩:=zjM h;refine⟨(range len).map g,by simp,?_,le_trans h1 h2⟩;intro h0;rw[show ((range len).map g).length=len by simp] at h0⊢;obtain⟨b,off,e,hb,hc⟩:=hg h0;exact⟨b,off,e,hb,fun j hj=>by rw[hc j hj];simp[hj]⟩
theorem zhu(fuel:Nat)(cs:List Value)(x:DataW H × List MemPlace)(hlen:cs.length=6)(h:trod enc prog w base spare held fuel 47 cs=some x):∃p:iF,cs=nM p/\(p.At w/\p.dR.size<=maxLen/\p.body.length<=maxLen/\p.hints.length<=maxLen):=by
 have c3:prog.cellsOf 3=1:=by kernel_rfl
 have c4:prog.cellsOf 4=1:=by kernel_rfl
 have c5:prog.cellsOf 9=1:=by kernel_rfl
 have c6:prog.cellsOf 43=1:=by kernel_rfl
 have c7:prog.cellsOf 45=1:=by kernel_rfl
 have c8:prog.cellsOf 38=2:=by kernel_rfl
 obtain⟨ys,n',GD,hy,hl,A4,hf⟩:=trod_struct underlying47 h;have f0:=hf 0 _ rfl;have f1:=hf 1 _ rfl;have f2:=hf 2 _ rfl;have f3:=hf 3 _ rfl;have f4:=hf 4 _ rfl;have f5:=hf 5 _ rfl
 match cs,hlen with
 | [v0,v1,v2,v3,v4,v5],_=>
  simp[c3,c4,c5,c6,c7] at f0 f1 f2 f3 f4 f5
  match ys,A4 with
  | [y0,y1,y2,y3,y4,y5],_=>
   simp at f0 f1 f2 f3 f4 f5;obtain⟨r,e0,_⟩:=trod_int underlying3 f0;obtain⟨s,e1,_,hs⟩:=trod_string underlying9 f1;obtain⟨a2,n2,k2,rfl⟩:=Dq underlying45 f2;obtain⟨b,e3,_⟩:=trod_bool underlying4 f3;obtain⟨p,e4,_⟩:=trod_int underlying3 f4;obtain⟨a5,n5,k5,rfl⟩:=Dq underlying43 f5;obtain⟨B,hB,sB,l2,m2,_⟩:=T2 2 (by decide) _ _ underlying45 c8 js (fun _=>rfl) (fun _=>True) ⟨false,0⟩ zjP f2;obtain⟨Z,hZ,sZ,m5⟩:=zd6 f5;simp at e0 e1 e3 e4;subst e0 e1 e3 e4 hB hZ;refine⟨⟨r,s,a2,k2,B,b,p,a5,k5,Z⟩,rfl,⟨fun h0=>?_,sZ⟩,hs,le_trans l2 m2,m5⟩;obtain⟨g,off,e,hg,hc⟩:=sB h0;exact⟨g,off,e,hg,fun i hi=>(hc i hi).2⟩
theorem zgo(fuel:Nat)(cs:List Value)(x:DataW H × List MemPlace)(hlen:cs.length=2)(h:trod enc prog w base spare held fuel 58 cs=some x):∃p:tx,cs=qV p/\(iP w p.ar p.rules/\p.rules.length<=maxLen):=by
 have c3:prog.cellsOf 3=1:=by kernel_rfl
 have c6:prog.cellsOf 43=1:=by kernel_rfl
 obtain⟨ys,n',GD,hy,hl,A4,hf⟩:=trod_struct underlying58 h;have f0:=hf 0 _ rfl;have f1:=hf 1 _ rfl
 match cs,hlen with
 | [v0,v1],_=>
  simp[c3,c6] at f0 f1
  match ys,A4 with
  | [y0,y1],_=>
   simp at f0 f1;obtain⟨r,e0,_⟩:=trod_int underlying3 f0;obtain⟨a5,n5,k5,rfl⟩:=Dq underlying43 f1;obtain⟨Z,hZ,sZ,m5⟩:=zd6 f1;simp at e0;subst e0 hZ;exact⟨⟨r,a5,k5,Z⟩,rfl,sZ,m5⟩
theorem zli(fuel:Nat)(cs:List Value)(x:DataW H × List MemPlace)(hlen:cs.length=5)(h:trod enc prog w base spare held fuel 27 cs=some x):∃G:Gr,cs=G.cells/\G.At w/\G.mE maxLen/\G.R.length<=G.cR/\G.S.length<=G.cS/\G.P.length<=G.cP/\G.L.length<=G.cL:=by
 have c3:prog.cellsOf 3=1:=by kernel_rfl
 have c4:prog.cellsOf 22=1:=by kernel_rfl
 have c5:prog.cellsOf 23=1:=by kernel_rfl
 have c6:prog.cellsOf 24=1:=by kernel_rfl
 have c7:prog.cellsOf 25=1:=by kernel_rfl
 have c8:prog.cellsOf 47=6:=by kernel_rfl
 have c9:prog.cellsOf 58=2:=by kernel_rfl
 obtain⟨ys,n',GD,hy,hl,A4,hf⟩:=trod_struct underlying27 h;have f0:=hf 0 _ rfl;have f1:=hf 1 _ rfl;have f2:=hf 2 _ rfl;have f3:=hf 3 _ rfl;have f4:=hf 4 _ rfl
 match cs,hlen with
 | [v0,v1,v2,v3,v4],_=>
  simp[c3,c4,c5,c6,c7] at f0 f1 f2 f3 f4
  match ys,A4 with
  | [y0,y1,y2,y3,y4],_=>
   simp at f0 f1 f2 f3 f4;obtain⟨a0,n0,k0,rfl⟩:=Dq underlying22 f0;obtain⟨a1,n1,k1,rfl⟩:=Dq underlying23 f1;obtain⟨a2,n2,k2,rfl⟩:=Dq underlying24 f2;obtain⟨a3,n3,k3,rfl⟩:=Dq underlying25 f3;obtain⟨st,e4,_⟩:=trod_int underlying3 f4;obtain⟨R,hR,sR,lR,mR,zR⟩:=zjO f0;obtain⟨S,hS,sS,lS,mS,zS⟩:=zjN f1;obtain⟨P,hP,sP,lP,mP,zP⟩:=T2 6 (by decide) _ _ underlying24 c8 nM (fun _=>rfl) (fun p=>p.At w/\p.dR.size<=maxLen/\p.body.length<=maxLen/\p.hints.length<=maxLen) ⟨0,⟨#[]⟩,none,0,[],false,0,none,0,[]⟩ zhu f2;obtain⟨L,hL,sL,lL,mL,zL⟩:=T2 2 (by decide) _ _ underlying25 c9 qV (fun _=>rfl) (fun p=>iP w p.ar p.rules/\p.rules.length<=maxLen) ⟨0,none,0,[]⟩ zgo f3;simp at e4;subst e4 hR hS hP hL;refine⟨⟨a0,k0,R,a1,k1,S,a2,k2,P,a3,k3,L,st⟩,rfl,⟨sR,sS,fun h0=>?_,fun h0=>?_⟩,⟨le_trans lR mR,le_trans lS mS,le_trans lP mP,le_trans lL mL,zR,zS,fun i hi=>(zP i hi).2,fun i hi=>(zL i hi).2⟩,lR,lS,lP,lL⟩
   ·obtain⟨g,off,e,hg,hc⟩:=sP h0;exact⟨g,off,e,hg,fun i hi=>⟨(hc i hi).1.1,(hc i hi).2⟩⟩
   obtain⟨g,off,e,hg,hc⟩:=sL h0;exact⟨g,off,e,hg,fun i hi=>⟨(hc i hi).1.1,(hc i hi).2⟩⟩
theorem zft{b0:Nat}{r:Reach}(hk:Value.okWide prog w r b0 27 v)
  (h:∃(fuel:Nat) (x:DataW H × List MemPlace),trod enc prog w base spare held fuel 27 v.cells.toList=some x):
  ∃G:Gr,v=G.val/\G.At w/\G.mE maxLen/\G.R.length<=G.cR/\G.S.length<=G.cS/\G.P.length<=G.cP/\G.L.length<=G.cL:=by
 obtain⟨xs,rfl,cQ⟩:∃xs:Array Value,v=.agg xs/\xs.size=prog.cellsOf 27:=by
  simp only[Value.okWide,underlying27] at hk;obtain⟨cs,h1,h2,_⟩:=hk;exact⟨cs,h1,h2⟩
 rw[show prog.cellsOf 27=5 by kernel_rfl] at cQ;obtain⟨fuel,x,hf⟩:=h;have gH:(Value.agg xs).cells.toList=xs.toList:=rfl;rw[gH] at hf;obtain⟨G,h1,h2⟩:=zli _ _ _ (by simpa using cQ) hf;exact⟨G,by unfold Gr.val;congr 1;exact Array.toList_inj.1 (by rw[h1]),h2⟩
end
def ma(f:Nat->Int):Nat->Int
 | 0=>0
 | n+1=>if ma f n≠0 then ma f n else f n
def CO(f:Nat->Int):Nat->Nat
 | 0=>0
 | n+1=>if ma f n≠0 then CO f n else n
theorem tL{n:Nat}(h:∀j,j<n->f j=0):ma f n=0:=by
 induction n with
 | zero=>rfl
 | succ n ih=>
  have h1:=ih (fun j hj=>h j (by omega));simp[ma,h1,h n (by omega)]
theorem BN{n:Nat}(hk:k<n)(h:∀j,j<k->f j=0)(hf:f k≠0):ma f n=f k/\CO f n=k:=by
 induction n with
 | zero=>omega
 | succ n ih=>
  rcases Nat.lt_or_ge k n with h1|h1
  ·obtain⟨e1,e2⟩:=ih h1;simp[ma,CO,e1,hf,e2]
  obtain rfl:k=n:=by omega
  have:=tL h;simp[ma,CO,this]
def vu(G:Gr)(i:Nat):Ru:=G.R.getD i ⟨⟨#[]⟩,0,⟨#[]⟩⟩
def mN(G:Gr)(i:Nat):ByteArray:=G.S.getD i ⟨#[]⟩
def lh(G:Gr)(i:Nat):iF:=G.P.getD i ⟨0,⟨#[]⟩,none,0,[],false,0,none,0,[]⟩
def dT(G:Gr)(i:Nat):tx:=G.L.getD i ⟨0,none,0,[]⟩
theorem Gv{G:Gr}(h:i<G.R.length):vu G i=G.R[i]:=by simp[vu,h]
theorem xX{G:Gr}(h:i<G.S.length):mN G i=G.S[i]:=by simp[mN,h]
theorem DD{G:Gr}(h:i<G.P.length):lh G i=G.P[i]:=by simp[lh,h]
theorem Gl{G:Gr}(h:i<G.L.length):dT G i=G.L[i]:=by simp[dT,h]
def gW(G:Gr)(n:Int):Bool:=decide (0<=n/\n<G.R.length) && (vu G n.toNat).k == 0
def yJ(G:Gr)(n:Int):Bool:=decide (0<=n/\n<G.S.length)
def eH(G:Gr)(x:Sy):Bool:=if x.s then yJ G x.n else gW G x.n
def ep(p:iF):Bool:=match p.body with
 | [a,b,c]=>!a.s && b.s && b.n == p.dF && !c.s
 | _=>false
def mr(G:Gr)(x:Sy):ByteArray:=if x.n<0 then ⟨#[63]⟩ else if x.s=true/\x.n<G.S.length then mN G x.n.toNat else if x.s=false/\x.n<G.R.length then (vu G x.n.toNat).nm else ⟨#[63]⟩
noncomputable def fU (G:Gr) (i:Nat):Int:=open Classical in
 if bG (mN G i)=false then 8 else if (∃k,k<i/\mN G k=mN G i) then 9 else if (∃k,k<G.R.length/\(vu G k).nm=mN G i) then 9 else 0
noncomputable def eV (G:Gr) (i:Nat):Int:=open Classical in
 let p:=lh G i
 if p.dF<0\/(G.S.length:Int)<=p.dF then 11 else if bG p.dR=false then 8 else if 12<p.body.length then 6 else if p.hints.length≠p.body.length-1 then 1
 else if (∃k,k<i/\(lh G k).dR=p.dR) then 9 else if (∃x∈p.body,eH G x=false) then 11 else if (∃z∈p.hints,z<0\/3<z) then 1
 else if p.prec≠-1/\gW G p.prec=false then 11 else if p.par=true/\ep p=false then 15 else 0
def gm(G:Gr)(i k:Nat):Prop:=∃a b,(a<i\/a=i/\b<k)/\b<(dT G a).rules.length/\(dT G a).rules.getD b 0=(dT G i).rules.getD k 0
noncomputable def vg (G:Gr) (i k:Nat):Int:=open Classical in
 if gW G ((dT G i).rules.getD k 0)=false then 11 else if gm G i k then 9 else 0
noncomputable def kg (G:Gr) (i:Nat):Int:=if (dT G i).side<1\/3<(dT G i).side\/(dT G i).rules.length=0\/60<=i then 1 else ma (vg G i) (dT G i).rules.length
noncomputable def dw (G:Gr):Int × Int × Int:=
 if 300<G.S.length then (6,2,G.S.length) else if ma (fU G) G.S.length≠0 then (ma (fU G) G.S.length,2,CO (fU G) G.S.length)
 else if 200<G.P.length then (6,3,G.P.length) else if ma (eV G) G.P.length≠0 then (ma (eV G) G.P.length,3,CO (eV G) G.P.length)
 else if ma (kg G) G.L.length≠0 then (ma (kg G) G.L.length,4,CO (kg G) G.L.length)
 else if G.st<0\/(G.S.length:Int)<=G.st then (11,5,0) else (0,0,0)
structure jJ (w:World)(b:Nat)(G:Gr):Prop where
 c0:w.cell? ⟨b,0,none⟩=some (.slice G.aR G.R.length G.cR)
 c1:w.cell? ⟨b,1,none⟩=some (.slice G.aS G.S.length G.cS)
 c2:w.cell? ⟨b,2,none⟩=some (.slice G.aP G.P.length G.cP)
 c3:w.cell? ⟨b,3,none⟩=some (.slice G.aL G.L.length G.cL)
 c4:w.cell? ⟨b,4,none⟩=some (.int .i64 G.st)
 lt:b<w.heap.size
theorem jJ.below{b:Nat}{G:Gr}(h:jJ w b G)(k:ϐ w w'):jJ w' b G:=
 ⟨(k.cell (p:=⟨b,0,none⟩) h.lt).trans h.c0,(k.cell (p:=⟨b,1,none⟩) h.lt).trans h.c1,(k.cell (p:=⟨b,2,none⟩) h.lt).trans h.c2,(k.cell (p:=⟨b,3,none⟩) h.lt).trans h.c3,(k.cell (p:=⟨b,4,none⟩) h.lt).trans h.c4,by have:=k.size;have:=h.lt;omega⟩
theorem rC(w:World)(cs:Array Value)(t:TypeId)(i:Nat)(v:Value)(h:cs[i]?=some v):(w.alloc (.cells cs t)).cell? ⟨w.heap.size,i,none⟩=some v:=by
 have hb:(w.alloc (.cells cs t)).heap[w.heap.size]?=some (.cells cs t (0,0)):=heap_alloc_new w _;rw[cell_of_row _ _ i cs t (0,0) hb];exact h
theorem jJ.new(w:World)(G:Gr)(t:TypeId):jJ (w.alloc (.cells #[.slice G.aR G.R.length G.cR,.slice G.aS G.S.length G.cS,.slice G.aP G.P.length G.cP,.slice G.aL G.L.length G.cL,.int .i64 G.st] t)) w.heap.size G:=
 ⟨rC _ _ _ _ _ rfl,rC _ _ _ _ _ rfl,rC _ _ _ _ _ rfl,rC _ _ _ _ _ rfl,rC _ _ _ _ _ rfl,by simp⟩
structure xz (w:World)(b:Nat)(x:Sy):Prop where
 c0:w.cell? ⟨b,0,none⟩=some (.bool x.s)
 c1:w.cell? ⟨b,1,none⟩=some (.int .i64 x.n)
 lt:b<w.heap.size
theorem xz.below{b:Nat}{x:Sy}(h:xz w b x)(k:ϐ w w'):xz w' b x:=
 ⟨(k.cell (p:=⟨b,0,none⟩) h.lt).trans h.c0,(k.cell (p:=⟨b,1,none⟩) h.lt).trans h.c1,by have:=k.size;have:=h.lt;omega⟩
theorem xz.new(w:World)(x:Sy)(t:TypeId):xz (w.alloc (.cells #[.bool x.s,.int .i64 x.n] t)) w.heap.size x:=⟨rC _ _ _ _ _ rfl,rC _ _ _ _ _ rfl,by simp⟩
structure pJ (w:World)(b:Nat)(x:iF):Prop where
 c0:w.cell? ⟨b,0,none⟩=some (.int .i64 x.dF)
 c1:w.cell? ⟨b,1,none⟩=some (.string x.dR)
 c2:w.cell? ⟨b,2,none⟩=some (.slice x.ab x.body.length x.cb)
 c3:w.cell? ⟨b,3,none⟩=some (.bool x.par)
 c4:w.cell? ⟨b,4,none⟩=some (.int .i64 x.prec)
 c5:w.cell? ⟨b,5,none⟩=some (.slice x.ah x.hints.length x.ch)
 lt:b<w.heap.size
theorem pJ.below{b:Nat}{x:iF}(h:pJ w b x)(k:ϐ w w'):pJ w' b x:=
 ⟨(k.cell (p:=⟨b,0,none⟩) h.lt).trans h.c0,(k.cell (p:=⟨b,1,none⟩) h.lt).trans h.c1,(k.cell (p:=⟨b,2,none⟩) h.lt).trans h.c2,(k.cell (p:=⟨b,3,none⟩) h.lt).trans h.c3,(k.cell (p:=⟨b,4,none⟩) h.lt).trans h.c4,(k.cell (p:=⟨b,5,none⟩) h.lt).trans h.c5,by have:=k.size;have:=h.lt;omega⟩
theorem pJ.new(w:World)(x:iF)(t:TypeId):pJ (w.alloc (.cells #[.int .i64 x.dF,.string x.dR,.slice x.ab x.body.length x.cb,.bool x.par,.int .i64 x.prec,.slice x.ah x.hints.length x.ch] t)) w.heap.size x:=
 ⟨rC _ _ _ _ _ rfl,rC _ _ _ _ _ rfl,rC _ _ _ _ _ rfl,rC _ _ _ _ _ rfl,rC _ _ _ _ _ rfl,rC _ _ _ _ _ rfl,by simp⟩
structure wi (w:World)(b:Nat)(x:tx):Prop where
 c0:w.cell? ⟨b,0,none⟩=some (.int .i64 x.side)
 c1:w.cell? ⟨b,1,none⟩=some (.slice x.ar x.rules.length x.cr)
 lt:b<w.heap.size
theorem wi.below{b:Nat}{x:tx}(h:wi w b x)(k:ϐ w w'):wi w' b x:=
 ⟨(k.cell (p:=⟨b,0,none⟩) h.lt).trans h.c0,(k.cell (p:=⟨b,1,none⟩) h.lt).trans h.c1,by have:=k.size;have:=h.lt;omega⟩
theorem wi.new(w:World)(x:tx)(t:TypeId):wi (w.alloc (.cells #[.int .i64 x.side,.slice x.ar x.rules.length x.cr] t)) w.heap.size x:=⟨rC _ _ _ _ _ rfl,rC _ _ _ _ _ rfl,by simp⟩
theorem xJ(w:World)(x:Gr):∃w2,w.alloc (.cells #[.slice x.aR x.R.length x.cR,.slice x.aS x.S.length x.cS,.slice x.aP x.P.length x.cP,.slice x.aL x.L.length x.cL,.int .i64 x.st] 27)=w2/\Hid (jJ w2 w.heap.size x/\ϐ w w2)/\Hid (w2.heap.size=w.heap.size+1):=⟨_,rfl,⟨jJ.new w x _,al w _⟩,by show _=_;simp⟩
theorem bxS(w:World)(x:Sy):∃w2,w.alloc (.cells #[.bool x.s,.int .i64 x.n] 38)=w2/\Hid (xz w2 w.heap.size x/\ϐ w w2)/\Hid (w2.heap.size=w.heap.size+1):=⟨_,rfl,⟨xz.new w x _,al w _⟩,by show _=_;simp⟩
theorem UP(w:World)(x:iF):∃w2,w.alloc (.cells #[.int .i64 x.dF,.string x.dR,.slice x.ab x.body.length x.cb,.bool x.par,.int .i64 x.prec,.slice x.ah x.hints.length x.ch] 47)=w2/\Hid (pJ w2 w.heap.size x/\ϐ w w2)/\Hid (w2.heap.size=w.heap.size+1):=⟨_,rfl,⟨pJ.new w x _,al w _⟩,by show _=_;simp⟩
theorem Si(w:World)(x:Gr)(y:Gr):∃w2,(w.alloc (.cells #[.slice x.aR x.R.length x.cR,.slice x.aS x.S.length x.cS,.slice x.aP x.P.length x.cP,.slice x.aL x.L.length x.cL,.int .i64 x.st] 27)).alloc (.cells #[.slice y.aR y.R.length y.cR,.slice y.aS y.S.length y.cS,.slice y.aP y.P.length y.cP,.slice y.aL y.L.length y.cL,.int .i64 y.st] 27)=w2/\Hid (jJ w2 w.heap.size x/\jJ w2 (w.heap.size+1) y/\ϐ w w2)/\Hid (w2.heap.size=w.heap.size+2):=
 ⟨_,rfl,⟨(jJ.new w x _).below (al _ _),by have h:=jJ.new (w.alloc (.cells #[.slice x.aR x.R.length x.cR,.slice x.aS x.S.length x.cS,.slice x.aP x.P.length x.cP,.slice x.aL x.L.length x.cL,.int .i64 x.st] 27)) y 27;simpa using h,(al w _).trans ((al _ _).mono (al w _).size)⟩,by show _=_;simp⟩
theorem Fx(w:World)(x:Gr)(y:Sy):∃w2,(w.alloc (.cells #[.slice x.aR x.R.length x.cR,.slice x.aS x.S.length x.cS,.slice x.aP x.P.length x.cP,.slice x.aL x.L.length x.cL,.int .i64 x.st] 27)).alloc (.cells #[.bool y.s,.int .i64 y.n] 38)=w2/\Hid (jJ w2 w.heap.size x/\xz w2 (w.heap.size+1) y/\ϐ w w2)/\Hid (w2.heap.size=w.heap.size+2):=
 ⟨_,rfl,⟨(jJ.new w x _).below (al _ _),by have h:=xz.new (w.alloc (.cells #[.slice x.aR x.R.length x.cR,.slice x.aS x.S.length x.cS,.slice x.aP x.P.length x.cP,.slice x.aL x.L.length x.cL,.int .i64 x.st] 27)) y 38;simpa using h,(al w _).trans ((al _ _).mono (al w _).size)⟩,by show _=_;simp⟩
theorem U6(w:World)(x:iF)(y:iF):∃w2,(w.alloc (.cells #[.int .i64 x.dF,.string x.dR,.slice x.ab x.body.length x.cb,.bool x.par,.int .i64 x.prec,.slice x.ah x.hints.length x.ch] 47)).alloc (.cells #[.int .i64 y.dF,.string y.dR,.slice y.ab y.body.length y.cb,.bool y.par,.int .i64 y.prec,.slice y.ah y.hints.length y.ch] 47)=w2/\Hid (pJ w2 w.heap.size x/\pJ w2 (w.heap.size+1) y/\ϐ w w2)/\Hid (w2.heap.size=w.heap.size+2):=
 ⟨_,rfl,⟨(pJ.new w x _).below (al _ _),by have h:=pJ.new (w.alloc (.cells #[.int .i64 x.dF,.string x.dR,.slice x.ab x.body.length x.cb,.bool x.par,.int .i64 x.prec,.slice x.ah x.hints.length x.ch] 47)) y 47;simpa using h,(al w _).trans ((al _ _).mono (al w _).size)⟩,by show _=_;simp⟩
theorem TG(w:World)(x:tx)(y:tx):∃w2,(w.alloc (.cells #[.int .i64 x.side,.slice x.ar x.rules.length x.cr] 58)).alloc (.cells #[.int .i64 y.side,.slice y.ar y.rules.length y.cr] 58)=w2/\Hid (wi w2 w.heap.size x/\wi w2 (w.heap.size+1) y/\ϐ w w2)/\Hid (w2.heap.size=w.heap.size+2):=
 ⟨_,rfl,⟨(wi.new w x _).below (al _ _),by have h:=wi.new (w.alloc (.cells #[.int .i64 x.side,.slice x.ar x.rules.length x.cr] 58)) y 58;simpa using h,(al w _).trans ((al _ _).mono (al w _).size)⟩,by show _=_;simp⟩
theorem Dy(w:World)(x:Gr)(cs:Array Value)(t:TypeId):∃w2,(w.alloc (.cells #[.slice x.aR x.R.length x.cR,.slice x.aS x.S.length x.cS,.slice x.aP x.P.length x.cP,.slice x.aL x.L.length x.cL,.int .i64 x.st] 27)).alloc (.cells cs t)=w2/\Hid (jJ w2 w.heap.size x/\w2.heap[w.heap.size+1]?=some (.cells cs t (0,0))/\ϐ w w2)/\Hid (w2.heap.size=w.heap.size+2):=
 ⟨_,rfl,⟨(jJ.new w x _).below (al _ _),by have h:=heap_alloc_new (w.alloc (.cells #[.slice x.aR x.R.length x.cR,.slice x.aS x.S.length x.cS,.slice x.aP x.P.length x.cP,.slice x.aL x.L.length x.cL,.int .i64 x.st] 27)) (.cells cs t);simpa using h,(al w _).trans ((al _ _).mono (al w _).size)⟩,by show _=_;simp⟩
open Go.Maps
def rH(b:Bool)(w:World)(e:Ending)(w':World):Prop:=e=.returned (.bool b)/\ϐ w w'
theorem Mn{G:Gr}:yJ G n=(decide (0<=n) && decide (n<G.S.length)):=by
 unfold yJ;by_cases h:0<=n <;> by_cases h':n<G.S.length <;> simp[h,h']
theorem QL{G:Gr}(h:¬(0<=n/\n<G.R.length)):gW G n=false:=by simp only[gW,h];rfl
theorem Z0{G:Gr}(h:k<G.R.length):gW G (k:Int)=(G.R[k].k == 0):=by
 unfold gW;rw[Int.toNat_natCast,Gv h];have:(0<=(k:Int)/\(k:Int)<G.R.length):=⟨by omega,by omega⟩
 simp[this]
theorem Yt(G:Gr)(x:Sy)(w:World)(hA:G.At w)(hL:G.mE 9223372036854775807):
  Calls prog 15 #[G.val,.agg (js x).toArray] w (rH (eH G x) w):=by
 show Calls prog 15 #[ϑ G,.agg #[.bool x.s,.int .i64 x.n]] w _;unfold ϑ;have HA:=hid hA;have Hw:=hL.r;have tk:=hL.s;clear hA hL;obtain⟨w2,dQ,H,ib⟩:=Fx w G x;go_in;go_upto_region 1 with fail
 try rw[dQ]
 clear dQ;have c0:=H.o.1.c0;have c1:=H.o.1.c1;have s0:=H.o.2.1.c0;have s1:=H.o.2.1.c1;have HB:=hid H.o.2.2;obtain⟨xs,n⟩:=x;dsimp only at s0 s1;rcases xs with _|_
 ·by_cases h0:0<=n
  ·by_cases h1:n<(G.R.length:Int)
   ·obtain⟨k,rfl⟩:=Int.eq_ofNat_of_zero_le h0;have hk:k<G.R.length:=(by omega);obtain⟨g1,o1,e1,jF,x0,x1,x2⟩:=(HA.o.below HB.o).r.get k hk;have HZ:Hid (eH G ⟨false,(k:Int)⟩=(G.R[k].k == 0)):=Z0 hk;rw[e1] at c0;generalize G.R[k].k=q at x1 HZ;clear x0 x2 e1;go_wp2;go_ret;exact⟨by rw[HZ.o];rfl,HB.o⟩
   have HZ:Hid (eH G ⟨false,n⟩=false):=QL (fun h=>h1 h.2);go_wp2;go_ret;exact⟨by rw[HZ.o];rfl,HB.o⟩
  have HZ:Hid (eH G ⟨false,n⟩=false):=QL (fun h=>h0 h.1);go_wp2;go_ret;exact⟨by rw[HZ.o];rfl,HB.o⟩
 have HZ:Hid (eH G ⟨true,n⟩=(decide (0<=n) && decide (n<G.S.length))):=Mn;by_cases h0:0<=n
 ·by_cases h1:n<(G.S.length:Int)
  ·go_wp2;go_ret;exact⟨by rw[HZ.o];simp[h0,h1],HB.o⟩
  go_wp2;go_ret;exact⟨by rw[HZ.o];simp[h0,h1],HB.o⟩
 go_wp2;go_ret;exact⟨by rw[HZ.o];simp;omega,HB.o⟩
theorem jQ(w:World){w1:World}(h:ϐ w w1)(n:Nat):ϐ w (w1.drewN n):=h.trans ⟨rfl,rfl,rfl,le_refl _,fun _ _=>rfl⟩
variable {P : Program}{md : Region.Mode}{ops : Array Oper}{Q : Exit → Act → World → Prop}{S : World → Prop}
theorem bF(i:Nat){a:Act}
  (h:wpAnyH P md ops Q S fuel (cG.setIfInBounds i true) (a.put oi.dst v) w)
  (hi:ops[i]?=some oi:=by (simp only[List.getElem?_toArray,List.getElem?_cons_succ,List.getElem?_cons_zero]);first|done|rfl)
  (hs:noSelect ops=true:=by kernel_rfl) (hf:free md ops cG i=true:=by kernel_rfl) (hr:(ready md ops cG).contains i=true:=by kernel_rfl)
  (hQ:∀c a w,Q (.panic c) (a.put oi.dst v) w->Q (.panic c) a w:=by exact fun _ _ _ h=>h) (hS:S w:=by assumption)
  (hw:wanted oi (yielded ops a.tmps)=true:=by rfl)
  (hy:∀w,S w->(execOp a.eval oi).run P w=.ok (.value v) w:=by intro wz hSw;cases hSw;(try simp only[Act.put,sA]);go_simp;first|done|with_reducible rfl):wpAnyH P md ops Q S (fuel+1) cG a w:=
 wpAnyH_take hi hs hf hr hQ (Or.inl ⟨hw,hy⟩) hS h
theorem cq(i:Nat){a:Act}
  (h:wpAnyH P md ops Q S fuel (cG.setIfInBounds i true) (a.put oi.dst v) w)
  (hi:ops[i]?=some oi:=by (simp only[List.getElem?_toArray,List.getElem?_cons_succ,List.getElem?_cons_zero]);first|done|rfl)
  (hs:noSelect ops=true:=by kernel_rfl) (hf:free md ops cG i=true:=by kernel_rfl) (hr:(ready md ops cG).contains i=true:=by kernel_rfl)
  (hQ:∀c a w,Q (.panic c) (a.put oi.dst v) w->Q (.panic c) a w:=by exact fun _ _ _ h=>h) (hS:S w:=by assumption)
  (hw:wanted oi (yielded ops a.tmps)=true:=by rfl)
  (hy:∀w,S w->(execOp a.eval oi).run P w=.ok (.value v) w:=by intro wz hSw;cases hSw;(repeat cases ‹_/\_›);(repeat cases ‹jJ _ _ _›);(repeat cases ‹pJ _ _ _›);(repeat cases ‹xz _ _ _›);(try simp only[Act.put,sA]);go_simp;first|done|with_reducible rfl):wpAnyH P md ops Q S (fuel+1) cG a w:=
 wpAnyH_take hi hs hf hr hQ (Or.inl ⟨hw,hy⟩) hS h
def BV(l:List Ru)(k:Nat):Prop:=∀j (h:j<l.length),j<k->l[j].rx.size<=40/\l[j].nm.size<=100
def Q7(l:List Ru)(w:World)(e:Ending)(w':World):Prop:=∃bo:Bool,e=.returned (.bool bo)/\(bo=true->l.length<=20/\BV l l.length)/\ϐ w w'
theorem zlk(n c:Nat)(a:Option Addr)(l:List Ru)(hl:l.length=n)(hn:n<=9223372036854775807)(w:World)(h1:jL w a l):
  Calls prog 25 #[.slice a n c] w (Q7 l w):=by
 have H:=ζ h1 hl;clear h1 hl;go_in;by_cases h20:20<n
 ·have i1:(20:Int)<n:=by omega
  go_wp2;go_ret;exact⟨false,rfl,fun h=>(by cases h),Below.refl _ _⟩
 have i1:¬((20:Int)<n):=by omega
 go_wp2;go_loopw [3] (fun v wr=>∃k:Nat,v=.int .i64 k/\k<=n/\wr=w/\Hid (BV l k)) (fun v _=>n-(intOf v).toNat)
 ·exact⟨0,rfl,Nat.zero_le _,rfl,fun j _ h=>by omega⟩
 obtain⟨k,rfl,hk,rfl,HK⟩:=hrel;by_cases aq:k<n
 ·have hkl:k<l.length:=by rw[H.o.2];exact aq
  obtain⟨g,o,rfl,_,x0,x1,x2⟩:=H.o.1.get k hkl;have i2:(k:Int)<n:=by omega
  have HS:Hid (l[k].rx.size<=40->l[k].nm.size<=100->BV l (k+1)):=fun h1 h2 j hj hjk=>by
   by_cases e:j=k
   ·subst e;exact⟨h1,h2⟩
   exact HK.o j hj (by omega)
  clear x1;generalize l[k].nm=nm at x0 HS;generalize l[k].rx=rx at x2 HS;by_cases UZ:40<rx.size
  ·have i3:decide ((40:Int)<(rx.size:Int))=true:=(by simp;omega);go_wp2;go_ret;exact⟨false,rfl,fun h=>(by cases h),Below.refl _ _⟩
  have i3:decide ((40:Int)<(rx.size:Int))=false:=by simp;omega
  by_cases h100:100<nm.size
  ·have i4:((100:Int)<(nm.size:Int)):=(by omega);go_wp2;go_ret;exact⟨false,rfl,fun h=>(by cases h),Below.refl _ _⟩
  have i4:¬((100:Int)<(nm.size:Int)):=by omega
  have HZ:=hid (HS.o (by omega) (by omega));go_wp2;go_roundw
  ·exact⟨k+1,by go_num,by omega,trivial,HZ.o⟩
  simp[intOf];omega
 obtain rfl:k=n:=by omega
 have i2:¬((k:Int)<k):=by omega
 go_wp2;go_ret;exact⟨true,rfl,fun _=>⟨by rw[H.o.2];omega,by rw[H.o.2];exact HK.o⟩,Below.refl _ _⟩
def BK(s:ByteArray)(w:World)(e:Ending)(w':World):Prop:=e=.returned (.string s)/\ϐ w w'
theorem zll{G:Gr}{x:Sy}(h:x.n<0):mr G x=⟨#[63]⟩:=if_pos h
theorem zr1{G:Gr}(h:k<G.S.length):mr G ⟨true,(k:Int)⟩=G.S[k]:=by
 unfold mr;rw[if_neg (by show ¬((k:Int)<0);omega),if_pos ⟨rfl,by show (k:Int)<_;omega⟩];show mN G (Int.toNat (k:Int))=_;rw[Int.toNat_natCast,xX h]
theorem zr2{G:Gr}(h:k<G.R.length):mr G ⟨false,(k:Int)⟩=G.R[k].nm:=by
 unfold mr;rw[if_neg (by show ¬((k:Int)<0);omega),if_neg (fun h=>by cases h.1),if_pos ⟨rfl,by show (k:Int)<_;omega⟩];show (vu G (Int.toNat (k:Int))).nm=_;rw[Int.toNat_natCast,Gv h]
theorem zri{G:Gr}(h:¬n<G.S.length):mr G ⟨true,n⟩=⟨#[63]⟩:=by
 unfold mr;split
 ·rfl
 rw[if_neg (fun k=>h k.2),if_neg (fun k=>by cases k.1)]
theorem zrj{G:Gr}(h:¬n<G.R.length):mr G ⟨false,n⟩=⟨#[63]⟩:=by
 unfold mr;split
 ·rfl
 rw[if_neg (fun k=>by cases k.1),if_neg (fun k=>h k.2)]
def qS(s:ByteArray):List ByteArray->Nat
 | []=>0
 | a :: l=>if a=s then 0 else qS s l+1
theorem PX{s:ByteArray}(hk:k<l.length)(h:l[k]=s)(hn:∀j (h:j<l.length),j<k->l[j]≠s):qS s l=k:=by
 induction l generalizing k with
 | nil=>simp at hk
 | cons a l ih=>
  cases k with
  | zero=>simp at h;simp[qS,h]
  | succ k=>
   have h0:=hn 0 (by simp) (by omega);simp at h0 h hk;simp only[qS,if_neg h0];rw[ih hk h (fun j hj hjk=>by have:=hn (j+1) (by simp;omega) (by omega);simpa using this)]
theorem M6{s:ByteArray}(hn:∀j (h:j<l.length),l[j]≠s):qS s l=l.length:=by
 induction l with
 | nil=>rfl
 | cons a l ih=>
  have h0:=hn 0 (by simp);simp at h0;simp only[qS,if_neg h0,List.length_cons];rw[ih (fun j hj=>by have:=hn (j+1) (by simp;omega);simpa using this)]
def Am(l:List ByteArray)(s:ByteArray):Int:=if qS s l<l.length then ((qS s l:Nat):Int) else -1
theorem zrk{s:ByteArray}(hk:k<l.length)(h:l[k]=s)(hn:∀j (h:j<l.length),j<k->l[j]≠s):Am l s=(k:Int):=by
 unfold Am;rw[PX hk h hn,if_pos hk]
theorem zrl{s:ByteArray}(hn:∀j (h:j<l.length),l[j]≠s):Am l s=-1:=by
 unfold Am;rw[M6 hn,if_neg (by omega)]
