import Derived.Test.YtiijebameffenaaGreatZIAwk
import Derived.Deep.Upon
set_option linter.all false
set_option maxHeartbeats 4000000
set_option maxRecDepth 100000
open Go.Lib (hid)
namespace Go.Proofs.YtiijebameffenaaGreat
open Go.RowKit
theorem DJ{f:Nat->Int}{n:Nat}(h:iY f n=0):∀j,j<n->f j=0:=by
 induction n with
 | zero=>intro j hj;omega
 | succ n ih=>
  by_cases h1:iY f n=0
  ·have h2:f n=0:=by
    have h3:iY f (n+1)=if iY f n≠0 then iY f n else f n:=(rfl);rw[h3,if_neg (by simp[h1])] at h;exact h
   intro j hj;by_cases e:j=n
   ·subst e;exact h2
   exact ih h1 j (by omega)
  have h3:iY f (n+1)=if iY f n≠0 then iY f n else f n:=rfl
  rw[h3,if_pos h1] at h;exact absurd h h1
structure uJ (G:Gr):Prop where
 s3:¬300<G.S.length
 so:∀j,j<G.S.length->fL G j=0
 p2:¬200<G.P.length
 pr:∀j,j<G.P.length->fY G j=0
 lv:∀j,j<G.L.length->oC G j=0
 st:¬(G.st<0\/(G.S.length:Int)<=G.st)
theorem zlm{G:Gr}(h:(bY G).1=0):uJ G:=by
 by_cases h1:300<G.S.length
 ·rw[znS h1] at h;simp at h
 by_cases h2:iY (fL G) G.S.length=0
 case neg=>
  unfold bY at h;rw[if_neg h1,if_pos h2] at h;exact absurd h h2
 by_cases h3:200<G.P.length
 ·rw[znU h1 (DJ h2) h3] at h;simp at h
 by_cases h4:iY (fY G) G.P.length=0
 case neg=>
  unfold bY at h;rw[if_neg h1,if_neg (by simp[h2]),if_neg h3,if_pos h4] at h;exact absurd h h4
 by_cases h5:iY (oC G) G.L.length=0
 case neg=>
  unfold bY at h;rw[if_neg h1,if_neg (by simp[h2]),if_neg h3,if_neg (by simp[h4]),if_pos h5] at h;exact absurd h h5
 refine⟨h1,DJ h2,h3,DJ h4,DJ h5,fun h6=>?_⟩;rw[Y1 h1 (DJ h2) h3 (DJ h4) (DJ h5),if_pos h6] at h;exact absurd h (by decide)
theorem uJ.Xi{G:Gr}(h:uJ G):bY G=(0,0,0):=by rw[Y1 h.s3 h.so h.p2 h.pr h.lv,if_neg h.st]
theorem uJ.bare{G:Gr}(h:uJ G)(a:Option Addr)(c:Nat):uJ { G with aL:=a,cL:=c,L:=[] }:=⟨h.s3,h.so,h.p2,h.pr,fun j hj=>absurd hj (by simp),h.st⟩
theorem Nc{G:Gr}{i:Nat}(h:fY G i=0):¬((du G i).cj<0\/(G.S.length:Int)<=(du G i).cj)/\bD (du G i).cJ=true/\¬12<(du G i).body.length/\(du G i).hints.length=(du G i).body.length-1/\
  (¬∃k,k<i/\(du G k).cJ=(du G i).cJ)/\(¬∃y∈(du G i).body,dT G y=false)/\(¬∃z∈(du G i).hints,z<0\/3<z)/\¬((du G i).prec≠-1/\ie G (du G i).prec=false)/\¬((du G i).par=true/\eY (du G i)=false):=by
 by_cases h1:(du G i).cj<0\/(G.S.length:Int)<=(du G i).cj
 ·rw[Ty rfl h1] at h;exact absurd h (by decide)
 rcases h2:bD (du G i).cJ with _|_
 ·rw[U4 rfl h1 h2] at h;exact absurd h (by decide)
 by_cases h3:12<(du G i).body.length
 ·rw[YL rfl h1 h2 h3] at h;exact absurd h (by decide)
 by_cases h4:(du G i).hints.length=(du G i).body.length-1
 case neg=>rw[Uy rfl h1 h2 h3 h4] at h;exact absurd h (by decide)
 rw[IN rfl h1 h2 h3 h4] at h;by_cases h5:∃k,k<i/\(du G k).cJ=(du G i).cJ
 ·rw[if_pos h5] at h;exact absurd h (by decide)
 rw[if_neg h5] at h;by_cases h6:∃y∈(du G i).body,dT G y=false
 ·rw[if_pos h6] at h;exact absurd h (by decide)
 rw[if_neg h6] at h;by_cases h7:∃z∈(du G i).hints,z<0\/3<z
 ·rw[if_pos h7] at h;exact absurd h (by decide)
 rw[if_neg h7] at h;by_cases h8:(du G i).prec≠-1/\ie G (du G i).prec=false
 ·rw[if_pos h8] at h;exact absurd h (by decide)
 rw[if_neg h8] at h;by_cases h9:(du G i).par=true/\eY (du G i)=false
 ·rw[if_pos h9] at h;exact absurd h (by decide)
 exact⟨h1,rfl,h3,h4,h5,h6,h7,h8,h9⟩
theorem VT{G:Gr}{i:Nat}{x:fC}(hx:du G i=x)(h1:¬(x.cj<0\/(G.S.length:Int)<=x.cj))(h2:bD x.cJ=true)(h3:¬12<x.body.length)(h4:x.hints.length=x.body.length-1)
  (h5:¬∃k,k<i/\(du G k).cJ=x.cJ) (h6:¬∃y∈x.body,dT G y=false) (h7:¬∃z∈x.hints,z<0\/3<z) (h8:¬(x.prec≠-1/\ie G x.prec=false)) (h9:¬(x.par=true/\eY x=false)):fY G i=0:=by
 rw[IN hx h1 h2 h3 h4,if_neg h5,if_neg h6,if_neg h7,if_neg h8,if_neg h9]
def Gr.aG(G:Gr)(a:Option Addr)(c:Nat)(s:ByteArray):Gr:={ G with aS:=a,cS:=c,S:=G.S++[s] }
theorem K6{G:Gr}{a:Option Addr}{c:Nat}{s:ByteArray}{j:Nat}(h:j<G.S.length):ky (G.aG a c s) j=ky G j:=by
 unfold ky Gr.aG;simp[List.getD_eq_getElem?_getD,List.getElem?_append_left h]
theorem YC{G:Gr}{a:Option Addr}{c:Nat}{s:ByteArray}:ky (G.aG a c s) G.S.length=s:=by
 unfold ky Gr.aG;simp[List.getD_eq_getElem?_getD]
theorem zji{G:Gr}{a:Option Addr}{c:Nat}{s:ByteArray}(y:Sy)(h:dT G y=true):dT (G.aG a c s) y=true:=by
 unfold dT at h⊢;split
 ·rename_i hs;rw[if_pos hs] at h;unfold tT at h⊢;simp at h;have:(G.aG a c s).S.length=G.S.length+1:=by simp[Gr.aG]
  simp[this];omega
 rename_i hs;rw[if_neg hs] at h;exact h
theorem zjj{G:Gr}{a:Option Addr}{c:Nat}{s:ByteArray}{j:Nat}(hj:j<G.S.length)(h:fL G j=0):fL (G.aG a c s) j=0:=by
 rcases hT:bD (ky G j) with _|_
 ·rw[SU hT] at h;exact absurd h (by decide)
 by_cases h1:(∃k,k<j/\ky G k=ky G j)\/∃k,k<G.R.length/\(yo G k).nm=ky G j
 ·rw[Kr hT h1] at h;exact absurd h (by decide)
 refine LC (by rw[K6 hj];exact hT) (fun k hk e=>h1 (Or.inl ⟨k,hk,?_⟩)) (fun k hk e=>h1 (Or.inr ⟨k,hk,?_⟩))
 ·rw[K6 hj,K6 (by omega)] at e;exact e
 rw[K6 hj] at e;exact e
theorem uJ.more{G:Gr}(h:uJ G)(hn:G.S.length<300)(a:Option Addr)(c:Nat){s:ByteArray}(hs:bD s=true):bY (G.aG a c s)=(0,0,0)\/bY (G.aG a c s)=(9,2,(G.S.length:Int)):=by
 have hl:(G.aG a c s).S.length=G.S.length+1:=by simp[Gr.aG]
 have Vm:∀j,j<G.S.length->fL (G.aG a c s) j=0:=fun j hj=>zjj hj (h.so j hj)
 have hz:fL (G.aG a c s) G.S.length=0\/fL (G.aG a c s) G.S.length=9:=by
  by_cases h1:(∃k,k<G.S.length/\ky (G.aG a c s) k=ky (G.aG a c s) G.S.length)\/∃k,k<(G.aG a c s).R.length/\(yo (G.aG a c s) k).nm=ky (G.aG a c s) G.S.length
  ·exact Or.inr (Kr (by rw[YC];exact hs) h1)
  exact Or.inl (LC (by rw[YC];exact hs) (fun k hk e=>h1 (Or.inl ⟨k,hk,e⟩)) (fun k hk e=>h1 (Or.inr ⟨k,hk,e⟩)))
 rcases hz with hz|hz
 ·refine Or.inl (uJ.Xi ⟨by rw[hl];omega,fun j hj=>?_,h.p2,fun j hj=>?_,h.lv,?_⟩)
  ·by_cases e:j=G.S.length
   ·subst e;exact hz
   exact Vm j (by rw[hl] at hj;omega)
  ·obtain⟨k1,k2,k3,k4,k5,k6,k7,k8,k9⟩:=Nc (h.pr j hj);refine VT (G:=G.aG a c s) (i:=j) (x:=du G j) rfl (fun e=>k1 ?_) k2 k3 k4 k5 (fun ⟨y,hy,e⟩=>?_) k7 k8 k9
   ·rw[hl] at e;rcases e with e|e
    ·exact Or.inl e
    right;omega
   rcases hb:dT G y with _|_
   ·exact k6 ⟨y,hy,hb⟩
   rw[zji y hb] at e;cases e
  intro e;rw[hl] at e;rcases e with e|e
  ·exact h.st (Or.inl e)
  exact h.st (Or.inr (by have:(G.aG a c s).st=G.st:=rfl;omega))
 right;have:=znT (G:=G.aG a c s) (by rw[hl];omega) (k:=G.S.length) (by rw[hl];omega) Vm (by rw[hz];decide);rw[this,hz]
def Gr.bB(G:Gr)(a:Option Addr)(c:Nat)(x:fC):Gr:={ G with aP:=a,cP:=c,P:=G.P++[x] }
theorem M1{G:Gr}{a:Option Addr}{c:Nat}{x:fC}{j:Nat}(h:j<G.P.length):du (G.bB a c x) j=du G j:=by
 unfold du Gr.bB;simp[List.getD_eq_getElem?_getD,List.getElem?_append_left h]
theorem zjk{G:Gr}{a:Option Addr}{c:Nat}{x:fC}:du (G.bB a c x) G.P.length=x:=by
 unfold du Gr.bB;simp[List.getD_eq_getElem?_getD]
theorem uJ.Gq{G:Gr}(h:uJ G)(hn:G.P.length<200)(a:Option Addr)(c:Nat){q:Nat}(hq:q<G.P.length):bY (G.bB a c (du G q))=(9,3,(G.P.length:Int)):=by
 have hl:(G.bB a c (du G q)).P.length=G.P.length+1:=by simp[Gr.bB]
 have Bf:∀j,j<G.P.length->fY (G.bB a c (du G q)) j=0:=fun j hj=>by
  obtain⟨k1,k2,k3,k4,k5,k6,k7,k8,k9⟩:=Nc (h.pr j hj);exact VT (M1 hj) k1 k2 k3 k4 (fun ⟨k,hk,e⟩=>k5 ⟨k,hk,by rw[M1 (by omega)] at e;exact e⟩) k6 k7 k8 k9
 have gD:fY (G.bB a c (du G q)) G.P.length=9:=by
  obtain⟨k1,k2,k3,k4,_⟩:=Nc (h.pr q hq);rw[IN zjk k1 k2 k3 k4,if_pos ⟨q,hq,by rw[M1 hq]⟩]
 have:=znV (G:=G.bB a c (du G q)) h.s3 h.so (by rw[hl];omega) (k:=G.P.length) (by rw[hl];omega) Bf (by rw[gD];decide);rw[this,gD]
structure fq (w:World)(b b5 b6 b7:Nat)(G:Gr)(A B C:Array Value)(wr:World):Prop where
 g:ez wr b G
 k:Below w.heap.size w wr
 n5:w.heap.size<=b5
 n6:w.heap.size<=b6
 n7:w.heap.size<=b7
 d5:b≠b5
 d6:b≠b6
 d7:b≠b7
 d56:b5≠b6
 d57:b5≠b7
 d67:b6≠b7
 h5:wr.heap[b5]?=some (.cells A 27 (0,0))
 h6:wr.heap[b6]?=some (.cells B 27 (0,0))
 h7:wr.heap[b7]?=some (.cells C 27 (0,0))
section
variable {w : World}{b b5 b6 b7 : Nat}{G : Gr}{A B C : Array Value}{wr : World}
theorem uQ{wr:World}{g:Nat}{o:Obj}(h:wr.heap[g]?=some o):g<wr.heap.size:=(Array.getElem?_eq_some_iff.1 h).1
theorem fq.aa{w':World}(h:fq w b b5 b6 b7 G A B C wr)(k:Below wr.heap.size wr w'):fq w b b5 b6 b7 G A B C w':=
 ⟨h.g.below k,h.k.trans (k.mono h.k.size),h.n5,h.n6,h.n7,h.d5,h.d6,h.d7,h.d56,h.d57,h.d67,(k.block _ (uQ h.h5)).trans h.h5,(k.block _ (uQ h.h6)).trans h.h6,(k.block _ (uQ h.h7)).trans h.h7⟩
theorem ez.eD{w:World}{b g i:Nat}{G:Gr}(h:ez w b G)(hg:b≠g)(v:Value):ez (w.setCell ⟨g,i,none⟩ v) b G:=by
 have e:(w.setCell ⟨g,i,none⟩ v).heap[b]?=w.heap[b]?:=Below.heap_setCell _ _ _ b hg;exact⟨(World.cell?_of_block (a:=⟨b,0,none⟩) e).trans h.c0,(World.cell?_of_block (a:=⟨b,1,none⟩) e).trans h.c1,(World.cell?_of_block (a:=⟨b,2,none⟩) e).trans h.c2,(World.cell?_of_block (a:=⟨b,3,none⟩) e).trans h.c3,(World.cell?_of_block (a:=⟨b,4,none⟩) e).trans h.c4,by have:=h.lt;simpa [World.setCell] using this⟩
theorem fq.OX(h:fq w b b5 b6 b7 G A B C wr)(i:Nat)(v:Value):fq w b b5 b6 b7 G (A.setIfInBounds i v) B C (wr.setCell ⟨b5,i,none⟩ v):=
 ⟨h.g.eD h.d5 v,h.k.setCell (p:=⟨b5,i,none⟩) h.n5 v,h.n5,h.n6,h.n7,h.d5,h.d6,h.d7,h.d56,h.d57,h.d67,heap_setCell_same wr b5 i _ _ v h.h5,(Below.heap_setCell _ _ _ _ (Ne.symm h.d56)).trans h.h6,(Below.heap_setCell _ _ _ _ (Ne.symm h.d57)).trans h.h7⟩
theorem fq.RW(h:fq w b b5 b6 b7 G A B C wr)(i:Nat)(v:Value):fq w b b5 b6 b7 G A (B.setIfInBounds i v) C (wr.setCell ⟨b6,i,none⟩ v):=
 ⟨h.g.eD h.d6 v,h.k.setCell (p:=⟨b6,i,none⟩) h.n6 v,h.n5,h.n6,h.n7,h.d5,h.d6,h.d7,h.d56,h.d57,h.d67,(Below.heap_setCell _ _ _ _ h.d56).trans h.h5,heap_setCell_same wr b6 i _ _ v h.h6,(Below.heap_setCell _ _ _ _ (Ne.symm h.d67)).trans h.h7⟩
theorem fq.DD(h:fq w b b5 b6 b7 G A B C wr)(i:Nat)(v:Value):fq w b b5 b6 b7 G A B (C.setIfInBounds i v) (wr.setCell ⟨b7,i,none⟩ v):=
 ⟨h.g.eD h.d7 v,h.k.setCell (p:=⟨b7,i,none⟩) h.n7 v,h.n5,h.n6,h.n7,h.d5,h.d6,h.d7,h.d56,h.d57,h.d67,(Below.heap_setCell _ _ _ _ h.d57).trans h.h5,(Below.heap_setCell _ _ _ _ h.d67).trans h.h6,heap_setCell_same wr b7 i _ _ v h.h7⟩
theorem Gr.xA(G:Gr):G.val=.agg #[.slice G.aR G.R.length G.cR,.slice G.aS G.S.length G.cS,.slice G.aP G.P.length G.cP,.slice G.aL G.L.length G.cL,.int .i64 G.st]:=rfl
def Gr.cs(G:Gr):Array Value:=#[.slice G.aR G.R.length G.cR,.slice G.aS G.S.length G.cS,.slice G.aP G.P.length G.cP,.slice G.aL G.L.length G.cL,.int .i64 G.st]
theorem ez.of_heap{g:Nat}{K:Gr}{t:TypeId}(h:wr.heap[g]?=some (.cells K.cs t (0,0))):ez wr g K:=
 ⟨by rw[cell_of_row wr g 0 _ _ _ h];rfl,by rw[cell_of_row wr g 1 _ _ _ h];rfl,by rw[cell_of_row wr g 2 _ _ _ h];rfl,by rw[cell_of_row wr g 3 _ _ _ h];rfl,by rw[cell_of_row wr g 4 _ _ _ h];rfl,uQ h⟩
end
theorem lp.eD{w:World}{g off b i:Nat}{l:List ByteArray}(h:lp w (some ⟨g,off,none⟩) l)(hg:g≠b)(v:Value):lp (w.setCell ⟨b,i,none⟩ v) (some ⟨g,off,none⟩) l:=by
 intro h0;obtain⟨g',o',e,h1,h2⟩:=h h0;injection e with e;injection e with e1 e2;subst e1 e2;exact⟨_,_,rfl,by simpa [World.setCell] using h1,fun j hj=>(World.cell?_of_block (a:=⟨g,off+j,none⟩) (Below.heap_setCell _ _ _ g hg)).trans (h2 j hj)⟩
def Gr.bare(G:Gr):Gr:={ G with aL:=none,cL:=0,L:=[] }
theorem znL{G:Gr}{W:World}(h:G.At W):G.bare.At W:=⟨h.r,h.s,h.p,fun h0=>absurd h0 (by show ¬0<0;omega)⟩
theorem zln{G:Gr}(h:lB G):G.bare.mK 200:=by
 have k:=h.lim (m:=200) (by omega);exact⟨k.r,k.s,k.p,by show 0<=200;omega,k.rs,k.ss,k.ps,fun i hi=>absurd hi (by show ¬i<0;omega)⟩
theorem Uu(G:Gr)(a:Option Addr)(c:Nat)(s:ByteArray):(G.aG a c s).cs=#[.slice G.aR G.R.length G.cR,.slice a (G.S.length+1) c,.slice G.aP G.P.length G.cP,.slice G.aL G.L.length G.cL,.int .i64 G.st]:=by
 unfold Gr.cs Gr.aG;simp
theorem zjl{G:Gr}{W:World}{a:Option Addr}{c:Nat}{s:ByteArray}(h:G.At W)(hs:lp W a (G.S++[s])):(G.aG a c s).At W:=⟨h.r,hs,h.p,h.l⟩
theorem zjm{G:Gr}{a:Option Addr}{c:Nat}{s:ByteArray}(h:lB G)(hs:s.size<=100):(G.aG a c s).mK 200:=by
 have k:=h.lim (m:=200) (by omega);refine⟨k.r,?_,k.p,k.l,k.rs,fun i hi=>?_,k.ps,k.ls⟩
 ·show (G.S++[s]).length<=200;have:=h.s;simp;omega
 have ku:i<(G.S++[s]).length:=hi;show ((G.S++[s])[i]'ku).size<=200;rw[List.getElem_append];split
 ·exact k.ss _ _
 simp;omega
theorem I5(G:Gr)(a:Option Addr)(c:Nat)(x:fC):(G.bB a c x).cs=#[.slice G.aR G.R.length G.cR,.slice G.aS G.S.length G.cS,.slice a (G.P.length+1) c,.slice G.aL G.L.length G.cL,.int .i64 G.st]:=by
 unfold Gr.cs Gr.bB;simp
theorem zjn{G:Gr}{W:World}{a:Option Addr}{c:Nat}{x:fC}(h:G.At W)(hs:gf W a (G.P++[x])):(G.bB a c x).At W:=⟨h.r,h.s,hs,h.l⟩
theorem zjo{G:Gr}{a:Option Addr}{c:Nat}{q:Nat}(h:lB G)(hq:q<G.P.length):(G.bB a c (du G q)).mK 200:=by
 have k:=h.lim (m:=200) (by omega);refine⟨k.r,k.s,?_,k.l,k.rs,k.ss,fun i hi=>?_,k.ls⟩
 ·show (G.P++[du G q]).length<=200;have:=h.p;simp;omega
 have ku:i<(G.P++[du G q]).length:=hi;show ((G.P++[du G q])[i]'ku).cJ.size<=200/\((G.P++[du G q])[i]'ku).body.length<=200/\((G.P++[du G q])[i]'ku).hints.length<=200;rw[List.getElem_append];split
 ·exact k.ps _ _
 simp only[List.getElem_singleton];rw[A8 hq];exact k.ps _ _
def oE(l:List fC):List Value:=l.flatMap bI
theorem J7(l:List fC):(oE l).length=l.length*6:=zlh bI 6 (fun _=>rfl) l
theorem Q7(l:List fC):∀u∈oE l,u.oneCell'=true:=by
 intro u hu;obtain⟨x,_,hx⟩:=List.mem_flatMap.1 hu;simp only[bI,List.mem_cons,List.not_mem_nil,or_false] at hx;rcases hx with rfl|rfl|rfl|rfl|rfl|rfl <;> rfl
theorem SQ(l:List fC)(i j:Nat)(hi:i<l.length)(hj:j<6):(oE l)[i*6+j]?=(bI l[i])[j]?:=zlg bI 6 (fun _=>rfl) l i hi j hj
theorem tU:(Tryz.prog.info? 47).map (fun i=>(i.zero,i.size,i.bytes))=some (some (.agg #[.int .i64 0,.string ⟨#[]⟩,.slice none 0 0,.bool false,.int .i64 0,.slice none 0 0]),6,88):=by kernel_rfl
theorem Vn(W:World):(W.alloc (.cells #[] 47)).ownsRow W.heap.size 47 6 (.slice (some ⟨W.heap.size,0,none⟩) 0 0) 0 []:=
 ⟨rfl,Or.inr ⟨W.heap.size,0,#[],rfl,Nat.le_refl _,by show (W.heap.push _)[W.heap.size]?=_;rw[Array.getElem?_push,if_pos rfl],Nat.le_refl _,by unfold maxLen;omega,rfl,rfl⟩⟩
theorem Pz{w:World}{g off:Nat}{l:List fC}(h:∀i (h:i<l.length) j,j<6->w.cell? ⟨g,off+i*6+j,none⟩=(bI l[i])[j]?):∀j u,(oE l)[j]?=some u->w.cell? ((⟨g,off,none⟩:Addr).add j)=some u:=fun j u hj=>by
 have e0:(⟨g,off,none⟩:Addr).add j=⟨g,off+j,none⟩:=by unfold Addr.add;split <;> simp_all
 have h1:j<l.length*6:=by
  have:=(List.getElem?_eq_some_iff.1 hj).1
  rw[J7] at this;exact this
 have e:j=j / 6*6+j % 6:=by omega
 have h2:j / 6<l.length:=by omega
 have h3:=h (j / 6) h2 (j % 6) (by omega)
 rw[<-SQ l _ _ h2 (by omega),<-e] at h3
 rw[hj] at h3
 rw[<-h3,e0]
 congr 2
 omega
theorem PW{w:World}{B n c:Nat}{a:Option Addr}{l:List fC}(hl:l.length=n)(hA:∀i (h:i<l.length),l[i].At w)(h:w.ownsRow B 47 6 (.slice a n c) n (oE l)):gf w a l:=by
 intro h0;obtain⟨g,e,_,hg,hc⟩:=eR h (by omega);refine⟨g,0,e,hg,fun i hi=>⟨hA i hi,fun j hj=>?_⟩⟩;have h1:i*6+j<n*6:=by omega
 rw[show 0+i*6+j=i*6+j by omega,(hc _ h1).1,SQ l i j hi hj]
theorem gf.eD{w:World}{g off b i:Nat}{l:List fC}(h:gf w (some ⟨g,off,none⟩) l)(hg:g≠b)(v:Value)(hA:∀k (h:k<l.length),l[k].At (w.setCell ⟨b,i,none⟩ v)):gf (w.setCell ⟨b,i,none⟩ v) (some ⟨g,off,none⟩) l:=by
 intro h0;obtain⟨g',o',e,h1,h2⟩:=h h0;injection e with e;injection e with e1 e2;subst e1 e2;exact⟨_,_,rfl,by simpa [World.setCell] using h1,fun k hk=>⟨hA k hk,fun j hj=>(World.cell?_of_block (a:=⟨g,off+k*6+j,none⟩) (Below.heap_setCell _ _ _ g hg)).trans ((h2 k hk).2 j hj)⟩⟩
open Go.Maps Go.WideElems Go.ChangeMaps Go.MapKept
def Ja(w:World)(b b5 b6 b7:Nat)(G:Gr)(wr:World):Prop:=ez wr b G/\Below w.heap.size w wr/\w.heap.size<=b5/\w.heap.size<=b6/\w.heap.size<=b7/\b≠b5/\b≠b6/\b≠b7/\b5≠b6/\b5≠b7/\b6≠b7/\
 wr.heap[b5]?=some (.cells #[.slice G.aR G.R.length G.cR,.slice G.aS G.S.length G.cS,.slice G.aP G.P.length G.cP,.slice G.aL G.L.length G.cL,.int .i64 G.st] 27 (0,0))/\wr.heap[b6]?=some (.cells #[.slice G.aR G.R.length G.cR,.slice G.aS G.S.length G.cS,.slice G.aP G.P.length G.cP,.slice G.aL G.L.length G.cL,.int .i64 G.st] 27 (0,0))/\wr.heap[b7]?=some (.cells #[.slice G.aR G.R.length G.cR,.slice G.aS G.S.length G.cS,.slice G.aP G.P.length G.cP,.slice G.aL G.L.length G.cL,.int .i64 G.st] 27 (0,0))
theorem zh8{w:World}{g t:Nat}{c0 c1 c2 c3 c4:Value}(h:w.heap[g]?=some (.cells #[c0,c1,c2,c3,c4] t (0,0)))(d0 d1 d2 d3 d4:Value):
  (((((w.setCell ⟨g,0,none⟩ d0).setCell ⟨g,1,none⟩ d1).setCell ⟨g,2,none⟩ d2).setCell ⟨g,3,none⟩ d3).setCell ⟨g,4,none⟩ d4).heap[g]?=some (.cells #[d0,d1,d2,d3,d4] t (0,0)):=by
 have h0:=heap_setCell_same w g 0 _ _ d0 h;have h1:=heap_setCell_same _ g 1 _ _ d1 h0;have h2:=heap_setCell_same _ g 2 _ _ d2 h1;have h3:=heap_setCell_same _ g 3 _ _ d3 h2;have h4:=heap_setCell_same _ g 4 _ _ d4 h3;simpa using h4
theorem Sq{w:World}{g k:Nat}(hk:k≠g)(d0 d1 d2 d3 d4:Value):
  (((((w.setCell ⟨g,0,none⟩ d0).setCell ⟨g,1,none⟩ d1).setCell ⟨g,2,none⟩ d2).setCell ⟨g,3,none⟩ d3).setCell ⟨g,4,none⟩ d4).heap[k]?=w.heap[k]?:=by
 rw[Below.heap_setCell _ _ _ k hk,Below.heap_setCell _ _ _ k hk,Below.heap_setCell _ _ _ k hk,Below.heap_setCell _ _ _ k hk,Below.heap_setCell _ _ _ k hk]
theorem znM{w w1:World}{B g:Nat}(h:Below B w w1)(hg:B<=g)(d0 d1 d2 d3 d4:Value):
  Below B w (((((w1.setCell ⟨g,0,none⟩ d0).setCell ⟨g,1,none⟩ d1).setCell ⟨g,2,none⟩ d2).setCell ⟨g,3,none⟩ d3).setCell ⟨g,4,none⟩ d4):=
 ((((h.setCell (p:=⟨g,0,none⟩) hg d0).setCell (p:=⟨g,1,none⟩) hg d1).setCell (p:=⟨g,2,none⟩) hg d2).setCell (p:=⟨g,3,none⟩) hg d3).setCell (p:=⟨g,4,none⟩) hg d4
theorem ez.block{w w':World}{b:Nat}{G:Gr}(h:ez w b G)(e:w'.heap[b]?=w.heap[b]?):ez w' b G:=
 ⟨(
  World.cell?_of_block (a:=⟨b,0,none⟩) e).trans h.c0,(World.cell?_of_block (a:=⟨b,1,none⟩) e).trans h.c1,(World.cell?_of_block (a:=⟨b,2,none⟩) e).trans h.c2,(World.cell?_of_block (a:=⟨b,3,none⟩) e).trans h.c3,(World.cell?_of_block (a:=⟨b,4,none⟩) e).trans h.c4,by
  have h1:=h.lt
  by_cases h2:b<w'.heap.size
  ·exact h2
  ·rw[Array.getElem?_eq_none (by omega:w'.heap.size<=b)] at e
   rw[Array.getElem?_eq_getElem h1] at e
   cases e⟩
def Z5:Array Value:=#[.slice none 0 0,.slice none 0 0,.slice none 0 0,.slice none 0 0,.int .i64 0]
def G5(G:Gr):Array Value:=#[.slice G.aR G.R.length G.cR,.slice G.aS G.S.length G.cS,.slice G.aP G.P.length G.cP,.slice G.aL G.L.length G.cL,.int .i64 G.st]
def mO(w:World)(b n:Nat)(G:Gr)(f:Nat->Bool)(wr:World):Prop:=ez wr b G/\Below w.heap.size w wr/\w.heap.size<=n/\b<n/\∀j,j<3->wr.heap[n+j]?=some (.cells (if f j then G5 G else Z5) 27 (0,0))
theorem mO.put{w:World}{b n:Nat}{G:Gr}{f:Nat->Bool}{wr:World}(h:mO w b n G f wr)(j:Nat)(hj:j<3)(hf:f j=false)(g:Nat)(hg:g=n+j):
  (∀i v,i<5->Z5[i]?=some v->wr.cell? ⟨g,i,none⟩=some v)/\(∀i,wr.frozen? ⟨g,i,none⟩=false)/\
  mO w b n G (fun k=>f k || k == j) (((((wr.setCell ⟨g,0,none⟩ (.slice G.aR G.R.length G.cR)).setCell ⟨g,1,none⟩ (.slice G.aS G.S.length G.cS)).setCell ⟨g,2,none⟩ (.slice G.aP G.P.length G.cP)).setCell ⟨g,3,none⟩ (.slice G.aL G.L.length G.cL)).setCell ⟨g,4,none⟩ (.int .i64 G.st)):=by
 obtain⟨h1,h2,h3,h4,h5⟩:=h;have h6:=h5 j hj;rw[if_neg (by simp[hf]),<-hg] at h6;refine⟨fun i v hi hv=>by rw[cell_of_row wr g i _ _ _ h6];exact hv,fun i=>frozen_of_row wr g i _ _ h6,h1.block (Sq (by omega) _ _ _ _ _),znM h2 (by omega) _ _ _ _ _,h3,h4,fun k hk=>?_⟩;by_cases e:k=j
 ·subst e;rw[if_pos (by simp),<-hg];exact zh8 h6 _ _ _ _ _
 rw[Sq (by omega),h5 k hk];simp[e]
theorem mO.EL{w:World}{b n:Nat}{G:Gr}{f:Nat->Bool}{wr:World}(h:mO w b n G f wr){i j k:Nat}(hi:i<3/\f i=true)(hj:j<3/\f j=true)(hk:k<3/\f k=true)(hij:i≠j)(hik:i≠k)(hjk:j≠k):Ja w b (n+i) (n+j) (n+k) G wr:=by
 obtain⟨h1,h2,h3,h4,h5⟩:=h;have e1:=h5 i hi.1;have e2:=h5 j hj.1;have e3:=h5 k hk.1;rw[if_pos hi.2] at e1;rw[if_pos hj.2] at e2;rw[if_pos hk.2] at e3;exact⟨h1,h2,by omega,by omega,by omega,by omega,by omega,by omega,by omega,by omega,by omega,e1,e2,e3⟩
theorem zgi(Q:Int->Int->Prop)(G:Gr)(x:Int)(wx:(Lit.int .u8 x).wf=true)(w:World)(hA:G.At w)(hL:G.mK 9223372036854775807)
  (hW:∀W,Calls Tryz.prog 7 #[] W (zc W))
  (hC:lB G->∀K:Gr,K.R=G.R->K.aR=G.aR->K.cR=G.cR->K.mK 200->∀W,Below w.heap.size w W->K.At W->Calls Tryz.prog 9 #[K.val] W (zO Q K W))
  (hQ:∀i er i2 Er,Q i er->Q i2 Er->er=0->Er=0):
  Calls Tryz.prog 6 #[G.val,.int .u8 x] w (zc w):=by
 show Calls Tryz.prog 6 #[.agg #[.slice G.aR G.R.length G.cR,.slice G.aS G.S.length G.cS,.slice G.aP G.P.length G.cP,.slice G.aL G.L.length G.cL,.int .i64 G.st],.int .u8 x] w _;have qa:Hid (∀W,Below w.heap.size w W->Calls Tryz.prog 8 #[.agg #[.slice G.aR G.R.length G.cR,.slice G.aS G.S.length G.cS,.slice G.aP G.P.length G.cP,.slice G.aL G.L.length G.cL,.int .i64 G.st]] W (O6 G W)):=fun W k=>Zu G W (hA.below k) hL
 have HA:=hid (Zz hA hL);have HC:=hid hC;have HQ:=hid hQ;have HW:=hid hW;clear hA hL hC hQ hW;obtain⟨w2,bQ⟩:∃w2,(w.alloc (.cells #[.slice G.aR G.R.length G.cR,.slice G.aS G.S.length G.cS,.slice G.aP G.P.length G.cP,.slice G.aL G.L.length G.cL,.int .i64 G.st] 27))=w2:=⟨_,rfl⟩
 have H:Hid (ez w2 w.heap.size G/\Below w.heap.size w w2):=by
  rw[<-bQ];have k0:=al w (.cells #[.slice G.aR G.R.length G.cR,.slice G.aS G.S.length G.cS,.slice G.aP G.P.length G.cP,.slice G.aL G.L.length G.cL,.int .i64 G.st] 27);exact⟨(ez.new w G 27),k0⟩
 have ld:Hid (w2.heap.size=w.heap.size+1):=by show _=_;rw[<-bQ];simp
 go_enter Tryz.func6,Tryz.ntmps6;go_upto_region 1 with fail
 try rw[bQ]
 clear bQ;obtain⟨b,hb⟩:∃b,w.heap.size=b:=⟨_,rfl⟩
 have HX:Hid (jC w b G w2):=by rw[<-hb];exact H.out
 rw[hb];have Hb:=hid hb;clear hb H ld;have Xz:=hid (HW.out w2);go_wp2_with (go_at_call 7;refine Xz.out.mono ?_);rintro e w3 ⟨rfl,b3⟩;have ff:=hid (HX.out.aa b3);clear b3 HX HW Xz;have c0:=ff.out.1.c0;have c1:=ff.out.1.c1;have c2:=ff.out.1.c2;have c3:=ff.out.1.c3;have c4:=ff.out.1.c4;have Be:=hid (qa.out w3 ff.out.2);go_wp2_with (go_at_call 8;refine Be.out.mono ?_);rintro e w4 ⟨bo,rfl,jE,b4⟩;have kt:=hid (ff.out.aa b4);clear b4 ff qa Be c0 c1 c2 c3 c4;rcases bo with _|_
 ·clear jE;go_wp2;go_ret;exact⟨rfl,kt.out.2⟩
 have HB:=hid (jE rfl);clear jE;have c0:=kt.out.1.c0;have c1:=kt.out.1.c1;have c2:=kt.out.1.c2;have c3:=kt.out.1.c3;have c4:=kt.out.1.c4;have IM:Hid (Calls Tryz.prog 9 #[.agg #[.slice G.aR G.R.length G.cR,.slice G.aS G.S.length G.cS,.slice G.aP G.P.length G.cP,.slice G.aL G.L.length G.cL,.int .i64 G.st]] w4 (zO Q G w4)):=HC.out HB.out G rfl rfl rfl (HB.out.lim (by omega)) w4 kt.out.2 (HA.out.1.below kt.out.2);go_wp2_with (go_at_call 9;refine IM.out.mono ?_);rintro e w5 ⟨ai,er,hq,rfl,b5⟩;have kA:=hid (kt.out.aa b5);have Hq:=hid hq;clear b5 kt IM c0 c1 c2 c3 c4 hq;obtain⟨t,ht⟩:∃t,jn G ai er=t:=⟨_,rfl⟩
 rw[ht];have Ht:=hid ht;clear ht;obtain⟨t1,t2,t3⟩:=t;dsimp only;have hfd:∀w:World,(Instr.field 32 (.agg #[.int .i64 t1,.int .i64 t2,.int .i64 t3]) 0).run Tryz.prog w=.ok (.int .i64 t1) w:=fun _=>by kernel_rfl
 by_cases h0:t1=0
 case neg=>
  have j1:(t1 != 0)=true:=by simp[h0]
  clear h0;go_wp2;go_ret;exact⟨rfl,kA.out.2⟩
 have j1:(t1 != 0)=false:=by simp[h0]
 have Jx:er=0:=by
  have h9:=Ht.out;by_cases e:er=0
  ·exact e
  unfold jn at h9;rw[if_pos e] at h9;injection h9 with h9 _;exact absurd (h9.trans h0) e
 have Jh:Hid (uJ G):=by
  have h9:=Ht.out;unfold jn at h9;rw[if_neg (by simp[Jx])] at h9;exact zlm (by rw[h9];exact h0)
 have QH:=hid Jx;clear h0 Jx;have c0:=kA.out.1.c0;have c1:=kA.out.1.c1;have c2:=kA.out.1.c2;have c3:=kA.out.1.c3;have c4:=kA.out.1.c4;go_upto_region 5 with fail
 go_cut [5,6,7] from 20 to 22 (fun v5 v6 v7 wx=>∃b5 b6 b7,v5=.pointer (some ⟨b5,0,none⟩)/\v6=.pointer (some ⟨b6,0,none⟩)/\v7=.pointer (some ⟨b7,0,none⟩)/\Hid (Ja w b b5 b6 b7 G wx))
 case first=>
  obtain⟨n,hn⟩:∃n,w5.heap.size=n:=⟨_,rfl⟩
  obtain⟨wD,Oj⟩:∃wD,w5.drew=wD:=⟨_,rfl⟩
  have HD:Hid (jC w b G wD/\wD.heap.size=n):=by rw[<-Oj];exact⟨kA.out.aa ⟨rfl,rfl,rfl,Nat.le_refl _,fun _ _=>rfl⟩,hn⟩
  refine wp_region_held_drew (S:=fun W'=>jC w b G W') (by kernel_rfl) (kA.out.aa ⟨rfl,rfl,rfl,Nat.le_refl _,fun _ _=>rfl⟩) (fun hHeld=>?_);rw[Oj] at hHeld⊢;clear Oj hn c0 c1 c2 c3 c4;refine aq 0 (v:=.agg #[.slice G.aR G.R.length G.cR,.slice G.aS G.S.length G.cS,.slice G.aP G.P.length G.cP,.slice G.aL G.L.length G.cL,.int .i64 G.st]) ?_ (hy:=by intro wz hSw;have y0:=hSw.1.c0;have y1:=hSw.1.c1;have y2:=hSw.1.c2;have y3:=hSw.1.c3;have y4:=hSw.1.c4;(try simp only[Act.put,sA,sB,sC]);go_simp;first|done|with_reducible rfl)
  try simp only[Act.put,sA,sB,sC]
  refine aq 1 (v:=.agg #[.slice G.aR G.R.length G.cR,.slice G.aS G.S.length G.cS,.slice G.aP G.P.length G.cP,.slice G.aL G.L.length G.cL,.int .i64 G.st]) ?_ (hy:=by intro wz hSw;have y0:=hSw.1.c0;have y1:=hSw.1.c1;have y2:=hSw.1.c2;have y3:=hSw.1.c3;have y4:=hSw.1.c4;(try simp only[Act.put,sA,sB,sC]);go_simp;first|done|with_reducible rfl)
  try simp only[Act.put,sA,sB,sC]
  refine aq 2 (v:=.agg #[.slice G.aR G.R.length G.cR,.slice G.aS G.S.length G.cS,.slice G.aP G.P.length G.cP,.slice G.aL G.L.length G.cL,.int .i64 G.st]) ?_ (hy:=by intro wz hSw;have y0:=hSw.1.c0;have y1:=hSw.1.c1;have y2:=hSw.1.c2;have y3:=hSw.1.c3;have y4:=hSw.1.c4;(try simp only[Act.put,sA,sB,sC]);go_simp;first|done|with_reducible rfl)
  try simp only[Act.put,sA,sB,sC]
  refine wpAnyH_ready (rs:=[3,4,5]) (by kernel_rfl) (by simp) (eV (fun K hK=>?_) (eV (fun K hK=>?_) (eV (fun K hK=>?_) AllReadyH.nil)))
  ·go_simp;have k0:=al wD (.cells #[.slice none 0 0,.slice none 0 0,.slice none 0 0,.slice none 0 0,.int .i64 0] 27);have g0:=heap_alloc_new wD (.cells #[.slice none 0 0,.slice none 0 0,.slice none 0 0,.slice none 0 0,.int .i64 0] 27);have z0:(wD.alloc (.cells #[.slice none 0 0,.slice none 0 0,.slice none 0 0,.slice none 0 0,.int .i64 0] 27)).heap.size=n+1:=(by simp[HD.out.2]);obtain⟨wA,qg⟩:∃wA,wD.alloc (.cells #[.slice none 0 0,.slice none 0 0,.slice none 0 0,.slice none 0 0,.int .i64 0] 27)=wA:=(⟨_,rfl⟩);rw[qg] at k0 g0 z0
   try rw[qg]
   try rw[HD.out.2]
   refine hK.out _ _ (hHeld.aa k0) (fun hHeld=>?_);clear hK K
   try simp only[Act.put,sA,sB,sC]
   refine wpAnyH_ready (rs:=[4,5]) (by kernel_rfl) (by simp) (eV (fun K hK=>?_) (eV (fun K hK=>?_) AllReadyH.nil))
   ·go_simp;have k1:=al wA (.cells #[.slice none 0 0,.slice none 0 0,.slice none 0 0,.slice none 0 0,.int .i64 0] 27);have g1:=heap_alloc_new wA (.cells #[.slice none 0 0,.slice none 0 0,.slice none 0 0,.slice none 0 0,.int .i64 0] 27);have z1:(wA.alloc (.cells #[.slice none 0 0,.slice none 0 0,.slice none 0 0,.slice none 0 0,.int .i64 0] 27)).heap.size=n+2:=(by simp[z0]);obtain⟨wB,jL⟩:∃wB,wA.alloc (.cells #[.slice none 0 0,.slice none 0 0,.slice none 0 0,.slice none 0 0,.int .i64 0] 27)=wB:=(⟨_,rfl⟩);rw[jL] at k1 g1 z1
    try rw[jL]
    try rw[z0]
    refine hK.out _ _ (hHeld.aa k1) (fun hHeld=>?_);clear hK K
    try simp only[Act.put,sA,sB,sC]
    refine aQ 5 (fun K hK=>?_);go_simp;have k2:=al wB (.cells #[.slice none 0 0,.slice none 0 0,.slice none 0 0,.slice none 0 0,.int .i64 0] 27);have g2:=heap_alloc_new wB (.cells #[.slice none 0 0,.slice none 0 0,.slice none 0 0,.slice none 0 0,.int .i64 0] 27);have z2:(wB.alloc (.cells #[.slice none 0 0,.slice none 0 0,.slice none 0 0,.slice none 0 0,.int .i64 0] 27)).heap.size=n+3:=(by simp[z1]);obtain⟨wC,bQ⟩:∃wC,wB.alloc (.cells #[.slice none 0 0,.slice none 0 0,.slice none 0 0,.slice none 0 0,.int .i64 0] 27)=wC:=(⟨_,rfl⟩);rw[bQ] at k2 g2 z2
    try rw[bQ]
    try rw[z1]
    refine hK.out _ _ (hHeld.aa k2) (fun hHeld=>?_);clear hK K
    try simp only[Act.put,sA,sB,sC]
    have HI:Hid (mO w b n G (fun _=>false) wC):=by
     have aw:=HD.out.1.1.lt;have da:=HD.out.1.2.size;have iR:=HD.out.2;refine⟨(((HD.out.1.aa k0).aa k1).aa k2).1,(((HD.out.1.aa k0).aa k1).aa k2).2,by omega,by omega,fun j hj=>?_⟩;rcases (by omega:j=0\/j=1\/j=2) with rfl|rfl|rfl
     ·rw[k2.block _ (by omega),k1.block _ (by omega)];rw[iR] at g0;exact g0
     ·rw[k2.block _ (by omega)];rw[z0] at g1;exact g1
     rw[z1] at g2;exact g2
    clear k0 k1 k2 g0 g1 g2 z0 z1 z2 qg jL bQ;obtain⟨dV,gY,qQ⟩:=HI.out.put 0 (by decide) (by rfl) n rfl;have x0:=dV 0 _ (by decide) rfl;have x1:=dV 1 _ (by decide) rfl;have x2:=dV 2 _ (by decide) rfl;have x3:=dV 3 _ (by decide) rfl;have x4:=dV 4 _ (by decide) rfl;have f0:=gY 0;have f1:=gY 1;have f2:=gY 2;have f3:=gY 3;have f4:=gY 4;have lu:=hid qQ;clear dV gY qQ;refine aQ 6 (fun K hK=>?_);go_simp
    try go_wp2_with fail
    refine hK.out _ _ ⟨lu.out.1,lu.out.2.1⟩ (fun hHeld=>?_);clear hK K x0 x1 x2 x3 x4 f0 f1 f2 f3 f4
    try simp only[Act.put,sA,sB,sC]
    obtain⟨hJ,ib,mW⟩:=lu.out.put 1 (by decide) (by rfl) (n+1) rfl;have x0:=hJ 0 _ (by decide) rfl;have x1:=hJ 1 _ (by decide) rfl;have x2:=hJ 2 _ (by decide) rfl;have x3:=hJ 3 _ (by decide) rfl;have x4:=hJ 4 _ (by decide) rfl;have f0:=ib 0;have f1:=ib 1;have f2:=ib 2;have f3:=ib 3;have f4:=ib 4;have kv:=hid mW;clear hJ ib mW;refine aQ 7 (fun K hK=>?_);go_simp
    try go_wp2_with fail
    refine hK.out _ _ ⟨kv.out.1,kv.out.2.1⟩ (fun hHeld=>?_);clear hK K x0 x1 x2 x3 x4 f0 f1 f2 f3 f4
    try simp only[Act.put,sA,sB,sC]
    obtain⟨ik,gq,qp⟩:=kv.out.put 2 (by decide) (by rfl) (n+2) rfl;have x0:=ik 0 _ (by decide) rfl;have x1:=ik 1 _ (by decide) rfl;have x2:=ik 2 _ (by decide) rfl;have x3:=ik 3 _ (by decide) rfl;have x4:=ik 4 _ (by decide) rfl;have f0:=gq 0;have f1:=gq 1;have f2:=gq 2;have f3:=gq 3;have f4:=gq 4;have lO:=hid qp;clear ik gq qp;refine aQ 8 (fun K hK=>?_);go_simp
    try go_wp2_with fail
    refine hK.out _ _ ⟨lO.out.1,lO.out.2.1⟩ (fun hHeld=>?_);clear hK K x0 x1 x2 x3 x4 f0 f1 f2 f3 f4
    try simp only[Act.put,sA,sB,sC]
    refine wpAnyH_done (by kernel_rfl) ?_ _;go_wp2_with fail
    go_meet
    exact⟨n+0,n+1,n+2,rfl,rfl,rfl,lO.out.EL (by decide) (by decide) (by decide) (by decide) (by decide) (by decide)⟩
   go_simp;have k1:=al wA (.cells #[.slice none 0 0,.slice none 0 0,.slice none 0 0,.slice none 0 0,.int .i64 0] 27);have g1:=heap_alloc_new wA (.cells #[.slice none 0 0,.slice none 0 0,.slice none 0 0,.slice none 0 0,.int .i64 0] 27);have z1:(wA.alloc (.cells #[.slice none 0 0,.slice none 0 0,.slice none 0 0,.slice none 0 0,.int .i64 0] 27)).heap.size=n+2:=(by simp[z0]);obtain⟨wB,jL⟩:∃wB,wA.alloc (.cells #[.slice none 0 0,.slice none 0 0,.slice none 0 0,.slice none 0 0,.int .i64 0] 27)=wB:=(⟨_,rfl⟩);rw[jL] at k1 g1 z1
   try rw[jL]
   try rw[z0]
   refine hK.out _ _ (hHeld.aa k1) (fun hHeld=>?_);clear hK K
   try simp only[Act.put,sA,sB,sC]
   refine aQ 4 (fun K hK=>?_);go_simp;have k2:=al wB (.cells #[.slice none 0 0,.slice none 0 0,.slice none 0 0,.slice none 0 0,.int .i64 0] 27);have g2:=heap_alloc_new wB (.cells #[.slice none 0 0,.slice none 0 0,.slice none 0 0,.slice none 0 0,.int .i64 0] 27);have z2:(wB.alloc (.cells #[.slice none 0 0,.slice none 0 0,.slice none 0 0,.slice none 0 0,.int .i64 0] 27)).heap.size=n+3:=(by simp[z1]);obtain⟨wC,bQ⟩:∃wC,wB.alloc (.cells #[.slice none 0 0,.slice none 0 0,.slice none 0 0,.slice none 0 0,.int .i64 0] 27)=wC:=(⟨_,rfl⟩);rw[bQ] at k2 g2 z2
   try rw[bQ]
   try rw[z1]
   refine hK.out _ _ (hHeld.aa k2) (fun hHeld=>?_);clear hK K
   try simp only[Act.put,sA,sB,sC]
   have HI:Hid (mO w b n G (fun _=>false) wC):=by
    have aw:=HD.out.1.1.lt;have da:=HD.out.1.2.size;have iR:=HD.out.2;refine⟨(((HD.out.1.aa k0).aa k1).aa k2).1,(((HD.out.1.aa k0).aa k1).aa k2).2,by omega,by omega,fun j hj=>?_⟩;rcases (by omega:j=0\/j=1\/j=2) with rfl|rfl|rfl
    ·rw[k2.block _ (by omega),k1.block _ (by omega)];rw[iR] at g0;exact g0
    ·rw[k2.block _ (by omega)];rw[z0] at g1;exact g1
    rw[z1] at g2;exact g2
   clear k0 k1 k2 g0 g1 g2 z0 z1 z2 qg jL bQ;obtain⟨dV,gY,qQ⟩:=HI.out.put 0 (by decide) (by rfl) n rfl;have x0:=dV 0 _ (by decide) rfl;have x1:=dV 1 _ (by decide) rfl;have x2:=dV 2 _ (by decide) rfl;have x3:=dV 3 _ (by decide) rfl;have x4:=dV 4 _ (by decide) rfl;have f0:=gY 0;have f1:=gY 1;have f2:=gY 2;have f3:=gY 3;have f4:=gY 4;have lu:=hid qQ;clear dV gY qQ;refine aQ 6 (fun K hK=>?_);go_simp
   try go_wp2_with fail
   refine hK.out _ _ ⟨lu.out.1,lu.out.2.1⟩ (fun hHeld=>?_);clear hK K x0 x1 x2 x3 x4 f0 f1 f2 f3 f4
   try simp only[Act.put,sA,sB,sC]
   obtain⟨hJ,ib,mW⟩:=lu.out.put 2 (by decide) (by rfl) (n+2) rfl;have x0:=hJ 0 _ (by decide) rfl;have x1:=hJ 1 _ (by decide) rfl;have x2:=hJ 2 _ (by decide) rfl;have x3:=hJ 3 _ (by decide) rfl;have x4:=hJ 4 _ (by decide) rfl;have f0:=ib 0;have f1:=ib 1;have f2:=ib 2;have f3:=ib 3;have f4:=ib 4;have kv:=hid mW;clear hJ ib mW;refine aQ 7 (fun K hK=>?_);go_simp
   try go_wp2_with fail
   refine hK.out _ _ ⟨kv.out.1,kv.out.2.1⟩ (fun hHeld=>?_);clear hK K x0 x1 x2 x3 x4 f0 f1 f2 f3 f4
   try simp only[Act.put,sA,sB,sC]
   obtain⟨ik,gq,qp⟩:=kv.out.put 1 (by decide) (by rfl) (n+1) rfl;have x0:=ik 0 _ (by decide) rfl;have x1:=ik 1 _ (by decide) rfl;have x2:=ik 2 _ (by decide) rfl;have x3:=ik 3 _ (by decide) rfl;have x4:=ik 4 _ (by decide) rfl;have f0:=gq 0;have f1:=gq 1;have f2:=gq 2;have f3:=gq 3;have f4:=gq 4;have lO:=hid qp;clear ik gq qp;refine aQ 8 (fun K hK=>?_);go_simp
   try go_wp2_with fail
   refine hK.out _ _ ⟨lO.out.1,lO.out.2.1⟩ (fun hHeld=>?_);clear hK K x0 x1 x2 x3 x4 f0 f1 f2 f3 f4
   try simp only[Act.put,sA,sB,sC]
   refine wpAnyH_done (by kernel_rfl) ?_ _;go_wp2_with fail
   go_meet
   exact⟨n+0,n+2,n+1,rfl,rfl,rfl,lO.out.EL (by decide) (by decide) (by decide) (by decide) (by decide) (by decide)⟩
  ·go_simp;have k0:=al wD (.cells #[.slice none 0 0,.slice none 0 0,.slice none 0 0,.slice none 0 0,.int .i64 0] 27);have g0:=heap_alloc_new wD (.cells #[.slice none 0 0,.slice none 0 0,.slice none 0 0,.slice none 0 0,.int .i64 0] 27);have z0:(wD.alloc (.cells #[.slice none 0 0,.slice none 0 0,.slice none 0 0,.slice none 0 0,.int .i64 0] 27)).heap.size=n+1:=(by simp[HD.out.2]);obtain⟨wA,qg⟩:∃wA,wD.alloc (.cells #[.slice none 0 0,.slice none 0 0,.slice none 0 0,.slice none 0 0,.int .i64 0] 27)=wA:=(⟨_,rfl⟩);rw[qg] at k0 g0 z0
   try rw[qg]
   try rw[HD.out.2]
   refine hK.out _ _ (hHeld.aa k0) (fun hHeld=>?_);clear hK K
   try simp only[Act.put,sA,sB,sC]
   refine wpAnyH_ready (rs:=[3,5]) (by kernel_rfl) (by simp) (eV (fun K hK=>?_) (eV (fun K hK=>?_) AllReadyH.nil))
   ·go_simp;have k1:=al wA (.cells #[.slice none 0 0,.slice none 0 0,.slice none 0 0,.slice none 0 0,.int .i64 0] 27);have g1:=heap_alloc_new wA (.cells #[.slice none 0 0,.slice none 0 0,.slice none 0 0,.slice none 0 0,.int .i64 0] 27);have z1:(wA.alloc (.cells #[.slice none 0 0,.slice none 0 0,.slice none 0 0,.slice none 0 0,.int .i64 0] 27)).heap.size=n+2:=(by simp[z0]);obtain⟨wB,jL⟩:∃wB,wA.alloc (.cells #[.slice none 0 0,.slice none 0 0,.slice none 0 0,.slice none 0 0,.int .i64 0] 27)=wB:=(⟨_,rfl⟩);rw[jL] at k1 g1 z1
    try rw[jL]
    try rw[z0]
    refine hK.out _ _ (hHeld.aa k1) (fun hHeld=>?_);clear hK K
    try simp only[Act.put,sA,sB,sC]
    refine aQ 5 (fun K hK=>?_);go_simp;have k2:=al wB (.cells #[.slice none 0 0,.slice none 0 0,.slice none 0 0,.slice none 0 0,.int .i64 0] 27);have g2:=heap_alloc_new wB (.cells #[.slice none 0 0,.slice none 0 0,.slice none 0 0,.slice none 0 0,.int .i64 0] 27);have z2:(wB.alloc (.cells #[.slice none 0 0,.slice none 0 0,.slice none 0 0,.slice none 0 0,.int .i64 0] 27)).heap.size=n+3:=(by simp[z1]);obtain⟨wC,bQ⟩:∃wC,wB.alloc (.cells #[.slice none 0 0,.slice none 0 0,.slice none 0 0,.slice none 0 0,.int .i64 0] 27)=wC:=(⟨_,rfl⟩);rw[bQ] at k2 g2 z2
    try rw[bQ]
    try rw[z1]
    refine hK.out _ _ (hHeld.aa k2) (fun hHeld=>?_);clear hK K
    try simp only[Act.put,sA,sB,sC]
    have HI:Hid (mO w b n G (fun _=>false) wC):=by
     have aw:=HD.out.1.1.lt;have da:=HD.out.1.2.size;have iR:=HD.out.2;refine⟨(((HD.out.1.aa k0).aa k1).aa k2).1,(((HD.out.1.aa k0).aa k1).aa k2).2,by omega,by omega,fun j hj=>?_⟩;rcases (by omega:j=0\/j=1\/j=2) with rfl|rfl|rfl
     ·rw[k2.block _ (by omega),k1.block _ (by omega)];rw[iR] at g0;exact g0
     ·rw[k2.block _ (by omega)];rw[z0] at g1;exact g1
     rw[z1] at g2;exact g2
    clear k0 k1 k2 g0 g1 g2 z0 z1 z2 qg jL bQ;obtain⟨dV,gY,qQ⟩:=HI.out.put 1 (by decide) (by rfl) (n+1) rfl;have x0:=dV 0 _ (by decide) rfl;have x1:=dV 1 _ (by decide) rfl;have x2:=dV 2 _ (by decide) rfl;have x3:=dV 3 _ (by decide) rfl;have x4:=dV 4 _ (by decide) rfl;have f0:=gY 0;have f1:=gY 1;have f2:=gY 2;have f3:=gY 3;have f4:=gY 4;have lu:=hid qQ;clear dV gY qQ;refine aQ 6 (fun K hK=>?_);go_simp
    try go_wp2_with fail
    refine hK.out _ _ ⟨lu.out.1,lu.out.2.1⟩ (fun hHeld=>?_);clear hK K x0 x1 x2 x3 x4 f0 f1 f2 f3 f4
    try simp only[Act.put,sA,sB,sC]
    obtain⟨hJ,ib,mW⟩:=lu.out.put 0 (by decide) (by rfl) n rfl;have x0:=hJ 0 _ (by decide) rfl;have x1:=hJ 1 _ (by decide) rfl;have x2:=hJ 2 _ (by decide) rfl;have x3:=hJ 3 _ (by decide) rfl;have x4:=hJ 4 _ (by decide) rfl;have f0:=ib 0;have f1:=ib 1;have f2:=ib 2;have f3:=ib 3;have f4:=ib 4;have kv:=hid mW;clear hJ ib mW;refine aQ 7 (fun K hK=>?_);go_simp
    try go_wp2_with fail
    refine hK.out _ _ ⟨kv.out.1,kv.out.2.1⟩ (fun hHeld=>?_);clear hK K x0 x1 x2 x3 x4 f0 f1 f2 f3 f4
    try simp only[Act.put,sA,sB,sC]
    obtain⟨ik,gq,qp⟩:=kv.out.put 2 (by decide) (by rfl) (n+2) rfl;have x0:=ik 0 _ (by decide) rfl;have x1:=ik 1 _ (by decide) rfl;have x2:=ik 2 _ (by decide) rfl;have x3:=ik 3 _ (by decide) rfl;have x4:=ik 4 _ (by decide) rfl;have f0:=gq 0;have f1:=gq 1;have f2:=gq 2;have f3:=gq 3;have f4:=gq 4;have lO:=hid qp;clear ik gq qp;refine aQ 8 (fun K hK=>?_);go_simp
    try go_wp2_with fail
    refine hK.out _ _ ⟨lO.out.1,lO.out.2.1⟩ (fun hHeld=>?_);clear hK K x0 x1 x2 x3 x4 f0 f1 f2 f3 f4
    try simp only[Act.put,sA,sB,sC]
    refine wpAnyH_done (by kernel_rfl) ?_ _;go_wp2_with fail
    go_meet
    exact⟨n+1,n+0,n+2,rfl,rfl,rfl,lO.out.EL (by decide) (by decide) (by decide) (by decide) (by decide) (by decide)⟩
   go_simp;have k1:=al wA (.cells #[.slice none 0 0,.slice none 0 0,.slice none 0 0,.slice none 0 0,.int .i64 0] 27);have g1:=heap_alloc_new wA (.cells #[.slice none 0 0,.slice none 0 0,.slice none 0 0,.slice none 0 0,.int .i64 0] 27);have z1:(wA.alloc (.cells #[.slice none 0 0,.slice none 0 0,.slice none 0 0,.slice none 0 0,.int .i64 0] 27)).heap.size=n+2:=(by simp[z0]);obtain⟨wB,jL⟩:∃wB,wA.alloc (.cells #[.slice none 0 0,.slice none 0 0,.slice none 0 0,.slice none 0 0,.int .i64 0] 27)=wB:=(⟨_,rfl⟩);rw[jL] at k1 g1 z1
   try rw[jL]
   try rw[z0]
   refine hK.out _ _ (hHeld.aa k1) (fun hHeld=>?_);clear hK K
   try simp only[Act.put,sA,sB,sC]
   refine aQ 3 (fun K hK=>?_);go_simp;have k2:=al wB (.cells #[.slice none 0 0,.slice none 0 0,.slice none 0 0,.slice none 0 0,.int .i64 0] 27);have g2:=heap_alloc_new wB (.cells #[.slice none 0 0,.slice none 0 0,.slice none 0 0,.slice none 0 0,.int .i64 0] 27);have z2:(wB.alloc (.cells #[.slice none 0 0,.slice none 0 0,.slice none 0 0,.slice none 0 0,.int .i64 0] 27)).heap.size=n+3:=(by simp[z1]);obtain⟨wC,bQ⟩:∃wC,wB.alloc (.cells #[.slice none 0 0,.slice none 0 0,.slice none 0 0,.slice none 0 0,.int .i64 0] 27)=wC:=(⟨_,rfl⟩);rw[bQ] at k2 g2 z2
   try rw[bQ]
   try rw[z1]
   refine hK.out _ _ (hHeld.aa k2) (fun hHeld=>?_);clear hK K
   try simp only[Act.put,sA,sB,sC]
   have HI:Hid (mO w b n G (fun _=>false) wC):=by
    have aw:=HD.out.1.1.lt;have da:=HD.out.1.2.size;have iR:=HD.out.2;refine⟨(((HD.out.1.aa k0).aa k1).aa k2).1,(((HD.out.1.aa k0).aa k1).aa k2).2,by omega,by omega,fun j hj=>?_⟩;rcases (by omega:j=0\/j=1\/j=2) with rfl|rfl|rfl
    ·rw[k2.block _ (by omega),k1.block _ (by omega)];rw[iR] at g0;exact g0
    ·rw[k2.block _ (by omega)];rw[z0] at g1;exact g1
    rw[z1] at g2;exact g2
   clear k0 k1 k2 g0 g1 g2 z0 z1 z2 qg jL bQ;obtain⟨dV,gY,qQ⟩:=HI.out.put 2 (by decide) (by rfl) (n+2) rfl;have x0:=dV 0 _ (by decide) rfl;have x1:=dV 1 _ (by decide) rfl;have x2:=dV 2 _ (by decide) rfl;have x3:=dV 3 _ (by decide) rfl;have x4:=dV 4 _ (by decide) rfl;have f0:=gY 0;have f1:=gY 1;have f2:=gY 2;have f3:=gY 3;have f4:=gY 4;have lu:=hid qQ;clear dV gY qQ;refine aQ 6 (fun K hK=>?_);go_simp
   try go_wp2_with fail
   refine hK.out _ _ ⟨lu.out.1,lu.out.2.1⟩ (fun hHeld=>?_);clear hK K x0 x1 x2 x3 x4 f0 f1 f2 f3 f4
   try simp only[Act.put,sA,sB,sC]
   obtain⟨hJ,ib,mW⟩:=lu.out.put 0 (by decide) (by rfl) n rfl;have x0:=hJ 0 _ (by decide) rfl;have x1:=hJ 1 _ (by decide) rfl;have x2:=hJ 2 _ (by decide) rfl;have x3:=hJ 3 _ (by decide) rfl;have x4:=hJ 4 _ (by decide) rfl;have f0:=ib 0;have f1:=ib 1;have f2:=ib 2;have f3:=ib 3;have f4:=ib 4;have kv:=hid mW;clear hJ ib mW;refine aQ 7 (fun K hK=>?_);go_simp
   try go_wp2_with fail
   refine hK.out _ _ ⟨kv.out.1,kv.out.2.1⟩ (fun hHeld=>?_);clear hK K x0 x1 x2 x3 x4 f0 f1 f2 f3 f4
   try simp only[Act.put,sA,sB,sC]
   obtain⟨ik,gq,qp⟩:=kv.out.put 1 (by decide) (by rfl) (n+1) rfl;have x0:=ik 0 _ (by decide) rfl;have x1:=ik 1 _ (by decide) rfl;have x2:=ik 2 _ (by decide) rfl;have x3:=ik 3 _ (by decide) rfl;have x4:=ik 4 _ (by decide) rfl;have f0:=gq 0;have f1:=gq 1;have f2:=gq 2;have f3:=gq 3;have f4:=gq 4;have lO:=hid qp;clear ik gq qp;refine aQ 8 (fun K hK=>?_);go_simp
   try go_wp2_with fail
   refine hK.out _ _ ⟨lO.out.1,lO.out.2.1⟩ (fun hHeld=>?_);clear hK K x0 x1 x2 x3 x4 f0 f1 f2 f3 f4
   try simp only[Act.put,sA,sB,sC]
   refine wpAnyH_done (by kernel_rfl) ?_ _;go_wp2_with fail
   go_meet
   exact⟨n+2,n+0,n+1,rfl,rfl,rfl,lO.out.EL (by decide) (by decide) (by decide) (by decide) (by decide) (by decide)⟩
  go_simp;have k0:=al wD (.cells #[.slice none 0 0,.slice none 0 0,.slice none 0 0,.slice none 0 0,.int .i64 0] 27);have g0:=heap_alloc_new wD (.cells #[.slice none 0 0,.slice none 0 0,.slice none 0 0,.slice none 0 0,.int .i64 0] 27);have z0:(wD.alloc (.cells #[.slice none 0 0,.slice none 0 0,.slice none 0 0,.slice none 0 0,.int .i64 0] 27)).heap.size=n+1:=by simp[HD.out.2]
  obtain⟨wA,qg⟩:∃wA,wD.alloc (.cells #[.slice none 0 0,.slice none 0 0,.slice none 0 0,.slice none 0 0,.int .i64 0] 27)=wA:=⟨_,rfl⟩
  rw[qg] at k0 g0 z0
  try rw[qg]
  try rw[HD.out.2]
  refine hK.out _ _ (hHeld.aa k0) (fun hHeld=>?_);clear hK K
  try simp only[Act.put,sA,sB,sC]
  refine wpAnyH_ready (rs:=[3,4]) (by kernel_rfl) (by simp) (eV (fun K hK=>?_) (eV (fun K hK=>?_) AllReadyH.nil))
  ·go_simp;have k1:=al wA (.cells #[.slice none 0 0,.slice none 0 0,.slice none 0 0,.slice none 0 0,.int .i64 0] 27);have g1:=heap_alloc_new wA (.cells #[.slice none 0 0,.slice none 0 0,.slice none 0 0,.slice none 0 0,.int .i64 0] 27);have z1:(wA.alloc (.cells #[.slice none 0 0,.slice none 0 0,.slice none 0 0,.slice none 0 0,.int .i64 0] 27)).heap.size=n+2:=(by simp[z0]);obtain⟨wB,jL⟩:∃wB,wA.alloc (.cells #[.slice none 0 0,.slice none 0 0,.slice none 0 0,.slice none 0 0,.int .i64 0] 27)=wB:=(⟨_,rfl⟩);rw[jL] at k1 g1 z1
   try rw[jL]
   try rw[z0]
   refine hK.out _ _ (hHeld.aa k1) (fun hHeld=>?_);clear hK K
   try simp only[Act.put,sA,sB,sC]
   refine aQ 4 (fun K hK=>?_);go_simp;have k2:=al wB (.cells #[.slice none 0 0,.slice none 0 0,.slice none 0 0,.slice none 0 0,.int .i64 0] 27);have g2:=heap_alloc_new wB (.cells #[.slice none 0 0,.slice none 0 0,.slice none 0 0,.slice none 0 0,.int .i64 0] 27);have z2:(wB.alloc (.cells #[.slice none 0 0,.slice none 0 0,.slice none 0 0,.slice none 0 0,.int .i64 0] 27)).heap.size=n+3:=(by simp[z1]);obtain⟨wC,bQ⟩:∃wC,wB.alloc (.cells #[.slice none 0 0,.slice none 0 0,.slice none 0 0,.slice none 0 0,.int .i64 0] 27)=wC:=(⟨_,rfl⟩);rw[bQ] at k2 g2 z2
   try rw[bQ]
   try rw[z1]
   refine hK.out _ _ (hHeld.aa k2) (fun hHeld=>?_);clear hK K
   try simp only[Act.put,sA,sB,sC]
   have HI:Hid (mO w b n G (fun _=>false) wC):=by
    have aw:=HD.out.1.1.lt;have da:=HD.out.1.2.size;have iR:=HD.out.2;refine⟨(((HD.out.1.aa k0).aa k1).aa k2).1,(((HD.out.1.aa k0).aa k1).aa k2).2,by omega,by omega,fun j hj=>?_⟩;rcases (by omega:j=0\/j=1\/j=2) with rfl|rfl|rfl
    ·rw[k2.block _ (by omega),k1.block _ (by omega)];rw[iR] at g0;exact g0
    ·rw[k2.block _ (by omega)];rw[z0] at g1;exact g1
    rw[z1] at g2;exact g2
   clear k0 k1 k2 g0 g1 g2 z0 z1 z2 qg jL bQ;obtain⟨dV,gY,qQ⟩:=HI.out.put 1 (by decide) (by rfl) (n+1) rfl;have x0:=dV 0 _ (by decide) rfl;have x1:=dV 1 _ (by decide) rfl;have x2:=dV 2 _ (by decide) rfl;have x3:=dV 3 _ (by decide) rfl;have x4:=dV 4 _ (by decide) rfl;have f0:=gY 0;have f1:=gY 1;have f2:=gY 2;have f3:=gY 3;have f4:=gY 4;have lu:=hid qQ;clear dV gY qQ;refine aQ 6 (fun K hK=>?_);go_simp
   try go_wp2_with fail
   refine hK.out _ _ ⟨lu.out.1,lu.out.2.1⟩ (fun hHeld=>?_);clear hK K x0 x1 x2 x3 x4 f0 f1 f2 f3 f4
   try simp only[Act.put,sA,sB,sC]
   obtain⟨hJ,ib,mW⟩:=lu.out.put 2 (by decide) (by rfl) (n+2) rfl;have x0:=hJ 0 _ (by decide) rfl;have x1:=hJ 1 _ (by decide) rfl;have x2:=hJ 2 _ (by decide) rfl;have x3:=hJ 3 _ (by decide) rfl;have x4:=hJ 4 _ (by decide) rfl;have f0:=ib 0;have f1:=ib 1;have f2:=ib 2;have f3:=ib 3;have f4:=ib 4;have kv:=hid mW;clear hJ ib mW;refine aQ 7 (fun K hK=>?_);go_simp
   try go_wp2_with fail
   refine hK.out _ _ ⟨kv.out.1,kv.out.2.1⟩ (fun hHeld=>?_);clear hK K x0 x1 x2 x3 x4 f0 f1 f2 f3 f4
   try simp only[Act.put,sA,sB,sC]
   obtain⟨ik,gq,qp⟩:=kv.out.put 0 (by decide) (by rfl) n rfl;have x0:=ik 0 _ (by decide) rfl;have x1:=ik 1 _ (by decide) rfl;have x2:=ik 2 _ (by decide) rfl;have x3:=ik 3 _ (by decide) rfl;have x4:=ik 4 _ (by decide) rfl;have f0:=gq 0;have f1:=gq 1;have f2:=gq 2;have f3:=gq 3;have f4:=gq 4;have lO:=hid qp;clear ik gq qp;refine aQ 8 (fun K hK=>?_);go_simp
   try go_wp2_with fail
   refine hK.out _ _ ⟨lO.out.1,lO.out.2.1⟩ (fun hHeld=>?_);clear hK K x0 x1 x2 x3 x4 f0 f1 f2 f3 f4
   try simp only[Act.put,sA,sB,sC]
   refine wpAnyH_done (by kernel_rfl) ?_ _;go_wp2_with fail
   go_meet
   exact⟨n+1,n+2,n+0,rfl,rfl,rfl,lO.out.EL (by decide) (by decide) (by decide) (by decide) (by decide) (by decide)⟩
  go_simp;have k1:=al wA (.cells #[.slice none 0 0,.slice none 0 0,.slice none 0 0,.slice none 0 0,.int .i64 0] 27);have g1:=heap_alloc_new wA (.cells #[.slice none 0 0,.slice none 0 0,.slice none 0 0,.slice none 0 0,.int .i64 0] 27);have z1:(wA.alloc (.cells #[.slice none 0 0,.slice none 0 0,.slice none 0 0,.slice none 0 0,.int .i64 0] 27)).heap.size=n+2:=by simp[z0]
  obtain⟨wB,jL⟩:∃wB,wA.alloc (.cells #[.slice none 0 0,.slice none 0 0,.slice none 0 0,.slice none 0 0,.int .i64 0] 27)=wB:=⟨_,rfl⟩
  rw[jL] at k1 g1 z1
  try rw[jL]
  try rw[z0]
  refine hK.out _ _ (hHeld.aa k1) (fun hHeld=>?_);clear hK K
  try simp only[Act.put,sA,sB,sC]
  refine aQ 3 (fun K hK=>?_);go_simp;have k2:=al wB (.cells #[.slice none 0 0,.slice none 0 0,.slice none 0 0,.slice none 0 0,.int .i64 0] 27);have g2:=heap_alloc_new wB (.cells #[.slice none 0 0,.slice none 0 0,.slice none 0 0,.slice none 0 0,.int .i64 0] 27);have z2:(wB.alloc (.cells #[.slice none 0 0,.slice none 0 0,.slice none 0 0,.slice none 0 0,.int .i64 0] 27)).heap.size=n+3:=by simp[z1]
  obtain⟨wC,bQ⟩:∃wC,wB.alloc (.cells #[.slice none 0 0,.slice none 0 0,.slice none 0 0,.slice none 0 0,.int .i64 0] 27)=wC:=⟨_,rfl⟩
  rw[bQ] at k2 g2 z2
  try rw[bQ]
  try rw[z1]
  refine hK.out _ _ (hHeld.aa k2) (fun hHeld=>?_);clear hK K
  try simp only[Act.put,sA,sB,sC]
  have HI:Hid (mO w b n G (fun _=>false) wC):=by
   have aw:=HD.out.1.1.lt;have da:=HD.out.1.2.size;have iR:=HD.out.2;refine⟨(((HD.out.1.aa k0).aa k1).aa k2).1,(((HD.out.1.aa k0).aa k1).aa k2).2,by omega,by omega,fun j hj=>?_⟩;rcases (by omega:j=0\/j=1\/j=2) with rfl|rfl|rfl
   ·rw[k2.block _ (by omega),k1.block _ (by omega)];rw[iR] at g0;exact g0
   ·rw[k2.block _ (by omega)];rw[z0] at g1;exact g1
   rw[z1] at g2;exact g2
  clear k0 k1 k2 g0 g1 g2 z0 z1 z2 qg jL bQ;obtain⟨dV,gY,qQ⟩:=HI.out.put 2 (by decide) (by rfl) (n+2) rfl;have x0:=dV 0 _ (by decide) rfl;have x1:=dV 1 _ (by decide) rfl;have x2:=dV 2 _ (by decide) rfl;have x3:=dV 3 _ (by decide) rfl;have x4:=dV 4 _ (by decide) rfl;have f0:=gY 0;have f1:=gY 1;have f2:=gY 2;have f3:=gY 3;have f4:=gY 4;have lu:=hid qQ;clear dV gY qQ;refine aQ 6 (fun K hK=>?_);go_simp
  try go_wp2_with fail
  refine hK.out _ _ ⟨lu.out.1,lu.out.2.1⟩ (fun hHeld=>?_);clear hK K x0 x1 x2 x3 x4 f0 f1 f2 f3 f4
  try simp only[Act.put,sA,sB,sC]
  obtain⟨hJ,ib,mW⟩:=lu.out.put 1 (by decide) (by rfl) (n+1) rfl;have x0:=hJ 0 _ (by decide) rfl;have x1:=hJ 1 _ (by decide) rfl;have x2:=hJ 2 _ (by decide) rfl;have x3:=hJ 3 _ (by decide) rfl;have x4:=hJ 4 _ (by decide) rfl;have f0:=ib 0;have f1:=ib 1;have f2:=ib 2;have f3:=ib 3;have f4:=ib 4;have kv:=hid mW;clear hJ ib mW;refine aQ 7 (fun K hK=>?_);go_simp
  try go_wp2_with fail
  refine hK.out _ _ ⟨kv.out.1,kv.out.2.1⟩ (fun hHeld=>?_);clear hK K x0 x1 x2 x3 x4 f0 f1 f2 f3 f4
  try simp only[Act.put,sA,sB,sC]
  obtain⟨ik,gq,qp⟩:=kv.out.put 0 (by decide) (by rfl) n rfl;have x0:=ik 0 _ (by decide) rfl;have x1:=ik 1 _ (by decide) rfl;have x2:=ik 2 _ (by decide) rfl;have x3:=ik 3 _ (by decide) rfl;have x4:=ik 4 _ (by decide) rfl;have f0:=gq 0;have f1:=gq 1;have f2:=gq 2;have f3:=gq 3;have f4:=gq 4;have lO:=hid qp;clear ik gq qp;refine aQ 8 (fun K hK=>?_);go_simp
  try go_wp2_with fail
  refine hK.out _ _ ⟨lO.out.1,lO.out.2.1⟩ (fun hHeld=>?_);clear hK K x0 x1 x2 x3 x4 f0 f1 f2 f3 f4
  try simp only[Act.put,sA,sB,sC]
  refine wpAnyH_done (by kernel_rfl) ?_ _;go_wp2_with fail
  go_meet
  exact⟨n+2,n+1,n+0,rfl,rfl,rfl,lO.out.EL (by decide) (by decide) (by decide) (by decide) (by decide) (by decide)⟩
 case rest=>
 clear c0 c1 c2 c3 c4;obtain⟨b5,b6,b7,rfl,rfl,rfl,HL⟩:=hcut;have tJ:Hid (fq w b b5 b6 b7 G G.cs G.cs G.cs wc):=by
  obtain⟨l1,l2,l3,l4,l5,l6,l7,l8,l9,l10,l11,l12,l13,l14⟩:=HL.out;exact⟨l1,l2,l3,l4,l5,l6,l7,l8,l9,l10,l11,l12,l13,l14⟩
 have BA:0<G.S.length:=by
  have:=Jh.out.st;omega
 have G6:G.S.length<=20:=HB.out.s;have my:=hid BA;have xS:=hid G6;clear HL kA BA G6;have q3:wc.cell? ⟨b5,3,none⟩=some (.slice G.aL G.L.length G.cL):=(ez.of_heap (K:=G) tJ.out.h5).c3;have f3:wc.frozen? ⟨b5,3,none⟩=false:=frozen_of_row wc _ 3 _ _ tJ.out.h5;have vg:Hid (fq w b b5 b6 b7 G G.bare.cs G.cs G.cs (wc.setCell ⟨b5,3,none⟩ (.slice none 0 0))):=tJ.out.OX 3 (.slice none 0 0);go_upto_region 7 with fail;clear q3 f3 tJ;generalize wc.setCell ⟨b5,3,none⟩ (.slice none 0 0)=W1 at vg⊢;obtain⟨iT,va,Tt,LZ,Bb⟩:=info_parts rP;obtain⟨g1,o1,e1,kj,q1⟩:=((HA.out.1.below vg.out.k).s) my.out;have SK:=zh6 W1;have kE:=al W1 (.cells #[] 9);have gD:∀j u,(qY G.S)[j]?=some u->(W1.alloc (.cells #[] 9)).cell? ((⟨g1,o1,none⟩:Addr).add j)=some u:=znE (fun j hj=>(kE.cell (p:=⟨g1,o1+j,none⟩) kj).trans (q1 j hj));have Cq:=hid (Zz SK (Zz kE (Zz gD (Zz (znD G.S) (by rw[zh4,Nat.mul_one]:(qY G.S).length=G.S.length*1)))));have c1:(W1.alloc (.cells #[] 9)).cell? ⟨b,1,none⟩=some (.slice G.aS G.S.length G.cS):=(vg.out.g.below kE).c1;rw[e1] at c1;clear SK kE gD q1 kj;go_wp2_with (at_builtin;refine wpList_append_own _ rfl _ _ 23 rfl W1.heap.size 9 iT (.string ⟨#[]⟩) 1 16 Tryz.underlying23 va Tt LZ Bb rfl (by decide) _ _ _ rfl Cq.out.1 ⟨g1,o1,none⟩ G.S.length G.cS (qY G.S) rfl Cq.out.2.2.2.2 Cq.out.2.2.1 Cq.out.2.2.2.1 ?_ ?_ ?_ ?_)
 ·have:=xS.out;unfold maxLen;omega
 ·have:=xS.out;omega
 ·simp
 intro v' w5 ak aj _;obtain⟨a5,c5,rfl⟩:=bF ak;have rJ:Below W1.heap.size W1 w5:=Cq.out.2.1.grown aj (by simp) (fun g e=>(Cq.out.1.lt g e).1)
 try simp only[Nat.zero_add,List.nil_append] at ak
 try simp only[Nat.zero_add]
 have G3:=dp ak (al w5 (.cells #[.string ⟨#[115,111,114,116,95,109,111,114,101]⟩] 9));have hz5:=rJ.size;have uW:=hid (Zz ak (Zz rJ G3));clear ak aj rJ G3;go_wp2_with (at_builtin;refine wpList_append_lies _ rfl _ _ 23 rfl W1.heap.size 9 iT (.string ⟨#[]⟩) 1 16 Tryz.underlying23 va Tt LZ Bb rfl (by decide) (.slice a5 G.S.length c5) G.S.length (qY G.S) rfl uW.out.2.2 ⟨w5.heap.size,0,none⟩ 1 1 [.string ⟨#[115,111,114,116,95,109,111,114,101]⟩] rfl rfl (World.news_of_block (cs:=#[.string ⟨#[115,111,114,116,95,109,111,114,101]⟩]) (heap_alloc_new _ _)) (by intro u hu;simp at hu;rcases hu with rfl;rfl) (by omega) (by have:=xS.out;unfold maxLen;omega) (by have:=xS.out;omega) (by simp;omega) _ rfl ?_);intro g6 c6 w6 an af _ _;have ec:=uW.out.2.1.trans (((al w5 (.cells #[.string ⟨#[115,111,114,116,95,109,111,114,101]⟩] 9)).mono uW.out.2.1.size).trans (Bz af uW.out.2.2 (by simp;omega)));have kU:=hid (vg.out.aa ec);have FM:Hid (lp w6 (some ⟨g6,0,none⟩) (G.S++[⟨#[115,111,114,116,95,109,111,114,101]⟩])/\W1.heap.size<=g6):=⟨ZW (n:=G.S.length+1) (by simp) (by rw[zh5];exact an),(an.lt g6 rfl).1⟩
 have q61:w6.cell? ⟨b6,1,none⟩=some (.slice G.aS G.S.length G.cS):=(ez.of_heap (K:=G) kU.out.h6).c1;have f61:w6.frozen? ⟨b6,1,none⟩=false:=frozen_of_row w6 _ 1 _ _ kU.out.h6;clear an af ec uW Cq hz5 e1 c1;go_upto_region 8 with fail;have uq:Hid (fq w b b5 b6 b7 G G.bare.cs (G.aG (some ⟨g6,0,none⟩) c6 ⟨#[115,111,114,116,95,109,111,114,101]⟩).cs G.cs (w6.setCell ⟨b6,1,none⟩ (.slice (some ⟨g6,0,none⟩) (G.S.length+1) c6))):=by
  have h9:=kU.out.RW 1 (.slice (some ⟨g6,0,none⟩) (G.S.length+1) c6);rw[Uu];exact h9
 have NV:Hid (lp (w6.setCell ⟨b6,1,none⟩ (.slice (some ⟨g6,0,none⟩) (G.S.length+1) c6)) (some ⟨g6,0,none⟩) (G.S++[⟨#[115,111,114,116,95,109,111,114,101]⟩])):=FM.out.1.eD (by have:=uQ vg.out.h6;have:=FM.out.2;omega) _;clear q61 f61 kU FM vg;generalize w6.setCell ⟨b6,1,none⟩ (.slice (some ⟨g6,0,none⟩) (G.S.length+1) c6)=W7 at uq NV⊢;have Gk:Hid (Calls Tryz.prog 9 #[.agg #[.slice G.aR G.R.length G.cR,.slice (some ⟨g6,0,none⟩) (G.S.length+1) c6,.slice G.aP G.P.length G.cP,.slice G.aL G.L.length G.cL,.int .i64 G.st]] W7 (fun e w'=>∃x1 x2 x3:Int,(x1=0/\x2=0/\x3=0\/x1=9/\x2=2/\x3=(G.S.length:Int))/\e=.returned (.agg #[.int .i64 x1,.int .i64 x2,.int .i64 x3])/\Below W7.heap.size W7 w')):=by
  have h9:=HC.out HB.out (G.aG (some ⟨g6,0,none⟩) c6 ⟨#[115,111,114,116,95,109,111,114,101]⟩) rfl rfl rfl (zjm HB.out (by decide)) W7 uq.out.k (zjl (HA.out.1.below uq.out.k) NV.out);rw[Gr.xA,show (#[Value.slice (G.aG (some ⟨g6,0,none⟩) c6 ⟨#[115,111,114,116,95,109,111,114,101]⟩).aR (G.aG (some ⟨g6,0,none⟩) c6 ⟨#[115,111,114,116,95,109,111,114,101]⟩).R.length (G.aG (some ⟨g6,0,none⟩) c6 ⟨#[115,111,114,116,95,109,111,114,101]⟩).cR,Value.slice (G.aG (some ⟨g6,0,none⟩) c6 ⟨#[115,111,114,116,95,109,111,114,101]⟩).aS (G.aG (some ⟨g6,0,none⟩) c6 ⟨#[115,111,114,116,95,109,111,114,101]⟩).S.length (G.aG (some ⟨g6,0,none⟩) c6 ⟨#[115,111,114,116,95,109,111,114,101]⟩).cS,Value.slice (G.aG (some ⟨g6,0,none⟩) c6 ⟨#[115,111,114,116,95,109,111,114,101]⟩).aP (G.aG (some ⟨g6,0,none⟩) c6 ⟨#[115,111,114,116,95,109,111,114,101]⟩).P.length (G.aG (some ⟨g6,0,none⟩) c6 ⟨#[115,111,114,116,95,109,111,114,101]⟩).cP,Value.slice (G.aG (some ⟨g6,0,none⟩) c6 ⟨#[115,111,114,116,95,109,111,114,101]⟩).aL (G.aG (some ⟨g6,0,none⟩) c6 ⟨#[115,111,114,116,95,109,111,114,101]⟩).L.length (G.aG (some ⟨g6,0,none⟩) c6 ⟨#[115,111,114,116,95,109,111,114,101]⟩).cL,Value.int .i64 (G.aG (some ⟨g6,0,none⟩) c6 ⟨#[115,111,114,116,95,109,111,114,101]⟩).st]:Array Value)=_ from Uu G (some ⟨g6,0,none⟩) c6 ⟨#[115,111,114,116,95,109,111,114,101]⟩] at h9;refine h9.mono ?_;rintro e w' ⟨i9,Jv,uX,rfl,hb⟩;have h0:Jv=0:=HQ.out _ _ _ _ Hq.out uX QH.out;subst h0;rw[show jn (G.aG (some ⟨g6,0,none⟩) c6 ⟨#[115,111,114,116,95,109,111,114,101]⟩) i9 0=bY (G.aG (some ⟨g6,0,none⟩) c6 ⟨#[115,111,114,116,95,109,111,114,101]⟩) from if_neg (by simp)];rcases Jh.out.more (by have:=xS.out;omega) (some ⟨g6,0,none⟩) c6 (s:=⟨#[115,111,114,116,95,109,111,114,101]⟩) (by decide +kernel) with h|h
  ·rw[h];exact⟨_,_,_,Or.inl ⟨rfl,rfl,rfl⟩,rfl,hb⟩
  rw[h];exact⟨_,_,_,Or.inr ⟨rfl,rfl,rfl⟩,rfl,hb⟩
 have CT:Hid (∀W,Below W7.heap.size W7 W->Calls Tryz.prog 9 #[.agg #[.slice G.aR G.R.length G.cR,.slice G.aS G.S.length G.cS,.slice G.aP G.P.length G.cP,.slice none 0 0,.int .i64 G.st]] W (fun e w'=>e=.returned (.agg #[.int .i64 0,.int .i64 0,.int .i64 0])/\Below W.heap.size W w')):=fun W kW=>by
  have hk:=uq.out.k.trans (kW.mono uq.out.k.size);have h9:=HC.out HB.out G.bare rfl rfl rfl (zln HB.out) W hk (znL (HA.out.1.below hk));refine h9.mono ?_;rintro e w' ⟨i9,Jv,uX,rfl,hb⟩;have h0:Jv=0:=HQ.out _ _ _ _ Hq.out uX QH.out;subst h0;rw[show jn G.bare i9 0=(0,0,0) by rw[<-uJ.Xi (Jh.out.bare none 0)];exact if_neg (by simp)];exact⟨rfl,hb⟩
 have Ek:=ez.of_heap (K:=G.aG (some ⟨g6,0,none⟩) c6 ⟨#[115,111,114,116,95,109,111,114,101]⟩) uq.out.h6;have p0:=Ek.c0;have p1:W7.cell? ⟨b6,1,none⟩=some (.slice (some ⟨g6,0,none⟩) (G.S.length+1) c6):=by
  have h9:=Ek.c1;rw[show (G.aG (some ⟨g6,0,none⟩) c6 ⟨#[115,111,114,116,95,109,111,114,101]⟩).S.length=G.S.length+1 by simp[Gr.aG]] at h9;exact h9
 have p2:=Ek.c2;have p3:=Ek.c3;have p4:=Ek.c4;dsimp only[Gr.aG] at p0 p2 p3 p4;clear Ek NV;go_wp2_with (go_at_call 9;refine Gk.out.mono ?_;rintro e w8 ⟨x1,x2,x3,hx,rfl,b8⟩;refine Hid.out ?_);refine hid ?_;have TR:=hid (uq.out.aa b8);have yQ:=hid b8;have HX:=hid hx;clear p0 p1 p2 p3 p4 b8 hx Gk uq;have k9:=al w8 (.cells #[.int .i64 x1,.int .i64 x2,.int .i64 x3] 32);have g9:=heap_alloc_new w8 (.cells #[.int .i64 x1,.int .i64 x2,.int .i64 x3] 32);obtain⟨b8,BG⟩:∃b8,w8.heap.size=b8:=⟨_,rfl⟩
 have H9:Hid (fq w b b5 b6 b7 G G.bare.cs (G.aG (some ⟨g6,0,none⟩) c6 ⟨#[115,111,114,116,95,109,111,114,101]⟩).cs G.cs (w8.alloc (.cells #[.int .i64 x1,.int .i64 x2,.int .i64 x3] 32))/\(w8.alloc (.cells #[.int .i64 x1,.int .i64 x2,.int .i64 x3] 32)).heap[b8]?=some (.cells #[.int .i64 x1,.int .i64 x2,.int .i64 x3] 32 (0,0))/\Below W7.heap.size W7 (w8.alloc (.cells #[.int .i64 x1,.int .i64 x2,.int .i64 x3] 32))):=⟨TR.out.aa k9,by rw[<-BG];exact g9,yQ.out.trans (k9.mono yQ.out.size)⟩
 clear k9 g9 TR yQ;go_upto_region 9 with fail
 try rw[BG]
 clear BG;generalize w8.alloc (.cells #[.int .i64 x1,.int .i64 x2,.int .i64 x3] 32)=W9 at H9⊢
 go_cut [59] from 33 to 58 (fun v wx=>v=.bool false/\Hid (fq w b b5 b6 b7 G G.bare.cs (G.aG (some ⟨g6,0,none⟩) c6 ⟨#[115,111,114,116,95,109,111,114,101]⟩).cs G.cs wx))
 case first=>
  have D7:=ez.of_heap (K:=G.bare) H9.out.1.h5;have p0:=D7.c0;have p1:=D7.c1;have p2:=D7.c2;have p3:W9.cell? ⟨b5,3,none⟩=some (.slice none 0 0):=D7.c3;have p4:=D7.c4;dsimp only[Gr.bare] at p0 p1 p2 p4;have vg:=hid (CT.out W9 H9.out.2.2);clear D7 CT;go_wp2_with (go_at_call 9;refine vg.out.mono ?_;rintro e kP ⟨rfl,OA⟩;refine Hid.out ?_);refine hid ?_;have CE:=hid (H9.out.1.aa OA);have hf:=(OA.block _ (uQ H9.out.2.1)).trans H9.out.2.1;have y0:kP.cell? ⟨b8,0,none⟩=some (.int .i64 x1):=by rw[cell_of_row kP _ 0 _ _ _ hf];rfl
  have y1:kP.cell? ⟨b8,1,none⟩=some (.int .i64 x2):=by rw[cell_of_row kP _ 1 _ _ _ hf];rfl
  have y2:kP.cell? ⟨b8,2,none⟩=some (.int .i64 x3):=by rw[cell_of_row kP _ 2 _ _ _ hf];rfl
  have c1:=CE.out.g.c1;have Dh:=HX.out;clear p0 p1 p2 p3 p4 OA hf vg H9 HX;rcases Dh with ⟨rfl,rfl,rfl⟩|⟨rfl,rfl,rfl⟩
  ·go_wp2_with fail
   go_meet
   exact⟨rfl,CE.out⟩
  go_wp2_with fail
  go_meet
  exact⟨rfl,CE.out⟩
 case rest=>
 obtain⟨rfl,sJ⟩:=hcut;clear H9 HX CT;generalize wc=LV at sJ⊢;have c2:=sJ.out.g.c2;by_cases yC:G.P.length=0
 ·have j0:((G.P.length:Int) == 0)=true:=by simp[yC]
  clear yC;go_wp2;go_ret;exact⟨rfl,sJ.out.k⟩
 have j0:((G.P.length:Int) == 0)=false:=by rw[beq_eq_false_iff_ne];omega
 go_upto_region 13 with fail;clear c2 j0;obtain⟨iP,vp,rY,nU,rn⟩:=info_parts tU;obtain⟨xn,rfl,iL⟩:∃xn:Nat,x=(xn:Int)/\xn<256:=by
  have h9:IntKind.u8.min<=x/\x<=IntKind.u8.max:=by simpa [Lit.wf] using wx
  have h8:(0:Int)<=x:=h9.1;have h7:x<=(255:Int):=h9.2;exact⟨x.toNat,by omega,by omega⟩
 obtain⟨n,hn⟩:∃n,G.P.length=n:=⟨_,rfl⟩
 have pJ:=hid hn;have Md:0<n:=by omega
 have hn40:n<=40:=by have:=HB.out.p;omega
 obtain⟨q,hq⟩:∃q,xn % n=q:=⟨_,rfl⟩
 have NF:q<n:=by rw[<-hq];exact Nat.mod_lt _ Md
 have Nh:Int.tmod (xn:Int) (n:Int)=q:=by rw[Int.tmod_eq_emod_of_nonneg (by omega),<-hq];rfl
 have pw:((n:Int) == 0)=false:=by rw[beq_eq_false_iff_ne];omega
 have pM:¬((n:Int)=0):=by omega
 have eO:¬(n=0):=by omega
 have S9:(xn:Int) % (n:Int)=q:=by rw[<-hq];rfl
 have jL:IntKind.i64.wrap (q:Int)=q:=IntWalk.i64_in _ (by omega);have bQ:IntKind.i64.wrap (xn:Int)=xn:=IntWalk.i64_in _ (by omega);have Bu:IntKind.i64.wrap (Int.tmod (xn:Int) (n:Int))=(q:Int):=by rw[Nh];exact jL
 have hqi:(q:Int)<n:=by omega
 have kd:Below LV.heap.size LV LV.drew:=⟨rfl,rfl,rfl,Nat.le_refl _,fun _ _=>rfl⟩
 have tJ:=hid (sJ.out.aa kd);clear kd sJ;generalize sd:LV.drew=W0 at tJ;obtain⟨g2,o2,e2,yi,eK⟩:=HA.out.1.p (by omega);have KS:Hid (∀W',Below w.heap.size w W'->∀i (h:i<G.P.length) j,j<6->W'.cell? ⟨g2,o2+i*6+j,none⟩=(bI G.P[i])[j]?):=fun W' k i h j hj=>(k.cell (p:=⟨g2,o2+i*6+j,none⟩) yi).trans ((eK i h).2 j hj)
 have vT:Hid (∀W',Below w.heap.size w W'->∀i (h:i<G.P.length),G.P[i].At W'):=fun W' k i h=>(eK i h).1.below k
 obtain⟨y,hy⟩:∃y,du G q=y:=⟨_,rfl⟩
 have Hy:=hid hy;have DB:Hid (∃h:q<G.P.length,G.P[q]=y):=⟨by omega,by rw[<-hy,A8 (by omega)]⟩
 have oD:Hid (∀W',Below w.heap.size w W'->W'.cell? ⟨g2,o2+q*6,none⟩=some (.int .i64 y.cj)/\W'.cell? ⟨g2,o2+q*6+1,none⟩=some (.string y.cJ)/\W'.cell? ⟨g2,o2+q*6+2,none⟩=some (.slice y.ab y.body.length y.cb)/\W'.cell? ⟨g2,o2+q*6+3,none⟩=some (.bool y.par)/\W'.cell? ⟨g2,o2+q*6+4,none⟩=some (.int .i64 y.prec)/\W'.cell? ⟨g2,o2+q*6+5,none⟩=some (.slice y.ah y.hints.length y.ch)):=fun W' k=>by
  obtain⟨h1,h2⟩:=DB.out;have hc:=KS.out W' k q h1;rw[h2] at hc;exact⟨hc 0 (by omega),hc 1 (by omega),hc 2 (by omega),hc 3 (by omega),hc 4 (by omega),hc 5 (by omega)⟩
 have ma:Hid (∀W',Below W0.heap.size W0 W'->Below w.heap.size w W'/\W'.cell? ⟨b,2,none⟩=some (.slice (some ⟨g2,o2,none⟩) n G.cP)):=fun W' k=>by
  have h9:=(tJ.out.aa k).g.c2;rw[hn,e2] at h9;exact⟨(tJ.out.aa k).k,h9⟩
 have Of:=hid e2;clear hn hq eK yi e2 yC hy
 go_cut [64] from 65 to 80 (fun v wx=>∃(g c:Nat),Hid (fq w b b5 b6 b7 G G.bare.cs (G.aG (some ⟨g6,0,none⟩) c6 ⟨#[115,111,114,116,95,109,111,114,101]⟩).cs (G.bB (some ⟨g,0,none⟩) c y).cs wx/\gf wx (some ⟨g,0,none⟩) (G.P++[y])))
 case first=>
  refine wp_region_held_drew (S:=fun W'=>Below w.heap.size w W'/\W'.cell? ⟨b,2,none⟩=some (.slice (some ⟨g2,o2,none⟩) n G.cP)) (by kernel_rfl) (by rw[sd];exact ma.out _ (Below.refl _ _)) (fun hHeld=>?_);rw[sd] at hHeld⊢;have ir:Hid (Below W0.heap.size W0 W0):=Below.refl _ _;clear sd;refine aq 1 ?_ (hy:=by intro wz hSw;have y2:=hSw.2;obtain⟨z0,z1,z2,z3,z4,z5⟩:=oD.out wz hSw.1;(try simp only[Act.put,sA,sB,sC]);go_simp;first|done|with_reducible rfl)
  try simp only[Act.put,sA,sB,sC]
  refine aq 2 ?_ (hy:=by intro wz hSw;have y2:=hSw.2;obtain⟨z0,z1,z2,z3,z4,z5⟩:=oD.out wz hSw.1;(try simp only[Act.put,sA,sB,sC]);go_simp;first|done|with_reducible rfl)
  try simp only[Act.put,sA,sB,sC]
  refine aq 4 ?_ (hy:=by intro wz hSw;have y2:=hSw.2;obtain⟨z0,z1,z2,z3,z4,z5⟩:=oD.out wz hSw.1;(try simp only[Act.put,sA,sB,sC]);go_simp;first|done|with_reducible rfl)
  try simp only[Act.put,sA,sB,sC]
  refine aq 5 ?_ (hy:=by intro wz hSw;have y2:=hSw.2;obtain⟨z0,z1,z2,z3,z4,z5⟩:=oD.out wz hSw.1;(try simp only[Act.put,sA,sB,sC]);go_simp;first|done|with_reducible rfl)
  try simp only[Act.put,sA,sB,sC]
  refine aq 6 ?_ (hy:=by intro wz hSw;have y2:=hSw.2;obtain⟨z0,z1,z2,z3,z4,z5⟩:=oD.out wz hSw.1;(try simp only[Act.put,sA,sB,sC]);go_simp;first|done|with_reducible rfl)
  try simp only[Act.put,sA,sB,sC]
  refine aq 7 ?_ (hy:=by intro wz hSw;have y2:=hSw.2;obtain⟨z0,z1,z2,z3,z4,z5⟩:=oD.out wz hSw.1;(try simp only[Act.put,sA,sB,sC]);go_simp;first|done|with_reducible rfl)
  try simp only[Act.put,sA,sB,sC]
  refine aq 8 ?_ (hy:=by intro wz hSw;have y2:=hSw.2;obtain⟨z0,z1,z2,z3,z4,z5⟩:=oD.out wz hSw.1;(try simp only[Act.put,sA,sB,sC]);go_simp;first|done|with_reducible rfl)
  try simp only[Act.put,sA,sB,sC]
  refine aq 9 ?_ (hy:=by intro wz hSw;have y2:=hSw.2;obtain⟨z0,z1,z2,z3,z4,z5⟩:=oD.out wz hSw.1;(try simp only[Act.put,sA,sB,sC]);go_simp;first|done|with_reducible rfl)
  try simp only[Act.put,sA,sB,sC]
  refine aq 10 ?_ (hy:=by intro wz hSw;have y2:=hSw.2;obtain⟨z0,z1,z2,z3,z4,z5⟩:=oD.out wz hSw.1;(try simp only[Act.put,sA,sB,sC]);go_simp;first|done|with_reducible rfl)
  try simp only[Act.put,sA,sB,sC]
  refine aq 11 (v:=.int .i64 (q:Int)) ?_ (hy:=by intro wz hSw;have y2:=hSw.2;obtain⟨z0,z1,z2,z3,z4,z5⟩:=oD.out wz hSw.1;(try simp only[Act.put,sA,sB,sC]);go_simp;first|done|with_reducible rfl)
  try simp only[Act.put,sA,sB,sC]
  refine aq 12 ?_ (hy:=by intro wz hSw;have y2:=hSw.2;obtain⟨z0,z1,z2,z3,z4,z5⟩:=oD.out wz hSw.1;(try simp only[Act.put,sA,sB,sC]);go_simp;first|done|with_reducible rfl)
  try simp only[Act.put,sA,sB,sC]
  refine aq 13 (v:=.agg #[.int .i64 y.cj,.string y.cJ,.slice y.ab y.body.length y.cb,.bool y.par,.int .i64 y.prec,.slice y.ah y.hints.length y.ch]) ?_ (hy:=by intro wz hSw;have y2:=hSw.2;obtain⟨z0,z1,z2,z3,z4,z5⟩:=oD.out wz hSw.1;(try simp only[Act.put,sA,sB,sC]);go_simp;first|done|with_reducible rfl)
  try simp only[Act.put,sA,sB,sC]
  refine wpAnyH_ready (rs:=[0,14]) (by kernel_rfl) (by simp) (eV (fun K hK=>?_) (eV (fun K hK=>?_) AllReadyH.nil))
  ·go_simp;have k0:=al W0 (.cells #[] 47);have I4:=Vn W0;obtain⟨e0,xE⟩:∃e0,W0.heap.size=e0:=(⟨_,rfl⟩);have vz:Hid ((W0.alloc (.cells #[] 47)).ownsRow W0.heap.size 47 6 (.slice (some ⟨e0,0,none⟩) 0 0) 0 []/\e0<(W0.alloc (.cells #[] 47)).heap.size):=(⟨by rw[<-xE];exact jF I4 ir.out.size,by simp;omega⟩);have aJ:Below W0.heap.size W0 (W0.alloc (.cells #[] 47)):=ir.out.trans (k0.mono ir.out.size)
   try rw[xE]
   generalize W0.alloc (.cells #[] 47)=V1 at vz aJ⊢;skip;clear k0 I4 hHeld;refine hK.out _ _ (ma.out _ aJ) (fun hHeld=>?_);have ir:=hid aJ;clear aJ;clear hK K
   try simp only[Act.put,sA,sB,sC]
   refine wpAnyH_ready (rs:=[3,14]) (by kernel_rfl) (by simp) (eV (fun K hK=>?_) (eV (fun K hK=>?_) AllReadyH.nil))
   ·skip;refine step_append_lies _ (by rfl) _ _ 24 (by rfl) W0.heap.size 47 iP (.agg #[.int .i64 0,.string ⟨#[]⟩,.slice none 0 0,.bool false,.int .i64 0,.slice none 0 0]) 6 88 Tryz.underlying24 vp rY nU rn (by rfl) (by decide) (.slice (some ⟨e0,0,none⟩) 0 0) 0 [] (by rfl) vz.out.1 ⟨g2,o2,none⟩ n G.cP (oE G.P) (by rfl) (by rw[J7,pJ.out]) (Pz (fun i h j hj=>KS.out _ hHeld.1 i h j hj)) (Q7 _) Md (by unfold maxLen;omega) (by omega) ir.out.size _ rfl ?_;intro p5 c5 V2 ak aj bg wg;have aJ:=ir.out.trans (Bz aj vz.out.1 ir.out.size)
    try simp only[Nat.zero_add,List.nil_append] at ak
    try simp only[Nat.zero_add]
    have qv:=hid ak;clear ak aj bg wg hHeld;refine hK.out _ _ (ma.out _ aJ) (fun hHeld=>?_);have ir:=hid aJ;clear aJ;clear hK K
    try simp only[Act.put,sA,sB,sC]
    refine aQ 14 (fun K hK=>?_);go_simp;have k0:=al V2 (.cells #[.int .i64 y.cj,.string y.cJ,.slice y.ab y.body.length y.cb,.bool y.par,.int .i64 y.prec,.slice y.ah y.hints.length y.ch] 47);have n0:=heap_alloc_new V2 (.cells #[.int .i64 y.cj,.string y.cJ,.slice y.ab y.body.length y.cb,.bool y.par,.int .i64 y.prec,.slice y.ah y.hints.length y.ch] 47);obtain⟨e1,A9⟩:∃e1,V2.heap.size=e1:=(⟨_,rfl⟩);have gh:Hid ((V2.alloc (.cells #[.int .i64 y.cj,.string y.cJ,.slice y.ab y.body.length y.cb,.bool y.par,.int .i64 y.prec,.slice y.ah y.hints.length y.ch] 47)).heap[e1]?=some (.cells #[.int .i64 y.cj,.string y.cJ,.slice y.ab y.body.length y.cb,.bool y.par,.int .i64 y.prec,.slice y.ah y.hints.length y.ch] 47 (0,0))):=(by rw[<-A9];exact n0);have tw:Hid ((V2.alloc (.cells #[.int .i64 y.cj,.string y.cJ,.slice y.ab y.body.length y.cb,.bool y.par,.int .i64 y.prec,.slice y.ah y.hints.length y.ch] 47)).ownsRow W0.heap.size 47 6 (.slice (some ⟨p5,0,none⟩) n c5) n (oE G.P)):=qv.out.alloc _;have aJ:Below W0.heap.size W0 (V2.alloc (.cells #[.int .i64 y.cj,.string y.cJ,.slice y.ab y.body.length y.cb,.bool y.par,.int .i64 y.prec,.slice y.ah y.hints.length y.ch] 47)):=ir.out.trans (k0.mono ir.out.size)
    try rw[A9]
    generalize V2.alloc (.cells #[.int .i64 y.cj,.string y.cJ,.slice y.ab y.body.length y.cb,.bool y.par,.int .i64 y.prec,.slice y.ah y.hints.length y.ch] 47)=V3 at gh aJ tw⊢;clear k0 n0 hHeld;refine hK.out _ _ (ma.out _ aJ) (fun hHeld=>?_);have ir:=hid aJ;clear aJ;clear hK K
    try simp only[Act.put,sA,sB,sC]
    refine aQ 15 (fun K hK=>?_);skip;refine step_append_lies _ (by rfl) _ _ 24 (by rfl) W0.heap.size 47 iP (.agg #[.int .i64 0,.string ⟨#[]⟩,.slice none 0 0,.bool false,.int .i64 0,.slice none 0 0]) 6 88 Tryz.underlying24 vp rY nU rn (by rfl) (by decide) (.slice (some ⟨p5,0,none⟩) n c5) n (oE G.P) (by rfl) tw.out ⟨e1,0,none⟩ 1 1 (bI y) (by rfl) (by rfl) (World.news_of_block (cs:=#[.int .i64 y.cj,.string y.cJ,.slice y.ab y.body.length y.cb,.bool y.par,.int .i64 y.prec,.slice y.ah y.hints.length y.ch]) gh.out) (by intro u hu;simp only[bI,List.mem_cons,List.not_mem_nil,or_false] at hu;rcases hu with rfl|rfl|rfl|rfl|rfl|rfl <;> rfl) (by omega) (by unfold maxLen;omega) (by omega) ir.out.size _ rfl ?_;intro p6 oP mQ an af bH iz;have aJ:=ir.out.trans (Bz af tw.out ir.out.size);have AW:=hid (Zz an (an.lt p6 rfl).1);clear an af bH iz hHeld;refine hK.out _ _ (ma.out _ aJ) (fun hHeld=>?_);have tu:=hid aJ;clear aJ;clear hK K
    try simp only[Act.put,sA,sB,sC]
    have kU:=hid (tJ.out.aa tu.out);have f9:mQ.cell? ⟨b7,2,none⟩=some (.slice G.aP G.P.length G.cP):=(ez.of_heap (K:=G) kU.out.h7).c2;have f8:mQ.frozen? ⟨b7,2,none⟩=false:=frozen_of_row mQ _ 2 _ _ kU.out.h7;have HF:Hid (fq w b b5 b6 b7 G G.bare.cs (G.aG (some ⟨g6,0,none⟩) c6 ⟨#[115,111,114,116,95,109,111,114,101]⟩).cs (G.bB (some ⟨p6,0,none⟩) oP y).cs (mQ.setCell ⟨b7,2,none⟩ (.slice (some ⟨p6,0,none⟩) (n+1) oP))/\gf (mQ.setCell ⟨b7,2,none⟩ (.slice (some ⟨p6,0,none⟩) (n+1) oP)) (some ⟨p6,0,none⟩) (G.P++[y])):=by
     refine⟨?_,?_⟩
     ·have h9:=kU.out.DD 2 (.slice (some ⟨p6,0,none⟩) (n+1) oP);rw[I5,pJ.out];exact h9
     have h9:gf mQ (some ⟨p6,0,none⟩) (G.P++[y]):=PW (n:=n+1) (by simp[pJ.out]) (fun i h=>by
      rw[List.getElem_append]
      split
      ·exact vT.out _ kU.out.k i _
      ·obtain⟨h1,h2⟩:=DB.out
       simp only[List.getElem_singleton]
       rw[<-h2]
       exact vT.out _ kU.out.k q h1) (by rw[show oE (G.P++[y])=oE G.P++bI y by simp[oE]];exact AW.out.1)
     refine h9.eD (by have:=uQ tJ.out.h7;have:=AW.out.2;omega) _ (fun i h=>?_);have kk:Below w.heap.size w (mQ.setCell ⟨b7,2,none⟩ (.slice (some ⟨p6,0,none⟩) (n+1) oP)):=kU.out.k.setCell (p:=⟨b7,2,none⟩) kU.out.n7 _;rw[List.getElem_append];split
     ·exact vT.out _ kk i _
     obtain⟨h1,h2⟩:=DB.out;simp only[List.getElem_singleton];rw[<-h2];exact vT.out _ kk q h1
    refine aq 16 ?_ (hy:=by intro wz hSw;have y2:=hSw.2;obtain⟨z0,z1,z2,z3,z4,z5⟩:=oD.out wz hSw.1;(try simp only[Act.put,sA,sB,sC]);go_simp;first|done|with_reducible rfl)
    try simp only[Act.put,sA,sB,sC]
    refine aQ 17 (fun K hK=>?_);go_simp
    try go_wp2_with fail
    have AG:=HF.out.1.g.c2;rw[pJ.out,Of.out] at AG;refine hK.out _ _ ⟨HF.out.1.k,AG⟩ (fun hHeld=>?_);refine wpAnyH_done (by kernel_rfl) ?_ _;go_wp2_with fail
    go_meet
    exact⟨p6,oP,HF.out⟩
   go_simp;have k0:=al V1 (.cells #[.int .i64 y.cj,.string y.cJ,.slice y.ab y.body.length y.cb,.bool y.par,.int .i64 y.prec,.slice y.ah y.hints.length y.ch] 47);have n0:=heap_alloc_new V1 (.cells #[.int .i64 y.cj,.string y.cJ,.slice y.ab y.body.length y.cb,.bool y.par,.int .i64 y.prec,.slice y.ah y.hints.length y.ch] 47);obtain⟨e1,A9⟩:∃e1,V1.heap.size=e1:=(⟨_,rfl⟩);have gh:Hid ((V1.alloc (.cells #[.int .i64 y.cj,.string y.cJ,.slice y.ab y.body.length y.cb,.bool y.par,.int .i64 y.prec,.slice y.ah y.hints.length y.ch] 47)).heap[e1]?=some (.cells #[.int .i64 y.cj,.string y.cJ,.slice y.ab y.body.length y.cb,.bool y.par,.int .i64 y.prec,.slice y.ah y.hints.length y.ch] 47 (0,0))):=(by rw[<-A9];exact n0);have zM:Hid ((V1.alloc (.cells #[.int .i64 y.cj,.string y.cJ,.slice y.ab y.body.length y.cb,.bool y.par,.int .i64 y.prec,.slice y.ah y.hints.length y.ch] 47)).ownsRow W0.heap.size 47 6 (.slice (some ⟨e0,0,none⟩) 0 0) 0 []/\e0≠e1):=(⟨vz.out.1.alloc _,by have:=vz.out.2;omega⟩);have aJ:Below W0.heap.size W0 (V1.alloc (.cells #[.int .i64 y.cj,.string y.cJ,.slice y.ab y.body.length y.cb,.bool y.par,.int .i64 y.prec,.slice y.ah y.hints.length y.ch] 47)):=ir.out.trans (k0.mono ir.out.size)
   try rw[A9]
   generalize V1.alloc (.cells #[.int .i64 y.cj,.string y.cJ,.slice y.ab y.body.length y.cb,.bool y.par,.int .i64 y.prec,.slice y.ah y.hints.length y.ch] 47)=V2 at gh aJ zM⊢;clear k0 n0 hHeld;refine hK.out _ _ (ma.out _ aJ) (fun hHeld=>?_);have ir:=hid aJ;clear aJ;clear hK K
   try simp only[Act.put,sA,sB,sC]
   refine aQ 3 (fun K hK=>?_);skip;refine step_append_lies _ (by rfl) _ _ 24 (by rfl) W0.heap.size 47 iP (.agg #[.int .i64 0,.string ⟨#[]⟩,.slice none 0 0,.bool false,.int .i64 0,.slice none 0 0]) 6 88 Tryz.underlying24 vp rY nU rn (by rfl) (by decide) (.slice (some ⟨e0,0,none⟩) 0 0) 0 [] (by rfl) zM.out.1 ⟨g2,o2,none⟩ n G.cP (oE G.P) (by rfl) (by rw[J7,pJ.out]) (Pz (fun i h j hj=>KS.out _ hHeld.1 i h j hj)) (Q7 _) Md (by unfold maxLen;omega) (by omega) ir.out.size _ rfl ?_;intro p5 c5 V3 ak aj bg wg;have aJ:=ir.out.trans (Bz aj zM.out.1 ir.out.size)
   try simp only[Nat.zero_add,List.nil_append] at ak
   try simp only[Nat.zero_add]
   have qv:=hid ak;have nW:=(aj.block e1 (uQ gh.out) (by simp[Value.ownBlock];have:=zM.out.2;omega)).trans gh.out;have gh:=hid nW;clear nW;clear ak aj bg wg hHeld;refine hK.out _ _ (ma.out _ aJ) (fun hHeld=>?_);have ir:=hid aJ;clear aJ;clear hK K
   try simp only[Act.put,sA,sB,sC]
   refine aQ 15 (fun K hK=>?_);skip;refine step_append_lies _ (by rfl) _ _ 24 (by rfl) W0.heap.size 47 iP (.agg #[.int .i64 0,.string ⟨#[]⟩,.slice none 0 0,.bool false,.int .i64 0,.slice none 0 0]) 6 88 Tryz.underlying24 vp rY nU rn (by rfl) (by decide) (.slice (some ⟨p5,0,none⟩) n c5) n (oE G.P) (by rfl) qv.out ⟨e1,0,none⟩ 1 1 (bI y) (by rfl) (by rfl) (World.news_of_block (cs:=#[.int .i64 y.cj,.string y.cJ,.slice y.ab y.body.length y.cb,.bool y.par,.int .i64 y.prec,.slice y.ah y.hints.length y.ch]) gh.out) (by intro u hu;simp only[bI,List.mem_cons,List.not_mem_nil,or_false] at hu;rcases hu with rfl|rfl|rfl|rfl|rfl|rfl <;> rfl) (by omega) (by unfold maxLen;omega) (by omega) ir.out.size _ rfl ?_;intro p6 oP mQ an af bH iz;have aJ:=ir.out.trans (Bz af qv.out ir.out.size);have AW:=hid (Zz an (an.lt p6 rfl).1);clear an af bH iz hHeld;refine hK.out _ _ (ma.out _ aJ) (fun hHeld=>?_);have tu:=hid aJ;clear aJ;clear hK K
   try simp only[Act.put,sA,sB,sC]
   have kU:=hid (tJ.out.aa tu.out);have f9:mQ.cell? ⟨b7,2,none⟩=some (.slice G.aP G.P.length G.cP):=(ez.of_heap (K:=G) kU.out.h7).c2;have f8:mQ.frozen? ⟨b7,2,none⟩=false:=frozen_of_row mQ _ 2 _ _ kU.out.h7;have HF:Hid (fq w b b5 b6 b7 G G.bare.cs (G.aG (some ⟨g6,0,none⟩) c6 ⟨#[115,111,114,116,95,109,111,114,101]⟩).cs (G.bB (some ⟨p6,0,none⟩) oP y).cs (mQ.setCell ⟨b7,2,none⟩ (.slice (some ⟨p6,0,none⟩) (n+1) oP))/\gf (mQ.setCell ⟨b7,2,none⟩ (.slice (some ⟨p6,0,none⟩) (n+1) oP)) (some ⟨p6,0,none⟩) (G.P++[y])):=by
    refine⟨?_,?_⟩
    ·have h9:=kU.out.DD 2 (.slice (some ⟨p6,0,none⟩) (n+1) oP);rw[I5,pJ.out];exact h9
    have h9:gf mQ (some ⟨p6,0,none⟩) (G.P++[y]):=PW (n:=n+1) (by simp[pJ.out]) (fun i h=>by
     rw[List.getElem_append]
     split
     ·exact vT.out _ kU.out.k i _
     ·obtain⟨h1,h2⟩:=DB.out
      simp only[List.getElem_singleton]
      rw[<-h2]
      exact vT.out _ kU.out.k q h1) (by rw[show oE (G.P++[y])=oE G.P++bI y by simp[oE]];exact AW.out.1)
    refine h9.eD (by have:=uQ tJ.out.h7;have:=AW.out.2;omega) _ (fun i h=>?_);have kk:Below w.heap.size w (mQ.setCell ⟨b7,2,none⟩ (.slice (some ⟨p6,0,none⟩) (n+1) oP)):=kU.out.k.setCell (p:=⟨b7,2,none⟩) kU.out.n7 _;rw[List.getElem_append];split
    ·exact vT.out _ kk i _
    obtain⟨h1,h2⟩:=DB.out;simp only[List.getElem_singleton];rw[<-h2];exact vT.out _ kk q h1
   refine aq 16 ?_ (hy:=by intro wz hSw;have y2:=hSw.2;obtain⟨z0,z1,z2,z3,z4,z5⟩:=oD.out wz hSw.1;(try simp only[Act.put,sA,sB,sC]);go_simp;first|done|with_reducible rfl)
   try simp only[Act.put,sA,sB,sC]
   refine aQ 17 (fun K hK=>?_);go_simp
   try go_wp2_with fail
   have AG:=HF.out.1.g.c2;rw[pJ.out,Of.out] at AG;refine hK.out _ _ ⟨HF.out.1.k,AG⟩ (fun hHeld=>?_);refine wpAnyH_done (by kernel_rfl) ?_ _;go_wp2_with fail
   go_meet
   exact⟨p6,oP,HF.out⟩
  go_simp;have k0:=al W0 (.cells #[.int .i64 y.cj,.string y.cJ,.slice y.ab y.body.length y.cb,.bool y.par,.int .i64 y.prec,.slice y.ah y.hints.length y.ch] 47);have n0:=heap_alloc_new W0 (.cells #[.int .i64 y.cj,.string y.cJ,.slice y.ab y.body.length y.cb,.bool y.par,.int .i64 y.prec,.slice y.ah y.hints.length y.ch] 47);obtain⟨e1,A9⟩:∃e1,W0.heap.size=e1:=⟨_,rfl⟩
  have gh:Hid ((W0.alloc (.cells #[.int .i64 y.cj,.string y.cJ,.slice y.ab y.body.length y.cb,.bool y.par,.int .i64 y.prec,.slice y.ah y.hints.length y.ch] 47)).heap[e1]?=some (.cells #[.int .i64 y.cj,.string y.cJ,.slice y.ab y.body.length y.cb,.bool y.par,.int .i64 y.prec,.slice y.ah y.hints.length y.ch] 47 (0,0))):=by rw[<-A9];exact n0
  have aJ:Below W0.heap.size W0 (W0.alloc (.cells #[.int .i64 y.cj,.string y.cJ,.slice y.ab y.body.length y.cb,.bool y.par,.int .i64 y.prec,.slice y.ah y.hints.length y.ch] 47)):=ir.out.trans (k0.mono ir.out.size)
  try rw[A9]
  generalize W0.alloc (.cells #[.int .i64 y.cj,.string y.cJ,.slice y.ab y.body.length y.cb,.bool y.par,.int .i64 y.prec,.slice y.ah y.hints.length y.ch] 47)=V1 at gh aJ⊢;clear k0 n0 hHeld;refine hK.out _ _ (ma.out _ aJ) (fun hHeld=>?_);have ir:=hid aJ;clear aJ;clear hK K
  try simp only[Act.put,sA,sB,sC]
  refine aQ 0 (fun K hK=>?_);go_simp;have k0:=al V1 (.cells #[] 47);have I4:=Vn V1;obtain⟨e0,xE⟩:∃e0,V1.heap.size=e0:=⟨_,rfl⟩
  have vz:Hid ((V1.alloc (.cells #[] 47)).ownsRow W0.heap.size 47 6 (.slice (some ⟨e0,0,none⟩) 0 0) 0 []/\e0<(V1.alloc (.cells #[] 47)).heap.size):=⟨by rw[<-xE];exact jF I4 ir.out.size,by simp;omega⟩
  have aJ:Below W0.heap.size W0 (V1.alloc (.cells #[] 47)):=ir.out.trans (k0.mono ir.out.size);have nW:Hid ((V1.alloc (.cells #[] 47)).heap[e1]?=some (.cells #[.int .i64 y.cj,.string y.cJ,.slice y.ab y.body.length y.cb,.bool y.par,.int .i64 y.prec,.slice y.ah y.hints.length y.ch] 47 (0,0))/\e0≠e1):=⟨(k0.block e1 (uQ gh.out)).trans gh.out,by have:=uQ gh.out;omega⟩
  try rw[xE]
  generalize V1.alloc (.cells #[] 47)=V2 at vz aJ nW⊢;have gh:=hid nW.out.1;have vz:=hid (Zz vz.out.1 nW.out.2);clear nW;skip;clear k0 I4 hHeld;refine hK.out _ _ (ma.out _ aJ) (fun hHeld=>?_);have ir:=hid aJ;clear aJ;clear hK K
  try simp only[Act.put,sA,sB,sC]
  refine aQ 3 (fun K hK=>?_);skip;refine step_append_lies _ (by rfl) _ _ 24 (by rfl) W0.heap.size 47 iP (.agg #[.int .i64 0,.string ⟨#[]⟩,.slice none 0 0,.bool false,.int .i64 0,.slice none 0 0]) 6 88 Tryz.underlying24 vp rY nU rn (by rfl) (by decide) (.slice (some ⟨e0,0,none⟩) 0 0) 0 [] (by rfl) vz.out.1 ⟨g2,o2,none⟩ n G.cP (oE G.P) (by rfl) (by rw[J7,pJ.out]) (Pz (fun i h j hj=>KS.out _ hHeld.1 i h j hj)) (Q7 _) Md (by unfold maxLen;omega) (by omega) ir.out.size _ rfl ?_;intro p5 c5 V3 ak aj bg wg;have aJ:=ir.out.trans (Bz aj vz.out.1 ir.out.size)
  try simp only[Nat.zero_add,List.nil_append] at ak
  try simp only[Nat.zero_add]
  have qv:=hid ak;have nW:=(aj.block e1 (uQ gh.out) (by simp[Value.ownBlock];have:=vz.out.2;omega)).trans gh.out;have gh:=hid nW;clear nW;clear ak aj bg wg hHeld;refine hK.out _ _ (ma.out _ aJ) (fun hHeld=>?_);have ir:=hid aJ;clear aJ;clear hK K
  try simp only[Act.put,sA,sB,sC]
  refine aQ 15 (fun K hK=>?_);skip;refine step_append_lies _ (by rfl) _ _ 24 (by rfl) W0.heap.size 47 iP (.agg #[.int .i64 0,.string ⟨#[]⟩,.slice none 0 0,.bool false,.int .i64 0,.slice none 0 0]) 6 88 Tryz.underlying24 vp rY nU rn (by rfl) (by decide) (.slice (some ⟨p5,0,none⟩) n c5) n (oE G.P) (by rfl) qv.out ⟨e1,0,none⟩ 1 1 (bI y) (by rfl) (by rfl) (World.news_of_block (cs:=#[.int .i64 y.cj,.string y.cJ,.slice y.ab y.body.length y.cb,.bool y.par,.int .i64 y.prec,.slice y.ah y.hints.length y.ch]) gh.out) (by intro u hu;simp only[bI,List.mem_cons,List.not_mem_nil,or_false] at hu;rcases hu with rfl|rfl|rfl|rfl|rfl|rfl <;> rfl) (by omega) (by unfold maxLen;omega) (by omega) ir.out.size _ rfl ?_;intro p6 oP mQ an af bH iz;have aJ:=ir.out.trans (Bz af qv.out ir.out.size);have AW:=hid (Zz an (an.lt p6 rfl).1);clear an af bH iz hHeld;refine hK.out _ _ (ma.out _ aJ) (fun hHeld=>?_);have tu:=hid aJ;clear aJ;clear hK K
  try simp only[Act.put,sA,sB,sC]
  have kU:=hid (tJ.out.aa tu.out);have f9:mQ.cell? ⟨b7,2,none⟩=some (.slice G.aP G.P.length G.cP):=(ez.of_heap (K:=G) kU.out.h7).c2;have f8:mQ.frozen? ⟨b7,2,none⟩=false:=frozen_of_row mQ _ 2 _ _ kU.out.h7;have HF:Hid (fq w b b5 b6 b7 G G.bare.cs (G.aG (some ⟨g6,0,none⟩) c6 ⟨#[115,111,114,116,95,109,111,114,101]⟩).cs (G.bB (some ⟨p6,0,none⟩) oP y).cs (mQ.setCell ⟨b7,2,none⟩ (.slice (some ⟨p6,0,none⟩) (n+1) oP))/\gf (mQ.setCell ⟨b7,2,none⟩ (.slice (some ⟨p6,0,none⟩) (n+1) oP)) (some ⟨p6,0,none⟩) (G.P++[y])):=by
   refine⟨?_,?_⟩
   ·have h9:=kU.out.DD 2 (.slice (some ⟨p6,0,none⟩) (n+1) oP);rw[I5,pJ.out];exact h9
   have h9:gf mQ (some ⟨p6,0,none⟩) (G.P++[y]):=PW (n:=n+1) (by simp[pJ.out]) (fun i h=>by
    rw[List.getElem_append]
    split
    ·exact vT.out _ kU.out.k i _
    ·obtain⟨h1,h2⟩:=DB.out
     simp only[List.getElem_singleton]
     rw[<-h2]
     exact vT.out _ kU.out.k q h1) (by rw[show oE (G.P++[y])=oE G.P++bI y by simp[oE]];exact AW.out.1)
   refine h9.eD (by have:=uQ tJ.out.h7;have:=AW.out.2;omega) _ (fun i h=>?_);have kk:Below w.heap.size w (mQ.setCell ⟨b7,2,none⟩ (.slice (some ⟨p6,0,none⟩) (n+1) oP)):=kU.out.k.setCell (p:=⟨b7,2,none⟩) kU.out.n7 _;rw[List.getElem_append];split
   ·exact vT.out _ kk i _
   obtain⟨h1,h2⟩:=DB.out;simp only[List.getElem_singleton];rw[<-h2];exact vT.out _ kk q h1
  refine aq 16 ?_ (hy:=by intro wz hSw;have y2:=hSw.2;obtain⟨z0,z1,z2,z3,z4,z5⟩:=oD.out wz hSw.1;(try simp only[Act.put,sA,sB,sC]);go_simp;first|done|with_reducible rfl)
  try simp only[Act.put,sA,sB,sC]
  refine aQ 17 (fun K hK=>?_);go_simp
  try go_wp2_with fail
  have AG:=HF.out.1.g.c2;rw[pJ.out,Of.out] at AG;refine hK.out _ _ ⟨HF.out.1.k,AG⟩ (fun hHeld=>?_);refine wpAnyH_done (by kernel_rfl) ?_ _;go_wp2_with fail
  go_meet
  exact⟨p6,oP,HF.out⟩
 case rest=>
 obtain⟨g9,c9,HF⟩:=hcut;have MX:Hid (∀W,fq w b b5 b6 b7 G G.bare.cs (G.aG (some ⟨g6,0,none⟩) c6 ⟨#[115,111,114,116,95,109,111,114,101]⟩).cs (G.bB (some ⟨g9,0,none⟩) c9 y).cs W->gf W (some ⟨g9,0,none⟩) (G.P++[y])->Calls Tryz.prog 9 #[.agg #[.slice G.aR G.R.length G.cR,.slice G.aS G.S.length G.cS,.slice (some ⟨g9,0,none⟩) (n+1) c9,.slice G.aL G.L.length G.cL,.int .i64 G.st]] W (fun e w'=>e=.returned (.agg #[.int .i64 9,.int .i64 3,.int .i64 (n:Int)])/\Below W.heap.size W w')):=fun W hl hp=>by
  have h9:=HC.out HB.out (G.bB (some ⟨g9,0,none⟩) c9 y) rfl rfl rfl (by rw[<-Hy.out];exact zjo HB.out (by have:=pJ.out;omega)) W hl.k (zjn (HA.out.1.below hl.k) hp);rw[Gr.xA,show (#[Value.slice (G.bB (some ⟨g9,0,none⟩) c9 y).aR (G.bB (some ⟨g9,0,none⟩) c9 y).R.length (G.bB (some ⟨g9,0,none⟩) c9 y).cR,Value.slice (G.bB (some ⟨g9,0,none⟩) c9 y).aS (G.bB (some ⟨g9,0,none⟩) c9 y).S.length (G.bB (some ⟨g9,0,none⟩) c9 y).cS,Value.slice (G.bB (some ⟨g9,0,none⟩) c9 y).aP (G.bB (some ⟨g9,0,none⟩) c9 y).P.length (G.bB (some ⟨g9,0,none⟩) c9 y).cP,Value.slice (G.bB (some ⟨g9,0,none⟩) c9 y).aL (G.bB (some ⟨g9,0,none⟩) c9 y).L.length (G.bB (some ⟨g9,0,none⟩) c9 y).cL,Value.int .i64 (G.bB (some ⟨g9,0,none⟩) c9 y).st]:Array Value)=_ from I5 G (some ⟨g9,0,none⟩) c9 y,pJ.out] at h9;refine h9.mono ?_;rintro e w' ⟨i9,Jv,uX,rfl,hb⟩;have h0:Jv=0:=HQ.out _ _ _ _ Hq.out uX QH.out;subst h0;rw[show jn (G.bB (some ⟨g9,0,none⟩) c9 y) i9 0=(9,3,(n:Int)) by rw[<-Hy.out,<-pJ.out,<-Jh.out.Gq (by have:=pJ.out;omega) (some ⟨g9,0,none⟩) c9 (q:=q) (by have:=pJ.out;omega)];exact if_neg (by simp)];exact⟨rfl,hb⟩
 have nR:Hid (∀W,fq w b b5 b6 b7 G G.bare.cs (G.aG (some ⟨g6,0,none⟩) c6 ⟨#[115,111,114,116,95,109,111,114,101]⟩).cs (G.bB (some ⟨g9,0,none⟩) c9 y).cs W->W.cell? ⟨b7,0,none⟩=some (.slice G.aR G.R.length G.cR)/\W.cell? ⟨b7,1,none⟩=some (.slice G.aS G.S.length G.cS)/\W.cell? ⟨b7,2,none⟩=some (.slice (some ⟨g9,0,none⟩) (n+1) c9)/\W.cell? ⟨b7,3,none⟩=some (.slice G.aL G.L.length G.cL)/\W.cell? ⟨b7,4,none⟩=some (.int .i64 G.st)/\W.cell? ⟨b,2,none⟩=some (.slice G.aP n G.cP)):=fun W hl=>by
  have h9:=hl.h7;have h8:=hl.g.c2;rw[I5,pJ.out] at h9;rw[pJ.out] at h8;refine⟨?_,?_,?_,?_,?_,h8⟩
  all_goals (rw[cell_of_row W _ _ _ _ _ h9];rfl)
 clear HC HQ Hq Jh HA;go_upto_region 14 with fail;have kd:Below wc.heap.size wc wc.drew:=⟨rfl,rfl,rfl,Nat.le_refl _,fun _ _=>rfl⟩
 have xW:Hid (fq w b b5 b6 b7 G G.bare.cs (G.aG (some ⟨g6,0,none⟩) c6 ⟨#[115,111,114,116,95,109,111,114,101]⟩).cs (G.bB (some ⟨g9,0,none⟩) c9 y).cs wc.drew/\gf wc.drew (some ⟨g9,0,none⟩) (G.P++[y])):=⟨HF.out.1.aa kd,HF.out.2.below kd⟩
 clear kd HF;generalize QF:wc.drew=We at xW;refine wp_region_held_drew (S:=fun W'=>fq w b b5 b6 b7 G G.bare.cs (G.aG (some ⟨g6,0,none⟩) c6 ⟨#[115,111,114,116,95,109,111,114,101]⟩).cs (G.bB (some ⟨g9,0,none⟩) c9 y).cs W'/\gf W' (some ⟨g9,0,none⟩) (G.P++[y])) (by kernel_rfl) (by rw[QF];exact xW.out) (fun hHeld=>?_);rw[QF] at hHeld⊢;clear QF xW;refine aq 0 (v:=.agg #[.slice G.aR G.R.length G.cR,.slice G.aS G.S.length G.cS,.slice (some ⟨g9,0,none⟩) (n+1) c9,.slice G.aL G.L.length G.cL,.int .i64 G.st]) ?_ (hy:=by intro wz hSw;obtain⟨z0,z1,z2,z3,z4,y2⟩:=nR.out wz hSw.1;(try simp only[Act.put,sA,sB,sC]);go_simp;first|done|with_reducible rfl)
 try simp only[Act.put,sA,sB,sC]
 refine aq 2 ?_ (hy:=by intro wz hSw;obtain⟨z0,z1,z2,z3,z4,y2⟩:=nR.out wz hSw.1;(try simp only[Act.put,sA,sB,sC]);go_simp;first|done|with_reducible rfl)
 try simp only[Act.put,sA,sB,sC]
 refine aq 3 ?_ (hy:=by intro wz hSw;obtain⟨z0,z1,z2,z3,z4,y2⟩:=nR.out wz hSw.1;(try simp only[Act.put,sA,sB,sC]);go_simp;first|done|with_reducible rfl)
 try simp only[Act.put,sA,sB,sC]
 refine aq 4 ?_ (hy:=by intro wz hSw;obtain⟨z0,z1,z2,z3,z4,y2⟩:=nR.out wz hSw.1;(try simp only[Act.put,sA,sB,sC]);go_simp;first|done|with_reducible rfl)
 try simp only[Act.put,sA,sB,sC]
 refine aq 5 ?_ (hy:=by intro wz hSw;obtain⟨z0,z1,z2,z3,z4,y2⟩:=nR.out wz hSw.1;(try simp only[Act.put,sA,sB,sC]);go_simp;first|done|with_reducible rfl)
 try simp only[Act.put,sA,sB,sC]
 refine aQ 1 (fun K hK=>?_);go_simp;go_at_call 9;refine (MX.out _ hHeld.1 hHeld.2).mono ?_;rintro e w8 ⟨rfl,b8⟩;have aJ:=Zz (hHeld.1.aa b8) (hHeld.2.below b8);clear b8 hHeld
 try go_wp2_with fail
 refine hK.out _ _ aJ (fun hHeld=>?_);clear hK K aJ
 try simp only[Act.put,sA,sB,sC]
 refine aq 6 (v:=.bool true) ?_ (hy:=by intro wz hSw;obtain⟨z0,z1,z2,z3,z4,y2⟩:=nR.out wz hSw.1;(try simp only[Act.put,sA,sB,sC]);go_simp;first|done|with_reducible rfl)
 try simp only[Act.put,sA,sB,sC]
 refine aq 7 ?_ (hy:=by intro wz hSw;obtain⟨z0,z1,z2,z3,z4,y2⟩:=nR.out wz hSw.1;(try simp only[Act.put,sA,sB,sC]);go_simp;first|done|with_reducible rfl)
 try simp only[Act.put,sA,sB,sC]
 refine wpAnyH_done (by kernel_rfl) ?_ _;go_wp2;go_ret;exact⟨rfl,hHeld.1.k⟩
theorem zpJ{G:Gr}(h:lB G):XD G.R:=fun j hj=>⟨by have:=(h.rr j hj hj).2;unfold maxLen;omega,by have:=(h.rr j hj hj).1;omega⟩
theorem zoW(G:Gr)(x:Int)(wx:(Lit.int .u8 x).wf=true)(w:World)(hA:G.At w)(hL:G.mK 9223372036854775807)(hc:G.R.length<=G.cR):Calls Tryz.prog 6 #[G.val,.int .u8 x] w (zc w):=
 zgi (fun i er=>∃v w',Bj G.R v (.returned (.tuple #[.int .i64 i,.int .i64 er])) w') G x wx w hA hL zgf
  (fun h K e1 e2 e3 hK W k YY=>VP _ K W YY (hK.mono (by omega)) (fun W' k'=>(SI K.R.length K.cR K.aR K.R rfl (by rw[e1];have:=h.rl;omega) (by rw[e1,e3];exact hc) (by rw[e1];exact zpJ h) W' (YY.below k').r).mono (fun e w' hp=>by
   obtain⟨i,er,rfl⟩:∃i er:Int,e=.returned (.tuple #[.int .i64 i,.int .i64 er]):=by
    rcases hp.2 with ⟨_,rfl⟩|⟨_,_,_,_,_,_,rfl⟩|⟨_,_,rfl⟩
    all_goals exact⟨_,_,rfl⟩
   exact⟨i,er,rfl,⟨_,_,e1 ▸ hp⟩,hp.1⟩)))
  (fun i er i2 Er ⟨_,_,h1⟩ ⟨_,_,h2⟩ h0=>zjh h1 h2 h0)
end Go.Proofs.YtiijebameffenaaGreat
namespace Go.Proofs.YtiijebameffenaaGreat.gramLess
open Go.ChangeShapes Go.WideShapes Go.ChangeAt Go.RowKit Go.Deep
theorem lifted(os:Os)(started:os.Started)(H:Type)(enc:TypeId × Value->H):
  ReturnsInHanded {} Tryz.checked os 6 .any (Rows.gramLessSpec.pre6 enc Tryz.prog Tryz.f6 Rows.gramLessRow.domain false) (Rows.gramLessSpec.post enc Tryz.prog Tryz.f6 false true false false):=by
 refine returnsInHanded_of_change (C:=Tryz.checked) own started (by kernel_rfl) Tryz.func6
  (ChangeSpec.witness6 (enc:=enc) (C:=Tryz.checked) false ⟨#[],#[.agg #[.slice none 0 0,.slice none 0 0,.slice none 0 0,.slice none 0 0,.int .i64 0],.int .u8 0],[]⟩ 8 (by kernel_rfl) (by kernel_rfl) (by kernel_rfl) (by kernel_rfl)) ?_
 intro W base args ds gs before Aw hW hcnd _;have wQ:∀(j:Nat) t v,Tryz.f6.params[j]?=some t->args[j]?=some v->Value.okWide Tryz.prog W .any base t v:=Aw;have hW':=hW;obtain⟨p,q,YU,hV,rfl,Yy,iO⟩:=hW;have hA:DataW.TrodAll enc Tryz.prog W 0 (fun _=>true) true Tryz.f6.params.toList args.toList ds p:=YU;rw[Tryz.params6] at hA wQ;obtain⟨v0,vs0,d0,ds0,p0,q0,TK,rfl,rfl,h0,r0⟩:=trodAll_cons hA;obtain⟨v1,vs1,d1,ds1,p1,q1,rfl,rfl,rfl,h1,r1⟩:=trodAll_cons r0;obtain⟨rfl,rfl,rfl⟩:=trodAll_nil r1;obtain rfl:args=#[v0,v1]:=by cases args;simp_all
 obtain⟨rfl,rfl⟩:=trodVars_none hV;have k0:=h0;have lt0:∀x∈p0,x.block<W.heap.size:=by obtain⟨m,hm⟩:=k0;exact DataW.trod_lt m _ _ _ hm
 obtain⟨G0,rfl,RY,Bc,hg0⟩:=zew (wQ 0 27 v0 rfl rfl) (by obtain⟨fuel,hf⟩:=h0;exact⟨fuel,_,hf⟩);have Zy:G0.mK 9223372036854775807:=Bc.mono (by unfold maxLen;omega);obtain⟨x1,rfl,rfl,rfl,w1⟩:=open_int Tryz.underlying5 (wQ 1 5 v1 rfl rfl) h1;clear YU Aw;refine (zoW G0 x1 w1 W RY Zy hg0.1).mono fun e W' ⟨he,aU⟩=>?_
 subst he;exact⟨_,rfl,_,_,_,[],_,[],hW',trodAll_mk1 (shut_bool Tryz.underlying4 _),(trodAll_cons_mk (Below.trod laidOut (by kernel_rfl) (of_decide_eq_true (by kernel_rfl)) k0 aU lt0) (trodAll_cons_mk (shut_int Tryz.underlying5 w1) trodAll_mk0)),rfl,aU.frame _,fun h=>by cases h⟩
theorem over:Rows.gramLessRow.holds Tryz.pinned (OpenSpec.ofChange Rows.gramLessSpec):=
 OpenClaim.holds_of_wide 6 Tryz.f6 rfl rfl rfl rfl rfl rfl rfl ⟨rfl,rfl,rfl,rfl,rfl⟩ rfl rfl rfl rfl rfl (by kernel_rfl) Tryz.func6 (by kernel_rfl)
  (of_decide_eq_true (by kernel_rfl)) (by unfold Func.isWrapper;first|(rw[if_pos (by decide +kernel)];kernel_rfl)|(rw[if_neg (by decide +kernel)];exact⟨rfl,rfl⟩))
  (fun os started H enc _=>lifted os started H enc)
theorem proved:Rows.GramLessSaid:=over
end Go.Proofs.YtiijebameffenaaGreat.gramLess
