import Derived.Test.YtjehgdjlncofeaaGreatZSClose
set_option linter.unusedVariables false
set_option linter.unusedSimpArgs false
namespace Go.Proofs.YtjehgdjlncofeaaGreat
open Go.RowKit
def ZAt (w:World) (a:Option Addr) (n:Nat) (z:Nat->Int):Prop:=0<n->∃g off,a=some ⟨g,off,none⟩/\g<w.heap.size/\∀j,j<n->w.cell? ⟨g,off+j,none⟩=some (.int .i64 (z j))
theorem ZAt.below {w w':World}{a:Option Addr}{n:Nat}{z:Nat->Int}(h:ZAt w a n z) (k:Below w.heap.size w w'):ZAt w' a n z:=by
 intro h0
 obtain⟨g,off,e,hg,hc⟩:=h h0
 have:=k.size
 exact⟨g,off,e,by omega,fun j hj=>(k.cell (p:=⟨g,off+j,none⟩) hg).trans (hc j hj)⟩
def mkOf (n:Nat) (z:Nat->Int) (x:Nat):Int:=if x<n then (if 0<=z x then z x else -1) else -1
def zaV (Q:Prop) (w:World) (e:Ending) (w':World):Prop:=∃b:Bool,e=.returned (.bool b)/\(b=true↔Q)/\Below w.heap.size w w'
def ZsAt (w:World) (a:Option Addr) (n:Nat) (A:Nat->Option Addr) (C len:Nat->Nat) (z:Nat->Nat->Int):Prop:=0<n->∃g off,a=some ⟨g,off,none⟩/\g<w.heap.size/\∀i,i<n->w.cell? ⟨g,off+i,none⟩=some (.slice (A i) (len i) (C i))/\ZAt w (A i) (len i) (z i)
theorem ZsAt.below {w w':World}{a:Option Addr}{n:Nat}{A:Nat->Option Addr}{C len:Nat->Nat}{z:Nat->Nat->Int}(h:ZsAt w a n A C len z) (k:Below w.heap.size w w'):ZsAt w' a n A C len z:=by
 intro h0
 obtain⟨g,off,e,hg,hc⟩:=h h0
 have:=k.size
 exact⟨g,off,e,by omega,fun j hj=>⟨(k.cell (p:=⟨g,off+j,none⟩) hg).trans (hc j hj).1,(hc j hj).2.below k⟩⟩
def Add1 (M:Nat) (S:Nat->Prop) (SS:List (Nat->Bool)) (r:Int) (SS':List (Nat->Bool)):Prop:=
 ((
  ∀x,x<M->¬S x)/\r=-1/\SS'=SS)\/((∃x,x<M/\S x)/\∃j:Nat,r=(j:Int)/\(∃h:j<SS'.length,∀x,x<M->(SS'[j] x=true↔S x))/\
  (SS'=SS\/∃f,SS'=SS++[f]/\j=SS.length/\∀i (h:i<SS.length),∃x,x<M/\SS[i] x≠f x))
inductive RowD (M:Nat) (T:Nat->Nat->Prop) (SS:List (Nat->Bool)):Nat->List Int->List (Nat->Bool)->Prop
 | zero:RowD M T SS 0 [] SS
 | succ {c:Nat}{row:List Int}{S1 S2:List (Nat->Bool)}{r:Int}:RowD M T SS c row S1->Add1 M (T c) S1 r S2->RowD M T SS (c+1) (row++[r]) S2
inductive RunD (M C:Nat) (T:(Nat->Bool)->Nat->Nat->Prop) (S0:List (Nat->Bool)):Nat->List (List Int)->List (Nat->Bool)->Prop
 | zero:RunD M C T S0 0 [] S0
 | succ {k:Nat}{R:List (List Int)}{row:List Int}{S1 S2:List (Nat->Bool)}:RunD M C T S0 k R S1->(h:k<S1.length)->RowD M (T S1[k]) S1 C row S2->RunD M C T S0 (k+1) (R++[row]) S2
theorem Add1.pre {M:Nat}{S:Nat->Prop}{SS S':List (Nat->Bool)}{r:Int}(h:Add1 M S SS r S'):SS <+: S':=by
 rcases h with ⟨_,_,rfl⟩|⟨_,j,_,_,rfl|⟨f,rfl,_⟩⟩
 ·exact List.prefix_refl _
 ·exact List.prefix_refl _
 ·exact List.prefix_append _ _
theorem RowD.pre {M:Nat}{T:Nat->Nat->Prop}{SS S':List (Nat->Bool)}{c:Nat}{row:List Int}(h:RowD M T SS c row S'):SS <+: S':=by
 induction h with
 | zero=>exact List.prefix_refl _
 | succ _ h1 ih=>exact ih.trans h1.pre
theorem RowD.len {M:Nat}{T:Nat->Nat->Prop}{SS S':List (Nat->Bool)}{c:Nat}{row:List Int}(h:RowD M T SS c row S'):row.length=c/\S'.length<=SS.length+c:=by
 induction h with
 | zero=>exact⟨rfl,by omega⟩
 | succ _ h1 ih=>
  refine⟨by simp[ih.1],?_⟩
  rcases h1 with ⟨_,_,rfl⟩|⟨_,j,_,_,rfl|⟨f,rfl,_⟩⟩
  ·omega
  ·omega
  ·simp;omega
theorem RunD.len {M C:Nat}{T:(Nat->Bool)->Nat->Nat->Prop}{S0 S':List (Nat->Bool)}{k:Nat}{R:List (List Int)}(h:RunD M C T S0 k R S'):R.length=k:=by
 induction h with
 | zero=>rfl
 | succ _ _ _ ih=>simp[ih]
theorem RunD.pre {M C:Nat}{T:(Nat->Bool)->Nat->Nat->Prop}{S0 S':List (Nat->Bool)}{k:Nat}{R:List (List Int)}(h:RunD M C T S0 k R S'):S0 <+: S':=by
 induction h with
 | zero=>exact List.prefix_refl _
 | succ _ _ h1 ih=>exact ih.trans h1.pre
theorem RunD.rowlen {M C:Nat}{T:(Nat->Bool)->Nat->Nat->Prop}{S0 S':List (Nat->Bool)}{k:Nat}{R:List (List Int)}(h:RunD M C T S0 k R S'):∀r∈R,r.length=C:=by
 induction h with
 | zero=>intro r hr;simp at hr
 | succ _ _ h1 ih=>
  intro r hr
  rcases List.mem_append.1 hr with hr|hr
  ·exact ih r hr
  ·rw[List.mem_singleton.1 hr];exact h1.len.1
def Tells (M:Nat) (SS:List (Nat->Bool)) (S:Nat->Prop) (r:Int):Prop:=
 (r=-1/\∀x,x<M->¬S x)\/((∃x,x<M/\S x)/\∃(j:Nat) (h:j<SS.length),r=(j:Int)/\∀x,x<M->(SS[j] x=true↔S x))
theorem Tells.pre {M:Nat}{SS S':List (Nat->Bool)}{S:Nat->Prop}{r:Int}(h:Tells M SS S r) (hp:SS <+: S'):Tells M S' S r:=by
 rcases h with h|⟨h0,j,hj,e,h⟩
 ·exact Or.inl h
 ·refine Or.inr ⟨h0,j,Nat.lt_of_lt_of_le hj hp.length_le,e,fun x hx=>?_⟩
  rw[<-hp.getElem hj]
  exact h x hx
theorem Add1.tells {M:Nat}{S:Nat->Prop}{SS S':List (Nat->Bool)}{r:Int}(h:Add1 M S SS r S'):Tells M S' S r:=by
 rcases h with ⟨h1,h2,_⟩|⟨h0,j,e,⟨hj,h1⟩,_⟩
 ·exact Or.inl ⟨h2,h1⟩
 ·exact Or.inr ⟨h0,j,hj,e,h1⟩
theorem RowD.tells {M:Nat}{T:Nat->Nat->Prop}{SS S':List (Nat->Bool)}{c:Nat}{row:List Int}(h:RowD M T SS c row S'):∀i (hi:i<row.length),Tells M S' (T i) row[i]:=by
 induction h with
 | zero=>intro i hi;simp at hi
 | @succ c row S1 S2 r h0 h1 ih=>
  intro i hi
  by_cases e:i<row.length
  ·rw[List.getElem_append_left e]
   exact (ih i e).pre h1.pre
  ·have e2:i=row.length:=by simp at hi;omega
   subst e2
   have e3:row.length=c:=h0.len.1
   rw[List.getElem_concat_length rfl]
   rw[e3]
   exact h1.tells
theorem RunD.tells {M C:Nat}{T:(Nat->Bool)->Nat->Nat->Prop}{S0 S':List (Nat->Bool)}{k:Nat}{R:List (List Int)}(h:RunD M C T S0 k R S'):∀i (hi:i<R.length),∃hs:i<S'.length,∀c (hc:c<R[i].length),Tells M S' (T S'[i] c) R[i][c]:=by
 induction h with
 | zero=>intro i hi;simp at hi
 | @succ k R row S1 S2 h0 hk h1 ih=>
  intro i hi
  by_cases e:i<R.length
  ·obtain⟨hs,h2⟩:=ih i e
   refine⟨Nat.lt_of_lt_of_le hs h1.pre.length_le,fun c hc=>?_⟩
   simp only[List.getElem_append_left e] at hc⊢
   rw[<-h1.pre.getElem hs]
   exact (h2 c hc).pre h1.pre
  ·have e2:i=R.length:=by simp at hi;omega
   subst e2
   have e3:=h0.len
   refine⟨by rw[e3];exact Nat.lt_of_lt_of_le hk h1.pre.length_le,fun c hc=>?_⟩
   simp only[List.getElem_concat_length] at hc⊢
   have:=h1.tells c hc
   subst e3
   rw[<-h1.pre.getElem hk]
   exact this
def Dist (M:Nat) (SS:List (Nat->Bool)):Prop:=∀i j (hi:i<SS.length) (hj:j<SS.length),(∀x,x<M->SS[i] x=SS[j] x)->i=j
theorem Add1.dist {M:Nat}{S:Nat->Prop}{SS S':List (Nat->Bool)}{r:Int}(h:Add1 M S SS r S') (hd:Dist M SS):Dist M S':=by
 rcases h with ⟨_,_,rfl⟩|⟨_,j,_,_,rfl|⟨f,rfl,_,hf⟩⟩
 ·exact hd
 ·exact hd
 ·intro i j hi hj he
  by_cases h1:i<SS.length
  ·by_cases h2:j<SS.length
   ·exact hd i j h1 h2 (fun x hx=>by have:=he x hx;rwa [List.getElem_append_left h1,List.getElem_append_left h2] at this)
   ·have h3:j=SS.length:=by simp at hj;omega
    subst h3
    obtain⟨x,hx,hn⟩:=hf i h1
    have:=he x hx
    rw[List.getElem_append_left h1,List.getElem_concat_length rfl] at this
    exact absurd this hn
  ·have h3:i=SS.length:=by simp at hi;omega
   subst h3
   by_cases h2:j<SS.length
   ·obtain⟨x,hx,hn⟩:=hf j h2
    have:=he x hx
    rw[List.getElem_append_left h2,List.getElem_concat_length rfl] at this
    exact absurd this.symm hn
   ·simp at hj;omega
theorem RowD.dist {M:Nat}{T:Nat->Nat->Prop}{SS S':List (Nat->Bool)}{c:Nat}{row:List Int}(h:RowD M T SS c row S') (hd:Dist M SS):Dist M S':=by
 induction h with
 | zero=>exact hd
 | succ _ h1 ih=>exact h1.dist ih
theorem RunD.dist {M C:Nat}{T:(Nat->Bool)->Nat->Nat->Prop}{S0 S':List (Nat->Bool)}{k:Nat}{R:List (List Int)}(h:RunD M C T S0 k R S') (hd:Dist M S0):Dist M S':=by
 induction h with
 | zero=>exact hd
 | succ _ _ h1 ih=>exact h1.dist ih
open Go.Maps Go.WideElems Go.ChangeMaps Go.MapKept
def StAt (w:World) (B:Nat) (a:Option Addr) (cl:(Nat->Bool)->List Nat) (l:List En):Prop:=0<l.length->∃g off,a=some ⟨g,off,none⟩/\g<B/\
 ∀k (h:k<l.length),∃a' c',w.cell? ⟨g,off+k*2,none⟩=some (.slice a' (cl l[k].p).length c')/\w.cell? ⟨g,off+k*2+1,none⟩=some (.int .i64 ((l[k].t:Nat):Int))/\IAt w B a' (cl l[k].p)
theorem StAt.below {w w':World}{B:Nat}{a:Option Addr}{cl:(Nat->Bool)->List Nat}{l:List En}(h:StAt w B a cl l) (k:Below B w w'):StAt w' B a cl l:=by
 intro h0
 obtain⟨g,off,e,hg,hc⟩:=h h0
 refine⟨g,off,e,hg,fun j hj=>?_⟩
 obtain⟨a',c',h1,h2,h3⟩:=hc j hj
 exact⟨a',c',(k.cell (p:=⟨g,off+j*2,none⟩) hg).trans h1,(k.cell (p:=⟨g,off+j*2+1,none⟩) hg).trans h2,h3.below k⟩
structure NetSt (w:World) (B bn gS M cS:Nat) (aS:Nat->Option Addr) (cR:Nat->Nat) (cl:(Nat->Bool)->List Nat) (L:List En):Prop where
 blk:bn<B/\gS<B
 fld:w.cell? ⟨bn,259,none⟩=some (.slice (some ⟨gS,0,none⟩) M cS)
 row:∀i,i<M->w.cell? ⟨gS,i,none⟩=some (.slice (aS i) (rowB L i).length (cR i))
 at_:∀i,i<M->StAt w B (aS i) cl (rowB L i)
theorem NetSt.below {w w':World}{B bn gS M cS:Nat}{aS:Nat->Option Addr}{cR:Nat->Nat}{cl:(Nat->Bool)->List Nat}{L:List En}(h:NetSt w B bn gS M cS aS cR cl L) (k:Below B w w'):NetSt w' B bn gS M cS aS cR cl L:=
 ⟨h.blk,(k.cell (p:=⟨bn,259,none⟩) h.blk.1).trans h.fld,fun i hi=>(k.cell (p:=⟨gS,i,none⟩) h.blk.2).trans (h.row i hi),fun i hi=>(h.at_ i hi).below k⟩
structure TgAt (w3:World) (B gT C:Nat) (vs:Nat->Value) (tg:Nat->List Nat) (wq:World):Prop where
 grid:GridAt wq w3.heap.size 30 3 1 gT C vs (fun c=>(tg c).length) (fun c=>zai (tg c))
 kept:Kept [] [gT] w3 wq
 below:Below B w3 wq
 lo:B<=gT/\B<=w3.heap.size
theorem TgAt.keep {w3 wq w1:World}{B gT C:Nat}{vs:Nat->Value}{tg:Nat->List Nat}(h:TgAt w3 B gT C vs tg wq) (k:Below wq.heap.size wq w1):TgAt w3 B gT C vs tg w1:=
 ⟨h.grid.keep k,h.kept.below k,h.below.trans (k.mono (Nat.le_trans h.lo.2 h.below.size)),h.lo⟩
theorem TgAt.app {w3 W w6:World}{B gT C:Nat}{vs:Nat->Value}{tg:Nat->List Nat}(h:TgAt w3 B gT C vs tg W) {x t:Nat}(hx:x<C) {v':Value}{p:Nat}(hp:(tg x).length=p)
  (ho:w6.ownsRow w3.heap.size 3 1 v' (p+1) (zai (tg x)++[.int .i64 (t:Int)])) (hg:W.grownBy w6 (vs x).ownBlock)
  (hat:∀b,v'.ownBlock=some b->(vs x).ownBlock=some b\/W.heap.size<=b):
  TgAt w3 B gT C (fun j=>if j=x then v' else vs j) (fun j=>if j=x then tg x++[t] else tg j) (w6.setCell ⟨gT,x,none⟩ v'):=by
 have hr:=h.grid.2.1 x hx
 have hsz:=h.below.size
 refine⟨(h.grid.app (by decide) hx ho hg hat).congr (fun i hi=>?_),?_,(zac h.below (zag hr h.lo.2) (Nat.le_trans h.lo.2 hsz) hg |> fun k=>k.setCell (p:=⟨gT,x,none⟩) h.lo.1 v'),h.lo⟩
 ·by_cases e:i=x
  ·subst e
   refine⟨by simp[hp],by simp[zaL]⟩
  ·simp[e]
 ·exact (h.kept.grown hg (fun g e=>Or.inr (Or.inl (zas hr g e)))).setCell ⟨gT,x,none⟩ v' (Or.inl (by simp))
theorem TgAt.made (V:World) (B C:Nat) (w3:World) (hB:B<=V.heap.size) (k:Below (V.alloc (.cells (madeCells #[.slice none 0 0] C) 30)).heap.size (V.alloc (.cells (madeCells #[.slice none 0 0] C) 30)) w3):
  TgAt w3 B V.heap.size C (fun _=>.slice none 0 0) (fun _=>[]) w3:=
 ⟨(GridAt.made V w3.heap.size 30 3 1 C).keep k,Kept.refl _ _ _,Below.refl _ _,hB,by have:=k.size;simp at this;omega⟩
def bsA (bm gI bM:Nat) (vL vS vK:Value):List Nat:=bm :: gI :: bM :: (vL.ownBlock.toList++(vS.ownBlock.toList++vK.ownBlock.toList))
theorem zbz (bm gI bM:Nat) (vL vS vK:Value) (x:Nat):x∈bsA bm gI bM vL vS vK↔x=bm\/x=gI\/x=bM\/vL.ownBlock=some x\/vS.ownBlock=some x\/vK.ownBlock=some x:=by
 simp[bsA,Option.mem_toList]
theorem MkA.self {V wr:World}{B bm gI bM m M k q n:Nat}{bs:List Nat}{cs:Array Value}{l:List Nat}{vL vS vK:Value}{ss:List ByteArray}{ms:List Int}{Q:Value->Value->Prop}(h:MkA V B bs bm gI m M cs l vL wr) (t:MkT V B bs bM cs vL k q n ss ms Q vS vK wr):
  MkA wr B (bsA bm gI bM vL vS vK) bm gI m M cs l vL wr/\MkT wr B (bsA bm gI bM vL vS vK) bM cs vL k q n ss ms Q vS vK wr:=
 ⟨⟨⟨Kept.refl _ _ _,Below.refl _ _,h.r.sm,h.r.sz,h.r.cI,h.r.inn,h.r.lst,fun b e=>Or.inl ((zbz ..).2 (by simp[e])),⟨by simp[bsA],by simp[bsA]⟩,h.r.lo.1,h.r.lo.2.1,h.r.hB⟩,h.nd,h.lt⟩,
  ⟨t.cK,t.cS,t.cM,t.os,t.ok,t.map,t.sep,fun b e=>Or.inl ((zbz ..).2 (by simp[e])),fun b e=>Or.inl ((zbz ..).2 (by simp[e])),by simp[bsA],t.lM.2⟩⟩
theorem zkm {V wr:World}{B bm gI bM m M k q n:Nat}{bs:List Nat}{cs:Array Value}{l:List Nat}{vL vS vK:Value}{ss:List ByteArray}{ms:List Int}{Q:Value->Value->Prop}(h:MkA V B bs bm gI m M cs l vL wr) (t:MkT V B bs bM cs vL k q n ss ms Q vS vK wr) {x:Nat}
  (hx:x∈bsA bm gI bM vL vS vK):x∈bs\/V.heap.size<=x:=by
 rcases (zbz ..).1 hx with rfl|rfl|rfl|e|e|e
 ·exact Or.inl h.r.inb.1
 ·exact Or.inl h.r.inb.2
 ·exact Or.inl t.lM.1
 ·exact h.r.loc x e
 ·exact t.lS x e
 ·exact t.lK x e
structure NxAt (w:World) (B:Nat) (bs:List Nat) (vN:Value) (C:Nat) (gs:List Nat) (R:List (List Int)):Prop where
 own:w.ownsRow B 30 1 vN R.length (gs.map fun g=>.slice (some ⟨g,0,none⟩) C C)
 len:gs.length=R.length
 row:∀i (h:i<gs.length) (h':i<R.length),St w 3 gs[i] (ints R[i]).toArray/\gs[i]∉bs
theorem NxAt.keep {w w1:World}{B C:Nat}{bs gs:List Nat}{vN:Value}{R:List (List Int)}(h:NxAt w B bs vN C gs R) (k:Below w.heap.size w w1):NxAt w1 B bs vN C gs R:=
 ⟨zab h.own k,h.len,fun i h1 h2=>⟨(h.row i h1 h2).1.keep k,(h.row i h1 h2).2⟩⟩
theorem NxAt.kept {w w1:World}{B C:Nat}{bs bs' gs:List Nat}{vN:Value}{R:List (List Int)}(h:NxAt w B bs vN C gs R) (k:Kept [] bs w w1) (hN:∀b,vN.ownBlock=some b->b∉bs) (hb:∀x∈bs',x∈bs\/w.heap.size<=x):NxAt w1 B bs' vN C gs R:=
 ⟨zal h.own k (by simp) hN,h.len,fun i h1 h2=>⟨(h.row i h1 h2).1.kept k (by simp) (h.row i h1 h2).2,fun hm=>by
  rcases hb _ hm with h3|h3
  ·exact (h.row i h1 h2).2 h3
  ·have:=(h.row i h1 h2).1.lt;omega⟩⟩
structure MkS (B bm gI bM m M C bn:Nat) (K:Nat->Lit) (L:List En) (mk:Nat->Int) (SS:List (Nat->Bool)) (ms:List Int) (D:List ((Nat->Bool) × Nat)) (R:List (List Int)) (n:Nat) (cs:Array Value) (l:List Nat) (vL vS vK vN:Value) (gs:List Nat) (w:World):Prop where
 a:MkA w B (bsA bm gI bM vL vS vK) bm gI m M cs l vL w
 t:MkT w B (bsA bm gI bM vL vS vK) bM cs vL SS.length SS.length n (SS.map (txt M)) ms (MQ M D) vS vK w
 inv:Inv L M mk SS ms D
 nx:NxAt w B (bsA bm gI bM vL vS vK) vN C gs R
 c0:cs[0]?=some (.pointer (some ⟨bn,0,none⟩))
 cN:cs[257]?=some vN
 cl:∀j,j<256->cs[1+j]?=some (.int .u8 ((cls K j:Nat):Int))
 hn:n<=2*SS.length
theorem MkS.keep {w w1:World}{B bm gI bM m M C bn n:Nat}{K:Nat->Lit}{L:List En}{mk:Nat->Int}{SS:List (Nat->Bool)}{ms:List Int}{D:List ((Nat->Bool) × Nat)}{R:List (List Int)}{cs:Array Value}{l:List Nat}{vL vS vK vN:Value}{gs:List Nat}
  (h:MkS B bm gI bM m M C bn K L mk SS ms D R n cs l vL vS vK vN gs w) (k:Below w.heap.size w w1):MkS B bm gI bM m M C bn K L mk SS ms D R n cs l vL vS vK vN gs w1:=by
 obtain⟨h1,h2⟩:=MkA.self (h.a.keep k) (h.t.keep k)
 exact⟨h1,h2,h.inv,h.nx.keep k,h.c0,h.cN,h.cl,h.hn⟩
theorem MkS.hN {w:World}{B bm gI bM m M C bn n:Nat}{K:Nat->Lit}{L:List En}{mk:Nat->Int}{SS:List (Nat->Bool)}{ms:List Int}{D:List ((Nat->Bool) × Nat)}{R:List (List Int)}{cs:Array Value}{l:List Nat}{vL vS vK vN:Value}{gs:List Nat}
  (h:MkS B bm gI bM m M C bn K L mk SS ms D R n cs l vL vS vK vN gs w):∀b,vN.ownBlock=some b->b∉bsA bm gI bM vL vS vK:=by
 intro b e hm
 rcases (zbz ..).1 hm with rfl|rfl|rfl|e2|e2|e2
 ·exact zaq h.nx.own h.a.r.sm (by decide) _ e rfl
 ·exact zan h.nx.own h.a.r.inn (by decide) _ e rfl
 ·exact zaP h.t.map h.nx.own _ e rfl
 ·exact zan h.nx.own h.a.r.lst (by decide) _ e e2
 ·exact zan h.nx.own h.t.os (by decide) _ e e2
 ·exact zan h.nx.own h.t.ok (by decide) _ e e2
theorem MkS.close {w w':World}{B bm gI bM m M C bn n:Nat}{K:Nat->Lit}{L:List En}{mk:Nat->Int}{SS:List (Nat->Bool)}{ms:List Int}{D:List ((Nat->Bool) × Nat)}{R:List (List Int)}{cs:Array Value}{l:List Nat}{vL vS vK vN:Value}{gs st:List Nat}{e:Ending}
  (h:MkS B bm gI bM m M C bn K L mk SS ms D R n cs l vL vS vK vN gs w) (hp:zfV w B (bsA bm gI bM vL vS vK) bm gI m M bM cs L mk SS st n e w') (h0:∃x,x<M/\FR L (fun y=>y∈st) x):
  ∃(r:Int) (SS':List (Nat->Bool)) (ms':List Int) (D':List ((Nat->Bool) × Nat)) (n':Nat) (cs':Array Value) (l':List Nat) (vL' vS' vK':Value),e=.returned (.int .i64 r)/\MkS B bm gI bM m M C bn K L mk SS' ms' D' R n' cs' l' vL' vS' vK' vN gs w'/\
   Add1 M (fun x=>FR L (fun y=>y∈st) x) SS r SS'/\Kept [] (bsA bm gI bM vL vS vK) w w'/\Below B w w'/\∀x∈bsA bm gI bM vL' vS' vK',x∈bsA bm gI bM vL vS vK\/w.heap.size<=x:=by
 obtain⟨j,SS',ms',D',vL',vS',vK',cs',l',n',rfl,hA,hT,hI,hn,hcs,hj,hS⟩:=hp
 obtain⟨h1,h2⟩:=MkA.self hA hT
 refine⟨(j:Int),SS',ms',D',n',cs',l',vL',vS',vK',rfl,⟨h1,h2,hI,h.nx.kept hA.r.kept h.hN (fun x hx=>zkm hA hT hx),by rw[hcs 0 (by decide) (by decide)];exact h.c0,by rw[hcs 257 (by decide) (by decide)];exact h.cN,fun k hk=>by rw[hcs (1+k) (by omega) (by omega)];exact h.cl k hk,by have:=h.hn;omega⟩,?_,hA.r.kept,hA.r.below,fun x hx=>zkm hA hT hx⟩
 exact Or.inr ⟨h0,j,rfl,hj,hS⟩
theorem MkS.bs_lt {w:World}{B bm gI bM m M C bn n:Nat}{K:Nat->Lit}{L:List En}{mk:Nat->Int}{SS:List (Nat->Bool)}{ms:List Int}{D:List ((Nat->Bool) × Nat)}{R:List (List Int)}{cs:Array Value}{l:List Nat}{vL vS vK vN:Value}{gs:List Nat}
  (h:MkS B bm gI bM m M C bn K L mk SS ms D R n cs l vL vS vK vN gs w):∀x∈bsA bm gI bM vL vS vK,x<w.heap.size:=by
 have own:∀{t n:Nat}{v:Value}{xs:List Value},w.ownsRow B t 1 v n xs->∀g,v.ownBlock=some g->g<w.heap.size:=fun ho g e=>by
  obtain⟨c,fz,hc⟩:=zaI ho g e
  exact (Array.getElem?_eq_some_iff.1 hc).1
 intro x hx
 rcases (zbz ..).1 hx with rfl|rfl|rfl|e|e|e
 ·exact h.a.r.sm.lt
 ·exact own h.a.r.inn _ rfl
 ·exact h.t.map.lt
 ·exact own h.a.r.lst _ e
 ·exact own h.t.os _ e
 ·exact own h.t.ok _ e
theorem Kept.cell9 {bs:List Nat}{w w':World}(k:Kept [] bs w w') {g i:Nat}(hg:g∉bs) (hl:g<w.heap.size):w'.cell? ⟨g,i,none⟩=w.cell? ⟨g,i,none⟩:=by
 have h:w'.heap[g]?=w.heap[g]?:=by rw[Array.getElem?_eq_getElem hl];exact k g _ (Array.getElem?_eq_getElem hl) (fun _ _ _ _=>by simp) hg
 simp only[World.cell?,h]
theorem zkn (N:Nat) (hN:N<=2147483647) (W:World):(Instr.makeSlice 30 (.int .i64 (N:Int)) (.int .i64 (N:Int))).run Tryz.prog W=.ok (.slice (some ⟨W.heap.size,0,none⟩) N N) (W.alloc (.cells (madeCells #[.int .i64 0] N) 3)):=by
 have:=run_make_row' (P:=Tryz.prog) 30 3 (.int .i64 0) 8 Tryz.underlying30 Tryz.info_int9 rfl .i64 .i64 N (by omega) (by omega) W
 simpa using this
theorem ziH (N:Nat):madeCells #[.int .i64 0] N=(ints (List.replicate N 0)).toArray:=by
 apply Array.ext'
 apply List.ext_getElem?
 intro i
 by_cases hi:i<N
 ·simp[madeCells,ints,hi,Nat.mod_one]
 ·simp[madeCells,ints,hi]
theorem zhM (row:List Int) (C c:Nat) (h:row.length=c) (hc:c<C) (u v:Int):((ints ((row++[u])++List.replicate (C-(c+1)) 0)).toArray).setIfInBounds c (.int .i64 v)=(ints ((row++[v])++List.replicate (C-(c+1)) 0)).toArray:=by
 apply Array.ext'
 simp[ints,h]
theorem zko (row:List Int) (C c:Nat) (hc:c<C):row++List.replicate (C-c) (0:Int)=(row++[0])++List.replicate (C-(c+1)) 0:=by
 have:C-c=(C-(c+1))+1:=by omega
 rw[this,List.replicate_succ]
 simp
theorem zkp (row:List Int) (C c:Nat) (h:row.length=c) (u:Int):((ints ((row++[u])++List.replicate (C-(c+1)) 0)).toArray)[c]?=some (.int .i64 u):=by
 simp[ints,<-h]
theorem FR.none {L:List En}{A:Nat->Prop}(h:∀x,¬A x) (x:Nat):¬FR L A x:=by
 intro k
 induction k with
 | base h1=>exact h _ h1
 | step _ _ _ _ _ _ ih=>exact ih
theorem MkS.kept {w w1:World}{B bm gI bM m M C bn n:Nat}{K:Nat->Lit}{L:List En}{mk:Nat->Int}{SS:List (Nat->Bool)}{ms:List Int}{D:List ((Nat->Bool) × Nat)}{R:List (List Int)}{cs:Array Value}{l:List Nat}{vL vS vK vN:Value}{gs bs:List Nat}
  (h:MkS B bm gI bM m M C bn K L mk SS ms D R n cs l vL vS vK vN gs w) (k:Kept [] bs w w1) (hb:Below B w w1) (hd:∀x∈bsA bm gI bM vL vS vK,x∉bs):
  MkA w1 B (bsA bm gI bM vL vS vK) bm gI m M cs l vL w1/\MkT w1 B (bsA bm gI bM vL vS vK) bM cs vL SS.length SS.length n (SS.map (txt M)) ms (MQ M D) vS vK w1:=by
 have hm:=zbz bm gI bM vL vS vK
 refine⟨⟨⟨Kept.refl _ _ _,Below.refl _ _,h.a.r.sm.kept k (by simp) (hd _ ((hm _).2 (by simp))),h.a.r.sz,h.a.r.cI,zal h.a.r.inn k (by simp) (fun g e=>hd _ ((hm _).2 (by simp[Value.ownBlock] at e;simp[e]))),zal h.a.r.lst k (by simp) (fun g e=>hd _ ((hm _).2 (by simp[e]))),fun b e=>Or.inl ((hm _).2 (by simp[e])),⟨by simp[bsA],by simp[bsA]⟩,h.a.r.lo.1,h.a.r.lo.2.1,Nat.le_trans h.a.r.hB hb.size⟩,h.a.nd,h.a.lt⟩,
  ⟨h.t.cK,h.t.cS,h.t.cM,zal h.t.os k (by simp) (fun g e=>hd _ ((hm _).2 (by simp[e]))),zal h.t.ok k (by simp) (fun g e=>hd _ ((hm _).2 (by simp[e]))),h.t.map.kept k (hd _ ((hm _).2 (by simp))),h.t.sep,fun b e=>Or.inl ((hm _).2 (by simp[e])),fun b e=>Or.inl ((hm _).2 (by simp[e])),by simp[bsA],h.t.lM.2⟩⟩
theorem MkS.far {w w1:World}{B bm gI bM m M C bn n:Nat}{K:Nat->Lit}{L:List En}{mk:Nat->Int}{SS:List (Nat->Bool)}{ms:List Int}{D:List ((Nat->Bool) × Nat)}{R:List (List Int)}{cs:Array Value}{l:List Nat}{vL vS vK vN:Value}{gs bs:List Nat}
  (h:MkS B bm gI bM m M C bn K L mk SS ms D R n cs l vL vS vK vN gs w) (k:Kept [] bs w w1) (hb:Below B w w1) (hd:∀x∈bsA bm gI bM vL vS vK,x∉bs) (hN:∀b,vN.ownBlock=some b->b∉bs) (hg:∀x∈gs,x∉bs):
  MkS B bm gI bM m M C bn K L mk SS ms D R n cs l vL vS vK vN gs w1:=by
 obtain⟨h1,h2⟩:=h.kept k hb hd
 exact⟨h1,h2,h.inv,⟨zal h.nx.own k (by simp) hN,h.nx.len,fun i hi hi'=>⟨(h.nx.row i hi hi').1.kept k (by simp) (hg _ (List.getElem_mem _)),(h.nx.row i hi hi').2⟩⟩,h.c0,h.cN,h.cl,h.hn⟩
theorem MkS.next {W w5:World}{B bm gI bM m M C bn n gR:Nat}{K:Nat->Lit}{L:List En}{mk:Nat->Int}{SS:List (Nat->Bool)}{ms:List Int}{D:List ((Nat->Bool) × Nat)}{R:List (List Int)}{cs:Array Value}{l:List Nat}{vL vS vK vN v':Value}{gs:List Nat}{row:List Int}
  (h:MkS B bm gI bM m M C bn K L mk SS ms D R n cs l vL vS vK vN gs W) (hrow:St W 3 gR (ints row).toArray) (hgR:gR∉bsA bm gI bM vL vS vK)
  (ho:w5.ownsRow B 30 1 v' (R.length+1) (gs.map (fun g=>.slice (some ⟨g,0,none⟩) C C)++[.slice (some ⟨gR,0,none⟩) C C])) (hg:W.grownBy w5 vN.ownBlock):
  MkS B bm gI bM m M C bn K L mk SS ms D (R++[row]) n (cs.setIfInBounds 257 v') l vL vS vK v' (gs++[gR]) (w5.setCell ⟨bm,257,none⟩ v')/\Below B W (w5.setCell ⟨bm,257,none⟩ v'):=by
 have hk:Kept [] vN.ownBlock.toList W w5:=(Kept.refl _ _ _).grown hg (fun g e=>Or.inl (by simp[e]))
 have hB:Below B W w5:=zac (Below.refl _ _) h.nx.own h.a.r.hB hg
 obtain⟨hA,hT⟩:=h.kept hk hB (fun x hx hm=>h.hN x (by simpa using hm) hx)
 have hA2:=hA.setm 257 (by decide) (by decide) v'
 have hsm:=hA.r.sm
 have hT2:MkT w5 B (bsA bm gI bM vL vS vK) bM (cs.setIfInBounds 257 v') vL SS.length SS.length n (SS.map (txt M)) ms (MQ M D) vS vK (w5.setCell ⟨bm,257,none⟩ v'):=
  ⟨by rw[Array.getElem?_setIfInBounds_ne (by decide)];exact hT.cK,by rw[Array.getElem?_setIfInBounds_ne (by decide)];exact hT.cS,by rw[Array.getElem?_setIfInBounds_ne (by decide)];exact hT.cM,zau hT.os hsm (by decide) _ _,zau hT.ok hsm (by decide) _ _,hT.map.set hsm,hT.sep,
   fun b e=>Or.inl ((zbz ..).2 (by simp[e])),fun b e=>Or.inl ((zbz ..).2 (by simp[e])),hT.lM⟩
 obtain⟨hA3,hT3⟩:=MkA.self hA2 hT2
 have hgs:∀g∈gs,∃i,∃h1:i<gs.length,gs[i]=g:=fun g hg=>by obtain⟨i,h1,h2⟩:=List.getElem_of_mem hg;exact⟨i,h1,h2⟩
 have hne:∀{g:Nat}{cs':Array Value},St W 3 g cs'->St (w5.setCell ⟨bm,257,none⟩ v') 3 g cs':=fun hs=>((hs.grown_own h.nx.own (by decide) hg).set_far hsm (by decide) _ _)
 refine⟨⟨hA3,hT3,h.inv,⟨?_,by simp[h.nx.len],fun i hi hi'=>?_⟩,?_,?_,fun j hj=>?_,h.hn⟩,hB.setCell (p:=⟨bm,257,none⟩) hA.r.lo.1 v'⟩
 ·rw[List.length_append,List.map_append]
  exact zau ho hsm (by decide) _ _
 ·by_cases e:i<gs.length
  ·have e2:i<R.length:=by rw[<-h.nx.len];exact e
   rw[List.getElem_append_left e,List.getElem_append_left e2]
   exact⟨hne (h.nx.row i e e2).1,(h.nx.row i e e2).2⟩
  ·have e2:i=gs.length:=by simp at hi;omega
   subst e2
   have e3:(R++[row])[gs.length]'hi'=row:=by
    rw[List.getElem_append_right (by rw[h.nx.len];exact Nat.le_refl _)]
    simp[h.nx.len]
   rw[e3,List.getElem_concat_length rfl]
   exact⟨hne hrow,hgR⟩
 ·rw[Array.getElem?_setIfInBounds_ne (by decide)];exact h.c0
 ·rw[Array.getElem?_setIfInBounds_self_of_lt (by rw[h.a.r.sz];decide)]
 ·rw[Array.getElem?_setIfInBounds_ne (by omega)];exact h.cl j hj
end Go.Proofs.YtjehgdjlncofeaaGreat
