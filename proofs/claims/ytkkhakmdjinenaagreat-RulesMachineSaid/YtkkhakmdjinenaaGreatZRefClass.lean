import Derived.Test.YtkkhakmdjinenaaGreatZNumIn
import Derived.Test.YtkkhakmdjinenaaGreatZSClose
set_option linter.all false
set_option maxHeartbeats 1000000
set_option maxRecDepth 100000
open Go.Lib (hid)
namespace Go.Proofs.YtkkhakmdjinenaaGreat
open Go.RowKit Go.Proofs.Tryz
open List (getD getElem?_append_left getElem_append_left getElem_concat_length getElem_mem length_append map_append prefix_refl range replicate)
open Or (inl inr)
open Nat (le_refl le_trans lt_of_lt_of_le zero_le)
open _root_.Array (ext' getElem?_setIfInBounds_ne)
open Value (ownBlock)
open World (ownsRow_nil size_setCell)
open Instr (build fill)
variable {B C F M Mf Mm Ms b2 b3 b5 b6 b7 b8 bL bM bm bn cR g gI gS i k k1 k2 m n q t te ts:Nat}{D:List ((Nat->Bool) × Nat)}{DL:List ((Nat->Bool) × Option Addr × Nat)}{K:Nat->Lit}{L L':List En}{R:List (List Int)}{S' S0 SS:List (Nat->Bool)}{V W w w' w1 w5 w6 wr:World}{a aR:Option Addr}{bs gs l lr nm:List Nat}{cN cs iJ:Array Value}{dt ms:List Int}{fn qQ qY v v' vF vK vL vM vN vS vS':Value}{fv sv vU vV vs:Nat->Value}{mf mk:Nat->Int}{r:Int}{ss:List ByteArray}{uK xs:Nat->List Value}{x:En}
def iC(n:Nat)(z:Nat->Int)(x:Nat):Int:=if x<n then (if 0<=z x then z x else -1) else -1
def tz(Q:Prop)(w:World)(e:Ending)(w':World):Prop:=∃b:Bool,e=.returned (.bool b)/\(b=true↔Q)/\Below w.heap.size w w'
def qp(w:World)(a:Option Addr)(n:Nat)(A:Nat->Option Addr)(C len:Nat->Nat)(z:Nat->Nat->Int):Prop:=0<n->∃g off,a=some ⟨g,off,none⟩/\g<w.heap.size/\∀i,i<n->w.cell? ⟨g,off+i,none⟩=some (.slice (A i) (len i) (C i))/\kY w (A i) (len i) (z i)
theorem qp.below{A:Nat->Option Addr}{C len:Nat->Nat}{z:Nat->Nat->Int}(h:qp w a n A C len z)(k:Below w.heap.size w w'):qp w' a n A C len z:=by
 intro h0;obtain⟨g,off,e,hg,hc⟩:=h h0;have:=k.size;exact⟨g,off,e,by omega,fun j hj=>⟨(k.cell (p:=⟨g,off+j,none⟩) hg).trans (hc j hj).1,(hc j hj).2.below k⟩⟩
def mU(M:Nat)(S:Nat->Prop)(SS:List (Nat->Bool))(r:Int)(jY:List (Nat->Bool)):Prop:=
 ((
  ∀x,x<M->¬S x)/\r=-1/\jY=SS)\/((∃x,x<M/\S x)/\∃j:Nat,r=(j:Int)/\(∃h:j<jY.length,∀x,x<M->(jY[j] x=true↔S x))/\
  (jY=SS\/∃f,jY=SS++[f]/\j=SS.length/\∀i (h:i<SS.length),∃x,x<M/\SS[i] x≠f x))
inductive iG (M:Nat) (T:Nat->Nat->Prop) (SS:List (Nat->Bool)):Nat->List Int->List (Nat->Bool)->Prop
 | zero:iG M T SS 0 [] SS
 | succ {c:Nat}{row:List Int}{S1 S2:List (Nat->Bool)}{r:Int}:iG M T SS c row S1->mU M (T c) S1 r S2->iG M T SS (c+1) (row++[r]) S2
inductive iW (M C:Nat) (T:(Nat->Bool)->Nat->Nat->Prop) (S0:List (Nat->Bool)):Nat->List (List Int)->List (Nat->Bool)->Prop
 | zero:iW M C T S0 0 [] S0
 | succ {k:Nat}{R:List (List Int)}{row:List Int}{S1 S2:List (Nat->Bool)}:iW M C T S0 k R S1->(h:k<S1.length)->iG M (T S1[k]) S1 C row S2->iW M C T S0 (k+1) (R++[row]) S2
theorem mU.pre{S:Nat->Prop}(h:mU M S SS r S'):SS <+: S':=by
 rcases h with ⟨_,_,rfl⟩|⟨_,j,_,_,rfl|⟨f,rfl,_⟩⟩
 ·exact prefix_refl _
 ·exact prefix_refl _
 exact List.prefix_append _ _
theorem iG.pre{M:Nat}{T:Nat->Nat->Prop}{SS S':List (Nat->Bool)}{c:Nat}{row:List Int}(h:iG M T SS c row S'):SS <+: S':=by
 induction h with
 | zero=>exact prefix_refl _
 | succ _ h1 ih=>exact ih.trans h1.pre
theorem iG.len{T:Nat->Nat->Prop}{c:Nat}{row:List Int}(h:iG M T SS c row S'):row.length=c/\S'.length<=SS.length+c:=by
 induction h with
 | zero=>exact⟨rfl,by omega⟩
 | succ _ h1 ih=>
  refine⟨by simp[ih.1],?_⟩;rcases h1 with ⟨_,_,rfl⟩|⟨_,j,_,_,rfl|⟨f,rfl,_⟩⟩
  ·omega
  ·omega
  simp;omega
theorem iW.len{T:(Nat->Bool)->Nat->Nat->Prop}(h:iW M C T S0 k R S'):R.length=k:=by
 induction h with
 | zero=>rfl
 | succ _ _ _ ih=>simp[ih]
theorem iW.pre{M C:Nat}{T:(Nat->Bool)->Nat->Nat->Prop}{S0 S':List (Nat->Bool)}{k:Nat}{R:List (List Int)}(h:iW M C T S0 k R S'):S0 <+: S':=by
 induction h with
 | zero=>exact prefix_refl _
 | succ _ _ h1 ih=>exact ih.trans h1.pre
theorem iW.tC{T:(Nat->Bool)->Nat->Nat->Prop}(h:iW M C T S0 k R S'):∀r∈R,r.length=C:=by
 induction h with
 | zero=>intro r hr;simp at hr
 | succ _ _ h1 ih=>
  intro r hr;rcases List.mem_append.1 hr with hr|hr
  ·exact ih r hr
  rw[List.mem_singleton.1 hr];exact h1.len.1
def pA(M:Nat)(SS:List (Nat->Bool))(S:Nat->Prop)(r:Int):Prop:=
 (r=-1/\∀x,x<M->¬S x)\/((∃x,x<M/\S x)/\∃(j:Nat) (h:j<SS.length),r=(j:Int)/\∀x,x<M->(SS[j] x=true↔S x))
theorem pA.pre{S:Nat->Prop}(h:pA M SS S r)(hp:SS <+: S'):pA M S' S r:=by
 rcases h with h|⟨h0,j,hj,e,h⟩
 ·exact inl h
 refine inr ⟨h0,j,lt_of_lt_of_le hj hp.length_le,e,fun x hx=>?_⟩;rw[<-hp.getElem hj];exact h x hx
theorem mU.pI{S:Nat->Prop}(h:mU M S SS r S'):pA M S' S r:=by
 rcases h with ⟨h1,h2,_⟩|⟨h0,j,e,⟨hj,h1⟩,_⟩
 ·exact inl ⟨h2,h1⟩
 exact inr ⟨h0,j,hj,e,h1⟩
theorem iG.pI{M:Nat}{T:Nat->Nat->Prop}{SS S':List (Nat->Bool)}{c:Nat}{row:List Int}(h:iG M T SS c row S'):∀i (hi:i<row.length),pA M S' (T i) row[i]:=by
 induction h with
 | zero=>intro i hi;simp at hi
 | @succ c row S1 S2 r h0 h1 ih=>
  intro i hi;by_cases e:i<row.length
  ·rw[getElem_append_left e];exact (ih i e).pre h1.pre
  have e2:i=row.length:=by simp at hi;omega
  subst e2;have e3:row.length=c:=h0.len.1;rw[getElem_concat_length rfl];rw[e3];exact h1.pI
theorem iW.pI{M C:Nat}{T:(Nat->Bool)->Nat->Nat->Prop}{S0 S':List (Nat->Bool)}{k:Nat}{R:List (List Int)}(h:iW M C T S0 k R S'):∀i (hi:i<R.length),∃hs:i<S'.length,∀c (hc:c<R[i].length),pA M S' (T S'[i] c) R[i][c]:=by
 induction h with
 | zero=>intro i hi;simp at hi
 | @succ k R row S1 S2 h0 hk h1 ih=>
  intro i hi;by_cases e:i<R.length
  ·obtain⟨hs,h2⟩:=ih i e;refine⟨lt_of_lt_of_le hs h1.pre.length_le,fun c hc=>?_⟩;simp only[getElem_append_left e] at hc⊢;rw[<-h1.pre.getElem hs];exact (h2 c hc).pre h1.pre
  have e2:i=R.length:=by simp at hi;omega
  subst e2;have e3:=h0.len;refine⟨by rw[e3];exact lt_of_lt_of_le hk h1.pre.length_le,fun c hc=>?_⟩;simp only[getElem_concat_length] at hc⊢;have:=h1.pI c hc;subst e3;rw[<-h1.pre.getElem hk];exact this
def sL(M:Nat)(SS:List (Nat->Bool)):Prop:=∀i j (hi:i<SS.length) (hj:j<SS.length),(∀x,x<M->SS[i] x=SS[j] x)->i=j
theorem mU.ye{S:Nat->Prop}(h:mU M S SS r S')(hd:sL M SS):sL M S':=by
 rcases h with ⟨_,_,rfl⟩|⟨_,j,_,_,rfl|⟨f,rfl,_,hf⟩⟩
 ·exact hd
 ·exact hd
 intro i j hi hj he;by_cases h1:i<SS.length
 ·by_cases h2:j<SS.length
  ·exact hd i j h1 h2 (fun x hx=>by have:=he x hx;rwa [getElem_append_left h1,getElem_append_left h2] at this)
  have h3:j=SS.length:=by simp at hj;omega
  subst h3;obtain⟨x,hx,hn⟩:=hf i h1;have:=he x hx;rw[getElem_append_left h1,getElem_concat_length rfl] at this;exact absurd this hn
 have h3:i=SS.length:=by simp at hi;omega
 subst h3;by_cases h2:j<SS.length
 ·obtain⟨x,hx,hn⟩:=hf j h2;have:=he x hx;rw[getElem_append_left h2,getElem_concat_length rfl] at this;exact absurd this.symm hn
 simp at hj;omega
theorem iG.ye{M:Nat}{T:Nat->Nat->Prop}{SS S':List (Nat->Bool)}{c:Nat}{row:List Int}(h:iG M T SS c row S')(hd:sL M SS):sL M S':=by
 induction h with
 | zero=>exact hd
 | succ _ h1 ih=>exact h1.ye ih
theorem iW.ye{M C:Nat}{T:(Nat->Bool)->Nat->Nat->Prop}{S0 S':List (Nat->Bool)}{k:Nat}{R:List (List Int)}(h:iW M C T S0 k R S')(hd:sL M S0):sL M S':=by
 induction h with
 | zero=>exact hd
 | succ _ _ h1 ih=>exact h1.ye ih
open Go.Maps
def zQ(w:World)(B:Nat)(a:Option Addr)(cl:(Nat->Bool)->List Nat)(l:List En):Prop:=0<l.length->∃g off,a=some ⟨g,off,none⟩/\g<B/\
 ∀k (h:k<l.length),∃a' c',w.cell? ⟨g,off+k*2,none⟩=some (.slice a' (cl l[k].p).length c')/\w.cell? ⟨g,off+k*2+1,none⟩=some (.int .i64 ((l[k].t:Nat):Int))/\Bk w B a' (cl l[k].p)
theorem zQ.below{cl:(Nat->Bool)->List Nat}{l:List En}(h:zQ w B a cl l)(k:Below B w w'):zQ w' B a cl l:=by
 intro h0;obtain⟨g,off,e,hg,hc⟩:=h h0;refine⟨g,off,e,hg,fun j hj=>?_⟩;obtain⟨a',c',h1,h2,h3⟩:=hc j hj;exact⟨a',c',(k.cell (p:=⟨g,off+j*2,none⟩) hg).trans h1,(k.cell (p:=⟨g,off+j*2+1,none⟩) hg).trans h2,h3.below k⟩
structure pN (w:World)(B bn gS M cS:Nat)(aS:Nat->Option Addr)(cR:Nat->Nat)(cl:(Nat->Bool)->List Nat)(L:List En):Prop where
 gG:bn<B/\gS<B
 gW:w.cell? ⟨bn,259,none⟩=some (.slice (some ⟨gS,0,none⟩) M cS)
 row:∀i,i<M->w.cell? ⟨gS,i,none⟩=some (.slice (aS i) (dk L i).length (cR i))
 at_:∀i,i<M->zQ w B (aS i) cl (dk L i)
theorem pN.below{cS:Nat}{aS:Nat->Option Addr}{cR:Nat->Nat}{cl:(Nat->Bool)->List Nat}(h:pN w B bn gS M cS aS cR cl L)(k:Below B w w'):pN w' B bn gS M cS aS cR cl L:=
 ⟨h.gG,(k.cell (p:=⟨bn,259,none⟩) h.gG.1).trans h.gW,fun i hi=>(k.cell (p:=⟨gS,i,none⟩) h.gG.2).trans (h.row i hi),fun i hi=>(h.at_ i hi).below k⟩
structure iO (w3:World)(B gT C:Nat)(vs:Nat->Value)(tg:Nat->List Nat)(wq:World):Prop where
 iP:eE wq w3.heap.size 27 3 1 gT C vs (fun c=>(tg c).length) (fun c=>cY (tg c))
 kept:Kept [] [gT] w3 wq
 below:Below B w3 wq
 lo:B<=gT/\B<=w3.heap.size
theorem iO.ab{w3 wq:World}{gT:Nat}{tg:Nat->List Nat}(h:iO w3 B gT C vs tg wq)(k:Below wq.heap.size wq w1):iO w3 B gT C vs tg w1:=
 ⟨h.iP.ab k,h.kept.below k,h.below.trans (k.mono (le_trans h.lo.2 h.below.size)),h.lo⟩
theorem iO.app{w3 W w6:World}{B gT C:Nat}{vs:Nat->Value}{tg:Nat->List Nat}(h:iO w3 B gT C vs tg W){x t:Nat}(hx:x<C){v':Value}{p:Nat}(hp:(tg x).length=p)
  (ho:w6.ownsRow w3.heap.size 3 1 v' (p+1) (cY (tg x)++[.int .i64 (t:Int)])) (hg:W.grownBy w6 (vs x).ownBlock)
  (fx:∀b,v'.ownBlock=some b->(vs x).ownBlock=some b\/W.heap.size<=b):
  iO w3 B gT C (fun j=>if j=x then v' else vs j) (fun j=>if j=x then tg x++[t] else tg j) (w6.setCell ⟨gT,x,none⟩ v'):=by
 have hr:=h.iP.2.1 x hx;have dc:=h.below.size;refine⟨(h.iP.app (by decide) hx ho hg fx).congr (fun i hi=>?_),?_,(fL h.below (gn hr h.lo.2) (le_trans h.lo.2 dc) hg |> fun k=>k.setCell (p:=⟨gT,x,none⟩) h.lo.1 v'),h.lo⟩
 ·by_cases e:i=x
  ·subst e;refine⟨by simp[hp],by simp[xG]⟩
  simp[e]
 exact (h.kept.grown hg (fun g e=>inr (inl (kL hr g e)))).setCell ⟨gT,x,none⟩ v' (inl (by simp))
theorem iO.made(V:World)(B C:Nat)(w3:World)(hB:B<=V.heap.size)(k:Below (V.alloc (.cells (madeCells #[.slice none 0 0] C) 27)).heap.size (V.alloc (.cells (madeCells #[.slice none 0 0] C) 27)) w3):
  iO w3 B V.heap.size C (fun _=>.slice none 0 0) (fun _=>[]) w3:=
 ⟨(eE.made V w3.heap.size 27 3 1 C).ab k,Kept.refl _ _ _,Below.refl _ _,hB,by have:=k.size;simp at this;omega⟩
def jw(bm gI bM:Nat)(vL vS vK:Value):List Nat:=bm :: gI :: bM :: (vL.ownBlock.toList++(vS.ownBlock.toList++vK.ownBlock.toList))
theorem zt(bm gI bM:Nat)(vL vS vK:Value)(x:Nat):x∈jw bm gI bM vL vS vK↔x=bm\/x=gI\/x=bM\/vL.ownBlock=some x\/vS.ownBlock=some x\/vK.ownBlock=some x:=by
 simp[jw,Option.mem_toList]
theorem ji.self{Q:Value->Value->Prop}(h:ji V B bs bm gI m M cs l vL wr)(t:mH V B bs bM cs vL k q n ss ms Q vS vK wr):
  ji wr B (jw bm gI bM vL vS vK) bm gI m M cs l vL wr/\mH wr B (jw bm gI bM vL vS vK) bM cs vL k q n ss ms Q vS vK wr:=
 ⟨⟨⟨Kept.refl _ _ _,Below.refl _ _,h.r.sm,h.r.sz,h.r.cI,h.r.lG,h.r.de,fun b e=>inl ((zt ..).2 (by simp[e])),⟨by simp[jw],by simp[jw]⟩,h.r.lo.1,h.r.lo.2.1,h.r.hB⟩,h.nd,h.lt⟩,
  ⟨t.cK,t.cS,t.cM,t.os,t.ok,t.map,t.sep,fun b e=>inl ((zt ..).2 (by simp[e])),fun b e=>inl ((zt ..).2 (by simp[e])),by simp[jw],t.lM.2⟩⟩
theorem Vl{Q:Value->Value->Prop}(h:ji V B bs bm gI m M cs l vL wr)(t:mH V B bs bM cs vL k q n ss ms Q vS vK wr){x:Nat}
  (hx:x∈jw bm gI bM vL vS vK):x∈bs\/V.heap.size<=x:=by
 rcases (zt ..).1 hx with rfl|rfl|rfl|e|e|e
 ·exact inl h.r.kd.1
 ·exact inl h.r.kd.2
 ·exact inl t.lM.1
 ·exact h.r.loc x e
 ·exact t.lS x e
 exact t.lK x e
structure ru (w:World)(B:Nat)(bs:List Nat)(vN:Value)(C:Nat)(gs:List Nat)(R:List (List Int)):Prop where
 own:w.ownsRow B 27 1 vN R.length (gs.map fun g=>.slice (some ⟨g,0,none⟩) C C)
 len:gs.length=R.length
 row:∀i (h:i<gs.length) (h':i<R.length),St w 3 gs[i] (ints R[i]).toArray/\gs[i]∉bs
theorem ru.ab(h:ru w B bs vN C gs R)(k:Below w.heap.size w w1):ru w1 B bs vN C gs R:=
 ⟨db h.own k,h.len,fun i h1 h2=>⟨(h.row i h1 h2).1.ab k,(h.row i h1 h2).2⟩⟩
theorem ru.kept{Kn:List Nat}(h:ru w B bs vN C gs R)(k:Kept [] bs w w1)(hN:∀b,vN.ownBlock=some b->b∉bs)(hb:∀x∈Kn,x∈bs\/w.heap.size<=x):ru w1 B Kn vN C gs R:=
 ⟨fI h.own k (by simp) hN,h.len,fun i h1 h2=>⟨(h.row i h1 h2).1.kept k (by simp) (h.row i h1 h2).2,fun hm=>by
  rcases hb _ hm with h3|h3
  ·exact (h.row i h1 h2).2 h3
  ·have:=(h.row i h1 h2).1.lt;omega⟩⟩
structure mi (B bm gI bM m M C bn:Nat)(K:Nat->Lit)(L:List En)(mk:Nat->Int)(SS:List (Nat->Bool))(ms:List Int)(D:List ((Nat->Bool) × Nat))(R:List (List Int))(n:Nat)(cs:Array Value)(l:List Nat)(vL vS vK vN:Value)(gs:List Nat)(w:World):Prop where
 a:ji w B (jw bm gI bM vL vS vK) bm gI m M cs l vL w
 t:mH w B (jw bm gI bM vL vS vK) bM cs vL SS.length SS.length n (SS.map (kv M)) ms (MQ M D) vS vK w
 inv:Inv L M mk SS ms D
 nx:ru w B (jw bm gI bM vL vS vK) vN C gs R
 c0:cs[0]?=some (.pointer (some ⟨bn,0,none⟩))
 cN:cs[257]?=some vN
 cl:∀j,j<256->cs[1+j]?=some (.int .u8 (cls K j))
 hn:n<=2*SS.length
theorem mi.ab
  (h:mi B bm gI bM m M C bn K L mk SS ms D R n cs l vL vS vK vN gs w) (k:Below w.heap.size w w1):mi B bm gI bM m M C bn K L mk SS ms D R n cs l vL vS vK vN gs w1:=by
 obtain⟨h1,h2⟩:=ji.self (h.a.ab k) (h.t.ab k);exact⟨h1,h2,h.inv,h.nx.ab k,h.c0,h.cN,h.cl,h.hn⟩
theorem mi.hN
  (h:mi B bm gI bM m M C bn K L mk SS ms D R n cs l vL vS vK vN gs w):∀b,vN.ownBlock=some b->b∉jw bm gI bM vL vS vK:=by
 intro b e hm;rcases (zt ..).1 hm with rfl|rfl|rfl|e2|e2|e2
 ·exact eB h.nx.own h.a.r.sm (by decide) _ e rfl
 ·exact iB h.nx.own h.a.r.lG (by decide) _ e rfl
 ·exact xK h.t.map h.nx.own _ e rfl
 ·exact iB h.nx.own h.a.r.de (by decide) _ e e2
 ·exact iB h.nx.own h.t.os (by decide) _ e e2
 exact iB h.nx.own h.t.ok (by decide) _ e e2
theorem mi.close{st:List Nat}{e:Ending}
  (h:mi B bm gI bM m M C bn K L mk SS ms D R n cs l vL vS vK vN gs w) (hp:JT w B (jw bm gI bM vL vS vK) bm gI m M bM cs L mk SS st n e w') (h0:∃x,x<M/\FR L (fun y=>y∈st) x):
  ∃(r:Int) (jY:List (Nat->Bool)) (uq:List Int) (D':List ((Nat->Bool) × Nat)) (n':Nat) (iJ:Array Value) (l':List Nat) (jr vS' vK':Value),e=.returned (.int .i64 r)/\mi B bm gI bM m M C bn K L mk jY uq D' R n' iJ l' jr vS' vK' vN gs w'/\
   mU M (fun x=>FR L (fun y=>y∈st) x) SS r jY/\Kept [] (jw bm gI bM vL vS vK) w w'/\Below B w w'/\∀x∈jw bm gI bM jr vS' vK',x∈jw bm gI bM vL vS vK\/w.heap.size<=x:=by
 obtain⟨j,jY,uq,D',jr,vS',vK',iJ,l',n',rfl,hA,hT,hI,hn,mS,hj,hS⟩:=hp;obtain⟨h1,h2⟩:=ji.self hA hT;refine⟨(j:Int),jY,uq,D',n',iJ,l',jr,vS',vK',rfl,⟨h1,h2,hI,h.nx.kept hA.r.kept h.hN (fun x hx=>Vl hA hT hx),by rw[mS 0 (by decide) (by decide)];exact h.c0,by rw[mS 257 (by decide) (by decide)];exact h.cN,fun k hk=>by rw[mS (1+k) (by omega) (by omega)];exact h.cl k hk,by have:=h.hn;omega⟩,?_,hA.r.kept,hA.r.below,fun x hx=>Vl hA hT hx⟩;exact inr ⟨h0,j,rfl,hj,hS⟩
theorem mi.x8
  (h:mi B bm gI bM m M C bn K L mk SS ms D R n cs l vL vS vK vN gs w):∀x∈jw bm gI bM vL vS vK,x<w.heap.size:=by
 have own:∀{t n:Nat}{v:Value}{xs:List Value},w.ownsRow B t 1 v n xs->∀g,v.ownBlock=some g->g<w.heap.size:=fun ho g e=>by
  obtain⟨c,fz,hc⟩:=qi ho g e;exact (Array.getElem?_eq_some_iff.1 hc).1
 intro x hx;rcases (zt ..).1 hx with rfl|rfl|rfl|e|e|e
 ·exact h.a.r.sm.lt
 ·exact own h.a.r.lG _ rfl
 ·exact h.t.map.lt
 ·exact own h.a.r.de _ e
 ·exact own h.t.os _ e
 exact own h.t.ok _ e
theorem Kept.nE(k:Kept [] bs w w')(hg:g∉bs)(hl:g<w.heap.size):w'.cell? ⟨g,i,none⟩=w.cell? ⟨g,i,none⟩:=by
 have h:w'.heap[g]?=w.heap[g]?:=by rw[Array.getElem?_eq_getElem hl];exact k g _ (Array.getElem?_eq_getElem hl) (fun _ _ _ _=>by simp) hg
 simp only[World.cell?,h]
theorem zmz(N:Nat)(hN:N<=2147483647)(W:World):(Instr.makeSlice 27 (.int .i64 (N:Int)) (.int .i64 (N:Int))).run prog W=.ok (.slice (some ⟨W.heap.size,0,none⟩) N N) (W.alloc (.cells (madeCells #[.int .i64 0] N) 3)):=by
 have:=run_make_row' (P:=prog) 27 3 (.int .i64 0) 8 underlying27 aG rfl .i64 .i64 N (by omega) (by omega) W;simpa using this
theorem zkD(N:Nat):madeCells #[.int .i64 0] N=(ints (replicate N 0)).toArray:=by
 apply ext';apply List.ext_getElem?;intro i;by_cases hi:i<N
 ·simp[madeCells,ints,hi,Nat.mod_one]
 simp[madeCells,ints,hi]
theorem Yj(row:List Int)(C c:Nat)(h:row.length=c)(hc:c<C)(u v:Int):((ints ((row++[u])++replicate (C-(c+1)) 0)).toArray).setIfInBounds c (.int .i64 v)=(ints ((row++[v])++replicate (C-(c+1)) 0)).toArray:=by
 apply ext';simp[ints,h]
theorem zmA(row:List Int)(C c:Nat)(hc:c<C):row++replicate (C-c) (0:Int)=(row++[0])++replicate (C-(c+1)) 0:=by
 have:C-c=(C-(c+1))+1:=by omega
 rw[this,List.replicate_succ];simp
theorem U8(row:List Int)(C c:Nat)(h:row.length=c)(u:Int):((ints ((row++[u])++replicate (C-(c+1)) 0)).toArray)[c]?=some (.int .i64 u):=by
 simp[ints,<-h]
theorem FR.none{A:Nat->Prop}(h:∀x,¬A x)(x:Nat):¬FR L A x:=by
 intro k
 induction k with
 | base h1=>exact h _ h1
 | step _ _ _ _ _ _ ih=>exact ih
theorem mi.kept
  (h:mi B bm gI bM m M C bn K L mk SS ms D R n cs l vL vS vK vN gs w) (k:Kept [] bs w w1) (hb:Below B w w1) (hd:∀x∈jw bm gI bM vL vS vK,x∉bs):
  ji w1 B (jw bm gI bM vL vS vK) bm gI m M cs l vL w1/\mH w1 B (jw bm gI bM vL vS vK) bM cs vL SS.length SS.length n (SS.map (kv M)) ms (MQ M D) vS vK w1:=by
 have hm:=zt bm gI bM vL vS vK;refine⟨⟨⟨Kept.refl _ _ _,Below.refl _ _,h.a.r.sm.kept k (by simp) (hd _ ((hm _).2 (by simp))),h.a.r.sz,h.a.r.cI,fI h.a.r.lG k (by simp) (fun g e=>hd _ ((hm _).2 (by simp[ownBlock] at e;simp[e]))),fI h.a.r.de k (by simp) (fun g e=>hd _ ((hm _).2 (by simp[e]))),fun b e=>inl ((hm _).2 (by simp[e])),⟨by simp[jw],by simp[jw]⟩,h.a.r.lo.1,h.a.r.lo.2.1,le_trans h.a.r.hB hb.size⟩,h.a.nd,h.a.lt⟩,
  ⟨h.t.cK,h.t.cS,h.t.cM,fI h.t.os k (by simp) (fun g e=>hd _ ((hm _).2 (by simp[e]))),fI h.t.ok k (by simp) (fun g e=>hd _ ((hm _).2 (by simp[e]))),h.t.map.kept k (hd _ ((hm _).2 (by simp))),h.t.sep,fun b e=>inl ((hm _).2 (by simp[e])),fun b e=>inl ((hm _).2 (by simp[e])),by simp[jw],h.t.lM.2⟩⟩
theorem mi.fK
  (h:mi B bm gI bM m M C bn K L mk SS ms D R n cs l vL vS vK vN gs w) (k:Kept [] bs w w1) (hb:Below B w w1) (hd:∀x∈jw bm gI bM vL vS vK,x∉bs) (hN:∀b,vN.ownBlock=some b->b∉bs) (hg:∀x∈gs,x∉bs):
  mi B bm gI bM m M C bn K L mk SS ms D R n cs l vL vS vK vN gs w1:=by
 obtain⟨h1,h2⟩:=h.kept k hb hd;exact⟨h1,h2,h.inv,⟨fI h.nx.own k (by simp) hN,h.nx.len,fun i hi hi'=>⟨(h.nx.row i hi hi').1.kept k (by simp) (hg _ (getElem_mem _)),(h.nx.row i hi hi').2⟩⟩,h.c0,h.cN,h.cl,h.hn⟩
theorem mi.next{gR:Nat}{row:List Int}
  (h:mi B bm gI bM m M C bn K L mk SS ms D R n cs l vL vS vK vN gs W) (dF:St W 3 gR (ints row).toArray) (Bj:gR∉jw bm gI bM vL vS vK)
  (ho:w5.ownsRow B 27 1 v' (R.length+1) (gs.map (fun g=>.slice (some ⟨g,0,none⟩) C C)++[.slice (some ⟨gR,0,none⟩) C C])) (hg:W.grownBy w5 vN.ownBlock):
  mi B bm gI bM m M C bn K L mk SS ms D (R++[row]) n (cs.setIfInBounds 257 v') l vL vS vK v' (gs++[gR]) (w5.setCell ⟨bm,257,none⟩ v')/\Below B W (w5.setCell ⟨bm,257,none⟩ v'):=by
 have hk:Kept [] vN.ownBlock.toList W w5:=(Kept.refl _ _ _).grown hg (fun g e=>inl (by simp[e]));have hB:Below B W w5:=fL (Below.refl _ _) h.nx.own h.a.r.hB hg;obtain⟨hA,hT⟩:=h.kept hk hB (fun x hx hm=>h.hN x (by simpa using hm) hx);have Be:=hA.yh 257 (by decide) (by decide) v';have mN:=hA.r.sm;have QU:mH w5 B (jw bm gI bM vL vS vK) bM (cs.setIfInBounds 257 v') vL SS.length SS.length n (SS.map (kv M)) ms (MQ M D) vS vK (w5.setCell ⟨bm,257,none⟩ v'):=
  ⟨by rw[getElem?_setIfInBounds_ne (by decide)];exact hT.cK,by rw[getElem?_setIfInBounds_ne (by decide)];exact hT.cS,by rw[getElem?_setIfInBounds_ne (by decide)];exact hT.cM,jE hT.os mN (by decide) _ _,jE hT.ok mN (by decide) _ _,hT.map.set mN,hT.sep,
   fun b e=>inl ((zt ..).2 (by simp[e])),fun b e=>inl ((zt ..).2 (by simp[e])),hT.lM⟩
 obtain⟨hA3,Ki⟩:=ji.self Be QU;have WH:∀g∈gs,∃i,∃h1:i<gs.length,gs[i]=g:=fun g hg=>by obtain⟨i,h1,h2⟩:=List.getElem_of_mem hg;exact⟨i,h1,h2⟩
 have hne:∀{g:Nat}{iJ:Array Value},St W 3 g iJ->St (w5.setCell ⟨bm,257,none⟩ v') 3 g iJ:=fun hs=>((hs.ae h.nx.own (by decide) hg).fZ mN (by decide) _ _)
 refine⟨⟨hA3,Ki,h.inv,⟨?_,by simp[h.nx.len],fun i hi hi'=>?_⟩,?_,?_,fun j hj=>?_,h.hn⟩,hB.setCell (p:=⟨bm,257,none⟩) hA.r.lo.1 v'⟩
 ·rw[length_append,map_append];exact jE ho mN (by decide) _ _
 ·by_cases e:i<gs.length
  ·have e2:i<R.length:=(by rw[<-h.nx.len];exact e);rw[getElem_append_left e,getElem_append_left e2];exact⟨hne (h.nx.row i e e2).1,(h.nx.row i e e2).2⟩
  have e2:i=gs.length:=by simp at hi;omega
  subst e2;have e3:(R++[row])[gs.length]'hi'=row:=by
   rw[List.getElem_append_right (by rw[h.nx.len];exact le_refl _)];simp[h.nx.len]
  rw[e3,getElem_concat_length rfl];exact⟨hne dF,Bj⟩
 ·rw[getElem?_setIfInBounds_ne (by decide)];exact h.c0
 ·rw[Array.getElem?_setIfInBounds_self_of_lt (by rw[h.a.r.sz];decide)]
 rw[getElem?_setIfInBounds_ne (by omega)];exact h.cl j hj
structure bE (w:World)(B ts te sz:Nat)(v:Value)(M:Nat)(vs:Nat->Value)(len:Nat->Nat)(xs:Nat->List Value):Prop where
 own:w.ownsRow B ts 1 v M ((range M).map vs)
 row:∀i,i<M->w.ownsRow B te sz (vs i) (len i) (xs i)
 sep:∀i j,i<M->j<M->i≠j->∀b,(vs i).ownBlock=some b->(vs j).ownBlock≠some b
theorem bE.ab{sz:Nat}{len:Nat->Nat}(h:bE w B ts te sz v M vs len xs)(k:Below w.heap.size w w'):bE w' B ts te sz v M vs len xs:=
 ⟨db h.own k,fun i hi=>db (h.row i hi) k,h.sep⟩
theorem bE.kept{sz:Nat}{len:Nat->Nat}(h:bE w B ts te sz v M vs len xs)(k:Kept [] bs w w')(h1:∀b,v.ownBlock=some b->b∉bs)(h2:∀i,i<M->∀b,(vs i).ownBlock=some b->b∉bs):bE w' B ts te sz v M vs len xs:=
 ⟨fI h.own k (by simp) h1,fun i hi=>fI (h.row i hi) k (by simp) (h2 i hi),h.sep⟩
theorem bE.congr{sz:Nat}{len yf:Nat->Nat}(h:bE w B ts te sz v M vs len xs)(e:∀i,i<M->len i=yf i/\xs i=uK i):bE w B ts te sz v M vs yf uK:=
 ⟨h.own,fun i hi=>by rw[<-(e i hi).1,<-(e i hi).2];exact h.row i hi,h.sep⟩
theorem bE.lt{sz:Nat}{len:Nat->Nat}(h:bE w B ts te sz v M vs len xs):(∀b,v.ownBlock=some b->b<w.heap.size)/\∀i,i<M->∀b,(vs i).ownBlock=some b->b<w.heap.size:=by
 have own:∀{t s n:Nat}{v:Value}{xs:List Value},w.ownsRow B t s v n xs->∀g,v.ownBlock=some g->g<w.heap.size:=fun ho g e=>by
  obtain⟨c,fz,hc⟩:=qi ho g e;exact (Array.getElem?_eq_some_iff.1 hc).1
 exact⟨own h.own,fun i hi=>own (h.row i hi)⟩
theorem bE.push{sz:Nat}{len:Nat->Nat}(h:bE w B ts te sz v M vs len xs)(ht:te≠ts)(hl:len M=0)(hx:xs M=[])
  (ho:w'.ownsRow B ts 1 v' (M+1) ((range M).map vs++[.slice none 0 0])) (hg:w.grownBy w' v.ownBlock):bE w' B ts te sz v' (M+1) (fun j=>if j=M then .slice none 0 0 else vs j) len xs:=by
 refine⟨?_,fun i hi=>?_,fun i j hi hj hij b=>?_⟩
 ·have e:(range (M+1)).map (fun j=>if j=M then .slice none 0 0 else vs j)=(range M).map vs++[.slice none 0 0]:=by
   rw[List.range_succ,map_append];congr 1
   ·refine(List.map_congr_left fun j hj=>?_);have:j<M:=(by simpa using hj);rw[if_neg (by omega)]
   simp
  rw[e];exact ho
 ·by_cases e:i=M
  ·subst e;simp only[if_pos rfl,hl,hx];exact ownsRow_nil _ _ _ _
  simp only[if_neg e];exact rF (h.row i (by omega)) hg (fun b e1 e2=>iB (h.row i (by omega)) h.own ht b e1 e2.symm)
 by_cases e1:i=M
 ·simp only[if_pos e1];intro e;simp[ownBlock] at e
 by_cases e2:j=M
 ·simp only[if_pos e2];intro _ e;simp[ownBlock] at e
 simp only[if_neg e1,if_neg e2];exact h.sep i j (by omega) (by omega) hij b
theorem bE.app{w w':World}{B ts te sz M g c:Nat}{vs:Nat->Value}{len:Nat->Nat}{xs:Nat->List Value}(h:bE w B ts te sz (.slice (some ⟨g,0,none⟩) M c) M vs len xs)(ht:te≠ts){i:Nat}(hi:i<M){v':Value}{n':Nat}{ys:List Value}(ho:w'.ownsRow B te sz v' n' ys)(hg:w.grownBy w' (vs i).ownBlock)
  (fx:∀b,v'.ownBlock=some b->(vs i).ownBlock=some b\/w.heap.size<=b):bE (w'.setCell ⟨g,i,none⟩ v') B ts te sz (.slice (some ⟨g,0,none⟩) M c) M (fun j=>if j=i then v' else vs j) (fun j=>if j=i then n' else len j) (fun j=>if j=i then ys else xs j):=by
 have hs:=sO h.own (h.row i hi) ht hg;have aq:=h.lt.2;have qS:∀{n:Nat}{u:Value}{zs:List Value},w'.ownsRow B te sz u n zs->(w'.setCell ⟨g,i,none⟩ v').ownsRow B te sz u n zs:=fun ho2=>
  fI (ts:=[]) (bs:=[g]) ho2 ((Kept.refl _ _ _).setCell _ _ (inl (by simp))) (by simp) (fun b e hm=>iB ho2 hs ht b e (by simp[List.mem_singleton.1 hm,ownBlock]))
 refine⟨?_,fun j hj=>?_,fun j k hj hk hjk b=>?_⟩
 ·have:=uj hs i hi v';have e:((range M).map vs).set i v'=(range M).map (fun j=>if j=i then v' else vs j):=by
   apply List.ext_getElem?;intro j;rw[List.getElem?_set];by_cases e:i=j
   ·subst e;simp[hi]
   have e':¬j=i:=(fun h=>e h.symm);simp only[if_neg e,List.getElem?_map];by_cases hj:j<M
   ·simp[hj,e']
   simp[hj]
  rwa [e] at this
 ·by_cases e:j=i
  ·subst e;simp only[if_pos rfl];exact qS ho
  simp only[if_neg e];exact qS (rF (h.row j hj) hg (fun b e1 e2=>h.sep j i hj hi e b e1 e2.symm))
 by_cases e1:j=i
 ·subst e1;have e2:¬k=j:=fun e=>hjk e.symm
  simp only[if_pos rfl,if_neg e2];intro e3 e4;rcases fx b e3 with h1|h1
  ·exact h.sep j k hj hk hjk b h1 e4
  have:=aq k hk b e4;omega
 by_cases e2:k=i
 ·subst e2;simp only[if_pos rfl,if_neg e1];intro e3 e4;rcases fx b e4 with h1|h1
  ·exact h.sep j k hj hk hjk b e3 h1
  have:=aq j hj b e3;omega
 simp only[if_neg e1,if_neg e2];exact h.sep j k hj hk hjk b
structure iA (B bn Mm Mf Ms:Nat)(cs:Array Value)(dt:List Int)(vM vF vS:Value)(fv sv:Nat->Value)(xs:Nat->List Value)(L:List En)(w:World):Prop where
 sn:St w 109 bn (((cs.setIfInBounds 257 vM).setIfInBounds 258 vF).setIfInBounds 259 vS)
 sz:cs.size=260
 om:w.ownsRow B 3 1 vM Mm (ints dt)
 fr:bE w B 27 3 1 vF Mf fv (fun i=>(ey L i).length) (fun i=>cY (ey L i))
 st:bE w B 151 153 2 vS Ms sv (fun i=>(dk L i).length) xs
 sep:∀i,i<Mf->∀b,vM.ownBlock=some b->(fv i).ownBlock≠some b
 lo:B<=bn/\B<=w.heap.size
 hE:∀e∈L,e.f<Mf/\e.f<Ms/\e.t<Mf
 hx:∀i,Ms<=i->xs i=[]
theorem iA.ab(h:iA B bn Mm Mf Ms cs dt vM vF vS fv sv xs L w)(k:Below w.heap.size w w'):iA B bn Mm Mf Ms cs dt vM vF vS fv sv xs L w':=
 ⟨h.sn.ab k,h.sz,db h.om k,h.fr.ab k,h.st.ab k,h.sep,⟨h.lo.1,le_trans h.lo.2 k.size⟩,h.hE,h.hx⟩
def mR(bn Mf Ms:Nat)(vM vF vS:Value)(fv sv:Nat->Value)(x:Nat):Prop:=
 x=bn\/vM.ownBlock=some x\/vF.ownBlock=some x\/vS.ownBlock=some x\/(∃i,i<Mf/\(fv i).ownBlock=some x)\/∃i,i<Ms/\(sv i).ownBlock=some x
theorem iA.kept(h:iA B bn Mm Mf Ms cs dt vM vF vS fv sv xs L w)(k:Kept [] bs w w')(hs:w.heap.size<=w'.heap.size)(hd:∀x,mR bn Mf Ms vM vF vS fv sv x->x∉bs):iA B bn Mm Mf Ms cs dt vM vF vS fv sv xs L w':=
 ⟨h.sn.kept k (by simp) (hd _ (inl rfl)),h.sz,fI h.om k (by simp) (fun b e=>hd b (inr (inl e))),
  h.fr.kept k (fun b e=>hd b (inr (inr (inl e)))) (fun i hi b e=>hd b (inr (inr (inr (inr (inl ⟨i,hi,e⟩)))))),
  h.st.kept k (fun b e=>hd b (inr (inr (inr (inl e))))) (fun i hi b e=>hd b (inr (inr (inr (inr (inr ⟨i,hi,e⟩)))))),h.sep,⟨h.lo.1,le_trans h.lo.2 hs⟩,h.hE,h.hx⟩
theorem iA.lt(h:iA B bn Mm Mf Ms cs dt vM vF vS fv sv xs L w):∀x,mR bn Mf Ms vM vF vS fv sv x->B<=x/\x<w.heap.size:=by
 have own:∀{t s n:Nat}{v:Value}{xs:List Value},w.ownsRow B t s v n xs->∀g,v.ownBlock=some g->B<=g/\g<w.heap.size:=fun ho g e=>by
  obtain⟨c,fz,hc⟩:=qi ho g e;exact⟨kL ho g e,(Array.getElem?_eq_some_iff.1 hc).1⟩
 rintro x (rfl|e|e|e|⟨i,hi,e⟩|⟨i,hi,e⟩)
 ·exact⟨h.lo.1,h.sn.lt⟩
 ·exact own h.om _ e
 ·exact own h.fr.own _ e
 ·exact own h.st.own _ e
 ·exact own (h.fr.row i hi) _ e
 exact own (h.st.row i hi) _ e
theorem iA.cells(h:iA B bn Mm Mf Ms cs dt vM vF vS fv sv xs L w):
  w.cell? ⟨bn,257,none⟩=some vM/\w.cell? ⟨bn,258,none⟩=some vF/\w.cell? ⟨bn,259,none⟩=some vS:=by
 refine⟨?_,?_,?_⟩
 ·rw[h.sn.at_,getElem?_setIfInBounds_ne (by decide),getElem?_setIfInBounds_ne (by decide),Array.getElem?_setIfInBounds_self_of_lt (by rw[h.sz];decide)]
 ·rw[h.sn.at_,getElem?_setIfInBounds_ne (by decide),Array.getElem?_setIfInBounds_self_of_lt (by simp[h.sz])]
 rw[h.sn.at_,Array.getElem?_setIfInBounds_self_of_lt (by simp[h.sz])]
theorem zn5(cs:Array Value)(a b c d:Value):((((cs.setIfInBounds 257 a).setIfInBounds 258 b).setIfInBounds 259 c).setIfInBounds 257 d)=(((cs.setIfInBounds 257 d).setIfInBounds 258 b).setIfInBounds 259 c):=by
 rw[Array.setIfInBounds_comm c d (by decide),Array.setIfInBounds_comm b d (by decide),Array.setIfInBounds_setIfInBounds]
theorem zn6(cs:Array Value)(a b c d:Value):((((cs.setIfInBounds 257 a).setIfInBounds 258 b).setIfInBounds 259 c).setIfInBounds 258 d)=(((cs.setIfInBounds 257 a).setIfInBounds 258 d).setIfInBounds 259 c):=by
 rw[Array.setIfInBounds_comm c d (by decide),Array.setIfInBounds_setIfInBounds]
structure jk (B bn:Nat)(P P':Nat->Prop)(w w':World):Prop where
 kept:∃bs,Kept [] bs w w'/\∀x∈bs,P x\/w.heap.size<=x
 new:∀x,P' x->P x\/w.heap.size<=x
 below:Below B w w'
theorem jk.trans{P P' P2:Nat->Prop}{w2:World}(h:jk B bn P P' w w')(k:jk B bn P' P2 w' w2):jk B bn P P2 w w2:=by
 obtain⟨b1,h1,h2⟩:=h.kept;obtain⟨b2,k1,k2⟩:=k.kept;have hs:=h.below.size;refine⟨⟨b1++b2,(h1.mono (fun _ h=>h) (fun x hx=>List.mem_append.2 (inl hx))).trans (k1.mono (fun _ h=>h) (fun x hx=>List.mem_append.2 (inr hx))),fun x hx=>?_⟩,fun x hx=>?_,h.below.trans k.below⟩
 ·rcases List.mem_append.1 hx with hx|hx
  ·exact h2 x hx
  rcases k2 x hx with h3|h3
  ·exact h.new x h3
  exact inr (by omega)
 rcases k.new x hx with h3|h3
 ·exact h.new x h3
 exact inr (by omega)
theorem jk.ab{P:Nat->Prop}(k:Below w.heap.size w w')(hB:B<=w.heap.size):jk B bn P P w w':=
 ⟨⟨[],Kept.below (Kept.refl _ _ _) k,by simp⟩,fun x h=>inl h,k.mono hB⟩
theorem iA.Gx(h:iA B bn Mm Mf Ms cs dt vM vF vS fv sv xs L W)
  (ho:w5.ownsRow B 3 1 v' (Mm+1) (ints dt++[.int .i64 r])) (hg:W.grownBy w5 vM.ownBlock) (fx:v'.ownBlock=vM.ownBlock\/v'.ownBlock=some W.heap.size):
  iA B bn (Mm+1) Mf Ms cs (dt++[r]) v' vF vS fv sv xs L (w5.setCell ⟨bn,257,none⟩ v')/\jk B bn (mR bn Mf Ms vM vF vS fv sv) (mR bn Mf Ms v' vF vS fv sv) W (w5.setCell ⟨bn,257,none⟩ v'):=by
 have aq:=h.lt;have hk:Kept [] (bn :: vM.ownBlock.toList) W w5:=(Kept.refl _ _ _).grown hg (fun g e=>inl (by simp[e]));have fm:Kept [] (bn :: vM.ownBlock.toList) W (w5.setCell ⟨bn,257,none⟩ v'):=hk.setCell _ _ (inl (by simp));have hB:Below B W w5:=fL (Below.refl _ _) h.om h.lo.2 hg;have oc:=h.sn.ae h.om (by decide) hg;have hne:∀{t s n:Nat}{v:Value}{ys:List Value},W.ownsRow B t s v n ys->t≠109->(∀b,v.ownBlock=some b->vM.ownBlock≠some b)->∀b,v.ownBlock=some b->b∉bn :: vM.ownBlock.toList:=fun ho ht hn b e hm=>by
  rcases List.mem_cons.1 hm with rfl|hm
  ·exact eB ho h.sn ht _ e rfl
  exact hn b e (by simpa using hm)
 refine⟨⟨?_,h.sz,?_,h.fr.kept fm (hne h.fr.own (by decide) (fun b e1 e2=>iB h.fr.own h.om (by decide) b e1 e2)) (fun i hi=>hne (h.fr.row i hi) (by decide) (fun b e1 e2=>h.sep i hi b e2 e1)),
  h.st.kept fm (hne h.st.own (by decide) (fun b e1 e2=>iB h.st.own h.om (by decide) b e1 e2)) (fun i hi=>hne (h.st.row i hi) (by decide) (fun b e1 e2=>iB (h.st.row i hi) h.om (by decide) b e1 e2)),fun i hi b e1 e2=>?_,⟨h.lo.1,?_⟩,h.hE,h.hx⟩,
  ⟨⟨_,fm,fun x hx=>inl ?_⟩,fun x hx=>?_,hB.setCell (p:=⟨bn,257,none⟩) h.lo.1 v'⟩⟩
 ·have:=oc.set 257 v';rwa [zn5] at this
 ·rw[show ints (dt++[r])=ints dt++[.int .i64 r] by simp[ints]];exact jE ho oc (by decide) _ _
 ·rcases fx with h1|h1
  ·rw[h1] at e1;exact h.sep i hi b e1 e2
  rw[h1] at e1;injection e1 with e1;have:=(aq b (inr (inr (inr (inr (inl ⟨i,hi,e2⟩)))))).2;omega
 ·have:=hB.size;have:=h.lo.2;simp only[size_setCell];omega
 ·rcases List.mem_cons.1 hx with rfl|hx
  ·exact inl rfl
  exact inr (inl (by simpa using hx))
 rcases hx with e|e|e
 ·exact inl (inl e)
 ·rcases fx with h1|h1
  ·exact inl (inr (inl (by rw[<-h1];exact e)))
  rw[h1] at e;injection e with e;exact inr (by omega)
 exact inl (inr (inr e))
theorem ZA(h:∀e∈L,e.f<M)(hi:M<=i):ey L i=[]:=by
 unfold ey;rw[List.filter_eq_nil_iff.2 (fun e he=>by have:=h e he;have h2:¬e.f=i:=(by omega);simp[h2])];rfl
theorem ZT(h:∀e∈L,e.f<M)(hi:M<=i):dk L i=[]:=by
 unfold dk;exact List.filter_eq_nil_iff.2 (fun e he=>by have:=h e he;have h2:¬e.f=i:=(by omega);simp[h2])
theorem iA.JQ(h:iA B bn Mm Mf Ms cs dt vM vF vS fv sv xs L W)
  (ho:w5.ownsRow B 27 1 v' (Mf+1) ((range Mf).map fv++[.slice none 0 0])) (hg:W.grownBy w5 vF.ownBlock) (fx:v'.ownBlock=vF.ownBlock\/v'.ownBlock=some W.heap.size):
  iA B bn Mm (Mf+1) Ms cs dt vM v' vS (fun j=>if j=Mf then .slice none 0 0 else fv j) sv xs L (w5.setCell ⟨bn,258,none⟩ v')/\jk B bn (mR bn Mf Ms vM vF vS fv sv) (mR bn (Mf+1) Ms vM v' vS (fun j=>if j=Mf then .slice none 0 0 else fv j) sv) W (w5.setCell ⟨bn,258,none⟩ v'):=by
 have hk:Kept [] (bn :: vF.ownBlock.toList) W w5:=(Kept.refl _ _ _).grown hg (fun g e=>inl (by simp[e]));have fm:Kept [] (bn :: vF.ownBlock.toList) W (w5.setCell ⟨bn,258,none⟩ v'):=hk.setCell _ _ (inl (by simp));have hB:Below B W w5:=fL (Below.refl _ _) h.fr.own h.lo.2 hg;have oc:=h.sn.ae h.fr.own (by decide) hg;have hne:∀{t s n:Nat}{v:Value}{ys:List Value},W.ownsRow B t s v n ys->t≠109->t≠27->∀b,v.ownBlock=some b->b∉bn :: vF.ownBlock.toList:=fun ho ht hn b e hm=>by
  rcases List.mem_cons.1 hm with rfl|hm
  ·exact eB ho h.sn ht _ e rfl
  exact iB ho h.fr.own hn b e (by simpa using hm)
 have ov:=(h.fr.push (by decide) (by simp[ZA (fun e he=>(h.hE e he).1) (le_refl _)]) (by simp[ZA (fun e he=>(h.hE e he).1) (le_refl _),cY]) ho hg)
 refine⟨⟨?_,h.sz,fI h.om fm (by simp) (hne h.om (by decide) (by decide)),ov.kept (bs:=[bn]) ((Kept.refl _ _ _).setCell _ _ (inl (by simp))) (fun b e hm=>eB ov.own oc (by decide) b e (List.mem_singleton.1 hm)) (fun i hi b e hm=>eB (ov.row i hi) oc (by decide) b e (List.mem_singleton.1 hm)),
  h.st.kept fm (hne h.st.own (by decide) (by decide)) (fun i hi=>hne (h.st.row i hi) (by decide) (by decide)),fun i hi b e1 e2=>?_,⟨h.lo.1,?_⟩,fun e he=>⟨by have:=(h.hE e he).1;omega,(h.hE e he).2.1,by have:=(h.hE e he).2.2;omega⟩,h.hx⟩,
  ⟨⟨_,fm,fun x hx=>inl ?_⟩,fun x hx=>?_,hB.setCell (p:=⟨bn,258,none⟩) h.lo.1 v'⟩⟩
 ·have:=oc.set 258 v';rwa [zn6] at this
 ·by_cases e:i=Mf
  ·rw[if_pos e] at e2;simp[ownBlock] at e2
  rw[if_neg e] at e2;exact h.sep i (by omega) b e1 e2
 ·have:=hB.size;have:=h.lo.2;simp only[size_setCell];omega
 ·rcases List.mem_cons.1 hx with rfl|hx
  ·exact inl rfl
  exact inr (inr (inl (by simpa using hx)))
 rcases hx with e|e|e|e|⟨i,hi,e⟩|e
 ·exact inl (inl e)
 ·exact inl (inr (inl e))
 ·rcases fx with h1|h1
  ·exact inl (inr (inr (inl (by rw[<-h1];exact e))))
  rw[h1] at e;injection e with e;exact inr (by omega)
 ·exact inl (inr (inr (inr (inl e))))
 ·dsimp only at e;by_cases e1:i=Mf
  ·rw[if_pos e1] at e;simp[ownBlock] at e
  rw[if_neg e1] at e;exact inl (inr (inr (inr (inr (inl ⟨i,by omega,e⟩)))))
 exact inl (inr (inr (inr (inr (inr e)))))
theorem iA.ID(h:iA B bn Mm Mf Ms cs dt vM vF vS fv sv xs L W)
  (ho:w5.ownsRow B 151 1 v' (Ms+1) ((range Ms).map sv++[.slice none 0 0])) (hg:W.grownBy w5 vS.ownBlock) (fx:v'.ownBlock=vS.ownBlock\/v'.ownBlock=some W.heap.size):
  iA B bn Mm Mf (Ms+1) cs dt vM vF v' fv (fun j=>if j=Ms then .slice none 0 0 else sv j) xs L (w5.setCell ⟨bn,259,none⟩ v')/\jk B bn (mR bn Mf Ms vM vF vS fv sv) (mR bn Mf (Ms+1) vM vF v' fv (fun j=>if j=Ms then .slice none 0 0 else sv j)) W (w5.setCell ⟨bn,259,none⟩ v'):=by
 have hk:Kept [] (bn :: vS.ownBlock.toList) W w5:=(Kept.refl _ _ _).grown hg (fun g e=>inl (by simp[e]));have fm:Kept [] (bn :: vS.ownBlock.toList) W (w5.setCell ⟨bn,259,none⟩ v'):=hk.setCell _ _ (inl (by simp));have hB:Below B W w5:=fL (Below.refl _ _) h.st.own h.lo.2 hg;have oc:=h.sn.ae h.st.own (by decide) hg;have hne:∀{t s n:Nat}{v:Value}{ys:List Value},W.ownsRow B t s v n ys->t≠109->t≠151->∀b,v.ownBlock=some b->b∉bn :: vS.ownBlock.toList:=fun ho ht hn b e hm=>by
  rcases List.mem_cons.1 hm with rfl|hm
  ·exact eB ho h.sn ht _ e rfl
  exact iB ho h.st.own hn b e (by simpa using hm)
 have ov:=(h.st.push (by decide) (by simp[ZT (fun e he=>(h.hE e he).2.1) (le_refl _)]) (h.hx _ (le_refl _)) ho hg)
 refine⟨⟨?_,h.sz,fI h.om fm (by simp) (hne h.om (by decide) (by decide)),h.fr.kept fm (hne h.fr.own (by decide) (by decide)) (fun i hi=>hne (h.fr.row i hi) (by decide) (by decide)),
  ov.kept (bs:=[bn]) ((Kept.refl _ _ _).setCell _ _ (inl (by simp))) (fun b e hm=>eB ov.own oc (by decide) b e (List.mem_singleton.1 hm)) (fun i hi b e hm=>eB (ov.row i hi) oc (by decide) b e (List.mem_singleton.1 hm)),h.sep,⟨h.lo.1,?_⟩,fun e he=>⟨(h.hE e he).1,by have:=(h.hE e he).2.1;omega,(h.hE e he).2.2⟩,fun i hi=>h.hx i (by omega)⟩,
  ⟨⟨_,fm,fun x hx=>inl ?_⟩,fun x hx=>?_,hB.setCell (p:=⟨bn,259,none⟩) h.lo.1 v'⟩⟩
 ·have:=oc.set 259 v';rwa [Array.setIfInBounds_setIfInBounds] at this
 ·have:=hB.size;have:=h.lo.2;simp only[size_setCell];omega
 ·rcases List.mem_cons.1 hx with rfl|hx
  ·exact inl rfl
  exact inr (inr (inr (inl (by simpa using hx))))
 rcases hx with e|e|e|e|e|⟨i,hi,e⟩
 ·exact inl (inl e)
 ·exact inl (inr (inl e))
 ·exact inl (inr (inr (inl e)))
 ·rcases fx with h1|h1
  ·exact inl (inr (inr (inr (inl (by rw[<-h1];exact e)))))
  rw[h1] at e;injection e with e;exact inr (by omega)
 ·exact inl (inr (inr (inr (inr (inl e)))))
 dsimp only at e;by_cases e1:i=Ms
 ·rw[if_pos e1] at e;simp[ownBlock] at e
 rw[if_neg e1] at e;exact inl (inr (inr (inr (inr (inr ⟨i,by omega,e⟩)))))
theorem vg:(prog.info? 151).map (fun i=>(i.zero,i.size,i.bytes))=some (some (.slice none 0 0),1,24):=by kernel_rfl
def zrj(B bn M:Nat)(cs:Array Value)(dt:List Int)(vM vF vS:Value)(fv sv:Nat->Value)(xs:Nat->List Value)(L:List En)(r:Int)(w:World)(e:Ending)(w':World):Prop:=
 ∃qY qQ vS',e=.returned (.int .i64 (M:Int))/\iA B bn (M+1) (M+1) (M+1) cs (dt++[r]) qY qQ vS' (fun j=>if j=M then .slice none 0 0 else fv j) (fun j=>if j=M then .slice none 0 0 else sv j) xs L w'/\
  jk B bn (mR bn M M vM vF vS fv sv) (mR bn (M+1) (M+1) qY qQ vS' (fun j=>if j=M then .slice none 0 0 else fv j) (fun j=>if j=M then .slice none 0 0 else sv j)) w w'
theorem zn7(B bn M:Nat)(cs:Array Value)(dt:List Int)(vM vF vS:Value)(fv sv:Nat->Value)(xs:Nat->List Value)(L:List En)(w:World)(h:iA B bn M M M cs dt vM vF vS fv sv xs L w)(hM:M<=100000)(r:Int):
  Calls prog 103 #[.pointer (some ⟨bn,0,none⟩),.int .i64 r] w (zrj B bn M cs dt vM vF vS fv sv xs L r w):=by
 obtain⟨aM,cM,rfl⟩:=bP h.om;obtain⟨aF,cF,rfl⟩:=bP h.fr.own;obtain⟨aS,cS,rfl⟩:=bP h.st.own;obtain⟨c0,_,_⟩:=h.cells;have hO:=h.om;have hB:=h.lo.2;have H:=hid h;obtain⟨i0,hi,dv,cP,cG⟩:=info_parts aG;obtain⟨i1,hj,Jl,xe,nc⟩:=info_parts eI;obtain⟨i2,hk,nU,BA,lE⟩:=info_parts vg;clear h;go_in;go_wp2_with (at_builtin;refine wpList_append_own_at _ rfl _ _ 27 rfl B 3 i0 (.int .i64 0) 1 8 underlying27 hi dv cP cG rfl (by decide) _ _ _ rfl (hO.alloc _) ⟨w.heap.size,0,none⟩ 1 1 [.int .i64 r] rfl rfl (cell_one_new _ _ _) ?d2 ?d3 ?d4 ?d5 ?_)
 case d2=>intro u hu;simp at hu;subst hu;rfl
 case d3=>unfold maxLen;omega
 case d4=>omega
 case d5=>simp;omega
 intro v' w5 ah ag _ bJ;obtain⟨a5,c5,rfl⟩:=bP ah;have h1:=H.out.ab (al w (.cells #[.int .i64 r] 3));have F1:=jk.ab (B:=B) (bn:=bn) (P:=mR bn M M (.slice aM M cM) (.slice aF M cF) (.slice aS M cS) fv sv) (al w (.cells #[.int .i64 r] 3)) hB;obtain⟨h2,F2⟩:=h1.Gx ah ag (by simpa using bJ);have H2:=ζ h2 (F1.trans F2);have jv:St w5 109 bn _:=h1.sn.ae h1.om (by decide) ag;have p1:w5.cell? ⟨bn,257,none⟩=some (.slice aM M cM):=by
  rw[jv.at_,<-h1.sn.at_];exact h1.cells.1
 have p2:=jv.bb 257;clear ah ag bJ h1 F1 h2 F2 jv c0 hO;go_upto_region 2 with fail;generalize w5.setCell ⟨bn,257,none⟩ (.slice a5 (M+1) c5)=W2 at H2⊢;clear p1 p2;obtain⟨_,c0,_⟩:=H2.out.1.cells;have hO:=H2.out.1.fr.own;have mX:=H2.out.1.lo.2;go_wp2_with (at_builtin;refine wpList_append_own_at _ rfl _ _ 26 rfl B 27 i1 (.slice none 0 0) 1 24 underlying26 hj Jl xe nc rfl (by decide) _ _ _ rfl (hO.alloc _) ⟨W2.heap.size,0,none⟩ 1 1 [.slice none 0 0] rfl rfl (cell_one_new _ _ _) ?d2 ?d3 ?d4 ?d5 ?_)
 case d2=>intro u hu;simp at hu;subst hu;rfl
 case d3=>unfold maxLen;omega
 case d4=>omega
 case d5=>simp;omega
 intro v' w6 ah ag _ bJ;obtain⟨a6,c6,rfl⟩:=bP ah;have h1:=H2.out.1.ab (al W2 (.cells #[.slice none 0 0] 27));have F1:=H2.out.2.trans (jk.ab (al W2 (.cells #[.slice none 0 0] 27)) mX);obtain⟨h2,F2⟩:=h1.JQ ah ag (by simpa using bJ);have H3:=ζ h2 (F1.trans F2);have jv:St w6 109 bn _:=h1.sn.ae h1.fr.own (by decide) ag;have p1:w6.cell? ⟨bn,258,none⟩=some (.slice aF M cF):=by
  rw[jv.at_,<-h1.sn.at_];exact h1.cells.2.1
 have p2:=jv.bb 258;clear ah ag bJ h1 F1 h2 F2 jv c0 hO mX H2;go_upto_region 3 with fail;generalize w6.setCell ⟨bn,258,none⟩ (.slice a6 (M+1) c6)=W3 at H3⊢;clear p1 p2;obtain⟨_,_,c0⟩:=H3.out.1.cells;have hO:=H3.out.1.st.own;have mX:=H3.out.1.lo.2;go_wp2_with (at_builtin;refine wpList_append_own_at _ rfl _ _ 107 rfl B 151 i2 (.slice none 0 0) 1 24 underlying107 hk nU BA lE rfl (by decide) _ _ _ rfl (hO.alloc _) ⟨W3.heap.size,0,none⟩ 1 1 [.slice none 0 0] rfl rfl (cell_one_new _ _ _) ?d2 ?d3 ?d4 ?d5 ?_)
 case d2=>intro u hu;simp at hu;subst hu;rfl
 case d3=>unfold maxLen;omega
 case d4=>omega
 case d5=>simp;omega
 intro v' w7 ah ag _ bJ;obtain⟨a7,c7,rfl⟩:=bP ah;have h1:=H3.out.1.ab (al W3 (.cells #[.slice none 0 0] 151));have F1:=H3.out.2.trans (jk.ab (al W3 (.cells #[.slice none 0 0] 151)) mX);obtain⟨h2,F2⟩:=h1.ID ah ag (by simpa using bJ);have H4:=ζ h2 (F1.trans F2);have jv:St w7 109 bn _:=h1.sn.ae h1.st.own (by decide) ag;have p1:w7.cell? ⟨bn,259,none⟩=some (.slice aS M cS):=by
  rw[jv.at_,<-h1.sn.at_];exact h1.cells.2.2
 have p2:=jv.bb 259;clear ah ag bJ h1 F1 h2 F2 jv c0 hO mX H3;go_upto_region 4 with fail;generalize w7.setCell ⟨bn,259,none⟩ (.slice a7 (M+1) c7)=W4 at H4⊢;clear p1 p2;obtain⟨c0,_,_⟩:=H4.out.1.cells;go_wp2;go_ret;exact⟨_,_,_,rfl,H4.out.1,H4.out.2⟩
theorem jk.st{P P':Nat->Prop}(F:jk B bn P P' w w')(h:St w t g cs)(hn:¬P g):St w' t g cs:=by
 obtain⟨bs,k,h2⟩:=F.kept;exact h.kept k (by simp) (fun hm=>by rcases h2 g hm with h3|h3;exact hn h3;have:=h.lt;omega)
theorem jk.map{b:Nat}{P P':Nat->Prop}{Q:Value->Value->Prop}(F:jk B bn P P' w w')(h:aO w t b n Q)(hn:¬P b):aO w' t b n Q:=by
 obtain⟨bs,k,h2⟩:=F.kept;exact h.kept k (fun hm=>by rcases h2 b hm with h3|h3;exact hn h3;have:=h.lt;omega)
theorem jk.own{B' s:Nat}{P P':Nat->Prop}{xs:List Value}(F:jk B bn P P' w w')(h:w.ownsRow B' t s v n xs)(hn:∀g,v.ownBlock=some g->¬P g):w'.ownsRow B' t s v n xs:=by
 obtain⟨bs,k,h2⟩:=F.kept;exact fI h k (by simp) (fun g e hm=>by
  rcases h2 g hm with h3|h3
  ·exact hn g e h3
  ·obtain⟨c,fz,hc⟩:=qi h g e
   have:=(Array.getElem?_eq_some_iff.1 hc).1;omega)
theorem jk.Fy{P P':Nat->Prop}(F:jk B bn P P' w w')(h:0<l.length->∃g off,a=some ⟨g,off,none⟩/\g<w.heap.size/\¬P g/\∀j (h:j<l.length),w.cell? ⟨g,off+j,none⟩=some (.int .i64 ((l[j]:Nat):Int))):
  0<l.length->∃g off,a=some ⟨g,off,none⟩/\g<w'.heap.size/\¬P' g/\∀j (h:j<l.length),w'.cell? ⟨g,off+j,none⟩=some (.int .i64 ((l[j]:Nat):Int)):=by
 intro h0;obtain⟨g,off,e,hg,hn,hc⟩:=h h0;obtain⟨bs,k,h2⟩:=F.kept;have cU:g∉bs:=fun hm=>by rcases h2 g hm with h|h;exact hn h;omega
 refine⟨g,off,e,lt_of_lt_of_le hg F.below.size,fun hm=>?_,fun j hj=>?_⟩
 ·rcases F.new g hm with h|h
  ·exact hn h
  omega
 rw[k.nE cU hg];exact hc j hj
theorem jk.more{P P':Nat->Prop}(F:jk B bn P P' w w')(Z:Nat->Prop):jk B bn (fun x=>Z x\/P x) (fun x=>Z x\/P' x) w w':=by
 obtain⟨bs,k,h2⟩:=F.kept;exact⟨⟨bs,k,fun x hx=>(h2 x hx).elim (fun h=>inl (inr h)) inr⟩,fun x hx=>hx.elim (fun h=>inl (inl h)) (fun h=>(F.new x h).elim (fun h=>inl (inr h)) inr),F.below⟩
theorem iA.pw(h:iA B bn Mm Mf Ms cs dt vM vF vS fv sv xs L w)(hs:St w t g iJ)
  (h1:t≠109) (h2:t≠3) (h3:t≠27) (h4:t≠151) (h5:t≠153):¬mR bn Mf Ms vM vF vS fv sv g:=by
 rintro (e|e|e|e|⟨i,hi,e⟩|⟨i,hi,e⟩)
 ·exact hs.ne h.sn h1 e
 ·exact eB h.om hs (fun e=>h2 e.symm) g e rfl
 ·exact eB h.fr.own hs (fun e=>h3 e.symm) g e rfl
 ·exact eB h.st.own hs (fun e=>h4 e.symm) g e rfl
 ·exact eB (h.fr.row i hi) hs (fun e=>h2 e.symm) g e rfl
 exact eB (h.st.row i hi) hs (fun e=>h5 e.symm) g e rfl
theorem iA.l5{b:Nat}{Q:Value->Value->Prop}(h:iA B bn Mm Mf Ms cs dt vM vF vS fv sv xs L w)(hm:aO w k b n Q):¬mR bn Mf Ms vM vF vS fv sv b:=by
 rintro (e|e|e|e|⟨i,hi,e⟩|⟨i,hi,e⟩)
 ·exact AW hm h.sn e.symm
 ·exact xK hm h.om b e rfl
 ·exact xK hm h.fr.own b e rfl
 ·exact xK hm h.st.own b e rfl
 ·exact xK hm (h.fr.row i hi) b e rfl
 exact xK hm (h.st.row i hi) b e rfl
theorem iA.ee{b:Nat}{Q:Value->Value->Prop}(h:iA B bn Mm Mf Ms cs dt vM vF vS fv sv xs L w)(hm:aO w k b n Q)(hg:w.grownBy w1 (some b))(hb:B<=b):
  iA B bn Mm Mf Ms cs dt vM vF vS fv sv xs L w1/\jk B bn (fun x=>x=b\/mR bn Mf Ms vM vF vS fv sv x) (fun x=>x=b\/mR bn Mf Ms vM vF vS fv sv x) w w1:=by
 have hk:Kept [] [b] w w1:=(Kept.refl _ _ _).grown hg (fun g e=>by injection e with e;exact inl (by simp[<-e]));have hB:Below B w w1:=(Below.refl _ _).grown hg h.lo.2 (fun g e=>by injection e with e;rw[<-e];exact hb);exact⟨h.kept hk hB.size (fun x hx lE=>h.l5 hm (by rw[<-List.mem_singleton.1 lE];exact hx)),⟨⟨[b],hk,fun x hx=>inl (inl (List.mem_singleton.1 hx))⟩,fun x hx=>inl hx,hB⟩⟩
structure tP (V:World)(B bn b3 b5 b6 bM:Nat)(fn:Value)(mf:Nat->Int)(nm:List Nat)(cs:Array Value)(vM vF vS:Value)(fv sv:Nat->Value)(xs:Nat->List Value)(L:List En)(w:World):Prop where
 n:iA B bn nm.length nm.length nm.length cs (nm.map mf) vM vF vS fv sv xs L w
 sM:St w 147 b6 #[.map (some bM)]
 sT:St w 104 b5 #[.pointer (some ⟨bn,0,none⟩)]
 sF:St w 76 b3 #[fn]
 map:aO w 3 bM nm.length (Ak nm)
 nd:nm.Nodup
 le:∀x∈nm,x<=9223372036854775807
 bM:B<=bM
 aP:Below B V w
def Av(bM bn M:Nat)(vM vF vS:Value)(fv sv:Nat->Value)(x:Nat):Prop:=x=bM\/mR bn M M vM vF vS fv sv x
theorem tP.ab(h:tP V B bn b3 b5 b6 bM fn mf nm cs vM vF vS fv sv xs L w)(k:Below w.heap.size w w'):tP V B bn b3 b5 b6 bM fn mf nm cs vM vF vS fv sv xs L w':=
 ⟨h.n.ab k,h.sM.ab k,h.sT.ab k,h.sF.ab k,h.map.same (k.block _ h.map.lt),h.nd,h.le,h.bM,h.aP.trans (k.mono h.n.lo.2)⟩
def Wt(V:World)(B bn b3 b5 b6 bM:Nat)(fn:Value)(mf:Nat->Int)(nm:List Nat)(cs:Array Value)(vM vF vS:Value)(fv sv:Nat->Value)(xs:Nat->List Value)(L:List En)(s:Nat)(w:World)(e:Ending)(w':World):Prop:=
 ∃(k:Nat) (kX:List Nat) (qY qQ vS':Value) (vU vV:Nat->Value),e=.returned (.int .i64 (k:Int))/\tP V B bn b3 b5 b6 bM fn mf kX cs qY qQ vS' vU vV xs L w'/\kX[k]?=some s/\(kX=nm\/kX=nm++[s])/\
  jk B bn (Av bM bn nm.length vM vF vS fv sv) (Av bM bn kX.length qY qQ vS' vU vV) w w'
theorem zfj:(∀(args:Array Value) (W:World),(callFunc 38 args).run prog W=.ok (.enter 38 args) W)/\∀(args:Array Value) (W:World),(callFunc 49 args).run prog W=.ok (.enter 49 args) W:=⟨fun _ _=>by rfl,fun _ _=>by rfl⟩
theorem Sa(V:World)(B bn b3 b5 b6 bM kf bV:Nat)(mf:Nat->Int)(nm:List Nat)(cs:Array Value)(vM vF vS:Value)(fv sv:Nat->Value)(xs:Nat->List Value)(L:List En)(w:World)(HC:∀(args:Array Value) (W:World),(callFunc kf args).run prog W=.ok (.enter kf args) W)
  (HM:∀W,Below B V W->∀x,x<=9223372036854775807->Calls prog kf #[.int .i64 ((x:Nat):Int),.pointer (some ⟨bV,0,none⟩)] W fun e w'=>e=.returned (.int .i64 (mf x))/\w'=W)
  (h:tP V B bn b3 b5 b6 bM (.func (.func kf) #[] #[.pointer (some ⟨bV,0,none⟩)]) mf nm cs vM vF vS fv sv xs L w) (hlen:nm.length<=90000) (s:Nat) (hs:s<=9223372036854775807):
  Calls prog 102 #[.int .i64 (s:Int),.pointer (some ⟨b6,0,none⟩),.pointer (some ⟨b5,0,none⟩),.pointer (some ⟨b3,0,none⟩)] w (Wt V B bn b3 b5 b6 bM (.func (.func kf) #[] #[.pointer (some ⟨bV,0,none⟩)]) mf nm cs vM vF vS fv sv xs L s w):=by
 have m0:w.cell? ⟨b6,0,none⟩=some (.map (some bM)):=h.sM.at_ 0;have m1:w.drew.cell? ⟨b5,0,none⟩=some (.pointer (some ⟨bn,0,none⟩)):=h.sT.at_ 0;have m2:w.drew.cell? ⟨b3,0,none⟩=some (.func (.func kf) #[] #[.pointer (some ⟨bV,0,none⟩)]):=h.sF.at_ 0;have H:=hid h;rcases h.map.nH zc underlying147 (MI w) (Cc s hs) with ⟨cy,gm⟩|⟨v,⟨k,s',h1,h2,rfl⟩,cy⟩
 rotate_left
 ·obtain rfl:s=s':=JP h2;have HK:=hid h1;clear h h1 h2;go_in;go_wp2;go_ret;exact⟨k,nm,_,_,_,_,_,rfl,H.out,HK.out,inl rfl,⟨⟨[],Kept.refl _ _ _,by simp⟩,fun x h=>inl h,Below.refl _ _⟩⟩
 have ox:=hid gm;have hd:Below w.heap.size w w.drew:=(Below.refl _ _).drew;have Hd:=hid (h.ab hd);have uv:=hid (HM w.drew Hd.out.aP s hs);have yL:=hid (zn7 B bn nm.length cs (nm.map mf) vM vF vS fv sv xs L w.drew Hd.out.n (by omega) (mf s));clear h gm hd HM;obtain⟨r,hr⟩:∃r,mf s=r:=⟨_,rfl⟩
 have HR:=hid hr;rw[hr] at uv yL;clear hr;go_in;go_wp2_with fail
 go_region_with (first
  | (with_reducible refine Calls.mono uv.out ?_;rintro e w2 ⟨rfl,rfl⟩)
  | (go_at_call 103;refine yL.out.mono ?_;rintro e w2 ⟨qY,qQ,vS',rfl,BX,vT⟩;have kD:=ζ BX vT;clear BX vT))
 all_goals
  have F2:=kD.out.2
  have O8:=F2.st Hd.out.sM (Hd.out.n.pw Hd.out.sM (by decide) (by decide) (by decide) (by decide) (by decide))
  have sT2:=F2.st Hd.out.sT (Hd.out.n.pw Hd.out.sT (by decide) (by decide) (by decide) (by decide) (by decide))
  have Xk:=F2.st Hd.out.sF (Hd.out.n.pw Hd.out.sF (by decide) (by decide) (by decide) (by decide) (by decide))
  have vu:=F2.map Hd.out.map (Hd.out.n.l5 Hd.out.map)
  have oc:s∉nm:=fun hm=>by
   obtain⟨k,hk,e⟩:=List.getElem_of_mem hm;exact ox.out (.int .i64 (k:Int)) ⟨k,s,by rw[List.getElem?_eq_getElem hk,e],rfl,rfl⟩
  obtain⟨w3,wF,VN,FV⟩:=vu.update (Q':=Ak (nm++[s])) (val:=.int .i64 (nm.length:Int)) zc underlying147 (by unfold maxLen;omega) (Cc s hs) ox.out
   (fun x y ⟨k,t,h1,h2,h3⟩=>⟨k,t,by rw[getElem?_append_left (List.getElem?_eq_some_iff.1 h1).1];exact h1,h2,h3⟩) ⟨nm.length,s,by simp,rfl,rfl⟩
   (fun x y ⟨k,t,h1,h2,h3⟩ hne=>by
    by_cases hk:k<nm.length
    ·rw[getElem?_append_left hk] at h1
     exact⟨_,k,t,h1,h2,rfl⟩
    ·have fm:k=nm.length:=by have:=(List.getElem?_eq_some_iff.1 h1).1;simp at this;omega
     subst fm
     simp at h1
     exact absurd (by rw[h2,h1]) hne)
  have m3:w2.cell? ⟨b6,0,none⟩=some (.map (some bM)):=O8.at_ 0
  obtain⟨n3,F3⟩:=kD.out.1.ee vu FV Hd.out.bM
  have kh:(nm++[s]).length=nm.length+1:=by simp
  have HF:Hid (Wt V B bn b3 b5 b6 bM (.func (.func kf) #[] #[.pointer (some ⟨bV,0,none⟩)]) mf nm cs vM vF vS fv sv xs L s w (.returned (.int .i64 (nm.length:Int))) w3):=by
   refine⟨nm.length,nm++[s],qY,qQ,vS',(fun j=>if j=nm.length then .slice none 0 0 else fv j),(fun j=>if j=nm.length then .slice none 0 0 else sv j),rfl,⟨?_,O8.ee vu.of FV,sT2.ee vu.of FV,Xk.ee vu.of FV,?_,?_,?_,Hd.out.bM,(Hd.out.aP.trans F2.below).trans F3.below⟩,by simp,inr rfl,?_⟩
   ·rw[kh,map_append,List.map_singleton,HR.out];exact n3
   ·rw[kh];exact VN
   ·refine List.nodup_append.2 ⟨H.out.nd,by simp,fun a ha b hb e=>?_⟩;rw[List.mem_singleton.1 hb] at e;exact oc (e ▸ ha)
   ·intro x hx;rcases List.mem_append.1 hx with hx|hx
    ·exact H.out.le x hx
    rw[List.mem_singleton.1 hx];exact hs
   rw[kh];exact ((jk.ab (bn:=bn) (P:=Av bM bn nm.length vM vF vS fv sv) (show Below w.heap.size w w.drew from (Below.refl _ _).drew) H.out.n.lo.2).trans (F2.more (fun x=>x=bM))).trans F3
  clear F2 O8 sT2 Xk vu VN FV n3 F3 kh oc
  go_wp2
  go_ret
  exact HF.out
theorem zme:(match prog.underlying 89 with|some (.array _ _)|some (.struct _)=>true|_=>false)=true:=by kernel_rfl
theorem Wv:Keyed prog 89:=Keyed.of_law (deep_law_laid laidOut (m:=2) (by omega) (of_decide_eq_true (by kernel_rfl)) (by kernel_rfl) zme)
theorem NW(d:Nat)(n:Int)(h:(Lit.int .u64 n).wf=true):prog.keyLits (d+1) 87 [.int .u64 n]=some [.int .u64 n]:=by
 simp[Program.keyLits,underlying87,h]
theorem zky:prog.cellsOf 87=1:=by kernel_rfl
theorem Wk:prog.cellsOf 89=4:=by kernel_rfl
theorem zn8(a0 a1 a2 a3:Int)(h0:(Lit.int .u64 a0).wf=true)(h1:(Lit.int .u64 a1).wf=true)(h2:(Lit.int .u64 a2).wf=true)(h3:(Lit.int .u64 a3).wf=true):
  ∃kl,keyOf prog 89 (.agg #[.int .u64 a0,.int .u64 a1,.int .u64 a2,.int .u64 a3])=some kl:=by
 have hT:prog.keyType 89=true:=by kernel_rfl
 have hs:∃d,prog.types.size+1=d+2:=⟨prog.types.size-1,by have:4<=prog.types.size:=of_decide_eq_true (by kernel_rfl);omega⟩
 obtain⟨d,hd⟩:=hs;have hl:prog.keyLits (d+2) 89 [.int .u64 a0,.int .u64 a1,.int .u64 a2,.int .u64 a3]=some [.int .u64 a0,.int .u64 a1,.int .u64 a2,.int .u64 a3]:=by
  conv=>lhs;unfold Program.keyLits
  simp[underlying89,Wk,zky,List.range_succ,NW d a0 h0,NW d a1 h1,NW d a2 h2,NW d a3 h3]
 have hf:(Value.agg #[.int .u64 a0,.int .u64 a1,.int .u64 a2,.int .u64 a3]).formed prog 89=true:=by
  simp[Value.formed,underlying89,Wk]
 refine⟨.string (keyBytes [.int .u64 a0,.int .u64 a1,.int .u64 a2,.int .u64 a3]),?_⟩;unfold keyOf;simp only[underlying89,hT,hf,Bool.and_self,if_true,hd,Value.cells,hl,Option.map_some]
theorem zil(p:Nat->Bool):∃kl,keyOf prog 89 (.agg #[.int .u64 (wd p 0),.int .u64 (wd p 1),.int .u64 (wd p 2),.int .u64 (wd p 3)])=some kl:=
 zn8 _ _ _ _ (NA _ (tY p 0)) (NA _ (tY p 1)) (NA _ (tY p 2)) (NA _ (tY p 3))
theorem Wg(w:World):(zeroValue 27).run prog w=.ok (.slice none 0 0) w:=by kernel_rfl
def qZ(lr:List Nat)(p:Nat->Bool):List Nat:=de (fun c=>p (lr.getD c 0)) lr.length
theorem zmf(hl:∀x∈lr,x<256){p q:Nat->Bool}(h:∀b,b<256->p b=q b):qZ lr p=qZ lr q:=by
 unfold qZ de;refine List.filter_congr fun c hc=>?_
 have fB:c<lr.length:=by simpa using hc
 have:lr.getD c 0=lr[c]:=by simp[getD,fB]
 rw[this];exact h _ (hl _ (getElem_mem fB))
def KC(w:World)(P:Nat->Prop)(a:Option Addr)(l:List Nat):Prop:=0<l.length->∃g off,a=some ⟨g,off,none⟩/\g<w.heap.size/\¬P g/\∀j (h:j<l.length),w.cell? ⟨g,off+j,none⟩=some (.int .i64 ((l[j]:Nat):Int))
def LQ(lr:List Nat)(DL:List ((Nat->Bool) × Option Addr × Nat))(x y:Value):Prop:=∃d∈DL,x=(.agg #[.int .u64 (wd d.1 0),.int .u64 (wd d.1 1),.int .u64 (wd d.1 2),.int .u64 (wd d.1 3)])/\y=.slice d.2.1 (qZ lr d.1).length d.2.2
structure wv (B b7 b8 bL n:Nat)(lr:List Nat)(aR:Option Addr)(cR:Nat)(P:Nat->Prop)(DL:List ((Nat->Bool) × Option Addr × Nat))(w:World):Prop where
 s7:St w 112 b7 #[.slice aR lr.length cR]
 s8:St w 184 b8 #[.map (some bL)]
 row:w.ownsRow B 5 1 (.slice aR lr.length cR) lr.length (mm lr)
 map:aO w 89 bL n (LQ lr DL)
 at_:∀d∈DL,KC w P d.2.1 (qZ lr d.1)
 lo:B<=bL/\B<=w.heap.size
 lr:∀x∈lr,x<256
theorem wv.ab{P:Nat->Prop}(h:wv B b7 b8 bL n lr aR cR P DL w)(k:Below w.heap.size w w'):wv B b7 b8 bL n lr aR cR P DL w':=
 ⟨h.s7.ab k,h.s8.ab k,db h.row k,h.map.same (k.block _ h.map.lt),fun d hd h0=>by
  obtain⟨g,off,e,hg,hn,hc⟩:=h.at_ d hd h0
  exact⟨g,off,e,lt_of_lt_of_le hg k.size,hn,fun j hj=>(k.cell (p:=⟨g,off+j,none⟩) hg).trans (hc j hj)⟩,⟨h.lo.1,le_trans h.lo.2 k.size⟩,h.lr⟩
def O1(B bn b7 b8 bL n:Nat)(lr:List Nat)(aR:Option Addr)(cR:Nat)(P:Nat->Prop)(DL:List ((Nat->Bool) × Option Addr × Nat))(p:Nat->Bool)(w:World)(e:Ending)(w':World):Prop:=
 ∃(a:Option Addr) (c:Nat) (LC:List ((Nat->Bool) × Option Addr × Nat)),e=.returned (.slice a (qZ lr p).length c)/\wv B b7 b8 bL (n+1) lr aR cR P LC w'/\KC w' P a (qZ lr p)/\(∃bs,Kept [] bs w w'/\∀x∈bs,x=bL)/\Below B w w'
theorem zn9(B bn b7 b8 bL n:Nat)(lr:List Nat)(aR:Option Addr)(cR:Nat)(P:Nat->Prop)(DL:List ((Nat->Bool) × Option Addr × Nat))(w:World)(h:wv B b7 b8 bL n lr aR cR P DL w)(hP:∀x,P x->x<w.heap.size)(hn:n<=100000)(J4:lr.length<=256)(p:Nat->Bool):
  Calls prog 134 #[(.agg #[.int .u64 (wd p 0),.int .u64 (wd p 1),.int .u64 (wd p 2),.int .u64 (wd p 3)]),.pointer (some ⟨b8,0,none⟩),.pointer (some ⟨b7,0,none⟩)] w (O1 B bn b7 b8 bL n lr aR cR P DL p w):=by
 obtain⟨kl,hkl⟩:=zil p;obtain⟨W,hW⟩:∃W,w.alloc (.cells #[.int .u64 (wd p 0),.int .u64 (wd p 1),.int .u64 (wd p 2),.int .u64 (wd p 3)] 89)=W:=⟨_,rfl⟩
 have px:Below w.heap.size w W:=by rw[<-hW];exact al w _
 have h1:=h.ab px;have MK:St W 89 w.heap.size #[.int .u64 (wd p 0),.int .u64 (wd p 1),.int .u64 (wd p 2),.int .u64 (wd p 3)]:=by rw[<-hW];exact St.new _ _ _
 have m0:W.cell? ⟨b8,0,none⟩=some (.map (some bL)):=h1.s8.at_ 0;obtain⟨t0,t1,t2,t3⟩:=bQ MK;have H:=hid h;have HP:=hid hP;have H1:=hid h1;have HK:=ξ px MK hkl;have dc:=px.size;have hS:=hid h.lo.2;rcases h1.map.nH Wv underlying184 (Wg W) hkl with ⟨cy,gm⟩|⟨v,⟨d,hd,ZY,rfl⟩,cy⟩
 rotate_left
 ·have HD:=ζ hd ZY;have HF:Hid (O1 B bn b7 b8 bL n lr aR cR P DL p w (.returned (.slice d.2.1 (qZ lr d.1).length d.2.2)) W):=by
   have e:qZ lr p=qZ lr d.1:=zmf H.out.lr (by
    have:=HD.out.2
    simp only[Value.agg.injEq,Array.mk.injEq,List.cons.injEq,Value.int.injEq,Int.ofNat_inj,true_and,and_true] at this
    exact (zoK p d.1).1 ⟨this.1,this.2.1,this.2.2.1,this.2.2.2⟩)
   refine⟨d.2.1,d.2.2,DL,by rw[e],⟨H1.out.s7,H1.out.s8,H1.out.row,H1.out.map.more (by omega),H1.out.at_,H1.out.lo,H1.out.lr⟩,by rw[e];exact H1.out.at_ d HD.out.1,⟨[],Kept.below (Kept.refl _ _ _) HK.out.1,by simp⟩,HK.out.1.mono hS.out⟩
  clear h h1 hP px MK hd ZY hkl;go_in;go_upto_region 1 with fail
  try rw[hW]
  go_wp2;go_ret;exact HF.out
 have ox:=hid gm;have c7:W.cell? ⟨b7,0,none⟩=some (.slice aR lr.length cR):=h1.s7.at_ 0;clear h h1 hP px MK hkl gm;go_in;go_upto_region 1 with fail
 try rw[hW]
 obtain⟨q,hq⟩:∃q,lr.length=q:=⟨_,rfl⟩
 have HQ:=hid hq;rw[hq] at c7 J4;obtain⟨i0,hi,dv,cP,cG⟩:=info_parts aG;clear hq;go_wp2;go_loopw [5,7,8,19] (fun v _ _ x wr=>∃(k m:Nat) (a:Option Addr) (c:Nat),x=.int .i64 k/\k<=q/\m<=256/\v=.slice a m c/\Hid ((de (fun c=>p (lr.getD c 0)) k).length=m/\wr.ownsRow W.heap.size 3 1 (.slice a m c) m (cY (de (fun c=>p (lr.getD c 0)) k))/\Below W.heap.size W wr)) (fun _ _ _ x _=>q-(intOf x).toNat)
 ·exact⟨0,0,none,0,rfl,zero_le _,zero_le _,rfl,rfl,ownsRow_nil _ _ _ _,Below.refl _ _⟩
 obtain⟨k,m,a,c,rfl,hk,hm,rfl,HA⟩:=hrel;by_cases aq:k<q
 ·have hkl:k<lr.length:=by rw[HQ.out];exact aq
  obtain⟨gR,rfl,_,Bj,BT⟩:=eC H1.out.row (by omega);have d0:=(HA.out.2.2.cell (p:=⟨gR,k,none⟩) Bj).trans (BT k (by omega)).1;rw[TI lr k hkl] at d0;have Cy:lr.getD k 0<256:=by
   have:lr.getD k 0=lr[k]:=(by simp[getD,hkl]);rw[this];exact H1.out.lr _ (getElem_mem hkl)
  have s:=(HK.out.2.1).ab HA.out.2.2;obtain⟨r0,r1,r2,r3⟩:=bQ s;have C1:=zpi (fun c=>p (lr.getD c 0)) k;have yt:=zqs (fun c=>p (lr.getD c 0)) k
  try dsimp only at C1 yt
  have HL:=ζ C1 yt;have hle:=zoD (fun c=>p (lr.getD c 0)) k;rw[HA.out.1] at hle;generalize lr.getD k 0=b at d0 Cy HL;have i1:(k:Int)<q:=by omega
  clear BT hkl s C1 yt;go_wp2_with fail;refine (ZJ p b Cy _).mono ?_;rintro e w3 ⟨rfl,pS⟩;have hB:=HA.out.2.2.trans (pS.mono HA.out.2.2.size);have hO:=db HA.out.2.1 pS;have J6:=hB.size;rcases Br:p b with _|_
  ·have HZ:Hid ((de (fun c=>p (lr.getD c 0)) (k+1)).length=m/\w3.ownsRow W.heap.size 3 1 (.slice a m c) m (cY (de (fun c=>p (lr.getD c 0)) (k+1)))/\Below W.heap.size W w3):=by
    rw[HL.out.2 Br];exact⟨HA.out.1,hO,hB⟩
   clear hO hB pS Br HA;go_wp2;go_roundw
   ·exact⟨k+1,m,a,c,by go_num,by omega,hm,rfl,HZ⟩
   simp[intOf];omega
  have HE:=hid (HL.out.1 Br);have ph:=hid HA.out.1;clear Br pS HA;go_wp2_with (at_builtin;refine wpList_append_own _ rfl _ _ 27 rfl W.heap.size 3 i0 (.int .i64 0) 1 8 underlying27 hi dv cP cG rfl (by decide) _ _ _ rfl (hO.alloc _) ⟨w3.heap.size,0,none⟩ 1 1 [.int .i64 (k:Int)] rfl rfl (cell_one_new _ _ _) ?d2 ?d3 ?d4 ?d5 ?_)
  case d2=>intro u hu;simp at hu;subst hu;rfl
  case d3=>unfold maxLen;omega
  case d4=>omega
  case d5=>simp;omega
  intro v' w5 ah ag _;obtain⟨a5,c5,rfl⟩:=bP ah;have eu:=fL (hB.trans ((al w3 (.cells #[.int .i64 (k:Int)] 3)).mono J6)) (hO.alloc _) (by simp;omega) ag;have HZ:Hid ((de (fun c=>p (lr.getD c 0)) (k+1)).length=m+1/\w5.ownsRow W.heap.size 3 1 (.slice a5 (m+1) c5) (m+1) (cY (de (fun c=>p (lr.getD c 0)) (k+1)))/\Below W.heap.size W w5):=by
   rw[HE.out];refine⟨by rw[length_append,ph.out];rfl,?_,eu⟩;rw[xG];exact ah
  clear ah ag eu hO hB;go_wp2;go_roundw
  ·exact⟨k+1,m+1,a5,c5,by go_num,by omega,by omega,rfl,HZ⟩
  simp[intOf];omega
 obtain rfl:k=q:=by omega
 have hB:=HA.out.2.2;have hs:=HK.out.2.1.ab hB;obtain⟨r0,r1,r2,r3⟩:=bQ hs;have h2:=H1.out.ab hB;have m1:wr.cell? ⟨b8,0,none⟩=some (.map (some bL)):=h2.s8.at_ 0;have gq:qZ lr p=de (fun c=>p (lr.getD c 0)) k:=by unfold qZ;rw[HQ.out]
 obtain⟨w5,wF,Aq,sa⟩:=h2.map.update (Q':=LQ lr (DL++[(p,a,c)])) (val:=.slice a m c) Wv underlying184 (by unfold maxLen;omega) HK.out.2.2 ox.out
  (fun x y ⟨d,h1,h2,h3⟩=>⟨d,List.mem_append.2 (inl h1),h2,h3⟩) ⟨(p,a,c),by simp,rfl,by simp only[gq,HA.out.1]⟩
  (fun x y ⟨d,h1,h2,h3⟩ hne=>by
   rcases List.mem_append.1 h1 with h1|h1
   ·exact⟨y,d,h1,h2,h3⟩
   ·rw[List.mem_singleton.1 h1] at h2
    exact absurd h2 hne)
 have ld:Below w.heap.size w wr:=HK.out.1.trans (hB.mono dc);have hk5:Kept [] [bL] wr w5:=(Kept.refl _ _ _).grown sa (fun g e=>by injection e with e;exact inl (by simp[<-e]));have eu:Below B wr w5:=(Below.refl _ _).grown sa h2.lo.2 (fun g e=>by injection e with e;rw[<-e];exact H.out.lo.1);have WW:=wV HA.out.2.1 h2.map.of sa;have HF:Hid (O1 B bn b7 b8 bL n lr aR cR P DL p w (.returned (.slice a m c)) w5):=by
  have kO:KC w5 P a (qZ lr p):=fun h0=>by
   rw[gq,HA.out.1] at h0;obtain⟨g,rfl,sX,Ns,mS⟩:=eC WW h0;refine⟨g,0,rfl,Ns,fun hp=>by have:=HP.out g hp;omega,fun j hj=>?_⟩;rw[Nat.zero_add,(mS j (by rw[gq,HA.out.1] at hj;omega)).1];rw[gq] at hj;rw[BW _ j hj];simp only[gq]
  refine⟨a,c,DL++[(p,a,c)],by rw[gq,HA.out.1],⟨h2.s7.ee h2.map.of sa,h2.s8.ee h2.map.of sa,wV h2.row h2.map.of sa,Aq,fun d hd=>?_,⟨h2.lo.1,le_trans h2.lo.2 eu.size⟩,h2.lr⟩,kO,⟨[bL],(Kept.below (Kept.refl _ _ _) ld).trans hk5,fun x hx=>List.mem_singleton.1 hx⟩,(ld.mono hS.out).trans eu⟩;rcases List.mem_append.1 hd with hd|hd
  ·intro h0;obtain⟨g,off,e,hg,hn,hc⟩:=h2.at_ d hd h0;have EI:g≠bL:=fun e2=>by
    obtain⟨es,ck,hb,_⟩:=h2.map.of;have h5:=hc 0 h0;rw[e2] at h5;simp[World.cell?,hb] at h5
   exact⟨g,off,e,lt_of_lt_of_le hg eu.size,hn,fun j hj=>by rw[hk5.nE (by simpa using EI) hg];exact hc j hj⟩
  rw[List.mem_singleton.1 hd];exact kO
 clear hB hs h2 Aq sa ld hk5 eu WW gq;go_wp2;go_ret;exact HF.out
theorem iA.JX{gF cF:Nat}(h:iA B bn M M M cs dt vM (.slice (some ⟨gF,0,none⟩) M cF) vS fv sv xs L W)(hb:x.b=true)(hf:x.f<M)(ht:x.t<M){p:Nat}
  (ho:w6.ownsRow B 3 1 v' (p+1) (cY (ey L x.f)++[.int .i64 (x.t:Int)])) (hp:(ey L x.f).length=p) (hg:W.grownBy w6 (fv x.f).ownBlock) (fx:∀b,v'.ownBlock=some b->(fv x.f).ownBlock=some b\/W.heap.size<=b):
  iA B bn M M M cs dt vM (.slice (some ⟨gF,0,none⟩) M cF) vS (fun j=>if j=x.f then v' else fv j) sv xs (L++[x]) (w6.setCell ⟨gF,x.f,none⟩ v')/\
   jk B bn (mR bn M M vM (.slice (some ⟨gF,0,none⟩) M cF) vS fv sv) (mR bn M M vM (.slice (some ⟨gF,0,none⟩) M cF) vS (fun j=>if j=x.f then v' else fv j) sv) W (w6.setCell ⟨gF,x.f,none⟩ v'):=by
 have hr:=h.fr.row x.f hf;have hk:Kept [] (gF :: (fv x.f).ownBlock.toList) W w6:=(Kept.refl _ _ _).grown hg (fun g e=>inl (by simp[e]));have fm:Kept [] (gF :: (fv x.f).ownBlock.toList) W (w6.setCell ⟨gF,x.f,none⟩ v'):=hk.setCell _ _ (inl (by simp));have hB:Below B W w6:=fL (Below.refl _ _) hr h.lo.2 hg;have Sy:B<=gF:=kL h.fr.own gF rfl;have hne:∀{t s n:Nat}{v:Value}{ys:List Value},W.ownsRow B t s v n ys->t≠27->(∀b,v.ownBlock=some b->(fv x.f).ownBlock≠some b)->∀b,v.ownBlock=some b->b∉gF :: (fv x.f).ownBlock.toList:=fun ho ht hn b e hm=>by
  rcases List.mem_cons.1 hm with rfl|hm
  ·exact iB ho h.fr.own ht _ e rfl
  exact hn b e (by simpa using hm)
 refine⟨⟨h.sn.kept fm (by simp) (fun hm=>?_),h.sz,fI h.om fm (by simp) (hne h.om (by decide) (fun b e=>h.sep x.f hf b e)),(h.fr.app (by decide) hf ho hg fx).congr (fun i hi=>?_),
  (h.st.kept fm (hne h.st.own (by decide) (fun b e1 e2=>iB h.st.own hr (by decide) b e1 e2)) (fun i hi=>hne (h.st.row i hi) (by decide) (fun b e1 e2=>iB (h.st.row i hi) hr (by decide) b e1 e2))).congr (fun i hi=>?_),fun i hi b e1 e2=>?_,⟨h.lo.1,?_⟩,fun e he=>?_,h.hx⟩,
  ⟨⟨_,fm,fun y hy=>inl ?_⟩,fun y hy=>?_,hB.setCell (p:=⟨gF,x.f,none⟩) Sy v'⟩⟩
 ·rcases List.mem_cons.1 hm with e|hm
  ·exact eB h.fr.own h.sn (by decide) gF rfl e.symm
  exact eB hr h.sn (by decide) bn (by simpa using hm) rfl
 ·rw[Ym];by_cases e:i=x.f
  ·subst e;rw[if_pos rfl,if_pos rfl,if_pos ⟨hb,rfl⟩,xG,length_append,hp];exact⟨rfl,rfl⟩
  rw[if_neg e,if_neg e,if_neg (fun h=>e h.2.symm)];exact⟨rfl,rfl⟩
 ·rw[DF,if_neg (by simp[hb])];exact⟨rfl,rfl⟩
 ·by_cases e:i=x.f
  ·rw[if_pos e] at e2;rcases fx b e2 with h1|h1
   ·exact h.sep x.f hf b e1 h1
   have:=(h.lt b (inr (inl e1))).2;omega
  rw[if_neg e] at e2;exact h.sep i hi b e1 e2
 ·have:=hB.size;have:=h.lo.2;simp only[size_setCell];omega
 ·rcases List.mem_append.1 he with he|he
  ·exact h.hE e he
  rw[List.mem_singleton.1 he];exact⟨hf,hf,ht⟩
 ·rcases List.mem_cons.1 hy with rfl|hy
  ·exact inr (inr (inl rfl))
  exact inr (inr (inr (inr (inl ⟨x.f,hf,by simpa using hy⟩))))
 rcases hy with e|e|e|e|⟨i,hi,e⟩|e
 ·exact inl (inl e)
 ·exact inl (inr (inl e))
 ·exact inl (inr (inr (inl e)))
 ·exact inl (inr (inr (inr (inl e))))
 ·dsimp only at e;by_cases e1:i=x.f
  ·rw[if_pos e1] at e;rcases fx y e with h1|h1
   ·exact inl (inr (inr (inr (inr (inl ⟨x.f,hf,h1⟩)))))
   exact inr h1
  rw[if_neg e1] at e;exact inl (inr (inr (inr (inr (inl ⟨i,hi,e⟩)))))
 exact inl (inr (inr (inr (inr (inr e)))))
theorem iA.DC{cS:Nat}(h:iA B bn M M M cs dt vM vF (.slice (some ⟨gS,0,none⟩) M cS) fv sv xs L W)(hb:x.b=false)(hf:x.f<M)(ht:x.t<M){p:Nat}{ys:List Value}
  (ho:w6.ownsRow B 153 2 v' (p+1) (xs x.f++ys)) (hp:(dk L x.f).length=p) (hg:W.grownBy w6 (sv x.f).ownBlock) (fx:∀b,v'.ownBlock=some b->(sv x.f).ownBlock=some b\/W.heap.size<=b):
  iA B bn M M M cs dt vM vF (.slice (some ⟨gS,0,none⟩) M cS) fv (fun j=>if j=x.f then v' else sv j) (fun j=>if j=x.f then xs x.f++ys else xs j) (L++[x]) (w6.setCell ⟨gS,x.f,none⟩ v')/\
   jk B bn (mR bn M M vM vF (.slice (some ⟨gS,0,none⟩) M cS) fv sv) (mR bn M M vM vF (.slice (some ⟨gS,0,none⟩) M cS) fv (fun j=>if j=x.f then v' else sv j)) W (w6.setCell ⟨gS,x.f,none⟩ v'):=by
 have hr:=h.st.row x.f hf;have hk:Kept [] (gS :: (sv x.f).ownBlock.toList) W w6:=(Kept.refl _ _ _).grown hg (fun g e=>inl (by simp[e]));have fm:Kept [] (gS :: (sv x.f).ownBlock.toList) W (w6.setCell ⟨gS,x.f,none⟩ v'):=hk.setCell _ _ (inl (by simp));have hB:Below B W w6:=fL (Below.refl _ _) hr h.lo.2 hg;have wW:B<=gS:=kL h.st.own gS rfl;have hne:∀{t s n:Nat}{v:Value}{ys:List Value},W.ownsRow B t s v n ys->t≠151->t≠153->∀b,v.ownBlock=some b->b∉gS :: (sv x.f).ownBlock.toList:=fun ho ht hn b e hm=>by
  rcases List.mem_cons.1 hm with rfl|hm
  ·exact iB ho h.st.own ht _ e rfl
  exact iB ho hr hn b e (by simpa using hm)
 refine⟨⟨h.sn.kept fm (by simp) (fun hm=>?_),h.sz,fI h.om fm (by simp) (hne h.om (by decide) (by decide)),
  (h.fr.kept fm (hne h.fr.own (by decide) (by decide)) (fun i hi=>hne (h.fr.row i hi) (by decide) (by decide))).congr (fun i hi=>?_),(h.st.app (by decide) hf ho hg fx).congr (fun i hi=>?_),h.sep,⟨h.lo.1,?_⟩,fun e he=>?_,fun i hi=>?_⟩,
  ⟨⟨_,fm,fun y hy=>inl ?_⟩,fun y hy=>?_,hB.setCell (p:=⟨gS,x.f,none⟩) wW v'⟩⟩
 ·rcases List.mem_cons.1 hm with e|hm
  ·exact eB h.st.own h.sn (by decide) gS rfl e.symm
  exact eB hr h.sn (by decide) bn (by simpa using hm) rfl
 ·rw[Ym,if_neg (by simp[hb])];exact⟨rfl,rfl⟩
 ·rw[DF];by_cases e:i=x.f
  ·subst e;rw[if_pos rfl,if_pos rfl,if_pos ⟨hb,rfl⟩,length_append,hp];exact⟨rfl,rfl⟩
  rw[if_neg e,if_neg e,if_neg (fun h=>e h.2.symm)];exact⟨rfl,rfl⟩
 ·have:=hB.size;have:=h.lo.2;simp only[size_setCell];omega
 ·rcases List.mem_append.1 he with he|he
  ·exact h.hE e he
  rw[List.mem_singleton.1 he];exact⟨hf,hf,ht⟩
 ·rw[if_neg (by omega)];exact h.hx i hi
 ·rcases List.mem_cons.1 hy with rfl|hy
  ·exact inr (inr (inr (inl rfl)))
  exact inr (inr (inr (inr (inr ⟨x.f,hf,by simpa using hy⟩))))
 rcases hy with e|e|e|e|e|⟨i,hi,e⟩
 ·exact inl (inl e)
 ·exact inl (inr (inl e))
 ·exact inl (inr (inr (inl e)))
 ·exact inl (inr (inr (inr (inl e))))
 ·exact inl (inr (inr (inr (inr (inl e)))))
 dsimp only at e;by_cases e1:i=x.f
 ·rw[if_pos e1] at e;rcases fx y e with h1|h1
  ·exact inl (inr (inr (inr (inr (inr ⟨x.f,hf,h1⟩)))))
  exact inr h1
 rw[if_neg e1] at e;exact inl (inr (inr (inr (inr (inr ⟨i,hi,e⟩)))))
def vq(w:World)(P:Nat->Prop)(cl:(Nat->Bool)->List Nat)(l:List En)(xs:List Value):Prop:=
 xs.length=l.length*2/\∀k (h:k<l.length),∃a c,xs[k*2]?=some (.slice a (cl l[k].p).length c)/\xs[k*2+1]?=some (.int .i64 ((l[k].t:Nat):Int))/\KC w P a (cl l[k].p)
theorem vq.nil(w:World)(P:Nat->Prop)(cl:(Nat->Bool)->List Nat):vq w P cl [] []:=⟨rfl,fun k h=>by simp at h⟩
theorem vq.frame{P P':Nat->Prop}{cl:(Nat->Bool)->List Nat}{l:List En}{xs:List Value}(h:vq w P cl l xs)(F:jk B bn P P' w w'):vq w' P' cl l xs:=
 ⟨h.1,fun k hk=>by
  obtain⟨a,c,h1,h2,h3⟩:=h.2 k hk
  exact⟨a,c,h1,h2,F.Fy h3⟩⟩
theorem vq.snoc{P:Nat->Prop}{cl:(Nat->Bool)->List Nat}{l:List En}{xs:List Value}(h:vq w P cl l xs)(e:En)(a:Option Addr)(c:Nat)(hI:KC w P a (cl e.p)):vq w P cl (l++[e]) (xs++[.slice a (cl e.p).length c,.int .i64 (e.t:Int)]):=by
 refine⟨by simp[h.1];omega,fun k hk=>?_⟩;by_cases e1:k<l.length
 ·obtain⟨a',c',h1,h2,h3⟩:=h.2 k e1;rw[getElem_append_left e1];refine⟨a',c',?_,?_,h3⟩
  ·rw[getElem?_append_left (by rw[h.1];omega)];exact h1
  rw[getElem?_append_left (by rw[h.1];omega)];exact h2
 have e2:k=l.length:=by simp at hk;omega
 subst e2;rw[getElem_concat_length rfl];refine⟨a,c,?_,?_,hI⟩
 ·rw[List.getElem?_append_right (by rw[h.1];omega),h.1];simp
 rw[List.getElem?_append_right (by rw[h.1];omega),h.1];have:l.length*2+1-l.length*2=1:=by omega
 rw[this];rfl
def r8(bL bM bn M:Nat)(vM vF vS:Value)(fv sv:Nat->Value)(x:Nat):Prop:=x=bL\/Av bM bn M vM vF vS fv sv x
structure mO (V:World)(B b2 b3 b5 b6 b7 b8 bn bM bL:Nat)(fn:Value)(mf:Nat->Int)(cN cs:Array Value)(lr:List Nat)(aR:Option Addr)(cR:Nat)(L:List En)(F f0 k m n:Nat)(nm:List Nat)(vM vF vS:Value)(fv sv:Nat->Value)(xs:Nat->List Value)(L':List En)(DL:List ((Nat->Bool) × Option Addr × Nat))(w:World):Prop where
 a:tP V B bn b3 b5 b6 bM fn mf nm cs vM vF vS fv sv xs L' w
 l:wv B b7 b8 bL n lr aR cR (r8 bL bM bn nm.length vM vF vS fv sv) DL w
 s2:St w 55 b2 cN
 rows:∀i,i<nm.length->vq w (r8 bL bM bn nm.length vM vF vS fv sv) (qZ lr) (dk L' i) (xs i)
 rel:L.take k=L'.map (En.oG nm)
 bd:∀e∈L',e.f<nm.length/\e.t<nm.length
 hf:nm[f0]?=some F
 len:nm.length<=m
 ne:bL≠bM
 src:∀x∈nm,Src L F F x
theorem mO.fK{f0:Nat}
  (h:mO V B b2 b3 b5 b6 b7 b8 bn bM bL fn mf cN cs lr aR cR L F f0 k m n nm vM vF vS fv sv xs L' DL w) {t g:Nat}{iJ:Array Value}(hs:St w t g iJ) (h1:t≠109) (h2:t≠3) (h3:t≠27) (h4:t≠151) (h5:t≠153):¬r8 bL bM bn nm.length vM vF vS fv sv g:=by
 rintro (e|e|e)
 ·exact AW h.l.map hs e
 ·exact AW h.a.map hs e
 exact h.a.n.pw hs h1 h2 h3 h4 h5 e
theorem mO.lt{f0:Nat}
  (h:mO V B b2 b3 b5 b6 b7 b8 bn bM bL fn mf cN cs lr aR cR L F f0 k m n nm vM vF vS fv sv xs L' DL w):∀x,r8 bL bM bn nm.length vM vF vS fv sv x->x<w.heap.size:=by
 rintro x (rfl|rfl|e)
 ·exact h.l.map.lt
 ·exact h.a.map.lt
 exact (h.a.n.lt x e).2
theorem mO.ab{f0:Nat}
  (h:mO V B b2 b3 b5 b6 b7 b8 bn bM bL fn mf cN cs lr aR cR L F f0 k m n nm vM vF vS fv sv xs L' DL w) (b:Below w.heap.size w w'):mO V B b2 b3 b5 b6 b7 b8 bn bM bL fn mf cN cs lr aR cR L F f0 k m n nm vM vF vS fv sv xs L' DL w':=
 ⟨h.a.ab b,h.l.ab b,h.s2.ab b,fun i hi=>(h.rows i hi).frame (jk.ab (bn:=bn) b h.a.n.lo.2),h.rel,h.bd,h.hf,h.len,h.ne,h.src⟩
theorem mO.num{f0 s:Nat}{kX:List Nat}
  (h:mO V B b2 b3 b5 b6 b7 b8 bn bM bL fn mf cN cs lr aR cR L F f0 k m n nm vM vF vS fv sv xs L' DL w) (ha:tP V B bn b3 b5 b6 bM fn mf kX cs qY qQ vS' vU vV xs L' w') (uY:kX=nm\/kX=nm++[s]) (hF:jk B bn (Av bM bn nm.length vM vF vS fv sv) (Av bM bn kX.length qY qQ vS' vU vV) w w') (hs:Src L F F s):
  mO V B b2 b3 b5 b6 b7 b8 bn bM bL fn mf cN cs lr aR cR L F f0 k (m+1) n kX qY qQ vS' vU vV xs L' DL w':=by
 have hl:=zpx uY;have hn:∀g,Av bM bn nm.length vM vF vS fv sv g->r8 bL bM bn nm.length vM vF vS fv sv g:=fun g e=>inr e
 have hL:¬Av bM bn nm.length vM vF vS fv sv bL:=fun e=>by
  rcases e with e|e
  ·exact h.ne e
  exact h.a.n.l5 h.l.map e
 have hR:∀g,(Value.slice aR lr.length cR).ownBlock=some g->¬Av bM bn nm.length vM vF vS fv sv g:=fun g e hm=>by
  rcases hm with e2|e2|e2|e2|e2|⟨i,hi,e2⟩|⟨i,hi,e2⟩
  ·exact xK h.a.map h.l.row g e e2
  ·exact eB h.l.row h.a.n.sn (by decide) g e e2
  ·exact iB h.l.row h.a.n.om (by decide) g e e2
  ·exact iB h.l.row h.a.n.fr.own (by decide) g e e2
  ·exact iB h.l.row h.a.n.st.own (by decide) g e e2
  ·exact iB h.l.row (h.a.n.fr.row i hi) (by decide) g e e2
  exact iB h.l.row (h.a.n.st.row i hi) (by decide) g e e2
 have vT:jk B bn (r8 bL bM bn nm.length vM vF vS fv sv) (r8 bL bM bn kX.length qY qQ vS' vU vV) w w':=hF.more (fun x=>x=bL);refine⟨ha,⟨hF.st h.l.s7 (fun e=>h.fK h.l.s7 (by decide) (by decide) (by decide) (by decide) (by decide) (hn _ e)),hF.st h.l.s8 (fun e=>h.fK h.l.s8 (by decide) (by decide) (by decide) (by decide) (by decide) (hn _ e)),hF.own h.l.row hR,hF.map h.l.map hL,fun d hd=>vT.Fy (h.l.at_ d hd),⟨h.l.lo.1,le_trans h.l.lo.2 hF.below.size⟩,h.l.lr⟩,
  hF.st h.s2 (fun e=>h.fK h.s2 (by decide) (by decide) (by decide) (by decide) (by decide) (hn _ e)),fun i hi=>?_,by rw[zpy uY h.bd];exact h.rel,fun e he=>by have:=h.bd e he;omega,Ss uY h.hf,by have:=h.len;omega,h.ne,Vs uY hs h.src⟩
 by_cases lI:i<nm.length
 ·exact (h.rows i lI).frame vT
 rw[ZT (fun e he=>(h.bd e he).1) (by omega),h.a.n.hx i (by omega)];exact vq.nil _ _ _
theorem mO.cls{f0:Nat}{LC:List ((Nat->Bool) × Option Addr × Nat)}
  (h:mO V B b2 b3 b5 b6 b7 b8 bn bM bL fn mf cN cs lr aR cR L F f0 k m n nm vM vF vS fv sv xs L' DL w) (hl:wv B b7 b8 bL (n+1) lr aR cR (r8 bL bM bn nm.length vM vF vS fv sv) LC w') (hk:∃bs,Kept [] bs w w'/\∀x∈bs,x=bL) (hb:Below B w w'):
  mO V B b2 b3 b5 b6 b7 b8 bn bM bL fn mf cN cs lr aR cR L F f0 k m (n+1) nm vM vF vS fv sv xs L' LC w':=by
 obtain⟨bs,hk,qK⟩:=hk;have hF:jk B bn (r8 bL bM bn nm.length vM vF vS fv sv) (r8 bL bM bn nm.length vM vF vS fv sv) w w':=⟨⟨bs,hk,fun x hx=>inl (inl (qK x hx))⟩,fun x hx=>inl hx,hb⟩
 have st:∀{t g:Nat}{iJ:Array Value},St w t g iJ->St w' t g iJ:=fun hs=>hs.kept hk (by simp) (fun hm=>AW h.l.map hs (qK _ hm))
 exact⟨⟨h.a.n.kept hk hb.size (fun x hx hm=>h.a.n.l5 h.l.map (by rw[<-qK x hm];exact hx)),st h.a.sM,st h.a.sT,st h.a.sF,h.a.map.kept hk (fun hm=>h.ne (qK _ hm).symm),h.a.nd,h.a.le,h.a.bM,h.a.aP.trans hb⟩,hl,st h.s2,fun i hi=>(h.rows i hi).frame hF,h.rel,h.bd,h.hf,h.len,h.ne,h.src⟩
theorem YE{P:Nat->Prop}(hs:St w t g iJ)(h:wv B b7 b8 bL n lr aR cR P DL w)(hk:∃bs,Kept [] bs w w'/\∀x∈bs,x=bL):St w' t g iJ:=by
 obtain⟨bs,hk,qK⟩:=hk;exact hs.kept hk (by simp) (fun hm=>AW h.map hs (qK _ hm))
theorem zq5(h1:nm[k1]?=some x.f)(h2:nm[k2]?=some x.t):En.oG nm ⟨k1,k2,x.p,x.b⟩=x:=by
 simp[En.oG,List.getD_eq_getElem?_getD,h1,h2]
theorem mO.Dt{f0:Nat}
  (h:mO V B b2 b3 b5 b6 b7 b8 bn bM bL fn mf cN cs lr aR cR L F f0 k m n nm vM vF vS fv sv xs L' DL w):∀g,(Value.slice aR lr.length cR).ownBlock=some g->¬mR bn nm.length nm.length vM vF vS fv sv g:=fun g e hm=>by
 rcases hm with e2|e2|e2|e2|⟨i,hi,e2⟩|⟨i,hi,e2⟩
 ·exact eB h.l.row h.a.n.sn (by decide) g e e2
 ·exact iB h.l.row h.a.n.om (by decide) g e e2
 ·exact iB h.l.row h.a.n.fr.own (by decide) g e e2
 ·exact iB h.l.row h.a.n.st.own (by decide) g e e2
 ·exact iB h.l.row (h.a.n.fr.row i hi) (by decide) g e e2
 ·exact iB h.l.row (h.a.n.st.row i hi) (by decide) g e e2
theorem mO.put{f0:Nat}
  (h:mO V B b2 b3 b5 b6 b7 b8 bn bM bL fn mf cN cs lr aR cR L F f0 k m n nm vM vF vS fv sv xs L' DL w) (hn:iA B bn nm.length nm.length nm.length cs (nm.map mf) qY qQ vS' vU vV uK (L'++[⟨k1,k2,x.p,x.b⟩]) w') (hF:jk B bn (mR bn nm.length nm.length vM vF vS fv sv) (mR bn nm.length nm.length qY qQ vS' vU vV) w w')
  (hL:L.take (k+1)=L.take k++[x]) (h1:nm[k1]?=some x.f) (h2:nm[k2]?=some x.t) (hr:∀i,i<nm.length->vq w (r8 bL bM bn nm.length vM vF vS fv sv) (qZ lr) (dk (L'++[⟨k1,k2,x.p,x.b⟩]) i) (uK i)):
  mO V B b2 b3 b5 b6 b7 b8 bn bM bL fn mf cN cs lr aR cR L F f0 (k+1) m n nm qY qQ vS' vU vV uK (L'++[⟨k1,k2,x.p,x.b⟩]) DL w':=by
 have st:∀{t g:Nat}{iJ:Array Value},St w t g iJ->t≠109->t≠3->t≠27->t≠151->t≠153->St w' t g iJ:=fun hs a b c d e=>hF.st hs (h.a.n.pw hs a b c d e)
 have vT:jk B bn (r8 bL bM bn nm.length vM vF vS fv sv) (r8 bL bM bn nm.length qY qQ vS' vU vV) w w':=(hF.more (fun x=>x=bM)).more (fun x=>x=bL);refine⟨⟨hn,st h.a.sM (by decide) (by decide) (by decide) (by decide) (by decide),st h.a.sT (by decide) (by decide) (by decide) (by decide) (by decide),st h.a.sF (by decide) (by decide) (by decide) (by decide) (by decide),hF.map h.a.map (h.a.n.l5 h.a.map),h.a.nd,h.a.le,h.a.bM,h.a.aP.trans hF.below⟩,
  ⟨st h.l.s7 (by decide) (by decide) (by decide) (by decide) (by decide),st h.l.s8 (by decide) (by decide) (by decide) (by decide) (by decide),hF.own h.l.row h.Dt,hF.map h.l.map (h.a.n.l5 h.l.map),fun d hd=>vT.Fy (h.l.at_ d hd),⟨h.l.lo.1,le_trans h.l.lo.2 hF.below.size⟩,h.l.lr⟩,
  st h.s2 (by decide) (by decide) (by decide) (by decide) (by decide),fun i hi=>(hr i hi).frame vT,?_,fun e he=>?_,h.hf,h.len,h.ne,h.src⟩
 ·rw[hL,map_append,h.rel,List.map_singleton,zq5 h1 h2]
 rcases List.mem_append.1 he with he|he
 ·exact h.bd e he
 rw[List.mem_singleton.1 he];exact⟨(List.getElem?_eq_some_iff.1 h1).1,(List.getElem?_eq_some_iff.1 h2).1⟩
def putAt(cells vs:Array Value)(off:Nat):Array Value:=vs.zipIdx.foldl (fun cs (c,j)=>cs.setIfInBounds (off+j) c) cells
theorem Qq(l:List Value)(off:Nat):∀(k:Nat) (cells:Array Value),((l.zipIdx k).foldl (fun (cs:Array Value) (x:Value × Nat)=>cs.setIfInBounds (off+x.2) x.1) cells).size=cells.size/\
  ∀i,((l.zipIdx k).foldl (fun (cs:Array Value) (x:Value × Nat)=>cs.setIfInBounds (off+x.2) x.1) cells)[i]?=if off+k<=i/\i<off+k+l.length/\i<cells.size then l[i-(off+k)]? else cells[i]?:=by
 induction l with
 | nil=>intro k cells;exact⟨rfl,fun i=>by rw[if_neg (by simp;omega)];rfl⟩
 | cons v l ih=>
  intro k cells;rw[List.zipIdx_cons,List.foldl_cons];obtain⟨h1,h2⟩:=ih (k+1) (cells.setIfInBounds (off+k) v);refine⟨by rw[h1];simp,fun i=>?_⟩;rw[h2 i,Array.size_setIfInBounds];by_cases e:i=off+k
  ·subst e;rw[if_neg (by omega)];by_cases aq:off+k<cells.size
   ·rw[if_pos ⟨le_refl _,by simp,aq⟩,Array.getElem?_setIfInBounds_self_of_lt aq];simp
   rw[if_neg (by omega),Array.getElem?_eq_none_iff.2 (by simp;omega),Array.getElem?_eq_none_iff.2 (by omega)]
  by_cases hc:off+(k+1)<=i/\i<off+(k+1)+l.length/\i<cells.size
  ·rw[if_pos hc,if_pos ⟨by omega,by simp;omega,hc.2.2⟩];have:i-(off+k)=(i-(off+(k+1)))+1:=(by omega);rw[this,List.getElem?_cons_succ]
  rw[if_neg hc,getElem?_setIfInBounds_ne (by omega)];rw[if_neg (by simp only[List.length_cons];omega)]
theorem yZ(cells vs:Array Value)(off:Nat)(h:off+vs.size<=cells.size):(putAt cells vs off).size=cells.size/\∀i,(putAt cells vs off)[i]?=if off<=i/\i<off+vs.size then vs[i-off]? else cells[i]?:=by
 have e:putAt cells vs off=(vs.toList.zipIdx 0).foldl (fun (cs:Array Value) (x:Value × Nat)=>cs.setIfInBounds (off+x.2) x.1) cells:=by
  unfold putAt;rw[<-Array.foldl_toList,Array.toList_zipIdx]
 obtain⟨h1,h2⟩:=Qq vs.toList off 0 cells;rw[e];refine⟨h1,fun i=>?_⟩;rw[h2 i,Nat.add_zero];by_cases hc:off<=i/\i<off+vs.size
 ·rw[if_pos hc,if_pos ⟨hc.1,by simpa using hc.2,by omega⟩,Array.getElem?_toList]
 rw[if_neg hc,if_neg (fun h3=>hc ⟨h3.1,by simpa using h3.2.1⟩)]
theorem za(place:Nat->Option (Nat × Nat))(cells:Array Value)(i off size:Nat)(v:Value)(rest:List (Nat × Value))(hp:place i=some (off,size))(hv:v.cells.size=size)(hs:off+size<=cells.size):
  fill place cells ((i,v) :: rest)=fill place (putAt cells v.cells off) rest:=by
 rw[fill,hp];simp only[hv];rw[if_neg (by simp;omega)];rfl
noncomputable def zC (t:TypeId):Array Value:=match prog.info? t with
 | some it=>match it.zero with|some z=>z.cells|none=>#[]
 | none=>#[]
theorem zmg:(zC 109).size=260:=by kernel_rfl
theorem zmh:(zC 109)[256]?=some (.int .i64 0)/\(zC 109)[257]?=some (.slice none 0 0)/\(zC 109)[258]?=some (.slice none 0 0)/\(zC 109)[259]?=some (.slice none 0 0):=⟨by kernel_rfl,by kernel_rfl,by kernel_rfl,by kernel_rfl⟩
theorem zmi(csA:Array Value)(hs:csA.size=256):∃cN:Array Value,cN.size=260/\(∀j,j<256->cN[j]?=csA[j]?)/\cN[256]?=some (.int .i64 0)/\cN[257]?=some (.slice none 0 0)/\cN[258]?=some (.slice none 0 0)/\cN[259]?=some (.slice none 0 0)/\
  ∀W,(build 109 #[(0,.agg csA)]).run prog W=.ok (.agg cN) W:=by
 have e:prog.built 109 [(0,.agg csA)]=fill (fun i=>#[(0,256),(256,1),(257,1),(258,1),(259,1)][i]?) (zC 109) [(0,.agg csA)]:=by kernel_rfl
 have hz:=zmg;obtain⟨p1,p2⟩:=yZ (zC 109) csA 0 (by rw[hz];omega);rw[za _ _ 0 0 256 (.agg csA) [] (by rfl) hs (by rw[hz];omega)] at e;obtain⟨z0,z1,z2,z3⟩:=zmh;refine⟨putAt (zC 109) csA 0,by rw[p1,hz],fun j hj=>by rw[p2,if_pos ⟨by omega,by omega⟩];rfl,?_,?_,?_,?_,fun W=>run_build W _ _ _ e⟩
 ·rw[p2,if_neg (by omega),z0]
 ·rw[p2,if_neg (by omega),z1]
 ·rw[p2,if_neg (by omega),z2]
 rw[p2,if_neg (by omega),z3]
theorem ia:(zC 29).size=258:=by kernel_rfl
theorem DI:(zC 29)[256]?=some (.slice none 0 0)/\(zC 29)[257]?=some (.slice none 0 0):=⟨by kernel_rfl,by kernel_rfl⟩
theorem zoa:(zC 114).size=263:=by kernel_rfl
theorem zob:(zC 114)[259]?=some (.slice none 0 0)/\(zC 114)[262]?=some (.slice none 0 0):=⟨by kernel_rfl,by kernel_rfl⟩
theorem zoc(csA:Array Value)(hs:csA.size=256):∃cD:Array Value,cD.size=258/\(∀W,(build 29 #[(0,.agg csA)]).run prog W=.ok (.agg cD) W)/\
  ∀(bn bM gI m:Nat),∃cK:Array Value,cK.size=263/\cK[0]?=some (.pointer (some ⟨bn,0,none⟩))/\(∀j,j<256->cK[1+j]?=csA[j]?)/\cK[257]?=some (.slice none 0 0)/\cK[258]?=some (.slice none 0 0)/\cK[259]?=some (.slice none 0 0)/\cK[260]?=some (.map (some bM))/\cK[261]?=some (.slice (some ⟨gI,0,none⟩) m m)/\cK[262]?=some (.slice none 0 0)/\
  ∀W,(build 114 #[(0,.pointer (some ⟨bn,0,none⟩)),(1,.agg cD),(3,.map (some bM)),(4,.slice (some ⟨gI,0,none⟩) m m)]).run prog W=.ok (.agg cK) W:=by
 have e:prog.built 29 [(0,.agg csA)]=fill (fun i=>#[(0,256),(256,1),(257,1)][i]?) (zC 29) [(0,.agg csA)]:=by kernel_rfl
 have hz:=ia;obtain⟨p1,p2⟩:=yZ (zC 29) csA 0 (by rw[hz];omega);rw[za _ _ 0 0 256 (.agg csA) [] (by rfl) hs (by rw[hz];omega)] at e;obtain⟨d1,d2⟩:=DI;refine⟨putAt (zC 29) csA 0,by rw[p1,hz],fun W=>run_build W _ _ _ e,?_⟩;have q1:∀j,j<256->(putAt (zC 29) csA 0)[j]?=csA[j]?:=fun j hj=>by rw[p2,if_pos ⟨by omega,by omega⟩];rfl
 have q2:(putAt (zC 29) csA 0)[256]?=some (.slice none 0 0):=by rw[p2,if_neg (by omega),d1]
 have q3:(putAt (zC 29) csA 0)[257]?=some (.slice none 0 0):=by rw[p2,if_neg (by omega),d2]
 have q4:(putAt (zC 29) csA 0).size=258:=by rw[p1,hz]
 generalize putAt (zC 29) csA 0=cD at q1 q2 q3 q4⊢;intro bn bM gI m;have e2:prog.built 114 [(0,.pointer (some ⟨bn,0,none⟩)),(1,.agg cD),(3,.map (some bM)),(4,.slice (some ⟨gI,0,none⟩) m m)]=fill (fun i=>#[(0,1),(1,258),(259,1),(260,1),(261,1),(262,1)][i]?) (zC 114) [(0,.pointer (some ⟨bn,0,none⟩)),(1,.agg cD),(3,.map (some bM)),(4,.slice (some ⟨gI,0,none⟩) m m)]:=by kernel_rfl
 have hk:=zoa;obtain⟨k1,k2⟩:=zob;obtain⟨a1,a2⟩:=yZ (zC 114) #[.pointer (some ⟨bn,0,none⟩)] 0 (by rw[hk];simp);rw[za _ _ 0 0 1 (.pointer (some ⟨bn,0,none⟩)) _ (by rfl) (by rfl) (by rw[hk];omega)] at e2;rw[show (Value.pointer (some ⟨bn,0,none⟩)).cells=#[.pointer (some ⟨bn,0,none⟩)] from rfl] at e2;generalize putAt (zC 114) #[.pointer (some ⟨bn,0,none⟩)] 0=c1 at a1 a2 e2;obtain⟨b1,b2⟩:=yZ c1 cD 1 (by rw[a1,hk,q4];omega);rw[za _ _ 1 1 258 (.agg cD) _ (by rfl) q4 (by rw[a1,hk];omega)] at e2;rw[show (Value.agg cD).cells=cD from rfl] at e2;generalize putAt c1 cD 1=c2 at b1 b2 e2;obtain⟨f1,f2⟩:=yZ c2 #[.map (some bM)] 260 (by rw[b1,a1,hk];simp);rw[za _ _ 3 260 1 (.map (some bM)) _ (by rfl) (by rfl) (by rw[b1,a1,hk];omega)] at e2;rw[show (Value.map (some bM)).cells=#[.map (some bM)] from rfl] at e2;generalize putAt c2 #[.map (some bM)] 260=c3 at f1 f2 e2;obtain⟨g1,g2⟩:=yZ c3 #[.slice (some ⟨gI,0,none⟩) m m] 261 (by rw[f1,b1,a1,hk];simp);rw[za _ _ 4 261 1 (.slice (some ⟨gI,0,none⟩) m m) _ (by rfl) (by rfl) (by rw[f1,b1,a1,hk];omega)] at e2;rw[show (Value.slice (some ⟨gI,0,none⟩) m m).cells=#[.slice (some ⟨gI,0,none⟩) m m] from rfl] at e2;generalize putAt c3 #[.slice (some ⟨gI,0,none⟩) m m] 261=c4 at g1 g2 e2;rw[q4] at b2;simp only[List.size_toArray,List.length_cons,List.length_nil] at a2 f2 g2;refine⟨c4,by rw[g1,f1,b1,a1,hk],?_,fun j hj=>?_,?_,?_,?_,?_,?_,?_,fun W=>run_build W _ _ _ e2⟩
 ·rw[g2,if_neg (by omega),f2,if_neg (by omega),b2,if_neg (by omega),a2,if_pos (by omega)];rfl
 ·rw[g2,if_neg (by omega),f2,if_neg (by omega),b2,if_pos (by omega)];have:1+j-1=j:=by omega
  rw[this,q1 j hj]
 ·rw[g2,if_neg (by omega),f2,if_neg (by omega),b2,if_pos (by omega)];exact q2
 ·rw[g2,if_neg (by omega),f2,if_neg (by omega),b2,if_pos (by omega)];exact q3
 ·rw[g2,if_neg (by omega),f2,if_neg (by omega),b2,if_neg (by omega),a2,if_neg (by omega),k1]
 ·rw[g2,if_neg (by omega),f2,if_pos (by omega)];rfl
 ·rw[g2,if_pos (by omega)];rfl
 rw[g2,if_neg (by omega),f2,if_neg (by omega),b2,if_neg (by omega),a2,if_neg (by omega),k2]
theorem AH{P:Program}{ops:Array Oper}{rest:List Oper}{o:Oper}{a:Act}{Q:Exit->Act->World->Prop}(oE:o.guard=none)(t:TypeId)(parts:Array (Nat × Operand))(ho:o.op=.build t parts)(ps:Array (Nat × Value))(hp:(parts.map fun (i,x)=>(i,a.eval x))=ps)(v:Value)
  (hb:(build t ps).run P w=.ok v w) (h:wpList P ops Q rest (a.put o.dst v) w):wpList P ops Q (o :: rest) a w:=
 wpList_plain oE fun _ hK=>by
  unfold Oper.wp execOp
  simp only[ho,hp,Sem.run_bind,hb,Result.andThen_ok]
  exact hK _ _ h
theorem vh:(prog.info? 89).map (fun i=>(i.zero,i.size,i.bytes))=some (some (.agg #[.int .u64 0,.int .u64 0,.int .u64 0,.int .u64 0]),4,32):=by kernel_rfl
def jx(p:Nat->Bool):List Value:=(#[.int .u64 (wd p 0),.int .u64 (wd p 1),.int .u64 (wd p 2),.int .u64 (wd p 3)]).toList
def AM(l:List (Nat->Bool)):List Value:=l.flatMap jx
theorem zod(l:List (Nat->Bool))(p:Nat->Bool):AM (l++[p])=AM l++jx p:=by simp[AM]
theorem zqg(l:List (Nat->Bool))(i:Nat)(h:i<l.length)(j:Nat)(hj:j<4):(AM l)[i*4+j]?=(jx l[i])[j]?:=by
 induction l generalizing i with
 | nil=>simp at h
 | cons x l ih=>
  have hc:(jx x).length=4:=by simp[jx]
  show (jx x++AM l)[i*4+j]?=_
  match i,h with
  | 0,_=>
   rw[Nat.zero_mul,Nat.zero_add,getElem?_append_left (by omega)];rfl
  | i+1,h=>
   rw[List.getElem?_append_right (by omega),hc,show (i+1)*4+j-4=i*4+j by omega,ih i (by simpa using h)];rfl
def cH(L:List Eg):List (Nat->Bool):=(L.filter fun e=>!e.b).map (·.p)
def zoe(w:World)(L:List Eg)(e:Ending)(w':World):Prop:=
 ∃(a:Option Addr) (n c:Nat),e=.returned (.slice a n c)/\(cH L).length=n/\w'.ownsRow w.heap.size 89 4 (.slice a n c) n (AM (cH L))/\Below w.heap.size w w'
theorem zog(S F T:Int)(a:Option Addr)(n c:Nat)(L:List Eg)(w:World)(hL:gV w a L)(hn:L.length=n)(dG:n<=1000000):
  Calls prog 101 #[.agg #[.int .i64 S,.slice a n c,.int .i64 F,.int .i64 T]] w (zoe w L):=by
 have HL:=ζ hL hn;have HW:=hid (VR w S F T a n c);have HB:=hid (show Below w.heap.size w (w.alloc (.cells #[.int .i64 S,.slice a n c,.int .i64 F,.int .i64 T] 55)) from (Below.refl _ _).alloc (le_refl _) _);obtain⟨i0,hi,dv,cP,cG⟩:=info_parts vh;clear hL hn;go_in;go_wp2_with fail;generalize w.alloc (.cells #[.int .i64 S,.slice a n c,.int .i64 F,.int .i64 T] 55)=W0 at HW HB⊢;go_loopw [3,5,9] (fun v _ i wr=>∃(k q:Nat),i=.int .i64 k/\k<=n/\q<=k/\Hid ((cH (L.take k)).length=q)/\Hid (wr.ownsRow w.heap.size 89 4 v q (AM (cH (L.take k))))/\Hid (Below w.heap.size w wr)) (fun _ _ i _=>n-(intOf i).toNat)
 ·exact⟨0,0,rfl,zero_le _,zero_le _,rfl,ownsRow_nil _ _ _ _,HB⟩
 obtain⟨k,q,rfl,hk,hq,HQ,HA,B9⟩:=hrel;obtain⟨aS,cS,rfl⟩:=bP HA.out;have dc:=B9.out.size;by_cases aq:k<n
 ·have hkl:k<L.length:=by rw[HL.out.2];exact aq
  obtain⟨ge,off,rfl,hg,c0,c1,c2,c3,c4,c5,c6⟩:=(HL.out.1.below B9.out).get k hkl;have HS:Hid (L.take (k+1)=L.take k++[L[k]]):=List.take_succ_eq_append_getElem hkl;generalize L[k]=x at c0 c1 c2 c3 c4 c5 c6 HS;have mC:Below wr.heap.size wr (wr.alloc (.cells #[.int .i64 x.f,.int .i64 x.t,.int .u64 (wd x.p 0),.int .u64 (wd x.p 1),.int .u64 (wd x.p 2),.int .u64 (wd x.p 3),.bool x.b] 117)):=(Below.refl _ _).alloc (le_refl _) _;have tF:=hid (db HA.out mC);have rv:=hid (B9.out.trans (mC.mono dc));have me:=hid (St.new wr 117 #[.int .i64 x.f,.int .i64 x.t,.int .u64 (wd x.p 0),.int .u64 (wd x.p 1),.int .u64 (wd x.p 2),.int .u64 (wd x.p 3),.bool x.b]);obtain⟨xf,xt,xp,xb⟩:=x;dsimp only at c0 c1 c2 c3 c4 c5 c6 HS tF rv me;rcases xb with _|_
  ·have HZ:Hid (cH (L.take (k+1))=cH (L.take k)++[xp]):=(by show _=_;rw[HS.out];simp[cH]);clear mC;go_upto_region 6 with fail;have e2:(wr.alloc (.cells #[.int .i64 xf,.int .i64 xt,.int .u64 (wd xp 0),.int .u64 (wd xp 1),.int .u64 (wd xp 2),.int .u64 (wd xp 3),.bool false] 117)).cell? ⟨wr.heap.size,2,none⟩=some (.int .u64 (wd xp 0)):=me.out.at_ 2;have e3:(wr.alloc (.cells #[.int .i64 xf,.int .i64 xt,.int .u64 (wd xp 0),.int .u64 (wd xp 1),.int .u64 (wd xp 2),.int .u64 (wd xp 3),.bool false] 117)).cell? ⟨wr.heap.size,3,none⟩=some (.int .u64 (wd xp 1)):=me.out.at_ 3;have e4:(wr.alloc (.cells #[.int .i64 xf,.int .i64 xt,.int .u64 (wd xp 0),.int .u64 (wd xp 1),.int .u64 (wd xp 2),.int .u64 (wd xp 3),.bool false] 117)).cell? ⟨wr.heap.size,4,none⟩=some (.int .u64 (wd xp 2)):=me.out.at_ 4;have e5:(wr.alloc (.cells #[.int .i64 xf,.int .i64 xt,.int .u64 (wd xp 0),.int .u64 (wd xp 1),.int .u64 (wd xp 2),.int .u64 (wd xp 3),.bool false] 117)).cell? ⟨wr.heap.size,5,none⟩=some (.int .u64 (wd xp 3)):=me.out.at_ 5;generalize (wr.alloc (.cells #[.int .i64 xf,.int .i64 xt,.int .u64 (wd xp 0),.int .u64 (wd xp 1),.int .u64 (wd xp 2),.int .u64 (wd xp 3),.bool false] 117))=W1 at tF rv me e2 e3 e4 e5⊢;have hO:=tF.out;have lf:=rv.out.size;go_wp2_with (at_builtin;refine wpList_append_own _ rfl _ _ 145 rfl w.heap.size 89 i0 (.agg #[.int .u64 0,.int .u64 0,.int .u64 0,.int .u64 0]) 4 32 underlying145 hi dv cP cG rfl (by decide) _ _ _ rfl (hO.alloc _) ⟨W1.heap.size,0,none⟩ 1 1 (#[.int .u64 (wd xp 0),.int .u64 (wd xp 1),.int .u64 (wd xp 2),.int .u64 (wd xp 3)]).toList rfl rfl (World.news_of_block (cs:=#[.int .u64 (wd xp 0),.int .u64 (wd xp 1),.int .u64 (wd xp 2),.int .u64 (wd xp 3)]) (t:=89) (fr:=(0,0)) (St.new W1 _ _)) ?d2 ?d3 ?d4 ?d5 ?_)
   case d2=>exact⟨rfl,rfl,rfl,rfl⟩
   case d3=>unfold maxLen;omega
   case d4=>omega
   case d5=>simp;omega
   intro v' w5 ah ag _;obtain⟨a5,c5,rfl⟩:=bP ah;have qF:Below W1.heap.size W1 (W1.alloc (.cells #[.int .u64 (wd xp 0),.int .u64 (wd xp 1),.int .u64 (wd xp 2),.int .u64 (wd xp 3)] 89)):=(Below.refl _ _).alloc (le_refl _) _;have LI:Hid (Below w.heap.size w w5):=(rv.out.trans (qF.mono lf)).trans (EK ag (hO.alloc _) (by simp;omega));have rz:Hid (w5.ownsRow w.heap.size 89 4 (.slice a5 (q+1) c5) (q+1) (AM (cH (L.take (k+1))))):=by
    show World.ownsRow _ _ _ _ _ _ _;rw[HZ.out,zod];exact ah
   have HQ5:Hid ((cH (L.take (k+1))).length=q+1):=(by show _=_;rw[HZ.out,length_append,HQ.out];rfl);clear ah ag qF hO e2 e3 e4 e5;go_wp2;go_roundw
   ·exact⟨k+1,q+1,by go_num,by omega,by omega,HQ5,rz,LI⟩
   simp[intOf];omega
  have HZ:Hid (cH (L.take (k+1))=cH (L.take k)):=by show _=_;rw[HS.out];simp[cH]
  clear mC;go_wp2;go_roundw
  ·exact⟨k+1,q,by go_num,by omega,by omega,by show _=_;rw[HZ.out];exact HQ.out,by show World.ownsRow _ _ _ _ _ _ _;rw[HZ.out];exact tF.out,rv⟩
  simp[intOf];omega
 obtain rfl:k=n:=by omega
 have HZ:Hid (L.take k=L):=List.take_of_length_le (by rw[HL.out.2];exact le_refl _);go_wp2;go_ret;refine⟨aS,q,cS,rfl,?_,?_,B9.out⟩
 ·have:=HQ.out;rwa [HZ.out] at this
 have:=HA.out;rwa [HZ.out] at this
def same(s:Nat->Nat->Bool)(b c:Nat):Nat->Bool
 | 0=>true
 | i+1=>same s b c i && (s i b == s i c)
