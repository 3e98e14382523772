import Derived.Test.YtiijebameffenaaGreatZRuM
import Derived.Test.YtiijebameffenaaGreatZSClose
set_option linter.all false
set_option maxHeartbeats 1000000
set_option maxRecDepth 100000
open Go.Lib (hid)
namespace Go.Proofs.YtiijebameffenaaGreat
open Go.RowKit Go.Proofs.Tryz
open List (getD getElem?_append_left getElem_append_left getElem_concat_length getElem_mem length_append map_append prefix_refl range replicate)
open Or (inl inr)
open Nat (le_refl le_trans lt_of_lt_of_le zero_le)
open _root_.Array (ext' getElem?_setIfInBounds_ne)
open Value (ownBlock)
open World (ownsRow_nil size_setCell)
open Instr (build fill)
variable {B C F M Mf Mm Ms b2 b3 b5 b6 b7 b8 bL bM bm bn cR g gI gS i k k1 k2 m n q t te ts:Nat}{D:List ((Nat->Bool) × Nat)}{DL:List ((Nat->Bool) × Option Addr × Nat)}{K:Nat->Lit}{L L':List En}{R:List (List Int)}{S' S0 SS:List (Nat->Bool)}{V W w w' w1 w5 w6 wr:World}{a aR:Option Addr}{bs gs l lr nm:List Nat}{cN cs im:Array Value}{dt ms:List Int}{fn sW si v v' vF vK vL vM vN vS vS':Value}{fv sv vs x8 xV:Nat->Value}{mf mk:Nat->Int}{r:Int}{ss:List ByteArray}{wN xs:Nat->List Value}{x:En}
def zmI(Q:Prop)(w:World)(e:Ending)(w':World):Prop:=∃b:Bool,e=.returned (.bool b)/\(b=true↔Q)/\ϐ w w'
def nv(M:Nat)(S:Nat->Prop)(SS:List (Nat->Bool))(r:Int)(ki:List (Nat->Bool)):Prop:=
 ((
  ∀x,x<M->¬S x)/\r=-1/\ki=SS)\/((∃x,x<M/\S x)/\∃j:Nat,r=(j:Int)/\(∃h:j<ki.length,∀x,x<M->(ki[j] x=true↔S x))/\
  (ki=SS\/∃f,ki=SS++[f]/\j=SS.length/\∀i (h:i<SS.length),∃x,x<M/\SS[i] x≠f x))
inductive iG (M:Nat) (T:Nat->Nat->Prop) (SS:List (Nat->Bool)):Nat->List Int->List (Nat->Bool)->Prop
 | zero:iG M T SS 0 [] SS
 | succ {c:Nat}{row:List Int}{S1 S2:List (Nat->Bool)}{r:Int}:iG M T SS c row S1->nv M (T c) S1 r S2->iG M T SS (c+1) (row++[r]) S2
inductive iW (M C:Nat) (T:(Nat->Bool)->Nat->Nat->Prop) (S0:List (Nat->Bool)):Nat->List (List Int)->List (Nat->Bool)->Prop
 | zero:iW M C T S0 0 [] S0
 | succ {k:Nat}{R:List (List Int)}{row:List Int}{S1 S2:List (Nat->Bool)}:iW M C T S0 k R S1->(h:k<S1.length)->iG M (T S1[k]) S1 C row S2->iW M C T S0 (k+1) (R++[row]) S2
theorem nv.pre{S:Nat->Prop}(h:nv M S SS r S'):SS <+: S':=by
 rcases h with ⟨_,_,rfl⟩|⟨_,j,_,_,rfl|⟨f,rfl,_⟩⟩
 ·exact prefix_refl _
 ·exact prefix_refl _
 exact List.prefix_append _ _
theorem iG.pre{M:Nat}{T:Nat->Nat->Prop}{SS S':List (Nat->Bool)}{c:Nat}{row:List Int}(h:iG M T SS c row S'):SS <+: S':=by
 induction h with
 | zero=>exact prefix_refl _
 | succ _ h1 ih=>exact ih.trans h1.pre
theorem iG.len{T:Nat->Nat->Prop}{c:Nat}{row:List Int}(h:iG M T SS c row S'):row.length=c/\S'.length<=SS.length+c:=by
 induction h with
 | zero=>exact⟨rfl,by omega⟩
 | succ _ h1 ih=>
  refine⟨by simp[ih.1],?_⟩;rcases h1 with ⟨_,_,rfl⟩|⟨_,j,_,_,rfl|⟨f,rfl,_⟩⟩
  ·omega
  ·omega
  simp;omega
theorem iW.len{T:(Nat->Bool)->Nat->Nat->Prop}(h:iW M C T S0 k R S'):R.length=k:=by
 induction h with
 | zero=>rfl
 | succ _ _ _ ih=>simp[ih]
theorem iW.pre{M C:Nat}{T:(Nat->Bool)->Nat->Nat->Prop}{S0 S':List (Nat->Bool)}{k:Nat}{R:List (List Int)}(h:iW M C T S0 k R S'):S0 <+: S':=by
 induction h with
 | zero=>exact prefix_refl _
 | succ _ _ h1 ih=>exact ih.trans h1.pre
theorem iW.tJ{T:(Nat->Bool)->Nat->Nat->Prop}(h:iW M C T S0 k R S'):∀r∈R,r.length=C:=by
 induction h with
 | zero=>intro r hr;simp at hr
 | succ _ _ h1 ih=>
  intro r hr;rcases List.mem_append.1 hr with hr|hr
  ·exact ih r hr
  rw[List.mem_singleton.1 hr];exact h1.len.1
def qp(M:Nat)(SS:List (Nat->Bool))(S:Nat->Prop)(r:Int):Prop:=
 (r=-1/\∀x,x<M->¬S x)\/((∃x,x<M/\S x)/\∃(j:Nat) (h:j<SS.length),r=(j:Int)/\∀x,x<M->(SS[j] x=true↔S x))
theorem qp.pre{S:Nat->Prop}(h:qp M SS S r)(hp:SS <+: S'):qp M S' S r:=by
 rcases h with h|⟨h0,j,hj,e,h⟩
 ·exact inl h
 refine inr ⟨h0,j,lt_of_lt_of_le hj hp.length_le,e,fun x hx=>?_⟩;rw[<-hp.getElem hj];exact h x hx
theorem nv.qc{S:Nat->Prop}(h:nv M S SS r S'):qp M S' S r:=by
 rcases h with ⟨h1,h2,_⟩|⟨h0,j,e,⟨hj,h1⟩,_⟩
 ·exact inl ⟨h2,h1⟩
 exact inr ⟨h0,j,hj,e,h1⟩
theorem iG.qc{M:Nat}{T:Nat->Nat->Prop}{SS S':List (Nat->Bool)}{c:Nat}{row:List Int}(h:iG M T SS c row S'):∀i (hi:i<row.length),qp M S' (T i) row[i]:=by
 induction h with
 | zero=>intro i hi;simp at hi
 | @succ c row S1 S2 r h0 h1 ih=>
  intro i hi;by_cases e:i<row.length
  ·rw[getElem_append_left e];exact (ih i e).pre h1.pre
  have e2:i=row.length:=by simp at hi;omega
  subst e2;have e3:row.length=c:=h0.len.1;rw[getElem_concat_length rfl];rw[e3];exact h1.qc
theorem iW.qc{M C:Nat}{T:(Nat->Bool)->Nat->Nat->Prop}{S0 S':List (Nat->Bool)}{k:Nat}{R:List (List Int)}(h:iW M C T S0 k R S'):∀i (hi:i<R.length),∃hs:i<S'.length,∀c (hc:c<R[i].length),qp M S' (T S'[i] c) R[i][c]:=by
 induction h with
 | zero=>intro i hi;simp at hi
 | @succ k R row S1 S2 h0 hk h1 ih=>
  intro i hi;by_cases e:i<R.length
  ·obtain⟨hs,h2⟩:=ih i e;refine⟨lt_of_lt_of_le hs h1.pre.length_le,fun c hc=>?_⟩;simp only[getElem_append_left e] at hc⊢;rw[<-h1.pre.getElem hs];exact (h2 c hc).pre h1.pre
  have e2:i=R.length:=by simp at hi;omega
  subst e2;have e3:=h0.len;refine⟨by rw[e3];exact lt_of_lt_of_le hk h1.pre.length_le,fun c hc=>?_⟩;simp only[getElem_concat_length] at hc⊢;have:=h1.qc c hc;subst e3;rw[<-h1.pre.getElem hk];exact this
def uv(M:Nat)(SS:List (Nat->Bool)):Prop:=∀i j (hi:i<SS.length) (hj:j<SS.length),(∀x,x<M->SS[i] x=SS[j] x)->i=j
theorem nv.yl{S:Nat->Prop}(h:nv M S SS r S')(hd:uv M SS):uv M S':=by
 rcases h with ⟨_,_,rfl⟩|⟨_,j,_,_,rfl|⟨f,rfl,_,hf⟩⟩
 ·exact hd
 ·exact hd
 intro i j hi hj he;by_cases h1:i<SS.length
 ·by_cases h2:j<SS.length
  ·exact hd i j h1 h2 (fun x hx=>by have:=he x hx;rwa [getElem_append_left h1,getElem_append_left h2] at this)
  have h3:j=SS.length:=by simp at hj;omega
  subst h3;obtain⟨x,hx,hn⟩:=hf i h1;have:=he x hx;rw[getElem_append_left h1,getElem_concat_length rfl] at this;exact absurd this hn
 have h3:i=SS.length:=by simp at hi;omega
 subst h3;by_cases h2:j<SS.length
 ·obtain⟨x,hx,hn⟩:=hf j h2;have:=he x hx;rw[getElem_append_left h2,getElem_concat_length rfl] at this;exact absurd this.symm hn
 simp at hj;omega
theorem iG.yl{M:Nat}{T:Nat->Nat->Prop}{SS S':List (Nat->Bool)}{c:Nat}{row:List Int}(h:iG M T SS c row S')(hd:uv M SS):uv M S':=by
 induction h with
 | zero=>exact hd
 | succ _ h1 ih=>exact h1.yl ih
theorem iW.yl{M C:Nat}{T:(Nat->Bool)->Nat->Nat->Prop}{S0 S':List (Nat->Bool)}{k:Nat}{R:List (List Int)}(h:iW M C T S0 k R S')(hd:uv M S0):uv M S':=by
 induction h with
 | zero=>exact hd
 | succ _ _ h1 ih=>exact h1.yl ih
open Go.Maps
def Bq(w:World)(B:Nat)(a:Option Addr)(cl:(Nat->Bool)->List Nat)(l:List En):Prop:=0<l.length->∃g off,a=some ⟨g,off,none⟩/\g<B/\
 ∀k (h:k<l.length),∃a' c',w.cell? ⟨g,off+k*2,none⟩=some (.slice a' (cl l[k].p).length c')/\w.cell? ⟨g,off+k*2+1,none⟩=some (.int .i64 ((l[k].t:Nat):Int))/\Cm w B a' (cl l[k].p)
theorem Bq.below{cl:(Nat->Bool)->List Nat}{l:List En}(h:Bq w B a cl l)(k:Below B w w'):Bq w' B a cl l:=by
 intro h0;obtain⟨g,off,e,hg,hc⟩:=h h0;refine⟨g,off,e,hg,fun j hj=>?_⟩;obtain⟨a',c',h1,h2,h3⟩:=hc j hj;exact⟨a',c',(k.cell (p:=⟨g,off+j*2,none⟩) hg).trans h1,(k.cell (p:=⟨g,off+j*2+1,none⟩) hg).trans h2,h3.below k⟩
structure qq (w:World)(B bn gS M cS:Nat)(aS:Nat->Option Addr)(cR:Nat->Nat)(cl:(Nat->Bool)->List Nat)(L:List En):Prop where
 hY:bn<B/\gS<B
 ig:w.cell? ⟨bn,259,none⟩=some (.slice (some ⟨gS,0,none⟩) M cS)
 row:∀i,i<M->w.cell? ⟨gS,i,none⟩=some (.slice (aS i) (dk L i).length (cR i))
 at_:∀i,i<M->Bq w B (aS i) cl (dk L i)
theorem qq.below{cS:Nat}{aS:Nat->Option Addr}{cR:Nat->Nat}{cl:(Nat->Bool)->List Nat}(h:qq w B bn gS M cS aS cR cl L)(k:Below B w w'):qq w' B bn gS M cS aS cR cl L:=
 ⟨h.hY,(k.cell (p:=⟨bn,259,none⟩) h.hY.1).trans h.ig,fun i hi=>(k.cell (p:=⟨gS,i,none⟩) h.hY.2).trans (h.row i hi),fun i hi=>(h.at_ i hi).below k⟩
structure jl (w3:World)(B gT C:Nat)(vs:Nat->Value)(tg:Nat->List Nat)(wq:World):Prop where
 jd:eQ wq w3.heap.size 43 3 1 gT C vs (fun c=>(tg c).length) (fun c=>dv (tg c))
 kept:Kept [] [gT] w3 wq
 below:Below B w3 wq
 lo:B<=gT/\B<=w3.heap.size
theorem jl.ae{w3 wq:World}{gT:Nat}{tg:Nat->List Nat}(h:jl w3 B gT C vs tg wq)(k:ϐ wq w1):jl w3 B gT C vs tg w1:=
 ⟨h.jd.ae k,h.kept.below k,h.below.trans (k.mono (le_trans h.lo.2 h.below.size)),h.lo⟩
theorem jl.app{w3 W w6:World}{B gT C:Nat}{vs:Nat->Value}{tg:Nat->List Nat}(h:jl w3 B gT C vs tg W){x t:Nat}(hx:x<C){v':Value}{p:Nat}(hp:(tg x).length=p)
  (ho:w6.ownsRow w3.heap.size 3 1 v' (p+1) (dv (tg x)++[.int .i64 (t:Int)])) (hg:W.grownBy w6 (vs x).ownBlock)
  (fD:∀b,v'.ownBlock=some b->(vs x).ownBlock=some b\/W.heap.size<=b):
  jl w3 B gT C (fun j=>if j=x then v' else vs j) (fun j=>if j=x then tg x++[t] else tg j) (w6.setCell ⟨gT,x,none⟩ v'):=by
 have hr:=h.jd.2.1 x hx;have cQ:=h.below.size;refine⟨(h.jd.app (by decide) hx ho hg fD).congr (fun i hi=>?_),?_,(gu h.below (jH hr h.lo.2) (le_trans h.lo.2 cQ) hg |> fun k=>k.setCell (p:=⟨gT,x,none⟩) h.lo.1 v'),h.lo⟩
 ·by_cases e:i=x
  ·subst e;refine⟨by simp[hp],by simp[Ad]⟩
  simp[e]
 exact (h.kept.grown hg (fun g e=>inr (inl (ln hr g e)))).setCell ⟨gT,x,none⟩ v' (inl (by simp))
theorem jl.made(V:World)(B C:Nat)(w3:World)(hB:B<=V.heap.size)(k:Below (V.alloc (.cells (madeCells #[.slice none 0 0] C) 43)).heap.size (V.alloc (.cells (madeCells #[.slice none 0 0] C) 43)) w3):
  jl w3 B V.heap.size C (fun _=>.slice none 0 0) (fun _=>[]) w3:=
 ⟨(eQ.made V w3.heap.size 43 3 1 C).ae k,Kept.refl _ _ _,Below.refl _ _,hB,by have:=k.size;simp at this;omega⟩
def jy(bm gI bM:Nat)(vL vS vK:Value):List Nat:=bm :: gI :: bM :: (vL.ownBlock.toList++(vS.ownBlock.toList++vK.ownBlock.toList))
theorem AI(bm gI bM:Nat)(vL vS vK:Value)(x:Nat):x∈jy bm gI bM vL vS vK↔x=bm\/x=gI\/x=bM\/vL.ownBlock=some x\/vS.ownBlock=some x\/vK.ownBlock=some x:=by
 simp[jy,Option.mem_toList]
theorem jq.self{Q:Value->Value->Prop}(h:jq V B bs bm gI m M cs l vL wr)(t:nE V B bs bM cs vL k q n ss ms Q vS vK wr):
  jq wr B (jy bm gI bM vL vS vK) bm gI m M cs l vL wr/\nE wr B (jy bm gI bM vL vS vK) bM cs vL k q n ss ms Q vS vK wr:=
 ⟨⟨⟨Kept.refl _ _ _,Below.refl _ _,h.r.sm,h.r.sz,h.r.cI,h.r.lW,h.r.dg,fun b e=>inl ((AI ..).2 (by simp[e])),⟨by simp[jy],by simp[jy]⟩,h.r.lo.1,h.r.lo.2.1,h.r.hB⟩,h.nd,h.lt⟩,
  ⟨t.cK,t.cS,t.cM,t.os,t.ok,t.map,t.sep,fun b e=>inl ((AI ..).2 (by simp[e])),fun b e=>inl ((AI ..).2 (by simp[e])),by simp[jy],t.lM.2⟩⟩
theorem zmJ{Q:Value->Value->Prop}(h:jq V B bs bm gI m M cs l vL wr)(t:nE V B bs bM cs vL k q n ss ms Q vS vK wr){x:Nat}
  (hx:x∈jy bm gI bM vL vS vK):x∈bs\/V.heap.size<=x:=by
 rcases (AI ..).1 hx with rfl|rfl|rfl|e|e|e
 ·exact inl h.r.ko.1
 ·exact inl h.r.ko.2
 ·exact inl t.lM.1
 ·exact h.r.loc x e
 ·exact t.lS x e
 exact t.lK x e
structure rI (w:World)(B:Nat)(bs:List Nat)(vN:Value)(C:Nat)(gs:List Nat)(R:List (List Int)):Prop where
 own:w.ownsRow B 43 1 vN R.length (gs.map fun g=>.slice (some ⟨g,0,none⟩) C C)
 len:gs.length=R.length
 row:∀i (h:i<gs.length) (h':i<R.length),St w 3 gs[i] (ints R[i]).toArray/\gs[i]∉bs
theorem rI.ae(h:rI w B bs vN C gs R)(k:ϐ w w1):rI w1 B bs vN C gs R:=
 ⟨dE h.own k,h.len,fun i h1 h2=>⟨(h.row i h1 h2).1.ae k,(h.row i h1 h2).2⟩⟩
theorem rI.kept{bs':List Nat}(h:rI w B bs vN C gs R)(k:Kept [] bs w w1)(hN:∀b,vN.ownBlock=some b->b∉bs)(hb:∀x∈bs',x∈bs\/w.heap.size<=x):rI w1 B bs' vN C gs R:=
 ⟨gk h.own k (by simp) hN,h.len,fun i h1 h2=>⟨(h.row i h1 h2).1.kept k (by simp) (h.row i h1 h2).2,fun hm=>by
  rcases hb _ hm with h3|h3
  ·exact (h.row i h1 h2).2 h3
  ·have:=(h.row i h1 h2).1.lt;omega⟩⟩
structure mB (B bm gI bM m M C bn:Nat)(K:Nat->Lit)(L:List En)(mk:Nat->Int)(SS:List (Nat->Bool))(ms:List Int)(D:List ((Nat->Bool) × Nat))(R:List (List Int))(n:Nat)(cs:Array Value)(l:List Nat)(vL vS vK vN:Value)(gs:List Nat)(w:World):Prop where
 a:jq w B (jy bm gI bM vL vS vK) bm gI m M cs l vL w
 t:nE w B (jy bm gI bM vL vS vK) bM cs vL SS.length SS.length n (SS.map (kI M)) ms (MQ M D) vS vK w
 inv:Inv L M mk SS ms D
 nx:rI w B (jy bm gI bM vL vS vK) vN C gs R
 c0:cs[0]?=some (.pointer (some ⟨bn,0,none⟩))
 cN:cs[257]?=some vN
 cl:∀j,j<256->cs[1+j]?=some (.int .u8 (cls K j))
 hn:n<=2*SS.length
theorem mB.ae
  (h:mB B bm gI bM m M C bn K L mk SS ms D R n cs l vL vS vK vN gs w) (k:ϐ w w1):mB B bm gI bM m M C bn K L mk SS ms D R n cs l vL vS vK vN gs w1:=by
 obtain⟨h1,h2⟩:=jq.self (h.a.ae k) (h.t.ae k);exact⟨h1,h2,h.inv,h.nx.ae k,h.c0,h.cN,h.cl,h.hn⟩
theorem mB.hN
  (h:mB B bm gI bM m M C bn K L mk SS ms D R n cs l vL vS vK vN gs w):∀b,vN.ownBlock=some b->b∉jy bm gI bM vL vS vK:=by
 intro b e hm;rcases (AI ..).1 hm with rfl|rfl|rfl|e2|e2|e2
 ·exact eI h.nx.own h.a.r.sm (by decide) _ e rfl
 ·exact iO h.nx.own h.a.r.lW (by decide) _ e rfl
 ·exact zz h.t.map h.nx.own _ e rfl
 ·exact iO h.nx.own h.a.r.dg (by decide) _ e e2
 ·exact iO h.nx.own h.t.os (by decide) _ e e2
 exact iO h.nx.own h.t.ok (by decide) _ e e2
theorem mB.close{st:List Nat}{e:Ending}
  (h:mB B bm gI bM m M C bn K L mk SS ms D R n cs l vL vS vK vN gs w) (hp:Iu w B (jy bm gI bM vL vS vK) bm gI m M bM cs L mk SS st n e w') (h0:∃x,x<M/\FR L (fun y=>y∈st) x):
  ∃(r:Int) (ki:List (Nat->Bool)) (vf:List Int) (D':List ((Nat->Bool) × Nat)) (n':Nat) (im:Array Value) (l':List Nat) (jN vS' vK':Value),e=.returned (.int .i64 r)/\mB B bm gI bM m M C bn K L mk ki vf D' R n' im l' jN vS' vK' vN gs w'/\
   nv M (fun x=>FR L (fun y=>y∈st) x) SS r ki/\Kept [] (jy bm gI bM vL vS vK) w w'/\Below B w w'/\∀x∈jy bm gI bM jN vS' vK',x∈jy bm gI bM vL vS vK\/w.heap.size<=x:=by
 obtain⟨j,ki,vf,D',jN,vS',vK',im,l',n',rfl,hA,hT,hI,hn,gH,hj,hS⟩:=hp;obtain⟨h1,h2⟩:=jq.self hA hT;refine⟨(j:Int),ki,vf,D',n',im,l',jN,vS',vK',rfl,⟨h1,h2,hI,h.nx.kept hA.r.kept h.hN (fun x hx=>zmJ hA hT hx),by rw[gH 0 (by decide) (by decide)];exact h.c0,by rw[gH 257 (by decide) (by decide)];exact h.cN,fun k hk=>by rw[gH (1+k) (by omega) (by omega)];exact h.cl k hk,by have:=h.hn;omega⟩,?_,hA.r.kept,hA.r.below,fun x hx=>zmJ hA hT hx⟩;exact inr ⟨h0,j,rfl,hj,hS⟩
theorem mB.yp
  (h:mB B bm gI bM m M C bn K L mk SS ms D R n cs l vL vS vK vN gs w):∀x∈jy bm gI bM vL vS vK,x<w.heap.size:=by
 have own:∀{t n:Nat}{v:Value}{xs:List Value},w.ownsRow B t 1 v n xs->∀g,v.ownBlock=some g->g<w.heap.size:=fun ho g e=>by
  obtain⟨c,fz,hc⟩:=qX ho g e;exact (Array.getElem?_eq_some_iff.1 hc).1
 intro x hx;rcases (AI ..).1 hx with rfl|rfl|rfl|e|e|e
 ·exact h.a.r.sm.lt
 ·exact own h.a.r.lW _ rfl
 ·exact h.t.map.lt
 ·exact own h.a.r.dg _ e
 ·exact own h.t.os _ e
 exact own h.t.ok _ e
theorem Kept.oz(k:Kept [] bs w w')(hg:g∉bs)(hl:g<w.heap.size):w'.cell? ⟨g,i,none⟩=w.cell? ⟨g,i,none⟩:=by
 have h:w'.heap[g]?=w.heap[g]?:=by rw[Array.getElem?_eq_getElem hl];exact k g _ (Array.getElem?_eq_getElem hl) (fun _ _ _ _=>by simp) hg
 simp only[World.cell?,h]
theorem zmK(N:Nat)(hN:N<=2147483647)(W:World):(Instr.makeSlice 43 (.int .i64 (N:Int)) (.int .i64 (N:Int))).run prog W=.ok (.slice (some ⟨W.heap.size,0,none⟩) N N) (W.alloc (.cells (madeCells #[.int .i64 0] N) 3)):=by
 have:=run_make_row' (P:=prog) 43 3 (.int .i64 0) 8 underlying43 aH rfl .i64 .i64 N (by omega) (by omega) W;simpa using this
theorem zkA(N:Nat):madeCells #[.int .i64 0] N=(ints (replicate N 0)).toArray:=by
 apply ext';apply List.ext_getElem?;intro i;by_cases hi:i<N
 ·simp[madeCells,ints,hi,Nat.mod_one]
 simp[madeCells,ints,hi]
theorem Zj(row:List Int)(C c:Nat)(h:row.length=c)(hc:c<C)(u v:Int):((ints ((row++[u])++replicate (C-(c+1)) 0)).toArray).setIfInBounds c (.int .i64 v)=(ints ((row++[v])++replicate (C-(c+1)) 0)).toArray:=by
 apply ext';simp[ints,h]
theorem zmL(row:List Int)(C c:Nat)(hc:c<C):row++replicate (C-c) (0:Int)=(row++[0])++replicate (C-(c+1)) 0:=by
 have:C-c=(C-(c+1))+1:=by omega
 rw[this,List.replicate_succ];simp
theorem zmM(row:List Int)(C c:Nat)(h:row.length=c)(u:Int):((ints ((row++[u])++replicate (C-(c+1)) 0)).toArray)[c]?=some (.int .i64 u):=by
 simp[ints,<-h]
theorem FR.none{A:Nat->Prop}(h:∀x,¬A x)(x:Nat):¬FR L A x:=by
 intro k
 induction k with
 | base h1=>exact h _ h1
 | step _ _ _ _ _ _ ih=>exact ih
theorem mB.kept
  (h:mB B bm gI bM m M C bn K L mk SS ms D R n cs l vL vS vK vN gs w) (k:Kept [] bs w w1) (hb:Below B w w1) (hd:∀x∈jy bm gI bM vL vS vK,x∉bs):
  jq w1 B (jy bm gI bM vL vS vK) bm gI m M cs l vL w1/\nE w1 B (jy bm gI bM vL vS vK) bM cs vL SS.length SS.length n (SS.map (kI M)) ms (MQ M D) vS vK w1:=by
 have hm:=AI bm gI bM vL vS vK;refine⟨⟨⟨Kept.refl _ _ _,Below.refl _ _,h.a.r.sm.kept k (by simp) (hd _ ((hm _).2 (by simp))),h.a.r.sz,h.a.r.cI,gk h.a.r.lW k (by simp) (fun g e=>hd _ ((hm _).2 (by simp[ownBlock] at e;simp[e]))),gk h.a.r.dg k (by simp) (fun g e=>hd _ ((hm _).2 (by simp[e]))),fun b e=>inl ((hm _).2 (by simp[e])),⟨by simp[jy],by simp[jy]⟩,h.a.r.lo.1,h.a.r.lo.2.1,le_trans h.a.r.hB hb.size⟩,h.a.nd,h.a.lt⟩,
  ⟨h.t.cK,h.t.cS,h.t.cM,gk h.t.os k (by simp) (fun g e=>hd _ ((hm _).2 (by simp[e]))),gk h.t.ok k (by simp) (fun g e=>hd _ ((hm _).2 (by simp[e]))),h.t.map.kept k (hd _ ((hm _).2 (by simp))),h.t.sep,fun b e=>inl ((hm _).2 (by simp[e])),fun b e=>inl ((hm _).2 (by simp[e])),by simp[jy],h.t.lM.2⟩⟩
theorem mB.gJ
  (h:mB B bm gI bM m M C bn K L mk SS ms D R n cs l vL vS vK vN gs w) (k:Kept [] bs w w1) (hb:Below B w w1) (hd:∀x∈jy bm gI bM vL vS vK,x∉bs) (hN:∀b,vN.ownBlock=some b->b∉bs) (hg:∀x∈gs,x∉bs):
  mB B bm gI bM m M C bn K L mk SS ms D R n cs l vL vS vK vN gs w1:=by
 obtain⟨h1,h2⟩:=h.kept k hb hd;exact⟨h1,h2,h.inv,⟨gk h.nx.own k (by simp) hN,h.nx.len,fun i hi hi'=>⟨(h.nx.row i hi hi').1.kept k (by simp) (hg _ (getElem_mem _)),(h.nx.row i hi hi').2⟩⟩,h.c0,h.cN,h.cl,h.hn⟩
theorem mB.next{gR:Nat}{row:List Int}
  (h:mB B bm gI bM m M C bn K L mk SS ms D R n cs l vL vS vK vN gs W) (dC:St W 3 gR (ints row).toArray) (CD:gR∉jy bm gI bM vL vS vK)
  (ho:w5.ownsRow B 43 1 v' (R.length+1) (gs.map (fun g=>.slice (some ⟨g,0,none⟩) C C)++[.slice (some ⟨gR,0,none⟩) C C])) (hg:W.grownBy w5 vN.ownBlock):
  mB B bm gI bM m M C bn K L mk SS ms D (R++[row]) n (cs.setIfInBounds 257 v') l vL vS vK v' (gs++[gR]) (w5.setCell ⟨bm,257,none⟩ v')/\Below B W (w5.setCell ⟨bm,257,none⟩ v'):=by
 have hk:Kept [] vN.ownBlock.toList W w5:=(Kept.refl _ _ _).grown hg (fun g e=>inl (by simp[e]));have hB:Below B W w5:=gu (Below.refl _ _) h.nx.own h.a.r.hB hg;obtain⟨hA,hT⟩:=h.kept hk hB (fun x hx hm=>h.hN x (by simpa using hm) hx);have hA2:=hA.yG 257 (by decide) (by decide) v';have ny:=hA.r.sm;have hT2:nE w5 B (jy bm gI bM vL vS vK) bM (cs.setIfInBounds 257 v') vL SS.length SS.length n (SS.map (kI M)) ms (MQ M D) vS vK (w5.setCell ⟨bm,257,none⟩ v'):=
  ⟨by rw[getElem?_setIfInBounds_ne (by decide)];exact hT.cK,by rw[getElem?_setIfInBounds_ne (by decide)];exact hT.cS,by rw[getElem?_setIfInBounds_ne (by decide)];exact hT.cM,kz hT.os ny (by decide) _ _,kz hT.ok ny (by decide) _ _,hT.map.set ny,hT.sep,
   fun b e=>inl ((AI ..).2 (by simp[e])),fun b e=>inl ((AI ..).2 (by simp[e])),hT.lM⟩
 obtain⟨hA3,LR⟩:=jq.self hA2 hT2;have hgs:∀g∈gs,∃i,∃h1:i<gs.length,gs[i]=g:=fun g hg=>by obtain⟨i,h1,h2⟩:=List.getElem_of_mem hg;exact⟨i,h1,h2⟩
 have hne:∀{g:Nat}{im:Array Value},St W 3 g im->St (w5.setCell ⟨bm,257,none⟩ v') 3 g im:=fun hs=>((hs.af h.nx.own (by decide) hg).gv ny (by decide) _ _)
 refine⟨⟨hA3,LR,h.inv,⟨?_,by simp[h.nx.len],fun i hi hi'=>?_⟩,?_,?_,fun j hj=>?_,h.hn⟩,hB.setCell (p:=⟨bm,257,none⟩) hA.r.lo.1 v'⟩
 ·rw[length_append,map_append];exact kz ho ny (by decide) _ _
 ·by_cases e:i<gs.length
  ·have e2:i<R.length:=(by rw[<-h.nx.len];exact e);rw[getElem_append_left e,getElem_append_left e2];exact⟨hne (h.nx.row i e e2).1,(h.nx.row i e e2).2⟩
  have e2:i=gs.length:=by simp at hi;omega
  subst e2;have e3:(R++[row])[gs.length]'hi'=row:=by
   rw[List.getElem_append_right (by rw[h.nx.len];exact le_refl _)];simp[h.nx.len]
  rw[e3,getElem_concat_length rfl];exact⟨hne dC,CD⟩
 ·rw[getElem?_setIfInBounds_ne (by decide)];exact h.c0
 ·rw[Array.getElem?_setIfInBounds_self_of_lt (by rw[h.a.r.sz];decide)]
 rw[getElem?_setIfInBounds_ne (by omega)];exact h.cl j hj
def oP(w:World)(a:Option Addr)(n:Nat)(A:Nat->Option Addr)(C len:Nat->Nat)(z:Nat->Nat->Int):Prop:=0<n->∃g off,a=some ⟨g,off,none⟩/\g<w.heap.size/\∀i,i<n->w.cell? ⟨g,off+i,none⟩=some (.slice (A i) (len i) (C i))/\lT w (A i) (len i) (z i)
theorem oP.below{A:Nat->Option Addr}{C len:Nat->Nat}{z:Nat->Nat->Int}(h:oP w a n A C len z)(k:ϐ w w'):oP w' a n A C len z:=by
 intro h0;obtain⟨g,off,e,hg,hc⟩:=h h0;have:=k.size;exact⟨g,off,e,by omega,fun j hj=>⟨(k.cell (p:=⟨g,off+j,none⟩) hg).trans (hc j hj).1,(hc j hj).2.below k⟩⟩
def zrR(n n2:Nat)(JQ Rc:Nat->Nat)(z1 z2:Nat->Nat->Int):Prop:=n=n2/\∀i,i<n->JQ i=Rc i/\∀x,x<JQ i->z1 i x=z2 i x
structure bK (w:World)(B ts te sz:Nat)(v:Value)(M:Nat)(vs:Nat->Value)(len:Nat->Nat)(xs:Nat->List Value):Prop where
 own:w.ownsRow B ts 1 v M ((range M).map vs)
 row:∀i,i<M->w.ownsRow B te sz (vs i) (len i) (xs i)
 sep:∀i j,i<M->j<M->i≠j->∀b,(vs i).ownBlock=some b->(vs j).ownBlock≠some b
theorem bK.ae{sz:Nat}{len:Nat->Nat}(h:bK w B ts te sz v M vs len xs)(k:ϐ w w'):bK w' B ts te sz v M vs len xs:=
 ⟨dE h.own k,fun i hi=>dE (h.row i hi) k,h.sep⟩
theorem bK.kept{sz:Nat}{len:Nat->Nat}(h:bK w B ts te sz v M vs len xs)(k:Kept [] bs w w')(h1:∀b,v.ownBlock=some b->b∉bs)(h2:∀i,i<M->∀b,(vs i).ownBlock=some b->b∉bs):bK w' B ts te sz v M vs len xs:=
 ⟨gk h.own k (by simp) h1,fun i hi=>gk (h.row i hi) k (by simp) (h2 i hi),h.sep⟩
theorem bK.congr{sz:Nat}{len yR:Nat->Nat}(h:bK w B ts te sz v M vs len xs)(e:∀i,i<M->len i=yR i/\xs i=wN i):bK w B ts te sz v M vs yR wN:=
 ⟨h.own,fun i hi=>by rw[<-(e i hi).1,<-(e i hi).2];exact h.row i hi,h.sep⟩
theorem bK.lt{sz:Nat}{len:Nat->Nat}(h:bK w B ts te sz v M vs len xs):(∀b,v.ownBlock=some b->b<w.heap.size)/\∀i,i<M->∀b,(vs i).ownBlock=some b->b<w.heap.size:=by
 have own:∀{t s n:Nat}{v:Value}{xs:List Value},w.ownsRow B t s v n xs->∀g,v.ownBlock=some g->g<w.heap.size:=fun ho g e=>by
  obtain⟨c,fz,hc⟩:=qX ho g e;exact (Array.getElem?_eq_some_iff.1 hc).1
 exact⟨own h.own,fun i hi=>own (h.row i hi)⟩
theorem bK.push{sz:Nat}{len:Nat->Nat}(h:bK w B ts te sz v M vs len xs)(ht:te≠ts)(hl:len M=0)(hx:xs M=[])
  (ho:w'.ownsRow B ts 1 v' (M+1) ((range M).map vs++[.slice none 0 0])) (hg:w.grownBy w' v.ownBlock):bK w' B ts te sz v' (M+1) (fun j=>if j=M then .slice none 0 0 else vs j) len xs:=by
 refine⟨?_,fun i hi=>?_,fun i j hi hj hij b=>?_⟩
 ·have e:(range (M+1)).map (fun j=>if j=M then .slice none 0 0 else vs j)=(range M).map vs++[.slice none 0 0]:=by
   rw[List.range_succ,map_append];congr 1
   ·refine(List.map_congr_left fun j hj=>?_);have:j<M:=(by simpa using hj);rw[if_neg (by omega)]
   simp
  rw[e];exact ho
 ·by_cases e:i=M
  ·subst e;simp only[if_pos rfl,hl,hx];exact ownsRow_nil _ _ _ _
  simp only[if_neg e];exact rS (h.row i (by omega)) hg (fun b e1 e2=>iO (h.row i (by omega)) h.own ht b e1 e2.symm)
 by_cases e1:i=M
 ·simp only[if_pos e1];intro e;simp[ownBlock] at e
 by_cases e2:j=M
 ·simp only[if_pos e2];intro _ e;simp[ownBlock] at e
 simp only[if_neg e1,if_neg e2];exact h.sep i j (by omega) (by omega) hij b
theorem bK.app{w w':World}{B ts te sz M g c:Nat}{vs:Nat->Value}{len:Nat->Nat}{xs:Nat->List Value}(h:bK w B ts te sz (.slice (some ⟨g,0,none⟩) M c) M vs len xs)(ht:te≠ts){i:Nat}(hi:i<M){v':Value}{n':Nat}{ys:List Value}(ho:w'.ownsRow B te sz v' n' ys)(hg:w.grownBy w' (vs i).ownBlock)
  (fD:∀b,v'.ownBlock=some b->(vs i).ownBlock=some b\/w.heap.size<=b):bK (w'.setCell ⟨g,i,none⟩ v') B ts te sz (.slice (some ⟨g,0,none⟩) M c) M (fun j=>if j=i then v' else vs j) (fun j=>if j=i then n' else len j) (fun j=>if j=i then ys else xs j):=by
 have hs:=wE h.own (h.row i hi) ht hg;have aq:=h.lt.2;have sf:∀{n:Nat}{u:Value}{zs:List Value},w'.ownsRow B te sz u n zs->(w'.setCell ⟨g,i,none⟩ v').ownsRow B te sz u n zs:=fun ho2=>
  gk (ts:=[]) (bs:=[g]) ho2 ((Kept.refl _ _ _).setCell _ _ (inl (by simp))) (by simp) (fun b e hm=>iO ho2 hs ht b e (by simp[List.mem_singleton.1 hm,ownBlock]))
 refine⟨?_,fun j hj=>?_,fun j k hj hk hjk b=>?_⟩
 ·have:=xC hs i hi v';have e:((range M).map vs).set i v'=(range M).map (fun j=>if j=i then v' else vs j):=by
   apply List.ext_getElem?;intro j;rw[List.getElem?_set];by_cases e:i=j
   ·subst e;simp[hi]
   have e':¬j=i:=(fun h=>e h.symm);simp only[if_neg e,List.getElem?_map];by_cases hj:j<M
   ·simp[hj,e']
   simp[hj]
  rwa [e] at this
 ·by_cases e:j=i
  ·subst e;simp only[if_pos rfl];exact sf ho
  simp only[if_neg e];exact sf (rS (h.row j hj) hg (fun b e1 e2=>h.sep j i hj hi e b e1 e2.symm))
 by_cases e1:j=i
 ·subst e1;have e2:¬k=j:=fun e=>hjk e.symm
  simp only[if_pos rfl,if_neg e2];intro e3 e4;rcases fD b e3 with h1|h1
  ·exact h.sep j k hj hk hjk b h1 e4
  have:=aq k hk b e4;omega
 by_cases e2:k=i
 ·subst e2;simp only[if_pos rfl,if_neg e1];intro e3 e4;rcases fD b e4 with h1|h1
  ·exact h.sep j k hj hk hjk b e3 h1
  have:=aq j hj b e3;omega
 simp only[if_neg e1,if_neg e2];exact h.sep j k hj hk hjk b
structure iE (B bn Mm Mf Ms:Nat)(cs:Array Value)(dt:List Int)(vM vF vS:Value)(fv sv:Nat->Value)(xs:Nat->List Value)(L:List En)(w:World):Prop where
 sn:St w 165 bn (((cs.setIfInBounds 257 vM).setIfInBounds 258 vF).setIfInBounds 259 vS)
 sz:cs.size=260
 om:w.ownsRow B 3 1 vM Mm (ints dt)
 fr:bK w B 43 3 1 vF Mf fv (fun i=>(eE L i).length) (fun i=>dv (eE L i))
 st:bK w B 195 197 2 vS Ms sv (fun i=>(dk L i).length) xs
 sep:∀i,i<Mf->∀b,vM.ownBlock=some b->(fv i).ownBlock≠some b
 lo:B<=bn/\B<=w.heap.size
 hE:∀e∈L,e.f<Mf/\e.f<Ms/\e.t<Mf
 hx:∀i,Ms<=i->xs i=[]
theorem iE.ae(h:iE B bn Mm Mf Ms cs dt vM vF vS fv sv xs L w)(k:ϐ w w'):iE B bn Mm Mf Ms cs dt vM vF vS fv sv xs L w':=
 ⟨h.sn.ae k,h.sz,dE h.om k,h.fr.ae k,h.st.ae k,h.sep,⟨h.lo.1,le_trans h.lo.2 k.size⟩,h.hE,h.hx⟩
def np(bn Mf Ms:Nat)(vM vF vS:Value)(fv sv:Nat->Value)(x:Nat):Prop:=
 x=bn\/vM.ownBlock=some x\/vF.ownBlock=some x\/vS.ownBlock=some x\/(∃i,i<Mf/\(fv i).ownBlock=some x)\/∃i,i<Ms/\(sv i).ownBlock=some x
theorem iE.kept(h:iE B bn Mm Mf Ms cs dt vM vF vS fv sv xs L w)(k:Kept [] bs w w')(hs:w.heap.size<=w'.heap.size)(hd:∀x,np bn Mf Ms vM vF vS fv sv x->x∉bs):iE B bn Mm Mf Ms cs dt vM vF vS fv sv xs L w':=
 ⟨h.sn.kept k (by simp) (hd _ (inl rfl)),h.sz,gk h.om k (by simp) (fun b e=>hd b (inr (inl e))),
  h.fr.kept k (fun b e=>hd b (inr (inr (inl e)))) (fun i hi b e=>hd b (inr (inr (inr (inr (inl ⟨i,hi,e⟩)))))),
  h.st.kept k (fun b e=>hd b (inr (inr (inr (inl e))))) (fun i hi b e=>hd b (inr (inr (inr (inr (inr ⟨i,hi,e⟩)))))),h.sep,⟨h.lo.1,le_trans h.lo.2 hs⟩,h.hE,h.hx⟩
theorem iE.lt(h:iE B bn Mm Mf Ms cs dt vM vF vS fv sv xs L w):∀x,np bn Mf Ms vM vF vS fv sv x->B<=x/\x<w.heap.size:=by
 have own:∀{t s n:Nat}{v:Value}{xs:List Value},w.ownsRow B t s v n xs->∀g,v.ownBlock=some g->B<=g/\g<w.heap.size:=fun ho g e=>by
  obtain⟨c,fz,hc⟩:=qX ho g e;exact⟨ln ho g e,(Array.getElem?_eq_some_iff.1 hc).1⟩
 rintro x (rfl|e|e|e|⟨i,hi,e⟩|⟨i,hi,e⟩)
 ·exact⟨h.lo.1,h.sn.lt⟩
 ·exact own h.om _ e
 ·exact own h.fr.own _ e
 ·exact own h.st.own _ e
 ·exact own (h.fr.row i hi) _ e
 exact own (h.st.row i hi) _ e
theorem iE.cells(h:iE B bn Mm Mf Ms cs dt vM vF vS fv sv xs L w):
  w.cell? ⟨bn,257,none⟩=some vM/\w.cell? ⟨bn,258,none⟩=some vF/\w.cell? ⟨bn,259,none⟩=some vS:=by
 refine⟨?_,?_,?_⟩
 ·rw[h.sn.at_,getElem?_setIfInBounds_ne (by decide),getElem?_setIfInBounds_ne (by decide),Array.getElem?_setIfInBounds_self_of_lt (by rw[h.sz];decide)]
 ·rw[h.sn.at_,getElem?_setIfInBounds_ne (by decide),Array.getElem?_setIfInBounds_self_of_lt (by simp[h.sz])]
 rw[h.sn.at_,Array.getElem?_setIfInBounds_self_of_lt (by simp[h.sz])]
theorem zoB(cs:Array Value)(a b c d:Value):((((cs.setIfInBounds 257 a).setIfInBounds 258 b).setIfInBounds 259 c).setIfInBounds 257 d)=(((cs.setIfInBounds 257 d).setIfInBounds 258 b).setIfInBounds 259 c):=by
 rw[Array.setIfInBounds_comm c d (by decide),Array.setIfInBounds_comm b d (by decide),Array.setIfInBounds_setIfInBounds]
theorem zoC(cs:Array Value)(a b c d:Value):((((cs.setIfInBounds 257 a).setIfInBounds 258 b).setIfInBounds 259 c).setIfInBounds 258 d)=(((cs.setIfInBounds 257 a).setIfInBounds 258 d).setIfInBounds 259 c):=by
 rw[Array.setIfInBounds_comm c d (by decide),Array.setIfInBounds_setIfInBounds]
structure jm (B bn:Nat)(P P':Nat->Prop)(w w':World):Prop where
 kept:∃bs,Kept [] bs w w'/\∀x∈bs,P x\/w.heap.size<=x
 new:∀x,P' x->P x\/w.heap.size<=x
 below:Below B w w'
theorem jm.trans{P P' P2:Nat->Prop}{w2:World}(h:jm B bn P P' w w')(k:jm B bn P' P2 w' w2):jm B bn P P2 w w2:=by
 obtain⟨b1,h1,h2⟩:=h.kept;obtain⟨b2,k1,k2⟩:=k.kept;have hs:=h.below.size;refine⟨⟨b1++b2,(h1.mono (fun _ h=>h) (fun x hx=>List.mem_append.2 (inl hx))).trans (k1.mono (fun _ h=>h) (fun x hx=>List.mem_append.2 (inr hx))),fun x hx=>?_⟩,fun x hx=>?_,h.below.trans k.below⟩
 ·rcases List.mem_append.1 hx with hx|hx
  ·exact h2 x hx
  rcases k2 x hx with h3|h3
  ·exact h.new x h3
  exact inr (by omega)
 rcases k.new x hx with h3|h3
 ·exact h.new x h3
 exact inr (by omega)
theorem jm.ae{P:Nat->Prop}(k:ϐ w w')(hB:B<=w.heap.size):jm B bn P P w w':=
 ⟨⟨[],Kept.below (Kept.refl _ _ _) k,by simp⟩,fun x h=>inl h,k.mono hB⟩
theorem iE.Ja(h:iE B bn Mm Mf Ms cs dt vM vF vS fv sv xs L W)
  (ho:w5.ownsRow B 3 1 v' (Mm+1) (ints dt++[.int .i64 r])) (hg:W.grownBy w5 vM.ownBlock) (fD:v'.ownBlock=vM.ownBlock\/v'.ownBlock=some W.heap.size):
  iE B bn (Mm+1) Mf Ms cs (dt++[r]) v' vF vS fv sv xs L (w5.setCell ⟨bn,257,none⟩ v')/\jm B bn (np bn Mf Ms vM vF vS fv sv) (np bn Mf Ms v' vF vS fv sv) W (w5.setCell ⟨bn,257,none⟩ v'):=by
 have aq:=h.lt;have hk:Kept [] (bn :: vM.ownBlock.toList) W w5:=(Kept.refl _ _ _).grown hg (fun g e=>inl (by simp[e]));have fS:Kept [] (bn :: vM.ownBlock.toList) W (w5.setCell ⟨bn,257,none⟩ v'):=hk.setCell _ _ (inl (by simp));have hB:Below B W w5:=gu (Below.refl _ _) h.om h.lo.2 hg;have qJ:=h.sn.af h.om (by decide) hg;have hne:∀{t s n:Nat}{v:Value}{ys:List Value},W.ownsRow B t s v n ys->t≠165->(∀b,v.ownBlock=some b->vM.ownBlock≠some b)->∀b,v.ownBlock=some b->b∉bn :: vM.ownBlock.toList:=fun ho ht hn b e hm=>by
  rcases List.mem_cons.1 hm with rfl|hm
  ·exact eI ho h.sn ht _ e rfl
  exact hn b e (by simpa using hm)
 refine⟨⟨?_,h.sz,?_,h.fr.kept fS (hne h.fr.own (by decide) (fun b e1 e2=>iO h.fr.own h.om (by decide) b e1 e2)) (fun i hi=>hne (h.fr.row i hi) (by decide) (fun b e1 e2=>h.sep i hi b e2 e1)),
  h.st.kept fS (hne h.st.own (by decide) (fun b e1 e2=>iO h.st.own h.om (by decide) b e1 e2)) (fun i hi=>hne (h.st.row i hi) (by decide) (fun b e1 e2=>iO (h.st.row i hi) h.om (by decide) b e1 e2)),fun i hi b e1 e2=>?_,⟨h.lo.1,?_⟩,h.hE,h.hx⟩,
  ⟨⟨_,fS,fun x hx=>inl ?_⟩,fun x hx=>?_,hB.setCell (p:=⟨bn,257,none⟩) h.lo.1 v'⟩⟩
 ·have:=qJ.set 257 v';rwa [zoB] at this
 ·rw[show ints (dt++[r])=ints dt++[.int .i64 r] by simp[ints]];exact kz ho qJ (by decide) _ _
 ·rcases fD with h1|h1
  ·rw[h1] at e1;exact h.sep i hi b e1 e2
  rw[h1] at e1;injection e1 with e1;have:=(aq b (inr (inr (inr (inr (inl ⟨i,hi,e2⟩)))))).2;omega
 ·have:=hB.size;have:=h.lo.2;simp only[size_setCell];omega
 ·rcases List.mem_cons.1 hx with rfl|hx
  ·exact inl rfl
  exact inr (inl (by simpa using hx))
 rcases hx with e|e|e
 ·exact inl (inl e)
 ·rcases fD with h1|h1
  ·exact inl (inr (inl (by rw[<-h1];exact e)))
  rw[h1] at e;injection e with e;exact inr (by omega)
 exact inl (inr (inr e))
theorem YJ(h:∀e∈L,e.f<M)(hi:M<=i):eE L i=[]:=by
 unfold eE;rw[List.filter_eq_nil_iff.2 (fun e he=>by have:=h e he;have h2:¬e.f=i:=(by omega);simp[h2])];rfl
theorem Wj(h:∀e∈L,e.f<M)(hi:M<=i):dk L i=[]:=by
 unfold dk;exact List.filter_eq_nil_iff.2 (fun e he=>by have:=h e he;have h2:¬e.f=i:=(by omega);simp[h2])
theorem iE.JT(h:iE B bn Mm Mf Ms cs dt vM vF vS fv sv xs L W)
  (ho:w5.ownsRow B 43 1 v' (Mf+1) ((range Mf).map fv++[.slice none 0 0])) (hg:W.grownBy w5 vF.ownBlock) (fD:v'.ownBlock=vF.ownBlock\/v'.ownBlock=some W.heap.size):
  iE B bn Mm (Mf+1) Ms cs dt vM v' vS (fun j=>if j=Mf then .slice none 0 0 else fv j) sv xs L (w5.setCell ⟨bn,258,none⟩ v')/\jm B bn (np bn Mf Ms vM vF vS fv sv) (np bn (Mf+1) Ms vM v' vS (fun j=>if j=Mf then .slice none 0 0 else fv j) sv) W (w5.setCell ⟨bn,258,none⟩ v'):=by
 have hk:Kept [] (bn :: vF.ownBlock.toList) W w5:=(Kept.refl _ _ _).grown hg (fun g e=>inl (by simp[e]));have fS:Kept [] (bn :: vF.ownBlock.toList) W (w5.setCell ⟨bn,258,none⟩ v'):=hk.setCell _ _ (inl (by simp));have hB:Below B W w5:=gu (Below.refl _ _) h.fr.own h.lo.2 hg;have qJ:=h.sn.af h.fr.own (by decide) hg;have hne:∀{t s n:Nat}{v:Value}{ys:List Value},W.ownsRow B t s v n ys->t≠165->t≠43->∀b,v.ownBlock=some b->b∉bn :: vF.ownBlock.toList:=fun ho ht hn b e hm=>by
  rcases List.mem_cons.1 hm with rfl|hm
  ·exact eI ho h.sn ht _ e rfl
  exact iO ho h.fr.own hn b e (by simpa using hm)
 have ph:=(h.fr.push (by decide) (by simp[YJ (fun e he=>(h.hE e he).1) (le_refl _)]) (by simp[YJ (fun e he=>(h.hE e he).1) (le_refl _),dv]) ho hg)
 refine⟨⟨?_,h.sz,gk h.om fS (by simp) (hne h.om (by decide) (by decide)),ph.kept (bs:=[bn]) ((Kept.refl _ _ _).setCell _ _ (inl (by simp))) (fun b e hm=>eI ph.own qJ (by decide) b e (List.mem_singleton.1 hm)) (fun i hi b e hm=>eI (ph.row i hi) qJ (by decide) b e (List.mem_singleton.1 hm)),
  h.st.kept fS (hne h.st.own (by decide) (by decide)) (fun i hi=>hne (h.st.row i hi) (by decide) (by decide)),fun i hi b e1 e2=>?_,⟨h.lo.1,?_⟩,fun e he=>⟨by have:=(h.hE e he).1;omega,(h.hE e he).2.1,by have:=(h.hE e he).2.2;omega⟩,h.hx⟩,
  ⟨⟨_,fS,fun x hx=>inl ?_⟩,fun x hx=>?_,hB.setCell (p:=⟨bn,258,none⟩) h.lo.1 v'⟩⟩
 ·have:=qJ.set 258 v';rwa [zoC] at this
 ·by_cases e:i=Mf
  ·rw[if_pos e] at e2;simp[ownBlock] at e2
  rw[if_neg e] at e2;exact h.sep i (by omega) b e1 e2
 ·have:=hB.size;have:=h.lo.2;simp only[size_setCell];omega
 ·rcases List.mem_cons.1 hx with rfl|hx
  ·exact inl rfl
  exact inr (inr (inl (by simpa using hx)))
 rcases hx with e|e|e|e|⟨i,hi,e⟩|e
 ·exact inl (inl e)
 ·exact inl (inr (inl e))
 ·rcases fD with h1|h1
  ·exact inl (inr (inr (inl (by rw[<-h1];exact e))))
  rw[h1] at e;injection e with e;exact inr (by omega)
 ·exact inl (inr (inr (inr (inl e))))
 ·dsimp only at e;by_cases e1:i=Mf
  ·rw[if_pos e1] at e;simp[ownBlock] at e
  rw[if_neg e1] at e;exact inl (inr (inr (inr (inr (inl ⟨i,by omega,e⟩)))))
 exact inl (inr (inr (inr (inr (inr e)))))
theorem iE.Kk(h:iE B bn Mm Mf Ms cs dt vM vF vS fv sv xs L W)
  (ho:w5.ownsRow B 195 1 v' (Ms+1) ((range Ms).map sv++[.slice none 0 0])) (hg:W.grownBy w5 vS.ownBlock) (fD:v'.ownBlock=vS.ownBlock\/v'.ownBlock=some W.heap.size):
  iE B bn Mm Mf (Ms+1) cs dt vM vF v' fv (fun j=>if j=Ms then .slice none 0 0 else sv j) xs L (w5.setCell ⟨bn,259,none⟩ v')/\jm B bn (np bn Mf Ms vM vF vS fv sv) (np bn Mf (Ms+1) vM vF v' fv (fun j=>if j=Ms then .slice none 0 0 else sv j)) W (w5.setCell ⟨bn,259,none⟩ v'):=by
 have hk:Kept [] (bn :: vS.ownBlock.toList) W w5:=(Kept.refl _ _ _).grown hg (fun g e=>inl (by simp[e]));have fS:Kept [] (bn :: vS.ownBlock.toList) W (w5.setCell ⟨bn,259,none⟩ v'):=hk.setCell _ _ (inl (by simp));have hB:Below B W w5:=gu (Below.refl _ _) h.st.own h.lo.2 hg;have qJ:=h.sn.af h.st.own (by decide) hg;have hne:∀{t s n:Nat}{v:Value}{ys:List Value},W.ownsRow B t s v n ys->t≠165->t≠195->∀b,v.ownBlock=some b->b∉bn :: vS.ownBlock.toList:=fun ho ht hn b e hm=>by
  rcases List.mem_cons.1 hm with rfl|hm
  ·exact eI ho h.sn ht _ e rfl
  exact iO ho h.st.own hn b e (by simpa using hm)
 have ph:=(h.st.push (by decide) (by simp[Wj (fun e he=>(h.hE e he).2.1) (le_refl _)]) (h.hx _ (le_refl _)) ho hg)
 refine⟨⟨?_,h.sz,gk h.om fS (by simp) (hne h.om (by decide) (by decide)),h.fr.kept fS (hne h.fr.own (by decide) (by decide)) (fun i hi=>hne (h.fr.row i hi) (by decide) (by decide)),
  ph.kept (bs:=[bn]) ((Kept.refl _ _ _).setCell _ _ (inl (by simp))) (fun b e hm=>eI ph.own qJ (by decide) b e (List.mem_singleton.1 hm)) (fun i hi b e hm=>eI (ph.row i hi) qJ (by decide) b e (List.mem_singleton.1 hm)),h.sep,⟨h.lo.1,?_⟩,fun e he=>⟨(h.hE e he).1,by have:=(h.hE e he).2.1;omega,(h.hE e he).2.2⟩,fun i hi=>h.hx i (by omega)⟩,
  ⟨⟨_,fS,fun x hx=>inl ?_⟩,fun x hx=>?_,hB.setCell (p:=⟨bn,259,none⟩) h.lo.1 v'⟩⟩
 ·have:=qJ.set 259 v';rwa [Array.setIfInBounds_setIfInBounds] at this
 ·have:=hB.size;have:=h.lo.2;simp only[size_setCell];omega
 ·rcases List.mem_cons.1 hx with rfl|hx
  ·exact inl rfl
  exact inr (inr (inr (inl (by simpa using hx))))
 rcases hx with e|e|e|e|e|⟨i,hi,e⟩
 ·exact inl (inl e)
 ·exact inl (inr (inl e))
 ·exact inl (inr (inr (inl e)))
 ·rcases fD with h1|h1
  ·exact inl (inr (inr (inr (inl (by rw[<-h1];exact e)))))
  rw[h1] at e;injection e with e;exact inr (by omega)
 ·exact inl (inr (inr (inr (inr (inl e)))))
 dsimp only at e;by_cases e1:i=Ms
 ·rw[if_pos e1] at e;simp[ownBlock] at e
 rw[if_neg e1] at e;exact inl (inr (inr (inr (inr (inr ⟨i,by omega,e⟩)))))
theorem xd:(prog.info? 195).map (fun i=>(i.zero,i.size,i.bytes))=some (some (.slice none 0 0),1,24):=by kernel_rfl
def zr6(B bn M:Nat)(cs:Array Value)(dt:List Int)(vM vF vS:Value)(fv sv:Nat->Value)(xs:Nat->List Value)(L:List En)(r:Int)(w:World)(e:Ending)(w':World):Prop:=
 ∃si sW vS',e=.returned (.int .i64 (M:Int))/\iE B bn (M+1) (M+1) (M+1) cs (dt++[r]) si sW vS' (fun j=>if j=M then .slice none 0 0 else fv j) (fun j=>if j=M then .slice none 0 0 else sv j) xs L w'/\
  jm B bn (np bn M M vM vF vS fv sv) (np bn (M+1) (M+1) si sW vS' (fun j=>if j=M then .slice none 0 0 else fv j) (fun j=>if j=M then .slice none 0 0 else sv j)) w w'
theorem zoD(B bn M:Nat)(cs:Array Value)(dt:List Int)(vM vF vS:Value)(fv sv:Nat->Value)(xs:Nat->List Value)(L:List En)(w:World)(h:iE B bn M M M cs dt vM vF vS fv sv xs L w)(hM:M<=100000)(r:Int):
  Calls prog 150 #[.pointer (some ⟨bn,0,none⟩),.int .i64 r] w (zr6 B bn M cs dt vM vF vS fv sv xs L r w):=by
 obtain⟨aM,cM,rfl⟩:=cy h.om;obtain⟨aF,cF,rfl⟩:=cy h.fr.own;obtain⟨aS,cS,rfl⟩:=cy h.st.own;obtain⟨c0,_,_⟩:=h.cells;have hO:=h.om;have hB:=h.lo.2;have H:=hid h;obtain⟨i0,hi,dP,dc,db⟩:=info_parts aH;obtain⟨i1,hj,Vc,Fo,qw⟩:=info_parts fa;obtain⟨i2,hk,oI,CI,lZ⟩:=info_parts xd;clear h;go_in;go_wp2_with (at_builtin;refine wpList_append_own_at _ rfl _ _ 43 rfl B 3 i0 (.int .i64 0) 1 8 underlying43 hi dP dc db rfl (by decide) _ _ _ rfl (hO.alloc _) ⟨w.heap.size,0,none⟩ 1 1 [.int .i64 r] rfl rfl (cell_one_new _ _ _) ?d2 ?d3 ?d4 ?d5 ?_)
 case d2=>intro u hu;simp at hu;subst hu;rfl
 case d3=>unfold maxLen;omega
 case d4=>omega
 case d5=>simp;omega
 intro v' w5 ak aj _ bW;obtain⟨a5,c5,rfl⟩:=cy ak;have h1:=H.o.ae (al w (.cells #[.int .i64 r] 3));have F1:=jm.ae (B:=B) (bn:=bn) (P:=np bn M M (.slice aM M cM) (.slice aF M cF) (.slice aS M cS) fv sv) (al w (.cells #[.int .i64 r] 3)) hB;obtain⟨h2,F2⟩:=h1.Ja ak aj (by simpa using bW);have H2:=ζ h2 (F1.trans F2);have jE:St w5 165 bn _:=h1.sn.af h1.om (by decide) aj;have p1:w5.cell? ⟨bn,257,none⟩=some (.slice aM M cM):=by
  rw[jE.at_,<-h1.sn.at_];exact h1.cells.1
 have p2:=jE.bE 257;clear ak aj bW h1 F1 h2 F2 jE c0 hO;go_upto_region 2 with fail;generalize w5.setCell ⟨bn,257,none⟩ (.slice a5 (M+1) c5)=W2 at H2⊢;clear p1 p2;obtain⟨_,c0,_⟩:=H2.o.1.cells;have hO:=H2.o.1.fr.own;have nO:=H2.o.1.lo.2;go_wp2_with (at_builtin;refine wpList_append_own_at _ rfl _ _ 99 rfl B 43 i1 (.slice none 0 0) 1 24 underlying99 hj Vc Fo qw rfl (by decide) _ _ _ rfl (hO.alloc _) ⟨W2.heap.size,0,none⟩ 1 1 [.slice none 0 0] rfl rfl (cell_one_new _ _ _) ?d2 ?d3 ?d4 ?d5 ?_)
 case d2=>intro u hu;simp at hu;subst hu;rfl
 case d3=>unfold maxLen;omega
 case d4=>omega
 case d5=>simp;omega
 intro v' w6 ak aj _ bW;obtain⟨a6,c6,rfl⟩:=cy ak;have h1:=H2.o.1.ae (al W2 (.cells #[.slice none 0 0] 43));have F1:=H2.o.2.trans (jm.ae (al W2 (.cells #[.slice none 0 0] 43)) nO);obtain⟨h2,F2⟩:=h1.JT ak aj (by simpa using bW);have H3:=ζ h2 (F1.trans F2);have jE:St w6 165 bn _:=h1.sn.af h1.fr.own (by decide) aj;have p1:w6.cell? ⟨bn,258,none⟩=some (.slice aF M cF):=by
  rw[jE.at_,<-h1.sn.at_];exact h1.cells.2.1
 have p2:=jE.bE 258;clear ak aj bW h1 F1 h2 F2 jE c0 hO nO H2;go_upto_region 3 with fail;generalize w6.setCell ⟨bn,258,none⟩ (.slice a6 (M+1) c6)=W3 at H3⊢;clear p1 p2;obtain⟨_,_,c0⟩:=H3.o.1.cells;have hO:=H3.o.1.st.own;have nO:=H3.o.1.lo.2;go_wp2_with (at_builtin;refine wpList_append_own_at _ rfl _ _ 163 rfl B 195 i2 (.slice none 0 0) 1 24 underlying163 hk oI CI lZ rfl (by decide) _ _ _ rfl (hO.alloc _) ⟨W3.heap.size,0,none⟩ 1 1 [.slice none 0 0] rfl rfl (cell_one_new _ _ _) ?d2 ?d3 ?d4 ?d5 ?_)
 case d2=>intro u hu;simp at hu;subst hu;rfl
 case d3=>unfold maxLen;omega
 case d4=>omega
 case d5=>simp;omega
 intro v' w7 ak aj _ bW;obtain⟨a7,c7,rfl⟩:=cy ak;have h1:=H3.o.1.ae (al W3 (.cells #[.slice none 0 0] 195));have F1:=H3.o.2.trans (jm.ae (al W3 (.cells #[.slice none 0 0] 195)) nO);obtain⟨h2,F2⟩:=h1.Kk ak aj (by simpa using bW);have H4:=ζ h2 (F1.trans F2);have jE:St w7 165 bn _:=h1.sn.af h1.st.own (by decide) aj;have p1:w7.cell? ⟨bn,259,none⟩=some (.slice aS M cS):=by
  rw[jE.at_,<-h1.sn.at_];exact h1.cells.2.2
 have p2:=jE.bE 259;clear ak aj bW h1 F1 h2 F2 jE c0 hO nO H3;go_upto_region 4 with fail;generalize w7.setCell ⟨bn,259,none⟩ (.slice a7 (M+1) c7)=W4 at H4⊢;clear p1 p2;obtain⟨c0,_,_⟩:=H4.o.1.cells;go_wp2;go_ret;exact⟨_,_,_,rfl,H4.o.1,H4.o.2⟩
theorem jm.st{P P':Nat->Prop}(F:jm B bn P P' w w')(h:St w t g cs)(hn:¬P g):St w' t g cs:=by
 obtain⟨bs,k,h2⟩:=F.kept;exact h.kept k (by simp) (fun hm=>by rcases h2 g hm with h3|h3;exact hn h3;have:=h.lt;omega)
theorem jm.map{b:Nat}{P P':Nat->Prop}{Q:Value->Value->Prop}(F:jm B bn P P' w w')(h:aJ w t b n Q)(hn:¬P b):aJ w' t b n Q:=by
 obtain⟨bs,k,h2⟩:=F.kept;exact h.kept k (fun hm=>by rcases h2 b hm with h3|h3;exact hn h3;have:=h.lt;omega)
theorem jm.own{B' s:Nat}{P P':Nat->Prop}{xs:List Value}(F:jm B bn P P' w w')(h:w.ownsRow B' t s v n xs)(hn:∀g,v.ownBlock=some g->¬P g):w'.ownsRow B' t s v n xs:=by
 obtain⟨bs,k,h2⟩:=F.kept;exact gk h k (by simp) (fun g e hm=>by
  rcases h2 g hm with h3|h3
  ·exact hn g e h3
  ·obtain⟨c,fz,hc⟩:=qX h g e
   have:=(Array.getElem?_eq_some_iff.1 hc).1;omega)
theorem jm.GL{P P':Nat->Prop}(F:jm B bn P P' w w')(h:0<l.length->∃g off,a=some ⟨g,off,none⟩/\g<w.heap.size/\¬P g/\∀j (h:j<l.length),w.cell? ⟨g,off+j,none⟩=some (.int .i64 ((l[j]:Nat):Int))):
  0<l.length->∃g off,a=some ⟨g,off,none⟩/\g<w'.heap.size/\¬P' g/\∀j (h:j<l.length),w'.cell? ⟨g,off+j,none⟩=some (.int .i64 ((l[j]:Nat):Int)):=by
 intro h0;obtain⟨g,off,e,hg,hn,hc⟩:=h h0;obtain⟨bs,k,h2⟩:=F.kept;have dd:g∉bs:=fun hm=>by rcases h2 g hm with h|h;exact hn h;omega
 refine⟨g,off,e,lt_of_lt_of_le hg F.below.size,fun hm=>?_,fun j hj=>?_⟩
 ·rcases F.new g hm with h|h
  ·exact hn h
  omega
 rw[k.oz dd hg];exact hc j hj
theorem jm.more{P P':Nat->Prop}(F:jm B bn P P' w w')(Z:Nat->Prop):jm B bn (fun x=>Z x\/P x) (fun x=>Z x\/P' x) w w':=by
 obtain⟨bs,k,h2⟩:=F.kept;exact⟨⟨bs,k,fun x hx=>(h2 x hx).elim (fun h=>inl (inr h)) inr⟩,fun x hx=>hx.elim (fun h=>inl (inl h)) (fun h=>(F.new x h).elim (fun h=>inl (inr h)) inr),F.below⟩
theorem iE.qt(h:iE B bn Mm Mf Ms cs dt vM vF vS fv sv xs L w)(hs:St w t g im)
  (h1:t≠165) (h2:t≠3) (h3:t≠43) (h4:t≠195) (h5:t≠197):¬np bn Mf Ms vM vF vS fv sv g:=by
 rintro (e|e|e|e|⟨i,hi,e⟩|⟨i,hi,e⟩)
 ·exact hs.ne h.sn h1 e
 ·exact eI h.om hs (fun e=>h2 e.symm) g e rfl
 ·exact eI h.fr.own hs (fun e=>h3 e.symm) g e rfl
 ·exact eI h.st.own hs (fun e=>h4 e.symm) g e rfl
 ·exact eI (h.fr.row i hi) hs (fun e=>h2 e.symm) g e rfl
 exact eI (h.st.row i hi) hs (fun e=>h5 e.symm) g e rfl
theorem iE.mh{b:Nat}{Q:Value->Value->Prop}(h:iE B bn Mm Mf Ms cs dt vM vF vS fv sv xs L w)(hm:aJ w k b n Q):¬np bn Mf Ms vM vF vS fv sv b:=by
 rintro (e|e|e|e|⟨i,hi,e⟩|⟨i,hi,e⟩)
 ·exact Cx hm h.sn e.symm
 ·exact zz hm h.om b e rfl
 ·exact zz hm h.fr.own b e rfl
 ·exact zz hm h.st.own b e rfl
 ·exact zz hm (h.fr.row i hi) b e rfl
 exact zz hm (h.st.row i hi) b e rfl
theorem iE.ey{b:Nat}{Q:Value->Value->Prop}(h:iE B bn Mm Mf Ms cs dt vM vF vS fv sv xs L w)(hm:aJ w k b n Q)(hg:w.grownBy w1 (some b))(hb:B<=b):
  iE B bn Mm Mf Ms cs dt vM vF vS fv sv xs L w1/\jm B bn (fun x=>x=b\/np bn Mf Ms vM vF vS fv sv x) (fun x=>x=b\/np bn Mf Ms vM vF vS fv sv x) w w1:=by
 have hk:Kept [] [b] w w1:=(Kept.refl _ _ _).grown hg (fun g e=>by injection e with e;exact inl (by simp[<-e]));have hB:Below B w w1:=(Below.refl _ _).grown hg h.lo.2 (fun g e=>by injection e with e;rw[<-e];exact hb);exact⟨h.kept hk hB.size (fun x hx lZ=>h.mh hm (by rw[<-List.mem_singleton.1 lZ];exact hx)),⟨⟨[b],hk,fun x hx=>inl (inl (List.mem_singleton.1 hx))⟩,fun x hx=>inl hx,hB⟩⟩
structure uL (V:World)(B bn b3 b5 b6 bM:Nat)(fn:Value)(mf:Nat->Int)(nm:List Nat)(cs:Array Value)(vM vF vS:Value)(fv sv:Nat->Value)(xs:Nat->List Value)(L:List En)(w:World):Prop where
 n:iE B bn nm.length nm.length nm.length cs (nm.map mf) vM vF vS fv sv xs L w
 sM:St w 191 b6 #[.map (some bM)]
 sT:St w 160 b5 #[.pointer (some ⟨bn,0,none⟩)]
 sF:St w 137 b3 #[fn]
 map:aJ w 3 bM nm.length (AV nm)
 nd:nm.Nodup
 le:∀x∈nm,x<=9223372036854775807
 bM:B<=bM
 bc:Below B V w
def Br(bM bn M:Nat)(vM vF vS:Value)(fv sv:Nat->Value)(x:Nat):Prop:=x=bM\/np bn M M vM vF vS fv sv x
theorem uL.ae(h:uL V B bn b3 b5 b6 bM fn mf nm cs vM vF vS fv sv xs L w)(k:ϐ w w'):uL V B bn b3 b5 b6 bM fn mf nm cs vM vF vS fv sv xs L w':=
 ⟨h.n.ae k,h.sM.ae k,h.sT.ae k,h.sF.ae k,h.map.same (k.block _ h.map.lt),h.nd,h.le,h.bM,h.bc.trans (k.mono h.n.lo.2)⟩
def XM(V:World)(B bn b3 b5 b6 bM:Nat)(fn:Value)(mf:Nat->Int)(nm:List Nat)(cs:Array Value)(vM vF vS:Value)(fv sv:Nat->Value)(xs:Nat->List Value)(L:List En)(s:Nat)(w:World)(e:Ending)(w':World):Prop:=
 ∃(k:Nat) (lg:List Nat) (si sW vS':Value) (x8 xV:Nat->Value),e=.returned (.int .i64 (k:Int))/\uL V B bn b3 b5 b6 bM fn mf lg cs si sW vS' x8 xV xs L w'/\lg[k]?=some s/\(lg=nm\/lg=nm++[s])/\
  jm B bn (Br bM bn nm.length vM vF vS fv sv) (Br bM bn lg.length si sW vS' x8 xV) w w'
theorem RL(V:World)(B bn b3 b5 b6 bM kf bV:Nat)(mf:Nat->Int)(nm:List Nat)(cs:Array Value)(vM vF vS:Value)(fv sv:Nat->Value)(xs:Nat->List Value)(L:List En)(w:World)(HC:∀(args:Array Value) (W:World),(callFunc kf args).run prog W=.ok (.enter kf args) W)
  (HM:∀W,Below B V W->∀x,x<=9223372036854775807->Calls prog kf #[.int .i64 ((x:Nat):Int),.pointer (some ⟨bV,0,none⟩)] W fun e w'=>e=.returned (.int .i64 (mf x))/\w'=W)
  (h:uL V B bn b3 b5 b6 bM (.func (.func kf) #[] #[.pointer (some ⟨bV,0,none⟩)]) mf nm cs vM vF vS fv sv xs L w) (hlen:nm.length<=90000) (s:Nat) (hs:s<=9223372036854775807):
  Calls prog 149 #[.int .i64 (s:Int),.pointer (some ⟨b6,0,none⟩),.pointer (some ⟨b5,0,none⟩),.pointer (some ⟨b3,0,none⟩)] w (XM V B bn b3 b5 b6 bM (.func (.func kf) #[] #[.pointer (some ⟨bV,0,none⟩)]) mf nm cs vM vF vS fv sv xs L s w):=by
 have m0:w.cell? ⟨b6,0,none⟩=some (.map (some bM)):=h.sM.at_ 0;have m1:w.drew.cell? ⟨b5,0,none⟩=some (.pointer (some ⟨bn,0,none⟩)):=h.sT.at_ 0;have m2:w.drew.cell? ⟨b3,0,none⟩=some (.func (.func kf) #[] #[.pointer (some ⟨bV,0,none⟩)]):=h.sF.at_ 0;have H:=hid h;rcases h.map.qm E5 underlying191 (OA w) (Ov s hs) with ⟨cZ,jv⟩|⟨v,⟨k,s',h1,h2,rfl⟩,cZ⟩
 rotate_left
 ·obtain rfl:s=s':=Px h2;have HK:=hid h1;clear h h1 h2;go_in;go_wp2;go_ret;exact⟨k,nm,_,_,_,_,_,rfl,H.o,HK.o,inl rfl,⟨⟨[],Kept.refl _ _ _,by simp⟩,fun x h=>inl h,Below.refl _ _⟩⟩
 have ke:=hid jv;have hd:ϐ w w.drew:=(Below.refl _ _).drew;have Hd:=hid (h.ae hd);have BJ:=hid (HM w.drew Hd.o.bc s hs);have AB:=hid (zoD B bn nm.length cs (nm.map mf) vM vF vS fv sv xs L w.drew Hd.o.n (by omega) (mf s));clear h jv hd HM;obtain⟨r,hr⟩:=Ξ (mf s)
 have HR:=hid hr;rw[hr] at BJ AB;clear hr;go_in;go_wp2_with fail
 go_region_with (first
  | (with_reducible refine Calls.mono BJ.o ?_;rintro e w2 ⟨rfl,rfl⟩)
  | (go_at_call 150;refine AB.o.mono ?_;rintro e w2 ⟨si,sW,vS',rfl,I2,yh⟩;have pn:=ζ I2 yh;clear I2 yh))
 all_goals
  have F2:=pn.o.2
  have UT:=F2.st Hd.o.sM (Hd.o.n.qt Hd.o.sM (by decide) (by decide) (by decide) (by decide) (by decide))
  have Xm:=F2.st Hd.o.sT (Hd.o.n.qt Hd.o.sT (by decide) (by decide) (by decide) (by decide) (by decide))
  have Yl:=F2.st Hd.o.sF (Hd.o.n.qt Hd.o.sF (by decide) (by decide) (by decide) (by decide) (by decide))
  have wu:=F2.map Hd.o.map (Hd.o.n.mh Hd.o.map)
  have qJ:s∉nm:=fun hm=>by
   obtain⟨k,hk,e⟩:=List.getElem_of_mem hm;exact ke.o (.int .i64 (k:Int)) ⟨k,s,by rw[List.getElem?_eq_getElem hk,e],rfl,rfl⟩
  obtain⟨w3,Ah,Xs,Il⟩:=wu.update (Q':=AV (nm++[s])) (val:=.int .i64 (nm.length:Int)) E5 underlying191 (by unfold maxLen;omega) (Ov s hs) ke.o
   (fun x y ⟨k,t,h1,h2,h3⟩=>⟨k,t,by rw[getElem?_append_left (List.getElem?_eq_some_iff.1 h1).1];exact h1,h2,h3⟩) ⟨nm.length,s,by simp,rfl,rfl⟩
   (fun x y ⟨k,t,h1,h2,h3⟩ hne=>by
    by_cases hk:k<nm.length
    ·rw[getElem?_append_left hk] at h1
     exact⟨_,k,t,h1,h2,rfl⟩
    ·have fS:k=nm.length:=by have:=(List.getElem?_eq_some_iff.1 h1).1;simp at this;omega
     subst fS
     simp at h1
     exact absurd (by rw[h2,h1]) hne)
  have m3:w2.cell? ⟨b6,0,none⟩=some (.map (some bM)):=UT.at_ 0
  obtain⟨n3,F3⟩:=pn.o.1.ey wu Il Hd.o.bM
  have jo:(nm++[s]).length=nm.length+1:=by simp
  have HF:Hid (XM V B bn b3 b5 b6 bM (.func (.func kf) #[] #[.pointer (some ⟨bV,0,none⟩)]) mf nm cs vM vF vS fv sv xs L s w (.returned (.int .i64 (nm.length:Int))) w3):=by
   refine⟨nm.length,nm++[s],si,sW,vS',(fun j=>if j=nm.length then .slice none 0 0 else fv j),(fun j=>if j=nm.length then .slice none 0 0 else sv j),rfl,⟨?_,UT.ey wu.of Il,Xm.ey wu.of Il,Yl.ey wu.of Il,?_,?_,?_,Hd.o.bM,(Hd.o.bc.trans F2.below).trans F3.below⟩,by simp,inr rfl,?_⟩
   ·rw[jo,map_append,List.map_singleton,HR.o];exact n3
   ·rw[jo];exact Xs
   ·refine List.nodup_append.2 ⟨H.o.nd,by simp,fun a ha b hb e=>?_⟩;rw[List.mem_singleton.1 hb] at e;exact qJ (e ▸ ha)
   ·intro x hx;rcases List.mem_append.1 hx with hx|hx
    ·exact H.o.le x hx
    rw[List.mem_singleton.1 hx];exact hs
   rw[jo];exact ((jm.ae (bn:=bn) (P:=Br bM bn nm.length vM vF vS fv sv) (show ϐ w w.drew from (Below.refl _ _).drew) H.o.n.lo.2).trans (F2.more (fun x=>x=bM))).trans F3
  clear F2 UT Xm Yl wu Xs Il n3 F3 jo qJ
  go_wp2
  go_ret
  exact HF.o
theorem zmt:(match prog.underlying 146 with|some (.array _ _)|some (.struct _)=>true|_=>false)=true:=by kernel_rfl
theorem zjf:Keyed prog 146:=Keyed.of_law (deep_law_laid laidOut (m:=2) (by omega) (of_decide_eq_true (by kernel_rfl)) (by kernel_rfl) zmt)
theorem ND(d:Nat)(n:Int)(h:(Lit.int .u64 n).wf=true):prog.keyLits (d+1) 144 [.int .u64 n]=some [.int .u64 n]:=by
 simp[Program.keyLits,underlying144,h]
theorem zkx:prog.cellsOf 144=1:=by kernel_rfl
theorem Y6:prog.cellsOf 146=4:=by kernel_rfl
theorem zoE(a0 a1 a2 a3:Int)(h0:(Lit.int .u64 a0).wf=true)(h1:(Lit.int .u64 a1).wf=true)(h2:(Lit.int .u64 a2).wf=true)(h3:(Lit.int .u64 a3).wf=true):
  ∃kl,keyOf prog 146 (.agg #[.int .u64 a0,.int .u64 a1,.int .u64 a2,.int .u64 a3])=some kl:=by
 have hT:prog.keyType 146=true:=by kernel_rfl
 have hs:∃d,prog.types.size+1=d+2:=⟨prog.types.size-1,by have:4<=prog.types.size:=of_decide_eq_true (by kernel_rfl);omega⟩
 obtain⟨d,hd⟩:=hs;have hl:prog.keyLits (d+2) 146 [.int .u64 a0,.int .u64 a1,.int .u64 a2,.int .u64 a3]=some [.int .u64 a0,.int .u64 a1,.int .u64 a2,.int .u64 a3]:=by
  conv=>lhs;unfold Program.keyLits
  simp[underlying146,Y6,zkx,List.range_succ,ND d a0 h0,ND d a1 h1,ND d a2 h2,ND d a3 h3]
 have hf:(Value.agg #[.int .u64 a0,.int .u64 a1,.int .u64 a2,.int .u64 a3]).formed prog 146=true:=by
  simp[Value.formed,underlying146,Y6]
 refine⟨.string (keyBytes [.int .u64 a0,.int .u64 a1,.int .u64 a2,.int .u64 a3]),?_⟩;unfold keyOf;simp only[underlying146,hT,hf,Bool.and_self,if_true,hd,Value.cells,hl,Option.map_some]
theorem zh6(p:Nat->Bool):∃kl,keyOf prog 146 (.agg #[.int .u64 (wd p 0),.int .u64 (wd p 1),.int .u64 (wd p 2),.int .u64 (wd p 3)])=some kl:=
 zoE _ _ _ _ (OU _ (uZ p 0)) (OU _ (uZ p 1)) (OU _ (uZ p 2)) (OU _ (uZ p 3))
theorem VC(w:World):(zeroValue 43).run prog w=.ok (.slice none 0 0) w:=by kernel_rfl
def rE(lr:List Nat)(p:Nat->Bool):List Nat:=dg (fun c=>p (lr.getD c 0)) lr.length
theorem zmu(hl:∀x∈lr,x<256){p q:Nat->Bool}(h:∀b,b<256->p b=q b):rE lr p=rE lr q:=by
 unfold rE dg;refine List.filter_congr fun c hc=>?_
 have gj:c<lr.length:=by simpa using hc
 have:lr.getD c 0=lr[c]:=by simp[getD,gj]
 rw[this];exact h _ (hl _ (getElem_mem gj))
def JW(w:World)(P:Nat->Prop)(a:Option Addr)(l:List Nat):Prop:=0<l.length->∃g off,a=some ⟨g,off,none⟩/\g<w.heap.size/\¬P g/\∀j (h:j<l.length),w.cell? ⟨g,off+j,none⟩=some (.int .i64 ((l[j]:Nat):Int))
def LQ(lr:List Nat)(DL:List ((Nat->Bool) × Option Addr × Nat))(x y:Value):Prop:=∃d∈DL,x=(.agg #[.int .u64 (wd d.1 0),.int .u64 (wd d.1 1),.int .u64 (wd d.1 2),.int .u64 (wd d.1 3)])/\y=.slice d.2.1 (rE lr d.1).length d.2.2
structure xE (B b7 b8 bL n:Nat)(lr:List Nat)(aR:Option Addr)(cR:Nat)(P:Nat->Prop)(DL:List ((Nat->Bool) × Option Addr × Nat))(w:World):Prop where
 s7:St w 76 b7 #[.slice aR lr.length cR]
 s8:St w 219 b8 #[.map (some bL)]
 row:w.ownsRow B 5 1 (.slice aR lr.length cR) lr.length (jx lr)
 map:aJ w 146 bL n (LQ lr DL)
 at_:∀d∈DL,JW w P d.2.1 (rE lr d.1)
 lo:B<=bL/\B<=w.heap.size
 lr:∀x∈lr,x<256
theorem xE.ae{P:Nat->Prop}(h:xE B b7 b8 bL n lr aR cR P DL w)(k:ϐ w w'):xE B b7 b8 bL n lr aR cR P DL w':=
 ⟨h.s7.ae k,h.s8.ae k,dE h.row k,h.map.same (k.block _ h.map.lt),fun d hd h0=>by
  obtain⟨g,off,e,hg,hn,hc⟩:=h.at_ d hd h0
  exact⟨g,off,e,lt_of_lt_of_le hg k.size,hn,fun j hj=>(k.cell (p:=⟨g,off+j,none⟩) hg).trans (hc j hj)⟩,⟨h.lo.1,le_trans h.lo.2 k.size⟩,h.lr⟩
def RT(B bn b7 b8 bL n:Nat)(lr:List Nat)(aR:Option Addr)(cR:Nat)(P:Nat->Prop)(DL:List ((Nat->Bool) × Option Addr × Nat))(p:Nat->Bool)(w:World)(e:Ending)(w':World):Prop:=
 ∃(a:Option Addr) (c:Nat) (MO:List ((Nat->Bool) × Option Addr × Nat)),e=.returned (.slice a (rE lr p).length c)/\xE B b7 b8 bL (n+1) lr aR cR P MO w'/\JW w' P a (rE lr p)/\(∃bs,Kept [] bs w w'/\∀x∈bs,x=bL)/\Below B w w'
theorem zoF(B bn b7 b8 bL n:Nat)(lr:List Nat)(aR:Option Addr)(cR:Nat)(P:Nat->Prop)(DL:List ((Nat->Bool) × Option Addr × Nat))(w:World)(h:xE B b7 b8 bL n lr aR cR P DL w)(hP:∀x,P x->x<w.heap.size)(hn:n<=100000)(Nb:lr.length<=256)(p:Nat->Bool):
  Calls prog 170 #[(.agg #[.int .u64 (wd p 0),.int .u64 (wd p 1),.int .u64 (wd p 2),.int .u64 (wd p 3)]),.pointer (some ⟨b8,0,none⟩),.pointer (some ⟨b7,0,none⟩)] w (RT B bn b7 b8 bL n lr aR cR P DL p w):=by
 obtain⟨kl,hkl⟩:=zh6 p;obtain⟨W,hW⟩:=Ξ (w.alloc (.cells #[.int .u64 (wd p 0),.int .u64 (wd p 1),.int .u64 (wd p 2),.int .u64 (wd p 3)] 146))
 have rB:ϐ w W:=by rw[<-hW];exact al w _
 have h1:=h.ae rB;have Oy:St W 146 w.heap.size #[.int .u64 (wd p 0),.int .u64 (wd p 1),.int .u64 (wd p 2),.int .u64 (wd p 3)]:=by rw[<-hW];exact St.new _ _ _
 have m0:W.cell? ⟨b8,0,none⟩=some (.map (some bL)):=h1.s8.at_ 0;obtain⟨t0,t1,t2,t3⟩:=bZ Oy;have H:=hid h;have HP:=hid hP;have H1:=hid h1;have HK:=ξ rB Oy hkl;have cQ:=rB.size;have hS:=hid h.lo.2;rcases h1.map.qm zjf underlying219 (VC W) hkl with ⟨cZ,jv⟩|⟨v,⟨d,hd,Yn,rfl⟩,cZ⟩
 rotate_left
 ·have HD:=ζ hd Yn;have HF:Hid (RT B bn b7 b8 bL n lr aR cR P DL p w (.returned (.slice d.2.1 (rE lr d.1).length d.2.2)) W):=by
   have e:rE lr p=rE lr d.1:=zmu H.o.lr (by
    have:=HD.o.2
    simp only[Value.agg.injEq,Array.mk.injEq,List.cons.injEq,Value.int.injEq,Int.ofNat_inj,true_and,and_true] at this
    exact (V3 p d.1).1 ⟨this.1,this.2.1,this.2.2.1,this.2.2.2⟩)
   refine⟨d.2.1,d.2.2,DL,by rw[e],⟨H1.o.s7,H1.o.s8,H1.o.row,H1.o.map.more (by omega),H1.o.at_,H1.o.lo,H1.o.lr⟩,by rw[e];exact H1.o.at_ d HD.o.1,⟨[],Kept.below (Kept.refl _ _ _) HK.o.1,by simp⟩,HK.o.1.mono hS.o⟩
  clear h h1 hP rB Oy hd Yn hkl;go_in;go_upto_region 1 with fail
  try rw[hW]
  go_wp2;go_ret;exact HF.o
 have ke:=hid jv;have c7:W.cell? ⟨b7,0,none⟩=some (.slice aR lr.length cR):=h1.s7.at_ 0;clear h h1 hP rB Oy hkl jv;go_in;go_upto_region 1 with fail
 try rw[hW]
 obtain⟨q,hq⟩:=Ξ lr.length
 have HQ:=hid hq;rw[hq] at c7 Nb;obtain⟨i0,hi,dP,dc,db⟩:=info_parts aH;clear hq;go_wp2;go_loopw [5,7,8,19] (fun v _ _ x wr=>∃(k m:Nat) (a:Option Addr) (c:Nat),x=.int .i64 k/\k<=q/\m<=256/\v=.slice a m c/\Hid ((dg (fun c=>p (lr.getD c 0)) k).length=m/\wr.ownsRow W.heap.size 3 1 (.slice a m c) m (dv (dg (fun c=>p (lr.getD c 0)) k))/\ϐ W wr)) (fun _ _ _ x _=>q-(intOf x).toNat)
 ·exact⟨0,0,none,0,rfl,zero_le _,zero_le _,rfl,rfl,ownsRow_nil _ _ _ _,Below.refl _ _⟩
 obtain⟨k,m,a,c,rfl,hk,hm,rfl,HA⟩:=hrel;by_cases aq:k<q
 ·have hkl:k<lr.length:=by rw[HQ.o];exact aq
  obtain⟨gR,rfl,_,CD,Ca⟩:=fG H1.o.row (by omega);have d0:=(HA.o.2.2.cell (p:=⟨gR,k,none⟩) CD).trans (Ca k (by omega)).1;rw[Qv lr k hkl] at d0;have Yc:lr.getD k 0<256:=by
   have:lr.getD k 0=lr[k]:=(by simp[getD,hkl]);rw[this];exact H1.o.lr _ (getElem_mem hkl)
  have s:=(HK.o.2.1).ae HA.o.2.2;obtain⟨r0,r1,r2,r3⟩:=bZ s;have Er:=zpF (fun c=>p (lr.getD c 0)) k;have zc:=zq1 (fun c=>p (lr.getD c 0)) k
  try dsimp only at Er zc
  have HL:=ζ Er zc;have hle:=Z5 (fun c=>p (lr.getD c 0)) k;rw[HA.o.1] at hle;generalize lr.getD k 0=b at d0 Yc HL;have i1:(k:Int)<q:=by omega
  clear Ca hkl s Er zc;go_wp2_with fail;refine (Z7 p b Yc _).mono ?_;rintro e w3 ⟨rfl,qG⟩;have hB:=HA.o.2.2.trans (qG.mono HA.o.2.2.size);have hO:=dE HA.o.2.1 qG;have Lg:=hB.size;rcases zY:p b with _|_
  ·have HZ:Hid ((dg (fun c=>p (lr.getD c 0)) (k+1)).length=m/\w3.ownsRow W.heap.size 3 1 (.slice a m c) m (dv (dg (fun c=>p (lr.getD c 0)) (k+1)))/\ϐ W w3):=by
    rw[HL.o.2 zY];exact⟨HA.o.1,hO,hB⟩
   clear hO hB qG zY HA;go_wp2;go_roundw
   ·exact⟨k+1,m,a,c,by go_num,by omega,hm,rfl,HZ⟩
   simp[intOf];omega
  have HE:=hid (HL.o.1 zY);have AH:=hid HA.o.1;clear zY qG HA;go_wp2_with (at_builtin;refine wpList_append_own _ rfl _ _ 43 rfl W.heap.size 3 i0 (.int .i64 0) 1 8 underlying43 hi dP dc db rfl (by decide) _ _ _ rfl (hO.alloc _) ⟨w3.heap.size,0,none⟩ 1 1 [.int .i64 (k:Int)] rfl rfl (cell_one_new _ _ _) ?d2 ?d3 ?d4 ?d5 ?_)
  case d2=>intro u hu;simp at hu;subst hu;rfl
  case d3=>unfold maxLen;omega
  case d4=>omega
  case d5=>simp;omega
  intro v' w5 ak aj _;obtain⟨a5,c5,rfl⟩:=cy ak;have eB:=gu (hB.trans ((al w3 (.cells #[.int .i64 (k:Int)] 3)).mono Lg)) (hO.alloc _) (by simp;omega) aj;have HZ:Hid ((dg (fun c=>p (lr.getD c 0)) (k+1)).length=m+1/\w5.ownsRow W.heap.size 3 1 (.slice a5 (m+1) c5) (m+1) (dv (dg (fun c=>p (lr.getD c 0)) (k+1)))/\ϐ W w5):=by
   rw[HE.o];refine⟨by rw[length_append,AH.o];rfl,?_,eB⟩;rw[Ad];exact ak
  clear ak aj eB hO hB;go_wp2;go_roundw
  ·exact⟨k+1,m+1,a5,c5,by go_num,by omega,by omega,rfl,HZ⟩
  simp[intOf];omega
 obtain rfl:k=q:=by omega
 have hB:=HA.o.2.2;have hs:=HK.o.2.1.ae hB;obtain⟨r0,r1,r2,r3⟩:=bZ hs;have h2:=H1.o.ae hB;have m1:wr.cell? ⟨b8,0,none⟩=some (.map (some bL)):=h2.s8.at_ 0;have eR:rE lr p=dg (fun c=>p (lr.getD c 0)) k:=by unfold rE;rw[HQ.o]
 obtain⟨w5,Ah,BR,tr⟩:=h2.map.update (Q':=LQ lr (DL++[(p,a,c)])) (val:=.slice a m c) zjf underlying219 (by unfold maxLen;omega) HK.o.2.2 ke.o
  (fun x y ⟨d,h1,h2,h3⟩=>⟨d,List.mem_append.2 (inl h1),h2,h3⟩) ⟨(p,a,c),by simp,rfl,by simp only[eR,HA.o.1]⟩
  (fun x y ⟨d,h1,h2,h3⟩ hne=>by
   rcases List.mem_append.1 h1 with h1|h1
   ·exact⟨y,d,h1,h2,h3⟩
   ·rw[List.mem_singleton.1 h1] at h2
    exact absurd h2 hne)
 have km:ϐ w wr:=HK.o.1.trans (hB.mono cQ);have hk5:Kept [] [bL] wr w5:=(Kept.refl _ _ _).grown tr (fun g e=>by injection e with e;exact inl (by simp[<-e]));have eB:Below B wr w5:=(Below.refl _ _).grown tr h2.lo.2 (fun g e=>by injection e with e;rw[<-e];exact H.o.lo.1);have hO5:=AD HA.o.2.1 h2.map.of tr;have HF:Hid (RT B bn b7 b8 bL n lr aR cR P DL p w (.returned (.slice a m c)) w5):=by
  have kQ:JW w5 P a (rE lr p):=fun h0=>by
   rw[eR,HA.o.1] at h0;obtain⟨g,rfl,ur,Mu,gH⟩:=fG hO5 h0;refine⟨g,0,rfl,Mu,fun hp=>by have:=HP.o g hp;omega,fun j hj=>?_⟩;rw[Nat.zero_add,(gH j (by rw[eR,HA.o.1] at hj;omega)).1];rw[eR] at hj;rw[Ck _ j hj];simp only[eR]
  refine⟨a,c,DL++[(p,a,c)],by rw[eR,HA.o.1],⟨h2.s7.ey h2.map.of tr,h2.s8.ey h2.map.of tr,AD h2.row h2.map.of tr,BR,fun d hd=>?_,⟨h2.lo.1,le_trans h2.lo.2 eB.size⟩,h2.lr⟩,kQ,⟨[bL],(Kept.below (Kept.refl _ _ _) km).trans hk5,fun x hx=>List.mem_singleton.1 hx⟩,(km.mono hS.o).trans eB⟩;rcases List.mem_append.1 hd with hd|hd
  ·intro h0;obtain⟨g,off,e,hg,hn,hc⟩:=h2.at_ d hd h0;have Dl:g≠bL:=fun e2=>by
    obtain⟨es,ck,hb,_⟩:=h2.map.of;have h5:=hc 0 h0;rw[e2] at h5;simp[World.cell?,hb] at h5
   exact⟨g,off,e,lt_of_lt_of_le hg eB.size,hn,fun j hj=>by rw[hk5.oz (by simpa using Dl) hg];exact hc j hj⟩
  rw[List.mem_singleton.1 hd];exact kQ
 clear hB hs h2 BR tr km hk5 eB hO5 eR;go_wp2;go_ret;exact HF.o
theorem iE.Km{gF cF:Nat}(h:iE B bn M M M cs dt vM (.slice (some ⟨gF,0,none⟩) M cF) vS fv sv xs L W)(hb:x.b=true)(hf:x.f<M)(ht:x.t<M){p:Nat}
  (ho:w6.ownsRow B 3 1 v' (p+1) (dv (eE L x.f)++[.int .i64 (x.t:Int)])) (hp:(eE L x.f).length=p) (hg:W.grownBy w6 (fv x.f).ownBlock) (fD:∀b,v'.ownBlock=some b->(fv x.f).ownBlock=some b\/W.heap.size<=b):
  iE B bn M M M cs dt vM (.slice (some ⟨gF,0,none⟩) M cF) vS (fun j=>if j=x.f then v' else fv j) sv xs (L++[x]) (w6.setCell ⟨gF,x.f,none⟩ v')/\
   jm B bn (np bn M M vM (.slice (some ⟨gF,0,none⟩) M cF) vS fv sv) (np bn M M vM (.slice (some ⟨gF,0,none⟩) M cF) vS (fun j=>if j=x.f then v' else fv j) sv) W (w6.setCell ⟨gF,x.f,none⟩ v'):=by
 have hr:=h.fr.row x.f hf;have hk:Kept [] (gF :: (fv x.f).ownBlock.toList) W w6:=(Kept.refl _ _ _).grown hg (fun g e=>inl (by simp[e]));have fS:Kept [] (gF :: (fv x.f).ownBlock.toList) W (w6.setCell ⟨gF,x.f,none⟩ v'):=hk.setCell _ _ (inl (by simp));have hB:Below B W w6:=gu (Below.refl _ _) hr h.lo.2 hg;have Rg:B<=gF:=ln h.fr.own gF rfl;have hne:∀{t s n:Nat}{v:Value}{ys:List Value},W.ownsRow B t s v n ys->t≠43->(∀b,v.ownBlock=some b->(fv x.f).ownBlock≠some b)->∀b,v.ownBlock=some b->b∉gF :: (fv x.f).ownBlock.toList:=fun ho ht hn b e hm=>by
  rcases List.mem_cons.1 hm with rfl|hm
  ·exact iO ho h.fr.own ht _ e rfl
  exact hn b e (by simpa using hm)
 refine⟨⟨h.sn.kept fS (by simp) (fun hm=>?_),h.sz,gk h.om fS (by simp) (hne h.om (by decide) (fun b e=>h.sep x.f hf b e)),(h.fr.app (by decide) hf ho hg fD).congr (fun i hi=>?_),
  (h.st.kept fS (hne h.st.own (by decide) (fun b e1 e2=>iO h.st.own hr (by decide) b e1 e2)) (fun i hi=>hne (h.st.row i hi) (by decide) (fun b e1 e2=>iO (h.st.row i hi) hr (by decide) b e1 e2))).congr (fun i hi=>?_),fun i hi b e1 e2=>?_,⟨h.lo.1,?_⟩,fun e he=>?_,h.hx⟩,
  ⟨⟨_,fS,fun y hy=>inl ?_⟩,fun y hy=>?_,hB.setCell (p:=⟨gF,x.f,none⟩) Rg v'⟩⟩
 ·rcases List.mem_cons.1 hm with e|hm
  ·exact eI h.fr.own h.sn (by decide) gF rfl e.symm
  exact eI hr h.sn (by decide) bn (by simpa using hm) rfl
 ·rw[WU];by_cases e:i=x.f
  ·subst e;rw[if_pos rfl,if_pos rfl,if_pos ⟨hb,rfl⟩,Ad,length_append,hp];exact⟨rfl,rfl⟩
  rw[if_neg e,if_neg e,if_neg (fun h=>e h.2.symm)];exact⟨rfl,rfl⟩
 ·rw[EH,if_neg (by simp[hb])];exact⟨rfl,rfl⟩
 ·by_cases e:i=x.f
  ·rw[if_pos e] at e2;rcases fD b e2 with h1|h1
   ·exact h.sep x.f hf b e1 h1
   have:=(h.lt b (inr (inl e1))).2;omega
  rw[if_neg e] at e2;exact h.sep i hi b e1 e2
 ·have:=hB.size;have:=h.lo.2;simp only[size_setCell];omega
 ·rcases List.mem_append.1 he with he|he
  ·exact h.hE e he
  rw[List.mem_singleton.1 he];exact⟨hf,hf,ht⟩
 ·rcases List.mem_cons.1 hy with rfl|hy
  ·exact inr (inr (inl rfl))
  exact inr (inr (inr (inr (inl ⟨x.f,hf,by simpa using hy⟩))))
 rcases hy with e|e|e|e|⟨i,hi,e⟩|e
 ·exact inl (inl e)
 ·exact inl (inr (inl e))
 ·exact inl (inr (inr (inl e)))
 ·exact inl (inr (inr (inr (inl e))))
 ·dsimp only at e;by_cases e1:i=x.f
  ·rw[if_pos e1] at e;rcases fD y e with h1|h1
   ·exact inl (inr (inr (inr (inr (inl ⟨x.f,hf,h1⟩)))))
   exact inr h1
  rw[if_neg e1] at e;exact inl (inr (inr (inr (inr (inl ⟨i,hi,e⟩)))))
 exact inl (inr (inr (inr (inr (inr e)))))
theorem iE.Ev{cS:Nat}(h:iE B bn M M M cs dt vM vF (.slice (some ⟨gS,0,none⟩) M cS) fv sv xs L W)(hb:x.b=false)(hf:x.f<M)(ht:x.t<M){p:Nat}{ys:List Value}
  (ho:w6.ownsRow B 197 2 v' (p+1) (xs x.f++ys)) (hp:(dk L x.f).length=p) (hg:W.grownBy w6 (sv x.f).ownBlock) (fD:∀b,v'.ownBlock=some b->(sv x.f).ownBlock=some b\/W.heap.size<=b):
  iE B bn M M M cs dt vM vF (.slice (some ⟨gS,0,none⟩) M cS) fv (fun j=>if j=x.f then v' else sv j) (fun j=>if j=x.f then xs x.f++ys else xs j) (L++[x]) (w6.setCell ⟨gS,x.f,none⟩ v')/\
   jm B bn (np bn M M vM vF (.slice (some ⟨gS,0,none⟩) M cS) fv sv) (np bn M M vM vF (.slice (some ⟨gS,0,none⟩) M cS) fv (fun j=>if j=x.f then v' else sv j)) W (w6.setCell ⟨gS,x.f,none⟩ v'):=by
 have hr:=h.st.row x.f hf;have hk:Kept [] (gS :: (sv x.f).ownBlock.toList) W w6:=(Kept.refl _ _ _).grown hg (fun g e=>inl (by simp[e]));have fS:Kept [] (gS :: (sv x.f).ownBlock.toList) W (w6.setCell ⟨gS,x.f,none⟩ v'):=hk.setCell _ _ (inl (by simp));have hB:Below B W w6:=gu (Below.refl _ _) hr h.lo.2 hg;have zu:B<=gS:=ln h.st.own gS rfl;have hne:∀{t s n:Nat}{v:Value}{ys:List Value},W.ownsRow B t s v n ys->t≠195->t≠197->∀b,v.ownBlock=some b->b∉gS :: (sv x.f).ownBlock.toList:=fun ho ht hn b e hm=>by
  rcases List.mem_cons.1 hm with rfl|hm
  ·exact iO ho h.st.own ht _ e rfl
  exact iO ho hr hn b e (by simpa using hm)
 refine⟨⟨h.sn.kept fS (by simp) (fun hm=>?_),h.sz,gk h.om fS (by simp) (hne h.om (by decide) (by decide)),
  (h.fr.kept fS (hne h.fr.own (by decide) (by decide)) (fun i hi=>hne (h.fr.row i hi) (by decide) (by decide))).congr (fun i hi=>?_),(h.st.app (by decide) hf ho hg fD).congr (fun i hi=>?_),h.sep,⟨h.lo.1,?_⟩,fun e he=>?_,fun i hi=>?_⟩,
  ⟨⟨_,fS,fun y hy=>inl ?_⟩,fun y hy=>?_,hB.setCell (p:=⟨gS,x.f,none⟩) zu v'⟩⟩
 ·rcases List.mem_cons.1 hm with e|hm
  ·exact eI h.st.own h.sn (by decide) gS rfl e.symm
  exact eI hr h.sn (by decide) bn (by simpa using hm) rfl
 ·rw[WU,if_neg (by simp[hb])];exact⟨rfl,rfl⟩
 ·rw[EH];by_cases e:i=x.f
  ·subst e;rw[if_pos rfl,if_pos rfl,if_pos ⟨hb,rfl⟩,length_append,hp];exact⟨rfl,rfl⟩
  rw[if_neg e,if_neg e,if_neg (fun h=>e h.2.symm)];exact⟨rfl,rfl⟩
 ·have:=hB.size;have:=h.lo.2;simp only[size_setCell];omega
 ·rcases List.mem_append.1 he with he|he
  ·exact h.hE e he
  rw[List.mem_singleton.1 he];exact⟨hf,hf,ht⟩
 ·rw[if_neg (by omega)];exact h.hx i hi
 ·rcases List.mem_cons.1 hy with rfl|hy
  ·exact inr (inr (inr (inl rfl)))
  exact inr (inr (inr (inr (inr ⟨x.f,hf,by simpa using hy⟩))))
 rcases hy with e|e|e|e|e|⟨i,hi,e⟩
 ·exact inl (inl e)
 ·exact inl (inr (inl e))
 ·exact inl (inr (inr (inl e)))
 ·exact inl (inr (inr (inr (inl e))))
 ·exact inl (inr (inr (inr (inr (inl e)))))
 dsimp only at e;by_cases e1:i=x.f
 ·rw[if_pos e1] at e;rcases fD y e with h1|h1
  ·exact inl (inr (inr (inr (inr (inr ⟨x.f,hf,h1⟩)))))
  exact inr h1
 rw[if_neg e1] at e;exact inl (inr (inr (inr (inr (inr ⟨i,hi,e⟩)))))
def wV(w:World)(P:Nat->Prop)(cl:(Nat->Bool)->List Nat)(l:List En)(xs:List Value):Prop:=
 xs.length=l.length*2/\∀k (h:k<l.length),∃a c,xs[k*2]?=some (.slice a (cl l[k].p).length c)/\xs[k*2+1]?=some (.int .i64 ((l[k].t:Nat):Int))/\JW w P a (cl l[k].p)
theorem wV.nil(w:World)(P:Nat->Prop)(cl:(Nat->Bool)->List Nat):wV w P cl [] []:=⟨rfl,fun k h=>by simp at h⟩
theorem wV.frame{P P':Nat->Prop}{cl:(Nat->Bool)->List Nat}{l:List En}{xs:List Value}(h:wV w P cl l xs)(F:jm B bn P P' w w'):wV w' P' cl l xs:=
 ⟨h.1,fun k hk=>by
  obtain⟨a,c,h1,h2,h3⟩:=h.2 k hk
  exact⟨a,c,h1,h2,F.GL h3⟩⟩
theorem wV.snoc{P:Nat->Prop}{cl:(Nat->Bool)->List Nat}{l:List En}{xs:List Value}(h:wV w P cl l xs)(e:En)(a:Option Addr)(c:Nat)(hI:JW w P a (cl e.p)):wV w P cl (l++[e]) (xs++[.slice a (cl e.p).length c,.int .i64 (e.t:Int)]):=by
 refine⟨by simp[h.1];omega,fun k hk=>?_⟩;by_cases e1:k<l.length
 ·obtain⟨a',c',h1,h2,h3⟩:=h.2 k e1;rw[getElem_append_left e1];refine⟨a',c',?_,?_,h3⟩
  ·rw[getElem?_append_left (by rw[h.1];omega)];exact h1
  rw[getElem?_append_left (by rw[h.1];omega)];exact h2
 have e2:k=l.length:=by simp at hk;omega
 subst e2;rw[getElem_concat_length rfl];refine⟨a,c,?_,?_,hI⟩
 ·rw[List.getElem?_append_right (by rw[h.1];omega),h.1];simp
 rw[List.getElem?_append_right (by rw[h.1];omega),h.1];have:l.length*2+1-l.length*2=1:=by omega
 rw[this];rfl
def tf(bL bM bn M:Nat)(vM vF vS:Value)(fv sv:Nat->Value)(x:Nat):Prop:=x=bL\/Br bM bn M vM vF vS fv sv x
structure nw (V:World)(B b2 b3 b5 b6 b7 b8 bn bM bL:Nat)(fn:Value)(mf:Nat->Int)(cN cs:Array Value)(lr:List Nat)(aR:Option Addr)(cR:Nat)(L:List En)(F f0 k m n:Nat)(nm:List Nat)(vM vF vS:Value)(fv sv:Nat->Value)(xs:Nat->List Value)(L':List En)(DL:List ((Nat->Bool) × Option Addr × Nat))(w:World):Prop where
 a:uL V B bn b3 b5 b6 bM fn mf nm cs vM vF vS fv sv xs L' w
 l:xE B b7 b8 bL n lr aR cR (tf bL bM bn nm.length vM vF vS fv sv) DL w
 s2:St w 119 b2 cN
 rows:∀i,i<nm.length->wV w (tf bL bM bn nm.length vM vF vS fv sv) (rE lr) (dk L' i) (xs i)
 rel:L.take k=L'.map (En.pC nm)
 bd:∀e∈L',e.f<nm.length/\e.t<nm.length
 hf:nm[f0]?=some F
 len:nm.length<=m
 ne:bL≠bM
 src:∀x∈nm,Src L F F x
theorem nw.gJ{f0:Nat}
  (h:nw V B b2 b3 b5 b6 b7 b8 bn bM bL fn mf cN cs lr aR cR L F f0 k m n nm vM vF vS fv sv xs L' DL w) {t g:Nat}{im:Array Value}(hs:St w t g im) (h1:t≠165) (h2:t≠3) (h3:t≠43) (h4:t≠195) (h5:t≠197):¬tf bL bM bn nm.length vM vF vS fv sv g:=by
 rintro (e|e|e)
 ·exact Cx h.l.map hs e
 ·exact Cx h.a.map hs e
 exact h.a.n.qt hs h1 h2 h3 h4 h5 e
theorem nw.lt{f0:Nat}
  (h:nw V B b2 b3 b5 b6 b7 b8 bn bM bL fn mf cN cs lr aR cR L F f0 k m n nm vM vF vS fv sv xs L' DL w):∀x,tf bL bM bn nm.length vM vF vS fv sv x->x<w.heap.size:=by
 rintro x (rfl|rfl|e)
 ·exact h.l.map.lt
 ·exact h.a.map.lt
 exact (h.a.n.lt x e).2
theorem nw.ae{f0:Nat}
  (h:nw V B b2 b3 b5 b6 b7 b8 bn bM bL fn mf cN cs lr aR cR L F f0 k m n nm vM vF vS fv sv xs L' DL w) (b:ϐ w w'):nw V B b2 b3 b5 b6 b7 b8 bn bM bL fn mf cN cs lr aR cR L F f0 k m n nm vM vF vS fv sv xs L' DL w':=
 ⟨h.a.ae b,h.l.ae b,h.s2.ae b,fun i hi=>(h.rows i hi).frame (jm.ae (bn:=bn) b h.a.n.lo.2),h.rel,h.bd,h.hf,h.len,h.ne,h.src⟩
theorem nw.num{f0 s:Nat}{lg:List Nat}
  (h:nw V B b2 b3 b5 b6 b7 b8 bn bM bL fn mf cN cs lr aR cR L F f0 k m n nm vM vF vS fv sv xs L' DL w) (ha:uL V B bn b3 b5 b6 bM fn mf lg cs si sW vS' x8 xV xs L' w') (zi:lg=nm\/lg=nm++[s]) (hF:jm B bn (Br bM bn nm.length vM vF vS fv sv) (Br bM bn lg.length si sW vS' x8 xV) w w') (hs:Src L F F s):
  nw V B b2 b3 b5 b6 b7 b8 bn bM bL fn mf cN cs lr aR cR L F f0 k (m+1) n lg si sW vS' x8 xV xs L' DL w':=by
 have hl:=zqe zi;have hn:∀g,Br bM bn nm.length vM vF vS fv sv g->tf bL bM bn nm.length vM vF vS fv sv g:=fun g e=>inr e
 have hL:¬Br bM bn nm.length vM vF vS fv sv bL:=fun e=>by
  rcases e with e|e
  ·exact h.ne e
  exact h.a.n.mh h.l.map e
 have hR:∀g,(Value.slice aR lr.length cR).ownBlock=some g->¬Br bM bn nm.length vM vF vS fv sv g:=fun g e hm=>by
  rcases hm with e2|e2|e2|e2|e2|⟨i,hi,e2⟩|⟨i,hi,e2⟩
  ·exact zz h.a.map h.l.row g e e2
  ·exact eI h.l.row h.a.n.sn (by decide) g e e2
  ·exact iO h.l.row h.a.n.om (by decide) g e e2
  ·exact iO h.l.row h.a.n.fr.own (by decide) g e e2
  ·exact iO h.l.row h.a.n.st.own (by decide) g e e2
  ·exact iO h.l.row (h.a.n.fr.row i hi) (by decide) g e e2
  exact iO h.l.row (h.a.n.st.row i hi) (by decide) g e e2
 have yh:jm B bn (tf bL bM bn nm.length vM vF vS fv sv) (tf bL bM bn lg.length si sW vS' x8 xV) w w':=hF.more (fun x=>x=bL);refine⟨ha,⟨hF.st h.l.s7 (fun e=>h.gJ h.l.s7 (by decide) (by decide) (by decide) (by decide) (by decide) (hn _ e)),hF.st h.l.s8 (fun e=>h.gJ h.l.s8 (by decide) (by decide) (by decide) (by decide) (by decide) (hn _ e)),hF.own h.l.row hR,hF.map h.l.map hL,fun d hd=>yh.GL (h.l.at_ d hd),⟨h.l.lo.1,le_trans h.l.lo.2 hF.below.size⟩,h.l.lr⟩,
  hF.st h.s2 (fun e=>h.gJ h.s2 (by decide) (by decide) (by decide) (by decide) (by decide) (hn _ e)),fun i hi=>?_,by rw[zqf zi h.bd];exact h.rel,fun e he=>by have:=h.bd e he;omega,UN zi h.hf,by have:=h.len;omega,h.ne,XG zi hs h.src⟩
 by_cases tV:i<nm.length
 ·exact (h.rows i tV).frame yh
 rw[Wj (fun e he=>(h.bd e he).1) (by omega),h.a.n.hx i (by omega)];exact wV.nil _ _ _
theorem nw.cls{f0:Nat}{MO:List ((Nat->Bool) × Option Addr × Nat)}
  (h:nw V B b2 b3 b5 b6 b7 b8 bn bM bL fn mf cN cs lr aR cR L F f0 k m n nm vM vF vS fv sv xs L' DL w) (hl:xE B b7 b8 bL (n+1) lr aR cR (tf bL bM bn nm.length vM vF vS fv sv) MO w') (hk:∃bs,Kept [] bs w w'/\∀x∈bs,x=bL) (hb:Below B w w'):
  nw V B b2 b3 b5 b6 b7 b8 bn bM bL fn mf cN cs lr aR cR L F f0 k m (n+1) nm vM vF vS fv sv xs L' MO w':=by
 obtain⟨bs,hk,ow⟩:=hk;have hF:jm B bn (tf bL bM bn nm.length vM vF vS fv sv) (tf bL bM bn nm.length vM vF vS fv sv) w w':=⟨⟨bs,hk,fun x hx=>inl (inl (ow x hx))⟩,fun x hx=>inl hx,hb⟩
 have st:∀{t g:Nat}{im:Array Value},St w t g im->St w' t g im:=fun hs=>hs.kept hk (by simp) (fun hm=>Cx h.l.map hs (ow _ hm))
 exact⟨⟨h.a.n.kept hk hb.size (fun x hx hm=>h.a.n.mh h.l.map (by rw[<-ow x hm];exact hx)),st h.a.sM,st h.a.sT,st h.a.sF,h.a.map.kept hk (fun hm=>h.ne (ow _ hm).symm),h.a.nd,h.a.le,h.a.bM,h.a.bc.trans hb⟩,hl,st h.s2,fun i hi=>(h.rows i hi).frame hF,h.rel,h.bd,h.hf,h.len,h.ne,h.src⟩
theorem XT{P:Nat->Prop}(hs:St w t g im)(h:xE B b7 b8 bL n lr aR cR P DL w)(hk:∃bs,Kept [] bs w w'/\∀x∈bs,x=bL):St w' t g im:=by
 obtain⟨bs,hk,ow⟩:=hk;exact hs.kept hk (by simp) (fun hm=>Cx h.map hs (ow _ hm))
theorem zrO(h1:nm[k1]?=some x.f)(h2:nm[k2]?=some x.t):En.pC nm ⟨k1,k2,x.p,x.b⟩=x:=by
 simp[En.pC,List.getD_eq_getElem?_getD,h1,h2]
theorem nw.FO{f0:Nat}
  (h:nw V B b2 b3 b5 b6 b7 b8 bn bM bL fn mf cN cs lr aR cR L F f0 k m n nm vM vF vS fv sv xs L' DL w):∀g,(Value.slice aR lr.length cR).ownBlock=some g->¬np bn nm.length nm.length vM vF vS fv sv g:=fun g e hm=>by
 rcases hm with e2|e2|e2|e2|⟨i,hi,e2⟩|⟨i,hi,e2⟩
 ·exact eI h.l.row h.a.n.sn (by decide) g e e2
 ·exact iO h.l.row h.a.n.om (by decide) g e e2
 ·exact iO h.l.row h.a.n.fr.own (by decide) g e e2
 ·exact iO h.l.row h.a.n.st.own (by decide) g e e2
 ·exact iO h.l.row (h.a.n.fr.row i hi) (by decide) g e e2
 ·exact iO h.l.row (h.a.n.st.row i hi) (by decide) g e e2
theorem nw.put{f0:Nat}
  (h:nw V B b2 b3 b5 b6 b7 b8 bn bM bL fn mf cN cs lr aR cR L F f0 k m n nm vM vF vS fv sv xs L' DL w) (hn:iE B bn nm.length nm.length nm.length cs (nm.map mf) si sW vS' x8 xV wN (L'++[⟨k1,k2,x.p,x.b⟩]) w') (hF:jm B bn (np bn nm.length nm.length vM vF vS fv sv) (np bn nm.length nm.length si sW vS' x8 xV) w w')
  (hL:L.take (k+1)=L.take k++[x]) (h1:nm[k1]?=some x.f) (h2:nm[k2]?=some x.t) (hr:∀i,i<nm.length->wV w (tf bL bM bn nm.length vM vF vS fv sv) (rE lr) (dk (L'++[⟨k1,k2,x.p,x.b⟩]) i) (wN i)):
  nw V B b2 b3 b5 b6 b7 b8 bn bM bL fn mf cN cs lr aR cR L F f0 (k+1) m n nm si sW vS' x8 xV wN (L'++[⟨k1,k2,x.p,x.b⟩]) DL w':=by
 have st:∀{t g:Nat}{im:Array Value},St w t g im->t≠165->t≠3->t≠43->t≠195->t≠197->St w' t g im:=fun hs a b c d e=>hF.st hs (h.a.n.qt hs a b c d e)
 have yh:jm B bn (tf bL bM bn nm.length vM vF vS fv sv) (tf bL bM bn nm.length si sW vS' x8 xV) w w':=(hF.more (fun x=>x=bM)).more (fun x=>x=bL);refine⟨⟨hn,st h.a.sM (by decide) (by decide) (by decide) (by decide) (by decide),st h.a.sT (by decide) (by decide) (by decide) (by decide) (by decide),st h.a.sF (by decide) (by decide) (by decide) (by decide) (by decide),hF.map h.a.map (h.a.n.mh h.a.map),h.a.nd,h.a.le,h.a.bM,h.a.bc.trans hF.below⟩,
  ⟨st h.l.s7 (by decide) (by decide) (by decide) (by decide) (by decide),st h.l.s8 (by decide) (by decide) (by decide) (by decide) (by decide),hF.own h.l.row h.FO,hF.map h.l.map (h.a.n.mh h.l.map),fun d hd=>yh.GL (h.l.at_ d hd),⟨h.l.lo.1,le_trans h.l.lo.2 hF.below.size⟩,h.l.lr⟩,
  st h.s2 (by decide) (by decide) (by decide) (by decide) (by decide),fun i hi=>(hr i hi).frame yh,?_,fun e he=>?_,h.hf,h.len,h.ne,h.src⟩
 ·rw[hL,map_append,h.rel,List.map_singleton,zrO h1 h2]
 rcases List.mem_append.1 he with he|he
 ·exact h.bd e he
 rw[List.mem_singleton.1 he];exact⟨(List.getElem?_eq_some_iff.1 h1).1,(List.getElem?_eq_some_iff.1 h2).1⟩
def putAt(cells vs:Array Value)(off:Nat):Array Value:=vs.zipIdx.foldl (fun cs (c,j)=>cs.setIfInBounds (off+j) c) cells
theorem PQ(l:List Value)(off:Nat):∀(k:Nat) (cells:Array Value),((l.zipIdx k).foldl (fun (cs:Array Value) (x:Value × Nat)=>cs.setIfInBounds (off+x.2) x.1) cells).size=cells.size/\
  ∀i,((l.zipIdx k).foldl (fun (cs:Array Value) (x:Value × Nat)=>cs.setIfInBounds (off+x.2) x.1) cells)[i]?=if off+k<=i/\i<off+k+l.length/\i<cells.size then l[i-(off+k)]? else cells[i]?:=by
 induction l with
 | nil=>intro k cells;exact⟨rfl,fun i=>by rw[if_neg (by simp;omega)];rfl⟩
 | cons v l ih=>
  intro k cells;rw[List.zipIdx_cons,List.foldl_cons];obtain⟨h1,h2⟩:=ih (k+1) (cells.setIfInBounds (off+k) v);refine⟨by rw[h1];simp,fun i=>?_⟩;rw[h2 i,Array.size_setIfInBounds];by_cases e:i=off+k
  ·subst e;rw[if_neg (by omega)];by_cases aq:off+k<cells.size
   ·rw[if_pos ⟨le_refl _,by simp,aq⟩,Array.getElem?_setIfInBounds_self_of_lt aq];simp
   rw[if_neg (by omega),Array.getElem?_eq_none_iff.2 (by simp;omega),Array.getElem?_eq_none_iff.2 (by omega)]
  by_cases hc:off+(k+1)<=i/\i<off+(k+1)+l.length/\i<cells.size
  ·rw[if_pos hc,if_pos ⟨by omega,by simp;omega,hc.2.2⟩];have:i-(off+k)=(i-(off+(k+1)))+1:=(by omega);rw[this,List.getElem?_cons_succ]
  rw[if_neg hc,getElem?_setIfInBounds_ne (by omega)];rw[if_neg (by simp only[List.length_cons];omega)]
theorem zZ(cells vs:Array Value)(off:Nat)(h:off+vs.size<=cells.size):(putAt cells vs off).size=cells.size/\∀i,(putAt cells vs off)[i]?=if off<=i/\i<off+vs.size then vs[i-off]? else cells[i]?:=by
 have e:putAt cells vs off=(vs.toList.zipIdx 0).foldl (fun (cs:Array Value) (x:Value × Nat)=>cs.setIfInBounds (off+x.2) x.1) cells:=by
  unfold putAt;rw[<-Array.foldl_toList,Array.toList_zipIdx]
 obtain⟨h1,h2⟩:=PQ vs.toList off 0 cells;rw[e];refine⟨h1,fun i=>?_⟩;rw[h2 i,Nat.add_zero];by_cases hc:off<=i/\i<off+vs.size
 ·rw[if_pos hc,if_pos ⟨hc.1,by simpa using hc.2,by omega⟩,Array.getElem?_toList]
 rw[if_neg hc,if_neg (fun h3=>hc ⟨h3.1,by simpa using h3.2.1⟩)]
theorem Ak(place:Nat->Option (Nat × Nat))(cells:Array Value)(i off size:Nat)(v:Value)(rest:List (Nat × Value))(hp:place i=some (off,size))(hv:v.cells.size=size)(hs:off+size<=cells.size):
  fill place cells ((i,v) :: rest)=fill place (putAt cells v.cells off) rest:=by
 rw[fill,hp];simp only[hv];rw[if_neg (by simp;omega)];rfl
noncomputable def zC (t:TypeId):Array Value:=match prog.info? t with
 | some it=>match it.zero with|some z=>z.cells|none=>#[]
 | none=>#[]
theorem zmv:(zC 165).size=260:=by kernel_rfl
theorem zmw:(zC 165)[256]?=some (.int .i64 0)/\(zC 165)[257]?=some (.slice none 0 0)/\(zC 165)[258]?=some (.slice none 0 0)/\(zC 165)[259]?=some (.slice none 0 0):=⟨by kernel_rfl,by kernel_rfl,by kernel_rfl,by kernel_rfl⟩
theorem zmx(csA:Array Value)(hs:csA.size=256):∃cN:Array Value,cN.size=260/\(∀j,j<256->cN[j]?=csA[j]?)/\cN[256]?=some (.int .i64 0)/\cN[257]?=some (.slice none 0 0)/\cN[258]?=some (.slice none 0 0)/\cN[259]?=some (.slice none 0 0)/\
  ∀W,(build 165 #[(0,.agg csA)]).run prog W=.ok (.agg cN) W:=by
 have e:prog.built 165 [(0,.agg csA)]=fill (fun i=>#[(0,256),(256,1),(257,1),(258,1),(259,1)][i]?) (zC 165) [(0,.agg csA)]:=by kernel_rfl
 have hz:=zmv;obtain⟨p1,p2⟩:=zZ (zC 165) csA 0 (by rw[hz];omega);rw[Ak _ _ 0 0 256 (.agg csA) [] (by rfl) hs (by rw[hz];omega)] at e;obtain⟨z0,z1,z2,z3⟩:=zmw;refine⟨putAt (zC 165) csA 0,by rw[p1,hz],fun j hj=>by rw[p2,if_pos ⟨by omega,by omega⟩];rfl,?_,?_,?_,?_,fun W=>run_build W _ _ _ e⟩
 ·rw[p2,if_neg (by omega),z0]
 ·rw[p2,if_neg (by omega),z1]
 ·rw[p2,if_neg (by omega),z2]
 rw[p2,if_neg (by omega),z3]
theorem kr:(zC 101).size=258:=by kernel_rfl
theorem G5:(zC 101)[256]?=some (.slice none 0 0)/\(zC 101)[257]?=some (.slice none 0 0):=⟨by kernel_rfl,by kernel_rfl⟩
theorem zoG:(zC 168).size=263:=by kernel_rfl
theorem zoH:(zC 168)[259]?=some (.slice none 0 0)/\(zC 168)[262]?=some (.slice none 0 0):=⟨by kernel_rfl,by kernel_rfl⟩
theorem zoI(csA:Array Value)(hs:csA.size=256):∃cD:Array Value,cD.size=258/\(∀W,(build 101 #[(0,.agg csA)]).run prog W=.ok (.agg cD) W)/\
  ∀(bn bM gI m:Nat),∃cK:Array Value,cK.size=263/\cK[0]?=some (.pointer (some ⟨bn,0,none⟩))/\(∀j,j<256->cK[1+j]?=csA[j]?)/\cK[257]?=some (.slice none 0 0)/\cK[258]?=some (.slice none 0 0)/\cK[259]?=some (.slice none 0 0)/\cK[260]?=some (.map (some bM))/\cK[261]?=some (.slice (some ⟨gI,0,none⟩) m m)/\cK[262]?=some (.slice none 0 0)/\
  ∀W,(build 168 #[(0,.pointer (some ⟨bn,0,none⟩)),(1,.agg cD),(3,.map (some bM)),(4,.slice (some ⟨gI,0,none⟩) m m)]).run prog W=.ok (.agg cK) W:=by
 have e:prog.built 101 [(0,.agg csA)]=fill (fun i=>#[(0,256),(256,1),(257,1)][i]?) (zC 101) [(0,.agg csA)]:=by kernel_rfl
 have hz:=kr;obtain⟨p1,p2⟩:=zZ (zC 101) csA 0 (by rw[hz];omega);rw[Ak _ _ 0 0 256 (.agg csA) [] (by rfl) hs (by rw[hz];omega)] at e;obtain⟨d1,d2⟩:=G5;refine⟨putAt (zC 101) csA 0,by rw[p1,hz],fun W=>run_build W _ _ _ e,?_⟩;have q1:∀j,j<256->(putAt (zC 101) csA 0)[j]?=csA[j]?:=fun j hj=>by rw[p2,if_pos ⟨by omega,by omega⟩];rfl
 have q2:(putAt (zC 101) csA 0)[256]?=some (.slice none 0 0):=by rw[p2,if_neg (by omega),d1]
 have q3:(putAt (zC 101) csA 0)[257]?=some (.slice none 0 0):=by rw[p2,if_neg (by omega),d2]
 have q4:(putAt (zC 101) csA 0).size=258:=by rw[p1,hz]
 generalize putAt (zC 101) csA 0=cD at q1 q2 q3 q4⊢;intro bn bM gI m;have e2:prog.built 168 [(0,.pointer (some ⟨bn,0,none⟩)),(1,.agg cD),(3,.map (some bM)),(4,.slice (some ⟨gI,0,none⟩) m m)]=fill (fun i=>#[(0,1),(1,258),(259,1),(260,1),(261,1),(262,1)][i]?) (zC 168) [(0,.pointer (some ⟨bn,0,none⟩)),(1,.agg cD),(3,.map (some bM)),(4,.slice (some ⟨gI,0,none⟩) m m)]:=by kernel_rfl
 have hk:=zoG;obtain⟨k1,k2⟩:=zoH;obtain⟨a1,a2⟩:=zZ (zC 168) #[.pointer (some ⟨bn,0,none⟩)] 0 (by rw[hk];simp);rw[Ak _ _ 0 0 1 (.pointer (some ⟨bn,0,none⟩)) _ (by rfl) (by rfl) (by rw[hk];omega)] at e2;rw[show (Value.pointer (some ⟨bn,0,none⟩)).cells=#[.pointer (some ⟨bn,0,none⟩)] from rfl] at e2;generalize putAt (zC 168) #[.pointer (some ⟨bn,0,none⟩)] 0=c1 at a1 a2 e2;obtain⟨b1,b2⟩:=zZ c1 cD 1 (by rw[a1,hk,q4];omega);rw[Ak _ _ 1 1 258 (.agg cD) _ (by rfl) q4 (by rw[a1,hk];omega)] at e2;rw[show (Value.agg cD).cells=cD from rfl] at e2;generalize putAt c1 cD 1=c2 at b1 b2 e2;obtain⟨f1,f2⟩:=zZ c2 #[.map (some bM)] 260 (by rw[b1,a1,hk];simp);rw[Ak _ _ 3 260 1 (.map (some bM)) _ (by rfl) (by rfl) (by rw[b1,a1,hk];omega)] at e2;rw[show (Value.map (some bM)).cells=#[.map (some bM)] from rfl] at e2;generalize putAt c2 #[.map (some bM)] 260=c3 at f1 f2 e2;obtain⟨g1,g2⟩:=zZ c3 #[.slice (some ⟨gI,0,none⟩) m m] 261 (by rw[f1,b1,a1,hk];simp);rw[Ak _ _ 4 261 1 (.slice (some ⟨gI,0,none⟩) m m) _ (by rfl) (by rfl) (by rw[f1,b1,a1,hk];omega)] at e2;rw[show (Value.slice (some ⟨gI,0,none⟩) m m).cells=#[.slice (some ⟨gI,0,none⟩) m m] from rfl] at e2;generalize putAt c3 #[.slice (some ⟨gI,0,none⟩) m m] 261=c4 at g1 g2 e2;rw[q4] at b2;simp only[List.size_toArray,List.length_cons,List.length_nil] at a2 f2 g2;refine⟨c4,by rw[g1,f1,b1,a1,hk],?_,fun j hj=>?_,?_,?_,?_,?_,?_,?_,fun W=>run_build W _ _ _ e2⟩
 ·rw[g2,if_neg (by omega),f2,if_neg (by omega),b2,if_neg (by omega),a2,if_pos (by omega)];rfl
 ·rw[g2,if_neg (by omega),f2,if_neg (by omega),b2,if_pos (by omega)];have:1+j-1=j:=by omega
  rw[this,q1 j hj]
 ·rw[g2,if_neg (by omega),f2,if_neg (by omega),b2,if_pos (by omega)];exact q2
 ·rw[g2,if_neg (by omega),f2,if_neg (by omega),b2,if_pos (by omega)];exact q3
 ·rw[g2,if_neg (by omega),f2,if_neg (by omega),b2,if_neg (by omega),a2,if_neg (by omega),k1]
 ·rw[g2,if_neg (by omega),f2,if_pos (by omega)];rfl
 ·rw[g2,if_pos (by omega)];rfl
 rw[g2,if_neg (by omega),f2,if_neg (by omega),b2,if_neg (by omega),a2,if_neg (by omega),k2]
theorem Dn{P:Program}{ops:Array Oper}{rest:List Oper}{o:Oper}{a:Act}{Q:Exit->Act->World->Prop}(qC:o.guard=none)(t:TypeId)(parts:Array (Nat × Operand))(ho:o.op=.build t parts)(ps:Array (Nat × Value))(hp:(parts.map fun (i,x)=>(i,a.eval x))=ps)(v:Value)
  (hb:(build t ps).run P w=.ok v w) (h:wpList P ops Q rest (a.put o.dst v) w):wpList P ops Q (o :: rest) a w:=
 wpList_plain qC fun _ hK=>by
  unfold Oper.wp execOp
  simp only[ho,hp,Sem.run_bind,hb,Result.andThen_ok]
  exact hK _ _ h
theorem wh:(prog.info? 146).map (fun i=>(i.zero,i.size,i.bytes))=some (some (.agg #[.int .u64 0,.int .u64 0,.int .u64 0,.int .u64 0]),4,32):=by kernel_rfl
def jt(p:Nat->Bool):List Value:=(#[.int .u64 (wd p 0),.int .u64 (wd p 1),.int .u64 (wd p 2),.int .u64 (wd p 3)]).toList
def BI(l:List (Nat->Bool)):List Value:=l.flatMap jt
theorem zoJ(l:List (Nat->Bool))(p:Nat->Bool):BI (l++[p])=BI l++jt p:=by simp[BI]
theorem zqP(l:List (Nat->Bool))(i:Nat)(h:i<l.length)(j:Nat)(hj:j<4):(BI l)[i*4+j]?=(jt l[i])[j]?:=by
 induction l generalizing i with
 | nil=>simp at h
 | cons x l ih=>
  have hc:(jt x).length=4:=by simp[jt]
  show (jt x++BI l)[i*4+j]?=_
  match i,h with
  | 0,_=>
   rw[Nat.zero_mul,Nat.zero_add,getElem?_append_left (by omega)];rfl
  | i+1,h=>
   rw[List.getElem?_append_right (by omega),hc,show (i+1)*4+j-4=i*4+j by omega,ih i (by simpa using h)];rfl
def cY(L:List Eg):List (Nat->Bool):=(L.filter fun e=>!e.b).map (·.p)
def zoK(w:World)(L:List Eg)(e:Ending)(w':World):Prop:=
 ∃(a:Option Addr) (n c:Nat),e=.returned (.slice a n c)/\(cY L).length=n/\w'.ownsRow w.heap.size 146 4 (.slice a n c) n (BI (cY L))/\ϐ w w'
theorem zoL(S F T:Int)(a:Option Addr)(n c:Nat)(L:List Eg)(w:World)(hL:lC w a L)(hn:L.length=n)(dZ:n<=1000000):
  Calls prog 148 #[.agg #[.int .i64 S,.slice a n c,.int .i64 F,.int .i64 T]] w (zoK w L):=by
 have HL:=ζ hL hn;have HW:=hid (Wi w S F T a n c);have HB:=hid (show ϐ w (w.alloc (.cells #[.int .i64 S,.slice a n c,.int .i64 F,.int .i64 T] 119)) from (Below.refl _ _).alloc (le_refl _) _);obtain⟨i0,hi,dP,dc,db⟩:=info_parts wh;clear hL hn;go_in;go_wp2_with fail;generalize w.alloc (.cells #[.int .i64 S,.slice a n c,.int .i64 F,.int .i64 T] 119)=W0 at HW HB⊢;go_loopw [3,5,9] (fun v _ i wr=>∃(k q:Nat),i=.int .i64 k/\k<=n/\q<=k/\Hid ((cY (L.take k)).length=q)/\Hid (wr.ownsRow w.heap.size 146 4 v q (BI (cY (L.take k))))/\Hid (ϐ w wr)) (fun _ _ i _=>n-(intOf i).toNat)
 ·exact⟨0,0,rfl,zero_le _,zero_le _,rfl,ownsRow_nil _ _ _ _,HB⟩
 obtain⟨k,q,rfl,hk,hq,HQ,HA,NC⟩:=hrel;obtain⟨aS,cS,rfl⟩:=cy HA.o;have cQ:=NC.o.size;by_cases aq:k<n
 ·have hkl:k<L.length:=by rw[HL.o.2];exact aq
  obtain⟨ge,off,rfl,hg,c0,c1,c2,c3,c4,c5,c6⟩:=(HL.o.1.below NC.o).get k hkl;have HS:Hid (L.take (k+1)=L.take k++[L[k]]):=List.take_succ_eq_append_getElem hkl;generalize L[k]=x at c0 c1 c2 c3 c4 c5 c6 HS;have mZ:ϐ wr (wr.alloc (.cells #[.int .i64 x.f,.int .i64 x.t,.int .u64 (wd x.p 0),.int .u64 (wd x.p 1),.int .u64 (wd x.p 2),.int .u64 (wd x.p 3),.bool x.b] 186)):=(Below.refl _ _).alloc (le_refl _) _;have Ao:=hid (dE HA.o mZ);have py:=hid (NC.o.trans (mZ.mono cQ));have mJ:=hid (St.new wr 186 #[.int .i64 x.f,.int .i64 x.t,.int .u64 (wd x.p 0),.int .u64 (wd x.p 1),.int .u64 (wd x.p 2),.int .u64 (wd x.p 3),.bool x.b]);obtain⟨xf,xt,xp,xb⟩:=x;dsimp only at c0 c1 c2 c3 c4 c5 c6 HS Ao py mJ;rcases xb with _|_
  ·have HZ:Hid (cY (L.take (k+1))=cY (L.take k)++[xp]):=(by show _=_;rw[HS.o];simp[cY]);clear mZ;go_upto_region 6 with fail;have e2:(wr.alloc (.cells #[.int .i64 xf,.int .i64 xt,.int .u64 (wd xp 0),.int .u64 (wd xp 1),.int .u64 (wd xp 2),.int .u64 (wd xp 3),.bool false] 186)).cell? ⟨wr.heap.size,2,none⟩=some (.int .u64 (wd xp 0)):=mJ.o.at_ 2;have e3:(wr.alloc (.cells #[.int .i64 xf,.int .i64 xt,.int .u64 (wd xp 0),.int .u64 (wd xp 1),.int .u64 (wd xp 2),.int .u64 (wd xp 3),.bool false] 186)).cell? ⟨wr.heap.size,3,none⟩=some (.int .u64 (wd xp 1)):=mJ.o.at_ 3;have e4:(wr.alloc (.cells #[.int .i64 xf,.int .i64 xt,.int .u64 (wd xp 0),.int .u64 (wd xp 1),.int .u64 (wd xp 2),.int .u64 (wd xp 3),.bool false] 186)).cell? ⟨wr.heap.size,4,none⟩=some (.int .u64 (wd xp 2)):=mJ.o.at_ 4;have e5:(wr.alloc (.cells #[.int .i64 xf,.int .i64 xt,.int .u64 (wd xp 0),.int .u64 (wd xp 1),.int .u64 (wd xp 2),.int .u64 (wd xp 3),.bool false] 186)).cell? ⟨wr.heap.size,5,none⟩=some (.int .u64 (wd xp 3)):=mJ.o.at_ 5;generalize (wr.alloc (.cells #[.int .i64 xf,.int .i64 xt,.int .u64 (wd xp 0),.int .u64 (wd xp 1),.int .u64 (wd xp 2),.int .u64 (wd xp 3),.bool false] 186))=W1 at Ao py mJ e2 e3 e4 e5⊢;have hO:=Ao.o;have my:=py.o.size;go_wp2_with (at_builtin;refine wpList_append_own _ rfl _ _ 189 rfl w.heap.size 146 i0 (.agg #[.int .u64 0,.int .u64 0,.int .u64 0,.int .u64 0]) 4 32 underlying189 hi dP dc db rfl (by decide) _ _ _ rfl (hO.alloc _) ⟨W1.heap.size,0,none⟩ 1 1 (#[.int .u64 (wd xp 0),.int .u64 (wd xp 1),.int .u64 (wd xp 2),.int .u64 (wd xp 3)]).toList rfl rfl (World.news_of_block (cs:=#[.int .u64 (wd xp 0),.int .u64 (wd xp 1),.int .u64 (wd xp 2),.int .u64 (wd xp 3)]) (t:=146) (fr:=(0,0)) (St.new W1 _ _)) ?d2 ?d3 ?d4 ?d5 ?_)
   case d2=>exact⟨rfl,rfl,rfl,rfl⟩
   case d3=>unfold maxLen;omega
   case d4=>omega
   case d5=>simp;omega
   intro v' w5 ak aj _;obtain⟨a5,c5,rfl⟩:=cy ak;have xK:ϐ W1 (W1.alloc (.cells #[.int .u64 (wd xp 0),.int .u64 (wd xp 1),.int .u64 (wd xp 2),.int .u64 (wd xp 3)] 146)):=(Below.refl _ _).alloc (le_refl _) _;have pt:Hid (ϐ w w5):=(py.o.trans (xK.mono my)).trans (EE aj (hO.alloc _) (by simp;omega));have vb:Hid (w5.ownsRow w.heap.size 146 4 (.slice a5 (q+1) c5) (q+1) (BI (cY (L.take (k+1))))):=by
    show World.ownsRow _ _ _ _ _ _ _;rw[HZ.o,zoJ];exact ak
   have HQ5:Hid ((cY (L.take (k+1))).length=q+1):=(by show _=_;rw[HZ.o,length_append,HQ.o];rfl);clear ak aj xK hO e2 e3 e4 e5;go_wp2;go_roundw
   ·exact⟨k+1,q+1,by go_num,by omega,by omega,HQ5,vb,pt⟩
   simp[intOf];omega
  have HZ:Hid (cY (L.take (k+1))=cY (L.take k)):=by show _=_;rw[HS.o];simp[cY]
  clear mZ;go_wp2;go_roundw
  ·exact⟨k+1,q,by go_num,by omega,by omega,by show _=_;rw[HZ.o];exact HQ.o,by show World.ownsRow _ _ _ _ _ _ _;rw[HZ.o];exact Ao.o,py⟩
  simp[intOf];omega
 obtain rfl:k=n:=by omega
 have HZ:Hid (L.take k=L):=List.take_of_length_le (by rw[HL.o.2];exact le_refl _);go_wp2;go_ret;refine⟨aS,q,cS,rfl,?_,?_,NC.o⟩
 ·have:=HQ.o;rwa [HZ.o] at this
 have:=HA.o;rwa [HZ.o] at this
def same(s:Nat->Nat->Bool)(b c:Nat):Nat->Bool
 | 0=>true
 | i+1=>same s b c i && (s i b == s i c)
