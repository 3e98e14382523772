import Derived.Test.YtiijebameffenaaGreatZRefClass
import Derived.Laws.CopyRow
import Derived.Laws.ResultCell
set_option linter.all false
set_option maxHeartbeats 2000000
set_option maxRecDepth 100000
open Go.Lib (hid)
namespace Go.Proofs.YtiijebameffenaaGreat
open Go.RowKit Go.Proofs.Tryz
open List (getD_eq_getElem?_getD getElem?_append getElem?_map getElem?_range getElem?_toArray getElem_mem length_map mem_append mem_singleton range replicate take_length)
open Nat (le_refl le_trans zero_add zero_le)
open Instr (build makeFunc sureAddr)
open Or (inl inr)
open Option (map_some)
open _root_.Array (getElem?_setIfInBounds_ne getElem?_toList)
open World (news_of_block ownsRow_nil)
open Sem (run_bind run_pure)
open Result (andThen_ok)
open Value (oneCell' ownBlock)
open Act (put)
variable {B C F M Mf Mm Ms bM bm bn c g gI i j k m n t x y:Nat}{K:Nat->Lit}{L L':List En}{Ls lc nm:List Nat}{P:Program}{R:List (List Int)}{SS:List (Nat->Bool)}{a:Option Addr}{cD cs csA:Array Value}{dt ms:List Int}{ev:Operand->Value}{fv sv:Nat->Value}{mf mk:Nat->Int}{ops:Array Oper}{r:Int}{s0:Nat->Bool}{v vF vM vS:Value}{w w':World}{xs:Nat->List Value}
def rY(L:List Eg)(i:Nat):Nat->Bool:=(cY L).getD i (fun _=>false)
theorem zoS{L:List Eg}(h:w.ownsRow B 146 4 (.slice a n c) n (BI (cY L)))(hn:(cY L).length=n):mw w a n (rY L):=by
 intro h0;obtain⟨g,e,_,hg,hc⟩:=fG h (by omega);refine⟨g,0,e,hg,fun i hi=>?_⟩;have uA:i<(cY L).length:=by omega
 have qd:rY L i=(cY L)[i]:=by simp[rY,getD_eq_getElem?_getD,List.getElem?_eq_getElem uA]
 have rd:∀j,j<4->w.cell? ⟨g,i*4+j,none⟩=(jt (rY L i))[j]?:=fun j hj=>by rw[(hc _ (by omega)).1,zqP _ i uA j hj,qd]
 simp only[zero_add];exact⟨rd 0 (by omega),rd 1 (by omega),rd 2 (by omega),rd 3 (by omega)⟩
open Go.Maps Go.WideElems Go.ChangeMaps
def dM(L:List En):Nat->Lit:=jU (rY (L.map En.z)) (cY (L.map En.z)).length
def zpu(K:Nat->Lit)(w:World)(e:Ending)(w':World):Prop:=
 ∃(b7 b8 bL:Nat) (aR:Option Addr) (cR:Nat),e=.returned (.func (.func 170) #[] #[.pointer (some ⟨b8,0,none⟩),.pointer (some ⟨b7,0,none⟩)])/\(∀P,xE w.heap.size b7 b8 bL 0 (rl K 256) aR cR P [] w')/\ϐ w w'/\w.heap.size<=bL
theorem zmS(K:Nat->Lit)(bn:Nat)(cs:Array Value)(w:World)(h:IH w w.heap.size bn K cs):Calls prog 151 #[.pointer (some ⟨bn,0,none⟩)] w (zpu K w):=by
 have HF:=hid (zeF K w.heap.size bn cs w h);have Bm:∀(fn:Fn) (first cap:Array Value) (w:World),(makeFunc fn first cap).run prog w=.ok (.func fn first cap) w:=fun _ _ _ _=>rfl
 have jR:=@run_makeMap prog;clear h;go_in;go_wp2_with fail;refine HF.o.mono ?_;rintro e w2 ⟨a,c,rfl,hO,hB⟩;have HZ:Hid (zpu K w (.returned (.func (.func 170) #[] #[.pointer (some ⟨w2.heap.size+1+1,0,none⟩),.pointer (some ⟨w2.heap.size,0,none⟩)])) (((w2.alloc (.cells #[.slice a (dA K 256) c] 76)).alloc (.map #[] 0)).alloc (.cells #[.map (some (w2.heap.size+1))] 219))):=by
  have k1:=al w2 (.cells #[.slice a (dA K 256) c] 76);have k2:=al (w2.alloc (.cells #[.slice a (dA K 256) c] 76)) (.map #[] 0);have k3:=al ((w2.alloc (.cells #[.slice a (dA K 256) c] 76)).alloc (.map #[] 0)) (.cells #[.map (some (w2.heap.size+1))] 219);have hlen:(rl K 256).length=dA K 256:=A8 K 256;have hs:=hB.size;refine⟨w2.heap.size,w2.heap.size+1+1,w2.heap.size+1,a,c,rfl,fun P=>⟨?_,?_,?_,?_,fun d hd=>by simp at hd,⟨by omega,by simp;omega⟩,fun x hx=>?_⟩,?_,by omega⟩
  ·rw[hlen];exact ((St.new w2 _ _).ae k2).ae k3
  ·have:=St.new ((w2.alloc (.cells #[.slice a (dA K 256) c] 76)).alloc (.map #[] 0)) 219 #[.map (some (w2.heap.size+1))];simpa using this
  ·rw[hlen];exact dE (dE (dE hO k1) k2) k3
  ·have h1:aJ ((w2.alloc (.cells #[.slice a (dA K 256) c] 76)).alloc (.map #[] 0)) 146 (w2.heap.size+1) 0 (LQ (rl K 256) []):=by
    have:=aJ.made (w2.alloc (.cells #[.slice a (dA K 256) c] 76)) 146 (LQ (rl K 256) []) (fun x y ⟨d,hd,_⟩=>by simp at hd);simpa using this
   exact h1.same (k3.block _ h1.lt)
  ·obtain⟨c,hc,rfl⟩:=List.getElem_of_mem hx;exact (zrQ K 256 c hc).2
  exact ((hB.trans (k1.mono hs)).trans (k2.mono (by simp;omega))).trans (k3.mono (by simp;omega))
 clear hO hB;go_wp2;go_ret;exact HZ.o
def vA(v:Value):Option Addr:=match v with|.slice a _ _=>a|_=>none
def vC(v:Value):Nat:=match v with|.slice _ _ c=>c|_=>0
theorem iE.first(h:iE B bn Mm Mf Ms cs dt vM vF vS fv sv xs L w)(u:Value):
  iE B bn Mm Mf Ms (cs.setIfInBounds 256 u) dt vM vF vS fv sv xs L (w.setCell ⟨bn,256,none⟩ u)/\jm B bn (np bn Mf Ms vM vF vS fv sv) (np bn Mf Ms vM vF vS fv sv) w (w.setCell ⟨bn,256,none⟩ u):=by
 have hk:Kept [] [bn] w (w.setCell ⟨bn,256,none⟩ u):=(Kept.refl _ _ _).setCell _ _ (inl (by simp));have hne:∀{t s n:Nat}{v:Value}{ys:List Value},w.ownsRow B t s v n ys->t≠165->∀b,v.ownBlock=some b->b∉[bn]:=fun ho ht b e hm=>eI ho h.sn ht b e (List.mem_singleton.1 hm)
 refine⟨⟨?_,by simp[h.sz],gk h.om hk (by simp) (hne h.om (by decide)),h.fr.kept hk (hne h.fr.own (by decide)) (fun i hi=>hne (h.fr.row i hi) (by decide)),h.st.kept hk (hne h.st.own (by decide)) (fun i hi=>hne (h.st.row i hi) (by decide)),h.sep,⟨h.lo.1,by simpa [World.size_setCell] using h.lo.2⟩,h.hE,h.hx⟩,
  ⟨⟨[bn],hk,fun x hx=>inl (inl (List.mem_singleton.1 hx))⟩,fun x hx=>inl hx,(Below.refl _ _).setCell (p:=⟨bn,256,none⟩) h.lo.1 u⟩⟩
 have:=h.sn.set 256 u;rwa [Array.setIfInBounds_comm vS u (by decide),Array.setIfInBounds_comm vF u (by decide),Array.setIfInBounds_comm vM u (by decide)] at this
theorem iE.net{P:Nat->Prop}{cl:(Nat->Bool)->List Nat}(h:iE B bn M M M cs dt vM vF vS fv sv xs L w)(hM:0<M)(hr:∀i,i<M->wV w P cl (dk L i) (xs i))(gP:∀i,i<M->dt[i]?=some (mk i)):
  ∃gM cM gF cF gS cS,mF w w.heap.size bn gF M cF (fun i=>vA (fv i)) (fun i=>vC (fv i)) L/\qq w w.heap.size bn gS M cS (fun i=>vA (sv i)) (fun i=>vC (sv i)) cl L/\lq w w.heap.size bn gM M cM mk:=by
 obtain⟨aM,cM,rfl⟩:=cy h.om;obtain⟨aF,cF,rfl⟩:=cy h.fr.own;obtain⟨aS,cS,rfl⟩:=cy h.st.own;obtain⟨gM,rfl,_,uc,hcM⟩:=fG h.om hM;obtain⟨gF,rfl,_,Rg,TP⟩:=fG h.fr.own hM;obtain⟨gS,rfl,_,zu,No⟩:=fG h.st.own hM;obtain⟨c0,c1,c2⟩:=h.cells;have bQ:=h.sn.lt;refine⟨gM,cM,gF,cF,gS,cS,⟨⟨bQ,Rg⟩,c1,fun i hi=>?_,fun i hi h0=>?_⟩,⟨⟨bQ,zu⟩,c2,fun i hi=>?_,fun i hi h0=>?_⟩,⟨⟨bQ,uc⟩,c0,fun i hi=>?_⟩⟩
 ·rw[(TP i (by omega)).1];obtain⟨a,c,e⟩:=cy (h.fr.row i hi);simp[hi,e,vA,vC]
 ·have ho:=h.fr.row i hi;obtain⟨a,c,e⟩:=cy ho;rw[e] at ho;obtain⟨g,rfl,_,hg,hc⟩:=fG ho h0;refine⟨g,0,by simp[e,vA],hg,fun j hj=>?_⟩;rw[zero_add,(hc j (by omega)).1,Ck _ j hj]
 ·rw[(No i (by omega)).1];obtain⟨a,c,e⟩:=cy (h.st.row i hi);simp[hi,e,vA,vC]
 ·have ho:=h.st.row i hi;obtain⟨a,c,e⟩:=cy ho;rw[e] at ho;obtain⟨g,rfl,_,hg,hc⟩:=fG ho h0;refine⟨g,0,by simp[e,vA],hg,fun k hk=>?_⟩;obtain⟨a',c',h1,h2,h3⟩:=(hr i hi).2 k hk;refine⟨a',c',by rw[zero_add,(hc (k*2) (by omega)).1,h1],by rw[zero_add,(hc (k*2+1) (by omega)).1,h2],fun h4=>?_⟩;obtain⟨g',off,e1,e2,_,e3⟩:=h3 h4;exact⟨g',off,e1,e2,e3⟩
 rw[(hcM i (by omega)).1];simp only[ints,getElem?_map,gP i hi,map_some]
theorem Js(w:World)(p:Addr)(u:Value)(h:g≠p.block):(w.setCell p u).cell? ⟨g,i,none⟩=w.cell? ⟨g,i,none⟩:=by
 have e:=Below.heap_setCell w p u g h;simp only[World.cell?,e]
theorem Ot(cs:Array Value)(i:Nat)(v:Value)(h:cs[i]?=some v):cs.setIfInBounds i v=cs:=by
 apply Array.ext_getElem?;intro j;by_cases e:i=j
 ·subst e;rw[Array.getElem?_setIfInBounds_self_of_lt (Array.getElem?_eq_some_iff.1 h).1,h]
 rw[getElem?_setIfInBounds_ne e]
theorem xE.base{B' b7 b8 bL:Nat}{lr:List Nat}{aR:Option Addr}{cR:Nat}{P:Nat->Prop}{DL:List ((Nat->Bool) × Option Addr × Nat)}(h:xE B' b7 b8 bL n lr aR cR P DL w)(hb:B<=B'):xE B b7 b8 bL n lr aR cR P DL w:=
 ⟨h.s7,h.s8,jH h.row hb,h.map,h.at_,⟨le_trans hb h.lo.1,le_trans hb h.lo.2⟩,h.lr⟩
theorem uL.first{V:World}{b3 b5 b6:Nat}{fn:Value}(h:uL V B bn b3 b5 b6 bM fn mf nm cs vM vF vS fv sv xs L w)(u:Value):
  uL V B bn b3 b5 b6 bM fn mf nm (cs.setIfInBounds 256 u) vM vF vS fv sv xs L (w.setCell ⟨bn,256,none⟩ u):=by
 obtain⟨h1,h2⟩:=h.n.first u
 exact⟨h1,h.sM.gv h.n.sn (by decide) _ _,h.sT.gv h.n.sn (by decide) _ _,h.sF.gv h.n.sn (by decide) _ _,h.map.set h.n.sn,h.nd,h.le,h.bM,h.bc.trans h2.below⟩
theorem uL.start(V w3:World)(B b3:Nat)(fn:Value)(mf:Nat->Int)(cN:Array Value)(hb:Below B V w3)(hB:B<=w3.heap.size)(h3:St w3 137 b3 #[fn])(hs:cN.size=260)(h7:cN[257]?=some (.slice none 0 0))(h8:cN[258]?=some (.slice none 0 0))(h9:cN[259]?=some (.slice none 0 0)):
  uL V B w3.heap.size b3 (w3.heap.size+1) (w3.heap.size+1+1+1) (w3.heap.size+1+1) fn mf [] cN (.slice none 0 0) (.slice none 0 0) (.slice none 0 0) (fun _=>.slice none 0 0) (fun _=>.slice none 0 0) (fun _=>[]) []
   ((((w3.alloc (.cells cN 165)).alloc (.cells #[.pointer (some ⟨w3.heap.size,0,none⟩)] 160)).alloc (.map #[] 0)).alloc (.cells #[.map (some (w3.heap.size+1+1))] 191)):=by
 have k1:=al w3 (.cells cN 165);have k2:=al (w3.alloc (.cells cN 165)) (.cells #[.pointer (some ⟨w3.heap.size,0,none⟩)] 160);have k3:=al ((w3.alloc (.cells cN 165)).alloc (.cells #[.pointer (some ⟨w3.heap.size,0,none⟩)] 160)) (.map #[] 0);have k4:=al (((w3.alloc (.cells cN 165)).alloc (.cells #[.pointer (some ⟨w3.heap.size,0,none⟩)] 160)).alloc (.map #[] 0)) (.cells #[.map (some (w3.heap.size+1+1))] 191);have e0:((cN.setIfInBounds 257 (.slice none 0 0)).setIfInBounds 258 (.slice none 0 0)).setIfInBounds 259 (.slice none 0 0)=cN:=by rw[Ot cN 257 _ h7,Ot cN 258 _ h8,Ot cN 259 _ h9]
 refine⟨⟨?_,hs,ownsRow_nil _ _ _ _,⟨ownsRow_nil _ _ _ _,fun i hi=>by simp at hi,fun i j hi=>by simp at hi⟩,⟨ownsRow_nil _ _ _ _,fun i hi=>by simp at hi,fun i j hi=>by simp at hi⟩,fun i hi=>by simp at hi,⟨hB,by simp;omega⟩,fun e he=>by simp at he,fun i hi=>rfl⟩,?_,?_,?_,?_,List.nodup_nil,fun x hx=>by simp at hx,by omega,?_⟩
 ·rw[e0];exact (((St.new w3 165 cN).ae k2).ae k3).ae k4
 ·have:=St.new (((w3.alloc (.cells cN 165)).alloc (.cells #[.pointer (some ⟨w3.heap.size,0,none⟩)] 160)).alloc (.map #[] 0)) 191 #[.map (some (w3.heap.size+1+1))];simpa using this
 ·have:=((St.new (w3.alloc (.cells cN 165)) 160 #[.pointer (some ⟨w3.heap.size,0,none⟩)]).ae k3).ae k4;simpa using this
 ·exact (((h3.ae k1).ae k2).ae k3).ae k4
 ·have h1:aJ (((w3.alloc (.cells cN 165)).alloc (.cells #[.pointer (some ⟨w3.heap.size,0,none⟩)] 160)).alloc (.map #[] 0)) 3 (w3.heap.size+1+1) 0 (AV []):=by
   have:=aJ.made ((w3.alloc (.cells cN 165)).alloc (.cells #[.pointer (some ⟨w3.heap.size,0,none⟩)] 160)) 3 (AV []) (fun x y ⟨k,s,h,_⟩=>by simp at h);simpa using this
  exact h1.same (k4.block _ h1.lt)
 exact (((hb.trans (k1.mono hB)).trans (k2.mono (by simp;omega))).trans (k3.mono (by simp;omega))).trans (k4.mono (by simp;omega))
theorem iE.cl(h:iE B bn Mm Mf Ms cs dt vM vF vS fv sv xs L w)(hs:csA.size=256)(hv:∀j,j<256->csA[j]?=some (.int .u8 (cls K j)))(hc:∀j,j<256->cs[j]?=csA[j]?):IH w w.heap.size bn K csA:=
 ⟨h.sn.lt,hs,hv,fun j v hj=>by
  have hj2:j<256:=by
   have:=(List.getElem?_eq_some_iff.1 hj).1
   simpa [hs] using this
  have e:(⟨bn,0,none⟩:Addr).add j=⟨bn,j,none⟩:=by unfold Addr.add;split <;> simp_all
  rw[e,h.sn.at_,getElem?_setIfInBounds_ne (by omega),getElem?_setIfInBounds_ne (by omega),getElem?_setIfInBounds_ne (by omega),hc j hj2,<-getElem?_toList,hj]⟩
theorem zex{o:Oper}(hg:o.guard=none)(ty:TypeId)(x:Operand)(ho:o.op=.load ty x)(ad:Addr)(hx:ev x=.pointer (some ad))(cs:Array Value)(d:TypeDesc)(w:World)(hc:∀j v,cs.toList[j]?=some v->w.cell? (ad.add j)=some v)
  (hu:P.underlying ty=some d) (hd:(match d with|.struct _|.array _ _=>true|_=>false)=true) (hi:(P.info? ty).map (·.size)=some cs.size):(execOp ev o).run P w=.ok (.value (.agg cs)) w:=by
 unfold execOp;simp only[ho,hx,Instr.loadAt,sureAddr,run_bind,run_pure,andThen_ok,JC w ad ty cs d hc hu hd hi]
theorem Rw{o:Oper}(hg:o.guard=none)(t:TypeId)(parts:Array (Nat × Operand))(ho:o.op=.build t parts)(ps:Array (Nat × Value))(hp:(parts.map fun (i,x)=>(i,ev x))=ps)(v:Value)(hb:(build t ps).run P w=.ok v w):(execOp ev o).run P w=.ok (.value v) w:=by
 unfold execOp;simp only[ho,hp,run_bind,hb,andThen_ok,run_pure]
theorem zmT(N:Nat)(hN:N<=2147483647)(W:World):(Instr.makeSlice 76 (.int .i64 (N:Int)) (.int .i64 (N:Int))).run prog W=.ok (.slice (some ⟨W.heap.size,0,none⟩) N N) (W.alloc (.cells (madeCells #[.int .u8 0] N) 5)):=by
 have:=run_make_row' (P:=prog) 76 5 (.int .u8 0) 1 underlying76 kn rfl .i64 .i64 N (by omega) (by omega) W;simpa using this
theorem zjl{cK:Array Value}(hw:Below B w w')(hB:B<=w'.heap.size)(hm:St w' 168 bm cK)(hi:w'.ownsRow B 5 1 (.slice (some ⟨gI,0,none⟩) m m) m (replicate m (.int .u8 0)))(hM:aJ w' 9 bM 0 (MQ M []))
  (eR:∀j,j<256->csA[j]?=some (.int .u8 (cls K j)))
  (hc:cK.size=263/\cK[0]?=some (.pointer (some ⟨bn,0,none⟩))/\(∀j,j<256->cK[1+j]?=csA[j]?)/\cK[257]?=some (.slice none 0 0)/\cK[258]?=some (.slice none 0 0)/\cK[259]?=some (.slice none 0 0)/\cK[260]?=some (.map (some bM))/\cK[261]?=some (.slice (some ⟨gI,0,none⟩) m m)/\cK[262]?=some (.slice none 0 0))
  (h1:B<=bm) (h2:B<=gI) (h3:B<=bM):mB B bm gI bM m M C bn K L mk [] [] [] [] 0 cK [] (.slice none 0 0) (.slice none 0 0) (.slice none 0 0) (.slice none 0 0) [] w':=by
 obtain⟨z,c0,cc,c7,c8,c9,c10,c11,c12⟩:=hc;refine⟨⟨⟨Kept.refl _ _ _,Below.refl _ _,by rw[Ot cK 262 _ c12];exact hm,z,c11,?_,ownsRow_nil _ _ _ _,fun b e=>by simp[ownBlock] at e,⟨by simp[jy],by simp[jy]⟩,h1,h2,hB⟩,List.nodup_nil,fun x hx=>by simp at hx⟩,
  ⟨c8,c9,c10,ownsRow_nil _ _ _ _,ownsRow_nil _ _ _ _,hM,fun b e=>by simp[ownBlock] at e,fun b e=>by simp[ownBlock] at e,fun b e=>by simp[ownBlock] at e,by simp[jy],h3⟩,
  ⟨fun j hj=>by simp at hj,fun p hp=>by simp at hp,rfl,fun j hj=>by simp at hj⟩,⟨ownsRow_nil _ _ _ _,rfl,fun i hi=>by simp at hi⟩,c0,c7,fun j hj=>by rw[cc j hj];exact eR j hj,le_refl _⟩
 rw[show (fun x=>decide (x∈([]:List Nat)))=fun _=>false from by funext x;simp,PV];exact hi
def DY(B m M C bn:Nat)(K:Nat->Lit)(L:List En)(mk:Nat->Int)(w:World)(e:Ending)(w':World):Prop:=
 ∃(bm gI bM:Nat) (cK:Array Value),e=.returned (.pointer (some ⟨bm,0,none⟩))/\mB B bm gI bM m M C bn K L mk [] [] [] [] 0 cK [] (.slice none 0 0) (.slice none 0 0) (.slice none 0 0) (.slice none 0 0) [] w'/\Below B w w'
theorem zg4(K:Nat->Lit)(L:List En)(mk:Nat->Int)(csA:Array Value)(bn gM M cM m C:Nat)(w:World)(h:IH w w.heap.size bn K csA)(hM:w.cell? ⟨bn,257,none⟩=some (.slice (some ⟨gM,0,none⟩) M cM))(Pj:M<=12900)(hm:(M+7) / 8=m):
  Calls prog 117 #[.pointer (some ⟨bn,0,none⟩)] w (DY w.heap.size m M C bn K L mk w):=by
 have fI:(prog.info? 98).map (·.size)=some csA.size:=by rw[h.sz];kernel_rfl
 obtain⟨cD,hDs,hD,zE⟩:=zoI csA h.sz;have yO:=zmT m (by omega);have jR:=@run_makeMap prog;have hq:Int.tdiv ((M:Int)+7) 8=(m:Int):=by rw[Int.tdiv_eq_ediv_of_nonneg (by omega),<-hm];omega
 have CH:IntKind.i64.wrap ((M:Int)+7)=(M:Int)+7:=IntWalk.i64_in _ (by omega);have dQ:IntKind.i64.wrap (m:Int)=m:=IntWalk.i64_in _ (by omega);have H:=hid h;have bQ:=h.hY;have dX:=hid (fun (W':World) (k:ϐ w W')=>(⟨fun j v hj=>(by
   have e:(⟨bn,0,none⟩:Addr).add j=⟨bn,j,none⟩:=by unfold Addr.add;split <;> simp_all
   have h2:=h.at_ j v hj
   rw[e] at h2⊢
   exact (k.cell (p:=⟨bn,j,none⟩) bQ).trans h2),(k.cell (p:=⟨bn,257,none⟩) bQ).trans hM⟩:
  (∀j v,csA.toList[j]?=some v->W'.cell? ((⟨bn,0,none⟩:Addr).add j)=some v)/\W'.cell? ⟨bn,257,none⟩=some (.slice (some ⟨gM,0,none⟩) M cM)))
 have mI:∀(W:World),w.heap.size<=W.heap.size->(W.alloc (.cells (madeCells #[.int .u8 0] m) 5)).ownsRow w.heap.size 5 1 (.slice (some ⟨W.heap.size,0,none⟩) m m) m (replicate m (.int .u8 0)):=fun W hW=>Fb W w.heap.size m 5 (.int .u8 0) hW (by unfold maxLen;omega)
 have HBa:ϐ w ((w.alloc (.map #[] 0)).alloc (.cells (madeCells #[.int .u8 0] m) 5)).drew:=((al w _).trans ((al _ _).mono (by simp))).drew;have HBb:ϐ w ((w.alloc (.cells (madeCells #[.int .u8 0] m) 5)).alloc (.map #[] 0)).drew:=((al w _).trans ((al _ _).mono (by simp))).drew;have FE:∀cK:Array Value,ϐ w (((w.alloc (.map #[] 0)).alloc (.cells (madeCells #[.int .u8 0] m) 5)).alloc (.cells cK 168)).drew:=fun cK=>(((al w _).trans ((al _ _).mono (by simp))).trans ((al _ _).mono (by simp;omega))).drew
 have EA:∀cK:Array Value,ϐ w (((w.alloc (.cells (madeCells #[.int .u8 0] m) 5)).alloc (.map #[] 0)).alloc (.cells cK 168)).drew:=fun cK=>(((al w _).trans ((al _ _).mono (by simp))).trans ((al _ _).mono (by simp;omega))).drew
 have mM:∀(W:World),aJ (W.alloc (.map #[] 0)) 9 W.heap.size 0 (MQ M []):=fun W=>aJ.made W 9 (MQ M []) (fun x y ⟨p,hp,_⟩=>by simp at hp)
 have HFa:∀cK:Array Value,(cK.size=263/\cK[0]?=some (.pointer (some ⟨bn,0,none⟩))/\(∀j,j<256->cK[1+j]?=csA[j]?)/\cK[257]?=some (.slice none 0 0)/\cK[258]?=some (.slice none 0 0)/\cK[259]?=some (.slice none 0 0)/\cK[260]?=some (.map (some w.heap.size))/\cK[261]?=some (.slice (some ⟨w.heap.size+1,0,none⟩) m m)/\cK[262]?=some (.slice none 0 0))->
   Hid (DY w.heap.size m M C bn K L mk w (.returned (.pointer (some ⟨w.heap.size+1+1,0,none⟩))) (((w.alloc (.map #[] 0)).alloc (.cells (madeCells #[.int .u8 0] m) 5)).alloc (.cells cK 168)).drew):=fun cK hc=>by
  have k3:=al ((w.alloc (.map #[] 0)).alloc (.cells (madeCells #[.int .u8 0] m) 5)) (.cells cK 168)
  refine⟨w.heap.size+1+1,w.heap.size+1,w.heap.size,cK,rfl,zjl (csA:=csA) (FE cK) (by simp;omega) ?_ ?_ ?_ H.o.val hc (by omega) (by omega) (le_refl _),FE cK⟩
  ·have:=(St.new ((w.alloc (.map #[] 0)).alloc (.cells (madeCells #[.int .u8 0] m) 5)) 168 cK).drew
   simpa using this
  ·have:=dE (mI (w.alloc (.map #[] 0)) (by simp)) (k3.drew)
   simpa using this
  ·exact (mM w).same (((al (w.alloc (.map #[] 0)) _).trans (k3.mono (by simp))).drew.block _ (by simp))
 have HFb:∀cK:Array Value,(cK.size=263/\cK[0]?=some (.pointer (some ⟨bn,0,none⟩))/\(∀j,j<256->cK[1+j]?=csA[j]?)/\cK[257]?=some (.slice none 0 0)/\cK[258]?=some (.slice none 0 0)/\cK[259]?=some (.slice none 0 0)/\cK[260]?=some (.map (some (w.heap.size+1)))/\cK[261]?=some (.slice (some ⟨w.heap.size,0,none⟩) m m)/\cK[262]?=some (.slice none 0 0))->
   Hid (DY w.heap.size m M C bn K L mk w (.returned (.pointer (some ⟨w.heap.size+1+1,0,none⟩))) (((w.alloc (.cells (madeCells #[.int .u8 0] m) 5)).alloc (.map #[] 0)).alloc (.cells cK 168)).drew):=fun cK hc=>by
  have k3:=al ((w.alloc (.cells (madeCells #[.int .u8 0] m) 5)).alloc (.map #[] 0)) (.cells cK 168)
  refine⟨w.heap.size+1+1,w.heap.size,w.heap.size+1,cK,rfl,zjl (csA:=csA) (EA cK) (by simp;omega) ?_ ?_ ?_ H.o.val hc (by omega) (le_refl _) (by omega),EA cK⟩
  ·have:=(St.new ((w.alloc (.cells (madeCells #[.int .u8 0] m) 5)).alloc (.map #[] 0)) 168 cK).drew
   simpa using this
  ·exact dE (mI w (le_refl _)) ((al _ _).trans (k3.mono (by simp))).drew
  ·have:=(mM (w.alloc (.cells (madeCells #[.int .u8 0] m) 5))).same (k3.drew.block _ (by simp))
   simpa using this
 clear h hM;go_in;go_upto_region 1 with fail;refine wp_region_held_drew (S:=fun W'=>(∀j v,csA.toList[j]?=some v->W'.cell? ((⟨bn,0,none⟩:Addr).add j)=some v)/\W'.cell? ⟨bn,257,none⟩=some (.slice (some ⟨gM,0,none⟩) M cM)) (by kernel_rfl) (dX.o _ (Below.refl _ _).drew) (fun η=>?_)
 (refine ay 0 ?_;refine ay 1 ?_;refine ay 2 ?_;try simp only[put,sA];refine ay 3 ?_)
 (refine ay 4 (v:=(.agg csA)) ?_ (hy:=by intro wz hSw;exact zex rfl 98 _ rfl ⟨bn,0,none⟩ (by rfl) csA (.array 256 5) wz hSw.1 underlying98 rfl fI);try simp only[put,sA])
 (refine wpAnyH_take (i:=5) (oi:=?_) (v:=(.agg cD)) ?_ (by kernel_rfl) (by kernel_rfl) (by kernel_rfl) ?_ (inl ⟨?_,?_⟩) (by assumption) ?_;rotate_left 1;(focus ((simp only[getElem?_toArray,List.getElem?_cons_succ,List.getElem?_cons_zero]);first|done|rfl));(focus (exact fun _ _ _ h=>h));(focus rfl);(focus (intro wz hSw;exact Rw rfl 101 _ rfl #[(0,.agg csA)] (by first|kernel_rfl|(go_simp;done)) (.agg cD) (hD wz)));try simp only[put,sA])
 (refine ay 7 ?_;refine ay 8 ?_;refine ay 9 ?_;try simp only[put,sA];refine ay 10 ?_;refine ay 11 ?_;refine ay 12 ?_;try simp only[put,sA];refine ay 13 ?_;try simp only[put,sA])
 refine wpAnyH_ready (rs:=[6,14]) (by kernel_rfl) (by simp) ?_;refine jn (fun K hK=>?_) ?_
 ·skip;go_simp;refine hK.out _ _ (dX.o _ (al w _).drew) fun η=>?_;clear hK K
  try simp only[put,sA]
  refine bH 14 (fun K hK=>?_);skip;go_simp;refine hK.out _ _ (dX.o _ HBa) fun η=>?_;clear hK K
  try simp only[put,sA]
  obtain⟨cK,pB⟩:=zE bn w.heap.size (w.heap.size+1) m;have lk:=FE cK;have HF:=HFa cK ⟨pB.1,pB.2.1,pB.2.2.1,pB.2.2.2.1,pB.2.2.2.2.1,pB.2.2.2.2.2.1,pB.2.2.2.2.2.2.1,pB.2.2.2.2.2.2.2.1,pB.2.2.2.2.2.2.2.2.1⟩
  (refine wpAnyH_take (i:=15) (oi:=?_) (v:=(.agg cK)) ?_ (by kernel_rfl) (by kernel_rfl) (by kernel_rfl) ?_ (inl ⟨?_,?_⟩) (by assumption) ?_;rotate_left 1;(focus ((simp only[getElem?_toArray,List.getElem?_cons_succ,List.getElem?_cons_zero]);first|done|rfl));(focus (exact fun _ _ _ h=>h));(focus rfl);(focus (intro wz hSw;exact Rw rfl 168 _ rfl #[(0,.pointer (some ⟨bn,0,none⟩)),(1,.agg cD),(3,.map (some (w.heap.size))),(4,.slice (some ⟨w.heap.size+1,0,none⟩) m m)] (by first|kernel_rfl|(go_simp;done)) (.agg cK) (pB.2.2.2.2.2.2.2.2.2 wz)));try simp only[put,sA])
  refine bH 16 (fun K hK=>?_);skip;go_simp;refine hK.out _ _ (dX.o _ lk) fun η=>?_;clear hK K
  try simp only[put,sA]
  (refine ay 17 ?_;try simp only[put,sA])
  refine wpAnyH_done (by kernel_rfl) ?_ _;clear η;go_wp2;go_ret;exact HF.o
 refine jn (fun K hK=>?_) ?_
 ·skip;go_simp;refine hK.out _ _ (dX.o _ (al w _).drew) fun η=>?_;clear hK K
  try simp only[put,sA]
  refine bH 6 (fun K hK=>?_);skip;go_simp;refine hK.out _ _ (dX.o _ HBb) fun η=>?_;clear hK K
  try simp only[put,sA]
  obtain⟨cK,pB⟩:=zE bn (w.heap.size+1) w.heap.size m;have lk:=EA cK;have HF:=HFb cK ⟨pB.1,pB.2.1,pB.2.2.1,pB.2.2.2.1,pB.2.2.2.2.1,pB.2.2.2.2.2.1,pB.2.2.2.2.2.2.1,pB.2.2.2.2.2.2.2.1,pB.2.2.2.2.2.2.2.2.1⟩
  (refine wpAnyH_take (i:=15) (oi:=?_) (v:=(.agg cK)) ?_ (by kernel_rfl) (by kernel_rfl) (by kernel_rfl) ?_ (inl ⟨?_,?_⟩) (by assumption) ?_;rotate_left 1;(focus ((simp only[getElem?_toArray,List.getElem?_cons_succ,List.getElem?_cons_zero]);first|done|rfl));(focus (exact fun _ _ _ h=>h));(focus rfl);(focus (intro wz hSw;exact Rw rfl 168 _ rfl #[(0,.pointer (some ⟨bn,0,none⟩)),(1,.agg cD),(3,.map (some (w.heap.size+1))),(4,.slice (some ⟨w.heap.size,0,none⟩) m m)] (by first|kernel_rfl|(go_simp;done)) (.agg cK) (pB.2.2.2.2.2.2.2.2.2 wz)));try simp only[put,sA])
  refine bH 16 (fun K hK=>?_);skip;go_simp;refine hK.out _ _ (dX.o _ lk) fun η=>?_;clear hK K
  try simp only[put,sA]
  (refine ay 17 ?_;try simp only[put,sA])
  refine wpAnyH_done (by kernel_rfl) ?_ _;clear η;go_wp2;go_ret;exact HF.o
 exact AllReadyH.nil
theorem o8(w:World):(zeroValue 101).run prog w=.ok (.agg (zC 101)) w:=by kernel_rfl
theorem GP:∀v∈(zC 101).toList,v.oneCell'=true:=by
 have h:(zC 101).toList.all (fun v=>v.oneCell')=true:=by kernel_rfl
 exact fun v hv=>List.all_eq_true.1 h v hv
theorem iN:(prog.info? 101).map (·.size)=some 258:=by kernel_rfl
theorem Sa(w:World):(build 101 #[]).run prog w=.ok (.agg (zC 101)) w:=run_build w _ _ _ (by kernel_rfl)
theorem tq{rest:List Oper}{o:Oper}{a:Act}{Q:Exit->Act->World->Prop}(qC:o.guard=none)(t:TypeId)(ho:o.op=.alloc t)(cs:Array Value)(hz:(zeroValue t).run P w=.ok (.agg cs) w)
  (h:wpList P ops Q rest (a.put o.dst (.pointer (some ⟨w.heap.size,0,none⟩))) (w.alloc (.cells cs t))):wpList P ops Q (o :: rest) a w:=
 wpList_plain qC fun _ hK=>by
  unfold Oper.wp execOp
  simp only[ho,Instr.alloc,run_bind,hz,andThen_ok,newVar,newRow,newObj,Value.cells]
  exact hK _ _ h
theorem qD{rest:List Oper}{o:Oper}{a:Act}{Q:Exit->Act->World->Prop}(qC:o.guard=none)(ty:TypeId)(x v:Operand)(ho:o.op=.store ty x v)(g t:Nat)(lX cs:Array Value)(hx:a.eval x=.pointer (some ⟨g,0,none⟩))(hv:a.eval v=.agg cs)
  (cU:w.heap[g]?=some (.cells lX t (0,0))) (cQ:lX.size=cs.size) (hi:(P.info? ty).map (·.size)=some cs.size) (h1:∀u∈cs.toList,u.oneCell'=true) (h:wpList P ops Q rest (a.put o.dst undef) (w.setRow g cs)):wpList P ops Q (o :: rest) a w:=by
 have cZ:(storeVar ty ⟨g,0,none⟩ (.agg cs)).run P w=.ok () (w.setRow g cs):=by
  have hs:(sizeOf ty).run P w=.ok cs.size w:=by
   cases hq:P.info? ty with
   | none=>simp[hq] at hi
   | some inf=>
    have:inf.size=cs.size:=(by simpa [hq] using hi);simp[sizeOf,typeInfo,hq,this]
  have:=run_storeCells_at (P:=P) g 0 t cs.toList 0 lX w cU (by simp[cQ]) h1;unfold storeVar;simp only[run_bind,hs,andThen_ok];rw[if_neg (show ¬((Value.agg cs).cells.size≠cs.size) from fun h=>h rfl)];show (storeCells ⟨g,0,none⟩ cs.toList).run P w=_;rw[this];congr 2;have hd:List.drop cs.size lX.toList=[]:=List.drop_of_length_le (by simp[cQ]);simp[hd]
 exact wpList_plain qC fun _ hK=>by
  unfold Oper.wp execOp;simp only[ho,hx,hv,Instr.storeAt,sureAddr,run_bind,run_pure,andThen_ok,cZ];exact hK _ _ h
theorem St.setRow{lX:Array Value}(h:St w t g lX):St (w.setRow g cs) t g cs:=setRow_heap w g lX cs t (0,0) h
theorem nY(h:Below B w w')(hg:B<=g)(cs:Array Value):Below B w (w'.setRow g cs):=
 ⟨h.os,h.tape,h.output,by rw[setRow_size];exact h.size,fun k hk=>by rw[setRow_other w' g k cs (by omega)];exact h.block k hk⟩
theorem ER{fn:Func}{p u:Tmp}{ty:TypeId}(h:fn.results=#[.cell p ty,.tmp u])(tmps:Array Value)(w:World)(g:Nat)(cs:Array Value)(d:TypeDesc)(hp:tmps.getD p undef=.pointer (some ⟨g,0,none⟩))(hc:∀j v,cs.toList[j]?=some v->w.cell? ((⟨g,0,none⟩:Addr).add j)=some v)
  (hu:P.underlying ty=some d) (hd:(match d with|.struct _|.array _ _=>true|_=>false)=true) (hi:(P.info? ty).map (·.size)=some cs.size):
  (results fn tmps).run P w=.ok (.tuple #[.agg cs,tmps.getD u undef]) w:=by
 rw[results_cell_tmp h,hp];have h1:(asAddr (.pointer (some ⟨g,0,none⟩))).run P w=.ok ⟨g,0,none⟩ w:=by rfl
 rw[h1,andThen_ok,JC w ⟨g,0,none⟩ ty cs d hc hu hd hi,andThen_ok]
theorem St.part(h:St w t g cs):∀j v,cs.toList[j]?=some v->w.cell? ((⟨g,0,none⟩:Addr).add j)=some v:=fun j v hj=>by
 have e:(⟨g,0,none⟩:Addr).add j=⟨g,j,none⟩:=by unfold Addr.add;split <;> simp_all
 rw[e,h.at_,<-getElem?_toList,hj]
theorem tF:(prog.info? 197).map (fun i=>(i.zero,i.size,i.bytes))=some (some (.agg #[.slice none 0 0,.int .i64 0]),2,32):=by kernel_rfl
def Ld(K:Nat->Lit)(mf:Nat->Int)(L:List En)(F:Nat)(w:World)(e:Ending)(w':World):Prop:=
 ∃(bn f0 gM cM gF cF gS cS:Nat) (nm:List Nat) (L':List En) (aF aS:Nat->Option Addr) (DZ G4:Nat->Nat) (csA:Array Value),e=.returned (.pointer (some ⟨bn,0,none⟩))/\ϐ w w'/\mF w' w'.heap.size bn gF nm.length cF aF DZ L'/\
  qq w' w'.heap.size bn gS nm.length cS aS G4 (rE (rl K 256)) L'/\lq w' w'.heap.size bn gM nm.length cM (fun i=>mf (nm.getD i 0))/\IH w' w'.heap.size bn K csA/\w'.cell? ⟨bn,256,none⟩=some (.int .i64 (f0:Int))/\
  L=L'.map (En.pC nm)/\nm.Nodup/\(∀e∈L',e.f<nm.length/\e.t<nm.length)/\nm[f0]?=some F/\nm.length<=2*L.length+1/\∀x∈nm,Src L F F x
theorem zkB(kf bV:Nat)(mf:Nat->Int)(S0 T:Int)(F:Nat)(L:List En)(a:Option Addr)(n c:Nat)(w:World)(HC:∀(args:Array Value) (W:World),(callFunc kf args).run prog W=.ok (.enter kf args) W)
  (HM:∀W,ϐ w W->∀x,x<=9223372036854775807->Calls prog kf #[.int .i64 ((x:Nat):Int),.pointer (some ⟨bV,0,none⟩)] W fun e w'=>e=.returned (.int .i64 (mf x))/\w'=W)
  (hL:lC w a (L.map En.z)) (hn:L.length=n) (dZ:n<=6400) (wG:(cY (L.map En.z)).length<=1000) (hF:F<=9223372036854775807) (hE:∀e∈L,e.f<=9223372036854775807/\e.t<=9223372036854775807):
  Calls prog 118 #[.agg #[.int .i64 S0,.slice a n c,.int .i64 (F:Int),.int .i64 T],.func (.func kf) #[] #[.pointer (some ⟨bV,0,none⟩)]] w (Ld (dM L) mf L F w):=by
 have jR:=@run_makeMap prog;have Bm:∀(fn:Fn) (first cap:Array Value) (w:World),(makeFunc fn first cap).run prog w=.ok (.func fn first cap) w:=fun _ _ _ _=>rfl
 have Hsb:=hid wG;have HH:=φ HC HM hL hn hE;clear HC HM hL hn hE wG;go_in;go_upto_region 1 with fail;have HI:Hid (∃W0,(w.alloc (.cells #[.int .i64 S0,.slice a n c,.int .i64 (F:Int),.int .i64 T] 119)).alloc (.cells #[.func (.func kf) #[] #[.pointer (some ⟨bV,0,none⟩)]] 137)=W0):=⟨_,rfl⟩
 obtain⟨W0,tX⟩:=HI.o;have h2:St W0 119 w.heap.size #[.int .i64 S0,.slice a n c,.int .i64 (F:Int),.int .i64 T]:=by rw[<-tX];exact (St.new w _ _).alloc _
 have h3:St W0 137 (w.heap.size+1) #[.func (.func kf) #[] #[.pointer (some ⟨bV,0,none⟩)]]:=by
  rw[<-tX];have:=St.new (w.alloc (.cells #[.int .i64 S0,.slice a n c,.int .i64 (F:Int),.int .i64 T] 119)) 137 #[.func (.func kf) #[] #[.pointer (some ⟨bV,0,none⟩)]];simpa using this
 have nW:ϐ w W0:=by rw[<-tX];exact (al w _).trans ((al _ _).mono (by simp))
 rw[tX];clear tX HI;have H0:=ξ h2 h3 nW;obtain⟨r0,r1,r2,r3⟩:=h2.eW;have vU:=hid (zoL S0 (F:Int) T a n c (L.map En.z) W0 (HH.o.2.2.1.below nW) (by rw[length_map];exact HH.o.2.2.2.1) (by omega));clear h2 h3 nW;go_wp2_with fail;refine vU.o.mono ?_;rintro e w1 ⟨a1,n1,c1,rfl,lb,We,mZ⟩;have dr:n1<=1000:=by rw[<-lb];exact Hsb.o
 subst lb;have jM:=hid (zhi a1 _ c1 (rY (L.map En.z)) dr w1 (zoS We rfl));have py:=hid mZ;clear We mZ r0 r1 r2 r3 vU dr;go_wp2_with fail;refine jM.o.mono ?_;rintro e w3 ⟨csA,rfl,RA,V4,qG⟩;obtain⟨cN,gH,ie,lf,KN,JZ,Kj,yr⟩:=zmx csA RA;have lk:=hid (show ϐ w w3/\St w3 119 w.heap.size #[.int .i64 S0,.slice a n c,.int .i64 (F:Int),.int .i64 T]/\St w3 137 (w.heap.size+1) #[.func (.func kf) #[] #[.pointer (some ⟨bV,0,none⟩)]] from by
  have hk:=py.o.trans (qG.mono py.o.size)
  exact⟨H0.o.2.2.trans (hk.mono H0.o.2.2.size),H0.o.1.ae hk,H0.o.2.1.ae hk⟩)
 have HN:=hid (Zz RA (Zz V4 (Zz gH (Zz ie (Zz lf (Zz KN (Zz JZ Kj)))))));clear RA V4 qG gH ie lf KN JZ Kj jM;go_wp2_with (refine Dn rfl 165 _ rfl #[(0,.agg csA)] ?hp (.agg cN) ?hb ?_)
 case hb=>exact yr _
 go_upto_region 4 with fail;have HA:=hid (uL.start w w3 w.heap.size (w.heap.size+1) (.func (.func kf) #[] #[.pointer (some ⟨bV,0,none⟩)]) mf cN lk.o.1 lk.o.1.size lk.o.2.2 HN.o.2.2.1 HN.o.2.2.2.2.2.1 HN.o.2.2.2.2.2.2.1 HN.o.2.2.2.2.2.2.2);have kF:Hid (St ((((w3.alloc (.cells cN 165)).alloc (.cells #[.pointer (some ⟨w3.heap.size,0,none⟩)] 160)).alloc (.map #[] 0)).alloc (.cells #[.map (some (w3.heap.size+1+1))] 191)) 119 w.heap.size #[.int .i64 S0,.slice a n c,.int .i64 (F:Int),.int .i64 T]):=(((lk.o.2.1.ae (al _ _)).ae (al _ _)).ae (al _ _)).ae (al _ _);obtain⟨bn,bQ⟩:=Ξ w3.heap.size
 rw[bQ] at HA kF;rw[bQ];generalize (((w3.alloc (.cells cN 165)).alloc (.cells #[.pointer (some ⟨bn,0,none⟩)] 160)).alloc (.map #[] 0)).alloc (.cells #[.map (some (bn+1+1))] 191)=W4 at HA kF⊢;obtain⟨b5,nL⟩:=Ξ (bn+1)
 obtain⟨bM,sY⟩:=Ξ (bn+1+1)
 obtain⟨b6,eJ⟩:=Ξ (bn+1+1+1)
 obtain⟨b2,cH⟩:=Ξ w.heap.size
 obtain⟨b3,dY⟩:=Ξ (w.heap.size+1)
 rw[eJ,sY,nL] at HA;rw[eJ,nL];rw[dY] at HA;rw[dY];have Sh:=kF.o;rw[cH] at Sh kF;have xF:ϐ W4 W4.drew:=(Below.refl _ _).drew;have AB:=hid (HA.o.ae xF);have BU:=hid (RL w w.heap.size bn b3 b5 b6 bM kf bV mf [] cN (.slice none 0 0) (.slice none 0 0) (.slice none 0 0) (fun _=>.slice none 0 0) (fun _=>.slice none 0 0) (fun _=>[]) [] W4.drew HH.o.1 HH.o.2.1 AB.o (by simp) F hF);have q2:W4.drew.cell? ⟨b2,2,none⟩=some (.int .i64 (F:Int)):=Sh.at_ 2;have q5:W4.drew.cell? ⟨b5,0,none⟩=some (.pointer (some ⟨bn,0,none⟩)):=HA.o.sT.at_ 0;rw[cH];have HBb:=φ cH nL sY eJ dY;clear Sh cH nL sY eJ dY bQ xF yr;refine wp_region_held_drew (S:=fun W'=>W'.cell? ⟨b5,0,none⟩=some (.pointer (some ⟨bn,0,none⟩))/\W'.cell? ⟨b2,2,none⟩=some (.int .i64 (F:Int))) (by kernel_rfl) ⟨q5,q2⟩ (fun η=>?_)
 (refine ay 0 ?_;refine ay 1 ?_;refine ay 2 ?_;try simp only[put,sA];refine ay 3 ?_;try simp only[put,sA])
 refine bH 4 (fun K hK=>?_);skip;go_simp;go_at_call 149;refine BU.o.mono ?_;rintro e w5 ⟨f0,UI,RJ,UB,I4,QC,QS,rfl,hN1,ll,Kt,RG⟩;have HX:=ψ hN1 ll Kt RG;have Fq:St w5 119 b2 #[.int .i64 S0,.slice a n c,.int .i64 (F:Int),.int .i64 T]:=RG.st kF.o.drew (fun e=>Or.elim e (fun e=>Cx AB.o.map kF.o.drew e) (fun e=>AB.o.n.qt kF.o.drew (by decide) (by decide) (by decide) (by decide) (by decide) e));have YA:w5.cell? ⟨b5,0,none⟩=some (.pointer (some ⟨bn,0,none⟩)):=HX.o.1.sT.at_ 0;have q6:=HX.o.1.n.sn.bE 256;have q7:w5.cell? ⟨bn,256,none⟩=some (.int .i64 0):=(by rw[HX.o.1.n.sn.at_,getElem?_setIfInBounds_ne (by decide),getElem?_setIfInBounds_ne (by decide),getElem?_setIfInBounds_ne (by decide)];exact HN.o.2.2.2.2.1)
 have lv:Hid (uL w w.heap.size bn b3 b5 b6 bM (.func (.func kf) #[] #[.pointer (some ⟨bV,0,none⟩)]) mf UI (cN.setIfInBounds 256 (.int .i64 (f0:Int))) RJ UB I4 QC QS (fun _=>[]) [] (w5.setCell ⟨bn,256,none⟩ (.int .i64 (f0:Int)))/\St (w5.setCell ⟨bn,256,none⟩ (.int .i64 (f0:Int))) 119 b2 #[.int .i64 S0,.slice a n c,.int .i64 (F:Int),.int .i64 T]):=⟨HX.o.1.first _,Fq.gv HX.o.1.n.sn (by decide) _ _⟩
 have wB:=hid HX.o.2;have Zg:w5.cell? ⟨b2,2,none⟩=some (.int .i64 (F:Int)):=Fq.at_ 2;clear hN1 ll Kt RG
 try go_wp2_with fail
 refine hK.out _ _ ⟨YA,Zg⟩ fun η=>?_;clear hK K
 try simp only[put,sA]
 (refine ay 5 ?_;refine ay 6 ?_;try simp only[put,sA])
 refine bH 7 (fun K hK=>?_);skip;go_simp;refine hK.out _ _ ⟨lv.o.1.sT.at_ 0,lv.o.2.at_ 2⟩ fun η=>?_;clear hK K
 try simp only[put,sA]
 refine wpAnyH_done (by kernel_rfl) ?_ _;clear η q2 q5 YA q6 q7 Zg Fq HX BU AB;generalize w5.setCell ⟨bn,256,none⟩ (.int .i64 (f0:Int))=W5 at lv⊢;have s0:W5.cell? ⟨b5,0,none⟩=some (.pointer (some ⟨bn,0,none⟩)):=lv.o.1.sT.at_ 0;have Vo:=hid (zmS (dM L) bn csA W5 (lv.o.1.n.cl HN.o.1 HN.o.2.1 (fun j hj=>by rw[getElem?_setIfInBounds_ne (by omega)];exact HN.o.2.2.2.1 j hj)));go_wp2_with fail;refine Vo.o.mono ?_;rintro e w6 ⟨b7,b8,bL,aR,cR,rfl,Jb,rv,hbL⟩;have lY:Hid (nw w w.heap.size b2 b3 b5 b6 b7 b8 bn bM bL (.func (.func kf) #[] #[.pointer (some ⟨bV,0,none⟩)]) mf #[.int .i64 S0,.slice a n c,.int .i64 (F:Int),.int .i64 T] (cN.setIfInBounds 256 (.int .i64 (f0:Int))) (rl (dM L) 256) aR cR L F f0 0 1 0 UI RJ UB I4 QC QS (fun _=>[]) [] [] w6):=by
  have h1:=lv.o.1.ae rv;refine⟨h1,(Jb _).base lv.o.1.bc.size,lv.o.2.ae rv,fun i hi=>wV.nil _ _ _,rfl,fun e he=>by simp at he,wB.o.1,?_,?_,?_⟩
  ·rcases wB.o.2.1 with h|h <;> rw[h] <;> simp
  ·have:=lv.o.1.map.lt;omega
  exact XG wB.o.2.1 (inl rfl) (fun x hx=>by simp at hx)
 have s1:w6.cell? ⟨b2,1,none⟩=some (.slice a n c):=lY.o.s2.at_ 1;have Sn:St w6 119 b2 #[.int .i64 S0,.slice a n c,.int .i64 (F:Int),.int .i64 T]:=lY.o.s2;clear Jb rv hbL s0 Vo lv wB Sn;go_wp2_with fail;clear s1;go_loopw [10,11,12,32] (fun _ _ _ v wq=>∃(k nn:Nat) (nm:List Nat) (vM vF vS:Value) (fv sv:Nat->Value) (xs:Nat->List Value) (L':List En) (DL:List ((Nat->Bool) × Option Addr × Nat)),v=.int .i64 k/\k<=n/\nn<=k/\
  Hid (nw w w.heap.size b2 b3 b5 b6 b7 b8 bn bM bL (.func (.func kf) #[] #[.pointer (some ⟨bV,0,none⟩)]) mf #[.int .i64 S0,.slice a n c,.int .i64 (F:Int),.int .i64 T] (cN.setIfInBounds 256 (.int .i64 (f0:Int))) (rl (dM L) 256) aR cR L F f0 k (2*k+1) nn nm vM vF vS fv sv xs L' DL wq)) (fun _ _ _ v _=>n-(intOf v).toNat)
 ·exact⟨0,0,UI,RJ,UB,I4,QC,QS,_,[],[],rfl,zero_le _,le_refl _,lY⟩
 clear lY;obtain⟨k,nn,nm,vM,vF,vS,fv,sv,xs,L1,DL,rfl,hk,IE,HA⟩:=hrel;by_cases aq:k<n
 ·have hkl:k<L.length:=by rw[HH.o.2.2.2.1];exact aq
  obtain⟨ge,off,rfl,hg,c0,c1,c2,c3,c4,c5,c6⟩:=(HH.o.2.2.1.below HA.o.a.bc).Qu k hkl;have HS:Hid (L.take (k+1)=L.take k++[L[k]]):=List.take_succ_eq_append_getElem hkl;have hx:=HH.o.2.2.2.2 L[k] (getElem_mem _);have pr:Hid (L[k]∈L):=getElem_mem _;generalize L[k]=x at c0 c1 c2 c3 c4 c5 c6 HS hx pr;have xK:ϐ wr (wr.alloc (.cells #[.int .i64 (x.f:Int),.int .i64 (x.t:Int),.int .u64 (wd x.p 0),.int .u64 (wd x.p 1),.int .u64 (wd x.p 2),.int .u64 (wd x.p 3),.bool x.b] 186)):=al wr _;have AH:=hid (HA.o.ae xK.drew);have mJ:Hid (St (wr.alloc (.cells #[.int .i64 (x.f:Int),.int .i64 (x.t:Int),.int .u64 (wd x.p 0),.int .u64 (wd x.p 1),.int .u64 (wd x.p 2),.int .u64 (wd x.p 3),.bool x.b] 186)).drew 186 wr.heap.size #[.int .i64 (x.f:Int),.int .i64 (x.t:Int),.int .u64 (wd x.p 0),.int .u64 (wd x.p 1),.int .u64 (wd x.p 2),.int .u64 (wd x.p 3),.bool x.b]):=St.new wr _ _;have d0:(wr.alloc (.cells #[.int .i64 (x.f:Int),.int .i64 (x.t:Int),.int .u64 (wd x.p 0),.int .u64 (wd x.p 1),.int .u64 (wd x.p 2),.int .u64 (wd x.p 3),.bool x.b] 186)).drew.cell? ⟨wr.heap.size,0,none⟩=some (.int .i64 (x.f:Int)):=mJ.o.at_ 0;have d1:(wr.alloc (.cells #[.int .i64 (x.f:Int),.int .i64 (x.t:Int),.int .u64 (wd x.p 0),.int .u64 (wd x.p 1),.int .u64 (wd x.p 2),.int .u64 (wd x.p 3),.bool x.b] 186)).drew.cell? ⟨wr.heap.size,1,none⟩=some (.int .i64 (x.t:Int)):=mJ.o.at_ 1;have OK:nm.length<=90000:=by have:=HA.o.len;omega
  clear xK hkl;go_wp2_with fail;clear c0 c1 c2 c3 c4 c5 c6;refine wp_region_held_drew (S:=fun W'=>W'.cell? ⟨wr.heap.size,0,none⟩=some (.int .i64 (x.f:Int))/\W'.cell? ⟨wr.heap.size,1,none⟩=some (.int .i64 (x.t:Int))) (by kernel_rfl) ⟨d0,d1⟩ (fun η=>?_)
  (refine ay 0 ?_;refine ay 1 ?_;refine ay 2 ?_;try simp only[put,sA];refine ay 4 ?_;refine ay 5 ?_;refine ay 6 ?_;try simp only[put,sA])
  refine bH 3 (fun K hK=>?_);skip;go_simp;go_at_call 149;refine (RL w w.heap.size bn b3 b5 b6 bM kf bV mf nm _ vM vF vS fv sv xs L1 (wr.alloc (.cells #[.int .i64 (x.f:Int),.int .i64 (x.t:Int),.int .u64 (wd x.p 0),.int .u64 (wd x.p 1),.int .u64 (wd x.p 2),.int .u64 (wd x.p 3),.bool x.b] 186)).drew HH.o.1 HH.o.2.1 AH.o.a OK x.f hx.1).mono ?_;rintro e w2 ⟨k1,nm2,vM2,vF2,Gb,fv2,sv2,rfl,I2,fS,Fh,yh⟩;have nu:=ψ (AH.o.num I2 Fh yh (inr (inr ⟨x,pr.o,inl rfl⟩))) (yh.st mJ.o (fun e=>AH.o.gJ mJ.o (by decide) (by decide) (by decide) (by decide) (by decide) (inr e))) fS Fh;clear I2 fS Fh yh
  try go_wp2_with fail
  refine hK.out _ _ ⟨nu.o.2.1.at_ 0,nu.o.2.1.at_ 1⟩ fun η=>?_;clear hK K
  try simp only[put,sA]
  refine bH 7 (fun K hK=>?_);skip;go_simp;go_at_call 149;refine (RL w w.heap.size bn b3 b5 b6 bM kf bV mf nm2 _ vM2 vF2 Gb fv2 sv2 xs L1 w2 HH.o.1 HH.o.2.1 nu.o.1.a (by have:=nu.o.1.len;omega) x.t hx.2).mono ?_;rintro e w3 ⟨k2,lU,Ce,Ga,tu,zB,xO,rfl,It,IK,E7,QA⟩;have iT:=φ (nu.o.1.num It E7 QA (inr (inr ⟨x,pr.o,inr rfl⟩))) (QA.st nu.o.2.1 (fun e=>nu.o.1.gJ nu.o.2.1 (by decide) (by decide) (by decide) (by decide) (by decide) (inr e))) (UN E7 nu.o.2.2.1) IK (show L1.length<=6400 from by have:=congrArg List.length HA.o.rel;rw[length_map] at this;have h2:=List.length_take_le k L;omega);clear It IK E7 QA
  try go_wp2_with fail
  refine hK.out _ _ ⟨iT.o.2.1.at_ 0,iT.o.2.1.at_ 1⟩ fun η=>?_;clear hK K
  try simp only[put,sA]
  (refine ay 8 ?_;refine ay 9 ?_;try simp only[put,sA])
  refine wpAnyH_done (by kernel_rfl) ?_ _;clear η;have HK:=ζ iT.o.2.2.1 iT.o.2.2.2.1;have jV:k1<lU.length:=(List.getElem?_eq_some_iff.1 HK.o.1).1;have yx:k2<lU.length:=(List.getElem?_eq_some_iff.1 HK.o.2).1;have vm:0<lU.length:=by omega
  have hnm3:lU.length<=90000:=by have:=iT.o.1.len;omega
  obtain⟨z0,z1,z2,z3,z4,z5,z6⟩:=Wt iT.o.2.1;obtain⟨xf,xt,xp,xb⟩:=x;obtain⟨be,nJ⟩:=Ξ wr.heap.size
  have HE:=hid iT.o.2.1;rw[nJ] at z0 z1 z2 z3 z4 z5 z6 HE;rw[nJ];clear d0 d1 nu AH mJ HA OK nJ;dsimp only at z0 z1 z2 z3 z4 z5 z6 HE HS HK;rcases xb with _|_
  ·skip;go_wp2_with fail;obtain⟨aS,cS,rfl⟩:=cy iT.o.1.a.n.st.own;obtain⟨gS,rfl,-,-,-⟩:=fG iT.o.1.a.n.st.own vm;obtain⟨C3,CK,hv⟩:=cy (iT.o.1.a.n.st.row k1 jV)
   try dsimp only at hv
   have wm:=hid (iT.o.1.ae (show ϐ w3 w3.drew from (Below.refl _ _).drew));obtain⟨p,hp⟩:=Ξ ((dk L1 k1).length);have vI:p<=6400:=(by rw[<-hp];exact le_trans (ziL _ _) iT.o.2.2.2.2);have TC:∀W:World,W.ownsRow w.heap.size 195 1 (.slice (some ⟨gS,0,none⟩) lU.length cS) lU.length ((range lU.length).map xO)->W.cell? ⟨gS,k1,none⟩=some (.slice C3 p CK)/\W.frozen? ⟨gS,k1,none⟩=false:=fun W hW=>by
    obtain⟨g,e,_,_,hc⟩:=fG hW vm;injection e with e;injection e with e;subst e;obtain⟨h1,h2⟩:=hc k1 (by omega);exact⟨by rw[h1];simp only[getElem?_map,getElem?_range jV,map_some,hv,hp],h2⟩
   have k0:=(TC _ iT.o.1.a.n.st.own).1;have HV:=ζ hv hp;have Aw:=hid TC;obtain⟨q,hq⟩:=Ξ lU.length;have HQ:=hid hq;have j1:(k1:Int)<q:=(by omega);have j2:(0:Int)<=k1:=(by omega);obtain⟨pc,ud⟩:=Ξ ((rE (rl (dM L) 256) xp).length);have Av:=hid ud;have Nb:(rl (dM L) 256).length<=256:=(by rw[A8];exact N1 _ _);have jM:=hid (zoF w.heap.size bn b7 b8 bL nn (rl (dM L) 256) aR cR _ DL w3.drew wm.o.l (fun x hx=>wm.o.lt x hx) (by omega) Nb xp);obtain⟨i0,zd,dP,dc,db⟩:=info_parts tF;have dX:=hid (fun (W:World) (h1:St W 160 b5 #[.pointer (some ⟨bn,0,none⟩)]) (h2:W.cell? ⟨bn,259,none⟩=some (.slice (some ⟨gS,0,none⟩) q cS)) (h3:St W 186 be #[.int .i64 (xf:Int),.int .i64 (xt:Int),.int .u64 (wd xp 0),.int .u64 (wd xp 1),.int .u64 (wd xp 2),.int .u64 (wd xp 3),.bool false])=>(⟨h1.at_ 0,h2,h3.at_ 2,h3.at_ 3,h3.at_ 4,h3.at_ 5⟩:W.cell? ⟨b5,0,none⟩=some (.pointer (some ⟨bn,0,none⟩))/\W.cell? ⟨bn,259,none⟩=some (.slice (some ⟨gS,0,none⟩) q cS)/\W.cell? ⟨be,2,none⟩=some (.int .u64 (wd xp 0))/\W.cell? ⟨be,3,none⟩=some (.int .u64 (wd xp 1))/\W.cell? ⟨be,4,none⟩=some (.int .u64 (wd xp 2))/\W.cell? ⟨be,5,none⟩=some (.int .u64 (wd xp 3))));have qK:=iT.o.1.a.sT;have vp:w3.cell? ⟨bn,259,none⟩=some (.slice (some ⟨gS,0,none⟩) q cS):=(by rw[<-hq];exact iT.o.1.a.n.cells.2.2);clear hv hp TC hq ud Nb;refine wp_region_held_drew (S:=fun W'=>W'.cell? ⟨b5,0,none⟩=some (.pointer (some ⟨bn,0,none⟩))/\W'.cell? ⟨bn,259,none⟩=some (.slice (some ⟨gS,0,none⟩) q cS)/\W'.cell? ⟨be,2,none⟩=some (.int .u64 (wd xp 0))/\W'.cell? ⟨be,3,none⟩=some (.int .u64 (wd xp 1))/\W'.cell? ⟨be,4,none⟩=some (.int .u64 (wd xp 2))/\W'.cell? ⟨be,5,none⟩=some (.int .u64 (wd xp 3))) (by kernel_rfl) (dX.o _ qK.drew vp HE.o.drew) (fun η=>?_)
   (refine ay 0 ?_;refine ay 1 ?_;refine ay 2 ?_;try simp only[put,sA];refine ay 3 ?_;refine ay 4 ?_;refine ay 5 ?_;try simp only[put,sA];refine ay 6 ?_;refine ay 7 ?_;refine ay 8 ?_;try simp only[put,sA];refine ay 9 ?_;refine ay 10 ?_;refine ay 12 ?_;try simp only[put,sA];refine ay 13 ?_;refine ay 14 ?_;refine ay 16 ?_;try simp only[put,sA])
   ·refine wpAnyH_ready (rs:=[11,15]) (by kernel_rfl) (by simp) (jn (fun K hK=>?_) (jn (fun K hK=>?_) AllReadyH.nil))
    skip;go_simp;refine hK.out _ _ (dX.o _ qK.drew vp HE.o.drew) fun η=>?_;clear hK K
    try simp only[put,sA]
    refine bH 15 (fun K hK=>?_);skip;go_simp;go_at_call 170;refine jM.o.mono ?_;rintro e w4 ⟨ac,cc,Ez,rfl,xH,JP,s6,fV⟩;have iM:=hid (wm.o.cls xH s6 fV);have um:Hid (St w4 186 be #[.int .i64 (xf:Int),.int .i64 (xt:Int),.int .u64 (wd xp 0),.int .u64 (wd xp 1),.int .u64 (wd xp 2),.int .u64 (wd xp 3),.bool false]):=XT HE.o.drew wm.o.l s6;have NJ:=hid JP;rw[Av.o];clear xH JP s6 fV;have fm:=hid (iM.o.ae (al w4 (.cells #[.slice ac pc cc,.int .i64 (k2:Int)] 197)));have AM:=hid (um.o.ae (al w4 (.cells #[.slice ac pc cc,.int .i64 (k2:Int)] 197)));have l6:=iM.o.a.sT;have jE:=fm.o.a.sT;have tU:w4.cell? ⟨bn,259,none⟩=some (.slice (some ⟨gS,0,none⟩) q cS):=(by rw[<-HQ.o];exact iM.o.a.n.cells.2.2);have vt:(w4.alloc (.cells #[.slice ac pc cc,.int .i64 (k2:Int)] 197)).cell? ⟨bn,259,none⟩=some (.slice (some ⟨gS,0,none⟩) q cS):=(by rw[<-HQ.o];exact fm.o.a.n.cells.2.2);have k4:=(Aw.o _ iM.o.a.n.st.own).1;have k5:=(Aw.o _ fm.o.a.n.st.own).1;have dC:=fm.o.a.n.st.row k1 jV;rw[HV.o.1,HV.o.2] at dC;have AG:w.heap.size<=(w4.alloc (.cells #[.slice ac pc cc,.int .i64 (k2:Int)] 197)).heap.size:=fm.o.a.n.lo.2
    try go_wp2_with fail
    refine hK.out _ _ (dX.o _ l6 tU um.o) fun η=>?_;clear hK K
    try simp only[put,sA]
    (refine ay 17 ?_;try simp only[put,sA])
    refine bH 18 (fun K hK=>?_);skip;go_simp;refine hK.out _ _ (dX.o _ jE vt AM.o) fun η=>?_;clear hK K
    rotate_left
    skip;go_simp;go_at_call 170;refine jM.o.mono ?_;rintro e w4 ⟨ac,cc,Ez,rfl,xH,JP,s6,fV⟩;have iM:=hid (wm.o.cls xH s6 fV);have um:Hid (St w4 186 be #[.int .i64 (xf:Int),.int .i64 (xt:Int),.int .u64 (wd xp 0),.int .u64 (wd xp 1),.int .u64 (wd xp 2),.int .u64 (wd xp 3),.bool false]):=XT HE.o.drew wm.o.l s6;have NJ:=hid JP;rw[Av.o];clear xH JP s6 fV;have fm:=hid (iM.o.ae (al w4 (.cells #[.slice ac pc cc,.int .i64 (k2:Int)] 197)));have AM:=hid (um.o.ae (al w4 (.cells #[.slice ac pc cc,.int .i64 (k2:Int)] 197)));have l6:=iM.o.a.sT;have jE:=fm.o.a.sT;have tU:w4.cell? ⟨bn,259,none⟩=some (.slice (some ⟨gS,0,none⟩) q cS):=(by rw[<-HQ.o];exact iM.o.a.n.cells.2.2);have vt:(w4.alloc (.cells #[.slice ac pc cc,.int .i64 (k2:Int)] 197)).cell? ⟨bn,259,none⟩=some (.slice (some ⟨gS,0,none⟩) q cS):=(by rw[<-HQ.o];exact fm.o.a.n.cells.2.2);have k4:=(Aw.o _ iM.o.a.n.st.own).1;have k5:=(Aw.o _ fm.o.a.n.st.own).1;have dC:=fm.o.a.n.st.row k1 jV;rw[HV.o.1,HV.o.2] at dC;have AG:w.heap.size<=(w4.alloc (.cells #[.slice ac pc cc,.int .i64 (k2:Int)] 197)).heap.size:=fm.o.a.n.lo.2
    try go_wp2_with fail
    refine hK.out _ _ (dX.o _ l6 tU um.o) fun η=>?_;clear hK K
    try simp only[put,sA]
    (refine ay 17 ?_;try simp only[put,sA])
    refine wpAnyH_ready (rs:=[11,18]) (by kernel_rfl) (by simp) (jn (fun K hK=>?_) (jn (fun K hK=>?_) AllReadyH.nil))
    skip;go_simp;refine hK.out _ _ (dX.o _ l6 tU um.o) fun η=>?_;clear hK K
    try simp only[put,sA]
    refine bH 18 (fun K hK=>?_);skip;go_simp;refine hK.out _ _ (dX.o _ jE vt AM.o) fun η=>?_;clear hK K
    rotate_left
    skip;go_simp;refine hK.out _ _ (dX.o _ jE vt AM.o) fun η=>?_;clear hK K
    try simp only[put,sA]
    refine bH 11 (fun K hK=>?_);skip;go_simp;refine hK.out _ _ (dX.o _ jE vt AM.o) fun η=>?_;clear hK K
    rotate_left
    all_goals
     try simp only[put,sA]
     refine bH 19 (fun K hK=>?_);skip;skip;refine step_append_lies _ (by rfl) _ _ _ (by rfl) w.heap.size 197 i0 (.agg #[.slice none 0 0,.int .i64 0]) 2 32 underlying195 zd dP dc db (by rfl) (by decide) _ p (xs k1) (by rfl) dC ⟨w4.heap.size,0,none⟩ 1 1 (#[.slice ac pc cc,.int .i64 (k2:Int)]).toList (by rfl) (by rfl) (news_of_block (cs:=#[.slice ac pc cc,.int .i64 (k2:Int)]) (t:=197) (fr:=(0,0)) (heap_alloc_new w4 _)) (by simp[oneCell']) (by omega) (by unfold maxLen;omega) (by omega) AG (w4.heap.size+1) (by simp) ?_;intro gg fO w6 an ag di mx;have fQ:=fm.o.a.n.st.row k1 jV;have gQ:=ag;rw[show (Value.slice C3 p CK)=xO k1 from by rw[HV.o.1,HV.o.2]] at gQ;obtain⟨vn,vq⟩:=fm.o.a.n.Ev (x:=⟨k1,k2,xp,false⟩) rfl jV yx (v':=(.slice (some ⟨gg,0,none⟩) (p+1) fO)) (p:=p) an HV.o.2 gQ (fun b e=>by rw[HV.o.1,HV.o.2];injection e with e;rw[<-e];rcases di with h|h;exact inl h;exact inr (by rw[h];simp));have gE:=fm.o.a.sT.af fQ (by decide) gQ;have gD:=AM.o.af fQ (by decide) gQ;have jz:=fm.o.a.n.sn.af fQ (by decide) gQ;have qM:w6.cell? ⟨bn,259,none⟩=some (.slice (some ⟨gS,0,none⟩) q cS):=(by rw[jz.at_,<-fm.o.a.n.sn.at_];exact vt);have kH:=wE fm.o.a.n.st.own fQ (by decide) gQ;obtain⟨t2,t3⟩:=Aw.o _ kH;have il:b5≠gS/\bn≠gS/\be≠gS:=(⟨fun e=>eI kH gE (by decide) gS rfl e.symm,fun e=>eI kH jz (by decide) gS rfl e.symm,fun e=>eI kH gD (by decide) gS rfl e.symm⟩);have HF:Hid (nw w w.heap.size b2 b3 b5 b6 b7 b8 bn bM bL (.func (.func kf) #[] #[.pointer (some ⟨bV,0,none⟩)]) mf #[.int .i64 S0,.slice (some ⟨ge,off,none⟩) n c,.int .i64 (F:Int),.int .i64 T] (cN.setIfInBounds 256 (.int .i64 (f0:Int))) (rl (dM L) 256) aR cR L F f0 (k+1) (2*(k+1)+1) (nn+1) lU Ce Ga (.slice (some ⟨gS,0,none⟩) q cS) zB (fun j=>if j=k1 then (.slice (some ⟨gg,0,none⟩) (p+1) fO) else xO j) (fun j=>if j=k1 then xs k1++(#[.slice ac pc cc,.int .i64 (k2:Int)]).toList else xs j) (L1++[⟨k1,k2,xp,false⟩]) Ez (w6.setCell ⟨gS,k1,none⟩ (.slice (some ⟨gg,0,none⟩) (p+1) fO))):=by
      rw[<-HQ.o];refine fm.o.put (x:=⟨xf,xt,xp,false⟩) vn vq HS.o HK.o.1 HK.o.2 (fun i hi=>?_);rw[EH];by_cases e:i=k1
      ·subst e;rw[if_pos ⟨rfl,rfl⟩,if_pos rfl];have Cr:=(jm.ae (B:=w.heap.size) (bn:=bn) (P:=tf bL bM bn lU.length Ce Ga (.slice (some ⟨gS,0,none⟩) lU.length cS) zB xO) (al w4 (.cells #[.slice ac pc cc,.int .i64 (k2:Int)] 197)) iM.o.a.n.lo.2).GL NJ.o;have:=(fm.o.rows i hi).snoc ⟨i,k2,xp,false⟩ ac cc Cr;dsimp only at this;rw[Av.o] at this;exact this
      rw[if_neg (fun h=>e h.2.symm),if_neg e];exact fm.o.rows i hi
     refine hK.out _ _ (dX.o _ gE qM gD) fun η=>?_;clear hK K an ag di mx vn vq fQ gQ kH jz
     try simp only[put,sA]
     (refine ay 20 ?_;try simp only[put,sA])
     refine bH 21 (fun K hK=>?_);skip;go_simp;refine hK.out _ _ (dX.o _ (gE.gJ (p:=⟨gS,k1,none⟩) il.1 _) ((Js _ _ _ il.2.1).trans qM) (gD.gJ (p:=⟨gS,k1,none⟩) il.2.2 _)) fun η=>?_;clear hK K
     try simp only[put,sA]
     refine wpAnyH_done (by kernel_rfl) ?_ _;clear gE il qM t2 t3 η qK l6 jE vp tU vt k0 k4 k5 gD;go_wp2;go_roundw
     ·exact⟨k+1,nn+1,lU,_,_,_,_,_,_,_,Ez,by go_num,by omega,by omega,HF⟩
     simp[intOf];omega
  skip;go_wp2_with fail;obtain⟨aF,cF,rfl⟩:=cy iT.o.1.a.n.fr.own;obtain⟨gF,rfl,-,-,-⟩:=fG iT.o.1.a.n.fr.own vm;obtain⟨C3,CK,hv⟩:=cy (iT.o.1.a.n.fr.row k1 jV)
  try dsimp only at hv
  have iM:=hid (iT.o.1.ae (show ϐ w3 (w3.alloc (.cells #[.int .i64 (k2:Int)] 3)).drew from (al w3 _).drew));have dC:=iM.o.a.n.fr.row k1 jV;rw[hv] at dC
  try dsimp only at dC
  obtain⟨p,hp⟩:=Ξ ((eE L1 k1).length)
  have vI:p<=6400:=by rw[<-hp];exact le_trans (ZX _ _) iT.o.2.2.2.2
  have ph:=iT.o.1.a.n.fr.own;have Ph:∀W:World,W.ownsRow w.heap.size 43 1 (.slice (some ⟨gF,0,none⟩) lU.length cF) lU.length ((range lU.length).map zB)->W.cell? ⟨gF,k1,none⟩=some (.slice C3 p CK)/\W.frozen? ⟨gF,k1,none⟩=false:=fun W hW=>by
   obtain⟨g,e,_,_,hc⟩:=fG hW vm;injection e with e;injection e with e;subst e;obtain⟨h1,h2⟩:=hc k1 (by omega);exact⟨by rw[h1];simp only[getElem?_map,getElem?_range jV,map_some,hv,hp],h2⟩
  have k0:=(Ph _ iT.o.1.a.n.fr.own).1;have m2:=(Ph _ iM.o.a.n.fr.own).1;have HV:=ζ hv hp;have Aw:=hid Ph;obtain⟨q,hq⟩:=Ξ lU.length
  have HQ:=hid hq;have j1:(k1:Int)<q:=by omega
  have j2:(0:Int)<=k1:=by omega
  have AG:w.heap.size<=((w3.alloc (.cells #[.int .i64 (k2:Int)] 3)).drew).heap.size:=iM.o.a.n.lo.2;rw[hp] at dC;obtain⟨i0,zd,dP,dc,db⟩:=info_parts aH;have dX:=hid (fun (W:World) (h1:St W 160 b5 #[.pointer (some ⟨bn,0,none⟩)]) (h2:W.cell? ⟨bn,258,none⟩=some (.slice (some ⟨gF,0,none⟩) q cF))=>(⟨h1.at_ 0,h2⟩:W.cell? ⟨b5,0,none⟩=some (.pointer (some ⟨bn,0,none⟩))/\W.cell? ⟨bn,258,none⟩=some (.slice (some ⟨gF,0,none⟩) q cF)));have qK:=iT.o.1.a.sT;have l6:=iM.o.a.sT;have vp:w3.cell? ⟨bn,258,none⟩=some (.slice (some ⟨gF,0,none⟩) q cF):=by rw[<-hq];exact iT.o.1.a.n.cells.2.1
  have tU:((w3.alloc (.cells #[.int .i64 (k2:Int)] 3)).drew).cell? ⟨bn,258,none⟩=some (.slice (some ⟨gF,0,none⟩) q cF):=by rw[<-hq];exact iM.o.a.n.cells.2.1
  clear hv hp ph Ph hq;refine wp_region_held_drew (S:=fun W'=>W'.cell? ⟨b5,0,none⟩=some (.pointer (some ⟨bn,0,none⟩))/\W'.cell? ⟨bn,258,none⟩=some (.slice (some ⟨gF,0,none⟩) q cF)) (by kernel_rfl) (dX.o _ qK.drew vp) (fun η=>?_)
  (refine ay 0 ?_;refine ay 1 ?_;refine ay 2 ?_;try simp only[put,sA];refine ay 3 ?_;refine ay 4 ?_;refine ay 5 ?_;try simp only[put,sA];refine ay 6 ?_;refine ay 7 ?_;refine ay 8 ?_;try simp only[put,sA];refine ay 9 ?_;refine ay 10 ?_;refine ay 12 ?_;try simp only[put,sA])
  ·refine wpAnyH_ready (rs:=[11,13]) (by kernel_rfl) (by simp) (jn (fun K hK=>?_) (jn (fun K hK=>?_) AllReadyH.nil))
   skip;go_simp;refine hK.out _ _ (dX.o _ qK.drew vp) fun η=>?_;clear hK K
   try simp only[put,sA]
   refine bH 13 (fun K hK=>?_);skip;go_simp;refine hK.out _ _ (dX.o _ l6 tU) fun η=>?_;clear hK K
   rotate_left
   skip;go_simp;refine hK.out _ _ (dX.o _ l6 tU) fun η=>?_;clear hK K
   try simp only[put,sA]
   refine bH 11 (fun K hK=>?_);skip;go_simp;refine hK.out _ _ (dX.o _ l6 tU) fun η=>?_;clear hK K
   rotate_left
   all_goals
    try simp only[put,sA]
    refine bH 14 (fun K hK=>?_);skip;skip;refine step_append_lies _ (by rfl) _ _ _ (by rfl) w.heap.size 3 i0 (.int .i64 0) 1 8 underlying43 zd dP dc db (by rfl) (by decide) _ p (dv (eE L1 k1)) (by rfl) dC ⟨w3.heap.size,0,none⟩ 1 1 (#[.int .i64 (k2:Int)]).toList (by rfl) (by rfl) (news_of_block (cs:=#[.int .i64 (k2:Int)]) (t:=3) (fr:=(0,0)) (heap_alloc_new w3 _)) (by simp[oneCell']) (by omega) (by unfold maxLen;omega) (by omega) AG (w3.heap.size+1) (by simp) ?_;intro gg fO w6 an ag di mx;have fQ:=iM.o.a.n.fr.row k1 jV;have gQ:=ag;rw[show (Value.slice C3 p CK)=zB k1 from by rw[HV.o.1,HV.o.2]] at gQ;obtain⟨vn,vq⟩:=iM.o.a.n.Km (x:=⟨k1,k2,xp,true⟩) rfl jV yx (v':=(.slice (some ⟨gg,0,none⟩) (p+1) fO)) (p:=p) an HV.o.2 gQ (fun b e=>by rw[HV.o.1,HV.o.2];injection e with e;rw[<-e];rcases di with h|h;exact inl h;exact inr (by rw[h];simp));have gE:=iM.o.a.sT.af fQ (by decide) gQ;have jz:=iM.o.a.n.sn.af fQ (by decide) gQ;have qM:w6.cell? ⟨bn,258,none⟩=some (.slice (some ⟨gF,0,none⟩) q cF):=(by rw[jz.at_,<-iM.o.a.n.sn.at_];exact tU);have kH:=wE iM.o.a.n.fr.own fQ (by decide) gQ;obtain⟨t2,t3⟩:=Aw.o _ kH;have il:b5≠gF/\bn≠gF:=(⟨fun e=>eI kH gE (by decide) gF rfl e.symm,fun e=>eI kH jz (by decide) gF rfl e.symm⟩);have HF:Hid (nw w w.heap.size b2 b3 b5 b6 b7 b8 bn bM bL (.func (.func kf) #[] #[.pointer (some ⟨bV,0,none⟩)]) mf #[.int .i64 S0,.slice (some ⟨ge,off,none⟩) n c,.int .i64 (F:Int),.int .i64 T] (cN.setIfInBounds 256 (.int .i64 (f0:Int))) (rl (dM L) 256) aR cR L F f0 (k+1) (2*(k+1)+1) nn lU Ce (.slice (some ⟨gF,0,none⟩) q cF) tu (fun j=>if j=k1 then (.slice (some ⟨gg,0,none⟩) (p+1) fO) else zB j) xO xs (L1++[⟨k1,k2,xp,true⟩]) DL (w6.setCell ⟨gF,k1,none⟩ (.slice (some ⟨gg,0,none⟩) (p+1) fO))):=by
     rw[<-HQ.o];exact iM.o.put (x:=⟨xf,xt,xp,true⟩) vn vq HS.o HK.o.1 HK.o.2 (fun i hi=>by rw[EH,if_neg (by simp)];exact iM.o.rows i hi)
    refine hK.out _ _ (dX.o _ gE qM) fun η=>?_;clear hK K an ag di mx vn vq fQ gQ kH jz
    try simp only[put,sA]
    (refine ay 15 ?_;try simp only[put,sA])
    refine bH 16 (fun K hK=>?_);skip;go_simp;refine hK.out _ _ (dX.o _ (gE.gJ (p:=⟨gF,k1,none⟩) il.1 _) ((Js _ _ _ il.2).trans qM)) fun η=>?_;clear hK K
    try simp only[put,sA]
    refine wpAnyH_done (by kernel_rfl) ?_ _;clear gE il qM t2 t3 η qK l6 vp tU;go_wp2;go_roundw
    ·exact⟨k+1,nn,lU,_,_,_,_,_,_,_,DL,by go_num,by omega,by omega,HF⟩
    simp[intOf];omega
 obtain rfl:k=n:=by omega
 have s0:wr.cell? ⟨b5,0,none⟩=some (.pointer (some ⟨bn,0,none⟩)):=HA.o.a.sT.at_ 0;have HF:Hid (Ld (dM L) mf L F w (.returned (.pointer (some ⟨bn,0,none⟩))) wr):=by
  have CX:=HA.o.rel;rw[show L.take k=L by rw[<-HH.o.2.2.2.1];exact take_length] at CX;have hpos:0<nm.length:=by
   have:=(List.getElem?_eq_some_iff.1 HA.o.hf).1;omega
  have Lm:∀i (h:i<nm.length),nm.getD i 0=nm[i]:=fun i h=>by simp[List.getD,h]
  obtain⟨gM,cM,gF,cF,gS,cS,h1,h2,h3⟩:=HA.o.a.n.net (mk:=fun i=>mf (nm.getD i 0)) hpos HA.o.rows (fun i hi=>by simp[hi]);refine⟨bn,f0,gM,cM,gF,cF,gS,cS,nm,L1,_,_,_,_,csA,rfl,HA.o.a.bc,h1,h2,h3,HA.o.a.n.cl HN.o.1 HN.o.2.1 (fun j hj=>by rw[getElem?_setIfInBounds_ne (by omega)];exact HN.o.2.2.2.1 j hj),?_,CX,HA.o.a.nd,HA.o.bd,HA.o.hf,by have:=HA.o.len;have:=HH.o.2.2.2.1;omega,HA.o.src⟩;rw[HA.o.a.n.sn.at_,getElem?_setIfInBounds_ne (by decide),getElem?_setIfInBounds_ne (by decide),getElem?_setIfInBounds_ne (by decide),Array.getElem?_setIfInBounds_self_of_lt (by rw[HN.o.2.2.1];decide)]
 go_wp2;go_ret;exact HF.o
theorem zmN(l:List Nat)(hl:∀x∈l,x<256)(i:Nat)(h:i<l.length):ng (strOf l) i=l[i]:=by
 have hs:i<(strOf l).size:=by rw[yu];exact h
 rw[<-QT _ i hs];have h1:((strOf l).data.toList)[i]?=some ((strOf l)[i]'hs):=by
  rw[getElem?_toList];exact Array.getElem?_eq_getElem hs
 rw[xW,getElem?_map,List.getElem?_eq_getElem h] at h1;simp only[map_some,Option.some.injEq] at h1;rw[<-h1];have:=hl l[i] (getElem_mem h);simp[UInt8.toNat_ofNat];omega
theorem zqT(M:Nat)(f:Nat->Bool)(i:Nat)(h:i<(M+7) / 8):ng (kI M f) i=kL (cv f M) i:=by
 unfold kI;rw[zmN _ (Jz f M) i (by simp[gw];omega)];simp[gw]
theorem zoP(M:Nat)(f:Nat->Bool):(kI M f).size=(M+7) / 8:=by unfold kI;rw[yu];simp[gw]
def qQ(L:List En)(rp:Nat->Nat)(es:List En)(c x:Nat):Prop:=∃e∈es,e.p (rp c)=true/\e.t=x
def oh(L:List En)(Ls:List Nat)(i:Nat):Nat:=((Ls.take i).flatMap (dk L)).length
def kJ(lc:List Nat)(j c:Nat):Nat:=if c∈lc.take j then 1 else 0
theorem Zh(lc:List Nat)(j c:Nat):kJ lc j c<=1:=by unfold kJ;split <;> omega
theorem zkC(hn:lc.Nodup)(h:lc.take (j+1)=lc.take j++[x]):kJ lc j x=0/\kJ lc (j+1) x=1:=by
 have h1:(lc.take j++[x]).Nodup:=by rw[<-h];exact hn.sublist (List.take_sublist _ _)
 have h2:x∉lc.take j:=fun hx=>(List.nodup_append.1 h1).2.2 x hx x (by simp) rfl
 unfold kJ;rw[h,if_neg h2,if_pos (by simp)];exact⟨rfl,rfl⟩
theorem zh9(h:lc.take (j+1)=lc.take j++[x])(hc:c≠x):kJ lc (j+1) c=kJ lc j c:=by
 unfold kJ;rw[h];simp[hc]
theorem zmO(L:List En)(Ls:List Nat):oh L Ls 0=0:=rfl
theorem zmP{st:Nat}(h:Ls.take (i+1)=Ls.take i++[st]):oh L Ls (i+1)=oh L Ls i+(dk L st).length:=by
 unfold oh;rw[h,List.flatMap_append,List.length_append];simp
theorem zmQ(Ls:List Nat)(hn:Ls.Nodup):∀L:List En,(Ls.flatMap (dk L)).length<=L.length:=by
 intro L
 induction L with
 | nil=>
  have:Ls.flatMap (dk [])=[]:=by simp[dk]
  rw[this];exact le_refl _
 | cons e L ih=>
  have key:∀l:List Nat,l.Nodup->(l.flatMap (dk (e :: L))).length<=(l.flatMap (dk L)).length+(if e.f∈l then 1 else 0):=by
   intro l hl
   induction l with
   | nil=>simp
   | cons a l ih2=>
    have h1:=ih2 (List.nodup_cons.1 hl).2;have h2:(dk (e :: L) a).length<=(dk L a).length+(if e.f=a then 1 else 0):=by
     unfold dk;rw[List.filter_cons];by_cases he:e.f=a
     ·rw[if_pos he];split <;> simp
     rw[if_neg he];have:(!e.b && e.f == a)=false:=(by simp[he]);rw[if_neg (by rw[this];decide)];exact le_refl _
    simp only[List.flatMap_cons,List.length_append];by_cases ha:e.f=a
    ·have h3:e.f∉l:=(by rw[ha];exact (List.nodup_cons.1 hl).1);rw[if_neg h3] at h1;rw[if_pos ha] at h2;rw[if_pos (by simp[ha])];omega
    rw[if_neg ha] at h2;by_cases hb:e.f∈l
    ·rw[if_pos hb] at h1;rw[if_pos (List.mem_cons_of_mem _ hb)];omega
    rw[if_neg hb] at h1;split <;> omega
  have h4:=key Ls hn;have h5:(if e.f∈Ls then 1 else 0)<=1:=by split <;> omega
  simp only[List.length_cons];omega
theorem UW(L:List En)(hn:Ls.Nodup)(i:Nat):oh L Ls i<=L.length:=zmQ (Ls.take i) (hn.sublist (List.take_sublist _ _)) L
def V2(B bm gI bM m M C bn:Nat)(K:Nat->Lit)(L:List En)(mk:Nat->Int)(SS:List (Nat->Bool))(R:List (List Int))(T:Nat->Nat->Prop)(w:World)(e:Ending)(w':World):Prop:=
 ∃(row:List Int) (ki:List (Nat->Bool)) (vf:List Int) (D':List ((Nat->Bool) × Nat)) (n':Nat) (im:Array Value) (l':List Nat) (jN vS' vK' vN':Value) (gs':List Nat),e=.returned (.tuple #[])/\
  mB B bm gI bM m M C bn K L mk ki vf D' (R++[row]) n' im l' jN vS' vK' vN' gs' w'/\iG M T SS C row ki/\Below B w w'
theorem zoQ(B bm gI bM m M C bn gM cM gF cF gS cS n fr:Nat)(aF aS:Nat->Option Addr)(DZ G4 rp:Nat->Nat)(K:Nat->Lit)(L:List En)(mk:Nat->Int)(w:World)
  (HF:mF w B bn gF M cF aF DZ L) (HT:qq w B bn gS M cS aS G4 (fun p=>dg (fun c=>p (rp c)) C) L) (HV:lq w B bn gM M cM mk) (hE:∀e∈L,e.f<M/\e.t<M) (Oc:L.length<=6400) (gP:∀i,i<M->-1<=mk i)
  (hC:dA K 256=C) (hC2:C<=256) (hM:M<=12900) (hm:(M+7) / 8=m) (SS:List (Nat->Bool)) (ms:List Int) (D:List ((Nat->Bool) × Nat)) (R:List (List Int)) (cs:Array Value) (l:List Nat) (vL vS vK vN:Value) (gs:List Nat)
  (h:mB B bm gI bM m M C bn K L mk SS ms D R n cs l vL vS vK vN gs w) (uC:fr<SS.length) (hS:SS.length<=3000) (hR:R.length<=3000):
  Calls prog 120 #[.pointer (some ⟨bm,0,none⟩),.int .i64 (fr:Int)] w (V2 B bm gI bM m M C bn K L mk SS R (fun c x=>FR L (Mv L (fun y=>y<M/\SS[fr] y=true) (rp c)) x) w):=by
 obtain⟨cA,Fj,Q4⟩:∃cA:Array Value,cA.size=256/\∀j,j<256->cA[j]?=some (.int .u8 (cls K j)):=⟨((range 256).map fun j=>.int .u8 (cls K j)).toArray,by simp,fun j hj=>by simp[hj]⟩
 have fI:(prog.info? 98).map (·.size)=some cA.size:=by rw[Fj];kernel_rfl
 have dy:∀j v,cA.toList[j]?=some v->w.cell? ((⟨bm,1,none⟩:Addr).add j)=some v:=by
  intro j v hj;have hj2:j<256:=by
   have:=(List.getElem?_eq_some_iff.1 hj).1;simpa [Fj] using this
  have e:(⟨bm,1,none⟩:Addr).add j=⟨bm,1+j,none⟩:=by unfold Addr.add;split <;> simp_all
  have h1:=Q4 j hj2;rw[<-getElem?_toList,hj] at h1;rw[e,h.a.r.other (1+j) (by omega),h.cl j hj2,h1]
 have Hi:=hid (zmC K cA Fj Q4 w);have jD:=Xv C (by omega);have H:=hid h;have TY:=hid Oc;have HN:=hid (Zz HF (Zz HT (Zz HV (Zz hE (Zz gP (Zz hm uC))))));rw[hC] at Hi;obtain⟨aS0,FM,rfl⟩:=cy h.t.os;obtain⟨Ag,rfl,_,_,No⟩:=fG h.t.os (by omega);have d0:=(No fr (by omega)).1;have d1:w.cell? ⟨bm,259,none⟩=some (.slice (some ⟨Ag,0,none⟩) SS.length FM):=by rw[h.a.r.other 259 (by decide),h.t.cS]
 have Du:bm<w.heap.size:=h.a.r.sm.lt;have lu:Ag<w.heap.size:=by have:=h.yp Ag ((AI ..).2 (by simp[ownBlock]));exact this
 have nW:B<=w.heap.size:=h.a.r.hB;rw[show (strs (SS.map (kI M)))[fr]?=some (.string (kI M SS[fr])) from by simp[strs,uC]] at d0;have yF:=hid (fun W:World=>zh8 (kI M SS[fr]) m (by rw[zoP,hm]) (by omega) (cv SS[fr] M) (fun i hi=>zqT M _ i (by omega)) W);obtain⟨fs,kK⟩:=Ξ (SS[fr])
 rw[kK] at d0 yF;rw[show (fun c x=>FR L (Mv L (fun y=>y<M/\SS[fr] y=true) (rp c)) x)=(fun c x=>FR L (Mv L (fun y=>y<M/\fs y=true) (rp c)) x) from by rw[kK]];have Jl:fr<SS.length:=uC;obtain⟨kS,RY⟩:=Ξ SS.length
 have HKS:=hid RY;rw[RY] at d1 Jl hS;have i0:(fr:Int)<kS:=by omega
 clear h HF HT HV hE gP Q4 hm No uC kK RY;go_in;go_wp2_with (refine tH rfl 98 _ rfl ⟨bm,1,none⟩ rfl cA (.array 256 5) dy underlying98 rfl fI ?_);refine Hi.o.mono ?_;rintro e w1 ⟨rfl,mZ⟩;have my:=mZ.size;have d0':(w1.alloc (.cells (madeCells #[.slice none 0 0] C) 43)).cell? ⟨Ag,fr,none⟩=some (.string (kI M fs)):=(((al w1 _).cell (p:=⟨Ag,fr,none⟩) (by show Ag<_;omega)).trans (mZ.cell (p:=⟨Ag,fr,none⟩) lu)).trans d0;have d1':(w1.alloc (.cells (madeCells #[.slice none 0 0] C) 43)).cell? ⟨bm,259,none⟩=some (.slice (some ⟨Ag,0,none⟩) kS FM):=(((al w1 _).cell (p:=⟨bm,259,none⟩) (by show bm<_;omega)).trans (mZ.cell (p:=⟨bm,259,none⟩) Du)).trans d1;clear d0 d1 dy Hi;go_wp2_with fail;refine (yF.o _).mono ?_;rintro e w3 ⟨Ls,aL,cL,rfl,hO,kG,kj,qG⟩;have MS:=hid (jl.made w1 w.heap.size C w3 my qG);have km:ϐ w w3:=(mZ.trans ((al w1 _).mono my)).trans (qG.mono (by simp;omega));obtain⟨gT,Cq⟩:=Ξ w1.heap.size
 have hgT3:gT<w3.heap.size:=by have:=qG.size;simp at this;omega
 rw[Cq] at MS;have tR:∀x∈Ls,x<M/\fs x=true:=fun x hx=>by have:=((kj x).1 hx).2;simpa [cv] using this
 have Az:=ψ hO kG (fun x=>show x∈Ls↔x<M/\fs x=true from ⟨tR x,fun hx=>(kj x).2 ⟨by have:=HN.o.2.2.2.2.2.1;omega,by simp[cv,hx.1,hx.2]⟩⟩) km;have Iq:∀g,(Value.slice aL Ls.length cL).ownBlock=some g->g≠gT:=fun g e h=>by
  have h1:=eI hO (MS.o.jd.1) (by decide) g e;exact h1 h
 have HGT:=hid Iq;have Th:Ls.length<=M:=rb kG (fun x hx=>(tR x hx).1);obtain⟨q,hq⟩:=Ξ Ls.length
 have HQ:=hid hq;rw[hq] at Th;rw[Cq];rw[hq];clear hO kG kj qG tR Iq km mZ d0' d1' yF jD hq Cq;go_wp2;go_loopw [6,8,10,30] (fun _ _ _ v wq=>∃(i:Nat) (vs:Nat->Value) (tg:Nat->List Nat),v=.int .i64 i/\i<=q/\Hid (jl w3 w.heap.size gT C vs tg wq)/\Hid (∀c,c<C->(tg c).length<=oh L Ls i/\∀x,x∈tg c↔qQ L rp ((Ls.take i).flatMap (dk L)) c x)) (fun _ _ _ v _=>q-(intOf v).toNat)
 ·exact⟨0,_,_,rfl,zero_le _,MS,fun c hc=>⟨by rw[zmO];simp,fun x=>by simp[qQ]⟩⟩
 obtain⟨i,vs,tg,rfl,hi,HA,HC⟩:=hrel;clear MS;have hW:ϐ w wr:=Az.o.2.2.2.trans HA.o.below;have HW:=hid hW;by_cases aq:i<q
 ·have uA:i<Ls.length:=by rw[HQ.o];exact aq
  obtain⟨gl,rfl,_,LJ,eR⟩:=fG Az.o.1 (by omega);have d0:=(eR i (by omega)).1;rw[Ck Ls i uA] at d0;have Jm:gl≠gT:=HGT.o gl rfl;replace d0:wr.cell? ⟨gl,i,none⟩=some (.int .i64 ((Ls[i]:Nat):Int)):=(HA.o.kept.oz (by simpa using Jm) LJ).trans d0;have hs:=((Az.o.2.2.1 Ls[i]).1 (getElem_mem _)).1;have Tn:Hid (Ls.take (i+1)=Ls.take i++[Ls[i]]):=List.take_succ_eq_append_getElem uA;generalize Ls[i]=st at d0 hs Tn;have c0:wr.cell? ⟨bm,0,none⟩=some (.pointer (some ⟨bn,0,none⟩)):=(hW.cell (p:=⟨bm,0,none⟩) Du).trans ((H.o.a.r.other 0 (by decide)).trans H.o.c0);have cU:=HN.o.2.1.below (hW.mono nW);have f0:=cU.ig;have k0:=cU.row st hs;have zo:=hid (HN.o.2.1.at_ st hs);obtain⟨aR,FL⟩:=Ξ (aS st)
  obtain⟨KE,Ca⟩:=Ξ (G4 st)
  rw[FL,Ca] at k0;rw[FL] at zo;have HBE:Hid (∀e∈dk L st,e.t<M):=fun e he=>(HN.o.2.2.2.1 e ((Of L st e).1 he).1).2
  obtain⟨p,hp⟩:=Ξ ((dk L st).length)
  have vI:p<=6400:=by rw[<-hp];exact le_trans (ziL L st) Oc
  have HP:=hid hp;rw[hp] at k0;have i1:(i:Int)<q:=by omega
  have i2:(st:Int)<M:=by omega
  clear cU FL Ca hp eR uA aq hi hW Jm LJ;go_wp2_with fail;clear c0 f0 k0 d0;go_loopw [8,10,45] (fun _ _ v wq=>∃(k:Nat) (OD:Nat->Value) (Cd:Nat->List Nat),v=.int .i64 k/\k<=p/\Hid (jl w3 w.heap.size gT C OD Cd wq)/\Hid (∀c,c<C->(Cd c).length<=oh L Ls i+k/\∀x,x∈Cd c↔qQ L rp ((Ls.take i).flatMap (dk L)++(dk L st).take k) c x)) (fun _ _ v _=>p-(intOf v).toNat)
  ·exact⟨0,vs,tg,rfl,zero_le _,HA,fun c hc=>⟨(HC.o c hc).1,fun x=>by rw[(HC.o c hc).2 x];simp⟩⟩
  clear HA HC HW;obtain⟨k,OD,Cd,rfl,hk,HA,HC⟩:=hrel;have hW:ϐ w wr:=Az.o.2.2.2.trans HA.o.below;by_cases By:k<p
  ·have hkl:k<(dk L st).length:=(by rw[HP.o];exact By);obtain⟨gx,off,rfl,hgx,zl⟩:=zo.o (by omega);obtain⟨ac,cc,s0,s1,hI⟩:=zl k hkl;replace s0:=(hW.cell (p:=⟨gx,off+k*2,none⟩) (by show gx<_;omega)).trans s0;replace s1:=(hW.cell (p:=⟨gx,off+k*2+1,none⟩) (by show gx<_;omega)).trans s1;have wM:Hid ((dk L st).take (k+1)=(dk L st).take k++[(dk L st)[k]]):=List.take_succ_eq_append_getElem hkl;have F0:=HBE.o _ (getElem_mem hkl);generalize (dk L st)[k]=ed at s0 s1 hI wM F0;obtain⟨lc,xu⟩:=Ξ (dg (fun c=>ed.p (rp c)) C);have XD:Hid (∀x,x∈lc↔x<C/\ed.p (rp x)=true):=(fun x=>by rw[<-xu];exact MP _ _ x);have HND:Hid (lc.Nodup):=(by rw[<-xu];exact (List.nodup_range).filter _);have TH:lc.length<=C:=(by rw[<-xu];exact Z5 _ _);dsimp only at s0 hI;rw[xu] at s0 hI;have HI:=hid hI;obtain⟨pc,ud⟩:=Ξ lc.length;have Av:=hid ud;rw[ud] at s0 TH;obtain⟨t,ht⟩:=Ξ ed.t;have HTD:=hid ht;rw[ht] at s1 F0;have i5:(k:Int)<p:=(by omega);have AH:=hid (HA.o.ae (al wr (.cells #[.slice ac pc cc,.int .i64 (t:Int)] 197)));have mJ:=hid (St.new wr 197 #[.slice ac pc cc,.int .i64 (t:Int)]);clear hI xu ud ht zl hkl hW hk;go_wp2_with fail;obtain⟨g8,U8⟩:=Ξ wr.heap.size;rw[U8] at mJ;rw[U8];generalize wr.alloc (.cells #[.slice ac pc cc,.int .i64 (t:Int)] 197)=W1 at AH mJ⊢;clear U8 s0 s1 HA;go_loopw [10,52] (fun _ v wz=>∃(j:Nat) (I3:Nat->Value) (pM:Nat->List Nat),v=.int .i64 j/\j<=pc/\Hid (jl w3 w.heap.size gT C I3 pM wz)/\Hid (St wz 197 g8 #[.slice ac pc cc,.int .i64 (t:Int)])/\Hid (∀c,c<C->(pM c).length<=oh L Ls i+k+kJ lc j c/\∀x,x∈pM c↔qQ L rp ((Ls.take i).flatMap (dk L)++(dk L st).take k) c x\/(c∈lc.take j/\x=t))) (fun _ v _=>pc-(intOf v).toNat)
   ·exact⟨0,OD,Cd,rfl,zero_le _,AH,mJ,fun c hc=>⟨by have:=(HC.o c hc).1;omega,fun x=>by rw[(HC.o c hc).2 x];simp⟩⟩
   clear AH mJ;obtain⟨j,I3,pM,rfl,hj,iT,TO,F7⟩:=hrel;have hW:ϐ w wr:=Az.o.2.2.2.trans iT.o.below;by_cases hjp:j<pc
   ·have hjl:j<lc.length:=(by rw[Av.o];exact hjp);obtain⟨gi,oi,rfl,Wq,hic⟩:=HI.o (by omega);have s2:=(hW.cell (p:=⟨gi,oi+j,none⟩) (by show gi<_;omega)).trans (hic j hjl);have hx:=((XD.o lc[j]).1 (getElem_mem hjl)).1;have Nc:Hid (lc.take (j+1)=lc.take j++[lc[j]]):=List.take_succ_eq_append_getElem hjl;generalize lc[j]=x at s2 hx Nc;have i6:(j:Int)<pc:=(by omega);clear hic hjl hW;have re:Hid (∀c,c<C->((fun jj=>if jj=x then pM x++[t] else pM jj) c).length<=oh L Ls i+k+kJ lc (j+1) c/\∀y,y∈(fun jj=>if jj=x then pM x++[t] else pM jj) c↔qQ L rp ((Ls.take i).flatMap (dk L)++(dk L st).take k) c y\/(c∈lc.take (j+1)/\y=t)):=fun c hc=>by
     obtain⟨h1,h2⟩:=F7.o c hc;rw[Nc.o];by_cases e:c=x
     ·subst e;have hoi:=zkC HND.o Nc.o;refine⟨by simp;omega,fun y=>?_⟩;simp only[if_true,mem_append,mem_singleton,h2 y];constructor
      ·rintro ((h3|⟨h3,h4⟩)|h3)
       ·exact inl h3
       ·exact inr ⟨inl h3,h4⟩
       exact inr ⟨inr trivial,h3⟩
      rintro (h3|⟨h3,h4⟩)
      ·exact inl (inl h3)
      exact inr h4
     have hoi:=zh9 Nc.o e;refine⟨by simp[e];omega,fun y=>?_⟩;show (y∈if c=x then pM x++[t] else pM c)↔_;rw[if_neg e,h2 y,mem_append,mem_singleton];simp[e]
    go_wp2_with fail;obtain⟨Mh,Oj,hv⟩:=cy (iT.o.jd.2.1 x hx);dsimp only at hv;have iM:=hid (iT.o.ae (al wr (.cells #[.int .i64 (t:Int)] 3)).drew);have um:=hid (TO.o.ae (al wr (.cells #[.int .i64 (t:Int)] 3)).drew);have dC:=iM.o.jd.2.1 x hx;rw[hv] at dC;dsimp only at dC;have hlen:(pM x).length<=20000:=by
     have a1:=(F7.o x hx).1;have a2:=UW L Az.o.2.1 i;have a3:=Zh lc j x;have a4:=TY.o;omega
    obtain⟨p3,ik⟩:=Ξ ((pM x).length);have k0:wr.cell? ⟨gT,x,none⟩=some (.slice Mh p3 Oj):=(by rw[(iT.o.jd.cell x hx).1,hv,ik]);have m2:(wr.alloc (.cells #[.int .i64 (t:Int)] 3)).drew.cell? ⟨gT,x,none⟩=some (.slice Mh p3 Oj):=(by rw[(iM.o.jd.cell x hx).1,hv,ik]);have uB:=ζ hv ik;have j1:(x:Int)<C:=(by omega);have j2:(0:Int)<=x:=(by omega);have AG:w3.heap.size<=((wr.alloc (.cells #[.int .i64 (t:Int)] 3)).drew).heap.size:=iM.o.below.size;rw[ik] at dC hlen;obtain⟨i0,zd,dP,dc,db⟩:=info_parts aH;have dX:=hid (fun (W:World) (h1:St W 197 g8 #[.slice (some ⟨gi,oi,none⟩) pc cc,.int .i64 ((t:Nat):Int)])=>(h1.at_ 1:W.cell? ⟨g8,1,none⟩=some (.int .i64 ((t:Nat):Int))));clear hv ik;refine wp_region_held_drew (S:=fun W'=>W'.cell? ⟨g8,1,none⟩=some (.int .i64 (t:Int))) (by kernel_rfl) (dX.o _ TO.o.drew) (fun η=>?_)
    (refine ay 0 ?_;refine ay 1 ?_;refine ay 2 ?_;try simp only[put,sA];refine ay 3 ?_;refine ay 4 ?_;refine ay 6 ?_;try simp only[put,sA];refine ay 7 ?_;try simp only[put,sA])
    ·refine wpAnyH_ready (rs:=[5,8]) (by kernel_rfl) (by simp) (jn (fun K hK=>?_) (jn (fun K hK=>?_) AllReadyH.nil))
     skip;go_simp;refine hK.out _ _ (dX.o _ TO.o.drew) fun η=>?_;clear hK K
     try simp only[put,sA]
     refine bH 8 (fun K hK=>?_);skip;go_simp;refine hK.out _ _ (dX.o _ um.o) fun η=>?_;clear hK K
     rotate_left
     skip;go_simp;refine hK.out _ _ (dX.o _ um.o) fun η=>?_;clear hK K
     try simp only[put,sA]
     refine bH 5 (fun K hK=>?_);skip;go_simp;refine hK.out _ _ (dX.o _ um.o) fun η=>?_;clear hK K
     rotate_left
     all_goals
      try simp only[put,sA]
      refine bH 9 (fun K hK=>?_);skip;skip;refine step_append_lies _ (by rfl) _ _ _ (by rfl) w3.heap.size 3 i0 (.int .i64 0) 1 8 underlying43 zd dP dc db (by rfl) (by decide) _ p3 (dv (pM x)) (by rfl) dC ⟨wr.heap.size,0,none⟩ 1 1 (#[.int .i64 (t:Int)]).toList (by rfl) (by rfl) (news_of_block (cs:=#[.int .i64 (t:Int)]) (t:=3) (fr:=(0,0)) (heap_alloc_new wr _)) (by simp[oneCell']) (by omega) (by unfold maxLen;omega) (by omega) AG (wr.heap.size+1) (by simp) ?_;intro gg fO w6 an ag di mx;have gD:=um.o.af dC (by decide) ag;have oG:=iM.o.jd.1.af dC (by decide) ag;have t2:w6.cell? ⟨gT,x,none⟩=some (.slice Mh p3 Oj):=(by rw[oG.at_];simp only[getElem?_toArray,getElem?_map,getElem?_range hx,map_some,uB.o.1,uB.o.2]);have t3:=oG.bE x;have HF:Hid (jl w3 w.heap.size gT C (fun j=>if j=x then (.slice (some ⟨gg,0,none⟩) (p3+1) fO) else I3 j) (fun j=>if j=x then pM x++[t] else pM j) (w6.setCell ⟨gT,x,none⟩ (.slice (some ⟨gg,0,none⟩) (p3+1) fO))):=
       iM.o.app hx uB.o.2 an (by rw[uB.o.1,uB.o.2];exact ag) (fun b e=>by rw[uB.o.1,uB.o.2];injection e with e;rw[<-e];rcases di with h|h;exact inl h;exact inr (by rw[h];simp))
      have D9:Hid (St (w6.setCell ⟨gT,x,none⟩ (.slice (some ⟨gg,0,none⟩) (p3+1) fO)) 197 g8 #[.slice (some ⟨gi,oi,none⟩) pc cc,.int .i64 (t:Int)]):=gD.gv oG (by decide) x _;refine hK.out _ _ (dX.o _ gD) fun η=>?_;clear hK K an ag di mx
      try simp only[put,sA]
      (refine ay 10 ?_;try simp only[put,sA])
      refine bH 11 (fun K hK=>?_);skip;go_simp;refine hK.out _ _ (dX.o _ (gD.gv oG (by decide) x _)) fun η=>?_;clear hK K
      try simp only[put,sA]
      refine wpAnyH_done (by kernel_rfl) ?_ _;clear gD oG t2 t3 η;go_wp2;go_roundw
      ·exact⟨j+1,_,_,by go_num,by omega,HF,D9,re⟩
      simp[intOf];omega
   obtain rfl:j=pc:=(by omega);have HZ:Hid (∀c,c<C->(pM c).length<=oh L Ls i+(k+1)/\∀x,x∈pM c↔qQ L rp ((Ls.take i).flatMap (dk L)++(dk L st).take (k+1)) c x):=fun c hc=>by
    obtain⟨h1,h2⟩:=F7.o c hc;refine⟨by have:=Zh lc j c;omega,fun x=>?_⟩;rw[h2 x,wM.o,<-Av.o,take_length,XD.o c,<-HTD.o];unfold qQ;simp only[mem_append,mem_singleton];constructor
    ·rintro (⟨e,he,h3,h4⟩|⟨⟨_,h3⟩,h4⟩)
     ·exact⟨e,by rcases he with he|he;exact inl he;exact inr (inl he),h3,h4⟩
     exact⟨ed,inr (inr rfl),h3,h4.symm⟩
    rintro⟨e,he,h3,h4⟩;rcases he with he|he|rfl
    ·exact inl ⟨e,inl he,h3,h4⟩
    ·exact inl ⟨e,inr he,h3,h4⟩
    exact inr ⟨⟨hc,h3⟩,h4.symm⟩
   clear hW;go_wp2;go_roundw
   ·exact⟨k+1,I3,pM,by go_num,by omega,iT,HZ⟩
   simp[intOf];omega
  obtain rfl:k=p:=by omega
  have HZ:Hid (∀c,c<C->(Cd c).length<=oh L Ls (i+1)/\∀x,x∈Cd c↔qQ L rp ((Ls.take (i+1)).flatMap (dk L)) c x):=fun c hc=>by
   obtain⟨h1,h2⟩:=HC.o c hc;refine⟨by rw[zmP Tn.o,HP.o];exact h1,fun x=>?_⟩;rw[h2 x,Tn.o,<-HP.o,take_length,List.flatMap_append];simp
  clear hW;go_wp2;go_roundw
  ·exact⟨i+1,OD,Cd,by go_num,by omega,HA,HZ⟩
  simp[intOf];omega
 obtain rfl:i=q:=by omega
 have HZ:Hid (∀c,c<C->(tg c).length<=6400/\∀x,x∈tg c↔qQ L rp (Ls.flatMap (dk L)) c x):=fun c hc=>by
  obtain⟨h1,h2⟩:=HC.o c hc;refine⟨by have a2:=UW L Az.o.2.1 i;have a4:=TY.o;omega,fun x=>?_⟩;rw[h2 x,<-HQ.o,take_length]
 have P5:gT<wr.heap.size:=by have:=HA.o.below.size;omega
 have yO:=zmK C (by omega);have HVs:=hid (Kept.refl [] [] wr);have H1:=hid (H.o.ae hW);have Jn:∀x∈jy bm gI bM vL (.slice (some ⟨Ag,0,none⟩) SS.length FM) vK,x<w.heap.size:=H.o.yp;have yD:w.heap.size<=gT:=HA.o.lo.1;have qv:=ζ Jn yD;clear Jn yD;go_wp2_with fail;obtain⟨gR,CD⟩:=Ξ wr.heap.size
 rw[CD];have HG:=hid (HA.o.jd);have Uv:Hid (∀c,c<C->∀b,(vs c).ownBlock=some b->b<gR/\w3.heap.size<=b):=fun c hc b e=>by
  obtain⟨c1,fz,h1⟩:=qX (HG.o.2.1 c hc) b e;exact⟨by rw[<-CD];exact (Array.getElem?_eq_some_iff.1 h1).1,ln (HG.o.2.1 c hc) b e⟩
 have fC:Hid (St (wr.alloc (.cells (madeCells #[.int .i64 0] C) 3)) 3 gR (ints (replicate C 0)).toArray):=by
  show St _ _ _ _;rw[<-zkA,<-CD];exact St.new _ _ _
 have H2:=hid (H1.o.ae (al wr (.cells (madeCells #[.int .i64 0] C) 3)));have uD:=hid (HG.o.ae (al wr (.cells (madeCells #[.int .i64 0] C) 3)));have hVs:(wr.alloc (.cells (madeCells #[.int .i64 0] C) 3)).heap.size=gR+1:=by simp[CD]
 have Qt:ϐ w (wr.alloc (.cells (madeCells #[.int .i64 0] C) 3)):=(hW.trans ((al wr _).mono hW.size))
 have Uy:=hid Qt;generalize wr.alloc (.cells (madeCells #[.int .i64 0] C) 3)=V at fC H2 uD hVs Qt Uy⊢;obtain⟨xo,KF⟩:=Ξ (jy bm gI bM vL (.slice (some ⟨Ag,0,none⟩) SS.length FM) vK)
 have Yd:=hid KF;clear H1 HG HVs Qt yO hW KF;have hgTR:gT<gR:=by omega
 have HTC:Hid (∀c,c<C->(fun x=>FR L (fun y=>y∈tg c) x)=(fun x=>FR L (Mv L (fun y=>y<M/\fs y=true) (rp c)) x)):=fun c hc=>funext fun x=>propext (FR.congr (fun y=>by
  rw[(HC.o c hc).2 y]
  rw[<-HQ.o,take_length]
  constructor
  ·rintro⟨e,he,h1,h2⟩
   obtain⟨st,cU,he⟩:=List.mem_flatMap.1 he
   obtain⟨h3,h4,h5⟩:=(Of L st e).1 he
   exact⟨e,h3,h4,h1,by rw[h5];exact (Az.o.2.2.1 st).1 cU,h2⟩
  ·rintro⟨e,h3,h4,h1,h5,h2⟩
   exact⟨e,List.mem_flatMap.2 ⟨e.f,(Az.o.2.2.1 e.f).2 h5,(Of L e.f e).2 ⟨h3,h4,rfl⟩⟩,h1,h2⟩) x)
 have HTL:Hid (∀c,c<C->(tg c).length<=6400/\∀x∈tg c,x<M):=fun c hc=>⟨by have a1:=(HC.o c hc).1;have a2:=UW L Az.o.2.1 i;have a4:=TY.o;omega,fun x hx=>by
  obtain⟨e,he,h1,h2⟩:=((HC.o c hc).2 x).1 hx
  obtain⟨st,cU,he⟩:=List.mem_flatMap.1 he
  rw[<-h2]
  exact (HN.o.2.2.2.1 e ((Of L st e).1 he).1).2⟩
 have EV:Hid (∀x∈xo,x<w.heap.size):=by rw[<-Yd.o];exact qv.o.1
 have yD:w.heap.size<=gT:=qv.o.2;clear HC HA hi aq HW qv P5;go_loopw [12,13,75] (fun _ _ v wq=>∃(c:Nat) (row:List Int) (ki:List (Nat->Bool)) (vf:List Int) (D':List ((Nat->Bool) × Nat)) (n':Nat) (im:Array Value) (l':List Nat) (jN vS' vK':Value),v=.int .i64 c/\c<=C/\
  Hid (mB B bm gI bM m M C bn K L mk ki vf D' R n' im l' jN vS' vK' vN gs wq)/\Hid (iG M (fun c x=>FR L (Mv L (fun y=>y<M/\fs y=true) (rp c)) x) SS c row ki)/\Hid (Kept [] (gR :: xo) V wq/\Below B V wq/\(∀x∈jy bm gI bM jN vS' vK',x∈xo\/V.heap.size<=x)/\St wq 3 gR (ints (row++replicate (C-c) 0)).toArray/\∀x∈gs,x≠gR)) (fun _ _ v _=>C-(intOf v).toNat)
 case atStart=>exact⟨0,[],SS,ms,D,n,cs,l,vL,_,vK,rfl,zero_le _,H2,iG.zero,Kept.refl _ _ _,Below.refl _ _,fun x hx=>inl (by rw[<-Yd.o];exact hx),by simpa using fC.o,fun x hx e=>by
  obtain⟨i1,h1,h2⟩:=List.getElem_of_mem hx
  have h3:=(H.o.nx.row i1 h1 (by rw[<-H.o.nx.len];exact h1)).1.lt
  omega⟩
 case round=>
  clear H2 fC;obtain⟨c,row,ki,vf,D',n',im,l',jN,vS',vK',rfl,hc,HM,zo,HK⟩:=hrel;have xL:=zo.o.len;have Ve:gR∉xo:=fun h=>by have:=EV.o _ h;omega
  have E4:gT∉gR :: xo:=fun h=>by
   rcases List.mem_cons.1 h with h|h
   ·omega
   have:=EV.o _ h;omega
  have yM:gR∉jy bm gI bM jN vS' vK':=fun h=>by
   rcases HK.o.2.2.1 _ h with h|h
   ·exact Ve h
   omega
  have km:Below B w wr:=(Uy.o.mono nW).trans HK.o.2.1;by_cases aq:c<C
  ·have hO:=uD.o.2.1 c aq;obtain⟨aT,cT,hv⟩:=cy hO;dsimp only at hv hO;have t0:wr.cell? ⟨gT,c,none⟩=some (.slice aT (tg c).length cT):=(by rw[HK.o.1.oz E4 (by omega),(uD.o.cell c aq).1,hv]);have Eu:=Uv.o c aq;rw[hv] at hO Eu;have HAt:Hid (∀W:World,(∀g,g∉gR :: xo->g<V.heap.size->W.heap[g]?=V.heap[g]?)->Cm W W.heap.size aT (tg c)):=fun W hW h0=>by
    obtain⟨gt,rfl,ur,Mu,gH⟩:=fG hO h0;have h1:=(Eu gt rfl).1;have h2:=hW gt (fun h=>by
     rcases List.mem_cons.1 h with h|h
     ·omega
     ·have:=EV.o _ h;omega) Mu
    refine⟨gt,0,rfl,?_,fun j hj=>?_⟩
    ·rw[Array.getElem?_eq_getElem Mu] at h2;exact (Array.getElem?_eq_some_iff.1 h2).1
    rw[zero_add];have h3:W.cell? ⟨gt,j,none⟩=V.cell? ⟨gt,j,none⟩:=(by simp only[World.cell?,h2]);rw[h3,(gH j (by omega)).1,Ck (tg c) j hj]
   have yN:=HTL.o c aq;have F0:=hid yN.2;replace yN:=yN.1;have TA:=hid (HTC.o c aq);obtain⟨tc,IU⟩:=Ξ (tg c);rw[IU] at t0 HAt yN F0 TA;have dC:row.length=c:=xL.1;have cU:=HK.o.2.2.2.1;rw[zmL row C c aq] at cU;have e0:wr.cell? ⟨gR,c,none⟩=some (.int .i64 0):=(by rw[cU.at_,zmM row C c dC]);have e1:=cU.bE c;have pD:Hid (St (wr.setCell ⟨gR,c,none⟩ (.int .i64 (-1))) 3 gR (ints ((row++[-1])++replicate (C-(c+1)) 0)).toArray):=by
    have:=cU.set c (.int .i64 (-1));rwa [Zj row C c dC aq] at this
   have ll:Kept [] [gR] wr (wr.setCell ⟨gR,c,none⟩ (.int .i64 (-1))):=(Kept.refl _ _ _).setCell _ _ (inl (by simp));have fT:Below B wr (wr.setCell ⟨gR,c,none⟩ (.int .i64 (-1))):=(Below.refl _ _).setCell (p:=⟨gR,c,none⟩) (by show B<=gR;omega) _;have BT:=hid (HM.o.gJ ll fT (fun x hx h=>yM (by rw[<-List.mem_singleton.1 h];exact hx)) (fun b e h=>eI HM.o.nx.own cU (by decide) b e (List.mem_singleton.1 h)) (fun x hx h=>HK.o.2.2.2.2 x hx (List.mem_singleton.1 h)));have ni:Hid (Kept [] (gR :: xo) V (wr.setCell ⟨gR,c,none⟩ (.int .i64 (-1)))/\Below B V (wr.setCell ⟨gR,c,none⟩ (.int .i64 (-1)))):=(⟨HK.o.1.setCell _ _ (inl (by simp)),HK.o.2.1.trans fT⟩);have i1:(c:Int)<C:=(by omega);obtain⟨p,hp⟩:=Ξ tc.length;rw[hp] at t0 yN;have HP:=hid hp;clear hO hv Eu cU ll fT hp;go_upto_region 19 with fail;generalize wr.setCell ⟨gR,c,none⟩ (.int .i64 (-1))=W1 at pD BT ni⊢;have py:Hid (∀x∈jy bm gI bM jN vS' vK',x∈xo\/V.heap.size<=x):=HK.o.2.2.1;have TV:Hid (∀x∈gs,x≠gR):=HK.o.2.2.2.2;clear e0 e1 t0 HK HM;by_cases DU:p=0
   ·subst DU;have HZ:Hid (iG M (fun c x=>FR L (Mv L (fun y=>y<M/\fs y=true) (rp c)) x) SS (c+1) (row++[-1]) ki):=by
     refine iG.succ zo.o (inl ⟨fun x hx h=>?_,rfl,rfl⟩);have h1:=congrFun TA.o x;have h2:FR L (fun y=>y∈tc) x:=by
      have e:(FR L (fun y=>y∈tc) x)=_:=h1;rw[e];exact h
     rw[List.length_eq_zero_iff.1 HP.o] at h2;exact FR.none (fun x h=>by simp at h) x h2
    clear xL dC IU;go_wp2;go_roundw
    ·exact⟨c+1,row++[-1],ki,vf,D',n',im,l',jN,vS',vK',by go_num,by omega,BT,HZ,ni.o.1,ni.o.2,py.o,pD.o,TV.o⟩
    simp[intOf];omega
   have hq0:(0:Int)<p:=(by omega);have hSl:ki.length<=3256:=(by have:=HKS.o;omega);have dd:n'<=100000:=(by have:=BT.o.hn;omega);have qb:l'.length<=100000:=(by have:=BT.o.a.len;omega);have xe:Below B w W1:=(Uy.o.mono nW).trans ni.o.2;have jM:=hid (Zw W1 B (jy bm gI bM jN vS' vK') bm gI m M bM bn gM cM gF cF aF DZ L (HN.o.1.below xe) HN.o.2.2.2.1 (by omega) im mk (HN.o.2.2.1.below xe) HN.o.2.2.2.2.1 BT.o.c0 (by omega) HN.o.2.2.2.2.2.1 _ l' jN vS' vK' n' ki vf D' (by omega) dd qb
    aT p cT tc HP.o (by omega) F0.o (fun W hW=>HAt.o W (fun g hg hl=>by
     have h1:=ni.o.1 g _ (Array.getElem?_eq_getElem hl) (fun _ _ _ _=>by simp) hg
     rw[Array.getElem?_eq_getElem hl]
     exact hW g _ h1 (fun _ _ _ _=>by simp) (fun hm=>by
      rcases py.o _ hm with h|h
      ·exact hg (List.mem_cons_of_mem _ h)
      ·omega))) W1 BT.o.a.r BT.o.t BT.o.inv)
   have h0:∃x,x<M/\FR L (fun y=>y∈tc) x:=by
    have gG:0<tc.length:=(by rw[HP.o];omega);exact⟨tc[0],F0.o _ (getElem_mem gG),.base (getElem_mem gG)⟩
   have H0:=hid h0;have A5:=hid yM;clear h0 xe xL IU yM km E4 dd qb;go_wp2_with fail;refine jM.o.mono ?_;rintro e w5 rQ;obtain⟨r,Cs,S7,D2,n2,Tp,l2,rX,Gb,JX,rfl,Pj,hAdd,fS,nO,cH⟩:=BT.o.close rQ H0.o;have gh:=pD.o.kept fS (by simp) A5.o;have e0:w5.cell? ⟨gR,c,none⟩=some (.int .i64 (-1)):=(by rw[gh.at_,zmM row C c dC]);have e1:=gh.bE c;have IW:gR∉jy bm gI bM rX Gb JX:=fun h=>by
    rcases cH _ h with h|h
    ·exact A5.o h
    have:=pD.o.lt;omega
   have IK:Kept [] [gR] w5 (w5.setCell ⟨gR,c,none⟩ (.int .i64 r)):=(Kept.refl _ _ _).setCell _ _ (inl (by simp));have dY:Below B w5 (w5.setCell ⟨gR,c,none⟩ (.int .i64 r)):=(Below.refl _ _).setCell (p:=⟨gR,c,none⟩) (by show B<=gR;omega) _;have HM3:=hid (Pj.gJ IK dY (fun x hx h=>IW (by rw[<-List.mem_singleton.1 h];exact hx)) (fun b e h=>eI Pj.nx.own gh (by decide) b e (List.mem_singleton.1 h)) (fun x hx h=>TV.o x hx (List.mem_singleton.1 h)));have s6:Kept [] (gR :: xo) V w5:=fun k o hk ho hn=>fS k o (ni.o.1 k o hk ho hn) ho (fun hm=>by
    rcases py.o _ hm with h|h
    ·exact hn (List.mem_cons_of_mem _ h)
    ·have:=(Array.getElem?_eq_some_iff.1 hk).1;omega)
   have HZ:Hid (Kept [] (gR :: xo) V (w5.setCell ⟨gR,c,none⟩ (.int .i64 r))/\Below B V (w5.setCell ⟨gR,c,none⟩ (.int .i64 r))/\(∀x∈jy bm gI bM rX Gb JX,x∈xo\/V.heap.size<=x)/\St (w5.setCell ⟨gR,c,none⟩ (.int .i64 r)) 3 gR (ints (row++[r]++replicate (C-(c+1)) 0)).toArray/\∀x∈gs,x≠gR):=by
    refine⟨s6.setCell _ _ (inl (by simp)),(ni.o.2.trans nO).trans dY,fun x hx=>?_,?_,TV.o⟩
    ·rcases cH x hx with h|h
     ·exact py.o x h
     exact inr (le_trans ni.o.2.size h)
    have:=gh.set c (.int .i64 r);rwa [Zj row C c dC aq] at this
   have zD:Hid (iG M (fun c x=>FR L (Mv L (fun y=>y<M/\fs y=true) (rp c)) x) SS (c+1) (row++[r]) Cs):=by
    refine iG.succ zo.o ?_;rw[TA.o] at hAdd;exact hAdd
   clear rQ Pj hAdd fS nO cH gh IW IK dY s6 jM;go_wp2;go_roundw
   ·exact⟨c+1,row++[r],Cs,S7,D2,n2,Tp,l2,rX,Gb,JX,by go_num,by omega,HM3,zD,HZ⟩
   simp[intOf];omega
  obtain rfl:c=C:=by omega
  obtain⟨aN,cN,rfl⟩:=cy HM.o.nx.own;have n0:wr.cell? ⟨bm,257,none⟩=some (.slice aN R.length cN):=by rw[HM.o.a.r.other 257 (by decide),HM.o.cN]
  have hO:=HM.o.nx.own;have hBB:=HM.o.a.r.hB;have HRL:Hid (St wr 3 gR (ints row).toArray):=by
   have:=HK.o.2.2.2.1;show St _ _ _ _;simpa using this
  obtain⟨kR,Tu⟩:=Ξ R.length
  rw[Tu] at n0 hO hR;have I0:=hid Tu;obtain⟨i9,G3,dP,dc,db⟩:=info_parts fa;have A5:=hid yM;have HBw:=hid km;clear Tu xL yM E4 km;go_wp2_with (at_builtin;refine wpList_append_own_at _ rfl _ _ 99 rfl B 43 i9 (.slice none 0 0) 1 24 underlying99 G3 dP dc db rfl (by decide) _ _ _ rfl (hO.alloc _) ⟨wr.heap.size,0,none⟩ 1 1 [.slice (some ⟨gR,0,none⟩) c c] rfl rfl (cell_one_new _ _ _) ?d2 ?d3 ?d4 ?d5 ?_)
  case d2=>intro u hu;simp at hu;subst hu;rfl
  case d3=>unfold maxLen;omega
  case d4=>omega
  case d5=>simp;omega
  intro v' w5 ak aj _ bW;obtain⟨a5,c5,rfl⟩:=cy ak;have h2:=HM.o.ae (al wr (.cells #[.slice (some ⟨gR,0,none⟩) c c] 43));have an:=ak;rw[<-I0.o] at an;obtain⟨hF,hFB⟩:=h2.next (HRL.o.ae (al wr _)) A5.o (v':=.slice a5 (kR+1) c5) (by simpa [I0.o] using an) (by rw[I0.o];exact aj)
  have tB:St w5 168 bm _:=h2.a.r.sm.af h2.nx.own (by decide) (by rw[I0.o];exact aj);have p3:w5.cell? ⟨bm,257,none⟩=some (.slice aN kR cN):=by rw[tB.at_,getElem?_setIfInBounds_ne (by decide),h2.cN,I0.o]
  have pf:=tB.bE 257;have Fk:Hid (V2 B bm gI bM m M c bn K L mk SS R (fun c x=>FR L (Mv L (fun y=>y<M/\fs y=true) (rp c)) x) w (.returned (.tuple #[])) (w5.setCell ⟨bm,257,none⟩ (.slice a5 (kR+1) c5))):=
   ⟨row,ki,vf,D',n',_,l',jN,vS',vK',_,_,rfl,hF,zo.o,(HBw.o.trans ((al wr _).mono HM.o.a.r.hB)).trans hFB⟩
  clear ak an aj bW h2 tB hF hFB hO n0;go_wp2_with fail;refine bodyPost_ret (results_none rfl _ _ _) rfl ?_;exact Fk.o
theorem zoR(K:Nat->Lit)(h:cls K x=cls K y):K x=K y:=by
 have hx:cls K (fst K x)=cls K x:=by unfold cls;rw[OI]
 have hy:cls K (fst K y)=cls K y:=by unfold cls;rw[OI]
 have e:fst K x=fst K y:=by
  rcases Nat.lt_trichotomy (fst K x) (fst K y) with h1|h1|h1
  ·have h2:=FZ K (fst K x) (fst K y) h1;have h3:dA K (fst K y)=cls K y:=rfl;omega
  ·exact h1
  have h2:=FZ K (fst K y) (fst K x) h1;have h3:dA K (fst K x)=cls K x:=rfl;omega
 rw[<-(Ab K x).2.1,<-(Ab K y).2.1,e]
noncomputable def qE (K:Nat->Lit) (c:Nat):Nat:=(rl K 256).getD c 0
theorem Un(K:Nat->Lit)(b:Nat)(hb:b<256):cls K b<(rl K 256).length/\K (qE K (cls K b))=K b:=by
 have h1:=FZ K b 256 hb;have h2:cls K b<(rl K 256).length:=by rw[A8];omega
 refine⟨h2,zoR K ?_⟩;have:qE K (cls K b)=(rl K 256)[cls K b]:=by simp[qE,getD_eq_getElem?_getD,h2]
 rw[this];exact (zrQ K 256 (cls K b) h2).1
theorem zrS(L:List En)(h:dM L x=dM L y):∀e∈L,e.b=false->e.p x=e.p y:=by
 intro e he hb;have h1:=(zkN _ _ _ _).1 h;have hm:e.p∈cY (L.map En.z):=by
  unfold cY;exact List.mem_map.2 ⟨e.z,List.mem_filter.2 ⟨List.mem_map.2 ⟨e,he,rfl⟩,by simp[En.z,hb]⟩,rfl⟩
 obtain⟨i,hi,e1⟩:=List.getElem_of_mem hm;have h2:=h1 i hi;have h3:rY (L.map En.z) i=e.p:=by simp[rY,getD_eq_getElem?_getD,hi,e1]
 rw[h3] at h2;exact h2
theorem zr7(L:List En)(b:Nat)(hb:b<256):∀e∈L,e.b=false->e.p (qE (dM L) (cls (dM L) b))=e.p b:=zrS L (Un (dM L) b hb).2
theorem Mv.byte{A:Nat->Prop}{d:Nat}(h:∀e∈L,e.b=false->e.p c=e.p d)(x:Nat):Mv L A c x↔Mv L A d x:=
 ⟨fun ⟨e,h1,h2,h3,h4,h5⟩=>⟨e,h1,h2,by rw[<-h e h1 h2];exact h3,h4,h5⟩,fun ⟨e,h1,h2,h3,h4,h5⟩=>⟨e,h1,h2,by rw[h e h1 h2];exact h3,h4,h5⟩⟩
theorem Mv.none{A:Nat->Prop}(h:∀x,¬A x)(c x:Nat):¬Mv L A c x:=fun ⟨e,_,_,_,h4,_⟩=>h _ h4
theorem cJ.nam(hn:nm.Nodup){A' A:Nat->Prop}(h:uN nm A' A)(hr:cJ (fun i=>mf (nm.getD i 0)) A' r):cJ mf A r:=by
 rcases hr with ⟨h1,h2⟩|⟨h1,⟨x,hx,h2⟩,h3⟩
 ·refine inl ⟨h1,fun x hx=>?_⟩;obtain⟨i,hi,rfl⟩:=(h.2 x).1 hx;exact h2 i hi
 refine inr ⟨h1,⟨nm.getD x 0,(h.2 _).2 ⟨x,hx,rfl⟩,h2⟩,fun y hy=>?_⟩;obtain⟨i,hi,rfl⟩:=(h.2 y).1 hy;exact h3 i hi
def Gs(L:List En)(M:Nat)(rp:Nat->Nat)(f:Nat->Bool)(c x:Nat):Prop:=FR L (Mv L (fun y=>y<M/\f y=true) (rp c)) x
structure Made (L:List En)(F:Nat)(nm:List Nat)(L':List En)(f0:Nat)(s0:Nat->Bool)(k:Nat)(R:List (List Int))(SS:List (Nat->Bool)):Prop where
 pC:L=L'.map (En.pC nm)
 nd:nm.Nodup
 bd:∀e∈L',e.f<nm.length/\e.t<nm.length
 hf:nm[f0]?=some F
 src:∀x∈nm,Src L F F x
 st:∀x,x<nm.length->(s0 x=true↔FR L' (fun y=>y=f0) x)
 run:iW nm.length (rl (dM L) 256).length (Gs L' nm.length (qE (dM L))) [s0] k R SS
theorem Made.rep{f0:Nat}(h:Made L F nm L' f0 s0 k R SS)(b:Nat)(hb:b<256):∀e∈L',e.b=false->e.p (qE (dM L) (cls (dM L) b))=e.p b:=by
 intro e he h2;have h3:e.pC nm∈L:=by rw[h.pC];exact List.mem_map.2 ⟨e,he,rfl⟩
 exact zr7 L b hb (e.pC nm) h3 h2
def tQ(M:Nat)(SS:List (Nat->Bool))(A:Nat->Prop)(a:Int):Prop:=(a=-1/\∀x,¬A x)\/∃(j:Nat) (h:j<SS.length),a=((j:Nat):Int)/\∀x,x<M->(SS[j] x=true↔A x)
theorem Made.start{f0:Nat}(h:Made L F nm L' f0 s0 k R SS)(z:Nat->Nat):tQ nm.length SS (da L' f0 z 0) 0:=by
 have hp:=h.run.pre;have h0:0<SS.length:=Nat.lt_of_lt_of_le (by simp) hp.length_le;have h1:s0=SS[0]:=by
  have:=hp.getElem (i:=0) (by simp);simpa using this
 exact inr ⟨0,h0,rfl,fun x hx=>by rw[<-h1];exact h.st x hx⟩
theorem Made.step{L:List En}{F f0 k:Nat}{nm:List Nat}{L':List En}{s0:Nat->Bool}{R:List (List Int)}{SS:List (Nat->Bool)}(h:Made L F nm L' f0 s0 k R SS)(hk:SS.length=k)(z:Nat->Nat)(t j:Nat)(hz:z t<256)(hs:tQ nm.length SS (da L' f0 z t) (j:Int)):
  ∃(hj:j<R.length) (hc:cls (dM L) (z t)<R[j].length),tQ nm.length SS (da L' f0 z (t+1)) R[j][cls (dM L) (z t)]:=by
 have nA:=h.run.len;obtain⟨ie,_⟩:=Un (dM L) (z t) hz;rcases hs with ⟨h1,_⟩|⟨j',E9,e,hS⟩
 ·omega
 have e2:j'=j:=by omega
 subst e2;have IM:j'<R.length:=by omega
 have dC:=h.run.tJ R[j'] (getElem_mem IM);refine⟨IM,by omega,?_⟩;obtain⟨sX,ht⟩:=h.run.qc j' IM;have IU:=ht (cls (dM L) (z t)) (by omega);have hA:∀x,Gs L' nm.length (qE (dM L)) SS[j'] (cls (dM L) (z t)) x↔da L' f0 z (t+1) x:=by
  intro x;show FR L' _ x↔FR L' _ x;refine FR.congr (fun y=>?_) x;rw[Mv.byte (h.rep (z t) hz) y];refine Mv.congr (fun w=>⟨fun hw=>(hS w hw.1).1 hw.2,fun hw=>?_⟩) _ y;have aq:w<nm.length:=da.lt (f:=f0) (List.getElem?_eq_some_iff.1 h.hf).1 (fun e he=>(h.bd e he).2) t hw;exact⟨aq,(hS w aq).2 hw⟩
 rcases IU with ⟨h1,h2⟩|⟨_,j2,hj2,h1,h2⟩
 ·refine inl ⟨h1,fun x hx=>?_⟩;have aq:x<nm.length:=da.lt (f:=f0) (List.getElem?_eq_some_iff.1 h.hf).1 (fun e he=>(h.bd e he).2) (t+1) hx;exact h2 x aq ((hA x).2 hx)
 exact inr ⟨j2,hj2,h1,fun x hx=>(h2 x hx).trans (hA x)⟩
theorem da.dead{f:Nat}{z:Nat->Nat}(h:∀x,¬da L f z t x):∀x,¬da L f z (t+1) x:=fun x=>FR.none (Mv.none h (z t)) x
theorem Made.names{f0:Nat}(h:Made L F nm L' f0 s0 k R SS)(z:Nat->Nat)(m:Nat):uN nm (da L' f0 z m) (da L F z m):=by
 have:=uN.run h.nd h.bd (List.getElem?_eq_some_iff.1 h.hf).1 z m;rw[<-h.pC] at this;have e:nm.getD f0 0=F:=by simp[getD_eq_getElem?_getD,h.hf]
 rwa [e] at this
theorem Made.mark{f0:Nat}(h:Made L F nm L' f0 s0 k R SS){z:Nat->Nat}(hj:j<SS.length)(hs:tQ nm.length SS (da L' f0 z m) (j:Int))
  (hr:cJ (fun i=>mf (nm.getD i 0)) (fun x=>x<nm.length/\SS[j] x=true) r):cJ mf (da L F z m) r:=by
 rcases hs with ⟨h1,_⟩|⟨j',E9,e,hS⟩
 ·omega
 have e2:j'=j:=by omega
 subst e2;refine cJ.nam h.nd (h.names z m) (hr.congr (fun x=>⟨fun hx=>(hS x hx.1).1 hx.2,fun hx=>?_⟩));have aq:x<nm.length:=da.lt (f:=f0) (List.getElem?_eq_some_iff.1 h.hf).1 (fun e he=>(h.bd e he).2) m hx;exact⟨aq,(hS x aq).2 hx⟩
theorem nv.src{S:Nat->Prop}{S':List (Nat->Bool)}(h:nv M S SS r S'):∀i (hi:i<S'.length),SS.length<=i->(∃x,x<M/\S x)/\∀x,x<M->(S'[i] x=true↔S x):=by
 intro i hi hl;rcases h with ⟨_,_,rfl⟩|⟨h0,j,_,⟨hj,LI⟩,rfl|⟨f,rfl,rfl,_⟩⟩
 ·omega
 ·omega
 have:i=SS.length:=by simp at hi;omega
 subst this;exact⟨h0,LI⟩
theorem iG.src{M:Nat}{T:Nat->Nat->Prop}{SS S':List (Nat->Bool)}{c:Nat}{row:List Int}(h:iG M T SS c row S'):∀i (hi:i<S'.length),SS.length<=i->∃d,d<c/\(∃x,x<M/\T d x)/\∀x,x<M->(S'[i] x=true↔T d x):=by
 induction h with
 | zero=>intro i hi hl;omega
 | @succ c row S1 S2 r h0 h1 ih=>
  intro i hi hl;by_cases e:i<S1.length
  ·obtain⟨d,hd,h2,h3⟩:=ih i e hl;refine⟨d,by omega,h2,fun x hx=>?_⟩;rw[<-h1.pre.getElem e];exact h3 x hx
  obtain⟨h2,h3⟩:=h1.src i hi (by omega);exact⟨c,by omega,h2,h3⟩
theorem iW.src{M C:Nat}{T:(Nat->Bool)->Nat->Nat->Prop}{S0 S':List (Nat->Bool)}{k:Nat}{R:List (List Int)}(h:iW M C T S0 k R S'):∀i (hi:i<S'.length),S0.length<=i->∃(i':Nat) (hi':i'<S'.length) (d:Nat),i'<i/\d<C/\(∃x,x<M/\T S'[i'] d x)/\∀x,x<M->(S'[i] x=true↔T S'[i'] d x):=by
 induction h with
 | zero=>intro i hi hl;omega
 | @succ k R row S1 S2 h0 hk h1 ih=>
  intro i hi hl;by_cases e:i<S1.length
  ·obtain⟨i',hi',d,aq,hd,h2,h3⟩:=ih i e hl;refine⟨i',Nat.lt_of_lt_of_le hi' h1.pre.length_le,d,aq,hd,?_,fun x hx=>?_⟩
   ·rw[<-h1.pre.getElem hi'];exact h2
   rw[<-h1.pre.getElem e,<-h1.pre.getElem hi'];exact h3 x hx
  obtain⟨d,hd,h2,h3⟩:=h1.src i hi (by omega);refine⟨k,Nat.lt_of_lt_of_le hk h1.pre.length_le,d,by omega,hd,?_,fun x hx=>?_⟩
  ·rw[<-h1.pre.getElem hk];exact h2
  rw[<-h1.pre.getElem hk];exact h3 x hx
theorem Vp(K:Nat->Lit):0<dA K 256:=by
 have h:=FZ K 0 256 (by omega);omega
structure kc (w:World)(cD:Array Value)(K:Nat->Lit)(R:List (List Int))(ms:List Int)(C:Nat):Prop where
 cl:∀j,j<256->cD[j]?=some (.int .u8 (cls K j))
 nx:∃vN gs,cD[256]?=some vN/\rI w 0 [] vN C gs R
 dt:∃vK,cD[257]?=some vK/\w.ownsRow 0 3 1 vK ms.length (ints ms)
 rl:∀r∈R,r.length=C
theorem JH(w:World)(b:Nat)(cs:Array Value):Kept [] [b] w (w.setRow b cs):=fun k o hk _ hn=>by
 rw[setRow_other w b k cs (by simpa using hn)]
 exact hk
theorem kc.setRow{b:Nat}{lX:Array Value}(h:kc w cD K R ms C)(hb:St w 101 b lX):kc (w.setRow b cs) cD K R ms C:=by
 obtain⟨vN,gs,h1,h2⟩:=h.nx;obtain⟨vK,h3,h4⟩:=h.dt;have k:=JH w b cs;refine⟨h.cl,⟨vN,gs,h1,⟨gk h2.own k (by simp) (fun g e hm=>eI h2.own hb (by decide) g e (List.mem_singleton.1 hm)),h2.len,fun i hi hi'=>⟨(h2.row i hi hi').1.kept k (by simp) (fun hm=>(h2.row i hi hi').1.ne hb (by decide) (List.mem_singleton.1 hm)),by simp⟩⟩⟩,
  ⟨vK,h3,gk h4 k (by simp) (fun g e hm=>eI h4 hb (by decide) g e (List.mem_singleton.1 hm))⟩,h.rl⟩
theorem kc.rows(h:kc w cD K R ms C):∃a c A,cD[256]?=some (.slice a R.length c)/\oP w a R.length A (fun _=>C) (fun _=>C) (fun i x=>(R.getD i []).getD x 0):=by
 obtain⟨vN,gs,h1,h2⟩:=h.nx;have hN:=h2.own;obtain⟨aN,cN,rfl⟩:=cy hN;refine⟨aN,cN,fun i=>some ⟨gs.getD i 0,0,none⟩,h1,fun h0=>?_⟩;obtain⟨g,rfl,_,hg,hc⟩:=fG hN h0;refine⟨g,0,rfl,hg,fun i hi=>?_⟩;have Od:i<gs.length:=by rw[h2.len];exact hi
 obtain⟨hs,_⟩:=h2.row i Od hi;have xL:=h.rl _ (getElem_mem hi);refine⟨?_,fun h1=>⟨gs.getD i 0,0,rfl,?_,fun j hj=>?_⟩⟩
 ·rw[zero_add,(hc i (by omega)).1];simp[getD_eq_getElem?_getD,Od]
 ·have:=hs.lt;simpa [getD_eq_getElem?_getD,Od] using this
 have Wq:gs.getD i 0=gs[i]:=by simp[getD_eq_getElem?_getD,Od]
 rw[zero_add,Wq,hs.at_];have hj2:j<R[i].length:=by rw[xL];exact hj
 simp[ints,getD_eq_getElem?_getD,hi,hj2]
theorem kc.marks(h:kc w cD K R ms C):∃a c,cD[257]?=some (.slice a ms.length c)/\lT w a ms.length (fun i=>ms.getD i 0):=by
 obtain⟨vK,h3,h4⟩:=h.dt;obtain⟨a,c,rfl⟩:=cy h4;refine⟨a,c,h3,fun h0=>?_⟩;obtain⟨g,rfl,_,hg,hc⟩:=fG h4 h0;refine⟨g,0,rfl,hg,fun j hj=>?_⟩;rw[zero_add,(hc j (by omega)).1];simp[ints,getD_eq_getElem?_getD,hj]
def tP(L:List En)(F:Nat)(mf:Nat->Int)(w:World)(e:Ending)(w':World):Prop:=
 ∃(cD:Array Value) (er:Int) (nm:List Nat) (L':List En) (f0:Nat) (s0:Nat->Bool) (k:Nat) (R:List (List Int)) (SS:List (Nat->Bool)),e=.returned (.tuple #[.agg cD,.int .i64 er])/\ϐ w w'/\Made L F nm L' f0 s0 k R SS/\cD.size=258/\(∀v∈cD.toList,v.oneCell'=true)/\
  ((er=6/\2000<SS.length/\cD=zC 101)\/(er=0/\SS.length=k/\k<=2000/\∃ms,kc w' cD (dM L) R ms (rl (dM L) 256).length/\ms.length=k/\∀j (h:j<SS.length) (h2:j<ms.length),cJ (fun i=>mf (nm.getD i 0)) (fun x=>x<nm.length/\SS[j] x=true) ms[j]))
theorem nv.start{S:Nat->Prop}{ki:List (Nat->Bool)}(h:nv M S [] r ki)(h0:∃x,x<M/\S x):∃f,ki=[f]/\∀x,x<M->(f x=true↔S x):=by
 rcases h with ⟨h1,_,_⟩|⟨_,j,_,⟨hj,LI⟩,rfl|⟨f,rfl,rfl,_⟩⟩
 ·obtain⟨x,hx,hs⟩:=h0;exact absurd hs (h1 x hx)
 ·simp at hj
 exact⟨f,rfl,fun x hx=>LI x hx⟩
theorem mB.dfa{D:List ((Nat->Bool) × Nat)}{l:List Nat}{vL vK vN:Value}{gs:List Nat}
  (h:mB B bm gI bM m M C bn K L mk SS ms D R n cs l vL vS vK vN gs w) (hR:∀r∈R,r.length=C):
  ∃cD:Array Value,cD.size=258/\(∀v∈cD.toList,v.oneCell'=true)/\(∀j v,cD.toList[j]?=some v->w.cell? ((⟨bm,1,none⟩:Addr).add j)=some v)/\ms.length=SS.length/\kc w cD K R ms C:=by
 have WM:=h.inv.len;have hN:=h.nx.own;have hK:=h.t.ok;obtain⟨aN,cN,rfl⟩:=cy hN;obtain⟨aK,cK,rfl⟩:=cy hK;refine⟨((range 256).map (fun j=>Value.int .u8 (cls K j))++[Value.slice aN R.length cN,Value.slice aK SS.length cK]).toArray,by simp,fun v hv=>?_,fun j v hj=>?_,WM,⟨fun j hj=>?_,⟨.slice aN R.length cN,gs,by simp[getElem?_append],⟨jH hN (zero_le _),h.nx.len,fun i hi hi'=>⟨(h.nx.row i hi hi').1,by simp⟩⟩⟩,⟨.slice aK SS.length cK,by simp[getElem?_append],by rw[WM];exact jH hK (zero_le _)⟩,hR⟩⟩
 ·rcases List.mem_append.1 hv with hv|hv
  ·obtain⟨j,_,rfl⟩:=List.mem_map.1 hv;rfl
  simp only[List.mem_cons,List.not_mem_nil,or_false] at hv;rcases hv with rfl|rfl <;> rfl
 ·have e:(⟨bm,1,none⟩:Addr).add j=⟨bm,1+j,none⟩:=by unfold Addr.add;split <;> simp_all
  have hj2:j<258:=by
   have:=(List.getElem?_eq_some_iff.1 hj).1;simpa using this
  rw[e,h.a.r.other (1+j) (by omega)];by_cases e1:j<256
  ·rw[h.cl j e1,<-hj];simp[getElem?_append,e1]
  by_cases e2:j=256
  ·subst e2;rw[show 1+256=257 from rfl,h.cN,<-hj];simp[getElem?_append]
  have e3:j=257:=by omega
  subst e3;rw[show 1+257=258 from rfl,h.t.cK,<-hj];simp[getElem?_append]
 simp[getElem?_append,hj]
theorem zqU(kf bV:Nat)(mf:Nat->Int)(S0 T:Int)(F:Nat)(L:List En)(a:Option Addr)(n c:Nat)(w:World)(HC:∀(args:Array Value) (W:World),(callFunc kf args).run prog W=.ok (.enter kf args) W)
  (HM:∀W,ϐ w W->∀x,x<=9223372036854775807->Calls prog kf #[.int .i64 ((x:Nat):Int),.pointer (some ⟨bV,0,none⟩)] W fun e w'=>e=.returned (.int .i64 (mf x))/\w'=W) (Bm:∀x,-1<=mf x)
  (hL:lC w a (L.map En.z)) (hn:L.length=n) (dZ:n<=6400) (wG:(cY (L.map En.z)).length<=1000) (hF:F<=9223372036854775807) (hE:∀e∈L,e.f<=9223372036854775807/\e.t<=9223372036854775807) (hr:xY S0 (L.map En.z) (F:Int) T=true):
  Calls prog 95 #[.agg #[.int .i64 S0,.slice a n c,.int .i64 (F:Int),.int .i64 T],.func (.func kf) #[] #[.pointer (some ⟨bV,0,none⟩)]] w (tP L F mf w):=by
 have Kl:=hid (fun (W:World) (hb:ϐ w W)=>zkB kf bV mf S0 T F L a n c W HC (fun W' hb'=>HM W' (hb.trans (hb'.mono hb.size))) (hL.below hb) hn dZ wG hF hE);have Ye:Hid (∀(W:World),ϐ w W->Calls prog 116 #[.agg #[.int .i64 S0,.slice a n c,.int .i64 (F:Int),.int .i64 T]] W fun e w'=>e=.returned (.bool true)/\ϐ W w'):=fun W hb=>by
  have:=zlz S0 (F:Int) T a n c (L.map En.z) W (hL.below hb) (by rw[length_map];exact hn) (by unfold maxLen;omega);rwa [hr] at this
 have HH:=ξ hn Bm hr;clear HC HM hL hn hE hr Bm;go_in;go_wp2_with (refine tq rfl 101 rfl (zC 101) (o8 _) ?_);go_upto_region 1 with fail;have h2:St ((w.alloc (.cells #[.int .i64 S0,.slice a n c,.int .i64 (F:Int),.int .i64 T] 119)).alloc (.cells (zC 101) 101)) 119 w.heap.size #[.int .i64 S0,.slice a n c,.int .i64 (F:Int),.int .i64 T]:=(St.new w _ _).alloc _;have h4:St ((w.alloc (.cells #[.int .i64 S0,.slice a n c,.int .i64 (F:Int),.int .i64 T] 119)).alloc (.cells (zC 101) 101)) 101 (w.heap.size+1) (zC 101):=by
  have:=St.new (w.alloc (.cells #[.int .i64 S0,.slice a n c,.int .i64 (F:Int),.int .i64 T] 119)) 101 (zC 101);simpa using this
 have nW:ϐ w ((w.alloc (.cells #[.int .i64 S0,.slice a n c,.int .i64 (F:Int),.int .i64 T] 119)).alloc (.cells (zC 101) 101)):=(al w _).trans ((al _ _).mono (by simp));generalize (w.alloc (.cells #[.int .i64 S0,.slice a n c,.int .i64 (F:Int),.int .i64 T] 119)).alloc (.cells (zC 101) 101)=W0 at h2 h4 nW⊢;obtain⟨b4,fV⟩:=Ξ (w.heap.size+1)
 rw[fV] at h4;rw[fV];obtain⟨r0,r1,r2,r3⟩:=h2.eW;have H0:=ψ h2 h4 nW fV;have qv:=hid (Ye.o W0 nW);clear h2 h4 nW fV;go_wp2_with fail;refine qv.o.mono ?_;rintro e w1 ⟨rfl,mZ⟩;have ll:ϐ w w1:=H0.o.2.2.1.trans (mZ.mono H0.o.2.2.1.size);have s2:=H0.o.1.ae mZ;have H1:=ξ s2 (H0.o.2.1.ae mZ) ll;have uh:=hid (Kl.o w1 ll);clear r0 r1 r2 r3;obtain⟨r0,r1,r2,r3⟩:=s2.eW;clear mZ ll s2 qv Ye Kl;go_wp2_with fail;refine uh.o.mono ?_;rintro e w2 ⟨bn,f0,gM,cM,gF,cF,gS,cS,nm,L',aF,aS,DZ,G4,csA,rfl,nO,Ug,tj,zE,uG,La,Dt,kG,sG,Za,OK,uw⟩;obtain⟨m,hm⟩:=Ξ ((nm.length+7) / 8)
 have hlL:L.length=L'.length:=by rw[Dt,length_map]
 have QY:L'.length<=6400:=by have:=HH.o.1;omega
 have K9:nm.length<=12900:=by have:=HH.o.1;omega
 have Lq:=hid (zg4 (dM L) L' (fun i=>mf (nm.getD i 0)) csA bn gM nm.length cM m (rl (dM L) 256).length w2 uG zE.ig K9 hm);have nR:=hid (Zz Ug (Zz tj (Zz zE (Zz La (Zz Dt (Zz kG (Zz sG (Zz Za (Zz uw hm)))))))));have H2:=ζ (H1.o.2.1.ae nO) (H1.o.2.2.trans (nO.mono H1.o.2.2.size));have bQ:bn<w2.heap.size:=Ug.hY.1;have ur:=nO.size;have Fz:w.heap.size<=w2.heap.size:=by have:=H1.o.2.2.size;omega
 clear nO Ug tj zE uG La Dt kG sG Za uw hm OK hlL uh r0 r1 r2 r3;go_wp2_with fail;refine Lq.o.mono ?_;rintro e w3 ⟨bm,gI,bM,cK,rfl,Me,qG⟩;have c0:w3.cell? ⟨bm,0,none⟩=some (.pointer (some ⟨bn,0,none⟩)):=(Me.a.r.other 0 (by decide)).trans Me.c0;have c1:w3.cell? ⟨bn,256,none⟩=some (.int .i64 (f0:Int)):=(qG.cell (p:=⟨bn,256,none⟩) bQ).trans nR.o.2.2.2.1;have dY:=qG.size;have Gk:=hid (Me.ae (al w3 (.cells #[.int .i64 (f0:Int)] 3)));have lk:=hid qG;have ow:=Me.yp;have DX:f0<nm.length:=(List.getElem?_eq_some_iff.1 nR.o.2.2.2.2.2.2.2.1).1;have El:ϐ w2 (w3.alloc (.cells #[.int .i64 (f0:Int)] 3)):=qG.trans ((al w3 _).mono dY);have jM:=hid (Zw (w3.alloc (.cells #[.int .i64 (f0:Int)] 3)) w2.heap.size (jy bm gI bM (.slice none 0 0) (.slice none 0 0) (.slice none 0 0)) bm gI m nm.length bM bn gM cM gF cF aF DZ L' (nR.o.1.below El) nR.o.2.2.2.2.2.2.1 (by omega) cK (fun i=>mf (nm.getD i 0)) (nR.o.2.2.1.below El) (fun i _=>HH.o.2.1 _) Gk.o.c0 (by omega) nR.o.2.2.2.2.2.2.2.2.2 _ [] (.slice none 0 0) (.slice none 0 0) (.slice none 0 0) 0 [] [] [] (by simp) (by omega) (by simp)
  (some ⟨w3.heap.size,0,none⟩) 1 1 [f0] rfl (by omega) (fun x hx=>by rw[List.mem_singleton.1 hx];exact DX) (fun W hW h0=>by
   have hg:w3.heap.size<(w3.alloc (.cells #[.int .i64 (f0:Int)] 3)).heap.size:=by simp
   have hn:w3.heap.size∉jy bm gI bM (.slice none 0 0) (.slice none 0 0) (.slice none 0 0):=fun hm=>Nat.lt_irrefl _ (ow _ hm)
   have h1:=hW _ _ (Array.getElem?_eq_getElem hg) (fun _ _ _ _=>by simp) hn
   refine⟨w3.heap.size,0,rfl,(Array.getElem?_eq_some_iff.1 h1).1,fun j hj=>?_⟩
   obtain rfl:j=0:=by simp at hj;omega
   rw[hW.oz hn hg]
   exact (St.new w3 3 #[.int .i64 (f0:Int)]).at_ 0) _ Gk.o.a.r Gk.o.t Gk.o.inv)
 clear Me qG ow El Lq;go_wp2_with fail;refine jM.o.mono ?_;rintro e w5 rQ;obtain⟨r,SS1,ms1,D1,n1,cs1,l1,M1,I4,vK1,rfl,BR,hAdd,_,eB,_⟩:=Gk.o.close rQ ⟨f0,DX,.base (by simp)⟩;obtain⟨s0,rfl,oY⟩:=hAdd.start ⟨f0,DX,.base (by simp)⟩;have dX:Hid (∀x,x<nm.length->(s0 x=true↔FR L' (fun y=>y=f0) x)):=fun x hx=>(oY x hx).trans (FR.congr (fun y=>by simp) x)
 have Ek:=hid BR;have pt:=hid ((lk.o.trans ((al w3 _).mono dY)).trans eB);clear rQ BR hAdd eB oY c0 c1 jM Gk;have hlC:(rl (dM L) 256).length<=256:=by rw[A8];exact N1 _ _
 have hCp:0<(rl (dM L) 256).length:=by
  rw[A8];exact Vp _
 go_wp2;go_loopw [7] (fun v wq=>∃(k:Nat) (SS:List (Nat->Bool)) (ms:List Int) (D:List ((Nat->Bool) × Nat)) (R:List (List Int)) (nn:Nat) (cs:Array Value) (l:List Nat) (vL vS vK vN:Value) (gs:List Nat),v=.int .i64 k/\k<=SS.length/\SS.length<=2000/\
  Hid (mB w2.heap.size bm gI bM m nm.length (rl (dM L) 256).length bn (dM L) L' (fun i=>mf (nm.getD i 0)) SS ms D R nn cs l vL vS vK vN gs wq)/\Hid (iW nm.length (rl (dM L) 256).length (Gs L' nm.length (qE (dM L))) [s0] k R SS)/\Hid (ϐ w2 wq)) (fun v _=>2001-(intOf v).toNat)
 ·exact⟨0,[s0],ms1,D1,[],n1,cs1,l1,M1,I4,vK1,_,[],rfl,by simp,by simp,Ek,iW.zero,pt⟩
 clear Ek pt;obtain⟨k,SS,ms,D,R,nn,cs,l,vL,vS,vK,vN,gs,rfl,hk,hS,HM,OC,HB⟩:=hrel;obtain⟨aS1,cS1,rfl⟩:=cy HM.o.t.os;have d0:wr.cell? ⟨bm,259,none⟩=some (.slice aS1 SS.length cS1):=(HM.o.a.r.other 259 (by decide)).trans HM.o.t.cS;have hRk:=OC.o.len;have iv:St wr 101 b4 (zC 101):=H2.o.1.below HB.o H2.o.1.lt;by_cases aq:k<SS.length
 ·have hk63:k<3000:=by omega
  have VV:=hid (zoQ w2.heap.size bm gI bM m nm.length (rl (dM L) 256).length bn gM cM gF cF gS cS nn k aF aS DZ G4 (qE (dM L)) (dM L) L' (fun i=>mf (nm.getD i 0)) wr (nR.o.1.below HB.o) (nR.o.2.1.below HB.o) (nR.o.2.2.1.below HB.o) nR.o.2.2.2.2.2.2.1 QY (fun i _=>HH.o.2.1 _) (by rw[<-A8]) hlC K9 nR.o.2.2.2.2.2.2.2.2.2 SS ms D R cs l vL _ vK vN gs HM.o aq (by omega) (by omega));have Pw:=hid aq;obtain⟨q,hq⟩:=Ξ SS.length
  have i1:(k:Int)<q:=by omega
  rw[hq] at d0;have HQ:=hid hq;clear hq hk;go_wp2_with fail;refine VV.o.mono ?_;rintro e w6 ⟨row,Cs,S7,D2,n2,Tp,l2,rX,Gb,JX,vN2,gs2,rfl,qT,EI,rv⟩;obtain⟨RD,cS2,rfl⟩:=cy qT.t.os;have d1:w6.cell? ⟨bm,259,none⟩=some (.slice RD Cs.length cS2):=(qT.a.r.other 259 (by decide)).trans qT.t.cS;have Ln:Hid (iW nm.length (rl (dM L) 256).length (Gs L' nm.length (qE (dM L))) [s0] (k+1) (R++[row]) Cs):=iW.succ OC.o Pw.o EI;have ve:=hid qT;have p8:=hid (HB.o.trans rv);have Ey:St w6 101 b4 (zC 101):=H2.o.1.below p8.o H2.o.1.lt;have jA:=hid EI.pre.length_le;obtain⟨q2,hq2⟩:=Ξ Cs.length
  have wC:=hid hq2;rw[hq2] at d1;clear qT EI rv hq2 d0 iv VV;by_cases iZ:2000<q2
  ·have i2:(2000:Int)<q2:=(by omega);have HF:Hid (tP L F mf w (.returned (.tuple #[.agg (zC 101),.int .i64 6])) (w6.setRow b4 (zC 101))):=by
    refine⟨zC 101,6,nm,L',f0,s0,k+1,R++[row],Cs,rfl,nY (H2.o.2.trans (p8.o.mono Fz)) (by have:=H0.o.2.2.2;omega) _,⟨nR.o.2.2.2.2.1,nR.o.2.2.2.2.2.1,nR.o.2.2.2.2.2.2.1,nR.o.2.2.2.2.2.2.2.1,nR.o.2.2.2.2.2.2.2.2.1,dX.o,Ln.o⟩,kr,GP,inl ⟨rfl,by rw[wC.o];exact iZ,rfl⟩⟩
   have fC:=hid Ey;clear Ey;go_wp2_with (first|(refine Dn rfl 101 _ rfl #[] ?hp (.agg (zC 101)) ?hb ?_)|(refine qD rfl 101 _ _ rfl b4 101 (zC 101) (zC 101) rfl rfl fC.o rfl (by rw[iN,kr]) GP ?_))
   case hb=>exact Sa _
   refine bodyPost_ret (ER rfl _ _ b4 (zC 101) _ rfl fC.o.setRow.part underlying101 rfl (by rw[iN,kr])) rfl ?_;exact HF.o
  have i2:¬((2000:Int)<q2):=by omega
  clear Ey;go_wp2;go_roundw
  ·exact⟨k+1,Cs,S7,D2,R++[row],n2,Tp,l2,rX,_,JX,vN2,gs2,by go_num,by have:=jA.o;have:=Pw.o;omega,by have:=wC.o;omega,ve,Ln,p8⟩
  simp[intOf];have:=Pw.o;omega
 have hkq:k=SS.length:=by omega
 obtain⟨cD,gH,Fs,dy,oD,hD⟩:=HM.o.dfa (fun r hr=>OC.o.tJ r hr);have HF:Hid (tP L F mf w (.returned (.tuple #[.agg cD,.int .i64 0])) (wr.setRow b4 cD)):=by
  refine⟨cD,0,nm,L',f0,s0,k,R,SS,rfl,nY (H2.o.2.trans (HB.o.mono Fz)) (by have:=H0.o.2.2.2;omega) _,⟨nR.o.2.2.2.2.1,nR.o.2.2.2.2.2.1,nR.o.2.2.2.2.2.2.1,nR.o.2.2.2.2.2.2.2.1,nR.o.2.2.2.2.2.2.2.2.1,dX.o,OC.o⟩,gH,Fs,inr ⟨rfl,hkq.symm,by omega,ms,hD.setRow iv,by omega,HM.o.inv.dt⟩⟩
 have fC:=hid iv;have HX:=ξ gH Fs dy;have i1:¬((k:Int)<(SS.length:Int)):=by omega
 clear iv hD oD gH Fs dy hkq aq hk;go_wp2_with (first|(refine tH rfl 101 _ rfl ⟨bm,1,none⟩ rfl cD _ HX.o.2.2 underlying101 rfl (by rw[iN,HX.o.1]) ?_)|(refine qD rfl 101 _ _ rfl b4 101 (zC 101) cD rfl rfl fC.o (by rw[kr,HX.o.1]) (by rw[iN,HX.o.1]) HX.o.2.1 ?_));refine bodyPost_ret (ER rfl _ _ b4 cD _ rfl fC.o.setRow.part underlying101 rfl (by rw[iN,HX.o.1])) rfl ?_;exact HF.o
theorem zic(bV:Nat)(S F:Int)(T:Nat)(a:Option Addr)(n c:Nat)(w:World)(hS:St w 119 bV #[.int .i64 S,.slice a n c,.int .i64 F,.int .i64 (T:Int)])(x:Nat)(hx:x<=9223372036854775807)(hT:T<=9223372036854775807):
  Calls prog 96 #[.int .i64 (x:Int),.pointer (some ⟨bV,0,none⟩)] w fun e w'=>e=.returned (.int .i64 (if x=T then 0 else -1))/\w'=w:=by
 obtain⟨c0,c1,c2,c3⟩:=hS.eW;by_cases e:x=T
 ·rw[if_pos e];subst e;go_in;go_wp2;go_ret;exact⟨rfl,rfl⟩
 rw[if_neg e];have i1:¬((x:Int)=T):=by omega
 go_in;go_wp2;go_ret;exact⟨rfl,rfl⟩
theorem tP.put{W0:World}{er:Int}{f0:Nat}{b4:Nat}
  (hB:ϐ w W0) (h1:ϐ W0 w') (h2:Made L F nm L' f0 s0 k R SS) (h3:cD.size=258) (h4:∀v∈cD.toList,v.oneCell'=true)
  (h5:(er=6/\2000<SS.length/\cD=zC 101)\/(er=0/\SS.length=k/\k<=2000/\∃ms,kc w' cD (dM L) R ms (rl (dM L) 256).length/\ms.length=k/\∀j (h:j<SS.length) (h2:j<ms.length),cJ (fun i=>mf (nm.getD i 0)) (fun x=>x<nm.length/\SS[j] x=true) ms[j]))
  (cU:St w' 101 b4 (zC 101)) (fV:w.heap.size<=b4):tP L F mf w (.returned (.tuple #[.agg cD,.int .i64 er])) (w'.setRow b4 cD):=by
 refine⟨cD,er,nm,L',f0,s0,k,R,SS,rfl,nY (hB.trans (h1.mono hB.size)) fV _,h2,h3,h4,?_⟩;rcases h5 with h|⟨e1,e2,e3,ms,h6,h7,h8⟩
 ·exact inl h
 exact inr ⟨e1,e2,e3,ms,h6.setRow cU,h7,h8⟩
theorem zmR:∀(args:Array Value) (W:World),(callFunc 96 args).run prog W=.ok (.enter 96 args) W:=fun _ _=>by rfl
theorem zqV(S0:Int)(F T:Nat)(L:List En)(a:Option Addr)(n c:Nat)(w:World)
  (hL:lC w a (L.map En.z)) (hn:L.length=n) (dZ:n<=6400) (wG:(cY (L.map En.z)).length<=1000) (hF:F<=9223372036854775807) (hT:T<=9223372036854775807) (hE:∀e∈L,e.f<=9223372036854775807/\e.t<=9223372036854775807) (hr:xY S0 (L.map En.z) (F:Int) (T:Int)=true):
  Calls prog 82 #[.agg #[.int .i64 S0,.slice a n c,.int .i64 (F:Int),.int .i64 (T:Int)]] w (tP L F (fun x=>if x=T then 0 else -1) w):=by
 have gP:∀(fn:Fn) (first cap:Array Value) (w:World),(makeFunc fn first cap).run prog w=.ok (.func fn first cap) w:=fun _ _ _ _=>rfl
 have HD:=hid (fun (W:World) (hb:ϐ w W) (bV:Nat) (hS:St W 119 bV #[.int .i64 S0,.slice a n c,.int .i64 ((F:Nat):Int),.int .i64 ((T:Nat):Int)])=>zqU 96 bV (fun x=>if x=T then 0 else -1) S0 ((T:Nat):Int) F L a n c W zmR (fun W' hb' x hx=>zic bV S0 ((F:Nat):Int) T a n c W' (hS.ae hb') x hx hT) (fun x=>by split <;> omega) (hL.below hb) hn dZ wG hF hE hr);clear hL hn hE hr;go_in;go_wp2_with (refine tq rfl 101 rfl (zC 101) (o8 _) ?_);go_upto_region 1 with fail;have h2:St ((w.alloc (.cells #[.int .i64 S0,.slice a n c,.int .i64 (F:Int),.int .i64 (T:Int)] 119)).alloc (.cells (zC 101) 101)) 119 w.heap.size #[.int .i64 S0,.slice a n c,.int .i64 (F:Int),.int .i64 (T:Int)]:=(St.new w _ _).alloc _;have h4:St ((w.alloc (.cells #[.int .i64 S0,.slice a n c,.int .i64 (F:Int),.int .i64 (T:Int)] 119)).alloc (.cells (zC 101) 101)) 101 (w.heap.size+1) (zC 101):=by
  have:=St.new (w.alloc (.cells #[.int .i64 S0,.slice a n c,.int .i64 (F:Int),.int .i64 (T:Int)] 119)) 101 (zC 101);simpa using this
 have nW:ϐ w ((w.alloc (.cells #[.int .i64 S0,.slice a n c,.int .i64 (F:Int),.int .i64 (T:Int)] 119)).alloc (.cells (zC 101) 101)):=(al w _).trans ((al _ _).mono (by simp));generalize (w.alloc (.cells #[.int .i64 S0,.slice a n c,.int .i64 (F:Int),.int .i64 (T:Int)] 119)).alloc (.cells (zC 101) 101)=W0 at h2 h4 nW⊢;obtain⟨b4,fV⟩:=Ξ (w.heap.size+1)
 rw[fV] at h4;rw[fV];obtain⟨r0,r1,r2,r3⟩:=h2.eW;have H0:=ξ h4 nW fV;have Wo:=hid (HD.o W0 nW w.heap.size h2);clear h2 h4 nW fV;go_wp2_with fail;refine Wo.o.mono ?_;rintro e w1 ⟨cD,er,nm,L',f0,s0,k,R,SS,rfl,h1,h2,h3,h4,h5⟩;have cU:=H0.o.1.ae h1;have HF:=hid (tP.put (mf:=fun x=>if x=T then 0 else -1) H0.o.2.1 h1 h2 h3 h4 h5 cU (by have:=H0.o.2.2;omega));have fC:=hid cU;have HX:=ζ h3 h4;clear h1 h2 h3 h4 h5 cU HD Wo r0 r1 r2 r3;go_wp2_with (refine qD rfl 101 _ _ rfl b4 101 (zC 101) cD rfl rfl fC.o (by rw[kr,HX.o.1]) (by rw[iN,HX.o.1]) HX.o.2 ?_);refine bodyPost_ret (ER rfl _ _ b4 cD _ rfl fC.o.setRow.part underlying101 rfl (by rw[iN,HX.o.1])) rfl ?_;exact HF.o
structure Both (W:World)(RC Ts cA:Array Value)(n m:Nat)(a1 a2:Option Addr)(c1 c2:Nat)(A1 A2:Nat->Option Addr)(C1 C2 l1 l2:Nat->Nat)(z1 z2:Nat->Nat->Int)(b1 b2:Option Addr)(d1 d2:Nat)(y1 y2:Nat->Int):Prop where
 sz:cA.size=256
 cl:∀j,j<256->RC[j]?=cA[j]?/\Ts[j]?=cA[j]?/\∃v,cA[j]?=some (.int .u8 v)
 n1:RC[256]?=some (.slice a1 n c1)
 n2:Ts[256]?=some (.slice a2 n c2)
 r1:oP W a1 n A1 C1 l1 z1
 r2:oP W a2 n A2 C2 l2 z2
 eq:zrR n n l1 l2 z1 z2
 le:n<=2000/\(∀i,l1 i<=256)/\∀i,l2 i<=256
 m1:RC[257]?=some (.slice b1 m d1)
 m2:Ts[257]?=some (.slice b2 m d2)
 mz1:lT W b1 m y1
 mz2:lT W b2 m y2
 ye:m<=2000/\∀x,x<m->y1 x=y2 x
theorem bK.uW{ts te sz:Nat}{v' u:Value}{vs:Nat->Value}{len:Nat->Nat}(h:bK w B ts te sz v M vs len xs)(ht:te≠ts)(hu:w.ownsRow B te sz u (len M) (xs M))(hs:∀i,i<M->∀b,(vs i).ownBlock=some b->u.ownBlock≠some b)
  (ho:w'.ownsRow B ts 1 v' (M+1) ((range M).map vs++[u])) (hg:w.grownBy w' v.ownBlock):bK w' B ts te sz v' (M+1) (fun j=>if j=M then u else vs j) len xs:=by
 refine⟨?_,fun i hi=>?_,fun i j hi hj hij b=>?_⟩
 ·have e:(range (M+1)).map (fun j=>if j=M then u else vs j)=(range M).map vs++[u]:=by
   rw[List.range_succ,List.map_append];congr 1
   ·refine(List.map_congr_left fun j hj=>?_);have:j<M:=(by simpa using hj);rw[if_neg (by omega)]
   simp
  rw[e];exact ho
 ·by_cases e:i=M
  ·subst e;simp only[if_pos rfl];exact rS hu hg (fun b e1 e2=>iO hu h.own ht b e1 e2.symm)
  simp only[if_neg e];exact rS (h.row i (by omega)) hg (fun b e1 e2=>iO (h.row i (by omega)) h.own ht b e1 e2.symm)
 by_cases e1:i=M
 ·by_cases e2:j=M
  ·omega
  simp only[if_pos e1,if_neg e2];intro e3 e4;exact hs j (by omega) b e4 e3
 by_cases e2:j=M
 ·simp only[if_neg e1,if_pos e2];exact hs i (by omega) b
 simp only[if_neg e1,if_neg e2];exact h.sep i j (by omega) (by omega) hij b
theorem me{s:Nat}{xs:List Value}(ho:w.ownsRow B t s v n xs):∀g,v.ownBlock=some g->g<w.heap.size:=fun g e=>by
 obtain⟨c,fz,hc⟩:=qX ho g e
 exact (Array.getElem?_eq_some_iff.1 hc).1
section
variable {W0 : World}{z N C : Nat}{rp : List Nat}{vP vR : Value}{SS : List (Nat → Bool)}{vs : Nat → Value}{vN : Value}{R : List (List Int)}{ws : Nat → Value}{vO : Value}{ms : List Int}{vW : Value}{row : List Int}{w : World}
end
def wZ:Value->Option Addr
 | .slice a _ _=>a
 | _=>none
def yQ:Value->Nat
 | .slice _ _ c=>c
 | _=>0
theorem bK.zs{ws:Nat->Value}(h:bK w B 43 3 1 (.slice a k c) k ws (fun _=>C) (fun j=>ints (R.getD j [])))(hk:R.length=k)(hl:∀r∈R,r.length=C):
  oP w a k (fun i=>wZ (ws i)) (fun i=>yQ (ws i)) (fun _=>C) (fun i x=>(R.getD i []).getD x 0):=by
 intro h0;obtain⟨g,rfl,_,hg,hc⟩:=fG h.own h0;refine⟨g,0,rfl,hg,fun i hi=>?_⟩;obtain⟨ai,ci,e⟩:=cy (h.row i hi);have hr:=h.row i hi;refine⟨?_,fun h1=>?_⟩
 ·rw[zero_add,(hc i (by omega)).1];simp[hi,e,wZ,yQ]
 rw[e] at hr;obtain⟨g2,e2,_,Bu,gj⟩:=fG hr h1;refine⟨g2,0,by simp[e,wZ,e2],Bu,fun j hj=>?_⟩;rw[zero_add,(gj j (by simpa using hj)).1];have tV:i<R.length:=by omega
 have hj2:j<R[i].length:=by rw[hl _ (getElem_mem tV)];exact hj
 simp[ints,getD_eq_getElem?_getD,tV,hj2]
theorem U0{l:List Int}(h:w.ownsRow B 3 1 (.slice a n c) n (ints l))(hl:l.length=n):lT w a n (fun i=>l.getD i 0):=by
 intro h0;obtain⟨g,rfl,_,hg,hc⟩:=fG h h0;refine⟨g,0,rfl,hg,fun j hj=>?_⟩;rw[zero_add,(hc j (by omega)).1];have hj2:j<l.length:=by omega
 simp[ints,getD_eq_getElem?_getD,hj2]
