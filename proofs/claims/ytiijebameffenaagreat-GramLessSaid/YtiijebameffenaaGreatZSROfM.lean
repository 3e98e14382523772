import Derived.Test.YtiijebameffenaaGreatZRefClass
import Derived.Laws.CopyRow
import Derived.Laws.ResultCell
set_option linter.all false
set_option maxHeartbeats 2000000
set_option maxRecDepth 100000
open Go.Lib (hid)
namespace Go.Proofs.YtiijebameffenaaGreat
open Go.RowKit Go.Proofs.Tryz
open List (getD_eq_getElem?_getD getElem?_append getElem?_map getElem?_range getElem?_toArray getElem_mem length_map mem_append mem_singleton range replicate take_length)
open Nat (le_refl le_trans zero_add zero_le)
open Instr (build makeFunc sureAddr)
open Or (inl inr)
open Option (map_some)
open _root_.Array (getElem?_setIfInBounds_ne getElem?_toList)
open World (news_of_block ownsRow_nil)
open Sem (run_bind run_pure)
open Result (andThen_ok)
open Value (oneCell' ownBlock)
open Act (put)
variable {B C F M Mf Mm Ms bM bm bn c g gI i j k m n t x y:Nat}{K:Nat->Lit}{L L':List En}{Ls lc nm:List Nat}{P:Program}{R:List (List Int)}{SS:List (Nat->Bool)}{a:Option Addr}{cD csA:Array Value}{ct ms:List Int}{ev:Operand->Value}{fv sv:Nat->Value}{mf mk:Nat->Int}{ops:Array Oper}{r:Int}{s0:Nat->Bool}{v vF vM vS:Value}{w':World}{xs:Nat->List Value}
def qP(L:List Eg)(i:Nat):Nat->Bool:=(bP L).getD i (fun _=>false)
theorem zmK{w:World}{L:List Eg}(h:w.ownsRow B 146 4 (.slice a n c) n (zJ (bP L)))(hn:(bP L).length=n):lk w a n (qP L):=by
 intro h0;obtain⟨g,e,_,hg,hc⟩:=eR h (by omega);refine⟨g,0,e,hg,fun i hi=>?_⟩;have sK:i<(bP L).length:=by omega
 have AM:qP L i=(bP L)[i]:=by simp[qP,getD_eq_getElem?_getD,List.getElem?_eq_getElem sK]
 have rd:∀j,j<4->w.cell? ⟨g,i*4+j,none⟩=(iw (qP L i))[j]?:=fun j hj=>by rw[(hc _ (by omega)).1,zoB _ i sK j hj,AM]
 simp only[zero_add];exact⟨rd 0 (by omega),rd 1 (by omega),rd 2 (by omega),rd 3 (by omega)⟩
open Go.Maps Go.WideElems Go.ChangeMaps Go.MapKept
def cG(L:List En):Nat->Lit:=jv (qP (L.map En.z)) (bP (L.map En.z)).length
def SD(K:Nat->Lit)(w:World)(e:Ending)(w':World):Prop:=
 ∃(b7 b8 bL:Nat) (aR:Option Addr) (cR:Nat),e=.returned (.func (.func 170) #[] #[.pointer (some ⟨b8,0,none⟩),.pointer (some ⟨b7,0,none⟩)])/\(∀P,uZ w.heap.size b7 b8 bL 0 (rl K 256) aR cR P [] w')/\Below w.heap.size w w'/\w.heap.size<=bL
theorem zkW(K:Nat->Lit)(bn:Nat)(cs:Array Value)(w:World)(h:JH w w.heap.size bn K cs):Calls prog 151 #[.pointer (some ⟨bn,0,none⟩)] w (SD K w):=by
 have HF:=hid (zdX K w.heap.size bn cs w h);have zy:∀(fn:Fn) (first cap:Array Value) (w:World),(makeFunc fn first cap).run prog w=.ok (.func fn first cap) w:=fun _ _ _ _=>rfl
 have iJ:=@run_makeMap prog;clear h;go_enter func151,ntmps151;go_wp2_with fail;refine HF.out.mono ?_;rintro e w2 ⟨a,c,rfl,hO,hB⟩;have HZ:Hid (SD K w (.returned (.func (.func 170) #[] #[.pointer (some ⟨w2.heap.size+1+1,0,none⟩),.pointer (some ⟨w2.heap.size,0,none⟩)])) (((w2.alloc (.cells #[.slice a (cQ K 256) c] 76)).alloc (.map #[] 0)).alloc (.cells #[.map (some (w2.heap.size+1))] 219))):=by
  have k1:=al w2 (.cells #[.slice a (cQ K 256) c] 76);have k2:=al (w2.alloc (.cells #[.slice a (cQ K 256) c] 76)) (.map #[] 0);have k3:=al ((w2.alloc (.cells #[.slice a (cQ K 256) c] 76)).alloc (.map #[] 0)) (.cells #[.map (some (w2.heap.size+1))] 219);have hlen:(rl K 256).length=cQ K 256:=yR K 256;have hs:=hB.size;refine⟨w2.heap.size,w2.heap.size+1+1,w2.heap.size+1,a,c,rfl,fun P=>⟨?_,?_,?_,?_,fun d hd=>by simp at hd,⟨by omega,by simp;omega⟩,fun x hx=>?_⟩,?_,by omega⟩
  ·rw[hlen];exact ((St.new w2 _ _).aa k2).aa k3
  ·have:=St.new ((w2.alloc (.cells #[.slice a (cQ K 256) c] 76)).alloc (.map #[] 0)) 219 #[.map (some (w2.heap.size+1))];simpa using this
  ·rw[hlen];exact dp (dp (dp hO k1) k2) k3
  ·have h1:aD ((w2.alloc (.cells #[.slice a (cQ K 256) c] 76)).alloc (.map #[] 0)) 146 (w2.heap.size+1) 0 (LQ (rl K 256) []):=by
    have:=aD.made (w2.alloc (.cells #[.slice a (cQ K 256) c] 76)) 146 (LQ (rl K 256) []) (fun x y ⟨d,hd,_⟩=>by simp at hd);simpa using this
   exact h1.same (k3.block _ h1.lt)
  ·obtain⟨c,hc,rfl⟩:=List.getElem_of_mem hx;exact (X7 K 256 c hc).2
  exact ((hB.trans (k1.mono hs)).trans (k2.mono (by simp;omega))).trans (k3.mono (by simp;omega))
 clear hO hB;go_wp2;go_ret;exact HZ.out
def vA(v:Value):Option Addr:=match v with|.slice a _ _=>a|_=>none
def vC(v:Value):Nat:=match v with|.slice _ _ c=>c|_=>0
theorem gG.first{w:World}{cs:Array Value}(h:gG B bn Mm Mf Ms cs ct vM vF vS fv sv xs L w)(u:Value):
  gG B bn Mm Mf Ms (cs.setIfInBounds 256 u) ct vM vF vS fv sv xs L (w.setCell ⟨bn,256,none⟩ u)/\iq B bn (ml bn Mf Ms vM vF vS fv sv) (ml bn Mf Ms vM vF vS fv sv) w (w.setCell ⟨bn,256,none⟩ u):=by
 have hk:Kept [] [bn] w (w.setCell ⟨bn,256,none⟩ u):=(Kept.refl _ _ _).setCell _ _ (inl (by simp));have hne:∀{t s n:Nat}{v:Value}{ys:List Value},w.ownsRow B t s v n ys->t≠165->∀b,v.ownBlock=some b->b∉[bn]:=fun ho ht b e hm=>dG ho h.sn ht b e (List.mem_singleton.1 hm)
 refine⟨⟨?_,by simp[h.sz],fy h.om hk (by simp) (hne h.om (by decide)),h.fr.kept hk (hne h.fr.own (by decide)) (fun i hi=>hne (h.fr.row i hi) (by decide)),h.st.kept hk (hne h.st.own (by decide)) (fun i hi=>hne (h.st.row i hi) (by decide)),h.sep,⟨h.lo.1,by simpa [World.size_setCell] using h.lo.2⟩,h.hE,h.hx⟩,
  ⟨⟨[bn],hk,fun x hx=>inl (inl (List.mem_singleton.1 hx))⟩,fun x hx=>inl hx,(Below.refl _ _).setCell (p:=⟨bn,256,none⟩) h.lo.1 u⟩⟩
 have:=h.sn.set 256 u;rwa [Array.setIfInBounds_comm vS u (by decide),Array.setIfInBounds_comm vF u (by decide),Array.setIfInBounds_comm vM u (by decide)] at this
theorem gG.ZS{w:World}{cs:Array Value}{P:Nat->Prop}{cl:(Nat->Bool)->List Nat}(h:gG B bn M M M cs ct vM vF vS fv sv xs L w)(hM:0<M)(hr:∀i,i<M->tS w P cl (cq L i) (xs i))(iZ:∀i,i<M->ct[i]?=some (mk i)):
  ∃gM cM gF cF gS cS,lE w w.heap.size bn gF M cF (fun i=>vA (fv i)) (fun i=>vC (fv i)) L/\oO w w.heap.size bn gS M cS (fun i=>vA (sv i)) (fun i=>vC (sv i)) cl L/\kM w w.heap.size bn gM M cM mk:=by
 obtain⟨aM,cM,rfl⟩:=bF h.om;obtain⟨aF,cF,rfl⟩:=bF h.fr.own;obtain⟨aS,cS,rfl⟩:=bF h.st.own;obtain⟨gM,rfl,_,r9,Zm⟩:=eR h.om hM;obtain⟨gF,rfl,_,NS,QB⟩:=eR h.fr.own hM;obtain⟨gS,rfl,_,wZ,MH⟩:=eR h.st.own hM;obtain⟨c0,c1,c2⟩:=h.cells;have aJ:=h.sn.lt;refine⟨gM,cM,gF,cF,gS,cS,⟨⟨aJ,NS⟩,c1,fun i hi=>?_,fun i hi h0=>?_⟩,⟨⟨aJ,wZ⟩,c2,fun i hi=>?_,fun i hi h0=>?_⟩,⟨⟨aJ,r9⟩,c0,fun i hi=>?_⟩⟩
 ·rw[(QB i (by omega)).1];obtain⟨a,c,e⟩:=bF (h.fr.row i hi);simp[hi,e,vA,vC]
 ·have ho:=h.fr.row i hi;obtain⟨a,c,e⟩:=bF ho;rw[e] at ho;obtain⟨g,rfl,_,hg,hc⟩:=eR ho h0;refine⟨g,0,by simp[e,vA],hg,fun j hj=>?_⟩;rw[zero_add,(hc j (by omega)).1,AN _ j hj]
 ·rw[(MH i (by omega)).1];obtain⟨a,c,e⟩:=bF (h.st.row i hi);simp[hi,e,vA,vC]
 ·have ho:=h.st.row i hi;obtain⟨a,c,e⟩:=bF ho;rw[e] at ho;obtain⟨g,rfl,_,hg,hc⟩:=eR ho h0;refine⟨g,0,by simp[e,vA],hg,fun k hk=>?_⟩;obtain⟨a',c',h1,h2,h3⟩:=(hr i hi).2 k hk;refine⟨a',c',by rw[zero_add,(hc (k*2) (by omega)).1,h1],by rw[zero_add,(hc (k*2+1) (by omega)).1,h2],fun h4=>?_⟩;obtain⟨g',off,e1,e2,_,e3⟩:=h3 h4;exact⟨g',off,e1,e2,e3⟩
 rw[(Zm i (by omega)).1];simp only[ints,getElem?_map,iZ i hi,map_some]
theorem Jt(w:World)(p:Addr)(u:Value)(h:g≠p.block):(w.setCell p u).cell? ⟨g,i,none⟩=w.cell? ⟨g,i,none⟩:=by
 have e:=Below.heap_setCell w p u g h;simp only[World.cell?,e]
theorem MN(cs:Array Value)(i:Nat)(v:Value)(h:cs[i]?=some v):cs.setIfInBounds i v=cs:=by
 apply Array.ext_getElem?;intro j;by_cases e:i=j
 ·subst e;rw[Array.getElem?_setIfInBounds_self_of_lt (Array.getElem?_eq_some_iff.1 h).1,h]
 rw[getElem?_setIfInBounds_ne e]
theorem uZ.base{B' b7 b8 bL:Nat}{lr:List Nat}{aR:Option Addr}{cR:Nat}{P:Nat->Prop}{DL:List ((Nat->Bool) × Option Addr × Nat)}{w:World}(h:uZ B' b7 b8 bL n lr aR cR P DL w)(hb:B<=B'):uZ B b7 b8 bL n lr aR cR P DL w:=
 ⟨h.s7,h.s8,jF h.row hb,h.map,h.at_,⟨le_trans hb h.lo.1,le_trans hb h.lo.2⟩,h.lr⟩
theorem tv.first{V w:World}{b3 b5 b6:Nat}{fn:Value}{cs:Array Value}(h:tv V B bn b3 b5 b6 bM fn mf nm cs vM vF vS fv sv xs L w)(u:Value):
  tv V B bn b3 b5 b6 bM fn mf nm (cs.setIfInBounds 256 u) vM vF vS fv sv xs L (w.setCell ⟨bn,256,none⟩ u):=by
 obtain⟨h1,h2⟩:=h.n.first u
 exact⟨h1,h.sM.fD h.n.sn (by decide) _ _,h.sT.fD h.n.sn (by decide) _ _,h.sF.fD h.n.sn (by decide) _ _,h.map.set h.n.sn,h.nd,h.le,h.bM,h.aU.trans h2.below⟩
theorem tv.start(V w3:World)(B b3:Nat)(fn:Value)(mf:Nat->Int)(cN:Array Value)(hb:Below B V w3)(hB:B<=w3.heap.size)(h3:St w3 137 b3 #[fn])(hs:cN.size=260)(h7:cN[257]?=some (.slice none 0 0))(h8:cN[258]?=some (.slice none 0 0))(h9:cN[259]?=some (.slice none 0 0)):
  tv V B w3.heap.size b3 (w3.heap.size+1) (w3.heap.size+1+1+1) (w3.heap.size+1+1) fn mf [] cN (.slice none 0 0) (.slice none 0 0) (.slice none 0 0) (fun _=>.slice none 0 0) (fun _=>.slice none 0 0) (fun _=>[]) []
   ((((w3.alloc (.cells cN 165)).alloc (.cells #[.pointer (some ⟨w3.heap.size,0,none⟩)] 160)).alloc (.map #[] 0)).alloc (.cells #[.map (some (w3.heap.size+1+1))] 191)):=by
 have k1:=al w3 (.cells cN 165);have k2:=al (w3.alloc (.cells cN 165)) (.cells #[.pointer (some ⟨w3.heap.size,0,none⟩)] 160);have k3:=al ((w3.alloc (.cells cN 165)).alloc (.cells #[.pointer (some ⟨w3.heap.size,0,none⟩)] 160)) (.map #[] 0);have k4:=al (((w3.alloc (.cells cN 165)).alloc (.cells #[.pointer (some ⟨w3.heap.size,0,none⟩)] 160)).alloc (.map #[] 0)) (.cells #[.map (some (w3.heap.size+1+1))] 191);have e0:((cN.setIfInBounds 257 (.slice none 0 0)).setIfInBounds 258 (.slice none 0 0)).setIfInBounds 259 (.slice none 0 0)=cN:=by rw[MN cN 257 _ h7,MN cN 258 _ h8,MN cN 259 _ h9]
 refine⟨⟨?_,hs,ownsRow_nil _ _ _ _,⟨ownsRow_nil _ _ _ _,fun i hi=>by simp at hi,fun i j hi=>by simp at hi⟩,⟨ownsRow_nil _ _ _ _,fun i hi=>by simp at hi,fun i j hi=>by simp at hi⟩,fun i hi=>by simp at hi,⟨hB,by simp;omega⟩,fun e he=>by simp at he,fun i hi=>rfl⟩,?_,?_,?_,?_,List.nodup_nil,fun x hx=>by simp at hx,by omega,?_⟩
 ·rw[e0];exact (((St.new w3 165 cN).aa k2).aa k3).aa k4
 ·have:=St.new (((w3.alloc (.cells cN 165)).alloc (.cells #[.pointer (some ⟨w3.heap.size,0,none⟩)] 160)).alloc (.map #[] 0)) 191 #[.map (some (w3.heap.size+1+1))];simpa using this
 ·have:=((St.new (w3.alloc (.cells cN 165)) 160 #[.pointer (some ⟨w3.heap.size,0,none⟩)]).aa k3).aa k4;simpa using this
 ·exact (((h3.aa k1).aa k2).aa k3).aa k4
 ·have h1:aD (((w3.alloc (.cells cN 165)).alloc (.cells #[.pointer (some ⟨w3.heap.size,0,none⟩)] 160)).alloc (.map #[] 0)) 3 (w3.heap.size+1+1) 0 (y8 []):=by
   have:=aD.made ((w3.alloc (.cells cN 165)).alloc (.cells #[.pointer (some ⟨w3.heap.size,0,none⟩)] 160)) 3 (y8 []) (fun x y ⟨k,s,h,_⟩=>by simp at h);simpa using this
  exact h1.same (k4.block _ h1.lt)
 exact (((hb.trans (k1.mono hB)).trans (k2.mono (by simp;omega))).trans (k3.mono (by simp;omega))).trans (k4.mono (by simp;omega))
theorem gG.cl{w:World}{cs:Array Value}(h:gG B bn Mm Mf Ms cs ct vM vF vS fv sv xs L w)(hs:csA.size=256)(hv:∀j,j<256->csA[j]?=some (.int .u8 ((cls K j:Nat):Int)))(hc:∀j,j<256->cs[j]?=csA[j]?):JH w w.heap.size bn K csA:=
 ⟨h.sn.lt,hs,hv,fun j v hj=>by
  have hj2:j<256:=by
   have:=(List.getElem?_eq_some_iff.1 hj).1
   simpa [hs] using this
  have e:(⟨bn,0,none⟩:Addr).add j=⟨bn,j,none⟩:=by unfold Addr.add;split <;> simp_all
  rw[e,h.sn.at_,getElem?_setIfInBounds_ne (by omega),getElem?_setIfInBounds_ne (by omega),getElem?_setIfInBounds_ne (by omega),hc j hj2,<-getElem?_toList,hj]⟩
theorem zdP{o:Oper}(hg:o.guard=none)(ty:TypeId)(x:Operand)(ho:o.op=.load ty x)(ad:Addr)(hx:ev x=.pointer (some ad))(cs:Array Value)(d:TypeDesc)(w:World)(hc:∀j v,cs.toList[j]?=some v->w.cell? (ad.add j)=some v)
  (hu:P.underlying ty=some d) (hd:(match d with|.struct _|.array _ _=>true|_=>false)=true) (hi:(P.info? ty).map (·.size)=some cs.size):(execOp ev o).run P w=.ok (.value (.agg cs)) w:=by
 unfold execOp;simp only[ho,hx,Instr.loadAt,sureAddr,run_bind,run_pure,andThen_ok,Gm w ad ty cs d hc hu hd hi]
theorem QJ{o:Oper}(hg:o.guard=none)(t:TypeId)(parts:Array (Nat × Operand))(ho:o.op=.build t parts)(ps:Array (Nat × Value))(hp:(parts.map fun (i,x)=>(i,ev x))=ps)(v:Value){w:World}(hb:(build t ps).run P w=.ok v w):(execOp ev o).run P w=.ok (.value v) w:=by
 unfold execOp;simp only[ho,hp,run_bind,hb,andThen_ok,run_pure]
theorem zkX(N:Nat)(hN:N<=2147483647)(W:World):(Instr.makeSlice 76 (.int .i64 (N:Int)) (.int .i64 (N:Int))).run prog W=.ok (.slice (some ⟨W.heap.size,0,none⟩) N N) (W.alloc (.cells (madeCells #[.int .u8 0] N) 5)):=by
 have:=run_make_row' (P:=prog) 76 5 (.int .u8 0) 1 underlying76 jB rfl .i64 .i64 N (by omega) (by omega) W;simpa using this
theorem T5{w:World}{cK:Array Value}(hw:Below B w w')(hB:B<=w'.heap.size)(hm:St w' 168 bm cK)(hi:w'.ownsRow B 5 1 (.slice (some ⟨gI,0,none⟩) m m) m (replicate m (.int .u8 0)))(hM:aD w' 9 bM 0 (MQ M []))
  (eK:∀j,j<256->csA[j]?=some (.int .u8 ((cls K j:Nat):Int)))
  (hc:cK.size=263/\cK[0]?=some (.pointer (some ⟨bn,0,none⟩))/\(∀j,j<256->cK[1+j]?=csA[j]?)/\cK[257]?=some (.slice none 0 0)/\cK[258]?=some (.slice none 0 0)/\cK[259]?=some (.slice none 0 0)/\cK[260]?=some (.map (some bM))/\cK[261]?=some (.slice (some ⟨gI,0,none⟩) m m)/\cK[262]?=some (.slice none 0 0))
  (h1:B<=bm) (h2:B<=gI) (h3:B<=bM):lN B bm gI bM m M C bn K L mk [] [] [] [] 0 cK [] (.slice none 0 0) (.slice none 0 0) (.slice none 0 0) (.slice none 0 0) [] w':=by
 obtain⟨z,c0,cc,c7,c8,c9,Zo,c11,c12⟩:=hc;refine⟨⟨⟨Kept.refl _ _ _,Below.refl _ _,by rw[MN cK 262 _ c12];exact hm,z,c11,?_,ownsRow_nil _ _ _ _,fun b e=>by simp[ownBlock] at e,⟨by simp[iD],by simp[iD]⟩,h1,h2,hB⟩,List.nodup_nil,fun x hx=>by simp at hx⟩,
  ⟨c8,c9,Zo,ownsRow_nil _ _ _ _,ownsRow_nil _ _ _ _,hM,fun b e=>by simp[ownBlock] at e,fun b e=>by simp[ownBlock] at e,fun b e=>by simp[ownBlock] at e,by simp[iD],h3⟩,
  ⟨fun j hj=>by simp at hj,fun p hp=>by simp at hp,rfl,fun j hj=>by simp at hj⟩,⟨ownsRow_nil _ _ _ _,rfl,fun i hi=>by simp at hi⟩,c0,c7,fun j hj=>by rw[cc j hj];exact eK j hj,le_refl _⟩
 rw[show (fun x=>decide (x∈([]:List Nat)))=fun _=>false from by funext x;simp,Nd];exact hi
def CY(B m M C bn:Nat)(K:Nat->Lit)(L:List En)(mk:Nat->Int)(w:World)(e:Ending)(w':World):Prop:=
 ∃(bm gI bM:Nat) (cK:Array Value),e=.returned (.pointer (some ⟨bm,0,none⟩))/\lN B bm gI bM m M C bn K L mk [] [] [] [] 0 cK [] (.slice none 0 0) (.slice none 0 0) (.slice none 0 0) (.slice none 0 0) [] w'/\Below B w w'
theorem ZG(K:Nat->Lit)(L:List En)(mk:Nat->Int)(csA:Array Value)(bn gM M cM m C:Nat)(w:World)(h:JH w w.heap.size bn K csA)(hM:w.cell? ⟨bn,257,none⟩=some (.slice (some ⟨gM,0,none⟩) M cM))(MD:M<=12900)(hm:(M+7) / 8=m):
  Calls prog 117 #[.pointer (some ⟨bn,0,none⟩)] w (CY w.heap.size m M C bn K L mk w):=by
 have eG:(prog.info? 98).map (·.size)=some csA.size:=by rw[h.sz];kernel_rfl
 obtain⟨cD,hDs,hD,wv⟩:=zmA csA h.sz;have zE:=zkX m (by omega);have iJ:=@run_makeMap prog;have hq:Int.tdiv ((M:Int)+7) 8=(m:Int):=by rw[Int.tdiv_eq_ediv_of_nonneg (by omega),<-hm];omega
 have jL:IntKind.i64.wrap ((M:Int)+7)=(M:Int)+7:=IntWalk.i64_in _ (by omega);have bQ:IntKind.i64.wrap (m:Int)=m:=IntWalk.i64_in _ (by omega);have H:=hid h;have aJ:=h.fR;have dB:=hid (fun (W':World) (k:Below w.heap.size w W')=>(⟨fun j v hj=>(by
   have e:(⟨bn,0,none⟩:Addr).add j=⟨bn,j,none⟩:=by unfold Addr.add;split <;> simp_all
   have h2:=h.at_ j v hj
   rw[e] at h2⊢
   exact (k.cell (p:=⟨bn,j,none⟩) aJ).trans h2),(k.cell (p:=⟨bn,257,none⟩) aJ).trans hM⟩:
  (∀j v,csA.toList[j]?=some v->W'.cell? ((⟨bn,0,none⟩:Addr).add j)=some v)/\W'.cell? ⟨bn,257,none⟩=some (.slice (some ⟨gM,0,none⟩) M cM)))
 have mI:∀(W:World),w.heap.size<=W.heap.size->(W.alloc (.cells (madeCells #[.int .u8 0] m) 5)).ownsRow w.heap.size 5 1 (.slice (some ⟨W.heap.size,0,none⟩) m m) m (replicate m (.int .u8 0)):=fun W hW=>Cx W w.heap.size m 5 (.int .u8 0) hW (by unfold maxLen;omega)
 have HBa:Below w.heap.size w ((w.alloc (.map #[] 0)).alloc (.cells (madeCells #[.int .u8 0] m) 5)).drew:=((al w _).trans ((al _ _).mono (by simp))).drew;have Wr:Below w.heap.size w ((w.alloc (.cells (madeCells #[.int .u8 0] m) 5)).alloc (.map #[] 0)).drew:=((al w _).trans ((al _ _).mono (by simp))).drew;have BQ:∀cK:Array Value,Below w.heap.size w (((w.alloc (.map #[] 0)).alloc (.cells (madeCells #[.int .u8 0] m) 5)).alloc (.cells cK 168)).drew:=fun cK=>(((al w _).trans ((al _ _).mono (by simp))).trans ((al _ _).mono (by simp;omega))).drew
 have CP:∀cK:Array Value,Below w.heap.size w (((w.alloc (.cells (madeCells #[.int .u8 0] m) 5)).alloc (.map #[] 0)).alloc (.cells cK 168)).drew:=fun cK=>(((al w _).trans ((al _ _).mono (by simp))).trans ((al _ _).mono (by simp;omega))).drew
 have mM:∀(W:World),aD (W.alloc (.map #[] 0)) 9 W.heap.size 0 (MQ M []):=fun W=>aD.made W 9 (MQ M []) (fun x y ⟨p,hp,_⟩=>by simp at hp)
 have HFa:∀cK:Array Value,(cK.size=263/\cK[0]?=some (.pointer (some ⟨bn,0,none⟩))/\(∀j,j<256->cK[1+j]?=csA[j]?)/\cK[257]?=some (.slice none 0 0)/\cK[258]?=some (.slice none 0 0)/\cK[259]?=some (.slice none 0 0)/\cK[260]?=some (.map (some w.heap.size))/\cK[261]?=some (.slice (some ⟨w.heap.size+1,0,none⟩) m m)/\cK[262]?=some (.slice none 0 0))->
   Hid (CY w.heap.size m M C bn K L mk w (.returned (.pointer (some ⟨w.heap.size+1+1,0,none⟩))) (((w.alloc (.map #[] 0)).alloc (.cells (madeCells #[.int .u8 0] m) 5)).alloc (.cells cK 168)).drew):=fun cK hc=>by
  have k3:=al ((w.alloc (.map #[] 0)).alloc (.cells (madeCells #[.int .u8 0] m) 5)) (.cells cK 168)
  refine⟨w.heap.size+1+1,w.heap.size+1,w.heap.size,cK,rfl,T5 (csA:=csA) (BQ cK) (by simp;omega) ?_ ?_ ?_ H.out.val hc (by omega) (by omega) (le_refl _),BQ cK⟩
  ·have:=(St.new ((w.alloc (.map #[] 0)).alloc (.cells (madeCells #[.int .u8 0] m) 5)) 168 cK).drew
   simpa using this
  ·have:=dp (mI (w.alloc (.map #[] 0)) (by simp)) (k3.drew)
   simpa using this
  ·exact (mM w).same (((al (w.alloc (.map #[] 0)) _).trans (k3.mono (by simp))).drew.block _ (by simp))
 have HFb:∀cK:Array Value,(cK.size=263/\cK[0]?=some (.pointer (some ⟨bn,0,none⟩))/\(∀j,j<256->cK[1+j]?=csA[j]?)/\cK[257]?=some (.slice none 0 0)/\cK[258]?=some (.slice none 0 0)/\cK[259]?=some (.slice none 0 0)/\cK[260]?=some (.map (some (w.heap.size+1)))/\cK[261]?=some (.slice (some ⟨w.heap.size,0,none⟩) m m)/\cK[262]?=some (.slice none 0 0))->
   Hid (CY w.heap.size m M C bn K L mk w (.returned (.pointer (some ⟨w.heap.size+1+1,0,none⟩))) (((w.alloc (.cells (madeCells #[.int .u8 0] m) 5)).alloc (.map #[] 0)).alloc (.cells cK 168)).drew):=fun cK hc=>by
  have k3:=al ((w.alloc (.cells (madeCells #[.int .u8 0] m) 5)).alloc (.map #[] 0)) (.cells cK 168)
  refine⟨w.heap.size+1+1,w.heap.size,w.heap.size+1,cK,rfl,T5 (csA:=csA) (CP cK) (by simp;omega) ?_ ?_ ?_ H.out.val hc (by omega) (le_refl _) (by omega),CP cK⟩
  ·have:=(St.new ((w.alloc (.cells (madeCells #[.int .u8 0] m) 5)).alloc (.map #[] 0)) 168 cK).drew
   simpa using this
  ·exact dp (mI w (le_refl _)) ((al _ _).trans (k3.mono (by simp))).drew
  ·have:=(mM (w.alloc (.cells (madeCells #[.int .u8 0] m) 5))).same (k3.drew.block _ (by simp))
   simpa using this
 clear h hM;go_enter func117,ntmps117;go_upto_region 1 with fail;refine wp_region_held_drew (S:=fun W'=>(∀j v,csA.toList[j]?=some v->W'.cell? ((⟨bn,0,none⟩:Addr).add j)=some v)/\W'.cell? ⟨bn,257,none⟩=some (.slice (some ⟨gM,0,none⟩) M cM)) (by kernel_rfl) (dB.out _ (Below.refl _ _).drew) (fun hHeld=>?_)
 (refine aq 0 ?_;refine aq 1 ?_;refine aq 2 ?_;try simp only[put,sA,sB,sC];refine aq 3 ?_)
 (refine aq 4 (v:=(.agg csA)) ?_ (hy:=by intro wz hSw;exact zdP rfl 98 _ rfl ⟨bn,0,none⟩ (by rfl) csA (.array 256 5) wz hSw.1 underlying98 rfl eG);try simp only[put,sA,sB,sC])
 (refine wpAnyH_take (i:=5) (oi:=?_) (v:=(.agg cD)) ?_ (by kernel_rfl) (by kernel_rfl) (by kernel_rfl) ?_ (inl ⟨?_,?_⟩) (by assumption) ?_;rotate_left 1;(focus ((simp only[getElem?_toArray,List.getElem?_cons_succ,List.getElem?_cons_zero]);first|done|rfl));(focus (exact fun _ _ _ h=>h));(focus rfl);(focus (intro wz hSw;exact QJ rfl 101 _ rfl #[(0,.agg csA)] (by first|kernel_rfl|(go_simp;done)) (.agg cD) (hD wz)));try simp only[put,sA,sB,sC])
 (refine aq 7 ?_;refine aq 8 ?_;refine aq 9 ?_;try simp only[put,sA,sB,sC];refine aq 10 ?_;refine aq 11 ?_;refine aq 12 ?_;try simp only[put,sA,sB,sC];refine aq 13 ?_;try simp only[put,sA,sB,sC])
 refine wpAnyH_ready (rs:=[6,14]) (by kernel_rfl) (by simp) ?_;refine eV (fun K hK=>?_) ?_
 ·skip;go_simp;refine hK.out _ _ (dB.out _ (al w _).drew) (fun hHeld=>?_);clear hK K
  try simp only[put,sA,sB,sC]
  refine aQ 14 (fun K hK=>?_);skip;go_simp;refine hK.out _ _ (dB.out _ HBa) (fun hHeld=>?_);clear hK K
  try simp only[put,sA,sB,sC]
  obtain⟨cK,ow⟩:=wv bn w.heap.size (w.heap.size+1) m;have ru:=BQ cK;have HF:=HFa cK ⟨ow.1,ow.2.1,ow.2.2.1,ow.2.2.2.1,ow.2.2.2.2.1,ow.2.2.2.2.2.1,ow.2.2.2.2.2.2.1,ow.2.2.2.2.2.2.2.1,ow.2.2.2.2.2.2.2.2.1⟩
  (refine wpAnyH_take (i:=15) (oi:=?_) (v:=(.agg cK)) ?_ (by kernel_rfl) (by kernel_rfl) (by kernel_rfl) ?_ (inl ⟨?_,?_⟩) (by assumption) ?_;rotate_left 1;(focus ((simp only[getElem?_toArray,List.getElem?_cons_succ,List.getElem?_cons_zero]);first|done|rfl));(focus (exact fun _ _ _ h=>h));(focus rfl);(focus (intro wz hSw;exact QJ rfl 168 _ rfl #[(0,.pointer (some ⟨bn,0,none⟩)),(1,.agg cD),(3,.map (some (w.heap.size))),(4,.slice (some ⟨w.heap.size+1,0,none⟩) m m)] (by first|kernel_rfl|(go_simp;done)) (.agg cK) (ow.2.2.2.2.2.2.2.2.2 wz)));try simp only[put,sA,sB,sC])
  refine aQ 16 (fun K hK=>?_);skip;go_simp;refine hK.out _ _ (dB.out _ ru) (fun hHeld=>?_);clear hK K
  try simp only[put,sA,sB,sC]
  (refine aq 17 ?_;try simp only[put,sA,sB,sC])
  refine wpAnyH_done (by kernel_rfl) ?_ _;clear hHeld;go_wp2;go_ret;exact HF.out
 refine eV (fun K hK=>?_) ?_
 ·skip;go_simp;refine hK.out _ _ (dB.out _ (al w _).drew) (fun hHeld=>?_);clear hK K
  try simp only[put,sA,sB,sC]
  refine aQ 6 (fun K hK=>?_);skip;go_simp;refine hK.out _ _ (dB.out _ Wr) (fun hHeld=>?_);clear hK K
  try simp only[put,sA,sB,sC]
  obtain⟨cK,ow⟩:=wv bn (w.heap.size+1) w.heap.size m;have ru:=CP cK;have HF:=HFb cK ⟨ow.1,ow.2.1,ow.2.2.1,ow.2.2.2.1,ow.2.2.2.2.1,ow.2.2.2.2.2.1,ow.2.2.2.2.2.2.1,ow.2.2.2.2.2.2.2.1,ow.2.2.2.2.2.2.2.2.1⟩
  (refine wpAnyH_take (i:=15) (oi:=?_) (v:=(.agg cK)) ?_ (by kernel_rfl) (by kernel_rfl) (by kernel_rfl) ?_ (inl ⟨?_,?_⟩) (by assumption) ?_;rotate_left 1;(focus ((simp only[getElem?_toArray,List.getElem?_cons_succ,List.getElem?_cons_zero]);first|done|rfl));(focus (exact fun _ _ _ h=>h));(focus rfl);(focus (intro wz hSw;exact QJ rfl 168 _ rfl #[(0,.pointer (some ⟨bn,0,none⟩)),(1,.agg cD),(3,.map (some (w.heap.size+1))),(4,.slice (some ⟨w.heap.size,0,none⟩) m m)] (by first|kernel_rfl|(go_simp;done)) (.agg cK) (ow.2.2.2.2.2.2.2.2.2 wz)));try simp only[put,sA,sB,sC])
  refine aQ 16 (fun K hK=>?_);skip;go_simp;refine hK.out _ _ (dB.out _ ru) (fun hHeld=>?_);clear hK K
  try simp only[put,sA,sB,sC]
  (refine aq 17 ?_;try simp only[put,sA,sB,sC])
  refine wpAnyH_done (by kernel_rfl) ?_ _;clear hHeld;go_wp2;go_ret;exact HF.out
 exact AllReadyH.nil
theorem nG(w:World):(zeroValue 101).run prog w=.ok (.agg (zC 101)) w:=by kernel_rfl
theorem Fe:∀v∈(zC 101).toList,v.oneCell'=true:=by
 have h:(zC 101).toList.all (fun v=>v.oneCell')=true:=by kernel_rfl
 exact fun v hv=>List.all_eq_true.1 h v hv
theorem gO:(prog.info? 101).map (·.size)=some 258:=by kernel_rfl
theorem Pv(w:World):(build 101 #[]).run prog w=.ok (.agg (zC 101)) w:=run_build w _ _ _ (by kernel_rfl)
theorem rB{rest:List Oper}{o:Oper}{a:Act}{w:World}{Q:Exit->Act->World->Prop}(qF:o.guard=none)(t:TypeId)(ho:o.op=.alloc t)(cs:Array Value)(hz:(zeroValue t).run P w=.ok (.agg cs) w)
  (h:wpList P ops Q rest (a.put o.dst (.pointer (some ⟨w.heap.size,0,none⟩))) (w.alloc (.cells cs t))):wpList P ops Q (o :: rest) a w:=
 wpList_plain qF fun _ hK=>by
  unfold Oper.wp execOp
  simp only[ho,Instr.alloc,run_bind,hz,andThen_ok,newVar,newRow,newObj,Value.cells]
  exact hK _ _ h
theorem pN{rest:List Oper}{o:Oper}{a:Act}{w:World}{Q:Exit->Act->World->Prop}(qF:o.guard=none)(ty:TypeId)(x v:Operand)(ho:o.op=.store ty x v)(g t:Nat)(old cs:Array Value)(hx:a.eval x=.pointer (some ⟨g,0,none⟩))(hv:a.eval v=.agg cs)
  (dC:w.heap[g]?=some (.cells old t (0,0))) (da:old.size=cs.size) (hi:(P.info? ty).map (·.size)=some cs.size) (h1:∀u∈cs.toList,u.oneCell'=true) (h:wpList P ops Q rest (a.put o.dst undef) (w.setRow g cs)):wpList P ops Q (o :: rest) a w:=by
 have bU:(storeVar ty ⟨g,0,none⟩ (.agg cs)).run P w=.ok () (w.setRow g cs):=by
  have hs:(sizeOf ty).run P w=.ok cs.size w:=by
   cases hq:P.info? ty with
   | none=>simp[hq] at hi
   | some inf=>
    have:inf.size=cs.size:=(by simpa [hq] using hi);simp[sizeOf,typeInfo,hq,this]
  have:=run_storeCells_at (P:=P) g 0 t cs.toList 0 old w dC (by simp[da]) h1;unfold storeVar;simp only[run_bind,hs,andThen_ok];rw[if_neg (show ¬((Value.agg cs).cells.size≠cs.size) from fun h=>h rfl)];show (storeCells ⟨g,0,none⟩ cs.toList).run P w=_;rw[this];congr 2;have hd:List.drop cs.size old.toList=[]:=List.drop_of_length_le (by simp[da]);simp[hd]
 exact wpList_plain qF fun _ hK=>by
  unfold Oper.wp execOp;simp only[ho,hx,hv,Instr.storeAt,sureAddr,run_bind,run_pure,andThen_ok,bU];exact hK _ _ h
theorem St.setRow{w:World}{old cs:Array Value}(h:St w t g old):St (w.setRow g cs) t g cs:=setRow_heap w g old cs t (0,0) h
theorem mY{w:World}(h:Below B w w')(hg:B<=g)(cs:Array Value):Below B w (w'.setRow g cs):=
 ⟨h.os,h.tape,h.output,by rw[setRow_size];exact h.size,fun k hk=>by rw[setRow_other w' g k cs (by omega)];exact h.block k hk⟩
theorem CD{fn:Func}{p u:Tmp}{ty:TypeId}(h:fn.results=#[.cell p ty,.tmp u])(tmps:Array Value)(w:World)(g:Nat)(cs:Array Value)(d:TypeDesc)(hp:tmps.getD p undef=.pointer (some ⟨g,0,none⟩))(hc:∀j v,cs.toList[j]?=some v->w.cell? ((⟨g,0,none⟩:Addr).add j)=some v)
  (hu:P.underlying ty=some d) (hd:(match d with|.struct _|.array _ _=>true|_=>false)=true) (hi:(P.info? ty).map (·.size)=some cs.size):
  (results fn tmps).run P w=.ok (.tuple #[.agg cs,tmps.getD u undef]) w:=by
 rw[results_cell_tmp h,hp];have h1:(asAddr (.pointer (some ⟨g,0,none⟩))).run P w=.ok ⟨g,0,none⟩ w:=by rfl
 rw[h1,andThen_ok,Gm w ⟨g,0,none⟩ ty cs d hc hu hd hi,andThen_ok]
theorem St.part{w:World}{cs:Array Value}(h:St w t g cs):∀j v,cs.toList[j]?=some v->w.cell? ((⟨g,0,none⟩:Addr).add j)=some v:=fun j v hj=>by
 have e:(⟨g,0,none⟩:Addr).add j=⟨g,j,none⟩:=by unfold Addr.add;split <;> simp_all
 rw[e,h.at_,<-getElem?_toList,hj]
theorem sw:(prog.info? 197).map (fun i=>(i.zero,i.size,i.bytes))=some (some (.agg #[.slice none 0 0,.int .i64 0]),2,32):=by kernel_rfl
def FK(K:Nat->Lit)(mf:Nat->Int)(L:List En)(F:Nat)(w:World)(e:Ending)(w':World):Prop:=
 ∃(bn f0 gM cM gF cF gS cS:Nat) (nm:List Nat) (L':List En) (aF aS:Nat->Option Addr) (Dg Fa:Nat->Nat) (csA:Array Value),e=.returned (.pointer (some ⟨bn,0,none⟩))/\Below w.heap.size w w'/\lE w' w'.heap.size bn gF nm.length cF aF Dg L'/\
  oO w' w'.heap.size bn gS nm.length cS aS Fa (qI (rl K 256)) L'/\kM w' w'.heap.size bn gM nm.length cM (fun i=>mf (nm.getD i 0))/\JH w' w'.heap.size bn K csA/\w'.cell? ⟨bn,256,none⟩=some (.int .i64 (f0:Int))/\
  L=L'.map (En.lI nm)/\nm.Nodup/\(∀e∈L',e.f<nm.length/\e.t<nm.length)/\nm[f0]?=some F/\nm.length<=2*L.length+1/\∀x∈nm,Src L F F x
theorem ziU(kf bV:Nat)(mf:Nat->Int)(S0 T:Int)(F:Nat)(L:List En)(a:Option Addr)(n c:Nat)(w:World)(HC:∀(args:Array Value) (W:World),(callFunc kf args).run prog W=.ok (.enter kf args) W)
  (HM:∀W,Below w.heap.size w W->∀x,x<=9223372036854775807->Calls prog kf #[.int .i64 ((x:Nat):Int),.pointer (some ⟨bV,0,none⟩)] W fun e w'=>e=.returned (.int .i64 (mf x))/\w'=W)
  (hL:kJ w a (L.map En.z)) (hn:L.length=n) (kF:n<=6400) (p9:(bP (L.map En.z)).length<=1000) (hF:F<=9223372036854775807) (hE:∀e∈L,e.f<=9223372036854775807/\e.t<=9223372036854775807):
  Calls prog 118 #[.agg #[.int .i64 S0,.slice a n c,.int .i64 (F:Int),.int .i64 T],.func (.func kf) #[] #[.pointer (some ⟨bV,0,none⟩)]] w (FK (cG L) mf L F w):=by
 have iJ:=@run_makeMap prog;have zy:∀(fn:Fn) (first cap:Array Value) (w:World),(makeFunc fn first cap).run prog w=.ok (.func fn first cap) w:=fun _ _ _ _=>rfl
 have Hsb:=hid p9;have HH:=hid (Zz HC (Zz HM (Zz hL (Zz hn hE))));clear HC HM hL hn hE p9;go_enter func118,ntmps118;go_upto_region 1 with fail;have HI:Hid (∃W0,(w.alloc (.cells #[.int .i64 S0,.slice a n c,.int .i64 (F:Int),.int .i64 T] 119)).alloc (.cells #[.func (.func kf) #[] #[.pointer (some ⟨bV,0,none⟩)]] 137)=W0):=⟨_,rfl⟩
 obtain⟨W0,sr⟩:=HI.out;have h2:St W0 119 w.heap.size #[.int .i64 S0,.slice a n c,.int .i64 (F:Int),.int .i64 T]:=by rw[<-sr];exact (St.new w _ _).alloc _
 have h3:St W0 137 (w.heap.size+1) #[.func (.func kf) #[] #[.pointer (some ⟨bV,0,none⟩)]]:=by
  rw[<-sr];have:=St.new (w.alloc (.cells #[.int .i64 S0,.slice a n c,.int .i64 (F:Int),.int .i64 T] 119)) 137 #[.func (.func kf) #[] #[.pointer (some ⟨bV,0,none⟩)]];simpa using this
 have mr:Below w.heap.size w W0:=by rw[<-sr];exact (al w _).trans ((al _ _).mono (by simp))
 rw[sr];clear sr HI;have H0:=hid (Zz h2 (Zz h3 mr));obtain⟨r0,r1,r2,r3⟩:=h2.dM;have yJ:=hid (zmD S0 (F:Int) T a n c (L.map En.z) W0 (HH.out.2.2.1.below mr) (by rw[length_map];exact HH.out.2.2.2.1) (by omega));clear h2 h3 mr;go_wp2_with fail;refine yJ.out.mono ?_;rintro e w1 ⟨a1,n1,c1,rfl,pR,Uk,mg⟩;have fA:n1<=1000:=by rw[<-pR];exact Hsb.out
 subst pR;have nR:=hid (zgb a1 _ c1 (qP (L.map En.z)) fA w1 (zmK Uk rfl));have nI:=hid mg;clear Uk mg r0 r1 r2 r3 yJ fA;go_wp2_with fail;refine nR.out.mono ?_;rintro e w3 ⟨csA,rfl,RD,XC,pE⟩;obtain⟨cN,fO,pI,ke,GG,Jb,IX,vZ⟩:=zkB csA RD;have ru:=hid (show Below w.heap.size w w3/\St w3 119 w.heap.size #[.int .i64 S0,.slice a n c,.int .i64 (F:Int),.int .i64 T]/\St w3 137 (w.heap.size+1) #[.func (.func kf) #[] #[.pointer (some ⟨bV,0,none⟩)]] from by
  have hk:=nI.out.trans (pE.mono nI.out.size)
  exact⟨H0.out.2.2.trans (hk.mono H0.out.2.2.size),H0.out.1.aa hk,H0.out.2.1.aa hk⟩)
 have HN:=hid (Zz RD (Zz XC (Zz fO (Zz pI (Zz ke (Zz GG (Zz Jb IX)))))));clear RD XC pE fO pI ke GG Jb IX nR;go_wp2_with (refine BU rfl 165 _ rfl #[(0,.agg csA)] ?hp (.agg cN) ?hb ?_)
 case hb=>exact vZ _
 go_upto_region 4 with fail;have HA:=hid (tv.start w w3 w.heap.size (w.heap.size+1) (.func (.func kf) #[] #[.pointer (some ⟨bV,0,none⟩)]) mf cN ru.out.1 ru.out.1.size ru.out.2.2 HN.out.2.2.1 HN.out.2.2.2.2.2.1 HN.out.2.2.2.2.2.2.1 HN.out.2.2.2.2.2.2.2);have jD:Hid (St ((((w3.alloc (.cells cN 165)).alloc (.cells #[.pointer (some ⟨w3.heap.size,0,none⟩)] 160)).alloc (.map #[] 0)).alloc (.cells #[.map (some (w3.heap.size+1+1))] 191)) 119 w.heap.size #[.int .i64 S0,.slice a n c,.int .i64 (F:Int),.int .i64 T]):=(((ru.out.2.1.aa (al _ _)).aa (al _ _)).aa (al _ _)).aa (al _ _);obtain⟨bn,aJ⟩:∃bn,w3.heap.size=bn:=⟨_,rfl⟩
 rw[aJ] at HA jD;rw[aJ];generalize (((w3.alloc (.cells cN 165)).alloc (.cells #[.pointer (some ⟨bn,0,none⟩)] 160)).alloc (.map #[] 0)).alloc (.cells #[.map (some (bn+1+1))] 191)=W4 at HA jD⊢;obtain⟨b5,rJ⟩:∃b5,bn+1=b5:=⟨_,rfl⟩
 obtain⟨bM,qZ⟩:∃bM,bn+1+1=bM:=⟨_,rfl⟩
 obtain⟨b6,ec⟩:∃b6,bn+1+1+1=b6:=⟨_,rfl⟩
 obtain⟨b2,cv⟩:∃b2,w.heap.size=b2:=⟨_,rfl⟩
 obtain⟨b3,iW⟩:∃b3,w.heap.size+1=b3:=⟨_,rfl⟩
 rw[ec,qZ,rJ] at HA;rw[ec,rJ];rw[iW] at HA;rw[iW];have QG:=jD.out;rw[cv] at QG jD;have BJ:Below W4.heap.size W4 W4.drew:=(Below.refl _ _).drew;have yd:=hid (HA.out.aa BJ);have zi:=hid (N5 w w.heap.size bn b3 b5 b6 bM kf bV mf [] cN (.slice none 0 0) (.slice none 0 0) (.slice none 0 0) (fun _=>.slice none 0 0) (fun _=>.slice none 0 0) (fun _=>[]) [] W4.drew HH.out.1 HH.out.2.1 yd.out (by simp) F hF);have q2:W4.drew.cell? ⟨b2,2,none⟩=some (.int .i64 (F:Int)):=QG.at_ 2;have q5:W4.drew.cell? ⟨b5,0,none⟩=some (.pointer (some ⟨bn,0,none⟩)):=HA.out.sT.at_ 0;rw[cv];have Wr:=hid (Zz cv (Zz rJ (Zz qZ (Zz ec iW))));clear QG cv rJ qZ ec iW aJ BJ vZ;refine wp_region_held_drew (S:=fun W'=>W'.cell? ⟨b5,0,none⟩=some (.pointer (some ⟨bn,0,none⟩))/\W'.cell? ⟨b2,2,none⟩=some (.int .i64 (F:Int))) (by kernel_rfl) ⟨q5,q2⟩ (fun hHeld=>?_)
 (refine aq 0 ?_;refine aq 1 ?_;refine aq 2 ?_;try simp only[put,sA,sB,sC];refine aq 3 ?_;try simp only[put,sA,sB,sC])
 refine aQ 4 (fun K hK=>?_);skip;go_simp;go_at_call 149;refine zi.out.mono ?_;rintro e w5 ⟨f0,uV,PB,Rh,Jj,OQ,Nu,rfl,Xx,pM,FU,Om⟩;have HX:=hid (Zz Xx (Zz pM (Zz FU Om)));have BK:St w5 119 b2 #[.int .i64 S0,.slice a n c,.int .i64 (F:Int),.int .i64 T]:=Om.st jD.out.drew (fun e=>Or.elim e (fun e=>By yd.out.map jD.out.drew e) (fun e=>yd.out.n.oQ jD.out.drew (by decide) (by decide) (by decide) (by decide) (by decide) e));have UG:w5.cell? ⟨b5,0,none⟩=some (.pointer (some ⟨bn,0,none⟩)):=HX.out.1.sT.at_ 0;have q6:=HX.out.1.n.sn.ba 256;have q7:w5.cell? ⟨bn,256,none⟩=some (.int .i64 0):=(by rw[HX.out.1.n.sn.at_,getElem?_setIfInBounds_ne (by decide),getElem?_setIfInBounds_ne (by decide),getElem?_setIfInBounds_ne (by decide)];exact HN.out.2.2.2.2.1)
 have yc:Hid (tv w w.heap.size bn b3 b5 b6 bM (.func (.func kf) #[] #[.pointer (some ⟨bV,0,none⟩)]) mf uV (cN.setIfInBounds 256 (.int .i64 (f0:Int))) PB Rh Jj OQ Nu (fun _=>[]) [] (w5.setCell ⟨bn,256,none⟩ (.int .i64 (f0:Int)))/\St (w5.setCell ⟨bn,256,none⟩ (.int .i64 (f0:Int))) 119 b2 #[.int .i64 S0,.slice a n c,.int .i64 (F:Int),.int .i64 T]):=⟨HX.out.1.first _,BK.fD HX.out.1.n.sn (by decide) _ _⟩
 have LR:=hid HX.out.2;have Zi:w5.cell? ⟨b2,2,none⟩=some (.int .i64 (F:Int)):=BK.at_ 2;clear Xx pM FU Om
 try go_wp2_with fail
 refine hK.out _ _ ⟨UG,Zi⟩ (fun hHeld=>?_);clear hK K
 try simp only[put,sA,sB,sC]
 (refine aq 5 ?_;refine aq 6 ?_;try simp only[put,sA,sB,sC])
 refine aQ 7 (fun K hK=>?_);skip;go_simp;refine hK.out _ _ ⟨yc.out.1.sT.at_ 0,yc.out.2.at_ 2⟩ (fun hHeld=>?_);clear hK K
 try simp only[put,sA,sB,sC]
 refine wpAnyH_done (by kernel_rfl) ?_ _;clear hHeld q2 q5 UG q6 q7 Zi BK HX zi yd;generalize w5.setCell ⟨bn,256,none⟩ (.int .i64 (f0:Int))=W5 at yc⊢;have s0:W5.cell? ⟨b5,0,none⟩=some (.pointer (some ⟨bn,0,none⟩)):=yc.out.1.sT.at_ 0;have Sx:=hid (zkW (cG L) bn csA W5 (yc.out.1.n.cl HN.out.1 HN.out.2.1 (fun j hj=>by rw[getElem?_setIfInBounds_ne (by omega)];exact HN.out.2.2.2.1 j hj)));go_wp2_with fail;refine Sx.out.mono ?_;rintro e w6 ⟨b7,b8,bL,aR,cR,rfl,Gd,Ef,hbL⟩;have kQ:Hid (lW w w.heap.size b2 b3 b5 b6 b7 b8 bn bM bL (.func (.func kf) #[] #[.pointer (some ⟨bV,0,none⟩)]) mf #[.int .i64 S0,.slice a n c,.int .i64 (F:Int),.int .i64 T] (cN.setIfInBounds 256 (.int .i64 (f0:Int))) (rl (cG L) 256) aR cR L F f0 0 1 0 uV PB Rh Jj OQ Nu (fun _=>[]) [] [] w6):=by
  have h1:=yc.out.1.aa Ef;refine⟨h1,(Gd _).base yc.out.1.aU.size,yc.out.2.aa Ef,fun i hi=>tS.nil _ _ _,rfl,fun e he=>by simp at he,LR.out.1,?_,?_,?_⟩
  ·rcases LR.out.2.1 with h|h <;> rw[h] <;> simp
  ·have:=yc.out.1.map.lt;omega
  exact V8 LR.out.2.1 (inl rfl) (fun x hx=>by simp at hx)
 have s1:w6.cell? ⟨b2,1,none⟩=some (.slice a n c):=kQ.out.s2.at_ 1;have PM:St w6 119 b2 #[.int .i64 S0,.slice a n c,.int .i64 (F:Int),.int .i64 T]:=kQ.out.s2;clear Gd Ef hbL s0 Sx yc LR PM;go_wp2_with fail;clear s1;go_loopw [10,11,12,32] (fun _ _ _ v wq=>∃(k nn:Nat) (nm:List Nat) (vM vF vS:Value) (fv sv:Nat->Value) (xs:Nat->List Value) (L':List En) (DL:List ((Nat->Bool) × Option Addr × Nat)),v=.int .i64 k/\k<=n/\nn<=k/\
  Hid (lW w w.heap.size b2 b3 b5 b6 b7 b8 bn bM bL (.func (.func kf) #[] #[.pointer (some ⟨bV,0,none⟩)]) mf #[.int .i64 S0,.slice a n c,.int .i64 (F:Int),.int .i64 T] (cN.setIfInBounds 256 (.int .i64 (f0:Int))) (rl (cG L) 256) aR cR L F f0 k (2*k+1) nn nm vM vF vS fv sv xs L' DL wq)) (fun _ _ _ v _=>n-(intOf v).toNat)
 ·exact⟨0,0,uV,PB,Rh,Jj,OQ,Nu,_,[],[],rfl,zero_le _,le_refl _,kQ⟩
 clear kQ;obtain⟨k,nn,nm,vM,vF,vS,fv,sv,xs,L1,DL,rfl,hk,F4,HA⟩:=hrel;by_cases aw:k<n
 ·have hkl:k<L.length:=by rw[HH.out.2.2.2.1];exact aw
  obtain⟨ge,off,rfl,hg,c0,c1,c2,c3,c4,c5,c6⟩:=(HH.out.2.2.1.below HA.out.a.aU).Qi k hkl;have HS:Hid (L.take (k+1)=L.take k++[L[k]]):=List.take_succ_eq_append_getElem hkl;have hx:=HH.out.2.2.2.2 L[k] (getElem_mem _);have nN:Hid (L[k]∈L):=getElem_mem _;generalize L[k]=x at c0 c1 c2 c3 c4 c5 c6 HS hx nN;have vf:Below wr.heap.size wr (wr.alloc (.cells #[.int .i64 (x.f:Int),.int .i64 (x.t:Int),.int .u64 ((wd x.p 0:Nat):Int),.int .u64 ((wd x.p 1:Nat):Int),.int .u64 ((wd x.p 2:Nat):Int),.int .u64 ((wd x.p 3:Nat):Int),.bool x.b] 186)):=al wr _;have yk:=hid (HA.out.aa vf.drew);have gh:Hid (St (wr.alloc (.cells #[.int .i64 (x.f:Int),.int .i64 (x.t:Int),.int .u64 ((wd x.p 0:Nat):Int),.int .u64 ((wd x.p 1:Nat):Int),.int .u64 ((wd x.p 2:Nat):Int),.int .u64 ((wd x.p 3:Nat):Int),.bool x.b] 186)).drew 186 wr.heap.size #[.int .i64 (x.f:Int),.int .i64 (x.t:Int),.int .u64 ((wd x.p 0:Nat):Int),.int .u64 ((wd x.p 1:Nat):Int),.int .u64 ((wd x.p 2:Nat):Int),.int .u64 ((wd x.p 3:Nat):Int),.bool x.b]):=St.new wr _ _;have d0:(wr.alloc (.cells #[.int .i64 (x.f:Int),.int .i64 (x.t:Int),.int .u64 ((wd x.p 0:Nat):Int),.int .u64 ((wd x.p 1:Nat):Int),.int .u64 ((wd x.p 2:Nat):Int),.int .u64 ((wd x.p 3:Nat):Int),.bool x.b] 186)).drew.cell? ⟨wr.heap.size,0,none⟩=some (.int .i64 (x.f:Int)):=gh.out.at_ 0;have d1:(wr.alloc (.cells #[.int .i64 (x.f:Int),.int .i64 (x.t:Int),.int .u64 ((wd x.p 0:Nat):Int),.int .u64 ((wd x.p 1:Nat):Int),.int .u64 ((wd x.p 2:Nat):Int),.int .u64 ((wd x.p 3:Nat):Int),.bool x.b] 186)).drew.cell? ⟨wr.heap.size,1,none⟩=some (.int .i64 (x.t:Int)):=gh.out.at_ 1;have Ll:nm.length<=90000:=by have:=HA.out.len;omega
  clear vf hkl;go_wp2_with fail;clear c0 c1 c2 c3 c4 c5 c6;refine wp_region_held_drew (S:=fun W'=>W'.cell? ⟨wr.heap.size,0,none⟩=some (.int .i64 (x.f:Int))/\W'.cell? ⟨wr.heap.size,1,none⟩=some (.int .i64 (x.t:Int))) (by kernel_rfl) ⟨d0,d1⟩ (fun hHeld=>?_)
  (refine aq 0 ?_;refine aq 1 ?_;refine aq 2 ?_;try simp only[put,sA,sB,sC];refine aq 4 ?_;refine aq 5 ?_;refine aq 6 ?_;try simp only[put,sA,sB,sC])
  refine aQ 3 (fun K hK=>?_);skip;go_simp;go_at_call 149;refine (N5 w w.heap.size bn b3 b5 b6 bM kf bV mf nm _ vM vF vS fv sv xs L1 (wr.alloc (.cells #[.int .i64 (x.f:Int),.int .i64 (x.t:Int),.int .u64 ((wd x.p 0:Nat):Int),.int .u64 ((wd x.p 1:Nat):Int),.int .u64 ((wd x.p 2:Nat):Int),.int .u64 ((wd x.p 3:Nat):Int),.bool x.b] 186)).drew HH.out.1 HH.out.2.1 yk.out.a Ll x.f hx.1).mono ?_;rintro e w2 ⟨k1,yg,vM2,vF2,DZ,fv2,sv2,rfl,IP,eO,Db,vr⟩;have mj:=hid (Zz (yk.out.num IP Db vr (inr (inr ⟨x,nN.out,inl rfl⟩))) (Zz (vr.st gh.out (fun e=>yk.out.eD gh.out (by decide) (by decide) (by decide) (by decide) (by decide) (inr e))) (Zz eO Db)));clear IP eO Db vr
  try go_wp2_with fail
  refine hK.out _ _ ⟨mj.out.2.1.at_ 0,mj.out.2.1.at_ 1⟩ (fun hHeld=>?_);clear hK K
  try simp only[put,sA,sB,sC]
  refine aQ 7 (fun K hK=>?_);skip;go_simp;go_at_call 149;refine (N5 w w.heap.size bn b3 b5 b6 bM kf bV mf yg _ vM2 vF2 DZ fv2 sv2 xs L1 w2 HH.out.1 HH.out.2.1 mj.out.1.a (by have:=mj.out.1.len;omega) x.t hx.2).mono ?_;rintro e w3 ⟨k2,lf,Az,EK,rz,we,vt,rfl,Gs,Is,DH,RX⟩;have ij:=hid (Zz (mj.out.1.num Gs DH RX (inr (inr ⟨x,nN.out,inr rfl⟩))) (Zz (RX.st mj.out.2.1 (fun e=>mj.out.1.eD mj.out.2.1 (by decide) (by decide) (by decide) (by decide) (by decide) (inr e))) (Zz (OG DH mj.out.2.2.1) (Zz Is (show L1.length<=6400 from by have:=congrArg List.length HA.out.rel;rw[length_map] at this;have h2:=List.length_take_le k L;omega)))));clear Gs Is DH RX
  try go_wp2_with fail
  refine hK.out _ _ ⟨ij.out.2.1.at_ 0,ij.out.2.1.at_ 1⟩ (fun hHeld=>?_);clear hK K
  try simp only[put,sA,sB,sC]
  (refine aq 8 ?_;refine aq 9 ?_;try simp only[put,sA,sB,sC])
  refine wpAnyH_done (by kernel_rfl) ?_ _;clear hHeld;have HK:=hid (Zz ij.out.2.2.1 ij.out.2.2.2.1);have jg:k1<lf.length:=(List.getElem?_eq_some_iff.1 HK.out.1).1;have wR:k2<lf.length:=(List.getElem?_eq_some_iff.1 HK.out.2).1;have tk:0<lf.length:=by omega
  have hnm3:lf.length<=90000:=by have:=ij.out.1.len;omega
  obtain⟨z0,z1,z2,z3,z4,z5,z6⟩:=Y4 ij.out.2.1;obtain⟨xf,xt,xp,xb⟩:=x;obtain⟨be,uu⟩:∃be,wr.heap.size=be:=⟨_,rfl⟩
  have HE:=hid ij.out.2.1;rw[uu] at z0 z1 z2 z3 z4 z5 z6 HE;rw[uu];clear d0 d1 mj yk gh HA Ll uu;dsimp only at z0 z1 z2 z3 z4 z5 z6 HE HS HK;rcases xb with _|_
  ·skip;go_wp2_with fail;obtain⟨aS,cS,rfl⟩:=bF ij.out.1.a.n.st.own;obtain⟨gS,rfl,-,-,-⟩:=eR ij.out.1.a.n.st.own tk;obtain⟨Bi,AP,hv⟩:=bF (ij.out.1.a.n.st.row k1 jg)
   try dsimp only at hv
   have tV:=hid (ij.out.1.aa (show Below w3.heap.size w3 w3.drew from (Below.refl _ _).drew));obtain⟨p,hp⟩:∃p,(cq L1 k1).length=p:=(⟨_,rfl⟩);have tR:p<=6400:=(by rw[<-hp];exact le_trans (Wq _ _) ij.out.2.2.2.2);have Ox:∀W:World,W.ownsRow w.heap.size 195 1 (.slice (some ⟨gS,0,none⟩) lf.length cS) lf.length ((range lf.length).map vt)->W.cell? ⟨gS,k1,none⟩=some (.slice Bi p AP)/\W.frozen? ⟨gS,k1,none⟩=false:=fun W hW=>by
    obtain⟨g,e,_,_,hc⟩:=eR hW tk;injection e with e;injection e with e;subst e;obtain⟨h1,h2⟩:=hc k1 (by omega);exact⟨by rw[h1];simp only[getElem?_map,getElem?_range jg,map_some,hv,hp],h2⟩
   have k0:=(Ox _ ij.out.1.a.n.st.own).1;have HV:=hid (Zz hv hp);have yI:=hid Ox;obtain⟨q,hq⟩:∃q,lf.length=q:=(⟨_,rfl⟩);have HQ:=hid hq;have j1:(k1:Int)<q:=(by omega);have j2:(0:Int)<=k1:=(by omega);obtain⟨pc,ta⟩:∃pc,(qI (rl (cG L) 256) xp).length=pc:=(⟨_,rfl⟩);have yE:=hid ta;have Lu:(rl (cG L) 256).length<=256:=(by rw[yR];exact KI _ _);have nR:=hid (zmx w.heap.size bn b7 b8 bL nn (rl (cG L) 256) aR cR _ DL w3.drew tV.out.l (fun x hx=>tV.out.lt x hx) (by omega) Lu xp);obtain⟨i0,xB,dD,db,cW⟩:=info_parts sw;have dB:=hid (fun (W:World) (h1:St W 160 b5 #[.pointer (some ⟨bn,0,none⟩)]) (h2:W.cell? ⟨bn,259,none⟩=some (.slice (some ⟨gS,0,none⟩) q cS)) (h3:St W 186 be #[.int .i64 (xf:Int),.int .i64 (xt:Int),.int .u64 ((wd xp 0:Nat):Int),.int .u64 ((wd xp 1:Nat):Int),.int .u64 ((wd xp 2:Nat):Int),.int .u64 ((wd xp 3:Nat):Int),.bool false])=>(⟨h1.at_ 0,h2,h3.at_ 2,h3.at_ 3,h3.at_ 4,h3.at_ 5⟩:W.cell? ⟨b5,0,none⟩=some (.pointer (some ⟨bn,0,none⟩))/\W.cell? ⟨bn,259,none⟩=some (.slice (some ⟨gS,0,none⟩) q cS)/\W.cell? ⟨be,2,none⟩=some (.int .u64 ((wd xp 0:Nat):Int))/\W.cell? ⟨be,3,none⟩=some (.int .u64 ((wd xp 1:Nat):Int))/\W.cell? ⟨be,4,none⟩=some (.int .u64 ((wd xp 2:Nat):Int))/\W.cell? ⟨be,5,none⟩=some (.int .u64 ((wd xp 3:Nat):Int))));have pq:=ij.out.1.a.sT;have ti:w3.cell? ⟨bn,259,none⟩=some (.slice (some ⟨gS,0,none⟩) q cS):=(by rw[<-hq];exact ij.out.1.a.n.cells.2.2);clear hv hp Ox hq ta Lu;refine wp_region_held_drew (S:=fun W'=>W'.cell? ⟨b5,0,none⟩=some (.pointer (some ⟨bn,0,none⟩))/\W'.cell? ⟨bn,259,none⟩=some (.slice (some ⟨gS,0,none⟩) q cS)/\W'.cell? ⟨be,2,none⟩=some (.int .u64 ((wd xp 0:Nat):Int))/\W'.cell? ⟨be,3,none⟩=some (.int .u64 ((wd xp 1:Nat):Int))/\W'.cell? ⟨be,4,none⟩=some (.int .u64 ((wd xp 2:Nat):Int))/\W'.cell? ⟨be,5,none⟩=some (.int .u64 ((wd xp 3:Nat):Int))) (by kernel_rfl) (dB.out _ pq.drew ti HE.out.drew) (fun hHeld=>?_)
   (refine aq 0 ?_;refine aq 1 ?_;refine aq 2 ?_;try simp only[put,sA,sB,sC];refine aq 3 ?_;refine aq 4 ?_;refine aq 5 ?_;try simp only[put,sA,sB,sC];refine aq 6 ?_;refine aq 7 ?_;refine aq 8 ?_;try simp only[put,sA,sB,sC];refine aq 9 ?_;refine aq 10 ?_;refine aq 12 ?_;try simp only[put,sA,sB,sC];refine aq 13 ?_;refine aq 14 ?_;refine aq 16 ?_;try simp only[put,sA,sB,sC])
   refine wpAnyH_ready (rs:=[11,15]) (by kernel_rfl) (by simp) ?_;refine eV (fun K hK=>?_) ?_
   ·skip;go_simp;refine hK.out _ _ (dB.out _ pq.drew ti HE.out.drew) (fun hHeld=>?_);clear hK K
    try simp only[put,sA,sB,sC]
    refine aQ 15 (fun K hK=>?_);skip;go_simp;go_at_call 170;refine nR.out.mono ?_;rintro e w4 ⟨ac,cc,DK,rfl,yD,Iu,yf,iM⟩;have gQ:=hid (tV.out.cls yD yf iM);have vq:Hid (St w4 186 be #[.int .i64 (xf:Int),.int .i64 (xt:Int),.int .u64 ((wd xp 0:Nat):Int),.int .u64 ((wd xp 1:Nat):Int),.int .u64 ((wd xp 2:Nat):Int),.int .u64 ((wd xp 3:Nat):Int),.bool false]):=Yl HE.out.drew tV.out.l yf;have MM:=hid Iu;rw[yE.out];clear yD Iu yf iM;have dW:=hid (gQ.out.aa (al w4 (.cells #[.slice ac pc cc,.int .i64 (k2:Int)] 197)));have AH:=hid (vq.out.aa (al w4 (.cells #[.slice ac pc cc,.int .i64 (k2:Int)] 197)));have nv:=gQ.out.a.sT;have iR:=dW.out.a.sT;have rV:w4.cell? ⟨bn,259,none⟩=some (.slice (some ⟨gS,0,none⟩) q cS):=(by rw[<-HQ.out];exact gQ.out.a.n.cells.2.2);have xG:(w4.alloc (.cells #[.slice ac pc cc,.int .i64 (k2:Int)] 197)).cell? ⟨bn,259,none⟩=some (.slice (some ⟨gS,0,none⟩) q cS):=(by rw[<-HQ.out];exact dW.out.a.n.cells.2.2);have k4:=(yI.out _ gQ.out.a.n.st.own).1;have k5:=(yI.out _ dW.out.a.n.st.own).1;have cY:=dW.out.a.n.st.row k1 jg;rw[HV.out.1,HV.out.2] at cY;have yl:w.heap.size<=(w4.alloc (.cells #[.slice ac pc cc,.int .i64 (k2:Int)] 197)).heap.size:=dW.out.a.n.lo.2
    try go_wp2_with fail
    refine hK.out _ _ (dB.out _ nv rV vq.out) (fun hHeld=>?_);clear hK K
    try simp only[put,sA,sB,sC]
    (refine aq 17 ?_;try simp only[put,sA,sB,sC])
    refine aQ 18 (fun K hK=>?_);skip;go_simp;refine hK.out _ _ (dB.out _ iR xG AH.out) (fun hHeld=>?_);clear hK K
    try simp only[put,sA,sB,sC]
    refine aQ 19 (fun K hK=>?_);skip;skip;refine step_append_lies _ (by rfl) _ _ _ (by rfl) w.heap.size 197 i0 (.agg #[.slice none 0 0,.int .i64 0]) 2 32 underlying195 xB dD db cW (by rfl) (by decide) _ p (xs k1) (by rfl) cY ⟨w4.heap.size,0,none⟩ 1 1 (#[.slice ac pc cc,.int .i64 (k2:Int)]).toList (by rfl) (by rfl) (news_of_block (cs:=#[.slice ac pc cc,.int .i64 (k2:Int)]) (t:=197) (fr:=(0,0)) (heap_alloc_new w4 _)) (by simp[oneCell']) (by omega) (by unfold maxLen;omega) (by omega) yl (w4.heap.size+1) (by simp) ?_;intro gg eI w6 an af bH iz;have eJ:=dW.out.a.n.st.row k1 jg;have fQ:=af;rw[show (Value.slice Bi p AP)=vt k1 from by rw[HV.out.1,HV.out.2]] at fQ;obtain⟨tI,sN⟩:=dW.out.a.n.Dq (x:=⟨k1,k2,xp,false⟩) rfl jg wR (v':=(.slice (some ⟨gg,0,none⟩) (p+1) eI)) (p:=p) an HV.out.2 fQ (fun b e=>by rw[HV.out.1,HV.out.2];injection e with e;rw[<-e];rcases bH with h|h;exact inl h;exact inr (by rw[h];simp));have fF:=dW.out.a.sT.ag eJ (by decide) fQ;have fE:=AH.out.ag eJ (by decide) fQ;have iB:=dW.out.a.n.sn.ag eJ (by decide) fQ;have dV:w6.cell? ⟨bn,259,none⟩=some (.slice (some ⟨gS,0,none⟩) q cS):=(by rw[iB.at_,<-dW.out.a.n.sn.at_];exact xG);have jS:=uO dW.out.a.n.st.own eJ (by decide) fQ;obtain⟨t2,t3⟩:=yI.out _ jS;have gk:b5≠gS/\bn≠gS/\be≠gS:=(⟨fun e=>dG jS fF (by decide) gS rfl e.symm,fun e=>dG jS iB (by decide) gS rfl e.symm,fun e=>dG jS fE (by decide) gS rfl e.symm⟩);have HF:Hid (lW w w.heap.size b2 b3 b5 b6 b7 b8 bn bM bL (.func (.func kf) #[] #[.pointer (some ⟨bV,0,none⟩)]) mf #[.int .i64 S0,.slice (some ⟨ge,off,none⟩) n c,.int .i64 (F:Int),.int .i64 T] (cN.setIfInBounds 256 (.int .i64 (f0:Int))) (rl (cG L) 256) aR cR L F f0 (k+1) (2*(k+1)+1) (nn+1) lf Az EK (.slice (some ⟨gS,0,none⟩) q cS) we (fun j=>if j=k1 then (.slice (some ⟨gg,0,none⟩) (p+1) eI) else vt j) (fun j=>if j=k1 then xs k1++(#[.slice ac pc cc,.int .i64 (k2:Int)]).toList else xs j) (L1++[⟨k1,k2,xp,false⟩]) DK (w6.setCell ⟨gS,k1,none⟩ (.slice (some ⟨gg,0,none⟩) (p+1) eI))):=by
     rw[<-HQ.out];refine dW.out.put (x:=⟨xf,xt,xp,false⟩) tI sN HS.out HK.out.1 HK.out.2 (fun i hi=>?_);rw[DA];by_cases e:i=k1
     ·subst e;rw[if_pos ⟨rfl,rfl⟩,if_pos rfl];have AZ:=(iq.aa (B:=w.heap.size) (bn:=bn) (P:=rF bL bM bn lf.length Az EK (.slice (some ⟨gS,0,none⟩) lf.length cS) we vt) (al w4 (.cells #[.slice ac pc cc,.int .i64 (k2:Int)] 197)) gQ.out.a.n.lo.2).Fg MM.out;have:=(dW.out.rows i hi).snoc ⟨i,k2,xp,false⟩ ac cc AZ;dsimp only at this;rw[yE.out] at this;exact this
     rw[if_neg (fun h=>e h.2.symm),if_neg e];exact dW.out.rows i hi
    refine hK.out _ _ (dB.out _ fF dV fE) (fun hHeld=>?_);clear hK K an af bH iz tI sN eJ fQ jS iB
    try simp only[put,sA,sB,sC]
    (refine aq 20 ?_;try simp only[put,sA,sB,sC])
    refine aQ 21 (fun K hK=>?_);skip;go_simp;refine hK.out _ _ (dB.out _ (fF.eD (p:=⟨gS,k1,none⟩) gk.1 _) ((Jt _ _ _ gk.2.1).trans dV) (fE.eD (p:=⟨gS,k1,none⟩) gk.2.2 _)) (fun hHeld=>?_);clear hK K
    try simp only[put,sA,sB,sC]
    refine wpAnyH_done (by kernel_rfl) ?_ _;clear fF gk dV t2 t3 hHeld pq nv iR ti rV xG k0 k4 k5 fE;go_wp2;go_roundw
    ·exact⟨k+1,nn+1,lf,_,_,_,_,_,_,_,DK,by go_num,by omega,by omega,HF⟩
    simp[intOf];omega
   refine eV (fun K hK=>?_) ?_
   ·skip;go_simp;go_at_call 170;refine nR.out.mono ?_;rintro e w4 ⟨ac,cc,DK,rfl,yD,Iu,yf,iM⟩;have gQ:=hid (tV.out.cls yD yf iM);have vq:Hid (St w4 186 be #[.int .i64 (xf:Int),.int .i64 (xt:Int),.int .u64 ((wd xp 0:Nat):Int),.int .u64 ((wd xp 1:Nat):Int),.int .u64 ((wd xp 2:Nat):Int),.int .u64 ((wd xp 3:Nat):Int),.bool false]):=Yl HE.out.drew tV.out.l yf;have MM:=hid Iu;rw[yE.out];clear yD Iu yf iM;have dW:=hid (gQ.out.aa (al w4 (.cells #[.slice ac pc cc,.int .i64 (k2:Int)] 197)));have AH:=hid (vq.out.aa (al w4 (.cells #[.slice ac pc cc,.int .i64 (k2:Int)] 197)));have nv:=gQ.out.a.sT;have iR:=dW.out.a.sT;have rV:w4.cell? ⟨bn,259,none⟩=some (.slice (some ⟨gS,0,none⟩) q cS):=(by rw[<-HQ.out];exact gQ.out.a.n.cells.2.2);have xG:(w4.alloc (.cells #[.slice ac pc cc,.int .i64 (k2:Int)] 197)).cell? ⟨bn,259,none⟩=some (.slice (some ⟨gS,0,none⟩) q cS):=(by rw[<-HQ.out];exact dW.out.a.n.cells.2.2);have k4:=(yI.out _ gQ.out.a.n.st.own).1;have k5:=(yI.out _ dW.out.a.n.st.own).1;have cY:=dW.out.a.n.st.row k1 jg;rw[HV.out.1,HV.out.2] at cY;have yl:w.heap.size<=(w4.alloc (.cells #[.slice ac pc cc,.int .i64 (k2:Int)] 197)).heap.size:=dW.out.a.n.lo.2
    try go_wp2_with fail
    refine hK.out _ _ (dB.out _ nv rV vq.out) (fun hHeld=>?_);clear hK K
    try simp only[put,sA,sB,sC]
    (refine aq 17 ?_;try simp only[put,sA,sB,sC])
    refine wpAnyH_ready (rs:=[11,18]) (by kernel_rfl) (by simp) ?_;refine eV (fun K hK=>?_) ?_
    ·skip;go_simp;refine hK.out _ _ (dB.out _ nv rV vq.out) (fun hHeld=>?_);clear hK K
     try simp only[put,sA,sB,sC]
     refine aQ 18 (fun K hK=>?_);skip;go_simp;refine hK.out _ _ (dB.out _ iR xG AH.out) (fun hHeld=>?_);clear hK K
     try simp only[put,sA,sB,sC]
     refine aQ 19 (fun K hK=>?_);skip;skip;refine step_append_lies _ (by rfl) _ _ _ (by rfl) w.heap.size 197 i0 (.agg #[.slice none 0 0,.int .i64 0]) 2 32 underlying195 xB dD db cW (by rfl) (by decide) _ p (xs k1) (by rfl) cY ⟨w4.heap.size,0,none⟩ 1 1 (#[.slice ac pc cc,.int .i64 (k2:Int)]).toList (by rfl) (by rfl) (news_of_block (cs:=#[.slice ac pc cc,.int .i64 (k2:Int)]) (t:=197) (fr:=(0,0)) (heap_alloc_new w4 _)) (by simp[oneCell']) (by omega) (by unfold maxLen;omega) (by omega) yl (w4.heap.size+1) (by simp) ?_;intro gg eI w6 an af bH iz;have eJ:=dW.out.a.n.st.row k1 jg;have fQ:=af;rw[show (Value.slice Bi p AP)=vt k1 from by rw[HV.out.1,HV.out.2]] at fQ;obtain⟨tI,sN⟩:=dW.out.a.n.Dq (x:=⟨k1,k2,xp,false⟩) rfl jg wR (v':=(.slice (some ⟨gg,0,none⟩) (p+1) eI)) (p:=p) an HV.out.2 fQ (fun b e=>by rw[HV.out.1,HV.out.2];injection e with e;rw[<-e];rcases bH with h|h;exact inl h;exact inr (by rw[h];simp));have fF:=dW.out.a.sT.ag eJ (by decide) fQ;have fE:=AH.out.ag eJ (by decide) fQ;have iB:=dW.out.a.n.sn.ag eJ (by decide) fQ;have dV:w6.cell? ⟨bn,259,none⟩=some (.slice (some ⟨gS,0,none⟩) q cS):=(by rw[iB.at_,<-dW.out.a.n.sn.at_];exact xG);have jS:=uO dW.out.a.n.st.own eJ (by decide) fQ;obtain⟨t2,t3⟩:=yI.out _ jS;have gk:b5≠gS/\bn≠gS/\be≠gS:=(⟨fun e=>dG jS fF (by decide) gS rfl e.symm,fun e=>dG jS iB (by decide) gS rfl e.symm,fun e=>dG jS fE (by decide) gS rfl e.symm⟩);have HF:Hid (lW w w.heap.size b2 b3 b5 b6 b7 b8 bn bM bL (.func (.func kf) #[] #[.pointer (some ⟨bV,0,none⟩)]) mf #[.int .i64 S0,.slice (some ⟨ge,off,none⟩) n c,.int .i64 (F:Int),.int .i64 T] (cN.setIfInBounds 256 (.int .i64 (f0:Int))) (rl (cG L) 256) aR cR L F f0 (k+1) (2*(k+1)+1) (nn+1) lf Az EK (.slice (some ⟨gS,0,none⟩) q cS) we (fun j=>if j=k1 then (.slice (some ⟨gg,0,none⟩) (p+1) eI) else vt j) (fun j=>if j=k1 then xs k1++(#[.slice ac pc cc,.int .i64 (k2:Int)]).toList else xs j) (L1++[⟨k1,k2,xp,false⟩]) DK (w6.setCell ⟨gS,k1,none⟩ (.slice (some ⟨gg,0,none⟩) (p+1) eI))):=by
      rw[<-HQ.out];refine dW.out.put (x:=⟨xf,xt,xp,false⟩) tI sN HS.out HK.out.1 HK.out.2 (fun i hi=>?_);rw[DA];by_cases e:i=k1
      ·subst e;rw[if_pos ⟨rfl,rfl⟩,if_pos rfl];have AZ:=(iq.aa (B:=w.heap.size) (bn:=bn) (P:=rF bL bM bn lf.length Az EK (.slice (some ⟨gS,0,none⟩) lf.length cS) we vt) (al w4 (.cells #[.slice ac pc cc,.int .i64 (k2:Int)] 197)) gQ.out.a.n.lo.2).Fg MM.out;have:=(dW.out.rows i hi).snoc ⟨i,k2,xp,false⟩ ac cc AZ;dsimp only at this;rw[yE.out] at this;exact this
      rw[if_neg (fun h=>e h.2.symm),if_neg e];exact dW.out.rows i hi
     refine hK.out _ _ (dB.out _ fF dV fE) (fun hHeld=>?_);clear hK K an af bH iz tI sN eJ fQ jS iB
     try simp only[put,sA,sB,sC]
     (refine aq 20 ?_;try simp only[put,sA,sB,sC])
     refine aQ 21 (fun K hK=>?_);skip;go_simp;refine hK.out _ _ (dB.out _ (fF.eD (p:=⟨gS,k1,none⟩) gk.1 _) ((Jt _ _ _ gk.2.1).trans dV) (fE.eD (p:=⟨gS,k1,none⟩) gk.2.2 _)) (fun hHeld=>?_);clear hK K
     try simp only[put,sA,sB,sC]
     refine wpAnyH_done (by kernel_rfl) ?_ _;clear fF gk dV t2 t3 hHeld pq nv iR ti rV xG k0 k4 k5 fE;go_wp2;go_roundw
     ·exact⟨k+1,nn+1,lf,_,_,_,_,_,_,_,DK,by go_num,by omega,by omega,HF⟩
     simp[intOf];omega
    refine eV (fun K hK=>?_) ?_
    ·skip;go_simp;refine hK.out _ _ (dB.out _ iR xG AH.out) (fun hHeld=>?_);clear hK K
     try simp only[put,sA,sB,sC]
     refine aQ 11 (fun K hK=>?_);skip;go_simp;refine hK.out _ _ (dB.out _ iR xG AH.out) (fun hHeld=>?_);clear hK K
     try simp only[put,sA,sB,sC]
     refine aQ 19 (fun K hK=>?_);skip;skip;refine step_append_lies _ (by rfl) _ _ _ (by rfl) w.heap.size 197 i0 (.agg #[.slice none 0 0,.int .i64 0]) 2 32 underlying195 xB dD db cW (by rfl) (by decide) _ p (xs k1) (by rfl) cY ⟨w4.heap.size,0,none⟩ 1 1 (#[.slice ac pc cc,.int .i64 (k2:Int)]).toList (by rfl) (by rfl) (news_of_block (cs:=#[.slice ac pc cc,.int .i64 (k2:Int)]) (t:=197) (fr:=(0,0)) (heap_alloc_new w4 _)) (by simp[oneCell']) (by omega) (by unfold maxLen;omega) (by omega) yl (w4.heap.size+1) (by simp) ?_;intro gg eI w6 an af bH iz;have eJ:=dW.out.a.n.st.row k1 jg;have fQ:=af;rw[show (Value.slice Bi p AP)=vt k1 from by rw[HV.out.1,HV.out.2]] at fQ;obtain⟨tI,sN⟩:=dW.out.a.n.Dq (x:=⟨k1,k2,xp,false⟩) rfl jg wR (v':=(.slice (some ⟨gg,0,none⟩) (p+1) eI)) (p:=p) an HV.out.2 fQ (fun b e=>by rw[HV.out.1,HV.out.2];injection e with e;rw[<-e];rcases bH with h|h;exact inl h;exact inr (by rw[h];simp));have fF:=dW.out.a.sT.ag eJ (by decide) fQ;have fE:=AH.out.ag eJ (by decide) fQ;have iB:=dW.out.a.n.sn.ag eJ (by decide) fQ;have dV:w6.cell? ⟨bn,259,none⟩=some (.slice (some ⟨gS,0,none⟩) q cS):=(by rw[iB.at_,<-dW.out.a.n.sn.at_];exact xG);have jS:=uO dW.out.a.n.st.own eJ (by decide) fQ;obtain⟨t2,t3⟩:=yI.out _ jS;have gk:b5≠gS/\bn≠gS/\be≠gS:=(⟨fun e=>dG jS fF (by decide) gS rfl e.symm,fun e=>dG jS iB (by decide) gS rfl e.symm,fun e=>dG jS fE (by decide) gS rfl e.symm⟩);have HF:Hid (lW w w.heap.size b2 b3 b5 b6 b7 b8 bn bM bL (.func (.func kf) #[] #[.pointer (some ⟨bV,0,none⟩)]) mf #[.int .i64 S0,.slice (some ⟨ge,off,none⟩) n c,.int .i64 (F:Int),.int .i64 T] (cN.setIfInBounds 256 (.int .i64 (f0:Int))) (rl (cG L) 256) aR cR L F f0 (k+1) (2*(k+1)+1) (nn+1) lf Az EK (.slice (some ⟨gS,0,none⟩) q cS) we (fun j=>if j=k1 then (.slice (some ⟨gg,0,none⟩) (p+1) eI) else vt j) (fun j=>if j=k1 then xs k1++(#[.slice ac pc cc,.int .i64 (k2:Int)]).toList else xs j) (L1++[⟨k1,k2,xp,false⟩]) DK (w6.setCell ⟨gS,k1,none⟩ (.slice (some ⟨gg,0,none⟩) (p+1) eI))):=by
      rw[<-HQ.out];refine dW.out.put (x:=⟨xf,xt,xp,false⟩) tI sN HS.out HK.out.1 HK.out.2 (fun i hi=>?_);rw[DA];by_cases e:i=k1
      ·subst e;rw[if_pos ⟨rfl,rfl⟩,if_pos rfl];have AZ:=(iq.aa (B:=w.heap.size) (bn:=bn) (P:=rF bL bM bn lf.length Az EK (.slice (some ⟨gS,0,none⟩) lf.length cS) we vt) (al w4 (.cells #[.slice ac pc cc,.int .i64 (k2:Int)] 197)) gQ.out.a.n.lo.2).Fg MM.out;have:=(dW.out.rows i hi).snoc ⟨i,k2,xp,false⟩ ac cc AZ;dsimp only at this;rw[yE.out] at this;exact this
      rw[if_neg (fun h=>e h.2.symm),if_neg e];exact dW.out.rows i hi
     refine hK.out _ _ (dB.out _ fF dV fE) (fun hHeld=>?_);clear hK K an af bH iz tI sN eJ fQ jS iB
     try simp only[put,sA,sB,sC]
     (refine aq 20 ?_;try simp only[put,sA,sB,sC])
     refine aQ 21 (fun K hK=>?_);skip;go_simp;refine hK.out _ _ (dB.out _ (fF.eD (p:=⟨gS,k1,none⟩) gk.1 _) ((Jt _ _ _ gk.2.1).trans dV) (fE.eD (p:=⟨gS,k1,none⟩) gk.2.2 _)) (fun hHeld=>?_);clear hK K
     try simp only[put,sA,sB,sC]
     refine wpAnyH_done (by kernel_rfl) ?_ _;clear fF gk dV t2 t3 hHeld pq nv iR ti rV xG k0 k4 k5 fE;go_wp2;go_roundw
     ·exact⟨k+1,nn+1,lf,_,_,_,_,_,_,_,DK,by go_num,by omega,by omega,HF⟩
     simp[intOf];omega
    exact AllReadyH.nil
   exact AllReadyH.nil
  skip;go_wp2_with fail;obtain⟨aF,cF,rfl⟩:=bF ij.out.1.a.n.fr.own;obtain⟨gF,rfl,-,-,-⟩:=eR ij.out.1.a.n.fr.own tk;obtain⟨Bi,AP,hv⟩:=bF (ij.out.1.a.n.fr.row k1 jg)
  try dsimp only at hv
  have gQ:=hid (ij.out.1.aa (show Below w3.heap.size w3 (w3.alloc (.cells #[.int .i64 (k2:Int)] 3)).drew from (al w3 _).drew));have cY:=gQ.out.a.n.fr.row k1 jg;rw[hv] at cY
  try dsimp only at cY
  obtain⟨p,hp⟩:∃p,(dH L1 k1).length=p:=⟨_,rfl⟩
  have tR:p<=6400:=by rw[<-hp];exact le_trans (TY _ _) ij.out.2.2.2.2
  have tf:=ij.out.1.a.n.fr.own;have Kd:∀W:World,W.ownsRow w.heap.size 43 1 (.slice (some ⟨gF,0,none⟩) lf.length cF) lf.length ((range lf.length).map we)->W.cell? ⟨gF,k1,none⟩=some (.slice Bi p AP)/\W.frozen? ⟨gF,k1,none⟩=false:=fun W hW=>by
   obtain⟨g,e,_,_,hc⟩:=eR hW tk;injection e with e;injection e with e;subst e;obtain⟨h1,h2⟩:=hc k1 (by omega);exact⟨by rw[h1];simp only[getElem?_map,getElem?_range jg,map_some,hv,hp],h2⟩
  have k0:=(Kd _ ij.out.1.a.n.fr.own).1;have m2:=(Kd _ gQ.out.a.n.fr.own).1;have HV:=hid (Zz hv hp);have yI:=hid Kd;obtain⟨q,hq⟩:∃q,lf.length=q:=⟨_,rfl⟩
  have HQ:=hid hq;have j1:(k1:Int)<q:=by omega
  have j2:(0:Int)<=k1:=by omega
  have yl:w.heap.size<=((w3.alloc (.cells #[.int .i64 (k2:Int)] 3)).drew).heap.size:=gQ.out.a.n.lo.2;rw[hp] at cY;obtain⟨i0,xB,dD,db,cW⟩:=info_parts az;have dB:=hid (fun (W:World) (h1:St W 160 b5 #[.pointer (some ⟨bn,0,none⟩)]) (h2:W.cell? ⟨bn,258,none⟩=some (.slice (some ⟨gF,0,none⟩) q cF))=>(⟨h1.at_ 0,h2⟩:W.cell? ⟨b5,0,none⟩=some (.pointer (some ⟨bn,0,none⟩))/\W.cell? ⟨bn,258,none⟩=some (.slice (some ⟨gF,0,none⟩) q cF)));have pq:=ij.out.1.a.sT;have nv:=gQ.out.a.sT;have ti:w3.cell? ⟨bn,258,none⟩=some (.slice (some ⟨gF,0,none⟩) q cF):=by rw[<-hq];exact ij.out.1.a.n.cells.2.1
  have rV:((w3.alloc (.cells #[.int .i64 (k2:Int)] 3)).drew).cell? ⟨bn,258,none⟩=some (.slice (some ⟨gF,0,none⟩) q cF):=by rw[<-hq];exact gQ.out.a.n.cells.2.1
  clear hv hp tf Kd hq;refine wp_region_held_drew (S:=fun W'=>W'.cell? ⟨b5,0,none⟩=some (.pointer (some ⟨bn,0,none⟩))/\W'.cell? ⟨bn,258,none⟩=some (.slice (some ⟨gF,0,none⟩) q cF)) (by kernel_rfl) (dB.out _ pq.drew ti) (fun hHeld=>?_)
  (refine aq 0 ?_;refine aq 1 ?_;refine aq 2 ?_;try simp only[put,sA,sB,sC];refine aq 3 ?_;refine aq 4 ?_;refine aq 5 ?_;try simp only[put,sA,sB,sC];refine aq 6 ?_;refine aq 7 ?_;refine aq 8 ?_;try simp only[put,sA,sB,sC];refine aq 9 ?_;refine aq 10 ?_;refine aq 12 ?_;try simp only[put,sA,sB,sC])
  refine wpAnyH_ready (rs:=[11,13]) (by kernel_rfl) (by simp) ?_;refine eV (fun K hK=>?_) ?_
  ·skip;go_simp;refine hK.out _ _ (dB.out _ pq.drew ti) (fun hHeld=>?_);clear hK K
   try simp only[put,sA,sB,sC]
   refine aQ 13 (fun K hK=>?_);skip;go_simp;refine hK.out _ _ (dB.out _ nv rV) (fun hHeld=>?_);clear hK K
   try simp only[put,sA,sB,sC]
   refine aQ 14 (fun K hK=>?_);skip;skip;refine step_append_lies _ (by rfl) _ _ _ (by rfl) w.heap.size 3 i0 (.int .i64 0) 1 8 underlying43 xB dD db cW (by rfl) (by decide) _ p (cy (dH L1 k1)) (by rfl) cY ⟨w3.heap.size,0,none⟩ 1 1 (#[.int .i64 (k2:Int)]).toList (by rfl) (by rfl) (news_of_block (cs:=#[.int .i64 (k2:Int)]) (t:=3) (fr:=(0,0)) (heap_alloc_new w3 _)) (by simp[oneCell']) (by omega) (by unfold maxLen;omega) (by omega) yl (w3.heap.size+1) (by simp) ?_;intro gg eI w6 an af bH iz;have eJ:=gQ.out.a.n.fr.row k1 jg;have fQ:=af;rw[show (Value.slice Bi p AP)=we k1 from by rw[HV.out.1,HV.out.2]] at fQ;obtain⟨tI,sN⟩:=gQ.out.a.n.Ho (x:=⟨k1,k2,xp,true⟩) rfl jg wR (v':=(.slice (some ⟨gg,0,none⟩) (p+1) eI)) (p:=p) an HV.out.2 fQ (fun b e=>by rw[HV.out.1,HV.out.2];injection e with e;rw[<-e];rcases bH with h|h;exact inl h;exact inr (by rw[h];simp));have fF:=gQ.out.a.sT.ag eJ (by decide) fQ;have iB:=gQ.out.a.n.sn.ag eJ (by decide) fQ;have dV:w6.cell? ⟨bn,258,none⟩=some (.slice (some ⟨gF,0,none⟩) q cF):=(by rw[iB.at_,<-gQ.out.a.n.sn.at_];exact rV);have jS:=uO gQ.out.a.n.fr.own eJ (by decide) fQ;obtain⟨t2,t3⟩:=yI.out _ jS;have gk:b5≠gF/\bn≠gF:=(⟨fun e=>dG jS fF (by decide) gF rfl e.symm,fun e=>dG jS iB (by decide) gF rfl e.symm⟩);have HF:Hid (lW w w.heap.size b2 b3 b5 b6 b7 b8 bn bM bL (.func (.func kf) #[] #[.pointer (some ⟨bV,0,none⟩)]) mf #[.int .i64 S0,.slice (some ⟨ge,off,none⟩) n c,.int .i64 (F:Int),.int .i64 T] (cN.setIfInBounds 256 (.int .i64 (f0:Int))) (rl (cG L) 256) aR cR L F f0 (k+1) (2*(k+1)+1) nn lf Az (.slice (some ⟨gF,0,none⟩) q cF) rz (fun j=>if j=k1 then (.slice (some ⟨gg,0,none⟩) (p+1) eI) else we j) vt xs (L1++[⟨k1,k2,xp,true⟩]) DL (w6.setCell ⟨gF,k1,none⟩ (.slice (some ⟨gg,0,none⟩) (p+1) eI))):=by
    rw[<-HQ.out];exact gQ.out.put (x:=⟨xf,xt,xp,true⟩) tI sN HS.out HK.out.1 HK.out.2 (fun i hi=>by rw[DA,if_neg (by simp)];exact gQ.out.rows i hi)
   refine hK.out _ _ (dB.out _ fF dV) (fun hHeld=>?_);clear hK K an af bH iz tI sN eJ fQ jS iB
   try simp only[put,sA,sB,sC]
   (refine aq 15 ?_;try simp only[put,sA,sB,sC])
   refine aQ 16 (fun K hK=>?_);skip;go_simp;refine hK.out _ _ (dB.out _ (fF.eD (p:=⟨gF,k1,none⟩) gk.1 _) ((Jt _ _ _ gk.2).trans dV)) (fun hHeld=>?_);clear hK K
   try simp only[put,sA,sB,sC]
   refine wpAnyH_done (by kernel_rfl) ?_ _;clear fF gk dV t2 t3 hHeld pq nv ti rV;go_wp2;go_roundw
   ·exact⟨k+1,nn,lf,_,_,_,_,_,_,_,DL,by go_num,by omega,by omega,HF⟩
   simp[intOf];omega
  refine eV (fun K hK=>?_) ?_
  ·skip;go_simp;refine hK.out _ _ (dB.out _ nv rV) (fun hHeld=>?_);clear hK K
   try simp only[put,sA,sB,sC]
   refine aQ 11 (fun K hK=>?_);skip;go_simp;refine hK.out _ _ (dB.out _ nv rV) (fun hHeld=>?_);clear hK K
   try simp only[put,sA,sB,sC]
   refine aQ 14 (fun K hK=>?_);skip;skip;refine step_append_lies _ (by rfl) _ _ _ (by rfl) w.heap.size 3 i0 (.int .i64 0) 1 8 underlying43 xB dD db cW (by rfl) (by decide) _ p (cy (dH L1 k1)) (by rfl) cY ⟨w3.heap.size,0,none⟩ 1 1 (#[.int .i64 (k2:Int)]).toList (by rfl) (by rfl) (news_of_block (cs:=#[.int .i64 (k2:Int)]) (t:=3) (fr:=(0,0)) (heap_alloc_new w3 _)) (by simp[oneCell']) (by omega) (by unfold maxLen;omega) (by omega) yl (w3.heap.size+1) (by simp) ?_;intro gg eI w6 an af bH iz;have eJ:=gQ.out.a.n.fr.row k1 jg;have fQ:=af;rw[show (Value.slice Bi p AP)=we k1 from by rw[HV.out.1,HV.out.2]] at fQ;obtain⟨tI,sN⟩:=gQ.out.a.n.Ho (x:=⟨k1,k2,xp,true⟩) rfl jg wR (v':=(.slice (some ⟨gg,0,none⟩) (p+1) eI)) (p:=p) an HV.out.2 fQ (fun b e=>by rw[HV.out.1,HV.out.2];injection e with e;rw[<-e];rcases bH with h|h;exact inl h;exact inr (by rw[h];simp));have fF:=gQ.out.a.sT.ag eJ (by decide) fQ;have iB:=gQ.out.a.n.sn.ag eJ (by decide) fQ;have dV:w6.cell? ⟨bn,258,none⟩=some (.slice (some ⟨gF,0,none⟩) q cF):=(by rw[iB.at_,<-gQ.out.a.n.sn.at_];exact rV);have jS:=uO gQ.out.a.n.fr.own eJ (by decide) fQ;obtain⟨t2,t3⟩:=yI.out _ jS;have gk:b5≠gF/\bn≠gF:=(⟨fun e=>dG jS fF (by decide) gF rfl e.symm,fun e=>dG jS iB (by decide) gF rfl e.symm⟩);have HF:Hid (lW w w.heap.size b2 b3 b5 b6 b7 b8 bn bM bL (.func (.func kf) #[] #[.pointer (some ⟨bV,0,none⟩)]) mf #[.int .i64 S0,.slice (some ⟨ge,off,none⟩) n c,.int .i64 (F:Int),.int .i64 T] (cN.setIfInBounds 256 (.int .i64 (f0:Int))) (rl (cG L) 256) aR cR L F f0 (k+1) (2*(k+1)+1) nn lf Az (.slice (some ⟨gF,0,none⟩) q cF) rz (fun j=>if j=k1 then (.slice (some ⟨gg,0,none⟩) (p+1) eI) else we j) vt xs (L1++[⟨k1,k2,xp,true⟩]) DL (w6.setCell ⟨gF,k1,none⟩ (.slice (some ⟨gg,0,none⟩) (p+1) eI))):=by
    rw[<-HQ.out];exact gQ.out.put (x:=⟨xf,xt,xp,true⟩) tI sN HS.out HK.out.1 HK.out.2 (fun i hi=>by rw[DA,if_neg (by simp)];exact gQ.out.rows i hi)
   refine hK.out _ _ (dB.out _ fF dV) (fun hHeld=>?_);clear hK K an af bH iz tI sN eJ fQ jS iB
   try simp only[put,sA,sB,sC]
   (refine aq 15 ?_;try simp only[put,sA,sB,sC])
   refine aQ 16 (fun K hK=>?_);skip;go_simp;refine hK.out _ _ (dB.out _ (fF.eD (p:=⟨gF,k1,none⟩) gk.1 _) ((Jt _ _ _ gk.2).trans dV)) (fun hHeld=>?_);clear hK K
   try simp only[put,sA,sB,sC]
   refine wpAnyH_done (by kernel_rfl) ?_ _;clear fF gk dV t2 t3 hHeld pq nv ti rV;go_wp2;go_roundw
   ·exact⟨k+1,nn,lf,_,_,_,_,_,_,_,DL,by go_num,by omega,by omega,HF⟩
   simp[intOf];omega
  exact AllReadyH.nil
 obtain rfl:k=n:=by omega
 have s0:wr.cell? ⟨b5,0,none⟩=some (.pointer (some ⟨bn,0,none⟩)):=HA.out.a.sT.at_ 0;have HF:Hid (FK (cG L) mf L F w (.returned (.pointer (some ⟨bn,0,none⟩))) wr):=by
  have Bv:=HA.out.rel;rw[show L.take k=L by rw[<-HH.out.2.2.2.1];exact take_length] at Bv;have hpos:0<nm.length:=by
   have:=(List.getElem?_eq_some_iff.1 HA.out.hf).1;omega
  have Ad:∀i (h:i<nm.length),nm.getD i 0=nm[i]:=fun i h=>by simp[List.getD,h]
  obtain⟨gM,cM,gF,cF,gS,cS,h1,h2,h3⟩:=HA.out.a.n.ZS (mk:=fun i=>mf (nm.getD i 0)) hpos HA.out.rows (fun i hi=>by simp[hi]);refine⟨bn,f0,gM,cM,gF,cF,gS,cS,nm,L1,_,_,_,_,csA,rfl,HA.out.a.aU,h1,h2,h3,HA.out.a.n.cl HN.out.1 HN.out.2.1 (fun j hj=>by rw[getElem?_setIfInBounds_ne (by omega)];exact HN.out.2.2.2.1 j hj),?_,Bv,HA.out.a.nd,HA.out.bd,HA.out.hf,by have:=HA.out.len;have:=HH.out.2.2.2.1;omega,HA.out.src⟩;rw[HA.out.a.n.sn.at_,getElem?_setIfInBounds_ne (by decide),getElem?_setIfInBounds_ne (by decide),getElem?_setIfInBounds_ne (by decide),Array.getElem?_setIfInBounds_self_of_lt (by rw[HN.out.2.2.1];decide)]
 go_wp2;go_ret;exact HF.out
theorem zkP(l:List Nat)(hl:∀x∈l,x<256)(i:Nat)(h:i<l.length):lQ (strOf l) i=l[i]:=by
 have hs:i<(strOf l).size:=by rw[z8];exact h
 rw[<-N6 _ i hs];have h1:((strOf l).data.toList)[i]?=some ((strOf l)[i]'hs):=by
  rw[getElem?_toList];exact Array.getElem?_eq_getElem hs
 rw[Bo,getElem?_map,List.getElem?_eq_getElem h] at h1;simp only[map_some,Option.some.injEq] at h1;rw[<-h1];have:=hl l[i] (getElem_mem h);simp[UInt8.toNat_ofNat];omega
theorem zoH(M:Nat)(f:Nat->Bool)(i:Nat)(h:i<(M+7) / 8):lQ (jR M f) i=jY (eH f M) i:=by
 unfold jR;rw[zkP _ (Jf f M) i (by simp[fI];omega)];simp[fI]
theorem zmH(M:Nat)(f:Nat->Bool):(jR M f).size=(M+7) / 8:=by unfold jR;rw[z8];simp[fI]
def pK(L:List En)(rp:Nat->Nat)(es:List En)(c x:Nat):Prop:=∃e∈es,e.p (rp c)=true/\e.t=x
def nj(L:List En)(Ls:List Nat)(i:Nat):Nat:=((Ls.take i).flatMap (cq L)).length
def jQ(lc:List Nat)(j c:Nat):Nat:=if c∈lc.take j then 1 else 0
theorem Wm(lc:List Nat)(j c:Nat):jQ lc j c<=1:=by unfold jQ;split <;> omega
theorem ziV(hn:lc.Nodup)(h:lc.take (j+1)=lc.take j++[x]):jQ lc j x=0/\jQ lc (j+1) x=1:=by
 have h1:(lc.take j++[x]).Nodup:=by rw[<-h];exact hn.sublist (List.take_sublist _ _)
 have h2:x∉lc.take j:=fun hx=>(List.nodup_append.1 h1).2.2 x hx x (by simp) rfl
 unfold jQ;rw[h,if_neg h2,if_pos (by simp)];exact⟨rfl,rfl⟩
theorem zgQ(h:lc.take (j+1)=lc.take j++[x])(hc:c≠x):jQ lc (j+1) c=jQ lc j c:=by
 unfold jQ;rw[h];simp[hc]
theorem zkQ(L:List En)(Ls:List Nat):nj L Ls 0=0:=rfl
theorem zkR{st:Nat}(h:Ls.take (i+1)=Ls.take i++[st]):nj L Ls (i+1)=nj L Ls i+(cq L st).length:=by
 unfold nj;rw[h,List.flatMap_append,List.length_append];simp
theorem Z6(Ls:List Nat)(hn:Ls.Nodup):∀L:List En,(Ls.flatMap (cq L)).length<=L.length:=by
 intro L
 induction L with
 | nil=>
  have:Ls.flatMap (cq [])=[]:=by simp[cq]
  rw[this];exact le_refl _
 | cons e L ih=>
  have key:∀l:List Nat,l.Nodup->(l.flatMap (cq (e :: L))).length<=(l.flatMap (cq L)).length+(if e.f∈l then 1 else 0):=by
   intro l hl
   induction l with
   | nil=>simp
   | cons a l ih2=>
    have h1:=ih2 (List.nodup_cons.1 hl).2;have h2:(cq (e :: L) a).length<=(cq L a).length+(if e.f=a then 1 else 0):=by
     unfold cq;rw[List.filter_cons];by_cases he:e.f=a
     ·rw[if_pos he];split <;> simp
     rw[if_neg he];have:(!e.b && e.f == a)=false:=(by simp[he]);rw[if_neg (by rw[this];decide)];exact le_refl _
    simp only[List.flatMap_cons,List.length_append];by_cases ha:e.f=a
    ·have h3:e.f∉l:=(by rw[ha];exact (List.nodup_cons.1 hl).1);rw[if_neg h3] at h1;rw[if_pos ha] at h2;rw[if_pos (by simp[ha])];omega
    rw[if_neg ha] at h2;by_cases hb:e.f∈l
    ·rw[if_pos hb] at h1;rw[if_pos (List.mem_cons_of_mem _ hb)];omega
    rw[if_neg hb] at h1;split <;> omega
  have h4:=key Ls hn;have h5:(if e.f∈Ls then 1 else 0)<=1:=by split <;> omega
  simp only[List.length_cons];omega
theorem Pn(L:List En)(hn:Ls.Nodup)(i:Nat):nj L Ls i<=L.length:=Z6 (Ls.take i) (hn.sublist (List.take_sublist _ _)) L
def UI(B bm gI bM m M C bn:Nat)(K:Nat->Lit)(L:List En)(mk:Nat->Int)(SS:List (Nat->Bool))(R:List (List Int))(T:Nat->Nat->Prop)(w:World)(e:Ending)(w':World):Prop:=
 ∃(row:List Int) (jd:List (Nat->Bool)) (tB:List Int) (D':List ((Nat->Bool) × Nat)) (n':Nat) (gd:Array Value) (l':List Nat) (je vS' vK' vN':Value) (gs':List Nat),e=.returned (.tuple #[])/\
  lN B bm gI bM m M C bn K L mk jd tB D' (R++[row]) n' gd l' je vS' vK' vN' gs' w'/\fu M T SS C row jd/\Below B w w'
theorem zmI(B bm gI bM m M C bn gM cM gF cF gS cS n fr:Nat)(aF aS:Nat->Option Addr)(Dg Fa rp:Nat->Nat)(K:Nat->Lit)(L:List En)(mk:Nat->Int)(w:World)
  (HF:lE w B bn gF M cF aF Dg L) (HT:oO w B bn gS M cS aS Fa (fun p=>cm (fun c=>p (rp c)) C) L) (HV:kM w B bn gM M cM mk) (hE:∀e∈L,e.f<M/\e.t<M) (Lf:L.length<=6400) (iZ:∀i,i<M->-1<=mk i)
  (hC:cQ K 256=C) (hC2:C<=256) (hM:M<=12900) (hm:(M+7) / 8=m) (SS:List (Nat->Bool)) (ms:List Int) (D:List ((Nat->Bool) × Nat)) (R:List (List Int)) (cs:Array Value) (l:List Nat) (vL vS vK vN:Value) (gs:List Nat)
  (h:lN B bm gI bM m M C bn K L mk SS ms D R n cs l vL vS vK vN gs w) (tq:fr<SS.length) (hS:SS.length<=3000) (hR:R.length<=3000):
  Calls prog 120 #[.pointer (some ⟨bm,0,none⟩),.int .i64 (fr:Int)] w (UI B bm gI bM m M C bn K L mk SS R (fun c x=>FR L (Mv L (fun y=>y<M/\SS[fr] y=true) (rp c)) x) w):=by
 obtain⟨cA,Dw,RU⟩:∃cA:Array Value,cA.size=256/\∀j,j<256->cA[j]?=some (.int .u8 ((cls K j:Nat):Int)):=⟨((range 256).map fun j=>.int .u8 ((cls K j:Nat):Int)).toArray,by simp,fun j hj=>by simp[hj]⟩
 have eG:(prog.info? 98).map (·.size)=some cA.size:=by rw[Dw];kernel_rfl
 have dF:∀j v,cA.toList[j]?=some v->w.cell? ((⟨bm,1,none⟩:Addr).add j)=some v:=by
  intro j v hj;have hj2:j<256:=by
   have:=(List.getElem?_eq_some_iff.1 hj).1;simpa [Dw] using this
  have e:(⟨bm,1,none⟩:Addr).add j=⟨bm,1+j,none⟩:=by unfold Addr.add;split <;> simp_all
  have h1:=RU j hj2;rw[<-getElem?_toList,hj] at h1;rw[e,h.a.r.other (1+j) (by omega),h.cl j hj2,h1]
 have E0:=hid (zkE K cA Dw RU w);have nc:=VB C (by omega);have H:=hid h;have Oz:=hid Lf;have HN:=hid (Zz HF (Zz HT (Zz HV (Zz hE (Zz iZ (Zz hm tq))))));rw[hC] at E0;obtain⟨aS0,CB,rfl⟩:=bF h.t.os;obtain⟨yz,rfl,_,_,MH⟩:=eR h.t.os (by omega);have d0:=(MH fr (by omega)).1;have d1:w.cell? ⟨bm,259,none⟩=some (.slice (some ⟨yz,0,none⟩) SS.length CB):=by rw[h.a.r.other 259 (by decide),h.t.cS]
 have Dy:bm<w.heap.size:=h.a.r.sm.lt;have ng:yz<w.heap.size:=by have:=h.vV yz ((yt ..).2 (by simp[ownBlock]));exact this
 have mr:B<=w.heap.size:=h.a.r.hB;rw[show (strs (SS.map (jR M)))[fr]?=some (.string (jR M SS[fr])) from by simp[strs,tq]] at d0;have C5:=hid (fun W:World=>zgP (jR M SS[fr]) m (by rw[zmH,hm]) (by omega) (eH SS[fr] M) (fun i hi=>zoH M _ i (by omega)) W);obtain⟨fs,j8⟩:∃fs,SS[fr]=fs:=⟨_,rfl⟩
 rw[j8] at d0 C5;rw[show (fun c x=>FR L (Mv L (fun y=>y<M/\SS[fr] y=true) (rp c)) x)=(fun c x=>FR L (Mv L (fun y=>y<M/\fs y=true) (rp c)) x) from by rw[j8]];have hfk:fr<SS.length:=tq;obtain⟨kS,Na⟩:∃kS,SS.length=kS:=⟨_,rfl⟩
 have HKS:=hid Na;rw[Na] at d1 hfk hS;have i0:(fr:Int)<kS:=by omega
 clear h HF HT HV hE iZ RU hm MH tq j8 Na;go_enter func120,ntmps120;go_wp2_with (refine si rfl 98 _ rfl ⟨bm,1,none⟩ rfl cA (.array 256 5) dF underlying98 rfl eG ?_);refine E0.out.mono ?_;rintro e w1 ⟨rfl,mg⟩;have kz:=mg.size;have Zv:(w1.alloc (.cells (madeCells #[.slice none 0 0] C) 43)).cell? ⟨yz,fr,none⟩=some (.string (jR M fs)):=(((al w1 _).cell (p:=⟨yz,fr,none⟩) (by show yz<_;omega)).trans (mg.cell (p:=⟨yz,fr,none⟩) ng)).trans d0;have d1':(w1.alloc (.cells (madeCells #[.slice none 0 0] C) 43)).cell? ⟨bm,259,none⟩=some (.slice (some ⟨yz,0,none⟩) kS CB):=(((al w1 _).cell (p:=⟨bm,259,none⟩) (by show bm<_;omega)).trans (mg.cell (p:=⟨bm,259,none⟩) Dy)).trans d1;clear d0 d1 dF E0;go_wp2_with fail;refine (C5.out _).mono ?_;rintro e w3 ⟨Ls,aL,cL,rfl,hO,iO,fW,pE⟩;have Kb:=hid (ic.made w1 w.heap.size C w3 kz pE);have ju:Below w.heap.size w w3:=(mg.trans ((al w1 _).mono kz)).trans (pE.mono (by simp;omega));obtain⟨gT,AK⟩:∃gT,w1.heap.size=gT:=⟨_,rfl⟩
 have aaa:gT<w3.heap.size:=by have:=pE.size;simp at this;omega
 rw[AK] at Kb;have sx:∀x∈Ls,x<M/\fs x=true:=fun x hx=>by have:=((fW x).1 hx).2;simpa [eH] using this
 have yN:=hid (Zz hO (Zz iO (Zz (fun x=>show x∈Ls↔x<M/\fs x=true from ⟨sx x,fun hx=>(fW x).2 ⟨by have:=HN.out.2.2.2.2.2.1;omega,by simp[eH,hx.1,hx.2]⟩⟩) ju)));have Jd:∀g,(Value.slice aL Ls.length cL).ownBlock=some g->g≠gT:=fun g e h=>by
  have h1:=dG hO (Kb.out.ig.1) (by decide) g e;exact h1 h
 have HGT:=hid Jd;have OO:Ls.length<=M:=pW iO (fun x hx=>(sx x hx).1);obtain⟨q,hq⟩:∃q,Ls.length=q:=⟨_,rfl⟩
 have HQ:=hid hq;rw[hq] at OO;rw[AK];rw[hq];clear hO iO fW pE sx Jd ju mg Zv d1' C5 nc hq AK;go_wp2;go_loopw [6,8,10,30] (fun _ _ _ v wq=>∃(i:Nat) (vs:Nat->Value) (tg:Nat->List Nat),v=.int .i64 i/\i<=q/\Hid (ic w3 w.heap.size gT C vs tg wq)/\Hid (∀c,c<C->(tg c).length<=nj L Ls i/\∀x,x∈tg c↔pK L rp ((Ls.take i).flatMap (cq L)) c x)) (fun _ _ _ v _=>q-(intOf v).toNat)
 ·exact⟨0,_,_,rfl,zero_le _,Kb,fun c hc=>⟨by rw[zkQ];simp,fun x=>by simp[pK]⟩⟩
 obtain⟨i,vs,tg,rfl,hi,HA,HC⟩:=hrel;clear Kb;have hW:Below w.heap.size w wr:=yN.out.2.2.2.trans HA.out.below;have HW:=hid hW;by_cases aw:i<q
 ·have sK:i<Ls.length:=by rw[HQ.out];exact aw
  obtain⟨gl,rfl,_,IU,eK⟩:=eR yN.out.1 (by omega);have d0:=(eK i (by omega)).1;rw[AN Ls i sK] at d0;have FH:gl≠gT:=HGT.out gl rfl;replace d0:wr.cell? ⟨gl,i,none⟩=some (.int .i64 ((Ls[i]:Nat):Int)):=(HA.out.kept.mV (by simpa using FH) IU).trans d0;have hs:=((yN.out.2.2.1 Ls[i]).1 (getElem_mem _)).1;have O3:Hid (Ls.take (i+1)=Ls.take i++[Ls[i]]):=List.take_succ_eq_append_getElem sK;generalize Ls[i]=st at d0 hs O3;have c0:wr.cell? ⟨bm,0,none⟩=some (.pointer (some ⟨bn,0,none⟩)):=(hW.cell (p:=⟨bm,0,none⟩) Dy).trans ((H.out.a.r.other 0 (by decide)).trans H.out.c0);have dC:=HN.out.2.1.below (hW.mono mr);have f0:=dC.fX;have k0:=dC.row st hs;have wm:=hid (HN.out.2.1.at_ st hs);obtain⟨aR,Co⟩:∃aR,aS st=aR:=⟨_,rfl⟩
  obtain⟨Hu,Br⟩:∃Hu,Fa st=Hu:=⟨_,rfl⟩
  rw[Co,Br] at k0;rw[Co] at wm;have HBE:Hid (∀e∈cq L st,e.t<M):=fun e he=>(HN.out.2.2.2.1 e ((JX L st e).1 he).1).2
  obtain⟨p,hp⟩:∃p,(cq L st).length=p:=⟨_,rfl⟩
  have tR:p<=6400:=by rw[<-hp];exact le_trans (Wq L st) Lf
  have HP:=hid hp;rw[hp] at k0;have i1:(i:Int)<q:=by omega
  have i2:(st:Int)<M:=by omega
  clear dC Co Br hp eK sK aw hi hW FH IU;go_wp2_with fail;clear c0 f0 k0 d0;go_loopw [8,10,45] (fun _ _ v wq=>∃(k:Nat) (Lv:Nat->Value) (Bp:Nat->List Nat),v=.int .i64 k/\k<=p/\Hid (ic w3 w.heap.size gT C Lv Bp wq)/\Hid (∀c,c<C->(Bp c).length<=nj L Ls i+k/\∀x,x∈Bp c↔pK L rp ((Ls.take i).flatMap (cq L)++(cq L st).take k) c x)) (fun _ _ v _=>p-(intOf v).toNat)
  ·exact⟨0,vs,tg,rfl,zero_le _,HA,fun c hc=>⟨(HC.out c hc).1,fun x=>by rw[(HC.out c hc).2 x];simp⟩⟩
  clear HA HC HW;obtain⟨k,Lv,Bp,rfl,hk,HA,HC⟩:=hrel;have hW:Below w.heap.size w wr:=yN.out.2.2.2.trans HA.out.below;by_cases Aa:k<p
  ·have hkl:k<(cq L st).length:=(by rw[HP.out];exact Aa);obtain⟨gx,off,rfl,hgx,wN⟩:=wm.out (by omega);obtain⟨ac,cc,s0,s1,hI⟩:=wN k hkl;replace s0:=(hW.cell (p:=⟨gx,off+k*2,none⟩) (by show gx<_;omega)).trans s0;replace s1:=(hW.cell (p:=⟨gx,off+k*2+1,none⟩) (by show gx<_;omega)).trans s1;have uv:Hid ((cq L st).take (k+1)=(cq L st).take k++[(cq L st)[k]]):=List.take_succ_eq_append_getElem hkl;have Ep:=HBE.out _ (getElem_mem hkl);generalize (cq L st)[k]=ed at s0 s1 hI uv Ep;obtain⟨lc,uf⟩:∃lc,cm (fun c=>ed.p (rp c)) C=lc:=(⟨_,rfl⟩);have XV:Hid (∀x,x∈lc↔x<C/\ed.p (rp x)=true):=(fun x=>by rw[<-uf];exact KY _ _ x);have ZT:Hid (lc.Nodup):=(by rw[<-uf];exact (List.nodup_range).filter _);have OL:lc.length<=C:=(by rw[<-uf];exact Up _ _);dsimp only at s0 hI;rw[uf] at s0 hI;have HI:=hid hI;obtain⟨pc,ta⟩:∃pc,lc.length=pc:=(⟨_,rfl⟩);have yE:=hid ta;rw[ta] at s0 OL;obtain⟨t,ht⟩:∃t,ed.t=t:=(⟨_,rfl⟩);have HTD:=hid ht;rw[ht] at s1 Ep;have i5:(k:Int)<p:=(by omega);have yk:=hid (HA.out.aa (al wr (.cells #[.slice ac pc cc,.int .i64 (t:Int)] 197)));have gh:=hid (St.new wr 197 #[.slice ac pc cc,.int .i64 (t:Int)]);clear hI uf ta ht wN hkl hW hk;go_wp2_with fail;obtain⟨g8,OR⟩:∃g8,wr.heap.size=g8:=(⟨_,rfl⟩);rw[OR] at gh;rw[OR];generalize wr.alloc (.cells #[.slice ac pc cc,.int .i64 (t:Int)] 197)=W1 at yk gh⊢;clear OR s0 s1 HA;go_loopw [10,52] (fun _ v wz=>∃(j:Nat) (GZ:Nat->Value) (oy:Nat->List Nat),v=.int .i64 j/\j<=pc/\Hid (ic w3 w.heap.size gT C GZ oy wz)/\Hid (St wz 197 g8 #[.slice ac pc cc,.int .i64 (t:Int)])/\Hid (∀c,c<C->(oy c).length<=nj L Ls i+k+jQ lc j c/\∀x,x∈oy c↔pK L rp ((Ls.take i).flatMap (cq L)++(cq L st).take k) c x\/(c∈lc.take j/\x=t))) (fun _ v _=>pc-(intOf v).toNat)
   ·exact⟨0,Lv,Bp,rfl,zero_le _,yk,gh,fun c hc=>⟨by have:=(HC.out c hc).1;omega,fun x=>by rw[(HC.out c hc).2 x];simp⟩⟩
   clear yk gh;obtain⟨j,GZ,oy,rfl,hj,ij,NB,D9⟩:=hrel;have hW:Below w.heap.size w wr:=yN.out.2.2.2.trans ij.out.below;by_cases hjp:j<pc
   ·have hjl:j<lc.length:=(by rw[yE.out];exact hjp);obtain⟨gi,oi,rfl,Xg,XM⟩:=HI.out (by omega);have s2:=(hW.cell (p:=⟨gi,oi+j,none⟩) (by show gi<_;omega)).trans (XM j hjl);have hx:=((XV.out lc[j]).1 (getElem_mem hjl)).1;have L0:Hid (lc.take (j+1)=lc.take j++[lc[j]]):=List.take_succ_eq_append_getElem hjl;generalize lc[j]=x at s2 hx L0;have i6:(j:Int)<pc:=(by omega);clear XM hjl hW;have Be:Hid (∀c,c<C->((fun jj=>if jj=x then oy x++[t] else oy jj) c).length<=nj L Ls i+k+jQ lc (j+1) c/\∀y,y∈(fun jj=>if jj=x then oy x++[t] else oy jj) c↔pK L rp ((Ls.take i).flatMap (cq L)++(cq L st).take k) c y\/(c∈lc.take (j+1)/\y=t)):=fun c hc=>by
     obtain⟨h1,h2⟩:=D9.out c hc;rw[L0.out];by_cases e:c=x
     ·subst e;have hoi:=ziV ZT.out L0.out;refine⟨by simp;omega,fun y=>?_⟩;simp only[if_true,mem_append,mem_singleton,h2 y];constructor
      ·rintro ((h3|⟨h3,h4⟩)|h3)
       ·exact inl h3
       ·exact inr ⟨inl h3,h4⟩
       exact inr ⟨inr trivial,h3⟩
      rintro (h3|⟨h3,h4⟩)
      ·exact inl (inl h3)
      exact inr h4
     have hoi:=zgQ L0.out e;refine⟨by simp[e];omega,fun y=>?_⟩;show (y∈if c=x then oy x++[t] else oy c)↔_;rw[if_neg e,h2 y,mem_append,mem_singleton];simp[e]
    go_wp2_with fail;obtain⟨LD,LY,hv⟩:=bF (ij.out.ig.2.1 x hx);dsimp only at hv;have gQ:=hid (ij.out.aa (al wr (.cells #[.int .i64 (t:Int)] 3)).drew);have vq:=hid (NB.out.aa (al wr (.cells #[.int .i64 (t:Int)] 3)).drew);have cY:=gQ.out.ig.2.1 x hx;rw[hv] at cY;dsimp only at cY;have hlen:(oy x).length<=20000:=by
     have a1:=(D9.out x hx).1;have a2:=Pn L yN.out.2.1 i;have a3:=Wm lc j x;have a4:=Oz.out;omega
    obtain⟨p3,gK⟩:∃p3,(oy x).length=p3:=(⟨_,rfl⟩);have k0:wr.cell? ⟨gT,x,none⟩=some (.slice LD p3 LY):=(by rw[(ij.out.ig.cell x hx).1,hv,gK]);have m2:(wr.alloc (.cells #[.int .i64 (t:Int)] 3)).drew.cell? ⟨gT,x,none⟩=some (.slice LD p3 LY):=(by rw[(gQ.out.ig.cell x hx).1,hv,gK]);have s9:=hid (Zz hv gK);have j1:(x:Int)<C:=(by omega);have j2:(0:Int)<=x:=(by omega);have yl:w3.heap.size<=((wr.alloc (.cells #[.int .i64 (t:Int)] 3)).drew).heap.size:=gQ.out.below.size;rw[gK] at cY hlen;obtain⟨i0,xB,dD,db,cW⟩:=info_parts az;have dB:=hid (fun (W:World) (h1:St W 197 g8 #[.slice (some ⟨gi,oi,none⟩) pc cc,.int .i64 ((t:Nat):Int)])=>(h1.at_ 1:W.cell? ⟨g8,1,none⟩=some (.int .i64 ((t:Nat):Int))));clear hv gK;refine wp_region_held_drew (S:=fun W'=>W'.cell? ⟨g8,1,none⟩=some (.int .i64 (t:Int))) (by kernel_rfl) (dB.out _ NB.out.drew) (fun hHeld=>?_)
    (refine aq 0 ?_;refine aq 1 ?_;refine aq 2 ?_;try simp only[put,sA,sB,sC];refine aq 3 ?_;refine aq 4 ?_;refine aq 6 ?_;try simp only[put,sA,sB,sC];refine aq 7 ?_;try simp only[put,sA,sB,sC])
    refine wpAnyH_ready (rs:=[5,8]) (by kernel_rfl) (by simp) ?_;refine eV (fun K hK=>?_) ?_
    ·skip;go_simp;refine hK.out _ _ (dB.out _ NB.out.drew) (fun hHeld=>?_);clear hK K
     try simp only[put,sA,sB,sC]
     refine aQ 8 (fun K hK=>?_);skip;go_simp;refine hK.out _ _ (dB.out _ vq.out) (fun hHeld=>?_);clear hK K
     try simp only[put,sA,sB,sC]
     refine aQ 9 (fun K hK=>?_);skip;skip;refine step_append_lies _ (by rfl) _ _ _ (by rfl) w3.heap.size 3 i0 (.int .i64 0) 1 8 underlying43 xB dD db cW (by rfl) (by decide) _ p3 (cy (oy x)) (by rfl) cY ⟨wr.heap.size,0,none⟩ 1 1 (#[.int .i64 (t:Int)]).toList (by rfl) (by rfl) (news_of_block (cs:=#[.int .i64 (t:Int)]) (t:=3) (fr:=(0,0)) (heap_alloc_new wr _)) (by simp[oneCell']) (by omega) (by unfold maxLen;omega) (by omega) yl (wr.heap.size+1) (by simp) ?_;intro gg eI w6 an af bH iz;have fE:=vq.out.ag cY (by decide) af;have nf:=gQ.out.ig.1.ag cY (by decide) af;have t2:w6.cell? ⟨gT,x,none⟩=some (.slice LD p3 LY):=(by rw[nf.at_];simp only[getElem?_toArray,getElem?_map,getElem?_range hx,map_some,s9.out.1,s9.out.2]);have t3:=nf.ba x;have HF:Hid (ic w3 w.heap.size gT C (fun j=>if j=x then (.slice (some ⟨gg,0,none⟩) (p3+1) eI) else GZ j) (fun j=>if j=x then oy x++[t] else oy j) (w6.setCell ⟨gT,x,none⟩ (.slice (some ⟨gg,0,none⟩) (p3+1) eI))):=
      gQ.out.app hx s9.out.2 an (by rw[s9.out.1,s9.out.2];exact af) (fun b e=>by rw[s9.out.1,s9.out.2];injection e with e;rw[<-e];rcases bH with h|h;exact inl h;exact inr (by rw[h];simp))
     have xW:Hid (St (w6.setCell ⟨gT,x,none⟩ (.slice (some ⟨gg,0,none⟩) (p3+1) eI)) 197 g8 #[.slice (some ⟨gi,oi,none⟩) pc cc,.int .i64 (t:Int)]):=fE.fD nf (by decide) x _;refine hK.out _ _ (dB.out _ fE) (fun hHeld=>?_);clear hK K an af bH iz
     try simp only[put,sA,sB,sC]
     (refine aq 10 ?_;try simp only[put,sA,sB,sC])
     refine aQ 11 (fun K hK=>?_);skip;go_simp;refine hK.out _ _ (dB.out _ (fE.fD nf (by decide) x _)) (fun hHeld=>?_);clear hK K
     try simp only[put,sA,sB,sC]
     refine wpAnyH_done (by kernel_rfl) ?_ _;clear fE nf t2 t3 hHeld;go_wp2;go_roundw
     ·exact⟨j+1,_,_,by go_num,by omega,HF,xW,Be⟩
     simp[intOf];omega
    refine eV (fun K hK=>?_) ?_
    ·skip;go_simp;refine hK.out _ _ (dB.out _ vq.out) (fun hHeld=>?_);clear hK K
     try simp only[put,sA,sB,sC]
     refine aQ 5 (fun K hK=>?_);skip;go_simp;refine hK.out _ _ (dB.out _ vq.out) (fun hHeld=>?_);clear hK K
     try simp only[put,sA,sB,sC]
     refine aQ 9 (fun K hK=>?_);skip;skip;refine step_append_lies _ (by rfl) _ _ _ (by rfl) w3.heap.size 3 i0 (.int .i64 0) 1 8 underlying43 xB dD db cW (by rfl) (by decide) _ p3 (cy (oy x)) (by rfl) cY ⟨wr.heap.size,0,none⟩ 1 1 (#[.int .i64 (t:Int)]).toList (by rfl) (by rfl) (news_of_block (cs:=#[.int .i64 (t:Int)]) (t:=3) (fr:=(0,0)) (heap_alloc_new wr _)) (by simp[oneCell']) (by omega) (by unfold maxLen;omega) (by omega) yl (wr.heap.size+1) (by simp) ?_;intro gg eI w6 an af bH iz;have fE:=vq.out.ag cY (by decide) af;have nf:=gQ.out.ig.1.ag cY (by decide) af;have t2:w6.cell? ⟨gT,x,none⟩=some (.slice LD p3 LY):=(by rw[nf.at_];simp only[getElem?_toArray,getElem?_map,getElem?_range hx,map_some,s9.out.1,s9.out.2]);have t3:=nf.ba x;have HF:Hid (ic w3 w.heap.size gT C (fun j=>if j=x then (.slice (some ⟨gg,0,none⟩) (p3+1) eI) else GZ j) (fun j=>if j=x then oy x++[t] else oy j) (w6.setCell ⟨gT,x,none⟩ (.slice (some ⟨gg,0,none⟩) (p3+1) eI))):=
      gQ.out.app hx s9.out.2 an (by rw[s9.out.1,s9.out.2];exact af) (fun b e=>by rw[s9.out.1,s9.out.2];injection e with e;rw[<-e];rcases bH with h|h;exact inl h;exact inr (by rw[h];simp))
     have xW:Hid (St (w6.setCell ⟨gT,x,none⟩ (.slice (some ⟨gg,0,none⟩) (p3+1) eI)) 197 g8 #[.slice (some ⟨gi,oi,none⟩) pc cc,.int .i64 (t:Int)]):=fE.fD nf (by decide) x _;refine hK.out _ _ (dB.out _ fE) (fun hHeld=>?_);clear hK K an af bH iz
     try simp only[put,sA,sB,sC]
     (refine aq 10 ?_;try simp only[put,sA,sB,sC])
     refine aQ 11 (fun K hK=>?_);skip;go_simp;refine hK.out _ _ (dB.out _ (fE.fD nf (by decide) x _)) (fun hHeld=>?_);clear hK K
     try simp only[put,sA,sB,sC]
     refine wpAnyH_done (by kernel_rfl) ?_ _;clear fE nf t2 t3 hHeld;go_wp2;go_roundw
     ·exact⟨j+1,_,_,by go_num,by omega,HF,xW,Be⟩
     simp[intOf];omega
    exact AllReadyH.nil
   obtain rfl:j=pc:=(by omega);have HZ:Hid (∀c,c<C->(oy c).length<=nj L Ls i+(k+1)/\∀x,x∈oy c↔pK L rp ((Ls.take i).flatMap (cq L)++(cq L st).take (k+1)) c x):=fun c hc=>by
    obtain⟨h1,h2⟩:=D9.out c hc;refine⟨by have:=Wm lc j c;omega,fun x=>?_⟩;rw[h2 x,uv.out,<-yE.out,take_length,XV.out c,<-HTD.out];unfold pK;simp only[mem_append,mem_singleton];constructor
    ·rintro (⟨e,he,h3,h4⟩|⟨⟨_,h3⟩,h4⟩)
     ·exact⟨e,by rcases he with he|he;exact inl he;exact inr (inl he),h3,h4⟩
     exact⟨ed,inr (inr rfl),h3,h4.symm⟩
    rintro⟨e,he,h3,h4⟩;rcases he with he|he|rfl
    ·exact inl ⟨e,inl he,h3,h4⟩
    ·exact inl ⟨e,inr he,h3,h4⟩
    exact inr ⟨⟨hc,h3⟩,h4.symm⟩
   clear hW;go_wp2;go_roundw
   ·exact⟨k+1,GZ,oy,by go_num,by omega,ij,HZ⟩
   simp[intOf];omega
  obtain rfl:k=p:=by omega
  have HZ:Hid (∀c,c<C->(Bp c).length<=nj L Ls (i+1)/\∀x,x∈Bp c↔pK L rp ((Ls.take (i+1)).flatMap (cq L)) c x):=fun c hc=>by
   obtain⟨h1,h2⟩:=HC.out c hc;refine⟨by rw[zkR O3.out,HP.out];exact h1,fun x=>?_⟩;rw[h2 x,O3.out,<-HP.out,take_length,List.flatMap_append];simp
  clear hW;go_wp2;go_roundw
  ·exact⟨i+1,Lv,Bp,by go_num,by omega,HA,HZ⟩
  simp[intOf];omega
 obtain rfl:i=q:=by omega
 have HZ:Hid (∀c,c<C->(tg c).length<=6400/\∀x,x∈tg c↔pK L rp (Ls.flatMap (cq L)) c x):=fun c hc=>by
  obtain⟨h1,h2⟩:=HC.out c hc;refine⟨by have a2:=Pn L yN.out.2.1 i;have a4:=Oz.out;omega,fun x=>?_⟩;rw[h2 x,<-HQ.out,take_length]
 have N8:gT<wr.heap.size:=by have:=HA.out.below.size;omega
 have zE:=zkM C (by omega);have HVs:=hid (Kept.refl [] [] wr);have H1:=hid (H.out.aa hW);have GB:∀x∈iD bm gI bM vL (.slice (some ⟨yz,0,none⟩) SS.length CB) vK,x<w.heap.size:=H.out.vV;have xF:w.heap.size<=gT:=HA.out.lo.1;have rA:=hid (Zz GB xF);clear GB xF;go_wp2_with fail;obtain⟨gR,Bs⟩:∃gR,wr.heap.size=gR:=⟨_,rfl⟩
 rw[Bs];have HG:=hid (HA.out.ig);have Pk:Hid (∀c,c<C->∀b,(vs c).ownBlock=some b->b<gR/\w3.heap.size<=b):=fun c hc b e=>by
  obtain⟨c1,fz,h1⟩:=pS (HG.out.2.1 c hc) b e;exact⟨by rw[<-Bs];exact (Array.getElem?_eq_some_iff.1 h1).1,km (HG.out.2.1 c hc) b e⟩
 have kn:Hid (St (wr.alloc (.cells (madeCells #[.int .i64 0] C) 3)) 3 gR (ints (replicate C 0)).toArray):=by
  show St _ _ _ _;rw[<-ziT,<-Bs];exact St.new _ _ _
 have H2:=hid (H1.out.aa (al wr (.cells (madeCells #[.int .i64 0] C) 3)));have Ni:=hid (HG.out.aa (al wr (.cells (madeCells #[.int .i64 0] C) 3)));have hVs:(wr.alloc (.cells (madeCells #[.int .i64 0] C) 3)).heap.size=gR+1:=by simp[Bs]
 have RP:Below w.heap.size w (wr.alloc (.cells (madeCells #[.int .i64 0] C) 3)):=(hW.trans ((al wr _).mono hW.size))
 have Nb:=hid RP;generalize wr.alloc (.cells (madeCells #[.int .i64 0] C) 3)=V at kn H2 Ni hVs RP Nb⊢;obtain⟨uB,GS⟩:∃uB,iD bm gI bM vL (.slice (some ⟨yz,0,none⟩) SS.length CB) vK=uB:=⟨_,rfl⟩
 have Xt:=hid GS;clear H1 HG HVs RP zE hW GS;have hgTR:gT<gR:=by omega
 have HTC:Hid (∀c,c<C->(fun x=>FR L (fun y=>y∈tg c) x)=(fun x=>FR L (Mv L (fun y=>y<M/\fs y=true) (rp c)) x)):=fun c hc=>funext fun x=>propext (FR.congr (fun y=>by
  rw[(HC.out c hc).2 y]
  rw[<-HQ.out,take_length]
  constructor
  ·rintro⟨e,he,h1,h2⟩
   obtain⟨st,dC,he⟩:=List.mem_flatMap.1 he
   obtain⟨h3,h4,h5⟩:=(JX L st e).1 he
   exact⟨e,h3,h4,h1,by rw[h5];exact (yN.out.2.2.1 st).1 dC,h2⟩
  ·rintro⟨e,h3,h4,h1,h5,h2⟩
   exact⟨e,List.mem_flatMap.2 ⟨e.f,(yN.out.2.2.1 e.f).2 h5,(JX L e.f e).2 ⟨h3,h4,rfl⟩⟩,h1,h2⟩) x)
 have HTL:Hid (∀c,c<C->(tg c).length<=6400/\∀x∈tg c,x<M):=fun c hc=>⟨by have a1:=(HC.out c hc).1;have a2:=Pn L yN.out.2.1 i;have a4:=Oz.out;omega,fun x hx=>by
  obtain⟨e,he,h1,h2⟩:=((HC.out c hc).2 x).1 hx
  obtain⟨st,dC,he⟩:=List.mem_flatMap.1 he
  rw[<-h2]
  exact (HN.out.2.2.2.1 e ((JX L st e).1 he).1).2⟩
 have BV:Hid (∀x∈uB,x<w.heap.size):=by rw[<-Xt.out];exact rA.out.1
 have xF:w.heap.size<=gT:=rA.out.2;clear HC HA hi aw HW rA N8;go_loopw [12,13,75] (fun _ _ v wq=>∃(c:Nat) (row:List Int) (jd:List (Nat->Bool)) (tB:List Int) (D':List ((Nat->Bool) × Nat)) (n':Nat) (gd:Array Value) (l':List Nat) (je vS' vK':Value),v=.int .i64 c/\c<=C/\
  Hid (lN B bm gI bM m M C bn K L mk jd tB D' R n' gd l' je vS' vK' vN gs wq)/\Hid (fu M (fun c x=>FR L (Mv L (fun y=>y<M/\fs y=true) (rp c)) x) SS c row jd)/\Hid (Kept [] (gR :: uB) V wq/\Below B V wq/\(∀x∈iD bm gI bM je vS' vK',x∈uB\/V.heap.size<=x)/\St wq 3 gR (ints (row++replicate (C-c) 0)).toArray/\∀x∈gs,x≠gR)) (fun _ _ v _=>C-(intOf v).toNat)
 case atStart=>exact⟨0,[],SS,ms,D,n,cs,l,vL,_,vK,rfl,zero_le _,H2,fu.zero,Kept.refl _ _ _,Below.refl _ _,fun x hx=>inl (by rw[<-Xt.out];exact hx),by simpa using kn.out,fun x hx e=>by
  obtain⟨i1,h1,h2⟩:=List.getElem_of_mem hx
  have h3:=(H.out.nx.row i1 h1 (by rw[<-H.out.nx.len];exact h1)).1.lt
  omega⟩
 case round=>
  clear H2 kn;obtain⟨c,row,jd,tB,D',n',gd,l',je,vS',vK',rfl,hc,HM,wm,HK⟩:=hrel;have pa:=wm.out.len;have Nz:gR∉uB:=fun h=>by have:=BV.out _ h;omega
  have DT:gT∉gR :: uB:=fun h=>by
   rcases List.mem_cons.1 h with h|h
   ·omega
   have:=BV.out _ h;omega
  have wI:gR∉iD bm gI bM je vS' vK':=fun h=>by
   rcases HK.out.2.2.1 _ h with h|h
   ·exact Nz h
   omega
  have ju:Below B w wr:=(Nb.out.mono mr).trans HK.out.2.1;by_cases aw:c<C
  ·have hO:=Ni.out.2.1 c aw;obtain⟨aT,cT,hv⟩:=bF hO;dsimp only at hv hO;have t0:wr.cell? ⟨gT,c,none⟩=some (.slice aT (tg c).length cT):=(by rw[HK.out.1.mV DT (by omega),(Ni.out.cell c aw).1,hv]);have Dm:=Pk.out c aw;rw[hv] at hO Dm;have Xp:Hid (∀W:World,(∀g,g∉gR :: uB->g<V.heap.size->W.heap[g]?=V.heap[g]?)->AA W W.heap.size aT (tg c)):=fun W hW h0=>by
    obtain⟨gt,rfl,sb,Kh,fO⟩:=eR hO h0;have h1:=(Dm gt rfl).1;have h2:=hW gt (fun h=>by
     rcases List.mem_cons.1 h with h|h
     ·omega
     ·have:=BV.out _ h;omega) Kh
    refine⟨gt,0,rfl,?_,fun j hj=>?_⟩
    ·rw[Array.getElem?_eq_getElem Kh] at h2;exact (Array.getElem?_eq_some_iff.1 h2).1
    rw[zero_add];have h3:W.cell? ⟨gt,j,none⟩=V.cell? ⟨gt,j,none⟩:=(by simp only[World.cell?,h2]);rw[h3,(fO j (by omega)).1,AN (tg c) j hj]
   have wV:=HTL.out c aw;have Ep:=hid wV.2;replace wV:=wV.1;have Qf:=hid (HTC.out c aw);obtain⟨tc,JG⟩:∃tc,tg c=tc:=(⟨_,rfl⟩);rw[JG] at t0 Xp wV Ep Qf;have cY:row.length=c:=pa.1;have dC:=HK.out.2.2.2.1;rw[zkN row C c aw] at dC;have e0:wr.cell? ⟨gR,c,none⟩=some (.int .i64 0):=(by rw[dC.at_,WM row C c cY]);have e1:=dC.ba c;have my:Hid (St (wr.setCell ⟨gR,c,none⟩ (.int .i64 (-1))) 3 gR (ints ((row++[-1])++replicate (C-(c+1)) 0)).toArray):=by
    have:=dC.set c (.int .i64 (-1));rwa [VU row C c cY aw] at this
   have pM:Kept [] [gR] wr (wr.setCell ⟨gR,c,none⟩ (.int .i64 (-1))):=(Kept.refl _ _ _).setCell _ _ (inl (by simp));have fw:Below B wr (wr.setCell ⟨gR,c,none⟩ (.int .i64 (-1))):=(Below.refl _ _).setCell (p:=⟨gR,c,none⟩) (by show B<=gR;omega) _;have zK:=hid (HM.out.eD pM fw (fun x hx h=>wI (by rw[<-List.mem_singleton.1 h];exact hx)) (fun b e h=>dG HM.out.nx.own dC (by decide) b e (List.mem_singleton.1 h)) (fun x hx h=>HK.out.2.2.2.2 x hx (List.mem_singleton.1 h)));have nJ:Hid (Kept [] (gR :: uB) V (wr.setCell ⟨gR,c,none⟩ (.int .i64 (-1)))/\Below B V (wr.setCell ⟨gR,c,none⟩ (.int .i64 (-1)))):=(⟨HK.out.1.setCell _ _ (inl (by simp)),HK.out.2.1.trans fw⟩);have i1:(c:Int)<C:=(by omega);obtain⟨p,hp⟩:∃p,tc.length=p:=(⟨_,rfl⟩);rw[hp] at t0 wV;have HP:=hid hp;clear hO hv Dm dC pM fw hp;go_upto_region 19 with fail;generalize wr.setCell ⟨gR,c,none⟩ (.int .i64 (-1))=W1 at my zK nJ⊢;have nI:Hid (∀x∈iD bm gI bM je vS' vK',x∈uB\/V.heap.size<=x):=HK.out.2.2.1;have Qw:Hid (∀x∈gs,x≠gR):=HK.out.2.2.2.2;clear e0 e1 t0 HK HM;by_cases yC:p=0
   ·subst yC;have HZ:Hid (fu M (fun c x=>FR L (Mv L (fun y=>y<M/\fs y=true) (rp c)) x) SS (c+1) (row++[-1]) jd):=by
     refine fu.succ wm.out (inl ⟨fun x hx h=>?_,rfl,rfl⟩);have h1:=congrFun Qf.out x;have h2:FR L (fun y=>y∈tc) x:=by
      have e:(FR L (fun y=>y∈tc) x)=_:=h1;rw[e];exact h
     rw[List.length_eq_zero_iff.1 HP.out] at h2;exact FR.none (fun x h=>by simp at h) x h2
    clear pa cY JG;go_wp2;go_roundw
    ·exact⟨c+1,row++[-1],jd,tB,D',n',gd,l',je,vS',vK',by go_num,by omega,zK,HZ,nJ.out.1,nJ.out.2,nI.out,my.out,Qw.out⟩
    simp[intOf];omega
   have hq0:(0:Int)<p:=(by omega);have hSl:jd.length<=3256:=(by have:=HKS.out;omega);have dj:n'<=100000:=(by have:=zK.out.hn;omega);have tx:l'.length<=100000:=(by have:=zK.out.a.len;omega);have tP:Below B w W1:=(Nb.out.mono mr).trans nJ.out.2;have nR:=hid (VM W1 B (iD bm gI bM je vS' vK') bm gI m M bM bn gM cM gF cF aF Dg L (HN.out.1.below tP) HN.out.2.2.2.1 (by omega) gd mk (HN.out.2.2.1.below tP) HN.out.2.2.2.2.1 zK.out.c0 (by omega) HN.out.2.2.2.2.2.1 _ l' je vS' vK' n' jd tB D' (by omega) dj tx
    aT p cT tc HP.out (by omega) Ep.out (fun W hW=>Xp.out W (fun g hg hl=>by
     have h1:=nJ.out.1 g _ (Array.getElem?_eq_getElem hl) (fun _ _ _ _=>by simp) hg
     rw[Array.getElem?_eq_getElem hl]
     exact hW g _ h1 (fun _ _ _ _=>by simp) (fun hm=>by
      rcases nI.out _ hm with h|h
      ·exact hg (List.mem_cons_of_mem _ h)
      ·omega))) W1 zK.out.a.r zK.out.t zK.out.inv)
   have h0:∃x,x<M/\FR L (fun y=>y∈tc) x:=by
    have fK:0<tc.length:=(by rw[HP.out];omega);exact⟨tc[0],Ep.out _ (getElem_mem fK),.base (getElem_mem fK)⟩
   have H0:=hid h0;have zY:=hid wI;clear h0 tP pa JG wI ju DT dj tx;go_wp2_with fail;refine nR.out.mono ?_;rintro e w5 qL;obtain⟨r,yy,PY,D2,n2,Oe,l2,re,DZ,FL,rfl,MD,hAdd,eO,mo,cv⟩:=zK.out.close qL H0.out;have fm:=my.out.kept eO (by simp) zY.out;have e0:w5.cell? ⟨gR,c,none⟩=some (.int .i64 (-1)):=(by rw[fm.at_,WM row C c cY]);have e1:=fm.ba c;have IH:gR∉iD bm gI bM re DZ FL:=fun h=>by
    rcases cv _ h with h|h
    ·exact zY.out h
    have:=my.out.lt;omega
   have Is:Kept [] [gR] w5 (w5.setCell ⟨gR,c,none⟩ (.int .i64 r)):=(Kept.refl _ _ _).setCell _ _ (inl (by simp));have iW:Below B w5 (w5.setCell ⟨gR,c,none⟩ (.int .i64 r)):=(Below.refl _ _).setCell (p:=⟨gR,c,none⟩) (by show B<=gR;omega) _;have HM3:=hid (MD.eD Is iW (fun x hx h=>IH (by rw[<-List.mem_singleton.1 h];exact hx)) (fun b e h=>dG MD.nx.own fm (by decide) b e (List.mem_singleton.1 h)) (fun x hx h=>Qw.out x hx (List.mem_singleton.1 h)));have yf:Kept [] (gR :: uB) V w5:=fun k o hk ho hn=>eO k o (nJ.out.1 k o hk ho hn) ho (fun hm=>by
    rcases nI.out _ hm with h|h
    ·exact hn (List.mem_cons_of_mem _ h)
    ·have:=(Array.getElem?_eq_some_iff.1 hk).1;omega)
   have HZ:Hid (Kept [] (gR :: uB) V (w5.setCell ⟨gR,c,none⟩ (.int .i64 r))/\Below B V (w5.setCell ⟨gR,c,none⟩ (.int .i64 r))/\(∀x∈iD bm gI bM re DZ FL,x∈uB\/V.heap.size<=x)/\St (w5.setCell ⟨gR,c,none⟩ (.int .i64 r)) 3 gR (ints (row++[r]++replicate (C-(c+1)) 0)).toArray/\∀x∈gs,x≠gR):=by
    refine⟨yf.setCell _ _ (inl (by simp)),(nJ.out.2.trans mo).trans iW,fun x hx=>?_,?_,Qw.out⟩
    ·rcases cv x hx with h|h
     ·exact nI.out x h
     exact inr (le_trans nJ.out.2.size h)
    have:=fm.set c (.int .i64 r);rwa [VU row C c cY aw] at this
   have y7:Hid (fu M (fun c x=>FR L (Mv L (fun y=>y<M/\fs y=true) (rp c)) x) SS (c+1) (row++[r]) yy):=by
    refine fu.succ wm.out ?_;rw[Qf.out] at hAdd;exact hAdd
   clear qL MD hAdd eO mo cv fm IH Is iW yf nR;go_wp2;go_roundw
   ·exact⟨c+1,row++[r],yy,PY,D2,n2,Oe,l2,re,DZ,FL,by go_num,by omega,HM3,y7,HZ⟩
   simp[intOf];omega
  obtain rfl:c=C:=by omega
  obtain⟨aN,cN,rfl⟩:=bF HM.out.nx.own;have n0:wr.cell? ⟨bm,257,none⟩=some (.slice aN R.length cN):=by rw[HM.out.a.r.other 257 (by decide),HM.out.cN]
  have hO:=HM.out.nx.own;have hBB:=HM.out.a.r.hB;have HRL:Hid (St wr 3 gR (ints row).toArray):=by
   have:=HK.out.2.2.2.1;show St _ _ _ _;simpa using this
  obtain⟨kR,Od⟩:∃kR,R.length=kR:=⟨_,rfl⟩
  rw[Od] at n0 hO hR;have Ju:=hid Od;obtain⟨i9,Ey,dD,db,cW⟩:=info_parts dP;have zY:=hid wI;have ir:=hid ju;clear Od pa wI DT ju;go_wp2_with (at_builtin;refine wpList_append_own_at _ rfl _ _ 99 rfl B 43 i9 (.slice none 0 0) 1 24 underlying99 Ey dD db cW rfl (by decide) _ _ _ rfl (hO.alloc _) ⟨wr.heap.size,0,none⟩ 1 1 [.slice (some ⟨gR,0,none⟩) c c] rfl rfl (cell_one_new _ _ _) ?d2 ?d3 ?d4 ?d5 ?_)
  case d2=>intro u hu;simp at hu;subst hu;rfl
  case d3=>unfold maxLen;omega
  case d4=>omega
  case d5=>simp;omega
  intro v' w5 ak aj _ bg;obtain⟨a5,c5,rfl⟩:=bF ak;have h2:=HM.out.aa (al wr (.cells #[.slice (some ⟨gR,0,none⟩) c c] 43));have an:=ak;rw[<-Ju.out] at an;obtain⟨hF,Wy⟩:=h2.next (HRL.out.aa (al wr _)) zY.out (v':=.slice a5 (kR+1) c5) (by simpa [Ju.out] using an) (by rw[Ju.out];exact aj)
  have sc:St w5 168 bm _:=h2.a.r.sm.ag h2.nx.own (by decide) (by rw[Ju.out];exact aj);have p3:w5.cell? ⟨bm,257,none⟩=some (.slice aN kR cN):=by rw[sc.at_,getElem?_setIfInBounds_ne (by decide),h2.cN,Ju.out]
  have pf:=sc.ba 257;have BS:Hid (UI B bm gI bM m M c bn K L mk SS R (fun c x=>FR L (Mv L (fun y=>y<M/\fs y=true) (rp c)) x) w (.returned (.tuple #[])) (w5.setCell ⟨bm,257,none⟩ (.slice a5 (kR+1) c5))):=
   ⟨row,jd,tB,D',n',_,l',je,vS',vK',_,_,rfl,hF,wm.out,(ir.out.trans ((al wr _).mono HM.out.a.r.hB)).trans Wy⟩
  clear ak an aj bg h2 sc hF Wy hO n0;go_wp2_with fail;refine bodyPost_ret (results_none rfl _ _ _) rfl ?_;exact BS.out
theorem zmJ(K:Nat->Lit)(h:cls K x=cls K y):K x=K y:=by
 have hx:cls K (fst K x)=cls K x:=by unfold cls;rw[Kp]
 have hy:cls K (fst K y)=cls K y:=by unfold cls;rw[Kp]
 have e:fst K x=fst K y:=by
  rcases Nat.lt_trichotomy (fst K x) (fst K y) with h1|h1|h1
  ·have h2:=Es K (fst K x) (fst K y) h1;have h3:cQ K (fst K y)=cls K y:=rfl;omega
  ·exact h1
  have h2:=Es K (fst K y) (fst K x) h1;have h3:cQ K (fst K x)=cls K x:=rfl;omega
 rw[<-(yA K x).2.1,<-(yA K y).2.1,e]
noncomputable def kZ (K:Nat->Lit) (c:Nat):Nat:=(rl K 256).getD c 0
theorem Pg(K:Nat->Lit)(b:Nat)(hb:b<256):cls K b<(rl K 256).length/\K (kZ K (cls K b))=K b:=by
 have h1:=Es K b 256 hb;have h2:cls K b<(rl K 256).length:=by rw[yR];omega
 refine⟨h2,zmJ K ?_⟩;have:kZ K (cls K b)=(rl K 256)[cls K b]:=by simp[kZ,getD_eq_getElem?_getD,h2]
 rw[this];exact (X7 K 256 (cls K b) h2).1
theorem zpC(L:List En)(h:cG L x=cG L y):∀e∈L,e.b=false->e.p x=e.p y:=by
 intro e he hb;have h1:=(zi6 _ _ _ _).1 h;have hm:e.p∈bP (L.map En.z):=by
  unfold bP;exact List.mem_map.2 ⟨e.z,List.mem_filter.2 ⟨List.mem_map.2 ⟨e,he,rfl⟩,by simp[En.z,hb]⟩,rfl⟩
 obtain⟨i,hi,e1⟩:=List.getElem_of_mem hm;have h2:=h1 i hi;have h3:qP (L.map En.z) i=e.p:=by simp[qP,getD_eq_getElem?_getD,hi,e1]
 rw[h3] at h2;exact h2
theorem zpU(L:List En)(b:Nat)(hb:b<256):∀e∈L,e.b=false->e.p (kZ (cG L) (cls (cG L) b))=e.p b:=zpC L (Pg (cG L) b hb).2
theorem Mv.byte{A:Nat->Prop}{d:Nat}(h:∀e∈L,e.b=false->e.p c=e.p d)(x:Nat):Mv L A c x↔Mv L A d x:=
 ⟨fun ⟨e,h1,h2,h3,h4,h5⟩=>⟨e,h1,h2,by rw[<-h e h1 h2];exact h3,h4,h5⟩,fun ⟨e,h1,h2,h3,h4,h5⟩=>⟨e,h1,h2,by rw[h e h1 h2];exact h3,h4,h5⟩⟩
theorem Mv.none{A:Nat->Prop}(h:∀x,¬A x)(c x:Nat):¬Mv L A c x:=fun ⟨e,_,_,_,h4,_⟩=>h _ h4
theorem bG.nam(hn:nm.Nodup){A' A:Nat->Prop}(h:mU nm A' A)(hr:bG (fun i=>mf (nm.getD i 0)) A' r):bG mf A r:=by
 rcases hr with ⟨h1,h2⟩|⟨h1,⟨x,hx,h2⟩,h3⟩
 ·refine inl ⟨h1,fun x hx=>?_⟩;obtain⟨i,hi,rfl⟩:=(h.2 x).1 hx;exact h2 i hi
 refine inr ⟨h1,⟨nm.getD x 0,(h.2 _).2 ⟨x,hx,rfl⟩,h2⟩,fun y hy=>?_⟩;obtain⟨i,hi,rfl⟩:=(h.2 y).1 hy;exact h3 i hi
def yF(L:List En)(M:Nat)(rp:Nat->Nat)(f:Nat->Bool)(c x:Nat):Prop:=FR L (Mv L (fun y=>y<M/\f y=true) (rp c)) x
structure Made (L:List En)(F:Nat)(nm:List Nat)(L':List En)(f0:Nat)(s0:Nat->Bool)(k:Nat)(R:List (List Int))(SS:List (Nat->Bool)):Prop where
 lI:L=L'.map (En.lI nm)
 nd:nm.Nodup
 bd:∀e∈L',e.f<nm.length/\e.t<nm.length
 hf:nm[f0]?=some F
 src:∀x∈nm,Src L F F x
 st:∀x,x<nm.length->(s0 x=true↔FR L' (fun y=>y=f0) x)
 run:dZ nm.length (rl (cG L) 256).length (yF L' nm.length (kZ (cG L))) [s0] k R SS
theorem Made.rep{f0:Nat}(h:Made L F nm L' f0 s0 k R SS)(b:Nat)(hb:b<256):∀e∈L',e.b=false->e.p (kZ (cG L) (cls (cG L) b))=e.p b:=by
 intro e he h2;have h3:e.lI nm∈L:=by rw[h.lI];exact List.mem_map.2 ⟨e,he,rfl⟩
 exact zpU L b hb (e.lI nm) h3 h2
def rW(M:Nat)(SS:List (Nat->Bool))(A:Nat->Prop)(a:Int):Prop:=(a=-1/\∀x,¬A x)\/∃(j:Nat) (h:j<SS.length),a=((j:Nat):Int)/\∀x,x<M->(SS[j] x=true↔A x)
theorem Made.start{f0:Nat}(h:Made L F nm L' f0 s0 k R SS)(z:Nat->Nat):rW nm.length SS (bZ L' f0 z 0) 0:=by
 have hp:=h.run.pre;have h0:0<SS.length:=Nat.lt_of_lt_of_le (by simp) hp.length_le;have h1:s0=SS[0]:=by
  have:=hp.getElem (i:=0) (by simp);simpa using this
 exact inr ⟨0,h0,rfl,fun x hx=>by rw[<-h1];exact h.st x hx⟩
theorem Made.step{L:List En}{F f0 k:Nat}{nm:List Nat}{L':List En}{s0:Nat->Bool}{R:List (List Int)}{SS:List (Nat->Bool)}(h:Made L F nm L' f0 s0 k R SS)(hk:SS.length=k)(z:Nat->Nat)(t j:Nat)(hz:z t<256)(hs:rW nm.length SS (bZ L' f0 z t) (j:Int)):
  ∃(hj:j<R.length) (hc:cls (cG L) (z t)<R[j].length),rW nm.length SS (bZ L' f0 z (t+1)) R[j][cls (cG L) (z t)]:=by
 have mi:=h.run.len;obtain⟨pI,_⟩:=Pg (cG L) (z t) hz;rcases hs with ⟨h1,_⟩|⟨j',zl,e,hS⟩
 ·omega
 have e2:j'=j:=by omega
 subst e2;have IB:j'<R.length:=by omega
 have cY:=h.run.sE R[j'] (getElem_mem IB);refine⟨IB,by omega,?_⟩;obtain⟨nY,ht⟩:=h.run.oZ j' IB;have JG:=ht (cls (cG L) (z t)) (by omega);have hA:∀x,yF L' nm.length (kZ (cG L)) SS[j'] (cls (cG L) (z t)) x↔bZ L' f0 z (t+1) x:=by
  intro x;show FR L' _ x↔FR L' _ x;refine FR.congr (fun y=>?_) x;rw[Mv.byte (h.rep (z t) hz) y];refine Mv.congr (fun w=>⟨fun hw=>(hS w hw.1).1 hw.2,fun hw=>?_⟩) _ y;have aw:w<nm.length:=bZ.lt (f:=f0) (List.getElem?_eq_some_iff.1 h.hf).1 (fun e he=>(h.bd e he).2) t hw;exact⟨aw,(hS w aw).2 hw⟩
 rcases JG with ⟨h1,h2⟩|⟨_,j2,hj2,h1,h2⟩
 ·refine inl ⟨h1,fun x hx=>?_⟩;have aw:x<nm.length:=bZ.lt (f:=f0) (List.getElem?_eq_some_iff.1 h.hf).1 (fun e he=>(h.bd e he).2) (t+1) hx;exact h2 x aw ((hA x).2 hx)
 exact inr ⟨j2,hj2,h1,fun x hx=>(h2 x hx).trans (hA x)⟩
theorem bZ.dead{f:Nat}{z:Nat->Nat}(h:∀x,¬bZ L f z t x):∀x,¬bZ L f z (t+1) x:=fun x=>FR.none (Mv.none h (z t)) x
theorem Made.names{f0:Nat}(h:Made L F nm L' f0 s0 k R SS)(z:Nat->Nat)(m:Nat):mU nm (bZ L' f0 z m) (bZ L F z m):=by
 have:=mU.run h.nd h.bd (List.getElem?_eq_some_iff.1 h.hf).1 z m;rw[<-h.lI] at this;have e:nm.getD f0 0=F:=by simp[getD_eq_getElem?_getD,h.hf]
 rwa [e] at this
theorem Made.mark{f0:Nat}(h:Made L F nm L' f0 s0 k R SS){z:Nat->Nat}(hj:j<SS.length)(hs:rW nm.length SS (bZ L' f0 z m) (j:Int))
  (hr:bG (fun i=>mf (nm.getD i 0)) (fun x=>x<nm.length/\SS[j] x=true) r):bG mf (bZ L F z m) r:=by
 rcases hs with ⟨h1,_⟩|⟨j',zl,e,hS⟩
 ·omega
 have e2:j'=j:=by omega
 subst e2;refine bG.nam h.nd (h.names z m) (hr.congr (fun x=>⟨fun hx=>(hS x hx.1).1 hx.2,fun hx=>?_⟩));have aw:x<nm.length:=bZ.lt (f:=f0) (List.getElem?_eq_some_iff.1 h.hf).1 (fun e he=>(h.bd e he).2) m hx;exact⟨aw,(hS x aw).2 hx⟩
theorem j7.src{S:Nat->Prop}{S':List (Nat->Bool)}(h:j7 M S SS r S'):∀i (hi:i<S'.length),SS.length<=i->(∃x,x<M/\S x)/\∀x,x<M->(S'[i] x=true↔S x):=by
 intro i hi hl;rcases h with ⟨_,_,rfl⟩|⟨h0,j,_,⟨hj,Dz⟩,rfl|⟨f,rfl,rfl,_⟩⟩
 ·omega
 ·omega
 have:i=SS.length:=by simp at hi;omega
 subst this;exact⟨h0,Dz⟩
theorem fu.src{M:Nat}{T:Nat->Nat->Prop}{SS S':List (Nat->Bool)}{c:Nat}{row:List Int}(h:fu M T SS c row S'):∀i (hi:i<S'.length),SS.length<=i->∃d,d<c/\(∃x,x<M/\T d x)/\∀x,x<M->(S'[i] x=true↔T d x):=by
 induction h with
 | zero=>intro i hi hl;omega
 | @succ c row S1 S2 r h0 h1 ih=>
  intro i hi hl;by_cases e:i<S1.length
  ·obtain⟨d,hd,h2,h3⟩:=ih i e hl;refine⟨d,by omega,h2,fun x hx=>?_⟩;rw[<-h1.pre.getElem e];exact h3 x hx
  obtain⟨h2,h3⟩:=h1.src i hi (by omega);exact⟨c,by omega,h2,h3⟩
theorem dZ.src{M C:Nat}{T:(Nat->Bool)->Nat->Nat->Prop}{S0 S':List (Nat->Bool)}{k:Nat}{R:List (List Int)}(h:dZ M C T S0 k R S'):∀i (hi:i<S'.length),S0.length<=i->∃(i':Nat) (hi':i'<S'.length) (d:Nat),i'<i/\d<C/\(∃x,x<M/\T S'[i'] d x)/\∀x,x<M->(S'[i] x=true↔T S'[i'] d x):=by
 induction h with
 | zero=>intro i hi hl;omega
 | @succ k R row S1 S2 h0 hk h1 ih=>
  intro i hi hl;by_cases e:i<S1.length
  ·obtain⟨i',hi',d,aw,hd,h2,h3⟩:=ih i e hl;refine⟨i',Nat.lt_of_lt_of_le hi' h1.pre.length_le,d,aw,hd,?_,fun x hx=>?_⟩
   ·rw[<-h1.pre.getElem hi'];exact h2
   rw[<-h1.pre.getElem e,<-h1.pre.getElem hi'];exact h3 x hx
  obtain⟨d,hd,h2,h3⟩:=h1.src i hi (by omega);refine⟨k,Nat.lt_of_lt_of_le hk h1.pre.length_le,d,by omega,hd,?_,fun x hx=>?_⟩
  ·rw[<-h1.pre.getElem hk];exact h2
  rw[<-h1.pre.getElem hk];exact h3 x hx
theorem Y0(K:Nat->Lit):0<cQ K 256:=by
 have h:=Es K 0 256 (by omega);omega
structure jr (w:World)(cD:Array Value)(K:Nat->Lit)(R:List (List Int))(ms:List Int)(C:Nat):Prop where
 cl:∀j,j<256->cD[j]?=some (.int .u8 ((cls K j:Nat):Int))
 nx:∃vN gs,cD[256]?=some vN/\rf w 0 [] vN C gs R
 ct:∃vK,cD[257]?=some vK/\w.ownsRow 0 3 1 vK ms.length (ints ms)
 rl:∀r∈R,r.length=C
theorem Iz(w:World)(b:Nat)(cs:Array Value):Kept [] [b] w (w.setRow b cs):=fun k o hk _ hn=>by
 rw[setRow_other w b k cs (by simpa using hn)]
 exact hk
theorem jr.setRow{w:World}{b:Nat}{old cs:Array Value}(h:jr w cD K R ms C)(hb:St w 101 b old):jr (w.setRow b cs) cD K R ms C:=by
 obtain⟨vN,gs,h1,h2⟩:=h.nx;obtain⟨vK,h3,h4⟩:=h.ct;have k:=Iz w b cs;refine⟨h.cl,⟨vN,gs,h1,⟨fy h2.own k (by simp) (fun g e hm=>dG h2.own hb (by decide) g e (List.mem_singleton.1 hm)),h2.len,fun i hi hi'=>⟨(h2.row i hi hi').1.kept k (by simp) (fun hm=>(h2.row i hi hi').1.ne hb (by decide) (List.mem_singleton.1 hm)),by simp⟩⟩⟩,
  ⟨vK,h3,fy h4 k (by simp) (fun g e hm=>dG h4 hb (by decide) g e (List.mem_singleton.1 hm))⟩,h.rl⟩
theorem jr.rows{w:World}(h:jr w cD K R ms C):∃a c A,cD[256]?=some (.slice a R.length c)/\mX w a R.length A (fun _=>C) (fun _=>C) (fun i x=>(R.getD i []).getD x 0):=by
 obtain⟨vN,gs,h1,h2⟩:=h.nx;have hN:=h2.own;obtain⟨aN,cN,rfl⟩:=bF hN;refine⟨aN,cN,fun i=>some ⟨gs.getD i 0,0,none⟩,h1,fun h0=>?_⟩;obtain⟨g,rfl,_,hg,hc⟩:=eR hN h0;refine⟨g,0,rfl,hg,fun i hi=>?_⟩;have LP:i<gs.length:=by rw[h2.len];exact hi
 obtain⟨hs,_⟩:=h2.row i LP hi;have pa:=h.rl _ (getElem_mem hi);refine⟨?_,fun h1=>⟨gs.getD i 0,0,rfl,?_,fun j hj=>?_⟩⟩
 ·rw[zero_add,(hc i (by omega)).1];simp[getD_eq_getElem?_getD,LP]
 ·have:=hs.lt;simpa [getD_eq_getElem?_getD,LP] using this
 have Xg:gs.getD i 0=gs[i]:=by simp[getD_eq_getElem?_getD,LP]
 rw[zero_add,Xg,hs.at_];have hj2:j<R[i].length:=by rw[pa];exact hj
 simp[ints,getD_eq_getElem?_getD,hi,hj2]
theorem jr.marks{w:World}(h:jr w cD K R ms C):∃a c,cD[257]?=some (.slice a ms.length c)/\lb w a ms.length (fun i=>ms.getD i 0):=by
 obtain⟨vK,h3,h4⟩:=h.ct;obtain⟨a,c,rfl⟩:=bF h4;refine⟨a,c,h3,fun h0=>?_⟩;obtain⟨g,rfl,_,hg,hc⟩:=eR h4 h0;refine⟨g,0,rfl,hg,fun j hj=>?_⟩;rw[zero_add,(hc j (by omega)).1];simp[ints,getD_eq_getElem?_getD,hj]
def sD(L:List En)(F:Nat)(mf:Nat->Int)(w:World)(e:Ending)(w':World):Prop:=
 ∃(cD:Array Value) (er:Int) (nm:List Nat) (L':List En) (f0:Nat) (s0:Nat->Bool) (k:Nat) (R:List (List Int)) (SS:List (Nat->Bool)),e=.returned (.tuple #[.agg cD,.int .i64 er])/\Below w.heap.size w w'/\Made L F nm L' f0 s0 k R SS/\cD.size=258/\(∀v∈cD.toList,v.oneCell'=true)/\
  ((er=6/\2000<SS.length/\cD=zC 101)\/(er=0/\SS.length=k/\k<=2000/\∃ms,jr w' cD (cG L) R ms (rl (cG L) 256).length/\ms.length=k/\∀j (h:j<SS.length) (h2:j<ms.length),bG (fun i=>mf (nm.getD i 0)) (fun x=>x<nm.length/\SS[j] x=true) ms[j]))
theorem j7.start{S:Nat->Prop}{jd:List (Nat->Bool)}(h:j7 M S [] r jd)(h0:∃x,x<M/\S x):∃f,jd=[f]/\∀x,x<M->(f x=true↔S x):=by
 rcases h with ⟨h1,_,_⟩|⟨_,j,_,⟨hj,Dz⟩,rfl|⟨f,rfl,rfl,_⟩⟩
 ·obtain⟨x,hx,hs⟩:=h0;exact absurd hs (h1 x hx)
 ·simp at hj
 exact⟨f,rfl,fun x hx=>Dz x hx⟩
theorem lN.dfa{w:World}{D:List ((Nat->Bool) × Nat)}{cs:Array Value}{l:List Nat}{vL vK vN:Value}{gs:List Nat}
  (h:lN B bm gI bM m M C bn K L mk SS ms D R n cs l vL vS vK vN gs w) (hR:∀r∈R,r.length=C):
  ∃cD:Array Value,cD.size=258/\(∀v∈cD.toList,v.oneCell'=true)/\(∀j v,cD.toList[j]?=some v->w.cell? ((⟨bm,1,none⟩:Addr).add j)=some v)/\ms.length=SS.length/\jr w cD K R ms C:=by
 have Xy:=h.inv.len;have hN:=h.nx.own;have hK:=h.t.ok;obtain⟨aN,cN,rfl⟩:=bF hN;obtain⟨aK,cK,rfl⟩:=bF hK;refine⟨((range 256).map (fun j=>Value.int .u8 ((cls K j:Nat):Int))++[Value.slice aN R.length cN,Value.slice aK SS.length cK]).toArray,by simp,fun v hv=>?_,fun j v hj=>?_,Xy,⟨fun j hj=>?_,⟨.slice aN R.length cN,gs,by simp[getElem?_append],⟨jF hN (zero_le _),h.nx.len,fun i hi hi'=>⟨(h.nx.row i hi hi').1,by simp⟩⟩⟩,⟨.slice aK SS.length cK,by simp[getElem?_append],by rw[Xy];exact jF hK (zero_le _)⟩,hR⟩⟩
 ·rcases List.mem_append.1 hv with hv|hv
  ·obtain⟨j,_,rfl⟩:=List.mem_map.1 hv;rfl
  simp only[List.mem_cons,List.not_mem_nil,or_false] at hv;rcases hv with rfl|rfl <;> rfl
 ·have e:(⟨bm,1,none⟩:Addr).add j=⟨bm,1+j,none⟩:=by unfold Addr.add;split <;> simp_all
  have hj2:j<258:=by
   have:=(List.getElem?_eq_some_iff.1 hj).1;simpa using this
  rw[e,h.a.r.other (1+j) (by omega)];by_cases e1:j<256
  ·rw[h.cl j e1,<-hj];simp[getElem?_append,e1]
  by_cases e2:j=256
  ·subst e2;rw[show 1+256=257 from rfl,h.cN,<-hj];simp[getElem?_append]
  have e3:j=257:=by omega
  subst e3;rw[show 1+257=258 from rfl,h.t.cK,<-hj];simp[getElem?_append]
 simp[getElem?_append,hj]
theorem zoI(kf bV:Nat)(mf:Nat->Int)(S0 T:Int)(F:Nat)(L:List En)(a:Option Addr)(n c:Nat)(w:World)(HC:∀(args:Array Value) (W:World),(callFunc kf args).run prog W=.ok (.enter kf args) W)
  (HM:∀W,Below w.heap.size w W->∀x,x<=9223372036854775807->Calls prog kf #[.int .i64 ((x:Nat):Int),.pointer (some ⟨bV,0,none⟩)] W fun e w'=>e=.returned (.int .i64 (mf x))/\w'=W) (zy:∀x,-1<=mf x)
  (hL:kJ w a (L.map En.z)) (hn:L.length=n) (kF:n<=6400) (p9:(bP (L.map En.z)).length<=1000) (hF:F<=9223372036854775807) (hE:∀e∈L,e.f<=9223372036854775807/\e.t<=9223372036854775807) (hr:vu S0 (L.map En.z) (F:Int) T=true):
  Calls prog 95 #[.agg #[.int .i64 S0,.slice a n c,.int .i64 (F:Int),.int .i64 T],.func (.func kf) #[] #[.pointer (some ⟨bV,0,none⟩)]] w (sD L F mf w):=by
 have IY:=hid (fun (W:World) (hb:Below w.heap.size w W)=>ziU kf bV mf S0 T F L a n c W HC (fun W' hb'=>HM W' (hb.trans (hb'.mono hb.size))) (hL.below hb) hn kF p9 hF hE);have WD:Hid (∀(W:World),Below w.heap.size w W->Calls prog 116 #[.agg #[.int .i64 S0,.slice a n c,.int .i64 (F:Int),.int .i64 T]] W fun e w'=>e=.returned (.bool true)/\Below W.heap.size W w'):=fun W hb=>by
  have:=zjL S0 (F:Int) T a n c (L.map En.z) W (hL.below hb) (by rw[length_map];exact hn) (by unfold maxLen;omega);rwa [hr] at this
 have HH:=hid (Zz hn (Zz zy hr));clear HC HM hL hn hE hr zy;go_enter func95,ntmps95;go_wp2_with (refine rB rfl 101 rfl (zC 101) (nG _) ?_);go_upto_region 1 with fail;have h2:St ((w.alloc (.cells #[.int .i64 S0,.slice a n c,.int .i64 (F:Int),.int .i64 T] 119)).alloc (.cells (zC 101) 101)) 119 w.heap.size #[.int .i64 S0,.slice a n c,.int .i64 (F:Int),.int .i64 T]:=(St.new w _ _).alloc _;have h4:St ((w.alloc (.cells #[.int .i64 S0,.slice a n c,.int .i64 (F:Int),.int .i64 T] 119)).alloc (.cells (zC 101) 101)) 101 (w.heap.size+1) (zC 101):=by
  have:=St.new (w.alloc (.cells #[.int .i64 S0,.slice a n c,.int .i64 (F:Int),.int .i64 T] 119)) 101 (zC 101);simpa using this
 have mr:Below w.heap.size w ((w.alloc (.cells #[.int .i64 S0,.slice a n c,.int .i64 (F:Int),.int .i64 T] 119)).alloc (.cells (zC 101) 101)):=(al w _).trans ((al _ _).mono (by simp));generalize (w.alloc (.cells #[.int .i64 S0,.slice a n c,.int .i64 (F:Int),.int .i64 T] 119)).alloc (.cells (zC 101) 101)=W0 at h2 h4 mr⊢;obtain⟨b4,iM⟩:∃b4,w.heap.size+1=b4:=⟨_,rfl⟩
 rw[iM] at h4;rw[iM];obtain⟨r0,r1,r2,r3⟩:=h2.dM;have H0:=hid (Zz h2 (Zz h4 (Zz mr iM)));have rA:=hid (WD.out W0 mr);clear h2 h4 mr iM;go_wp2_with fail;refine rA.out.mono ?_;rintro e w1 ⟨rfl,mg⟩;have pM:Below w.heap.size w w1:=H0.out.2.2.1.trans (mg.mono H0.out.2.2.1.size);have s2:=H0.out.1.aa mg;have H1:=hid (Zz s2 (Zz (H0.out.2.1.aa mg) pM));have rX:=hid (IY.out w1 pM);clear r0 r1 r2 r3;obtain⟨r0,r1,r2,r3⟩:=s2.dM;clear mg pM s2 rA WD IY;go_wp2_with fail;refine rX.out.mono ?_;rintro e w2 ⟨bn,f0,gM,cM,gF,cF,gS,cS,nm,L',aF,aS,Dg,Fa,csA,rfl,mo,Rp,rI,wv,tr,Ii,CK,iO,I9,XT,Ll,rQ⟩;obtain⟨m,hm⟩:∃m,(nm.length+7) / 8=m:=⟨_,rfl⟩
 have Z9:L.length=L'.length:=by rw[CK,length_map]
 have QM:L'.length<=6400:=by have:=HH.out.1;omega
 have Je:nm.length<=12900:=by have:=HH.out.1;omega
 have IK:=hid (ZG (cG L) L' (fun i=>mf (nm.getD i 0)) csA bn gM nm.length cM m (rl (cG L) 256).length w2 tr wv.fX Je hm);have ob:=hid (Zz Rp (Zz rI (Zz wv (Zz Ii (Zz CK (Zz iO (Zz I9 (Zz XT (Zz rQ hm)))))))));have H2:=hid (Zz (H1.out.2.1.aa mo) (H1.out.2.2.trans (mo.mono H1.out.2.2.size)));have aJ:bn<w2.heap.size:=Rp.fR.1;have sb:=mo.size;have Cf:w.heap.size<=w2.heap.size:=by have:=H1.out.2.2.size;omega
 clear mo Rp rI wv tr Ii CK iO I9 XT rQ hm Ll Z9 rX r0 r1 r2 r3;go_wp2_with fail;refine IK.out.mono ?_;rintro e w3 ⟨bm,gI,bM,cK,rfl,Ig,pE⟩;have c0:w3.cell? ⟨bm,0,none⟩=some (.pointer (some ⟨bn,0,none⟩)):=(Ig.a.r.other 0 (by decide)).trans Ig.c0;have c1:w3.cell? ⟨bn,256,none⟩=some (.int .i64 (f0:Int)):=(pE.cell (p:=⟨bn,256,none⟩) aJ).trans ob.out.2.2.2.1;have iW:=pE.size;have Eu:=hid (Ig.aa (al w3 (.cells #[.int .i64 (f0:Int)] 3)));have ru:=hid pE;have rG:=Ig.vV;have DY:f0<nm.length:=(List.getElem?_eq_some_iff.1 ob.out.2.2.2.2.2.2.2.1).1;have Dj:Below w2.heap.size w2 (w3.alloc (.cells #[.int .i64 (f0:Int)] 3)):=pE.trans ((al w3 _).mono iW);have nR:=hid (VM (w3.alloc (.cells #[.int .i64 (f0:Int)] 3)) w2.heap.size (iD bm gI bM (.slice none 0 0) (.slice none 0 0) (.slice none 0 0)) bm gI m nm.length bM bn gM cM gF cF aF Dg L' (ob.out.1.below Dj) ob.out.2.2.2.2.2.2.1 (by omega) cK (fun i=>mf (nm.getD i 0)) (ob.out.2.2.1.below Dj) (fun i _=>HH.out.2.1 _) Eu.out.c0 (by omega) ob.out.2.2.2.2.2.2.2.2.2 _ [] (.slice none 0 0) (.slice none 0 0) (.slice none 0 0) 0 [] [] [] (by simp) (by omega) (by simp)
  (some ⟨w3.heap.size,0,none⟩) 1 1 [f0] rfl (by omega) (fun x hx=>by rw[List.mem_singleton.1 hx];exact DY) (fun W hW h0=>by
   have hg:w3.heap.size<(w3.alloc (.cells #[.int .i64 (f0:Int)] 3)).heap.size:=by simp
   have hn:w3.heap.size∉iD bm gI bM (.slice none 0 0) (.slice none 0 0) (.slice none 0 0):=fun hm=>Nat.lt_irrefl _ (rG _ hm)
   have h1:=hW _ _ (Array.getElem?_eq_getElem hg) (fun _ _ _ _=>by simp) hn
   refine⟨w3.heap.size,0,rfl,(Array.getElem?_eq_some_iff.1 h1).1,fun j hj=>?_⟩
   obtain rfl:j=0:=by simp at hj;omega
   rw[hW.mV hn hg]
   exact (St.new w3 3 #[.int .i64 (f0:Int)]).at_ 0) _ Eu.out.a.r Eu.out.t Eu.out.inv)
 clear Ig pE rG Dj IK;go_wp2_with fail;refine nR.out.mono ?_;rintro e w5 qL;obtain⟨r,Wo,ZB,D1,n1,cs1,l1,JN,Jj,vK1,rfl,zz,hAdd,_,kT,_⟩:=Eu.out.close qL ⟨f0,DY,.base (by simp)⟩;obtain⟨s0,rfl,nw⟩:=hAdd.start ⟨f0,DY,.base (by simp)⟩;have dB:Hid (∀x,x<nm.length->(s0 x=true↔FR L' (fun y=>y=f0) x)):=fun x hx=>(nw x hx).trans (FR.congr (fun y=>by simp) x)
 have Ih:=hid zz;have pY:=hid ((ru.out.trans ((al w3 _).mono iW)).trans kT);clear qL zz hAdd kT nw c0 c1 nR Eu;have hlC:(rl (cG L) 256).length<=256:=by rw[yR];exact KI _ _
 have hCp:0<(rl (cG L) 256).length:=by
  rw[yR];exact Y0 _
 go_wp2;go_loopw [7] (fun v wq=>∃(k:Nat) (SS:List (Nat->Bool)) (ms:List Int) (D:List ((Nat->Bool) × Nat)) (R:List (List Int)) (nn:Nat) (cs:Array Value) (l:List Nat) (vL vS vK vN:Value) (gs:List Nat),v=.int .i64 k/\k<=SS.length/\SS.length<=2000/\
  Hid (lN w2.heap.size bm gI bM m nm.length (rl (cG L) 256).length bn (cG L) L' (fun i=>mf (nm.getD i 0)) SS ms D R nn cs l vL vS vK vN gs wq)/\Hid (dZ nm.length (rl (cG L) 256).length (yF L' nm.length (kZ (cG L))) [s0] k R SS)/\Hid (Below w2.heap.size w2 wq)) (fun v _=>2001-(intOf v).toNat)
 ·exact⟨0,[s0],ZB,D1,[],n1,cs1,l1,JN,Jj,vK1,_,[],rfl,by simp,by simp,Ih,dZ.zero,pY⟩
 clear Ih pY;obtain⟨k,SS,ms,D,R,nn,cs,l,vL,vS,vK,vN,gs,rfl,hk,hS,HM,Mx,HB⟩:=hrel;obtain⟨aS1,cS1,rfl⟩:=bF HM.out.t.os;have d0:wr.cell? ⟨bm,259,none⟩=some (.slice aS1 SS.length cS1):=(HM.out.a.r.other 259 (by decide)).trans HM.out.t.cS;have hRk:=Mx.out.len;have gj:St wr 101 b4 (zC 101):=H2.out.1.below HB.out H2.out.1.lt;by_cases aw:k<SS.length
 ·have hk63:k<3000:=by omega
  have UC:=hid (zmI w2.heap.size bm gI bM m nm.length (rl (cG L) 256).length bn gM cM gF cF gS cS nn k aF aS Dg Fa (kZ (cG L)) (cG L) L' (fun i=>mf (nm.getD i 0)) wr (ob.out.1.below HB.out) (ob.out.2.1.below HB.out) (ob.out.2.2.1.below HB.out) ob.out.2.2.2.2.2.2.1 QM (fun i _=>HH.out.2.1 _) (by rw[<-yR]) hlC Je ob.out.2.2.2.2.2.2.2.2.2 SS ms D R cs l vL _ vK vN gs HM.out aw (by omega) (by omega));have Sf:=hid aw;obtain⟨q,hq⟩:∃q,SS.length=q:=⟨_,rfl⟩
  have i1:(k:Int)<q:=by omega
  rw[hq] at d0;have HQ:=hid hq;clear hq hk;go_wp2_with fail;refine UC.out.mono ?_;rintro e w6 ⟨row,yy,PY,D2,n2,Oe,l2,re,DZ,FL,vN2,gs2,rfl,xw,DI,Ef⟩;obtain⟨QT,cS2,rfl⟩:=bF xw.t.os;have d1:w6.cell? ⟨bm,259,none⟩=some (.slice QT yy.length cS2):=(xw.a.r.other 259 (by decide)).trans xw.t.cS;have G9:Hid (dZ nm.length (rl (cG L) 256).length (yF L' nm.length (kZ (cG L))) [s0] (k+1) (R++[row]) yy):=dZ.succ Mx.out Sf.out DI;have sX:=hid xw;have tu:=hid (HB.out.trans Ef);have BO:St w6 101 b4 (zC 101):=H2.out.1.below tu.out H2.out.1.lt;have kr:=hid DI.pre.length_le;obtain⟨q2,hq2⟩:∃q2,yy.length=q2:=⟨_,rfl⟩
  have um:=hid hq2;rw[hq2] at d1;clear xw DI Ef hq2 d0 gj UC;by_cases ox:2000<q2
  ·have i2:(2000:Int)<q2:=(by omega);have HF:Hid (sD L F mf w (.returned (.tuple #[.agg (zC 101),.int .i64 6])) (w6.setRow b4 (zC 101))):=by
    refine⟨zC 101,6,nm,L',f0,s0,k+1,R++[row],yy,rfl,mY (H2.out.2.trans (tu.out.mono Cf)) (by have:=H0.out.2.2.2;omega) _,⟨ob.out.2.2.2.2.1,ob.out.2.2.2.2.2.1,ob.out.2.2.2.2.2.2.1,ob.out.2.2.2.2.2.2.2.1,ob.out.2.2.2.2.2.2.2.2.1,dB.out,G9.out⟩,jA,Fe,inl ⟨rfl,by rw[um.out];exact ox,rfl⟩⟩
   have kn:=hid BO;clear BO;go_wp2_with (first|(refine BU rfl 101 _ rfl #[] ?hp (.agg (zC 101)) ?hb ?_)|(refine pN rfl 101 _ _ rfl b4 101 (zC 101) (zC 101) rfl rfl kn.out rfl (by rw[gO,jA]) Fe ?_))
   case hb=>exact Pv _
   refine bodyPost_ret (CD rfl _ _ b4 (zC 101) _ rfl kn.out.setRow.part underlying101 rfl (by rw[gO,jA])) rfl ?_;exact HF.out
  have i2:¬((2000:Int)<q2):=by omega
  clear BO;go_wp2;go_roundw
  ·exact⟨k+1,yy,PY,D2,R++[row],n2,Oe,l2,re,_,FL,vN2,gs2,by go_num,by have:=kr.out;have:=Sf.out;omega,by have:=um.out;omega,sX,G9,tu⟩
  simp[intOf];have:=Sf.out;omega
 have Vj:k=SS.length:=by omega
 obtain⟨cD,fO,DE,dF,mT,hD⟩:=HM.out.dfa (fun r hr=>Mx.out.sE r hr);have HF:Hid (sD L F mf w (.returned (.tuple #[.agg cD,.int .i64 0])) (wr.setRow b4 cD)):=by
  refine⟨cD,0,nm,L',f0,s0,k,R,SS,rfl,mY (H2.out.2.trans (HB.out.mono Cf)) (by have:=H0.out.2.2.2;omega) _,⟨ob.out.2.2.2.2.1,ob.out.2.2.2.2.2.1,ob.out.2.2.2.2.2.2.1,ob.out.2.2.2.2.2.2.2.1,ob.out.2.2.2.2.2.2.2.2.1,dB.out,Mx.out⟩,fO,DE,inr ⟨rfl,Vj.symm,by omega,ms,hD.setRow gj,by omega,HM.out.inv.ct⟩⟩
 have kn:=hid gj;have HX:=hid (Zz fO (Zz DE dF));have i1:¬((k:Int)<(SS.length:Int)):=by omega
 clear gj hD mT fO DE dF Vj aw hk;go_wp2_with (first|(refine si rfl 101 _ rfl ⟨bm,1,none⟩ rfl cD _ HX.out.2.2 underlying101 rfl (by rw[gO,HX.out.1]) ?_)|(refine pN rfl 101 _ _ rfl b4 101 (zC 101) cD rfl rfl kn.out (by rw[jA,HX.out.1]) (by rw[gO,HX.out.1]) HX.out.2.1 ?_));refine bodyPost_ret (CD rfl _ _ b4 cD _ rfl kn.out.setRow.part underlying101 rfl (by rw[gO,HX.out.1])) rfl ?_;exact HF.out
theorem zgT(bV:Nat)(S F:Int)(T:Nat)(a:Option Addr)(n c:Nat)(w:World)(hS:St w 119 bV #[.int .i64 S,.slice a n c,.int .i64 F,.int .i64 (T:Int)])(x:Nat)(hx:x<=9223372036854775807)(hT:T<=9223372036854775807):
  Calls prog 96 #[.int .i64 (x:Int),.pointer (some ⟨bV,0,none⟩)] w fun e w'=>e=.returned (.int .i64 (if x=T then 0 else -1))/\w'=w:=by
 obtain⟨c0,c1,c2,c3⟩:=hS.dM;by_cases e:x=T
 ·rw[if_pos e];subst e;go_enter func96,ntmps96;go_wp2;go_ret;exact⟨rfl,rfl⟩
 rw[if_neg e];have i1:¬((x:Int)=T):=by omega
 go_enter func96,ntmps96;go_wp2;go_ret;exact⟨rfl,rfl⟩
theorem sD.put{w W0:World}{er:Int}{f0:Nat}{b4:Nat}
  (hB:Below w.heap.size w W0) (h1:Below W0.heap.size W0 w') (h2:Made L F nm L' f0 s0 k R SS) (h3:cD.size=258) (h4:∀v∈cD.toList,v.oneCell'=true)
  (h5:(er=6/\2000<SS.length/\cD=zC 101)\/(er=0/\SS.length=k/\k<=2000/\∃ms,jr w' cD (cG L) R ms (rl (cG L) 256).length/\ms.length=k/\∀j (h:j<SS.length) (h2:j<ms.length),bG (fun i=>mf (nm.getD i 0)) (fun x=>x<nm.length/\SS[j] x=true) ms[j]))
  (dC:St w' 101 b4 (zC 101)) (iM:w.heap.size<=b4):sD L F mf w (.returned (.tuple #[.agg cD,.int .i64 er])) (w'.setRow b4 cD):=by
 refine⟨cD,er,nm,L',f0,s0,k,R,SS,rfl,mY (hB.trans (h1.mono hB.size)) iM _,h2,h3,h4,?_⟩;rcases h5 with h|⟨e1,e2,e3,ms,h6,h7,h8⟩
 ·exact inl h
 exact inr ⟨e1,e2,e3,ms,h6.setRow dC,h7,h8⟩
theorem zkT:∀(args:Array Value) (W:World),(callFunc 96 args).run prog W=.ok (.enter 96 args) W:=fun _ _=>by rfl
theorem zoJ(S0:Int)(F T:Nat)(L:List En)(a:Option Addr)(n c:Nat)(w:World)
  (hL:kJ w a (L.map En.z)) (hn:L.length=n) (kF:n<=6400) (p9:(bP (L.map En.z)).length<=1000) (hF:F<=9223372036854775807) (hT:T<=9223372036854775807) (hE:∀e∈L,e.f<=9223372036854775807/\e.t<=9223372036854775807) (hr:vu S0 (L.map En.z) (F:Int) (T:Int)=true):
  Calls prog 82 #[.agg #[.int .i64 S0,.slice a n c,.int .i64 (F:Int),.int .i64 (T:Int)]] w (sD L F (fun x=>if x=T then 0 else -1) w):=by
 have iZ:∀(fn:Fn) (first cap:Array Value) (w:World),(makeFunc fn first cap).run prog w=.ok (.func fn first cap) w:=fun _ _ _ _=>rfl
 have HD:=hid (fun (W:World) (hb:Below w.heap.size w W) (bV:Nat) (hS:St W 119 bV #[.int .i64 S0,.slice a n c,.int .i64 ((F:Nat):Int),.int .i64 ((T:Nat):Int)])=>zoI 96 bV (fun x=>if x=T then 0 else -1) S0 ((T:Nat):Int) F L a n c W zkT (fun W' hb' x hx=>zgT bV S0 ((F:Nat):Int) T a n c W' (hS.aa hb') x hx hT) (fun x=>by split <;> omega) (hL.below hb) hn kF p9 hF hE hr);clear hL hn hE hr;go_enter func82,ntmps82;go_wp2_with (refine rB rfl 101 rfl (zC 101) (nG _) ?_);go_upto_region 1 with fail;have h2:St ((w.alloc (.cells #[.int .i64 S0,.slice a n c,.int .i64 (F:Int),.int .i64 (T:Int)] 119)).alloc (.cells (zC 101) 101)) 119 w.heap.size #[.int .i64 S0,.slice a n c,.int .i64 (F:Int),.int .i64 (T:Int)]:=(St.new w _ _).alloc _;have h4:St ((w.alloc (.cells #[.int .i64 S0,.slice a n c,.int .i64 (F:Int),.int .i64 (T:Int)] 119)).alloc (.cells (zC 101) 101)) 101 (w.heap.size+1) (zC 101):=by
  have:=St.new (w.alloc (.cells #[.int .i64 S0,.slice a n c,.int .i64 (F:Int),.int .i64 (T:Int)] 119)) 101 (zC 101);simpa using this
 have mr:Below w.heap.size w ((w.alloc (.cells #[.int .i64 S0,.slice a n c,.int .i64 (F:Int),.int .i64 (T:Int)] 119)).alloc (.cells (zC 101) 101)):=(al w _).trans ((al _ _).mono (by simp));generalize (w.alloc (.cells #[.int .i64 S0,.slice a n c,.int .i64 (F:Int),.int .i64 (T:Int)] 119)).alloc (.cells (zC 101) 101)=W0 at h2 h4 mr⊢;obtain⟨b4,iM⟩:∃b4,w.heap.size+1=b4:=⟨_,rfl⟩
 rw[iM] at h4;rw[iM];obtain⟨r0,r1,r2,r3⟩:=h2.dM;have H0:=hid (Zz h4 (Zz mr iM));have T7:=hid (HD.out W0 mr w.heap.size h2);clear h2 h4 mr iM;go_wp2_with fail;refine T7.out.mono ?_;rintro e w1 ⟨cD,er,nm,L',f0,s0,k,R,SS,rfl,h1,h2,h3,h4,h5⟩;have dC:=H0.out.1.aa h1;have HF:=hid (sD.put (mf:=fun x=>if x=T then 0 else -1) H0.out.2.1 h1 h2 h3 h4 h5 dC (by have:=H0.out.2.2;omega));have kn:=hid dC;have HX:=hid (Zz h3 h4);clear h1 h2 h3 h4 h5 dC HD T7 r0 r1 r2 r3;go_wp2_with (refine pN rfl 101 _ _ rfl b4 101 (zC 101) cD rfl rfl kn.out (by rw[jA,HX.out.1]) (by rw[gO,HX.out.1]) HX.out.2 ?_);refine bodyPost_ret (CD rfl _ _ b4 cD _ rfl kn.out.setRow.part underlying101 rfl (by rw[gO,HX.out.1])) rfl ?_;exact HF.out
def sg(nm:List Nat)(f:Nat->Bool)(x:Nat):Prop:=∃i,(i<nm.length/\f i=true)/\nm.getD i 0=x
theorem SB(nm:List Nat)(f:Nat->Bool):mU nm (fun i=>i<nm.length/\f i=true) (sg nm f):=⟨fun i h=>h.1,fun x=>Iff.rfl⟩
theorem YT(hn:nm.Nodup)(f:Nat->Bool)(hi:i<nm.length):sg nm f (nm.getD i 0)↔f i=true:=by
 rw[mU.at hn (SB nm f) hi];exact⟨fun h=>h.2,fun h=>⟨hi,h⟩⟩
theorem Yw(hn:nm.Nodup)(f g:Nat->Bool):(∀x,x<nm.length->f x=g x)↔∀x,sg nm f x↔sg nm g x:=by
 constructor
 ·rintro h x;exact⟨fun ⟨i,⟨h1,h2⟩,h3⟩=>⟨i,⟨h1,by rw[<-h i h1];exact h2⟩,h3⟩,fun ⟨i,⟨h1,h2⟩,h3⟩=>⟨i,⟨h1,by rw[h i h1];exact h2⟩,h3⟩⟩
 intro h x hx;rw[Bool.eq_iff_iff,<-YT hn f hx,<-YT hn g hx];exact h _
structure Di (L:List En)(F:Nat)(nm:List Nat)(L':List En)(f0:Nat)(s0:Nat->Bool)(k:Nat)(R:List (List Int))(SS:List (Nat->Bool)):Prop where
 lI:L=L'.map (En.lI nm)
 nd:nm.Nodup
 bd:∀e∈L',e.f<nm.length/\e.t<nm.length
 hf:nm[f0]?=some F
 st:∀x,x<nm.length->(s0 x=true↔FR L' (fun y=>y=f0) x)
 run:dZ nm.length (rl (cG L) 256).length (yF L' nm.length (kZ (cG L))) [s0] k R SS
theorem Made.w{f0:Nat}(h:Made L F nm L' f0 s0 k R SS):Di L F nm L' f0 s0 k R SS:=⟨h.lI,h.nd,h.bd,h.hf,h.st,h.run⟩
theorem LH{f0:Nat}(h:Di L F nm L' f0 s0 k R SS)(rp:Nat->Nat)(f:Nat->Bool)(c:Nat):mU nm (yF L' nm.length rp f c) (FR L (Mv L (sg nm f) (rp c))):=by
 have h1:=mU.fr h.nd h.bd (mU.mv h.nd h.bd (SB nm f) (rp c));rw[<-h.lI] at h1;exact h1
theorem PF{f:Nat->Bool}{P' P:Nat->Prop}(h:mU nm P' P)(hf:∀x,x<nm.length->(f x=true↔P' x))(x:Nat):sg nm f x↔P x:=by
 rw[h.2 x];exact⟨fun ⟨i,⟨h1,h2⟩,h3⟩=>⟨i,(hf i h1).1 h2,h3⟩,fun ⟨i,h1,h2⟩=>⟨i,⟨h.1 i h1,(hf i (h.1 i h1)).2 h1⟩,h2⟩⟩
theorem UX{f1 k1 f2 k2:Nat}{uV yg:List Nat}{L1 L2:List En}{s1 s2:Nat->Bool}{R1 R2:List (List Int)}{Wo yy:List (Nat->Bool)}(h1:Di L F uV L1 f1 s1 k1 R1 Wo)(h2:Di L F yg L2 f2 s2 k2 R2 yy):
  ∀{k:Nat}{R R':List (List Int)}{A B:List (Nat->Bool)},dZ uV.length (rl (cG L) 256).length (yF L1 uV.length (kZ (cG L))) [s1] k R A->dZ yg.length (rl (cG L) 256).length (yF L2 yg.length (kZ (cG L))) [s2] k R' B->R=R'/\sj (fun f g=>∀x,sg uV f x↔sg yg g x) A B:=by
 have start:∀{nm:List Nat}{L':List En}{s0:Nat->Bool}{f0 k:Nat}{R:List (List Int)}{SS:List (Nat->Bool)},Di L F nm L' f0 s0 k R SS->∀x,sg nm s0 x↔FR L (fun y=>y=F) x:=by
  intro nm L' s0 f0 k R SS h;have h3:=mU.run h.nd h.bd (List.getElem?_eq_some_iff.1 h.hf).1 (fun _=>0) 0;rw[<-h.lI,show nm.getD f0 0=F by simp[getD_eq_getElem?_getD,h.hf]] at h3;exact PF h3 h.st
 intro k R R' A B;refine dZ.side (M:=uV.length) (M':=yg.length) (Rl:=fun f g=>∀x,sg uV f x↔sg yg g x) (A:=[s1]) (B:=[s2]) ⟨fun f g f' g' a b=>?_⟩ (fun f g hfg c hc=>?_) (fun f g hfg c hc f' g' _ hf hg x=>?_) (fun i j hi hj _=>by simp at hi hj;omega) (fun i j hi hj _=>by simp at hi hj;omega) ⟨rfl,fun i hi hi' x=>?_⟩
 ·rw[Yw h1.nd,Yw h2.nd];exact⟨fun h x=>by rw[<-a x,<-b x];exact h x,fun h x=>by rw[a x,b x];exact h x⟩
 ·have n1:=LH h1 (kZ (cG L)) f c;have n2:=LH h2 (kZ (cG L)) g c;have e:∀x,FR L (Mv L (sg uV f) (kZ (cG L) c)) x↔FR L (Mv L (sg yg g) (kZ (cG L) c)) x:=fun x=>FR.congr (fun y=>Mv.congr (fun w=>hfg w) _ y) x
  constructor
  ·rintro⟨x,hx,hT⟩;obtain⟨i,hi,_⟩:=(n2.2 _).1 ((e _).1 ((n1.2 _).2 ⟨x,hT,rfl⟩));exact⟨i,n2.1 i hi,hi⟩
  rintro⟨x,hx,hT⟩;obtain⟨i,hi,_⟩:=(n1.2 _).1 ((e _).2 ((n2.2 _).2 ⟨x,hT,rfl⟩));exact⟨i,n1.1 i hi,hi⟩
 ·rw[PF (LH h1 (kZ (cG L)) f c) hf x,PF (LH h2 (kZ (cG L)) g c) hg x];exact FR.congr (fun y=>Mv.congr (fun w=>hfg w) _ y) x
 have e0:i=0:=by simp at hi;omega
 subst e0;show sg uV s1 x↔sg yg s2 x;rw[start h1 x,start h2 x]
structure Zt (W:World)(RS RG cA:Array Value)(n m:Nat)(a1 a2:Option Addr)(c1 c2:Nat)(A1 A2:Nat->Option Addr)(C1 C2 l1 l2:Nat->Nat)(z1 z2:Nat->Nat->Int)(b1 b2:Option Addr)(d1 d2:Nat)(y1 y2:Nat->Int):Prop where
 sz:cA.size=256
 cl:∀j,j<256->RS[j]?=cA[j]?/\RG[j]?=cA[j]?/\∃v,cA[j]?=some (.int .u8 v)
 n1:RS[256]?=some (.slice a1 n c1)
 n2:RG[256]?=some (.slice a2 n c2)
 r1:mX W a1 n A1 C1 l1 z1
 r2:mX W a2 n A2 C2 l2 z2
 eq:zpB n n l1 l2 z1 z2
 le:n<=2000/\(∀i,l1 i<=256)/\∀i,l2 i<=256
 m1:RS[257]?=some (.slice b1 m d1)
 m2:RG[257]?=some (.slice b2 m d2)
 mz1:lb W b1 m y1
 mz2:lb W b2 m y2
 ye:m<=2000/\∀x,x<m->y1 x=y2 x
theorem bu.tz{w:World}{ts te sz:Nat}{v' u:Value}{vs:Nat->Value}{len:Nat->Nat}(h:bu w B ts te sz v M vs len xs)(ht:te≠ts)(hu:w.ownsRow B te sz u (len M) (xs M))(hs:∀i,i<M->∀b,(vs i).ownBlock=some b->u.ownBlock≠some b)
  (ho:w'.ownsRow B ts 1 v' (M+1) ((range M).map vs++[u])) (hg:w.grownBy w' v.ownBlock):bu w' B ts te sz v' (M+1) (fun j=>if j=M then u else vs j) len xs:=by
 refine⟨?_,fun i hi=>?_,fun i j hi hj hij b=>?_⟩
 ·have e:(range (M+1)).map (fun j=>if j=M then u else vs j)=(range M).map vs++[u]:=by
   rw[List.range_succ,List.map_append];congr 1
   ·refine(List.map_congr_left fun j hj=>?_);have:j<M:=(by simpa using hj);rw[if_neg (by omega)]
   simp
  rw[e];exact ho
 ·by_cases e:i=M
  ·subst e;simp only[if_pos rfl];exact ri hu hg (fun b e1 e2=>gP hu h.own ht b e1 e2.symm)
  simp only[if_neg e];exact ri (h.row i (by omega)) hg (fun b e1 e2=>gP (h.row i (by omega)) h.own ht b e1 e2.symm)
 by_cases e1:i=M
 ·by_cases e2:j=M
  ·omega
  simp only[if_pos e1,if_neg e2];intro e3 e4;exact hs j (by omega) b e4 e3
 by_cases e2:j=M
 ·simp only[if_neg e1,if_pos e2];exact hs i (by omega) b
 simp only[if_neg e1,if_neg e2];exact h.sep i j (by omega) (by omega) hij b
theorem lx{w:World}{s:Nat}{xs:List Value}(ho:w.ownsRow B t s v n xs):∀g,v.ownBlock=some g->g<w.heap.size:=fun g e=>by
 obtain⟨c,fz,hc⟩:=pS ho g e
 exact (Array.getElem?_eq_some_iff.1 hc).1
section
variable {W0 : World}{z N C : Nat}{rp : List Nat}{vP vR : Value}{SS : List (Nat → Bool)}{vs : Nat → Value}{vN : Value}{R : List (List Int)}{ws : Nat → Value}{vO : Value}{ms : List Int}{vW : Value}{row : List Int}{w : World}
end
def uT:Value->Option Addr
 | .slice a _ _=>a
 | _=>none
def xV:Value->Nat
 | .slice _ _ c=>c
 | _=>0
theorem bu.zs{w:World}{ws:Nat->Value}(h:bu w B 43 3 1 (.slice a k c) k ws (fun _=>C) (fun j=>ints (R.getD j [])))(hk:R.length=k)(hl:∀r∈R,r.length=C):
  mX w a k (fun i=>uT (ws i)) (fun i=>xV (ws i)) (fun _=>C) (fun i x=>(R.getD i []).getD x 0):=by
 intro h0;obtain⟨g,rfl,_,hg,hc⟩:=eR h.own h0;refine⟨g,0,rfl,hg,fun i hi=>?_⟩;obtain⟨ai,ci,e⟩:=bF (h.row i hi);have hr:=h.row i hi;refine⟨?_,fun h1=>?_⟩
 ·rw[zero_add,(hc i (by omega)).1];simp[hi,e,uT,xV]
 rw[e] at hr;obtain⟨g2,e2,_,yi,jf⟩:=eR hr h1;refine⟨g2,0,by simp[e,uT,e2],yi,fun j hj=>?_⟩;rw[zero_add,(jf j (by simpa using hj)).1];have ku:i<R.length:=by omega
 have hj2:j<R[i].length:=by rw[hl _ (getElem_mem ku)];exact hj
 simp[ints,getD_eq_getElem?_getD,ku,hj2]
theorem Ng{w:World}{l:List Int}(h:w.ownsRow B 3 1 (.slice a n c) n (ints l))(hl:l.length=n):lb w a n (fun i=>l.getD i 0):=by
 intro h0;obtain⟨g,rfl,_,hg,hc⟩:=eR h h0;refine⟨g,0,rfl,hg,fun j hj=>?_⟩;rw[zero_add,(hc j (by omega)).1];have hj2:j<l.length:=by omega
 simp[ints,getD_eq_getElem?_getD,hj2]
end Go.Proofs.YtiijebameffenaaGreat
