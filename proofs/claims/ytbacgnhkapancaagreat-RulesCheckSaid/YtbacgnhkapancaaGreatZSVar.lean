import Derived.Test.YtbacgnhkapancaaGreatZRefClass
import Derived.Laws.CopyRow
import Derived.Laws.ResultCell
set_option linter.all false
set_option maxHeartbeats 1000000
set_option maxRecDepth 100000
open Go.Lib (hid)
namespace Go.Proofs.YtbacgnhkapancaaGreat
open Go.RowKit Go.Proofs.Tryz
open Act (put)
open Value (ownBlock)
open Result (andThen_ok)
open Sem (run_bind run_pure)
open World (ownsRow_nil)
open Or (inl)
open Nat (le_refl zero_add)
variable {L:List En}{M Mf Mm Ms bM:Nat}{dj:List Int}{ev:Operand->Value}{fv sv:Nat->Value}{ops:Array Oper}{vF vM vS:Value}{xs:Nat->List Value}
def qS(L:List Eg)(i:Nat):Nat->Bool:=(cv L).getD i (fun _=>false)
theorem zn7{w:World}{B n c:Nat}{a:Option Addr}{L:List Eg}(h:w.ownsRow B 57 4 (.slice a n c) n (zP (cv L)))(hn:(cv L).length=n):lA w a n (qS L):=by
 intro h0;obtain⟨g,e,_,hg,hc⟩:=ep h (by omega);refine⟨g,0,e,hg,fun i hi=>?_⟩;have tN:i<(cv L).length:=by omega
 have hse:qS L i=(cv L)[i]:=by simp[qS,List.getD_eq_getElem?_getD,List.getElem?_eq_getElem tN]
 have rd:∀j,j<4->w.cell? ⟨g,i*4+j,none⟩=(jg (qS L i))[j]?:=fun j hj=>by rw[(hc _ (by omega)).1,zpV _ i tN j hj,hse]
 simp only[zero_add];exact⟨rd 0 (by omega),rd 1 (by omega),rd 2 (by omega),rd 3 (by omega)⟩
open Go.Maps Go.WideElems Go.ChangeMaps Go.MapKept
def dK(L:List En):Nat->Lit:=jG (qS (L.map En.z)) (cv (L.map En.z)).length
def zoN(K:Nat->Lit)(w:World)(e:Ending)(w':World):Prop:=
 ∃(b7 b8 bL:Nat) (aR:Option Addr) (cR:Nat),e=.returned (.func (.func 143) #[] #[.pointer (some ⟨b8,0,none⟩),.pointer (some ⟨b7,0,none⟩)])/\(∀P,vy w.heap.size b7 b8 bL 0 (rl K 256) aR cR P [] w')/\Below w.heap.size w w'/\w.heap.size<=bL
theorem zmo(K:Nat->Lit)(bn:Nat)(cs:Array Value)(w:World)(h:GD w w.heap.size bn K cs):Calls prog 116 #[.pointer (some ⟨bn,0,none⟩)] w (zoN K w):=by
 have HF:=hid (zeG K w.heap.size bn cs w h);have DE:∀(fn:Fn) (first cap:Array Value) (w:World),(Instr.makeFunc fn first cap).run prog w=.ok (.func fn first cap) w:=fun _ _ _ _=>rfl
 have iQ:=@run_makeMap prog;clear h;go_enter func116,ntmps116;go_wp2_with fail;refine HF.out.mono ?_;rintro e w2 ⟨a,c,rfl,hO,hB⟩;have HZ:Hid (zoN K w (.returned (.func (.func 143) #[] #[.pointer (some ⟨w2.heap.size+1+1,0,none⟩),.pointer (some ⟨w2.heap.size,0,none⟩)])) (((w2.alloc (.cells #[.slice a (dz K 256) c] 86)).alloc (.map #[] 0)).alloc (.cells #[.map (some (w2.heap.size+1))] 192))):=by
  have k1:=al w2 (.cells #[.slice a (dz K 256) c] 86);have k2:=al (w2.alloc (.cells #[.slice a (dz K 256) c] 86)) (.map #[] 0);have k3:=al ((w2.alloc (.cells #[.slice a (dz K 256) c] 86)).alloc (.map #[] 0)) (.cells #[.map (some (w2.heap.size+1))] 192);have hlen:(rl K 256).length=dz K 256:=zm K 256;have hs:=hB.size;refine⟨w2.heap.size,w2.heap.size+1+1,w2.heap.size+1,a,c,rfl,fun P=>⟨?_,?_,?_,?_,fun d hd=>by simp at hd,⟨by omega,by simp;omega⟩,fun x hx=>?_⟩,?_,by omega⟩
  ·rw[hlen];exact ((St.new w2 _ _).ab k2).ab k3
  ·have:=St.new ((w2.alloc (.cells #[.slice a (dz K 256) c] 86)).alloc (.map #[] 0)) 192 #[.map (some (w2.heap.size+1))];simpa using this
  ·rw[hlen];exact cW (cW (cW hO k1) k2) k3
  ·have h1:aO ((w2.alloc (.cells #[.slice a (dz K 256) c] 86)).alloc (.map #[] 0)) 57 (w2.heap.size+1) 0 (LQ (rl K 256) []):=by
    have:=aO.made (w2.alloc (.cells #[.slice a (dz K 256) c] 86)) 57 (LQ (rl K 256) []) (fun x y ⟨d,hd,_⟩=>by simp at hd);simpa using this
   exact h1.same (k3.block _ h1.lt)
  ·obtain⟨c,hc,rfl⟩:=List.getElem_of_mem hx;exact (Ws K 256 c hc).2
  exact ((hB.trans (k1.mono hs)).trans (k2.mono (by simp;omega))).trans (k3.mono (by simp;omega))
 clear hO hB;go_wp2;go_ret;exact HZ.out
def vA(v:Value):Option Addr:=match v with|.slice a _ _=>a|_=>none
def vC(v:Value):Nat:=match v with|.slice _ _ c=>c|_=>0
theorem il.first{w:World}{B bn:Nat}{cs:Array Value}(h:il B bn Mm Mf Ms cs dj vM vF vS fv sv xs L w)(u:Value):
  il B bn Mm Mf Ms (cs.setIfInBounds 256 u) dj vM vF vS fv sv xs L (w.setCell ⟨bn,256,none⟩ u)/\iO B bn (l7 bn Mf Ms vM vF vS fv sv) (l7 bn Mf Ms vM vF vS fv sv) w (w.setCell ⟨bn,256,none⟩ u):=by
 have hk:Kept [] [bn] w (w.setCell ⟨bn,256,none⟩ u):=(Kept.refl _ _ _).setCell _ _ (inl (by simp));have hne:∀{t s n:Nat}{v:Value}{ys:List Value},w.ownsRow B t s v n ys->t≠121->∀b,v.ownBlock=some b->b∉[bn]:=fun ho ht b e hm=>ef ho h.sn ht b e (List.mem_singleton.1 hm)
 refine⟨⟨?_,by simp[h.sz],fA h.om hk (by simp) (hne h.om (by decide)),h.fr.kept hk (hne h.fr.own (by decide)) (fun i hi=>hne (h.fr.row i hi) (by decide)),h.st.kept hk (hne h.st.own (by decide)) (fun i hi=>hne (h.st.row i hi) (by decide)),h.sep,⟨h.lo.1,by simpa [World.size_setCell] using h.lo.2⟩,h.hE,h.hx⟩,
  ⟨⟨[bn],hk,fun x hx=>inl (inl (List.mem_singleton.1 hx))⟩,fun x hx=>inl hx,(Below.refl _ _).setCell (p:=⟨bn,256,none⟩) h.lo.1 u⟩⟩
 have:=h.sn.set 256 u;rwa [Array.setIfInBounds_comm vS u (by decide),Array.setIfInBounds_comm vF u (by decide),Array.setIfInBounds_comm vM u (by decide)] at this
theorem il.net{w:World}{B bn:Nat}{cs:Array Value}{P:Nat->Prop}{cl:(Nat->Bool)->List Nat}{mk:Nat->Int}(h:il B bn M M M cs dj vM vF vS fv sv xs L w)(hM:0<M)(hr:∀i,i<M->uS w P cl (de L i) (xs i))(fu:∀i,i<M->dj[i]?=some (mk i)):
  ∃gM cM gF cF gS cS,lU w w.heap.size bn gF M cF (fun i=>vA (fv i)) (fun i=>vC (fv i)) L/\pn w w.heap.size bn gS M cS (fun i=>vA (sv i)) (fun i=>vC (sv i)) cl L/\kW w w.heap.size bn gM M cM mk:=by
 obtain⟨aM,cM,rfl⟩:=bJ h.om;obtain⟨aF,cF,rfl⟩:=bJ h.fr.own;obtain⟨aS,cS,rfl⟩:=bJ h.st.own;obtain⟨gM,rfl,_,rF,ME⟩:=ep h.om hM;obtain⟨gF,rfl,_,RU,N8⟩:=ep h.fr.own hM;obtain⟨gS,rfl,_,wK,Ng⟩:=ep h.st.own hM;obtain⟨c0,c1,c2⟩:=h.cells;have bY:=h.sn.lt;refine⟨gM,cM,gF,cF,gS,cS,⟨⟨bY,RU⟩,c1,fun i hi=>?_,fun i hi h0=>?_⟩,⟨⟨bY,wK⟩,c2,fun i hi=>?_,fun i hi h0=>?_⟩,⟨⟨bY,rF⟩,c0,fun i hi=>?_⟩⟩
 ·rw[(N8 i (by omega)).1];obtain⟨a,c,e⟩:=bJ (h.fr.row i hi);simp[hi,e,vA,vC]
 ·have ho:=h.fr.row i hi;obtain⟨a,c,e⟩:=bJ ho;rw[e] at ho;obtain⟨g,rfl,_,hg,hc⟩:=ep ho h0;refine⟨g,0,by simp[e,vA],hg,fun j hj=>?_⟩;rw[zero_add,(hc j (by omega)).1,By _ j hj]
 ·rw[(Ng i (by omega)).1];obtain⟨a,c,e⟩:=bJ (h.st.row i hi);simp[hi,e,vA,vC]
 ·have ho:=h.st.row i hi;obtain⟨a,c,e⟩:=bJ ho;rw[e] at ho;obtain⟨g,rfl,_,hg,hc⟩:=ep ho h0;refine⟨g,0,by simp[e,vA],hg,fun k hk=>?_⟩;obtain⟨a',c',h1,h2,h3⟩:=(hr i hi).2 k hk;refine⟨a',c',by rw[zero_add,(hc (k*2) (by omega)).1,h1],by rw[zero_add,(hc (k*2+1) (by omega)).1,h2],fun h4=>?_⟩;obtain⟨g',off,e1,e2,_,e3⟩:=h3 h4;exact⟨g',off,e1,e2,e3⟩
 rw[(ME i (by omega)).1];simp only[ints,List.getElem?_map,fu i hi,Option.map_some]
theorem Gd(w:World)(p:Addr)(u:Value){g i:Nat}(h:g≠p.block):(w.setCell p u).cell? ⟨g,i,none⟩=w.cell? ⟨g,i,none⟩:=by
 have e:=Below.heap_setCell w p u g h;simp only[World.cell?,e]
theorem La(cs:Array Value)(i:Nat)(v:Value)(h:cs[i]?=some v):cs.setIfInBounds i v=cs:=by
 apply Array.ext_getElem?;intro j;by_cases e:i=j
 ·subst e;rw[Array.getElem?_setIfInBounds_self_of_lt (Array.getElem?_eq_some_iff.1 h).1,h]
 rw[Array.getElem?_setIfInBounds_ne e]
theorem vy.base{B B' b7 b8 bL n:Nat}{lr:List Nat}{aR:Option Addr}{cR:Nat}{P:Nat->Prop}{DL:List ((Nat->Bool) × Option Addr × Nat)}{w:World}(h:vy B' b7 b8 bL n lr aR cR P DL w)(hb:B<=B'):vy B b7 b8 bL n lr aR cR P DL w:=
 ⟨h.s7,h.s8,gE h.row hb,h.map,h.at_,⟨Nat.le_trans hb h.lo.1,Nat.le_trans hb h.lo.2⟩,h.lr⟩
theorem tv.first{V w:World}{B bn b3 b5 b6:Nat}{fn:Value}{mf:Nat->Int}{nm:List Nat}{cs:Array Value}(h:tv V B bn b3 b5 b6 bM fn mf nm cs vM vF vS fv sv xs L w)(u:Value):
  tv V B bn b3 b5 b6 bM fn mf nm (cs.setIfInBounds 256 u) vM vF vS fv sv xs L (w.setCell ⟨bn,256,none⟩ u):=by
 obtain⟨h1,h2⟩:=h.n.first u
 exact⟨h1,h.sM.fS h.n.sn (by decide) _ _,h.sT.fS h.n.sn (by decide) _ _,h.sF.fS h.n.sn (by decide) _ _,h.map.set h.n.sn,h.nd,h.le,h.bM,h.bb.trans h2.below⟩
theorem tv.start(V w3:World)(B b3:Nat)(fn:Value)(mf:Nat->Int)(cN:Array Value)(hb:Below B V w3)(hB:B<=w3.heap.size)(h3:St w3 93 b3 #[fn])(hs:cN.size=260)(h7:cN[257]?=some (.slice none 0 0))(h8:cN[258]?=some (.slice none 0 0))(h9:cN[259]?=some (.slice none 0 0)):
  tv V B w3.heap.size b3 (w3.heap.size+1) (w3.heap.size+1+1+1) (w3.heap.size+1+1) fn mf [] cN (.slice none 0 0) (.slice none 0 0) (.slice none 0 0) (fun _=>.slice none 0 0) (fun _=>.slice none 0 0) (fun _=>[]) []
   ((((w3.alloc (.cells cN 121)).alloc (.cells #[.pointer (some ⟨w3.heap.size,0,none⟩)] 116)).alloc (.map #[] 0)).alloc (.cells #[.map (some (w3.heap.size+1+1))] 157)):=by
 have k1:=al w3 (.cells cN 121);have k2:=al (w3.alloc (.cells cN 121)) (.cells #[.pointer (some ⟨w3.heap.size,0,none⟩)] 116);have k3:=al ((w3.alloc (.cells cN 121)).alloc (.cells #[.pointer (some ⟨w3.heap.size,0,none⟩)] 116)) (.map #[] 0);have k4:=al (((w3.alloc (.cells cN 121)).alloc (.cells #[.pointer (some ⟨w3.heap.size,0,none⟩)] 116)).alloc (.map #[] 0)) (.cells #[.map (some (w3.heap.size+1+1))] 157);have e0:((cN.setIfInBounds 257 (.slice none 0 0)).setIfInBounds 258 (.slice none 0 0)).setIfInBounds 259 (.slice none 0 0)=cN:=by rw[La cN 257 _ h7,La cN 258 _ h8,La cN 259 _ h9]
 refine⟨⟨?_,hs,ownsRow_nil _ _ _ _,⟨ownsRow_nil _ _ _ _,fun i hi=>by simp at hi,fun i j hi=>by simp at hi⟩,⟨ownsRow_nil _ _ _ _,fun i hi=>by simp at hi,fun i j hi=>by simp at hi⟩,fun i hi=>by simp at hi,⟨hB,by simp;omega⟩,fun e he=>by simp at he,fun i hi=>rfl⟩,?_,?_,?_,?_,List.nodup_nil,fun x hx=>by simp at hx,by omega,?_⟩
 ·rw[e0];exact (((St.new w3 121 cN).ab k2).ab k3).ab k4
 ·have:=St.new (((w3.alloc (.cells cN 121)).alloc (.cells #[.pointer (some ⟨w3.heap.size,0,none⟩)] 116)).alloc (.map #[] 0)) 157 #[.map (some (w3.heap.size+1+1))];simpa using this
 ·have:=((St.new (w3.alloc (.cells cN 121)) 116 #[.pointer (some ⟨w3.heap.size,0,none⟩)]).ab k3).ab k4;simpa using this
 ·exact (((h3.ab k1).ab k2).ab k3).ab k4
 ·have h1:aO (((w3.alloc (.cells cN 121)).alloc (.cells #[.pointer (some ⟨w3.heap.size,0,none⟩)] 116)).alloc (.map #[] 0)) 3 (w3.heap.size+1+1) 0 (zY []):=by
   have:=aO.made ((w3.alloc (.cells cN 121)).alloc (.cells #[.pointer (some ⟨w3.heap.size,0,none⟩)] 116)) 3 (zY []) (fun x y ⟨k,s,h,_⟩=>by simp at h);simpa using this
  exact h1.same (k4.block _ h1.lt)
 exact (((hb.trans (k1.mono hB)).trans (k2.mono (by simp;omega))).trans (k3.mono (by simp;omega))).trans (k4.mono (by simp;omega))
theorem il.cl{w:World}{B bn:Nat}{cs csA:Array Value}{K:Nat->Lit}(h:il B bn Mm Mf Ms cs dj vM vF vS fv sv xs L w)(hs:csA.size=256)(hv:∀j,j<256->csA[j]?=some (.int .u8 ((cls K j:Nat):Int)))(hc:∀j,j<256->cs[j]?=csA[j]?):GD w w.heap.size bn K csA:=
 ⟨h.sn.lt,hs,hv,fun j v hj=>by
  have hj2:j<256:=by
   have:=(List.getElem?_eq_some_iff.1 hj).1
   simpa [hs] using this
  have e:(⟨bn,0,none⟩:Addr).add j=⟨bn,j,none⟩:=by unfold Addr.add;split <;> simp_all
  rw[e,h.sn.at_,Array.getElem?_setIfInBounds_ne (by omega),Array.getElem?_setIfInBounds_ne (by omega),Array.getElem?_setIfInBounds_ne (by omega),hc j hj2,<-Array.getElem?_toList,hj]⟩
theorem zev{P:Program}{o:Oper}(hg:o.guard=none)(ty:TypeId)(x:Operand)(ho:o.op=.load ty x)(ad:Addr)(hx:ev x=.pointer (some ad))(cs:Array Value)(d:TypeDesc)(w:World)(hc:∀j v,cs.toList[j]?=some v->w.cell? (ad.add j)=some v)
  (hu:P.underlying ty=some d) (hd:(match d with|.struct _|.array _ _=>true|_=>false)=true) (hi:(P.info? ty).map (·.size)=some cs.size):(execOp ev o).run P w=.ok (.value (.agg cs)) w:=by
 unfold execOp;simp only[ho,hx,Instr.loadAt,Instr.sureAddr,run_bind,run_pure,andThen_ok,Gh w ad ty cs d hc hu hd hi]
theorem R3{P:Program}{o:Oper}(hg:o.guard=none)(t:TypeId)(parts:Array (Nat × Operand))(ho:o.op=.build t parts)(ps:Array (Nat × Value))(hp:(parts.map fun (i,x)=>(i,ev x))=ps)(v:Value){w:World}(hb:(Instr.build t ps).run P w=.ok v w):(execOp ev o).run P w=.ok (.value v) w:=by
 unfold execOp;simp only[ho,hp,run_bind,hb,andThen_ok,run_pure]
theorem zmp(N:Nat)(hN:N<=2147483647)(W:World):(Instr.makeSlice 86 (.int .i64 (N:Int)) (.int .i64 (N:Int))).run prog W=.ok (.slice (some ⟨W.heap.size,0,none⟩) N N) (W.alloc (.cells (madeCells #[.int .u8 0] N) 5)):=by
 have:=run_make_row' (P:=prog) 86 5 (.int .u8 0) 1 underlying86 kZ rfl .i64 .i64 N (by omega) (by omega) W;simpa using this
theorem T0{w w':World}{B bm gI m C bn:Nat}{K:Nat->Lit}{mk:Nat->Int}{csA cK:Array Value}(hw:Below B w w')(hB:B<=w'.heap.size)(hm:St w' 125 bm cK)(hi:w'.ownsRow B 5 1 (.slice (some ⟨gI,0,none⟩) m m) m (List.replicate m (.int .u8 0)))(hM:aO w' 9 bM 0 (MQ M []))
  (fW:∀j,j<256->csA[j]?=some (.int .u8 ((cls K j:Nat):Int)))
  (hc:cK.size=263/\cK[0]?=some (.pointer (some ⟨bn,0,none⟩))/\(∀j,j<256->cK[1+j]?=csA[j]?)/\cK[257]?=some (.slice none 0 0)/\cK[258]?=some (.slice none 0 0)/\cK[259]?=some (.slice none 0 0)/\cK[260]?=some (.map (some bM))/\cK[261]?=some (.slice (some ⟨gI,0,none⟩) m m)/\cK[262]?=some (.slice none 0 0))
  (h1:B<=bm) (h2:B<=gI) (h3:B<=bM):lF B bm gI bM m M C bn K L mk [] [] [] [] 0 cK [] (.slice none 0 0) (.slice none 0 0) (.slice none 0 0) (.slice none 0 0) [] w':=by
 obtain⟨z,c0,cc,c7,c8,c9,c10,c11,c12⟩:=hc;refine⟨⟨⟨Kept.refl _ _ _,Below.refl _ _,by rw[La cK 262 _ c12];exact hm,z,c11,?_,ownsRow_nil _ _ _ _,fun b e=>by simp[ownBlock] at e,⟨by simp[jc],by simp[jc]⟩,h1,h2,hB⟩,List.nodup_nil,fun x hx=>by simp at hx⟩,
  ⟨c8,c9,c10,ownsRow_nil _ _ _ _,ownsRow_nil _ _ _ _,hM,fun b e=>by simp[ownBlock] at e,fun b e=>by simp[ownBlock] at e,fun b e=>by simp[ownBlock] at e,by simp[jc],h3⟩,
  ⟨fun j hj=>by simp at hj,fun p hp=>by simp at hp,rfl,fun j hj=>by simp at hj⟩,⟨ownsRow_nil _ _ _ _,rfl,fun i hi=>by simp at hi⟩,c0,c7,fun j hj=>by rw[cc j hj];exact fW j hj,le_refl _⟩
 rw[show (fun x=>decide (x∈([]:List Nat)))=fun _=>false from by funext x;simp,Rq];exact hi
def B9(B m M C bn:Nat)(K:Nat->Lit)(L:List En)(mk:Nat->Int)(w:World)(e:Ending)(w':World):Prop:=
 ∃(bm gI bM:Nat) (cK:Array Value),e=.returned (.pointer (some ⟨bm,0,none⟩))/\lF B bm gI bM m M C bn K L mk [] [] [] [] 0 cK [] (.slice none 0 0) (.slice none 0 0) (.slice none 0 0) (.slice none 0 0) [] w'/\Below B w w'
theorem zg6(K:Nat->Lit)(L:List En)(mk:Nat->Int)(csA:Array Value)(bn gM M cM m C:Nat)(w:World)(h:GD w w.heap.size bn K csA)(hM:w.cell? ⟨bn,257,none⟩=some (.slice (some ⟨gM,0,none⟩) M cM))(Ly:M<=12900)(hm:(M+7) / 8=m):
  Calls prog 78 #[.pointer (some ⟨bn,0,none⟩)] w (B9 w.heap.size m M C bn K L mk w):=by
 have dL:(prog.info? 36).map (·.size)=some csA.size:=by rw[h.sz];kernel_rfl
 obtain⟨cD,hDs,hD,se⟩:=znW csA h.sz;have zg:=zmp m (by omega);have iQ:=@run_makeMap prog;have hq:Int.tdiv ((M:Int)+7) 8=(m:Int):=by rw[Int.tdiv_eq_ediv_of_nonneg (by omega),<-hm];omega
 have Bb:IntKind.i64.wrap ((M:Int)+7)=(M:Int)+7:=IntWalk.i64_in _ (by omega);have Ik:IntKind.i64.wrap (m:Int)=m:=IntWalk.i64_in _ (by omega);have H:=hid h;have bY:=h.ga;have dt:=hid (fun (W':World) (k:Below w.heap.size w W')=>(⟨fun j v hj=>(by
   have e:(⟨bn,0,none⟩:Addr).add j=⟨bn,j,none⟩:=by unfold Addr.add;split <;> simp_all
   have h2:=h.at_ j v hj
   rw[e] at h2⊢
   exact (k.cell (p:=⟨bn,j,none⟩) bY).trans h2),(k.cell (p:=⟨bn,257,none⟩) bY).trans hM⟩:
  (∀j v,csA.toList[j]?=some v->W'.cell? ((⟨bn,0,none⟩:Addr).add j)=some v)/\W'.cell? ⟨bn,257,none⟩=some (.slice (some ⟨gM,0,none⟩) M cM)))
 have mI:∀(W:World),w.heap.size<=W.heap.size->(W.alloc (.cells (madeCells #[.int .u8 0] m) 5)).ownsRow w.heap.size 5 1 (.slice (some ⟨W.heap.size,0,none⟩) m m) m (List.replicate m (.int .u8 0)):=fun W hW=>DX W w.heap.size m 5 (.int .u8 0) hW (by unfold maxLen;omega)
 have HBa:Below w.heap.size w ((w.alloc (.map #[] 0)).alloc (.cells (madeCells #[.int .u8 0] m) 5)).drew:=((al w _).trans ((al _ _).mono (by simp))).drew;have Wm:Below w.heap.size w ((w.alloc (.cells (madeCells #[.int .u8 0] m) 5)).alloc (.map #[] 0)).drew:=((al w _).trans ((al _ _).mono (by simp))).drew;have Cv:∀cK:Array Value,Below w.heap.size w (((w.alloc (.map #[] 0)).alloc (.cells (madeCells #[.int .u8 0] m) 5)).alloc (.cells cK 125)).drew:=fun cK=>(((al w _).trans ((al _ _).mono (by simp))).trans ((al _ _).mono (by simp;omega))).drew
 have Cn:∀cK:Array Value,Below w.heap.size w (((w.alloc (.cells (madeCells #[.int .u8 0] m) 5)).alloc (.map #[] 0)).alloc (.cells cK 125)).drew:=fun cK=>(((al w _).trans ((al _ _).mono (by simp))).trans ((al _ _).mono (by simp;omega))).drew
 have mM:∀(W:World),aO (W.alloc (.map #[] 0)) 9 W.heap.size 0 (MQ M []):=fun W=>aO.made W 9 (MQ M []) (fun x y ⟨p,hp,_⟩=>by simp at hp)
 have yf:∀cK:Array Value,(cK.size=263/\cK[0]?=some (.pointer (some ⟨bn,0,none⟩))/\(∀j,j<256->cK[1+j]?=csA[j]?)/\cK[257]?=some (.slice none 0 0)/\cK[258]?=some (.slice none 0 0)/\cK[259]?=some (.slice none 0 0)/\cK[260]?=some (.map (some w.heap.size))/\cK[261]?=some (.slice (some ⟨w.heap.size+1,0,none⟩) m m)/\cK[262]?=some (.slice none 0 0))->
   Hid (B9 w.heap.size m M C bn K L mk w (.returned (.pointer (some ⟨w.heap.size+1+1,0,none⟩))) (((w.alloc (.map #[] 0)).alloc (.cells (madeCells #[.int .u8 0] m) 5)).alloc (.cells cK 125)).drew):=fun cK hc=>by
  have k3:=al ((w.alloc (.map #[] 0)).alloc (.cells (madeCells #[.int .u8 0] m) 5)) (.cells cK 125)
  refine⟨w.heap.size+1+1,w.heap.size+1,w.heap.size,cK,rfl,T0 (csA:=csA) (Cv cK) (by simp;omega) ?_ ?_ ?_ H.out.val hc (by omega) (by omega) (le_refl _),Cv cK⟩
  ·have:=(St.new ((w.alloc (.map #[] 0)).alloc (.cells (madeCells #[.int .u8 0] m) 5)) 125 cK).drew
   simpa using this
  ·have:=cW (mI (w.alloc (.map #[] 0)) (by simp)) (k3.drew)
   simpa using this
  ·exact (mM w).same (((al (w.alloc (.map #[] 0)) _).trans (k3.mono (by simp))).drew.block _ (by simp))
 have HFb:∀cK:Array Value,(cK.size=263/\cK[0]?=some (.pointer (some ⟨bn,0,none⟩))/\(∀j,j<256->cK[1+j]?=csA[j]?)/\cK[257]?=some (.slice none 0 0)/\cK[258]?=some (.slice none 0 0)/\cK[259]?=some (.slice none 0 0)/\cK[260]?=some (.map (some (w.heap.size+1)))/\cK[261]?=some (.slice (some ⟨w.heap.size,0,none⟩) m m)/\cK[262]?=some (.slice none 0 0))->
   Hid (B9 w.heap.size m M C bn K L mk w (.returned (.pointer (some ⟨w.heap.size+1+1,0,none⟩))) (((w.alloc (.cells (madeCells #[.int .u8 0] m) 5)).alloc (.map #[] 0)).alloc (.cells cK 125)).drew):=fun cK hc=>by
  have k3:=al ((w.alloc (.cells (madeCells #[.int .u8 0] m) 5)).alloc (.map #[] 0)) (.cells cK 125)
  refine⟨w.heap.size+1+1,w.heap.size,w.heap.size+1,cK,rfl,T0 (csA:=csA) (Cn cK) (by simp;omega) ?_ ?_ ?_ H.out.val hc (by omega) (le_refl _) (by omega),Cn cK⟩
  ·have:=(St.new ((w.alloc (.cells (madeCells #[.int .u8 0] m) 5)).alloc (.map #[] 0)) 125 cK).drew
   simpa using this
  ·exact cW (mI w (le_refl _)) ((al _ _).trans (k3.mono (by simp))).drew
  ·have:=(mM (w.alloc (.cells (madeCells #[.int .u8 0] m) 5))).same (k3.drew.block _ (by simp))
   simpa using this
 clear h hM;go_enter func78,ntmps78;go_upto_region 1 with fail;refine wp_region_held_drew (S:=fun W'=>(∀j v,csA.toList[j]?=some v->W'.cell? ((⟨bn,0,none⟩:Addr).add j)=some v)/\W'.cell? ⟨bn,257,none⟩=some (.slice (some ⟨gM,0,none⟩) M cM)) (by kernel_rfl) (dt.out _ (Below.refl _ _).drew) (fun hHeld=>?_)
 (refine av 0 ?_;refine av 1 ?_;refine av 2 ?_;try simp only[put,sA,sB,sC];refine av 3 ?_)
 (refine av 4 (v:=(.agg csA)) ?_ (hy:=by intro wz hSw;exact zev rfl 36 _ rfl ⟨bn,0,none⟩ (by rfl) csA (.array 256 5) wz hSw.1 underlying36 rfl dL);try simp only[put,sA,sB,sC])
 (refine wpAnyH_take (i:=5) (oi:=?_) (v:=(.agg cD)) ?_ (by kernel_rfl) (by kernel_rfl) (by kernel_rfl) ?_ (inl ⟨?_,?_⟩) (by assumption) ?_;rotate_left 1;(focus ((simp only[List.getElem?_toArray,List.getElem?_cons_succ,List.getElem?_cons_zero]);first|done|rfl));(focus (exact fun _ _ _ h=>h));(focus rfl);(focus (intro wz hSw;exact R3 rfl 39 _ rfl #[(0,.agg csA)] (by first|kernel_rfl|(go_simp;done)) (.agg cD) (hD wz)));try simp only[put,sA,sB,sC])
 (refine av 7 ?_;refine av 8 ?_;refine av 9 ?_;try simp only[put,sA,sB,sC];refine av 10 ?_;refine av 11 ?_;refine av 12 ?_;try simp only[put,sA,sB,sC];refine av 13 ?_;try simp only[put,sA,sB,sC])
 refine wpAnyH_ready (rs:=[6,14]) (by kernel_rfl) (by simp) ?_;refine gy (fun K hK=>?_) ?_
 ·skip;go_simp;refine hK.out _ _ (dt.out _ (al w _).drew) (fun hHeld=>?_);clear hK K
  try simp only[put,sA,sB,sC]
  refine bq 14 (fun K hK=>?_);skip;go_simp;refine hK.out _ _ (dt.out _ HBa) (fun hHeld=>?_);clear hK K
  try simp only[put,sA,sB,sC]
  obtain⟨cK,mL⟩:=se bn w.heap.size (w.heap.size+1) m;have tm:=Cv cK;have HF:=yf cK ⟨mL.1,mL.2.1,mL.2.2.1,mL.2.2.2.1,mL.2.2.2.2.1,mL.2.2.2.2.2.1,mL.2.2.2.2.2.2.1,mL.2.2.2.2.2.2.2.1,mL.2.2.2.2.2.2.2.2.1⟩
  (refine wpAnyH_take (i:=15) (oi:=?_) (v:=(.agg cK)) ?_ (by kernel_rfl) (by kernel_rfl) (by kernel_rfl) ?_ (inl ⟨?_,?_⟩) (by assumption) ?_;rotate_left 1;(focus ((simp only[List.getElem?_toArray,List.getElem?_cons_succ,List.getElem?_cons_zero]);first|done|rfl));(focus (exact fun _ _ _ h=>h));(focus rfl);(focus (intro wz hSw;exact R3 rfl 125 _ rfl #[(0,.pointer (some ⟨bn,0,none⟩)),(1,.agg cD),(3,.map (some (w.heap.size))),(4,.slice (some ⟨w.heap.size+1,0,none⟩) m m)] (by first|kernel_rfl|(go_simp;done)) (.agg cK) (mL.2.2.2.2.2.2.2.2.2 wz)));try simp only[put,sA,sB,sC])
  refine bq 16 (fun K hK=>?_);skip;go_simp;refine hK.out _ _ (dt.out _ tm) (fun hHeld=>?_);clear hK K
  try simp only[put,sA,sB,sC]
  (refine av 17 ?_;try simp only[put,sA,sB,sC])
  refine wpAnyH_done (by kernel_rfl) ?_ _;clear hHeld;go_wp2;go_ret;exact HF.out
 refine gy (fun K hK=>?_) ?_
 ·skip;go_simp;refine hK.out _ _ (dt.out _ (al w _).drew) (fun hHeld=>?_);clear hK K
  try simp only[put,sA,sB,sC]
  refine bq 6 (fun K hK=>?_);skip;go_simp;refine hK.out _ _ (dt.out _ Wm) (fun hHeld=>?_);clear hK K
  try simp only[put,sA,sB,sC]
  obtain⟨cK,mL⟩:=se bn (w.heap.size+1) w.heap.size m;have tm:=Cn cK;have HF:=HFb cK ⟨mL.1,mL.2.1,mL.2.2.1,mL.2.2.2.1,mL.2.2.2.2.1,mL.2.2.2.2.2.1,mL.2.2.2.2.2.2.1,mL.2.2.2.2.2.2.2.1,mL.2.2.2.2.2.2.2.2.1⟩
  (refine wpAnyH_take (i:=15) (oi:=?_) (v:=(.agg cK)) ?_ (by kernel_rfl) (by kernel_rfl) (by kernel_rfl) ?_ (inl ⟨?_,?_⟩) (by assumption) ?_;rotate_left 1;(focus ((simp only[List.getElem?_toArray,List.getElem?_cons_succ,List.getElem?_cons_zero]);first|done|rfl));(focus (exact fun _ _ _ h=>h));(focus rfl);(focus (intro wz hSw;exact R3 rfl 125 _ rfl #[(0,.pointer (some ⟨bn,0,none⟩)),(1,.agg cD),(3,.map (some (w.heap.size+1))),(4,.slice (some ⟨w.heap.size,0,none⟩) m m)] (by first|kernel_rfl|(go_simp;done)) (.agg cK) (mL.2.2.2.2.2.2.2.2.2 wz)));try simp only[put,sA,sB,sC])
  refine bq 16 (fun K hK=>?_);skip;go_simp;refine hK.out _ _ (dt.out _ tm) (fun hHeld=>?_);clear hK K
  try simp only[put,sA,sB,sC]
  (refine av 17 ?_;try simp only[put,sA,sB,sC])
  refine wpAnyH_done (by kernel_rfl) ?_ _;clear hHeld;go_wp2;go_ret;exact HF.out
 exact AllReadyH.nil
theorem lP(w:World):(zeroValue 39).run prog w=.ok (.agg (zC 39)) w:=by kernel_rfl
theorem Bz:∀v∈(zC 39).toList,v.oneCell'=true:=by
 have h:(zC 39).toList.all (fun v=>v.oneCell')=true:=by kernel_rfl
 exact fun v hv=>List.all_eq_true.1 h v hv
theorem fB:(prog.info? 39).map (·.size)=some 258:=by kernel_rfl
theorem GM(w:World):(Instr.build 39 #[]).run prog w=.ok (.agg (zC 39)) w:=run_build w _ _ _ (by kernel_rfl)
theorem oO{P:Program}{rest:List Oper}{o:Oper}{a:Act}{w:World}{Q:Exit->Act->World->Prop}(oG:o.guard=none)(t:TypeId)(ho:o.op=.alloc t)(cs:Array Value)(hz:(zeroValue t).run P w=.ok (.agg cs) w)
  (h:wpList P ops Q rest (a.put o.dst (.pointer (some ⟨w.heap.size,0,none⟩))) (w.alloc (.cells cs t))):wpList P ops Q (o :: rest) a w:=
 wpList_plain oG fun _ hK=>by
  unfold Oper.wp execOp
  simp only[ho,Instr.alloc,run_bind,hz,andThen_ok,newVar,newRow,newObj,Value.cells]
  exact hK _ _ h
theorem l6{P:Program}{rest:List Oper}{o:Oper}{a:Act}{w:World}{Q:Exit->Act->World->Prop}(oG:o.guard=none)(ty:TypeId)(x v:Operand)(ho:o.op=.store ty x v)(g t:Nat)(lf cs:Array Value)(hx:a.eval x=.pointer (some ⟨g,0,none⟩))(hv:a.eval v=.agg cs)
  (bQ:w.heap[g]?=some (.cells lf t (0,0))) (cU:lf.size=cs.size) (hi:(P.info? ty).map (·.size)=some cs.size) (h1:∀u∈cs.toList,u.oneCell'=true) (h:wpList P ops Q rest (a.put o.dst undef) (w.setRow g cs)):wpList P ops Q (o :: rest) a w:=by
 have cj:(storeVar ty ⟨g,0,none⟩ (.agg cs)).run P w=.ok () (w.setRow g cs):=by
  have hs:(sizeOf ty).run P w=.ok cs.size w:=by
   cases hq:P.info? ty with
   | none=>simp[hq] at hi
   | some inf=>
    have:inf.size=cs.size:=(by simpa [hq] using hi);simp[sizeOf,typeInfo,hq,this]
  have:=run_storeCells_at (P:=P) g 0 t cs.toList 0 lf w bQ (by simp[cU]) h1;unfold storeVar;simp only[run_bind,hs,andThen_ok];rw[if_neg (show ¬((Value.agg cs).cells.size≠cs.size) from fun h=>h rfl)];show (storeCells ⟨g,0,none⟩ cs.toList).run P w=_;rw[this];congr 2;have hd:List.drop cs.size lf.toList=[]:=List.drop_of_length_le (by simp[cU]);simp[hd]
 exact wpList_plain oG fun _ hK=>by
  unfold Oper.wp execOp;simp only[ho,hx,hv,Instr.storeAt,Instr.sureAddr,run_bind,run_pure,andThen_ok,cj];exact hK _ _ h
theorem St.setRow{w:World}{t g:Nat}{lf cs:Array Value}(h:St w t g lf):St (w.setRow g cs) t g cs:=setRow_heap w g lf cs t (0,0) h
theorem lk{B:Nat}{w w':World}{g:Nat}(h:Below B w w')(hg:B<=g)(cs:Array Value):Below B w (w'.setRow g cs):=
 ⟨h.os,h.tape,h.output,by rw[setRow_size];exact h.size,fun k hk=>by rw[setRow_other w' g k cs (by omega)];exact h.block k hk⟩
theorem wR{P:Program}{fn:Func}{p u:Tmp}{ty:TypeId}(h:fn.results=#[.cell p ty,.tmp u])(tmps:Array Value)(w:World)(g:Nat)(cs:Array Value)(d:TypeDesc)(hp:tmps.getD p undef=.pointer (some ⟨g,0,none⟩))(hc:∀j v,cs.toList[j]?=some v->w.cell? ((⟨g,0,none⟩:Addr).add j)=some v)
  (hu:P.underlying ty=some d) (hd:(match d with|.struct _|.array _ _=>true|_=>false)=true) (hi:(P.info? ty).map (·.size)=some cs.size):
  (results fn tmps).run P w=.ok (.tuple #[.agg cs,tmps.getD u undef]) w:=by
 rw[results_cell_tmp h,hp];have h1:(asAddr (.pointer (some ⟨g,0,none⟩))).run P w=.ok ⟨g,0,none⟩ w:=by rfl
 rw[h1,andThen_ok,Gh w ⟨g,0,none⟩ ty cs d hc hu hd hi,andThen_ok]
theorem St.part{w:World}{t g:Nat}{cs:Array Value}(h:St w t g cs):∀j v,cs.toList[j]?=some v->w.cell? ((⟨g,0,none⟩:Addr).add j)=some v:=fun j v hj=>by
 have e:(⟨g,0,none⟩:Addr).add j=⟨g,j,none⟩:=by unfold Addr.add;split <;> simp_all
 rw[e,h.at_,<-Array.getElem?_toList,hj]
end Go.Proofs.YtbacgnhkapancaaGreat
