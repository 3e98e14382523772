import Derived.Test.YtiijebameffenaaGreatZRefClass
import Derived.Laws.CopyRow
import Derived.Laws.ResultCell
set_option linter.all false
set_option maxHeartbeats 2000000
set_option maxRecDepth 100000
open Go.Lib (hid)
namespace Go.Proofs.YtiijebameffenaaGreat
open Go.RowKit Go.Proofs.Tryz
open List (getD_eq_getElem?_getD getElem?_append getElem?_map getElem?_range getElem?_toArray getElem_mem length_map mem_append mem_singleton range replicate take_length)
open Nat (le_refl le_trans zero_add zero_le)
open Instr (build makeFunc sureAddr)
open Or (inl inr)
open Option (map_some)
open _root_.Array (getElem?_setIfInBounds_ne getElem?_toList)
open World (news_of_block ownsRow_nil)
open Sem (run_bind run_pure)
open Result (andThen_ok)
open Value (oneCell' ownBlock)
open Act (put)
variable {B C F M Mf Mm Ms bM bm bn c g gI i j k m n t x y:Nat}{K:Nat->Lit}{L L':List En}{Ls lc nm:List Nat}{P:Program}{R:List (List Int)}{SS:List (Nat->Bool)}{a:Option Addr}{cD cs csA:Array Value}{cq ms:List Int}{ev:Operand->Value}{fv sv:Nat->Value}{mf mk:Nat->Int}{ops:Array Oper}{r:Int}{s0:Nat->Bool}{v vF vM vS:Value}{w w':World}{xs:Nat->List Value}
def qQ(L:List Eg)(i:Nat):Nat->Bool:=(bJ L).getD i (fun _=>false)
theorem zms{L:List Eg}(h:w.ownsRow B 146 4 (.slice a n c) n (yI (bJ L)))(hn:(bJ L).length=n):lj w a n (qQ L):=by
 intro h0;obtain⟨g,e,_,hg,hc⟩:=fe h (by omega);refine⟨g,0,e,hg,fun i hi=>?_⟩;have tx:i<(bJ L).length:=by omega
 have oz:qQ L i=(bJ L)[i]:=by simp[qQ,getD_eq_getElem?_getD,List.getElem?_eq_getElem tx]
 have rd:∀j,j<4->w.cell? ⟨g,i*4+j,none⟩=(iD (qQ L i))[j]?:=fun j hj=>by rw[(hc _ (by omega)).1,zn8 _ i tx j hj,oz]
 simp only[zero_add];exact⟨rd 0 (by omega),rd 1 (by omega),rd 2 (by omega),rd 3 (by omega)⟩
open Go.Maps Go.WideElems Go.ChangeMaps Go.MapKept
def dp(L:List En):Nat->Lit:=jy (qQ (L.map En.z)) (bJ (L.map En.z)).length
def Yn(K:Nat->Lit)(w:World)(e:Ending)(w':World):Prop:=
 ∃(b7 b8 bL:Nat) (aR:Option Addr) (cR:Nat),e=.returned (.func (.func 170) #[] #[.pointer (some ⟨b8,0,none⟩),.pointer (some ⟨b7,0,none⟩)])/\(∀P,uP w.heap.size b7 b8 bL 0 (rl K 256) aR cR P [] w')/\Below w.heap.size w w'/\w.heap.size<=bL
theorem zkK(K:Nat->Lit)(bn:Nat)(cs:Array Value)(w:World)(h:F5 w w.heap.size bn K cs):Calls prog 151 #[.pointer (some ⟨bn,0,none⟩)] w (Yn K w):=by
 have HF:=hid (zdV K w.heap.size bn cs w h);have xQ:∀(fn:Fn) (first cap:Array Value) (w:World),(makeFunc fn first cap).run prog w=.ok (.func fn first cap) w:=fun _ _ _ _=>rfl
 have iK:=@run_makeMap prog;clear h;go_enter func151,ntmps151;go_wp2_with fail;refine HF.out.mono ?_;rintro e w2 ⟨a,c,rfl,hO,hB⟩;have HZ:Hid (Yn K w (.returned (.func (.func 170) #[] #[.pointer (some ⟨w2.heap.size+1+1,0,none⟩),.pointer (some ⟨w2.heap.size,0,none⟩)])) (((w2.alloc (.cells #[.slice a (cO K 256) c] 76)).alloc (.map #[] 0)).alloc (.cells #[.map (some (w2.heap.size+1))] 219))):=by
  have k1:=al w2 (.cells #[.slice a (cO K 256) c] 76);have k2:=al (w2.alloc (.cells #[.slice a (cO K 256) c] 76)) (.map #[] 0);have k3:=al ((w2.alloc (.cells #[.slice a (cO K 256) c] 76)).alloc (.map #[] 0)) (.cells #[.map (some (w2.heap.size+1))] 219);have hlen:(rl K 256).length=cO K 256:=zA K 256;have hs:=hB.size;refine⟨w2.heap.size,w2.heap.size+1+1,w2.heap.size+1,a,c,rfl,fun P=>⟨?_,?_,?_,?_,fun d hd=>by simp at hd,⟨by omega,by simp;omega⟩,fun x hx=>?_⟩,?_,by omega⟩
  ·rw[hlen];exact ((St.new w2 _ _).aa k2).aa k3
  ·have:=St.new ((w2.alloc (.cells #[.slice a (cO K 256) c] 76)).alloc (.map #[] 0)) 219 #[.map (some (w2.heap.size+1))];simpa using this
  ·rw[hlen];exact dr (dr (dr hO k1) k2) k3
  ·have h1:aD ((w2.alloc (.cells #[.slice a (cO K 256) c] 76)).alloc (.map #[] 0)) 146 (w2.heap.size+1) 0 (LQ (rl K 256) []):=by
    have:=aD.made (w2.alloc (.cells #[.slice a (cO K 256) c] 76)) 146 (LQ (rl K 256) []) (fun x y ⟨d,hd,_⟩=>by simp at hd);simpa using this
   exact h1.same (k3.block _ h1.lt)
  ·obtain⟨c,hc,rfl⟩:=List.getElem_of_mem hx;exact (Se K 256 c hc).2
  exact ((hB.trans (k1.mono hs)).trans (k2.mono (by simp;omega))).trans (k3.mono (by simp;omega))
 clear hO hB;go_wp2;go_ret;exact HZ.out
def vA(v:Value):Option Addr:=match v with|.slice a _ _=>a|_=>none
def vC(v:Value):Nat:=match v with|.slice _ _ c=>c|_=>0
theorem gQ.first(h:gQ B bn Mm Mf Ms cs cq vM vF vS fv sv xs L w)(u:Value):
  gQ B bn Mm Mf Ms (cs.setIfInBounds 256 u) cq vM vF vS fv sv xs L (w.setCell ⟨bn,256,none⟩ u)/\iv B bn (lE bn Mf Ms vM vF vS fv sv) (lE bn Mf Ms vM vF vS fv sv) w (w.setCell ⟨bn,256,none⟩ u):=by
 have hk:Kept [] [bn] w (w.setCell ⟨bn,256,none⟩ u):=(Kept.refl _ _ _).setCell _ _ (inl (by simp));have hne:∀{t s n:Nat}{v:Value}{ys:List Value},w.ownsRow B t s v n ys->t≠165->∀b,v.ownBlock=some b->b∉[bn]:=fun ho ht b e hm=>dH ho h.sn ht b e (List.mem_singleton.1 hm)
 refine⟨⟨?_,by simp[h.sz],fD h.om hk (by simp) (hne h.om (by decide)),h.fr.kept hk (hne h.fr.own (by decide)) (fun i hi=>hne (h.fr.row i hi) (by decide)),h.st.kept hk (hne h.st.own (by decide)) (fun i hi=>hne (h.st.row i hi) (by decide)),h.sep,⟨h.lo.1,by simpa [World.size_setCell] using h.lo.2⟩,h.hE,h.hx⟩,
  ⟨⟨[bn],hk,fun x hx=>inl (inl (List.mem_singleton.1 hx))⟩,fun x hx=>inl hx,(Below.refl _ _).setCell (p:=⟨bn,256,none⟩) h.lo.1 u⟩⟩
 have:=h.sn.set 256 u;rwa [Array.setIfInBounds_comm vS u (by decide),Array.setIfInBounds_comm vF u (by decide),Array.setIfInBounds_comm vM u (by decide)] at this
theorem gQ.ZA{P:Nat->Prop}{cl:(Nat->Bool)->List Nat}(h:gQ B bn M M M cs cq vM vF vS fv sv xs L w)(hM:0<M)(hr:∀i,i<M->uh w P cl (cn L i) (xs i))(jd:∀i,i<M->cq[i]?=some (mk i)):
  ∃gM cM gF cF gS cS,lx w w.heap.size bn gF M cF (fun i=>vA (fv i)) (fun i=>vC (fv i)) L/\oC w w.heap.size bn gS M cS (fun i=>vA (sv i)) (fun i=>vC (sv i)) cl L/\kE w w.heap.size bn gM M cM mk:=by
 obtain⟨aM,cM,rfl⟩:=bG h.om;obtain⟨aF,cF,rfl⟩:=bG h.fr.own;obtain⟨aS,cS,rfl⟩:=bG h.st.own;obtain⟨gM,rfl,_,se,hcM⟩:=fe h.om hM;obtain⟨gF,rfl,_,OD,Ro⟩:=fe h.fr.own hM;obtain⟨gS,rfl,_,vx,Ks⟩:=fe h.st.own hM;obtain⟨c0,c1,c2⟩:=h.cells;have aW:=h.sn.lt;refine⟨gM,cM,gF,cF,gS,cS,⟨⟨aW,OD⟩,c1,fun i hi=>?_,fun i hi h0=>?_⟩,⟨⟨aW,vx⟩,c2,fun i hi=>?_,fun i hi h0=>?_⟩,⟨⟨aW,se⟩,c0,fun i hi=>?_⟩⟩
 ·rw[(Ro i (by omega)).1];obtain⟨a,c,e⟩:=bG (h.fr.row i hi);simp[hi,e,vA,vC]
 ·have ho:=h.fr.row i hi;obtain⟨a,c,e⟩:=bG ho;rw[e] at ho;obtain⟨g,rfl,_,hg,hc⟩:=fe ho h0;refine⟨g,0,by simp[e,vA],hg,fun j hj=>?_⟩;rw[zero_add,(hc j (by omega)).1,Bb _ j hj]
 ·rw[(Ks i (by omega)).1];obtain⟨a,c,e⟩:=bG (h.st.row i hi);simp[hi,e,vA,vC]
 ·have ho:=h.st.row i hi;obtain⟨a,c,e⟩:=bG ho;rw[e] at ho;obtain⟨g,rfl,_,hg,hc⟩:=fe ho h0;refine⟨g,0,by simp[e,vA],hg,fun k hk=>?_⟩;obtain⟨a',c',h1,h2,h3⟩:=(hr i hi).2 k hk;refine⟨a',c',by rw[zero_add,(hc (k*2) (by omega)).1,h1],by rw[zero_add,(hc (k*2+1) (by omega)).1,h2],fun h4=>?_⟩;obtain⟨g',off,e1,e2,_,e3⟩:=h3 h4;exact⟨g',off,e1,e2,e3⟩
 rw[(hcM i (by omega)).1];simp only[ints,getElem?_map,jd i hi,map_some]
theorem IV(w:World)(p:Addr)(u:Value)(h:g≠p.block):(w.setCell p u).cell? ⟨g,i,none⟩=w.cell? ⟨g,i,none⟩:=by
 have e:=Below.heap_setCell w p u g h;simp only[World.cell?,e]
theorem MG(cs:Array Value)(i:Nat)(v:Value)(h:cs[i]?=some v):cs.setIfInBounds i v=cs:=by
 apply Array.ext_getElem?;intro j;by_cases e:i=j
 ·subst e;rw[Array.getElem?_setIfInBounds_self_of_lt (Array.getElem?_eq_some_iff.1 h).1,h]
 rw[getElem?_setIfInBounds_ne e]
theorem uP.base{B' b7 b8 bL:Nat}{lr:List Nat}{aR:Option Addr}{cR:Nat}{P:Nat->Prop}{DL:List ((Nat->Bool) × Option Addr × Nat)}(h:uP B' b7 b8 bL n lr aR cR P DL w)(hb:B<=B'):uP B b7 b8 bL n lr aR cR P DL w:=
 ⟨h.s7,h.s8,jR h.row hb,h.map,h.at_,⟨le_trans hb h.lo.1,le_trans hb h.lo.2⟩,h.lr⟩
theorem sW.first{V:World}{b3 b5 b6:Nat}{fn:Value}(h:sW V B bn b3 b5 b6 bM fn mf nm cs vM vF vS fv sv xs L w)(u:Value):
  sW V B bn b3 b5 b6 bM fn mf nm (cs.setIfInBounds 256 u) vM vF vS fv sv xs L (w.setCell ⟨bn,256,none⟩ u):=by
 obtain⟨h1,h2⟩:=h.n.first u
 exact⟨h1,h.sM.fL h.n.sn (by decide) _ _,h.sT.fL h.n.sn (by decide) _ _,h.sF.fL h.n.sn (by decide) _ _,h.map.set h.n.sn,h.nd,h.le,h.bM,h.aJ.trans h2.below⟩
theorem sW.start(V w3:World)(B b3:Nat)(fn:Value)(mf:Nat->Int)(cN:Array Value)(hb:Below B V w3)(hB:B<=w3.heap.size)(h3:St w3 137 b3 #[fn])(hs:cN.size=260)(h7:cN[257]?=some (.slice none 0 0))(h8:cN[258]?=some (.slice none 0 0))(h9:cN[259]?=some (.slice none 0 0)):
  sW V B w3.heap.size b3 (w3.heap.size+1) (w3.heap.size+1+1+1) (w3.heap.size+1+1) fn mf [] cN (.slice none 0 0) (.slice none 0 0) (.slice none 0 0) (fun _=>.slice none 0 0) (fun _=>.slice none 0 0) (fun _=>[]) []
   ((((w3.alloc (.cells cN 165)).alloc (.cells #[.pointer (some ⟨w3.heap.size,0,none⟩)] 160)).alloc (.map #[] 0)).alloc (.cells #[.map (some (w3.heap.size+1+1))] 191)):=by
 have k1:=al w3 (.cells cN 165);have k2:=al (w3.alloc (.cells cN 165)) (.cells #[.pointer (some ⟨w3.heap.size,0,none⟩)] 160);have k3:=al ((w3.alloc (.cells cN 165)).alloc (.cells #[.pointer (some ⟨w3.heap.size,0,none⟩)] 160)) (.map #[] 0);have k4:=al (((w3.alloc (.cells cN 165)).alloc (.cells #[.pointer (some ⟨w3.heap.size,0,none⟩)] 160)).alloc (.map #[] 0)) (.cells #[.map (some (w3.heap.size+1+1))] 191);have e0:((cN.setIfInBounds 257 (.slice none 0 0)).setIfInBounds 258 (.slice none 0 0)).setIfInBounds 259 (.slice none 0 0)=cN:=by rw[MG cN 257 _ h7,MG cN 258 _ h8,MG cN 259 _ h9]
 refine⟨⟨?_,hs,ownsRow_nil _ _ _ _,⟨ownsRow_nil _ _ _ _,fun i hi=>by simp at hi,fun i j hi=>by simp at hi⟩,⟨ownsRow_nil _ _ _ _,fun i hi=>by simp at hi,fun i j hi=>by simp at hi⟩,fun i hi=>by simp at hi,⟨hB,by simp;omega⟩,fun e he=>by simp at he,fun i hi=>rfl⟩,?_,?_,?_,?_,List.nodup_nil,fun x hx=>by simp at hx,by omega,?_⟩
 ·rw[e0];exact (((St.new w3 165 cN).aa k2).aa k3).aa k4
 ·have:=St.new (((w3.alloc (.cells cN 165)).alloc (.cells #[.pointer (some ⟨w3.heap.size,0,none⟩)] 160)).alloc (.map #[] 0)) 191 #[.map (some (w3.heap.size+1+1))];simpa using this
 ·have:=((St.new (w3.alloc (.cells cN 165)) 160 #[.pointer (some ⟨w3.heap.size,0,none⟩)]).aa k3).aa k4;simpa using this
 ·exact (((h3.aa k1).aa k2).aa k3).aa k4
 ·have h1:aD (((w3.alloc (.cells cN 165)).alloc (.cells #[.pointer (some ⟨w3.heap.size,0,none⟩)] 160)).alloc (.map #[] 0)) 3 (w3.heap.size+1+1) 0 (zH []):=by
   have:=aD.made ((w3.alloc (.cells cN 165)).alloc (.cells #[.pointer (some ⟨w3.heap.size,0,none⟩)] 160)) 3 (zH []) (fun x y ⟨k,s,h,_⟩=>by simp at h);simpa using this
  exact h1.same (k4.block _ h1.lt)
 exact (((hb.trans (k1.mono hB)).trans (k2.mono (by simp;omega))).trans (k3.mono (by simp;omega))).trans (k4.mono (by simp;omega))
theorem gQ.cl(h:gQ B bn Mm Mf Ms cs cq vM vF vS fv sv xs L w)(hs:csA.size=256)(hv:∀j,j<256->csA[j]?=some (.int .u8 ((cls K j:Nat):Int)))(hc:∀j,j<256->cs[j]?=csA[j]?):F5 w w.heap.size bn K csA:=
 ⟨h.sn.lt,hs,hv,fun j v hj=>by
  have hj2:j<256:=by
   have:=(List.getElem?_eq_some_iff.1 hj).1
   simpa [hs] using this
  have e:(⟨bn,0,none⟩:Addr).add j=⟨bn,j,none⟩:=by unfold Addr.add;split <;> simp_all
  rw[e,h.sn.at_,getElem?_setIfInBounds_ne (by omega),getElem?_setIfInBounds_ne (by omega),getElem?_setIfInBounds_ne (by omega),hc j hj2,<-getElem?_toList,hj]⟩
theorem zdN{o:Oper}(hg:o.guard=none)(ty:TypeId)(x:Operand)(ho:o.op=.load ty x)(ad:Addr)(hx:ev x=.pointer (some ad))(cs:Array Value)(d:TypeDesc)(w:World)(hc:∀j v,cs.toList[j]?=some v->w.cell? (ad.add j)=some v)
  (hu:P.underlying ty=some d) (hd:(match d with|.struct _|.array _ _=>true|_=>false)=true) (hi:(P.info? ty).map (·.size)=some cs.size):(execOp ev o).run P w=.ok (.value (.agg cs)) w:=by
 unfold execOp;simp only[ho,hx,Instr.loadAt,sureAddr,run_bind,run_pure,andThen_ok,Jc w ad ty cs d hc hu hd hi]
theorem Qg{o:Oper}(hg:o.guard=none)(t:TypeId)(parts:Array (Nat × Operand))(ho:o.op=.build t parts)(ps:Array (Nat × Value))(hp:(parts.map fun (i,x)=>(i,ev x))=ps)(v:Value)(hb:(build t ps).run P w=.ok v w):(execOp ev o).run P w=.ok (.value v) w:=by
 unfold execOp;simp only[ho,hp,run_bind,hb,andThen_ok,run_pure]
theorem Zc(N:Nat)(hN:N<=2147483647)(W:World):(Instr.makeSlice 76 (.int .i64 (N:Int)) (.int .i64 (N:Int))).run prog W=.ok (.slice (some ⟨W.heap.size,0,none⟩) N N) (W.alloc (.cells (madeCells #[.int .u8 0] N) 5)):=by
 have:=run_make_row' (P:=prog) 76 5 (.int .u8 0) 1 underlying76 jD rfl .i64 .i64 N (by omega) (by omega) W;simpa using this
theorem Xk{cK:Array Value}(hw:Below B w w')(hB:B<=w'.heap.size)(hm:St w' 168 bm cK)(hi:w'.ownsRow B 5 1 (.slice (some ⟨gI,0,none⟩) m m) m (replicate m (.int .u8 0)))(hM:aD w' 9 bM 0 (MQ M []))
  (fk:∀j,j<256->csA[j]?=some (.int .u8 ((cls K j:Nat):Int)))
  (hc:cK.size=263/\cK[0]?=some (.pointer (some ⟨bn,0,none⟩))/\(∀j,j<256->cK[1+j]?=csA[j]?)/\cK[257]?=some (.slice none 0 0)/\cK[258]?=some (.slice none 0 0)/\cK[259]?=some (.slice none 0 0)/\cK[260]?=some (.map (some bM))/\cK[261]?=some (.slice (some ⟨gI,0,none⟩) m m)/\cK[262]?=some (.slice none 0 0))
  (h1:B<=bm) (h2:B<=gI) (h3:B<=bM):lB B bm gI bM m M C bn K L mk [] [] [] [] 0 cK [] (.slice none 0 0) (.slice none 0 0) (.slice none 0 0) (.slice none 0 0) [] w':=by
 obtain⟨z,c0,cc,c7,c8,c9,c10,c11,c12⟩:=hc;refine⟨⟨⟨Kept.refl _ _ _,Below.refl _ _,by rw[MG cK 262 _ c12];exact hm,z,c11,?_,ownsRow_nil _ _ _ _,fun b e=>by simp[ownBlock] at e,⟨by simp[iz],by simp[iz]⟩,h1,h2,hB⟩,List.nodup_nil,fun x hx=>by simp at hx⟩,
  ⟨c8,c9,c10,ownsRow_nil _ _ _ _,ownsRow_nil _ _ _ _,hM,fun b e=>by simp[ownBlock] at e,fun b e=>by simp[ownBlock] at e,fun b e=>by simp[ownBlock] at e,by simp[iz],h3⟩,
  ⟨fun j hj=>by simp at hj,fun p hp=>by simp at hp,rfl,fun j hj=>by simp at hj⟩,⟨ownsRow_nil _ _ _ _,rfl,fun i hi=>by simp at hi⟩,c0,c7,fun j hj=>by rw[cc j hj];exact fk j hj,le_refl _⟩
 rw[show (fun x=>decide (x∈([]:List Nat)))=fun _=>false from by funext x;simp,Ry];exact hi
def By(B m M C bn:Nat)(K:Nat->Lit)(L:List En)(mk:Nat->Int)(w:World)(e:Ending)(w':World):Prop:=
 ∃(bm gI bM:Nat) (cK:Array Value),e=.returned (.pointer (some ⟨bm,0,none⟩))/\lB B bm gI bM m M C bn K L mk [] [] [] [] 0 cK [] (.slice none 0 0) (.slice none 0 0) (.slice none 0 0) (.slice none 0 0) [] w'/\Below B w w'
theorem zfZ(K:Nat->Lit)(L:List En)(mk:Nat->Int)(csA:Array Value)(bn gM M cM m C:Nat)(w:World)(h:F5 w w.heap.size bn K csA)(hM:w.cell? ⟨bn,257,none⟩=some (.slice (some ⟨gM,0,none⟩) M cM))(KQ:M<=12900)(hm:(M+7) / 8=m):
  Calls prog 117 #[.pointer (some ⟨bn,0,none⟩)] w (By w.heap.size m M C bn K L mk w):=by
 have eC:(prog.info? 98).map (·.size)=some csA.size:=by rw[h.sz];kernel_rfl
 obtain⟨cD,hDs,hD,xD⟩:=zmi csA h.sz;have yU:=Zc m (by omega);have iK:=@run_makeMap prog;have hq:Int.tdiv ((M:Int)+7) 8=(m:Int):=by rw[Int.tdiv_eq_ediv_of_nonneg (by omega),<-hm];omega
 have BW:IntKind.i64.wrap ((M:Int)+7)=(M:Int)+7:=IntWalk.i64_in _ (by omega);have bD:IntKind.i64.wrap (m:Int)=m:=IntWalk.i64_in _ (by omega);have H:=hid h;have aW:=h.fY;have dy:=hid (fun (W':World) (k:Below w.heap.size w W')=>(⟨fun j v hj=>(by
   have e:(⟨bn,0,none⟩:Addr).add j=⟨bn,j,none⟩:=by unfold Addr.add;split <;> simp_all
   have h2:=h.at_ j v hj
   rw[e] at h2⊢
   exact (k.cell (p:=⟨bn,j,none⟩) aW).trans h2),(k.cell (p:=⟨bn,257,none⟩) aW).trans hM⟩:
  (∀j v,csA.toList[j]?=some v->W'.cell? ((⟨bn,0,none⟩:Addr).add j)=some v)/\W'.cell? ⟨bn,257,none⟩=some (.slice (some ⟨gM,0,none⟩) M cM)))
 have mI:∀(W:World),w.heap.size<=W.heap.size->(W.alloc (.cells (madeCells #[.int .u8 0] m) 5)).ownsRow w.heap.size 5 1 (.slice (some ⟨W.heap.size,0,none⟩) m m) m (replicate m (.int .u8 0)):=fun W hW=>CF W w.heap.size m 5 (.int .u8 0) hW (by unfold maxLen;omega)
 have HBa:Below w.heap.size w ((w.alloc (.map #[] 0)).alloc (.cells (madeCells #[.int .u8 0] m) 5)).drew:=((al w _).trans ((al _ _).mono (by simp))).drew;have UH:Below w.heap.size w ((w.alloc (.cells (madeCells #[.int .u8 0] m) 5)).alloc (.map #[] 0)).drew:=((al w _).trans ((al _ _).mono (by simp))).drew;have Bp:∀cK:Array Value,Below w.heap.size w (((w.alloc (.map #[] 0)).alloc (.cells (madeCells #[.int .u8 0] m) 5)).alloc (.cells cK 168)).drew:=fun cK=>(((al w _).trans ((al _ _).mono (by simp))).trans ((al _ _).mono (by simp;omega))).drew
 have C9:∀cK:Array Value,Below w.heap.size w (((w.alloc (.cells (madeCells #[.int .u8 0] m) 5)).alloc (.map #[] 0)).alloc (.cells cK 168)).drew:=fun cK=>(((al w _).trans ((al _ _).mono (by simp))).trans ((al _ _).mono (by simp;omega))).drew
 have mM:∀(W:World),aD (W.alloc (.map #[] 0)) 9 W.heap.size 0 (MQ M []):=fun W=>aD.made W 9 (MQ M []) (fun x y ⟨p,hp,_⟩=>by simp at hp)
 have HFa:∀cK:Array Value,(cK.size=263/\cK[0]?=some (.pointer (some ⟨bn,0,none⟩))/\(∀j,j<256->cK[1+j]?=csA[j]?)/\cK[257]?=some (.slice none 0 0)/\cK[258]?=some (.slice none 0 0)/\cK[259]?=some (.slice none 0 0)/\cK[260]?=some (.map (some w.heap.size))/\cK[261]?=some (.slice (some ⟨w.heap.size+1,0,none⟩) m m)/\cK[262]?=some (.slice none 0 0))->
   Hid (By w.heap.size m M C bn K L mk w (.returned (.pointer (some ⟨w.heap.size+1+1,0,none⟩))) (((w.alloc (.map #[] 0)).alloc (.cells (madeCells #[.int .u8 0] m) 5)).alloc (.cells cK 168)).drew):=fun cK hc=>by
  have k3:=al ((w.alloc (.map #[] 0)).alloc (.cells (madeCells #[.int .u8 0] m) 5)) (.cells cK 168)
  refine⟨w.heap.size+1+1,w.heap.size+1,w.heap.size,cK,rfl,Xk (csA:=csA) (Bp cK) (by simp;omega) ?_ ?_ ?_ H.out.val hc (by omega) (by omega) (le_refl _),Bp cK⟩
  ·have:=(St.new ((w.alloc (.map #[] 0)).alloc (.cells (madeCells #[.int .u8 0] m) 5)) 168 cK).drew
   simpa using this
  ·have:=dr (mI (w.alloc (.map #[] 0)) (by simp)) (k3.drew)
   simpa using this
  ·exact (mM w).same (((al (w.alloc (.map #[] 0)) _).trans (k3.mono (by simp))).drew.block _ (by simp))
 have HFb:∀cK:Array Value,(cK.size=263/\cK[0]?=some (.pointer (some ⟨bn,0,none⟩))/\(∀j,j<256->cK[1+j]?=csA[j]?)/\cK[257]?=some (.slice none 0 0)/\cK[258]?=some (.slice none 0 0)/\cK[259]?=some (.slice none 0 0)/\cK[260]?=some (.map (some (w.heap.size+1)))/\cK[261]?=some (.slice (some ⟨w.heap.size,0,none⟩) m m)/\cK[262]?=some (.slice none 0 0))->
   Hid (By w.heap.size m M C bn K L mk w (.returned (.pointer (some ⟨w.heap.size+1+1,0,none⟩))) (((w.alloc (.cells (madeCells #[.int .u8 0] m) 5)).alloc (.map #[] 0)).alloc (.cells cK 168)).drew):=fun cK hc=>by
  have k3:=al ((w.alloc (.cells (madeCells #[.int .u8 0] m) 5)).alloc (.map #[] 0)) (.cells cK 168)
  refine⟨w.heap.size+1+1,w.heap.size,w.heap.size+1,cK,rfl,Xk (csA:=csA) (C9 cK) (by simp;omega) ?_ ?_ ?_ H.out.val hc (by omega) (le_refl _) (by omega),C9 cK⟩
  ·have:=(St.new ((w.alloc (.cells (madeCells #[.int .u8 0] m) 5)).alloc (.map #[] 0)) 168 cK).drew
   simpa using this
  ·exact dr (mI w (le_refl _)) ((al _ _).trans (k3.mono (by simp))).drew
  ·have:=(mM (w.alloc (.cells (madeCells #[.int .u8 0] m) 5))).same (k3.drew.block _ (by simp))
   simpa using this
 clear h hM;go_enter func117,ntmps117;go_upto_region 1 with fail;refine wp_region_held_drew (S:=fun W'=>(∀j v,csA.toList[j]?=some v->W'.cell? ((⟨bn,0,none⟩:Addr).add j)=some v)/\W'.cell? ⟨bn,257,none⟩=some (.slice (some ⟨gM,0,none⟩) M cM)) (by kernel_rfl) (dy.out _ (Below.refl _ _).drew) (fun hHeld=>?_)
 (refine ag 0 ?_;refine ag 1 ?_;refine ag 2 ?_;try simp only[put,sA,sB,sC];refine ag 3 ?_)
 (refine ag 4 (v:=(.agg csA)) ?_ (hy:=by intro wz hSw;exact zdN rfl 98 _ rfl ⟨bn,0,none⟩ (by rfl) csA (.array 256 5) wz hSw.1 underlying98 rfl eC);try simp only[put,sA,sB,sC])
 (refine wpAnyH_take (i:=5) (oi:=?_) (v:=(.agg cD)) ?_ (by kernel_rfl) (by kernel_rfl) (by kernel_rfl) ?_ (inl ⟨?_,?_⟩) (by assumption) ?_;rotate_left 1;(focus ((simp only[getElem?_toArray,List.getElem?_cons_succ,List.getElem?_cons_zero]);first|done|rfl));(focus (exact fun _ _ _ h=>h));(focus rfl);(focus (intro wz hSw;exact Qg rfl 101 _ rfl #[(0,.agg csA)] (by first|kernel_rfl|(go_simp;done)) (.agg cD) (hD wz)));try simp only[put,sA,sB,sC])
 (refine ag 7 ?_;refine ag 8 ?_;refine ag 9 ?_;try simp only[put,sA,sB,sC];refine ag 10 ?_;refine ag 11 ?_;refine ag 12 ?_;try simp only[put,sA,sB,sC];refine ag 13 ?_;try simp only[put,sA,sB,sC])
 refine wpAnyH_ready (rs:=[6,14]) (by kernel_rfl) (by simp) ?_;refine ir (fun K hK=>?_) ?_
 ·skip;go_simp;refine hK.out _ _ (dy.out _ (al w _).drew) (fun hHeld=>?_);clear hK K
  try simp only[put,sA,sB,sC]
  refine ba 14 (fun K hK=>?_);skip;go_simp;refine hK.out _ _ (dy.out _ HBa) (fun hHeld=>?_);clear hK K
  try simp only[put,sA,sB,sC]
  obtain⟨cK,nK⟩:=xD bn w.heap.size (w.heap.size+1) m;have py:=Bp cK;have HF:=HFa cK ⟨nK.1,nK.2.1,nK.2.2.1,nK.2.2.2.1,nK.2.2.2.2.1,nK.2.2.2.2.2.1,nK.2.2.2.2.2.2.1,nK.2.2.2.2.2.2.2.1,nK.2.2.2.2.2.2.2.2.1⟩
  (refine wpAnyH_take (i:=15) (oi:=?_) (v:=(.agg cK)) ?_ (by kernel_rfl) (by kernel_rfl) (by kernel_rfl) ?_ (inl ⟨?_,?_⟩) (by assumption) ?_;rotate_left 1;(focus ((simp only[getElem?_toArray,List.getElem?_cons_succ,List.getElem?_cons_zero]);first|done|rfl));(focus (exact fun _ _ _ h=>h));(focus rfl);(focus (intro wz hSw;exact Qg rfl 168 _ rfl #[(0,.pointer (some ⟨bn,0,none⟩)),(1,.agg cD),(3,.map (some (w.heap.size))),(4,.slice (some ⟨w.heap.size+1,0,none⟩) m m)] (by first|kernel_rfl|(go_simp;done)) (.agg cK) (nK.2.2.2.2.2.2.2.2.2 wz)));try simp only[put,sA,sB,sC])
  refine ba 16 (fun K hK=>?_);skip;go_simp;refine hK.out _ _ (dy.out _ py) (fun hHeld=>?_);clear hK K
  try simp only[put,sA,sB,sC]
  (refine ag 17 ?_;try simp only[put,sA,sB,sC])
  refine wpAnyH_done (by kernel_rfl) ?_ _;clear hHeld;go_wp2;go_ret;exact HF.out
 refine ir (fun K hK=>?_) ?_
 ·skip;go_simp;refine hK.out _ _ (dy.out _ (al w _).drew) (fun hHeld=>?_);clear hK K
  try simp only[put,sA,sB,sC]
  refine ba 6 (fun K hK=>?_);skip;go_simp;refine hK.out _ _ (dy.out _ UH) (fun hHeld=>?_);clear hK K
  try simp only[put,sA,sB,sC]
  obtain⟨cK,nK⟩:=xD bn (w.heap.size+1) w.heap.size m;have py:=C9 cK;have HF:=HFb cK ⟨nK.1,nK.2.1,nK.2.2.1,nK.2.2.2.1,nK.2.2.2.2.1,nK.2.2.2.2.2.1,nK.2.2.2.2.2.2.1,nK.2.2.2.2.2.2.2.1,nK.2.2.2.2.2.2.2.2.1⟩
  (refine wpAnyH_take (i:=15) (oi:=?_) (v:=(.agg cK)) ?_ (by kernel_rfl) (by kernel_rfl) (by kernel_rfl) ?_ (inl ⟨?_,?_⟩) (by assumption) ?_;rotate_left 1;(focus ((simp only[getElem?_toArray,List.getElem?_cons_succ,List.getElem?_cons_zero]);first|done|rfl));(focus (exact fun _ _ _ h=>h));(focus rfl);(focus (intro wz hSw;exact Qg rfl 168 _ rfl #[(0,.pointer (some ⟨bn,0,none⟩)),(1,.agg cD),(3,.map (some (w.heap.size+1))),(4,.slice (some ⟨w.heap.size,0,none⟩) m m)] (by first|kernel_rfl|(go_simp;done)) (.agg cK) (nK.2.2.2.2.2.2.2.2.2 wz)));try simp only[put,sA,sB,sC])
  refine ba 16 (fun K hK=>?_);skip;go_simp;refine hK.out _ _ (dy.out _ py) (fun hHeld=>?_);clear hK K
  try simp only[put,sA,sB,sC]
  (refine ag 17 ?_;try simp only[put,sA,sB,sC])
  refine wpAnyH_done (by kernel_rfl) ?_ _;clear hHeld;go_wp2;go_ret;exact HF.out
 exact AllReadyH.nil
theorem nE(w:World):(zeroValue 101).run prog w=.ok (.agg (zC 101)) w:=by kernel_rfl
theorem EO:∀v∈(zC 101).toList,v.oneCell'=true:=by
 have h:(zC 101).toList.all (fun v=>v.oneCell')=true:=by kernel_rfl
 exact fun v hv=>List.all_eq_true.1 h v hv
theorem gY:(prog.info? 101).map (·.size)=some 258:=by kernel_rfl
theorem Ny(w:World):(build 101 #[]).run prog w=.ok (.agg (zC 101)) w:=run_build w _ _ _ (by kernel_rfl)
theorem rF{rest:List Oper}{o:Oper}{a:Act}{Q:Exit->Act->World->Prop}(oZ:o.guard=none)(t:TypeId)(ho:o.op=.alloc t)(cs:Array Value)(hz:(zeroValue t).run P w=.ok (.agg cs) w)
  (h:wpList P ops Q rest (a.put o.dst (.pointer (some ⟨w.heap.size,0,none⟩))) (w.alloc (.cells cs t))):wpList P ops Q (o :: rest) a w:=
 wpList_plain oZ fun _ hK=>by
  unfold Oper.wp execOp
  simp only[ho,Instr.alloc,run_bind,hz,andThen_ok,newVar,newRow,newObj,Value.cells]
  exact hK _ _ h
theorem o8{rest:List Oper}{o:Oper}{a:Act}{Q:Exit->Act->World->Prop}(oZ:o.guard=none)(ty:TypeId)(x v:Operand)(ho:o.op=.store ty x v)(g t:Nat)(kL cs:Array Value)(hx:a.eval x=.pointer (some ⟨g,0,none⟩))(hv:a.eval v=.agg cs)
  (dC:w.heap[g]?=some (.cells kL t (0,0))) (da:kL.size=cs.size) (hi:(P.info? ty).map (·.size)=some cs.size) (h1:∀u∈cs.toList,u.oneCell'=true) (h:wpList P ops Q rest (a.put o.dst undef) (w.setRow g cs)):wpList P ops Q (o :: rest) a w:=by
 have bU:(storeVar ty ⟨g,0,none⟩ (.agg cs)).run P w=.ok () (w.setRow g cs):=by
  have hs:(sizeOf ty).run P w=.ok cs.size w:=by
   cases hq:P.info? ty with
   | none=>simp[hq] at hi
   | some inf=>
    have:inf.size=cs.size:=(by simpa [hq] using hi);simp[sizeOf,typeInfo,hq,this]
  have:=run_storeCells_at (P:=P) g 0 t cs.toList 0 kL w dC (by simp[da]) h1;unfold storeVar;simp only[run_bind,hs,andThen_ok];rw[if_neg (show ¬((Value.agg cs).cells.size≠cs.size) from fun h=>h rfl)];show (storeCells ⟨g,0,none⟩ cs.toList).run P w=_;rw[this];congr 2;have hd:List.drop cs.size kL.toList=[]:=List.drop_of_length_le (by simp[da]);simp[hd]
 exact wpList_plain oZ fun _ hK=>by
  unfold Oper.wp execOp;simp only[ho,hx,hv,Instr.storeAt,sureAddr,run_bind,run_pure,andThen_ok,bU];exact hK _ _ h
theorem St.setRow{kL:Array Value}(h:St w t g kL):St (w.setRow g cs) t g cs:=setRow_heap w g kL cs t (0,0) h
theorem mQ(h:Below B w w')(hg:B<=g)(cs:Array Value):Below B w (w'.setRow g cs):=
 ⟨h.os,h.tape,h.output,by rw[setRow_size];exact h.size,fun k hk=>by rw[setRow_other w' g k cs (by omega)];exact h.block k hk⟩
theorem Ds{fn:Func}{p u:Tmp}{ty:TypeId}(h:fn.results=#[.cell p ty,.tmp u])(tmps:Array Value)(w:World)(g:Nat)(cs:Array Value)(d:TypeDesc)(hp:tmps.getD p undef=.pointer (some ⟨g,0,none⟩))(hc:∀j v,cs.toList[j]?=some v->w.cell? ((⟨g,0,none⟩:Addr).add j)=some v)
  (hu:P.underlying ty=some d) (hd:(match d with|.struct _|.array _ _=>true|_=>false)=true) (hi:(P.info? ty).map (·.size)=some cs.size):
  (results fn tmps).run P w=.ok (.tuple #[.agg cs,tmps.getD u undef]) w:=by
 rw[results_cell_tmp h,hp];have h1:(asAddr (.pointer (some ⟨g,0,none⟩))).run P w=.ok ⟨g,0,none⟩ w:=by rfl
 rw[h1,andThen_ok,Jc w ⟨g,0,none⟩ ty cs d hc hu hd hi,andThen_ok]
theorem St.part(h:St w t g cs):∀j v,cs.toList[j]?=some v->w.cell? ((⟨g,0,none⟩:Addr).add j)=some v:=fun j v hj=>by
 have e:(⟨g,0,none⟩:Addr).add j=⟨g,j,none⟩:=by unfold Addr.add;split <;> simp_all
 rw[e,h.at_,<-getElem?_toList,hj]
theorem rJ:(prog.info? 197).map (fun i=>(i.zero,i.size,i.bytes))=some (some (.agg #[.slice none 0 0,.int .i64 0]),2,32):=by kernel_rfl
def F9(K:Nat->Lit)(mf:Nat->Int)(L:List En)(F:Nat)(w:World)(e:Ending)(w':World):Prop:=
 ∃(bn f0 gM cM gF cF gS cS:Nat) (nm:List Nat) (L':List En) (aF aS:Nat->Option Addr) (Bv DQ:Nat->Nat) (csA:Array Value),e=.returned (.pointer (some ⟨bn,0,none⟩))/\Below w.heap.size w w'/\lx w' w'.heap.size bn gF nm.length cF aF Bv L'/\
  oC w' w'.heap.size bn gS nm.length cS aS DQ (rf (rl K 256)) L'/\kE w' w'.heap.size bn gM nm.length cM (fun i=>mf (nm.getD i 0))/\F5 w' w'.heap.size bn K csA/\w'.cell? ⟨bn,256,none⟩=some (.int .i64 (f0:Int))/\
  L=L'.map (En.nQ nm)/\nm.Nodup/\(∀e∈L',e.f<nm.length/\e.t<nm.length)/\nm[f0]?=some F/\nm.length<=2*L.length+1/\∀x∈nm,Src L F F x
theorem ziT(kf bV:Nat)(mf:Nat->Int)(S0 T:Int)(F:Nat)(L:List En)(a:Option Addr)(n c:Nat)(w:World)(HC:∀(args:Array Value) (W:World),(callFunc kf args).run prog W=.ok (.enter kf args) W)
  (HM:∀W,Below w.heap.size w W->∀x,x<=9223372036854775807->Calls prog kf #[.int .i64 ((x:Nat):Int),.pointer (some ⟨bV,0,none⟩)] W fun e w'=>e=.returned (.int .i64 (mf x))/\w'=W)
  (hL:kD w a (L.map En.z)) (hn:L.length=n) (ku:n<=6400) (qf:(bJ (L.map En.z)).length<=1000) (hF:F<=9223372036854775807) (hE:∀e∈L,e.f<=9223372036854775807/\e.t<=9223372036854775807):
  Calls prog 118 #[.agg #[.int .i64 S0,.slice a n c,.int .i64 (F:Int),.int .i64 T],.func (.func kf) #[] #[.pointer (some ⟨bV,0,none⟩)]] w (F9 (dp L) mf L F w):=by
 have iK:=@run_makeMap prog;have xQ:∀(fn:Fn) (first cap:Array Value) (w:World),(makeFunc fn first cap).run prog w=.ok (.func fn first cap) w:=fun _ _ _ _=>rfl
 have Hsb:=hid qf;have HH:=hid (Zz HC (Zz HM (Zz hL (Zz hn hE))));clear HC HM hL hn hE qf;go_enter func118,ntmps118;go_upto_region 1 with fail;have HI:Hid (∃W0,(w.alloc (.cells #[.int .i64 S0,.slice a n c,.int .i64 (F:Int),.int .i64 T] 119)).alloc (.cells #[.func (.func kf) #[] #[.pointer (some ⟨bV,0,none⟩)]] 137)=W0):=⟨_,rfl⟩
 obtain⟨W0,rV⟩:=HI.out;have h2:St W0 119 w.heap.size #[.int .i64 S0,.slice a n c,.int .i64 (F:Int),.int .i64 T]:=by rw[<-rV];exact (St.new w _ _).alloc _
 have h3:St W0 137 (w.heap.size+1) #[.func (.func kf) #[] #[.pointer (some ⟨bV,0,none⟩)]]:=by
  rw[<-rV];have:=St.new (w.alloc (.cells #[.int .i64 S0,.slice a n c,.int .i64 (F:Int),.int .i64 T] 119)) 137 #[.func (.func kf) #[] #[.pointer (some ⟨bV,0,none⟩)]];simpa using this
 have l7:Below w.heap.size w W0:=by rw[<-rV];exact (al w _).trans ((al _ _).mono (by simp))
 rw[rV];clear rV HI;have H0:=hid (Zz h2 (Zz h3 l7));obtain⟨r0,r1,r2,r3⟩:=h2.dM;have x8:=hid (zml S0 (F:Int) T a n c (L.map En.z) W0 (HH.out.2.2.1.below l7) (by rw[length_map];exact HH.out.2.2.2.1) (by omega));clear h2 h3 l7;go_wp2_with fail;refine x8.out.mono ?_;rintro e w1 ⟨a1,n1,c1,rfl,pB,Sw,lF⟩;have fx:n1<=1000:=by rw[<-pB];exact Hsb.out
 subst pB;have sD:=hid (zgc a1 _ c1 (qQ (L.map En.z)) fx w1 (zms Sw rfl));have mZ:=hid lF;clear Sw lF r0 r1 r2 r3 x8 fx;go_wp2_with fail;refine sD.out.mono ?_;rintro e w3 ⟨csA,rfl,QH,YF,pK⟩;obtain⟨cN,fa,pD,ka,Gu,Ii,F7,wm⟩:=zkr csA QH;have py:=hid (show Below w.heap.size w w3/\St w3 119 w.heap.size #[.int .i64 S0,.slice a n c,.int .i64 (F:Int),.int .i64 T]/\St w3 137 (w.heap.size+1) #[.func (.func kf) #[] #[.pointer (some ⟨bV,0,none⟩)]] from by
  have hk:=mZ.out.trans (pK.mono mZ.out.size)
  exact⟨H0.out.2.2.trans (hk.mono H0.out.2.2.size),H0.out.1.aa hk,H0.out.2.1.aa hk⟩)
 have HN:=hid (Zz QH (Zz YF (Zz fa (Zz pD (Zz ka (Zz Gu (Zz Ii F7)))))));clear QH YF pK fa pD ka Gu Ii F7 sD;go_wp2_with (refine Dw rfl 165 _ rfl #[(0,.agg csA)] ?hp (.agg cN) ?hb ?_)
 case hb=>exact wm _
 go_upto_region 4 with fail;have HA:=hid (sW.start w w3 w.heap.size (w.heap.size+1) (.func (.func kf) #[] #[.pointer (some ⟨bV,0,none⟩)]) mf cN py.out.1 py.out.1.size py.out.2.2 HN.out.2.2.1 HN.out.2.2.2.2.2.1 HN.out.2.2.2.2.2.2.1 HN.out.2.2.2.2.2.2.2);have jJ:Hid (St ((((w3.alloc (.cells cN 165)).alloc (.cells #[.pointer (some ⟨w3.heap.size,0,none⟩)] 160)).alloc (.map #[] 0)).alloc (.cells #[.map (some (w3.heap.size+1+1))] 191)) 119 w.heap.size #[.int .i64 S0,.slice a n c,.int .i64 (F:Int),.int .i64 T]):=(((py.out.2.1.aa (al _ _)).aa (al _ _)).aa (al _ _)).aa (al _ _);obtain⟨bn,aW⟩:∃bn,w3.heap.size=bn:=⟨_,rfl⟩
 rw[aW] at HA jJ;rw[aW];generalize (((w3.alloc (.cells cN 165)).alloc (.cells #[.pointer (some ⟨bn,0,none⟩)] 160)).alloc (.map #[] 0)).alloc (.cells #[.map (some (bn+1+1))] 191)=W4 at HA jJ⊢;obtain⟨b5,vn⟩:∃b5,bn+1=b5:=⟨_,rfl⟩
 obtain⟨bM,qZ⟩:∃bM,bn+1+1=bM:=⟨_,rfl⟩
 obtain⟨b6,ey⟩:∃b6,bn+1+1+1=b6:=⟨_,rfl⟩
 obtain⟨b2,ct⟩:∃b2,w.heap.size=b2:=⟨_,rfl⟩
 obtain⟨b3,iW⟩:∃b3,w.heap.size+1=b3:=⟨_,rfl⟩
 rw[ey,qZ,vn] at HA;rw[ey,vn];rw[iW] at HA;rw[iW];have NM:=jJ.out;rw[ct] at NM jJ;have uO:Below W4.heap.size W4 W4.drew:=(Below.refl _ _).drew;have yi:=hid (HA.out.aa uO);have yX:=hid (Nw w w.heap.size bn b3 b5 b6 bM kf bV mf [] cN (.slice none 0 0) (.slice none 0 0) (.slice none 0 0) (fun _=>.slice none 0 0) (fun _=>.slice none 0 0) (fun _=>[]) [] W4.drew HH.out.1 HH.out.2.1 yi.out (by simp) F hF);have q2:W4.drew.cell? ⟨b2,2,none⟩=some (.int .i64 (F:Int)):=NM.at_ 2;have q5:W4.drew.cell? ⟨b5,0,none⟩=some (.pointer (some ⟨bn,0,none⟩)):=HA.out.sT.at_ 0;rw[ct];have UH:=hid (Zz ct (Zz vn (Zz qZ (Zz ey iW))));clear NM ct vn qZ ey iW aW uO wm;refine wp_region_held_drew (S:=fun W'=>W'.cell? ⟨b5,0,none⟩=some (.pointer (some ⟨bn,0,none⟩))/\W'.cell? ⟨b2,2,none⟩=some (.int .i64 (F:Int))) (by kernel_rfl) ⟨q5,q2⟩ (fun hHeld=>?_)
 (refine ag 0 ?_;refine ag 1 ?_;refine ag 2 ?_;try simp only[put,sA,sB,sC];refine ag 3 ?_;try simp only[put,sA,sB,sC])
 refine ba 4 (fun K hK=>?_);skip;go_simp;go_at_call 149;refine yX.out.mono ?_;rintro e w5 ⟨f0,Qw,Nr,Oq,I4,Pu,Pa,rfl,Vq,qb,Ix,NQ⟩;have HX:=hid (Zz Vq (Zz qb (Zz Ix NQ)));have C6:St w5 119 b2 #[.int .i64 S0,.slice a n c,.int .i64 (F:Int),.int .i64 T]:=NQ.st jJ.out.drew (fun e=>Or.elim e (fun e=>Ae yi.out.map jJ.out.drew e) (fun e=>yi.out.n.oP jJ.out.drew (by decide) (by decide) (by decide) (by decide) (by decide) e));have SQ:w5.cell? ⟨b5,0,none⟩=some (.pointer (some ⟨bn,0,none⟩)):=HX.out.1.sT.at_ 0;have q6:=HX.out.1.n.sn.aZ 256;have q7:w5.cell? ⟨bn,256,none⟩=some (.int .i64 0):=(by rw[HX.out.1.n.sn.at_,getElem?_setIfInBounds_ne (by decide),getElem?_setIfInBounds_ne (by decide),getElem?_setIfInBounds_ne (by decide)];exact HN.out.2.2.2.2.1)
 have xT:Hid (sW w w.heap.size bn b3 b5 b6 bM (.func (.func kf) #[] #[.pointer (some ⟨bV,0,none⟩)]) mf Qw (cN.setIfInBounds 256 (.int .i64 (f0:Int))) Nr Oq I4 Pu Pa (fun _=>[]) [] (w5.setCell ⟨bn,256,none⟩ (.int .i64 (f0:Int)))/\St (w5.setCell ⟨bn,256,none⟩ (.int .i64 (f0:Int))) 119 b2 #[.int .i64 S0,.slice a n c,.int .i64 (F:Int),.int .i64 T]):=⟨HX.out.1.first _,C6.fL HX.out.1.n.sn (by decide) _ _⟩
 have JI:=hid HX.out.2;have SK:w5.cell? ⟨b2,2,none⟩=some (.int .i64 (F:Int)):=C6.at_ 2;clear Vq qb Ix NQ
 try go_wp2_with fail
 refine hK.out _ _ ⟨SQ,SK⟩ (fun hHeld=>?_);clear hK K
 try simp only[put,sA,sB,sC]
 (refine ag 5 ?_;refine ag 6 ?_;try simp only[put,sA,sB,sC])
 refine ba 7 (fun K hK=>?_);skip;go_simp;refine hK.out _ _ ⟨xT.out.1.sT.at_ 0,xT.out.2.at_ 2⟩ (fun hHeld=>?_);clear hK K
 try simp only[put,sA,sB,sC]
 refine wpAnyH_done (by kernel_rfl) ?_ _;clear hHeld q2 q5 SQ q6 q7 SK C6 HX yX yi;generalize w5.setCell ⟨bn,256,none⟩ (.int .i64 (f0:Int))=W5 at xT⊢;have s0:W5.cell? ⟨b5,0,none⟩=some (.pointer (some ⟨bn,0,none⟩)):=xT.out.1.sT.at_ 0;have SO:=hid (zkK (dp L) bn csA W5 (xT.out.1.n.cl HN.out.1 HN.out.2.1 (fun j hj=>by rw[getElem?_setIfInBounds_ne (by omega)];exact HN.out.2.2.2.1 j hj)));go_wp2_with fail;refine SO.out.mono ?_;rintro e w6 ⟨b7,b8,bL,aR,cR,rfl,Gd,DT,hbL⟩;have kX:Hid (lU w w.heap.size b2 b3 b5 b6 b7 b8 bn bM bL (.func (.func kf) #[] #[.pointer (some ⟨bV,0,none⟩)]) mf #[.int .i64 S0,.slice a n c,.int .i64 (F:Int),.int .i64 T] (cN.setIfInBounds 256 (.int .i64 (f0:Int))) (rl (dp L) 256) aR cR L F f0 0 1 0 Qw Nr Oq I4 Pu Pa (fun _=>[]) [] [] w6):=by
  have h1:=xT.out.1.aa DT;refine⟨h1,(Gd _).base xT.out.1.aJ.size,xT.out.2.aa DT,fun i hi=>uh.nil _ _ _,rfl,fun e he=>by simp at he,JI.out.1,?_,?_,?_⟩
  ·rcases JI.out.2.1 with h|h <;> rw[h] <;> simp
  ·have:=xT.out.1.map.lt;omega
  exact VF JI.out.2.1 (inl rfl) (fun x hx=>by simp at hx)
 have s1:w6.cell? ⟨b2,1,none⟩=some (.slice a n c):=kX.out.s2.at_ 1;have Qh:St w6 119 b2 #[.int .i64 S0,.slice a n c,.int .i64 (F:Int),.int .i64 T]:=kX.out.s2;clear Gd DT hbL s0 SO xT JI Qh;go_wp2_with fail;clear s1;go_loopw [10,11,12,32] (fun _ _ _ v wq=>∃(k nn:Nat) (nm:List Nat) (vM vF vS:Value) (fv sv:Nat->Value) (xs:Nat->List Value) (L':List En) (DL:List ((Nat->Bool) × Option Addr × Nat)),v=.int .i64 k/\k<=n/\nn<=k/\
  Hid (lU w w.heap.size b2 b3 b5 b6 b7 b8 bn bM bL (.func (.func kf) #[] #[.pointer (some ⟨bV,0,none⟩)]) mf #[.int .i64 S0,.slice a n c,.int .i64 (F:Int),.int .i64 T] (cN.setIfInBounds 256 (.int .i64 (f0:Int))) (rl (dp L) 256) aR cR L F f0 k (2*k+1) nn nm vM vF vS fv sv xs L' DL wq)) (fun _ _ _ v _=>n-(intOf v).toNat)
 ·exact⟨0,0,Qw,Nr,Oq,I4,Pu,Pa,_,[],[],rfl,zero_le _,le_refl _,kX⟩
 clear kX;obtain⟨k,nn,nm,vM,vF,vS,fv,sv,xs,L1,DL,rfl,hk,Gp,HA⟩:=hrel;by_cases aw:k<n
 ·have hkl:k<L.length:=by rw[HH.out.2.2.2.1];exact aw
  obtain⟨ge,off,rfl,hg,c0,c1,c2,c3,c4,c5,c6⟩:=(HH.out.2.2.1.below HA.out.a.aJ).QV k hkl;have HS:Hid (L.take (k+1)=L.take k++[L[k]]):=List.take_succ_eq_append_getElem hkl;have hx:=HH.out.2.2.2.2 L[k] (getElem_mem _);have nt:Hid (L[k]∈L):=getElem_mem _;generalize L[k]=x at c0 c1 c2 c3 c4 c5 c6 HS hx nt;have uZ:Below wr.heap.size wr (wr.alloc (.cells #[.int .i64 (x.f:Int),.int .i64 (x.t:Int),.int .u64 ((wd x.p 0:Nat):Int),.int .u64 ((wd x.p 1:Nat):Int),.int .u64 ((wd x.p 2:Nat):Int),.int .u64 ((wd x.p 3:Nat):Int),.bool x.b] 186)):=al wr _;have yg:=hid (HA.out.aa uZ.drew);have lC:Hid (St (wr.alloc (.cells #[.int .i64 (x.f:Int),.int .i64 (x.t:Int),.int .u64 ((wd x.p 0:Nat):Int),.int .u64 ((wd x.p 1:Nat):Int),.int .u64 ((wd x.p 2:Nat):Int),.int .u64 ((wd x.p 3:Nat):Int),.bool x.b] 186)).drew 186 wr.heap.size #[.int .i64 (x.f:Int),.int .i64 (x.t:Int),.int .u64 ((wd x.p 0:Nat):Int),.int .u64 ((wd x.p 1:Nat):Int),.int .u64 ((wd x.p 2:Nat):Int),.int .u64 ((wd x.p 3:Nat):Int),.bool x.b]):=St.new wr _ _;have d0:(wr.alloc (.cells #[.int .i64 (x.f:Int),.int .i64 (x.t:Int),.int .u64 ((wd x.p 0:Nat):Int),.int .u64 ((wd x.p 1:Nat):Int),.int .u64 ((wd x.p 2:Nat):Int),.int .u64 ((wd x.p 3:Nat):Int),.bool x.b] 186)).drew.cell? ⟨wr.heap.size,0,none⟩=some (.int .i64 (x.f:Int)):=lC.out.at_ 0;have d1:(wr.alloc (.cells #[.int .i64 (x.f:Int),.int .i64 (x.t:Int),.int .u64 ((wd x.p 0:Nat):Int),.int .u64 ((wd x.p 1:Nat):Int),.int .u64 ((wd x.p 2:Nat):Int),.int .u64 ((wd x.p 3:Nat):Int),.bool x.b] 186)).drew.cell? ⟨wr.heap.size,1,none⟩=some (.int .i64 (x.t:Int)):=lC.out.at_ 1;have Lc:nm.length<=90000:=by have:=HA.out.len;omega
  clear uZ hkl;go_wp2_with fail;clear c0 c1 c2 c3 c4 c5 c6;refine wp_region_held_drew (S:=fun W'=>W'.cell? ⟨wr.heap.size,0,none⟩=some (.int .i64 (x.f:Int))/\W'.cell? ⟨wr.heap.size,1,none⟩=some (.int .i64 (x.t:Int))) (by kernel_rfl) ⟨d0,d1⟩ (fun hHeld=>?_)
  (refine ag 0 ?_;refine ag 1 ?_;refine ag 2 ?_;try simp only[put,sA,sB,sC];refine ag 4 ?_;refine ag 5 ?_;refine ag 6 ?_;try simp only[put,sA,sB,sC])
  refine ba 3 (fun K hK=>?_);skip;go_simp;go_at_call 149;refine (Nw w w.heap.size bn b3 b5 b6 bM kf bV mf nm _ vM vF vS fv sv xs L1 (wr.alloc (.cells #[.int .i64 (x.f:Int),.int .i64 (x.t:Int),.int .u64 ((wd x.p 0:Nat):Int),.int .u64 ((wd x.p 1:Nat):Int),.int .u64 ((wd x.p 2:Nat):Int),.int .u64 ((wd x.p 3:Nat):Int),.bool x.b] 186)).drew HH.out.1 HH.out.2.1 yg.out.a Lc x.f hx.1).mono ?_;rintro e w2 ⟨k1,nm2,vM2,vF2,DH,fv2,Z8,rfl,Jm,eD,Bu,vl⟩;have lN:=hid (Zz (yg.out.num Jm Bu vl (inr (inr ⟨x,nt.out,inl rfl⟩))) (Zz (vl.st lC.out (fun e=>yg.out.gh lC.out (by decide) (by decide) (by decide) (by decide) (by decide) (inr e))) (Zz eD Bu)));clear Jm eD Bu vl
  try go_wp2_with fail
  refine hK.out _ _ ⟨lN.out.2.1.at_ 0,lN.out.2.1.at_ 1⟩ (fun hHeld=>?_);clear hK K
  try simp only[put,sA,sB,sC]
  refine ba 7 (fun K hK=>?_);skip;go_simp;go_at_call 149;refine (Nw w w.heap.size bn b3 b5 b6 bM kf bV mf nm2 _ vM2 vF2 DH fv2 Z8 xs L1 w2 HH.out.1 HH.out.2.1 lN.out.1.a (by have:=lN.out.1.len;omega) x.t hx.2).mono ?_;rintro e w3 ⟨k2,kO,AT,Ec,rA,xd,uU,rfl,Jo,GY,BS,N9⟩;have im:=hid (Zz (lN.out.1.num Jo BS N9 (inr (inr ⟨x,nt.out,inr rfl⟩))) (Zz (N9.st lN.out.2.1 (fun e=>lN.out.1.gh lN.out.2.1 (by decide) (by decide) (by decide) (by decide) (by decide) (inr e))) (Zz (Ps BS lN.out.2.2.1) (Zz GY (show L1.length<=6400 from by have:=congrArg List.length HA.out.rel;rw[length_map] at this;have h2:=List.length_take_le k L;omega)))));clear Jo GY BS N9
  try go_wp2_with fail
  refine hK.out _ _ ⟨im.out.2.1.at_ 0,im.out.2.1.at_ 1⟩ (fun hHeld=>?_);clear hK K
  try simp only[put,sA,sB,sC]
  (refine ag 8 ?_;refine ag 9 ?_;try simp only[put,sA,sB,sC])
  refine wpAnyH_done (by kernel_rfl) ?_ _;clear hHeld;have HK:=hid (Zz im.out.2.2.1 im.out.2.2.2.1);have jm:k1<kO.length:=(List.getElem?_eq_some_iff.1 HK.out.1).1;have vH:k2<kO.length:=(List.getElem?_eq_some_iff.1 HK.out.2).1;have tq:0<kO.length:=by omega
  have hnm3:kO.length<=90000:=by have:=im.out.1.len;omega
  obtain⟨z0,z1,z2,z3,z4,z5,z6⟩:=T0 im.out.2.1;obtain⟨xf,xt,xp,xb⟩:=x;obtain⟨be,ru⟩:∃be,wr.heap.size=be:=⟨_,rfl⟩
  have HE:=hid im.out.2.1;rw[ru] at z0 z1 z2 z3 z4 z5 z6 HE;rw[ru];clear d0 d1 lN yg lC HA Lc ru;dsimp only at z0 z1 z2 z3 z4 z5 z6 HE HS HK;rcases xb with _|_
  ·skip;go_wp2_with fail;obtain⟨aS,cS,rfl⟩:=bG im.out.1.a.n.st.own;obtain⟨gS,rfl,-,-,-⟩:=fe im.out.1.a.n.st.own tq;obtain⟨Ag,A8,hv⟩:=bG (im.out.1.a.n.st.row k1 jm)
   try dsimp only at hv
   have uE:=hid (im.out.1.aa (show Below w3.heap.size w3 w3.drew from (Below.refl _ _).drew));obtain⟨p,hp⟩:∃p,(cn L1 k1).length=p:=(⟨_,rfl⟩);have uo:p<=6400:=(by rw[<-hp];exact le_trans (TW _ _) im.out.2.2.2.2);have PD:∀W:World,W.ownsRow w.heap.size 195 1 (.slice (some ⟨gS,0,none⟩) kO.length cS) kO.length ((range kO.length).map uU)->W.cell? ⟨gS,k1,none⟩=some (.slice Ag p A8)/\W.frozen? ⟨gS,k1,none⟩=false:=fun W hW=>by
    obtain⟨g,e,_,_,hc⟩:=fe hW tq;injection e with e;injection e with e;subst e;obtain⟨h1,h2⟩:=hc k1 (by omega);exact⟨by rw[h1];simp only[getElem?_map,getElem?_range jm,map_some,hv,hp],h2⟩
   have k0:=(PD _ im.out.1.a.n.st.own).1;have HV:=hid (Zz hv hp);have xZ:=hid PD;obtain⟨q,hq⟩:∃q,kO.length=q:=(⟨_,rfl⟩);have HQ:=hid hq;have j1:(k1:Int)<q:=(by omega);have j2:(0:Int)<=k1:=(by omega);obtain⟨pc,sK⟩:∃pc,(rf (rl (dp L) 256) xp).length=pc:=(⟨_,rfl⟩);have yq:=hid sK;have Kd:(rl (dp L) 256).length<=256:=(by rw[zA];exact JW _ _);have sD:=hid (zmf w.heap.size bn b7 b8 bL nn (rl (dp L) 256) aR cR _ DL w3.drew uE.out.l (fun x hx=>uE.out.lt x hx) (by omega) Kd xp);obtain⟨i0,xB,dD,cQ,cJ⟩:=info_parts rJ;have dy:=hid (fun (W:World) (h1:St W 160 b5 #[.pointer (some ⟨bn,0,none⟩)]) (h2:W.cell? ⟨bn,259,none⟩=some (.slice (some ⟨gS,0,none⟩) q cS)) (h3:St W 186 be #[.int .i64 (xf:Int),.int .i64 (xt:Int),.int .u64 ((wd xp 0:Nat):Int),.int .u64 ((wd xp 1:Nat):Int),.int .u64 ((wd xp 2:Nat):Int),.int .u64 ((wd xp 3:Nat):Int),.bool false])=>(⟨h1.at_ 0,h2,h3.at_ 2,h3.at_ 3,h3.at_ 4,h3.at_ 5⟩:W.cell? ⟨b5,0,none⟩=some (.pointer (some ⟨bn,0,none⟩))/\W.cell? ⟨bn,259,none⟩=some (.slice (some ⟨gS,0,none⟩) q cS)/\W.cell? ⟨be,2,none⟩=some (.int .u64 ((wd xp 0:Nat):Int))/\W.cell? ⟨be,3,none⟩=some (.int .u64 ((wd xp 1:Nat):Int))/\W.cell? ⟨be,4,none⟩=some (.int .u64 ((wd xp 2:Nat):Int))/\W.cell? ⟨be,5,none⟩=some (.int .u64 ((wd xp 3:Nat):Int))));have pH:=im.out.1.a.sT;have ta:w3.cell? ⟨bn,259,none⟩=some (.slice (some ⟨gS,0,none⟩) q cS):=(by rw[<-hq];exact im.out.1.a.n.cells.2.2);clear hv hp PD hq sK Kd;refine wp_region_held_drew (S:=fun W'=>W'.cell? ⟨b5,0,none⟩=some (.pointer (some ⟨bn,0,none⟩))/\W'.cell? ⟨bn,259,none⟩=some (.slice (some ⟨gS,0,none⟩) q cS)/\W'.cell? ⟨be,2,none⟩=some (.int .u64 ((wd xp 0:Nat):Int))/\W'.cell? ⟨be,3,none⟩=some (.int .u64 ((wd xp 1:Nat):Int))/\W'.cell? ⟨be,4,none⟩=some (.int .u64 ((wd xp 2:Nat):Int))/\W'.cell? ⟨be,5,none⟩=some (.int .u64 ((wd xp 3:Nat):Int))) (by kernel_rfl) (dy.out _ pH.drew ta HE.out.drew) (fun hHeld=>?_)
   (refine ag 0 ?_;refine ag 1 ?_;refine ag 2 ?_;try simp only[put,sA,sB,sC];refine ag 3 ?_;refine ag 4 ?_;refine ag 5 ?_;try simp only[put,sA,sB,sC];refine ag 6 ?_;refine ag 7 ?_;refine ag 8 ?_;try simp only[put,sA,sB,sC];refine ag 9 ?_;refine ag 10 ?_;refine ag 12 ?_;try simp only[put,sA,sB,sC];refine ag 13 ?_;refine ag 14 ?_;refine ag 16 ?_;try simp only[put,sA,sB,sC])
   refine wpAnyH_ready (rs:=[11,15]) (by kernel_rfl) (by simp) ?_;refine ir (fun K hK=>?_) ?_
   ·skip;go_simp;refine hK.out _ _ (dy.out _ pH.drew ta HE.out.drew) (fun hHeld=>?_);clear hK K
    try simp only[put,sA,sB,sC]
    refine ba 15 (fun K hK=>?_);skip;go_simp;go_at_call 170;refine sD.out.mono ?_;rintro e w4 ⟨ac,cc,BU,rfl,xW,Ff,xJ,iN⟩;have gZ:=hid (uE.out.cls xW xJ iN);have uM:Hid (St w4 186 be #[.int .i64 (xf:Int),.int .i64 (xt:Int),.int .u64 ((wd xp 0:Nat):Int),.int .u64 ((wd xp 1:Nat):Int),.int .u64 ((wd xp 2:Nat):Int),.int .u64 ((wd xp 3:Nat):Int),.bool false]):=YR HE.out.drew uE.out.l xJ;have JZ:=hid Ff;rw[yq.out];clear xW Ff xJ iN;have dY:=hid (gZ.out.aa (al w4 (.cells #[.slice ac pc cc,.int .i64 (k2:Int)] 197)));have Al:=hid (uM.out.aa (al w4 (.cells #[.slice ac pc cc,.int .i64 (k2:Int)] 197)));have mW:=gZ.out.a.sT;have lY:=dY.out.a.sT;have rI:w4.cell? ⟨bn,259,none⟩=some (.slice (some ⟨gS,0,none⟩) q cS):=(by rw[<-HQ.out];exact gZ.out.a.n.cells.2.2);have vQ:(w4.alloc (.cells #[.slice ac pc cc,.int .i64 (k2:Int)] 197)).cell? ⟨bn,259,none⟩=some (.slice (some ⟨gS,0,none⟩) q cS):=(by rw[<-HQ.out];exact dY.out.a.n.cells.2.2);have k4:=(xZ.out _ gZ.out.a.n.st.own).1;have k5:=(xZ.out _ dY.out.a.n.st.own).1;have cY:=dY.out.a.n.st.row k1 jm;rw[HV.out.1,HV.out.2] at cY;have xX:w.heap.size<=(w4.alloc (.cells #[.slice ac pc cc,.int .i64 (k2:Int)] 197)).heap.size:=dY.out.a.n.lo.2
    try go_wp2_with fail
    refine hK.out _ _ (dy.out _ mW rI uM.out) (fun hHeld=>?_);clear hK K
    try simp only[put,sA,sB,sC]
    (refine ag 17 ?_;try simp only[put,sA,sB,sC])
    refine ba 18 (fun K hK=>?_);skip;go_simp;refine hK.out _ _ (dy.out _ lY vQ Al.out) (fun hHeld=>?_);clear hK K
    try simp only[put,sA,sB,sC]
    refine ba 19 (fun K hK=>?_);skip;skip;refine step_append_lies _ (by rfl) _ _ _ (by rfl) w.heap.size 197 i0 (.agg #[.slice none 0 0,.int .i64 0]) 2 32 underlying195 xB dD cQ cJ (by rfl) (by decide) _ p (xs k1) (by rfl) cY ⟨w4.heap.size,0,none⟩ 1 1 (#[.slice ac pc cc,.int .i64 (k2:Int)]).toList (by rfl) (by rfl) (news_of_block (cs:=#[.slice ac pc cc,.int .i64 (k2:Int)]) (t:=197) (fr:=(0,0)) (heap_alloc_new w4 _)) (by simp[oneCell']) (by omega) (by unfold maxLen;omega) (by omega) xX (w4.heap.size+1) (by simp) ?_;intro gg eH w6 aq aj cj lk;have eJ:=dY.out.a.n.st.row k1 jm;have ga:=aj;rw[show (Value.slice Ag p A8)=uU k1 from by rw[HV.out.1,HV.out.2]] at ga;obtain⟨tj,sI⟩:=dY.out.a.n.BT (x:=⟨k1,k2,xp,false⟩) rfl jm vH (v':=(.slice (some ⟨gg,0,none⟩) (p+1) eH)) (p:=p) aq HV.out.2 ga (fun b e=>by rw[HV.out.1,HV.out.2];injection e with e;rw[<-e];rcases cj with h|h;exact inl h;exact inr (by rw[h];simp));have fK:=dY.out.a.sT.af eJ (by decide) ga;have fQ:=Al.out.af eJ (by decide) ga;have iF:=dY.out.a.n.sn.af eJ (by decide) ga;have o0:w6.cell? ⟨bn,259,none⟩=some (.slice (some ⟨gS,0,none⟩) q cS):=(by rw[iF.at_,<-dY.out.a.n.sn.at_];exact vQ);have jP:=uI dY.out.a.n.st.own eJ (by decide) ga;obtain⟨t2,t3⟩:=xZ.out _ jP;have gk:b5≠gS/\bn≠gS/\be≠gS:=(⟨fun e=>dH jP fK (by decide) gS rfl e.symm,fun e=>dH jP iF (by decide) gS rfl e.symm,fun e=>dH jP fQ (by decide) gS rfl e.symm⟩);have HF:Hid (lU w w.heap.size b2 b3 b5 b6 b7 b8 bn bM bL (.func (.func kf) #[] #[.pointer (some ⟨bV,0,none⟩)]) mf #[.int .i64 S0,.slice (some ⟨ge,off,none⟩) n c,.int .i64 (F:Int),.int .i64 T] (cN.setIfInBounds 256 (.int .i64 (f0:Int))) (rl (dp L) 256) aR cR L F f0 (k+1) (2*(k+1)+1) (nn+1) kO AT Ec (.slice (some ⟨gS,0,none⟩) q cS) xd (fun j=>if j=k1 then (.slice (some ⟨gg,0,none⟩) (p+1) eH) else uU j) (fun j=>if j=k1 then xs k1++(#[.slice ac pc cc,.int .i64 (k2:Int)]).toList else xs j) (L1++[⟨k1,k2,xp,false⟩]) BU (w6.setCell ⟨gS,k1,none⟩ (.slice (some ⟨gg,0,none⟩) (p+1) eH))):=by
     rw[<-HQ.out];refine dY.out.put (x:=⟨xf,xt,xp,false⟩) tj sI HS.out HK.out.1 HK.out.2 (fun i hi=>?_);rw[BM];by_cases e:i=k1
     ·subst e;rw[if_pos ⟨rfl,rfl⟩,if_pos rfl];have A7:=(iv.aa (B:=w.heap.size) (bn:=bn) (P:=rC bL bM bn kO.length AT Ec (.slice (some ⟨gS,0,none⟩) kO.length cS) xd uU) (al w4 (.cells #[.slice ac pc cc,.int .i64 (k2:Int)] 197)) gZ.out.a.n.lo.2).EC JZ.out;have:=(dY.out.rows i hi).snoc ⟨i,k2,xp,false⟩ ac cc A7;dsimp only at this;rw[yq.out] at this;exact this
     rw[if_neg (fun h=>e h.2.symm),if_neg e];exact dY.out.rows i hi
    refine hK.out _ _ (dy.out _ fK o0 fQ) (fun hHeld=>?_);clear hK K aq aj cj lk tj sI eJ ga jP iF
    try simp only[put,sA,sB,sC]
    (refine ag 20 ?_;try simp only[put,sA,sB,sC])
    refine ba 21 (fun K hK=>?_);skip;go_simp;refine hK.out _ _ (dy.out _ (fK.gh (p:=⟨gS,k1,none⟩) gk.1 _) ((IV _ _ _ gk.2.1).trans o0) (fQ.gh (p:=⟨gS,k1,none⟩) gk.2.2 _)) (fun hHeld=>?_);clear hK K
    try simp only[put,sA,sB,sC]
    refine wpAnyH_done (by kernel_rfl) ?_ _;clear fK gk o0 t2 t3 hHeld pH mW lY ta rI vQ k0 k4 k5 fQ;go_wp2;go_roundw
    ·exact⟨k+1,nn+1,kO,_,_,_,_,_,_,_,BU,by go_num,by omega,by omega,HF⟩
    simp[intOf];omega
   refine ir (fun K hK=>?_) ?_
   ·skip;go_simp;go_at_call 170;refine sD.out.mono ?_;rintro e w4 ⟨ac,cc,BU,rfl,xW,Ff,xJ,iN⟩;have gZ:=hid (uE.out.cls xW xJ iN);have uM:Hid (St w4 186 be #[.int .i64 (xf:Int),.int .i64 (xt:Int),.int .u64 ((wd xp 0:Nat):Int),.int .u64 ((wd xp 1:Nat):Int),.int .u64 ((wd xp 2:Nat):Int),.int .u64 ((wd xp 3:Nat):Int),.bool false]):=YR HE.out.drew uE.out.l xJ;have JZ:=hid Ff;rw[yq.out];clear xW Ff xJ iN;have dY:=hid (gZ.out.aa (al w4 (.cells #[.slice ac pc cc,.int .i64 (k2:Int)] 197)));have Al:=hid (uM.out.aa (al w4 (.cells #[.slice ac pc cc,.int .i64 (k2:Int)] 197)));have mW:=gZ.out.a.sT;have lY:=dY.out.a.sT;have rI:w4.cell? ⟨bn,259,none⟩=some (.slice (some ⟨gS,0,none⟩) q cS):=(by rw[<-HQ.out];exact gZ.out.a.n.cells.2.2);have vQ:(w4.alloc (.cells #[.slice ac pc cc,.int .i64 (k2:Int)] 197)).cell? ⟨bn,259,none⟩=some (.slice (some ⟨gS,0,none⟩) q cS):=(by rw[<-HQ.out];exact dY.out.a.n.cells.2.2);have k4:=(xZ.out _ gZ.out.a.n.st.own).1;have k5:=(xZ.out _ dY.out.a.n.st.own).1;have cY:=dY.out.a.n.st.row k1 jm;rw[HV.out.1,HV.out.2] at cY;have xX:w.heap.size<=(w4.alloc (.cells #[.slice ac pc cc,.int .i64 (k2:Int)] 197)).heap.size:=dY.out.a.n.lo.2
    try go_wp2_with fail
    refine hK.out _ _ (dy.out _ mW rI uM.out) (fun hHeld=>?_);clear hK K
    try simp only[put,sA,sB,sC]
    (refine ag 17 ?_;try simp only[put,sA,sB,sC])
    refine wpAnyH_ready (rs:=[11,18]) (by kernel_rfl) (by simp) ?_;refine ir (fun K hK=>?_) ?_
    ·skip;go_simp;refine hK.out _ _ (dy.out _ mW rI uM.out) (fun hHeld=>?_);clear hK K
     try simp only[put,sA,sB,sC]
     refine ba 18 (fun K hK=>?_);skip;go_simp;refine hK.out _ _ (dy.out _ lY vQ Al.out) (fun hHeld=>?_);clear hK K
     try simp only[put,sA,sB,sC]
     refine ba 19 (fun K hK=>?_);skip;skip;refine step_append_lies _ (by rfl) _ _ _ (by rfl) w.heap.size 197 i0 (.agg #[.slice none 0 0,.int .i64 0]) 2 32 underlying195 xB dD cQ cJ (by rfl) (by decide) _ p (xs k1) (by rfl) cY ⟨w4.heap.size,0,none⟩ 1 1 (#[.slice ac pc cc,.int .i64 (k2:Int)]).toList (by rfl) (by rfl) (news_of_block (cs:=#[.slice ac pc cc,.int .i64 (k2:Int)]) (t:=197) (fr:=(0,0)) (heap_alloc_new w4 _)) (by simp[oneCell']) (by omega) (by unfold maxLen;omega) (by omega) xX (w4.heap.size+1) (by simp) ?_;intro gg eH w6 aq aj cj lk;have eJ:=dY.out.a.n.st.row k1 jm;have ga:=aj;rw[show (Value.slice Ag p A8)=uU k1 from by rw[HV.out.1,HV.out.2]] at ga;obtain⟨tj,sI⟩:=dY.out.a.n.BT (x:=⟨k1,k2,xp,false⟩) rfl jm vH (v':=(.slice (some ⟨gg,0,none⟩) (p+1) eH)) (p:=p) aq HV.out.2 ga (fun b e=>by rw[HV.out.1,HV.out.2];injection e with e;rw[<-e];rcases cj with h|h;exact inl h;exact inr (by rw[h];simp));have fK:=dY.out.a.sT.af eJ (by decide) ga;have fQ:=Al.out.af eJ (by decide) ga;have iF:=dY.out.a.n.sn.af eJ (by decide) ga;have o0:w6.cell? ⟨bn,259,none⟩=some (.slice (some ⟨gS,0,none⟩) q cS):=(by rw[iF.at_,<-dY.out.a.n.sn.at_];exact vQ);have jP:=uI dY.out.a.n.st.own eJ (by decide) ga;obtain⟨t2,t3⟩:=xZ.out _ jP;have gk:b5≠gS/\bn≠gS/\be≠gS:=(⟨fun e=>dH jP fK (by decide) gS rfl e.symm,fun e=>dH jP iF (by decide) gS rfl e.symm,fun e=>dH jP fQ (by decide) gS rfl e.symm⟩);have HF:Hid (lU w w.heap.size b2 b3 b5 b6 b7 b8 bn bM bL (.func (.func kf) #[] #[.pointer (some ⟨bV,0,none⟩)]) mf #[.int .i64 S0,.slice (some ⟨ge,off,none⟩) n c,.int .i64 (F:Int),.int .i64 T] (cN.setIfInBounds 256 (.int .i64 (f0:Int))) (rl (dp L) 256) aR cR L F f0 (k+1) (2*(k+1)+1) (nn+1) kO AT Ec (.slice (some ⟨gS,0,none⟩) q cS) xd (fun j=>if j=k1 then (.slice (some ⟨gg,0,none⟩) (p+1) eH) else uU j) (fun j=>if j=k1 then xs k1++(#[.slice ac pc cc,.int .i64 (k2:Int)]).toList else xs j) (L1++[⟨k1,k2,xp,false⟩]) BU (w6.setCell ⟨gS,k1,none⟩ (.slice (some ⟨gg,0,none⟩) (p+1) eH))):=by
      rw[<-HQ.out];refine dY.out.put (x:=⟨xf,xt,xp,false⟩) tj sI HS.out HK.out.1 HK.out.2 (fun i hi=>?_);rw[BM];by_cases e:i=k1
      ·subst e;rw[if_pos ⟨rfl,rfl⟩,if_pos rfl];have A7:=(iv.aa (B:=w.heap.size) (bn:=bn) (P:=rC bL bM bn kO.length AT Ec (.slice (some ⟨gS,0,none⟩) kO.length cS) xd uU) (al w4 (.cells #[.slice ac pc cc,.int .i64 (k2:Int)] 197)) gZ.out.a.n.lo.2).EC JZ.out;have:=(dY.out.rows i hi).snoc ⟨i,k2,xp,false⟩ ac cc A7;dsimp only at this;rw[yq.out] at this;exact this
      rw[if_neg (fun h=>e h.2.symm),if_neg e];exact dY.out.rows i hi
     refine hK.out _ _ (dy.out _ fK o0 fQ) (fun hHeld=>?_);clear hK K aq aj cj lk tj sI eJ ga jP iF
     try simp only[put,sA,sB,sC]
     (refine ag 20 ?_;try simp only[put,sA,sB,sC])
     refine ba 21 (fun K hK=>?_);skip;go_simp;refine hK.out _ _ (dy.out _ (fK.gh (p:=⟨gS,k1,none⟩) gk.1 _) ((IV _ _ _ gk.2.1).trans o0) (fQ.gh (p:=⟨gS,k1,none⟩) gk.2.2 _)) (fun hHeld=>?_);clear hK K
     try simp only[put,sA,sB,sC]
     refine wpAnyH_done (by kernel_rfl) ?_ _;clear fK gk o0 t2 t3 hHeld pH mW lY ta rI vQ k0 k4 k5 fQ;go_wp2;go_roundw
     ·exact⟨k+1,nn+1,kO,_,_,_,_,_,_,_,BU,by go_num,by omega,by omega,HF⟩
     simp[intOf];omega
    refine ir (fun K hK=>?_) ?_
    ·skip;go_simp;refine hK.out _ _ (dy.out _ lY vQ Al.out) (fun hHeld=>?_);clear hK K
     try simp only[put,sA,sB,sC]
     refine ba 11 (fun K hK=>?_);skip;go_simp;refine hK.out _ _ (dy.out _ lY vQ Al.out) (fun hHeld=>?_);clear hK K
     try simp only[put,sA,sB,sC]
     refine ba 19 (fun K hK=>?_);skip;skip;refine step_append_lies _ (by rfl) _ _ _ (by rfl) w.heap.size 197 i0 (.agg #[.slice none 0 0,.int .i64 0]) 2 32 underlying195 xB dD cQ cJ (by rfl) (by decide) _ p (xs k1) (by rfl) cY ⟨w4.heap.size,0,none⟩ 1 1 (#[.slice ac pc cc,.int .i64 (k2:Int)]).toList (by rfl) (by rfl) (news_of_block (cs:=#[.slice ac pc cc,.int .i64 (k2:Int)]) (t:=197) (fr:=(0,0)) (heap_alloc_new w4 _)) (by simp[oneCell']) (by omega) (by unfold maxLen;omega) (by omega) xX (w4.heap.size+1) (by simp) ?_;intro gg eH w6 aq aj cj lk;have eJ:=dY.out.a.n.st.row k1 jm;have ga:=aj;rw[show (Value.slice Ag p A8)=uU k1 from by rw[HV.out.1,HV.out.2]] at ga;obtain⟨tj,sI⟩:=dY.out.a.n.BT (x:=⟨k1,k2,xp,false⟩) rfl jm vH (v':=(.slice (some ⟨gg,0,none⟩) (p+1) eH)) (p:=p) aq HV.out.2 ga (fun b e=>by rw[HV.out.1,HV.out.2];injection e with e;rw[<-e];rcases cj with h|h;exact inl h;exact inr (by rw[h];simp));have fK:=dY.out.a.sT.af eJ (by decide) ga;have fQ:=Al.out.af eJ (by decide) ga;have iF:=dY.out.a.n.sn.af eJ (by decide) ga;have o0:w6.cell? ⟨bn,259,none⟩=some (.slice (some ⟨gS,0,none⟩) q cS):=(by rw[iF.at_,<-dY.out.a.n.sn.at_];exact vQ);have jP:=uI dY.out.a.n.st.own eJ (by decide) ga;obtain⟨t2,t3⟩:=xZ.out _ jP;have gk:b5≠gS/\bn≠gS/\be≠gS:=(⟨fun e=>dH jP fK (by decide) gS rfl e.symm,fun e=>dH jP iF (by decide) gS rfl e.symm,fun e=>dH jP fQ (by decide) gS rfl e.symm⟩);have HF:Hid (lU w w.heap.size b2 b3 b5 b6 b7 b8 bn bM bL (.func (.func kf) #[] #[.pointer (some ⟨bV,0,none⟩)]) mf #[.int .i64 S0,.slice (some ⟨ge,off,none⟩) n c,.int .i64 (F:Int),.int .i64 T] (cN.setIfInBounds 256 (.int .i64 (f0:Int))) (rl (dp L) 256) aR cR L F f0 (k+1) (2*(k+1)+1) (nn+1) kO AT Ec (.slice (some ⟨gS,0,none⟩) q cS) xd (fun j=>if j=k1 then (.slice (some ⟨gg,0,none⟩) (p+1) eH) else uU j) (fun j=>if j=k1 then xs k1++(#[.slice ac pc cc,.int .i64 (k2:Int)]).toList else xs j) (L1++[⟨k1,k2,xp,false⟩]) BU (w6.setCell ⟨gS,k1,none⟩ (.slice (some ⟨gg,0,none⟩) (p+1) eH))):=by
      rw[<-HQ.out];refine dY.out.put (x:=⟨xf,xt,xp,false⟩) tj sI HS.out HK.out.1 HK.out.2 (fun i hi=>?_);rw[BM];by_cases e:i=k1
      ·subst e;rw[if_pos ⟨rfl,rfl⟩,if_pos rfl];have A7:=(iv.aa (B:=w.heap.size) (bn:=bn) (P:=rC bL bM bn kO.length AT Ec (.slice (some ⟨gS,0,none⟩) kO.length cS) xd uU) (al w4 (.cells #[.slice ac pc cc,.int .i64 (k2:Int)] 197)) gZ.out.a.n.lo.2).EC JZ.out;have:=(dY.out.rows i hi).snoc ⟨i,k2,xp,false⟩ ac cc A7;dsimp only at this;rw[yq.out] at this;exact this
      rw[if_neg (fun h=>e h.2.symm),if_neg e];exact dY.out.rows i hi
     refine hK.out _ _ (dy.out _ fK o0 fQ) (fun hHeld=>?_);clear hK K aq aj cj lk tj sI eJ ga jP iF
     try simp only[put,sA,sB,sC]
     (refine ag 20 ?_;try simp only[put,sA,sB,sC])
     refine ba 21 (fun K hK=>?_);skip;go_simp;refine hK.out _ _ (dy.out _ (fK.gh (p:=⟨gS,k1,none⟩) gk.1 _) ((IV _ _ _ gk.2.1).trans o0) (fQ.gh (p:=⟨gS,k1,none⟩) gk.2.2 _)) (fun hHeld=>?_);clear hK K
     try simp only[put,sA,sB,sC]
     refine wpAnyH_done (by kernel_rfl) ?_ _;clear fK gk o0 t2 t3 hHeld pH mW lY ta rI vQ k0 k4 k5 fQ;go_wp2;go_roundw
     ·exact⟨k+1,nn+1,kO,_,_,_,_,_,_,_,BU,by go_num,by omega,by omega,HF⟩
     simp[intOf];omega
    exact AllReadyH.nil
   exact AllReadyH.nil
  skip;go_wp2_with fail;obtain⟨aF,cF,rfl⟩:=bG im.out.1.a.n.fr.own;obtain⟨gF,rfl,-,-,-⟩:=fe im.out.1.a.n.fr.own tq;obtain⟨Ag,A8,hv⟩:=bG (im.out.1.a.n.fr.row k1 jm)
  try dsimp only at hv
  have gZ:=hid (im.out.1.aa (show Below w3.heap.size w3 (w3.alloc (.cells #[.int .i64 (k2:Int)] 3)).drew from (al w3 _).drew));have cY:=gZ.out.a.n.fr.row k1 jm;rw[hv] at cY
  try dsimp only at cY
  obtain⟨p,hp⟩:∃p,(dI L1 k1).length=p:=⟨_,rfl⟩
  have uo:p<=6400:=by rw[<-hp];exact le_trans (T5 _ _) im.out.2.2.2.2
  have tp:=im.out.1.a.n.fr.own;have LN:∀W:World,W.ownsRow w.heap.size 43 1 (.slice (some ⟨gF,0,none⟩) kO.length cF) kO.length ((range kO.length).map xd)->W.cell? ⟨gF,k1,none⟩=some (.slice Ag p A8)/\W.frozen? ⟨gF,k1,none⟩=false:=fun W hW=>by
   obtain⟨g,e,_,_,hc⟩:=fe hW tq;injection e with e;injection e with e;subst e;obtain⟨h1,h2⟩:=hc k1 (by omega);exact⟨by rw[h1];simp only[getElem?_map,getElem?_range jm,map_some,hv,hp],h2⟩
  have k0:=(LN _ im.out.1.a.n.fr.own).1;have m2:=(LN _ gZ.out.a.n.fr.own).1;have HV:=hid (Zz hv hp);have xZ:=hid LN;obtain⟨q,hq⟩:∃q,kO.length=q:=⟨_,rfl⟩
  have HQ:=hid hq;have j1:(k1:Int)<q:=by omega
  have j2:(0:Int)<=k1:=by omega
  have xX:w.heap.size<=((w3.alloc (.cells #[.int .i64 (k2:Int)] 3)).drew).heap.size:=gZ.out.a.n.lo.2;rw[hp] at cY;obtain⟨i0,xB,dD,cQ,cJ⟩:=info_parts az;have dy:=hid (fun (W:World) (h1:St W 160 b5 #[.pointer (some ⟨bn,0,none⟩)]) (h2:W.cell? ⟨bn,258,none⟩=some (.slice (some ⟨gF,0,none⟩) q cF))=>(⟨h1.at_ 0,h2⟩:W.cell? ⟨b5,0,none⟩=some (.pointer (some ⟨bn,0,none⟩))/\W.cell? ⟨bn,258,none⟩=some (.slice (some ⟨gF,0,none⟩) q cF)));have pH:=im.out.1.a.sT;have mW:=gZ.out.a.sT;have ta:w3.cell? ⟨bn,258,none⟩=some (.slice (some ⟨gF,0,none⟩) q cF):=by rw[<-hq];exact im.out.1.a.n.cells.2.1
  have rI:((w3.alloc (.cells #[.int .i64 (k2:Int)] 3)).drew).cell? ⟨bn,258,none⟩=some (.slice (some ⟨gF,0,none⟩) q cF):=by rw[<-hq];exact gZ.out.a.n.cells.2.1
  clear hv hp tp LN hq;refine wp_region_held_drew (S:=fun W'=>W'.cell? ⟨b5,0,none⟩=some (.pointer (some ⟨bn,0,none⟩))/\W'.cell? ⟨bn,258,none⟩=some (.slice (some ⟨gF,0,none⟩) q cF)) (by kernel_rfl) (dy.out _ pH.drew ta) (fun hHeld=>?_)
  (refine ag 0 ?_;refine ag 1 ?_;refine ag 2 ?_;try simp only[put,sA,sB,sC];refine ag 3 ?_;refine ag 4 ?_;refine ag 5 ?_;try simp only[put,sA,sB,sC];refine ag 6 ?_;refine ag 7 ?_;refine ag 8 ?_;try simp only[put,sA,sB,sC];refine ag 9 ?_;refine ag 10 ?_;refine ag 12 ?_;try simp only[put,sA,sB,sC])
  refine wpAnyH_ready (rs:=[11,13]) (by kernel_rfl) (by simp) ?_;refine ir (fun K hK=>?_) ?_
  ·skip;go_simp;refine hK.out _ _ (dy.out _ pH.drew ta) (fun hHeld=>?_);clear hK K
   try simp only[put,sA,sB,sC]
   refine ba 13 (fun K hK=>?_);skip;go_simp;refine hK.out _ _ (dy.out _ mW rI) (fun hHeld=>?_);clear hK K
   try simp only[put,sA,sB,sC]
   refine ba 14 (fun K hK=>?_);skip;skip;refine step_append_lies _ (by rfl) _ _ _ (by rfl) w.heap.size 3 i0 (.int .i64 0) 1 8 underlying43 xB dD cQ cJ (by rfl) (by decide) _ p (cG (dI L1 k1)) (by rfl) cY ⟨w3.heap.size,0,none⟩ 1 1 (#[.int .i64 (k2:Int)]).toList (by rfl) (by rfl) (news_of_block (cs:=#[.int .i64 (k2:Int)]) (t:=3) (fr:=(0,0)) (heap_alloc_new w3 _)) (by simp[oneCell']) (by omega) (by unfold maxLen;omega) (by omega) xX (w3.heap.size+1) (by simp) ?_;intro gg eH w6 aq aj cj lk;have eJ:=gZ.out.a.n.fr.row k1 jm;have ga:=aj;rw[show (Value.slice Ag p A8)=xd k1 from by rw[HV.out.1,HV.out.2]] at ga;obtain⟨tj,sI⟩:=gZ.out.a.n.G7 (x:=⟨k1,k2,xp,true⟩) rfl jm vH (v':=(.slice (some ⟨gg,0,none⟩) (p+1) eH)) (p:=p) aq HV.out.2 ga (fun b e=>by rw[HV.out.1,HV.out.2];injection e with e;rw[<-e];rcases cj with h|h;exact inl h;exact inr (by rw[h];simp));have fK:=gZ.out.a.sT.af eJ (by decide) ga;have iF:=gZ.out.a.n.sn.af eJ (by decide) ga;have o0:w6.cell? ⟨bn,258,none⟩=some (.slice (some ⟨gF,0,none⟩) q cF):=(by rw[iF.at_,<-gZ.out.a.n.sn.at_];exact rI);have jP:=uI gZ.out.a.n.fr.own eJ (by decide) ga;obtain⟨t2,t3⟩:=xZ.out _ jP;have gk:b5≠gF/\bn≠gF:=(⟨fun e=>dH jP fK (by decide) gF rfl e.symm,fun e=>dH jP iF (by decide) gF rfl e.symm⟩);have HF:Hid (lU w w.heap.size b2 b3 b5 b6 b7 b8 bn bM bL (.func (.func kf) #[] #[.pointer (some ⟨bV,0,none⟩)]) mf #[.int .i64 S0,.slice (some ⟨ge,off,none⟩) n c,.int .i64 (F:Int),.int .i64 T] (cN.setIfInBounds 256 (.int .i64 (f0:Int))) (rl (dp L) 256) aR cR L F f0 (k+1) (2*(k+1)+1) nn kO AT (.slice (some ⟨gF,0,none⟩) q cF) rA (fun j=>if j=k1 then (.slice (some ⟨gg,0,none⟩) (p+1) eH) else xd j) uU xs (L1++[⟨k1,k2,xp,true⟩]) DL (w6.setCell ⟨gF,k1,none⟩ (.slice (some ⟨gg,0,none⟩) (p+1) eH))):=by
    rw[<-HQ.out];exact gZ.out.put (x:=⟨xf,xt,xp,true⟩) tj sI HS.out HK.out.1 HK.out.2 (fun i hi=>by rw[BM,if_neg (by simp)];exact gZ.out.rows i hi)
   refine hK.out _ _ (dy.out _ fK o0) (fun hHeld=>?_);clear hK K aq aj cj lk tj sI eJ ga jP iF
   try simp only[put,sA,sB,sC]
   (refine ag 15 ?_;try simp only[put,sA,sB,sC])
   refine ba 16 (fun K hK=>?_);skip;go_simp;refine hK.out _ _ (dy.out _ (fK.gh (p:=⟨gF,k1,none⟩) gk.1 _) ((IV _ _ _ gk.2).trans o0)) (fun hHeld=>?_);clear hK K
   try simp only[put,sA,sB,sC]
   refine wpAnyH_done (by kernel_rfl) ?_ _;clear fK gk o0 t2 t3 hHeld pH mW ta rI;go_wp2;go_roundw
   ·exact⟨k+1,nn,kO,_,_,_,_,_,_,_,DL,by go_num,by omega,by omega,HF⟩
   simp[intOf];omega
  refine ir (fun K hK=>?_) ?_
  ·skip;go_simp;refine hK.out _ _ (dy.out _ mW rI) (fun hHeld=>?_);clear hK K
   try simp only[put,sA,sB,sC]
   refine ba 11 (fun K hK=>?_);skip;go_simp;refine hK.out _ _ (dy.out _ mW rI) (fun hHeld=>?_);clear hK K
   try simp only[put,sA,sB,sC]
   refine ba 14 (fun K hK=>?_);skip;skip;refine step_append_lies _ (by rfl) _ _ _ (by rfl) w.heap.size 3 i0 (.int .i64 0) 1 8 underlying43 xB dD cQ cJ (by rfl) (by decide) _ p (cG (dI L1 k1)) (by rfl) cY ⟨w3.heap.size,0,none⟩ 1 1 (#[.int .i64 (k2:Int)]).toList (by rfl) (by rfl) (news_of_block (cs:=#[.int .i64 (k2:Int)]) (t:=3) (fr:=(0,0)) (heap_alloc_new w3 _)) (by simp[oneCell']) (by omega) (by unfold maxLen;omega) (by omega) xX (w3.heap.size+1) (by simp) ?_;intro gg eH w6 aq aj cj lk;have eJ:=gZ.out.a.n.fr.row k1 jm;have ga:=aj;rw[show (Value.slice Ag p A8)=xd k1 from by rw[HV.out.1,HV.out.2]] at ga;obtain⟨tj,sI⟩:=gZ.out.a.n.G7 (x:=⟨k1,k2,xp,true⟩) rfl jm vH (v':=(.slice (some ⟨gg,0,none⟩) (p+1) eH)) (p:=p) aq HV.out.2 ga (fun b e=>by rw[HV.out.1,HV.out.2];injection e with e;rw[<-e];rcases cj with h|h;exact inl h;exact inr (by rw[h];simp));have fK:=gZ.out.a.sT.af eJ (by decide) ga;have iF:=gZ.out.a.n.sn.af eJ (by decide) ga;have o0:w6.cell? ⟨bn,258,none⟩=some (.slice (some ⟨gF,0,none⟩) q cF):=(by rw[iF.at_,<-gZ.out.a.n.sn.at_];exact rI);have jP:=uI gZ.out.a.n.fr.own eJ (by decide) ga;obtain⟨t2,t3⟩:=xZ.out _ jP;have gk:b5≠gF/\bn≠gF:=(⟨fun e=>dH jP fK (by decide) gF rfl e.symm,fun e=>dH jP iF (by decide) gF rfl e.symm⟩);have HF:Hid (lU w w.heap.size b2 b3 b5 b6 b7 b8 bn bM bL (.func (.func kf) #[] #[.pointer (some ⟨bV,0,none⟩)]) mf #[.int .i64 S0,.slice (some ⟨ge,off,none⟩) n c,.int .i64 (F:Int),.int .i64 T] (cN.setIfInBounds 256 (.int .i64 (f0:Int))) (rl (dp L) 256) aR cR L F f0 (k+1) (2*(k+1)+1) nn kO AT (.slice (some ⟨gF,0,none⟩) q cF) rA (fun j=>if j=k1 then (.slice (some ⟨gg,0,none⟩) (p+1) eH) else xd j) uU xs (L1++[⟨k1,k2,xp,true⟩]) DL (w6.setCell ⟨gF,k1,none⟩ (.slice (some ⟨gg,0,none⟩) (p+1) eH))):=by
    rw[<-HQ.out];exact gZ.out.put (x:=⟨xf,xt,xp,true⟩) tj sI HS.out HK.out.1 HK.out.2 (fun i hi=>by rw[BM,if_neg (by simp)];exact gZ.out.rows i hi)
   refine hK.out _ _ (dy.out _ fK o0) (fun hHeld=>?_);clear hK K aq aj cj lk tj sI eJ ga jP iF
   try simp only[put,sA,sB,sC]
   (refine ag 15 ?_;try simp only[put,sA,sB,sC])
   refine ba 16 (fun K hK=>?_);skip;go_simp;refine hK.out _ _ (dy.out _ (fK.gh (p:=⟨gF,k1,none⟩) gk.1 _) ((IV _ _ _ gk.2).trans o0)) (fun hHeld=>?_);clear hK K
   try simp only[put,sA,sB,sC]
   refine wpAnyH_done (by kernel_rfl) ?_ _;clear fK gk o0 t2 t3 hHeld pH mW ta rI;go_wp2;go_roundw
   ·exact⟨k+1,nn,kO,_,_,_,_,_,_,_,DL,by go_num,by omega,by omega,HF⟩
   simp[intOf];omega
  exact AllReadyH.nil
 obtain rfl:k=n:=by omega
 have s0:wr.cell? ⟨b5,0,none⟩=some (.pointer (some ⟨bn,0,none⟩)):=HA.out.a.sT.at_ 0;have HF:Hid (F9 (dp L) mf L F w (.returned (.pointer (some ⟨bn,0,none⟩))) wr):=by
  have Ad:=HA.out.rel;rw[show L.take k=L by rw[<-HH.out.2.2.2.1];exact take_length] at Ad;have hpos:0<nm.length:=by
   have:=(List.getElem?_eq_some_iff.1 HA.out.hf).1;omega
  have yT:∀i (h:i<nm.length),nm.getD i 0=nm[i]:=fun i h=>by simp[List.getD,h]
  obtain⟨gM,cM,gF,cF,gS,cS,h1,h2,h3⟩:=HA.out.a.n.ZA (mk:=fun i=>mf (nm.getD i 0)) hpos HA.out.rows (fun i hi=>by simp[hi]);refine⟨bn,f0,gM,cM,gF,cF,gS,cS,nm,L1,_,_,_,_,csA,rfl,HA.out.a.aJ,h1,h2,h3,HA.out.a.n.cl HN.out.1 HN.out.2.1 (fun j hj=>by rw[getElem?_setIfInBounds_ne (by omega)];exact HN.out.2.2.2.1 j hj),?_,Ad,HA.out.a.nd,HA.out.bd,HA.out.hf,by have:=HA.out.len;have:=HH.out.2.2.2.1;omega,HA.out.src⟩;rw[HA.out.a.n.sn.at_,getElem?_setIfInBounds_ne (by decide),getElem?_setIfInBounds_ne (by decide),getElem?_setIfInBounds_ne (by decide),Array.getElem?_setIfInBounds_self_of_lt (by rw[HN.out.2.2.1];decide)]
 go_wp2;go_ret;exact HF.out
theorem zkF(l:List Nat)(hl:∀x∈l,x<256)(i:Nat)(h:i<l.length):lW (strOf l) i=l[i]:=by
 have hs:i<(strOf l).size:=by rw[yC];exact h
 rw[<-Nl _ i hs];have h1:((strOf l).data.toList)[i]?=some ((strOf l)[i]'hs):=by
  rw[getElem?_toList];exact Array.getElem?_eq_getElem hs
 rw[Ao,getElem?_map,List.getElem?_eq_getElem h] at h1;simp only[map_some,Option.some.injEq] at h1;rw[<-h1];have:=hl l[i] (getElem_mem h);simp[UInt8.toNat_ofNat];omega
theorem zod(M:Nat)(f:Nat->Bool)(i:Nat)(h:i<(M+7) / 8):lW (jN M f) i=jV (eK f M) i:=by
 unfold jN;rw[zkF _ (Fq f M) i (by simp[fS];omega)];simp[fS]
theorem zmp(M:Nat)(f:Nat->Bool):(jN M f).size=(M+7) / 8:=by unfold jN;rw[yC];simp[fS]
def pw(L:List En)(rp:Nat->Nat)(es:List En)(c x:Nat):Prop:=∃e∈es,e.p (rp c)=true/\e.t=x
def mO(L:List En)(Ls:List Nat)(i:Nat):Nat:=((Ls.take i).flatMap (cn L)).length
def jM(lc:List Nat)(j c:Nat):Nat:=if c∈lc.take j then 1 else 0
theorem Tz(lc:List Nat)(j c:Nat):jM lc j c<=1:=by unfold jM;split <;> omega
theorem ziU(hn:lc.Nodup)(h:lc.take (j+1)=lc.take j++[x]):jM lc j x=0/\jM lc (j+1) x=1:=by
 have h1:(lc.take j++[x]).Nodup:=by rw[<-h];exact hn.sublist (List.take_sublist _ _)
 have h2:x∉lc.take j:=fun hx=>(List.nodup_append.1 h1).2.2 x hx x (by simp) rfl
 unfold jM;rw[h,if_neg h2,if_pos (by simp)];exact⟨rfl,rfl⟩
theorem zgT(h:lc.take (j+1)=lc.take j++[x])(hc:c≠x):jM lc (j+1) c=jM lc j c:=by
 unfold jM;rw[h];simp[hc]
theorem zkG(L:List En)(Ls:List Nat):mO L Ls 0=0:=rfl
theorem zkH{st:Nat}(h:Ls.take (i+1)=Ls.take i++[st]):mO L Ls (i+1)=mO L Ls i+(cn L st).length:=by
 unfold mO;rw[h,List.flatMap_append,List.length_append];simp
theorem zkI(Ls:List Nat)(hn:Ls.Nodup):∀L:List En,(Ls.flatMap (cn L)).length<=L.length:=by
 intro L
 induction L with
 | nil=>
  have:Ls.flatMap (cn [])=[]:=by simp[cn]
  rw[this];exact le_refl _
 | cons e L ih=>
  have key:∀l:List Nat,l.Nodup->(l.flatMap (cn (e :: L))).length<=(l.flatMap (cn L)).length+(if e.f∈l then 1 else 0):=by
   intro l hl
   induction l with
   | nil=>simp
   | cons a l ih2=>
    have h1:=ih2 (List.nodup_cons.1 hl).2;have h2:(cn (e :: L) a).length<=(cn L a).length+(if e.f=a then 1 else 0):=by
     unfold cn;rw[List.filter_cons];by_cases he:e.f=a
     ·rw[if_pos he];split <;> simp
     rw[if_neg he];have:(!e.b && e.f == a)=false:=(by simp[he]);rw[if_neg (by rw[this];decide)];exact le_refl _
    simp only[List.flatMap_cons,List.length_append];by_cases ha:e.f=a
    ·have h3:e.f∉l:=(by rw[ha];exact (List.nodup_cons.1 hl).1);rw[if_neg h3] at h1;rw[if_pos ha] at h2;rw[if_pos (by simp[ha])];omega
    rw[if_neg ha] at h2;by_cases hb:e.f∈l
    ·rw[if_pos hb] at h1;rw[if_pos (List.mem_cons_of_mem _ hb)];omega
    rw[if_neg hb] at h1;split <;> omega
  have h4:=key Ls hn;have h5:(if e.f∈Ls then 1 else 0)<=1:=by split <;> omega
  simp only[List.length_cons];omega
theorem Q9(L:List En)(hn:Ls.Nodup)(i:Nat):mO L Ls i<=L.length:=zkI (Ls.take i) (hn.sublist (List.take_sublist _ _)) L
def U6(B bm gI bM m M C bn:Nat)(K:Nat->Lit)(L:List En)(mk:Nat->Int)(SS:List (Nat->Bool))(R:List (List Int))(T:Nat->Nat->Prop)(w:World)(e:Ending)(w':World):Prop:=
 ∃(row:List Int) (jr:List (Nat->Bool)) (sG:List Int) (D':List ((Nat->Bool) × Nat)) (n':Nat) (gm:Array Value) (l':List Nat) (jf vS' vK' vN':Value) (gs':List Nat),e=.returned (.tuple #[])/\
  lB B bm gI bM m M C bn K L mk jr sG D' (R++[row]) n' gm l' jf vS' vK' vN' gs' w'/\gH M T SS C row jr/\Below B w w'
theorem zmq(B bm gI bM m M C bn gM cM gF cF gS cS n fr:Nat)(aF aS:Nat->Option Addr)(Bv DQ rp:Nat->Nat)(K:Nat->Lit)(L:List En)(mk:Nat->Int)(w:World)
  (HF:lx w B bn gF M cF aF Bv L) (HT:oC w B bn gS M cS aS DQ (fun p=>ca (fun c=>p (rp c)) C) L) (HV:kE w B bn gM M cM mk) (hE:∀e∈L,e.f<M/\e.t<M) (KD:L.length<=6400) (jd:∀i,i<M->-1<=mk i)
  (hC:cO K 256=C) (hC2:C<=256) (hM:M<=12900) (hm:(M+7) / 8=m) (SS:List (Nat->Bool)) (ms:List Int) (D:List ((Nat->Bool) × Nat)) (R:List (List Int)) (cs:Array Value) (l:List Nat) (vL vS vK vN:Value) (gs:List Nat)
  (h:lB B bm gI bM m M C bn K L mk SS ms D R n cs l vL vS vK vN gs w) (pR:fr<SS.length) (hS:SS.length<=3000) (hR:R.length<=3000):
  Calls prog 120 #[.pointer (some ⟨bm,0,none⟩),.int .i64 (fr:Int)] w (U6 B bm gI bM m M C bn K L mk SS R (fun c x=>FR L (Mv L (fun y=>y<M/\SS[fr] y=true) (rp c)) x) w):=by
 obtain⟨cA,CK,OY⟩:∃cA:Array Value,cA.size=256/\∀j,j<256->cA[j]?=some (.int .u8 ((cls K j:Nat):Int)):=⟨((range 256).map fun j=>.int .u8 ((cls K j:Nat):Int)).toArray,by simp,fun j hj=>by simp[hj]⟩
 have eC:(prog.info? 98).map (·.size)=some cA.size:=by rw[CK];kernel_rfl
 have dF:∀j v,cA.toList[j]?=some v->w.cell? ((⟨bm,1,none⟩:Addr).add j)=some v:=by
  intro j v hj;have hj2:j<256:=by
   have:=(List.getElem?_eq_some_iff.1 hj).1;simpa [CK] using this
  have e:(⟨bm,1,none⟩:Addr).add j=⟨bm,1+j,none⟩:=by unfold Addr.add;split <;> simp_all
  have h1:=OY j hj2;rw[<-getElem?_toList,hj] at h1;rw[e,h.a.r.other (1+j) (by omega),h.cl j hj2,h1]
 have Ev:=hid (ZF K cA CK OY w);have mj:=Ug C (by omega);have H:=hid h;have ND:=hid KD;have HN:=hid (Zz HF (Zz HT (Zz HV (Zz hE (Zz jd (Zz hm pR))))));rw[hC] at Ev;obtain⟨aS0,CA,rfl⟩:=bG h.t.os;obtain⟨xP,rfl,_,_,Ks⟩:=fe h.t.os (by omega);have d0:=(Ks fr (by omega)).1;have d1:w.cell? ⟨bm,259,none⟩=some (.slice (some ⟨xP,0,none⟩) SS.length CA):=by rw[h.a.r.other 259 (by decide),h.t.cS]
 have CI:bm<w.heap.size:=h.a.r.sm.lt;have ll:xP<w.heap.size:=by have:=h.wh xP ((yv ..).2 (by simp[ownBlock]));exact this
 have l7:B<=w.heap.size:=h.a.r.hB;rw[show (strs (SS.map (jN M)))[fr]?=some (.string (jN M SS[fr])) from by simp[strs,pR]] at d0;have CN:=hid (fun W:World=>zgS (jN M SS[fr]) m (by rw[zmp,hm]) (by omega) (eK SS[fr] M) (fun i hi=>zod M _ i (by omega)) W);obtain⟨fs,jX⟩:∃fs,SS[fr]=fs:=⟨_,rfl⟩
 rw[jX] at d0 CN;rw[show (fun c x=>FR L (Mv L (fun y=>y<M/\SS[fr] y=true) (rp c)) x)=(fun c x=>FR L (Mv L (fun y=>y<M/\fs y=true) (rp c)) x) from by rw[jX]];have ZW:fr<SS.length:=pR;obtain⟨kS,OV⟩:∃kS,SS.length=kS:=⟨_,rfl⟩
 have HKS:=hid OV;rw[OV] at d1 ZW hS;have i0:(fr:Int)<kS:=by omega
 clear h HF HT HV hE jd OY hm Ks pR jX OV;go_enter func120,ntmps120;go_wp2_with (refine r8 rfl 98 _ rfl ⟨bm,1,none⟩ rfl cA (.array 256 5) dF underlying98 rfl eC ?_);refine Ev.out.mono ?_;rintro e w1 ⟨rfl,lF⟩;have lZ:=lF.size;have d0':(w1.alloc (.cells (madeCells #[.slice none 0 0] C) 43)).cell? ⟨xP,fr,none⟩=some (.string (jN M fs)):=(((al w1 _).cell (p:=⟨xP,fr,none⟩) (by show xP<_;omega)).trans (lF.cell (p:=⟨xP,fr,none⟩) ll)).trans d0;have d1':(w1.alloc (.cells (madeCells #[.slice none 0 0] C) 43)).cell? ⟨bm,259,none⟩=some (.slice (some ⟨xP,0,none⟩) kS CA):=(((al w1 _).cell (p:=⟨bm,259,none⟩) (by show bm<_;omega)).trans (lF.cell (p:=⟨bm,259,none⟩) CI)).trans d1;clear d0 d1 dF Ev;go_wp2_with fail;refine (CN.out _).mono ?_;rintro e w3 ⟨Ls,aL,cL,rfl,hO,iR,gb,pK⟩;have JE:=hid (iq.made w1 w.heap.size C w3 lZ pK);have jq:Below w.heap.size w w3:=(lF.trans ((al w1 _).mono lZ)).trans (pK.mono (by simp;omega));obtain⟨gT,AM⟩:∃gT,w1.heap.size=gT:=⟨_,rfl⟩
 have hgT3:gT<w3.heap.size:=by have:=pK.size;simp at this;omega
 rw[AM] at JE;have rT:∀x∈Ls,x<M/\fs x=true:=fun x hx=>by have:=((gb x).1 hx).2;simpa [eK] using this
 have yu:=hid (Zz hO (Zz iR (Zz (fun x=>show x∈Ls↔x<M/\fs x=true from ⟨rT x,fun hx=>(gb x).2 ⟨by have:=HN.out.2.2.2.2.2.1;omega,by simp[eK,hx.1,hx.2]⟩⟩) jq)));have JB:∀g,(Value.slice aL Ls.length cL).ownBlock=some g->g≠gT:=fun g e h=>by
  have h1:=dH hO (JE.out.ig.1) (by decide) g e;exact h1 h
 have HGT:=hid JB;have Pp:Ls.length<=M:=p9 iR (fun x hx=>(rT x hx).1);obtain⟨q,hq⟩:∃q,Ls.length=q:=⟨_,rfl⟩
 have HQ:=hid hq;rw[hq] at Pp;rw[AM];rw[hq];clear hO iR gb pK rT JB jq lF d0' d1' CN mj hq AM;go_wp2;go_loopw [6,8,10,30] (fun _ _ _ v wq=>∃(i:Nat) (vs:Nat->Value) (tg:Nat->List Nat),v=.int .i64 i/\i<=q/\Hid (iq w3 w.heap.size gT C vs tg wq)/\Hid (∀c,c<C->(tg c).length<=mO L Ls i/\∀x,x∈tg c↔pw L rp ((Ls.take i).flatMap (cn L)) c x)) (fun _ _ _ v _=>q-(intOf v).toNat)
 ·exact⟨0,_,_,rfl,zero_le _,JE,fun c hc=>⟨by rw[zkG];simp,fun x=>by simp[pw]⟩⟩
 obtain⟨i,vs,tg,rfl,hi,HA,HC⟩:=hrel;clear JE;have hW:Below w.heap.size w wr:=yu.out.2.2.2.trans HA.out.below;have HW:=hid hW;by_cases aw:i<q
 ·have tx:i<Ls.length:=by rw[HQ.out];exact aw
  obtain⟨gl,rfl,_,Iw,fk⟩:=fe yu.out.1 (by omega);have d0:=(fk i (by omega)).1;rw[Bb Ls i tx] at d0;have Ij:gl≠gT:=HGT.out gl rfl;replace d0:wr.cell? ⟨gl,i,none⟩=some (.int .i64 ((Ls[i]:Nat):Int)):=(HA.out.kept.mG (by simpa using Ij) Iw).trans d0;have hs:=((yu.out.2.2.1 Ls[i]).1 (getElem_mem _)).1;have QX:Hid (Ls.take (i+1)=Ls.take i++[Ls[i]]):=List.take_succ_eq_append_getElem tx;generalize Ls[i]=st at d0 hs QX;have c0:wr.cell? ⟨bm,0,none⟩=some (.pointer (some ⟨bn,0,none⟩)):=(hW.cell (p:=⟨bm,0,none⟩) CI).trans ((H.out.a.r.other 0 (by decide)).trans H.out.c0);have dC:=HN.out.2.1.below (hW.mono l7);have f0:=dC.gf;have k0:=dC.row st hs;have wK:=hid (HN.out.2.1.at_ st hs);obtain⟨aR,Dg⟩:∃aR,aS st=aR:=⟨_,rfl⟩
  obtain⟨Jr,Aa⟩:∃Jr,DQ st=Jr:=⟨_,rfl⟩
  rw[Dg,Aa] at k0;rw[Dg] at wK;have HBE:Hid (∀e∈cn L st,e.t<M):=fun e he=>(HN.out.2.2.2.1 e ((Mj L st e).1 he).1).2
  obtain⟨p,hp⟩:∃p,(cn L st).length=p:=⟨_,rfl⟩
  have uo:p<=6400:=by rw[<-hp];exact le_trans (TW L st) KD
  have HP:=hid hp;rw[hp] at k0;have i1:(i:Int)<q:=by omega
  have i2:(st:Int)<M:=by omega
  clear dC Dg Aa hp fk tx aw hi hW Ij Iw;go_wp2_with fail;clear c0 f0 k0 d0;go_loopw [8,10,45] (fun _ _ v wq=>∃(k:Nat) (IL:Nat->Value) (Au:Nat->List Nat),v=.int .i64 k/\k<=p/\Hid (iq w3 w.heap.size gT C IL Au wq)/\Hid (∀c,c<C->(Au c).length<=mO L Ls i+k/\∀x,x∈Au c↔pw L rp ((Ls.take i).flatMap (cn L)++(cn L st).take k) c x)) (fun _ _ v _=>p-(intOf v).toNat)
  ·exact⟨0,vs,tg,rfl,zero_le _,HA,fun c hc=>⟨(HC.out c hc).1,fun x=>by rw[(HC.out c hc).2 x];simp⟩⟩
  clear HA HC HW;obtain⟨k,IL,Au,rfl,hk,HA,HC⟩:=hrel;have hW:Below w.heap.size w wr:=yu.out.2.2.2.trans HA.out.below;by_cases yM:k<p
  ·have hkl:k<(cn L st).length:=(by rw[HP.out];exact yM);obtain⟨gx,off,rfl,hgx,wU⟩:=wK.out (by omega);obtain⟨ac,cc,s0,s1,hI⟩:=wU k hkl;replace s0:=(hW.cell (p:=⟨gx,off+k*2,none⟩) (by show gx<_;omega)).trans s0;replace s1:=(hW.cell (p:=⟨gx,off+k*2+1,none⟩) (by show gx<_;omega)).trans s1;have uH:Hid ((cn L st).take (k+1)=(cn L st).take k++[(cn L st)[k]]):=List.take_succ_eq_append_getElem hkl;have D4:=HBE.out _ (getElem_mem hkl);generalize (cn L st)[k]=ed at s0 s1 hI uH D4;obtain⟨lc,ud⟩:∃lc,ca (fun c=>ed.p (rp c)) C=lc:=(⟨_,rfl⟩);have WI:Hid (∀x,x∈lc↔x<C/\ed.p (rp x)=true):=(fun x=>by rw[<-ud];exact J7 _ _ x);have HND:Hid (lc.Nodup):=(by rw[<-ud];exact (List.nodup_range).filter _);have OQ:lc.length<=C:=(by rw[<-ud];exact Va _ _);dsimp only at s0 hI;rw[ud] at s0 hI;have HI:=hid hI;obtain⟨pc,sK⟩:∃pc,lc.length=pc:=(⟨_,rfl⟩);have yq:=hid sK;rw[sK] at s0 OQ;obtain⟨t,ht⟩:∃t,ed.t=t:=(⟨_,rfl⟩);have HTD:=hid ht;rw[ht] at s1 D4;have i5:(k:Int)<p:=(by omega);have yg:=hid (HA.out.aa (al wr (.cells #[.slice ac pc cc,.int .i64 (t:Int)] 197)));have lC:=hid (St.new wr 197 #[.slice ac pc cc,.int .i64 (t:Int)]);clear hI ud sK ht wU hkl hW hk;go_wp2_with fail;obtain⟨g8,Qo⟩:∃g8,wr.heap.size=g8:=(⟨_,rfl⟩);rw[Qo] at lC;rw[Qo];generalize wr.alloc (.cells #[.slice ac pc cc,.int .i64 (t:Int)] 197)=W1 at yg lC⊢;clear Qo s0 s1 HA;go_loopw [10,52] (fun _ v wz=>∃(j:Nat) (FP:Nat->Value) (oa:Nat->List Nat),v=.int .i64 j/\j<=pc/\Hid (iq w3 w.heap.size gT C FP oa wz)/\Hid (St wz 197 g8 #[.slice ac pc cc,.int .i64 (t:Int)])/\Hid (∀c,c<C->(oa c).length<=mO L Ls i+k+jM lc j c/\∀x,x∈oa c↔pw L rp ((Ls.take i).flatMap (cn L)++(cn L st).take k) c x\/(c∈lc.take j/\x=t))) (fun _ v _=>pc-(intOf v).toNat)
   ·exact⟨0,IL,Au,rfl,zero_le _,yg,lC,fun c hc=>⟨by have:=(HC.out c hc).1;omega,fun x=>by rw[(HC.out c hc).2 x];simp⟩⟩
   clear yg lC;obtain⟨j,FP,oa,rfl,hj,im,Q4,A3⟩:=hrel;have hW:Below w.heap.size w wr:=yu.out.2.2.2.trans im.out.below;by_cases hjp:j<pc
   ·have hjl:j<lc.length:=(by rw[yq.out];exact hjp);obtain⟨gi,oi,rfl,Ub,R6⟩:=HI.out (by omega);have s2:=(hW.cell (p:=⟨gi,oi+j,none⟩) (by show gi<_;omega)).trans (R6 j hjl);have hx:=((WI.out lc[j]).1 (getElem_mem hjl)).1;have Kb:Hid (lc.take (j+1)=lc.take j++[lc[j]]):=List.take_succ_eq_append_getElem hjl;generalize lc[j]=x at s2 hx Kb;have i6:(j:Int)<pc:=(by omega);clear R6 hjl hW;have AY:Hid (∀c,c<C->((fun jj=>if jj=x then oa x++[t] else oa jj) c).length<=mO L Ls i+k+jM lc (j+1) c/\∀y,y∈(fun jj=>if jj=x then oa x++[t] else oa jj) c↔pw L rp ((Ls.take i).flatMap (cn L)++(cn L st).take k) c y\/(c∈lc.take (j+1)/\y=t)):=fun c hc=>by
     obtain⟨h1,h2⟩:=A3.out c hc;rw[Kb.out];by_cases e:c=x
     ·subst e;have hoi:=ziU HND.out Kb.out;refine⟨by simp;omega,fun y=>?_⟩;simp only[if_true,mem_append,mem_singleton,h2 y];constructor
      ·rintro ((h3|⟨h3,h4⟩)|h3)
       ·exact inl h3
       ·exact inr ⟨inl h3,h4⟩
       exact inr ⟨inr trivial,h3⟩
      rintro (h3|⟨h3,h4⟩)
      ·exact inl (inl h3)
      exact inr h4
     have hoi:=zgT Kb.out e;refine⟨by simp[e];omega,fun y=>?_⟩;show (y∈if c=x then oa x++[t] else oa c)↔_;rw[if_neg e,h2 y,mem_append,mem_singleton];simp[e]
    go_wp2_with fail;obtain⟨L5,Ko,hv⟩:=bG (im.out.ig.2.1 x hx);dsimp only at hv;have gZ:=hid (im.out.aa (al wr (.cells #[.int .i64 (t:Int)] 3)).drew);have uM:=hid (Q4.out.aa (al wr (.cells #[.int .i64 (t:Int)] 3)).drew);have cY:=gZ.out.ig.2.1 x hx;rw[hv] at cY;dsimp only at cY;have hlen:(oa x).length<=20000:=by
     have a1:=(A3.out x hx).1;have a2:=Q9 L yu.out.2.1 i;have a3:=Tz lc j x;have a4:=ND.out;omega
    obtain⟨p3,hY⟩:∃p3,(oa x).length=p3:=(⟨_,rfl⟩);have k0:wr.cell? ⟨gT,x,none⟩=some (.slice L5 p3 Ko):=(by rw[(im.out.ig.cell x hx).1,hv,hY]);have m2:(wr.alloc (.cells #[.int .i64 (t:Int)] 3)).drew.cell? ⟨gT,x,none⟩=some (.slice L5 p3 Ko):=(by rw[(gZ.out.ig.cell x hx).1,hv,hY]);have sE:=hid (Zz hv hY);have j1:(x:Int)<C:=(by omega);have j2:(0:Int)<=x:=(by omega);have xX:w3.heap.size<=((wr.alloc (.cells #[.int .i64 (t:Int)] 3)).drew).heap.size:=gZ.out.below.size;rw[hY] at cY hlen;obtain⟨i0,xB,dD,cQ,cJ⟩:=info_parts az;have dy:=hid (fun (W:World) (h1:St W 197 g8 #[.slice (some ⟨gi,oi,none⟩) pc cc,.int .i64 ((t:Nat):Int)])=>(h1.at_ 1:W.cell? ⟨g8,1,none⟩=some (.int .i64 ((t:Nat):Int))));clear hv hY;refine wp_region_held_drew (S:=fun W'=>W'.cell? ⟨g8,1,none⟩=some (.int .i64 (t:Int))) (by kernel_rfl) (dy.out _ Q4.out.drew) (fun hHeld=>?_)
    (refine ag 0 ?_;refine ag 1 ?_;refine ag 2 ?_;try simp only[put,sA,sB,sC];refine ag 3 ?_;refine ag 4 ?_;refine ag 6 ?_;try simp only[put,sA,sB,sC];refine ag 7 ?_;try simp only[put,sA,sB,sC])
    refine wpAnyH_ready (rs:=[5,8]) (by kernel_rfl) (by simp) ?_;refine ir (fun K hK=>?_) ?_
    ·skip;go_simp;refine hK.out _ _ (dy.out _ Q4.out.drew) (fun hHeld=>?_);clear hK K
     try simp only[put,sA,sB,sC]
     refine ba 8 (fun K hK=>?_);skip;go_simp;refine hK.out _ _ (dy.out _ uM.out) (fun hHeld=>?_);clear hK K
     try simp only[put,sA,sB,sC]
     refine ba 9 (fun K hK=>?_);skip;skip;refine step_append_lies _ (by rfl) _ _ _ (by rfl) w3.heap.size 3 i0 (.int .i64 0) 1 8 underlying43 xB dD cQ cJ (by rfl) (by decide) _ p3 (cG (oa x)) (by rfl) cY ⟨wr.heap.size,0,none⟩ 1 1 (#[.int .i64 (t:Int)]).toList (by rfl) (by rfl) (news_of_block (cs:=#[.int .i64 (t:Int)]) (t:=3) (fr:=(0,0)) (heap_alloc_new wr _)) (by simp[oneCell']) (by omega) (by unfold maxLen;omega) (by omega) xX (wr.heap.size+1) (by simp) ?_;intro gg eH w6 aq aj cj lk;have fQ:=uM.out.af cY (by decide) aj;have mh:=gZ.out.ig.1.af cY (by decide) aj;have t2:w6.cell? ⟨gT,x,none⟩=some (.slice L5 p3 Ko):=(by rw[mh.at_];simp only[getElem?_toArray,getElem?_map,getElem?_range hx,map_some,sE.out.1,sE.out.2]);have t3:=mh.aZ x;have HF:Hid (iq w3 w.heap.size gT C (fun j=>if j=x then (.slice (some ⟨gg,0,none⟩) (p3+1) eH) else FP j) (fun j=>if j=x then oa x++[t] else oa j) (w6.setCell ⟨gT,x,none⟩ (.slice (some ⟨gg,0,none⟩) (p3+1) eH))):=
      gZ.out.app hx sE.out.2 aq (by rw[sE.out.1,sE.out.2];exact aj) (fun b e=>by rw[sE.out.1,sE.out.2];injection e with e;rw[<-e];rcases cj with h|h;exact inl h;exact inr (by rw[h];simp))
     have BY:Hid (St (w6.setCell ⟨gT,x,none⟩ (.slice (some ⟨gg,0,none⟩) (p3+1) eH)) 197 g8 #[.slice (some ⟨gi,oi,none⟩) pc cc,.int .i64 (t:Int)]):=fQ.fL mh (by decide) x _;refine hK.out _ _ (dy.out _ fQ) (fun hHeld=>?_);clear hK K aq aj cj lk
     try simp only[put,sA,sB,sC]
     (refine ag 10 ?_;try simp only[put,sA,sB,sC])
     refine ba 11 (fun K hK=>?_);skip;go_simp;refine hK.out _ _ (dy.out _ (fQ.fL mh (by decide) x _)) (fun hHeld=>?_);clear hK K
     try simp only[put,sA,sB,sC]
     refine wpAnyH_done (by kernel_rfl) ?_ _;clear fQ mh t2 t3 hHeld;go_wp2;go_roundw
     ·exact⟨j+1,_,_,by go_num,by omega,HF,BY,AY⟩
     simp[intOf];omega
    refine ir (fun K hK=>?_) ?_
    ·skip;go_simp;refine hK.out _ _ (dy.out _ uM.out) (fun hHeld=>?_);clear hK K
     try simp only[put,sA,sB,sC]
     refine ba 5 (fun K hK=>?_);skip;go_simp;refine hK.out _ _ (dy.out _ uM.out) (fun hHeld=>?_);clear hK K
     try simp only[put,sA,sB,sC]
     refine ba 9 (fun K hK=>?_);skip;skip;refine step_append_lies _ (by rfl) _ _ _ (by rfl) w3.heap.size 3 i0 (.int .i64 0) 1 8 underlying43 xB dD cQ cJ (by rfl) (by decide) _ p3 (cG (oa x)) (by rfl) cY ⟨wr.heap.size,0,none⟩ 1 1 (#[.int .i64 (t:Int)]).toList (by rfl) (by rfl) (news_of_block (cs:=#[.int .i64 (t:Int)]) (t:=3) (fr:=(0,0)) (heap_alloc_new wr _)) (by simp[oneCell']) (by omega) (by unfold maxLen;omega) (by omega) xX (wr.heap.size+1) (by simp) ?_;intro gg eH w6 aq aj cj lk;have fQ:=uM.out.af cY (by decide) aj;have mh:=gZ.out.ig.1.af cY (by decide) aj;have t2:w6.cell? ⟨gT,x,none⟩=some (.slice L5 p3 Ko):=(by rw[mh.at_];simp only[getElem?_toArray,getElem?_map,getElem?_range hx,map_some,sE.out.1,sE.out.2]);have t3:=mh.aZ x;have HF:Hid (iq w3 w.heap.size gT C (fun j=>if j=x then (.slice (some ⟨gg,0,none⟩) (p3+1) eH) else FP j) (fun j=>if j=x then oa x++[t] else oa j) (w6.setCell ⟨gT,x,none⟩ (.slice (some ⟨gg,0,none⟩) (p3+1) eH))):=
      gZ.out.app hx sE.out.2 aq (by rw[sE.out.1,sE.out.2];exact aj) (fun b e=>by rw[sE.out.1,sE.out.2];injection e with e;rw[<-e];rcases cj with h|h;exact inl h;exact inr (by rw[h];simp))
     have BY:Hid (St (w6.setCell ⟨gT,x,none⟩ (.slice (some ⟨gg,0,none⟩) (p3+1) eH)) 197 g8 #[.slice (some ⟨gi,oi,none⟩) pc cc,.int .i64 (t:Int)]):=fQ.fL mh (by decide) x _;refine hK.out _ _ (dy.out _ fQ) (fun hHeld=>?_);clear hK K aq aj cj lk
     try simp only[put,sA,sB,sC]
     (refine ag 10 ?_;try simp only[put,sA,sB,sC])
     refine ba 11 (fun K hK=>?_);skip;go_simp;refine hK.out _ _ (dy.out _ (fQ.fL mh (by decide) x _)) (fun hHeld=>?_);clear hK K
     try simp only[put,sA,sB,sC]
     refine wpAnyH_done (by kernel_rfl) ?_ _;clear fQ mh t2 t3 hHeld;go_wp2;go_roundw
     ·exact⟨j+1,_,_,by go_num,by omega,HF,BY,AY⟩
     simp[intOf];omega
    exact AllReadyH.nil
   obtain rfl:j=pc:=(by omega);have HZ:Hid (∀c,c<C->(oa c).length<=mO L Ls i+(k+1)/\∀x,x∈oa c↔pw L rp ((Ls.take i).flatMap (cn L)++(cn L st).take (k+1)) c x):=fun c hc=>by
    obtain⟨h1,h2⟩:=A3.out c hc;refine⟨by have:=Tz lc j c;omega,fun x=>?_⟩;rw[h2 x,uH.out,<-yq.out,take_length,WI.out c,<-HTD.out];unfold pw;simp only[mem_append,mem_singleton];constructor
    ·rintro (⟨e,he,h3,h4⟩|⟨⟨_,h3⟩,h4⟩)
     ·exact⟨e,by rcases he with he|he;exact inl he;exact inr (inl he),h3,h4⟩
     exact⟨ed,inr (inr rfl),h3,h4.symm⟩
    rintro⟨e,he,h3,h4⟩;rcases he with he|he|rfl
    ·exact inl ⟨e,inl he,h3,h4⟩
    ·exact inl ⟨e,inr he,h3,h4⟩
    exact inr ⟨⟨hc,h3⟩,h4.symm⟩
   clear hW;go_wp2;go_roundw
   ·exact⟨k+1,FP,oa,by go_num,by omega,im,HZ⟩
   simp[intOf];omega
  obtain rfl:k=p:=by omega
  have HZ:Hid (∀c,c<C->(Au c).length<=mO L Ls (i+1)/\∀x,x∈Au c↔pw L rp ((Ls.take (i+1)).flatMap (cn L)) c x):=fun c hc=>by
   obtain⟨h1,h2⟩:=HC.out c hc;refine⟨by rw[zkH QX.out,HP.out];exact h1,fun x=>?_⟩;rw[h2 x,QX.out,<-HP.out,take_length,List.flatMap_append];simp
  clear hW;go_wp2;go_roundw
  ·exact⟨i+1,IL,Au,by go_num,by omega,HA,HZ⟩
  simp[intOf];omega
 obtain rfl:i=q:=by omega
 have HZ:Hid (∀c,c<C->(tg c).length<=6400/\∀x,x∈tg c↔pw L rp (Ls.flatMap (cn L)) c x):=fun c hc=>by
  obtain⟨h1,h2⟩:=HC.out c hc;refine⟨by have a2:=Q9 L yu.out.2.1 i;have a4:=ND.out;omega,fun x=>?_⟩;rw[h2 x,<-HQ.out,take_length]
 have OO:gT<wr.heap.size:=by have:=HA.out.below.size;omega
 have yU:=zkC C (by omega);have HVs:=hid (Kept.refl [] [] wr);have H1:=hid (H.out.aa hW);have Il:∀x∈iz bm gI bM vL (.slice (some ⟨xP,0,none⟩) SS.length CA) vK,x<w.heap.size:=H.out.wh;have xF:w.heap.size<=gT:=HA.out.lo.1;have rE:=hid (Zz Il xF);clear Il xF;go_wp2_with fail;obtain⟨gR,A0⟩:∃gR,wr.heap.size=gR:=⟨_,rfl⟩
 rw[A0];have HG:=hid (HA.out.ig);have NU:Hid (∀c,c<C->∀b,(vs c).ownBlock=some b->b<gR/\w3.heap.size<=b):=fun c hc b e=>by
  obtain⟨c1,fz,h1⟩:=qa (HG.out.2.1 c hc) b e;exact⟨by rw[<-A0];exact (Array.getElem?_eq_some_iff.1 h1).1,ko (HG.out.2.1 c hc) b e⟩
 have kq:Hid (St (wr.alloc (.cells (madeCells #[.int .i64 0] C) 3)) 3 gR (ints (replicate C 0)).toArray):=by
  show St _ _ _ _;rw[<-ziS,<-A0];exact St.new _ _ _
 have H2:=hid (H1.out.aa (al wr (.cells (madeCells #[.int .i64 0] C) 3)));have Rh:=hid (HG.out.aa (al wr (.cells (madeCells #[.int .i64 0] C) 3)));have hVs:(wr.alloc (.cells (madeCells #[.int .i64 0] C) 3)).heap.size=gR+1:=by simp[A0]
 have PQ:Below w.heap.size w (wr.alloc (.cells (madeCells #[.int .i64 0] C) 3)):=(hW.trans ((al wr _).mono hW.size))
 have OK:=hid PQ;generalize wr.alloc (.cells (madeCells #[.int .i64 0] C) 3)=V at kq H2 Rh hVs PQ OK⊢;obtain⟨tF,I5⟩:∃tF,iz bm gI bM vL (.slice (some ⟨xP,0,none⟩) SS.length CA) vK=tF:=⟨_,rfl⟩
 have WV:=hid I5;clear H1 HG HVs PQ yU hW I5;have hgTR:gT<gR:=by omega
 have HTC:Hid (∀c,c<C->(fun x=>FR L (fun y=>y∈tg c) x)=(fun x=>FR L (Mv L (fun y=>y<M/\fs y=true) (rp c)) x)):=fun c hc=>funext fun x=>propext (FR.congr (fun y=>by
  rw[(HC.out c hc).2 y]
  rw[<-HQ.out,take_length]
  constructor
  ·rintro⟨e,he,h1,h2⟩
   obtain⟨st,dC,he⟩:=List.mem_flatMap.1 he
   obtain⟨h3,h4,h5⟩:=(Mj L st e).1 he
   exact⟨e,h3,h4,h1,by rw[h5];exact (yu.out.2.2.1 st).1 dC,h2⟩
  ·rintro⟨e,h3,h4,h1,h5,h2⟩
   exact⟨e,List.mem_flatMap.2 ⟨e.f,(yu.out.2.2.1 e.f).2 h5,(Mj L e.f e).2 ⟨h3,h4,rfl⟩⟩,h1,h2⟩) x)
 have HTL:Hid (∀c,c<C->(tg c).length<=6400/\∀x∈tg c,x<M):=fun c hc=>⟨by have a1:=(HC.out c hc).1;have a2:=Q9 L yu.out.2.1 i;have a4:=ND.out;omega,fun x hx=>by
  obtain⟨e,he,h1,h2⟩:=((HC.out c hc).2 x).1 hx
  obtain⟨st,dC,he⟩:=List.mem_flatMap.1 he
  rw[<-h2]
  exact (HN.out.2.2.2.1 e ((Mj L st e).1 he).1).2⟩
 have Ct:Hid (∀x∈tF,x<w.heap.size):=by rw[<-WV.out];exact rE.out.1
 have xF:w.heap.size<=gT:=rE.out.2;clear HC HA hi aw HW rE OO;go_loopw [12,13,75] (fun _ _ v wq=>∃(c:Nat) (row:List Int) (jr:List (Nat->Bool)) (sG:List Int) (D':List ((Nat->Bool) × Nat)) (n':Nat) (gm:Array Value) (l':List Nat) (jf vS' vK':Value),v=.int .i64 c/\c<=C/\
  Hid (lB B bm gI bM m M C bn K L mk jr sG D' R n' gm l' jf vS' vK' vN gs wq)/\Hid (gH M (fun c x=>FR L (Mv L (fun y=>y<M/\fs y=true) (rp c)) x) SS c row jr)/\Hid (Kept [] (gR :: tF) V wq/\Below B V wq/\(∀x∈iz bm gI bM jf vS' vK',x∈tF\/V.heap.size<=x)/\St wq 3 gR (ints (row++replicate (C-c) 0)).toArray/\∀x∈gs,x≠gR)) (fun _ _ v _=>C-(intOf v).toNat)
 case atStart=>exact⟨0,[],SS,ms,D,n,cs,l,vL,_,vK,rfl,zero_le _,H2,gH.zero,Kept.refl _ _ _,Below.refl _ _,fun x hx=>inl (by rw[<-WV.out];exact hx),by simpa using kq.out,fun x hx e=>by
  obtain⟨i1,h1,h2⟩:=List.getElem_of_mem hx
  have h3:=(H.out.nx.row i1 h1 (by rw[<-H.out.nx.len];exact h1)).1.lt
  omega⟩
 case round=>
  clear H2 kq;obtain⟨c,row,jr,sG,D',n',gm,l',jf,vS',vK',rfl,hc,HM,wK,HK⟩:=hrel;have vg:=wK.out.len;have OW:gR∉tF:=fun h=>by have:=Ct.out _ h;omega
  have CL:gT∉gR :: tF:=fun h=>by
   rcases List.mem_cons.1 h with h|h
   ·omega
   have:=Ct.out _ h;omega
  have wN:gR∉iz bm gI bM jf vS' vK':=fun h=>by
   rcases HK.out.2.2.1 _ h with h|h
   ·exact OW h
   omega
  have jq:Below B w wr:=(OK.out.mono l7).trans HK.out.2.1;by_cases aw:c<C
  ·have hO:=Rh.out.2.1 c aw;obtain⟨aT,cT,hv⟩:=bG hO;dsimp only at hv hO;have t0:wr.cell? ⟨gT,c,none⟩=some (.slice aT (tg c).length cT):=(by rw[HK.out.1.mG CL (by omega),(Rh.out.cell c aw).1,hv]);have Co:=NU.out c aw;rw[hv] at hO Co;have Wv:Hid (∀W:World,(∀g,g∉gR :: tF->g<V.heap.size->W.heap[g]?=V.heap[g]?)->Bc W W.heap.size aT (tg c)):=fun W hW h0=>by
    obtain⟨gt,rfl,rH,KW,fa⟩:=fe hO h0;have h1:=(Co gt rfl).1;have h2:=hW gt (fun h=>by
     rcases List.mem_cons.1 h with h|h
     ·omega
     ·have:=Ct.out _ h;omega) KW
    refine⟨gt,0,rfl,?_,fun j hj=>?_⟩
    ·rw[Array.getElem?_eq_getElem KW] at h2;exact (Array.getElem?_eq_some_iff.1 h2).1
    rw[zero_add];have h3:W.cell? ⟨gt,j,none⟩=V.cell? ⟨gt,j,none⟩:=(by simp only[World.cell?,h2]);rw[h3,(fa j (by omega)).1,Bb (tg c) j hj]
   have xz:=HTL.out c aw;have D4:=hid xz.2;replace xz:=xz.1;have Pe:=hid (HTC.out c aw);obtain⟨tc,Gj⟩:∃tc,tg c=tc:=(⟨_,rfl⟩);rw[Gj] at t0 Wv xz D4 Pe;have cY:row.length=c:=vg.1;have dC:=HK.out.2.2.2.1;rw[zkD row C c aw] at dC;have e0:wr.cell? ⟨gR,c,none⟩=some (.int .i64 0):=(by rw[dC.at_,T2 row C c cY]);have e1:=dC.aZ c;have nO:Hid (St (wr.setCell ⟨gR,c,none⟩ (.int .i64 (-1))) 3 gR (ints ((row++[-1])++replicate (C-(c+1)) 0)).toArray):=by
    have:=dC.set c (.int .i64 (-1));rwa [U8 row C c cY aw] at this
   have qb:Kept [] [gR] wr (wr.setCell ⟨gR,c,none⟩ (.int .i64 (-1))):=(Kept.refl _ _ _).setCell _ _ (inl (by simp));have fG:Below B wr (wr.setCell ⟨gR,c,none⟩ (.int .i64 (-1))):=(Below.refl _ _).setCell (p:=⟨gR,c,none⟩) (by show B<=gR;omega) _;have yK:=hid (HM.out.gh qb fG (fun x hx h=>wN (by rw[<-List.mem_singleton.1 h];exact hx)) (fun b e h=>dH HM.out.nx.own dC (by decide) b e (List.mem_singleton.1 h)) (fun x hx h=>HK.out.2.2.2.2 x hx (List.mem_singleton.1 h)));have mY:Hid (Kept [] (gR :: tF) V (wr.setCell ⟨gR,c,none⟩ (.int .i64 (-1)))/\Below B V (wr.setCell ⟨gR,c,none⟩ (.int .i64 (-1)))):=(⟨HK.out.1.setCell _ _ (inl (by simp)),HK.out.2.1.trans fG⟩);have i1:(c:Int)<C:=(by omega);obtain⟨p,hp⟩:∃p,tc.length=p:=(⟨_,rfl⟩);rw[hp] at t0 xz;have HP:=hid hp;clear hO hv Co dC qb fG hp;go_upto_region 19 with fail;generalize wr.setCell ⟨gR,c,none⟩ (.int .i64 (-1))=W1 at nO yK mY⊢;have mZ:Hid (∀x∈iz bm gI bM jf vS' vK',x∈tF\/V.heap.size<=x):=HK.out.2.2.1;have RI:Hid (∀x∈gs,x≠gR):=HK.out.2.2.2.2;clear e0 e1 t0 HK HM;by_cases EI:p=0
   ·subst EI;have HZ:Hid (gH M (fun c x=>FR L (Mv L (fun y=>y<M/\fs y=true) (rp c)) x) SS (c+1) (row++[-1]) jr):=by
     refine gH.succ wK.out (inl ⟨fun x hx h=>?_,rfl,rfl⟩);have h1:=congrFun Pe.out x;have h2:FR L (fun y=>y∈tc) x:=by
      have e:(FR L (fun y=>y∈tc) x)=_:=h1;rw[e];exact h
     rw[List.length_eq_zero_iff.1 HP.out] at h2;exact FR.none (fun x h=>by simp at h) x h2
    clear vg cY Gj;go_wp2;go_roundw
    ·exact⟨c+1,row++[-1],jr,sG,D',n',gm,l',jf,vS',vK',by go_num,by omega,yK,HZ,mY.out.1,mY.out.2,mZ.out,nO.out,RI.out⟩
    simp[intOf];omega
   have hq0:(0:Int)<p:=(by omega);have hSl:jr.length<=3256:=(by have:=HKS.out;omega);have dj:n'<=100000:=(by have:=yK.out.hn;omega);have sy:l'.length<=100000:=(by have:=yK.out.a.len;omega);have ua:Below B w W1:=(OK.out.mono l7).trans mY.out.2;have sD:=hid (X9 W1 B (iz bm gI bM jf vS' vK') bm gI m M bM bn gM cM gF cF aF Bv L (HN.out.1.below ua) HN.out.2.2.2.1 (by omega) gm mk (HN.out.2.2.1.below ua) HN.out.2.2.2.2.1 yK.out.c0 (by omega) HN.out.2.2.2.2.2.1 _ l' jf vS' vK' n' jr sG D' (by omega) dj sy
    aT p cT tc HP.out (by omega) D4.out (fun W hW=>Wv.out W (fun g hg hl=>by
     have h1:=mY.out.1 g _ (Array.getElem?_eq_getElem hl) (fun _ _ _ _=>by simp) hg
     rw[Array.getElem?_eq_getElem hl]
     exact hW g _ h1 (fun _ _ _ _=>by simp) (fun hm=>by
      rcases mZ.out _ hm with h|h
      ·exact hg (List.mem_cons_of_mem _ h)
      ·omega))) W1 yK.out.a.r yK.out.t yK.out.inv)
   have h0:∃x,x<M/\FR L (fun y=>y∈tc) x:=by
    have fU:0<tc.length:=(by rw[HP.out];omega);exact⟨tc[0],D4.out _ (getElem_mem fU),.base (getElem_mem fU)⟩
   have H0:=hid h0;have zB:=hid wN;clear h0 ua vg Gj wN jq CL dj sy;go_wp2_with fail;refine sD.out.mono ?_;rintro e w5 re;obtain⟨r,Ac,Rr,D2,n2,N5,l2,qI,DH,G1,rfl,KQ,hAdd,eD,ma,ct⟩:=yK.out.close re H0.out;have fo:=nO.out.kept eD (by simp) zB.out;have e0:w5.cell? ⟨gR,c,none⟩=some (.int .i64 (-1)):=(by rw[fo.at_,T2 row C c cY]);have e1:=fo.aZ c;have IG:gR∉iz bm gI bM qI DH G1:=fun h=>by
    rcases ct _ h with h|h
    ·exact zB.out h
    have:=nO.out.lt;omega
   have GY:Kept [] [gR] w5 (w5.setCell ⟨gR,c,none⟩ (.int .i64 r)):=(Kept.refl _ _ _).setCell _ _ (inl (by simp));have iW:Below B w5 (w5.setCell ⟨gR,c,none⟩ (.int .i64 r)):=(Below.refl _ _).setCell (p:=⟨gR,c,none⟩) (by show B<=gR;omega) _;have HM3:=hid (KQ.gh GY iW (fun x hx h=>IG (by rw[<-List.mem_singleton.1 h];exact hx)) (fun b e h=>dH KQ.nx.own fo (by decide) b e (List.mem_singleton.1 h)) (fun x hx h=>RI.out x hx (List.mem_singleton.1 h)));have xJ:Kept [] (gR :: tF) V w5:=fun k o hk ho hn=>eD k o (mY.out.1 k o hk ho hn) ho (fun hm=>by
    rcases mZ.out _ hm with h|h
    ·exact hn (List.mem_cons_of_mem _ h)
    ·have:=(Array.getElem?_eq_some_iff.1 hk).1;omega)
   have HZ:Hid (Kept [] (gR :: tF) V (w5.setCell ⟨gR,c,none⟩ (.int .i64 r))/\Below B V (w5.setCell ⟨gR,c,none⟩ (.int .i64 r))/\(∀x∈iz bm gI bM qI DH G1,x∈tF\/V.heap.size<=x)/\St (w5.setCell ⟨gR,c,none⟩ (.int .i64 r)) 3 gR (ints (row++[r]++replicate (C-(c+1)) 0)).toArray/\∀x∈gs,x≠gR):=by
    refine⟨xJ.setCell _ _ (inl (by simp)),(mY.out.2.trans ma).trans iW,fun x hx=>?_,?_,RI.out⟩
    ·rcases ct x hx with h|h
     ·exact mZ.out x h
     exact inr (le_trans mY.out.2.size h)
    have:=fo.set c (.int .i64 r);rwa [U8 row C c cY aw] at this
   have yS:Hid (gH M (fun c x=>FR L (Mv L (fun y=>y<M/\fs y=true) (rp c)) x) SS (c+1) (row++[r]) Ac):=by
    refine gH.succ wK.out ?_;rw[Pe.out] at hAdd;exact hAdd
   clear re KQ hAdd eD ma ct fo IG GY iW xJ sD;go_wp2;go_roundw
   ·exact⟨c+1,row++[r],Ac,Rr,D2,n2,N5,l2,qI,DH,G1,by go_num,by omega,HM3,yS,HZ⟩
   simp[intOf];omega
  obtain rfl:c=C:=by omega
  obtain⟨aN,cN,rfl⟩:=bG HM.out.nx.own;have n0:wr.cell? ⟨bm,257,none⟩=some (.slice aN R.length cN):=by rw[HM.out.a.r.other 257 (by decide),HM.out.cN]
  have hO:=HM.out.nx.own;have hBB:=HM.out.a.r.hB;have HRL:Hid (St wr 3 gR (ints row).toArray):=by
   have:=HK.out.2.2.2.1;show St _ _ _ _;simpa using this
  obtain⟨kR,Pw⟩:∃kR,R.length=kR:=⟨_,rfl⟩
  rw[Pw] at n0 hO hR;have JA:=hid Pw;obtain⟨i9,DF,dD,cQ,cJ⟩:=info_parts dR;have zB:=hid wN;have HBw:=hid jq;clear Pw vg wN CL jq;go_wp2_with (at_builtin;refine wpList_append_own_at _ rfl _ _ 99 rfl B 43 i9 (.slice none 0 0) 1 24 underlying99 DF dD cQ cJ rfl (by decide) _ _ _ rfl (hO.alloc _) ⟨wr.heap.size,0,none⟩ 1 1 [.slice (some ⟨gR,0,none⟩) c c] rfl rfl (cell_one_new _ _ _) ?d2 ?d3 ?d4 ?d5 ?_)
  case d2=>intro u hu;simp at hu;subst hu;rfl
  case d3=>unfold maxLen;omega
  case d4=>omega
  case d5=>simp;omega
  intro v' w5 an ak _ bw;obtain⟨a5,c5,rfl⟩:=bG an;have h2:=HM.out.aa (al wr (.cells #[.slice (some ⟨gR,0,none⟩) c c] 43));have aq:=an;rw[<-JA.out] at aq;obtain⟨hF,Sb⟩:=h2.next (HRL.out.aa (al wr _)) zB.out (v':=.slice a5 (kR+1) c5) (by simpa [JA.out] using aq) (by rw[JA.out];exact ak)
  have sw:St w5 168 bm _:=h2.a.r.sm.af h2.nx.own (by decide) (by rw[JA.out];exact ak);have p3:w5.cell? ⟨bm,257,none⟩=some (.slice aN kR cN):=by rw[sw.at_,getElem?_setIfInBounds_ne (by decide),h2.cN,JA.out]
  have pf:=sw.aZ 257;have Cl:Hid (U6 B bm gI bM m M c bn K L mk SS R (fun c x=>FR L (Mv L (fun y=>y<M/\fs y=true) (rp c)) x) w (.returned (.tuple #[])) (w5.setCell ⟨bm,257,none⟩ (.slice a5 (kR+1) c5))):=
   ⟨row,jr,sG,D',n',_,l',jf,vS',vK',_,_,rfl,hF,wK.out,(HBw.out.trans ((al wr _).mono HM.out.a.r.hB)).trans Sb⟩
  clear an aq ak bw h2 sw hF Sb hO n0;go_wp2_with fail;refine bodyPost_ret (results_none rfl _ _ _) rfl ?_;exact Cl.out
theorem ZK(K:Nat->Lit)(h:cls K x=cls K y):K x=K y:=by
 have hx:cls K (fst K x)=cls K x:=by unfold cls;rw[J8]
 have hy:cls K (fst K y)=cls K y:=by unfold cls;rw[J8]
 have e:fst K x=fst K y:=by
  rcases Nat.lt_trichotomy (fst K x) (fst K y) with h1|h1|h1
  ·have h2:=DV K (fst K x) (fst K y) h1;have h3:cO K (fst K y)=cls K y:=rfl;omega
  ·exact h1
  have h2:=DV K (fst K y) (fst K x) h1;have h3:cO K (fst K x)=cls K x:=rfl;omega
 rw[<-(xS K x).2.1,<-(xS K y).2.1,e]
noncomputable def pL (K:Nat->Lit) (c:Nat):Nat:=(rl K 256).getD c 0
theorem Nh(K:Nat->Lit)(b:Nat)(hb:b<256):cls K b<(rl K 256).length/\K (pL K (cls K b))=K b:=by
 have h1:=DV K b 256 hb;have h2:cls K b<(rl K 256).length:=by rw[zA];omega
 refine⟨h2,ZK K ?_⟩;have:pL K (cls K b)=(rl K 256)[cls K b]:=by simp[pL,getD_eq_getElem?_getD,h2]
 rw[this];exact (Se K 256 (cls K b) h2).1
theorem zpa(L:List En)(h:dp L x=dp L y):∀e∈L,e.b=false->e.p x=e.p y:=by
 intro e he hb;have h1:=(zi5 _ _ _ _).1 h;have hm:e.p∈bJ (L.map En.z):=by
  unfold bJ;exact List.mem_map.2 ⟨e.z,List.mem_filter.2 ⟨List.mem_map.2 ⟨e,he,rfl⟩,by simp[En.z,hb]⟩,rfl⟩
 obtain⟨i,hi,e1⟩:=List.getElem_of_mem hm;have h2:=h1 i hi;have h3:qQ (L.map En.z) i=e.p:=by simp[qQ,getD_eq_getElem?_getD,hi,e1]
 rw[h3] at h2;exact h2
theorem ZL(L:List En)(b:Nat)(hb:b<256):∀e∈L,e.b=false->e.p (pL (dp L) (cls (dp L) b))=e.p b:=zpa L (Nh (dp L) b hb).2
theorem Mv.byte{A:Nat->Prop}{d:Nat}(h:∀e∈L,e.b=false->e.p c=e.p d)(x:Nat):Mv L A c x↔Mv L A d x:=
 ⟨fun ⟨e,h1,h2,h3,h4,h5⟩=>⟨e,h1,h2,by rw[<-h e h1 h2];exact h3,h4,h5⟩,fun ⟨e,h1,h2,h3,h4,h5⟩=>⟨e,h1,h2,by rw[h e h1 h2];exact h3,h4,h5⟩⟩
theorem Mv.none{A:Nat->Prop}(h:∀x,¬A x)(c x:Nat):¬Mv L A c x:=fun ⟨e,_,_,_,h4,_⟩=>h _ h4
theorem bH.nam(hn:nm.Nodup){A' A:Nat->Prop}(h:sQ nm A' A)(hr:bH (fun i=>mf (nm.getD i 0)) A' r):bH mf A r:=by
 rcases hr with ⟨h1,h2⟩|⟨h1,⟨x,hx,h2⟩,h3⟩
 ·refine inl ⟨h1,fun x hx=>?_⟩;obtain⟨i,hi,rfl⟩:=(h.2 x).1 hx;exact h2 i hi
 refine inr ⟨h1,⟨nm.getD x 0,(h.2 _).2 ⟨x,hx,rfl⟩,h2⟩,fun y hy=>?_⟩;obtain⟨i,hi,rfl⟩:=(h.2 y).1 hy;exact h3 i hi
def ER(L:List En)(M:Nat)(rp:Nat->Nat)(f:Nat->Bool)(c x:Nat):Prop:=FR L (Mv L (fun y=>y<M/\f y=true) (rp c)) x
structure Made (L:List En)(F:Nat)(nm:List Nat)(L':List En)(f0:Nat)(s0:Nat->Bool)(k:Nat)(R:List (List Int))(SS:List (Nat->Bool)):Prop where
 nQ:L=L'.map (En.nQ nm)
 nd:nm.Nodup
 bd:∀e∈L',e.f<nm.length/\e.t<nm.length
 hf:nm[f0]?=some F
 src:∀x∈nm,Src L F F x
 st:∀x,x<nm.length->(s0 x=true↔FR L' (fun y=>y=f0) x)
 run:ic nm.length (rl (dp L) 256).length (ER L' nm.length (pL (dp L))) [s0] k R SS
theorem Made.rep{f0:Nat}(h:Made L F nm L' f0 s0 k R SS)(b:Nat)(hb:b<256):∀e∈L',e.b=false->e.p (pL (dp L) (cls (dp L) b))=e.p b:=by
 intro e he h2;have h3:e.nQ nm∈L:=by rw[h.nQ];exact List.mem_map.2 ⟨e,he,rfl⟩
 exact ZL L b hb (e.nQ nm) h3 h2
def so(M:Nat)(SS:List (Nat->Bool))(A:Nat->Prop)(a:Int):Prop:=(a=-1/\∀x,¬A x)\/∃(j:Nat) (h:j<SS.length),a=((j:Nat):Int)/\∀x,x<M->(SS[j] x=true↔A x)
theorem Made.start{f0:Nat}(h:Made L F nm L' f0 s0 k R SS)(z:Nat->Nat):so nm.length SS (bY L' f0 z 0) 0:=by
 have hp:=h.run.pre;have h0:0<SS.length:=Nat.lt_of_lt_of_le (by simp) hp.length_le;have h1:s0=SS[0]:=by
  have:=hp.getElem (i:=0) (by simp);simpa using this
 exact inr ⟨0,h0,rfl,fun x hx=>by rw[<-h1];exact h.st x hx⟩
theorem Made.step{L:List En}{F f0 k:Nat}{nm:List Nat}{L':List En}{s0:Nat->Bool}{R:List (List Int)}{SS:List (Nat->Bool)}(h:Made L F nm L' f0 s0 k R SS)(hk:SS.length=k)(z:Nat->Nat)(t j:Nat)(hz:z t<256)(hs:so nm.length SS (bY L' f0 z t) (j:Int)):
  ∃(hj:j<R.length) (hc:cls (dp L) (z t)<R[j].length),so nm.length SS (bY L' f0 z (t+1)) R[j][cls (dp L) (z t)]:=by
 have lX:=h.run.len;obtain⟨pD,_⟩:=Nh (dp L) (z t) hz;rcases hs with ⟨h1,_⟩|⟨j',La,e,hS⟩
 ·omega
 have e2:j'=j:=by omega
 subst e2;have Fa:j'<R.length:=by omega
 have cY:=h.run.rO R[j'] (getElem_mem Fa);refine⟨Fa,by omega,?_⟩;obtain⟨oQ,ht⟩:=h.run.oB j' Fa;have Gj:=ht (cls (dp L) (z t)) (by omega);have hA:∀x,ER L' nm.length (pL (dp L)) SS[j'] (cls (dp L) (z t)) x↔bY L' f0 z (t+1) x:=by
  intro x;show FR L' _ x↔FR L' _ x;refine FR.congr (fun y=>?_) x;rw[Mv.byte (h.rep (z t) hz) y];refine Mv.congr (fun w=>⟨fun hw=>(hS w hw.1).1 hw.2,fun hw=>?_⟩) _ y;have aw:w<nm.length:=bY.lt (f:=f0) (List.getElem?_eq_some_iff.1 h.hf).1 (fun e he=>(h.bd e he).2) t hw;exact⟨aw,(hS w aw).2 hw⟩
 rcases Gj with ⟨h1,h2⟩|⟨_,j2,hj2,h1,h2⟩
 ·refine inl ⟨h1,fun x hx=>?_⟩;have aw:x<nm.length:=bY.lt (f:=f0) (List.getElem?_eq_some_iff.1 h.hf).1 (fun e he=>(h.bd e he).2) (t+1) hx;exact h2 x aw ((hA x).2 hx)
 exact inr ⟨j2,hj2,h1,fun x hx=>(h2 x hx).trans (hA x)⟩
theorem bY.dead{f:Nat}{z:Nat->Nat}(h:∀x,¬bY L f z t x):∀x,¬bY L f z (t+1) x:=fun x=>FR.none (Mv.none h (z t)) x
theorem Made.names{f0:Nat}(h:Made L F nm L' f0 s0 k R SS)(z:Nat->Nat)(m:Nat):sQ nm (bY L' f0 z m) (bY L F z m):=by
 have:=sQ.run h.nd h.bd (List.getElem?_eq_some_iff.1 h.hf).1 z m;rw[<-h.nQ] at this;have e:nm.getD f0 0=F:=by simp[getD_eq_getElem?_getD,h.hf]
 rwa [e] at this
theorem Made.mark{f0:Nat}(h:Made L F nm L' f0 s0 k R SS){z:Nat->Nat}(hj:j<SS.length)(hs:so nm.length SS (bY L' f0 z m) (j:Int))
  (hr:bH (fun i=>mf (nm.getD i 0)) (fun x=>x<nm.length/\SS[j] x=true) r):bH mf (bY L F z m) r:=by
 rcases hs with ⟨h1,_⟩|⟨j',La,e,hS⟩
 ·omega
 have e2:j'=j:=by omega
 subst e2;refine bH.nam h.nd (h.names z m) (hr.congr (fun x=>⟨fun hx=>(hS x hx.1).1 hx.2,fun hx=>?_⟩));have aw:x<nm.length:=bY.lt (f:=f0) (List.getElem?_eq_some_iff.1 h.hf).1 (fun e he=>(h.bd e he).2) m hx;exact⟨aw,(hS x aw).2 hx⟩
theorem lQ.src{S:Nat->Prop}{S':List (Nat->Bool)}(h:lQ M S SS r S'):∀i (hi:i<S'.length),SS.length<=i->(∃x,x<M/\S x)/\∀x,x<M->(S'[i] x=true↔S x):=by
 intro i hi hl;rcases h with ⟨_,_,rfl⟩|⟨h0,j,_,⟨hj,Jv⟩,rfl|⟨f,rfl,rfl,_⟩⟩
 ·omega
 ·omega
 have:i=SS.length:=by simp at hi;omega
 subst this;exact⟨h0,Jv⟩
theorem gH.src{M:Nat}{T:Nat->Nat->Prop}{SS S':List (Nat->Bool)}{c:Nat}{row:List Int}(h:gH M T SS c row S'):∀i (hi:i<S'.length),SS.length<=i->∃d,d<c/\(∃x,x<M/\T d x)/\∀x,x<M->(S'[i] x=true↔T d x):=by
 induction h with
 | zero=>intro i hi hl;omega
 | @succ c row S1 S2 r h0 h1 ih=>
  intro i hi hl;by_cases e:i<S1.length
  ·obtain⟨d,hd,h2,h3⟩:=ih i e hl;refine⟨d,by omega,h2,fun x hx=>?_⟩;rw[<-h1.pre.getElem e];exact h3 x hx
  obtain⟨h2,h3⟩:=h1.src i hi (by omega);exact⟨c,by omega,h2,h3⟩
theorem ic.src{M C:Nat}{T:(Nat->Bool)->Nat->Nat->Prop}{S0 S':List (Nat->Bool)}{k:Nat}{R:List (List Int)}(h:ic M C T S0 k R S'):∀i (hi:i<S'.length),S0.length<=i->∃(i':Nat) (hi':i'<S'.length) (d:Nat),i'<i/\d<C/\(∃x,x<M/\T S'[i'] d x)/\∀x,x<M->(S'[i] x=true↔T S'[i'] d x):=by
 induction h with
 | zero=>intro i hi hl;omega
 | @succ k R row S1 S2 h0 hk h1 ih=>
  intro i hi hl;by_cases e:i<S1.length
  ·obtain⟨i',hi',d,aw,hd,h2,h3⟩:=ih i e hl;refine⟨i',Nat.lt_of_lt_of_le hi' h1.pre.length_le,d,aw,hd,?_,fun x hx=>?_⟩
   ·rw[<-h1.pre.getElem hi'];exact h2
   rw[<-h1.pre.getElem e,<-h1.pre.getElem hi'];exact h3 x hx
  obtain⟨d,hd,h2,h3⟩:=h1.src i hi (by omega);refine⟨k,Nat.lt_of_lt_of_le hk h1.pre.length_le,d,by omega,hd,?_,fun x hx=>?_⟩
  ·rw[<-h1.pre.getElem hk];exact h2
  rw[<-h1.pre.getElem hk];exact h3 x hx
theorem XC(K:Nat->Lit):0<cO K 256:=by
 have h:=DV K 0 256 (by omega);omega
structure jg (w:World)(cD:Array Value)(K:Nat->Lit)(R:List (List Int))(ms:List Int)(C:Nat):Prop where
 cl:∀j,j<256->cD[j]?=some (.int .u8 ((cls K j:Nat):Int))
 nx:∃vN gs,cD[256]?=some vN/\qG w 0 [] vN C gs R
 cq:∃vK,cD[257]?=some vK/\w.ownsRow 0 3 1 vK ms.length (ints ms)
 rl:∀r∈R,r.length=C
theorem Jt(w:World)(b:Nat)(cs:Array Value):Kept [] [b] w (w.setRow b cs):=fun k o hk _ hn=>by
 rw[setRow_other w b k cs (by simpa using hn)]
 exact hk
theorem jg.setRow{b:Nat}{kL:Array Value}(h:jg w cD K R ms C)(hb:St w 101 b kL):jg (w.setRow b cs) cD K R ms C:=by
 obtain⟨vN,gs,h1,h2⟩:=h.nx;obtain⟨vK,h3,h4⟩:=h.cq;have k:=Jt w b cs;refine⟨h.cl,⟨vN,gs,h1,⟨fD h2.own k (by simp) (fun g e hm=>dH h2.own hb (by decide) g e (List.mem_singleton.1 hm)),h2.len,fun i hi hi'=>⟨(h2.row i hi hi').1.kept k (by simp) (fun hm=>(h2.row i hi hi').1.ne hb (by decide) (List.mem_singleton.1 hm)),by simp⟩⟩⟩,
  ⟨vK,h3,fD h4 k (by simp) (fun g e hm=>dH h4 hb (by decide) g e (List.mem_singleton.1 hm))⟩,h.rl⟩
theorem jg.rows(h:jg w cD K R ms C):∃a c A,cD[256]?=some (.slice a R.length c)/\mF w a R.length A (fun _=>C) (fun _=>C) (fun i x=>(R.getD i []).getD x 0):=by
 obtain⟨vN,gs,h1,h2⟩:=h.nx;have hN:=h2.own;obtain⟨aN,cN,rfl⟩:=bG hN;refine⟨aN,cN,fun i=>some ⟨gs.getD i 0,0,none⟩,h1,fun h0=>?_⟩;obtain⟨g,rfl,_,hg,hc⟩:=fe hN h0;refine⟨g,0,rfl,hg,fun i hi=>?_⟩;have KH:i<gs.length:=by rw[h2.len];exact hi
 obtain⟨hs,_⟩:=h2.row i KH hi;have vg:=h.rl _ (getElem_mem hi);refine⟨?_,fun h1=>⟨gs.getD i 0,0,rfl,?_,fun j hj=>?_⟩⟩
 ·rw[zero_add,(hc i (by omega)).1];simp[getD_eq_getElem?_getD,KH]
 ·have:=hs.lt;simpa [getD_eq_getElem?_getD,KH] using this
 have Ub:gs.getD i 0=gs[i]:=by simp[getD_eq_getElem?_getD,KH]
 rw[zero_add,Ub,hs.at_];have hj2:j<R[i].length:=by rw[vg];exact hj
 simp[ints,getD_eq_getElem?_getD,hi,hj2]
theorem jg.marks(h:jg w cD K R ms C):∃a c,cD[257]?=some (.slice a ms.length c)/\kQ w a ms.length (fun i=>ms.getD i 0):=by
 obtain⟨vK,h3,h4⟩:=h.cq;obtain⟨a,c,rfl⟩:=bG h4;refine⟨a,c,h3,fun h0=>?_⟩;obtain⟨g,rfl,_,hg,hc⟩:=fe h4 h0;refine⟨g,0,rfl,hg,fun j hj=>?_⟩;rw[zero_add,(hc j (by omega)).1];simp[ints,getD_eq_getElem?_getD,hj]
def sg(L:List En)(F:Nat)(mf:Nat->Int)(w:World)(e:Ending)(w':World):Prop:=
 ∃(cD:Array Value) (er:Int) (nm:List Nat) (L':List En) (f0:Nat) (s0:Nat->Bool) (k:Nat) (R:List (List Int)) (SS:List (Nat->Bool)),e=.returned (.tuple #[.agg cD,.int .i64 er])/\Below w.heap.size w w'/\Made L F nm L' f0 s0 k R SS/\cD.size=258/\(∀v∈cD.toList,v.oneCell'=true)/\
  ((er=6/\2000<SS.length/\cD=zC 101)\/(er=0/\SS.length=k/\k<=2000/\∃ms,jg w' cD (dp L) R ms (rl (dp L) 256).length/\ms.length=k/\∀j (h:j<SS.length) (h2:j<ms.length),bH (fun i=>mf (nm.getD i 0)) (fun x=>x<nm.length/\SS[j] x=true) ms[j]))
theorem lQ.start{S:Nat->Prop}{jr:List (Nat->Bool)}(h:lQ M S [] r jr)(h0:∃x,x<M/\S x):∃f,jr=[f]/\∀x,x<M->(f x=true↔S x):=by
 rcases h with ⟨h1,_,_⟩|⟨_,j,_,⟨hj,Jv⟩,rfl|⟨f,rfl,rfl,_⟩⟩
 ·obtain⟨x,hx,hs⟩:=h0;exact absurd hs (h1 x hx)
 ·simp at hj
 exact⟨f,rfl,fun x hx=>Jv x hx⟩
theorem lB.dfa{D:List ((Nat->Bool) × Nat)}{l:List Nat}{vL vK vN:Value}{gs:List Nat}
  (h:lB B bm gI bM m M C bn K L mk SS ms D R n cs l vL vS vK vN gs w) (hR:∀r∈R,r.length=C):
  ∃cD:Array Value,cD.size=258/\(∀v∈cD.toList,v.oneCell'=true)/\(∀j v,cD.toList[j]?=some v->w.cell? ((⟨bm,1,none⟩:Addr).add j)=some v)/\ms.length=SS.length/\jg w cD K R ms C:=by
 have Tu:=h.inv.len;have hN:=h.nx.own;have hK:=h.t.ok;obtain⟨aN,cN,rfl⟩:=bG hN;obtain⟨aK,cK,rfl⟩:=bG hK;refine⟨((range 256).map (fun j=>Value.int .u8 ((cls K j:Nat):Int))++[Value.slice aN R.length cN,Value.slice aK SS.length cK]).toArray,by simp,fun v hv=>?_,fun j v hj=>?_,Tu,⟨fun j hj=>?_,⟨.slice aN R.length cN,gs,by simp[getElem?_append],⟨jR hN (zero_le _),h.nx.len,fun i hi hi'=>⟨(h.nx.row i hi hi').1,by simp⟩⟩⟩,⟨.slice aK SS.length cK,by simp[getElem?_append],by rw[Tu];exact jR hK (zero_le _)⟩,hR⟩⟩
 ·rcases List.mem_append.1 hv with hv|hv
  ·obtain⟨j,_,rfl⟩:=List.mem_map.1 hv;rfl
  simp only[List.mem_cons,List.not_mem_nil,or_false] at hv;rcases hv with rfl|rfl <;> rfl
 ·have e:(⟨bm,1,none⟩:Addr).add j=⟨bm,1+j,none⟩:=by unfold Addr.add;split <;> simp_all
  have hj2:j<258:=by
   have:=(List.getElem?_eq_some_iff.1 hj).1;simpa using this
  rw[e,h.a.r.other (1+j) (by omega)];by_cases e1:j<256
  ·rw[h.cl j e1,<-hj];simp[getElem?_append,e1]
  by_cases e2:j=256
  ·subst e2;rw[show 1+256=257 from rfl,h.cN,<-hj];simp[getElem?_append]
  have e3:j=257:=by omega
  subst e3;rw[show 1+257=258 from rfl,h.t.cK,<-hj];simp[getElem?_append]
 simp[getElem?_append,hj]
theorem zoe(kf bV:Nat)(mf:Nat->Int)(S0 T:Int)(F:Nat)(L:List En)(a:Option Addr)(n c:Nat)(w:World)(HC:∀(args:Array Value) (W:World),(callFunc kf args).run prog W=.ok (.enter kf args) W)
  (HM:∀W,Below w.heap.size w W->∀x,x<=9223372036854775807->Calls prog kf #[.int .i64 ((x:Nat):Int),.pointer (some ⟨bV,0,none⟩)] W fun e w'=>e=.returned (.int .i64 (mf x))/\w'=W) (xQ:∀x,-1<=mf x)
  (hL:kD w a (L.map En.z)) (hn:L.length=n) (ku:n<=6400) (qf:(bJ (L.map En.z)).length<=1000) (hF:F<=9223372036854775807) (hE:∀e∈L,e.f<=9223372036854775807/\e.t<=9223372036854775807) (hr:ve S0 (L.map En.z) (F:Int) T=true):
  Calls prog 95 #[.agg #[.int .i64 S0,.slice a n c,.int .i64 (F:Int),.int .i64 T],.func (.func kf) #[] #[.pointer (some ⟨bV,0,none⟩)]] w (sg L F mf w):=by
 have Fu:=hid (fun (W:World) (hb:Below w.heap.size w W)=>ziT kf bV mf S0 T F L a n c W HC (fun W' hb'=>HM W' (hb.trans (hb'.mono hb.size))) (hL.below hb) hn ku qf hF hE);have WH:Hid (∀(W:World),Below w.heap.size w W->Calls prog 116 #[.agg #[.int .i64 S0,.slice a n c,.int .i64 (F:Int),.int .i64 T]] W fun e w'=>e=.returned (.bool true)/\Below W.heap.size W w'):=fun W hb=>by
  have:=Zi S0 (F:Int) T a n c (L.map En.z) W (hL.below hb) (by rw[length_map];exact hn) (by unfold maxLen;omega);rwa [hr] at this
 have HH:=hid (Zz hn (Zz xQ hr));clear HC HM hL hn hE hr xQ;go_enter func95,ntmps95;go_wp2_with (refine rF rfl 101 rfl (zC 101) (nE _) ?_);go_upto_region 1 with fail;have h2:St ((w.alloc (.cells #[.int .i64 S0,.slice a n c,.int .i64 (F:Int),.int .i64 T] 119)).alloc (.cells (zC 101) 101)) 119 w.heap.size #[.int .i64 S0,.slice a n c,.int .i64 (F:Int),.int .i64 T]:=(St.new w _ _).alloc _;have h4:St ((w.alloc (.cells #[.int .i64 S0,.slice a n c,.int .i64 (F:Int),.int .i64 T] 119)).alloc (.cells (zC 101) 101)) 101 (w.heap.size+1) (zC 101):=by
  have:=St.new (w.alloc (.cells #[.int .i64 S0,.slice a n c,.int .i64 (F:Int),.int .i64 T] 119)) 101 (zC 101);simpa using this
 have l7:Below w.heap.size w ((w.alloc (.cells #[.int .i64 S0,.slice a n c,.int .i64 (F:Int),.int .i64 T] 119)).alloc (.cells (zC 101) 101)):=(al w _).trans ((al _ _).mono (by simp));generalize (w.alloc (.cells #[.int .i64 S0,.slice a n c,.int .i64 (F:Int),.int .i64 T] 119)).alloc (.cells (zC 101) 101)=W0 at h2 h4 l7⊢;obtain⟨b4,iN⟩:∃b4,w.heap.size+1=b4:=⟨_,rfl⟩
 rw[iN] at h4;rw[iN];obtain⟨r0,r1,r2,r3⟩:=h2.dM;have H0:=hid (Zz h2 (Zz h4 (Zz l7 iN)));have rE:=hid (WH.out W0 l7);clear h2 h4 l7 iN;go_wp2_with fail;refine rE.out.mono ?_;rintro e w1 ⟨rfl,lF⟩;have qb:Below w.heap.size w w1:=H0.out.2.2.1.trans (lF.mono H0.out.2.2.1.size);have s2:=H0.out.1.aa lF;have H1:=hid (Zz s2 (Zz (H0.out.2.1.aa lF) qb));have rP:=hid (Fu.out w1 qb);clear r0 r1 r2 r3;obtain⟨r0,r1,r2,r3⟩:=s2.dM;clear lF qb s2 rE WH Fu;go_wp2_with fail;refine rP.out.mono ?_;rintro e w2 ⟨bn,f0,gM,cM,gF,cF,gS,cS,nm,L',aF,aS,Bv,DQ,csA,rfl,ma,Qp,rn,xD,s6,Jz,BN,iR,Gv,UO,Lc,sr⟩;obtain⟨m,hm⟩:∃m,(nm.length+7) / 8=m:=⟨_,rfl⟩
 have Zf:L.length=L'.length:=by rw[BN,length_map]
 have Rq:L'.length<=6400:=by have:=HH.out.1;omega
 have Jg:nm.length<=12900:=by have:=HH.out.1;omega
 have Fg:=hid (zfZ (dp L) L' (fun i=>mf (nm.getD i 0)) csA bn gM nm.length cM m (rl (dp L) 256).length w2 s6 xD.gf Jg hm);have og:=hid (Zz Qp (Zz rn (Zz xD (Zz Jz (Zz BN (Zz iR (Zz Gv (Zz UO (Zz sr hm)))))))));have H2:=hid (Zz (H1.out.2.1.aa ma) (H1.out.2.2.trans (ma.mono H1.out.2.2.size)));have aW:bn<w2.heap.size:=Qp.fY.1;have rH:=ma.size;have Bl:w.heap.size<=w2.heap.size:=by have:=H1.out.2.2.size;omega
 clear ma Qp rn xD s6 Jz BN iR Gv UO sr hm Lc Zf rP r0 r1 r2 r3;go_wp2_with fail;refine Fg.out.mono ?_;rintro e w3 ⟨bm,gI,bM,cK,rfl,FK,pK⟩;have c0:w3.cell? ⟨bm,0,none⟩=some (.pointer (some ⟨bn,0,none⟩)):=(FK.a.r.other 0 (by decide)).trans FK.c0;have c1:w3.cell? ⟨bn,256,none⟩=some (.int .i64 (f0:Int)):=(pK.cell (p:=⟨bn,256,none⟩) aW).trans og.out.2.2.2.1;have iW:=pK.size;have DS:=hid (FK.aa (al w3 (.cells #[.int .i64 (f0:Int)] 3)));have py:=hid pK;have rv:=FK.wh;have Cx:f0<nm.length:=(List.getElem?_eq_some_iff.1 og.out.2.2.2.2.2.2.2.1).1;have BA:Below w2.heap.size w2 (w3.alloc (.cells #[.int .i64 (f0:Int)] 3)):=pK.trans ((al w3 _).mono iW);have sD:=hid (X9 (w3.alloc (.cells #[.int .i64 (f0:Int)] 3)) w2.heap.size (iz bm gI bM (.slice none 0 0) (.slice none 0 0) (.slice none 0 0)) bm gI m nm.length bM bn gM cM gF cF aF Bv L' (og.out.1.below BA) og.out.2.2.2.2.2.2.1 (by omega) cK (fun i=>mf (nm.getD i 0)) (og.out.2.2.1.below BA) (fun i _=>HH.out.2.1 _) DS.out.c0 (by omega) og.out.2.2.2.2.2.2.2.2.2 _ [] (.slice none 0 0) (.slice none 0 0) (.slice none 0 0) 0 [] [] [] (by simp) (by omega) (by simp)
  (some ⟨w3.heap.size,0,none⟩) 1 1 [f0] rfl (by omega) (fun x hx=>by rw[List.mem_singleton.1 hx];exact Cx) (fun W hW h0=>by
   have hg:w3.heap.size<(w3.alloc (.cells #[.int .i64 (f0:Int)] 3)).heap.size:=by simp
   have hn:w3.heap.size∉iz bm gI bM (.slice none 0 0) (.slice none 0 0) (.slice none 0 0):=fun hm=>Nat.lt_irrefl _ (rv _ hm)
   have h1:=hW _ _ (Array.getElem?_eq_getElem hg) (fun _ _ _ _=>by simp) hn
   refine⟨w3.heap.size,0,rfl,(Array.getElem?_eq_some_iff.1 h1).1,fun j hj=>?_⟩
   obtain rfl:j=0:=by simp at hj;omega
   rw[hW.mG hn hg]
   exact (St.new w3 3 #[.int .i64 (f0:Int)]).at_ 0) _ DS.out.a.r DS.out.t DS.out.inv)
 clear FK pK rv BA Fg;go_wp2_with fail;refine sD.out.mono ?_;rintro e w5 re;obtain⟨r,SS1,ms1,D1,n1,cs1,l1,MA,I4,Zl,rfl,yO,hAdd,_,kM,_⟩:=DS.out.close re ⟨f0,Cx,.base (by simp)⟩;obtain⟨s0,rfl,nz⟩:=hAdd.start ⟨f0,Cx,.base (by simp)⟩;have dy:Hid (∀x,x<nm.length->(s0 x=true↔FR L' (fun y=>y=f0) x)):=fun x hx=>(nz x hx).trans (FR.congr (fun y=>by simp) x)
 have Jy:=hid yO;have qe:=hid ((py.out.trans ((al w3 _).mono iW)).trans kM);clear re yO hAdd kM nz c0 c1 sD DS;have hlC:(rl (dp L) 256).length<=256:=by rw[zA];exact JW _ _
 have hCp:0<(rl (dp L) 256).length:=by
  rw[zA];exact XC _
 go_wp2;go_loopw [7] (fun v wq=>∃(k:Nat) (SS:List (Nat->Bool)) (ms:List Int) (D:List ((Nat->Bool) × Nat)) (R:List (List Int)) (nn:Nat) (cs:Array Value) (l:List Nat) (vL vS vK vN:Value) (gs:List Nat),v=.int .i64 k/\k<=SS.length/\SS.length<=2000/\
  Hid (lB w2.heap.size bm gI bM m nm.length (rl (dp L) 256).length bn (dp L) L' (fun i=>mf (nm.getD i 0)) SS ms D R nn cs l vL vS vK vN gs wq)/\Hid (ic nm.length (rl (dp L) 256).length (ER L' nm.length (pL (dp L))) [s0] k R SS)/\Hid (Below w2.heap.size w2 wq)) (fun v _=>2001-(intOf v).toNat)
 ·exact⟨0,[s0],ms1,D1,[],n1,cs1,l1,MA,I4,Zl,_,[],rfl,by simp,by simp,Jy,ic.zero,qe⟩
 clear Jy qe;obtain⟨k,SS,ms,D,R,nn,cs,l,vL,vS,vK,vN,gs,rfl,hk,hS,HM,Dj,HB⟩:=hrel;obtain⟨aS1,cS1,rfl⟩:=bG HM.out.t.os;have d0:wr.cell? ⟨bm,259,none⟩=some (.slice aS1 SS.length cS1):=(HM.out.a.r.other 259 (by decide)).trans HM.out.t.cS;have hRk:=Dj.out.len;have gq:St wr 101 b4 (zC 101):=H2.out.1.below HB.out H2.out.1.lt;by_cases aw:k<SS.length
 ·have hk63:k<3000:=by omega
  have WM:=hid (zmq w2.heap.size bm gI bM m nm.length (rl (dp L) 256).length bn gM cM gF cF gS cS nn k aF aS Bv DQ (pL (dp L)) (dp L) L' (fun i=>mf (nm.getD i 0)) wr (og.out.1.below HB.out) (og.out.2.1.below HB.out) (og.out.2.2.1.below HB.out) og.out.2.2.2.2.2.2.1 Rq (fun i _=>HH.out.2.1 _) (by rw[<-zA]) hlC Jg og.out.2.2.2.2.2.2.2.2.2 SS ms D R cs l vL _ vK vN gs HM.out aw (by omega) (by omega));have Pv:=hid aw;obtain⟨q,hq⟩:∃q,SS.length=q:=⟨_,rfl⟩
  have i1:(k:Int)<q:=by omega
  rw[hq] at d0;have HQ:=hid hq;clear hq hk;go_wp2_with fail;refine WM.out.mono ?_;rintro e w6 ⟨row,Ac,Rr,D2,n2,N5,l2,qI,DH,G1,ZP,gs2,rfl,xe,CH,DT⟩;obtain⟨PX,ZZ,rfl⟩:=bG xe.t.os;have d1:w6.cell? ⟨bm,259,none⟩=some (.slice PX Ac.length ZZ):=(xe.a.r.other 259 (by decide)).trans xe.t.cS;have GX:Hid (ic nm.length (rl (dp L) 256).length (ER L' nm.length (pL (dp L))) [s0] (k+1) (R++[row]) Ac):=ic.succ Dj.out Pv.out CH;have tz:=hid xe;have zX:=hid (HB.out.trans DT);have BX:St w6 101 b4 (zC 101):=H2.out.1.below zX.out H2.out.1.lt;have kj:=hid CH.pre.length_le;obtain⟨q2,hq2⟩:∃q2,Ac.length=q2:=⟨_,rfl⟩
  have uj:=hid hq2;rw[hq2] at d1;clear xe CH DT hq2 d0 gq WM;by_cases ph:2000<q2
  ·have i2:(2000:Int)<q2:=(by omega);have HF:Hid (sg L F mf w (.returned (.tuple #[.agg (zC 101),.int .i64 6])) (w6.setRow b4 (zC 101))):=by
    refine⟨zC 101,6,nm,L',f0,s0,k+1,R++[row],Ac,rfl,mQ (H2.out.2.trans (zX.out.mono Bl)) (by have:=H0.out.2.2.2;omega) _,⟨og.out.2.2.2.2.1,og.out.2.2.2.2.2.1,og.out.2.2.2.2.2.2.1,og.out.2.2.2.2.2.2.2.1,og.out.2.2.2.2.2.2.2.2.1,dy.out,GX.out⟩,jz,EO,inl ⟨rfl,by rw[uj.out];exact ph,rfl⟩⟩
   have kq:=hid BX;clear BX;go_wp2_with (first|(refine Dw rfl 101 _ rfl #[] ?hp (.agg (zC 101)) ?hb ?_)|(refine o8 rfl 101 _ _ rfl b4 101 (zC 101) (zC 101) rfl rfl kq.out rfl (by rw[gY,jz]) EO ?_))
   case hb=>exact Ny _
   refine bodyPost_ret (Ds rfl _ _ b4 (zC 101) _ rfl kq.out.setRow.part underlying101 rfl (by rw[gY,jz])) rfl ?_;exact HF.out
  have i2:¬((2000:Int)<q2):=by omega
  clear BX;go_wp2;go_roundw
  ·exact⟨k+1,Ac,Rr,D2,R++[row],n2,N5,l2,qI,_,G1,ZP,gs2,by go_num,by have:=kj.out;have:=Pv.out;omega,by have:=uj.out;omega,tz,GX,zX⟩
  simp[intOf];have:=Pv.out;omega
 have VH:k=SS.length:=by omega
 obtain⟨cD,fa,CB,dF,mV,hD⟩:=HM.out.dfa (fun r hr=>Dj.out.rO r hr);have HF:Hid (sg L F mf w (.returned (.tuple #[.agg cD,.int .i64 0])) (wr.setRow b4 cD)):=by
  refine⟨cD,0,nm,L',f0,s0,k,R,SS,rfl,mQ (H2.out.2.trans (HB.out.mono Bl)) (by have:=H0.out.2.2.2;omega) _,⟨og.out.2.2.2.2.1,og.out.2.2.2.2.2.1,og.out.2.2.2.2.2.2.1,og.out.2.2.2.2.2.2.2.1,og.out.2.2.2.2.2.2.2.2.1,dy.out,Dj.out⟩,fa,CB,inr ⟨rfl,VH.symm,by omega,ms,hD.setRow gq,by omega,HM.out.inv.cq⟩⟩
 have kq:=hid gq;have HX:=hid (Zz fa (Zz CB dF));have i1:¬((k:Int)<(SS.length:Int)):=by omega
 clear gq hD mV fa CB dF VH aw hk;go_wp2_with (first|(refine r8 rfl 101 _ rfl ⟨bm,1,none⟩ rfl cD _ HX.out.2.2 underlying101 rfl (by rw[gY,HX.out.1]) ?_)|(refine o8 rfl 101 _ _ rfl b4 101 (zC 101) cD rfl rfl kq.out (by rw[jz,HX.out.1]) (by rw[gY,HX.out.1]) HX.out.2.1 ?_));refine bodyPost_ret (Ds rfl _ _ b4 cD _ rfl kq.out.setRow.part underlying101 rfl (by rw[gY,HX.out.1])) rfl ?_;exact HF.out
theorem zgW(bV:Nat)(S F:Int)(T:Nat)(a:Option Addr)(n c:Nat)(w:World)(hS:St w 119 bV #[.int .i64 S,.slice a n c,.int .i64 F,.int .i64 (T:Int)])(x:Nat)(hx:x<=9223372036854775807)(hT:T<=9223372036854775807):
  Calls prog 96 #[.int .i64 (x:Int),.pointer (some ⟨bV,0,none⟩)] w fun e w'=>e=.returned (.int .i64 (if x=T then 0 else -1))/\w'=w:=by
 obtain⟨c0,c1,c2,c3⟩:=hS.dM;by_cases e:x=T
 ·rw[if_pos e];subst e;go_enter func96,ntmps96;go_wp2;go_ret;exact⟨rfl,rfl⟩
 rw[if_neg e];have i1:¬((x:Int)=T):=by omega
 go_enter func96,ntmps96;go_wp2;go_ret;exact⟨rfl,rfl⟩
theorem sg.put{W0:World}{er:Int}{f0:Nat}{b4:Nat}
  (hB:Below w.heap.size w W0) (h1:Below W0.heap.size W0 w') (h2:Made L F nm L' f0 s0 k R SS) (h3:cD.size=258) (h4:∀v∈cD.toList,v.oneCell'=true)
  (h5:(er=6/\2000<SS.length/\cD=zC 101)\/(er=0/\SS.length=k/\k<=2000/\∃ms,jg w' cD (dp L) R ms (rl (dp L) 256).length/\ms.length=k/\∀j (h:j<SS.length) (h2:j<ms.length),bH (fun i=>mf (nm.getD i 0)) (fun x=>x<nm.length/\SS[j] x=true) ms[j]))
  (dC:St w' 101 b4 (zC 101)) (iN:w.heap.size<=b4):sg L F mf w (.returned (.tuple #[.agg cD,.int .i64 er])) (w'.setRow b4 cD):=by
 refine⟨cD,er,nm,L',f0,s0,k,R,SS,rfl,mQ (hB.trans (h1.mono hB.size)) iN _,h2,h3,h4,?_⟩;rcases h5 with h|⟨e1,e2,e3,ms,h6,h7,h8⟩
 ·exact inl h
 exact inr ⟨e1,e2,e3,ms,h6.setRow dC,h7,h8⟩
theorem zkJ:∀(args:Array Value) (W:World),(callFunc 96 args).run prog W=.ok (.enter 96 args) W:=fun _ _=>by rfl
theorem zog(S0:Int)(F T:Nat)(L:List En)(a:Option Addr)(n c:Nat)(w:World)
  (hL:kD w a (L.map En.z)) (hn:L.length=n) (ku:n<=6400) (qf:(bJ (L.map En.z)).length<=1000) (hF:F<=9223372036854775807) (hT:T<=9223372036854775807) (hE:∀e∈L,e.f<=9223372036854775807/\e.t<=9223372036854775807) (hr:ve S0 (L.map En.z) (F:Int) (T:Int)=true):
  Calls prog 82 #[.agg #[.int .i64 S0,.slice a n c,.int .i64 (F:Int),.int .i64 (T:Int)]] w (sg L F (fun x=>if x=T then 0 else -1) w):=by
 have jd:∀(fn:Fn) (first cap:Array Value) (w:World),(makeFunc fn first cap).run prog w=.ok (.func fn first cap) w:=fun _ _ _ _=>rfl
 have HD:=hid (fun (W:World) (hb:Below w.heap.size w W) (bV:Nat) (hS:St W 119 bV #[.int .i64 S0,.slice a n c,.int .i64 ((F:Nat):Int),.int .i64 ((T:Nat):Int)])=>zoe 96 bV (fun x=>if x=T then 0 else -1) S0 ((T:Nat):Int) F L a n c W zkJ (fun W' hb' x hx=>zgW bV S0 ((F:Nat):Int) T a n c W' (hS.aa hb') x hx hT) (fun x=>by split <;> omega) (hL.below hb) hn ku qf hF hE hr);clear hL hn hE hr;go_enter func82,ntmps82;go_wp2_with (refine rF rfl 101 rfl (zC 101) (nE _) ?_);go_upto_region 1 with fail;have h2:St ((w.alloc (.cells #[.int .i64 S0,.slice a n c,.int .i64 (F:Int),.int .i64 (T:Int)] 119)).alloc (.cells (zC 101) 101)) 119 w.heap.size #[.int .i64 S0,.slice a n c,.int .i64 (F:Int),.int .i64 (T:Int)]:=(St.new w _ _).alloc _;have h4:St ((w.alloc (.cells #[.int .i64 S0,.slice a n c,.int .i64 (F:Int),.int .i64 (T:Int)] 119)).alloc (.cells (zC 101) 101)) 101 (w.heap.size+1) (zC 101):=by
  have:=St.new (w.alloc (.cells #[.int .i64 S0,.slice a n c,.int .i64 (F:Int),.int .i64 (T:Int)] 119)) 101 (zC 101);simpa using this
 have l7:Below w.heap.size w ((w.alloc (.cells #[.int .i64 S0,.slice a n c,.int .i64 (F:Int),.int .i64 (T:Int)] 119)).alloc (.cells (zC 101) 101)):=(al w _).trans ((al _ _).mono (by simp));generalize (w.alloc (.cells #[.int .i64 S0,.slice a n c,.int .i64 (F:Int),.int .i64 (T:Int)] 119)).alloc (.cells (zC 101) 101)=W0 at h2 h4 l7⊢;obtain⟨b4,iN⟩:∃b4,w.heap.size+1=b4:=⟨_,rfl⟩
 rw[iN] at h4;rw[iN];obtain⟨r0,r1,r2,r3⟩:=h2.dM;have H0:=hid (Zz h4 (Zz l7 iN));have Wt:=hid (HD.out W0 l7 w.heap.size h2);clear h2 h4 l7 iN;go_wp2_with fail;refine Wt.out.mono ?_;rintro e w1 ⟨cD,er,nm,L',f0,s0,k,R,SS,rfl,h1,h2,h3,h4,h5⟩;have dC:=H0.out.1.aa h1;have HF:=hid (sg.put (mf:=fun x=>if x=T then 0 else -1) H0.out.2.1 h1 h2 h3 h4 h5 dC (by have:=H0.out.2.2;omega));have kq:=hid dC;have HX:=hid (Zz h3 h4);clear h1 h2 h3 h4 h5 dC HD Wt r0 r1 r2 r3;go_wp2_with (refine o8 rfl 101 _ _ rfl b4 101 (zC 101) cD rfl rfl kq.out (by rw[jz,HX.out.1]) (by rw[gY,HX.out.1]) HX.out.2 ?_);refine bodyPost_ret (Ds rfl _ _ b4 cD _ rfl kq.out.setRow.part underlying101 rfl (by rw[gY,HX.out.1])) rfl ?_;exact HF.out
structure Zm (W:World)(MM PG cA:Array Value)(n m:Nat)(a1 a2:Option Addr)(c1 c2:Nat)(A1 A2:Nat->Option Addr)(C1 C2 l1 l2:Nat->Nat)(z1 z2:Nat->Nat->Int)(b1 b2:Option Addr)(d1 d2:Nat)(y1 y2:Nat->Int):Prop where
 sz:cA.size=256
 cl:∀j,j<256->MM[j]?=cA[j]?/\PG[j]?=cA[j]?/\∃v,cA[j]?=some (.int .u8 v)
 n1:MM[256]?=some (.slice a1 n c1)
 n2:PG[256]?=some (.slice a2 n c2)
 r1:mF W a1 n A1 C1 l1 z1
 r2:mF W a2 n A2 C2 l2 z2
 eq:zo9 n n l1 l2 z1 z2
 le:n<=2000/\(∀i,l1 i<=256)/\∀i,l2 i<=256
 m1:MM[257]?=some (.slice b1 m d1)
 m2:PG[257]?=some (.slice b2 m d2)
 mz1:kQ W b1 m y1
 mz2:kQ W b2 m y2
 ye:m<=2000/\∀x,x<m->y1 x=y2 x
theorem bq.tw{ts te sz:Nat}{v' u:Value}{vs:Nat->Value}{len:Nat->Nat}(h:bq w B ts te sz v M vs len xs)(ht:te≠ts)(hu:w.ownsRow B te sz u (len M) (xs M))(hs:∀i,i<M->∀b,(vs i).ownBlock=some b->u.ownBlock≠some b)
  (ho:w'.ownsRow B ts 1 v' (M+1) ((range M).map vs++[u])) (hg:w.grownBy w' v.ownBlock):bq w' B ts te sz v' (M+1) (fun j=>if j=M then u else vs j) len xs:=by
 refine⟨?_,fun i hi=>?_,fun i j hi hj hij b=>?_⟩
 ·have e:(range (M+1)).map (fun j=>if j=M then u else vs j)=(range M).map vs++[u]:=by
   rw[List.range_succ,List.map_append];congr 1
   ·refine(List.map_congr_left fun j hj=>?_);have:j<M:=(by simpa using hj);rw[if_neg (by omega)]
   simp
  rw[e];exact ho
 ·by_cases e:i=M
  ·subst e;simp only[if_pos rfl];exact qV hu hg (fun b e1 e2=>hJ hu h.own ht b e1 e2.symm)
  simp only[if_neg e];exact qV (h.row i (by omega)) hg (fun b e1 e2=>hJ (h.row i (by omega)) h.own ht b e1 e2.symm)
 by_cases e1:i=M
 ·by_cases e2:j=M
  ·omega
  simp only[if_pos e1,if_neg e2];intro e3 e4;exact hs j (by omega) b e4 e3
 by_cases e2:j=M
 ·simp only[if_neg e1,if_pos e2];exact hs i (by omega) b
 simp only[if_neg e1,if_neg e2];exact h.sep i j (by omega) (by omega) hij b
theorem ln{s:Nat}{xs:List Value}(ho:w.ownsRow B t s v n xs):∀g,v.ownBlock=some g->g<w.heap.size:=fun g e=>by
 obtain⟨c,fz,hc⟩:=qa ho g e
 exact (Array.getElem?_eq_some_iff.1 hc).1
section
variable {W0 : World}{z N C : Nat}{rp : List Nat}{vP vR : Value}{SS : List (Nat → Bool)}{vs : Nat → Value}{vN : Value}{R : List (List Int)}{ws : Nat → Value}{vO : Value}{ms : List Int}{vW : Value}{row : List Int}{w : World}
end
def ui:Value->Option Addr
 | .slice a _ _=>a
 | _=>none
def xw:Value->Nat
 | .slice _ _ c=>c
 | _=>0
theorem bq.zs{ws:Nat->Value}(h:bq w B 43 3 1 (.slice a k c) k ws (fun _=>C) (fun j=>ints (R.getD j [])))(hk:R.length=k)(hl:∀r∈R,r.length=C):
  mF w a k (fun i=>ui (ws i)) (fun i=>xw (ws i)) (fun _=>C) (fun i x=>(R.getD i []).getD x 0):=by
 intro h0;obtain⟨g,rfl,_,hg,hc⟩:=fe h.own h0;refine⟨g,0,rfl,hg,fun i hi=>?_⟩;obtain⟨ai,ci,e⟩:=bG (h.row i hi);have hr:=h.row i hi;refine⟨?_,fun h1=>?_⟩
 ·rw[zero_add,(hc i (by omega)).1];simp[hi,e,ui,xw]
 rw[e] at hr;obtain⟨g2,e2,_,Bt,iZ⟩:=fe hr h1;refine⟨g2,0,by simp[e,ui,e2],Bt,fun j hj=>?_⟩;rw[zero_add,(iZ j (by simpa using hj)).1];have me:i<R.length:=by omega
 have hj2:j<R[i].length:=by rw[hl _ (getElem_mem me)];exact hj
 simp[ints,getD_eq_getElem?_getD,me,hj2]
theorem NG{l:List Int}(h:w.ownsRow B 3 1 (.slice a n c) n (ints l))(hl:l.length=n):kQ w a n (fun i=>l.getD i 0):=by
 intro h0;obtain⟨g,rfl,_,hg,hc⟩:=fe h h0;refine⟨g,0,rfl,hg,fun j hj=>?_⟩;rw[zero_add,(hc j (by omega)).1];have hj2:j<l.length:=by omega
 simp[ints,getD_eq_getElem?_getD,hj2]
end Go.Proofs.YtiijebameffenaaGreat
