import Derived.Test.YtiijebameffenaaGreatZRefClass
import Derived.Laws.CopyRow
import Derived.Laws.ResultCell
set_option linter.all false
set_option maxHeartbeats 2000000
set_option maxRecDepth 100000
open Go.Lib (hid)
namespace Go.Proofs.YtiijebameffenaaGreat
open Go.RowKit Go.Proofs.Tryz
open List (getD_eq_getElem?_getD getElem?_append getElem?_map getElem?_range getElem?_toArray getElem_mem length_map mem_append mem_singleton range replicate take_length)
open Nat (le_refl le_trans zero_add zero_le)
open Instr (build makeFunc sureAddr)
open Or (inl inr)
open Option (map_some)
open _root_.Array (getElem?_setIfInBounds_ne getElem?_toList)
open World (news_of_block ownsRow_nil)
open Sem (run_bind run_pure)
open Result (andThen_ok)
open Value (oneCell' ownBlock)
open Act (put)
variable {B C F M Mf Mm Ms bM bm bn c g gI i j k m n t x y:Nat}{K:Nat->Lit}{L L':List En}{Ls lc nm:List Nat}{P:Program}{R:List (List Int)}{SS:List (Nat->Bool)}{a:Option Addr}{cD cs csA:Array Value}{ct ms:List Int}{ev:Operand->Value}{fv sv:Nat->Value}{mf mk:Nat->Int}{ops:Array Oper}{r:Int}{s0:Nat->Bool}{v vF vM vS:Value}{w w':World}{xs:Nat->List Value}
def qz(L:List Eg)(i:Nat):Nat->Bool:=(bI L).getD i (fun _=>false)
theorem zmt{L:List Eg}(h:w.ownsRow B 146 4 (.slice a n c) n (zw (bI L)))(hn:(bI L).length=n):kK w a n (qz L):=by
 intro h0;obtain⟨g,e,_,hg,hc⟩:=fa h (by omega);refine⟨g,0,e,hg,fun i hi=>?_⟩;have sE:i<(bI L).length:=by omega
 have AW:qz L i=(bI L)[i]:=by simp[qz,getD_eq_getElem?_getD,List.getElem?_eq_getElem sE]
 have rd:∀j,j<4->w.cell? ⟨g,i*4+j,none⟩=(ix (qz L i))[j]?:=fun j hj=>by rw[(hc _ (by omega)).1,zn5 _ i sE j hj,AW]
 simp only[zero_add];exact⟨rd 0 (by omega),rd 1 (by omega),rd 2 (by omega),rd 3 (by omega)⟩
open Go.Maps Go.WideElems Go.ChangeMaps Go.MapKept
def di(L:List En):Nat->Lit:=iZ (qz (L.map En.z)) (bI (L.map En.z)).length
def T4(K:Nat->Lit)(w:World)(e:Ending)(w':World):Prop:=
 ∃(b7 b8 bL:Nat) (aR:Option Addr) (cR:Nat),e=.returned (.func (.func 170) #[] #[.pointer (some ⟨b8,0,none⟩),.pointer (some ⟨b7,0,none⟩)])/\(∀P,uL w.heap.size b7 b8 bL 0 (rl K 256) aR cR P [] w')/\Below w.heap.size w w'/\w.heap.size<=bL
theorem zkJ(K:Nat->Lit)(bn:Nat)(cs:Array Value)(w:World)(h:Gi w w.heap.size bn K cs):Calls prog 151 #[.pointer (some ⟨bn,0,none⟩)] w (T4 K w):=by
 have HF:=hid (Zh K w.heap.size bn cs w h);have zd:∀(fn:Fn) (first cap:Array Value) (w:World),(makeFunc fn first cap).run prog w=.ok (.func fn first cap) w:=fun _ _ _ _=>rfl
 have iD:=@run_makeMap prog;clear h;go_enter func151,ntmps151;go_wp2_with fail;refine HF.out.mono ?_;rintro e w2 ⟨a,c,rfl,hO,hB⟩;have HZ:Hid (T4 K w (.returned (.func (.func 170) #[] #[.pointer (some ⟨w2.heap.size+1+1,0,none⟩),.pointer (some ⟨w2.heap.size,0,none⟩)])) (((w2.alloc (.cells #[.slice a (cH K 256) c] 76)).alloc (.map #[] 0)).alloc (.cells #[.map (some (w2.heap.size+1))] 219))):=by
  have k1:=al w2 (.cells #[.slice a (cH K 256) c] 76);have k2:=al (w2.alloc (.cells #[.slice a (cH K 256) c] 76)) (.map #[] 0);have k3:=al ((w2.alloc (.cells #[.slice a (cH K 256) c] 76)).alloc (.map #[] 0)) (.cells #[.map (some (w2.heap.size+1))] 219);have hlen:(rl K 256).length=cH K 256:=yO K 256;have hs:=hB.size;refine⟨w2.heap.size,w2.heap.size+1+1,w2.heap.size+1,a,c,rfl,fun P=>⟨?_,?_,?_,?_,fun d hd=>by simp at hd,⟨by omega,by simp;omega⟩,fun x hx=>?_⟩,?_,by omega⟩
  ·rw[hlen];exact ((St.new w2 _ _).aa k2).aa k3
  ·have:=St.new ((w2.alloc (.cells #[.slice a (cH K 256) c] 76)).alloc (.map #[] 0)) 219 #[.map (some (w2.heap.size+1))];simpa using this
  ·rw[hlen];exact dr (dr (dr hO k1) k2) k3
  ·have h1:aD ((w2.alloc (.cells #[.slice a (cH K 256) c] 76)).alloc (.map #[] 0)) 146 (w2.heap.size+1) 0 (LQ (rl K 256) []):=by
    have:=aD.made (w2.alloc (.cells #[.slice a (cH K 256) c] 76)) 146 (LQ (rl K 256) []) (fun x y ⟨d,hd,_⟩=>by simp at hd);simpa using this
   exact h1.same (k3.block _ h1.lt)
  ·obtain⟨c,hc,rfl⟩:=List.getElem_of_mem hx;exact (VF K 256 c hc).2
  exact ((hB.trans (k1.mono hs)).trans (k2.mono (by simp;omega))).trans (k3.mono (by simp;omega))
 clear hO hB;go_wp2;go_ret;exact HZ.out
def vA(v:Value):Option Addr:=match v with|.slice a _ _=>a|_=>none
def vC(v:Value):Nat:=match v with|.slice _ _ c=>c|_=>0
theorem gz.first(h:gz B bn Mm Mf Ms cs ct vM vF vS fv sv xs L w)(u:Value):
  gz B bn Mm Mf Ms (cs.setIfInBounds 256 u) ct vM vF vS fv sv xs L (w.setCell ⟨bn,256,none⟩ u)/\il B bn (lx bn Mf Ms vM vF vS fv sv) (lx bn Mf Ms vM vF vS fv sv) w (w.setCell ⟨bn,256,none⟩ u):=by
 have hk:Kept [] [bn] w (w.setCell ⟨bn,256,none⟩ u):=(Kept.refl _ _ _).setCell _ _ (inl (by simp));have hne:∀{t s n:Nat}{v:Value}{ys:List Value},w.ownsRow B t s v n ys->t≠165->∀b,v.ownBlock=some b->b∉[bn]:=fun ho ht b e hm=>dH ho h.sn ht b e (List.mem_singleton.1 hm)
 refine⟨⟨?_,by simp[h.sz],fu h.om hk (by simp) (hne h.om (by decide)),h.fr.kept hk (hne h.fr.own (by decide)) (fun i hi=>hne (h.fr.row i hi) (by decide)),h.st.kept hk (hne h.st.own (by decide)) (fun i hi=>hne (h.st.row i hi) (by decide)),h.sep,⟨h.lo.1,by simpa [World.size_setCell] using h.lo.2⟩,h.hE,h.hx⟩,
  ⟨⟨[bn],hk,fun x hx=>inl (inl (List.mem_singleton.1 hx))⟩,fun x hx=>inl hx,(Below.refl _ _).setCell (p:=⟨bn,256,none⟩) h.lo.1 u⟩⟩
 have:=h.sn.set 256 u;rwa [Array.setIfInBounds_comm vS u (by decide),Array.setIfInBounds_comm vF u (by decide),Array.setIfInBounds_comm vM u (by decide)] at this
theorem gz.net{P:Nat->Prop}{cl:(Nat->Bool)->List Nat}(h:gz B bn M M M cs ct vM vF vS fv sv xs L w)(hM:0<M)(hr:∀i,i<M->tG w P cl (cq L i) (xs i))(iP:∀i,i<M->ct[i]?=some (mk i)):
  ∃gM cM gF cF gS cS,lf w w.heap.size bn gF M cF (fun i=>vA (fv i)) (fun i=>vC (fv i)) L/\oo w w.heap.size bn gS M cS (fun i=>vA (sv i)) (fun i=>vC (sv i)) cl L/\kr w w.heap.size bn gM M cM mk:=by
 obtain⟨aM,cM,rfl⟩:=bE h.om;obtain⟨aF,cF,rfl⟩:=bE h.fr.own;obtain⟨aS,cS,rfl⟩:=bE h.st.own;obtain⟨gM,rfl,_,rR,hcM⟩:=fa h.om hM;obtain⟨gF,rfl,_,Qa,Qc⟩:=fa h.fr.own hM;obtain⟨gS,rfl,_,xn,Kr⟩:=fa h.st.own hM;obtain⟨c0,c1,c2⟩:=h.cells;have aZ:=h.sn.lt;refine⟨gM,cM,gF,cF,gS,cS,⟨⟨aZ,Qa⟩,c1,fun i hi=>?_,fun i hi h0=>?_⟩,⟨⟨aZ,xn⟩,c2,fun i hi=>?_,fun i hi h0=>?_⟩,⟨⟨aZ,rR⟩,c0,fun i hi=>?_⟩⟩
 ·rw[(Qc i (by omega)).1];obtain⟨a,c,e⟩:=bE (h.fr.row i hi);simp[hi,e,vA,vC]
 ·have ho:=h.fr.row i hi;obtain⟨a,c,e⟩:=bE ho;rw[e] at ho;obtain⟨g,rfl,_,hg,hc⟩:=fa ho h0;refine⟨g,0,by simp[e,vA],hg,fun j hj=>?_⟩;rw[zero_add,(hc j (by omega)).1,AD _ j hj]
 ·rw[(Kr i (by omega)).1];obtain⟨a,c,e⟩:=bE (h.st.row i hi);simp[hi,e,vA,vC]
 ·have ho:=h.st.row i hi;obtain⟨a,c,e⟩:=bE ho;rw[e] at ho;obtain⟨g,rfl,_,hg,hc⟩:=fa ho h0;refine⟨g,0,by simp[e,vA],hg,fun k hk=>?_⟩;obtain⟨a',c',h1,h2,h3⟩:=(hr i hi).2 k hk;refine⟨a',c',by rw[zero_add,(hc (k*2) (by omega)).1,h1],by rw[zero_add,(hc (k*2+1) (by omega)).1,h2],fun h4=>?_⟩;obtain⟨g',off,e1,e2,_,e3⟩:=h3 h4;exact⟨g',off,e1,e2,e3⟩
 rw[(hcM i (by omega)).1];simp only[ints,getElem?_map,iP i hi,map_some]
theorem E7(w:World)(p:Addr)(u:Value)(h:g≠p.block):(w.setCell p u).cell? ⟨g,i,none⟩=w.cell? ⟨g,i,none⟩:=by
 have e:=Below.heap_setCell w p u g h;simp only[World.cell?,e]
theorem Ku(cs:Array Value)(i:Nat)(v:Value)(h:cs[i]?=some v):cs.setIfInBounds i v=cs:=by
 apply Array.ext_getElem?;intro j;by_cases e:i=j
 ·subst e;rw[Array.getElem?_setIfInBounds_self_of_lt (Array.getElem?_eq_some_iff.1 h).1,h]
 rw[getElem?_setIfInBounds_ne e]
theorem uL.base{B' b7 b8 bL:Nat}{lr:List Nat}{aR:Option Addr}{cR:Nat}{P:Nat->Prop}{DL:List ((Nat->Bool) × Option Addr × Nat)}(h:uL B' b7 b8 bL n lr aR cR P DL w)(hb:B<=B'):uL B b7 b8 bL n lr aR cR P DL w:=
 ⟨h.s7,h.s8,jL h.row hb,h.map,h.at_,⟨le_trans hb h.lo.1,le_trans hb h.lo.2⟩,h.lr⟩
theorem sw.first{V:World}{b3 b5 b6:Nat}{fn:Value}(h:sw V B bn b3 b5 b6 bM fn mf nm cs vM vF vS fv sv xs L w)(u:Value):
  sw V B bn b3 b5 b6 bM fn mf nm (cs.setIfInBounds 256 u) vM vF vS fv sv xs L (w.setCell ⟨bn,256,none⟩ u):=by
 obtain⟨h1,h2⟩:=h.n.first u
 exact⟨h1,h.sM.fD h.n.sn (by decide) _ _,h.sT.fD h.n.sn (by decide) _ _,h.sF.fD h.n.sn (by decide) _ _,h.map.set h.n.sn,h.nd,h.le,h.bM,h.aJ.trans h2.below⟩
theorem sw.start(V w3:World)(B b3:Nat)(fn:Value)(mf:Nat->Int)(cN:Array Value)(hb:Below B V w3)(hB:B<=w3.heap.size)(h3:St w3 137 b3 #[fn])(hs:cN.size=260)(h7:cN[257]?=some (.slice none 0 0))(h8:cN[258]?=some (.slice none 0 0))(h9:cN[259]?=some (.slice none 0 0)):
  sw V B w3.heap.size b3 (w3.heap.size+1) (w3.heap.size+1+1+1) (w3.heap.size+1+1) fn mf [] cN (.slice none 0 0) (.slice none 0 0) (.slice none 0 0) (fun _=>.slice none 0 0) (fun _=>.slice none 0 0) (fun _=>[]) []
   ((((w3.alloc (.cells cN 165)).alloc (.cells #[.pointer (some ⟨w3.heap.size,0,none⟩)] 160)).alloc (.map #[] 0)).alloc (.cells #[.map (some (w3.heap.size+1+1))] 191)):=by
 have k1:=al w3 (.cells cN 165);have k2:=al (w3.alloc (.cells cN 165)) (.cells #[.pointer (some ⟨w3.heap.size,0,none⟩)] 160);have k3:=al ((w3.alloc (.cells cN 165)).alloc (.cells #[.pointer (some ⟨w3.heap.size,0,none⟩)] 160)) (.map #[] 0);have k4:=al (((w3.alloc (.cells cN 165)).alloc (.cells #[.pointer (some ⟨w3.heap.size,0,none⟩)] 160)).alloc (.map #[] 0)) (.cells #[.map (some (w3.heap.size+1+1))] 191);have e0:((cN.setIfInBounds 257 (.slice none 0 0)).setIfInBounds 258 (.slice none 0 0)).setIfInBounds 259 (.slice none 0 0)=cN:=by rw[Ku cN 257 _ h7,Ku cN 258 _ h8,Ku cN 259 _ h9]
 refine⟨⟨?_,hs,ownsRow_nil _ _ _ _,⟨ownsRow_nil _ _ _ _,fun i hi=>by simp at hi,fun i j hi=>by simp at hi⟩,⟨ownsRow_nil _ _ _ _,fun i hi=>by simp at hi,fun i j hi=>by simp at hi⟩,fun i hi=>by simp at hi,⟨hB,by simp;omega⟩,fun e he=>by simp at he,fun i hi=>rfl⟩,?_,?_,?_,?_,List.nodup_nil,fun x hx=>by simp at hx,by omega,?_⟩
 ·rw[e0];exact (((St.new w3 165 cN).aa k2).aa k3).aa k4
 ·have:=St.new (((w3.alloc (.cells cN 165)).alloc (.cells #[.pointer (some ⟨w3.heap.size,0,none⟩)] 160)).alloc (.map #[] 0)) 191 #[.map (some (w3.heap.size+1+1))];simpa using this
 ·have:=((St.new (w3.alloc (.cells cN 165)) 160 #[.pointer (some ⟨w3.heap.size,0,none⟩)]).aa k3).aa k4;simpa using this
 ·exact (((h3.aa k1).aa k2).aa k3).aa k4
 ·have h1:aD (((w3.alloc (.cells cN 165)).alloc (.cells #[.pointer (some ⟨w3.heap.size,0,none⟩)] 160)).alloc (.map #[] 0)) 3 (w3.heap.size+1+1) 0 (yu []):=by
   have:=aD.made ((w3.alloc (.cells cN 165)).alloc (.cells #[.pointer (some ⟨w3.heap.size,0,none⟩)] 160)) 3 (yu []) (fun x y ⟨k,s,h,_⟩=>by simp at h);simpa using this
  exact h1.same (k4.block _ h1.lt)
 exact (((hb.trans (k1.mono hB)).trans (k2.mono (by simp;omega))).trans (k3.mono (by simp;omega))).trans (k4.mono (by simp;omega))
theorem gz.cl(h:gz B bn Mm Mf Ms cs ct vM vF vS fv sv xs L w)(hs:csA.size=256)(hv:∀j,j<256->csA[j]?=some (.int .u8 ((cls K j:Nat):Int)))(hc:∀j,j<256->cs[j]?=csA[j]?):Gi w w.heap.size bn K csA:=
 ⟨h.sn.lt,hs,hv,fun j v hj=>by
  have hj2:j<256:=by
   have:=(List.getElem?_eq_some_iff.1 hj).1
   simpa [hs] using this
  have e:(⟨bn,0,none⟩:Addr).add j=⟨bn,j,none⟩:=by unfold Addr.add;split <;> simp_all
  rw[e,h.sn.at_,getElem?_setIfInBounds_ne (by omega),getElem?_setIfInBounds_ne (by omega),getElem?_setIfInBounds_ne (by omega),hc j hj2,<-getElem?_toList,hj]⟩
theorem zdN{o:Oper}(hg:o.guard=none)(ty:TypeId)(x:Operand)(ho:o.op=.load ty x)(ad:Addr)(hx:ev x=.pointer (some ad))(cs:Array Value)(d:TypeDesc)(w:World)(hc:∀j v,cs.toList[j]?=some v->w.cell? (ad.add j)=some v)
  (hu:P.underlying ty=some d) (hd:(match d with|.struct _|.array _ _=>true|_=>false)=true) (hi:(P.info? ty).map (·.size)=some cs.size):(execOp ev o).run P w=.ok (.value (.agg cs)) w:=by
 unfold execOp;simp only[ho,hx,Instr.loadAt,sureAddr,run_bind,run_pure,andThen_ok,GH w ad ty cs d hc hu hd hi]
theorem Ps{o:Oper}(hg:o.guard=none)(t:TypeId)(parts:Array (Nat × Operand))(ho:o.op=.build t parts)(ps:Array (Nat × Value))(hp:(parts.map fun (i,x)=>(i,ev x))=ps)(v:Value)(hb:(build t ps).run P w=.ok v w):(execOp ev o).run P w=.ok (.value v) w:=by
 unfold execOp;simp only[ho,hp,run_bind,hb,andThen_ok,run_pure]
theorem zkK(N:Nat)(hN:N<=2147483647)(W:World):(Instr.makeSlice 76 (.int .i64 (N:Int)) (.int .i64 (N:Int))).run prog W=.ok (.slice (some ⟨W.heap.size,0,none⟩) N N) (W.alloc (.cells (madeCells #[.int .u8 0] N) 5)):=by
 have:=run_make_row' (P:=prog) 76 5 (.int .u8 0) 1 underlying76 jr rfl .i64 .i64 N (by omega) (by omega) W;simpa using this
theorem Vm{cK:Array Value}(hw:Below B w w')(hB:B<=w'.heap.size)(hm:St w' 168 bm cK)(hi:w'.ownsRow B 5 1 (.slice (some ⟨gI,0,none⟩) m m) m (replicate m (.int .u8 0)))(hM:aD w' 9 bM 0 (MQ M []))
  (fq:∀j,j<256->csA[j]?=some (.int .u8 ((cls K j:Nat):Int)))
  (hc:cK.size=263/\cK[0]?=some (.pointer (some ⟨bn,0,none⟩))/\(∀j,j<256->cK[1+j]?=csA[j]?)/\cK[257]?=some (.slice none 0 0)/\cK[258]?=some (.slice none 0 0)/\cK[259]?=some (.slice none 0 0)/\cK[260]?=some (.map (some bM))/\cK[261]?=some (.slice (some ⟨gI,0,none⟩) m m)/\cK[262]?=some (.slice none 0 0))
  (h1:B<=bm) (h2:B<=gI) (h3:B<=bM):la B bm gI bM m M C bn K L mk [] [] [] [] 0 cK [] (.slice none 0 0) (.slice none 0 0) (.slice none 0 0) (.slice none 0 0) [] w':=by
 obtain⟨z,c0,cc,c7,c8,c9,c10,c11,Ze⟩:=hc;refine⟨⟨⟨Kept.refl _ _ _,Below.refl _ _,by rw[Ku cK 262 _ Ze];exact hm,z,c11,?_,ownsRow_nil _ _ _ _,fun b e=>by simp[ownBlock] at e,⟨by simp[im],by simp[im]⟩,h1,h2,hB⟩,List.nodup_nil,fun x hx=>by simp at hx⟩,
  ⟨c8,c9,c10,ownsRow_nil _ _ _ _,ownsRow_nil _ _ _ _,hM,fun b e=>by simp[ownBlock] at e,fun b e=>by simp[ownBlock] at e,fun b e=>by simp[ownBlock] at e,by simp[im],h3⟩,
  ⟨fun j hj=>by simp at hj,fun p hp=>by simp at hp,rfl,fun j hj=>by simp at hj⟩,⟨ownsRow_nil _ _ _ _,rfl,fun i hi=>by simp at hi⟩,c0,c7,fun j hj=>by rw[cc j hj];exact fq j hj,le_refl _⟩
 rw[show (fun x=>decide (x∈([]:List Nat)))=fun _=>false from by funext x;simp,O3];exact hi
def Cl(B m M C bn:Nat)(K:Nat->Lit)(L:List En)(mk:Nat->Int)(w:World)(e:Ending)(w':World):Prop:=
 ∃(bm gI bM:Nat) (cK:Array Value),e=.returned (.pointer (some ⟨bm,0,none⟩))/\la B bm gI bM m M C bn K L mk [] [] [] [] 0 cK [] (.slice none 0 0) (.slice none 0 0) (.slice none 0 0) (.slice none 0 0) [] w'/\Below B w w'
theorem zfV(K:Nat->Lit)(L:List En)(mk:Nat->Int)(csA:Array Value)(bn gM M cM m C:Nat)(w:World)(h:Gi w w.heap.size bn K csA)(hM:w.cell? ⟨bn,257,none⟩=some (.slice (some ⟨gM,0,none⟩) M cM))(JV:M<=12900)(hm:(M+7) / 8=m):
  Calls prog 117 #[.pointer (some ⟨bn,0,none⟩)] w (Cl w.heap.size m M C bn K L mk w):=by
 have eG:(prog.info? 98).map (·.size)=some csA.size:=by rw[h.sz];kernel_rfl
 obtain⟨cD,hDs,hD,ve⟩:=zmj csA h.sz;have rm:=zkK m (by omega);have iD:=@run_makeMap prog;have hq:Int.tdiv ((M:Int)+7) 8=(m:Int):=by rw[Int.tdiv_eq_ediv_of_nonneg (by omega),<-hm];omega
 have BB:IntKind.i64.wrap ((M:Int)+7)=(M:Int)+7:=IntWalk.i64_in _ (by omega);have bK:IntKind.i64.wrap (m:Int)=m:=IntWalk.i64_in _ (by omega);have H:=hid h;have aZ:=h.fU;have dC:=hid (fun (W':World) (k:Below w.heap.size w W')=>(⟨fun j v hj=>(by
   have e:(⟨bn,0,none⟩:Addr).add j=⟨bn,j,none⟩:=by unfold Addr.add;split <;> simp_all
   have h2:=h.at_ j v hj
   rw[e] at h2⊢
   exact (k.cell (p:=⟨bn,j,none⟩) aZ).trans h2),(k.cell (p:=⟨bn,257,none⟩) aZ).trans hM⟩:
  (∀j v,csA.toList[j]?=some v->W'.cell? ((⟨bn,0,none⟩:Addr).add j)=some v)/\W'.cell? ⟨bn,257,none⟩=some (.slice (some ⟨gM,0,none⟩) M cM)))
 have mI:∀(W:World),w.heap.size<=W.heap.size->(W.alloc (.cells (madeCells #[.int .u8 0] m) 5)).ownsRow w.heap.size 5 1 (.slice (some ⟨W.heap.size,0,none⟩) m m) m (replicate m (.int .u8 0)):=fun W hW=>Ca W w.heap.size m 5 (.int .u8 0) hW (by unfold maxLen;omega)
 have HBa:Below w.heap.size w ((w.alloc (.map #[] 0)).alloc (.cells (madeCells #[.int .u8 0] m) 5)).drew:=((al w _).trans ((al _ _).mono (by simp))).drew;have Vk:Below w.heap.size w ((w.alloc (.cells (madeCells #[.int .u8 0] m) 5)).alloc (.map #[] 0)).drew:=((al w _).trans ((al _ _).mono (by simp))).drew;have BQ:∀cK:Array Value,Below w.heap.size w (((w.alloc (.map #[] 0)).alloc (.cells (madeCells #[.int .u8 0] m) 5)).alloc (.cells cK 168)).drew:=fun cK=>(((al w _).trans ((al _ _).mono (by simp))).trans ((al _ _).mono (by simp;omega))).drew
 have BY:∀cK:Array Value,Below w.heap.size w (((w.alloc (.cells (madeCells #[.int .u8 0] m) 5)).alloc (.map #[] 0)).alloc (.cells cK 168)).drew:=fun cK=>(((al w _).trans ((al _ _).mono (by simp))).trans ((al _ _).mono (by simp;omega))).drew
 have mM:∀(W:World),aD (W.alloc (.map #[] 0)) 9 W.heap.size 0 (MQ M []):=fun W=>aD.made W 9 (MQ M []) (fun x y ⟨p,hp,_⟩=>by simp at hp)
 have HFa:∀cK:Array Value,(cK.size=263/\cK[0]?=some (.pointer (some ⟨bn,0,none⟩))/\(∀j,j<256->cK[1+j]?=csA[j]?)/\cK[257]?=some (.slice none 0 0)/\cK[258]?=some (.slice none 0 0)/\cK[259]?=some (.slice none 0 0)/\cK[260]?=some (.map (some w.heap.size))/\cK[261]?=some (.slice (some ⟨w.heap.size+1,0,none⟩) m m)/\cK[262]?=some (.slice none 0 0))->
   Hid (Cl w.heap.size m M C bn K L mk w (.returned (.pointer (some ⟨w.heap.size+1+1,0,none⟩))) (((w.alloc (.map #[] 0)).alloc (.cells (madeCells #[.int .u8 0] m) 5)).alloc (.cells cK 168)).drew):=fun cK hc=>by
  have k3:=al ((w.alloc (.map #[] 0)).alloc (.cells (madeCells #[.int .u8 0] m) 5)) (.cells cK 168)
  refine⟨w.heap.size+1+1,w.heap.size+1,w.heap.size,cK,rfl,Vm (csA:=csA) (BQ cK) (by simp;omega) ?_ ?_ ?_ H.out.val hc (by omega) (by omega) (le_refl _),BQ cK⟩
  ·have:=(St.new ((w.alloc (.map #[] 0)).alloc (.cells (madeCells #[.int .u8 0] m) 5)) 168 cK).drew
   simpa using this
  ·have:=dr (mI (w.alloc (.map #[] 0)) (by simp)) (k3.drew)
   simpa using this
  ·exact (mM w).same (((al (w.alloc (.map #[] 0)) _).trans (k3.mono (by simp))).drew.block _ (by simp))
 have Y7:∀cK:Array Value,(cK.size=263/\cK[0]?=some (.pointer (some ⟨bn,0,none⟩))/\(∀j,j<256->cK[1+j]?=csA[j]?)/\cK[257]?=some (.slice none 0 0)/\cK[258]?=some (.slice none 0 0)/\cK[259]?=some (.slice none 0 0)/\cK[260]?=some (.map (some (w.heap.size+1)))/\cK[261]?=some (.slice (some ⟨w.heap.size,0,none⟩) m m)/\cK[262]?=some (.slice none 0 0))->
   Hid (Cl w.heap.size m M C bn K L mk w (.returned (.pointer (some ⟨w.heap.size+1+1,0,none⟩))) (((w.alloc (.cells (madeCells #[.int .u8 0] m) 5)).alloc (.map #[] 0)).alloc (.cells cK 168)).drew):=fun cK hc=>by
  have k3:=al ((w.alloc (.cells (madeCells #[.int .u8 0] m) 5)).alloc (.map #[] 0)) (.cells cK 168)
  refine⟨w.heap.size+1+1,w.heap.size,w.heap.size+1,cK,rfl,Vm (csA:=csA) (BY cK) (by simp;omega) ?_ ?_ ?_ H.out.val hc (by omega) (le_refl _) (by omega),BY cK⟩
  ·have:=(St.new ((w.alloc (.cells (madeCells #[.int .u8 0] m) 5)).alloc (.map #[] 0)) 168 cK).drew
   simpa using this
  ·exact dr (mI w (le_refl _)) ((al _ _).trans (k3.mono (by simp))).drew
  ·have:=(mM (w.alloc (.cells (madeCells #[.int .u8 0] m) 5))).same (k3.drew.block _ (by simp))
   simpa using this
 clear h hM;go_enter func117,ntmps117;go_upto_region 1 with fail;refine wp_region_held_drew (S:=fun W'=>(∀j v,csA.toList[j]?=some v->W'.cell? ((⟨bn,0,none⟩:Addr).add j)=some v)/\W'.cell? ⟨bn,257,none⟩=some (.slice (some ⟨gM,0,none⟩) M cM)) (by kernel_rfl) (dC.out _ (Below.refl _ _).drew) (fun hHeld=>?_)
 (refine ak 0 ?_;refine ak 1 ?_;refine ak 2 ?_;try simp only[put,sA,sB,sC];refine ak 3 ?_)
 (refine ak 4 (v:=(.agg csA)) ?_ (hy:=by intro wz hSw;exact zdN rfl 98 _ rfl ⟨bn,0,none⟩ (by rfl) csA (.array 256 5) wz hSw.1 underlying98 rfl eG);try simp only[put,sA,sB,sC])
 (refine wpAnyH_take (i:=5) (oi:=?_) (v:=(.agg cD)) ?_ (by kernel_rfl) (by kernel_rfl) (by kernel_rfl) ?_ (inl ⟨?_,?_⟩) (by assumption) ?_;rotate_left 1;(focus ((simp only[getElem?_toArray,List.getElem?_cons_succ,List.getElem?_cons_zero]);first|done|rfl));(focus (exact fun _ _ _ h=>h));(focus rfl);(focus (intro wz hSw;exact Ps rfl 101 _ rfl #[(0,.agg csA)] (by first|kernel_rfl|(go_simp;done)) (.agg cD) (hD wz)));try simp only[put,sA,sB,sC])
 (refine ak 7 ?_;refine ak 8 ?_;refine ak 9 ?_;try simp only[put,sA,sB,sC];refine ak 10 ?_;refine ak 11 ?_;refine ak 12 ?_;try simp only[put,sA,sB,sC];refine ak 13 ?_;try simp only[put,sA,sB,sC])
 refine wpAnyH_ready (rs:=[6,14]) (by kernel_rfl) (by simp) ?_;refine ik (fun K hK=>?_) ?_
 ·skip;go_simp;refine hK.out _ _ (dC.out _ (al w _).drew) (fun hHeld=>?_);clear hK K
  try simp only[put,sA,sB,sC]
  refine bc 14 (fun K hK=>?_);skip;go_simp;refine hK.out _ _ (dC.out _ HBa) (fun hHeld=>?_);clear hK K
  try simp only[put,sA,sB,sC]
  obtain⟨cK,ob⟩:=ve bn w.heap.size (w.heap.size+1) m;have kE:=BQ cK;have HF:=HFa cK ⟨ob.1,ob.2.1,ob.2.2.1,ob.2.2.2.1,ob.2.2.2.2.1,ob.2.2.2.2.2.1,ob.2.2.2.2.2.2.1,ob.2.2.2.2.2.2.2.1,ob.2.2.2.2.2.2.2.2.1⟩
  (refine wpAnyH_take (i:=15) (oi:=?_) (v:=(.agg cK)) ?_ (by kernel_rfl) (by kernel_rfl) (by kernel_rfl) ?_ (inl ⟨?_,?_⟩) (by assumption) ?_;rotate_left 1;(focus ((simp only[getElem?_toArray,List.getElem?_cons_succ,List.getElem?_cons_zero]);first|done|rfl));(focus (exact fun _ _ _ h=>h));(focus rfl);(focus (intro wz hSw;exact Ps rfl 168 _ rfl #[(0,.pointer (some ⟨bn,0,none⟩)),(1,.agg cD),(3,.map (some (w.heap.size))),(4,.slice (some ⟨w.heap.size+1,0,none⟩) m m)] (by first|kernel_rfl|(go_simp;done)) (.agg cK) (ob.2.2.2.2.2.2.2.2.2 wz)));try simp only[put,sA,sB,sC])
  refine bc 16 (fun K hK=>?_);skip;go_simp;refine hK.out _ _ (dC.out _ kE) (fun hHeld=>?_);clear hK K
  try simp only[put,sA,sB,sC]
  (refine ak 17 ?_;try simp only[put,sA,sB,sC])
  refine wpAnyH_done (by kernel_rfl) ?_ _;clear hHeld;go_wp2;go_ret;exact HF.out
 refine ik (fun K hK=>?_) ?_
 ·skip;go_simp;refine hK.out _ _ (dC.out _ (al w _).drew) (fun hHeld=>?_);clear hK K
  try simp only[put,sA,sB,sC]
  refine bc 6 (fun K hK=>?_);skip;go_simp;refine hK.out _ _ (dC.out _ Vk) (fun hHeld=>?_);clear hK K
  try simp only[put,sA,sB,sC]
  obtain⟨cK,ob⟩:=ve bn (w.heap.size+1) w.heap.size m;have kE:=BY cK;have HF:=Y7 cK ⟨ob.1,ob.2.1,ob.2.2.1,ob.2.2.2.1,ob.2.2.2.2.1,ob.2.2.2.2.2.1,ob.2.2.2.2.2.2.1,ob.2.2.2.2.2.2.2.1,ob.2.2.2.2.2.2.2.2.1⟩
  (refine wpAnyH_take (i:=15) (oi:=?_) (v:=(.agg cK)) ?_ (by kernel_rfl) (by kernel_rfl) (by kernel_rfl) ?_ (inl ⟨?_,?_⟩) (by assumption) ?_;rotate_left 1;(focus ((simp only[getElem?_toArray,List.getElem?_cons_succ,List.getElem?_cons_zero]);first|done|rfl));(focus (exact fun _ _ _ h=>h));(focus rfl);(focus (intro wz hSw;exact Ps rfl 168 _ rfl #[(0,.pointer (some ⟨bn,0,none⟩)),(1,.agg cD),(3,.map (some (w.heap.size+1))),(4,.slice (some ⟨w.heap.size,0,none⟩) m m)] (by first|kernel_rfl|(go_simp;done)) (.agg cK) (ob.2.2.2.2.2.2.2.2.2 wz)));try simp only[put,sA,sB,sC])
  refine bc 16 (fun K hK=>?_);skip;go_simp;refine hK.out _ _ (dC.out _ kE) (fun hHeld=>?_);clear hK K
  try simp only[put,sA,sB,sC]
  (refine ak 17 ?_;try simp only[put,sA,sB,sC])
  refine wpAnyH_done (by kernel_rfl) ?_ _;clear hHeld;go_wp2;go_ret;exact HF.out
 exact AllReadyH.nil
theorem mX(w:World):(zeroValue 101).run prog w=.ok (.agg (zC 101)) w:=by kernel_rfl
theorem Dy:∀v∈(zC 101).toList,v.oneCell'=true:=by
 have h:(zC 101).toList.all (fun v=>v.oneCell')=true:=by kernel_rfl
 exact fun v hv=>List.all_eq_true.1 h v hv
theorem gO:(prog.info? 101).map (·.size)=some 258:=by kernel_rfl
theorem Na(w:World):(build 101 #[]).run prog w=.ok (.agg (zC 101)) w:=run_build w _ _ _ (by kernel_rfl)
theorem rq{rest:List Oper}{o:Oper}{a:Act}{Q:Exit->Act->World->Prop}(pV:o.guard=none)(t:TypeId)(ho:o.op=.alloc t)(cs:Array Value)(hz:(zeroValue t).run P w=.ok (.agg cs) w)
  (h:wpList P ops Q rest (a.put o.dst (.pointer (some ⟨w.heap.size,0,none⟩))) (w.alloc (.cells cs t))):wpList P ops Q (o :: rest) a w:=
 wpList_plain pV fun _ hK=>by
  unfold Oper.wp execOp
  simp only[ho,Instr.alloc,run_bind,hz,andThen_ok,newVar,newRow,newObj,Value.cells]
  exact hK _ _ h
theorem ph{rest:List Oper}{o:Oper}{a:Act}{Q:Exit->Act->World->Prop}(pV:o.guard=none)(ty:TypeId)(x v:Operand)(ho:o.op=.store ty x v)(g t:Nat)(kz cs:Array Value)(hx:a.eval x=.pointer (some ⟨g,0,none⟩))(hv:a.eval v=.agg cs)
  (dE:w.heap[g]?=some (.cells kz t (0,0))) (dp:kz.size=cs.size) (hi:(P.info? ty).map (·.size)=some cs.size) (h1:∀u∈cs.toList,u.oneCell'=true) (h:wpList P ops Q rest (a.put o.dst undef) (w.setRow g cs)):wpList P ops Q (o :: rest) a w:=by
 have bS:(storeVar ty ⟨g,0,none⟩ (.agg cs)).run P w=.ok () (w.setRow g cs):=by
  have hs:(sizeOf ty).run P w=.ok cs.size w:=by
   cases hq:P.info? ty with
   | none=>simp[hq] at hi
   | some inf=>
    have:inf.size=cs.size:=(by simpa [hq] using hi);simp[sizeOf,typeInfo,hq,this]
  have:=run_storeCells_at (P:=P) g 0 t cs.toList 0 kz w dE (by simp[dp]) h1;unfold storeVar;simp only[run_bind,hs,andThen_ok];rw[if_neg (show ¬((Value.agg cs).cells.size≠cs.size) from fun h=>h rfl)];show (storeCells ⟨g,0,none⟩ cs.toList).run P w=_;rw[this];congr 2;have hd:List.drop cs.size kz.toList=[]:=List.drop_of_length_le (by simp[dp]);simp[hd]
 exact wpList_plain pV fun _ hK=>by
  unfold Oper.wp execOp;simp only[ho,hx,hv,Instr.storeAt,sureAddr,run_bind,run_pure,andThen_ok,bS];exact hK _ _ h
theorem St.setRow{kz:Array Value}(h:St w t g kz):St (w.setRow g cs) t g cs:=setRow_heap w g kz cs t (0,0) h
theorem mT(h:Below B w w')(hg:B<=g)(cs:Array Value):Below B w (w'.setRow g cs):=
 ⟨h.os,h.tape,h.output,by rw[setRow_size];exact h.size,fun k hk=>by rw[setRow_other w' g k cs (by omega)];exact h.block k hk⟩
theorem CY{fn:Func}{p u:Tmp}{ty:TypeId}(h:fn.results=#[.cell p ty,.tmp u])(tmps:Array Value)(w:World)(g:Nat)(cs:Array Value)(d:TypeDesc)(hp:tmps.getD p undef=.pointer (some ⟨g,0,none⟩))(hc:∀j v,cs.toList[j]?=some v->w.cell? ((⟨g,0,none⟩:Addr).add j)=some v)
  (hu:P.underlying ty=some d) (hd:(match d with|.struct _|.array _ _=>true|_=>false)=true) (hi:(P.info? ty).map (·.size)=some cs.size):
  (results fn tmps).run P w=.ok (.tuple #[.agg cs,tmps.getD u undef]) w:=by
 rw[results_cell_tmp h,hp];have h1:(asAddr (.pointer (some ⟨g,0,none⟩))).run P w=.ok ⟨g,0,none⟩ w:=by rfl
 rw[h1,andThen_ok,GH w ⟨g,0,none⟩ ty cs d hc hu hd hi,andThen_ok]
theorem St.part(h:St w t g cs):∀j v,cs.toList[j]?=some v->w.cell? ((⟨g,0,none⟩:Addr).add j)=some v:=fun j v hj=>by
 have e:(⟨g,0,none⟩:Addr).add j=⟨g,j,none⟩:=by unfold Addr.add;split <;> simp_all
 rw[e,h.at_,<-getElem?_toList,hj]
theorem rT:(prog.info? 197).map (fun i=>(i.zero,i.size,i.bytes))=some (some (.agg #[.slice none 0 0,.int .i64 0]),2,32):=by kernel_rfl
def IZ(K:Nat->Lit)(mf:Nat->Int)(L:List En)(F:Nat)(w:World)(e:Ending)(w':World):Prop:=
 ∃(bn f0 gM cM gF cF gS cS:Nat) (nm:List Nat) (L':List En) (aF aS:Nat->Option Addr) (Bt DZ:Nat->Nat) (csA:Array Value),e=.returned (.pointer (some ⟨bn,0,none⟩))/\Below w.heap.size w w'/\lf w' w'.heap.size bn gF nm.length cF aF Bt L'/\
  oo w' w'.heap.size bn gS nm.length cS aS DZ (pU (rl K 256)) L'/\kr w' w'.heap.size bn gM nm.length cM (fun i=>mf (nm.getD i 0))/\Gi w' w'.heap.size bn K csA/\w'.cell? ⟨bn,256,none⟩=some (.int .i64 (f0:Int))/\
  L=L'.map (En.oc nm)/\nm.Nodup/\(∀e∈L',e.f<nm.length/\e.t<nm.length)/\nm[f0]?=some F/\nm.length<=2*L.length+1/\∀x∈nm,Src L F F x
theorem Yg(kf bV:Nat)(mf:Nat->Int)(S0 T:Int)(F:Nat)(L:List En)(a:Option Addr)(n c:Nat)(w:World)(HC:∀(args:Array Value) (W:World),(callFunc kf args).run prog W=.ok (.enter kf args) W)
  (HM:∀W,Below w.heap.size w W->∀x,x<=9223372036854775807->Calls prog kf #[.int .i64 ((x:Nat):Int),.pointer (some ⟨bV,0,none⟩)] W fun e w'=>e=.returned (.int .i64 (mf x))/\w'=W)
  (hL:ke w a (L.map En.z)) (hn:L.length=n) (ka:n<=6400) (pS:(bI (L.map En.z)).length<=1000) (hF:F<=9223372036854775807) (hE:∀e∈L,e.f<=9223372036854775807/\e.t<=9223372036854775807):
  Calls prog 118 #[.agg #[.int .i64 S0,.slice a n c,.int .i64 (F:Int),.int .i64 T],.func (.func kf) #[] #[.pointer (some ⟨bV,0,none⟩)]] w (IZ (di L) mf L F w):=by
 have iD:=@run_makeMap prog;have zd:∀(fn:Fn) (first cap:Array Value) (w:World),(makeFunc fn first cap).run prog w=.ok (.func fn first cap) w:=fun _ _ _ _=>rfl
 have Hsb:=hid pS;have HH:=hid (Zz HC (Zz HM (Zz hL (Zz hn hE))));clear HC HM hL hn hE pS;go_enter func118,ntmps118;go_upto_region 1 with fail;have HI:Hid (∃W0,(w.alloc (.cells #[.int .i64 S0,.slice a n c,.int .i64 (F:Int),.int .i64 T] 119)).alloc (.cells #[.func (.func kf) #[] #[.pointer (some ⟨bV,0,none⟩)]] 137)=W0):=⟨_,rfl⟩
 obtain⟨W0,sa⟩:=HI.out;have h2:St W0 119 w.heap.size #[.int .i64 S0,.slice a n c,.int .i64 (F:Int),.int .i64 T]:=by rw[<-sa];exact (St.new w _ _).alloc _
 have h3:St W0 137 (w.heap.size+1) #[.func (.func kf) #[] #[.pointer (some ⟨bV,0,none⟩)]]:=by
  rw[<-sa];have:=St.new (w.alloc (.cells #[.int .i64 S0,.slice a n c,.int .i64 (F:Int),.int .i64 T] 119)) 137 #[.func (.func kf) #[] #[.pointer (some ⟨bV,0,none⟩)]];simpa using this
 have lJ:Below w.heap.size w W0:=by rw[<-sa];exact (al w _).trans ((al _ _).mono (by simp))
 rw[sa];clear sa HI;have H0:=hid (Zz h2 (Zz h3 lJ));obtain⟨r0,r1,r2,r3⟩:=h2.dP;have xv:=hid (ZR S0 (F:Int) T a n c (L.map En.z) W0 (HH.out.2.2.1.below lJ) (by rw[length_map];exact HH.out.2.2.2.1) (by omega));clear h2 h3 lJ;go_wp2_with fail;refine xv.out.mono ?_;rintro e w1 ⟨a1,n1,c1,rfl,pA,Xi,ln⟩;have fx:n1<=1000:=by rw[<-pA];exact Hsb.out
 subst pA;have dz:=hid (zf8 a1 _ c1 (qz (L.map En.z)) fx w1 (zmt Xi rfl));have nj:=hid ln;clear Xi ln r0 r1 r2 r3 xv fx;go_wp2_with fail;refine dz.out.mono ?_;rintro e w3 ⟨csA,rfl,Qv,Sv,pB⟩;obtain⟨cN,fI,pt,jF,GY,FN,IT,wm⟩:=zkq csA Qv;have kE:=hid (show Below w.heap.size w w3/\St w3 119 w.heap.size #[.int .i64 S0,.slice a n c,.int .i64 (F:Int),.int .i64 T]/\St w3 137 (w.heap.size+1) #[.func (.func kf) #[] #[.pointer (some ⟨bV,0,none⟩)]] from by
  have hk:=nj.out.trans (pB.mono nj.out.size)
  exact⟨H0.out.2.2.trans (hk.mono H0.out.2.2.size),H0.out.1.aa hk,H0.out.2.1.aa hk⟩)
 have HN:=hid (Zz Qv (Zz Sv (Zz fI (Zz pt (Zz jF (Zz GY (Zz FN IT)))))));clear Qv Sv pB fI pt jF GY FN IT dz;go_wp2_with (refine CZ rfl 165 _ rfl #[(0,.agg csA)] ?hp (.agg cN) ?hb ?_)
 case hb=>exact wm _
 go_upto_region 4 with fail;have HA:=hid (sw.start w w3 w.heap.size (w.heap.size+1) (.func (.func kf) #[] #[.pointer (some ⟨bV,0,none⟩)]) mf cN kE.out.1 kE.out.1.size kE.out.2.2 HN.out.2.2.1 HN.out.2.2.2.2.2.1 HN.out.2.2.2.2.2.2.1 HN.out.2.2.2.2.2.2.2);have gq:Hid (St ((((w3.alloc (.cells cN 165)).alloc (.cells #[.pointer (some ⟨w3.heap.size,0,none⟩)] 160)).alloc (.map #[] 0)).alloc (.cells #[.map (some (w3.heap.size+1+1))] 191)) 119 w.heap.size #[.int .i64 S0,.slice a n c,.int .i64 (F:Int),.int .i64 T]):=(((kE.out.2.1.aa (al _ _)).aa (al _ _)).aa (al _ _)).aa (al _ _);obtain⟨bn,aZ⟩:∃bn,w3.heap.size=bn:=⟨_,rfl⟩
 rw[aZ] at HA gq;rw[aZ];generalize (((w3.alloc (.cells cN 165)).alloc (.cells #[.pointer (some ⟨bn,0,none⟩)] 160)).alloc (.map #[] 0)).alloc (.cells #[.map (some (bn+1+1))] 191)=W4 at HA gq⊢;obtain⟨b5,uz⟩:∃b5,bn+1=b5:=⟨_,rfl⟩
 obtain⟨bM,qI⟩:∃bM,bn+1+1=bM:=⟨_,rfl⟩
 obtain⟨b6,eC⟩:∃b6,bn+1+1+1=b6:=⟨_,rfl⟩
 obtain⟨b2,bZ⟩:∃b2,w.heap.size=b2:=⟨_,rfl⟩
 obtain⟨b3,iL⟩:∃b3,w.heap.size+1=b3:=⟨_,rfl⟩
 rw[eC,qI,uz] at HA;rw[eC,uz];rw[iL] at HA;rw[iL];have Nv:=gq.out;rw[bZ] at Nv gq;have Ec:Below W4.heap.size W4 W4.drew:=(Below.refl _ _).drew;have xB:=hid (HA.out.aa Ec);have yM:=hid (Qx w w.heap.size bn b3 b5 b6 bM kf bV mf [] cN (.slice none 0 0) (.slice none 0 0) (.slice none 0 0) (fun _=>.slice none 0 0) (fun _=>.slice none 0 0) (fun _=>[]) [] W4.drew HH.out.1 HH.out.2.1 xB.out (by simp) F hF);have q2:W4.drew.cell? ⟨b2,2,none⟩=some (.int .i64 (F:Int)):=Nv.at_ 2;have q5:W4.drew.cell? ⟨b5,0,none⟩=some (.pointer (some ⟨bn,0,none⟩)):=HA.out.sT.at_ 0;rw[bZ];have Vk:=hid (Zz bZ (Zz uz (Zz qI (Zz eC iL))));clear Nv bZ uz qI eC iL aZ Ec wm;refine wp_region_held_drew (S:=fun W'=>W'.cell? ⟨b5,0,none⟩=some (.pointer (some ⟨bn,0,none⟩))/\W'.cell? ⟨b2,2,none⟩=some (.int .i64 (F:Int))) (by kernel_rfl) ⟨q5,q2⟩ (fun hHeld=>?_)
 (refine ak 0 ?_;refine ak 1 ?_;refine ak 2 ?_;try simp only[put,sA,sB,sC];refine ak 3 ?_;try simp only[put,sA,sB,sC])
 refine bc 4 (fun K hK=>?_);skip;go_simp;go_at_call 149;refine yM.out.mono ?_;rintro e w5 ⟨f0,Qf,MH,Mc,Io,Nu,P5,rfl,SB,pP,Gc,OL⟩;have HX:=hid (Zz SB (Zz pP (Zz Gc OL)));have Cj:St w5 119 b2 #[.int .i64 S0,.slice a n c,.int .i64 (F:Int),.int .i64 T]:=OL.st gq.out.drew (fun e=>Or.elim e (fun e=>Bf xB.out.map gq.out.drew e) (fun e=>xB.out.n.oQ gq.out.drew (by decide) (by decide) (by decide) (by decide) (by decide) e));have WA:w5.cell? ⟨b5,0,none⟩=some (.pointer (some ⟨bn,0,none⟩)):=HX.out.1.sT.at_ 0;have q6:=HX.out.1.n.sn.aX 256;have q7:w5.cell? ⟨bn,256,none⟩=some (.int .i64 0):=(by rw[HX.out.1.n.sn.at_,getElem?_setIfInBounds_ne (by decide),getElem?_setIfInBounds_ne (by decide),getElem?_setIfInBounds_ne (by decide)];exact HN.out.2.2.2.2.1)
 have qT:Hid (sw w w.heap.size bn b3 b5 b6 bM (.func (.func kf) #[] #[.pointer (some ⟨bV,0,none⟩)]) mf Qf (cN.setIfInBounds 256 (.int .i64 (f0:Int))) MH Mc Io Nu P5 (fun _=>[]) [] (w5.setCell ⟨bn,256,none⟩ (.int .i64 (f0:Int)))/\St (w5.setCell ⟨bn,256,none⟩ (.int .i64 (f0:Int))) 119 b2 #[.int .i64 S0,.slice a n c,.int .i64 (F:Int),.int .i64 T]):=⟨HX.out.1.first _,Cj.fD HX.out.1.n.sn (by decide) _ _⟩
 have uZ:=hid HX.out.2;have S9:w5.cell? ⟨b2,2,none⟩=some (.int .i64 (F:Int)):=Cj.at_ 2;clear SB pP Gc OL
 try go_wp2_with fail
 refine hK.out _ _ ⟨WA,S9⟩ (fun hHeld=>?_);clear hK K
 try simp only[put,sA,sB,sC]
 (refine ak 5 ?_;refine ak 6 ?_;try simp only[put,sA,sB,sC])
 refine bc 7 (fun K hK=>?_);skip;go_simp;refine hK.out _ _ ⟨qT.out.1.sT.at_ 0,qT.out.2.at_ 2⟩ (fun hHeld=>?_);clear hK K
 try simp only[put,sA,sB,sC]
 refine wpAnyH_done (by kernel_rfl) ?_ _;clear hHeld q2 q5 WA q6 q7 S9 Cj HX yM xB;generalize w5.setCell ⟨bn,256,none⟩ (.int .i64 (f0:Int))=W5 at qT⊢;have s0:W5.cell? ⟨b5,0,none⟩=some (.pointer (some ⟨bn,0,none⟩)):=qT.out.1.sT.at_ 0;have Wv:=hid (zkJ (di L) bn csA W5 (qT.out.1.n.cl HN.out.1 HN.out.2.1 (fun j hj=>by rw[getElem?_setIfInBounds_ne (by omega)];exact HN.out.2.2.2.1 j hj)));go_wp2_with fail;refine Wv.out.mono ?_;rintro e w6 ⟨b7,b8,bL,aR,cR,rfl,Fs,D5,hbL⟩;have kB:Hid (lC w w.heap.size b2 b3 b5 b6 b7 b8 bn bM bL (.func (.func kf) #[] #[.pointer (some ⟨bV,0,none⟩)]) mf #[.int .i64 S0,.slice a n c,.int .i64 (F:Int),.int .i64 T] (cN.setIfInBounds 256 (.int .i64 (f0:Int))) (rl (di L) 256) aR cR L F f0 0 1 0 Qf MH Mc Io Nu P5 (fun _=>[]) [] [] w6):=by
  have h1:=qT.out.1.aa D5;refine⟨h1,(Fs _).base qT.out.1.aJ.size,qT.out.2.aa D5,fun i hi=>tG.nil _ _ _,rfl,fun e he=>by simp at he,uZ.out.1,?_,?_,?_⟩
  ·rcases uZ.out.2.1 with h|h <;> rw[h] <;> simp
  ·have:=qT.out.1.map.lt;omega
  exact RP uZ.out.2.1 (inl rfl) (fun x hx=>by simp at hx)
 have s1:w6.cell? ⟨b2,1,none⟩=some (.slice a n c):=kB.out.s2.at_ 1;have Ng:St w6 119 b2 #[.int .i64 S0,.slice a n c,.int .i64 (F:Int),.int .i64 T]:=kB.out.s2;clear Fs D5 hbL s0 Wv qT uZ Ng;go_wp2_with fail;clear s1;go_loopw [10,11,12,32] (fun _ _ _ v wq=>∃(k nn:Nat) (nm:List Nat) (vM vF vS:Value) (fv sv:Nat->Value) (xs:Nat->List Value) (L':List En) (DL:List ((Nat->Bool) × Option Addr × Nat)),v=.int .i64 k/\k<=n/\nn<=k/\
  Hid (lC w w.heap.size b2 b3 b5 b6 b7 b8 bn bM bL (.func (.func kf) #[] #[.pointer (some ⟨bV,0,none⟩)]) mf #[.int .i64 S0,.slice a n c,.int .i64 (F:Int),.int .i64 T] (cN.setIfInBounds 256 (.int .i64 (f0:Int))) (rl (di L) 256) aR cR L F f0 k (2*k+1) nn nm vM vF vS fv sv xs L' DL wq)) (fun _ _ _ v _=>n-(intOf v).toNat)
 ·exact⟨0,0,Qf,MH,Mc,Io,Nu,P5,_,[],[],rfl,zero_le _,le_refl _,kB⟩
 clear kB;obtain⟨k,nn,nm,vM,vF,vS,fv,sv,xs,L1,DL,rfl,hk,Ff,HA⟩:=hrel;by_cases av:k<n
 ·have hkl:k<L.length:=by rw[HH.out.2.2.2.1];exact av
  obtain⟨ge,off,rfl,hg,c0,c1,c2,c3,c4,c5,c6⟩:=(HH.out.2.2.1.below HA.out.a.aJ).Qz k hkl;have HS:Hid (L.take (k+1)=L.take k++[L[k]]):=List.take_succ_eq_append_getElem hkl;have hx:=HH.out.2.2.2.2 L[k] (getElem_mem _);have nw:Hid (L[k]∈L):=getElem_mem _;generalize L[k]=x at c0 c1 c2 c3 c4 c5 c6 HS hx nw;have uD:Below wr.heap.size wr (wr.alloc (.cells #[.int .i64 (x.f:Int),.int .i64 (x.t:Int),.int .u64 ((wd x.p 0:Nat):Int),.int .u64 ((wd x.p 1:Nat):Int),.int .u64 ((wd x.p 2:Nat):Int),.int .u64 ((wd x.p 3:Nat):Int),.bool x.b] 186)):=al wr _;have ym:=hid (HA.out.aa uD.drew);have jY:Hid (St (wr.alloc (.cells #[.int .i64 (x.f:Int),.int .i64 (x.t:Int),.int .u64 ((wd x.p 0:Nat):Int),.int .u64 ((wd x.p 1:Nat):Int),.int .u64 ((wd x.p 2:Nat):Int),.int .u64 ((wd x.p 3:Nat):Int),.bool x.b] 186)).drew 186 wr.heap.size #[.int .i64 (x.f:Int),.int .i64 (x.t:Int),.int .u64 ((wd x.p 0:Nat):Int),.int .u64 ((wd x.p 1:Nat):Int),.int .u64 ((wd x.p 2:Nat):Int),.int .u64 ((wd x.p 3:Nat):Int),.bool x.b]):=St.new wr _ _;have d0:(wr.alloc (.cells #[.int .i64 (x.f:Int),.int .i64 (x.t:Int),.int .u64 ((wd x.p 0:Nat):Int),.int .u64 ((wd x.p 1:Nat):Int),.int .u64 ((wd x.p 2:Nat):Int),.int .u64 ((wd x.p 3:Nat):Int),.bool x.b] 186)).drew.cell? ⟨wr.heap.size,0,none⟩=some (.int .i64 (x.f:Int)):=jY.out.at_ 0;have d1:(wr.alloc (.cells #[.int .i64 (x.f:Int),.int .i64 (x.t:Int),.int .u64 ((wd x.p 0:Nat):Int),.int .u64 ((wd x.p 1:Nat):Int),.int .u64 ((wd x.p 2:Nat):Int),.int .u64 ((wd x.p 3:Nat):Int),.bool x.b] 186)).drew.cell? ⟨wr.heap.size,1,none⟩=some (.int .i64 (x.t:Int)):=jY.out.at_ 1;have Ld:nm.length<=90000:=by have:=HA.out.len;omega
  clear uD hkl;go_wp2_with fail;clear c0 c1 c2 c3 c4 c5 c6;refine wp_region_held_drew (S:=fun W'=>W'.cell? ⟨wr.heap.size,0,none⟩=some (.int .i64 (x.f:Int))/\W'.cell? ⟨wr.heap.size,1,none⟩=some (.int .i64 (x.t:Int))) (by kernel_rfl) ⟨d0,d1⟩ (fun hHeld=>?_)
  (refine ak 0 ?_;refine ak 1 ?_;refine ak 2 ?_;try simp only[put,sA,sB,sC];refine ak 4 ?_;refine ak 5 ?_;refine ak 6 ?_;try simp only[put,sA,sB,sC])
  refine bc 3 (fun K hK=>?_);skip;go_simp;go_at_call 149;refine (Qx w w.heap.size bn b3 b5 b6 bM kf bV mf nm _ vM vF vS fv sv xs L1 (wr.alloc (.cells #[.int .i64 (x.f:Int),.int .i64 (x.t:Int),.int .u64 ((wd x.p 0:Nat):Int),.int .u64 ((wd x.p 1:Nat):Int),.int .u64 ((wd x.p 2:Nat):Int),.int .u64 ((wd x.p 3:Nat):Int),.bool x.b] 186)).drew HH.out.1 HH.out.2.1 ym.out.a Ld x.f hx.1).mono ?_;rintro e w2 ⟨k1,nm2,vM2,vF2,DV,Z7,Yk,rfl,E3,ey,CB,uQ⟩;have lI:=hid (Zz (ym.out.num E3 CB uQ (inr (inr ⟨x,nw.out,inl rfl⟩))) (Zz (uQ.st jY.out (fun e=>ym.out.fV jY.out (by decide) (by decide) (by decide) (by decide) (by decide) (inr e))) (Zz ey CB)));clear E3 ey CB uQ
  try go_wp2_with fail
  refine hK.out _ _ ⟨lI.out.2.1.at_ 0,lI.out.2.1.at_ 1⟩ (fun hHeld=>?_);clear hK K
  try simp only[put,sA,sB,sC]
  refine bc 7 (fun K hK=>?_);skip;go_simp;go_at_call 149;refine (Qx w w.heap.size bn b3 b5 b6 bM kf bV mf nm2 _ vM2 vF2 DV Z7 Yk xs L1 w2 HH.out.1 HH.out.2.1 lI.out.1.a (by have:=lI.out.1.len;omega) x.t hx.2).mono ?_;rintro e w3 ⟨k2,ky,Af,ED,rf,vQ,uA,rfl,I7,Gb,Dr,Ra⟩;have hY:=hid (Zz (lI.out.1.num I7 Dr Ra (inr (inr ⟨x,nw.out,inr rfl⟩))) (Zz (Ra.st lI.out.2.1 (fun e=>lI.out.1.fV lI.out.2.1 (by decide) (by decide) (by decide) (by decide) (by decide) (inr e))) (Zz (MC Dr lI.out.2.2.1) (Zz Gb (show L1.length<=6400 from by have:=congrArg List.length HA.out.rel;rw[length_map] at this;have h2:=List.length_take_le k L;omega)))));clear I7 Gb Dr Ra
  try go_wp2_with fail
  refine hK.out _ _ ⟨hY.out.2.1.at_ 0,hY.out.2.1.at_ 1⟩ (fun hHeld=>?_);clear hK K
  try simp only[put,sA,sB,sC]
  (refine ak 8 ?_;refine ak 9 ?_;try simp only[put,sA,sB,sC])
  refine wpAnyH_done (by kernel_rfl) ?_ _;clear hHeld;have HK:=hid (Zz hY.out.2.2.1 hY.out.2.2.2.1);have jg:k1<ky.length:=(List.getElem?_eq_some_iff.1 HK.out.1).1;have vY:k2<ky.length:=(List.getElem?_eq_some_iff.1 HK.out.2).1;have sy:0<ky.length:=by omega
  have hnm3:ky.length<=90000:=by have:=hY.out.1.len;omega
  obtain⟨z0,z1,z2,z3,z4,z5,z6⟩:=SY hY.out.2.1;obtain⟨xf,xt,xp,xb⟩:=x;obtain⟨be,tq⟩:∃be,wr.heap.size=be:=⟨_,rfl⟩
  have HE:=hid hY.out.2.1;rw[tq] at z0 z1 z2 z3 z4 z5 z6 HE;rw[tq];clear d0 d1 lI ym jY HA Ld tq;dsimp only at z0 z1 z2 z3 z4 z5 z6 HE HS HK;rcases xb with _|_
  ·skip;go_wp2_with fail;obtain⟨aS,cS,rfl⟩:=bE hY.out.1.a.n.st.own;obtain⟨gS,rfl,-,-,-⟩:=fa hY.out.1.a.n.st.own sy;obtain⟨A4,Ak,hv⟩:=bE (hY.out.1.a.n.st.row k1 jg)
   try dsimp only at hv
   have tT:=hid (hY.out.1.aa (show Below w3.heap.size w3 w3.drew from (Below.refl _ _).drew));obtain⟨p,hp⟩:∃p,(cq L1 k1).length=p:=(⟨_,rfl⟩);have ub:p<=6400:=(by rw[<-hp];exact le_trans (SL _ _) hY.out.2.2.2.2);have Pr:∀W:World,W.ownsRow w.heap.size 195 1 (.slice (some ⟨gS,0,none⟩) ky.length cS) ky.length ((range ky.length).map uA)->W.cell? ⟨gS,k1,none⟩=some (.slice A4 p Ak)/\W.frozen? ⟨gS,k1,none⟩=false:=fun W hW=>by
    obtain⟨g,e,_,_,hc⟩:=fa hW sy;injection e with e;injection e with e;subst e;obtain⟨h1,h2⟩:=hc k1 (by omega);exact⟨by rw[h1];simp only[getElem?_map,getElem?_range jg,map_some,hv,hp],h2⟩
   have k0:=(Pr _ hY.out.1.a.n.st.own).1;have HV:=hid (Zz hv hp);have xI:=hid Pr;obtain⟨q,hq⟩:∃q,ky.length=q:=(⟨_,rfl⟩);have HQ:=hid hq;have j1:(k1:Int)<q:=(by omega);have j2:(0:Int)<=k1:=(by omega);obtain⟨pc,ta⟩:∃pc,(pU (rl (di L) 256) xp).length=pc:=(⟨_,rfl⟩);have xC:=hid ta;have JP:(rl (di L) 256).length<=256:=(by rw[yO];exact JF _ _);have dz:=hid (zmg w.heap.size bn b7 b8 bL nn (rl (di L) 256) aR cR _ DL w3.drew tT.out.l (fun x hx=>tT.out.lt x hx) (by omega) JP xp);obtain⟨i0,vd,dF,cY,cO⟩:=info_parts rT;have dC:=hid (fun (W:World) (h1:St W 160 b5 #[.pointer (some ⟨bn,0,none⟩)]) (h2:W.cell? ⟨bn,259,none⟩=some (.slice (some ⟨gS,0,none⟩) q cS)) (h3:St W 186 be #[.int .i64 (xf:Int),.int .i64 (xt:Int),.int .u64 ((wd xp 0:Nat):Int),.int .u64 ((wd xp 1:Nat):Int),.int .u64 ((wd xp 2:Nat):Int),.int .u64 ((wd xp 3:Nat):Int),.bool false])=>(⟨h1.at_ 0,h2,h3.at_ 2,h3.at_ 3,h3.at_ 4,h3.at_ 5⟩:W.cell? ⟨b5,0,none⟩=some (.pointer (some ⟨bn,0,none⟩))/\W.cell? ⟨bn,259,none⟩=some (.slice (some ⟨gS,0,none⟩) q cS)/\W.cell? ⟨be,2,none⟩=some (.int .u64 ((wd xp 0:Nat):Int))/\W.cell? ⟨be,3,none⟩=some (.int .u64 ((wd xp 1:Nat):Int))/\W.cell? ⟨be,4,none⟩=some (.int .u64 ((wd xp 2:Nat):Int))/\W.cell? ⟨be,5,none⟩=some (.int .u64 ((wd xp 3:Nat):Int))));have oW:=hY.out.1.a.sT;have sI:w3.cell? ⟨bn,259,none⟩=some (.slice (some ⟨gS,0,none⟩) q cS):=(by rw[<-hq];exact hY.out.1.a.n.cells.2.2);clear hv hp Pr hq ta JP;refine wp_region_held_drew (S:=fun W'=>W'.cell? ⟨b5,0,none⟩=some (.pointer (some ⟨bn,0,none⟩))/\W'.cell? ⟨bn,259,none⟩=some (.slice (some ⟨gS,0,none⟩) q cS)/\W'.cell? ⟨be,2,none⟩=some (.int .u64 ((wd xp 0:Nat):Int))/\W'.cell? ⟨be,3,none⟩=some (.int .u64 ((wd xp 1:Nat):Int))/\W'.cell? ⟨be,4,none⟩=some (.int .u64 ((wd xp 2:Nat):Int))/\W'.cell? ⟨be,5,none⟩=some (.int .u64 ((wd xp 3:Nat):Int))) (by kernel_rfl) (dC.out _ oW.drew sI HE.out.drew) (fun hHeld=>?_)
   (refine ak 0 ?_;refine ak 1 ?_;refine ak 2 ?_;try simp only[put,sA,sB,sC];refine ak 3 ?_;refine ak 4 ?_;refine ak 5 ?_;try simp only[put,sA,sB,sC];refine ak 6 ?_;refine ak 7 ?_;refine ak 8 ?_;try simp only[put,sA,sB,sC];refine ak 9 ?_;refine ak 10 ?_;refine ak 12 ?_;try simp only[put,sA,sB,sC];refine ak 13 ?_;refine ak 14 ?_;refine ak 16 ?_;try simp only[put,sA,sB,sC])
   refine wpAnyH_ready (rs:=[11,15]) (by kernel_rfl) (by simp) ?_;refine ik (fun K hK=>?_) ?_
   ·skip;go_simp;refine hK.out _ _ (dC.out _ oW.drew sI HE.out.drew) (fun hHeld=>?_);clear hK K
    try simp only[put,sA,sB,sC]
    refine bc 15 (fun K hK=>?_);skip;go_simp;go_at_call 170;refine dz.out.mono ?_;rintro e w4 ⟨ac,cc,C9,rfl,yk,IX,xE,iE⟩;have gP:=hid (tT.out.cls yk xE iE);have sN:Hid (St w4 186 be #[.int .i64 (xf:Int),.int .i64 (xt:Int),.int .u64 ((wd xp 0:Nat):Int),.int .u64 ((wd xp 1:Nat):Int),.int .u64 ((wd xp 2:Nat):Int),.int .u64 ((wd xp 3:Nat):Int),.bool false]):=Wl HE.out.drew tT.out.l xE;have LX:=hid IX;rw[xC.out];clear yk IX xE iE;have dZ:=hid (gP.out.aa (al w4 (.cells #[.slice ac pc cc,.int .i64 (k2:Int)] 197)));have xH:=hid (sN.out.aa (al w4 (.cells #[.slice ac pc cc,.int .i64 (k2:Int)] 197)));have nz:=gP.out.a.sT;have ll:=dZ.out.a.sT;have rv:w4.cell? ⟨bn,259,none⟩=some (.slice (some ⟨gS,0,none⟩) q cS):=(by rw[<-HQ.out];exact gP.out.a.n.cells.2.2);have xm:(w4.alloc (.cells #[.slice ac pc cc,.int .i64 (k2:Int)] 197)).cell? ⟨bn,259,none⟩=some (.slice (some ⟨gS,0,none⟩) q cS):=(by rw[<-HQ.out];exact dZ.out.a.n.cells.2.2);have k4:=(xI.out _ gP.out.a.n.st.own).1;have k5:=(xI.out _ dZ.out.a.n.st.own).1;have cU:=dZ.out.a.n.st.row k1 jg;rw[HV.out.1,HV.out.2] at cU;have xz:w.heap.size<=(w4.alloc (.cells #[.slice ac pc cc,.int .i64 (k2:Int)] 197)).heap.size:=dZ.out.a.n.lo.2
    try go_wp2_with fail
    refine hK.out _ _ (dC.out _ nz rv sN.out) (fun hHeld=>?_);clear hK K
    try simp only[put,sA,sB,sC]
    (refine ak 17 ?_;try simp only[put,sA,sB,sC])
    refine bc 18 (fun K hK=>?_);skip;go_simp;refine hK.out _ _ (dC.out _ ll xm xH.out) (fun hHeld=>?_);clear hK K
    try simp only[put,sA,sB,sC]
    refine bc 19 (fun K hK=>?_);skip;skip;refine step_append_lies _ (by rfl) _ _ _ (by rfl) w.heap.size 197 i0 (.agg #[.slice none 0 0,.int .i64 0]) 2 32 underlying195 vd dF cY cO (by rfl) (by decide) _ p (xs k1) (by rfl) cU ⟨w4.heap.size,0,none⟩ 1 1 (#[.slice ac pc cc,.int .i64 (k2:Int)]).toList (by rfl) (by rfl) (news_of_block (cs:=#[.slice ac pc cc,.int .i64 (k2:Int)]) (t:=197) (fr:=(0,0)) (heap_alloc_new w4 _)) (by simp[oneCell']) (by omega) (by unfold maxLen;omega) (by omega) xz (w4.heap.size+1) (by simp) ?_;intro gg eK w6 aq ag cj kM;have eO:=dZ.out.a.n.st.row k1 jg;have fR:=ag;rw[show (Value.slice A4 p Ak)=uA k1 from by rw[HV.out.1,HV.out.2]] at fR;obtain⟨s6,sK⟩:=dZ.out.a.n.BJ (x:=⟨k1,k2,xp,false⟩) rfl jg vY (v':=(.slice (some ⟨gg,0,none⟩) (p+1) eK)) (p:=p) aq HV.out.2 fR (fun b e=>by rw[HV.out.1,HV.out.2];injection e with e;rw[<-e];rcases cj with h|h;exact inl h;exact inr (by rw[h];simp));have fy:=dZ.out.a.sT.af eO (by decide) fR;have fE:=xH.out.af eO (by decide) fR;have iA:=dZ.out.a.n.sn.af eO (by decide) fR;have pd:w6.cell? ⟨bn,259,none⟩=some (.slice (some ⟨gS,0,none⟩) q cS):=(by rw[iA.at_,<-dZ.out.a.n.sn.at_];exact xm);have jA:=tw dZ.out.a.n.st.own eO (by decide) fR;obtain⟨t2,t3⟩:=xI.out _ jA;have fZ:b5≠gS/\bn≠gS/\be≠gS:=(⟨fun e=>dH jA fy (by decide) gS rfl e.symm,fun e=>dH jA iA (by decide) gS rfl e.symm,fun e=>dH jA fE (by decide) gS rfl e.symm⟩);have HF:Hid (lC w w.heap.size b2 b3 b5 b6 b7 b8 bn bM bL (.func (.func kf) #[] #[.pointer (some ⟨bV,0,none⟩)]) mf #[.int .i64 S0,.slice (some ⟨ge,off,none⟩) n c,.int .i64 (F:Int),.int .i64 T] (cN.setIfInBounds 256 (.int .i64 (f0:Int))) (rl (di L) 256) aR cR L F f0 (k+1) (2*(k+1)+1) (nn+1) ky Af ED (.slice (some ⟨gS,0,none⟩) q cS) vQ (fun j=>if j=k1 then (.slice (some ⟨gg,0,none⟩) (p+1) eK) else uA j) (fun j=>if j=k1 then xs k1++(#[.slice ac pc cc,.int .i64 (k2:Int)]).toList else xs j) (L1++[⟨k1,k2,xp,false⟩]) C9 (w6.setCell ⟨gS,k1,none⟩ (.slice (some ⟨gg,0,none⟩) (p+1) eK))):=by
     rw[<-HQ.out];refine dZ.out.put (x:=⟨xf,xt,xp,false⟩) s6 sK HS.out HK.out.1 HK.out.2 (fun i hi=>?_);rw[CF];by_cases e:i=k1
     ·subst e;rw[if_pos ⟨rfl,rfl⟩,if_pos rfl];have Bc:=(il.aa (B:=w.heap.size) (bn:=bn) (P:=rb bL bM bn ky.length Af ED (.slice (some ⟨gS,0,none⟩) ky.length cS) vQ uA) (al w4 (.cells #[.slice ac pc cc,.int .i64 (k2:Int)] 197)) gP.out.a.n.lo.2).EP LX.out;have:=(dZ.out.rows i hi).snoc ⟨i,k2,xp,false⟩ ac cc Bc;dsimp only at this;rw[xC.out] at this;exact this
     rw[if_neg (fun h=>e h.2.symm),if_neg e];exact dZ.out.rows i hi
    refine hK.out _ _ (dC.out _ fy pd fE) (fun hHeld=>?_);clear hK K aq ag cj kM s6 sK eO fR jA iA
    try simp only[put,sA,sB,sC]
    (refine ak 20 ?_;try simp only[put,sA,sB,sC])
    refine bc 21 (fun K hK=>?_);skip;go_simp;refine hK.out _ _ (dC.out _ (fy.fV (p:=⟨gS,k1,none⟩) fZ.1 _) ((E7 _ _ _ fZ.2.1).trans pd) (fE.fV (p:=⟨gS,k1,none⟩) fZ.2.2 _)) (fun hHeld=>?_);clear hK K
    try simp only[put,sA,sB,sC]
    refine wpAnyH_done (by kernel_rfl) ?_ _;clear fy fZ pd t2 t3 hHeld oW nz ll sI rv xm k0 k4 k5 fE;go_wp2;go_roundw
    ·exact⟨k+1,nn+1,ky,_,_,_,_,_,_,_,C9,by go_num,by omega,by omega,HF⟩
    simp[intOf];omega
   refine ik (fun K hK=>?_) ?_
   ·skip;go_simp;go_at_call 170;refine dz.out.mono ?_;rintro e w4 ⟨ac,cc,C9,rfl,yk,IX,xE,iE⟩;have gP:=hid (tT.out.cls yk xE iE);have sN:Hid (St w4 186 be #[.int .i64 (xf:Int),.int .i64 (xt:Int),.int .u64 ((wd xp 0:Nat):Int),.int .u64 ((wd xp 1:Nat):Int),.int .u64 ((wd xp 2:Nat):Int),.int .u64 ((wd xp 3:Nat):Int),.bool false]):=Wl HE.out.drew tT.out.l xE;have LX:=hid IX;rw[xC.out];clear yk IX xE iE;have dZ:=hid (gP.out.aa (al w4 (.cells #[.slice ac pc cc,.int .i64 (k2:Int)] 197)));have xH:=hid (sN.out.aa (al w4 (.cells #[.slice ac pc cc,.int .i64 (k2:Int)] 197)));have nz:=gP.out.a.sT;have ll:=dZ.out.a.sT;have rv:w4.cell? ⟨bn,259,none⟩=some (.slice (some ⟨gS,0,none⟩) q cS):=(by rw[<-HQ.out];exact gP.out.a.n.cells.2.2);have xm:(w4.alloc (.cells #[.slice ac pc cc,.int .i64 (k2:Int)] 197)).cell? ⟨bn,259,none⟩=some (.slice (some ⟨gS,0,none⟩) q cS):=(by rw[<-HQ.out];exact dZ.out.a.n.cells.2.2);have k4:=(xI.out _ gP.out.a.n.st.own).1;have k5:=(xI.out _ dZ.out.a.n.st.own).1;have cU:=dZ.out.a.n.st.row k1 jg;rw[HV.out.1,HV.out.2] at cU;have xz:w.heap.size<=(w4.alloc (.cells #[.slice ac pc cc,.int .i64 (k2:Int)] 197)).heap.size:=dZ.out.a.n.lo.2
    try go_wp2_with fail
    refine hK.out _ _ (dC.out _ nz rv sN.out) (fun hHeld=>?_);clear hK K
    try simp only[put,sA,sB,sC]
    (refine ak 17 ?_;try simp only[put,sA,sB,sC])
    refine wpAnyH_ready (rs:=[11,18]) (by kernel_rfl) (by simp) ?_;refine ik (fun K hK=>?_) ?_
    ·skip;go_simp;refine hK.out _ _ (dC.out _ nz rv sN.out) (fun hHeld=>?_);clear hK K
     try simp only[put,sA,sB,sC]
     refine bc 18 (fun K hK=>?_);skip;go_simp;refine hK.out _ _ (dC.out _ ll xm xH.out) (fun hHeld=>?_);clear hK K
     try simp only[put,sA,sB,sC]
     refine bc 19 (fun K hK=>?_);skip;skip;refine step_append_lies _ (by rfl) _ _ _ (by rfl) w.heap.size 197 i0 (.agg #[.slice none 0 0,.int .i64 0]) 2 32 underlying195 vd dF cY cO (by rfl) (by decide) _ p (xs k1) (by rfl) cU ⟨w4.heap.size,0,none⟩ 1 1 (#[.slice ac pc cc,.int .i64 (k2:Int)]).toList (by rfl) (by rfl) (news_of_block (cs:=#[.slice ac pc cc,.int .i64 (k2:Int)]) (t:=197) (fr:=(0,0)) (heap_alloc_new w4 _)) (by simp[oneCell']) (by omega) (by unfold maxLen;omega) (by omega) xz (w4.heap.size+1) (by simp) ?_;intro gg eK w6 aq ag cj kM;have eO:=dZ.out.a.n.st.row k1 jg;have fR:=ag;rw[show (Value.slice A4 p Ak)=uA k1 from by rw[HV.out.1,HV.out.2]] at fR;obtain⟨s6,sK⟩:=dZ.out.a.n.BJ (x:=⟨k1,k2,xp,false⟩) rfl jg vY (v':=(.slice (some ⟨gg,0,none⟩) (p+1) eK)) (p:=p) aq HV.out.2 fR (fun b e=>by rw[HV.out.1,HV.out.2];injection e with e;rw[<-e];rcases cj with h|h;exact inl h;exact inr (by rw[h];simp));have fy:=dZ.out.a.sT.af eO (by decide) fR;have fE:=xH.out.af eO (by decide) fR;have iA:=dZ.out.a.n.sn.af eO (by decide) fR;have pd:w6.cell? ⟨bn,259,none⟩=some (.slice (some ⟨gS,0,none⟩) q cS):=(by rw[iA.at_,<-dZ.out.a.n.sn.at_];exact xm);have jA:=tw dZ.out.a.n.st.own eO (by decide) fR;obtain⟨t2,t3⟩:=xI.out _ jA;have fZ:b5≠gS/\bn≠gS/\be≠gS:=(⟨fun e=>dH jA fy (by decide) gS rfl e.symm,fun e=>dH jA iA (by decide) gS rfl e.symm,fun e=>dH jA fE (by decide) gS rfl e.symm⟩);have HF:Hid (lC w w.heap.size b2 b3 b5 b6 b7 b8 bn bM bL (.func (.func kf) #[] #[.pointer (some ⟨bV,0,none⟩)]) mf #[.int .i64 S0,.slice (some ⟨ge,off,none⟩) n c,.int .i64 (F:Int),.int .i64 T] (cN.setIfInBounds 256 (.int .i64 (f0:Int))) (rl (di L) 256) aR cR L F f0 (k+1) (2*(k+1)+1) (nn+1) ky Af ED (.slice (some ⟨gS,0,none⟩) q cS) vQ (fun j=>if j=k1 then (.slice (some ⟨gg,0,none⟩) (p+1) eK) else uA j) (fun j=>if j=k1 then xs k1++(#[.slice ac pc cc,.int .i64 (k2:Int)]).toList else xs j) (L1++[⟨k1,k2,xp,false⟩]) C9 (w6.setCell ⟨gS,k1,none⟩ (.slice (some ⟨gg,0,none⟩) (p+1) eK))):=by
      rw[<-HQ.out];refine dZ.out.put (x:=⟨xf,xt,xp,false⟩) s6 sK HS.out HK.out.1 HK.out.2 (fun i hi=>?_);rw[CF];by_cases e:i=k1
      ·subst e;rw[if_pos ⟨rfl,rfl⟩,if_pos rfl];have Bc:=(il.aa (B:=w.heap.size) (bn:=bn) (P:=rb bL bM bn ky.length Af ED (.slice (some ⟨gS,0,none⟩) ky.length cS) vQ uA) (al w4 (.cells #[.slice ac pc cc,.int .i64 (k2:Int)] 197)) gP.out.a.n.lo.2).EP LX.out;have:=(dZ.out.rows i hi).snoc ⟨i,k2,xp,false⟩ ac cc Bc;dsimp only at this;rw[xC.out] at this;exact this
      rw[if_neg (fun h=>e h.2.symm),if_neg e];exact dZ.out.rows i hi
     refine hK.out _ _ (dC.out _ fy pd fE) (fun hHeld=>?_);clear hK K aq ag cj kM s6 sK eO fR jA iA
     try simp only[put,sA,sB,sC]
     (refine ak 20 ?_;try simp only[put,sA,sB,sC])
     refine bc 21 (fun K hK=>?_);skip;go_simp;refine hK.out _ _ (dC.out _ (fy.fV (p:=⟨gS,k1,none⟩) fZ.1 _) ((E7 _ _ _ fZ.2.1).trans pd) (fE.fV (p:=⟨gS,k1,none⟩) fZ.2.2 _)) (fun hHeld=>?_);clear hK K
     try simp only[put,sA,sB,sC]
     refine wpAnyH_done (by kernel_rfl) ?_ _;clear fy fZ pd t2 t3 hHeld oW nz ll sI rv xm k0 k4 k5 fE;go_wp2;go_roundw
     ·exact⟨k+1,nn+1,ky,_,_,_,_,_,_,_,C9,by go_num,by omega,by omega,HF⟩
     simp[intOf];omega
    refine ik (fun K hK=>?_) ?_
    ·skip;go_simp;refine hK.out _ _ (dC.out _ ll xm xH.out) (fun hHeld=>?_);clear hK K
     try simp only[put,sA,sB,sC]
     refine bc 11 (fun K hK=>?_);skip;go_simp;refine hK.out _ _ (dC.out _ ll xm xH.out) (fun hHeld=>?_);clear hK K
     try simp only[put,sA,sB,sC]
     refine bc 19 (fun K hK=>?_);skip;skip;refine step_append_lies _ (by rfl) _ _ _ (by rfl) w.heap.size 197 i0 (.agg #[.slice none 0 0,.int .i64 0]) 2 32 underlying195 vd dF cY cO (by rfl) (by decide) _ p (xs k1) (by rfl) cU ⟨w4.heap.size,0,none⟩ 1 1 (#[.slice ac pc cc,.int .i64 (k2:Int)]).toList (by rfl) (by rfl) (news_of_block (cs:=#[.slice ac pc cc,.int .i64 (k2:Int)]) (t:=197) (fr:=(0,0)) (heap_alloc_new w4 _)) (by simp[oneCell']) (by omega) (by unfold maxLen;omega) (by omega) xz (w4.heap.size+1) (by simp) ?_;intro gg eK w6 aq ag cj kM;have eO:=dZ.out.a.n.st.row k1 jg;have fR:=ag;rw[show (Value.slice A4 p Ak)=uA k1 from by rw[HV.out.1,HV.out.2]] at fR;obtain⟨s6,sK⟩:=dZ.out.a.n.BJ (x:=⟨k1,k2,xp,false⟩) rfl jg vY (v':=(.slice (some ⟨gg,0,none⟩) (p+1) eK)) (p:=p) aq HV.out.2 fR (fun b e=>by rw[HV.out.1,HV.out.2];injection e with e;rw[<-e];rcases cj with h|h;exact inl h;exact inr (by rw[h];simp));have fy:=dZ.out.a.sT.af eO (by decide) fR;have fE:=xH.out.af eO (by decide) fR;have iA:=dZ.out.a.n.sn.af eO (by decide) fR;have pd:w6.cell? ⟨bn,259,none⟩=some (.slice (some ⟨gS,0,none⟩) q cS):=(by rw[iA.at_,<-dZ.out.a.n.sn.at_];exact xm);have jA:=tw dZ.out.a.n.st.own eO (by decide) fR;obtain⟨t2,t3⟩:=xI.out _ jA;have fZ:b5≠gS/\bn≠gS/\be≠gS:=(⟨fun e=>dH jA fy (by decide) gS rfl e.symm,fun e=>dH jA iA (by decide) gS rfl e.symm,fun e=>dH jA fE (by decide) gS rfl e.symm⟩);have HF:Hid (lC w w.heap.size b2 b3 b5 b6 b7 b8 bn bM bL (.func (.func kf) #[] #[.pointer (some ⟨bV,0,none⟩)]) mf #[.int .i64 S0,.slice (some ⟨ge,off,none⟩) n c,.int .i64 (F:Int),.int .i64 T] (cN.setIfInBounds 256 (.int .i64 (f0:Int))) (rl (di L) 256) aR cR L F f0 (k+1) (2*(k+1)+1) (nn+1) ky Af ED (.slice (some ⟨gS,0,none⟩) q cS) vQ (fun j=>if j=k1 then (.slice (some ⟨gg,0,none⟩) (p+1) eK) else uA j) (fun j=>if j=k1 then xs k1++(#[.slice ac pc cc,.int .i64 (k2:Int)]).toList else xs j) (L1++[⟨k1,k2,xp,false⟩]) C9 (w6.setCell ⟨gS,k1,none⟩ (.slice (some ⟨gg,0,none⟩) (p+1) eK))):=by
      rw[<-HQ.out];refine dZ.out.put (x:=⟨xf,xt,xp,false⟩) s6 sK HS.out HK.out.1 HK.out.2 (fun i hi=>?_);rw[CF];by_cases e:i=k1
      ·subst e;rw[if_pos ⟨rfl,rfl⟩,if_pos rfl];have Bc:=(il.aa (B:=w.heap.size) (bn:=bn) (P:=rb bL bM bn ky.length Af ED (.slice (some ⟨gS,0,none⟩) ky.length cS) vQ uA) (al w4 (.cells #[.slice ac pc cc,.int .i64 (k2:Int)] 197)) gP.out.a.n.lo.2).EP LX.out;have:=(dZ.out.rows i hi).snoc ⟨i,k2,xp,false⟩ ac cc Bc;dsimp only at this;rw[xC.out] at this;exact this
      rw[if_neg (fun h=>e h.2.symm),if_neg e];exact dZ.out.rows i hi
     refine hK.out _ _ (dC.out _ fy pd fE) (fun hHeld=>?_);clear hK K aq ag cj kM s6 sK eO fR jA iA
     try simp only[put,sA,sB,sC]
     (refine ak 20 ?_;try simp only[put,sA,sB,sC])
     refine bc 21 (fun K hK=>?_);skip;go_simp;refine hK.out _ _ (dC.out _ (fy.fV (p:=⟨gS,k1,none⟩) fZ.1 _) ((E7 _ _ _ fZ.2.1).trans pd) (fE.fV (p:=⟨gS,k1,none⟩) fZ.2.2 _)) (fun hHeld=>?_);clear hK K
     try simp only[put,sA,sB,sC]
     refine wpAnyH_done (by kernel_rfl) ?_ _;clear fy fZ pd t2 t3 hHeld oW nz ll sI rv xm k0 k4 k5 fE;go_wp2;go_roundw
     ·exact⟨k+1,nn+1,ky,_,_,_,_,_,_,_,C9,by go_num,by omega,by omega,HF⟩
     simp[intOf];omega
    exact AllReadyH.nil
   exact AllReadyH.nil
  skip;go_wp2_with fail;obtain⟨aF,cF,rfl⟩:=bE hY.out.1.a.n.fr.own;obtain⟨gF,rfl,-,-,-⟩:=fa hY.out.1.a.n.fr.own sy;obtain⟨A4,Ak,hv⟩:=bE (hY.out.1.a.n.fr.row k1 jg)
  try dsimp only at hv
  have gP:=hid (hY.out.1.aa (show Below w3.heap.size w3 (w3.alloc (.cells #[.int .i64 (k2:Int)] 3)).drew from (al w3 _).drew));have cU:=gP.out.a.n.fr.row k1 jg;rw[hv] at cU
  try dsimp only at cU
  obtain⟨p,hp⟩:∃p,(dJ L1 k1).length=p:=⟨_,rfl⟩
  have ub:p<=6400:=by rw[<-hp];exact le_trans (Ut _ _) hY.out.2.2.2.2
  have sh:=hY.out.1.a.n.fr.own;have Ky:∀W:World,W.ownsRow w.heap.size 43 1 (.slice (some ⟨gF,0,none⟩) ky.length cF) ky.length ((range ky.length).map vQ)->W.cell? ⟨gF,k1,none⟩=some (.slice A4 p Ak)/\W.frozen? ⟨gF,k1,none⟩=false:=fun W hW=>by
   obtain⟨g,e,_,_,hc⟩:=fa hW sy;injection e with e;injection e with e;subst e;obtain⟨h1,h2⟩:=hc k1 (by omega);exact⟨by rw[h1];simp only[getElem?_map,getElem?_range jg,map_some,hv,hp],h2⟩
  have k0:=(Ky _ hY.out.1.a.n.fr.own).1;have m2:=(Ky _ gP.out.a.n.fr.own).1;have HV:=hid (Zz hv hp);have xI:=hid Ky;obtain⟨q,hq⟩:∃q,ky.length=q:=⟨_,rfl⟩
  have HQ:=hid hq;have j1:(k1:Int)<q:=by omega
  have j2:(0:Int)<=k1:=by omega
  have xz:w.heap.size<=((w3.alloc (.cells #[.int .i64 (k2:Int)] 3)).drew).heap.size:=gP.out.a.n.lo.2;rw[hp] at cU;obtain⟨i0,vd,dF,cY,cO⟩:=info_parts az;have dC:=hid (fun (W:World) (h1:St W 160 b5 #[.pointer (some ⟨bn,0,none⟩)]) (h2:W.cell? ⟨bn,258,none⟩=some (.slice (some ⟨gF,0,none⟩) q cF))=>(⟨h1.at_ 0,h2⟩:W.cell? ⟨b5,0,none⟩=some (.pointer (some ⟨bn,0,none⟩))/\W.cell? ⟨bn,258,none⟩=some (.slice (some ⟨gF,0,none⟩) q cF)));have oW:=hY.out.1.a.sT;have nz:=gP.out.a.sT;have sI:w3.cell? ⟨bn,258,none⟩=some (.slice (some ⟨gF,0,none⟩) q cF):=by rw[<-hq];exact hY.out.1.a.n.cells.2.1
  have rv:((w3.alloc (.cells #[.int .i64 (k2:Int)] 3)).drew).cell? ⟨bn,258,none⟩=some (.slice (some ⟨gF,0,none⟩) q cF):=by rw[<-hq];exact gP.out.a.n.cells.2.1
  clear hv hp sh Ky hq;refine wp_region_held_drew (S:=fun W'=>W'.cell? ⟨b5,0,none⟩=some (.pointer (some ⟨bn,0,none⟩))/\W'.cell? ⟨bn,258,none⟩=some (.slice (some ⟨gF,0,none⟩) q cF)) (by kernel_rfl) (dC.out _ oW.drew sI) (fun hHeld=>?_)
  (refine ak 0 ?_;refine ak 1 ?_;refine ak 2 ?_;try simp only[put,sA,sB,sC];refine ak 3 ?_;refine ak 4 ?_;refine ak 5 ?_;try simp only[put,sA,sB,sC];refine ak 6 ?_;refine ak 7 ?_;refine ak 8 ?_;try simp only[put,sA,sB,sC];refine ak 9 ?_;refine ak 10 ?_;refine ak 12 ?_;try simp only[put,sA,sB,sC])
  refine wpAnyH_ready (rs:=[11,13]) (by kernel_rfl) (by simp) ?_;refine ik (fun K hK=>?_) ?_
  ·skip;go_simp;refine hK.out _ _ (dC.out _ oW.drew sI) (fun hHeld=>?_);clear hK K
   try simp only[put,sA,sB,sC]
   refine bc 13 (fun K hK=>?_);skip;go_simp;refine hK.out _ _ (dC.out _ nz rv) (fun hHeld=>?_);clear hK K
   try simp only[put,sA,sB,sC]
   refine bc 14 (fun K hK=>?_);skip;skip;refine step_append_lies _ (by rfl) _ _ _ (by rfl) w.heap.size 3 i0 (.int .i64 0) 1 8 underlying43 vd dF cY cO (by rfl) (by decide) _ p (cy (dJ L1 k1)) (by rfl) cU ⟨w3.heap.size,0,none⟩ 1 1 (#[.int .i64 (k2:Int)]).toList (by rfl) (by rfl) (news_of_block (cs:=#[.int .i64 (k2:Int)]) (t:=3) (fr:=(0,0)) (heap_alloc_new w3 _)) (by simp[oneCell']) (by omega) (by unfold maxLen;omega) (by omega) xz (w3.heap.size+1) (by simp) ?_;intro gg eK w6 aq ag cj kM;have eO:=gP.out.a.n.fr.row k1 jg;have fR:=ag;rw[show (Value.slice A4 p Ak)=vQ k1 from by rw[HV.out.1,HV.out.2]] at fR;obtain⟨s6,sK⟩:=gP.out.a.n.Jb (x:=⟨k1,k2,xp,true⟩) rfl jg vY (v':=(.slice (some ⟨gg,0,none⟩) (p+1) eK)) (p:=p) aq HV.out.2 fR (fun b e=>by rw[HV.out.1,HV.out.2];injection e with e;rw[<-e];rcases cj with h|h;exact inl h;exact inr (by rw[h];simp));have fy:=gP.out.a.sT.af eO (by decide) fR;have iA:=gP.out.a.n.sn.af eO (by decide) fR;have pd:w6.cell? ⟨bn,258,none⟩=some (.slice (some ⟨gF,0,none⟩) q cF):=(by rw[iA.at_,<-gP.out.a.n.sn.at_];exact rv);have jA:=tw gP.out.a.n.fr.own eO (by decide) fR;obtain⟨t2,t3⟩:=xI.out _ jA;have fZ:b5≠gF/\bn≠gF:=(⟨fun e=>dH jA fy (by decide) gF rfl e.symm,fun e=>dH jA iA (by decide) gF rfl e.symm⟩);have HF:Hid (lC w w.heap.size b2 b3 b5 b6 b7 b8 bn bM bL (.func (.func kf) #[] #[.pointer (some ⟨bV,0,none⟩)]) mf #[.int .i64 S0,.slice (some ⟨ge,off,none⟩) n c,.int .i64 (F:Int),.int .i64 T] (cN.setIfInBounds 256 (.int .i64 (f0:Int))) (rl (di L) 256) aR cR L F f0 (k+1) (2*(k+1)+1) nn ky Af (.slice (some ⟨gF,0,none⟩) q cF) rf (fun j=>if j=k1 then (.slice (some ⟨gg,0,none⟩) (p+1) eK) else vQ j) uA xs (L1++[⟨k1,k2,xp,true⟩]) DL (w6.setCell ⟨gF,k1,none⟩ (.slice (some ⟨gg,0,none⟩) (p+1) eK))):=by
    rw[<-HQ.out];exact gP.out.put (x:=⟨xf,xt,xp,true⟩) s6 sK HS.out HK.out.1 HK.out.2 (fun i hi=>by rw[CF,if_neg (by simp)];exact gP.out.rows i hi)
   refine hK.out _ _ (dC.out _ fy pd) (fun hHeld=>?_);clear hK K aq ag cj kM s6 sK eO fR jA iA
   try simp only[put,sA,sB,sC]
   (refine ak 15 ?_;try simp only[put,sA,sB,sC])
   refine bc 16 (fun K hK=>?_);skip;go_simp;refine hK.out _ _ (dC.out _ (fy.fV (p:=⟨gF,k1,none⟩) fZ.1 _) ((E7 _ _ _ fZ.2).trans pd)) (fun hHeld=>?_);clear hK K
   try simp only[put,sA,sB,sC]
   refine wpAnyH_done (by kernel_rfl) ?_ _;clear fy fZ pd t2 t3 hHeld oW nz sI rv;go_wp2;go_roundw
   ·exact⟨k+1,nn,ky,_,_,_,_,_,_,_,DL,by go_num,by omega,by omega,HF⟩
   simp[intOf];omega
  refine ik (fun K hK=>?_) ?_
  ·skip;go_simp;refine hK.out _ _ (dC.out _ nz rv) (fun hHeld=>?_);clear hK K
   try simp only[put,sA,sB,sC]
   refine bc 11 (fun K hK=>?_);skip;go_simp;refine hK.out _ _ (dC.out _ nz rv) (fun hHeld=>?_);clear hK K
   try simp only[put,sA,sB,sC]
   refine bc 14 (fun K hK=>?_);skip;skip;refine step_append_lies _ (by rfl) _ _ _ (by rfl) w.heap.size 3 i0 (.int .i64 0) 1 8 underlying43 vd dF cY cO (by rfl) (by decide) _ p (cy (dJ L1 k1)) (by rfl) cU ⟨w3.heap.size,0,none⟩ 1 1 (#[.int .i64 (k2:Int)]).toList (by rfl) (by rfl) (news_of_block (cs:=#[.int .i64 (k2:Int)]) (t:=3) (fr:=(0,0)) (heap_alloc_new w3 _)) (by simp[oneCell']) (by omega) (by unfold maxLen;omega) (by omega) xz (w3.heap.size+1) (by simp) ?_;intro gg eK w6 aq ag cj kM;have eO:=gP.out.a.n.fr.row k1 jg;have fR:=ag;rw[show (Value.slice A4 p Ak)=vQ k1 from by rw[HV.out.1,HV.out.2]] at fR;obtain⟨s6,sK⟩:=gP.out.a.n.Jb (x:=⟨k1,k2,xp,true⟩) rfl jg vY (v':=(.slice (some ⟨gg,0,none⟩) (p+1) eK)) (p:=p) aq HV.out.2 fR (fun b e=>by rw[HV.out.1,HV.out.2];injection e with e;rw[<-e];rcases cj with h|h;exact inl h;exact inr (by rw[h];simp));have fy:=gP.out.a.sT.af eO (by decide) fR;have iA:=gP.out.a.n.sn.af eO (by decide) fR;have pd:w6.cell? ⟨bn,258,none⟩=some (.slice (some ⟨gF,0,none⟩) q cF):=(by rw[iA.at_,<-gP.out.a.n.sn.at_];exact rv);have jA:=tw gP.out.a.n.fr.own eO (by decide) fR;obtain⟨t2,t3⟩:=xI.out _ jA;have fZ:b5≠gF/\bn≠gF:=(⟨fun e=>dH jA fy (by decide) gF rfl e.symm,fun e=>dH jA iA (by decide) gF rfl e.symm⟩);have HF:Hid (lC w w.heap.size b2 b3 b5 b6 b7 b8 bn bM bL (.func (.func kf) #[] #[.pointer (some ⟨bV,0,none⟩)]) mf #[.int .i64 S0,.slice (some ⟨ge,off,none⟩) n c,.int .i64 (F:Int),.int .i64 T] (cN.setIfInBounds 256 (.int .i64 (f0:Int))) (rl (di L) 256) aR cR L F f0 (k+1) (2*(k+1)+1) nn ky Af (.slice (some ⟨gF,0,none⟩) q cF) rf (fun j=>if j=k1 then (.slice (some ⟨gg,0,none⟩) (p+1) eK) else vQ j) uA xs (L1++[⟨k1,k2,xp,true⟩]) DL (w6.setCell ⟨gF,k1,none⟩ (.slice (some ⟨gg,0,none⟩) (p+1) eK))):=by
    rw[<-HQ.out];exact gP.out.put (x:=⟨xf,xt,xp,true⟩) s6 sK HS.out HK.out.1 HK.out.2 (fun i hi=>by rw[CF,if_neg (by simp)];exact gP.out.rows i hi)
   refine hK.out _ _ (dC.out _ fy pd) (fun hHeld=>?_);clear hK K aq ag cj kM s6 sK eO fR jA iA
   try simp only[put,sA,sB,sC]
   (refine ak 15 ?_;try simp only[put,sA,sB,sC])
   refine bc 16 (fun K hK=>?_);skip;go_simp;refine hK.out _ _ (dC.out _ (fy.fV (p:=⟨gF,k1,none⟩) fZ.1 _) ((E7 _ _ _ fZ.2).trans pd)) (fun hHeld=>?_);clear hK K
   try simp only[put,sA,sB,sC]
   refine wpAnyH_done (by kernel_rfl) ?_ _;clear fy fZ pd t2 t3 hHeld oW nz sI rv;go_wp2;go_roundw
   ·exact⟨k+1,nn,ky,_,_,_,_,_,_,_,DL,by go_num,by omega,by omega,HF⟩
   simp[intOf];omega
  exact AllReadyH.nil
 obtain rfl:k=n:=by omega
 have s0:wr.cell? ⟨b5,0,none⟩=some (.pointer (some ⟨bn,0,none⟩)):=HA.out.a.sT.at_ 0;have HF:Hid (IZ (di L) mf L F w (.returned (.pointer (some ⟨bn,0,none⟩))) wr):=by
  have AB:=HA.out.rel;rw[show L.take k=L by rw[<-HH.out.2.2.2.1];exact take_length] at AB;have hpos:0<nm.length:=by
   have:=(List.getElem?_eq_some_iff.1 HA.out.hf).1;omega
  have yI:∀i (h:i<nm.length),nm.getD i 0=nm[i]:=fun i h=>by simp[List.getD,h]
  obtain⟨gM,cM,gF,cF,gS,cS,h1,h2,h3⟩:=HA.out.a.n.net (mk:=fun i=>mf (nm.getD i 0)) hpos HA.out.rows (fun i hi=>by simp[hi]);refine⟨bn,f0,gM,cM,gF,cF,gS,cS,nm,L1,_,_,_,_,csA,rfl,HA.out.a.aJ,h1,h2,h3,HA.out.a.n.cl HN.out.1 HN.out.2.1 (fun j hj=>by rw[getElem?_setIfInBounds_ne (by omega)];exact HN.out.2.2.2.1 j hj),?_,AB,HA.out.a.nd,HA.out.bd,HA.out.hf,by have:=HA.out.len;have:=HH.out.2.2.2.1;omega,HA.out.src⟩;rw[HA.out.a.n.sn.at_,getElem?_setIfInBounds_ne (by decide),getElem?_setIfInBounds_ne (by decide),getElem?_setIfInBounds_ne (by decide),Array.getElem?_setIfInBounds_self_of_lt (by rw[HN.out.2.2.1];decide)]
 go_wp2;go_ret;exact HF.out
theorem zkE(l:List Nat)(hl:∀x∈l,x<256)(i:Nat)(h:i<l.length):lE (strOf l) i=l[i]:=by
 have hs:i<(strOf l).size:=by rw[zE];exact h
 rw[<-N0 _ i hs];have h1:((strOf l).data.toList)[i]?=some ((strOf l)[i]'hs):=by
  rw[getElem?_toList];exact Array.getElem?_eq_getElem hs
 rw[AP,getElem?_map,List.getElem?_eq_getElem h] at h1;simp only[map_some,Option.some.injEq] at h1;rw[<-h1];have:=hl l[i] (getElem_mem h);simp[UInt8.toNat_ofNat];omega
theorem zoa(M:Nat)(f:Nat->Bool)(i:Nat)(h:i<(M+7) / 8):lE (jB M f) i=jH (eJ f M) i:=by
 unfold jB;rw[zkE _ (IF f M) i (by simp[fG];omega)];simp[fG]
theorem zmq(M:Nat)(f:Nat->Bool):(jB M f).size=(M+7) / 8:=by unfold jB;rw[zE];simp[fG]
def pe(L:List En)(rp:Nat->Nat)(es:List En)(c x:Nat):Prop:=∃e∈es,e.p (rp c)=true/\e.t=x
def me(L:List En)(Ls:List Nat)(i:Nat):Nat:=((Ls.take i).flatMap (cq L)).length
def jE(lc:List Nat)(j c:Nat):Nat:=if c∈lc.take j then 1 else 0
theorem WW(lc:List Nat)(j c:Nat):jE lc j c<=1:=by unfold jE;split <;> omega
theorem ziO(hn:lc.Nodup)(h:lc.take (j+1)=lc.take j++[x]):jE lc j x=0/\jE lc (j+1) x=1:=by
 have h1:(lc.take j++[x]).Nodup:=by rw[<-h];exact hn.sublist (List.take_sublist _ _)
 have h2:x∉lc.take j:=fun hx=>(List.nodup_append.1 h1).2.2 x hx x (by simp) rfl
 unfold jE;rw[h,if_neg h2,if_pos (by simp)];exact⟨rfl,rfl⟩
theorem zgN(h:lc.take (j+1)=lc.take j++[x])(hc:c≠x):jE lc (j+1) c=jE lc j c:=by
 unfold jE;rw[h];simp[hc]
theorem zkF(L:List En)(Ls:List Nat):me L Ls 0=0:=rfl
theorem Zi{st:Nat}(h:Ls.take (i+1)=Ls.take i++[st]):me L Ls (i+1)=me L Ls i+(cq L st).length:=by
 unfold me;rw[h,List.flatMap_append,List.length_append];simp
theorem Z4(Ls:List Nat)(hn:Ls.Nodup):∀L:List En,(Ls.flatMap (cq L)).length<=L.length:=by
 intro L
 induction L with
 | nil=>
  have:Ls.flatMap (cq [])=[]:=by simp[cq]
  rw[this];exact le_refl _
 | cons e L ih=>
  have key:∀l:List Nat,l.Nodup->(l.flatMap (cq (e :: L))).length<=(l.flatMap (cq L)).length+(if e.f∈l then 1 else 0):=by
   intro l hl
   induction l with
   | nil=>simp
   | cons a l ih2=>
    have h1:=ih2 (List.nodup_cons.1 hl).2;have h2:(cq (e :: L) a).length<=(cq L a).length+(if e.f=a then 1 else 0):=by
     unfold cq;rw[List.filter_cons];by_cases he:e.f=a
     ·rw[if_pos he];split <;> simp
     rw[if_neg he];have:(!e.b && e.f == a)=false:=(by simp[he]);rw[if_neg (by rw[this];decide)];exact le_refl _
    simp only[List.flatMap_cons,List.length_append];by_cases ha:e.f=a
    ·have h3:e.f∉l:=(by rw[ha];exact (List.nodup_cons.1 hl).1);rw[if_neg h3] at h1;rw[if_pos ha] at h2;rw[if_pos (by simp[ha])];omega
    rw[if_neg ha] at h2;by_cases hb:e.f∈l
    ·rw[if_pos hb] at h1;rw[if_pos (List.mem_cons_of_mem _ hb)];omega
    rw[if_neg hb] at h1;split <;> omega
  have h4:=key Ls hn;have h5:(if e.f∈Ls then 1 else 0)<=1:=by split <;> omega
  simp only[List.length_cons];omega
theorem Mt(L:List En)(hn:Ls.Nodup)(i:Nat):me L Ls i<=L.length:=Z4 (Ls.take i) (hn.sublist (List.take_sublist _ _)) L
def SA(B bm gI bM m M C bn:Nat)(K:Nat->Lit)(L:List En)(mk:Nat->Int)(SS:List (Nat->Bool))(R:List (List Int))(T:Nat->Nat->Prop)(w:World)(e:Ending)(w':World):Prop:=
 ∃(row:List Int) (jf:List (Nat->Bool)) (s9:List Int) (D':List ((Nat->Bool) × Nat)) (n':Nat) (fY:Array Value) (l':List Nat) (iN vS' vK' vN':Value) (gs':List Nat),e=.returned (.tuple #[])/\
  la B bm gI bM m M C bn K L mk jf s9 D' (R++[row]) n' fY l' iN vS' vK' vN' gs' w'/\gu M T SS C row jf/\Below B w w'
theorem zmr(B bm gI bM m M C bn gM cM gF cF gS cS n fr:Nat)(aF aS:Nat->Option Addr)(Bt DZ rp:Nat->Nat)(K:Nat->Lit)(L:List En)(mk:Nat->Int)(w:World)
  (HF:lf w B bn gF M cF aF Bt L) (HT:oo w B bn gS M cS aS DZ (fun p=>ca (fun c=>p (rp c)) C) L) (HV:kr w B bn gM M cM mk) (hE:∀e∈L,e.f<M/\e.t<M) (JT:L.length<=6400) (iP:∀i,i<M->-1<=mk i)
  (hC:cH K 256=C) (hC2:C<=256) (hM:M<=12900) (hm:(M+7) / 8=m) (SS:List (Nat->Bool)) (ms:List Int) (D:List ((Nat->Bool) × Nat)) (R:List (List Int)) (cs:Array Value) (l:List Nat) (vL vS vK vN:Value) (gs:List Nat)
  (h:la B bm gI bM m M C bn K L mk SS ms D R n cs l vL vS vK vN gs w) (sd:fr<SS.length) (hS:SS.length<=3000) (hR:R.length<=3000):
  Calls prog 120 #[.pointer (some ⟨bm,0,none⟩),.int .i64 (fr:Int)] w (SA B bm gI bM m M C bn K L mk SS R (fun c x=>FR L (Mv L (fun y=>y<M/\SS[fr] y=true) (rp c)) x) w):=by
 obtain⟨cA,Dg,QL⟩:∃cA:Array Value,cA.size=256/\∀j,j<256->cA[j]?=some (.int .u8 ((cls K j:Nat):Int)):=⟨((range 256).map fun j=>.int .u8 ((cls K j:Nat):Int)).toArray,by simp,fun j hj=>by simp[hj]⟩
 have eG:(prog.info? 98).map (·.size)=some cA.size:=by rw[Dg];kernel_rfl
 have dI:∀j v,cA.toList[j]?=some v->w.cell? ((⟨bm,1,none⟩:Addr).add j)=some v:=by
  intro j v hj;have hj2:j<256:=by
   have:=(List.getElem?_eq_some_iff.1 hj).1;simpa [Dg] using this
  have e:(⟨bm,1,none⟩:Addr).add j=⟨bm,1+j,none⟩:=by unfold Addr.add;split <;> simp_all
  have h1:=QL j hj2;rw[<-getElem?_toList,hj] at h1;rw[e,h.a.r.other (1+j) (by omega),h.cl j hj2,h1]
 have Em:=hid (YQ K cA Dg QL w);have mJ:=Wr C (by omega);have H:=hid h;have Me:=hid JT;have HN:=hid (Zz HF (Zz HT (Zz HV (Zz hE (Zz iP (Zz hm sd))))));rw[hC] at Em;obtain⟨aS0,Ct,rfl⟩:=bE h.t.os;obtain⟨xJ,rfl,_,_,Kr⟩:=fa h.t.os (by omega);have d0:=(Kr fr (by omega)).1;have d1:w.cell? ⟨bm,259,none⟩=some (.slice (some ⟨xJ,0,none⟩) SS.length Ct):=by rw[h.a.r.other 259 (by decide),h.t.cS]
 have Cu:bm<w.heap.size:=h.a.r.sm.lt;have mg:xJ<w.heap.size:=by have:=h.wR xJ ((xX ..).2 (by simp[ownBlock]));exact this
 have lJ:B<=w.heap.size:=h.a.r.hB;rw[show (strs (SS.map (jB M)))[fr]?=some (.string (jB M SS[fr])) from by simp[strs,sd]] at d0;have BN:=hid (fun W:World=>zgM (jB M SS[fr]) m (by rw[zmq,hm]) (by omega) (eJ SS[fr] M) (fun i hi=>zoa M _ i (by omega)) W);obtain⟨fs,jP⟩:∃fs,SS[fr]=fs:=⟨_,rfl⟩
 rw[jP] at d0 BN;rw[show (fun c x=>FR L (Mv L (fun y=>y<M/\SS[fr] y=true) (rp c)) x)=(fun c x=>FR L (Mv L (fun y=>y<M/\fs y=true) (rp c)) x) from by rw[jP]];have hfk:fr<SS.length:=sd;obtain⟨kS,Oo⟩:∃kS,SS.length=kS:=⟨_,rfl⟩
 have HKS:=hid Oo;rw[Oo] at d1 hfk hS;have i0:(fr:Int)<kS:=by omega
 clear h HF HT HV hE iP QL hm Kr sd jP Oo;go_enter func120,ntmps120;go_wp2_with (refine rD rfl 98 _ rfl ⟨bm,1,none⟩ rfl cA (.array 256 5) dI underlying98 rfl eG ?_);refine Em.out.mono ?_;rintro e w1 ⟨rfl,ln⟩;have lp:=ln.size;have d0':(w1.alloc (.cells (madeCells #[.slice none 0 0] C) 43)).cell? ⟨xJ,fr,none⟩=some (.string (jB M fs)):=(((al w1 _).cell (p:=⟨xJ,fr,none⟩) (by show xJ<_;omega)).trans (ln.cell (p:=⟨xJ,fr,none⟩) mg)).trans d0;have d1':(w1.alloc (.cells (madeCells #[.slice none 0 0] C) 43)).cell? ⟨bm,259,none⟩=some (.slice (some ⟨xJ,0,none⟩) kS Ct):=(((al w1 _).cell (p:=⟨bm,259,none⟩) (by show bm<_;omega)).trans (ln.cell (p:=⟨bm,259,none⟩) Cu)).trans d1;clear d0 d1 dI Em;go_wp2_with fail;refine (BN.out _).mono ?_;rintro e w3 ⟨Ls,aL,cL,rfl,hO,iM,fS,pB⟩;have Kb:=hid (ie.made w1 w.heap.size C w3 lp pB);have jm:Below w.heap.size w w3:=(ln.trans ((al w1 _).mono lp)).trans (pB.mono (by simp;omega));obtain⟨gT,Au⟩:∃gT,w1.heap.size=gT:=⟨_,rfl⟩
 have hgT3:gT<w3.heap.size:=by have:=pB.size;simp at this;omega
 rw[Au] at Kb;have rW:∀x∈Ls,x<M/\fs x=true:=fun x hx=>by have:=((fS x).1 hx).2;simpa [eJ] using this
 have xR:=hid (Zz hO (Zz iM (Zz (fun x=>show x∈Ls↔x<M/\fs x=true from ⟨rW x,fun hx=>(fS x).2 ⟨by have:=HN.out.2.2.2.2.2.1;omega,by simp[eJ,hx.1,hx.2]⟩⟩) jm)));have Ge:∀g,(Value.slice aL Ls.length cL).ownBlock=some g->g≠gT:=fun g e h=>by
  have h1:=dH hO (Kb.out.ig.1) (by decide) g e;exact h1 h
 have Yt:=hid Ge;have Pw:Ls.length<=M:=pR iM (fun x hx=>(rW x hx).1);obtain⟨q,hq⟩:∃q,Ls.length=q:=⟨_,rfl⟩
 have HQ:=hid hq;rw[hq] at Pw;rw[Au];rw[hq];clear hO iM fS pB rW Ge jm ln d0' d1' BN mJ hq Au;go_wp2;go_loopw [6,8,10,30] (fun _ _ _ v wq=>∃(i:Nat) (vs:Nat->Value) (tg:Nat->List Nat),v=.int .i64 i/\i<=q/\Hid (ie w3 w.heap.size gT C vs tg wq)/\Hid (∀c,c<C->(tg c).length<=me L Ls i/\∀x,x∈tg c↔pe L rp ((Ls.take i).flatMap (cq L)) c x)) (fun _ _ _ v _=>q-(intOf v).toNat)
 ·exact⟨0,_,_,rfl,zero_le _,Kb,fun c hc=>⟨by rw[zkF];simp,fun x=>by simp[pe]⟩⟩
 obtain⟨i,vs,tg,rfl,hi,HA,HC⟩:=hrel;clear Kb;have hW:Below w.heap.size w wr:=xR.out.2.2.2.trans HA.out.below;have HW:=hid hW;by_cases av:i<q
 ·have sE:i<Ls.length:=by rw[HQ.out];exact av
  obtain⟨gl,rfl,_,I4,fq⟩:=fa xR.out.1 (by omega);have d0:=(fq i (by omega)).1;rw[AD Ls i sE] at d0;have IY:gl≠gT:=Yt.out gl rfl;replace d0:wr.cell? ⟨gl,i,none⟩=some (.int .i64 ((Ls[i]:Nat):Int)):=(HA.out.kept.mQ (by simpa using IY) I4).trans d0;have hs:=((xR.out.2.2.1 Ls[i]).1 (getElem_mem _)).1;have O7:Hid (Ls.take (i+1)=Ls.take i++[Ls[i]]):=List.take_succ_eq_append_getElem sE;generalize Ls[i]=st at d0 hs O7;have c0:wr.cell? ⟨bm,0,none⟩=some (.pointer (some ⟨bn,0,none⟩)):=(hW.cell (p:=⟨bm,0,none⟩) Cu).trans ((H.out.a.r.other 0 (by decide)).trans H.out.c0);have dE:=HN.out.2.1.below (hW.mono lJ);have f0:=dE.fW;have k0:=dE.row st hs;have vh:=hid (HN.out.2.1.at_ st hs);obtain⟨aR,Bp⟩:∃aR,aS st=aR:=⟨_,rfl⟩
  obtain⟨GC,Ag⟩:∃GC,DZ st=GC:=⟨_,rfl⟩
  rw[Bp,Ag] at k0;rw[Bp] at vh;have HBE:Hid (∀e∈cq L st,e.t<M):=fun e he=>(HN.out.2.2.2.1 e ((LN L st e).1 he).1).2
  obtain⟨p,hp⟩:∃p,(cq L st).length=p:=⟨_,rfl⟩
  have ub:p<=6400:=by rw[<-hp];exact le_trans (SL L st) JT
  have HP:=hid hp;rw[hp] at k0;have i1:(i:Int)<q:=by omega
  have i2:(st:Int)<M:=by omega
  clear dE Bp Ag hp fq sE av hi hW IY I4;go_wp2_with fail;clear c0 f0 k0 d0;go_loopw [8,10,45] (fun _ _ v wq=>∃(k:Nat) (LI:Nat->Value) (Ay:Nat->List Nat),v=.int .i64 k/\k<=p/\Hid (ie w3 w.heap.size gT C LI Ay wq)/\Hid (∀c,c<C->(Ay c).length<=me L Ls i+k/\∀x,x∈Ay c↔pe L rp ((Ls.take i).flatMap (cq L)++(cq L st).take k) c x)) (fun _ _ v _=>p-(intOf v).toNat)
  ·exact⟨0,vs,tg,rfl,zero_le _,HA,fun c hc=>⟨(HC.out c hc).1,fun x=>by rw[(HC.out c hc).2 x];simp⟩⟩
  clear HA HC HW;obtain⟨k,LI,Ay,rfl,hk,HA,HC⟩:=hrel;have hW:Below w.heap.size w wr:=xR.out.2.2.2.trans HA.out.below;by_cases yY:k<p
  ·have hkl:k<(cq L st).length:=(by rw[HP.out];exact yY);obtain⟨gx,off,rfl,hgx,vU⟩:=vh.out (by omega);obtain⟨ac,cc,s0,s1,hI⟩:=vU k hkl;replace s0:=(hW.cell (p:=⟨gx,off+k*2,none⟩) (by show gx<_;omega)).trans s0;replace s1:=(hW.cell (p:=⟨gx,off+k*2+1,none⟩) (by show gx<_;omega)).trans s1;have tS:Hid ((cq L st).take (k+1)=(cq L st).take k++[(cq L st)[k]]):=List.take_succ_eq_append_getElem hkl;have EB:=HBE.out _ (getElem_mem hkl);generalize (cq L st)[k]=ed at s0 s1 hI tS EB;obtain⟨lc,tW⟩:∃lc,ca (fun c=>ed.p (rp c)) C=lc:=(⟨_,rfl⟩);have VM:Hid (∀x,x∈lc↔x<C/\ed.p (rp x)=true):=(fun x=>by rw[<-tW];exact Lo _ _ x);have HND:Hid (lc.Nodup):=(by rw[<-tW];exact (List.nodup_range).filter _);have Qy:lc.length<=C:=(by rw[<-tW];exact TW _ _);dsimp only at s0 hI;rw[tW] at s0 hI;have HI:=hid hI;obtain⟨pc,ta⟩:∃pc,lc.length=pc:=(⟨_,rfl⟩);have xC:=hid ta;rw[ta] at s0 Qy;obtain⟨t,ht⟩:∃t,ed.t=t:=(⟨_,rfl⟩);have HTD:=hid ht;rw[ht] at s1 EB;have i5:(k:Int)<p:=(by omega);have ym:=hid (HA.out.aa (al wr (.cells #[.slice ac pc cc,.int .i64 (t:Int)] 197)));have jY:=hid (St.new wr 197 #[.slice ac pc cc,.int .i64 (t:Int)]);clear hI tW ta ht vU hkl hW hk;go_wp2_with fail;obtain⟨g8,Qr⟩:∃g8,wr.heap.size=g8:=(⟨_,rfl⟩);rw[Qr] at jY;rw[Qr];generalize wr.alloc (.cells #[.slice ac pc cc,.int .i64 (t:Int)] 197)=W1 at ym jY⊢;clear Qr s0 s1 HA;go_loopw [10,52] (fun _ v wz=>∃(j:Nat) (FW:Nat->Value) (nZ:Nat->List Nat),v=.int .i64 j/\j<=pc/\Hid (ie w3 w.heap.size gT C FW nZ wz)/\Hid (St wz 197 g8 #[.slice ac pc cc,.int .i64 (t:Int)])/\Hid (∀c,c<C->(nZ c).length<=me L Ls i+k+jE lc j c/\∀x,x∈nZ c↔pe L rp ((Ls.take i).flatMap (cq L)++(cq L st).take k) c x\/(c∈lc.take j/\x=t))) (fun _ v _=>pc-(intOf v).toNat)
   ·exact⟨0,LI,Ay,rfl,zero_le _,ym,jY,fun c hc=>⟨by have:=(HC.out c hc).1;omega,fun x=>by rw[(HC.out c hc).2 x];simp⟩⟩
   clear ym jY;obtain⟨j,FW,nZ,rfl,hj,hY,B8,yJ⟩:=hrel;have hW:Below w.heap.size w wr:=xR.out.2.2.2.trans hY.out.below;by_cases Z1:j<pc
   ·have hjl:j<lc.length:=(by rw[xC.out];exact Z1);obtain⟨gi,oi,rfl,VZ,WG⟩:=HI.out (by omega);have s2:=(hW.cell (p:=⟨gi,oi+j,none⟩) (by show gi<_;omega)).trans (WG j hjl);have hx:=((VM.out lc[j]).1 (getElem_mem hjl)).1;have Ln:Hid (lc.take (j+1)=lc.take j++[lc[j]]):=List.take_succ_eq_append_getElem hjl;generalize lc[j]=x at s2 hx Ln;have i6:(j:Int)<pc:=(by omega);clear WG hjl hW;have Gt:Hid (∀c,c<C->((fun jj=>if jj=x then nZ x++[t] else nZ jj) c).length<=me L Ls i+k+jE lc (j+1) c/\∀y,y∈(fun jj=>if jj=x then nZ x++[t] else nZ jj) c↔pe L rp ((Ls.take i).flatMap (cq L)++(cq L st).take k) c y\/(c∈lc.take (j+1)/\y=t)):=fun c hc=>by
     obtain⟨h1,h2⟩:=yJ.out c hc;rw[Ln.out];by_cases e:c=x
     ·subst e;have hoi:=ziO HND.out Ln.out;refine⟨by simp;omega,fun y=>?_⟩;simp only[if_true,mem_append,mem_singleton,h2 y];constructor
      ·rintro ((h3|⟨h3,h4⟩)|h3)
       ·exact inl h3
       ·exact inr ⟨inl h3,h4⟩
       exact inr ⟨inr trivial,h3⟩
      rintro (h3|⟨h3,h4⟩)
      ·exact inl (inl h3)
      exact inr h4
     have hoi:=zgN Ln.out e;refine⟨by simp[e];omega,fun y=>?_⟩;show (y∈if c=x then nZ x++[t] else nZ c)↔_;rw[if_neg e,h2 y,mem_append,mem_singleton];simp[e]
    go_wp2_with fail;obtain⟨JH,Jv,hv⟩:=bE (hY.out.ig.2.1 x hx);dsimp only at hv;have gP:=hid (hY.out.aa (al wr (.cells #[.int .i64 (t:Int)] 3)).drew);have sN:=hid (B8.out.aa (al wr (.cells #[.int .i64 (t:Int)] 3)).drew);have cU:=gP.out.ig.2.1 x hx;rw[hv] at cU;dsimp only at cU;have hlen:(nZ x).length<=20000:=by
     have a1:=(yJ.out x hx).1;have a2:=Mt L xR.out.2.1 i;have a3:=WW lc j x;have a4:=Me.out;omega
    obtain⟨p3,gQ⟩:∃p3,(nZ x).length=p3:=(⟨_,rfl⟩);have k0:wr.cell? ⟨gT,x,none⟩=some (.slice JH p3 Jv):=(by rw[(hY.out.ig.cell x hx).1,hv,gQ]);have m2:(wr.alloc (.cells #[.int .i64 (t:Int)] 3)).drew.cell? ⟨gT,x,none⟩=some (.slice JH p3 Jv):=(by rw[(gP.out.ig.cell x hx).1,hv,gQ]);have sY:=hid (Zz hv gQ);have j1:(x:Int)<C:=(by omega);have j2:(0:Int)<=x:=(by omega);have xz:w3.heap.size<=((wr.alloc (.cells #[.int .i64 (t:Int)] 3)).drew).heap.size:=gP.out.below.size;rw[gQ] at cU hlen;obtain⟨i0,vd,dF,cY,cO⟩:=info_parts az;have dC:=hid (fun (W:World) (h1:St W 197 g8 #[.slice (some ⟨gi,oi,none⟩) pc cc,.int .i64 ((t:Nat):Int)])=>(h1.at_ 1:W.cell? ⟨g8,1,none⟩=some (.int .i64 ((t:Nat):Int))));clear hv gQ;refine wp_region_held_drew (S:=fun W'=>W'.cell? ⟨g8,1,none⟩=some (.int .i64 (t:Int))) (by kernel_rfl) (dC.out _ B8.out.drew) (fun hHeld=>?_)
    (refine ak 0 ?_;refine ak 1 ?_;refine ak 2 ?_;try simp only[put,sA,sB,sC];refine ak 3 ?_;refine ak 4 ?_;refine ak 6 ?_;try simp only[put,sA,sB,sC];refine ak 7 ?_;try simp only[put,sA,sB,sC])
    refine wpAnyH_ready (rs:=[5,8]) (by kernel_rfl) (by simp) ?_;refine ik (fun K hK=>?_) ?_
    ·skip;go_simp;refine hK.out _ _ (dC.out _ B8.out.drew) (fun hHeld=>?_);clear hK K
     try simp only[put,sA,sB,sC]
     refine bc 8 (fun K hK=>?_);skip;go_simp;refine hK.out _ _ (dC.out _ sN.out) (fun hHeld=>?_);clear hK K
     try simp only[put,sA,sB,sC]
     refine bc 9 (fun K hK=>?_);skip;skip;refine step_append_lies _ (by rfl) _ _ _ (by rfl) w3.heap.size 3 i0 (.int .i64 0) 1 8 underlying43 vd dF cY cO (by rfl) (by decide) _ p3 (cy (nZ x)) (by rfl) cU ⟨wr.heap.size,0,none⟩ 1 1 (#[.int .i64 (t:Int)]).toList (by rfl) (by rfl) (news_of_block (cs:=#[.int .i64 (t:Int)]) (t:=3) (fr:=(0,0)) (heap_alloc_new wr _)) (by simp[oneCell']) (by omega) (by unfold maxLen;omega) (by omega) xz (wr.heap.size+1) (by simp) ?_;intro gg eK w6 aq ag cj kM;have fE:=sN.out.af cU (by decide) ag;have mo:=gP.out.ig.1.af cU (by decide) ag;have t2:w6.cell? ⟨gT,x,none⟩=some (.slice JH p3 Jv):=(by rw[mo.at_];simp only[getElem?_toArray,getElem?_map,getElem?_range hx,map_some,sY.out.1,sY.out.2]);have t3:=mo.aX x;have HF:Hid (ie w3 w.heap.size gT C (fun j=>if j=x then (.slice (some ⟨gg,0,none⟩) (p3+1) eK) else FW j) (fun j=>if j=x then nZ x++[t] else nZ j) (w6.setCell ⟨gT,x,none⟩ (.slice (some ⟨gg,0,none⟩) (p3+1) eK))):=
      gP.out.app hx sY.out.2 aq (by rw[sY.out.1,sY.out.2];exact ag) (fun b e=>by rw[sY.out.1,sY.out.2];injection e with e;rw[<-e];rcases cj with h|h;exact inl h;exact inr (by rw[h];simp))
     have Cn:Hid (St (w6.setCell ⟨gT,x,none⟩ (.slice (some ⟨gg,0,none⟩) (p3+1) eK)) 197 g8 #[.slice (some ⟨gi,oi,none⟩) pc cc,.int .i64 (t:Int)]):=fE.fD mo (by decide) x _;refine hK.out _ _ (dC.out _ fE) (fun hHeld=>?_);clear hK K aq ag cj kM
     try simp only[put,sA,sB,sC]
     (refine ak 10 ?_;try simp only[put,sA,sB,sC])
     refine bc 11 (fun K hK=>?_);skip;go_simp;refine hK.out _ _ (dC.out _ (fE.fD mo (by decide) x _)) (fun hHeld=>?_);clear hK K
     try simp only[put,sA,sB,sC]
     refine wpAnyH_done (by kernel_rfl) ?_ _;clear fE mo t2 t3 hHeld;go_wp2;go_roundw
     ·exact⟨j+1,_,_,by go_num,by omega,HF,Cn,Gt⟩
     simp[intOf];omega
    refine ik (fun K hK=>?_) ?_
    ·skip;go_simp;refine hK.out _ _ (dC.out _ sN.out) (fun hHeld=>?_);clear hK K
     try simp only[put,sA,sB,sC]
     refine bc 5 (fun K hK=>?_);skip;go_simp;refine hK.out _ _ (dC.out _ sN.out) (fun hHeld=>?_);clear hK K
     try simp only[put,sA,sB,sC]
     refine bc 9 (fun K hK=>?_);skip;skip;refine step_append_lies _ (by rfl) _ _ _ (by rfl) w3.heap.size 3 i0 (.int .i64 0) 1 8 underlying43 vd dF cY cO (by rfl) (by decide) _ p3 (cy (nZ x)) (by rfl) cU ⟨wr.heap.size,0,none⟩ 1 1 (#[.int .i64 (t:Int)]).toList (by rfl) (by rfl) (news_of_block (cs:=#[.int .i64 (t:Int)]) (t:=3) (fr:=(0,0)) (heap_alloc_new wr _)) (by simp[oneCell']) (by omega) (by unfold maxLen;omega) (by omega) xz (wr.heap.size+1) (by simp) ?_;intro gg eK w6 aq ag cj kM;have fE:=sN.out.af cU (by decide) ag;have mo:=gP.out.ig.1.af cU (by decide) ag;have t2:w6.cell? ⟨gT,x,none⟩=some (.slice JH p3 Jv):=(by rw[mo.at_];simp only[getElem?_toArray,getElem?_map,getElem?_range hx,map_some,sY.out.1,sY.out.2]);have t3:=mo.aX x;have HF:Hid (ie w3 w.heap.size gT C (fun j=>if j=x then (.slice (some ⟨gg,0,none⟩) (p3+1) eK) else FW j) (fun j=>if j=x then nZ x++[t] else nZ j) (w6.setCell ⟨gT,x,none⟩ (.slice (some ⟨gg,0,none⟩) (p3+1) eK))):=
      gP.out.app hx sY.out.2 aq (by rw[sY.out.1,sY.out.2];exact ag) (fun b e=>by rw[sY.out.1,sY.out.2];injection e with e;rw[<-e];rcases cj with h|h;exact inl h;exact inr (by rw[h];simp))
     have Cn:Hid (St (w6.setCell ⟨gT,x,none⟩ (.slice (some ⟨gg,0,none⟩) (p3+1) eK)) 197 g8 #[.slice (some ⟨gi,oi,none⟩) pc cc,.int .i64 (t:Int)]):=fE.fD mo (by decide) x _;refine hK.out _ _ (dC.out _ fE) (fun hHeld=>?_);clear hK K aq ag cj kM
     try simp only[put,sA,sB,sC]
     (refine ak 10 ?_;try simp only[put,sA,sB,sC])
     refine bc 11 (fun K hK=>?_);skip;go_simp;refine hK.out _ _ (dC.out _ (fE.fD mo (by decide) x _)) (fun hHeld=>?_);clear hK K
     try simp only[put,sA,sB,sC]
     refine wpAnyH_done (by kernel_rfl) ?_ _;clear fE mo t2 t3 hHeld;go_wp2;go_roundw
     ·exact⟨j+1,_,_,by go_num,by omega,HF,Cn,Gt⟩
     simp[intOf];omega
    exact AllReadyH.nil
   obtain rfl:j=pc:=(by omega);have HZ:Hid (∀c,c<C->(nZ c).length<=me L Ls i+(k+1)/\∀x,x∈nZ c↔pe L rp ((Ls.take i).flatMap (cq L)++(cq L st).take (k+1)) c x):=fun c hc=>by
    obtain⟨h1,h2⟩:=yJ.out c hc;refine⟨by have:=WW lc j c;omega,fun x=>?_⟩;rw[h2 x,tS.out,<-xC.out,take_length,VM.out c,<-HTD.out];unfold pe;simp only[mem_append,mem_singleton];constructor
    ·rintro (⟨e,he,h3,h4⟩|⟨⟨_,h3⟩,h4⟩)
     ·exact⟨e,by rcases he with he|he;exact inl he;exact inr (inl he),h3,h4⟩
     exact⟨ed,inr (inr rfl),h3,h4.symm⟩
    rintro⟨e,he,h3,h4⟩;rcases he with he|he|rfl
    ·exact inl ⟨e,inl he,h3,h4⟩
    ·exact inl ⟨e,inr he,h3,h4⟩
    exact inr ⟨⟨hc,h3⟩,h4.symm⟩
   clear hW;go_wp2;go_roundw
   ·exact⟨k+1,FW,nZ,by go_num,by omega,hY,HZ⟩
   simp[intOf];omega
  obtain rfl:k=p:=by omega
  have HZ:Hid (∀c,c<C->(Ay c).length<=me L Ls (i+1)/\∀x,x∈Ay c↔pe L rp ((Ls.take (i+1)).flatMap (cq L)) c x):=fun c hc=>by
   obtain⟨h1,h2⟩:=HC.out c hc;refine⟨by rw[Zi O7.out,HP.out];exact h1,fun x=>?_⟩;rw[h2 x,O7.out,<-HP.out,take_length,List.flatMap_append];simp
  clear hW;go_wp2;go_roundw
  ·exact⟨i+1,LI,Ay,by go_num,by omega,HA,HZ⟩
  simp[intOf];omega
 obtain rfl:i=q:=by omega
 have HZ:Hid (∀c,c<C->(tg c).length<=6400/\∀x,x∈tg c↔pe L rp (Ls.flatMap (cq L)) c x):=fun c hc=>by
  obtain⟨h1,h2⟩:=HC.out c hc;refine⟨by have a2:=Mt L xR.out.2.1 i;have a4:=Me.out;omega,fun x=>?_⟩;rw[h2 x,<-HQ.out,take_length]
 have NV:gT<wr.heap.size:=by have:=HA.out.below.size;omega
 have rm:=zkB C (by omega);have HVs:=hid (Kept.refl [] [] wr);have H1:=hid (H.out.aa hW);have Ic:∀x∈im bm gI bM vL (.slice (some ⟨xJ,0,none⟩) SS.length Ct) vK,x<w.heap.size:=H.out.wR;have wG:w.heap.size<=gT:=HA.out.lo.1;have ri:=hid (Zz Ic wG);clear Ic wG;go_wp2_with fail;obtain⟨gR,zW⟩:∃gR,wr.heap.size=gR:=⟨_,rfl⟩
 rw[zW];have HG:=hid (HA.out.ig);have Ni:Hid (∀c,c<C->∀b,(vs c).ownBlock=some b->b<gR/\w3.heap.size<=b):=fun c hc b e=>by
  obtain⟨c1,fz,h1⟩:=pG (HG.out.2.1 c hc) b e;exact⟨by rw[<-zW];exact (Array.getElem?_eq_some_iff.1 h1).1,jZ (HG.out.2.1 c hc) b e⟩
 have jT:Hid (St (wr.alloc (.cells (madeCells #[.int .i64 0] C) 3)) 3 gR (ints (replicate C 0)).toArray):=by
  show St _ _ _ _;rw[<-ziM,<-zW];exact St.new _ _ _
 have H2:=hid (H1.out.aa (al wr (.cells (madeCells #[.int .i64 0] C) 3)));have xj:=hid (HG.out.aa (al wr (.cells (madeCells #[.int .i64 0] C) 3)));have hVs:(wr.alloc (.cells (madeCells #[.int .i64 0] C) 3)).heap.size=gR+1:=by simp[zW]
 have Oh:Below w.heap.size w (wr.alloc (.cells (madeCells #[.int .i64 0] C) 3)):=(hW.trans ((al wr _).mono hW.size))
 have N4:=hid Oh;generalize wr.alloc (.cells (madeCells #[.int .i64 0] C) 3)=V at jT H2 xj hVs Oh N4⊢;obtain⟨ug,GJ⟩:∃ug,im bm gI bM vL (.slice (some ⟨xJ,0,none⟩) SS.length Ct) vK=ug:=⟨_,rfl⟩
 have V6:=hid GJ;clear H1 HG HVs Oh rm hW GJ;have hgTR:gT<gR:=by omega
 have HTC:Hid (∀c,c<C->(fun x=>FR L (fun y=>y∈tg c) x)=(fun x=>FR L (Mv L (fun y=>y<M/\fs y=true) (rp c)) x)):=fun c hc=>funext fun x=>propext (FR.congr (fun y=>by
  rw[(HC.out c hc).2 y]
  rw[<-HQ.out,take_length]
  constructor
  ·rintro⟨e,he,h1,h2⟩
   obtain⟨st,dE,he⟩:=List.mem_flatMap.1 he
   obtain⟨h3,h4,h5⟩:=(LN L st e).1 he
   exact⟨e,h3,h4,h1,by rw[h5];exact (xR.out.2.2.1 st).1 dE,h2⟩
  ·rintro⟨e,h3,h4,h1,h5,h2⟩
   exact⟨e,List.mem_flatMap.2 ⟨e.f,(xR.out.2.2.1 e.f).2 h5,(LN L e.f e).2 ⟨h3,h4,rfl⟩⟩,h1,h2⟩) x)
 have HTL:Hid (∀c,c<C->(tg c).length<=6400/\∀x∈tg c,x<M):=fun c hc=>⟨by have a1:=(HC.out c hc).1;have a2:=Mt L xR.out.2.1 i;have a4:=Me.out;omega,fun x hx=>by
  obtain⟨e,he,h1,h2⟩:=((HC.out c hc).2 x).1 hx
  obtain⟨st,dE,he⟩:=List.mem_flatMap.1 he
  rw[<-h2]
  exact (HN.out.2.2.2.1 e ((LN L st e).1 he).1).2⟩
 have Bs:Hid (∀x∈ug,x<w.heap.size):=by rw[<-V6.out];exact ri.out.1
 have wG:w.heap.size<=gT:=ri.out.2;clear HC HA hi av HW ri NV;go_loopw [12,13,75] (fun _ _ v wq=>∃(c:Nat) (row:List Int) (jf:List (Nat->Bool)) (s9:List Int) (D':List ((Nat->Bool) × Nat)) (n':Nat) (fY:Array Value) (l':List Nat) (iN vS' vK':Value),v=.int .i64 c/\c<=C/\
  Hid (la B bm gI bM m M C bn K L mk jf s9 D' R n' fY l' iN vS' vK' vN gs wq)/\Hid (gu M (fun c x=>FR L (Mv L (fun y=>y<M/\fs y=true) (rp c)) x) SS c row jf)/\Hid (Kept [] (gR :: ug) V wq/\Below B V wq/\(∀x∈im bm gI bM iN vS' vK',x∈ug\/V.heap.size<=x)/\St wq 3 gR (ints (row++replicate (C-c) 0)).toArray/\∀x∈gs,x≠gR)) (fun _ _ v _=>C-(intOf v).toNat)
 case atStart=>exact⟨0,[],SS,ms,D,n,cs,l,vL,_,vK,rfl,zero_le _,H2,gu.zero,Kept.refl _ _ _,Below.refl _ _,fun x hx=>inl (by rw[<-V6.out];exact hx),by simpa using jT.out,fun x hx e=>by
  obtain⟨i1,h1,h2⟩:=List.getElem_of_mem hx
  have h3:=(H.out.nx.row i1 h1 (by rw[<-H.out.nx.len];exact h1)).1.lt
  omega⟩
 case round=>
  clear H2 jT;obtain⟨c,row,jf,s9,D',n',fY,l',iN,vS',vK',rfl,hc,HM,vh,HK⟩:=hrel;have uC:=vh.out.len;have Ol:gR∉ug:=fun h=>by have:=Bs.out _ h;omega
  have Cf:gT∉gR :: ug:=fun h=>by
   rcases List.mem_cons.1 h with h|h
   ·omega
   have:=Bs.out _ h;omega
  have vl:gR∉im bm gI bM iN vS' vK':=fun h=>by
   rcases HK.out.2.2.1 _ h with h|h
   ·exact Ol h
   omega
  have jm:Below B w wr:=(N4.out.mono lJ).trans HK.out.2.1;by_cases av:c<C
  ·have hO:=xj.out.2.1 c av;obtain⟨aT,cT,hv⟩:=bE hO;dsimp only at hv hO;have t0:wr.cell? ⟨gT,c,none⟩=some (.slice aT (tg c).length cT):=(by rw[HK.out.1.mQ Cf (by omega),(xj.out.cell c av).1,hv]);have BX:=Ni.out c av;rw[hv] at hO BX;have V4:Hid (∀W:World,(∀g,g∉gR :: ug->g<V.heap.size->W.heap[g]?=V.heap[g]?)->AJ W W.heap.size aT (tg c)):=fun W hW h0=>by
    obtain⟨gt,rfl,rz,LW,fI⟩:=fa hO h0;have h1:=(BX gt rfl).1;have h2:=hW gt (fun h=>by
     rcases List.mem_cons.1 h with h|h
     ·omega
     ·have:=Bs.out _ h;omega) LW
    refine⟨gt,0,rfl,?_,fun j hj=>?_⟩
    ·rw[Array.getElem?_eq_getElem LW] at h2;exact (Array.getElem?_eq_some_iff.1 h2).1
    rw[zero_add];have h3:W.cell? ⟨gt,j,none⟩=V.cell? ⟨gt,j,none⟩:=(by simp only[World.cell?,h2]);rw[h3,(fI j (by omega)).1,AD (tg c) j hj]
   have vw:=HTL.out c av;have EB:=hid vw.2;replace vw:=vw.1;have QF:=hid (HTC.out c av);obtain⟨tc,I2⟩:∃tc,tg c=tc:=(⟨_,rfl⟩);rw[I2] at t0 V4 vw EB QF;have cU:row.length=c:=uC.1;have dE:=HK.out.2.2.2.1;rw[zkC row C c av] at dE;have e0:wr.cell? ⟨gR,c,none⟩=some (.int .i64 0):=(by rw[dE.at_,XR row C c cU]);have e1:=dE.aX c;have nN:Hid (St (wr.setCell ⟨gR,c,none⟩ (.int .i64 (-1))) 3 gR (ints ((row++[-1])++replicate (C-(c+1)) 0)).toArray):=by
    have:=dE.set c (.int .i64 (-1));rwa [TS row C c cU av] at this
   have pP:Kept [] [gR] wr (wr.setCell ⟨gR,c,none⟩ (.int .i64 (-1))):=(Kept.refl _ _ _).setCell _ _ (inl (by simp));have eU:Below B wr (wr.setCell ⟨gR,c,none⟩ (.int .i64 (-1))):=(Below.refl _ _).setCell (p:=⟨gR,c,none⟩) (by show B<=gR;omega) _;have zb:=hid (HM.out.fV pP eU (fun x hx h=>vl (by rw[<-List.mem_singleton.1 h];exact hx)) (fun b e h=>dH HM.out.nx.own dE (by decide) b e (List.mem_singleton.1 h)) (fun x hx h=>HK.out.2.2.2.2 x hx (List.mem_singleton.1 h)));have nc:Hid (Kept [] (gR :: ug) V (wr.setCell ⟨gR,c,none⟩ (.int .i64 (-1)))/\Below B V (wr.setCell ⟨gR,c,none⟩ (.int .i64 (-1)))):=(⟨HK.out.1.setCell _ _ (inl (by simp)),HK.out.2.1.trans eU⟩);have i1:(c:Int)<C:=(by omega);obtain⟨p,hp⟩:∃p,tc.length=p:=(⟨_,rfl⟩);rw[hp] at t0 vw;have HP:=hid hp;clear hO hv BX dE pP eU hp;go_upto_region 19 with fail;generalize wr.setCell ⟨gR,c,none⟩ (.int .i64 (-1))=W1 at nN zb nc⊢;have nj:Hid (∀x∈im bm gI bM iN vS' vK',x∈ug\/V.heap.size<=x):=HK.out.2.2.1;have Nt:Hid (∀x∈gs,x≠gR):=HK.out.2.2.2.2;clear e0 e1 t0 HK HM;by_cases EH:p=0
   ·subst EH;have HZ:Hid (gu M (fun c x=>FR L (Mv L (fun y=>y<M/\fs y=true) (rp c)) x) SS (c+1) (row++[-1]) jf):=by
     refine gu.succ vh.out (inl ⟨fun x hx h=>?_,rfl,rfl⟩);have h1:=congrFun QF.out x;have h2:FR L (fun y=>y∈tc) x:=by
      have e:(FR L (fun y=>y∈tc) x)=_:=h1;rw[e];exact h
     rw[List.length_eq_zero_iff.1 HP.out] at h2;exact FR.none (fun x h=>by simp at h) x h2
    clear uC cU I2;go_wp2;go_roundw
    ·exact⟨c+1,row++[-1],jf,s9,D',n',fY,l',iN,vS',vK',by go_num,by omega,zb,HZ,nc.out.1,nc.out.2,nj.out,nN.out,Nt.out⟩
    simp[intOf];omega
   have hq0:(0:Int)<p:=(by omega);have hSl:jf.length<=3256:=(by have:=HKS.out;omega);have dk:n'<=100000:=(by have:=zb.out.hn;omega);have oy:l'.length<=100000:=(by have:=zb.out.a.len;omega);have tF:Below B w W1:=(N4.out.mono lJ).trans nc.out.2;have dz:=hid (Wy W1 B (im bm gI bM iN vS' vK') bm gI m M bM bn gM cM gF cF aF Bt L (HN.out.1.below tF) HN.out.2.2.2.1 (by omega) fY mk (HN.out.2.2.1.below tF) HN.out.2.2.2.2.1 zb.out.c0 (by omega) HN.out.2.2.2.2.2.1 _ l' iN vS' vK' n' jf s9 D' (by omega) dk oy
    aT p cT tc HP.out (by omega) EB.out (fun W hW=>V4.out W (fun g hg hl=>by
     have h1:=nc.out.1 g _ (Array.getElem?_eq_getElem hl) (fun _ _ _ _=>by simp) hg
     rw[Array.getElem?_eq_getElem hl]
     exact hW g _ h1 (fun _ _ _ _=>by simp) (fun hm=>by
      rcases nj.out _ hm with h|h
      ·exact hg (List.mem_cons_of_mem _ h)
      ·omega))) W1 zb.out.a.r zb.out.t zb.out.inv)
   have h0:∃x,x<M/\FR L (fun y=>y∈tc) x:=by
    have fH:0<tc.length:=(by rw[HP.out];omega);exact⟨tc[0],EB.out _ (getElem_mem fH),.base (getElem_mem fH)⟩
   have H0:=hid h0;have yR:=hid vl;clear h0 tF uC I2 vl jm Cf dk oy;go_wp2_with fail;refine dz.out.mono ?_;rintro e w5 qy;obtain⟨r,Ad,Nr,D2,n2,Oe,l2,qB,DV,FY,rfl,JV,hAdd,ey,ma,bZ⟩:=zb.out.close qy H0.out;have fm:=nN.out.kept ey (by simp) yR.out;have e0:w5.cell? ⟨gR,c,none⟩=some (.int .i64 (-1)):=(by rw[fm.at_,XR row C c cU]);have e1:=fm.aX c;have F5:gR∉im bm gI bM qB DV FY:=fun h=>by
    rcases bZ _ h with h|h
    ·exact yR.out h
    have:=nN.out.lt;omega
   have Gb:Kept [] [gR] w5 (w5.setCell ⟨gR,c,none⟩ (.int .i64 r)):=(Kept.refl _ _ _).setCell _ _ (inl (by simp));have iL:Below B w5 (w5.setCell ⟨gR,c,none⟩ (.int .i64 r)):=(Below.refl _ _).setCell (p:=⟨gR,c,none⟩) (by show B<=gR;omega) _;have HM3:=hid (JV.fV Gb iL (fun x hx h=>F5 (by rw[<-List.mem_singleton.1 h];exact hx)) (fun b e h=>dH JV.nx.own fm (by decide) b e (List.mem_singleton.1 h)) (fun x hx h=>Nt.out x hx (List.mem_singleton.1 h)));have xE:Kept [] (gR :: ug) V w5:=fun k o hk ho hn=>ey k o (nc.out.1 k o hk ho hn) ho (fun hm=>by
    rcases nj.out _ hm with h|h
    ·exact hn (List.mem_cons_of_mem _ h)
    ·have:=(Array.getElem?_eq_some_iff.1 hk).1;omega)
   have HZ:Hid (Kept [] (gR :: ug) V (w5.setCell ⟨gR,c,none⟩ (.int .i64 r))/\Below B V (w5.setCell ⟨gR,c,none⟩ (.int .i64 r))/\(∀x∈im bm gI bM qB DV FY,x∈ug\/V.heap.size<=x)/\St (w5.setCell ⟨gR,c,none⟩ (.int .i64 r)) 3 gR (ints (row++[r]++replicate (C-(c+1)) 0)).toArray/\∀x∈gs,x≠gR):=by
    refine⟨xE.setCell _ _ (inl (by simp)),(nc.out.2.trans ma).trans iL,fun x hx=>?_,?_,Nt.out⟩
    ·rcases bZ x hx with h|h
     ·exact nj.out x h
     exact inr (le_trans nc.out.2.size h)
    have:=fm.set c (.int .i64 r);rwa [TS row C c cU av] at this
   have yt:Hid (gu M (fun c x=>FR L (Mv L (fun y=>y<M/\fs y=true) (rp c)) x) SS (c+1) (row++[r]) Ad):=by
    refine gu.succ vh.out ?_;rw[QF.out] at hAdd;exact hAdd
   clear qy JV hAdd ey ma bZ fm F5 Gb iL xE dz;go_wp2;go_roundw
   ·exact⟨c+1,row++[r],Ad,Nr,D2,n2,Oe,l2,qB,DV,FY,by go_num,by omega,HM3,yt,HZ⟩
   simp[intOf];omega
  obtain rfl:c=C:=by omega
  obtain⟨aN,cN,rfl⟩:=bE HM.out.nx.own;have n0:wr.cell? ⟨bm,257,none⟩=some (.slice aN R.length cN):=by rw[HM.out.a.r.other 257 (by decide),HM.out.cN]
  have hO:=HM.out.nx.own;have hBB:=HM.out.a.r.hB;have HRL:Hid (St wr 3 gR (ints row).toArray):=by
   have:=HK.out.2.2.2.1;show St _ _ _ _;simpa using this
  obtain⟨kR,MG⟩:∃kR,R.length=kR:=⟨_,rfl⟩
  rw[MG] at n0 hO hR;have GZ:=hid MG;obtain⟨i9,Ey,dF,cY,cO⟩:=info_parts dR;have yR:=hid vl;have HBw:=hid jm;clear MG uC vl Cf jm;go_wp2_with (at_builtin;refine wpList_append_own_at _ rfl _ _ 99 rfl B 43 i9 (.slice none 0 0) 1 24 underlying99 Ey dF cY cO rfl (by decide) _ _ _ rfl (hO.alloc _) ⟨wr.heap.size,0,none⟩ 1 1 [.slice (some ⟨gR,0,none⟩) c c] rfl rfl (cell_one_new _ _ _) ?d2 ?d3 ?d4 ?d5 ?_)
  case d2=>intro u hu;simp at hu;subst hu;rfl
  case d3=>unfold maxLen;omega
  case d4=>omega
  case d5=>simp;omega
  intro v' w5 an aj _ bw;obtain⟨a5,c5,rfl⟩:=bE an;have h2:=HM.out.aa (al wr (.cells #[.slice (some ⟨gR,0,none⟩) c c] 43));have aq:=an;rw[<-GZ.out] at aq;obtain⟨hF,TM⟩:=h2.next (HRL.out.aa (al wr _)) yR.out (v':=.slice a5 (kR+1) c5) (by simpa [GZ.out] using aq) (by rw[GZ.out];exact aj)
  have rP:St w5 168 bm _:=h2.a.r.sm.af h2.nx.own (by decide) (by rw[GZ.out];exact aj);have p3:w5.cell? ⟨bm,257,none⟩=some (.slice aN kR cN):=by rw[rP.at_,getElem?_setIfInBounds_ne (by decide),h2.cN,GZ.out]
  have pf:=rP.aX 257;have CR:Hid (SA B bm gI bM m M c bn K L mk SS R (fun c x=>FR L (Mv L (fun y=>y<M/\fs y=true) (rp c)) x) w (.returned (.tuple #[])) (w5.setCell ⟨bm,257,none⟩ (.slice a5 (kR+1) c5))):=
   ⟨row,jf,s9,D',n',_,l',iN,vS',vK',_,_,rfl,hF,vh.out,(HBw.out.trans ((al wr _).mono HM.out.a.r.hB)).trans TM⟩
  clear an aq aj bw h2 rP hF TM hO n0;go_wp2_with fail;refine bodyPost_ret (results_none rfl _ _ _) rfl ?_;exact CR.out
theorem zms(K:Nat->Lit)(h:cls K x=cls K y):K x=K y:=by
 have hx:cls K (fst K x)=cls K x:=by unfold cls;rw[JC]
 have hy:cls K (fst K y)=cls K y:=by unfold cls;rw[JC]
 have e:fst K x=fst K y:=by
  rcases Nat.lt_trichotomy (fst K x) (fst K y) with h1|h1|h1
  ·have h2:=DB K (fst K x) (fst K y) h1;have h3:cH K (fst K y)=cls K y:=rfl;omega
  ·exact h1
  have h2:=DB K (fst K y) (fst K x) h1;have h3:cH K (fst K x)=cls K x:=rfl;omega
 rw[<-(xO K x).2.1,<-(xO K y).2.1,e]
noncomputable def pn (K:Nat->Lit) (c:Nat):Nat:=(rl K 256).getD c 0
theorem PU(K:Nat->Lit)(b:Nat)(hb:b<256):cls K b<(rl K 256).length/\K (pn K (cls K b))=K b:=by
 have h1:=DB K b 256 hb;have h2:cls K b<(rl K 256).length:=by rw[yO];omega
 refine⟨h2,zms K ?_⟩;have:pn K (cls K b)=(rl K 256)[cls K b]:=by simp[pn,getD_eq_getElem?_getD,h2]
 rw[this];exact (VF K 256 (cls K b) h2).1
theorem zo4(L:List En)(h:di L x=di L y):∀e∈L,e.b=false->e.p x=e.p y:=by
 intro e he hb;have h1:=(ziZ _ _ _ _).1 h;have hm:e.p∈bI (L.map En.z):=by
  unfold bI;exact List.mem_map.2 ⟨e.z,List.mem_filter.2 ⟨List.mem_map.2 ⟨e,he,rfl⟩,by simp[En.z,hb]⟩,rfl⟩
 obtain⟨i,hi,e1⟩:=List.getElem_of_mem hm;have h2:=h1 i hi;have h3:qz (L.map En.z) i=e.p:=by simp[qz,getD_eq_getElem?_getD,hi,e1]
 rw[h3] at h2;exact h2
theorem zpp(L:List En)(b:Nat)(hb:b<256):∀e∈L,e.b=false->e.p (pn (di L) (cls (di L) b))=e.p b:=zo4 L (PU (di L) b hb).2
theorem Mv.byte{A:Nat->Prop}{d:Nat}(h:∀e∈L,e.b=false->e.p c=e.p d)(x:Nat):Mv L A c x↔Mv L A d x:=
 ⟨fun ⟨e,h1,h2,h3,h4,h5⟩=>⟨e,h1,h2,by rw[<-h e h1 h2];exact h3,h4,h5⟩,fun ⟨e,h1,h2,h3,h4,h5⟩=>⟨e,h1,h2,by rw[h e h1 h2];exact h3,h4,h5⟩⟩
theorem Mv.none{A:Nat->Prop}(h:∀x,¬A x)(c x:Nat):¬Mv L A c x:=fun ⟨e,_,_,_,h4,_⟩=>h _ h4
theorem bD.Yh(hn:nm.Nodup){A' A:Nat->Prop}(h:sG nm A' A)(hr:bD (fun i=>mf (nm.getD i 0)) A' r):bD mf A r:=by
 rcases hr with ⟨h1,h2⟩|⟨h1,⟨x,hx,h2⟩,h3⟩
 ·refine inl ⟨h1,fun x hx=>?_⟩;obtain⟨i,hi,rfl⟩:=(h.2 x).1 hx;exact h2 i hi
 refine inr ⟨h1,⟨nm.getD x 0,(h.2 _).2 ⟨x,hx,rfl⟩,h2⟩,fun y hy=>?_⟩;obtain⟨i,hi,rfl⟩:=(h.2 y).1 hy;exact h3 i hi
def DK(L:List En)(M:Nat)(rp:Nat->Nat)(f:Nat->Bool)(c x:Nat):Prop:=FR L (Mv L (fun y=>y<M/\f y=true) (rp c)) x
structure Made (L:List En)(F:Nat)(nm:List Nat)(L':List En)(f0:Nat)(s0:Nat->Bool)(k:Nat)(R:List (List Int))(SS:List (Nat->Bool)):Prop where
 oc:L=L'.map (En.oc nm)
 nd:nm.Nodup
 bd:∀e∈L',e.f<nm.length/\e.t<nm.length
 hf:nm[f0]?=some F
 src:∀x∈nm,Src L F F x
 st:∀x,x<nm.length->(s0 x=true↔FR L' (fun y=>y=f0) x)
 run:hJ nm.length (rl (di L) 256).length (DK L' nm.length (pn (di L))) [s0] k R SS
theorem Made.rep{f0:Nat}(h:Made L F nm L' f0 s0 k R SS)(b:Nat)(hb:b<256):∀e∈L',e.b=false->e.p (pn (di L) (cls (di L) b))=e.p b:=by
 intro e he h2;have h3:e.oc nm∈L:=by rw[h.oc];exact List.mem_map.2 ⟨e,he,rfl⟩
 exact zpp L b hb (e.oc nm) h3 h2
def r8(M:Nat)(SS:List (Nat->Bool))(A:Nat->Prop)(a:Int):Prop:=(a=-1/\∀x,¬A x)\/∃(j:Nat) (h:j<SS.length),a=((j:Nat):Int)/\∀x,x<M->(SS[j] x=true↔A x)
theorem Made.start{f0:Nat}(h:Made L F nm L' f0 s0 k R SS)(z:Nat->Nat):r8 nm.length SS (bW L' f0 z 0) 0:=by
 have hp:=h.run.pre;have h0:0<SS.length:=Nat.lt_of_lt_of_le (by simp) hp.length_le;have h1:s0=SS[0]:=by
  have:=hp.getElem (i:=0) (by simp);simpa using this
 exact inr ⟨0,h0,rfl,fun x hx=>by rw[<-h1];exact h.st x hx⟩
theorem Made.step{L:List En}{F f0 k:Nat}{nm:List Nat}{L':List En}{s0:Nat->Bool}{R:List (List Int)}{SS:List (Nat->Bool)}(h:Made L F nm L' f0 s0 k R SS)(hk:SS.length=k)(z:Nat->Nat)(t j:Nat)(hz:z t<256)(hs:r8 nm.length SS (bW L' f0 z t) (j:Int)):
  ∃(hj:j<R.length) (hc:cls (di L) (z t)<R[j].length),r8 nm.length SS (bW L' f0 z (t+1)) R[j][cls (di L) (z t)]:=by
 have lH:=h.run.len;obtain⟨pt,_⟩:=PU (di L) (z t) hz;rcases hs with ⟨h1,_⟩|⟨j',J8,e,hS⟩
 ·omega
 have e2:j'=j:=by omega
 subst e2;have Gv:j'<R.length:=by omega
 have cU:=h.run.rI R[j'] (getElem_mem Gv);refine⟨Gv,by omega,?_⟩;obtain⟨qw,ht⟩:=h.run.oH j' Gv;have I2:=ht (cls (di L) (z t)) (by omega);have hA:∀x,DK L' nm.length (pn (di L)) SS[j'] (cls (di L) (z t)) x↔bW L' f0 z (t+1) x:=by
  intro x;show FR L' _ x↔FR L' _ x;refine FR.congr (fun y=>?_) x;rw[Mv.byte (h.rep (z t) hz) y];refine Mv.congr (fun w=>⟨fun hw=>(hS w hw.1).1 hw.2,fun hw=>?_⟩) _ y;have av:w<nm.length:=bW.lt (f:=f0) (List.getElem?_eq_some_iff.1 h.hf).1 (fun e he=>(h.bd e he).2) t hw;exact⟨av,(hS w av).2 hw⟩
 rcases I2 with ⟨h1,h2⟩|⟨_,j2,hj2,h1,h2⟩
 ·refine inl ⟨h1,fun x hx=>?_⟩;have av:x<nm.length:=bW.lt (f:=f0) (List.getElem?_eq_some_iff.1 h.hf).1 (fun e he=>(h.bd e he).2) (t+1) hx;exact h2 x av ((hA x).2 hx)
 exact inr ⟨j2,hj2,h1,fun x hx=>(h2 x hx).trans (hA x)⟩
theorem bW.dead{f:Nat}{z:Nat->Nat}(h:∀x,¬bW L f z t x):∀x,¬bW L f z (t+1) x:=fun x=>FR.none (Mv.none h (z t)) x
theorem Made.names{f0:Nat}(h:Made L F nm L' f0 s0 k R SS)(z:Nat->Nat)(m:Nat):sG nm (bW L' f0 z m) (bW L F z m):=by
 have:=sG.run h.nd h.bd (List.getElem?_eq_some_iff.1 h.hf).1 z m;rw[<-h.oc] at this;have e:nm.getD f0 0=F:=by simp[getD_eq_getElem?_getD,h.hf]
 rwa [e] at this
theorem Made.mark{f0:Nat}(h:Made L F nm L' f0 s0 k R SS){z:Nat->Nat}(hj:j<SS.length)(hs:r8 nm.length SS (bW L' f0 z m) (j:Int))
  (hr:bD (fun i=>mf (nm.getD i 0)) (fun x=>x<nm.length/\SS[j] x=true) r):bD mf (bW L F z m) r:=by
 rcases hs with ⟨h1,_⟩|⟨j',J8,e,hS⟩
 ·omega
 have e2:j'=j:=by omega
 subst e2;refine bD.Yh h.nd (h.names z m) (hr.congr (fun x=>⟨fun hx=>(hS x hx.1).1 hx.2,fun hx=>?_⟩));have av:x<nm.length:=bW.lt (f:=f0) (List.getElem?_eq_some_iff.1 h.hf).1 (fun e he=>(h.bd e he).2) m hx;exact⟨av,(hS x av).2 hx⟩
theorem lD.src{S:Nat->Prop}{S':List (Nat->Bool)}(h:lD M S SS r S'):∀i (hi:i<S'.length),SS.length<=i->(∃x,x<M/\S x)/\∀x,x<M->(S'[i] x=true↔S x):=by
 intro i hi hl;rcases h with ⟨_,_,rfl⟩|⟨h0,j,_,⟨hj,F8⟩,rfl|⟨f,rfl,rfl,_⟩⟩
 ·omega
 ·omega
 have:i=SS.length:=by simp at hi;omega
 subst this;exact⟨h0,F8⟩
theorem gu.src{M:Nat}{T:Nat->Nat->Prop}{SS S':List (Nat->Bool)}{c:Nat}{row:List Int}(h:gu M T SS c row S'):∀i (hi:i<S'.length),SS.length<=i->∃d,d<c/\(∃x,x<M/\T d x)/\∀x,x<M->(S'[i] x=true↔T d x):=by
 induction h with
 | zero=>intro i hi hl;omega
 | @succ c row S1 S2 r h0 h1 ih=>
  intro i hi hl;by_cases e:i<S1.length
  ·obtain⟨d,hd,h2,h3⟩:=ih i e hl;refine⟨d,by omega,h2,fun x hx=>?_⟩;rw[<-h1.pre.getElem e];exact h3 x hx
  obtain⟨h2,h3⟩:=h1.src i hi (by omega);exact⟨c,by omega,h2,h3⟩
theorem hJ.src{M C:Nat}{T:(Nat->Bool)->Nat->Nat->Prop}{S0 S':List (Nat->Bool)}{k:Nat}{R:List (List Int)}(h:hJ M C T S0 k R S'):∀i (hi:i<S'.length),S0.length<=i->∃(i':Nat) (hi':i'<S'.length) (d:Nat),i'<i/\d<C/\(∃x,x<M/\T S'[i'] d x)/\∀x,x<M->(S'[i] x=true↔T S'[i'] d x):=by
 induction h with
 | zero=>intro i hi hl;omega
 | @succ k R row S1 S2 h0 hk h1 ih=>
  intro i hi hl;by_cases e:i<S1.length
  ·obtain⟨i',hi',d,av,hd,h2,h3⟩:=ih i e hl;refine⟨i',Nat.lt_of_lt_of_le hi' h1.pre.length_le,d,av,hd,?_,fun x hx=>?_⟩
   ·rw[<-h1.pre.getElem hi'];exact h2
   rw[<-h1.pre.getElem e,<-h1.pre.getElem hi'];exact h3 x hx
  obtain⟨d,hd,h2,h3⟩:=h1.src i hi (by omega);refine⟨k,Nat.lt_of_lt_of_le hk h1.pre.length_le,d,by omega,hd,?_,fun x hx=>?_⟩
  ·rw[<-h1.pre.getElem hk];exact h2
  rw[<-h1.pre.getElem hk];exact h3 x hx
theorem Wa(K:Nat->Lit):0<cH K 256:=by
 have h:=DB K 0 256 (by omega);omega
structure iX (w:World)(cD:Array Value)(K:Nat->Lit)(R:List (List Int))(ms:List Int)(C:Nat):Prop where
 cl:∀j,j<256->cD[j]?=some (.int .u8 ((cls K j:Nat):Int))
 nx:∃vN gs,cD[256]?=some vN/\qA w 0 [] vN C gs R
 ct:∃vK,cD[257]?=some vK/\w.ownsRow 0 3 1 vK ms.length (ints ms)
 rl:∀r∈R,r.length=C
theorem G9(w:World)(b:Nat)(cs:Array Value):Kept [] [b] w (w.setRow b cs):=fun k o hk _ hn=>by
 rw[setRow_other w b k cs (by simpa using hn)]
 exact hk
theorem iX.setRow{b:Nat}{kz:Array Value}(h:iX w cD K R ms C)(hb:St w 101 b kz):iX (w.setRow b cs) cD K R ms C:=by
 obtain⟨vN,gs,h1,h2⟩:=h.nx;obtain⟨vK,h3,h4⟩:=h.ct;have k:=G9 w b cs;refine⟨h.cl,⟨vN,gs,h1,⟨fu h2.own k (by simp) (fun g e hm=>dH h2.own hb (by decide) g e (List.mem_singleton.1 hm)),h2.len,fun i hi hi'=>⟨(h2.row i hi hi').1.kept k (by simp) (fun hm=>(h2.row i hi hi').1.ne hb (by decide) (List.mem_singleton.1 hm)),by simp⟩⟩⟩,
  ⟨vK,h3,fu h4 k (by simp) (fun g e hm=>dH h4 hb (by decide) g e (List.mem_singleton.1 hm))⟩,h.rl⟩
theorem iX.rows(h:iX w cD K R ms C):∃a c A,cD[256]?=some (.slice a R.length c)/\mr w a R.length A (fun _=>C) (fun _=>C) (fun i x=>(R.getD i []).getD x 0):=by
 obtain⟨vN,gs,h1,h2⟩:=h.nx;have hN:=h2.own;obtain⟨aN,cN,rfl⟩:=bE hN;refine⟨aN,cN,fun i=>some ⟨gs.getD i 0,0,none⟩,h1,fun h0=>?_⟩;obtain⟨g,rfl,_,hg,hc⟩:=fa hN h0;refine⟨g,0,rfl,hg,fun i hi=>?_⟩;have Jq:i<gs.length:=by rw[h2.len];exact hi
 obtain⟨hs,_⟩:=h2.row i Jq hi;have uC:=h.rl _ (getElem_mem hi);refine⟨?_,fun h1=>⟨gs.getD i 0,0,rfl,?_,fun j hj=>?_⟩⟩
 ·rw[zero_add,(hc i (by omega)).1];simp[getD_eq_getElem?_getD,Jq]
 ·have:=hs.lt;simpa [getD_eq_getElem?_getD,Jq] using this
 have VZ:gs.getD i 0=gs[i]:=by simp[getD_eq_getElem?_getD,Jq]
 rw[zero_add,VZ,hs.at_];have hj2:j<R[i].length:=by rw[uC];exact hj
 simp[ints,getD_eq_getElem?_getD,hi,hj2]
theorem iX.marks(h:iX w cD K R ms C):∃a c,cD[257]?=some (.slice a ms.length c)/\kv w a ms.length (fun i=>ms.getD i 0):=by
 obtain⟨vK,h3,h4⟩:=h.ct;obtain⟨a,c,rfl⟩:=bE h4;refine⟨a,c,h3,fun h0=>?_⟩;obtain⟨g,rfl,_,hg,hc⟩:=fa h4 h0;refine⟨g,0,rfl,hg,fun j hj=>?_⟩;rw[zero_add,(hc j (by omega)).1];simp[ints,getD_eq_getElem?_getD,hj]
def rE(L:List En)(F:Nat)(mf:Nat->Int)(w:World)(e:Ending)(w':World):Prop:=
 ∃(cD:Array Value) (er:Int) (nm:List Nat) (L':List En) (f0:Nat) (s0:Nat->Bool) (k:Nat) (R:List (List Int)) (SS:List (Nat->Bool)),e=.returned (.tuple #[.agg cD,.int .i64 er])/\Below w.heap.size w w'/\Made L F nm L' f0 s0 k R SS/\cD.size=258/\(∀v∈cD.toList,v.oneCell'=true)/\
  ((er=6/\2000<SS.length/\cD=zC 101)\/(er=0/\SS.length=k/\k<=2000/\∃ms,iX w' cD (di L) R ms (rl (di L) 256).length/\ms.length=k/\∀j (h:j<SS.length) (h2:j<ms.length),bD (fun i=>mf (nm.getD i 0)) (fun x=>x<nm.length/\SS[j] x=true) ms[j]))
theorem lD.start{S:Nat->Prop}{jf:List (Nat->Bool)}(h:lD M S [] r jf)(h0:∃x,x<M/\S x):∃f,jf=[f]/\∀x,x<M->(f x=true↔S x):=by
 rcases h with ⟨h1,_,_⟩|⟨_,j,_,⟨hj,F8⟩,rfl|⟨f,rfl,rfl,_⟩⟩
 ·obtain⟨x,hx,hs⟩:=h0;exact absurd hs (h1 x hx)
 ·simp at hj
 exact⟨f,rfl,fun x hx=>F8 x hx⟩
theorem la.dfa{D:List ((Nat->Bool) × Nat)}{l:List Nat}{vL vK vN:Value}{gs:List Nat}
  (h:la B bm gI bM m M C bn K L mk SS ms D R n cs l vL vS vK vN gs w) (hR:∀r∈R,r.length=C):
  ∃cD:Array Value,cD.size=258/\(∀v∈cD.toList,v.oneCell'=true)/\(∀j v,cD.toList[j]?=some v->w.cell? ((⟨bm,1,none⟩:Addr).add j)=some v)/\ms.length=SS.length/\iX w cD K R ms C:=by
 have Vi:=h.inv.len;have hN:=h.nx.own;have hK:=h.t.ok;obtain⟨aN,cN,rfl⟩:=bE hN;obtain⟨aK,cK,rfl⟩:=bE hK;refine⟨((range 256).map (fun j=>Value.int .u8 ((cls K j:Nat):Int))++[Value.slice aN R.length cN,Value.slice aK SS.length cK]).toArray,by simp,fun v hv=>?_,fun j v hj=>?_,Vi,⟨fun j hj=>?_,⟨.slice aN R.length cN,gs,by simp[getElem?_append],⟨jL hN (zero_le _),h.nx.len,fun i hi hi'=>⟨(h.nx.row i hi hi').1,by simp⟩⟩⟩,⟨.slice aK SS.length cK,by simp[getElem?_append],by rw[Vi];exact jL hK (zero_le _)⟩,hR⟩⟩
 ·rcases List.mem_append.1 hv with hv|hv
  ·obtain⟨j,_,rfl⟩:=List.mem_map.1 hv;rfl
  simp only[List.mem_cons,List.not_mem_nil,or_false] at hv;rcases hv with rfl|rfl <;> rfl
 ·have e:(⟨bm,1,none⟩:Addr).add j=⟨bm,1+j,none⟩:=by unfold Addr.add;split <;> simp_all
  have hj2:j<258:=by
   have:=(List.getElem?_eq_some_iff.1 hj).1;simpa using this
  rw[e,h.a.r.other (1+j) (by omega)];by_cases e1:j<256
  ·rw[h.cl j e1,<-hj];simp[getElem?_append,e1]
  by_cases e2:j=256
  ·subst e2;rw[show 1+256=257 from rfl,h.cN,<-hj];simp[getElem?_append]
  have e3:j=257:=by omega
  subst e3;rw[show 1+257=258 from rfl,h.t.cK,<-hj];simp[getElem?_append]
 simp[getElem?_append,hj]
theorem zob(kf bV:Nat)(mf:Nat->Int)(S0 T:Int)(F:Nat)(L:List En)(a:Option Addr)(n c:Nat)(w:World)(HC:∀(args:Array Value) (W:World),(callFunc kf args).run prog W=.ok (.enter kf args) W)
  (HM:∀W,Below w.heap.size w W->∀x,x<=9223372036854775807->Calls prog kf #[.int .i64 ((x:Nat):Int),.pointer (some ⟨bV,0,none⟩)] W fun e w'=>e=.returned (.int .i64 (mf x))/\w'=W) (zd:∀x,-1<=mf x)
  (hL:ke w a (L.map En.z)) (hn:L.length=n) (ka:n<=6400) (pS:(bI (L.map En.z)).length<=1000) (hF:F<=9223372036854775807) (hE:∀e∈L,e.f<=9223372036854775807/\e.t<=9223372036854775807) (hr:uy S0 (L.map En.z) (F:Int) T=true):
  Calls prog 95 #[.agg #[.int .i64 S0,.slice a n c,.int .i64 (F:Int),.int .i64 T],.func (.func kf) #[] #[.pointer (some ⟨bV,0,none⟩)]] w (rE L F mf w):=by
 have FH:=hid (fun (W:World) (hb:Below w.heap.size w W)=>Yg kf bV mf S0 T F L a n c W HC (fun W' hb'=>HM W' (hb.trans (hb'.mono hb.size))) (hL.below hb) hn ka pS hF hE);have WR:Hid (∀(W:World),Below w.heap.size w W->Calls prog 116 #[.agg #[.int .i64 S0,.slice a n c,.int .i64 (F:Int),.int .i64 T]] W fun e w'=>e=.returned (.bool true)/\Below W.heap.size W w'):=fun W hb=>by
  have:=zjA S0 (F:Int) T a n c (L.map En.z) W (hL.below hb) (by rw[length_map];exact hn) (by unfold maxLen;omega);rwa [hr] at this
 have HH:=hid (Zz hn (Zz zd hr));clear HC HM hL hn hE hr zd;go_enter func95,ntmps95;go_wp2_with (refine rq rfl 101 rfl (zC 101) (mX _) ?_);go_upto_region 1 with fail;have h2:St ((w.alloc (.cells #[.int .i64 S0,.slice a n c,.int .i64 (F:Int),.int .i64 T] 119)).alloc (.cells (zC 101) 101)) 119 w.heap.size #[.int .i64 S0,.slice a n c,.int .i64 (F:Int),.int .i64 T]:=(St.new w _ _).alloc _;have h4:St ((w.alloc (.cells #[.int .i64 S0,.slice a n c,.int .i64 (F:Int),.int .i64 T] 119)).alloc (.cells (zC 101) 101)) 101 (w.heap.size+1) (zC 101):=by
  have:=St.new (w.alloc (.cells #[.int .i64 S0,.slice a n c,.int .i64 (F:Int),.int .i64 T] 119)) 101 (zC 101);simpa using this
 have lJ:Below w.heap.size w ((w.alloc (.cells #[.int .i64 S0,.slice a n c,.int .i64 (F:Int),.int .i64 T] 119)).alloc (.cells (zC 101) 101)):=(al w _).trans ((al _ _).mono (by simp));generalize (w.alloc (.cells #[.int .i64 S0,.slice a n c,.int .i64 (F:Int),.int .i64 T] 119)).alloc (.cells (zC 101) 101)=W0 at h2 h4 lJ⊢;obtain⟨b4,iE⟩:∃b4,w.heap.size+1=b4:=⟨_,rfl⟩
 rw[iE] at h4;rw[iE];obtain⟨r0,r1,r2,r3⟩:=h2.dP;have H0:=hid (Zz h2 (Zz h4 (Zz lJ iE)));have ri:=hid (WR.out W0 lJ);clear h2 h4 lJ iE;go_wp2_with fail;refine ri.out.mono ?_;rintro e w1 ⟨rfl,ln⟩;have pP:Below w.heap.size w w1:=H0.out.2.2.1.trans (ln.mono H0.out.2.2.1.size);have s2:=H0.out.1.aa ln;have H1:=hid (Zz s2 (Zz (H0.out.2.1.aa ln) pP));have rA:=hid (FH.out w1 pP);clear r0 r1 r2 r3;obtain⟨r0,r1,r2,r3⟩:=s2.dP;clear ln pP s2 ri WR FH;go_wp2_with fail;refine rA.out.mono ?_;rintro e w2 ⟨bn,f0,gM,cM,gF,cF,gS,cS,nm,L',aF,aS,Bt,DZ,csA,rfl,ma,N9,rk,ve,sj,I3,Dk,iM,Is,RH,Ld,r9⟩;obtain⟨m,hm⟩:∃m,(nm.length+7) / 8=m:=⟨_,rfl⟩
 have hlL:L.length=L'.length:=by rw[Dk,length_map]
 have PQ:L'.length<=6400:=by have:=HH.out.1;omega
 have Jk:nm.length<=12900:=by have:=HH.out.1;omega
 have Fu:=hid (zfV (di L) L' (fun i=>mf (nm.getD i 0)) csA bn gM nm.length cM m (rl (di L) 256).length w2 sj ve.fW Jk hm);have nQ:=hid (Zz N9 (Zz rk (Zz ve (Zz I3 (Zz Dk (Zz iM (Zz Is (Zz RH (Zz r9 hm)))))))));have H2:=hid (Zz (H1.out.2.1.aa ma) (H1.out.2.2.trans (ma.mono H1.out.2.2.size)));have aZ:bn<w2.heap.size:=N9.fU.1;have rz:=ma.size;have BD:w.heap.size<=w2.heap.size:=by have:=H1.out.2.2.size;omega
 clear ma N9 rk ve sj I3 Dk iM Is RH r9 hm Ld hlL rA r0 r1 r2 r3;go_wp2_with fail;refine Fu.out.mono ?_;rintro e w3 ⟨bm,gI,bM,cK,rfl,Im,pB⟩;have c0:w3.cell? ⟨bm,0,none⟩=some (.pointer (some ⟨bn,0,none⟩)):=(Im.a.r.other 0 (by decide)).trans Im.c0;have c1:w3.cell? ⟨bn,256,none⟩=some (.int .i64 (f0:Int)):=(pB.cell (p:=⟨bn,256,none⟩) aZ).trans nQ.out.2.2.2.1;have iL:=pB.size;have ET:=hid (Im.aa (al w3 (.cells #[.int .i64 (f0:Int)] 3)));have kE:=hid pB;have q8:=Im.wR;have BF:f0<nm.length:=(List.getElem?_eq_some_iff.1 nQ.out.2.2.2.2.2.2.2.1).1;have BK:Below w2.heap.size w2 (w3.alloc (.cells #[.int .i64 (f0:Int)] 3)):=pB.trans ((al w3 _).mono iL);have dz:=hid (Wy (w3.alloc (.cells #[.int .i64 (f0:Int)] 3)) w2.heap.size (im bm gI bM (.slice none 0 0) (.slice none 0 0) (.slice none 0 0)) bm gI m nm.length bM bn gM cM gF cF aF Bt L' (nQ.out.1.below BK) nQ.out.2.2.2.2.2.2.1 (by omega) cK (fun i=>mf (nm.getD i 0)) (nQ.out.2.2.1.below BK) (fun i _=>HH.out.2.1 _) ET.out.c0 (by omega) nQ.out.2.2.2.2.2.2.2.2.2 _ [] (.slice none 0 0) (.slice none 0 0) (.slice none 0 0) 0 [] [] [] (by simp) (by omega) (by simp)
  (some ⟨w3.heap.size,0,none⟩) 1 1 [f0] rfl (by omega) (fun x hx=>by rw[List.mem_singleton.1 hx];exact BF) (fun W hW h0=>by
   have hg:w3.heap.size<(w3.alloc (.cells #[.int .i64 (f0:Int)] 3)).heap.size:=by simp
   have hn:w3.heap.size∉im bm gI bM (.slice none 0 0) (.slice none 0 0) (.slice none 0 0):=fun hm=>Nat.lt_irrefl _ (q8 _ hm)
   have h1:=hW _ _ (Array.getElem?_eq_getElem hg) (fun _ _ _ _=>by simp) hn
   refine⟨w3.heap.size,0,rfl,(Array.getElem?_eq_some_iff.1 h1).1,fun j hj=>?_⟩
   obtain rfl:j=0:=by simp at hj;omega
   rw[hW.mQ hn hg]
   exact (St.new w3 3 #[.int .i64 (f0:Int)]).at_ 0) _ ET.out.a.r ET.out.t ET.out.inv)
 clear Im pB q8 BK Fu;go_wp2_with fail;refine dz.out.mono ?_;rintro e w5 qy;obtain⟨r,SS1,ms1,D1,n1,cs1,l1,J6,Io,vK1,rfl,zp,hAdd,_,kA,_⟩:=ET.out.close qy ⟨f0,BF,.base (by simp)⟩;obtain⟨s0,rfl,nA⟩:=hAdd.start ⟨f0,BF,.base (by simp)⟩;have dC:Hid (∀x,x<nm.length->(s0 x=true↔FR L' (fun y=>y=f0) x)):=fun x hx=>(nA x hx).trans (FR.congr (fun y=>by simp) x)
 have IA:=hid zp;have lO:=hid ((kE.out.trans ((al w3 _).mono iL)).trans kA);clear qy zp hAdd kA nA c0 c1 dz ET;have hlC:(rl (di L) 256).length<=256:=by rw[yO];exact JF _ _
 have hCp:0<(rl (di L) 256).length:=by
  rw[yO];exact Wa _
 go_wp2;go_loopw [7] (fun v wq=>∃(k:Nat) (SS:List (Nat->Bool)) (ms:List Int) (D:List ((Nat->Bool) × Nat)) (R:List (List Int)) (nn:Nat) (cs:Array Value) (l:List Nat) (vL vS vK vN:Value) (gs:List Nat),v=.int .i64 k/\k<=SS.length/\SS.length<=2000/\
  Hid (la w2.heap.size bm gI bM m nm.length (rl (di L) 256).length bn (di L) L' (fun i=>mf (nm.getD i 0)) SS ms D R nn cs l vL vS vK vN gs wq)/\Hid (hJ nm.length (rl (di L) 256).length (DK L' nm.length (pn (di L))) [s0] k R SS)/\Hid (Below w2.heap.size w2 wq)) (fun v _=>2001-(intOf v).toNat)
 ·exact⟨0,[s0],ms1,D1,[],n1,cs1,l1,J6,Io,vK1,_,[],rfl,by simp,by simp,IA,hJ.zero,lO⟩
 clear IA lO;obtain⟨k,SS,ms,D,R,nn,cs,l,vL,vS,vK,vN,gs,rfl,hk,hS,HM,KI,HB⟩:=hrel;obtain⟨aS1,cS1,rfl⟩:=bE HM.out.t.os;have d0:wr.cell? ⟨bm,259,none⟩=some (.slice aS1 SS.length cS1):=(HM.out.a.r.other 259 (by decide)).trans HM.out.t.cS;have hRk:=KI.out.len;have fX:St wr 101 b4 (zC 101):=H2.out.1.below HB.out H2.out.1.lt;by_cases av:k<SS.length
 ·have hk63:k<3000:=by omega
  have TF:=hid (zmr w2.heap.size bm gI bM m nm.length (rl (di L) 256).length bn gM cM gF cF gS cS nn k aF aS Bt DZ (pn (di L)) (di L) L' (fun i=>mf (nm.getD i 0)) wr (nQ.out.1.below HB.out) (nQ.out.2.1.below HB.out) (nQ.out.2.2.1.below HB.out) nQ.out.2.2.2.2.2.2.1 PQ (fun i _=>HH.out.2.1 _) (by rw[<-yO]) hlC Jk nQ.out.2.2.2.2.2.2.2.2.2 SS ms D R cs l vL _ vK vN gs HM.out av (by omega) (by omega));have P6:=hid av;obtain⟨q,hq⟩:∃q,SS.length=q:=⟨_,rfl⟩
  have i1:(k:Int)<q:=by omega
  rw[hq] at d0;have HQ:=hid hq;clear hq hk;go_wp2_with fail;refine TF.out.mono ?_;rintro e w6 ⟨row,Ad,Nr,D2,n2,Oe,l2,qB,DV,FY,Y6,YM,rfl,vg,Da,D5⟩;obtain⟨Oj,cS2,rfl⟩:=bE vg.t.os;have d1:w6.cell? ⟨bm,259,none⟩=some (.slice Oj Ad.length cS2):=(vg.a.r.other 259 (by decide)).trans vg.t.cS;have Ir:Hid (hJ nm.length (rl (di L) 256).length (DK L' nm.length (pn (di L))) [s0] (k+1) (R++[row]) Ad):=hJ.succ KI.out P6.out Da;have th:=hid vg;have Ba:=hid (HB.out.trans D5);have Cc:St w6 101 b4 (zC 101):=H2.out.1.below Ba.out H2.out.1.lt;have jW:=hid Da.pre.length_le;obtain⟨q2,hq2⟩:∃q2,Ad.length=q2:=⟨_,rfl⟩
  have tY:=hid hq2;rw[hq2] at d1;clear vg Da D5 hq2 d0 fX TF;by_cases nY:2000<q2
  ·have i2:(2000:Int)<q2:=(by omega);have HF:Hid (rE L F mf w (.returned (.tuple #[.agg (zC 101),.int .i64 6])) (w6.setRow b4 (zC 101))):=by
    refine⟨zC 101,6,nm,L',f0,s0,k+1,R++[row],Ad,rfl,mT (H2.out.2.trans (Ba.out.mono BD)) (by have:=H0.out.2.2.2;omega) _,⟨nQ.out.2.2.2.2.1,nQ.out.2.2.2.2.2.1,nQ.out.2.2.2.2.2.2.1,nQ.out.2.2.2.2.2.2.2.1,nQ.out.2.2.2.2.2.2.2.2.1,dC.out,Ir.out⟩,jq,Dy,inl ⟨rfl,by rw[tY.out];exact nY,rfl⟩⟩
   have jT:=hid Cc;clear Cc;go_wp2_with (first|(refine CZ rfl 101 _ rfl #[] ?hp (.agg (zC 101)) ?hb ?_)|(refine ph rfl 101 _ _ rfl b4 101 (zC 101) (zC 101) rfl rfl jT.out rfl (by rw[gO,jq]) Dy ?_))
   case hb=>exact Na _
   refine bodyPost_ret (CY rfl _ _ b4 (zC 101) _ rfl jT.out.setRow.part underlying101 rfl (by rw[gO,jq])) rfl ?_;exact HF.out
  have i2:¬((2000:Int)<q2):=by omega
  clear Cc;go_wp2;go_roundw
  ·exact⟨k+1,Ad,Nr,D2,R++[row],n2,Oe,l2,qB,_,FY,Y6,YM,by go_num,by have:=jW.out;have:=P6.out;omega,by have:=tY.out;omega,th,Ir,Ba⟩
  simp[intOf];have:=P6.out;omega
 have SH:k=SS.length:=by omega
 obtain⟨cD,fI,Cq,dI,mw,hD⟩:=HM.out.dfa (fun r hr=>KI.out.rI r hr);have HF:Hid (rE L F mf w (.returned (.tuple #[.agg cD,.int .i64 0])) (wr.setRow b4 cD)):=by
  refine⟨cD,0,nm,L',f0,s0,k,R,SS,rfl,mT (H2.out.2.trans (HB.out.mono BD)) (by have:=H0.out.2.2.2;omega) _,⟨nQ.out.2.2.2.2.1,nQ.out.2.2.2.2.2.1,nQ.out.2.2.2.2.2.2.1,nQ.out.2.2.2.2.2.2.2.1,nQ.out.2.2.2.2.2.2.2.2.1,dC.out,KI.out⟩,fI,Cq,inr ⟨rfl,SH.symm,by omega,ms,hD.setRow fX,by omega,HM.out.inv.ct⟩⟩
 have jT:=hid fX;have HX:=hid (Zz fI (Zz Cq dI));have i1:¬((k:Int)<(SS.length:Int)):=by omega
 clear fX hD mw fI Cq dI SH av hk;go_wp2_with (first|(refine rD rfl 101 _ rfl ⟨bm,1,none⟩ rfl cD _ HX.out.2.2 underlying101 rfl (by rw[gO,HX.out.1]) ?_)|(refine ph rfl 101 _ _ rfl b4 101 (zC 101) cD rfl rfl jT.out (by rw[jq,HX.out.1]) (by rw[gO,HX.out.1]) HX.out.2.1 ?_));refine bodyPost_ret (CY rfl _ _ b4 cD _ rfl jT.out.setRow.part underlying101 rfl (by rw[gO,HX.out.1])) rfl ?_;exact HF.out
theorem zgQ(bV:Nat)(S F:Int)(T:Nat)(a:Option Addr)(n c:Nat)(w:World)(hS:St w 119 bV #[.int .i64 S,.slice a n c,.int .i64 F,.int .i64 (T:Int)])(x:Nat)(hx:x<=9223372036854775807)(hT:T<=9223372036854775807):
  Calls prog 96 #[.int .i64 (x:Int),.pointer (some ⟨bV,0,none⟩)] w fun e w'=>e=.returned (.int .i64 (if x=T then 0 else -1))/\w'=w:=by
 obtain⟨c0,c1,c2,c3⟩:=hS.dP;by_cases e:x=T
 ·rw[if_pos e];subst e;go_enter func96,ntmps96;go_wp2;go_ret;exact⟨rfl,rfl⟩
 rw[if_neg e];have i1:¬((x:Int)=T):=by omega
 go_enter func96,ntmps96;go_wp2;go_ret;exact⟨rfl,rfl⟩
theorem rE.put{W0:World}{er:Int}{f0:Nat}{b4:Nat}
  (hB:Below w.heap.size w W0) (h1:Below W0.heap.size W0 w') (h2:Made L F nm L' f0 s0 k R SS) (h3:cD.size=258) (h4:∀v∈cD.toList,v.oneCell'=true)
  (h5:(er=6/\2000<SS.length/\cD=zC 101)\/(er=0/\SS.length=k/\k<=2000/\∃ms,iX w' cD (di L) R ms (rl (di L) 256).length/\ms.length=k/\∀j (h:j<SS.length) (h2:j<ms.length),bD (fun i=>mf (nm.getD i 0)) (fun x=>x<nm.length/\SS[j] x=true) ms[j]))
  (dE:St w' 101 b4 (zC 101)) (iE:w.heap.size<=b4):rE L F mf w (.returned (.tuple #[.agg cD,.int .i64 er])) (w'.setRow b4 cD):=by
 refine⟨cD,er,nm,L',f0,s0,k,R,SS,rfl,mT (hB.trans (h1.mono hB.size)) iE _,h2,h3,h4,?_⟩;rcases h5 with h|⟨e1,e2,e3,ms,h6,h7,h8⟩
 ·exact inl h
 exact inr ⟨e1,e2,e3,ms,h6.setRow dE,h7,h8⟩
theorem YO:∀(args:Array Value) (W:World),(callFunc 96 args).run prog W=.ok (.enter 96 args) W:=fun _ _=>by rfl
theorem zoc(S0:Int)(F T:Nat)(L:List En)(a:Option Addr)(n c:Nat)(w:World)
  (hL:ke w a (L.map En.z)) (hn:L.length=n) (ka:n<=6400) (pS:(bI (L.map En.z)).length<=1000) (hF:F<=9223372036854775807) (hT:T<=9223372036854775807) (hE:∀e∈L,e.f<=9223372036854775807/\e.t<=9223372036854775807) (hr:uy S0 (L.map En.z) (F:Int) (T:Int)=true):
  Calls prog 82 #[.agg #[.int .i64 S0,.slice a n c,.int .i64 (F:Int),.int .i64 (T:Int)]] w (rE L F (fun x=>if x=T then 0 else -1) w):=by
 have iP:∀(fn:Fn) (first cap:Array Value) (w:World),(makeFunc fn first cap).run prog w=.ok (.func fn first cap) w:=fun _ _ _ _=>rfl
 have HD:=hid (fun (W:World) (hb:Below w.heap.size w W) (bV:Nat) (hS:St W 119 bV #[.int .i64 S0,.slice a n c,.int .i64 ((F:Nat):Int),.int .i64 ((T:Nat):Int)])=>zob 96 bV (fun x=>if x=T then 0 else -1) S0 ((T:Nat):Int) F L a n c W YO (fun W' hb' x hx=>zgQ bV S0 ((F:Nat):Int) T a n c W' (hS.aa hb') x hx hT) (fun x=>by split <;> omega) (hL.below hb) hn ka pS hF hE hr);clear hL hn hE hr;go_enter func82,ntmps82;go_wp2_with (refine rq rfl 101 rfl (zC 101) (mX _) ?_);go_upto_region 1 with fail;have h2:St ((w.alloc (.cells #[.int .i64 S0,.slice a n c,.int .i64 (F:Int),.int .i64 (T:Int)] 119)).alloc (.cells (zC 101) 101)) 119 w.heap.size #[.int .i64 S0,.slice a n c,.int .i64 (F:Int),.int .i64 (T:Int)]:=(St.new w _ _).alloc _;have h4:St ((w.alloc (.cells #[.int .i64 S0,.slice a n c,.int .i64 (F:Int),.int .i64 (T:Int)] 119)).alloc (.cells (zC 101) 101)) 101 (w.heap.size+1) (zC 101):=by
  have:=St.new (w.alloc (.cells #[.int .i64 S0,.slice a n c,.int .i64 (F:Int),.int .i64 (T:Int)] 119)) 101 (zC 101);simpa using this
 have lJ:Below w.heap.size w ((w.alloc (.cells #[.int .i64 S0,.slice a n c,.int .i64 (F:Int),.int .i64 (T:Int)] 119)).alloc (.cells (zC 101) 101)):=(al w _).trans ((al _ _).mono (by simp));generalize (w.alloc (.cells #[.int .i64 S0,.slice a n c,.int .i64 (F:Int),.int .i64 (T:Int)] 119)).alloc (.cells (zC 101) 101)=W0 at h2 h4 lJ⊢;obtain⟨b4,iE⟩:∃b4,w.heap.size+1=b4:=⟨_,rfl⟩
 rw[iE] at h4;rw[iE];obtain⟨r0,r1,r2,r3⟩:=h2.dP;have H0:=hid (Zz h4 (Zz lJ iE));have Un:=hid (HD.out W0 lJ w.heap.size h2);clear h2 h4 lJ iE;go_wp2_with fail;refine Un.out.mono ?_;rintro e w1 ⟨cD,er,nm,L',f0,s0,k,R,SS,rfl,h1,h2,h3,h4,h5⟩;have dE:=H0.out.1.aa h1;have HF:=hid (rE.put (mf:=fun x=>if x=T then 0 else -1) H0.out.2.1 h1 h2 h3 h4 h5 dE (by have:=H0.out.2.2;omega));have jT:=hid dE;have HX:=hid (Zz h3 h4);clear h1 h2 h3 h4 h5 dE HD Un r0 r1 r2 r3;go_wp2_with (refine ph rfl 101 _ _ rfl b4 101 (zC 101) cD rfl rfl jT.out (by rw[jq,HX.out.1]) (by rw[gO,HX.out.1]) HX.out.2 ?_);refine bodyPost_ret (CY rfl _ _ b4 cD _ rfl jT.out.setRow.part underlying101 rfl (by rw[gO,HX.out.1])) rfl ?_;exact HF.out
structure Both (W:World)(QA PB cA:Array Value)(n m:Nat)(a1 a2:Option Addr)(c1 c2:Nat)(A1 A2:Nat->Option Addr)(C1 C2 l1 l2:Nat->Nat)(z1 z2:Nat->Nat->Int)(b1 b2:Option Addr)(d1 d2:Nat)(y1 y2:Nat->Int):Prop where
 sz:cA.size=256
 cl:∀j,j<256->QA[j]?=cA[j]?/\PB[j]?=cA[j]?/\∃v,cA[j]?=some (.int .u8 v)
 n1:QA[256]?=some (.slice a1 n c1)
 n2:PB[256]?=some (.slice a2 n c2)
 r1:mr W a1 n A1 C1 l1 z1
 r2:mr W a2 n A2 C2 l2 z2
 eq:zo3 n n l1 l2 z1 z2
 le:n<=2000/\(∀i,l1 i<=256)/\∀i,l2 i<=256
 m1:QA[257]?=some (.slice b1 m d1)
 m2:PB[257]?=some (.slice b2 m d2)
 mz1:kv W b1 m y1
 mz2:kv W b2 m y2
 ye:m<=2000/\∀x,x<m->y1 x=y2 x
theorem bq.sU{ts te sz:Nat}{v' u:Value}{vs:Nat->Value}{len:Nat->Nat}(h:bq w B ts te sz v M vs len xs)(ht:te≠ts)(hu:w.ownsRow B te sz u (len M) (xs M))(hs:∀i,i<M->∀b,(vs i).ownBlock=some b->u.ownBlock≠some b)
  (ho:w'.ownsRow B ts 1 v' (M+1) ((range M).map vs++[u])) (hg:w.grownBy w' v.ownBlock):bq w' B ts te sz v' (M+1) (fun j=>if j=M then u else vs j) len xs:=by
 refine⟨?_,fun i hi=>?_,fun i j hi hj hij b=>?_⟩
 ·have e:(range (M+1)).map (fun j=>if j=M then u else vs j)=(range M).map vs++[u]:=by
   rw[List.range_succ,List.map_append];congr 1
   ·refine(List.map_congr_left fun j hj=>?_);have:j<M:=(by simpa using hj);rw[if_neg (by omega)]
   simp
  rw[e];exact ho
 ·by_cases e:i=M
  ·subst e;simp only[if_pos rfl];exact qc hu hg (fun b e1 e2=>gH hu h.own ht b e1 e2.symm)
  simp only[if_neg e];exact qc (h.row i (by omega)) hg (fun b e1 e2=>gH (h.row i (by omega)) h.own ht b e1 e2.symm)
 by_cases e1:i=M
 ·by_cases e2:j=M
  ·omega
  simp only[if_pos e1,if_neg e2];intro e3 e4;exact hs j (by omega) b e4 e3
 by_cases e2:j=M
 ·simp only[if_neg e1,if_pos e2];exact hs i (by omega) b
 simp only[if_neg e1,if_neg e2];exact h.sep i j (by omega) (by omega) hij b
theorem kP{s:Nat}{xs:List Value}(ho:w.ownsRow B t s v n xs):∀g,v.ownBlock=some g->g<w.heap.size:=fun g e=>by
 obtain⟨c,fz,hc⟩:=pG ho g e
 exact (Array.getElem?_eq_some_iff.1 hc).1
section
variable {W0 : World}{z N C : Nat}{rp : List Nat}{vP vR : Value}{SS : List (Nat → Bool)}{vs : Nat → Value}{vN : Value}{R : List (List Int)}{ws : Nat → Value}{vO : Value}{ms : List Int}{vW : Value}{row : List Int}{w : World}
end
def tu:Value->Option Addr
 | .slice a _ _=>a
 | _=>none
def vD:Value->Nat
 | .slice _ _ c=>c
 | _=>0
theorem bq.zs{ws:Nat->Value}(h:bq w B 43 3 1 (.slice a k c) k ws (fun _=>C) (fun j=>ints (R.getD j [])))(hk:R.length=k)(hl:∀r∈R,r.length=C):
  mr w a k (fun i=>tu (ws i)) (fun i=>vD (ws i)) (fun _=>C) (fun i x=>(R.getD i []).getD x 0):=by
 intro h0;obtain⟨g,rfl,_,hg,hc⟩:=fa h.own h0;refine⟨g,0,rfl,hg,fun i hi=>?_⟩;obtain⟨ai,ci,e⟩:=bE (h.row i hi);have hr:=h.row i hi;refine⟨?_,fun h1=>?_⟩
 ·rw[zero_add,(hc i (by omega)).1];simp[hi,e,tu,vD]
 rw[e] at hr;obtain⟨g2,e2,_,o9,iQ⟩:=fa hr h1;refine⟨g2,0,by simp[e,tu,e2],o9,fun j hj=>?_⟩;rw[zero_add,(iQ j (by simpa using hj)).1];have lY:i<R.length:=by omega
 have hj2:j<R[i].length:=by rw[hl _ (getElem_mem lY)];exact hj
 simp[ints,getD_eq_getElem?_getD,lY,hj2]
theorem P9{l:List Int}(h:w.ownsRow B 3 1 (.slice a n c) n (ints l))(hl:l.length=n):kv w a n (fun i=>l.getD i 0):=by
 intro h0;obtain⟨g,rfl,_,hg,hc⟩:=fa h h0;refine⟨g,0,rfl,hg,fun j hj=>?_⟩;rw[zero_add,(hc j (by omega)).1];have hj2:j<l.length:=by omega
 simp[ints,getD_eq_getElem?_getD,hj2]
end Go.Proofs.YtiijebameffenaaGreat
