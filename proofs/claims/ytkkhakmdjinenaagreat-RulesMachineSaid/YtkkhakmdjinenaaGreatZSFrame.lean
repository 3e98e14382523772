import Derived.Test.YtkkhakmdjinenaaGreatZRefClass
import Derived.Laws.CopyRow
import Derived.Laws.ResultCell
set_option linter.all false
set_option maxHeartbeats 2000000
set_option maxRecDepth 100000
open Go.Lib (hid)
namespace Go.Proofs.YtkkhakmdjinenaaGreat
open Go.RowKit Go.Proofs.Tryz
open List (getD_eq_getElem?_getD getElem?_append getElem?_map getElem?_range getElem?_toArray getElem_mem length_map mem_append mem_singleton range replicate take_length)
open Nat (le_refl le_trans zero_add zero_le)
open Instr (build makeFunc sureAddr)
open Or (inl inr)
open Option (map_some)
open _root_.Array (getElem?_setIfInBounds_ne getElem?_toList)
open World (news_of_block ownsRow_nil)
open Sem (run_bind run_pure)
open Result (andThen_ok)
open Value (oneCell' ownBlock)
open Act (put)
variable {B C F M Mf Mm Ms bM bm bn c g gI i j k m n t x y:Nat}{K:Nat->Lit}{L L':List En}{Ls lc nm:List Nat}{P:Program}{R:List (List Int)}{SS:List (Nat->Bool)}{a:Option Addr}{cD cs csA:Array Value}{dt ms:List Int}{ev:Operand->Value}{fv sv:Nat->Value}{mf mk:Nat->Int}{ops:Array Oper}{r:Int}{s0:Nat->Bool}{v vF vM vS:Value}{w w':World}{xs:Nat->List Value}
def rn(L:List Eg)(i:Nat):Nat->Bool:=(cH L).getD i (fun _=>false)
theorem zon{L:List Eg}(h:w.ownsRow B 89 4 (.slice a n c) n (AM (cH L)))(hn:(cH L).length=n):lR w a n (rn L):=by
 intro h0;obtain⟨g,e,_,hg,hc⟩:=eC h (by omega);refine⟨g,0,e,hg,fun i hi=>?_⟩;have ux:i<(cH L).length:=by omega
 have hse:rn L i=(cH L)[i]:=by simp[rn,getD_eq_getElem?_getD,List.getElem?_eq_getElem ux]
 have rd:∀j,j<4->w.cell? ⟨g,i*4+j,none⟩=(jx (rn L i))[j]?:=fun j hj=>by rw[(hc _ (by omega)).1,zqg _ i ux j hj,hse]
 simp only[zero_add];exact⟨rd 0 (by omega),rd 1 (by omega),rd 2 (by omega),rd 3 (by omega)⟩
open Go.Maps Go.WideElems Go.ChangeMaps
def dQ(L:List En):Nat->Lit:=jP (rn (L.map En.z)) (cH (L.map En.z)).length
def U4(K:Nat->Lit)(w:World)(e:Ending)(w':World):Prop:=
 ∃(b7 b8 bL:Nat) (aR:Option Addr) (cR:Nat),e=.returned (.func (.func 134) #[] #[.pointer (some ⟨b8,0,none⟩),.pointer (some ⟨b7,0,none⟩)])/\(∀P,wv w.heap.size b7 b8 bL 0 (rl K 256) aR cR P [] w')/\Below w.heap.size w w'/\w.heap.size<=bL
theorem zmC(K:Nat->Lit)(bn:Nat)(cs:Array Value)(w:World)(h:Gl w w.heap.size bn K cs):Calls prog 104 #[.pointer (some ⟨bn,0,none⟩)] w (U4 K w):=by
 have HF:=hid (zeM K w.heap.size bn cs w h);have D5:∀(fn:Fn) (first cap:Array Value) (w:World),(makeFunc fn first cap).run prog w=.ok (.func fn first cap) w:=fun _ _ _ _=>rfl
 have ju:=@run_makeMap prog;clear h;go_in;go_wp2_with fail;refine HF.out.mono ?_;rintro e w2 ⟨a,c,rfl,hO,hB⟩;have HZ:Hid (U4 K w (.returned (.func (.func 134) #[] #[.pointer (some ⟨w2.heap.size+1+1,0,none⟩),.pointer (some ⟨w2.heap.size,0,none⟩)])) (((w2.alloc (.cells #[.slice a (dD K 256) c] 112)).alloc (.map #[] 0)).alloc (.cells #[.map (some (w2.heap.size+1))] 184))):=by
  have k1:=al w2 (.cells #[.slice a (dD K 256) c] 112);have k2:=al (w2.alloc (.cells #[.slice a (dD K 256) c] 112)) (.map #[] 0);have k3:=al ((w2.alloc (.cells #[.slice a (dD K 256) c] 112)).alloc (.map #[] 0)) (.cells #[.map (some (w2.heap.size+1))] 184);have hlen:(rl K 256).length=dD K 256:=zB K 256;have hs:=hB.size;refine⟨w2.heap.size,w2.heap.size+1+1,w2.heap.size+1,a,c,rfl,fun P=>⟨?_,?_,?_,?_,fun d hd=>by simp at hd,⟨by omega,by simp;omega⟩,fun x hx=>?_⟩,?_,by omega⟩
  ·rw[hlen];exact ((St.new w2 _ _).ab k2).ab k3
  ·have:=St.new ((w2.alloc (.cells #[.slice a (dD K 256) c] 112)).alloc (.map #[] 0)) 184 #[.map (some (w2.heap.size+1))];simpa using this
  ·rw[hlen];exact db (db (db hO k1) k2) k3
  ·have h1:aO ((w2.alloc (.cells #[.slice a (dD K 256) c] 112)).alloc (.map #[] 0)) 89 (w2.heap.size+1) 0 (LQ (rl K 256) []):=by
    have:=aO.made (w2.alloc (.cells #[.slice a (dD K 256) c] 112)) 89 (LQ (rl K 256) []) (fun x y ⟨d,hd,_⟩=>by simp at hd);simpa using this
   exact h1.same (k3.block _ h1.lt)
  ·obtain⟨c,hc,rfl⟩:=List.getElem_of_mem hx;exact (Yq K 256 c hc).2
  exact ((hB.trans (k1.mono hs)).trans (k2.mono (by simp;omega))).trans (k3.mono (by simp;omega))
 clear hO hB;go_wp2;go_ret;exact HZ.out
def vA(v:Value):Option Addr:=match v with|.slice a _ _=>a|_=>none
def vC(v:Value):Nat:=match v with|.slice _ _ c=>c|_=>0
theorem iA.first(h:iA B bn Mm Mf Ms cs dt vM vF vS fv sv xs L w)(u:Value):
  iA B bn Mm Mf Ms (cs.setIfInBounds 256 u) dt vM vF vS fv sv xs L (w.setCell ⟨bn,256,none⟩ u)/\jk B bn (mR bn Mf Ms vM vF vS fv sv) (mR bn Mf Ms vM vF vS fv sv) w (w.setCell ⟨bn,256,none⟩ u):=by
 have hk:Kept [] [bn] w (w.setCell ⟨bn,256,none⟩ u):=(Kept.refl _ _ _).setCell _ _ (inl (by simp));have hne:∀{t s n:Nat}{v:Value}{ys:List Value},w.ownsRow B t s v n ys->t≠109->∀b,v.ownBlock=some b->b∉[bn]:=fun ho ht b e hm=>eB ho h.sn ht b e (List.mem_singleton.1 hm)
 refine⟨⟨?_,by simp[h.sz],fI h.om hk (by simp) (hne h.om (by decide)),h.fr.kept hk (hne h.fr.own (by decide)) (fun i hi=>hne (h.fr.row i hi) (by decide)),h.st.kept hk (hne h.st.own (by decide)) (fun i hi=>hne (h.st.row i hi) (by decide)),h.sep,⟨h.lo.1,by simpa [World.size_setCell] using h.lo.2⟩,h.hE,h.hx⟩,
  ⟨⟨[bn],hk,fun x hx=>inl (inl (List.mem_singleton.1 hx))⟩,fun x hx=>inl hx,(Below.refl _ _).setCell (p:=⟨bn,256,none⟩) h.lo.1 u⟩⟩
 have:=h.sn.set 256 u;rwa [Array.setIfInBounds_comm vS u (by decide),Array.setIfInBounds_comm vF u (by decide),Array.setIfInBounds_comm vM u (by decide)] at this
theorem iA.net{P:Nat->Prop}{cl:(Nat->Bool)->List Nat}(h:iA B bn M M M cs dt vM vF vS fv sv xs L w)(hM:0<M)(hr:∀i,i<M->vq w P cl (dk L i) (xs i))(fJ:∀i,i<M->dt[i]?=some (mk i)):
  ∃gM cM gF cF gS cS,mq w w.heap.size bn gF M cF (fun i=>vA (fv i)) (fun i=>vC (fv i)) L/\pN w w.heap.size bn gS M cS (fun i=>vA (sv i)) (fun i=>vC (sv i)) cl L/\lu w w.heap.size bn gM M cM mk:=by
 obtain⟨aM,cM,rfl⟩:=bP h.om;obtain⟨aF,cF,rfl⟩:=bP h.fr.own;obtain⟨aS,cS,rfl⟩:=bP h.st.own;obtain⟨gM,rfl,_,pW,No⟩:=eC h.om hM;obtain⟨gF,rfl,_,Sy,Ty⟩:=eC h.fr.own hM;obtain⟨gS,rfl,_,wW,Oo⟩:=eC h.st.own hM;obtain⟨c0,c1,c2⟩:=h.cells;have bz:=h.sn.lt;refine⟨gM,cM,gF,cF,gS,cS,⟨⟨bz,Sy⟩,c1,fun i hi=>?_,fun i hi h0=>?_⟩,⟨⟨bz,wW⟩,c2,fun i hi=>?_,fun i hi h0=>?_⟩,⟨⟨bz,pW⟩,c0,fun i hi=>?_⟩⟩
 ·rw[(Ty i (by omega)).1];obtain⟨a,c,e⟩:=bP (h.fr.row i hi);simp[hi,e,vA,vC]
 ·have ho:=h.fr.row i hi;obtain⟨a,c,e⟩:=bP ho;rw[e] at ho;obtain⟨g,rfl,_,hg,hc⟩:=eC ho h0;refine⟨g,0,by simp[e,vA],hg,fun j hj=>?_⟩;rw[zero_add,(hc j (by omega)).1,BW _ j hj]
 ·rw[(Oo i (by omega)).1];obtain⟨a,c,e⟩:=bP (h.st.row i hi);simp[hi,e,vA,vC]
 ·have ho:=h.st.row i hi;obtain⟨a,c,e⟩:=bP ho;rw[e] at ho;obtain⟨g,rfl,_,hg,hc⟩:=eC ho h0;refine⟨g,0,by simp[e,vA],hg,fun k hk=>?_⟩;obtain⟨a',c',h1,h2,h3⟩:=(hr i hi).2 k hk;refine⟨a',c',by rw[zero_add,(hc (k*2) (by omega)).1,h1],by rw[zero_add,(hc (k*2+1) (by omega)).1,h2],fun h4=>?_⟩;obtain⟨g',off,e1,e2,_,e3⟩:=h3 h4;exact⟨g',off,e1,e2,e3⟩
 rw[(No i (by omega)).1];simp only[ints,getElem?_map,fJ i hi,map_some]
theorem GH(w:World)(p:Addr)(u:Value)(h:g≠p.block):(w.setCell p u).cell? ⟨g,i,none⟩=w.cell? ⟨g,i,none⟩:=by
 have e:=Below.heap_setCell w p u g h;simp only[World.cell?,e]
theorem LX(cs:Array Value)(i:Nat)(v:Value)(h:cs[i]?=some v):cs.setIfInBounds i v=cs:=by
 apply Array.ext_getElem?;intro j;by_cases e:i=j
 ·subst e;rw[Array.getElem?_setIfInBounds_self_of_lt (Array.getElem?_eq_some_iff.1 h).1,h]
 rw[getElem?_setIfInBounds_ne e]
theorem wv.base{B' b7 b8 bL:Nat}{lr:List Nat}{aR:Option Addr}{cR:Nat}{P:Nat->Prop}{DL:List ((Nat->Bool) × Option Addr × Nat)}(h:wv B' b7 b8 bL n lr aR cR P DL w)(hb:B<=B'):wv B b7 b8 bL n lr aR cR P DL w:=
 ⟨h.s7,h.s8,gn h.row hb,h.map,h.at_,⟨le_trans hb h.lo.1,le_trans hb h.lo.2⟩,h.lr⟩
theorem tP.first{V:World}{b3 b5 b6:Nat}{fn:Value}(h:tP V B bn b3 b5 b6 bM fn mf nm cs vM vF vS fv sv xs L w)(u:Value):
  tP V B bn b3 b5 b6 bM fn mf nm (cs.setIfInBounds 256 u) vM vF vS fv sv xs L (w.setCell ⟨bn,256,none⟩ u):=by
 obtain⟨h1,h2⟩:=h.n.first u
 exact⟨h1,h.sM.fZ h.n.sn (by decide) _ _,h.sT.fZ h.n.sn (by decide) _ _,h.sF.fZ h.n.sn (by decide) _ _,h.map.set h.n.sn,h.nd,h.le,h.bM,h.aP.trans h2.below⟩
theorem tP.start(V w3:World)(B b3:Nat)(fn:Value)(mf:Nat->Int)(cN:Array Value)(hb:Below B V w3)(hB:B<=w3.heap.size)(h3:St w3 76 b3 #[fn])(hs:cN.size=260)(h7:cN[257]?=some (.slice none 0 0))(h8:cN[258]?=some (.slice none 0 0))(h9:cN[259]?=some (.slice none 0 0)):
  tP V B w3.heap.size b3 (w3.heap.size+1) (w3.heap.size+1+1+1) (w3.heap.size+1+1) fn mf [] cN (.slice none 0 0) (.slice none 0 0) (.slice none 0 0) (fun _=>.slice none 0 0) (fun _=>.slice none 0 0) (fun _=>[]) []
   ((((w3.alloc (.cells cN 109)).alloc (.cells #[.pointer (some ⟨w3.heap.size,0,none⟩)] 104)).alloc (.map #[] 0)).alloc (.cells #[.map (some (w3.heap.size+1+1))] 147)):=by
 have k1:=al w3 (.cells cN 109);have k2:=al (w3.alloc (.cells cN 109)) (.cells #[.pointer (some ⟨w3.heap.size,0,none⟩)] 104);have k3:=al ((w3.alloc (.cells cN 109)).alloc (.cells #[.pointer (some ⟨w3.heap.size,0,none⟩)] 104)) (.map #[] 0);have k4:=al (((w3.alloc (.cells cN 109)).alloc (.cells #[.pointer (some ⟨w3.heap.size,0,none⟩)] 104)).alloc (.map #[] 0)) (.cells #[.map (some (w3.heap.size+1+1))] 147);have e0:((cN.setIfInBounds 257 (.slice none 0 0)).setIfInBounds 258 (.slice none 0 0)).setIfInBounds 259 (.slice none 0 0)=cN:=by rw[LX cN 257 _ h7,LX cN 258 _ h8,LX cN 259 _ h9]
 refine⟨⟨?_,hs,ownsRow_nil _ _ _ _,⟨ownsRow_nil _ _ _ _,fun i hi=>by simp at hi,fun i j hi=>by simp at hi⟩,⟨ownsRow_nil _ _ _ _,fun i hi=>by simp at hi,fun i j hi=>by simp at hi⟩,fun i hi=>by simp at hi,⟨hB,by simp;omega⟩,fun e he=>by simp at he,fun i hi=>rfl⟩,?_,?_,?_,?_,List.nodup_nil,fun x hx=>by simp at hx,by omega,?_⟩
 ·rw[e0];exact (((St.new w3 109 cN).ab k2).ab k3).ab k4
 ·have:=St.new (((w3.alloc (.cells cN 109)).alloc (.cells #[.pointer (some ⟨w3.heap.size,0,none⟩)] 104)).alloc (.map #[] 0)) 147 #[.map (some (w3.heap.size+1+1))];simpa using this
 ·have:=((St.new (w3.alloc (.cells cN 109)) 104 #[.pointer (some ⟨w3.heap.size,0,none⟩)]).ab k3).ab k4;simpa using this
 ·exact (((h3.ab k1).ab k2).ab k3).ab k4
 ·have h1:aO (((w3.alloc (.cells cN 109)).alloc (.cells #[.pointer (some ⟨w3.heap.size,0,none⟩)] 104)).alloc (.map #[] 0)) 3 (w3.heap.size+1+1) 0 (Ak []):=by
   have:=aO.made ((w3.alloc (.cells cN 109)).alloc (.cells #[.pointer (some ⟨w3.heap.size,0,none⟩)] 104)) 3 (Ak []) (fun x y ⟨k,s,h,_⟩=>by simp at h);simpa using this
  exact h1.same (k4.block _ h1.lt)
 exact (((hb.trans (k1.mono hB)).trans (k2.mono (by simp;omega))).trans (k3.mono (by simp;omega))).trans (k4.mono (by simp;omega))
theorem iA.cl(h:iA B bn Mm Mf Ms cs dt vM vF vS fv sv xs L w)(hs:csA.size=256)(hv:∀j,j<256->csA[j]?=some (.int .u8 (cls K j)))(hc:∀j,j<256->cs[j]?=csA[j]?):Gl w w.heap.size bn K csA:=
 ⟨h.sn.lt,hs,hv,fun j v hj=>by
  have hj2:j<256:=by
   have:=(List.getElem?_eq_some_iff.1 hj).1
   simpa [hs] using this
  have e:(⟨bn,0,none⟩:Addr).add j=⟨bn,j,none⟩:=by unfold Addr.add;split <;> simp_all
  rw[e,h.sn.at_,getElem?_setIfInBounds_ne (by omega),getElem?_setIfInBounds_ne (by omega),getElem?_setIfInBounds_ne (by omega),hc j hj2,<-getElem?_toList,hj]⟩
theorem zeC{o:Oper}(hg:o.guard=none)(ty:TypeId)(x:Operand)(ho:o.op=.load ty x)(ad:Addr)(hx:ev x=.pointer (some ad))(cs:Array Value)(d:TypeDesc)(w:World)(hc:∀j v,cs.toList[j]?=some v->w.cell? (ad.add j)=some v)
  (hu:P.underlying ty=some d) (hd:(match d with|.struct _|.array _ _=>true|_=>false)=true) (hi:(P.info? ty).map (·.size)=some cs.size):(execOp ev o).run P w=.ok (.value (.agg cs)) w:=by
 unfold execOp;simp only[ho,hx,Instr.loadAt,sureAddr,run_bind,run_pure,andThen_ok,Jb w ad ty cs d hc hu hd hi]
theorem PK{o:Oper}(hg:o.guard=none)(t:TypeId)(parts:Array (Nat × Operand))(ho:o.op=.build t parts)(ps:Array (Nat × Value))(hp:(parts.map fun (i,x)=>(i,ev x))=ps)(v:Value)(hb:(build t ps).run P w=.ok v w):(execOp ev o).run P w=.ok (.value v) w:=by
 unfold execOp;simp only[ho,hp,run_bind,hb,andThen_ok,run_pure]
theorem zmD(N:Nat)(hN:N<=2147483647)(W:World):(Instr.makeSlice 112 (.int .i64 (N:Int)) (.int .i64 (N:Int))).run prog W=.ok (.slice (some ⟨W.heap.size,0,none⟩) N N) (W.alloc (.cells (madeCells #[.int .u8 0] N) 5)):=by
 have:=run_make_row' (P:=prog) 112 5 (.int .u8 0) 1 underlying112 lx rfl .i64 .i64 N (by omega) (by omega) W;simpa using this
theorem UY{cK:Array Value}(hw:Below B w w')(hB:B<=w'.heap.size)(hm:St w' 114 bm cK)(hi:w'.ownsRow B 5 1 (.slice (some ⟨gI,0,none⟩) m m) m (replicate m (.int .u8 0)))(hM:aO w' 9 bM 0 (MQ M []))
  (gq:∀j,j<256->csA[j]?=some (.int .u8 (cls K j)))
  (hc:cK.size=263/\cK[0]?=some (.pointer (some ⟨bn,0,none⟩))/\(∀j,j<256->cK[1+j]?=csA[j]?)/\cK[257]?=some (.slice none 0 0)/\cK[258]?=some (.slice none 0 0)/\cK[259]?=some (.slice none 0 0)/\cK[260]?=some (.map (some bM))/\cK[261]?=some (.slice (some ⟨gI,0,none⟩) m m)/\cK[262]?=some (.slice none 0 0))
  (h1:B<=bm) (h2:B<=gI) (h3:B<=bM):mi B bm gI bM m M C bn K L mk [] [] [] [] 0 cK [] (.slice none 0 0) (.slice none 0 0) (.slice none 0 0) (.slice none 0 0) [] w':=by
 obtain⟨z,c0,cc,c7,c8,c9,c10,c11,c12⟩:=hc;refine⟨⟨⟨Kept.refl _ _ _,Below.refl _ _,by rw[LX cK 262 _ c12];exact hm,z,c11,?_,ownsRow_nil _ _ _ _,fun b e=>by simp[ownBlock] at e,⟨by simp[jw],by simp[jw]⟩,h1,h2,hB⟩,List.nodup_nil,fun x hx=>by simp at hx⟩,
  ⟨c8,c9,c10,ownsRow_nil _ _ _ _,ownsRow_nil _ _ _ _,hM,fun b e=>by simp[ownBlock] at e,fun b e=>by simp[ownBlock] at e,fun b e=>by simp[ownBlock] at e,by simp[jw],h3⟩,
  ⟨fun j hj=>by simp at hj,fun p hp=>by simp at hp,rfl,fun j hj=>by simp at hj⟩,⟨ownsRow_nil _ _ _ _,rfl,fun i hi=>by simp at hi⟩,c0,c7,fun j hj=>by rw[cc j hj];exact gq j hj,le_refl _⟩
 rw[show (fun x=>decide (x∈([]:List Nat)))=fun _=>false from by funext x;simp,SF];exact hi
def Cw(B m M C bn:Nat)(K:Nat->Lit)(L:List En)(mk:Nat->Int)(w:World)(e:Ending)(w':World):Prop:=
 ∃(bm gI bM:Nat) (cK:Array Value),e=.returned (.pointer (some ⟨bm,0,none⟩))/\mi B bm gI bM m M C bn K L mk [] [] [] [] 0 cK [] (.slice none 0 0) (.slice none 0 0) (.slice none 0 0) (.slice none 0 0) [] w'/\Below B w w'
theorem zhc(K:Nat->Lit)(L:List En)(mk:Nat->Int)(csA:Array Value)(bn gM M cM m C:Nat)(w:World)(h:Gl w w.heap.size bn K csA)(hM:w.cell? ⟨bn,257,none⟩=some (.slice (some ⟨gM,0,none⟩) M cM))(NP:M<=12900)(hm:(M+7) / 8=m):
  Calls prog 65 #[.pointer (some ⟨bn,0,none⟩)] w (Cw w.heap.size m M C bn K L mk w):=by
 have dO:(prog.info? 25).map (·.size)=some csA.size:=by rw[h.sz];kernel_rfl
 obtain⟨cD,hDs,hD,tm⟩:=zoc csA h.sz;have z8:=zmD m (by omega);have ju:=@run_makeMap prog;have hq:Int.tdiv ((M:Int)+7) 8=(m:Int):=by rw[Int.tdiv_eq_ediv_of_nonneg (by omega),<-hm];omega
 have BD:IntKind.i64.wrap ((M:Int)+7)=(M:Int)+7:=IntWalk.i64_in _ (by omega);have Jm:IntKind.i64.wrap (m:Int)=m:=IntWalk.i64_in _ (by omega);have H:=hid h;have bz:=h.gG;have dz:=hid (fun (W':World) (k:Below w.heap.size w W')=>(⟨fun j v hj=>(by
   have e:(⟨bn,0,none⟩:Addr).add j=⟨bn,j,none⟩:=by unfold Addr.add;split <;> simp_all
   have h2:=h.at_ j v hj
   rw[e] at h2⊢
   exact (k.cell (p:=⟨bn,j,none⟩) bz).trans h2),(k.cell (p:=⟨bn,257,none⟩) bz).trans hM⟩:
  (∀j v,csA.toList[j]?=some v->W'.cell? ((⟨bn,0,none⟩:Addr).add j)=some v)/\W'.cell? ⟨bn,257,none⟩=some (.slice (some ⟨gM,0,none⟩) M cM)))
 have mI:∀(W:World),w.heap.size<=W.heap.size->(W.alloc (.cells (madeCells #[.int .u8 0] m) 5)).ownsRow w.heap.size 5 1 (.slice (some ⟨W.heap.size,0,none⟩) m m) m (replicate m (.int .u8 0)):=fun W hW=>Ee W w.heap.size m 5 (.int .u8 0) hW (by unfold maxLen;omega)
 have HBa:Below w.heap.size w ((w.alloc (.map #[] 0)).alloc (.cells (madeCells #[.int .u8 0] m) 5)).drew:=((al w _).trans ((al _ _).mono (by simp))).drew;have Zk:Below w.heap.size w ((w.alloc (.cells (madeCells #[.int .u8 0] m) 5)).alloc (.map #[] 0)).drew:=((al w _).trans ((al _ _).mono (by simp))).drew;have C4:∀cK:Array Value,Below w.heap.size w (((w.alloc (.map #[] 0)).alloc (.cells (madeCells #[.int .u8 0] m) 5)).alloc (.cells cK 114)).drew:=fun cK=>(((al w _).trans ((al _ _).mono (by simp))).trans ((al _ _).mono (by simp;omega))).drew
 have DG:∀cK:Array Value,Below w.heap.size w (((w.alloc (.cells (madeCells #[.int .u8 0] m) 5)).alloc (.map #[] 0)).alloc (.cells cK 114)).drew:=fun cK=>(((al w _).trans ((al _ _).mono (by simp))).trans ((al _ _).mono (by simp;omega))).drew
 have mM:∀(W:World),aO (W.alloc (.map #[] 0)) 9 W.heap.size 0 (MQ M []):=fun W=>aO.made W 9 (MQ M []) (fun x y ⟨p,hp,_⟩=>by simp at hp)
 have xU:∀cK:Array Value,(cK.size=263/\cK[0]?=some (.pointer (some ⟨bn,0,none⟩))/\(∀j,j<256->cK[1+j]?=csA[j]?)/\cK[257]?=some (.slice none 0 0)/\cK[258]?=some (.slice none 0 0)/\cK[259]?=some (.slice none 0 0)/\cK[260]?=some (.map (some w.heap.size))/\cK[261]?=some (.slice (some ⟨w.heap.size+1,0,none⟩) m m)/\cK[262]?=some (.slice none 0 0))->
   Hid (Cw w.heap.size m M C bn K L mk w (.returned (.pointer (some ⟨w.heap.size+1+1,0,none⟩))) (((w.alloc (.map #[] 0)).alloc (.cells (madeCells #[.int .u8 0] m) 5)).alloc (.cells cK 114)).drew):=fun cK hc=>by
  have k3:=al ((w.alloc (.map #[] 0)).alloc (.cells (madeCells #[.int .u8 0] m) 5)) (.cells cK 114)
  refine⟨w.heap.size+1+1,w.heap.size+1,w.heap.size,cK,rfl,UY (csA:=csA) (C4 cK) (by simp;omega) ?_ ?_ ?_ H.out.val hc (by omega) (by omega) (le_refl _),C4 cK⟩
  ·have:=(St.new ((w.alloc (.map #[] 0)).alloc (.cells (madeCells #[.int .u8 0] m) 5)) 114 cK).drew
   simpa using this
  ·have:=db (mI (w.alloc (.map #[] 0)) (by simp)) (k3.drew)
   simpa using this
  ·exact (mM w).same (((al (w.alloc (.map #[] 0)) _).trans (k3.mono (by simp))).drew.block _ (by simp))
 have HFb:∀cK:Array Value,(cK.size=263/\cK[0]?=some (.pointer (some ⟨bn,0,none⟩))/\(∀j,j<256->cK[1+j]?=csA[j]?)/\cK[257]?=some (.slice none 0 0)/\cK[258]?=some (.slice none 0 0)/\cK[259]?=some (.slice none 0 0)/\cK[260]?=some (.map (some (w.heap.size+1)))/\cK[261]?=some (.slice (some ⟨w.heap.size,0,none⟩) m m)/\cK[262]?=some (.slice none 0 0))->
   Hid (Cw w.heap.size m M C bn K L mk w (.returned (.pointer (some ⟨w.heap.size+1+1,0,none⟩))) (((w.alloc (.cells (madeCells #[.int .u8 0] m) 5)).alloc (.map #[] 0)).alloc (.cells cK 114)).drew):=fun cK hc=>by
  have k3:=al ((w.alloc (.cells (madeCells #[.int .u8 0] m) 5)).alloc (.map #[] 0)) (.cells cK 114)
  refine⟨w.heap.size+1+1,w.heap.size,w.heap.size+1,cK,rfl,UY (csA:=csA) (DG cK) (by simp;omega) ?_ ?_ ?_ H.out.val hc (by omega) (le_refl _) (by omega),DG cK⟩
  ·have:=(St.new ((w.alloc (.cells (madeCells #[.int .u8 0] m) 5)).alloc (.map #[] 0)) 114 cK).drew
   simpa using this
  ·exact db (mI w (le_refl _)) ((al _ _).trans (k3.mono (by simp))).drew
  ·have:=(mM (w.alloc (.cells (madeCells #[.int .u8 0] m) 5))).same (k3.drew.block _ (by simp))
   simpa using this
 clear h hM;go_in;go_upto_region 1 with fail;refine wp_region_held_drew (S:=fun W'=>(∀j v,csA.toList[j]?=some v->W'.cell? ((⟨bn,0,none⟩:Addr).add j)=some v)/\W'.cell? ⟨bn,257,none⟩=some (.slice (some ⟨gM,0,none⟩) M cM)) (by kernel_rfl) (dz.out _ (Below.refl _ _).drew) (fun η=>?_)
 (refine an 0 ?_;refine an 1 ?_;refine an 2 ?_;try simp only[put,sA];refine an 3 ?_)
 (refine an 4 (v:=(.agg csA)) ?_ (hy:=by intro wz hSw;exact zeC rfl 25 _ rfl ⟨bn,0,none⟩ (by rfl) csA (.array 256 5) wz hSw.1 underlying25 rfl dO);try simp only[put,sA])
 (refine wpAnyH_take (i:=5) (oi:=?_) (v:=(.agg cD)) ?_ (by kernel_rfl) (by kernel_rfl) (by kernel_rfl) ?_ (inl ⟨?_,?_⟩) (by assumption) ?_;rotate_left 1;(focus ((simp only[getElem?_toArray,List.getElem?_cons_succ,List.getElem?_cons_zero]);first|done|rfl));(focus (exact fun _ _ _ h=>h));(focus rfl);(focus (intro wz hSw;exact PK rfl 29 _ rfl #[(0,.agg csA)] (by first|kernel_rfl|(go_simp;done)) (.agg cD) (hD wz)));try simp only[put,sA])
 (refine an 7 ?_;refine an 8 ?_;refine an 9 ?_;try simp only[put,sA];refine an 10 ?_;refine an 11 ?_;refine an 12 ?_;try simp only[put,sA];refine an 13 ?_;try simp only[put,sA])
 refine wpAnyH_ready (rs:=[6,14]) (by kernel_rfl) (by simp) ?_;refine hJ (fun K hK=>?_) ?_
 ·skip;go_simp;refine hK.out _ _ (dz.out _ (al w _).drew) fun η=>?_;clear hK K
  try simp only[put,sA]
  refine bc 14 (fun K hK=>?_);skip;go_simp;refine hK.out _ _ (dz.out _ HBa) fun η=>?_;clear hK K
  try simp only[put,sA]
  obtain⟨cK,o8⟩:=tm bn w.heap.size (w.heap.size+1) m;have uk:=C4 cK;have HF:=xU cK ⟨o8.1,o8.2.1,o8.2.2.1,o8.2.2.2.1,o8.2.2.2.2.1,o8.2.2.2.2.2.1,o8.2.2.2.2.2.2.1,o8.2.2.2.2.2.2.2.1,o8.2.2.2.2.2.2.2.2.1⟩
  (refine wpAnyH_take (i:=15) (oi:=?_) (v:=(.agg cK)) ?_ (by kernel_rfl) (by kernel_rfl) (by kernel_rfl) ?_ (inl ⟨?_,?_⟩) (by assumption) ?_;rotate_left 1;(focus ((simp only[getElem?_toArray,List.getElem?_cons_succ,List.getElem?_cons_zero]);first|done|rfl));(focus (exact fun _ _ _ h=>h));(focus rfl);(focus (intro wz hSw;exact PK rfl 114 _ rfl #[(0,.pointer (some ⟨bn,0,none⟩)),(1,.agg cD),(3,.map (some (w.heap.size))),(4,.slice (some ⟨w.heap.size+1,0,none⟩) m m)] (by first|kernel_rfl|(go_simp;done)) (.agg cK) (o8.2.2.2.2.2.2.2.2.2 wz)));try simp only[put,sA])
  refine bc 16 (fun K hK=>?_);skip;go_simp;refine hK.out _ _ (dz.out _ uk) fun η=>?_;clear hK K
  try simp only[put,sA]
  (refine an 17 ?_;try simp only[put,sA])
  refine wpAnyH_done (by kernel_rfl) ?_ _;clear η;go_wp2;go_ret;exact HF.out
 refine hJ (fun K hK=>?_) ?_
 ·skip;go_simp;refine hK.out _ _ (dz.out _ (al w _).drew) fun η=>?_;clear hK K
  try simp only[put,sA]
  refine bc 6 (fun K hK=>?_);skip;go_simp;refine hK.out _ _ (dz.out _ Zk) fun η=>?_;clear hK K
  try simp only[put,sA]
  obtain⟨cK,o8⟩:=tm bn (w.heap.size+1) w.heap.size m;have uk:=DG cK;have HF:=HFb cK ⟨o8.1,o8.2.1,o8.2.2.1,o8.2.2.2.1,o8.2.2.2.2.1,o8.2.2.2.2.2.1,o8.2.2.2.2.2.2.1,o8.2.2.2.2.2.2.2.1,o8.2.2.2.2.2.2.2.2.1⟩
  (refine wpAnyH_take (i:=15) (oi:=?_) (v:=(.agg cK)) ?_ (by kernel_rfl) (by kernel_rfl) (by kernel_rfl) ?_ (inl ⟨?_,?_⟩) (by assumption) ?_;rotate_left 1;(focus ((simp only[getElem?_toArray,List.getElem?_cons_succ,List.getElem?_cons_zero]);first|done|rfl));(focus (exact fun _ _ _ h=>h));(focus rfl);(focus (intro wz hSw;exact PK rfl 114 _ rfl #[(0,.pointer (some ⟨bn,0,none⟩)),(1,.agg cD),(3,.map (some (w.heap.size+1))),(4,.slice (some ⟨w.heap.size,0,none⟩) m m)] (by first|kernel_rfl|(go_simp;done)) (.agg cK) (o8.2.2.2.2.2.2.2.2.2 wz)));try simp only[put,sA])
  refine bc 16 (fun K hK=>?_);skip;go_simp;refine hK.out _ _ (dz.out _ uk) fun η=>?_;clear hK K
  try simp only[put,sA]
  (refine an 17 ?_;try simp only[put,sA])
  refine wpAnyH_done (by kernel_rfl) ?_ _;clear η;go_wp2;go_ret;exact HF.out
 exact AllReadyH.nil
theorem lN(w:World):(zeroValue 29).run prog w=.ok (.agg (zC 29)) w:=by kernel_rfl
theorem zS:∀v∈(zC 29).toList,v.oneCell'=true:=by
 have h:(zC 29).toList.all (fun v=>v.oneCell')=true:=by kernel_rfl
 exact fun v hv=>List.all_eq_true.1 h v hv
theorem fH:(prog.info? 29).map (·.size)=some 258:=by kernel_rfl
theorem GG(w:World):(build 29 #[]).run prog w=.ok (.agg (zC 29)) w:=run_build w _ _ _ (by kernel_rfl)
theorem og{rest:List Oper}{o:Oper}{a:Act}{Q:Exit->Act->World->Prop}(oE:o.guard=none)(t:TypeId)(ho:o.op=.alloc t)(cs:Array Value)(hz:(zeroValue t).run P w=.ok (.agg cs) w)
  (h:wpList P ops Q rest (a.put o.dst (.pointer (some ⟨w.heap.size,0,none⟩))) (w.alloc (.cells cs t))):wpList P ops Q (o :: rest) a w:=
 wpList_plain oE fun _ hK=>by
  unfold Oper.wp execOp
  simp only[ho,Instr.alloc,run_bind,hz,andThen_ok,newVar,newRow,newObj,Value.cells]
  exact hK _ _ h
theorem lO{rest:List Oper}{o:Oper}{a:Act}{Q:Exit->Act->World->Prop}(oE:o.guard=none)(ty:TypeId)(x v:Operand)(ho:o.op=.store ty x v)(g t:Nat)(jG cs:Array Value)(hx:a.eval x=.pointer (some ⟨g,0,none⟩))(hv:a.eval v=.agg cs)
  (bY:w.heap[g]?=some (.cells jG t (0,0))) (dc:jG.size=cs.size) (hi:(P.info? ty).map (·.size)=some cs.size) (h1:∀u∈cs.toList,u.oneCell'=true) (h:wpList P ops Q rest (a.put o.dst undef) (w.setRow g cs)):wpList P ops Q (o :: rest) a w:=by
 have cy:(storeVar ty ⟨g,0,none⟩ (.agg cs)).run P w=.ok () (w.setRow g cs):=by
  have hs:(sizeOf ty).run P w=.ok cs.size w:=by
   cases hq:P.info? ty with
   | none=>simp[hq] at hi
   | some inf=>
    have:inf.size=cs.size:=(by simpa [hq] using hi);simp[sizeOf,typeInfo,hq,this]
  have:=run_storeCells_at (P:=P) g 0 t cs.toList 0 jG w bY (by simp[dc]) h1;unfold storeVar;simp only[run_bind,hs,andThen_ok];rw[if_neg (show ¬((Value.agg cs).cells.size≠cs.size) from fun h=>h rfl)];show (storeCells ⟨g,0,none⟩ cs.toList).run P w=_;rw[this];congr 2;have hd:List.drop cs.size jG.toList=[]:=List.drop_of_length_le (by simp[dc]);simp[hd]
 exact wpList_plain oE fun _ hK=>by
  unfold Oper.wp execOp;simp only[ho,hx,hv,Instr.storeAt,sureAddr,run_bind,run_pure,andThen_ok,cy];exact hK _ _ h
theorem St.setRow{jG:Array Value}(h:St w t g jG):St (w.setRow g cs) t g cs:=setRow_heap w g jG cs t (0,0) h
theorem kZ(h:Below B w w')(hg:B<=g)(cs:Array Value):Below B w (w'.setRow g cs):=
 ⟨h.os,h.tape,h.output,by rw[setRow_size];exact h.size,fun k hk=>by rw[setRow_other w' g k cs (by omega)];exact h.block k hk⟩
theorem xu{fn:Func}{p u:Tmp}{ty:TypeId}(h:fn.results=#[.cell p ty,.tmp u])(tmps:Array Value)(w:World)(g:Nat)(cs:Array Value)(d:TypeDesc)(hp:tmps.getD p undef=.pointer (some ⟨g,0,none⟩))(hc:∀j v,cs.toList[j]?=some v->w.cell? ((⟨g,0,none⟩:Addr).add j)=some v)
  (hu:P.underlying ty=some d) (hd:(match d with|.struct _|.array _ _=>true|_=>false)=true) (hi:(P.info? ty).map (·.size)=some cs.size):
  (results fn tmps).run P w=.ok (.tuple #[.agg cs,tmps.getD u undef]) w:=by
 rw[results_cell_tmp h,hp];have h1:(asAddr (.pointer (some ⟨g,0,none⟩))).run P w=.ok ⟨g,0,none⟩ w:=by rfl
 rw[h1,andThen_ok,Jb w ⟨g,0,none⟩ ty cs d hc hu hd hi,andThen_ok]
theorem St.part(h:St w t g cs):∀j v,cs.toList[j]?=some v->w.cell? ((⟨g,0,none⟩:Addr).add j)=some v:=fun j v hj=>by
 have e:(⟨g,0,none⟩:Addr).add j=⟨g,j,none⟩:=by unfold Addr.add;split <;> simp_all
 rw[e,h.at_,<-getElem?_toList,hj]
open Go.ChangeShapes
theorem td:(prog.info? 153).map (fun i=>(i.zero,i.size,i.bytes))=some (some (.agg #[.slice none 0 0,.int .i64 0]),2,32):=by kernel_rfl
def KM(K:Nat->Lit)(mf:Nat->Int)(L:List En)(F:Nat)(w:World)(e:Ending)(w':World):Prop:=
 ∃(bn f0 gM cM gF cF gS cS:Nat) (nm:List Nat) (L':List En) (aF aS:Nat->Option Addr) (Di E8:Nat->Nat) (csA:Array Value),e=.returned (.pointer (some ⟨bn,0,none⟩))/\Below w.heap.size w w'/\mq w' w'.heap.size bn gF nm.length cF aF Di L'/\
  pN w' w'.heap.size bn gS nm.length cS aS E8 (qZ (rl K 256)) L'/\lu w' w'.heap.size bn gM nm.length cM (fun i=>mf (nm.getD i 0))/\Gl w' w'.heap.size bn K csA/\w'.cell? ⟨bn,256,none⟩=some (.int .i64 (f0:Int))/\
  L=L'.map (En.oG nm)/\nm.Nodup/\(∀e∈L',e.f<nm.length/\e.t<nm.length)/\nm[f0]?=some F/\nm.length<=2*L.length+1/\∀x∈nm,Src L F F x
theorem zkA(kf bV:Nat)(mf:Nat->Int)(S0 T:Int)(F:Nat)(L:List En)(a:Option Addr)(n c:Nat)(w:World)(HC:∀(args:Array Value) (W:World),(callFunc kf args).run prog W=.ok (.enter kf args) W)
  (HM:∀W,Below w.heap.size w W->∀x,x<=9223372036854775807->Calls prog kf #[.int .i64 ((x:Nat):Int),.pointer (some ⟨bV,0,none⟩)] W fun e w'=>e=.returned (.int .i64 (mf x))/\w'=W)
  (hL:gV w a (L.map En.z)) (hn:L.length=n) (dG:n<=6400) (pv:(cH (L.map En.z)).length<=1000) (hF:F<=9223372036854775807) (hE:∀e∈L,e.f<=9223372036854775807/\e.t<=9223372036854775807):
  Calls prog 66 #[.agg #[.int .i64 S0,.slice a n c,.int .i64 (F:Int),.int .i64 T],.func (.func kf) #[] #[.pointer (some ⟨bV,0,none⟩)]] w (KM (dQ L) mf L F w):=by
 have ju:=@run_makeMap prog;have D5:∀(fn:Fn) (first cap:Array Value) (w:World),(makeFunc fn first cap).run prog w=.ok (.func fn first cap) w:=fun _ _ _ _=>rfl
 have Hsb:=hid pv;have HH:=φ HC HM hL hn hE;clear HC HM hL hn hE pv;go_in;go_upto_region 1 with fail;have HI:Hid (∃W0,(w.alloc (.cells #[.int .i64 S0,.slice a n c,.int .i64 (F:Int),.int .i64 T] 55)).alloc (.cells #[.func (.func kf) #[] #[.pointer (some ⟨bV,0,none⟩)]] 76)=W0):=⟨_,rfl⟩
 obtain⟨W0,qC⟩:=HI.out;have h2:St W0 55 w.heap.size #[.int .i64 S0,.slice a n c,.int .i64 (F:Int),.int .i64 T]:=by rw[<-qC];exact (St.new w _ _).alloc _
 have h3:St W0 76 (w.heap.size+1) #[.func (.func kf) #[] #[.pointer (some ⟨bV,0,none⟩)]]:=by
  rw[<-qC];have:=St.new (w.alloc (.cells #[.int .i64 S0,.slice a n c,.int .i64 (F:Int),.int .i64 T] 55)) 76 #[.func (.func kf) #[] #[.pointer (some ⟨bV,0,none⟩)]];simpa using this
 have lF:Below w.heap.size w W0:=by rw[<-qC];exact (al w _).trans ((al _ _).mono (by simp))
 rw[qC];clear qC HI;have H0:=ξ h2 h3 lF;obtain⟨r0,r1,r2,r3⟩:=h2.bZ;have Wi:=hid (zog S0 (F:Int) T a n c (L.map En.z) W0 (HH.out.2.2.1.below lF) (by rw[length_map];exact HH.out.2.2.2.1) (by omega));clear h2 h3 lF;go_wp2_with fail;refine Wi.out.mono ?_;rintro e w1 ⟨a1,n1,c1,rfl,jD,Dw,mC⟩;have da:n1<=1000:=by rw[<-jD];exact Hsb.out
 subst jD;have pP:=hid (zhp a1 _ c1 (rn (L.map En.z)) da w1 (zon Dw rfl));have rv:=hid mC;clear Dw mC r0 r1 r2 r3 Wi da;go_wp2_with fail;refine pP.out.mono ?_;rintro e w3 ⟨csA,rfl,QB,Yn,pS⟩;obtain⟨cN,mS,gZ,il,Ig,Jp,Ip,xv⟩:=zmi csA QB;have uk:=hid (show Below w.heap.size w w3/\St w3 55 w.heap.size #[.int .i64 S0,.slice a n c,.int .i64 (F:Int),.int .i64 T]/\St w3 76 (w.heap.size+1) #[.func (.func kf) #[] #[.pointer (some ⟨bV,0,none⟩)]] from by
  have hk:=rv.out.trans (pS.mono rv.out.size)
  exact⟨H0.out.2.2.trans (hk.mono H0.out.2.2.size),H0.out.1.ab hk,H0.out.2.1.ab hk⟩)
 have HN:=hid (Zz QB (Zz Yn (Zz mS (Zz gZ (Zz il (Zz Ig (Zz Jp Ip)))))));clear QB Yn pS mS gZ il Ig Jp Ip pP;go_wp2_with (refine AH rfl 109 _ rfl #[(0,.agg csA)] ?hp (.agg cN) ?hb ?_)
 case hb=>exact xv _
 go_upto_region 4 with fail;have HA:=hid (tP.start w w3 w.heap.size (w.heap.size+1) (.func (.func kf) #[] #[.pointer (some ⟨bV,0,none⟩)]) mf cN uk.out.1 uk.out.1.size uk.out.2.2 HN.out.2.2.1 HN.out.2.2.2.2.2.1 HN.out.2.2.2.2.2.2.1 HN.out.2.2.2.2.2.2.2);have gY:Hid (St ((((w3.alloc (.cells cN 109)).alloc (.cells #[.pointer (some ⟨w3.heap.size,0,none⟩)] 104)).alloc (.map #[] 0)).alloc (.cells #[.map (some (w3.heap.size+1+1))] 147)) 55 w.heap.size #[.int .i64 S0,.slice a n c,.int .i64 (F:Int),.int .i64 T]):=(((uk.out.2.1.ab (al _ _)).ab (al _ _)).ab (al _ _)).ab (al _ _);obtain⟨bn,bz⟩:∃bn,w3.heap.size=bn:=⟨_,rfl⟩
 rw[bz] at HA gY;rw[bz];generalize (((w3.alloc (.cells cN 109)).alloc (.cells #[.pointer (some ⟨bn,0,none⟩)] 104)).alloc (.map #[] 0)).alloc (.cells #[.map (some (bn+1+1))] 147)=W4 at HA gY⊢;obtain⟨b5,ku⟩:∃b5,bn+1=b5:=⟨_,rfl⟩
 obtain⟨bM,oo⟩:∃bM,bn+1+1=bM:=⟨_,rfl⟩
 obtain⟨b6,eU⟩:∃b6,bn+1+1+1=b6:=⟨_,rfl⟩
 obtain⟨b2,cv⟩:∃b2,w.heap.size=b2:=⟨_,rfl⟩
 obtain⟨b3,dM⟩:∃b3,w.heap.size+1=b3:=⟨_,rfl⟩
 rw[eU,oo,ku] at HA;rw[eU,ku];rw[dM] at HA;rw[dM];have RA:=gY.out;rw[cv] at RA gY;have US:Below W4.heap.size W4 W4.drew:=(Below.refl _ _).drew;have yL:=hid (HA.out.ab US);have AA:=hid (Sa w w.heap.size bn b3 b5 b6 bM kf bV mf [] cN (.slice none 0 0) (.slice none 0 0) (.slice none 0 0) (fun _=>.slice none 0 0) (fun _=>.slice none 0 0) (fun _=>[]) [] W4.drew HH.out.1 HH.out.2.1 yL.out (by simp) F hF);have q2:W4.drew.cell? ⟨b2,2,none⟩=some (.int .i64 (F:Int)):=RA.at_ 2;have q5:W4.drew.cell? ⟨b5,0,none⟩=some (.pointer (some ⟨bn,0,none⟩)):=HA.out.sT.at_ 0;rw[cv];have Zk:=φ cv ku oo eU dM;clear RA cv ku oo eU dM bz US xv;refine wp_region_held_drew (S:=fun W'=>W'.cell? ⟨b5,0,none⟩=some (.pointer (some ⟨bn,0,none⟩))/\W'.cell? ⟨b2,2,none⟩=some (.int .i64 (F:Int))) (by kernel_rfl) ⟨q5,q2⟩ (fun η=>?_)
 (refine an 0 ?_;refine an 1 ?_;refine an 2 ?_;try simp only[put,sA];refine an 3 ?_;try simp only[put,sA])
 refine bc 4 (fun K hK=>?_);skip;go_simp;go_at_call 102;refine AA.out.mono ?_;rintro e w5 ⟨f0,RW,Sf,Pr,IX,Sk,Ql,rfl,Bp,ka,Jr,TM⟩;have HX:=ψ Bp ka Jr TM;have Cg:St w5 55 b2 #[.int .i64 S0,.slice a n c,.int .i64 (F:Int),.int .i64 T]:=TM.st gY.out.drew (fun e=>Or.elim e (fun e=>AW yL.out.map gY.out.drew e) (fun e=>yL.out.n.pw gY.out.drew (by decide) (by decide) (by decide) (by decide) (by decide) e));have VD:w5.cell? ⟨b5,0,none⟩=some (.pointer (some ⟨bn,0,none⟩)):=HX.out.1.sT.at_ 0;have q6:=HX.out.1.n.sn.bb 256;have q7:w5.cell? ⟨bn,256,none⟩=some (.int .i64 0):=(by rw[HX.out.1.n.sn.at_,getElem?_setIfInBounds_ne (by decide),getElem?_setIfInBounds_ne (by decide),getElem?_setIfInBounds_ne (by decide)];exact HN.out.2.2.2.2.1)
 have lP:Hid (tP w w.heap.size bn b3 b5 b6 bM (.func (.func kf) #[] #[.pointer (some ⟨bV,0,none⟩)]) mf RW (cN.setIfInBounds 256 (.int .i64 (f0:Int))) Sf Pr IX Sk Ql (fun _=>[]) [] (w5.setCell ⟨bn,256,none⟩ (.int .i64 (f0:Int)))/\St (w5.setCell ⟨bn,256,none⟩ (.int .i64 (f0:Int))) 55 b2 #[.int .i64 S0,.slice a n c,.int .i64 (F:Int),.int .i64 T]):=⟨HX.out.1.first _,Cg.fZ HX.out.1.n.sn (by decide) _ _⟩
 have LF:=hid HX.out.2;have q2':w5.cell? ⟨b2,2,none⟩=some (.int .i64 (F:Int)):=Cg.at_ 2;clear Bp ka Jr TM
 try go_wp2_with fail
 refine hK.out _ _ ⟨VD,q2'⟩ fun η=>?_;clear hK K
 try simp only[put,sA]
 (refine an 5 ?_;refine an 6 ?_;try simp only[put,sA])
 refine bc 7 (fun K hK=>?_);skip;go_simp;refine hK.out _ _ ⟨lP.out.1.sT.at_ 0,lP.out.2.at_ 2⟩ fun η=>?_;clear hK K
 try simp only[put,sA]
 refine wpAnyH_done (by kernel_rfl) ?_ _;clear η q2 q5 VD q6 q7 q2' Cg HX AA yL;generalize w5.setCell ⟨bn,256,none⟩ (.int .i64 (f0:Int))=W5 at lP⊢;have s0:W5.cell? ⟨b5,0,none⟩=some (.pointer (some ⟨bn,0,none⟩)):=lP.out.1.sT.at_ 0;have XX:=hid (zmC (dQ L) bn csA W5 (lP.out.1.n.cl HN.out.1 HN.out.2.1 (fun j hj=>by rw[getElem?_setIfInBounds_ne (by omega)];exact HN.out.2.2.2.1 j hj)));go_wp2_with fail;refine XX.out.mono ?_;rintro e w6 ⟨b7,b8,bL,aR,cR,rfl,BL,qD,hbL⟩;have mj:Hid (mO w w.heap.size b2 b3 b5 b6 b7 b8 bn bM bL (.func (.func kf) #[] #[.pointer (some ⟨bV,0,none⟩)]) mf #[.int .i64 S0,.slice a n c,.int .i64 (F:Int),.int .i64 T] (cN.setIfInBounds 256 (.int .i64 (f0:Int))) (rl (dQ L) 256) aR cR L F f0 0 1 0 RW Sf Pr IX Sk Ql (fun _=>[]) [] [] w6):=by
  have h1:=lP.out.1.ab qD;refine⟨h1,(BL _).base lP.out.1.aP.size,lP.out.2.ab qD,fun i hi=>vq.nil _ _ _,rfl,fun e he=>by simp at he,LF.out.1,?_,?_,?_⟩
  ·rcases LF.out.2.1 with h|h <;> rw[h] <;> simp
  ·have:=lP.out.1.map.lt;omega
  exact Vs LF.out.2.1 (inl rfl) (fun x hx=>by simp at hx)
 have s1:w6.cell? ⟨b2,1,none⟩=some (.slice a n c):=mj.out.s2.at_ 1;have SO:St w6 55 b2 #[.int .i64 S0,.slice a n c,.int .i64 (F:Int),.int .i64 T]:=mj.out.s2;clear BL qD hbL s0 XX lP LF SO;go_wp2_with fail;clear s1;go_loopw [10,11,12,32] (fun _ _ _ v wq=>∃(k nn:Nat) (nm:List Nat) (vM vF vS:Value) (fv sv:Nat->Value) (xs:Nat->List Value) (L':List En) (DL:List ((Nat->Bool) × Option Addr × Nat)),v=.int .i64 k/\k<=n/\nn<=k/\
  Hid (mO w w.heap.size b2 b3 b5 b6 b7 b8 bn bM bL (.func (.func kf) #[] #[.pointer (some ⟨bV,0,none⟩)]) mf #[.int .i64 S0,.slice a n c,.int .i64 (F:Int),.int .i64 T] (cN.setIfInBounds 256 (.int .i64 (f0:Int))) (rl (dQ L) 256) aR cR L F f0 k (2*k+1) nn nm vM vF vS fv sv xs L' DL wq)) (fun _ _ _ v _=>n-(intOf v).toNat)
 ·exact⟨0,0,RW,Sf,Pr,IX,Sk,Ql,_,[],[],rfl,zero_le _,le_refl _,mj⟩
 clear mj;obtain⟨k,nn,nm,vM,vF,vS,fv,sv,xs,L1,DL,rfl,hk,JF,HA⟩:=hrel;by_cases aq:k<n
 ·have hkl:k<L.length:=by rw[HH.out.2.2.2.1];exact aq
  obtain⟨ge,off,rfl,hg,c0,c1,c2,c3,c4,c5,c6⟩:=(HH.out.2.2.1.below HA.out.a.aP).Rm k hkl;have HS:Hid (L.take (k+1)=L.take k++[L[k]]):=List.take_succ_eq_append_getElem hkl;have hx:=HH.out.2.2.2.2 L[k] (getElem_mem _);have oy:Hid (L[k]∈L):=getElem_mem _;generalize L[k]=x at c0 c1 c2 c3 c4 c5 c6 HS hx oy;have qF:Below wr.heap.size wr (wr.alloc (.cells #[.int .i64 (x.f:Int),.int .i64 (x.t:Int),.int .u64 (wd x.p 0),.int .u64 (wd x.p 1),.int .u64 (wd x.p 2),.int .u64 (wd x.p 3),.bool x.b] 117)):=al wr _;have ph:=hid (HA.out.ab qF.drew);have me:Hid (St (wr.alloc (.cells #[.int .i64 (x.f:Int),.int .i64 (x.t:Int),.int .u64 (wd x.p 0),.int .u64 (wd x.p 1),.int .u64 (wd x.p 2),.int .u64 (wd x.p 3),.bool x.b] 117)).drew 117 wr.heap.size #[.int .i64 (x.f:Int),.int .i64 (x.t:Int),.int .u64 (wd x.p 0),.int .u64 (wd x.p 1),.int .u64 (wd x.p 2),.int .u64 (wd x.p 3),.bool x.b]):=St.new wr _ _;have d0:(wr.alloc (.cells #[.int .i64 (x.f:Int),.int .i64 (x.t:Int),.int .u64 (wd x.p 0),.int .u64 (wd x.p 1),.int .u64 (wd x.p 2),.int .u64 (wd x.p 3),.bool x.b] 117)).drew.cell? ⟨wr.heap.size,0,none⟩=some (.int .i64 (x.f:Int)):=me.out.at_ 0;have d1:(wr.alloc (.cells #[.int .i64 (x.f:Int),.int .i64 (x.t:Int),.int .u64 (wd x.p 0),.int .u64 (wd x.p 1),.int .u64 (wd x.p 2),.int .u64 (wd x.p 3),.bool x.b] 117)).drew.cell? ⟨wr.heap.size,1,none⟩=some (.int .i64 (x.t:Int)):=me.out.at_ 1;have NN:nm.length<=90000:=by have:=HA.out.len;omega
  clear qF hkl;go_wp2_with fail;clear c0 c1 c2 c3 c4 c5 c6;refine wp_region_held_drew (S:=fun W'=>W'.cell? ⟨wr.heap.size,0,none⟩=some (.int .i64 (x.f:Int))/\W'.cell? ⟨wr.heap.size,1,none⟩=some (.int .i64 (x.t:Int))) (by kernel_rfl) ⟨d0,d1⟩ (fun η=>?_)
  (refine an 0 ?_;refine an 1 ?_;refine an 2 ?_;try simp only[put,sA];refine an 4 ?_;refine an 5 ?_;refine an 6 ?_;try simp only[put,sA])
  refine bc 3 (fun K hK=>?_);skip;go_simp;go_at_call 102;refine (Sa w w.heap.size bn b3 b5 b6 bM kf bV mf nm _ vM vF vS fv sv xs L1 (wr.alloc (.cells #[.int .i64 (x.f:Int),.int .i64 (x.t:Int),.int .u64 (wd x.p 0),.int .u64 (wd x.p 1),.int .u64 (wd x.p 2),.int .u64 (wd x.p 3),.bool x.b] 117)).drew HH.out.1 HH.out.2.1 ph.out.a NN x.f hx.1).mono ?_;rintro e w2 ⟨k1,nm2,vM2,vF2,Ge,fv2,sv2,rfl,BX,fm,CR,vT⟩;have iX:=ψ (ph.out.num BX CR vT (inr (inr ⟨x,oy.out,inl rfl⟩))) (vT.st me.out (fun e=>ph.out.fK me.out (by decide) (by decide) (by decide) (by decide) (by decide) (inr e))) fm CR;clear BX fm CR vT
  try go_wp2_with fail
  refine hK.out _ _ ⟨iX.out.2.1.at_ 0,iX.out.2.1.at_ 1⟩ fun η=>?_;clear hK K
  try simp only[put,sA]
  refine bc 7 (fun K hK=>?_);skip;go_simp;go_at_call 102;refine (Sa w w.heap.size bn b3 b5 b6 bM kf bV mf nm2 _ vM2 vF2 Ge fv2 sv2 xs L1 w2 HH.out.1 HH.out.2.1 iX.out.1.a (by have:=iX.out.1.len;omega) x.t hx.2).mono ?_;rintro e w3 ⟨k2,lL,A6,ET,sE,xN,wg,rfl,Gv,zO,EM,Re⟩;have gp:=φ (iX.out.1.num Gv EM Re (inr (inr ⟨x,oy.out,inr rfl⟩))) (Re.st iX.out.2.1 (fun e=>iX.out.1.fK iX.out.2.1 (by decide) (by decide) (by decide) (by decide) (by decide) (inr e))) (Ss EM iX.out.2.2.1) zO (show L1.length<=6400 from by have:=congrArg List.length HA.out.rel;rw[length_map] at this;have h2:=List.length_take_le k L;omega);clear Gv zO EM Re
  try go_wp2_with fail
  refine hK.out _ _ ⟨gp.out.2.1.at_ 0,gp.out.2.1.at_ 1⟩ fun η=>?_;clear hK K
  try simp only[put,sA]
  (refine an 8 ?_;refine an 9 ?_;try simp only[put,sA])
  refine wpAnyH_done (by kernel_rfl) ?_ _;clear η;have HK:=ζ gp.out.2.2.1 gp.out.2.2.2.1;have jW:k1<lL.length:=(List.getElem?_eq_some_iff.1 HK.out.1).1;have yx:k2<lL.length:=(List.getElem?_eq_some_iff.1 HK.out.2).1;have ui:0<lL.length:=by omega
  have hnm3:lL.length<=90000:=by have:=gp.out.1.len;omega
  obtain⟨z0,z1,z2,z3,z4,z5,z6⟩:=Xi gp.out.2.1;obtain⟨xf,xt,xp,xb⟩:=x;obtain⟨be,qJ⟩:∃be,wr.heap.size=be:=⟨_,rfl⟩
  have HE:=hid gp.out.2.1;rw[qJ] at z0 z1 z2 z3 z4 z5 z6 HE;rw[qJ];clear d0 d1 iX ph me HA NN qJ;dsimp only at z0 z1 z2 z3 z4 z5 z6 HE HS HK;rcases xb with _|_
  ·skip;go_wp2_with fail;obtain⟨aS,cS,rfl⟩:=bP gp.out.1.a.n.st.own;obtain⟨gS,rfl,-,-,-⟩:=eC gp.out.1.a.n.st.own ui;obtain⟨BJ,Bd,hv⟩:=bP (gp.out.1.a.n.st.row k1 jW)
   try dsimp only at hv
   have uM:=hid (gp.out.1.ab (show Below w3.heap.size w3 w3.drew from (Below.refl _ _).drew));obtain⟨p,hp⟩:∃p,(dk L1 k1).length=p:=(⟨_,rfl⟩);have vl:p<=6400:=(by rw[<-hp];exact le_trans (Ye _ _) gp.out.2.2.2.2);have Us:∀W:World,W.ownsRow w.heap.size 151 1 (.slice (some ⟨gS,0,none⟩) lL.length cS) lL.length ((range lL.length).map wg)->W.cell? ⟨gS,k1,none⟩=some (.slice BJ p Bd)/\W.frozen? ⟨gS,k1,none⟩=false:=fun W hW=>by
    obtain⟨g,e,_,_,hc⟩:=eC hW ui;injection e with e;injection e with e;subst e;obtain⟨h1,h2⟩:=hc k1 (by omega);exact⟨by rw[h1];simp only[getElem?_map,getElem?_range jW,map_some,hv,hp],h2⟩
   have k0:=(Us _ gp.out.1.a.n.st.own).1;have HV:=ζ hv hp;have yM:=hid Us;obtain⟨q,hq⟩:∃q,lL.length=q:=(⟨_,rfl⟩);have HQ:=hid hq;have j1:(k1:Int)<q:=(by omega);have j2:(0:Int)<=k1:=(by omega);obtain⟨pc,uH⟩:∃pc,(qZ (rl (dQ L) 256) xp).length=pc:=(⟨_,rfl⟩);have zq:=hid uH;have J4:(rl (dQ L) 256).length<=256:=(by rw[zB];exact NJ _ _);have pP:=hid (zn9 w.heap.size bn b7 b8 bL nn (rl (dQ L) 256) aR cR _ DL w3.drew uM.out.l (fun x hx=>uM.out.lt x hx) (by omega) J4 xp);obtain⟨i0,xa,dv,cP,cG⟩:=info_parts td;have dz:=hid (fun (W:World) (h1:St W 104 b5 #[.pointer (some ⟨bn,0,none⟩)]) (h2:W.cell? ⟨bn,259,none⟩=some (.slice (some ⟨gS,0,none⟩) q cS)) (h3:St W 117 be #[.int .i64 (xf:Int),.int .i64 (xt:Int),.int .u64 (wd xp 0),.int .u64 (wd xp 1),.int .u64 (wd xp 2),.int .u64 (wd xp 3),.bool false])=>(⟨h1.at_ 0,h2,h3.at_ 2,h3.at_ 3,h3.at_ 4,h3.at_ 5⟩:W.cell? ⟨b5,0,none⟩=some (.pointer (some ⟨bn,0,none⟩))/\W.cell? ⟨bn,259,none⟩=some (.slice (some ⟨gS,0,none⟩) q cS)/\W.cell? ⟨be,2,none⟩=some (.int .u64 (wd xp 0))/\W.cell? ⟨be,3,none⟩=some (.int .u64 (wd xp 1))/\W.cell? ⟨be,4,none⟩=some (.int .u64 (wd xp 2))/\W.cell? ⟨be,5,none⟩=some (.int .u64 (wd xp 3))));have qo:=gp.out.1.a.sT;have tI:w3.cell? ⟨bn,259,none⟩=some (.slice (some ⟨gS,0,none⟩) q cS):=(by rw[<-hq];exact gp.out.1.a.n.cells.2.2);clear hv hp Us hq uH J4;refine wp_region_held_drew (S:=fun W'=>W'.cell? ⟨b5,0,none⟩=some (.pointer (some ⟨bn,0,none⟩))/\W'.cell? ⟨bn,259,none⟩=some (.slice (some ⟨gS,0,none⟩) q cS)/\W'.cell? ⟨be,2,none⟩=some (.int .u64 (wd xp 0))/\W'.cell? ⟨be,3,none⟩=some (.int .u64 (wd xp 1))/\W'.cell? ⟨be,4,none⟩=some (.int .u64 (wd xp 2))/\W'.cell? ⟨be,5,none⟩=some (.int .u64 (wd xp 3))) (by kernel_rfl) (dz.out _ qo.drew tI HE.out.drew) (fun η=>?_)
   (refine an 0 ?_;refine an 1 ?_;refine an 2 ?_;try simp only[put,sA];refine an 3 ?_;refine an 4 ?_;refine an 5 ?_;try simp only[put,sA];refine an 6 ?_;refine an 7 ?_;refine an 8 ?_;try simp only[put,sA];refine an 9 ?_;refine an 10 ?_;refine an 12 ?_;try simp only[put,sA];refine an 13 ?_;refine an 14 ?_;refine an 16 ?_;try simp only[put,sA])
   ·refine wpAnyH_ready (rs:=[11,15]) (by kernel_rfl) (by simp) (hJ (fun K hK=>?_) (hJ (fun K hK=>?_) AllReadyH.nil))
    skip;go_simp;refine hK.out _ _ (dz.out _ qo.drew tI HE.out.drew) fun η=>?_;clear hK K
    try simp only[put,sA]
    refine bc 15 (fun K hK=>?_);skip;go_simp;go_at_call 134;refine pP.out.mono ?_;rintro e w4 ⟨ac,cc,CH,rfl,ta,Ii,su,fp⟩;have iM:=hid (uM.out.cls ta su fp);have tx:Hid (St w4 117 be #[.int .i64 (xf:Int),.int .i64 (xt:Int),.int .u64 (wd xp 0),.int .u64 (wd xp 1),.int .u64 (wd xp 2),.int .u64 (wd xp 3),.bool false]):=YE HE.out.drew uM.out.l su;have zZ:=hid Ii;rw[zq.out];clear ta Ii su fp;have dr:=hid (iM.out.ab (al w4 (.cells #[.slice ac pc cc,.int .i64 (k2:Int)] 153)));have zl:=hid (tx.out.ab (al w4 (.cells #[.slice ac pc cc,.int .i64 (k2:Int)] 153)));have fq:=iM.out.a.sT;have jv:=dr.out.a.sT;have sI:w4.cell? ⟨bn,259,none⟩=some (.slice (some ⟨gS,0,none⟩) q cS):=(by rw[<-HQ.out];exact iM.out.a.n.cells.2.2);have tZ:(w4.alloc (.cells #[.slice ac pc cc,.int .i64 (k2:Int)] 153)).cell? ⟨bn,259,none⟩=some (.slice (some ⟨gS,0,none⟩) q cS):=(by rw[<-HQ.out];exact dr.out.a.n.cells.2.2);have k4:=(yM.out _ iM.out.a.n.st.own).1;have k5:=(yM.out _ dr.out.a.n.st.own).1;have dF:=dr.out.a.n.st.row k1 jW;rw[HV.out.1,HV.out.2] at dF;have zd:w.heap.size<=(w4.alloc (.cells #[.slice ac pc cc,.int .i64 (k2:Int)] 153)).heap.size:=dr.out.a.n.lo.2
    try go_wp2_with fail
    refine hK.out _ _ (dz.out _ fq sI tx.out) fun η=>?_;clear hK K
    try simp only[put,sA]
    (refine an 17 ?_;try simp only[put,sA])
    refine bc 18 (fun K hK=>?_);skip;go_simp;refine hK.out _ _ (dz.out _ jv tZ zl.out) fun η=>?_;clear hK K
    rotate_left
    skip;go_simp;go_at_call 134;refine pP.out.mono ?_;rintro e w4 ⟨ac,cc,CH,rfl,ta,Ii,su,fp⟩;have iM:=hid (uM.out.cls ta su fp);have tx:Hid (St w4 117 be #[.int .i64 (xf:Int),.int .i64 (xt:Int),.int .u64 (wd xp 0),.int .u64 (wd xp 1),.int .u64 (wd xp 2),.int .u64 (wd xp 3),.bool false]):=YE HE.out.drew uM.out.l su;have zZ:=hid Ii;rw[zq.out];clear ta Ii su fp;have dr:=hid (iM.out.ab (al w4 (.cells #[.slice ac pc cc,.int .i64 (k2:Int)] 153)));have zl:=hid (tx.out.ab (al w4 (.cells #[.slice ac pc cc,.int .i64 (k2:Int)] 153)));have fq:=iM.out.a.sT;have jv:=dr.out.a.sT;have sI:w4.cell? ⟨bn,259,none⟩=some (.slice (some ⟨gS,0,none⟩) q cS):=(by rw[<-HQ.out];exact iM.out.a.n.cells.2.2);have tZ:(w4.alloc (.cells #[.slice ac pc cc,.int .i64 (k2:Int)] 153)).cell? ⟨bn,259,none⟩=some (.slice (some ⟨gS,0,none⟩) q cS):=(by rw[<-HQ.out];exact dr.out.a.n.cells.2.2);have k4:=(yM.out _ iM.out.a.n.st.own).1;have k5:=(yM.out _ dr.out.a.n.st.own).1;have dF:=dr.out.a.n.st.row k1 jW;rw[HV.out.1,HV.out.2] at dF;have zd:w.heap.size<=(w4.alloc (.cells #[.slice ac pc cc,.int .i64 (k2:Int)] 153)).heap.size:=dr.out.a.n.lo.2
    try go_wp2_with fail
    refine hK.out _ _ (dz.out _ fq sI tx.out) fun η=>?_;clear hK K
    try simp only[put,sA]
    (refine an 17 ?_;try simp only[put,sA])
    refine wpAnyH_ready (rs:=[11,18]) (by kernel_rfl) (by simp) (hJ (fun K hK=>?_) (hJ (fun K hK=>?_) AllReadyH.nil))
    skip;go_simp;refine hK.out _ _ (dz.out _ fq sI tx.out) fun η=>?_;clear hK K
    try simp only[put,sA]
    refine bc 18 (fun K hK=>?_);skip;go_simp;refine hK.out _ _ (dz.out _ jv tZ zl.out) fun η=>?_;clear hK K
    rotate_left
    skip;go_simp;refine hK.out _ _ (dz.out _ jv tZ zl.out) fun η=>?_;clear hK K
    try simp only[put,sA]
    refine bc 11 (fun K hK=>?_);skip;go_simp;refine hK.out _ _ (dz.out _ jv tZ zl.out) fun η=>?_;clear hK K
    rotate_left
    all_goals
     try simp only[put,sA]
     refine bc 19 (fun K hK=>?_);skip;skip;refine step_append_lies _ (by rfl) _ _ _ (by rfl) w.heap.size 153 i0 (.agg #[.slice none 0 0,.int .i64 0]) 2 32 underlying151 xa dv cP cG (by rfl) (by decide) _ p (xs k1) (by rfl) dF ⟨w4.heap.size,0,none⟩ 1 1 (#[.slice ac pc cc,.int .i64 (k2:Int)]).toList (by rfl) (by rfl) (news_of_block (cs:=#[.slice ac pc cc,.int .i64 (k2:Int)]) (t:=153) (fr:=(0,0)) (heap_alloc_new w4 _)) (by simp[oneCell']) (by omega) (by unfold maxLen;omega) (by omega) zd (w4.heap.size+1) (by simp) ?_;intro gg fF w6 aj af dg lX;have fE:=dr.out.a.n.st.row k1 jW;have gQ:=af;rw[show (Value.slice BJ p Bd)=wg k1 from by rw[HV.out.1,HV.out.2]] at gQ;obtain⟨ua,tW⟩:=dr.out.a.n.DC (x:=⟨k1,k2,xp,false⟩) rfl jW yx (v':=(.slice (some ⟨gg,0,none⟩) (p+1) fF)) (p:=p) aj HV.out.2 gQ (fun b e=>by rw[HV.out.1,HV.out.2];injection e with e;rw[<-e];rcases dg with h|h;exact inl h;exact inr (by rw[h];simp));have ga:=dr.out.a.sT.ae fE (by decide) gQ;have fY:=zl.out.ae fE (by decide) gQ;have jn:=dr.out.a.n.sn.ae fE (by decide) gQ;have pZ:w6.cell? ⟨bn,259,none⟩=some (.slice (some ⟨gS,0,none⟩) q cS):=(by rw[jn.at_,<-dr.out.a.n.sn.at_];exact tZ);have kC:=sO dr.out.a.n.st.own fE (by decide) gQ;obtain⟨t2,t3⟩:=yM.out _ kC;have ib:b5≠gS/\bn≠gS/\be≠gS:=(⟨fun e=>eB kC ga (by decide) gS rfl e.symm,fun e=>eB kC jn (by decide) gS rfl e.symm,fun e=>eB kC fY (by decide) gS rfl e.symm⟩);have HF:Hid (mO w w.heap.size b2 b3 b5 b6 b7 b8 bn bM bL (.func (.func kf) #[] #[.pointer (some ⟨bV,0,none⟩)]) mf #[.int .i64 S0,.slice (some ⟨ge,off,none⟩) n c,.int .i64 (F:Int),.int .i64 T] (cN.setIfInBounds 256 (.int .i64 (f0:Int))) (rl (dQ L) 256) aR cR L F f0 (k+1) (2*(k+1)+1) (nn+1) lL A6 ET (.slice (some ⟨gS,0,none⟩) q cS) xN (fun j=>if j=k1 then (.slice (some ⟨gg,0,none⟩) (p+1) fF) else wg j) (fun j=>if j=k1 then xs k1++(#[.slice ac pc cc,.int .i64 (k2:Int)]).toList else xs j) (L1++[⟨k1,k2,xp,false⟩]) CH (w6.setCell ⟨gS,k1,none⟩ (.slice (some ⟨gg,0,none⟩) (p+1) fF))):=by
      rw[<-HQ.out];refine dr.out.put (x:=⟨xf,xt,xp,false⟩) ua tW HS.out HK.out.1 HK.out.2 (fun i hi=>?_);rw[DF];by_cases e:i=k1
      ·subst e;rw[if_pos ⟨rfl,rfl⟩,if_pos rfl];have xm:=(jk.ab (B:=w.heap.size) (bn:=bn) (P:=r8 bL bM bn lL.length A6 ET (.slice (some ⟨gS,0,none⟩) lL.length cS) xN wg) (al w4 (.cells #[.slice ac pc cc,.int .i64 (k2:Int)] 153)) iM.out.a.n.lo.2).Fy zZ.out;have:=(dr.out.rows i hi).snoc ⟨i,k2,xp,false⟩ ac cc xm;dsimp only at this;rw[zq.out] at this;exact this
      rw[if_neg (fun h=>e h.2.symm),if_neg e];exact dr.out.rows i hi
     refine hK.out _ _ (dz.out _ ga pZ fY) fun η=>?_;clear hK K aj af dg lX ua tW fE gQ kC jn
     try simp only[put,sA]
     (refine an 20 ?_;try simp only[put,sA])
     refine bc 21 (fun K hK=>?_);skip;go_simp;refine hK.out _ _ (dz.out _ (ga.fK (p:=⟨gS,k1,none⟩) ib.1 _) ((GH _ _ _ ib.2.1).trans pZ) (fY.fK (p:=⟨gS,k1,none⟩) ib.2.2 _)) fun η=>?_;clear hK K
     try simp only[put,sA]
     refine wpAnyH_done (by kernel_rfl) ?_ _;clear ga ib pZ t2 t3 η qo fq jv tI sI tZ k0 k4 k5 fY;go_wp2;go_roundw
     ·exact⟨k+1,nn+1,lL,_,_,_,_,_,_,_,CH,by go_num,by omega,by omega,HF⟩
     simp[intOf];omega
  skip;go_wp2_with fail;obtain⟨aF,cF,rfl⟩:=bP gp.out.1.a.n.fr.own;obtain⟨gF,rfl,-,-,-⟩:=eC gp.out.1.a.n.fr.own ui;obtain⟨BJ,Bd,hv⟩:=bP (gp.out.1.a.n.fr.row k1 jW)
  try dsimp only at hv
  have iM:=hid (gp.out.1.ab (show Below w3.heap.size w3 (w3.alloc (.cells #[.int .i64 (k2:Int)] 3)).drew from (al w3 _).drew));have dF:=iM.out.a.n.fr.row k1 jW;rw[hv] at dF
  try dsimp only at dF
  obtain⟨p,hp⟩:∃p,(ey L1 k1).length=p:=⟨_,rfl⟩
  have vl:p<=6400:=by rw[<-hp];exact le_trans (WD _ _) gp.out.2.2.2.2
  have ov:=gp.out.1.a.n.fr.own;have LA:∀W:World,W.ownsRow w.heap.size 27 1 (.slice (some ⟨gF,0,none⟩) lL.length cF) lL.length ((range lL.length).map xN)->W.cell? ⟨gF,k1,none⟩=some (.slice BJ p Bd)/\W.frozen? ⟨gF,k1,none⟩=false:=fun W hW=>by
   obtain⟨g,e,_,_,hc⟩:=eC hW ui;injection e with e;injection e with e;subst e;obtain⟨h1,h2⟩:=hc k1 (by omega);exact⟨by rw[h1];simp only[getElem?_map,getElem?_range jW,map_some,hv,hp],h2⟩
  have k0:=(LA _ gp.out.1.a.n.fr.own).1;have m2:=(LA _ iM.out.a.n.fr.own).1;have HV:=ζ hv hp;have yM:=hid LA;obtain⟨q,hq⟩:∃q,lL.length=q:=⟨_,rfl⟩
  have HQ:=hid hq;have j1:(k1:Int)<q:=by omega
  have j2:(0:Int)<=k1:=by omega
  have zd:w.heap.size<=((w3.alloc (.cells #[.int .i64 (k2:Int)] 3)).drew).heap.size:=iM.out.a.n.lo.2;rw[hp] at dF;obtain⟨i0,xa,dv,cP,cG⟩:=info_parts aG;have dz:=hid (fun (W:World) (h1:St W 104 b5 #[.pointer (some ⟨bn,0,none⟩)]) (h2:W.cell? ⟨bn,258,none⟩=some (.slice (some ⟨gF,0,none⟩) q cF))=>(⟨h1.at_ 0,h2⟩:W.cell? ⟨b5,0,none⟩=some (.pointer (some ⟨bn,0,none⟩))/\W.cell? ⟨bn,258,none⟩=some (.slice (some ⟨gF,0,none⟩) q cF)));have qo:=gp.out.1.a.sT;have fq:=iM.out.a.sT;have tI:w3.cell? ⟨bn,258,none⟩=some (.slice (some ⟨gF,0,none⟩) q cF):=by rw[<-hq];exact gp.out.1.a.n.cells.2.1
  have sI:((w3.alloc (.cells #[.int .i64 (k2:Int)] 3)).drew).cell? ⟨bn,258,none⟩=some (.slice (some ⟨gF,0,none⟩) q cF):=by rw[<-hq];exact iM.out.a.n.cells.2.1
  clear hv hp ov LA hq;refine wp_region_held_drew (S:=fun W'=>W'.cell? ⟨b5,0,none⟩=some (.pointer (some ⟨bn,0,none⟩))/\W'.cell? ⟨bn,258,none⟩=some (.slice (some ⟨gF,0,none⟩) q cF)) (by kernel_rfl) (dz.out _ qo.drew tI) (fun η=>?_)
  (refine an 0 ?_;refine an 1 ?_;refine an 2 ?_;try simp only[put,sA];refine an 3 ?_;refine an 4 ?_;refine an 5 ?_;try simp only[put,sA];refine an 6 ?_;refine an 7 ?_;refine an 8 ?_;try simp only[put,sA];refine an 9 ?_;refine an 10 ?_;refine an 12 ?_;try simp only[put,sA])
  ·refine wpAnyH_ready (rs:=[11,13]) (by kernel_rfl) (by simp) (hJ (fun K hK=>?_) (hJ (fun K hK=>?_) AllReadyH.nil))
   skip;go_simp;refine hK.out _ _ (dz.out _ qo.drew tI) fun η=>?_;clear hK K
   try simp only[put,sA]
   refine bc 13 (fun K hK=>?_);skip;go_simp;refine hK.out _ _ (dz.out _ fq sI) fun η=>?_;clear hK K
   rotate_left
   skip;go_simp;refine hK.out _ _ (dz.out _ fq sI) fun η=>?_;clear hK K
   try simp only[put,sA]
   refine bc 11 (fun K hK=>?_);skip;go_simp;refine hK.out _ _ (dz.out _ fq sI) fun η=>?_;clear hK K
   rotate_left
   all_goals
    try simp only[put,sA]
    refine bc 14 (fun K hK=>?_);skip;skip;refine step_append_lies _ (by rfl) _ _ _ (by rfl) w.heap.size 3 i0 (.int .i64 0) 1 8 underlying27 xa dv cP cG (by rfl) (by decide) _ p (cY (ey L1 k1)) (by rfl) dF ⟨w3.heap.size,0,none⟩ 1 1 (#[.int .i64 (k2:Int)]).toList (by rfl) (by rfl) (news_of_block (cs:=#[.int .i64 (k2:Int)]) (t:=3) (fr:=(0,0)) (heap_alloc_new w3 _)) (by simp[oneCell']) (by omega) (by unfold maxLen;omega) (by omega) zd (w3.heap.size+1) (by simp) ?_;intro gg fF w6 aj af dg lX;have fE:=iM.out.a.n.fr.row k1 jW;have gQ:=af;rw[show (Value.slice BJ p Bd)=xN k1 from by rw[HV.out.1,HV.out.2]] at gQ;obtain⟨ua,tW⟩:=iM.out.a.n.JX (x:=⟨k1,k2,xp,true⟩) rfl jW yx (v':=(.slice (some ⟨gg,0,none⟩) (p+1) fF)) (p:=p) aj HV.out.2 gQ (fun b e=>by rw[HV.out.1,HV.out.2];injection e with e;rw[<-e];rcases dg with h|h;exact inl h;exact inr (by rw[h];simp));have ga:=iM.out.a.sT.ae fE (by decide) gQ;have jn:=iM.out.a.n.sn.ae fE (by decide) gQ;have pZ:w6.cell? ⟨bn,258,none⟩=some (.slice (some ⟨gF,0,none⟩) q cF):=(by rw[jn.at_,<-iM.out.a.n.sn.at_];exact sI);have kC:=sO iM.out.a.n.fr.own fE (by decide) gQ;obtain⟨t2,t3⟩:=yM.out _ kC;have ib:b5≠gF/\bn≠gF:=(⟨fun e=>eB kC ga (by decide) gF rfl e.symm,fun e=>eB kC jn (by decide) gF rfl e.symm⟩);have HF:Hid (mO w w.heap.size b2 b3 b5 b6 b7 b8 bn bM bL (.func (.func kf) #[] #[.pointer (some ⟨bV,0,none⟩)]) mf #[.int .i64 S0,.slice (some ⟨ge,off,none⟩) n c,.int .i64 (F:Int),.int .i64 T] (cN.setIfInBounds 256 (.int .i64 (f0:Int))) (rl (dQ L) 256) aR cR L F f0 (k+1) (2*(k+1)+1) nn lL A6 (.slice (some ⟨gF,0,none⟩) q cF) sE (fun j=>if j=k1 then (.slice (some ⟨gg,0,none⟩) (p+1) fF) else xN j) wg xs (L1++[⟨k1,k2,xp,true⟩]) DL (w6.setCell ⟨gF,k1,none⟩ (.slice (some ⟨gg,0,none⟩) (p+1) fF))):=by
     rw[<-HQ.out];exact iM.out.put (x:=⟨xf,xt,xp,true⟩) ua tW HS.out HK.out.1 HK.out.2 (fun i hi=>by rw[DF,if_neg (by simp)];exact iM.out.rows i hi)
    refine hK.out _ _ (dz.out _ ga pZ) fun η=>?_;clear hK K aj af dg lX ua tW fE gQ kC jn
    try simp only[put,sA]
    (refine an 15 ?_;try simp only[put,sA])
    refine bc 16 (fun K hK=>?_);skip;go_simp;refine hK.out _ _ (dz.out _ (ga.fK (p:=⟨gF,k1,none⟩) ib.1 _) ((GH _ _ _ ib.2).trans pZ)) fun η=>?_;clear hK K
    try simp only[put,sA]
    refine wpAnyH_done (by kernel_rfl) ?_ _;clear ga ib pZ t2 t3 η qo fq tI sI;go_wp2;go_roundw
    ·exact⟨k+1,nn,lL,_,_,_,_,_,_,_,DL,by go_num,by omega,by omega,HF⟩
    simp[intOf];omega
 obtain rfl:k=n:=by omega
 have s0:wr.cell? ⟨b5,0,none⟩=some (.pointer (some ⟨bn,0,none⟩)):=HA.out.a.sT.at_ 0;have HF:Hid (KM (dQ L) mf L F w (.returned (.pointer (some ⟨bn,0,none⟩))) wr):=by
  have A9:=HA.out.rel;rw[show L.take k=L by rw[<-HH.out.2.2.2.1];exact take_length] at A9;have hpos:0<nm.length:=by
   have:=(List.getElem?_eq_some_iff.1 HA.out.hf).1;omega
  have yE:∀i (h:i<nm.length),nm.getD i 0=nm[i]:=fun i h=>by simp[List.getD,h]
  obtain⟨gM,cM,gF,cF,gS,cS,h1,h2,h3⟩:=HA.out.a.n.net (mk:=fun i=>mf (nm.getD i 0)) hpos HA.out.rows (fun i hi=>by simp[hi]);refine⟨bn,f0,gM,cM,gF,cF,gS,cS,nm,L1,_,_,_,_,csA,rfl,HA.out.a.aP,h1,h2,h3,HA.out.a.n.cl HN.out.1 HN.out.2.1 (fun j hj=>by rw[getElem?_setIfInBounds_ne (by omega)];exact HN.out.2.2.2.1 j hj),?_,A9,HA.out.a.nd,HA.out.bd,HA.out.hf,by have:=HA.out.len;have:=HH.out.2.2.2.1;omega,HA.out.src⟩;rw[HA.out.a.n.sn.at_,getElem?_setIfInBounds_ne (by decide),getElem?_setIfInBounds_ne (by decide),getElem?_setIfInBounds_ne (by decide),Array.getElem?_setIfInBounds_self_of_lt (by rw[HN.out.2.2.1];decide)]
 go_wp2;go_ret;exact HF.out
theorem zmt(l:List Nat)(hl:∀x∈l,x<256)(i:Nat)(h:i<l.length):eW (strOf l) i=l[i]:=by
 have hs:i<(strOf l).size:=by rw[zg];exact h
 rw[<-Og _ i hs];have h1:((strOf l).data.toList)[i]?=some ((strOf l)[i]'hs):=by
  rw[getElem?_toList];exact Array.getElem?_eq_getElem hs
 rw[yU,getElem?_map,List.getElem?_eq_getElem h] at h1;simp only[map_some,Option.some.injEq] at h1;rw[<-h1];have:=hl l[i] (getElem_mem h);simp[UInt8.toNat_ofNat];omega
theorem zqk(M:Nat)(f:Nat->Bool)(i:Nat)(h:i<(M+7) / 8):eW (kv M f) i=kH (cm f M) i:=by
 unfold kv;rw[zmt _ (IA f M) i (by simp[gk];omega)];simp[gk]
theorem zok(M:Nat)(f:Nat->Bool):(kv M f).size=(M+7) / 8:=by unfold kv;rw[zg];simp[gk]
def qd(L:List En)(rp:Nat->Nat)(es:List En)(c x:Nat):Prop:=∃e∈es,e.p (rp c)=true/\e.t=x
def np(L:List En)(Ls:List Nat)(i:Nat):Nat:=((Ls.take i).flatMap (dk L)).length
def kr(lc:List Nat)(j c:Nat):Nat:=if c∈lc.take j then 1 else 0
theorem Xu(lc:List Nat)(j c:Nat):kr lc j c<=1:=by unfold kr;split <;> omega
theorem zkB(hn:lc.Nodup)(h:lc.take (j+1)=lc.take j++[x]):kr lc j x=0/\kr lc (j+1) x=1:=by
 have h1:(lc.take j++[x]).Nodup:=by rw[<-h];exact hn.sublist (List.take_sublist _ _)
 have h2:x∉lc.take j:=fun hx=>(List.nodup_append.1 h1).2.2 x hx x (by simp) rfl
 unfold kr;rw[h,if_neg h2,if_pos (by simp)];exact⟨rfl,rfl⟩
theorem zin(h:lc.take (j+1)=lc.take j++[x])(hc:c≠x):kr lc (j+1) c=kr lc j c:=by
 unfold kr;rw[h];simp[hc]
theorem zmu(L:List En)(Ls:List Nat):np L Ls 0=0:=rfl
theorem zmv{st:Nat}(h:Ls.take (i+1)=Ls.take i++[st]):np L Ls (i+1)=np L Ls i+(dk L st).length:=by
 unfold np;rw[h,List.flatMap_append,List.length_append];simp
theorem zmw(Ls:List Nat)(hn:Ls.Nodup):∀L:List En,(Ls.flatMap (dk L)).length<=L.length:=by
 intro L
 induction L with
 | nil=>
  have:Ls.flatMap (dk [])=[]:=by simp[dk]
  rw[this];exact le_refl _
 | cons e L ih=>
  have key:∀l:List Nat,l.Nodup->(l.flatMap (dk (e :: L))).length<=(l.flatMap (dk L)).length+(if e.f∈l then 1 else 0):=by
   intro l hl
   induction l with
   | nil=>simp
   | cons a l ih2=>
    have h1:=ih2 (List.nodup_cons.1 hl).2;have h2:(dk (e :: L) a).length<=(dk L a).length+(if e.f=a then 1 else 0):=by
     unfold dk;rw[List.filter_cons];by_cases he:e.f=a
     ·rw[if_pos he];split <;> simp
     rw[if_neg he];have:(!e.b && e.f == a)=false:=(by simp[he]);rw[if_neg (by rw[this];decide)];exact le_refl _
    simp only[List.flatMap_cons,List.length_append];by_cases ha:e.f=a
    ·have h3:e.f∉l:=(by rw[ha];exact (List.nodup_cons.1 hl).1);rw[if_neg h3] at h1;rw[if_pos ha] at h2;rw[if_pos (by simp[ha])];omega
    rw[if_neg ha] at h2;by_cases hb:e.f∈l
    ·rw[if_pos hb] at h1;rw[if_pos (List.mem_cons_of_mem _ hb)];omega
    rw[if_neg hb] at h1;split <;> omega
  have h4:=key Ls hn;have h5:(if e.f∈Ls then 1 else 0)<=1:=by split <;> omega
  simp only[List.length_cons];omega
theorem Sb(L:List En)(hn:Ls.Nodup)(i:Nat):np L Ls i<=L.length:=zmw (Ls.take i) (hn.sublist (List.take_sublist _ _)) L
def ZN(B bm gI bM m M C bn:Nat)(K:Nat->Lit)(L:List En)(mk:Nat->Int)(SS:List (Nat->Bool))(R:List (List Int))(T:Nat->Nat->Prop)(w:World)(e:Ending)(w':World):Prop:=
 ∃(row:List Int) (jY:List (Nat->Bool)) (uq:List Int) (D':List ((Nat->Bool) × Nat)) (n':Nat) (iJ:Array Value) (l':List Nat) (jr vS' vK' vN':Value) (gs':List Nat),e=.returned (.tuple #[])/\
  mi B bm gI bM m M C bn K L mk jY uq D' (R++[row]) n' iJ l' jr vS' vK' vN' gs' w'/\iG M T SS C row jY/\Below B w w'
theorem zol(B bm gI bM m M C bn gM cM gF cF gS cS n fr:Nat)(aF aS:Nat->Option Addr)(Di E8 rp:Nat->Nat)(K:Nat->Lit)(L:List En)(mk:Nat->Int)(w:World)
  (HF:mq w B bn gF M cF aF Di L) (HT:pN w B bn gS M cS aS E8 (fun p=>de (fun c=>p (rp c)) C) L) (HV:lu w B bn gM M cM mk) (hE:∀e∈L,e.f<M/\e.t<M) (NL:L.length<=6400) (fJ:∀i,i<M->-1<=mk i)
  (hC:dD K 256=C) (hC2:C<=256) (hM:M<=12900) (hm:(M+7) / 8=m) (SS:List (Nat->Bool)) (ms:List Int) (D:List ((Nat->Bool) × Nat)) (R:List (List Int)) (cs:Array Value) (l:List Nat) (vL vS vK vN:Value) (gs:List Nat)
  (h:mi B bm gI bM m M C bn K L mk SS ms D R n cs l vL vS vK vN gs w) (sG:fr<SS.length) (hS:SS.length<=3000) (hR:R.length<=3000):
  Calls prog 68 #[.pointer (some ⟨bm,0,none⟩),.int .i64 (fr:Int)] w (ZN B bm gI bM m M C bn K L mk SS R (fun c x=>FR L (Mv L (fun y=>y<M/\SS[fr] y=true) (rp c)) x) w):=by
 obtain⟨cA,CN,QG⟩:∃cA:Array Value,cA.size=256/\∀j,j<256->cA[j]?=some (.int .u8 (cls K j)):=⟨((range 256).map fun j=>.int .u8 (cls K j)).toArray,by simp,fun j hj=>by simp[hj]⟩
 have dO:(prog.info? 25).map (·.size)=some cA.size:=by rw[CN];kernel_rfl
 have dB:∀j v,cA.toList[j]?=some v->w.cell? ((⟨bm,1,none⟩:Addr).add j)=some v:=by
  intro j v hj;have hj2:j<256:=by
   have:=(List.getElem?_eq_some_iff.1 hj).1;simpa [CN] using this
  have e:(⟨bm,1,none⟩:Addr).add j=⟨bm,1+j,none⟩:=by unfold Addr.add;split <;> simp_all
  have h1:=QG j hj2;rw[<-getElem?_toList,hj] at h1;rw[e,h.a.r.other (1+j) (by omega),h.cl j hj2,h1]
 have Q6:=hid (zmm K cA CN QG w);have jd:=U3 C (by omega);have H:=hid h;have E4:=hid NL;have HN:=hid (Zz HF (Zz HT (Zz HV (Zz hE (Zz fJ (Zz hm sG))))));rw[hC] at Q6;obtain⟨aS0,DT,rfl⟩:=bP h.t.os;obtain⟨yI,rfl,_,_,Oo⟩:=eC h.t.os (by omega);have d0:=(Oo fr (by omega)).1;have d1:w.cell? ⟨bm,259,none⟩=some (.slice (some ⟨yI,0,none⟩) SS.length DT):=by rw[h.a.r.other 259 (by decide),h.t.cS]
 have Df:bm<w.heap.size:=h.a.r.sm.lt;have mQ:yI<w.heap.size:=by have:=h.x8 yI ((zt ..).2 (by simp[ownBlock]));exact this
 have lF:B<=w.heap.size:=h.a.r.hB;rw[show (strs (SS.map (kv M)))[fr]?=some (.string (kv M SS[fr])) from by simp[strs,sG]] at d0;have xP:=hid (fun W:World=>zim (kv M SS[fr]) m (by rw[zok,hm]) (by omega) (cm SS[fr] M) (fun i hi=>zqk M _ i (by omega)) W);obtain⟨fs,kP⟩:∃fs,SS[fr]=fs:=⟨_,rfl⟩
 rw[kP] at d0 xP;rw[show (fun c x=>FR L (Mv L (fun y=>y<M/\SS[fr] y=true) (rp c)) x)=(fun c x=>FR L (Mv L (fun y=>y<M/\fs y=true) (rp c)) x) from by rw[kP]];have yK:fr<SS.length:=sG;obtain⟨kS,T5⟩:∃kS,SS.length=kS:=⟨_,rfl⟩
 have HKS:=hid T5;rw[T5] at d1 yK hS;have i0:(fr:Int)<kS:=by omega
 clear h HF HT HV hE fJ QG hm Oo sG kP T5;go_in;go_wp2_with (refine p5 rfl 25 _ rfl ⟨bm,1,none⟩ rfl cA (.array 256 5) dB underlying25 rfl dO ?_);refine Q6.out.mono ?_;rintro e w1 ⟨rfl,mC⟩;have lf:=mC.size;have d0':(w1.alloc (.cells (madeCells #[.slice none 0 0] C) 27)).cell? ⟨yI,fr,none⟩=some (.string (kv M fs)):=(((al w1 _).cell (p:=⟨yI,fr,none⟩) (by show yI<_;omega)).trans (mC.cell (p:=⟨yI,fr,none⟩) mQ)).trans d0;have d1':(w1.alloc (.cells (madeCells #[.slice none 0 0] C) 27)).cell? ⟨bm,259,none⟩=some (.slice (some ⟨yI,0,none⟩) kS DT):=(((al w1 _).cell (p:=⟨bm,259,none⟩) (by show bm<_;omega)).trans (mC.cell (p:=⟨bm,259,none⟩) Df)).trans d1;clear d0 d1 dB Q6;go_wp2_with fail;refine (xP.out _).mono ?_;rintro e w3 ⟨Ls,aL,cL,rfl,hO,jC,gw,pS⟩;have M3:=hid (iO.made w1 w.heap.size C w3 lf pS);have ld:Below w.heap.size w w3:=(mC.trans ((al w1 _).mono lf)).trans (pS.mono (by simp;omega));obtain⟨gT,A3⟩:∃gT,w1.heap.size=gT:=⟨_,rfl⟩
 have hgT3:gT<w3.heap.size:=by have:=pS.size;simp at this;omega
 rw[A3] at M3;have th:∀x∈Ls,x<M/\fs x=true:=fun x hx=>by have:=((gw x).1 hx).2;simpa [cm] using this
 have yO:=ψ hO jC (fun x=>show x∈Ls↔x<M/\fs x=true from ⟨th x,fun hx=>(gw x).2 ⟨by have:=HN.out.2.2.2.2.2.1;omega,by simp[cm,hx.1,hx.2]⟩⟩) ld;have Ir:∀g,(Value.slice aL Ls.length cL).ownBlock=some g->g≠gT:=fun g e h=>by
  have h1:=eB hO (M3.out.iP.1) (by decide) g e;exact h1 h
 have HGT:=hid Ir;have Qv:Ls.length<=M:=qw jC (fun x hx=>(th x hx).1);obtain⟨q,hq⟩:∃q,Ls.length=q:=⟨_,rfl⟩
 have HQ:=hid hq;rw[hq] at Qv;rw[A3];rw[hq];clear hO jC gw pS th Ir ld mC d0' d1' xP jd hq A3;go_wp2;go_loopw [6,8,10,30] (fun _ _ _ v wq=>∃(i:Nat) (vs:Nat->Value) (tg:Nat->List Nat),v=.int .i64 i/\i<=q/\Hid (iO w3 w.heap.size gT C vs tg wq)/\Hid (∀c,c<C->(tg c).length<=np L Ls i/\∀x,x∈tg c↔qd L rp ((Ls.take i).flatMap (dk L)) c x)) (fun _ _ _ v _=>q-(intOf v).toNat)
 ·exact⟨0,_,_,rfl,zero_le _,M3,fun c hc=>⟨by rw[zmu];simp,fun x=>by simp[qd]⟩⟩
 obtain⟨i,vs,tg,rfl,hi,HA,HC⟩:=hrel;clear M3;have hW:Below w.heap.size w wr:=yO.out.2.2.2.trans HA.out.below;have HW:=hid hW;by_cases aq:i<q
 ·have ux:i<Ls.length:=by rw[HQ.out];exact aq
  obtain⟨gl,rfl,_,JG,gq⟩:=eC yO.out.1 (by omega);have d0:=(gq i (by omega)).1;rw[BW Ls i ux] at d0;have Ho:gl≠gT:=HGT.out gl rfl;replace d0:wr.cell? ⟨gl,i,none⟩=some (.int .i64 ((Ls[i]:Nat):Int)):=(HA.out.kept.nE (by simpa using Ho) JG).trans d0;have hs:=((yO.out.2.2.1 Ls[i]).1 (getElem_mem _)).1;have A1:Hid (Ls.take (i+1)=Ls.take i++[Ls[i]]):=List.take_succ_eq_append_getElem ux;generalize Ls[i]=st at d0 hs A1;have c0:wr.cell? ⟨bm,0,none⟩=some (.pointer (some ⟨bn,0,none⟩)):=(hW.cell (p:=⟨bm,0,none⟩) Df).trans ((H.out.a.r.other 0 (by decide)).trans H.out.c0);have bY:=HN.out.2.1.below (hW.mono lF);have f0:=bY.gW;have k0:=bY.row st hs;have yy:=hid (HN.out.2.1.at_ st hs);obtain⟨aR,DY⟩:∃aR,aS st=aR:=⟨_,rfl⟩
  obtain⟨KQ,BT⟩:∃KQ,E8 st=KQ:=⟨_,rfl⟩
  rw[DY,BT] at k0;rw[DY] at yy;have HBE:Hid (∀e∈dk L st,e.t<M):=fun e he=>(HN.out.2.2.2.1 e ((LU L st e).1 he).1).2
  obtain⟨p,hp⟩:∃p,(dk L st).length=p:=⟨_,rfl⟩
  have vl:p<=6400:=by rw[<-hp];exact le_trans (Ye L st) NL
  have HP:=hid hp;rw[hp] at k0;have i1:(i:Int)<q:=by omega
  have i2:(st:Int)<M:=by omega
  clear bY DY BT hp gq ux aq hi hW Ho JG;go_wp2_with fail;clear c0 f0 k0 d0;go_loopw [8,10,45] (fun _ _ v wq=>∃(k:Nat) (MP:Nat->Value) (BO:Nat->List Nat),v=.int .i64 k/\k<=p/\Hid (iO w3 w.heap.size gT C MP BO wq)/\Hid (∀c,c<C->(BO c).length<=np L Ls i+k/\∀x,x∈BO c↔qd L rp ((Ls.take i).flatMap (dk L)++(dk L st).take k) c x)) (fun _ _ v _=>p-(intOf v).toNat)
  ·exact⟨0,vs,tg,rfl,zero_le _,HA,fun c hc=>⟨(HC.out c hc).1,fun x=>by rw[(HC.out c hc).2 x];simp⟩⟩
  clear HA HC HW;obtain⟨k,MP,BO,rfl,hk,HA,HC⟩:=hrel;have hW:Below w.heap.size w wr:=yO.out.2.2.2.trans HA.out.below;by_cases wL:k<p
  ·have hkl:k<(dk L st).length:=(by rw[HP.out];exact wL);obtain⟨gx,off,rfl,hgx,xw⟩:=yy.out (by omega);obtain⟨ac,cc,s0,s1,hI⟩:=xw k hkl;replace s0:=(hW.cell (p:=⟨gx,off+k*2,none⟩) (by show gx<_;omega)).trans s0;replace s1:=(hW.cell (p:=⟨gx,off+k*2+1,none⟩) (by show gx<_;omega)).trans s1;have vo:Hid ((dk L st).take (k+1)=(dk L st).take k++[(dk L st)[k]]):=List.take_succ_eq_append_getElem hkl;have EZ:=HBE.out _ (getElem_mem hkl);generalize (dk L st)[k]=ed at s0 s1 hI vo EZ;obtain⟨lc,lT⟩:∃lc,de (fun c=>ed.p (rp c)) C=lc:=(⟨_,rfl⟩);have WJ:Hid (∀x,x∈lc↔x<C/\ed.p (rp x)=true):=(fun x=>by rw[<-lT];exact Nv _ _ x);have HND:Hid (lc.Nodup):=(by rw[<-lT];exact (List.nodup_range).filter _);have Q7:lc.length<=C:=(by rw[<-lT];exact zoD _ _);dsimp only at s0 hI;rw[lT] at s0 hI;have HI:=hid hI;obtain⟨pc,uH⟩:∃pc,lc.length=pc:=(⟨_,rfl⟩);have zq:=hid uH;rw[uH] at s0 Q7;obtain⟨t,ht⟩:∃t,ed.t=t:=(⟨_,rfl⟩);have HTD:=hid ht;rw[ht] at s1 EZ;have i5:(k:Int)<p:=(by omega);have ph:=hid (HA.out.ab (al wr (.cells #[.slice ac pc cc,.int .i64 (t:Int)] 153)));have me:=hid (St.new wr 153 #[.slice ac pc cc,.int .i64 (t:Int)]);clear hI lT uH ht xw hkl hW hk;go_wp2_with fail;obtain⟨g8,S6⟩:∃g8,wr.heap.size=g8:=(⟨_,rfl⟩);rw[S6] at me;rw[S6];generalize wr.alloc (.cells #[.slice ac pc cc,.int .i64 (t:Int)] 153)=W1 at ph me⊢;clear S6 s0 s1 HA;go_loopw [10,52] (fun _ v wz=>∃(j:Nat) (Gs:Nat->Value) (oD:Nat->List Nat),v=.int .i64 j/\j<=pc/\Hid (iO w3 w.heap.size gT C Gs oD wz)/\Hid (St wz 153 g8 #[.slice ac pc cc,.int .i64 (t:Int)])/\Hid (∀c,c<C->(oD c).length<=np L Ls i+k+kr lc j c/\∀x,x∈oD c↔qd L rp ((Ls.take i).flatMap (dk L)++(dk L st).take k) c x\/(c∈lc.take j/\x=t))) (fun _ v _=>pc-(intOf v).toNat)
   ·exact⟨0,MP,BO,rfl,zero_le _,ph,me,fun c hc=>⟨by have:=(HC.out c hc).1;omega,fun x=>by rw[(HC.out c hc).2 x];simp⟩⟩
   clear ph me;obtain⟨j,Gs,oD,rfl,hj,gp,Sg,zW⟩:=hrel;have hW:Below w.heap.size w wr:=yO.out.2.2.2.trans gp.out.below;by_cases hjp:j<pc
   ·have hjl:j<lc.length:=(by rw[zq.out];exact hjp);obtain⟨gi,oi,rfl,hgi,Vg⟩:=HI.out (by omega);have s2:=(hW.cell (p:=⟨gi,oi+j,none⟩) (by show gi<_;omega)).trans (Vg j hjl);have hx:=((WJ.out lc[j]).1 (getElem_mem hjl)).1;have LY:Hid (lc.take (j+1)=lc.take j++[lc[j]]):=List.take_succ_eq_append_getElem hjl;generalize lc[j]=x at s2 hx LY;have i6:(j:Int)<pc:=(by omega);clear Vg hjl hW;have wK:Hid (∀c,c<C->((fun jj=>if jj=x then oD x++[t] else oD jj) c).length<=np L Ls i+k+kr lc (j+1) c/\∀y,y∈(fun jj=>if jj=x then oD x++[t] else oD jj) c↔qd L rp ((Ls.take i).flatMap (dk L)++(dk L st).take k) c y\/(c∈lc.take (j+1)/\y=t)):=fun c hc=>by
     obtain⟨h1,h2⟩:=zW.out c hc;rw[LY.out];by_cases e:c=x
     ·subst e;have hoi:=zkB HND.out LY.out;refine⟨by simp;omega,fun y=>?_⟩;simp only[if_true,mem_append,mem_singleton,h2 y];constructor
      ·rintro ((h3|⟨h3,h4⟩)|h3)
       ·exact inl h3
       ·exact inr ⟨inl h3,h4⟩
       exact inr ⟨inr trivial,h3⟩
      rintro (h3|⟨h3,h4⟩)
      ·exact inl (inl h3)
      exact inr h4
     have hoi:=zin LY.out e;refine⟨by simp[e];omega,fun y=>?_⟩;show (y∈if c=x then oD x++[t] else oD c)↔_;rw[if_neg e,h2 y,mem_append,mem_singleton];simp[e]
    go_wp2_with fail;obtain⟨MT,Mc,hv⟩:=bP (gp.out.iP.2.1 x hx);dsimp only at hv;have iM:=hid (gp.out.ab (al wr (.cells #[.int .i64 (t:Int)] 3)).drew);have tx:=hid (Sg.out.ab (al wr (.cells #[.int .i64 (t:Int)] 3)).drew);have dF:=iM.out.iP.2.1 x hx;rw[hv] at dF;dsimp only at dF;have hlen:(oD x).length<=20000:=by
     have a1:=(zW.out x hx).1;have a2:=Sb L yO.out.2.1 i;have a3:=Xu lc j x;have a4:=E4.out;omega
    obtain⟨p3,ic⟩:∃p3,(oD x).length=p3:=(⟨_,rfl⟩);have k0:wr.cell? ⟨gT,x,none⟩=some (.slice MT p3 Mc):=(by rw[(gp.out.iP.cell x hx).1,hv,ic]);have m2:(wr.alloc (.cells #[.int .i64 (t:Int)] 3)).drew.cell? ⟨gT,x,none⟩=some (.slice MT p3 Mc):=(by rw[(iM.out.iP.cell x hx).1,hv,ic]);have ub:=ζ hv ic;have j1:(x:Int)<C:=(by omega);have j2:(0:Int)<=x:=(by omega);have zd:w3.heap.size<=((wr.alloc (.cells #[.int .i64 (t:Int)] 3)).drew).heap.size:=iM.out.below.size;rw[ic] at dF hlen;obtain⟨i0,xa,dv,cP,cG⟩:=info_parts aG;have dz:=hid (fun (W:World) (h1:St W 153 g8 #[.slice (some ⟨gi,oi,none⟩) pc cc,.int .i64 ((t:Nat):Int)])=>(h1.at_ 1:W.cell? ⟨g8,1,none⟩=some (.int .i64 ((t:Nat):Int))));clear hv ic;refine wp_region_held_drew (S:=fun W'=>W'.cell? ⟨g8,1,none⟩=some (.int .i64 (t:Int))) (by kernel_rfl) (dz.out _ Sg.out.drew) (fun η=>?_)
    (refine an 0 ?_;refine an 1 ?_;refine an 2 ?_;try simp only[put,sA];refine an 3 ?_;refine an 4 ?_;refine an 6 ?_;try simp only[put,sA];refine an 7 ?_;try simp only[put,sA])
    ·refine wpAnyH_ready (rs:=[5,8]) (by kernel_rfl) (by simp) (hJ (fun K hK=>?_) (hJ (fun K hK=>?_) AllReadyH.nil))
     skip;go_simp;refine hK.out _ _ (dz.out _ Sg.out.drew) fun η=>?_;clear hK K
     try simp only[put,sA]
     refine bc 8 (fun K hK=>?_);skip;go_simp;refine hK.out _ _ (dz.out _ tx.out) fun η=>?_;clear hK K
     rotate_left
     skip;go_simp;refine hK.out _ _ (dz.out _ tx.out) fun η=>?_;clear hK K
     try simp only[put,sA]
     refine bc 5 (fun K hK=>?_);skip;go_simp;refine hK.out _ _ (dz.out _ tx.out) fun η=>?_;clear hK K
     rotate_left
     all_goals
      try simp only[put,sA]
      refine bc 9 (fun K hK=>?_);skip;skip;refine step_append_lies _ (by rfl) _ _ _ (by rfl) w3.heap.size 3 i0 (.int .i64 0) 1 8 underlying27 xa dv cP cG (by rfl) (by decide) _ p3 (cY (oD x)) (by rfl) dF ⟨wr.heap.size,0,none⟩ 1 1 (#[.int .i64 (t:Int)]).toList (by rfl) (by rfl) (news_of_block (cs:=#[.int .i64 (t:Int)]) (t:=3) (fr:=(0,0)) (heap_alloc_new wr _)) (by simp[oneCell']) (by omega) (by unfold maxLen;omega) (by omega) zd (wr.heap.size+1) (by simp) ?_;intro gg fF w6 aj af dg lX;have fY:=tx.out.ae dF (by decide) af;have ny:=iM.out.iP.1.ae dF (by decide) af;have t2:w6.cell? ⟨gT,x,none⟩=some (.slice MT p3 Mc):=(by rw[ny.at_];simp only[getElem?_toArray,getElem?_map,getElem?_range hx,map_some,ub.out.1,ub.out.2]);have t3:=ny.bb x;have HF:Hid (iO w3 w.heap.size gT C (fun j=>if j=x then (.slice (some ⟨gg,0,none⟩) (p3+1) fF) else Gs j) (fun j=>if j=x then oD x++[t] else oD j) (w6.setCell ⟨gT,x,none⟩ (.slice (some ⟨gg,0,none⟩) (p3+1) fF))):=
       iM.out.app hx ub.out.2 aj (by rw[ub.out.1,ub.out.2];exact af) (fun b e=>by rw[ub.out.1,ub.out.2];injection e with e;rw[<-e];rcases dg with h|h;exact inl h;exact inr (by rw[h];simp))
      have RJ:Hid (St (w6.setCell ⟨gT,x,none⟩ (.slice (some ⟨gg,0,none⟩) (p3+1) fF)) 153 g8 #[.slice (some ⟨gi,oi,none⟩) pc cc,.int .i64 (t:Int)]):=fY.fZ ny (by decide) x _;refine hK.out _ _ (dz.out _ fY) fun η=>?_;clear hK K aj af dg lX
      try simp only[put,sA]
      (refine an 10 ?_;try simp only[put,sA])
      refine bc 11 (fun K hK=>?_);skip;go_simp;refine hK.out _ _ (dz.out _ (fY.fZ ny (by decide) x _)) fun η=>?_;clear hK K
      try simp only[put,sA]
      refine wpAnyH_done (by kernel_rfl) ?_ _;clear fY ny t2 t3 η;go_wp2;go_roundw
      ·exact⟨j+1,_,_,by go_num,by omega,HF,RJ,wK⟩
      simp[intOf];omega
   obtain rfl:j=pc:=(by omega);have HZ:Hid (∀c,c<C->(oD c).length<=np L Ls i+(k+1)/\∀x,x∈oD c↔qd L rp ((Ls.take i).flatMap (dk L)++(dk L st).take (k+1)) c x):=fun c hc=>by
    obtain⟨h1,h2⟩:=zW.out c hc;refine⟨by have:=Xu lc j c;omega,fun x=>?_⟩;rw[h2 x,vo.out,<-zq.out,take_length,WJ.out c,<-HTD.out];unfold qd;simp only[mem_append,mem_singleton];constructor
    ·rintro (⟨e,he,h3,h4⟩|⟨⟨_,h3⟩,h4⟩)
     ·exact⟨e,by rcases he with he|he;exact inl he;exact inr (inl he),h3,h4⟩
     exact⟨ed,inr (inr rfl),h3,h4.symm⟩
    rintro⟨e,he,h3,h4⟩;rcases he with he|he|rfl
    ·exact inl ⟨e,inl he,h3,h4⟩
    ·exact inl ⟨e,inr he,h3,h4⟩
    exact inr ⟨⟨hc,h3⟩,h4.symm⟩
   clear hW;go_wp2;go_roundw
   ·exact⟨k+1,Gs,oD,by go_num,by omega,gp,HZ⟩
   simp[intOf];omega
  obtain rfl:k=p:=by omega
  have HZ:Hid (∀c,c<C->(BO c).length<=np L Ls (i+1)/\∀x,x∈BO c↔qd L rp ((Ls.take (i+1)).flatMap (dk L)) c x):=fun c hc=>by
   obtain⟨h1,h2⟩:=HC.out c hc;refine⟨by rw[zmv A1.out,HP.out];exact h1,fun x=>?_⟩;rw[h2 x,A1.out,<-HP.out,take_length,List.flatMap_append];simp
  clear hW;go_wp2;go_roundw
  ·exact⟨i+1,MP,BO,by go_num,by omega,HA,HZ⟩
  simp[intOf];omega
 obtain rfl:i=q:=by omega
 have HZ:Hid (∀c,c<C->(tg c).length<=6400/\∀x,x∈tg c↔qd L rp (Ls.flatMap (dk L)) c x):=fun c hc=>by
  obtain⟨h1,h2⟩:=HC.out c hc;refine⟨by have a2:=Sb L yO.out.2.1 i;have a4:=E4.out;omega,fun x=>?_⟩;rw[h2 x,<-HQ.out,take_length]
 have Qh:gT<wr.heap.size:=by have:=HA.out.below.size;omega
 have z8:=zmz C (by omega);have HVs:=hid (Kept.refl [] [] wr);have H1:=hid (H.out.ab hW);have Jj:∀x∈jw bm gI bM vL (.slice (some ⟨yI,0,none⟩) SS.length DT) vK,x<w.heap.size:=H.out.x8;have yn:w.heap.size<=gT:=HA.out.lo.1;have wC:=ζ Jj yn;clear Jj yn;go_wp2_with fail;obtain⟨gR,Bj⟩:∃gR,wr.heap.size=gR:=⟨_,rfl⟩
 rw[Bj];have HG:=hid (HA.out.iP);have SJ:Hid (∀c,c<C->∀b,(vs c).ownBlock=some b->b<gR/\w3.heap.size<=b):=fun c hc b e=>by
  obtain⟨c1,fz,h1⟩:=qi (HG.out.2.1 c hc) b e;exact⟨by rw[<-Bj];exact (Array.getElem?_eq_some_iff.1 h1).1,kL (HG.out.2.1 c hc) b e⟩
 have ep:Hid (St (wr.alloc (.cells (madeCells #[.int .i64 0] C) 3)) 3 gR (ints (replicate C 0)).toArray):=by
  show St _ _ _ _;rw[<-zkD,<-Bj];exact St.new _ _ _
 have H2:=hid (H1.out.ab (al wr (.cells (madeCells #[.int .i64 0] C) 3)));have Pp:=hid (HG.out.ab (al wr (.cells (madeCells #[.int .i64 0] C) 3)));have hVs:(wr.alloc (.cells (madeCells #[.int .i64 0] C) 3)).heap.size=gR+1:=by simp[Bj]
 have Qw:Below w.heap.size w (wr.alloc (.cells (madeCells #[.int .i64 0] C) 3)):=(hW.trans ((al wr _).mono hW.size))
 have QH:=hid Qw;generalize wr.alloc (.cells (madeCells #[.int .i64 0] C) 3)=V at ep H2 Pp hVs Qw QH⊢;obtain⟨uV,Gr⟩:∃uV,jw bm gI bM vL (.slice (some ⟨yI,0,none⟩) SS.length DT) vK=uV:=⟨_,rfl⟩
 have HBS:=hid Gr;clear H1 HG HVs Qw z8 hW Gr;have hgTR:gT<gR:=by omega
 have HTC:Hid (∀c,c<C->(fun x=>FR L (fun y=>y∈tg c) x)=(fun x=>FR L (Mv L (fun y=>y<M/\fs y=true) (rp c)) x)):=fun c hc=>funext fun x=>propext (FR.congr (fun y=>by
  rw[(HC.out c hc).2 y]
  rw[<-HQ.out,take_length]
  constructor
  ·rintro⟨e,he,h1,h2⟩
   obtain⟨st,bY,he⟩:=List.mem_flatMap.1 he
   obtain⟨h3,h4,h5⟩:=(LU L st e).1 he
   exact⟨e,h3,h4,h1,by rw[h5];exact (yO.out.2.2.1 st).1 bY,h2⟩
  ·rintro⟨e,h3,h4,h1,h5,h2⟩
   exact⟨e,List.mem_flatMap.2 ⟨e.f,(yO.out.2.2.1 e.f).2 h5,(LU L e.f e).2 ⟨h3,h4,rfl⟩⟩,h1,h2⟩) x)
 have HTL:Hid (∀c,c<C->(tg c).length<=6400/\∀x∈tg c,x<M):=fun c hc=>⟨by have a1:=(HC.out c hc).1;have a2:=Sb L yO.out.2.1 i;have a4:=E4.out;omega,fun x hx=>by
  obtain⟨e,he,h1,h2⟩:=((HC.out c hc).2 x).1 hx
  obtain⟨st,bY,he⟩:=List.mem_flatMap.1 he
  rw[<-h2]
  exact (HN.out.2.2.2.1 e ((LU L st e).1 he).1).2⟩
 have ED:Hid (∀x∈uV,x<w.heap.size):=by rw[<-HBS.out];exact wC.out.1
 have yn:w.heap.size<=gT:=wC.out.2;clear HC HA hi aq HW wC Qh;go_loopw [12,13,75] (fun _ _ v wq=>∃(c:Nat) (row:List Int) (jY:List (Nat->Bool)) (uq:List Int) (D':List ((Nat->Bool) × Nat)) (n':Nat) (iJ:Array Value) (l':List Nat) (jr vS' vK':Value),v=.int .i64 c/\c<=C/\
  Hid (mi B bm gI bM m M C bn K L mk jY uq D' R n' iJ l' jr vS' vK' vN gs wq)/\Hid (iG M (fun c x=>FR L (Mv L (fun y=>y<M/\fs y=true) (rp c)) x) SS c row jY)/\Hid (Kept [] (gR :: uV) V wq/\Below B V wq/\(∀x∈jw bm gI bM jr vS' vK',x∈uV\/V.heap.size<=x)/\St wq 3 gR (ints (row++replicate (C-c) 0)).toArray/\∀x∈gs,x≠gR)) (fun _ _ v _=>C-(intOf v).toNat)
 case atStart=>exact⟨0,[],SS,ms,D,n,cs,l,vL,_,vK,rfl,zero_le _,H2,iG.zero,Kept.refl _ _ _,Below.refl _ _,fun x hx=>inl (by rw[<-HBS.out];exact hx),by simpa using ep.out,fun x hx e=>by
  obtain⟨i1,h1,h2⟩:=List.getElem_of_mem hx
  have h3:=(H.out.nx.row i1 h1 (by rw[<-H.out.nx.len];exact h1)).1.lt
  omega⟩
 case round=>
  clear H2 ep;obtain⟨c,row,jY,uq,D',n',iJ,l',jr,vS',vK',rfl,hc,HM,yy,HK⟩:=hrel;have wM:=yy.out.len;have Q5:gR∉uV:=fun h=>by have:=ED.out _ h;omega
  have CO:gT∉gR :: uV:=fun h=>by
   rcases List.mem_cons.1 h with h|h
   ·omega
   have:=ED.out _ h;omega
  have xA:gR∉jw bm gI bM jr vS' vK':=fun h=>by
   rcases HK.out.2.2.1 _ h with h|h
   ·exact Q5 h
   omega
  have ld:Below B w wr:=(QH.out.mono lF).trans HK.out.2.1;by_cases aq:c<C
  ·have hO:=Pp.out.2.1 c aq;obtain⟨aT,cT,hv⟩:=bP hO;dsimp only at hv hO;have t0:wr.cell? ⟨gT,c,none⟩=some (.slice aT (tg c).length cT):=(by rw[HK.out.1.nE CO (by omega),(Pp.out.cell c aq).1,hv]);have CU:=SJ.out c aq;rw[hv] at hO CU;have HAt:Hid (∀W:World,(∀g,g∉gR :: uV->g<V.heap.size->W.heap[g]?=V.heap[g]?)->Bk W W.heap.size aT (tg c)):=fun W hW h0=>by
    obtain⟨gt,rfl,sX,Ns,mS⟩:=eC hO h0;have h1:=(CU gt rfl).1;have h2:=hW gt (fun h=>by
     rcases List.mem_cons.1 h with h|h
     ·omega
     ·have:=ED.out _ h;omega) Ns
    refine⟨gt,0,rfl,?_,fun j hj=>?_⟩
    ·rw[Array.getElem?_eq_getElem Ns] at h2;exact (Array.getElem?_eq_some_iff.1 h2).1
    rw[zero_add];have h3:W.cell? ⟨gt,j,none⟩=V.cell? ⟨gt,j,none⟩:=(by simp only[World.cell?,h2]);rw[h3,(mS j (by omega)).1,BW (tg c) j hj]
   have sr:=HTL.out c aq;have EZ:=hid sr.2;replace sr:=sr.1;have Ur:=hid (HTC.out c aq);obtain⟨tc,IH⟩:∃tc,tg c=tc:=(⟨_,rfl⟩);rw[IH] at t0 HAt sr EZ Ur;have dF:row.length=c:=wM.1;have bY:=HK.out.2.2.2.1;rw[zmA row C c aq] at bY;have e0:wr.cell? ⟨gR,c,none⟩=some (.int .i64 0):=(by rw[bY.at_,U8 row C c dF]);have e1:=bY.bb c;have oW:Hid (St (wr.setCell ⟨gR,c,none⟩ (.int .i64 (-1))) 3 gR (ints ((row++[-1])++replicate (C-(c+1)) 0)).toArray):=by
    have:=bY.set c (.int .i64 (-1));rwa [Yj row C c dF aq] at this
   have ka:Kept [] [gR] wr (wr.setCell ⟨gR,c,none⟩ (.int .i64 (-1))):=(Kept.refl _ _ _).setCell _ _ (inl (by simp));have eQ:Below B wr (wr.setCell ⟨gR,c,none⟩ (.int .i64 (-1))):=(Below.refl _ _).setCell (p:=⟨gR,c,none⟩) (by show B<=gR;omega) _;have AN:=hid (HM.out.fK ka eQ (fun x hx h=>xA (by rw[<-List.mem_singleton.1 h];exact hx)) (fun b e h=>eB HM.out.nx.own bY (by decide) b e (List.mem_singleton.1 h)) (fun x hx h=>HK.out.2.2.2.2 x hx (List.mem_singleton.1 h)));have mT:Hid (Kept [] (gR :: uV) V (wr.setCell ⟨gR,c,none⟩ (.int .i64 (-1)))/\Below B V (wr.setCell ⟨gR,c,none⟩ (.int .i64 (-1)))):=(⟨HK.out.1.setCell _ _ (inl (by simp)),HK.out.2.1.trans eQ⟩);have i1:(c:Int)<C:=(by omega);obtain⟨p,hp⟩:∃p,tc.length=p:=(⟨_,rfl⟩);rw[hp] at t0 sr;have HP:=hid hp;clear hO hv CU bY ka eQ hp;go_upto_region 19 with fail;generalize wr.setCell ⟨gR,c,none⟩ (.int .i64 (-1))=W1 at oW AN mT⊢;have rv:Hid (∀x∈jw bm gI bM jr vS' vK',x∈uV\/V.heap.size<=x):=HK.out.2.2.1;have Sc:Hid (∀x∈gs,x≠gR):=HK.out.2.2.2.2;clear e0 e1 t0 HK HM;by_cases DE:p=0
   ·subst DE;have HZ:Hid (iG M (fun c x=>FR L (Mv L (fun y=>y<M/\fs y=true) (rp c)) x) SS (c+1) (row++[-1]) jY):=by
     refine iG.succ yy.out (inl ⟨fun x hx h=>?_,rfl,rfl⟩);have h1:=congrFun Ur.out x;have h2:FR L (fun y=>y∈tc) x:=by
      have e:(FR L (fun y=>y∈tc) x)=_:=h1;rw[e];exact h
     rw[List.length_eq_zero_iff.1 HP.out] at h2;exact FR.none (fun x h=>by simp at h) x h2
    clear wM dF IH;go_wp2;go_roundw
    ·exact⟨c+1,row++[-1],jY,uq,D',n',iJ,l',jr,vS',vK',by go_num,by omega,AN,HZ,mT.out.1,mT.out.2,rv.out,oW.out,Sc.out⟩
    simp[intOf];omega
   have hq0:(0:Int)<p:=(by omega);have hSl:jY.length<=3256:=(by have:=HKS.out;omega);have cU:n'<=100000:=(by have:=AN.out.hn;omega);have uu:l'.length<=100000:=(by have:=AN.out.a.len;omega);have uR:Below B w W1:=(QH.out.mono lF).trans mT.out.2;have pP:=hid (Yd W1 B (jw bm gI bM jr vS' vK') bm gI m M bM bn gM cM gF cF aF Di L (HN.out.1.below uR) HN.out.2.2.2.1 (by omega) iJ mk (HN.out.2.2.1.below uR) HN.out.2.2.2.2.1 AN.out.c0 (by omega) HN.out.2.2.2.2.2.1 _ l' jr vS' vK' n' jY uq D' (by omega) cU uu
    aT p cT tc HP.out (by omega) EZ.out (fun W hW=>HAt.out W (fun g hg hl=>by
     have h1:=mT.out.1 g _ (Array.getElem?_eq_getElem hl) (fun _ _ _ _=>by simp) hg
     rw[Array.getElem?_eq_getElem hl]
     exact hW g _ h1 (fun _ _ _ _=>by simp) (fun hm=>by
      rcases rv.out _ hm with h|h
      ·exact hg (List.mem_cons_of_mem _ h)
      ·omega))) W1 AN.out.a.r AN.out.t AN.out.inv)
   have h0:∃x,x<M/\FR L (fun y=>y∈tc) x:=by
    have fQ:0<tc.length:=(by rw[HP.out];omega);exact⟨tc[0],EZ.out _ (getElem_mem fQ),.base (getElem_mem fQ)⟩
   have H0:=hid h0;have AQ:=hid xA;clear h0 uR wM IH xA ld CO cU uu;go_wp2_with fail;refine pP.out.mono ?_;rintro e w5 rA;obtain⟨r,BQ,TT,D2,n2,RF,l2,rq,Ge,GN,rfl,NP,hAdd,fm,mX,cv⟩:=AN.out.close rA H0.out;have fS:=oW.out.kept fm (by simp) AQ.out;have e0:w5.cell? ⟨gR,c,none⟩=some (.int .i64 (-1)):=(by rw[fS.at_,U8 row C c dF]);have e1:=fS.bb c;have IP:gR∉jw bm gI bM rq Ge GN:=fun h=>by
    rcases cv _ h with h|h
    ·exact AQ.out h
    have:=oW.out.lt;omega
   have zO:Kept [] [gR] w5 (w5.setCell ⟨gR,c,none⟩ (.int .i64 r)):=(Kept.refl _ _ _).setCell _ _ (inl (by simp));have dM:Below B w5 (w5.setCell ⟨gR,c,none⟩ (.int .i64 r)):=(Below.refl _ _).setCell (p:=⟨gR,c,none⟩) (by show B<=gR;omega) _;have HM3:=hid (NP.fK zO dM (fun x hx h=>IP (by rw[<-List.mem_singleton.1 h];exact hx)) (fun b e h=>eB NP.nx.own fS (by decide) b e (List.mem_singleton.1 h)) (fun x hx h=>Sc.out x hx (List.mem_singleton.1 h)));have su:Kept [] (gR :: uV) V w5:=fun k o hk ho hn=>fm k o (mT.out.1 k o hk ho hn) ho (fun hm=>by
    rcases rv.out _ hm with h|h
    ·exact hn (List.mem_cons_of_mem _ h)
    ·have:=(Array.getElem?_eq_some_iff.1 hk).1;omega)
   have HZ:Hid (Kept [] (gR :: uV) V (w5.setCell ⟨gR,c,none⟩ (.int .i64 r))/\Below B V (w5.setCell ⟨gR,c,none⟩ (.int .i64 r))/\(∀x∈jw bm gI bM rq Ge GN,x∈uV\/V.heap.size<=x)/\St (w5.setCell ⟨gR,c,none⟩ (.int .i64 r)) 3 gR (ints (row++[r]++replicate (C-(c+1)) 0)).toArray/\∀x∈gs,x≠gR):=by
    refine⟨su.setCell _ _ (inl (by simp)),(mT.out.2.trans mX).trans dM,fun x hx=>?_,?_,Sc.out⟩
    ·rcases cv x hx with h|h
     ·exact rv.out x h
     exact inr (le_trans mT.out.2.size h)
    have:=fS.set c (.int .i64 r);rwa [Yj row C c dF aq] at this
   have sR:Hid (iG M (fun c x=>FR L (Mv L (fun y=>y<M/\fs y=true) (rp c)) x) SS (c+1) (row++[r]) BQ):=by
    refine iG.succ yy.out ?_;rw[Ur.out] at hAdd;exact hAdd
   clear rA NP hAdd fm mX cv fS IP zO dM su pP;go_wp2;go_roundw
   ·exact⟨c+1,row++[r],BQ,TT,D2,n2,RF,l2,rq,Ge,GN,by go_num,by omega,HM3,sR,HZ⟩
   simp[intOf];omega
  obtain rfl:c=C:=by omega
  obtain⟨aN,cN,rfl⟩:=bP HM.out.nx.own;have n0:wr.cell? ⟨bm,257,none⟩=some (.slice aN R.length cN):=by rw[HM.out.a.r.other 257 (by decide),HM.out.cN]
  have hO:=HM.out.nx.own;have hBB:=HM.out.a.r.hB;have HRL:Hid (St wr 3 gR (ints row).toArray):=by
   have:=HK.out.2.2.2.1;show St _ _ _ _;simpa using this
  obtain⟨kR,Tx⟩:∃kR,R.length=kR:=⟨_,rfl⟩
  rw[Tx] at n0 hO hR;have Kp:=hid Tx;obtain⟨i9,BF,dv,cP,cG⟩:=info_parts eI;have AQ:=hid xA;have HBw:=hid ld;clear Tx wM xA CO ld;go_wp2_with (at_builtin;refine wpList_append_own_at _ rfl _ _ 26 rfl B 27 i9 (.slice none 0 0) 1 24 underlying26 BF dv cP cG rfl (by decide) _ _ _ rfl (hO.alloc _) ⟨wr.heap.size,0,none⟩ 1 1 [.slice (some ⟨gR,0,none⟩) c c] rfl rfl (cell_one_new _ _ _) ?d2 ?d3 ?d4 ?d5 ?_)
  case d2=>intro u hu;simp at hu;subst hu;rfl
  case d3=>unfold maxLen;omega
  case d4=>omega
  case d5=>simp;omega
  intro v' w5 ah ag _ bJ;obtain⟨a5,c5,rfl⟩:=bP ah;have h2:=HM.out.ab (al wr (.cells #[.slice (some ⟨gR,0,none⟩) c c] 27));have aj:=ah;rw[<-Kp.out] at aj;obtain⟨hF,YQ⟩:=h2.next (HRL.out.ab (al wr _)) AQ.out (v':=.slice a5 (kR+1) c5) (by simpa [Kp.out] using aj) (by rw[Kp.out];exact ag)
  have tp:St w5 114 bm _:=h2.a.r.sm.ae h2.nx.own (by decide) (by rw[Kp.out];exact ag);have p3:w5.cell? ⟨bm,257,none⟩=some (.slice aN kR cN):=by rw[tp.at_,getElem?_setIfInBounds_ne (by decide),h2.cN,Kp.out]
  have pf:=tp.bb 257;have oY:Hid (ZN B bm gI bM m M c bn K L mk SS R (fun c x=>FR L (Mv L (fun y=>y<M/\fs y=true) (rp c)) x) w (.returned (.tuple #[])) (w5.setCell ⟨bm,257,none⟩ (.slice a5 (kR+1) c5))):=
   ⟨row,jY,uq,D',n',_,l',jr,vS',vK',_,_,rfl,hF,yy.out,(HBw.out.trans ((al wr _).mono HM.out.a.r.hB)).trans YQ⟩
  clear ah aj ag bJ h2 tp hF YQ hO n0;go_wp2_with fail;refine bodyPost_ret (results_none rfl _ _ _) rfl ?_;exact oY.out
theorem zom(K:Nat->Lit)(h:cls K x=cls K y):K x=K y:=by
 have hx:cls K (fst K x)=cls K x:=by unfold cls;rw[Ml]
 have hy:cls K (fst K y)=cls K y:=by unfold cls;rw[Ml]
 have e:fst K x=fst K y:=by
  rcases Nat.lt_trichotomy (fst K x) (fst K y) with h1|h1|h1
  ·have h2:=E9 K (fst K x) (fst K y) h1;have h3:dD K (fst K y)=cls K y:=rfl;omega
  ·exact h1
  have h2:=E9 K (fst K y) (fst K x) h1;have h3:dD K (fst K x)=cls K x:=rfl;omega
 rw[<-(zi K x).2.1,<-(zi K y).2.1,e]
noncomputable def qg (K:Nat->Lit) (c:Nat):Nat:=(rl K 256).getD c 0
theorem zip(K:Nat->Lit)(b:Nat)(hb:b<256):cls K b<(rl K 256).length/\K (qg K (cls K b))=K b:=by
 have h1:=E9 K b 256 hb;have h2:cls K b<(rl K 256).length:=by rw[zB];omega
 refine⟨h2,zom K ?_⟩;have:qg K (cls K b)=(rl K 256)[cls K b]:=by simp[qg,getD_eq_getElem?_getD,h2]
 rw[this];exact (Yq K 256 (cls K b) h2).1
theorem zq8(L:List En)(h:dQ L x=dQ L y):∀e∈L,e.b=false->e.p x=e.p y:=by
 intro e he hb;have h1:=(zkL _ _ _ _).1 h;have hm:e.p∈cH (L.map En.z):=by
  unfold cH;exact List.mem_map.2 ⟨e.z,List.mem_filter.2 ⟨List.mem_map.2 ⟨e,he,rfl⟩,by simp[En.z,hb]⟩,rfl⟩
 obtain⟨i,hi,e1⟩:=List.getElem_of_mem hm;have h2:=h1 i hi;have h3:rn (L.map En.z) i=e.p:=by simp[rn,getD_eq_getElem?_getD,hi,e1]
 rw[h3] at h2;exact h2
theorem zrk(L:List En)(b:Nat)(hb:b<256):∀e∈L,e.b=false->e.p (qg (dQ L) (cls (dQ L) b))=e.p b:=zq8 L (zip (dQ L) b hb).2
theorem Mv.byte{A:Nat->Prop}{d:Nat}(h:∀e∈L,e.b=false->e.p c=e.p d)(x:Nat):Mv L A c x↔Mv L A d x:=
 ⟨fun ⟨e,h1,h2,h3,h4,h5⟩=>⟨e,h1,h2,by rw[<-h e h1 h2];exact h3,h4,h5⟩,fun ⟨e,h1,h2,h3,h4,h5⟩=>⟨e,h1,h2,by rw[h e h1 h2];exact h3,h4,h5⟩⟩
theorem Mv.none{A:Nat->Prop}(h:∀x,¬A x)(c x:Nat):¬Mv L A c x:=fun ⟨e,_,_,_,h4,_⟩=>h _ h4
theorem bU.nam(hn:nm.Nodup){A' A:Nat->Prop}(h:tJ nm A' A)(hr:bU (fun i=>mf (nm.getD i 0)) A' r):bU mf A r:=by
 rcases hr with ⟨h1,h2⟩|⟨h1,⟨x,hx,h2⟩,h3⟩
 ·refine inl ⟨h1,fun x hx=>?_⟩;obtain⟨i,hi,rfl⟩:=(h.2 x).1 hx;exact h2 i hi
 refine inr ⟨h1,⟨nm.getD x 0,(h.2 _).2 ⟨x,hx,rfl⟩,h2⟩,fun y hy=>?_⟩;obtain⟨i,hi,rfl⟩:=(h.2 y).1 hy;exact h3 i hi
def EU(L:List En)(M:Nat)(rp:Nat->Nat)(f:Nat->Bool)(c x:Nat):Prop:=FR L (Mv L (fun y=>y<M/\f y=true) (rp c)) x
structure Made (L:List En)(F:Nat)(nm:List Nat)(L':List En)(f0:Nat)(s0:Nat->Bool)(k:Nat)(R:List (List Int))(SS:List (Nat->Bool)):Prop where
 oG:L=L'.map (En.oG nm)
 nd:nm.Nodup
 bd:∀e∈L',e.f<nm.length/\e.t<nm.length
 hf:nm[f0]?=some F
 src:∀x∈nm,Src L F F x
 st:∀x,x<nm.length->(s0 x=true↔FR L' (fun y=>y=f0) x)
 run:iW nm.length (rl (dQ L) 256).length (EU L' nm.length (qg (dQ L))) [s0] k R SS
theorem Made.rep{f0:Nat}(h:Made L F nm L' f0 s0 k R SS)(b:Nat)(hb:b<256):∀e∈L',e.b=false->e.p (qg (dQ L) (cls (dQ L) b))=e.p b:=by
 intro e he h2;have h3:e.oG nm∈L:=by rw[h.oG];exact List.mem_map.2 ⟨e,he,rfl⟩
 exact zrk L b hb (e.oG nm) h3 h2
def tA(M:Nat)(SS:List (Nat->Bool))(A:Nat->Prop)(a:Int):Prop:=(a=-1/\∀x,¬A x)\/∃(j:Nat) (h:j<SS.length),a=((j:Nat):Int)/\∀x,x<M->(SS[j] x=true↔A x)
theorem Made.start{f0:Nat}(h:Made L F nm L' f0 s0 k R SS)(z:Nat->Nat):tA nm.length SS (ct L' f0 z 0) 0:=by
 have hp:=h.run.pre;have h0:0<SS.length:=Nat.lt_of_lt_of_le (by simp) hp.length_le;have h1:s0=SS[0]:=by
  have:=hp.getElem (i:=0) (by simp);simpa using this
 exact inr ⟨0,h0,rfl,fun x hx=>by rw[<-h1];exact h.st x hx⟩
theorem Made.step{L:List En}{F f0 k:Nat}{nm:List Nat}{L':List En}{s0:Nat->Bool}{R:List (List Int)}{SS:List (Nat->Bool)}(h:Made L F nm L' f0 s0 k R SS)(hk:SS.length=k)(z:Nat->Nat)(t j:Nat)(hz:z t<256)(hs:tA nm.length SS (ct L' f0 z t) (j:Int)):
  ∃(hj:j<R.length) (hc:cls (dQ L) (z t)<R[j].length),tA nm.length SS (ct L' f0 z (t+1)) R[j][cls (dQ L) (z t)]:=by
 have mL:=h.run.len;obtain⟨gZ,_⟩:=zip (dQ L) (z t) hz;rcases hs with ⟨h1,_⟩|⟨j',Bh,e,hS⟩
 ·omega
 have e2:j'=j:=by omega
 subst e2;have Ke:j'<R.length:=by omega
 have dF:=h.run.tC R[j'] (getElem_mem Ke);refine⟨Ke,by omega,?_⟩;obtain⟨tH,ht⟩:=h.run.pI j' Ke;have IH:=ht (cls (dQ L) (z t)) (by omega);have hA:∀x,EU L' nm.length (qg (dQ L)) SS[j'] (cls (dQ L) (z t)) x↔ct L' f0 z (t+1) x:=by
  intro x;show FR L' _ x↔FR L' _ x;refine FR.congr (fun y=>?_) x;rw[Mv.byte (h.rep (z t) hz) y];refine Mv.congr (fun w=>⟨fun hw=>(hS w hw.1).1 hw.2,fun hw=>?_⟩) _ y;have aq:w<nm.length:=ct.lt (f:=f0) (List.getElem?_eq_some_iff.1 h.hf).1 (fun e he=>(h.bd e he).2) t hw;exact⟨aq,(hS w aq).2 hw⟩
 rcases IH with ⟨h1,h2⟩|⟨_,j2,hj2,h1,h2⟩
 ·refine inl ⟨h1,fun x hx=>?_⟩;have aq:x<nm.length:=ct.lt (f:=f0) (List.getElem?_eq_some_iff.1 h.hf).1 (fun e he=>(h.bd e he).2) (t+1) hx;exact h2 x aq ((hA x).2 hx)
 exact inr ⟨j2,hj2,h1,fun x hx=>(h2 x hx).trans (hA x)⟩
theorem ct.dead{f:Nat}{z:Nat->Nat}(h:∀x,¬ct L f z t x):∀x,¬ct L f z (t+1) x:=fun x=>FR.none (Mv.none h (z t)) x
theorem Made.names{f0:Nat}(h:Made L F nm L' f0 s0 k R SS)(z:Nat->Nat)(m:Nat):tJ nm (ct L' f0 z m) (ct L F z m):=by
 have:=tJ.run h.nd h.bd (List.getElem?_eq_some_iff.1 h.hf).1 z m;rw[<-h.oG] at this;have e:nm.getD f0 0=F:=by simp[getD_eq_getElem?_getD,h.hf]
 rwa [e] at this
theorem Made.mark{f0:Nat}(h:Made L F nm L' f0 s0 k R SS){z:Nat->Nat}(hj:j<SS.length)(hs:tA nm.length SS (ct L' f0 z m) (j:Int))
  (hr:bU (fun i=>mf (nm.getD i 0)) (fun x=>x<nm.length/\SS[j] x=true) r):bU mf (ct L F z m) r:=by
 rcases hs with ⟨h1,_⟩|⟨j',Bh,e,hS⟩
 ·omega
 have e2:j'=j:=by omega
 subst e2;refine bU.nam h.nd (h.names z m) (hr.congr (fun x=>⟨fun hx=>(hS x hx.1).1 hx.2,fun hx=>?_⟩));have aq:x<nm.length:=ct.lt (f:=f0) (List.getElem?_eq_some_iff.1 h.hf).1 (fun e he=>(h.bd e he).2) m hx;exact⟨aq,(hS x aq).2 hx⟩
theorem mU.src{S:Nat->Prop}{S':List (Nat->Bool)}(h:mU M S SS r S'):∀i (hi:i<S'.length),SS.length<=i->(∃x,x<M/\S x)/\∀x,x<M->(S'[i] x=true↔S x):=by
 intro i hi hl;rcases h with ⟨_,_,rfl⟩|⟨h0,j,_,⟨hj,Tu⟩,rfl|⟨f,rfl,rfl,_⟩⟩
 ·omega
 ·omega
 have:i=SS.length:=by simp at hi;omega
 subst this;exact⟨h0,Tu⟩
theorem iG.src{M:Nat}{T:Nat->Nat->Prop}{SS S':List (Nat->Bool)}{c:Nat}{row:List Int}(h:iG M T SS c row S'):∀i (hi:i<S'.length),SS.length<=i->∃d,d<c/\(∃x,x<M/\T d x)/\∀x,x<M->(S'[i] x=true↔T d x):=by
 induction h with
 | zero=>intro i hi hl;omega
 | @succ c row S1 S2 r h0 h1 ih=>
  intro i hi hl;by_cases e:i<S1.length
  ·obtain⟨d,hd,h2,h3⟩:=ih i e hl;refine⟨d,by omega,h2,fun x hx=>?_⟩;rw[<-h1.pre.getElem e];exact h3 x hx
  obtain⟨h2,h3⟩:=h1.src i hi (by omega);exact⟨c,by omega,h2,h3⟩
theorem iW.src{M C:Nat}{T:(Nat->Bool)->Nat->Nat->Prop}{S0 S':List (Nat->Bool)}{k:Nat}{R:List (List Int)}(h:iW M C T S0 k R S'):∀i (hi:i<S'.length),S0.length<=i->∃(i':Nat) (hi':i'<S'.length) (d:Nat),i'<i/\d<C/\(∃x,x<M/\T S'[i'] d x)/\∀x,x<M->(S'[i] x=true↔T S'[i'] d x):=by
 induction h with
 | zero=>intro i hi hl;omega
 | @succ k R row S1 S2 h0 hk h1 ih=>
  intro i hi hl;by_cases e:i<S1.length
  ·obtain⟨i',hi',d,aq,hd,h2,h3⟩:=ih i e hl;refine⟨i',Nat.lt_of_lt_of_le hi' h1.pre.length_le,d,aq,hd,?_,fun x hx=>?_⟩
   ·rw[<-h1.pre.getElem hi'];exact h2
   rw[<-h1.pre.getElem e,<-h1.pre.getElem hi'];exact h3 x hx
  obtain⟨d,hd,h2,h3⟩:=h1.src i hi (by omega);refine⟨k,Nat.lt_of_lt_of_le hk h1.pre.length_le,d,by omega,hd,?_,fun x hx=>?_⟩
  ·rw[<-h1.pre.getElem hk];exact h2
  rw[<-h1.pre.getElem hk];exact h3 x hx
theorem Zh(K:Nat->Lit):0<dD K 256:=by
 have h:=E9 K 0 256 (by omega);omega
structure jO (w:World)(cD:Array Value)(K:Nat->Lit)(R:List (List Int))(ms:List Int)(C:Nat):Prop where
 cl:∀j,j<256->cD[j]?=some (.int .u8 (cls K j))
 nx:∃vN gs,cD[256]?=some vN/\ru w 0 [] vN C gs R
 dt:∃vK,cD[257]?=some vK/\w.ownsRow 0 3 1 vK ms.length (ints ms)
 rl:∀r∈R,r.length=C
theorem J1(w:World)(b:Nat)(cs:Array Value):Kept [] [b] w (w.setRow b cs):=fun k o hk _ hn=>by
 rw[setRow_other w b k cs (by simpa using hn)]
 exact hk
theorem jO.setRow{b:Nat}{jG:Array Value}(h:jO w cD K R ms C)(hb:St w 29 b jG):jO (w.setRow b cs) cD K R ms C:=by
 obtain⟨vN,gs,h1,h2⟩:=h.nx;obtain⟨vK,h3,h4⟩:=h.dt;have k:=J1 w b cs;refine⟨h.cl,⟨vN,gs,h1,⟨fI h2.own k (by simp) (fun g e hm=>eB h2.own hb (by decide) g e (List.mem_singleton.1 hm)),h2.len,fun i hi hi'=>⟨(h2.row i hi hi').1.kept k (by simp) (fun hm=>(h2.row i hi hi').1.ne hb (by decide) (List.mem_singleton.1 hm)),by simp⟩⟩⟩,
  ⟨vK,h3,fI h4 k (by simp) (fun g e hm=>eB h4 hb (by decide) g e (List.mem_singleton.1 hm))⟩,h.rl⟩
theorem jO.rows(h:jO w cD K R ms C):∃a c A,cD[256]?=some (.slice a R.length c)/\qp w a R.length A (fun _=>C) (fun _=>C) (fun i x=>(R.getD i []).getD x 0):=by
 obtain⟨vN,gs,h1,h2⟩:=h.nx;have hN:=h2.own;obtain⟨aN,cN,rfl⟩:=bP hN;refine⟨aN,cN,fun i=>some ⟨gs.getD i 0,0,none⟩,h1,fun h0=>?_⟩;obtain⟨g,rfl,_,hg,hc⟩:=eC hN h0;refine⟨g,0,rfl,hg,fun i hi=>?_⟩;have Nh:i<gs.length:=by rw[h2.len];exact hi
 obtain⟨hs,_⟩:=h2.row i Nh hi;have wM:=h.rl _ (getElem_mem hi);refine⟨?_,fun h1=>⟨gs.getD i 0,0,rfl,?_,fun j hj=>?_⟩⟩
 ·rw[zero_add,(hc i (by omega)).1];simp[getD_eq_getElem?_getD,Nh]
 ·have:=hs.lt;simpa [getD_eq_getElem?_getD,Nh] using this
 have hgi:gs.getD i 0=gs[i]:=by simp[getD_eq_getElem?_getD,Nh]
 rw[zero_add,hgi,hs.at_];have hj2:j<R[i].length:=by rw[wM];exact hj
 simp[ints,getD_eq_getElem?_getD,hi,hj2]
theorem jO.marks(h:jO w cD K R ms C):∃a c,cD[257]?=some (.slice a ms.length c)/\kY w a ms.length (fun i=>ms.getD i 0):=by
 obtain⟨vK,h3,h4⟩:=h.dt;obtain⟨a,c,rfl⟩:=bP h4;refine⟨a,c,h3,fun h0=>?_⟩;obtain⟨g,rfl,_,hg,hc⟩:=eC h4 h0;refine⟨g,0,rfl,hg,fun j hj=>?_⟩;rw[zero_add,(hc j (by omega)).1];simp[ints,getD_eq_getElem?_getD,hj]
def oZ(L:List En)(F:Nat)(mf:Nat->Int)(w:World)(e:Ending)(w':World):Prop:=
 ∃(cD:Array Value) (er:Int) (nm:List Nat) (L':List En) (f0:Nat) (s0:Nat->Bool) (k:Nat) (R:List (List Int)) (SS:List (Nat->Bool)),e=.returned (.tuple #[.agg cD,.int .i64 er])/\Below w.heap.size w w'/\Made L F nm L' f0 s0 k R SS/\cD.size=258/\(∀v∈cD.toList,v.oneCell'=true)/\
  ((er=6/\2000<SS.length/\cD=zC 29)\/(er=0/\SS.length=k/\k<=2000/\∃ms,jO w' cD (dQ L) R ms (rl (dQ L) 256).length/\ms.length=k/\∀j (h:j<SS.length) (h2:j<ms.length),bU (fun i=>mf (nm.getD i 0)) (fun x=>x<nm.length/\SS[j] x=true) ms[j]))
theorem mU.start{S:Nat->Prop}{jY:List (Nat->Bool)}(h:mU M S [] r jY)(h0:∃x,x<M/\S x):∃f,jY=[f]/\∀x,x<M->(f x=true↔S x):=by
 rcases h with ⟨h1,_,_⟩|⟨_,j,_,⟨hj,Tu⟩,rfl|⟨f,rfl,rfl,_⟩⟩
 ·obtain⟨x,hx,hs⟩:=h0;exact absurd hs (h1 x hx)
 ·simp at hj
 exact⟨f,rfl,fun x hx=>Tu x hx⟩
theorem mi.dfa{D:List ((Nat->Bool) × Nat)}{l:List Nat}{vL vK vN:Value}{gs:List Nat}
  (h:mi B bm gI bM m M C bn K L mk SS ms D R n cs l vL vS vK vN gs w) (hR:∀r∈R,r.length=C):
  ∃cD:Array Value,cD.size=258/\(∀v∈cD.toList,v.oneCell'=true)/\(∀j v,cD.toList[j]?=some v->w.cell? ((⟨bm,1,none⟩:Addr).add j)=some v)/\ms.length=SS.length/\jO w cD K R ms C:=by
 have Xa:=h.inv.len;have hN:=h.nx.own;have hK:=h.t.ok;obtain⟨aN,cN,rfl⟩:=bP hN;obtain⟨aK,cK,rfl⟩:=bP hK;refine⟨((range 256).map (fun j=>Value.int .u8 (cls K j))++[Value.slice aN R.length cN,Value.slice aK SS.length cK]).toArray,by simp,fun v hv=>?_,fun j v hj=>?_,Xa,⟨fun j hj=>?_,⟨.slice aN R.length cN,gs,by simp[getElem?_append],⟨gn hN (zero_le _),h.nx.len,fun i hi hi'=>⟨(h.nx.row i hi hi').1,by simp⟩⟩⟩,⟨.slice aK SS.length cK,by simp[getElem?_append],by rw[Xa];exact gn hK (zero_le _)⟩,hR⟩⟩
 ·rcases List.mem_append.1 hv with hv|hv
  ·obtain⟨j,_,rfl⟩:=List.mem_map.1 hv;rfl
  simp only[List.mem_cons,List.not_mem_nil,or_false] at hv;rcases hv with rfl|rfl <;> rfl
 ·have e:(⟨bm,1,none⟩:Addr).add j=⟨bm,1+j,none⟩:=by unfold Addr.add;split <;> simp_all
  have hj2:j<258:=by
   have:=(List.getElem?_eq_some_iff.1 hj).1;simpa using this
  rw[e,h.a.r.other (1+j) (by omega)];by_cases e1:j<256
  ·rw[h.cl j e1,<-hj];simp[getElem?_append,e1]
  by_cases e2:j=256
  ·subst e2;rw[show 1+256=257 from rfl,h.cN,<-hj];simp[getElem?_append]
  have e3:j=257:=by omega
  subst e3;rw[show 1+257=258 from rfl,h.t.cK,<-hj];simp[getElem?_append]
 simp[getElem?_append,hj]
theorem WI(kf bV:Nat)(mf:Nat->Int)(S0 T:Int)(F:Nat)(L:List En)(a:Option Addr)(n c:Nat)(w:World)(HC:∀(args:Array Value) (W:World),(callFunc kf args).run prog W=.ok (.enter kf args) W)
  (HM:∀W,Below w.heap.size w W->∀x,x<=9223372036854775807->Calls prog kf #[.int .i64 ((x:Nat):Int),.pointer (some ⟨bV,0,none⟩)] W fun e w'=>e=.returned (.int .i64 (mf x))/\w'=W) (D5:∀x,-1<=mf x)
  (hL:gV w a (L.map En.z)) (hn:L.length=n) (dG:n<=6400) (pv:(cH (L.map En.z)).length<=1000) (hF:F<=9223372036854775807) (hE:∀e∈L,e.f<=9223372036854775807/\e.t<=9223372036854775807) (hr:sc S0 (L.map En.z) (F:Int) T=true):
  Calls prog 37 #[.agg #[.int .i64 S0,.slice a n c,.int .i64 (F:Int),.int .i64 T],.func (.func kf) #[] #[.pointer (some ⟨bV,0,none⟩)]] w (oZ L F mf w):=by
 have KP:=hid (fun (W:World) (hb:Below w.heap.size w W)=>zkA kf bV mf S0 T F L a n c W HC (fun W' hb'=>HM W' (hb.trans (hb'.mono hb.size))) (hL.below hb) hn dG pv hF hE);have HRi:Hid (∀(W:World),Below w.heap.size w W->Calls prog 64 #[.agg #[.int .i64 S0,.slice a n c,.int .i64 (F:Int),.int .i64 T]] W fun e w'=>e=.returned (.bool true)/\Below W.heap.size W w'):=fun W hb=>by
  have:=zlc S0 (F:Int) T a n c (L.map En.z) W (hL.below hb) (by rw[length_map];exact hn) (by unfold maxLen;omega);rwa [hr] at this
 have HH:=ξ hn D5 hr;clear HC HM hL hn hE hr D5;go_in;go_wp2_with (refine og rfl 29 rfl (zC 29) (lN _) ?_);go_upto_region 1 with fail;have h2:St ((w.alloc (.cells #[.int .i64 S0,.slice a n c,.int .i64 (F:Int),.int .i64 T] 55)).alloc (.cells (zC 29) 29)) 55 w.heap.size #[.int .i64 S0,.slice a n c,.int .i64 (F:Int),.int .i64 T]:=(St.new w _ _).alloc _;have h4:St ((w.alloc (.cells #[.int .i64 S0,.slice a n c,.int .i64 (F:Int),.int .i64 T] 55)).alloc (.cells (zC 29) 29)) 29 (w.heap.size+1) (zC 29):=by
  have:=St.new (w.alloc (.cells #[.int .i64 S0,.slice a n c,.int .i64 (F:Int),.int .i64 T] 55)) 29 (zC 29);simpa using this
 have lF:Below w.heap.size w ((w.alloc (.cells #[.int .i64 S0,.slice a n c,.int .i64 (F:Int),.int .i64 T] 55)).alloc (.cells (zC 29) 29)):=(al w _).trans ((al _ _).mono (by simp));generalize (w.alloc (.cells #[.int .i64 S0,.slice a n c,.int .i64 (F:Int),.int .i64 T] 55)).alloc (.cells (zC 29) 29)=W0 at h2 h4 lF⊢;obtain⟨b4,fp⟩:∃b4,w.heap.size+1=b4:=⟨_,rfl⟩
 rw[fp] at h4;rw[fp];obtain⟨r0,r1,r2,r3⟩:=h2.bZ;have H0:=ψ h2 h4 lF fp;have wC:=hid (HRi.out W0 lF);clear h2 h4 lF fp;go_wp2_with fail;refine wC.out.mono ?_;rintro e w1 ⟨rfl,mC⟩;have ka:Below w.heap.size w w1:=H0.out.2.2.1.trans (mC.mono H0.out.2.2.1.size);have s2:=H0.out.1.ab mC;have H1:=ξ s2 (H0.out.2.1.ab mC) ka;have oB:=hid (KP.out w1 ka);clear r0 r1 r2 r3;obtain⟨r0,r1,r2,r3⟩:=s2.bZ;clear mC ka s2 wC HRi KP;go_wp2_with fail;refine oB.out.mono ?_;rintro e w2 ⟨bn,f0,gM,cM,gF,cF,gS,cS,nm,L',aF,aS,Di,E8,csA,rfl,mX,QR,sH,tm,tV,Lc,De,jC,rk,J3,NN,jQ⟩;obtain⟨m,hm⟩:∃m,(nm.length+7) / 8=m:=⟨_,rfl⟩
 have hlL:L.length=L'.length:=by rw[De,length_map]
 have TH:L'.length<=6400:=by have:=HH.out.1;omega
 have JS:nm.length<=12900:=by have:=HH.out.1;omega
 have JN:=hid (zhc (dQ L) L' (fun i=>mf (nm.getD i 0)) csA bn gM nm.length cM m (rl (dQ L) 256).length w2 tV tm.gW JS hm);have na:=hid (Zz QR (Zz sH (Zz tm (Zz Lc (Zz De (Zz jC (Zz rk (Zz J3 (Zz jQ hm)))))))));have H2:=ζ (H1.out.2.1.ab mX) (H1.out.2.2.trans (mX.mono H1.out.2.2.size));have bz:bn<w2.heap.size:=QR.gG.1;have sX:=mX.size;have CA:w.heap.size<=w2.heap.size:=by have:=H1.out.2.2.size;omega
 clear mX QR sH tm tV Lc De jC rk J3 jQ hm NN hlL oB r0 r1 r2 r3;go_wp2_with fail;refine JN.out.mono ?_;rintro e w3 ⟨bm,gI,bM,cK,rfl,G4,pS⟩;have c0:w3.cell? ⟨bm,0,none⟩=some (.pointer (some ⟨bn,0,none⟩)):=(G4.a.r.other 0 (by decide)).trans G4.c0;have c1:w3.cell? ⟨bn,256,none⟩=some (.int .i64 (f0:Int)):=(pS.cell (p:=⟨bn,256,none⟩) bz).trans na.out.2.2.2.1;have dM:=pS.size;have E6:=hid (G4.ab (al w3 (.cells #[.int .i64 (f0:Int)] 3)));have uk:=hid pS;have qK:=G4.x8;have Eb:f0<nm.length:=(List.getElem?_eq_some_iff.1 na.out.2.2.2.2.2.2.2.1).1;have DB:Below w2.heap.size w2 (w3.alloc (.cells #[.int .i64 (f0:Int)] 3)):=pS.trans ((al w3 _).mono dM);have pP:=hid (Yd (w3.alloc (.cells #[.int .i64 (f0:Int)] 3)) w2.heap.size (jw bm gI bM (.slice none 0 0) (.slice none 0 0) (.slice none 0 0)) bm gI m nm.length bM bn gM cM gF cF aF Di L' (na.out.1.below DB) na.out.2.2.2.2.2.2.1 (by omega) cK (fun i=>mf (nm.getD i 0)) (na.out.2.2.1.below DB) (fun i _=>HH.out.2.1 _) E6.out.c0 (by omega) na.out.2.2.2.2.2.2.2.2.2 _ [] (.slice none 0 0) (.slice none 0 0) (.slice none 0 0) 0 [] [] [] (by simp) (by omega) (by simp)
  (some ⟨w3.heap.size,0,none⟩) 1 1 [f0] rfl (by omega) (fun x hx=>by rw[List.mem_singleton.1 hx];exact Eb) (fun W hW h0=>by
   have hg:w3.heap.size<(w3.alloc (.cells #[.int .i64 (f0:Int)] 3)).heap.size:=by simp
   have hn:w3.heap.size∉jw bm gI bM (.slice none 0 0) (.slice none 0 0) (.slice none 0 0):=fun hm=>Nat.lt_irrefl _ (qK _ hm)
   have h1:=hW _ _ (Array.getElem?_eq_getElem hg) (fun _ _ _ _=>by simp) hn
   refine⟨w3.heap.size,0,rfl,(Array.getElem?_eq_some_iff.1 h1).1,fun j hj=>?_⟩
   obtain rfl:j=0:=by simp at hj;omega
   rw[hW.nE hn hg]
   exact (St.new w3 3 #[.int .i64 (f0:Int)]).at_ 0) _ E6.out.a.r E6.out.t E6.out.inv)
 clear G4 pS qK DB JN;go_wp2_with fail;refine pP.out.mono ?_;rintro e w5 rA;obtain⟨r,SS1,ms1,D1,n1,cs1,l1,Nj,IX,vK1,rfl,Aq,hAdd,_,eu,_⟩:=E6.out.close rA ⟨f0,Eb,.base (by simp)⟩;obtain⟨s0,rfl,oh⟩:=hAdd.start ⟨f0,Eb,.base (by simp)⟩;have dz:Hid (∀x,x<nm.length->(s0 x=true↔FR L' (fun y=>y=f0) x)):=fun x hx=>(oh x hx).trans (FR.congr (fun y=>by simp) x)
 have B8:=hid Aq;have LI:=hid ((uk.out.trans ((al w3 _).mono dM)).trans eu);clear rA Aq hAdd eu oh c0 c1 pP E6;have hlC:(rl (dQ L) 256).length<=256:=by rw[zB];exact NJ _ _
 have hCp:0<(rl (dQ L) 256).length:=by
  rw[zB];exact Zh _
 go_wp2;go_loopw [7] (fun v wq=>∃(k:Nat) (SS:List (Nat->Bool)) (ms:List Int) (D:List ((Nat->Bool) × Nat)) (R:List (List Int)) (nn:Nat) (cs:Array Value) (l:List Nat) (vL vS vK vN:Value) (gs:List Nat),v=.int .i64 k/\k<=SS.length/\SS.length<=2000/\
  Hid (mi w2.heap.size bm gI bM m nm.length (rl (dQ L) 256).length bn (dQ L) L' (fun i=>mf (nm.getD i 0)) SS ms D R nn cs l vL vS vK vN gs wq)/\Hid (iW nm.length (rl (dQ L) 256).length (EU L' nm.length (qg (dQ L))) [s0] k R SS)/\Hid (Below w2.heap.size w2 wq)) (fun v _=>2001-(intOf v).toNat)
 ·exact⟨0,[s0],ms1,D1,[],n1,cs1,l1,Nj,IX,vK1,_,[],rfl,by simp,by simp,B8,iW.zero,LI⟩
 clear B8 LI;obtain⟨k,SS,ms,D,R,nn,cs,l,vL,vS,vK,vN,gs,rfl,hk,hS,HM,Nb,HB⟩:=hrel;obtain⟨aS1,cS1,rfl⟩:=bP HM.out.t.os;have d0:wr.cell? ⟨bm,259,none⟩=some (.slice aS1 SS.length cS1):=(HM.out.a.r.other 259 (by decide)).trans HM.out.t.cS;have hRk:=Nb.out.len;have ij:St wr 29 b4 (zC 29):=H2.out.1.below HB.out H2.out.1.lt;by_cases aq:k<SS.length
 ·have hk63:k<3000:=by omega
  have HLd:=hid (zol w2.heap.size bm gI bM m nm.length (rl (dQ L) 256).length bn gM cM gF cF gS cS nn k aF aS Di E8 (qg (dQ L)) (dQ L) L' (fun i=>mf (nm.getD i 0)) wr (na.out.1.below HB.out) (na.out.2.1.below HB.out) (na.out.2.2.1.below HB.out) na.out.2.2.2.2.2.2.1 TH (fun i _=>HH.out.2.1 _) (by rw[<-zB]) hlC JS na.out.2.2.2.2.2.2.2.2.2 SS ms D R cs l vL _ vK vN gs HM.out aq (by omega) (by omega));have O4:=hid aq;obtain⟨q,hq⟩:∃q,SS.length=q:=⟨_,rfl⟩
  have i1:(k:Int)<q:=by omega
  rw[hq] at d0;have HQ:=hid hq;clear hq hk;go_wp2_with fail;refine HLd.out.mono ?_;rintro e w6 ⟨row,BQ,TT,D2,n2,RF,l2,rq,Ge,GN,vN2,gs2,rfl,qj,EC,qD⟩;obtain⟨Se,cS2,rfl⟩:=bP qj.t.os;have d1:w6.cell? ⟨bm,259,none⟩=some (.slice Se BQ.length cS2):=(qj.a.r.other 259 (by decide)).trans qj.t.cS;have I6:Hid (iW nm.length (rl (dQ L) 256).length (EU L' nm.length (qg (dQ L))) [s0] (k+1) (R++[row]) BQ):=iW.succ Nb.out O4.out EC;have tK:=hid qj;have Ay:=hid (HB.out.trans qD);have Ew:St w6 29 b4 (zC 29):=H2.out.1.below Ay.out H2.out.1.lt;have lb:=hid EC.pre.length_le;obtain⟨q2,hq2⟩:∃q2,BQ.length=q2:=⟨_,rfl⟩
  have rb:=hid hq2;rw[hq2] at d1;clear qj EC qD hq2 d0 ij HLd;by_cases lz:2000<q2
  ·have i2:(2000:Int)<q2:=(by omega);have HF:Hid (oZ L F mf w (.returned (.tuple #[.agg (zC 29),.int .i64 6])) (w6.setRow b4 (zC 29))):=by
    refine⟨zC 29,6,nm,L',f0,s0,k+1,R++[row],BQ,rfl,kZ (H2.out.2.trans (Ay.out.mono CA)) (by have:=H0.out.2.2.2;omega) _,⟨na.out.2.2.2.2.1,na.out.2.2.2.2.2.1,na.out.2.2.2.2.2.2.1,na.out.2.2.2.2.2.2.2.1,na.out.2.2.2.2.2.2.2.2.1,dz.out,I6.out⟩,ia,zS,inl ⟨rfl,by rw[rb.out];exact lz,rfl⟩⟩
   have ep:=hid Ew;clear Ew;go_wp2_with (first|(refine AH rfl 29 _ rfl #[] ?hp (.agg (zC 29)) ?hb ?_)|(refine lO rfl 29 _ _ rfl b4 29 (zC 29) (zC 29) rfl rfl ep.out rfl (by rw[fH,ia]) zS ?_))
   case hb=>exact GG _
   refine bodyPost_ret (xu rfl _ _ b4 (zC 29) _ rfl ep.out.setRow.part underlying29 rfl (by rw[fH,ia])) rfl ?_;exact HF.out
  have i2:¬((2000:Int)<q2):=by omega
  clear Ew;go_wp2;go_roundw
  ·exact⟨k+1,BQ,TT,D2,R++[row],n2,RF,l2,rq,_,GN,vN2,gs2,by go_num,by have:=lb.out;have:=O4.out;omega,by have:=rb.out;omega,tK,I6,Ay⟩
  simp[intOf];have:=O4.out;omega
 have V4:k=SS.length:=by omega
 obtain⟨cD,mS,C5,dB,ma,hD⟩:=HM.out.dfa (fun r hr=>Nb.out.tC r hr);have HF:Hid (oZ L F mf w (.returned (.tuple #[.agg cD,.int .i64 0])) (wr.setRow b4 cD)):=by
  refine⟨cD,0,nm,L',f0,s0,k,R,SS,rfl,kZ (H2.out.2.trans (HB.out.mono CA)) (by have:=H0.out.2.2.2;omega) _,⟨na.out.2.2.2.2.1,na.out.2.2.2.2.2.1,na.out.2.2.2.2.2.2.1,na.out.2.2.2.2.2.2.2.1,na.out.2.2.2.2.2.2.2.2.1,dz.out,Nb.out⟩,mS,C5,inr ⟨rfl,V4.symm,by omega,ms,hD.setRow ij,by omega,HM.out.inv.dt⟩⟩
 have ep:=hid ij;have HX:=ξ mS C5 dB;have i1:¬((k:Int)<(SS.length:Int)):=by omega
 clear ij hD ma mS C5 dB V4 aq hk;go_wp2_with (first|(refine p5 rfl 29 _ rfl ⟨bm,1,none⟩ rfl cD _ HX.out.2.2 underlying29 rfl (by rw[fH,HX.out.1]) ?_)|(refine lO rfl 29 _ _ rfl b4 29 (zC 29) cD rfl rfl ep.out (by rw[ia,HX.out.1]) (by rw[fH,HX.out.1]) HX.out.2.1 ?_));refine bodyPost_ret (xu rfl _ _ b4 cD _ rfl ep.out.setRow.part underlying29 rfl (by rw[fH,HX.out.1])) rfl ?_;exact HF.out
theorem zkC(bV:Nat)(a:Option Addr)(n c:Nat)(z:Nat->Int)(hn:n<=9223372036854775807)(w:World)(hS:St w 27 bV #[.slice a n c])(hz:kY w a n z)(x:Nat)(hx:x<=9223372036854775807):
  Calls prog 38 #[.int .i64 (x:Int),.pointer (some ⟨bV,0,none⟩)] w fun e w'=>e=.returned (.int .i64 (iC n z x))/\w'=w:=by
 have c0:w.cell? ⟨bV,0,none⟩=some (.slice a n c):=hS.at_ 0;by_cases aq:x<n
 ·obtain⟨g,off,rfl,_,q⟩:=hz (by omega);have d0:=q x aq;have i1:(x:Int)<n:=by omega
  have HM:Hid (iC n z x=max (z x) (-1)):=by
   show _=_;unfold iC;rw[if_pos aq];split <;> omega
  generalize iC n z x=r at HM;generalize z x=y at d0 HM;clear q;go_in;go_wp2;go_ret;exact⟨by rw[HM.out];rfl,rfl⟩
 have i1:¬((x:Int)<n):=by omega
 have HM:Hid (iC n z x=-1):=by show _=_;simp[iC,aq]
 go_in;go_wp2;go_ret;exact⟨by rw[HM.out];rfl,rfl⟩
theorem ziq(bV:Nat)(S F:Int)(T:Nat)(a:Option Addr)(n c:Nat)(w:World)(hS:St w 55 bV #[.int .i64 S,.slice a n c,.int .i64 F,.int .i64 (T:Int)])(x:Nat)(hx:x<=9223372036854775807)(hT:T<=9223372036854775807):
  Calls prog 49 #[.int .i64 (x:Int),.pointer (some ⟨bV,0,none⟩)] w fun e w'=>e=.returned (.int .i64 (if x=T then 0 else -1))/\w'=w:=by
 obtain⟨c0,c1,c2,c3⟩:=hS.bZ;by_cases e:x=T
 ·rw[if_pos e];subst e;go_in;go_wp2;go_ret;exact⟨rfl,rfl⟩
 rw[if_neg e];have i1:¬((x:Int)=T):=by omega
 go_in;go_wp2;go_ret;exact⟨rfl,rfl⟩
theorem oZ.put{W0:World}{er:Int}{f0:Nat}{b4:Nat}
  (hB:Below w.heap.size w W0) (h1:Below W0.heap.size W0 w') (h2:Made L F nm L' f0 s0 k R SS) (h3:cD.size=258) (h4:∀v∈cD.toList,v.oneCell'=true)
  (h5:(er=6/\2000<SS.length/\cD=zC 29)\/(er=0/\SS.length=k/\k<=2000/\∃ms,jO w' cD (dQ L) R ms (rl (dQ L) 256).length/\ms.length=k/\∀j (h:j<SS.length) (h2:j<ms.length),bU (fun i=>mf (nm.getD i 0)) (fun x=>x<nm.length/\SS[j] x=true) ms[j]))
  (bY:St w' 29 b4 (zC 29)) (fp:w.heap.size<=b4):oZ L F mf w (.returned (.tuple #[.agg cD,.int .i64 er])) (w'.setRow b4 cD):=by
 refine⟨cD,er,nm,L',f0,s0,k,R,SS,rfl,kZ (hB.trans (h1.mono hB.size)) fp _,h2,h3,h4,?_⟩;rcases h5 with h|⟨e1,e2,e3,ms,h6,h7,h8⟩
 ·exact inl h
 exact inr ⟨e1,e2,e3,ms,h6.setRow bY,h7,h8⟩
theorem zql(S0 T:Int)(F:Nat)(L:List En)(a:Option Addr)(n c:Nat)(am:Option Addr)(nM cM:Nat)(z:Nat->Int)(w:World)(hz:kY w am nM z)(hnM:nM<=9223372036854775807)
  (hL:gV w a (L.map En.z)) (hn:L.length=n) (dG:n<=6400) (pv:(cH (L.map En.z)).length<=1000) (hF:F<=9223372036854775807) (hE:∀e∈L,e.f<=9223372036854775807/\e.t<=9223372036854775807) (hr:sc S0 (L.map En.z) (F:Int) T=true):
  Calls prog 21 #[.agg #[.int .i64 S0,.slice a n c,.int .i64 (F:Int),.int .i64 T],.slice am nM cM] w (oZ L F (iC nM z) w):=by
 have fJ:∀(fn:Fn) (first cap:Array Value) (w:World),(makeFunc fn first cap).run prog w=.ok (.func fn first cap) w:=fun _ _ _ _=>rfl
 have HD:=hid (fun (W:World) (hb:Below w.heap.size w W) (bV:Nat) (hS:St W 27 bV #[.slice am nM cM])=>WI 38 bV (iC nM z) S0 T F L a n c W zfj.1 (fun W' hb' x hx=>zkC bV am nM cM z hnM W' (hS.ab hb') (hz.below (hb.trans (hb'.mono hb.size))) x hx) (fun x=>by unfold iC;split <;> (try split) <;> omega) (hL.below hb) hn dG pv hF hE hr);clear hL hn hE hr hz;go_in;go_wp2_with (refine og rfl 29 rfl (zC 29) (lN _) ?_);go_upto_region 1 with fail;obtain⟨W0,qC⟩:∃W0,((w.alloc (.cells #[.int .i64 S0,.slice a n c,.int .i64 (F:Int),.int .i64 T] 55)).alloc (.cells #[.slice am nM cM] 27)).alloc (.cells (zC 29) 29)=W0:=⟨_,rfl⟩
 have k1:=al w (.cells #[.int .i64 S0,.slice a n c,.int .i64 (F:Int),.int .i64 T] 55);have k2:=al (w.alloc (.cells #[.int .i64 S0,.slice a n c,.int .i64 (F:Int),.int .i64 T] 55)) (.cells #[.slice am nM cM] 27);have k3:=al ((w.alloc (.cells #[.int .i64 S0,.slice a n c,.int .i64 (F:Int),.int .i64 T] 55)).alloc (.cells #[.slice am nM cM] 27)) (.cells (zC 29) 29);have h2:St W0 55 w.heap.size #[.int .i64 S0,.slice a n c,.int .i64 (F:Int),.int .i64 T]:=by rw[<-qC];exact ((St.new w _ _).ab k2).ab k3
 have h3:St W0 27 (w.heap.size+1) #[.slice am nM cM]:=by
  rw[<-qC];have:=(St.new (w.alloc (.cells #[.int .i64 S0,.slice a n c,.int .i64 (F:Int),.int .i64 T] 55)) 27 #[.slice am nM cM]).ab k3;simpa using this
 have h4:St W0 29 (w.heap.size+1+1) (zC 29):=by
  rw[<-qC];have:=St.new ((w.alloc (.cells #[.int .i64 S0,.slice a n c,.int .i64 (F:Int),.int .i64 T] 55)).alloc (.cells #[.slice am nM cM] 27)) 29 (zC 29);simpa using this
 have lF:Below w.heap.size w W0:=by rw[<-qC];exact (k1.trans (k2.mono (by simp))).trans (k3.mono (by simp;omega))
 try rw[qC]
 obtain⟨b4,fp⟩:∃b4,w.heap.size+1+1=b4:=⟨_,rfl⟩
 obtain⟨b3,dM⟩:∃b3,w.heap.size+1=b3:=⟨_,rfl⟩
 rw[fp] at h4;rw[dM] at h3;rw[fp,dM];obtain⟨r0,r1,r2,r3⟩:=h2.bZ;have H0:=ξ h4 lF fp;have K0:=hid (HD.out W0 lF b3 h3);clear h2 h3 h4 lF fp dM qC k1 k2 k3;go_wp2_with fail;refine K0.out.mono ?_;rintro e w1 ⟨cD,er,nm,L',f0,s0,k,R,SS,rfl,h1,h2,h3,h4,h5⟩;have bY:=H0.out.1.ab h1;have HF:=hid (oZ.put H0.out.2.1 h1 h2 h3 h4 h5 bY (by have:=H0.out.2.2;omega));have ep:=hid bY;have HX:=ζ h3 h4;clear h1 h2 h3 h4 h5 bY HD K0 r0 r1 r2 r3;go_wp2_with (refine lO rfl 29 _ _ rfl b4 29 (zC 29) cD rfl rfl ep.out (by rw[ia,HX.out.1]) (by rw[fH,HX.out.1]) HX.out.2 ?_);refine bodyPost_ret (xu rfl _ _ b4 cD _ rfl ep.out.setRow.part underlying29 rfl (by rw[fH,HX.out.1])) rfl ?_;exact HF.out
theorem zqm(S0:Int)(F T:Nat)(L:List En)(a:Option Addr)(n c:Nat)(w:World)
  (hL:gV w a (L.map En.z)) (hn:L.length=n) (dG:n<=6400) (pv:(cH (L.map En.z)).length<=1000) (hF:F<=9223372036854775807) (hT:T<=9223372036854775807) (hE:∀e∈L,e.f<=9223372036854775807/\e.t<=9223372036854775807) (hr:sc S0 (L.map En.z) (F:Int) (T:Int)=true):
  Calls prog 31 #[.agg #[.int .i64 S0,.slice a n c,.int .i64 (F:Int),.int .i64 (T:Int)]] w (oZ L F (fun x=>if x=T then 0 else -1) w):=by
 have fJ:∀(fn:Fn) (first cap:Array Value) (w:World),(makeFunc fn first cap).run prog w=.ok (.func fn first cap) w:=fun _ _ _ _=>rfl
 have HD:=hid (fun (W:World) (hb:Below w.heap.size w W) (bV:Nat) (hS:St W 55 bV #[.int .i64 S0,.slice a n c,.int .i64 ((F:Nat):Int),.int .i64 ((T:Nat):Int)])=>WI 49 bV (fun x=>if x=T then 0 else -1) S0 ((T:Nat):Int) F L a n c W zfj.2 (fun W' hb' x hx=>ziq bV S0 ((F:Nat):Int) T a n c W' (hS.ab hb') x hx hT) (fun x=>by split <;> omega) (hL.below hb) hn dG pv hF hE hr);clear hL hn hE hr;go_in;go_wp2_with (refine og rfl 29 rfl (zC 29) (lN _) ?_);go_upto_region 1 with fail;have h2:St ((w.alloc (.cells #[.int .i64 S0,.slice a n c,.int .i64 (F:Int),.int .i64 (T:Int)] 55)).alloc (.cells (zC 29) 29)) 55 w.heap.size #[.int .i64 S0,.slice a n c,.int .i64 (F:Int),.int .i64 (T:Int)]:=(St.new w _ _).alloc _;have h4:St ((w.alloc (.cells #[.int .i64 S0,.slice a n c,.int .i64 (F:Int),.int .i64 (T:Int)] 55)).alloc (.cells (zC 29) 29)) 29 (w.heap.size+1) (zC 29):=by
  have:=St.new (w.alloc (.cells #[.int .i64 S0,.slice a n c,.int .i64 (F:Int),.int .i64 (T:Int)] 55)) 29 (zC 29);simpa using this
 have lF:Below w.heap.size w ((w.alloc (.cells #[.int .i64 S0,.slice a n c,.int .i64 (F:Int),.int .i64 (T:Int)] 55)).alloc (.cells (zC 29) 29)):=(al w _).trans ((al _ _).mono (by simp));generalize (w.alloc (.cells #[.int .i64 S0,.slice a n c,.int .i64 (F:Int),.int .i64 (T:Int)] 55)).alloc (.cells (zC 29) 29)=W0 at h2 h4 lF⊢;obtain⟨b4,fp⟩:∃b4,w.heap.size+1=b4:=⟨_,rfl⟩
 rw[fp] at h4;rw[fp];obtain⟨r0,r1,r2,r3⟩:=h2.bZ;have H0:=ξ h4 lF fp;have K0:=hid (HD.out W0 lF w.heap.size h2);clear h2 h4 lF fp;go_wp2_with fail;refine K0.out.mono ?_;rintro e w1 ⟨cD,er,nm,L',f0,s0,k,R,SS,rfl,h1,h2,h3,h4,h5⟩;have bY:=H0.out.1.ab h1;have HF:=hid (oZ.put (mf:=fun x=>if x=T then 0 else -1) H0.out.2.1 h1 h2 h3 h4 h5 bY (by have:=H0.out.2.2;omega));have ep:=hid bY;have HX:=ζ h3 h4;clear h1 h2 h3 h4 h5 bY HD K0 r0 r1 r2 r3;go_wp2_with (refine lO rfl 29 _ _ rfl b4 29 (zC 29) cD rfl rfl ep.out (by rw[ia,HX.out.1]) (by rw[fH,HX.out.1]) HX.out.2 ?_);refine bodyPost_ret (xu rfl _ _ b4 cD _ rfl ep.out.setRow.part underlying29 rfl (by rw[fH,HX.out.1])) rfl ?_;exact HF.out
theorem bE.qb{ts te sz:Nat}{v' u:Value}{vs:Nat->Value}{len:Nat->Nat}(h:bE w B ts te sz v M vs len xs)(ht:te≠ts)(hu:w.ownsRow B te sz u (len M) (xs M))(hs:∀i,i<M->∀b,(vs i).ownBlock=some b->u.ownBlock≠some b)
  (ho:w'.ownsRow B ts 1 v' (M+1) ((range M).map vs++[u])) (hg:w.grownBy w' v.ownBlock):bE w' B ts te sz v' (M+1) (fun j=>if j=M then u else vs j) len xs:=by
 refine⟨?_,fun i hi=>?_,fun i j hi hj hij b=>?_⟩
 ·have e:(range (M+1)).map (fun j=>if j=M then u else vs j)=(range M).map vs++[u]:=by
   rw[List.range_succ,List.map_append];congr 1
   ·refine(List.map_congr_left fun j hj=>?_);have:j<M:=(by simpa using hj);rw[if_neg (by omega)]
   simp
  rw[e];exact ho
 ·by_cases e:i=M
  ·subst e;simp only[if_pos rfl];exact rF hu hg (fun b e1 e2=>iB hu h.own ht b e1 e2.symm)
  simp only[if_neg e];exact rF (h.row i (by omega)) hg (fun b e1 e2=>iB (h.row i (by omega)) h.own ht b e1 e2.symm)
 by_cases e1:i=M
 ·by_cases e2:j=M
  ·omega
  simp only[if_pos e1,if_neg e2];intro e3 e4;exact hs j (by omega) b e4 e3
 by_cases e2:j=M
 ·simp only[if_neg e1,if_pos e2];exact hs i (by omega) b
 simp only[if_neg e1,if_neg e2];exact h.sep i j (by omega) (by omega) hij b
theorem lZ{s:Nat}{xs:List Value}(ho:w.ownsRow B t s v n xs):∀g,v.ownBlock=some g->g<w.heap.size:=fun g e=>by
 obtain⟨c,fz,hc⟩:=qi ho g e
 exact (Array.getElem?_eq_some_iff.1 hc).1
section
variable {W0 : World}{z N C : Nat}{rp : List Nat}{vP vR : Value}{SS : List (Nat → Bool)}{vs : Nat → Value}{vN : Value}{R : List (List Int)}{ws : Nat → Value}{vO : Value}{ms : List Int}{vW : Value}{row : List Int}{w : World}
end
def vw:Value->Option Addr
 | .slice a _ _=>a
 | _=>none
def xq:Value->Nat
 | .slice _ _ c=>c
 | _=>0
theorem bE.zs{ws:Nat->Value}(h:bE w B 27 3 1 (.slice a k c) k ws (fun _=>C) (fun j=>ints (R.getD j [])))(hk:R.length=k)(hl:∀r∈R,r.length=C):
  qp w a k (fun i=>vw (ws i)) (fun i=>xq (ws i)) (fun _=>C) (fun i x=>(R.getD i []).getD x 0):=by
 intro h0;obtain⟨g,rfl,_,hg,hc⟩:=eC h.own h0;refine⟨g,0,rfl,hg,fun i hi=>?_⟩;obtain⟨ai,ci,e⟩:=bP (h.row i hi);have hr:=h.row i hi;refine⟨?_,fun h1=>?_⟩
 ·rw[zero_add,(hc i (by omega)).1];simp[hi,e,vw,xq]
 rw[e] at hr;obtain⟨g2,e2,_,yR,fB⟩:=eC hr h1;refine⟨g2,0,by simp[e,vw,e2],yR,fun j hj=>?_⟩;rw[zero_add,(fB j (by simpa using hj)).1];have lI:i<R.length:=by omega
 have hj2:j<R[i].length:=by rw[hl _ (getElem_mem lI)];exact hj
 simp[ints,getD_eq_getElem?_getD,lI,hj2]
theorem PX{l:List Int}(h:w.ownsRow B 3 1 (.slice a n c) n (ints l))(hl:l.length=n):kY w a n (fun i=>l.getD i 0):=by
 intro h0;obtain⟨g,rfl,_,hg,hc⟩:=eC h h0;refine⟨g,0,rfl,hg,fun j hj=>?_⟩;rw[zero_add,(hc j (by omega)).1];have hj2:j<l.length:=by omega
 simp[ints,getD_eq_getElem?_getD,hj2]
