import Derived.Test.YtkkhakmdjinenaaGreatZRefClass
import Derived.Laws.CopyRow
import Derived.Laws.ResultCell
set_option linter.all false
set_option maxHeartbeats 2000000
set_option maxRecDepth 100000
open Go.Lib (hid)
namespace Go.Proofs.YtkkhakmdjinenaaGreat
open Go.RowKit Go.Proofs.Tryz
open List (getD_eq_getElem?_getD getElem?_append getElem?_map getElem?_range getElem?_toArray getElem_mem length_map mem_append mem_singleton range replicate take_length)
open Nat (le_refl le_trans zero_add zero_le)
open Instr (build makeFunc sureAddr)
open Or (inl inr)
open Option (map_some)
open _root_.Array (getElem?_setIfInBounds_ne getElem?_toList)
open World (news_of_block ownsRow_nil)
open Sem (run_bind run_pure)
open Result (andThen_ok)
open Value (oneCell' ownBlock)
open Act (put)
variable {B C F M Mf Mm Ms bM bm bn c g gI i j k m n t x y:Nat}{K:Nat->Lit}{L L':List En}{Ls lc nm:List Nat}{P:Program}{R:List (List Int)}{SS:List (Nat->Bool)}{a:Option Addr}{cD cs csA:Array Value}{dt ms:List Int}{ev:Operand->Value}{fv sv:Nat->Value}{mf mk:Nat->Int}{ops:Array Oper}{r:Int}{s0:Nat->Bool}{v vF vM vS:Value}{w w':World}{xs:Nat->List Value}
def rC(L:List Eg)(i:Nat):Nat->Bool:=(cG L).getD i (fun _=>false)
theorem zn3{L:List Eg}(h:w.ownsRow B 89 4 (.slice a n c) n (zl (cG L)))(hn:(cG L).length=n):lN w a n (rC L):=by
 intro h0;obtain⟨g,e,_,hg,hc⟩:=ek h (by omega);refine⟨g,0,e,hg,fun i hi=>?_⟩;have tJ:i<(cG L).length:=by omega
 have hse:rC L i=(cG L)[i]:=by simp[rC,getD_eq_getElem?_getD,List.getElem?_eq_getElem tJ]
 have rd:∀j,j<4->w.cell? ⟨g,i*4+j,none⟩=(je (rC L i))[j]?:=fun j hj=>by rw[(hc _ (by omega)).1,zpW _ i tJ j hj,hse]
 simp only[zero_add];exact⟨rd 0 (by omega),rd 1 (by omega),rd 2 (by omega),rd 3 (by omega)⟩
open Go.Maps Go.WideElems Go.ChangeMaps Go.MapKept
def dM(L:List En):Nat->Lit:=jT (rC (L.map En.z)) (cG (L.map En.z)).length
def U4(K:Nat->Lit)(w:World)(e:Ending)(w':World):Prop:=
 ∃(b7 b8 bL:Nat) (aR:Option Addr) (cR:Nat),e=.returned (.func (.func 134) #[] #[.pointer (some ⟨b8,0,none⟩),.pointer (some ⟨b7,0,none⟩)])/\(∀P,vZ w.heap.size b7 b8 bL 0 (rl K 256) aR cR P [] w')/\Below w.heap.size w w'/\w.heap.size<=bL
theorem zmo(K:Nat->Lit)(bn:Nat)(cs:Array Value)(w:World)(h:I7 w w.heap.size bn K cs):Calls prog 104 #[.pointer (some ⟨bn,0,none⟩)] w (U4 K w):=by
 have HF:=hid (zeJ K w.heap.size bn cs w h);have CY:∀(fn:Fn) (first cap:Array Value) (w:World),(makeFunc fn first cap).run prog w=.ok (.func fn first cap) w:=fun _ _ _ _=>rfl
 have jw:=@run_makeMap prog;clear h;go_in;go_wp2_with fail;refine HF.out.mono ?_;rintro e w2 ⟨a,c,rfl,hO,hB⟩;have HZ:Hid (U4 K w (.returned (.func (.func 134) #[] #[.pointer (some ⟨w2.heap.size+1+1,0,none⟩),.pointer (some ⟨w2.heap.size,0,none⟩)])) (((w2.alloc (.cells #[.slice a (dC K 256) c] 112)).alloc (.map #[] 0)).alloc (.cells #[.map (some (w2.heap.size+1))] 184))):=by
  have k1:=al w2 (.cells #[.slice a (dC K 256) c] 112);have k2:=al (w2.alloc (.cells #[.slice a (dC K 256) c] 112)) (.map #[] 0);have k3:=al ((w2.alloc (.cells #[.slice a (dC K 256) c] 112)).alloc (.map #[] 0)) (.cells #[.map (some (w2.heap.size+1))] 184);have hlen:(rl K 256).length=dC K 256:=zD K 256;have hs:=hB.size;refine⟨w2.heap.size,w2.heap.size+1+1,w2.heap.size+1,a,c,rfl,fun P=>⟨?_,?_,?_,?_,fun d hd=>by simp at hd,⟨by omega,by simp;omega⟩,fun x hx=>?_⟩,?_,by omega⟩
  ·rw[hlen];exact ((St.new w2 _ _).ab k2).ab k3
  ·have:=St.new ((w2.alloc (.cells #[.slice a (dC K 256) c] 112)).alloc (.map #[] 0)) 184 #[.map (some (w2.heap.size+1))];simpa using this
  ·rw[hlen];exact cY (cY (cY hO k1) k2) k3
  ·have h1:aO ((w2.alloc (.cells #[.slice a (dC K 256) c] 112)).alloc (.map #[] 0)) 89 (w2.heap.size+1) 0 (LQ (rl K 256) []):=by
    have:=aO.made (w2.alloc (.cells #[.slice a (dC K 256) c] 112)) 89 (LQ (rl K 256) []) (fun x y ⟨d,hd,_⟩=>by simp at hd);simpa using this
   exact h1.same (k3.block _ h1.lt)
  ·obtain⟨c,hc,rfl⟩:=List.getElem_of_mem hx;exact (ZX K 256 c hc).2
  exact ((hB.trans (k1.mono hs)).trans (k2.mono (by simp;omega))).trans (k3.mono (by simp;omega))
 clear hO hB;go_wp2;go_ret;exact HZ.out
def vA(v:Value):Option Addr:=match v with|.slice a _ _=>a|_=>none
def vC(v:Value):Nat:=match v with|.slice _ _ c=>c|_=>0
theorem ir.first(h:ir B bn Mm Mf Ms cs dt vM vF vS fv sv xs L w)(u:Value):
  ir B bn Mm Mf Ms (cs.setIfInBounds 256 u) dt vM vF vS fv sv xs L (w.setCell ⟨bn,256,none⟩ u)/\iY B bn (mK bn Mf Ms vM vF vS fv sv) (mK bn Mf Ms vM vF vS fv sv) w (w.setCell ⟨bn,256,none⟩ u):=by
 have hk:Kept [] [bn] w (w.setCell ⟨bn,256,none⟩ u):=(Kept.refl _ _ _).setCell _ _ (inl (by simp));have hne:∀{t s n:Nat}{v:Value}{ys:List Value},w.ownsRow B t s v n ys->t≠109->∀b,v.ownBlock=some b->b∉[bn]:=fun ho ht b e hm=>ew ho h.sn ht b e (List.mem_singleton.1 hm)
 refine⟨⟨?_,by simp[h.sz],fC h.om hk (by simp) (hne h.om (by decide)),h.fr.kept hk (hne h.fr.own (by decide)) (fun i hi=>hne (h.fr.row i hi) (by decide)),h.st.kept hk (hne h.st.own (by decide)) (fun i hi=>hne (h.st.row i hi) (by decide)),h.sep,⟨h.lo.1,by simpa [World.size_setCell] using h.lo.2⟩,h.hE,h.hx⟩,
  ⟨⟨[bn],hk,fun x hx=>inl (inl (List.mem_singleton.1 hx))⟩,fun x hx=>inl hx,(Below.refl _ _).setCell (p:=⟨bn,256,none⟩) h.lo.1 u⟩⟩
 have:=h.sn.set 256 u;rwa [Array.setIfInBounds_comm vS u (by decide),Array.setIfInBounds_comm vF u (by decide),Array.setIfInBounds_comm vM u (by decide)] at this
theorem ir.net{P:Nat->Prop}{cl:(Nat->Bool)->List Nat}(h:ir B bn M M M cs dt vM vF vS fv sv xs L w)(hM:0<M)(hr:∀i,i<M->vg w P cl (dk L i) (xs i))(eR:∀i,i<M->dt[i]?=some (mk i)):
  ∃gM cM gF cF gS cS,mc w w.heap.size bn gF M cF (fun i=>vA (fv i)) (fun i=>vC (fv i)) L/\pv w w.heap.size bn gS M cS (fun i=>vA (sv i)) (fun i=>vC (sv i)) cl L/\kX w w.heap.size bn gM M cM mk:=by
 obtain⟨aM,cM,rfl⟩:=bP h.om;obtain⟨aF,cF,rfl⟩:=bP h.fr.own;obtain⟨aS,cS,rfl⟩:=bP h.st.own;obtain⟨gM,rfl,_,pY,K9⟩:=ek h.om hM;obtain⟨gF,rfl,_,Sb,Qr⟩:=ek h.fr.own hM;obtain⟨gS,rfl,_,xq,NB⟩:=ek h.st.own hM;obtain⟨c0,c1,c2⟩:=h.cells;have bD:=h.sn.lt;refine⟨gM,cM,gF,cF,gS,cS,⟨⟨bD,Sb⟩,c1,fun i hi=>?_,fun i hi h0=>?_⟩,⟨⟨bD,xq⟩,c2,fun i hi=>?_,fun i hi h0=>?_⟩,⟨⟨bD,pY⟩,c0,fun i hi=>?_⟩⟩
 ·rw[(Qr i (by omega)).1];obtain⟨a,c,e⟩:=bP (h.fr.row i hi);simp[hi,e,vA,vC]
 ·have ho:=h.fr.row i hi;obtain⟨a,c,e⟩:=bP ho;rw[e] at ho;obtain⟨g,rfl,_,hg,hc⟩:=ek ho h0;refine⟨g,0,by simp[e,vA],hg,fun j hj=>?_⟩;rw[zero_add,(hc j (by omega)).1,AY _ j hj]
 ·rw[(NB i (by omega)).1];obtain⟨a,c,e⟩:=bP (h.st.row i hi);simp[hi,e,vA,vC]
 ·have ho:=h.st.row i hi;obtain⟨a,c,e⟩:=bP ho;rw[e] at ho;obtain⟨g,rfl,_,hg,hc⟩:=ek ho h0;refine⟨g,0,by simp[e,vA],hg,fun k hk=>?_⟩;obtain⟨a',c',h1,h2,h3⟩:=(hr i hi).2 k hk;refine⟨a',c',by rw[zero_add,(hc (k*2) (by omega)).1,h1],by rw[zero_add,(hc (k*2+1) (by omega)).1,h2],fun h4=>?_⟩;obtain⟨g',off,e1,e2,_,e3⟩:=h3 h4;exact⟨g',off,e1,e2,e3⟩
 rw[(K9 i (by omega)).1];simp only[ints,getElem?_map,eR i hi,map_some]
theorem Kp(w:World)(p:Addr)(u:Value)(h:g≠p.block):(w.setCell p u).cell? ⟨g,i,none⟩=w.cell? ⟨g,i,none⟩:=by
 have e:=Below.heap_setCell w p u g h;simp only[World.cell?,e]
theorem LS(cs:Array Value)(i:Nat)(v:Value)(h:cs[i]?=some v):cs.setIfInBounds i v=cs:=by
 apply Array.ext_getElem?;intro j;by_cases e:i=j
 ·subst e;rw[Array.getElem?_setIfInBounds_self_of_lt (Array.getElem?_eq_some_iff.1 h).1,h]
 rw[getElem?_setIfInBounds_ne e]
theorem vZ.base{B' b7 b8 bL:Nat}{lr:List Nat}{aR:Option Addr}{cR:Nat}{P:Nat->Prop}{DL:List ((Nat->Bool) × Option Addr × Nat)}(h:vZ B' b7 b8 bL n lr aR cR P DL w)(hb:B<=B'):vZ B b7 b8 bL n lr aR cR P DL w:=
 ⟨h.s7,h.s8,ga h.row hb,h.map,h.at_,⟨le_trans hb h.lo.1,le_trans hb h.lo.2⟩,h.lr⟩
theorem tB.first{V:World}{b3 b5 b6:Nat}{fn:Value}(h:tB V B bn b3 b5 b6 bM fn mf nm cs vM vF vS fv sv xs L w)(u:Value):
  tB V B bn b3 b5 b6 bM fn mf nm (cs.setIfInBounds 256 u) vM vF vS fv sv xs L (w.setCell ⟨bn,256,none⟩ u):=by
 obtain⟨h1,h2⟩:=h.n.first u
 exact⟨h1,h.sM.fQ h.n.sn (by decide) _ _,h.sT.fQ h.n.sn (by decide) _ _,h.sF.fQ h.n.sn (by decide) _ _,h.map.set h.n.sn,h.nd,h.le,h.bM,h.aP.trans h2.below⟩
theorem tB.start(V w3:World)(B b3:Nat)(fn:Value)(mf:Nat->Int)(cN:Array Value)(hb:Below B V w3)(hB:B<=w3.heap.size)(h3:St w3 76 b3 #[fn])(hs:cN.size=260)(h7:cN[257]?=some (.slice none 0 0))(h8:cN[258]?=some (.slice none 0 0))(h9:cN[259]?=some (.slice none 0 0)):
  tB V B w3.heap.size b3 (w3.heap.size+1) (w3.heap.size+1+1+1) (w3.heap.size+1+1) fn mf [] cN (.slice none 0 0) (.slice none 0 0) (.slice none 0 0) (fun _=>.slice none 0 0) (fun _=>.slice none 0 0) (fun _=>[]) []
   ((((w3.alloc (.cells cN 109)).alloc (.cells #[.pointer (some ⟨w3.heap.size,0,none⟩)] 104)).alloc (.map #[] 0)).alloc (.cells #[.map (some (w3.heap.size+1+1))] 147)):=by
 have k1:=al w3 (.cells cN 109);have k2:=al (w3.alloc (.cells cN 109)) (.cells #[.pointer (some ⟨w3.heap.size,0,none⟩)] 104);have k3:=al ((w3.alloc (.cells cN 109)).alloc (.cells #[.pointer (some ⟨w3.heap.size,0,none⟩)] 104)) (.map #[] 0);have k4:=al (((w3.alloc (.cells cN 109)).alloc (.cells #[.pointer (some ⟨w3.heap.size,0,none⟩)] 104)).alloc (.map #[] 0)) (.cells #[.map (some (w3.heap.size+1+1))] 147);have e0:((cN.setIfInBounds 257 (.slice none 0 0)).setIfInBounds 258 (.slice none 0 0)).setIfInBounds 259 (.slice none 0 0)=cN:=by rw[LS cN 257 _ h7,LS cN 258 _ h8,LS cN 259 _ h9]
 refine⟨⟨?_,hs,ownsRow_nil _ _ _ _,⟨ownsRow_nil _ _ _ _,fun i hi=>by simp at hi,fun i j hi=>by simp at hi⟩,⟨ownsRow_nil _ _ _ _,fun i hi=>by simp at hi,fun i j hi=>by simp at hi⟩,fun i hi=>by simp at hi,⟨hB,by simp;omega⟩,fun e he=>by simp at he,fun i hi=>rfl⟩,?_,?_,?_,?_,List.nodup_nil,fun x hx=>by simp at hx,by omega,?_⟩
 ·rw[e0];exact (((St.new w3 109 cN).ab k2).ab k3).ab k4
 ·have:=St.new (((w3.alloc (.cells cN 109)).alloc (.cells #[.pointer (some ⟨w3.heap.size,0,none⟩)] 104)).alloc (.map #[] 0)) 147 #[.map (some (w3.heap.size+1+1))];simpa using this
 ·have:=((St.new (w3.alloc (.cells cN 109)) 104 #[.pointer (some ⟨w3.heap.size,0,none⟩)]).ab k3).ab k4;simpa using this
 ·exact (((h3.ab k1).ab k2).ab k3).ab k4
 ·have h1:aO (((w3.alloc (.cells cN 109)).alloc (.cells #[.pointer (some ⟨w3.heap.size,0,none⟩)] 104)).alloc (.map #[] 0)) 3 (w3.heap.size+1+1) 0 (zk []):=by
   have:=aO.made ((w3.alloc (.cells cN 109)).alloc (.cells #[.pointer (some ⟨w3.heap.size,0,none⟩)] 104)) 3 (zk []) (fun x y ⟨k,s,h,_⟩=>by simp at h);simpa using this
  exact h1.same (k4.block _ h1.lt)
 exact (((hb.trans (k1.mono hB)).trans (k2.mono (by simp;omega))).trans (k3.mono (by simp;omega))).trans (k4.mono (by simp;omega))
theorem ir.cl(h:ir B bn Mm Mf Ms cs dt vM vF vS fv sv xs L w)(hs:csA.size=256)(hv:∀j,j<256->csA[j]?=some (.int .u8 ((cls K j:Nat):Int)))(hc:∀j,j<256->cs[j]?=csA[j]?):I7 w w.heap.size bn K csA:=
 ⟨h.sn.lt,hs,hv,fun j v hj=>by
  have hj2:j<256:=by
   have:=(List.getElem?_eq_some_iff.1 hj).1
   simpa [hs] using this
  have e:(⟨bn,0,none⟩:Addr).add j=⟨bn,j,none⟩:=by unfold Addr.add;split <;> simp_all
  rw[e,h.sn.at_,getElem?_setIfInBounds_ne (by omega),getElem?_setIfInBounds_ne (by omega),getElem?_setIfInBounds_ne (by omega),hc j hj2,<-getElem?_toList,hj]⟩
theorem zez{o:Oper}(hg:o.guard=none)(ty:TypeId)(x:Operand)(ho:o.op=.load ty x)(ad:Addr)(hx:ev x=.pointer (some ad))(cs:Array Value)(d:TypeDesc)(w:World)(hc:∀j v,cs.toList[j]?=some v->w.cell? (ad.add j)=some v)
  (hu:P.underlying ty=some d) (hd:(match d with|.struct _|.array _ _=>true|_=>false)=true) (hi:(P.info? ty).map (·.size)=some cs.size):(execOp ev o).run P w=.ok (.value (.agg cs)) w:=by
 unfold execOp;simp only[ho,hx,Instr.loadAt,sureAddr,run_bind,run_pure,andThen_ok,KM w ad ty cs d hc hu hd hi]
theorem Sc{o:Oper}(hg:o.guard=none)(t:TypeId)(parts:Array (Nat × Operand))(ho:o.op=.build t parts)(ps:Array (Nat × Value))(hp:(parts.map fun (i,x)=>(i,ev x))=ps)(v:Value)(hb:(build t ps).run P w=.ok v w):(execOp ev o).run P w=.ok (.value v) w:=by
 unfold execOp;simp only[ho,hp,run_bind,hb,andThen_ok,run_pure]
theorem zmp(N:Nat)(hN:N<=2147483647)(W:World):(Instr.makeSlice 112 (.int .i64 (N:Int)) (.int .i64 (N:Int))).run prog W=.ok (.slice (some ⟨W.heap.size,0,none⟩) N N) (W.alloc (.cells (madeCells #[.int .u8 0] N) 5)):=by
 have:=run_make_row' (P:=prog) 112 5 (.int .u8 0) 1 underlying112 ll rfl .i64 .i64 N (by omega) (by omega) W;simpa using this
theorem Xk{cK:Array Value}(hw:Below B w w')(hB:B<=w'.heap.size)(hm:St w' 114 bm cK)(hi:w'.ownsRow B 5 1 (.slice (some ⟨gI,0,none⟩) m m) m (replicate m (.int .u8 0)))(hM:aO w' 9 bM 0 (MQ M []))
  (iJ:∀j,j<256->csA[j]?=some (.int .u8 ((cls K j:Nat):Int)))
  (hc:cK.size=263/\cK[0]?=some (.pointer (some ⟨bn,0,none⟩))/\(∀j,j<256->cK[1+j]?=csA[j]?)/\cK[257]?=some (.slice none 0 0)/\cK[258]?=some (.slice none 0 0)/\cK[259]?=some (.slice none 0 0)/\cK[260]?=some (.map (some bM))/\cK[261]?=some (.slice (some ⟨gI,0,none⟩) m m)/\cK[262]?=some (.slice none 0 0))
  (h1:B<=bm) (h2:B<=gI) (h3:B<=bM):lY B bm gI bM m M C bn K L mk [] [] [] [] 0 cK [] (.slice none 0 0) (.slice none 0 0) (.slice none 0 0) (.slice none 0 0) [] w':=by
 obtain⟨z,c0,cc,c7,c8,c9,c10,c11,c12⟩:=hc;refine⟨⟨⟨Kept.refl _ _ _,Below.refl _ _,by rw[LS cK 262 _ c12];exact hm,z,c11,?_,ownsRow_nil _ _ _ _,fun b e=>by simp[ownBlock] at e,⟨by simp[jl],by simp[jl]⟩,h1,h2,hB⟩,List.nodup_nil,fun x hx=>by simp at hx⟩,
  ⟨c8,c9,c10,ownsRow_nil _ _ _ _,ownsRow_nil _ _ _ _,hM,fun b e=>by simp[ownBlock] at e,fun b e=>by simp[ownBlock] at e,fun b e=>by simp[ownBlock] at e,by simp[jl],h3⟩,
  ⟨fun j hj=>by simp at hj,fun p hp=>by simp at hp,rfl,fun j hj=>by simp at hj⟩,⟨ownsRow_nil _ _ _ _,rfl,fun i hi=>by simp at hi⟩,c0,c7,fun j hj=>by rw[cc j hj];exact iJ j hj,le_refl _⟩
 rw[show (fun x=>decide (x∈([]:List Nat)))=fun _=>false from by funext x;simp,Oa];exact hi
def DC(B m M C bn:Nat)(K:Nat->Lit)(L:List En)(mk:Nat->Int)(w:World)(e:Ending)(w':World):Prop:=
 ∃(bm gI bM:Nat) (cK:Array Value),e=.returned (.pointer (some ⟨bm,0,none⟩))/\lY B bm gI bM m M C bn K L mk [] [] [] [] 0 cK [] (.slice none 0 0) (.slice none 0 0) (.slice none 0 0) (.slice none 0 0) [] w'/\Below B w w'
theorem zg4(K:Nat->Lit)(L:List En)(mk:Nat->Int)(csA:Array Value)(bn gM M cM m C:Nat)(w:World)(h:I7 w w.heap.size bn K csA)(hM:w.cell? ⟨bn,257,none⟩=some (.slice (some ⟨gM,0,none⟩) M cM))(Ns:M<=12900)(hm:(M+7) / 8=m):
  Calls prog 65 #[.pointer (some ⟨bn,0,none⟩)] w (DC w.heap.size m M C bn K L mk w):=by
 have dN:(prog.info? 25).map (·.size)=some csA.size:=by rw[h.sz];kernel_rfl
 obtain⟨cD,hDs,hD,sW⟩:=znT csA h.sz;have AJ:=zmp m (by omega);have jw:=@run_makeMap prog;have hq:Int.tdiv ((M:Int)+7) 8=(m:Int):=by rw[Int.tdiv_eq_ediv_of_nonneg (by omega),<-hm];omega
 have Bc:IntKind.i64.wrap ((M:Int)+7)=(M:Int)+7:=IntWalk.i64_in _ (by omega);have F8:IntKind.i64.wrap (m:Int)=m:=IntWalk.i64_in _ (by omega);have H:=hid h;have bD:=h.gz;have dz:=hid (fun (W':World) (k:Below w.heap.size w W')=>(⟨fun j v hj=>(by
   have e:(⟨bn,0,none⟩:Addr).add j=⟨bn,j,none⟩:=by unfold Addr.add;split <;> simp_all
   have h2:=h.at_ j v hj
   rw[e] at h2⊢
   exact (k.cell (p:=⟨bn,j,none⟩) bD).trans h2),(k.cell (p:=⟨bn,257,none⟩) bD).trans hM⟩:
  (∀j v,csA.toList[j]?=some v->W'.cell? ((⟨bn,0,none⟩:Addr).add j)=some v)/\W'.cell? ⟨bn,257,none⟩=some (.slice (some ⟨gM,0,none⟩) M cM)))
 have mI:∀(W:World),w.heap.size<=W.heap.size->(W.alloc (.cells (madeCells #[.int .u8 0] m) 5)).ownsRow w.heap.size 5 1 (.slice (some ⟨W.heap.size,0,none⟩) m m) m (replicate m (.int .u8 0)):=fun W hW=>C8 W w.heap.size m 5 (.int .u8 0) hW (by unfold maxLen;omega)
 have HBa:Below w.heap.size w ((w.alloc (.map #[] 0)).alloc (.cells (madeCells #[.int .u8 0] m) 5)).drew:=((al w _).trans ((al _ _).mono (by simp))).drew;have Z1:Below w.heap.size w ((w.alloc (.cells (madeCells #[.int .u8 0] m) 5)).alloc (.map #[] 0)).drew:=((al w _).trans ((al _ _).mono (by simp))).drew;have Dw:∀cK:Array Value,Below w.heap.size w (((w.alloc (.map #[] 0)).alloc (.cells (madeCells #[.int .u8 0] m) 5)).alloc (.cells cK 114)).drew:=fun cK=>(((al w _).trans ((al _ _).mono (by simp))).trans ((al _ _).mono (by simp;omega))).drew
 have Dq:∀cK:Array Value,Below w.heap.size w (((w.alloc (.cells (madeCells #[.int .u8 0] m) 5)).alloc (.map #[] 0)).alloc (.cells cK 114)).drew:=fun cK=>(((al w _).trans ((al _ _).mono (by simp))).trans ((al _ _).mono (by simp;omega))).drew
 have mM:∀(W:World),aO (W.alloc (.map #[] 0)) 9 W.heap.size 0 (MQ M []):=fun W=>aO.made W 9 (MQ M []) (fun x y ⟨p,hp,_⟩=>by simp at hp)
 have xz:∀cK:Array Value,(cK.size=263/\cK[0]?=some (.pointer (some ⟨bn,0,none⟩))/\(∀j,j<256->cK[1+j]?=csA[j]?)/\cK[257]?=some (.slice none 0 0)/\cK[258]?=some (.slice none 0 0)/\cK[259]?=some (.slice none 0 0)/\cK[260]?=some (.map (some w.heap.size))/\cK[261]?=some (.slice (some ⟨w.heap.size+1,0,none⟩) m m)/\cK[262]?=some (.slice none 0 0))->
   Hid (DC w.heap.size m M C bn K L mk w (.returned (.pointer (some ⟨w.heap.size+1+1,0,none⟩))) (((w.alloc (.map #[] 0)).alloc (.cells (madeCells #[.int .u8 0] m) 5)).alloc (.cells cK 114)).drew):=fun cK hc=>by
  have k3:=al ((w.alloc (.map #[] 0)).alloc (.cells (madeCells #[.int .u8 0] m) 5)) (.cells cK 114)
  refine⟨w.heap.size+1+1,w.heap.size+1,w.heap.size,cK,rfl,Xk (csA:=csA) (Dw cK) (by simp;omega) ?_ ?_ ?_ H.out.val hc (by omega) (by omega) (le_refl _),Dw cK⟩
  ·have:=(St.new ((w.alloc (.map #[] 0)).alloc (.cells (madeCells #[.int .u8 0] m) 5)) 114 cK).drew
   simpa using this
  ·have:=cY (mI (w.alloc (.map #[] 0)) (by simp)) (k3.drew)
   simpa using this
  ·exact (mM w).same (((al (w.alloc (.map #[] 0)) _).trans (k3.mono (by simp))).drew.block _ (by simp))
 have HFb:∀cK:Array Value,(cK.size=263/\cK[0]?=some (.pointer (some ⟨bn,0,none⟩))/\(∀j,j<256->cK[1+j]?=csA[j]?)/\cK[257]?=some (.slice none 0 0)/\cK[258]?=some (.slice none 0 0)/\cK[259]?=some (.slice none 0 0)/\cK[260]?=some (.map (some (w.heap.size+1)))/\cK[261]?=some (.slice (some ⟨w.heap.size,0,none⟩) m m)/\cK[262]?=some (.slice none 0 0))->
   Hid (DC w.heap.size m M C bn K L mk w (.returned (.pointer (some ⟨w.heap.size+1+1,0,none⟩))) (((w.alloc (.cells (madeCells #[.int .u8 0] m) 5)).alloc (.map #[] 0)).alloc (.cells cK 114)).drew):=fun cK hc=>by
  have k3:=al ((w.alloc (.cells (madeCells #[.int .u8 0] m) 5)).alloc (.map #[] 0)) (.cells cK 114)
  refine⟨w.heap.size+1+1,w.heap.size,w.heap.size+1,cK,rfl,Xk (csA:=csA) (Dq cK) (by simp;omega) ?_ ?_ ?_ H.out.val hc (by omega) (le_refl _) (by omega),Dq cK⟩
  ·have:=(St.new ((w.alloc (.cells (madeCells #[.int .u8 0] m) 5)).alloc (.map #[] 0)) 114 cK).drew
   simpa using this
  ·exact cY (mI w (le_refl _)) ((al _ _).trans (k3.mono (by simp))).drew
  ·have:=(mM (w.alloc (.cells (madeCells #[.int .u8 0] m) 5))).same (k3.drew.block _ (by simp))
   simpa using this
 clear h hM;go_in;go_upto_region 1 with fail;refine wp_region_held_drew (S:=fun W'=>(∀j v,csA.toList[j]?=some v->W'.cell? ((⟨bn,0,none⟩:Addr).add j)=some v)/\W'.cell? ⟨bn,257,none⟩=some (.slice (some ⟨gM,0,none⟩) M cM)) (by kernel_rfl) (dz.out _ (Below.refl _ _).drew) (fun hHeld=>?_)
 (refine an 0 ?_;refine an 1 ?_;refine an 2 ?_;try simp only[put,sA];refine an 3 ?_)
 (refine an 4 (v:=(.agg csA)) ?_ (hy:=by intro wz hSw;exact zez rfl 25 _ rfl ⟨bn,0,none⟩ (by rfl) csA (.array 256 5) wz hSw.1 underlying25 rfl dN);try simp only[put,sA])
 (refine wpAnyH_take (i:=5) (oi:=?_) (v:=(.agg cD)) ?_ (by kernel_rfl) (by kernel_rfl) (by kernel_rfl) ?_ (inl ⟨?_,?_⟩) (by assumption) ?_;rotate_left 1;(focus ((simp only[getElem?_toArray,List.getElem?_cons_succ,List.getElem?_cons_zero]);first|done|rfl));(focus (exact fun _ _ _ h=>h));(focus rfl);(focus (intro wz hSw;exact Sc rfl 29 _ rfl #[(0,.agg csA)] (by first|kernel_rfl|(go_simp;done)) (.agg cD) (hD wz)));try simp only[put,sA])
 (refine an 7 ?_;refine an 8 ?_;refine an 9 ?_;try simp only[put,sA];refine an 10 ?_;refine an 11 ?_;refine an 12 ?_;try simp only[put,sA];refine an 13 ?_;try simp only[put,sA])
 refine wpAnyH_ready (rs:=[6,14]) (by kernel_rfl) (by simp) ?_;refine gG (fun K hK=>?_) ?_
 ·skip;go_simp;refine hK.out _ _ (dz.out _ (al w _).drew) fun hHeld=>?_;clear hK K
  try simp only[put,sA]
  refine bf 14 (fun K hK=>?_);skip;go_simp;refine hK.out _ _ (dz.out _ HBa) fun hHeld=>?_;clear hK K
  try simp only[put,sA]
  obtain⟨cK,oZ⟩:=sW bn w.heap.size (w.heap.size+1) m;have yQ:=Dw cK;have HF:=xz cK ⟨oZ.1,oZ.2.1,oZ.2.2.1,oZ.2.2.2.1,oZ.2.2.2.2.1,oZ.2.2.2.2.2.1,oZ.2.2.2.2.2.2.1,oZ.2.2.2.2.2.2.2.1,oZ.2.2.2.2.2.2.2.2.1⟩
  (refine wpAnyH_take (i:=15) (oi:=?_) (v:=(.agg cK)) ?_ (by kernel_rfl) (by kernel_rfl) (by kernel_rfl) ?_ (inl ⟨?_,?_⟩) (by assumption) ?_;rotate_left 1;(focus ((simp only[getElem?_toArray,List.getElem?_cons_succ,List.getElem?_cons_zero]);first|done|rfl));(focus (exact fun _ _ _ h=>h));(focus rfl);(focus (intro wz hSw;exact Sc rfl 114 _ rfl #[(0,.pointer (some ⟨bn,0,none⟩)),(1,.agg cD),(3,.map (some (w.heap.size))),(4,.slice (some ⟨w.heap.size+1,0,none⟩) m m)] (by first|kernel_rfl|(go_simp;done)) (.agg cK) (oZ.2.2.2.2.2.2.2.2.2 wz)));try simp only[put,sA])
  refine bf 16 (fun K hK=>?_);skip;go_simp;refine hK.out _ _ (dz.out _ yQ) fun hHeld=>?_;clear hK K
  try simp only[put,sA]
  (refine an 17 ?_;try simp only[put,sA])
  refine wpAnyH_done (by kernel_rfl) ?_ _;clear hHeld;go_wp2;go_ret;exact HF.out
 refine gG (fun K hK=>?_) ?_
 ·skip;go_simp;refine hK.out _ _ (dz.out _ (al w _).drew) fun hHeld=>?_;clear hK K
  try simp only[put,sA]
  refine bf 6 (fun K hK=>?_);skip;go_simp;refine hK.out _ _ (dz.out _ Z1) fun hHeld=>?_;clear hK K
  try simp only[put,sA]
  obtain⟨cK,oZ⟩:=sW bn (w.heap.size+1) w.heap.size m;have yQ:=Dq cK;have HF:=HFb cK ⟨oZ.1,oZ.2.1,oZ.2.2.1,oZ.2.2.2.1,oZ.2.2.2.2.1,oZ.2.2.2.2.2.1,oZ.2.2.2.2.2.2.1,oZ.2.2.2.2.2.2.2.1,oZ.2.2.2.2.2.2.2.2.1⟩
  (refine wpAnyH_take (i:=15) (oi:=?_) (v:=(.agg cK)) ?_ (by kernel_rfl) (by kernel_rfl) (by kernel_rfl) ?_ (inl ⟨?_,?_⟩) (by assumption) ?_;rotate_left 1;(focus ((simp only[getElem?_toArray,List.getElem?_cons_succ,List.getElem?_cons_zero]);first|done|rfl));(focus (exact fun _ _ _ h=>h));(focus rfl);(focus (intro wz hSw;exact Sc rfl 114 _ rfl #[(0,.pointer (some ⟨bn,0,none⟩)),(1,.agg cD),(3,.map (some (w.heap.size+1))),(4,.slice (some ⟨w.heap.size,0,none⟩) m m)] (by first|kernel_rfl|(go_simp;done)) (.agg cK) (oZ.2.2.2.2.2.2.2.2.2 wz)));try simp only[put,sA])
  refine bf 16 (fun K hK=>?_);skip;go_simp;refine hK.out _ _ (dz.out _ yQ) fun hHeld=>?_;clear hK K
  try simp only[put,sA]
  (refine an 17 ?_;try simp only[put,sA])
  refine wpAnyH_done (by kernel_rfl) ?_ _;clear hHeld;go_wp2;go_ret;exact HF.out
 exact AllReadyH.nil
theorem lA(w:World):(zeroValue 29).run prog w=.ok (.agg (zC 29)) w:=by kernel_rfl
theorem zM:∀v∈(zC 29).toList,v.oneCell'=true:=by
 have h:(zC 29).toList.all (fun v=>v.oneCell')=true:=by kernel_rfl
 exact fun v hv=>List.all_eq_true.1 h v hv
theorem fD:(prog.info? 29).map (·.size)=some 258:=by kernel_rfl
theorem Jb(w:World):(build 29 #[]).run prog w=.ok (.agg (zC 29)) w:=run_build w _ _ _ (by kernel_rfl)
theorem nR{rest:List Oper}{o:Oper}{a:Act}{Q:Exit->Act->World->Prop}(ow:o.guard=none)(t:TypeId)(ho:o.op=.alloc t)(cs:Array Value)(hz:(zeroValue t).run P w=.ok (.agg cs) w)
  (h:wpList P ops Q rest (a.put o.dst (.pointer (some ⟨w.heap.size,0,none⟩))) (w.alloc (.cells cs t))):wpList P ops Q (o :: rest) a w:=
 wpList_plain ow fun _ hK=>by
  unfold Oper.wp execOp
  simp only[ho,Instr.alloc,run_bind,hz,andThen_ok,newVar,newRow,newObj,Value.cells]
  exact hK _ _ h
theorem lJ{rest:List Oper}{o:Oper}{a:Act}{Q:Exit->Act->World->Prop}(ow:o.guard=none)(ty:TypeId)(x v:Operand)(ho:o.op=.store ty x v)(g t:Nat)(jC cs:Array Value)(hx:a.eval x=.pointer (some ⟨g,0,none⟩))(hv:a.eval v=.agg cs)
  (bU:w.heap[g]?=some (.cells jC t (0,0))) (cZ:jC.size=cs.size) (hi:(P.info? ty).map (·.size)=some cs.size) (h1:∀u∈cs.toList,u.oneCell'=true) (h:wpList P ops Q rest (a.put o.dst undef) (w.setRow g cs)):wpList P ops Q (o :: rest) a w:=by
 have ct:(storeVar ty ⟨g,0,none⟩ (.agg cs)).run P w=.ok () (w.setRow g cs):=by
  have hs:(sizeOf ty).run P w=.ok cs.size w:=by
   cases hq:P.info? ty with
   | none=>simp[hq] at hi
   | some inf=>
    have:inf.size=cs.size:=(by simpa [hq] using hi);simp[sizeOf,typeInfo,hq,this]
  have:=run_storeCells_at (P:=P) g 0 t cs.toList 0 jC w bU (by simp[cZ]) h1;unfold storeVar;simp only[run_bind,hs,andThen_ok];rw[if_neg (show ¬((Value.agg cs).cells.size≠cs.size) from fun h=>h rfl)];show (storeCells ⟨g,0,none⟩ cs.toList).run P w=_;rw[this];congr 2;have hd:List.drop cs.size jC.toList=[]:=List.drop_of_length_le (by simp[cZ]);simp[hd]
 exact wpList_plain ow fun _ hK=>by
  unfold Oper.wp execOp;simp only[ho,hx,hv,Instr.storeAt,sureAddr,run_bind,run_pure,andThen_ok,ct];exact hK _ _ h
theorem St.setRow{jC:Array Value}(h:St w t g jC):St (w.setRow g cs) t g cs:=setRow_heap w g jC cs t (0,0) h
theorem kT(h:Below B w w')(hg:B<=g)(cs:Array Value):Below B w (w'.setRow g cs):=
 ⟨h.os,h.tape,h.output,by rw[setRow_size];exact h.size,fun k hk=>by rw[setRow_other w' g k cs (by omega)];exact h.block k hk⟩
theorem ye{fn:Func}{p u:Tmp}{ty:TypeId}(h:fn.results=#[.cell p ty,.tmp u])(tmps:Array Value)(w:World)(g:Nat)(cs:Array Value)(d:TypeDesc)(hp:tmps.getD p undef=.pointer (some ⟨g,0,none⟩))(hc:∀j v,cs.toList[j]?=some v->w.cell? ((⟨g,0,none⟩:Addr).add j)=some v)
  (hu:P.underlying ty=some d) (hd:(match d with|.struct _|.array _ _=>true|_=>false)=true) (hi:(P.info? ty).map (·.size)=some cs.size):
  (results fn tmps).run P w=.ok (.tuple #[.agg cs,tmps.getD u undef]) w:=by
 rw[results_cell_tmp h,hp];have h1:(asAddr (.pointer (some ⟨g,0,none⟩))).run P w=.ok ⟨g,0,none⟩ w:=by rfl
 rw[h1,andThen_ok,KM w ⟨g,0,none⟩ ty cs d hc hu hd hi,andThen_ok]
theorem St.part(h:St w t g cs):∀j v,cs.toList[j]?=some v->w.cell? ((⟨g,0,none⟩:Addr).add j)=some v:=fun j v hj=>by
 have e:(⟨g,0,none⟩:Addr).add j=⟨g,j,none⟩:=by unfold Addr.add;split <;> simp_all
 rw[e,h.at_,<-getElem?_toList,hj]
open Go.ChangeShapes Go.WideShapes Go.ChangeAt Go.Deep
theorem s9:(prog.info? 153).map (fun i=>(i.zero,i.size,i.bytes))=some (some (.agg #[.slice none 0 0,.int .i64 0]),2,32):=by kernel_rfl
def J4(K:Nat->Lit)(mf:Nat->Int)(L:List En)(F:Nat)(w:World)(e:Ending)(w':World):Prop:=
 ∃(bn f0 gM cM gF cF gS cS:Nat) (nm:List Nat) (L':List En) (aF aS:Nat->Option Addr) (Ev EK:Nat->Nat) (csA:Array Value),e=.returned (.pointer (some ⟨bn,0,none⟩))/\Below w.heap.size w w'/\mc w' w'.heap.size bn gF nm.length cF aF Ev L'/\
  pv w' w'.heap.size bn gS nm.length cS aS EK (rv (rl K 256)) L'/\kX w' w'.heap.size bn gM nm.length cM (fun i=>mf (nm.getD i 0))/\I7 w' w'.heap.size bn K csA/\w'.cell? ⟨bn,256,none⟩=some (.int .i64 (f0:Int))/\
  L=L'.map (En.ov nm)/\nm.Nodup/\(∀e∈L',e.f<nm.length/\e.t<nm.length)/\nm[f0]?=some F/\nm.length<=2*L.length+1/\∀x∈nm,Src L F F x
theorem zkn(kf bV:Nat)(mf:Nat->Int)(S0 T:Int)(F:Nat)(L:List En)(a:Option Addr)(n c:Nat)(w:World)(HC:∀(args:Array Value) (W:World),(callFunc kf args).run prog W=.ok (.enter kf args) W)
  (HM:∀W,Below w.heap.size w W->∀x,x<=9223372036854775807->Calls prog kf #[.int .i64 ((x:Nat):Int),.pointer (some ⟨bV,0,none⟩)] W fun e w'=>e=.returned (.int .i64 (mf x))/\w'=W)
  (hL:gq w a (L.map En.z)) (hn:L.length=n) (dK:n<=6400) (pH:(cG (L.map En.z)).length<=1000) (hF:F<=9223372036854775807) (hE:∀e∈L,e.f<=9223372036854775807/\e.t<=9223372036854775807):
  Calls prog 66 #[.agg #[.int .i64 S0,.slice a n c,.int .i64 (F:Int),.int .i64 T],.func (.func kf) #[] #[.pointer (some ⟨bV,0,none⟩)]] w (J4 (dM L) mf L F w):=by
 have jw:=@run_makeMap prog;have CY:∀(fn:Fn) (first cap:Array Value) (w:World),(makeFunc fn first cap).run prog w=.ok (.func fn first cap) w:=fun _ _ _ _=>rfl
 have Hsb:=hid pH;have HH:=hid (Zz HC (Zz HM (Zz hL (Zz hn hE))));clear HC HM hL hn hE pH;go_in;go_upto_region 1 with fail;have HI:Hid (∃W0,(w.alloc (.cells #[.int .i64 S0,.slice a n c,.int .i64 (F:Int),.int .i64 T] 55)).alloc (.cells #[.func (.func kf) #[] #[.pointer (some ⟨bV,0,none⟩)]] 76)=W0):=⟨_,rfl⟩
 obtain⟨W0,qv⟩:=HI.out;have h2:St W0 55 w.heap.size #[.int .i64 S0,.slice a n c,.int .i64 (F:Int),.int .i64 T]:=by rw[<-qv];exact (St.new w _ _).alloc _
 have h3:St W0 76 (w.heap.size+1) #[.func (.func kf) #[] #[.pointer (some ⟨bV,0,none⟩)]]:=by
  rw[<-qv];have:=St.new (w.alloc (.cells #[.int .i64 S0,.slice a n c,.int .i64 (F:Int),.int .i64 T] 55)) 76 #[.func (.func kf) #[] #[.pointer (some ⟨bV,0,none⟩)]];simpa using this
 have lB:Below w.heap.size w W0:=by rw[<-qv];exact (al w _).trans ((al _ _).mono (by simp))
 rw[qv];clear qv HI;have H0:=hid (Zz h2 (Zz h3 lB));obtain⟨r0,r1,r2,r3⟩:=h2.bZ;have Zg:=hid (znW S0 (F:Int) T a n c (L.map En.z) W0 (HH.out.2.2.1.below lB) (by rw[length_map];exact HH.out.2.2.2.1) (by omega));clear h2 h3 lB;go_wp2_with fail;refine Zg.out.mono ?_;rintro e w1 ⟨a1,n1,c1,rfl,jv,CI,mG⟩;have da:n1<=1000:=by rw[<-jv];exact Hsb.out
 subst jv;have qN:=hid (zhh a1 _ c1 (rC (L.map En.z)) da w1 (zn3 CI rfl));have q8:=hid mG;clear CI mG r0 r1 r2 r3 Zg da;go_wp2_with fail;refine qN.out.mono ?_;rintro e w3 ⟨csA,rfl,QN,Vn,qd⟩;obtain⟨cN,pJ,gE,iq,IW,Ju,IB,xB⟩:=zl4 csA QN;have yQ:=hid (show Below w.heap.size w w3/\St w3 55 w.heap.size #[.int .i64 S0,.slice a n c,.int .i64 (F:Int),.int .i64 T]/\St w3 76 (w.heap.size+1) #[.func (.func kf) #[] #[.pointer (some ⟨bV,0,none⟩)]] from by
  have hk:=q8.out.trans (qd.mono q8.out.size)
  exact⟨H0.out.2.2.trans (hk.mono H0.out.2.2.size),H0.out.1.ab hk,H0.out.2.1.ab hk⟩)
 have HN:=hid (Zz QN (Zz Vn (Zz pJ (Zz gE (Zz iq (Zz IW (Zz Ju IB)))))));clear QN Vn qd pJ gE iq IW Ju IB qN;go_wp2_with (refine AE rfl 109 _ rfl #[(0,.agg csA)] ?hp (.agg cN) ?hb ?_)
 case hb=>exact xB _
 go_upto_region 4 with fail;have HA:=hid (tB.start w w3 w.heap.size (w.heap.size+1) (.func (.func kf) #[] #[.pointer (some ⟨bV,0,none⟩)]) mf cN yQ.out.1 yQ.out.1.size yQ.out.2.2 HN.out.2.2.1 HN.out.2.2.2.2.2.1 HN.out.2.2.2.2.2.2.1 HN.out.2.2.2.2.2.2.2);have gJ:Hid (St ((((w3.alloc (.cells cN 109)).alloc (.cells #[.pointer (some ⟨w3.heap.size,0,none⟩)] 104)).alloc (.map #[] 0)).alloc (.cells #[.map (some (w3.heap.size+1+1))] 147)) 55 w.heap.size #[.int .i64 S0,.slice a n c,.int .i64 (F:Int),.int .i64 T]):=(((yQ.out.2.1.ab (al _ _)).ab (al _ _)).ab (al _ _)).ab (al _ _);obtain⟨bn,bD⟩:∃bn,w3.heap.size=bn:=⟨_,rfl⟩
 rw[bD] at HA gJ;rw[bD];generalize (((w3.alloc (.cells cN 109)).alloc (.cells #[.pointer (some ⟨bn,0,none⟩)] 104)).alloc (.map #[] 0)).alloc (.cells #[.map (some (bn+1+1))] 147)=W4 at HA gJ⊢;obtain⟨b5,kt⟩:∃b5,bn+1=b5:=⟨_,rfl⟩
 obtain⟨bM,nP⟩:∃bM,bn+1+1=bM:=⟨_,rfl⟩
 obtain⟨b6,eI⟩:∃b6,bn+1+1+1=b6:=⟨_,rfl⟩
 obtain⟨b2,cr⟩:∃b2,w.heap.size=b2:=⟨_,rfl⟩
 obtain⟨b3,dJ⟩:∃b3,w.heap.size+1=b3:=⟨_,rfl⟩
 rw[eI,nP,kt] at HA;rw[eI,kt];rw[dJ] at HA;rw[dJ];have QO:=gJ.out;rw[cr] at QO gJ;have V1:Below W4.heap.size W4 W4.drew:=(Below.refl _ _).drew;have yz:=hid (HA.out.ab V1);have Ai:=hid (Pg w w.heap.size bn b3 b5 b6 bM kf bV mf [] cN (.slice none 0 0) (.slice none 0 0) (.slice none 0 0) (fun _=>.slice none 0 0) (fun _=>.slice none 0 0) (fun _=>[]) [] W4.drew HH.out.1 HH.out.2.1 yz.out (by simp) F hF);have q2:W4.drew.cell? ⟨b2,2,none⟩=some (.int .i64 (F:Int)):=QO.at_ 2;have q5:W4.drew.cell? ⟨b5,0,none⟩=some (.pointer (some ⟨bn,0,none⟩)):=HA.out.sT.at_ 0;rw[cr];have Z1:=hid (Zz cr (Zz kt (Zz nP (Zz eI dJ))));clear QO cr kt nP eI dJ bD V1 xB;refine wp_region_held_drew (S:=fun W'=>W'.cell? ⟨b5,0,none⟩=some (.pointer (some ⟨bn,0,none⟩))/\W'.cell? ⟨b2,2,none⟩=some (.int .i64 (F:Int))) (by kernel_rfl) ⟨q5,q2⟩ (fun hHeld=>?_)
 (refine an 0 ?_;refine an 1 ?_;refine an 2 ?_;try simp only[put,sA];refine an 3 ?_;try simp only[put,sA])
 refine bf 4 (fun K hK=>?_);skip;go_simp;go_at_call 102;refine Ai.out.mono ?_;rintro e w5 ⟨f0,SJ,QT,Rl,Jy,SQ,Po,rfl,Bq,j9,JF,OL⟩;have HX:=hid (Zz Bq (Zz j9 (Zz JF OL)));have B6:St w5 55 b2 #[.int .i64 S0,.slice a n c,.int .i64 (F:Int),.int .i64 T]:=OL.st gJ.out.drew (fun e=>Or.elim e (fun e=>Bd yz.out.map gJ.out.drew e) (fun e=>yz.out.n.pA gJ.out.drew (by decide) (by decide) (by decide) (by decide) (by decide) e));have Zi:w5.cell? ⟨b5,0,none⟩=some (.pointer (some ⟨bn,0,none⟩)):=HX.out.1.sT.at_ 0;have q6:=HX.out.1.n.sn.bb 256;have q7:w5.cell? ⟨bn,256,none⟩=some (.int .i64 0):=(by rw[HX.out.1.n.sn.at_,getElem?_setIfInBounds_ne (by decide),getElem?_setIfInBounds_ne (by decide),getElem?_setIfInBounds_ne (by decide)];exact HN.out.2.2.2.2.1)
 have lG:Hid (tB w w.heap.size bn b3 b5 b6 bM (.func (.func kf) #[] #[.pointer (some ⟨bV,0,none⟩)]) mf SJ (cN.setIfInBounds 256 (.int .i64 (f0:Int))) QT Rl Jy SQ Po (fun _=>[]) [] (w5.setCell ⟨bn,256,none⟩ (.int .i64 (f0:Int)))/\St (w5.setCell ⟨bn,256,none⟩ (.int .i64 (f0:Int))) 55 b2 #[.int .i64 S0,.slice a n c,.int .i64 (F:Int),.int .i64 T]):=⟨HX.out.1.first _,B6.fQ HX.out.1.n.sn (by decide) _ _⟩
 have LZ:=hid HX.out.2;have q2':w5.cell? ⟨b2,2,none⟩=some (.int .i64 (F:Int)):=B6.at_ 2;clear Bq j9 JF OL
 try go_wp2_with fail
 refine hK.out _ _ ⟨Zi,q2'⟩ fun hHeld=>?_;clear hK K
 try simp only[put,sA]
 (refine an 5 ?_;refine an 6 ?_;try simp only[put,sA])
 refine bf 7 (fun K hK=>?_);skip;go_simp;refine hK.out _ _ ⟨lG.out.1.sT.at_ 0,lG.out.2.at_ 2⟩ fun hHeld=>?_;clear hK K
 try simp only[put,sA]
 refine wpAnyH_done (by kernel_rfl) ?_ _;clear hHeld q2 q5 Zi q6 q7 q2' B6 HX Ai yz;generalize w5.setCell ⟨bn,256,none⟩ (.int .i64 (f0:Int))=W5 at lG⊢;have s0:W5.cell? ⟨b5,0,none⟩=some (.pointer (some ⟨bn,0,none⟩)):=lG.out.1.sT.at_ 0;have Uz:=hid (zmo (dM L) bn csA W5 (lG.out.1.n.cl HN.out.1 HN.out.2.1 (fun j hj=>by rw[getElem?_setIfInBounds_ne (by omega)];exact HN.out.2.2.2.1 j hj)));go_wp2_with fail;refine Uz.out.mono ?_;rintro e w6 ⟨b7,b8,bL,aR,cR,rfl,Bk,qm,hbL⟩;have lW:Hid (mO w w.heap.size b2 b3 b5 b6 b7 b8 bn bM bL (.func (.func kf) #[] #[.pointer (some ⟨bV,0,none⟩)]) mf #[.int .i64 S0,.slice a n c,.int .i64 (F:Int),.int .i64 T] (cN.setIfInBounds 256 (.int .i64 (f0:Int))) (rl (dM L) 256) aR cR L F f0 0 1 0 SJ QT Rl Jy SQ Po (fun _=>[]) [] [] w6):=by
  have h1:=lG.out.1.ab qm;refine⟨h1,(Bk _).base lG.out.1.aP.size,lG.out.2.ab qm,fun i hi=>vg.nil _ _ _,rfl,fun e he=>by simp at he,LZ.out.1,?_,?_,?_⟩
  ·rcases LZ.out.2.1 with h|h <;> rw[h] <;> simp
  ·have:=lG.out.1.map.lt;omega
  exact WV LZ.out.2.1 (inl rfl) (fun x hx=>by simp at hx)
 have s1:w6.cell? ⟨b2,1,none⟩=some (.slice a n c):=lW.out.s2.at_ 1;have Tz:St w6 55 b2 #[.int .i64 S0,.slice a n c,.int .i64 (F:Int),.int .i64 T]:=lW.out.s2;clear Bk qm hbL s0 Uz lG LZ Tz;go_wp2_with fail;clear s1;go_loopw [10,11,12,32] (fun _ _ _ v wq=>∃(k nn:Nat) (nm:List Nat) (vM vF vS:Value) (fv sv:Nat->Value) (xs:Nat->List Value) (L':List En) (DL:List ((Nat->Bool) × Option Addr × Nat)),v=.int .i64 k/\k<=n/\nn<=k/\
  Hid (mO w w.heap.size b2 b3 b5 b6 b7 b8 bn bM bL (.func (.func kf) #[] #[.pointer (some ⟨bV,0,none⟩)]) mf #[.int .i64 S0,.slice a n c,.int .i64 (F:Int),.int .i64 T] (cN.setIfInBounds 256 (.int .i64 (f0:Int))) (rl (dM L) 256) aR cR L F f0 k (2*k+1) nn nm vM vF vS fv sv xs L' DL wq)) (fun _ _ _ v _=>n-(intOf v).toNat)
 ·exact⟨0,0,SJ,QT,Rl,Jy,SQ,Po,_,[],[],rfl,zero_le _,le_refl _,lW⟩
 clear lW;obtain⟨k,nn,nm,vM,vF,vS,fv,sv,xs,L1,DL,rfl,hk,Jp,HA⟩:=hrel;by_cases aq:k<n
 ·have hkl:k<L.length:=by rw[HH.out.2.2.2.1];exact aq
  obtain⟨ge,off,rfl,hg,c0,c1,c2,c3,c4,c5,c6⟩:=(HH.out.2.2.1.below HA.out.a.aP).RZ k hkl;have HS:Hid (L.take (k+1)=L.take k++[L[k]]):=List.take_succ_eq_append_getElem hkl;have hx:=HH.out.2.2.2.2 L[k] (getElem_mem _);have nW:Hid (L[k]∈L):=getElem_mem _;generalize L[k]=x at c0 c1 c2 c3 c4 c5 c6 HS hx nW;have qs:Below wr.heap.size wr (wr.alloc (.cells #[.int .i64 (x.f:Int),.int .i64 (x.t:Int),.int .u64 ((wd x.p 0:Nat):Int),.int .u64 ((wd x.p 1:Nat):Int),.int .u64 ((wd x.p 2:Nat):Int),.int .u64 ((wd x.p 3:Nat):Int),.bool x.b] 117)):=al wr _;have oz:=hid (HA.out.ab qs.drew);have lZ:Hid (St (wr.alloc (.cells #[.int .i64 (x.f:Int),.int .i64 (x.t:Int),.int .u64 ((wd x.p 0:Nat):Int),.int .u64 ((wd x.p 1:Nat):Int),.int .u64 ((wd x.p 2:Nat):Int),.int .u64 ((wd x.p 3:Nat):Int),.bool x.b] 117)).drew 117 wr.heap.size #[.int .i64 (x.f:Int),.int .i64 (x.t:Int),.int .u64 ((wd x.p 0:Nat):Int),.int .u64 ((wd x.p 1:Nat):Int),.int .u64 ((wd x.p 2:Nat):Int),.int .u64 ((wd x.p 3:Nat):Int),.bool x.b]):=St.new wr _ _;have d0:(wr.alloc (.cells #[.int .i64 (x.f:Int),.int .i64 (x.t:Int),.int .u64 ((wd x.p 0:Nat):Int),.int .u64 ((wd x.p 1:Nat):Int),.int .u64 ((wd x.p 2:Nat):Int),.int .u64 ((wd x.p 3:Nat):Int),.bool x.b] 117)).drew.cell? ⟨wr.heap.size,0,none⟩=some (.int .i64 (x.f:Int)):=lZ.out.at_ 0;have d1:(wr.alloc (.cells #[.int .i64 (x.f:Int),.int .i64 (x.t:Int),.int .u64 ((wd x.p 0:Nat):Int),.int .u64 ((wd x.p 1:Nat):Int),.int .u64 ((wd x.p 2:Nat):Int),.int .u64 ((wd x.p 3:Nat):Int),.bool x.b] 117)).drew.cell? ⟨wr.heap.size,1,none⟩=some (.int .i64 (x.t:Int)):=lZ.out.at_ 1;have M7:nm.length<=90000:=by have:=HA.out.len;omega
  clear qs hkl;go_wp2_with fail;clear c0 c1 c2 c3 c4 c5 c6;refine wp_region_held_drew (S:=fun W'=>W'.cell? ⟨wr.heap.size,0,none⟩=some (.int .i64 (x.f:Int))/\W'.cell? ⟨wr.heap.size,1,none⟩=some (.int .i64 (x.t:Int))) (by kernel_rfl) ⟨d0,d1⟩ (fun hHeld=>?_)
  (refine an 0 ?_;refine an 1 ?_;refine an 2 ?_;try simp only[put,sA];refine an 4 ?_;refine an 5 ?_;refine an 6 ?_;try simp only[put,sA])
  refine bf 3 (fun K hK=>?_);skip;go_simp;go_at_call 102;refine (Pg w w.heap.size bn b3 b5 b6 bM kf bV mf nm _ vM vF vS fv sv xs L1 (wr.alloc (.cells #[.int .i64 (x.f:Int),.int .i64 (x.t:Int),.int .u64 ((wd x.p 0:Nat):Int),.int .u64 ((wd x.p 1:Nat):Int),.int .u64 ((wd x.p 2:Nat):Int),.int .u64 ((wd x.p 3:Nat):Int),.bool x.b] 117)).drew HH.out.1 HH.out.2.1 oz.out.a M7 x.f hx.1).mono ?_;rintro e w2 ⟨k1,nm2,vM2,vF2,Fp,fv2,sv2,rfl,BC,fm,DB,wC⟩;have iD:=hid (Zz (oz.out.num BC DB wC (inr (inr ⟨x,nW.out,inl rfl⟩))) (Zz (wC.st lZ.out (fun e=>oz.out.fA lZ.out (by decide) (by decide) (by decide) (by decide) (by decide) (inr e))) (Zz fm DB)));clear BC fm DB wC
  try go_wp2_with fail
  refine hK.out _ _ ⟨iD.out.2.1.at_ 0,iD.out.2.1.at_ 1⟩ fun hHeld=>?_;clear hK K
  try simp only[put,sA]
  refine bf 7 (fun K hK=>?_);skip;go_simp;go_at_call 102;refine (Pg w w.heap.size bn b3 b5 b6 bM kf bV mf nm2 _ vM2 vF2 Fp fv2 sv2 xs L1 w2 HH.out.1 HH.out.2.1 iD.out.1.a (by have:=iD.out.1.len;omega) x.t hx.2).mono ?_;rintro e w3 ⟨k2,lz,Bu,Fi,se,xd,wG,rfl,G4,Kx,CC,Py⟩;have fZ:=hid (Zz (iD.out.1.num G4 CC Py (inr (inr ⟨x,nW.out,inr rfl⟩))) (Zz (Py.st iD.out.2.1 (fun e=>iD.out.1.fA iD.out.2.1 (by decide) (by decide) (by decide) (by decide) (by decide) (inr e))) (Zz (Pe CC iD.out.2.2.1) (Zz Kx (show L1.length<=6400 from by have:=congrArg List.length HA.out.rel;rw[length_map] at this;have h2:=List.length_take_le k L;omega)))));clear G4 Kx CC Py
  try go_wp2_with fail
  refine hK.out _ _ ⟨fZ.out.2.1.at_ 0,fZ.out.2.1.at_ 1⟩ fun hHeld=>?_;clear hK K
  try simp only[put,sA]
  (refine an 8 ?_;refine an 9 ?_;try simp only[put,sA])
  refine wpAnyH_done (by kernel_rfl) ?_ _;clear hHeld;have HK:=hid (Zz fZ.out.2.2.1 fZ.out.2.2.2.1);have jF:k1<lz.length:=(List.getElem?_eq_some_iff.1 HK.out.1).1;have xE:k2<lz.length:=(List.getElem?_eq_some_iff.1 HK.out.2).1;have tL:0<lz.length:=by omega
  have hnm3:lz.length<=90000:=by have:=fZ.out.1.len;omega
  obtain⟨z0,z1,z2,z3,z4,z5,z6⟩:=zqj fZ.out.2.1;obtain⟨xf,xt,xp,xb⟩:=x;obtain⟨be,qE⟩:∃be,wr.heap.size=be:=⟨_,rfl⟩
  have HE:=hid fZ.out.2.1;rw[qE] at z0 z1 z2 z3 z4 z5 z6 HE;rw[qE];clear d0 d1 iD oz lZ HA M7 qE;dsimp only at z0 z1 z2 z3 z4 z5 z6 HE HS HK;rcases xb with _|_
  ·skip;go_wp2_with fail;obtain⟨aS,cS,rfl⟩:=bP fZ.out.1.a.n.st.own;obtain⟨gS,rfl,-,-,-⟩:=ek fZ.out.1.a.n.st.own tL;obtain⟨BQ,AR,hv⟩:=bP (fZ.out.1.a.n.st.row k1 jF)
   try dsimp only at hv
   have u9:=hid (fZ.out.1.ab (show Below w3.heap.size w3 w3.drew from (Below.refl _ _).drew));obtain⟨p,hp⟩:∃p,(dk L1 k1).length=p:=(⟨_,rfl⟩);have um:p<=6400:=(by rw[<-hp];exact le_trans (UT _ _) fZ.out.2.2.2.2);have QB:∀W:World,W.ownsRow w.heap.size 151 1 (.slice (some ⟨gS,0,none⟩) lz.length cS) lz.length ((range lz.length).map wG)->W.cell? ⟨gS,k1,none⟩=some (.slice BQ p AR)/\W.frozen? ⟨gS,k1,none⟩=false:=fun W hW=>by
    obtain⟨g,e,_,_,hc⟩:=ek hW tL;injection e with e;injection e with e;subst e;obtain⟨h1,h2⟩:=hc k1 (by omega);exact⟨by rw[h1];simp only[getElem?_map,getElem?_range jF,map_some,hv,hp],h2⟩
   have k0:=(QB _ fZ.out.1.a.n.st.own).1;have HV:=hid (Zz hv hp);have yV:=hid QB;obtain⟨q,hq⟩:∃q,lz.length=q:=(⟨_,rfl⟩);have HQ:=hid hq;have j1:(k1:Int)<q:=(by omega);have j2:(0:Int)<=k1:=(by omega);obtain⟨pc,uM⟩:∃pc,(rv (rl (dM L) 256) xp).length=pc:=(⟨_,rfl⟩);have yw:=hid uM;have F0:(rl (dM L) 256).length<=256:=(by rw[zD];exact NZ _ _);have qN:=hid (znQ w.heap.size bn b7 b8 bL nn (rl (dM L) 256) aR cR _ DL w3.drew u9.out.l (fun x hx=>u9.out.lt x hx) (by omega) F0 xp);obtain⟨i0,xw,dy,cJ,cv⟩:=info_parts s9;have dz:=hid (fun (W:World) (h1:St W 104 b5 #[.pointer (some ⟨bn,0,none⟩)]) (h2:W.cell? ⟨bn,259,none⟩=some (.slice (some ⟨gS,0,none⟩) q cS)) (h3:St W 117 be #[.int .i64 (xf:Int),.int .i64 (xt:Int),.int .u64 ((wd xp 0:Nat):Int),.int .u64 ((wd xp 1:Nat):Int),.int .u64 ((wd xp 2:Nat):Int),.int .u64 ((wd xp 3:Nat):Int),.bool false])=>(⟨h1.at_ 0,h2,h3.at_ 2,h3.at_ 3,h3.at_ 4,h3.at_ 5⟩:W.cell? ⟨b5,0,none⟩=some (.pointer (some ⟨bn,0,none⟩))/\W.cell? ⟨bn,259,none⟩=some (.slice (some ⟨gS,0,none⟩) q cS)/\W.cell? ⟨be,2,none⟩=some (.int .u64 ((wd xp 0:Nat):Int))/\W.cell? ⟨be,3,none⟩=some (.int .u64 ((wd xp 1:Nat):Int))/\W.cell? ⟨be,4,none⟩=some (.int .u64 ((wd xp 2:Nat):Int))/\W.cell? ⟨be,5,none⟩=some (.int .u64 ((wd xp 3:Nat):Int))));have qe:=fZ.out.1.a.sT;have ue:w3.cell? ⟨bn,259,none⟩=some (.slice (some ⟨gS,0,none⟩) q cS):=(by rw[<-hq];exact fZ.out.1.a.n.cells.2.2);clear hv hp QB hq uM F0;refine wp_region_held_drew (S:=fun W'=>W'.cell? ⟨b5,0,none⟩=some (.pointer (some ⟨bn,0,none⟩))/\W'.cell? ⟨bn,259,none⟩=some (.slice (some ⟨gS,0,none⟩) q cS)/\W'.cell? ⟨be,2,none⟩=some (.int .u64 ((wd xp 0:Nat):Int))/\W'.cell? ⟨be,3,none⟩=some (.int .u64 ((wd xp 1:Nat):Int))/\W'.cell? ⟨be,4,none⟩=some (.int .u64 ((wd xp 2:Nat):Int))/\W'.cell? ⟨be,5,none⟩=some (.int .u64 ((wd xp 3:Nat):Int))) (by kernel_rfl) (dz.out _ qe.drew ue HE.out.drew) (fun hHeld=>?_)
   (refine an 0 ?_;refine an 1 ?_;refine an 2 ?_;try simp only[put,sA];refine an 3 ?_;refine an 4 ?_;refine an 5 ?_;try simp only[put,sA];refine an 6 ?_;refine an 7 ?_;refine an 8 ?_;try simp only[put,sA];refine an 9 ?_;refine an 10 ?_;refine an 12 ?_;try simp only[put,sA];refine an 13 ?_;refine an 14 ?_;refine an 16 ?_;try simp only[put,sA])
   refine wpAnyH_ready (rs:=[11,15]) (by kernel_rfl) (by simp) ?_;refine gG (fun K hK=>?_) ?_
   ·skip;go_simp;refine hK.out _ _ (dz.out _ qe.drew ue HE.out.drew) fun hHeld=>?_;clear hK K
    try simp only[put,sA]
    refine bf 15 (fun K hK=>?_);skip;go_simp;go_at_call 134;refine qN.out.mono ?_;rintro e w4 ⟨ac,cc,Cq,rfl,pM,GO,sd,fj⟩;have iA:=hid (u9.out.cls pM sd fj);have sK:Hid (St w4 117 be #[.int .i64 (xf:Int),.int .i64 (xt:Int),.int .u64 ((wd xp 0:Nat):Int),.int .u64 ((wd xp 1:Nat):Int),.int .u64 ((wd xp 2:Nat):Int),.int .u64 ((wd xp 3:Nat):Int),.bool false]):=WZ HE.out.drew u9.out.l sd;have Al:=hid GO;rw[yw.out];clear pM GO sd fj;have dr:=hid (iA.out.ab (al w4 (.cells #[.slice ac pc cc,.int .i64 (k2:Int)] 153)));have A4:=hid (sK.out.ab (al w4 (.cells #[.slice ac pc cc,.int .i64 (k2:Int)] 153)));have fe:=iA.out.a.sT;have jn:=dr.out.a.sT;have td:w4.cell? ⟨bn,259,none⟩=some (.slice (some ⟨gS,0,none⟩) q cS):=(by rw[<-HQ.out];exact iA.out.a.n.cells.2.2);have uf:(w4.alloc (.cells #[.slice ac pc cc,.int .i64 (k2:Int)] 153)).cell? ⟨bn,259,none⟩=some (.slice (some ⟨gS,0,none⟩) q cS):=(by rw[<-HQ.out];exact dr.out.a.n.cells.2.2);have k4:=(yV.out _ iA.out.a.n.st.own).1;have k5:=(yV.out _ dr.out.a.n.st.own).1;have dD:=dr.out.a.n.st.row k1 jF;rw[HV.out.1,HV.out.2] at dD;have yU:w.heap.size<=(w4.alloc (.cells #[.slice ac pc cc,.int .i64 (k2:Int)] 153)).heap.size:=dr.out.a.n.lo.2
    try go_wp2_with fail
    refine hK.out _ _ (dz.out _ fe td sK.out) fun hHeld=>?_;clear hK K
    try simp only[put,sA]
    (refine an 17 ?_;try simp only[put,sA])
    refine bf 18 (fun K hK=>?_);skip;go_simp;refine hK.out _ _ (dz.out _ jn uf A4.out) fun hHeld=>?_;clear hK K
    try simp only[put,sA]
    refine bf 19 (fun K hK=>?_);skip;skip;refine step_append_lies _ (by rfl) _ _ _ (by rfl) w.heap.size 153 i0 (.agg #[.slice none 0 0,.int .i64 0]) 2 32 underlying151 xw dy cJ cv (by rfl) (by decide) _ p (xs k1) (by rfl) dD ⟨w4.heap.size,0,none⟩ 1 1 (#[.slice ac pc cc,.int .i64 (k2:Int)]).toList (by rfl) (by rfl) (news_of_block (cs:=#[.slice ac pc cc,.int .i64 (k2:Int)]) (t:=153) (fr:=(0,0)) (heap_alloc_new w4 _)) (by simp[oneCell']) (by omega) (by unfold maxLen;omega) (by omega) yU (w4.heap.size+1) (by simp) ?_;intro gg fy w6 aj af dg lQ;have fx:=dr.out.a.n.st.row k1 jF;have gj:=af;rw[show (Value.slice BQ p AR)=wG k1 from by rw[HV.out.1,HV.out.2]] at gj;obtain⟨ud,tZ⟩:=dr.out.a.n.BX (x:=⟨k1,k2,xp,false⟩) rfl jF xE (v':=(.slice (some ⟨gg,0,none⟩) (p+1) fy)) (p:=p) aj HV.out.2 gj (fun b e=>by rw[HV.out.1,HV.out.2];injection e with e;rw[<-e];rcases dg with h|h;exact inl h;exact inr (by rw[h];simp));have fT:=dr.out.a.sT.ae fx (by decide) gj;have fS:=A4.out.ae fx (by decide) gj;have ji:=dr.out.a.n.sn.ae fx (by decide) gj;have p9:w6.cell? ⟨bn,259,none⟩=some (.slice (some ⟨gS,0,none⟩) q cS):=(by rw[ji.at_,<-dr.out.a.n.sn.at_];exact uf);have kr:=sw dr.out.a.n.st.own fx (by decide) gj;obtain⟨t2,t3⟩:=yV.out _ kr;have gW:b5≠gS/\bn≠gS/\be≠gS:=(⟨fun e=>ew kr fT (by decide) gS rfl e.symm,fun e=>ew kr ji (by decide) gS rfl e.symm,fun e=>ew kr fS (by decide) gS rfl e.symm⟩);have HF:Hid (mO w w.heap.size b2 b3 b5 b6 b7 b8 bn bM bL (.func (.func kf) #[] #[.pointer (some ⟨bV,0,none⟩)]) mf #[.int .i64 S0,.slice (some ⟨ge,off,none⟩) n c,.int .i64 (F:Int),.int .i64 T] (cN.setIfInBounds 256 (.int .i64 (f0:Int))) (rl (dM L) 256) aR cR L F f0 (k+1) (2*(k+1)+1) (nn+1) lz Bu Fi (.slice (some ⟨gS,0,none⟩) q cS) xd (fun j=>if j=k1 then (.slice (some ⟨gg,0,none⟩) (p+1) fy) else wG j) (fun j=>if j=k1 then xs k1++(#[.slice ac pc cc,.int .i64 (k2:Int)]).toList else xs j) (L1++[⟨k1,k2,xp,false⟩]) Cq (w6.setCell ⟨gS,k1,none⟩ (.slice (some ⟨gg,0,none⟩) (p+1) fy))):=by
     rw[<-HQ.out];refine dr.out.put (x:=⟨xf,xt,xp,false⟩) ud tZ HS.out HK.out.1 HK.out.2 (fun i hi=>?_);rw[DZ];by_cases e:i=k1
     ·subst e;rw[if_pos ⟨rfl,rfl⟩,if_pos rfl];have xC:=(iY.ab (B:=w.heap.size) (bn:=bn) (P:=rX bL bM bn lz.length Bu Fi (.slice (some ⟨gS,0,none⟩) lz.length cS) xd wG) (al w4 (.cells #[.slice ac pc cc,.int .i64 (k2:Int)] 153)) iA.out.a.n.lo.2).Fb Al.out;have:=(dr.out.rows i hi).snoc ⟨i,k2,xp,false⟩ ac cc xC;dsimp only at this;rw[yw.out] at this;exact this
     rw[if_neg (fun h=>e h.2.symm),if_neg e];exact dr.out.rows i hi
    refine hK.out _ _ (dz.out _ fT p9 fS) fun hHeld=>?_;clear hK K aj af dg lQ ud tZ fx gj kr ji
    try simp only[put,sA]
    (refine an 20 ?_;try simp only[put,sA])
    refine bf 21 (fun K hK=>?_);skip;go_simp;refine hK.out _ _ (dz.out _ (fT.fA (p:=⟨gS,k1,none⟩) gW.1 _) ((Kp _ _ _ gW.2.1).trans p9) (fS.fA (p:=⟨gS,k1,none⟩) gW.2.2 _)) fun hHeld=>?_;clear hK K
    try simp only[put,sA]
    refine wpAnyH_done (by kernel_rfl) ?_ _;clear fT gW p9 t2 t3 hHeld qe fe jn ue td uf k0 k4 k5 fS;go_wp2;go_roundw
    ·exact⟨k+1,nn+1,lz,_,_,_,_,_,_,_,Cq,by go_num,by omega,by omega,HF⟩
    simp[intOf];omega
   refine gG (fun K hK=>?_) ?_
   ·skip;go_simp;go_at_call 134;refine qN.out.mono ?_;rintro e w4 ⟨ac,cc,Cq,rfl,pM,GO,sd,fj⟩;have iA:=hid (u9.out.cls pM sd fj);have sK:Hid (St w4 117 be #[.int .i64 (xf:Int),.int .i64 (xt:Int),.int .u64 ((wd xp 0:Nat):Int),.int .u64 ((wd xp 1:Nat):Int),.int .u64 ((wd xp 2:Nat):Int),.int .u64 ((wd xp 3:Nat):Int),.bool false]):=WZ HE.out.drew u9.out.l sd;have Al:=hid GO;rw[yw.out];clear pM GO sd fj;have dr:=hid (iA.out.ab (al w4 (.cells #[.slice ac pc cc,.int .i64 (k2:Int)] 153)));have A4:=hid (sK.out.ab (al w4 (.cells #[.slice ac pc cc,.int .i64 (k2:Int)] 153)));have fe:=iA.out.a.sT;have jn:=dr.out.a.sT;have td:w4.cell? ⟨bn,259,none⟩=some (.slice (some ⟨gS,0,none⟩) q cS):=(by rw[<-HQ.out];exact iA.out.a.n.cells.2.2);have uf:(w4.alloc (.cells #[.slice ac pc cc,.int .i64 (k2:Int)] 153)).cell? ⟨bn,259,none⟩=some (.slice (some ⟨gS,0,none⟩) q cS):=(by rw[<-HQ.out];exact dr.out.a.n.cells.2.2);have k4:=(yV.out _ iA.out.a.n.st.own).1;have k5:=(yV.out _ dr.out.a.n.st.own).1;have dD:=dr.out.a.n.st.row k1 jF;rw[HV.out.1,HV.out.2] at dD;have yU:w.heap.size<=(w4.alloc (.cells #[.slice ac pc cc,.int .i64 (k2:Int)] 153)).heap.size:=dr.out.a.n.lo.2
    try go_wp2_with fail
    refine hK.out _ _ (dz.out _ fe td sK.out) fun hHeld=>?_;clear hK K
    try simp only[put,sA]
    (refine an 17 ?_;try simp only[put,sA])
    refine wpAnyH_ready (rs:=[11,18]) (by kernel_rfl) (by simp) ?_;refine gG (fun K hK=>?_) ?_
    ·skip;go_simp;refine hK.out _ _ (dz.out _ fe td sK.out) fun hHeld=>?_;clear hK K
     try simp only[put,sA]
     refine bf 18 (fun K hK=>?_);skip;go_simp;refine hK.out _ _ (dz.out _ jn uf A4.out) fun hHeld=>?_;clear hK K
     try simp only[put,sA]
     refine bf 19 (fun K hK=>?_);skip;skip;refine step_append_lies _ (by rfl) _ _ _ (by rfl) w.heap.size 153 i0 (.agg #[.slice none 0 0,.int .i64 0]) 2 32 underlying151 xw dy cJ cv (by rfl) (by decide) _ p (xs k1) (by rfl) dD ⟨w4.heap.size,0,none⟩ 1 1 (#[.slice ac pc cc,.int .i64 (k2:Int)]).toList (by rfl) (by rfl) (news_of_block (cs:=#[.slice ac pc cc,.int .i64 (k2:Int)]) (t:=153) (fr:=(0,0)) (heap_alloc_new w4 _)) (by simp[oneCell']) (by omega) (by unfold maxLen;omega) (by omega) yU (w4.heap.size+1) (by simp) ?_;intro gg fy w6 aj af dg lQ;have fx:=dr.out.a.n.st.row k1 jF;have gj:=af;rw[show (Value.slice BQ p AR)=wG k1 from by rw[HV.out.1,HV.out.2]] at gj;obtain⟨ud,tZ⟩:=dr.out.a.n.BX (x:=⟨k1,k2,xp,false⟩) rfl jF xE (v':=(.slice (some ⟨gg,0,none⟩) (p+1) fy)) (p:=p) aj HV.out.2 gj (fun b e=>by rw[HV.out.1,HV.out.2];injection e with e;rw[<-e];rcases dg with h|h;exact inl h;exact inr (by rw[h];simp));have fT:=dr.out.a.sT.ae fx (by decide) gj;have fS:=A4.out.ae fx (by decide) gj;have ji:=dr.out.a.n.sn.ae fx (by decide) gj;have p9:w6.cell? ⟨bn,259,none⟩=some (.slice (some ⟨gS,0,none⟩) q cS):=(by rw[ji.at_,<-dr.out.a.n.sn.at_];exact uf);have kr:=sw dr.out.a.n.st.own fx (by decide) gj;obtain⟨t2,t3⟩:=yV.out _ kr;have gW:b5≠gS/\bn≠gS/\be≠gS:=(⟨fun e=>ew kr fT (by decide) gS rfl e.symm,fun e=>ew kr ji (by decide) gS rfl e.symm,fun e=>ew kr fS (by decide) gS rfl e.symm⟩);have HF:Hid (mO w w.heap.size b2 b3 b5 b6 b7 b8 bn bM bL (.func (.func kf) #[] #[.pointer (some ⟨bV,0,none⟩)]) mf #[.int .i64 S0,.slice (some ⟨ge,off,none⟩) n c,.int .i64 (F:Int),.int .i64 T] (cN.setIfInBounds 256 (.int .i64 (f0:Int))) (rl (dM L) 256) aR cR L F f0 (k+1) (2*(k+1)+1) (nn+1) lz Bu Fi (.slice (some ⟨gS,0,none⟩) q cS) xd (fun j=>if j=k1 then (.slice (some ⟨gg,0,none⟩) (p+1) fy) else wG j) (fun j=>if j=k1 then xs k1++(#[.slice ac pc cc,.int .i64 (k2:Int)]).toList else xs j) (L1++[⟨k1,k2,xp,false⟩]) Cq (w6.setCell ⟨gS,k1,none⟩ (.slice (some ⟨gg,0,none⟩) (p+1) fy))):=by
      rw[<-HQ.out];refine dr.out.put (x:=⟨xf,xt,xp,false⟩) ud tZ HS.out HK.out.1 HK.out.2 (fun i hi=>?_);rw[DZ];by_cases e:i=k1
      ·subst e;rw[if_pos ⟨rfl,rfl⟩,if_pos rfl];have xC:=(iY.ab (B:=w.heap.size) (bn:=bn) (P:=rX bL bM bn lz.length Bu Fi (.slice (some ⟨gS,0,none⟩) lz.length cS) xd wG) (al w4 (.cells #[.slice ac pc cc,.int .i64 (k2:Int)] 153)) iA.out.a.n.lo.2).Fb Al.out;have:=(dr.out.rows i hi).snoc ⟨i,k2,xp,false⟩ ac cc xC;dsimp only at this;rw[yw.out] at this;exact this
      rw[if_neg (fun h=>e h.2.symm),if_neg e];exact dr.out.rows i hi
     refine hK.out _ _ (dz.out _ fT p9 fS) fun hHeld=>?_;clear hK K aj af dg lQ ud tZ fx gj kr ji
     try simp only[put,sA]
     (refine an 20 ?_;try simp only[put,sA])
     refine bf 21 (fun K hK=>?_);skip;go_simp;refine hK.out _ _ (dz.out _ (fT.fA (p:=⟨gS,k1,none⟩) gW.1 _) ((Kp _ _ _ gW.2.1).trans p9) (fS.fA (p:=⟨gS,k1,none⟩) gW.2.2 _)) fun hHeld=>?_;clear hK K
     try simp only[put,sA]
     refine wpAnyH_done (by kernel_rfl) ?_ _;clear fT gW p9 t2 t3 hHeld qe fe jn ue td uf k0 k4 k5 fS;go_wp2;go_roundw
     ·exact⟨k+1,nn+1,lz,_,_,_,_,_,_,_,Cq,by go_num,by omega,by omega,HF⟩
     simp[intOf];omega
    refine gG (fun K hK=>?_) ?_
    ·skip;go_simp;refine hK.out _ _ (dz.out _ jn uf A4.out) fun hHeld=>?_;clear hK K
     try simp only[put,sA]
     refine bf 11 (fun K hK=>?_);skip;go_simp;refine hK.out _ _ (dz.out _ jn uf A4.out) fun hHeld=>?_;clear hK K
     try simp only[put,sA]
     refine bf 19 (fun K hK=>?_);skip;skip;refine step_append_lies _ (by rfl) _ _ _ (by rfl) w.heap.size 153 i0 (.agg #[.slice none 0 0,.int .i64 0]) 2 32 underlying151 xw dy cJ cv (by rfl) (by decide) _ p (xs k1) (by rfl) dD ⟨w4.heap.size,0,none⟩ 1 1 (#[.slice ac pc cc,.int .i64 (k2:Int)]).toList (by rfl) (by rfl) (news_of_block (cs:=#[.slice ac pc cc,.int .i64 (k2:Int)]) (t:=153) (fr:=(0,0)) (heap_alloc_new w4 _)) (by simp[oneCell']) (by omega) (by unfold maxLen;omega) (by omega) yU (w4.heap.size+1) (by simp) ?_;intro gg fy w6 aj af dg lQ;have fx:=dr.out.a.n.st.row k1 jF;have gj:=af;rw[show (Value.slice BQ p AR)=wG k1 from by rw[HV.out.1,HV.out.2]] at gj;obtain⟨ud,tZ⟩:=dr.out.a.n.BX (x:=⟨k1,k2,xp,false⟩) rfl jF xE (v':=(.slice (some ⟨gg,0,none⟩) (p+1) fy)) (p:=p) aj HV.out.2 gj (fun b e=>by rw[HV.out.1,HV.out.2];injection e with e;rw[<-e];rcases dg with h|h;exact inl h;exact inr (by rw[h];simp));have fT:=dr.out.a.sT.ae fx (by decide) gj;have fS:=A4.out.ae fx (by decide) gj;have ji:=dr.out.a.n.sn.ae fx (by decide) gj;have p9:w6.cell? ⟨bn,259,none⟩=some (.slice (some ⟨gS,0,none⟩) q cS):=(by rw[ji.at_,<-dr.out.a.n.sn.at_];exact uf);have kr:=sw dr.out.a.n.st.own fx (by decide) gj;obtain⟨t2,t3⟩:=yV.out _ kr;have gW:b5≠gS/\bn≠gS/\be≠gS:=(⟨fun e=>ew kr fT (by decide) gS rfl e.symm,fun e=>ew kr ji (by decide) gS rfl e.symm,fun e=>ew kr fS (by decide) gS rfl e.symm⟩);have HF:Hid (mO w w.heap.size b2 b3 b5 b6 b7 b8 bn bM bL (.func (.func kf) #[] #[.pointer (some ⟨bV,0,none⟩)]) mf #[.int .i64 S0,.slice (some ⟨ge,off,none⟩) n c,.int .i64 (F:Int),.int .i64 T] (cN.setIfInBounds 256 (.int .i64 (f0:Int))) (rl (dM L) 256) aR cR L F f0 (k+1) (2*(k+1)+1) (nn+1) lz Bu Fi (.slice (some ⟨gS,0,none⟩) q cS) xd (fun j=>if j=k1 then (.slice (some ⟨gg,0,none⟩) (p+1) fy) else wG j) (fun j=>if j=k1 then xs k1++(#[.slice ac pc cc,.int .i64 (k2:Int)]).toList else xs j) (L1++[⟨k1,k2,xp,false⟩]) Cq (w6.setCell ⟨gS,k1,none⟩ (.slice (some ⟨gg,0,none⟩) (p+1) fy))):=by
      rw[<-HQ.out];refine dr.out.put (x:=⟨xf,xt,xp,false⟩) ud tZ HS.out HK.out.1 HK.out.2 (fun i hi=>?_);rw[DZ];by_cases e:i=k1
      ·subst e;rw[if_pos ⟨rfl,rfl⟩,if_pos rfl];have xC:=(iY.ab (B:=w.heap.size) (bn:=bn) (P:=rX bL bM bn lz.length Bu Fi (.slice (some ⟨gS,0,none⟩) lz.length cS) xd wG) (al w4 (.cells #[.slice ac pc cc,.int .i64 (k2:Int)] 153)) iA.out.a.n.lo.2).Fb Al.out;have:=(dr.out.rows i hi).snoc ⟨i,k2,xp,false⟩ ac cc xC;dsimp only at this;rw[yw.out] at this;exact this
      rw[if_neg (fun h=>e h.2.symm),if_neg e];exact dr.out.rows i hi
     refine hK.out _ _ (dz.out _ fT p9 fS) fun hHeld=>?_;clear hK K aj af dg lQ ud tZ fx gj kr ji
     try simp only[put,sA]
     (refine an 20 ?_;try simp only[put,sA])
     refine bf 21 (fun K hK=>?_);skip;go_simp;refine hK.out _ _ (dz.out _ (fT.fA (p:=⟨gS,k1,none⟩) gW.1 _) ((Kp _ _ _ gW.2.1).trans p9) (fS.fA (p:=⟨gS,k1,none⟩) gW.2.2 _)) fun hHeld=>?_;clear hK K
     try simp only[put,sA]
     refine wpAnyH_done (by kernel_rfl) ?_ _;clear fT gW p9 t2 t3 hHeld qe fe jn ue td uf k0 k4 k5 fS;go_wp2;go_roundw
     ·exact⟨k+1,nn+1,lz,_,_,_,_,_,_,_,Cq,by go_num,by omega,by omega,HF⟩
     simp[intOf];omega
    exact AllReadyH.nil
   exact AllReadyH.nil
  skip;go_wp2_with fail;obtain⟨aF,cF,rfl⟩:=bP fZ.out.1.a.n.fr.own;obtain⟨gF,rfl,-,-,-⟩:=ek fZ.out.1.a.n.fr.own tL;obtain⟨BQ,AR,hv⟩:=bP (fZ.out.1.a.n.fr.row k1 jF)
  try dsimp only at hv
  have iA:=hid (fZ.out.1.ab (show Below w3.heap.size w3 (w3.alloc (.cells #[.int .i64 (k2:Int)] 3)).drew from (al w3 _).drew));have dD:=iA.out.a.n.fr.row k1 jF;rw[hv] at dD
  try dsimp only at dD
  obtain⟨p,hp⟩:∃p,(eo L1 k1).length=p:=⟨_,rfl⟩
  have um:p<=6400:=by rw[<-hp];exact le_trans (Wy _ _) fZ.out.2.2.2.2
  have oh:=fZ.out.1.a.n.fr.own;have Nc:∀W:World,W.ownsRow w.heap.size 27 1 (.slice (some ⟨gF,0,none⟩) lz.length cF) lz.length ((range lz.length).map xd)->W.cell? ⟨gF,k1,none⟩=some (.slice BQ p AR)/\W.frozen? ⟨gF,k1,none⟩=false:=fun W hW=>by
   obtain⟨g,e,_,_,hc⟩:=ek hW tL;injection e with e;injection e with e;subst e;obtain⟨h1,h2⟩:=hc k1 (by omega);exact⟨by rw[h1];simp only[getElem?_map,getElem?_range jF,map_some,hv,hp],h2⟩
  have k0:=(Nc _ fZ.out.1.a.n.fr.own).1;have m2:=(Nc _ iA.out.a.n.fr.own).1;have HV:=hid (Zz hv hp);have yV:=hid Nc;obtain⟨q,hq⟩:∃q,lz.length=q:=⟨_,rfl⟩
  have HQ:=hid hq;have j1:(k1:Int)<q:=by omega
  have j2:(0:Int)<=k1:=by omega
  have yU:w.heap.size<=((w3.alloc (.cells #[.int .i64 (k2:Int)] 3)).drew).heap.size:=iA.out.a.n.lo.2;rw[hp] at dD;obtain⟨i0,xw,dy,cJ,cv⟩:=info_parts aG;have dz:=hid (fun (W:World) (h1:St W 104 b5 #[.pointer (some ⟨bn,0,none⟩)]) (h2:W.cell? ⟨bn,258,none⟩=some (.slice (some ⟨gF,0,none⟩) q cF))=>(⟨h1.at_ 0,h2⟩:W.cell? ⟨b5,0,none⟩=some (.pointer (some ⟨bn,0,none⟩))/\W.cell? ⟨bn,258,none⟩=some (.slice (some ⟨gF,0,none⟩) q cF)));have qe:=fZ.out.1.a.sT;have fe:=iA.out.a.sT;have ue:w3.cell? ⟨bn,258,none⟩=some (.slice (some ⟨gF,0,none⟩) q cF):=by rw[<-hq];exact fZ.out.1.a.n.cells.2.1
  have td:((w3.alloc (.cells #[.int .i64 (k2:Int)] 3)).drew).cell? ⟨bn,258,none⟩=some (.slice (some ⟨gF,0,none⟩) q cF):=by rw[<-hq];exact iA.out.a.n.cells.2.1
  clear hv hp oh Nc hq;refine wp_region_held_drew (S:=fun W'=>W'.cell? ⟨b5,0,none⟩=some (.pointer (some ⟨bn,0,none⟩))/\W'.cell? ⟨bn,258,none⟩=some (.slice (some ⟨gF,0,none⟩) q cF)) (by kernel_rfl) (dz.out _ qe.drew ue) (fun hHeld=>?_)
  (refine an 0 ?_;refine an 1 ?_;refine an 2 ?_;try simp only[put,sA];refine an 3 ?_;refine an 4 ?_;refine an 5 ?_;try simp only[put,sA];refine an 6 ?_;refine an 7 ?_;refine an 8 ?_;try simp only[put,sA];refine an 9 ?_;refine an 10 ?_;refine an 12 ?_;try simp only[put,sA])
  refine wpAnyH_ready (rs:=[11,13]) (by kernel_rfl) (by simp) ?_;refine gG (fun K hK=>?_) ?_
  ·skip;go_simp;refine hK.out _ _ (dz.out _ qe.drew ue) fun hHeld=>?_;clear hK K
   try simp only[put,sA]
   refine bf 13 (fun K hK=>?_);skip;go_simp;refine hK.out _ _ (dz.out _ fe td) fun hHeld=>?_;clear hK K
   try simp only[put,sA]
   refine bf 14 (fun K hK=>?_);skip;skip;refine step_append_lies _ (by rfl) _ _ _ (by rfl) w.heap.size 3 i0 (.int .i64 0) 1 8 underlying27 xw dy cJ cv (by rfl) (by decide) _ p (cW (eo L1 k1)) (by rfl) dD ⟨w3.heap.size,0,none⟩ 1 1 (#[.int .i64 (k2:Int)]).toList (by rfl) (by rfl) (news_of_block (cs:=#[.int .i64 (k2:Int)]) (t:=3) (fr:=(0,0)) (heap_alloc_new w3 _)) (by simp[oneCell']) (by omega) (by unfold maxLen;omega) (by omega) yU (w3.heap.size+1) (by simp) ?_;intro gg fy w6 aj af dg lQ;have fx:=iA.out.a.n.fr.row k1 jF;have gj:=af;rw[show (Value.slice BQ p AR)=xd k1 from by rw[HV.out.1,HV.out.2]] at gj;obtain⟨ud,tZ⟩:=iA.out.a.n.Gb (x:=⟨k1,k2,xp,true⟩) rfl jF xE (v':=(.slice (some ⟨gg,0,none⟩) (p+1) fy)) (p:=p) aj HV.out.2 gj (fun b e=>by rw[HV.out.1,HV.out.2];injection e with e;rw[<-e];rcases dg with h|h;exact inl h;exact inr (by rw[h];simp));have fT:=iA.out.a.sT.ae fx (by decide) gj;have ji:=iA.out.a.n.sn.ae fx (by decide) gj;have p9:w6.cell? ⟨bn,258,none⟩=some (.slice (some ⟨gF,0,none⟩) q cF):=(by rw[ji.at_,<-iA.out.a.n.sn.at_];exact td);have kr:=sw iA.out.a.n.fr.own fx (by decide) gj;obtain⟨t2,t3⟩:=yV.out _ kr;have gW:b5≠gF/\bn≠gF:=(⟨fun e=>ew kr fT (by decide) gF rfl e.symm,fun e=>ew kr ji (by decide) gF rfl e.symm⟩);have HF:Hid (mO w w.heap.size b2 b3 b5 b6 b7 b8 bn bM bL (.func (.func kf) #[] #[.pointer (some ⟨bV,0,none⟩)]) mf #[.int .i64 S0,.slice (some ⟨ge,off,none⟩) n c,.int .i64 (F:Int),.int .i64 T] (cN.setIfInBounds 256 (.int .i64 (f0:Int))) (rl (dM L) 256) aR cR L F f0 (k+1) (2*(k+1)+1) nn lz Bu (.slice (some ⟨gF,0,none⟩) q cF) se (fun j=>if j=k1 then (.slice (some ⟨gg,0,none⟩) (p+1) fy) else xd j) wG xs (L1++[⟨k1,k2,xp,true⟩]) DL (w6.setCell ⟨gF,k1,none⟩ (.slice (some ⟨gg,0,none⟩) (p+1) fy))):=by
    rw[<-HQ.out];exact iA.out.put (x:=⟨xf,xt,xp,true⟩) ud tZ HS.out HK.out.1 HK.out.2 (fun i hi=>by rw[DZ,if_neg (by simp)];exact iA.out.rows i hi)
   refine hK.out _ _ (dz.out _ fT p9) fun hHeld=>?_;clear hK K aj af dg lQ ud tZ fx gj kr ji
   try simp only[put,sA]
   (refine an 15 ?_;try simp only[put,sA])
   refine bf 16 (fun K hK=>?_);skip;go_simp;refine hK.out _ _ (dz.out _ (fT.fA (p:=⟨gF,k1,none⟩) gW.1 _) ((Kp _ _ _ gW.2).trans p9)) fun hHeld=>?_;clear hK K
   try simp only[put,sA]
   refine wpAnyH_done (by kernel_rfl) ?_ _;clear fT gW p9 t2 t3 hHeld qe fe ue td;go_wp2;go_roundw
   ·exact⟨k+1,nn,lz,_,_,_,_,_,_,_,DL,by go_num,by omega,by omega,HF⟩
   simp[intOf];omega
  refine gG (fun K hK=>?_) ?_
  ·skip;go_simp;refine hK.out _ _ (dz.out _ fe td) fun hHeld=>?_;clear hK K
   try simp only[put,sA]
   refine bf 11 (fun K hK=>?_);skip;go_simp;refine hK.out _ _ (dz.out _ fe td) fun hHeld=>?_;clear hK K
   try simp only[put,sA]
   refine bf 14 (fun K hK=>?_);skip;skip;refine step_append_lies _ (by rfl) _ _ _ (by rfl) w.heap.size 3 i0 (.int .i64 0) 1 8 underlying27 xw dy cJ cv (by rfl) (by decide) _ p (cW (eo L1 k1)) (by rfl) dD ⟨w3.heap.size,0,none⟩ 1 1 (#[.int .i64 (k2:Int)]).toList (by rfl) (by rfl) (news_of_block (cs:=#[.int .i64 (k2:Int)]) (t:=3) (fr:=(0,0)) (heap_alloc_new w3 _)) (by simp[oneCell']) (by omega) (by unfold maxLen;omega) (by omega) yU (w3.heap.size+1) (by simp) ?_;intro gg fy w6 aj af dg lQ;have fx:=iA.out.a.n.fr.row k1 jF;have gj:=af;rw[show (Value.slice BQ p AR)=xd k1 from by rw[HV.out.1,HV.out.2]] at gj;obtain⟨ud,tZ⟩:=iA.out.a.n.Gb (x:=⟨k1,k2,xp,true⟩) rfl jF xE (v':=(.slice (some ⟨gg,0,none⟩) (p+1) fy)) (p:=p) aj HV.out.2 gj (fun b e=>by rw[HV.out.1,HV.out.2];injection e with e;rw[<-e];rcases dg with h|h;exact inl h;exact inr (by rw[h];simp));have fT:=iA.out.a.sT.ae fx (by decide) gj;have ji:=iA.out.a.n.sn.ae fx (by decide) gj;have p9:w6.cell? ⟨bn,258,none⟩=some (.slice (some ⟨gF,0,none⟩) q cF):=(by rw[ji.at_,<-iA.out.a.n.sn.at_];exact td);have kr:=sw iA.out.a.n.fr.own fx (by decide) gj;obtain⟨t2,t3⟩:=yV.out _ kr;have gW:b5≠gF/\bn≠gF:=(⟨fun e=>ew kr fT (by decide) gF rfl e.symm,fun e=>ew kr ji (by decide) gF rfl e.symm⟩);have HF:Hid (mO w w.heap.size b2 b3 b5 b6 b7 b8 bn bM bL (.func (.func kf) #[] #[.pointer (some ⟨bV,0,none⟩)]) mf #[.int .i64 S0,.slice (some ⟨ge,off,none⟩) n c,.int .i64 (F:Int),.int .i64 T] (cN.setIfInBounds 256 (.int .i64 (f0:Int))) (rl (dM L) 256) aR cR L F f0 (k+1) (2*(k+1)+1) nn lz Bu (.slice (some ⟨gF,0,none⟩) q cF) se (fun j=>if j=k1 then (.slice (some ⟨gg,0,none⟩) (p+1) fy) else xd j) wG xs (L1++[⟨k1,k2,xp,true⟩]) DL (w6.setCell ⟨gF,k1,none⟩ (.slice (some ⟨gg,0,none⟩) (p+1) fy))):=by
    rw[<-HQ.out];exact iA.out.put (x:=⟨xf,xt,xp,true⟩) ud tZ HS.out HK.out.1 HK.out.2 (fun i hi=>by rw[DZ,if_neg (by simp)];exact iA.out.rows i hi)
   refine hK.out _ _ (dz.out _ fT p9) fun hHeld=>?_;clear hK K aj af dg lQ ud tZ fx gj kr ji
   try simp only[put,sA]
   (refine an 15 ?_;try simp only[put,sA])
   refine bf 16 (fun K hK=>?_);skip;go_simp;refine hK.out _ _ (dz.out _ (fT.fA (p:=⟨gF,k1,none⟩) gW.1 _) ((Kp _ _ _ gW.2).trans p9)) fun hHeld=>?_;clear hK K
   try simp only[put,sA]
   refine wpAnyH_done (by kernel_rfl) ?_ _;clear fT gW p9 t2 t3 hHeld qe fe ue td;go_wp2;go_roundw
   ·exact⟨k+1,nn,lz,_,_,_,_,_,_,_,DL,by go_num,by omega,by omega,HF⟩
   simp[intOf];omega
  exact AllReadyH.nil
 obtain rfl:k=n:=by omega
 have s0:wr.cell? ⟨b5,0,none⟩=some (.pointer (some ⟨bn,0,none⟩)):=HA.out.a.sT.at_ 0;have HF:Hid (J4 (dM L) mf L F w (.returned (.pointer (some ⟨bn,0,none⟩))) wr):=by
  have Bg:=HA.out.rel;rw[show L.take k=L by rw[<-HH.out.2.2.2.1];exact take_length] at Bg;have hpos:0<nm.length:=by
   have:=(List.getElem?_eq_some_iff.1 HA.out.hf).1;omega
  have zR:∀i (h:i<nm.length),nm.getD i 0=nm[i]:=fun i h=>by simp[List.getD,h]
  obtain⟨gM,cM,gF,cF,gS,cS,h1,h2,h3⟩:=HA.out.a.n.net (mk:=fun i=>mf (nm.getD i 0)) hpos HA.out.rows (fun i hi=>by simp[hi]);refine⟨bn,f0,gM,cM,gF,cF,gS,cS,nm,L1,_,_,_,_,csA,rfl,HA.out.a.aP,h1,h2,h3,HA.out.a.n.cl HN.out.1 HN.out.2.1 (fun j hj=>by rw[getElem?_setIfInBounds_ne (by omega)];exact HN.out.2.2.2.1 j hj),?_,Bg,HA.out.a.nd,HA.out.bd,HA.out.hf,by have:=HA.out.len;have:=HH.out.2.2.2.1;omega,HA.out.src⟩;rw[HA.out.a.n.sn.at_,getElem?_setIfInBounds_ne (by decide),getElem?_setIfInBounds_ne (by decide),getElem?_setIfInBounds_ne (by decide),Array.getElem?_setIfInBounds_self_of_lt (by rw[HN.out.2.2.1];decide)]
 go_wp2;go_ret;exact HF.out
theorem zmf(l:List Nat)(hl:∀x∈l,x<256)(i:Nat)(h:i<l.length):fw (strOf l) i=l[i]:=by
 have hs:i<(strOf l).size:=by rw[zd];exact h
 rw[<-M3 _ i hs];have h1:((strOf l).data.toList)[i]?=some ((strOf l)[i]'hs):=by
  rw[getElem?_toList];exact Array.getElem?_eq_getElem hs
 rw[yJ,getElem?_map,List.getElem?_eq_getElem h] at h1;simp only[map_some,Option.some.injEq] at h1;rw[<-h1];have:=hl l[i] (getElem_mem h);simp[UInt8.toNat_ofNat];omega
theorem zp0(M:Nat)(f:Nat->Bool)(i:Nat)(h:i<(M+7) / 8):fw (kj M f) i=kG (cj f M) i:=by
 unfold kj;rw[zmf _ (KC f M) i (by simp[fR];omega)];simp[fR]
theorem zn0(M:Nat)(f:Nat->Bool):(kj M f).size=(M+7) / 8:=by unfold kj;rw[zd];simp[fR]
def pW(L:List En)(rp:Nat->Nat)(es:List En)(c x:Nat):Prop:=∃e∈es,e.p (rp c)=true/\e.t=x
def mZ(L:List En)(Ls:List Nat)(i:Nat):Nat:=((Ls.take i).flatMap (dk L)).length
def kg(lc:List Nat)(j c:Nat):Nat:=if c∈lc.take j then 1 else 0
theorem Vq(lc:List Nat)(j c:Nat):kg lc j c<=1:=by unfold kg;split <;> omega
theorem zko(hn:lc.Nodup)(h:lc.take (j+1)=lc.take j++[x]):kg lc j x=0/\kg lc (j+1) x=1:=by
 have h1:(lc.take j++[x]).Nodup:=by rw[<-h];exact hn.sublist (List.take_sublist _ _)
 have h2:x∉lc.take j:=fun hx=>(List.nodup_append.1 h1).2.2 x hx x (by simp) rfl
 unfold kg;rw[h,if_neg h2,if_pos (by simp)];exact⟨rfl,rfl⟩
theorem zib(h:lc.take (j+1)=lc.take j++[x])(hc:c≠x):kg lc (j+1) c=kg lc j c:=by
 unfold kg;rw[h];simp[hc]
theorem zmg(L:List En)(Ls:List Nat):mZ L Ls 0=0:=rfl
theorem zmh{st:Nat}(h:Ls.take (i+1)=Ls.take i++[st]):mZ L Ls (i+1)=mZ L Ls i+(dk L st).length:=by
 unfold mZ;rw[h,List.flatMap_append,List.length_append];simp
theorem zmi(Ls:List Nat)(hn:Ls.Nodup):∀L:List En,(Ls.flatMap (dk L)).length<=L.length:=by
 intro L
 induction L with
 | nil=>
  have:Ls.flatMap (dk [])=[]:=by simp[dk]
  rw[this];exact le_refl _
 | cons e L ih=>
  have key:∀l:List Nat,l.Nodup->(l.flatMap (dk (e :: L))).length<=(l.flatMap (dk L)).length+(if e.f∈l then 1 else 0):=by
   intro l hl
   induction l with
   | nil=>simp
   | cons a l ih2=>
    have h1:=ih2 (List.nodup_cons.1 hl).2;have h2:(dk (e :: L) a).length<=(dk L a).length+(if e.f=a then 1 else 0):=by
     unfold dk;rw[List.filter_cons];by_cases he:e.f=a
     ·rw[if_pos he];split <;> simp
     rw[if_neg he];have:(!e.b && e.f == a)=false:=(by simp[he]);rw[if_neg (by rw[this];decide)];exact le_refl _
    simp only[List.flatMap_cons,List.length_append];by_cases ha:e.f=a
    ·have h3:e.f∉l:=(by rw[ha];exact (List.nodup_cons.1 hl).1);rw[if_neg h3] at h1;rw[if_pos ha] at h2;rw[if_pos (by simp[ha])];omega
    rw[if_neg ha] at h2;by_cases hb:e.f∈l
    ·rw[if_pos hb] at h1;rw[if_pos (List.mem_cons_of_mem _ hb)];omega
    rw[if_neg hb] at h1;split <;> omega
  have h4:=key Ls hn;have h5:(if e.f∈Ls then 1 else 0)<=1:=by split <;> omega
  simp only[List.length_cons];omega
theorem Q3(L:List En)(hn:Ls.Nodup)(i:Nat):mZ L Ls i<=L.length:=zmi (Ls.take i) (hn.sublist (List.take_sublist _ _)) L
def Vp(B bm gI bM m M C bn:Nat)(K:Nat->Lit)(L:List En)(mk:Nat->Int)(SS:List (Nat->Bool))(R:List (List Int))(T:Nat->Nat->Prop)(w:World)(e:Ending)(w':World):Prop:=
 ∃(row:List Int) (jR:List (Nat->Bool)) (tQ:List Int) (D':List ((Nat->Bool) × Nat)) (n':Nat) (iR:Array Value) (l':List Nat) (jf vS' vK' vN':Value) (gs':List Nat),e=.returned (.tuple #[])/\
  lY B bm gI bM m M C bn K L mk jR tQ D' (R++[row]) n' iR l' jf vS' vK' vN' gs' w'/\iw M T SS C row jR/\Below B w w'
theorem zn1(B bm gI bM m M C bn gM cM gF cF gS cS n fr:Nat)(aF aS:Nat->Option Addr)(Ev EK rp:Nat->Nat)(K:Nat->Lit)(L:List En)(mk:Nat->Int)(w:World)
  (HF:mc w B bn gF M cF aF Ev L) (HT:pv w B bn gS M cS aS EK (fun p=>dd (fun c=>p (rp c)) C) L) (HV:kX w B bn gM M cM mk) (hE:∀e∈L,e.f<M/\e.t<M) (Li:L.length<=6400) (eR:∀i,i<M->-1<=mk i)
  (hC:dC K 256=C) (hC2:C<=256) (hM:M<=12900) (hm:(M+7) / 8=m) (SS:List (Nat->Bool)) (ms:List Int) (D:List ((Nat->Bool) × Nat)) (R:List (List Int)) (cs:Array Value) (l:List Nat) (vL vS vK vN:Value) (gs:List Nat)
  (h:lY B bm gI bM m M C bn K L mk SS ms D R n cs l vL vS vK vN gs w) (tE:fr<SS.length) (hS:SS.length<=3000) (hR:R.length<=3000):
  Calls prog 68 #[.pointer (some ⟨bm,0,none⟩),.int .i64 (fr:Int)] w (Vp B bm gI bM m M C bn K L mk SS R (fun c x=>FR L (Mv L (fun y=>y<M/\SS[fr] y=true) (rp c)) x) w):=by
 obtain⟨cA,B8,Rr⟩:∃cA:Array Value,cA.size=256/\∀j,j<256->cA[j]?=some (.int .u8 ((cls K j:Nat):Int)):=⟨((range 256).map fun j=>.int .u8 ((cls K j:Nat):Int)).toArray,by simp,fun j hj=>by simp[hj]⟩
 have dN:(prog.info? 25).map (·.size)=some cA.size:=by rw[B8];kernel_rfl
 have dL:∀j v,cA.toList[j]?=some v->w.cell? ((⟨bm,1,none⟩:Addr).add j)=some v:=by
  intro j v hj;have hj2:j<256:=by
   have:=(List.getElem?_eq_some_iff.1 hj).1;simpa [B8] using this
  have e:(⟨bm,1,none⟩:Addr).add j=⟨bm,1+j,none⟩:=by unfold Addr.add;split <;> simp_all
  have h1:=Rr j hj2;rw[<-getElem?_toList,hj] at h1;rw[e,h.a.r.other (1+j) (by omega),h.cl j hj2,h1]
 have Qw:=hid (zl8 K cA B8 Rr w);have iF:=WH C (by omega);have H:=hid h;have E3:=hid Li;have HN:=hid (Zz HF (Zz HT (Zz HV (Zz hE (Zz eR (Zz hm tE))))));rw[hC] at Qw;obtain⟨aS0,Dh,rfl⟩:=bP h.t.os;obtain⟨ze,rfl,_,_,NB⟩:=ek h.t.os (by omega);have d0:=(NB fr (by omega)).1;have d1:w.cell? ⟨bm,259,none⟩=some (.slice (some ⟨ze,0,none⟩) SS.length Dh):=by rw[h.a.r.other 259 (by decide),h.t.cS]
 have Dv:bm<w.heap.size:=h.a.r.sm.lt;have mA:ze<w.heap.size:=by have:=h.wV ze ((yH ..).2 (by simp[ownBlock]));exact this
 have lB:B<=w.heap.size:=h.a.r.hB;rw[show (strs (SS.map (kj M)))[fr]?=some (.string (kj M SS[fr])) from by simp[strs,tE]] at d0;have DV:=hid (fun W:World=>zia (kj M SS[fr]) m (by rw[zn0,hm]) (by omega) (cj SS[fr] M) (fun i hi=>zp0 M _ i (by omega)) W);obtain⟨fs,kI⟩:∃fs,SS[fr]=fs:=⟨_,rfl⟩
 rw[kI] at d0 DV;rw[show (fun c x=>FR L (Mv L (fun y=>y<M/\SS[fr] y=true) (rp c)) x)=(fun c x=>FR L (Mv L (fun y=>y<M/\fs y=true) (rp c)) x) from by rw[kI]];have zc:fr<SS.length:=tE;obtain⟨kS,To⟩:∃kS,SS.length=kS:=⟨_,rfl⟩
 have HKS:=hid To;rw[To] at d1 zc hS;have i0:(fr:Int)<kS:=by omega
 clear h HF HT HV hE eR Rr hm NB tE kI To;go_in;go_wp2_with (refine p6 rfl 25 _ rfl ⟨bm,1,none⟩ rfl cA (.array 256 5) dL underlying25 rfl dN ?_);refine Qw.out.mono ?_;rintro e w1 ⟨rfl,mG⟩;have kM:=mG.size;have d0':(w1.alloc (.cells (madeCells #[.slice none 0 0] C) 27)).cell? ⟨ze,fr,none⟩=some (.string (kj M fs)):=(((al w1 _).cell (p:=⟨ze,fr,none⟩) (by show ze<_;omega)).trans (mG.cell (p:=⟨ze,fr,none⟩) mA)).trans d0;have d1':(w1.alloc (.cells (madeCells #[.slice none 0 0] C) 27)).cell? ⟨bm,259,none⟩=some (.slice (some ⟨ze,0,none⟩) kS Dh):=(((al w1 _).cell (p:=⟨bm,259,none⟩) (by show bm<_;omega)).trans (mG.cell (p:=⟨bm,259,none⟩) Dv)).trans d1;clear d0 d1 dL Qw;go_wp2_with fail;refine (DV.out _).mono ?_;rintro e w3 ⟨Ls,aL,cL,rfl,hO,ju,gn,qd⟩;have MO:=hid (iO.made w1 w.heap.size C w3 kM qd);have kP:Below w.heap.size w w3:=(mG.trans ((al w1 _).mono kM)).trans (qd.mono (by simp;omega));obtain⟨gT,BD⟩:∃gT,w1.heap.size=gT:=⟨_,rfl⟩
 have hgT3:gT<w3.heap.size:=by have:=qd.size;simp at this;omega
 rw[BD] at MO;have sQ:∀x∈Ls,x<M/\fs x=true:=fun x hx=>by have:=((gn x).1 hx).2;simpa [cj] using this
 have yG:=hid (Zz hO (Zz ju (Zz (fun x=>show x∈Ls↔x<M/\fs x=true from ⟨sQ x,fun hx=>(gn x).2 ⟨by have:=HN.out.2.2.2.2.2.1;omega,by simp[cj,hx.1,hx.2]⟩⟩) kP)));have IH:∀g,(Value.slice aL Ls.length cL).ownBlock=some g->g≠gT:=fun g e h=>by
  have h1:=ew hO (MO.out.iP.1) (by decide) g e;exact h1 h
 have HGT:=hid IH;have PE:Ls.length<=M:=qC ju (fun x hx=>(sQ x hx).1);obtain⟨q,hq⟩:∃q,Ls.length=q:=⟨_,rfl⟩
 have HQ:=hid hq;rw[hq] at PE;rw[BD];rw[hq];clear hO ju gn qd sQ IH kP mG d0' d1' DV iF hq BD;go_wp2;go_loopw [6,8,10,30] (fun _ _ _ v wq=>∃(i:Nat) (vs:Nat->Value) (tg:Nat->List Nat),v=.int .i64 i/\i<=q/\Hid (iO w3 w.heap.size gT C vs tg wq)/\Hid (∀c,c<C->(tg c).length<=mZ L Ls i/\∀x,x∈tg c↔pW L rp ((Ls.take i).flatMap (dk L)) c x)) (fun _ _ _ v _=>q-(intOf v).toNat)
 ·exact⟨0,_,_,rfl,zero_le _,MO,fun c hc=>⟨by rw[zmg];simp,fun x=>by simp[pW]⟩⟩
 obtain⟨i,vs,tg,rfl,hi,HA,HC⟩:=hrel;clear MO;have hW:Below w.heap.size w wr:=yG.out.2.2.2.trans HA.out.below;have HW:=hid hW;by_cases aq:i<q
 ·have tJ:i<Ls.length:=by rw[HQ.out];exact aq
  obtain⟨gl,rfl,_,IA,iJ⟩:=ek yG.out.1 (by omega);have d0:=(iJ i (by omega)).1;rw[AY Ls i tJ] at d0;have Kz:gl≠gT:=HGT.out gl rfl;replace d0:wr.cell? ⟨gl,i,none⟩=some (.int .i64 ((Ls[i]:Nat):Int)):=(HA.out.kept.nI (by simpa using Kz) IA).trans d0;have hs:=((yG.out.2.2.1 Ls[i]).1 (getElem_mem _)).1;have A9:Hid (Ls.take (i+1)=Ls.take i++[Ls[i]]):=List.take_succ_eq_append_getElem tJ;generalize Ls[i]=st at d0 hs A9;have c0:wr.cell? ⟨bm,0,none⟩=some (.pointer (some ⟨bn,0,none⟩)):=(hW.cell (p:=⟨bm,0,none⟩) Dv).trans ((H.out.a.r.other 0 (by decide)).trans H.out.c0);have bU:=HN.out.2.1.below (hW.mono lB);have f0:=bU.gK;have k0:=bU.row st hs;have yj:=hid (HN.out.2.1.at_ st hs);obtain⟨aR,El⟩:∃aR,aS st=aR:=⟨_,rfl⟩
  obtain⟨JE,BG⟩:∃JE,EK st=JE:=⟨_,rfl⟩
  rw[El,BG] at k0;rw[El] at yj;have HBE:Hid (∀e∈dk L st,e.t<M):=fun e he=>(HN.out.2.2.2.1 e ((M1 L st e).1 he).1).2
  obtain⟨p,hp⟩:∃p,(dk L st).length=p:=⟨_,rfl⟩
  have um:p<=6400:=by rw[<-hp];exact le_trans (UT L st) Li
  have HP:=hid hp;rw[hp] at k0;have i1:(i:Int)<q:=by omega
  have i2:(st:Int)<M:=by omega
  clear bU El BG hp iJ tJ aq hi hW Kz IA;go_wp2_with fail;clear c0 f0 k0 d0;go_loopw [8,10,45] (fun _ _ v wq=>∃(k:Nat) (LC:Nat->Value) (A6:Nat->List Nat),v=.int .i64 k/\k<=p/\Hid (iO w3 w.heap.size gT C LC A6 wq)/\Hid (∀c,c<C->(A6 c).length<=mZ L Ls i+k/\∀x,x∈A6 c↔pW L rp ((Ls.take i).flatMap (dk L)++(dk L st).take k) c x)) (fun _ _ v _=>p-(intOf v).toNat)
  ·exact⟨0,vs,tg,rfl,zero_le _,HA,fun c hc=>⟨(HC.out c hc).1,fun x=>by rw[(HC.out c hc).2 x];simp⟩⟩
  clear HA HC HW;obtain⟨k,LC,A6,rfl,hk,HA,HC⟩:=hrel;have hW:Below w.heap.size w wr:=yG.out.2.2.2.trans HA.out.below;by_cases vY:k<p
  ·have hkl:k<(dk L st).length:=(by rw[HP.out];exact vY);obtain⟨gx,off,rfl,hgx,wM⟩:=yj.out (by omega);obtain⟨ac,cc,s0,s1,hI⟩:=wM k hkl;replace s0:=(hW.cell (p:=⟨gx,off+k*2,none⟩) (by show gx<_;omega)).trans s0;replace s1:=(hW.cell (p:=⟨gx,off+k*2+1,none⟩) (by show gx<_;omega)).trans s1;have uZ:Hid ((dk L st).take (k+1)=(dk L st).take k++[(dk L st)[k]]):=List.take_succ_eq_append_getElem hkl;have EH:=HBE.out _ (getElem_mem hkl);generalize (dk L st)[k]=ed at s0 s1 hI uZ EH;obtain⟨lc,mj⟩:∃lc,dd (fun c=>ed.p (rp c)) C=lc:=(⟨_,rfl⟩);have HLC:Hid (∀x,x∈lc↔x<C/\ed.p (rp x)=true):=(fun x=>by rw[<-mj];exact Lc _ _ x);have HND:Hid (lc.Nodup):=(by rw[<-mj];exact (List.nodup_range).filter _);have Rz:lc.length<=C:=(by rw[<-mj];exact XH _ _);dsimp only at s0 hI;rw[mj] at s0 hI;have HI:=hid hI;obtain⟨pc,uM⟩:∃pc,lc.length=pc:=(⟨_,rfl⟩);have yw:=hid uM;rw[uM] at s0 Rz;obtain⟨t,ht⟩:∃t,ed.t=t:=(⟨_,rfl⟩);have HTD:=hid ht;rw[ht] at s1 EH;have i5:(k:Int)<p:=(by omega);have oz:=hid (HA.out.ab (al wr (.cells #[.slice ac pc cc,.int .i64 (t:Int)] 153)));have lZ:=hid (St.new wr 153 #[.slice ac pc cc,.int .i64 (t:Int)]);clear hI mj uM ht wM hkl hW hk;go_wp2_with fail;obtain⟨g8,S6⟩:∃g8,wr.heap.size=g8:=(⟨_,rfl⟩);rw[S6] at lZ;rw[S6];generalize wr.alloc (.cells #[.slice ac pc cc,.int .i64 (t:Int)] 153)=W1 at oz lZ⊢;clear S6 s0 s1 HA;go_loopw [10,52] (fun _ v wz=>∃(j:Nat) (JZ:Nat->Value) (oI:Nat->List Nat),v=.int .i64 j/\j<=pc/\Hid (iO w3 w.heap.size gT C JZ oI wz)/\Hid (St wz 153 g8 #[.slice ac pc cc,.int .i64 (t:Int)])/\Hid (∀c,c<C->(oI c).length<=mZ L Ls i+k+kg lc j c/\∀x,x∈oI c↔pW L rp ((Ls.take i).flatMap (dk L)++(dk L st).take k) c x\/(c∈lc.take j/\x=t))) (fun _ v _=>pc-(intOf v).toNat)
   ·exact⟨0,LC,A6,rfl,zero_le _,oz,lZ,fun c hc=>⟨by have:=(HC.out c hc).1;omega,fun x=>by rw[(HC.out c hc).2 x];simp⟩⟩
   clear oz lZ;obtain⟨j,JZ,oI,rfl,hj,fZ,Of,zG⟩:=hrel;have hW:Below w.heap.size w wr:=yG.out.2.2.2.trans fZ.out.below;by_cases hjp:j<pc
   ·have hjl:j<lc.length:=(by rw[yw.out];exact hjp);obtain⟨gi,oi,rfl,V4,Xa⟩:=HI.out (by omega);have s2:=(hW.cell (p:=⟨gi,oi+j,none⟩) (by show gi<_;omega)).trans (Xa j hjl);have hx:=((HLC.out lc[j]).1 (getElem_mem hjl)).1;have LD:Hid (lc.take (j+1)=lc.take j++[lc[j]]):=List.take_succ_eq_append_getElem hjl;generalize lc[j]=x at s2 hx LD;have i6:(j:Int)<pc:=(by omega);clear Xa hjl hW;have wD:Hid (∀c,c<C->((fun jj=>if jj=x then oI x++[t] else oI jj) c).length<=mZ L Ls i+k+kg lc (j+1) c/\∀y,y∈(fun jj=>if jj=x then oI x++[t] else oI jj) c↔pW L rp ((Ls.take i).flatMap (dk L)++(dk L st).take k) c y\/(c∈lc.take (j+1)/\y=t)):=fun c hc=>by
     obtain⟨h1,h2⟩:=zG.out c hc;rw[LD.out];by_cases e:c=x
     ·subst e;have hoi:=zko HND.out LD.out;refine⟨by simp;omega,fun y=>?_⟩;simp only[if_true,mem_append,mem_singleton,h2 y];constructor
      ·rintro ((h3|⟨h3,h4⟩)|h3)
       ·exact inl h3
       ·exact inr ⟨inl h3,h4⟩
       exact inr ⟨inr trivial,h3⟩
      rintro (h3|⟨h3,h4⟩)
      ·exact inl (inl h3)
      exact inr h4
     have hoi:=zib LD.out e;refine⟨by simp[e];omega,fun y=>?_⟩;show (y∈if c=x then oI x++[t] else oI c)↔_;rw[if_neg e,h2 y,mem_append,mem_singleton];simp[e]
    go_wp2_with fail;obtain⟨Mz,NR,hv⟩:=bP (fZ.out.iP.2.1 x hx);dsimp only at hv;have iA:=hid (fZ.out.ab (al wr (.cells #[.int .i64 (t:Int)] 3)).drew);have sK:=hid (Of.out.ab (al wr (.cells #[.int .i64 (t:Int)] 3)).drew);have dD:=iA.out.iP.2.1 x hx;rw[hv] at dD;dsimp only at dD;have hlen:(oI x).length<=20000:=by
     have a1:=(zG.out x hx).1;have a2:=Q3 L yG.out.2.1 i;have a3:=Vq lc j x;have a4:=E3.out;omega
    obtain⟨p3,iy⟩:∃p3,(oI x).length=p3:=(⟨_,rfl⟩);have k0:wr.cell? ⟨gT,x,none⟩=some (.slice Mz p3 NR):=(by rw[(fZ.out.iP.cell x hx).1,hv,iy]);have m2:(wr.alloc (.cells #[.int .i64 (t:Int)] 3)).drew.cell? ⟨gT,x,none⟩=some (.slice Mz p3 NR):=(by rw[(iA.out.iP.cell x hx).1,hv,iy]);have uc:=hid (Zz hv iy);have j1:(x:Int)<C:=(by omega);have j2:(0:Int)<=x:=(by omega);have yU:w3.heap.size<=((wr.alloc (.cells #[.int .i64 (t:Int)] 3)).drew).heap.size:=iA.out.below.size;rw[iy] at dD hlen;obtain⟨i0,xw,dy,cJ,cv⟩:=info_parts aG;have dz:=hid (fun (W:World) (h1:St W 153 g8 #[.slice (some ⟨gi,oi,none⟩) pc cc,.int .i64 ((t:Nat):Int)])=>(h1.at_ 1:W.cell? ⟨g8,1,none⟩=some (.int .i64 ((t:Nat):Int))));clear hv iy;refine wp_region_held_drew (S:=fun W'=>W'.cell? ⟨g8,1,none⟩=some (.int .i64 (t:Int))) (by kernel_rfl) (dz.out _ Of.out.drew) (fun hHeld=>?_)
    (refine an 0 ?_;refine an 1 ?_;refine an 2 ?_;try simp only[put,sA];refine an 3 ?_;refine an 4 ?_;refine an 6 ?_;try simp only[put,sA];refine an 7 ?_;try simp only[put,sA])
    refine wpAnyH_ready (rs:=[5,8]) (by kernel_rfl) (by simp) ?_;refine gG (fun K hK=>?_) ?_
    ·skip;go_simp;refine hK.out _ _ (dz.out _ Of.out.drew) fun hHeld=>?_;clear hK K
     try simp only[put,sA]
     refine bf 8 (fun K hK=>?_);skip;go_simp;refine hK.out _ _ (dz.out _ sK.out) fun hHeld=>?_;clear hK K
     try simp only[put,sA]
     refine bf 9 (fun K hK=>?_);skip;skip;refine step_append_lies _ (by rfl) _ _ _ (by rfl) w3.heap.size 3 i0 (.int .i64 0) 1 8 underlying27 xw dy cJ cv (by rfl) (by decide) _ p3 (cW (oI x)) (by rfl) dD ⟨wr.heap.size,0,none⟩ 1 1 (#[.int .i64 (t:Int)]).toList (by rfl) (by rfl) (news_of_block (cs:=#[.int .i64 (t:Int)]) (t:=3) (fr:=(0,0)) (heap_alloc_new wr _)) (by simp[oneCell']) (by omega) (by unfold maxLen;omega) (by omega) yU (wr.heap.size+1) (by simp) ?_;intro gg fy w6 aj af dg lQ;have fS:=sK.out.ae dD (by decide) af;have nr:=iA.out.iP.1.ae dD (by decide) af;have t2:w6.cell? ⟨gT,x,none⟩=some (.slice Mz p3 NR):=(by rw[nr.at_];simp only[getElem?_toArray,getElem?_map,getElem?_range hx,map_some,uc.out.1,uc.out.2]);have t3:=nr.bb x;have HF:Hid (iO w3 w.heap.size gT C (fun j=>if j=x then (.slice (some ⟨gg,0,none⟩) (p3+1) fy) else JZ j) (fun j=>if j=x then oI x++[t] else oI j) (w6.setCell ⟨gT,x,none⟩ (.slice (some ⟨gg,0,none⟩) (p3+1) fy))):=
      iA.out.app hx uc.out.2 aj (by rw[uc.out.1,uc.out.2];exact af) (fun b e=>by rw[uc.out.1,uc.out.2];injection e with e;rw[<-e];rcases dg with h|h;exact inl h;exact inr (by rw[h];simp))
     have TT:Hid (St (w6.setCell ⟨gT,x,none⟩ (.slice (some ⟨gg,0,none⟩) (p3+1) fy)) 153 g8 #[.slice (some ⟨gi,oi,none⟩) pc cc,.int .i64 (t:Int)]):=fS.fQ nr (by decide) x _;refine hK.out _ _ (dz.out _ fS) fun hHeld=>?_;clear hK K aj af dg lQ
     try simp only[put,sA]
     (refine an 10 ?_;try simp only[put,sA])
     refine bf 11 (fun K hK=>?_);skip;go_simp;refine hK.out _ _ (dz.out _ (fS.fQ nr (by decide) x _)) fun hHeld=>?_;clear hK K
     try simp only[put,sA]
     refine wpAnyH_done (by kernel_rfl) ?_ _;clear fS nr t2 t3 hHeld;go_wp2;go_roundw
     ·exact⟨j+1,_,_,by go_num,by omega,HF,TT,wD⟩
     simp[intOf];omega
    refine gG (fun K hK=>?_) ?_
    ·skip;go_simp;refine hK.out _ _ (dz.out _ sK.out) fun hHeld=>?_;clear hK K
     try simp only[put,sA]
     refine bf 5 (fun K hK=>?_);skip;go_simp;refine hK.out _ _ (dz.out _ sK.out) fun hHeld=>?_;clear hK K
     try simp only[put,sA]
     refine bf 9 (fun K hK=>?_);skip;skip;refine step_append_lies _ (by rfl) _ _ _ (by rfl) w3.heap.size 3 i0 (.int .i64 0) 1 8 underlying27 xw dy cJ cv (by rfl) (by decide) _ p3 (cW (oI x)) (by rfl) dD ⟨wr.heap.size,0,none⟩ 1 1 (#[.int .i64 (t:Int)]).toList (by rfl) (by rfl) (news_of_block (cs:=#[.int .i64 (t:Int)]) (t:=3) (fr:=(0,0)) (heap_alloc_new wr _)) (by simp[oneCell']) (by omega) (by unfold maxLen;omega) (by omega) yU (wr.heap.size+1) (by simp) ?_;intro gg fy w6 aj af dg lQ;have fS:=sK.out.ae dD (by decide) af;have nr:=iA.out.iP.1.ae dD (by decide) af;have t2:w6.cell? ⟨gT,x,none⟩=some (.slice Mz p3 NR):=(by rw[nr.at_];simp only[getElem?_toArray,getElem?_map,getElem?_range hx,map_some,uc.out.1,uc.out.2]);have t3:=nr.bb x;have HF:Hid (iO w3 w.heap.size gT C (fun j=>if j=x then (.slice (some ⟨gg,0,none⟩) (p3+1) fy) else JZ j) (fun j=>if j=x then oI x++[t] else oI j) (w6.setCell ⟨gT,x,none⟩ (.slice (some ⟨gg,0,none⟩) (p3+1) fy))):=
      iA.out.app hx uc.out.2 aj (by rw[uc.out.1,uc.out.2];exact af) (fun b e=>by rw[uc.out.1,uc.out.2];injection e with e;rw[<-e];rcases dg with h|h;exact inl h;exact inr (by rw[h];simp))
     have TT:Hid (St (w6.setCell ⟨gT,x,none⟩ (.slice (some ⟨gg,0,none⟩) (p3+1) fy)) 153 g8 #[.slice (some ⟨gi,oi,none⟩) pc cc,.int .i64 (t:Int)]):=fS.fQ nr (by decide) x _;refine hK.out _ _ (dz.out _ fS) fun hHeld=>?_;clear hK K aj af dg lQ
     try simp only[put,sA]
     (refine an 10 ?_;try simp only[put,sA])
     refine bf 11 (fun K hK=>?_);skip;go_simp;refine hK.out _ _ (dz.out _ (fS.fQ nr (by decide) x _)) fun hHeld=>?_;clear hK K
     try simp only[put,sA]
     refine wpAnyH_done (by kernel_rfl) ?_ _;clear fS nr t2 t3 hHeld;go_wp2;go_roundw
     ·exact⟨j+1,_,_,by go_num,by omega,HF,TT,wD⟩
     simp[intOf];omega
    exact AllReadyH.nil
   obtain rfl:j=pc:=(by omega);have HZ:Hid (∀c,c<C->(oI c).length<=mZ L Ls i+(k+1)/\∀x,x∈oI c↔pW L rp ((Ls.take i).flatMap (dk L)++(dk L st).take (k+1)) c x):=fun c hc=>by
    obtain⟨h1,h2⟩:=zG.out c hc;refine⟨by have:=Vq lc j c;omega,fun x=>?_⟩;rw[h2 x,uZ.out,<-yw.out,take_length,HLC.out c,<-HTD.out];unfold pW;simp only[mem_append,mem_singleton];constructor
    ·rintro (⟨e,he,h3,h4⟩|⟨⟨_,h3⟩,h4⟩)
     ·exact⟨e,by rcases he with he|he;exact inl he;exact inr (inl he),h3,h4⟩
     exact⟨ed,inr (inr rfl),h3,h4.symm⟩
    rintro⟨e,he,h3,h4⟩;rcases he with he|he|rfl
    ·exact inl ⟨e,inl he,h3,h4⟩
    ·exact inl ⟨e,inr he,h3,h4⟩
    exact inr ⟨⟨hc,h3⟩,h4.symm⟩
   clear hW;go_wp2;go_roundw
   ·exact⟨k+1,JZ,oI,by go_num,by omega,fZ,HZ⟩
   simp[intOf];omega
  obtain rfl:k=p:=by omega
  have HZ:Hid (∀c,c<C->(A6 c).length<=mZ L Ls (i+1)/\∀x,x∈A6 c↔pW L rp ((Ls.take (i+1)).flatMap (dk L)) c x):=fun c hc=>by
   obtain⟨h1,h2⟩:=HC.out c hc;refine⟨by rw[zmh A9.out,HP.out];exact h1,fun x=>?_⟩;rw[h2 x,A9.out,<-HP.out,take_length,List.flatMap_append];simp
  clear hW;go_wp2;go_roundw
  ·exact⟨i+1,LC,A6,by go_num,by omega,HA,HZ⟩
  simp[intOf];omega
 obtain rfl:i=q:=by omega
 have HZ:Hid (∀c,c<C->(tg c).length<=6400/\∀x,x∈tg c↔pW L rp (Ls.flatMap (dk L)) c x):=fun c hc=>by
  obtain⟨h1,h2⟩:=HC.out c hc;refine⟨by have a2:=Q3 L yG.out.2.1 i;have a4:=E3.out;omega,fun x=>?_⟩;rw[h2 x,<-HQ.out,take_length]
 have RY:gT<wr.heap.size:=by have:=HA.out.below.size;omega
 have AJ:=zml C (by omega);have HVs:=hid (Kept.refl [] [] wr);have H1:=hid (H.out.ab hW);have Im:∀x∈jl bm gI bM vL (.slice (some ⟨ze,0,none⟩) SS.length Dh) vK,x<w.heap.size:=H.out.wV;have yu:w.heap.size<=gT:=HA.out.lo.1;have vQ:=hid (Zz Im yu);clear Im yu;go_wp2_with fail;obtain⟨gR,By⟩:∃gR,wr.heap.size=gR:=⟨_,rfl⟩
 rw[By];have HG:=hid (HA.out.iP);have Tx:Hid (∀c,c<C->∀b,(vs c).ownBlock=some b->b<gR/\w3.heap.size<=b):=fun c hc b e=>by
  obtain⟨c1,fz,h1⟩:=pP (HG.out.2.1 c hc) b e;exact⟨by rw[<-By];exact (Array.getElem?_eq_some_iff.1 h1).1,kD (HG.out.2.1 c hc) b e⟩
 have ee:Hid (St (wr.alloc (.cells (madeCells #[.int .i64 0] C) 3)) 3 gR (ints (replicate C 0)).toArray):=by
  show St _ _ _ _;rw[<-zkq,<-By];exact St.new _ _ _
 have H2:=hid (H1.out.ab (al wr (.cells (madeCells #[.int .i64 0] C) 3)));have OV:=hid (HG.out.ab (al wr (.cells (madeCells #[.int .i64 0] C) 3)));have hVs:(wr.alloc (.cells (madeCells #[.int .i64 0] C) 3)).heap.size=gR+1:=by simp[By]
 have RD:Below w.heap.size w (wr.alloc (.cells (madeCells #[.int .i64 0] C) 3)):=(hW.trans ((al wr _).mono hW.size))
 have Sm:=hid RD;generalize wr.alloc (.cells (madeCells #[.int .i64 0] C) 3)=V at ee H2 OV hVs RD Sm⊢;obtain⟨uK,Ku⟩:∃uK,jl bm gI bM vL (.slice (some ⟨ze,0,none⟩) SS.length Dh) vK=uK:=⟨_,rfl⟩
 have ZJ:=hid Ku;clear H1 HG HVs RD AJ hW Ku;have hgTR:gT<gR:=by omega
 have HTC:Hid (∀c,c<C->(fun x=>FR L (fun y=>y∈tg c) x)=(fun x=>FR L (Mv L (fun y=>y<M/\fs y=true) (rp c)) x)):=fun c hc=>funext fun x=>propext (FR.congr (fun y=>by
  rw[(HC.out c hc).2 y]
  rw[<-HQ.out,take_length]
  constructor
  ·rintro⟨e,he,h1,h2⟩
   obtain⟨st,bU,he⟩:=List.mem_flatMap.1 he
   obtain⟨h3,h4,h5⟩:=(M1 L st e).1 he
   exact⟨e,h3,h4,h1,by rw[h5];exact (yG.out.2.2.1 st).1 bU,h2⟩
  ·rintro⟨e,h3,h4,h1,h5,h2⟩
   exact⟨e,List.mem_flatMap.2 ⟨e.f,(yG.out.2.2.1 e.f).2 h5,(M1 L e.f e).2 ⟨h3,h4,rfl⟩⟩,h1,h2⟩) x)
 have HTL:Hid (∀c,c<C->(tg c).length<=6400/\∀x∈tg c,x<M):=fun c hc=>⟨by have a1:=(HC.out c hc).1;have a2:=Q3 L yG.out.2.1 i;have a4:=E3.out;omega,fun x hx=>by
  obtain⟨e,he,h1,h2⟩:=((HC.out c hc).2 x).1 hx
  obtain⟨st,bU,he⟩:=List.mem_flatMap.1 he
  rw[<-h2]
  exact (HN.out.2.2.2.1 e ((M1 L st e).1 he).1).2⟩
 have Cx:Hid (∀x∈uK,x<w.heap.size):=by rw[<-ZJ.out];exact vQ.out.1
 have yu:w.heap.size<=gT:=vQ.out.2;clear HC HA hi aq HW vQ RY;go_loopw [12,13,75] (fun _ _ v wq=>∃(c:Nat) (row:List Int) (jR:List (Nat->Bool)) (tQ:List Int) (D':List ((Nat->Bool) × Nat)) (n':Nat) (iR:Array Value) (l':List Nat) (jf vS' vK':Value),v=.int .i64 c/\c<=C/\
  Hid (lY B bm gI bM m M C bn K L mk jR tQ D' R n' iR l' jf vS' vK' vN gs wq)/\Hid (iw M (fun c x=>FR L (Mv L (fun y=>y<M/\fs y=true) (rp c)) x) SS c row jR)/\Hid (Kept [] (gR :: uK) V wq/\Below B V wq/\(∀x∈jl bm gI bM jf vS' vK',x∈uK\/V.heap.size<=x)/\St wq 3 gR (ints (row++replicate (C-c) 0)).toArray/\∀x∈gs,x≠gR)) (fun _ _ v _=>C-(intOf v).toNat)
 case atStart=>exact⟨0,[],SS,ms,D,n,cs,l,vL,_,vK,rfl,zero_le _,H2,iw.zero,Kept.refl _ _ _,Below.refl _ _,fun x hx=>inl (by rw[<-ZJ.out];exact hx),by simpa using ee.out,fun x hx e=>by
  obtain⟨i1,h1,h2⟩:=List.getElem_of_mem hx
  have h3:=(H.out.nx.row i1 h1 (by rw[<-H.out.nx.len];exact h1)).1.lt
  omega⟩
 case round=>
  clear H2 ee;obtain⟨c,row,jR,tQ,D',n',iR,l',jf,vS',vK',rfl,hc,HM,yj,HK⟩:=hrel;have wh:=yj.out.len;have Qv:gR∉uK:=fun h=>by have:=Cx.out _ h;omega
  have De:gT∉gR :: uK:=fun h=>by
   rcases List.mem_cons.1 h with h|h
   ·omega
   have:=Cx.out _ h;omega
  have yn:gR∉jl bm gI bM jf vS' vK':=fun h=>by
   rcases HK.out.2.2.1 _ h with h|h
   ·exact Qv h
   omega
  have kP:Below B w wr:=(Sm.out.mono lB).trans HK.out.2.1;by_cases aq:c<C
  ·have hO:=OV.out.2.1 c aq;obtain⟨aT,cT,hv⟩:=bP hO;dsimp only at hv hO;have t0:wr.cell? ⟨gT,c,none⟩=some (.slice aT (tg c).length cT):=(by rw[HK.out.1.nI De (by omega),(OV.out.cell c aq).1,hv]);have C1:=Tx.out c aq;rw[hv] at hO C1;have WA:Hid (∀W:World,(∀g,g∉gR :: uK->g<V.heap.size->W.heap[g]?=V.heap[g]?)->AT W W.heap.size aT (tg c)):=fun W hW h0=>by
    obtain⟨gt,rfl,tj,LJ,pJ⟩:=ek hO h0;have h1:=(C1 gt rfl).1;have h2:=hW gt (fun h=>by
     rcases List.mem_cons.1 h with h|h
     ·omega
     ·have:=Cx.out _ h;omega) LJ
    refine⟨gt,0,rfl,?_,fun j hj=>?_⟩
    ·rw[Array.getElem?_eq_getElem LJ] at h2;exact (Array.getElem?_eq_some_iff.1 h2).1
    rw[zero_add];have h3:W.cell? ⟨gt,j,none⟩=V.cell? ⟨gt,j,none⟩:=(by simp only[World.cell?,h2]);rw[h3,(pJ j (by omega)).1,AY (tg c) j hj]
   have rQ:=HTL.out c aq;have EH:=hid rQ.2;replace rQ:=rQ.1;have TD:=hid (HTC.out c aq);obtain⟨tc,Gy⟩:∃tc,tg c=tc:=(⟨_,rfl⟩);rw[Gy] at t0 WA rQ EH TD;have dD:row.length=c:=wh.1;have bU:=HK.out.2.2.2.1;rw[zmm row C c aq] at bU;have e0:wr.cell? ⟨gR,c,none⟩=some (.int .i64 0):=(by rw[bU.at_,Y1 row C c dD]);have e1:=bU.bb c;have oO:Hid (St (wr.setCell ⟨gR,c,none⟩ (.int .i64 (-1))) 3 gR (ints ((row++[-1])++replicate (C-(c+1)) 0)).toArray):=by
    have:=bU.set c (.int .i64 (-1));rwa [YT row C c dD aq] at this
   have j9:Kept [] [gR] wr (wr.setCell ⟨gR,c,none⟩ (.int .i64 (-1))):=(Kept.refl _ _ _).setCell _ _ (inl (by simp));have eG:Below B wr (wr.setCell ⟨gR,c,none⟩ (.int .i64 (-1))):=(Below.refl _ _).setCell (p:=⟨gR,c,none⟩) (by show B<=gR;omega) _;have zZ:=hid (HM.out.fA j9 eG (fun x hx h=>yn (by rw[<-List.mem_singleton.1 h];exact hx)) (fun b e h=>ew HM.out.nx.own bU (by decide) b e (List.mem_singleton.1 h)) (fun x hx h=>HK.out.2.2.2.2 x hx (List.mem_singleton.1 h)));have mw:Hid (Kept [] (gR :: uK) V (wr.setCell ⟨gR,c,none⟩ (.int .i64 (-1)))/\Below B V (wr.setCell ⟨gR,c,none⟩ (.int .i64 (-1)))):=(⟨HK.out.1.setCell _ _ (inl (by simp)),HK.out.2.1.trans eG⟩);have i1:(c:Int)<C:=(by omega);obtain⟨p,hp⟩:∃p,tc.length=p:=(⟨_,rfl⟩);rw[hp] at t0 rQ;have HP:=hid hp;clear hO hv C1 bU j9 eG hp;go_upto_region 19 with fail;generalize wr.setCell ⟨gR,c,none⟩ (.int .i64 (-1))=W1 at oO zZ mw⊢;have q8:Hid (∀x∈jl bm gI bM jf vS' vK',x∈uK\/V.heap.size<=x):=HK.out.2.2.1;have OH:Hid (∀x∈gs,x≠gR):=HK.out.2.2.2.2;clear e0 e1 t0 HK HM;by_cases FU:p=0
   ·subst FU;have HZ:Hid (iw M (fun c x=>FR L (Mv L (fun y=>y<M/\fs y=true) (rp c)) x) SS (c+1) (row++[-1]) jR):=by
     refine iw.succ yj.out (inl ⟨fun x hx h=>?_,rfl,rfl⟩);have h1:=congrFun TD.out x;have h2:FR L (fun y=>y∈tc) x:=by
      have e:(FR L (fun y=>y∈tc) x)=_:=h1;rw[e];exact h
     rw[List.length_eq_zero_iff.1 HP.out] at h2;exact FR.none (fun x h=>by simp at h) x h2
    clear wh dD Gy;go_wp2;go_roundw
    ·exact⟨c+1,row++[-1],jR,tQ,D',n',iR,l',jf,vS',vK',by go_num,by omega,zZ,HZ,mw.out.1,mw.out.2,q8.out,oO.out,OH.out⟩
    simp[intOf];omega
   have hq0:(0:Int)<p:=(by omega);have hSl:jR.length<=3256:=(by have:=HKS.out;omega);have cU:n'<=100000:=(by have:=zZ.out.hn;omega);have tu:l'.length<=100000:=(by have:=zZ.out.a.len;omega);have uy:Below B w W1:=(Sm.out.mono lB).trans mw.out.2;have qN:=hid (Xp W1 B (jl bm gI bM jf vS' vK') bm gI m M bM bn gM cM gF cF aF Ev L (HN.out.1.below uy) HN.out.2.2.2.1 (by omega) iR mk (HN.out.2.2.1.below uy) HN.out.2.2.2.2.1 zZ.out.c0 (by omega) HN.out.2.2.2.2.2.1 _ l' jf vS' vK' n' jR tQ D' (by omega) cU tu
    aT p cT tc HP.out (by omega) EH.out (fun W hW=>WA.out W (fun g hg hl=>by
     have h1:=mw.out.1 g _ (Array.getElem?_eq_getElem hl) (fun _ _ _ _=>by simp) hg
     rw[Array.getElem?_eq_getElem hl]
     exact hW g _ h1 (fun _ _ _ _=>by simp) (fun hm=>by
      rcases q8.out _ hm with h|h
      ·exact hg (List.mem_cons_of_mem _ h)
      ·omega))) W1 zZ.out.a.r zZ.out.t zZ.out.inv)
   have h0:∃x,x<M/\FR L (fun y=>y∈tc) x:=by
    have fK:0<tc.length:=(by rw[HP.out];omega);exact⟨tc[0],EH.out _ (getElem_mem fK),.base (getElem_mem fK)⟩
   have H0:=hid h0;have zI:=hid yn;clear h0 uy wh Gy yn kP De cU tu;go_wp2_with fail;refine qN.out.mono ?_;rintro e w5 rK;obtain⟨r,Bl,QS,D2,n2,Ov,l2,rB,Fp,IM,rfl,Ns,hAdd,fm,mR,cr⟩:=zZ.out.close rK H0.out;have fO:=oO.out.kept fm (by simp) zI.out;have e0:w5.cell? ⟨gR,c,none⟩=some (.int .i64 (-1)):=(by rw[fO.at_,Y1 row C c dD]);have e1:=fO.bb c;have JY:gR∉jl bm gI bM rB Fp IM:=fun h=>by
    rcases cr _ h with h|h
    ·exact zI.out h
    have:=oO.out.lt;omega
   have Kx:Kept [] [gR] w5 (w5.setCell ⟨gR,c,none⟩ (.int .i64 r)):=(Kept.refl _ _ _).setCell _ _ (inl (by simp));have dJ:Below B w5 (w5.setCell ⟨gR,c,none⟩ (.int .i64 r)):=(Below.refl _ _).setCell (p:=⟨gR,c,none⟩) (by show B<=gR;omega) _;have HM3:=hid (Ns.fA Kx dJ (fun x hx h=>JY (by rw[<-List.mem_singleton.1 h];exact hx)) (fun b e h=>ew Ns.nx.own fO (by decide) b e (List.mem_singleton.1 h)) (fun x hx h=>OH.out x hx (List.mem_singleton.1 h)));have sd:Kept [] (gR :: uK) V w5:=fun k o hk ho hn=>fm k o (mw.out.1 k o hk ho hn) ho (fun hm=>by
    rcases q8.out _ hm with h|h
    ·exact hn (List.mem_cons_of_mem _ h)
    ·have:=(Array.getElem?_eq_some_iff.1 hk).1;omega)
   have HZ:Hid (Kept [] (gR :: uK) V (w5.setCell ⟨gR,c,none⟩ (.int .i64 r))/\Below B V (w5.setCell ⟨gR,c,none⟩ (.int .i64 r))/\(∀x∈jl bm gI bM rB Fp IM,x∈uK\/V.heap.size<=x)/\St (w5.setCell ⟨gR,c,none⟩ (.int .i64 r)) 3 gR (ints (row++[r]++replicate (C-(c+1)) 0)).toArray/\∀x∈gs,x≠gR):=by
    refine⟨sd.setCell _ _ (inl (by simp)),(mw.out.2.trans mR).trans dJ,fun x hx=>?_,?_,OH.out⟩
    ·rcases cr x hx with h|h
     ·exact q8.out x h
     exact inr (le_trans mw.out.2.size h)
    have:=fO.set c (.int .i64 r);rwa [YT row C c dD aq] at this
   have sD:Hid (iw M (fun c x=>FR L (Mv L (fun y=>y<M/\fs y=true) (rp c)) x) SS (c+1) (row++[r]) Bl):=by
    refine iw.succ yj.out ?_;rw[TD.out] at hAdd;exact hAdd
   clear rK Ns hAdd fm mR cr fO JY Kx dJ sd qN;go_wp2;go_roundw
   ·exact⟨c+1,row++[r],Bl,QS,D2,n2,Ov,l2,rB,Fp,IM,by go_num,by omega,HM3,sD,HZ⟩
   simp[intOf];omega
  obtain rfl:c=C:=by omega
  obtain⟨aN,cN,rfl⟩:=bP HM.out.nx.own;have n0:wr.cell? ⟨bm,257,none⟩=some (.slice aN R.length cN):=by rw[HM.out.a.r.other 257 (by decide),HM.out.cN]
  have hO:=HM.out.nx.own;have hBB:=HM.out.a.r.hB;have HRL:Hid (St wr 3 gR (ints row).toArray):=by
   have:=HK.out.2.2.2.1;show St _ _ _ _;simpa using this
  obtain⟨kR,Ql⟩:∃kR,R.length=kR:=⟨_,rfl⟩
  rw[Ql] at n0 hO hR;have IG:=hid Ql;obtain⟨i9,AV,dy,cJ,cv⟩:=info_parts ez;have zI:=hid yn;have HBw:=hid kP;clear Ql wh yn De kP;go_wp2_with (at_builtin;refine wpList_append_own_at _ rfl _ _ 26 rfl B 27 i9 (.slice none 0 0) 1 24 underlying26 AV dy cJ cv rfl (by decide) _ _ _ rfl (hO.alloc _) ⟨wr.heap.size,0,none⟩ 1 1 [.slice (some ⟨gR,0,none⟩) c c] rfl rfl (cell_one_new _ _ _) ?d2 ?d3 ?d4 ?d5 ?_)
  case d2=>intro u hu;simp at hu;subst hu;rfl
  case d3=>unfold maxLen;omega
  case d4=>omega
  case d5=>simp;omega
  intro v' w5 ah ag _ bJ;obtain⟨a5,c5,rfl⟩:=bP ah;have h2:=HM.out.ab (al wr (.cells #[.slice (some ⟨gR,0,none⟩) c c] 27));have aj:=ah;rw[<-IG.out] at aj;obtain⟨hF,T8⟩:=h2.next (HRL.out.ab (al wr _)) zI.out (v':=.slice a5 (kR+1) c5) (by simpa [IG.out] using aj) (by rw[IG.out];exact ag)
  have sO:St w5 114 bm _:=h2.a.r.sm.ae h2.nx.own (by decide) (by rw[IG.out];exact ag);have p3:w5.cell? ⟨bm,257,none⟩=some (.slice aN kR cN):=by rw[sO.at_,getElem?_setIfInBounds_ne (by decide),h2.cN,IG.out]
  have pf:=sO.bb 257;have mL:Hid (Vp B bm gI bM m M c bn K L mk SS R (fun c x=>FR L (Mv L (fun y=>y<M/\fs y=true) (rp c)) x) w (.returned (.tuple #[])) (w5.setCell ⟨bm,257,none⟩ (.slice a5 (kR+1) c5))):=
   ⟨row,jR,tQ,D',n',_,l',jf,vS',vK',_,_,rfl,hF,yj.out,(HBw.out.trans ((al wr _).mono HM.out.a.r.hB)).trans T8⟩
  clear ah aj ag bJ h2 sO hF T8 hO n0;go_wp2_with fail;refine bodyPost_ret (results_none rfl _ _ _) rfl ?_;exact mL.out
theorem zn2(K:Nat->Lit)(h:cls K x=cls K y):K x=K y:=by
 have hx:cls K (fst K x)=cls K x:=by unfold cls;rw[Mq]
 have hy:cls K (fst K y)=cls K y:=by unfold cls;rw[Mq]
 have e:fst K x=fst K y:=by
  rcases Nat.lt_trichotomy (fst K x) (fst K y) with h1|h1|h1
  ·have h2:=EX K (fst K x) (fst K y) h1;have h3:dC K (fst K y)=cls K y:=rfl;omega
  ·exact h1
  have h2:=EX K (fst K y) (fst K x) h1;have h3:dC K (fst K x)=cls K x:=rfl;omega
 rw[<-(yB K x).2.1,<-(yB K y).2.1,e]
noncomputable def pZ (K:Nat->Lit) (c:Nat):Nat:=(rl K 256).getD c 0
theorem Tw(K:Nat->Lit)(b:Nat)(hb:b<256):cls K b<(rl K 256).length/\K (pZ K (cls K b))=K b:=by
 have h1:=EX K b 256 hb;have h2:cls K b<(rl K 256).length:=by rw[zD];omega
 refine⟨h2,zn2 K ?_⟩;have:pZ K (cls K b)=(rl K 256)[cls K b]:=by simp[pZ,getD_eq_getElem?_getD,h2]
 rw[this];exact (ZX K 256 (cls K b) h2).1
theorem zqO(L:List En)(h:dM L x=dM L y):∀e∈L,e.b=false->e.p x=e.p y:=by
 intro e he hb;have h1:=(zky _ _ _ _).1 h;have hm:e.p∈cG (L.map En.z):=by
  unfold cG;exact List.mem_map.2 ⟨e.z,List.mem_filter.2 ⟨List.mem_map.2 ⟨e,he,rfl⟩,by simp[En.z,hb]⟩,rfl⟩
 obtain⟨i,hi,e1⟩:=List.getElem_of_mem hm;have h2:=h1 i hi;have h3:rC (L.map En.z) i=e.p:=by simp[rC,getD_eq_getElem?_getD,hi,e1]
 rw[h3] at h2;exact h2
theorem zq0(L:List En)(b:Nat)(hb:b<256):∀e∈L,e.b=false->e.p (pZ (dM L) (cls (dM L) b))=e.p b:=zqO L (Tw (dM L) b hb).2
theorem Mv.byte{A:Nat->Prop}{d:Nat}(h:∀e∈L,e.b=false->e.p c=e.p d)(x:Nat):Mv L A c x↔Mv L A d x:=
 ⟨fun ⟨e,h1,h2,h3,h4,h5⟩=>⟨e,h1,h2,by rw[<-h e h1 h2];exact h3,h4,h5⟩,fun ⟨e,h1,h2,h3,h4,h5⟩=>⟨e,h1,h2,by rw[h e h1 h2];exact h3,h4,h5⟩⟩
theorem Mv.none{A:Nat->Prop}(h:∀x,¬A x)(c x:Nat):¬Mv L A c x:=fun ⟨e,_,_,_,h4,_⟩=>h _ h4
theorem bQ.nam(hn:nm.Nodup){A' A:Nat->Prop}(h:tY nm A' A)(hr:bQ (fun i=>mf (nm.getD i 0)) A' r):bQ mf A r:=by
 rcases hr with ⟨h1,h2⟩|⟨h1,⟨x,hx,h2⟩,h3⟩
 ·refine inl ⟨h1,fun x hx=>?_⟩;obtain⟨i,hi,rfl⟩:=(h.2 x).1 hx;exact h2 i hi
 refine inr ⟨h1,⟨nm.getD x 0,(h.2 _).2 ⟨x,hx,rfl⟩,h2⟩,fun y hy=>?_⟩;obtain⟨i,hi,rfl⟩:=(h.2 y).1 hy;exact h3 i hi
def EW(L:List En)(M:Nat)(rp:Nat->Nat)(f:Nat->Bool)(c x:Nat):Prop:=FR L (Mv L (fun y=>y<M/\f y=true) (rp c)) x
structure Made (L:List En)(F:Nat)(nm:List Nat)(L':List En)(f0:Nat)(s0:Nat->Bool)(k:Nat)(R:List (List Int))(SS:List (Nat->Bool)):Prop where
 ov:L=L'.map (En.ov nm)
 nd:nm.Nodup
 bd:∀e∈L',e.f<nm.length/\e.t<nm.length
 hf:nm[f0]?=some F
 src:∀x∈nm,Src L F F x
 st:∀x,x<nm.length->(s0 x=true↔FR L' (fun y=>y=f0) x)
 run:iK nm.length (rl (dM L) 256).length (EW L' nm.length (pZ (dM L))) [s0] k R SS
theorem Made.rep{f0:Nat}(h:Made L F nm L' f0 s0 k R SS)(b:Nat)(hb:b<256):∀e∈L',e.b=false->e.p (pZ (dM L) (cls (dM L) b))=e.p b:=by
 intro e he h2;have h3:e.ov nm∈L:=by rw[h.ov];exact List.mem_map.2 ⟨e,he,rfl⟩
 exact zq0 L b hb (e.ov nm) h3 h2
def tf(M:Nat)(SS:List (Nat->Bool))(A:Nat->Prop)(a:Int):Prop:=(a=-1/\∀x,¬A x)\/∃(j:Nat) (h:j<SS.length),a=((j:Nat):Int)/\∀x,x<M->(SS[j] x=true↔A x)
theorem Made.start{f0:Nat}(h:Made L F nm L' f0 s0 k R SS)(z:Nat->Nat):tf nm.length SS (cy L' f0 z 0) 0:=by
 have hp:=h.run.pre;have h0:0<SS.length:=Nat.lt_of_lt_of_le (by simp) hp.length_le;have h1:s0=SS[0]:=by
  have:=hp.getElem (i:=0) (by simp);simpa using this
 exact inr ⟨0,h0,rfl,fun x hx=>by rw[<-h1];exact h.st x hx⟩
theorem Made.step{L:List En}{F f0 k:Nat}{nm:List Nat}{L':List En}{s0:Nat->Bool}{R:List (List Int)}{SS:List (Nat->Bool)}(h:Made L F nm L' f0 s0 k R SS)(hk:SS.length=k)(z:Nat->Nat)(t j:Nat)(hz:z t<256)(hs:tf nm.length SS (cy L' f0 z t) (j:Int)):
  ∃(hj:j<R.length) (hc:cls (dM L) (z t)<R[j].length),tf nm.length SS (cy L' f0 z (t+1)) R[j][cls (dM L) (z t)]:=by
 have mB:=h.run.len;obtain⟨gE,_⟩:=Tw (dM L) (z t) hz;rcases hs with ⟨h1,_⟩|⟨j',Bb,e,hS⟩
 ·omega
 have e2:j'=j:=by omega
 subst e2;have Gm:j'<R.length:=by omega
 have dD:=h.run.sR R[j'] (getElem_mem Gm);refine⟨Gm,by omega,?_⟩;obtain⟨tN,ht⟩:=h.run.ph j' Gm;have Gy:=ht (cls (dM L) (z t)) (by omega);have hA:∀x,EW L' nm.length (pZ (dM L)) SS[j'] (cls (dM L) (z t)) x↔cy L' f0 z (t+1) x:=by
  intro x;show FR L' _ x↔FR L' _ x;refine FR.congr (fun y=>?_) x;rw[Mv.byte (h.rep (z t) hz) y];refine Mv.congr (fun w=>⟨fun hw=>(hS w hw.1).1 hw.2,fun hw=>?_⟩) _ y;have aq:w<nm.length:=cy.lt (f:=f0) (List.getElem?_eq_some_iff.1 h.hf).1 (fun e he=>(h.bd e he).2) t hw;exact⟨aq,(hS w aq).2 hw⟩
 rcases Gy with ⟨h1,h2⟩|⟨_,j2,hj2,h1,h2⟩
 ·refine inl ⟨h1,fun x hx=>?_⟩;have aq:x<nm.length:=cy.lt (f:=f0) (List.getElem?_eq_some_iff.1 h.hf).1 (fun e he=>(h.bd e he).2) (t+1) hx;exact h2 x aq ((hA x).2 hx)
 exact inr ⟨j2,hj2,h1,fun x hx=>(h2 x hx).trans (hA x)⟩
theorem cy.dead{f:Nat}{z:Nat->Nat}(h:∀x,¬cy L f z t x):∀x,¬cy L f z (t+1) x:=fun x=>FR.none (Mv.none h (z t)) x
theorem Made.names{f0:Nat}(h:Made L F nm L' f0 s0 k R SS)(z:Nat->Nat)(m:Nat):tY nm (cy L' f0 z m) (cy L F z m):=by
 have:=tY.run h.nd h.bd (List.getElem?_eq_some_iff.1 h.hf).1 z m;rw[<-h.ov] at this;have e:nm.getD f0 0=F:=by simp[getD_eq_getElem?_getD,h.hf]
 rwa [e] at this
theorem Made.mark{f0:Nat}(h:Made L F nm L' f0 s0 k R SS){z:Nat->Nat}(hj:j<SS.length)(hs:tf nm.length SS (cy L' f0 z m) (j:Int))
  (hr:bQ (fun i=>mf (nm.getD i 0)) (fun x=>x<nm.length/\SS[j] x=true) r):bQ mf (cy L F z m) r:=by
 rcases hs with ⟨h1,_⟩|⟨j',Bb,e,hS⟩
 ·omega
 have e2:j'=j:=by omega
 subst e2;refine bQ.nam h.nd (h.names z m) (hr.congr (fun x=>⟨fun hx=>(hS x hx.1).1 hx.2,fun hx=>?_⟩));have aq:x<nm.length:=cy.lt (f:=f0) (List.getElem?_eq_some_iff.1 h.hf).1 (fun e he=>(h.bd e he).2) m hx;exact⟨aq,(hS x aq).2 hx⟩
theorem mz.src{S:Nat->Prop}{S':List (Nat->Bool)}(h:mz M S SS r S'):∀i (hi:i<S'.length),SS.length<=i->(∃x,x<M/\S x)/\∀x,x<M->(S'[i] x=true↔S x):=by
 intro i hi hl;rcases h with ⟨_,_,rfl⟩|⟨h0,j,_,⟨hj,Qt⟩,rfl|⟨f,rfl,rfl,_⟩⟩
 ·omega
 ·omega
 have:i=SS.length:=by simp at hi;omega
 subst this;exact⟨h0,Qt⟩
theorem iw.src{M:Nat}{T:Nat->Nat->Prop}{SS S':List (Nat->Bool)}{c:Nat}{row:List Int}(h:iw M T SS c row S'):∀i (hi:i<S'.length),SS.length<=i->∃d,d<c/\(∃x,x<M/\T d x)/\∀x,x<M->(S'[i] x=true↔T d x):=by
 induction h with
 | zero=>intro i hi hl;omega
 | @succ c row S1 S2 r h0 h1 ih=>
  intro i hi hl;by_cases e:i<S1.length
  ·obtain⟨d,hd,h2,h3⟩:=ih i e hl;refine⟨d,by omega,h2,fun x hx=>?_⟩;rw[<-h1.pre.getElem e];exact h3 x hx
  obtain⟨h2,h3⟩:=h1.src i hi (by omega);exact⟨c,by omega,h2,h3⟩
theorem iK.src{M C:Nat}{T:(Nat->Bool)->Nat->Nat->Prop}{S0 S':List (Nat->Bool)}{k:Nat}{R:List (List Int)}(h:iK M C T S0 k R S'):∀i (hi:i<S'.length),S0.length<=i->∃(i':Nat) (hi':i'<S'.length) (d:Nat),i'<i/\d<C/\(∃x,x<M/\T S'[i'] d x)/\∀x,x<M->(S'[i] x=true↔T S'[i'] d x):=by
 induction h with
 | zero=>intro i hi hl;omega
 | @succ k R row S1 S2 h0 hk h1 ih=>
  intro i hi hl;by_cases e:i<S1.length
  ·obtain⟨i',hi',d,aq,hd,h2,h3⟩:=ih i e hl;refine⟨i',Nat.lt_of_lt_of_le hi' h1.pre.length_le,d,aq,hd,?_,fun x hx=>?_⟩
   ·rw[<-h1.pre.getElem hi'];exact h2
   rw[<-h1.pre.getElem e,<-h1.pre.getElem hi'];exact h3 x hx
  obtain⟨d,hd,h2,h3⟩:=h1.src i hi (by omega);refine⟨k,Nat.lt_of_lt_of_le hk h1.pre.length_le,d,by omega,hd,?_,fun x hx=>?_⟩
  ·rw[<-h1.pre.getElem hk];exact h2
  rw[<-h1.pre.getElem hk];exact h3 x hx
theorem VX(K:Nat->Lit):0<dC K 256:=by
 have h:=EX K 0 256 (by omega);omega
structure jH (w:World)(cD:Array Value)(K:Nat->Lit)(R:List (List Int))(ms:List Int)(C:Nat):Prop where
 cl:∀j,j<256->cD[j]?=some (.int .u8 ((cls K j:Nat):Int))
 nx:∃vN gs,cD[256]?=some vN/\qM w 0 [] vN C gs R
 dt:∃vK,cD[257]?=some vK/\w.ownsRow 0 3 1 vK ms.length (ints ms)
 rl:∀r∈R,r.length=C
theorem IQ(w:World)(b:Nat)(cs:Array Value):Kept [] [b] w (w.setRow b cs):=fun k o hk _ hn=>by
 rw[setRow_other w b k cs (by simpa using hn)]
 exact hk
theorem jH.setRow{b:Nat}{jC:Array Value}(h:jH w cD K R ms C)(hb:St w 29 b jC):jH (w.setRow b cs) cD K R ms C:=by
 obtain⟨vN,gs,h1,h2⟩:=h.nx;obtain⟨vK,h3,h4⟩:=h.dt;have k:=IQ w b cs;refine⟨h.cl,⟨vN,gs,h1,⟨fC h2.own k (by simp) (fun g e hm=>ew h2.own hb (by decide) g e (List.mem_singleton.1 hm)),h2.len,fun i hi hi'=>⟨(h2.row i hi hi').1.kept k (by simp) (fun hm=>(h2.row i hi hi').1.ne hb (by decide) (List.mem_singleton.1 hm)),by simp⟩⟩⟩,
  ⟨vK,h3,fC h4 k (by simp) (fun g e hm=>ew h4 hb (by decide) g e (List.mem_singleton.1 hm))⟩,h.rl⟩
theorem jH.rows(h:jH w cD K R ms C):∃a c A,cD[256]?=some (.slice a R.length c)/\pQ w a R.length A (fun _=>C) (fun _=>C) (fun i x=>(R.getD i []).getD x 0):=by
 obtain⟨vN,gs,h1,h2⟩:=h.nx;have hN:=h2.own;obtain⟨aN,cN,rfl⟩:=bP hN;refine⟨aN,cN,fun i=>some ⟨gs.getD i 0,0,none⟩,h1,fun h0=>?_⟩;obtain⟨g,rfl,_,hg,hc⟩:=ek hN h0;refine⟨g,0,rfl,hg,fun i hi=>?_⟩;have KT:i<gs.length:=by rw[h2.len];exact hi
 obtain⟨hs,_⟩:=h2.row i KT hi;have wh:=h.rl _ (getElem_mem hi);refine⟨?_,fun h1=>⟨gs.getD i 0,0,rfl,?_,fun j hj=>?_⟩⟩
 ·rw[zero_add,(hc i (by omega)).1];simp[getD_eq_getElem?_getD,KT]
 ·have:=hs.lt;simpa [getD_eq_getElem?_getD,KT] using this
 have V4:gs.getD i 0=gs[i]:=by simp[getD_eq_getElem?_getD,KT]
 rw[zero_add,V4,hs.at_];have hj2:j<R[i].length:=by rw[wh];exact hj
 simp[ints,getD_eq_getElem?_getD,hi,hj2]
theorem jH.marks(h:jH w cD K R ms C):∃a c,cD[257]?=some (.slice a ms.length c)/\kW w a ms.length (fun i=>ms.getD i 0):=by
 obtain⟨vK,h3,h4⟩:=h.dt;obtain⟨a,c,rfl⟩:=bP h4;refine⟨a,c,h3,fun h0=>?_⟩;obtain⟨g,rfl,_,hg,hc⟩:=ek h4 h0;refine⟨g,0,rfl,hg,fun j hj=>?_⟩;rw[zero_add,(hc j (by omega)).1];simp[ints,getD_eq_getElem?_getD,hj]
def oo(L:List En)(F:Nat)(mf:Nat->Int)(w:World)(e:Ending)(w':World):Prop:=
 ∃(cD:Array Value) (er:Int) (nm:List Nat) (L':List En) (f0:Nat) (s0:Nat->Bool) (k:Nat) (R:List (List Int)) (SS:List (Nat->Bool)),e=.returned (.tuple #[.agg cD,.int .i64 er])/\Below w.heap.size w w'/\Made L F nm L' f0 s0 k R SS/\cD.size=258/\(∀v∈cD.toList,v.oneCell'=true)/\
  ((er=6/\2000<SS.length/\cD=zC 29)\/(er=0/\SS.length=k/\k<=2000/\∃ms,jH w' cD (dM L) R ms (rl (dM L) 256).length/\ms.length=k/\∀j (h:j<SS.length) (h2:j<ms.length),bQ (fun i=>mf (nm.getD i 0)) (fun x=>x<nm.length/\SS[j] x=true) ms[j]))
theorem mz.start{S:Nat->Prop}{jR:List (Nat->Bool)}(h:mz M S [] r jR)(h0:∃x,x<M/\S x):∃f,jR=[f]/\∀x,x<M->(f x=true↔S x):=by
 rcases h with ⟨h1,_,_⟩|⟨_,j,_,⟨hj,Qt⟩,rfl|⟨f,rfl,rfl,_⟩⟩
 ·obtain⟨x,hx,hs⟩:=h0;exact absurd hs (h1 x hx)
 ·simp at hj
 exact⟨f,rfl,fun x hx=>Qt x hx⟩
theorem lY.dfa{D:List ((Nat->Bool) × Nat)}{l:List Nat}{vL vK vN:Value}{gs:List Nat}
  (h:lY B bm gI bM m M C bn K L mk SS ms D R n cs l vL vS vK vN gs w) (hR:∀r∈R,r.length=C):
  ∃cD:Array Value,cD.size=258/\(∀v∈cD.toList,v.oneCell'=true)/\(∀j v,cD.toList[j]?=some v->w.cell? ((⟨bm,1,none⟩:Addr).add j)=some v)/\ms.length=SS.length/\jH w cD K R ms C:=by
 have Xc:=h.inv.len;have hN:=h.nx.own;have hK:=h.t.ok;obtain⟨aN,cN,rfl⟩:=bP hN;obtain⟨aK,cK,rfl⟩:=bP hK;refine⟨((range 256).map (fun j=>Value.int .u8 ((cls K j:Nat):Int))++[Value.slice aN R.length cN,Value.slice aK SS.length cK]).toArray,by simp,fun v hv=>?_,fun j v hj=>?_,Xc,⟨fun j hj=>?_,⟨.slice aN R.length cN,gs,by simp[getElem?_append],⟨ga hN (zero_le _),h.nx.len,fun i hi hi'=>⟨(h.nx.row i hi hi').1,by simp⟩⟩⟩,⟨.slice aK SS.length cK,by simp[getElem?_append],by rw[Xc];exact ga hK (zero_le _)⟩,hR⟩⟩
 ·rcases List.mem_append.1 hv with hv|hv
  ·obtain⟨j,_,rfl⟩:=List.mem_map.1 hv;rfl
  simp only[List.mem_cons,List.not_mem_nil,or_false] at hv;rcases hv with rfl|rfl <;> rfl
 ·have e:(⟨bm,1,none⟩:Addr).add j=⟨bm,1+j,none⟩:=by unfold Addr.add;split <;> simp_all
  have hj2:j<258:=by
   have:=(List.getElem?_eq_some_iff.1 hj).1;simpa using this
  rw[e,h.a.r.other (1+j) (by omega)];by_cases e1:j<256
  ·rw[h.cl j e1,<-hj];simp[getElem?_append,e1]
  by_cases e2:j=256
  ·subst e2;rw[show 1+256=257 from rfl,h.cN,<-hj];simp[getElem?_append]
  have e3:j=257:=by omega
  subst e3;rw[show 1+257=258 from rfl,h.t.cK,<-hj];simp[getElem?_append]
 simp[getElem?_append,hj]
theorem X5(kf bV:Nat)(mf:Nat->Int)(S0 T:Int)(F:Nat)(L:List En)(a:Option Addr)(n c:Nat)(w:World)(HC:∀(args:Array Value) (W:World),(callFunc kf args).run prog W=.ok (.enter kf args) W)
  (HM:∀W,Below w.heap.size w W->∀x,x<=9223372036854775807->Calls prog kf #[.int .i64 ((x:Nat):Int),.pointer (some ⟨bV,0,none⟩)] W fun e w'=>e=.returned (.int .i64 (mf x))/\w'=W) (CY:∀x,-1<=mf x)
  (hL:gq w a (L.map En.z)) (hn:L.length=n) (dK:n<=6400) (pH:(cG (L.map En.z)).length<=1000) (hF:F<=9223372036854775807) (hE:∀e∈L,e.f<=9223372036854775807/\e.t<=9223372036854775807) (hr:si S0 (L.map En.z) (F:Int) T=true):
  Calls prog 37 #[.agg #[.int .i64 S0,.slice a n c,.int .i64 (F:Int),.int .i64 T],.func (.func kf) #[] #[.pointer (some ⟨bV,0,none⟩)]] w (oo L F mf w):=by
 have FZ:=hid (fun (W:World) (hb:Below w.heap.size w W)=>zkn kf bV mf S0 T F L a n c W HC (fun W' hb'=>HM W' (hb.trans (hb'.mono hb.size))) (hL.below hb) hn dK pH hF hE);have Xe:Hid (∀(W:World),Below w.heap.size w W->Calls prog 64 #[.agg #[.int .i64 S0,.slice a n c,.int .i64 (F:Int),.int .i64 T]] W fun e w'=>e=.returned (.bool true)/\Below W.heap.size W w'):=fun W hb=>by
  have:=zkZ S0 (F:Int) T a n c (L.map En.z) W (hL.below hb) (by rw[length_map];exact hn) (by unfold maxLen;omega);rwa [hr] at this
 have HH:=hid (Zz hn (Zz CY hr));clear HC HM hL hn hE hr CY;go_in;go_wp2_with (refine nR rfl 29 rfl (zC 29) (lA _) ?_);go_upto_region 1 with fail;have h2:St ((w.alloc (.cells #[.int .i64 S0,.slice a n c,.int .i64 (F:Int),.int .i64 T] 55)).alloc (.cells (zC 29) 29)) 55 w.heap.size #[.int .i64 S0,.slice a n c,.int .i64 (F:Int),.int .i64 T]:=(St.new w _ _).alloc _;have h4:St ((w.alloc (.cells #[.int .i64 S0,.slice a n c,.int .i64 (F:Int),.int .i64 T] 55)).alloc (.cells (zC 29) 29)) 29 (w.heap.size+1) (zC 29):=by
  have:=St.new (w.alloc (.cells #[.int .i64 S0,.slice a n c,.int .i64 (F:Int),.int .i64 T] 55)) 29 (zC 29);simpa using this
 have lB:Below w.heap.size w ((w.alloc (.cells #[.int .i64 S0,.slice a n c,.int .i64 (F:Int),.int .i64 T] 55)).alloc (.cells (zC 29) 29)):=(al w _).trans ((al _ _).mono (by simp));generalize (w.alloc (.cells #[.int .i64 S0,.slice a n c,.int .i64 (F:Int),.int .i64 T] 55)).alloc (.cells (zC 29) 29)=W0 at h2 h4 lB⊢;obtain⟨b4,fj⟩:∃b4,w.heap.size+1=b4:=⟨_,rfl⟩
 rw[fj] at h4;rw[fj];obtain⟨r0,r1,r2,r3⟩:=h2.bZ;have H0:=hid (Zz h2 (Zz h4 (Zz lB fj)));have vQ:=hid (Xe.out W0 lB);clear h2 h4 lB fj;go_wp2_with fail;refine vQ.out.mono ?_;rintro e w1 ⟨rfl,mG⟩;have j9:Below w.heap.size w w1:=H0.out.2.2.1.trans (mG.mono H0.out.2.2.1.size);have s2:=H0.out.1.ab mG;have H1:=hid (Zz s2 (Zz (H0.out.2.1.ab mG) j9));have ob:=hid (FZ.out w1 j9);clear r0 r1 r2 r3;obtain⟨r0,r1,r2,r3⟩:=s2.bZ;clear mG j9 s2 vQ Xe FZ;go_wp2_with fail;refine ob.out.mono ?_;rintro e w2 ⟨bn,f0,gM,cM,gF,cF,gS,cS,nm,L',aF,aS,Ev,EK,csA,rfl,mR,QD,sc,sW,tA,GU,Cj,ju,qW,Hc,M7,jK⟩;obtain⟨m,hm⟩:∃m,(nm.length+7) / 8=m:=⟨_,rfl⟩
 have hlL:L.length=L'.length:=by rw[Cj,length_map]
 have QG:L'.length<=6400:=by have:=HH.out.1;omega
 have KG:nm.length<=12900:=by have:=HH.out.1;omega
 have Ka:=hid (zg4 (dM L) L' (fun i=>mf (nm.getD i 0)) csA bn gM nm.length cM m (rl (dM L) 256).length w2 tA sW.gK KG hm);have mT:=hid (Zz QD (Zz sc (Zz sW (Zz GU (Zz Cj (Zz ju (Zz qW (Zz Hc (Zz jK hm)))))))));have H2:=hid (Zz (H1.out.2.1.ab mR) (H1.out.2.2.trans (mR.mono H1.out.2.2.size)));have bD:bn<w2.heap.size:=QD.gz.1;have tj:=mR.size;have CQ:w.heap.size<=w2.heap.size:=by have:=H1.out.2.2.size;omega
 clear mR QD sc sW tA GU Cj ju qW Hc jK hm M7 hlL ob r0 r1 r2 r3;go_wp2_with fail;refine Ka.out.mono ?_;rintro e w3 ⟨bm,gI,bM,cK,rfl,Iq,qd⟩;have c0:w3.cell? ⟨bm,0,none⟩=some (.pointer (some ⟨bn,0,none⟩)):=(Iq.a.r.other 0 (by decide)).trans Iq.c0;have c1:w3.cell? ⟨bn,256,none⟩=some (.int .i64 (f0:Int)):=(qd.cell (p:=⟨bn,256,none⟩) bD).trans mT.out.2.2.2.1;have dJ:=qd.size;have Fz:=hid (Iq.ab (al w3 (.cells #[.int .i64 (f0:Int)] 3)));have yQ:=hid qd;have qn:=Iq.wV;have CM:f0<nm.length:=(List.getElem?_eq_some_iff.1 mT.out.2.2.2.2.2.2.2.1).1;have CE:Below w2.heap.size w2 (w3.alloc (.cells #[.int .i64 (f0:Int)] 3)):=qd.trans ((al w3 _).mono dJ);have qN:=hid (Xp (w3.alloc (.cells #[.int .i64 (f0:Int)] 3)) w2.heap.size (jl bm gI bM (.slice none 0 0) (.slice none 0 0) (.slice none 0 0)) bm gI m nm.length bM bn gM cM gF cF aF Ev L' (mT.out.1.below CE) mT.out.2.2.2.2.2.2.1 (by omega) cK (fun i=>mf (nm.getD i 0)) (mT.out.2.2.1.below CE) (fun i _=>HH.out.2.1 _) Fz.out.c0 (by omega) mT.out.2.2.2.2.2.2.2.2.2 _ [] (.slice none 0 0) (.slice none 0 0) (.slice none 0 0) 0 [] [] [] (by simp) (by omega) (by simp)
  (some ⟨w3.heap.size,0,none⟩) 1 1 [f0] rfl (by omega) (fun x hx=>by rw[List.mem_singleton.1 hx];exact CM) (fun W hW h0=>by
   have hg:w3.heap.size<(w3.alloc (.cells #[.int .i64 (f0:Int)] 3)).heap.size:=by simp
   have hn:w3.heap.size∉jl bm gI bM (.slice none 0 0) (.slice none 0 0) (.slice none 0 0):=fun hm=>Nat.lt_irrefl _ (qn _ hm)
   have h1:=hW _ _ (Array.getElem?_eq_getElem hg) (fun _ _ _ _=>by simp) hn
   refine⟨w3.heap.size,0,rfl,(Array.getElem?_eq_some_iff.1 h1).1,fun j hj=>?_⟩
   obtain rfl:j=0:=by simp at hj;omega
   rw[hW.nI hn hg]
   exact (St.new w3 3 #[.int .i64 (f0:Int)]).at_ 0) _ Fz.out.a.r Fz.out.t Fz.out.inv)
 clear Iq qd qn CE Ka;go_wp2_with fail;refine qN.out.mono ?_;rintro e w5 rK;obtain⟨r,SS1,ms1,D1,n1,cs1,l1,N4,Jy,vK1,rfl,Ak,hAdd,_,ef,_⟩:=Fz.out.close rK ⟨f0,CM,.base (by simp)⟩;obtain⟨s0,rfl,mC⟩:=hAdd.start ⟨f0,CM,.base (by simp)⟩;have dz:Hid (∀x,x<nm.length->(s0 x=true↔FR L' (fun y=>y=f0) x)):=fun x hx=>(mC x hx).trans (FR.congr (fun y=>by simp) x)
 have Di:=hid Ak;have Ng:=hid ((yQ.out.trans ((al w3 _).mono dJ)).trans ef);clear rK Ak hAdd ef mC c0 c1 qN Fz;have hlC:(rl (dM L) 256).length<=256:=by rw[zD];exact NZ _ _
 have hCp:0<(rl (dM L) 256).length:=by
  rw[zD];exact VX _
 go_wp2;go_loopw [7] (fun v wq=>∃(k:Nat) (SS:List (Nat->Bool)) (ms:List Int) (D:List ((Nat->Bool) × Nat)) (R:List (List Int)) (nn:Nat) (cs:Array Value) (l:List Nat) (vL vS vK vN:Value) (gs:List Nat),v=.int .i64 k/\k<=SS.length/\SS.length<=2000/\
  Hid (lY w2.heap.size bm gI bM m nm.length (rl (dM L) 256).length bn (dM L) L' (fun i=>mf (nm.getD i 0)) SS ms D R nn cs l vL vS vK vN gs wq)/\Hid (iK nm.length (rl (dM L) 256).length (EW L' nm.length (pZ (dM L))) [s0] k R SS)/\Hid (Below w2.heap.size w2 wq)) (fun v _=>2001-(intOf v).toNat)
 ·exact⟨0,[s0],ms1,D1,[],n1,cs1,l1,N4,Jy,vK1,_,[],rfl,by simp,by simp,Di,iK.zero,Ng⟩
 clear Di Ng;obtain⟨k,SS,ms,D,R,nn,cs,l,vL,vS,vK,vN,gs,rfl,hk,hS,HM,LO,HB⟩:=hrel;obtain⟨aS1,cS1,rfl⟩:=bP HM.out.t.os;have d0:wr.cell? ⟨bm,259,none⟩=some (.slice aS1 SS.length cS1):=(HM.out.a.r.other 259 (by decide)).trans HM.out.t.cS;have hRk:=LO.out.len;have gZ:St wr 29 b4 (zC 29):=H2.out.1.below HB.out H2.out.1.lt;by_cases aq:k<SS.length
 ·have hk63:k<3000:=by omega
  have XC:=hid (zn1 w2.heap.size bm gI bM m nm.length (rl (dM L) 256).length bn gM cM gF cF gS cS nn k aF aS Ev EK (pZ (dM L)) (dM L) L' (fun i=>mf (nm.getD i 0)) wr (mT.out.1.below HB.out) (mT.out.2.1.below HB.out) (mT.out.2.2.1.below HB.out) mT.out.2.2.2.2.2.2.1 QG (fun i _=>HH.out.2.1 _) (by rw[<-zD]) hlC KG mT.out.2.2.2.2.2.2.2.2.2 SS ms D R cs l vL _ vK vN gs HM.out aq (by omega) (by omega));have OP:=hid aq;obtain⟨q,hq⟩:∃q,SS.length=q:=⟨_,rfl⟩
  have i1:(k:Int)<q:=by omega
  rw[hq] at d0;have HQ:=hid hq;clear hq hk;go_wp2_with fail;refine XC.out.mono ?_;rintro e w6 ⟨row,Bl,QS,D2,n2,Ov,l2,rB,Fp,IM,vN2,gs2,rfl,qa,Cu,qm⟩;obtain⟨Qe,cS2,rfl⟩:=bP qa.t.os;have d1:w6.cell? ⟨bm,259,none⟩=some (.slice Qe Bl.length cS2):=(qa.a.r.other 259 (by decide)).trans qa.t.cS;have Ii:Hid (iK nm.length (rl (dM L) 256).length (EW L' nm.length (pZ (dM L))) [s0] (k+1) (R++[row]) Bl):=iK.succ LO.out OP.out Cu;have tM:=hid qa;have zo:=hid (HB.out.trans qm);have DY:St w6 29 b4 (zC 29):=H2.out.1.below zo.out H2.out.1.lt;have kO:=hid Cu.pre.length_le;obtain⟨q2,hq2⟩:∃q2,Bl.length=q2:=⟨_,rfl⟩
  have qS:=hid hq2;rw[hq2] at d1;clear qa Cu qm hq2 d0 gZ XC;by_cases lI:2000<q2
  ·have i2:(2000:Int)<q2:=(by omega);have HF:Hid (oo L F mf w (.returned (.tuple #[.agg (zC 29),.int .i64 6])) (w6.setRow b4 (zC 29))):=by
    refine⟨zC 29,6,nm,L',f0,s0,k+1,R++[row],Bl,rfl,kT (H2.out.2.trans (zo.out.mono CQ)) (by have:=H0.out.2.2.2;omega) _,⟨mT.out.2.2.2.2.1,mT.out.2.2.2.2.2.1,mT.out.2.2.2.2.2.2.1,mT.out.2.2.2.2.2.2.2.1,mT.out.2.2.2.2.2.2.2.2.1,dz.out,Ii.out⟩,gY,zM,inl ⟨rfl,by rw[qS.out];exact lI,rfl⟩⟩
   have ee:=hid DY;clear DY;go_wp2_with (first|(refine AE rfl 29 _ rfl #[] ?hp (.agg (zC 29)) ?hb ?_)|(refine lJ rfl 29 _ _ rfl b4 29 (zC 29) (zC 29) rfl rfl ee.out rfl (by rw[fD,gY]) zM ?_))
   case hb=>exact Jb _
   refine bodyPost_ret (ye rfl _ _ b4 (zC 29) _ rfl ee.out.setRow.part underlying29 rfl (by rw[fD,gY])) rfl ?_;exact HF.out
  have i2:¬((2000:Int)<q2):=by omega
  clear DY;go_wp2;go_roundw
  ·exact⟨k+1,Bl,QS,D2,R++[row],n2,Ov,l2,rB,_,IM,vN2,gs2,by go_num,by have:=kO.out;have:=OP.out;omega,by have:=qS.out;omega,tM,Ii,zo⟩
  simp[intOf];have:=OP.out;omega
 have VR:k=SS.length:=by omega
 obtain⟨cD,pJ,CA,dL,l5,hD⟩:=HM.out.dfa (fun r hr=>LO.out.sR r hr);have HF:Hid (oo L F mf w (.returned (.tuple #[.agg cD,.int .i64 0])) (wr.setRow b4 cD)):=by
  refine⟨cD,0,nm,L',f0,s0,k,R,SS,rfl,kT (H2.out.2.trans (HB.out.mono CQ)) (by have:=H0.out.2.2.2;omega) _,⟨mT.out.2.2.2.2.1,mT.out.2.2.2.2.2.1,mT.out.2.2.2.2.2.2.1,mT.out.2.2.2.2.2.2.2.1,mT.out.2.2.2.2.2.2.2.2.1,dz.out,LO.out⟩,pJ,CA,inr ⟨rfl,VR.symm,by omega,ms,hD.setRow gZ,by omega,HM.out.inv.dt⟩⟩
 have ee:=hid gZ;have HX:=hid (Zz pJ (Zz CA dL));have i1:¬((k:Int)<(SS.length:Int)):=by omega
 clear gZ hD l5 pJ CA dL VR aq hk;go_wp2_with (first|(refine p6 rfl 29 _ rfl ⟨bm,1,none⟩ rfl cD _ HX.out.2.2 underlying29 rfl (by rw[fD,HX.out.1]) ?_)|(refine lJ rfl 29 _ _ rfl b4 29 (zC 29) cD rfl rfl ee.out (by rw[gY,HX.out.1]) (by rw[fD,HX.out.1]) HX.out.2.1 ?_));refine bodyPost_ret (ye rfl _ _ b4 cD _ rfl ee.out.setRow.part underlying29 rfl (by rw[fD,HX.out.1])) rfl ?_;exact HF.out
theorem zkp(bV:Nat)(a:Option Addr)(n c:Nat)(z:Nat->Int)(hn:n<=9223372036854775807)(w:World)(hS:St w 27 bV #[.slice a n c])(hz:kW w a n z)(x:Nat)(hx:x<=9223372036854775807):
  Calls prog 38 #[.int .i64 (x:Int),.pointer (some ⟨bV,0,none⟩)] w fun e w'=>e=.returned (.int .i64 (ik n z x))/\w'=w:=by
 have c0:w.cell? ⟨bV,0,none⟩=some (.slice a n c):=hS.at_ 0;by_cases aq:x<n
 ·obtain⟨g,off,rfl,_,q⟩:=hz (by omega);have d0:=q x aq;have i1:(x:Int)<n:=by omega
  have HM:Hid (ik n z x=max (z x) (-1)):=by
   show _=_;unfold ik;rw[if_pos aq];split <;> omega
  generalize ik n z x=r at HM;generalize z x=y at d0 HM;clear q;go_in;go_wp2;go_ret;exact⟨by rw[HM.out];rfl,rfl⟩
 have i1:¬((x:Int)<n):=by omega
 have HM:Hid (ik n z x=-1):=by show _=_;simp[ik,aq]
 go_in;go_wp2;go_ret;exact⟨by rw[HM.out];rfl,rfl⟩
theorem zie(bV:Nat)(S F:Int)(T:Nat)(a:Option Addr)(n c:Nat)(w:World)(hS:St w 55 bV #[.int .i64 S,.slice a n c,.int .i64 F,.int .i64 (T:Int)])(x:Nat)(hx:x<=9223372036854775807)(hT:T<=9223372036854775807):
  Calls prog 49 #[.int .i64 (x:Int),.pointer (some ⟨bV,0,none⟩)] w fun e w'=>e=.returned (.int .i64 (if x=T then 0 else -1))/\w'=w:=by
 obtain⟨c0,c1,c2,c3⟩:=hS.bZ;by_cases e:x=T
 ·rw[if_pos e];subst e;go_in;go_wp2;go_ret;exact⟨rfl,rfl⟩
 rw[if_neg e];have i1:¬((x:Int)=T):=by omega
 go_in;go_wp2;go_ret;exact⟨rfl,rfl⟩
theorem oo.put{W0:World}{er:Int}{f0:Nat}{b4:Nat}
  (hB:Below w.heap.size w W0) (h1:Below W0.heap.size W0 w') (h2:Made L F nm L' f0 s0 k R SS) (h3:cD.size=258) (h4:∀v∈cD.toList,v.oneCell'=true)
  (h5:(er=6/\2000<SS.length/\cD=zC 29)\/(er=0/\SS.length=k/\k<=2000/\∃ms,jH w' cD (dM L) R ms (rl (dM L) 256).length/\ms.length=k/\∀j (h:j<SS.length) (h2:j<ms.length),bQ (fun i=>mf (nm.getD i 0)) (fun x=>x<nm.length/\SS[j] x=true) ms[j]))
  (bU:St w' 29 b4 (zC 29)) (fj:w.heap.size<=b4):oo L F mf w (.returned (.tuple #[.agg cD,.int .i64 er])) (w'.setRow b4 cD):=by
 refine⟨cD,er,nm,L',f0,s0,k,R,SS,rfl,kT (hB.trans (h1.mono hB.size)) fj _,h2,h3,h4,?_⟩;rcases h5 with h|⟨e1,e2,e3,ms,h6,h7,h8⟩
 ·exact inl h
 exact inr ⟨e1,e2,e3,ms,h6.setRow bU,h7,h8⟩
theorem zp1(S0 T:Int)(F:Nat)(L:List En)(a:Option Addr)(n c:Nat)(am:Option Addr)(nM cM:Nat)(z:Nat->Int)(w:World)(hz:kW w am nM z)(hnM:nM<=9223372036854775807)
  (hL:gq w a (L.map En.z)) (hn:L.length=n) (dK:n<=6400) (pH:(cG (L.map En.z)).length<=1000) (hF:F<=9223372036854775807) (hE:∀e∈L,e.f<=9223372036854775807/\e.t<=9223372036854775807) (hr:si S0 (L.map En.z) (F:Int) T=true):
  Calls prog 21 #[.agg #[.int .i64 S0,.slice a n c,.int .i64 (F:Int),.int .i64 T],.slice am nM cM] w (oo L F (ik nM z) w):=by
 have eR:∀(fn:Fn) (first cap:Array Value) (w:World),(makeFunc fn first cap).run prog w=.ok (.func fn first cap) w:=fun _ _ _ _=>rfl
 have HD:=hid (fun (W:World) (hb:Below w.heap.size w W) (bV:Nat) (hS:St W 27 bV #[.slice am nM cM])=>X5 38 bV (ik nM z) S0 T F L a n c W Vm.1 (fun W' hb' x hx=>zkp bV am nM cM z hnM W' (hS.ab hb') (hz.below (hb.trans (hb'.mono hb.size))) x hx) (fun x=>by unfold ik;split <;> (try split) <;> omega) (hL.below hb) hn dK pH hF hE hr);clear hL hn hE hr hz;go_in;go_wp2_with (refine nR rfl 29 rfl (zC 29) (lA _) ?_);go_upto_region 1 with fail;obtain⟨W0,qv⟩:∃W0,((w.alloc (.cells #[.int .i64 S0,.slice a n c,.int .i64 (F:Int),.int .i64 T] 55)).alloc (.cells #[.slice am nM cM] 27)).alloc (.cells (zC 29) 29)=W0:=⟨_,rfl⟩
 have k1:=al w (.cells #[.int .i64 S0,.slice a n c,.int .i64 (F:Int),.int .i64 T] 55);have k2:=al (w.alloc (.cells #[.int .i64 S0,.slice a n c,.int .i64 (F:Int),.int .i64 T] 55)) (.cells #[.slice am nM cM] 27);have k3:=al ((w.alloc (.cells #[.int .i64 S0,.slice a n c,.int .i64 (F:Int),.int .i64 T] 55)).alloc (.cells #[.slice am nM cM] 27)) (.cells (zC 29) 29);have h2:St W0 55 w.heap.size #[.int .i64 S0,.slice a n c,.int .i64 (F:Int),.int .i64 T]:=by rw[<-qv];exact ((St.new w _ _).ab k2).ab k3
 have h3:St W0 27 (w.heap.size+1) #[.slice am nM cM]:=by
  rw[<-qv];have:=(St.new (w.alloc (.cells #[.int .i64 S0,.slice a n c,.int .i64 (F:Int),.int .i64 T] 55)) 27 #[.slice am nM cM]).ab k3;simpa using this
 have h4:St W0 29 (w.heap.size+1+1) (zC 29):=by
  rw[<-qv];have:=St.new ((w.alloc (.cells #[.int .i64 S0,.slice a n c,.int .i64 (F:Int),.int .i64 T] 55)).alloc (.cells #[.slice am nM cM] 27)) 29 (zC 29);simpa using this
 have lB:Below w.heap.size w W0:=by rw[<-qv];exact (k1.trans (k2.mono (by simp))).trans (k3.mono (by simp;omega))
 try rw[qv]
 obtain⟨b4,fj⟩:∃b4,w.heap.size+1+1=b4:=⟨_,rfl⟩
 obtain⟨b3,dJ⟩:∃b3,w.heap.size+1=b3:=⟨_,rfl⟩
 rw[fj] at h4;rw[dJ] at h3;rw[fj,dJ];obtain⟨r0,r1,r2,r3⟩:=h2.bZ;have H0:=hid (Zz h4 (Zz lB fj));have JP:=hid (HD.out W0 lB b3 h3);clear h2 h3 h4 lB fj dJ qv k1 k2 k3;go_wp2_with fail;refine JP.out.mono ?_;rintro e w1 ⟨cD,er,nm,L',f0,s0,k,R,SS,rfl,h1,h2,h3,h4,h5⟩;have bU:=H0.out.1.ab h1;have HF:=hid (oo.put H0.out.2.1 h1 h2 h3 h4 h5 bU (by have:=H0.out.2.2;omega));have ee:=hid bU;have HX:=hid (Zz h3 h4);clear h1 h2 h3 h4 h5 bU HD JP r0 r1 r2 r3;go_wp2_with (refine lJ rfl 29 _ _ rfl b4 29 (zC 29) cD rfl rfl ee.out (by rw[gY,HX.out.1]) (by rw[fD,HX.out.1]) HX.out.2 ?_);refine bodyPost_ret (ye rfl _ _ b4 cD _ rfl ee.out.setRow.part underlying29 rfl (by rw[fD,HX.out.1])) rfl ?_;exact HF.out
theorem zp2(S0:Int)(F T:Nat)(L:List En)(a:Option Addr)(n c:Nat)(w:World)
  (hL:gq w a (L.map En.z)) (hn:L.length=n) (dK:n<=6400) (pH:(cG (L.map En.z)).length<=1000) (hF:F<=9223372036854775807) (hT:T<=9223372036854775807) (hE:∀e∈L,e.f<=9223372036854775807/\e.t<=9223372036854775807) (hr:si S0 (L.map En.z) (F:Int) (T:Int)=true):
  Calls prog 31 #[.agg #[.int .i64 S0,.slice a n c,.int .i64 (F:Int),.int .i64 (T:Int)]] w (oo L F (fun x=>if x=T then 0 else -1) w):=by
 have eR:∀(fn:Fn) (first cap:Array Value) (w:World),(makeFunc fn first cap).run prog w=.ok (.func fn first cap) w:=fun _ _ _ _=>rfl
 have HD:=hid (fun (W:World) (hb:Below w.heap.size w W) (bV:Nat) (hS:St W 55 bV #[.int .i64 S0,.slice a n c,.int .i64 ((F:Nat):Int),.int .i64 ((T:Nat):Int)])=>X5 49 bV (fun x=>if x=T then 0 else -1) S0 ((T:Nat):Int) F L a n c W Vm.2 (fun W' hb' x hx=>zie bV S0 ((F:Nat):Int) T a n c W' (hS.ab hb') x hx hT) (fun x=>by split <;> omega) (hL.below hb) hn dK pH hF hE hr);clear hL hn hE hr;go_in;go_wp2_with (refine nR rfl 29 rfl (zC 29) (lA _) ?_);go_upto_region 1 with fail;have h2:St ((w.alloc (.cells #[.int .i64 S0,.slice a n c,.int .i64 (F:Int),.int .i64 (T:Int)] 55)).alloc (.cells (zC 29) 29)) 55 w.heap.size #[.int .i64 S0,.slice a n c,.int .i64 (F:Int),.int .i64 (T:Int)]:=(St.new w _ _).alloc _;have h4:St ((w.alloc (.cells #[.int .i64 S0,.slice a n c,.int .i64 (F:Int),.int .i64 (T:Int)] 55)).alloc (.cells (zC 29) 29)) 29 (w.heap.size+1) (zC 29):=by
  have:=St.new (w.alloc (.cells #[.int .i64 S0,.slice a n c,.int .i64 (F:Int),.int .i64 (T:Int)] 55)) 29 (zC 29);simpa using this
 have lB:Below w.heap.size w ((w.alloc (.cells #[.int .i64 S0,.slice a n c,.int .i64 (F:Int),.int .i64 (T:Int)] 55)).alloc (.cells (zC 29) 29)):=(al w _).trans ((al _ _).mono (by simp));generalize (w.alloc (.cells #[.int .i64 S0,.slice a n c,.int .i64 (F:Int),.int .i64 (T:Int)] 55)).alloc (.cells (zC 29) 29)=W0 at h2 h4 lB⊢;obtain⟨b4,fj⟩:∃b4,w.heap.size+1=b4:=⟨_,rfl⟩
 rw[fj] at h4;rw[fj];obtain⟨r0,r1,r2,r3⟩:=h2.bZ;have H0:=hid (Zz h4 (Zz lB fj));have JP:=hid (HD.out W0 lB w.heap.size h2);clear h2 h4 lB fj;go_wp2_with fail;refine JP.out.mono ?_;rintro e w1 ⟨cD,er,nm,L',f0,s0,k,R,SS,rfl,h1,h2,h3,h4,h5⟩;have bU:=H0.out.1.ab h1;have HF:=hid (oo.put (mf:=fun x=>if x=T then 0 else -1) H0.out.2.1 h1 h2 h3 h4 h5 bU (by have:=H0.out.2.2;omega));have ee:=hid bU;have HX:=hid (Zz h3 h4);clear h1 h2 h3 h4 h5 bU HD JP r0 r1 r2 r3;go_wp2_with (refine lJ rfl 29 _ _ rfl b4 29 (zC 29) cD rfl rfl ee.out (by rw[gY,HX.out.1]) (by rw[fD,HX.out.1]) HX.out.2 ?_);refine bodyPost_ret (ye rfl _ _ b4 cD _ rfl ee.out.setRow.part underlying29 rfl (by rw[fD,HX.out.1])) rfl ?_;exact HF.out
theorem bE.p8{ts te sz:Nat}{v' u:Value}{vs:Nat->Value}{len:Nat->Nat}(h:bE w B ts te sz v M vs len xs)(ht:te≠ts)(hu:w.ownsRow B te sz u (len M) (xs M))(hs:∀i,i<M->∀b,(vs i).ownBlock=some b->u.ownBlock≠some b)
  (ho:w'.ownsRow B ts 1 v' (M+1) ((range M).map vs++[u])) (hg:w.grownBy w' v.ownBlock):bE w' B ts te sz v' (M+1) (fun j=>if j=M then u else vs j) len xs:=by
 refine⟨?_,fun i hi=>?_,fun i j hi hj hij b=>?_⟩
 ·have e:(range (M+1)).map (fun j=>if j=M then u else vs j)=(range M).map vs++[u]:=by
   rw[List.range_succ,List.map_append];congr 1
   ·refine(List.map_congr_left fun j hj=>?_);have:j<M:=(by simpa using hj);rw[if_neg (by omega)]
   simp
  rw[e];exact ho
 ·by_cases e:i=M
  ·subst e;simp only[if_pos rfl];exact qI hu hg (fun b e1 e2=>im hu h.own ht b e1 e2.symm)
  simp only[if_neg e];exact qI (h.row i (by omega)) hg (fun b e1 e2=>im (h.row i (by omega)) h.own ht b e1 e2.symm)
 by_cases e1:i=M
 ·by_cases e2:j=M
  ·omega
  simp only[if_pos e1,if_neg e2];intro e3 e4;exact hs j (by omega) b e4 e3
 by_cases e2:j=M
 ·simp only[if_neg e1,if_pos e2];exact hs i (by omega) b
 simp only[if_neg e1,if_neg e2];exact h.sep i j (by omega) (by omega) hij b
theorem lE{s:Nat}{xs:List Value}(ho:w.ownsRow B t s v n xs):∀g,v.ownBlock=some g->g<w.heap.size:=fun g e=>by
 obtain⟨c,fz,hc⟩:=pP ho g e
 exact (Array.getElem?_eq_some_iff.1 hc).1
section
variable {W0 : World}{z N C : Nat}{rp : List Nat}{vP vR : Value}{SS : List (Nat → Bool)}{vs : Nat → Value}{vN : Value}{R : List (List Int)}{ws : Nat → Value}{vO : Value}{ms : List Int}{vW : Value}{row : List Int}{w : World}
end
def va:Value->Option Addr
 | .slice a _ _=>a
 | _=>none
def xr:Value->Nat
 | .slice _ _ c=>c
 | _=>0
theorem bE.zs{ws:Nat->Value}(h:bE w B 27 3 1 (.slice a k c) k ws (fun _=>C) (fun j=>ints (R.getD j [])))(hk:R.length=k)(hl:∀r∈R,r.length=C):
  pQ w a k (fun i=>va (ws i)) (fun i=>xr (ws i)) (fun _=>C) (fun i x=>(R.getD i []).getD x 0):=by
 intro h0;obtain⟨g,rfl,_,hg,hc⟩:=ek h.own h0;refine⟨g,0,rfl,hg,fun i hi=>?_⟩;obtain⟨ai,ci,e⟩:=bP (h.row i hi);have hr:=h.row i hi;refine⟨?_,fun h1=>?_⟩
 ·rw[zero_add,(hc i (by omega)).1];simp[hi,e,va,xr]
 rw[e] at hr;obtain⟨g2,e2,_,yX,fp⟩:=ek hr h1;refine⟨g2,0,by simp[e,va,e2],yX,fun j hj=>?_⟩;rw[zero_add,(fp j (by simpa using hj)).1];have lv:i<R.length:=by omega
 have hj2:j<R[i].length:=by rw[hl _ (getElem_mem lv)];exact hj
 simp[ints,getD_eq_getElem?_getD,lv,hj2]
theorem PK{l:List Int}(h:w.ownsRow B 3 1 (.slice a n c) n (ints l))(hl:l.length=n):kW w a n (fun i=>l.getD i 0):=by
 intro h0;obtain⟨g,rfl,_,hg,hc⟩:=ek h h0;refine⟨g,0,rfl,hg,fun j hj=>?_⟩;rw[zero_add,(hc j (by omega)).1];have hj2:j<l.length:=by omega
 simp[ints,getD_eq_getElem?_getD,hj2]
