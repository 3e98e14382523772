import Derived.Test.YtkkhakmdjinenaaGreatZMUniq
import Derived.Test.YtkkhakmdjinenaaGreatZPBy
import Derived.Laws.MakeOwn
set_option linter.all false
set_option maxHeartbeats 4000000
set_option maxRecDepth 100000
open Go.Lib (hid)
namespace Go.Proofs.YtkkhakmdjinenaaGreat
open Go.RowKit Go.Maps Go.WideElems Go.ChangeMaps Go.MapKept Go.Proofs.Tryz
open Instr (fill lookup makeMap makeSlice mapUpdate)
open List (getD_eq_getElem?_getD getElem?_append_left getElem?_eq_getElem getElem_of_mem length_append length_map map_append mem_of_getElem? range range_succ replicate set_cons_succ set_cons_zero)
open Or (inl inr)
open Nat (le_refl zero_le)
open Act (put)
open IntKind (signed wrap)
variable {B C C' bM i k n:Nat}{D O P:Dd}{W0 w w' w1:World}{a:Option Addr}{cs:Array Value}{f g:Nat->Nat}{l nm:List Nat}{t:TypeId}{u v v':Value}
theorem Px(n:Nat)(hn:n<=1000000)(W:World):(makeSlice 27 (.int .i64 0) (.int .i64 (n:Int))).run prog W=.ok (.slice (some ⟨W.heap.size,0,none⟩) 0 n) (W.alloc (.cells (madeCells #[.int .i64 0] n) 3)):=by
 obtain⟨i0,hi,dv,cP,cG⟩:=info_parts aG;have h:=run_makeSlice (P:=prog) W 27 3 i0 (.int .i64 0) underlying27 hi dv .i64 .i64 0 (n:Int) (by omega) (by omega) (by rw[cP];simp;omega) (by rw[cG];omega) (by omega);have e:(Value.int .i64 0).cells=#[.int .i64 0]:=rfl;rw[cP,e] at h;simpa using h
def dV(w:World)(k:TypeId)(b n:Nat)(Q:Value->Value->Prop):Prop:=
 ∃es clock,w.heap[b]?=some (.map es clock)/\Fit prog k fP es clock/\es.size=n/\(∀e∈es.toList,Q e.key e.val)/\∀x y,Q x y->∃e∈es.toList,e.key=x
theorem dV.ex{k:TypeId}{b:Nat}{Q:Value->Value->Prop}(h:dV w k b n Q):aO w k b n Q:=by
 obtain⟨es,clock,h1,h2,h3,h4⟩:=h;exact⟨es,clock,h1,h2,by omega,h4⟩
theorem dV.made(w:World)(k:TypeId)(Q:Value->Value->Prop)(h0:∀x y,¬Q x y):dV (w.alloc (.map #[] 0)) k w.heap.size 0 Q:=
 ⟨#[],0,(MapKept.heap_alloc w _).1,⟨by simp,stamped_empty 0,by simp⟩,rfl,by simp,fun x y h=>absurd h (h0 x y)⟩
theorem dV.lt{k:TypeId}{b:Nat}{Q:Value->Value->Prop}(h:dV w k b n Q):b<w.heap.size:=h.ex.lt
theorem dV.same{k:TypeId}{b:Nat}{Q:Value->Value->Prop}(h:dV w k b n Q)(e:w'.heap[b]?=w.heap[b]?):dV w' k b n Q:=by
 obtain⟨es,clock,hb,r⟩:=h;exact⟨es,clock,e.trans hb,r⟩
theorem dV.ae{t' size b N:Nat}{xs:List Value}{Q:Value->Value->Prop}(h:dV w k b N Q)(ho:w.ownsRow B t' size v n xs)(hg:w.grownBy w' v.ownBlock):dV w' k b N Q:=by
 refine h.same (hg.block b h.lt (fun e=>?_));obtain⟨c,fz,hc⟩:=qi ho b e.symm;obtain⟨es,clock,hb,_⟩:=h;rw[hc] at hb;cases hb
theorem dV.len{k ty:TypeId}{b:Nat}{Q:Value->Value->Prop}(h:dV w k b n Q)(ht:prog.underlying t=some (.map (prog.mapKeyOf t) (prog.mapElemOf t))):(Builtin.len_ #[t] ty #[.map (some b)]).run prog w=.ok (.int .i64 (n:Int)) w:=by
 obtain⟨es,clock,hb,_,hs,_⟩:=h;rw[Go.run_len_map w t ty b es clock ht hb,hs];rfl
theorem dV.update{k e:TypeId}{b:Nat}{Q Q':Value->Value->Prop}(h:dV w k b n Q)(K:Keyed prog k)(ht:prog.underlying t=some (.map k e))(hn:n<maxLen)
  {key val:Value}{kl:Lit}(ef:keyOf prog k key=some kl) (kO:∀y,¬Q key y) (hQ:∀x y,Q x y->Q' x y) (hv:Q' key val) (nI:∀x y,Q' x y->x≠key->∃y',Q x y'):
  ∃w',(mapUpdate t (.map (some b)) key val).run prog w=.ok () w'/\dV w' k b (n+1) Q'/\w.grownBy w' (some b):=by
 obtain⟨es,clock,hb,F,hs,hq,eo⟩:=h;have gm:∀x∈es.toList,x.key≠key:=fun x hx e0=>kO x.val (by rw[<-e0];exact hq x hx)
 obtain⟨F1,_,_⟩:=F.stay (R':=fP) (fun x hx z hz=>hz);have o9:WideElems.rd prog k fP ⟨key,val,clock⟩=some (kl,.held val):=by unfold WideElems.rd fP;rw[ef];rfl
 rcases K.find w ef es.toList F.keys with ⟨h1,h2⟩|⟨j,e0,h1,h2,h3⟩
 ·refine⟨setBlock w b (.map (es.push ⟨key,val,clock⟩) (clock+1)),?_,⟨es.push ⟨key,val,clock⟩,clock+1,heap_setBlock_same hb _,⟨by simp;omega,stamped_push F.stamped h2,?_⟩,by simp;omega,fun x hx=>?_,fun x y hx=>?_⟩,⟨rfl,rfl,rfl,by simp[setBlock],fun i _ hi=>heap_setBlock_other hb _ (fun e=>hi (by rw[e]))⟩⟩
  ·simp[mapUpdate,run_underlying ht,MapKept.run_getObj_map hb,K.check w false ef,h1,MapKept.run_setObj_map _ hb,Result.andThen,setBlock]
  ·intro x hx;simp only[Array.toList_push,List.mem_append,List.mem_singleton] at hx;rcases hx with hx|rfl
   ·exact F1.reads x hx
   exact⟨_,o9⟩
  ·simp only[Array.toList_push,List.mem_append,List.mem_singleton] at hx;rcases hx with hx|rfl
   ·exact hQ _ _ (hq x hx)
   exact hv
  by_cases e0:x=key
  ·exact⟨⟨key,val,clock⟩,by rw[Array.toList_push];exact List.mem_append_right _ (List.mem_singleton.2 rfl),e0.symm⟩
  obtain⟨y',hy⟩:=nI x y hx e0;obtain⟨e1,h4,h5⟩:=eo x y' hy;exact⟨e1,by rw[Array.toList_push];exact List.mem_append_left _ h4,h5⟩
 exact absurd h3 (gm e0 (mem_of_getElem? h2))
theorem RX(n:Nat)(hn:n<=1000000)(W:World)(B:Nat)(hB:B<=W.heap.size):(W.alloc (.cells (madeCells #[.int .i64 0] n) 3)).ownsRow B 3 1 (.slice (some ⟨W.heap.size,0,none⟩) 0 n) 0 []:=
 World.ownsRow_made W _ n hB (by unfold maxLen;omega) (by have:=size_madeCells #[Value.int .i64 0] n;simpa using this)
def zqH(l:List Nat)(n:Nat)(w:World)(e:Ending)(w':World):Prop:=
 ∃(f:Nat->Nat) (B:Nat) (a:Option Addr) (c:Nat),e=.returned (.slice a n c)/\w'.ownsRow w.heap.size 3 1 (.slice a n c) n (cY ((range n).map f))/\fD (fun i j=>l.getD i 0=l.getD j 0) n f B/\Below w.heap.size w w'
structure sQ (W0:World)(l:List Nat)(bM k:Nat)(v:Value)(nm:List Nat)(f:Nat->Nat)(w:World):Prop where
 below:Below W0.heap.size W0 w
 map:dV w 3 bM nm.length (Ak nm)
 own:w.ownsRow W0.heap.size 3 1 v k (cY ((range k).map f))
 at_:∀i,i<k->nm[f i]?=some (l.getD i 0)
 num:fD (fun i j=>l.getD i 0=l.getD j 0) k f nm.length
 lo:W0.heap.size<=bM
 nk:nm.length<=k
theorem sQ.mem(h:sQ W0 l bM k v nm f w)(y:Nat):y∈nm↔∃i,i<k/\l.getD i 0=y:=by
 constructor
 ·intro hm;obtain⟨b,hb,e⟩:=getElem_of_mem hm;obtain⟨i,h1,h2,_⟩:=h.num.new b hb;refine⟨i,h1,?_⟩;have:=h.at_ i h1;rw[h2,getElem?_eq_getElem hb,e] at this;exact (Option.some.inj this).symm
 rintro⟨i,hi,rfl⟩;exact mem_of_getElem? (h.at_ i hi)
theorem Yy(f:Nat->Nat)(k b:Nat):cY ((range (k+1)).map fun i=>if i=k then b else f i)=cY ((range k).map f)++[.int .i64 (b:Int)]:=by
 rw[range_succ,map_append,cY,map_append];congr 1
 ·unfold cY;congr 1;refine List.map_congr_left fun i hi=>?_
  have:=List.mem_range.1 hi;rw[if_neg (by omega)]
 simp
theorem zhG(W:World):(makeMap 147 none).run prog W=.ok (.map (some W.heap.size)) (W.alloc (.map #[] 0)):=by
 kernel_rfl
theorem sQ.look(h:sQ W0 l bM k v nm f w)(hk:l.getD k 0<=1000000):
  (∃b,nm[b]?=some (l.getD k 0)/\(lookup 147 (.map (some bM)) (.int .i64 (l.getD k 0)) true).run prog w=.ok (.tuple #[.int .i64 ((b:Nat):Int),.bool true]) w)\/
  (l.getD k 0∉nm/\(lookup 147 (.map (some bM)) (.int .i64 (l.getD k 0)) true).run prog w=.ok (.tuple #[.int .i64 0,.bool false]) w):=by
 rcases h.map.ex.nH zc underlying147 (MI w) (Cc _ (by omega:l.getD k 0<=9223372036854775807)) with ⟨cy,gm⟩|⟨v,⟨b,s,h1,h2,rfl⟩,cy⟩
 ·refine inr ⟨fun hm=>?_,cy⟩;obtain⟨b,hb,e⟩:=getElem_of_mem hm;exact gm _ ⟨b,l.getD k 0,by rw[getElem?_eq_getElem hb,e],rfl,rfl⟩
 exact inl ⟨b,by rw[JP h2];exact h1,cy⟩
theorem sQ.ab(h:sQ W0 l bM k v nm f w)(kk:Below w.heap.size w w1):sQ W0 l bM k v nm f w1:=
 ⟨h.below.trans (kk.mono h.below.size),h.map.same (kk.block _ h.map.lt),db h.own kk,h.at_,h.num,h.lo,h.nk⟩
theorem sQ.jG{b:Nat}(h:sQ W0 l bM k v nm f w)(hb:nm[b]?=some (l.getD k 0))
  (ho:w'.ownsRow W0.heap.size 3 1 v' (k+1) (cY ((range k).map f)++[.int .i64 (b:Int)])) (hg:w.grownBy w' v.ownBlock):∃f',sQ W0 l bM (k+1) v' nm f' w':=by
 have gE:b<nm.length:=(List.getElem?_eq_some_iff.1 hb).1;obtain⟨i,h1,h2,_⟩:=h.num.new b gE;have hi:=h.at_ i h1;rw[h2,hb] at hi;have hi:=Option.some.inj hi;refine⟨fun j=>if j=k then b else f j,fL h.below h.own h.below.size hg,h.map.ae h.own hg,by rw[Yy];exact ho,fun j hj=>?_,?_,h.lo,by have:=h.nk;omega⟩
 ·by_cases e:j=k
  ·simp only[if_pos e];rw[e];exact hb
  simp only[if_neg e];exact h.at_ j (by omega)
 have:=h.num.jG (fun i j e=>e.symm) (fun i j l e e2=>e.trans e2) (fun i=>rfl) h1 hi.symm;rw[h2] at this;exact this
theorem sQ.fresh(h:sQ W0 l bM k v nm f w)(hb:l.getD k 0∉nm)(hm:dV w1 3 bM (nm.length+1) (Ak (nm++[l.getD k 0])))(l7:w.grownBy w1 (some bM))
  (w2:World) (k2:Below w1.heap.size w1 w2) (hg:w2.grownBy w' v.ownBlock) (ho:w'.ownsRow W0.heap.size 3 1 v' (k+1) (cY ((range k).map f)++[.int .i64 (nm.length:Int)])):∃f',sQ W0 l bM (k+1) v' (nm++[l.getD k 0]) f' w':=by
 have mC:Below W0.heap.size W0 w1:=h.below.grown l7 h.below.size (fun g e=>by injection e with e;rw[<-e];exact h.lo);have mX:=mC.trans (k2.mono mC.size);have o2:=db (wV h.own h.map.ex.of l7) k2;have m2:=hm.same (k2.block _ hm.lt);refine⟨fun j=>if j=k then nm.length else f j,fL mX o2 mX.size hg,by rw[length_append];exact m2.ae o2 hg,by rw[Yy];exact ho,fun j hj=>?_,?_,h.lo,by have:=h.nk;simp;omega⟩
 ·by_cases e:j=k
  ·simp only[if_pos e];rw[e];simp
  simp only[if_neg e];have:=h.at_ j (by omega);rw[getElem?_append_left (List.getElem?_eq_some_iff.1 this).1];exact this
 have:=h.num.fresh (fun i j e=>e.symm) (fun i=>rfl) (fun i hi e=>hb ((h.mem _).2 ⟨i,hi,e⟩));rw[length_append];exact this
theorem zpH{x:Nat}(h:dV w 3 bM nm.length (Ak nm))(hx:x<=1000000)(hn:nm.length<maxLen)(hb:x∉nm):
  ∃w',(mapUpdate 147 (.map (some bM)) (.int .i64 (x:Int)) (.int .i64 (nm.length:Int))).run prog w=.ok () w'/\dV w' 3 bM (nm.length+1) (Ak (nm++[x]))/\w.grownBy w' (some bM):=by
 refine h.update zc underlying147 hn (Cc _ (by omega)) ?_ ?_ ?_ ?_
 ·rintro y ⟨k,s,h1,h2,_⟩;rw[<-JP h2] at h1;exact hb (mem_of_getElem? h1)
 ·rintro a b ⟨k,s,h1,h2,h3⟩;exact⟨k,s,by rw[getElem?_append_left (List.getElem?_eq_some_iff.1 h1).1];exact h1,h2,h3⟩
 ·exact⟨nm.length,x,by simp,rfl,rfl⟩
 rintro a b ⟨k,s,h1,h2,h3⟩ hne;by_cases e:k<nm.length
 ·rw[getElem?_append_left e] at h1;exact⟨b,k,s,h1,h2,h3⟩
 rw[List.getElem?_append_right (by omega)] at h1;cases hj:k-nm.length with
 | zero=>rw[hj] at h1;simp at h1;exact absurd (by rw[h2,h1]) hne
 | succ j=>rw[hj] at h1;simp at h1
theorem zgJ(l:List Nat)(n:Nat)(hl:l.length=n)(hn:n<=100000)(hb:∀x∈l,x<=1000000)(a:Option Addr)(c:Nat)(w:World)(hL:nQ w a l):Calls prog 81 #[.slice a n c] w (zqH l n w):=by
 have ju:=zhG;have fJ:=Px n (by omega);have HX:=ξ hl hb hL;clear hl hb hL;go_in;go_upto_region 3 with fail;obtain⟨bM,oo⟩:∃bM,w.heap.size+1=bM:=⟨_,rfl⟩
 obtain⟨b0,ay⟩:∃b0,w.heap.size=b0:=⟨_,rfl⟩
 obtain⟨W2,kq⟩:∃W2,(w.alloc (.cells (madeCells #[.int .i64 0] n) 3)).alloc (.map #[] 0)=W2:=⟨_,rfl⟩
 have dc:(w.alloc (.cells (madeCells #[.int .i64 0] n) 3)).heap.size=bM:=by rw[<-oo];simp
 have k1:=al w (.cells (madeCells #[.int .i64 0] n) 3);have k2:=al (w.alloc (.cells (madeCells #[.int .i64 0] n) 3)) (.map #[] 0);have Ja:sQ w l bM 0 (.slice (some ⟨b0,0,none⟩) 0 n) [] (fun _=>0) W2:=by
  have hO:=db (RX n (by omega) w w.heap.size (le_refl _)) k2;rw[kq,ay] at hO;refine⟨by rw[<-kq];exact k1.trans (k2.mono (by simp)),?_,by rw[ay];exact hO,fun i hi=>absurd hi (by omega),fD.zero _,by omega,by simp⟩;have:=dV.made (w.alloc (.cells (madeCells #[.int .i64 0] n) 3)) 3 (Ak []) (fun x y h=>by
   obtain⟨k,s,h1,_⟩:=h
   simp at h1)
  rw[kq,dc] at this;exact this
 have tf:=hid Ja;clear Ja k1 k2
 try rw[oo]
 try rw[kq]
 try rw[ay]
 have Hb:=ζ oo ay;clear oo ay kq dc;go_wp2;go_loopw [3,6,7,8,15] (fun v3 _ _ _ vk wr=>∃k:Nat,vk=.int .i64 k/\k<=n/\(∃a3 c3,v3=.slice a3 k c3)/\Hid (∃nm f,sQ w l bM k v3 nm f wr)) (fun _ _ _ _ v _=>n-(intOf v).toNat)
 ·exact⟨0,rfl,zero_le _,⟨_,_,rfl⟩,_,_,tf.out⟩
 obtain⟨k,rfl,hk,⟨a3,c3,rfl⟩,HL⟩:=hrel;by_cases aq:k<n
 ·obtain⟨nm,f,hI⟩:=HL.out;obtain⟨g,off,rfl,hg,hc⟩:=HX.out.2.2 (by have:=HX.out.1;omega);have d0:=(hI.below.cell (p:=⟨g,off+k,none⟩) hg).trans (hc k (by have:=HX.out.1;omega));simp only[] at d0;have N9:l.getD k 0<=1000000:=by
   by_cases e:k<l.length
   ·rw[getD_eq_getElem?_getD,getElem?_eq_getElem e];exact HX.out.2.1 _ (List.getElem_mem e)
   rw[getD_eq_getElem?_getD,List.getElem?_eq_none (by omega)];simp
  have dE:=hI.look N9;have i1:(k:Int)<n:=by omega
  have JF:=hI.nk;obtain⟨m,hm⟩:∃m,nm.length=m:=⟨_,rfl⟩
  obtain⟨i0,hi,dv,cP,cG⟩:=info_parts aG;have sX:=hI.below.size;have HI:=hid hI;have hlen:=hI.map.len (ty:=3) (t:=147) (by rw[underlying147];rfl);rw[hm] at JF hlen;clear hc hg hI HL;rcases dE with ⟨b,hb,cy⟩|⟨hb,cy⟩
  ·have Hb:=hid hb;clear hlen hb;obtain⟨x,hx⟩:∃x,l.getD k 0=x:=(⟨_,rfl⟩);rw[hx] at d0 cy N9;go_wp2_with (at_builtin;refine wpList_append_own_at _ rfl _ _ 27 rfl w.heap.size 3 i0 (.int .i64 0) 1 8 underlying27 hi dv cP cG rfl (by decide) _ _ _ rfl (HI.out.own.alloc _) ⟨wr.heap.size,0,none⟩ 1 1 [.int .i64 (b:Int)] rfl rfl (cell_one_new _ _ _) ?d2 ?d3 ?d4 ?d5 ?_)
   case d2=>first|(intro u hu;simp at hu;subst hu;rfl)|rfl
   case d3=>unfold maxLen;omega
   case d4=>omega
   case d5=>first|(simp;omega)|omega
   intro v' w5 ah ag _ bJ;obtain⟨a5,c5,rfl⟩:=bP ah;have HF:=hid ((HI.out.ab (al wr (.cells #[.int .i64 (b:Int)] 3))).jG Hb.out ah ag);clear ah ag bJ;go_wp2;go_roundw
   ·exact⟨k+1,by go_num,by omega,⟨_,_,rfl⟩,nm,HF.out⟩
   simp[intOf];omega
  obtain⟨w1,wF,jd,l7⟩:=zpH HI.out.map N9 (by unfold maxLen;omega) hb;have Kz:=ξ hb jd l7;have A4:=wV HI.out.own HI.out.map.ex.of l7;rw[hm] at wF;have Ui:=(HI.out.below.grown l7 sX (fun g e=>by injection e with e;rw[<-e];exact HI.out.lo)).size;clear jd l7 hb;obtain⟨x,hx⟩:∃x,l.getD k 0=x:=⟨_,rfl⟩
  rw[hx] at d0 cy N9 wF;go_wp2_with (at_builtin;refine wpList_append_own_at _ rfl _ _ 27 rfl w.heap.size 3 i0 (.int .i64 0) 1 8 underlying27 hi dv cP cG rfl (by decide) _ _ _ rfl (A4.alloc _) ⟨w1.heap.size,0,none⟩ 1 1 [.int .i64 (m:Int)] rfl rfl (cell_one_new _ _ _) ?d2 ?d3 ?d4 ?d5 ?_)
  case d2=>first|(intro u hu;simp at hu;subst hu;rfl)|rfl
  case d3=>unfold maxLen;omega
  case d4=>omega
  case d5=>first|(simp;omega)|omega
  intro v' w5 ah ag _ bJ;obtain⟨a5,c5,rfl⟩:=bP ah;have HF:=hid (HI.out.fresh Kz.out.1 Kz.out.2.1 Kz.out.2.2 _ (al w1 (.cells #[.int .i64 (m:Int)] 3)) ag (by rw[hm];exact ah));clear ah ag bJ A4;go_wp2;go_roundw
  ·exact⟨k+1,by go_num,by omega,⟨_,_,rfl⟩,_,HF.out⟩
  simp[intOf];omega
 obtain rfl:k=n:=by omega
 obtain⟨nm,f,hI⟩:=HL.out;have HI:=hid hI;clear hI HL;go_wp2;go_ret;exact⟨f,nm.length,a3,c3,rfl,HI.out.own,HI.out.num,HI.out.below⟩
def Uu(D:Dd)(C:Nat)(w:World)(e:Ending)(w':World):Prop:=
 ∃(f:Nat->Nat) (B:Nat) (a:Option Addr) (c:Nat),e=.returned (.slice a D.n c)/\w'.ownsRow w.heap.size 3 1 (.slice a D.n c) D.n (cY ((range D.n).map f))/\fD (jH C (tD D) (mD D)) D.n f B/\Below w.heap.size w w'
theorem nQ.KR(h:nQ w a l)(n:Nat)(hn:n<=l.length):nQ w a (l.take n):=by
 intro h0;have e:(l.take n).length=n:=by rw[List.length_take];omega
 rw[e] at h0;obtain⟨g,off,e1,hg,hc⟩:=h (by omega);refine⟨g,off,e1,hg,fun j hj=>?_⟩;rw[e] at hj;rw[hc j (by omega)];simp only[];rw[getD_eq_getElem?_getD,getD_eq_getElem?_getD,List.getElem?_take_of_lt hj]
theorem fD.rel{R R':Nat->Nat->Prop}(h:fD R n f B)(e:∀i j,i<n->j<n->(R i j↔R' i j)):fD R' n f B:=
 ⟨fun i j hi hj=>(h.same i j hi hj).trans (e i j hi hj),h.lt,h.new⟩
theorem UN(D:Dd)(C:Nat)(hR:DR D C)(w:World)(hD:DM w D):Calls prog 45 #[.agg D.cD] w (Uu D C w):=by
 have HB:=ξ (bg.new hD) (al w (.cells D.cD 29)) hR;clear hD hR;go_in;go_upto_region 1 with fail;generalize w.alloc (.cells D.cD 29)=W0 at HB⊢;obtain⟨b0,ay⟩:∃b0,w.heap.size=b0:=⟨_,rfl⟩
 rw[ay] at HB;rw[ay];have bW:=hid ay;have oV:b0<=W0.heap.size:=by have:=HB.out.2.1.size;omega
 clear ay;have rO:=hid (Fv D C HB.out.2.2 W0 HB.out.1.dm);go_wp2_with (refine js (by rfl) 29 _ rfl ⟨b0,0,none⟩ rfl D.cD _ HB.out.1.st.part underlying29 rfl HB.out.1.dm.info ?_);refine rO.out.mono ?_;rintro e w1 ⟨rfl,b1⟩;have H1:=ζ (HB.out.1.ab b1) (HB.out.2.1.trans (b1.mono oV));have eQ:b0<=w1.heap.size:=by have:=b1.size;omega
 have HDv:=hid (zhH D C HB.out.2.2 w1 H1.out.1.dm);clear b1 rO;go_wp2_with (refine js (by rfl) 29 _ rfl ⟨b0,0,none⟩ rfl D.cD _ H1.out.1.st.part underlying29 rfl H1.out.1.dm.info ?_);refine HDv.out.mono ?_;rintro e w2 ⟨bl,a,c,rfl,gE,rk,hc,hO,heq,b2⟩;have H2:=ζ (H1.out.1.ab b2) (H1.out.2.trans (b2.mono eQ));have cv:b0<=w2.heap.size:=by have:=b2.size;omega
 have cU:=HB.out.2.2.n2;have sr:(bl.take D.n).length=D.n:=by rw[List.length_take];omega
 have Ic:=hid (zgJ (bl.take D.n) D.n sr (by omega) (fun x hx=>by have:=rk x (List.mem_of_mem_take hx);omega) a c w2 ((sZ hO gE).KR D.n (by omega)));have Heq:Hid (∀i j,i<D.n->j<D.n->((bl.take D.n).getD i 0=(bl.take D.n).getD j 0↔jH C (tD D) (mD D) i j)):=by
  show ∀i j,_;intro i j hi hj;rw[<-heq i j (by omega) (by omega)];simp only[getD_eq_getElem?_getD,List.getElem?_take_of_lt hi,List.getElem?_take_of_lt hj]
 have f1:=H2.out.1.f1;have i1:(D.n:Int)<=(c:Int):=by omega
 have gZ:D.n<=c:=by omega
 clear b2 HDv hO heq rk gE sr;go_wp2_with fail;refine Ic.out.mono ?_;rintro e w3 ⟨f,B,a3,c3,rfl,Wh,Gv,b3⟩;have HF:Hid (Uu D C w (.returned (.slice a3 D.n c3)) w3):=by
  refine⟨f,B,a3,c3,rfl,gn Wh (by rw[bW.out];exact cv),Gv.rel Heq.out,?_⟩;rw[bW.out];exact H2.out.2.trans (b3.mono cv)
 clear Wh Gv b3;go_wp2;go_ret;exact HF.out
theorem Ze{c:Nat}(h:w.ownsRow B 3 1 (.slice a n c) n (cY ((range n).map f))):kY w a n (fun i=>((f i:Nat):Int)):=by
 intro h0;obtain⟨g,e,h1,h2,h3⟩:=eC h h0;refine⟨g,0,e,h2,fun j hj=>?_⟩;have:=(h3 j (by omega)).1;rw[Nat.zero_add,this];simp[cY,hj]
def XG(z:Nat->Int)(l:List Nat)(m:Nat)(w:World)(e:Ending)(w':World):Prop:=
 ∃(a:Option Addr) (c:Nat),e=.returned (.slice a m c)/\w'.ownsRow w.heap.size 3 1 (.slice a m c) m (ints (l.map z))/\Below w.heap.size w w'
theorem zlA(z:Nat->Int)(l:List Nat)(k:Nat)(hk:k<l.length):ints ((l.take (k+1)).map z)=ints ((l.take k).map z)++[.int .i64 (z (l.getD k 0))]:=by
 rw[List.take_succ_eq_append_getElem hk,map_append,getD_eq_getElem?_getD,getElem?_eq_getElem hk];simp[ints]
theorem XK(z:Nat->Int)(N:Nat)(l:List Nat)(m:Nat)(hm:l.length=m)(jd:m<=100000)(hN:N<=100000)(hl:∀x∈l,x<N)(a1 a2:Option Addr)(c1 c2:Nat)(w:World)(hZ:kY w a1 N z)(hL:nQ w a2 l):
  Calls prog 79 #[.slice a1 N c1,.slice a2 m c2] w (XG z l m w):=by
 have fJ:=Px m (by omega);have HX:=ψ hm hl hZ hL;clear hm hl hZ hL;go_in;go_upto_region 2 with fail;obtain⟨b0,ay⟩:∃b0,w.heap.size=b0:=⟨_,rfl⟩
 obtain⟨W2,kq⟩:∃W2,w.alloc (.cells (madeCells #[.int .i64 0] m) 3)=W2:=⟨_,rfl⟩
 have k1:=al w (.cells (madeCells #[.int .i64 0] m) 3);have hO:=RX m (by omega) w w.heap.size (le_refl _);rw[kq] at hO k1;have tf:Hid (Below w.heap.size w W2/\W2.ownsRow w.heap.size 3 1 (.slice (some ⟨b0,0,none⟩) 0 m) 0 (ints ((l.take 0).map z))):=⟨k1,by rw[<-ay];simpa [ints] using hO⟩
 clear hO k1
 try rw[kq]
 try rw[ay]
 have Hb:=hid ay;clear ay kq;go_wp2;go_loopw [5,7,13] (fun v5 _ vk wr=>∃k:Nat,vk=.int .i64 k/\k<=m/\(∃a c,v5=.slice a k c)/\Hid (Below w.heap.size w wr/\wr.ownsRow w.heap.size 3 1 v5 k (ints ((l.take k).map z)))) (fun _ _ v _=>m-(intOf v).toNat)
 ·exact⟨0,rfl,zero_le _,⟨_,_,rfl⟩,tf.out⟩
 clear tf;obtain⟨k,rfl,hk,⟨a5,c5,rfl⟩,HL⟩:=hrel;by_cases aq:k<m
 ·have hkl:k<l.length:=by have:=HX.out.1;omega
  obtain⟨g,off,rfl,hg,hc⟩:=HX.out.2.2.2 (by omega);have d0:=(HL.out.1.cell (p:=⟨g,off+k,none⟩) hg).trans (hc k hkl);simp only[] at d0;have hx:l.getD k 0<N:=by
   rw[getD_eq_getElem?_getD,getElem?_eq_getElem hkl];exact HX.out.2.1 _ (List.getElem_mem hkl)
  obtain⟨g1,TK,rfl,l7,gZ⟩:=HX.out.2.2.1 (by omega);have d1:=(HL.out.1.cell (p:=⟨g1,TK+l.getD k 0,none⟩) l7).trans (gZ _ hx);have HE:=hid (zlA z l k hkl);have sX:=HL.out.1.size;obtain⟨i0,xa,dv,cP,cG⟩:=info_parts aG;have i1:(k:Int)<m:=by omega
  clear hc hg gZ l7;obtain⟨x,CW⟩:∃x,l.getD k 0=x:=⟨_,rfl⟩
  rw[CW] at d0 d1 hx HE;obtain⟨y,FH⟩:∃y,z x=y:=⟨_,rfl⟩
  rw[FH] at d1 HE;clear CW FH;have i2:(x:Int)<N:=by omega
  have wJ:=HL.out.2;go_wp2_with (at_builtin;refine wpList_append_own_at _ rfl _ _ 27 rfl w.heap.size 3 i0 (.int .i64 0) 1 8 underlying27 xa dv cP cG rfl (by decide) _ _ _ rfl (wJ.alloc _) ⟨wr.heap.size,0,none⟩ 1 1 [.int .i64 y] rfl rfl (cell_one_new _ _ _) ?d2 ?d3 ?d4 ?d5 ?_)
  case d2=>first|(intro u hu;simp at hu;subst hu;rfl)|rfl
  case d3=>unfold maxLen;omega
  case d4=>omega
  case d5=>first|(simp;omega)|omega
  intro v' w5 ah ag _ bJ;obtain⟨a6,c6,rfl⟩:=bP ah;have HF:Hid (Below w.heap.size w w5/\w5.ownsRow w.heap.size 3 1 (.slice a6 (k+1) c6) (k+1) (ints ((l.take (k+1)).map z))):=by
   have k9:=al wr (.cells #[.int .i64 y] 3);exact⟨fL (HL.out.1.trans (k9.mono sX)) (db HL.out.2 k9) (by simp;omega) ag,by rw[HE.out];first|exact ah|(rw[List.map_take];exact ah)⟩
  clear ah ag bJ wJ;go_wp2;go_roundw
  ·exact⟨k+1,by go_num,by omega,⟨_,_,rfl⟩,HF.out⟩
  simp[intOf];omega
 obtain rfl:k=m:=by omega
 have HF:Hid (XG z l k w (.returned (.slice a5 k c5)) wr):=by
  have e:l.take k=l:=List.take_of_length_le (by have:=HX.out.1;omega);have h:=HL.out;rw[e] at h;exact⟨a5,c5,rfl,h.2,h.1⟩
 clear HL;go_wp2;go_ret;exact HF.out
def qL(D:Dd)(C:Nat)(f:Nat->Nat)(l:List Nat):List (List Int):=l.map fun i=>(range C).map (kI D f i)
theorem znn{α:Type}(l:List Nat)(g:Nat->α)(n:Nat)(h:n=l.length):l.map g=(range n).map fun b=>g (l.getD b 0):=by
 subst h;apply List.ext_getElem?;intro i;by_cases hi:i<l.length
 ·simp[getD_eq_getElem?_getD,hi]
 simp[hi]
theorem PO(D:Dd)(C:Nat)(hR:DR D C)(R:Nat->Nat->Prop)(f:Nat->Nat)(B:Nat)(hN:fD R D.n f B)(a:Option Addr)(cp:Nat)(w:World)(hD:DM w D)(hL:kY w a D.n (fun i=>((f i:Nat):Int))):
  Calls prog 44 #[.agg D.cD,.slice a D.n cp] w (Eo D C B (fun b c=>kI D f ((bH f D.n).getD b 0) c) (fun b=>D.q ((bH f D.n).getD b 0)) w):=by
 have cU:=hR.n2;have da:=hR.n1;have jl:=hR.m;have tq:=(hR.il hD.kl).2;have HB:=φ (bg.new hD) (al w (.cells D.cD 29)) hR hN hL;obtain⟨iI,hI,se,sD,sx⟩:=info_parts aG;obtain⟨iV,hV,vb,va,vD⟩:=info_parts eI;clear hD hR hN hL;go_in;go_upto_region 1 with (refine og rfl 29 rfl (zC 29) (lN _) ?_)
 try simp only[put,List.setIfInBounds_toArray,set_cons_zero,set_cons_succ,Hc]
 have H0:Hid (bg ((w.alloc (.cells D.cD 29)).alloc (.cells (zC 29) 29)) w.heap.size D/\St ((w.alloc (.cells D.cD 29)).alloc (.cells (zC 29) 29)) 29 (w.heap.size+1) (zC 29)/\Below w.heap.size w ((w.alloc (.cells D.cD 29)).alloc (.cells (zC 29) 29))):=by
  refine⟨HB.out.1.ab (al _ _),?_,HB.out.2.1.trans ((al _ _).mono (by simp))⟩;have:=St.new (w.alloc (.cells D.cD 29)) 29 (zC 29);simpa using this
 generalize (w.alloc (.cells D.cD 29)).alloc (.cells (zC 29) 29)=Wn at H0⊢;obtain⟨b2,cv⟩:∃b2,w.heap.size+1=b2:=⟨_,rfl⟩
 obtain⟨b0,ay⟩:∃b0,w.heap.size=b0:=⟨_,rfl⟩
 rw[cv,ay] at H0;rw[cv,ay];have Hb:=ζ ay cv;clear cv ay;have kg:=hid H0.out.1;have k5:=al Wn (.cells (zC 29) 29);have ij:St (Wn.alloc (.cells (zC 29) 29)) 29 Wn.heap.size (zC 29):=St.new _ _ _;have Ie:iN Wn Wn.heap.size D.K C (.slice none 0 0) (qL D C f (bH f 0)) (fun _=>.slice none 0 0) (.slice none 0 0) ((bH f 0).map D.q) ((Wn.alloc (.cells (zC 29) 29)).setRow Wn.heap.size (dJ D.K (.slice none 0 0) (.slice none 0 0))):=iN.start (V0:=Wn) (K:=D.K) (C:=C) (ws:=fun _=>.slice none 0 0) (a:=none) (c:=0) (ms:=[]) (World.ownsRow_nil _ _ _ _) rfl k5 ij (le_refl _);have j8:=hid Ie;have jq:=hid ij;clear k5 ij Ie;go_upto_region 2 with (first
  | (refine p5 rfl 25 _ rfl ⟨b0,0,none⟩ rfl (aU D.K) (.array 256 5) kg.out.dL underlying25 rfl (vX D.K) ?_)
  | (refine AH rfl 29 _ rfl #[(0,.agg (aU D.K))] (by first|rfl|kernel_rfl|(go_simp;done)) (.agg (dJ D.K (.slice none 0 0) (.slice none 0 0))) (WT D.K _) ?_)
  | (refine og rfl 29 rfl (zC 29) (lN _) ?_)
  | (refine lO rfl 29 _ _ rfl Wn.heap.size 29 (zC 29) (dJ D.K (.slice none 0 0) (.slice none 0 0)) rfl rfl jq.out (by rw[ia,mY]) (by rw[fH,mY]) (yj _ _ _ _ _ _ _) ?_))
 simp only[put,sA];obtain⟨b4,fp⟩:∃b4,Wn.heap.size=b4:=⟨_,rfl⟩
 have Fk:=hid fp;rw[fp] at j8;rw[fp];generalize (Wn.alloc (.cells (zC 29) 29)).setRow b4 (dJ D.K (.slice none 0 0) (.slice none 0 0))=W4 at j8⊢;clear fp jq;obtain⟨gL,oL,rfl,EI,Bq⟩:=HB.out.2.2.2.2 (by omega);have IT:=ζ EI Bq;clear EI Bq;go_wp2;go_loopw [6,7,8,9,10,16] (fun _ _ _ _ _ v wr=>∃(i:Nat) (ws:Nat->Value) (aN aK:Option Addr) (p cN cK:Nat),v=.int .i64 i/\i<=D.n/\p<=i/\Hid (p=(bH f i).length/\iN Wn b4 D.K C (.slice aN p cN) (qL D C f (bH f i)) ws (.slice aK p cK) ((bH f i).map D.q) wr)) (fun _ _ _ _ _ v _=>D.n-(intOf v).toNat)
 ·exact⟨0,_,none,none,0,0,0,rfl,by omega,by omega,rfl,j8.out⟩
 clear j8;obtain⟨i,ws,aN,aK,p,cN,cK,rfl,hi,To,HP,HT⟩:=hrel;by_cases aq:i<D.n
 ·have bz:w.heap.size<=Wn.heap.size:=H0.out.2.2.size;have Z0:Hid (∀W',Below Wn.heap.size Wn W'->∀j,j<D.n->W'.cell? ⟨gL,oL+j,none⟩=some (.int .i64 (f j))):=fun W' h j hj=>((H0.out.2.2.trans (h.mono (by rw[<-Hb.out.1];exact bz))).cell (p:=⟨gL,oL+j,none⟩) (by rw[<-Hb.out.1];exact IT.out.1)).trans (IT.out.2 j hj)
  have d0:=Z0.out wr HT.aP i aq;have fb:=HT.f1;have Ac:=HB.out.2.2.2.1.bH i (by omega);have ic:=Ac.2.2 aq;rw[<-HP] at ic;have i1:(i:Int)<(D.n:Int):=by omega
  have hp32:p<=32768:=by omega
  have zw:=hid HT;have E0:=hid HP;obtain⟨fi,nP⟩:∃fi,f i=fi:=⟨_,rfl⟩
  rw[nP] at d0 ic;by_cases sh:fi<p
  ·have i2:(fi:Int)<p:=(by omega);have HN:Hid (p=(bH f (i+1)).length/\iN Wn b4 D.K C (.slice aN p cN) (qL D C f (bH f (i+1))) ws (.slice aK p cK) ((bH f (i+1)).map D.q) wr):=by
    rw[Dc (by rw[nP,<-HP];exact sh)];exact⟨HP,HT⟩
   clear HP HT Ac nP;go_wp2;go_roundw
   ·exact⟨i+1,ws,aN,aK,p,cN,cK,by go_num,by omega,by omega,HN.out⟩
   simp[intOf];omega
  have i2:¬((fi:Int)<p):=by omega
  have AI:bH f (i+1)=bH f i++[i]:=DW (by rw[nP,<-HP];exact sh);have HPn:=hid AI;have hmkr:=Is C (by omega);have Al:=hid (kg.out.ab HT.aP);have f1:=Al.out.f1;obtain⟨gN,oN,eN,ky,qB,zN⟩:=Al.out.dm.row i aq;rw[eN] at f1;rw[HB.out.2.2.1.len i aq] at qB zN;have vZ:=hid eN;have xM:=hid zN;have zb:=hid (Ee wr wr.heap.size C 3 (.int .i64 0) (le_refl _) (by unfold maxLen;omega));have pn:=hid (al wr (.cells (madeCells #[.int .i64 0] C) 3));have Zx:=hid ky;clear HP HT Ac eN zN AI ky;go_upto_region 7 with fail;obtain⟨g,hg⟩:∃g,wr.heap.size=g:=⟨_,rfl⟩
  have kz:Hid ((wr.alloc (.cells (madeCells #[.int .i64 0] C) 3)).ownsRow g 3 1 (.slice (some ⟨g,0,none⟩) C C) C (ints ([]++replicate (C-0) 0))/\Below g wr (wr.alloc (.cells (madeCells #[.int .i64 0] C) 3))):=by
   rw[<-hg];refine⟨?_,pn.out⟩;have:=zb.out;simpa [ints] using this
  have Hg:=hid hg;have IQ:=(pn.out.cell (p:=⟨b0,256,none⟩) Al.out.st.lt).trans f1;have J8:=(pn.out.cell (p:=⟨gN,oN+i,none⟩) Zx.out).trans qB;rw[hg];clear zb pn hg f1 qB d0 fb;generalize wr.alloc (.cells (madeCells #[.int .i64 0] C) 3)=W6 at kz IQ J8⊢;revert wr;intro wo zw Al xM Zx Hg kz;go_wp2;go_loopw [9,10,39] (fun _ _ v wq=>∃(k:Nat),v=.int .i64 k/\k<=C/\Hid (wq.ownsRow g 3 1 (.slice (some ⟨g,0,none⟩) C C) C (ints ((range k).map (kI D f i)++replicate (C-k) 0))/\Below g wo wq)) (fun _ _ v _=>C-(intOf v).toNat)
  ·exact⟨0,rfl,by omega,kz⟩
  clear kz IQ J8;obtain⟨k,rfl,hk,HA⟩:=hrel;have ld:Below wo.heap.size wo wr:=by rw[Hg.out];exact HA.out.2
  by_cases dE:k<C
  ·obtain⟨gA,oA,eA,Bm,lH⟩:=xM.out (by omega);have cA:=(ld.cell (p:=⟨gA,oA+k,none⟩) Bm).trans (lH k dE);have IV:=HB.out.2.2.1.nx i k aq dE;obtain⟨g',e',_,_,hc'⟩:=eC HA.out.1 (by omega);obtain rfl:g'=g:=by
    injection e' with e';injection e' with e' _;exact e'.symm
   obtain⟨y0,y1⟩:=hc' k (by omega);have hlen:((range k).map (kI D f i)).length=k:=(by simp);have y2:(ints ((range k).map (kI D f i)++replicate (C-k) 0))[k]?=some (.int .i64 0):=by
    have:0<C-k:=(by omega);simp[ints,List.getElem?_append,this]
   rw[y2] at y0;have fj:Hid ((wr.setCell ⟨g',k,none⟩ (.int .i64 (-1))).ownsRow g' 3 1 (.slice (some ⟨g',0,none⟩) C C) C (ints (((range k).map (kI D f i)++[-1])++replicate (C-(k+1)) 0))/\Below g' wo (wr.setCell ⟨g',k,none⟩ (.int .i64 (-1)))):=by
    refine⟨?_,HA.out.2.setCell (p:=⟨g',k,none⟩) (le_refl _) _⟩;have:=uj HA.out.1 k dE (.int .i64 (-1));rwa [FG _ C k _ hlen dE] at this
   have D6:Hid (∀v,kI D f i k=v->(range (k+1)).map (kI D f i)=(range k).map (kI D f i)++[v]):=fun v h=>by
    rw[range_succ,map_append,List.map_singleton,h]
   have EA:Hid ((D.nx i k=-1->kI D f i k=-1)/\∀x:Nat,D.nx i k=(x:Int)->kI D f i k=((f x:Nat):Int)):=⟨fun h=>by simp[kI,h],fun x h=>by
    unfold kI
    rw[if_neg (by omega),h]
    rfl⟩
   have yD:=hid hlen;have i3:(k:Int)<C:=(by omega);rw[eA];have GJ:=hid eA;have UA:=hid zw.out.aP
   try dsimp only at cA
   clear lH hc' e' y2 hlen eA Bm;generalize D.nx i k=t at cA IV EA;go_upto_region 11 with fail;generalize wr.setCell ⟨g',k,none⟩ (.int .i64 (-1))=W5 at fj⊢;clear y0 y1 cA ld;by_cases ht:t=-1
   ·subst ht;have HZ:=hid (D6.out (-1) (EA.out.1 rfl));go_wp2;go_roundw
    ·exact⟨k+1,by go_num,by omega,by rw[HZ.out];exact fj⟩
    simp[intOf];omega
   obtain⟨x,rfl⟩:∃x:Nat,t=(x:Int):=(⟨t.toNat,by omega⟩);have ix:x<D.n:=(by omega);have lE:((x:Int) != (-1:Int))=true:=(by first|(simp;done)|(simp;omega));have i4:(x:Int)<(D.n:Int):=(by omega);have dx:=Z0.out W5 (UA.out.trans (fj.out.2.mono (by rw[<-Hg.out];exact UA.out.size))) x ix;have HZ:=hid (D6.out _ (EA.out.2 x rfl));generalize f x=r at dx HZ;obtain⟨g2,e2,_,_,fB⟩:=eC fj.out.1 (by omega);obtain rfl:g2=g':=by
    injection e2 with e2;injection e2 with e2 _;exact e2.symm
   obtain⟨y0,y1⟩:=fB k (by omega);have y2:(ints (((range k).map (kI D f i)++[-1])++replicate (C-(k+1)) 0))[k]?=some (.int .i64 (-1)):=by
    simp[ints,List.getElem?_append]
   rw[y2] at y0;have lb:Hid ((W5.setCell ⟨g2,k,none⟩ (.int .i64 (r:Int))).ownsRow g2 3 1 (.slice (some ⟨g2,0,none⟩) C C) C (ints (((range k).map (kI D f i)++[(r:Int)])++replicate (C-(k+1)) 0))/\Below g2 wo (W5.setCell ⟨g2,k,none⟩ (.int .i64 (r:Int)))):=by
    refine⟨?_,fj.out.2.setCell (p:=⟨g2,k,none⟩) (le_refl _) _⟩;have:=uj fj.out.1 k dE (.int .i64 (r:Int));have e3:(ints (((range k).map (kI D f i)++[-1])++replicate (C-(k+1)) 0)).set k (.int .i64 (r:Int))=ints (((range k).map (kI D f i)++[(r:Int)])++replicate (C-(k+1)) 0):=by
     have hl:=yD.out;rw[<-FG _ C k (-1) hl dE,List.set_set,FG _ C k (r:Int) hl dE]
    rwa [e3] at this
   clear fB e2 y2;go_wp2;go_roundw
   ·exact⟨k+1,by go_num,by omega,by rw[HZ.out];exact lb⟩
   simp[intOf];omega
  obtain rfl:k=C:=by omega
  have HK:Hid (iN Wn b4 D.K k (.slice aN p cN) (qL D k f (bH f i)) ws (.slice aK p cK) ((bH f i).map D.q) wr):=zw.out.ab (by rw[Hg.out];exact HA.out.2);have mL:(qL D k f (bH f i)).length=p:=by rw[E0.out];simp[qL]
  have AT:=hid mL;have sX:=HK.out.aP.size;have HU:Hid (wr.ownsRow Wn.heap.size 3 1 (.slice (some ⟨g,0,none⟩) k k) k (ints ((range k).map (kI D f i)))):=by
   have:=HA.out.1;rw[Nat.sub_self,List.replicate_zero,List.append_nil] at this;exact gn this (by rw[<-Hg.out];exact zw.out.aP.size)
  have Ka:Hid ((∀j,j<(qL D k f (bH f i)).length->∀b,(ws j).ownBlock=some b->(Value.slice (some ⟨g,0,none⟩) k k).ownBlock≠some b)/\∀b,(Value.slice (some ⟨g,0,none⟩) k k).ownBlock=some b->(Value.slice aK p cK).ownBlock≠some b):=by
   have RT:wo.heap.size=g:=Hg.out;constructor
   ·intro j hj b e1 e2;have h1:=(zw.out.next.lt.2 j hj b e1);have h2:g=b:=(by simpa [Value.ownBlock] using e2);omega
   intro b e1 e2;have h1:=lZ zw.out.dt b e2;have h2:g=b:=(by simpa [Value.ownBlock] using e1);omega
  have k9:=al wr (.cells #[.slice (some ⟨g,0,none⟩) k k] 27);have hY:Hid (iN Wn b4 D.K k (.slice aN p cN) (qL D k f (bH f i)) ws (.slice aK p cK) ((bH f i).map D.q) (wr.alloc (.cells #[.slice (some ⟨g,0,none⟩) k k] 27))):=HK.out.ab k9;have Y4:Hid ((wr.alloc (.cells #[.slice (some ⟨g,0,none⟩) k k] 27)).ownsRow Wn.heap.size 3 1 (.slice (some ⟨g,0,none⟩) k k) k (ints ((range k).map (kI D f i)))):=db HU.out k9;have fbk:=HK.out.f1;have wJ:=hY.out.next.own
  rw[mL] at wJ;have CA:=hY.out.aP.size;clear HA mL k9;go_wp2_with (at_builtin;refine wpList_append_own_at _ rfl _ _ 26 rfl Wn.heap.size 27 iV (.slice none 0 0) 1 24 underlying26 hV vb va vD rfl (by decide) _ _ _ rfl wJ ⟨wr.heap.size,0,none⟩ 1 1 [.slice (some ⟨g,0,none⟩) k k] rfl rfl (cell_one_new _ _ _) ?d2 ?d3 ?d4 ?d5 ?_)
  case d2=>first|(intro u hu;simp at hu;subst hu;rfl)|rfl
  case d3=>unfold maxLen;omega
  case d4=>omega
  case d5=>first|(simp;omega)|omega
  intro v' w5 ah ag _ bJ;obtain⟨a5,c5,rfl⟩:=bP ah;have h9:=hY.out.st.ae hY.out.next.own (by decide) ag
  have z2:w5.cell? ⟨b4,256,none⟩=some (.slice aN p cN):=by rw[h9.at_,qu]
  have z3:w5.frozen? ⟨b4,256,none⟩=false:=h9.bb 256;have F5:=hid (hY.out.gJ (vN':=.slice a5 (p+1) c5) Y4.out Ka.out.1 Ka.out.2 AT.out ah ag);clear ah ag bJ wJ h9 fbk;go_upto_region 15 with fail;generalize w5.setCell ⟨b4,256,none⟩ (.slice a5 (p+1) c5)=W7 at F5⊢;clear z2 z3;have Fb:Hid (∀W' a9 c9,iN Wn b4 D.K k (.slice a5 (p+1) c5) (qL D k f (bH f i)++[(range k).map (kI D f i)]) (fun j=>if j=p then .slice (some ⟨g,0,none⟩) k k else ws j) (.slice a9 (p+1) c9) ((bH f i).map D.q++[D.q i]) W'->p+1=(bH f (i+1)).length/\iN Wn b4 D.K k (.slice a5 (p+1) c5) (qL D k f (bH f (i+1))) (fun j=>if j=p then .slice (some ⟨g,0,none⟩) k k else ws j) (.slice a9 (p+1) c9) ((bH f (i+1)).map D.q) W'):=by
   show ∀W' a9 c9,_;intro W' a9 c9 h;rw[HPn.out];refine⟨by rw[E0.out];simp,?_⟩;have e1:qL D k f (bH f i++[i])=qL D k f (bH f i)++[(range k).map (kI D f i)]:=(by simp[qL]);have e2:(bH f i++[i]).map D.q=(bH f i).map D.q++[D.q i]:=(by simp);rw[e1,e2];exact h
  have ma:Hid (((bH f i).map D.q).length=p):=by show _=_;rw[length_map];exact E0.out.symm
  obtain⟨gM,oM,eM,pW,lJ⟩:=H0.out.1.dm.rM (by omega);have nY:=H0.out.1.f2;rw[eM] at nY;have i3:(i:Int)<(D.m:Int):=by omega
  have Iw:=lJ i (by omega);have cZ:Hid (∀W',Below Wn.heap.size Wn W'->Below Wn.heap.size Wn W'/\W'.cell? ⟨b0,257,none⟩=some (.slice (some ⟨gM,oM,none⟩) D.m D.cM)/\W'.cell? ⟨gM,oM+i,none⟩=some (.int .i64 (D.q i))):=fun W' h=>⟨h,(h.cell (p:=⟨b0,257,none⟩) H0.out.1.st.lt).trans nY,(h.cell (p:=⟨gM,oM+i,none⟩) pW).trans Iw⟩
  clear eM pW lJ nY Iw;generalize D.q i=qx at cZ Fb;generalize qL D k f (bH f i)++[(range k).map (kI D f i)]=R9 at F5 Fb;generalize (fun j=>if j=p then Value.slice (some ⟨g,0,none⟩) k k else ws j)=Gt at F5 Fb;generalize (bH f i).map D.q=Jk at F5 Fb ma;clear hY HK Y4 HU Ka;refine wp_region_held_drew (S:=fun W'=>Below Wn.heap.size Wn W'/\W'.cell? ⟨b0,257,none⟩=some (.slice (some ⟨gM,oM,none⟩) D.m D.cM)/\W'.cell? ⟨gM,oM+i,none⟩=some (.int .i64 qx)) (by kernel_rfl) (cZ.out _ F5.out.aP.drew) fun η=>?_;have HO:Hid (iN Wn b4 D.K k (.slice a5 (p+1) c5) R9 Gt (.slice aK p cK) Jk W7.drew):=F5.out.ab (Below.refl _ _).drew
  (refine an 0 ?_;refine an 2 ?_;refine an 3 ?_;try simp only[put,sA];refine an 4 ?_;refine an 5 ?_;refine an 6 ?_;try simp only[put,sA])
  ·refine wpAnyH_ready (rs:=[1,7]) (by kernel_rfl) (by simp) (hJ (fun K hK=>?_) (hJ (fun K hK=>?_) AllReadyH.nil))
   skip;have f2:=HO.out.f2;go_simp;refine hK.out _ _ (η) fun η=>?_;clear hK K
   try simp only[put,sA]
   clear f2;refine bc 7 (fun K hK=>?_);skip;go_simp;have kk:=al W7.drew (.cells #[.int .i64 qx] 3);have mj:Hid (∀j u,[Value.int .i64 qx][j]?=some u->((W7.alloc (.cells #[.int .i64 qx] 3)).drew).cell? ((⟨W7.heap.size,0,none⟩:Addr).add j)=some u):=cell_one_new W7.drew _ _;have HO:Hid (iN Wn b4 D.K k (.slice a5 (p+1) c5) R9 Gt (.slice aK p cK) Jk ((W7.alloc (.cells #[.int .i64 qx] 3)).drew)):=HO.out.ab kk;refine hK.out _ _ (cZ.out _ HO.out.aP) fun η=>?_;clear hK K
   try simp only[put,sA]
   clear kk;generalize (W7.alloc (.cells #[.int .i64 qx] 3)).drew=V5 at mj HO η⊢;refine bc 8 (fun K hK=>?_);skip;have hO:=HO.out.dt;rw[ma.out] at hO;refine J9 (by rfl) _ _ _ (by rfl) Wn.heap.size 3 iI (.int .i64 0) 1 8 underlying27 hI se sD sx (by rfl) (by decide) _ p (ints Jk) (by rfl) hO ⟨W7.heap.size,0,none⟩ 1 1 [.int .i64 qx] (by rfl) (by rfl) mj.out (by intro u hu;simp at hu;subst hu;rfl) (by unfold maxLen;omega) (by omega) HO.out.aP.size ?_;intro v6 w6 aj af dg;obtain⟨a9,c9,rfl⟩:=bP aj;have sN:=hid (HO.out.mZ (vK':=.slice a9 (p+1) c9) (ma.out) aj af dg);have h9:=HO.out.st.ae HO.out.dt (by decide) af;have z2:w6.cell? ⟨b4,257,none⟩=some (.slice aK p cK):=(by rw[h9.at_,zf]);have z3:w6.frozen? ⟨b4,257,none⟩=false:=h9.bb 257;have eU:=fL HO.out.aP HO.out.dt HO.out.aP.size af;clear aj af dg h9 hO;refine hK.out _ _ (cZ.out _ eU) fun η=>?_;clear hK K
   rotate_left
   skip;go_simp;have kk:=al W7.drew (.cells #[.int .i64 qx] 3);have mj:Hid (∀j u,[Value.int .i64 qx][j]?=some u->((W7.alloc (.cells #[.int .i64 qx] 3)).drew).cell? ((⟨W7.heap.size,0,none⟩:Addr).add j)=some u):=cell_one_new W7.drew _ _;have HO:Hid (iN Wn b4 D.K k (.slice a5 (p+1) c5) R9 Gt (.slice aK p cK) Jk ((W7.alloc (.cells #[.int .i64 qx] 3)).drew)):=HO.out.ab kk;refine hK.out _ _ (cZ.out _ HO.out.aP) fun η=>?_;clear hK K
   try simp only[put,sA]
   clear kk;generalize (W7.alloc (.cells #[.int .i64 qx] 3)).drew=V5 at mj HO η⊢;refine bc 1 (fun K hK=>?_);skip;have f2:=HO.out.f2;go_simp;refine hK.out _ _ (η) fun η=>?_;clear hK K
   try simp only[put,sA]
   clear f2;refine bc 8 (fun K hK=>?_);skip;have hO:=HO.out.dt;rw[ma.out] at hO;refine J9 (by rfl) _ _ _ (by rfl) Wn.heap.size 3 iI (.int .i64 0) 1 8 underlying27 hI se sD sx (by rfl) (by decide) _ p (ints Jk) (by rfl) hO ⟨W7.heap.size,0,none⟩ 1 1 [.int .i64 qx] (by rfl) (by rfl) mj.out (by intro u hu;simp at hu;subst hu;rfl) (by unfold maxLen;omega) (by omega) HO.out.aP.size ?_;intro v6 w6 aj af dg;obtain⟨a9,c9,rfl⟩:=bP aj;have sN:=hid (HO.out.mZ (vK':=.slice a9 (p+1) c9) (ma.out) aj af dg);have h9:=HO.out.st.ae HO.out.dt (by decide) af;have z2:w6.cell? ⟨b4,257,none⟩=some (.slice aK p cK):=(by rw[h9.at_,zf]);have z3:w6.frozen? ⟨b4,257,none⟩=false:=h9.bb 257;have eU:=fL HO.out.aP HO.out.dt HO.out.aP.size af;clear aj af dg h9 hO;refine hK.out _ _ (cZ.out _ eU) fun η=>?_;clear hK K
   rotate_left
   all_goals
    try simp only[put,sA]
    (refine an 9 ?_;try simp only[put,sA])
    refine bc 10 (fun K hK=>?_);skip;go_simp;refine hK.out _ _ (cZ.out _ sN.out.aP) fun η=>?_;clear hK K
    try simp only[put,sA]
    refine wpAnyH_done (by kernel_rfl) ?_ _;have Cl:=hid (Fb.out _ a9 c9 sN.out);clear η z2 z3 eU sN HO;go_wp2;go_roundw
    ·exact⟨i+1,Gt,a5,a9,p+1,c5,c9,by go_num,by omega,by omega,Cl.out⟩
    simp[intOf];omega
 obtain rfl:i=D.n:=by omega
 obtain rfl:p=B:=HP.trans (HB.out.2.2.2.1.iv);have SN:=hid HT;have jq:=hid HT.st;have gd:=hid (H0.out.2.1.ab HT.aP);have hd:=mY D.K (.slice aN p cN) (.slice aK p cK);have FZ:Hid (w.heap.size<=Wn.heap.size):=H0.out.2.2.size;have Bi:Hid (Below w.heap.size w (wr.setRow b2 (dJ D.K (.slice aN p cN) (.slice aK p cK)))):=
  kZ ((show Below w.heap.size w Wn by rw[Hb.out.1];exact H0.out.2.2).trans (HT.aP.mono FZ.out)) (by have:=Hb.out;omega) _
 have mL:(qL D C f (bH f D.n)).length=p:=by rw[HP];simp[qL]
 have HF:Hid (Eo D C p (fun b c=>kI D f ((bH f D.n).getD b 0) c) (fun b=>D.q ((bH f D.n).getD b 0)) w (.returned (.agg (dJ D.K (.slice aN p cN) (.slice aK p cK)))) (wr.setRow b2 (dJ D.K (.slice aN p cN) (.slice aK p cK)))):=
  SN.out.RD HB.out.1.dm.kl mL (fun r hr=>by unfold qL at hr;obtain⟨j,_,rfl⟩:=List.mem_map.1 hr;simp) (znn _ _ _ HP) (fun j hj c hc=>by
   have hj2:j<(bH f D.n).length:=by omega
   unfold qL
   simp[getD_eq_getElem?_getD,hj2,hc]) FZ.out (inr ⟨b2,_,_,gd.out,rfl⟩) Bi.out
 clear HT mL HP;go_wp2_with (first|(refine p5 rfl 29 _ rfl ⟨b4,0,none⟩ rfl (dJ D.K (.slice aN p cN) (.slice aK p cK)) _ jq.out.part underlying29 rfl (by rw[fH,hd]) ?_)|(refine lO rfl 29 _ _ rfl b2 29 (zC 29) (dJ D.K (.slice aN p cN) (.slice aK p cK)) rfl rfl gd.out (by rw[ia,hd]) (by rw[fH,hd]) (yj _ _ _ _ _ _ _) ?_));refine bodyPost_ret (results_cell_row rfl _ _ b2 29 (dJ D.K (.slice aN p cN) (.slice aK p cK)) (0,0) _ rfl gd.out.setRow underlying29 rfl (by rw[fH,hd])) rfl ?_;exact HF.out
theorem zhO(n:Nat)(hn:n<=1000000)(W:World):(makeSlice 112 (.int .i64 0) (.int .i64 (n:Int))).run prog W=.ok (.slice (some ⟨W.heap.size,0,none⟩) 0 n) (W.alloc (.cells (madeCells #[.int .u8 0] n) 5)):=by
 obtain⟨i0,hi,dv,cP,cG⟩:=info_parts lx;have h:=run_makeSlice (P:=prog) W 112 5 i0 (.int .u8 0) underlying112 hi dv .i64 .i64 0 (n:Int) (by omega) (by omega) (by rw[cP];simp;omega) (by rw[cG];omega) (by omega);have e:(Value.int .u8 0).cells=#[.int .u8 0]:=rfl;rw[cP,e] at h;simpa using h
theorem zed(n:Nat)(hn:n<=1000000)(W:World)(B:Nat)(hB:B<=W.heap.size):(W.alloc (.cells (madeCells #[.int .u8 0] n) 5)).ownsRow B 5 1 (.slice (some ⟨W.heap.size,0,none⟩) 0 n) 0 []:=
 World.ownsRow_made W _ n hB (by unfold maxLen;omega) (by have:=size_madeCells #[Value.int .u8 0] n;simpa using this)
theorem cell_two_new(w:World)(a b:Value)(t:TypeId):∀j u,[a,b][j]?=some u->(w.alloc (.cells #[a,b] t)).cell? ((⟨w.heap.size,0,none⟩:Addr).add j)=some u:=by
 intro j u h;have hS:=(St.new w t #[a,b]).part;exact hS j u h
theorem zhP(n:Nat)(hn:2*n<=1000000)(W:World):(makeSlice 112 (.int .i64 0) (.int .i64 (2*(n:Int)))).run prog W=.ok (.slice (some ⟨W.heap.size,0,none⟩) 0 (2*n)) (W.alloc (.cells (madeCells #[.int .u8 0] (2*n)) 5)):=by
 have h:=zhO (2*n) hn W;rwa [show ((2*n:Nat):Int)=2*(n:Int) by omega] at h
def rV(D:Dd)(k:Nat):Value:=.string (strOf (jt (fun i=>D.nx i k) D.n))
theorem DM.rowAt(h:DM w D){g off:Nat}(e:D.aN=some ⟨g,off,none⟩)(hi:i<D.n):w.cell? ⟨g,off+i,none⟩=some (.slice (D.A i) (D.len i) (D.Cp i))/\kY w (D.A i) (D.len i) (D.nx i):=by
 obtain⟨g',kJ,e',_,h1,h2⟩:=h.row i hi;rw[e] at e';injection e' with e';injection e' with e1 e2;subst e1 e2;exact⟨h1,h2⟩
def WZ(D:Dd)(C:Nat)(w:World)(e:Ending)(w':World):Prop:=
 ∃(a:Option Addr) (c:Nat),e=.returned (.slice a C c)/\w'.ownsRow w.heap.size 9 1 (.slice a C c) C ((range C).map (rV D))/\Below w.heap.size w w'
theorem znk(x:Int):IntKind.u16.wrap x=((mB x:Nat):Int):=by
 have h:IntKind.u16.wrap x=x % 65536:=by simp[wrap,IntKind.bits,signed]
 rw[h];unfold mB;omega
theorem znl(z:Nat->Int)(i y:Nat)(hy:mB (z i)=y):mm (jt z (i+1))=mm (jt z i)++[.int .u8 ((y:Int) % 256),.int .u8 ((y:Int) / 256)]:=by
 subst hy;rw[jt,mm,map_append];congr 1
theorem zfQ(D:Dd)(C:Nat)(hR:DR D C)(w:World)(hD:DM w D):Calls prog 78 #[.agg D.cD] w (WZ D C w):=by
 have cU:=hR.n2;have da:=hR.n1;have tq:=(hR.il hD.kl).2;have fJ:=zhP D.n (by omega);have hk:=hD.kl;have HB:=ξ (bg.new hD) (al w (.cells D.cD 29)) hR;obtain⟨iU,hU,hU0,hU1,hU2⟩:=info_parts lx;obtain⟨iS,hS,hS0,KB,hS2⟩:=info_parts pq;clear hD hR;go_in;go_upto_region 1 with fail;generalize w.alloc (.cells D.cD 29)=W0 at HB⊢;obtain⟨b0,ay⟩:∃b0,w.heap.size=b0:=⟨_,rfl⟩
 rw[ay] at HB;rw[ay];have bW:=hid ay;clear ay;have ur:=hid (Gd D.K C HB.out.2.2.c hk W0);go_wp2_with (refine p5 rfl 25 _ rfl ⟨b0,0,none⟩ rfl (aU D.K) (.array 256 5) HB.out.1.dL underlying25 rfl (vX D.K) ?_);refine ur.out.mono ?_;rintro e w1 ⟨rfl,b1⟩;have HG1:Hid (w.heap.size<=W0.heap.size):=show w.heap.size<=W0.heap.size by have:=HB.out.2.1.size;have:=bW.out;omega
 have tf:Hid (w1.ownsRow W0.heap.size 9 1 (.slice none 0 0) 0 ((range 0).map (rV D))/\Below W0.heap.size W0 w1):=⟨World.ownsRow_nil _ _ _ _,b1⟩
 clear b1 ur;go_wp2;go_loopw [3,4,5,7,8,12] (fun v3 _ _ _ _ vk wr=>∃(k:Nat) (a3:Option Addr) (c3:Nat),v3=.slice a3 k c3/\vk=.int .i64 k/\k<=C/\Hid (wr.ownsRow W0.heap.size 9 1 v3 k ((range k).map (rV D))/\Below W0.heap.size W0 wr)) (fun _ _ _ _ _ v _=>C-(intOf v).toNat)
 ·exact⟨0,none,0,rfl,rfl,zero_le _,tf.out⟩
 clear tf;obtain⟨k,a3,c3,rfl,rfl,fm,HL⟩:=hrel;by_cases aq:k<C
 ·have Al:=hid (HB.out.1.ab HL.out.2);have f1:=Al.out.f1;obtain⟨gN,oN,eN,ky,_,_⟩:=Al.out.dm.row 0 (by omega);rw[eN] at f1;have vZ:=ζ eN ky;have i1:(k:Int)<C:=by omega
  have zb:=hid (zed (2*D.n) (by omega) wr wr.heap.size (le_refl _));have pn:=hid (al wr (.cells (madeCells #[.int .u8 0] (2*D.n)) 5));clear eN ky;go_upto_region 6 with fail;obtain⟨g,hg⟩:∃g,wr.heap.size=g:=⟨_,rfl⟩
  have kz:Hid ((wr.alloc (.cells (madeCells #[.int .u8 0] (2*D.n)) 5)).ownsRow g 5 1 (.slice (some ⟨g,0,none⟩) 0 (2*D.n)) 0 (mm (jt (fun i=>D.nx i k) 0))/\Below g wr (wr.alloc (.cells (madeCells #[.int .u8 0] (2*D.n)) 5))):=by
   rw[<-hg];exact⟨zb.out,pn.out⟩
  have Hg:=hid hg;have IQ:=(pn.out.cell (p:=⟨b0,256,none⟩) Al.out.st.lt).trans f1
  try rw[hg]
  clear zb pn hg f1;generalize wr.alloc (.cells (madeCells #[.int .u8 0] (2*D.n)) 5)=W6 at kz IQ⊢;obtain⟨wo,K6⟩:∃wo,wo=wr:=⟨wr,rfl⟩
  subst K6;go_wp2;go_loopw [5,7,8,23] (fun v5 _ _ vi wq=>∃(i:Nat) (a5:Option Addr) (c5:Nat),v5=.slice a5 (2*i) c5/\vi=.int .i64 i/\i<=D.n/\Hid (wq.ownsRow g 5 1 v5 (2*i) (mm (jt (fun i=>D.nx i k) i))/\Below g wo wq)) (fun _ _ _ v _=>D.n-(intOf v).toNat)
  ·exact⟨0,_,_,rfl,rfl,zero_le _,kz⟩
  clear kz IQ;obtain⟨i,a5,c5,rfl,rfl,hi,HA⟩:=hrel;have ld:Hid (Below wo.heap.size wo wr):=by rw[Hg.out];exact HA.out.2
  have HBq:=hid (Al.out.ab ld.out);by_cases pV:i<D.n
  ·obtain⟨qB,zN⟩:=HBq.out.dm.rowAt vZ.out.1 pV;rw[HB.out.2.2.len i pV] at qB zN;obtain⟨gr,or9,eA,ov,cz⟩:=zN (by omega);rw[eA] at qB;have cz1:=cz k aq;have i2:(i:Int)<(D.n:Int):=(by omega);obtain⟨x,hx⟩:∃x,D.nx i k=x:=(⟨_,rfl⟩);have Hx:=hid hx;rw[hx] at cz1;clear zN eA cz ov hx;have hW:=znk x;obtain⟨y,hy⟩:∃y:Nat,mB x=y:=(⟨_,rfl⟩);have Hy:=hid (znl (fun i=>D.nx i k) i y (by show mB (D.nx i k)=y;rw[Hx.out];exact hy));rw[hy] at hW;have FH:y<65536:=(by rw[<-hy];exact LS x);clear hy;have wJ:=HA.out.1;have hgs9:g<=wr.heap.size:=(by have:=HA.out.2.size;have:=Hg.out;omega);go_wp2_with (at_builtin;refine wpList_append_own_at _ rfl _ _ 112 rfl g 5 iU (.int .u8 0) 1 1 underlying112 hU hU0 hU1 hU2 rfl (by decide) _ _ _ rfl (wJ.alloc _) ⟨wr.heap.size,0,none⟩ 2 2 [.int .u8 ((y:Int) % 256),.int .u8 ((y:Int) / 256)] rfl rfl (cell_two_new _ _ _ _) ?d2 ?d3 ?d4 ?d5 ?_)
   case d2=>first|(intro u hu;simp at hu;rcases hu with rfl|rfl <;> rfl)|rfl
   case d3=>unfold maxLen;omega
   case d4=>omega
   case d5=>first|(simp;omega)|omega
   intro v' w5 ah ag _ bJ;obtain⟨a6,c6,rfl⟩:=bP ah;have HF:Hid (w5.ownsRow g 5 1 (.slice a6 (2*i+2) c6) (2*i+2) (mm (jt (fun i=>D.nx i k) (i+1)))/\Below g wo w5):=by
    have k9:=al wr (.cells #[.int .u8 ((y:Int) % 256),.int .u8 ((y:Int) / 256)] 5);have WH:g<=wr.heap.size:=(by have:=HA.out.2.size;have:=Hg.out;omega);refine⟨?_,fL (HA.out.2.trans (k9.mono WH)) (db HA.out.1 k9) (by simp;omega) ag⟩;rw[Hy.out];exact ah
   clear ah ag bJ wJ;go_wp2;go_roundw
   ·exact⟨i+1,a6,c6,rfl,by go_num,by omega,HF.out⟩
   simp[intOf];omega
  obtain rfl:i=D.n:=by omega
  have hcv:=Oi (HA.out.1) (by rw[M7]);have PQ:=db HL.out.1 ld.out;have Sx:=ld.out;have hs9:W0.heap.size<=wr.heap.size:=by have:=Sx.size;have:=HL.out.2.size;omega
  go_wp2_with (at_builtin;refine wpList_append_own_at _ rfl _ _ 110 rfl W0.heap.size 9 iS (.string ⟨#[]⟩) 1 16 underlying110 hS hS0 KB hS2 rfl (by decide) _ _ _ rfl (PQ.alloc _) ⟨wr.heap.size,0,none⟩ 1 1 [rV D k] rfl rfl (cell_one_new _ _ _) ?d2 ?d3 ?d4 ?d5 ?_)
  case d2=>first|(intro u hu;simp at hu;subst hu;rfl)|rfl
  case d3=>unfold maxLen;omega
  case d4=>omega
  case d5=>first|(simp;omega)|omega
  intro v' w5 ah ag _ bJ;obtain⟨a6,c6,rfl⟩:=bP ah;have HF:Hid (w5.ownsRow W0.heap.size 9 1 (.slice a6 (k+1) c6) (k+1) ((range (k+1)).map (rV D))/\Below W0.heap.size W0 w5):=by
   have k9:=al wr (.cells #[rV D k] 9);have oh:=HL.out.2.size;have lf:=Sx.size;refine⟨?_,fL ((HL.out.2.trans (Sx.mono oh)).trans (k9.mono (by omega))) (db PQ k9) (by simp;omega) ag⟩;rw[range_succ,map_append];exact ah
  clear ah ag bJ PQ;go_wp2;go_roundw
  ·exact⟨k+1,a6,c6,rfl,by go_num,by omega,HF.out⟩
  simp[intOf];omega
 obtain rfl:k=C:=by omega
 have HF:Hid (WZ D k w (.returned (.slice a3 k c3)) wr):=by
  have h1:=HB.out.2.1;have h2:=HL.out.2;have h3:=HG1.out;have hs:=h1.size;have oh:=bW.out;rw[<-oh] at h1;exact⟨a3,c3,rfl,gn HL.out.1 h3,h1.trans (h2.mono (by omega))⟩
 clear HL;go_wp2;go_ret;exact HF.out
theorem YX:∀j,j<256->(zC 29)[j]?=some (.int .u8 0):=by
 have h:(range 256).all (fun j=>match (zC 29)[j]? with|some (.int .u8 0)=>true|_=>false)=true:=by kernel_rfl
 intro j hj;have h1:=List.all_eq_true.1 h j (by simpa using hj);split at h1
 ·rename_i e;rw[e]
 cases h1
theorem zjW(b:Option Addr)(m d:Nat)(W:World):(Instr.build 29 #[(2,.slice b m d)]).run prog W=.ok (.agg (dJ (fun _=>0) (.slice none 0 0) (.slice b m d))) W:=by
 have e:prog.built 29 [(2,.slice b m d)]=fill (fun i=>#[(0,256),(256,1),(257,1)][i]?) (zC 29) [(2,.slice b m d)]:=by kernel_rfl
 have hz:=ia;obtain⟨d1,d2⟩:=DI;obtain⟨q1,q2⟩:=yZ (zC 29) #[.slice b m d] 257 (by rw[hz];simp);rw[za _ _ 2 257 1 (.slice b m d) [] (by rfl) (by rfl) (by rw[hz];omega)] at e;rw[show (Value.slice b m d).cells=#[.slice b m d] from rfl] at e;simp only[List.size_toArray,List.length_cons,List.length_nil] at q2;have e4:putAt (zC 29) #[.slice b m d] 257=dJ (fun _=>0) (.slice none 0 0) (.slice b m d):=by
  refine CV _ _ _ _ (by rw[q1,hz]) (fun j hj=>by rw[q2,if_neg (by omega),YX j hj];rfl) (by rw[q2,if_neg (by omega),d1]) (by rw[q2,if_pos (by omega)];rfl)
 rw[e4] at e;exact run_build W _ _ _ e
theorem XI(K:Nat->Nat)(vN vK:Value)(j v:Nat)(hj:j<256):(dJ K vN vK).setIfInBounds j (.int .u8 (v:Int))=dJ (fun i=>if i=j then v else K i) vN vK:=by
 refine CV _ vN vK _ (by rw[Array.size_setIfInBounds,mY]) (fun i hi=>?_) ?_ ?_
 ·by_cases e:i=j
  ·subst e;rw[Array.getElem?_setIfInBounds_self_of_lt (by rw[mY];omega),if_pos rfl]
  rw[Array.getElem?_setIfInBounds_ne (fun h=>e h.symm),Af K vN vK i hi,if_neg e]
 ·rw[Array.getElem?_setIfInBounds_ne (by omega),qu]
 rw[Array.getElem?_setIfInBounds_ne (by omega),zf]
theorem YZ:∀i,(∀j,j<i->f j=g j)->bH f i=bH g i:=by
 intro i
 induction i with
 | zero=>intro _;rfl
 | succ i ih=>
  intro h;have e:=ih (fun j hj=>h j (by omega));show (if f i<(bH f i).length then bH f i else bH f i++[i])=if g i<(bH g i).length then bH g i else bH g i++[i]
  rw[e,h i (by omega)]
def cS(D:Dd)(c:Nat):ByteArray:=strOf (jt (fun i=>D.nx i c) D.n)
theorem zqJ(D:Dd)(c:Nat):(cS D c).size=2*D.n:=by unfold cS;rw[zg,M7]
theorem zrg(hR:DR D C){a b:Nat}(ha:a<C)(hb:b<C):cS D a=cS D b↔∀i,i<D.n->D.nx i a=D.nx i b:=by
 have cU:=hR.n2;rw[<-zm3 (n:=D.n) (z:=fun i=>D.nx i a) (z':=fun i=>D.nx i b) (fun i hi=>by have:=hR.nx i a hi ha;omega) (fun i hi=>by have:=hR.nx i b hi hb;omega)];unfold cS;constructor
 ·intro h;have h1:=congrArg (fun s:ByteArray=>s.data.toList) h;simp only[yU] at h1;exact Td (YR _ _) (YR _ _) h1
 intro h;rw[h]
def Na(nm:List ByteArray)(key val:Value):Prop:=∃(b:Nat) (s:ByteArray),nm[b]?=some s/\key=.string s/\val=.int .u8 ((b:Nat):Int)
theorem zhQ(W:World):(makeMap 128 none).run prog W=.ok (.map (some W.heap.size)) (W.alloc (.map #[] 0)):=by
 kernel_rfl
theorem znm(w:World):(zeroValue 5).run prog w=.ok (.int .u8 0) w:=by kernel_rfl
structure qv (W0:World)(D:Dd)(C bM b4:Nat)(vC:Value)(k:Nat)(v6:Value)(nm:List ByteArray)(g:Nat->Nat)(w:World):Prop where
 aP:Below W0.heap.size W0 w
 map:dV w 9 bM nm.length (Na nm)
 kept:w.ownsRow W0.heap.size 3 1 v6 nm.length (cY ((bH g k).map D.K))
 kl:(bH g k).length=nm.length
 st:St w 29 b4 (dJ (fun j=>if j<k then g j else 0) (.slice none 0 0) (.slice D.aM D.m D.cM))
 Ck:w.ownsRow W0.heap.size 9 1 vC C ((range C).map (rV D))
 at_:∀i,i<k->nm[g i]?=some (cS D (D.K i))
 num:fD (iD D D.n) k g nm.length
 Ln:W0.heap.size<=bM
 I2:W0.heap.size<=b4
 nk:nm.length<=k
section
variable {W0 : World}{D : Dd}{C bM b4 : Nat}{vC : Value}{k : Nat}{v6 : Value}{nm : List ByteArray}{g : Nat → Nat}{w : World}
theorem qv.mem(h:qv W0 D C bM b4 vC k v6 nm g w)(s:ByteArray):s∈nm↔∃i,i<k/\cS D (D.K i)=s:=by
 constructor
 ·intro hm;obtain⟨b,hb,e⟩:=getElem_of_mem hm;obtain⟨i,h1,h2,_⟩:=h.num.new b hb;refine⟨i,h1,?_⟩;have:=h.at_ i h1;rw[h2,getElem?_eq_getElem hb,e] at this;exact (Option.some.inj this).symm
 rintro⟨i,hi,rfl⟩;exact mem_of_getElem? (h.at_ i hi)
theorem qv.look(h:qv W0 D C bM b4 vC k v6 nm g w)(s:ByteArray)(hs:s.size<=1000000):
  (∃b,nm[b]?=some s/\(lookup 128 (.map (some bM)) (.string s) true).run prog w=.ok (.tuple #[.int .u8 ((b:Nat):Int),.bool true]) w)\/
  (s∉nm/\(lookup 128 (.map (some bM)) (.string s) true).run prog w=.ok (.tuple #[.int .u8 0,.bool false]) w):=by
 rcases h.map.ex.nH Et underlying128 (znm w) (Go.WideMaps.keyOf_string_mk underlying9 (s:=s) (by unfold maxLen;omega)) with ⟨cy,gm⟩|⟨v,⟨b,s',h1,h2,rfl⟩,cy⟩
 ·refine inr ⟨fun hm=>?_,cy⟩;obtain⟨b,hb,e⟩:=getElem_of_mem hm;exact gm _ ⟨b,s,by rw[getElem?_eq_getElem hb,e],rfl,rfl⟩
 injection h2 with h2;exact inl ⟨b,by rw[h2];exact h1,cy⟩
theorem qv.put(h:qv W0 D C bM b4 vC k v6 nm g w)(s:ByteArray)(hs:s.size<=1000000)(hn:nm.length<maxLen)(hb:s∉nm):
  ∃w',(mapUpdate 128 (.map (some bM)) (.string s) (.int .u8 (nm.length:Int))).run prog w=.ok () w'/\dV w' 9 bM (nm.length+1) (Na (nm++[s]))/\w.grownBy w' (some bM):=by
 refine h.map.update Et underlying128 hn (Go.WideMaps.keyOf_string_mk underlying9 (s:=s) (by unfold maxLen;omega)) ?_ ?_ ?_ ?_
 ·rintro y ⟨k,s',h1,h2,_⟩;injection h2 with h2;rw[<-h2] at h1;exact hb (mem_of_getElem? h1)
 ·rintro a b ⟨k,s',h1,h2,h3⟩;exact⟨k,s',by rw[getElem?_append_left (List.getElem?_eq_some_iff.1 h1).1];exact h1,h2,h3⟩
 ·exact⟨nm.length,s,by simp,rfl,rfl⟩
 rintro a b ⟨k,s',h1,h2,h3⟩ hne;by_cases e:k<nm.length
 ·rw[getElem?_append_left e] at h1;exact⟨b,k,s',h1,h2,h3⟩
 rw[List.getElem?_append_right (by omega)] at h1;cases hj:k-nm.length with
 | zero=>rw[hj] at h1;simp at h1;exact absurd (by rw[h2,h1]) hne
 | succ j=>rw[hj] at h1;simp at h1
theorem zlx(g:Nat->Nat)(k b:Nat):(fun i=>if i=k then b else if i<k then g i else 0)=fun j=>if j<k+1 then (if j=k then b else g j) else 0:=by
 funext i;by_cases e:i=k
 ·rw[if_pos e,if_pos (by omega),if_pos e]
 rw[if_neg e];by_cases e2:i<k
 ·rw[if_pos e2,if_pos (by omega),if_neg e]
 rw[if_neg e2,if_neg (by omega)]
theorem ZI(hR:DR D C){a b:Nat}(ha:a<256)(hb:b<256):cS D (D.K a)=cS D (D.K b)↔iD D D.n a b:=zrg hR (hR.c.1 a ha) (hR.c.1 b hb)
theorem dV.set{k:TypeId}{b t g:Nat}{Q:Value->Value->Prop}(h:dV w k b n Q)(h':St w t g cs):dV (w.setCell ⟨g,i,none⟩ u) k b n Q:=by
 refine h.same (Below.heap_setCell _ _ _ _ ?_);intro e;obtain⟨es,clock,hb,_⟩:=h;have h2:w.heap[g]?=_:=h';rw[show b=g from e,h2] at hb;cases hb
theorem qv.jG{b:Nat}(hR:DR D C)(hk:k<256)(h:qv W0 D C bM b4 vC k v6 nm g w)(hb:nm[b]?=some (cS D (D.K k))):
  ∃g',qv W0 D C bM b4 vC (k+1) v6 nm g' (w.setCell ⟨b4,k,none⟩ (.int .u8 (b:Int))):=by
 have gE:b<nm.length:=(List.getElem?_eq_some_iff.1 hb).1;obtain⟨i,h1,h2,_⟩:=h.num.new b gE;have hi:=h.at_ i h1;rw[h2,hb] at hi;have hi:=Option.some.inj hi;have hE:iD D D.n i k:=(ZI hR (by omega) hk).1 hi.symm;have Ac:bH (fun j=>if j=k then b else g j) (k+1)=bH g k:=by
  have e0:bH (fun j=>if j=k then b else g j) k=bH g k:=YZ k (fun j hj=>by simp only[if_neg (show ¬j=k by omega)]);rw[Dc (f:=fun j=>if j=k then b else g j) (by rw[e0,h.kl];simp only[if_pos rfl];exact gE),e0]
 refine⟨fun j=>if j=k then b else g j,h.aP.setCell (p:=⟨b4,k,none⟩) h.I2 _,h.map.set h.st,by rw[Ac];exact jE h.kept h.st (by decide) _ _,by rw[Ac];exact h.kl,?_,jE h.Ck h.st (by decide) _ _,fun j hj=>?_,?_,h.Ln,h.I2,by have:=h.nk;omega⟩
 ·have:=h.st.set k (.int .u8 (b:Int));rw[XI _ _ _ k b hk,zlx] at this;exact this
 ·by_cases e:j=k
  ·simp only[if_pos e];rw[e];exact hb
  simp only[if_neg e];exact h.at_ j (by omega)
 have:=h.num.jG (fun i j e x hx=>(e x hx).symm) (fun i j l e e2 x hx=>(e x hx).trans (e2 x hx)) (fun i x hx=>rfl) h1 hE;rw[h2] at this;exact this
theorem qv.fresh{w2 w3:World}{Gc:Value}(hR:DR D C)(hk:k<256)(h:qv W0 D C bM b4 vC k v6 nm g w)(hb:cS D (D.K k)∉nm)(hm:dV w1 9 bM (nm.length+1) (Na (nm++[cS D (D.K k)])))(l7:w.grownBy w1 (some bM))
  (k2:Below w1.heap.size w1 w2) (hg:w2.grownBy w3 v6.ownBlock) (ho:w3.ownsRow W0.heap.size 3 1 Gc (nm.length+1) (cY ((bH g k).map D.K)++[.int .i64 (D.K k)])):
  ∃g',qv W0 D C bM b4 vC (k+1) Gc (nm++[cS D (D.K k)]) g' (w3.setCell ⟨b4,k,none⟩ (.int .u8 (nm.length:Int))):=by
 have mC:Below W0.heap.size W0 w1:=h.aP.grown l7 h.aP.size (fun g e=>by injection e with e;rw[<-e];exact h.Ln);have mX:=mC.trans (k2.mono mC.size);have o2:=db (wV h.kept h.map.ex.of l7) k2;have c2:=db (wV h.Ck h.map.ex.of l7) k2;have m2:=hm.same (k2.block _ hm.lt);have s2:=(h.st.ee h.map.ex.of l7).ab k2;have s3:=s2.ae o2 (by decide) hg;have m3:=m2.ae o2 hg;have c3:=rF c2 hg (fun b e e2=>iB c2 o2 (by decide) b e e2.symm);have B3:=fL mX o2 mX.size hg;have Ac:bH (fun j=>if j=k then nm.length else g j) (k+1)=bH g k++[k]:=by
  have e0:bH (fun j=>if j=k then nm.length else g j) k=bH g k:=YZ k (fun j hj=>by simp only[if_neg (show ¬j=k by omega)]);rw[DW (f:=fun j=>if j=k then nm.length else g j) (by rw[e0,h.kl];show ¬(if k=k then nm.length else g k)<nm.length;rw[if_pos rfl];omega),e0]
 have hlen:(nm++[cS D (D.K k)]).length=nm.length+1:=by simp
 refine⟨fun j=>if j=k then nm.length else g j,B3.setCell (p:=⟨b4,k,none⟩) h.I2 _,by rw[hlen];exact m3.set s3,?_,by rw[Ac,hlen,length_append,h.kl];rfl,?_,jE c3 s3 (by decide) _ _,fun j hj=>?_,?_,h.Ln,h.I2,by rw[hlen];have:=h.nk;omega⟩
 ·rw[Ac,hlen,map_append,show cY ((bH g k).map D.K++[k].map D.K)=cY ((bH g k).map D.K)++[.int .i64 (D.K k)] by simp[cY]];exact jE ho s3 (by decide) _ _
 ·have:=s3.set k (.int .u8 (nm.length:Int));rw[XI _ _ _ k _ hk,zlx] at this;exact this
 ·by_cases e:j=k
  ·simp only[if_pos e];rw[e];simp
  simp only[if_neg e];have:=h.at_ j (by omega);rw[getElem?_append_left (List.getElem?_eq_some_iff.1 this).1];exact this
 rw[hlen];exact h.num.fresh (fun i j e x hx=>(e x hx).symm) (fun i x hx=>rfl) (fun i hi e=>hb ((h.mem _).2 ⟨i,hi,(ZI hR (by omega) hk).2 e⟩))
end
structure tE (W0:World)(D:Dd)(b4 C':Nat)(K':Nat->Nat)(vN:Value)(R:List (List Int))(ws:Nat->Value)(v6:Value)(l:List Nat)(w:World):Prop where
 aP:Below W0.heap.size W0 w
 st:St w 29 b4 (dJ K' vN (.slice D.aM D.m D.cM))
 next:bE w W0.heap.size 27 3 1 vN R.length ws (fun _=>C') (fun j=>ints (R.getD j []))
 kept:w.ownsRow W0.heap.size 3 1 v6 C' (cY l)
 sep:∀i,i<R.length->∀b,(ws i).ownBlock=some b->v6.ownBlock≠some b
 lo:W0.heap.size<=b4
section
variable {W0 : World}{D : Dd}{b4 C' : Nat}{K' : Nat → Nat}{vN v6 : Value}{R : List (List Int)}{ws : Nat → Value}{l : List Nat}{w : World}
theorem tE.ab(h:tE W0 D b4 C' K' vN R ws v6 l w)(k:Below w.heap.size w w1):tE W0 D b4 C' K' vN R ws v6 l w1:=
 ⟨h.aP.trans (k.mono h.aP.size),h.st.ab k,h.next.ab k,db h.kept k,h.sep,h.lo⟩
theorem tE.f1(h:tE W0 D b4 C' K' vN R ws v6 l w):w.cell? ⟨b4,256,none⟩=some vN:=by rw[h.st.at_,qu]
theorem qv.done{vC:Value}{nm:List ByteArray}{ws:Nat->Value}(h:qv W0 D C bM b4 vC 256 v6 nm g w)(hm:nm.length=C'):tE W0 D b4 C' (fun j=>if j<256 then g j else 0) (.slice none 0 0) [] ws v6 ((bH g 256).map D.K) w:=by
 subst hm;exact⟨h.aP,h.st,⟨World.ownsRow_nil _ _ _ _,fun i hi=>absurd hi (by simp),fun i j hi=>absurd hi (by simp)⟩,h.kept,fun i hi=>absurd hi (by simp),h.I2⟩
theorem tE.gJ{vN':Value}{row:List Int}{q:Nat}(h:tE W0 D b4 C' K' vN R ws v6 l w)(hu:w.ownsRow W0.heap.size 3 1 u C' (ints row))(hs:∀i,i<R.length->∀b,(ws i).ownBlock=some b->u.ownBlock≠some b)(tH:∀b,u.ownBlock=some b->v6.ownBlock≠some b)(hq:R.length=q)
  (ho:w'.ownsRow W0.heap.size 27 1 vN' (q+1) ((range q).map ws++[u])) (hg:w.grownBy w' vN.ownBlock):tE W0 D b4 C' K' vN' (R++[row]) (fun j=>if j=q then u else ws j) v6 l (w'.setCell ⟨b4,256,none⟩ vN'):=by
 subst hq;have bY:St w' 29 b4 (dJ K' vN (.slice D.aM D.m D.cM)):=h.st.ae h.next.own (by decide) hg
 have h1:bE w W0.heap.size 27 3 1 vN R.length ws (fun _=>C') (fun j=>ints ((R++[row]).getD j [])):=h.next.congr (fun i hi=>⟨rfl,by simp[getD_eq_getElem?_getD,getElem?_append_left hi]⟩)
 have h2:=h1.qb (v':=vN') (u:=u) (w':=w') (by decide) (by simpa [getD_eq_getElem?_getD] using hu) hs ho hg;have hm:w'.ownsRow W0.heap.size 3 1 v6 C' (cY l):=rF h.kept hg (fun b e e2=>iB h.kept h.next.own (by decide) b e e2.symm);refine⟨(fL h.aP h.next.own h.aP.size hg).setCell (p:=⟨b4,256,none⟩) h.lo _,?_,?_,zE hm bY (by decide),?_,h.lo⟩
 ·have:=bY.set 256 vN';rwa [Wa] at this
 ·rw[length_append];exact⟨zE h2.own bY (by decide),fun i hi=>zE (h2.row i hi) bY (by decide),h2.sep⟩
 intro i hi b e;by_cases e1:i=R.length
 ·rw[if_pos e1] at e;exact tH b e
 rw[if_neg e1] at e;exact h.sep i (by simp at hi;omega) b e
def Sm(D:Dd)(w:World)(e:Ending)(w':World):Prop:=
 ∃(P:Dd) (g:Nat->Nat) (C':Nat),e=.returned (.agg P.cD)/\DM w' P/\fD (iD D D.n) 256 g C'/\sK D g C' P/\Below w.heap.size w w'
def nR(D:Dd)(l:List Nat)(n:Nat):List (List Int):=(range n).map fun i=>l.map (D.nx i)
theorem tE.fin{bR:Nat}{wS:World}{jG:Array Value}(hD:DM wS D)(hR:DR D C)(hN:fD (iD D D.n) 256 g C')(h:tE W0 D b4 C' (fun j=>if j<256 then g j else 0) vN (nR D ((bH g 256).map D.K) D.n) ws v6 ((bH g 256).map D.K) w)
  (hs:St w 29 bR jG) (hw:w'=w.setRow bR cs) (hB:Below wS.heap.size wS w'):Sm D wS (.returned (.agg (dJ (fun j=>if j<256 then g j else 0) vN (.slice D.aM D.m D.cM)))) w':=by
 subst hw;obtain⟨aN,cN,rfl⟩:=bP h.next.own
 have hlen:(nR D ((bH g 256).map D.K) D.n).length=D.n:=by simp[nR]
 have pQ:∀{B t n:Nat}{v:Value}{xs:List Value},t≠29->w.ownsRow B t 1 v n xs->(w.setRow bR cs).ownsRow B t 1 v n xs:=fun {B t n v xs} ht ho=>
  fI (ts:=[]) (bs:=[bR]) ho (J1 w bR cs) (by simp) (fun g e hm=>eB ho hs ht g e (List.mem_singleton.1 hm))
 have cU:bE (w.setRow bR cs) W0.heap.size 27 3 1 (.slice aN (nR D ((bH g 256).map D.K) D.n).length cN) (nR D ((bH g 256).map D.K) D.n).length ws (fun _=>C') (fun j=>ints ((nR D ((bH g 256).map D.K) D.n).getD j [])):=⟨pQ (by decide) h.next.own,fun i hi=>pQ (by decide) (h.next.row i hi),h.next.sep⟩
 have wM:∀r∈nR D ((bH g 256).map D.K) D.n,r.length=C':=by
  intro r hr;obtain⟨i,_,rfl⟩:=List.mem_map.1 hr;rw[length_map,length_map,hN.iv]
 have hm:=hR.m;have hg:∀j,j<256->g j<256:=fun j hj=>by have:=hN.le j hj;omega
 refine⟨⟨dJ (fun j=>if j<256 then g j else 0) (.slice aN (nR D ((bH g 256).map D.K) D.n).length cN) (.slice D.aM D.m D.cM),fun j=>if j<256 then g j else 0,aN,(nR D ((bH g 256).map D.K) D.n).length,cN,fun i=>vw (ws i),fun i=>xq (ws i),fun _=>C',fun i x=>((nR D ((bH g 256).map D.K) D.n).getD i []).getD x 0,D.aM,D.m,D.cM,D.q⟩,g,C',rfl,
  ⟨mY _ _ _,yj _ _ _ _ _ _ _,fun j hj=>Af _ _ _ j hj,fun j hj=>?_,qu _ _ _,zf _ _ _,cU.zs rfl wM,(hD.below hB).rM⟩,hN,⟨fun b hb=>?_,hlen,hm,fun i hi=>rfl,fun i hi c hc=>?_,fun i hi=>rfl⟩,hB⟩
 ·show (if j<256 then g j else 0)<256;rw[if_pos hj];exact hg j hj
 ·show (if b<256 then g b else 0)=g b;rw[if_pos hb]
 show ((nR D ((bH g 256).map D.K) D.n).getD i []).getD c 0=D.nx i (D.K ((bH g 256).getD c 0));have fB:c<(bH g 256).length:=by rw[hN.iv];exact hc
 unfold nR;simp[getD_eq_getElem?_getD,hi,fB]
end
theorem PB(D:Dd)(l:List Nat)(i:Nat):nR D l (i+1)=nR D l i++[l.map (D.nx i)]:=by
 unfold nR;rw[range_succ,map_append];rfl
theorem zpO(D:Dd)(l:List Nat)(i:Nat):(nR D l i).length=i:=by simp[nR]
theorem N7(D:Dd)(C:Nat)(hR:DR D C)(w:World)(hD:DM w D):
  Calls prog 43 #[.agg D.cD] w (Sm D w):=by
 have cU:=hR.n2;have da:=hR.n1;have tq:=(hR.il hD.kl).2;have xz:=hD.kl;have ju:=zhQ;have HB:=ψ (bg.new hD) (al w (.cells D.cD 29)) hR hD;obtain⟨iI,hI,se,sD,sx⟩:=info_parts aG;obtain⟨iV,hV,vb,va,vD⟩:=info_parts eI;have Hk8:=hid xz;clear hD hR xz;go_in;go_upto_region 1 with (refine og rfl 29 rfl (zC 29) (lN _) ?_)
 try simp only[put,List.setIfInBounds_toArray,set_cons_zero,set_cons_succ,Hc]
 have H0:Hid (bg ((w.alloc (.cells D.cD 29)).alloc (.cells (zC 29) 29)) w.heap.size D/\St ((w.alloc (.cells D.cD 29)).alloc (.cells (zC 29) 29)) 29 (w.heap.size+1) (zC 29)/\Below w.heap.size w ((w.alloc (.cells D.cD 29)).alloc (.cells (zC 29) 29))):=by
  refine⟨HB.out.1.ab (al _ _),?_,HB.out.2.1.trans ((al _ _).mono (by simp))⟩;have:=St.new (w.alloc (.cells D.cD 29)) 29 (zC 29);simpa using this
 generalize (w.alloc (.cells D.cD 29)).alloc (.cells (zC 29) 29)=Wn at H0⊢;obtain⟨b2,cv⟩:∃b2,w.heap.size+1=b2:=⟨_,rfl⟩
 obtain⟨b0,ay⟩:∃b0,w.heap.size=b0:=⟨_,rfl⟩
 rw[cv,ay] at H0;rw[cv,ay];have Hb:=ζ ay cv;clear cv ay;have f2:=H0.out.1.f2;have k5:=al Wn (.cells (zC 29) 29);have ij:St (Wn.alloc (.cells (zC 29) 29)) 29 Wn.heap.size (zC 29):=St.new _ _ _;have jq:=hid ij;have j8:Hid (St ((Wn.alloc (.cells (zC 29) 29)).setRow Wn.heap.size (dJ (fun _=>0) (.slice none 0 0) (.slice D.aM D.m D.cM))) 29 Wn.heap.size (dJ (fun _=>0) (.slice none 0 0) (.slice D.aM D.m D.cM))/\Below Wn.heap.size Wn ((Wn.alloc (.cells (zC 29) 29)).setRow Wn.heap.size (dJ (fun _=>0) (.slice none 0 0) (.slice D.aM D.m D.cM)))):=⟨ij.setRow,kZ k5 (le_refl _) _⟩
 clear k5 ij;go_upto_region 2 with (first
  | (refine AH rfl 29 _ rfl #[(2,.slice D.aM D.m D.cM)] (by first|rfl|kernel_rfl|(go_simp;done)) (.agg (dJ (fun _=>0) (.slice none 0 0) (.slice D.aM D.m D.cM))) (zjW D.aM D.m D.cM _) ?_)
  | (refine og rfl 29 rfl (zC 29) (lN _) ?_)
  | (refine lO rfl 29 _ _ rfl Wn.heap.size 29 (zC 29) (dJ (fun _=>0) (.slice none 0 0) (.slice D.aM D.m D.cM)) rfl rfl jq.out (by rw[ia,mY]) (by rw[fH,mY]) (yj _ _ _ _ _ _ _) ?_))
 simp only[put,sA];clear f2;obtain⟨b4,fp⟩:∃b4,Wn.heap.size=b4:=⟨_,rfl⟩
 have Fk:=hid fp;rw[fp] at j8;rw[fp];generalize (Wn.alloc (.cells (zC 29) 29)).setRow b4 (dJ (fun _=>0) (.slice none 0 0) (.slice D.aM D.m D.cM))=W4 at j8⊢;clear fp jq;have uX:=hid (H0.out.1.ab (show Below Wn.heap.size Wn W4 by rw[Fk.out];exact j8.out.2));have Vc:=hid (zfQ D C HB.out.2.2.1 W4 uX.out.dm);go_wp2_with (refine js (by rfl) 29 _ rfl ⟨b0,0,none⟩ rfl D.cD _ uX.out.st.part underlying29 rfl uX.out.dm.info ?_);refine Vc.out.mono ?_;rintro e w5 ⟨aC,cC,rfl,jz,b5⟩;obtain⟨gC,rfl,RU,Qo,TJ⟩:=eC jz (show 0<C by have:=HB.out.2.2.1.il Hk8.out;omega);have k6:=al w5 (.map #[] 0);have Xh:dV (w5.alloc (.map #[] 0)) 9 w5.heap.size 0 (Na []):=dV.made _ _ _ (fun x y h=>by
  obtain⟨k,s,h1,_⟩:=h
  simp at h1)
 have Ob:Hid (qv Wn D C w5.heap.size b4 (.slice (some ⟨gC,0,none⟩) C cC) 0 (.slice none 0 0) [] (fun _=>0) (w5.alloc (.map #[] 0))):=by
  have fq:b4<=W4.heap.size:=by have:=j8.out.2.size;have:=Fk.out;omega
  have jv:=b5.size;have Sl:=Fk.out;have hbA:Below Wn.heap.size Wn w5:=(show Below Wn.heap.size Wn W4 by rw[Fk.out];exact j8.out.2).trans (b5.mono (by omega));refine⟨hbA.trans (k6.mono (by omega)),Xh,World.ownsRow_nil _ _ _ _,rfl,?_,gn (db jz k6) (by omega),fun i hi=>absurd hi (by omega),fD.zero _,by omega,by omega,by simp⟩;have:=(j8.out.1.ab b5).ab k6;have e:(fun j=>if j<0 then (fun _=>0:Nat->Nat) j else 0)=fun _=>0:=by funext j;simp
  rw[e];exact this
 have Km:=hid ((uX.out.ab b5).ab k6);clear jz b5 RU Qo TJ k6 Xh Vc;go_upto_region 5 with fail;obtain⟨bM,oo⟩:∃bM,w5.heap.size=bM:=⟨_,rfl⟩
 rw[oo] at Ob
 try rw[oo]
 generalize w5.alloc (.map #[] 0)=W6 at Ob Km⊢;clear oo;have dO:=vX D.K;go_wp2_with (refine p5 rfl 25 _ rfl ⟨b0,0,none⟩ rfl (aU D.K) (.array 256 5) Km.out.dL underlying25 rfl dO ?_);go_loopw [6,7,8,9,10,11,22] (fun v6 _ _ _ _ _ vk wr=>∃(k m:Nat) (a6:Option Addr) (c6:Nat),v6=.slice a6 m c6/\vk=.int .i64 k/\k<=256/\m<=k/\Hid (∃nm g,nm.length=m/\qv Wn D C bM b4 (.slice (some ⟨gC,0,none⟩) C cC) k v6 nm g wr)) (fun _ _ _ _ _ _ v _=>256-(intOf v).toNat)
 ·exact⟨0,0,none,0,rfl,rfl,by omega,by omega,_,_,rfl,Ob.out⟩
 clear Ob;obtain⟨k,m,a6,c6,rfl,rfl,hk,fJ,HL⟩:=hrel;by_cases dE:k<256
 ·obtain⟨nm,g,kh,hM⟩:=HL.out;have HM:=hid hM;have Lv:=hid kh;have i2:(k:Int)<256:=by omega
  have hv:=Ec D.K k dE;have Ai:=Mr 25 5 256 (aU D.K) k _ underlying25 dE (by kernel_rfl) ⟨_,underlying5,rfl⟩ hv wr;have tO:=Hk8.out k dE;have Rw:=HB.out.2.2.1.c.1 k dE;obtain⟨gX,Dx,Kw,KX,Cf⟩:=eC hM.Ck (by omega);have dB:=(Cf (D.K k) (by omega)).1;have Ow:gX=gC:=by injection Dx with Dx;injection Dx with Dx _;exact Dx.symm
  rw[Ow] at dB;have hcv:((range C).map (rV D))[D.K k]?=some (.string (cS D (D.K k))):=by simp[Rw];rfl
  rw[hcv] at dB;have dc:(cS D (D.K k)).size<=1000000:=by rw[zqJ];omega
  have xx:=hM.look (cS D (D.K k)) dc;have hlen:=hM.map.len (ty:=3) (t:=128) (by rw[underlying128];rfl);rw[kh] at hlen;have hw8:IntKind.u8.wrap (m:Int)=m:=by simp[wrap,IntKind.bits,signed];omega
  have z1:=hM.st.at_ k;have z2:=hM.st.bb k;rw[Af _ _ _ k dE] at z1;rcases xx with ⟨b,hb,cy⟩|⟨hb,cy⟩
  ·have HF:Hid (∃nm g,nm.length=m/\qv Wn D C bM b4 (.slice (some ⟨gC,0,none⟩) C cC) (k+1) (.slice a6 m c6) nm g (wr.setCell ⟨b4,k,none⟩ (.int .u8 (b:Int)))):=by
    obtain⟨g',zA⟩:=hM.jG HB.out.2.2.1 dE hb;exact⟨nm,g',kh,zA⟩
   clear hM hb hlen hw8 Dx Kw KX Cf hcv kh HM Lv dc HL;obtain⟨y,hy⟩:∃y,D.K k=y:=(⟨_,rfl⟩);obtain⟨s,hs⟩:∃s,cS D y=s:=(⟨_,rfl⟩);rw[hy] at hv Ai tO Rw dB cy;rw[hs] at dB cy;clear hy hs;go_wp2;go_roundw
   ·exact⟨k+1,m,a6,c6,rfl,by go_num,by omega,by omega,HF.out⟩
   simp[intOf];omega
  have ma:nm.length<maxLen:=by unfold maxLen;omega
  obtain⟨w1,wF,jd,l7⟩:=hM.put (cS D (D.K k)) dc ma hb;rw[kh] at wF;have A4:=wV hM.kept hM.map.ex.of l7;rw[kh] at A4;have Ui:=(hM.aP.grown l7 hM.aP.size (fun g e=>by injection e with e;rw[<-e];exact hM.Ln)).size;have oW:=hid (hM.st.ee hM.map.ex.of l7);have Uj:Hid (∀(w2 w3:World) (Gc:Value),Below w1.heap.size w1 w2->w2.grownBy w3 (Value.slice a6 m c6).ownBlock->w3.ownsRow Wn.heap.size 3 1 Gc (m+1) (cY ((bH g k).map D.K)++[.int .i64 (D.K k)])->∃nm g,nm.length=m+1/\qv Wn D C bM b4 (.slice (some ⟨gC,0,none⟩) C cC) (k+1) Gc nm g (w3.setCell ⟨b4,k,none⟩ (.int .u8 (m:Int)))):=fun w2 w3 Gc h1 h2 h3=>by
   obtain⟨g',zA⟩:=hM.fresh HB.out.2.2.1 dE hb jd l7 h1 h2 (by rw[kh];exact h3);rw[kh] at zA;exact⟨_,g',by simp[kh],zA⟩
  clear hM hb Dx Kw KX Cf hcv kh HM Lv dc HL jd l7 z1 z2 ma;obtain⟨y,hy⟩:∃y,D.K k=y:=⟨_,rfl⟩
  obtain⟨s,hs⟩:∃s,cS D y=s:=⟨_,rfl⟩
  rw[hy] at hv Ai tO Rw dB cy wF Uj;rw[hs] at dB cy wF;clear hy hs;obtain⟨l9,yN⟩:∃l9,cY ((bH g k).map D.K)=l9:=⟨_,rfl⟩
  rw[yN] at A4 Uj;clear yN;go_wp2_with (at_builtin;refine wpList_append_own_at _ rfl _ _ 27 rfl Wn.heap.size 3 iI (.int .i64 0) 1 8 underlying27 hI se sD sx rfl (by decide) _ _ _ rfl (A4.alloc _) ⟨w1.heap.size,0,none⟩ 1 1 [.int .i64 (y:Int)] rfl rfl (cell_one_new _ _ _) ?d2 ?d3 ?d4 ?d5 ?_)
  case d2=>first|(intro u hu;simp at hu;subst hu;rfl)|rfl
  case d3=>unfold maxLen;omega
  case d4=>omega
  case d5=>first|(simp;omega)|omega
  intro v' w5 ah ag _ bJ;obtain⟨a7,c7,rfl⟩:=bP ah;have k9:=al w1 (.cells #[.int .i64 (y:Int)] 3);have HF:=hid (Uj.out _ w5 (.slice a7 (m+1) c7) k9 ag ah);have Z1:=hid ((oW.out.ab k9).ae (db A4 k9) (by decide) ag);have z1:=Z1.out.at_ k;have z2:=Z1.out.bb k;rw[Af _ _ _ k dE] at z1;clear ah ag bJ A4 k9;go_wp2;go_roundw
  ·exact⟨k+1,m+1,a7,c7,rfl,by go_num,by omega,by omega,HF.out⟩
  simp[intOf];omega
 obtain rfl:k=256:=by omega
 obtain⟨nm,g,kh,hM⟩:=HL.out;have zP:=hM.num;rw[kh] at zP;have rh:=hM.done (ws:=fun _=>.slice none 0 0) kh;obtain⟨l,hl⟩:∃l,(bH g 256).map D.K=l:=⟨_,rfl⟩
 obtain⟨Kf,Ue⟩:∃Kf:Nat->Nat,(fun j=>if j<256 then g j else 0)=Kf:=⟨_,rfl⟩
 have AA:=ξ zP hl Ue;rw[hl,Ue] at rh;have j8:Hid (tE Wn D b4 m Kf (.slice none 0 0) (nR D l 0) (fun _=>.slice none 0 0) (.slice a6 m c6) l wr):=rh;have Hl:Hid (l.length=m/\∀x∈l,x<C):=by
  refine⟨by rw[<-hl,length_map,zP.iv],fun x hx=>?_⟩;rw[<-hl] at hx;obtain⟨j,hj,rfl⟩:=List.mem_map.1 hx;exact HB.out.2.2.1.c.1 j (Mt g 256 j hj)
 have TB:=hid (H0.out.1.ab hM.aP);have f1:=TB.out.f1;obtain⟨gN,oN,eN,ky,pO⟩:=H0.out.1.dm.rN (by omega);rw[eN] at f1;have sw:=hid pO;have Hg:=hid ky;clear eN pO ky zP rh hl Ue hM HL kh;go_wp2_with fail;clear f1;rw[show ((256:Nat):Int)=256 from rfl];go_loopw [13,57] (fun _ v wr=>∃(i:Nat) (ws:Nat->Value) (aN:Option Addr) (cN:Nat),v=.int .i64 i/\i<=D.n/\Hid (tE Wn D b4 m Kf (.slice aN i cN) (nR D l i) ws (.slice a6 m c6) l wr)) (fun _ v _=>D.n-(intOf v).toNat)
 ·exact⟨0,_,none,0,rfl,by omega,j8⟩
 clear j8;obtain⟨i,ws,aN,cN,rfl,hi,HT⟩:=hrel;have mL:Hid ((nR D l i).length=i):=zpO D l i;by_cases aq:i<D.n
 ·have i1:(i:Int)<(D.n:Int):=by omega
  have hlen:=HB.out.2.2.1.len i aq;have qB:=(HT.out.aP.cell (p:=⟨gN,oN+i,none⟩) Hg.out).trans (sw.out i aq).1;have zN:=(sw.out i aq).2;rw[hlen] at qB zN
  try dsimp only at qB
  have xM:Hid (kY wr.drew (D.A i) C (D.nx i)):=(zN.below HT.out.aP).below (Below.refl _ _).drew;clear hlen zN;go_upto_region 19 with fail;clear qB;refine wp_region_held_drew (S:=fun W'=>Below Wn.heap.size Wn W') (by kernel_rfl) HT.out.aP.drew fun η=>?_;have HT:Hid (tE Wn D b4 m Kf (.slice aN i cN) (nR D l i) ws (.slice a6 m c6) l wr.drew):=HT.out.ab (Below.refl _ _).drew
  (refine an 0 ?_;refine an 2 ?_;refine an 3 ?_;try simp only[put,sA])
  ·refine wpAnyH_ready (rs:=[1,4]) (by kernel_rfl) (by simp) (hJ (fun K hK=>?_) (hJ (fun K hK=>?_) AllReadyH.nil))
   skip;have f1:=HT.out.f1;go_simp;refine hK.out _ _ (η) fun η=>?_;clear hK K
   try simp only[put,sA]
   clear f1;refine bc 4 (fun K hK=>?_);skip;have iR:=(HT.out.next.lt).2;have jT:=lZ HT.out.kept;have G5:=sZ HT.out.kept Hl.out.1;have I0:=xM.out;skip;go_simp;go_at_call 79;refine (XK (D.nx i) C l m Hl.out.1 (by omega) (by omega) Hl.out.2 (D.A i) a6 (D.Cp i) c6 _ I0 G5).mono ?_;rintro e w5 ⟨a5,c5,rfl,jz,b5⟩;have HU:Hid (w5.ownsRow Wn.heap.size 3 1 (.slice a5 m c5) m (ints (l.map (D.nx i)))/\(∀j,j<(nR D l i).length->∀b,(ws j).ownBlock=some b->(Value.slice a5 m c5).ownBlock≠some b)/\∀b,(Value.slice a5 m c5).ownBlock=some b->(Value.slice a6 m c6).ownBlock≠some b):=by
    have jK:=kL jz;refine⟨?_,fun j hj b e1 e2=>?_,fun b e1 e2=>?_⟩
    ·exact gn jz HT.out.aP.size
    ·have h1:=iR j hj b e1;have h2:=jK b e2
     try simp only[k8] at h1
     try simp only[k8] at h2
     omega
    have h1:=jT b e2;have h2:=jK b e1
    try simp only[k8] at h1
    try simp only[k8] at h2
    omega
   have HT:=hid (HT.out.ab b5);clear jz b5 iR jT G5 I0
   try go_wp2_with fail
   refine hK.out _ _ (HT.out.aP) fun η=>?_;clear hK K
   try simp only[put,sA]
   refine bc 5 (fun K hK=>?_);skip;go_simp;have kk:=al w5 (.cells #[.slice a5 m c5] 27);have HN:Hid (∀j u,[Value.slice a5 m c5][j]?=some u->(w5.alloc (.cells #[.slice a5 m c5] 27)).cell? ((⟨w5.heap.size,0,none⟩:Addr).add j)=some u):=cell_one_new _ _ _;have HT:=hid (HT.out.ab kk);have HU:=ζ (db HU.out.1 kk) HU.out.2;refine hK.out _ _ (HT.out.aP) fun η=>?_;clear hK K
   try simp only[put,sA]
   clear kk;generalize w5.alloc (.cells #[.slice a5 m c5] 27)=V5 at HN HT HU η⊢;refine bc 6 (fun K hK=>?_);skip;have hO:=(HT.out.next.own);rw[mL.out] at hO;refine si (by rfl) _ _ _ (by rfl) Wn.heap.size 27 iV (.slice none 0 0) 1 24 underlying26 hV vb va vD (by rfl) (by decide) _ i ((range i).map ws) (by rfl) hO ⟨w5.heap.size,0,none⟩ 1 1 [.slice a5 m c5] (by rfl) (by rfl) HN.out (by intro u hu;simp at hu;subst hu;rfl) (by unfold maxLen;omega) (by omega) HT.out.aP.size ?_;intro v6 w6 aj af;obtain⟨a7,c7,rfl⟩:=bP aj;have jJ:=hid (HT.out.gJ (u:=.slice a5 m c5) (vN':=.slice a7 (i+1) c7) HU.out.1 HU.out.2.1 HU.out.2.2 mL.out aj af);have h9:=(HT.out.st.ae HT.out.next.own (by decide) af);have z2:w6.cell? ⟨b4,256,none⟩=some (.slice aN i cN):=(by rw[h9.at_,qu]);have z3:w6.frozen? ⟨b4,256,none⟩=false:=h9.bb 256;have eU:=(fL HT.out.aP HT.out.next.own HT.out.aP.size af);clear aj af h9 hO;refine hK.out _ _ (eU) fun η=>?_;clear hK K
   rotate_left
   skip;have iR:=(HT.out.next.lt).2;have jT:=lZ HT.out.kept;have G5:=sZ HT.out.kept Hl.out.1;have I0:=xM.out;skip;go_simp;go_at_call 79;refine (XK (D.nx i) C l m Hl.out.1 (by omega) (by omega) Hl.out.2 (D.A i) a6 (D.Cp i) c6 _ I0 G5).mono ?_;rintro e w5 ⟨a5,c5,rfl,jz,b5⟩;have HU:Hid (w5.ownsRow Wn.heap.size 3 1 (.slice a5 m c5) m (ints (l.map (D.nx i)))/\(∀j,j<(nR D l i).length->∀b,(ws j).ownBlock=some b->(Value.slice a5 m c5).ownBlock≠some b)/\∀b,(Value.slice a5 m c5).ownBlock=some b->(Value.slice a6 m c6).ownBlock≠some b):=by
    have jK:=kL jz;refine⟨?_,fun j hj b e1 e2=>?_,fun b e1 e2=>?_⟩
    ·exact gn jz HT.out.aP.size
    ·have h1:=iR j hj b e1;have h2:=jK b e2
     try simp only[k8] at h1
     try simp only[k8] at h2
     omega
    have h1:=jT b e2;have h2:=jK b e1
    try simp only[k8] at h1
    try simp only[k8] at h2
    omega
   have HT:=hid (HT.out.ab b5);clear jz b5 iR jT G5 I0
   try go_wp2_with fail
   refine hK.out _ _ (HT.out.aP) fun η=>?_;clear hK K
   try simp only[put,sA]
   refine wpAnyH_ready (rs:=[1,5]) (by kernel_rfl) (by simp) (hJ (fun K hK=>?_) (hJ (fun K hK=>?_) AllReadyH.nil))
   skip;have f1:=HT.out.f1;go_simp;refine hK.out _ _ (η) fun η=>?_;clear hK K
   try simp only[put,sA]
   clear f1;refine bc 5 (fun K hK=>?_);skip;go_simp;have kk:=al w5 (.cells #[.slice a5 m c5] 27);have HN:Hid (∀j u,[Value.slice a5 m c5][j]?=some u->(w5.alloc (.cells #[.slice a5 m c5] 27)).cell? ((⟨w5.heap.size,0,none⟩:Addr).add j)=some u):=cell_one_new _ _ _;have HT:=hid (HT.out.ab kk);have HU:=ζ (db HU.out.1 kk) HU.out.2;refine hK.out _ _ (HT.out.aP) fun η=>?_;clear hK K
   try simp only[put,sA]
   clear kk;generalize w5.alloc (.cells #[.slice a5 m c5] 27)=V5 at HN HT HU η⊢;refine bc 6 (fun K hK=>?_);skip;have hO:=(HT.out.next.own);rw[mL.out] at hO;refine si (by rfl) _ _ _ (by rfl) Wn.heap.size 27 iV (.slice none 0 0) 1 24 underlying26 hV vb va vD (by rfl) (by decide) _ i ((range i).map ws) (by rfl) hO ⟨w5.heap.size,0,none⟩ 1 1 [.slice a5 m c5] (by rfl) (by rfl) HN.out (by intro u hu;simp at hu;subst hu;rfl) (by unfold maxLen;omega) (by omega) HT.out.aP.size ?_;intro v6 w6 aj af;obtain⟨a7,c7,rfl⟩:=bP aj;have jJ:=hid (HT.out.gJ (u:=.slice a5 m c5) (vN':=.slice a7 (i+1) c7) HU.out.1 HU.out.2.1 HU.out.2.2 mL.out aj af);have h9:=(HT.out.st.ae HT.out.next.own (by decide) af);have z2:w6.cell? ⟨b4,256,none⟩=some (.slice aN i cN):=(by rw[h9.at_,qu]);have z3:w6.frozen? ⟨b4,256,none⟩=false:=h9.bb 256;have eU:=(fL HT.out.aP HT.out.next.own HT.out.aP.size af);clear aj af h9 hO;refine hK.out _ _ (eU) fun η=>?_;clear hK K
   rotate_left
   skip;go_simp;have kk:=al w5 (.cells #[.slice a5 m c5] 27);have HN:Hid (∀j u,[Value.slice a5 m c5][j]?=some u->(w5.alloc (.cells #[.slice a5 m c5] 27)).cell? ((⟨w5.heap.size,0,none⟩:Addr).add j)=some u):=cell_one_new _ _ _;have HT:=hid (HT.out.ab kk);have HU:=ζ (db HU.out.1 kk) HU.out.2;refine hK.out _ _ (HT.out.aP) fun η=>?_;clear hK K
   try simp only[put,sA]
   clear kk;generalize w5.alloc (.cells #[.slice a5 m c5] 27)=V5 at HN HT HU η⊢;refine bc 1 (fun K hK=>?_);skip;have f1:=HT.out.f1;go_simp;refine hK.out _ _ (η) fun η=>?_;clear hK K
   try simp only[put,sA]
   clear f1;refine bc 6 (fun K hK=>?_);skip;have hO:=(HT.out.next.own);rw[mL.out] at hO;refine si (by rfl) _ _ _ (by rfl) Wn.heap.size 27 iV (.slice none 0 0) 1 24 underlying26 hV vb va vD (by rfl) (by decide) _ i ((range i).map ws) (by rfl) hO ⟨w5.heap.size,0,none⟩ 1 1 [.slice a5 m c5] (by rfl) (by rfl) HN.out (by intro u hu;simp at hu;subst hu;rfl) (by unfold maxLen;omega) (by omega) HT.out.aP.size ?_;intro v6 w6 aj af;obtain⟨a7,c7,rfl⟩:=bP aj;have jJ:=hid (HT.out.gJ (u:=.slice a5 m c5) (vN':=.slice a7 (i+1) c7) HU.out.1 HU.out.2.1 HU.out.2.2 mL.out aj af);have h9:=(HT.out.st.ae HT.out.next.own (by decide) af);have z2:w6.cell? ⟨b4,256,none⟩=some (.slice aN i cN):=(by rw[h9.at_,qu]);have z3:w6.frozen? ⟨b4,256,none⟩=false:=h9.bb 256;have eU:=(fL HT.out.aP HT.out.next.own HT.out.aP.size af);clear aj af h9 hO;refine hK.out _ _ (eU) fun η=>?_;clear hK K
   rotate_left
   all_goals
    try simp only[put,sA]
    (refine an 7 ?_;try simp only[put,sA])
    refine bc 8 (fun K hK=>?_);skip;go_simp;refine hK.out _ _ (jJ.out.aP) fun η=>?_;clear hK K
    try simp only[put,sA]
    refine wpAnyH_done (by kernel_rfl) ?_ _;rw[<-PB] at jJ;clear η z2 z3 eU;go_wp2;go_roundw
    ·exact⟨i+1,_,a7,c7,by go_num,by omega,jJ⟩
    simp[intOf];omega
 obtain rfl:i=D.n:=by omega
 have SN:=hid HT.out;have jq:=hid HT.out.st;have gd:=hid (H0.out.2.1.ab HT.out.aP);have hd:=mY Kf (.slice aN D.n cN) (.slice D.aM D.m D.cM);have FZ:Hid (w.heap.size<=Wn.heap.size):=by have:=H0.out.2.2.size;have:=Hb.out.1;show _<=_;omega
 have Bi:Hid (Below w.heap.size w (wr.setRow b2 (dJ Kf (.slice aN D.n cN) (.slice D.aM D.m D.cM)))):=
  kZ ((show Below w.heap.size w Wn by rw[Hb.out.1];exact H0.out.2.2).trans (HT.out.aP.mono FZ.out)) (by have:=Hb.out;omega) _
 have HF:Hid (Sm D w (.returned (.agg (dJ Kf (.slice aN D.n cN) (.slice D.aM D.m D.cM)))) (wr.setRow b2 (dJ Kf (.slice aN D.n cN) (.slice D.aM D.m D.cM)))):=by
  obtain⟨h1,h2,h3⟩:=AA.out;have hT:=SN.out;rw[<-h3] at hT Bi⊢;rw[<-h2] at hT;exact hT.fin HB.out.2.2.2 HB.out.2.2.1 h1 gd.out rfl Bi.out
 clear HT;go_wp2_with (first|(refine p5 rfl 29 _ rfl ⟨b4,0,none⟩ rfl (dJ Kf (.slice aN D.n cN) (.slice D.aM D.m D.cM)) _ jq.out.part underlying29 rfl (by rw[fH,hd]) ?_)|(refine lO rfl 29 _ _ rfl b2 29 (zC 29) (dJ Kf (.slice aN D.n cN) (.slice D.aM D.m D.cM)) rfl rfl gd.out (by rw[ia,hd]) (by rw[fH,hd]) (yj _ _ _ _ _ _ _) ?_));refine bodyPost_ret (results_cell_row rfl _ _ b2 29 (dJ Kf (.slice aN D.n cN) (.slice D.aM D.m D.cM)) (0,0) _ rfl gd.out.setRow underlying29 rfl (by rw[fH,hd])) rfl ?_;exact HF.out
theorem zqK(h:(zC 29)[i]?=some v):v=.int .u8 0\/v=.slice none 0 0:=by
 have hz:=ia;by_cases a:i<256
 ·rw[YX i a] at h;exact inl (Option.some.inj h).symm
 by_cases b:i=256
 ·subst b;rw[DI.1] at h;exact inr (Option.some.inj h).symm
 by_cases c:i=257
 ·subst c;rw[DI.2] at h;exact inr (Option.some.inj h).symm
 rw[Array.getElem?_eq_none (by omega)] at h;cases h
theorem DM.QI{b:Nat}(hR:DR D C)(h:DM w D)(hs:St w 29 b (zC 29))(cs:Array Value):DM (w.setRow b cs) D:=by
 have hk:=J1 w b cs;have dc:(w.setRow b cs).heap.size=w.heap.size:=setRow_size _ _ _;have hC:=(hR.il h.kl).1;have key:∀{g i:Nat}{v:Value},g<w.heap.size->w.cell? ⟨g,i,none⟩=some v->v≠.int .u8 0->v≠.slice none 0 0->(w.setRow b cs).cell? ⟨g,i,none⟩=some v:=fun {g i v} hg hc h1 h2=>by
  have hgb:g≠b:=fun e=>by
   subst e;rw[hs.at_] at hc;rcases zqK hc with e|e
   ·exact h1 e
   exact h2 e
  rw[hk.nE (g:=g) (i:=i) (by simpa using hgb) hg];exact hc
 refine⟨h.sz,h.one,h.cl,h.kl,h.fN,h.fM,fun h0=>?_,fun h0=>?_⟩
 ·obtain⟨g,off,e,hg,hc⟩:=h.rN h0;refine⟨g,off,e,by rw[dc];exact hg,fun i hi=>⟨key hg (hc i hi).1 (fun e=>by cases e) (fun e=>by
   injection e with _ e _
   have:=hR.len i hi
   omega),fun h1=>?_⟩⟩
  obtain⟨g',kJ,e',zA,hc'⟩:=(hc i hi).2 h1;exact⟨g',kJ,e',by rw[dc];exact zA,fun j hj=>key zA (hc' j hj) (fun e=>by cases e) (fun e=>by cases e)⟩
 obtain⟨g,off,e,hg,hc⟩:=h.rM h0;exact⟨g,off,e,by rw[dc];exact hg,fun j hj=>key hg (hc j hj) (fun e=>by cases e) (fun e=>by cases e)⟩
theorem bg.stored{b:Nat}(hR:DR D C)(hD:DM w D)(h:St w 29 b (zC 29)):bg (w.setRow b D.cD) b D:=⟨h.setRow,hD.QI hR h _⟩
def wB(O P:Dd)(C C':Nat):Prop:=∃(f:Nat->Nat) (B:Nat) (M:Dd) (g:Nat->Nat),fD (jH C (tD O) (mD O)) O.n f B/\qU O C f B M/\fD (iD M M.n) 256 g C'/\sK M g C' P
theorem wB.right(hR:DR O C)(h:wB O P C C'):DR P C':=by
 obtain⟨f,B,M,g,h1,h2,h3,h4⟩:=h;exact h4.right (h2.right hR h1) h3
theorem wB.le(h:wB O P C C'):P.n<=O.n:=by
 obtain⟨f,B,M,g,h1,h2,h3,h4⟩:=h;have e:=h4.n;have e2:M.n=B:=h2.2.1;have e3:=h1.iv;have e4:=ZQ f O.n;omega
theorem wB.mn{X:Dd}(hR:DR O C)(hO:oH O)(hT:wG O C)(h:wB O P C C')(hl:l=dw (av P.len P.nx) [0] k)(dE:l.length=k)(sh:k<=P.n)(hX:pJ P C' k (jg P l) (fun i=>P.q (l.getD i 0)) X):Mn X C'/\eK X 0 O 0:=by
 obtain⟨f,B,M,g,h1,h2,h3,h4⟩:=h;exact Mn.made hR hO hT h1 h2 h3 h4 hl dE sh hX
structure TC (D O:Dd)(C:Nat):Prop where
 r:DR O C
 ord:oH O
 A5:wG O C
 yu:eK O 0 D 0
 le:O.n<=D.n
theorem TC.made{T:Dd}(hR:DR D C)(hT:pJ D C D.n (oj D) D.q T)(hl:l=dw (av T.len T.nx) [0] k)(dE:l.length=k)(sh:k<=T.n)(hO:pJ T C k (jg T l) (fun i=>T.q (l.getD i 0)) O):TC D O C:=by
 have M6:=hT.kE hR;have hTT:=hT.xZ hR;have hn:=hR.n1;have h1:=Qx (D:=T) (k:=k) (by rw[<-hl];exact dE);rw[<-hl] at h1;have hb:=hO.qh M6 hl dE (i:=0) (by omega);rw[h1.2] at hb;refine⟨?_,hO.Ju M6 hl dE,hO.uc M6 hTT hl dE,hb.trans (hT.rW hR (by omega)),by have h3:=hO.2.1;have h4:=hT.2.1;omega⟩;subst hl;exact hO.pG M6 dE sh
def zoR(D:Dd)(w:World)(e:Ending)(w':World):Prop:=∃(X:Dd) (C':Nat),e=.returned (.tuple #[.agg X.cD,.int .i64 0])/\DM w' X/\Mn X C'/\eK X 0 D 0/\X.n<=D.n/\Below w.heap.size w w'
theorem Vo(D:Dd)(C:Nat)(hR:DR D C)(w:World)(hD:DM w D):Calls prog 23 #[.agg D.cD] w (zoR D w):=by
 have HB:=ξ (bg.new hD) (al w (.cells D.cD 29)) hR;clear hD hR;go_in;go_upto_region 1 with (refine og rfl 29 rfl (zC 29) (lN _) ?_)
 try simp only[put,List.setIfInBounds_toArray,set_cons_zero,set_cons_succ,Hc]
 have H0:Hid (bg ((w.alloc (.cells D.cD 29)).alloc (.cells (zC 29) 29)) w.heap.size D/\St ((w.alloc (.cells D.cD 29)).alloc (.cells (zC 29) 29)) 29 (w.heap.size+1) (zC 29)/\Below w.heap.size w ((w.alloc (.cells D.cD 29)).alloc (.cells (zC 29) 29))):=by
  refine⟨HB.out.1.ab (al _ _),?_,HB.out.2.1.trans ((al _ _).mono (by simp))⟩;have:=St.new (w.alloc (.cells D.cD 29)) 29 (zC 29);simpa using this
 generalize (w.alloc (.cells D.cD 29)).alloc (.cells (zC 29) 29)=Wb at H0⊢;obtain⟨b2,cv⟩:∃b2,w.heap.size+1=b2:=⟨_,rfl⟩
 obtain⟨b0,ay⟩:∃b0,w.heap.size=b0:=⟨_,rfl⟩
 rw[cv,ay] at H0;rw[cv,ay];have Hb:=ζ ay cv;clear cv ay;have rO:=hid (Fv D C HB.out.2.2 Wb H0.out.1.dm);go_wp2_with (refine js (by rfl) 29 _ rfl ⟨b0,0,none⟩ rfl D.cD _ H0.out.1.st.part underlying29 rfl H0.out.1.dm.info ?_);refine rO.out.mono ?_;rintro e wy ⟨rfl,so⟩;have rY:Hid (bg wy b0 D/\St wy 29 b2 (zC 29)/\Below b0 w wy/\b0<=wy.heap.size):=⟨H0.out.1.ab so,H0.out.2.1.ab so,H0.out.2.2.trans (so.mono (by have:=H0.out.2.2.size;have:=Hb.out.1;omega)),by have:=H0.out.2.2.size;have:=so.size;have:=Hb.out.1;omega⟩
 have zw:=hid (zoB D C wy rY.out.1.dm HB.out.2.2);clear so rO;go_wp2_with (refine js (by rfl) 29 _ rfl ⟨b0,0,none⟩ rfl D.cD _ rY.out.1.st.part underlying29 rfl rY.out.1.dm.info ?_);refine zw.out.mono ?_;rintro e wT ⟨T,rfl,X5,t1,t2,t3,t4,t5,t6,bT,_⟩;have HT:=ζ X5 (show pJ D C D.n (oj D) D.q T from ⟨t1,t2,t3,t4,t5,t6⟩);have H1:Hid (St wT 29 b2 (zC 29)/\Below b0 w wT/\b0<=wT.heap.size):=⟨rY.out.2.1.ab bT,rY.out.2.2.1.trans (bT.mono rY.out.2.2.2),by have:=rY.out.2.2.2;have:=bT.size;omega⟩
 obtain⟨k,dE,sh⟩:=ZS (HT.out.2.kE HB.out.2.2);have HOr:=hid (WR T C _ k rfl dE sh wT HT.out.1 (HT.out.2.kE HB.out.2.2));have Hlk:=ζ dE sh;clear X5 t1 t2 t3 t4 t5 t6 bT zw dE sh;go_wp2_with fail;refine HOr.out.mono ?_;rintro e wO ⟨O,rfl,Zo,t1,t2,t3,t4,t5,t6,bO,_⟩;have HO:=ζ Zo (TC.made HB.out.2.2 HT.out.2 rfl Hlk.out.1 Hlk.out.2 ⟨t1,t2,t3,t4,t5,t6⟩);have H2:Hid (St wO 29 b2 (zC 29)/\Below b0 w wO/\b0<=wO.heap.size):=⟨H1.out.1.ab bO,H1.out.2.1.trans (bO.mono H1.out.2.2),by have:=H1.out.2.2;have:=bO.size;omega⟩
 clear Zo t1 t2 t3 t4 t5 t6 bO HOr;have jq:=hid (St.new wO 29 (zC 29));have H3:Hid (bg ((wO.alloc (.cells (zC 29) 29)).setRow wO.heap.size O.cD) wO.heap.size O/\Below wO.heap.size wO ((wO.alloc (.cells (zC 29) 29)).setRow wO.heap.size O.cD)):=
  ⟨bg.stored HO.out.2.r (HO.out.1.below (al _ _)) (St.new _ _ _),kZ (al _ _) (le_refl _) _⟩
 go_upto_region 4 with (first
  | (refine og rfl 29 rfl (zC 29) (lN _) ?_)
  | (refine lO rfl 29 _ _ rfl wO.heap.size 29 (zC 29) O.cD rfl rfl jq.out (by rw[ia,HO.out.1.sz]) (by rw[fH,HO.out.1.sz]) HO.out.1.one ?_))
 simp only[put,sA];obtain⟨b4,fp⟩:∃b4,wO.heap.size=b4:=⟨_,rfl⟩
 rw[fp] at H3;rw[fp];generalize (wO.alloc (.cells (zC 29) 29)).setRow b4 O.cD=V at H3⊢;have H4:Hid (St V 29 b2 (zC 29)/\Below b0 w V/\b0<=V.heap.size):=by
  have h:=H3.out.2;have hs:=h.size;rw[<-fp] at h;exact⟨H2.out.1.ab h,H2.out.2.1.trans (h.mono H2.out.2.2),by have:=H2.out.2.2;omega⟩
 clear fp jq;have cZ:Hid (∀W',Below V.heap.size V W'->Below V.heap.size V W'/\bg W' b4 O):=fun W' h=>⟨h,H3.out.1.ab h⟩
 go_cut [5] from 13 to 17 (fun v wx=>∃(b5:Nat) (P:Dd) (C':Nat),v=.pointer (some ⟨b5,0,none⟩)/\bg wx b5 P/\wB O P C C'/\Below V.heap.size V wx)
 case first=>
  refine wp_region_held_drew (S:=fun W'=>Below V.heap.size V W'/\bg W' b4 O) (by kernel_rfl) (cZ.out _ (Below.refl _ _).drew) (fun η=>?_)
  (refine an 0 (v:=.agg O.cD) ?_ (hy:=by intro wz hSw;exact ob (o:=_) (ρ:=_) wz 29 (.tmp 4) rfl ⟨b4,0,none⟩ rfl O.cD _ (bg.st (And.right hSw)).part underlying29 rfl (bg.dm (And.right hSw)).info))
  (refine an 1 (v:=.agg O.cD) ?_ (hy:=by intro wz hSw;exact ob (o:=_) (ρ:=_) wz 29 (.tmp 4) rfl ⟨b4,0,none⟩ rfl O.cD _ (bg.st (And.right hSw)).part underlying29 rfl (bg.dm (And.right hSw)).info);try simp only[put,sA])
  refine wpAnyH_ready (rs:=[2,5]) (by kernel_rfl) (by simp) ?_;refine hJ (fun K hK=>?_) ?_
  ·skip;go_simp;go_at_call 45;refine (UN O C HO.out.2.r _ η.2.dm).mono ?_;rintro e w8 ⟨f,B,aB,cB,rfl,ho,JY,vv⟩;have bz:Below V.heap.size V w8:=η.1.trans (vv.mono η.1.size);have HK:=ζ (Ze ho) JY;clear ho JY vv
   try go_wp2_with fail
   refine hK.out _ _ (cZ.out _ bz) fun η=>?_;clear hK K
   try simp only[put,sA]
   clear bz;refine wpAnyH_ready (rs:=[3,5]) (by kernel_rfl) (by simp) ?_;refine hJ (fun K hK=>?_) ?_
   ·skip;go_simp;go_at_call 44;refine (PO O C HO.out.2.r _ f B HK.out.2 aB cB _ η.2.dm HK.out.1).mono ?_;rintro e w9 ⟨M,rfl,AX,t1,t2,t3,t4,t5,t6,vv,_⟩;have bz:Below V.heap.size V w9:=η.1.trans (vv.mono η.1.size);have oy:=ζ AX (show qU O C f B M from ⟨t1,t2,t3,t4,t5,t6⟩);clear AX t1 t2 t3 t4 t5 t6 vv
    try go_wp2_with fail
    refine hK.out _ _ (cZ.out _ bz) fun η=>?_;clear hK K
    try simp only[put,sA]
    clear bz;refine wpAnyH_ready (rs:=[4,5]) (by kernel_rfl) (by simp) ?_;refine hJ (fun K hK=>?_) ?_
    ·skip;go_simp;go_at_call 43;refine (N7 M C (oy.out.2.right HO.out.2.r HK.out.2) _ oy.out.1).mono ?_;rintro e qq ⟨P,g,C',rfl,yA,yv,tV,vv⟩;have bz:Below V.heap.size V qq:=η.1.trans (vv.mono η.1.size);have kF:=ζ yA (show wB O P C C' from ⟨f,B,M,g,HK.out.2,oy.out.2,yv,tV⟩);clear yA yv tV vv
     try go_wp2_with fail
     refine hK.out _ _ (cZ.out _ bz) fun η=>?_;clear hK K
     try simp only[put,sA]
     clear bz;refine bc 5 (fun K hK=>?_);skip;refine E7 (by rfl) 29 (by rfl) (zC 29) (lN _) ?_;have kk:=al qq (.cells (zC 29) 29);have bz:Below V.heap.size V (qq.alloc (.cells (zC 29) 29)):=η.1.trans (kk.mono η.1.size);have kF:=ζ (kF.out.1.below kk) kF.out.2;have H7:Hid (St (qq.alloc (.cells (zC 29) 29)) 29 qq.heap.size (zC 29)/\V.heap.size<=qq.heap.size):=(⟨St.new _ _ _,η.1.size⟩);refine hK.out _ _ (cZ.out _ bz) fun η=>?_;clear hK K
     try simp only[put,sA]
     try simp only[k8]
     clear kk;generalize (qq.alloc (.cells (zC 29) 29))=V7 at H7 kF η bz⊢;refine bc 6 (fun K hK=>?_);skip;refine FF (by rfl) 29 _ _ (by rfl) qq.heap.size 29 (zC 29) P.cD (by rfl) (by rfl) H7.out.1 (by rw[ia,kF.out.1.sz]) (by rw[fH,kF.out.1.sz]) kF.out.1.one ?_;have HE:=ξ (bg.stored (kF.out.2.right HO.out.2.r) kF.out.1 H7.out.1) kF.out.2 (kZ η.1 H7.out.2 P.cD);refine hK.out _ _ (cZ.out _ HE.out.2.2) fun η=>?_;clear hK K
     try simp only[put,sA]
     refine wpAnyH_done (by kernel_rfl) ?_ _;clear η;go_wp2_with fail
     go_meet
     exact⟨_,P,C',rfl,HE.out⟩
    refine hJ (fun K hK=>?_) ?_
    ·skip;refine E7 (by rfl) 29 (by rfl) (zC 29) (lN _) ?_;have kk:=al w9 (.cells (zC 29) 29);have bz:Below V.heap.size V (w9.alloc (.cells (zC 29) 29)):=η.1.trans (kk.mono η.1.size);have oy:=ζ (oy.out.1.below kk) oy.out.2;have H7:Hid (St (w9.alloc (.cells (zC 29) 29)) 29 w9.heap.size (zC 29)/\V.heap.size<=w9.heap.size):=(⟨St.new _ _ _,η.1.size⟩);refine hK.out _ _ (cZ.out _ bz) fun η=>?_;clear hK K
     try simp only[put,sA]
     try simp only[k8]
     clear kk;generalize (w9.alloc (.cells (zC 29) 29))=V7 at H7 oy η bz⊢;refine bc 4 (fun K hK=>?_);skip;go_simp;go_at_call 43;refine (N7 M C (oy.out.2.right HO.out.2.r HK.out.2) _ oy.out.1).mono ?_;rintro e qq ⟨P,g,C',rfl,yA,yv,tV,vv⟩;have H7:Hid (St qq 29 w9.heap.size (zC 29)/\V.heap.size<=w9.heap.size):=(⟨H7.out.1.ab vv,H7.out.2⟩);have bz:Below V.heap.size V qq:=η.1.trans (vv.mono η.1.size);have kF:=ζ yA (show wB O P C C' from ⟨f,B,M,g,HK.out.2,oy.out.2,yv,tV⟩);clear yA yv tV vv
     try go_wp2_with fail
     refine hK.out _ _ (cZ.out _ bz) fun η=>?_;clear hK K
     try simp only[put,sA]
     clear bz;refine bc 6 (fun K hK=>?_);skip;refine FF (by rfl) 29 _ _ (by rfl) w9.heap.size 29 (zC 29) P.cD (by rfl) (by rfl) H7.out.1 (by rw[ia,kF.out.1.sz]) (by rw[fH,kF.out.1.sz]) kF.out.1.one ?_;have HE:=ξ (bg.stored (kF.out.2.right HO.out.2.r) kF.out.1 H7.out.1) kF.out.2 (kZ η.1 H7.out.2 P.cD);refine hK.out _ _ (cZ.out _ HE.out.2.2) fun η=>?_;clear hK K
     try simp only[put,sA]
     refine wpAnyH_done (by kernel_rfl) ?_ _;clear η;go_wp2_with fail
     go_meet
     exact⟨_,P,C',rfl,HE.out⟩
    exact AllReadyH.nil
   refine hJ (fun K hK=>?_) ?_
   ·skip;refine E7 (by rfl) 29 (by rfl) (zC 29) (lN _) ?_;have kk:=al w8 (.cells (zC 29) 29);have bz:Below V.heap.size V (w8.alloc (.cells (zC 29) 29)):=η.1.trans (kk.mono η.1.size);have HK:=ζ (HK.out.1.below kk) HK.out.2;have H7:Hid (St (w8.alloc (.cells (zC 29) 29)) 29 w8.heap.size (zC 29)/\V.heap.size<=w8.heap.size):=(⟨St.new _ _ _,η.1.size⟩);refine hK.out _ _ (cZ.out _ bz) fun η=>?_;clear hK K
    try simp only[put,sA]
    try simp only[k8]
    clear kk;generalize (w8.alloc (.cells (zC 29) 29))=V7 at H7 HK η bz⊢;refine bc 3 (fun K hK=>?_);skip;go_simp;go_at_call 44;refine (PO O C HO.out.2.r _ f B HK.out.2 aB cB _ η.2.dm HK.out.1).mono ?_;rintro e w9 ⟨M,rfl,AX,t1,t2,t3,t4,t5,t6,vv,_⟩;have H7:Hid (St w9 29 w8.heap.size (zC 29)/\V.heap.size<=w8.heap.size):=(⟨H7.out.1.ab vv,H7.out.2⟩);have bz:Below V.heap.size V w9:=η.1.trans (vv.mono η.1.size);have oy:=ζ AX (show qU O C f B M from ⟨t1,t2,t3,t4,t5,t6⟩);clear AX t1 t2 t3 t4 t5 t6 vv
    try go_wp2_with fail
    refine hK.out _ _ (cZ.out _ bz) fun η=>?_;clear hK K
    try simp only[put,sA]
    clear bz;refine bc 4 (fun K hK=>?_);skip;go_simp;go_at_call 43;refine (N7 M C (oy.out.2.right HO.out.2.r HK.out.2) _ oy.out.1).mono ?_;rintro e qq ⟨P,g,C',rfl,yA,yv,tV,vv⟩;have H7:Hid (St qq 29 w8.heap.size (zC 29)/\V.heap.size<=w8.heap.size):=(⟨H7.out.1.ab vv,H7.out.2⟩);have bz:Below V.heap.size V qq:=η.1.trans (vv.mono η.1.size);have kF:=ζ yA (show wB O P C C' from ⟨f,B,M,g,HK.out.2,oy.out.2,yv,tV⟩);clear yA yv tV vv
    try go_wp2_with fail
    refine hK.out _ _ (cZ.out _ bz) fun η=>?_;clear hK K
    try simp only[put,sA]
    clear bz;refine bc 6 (fun K hK=>?_);skip;refine FF (by rfl) 29 _ _ (by rfl) w8.heap.size 29 (zC 29) P.cD (by rfl) (by rfl) H7.out.1 (by rw[ia,kF.out.1.sz]) (by rw[fH,kF.out.1.sz]) kF.out.1.one ?_;have HE:=ξ (bg.stored (kF.out.2.right HO.out.2.r) kF.out.1 H7.out.1) kF.out.2 (kZ η.1 H7.out.2 P.cD);refine hK.out _ _ (cZ.out _ HE.out.2.2) fun η=>?_;clear hK K
    try simp only[put,sA]
    refine wpAnyH_done (by kernel_rfl) ?_ _;clear η;go_wp2_with fail
    go_meet
    exact⟨_,P,C',rfl,HE.out⟩
   exact AllReadyH.nil
  refine hJ (fun K hK=>?_) ?_
  ·skip;refine E7 (by rfl) 29 (by rfl) (zC 29) (lN _) ?_;have kk:=al V.drew (.cells (zC 29) 29);have bz:Below V.heap.size V (V.drew.alloc (.cells (zC 29) 29)):=η.1.trans (kk.mono η.1.size);have H7:Hid (St (V.drew.alloc (.cells (zC 29) 29)) 29 V.heap.size (zC 29)/\V.heap.size<=V.heap.size):=(⟨St.new _ _ _,η.1.size⟩);refine hK.out _ _ (cZ.out _ bz) fun η=>?_;clear hK K
   try simp only[put,sA]
   try simp only[k8]
   clear kk;generalize (V.drew.alloc (.cells (zC 29) 29))=V7 at H7 η bz⊢;refine bc 2 (fun K hK=>?_);skip;go_simp;go_at_call 45;refine (UN O C HO.out.2.r _ η.2.dm).mono ?_;rintro e w8 ⟨f,B,aB,cB,rfl,ho,JY,vv⟩;have H7:Hid (St w8 29 V.heap.size (zC 29)/\V.heap.size<=V.heap.size):=(⟨H7.out.1.ab vv,H7.out.2⟩);have bz:Below V.heap.size V w8:=η.1.trans (vv.mono η.1.size);have HK:=ζ (Ze ho) JY;clear ho JY vv
   try go_wp2_with fail
   refine hK.out _ _ (cZ.out _ bz) fun η=>?_;clear hK K
   try simp only[put,sA]
   clear bz;refine bc 3 (fun K hK=>?_);skip;go_simp;go_at_call 44;refine (PO O C HO.out.2.r _ f B HK.out.2 aB cB _ η.2.dm HK.out.1).mono ?_;rintro e w9 ⟨M,rfl,AX,t1,t2,t3,t4,t5,t6,vv,_⟩;have H7:Hid (St w9 29 V.heap.size (zC 29)/\V.heap.size<=V.heap.size):=(⟨H7.out.1.ab vv,H7.out.2⟩);have bz:Below V.heap.size V w9:=η.1.trans (vv.mono η.1.size);have oy:=ζ AX (show qU O C f B M from ⟨t1,t2,t3,t4,t5,t6⟩);clear AX t1 t2 t3 t4 t5 t6 vv
   try go_wp2_with fail
   refine hK.out _ _ (cZ.out _ bz) fun η=>?_;clear hK K
   try simp only[put,sA]
   clear bz;refine bc 4 (fun K hK=>?_);skip;go_simp;go_at_call 43;refine (N7 M C (oy.out.2.right HO.out.2.r HK.out.2) _ oy.out.1).mono ?_;rintro e qq ⟨P,g,C',rfl,yA,yv,tV,vv⟩;have H7:Hid (St qq 29 V.heap.size (zC 29)/\V.heap.size<=V.heap.size):=(⟨H7.out.1.ab vv,H7.out.2⟩);have bz:Below V.heap.size V qq:=η.1.trans (vv.mono η.1.size);have kF:=ζ yA (show wB O P C C' from ⟨f,B,M,g,HK.out.2,oy.out.2,yv,tV⟩);clear yA yv tV vv
   try go_wp2_with fail
   refine hK.out _ _ (cZ.out _ bz) fun η=>?_;clear hK K
   try simp only[put,sA]
   clear bz;refine bc 6 (fun K hK=>?_);skip;refine FF (by rfl) 29 _ _ (by rfl) V.heap.size 29 (zC 29) P.cD (by rfl) (by rfl) H7.out.1 (by rw[ia,kF.out.1.sz]) (by rw[fH,kF.out.1.sz]) kF.out.1.one ?_;have HE:=ξ (bg.stored (kF.out.2.right HO.out.2.r) kF.out.1 H7.out.1) kF.out.2 (kZ η.1 H7.out.2 P.cD);refine hK.out _ _ (cZ.out _ HE.out.2.2) fun η=>?_;clear hK K
   try simp only[put,sA]
   refine wpAnyH_done (by kernel_rfl) ?_ _;clear η;go_wp2_with fail
   go_meet
   exact⟨_,P,C',rfl,HE.out⟩
  exact AllReadyH.nil
 case rest=>
  obtain⟨b5,P,C',rfl,LM,To,KZ⟩:=hcut;have HP:=ξ LM To KZ;have H5:Hid (St wc 29 b2 (zC 29)/\Below b0 w wc/\b0<=wc.heap.size):=⟨H4.out.1.ab KZ,H4.out.2.1.trans (KZ.mono H4.out.2.2),by have:=H4.out.2.2;have:=KZ.size;omega⟩
  obtain⟨k2,xx,Cu⟩:=ZS (HP.out.2.1.right HO.out.2.r);have HOr:=hid (WR P C' _ k2 rfl xx Cu wc HP.out.1.dm (HP.out.2.1.right HO.out.2.r));have CI:=ζ xx Cu;clear LM To KZ xx Cu;go_wp2_with (refine js (by rfl) 29 _ rfl ⟨b5,0,none⟩ rfl P.cD _ HP.out.1.st.part underlying29 rfl HP.out.1.dm.info ?_);refine HOr.out.mono ?_;rintro e wX ⟨X,rfl,xE,t1,t2,t3,t4,t5,t6,bX,_⟩;have HX:=hid (wB.mn HO.out.2.r HO.out.2.ord HO.out.2.A5 HP.out.2.1 rfl CI.out.1 CI.out.2 (X:=X) ⟨t1,t2,t3,t4,t5,t6⟩);have uz:=hid xE;have vd:Hid (X.n<=D.n):=by have h1:=HP.out.2.1.le;have h2:=HO.out.2.le;have h3:=CI.out.2;show X.n<=D.n;omega
  have gd:=hid (H5.out.1.ab bX);have HF:Hid (zoR D w (.returned (.tuple #[.agg X.cD,.int .i64 0])) (wX.setRow b2 X.cD)):=by
   have hb:Below w.heap.size w wX:=by
    have h:=H5.out.2.1.trans (bX.mono H5.out.2.2);rw[Hb.out.1];exact h
   refine⟨X,C',rfl,(bg.stored HX.out.1.r xE gd.out).dm,HX.out.1,HX.out.2.trans HO.out.2.yu,vd.out,kZ hb (by have:=Hb.out.2;omega) _⟩
  clear xE t1 t2 t3 t4 t5 t6 bX HOr;go_wp2_with (refine lO rfl 29 _ _ rfl b2 29 (zC 29) X.cD rfl rfl gd.out (by rw[ia,uz.out.sz]) (by rw[fH,uz.out.sz]) uz.out.one ?_);refine bodyPost_ret (xu rfl _ _ b2 X.cD _ rfl gd.out.setRow.part underlying29 rfl (by rw[fH,uz.out.sz])) rfl ?_;exact HF.out
