import Derived.Test.YtkkhakmdjinenaaGreatZMUniq
import Derived.Test.YtkkhakmdjinenaaGreatZPBy
import Derived.Laws.MakeOwn
set_option linter.all false
set_option maxHeartbeats 4000000
set_option maxRecDepth 100000
open Go.Lib (hid)
namespace Go.Proofs.YtkkhakmdjinenaaGreat
open Go.RowKit Go.Maps Go.WideElems Go.ChangeMaps Go.MapKept Go.Proofs.Tryz
open Instr (fill lookup makeMap makeSlice mapUpdate)
open List (getD_eq_getElem?_getD getElem?_append_left getElem?_eq_getElem getElem_of_mem length_append length_map map_append mem_of_getElem? range range_succ replicate set_cons_succ set_cons_zero)
open Or (inl inr)
open Nat (le_refl zero_le)
open Act (put)
open IntKind (signed wrap)
variable {B C C' bM i k n:Nat}{D O P:Dd}{W0 w w' w1:World}{a:Option Addr}{cs:Array Value}{f g:Nat->Nat}{l nm:List Nat}{t:TypeId}{u v v':Value}
theorem RI(n:Nat)(hn:n<=1000000)(W:World):(makeSlice 27 (.int .i64 0) (.int .i64 (n:Int))).run prog W=.ok (.slice (some ⟨W.heap.size,0,none⟩) 0 n) (W.alloc (.cells (madeCells #[.int .i64 0] n) 3)):=by
 obtain⟨i0,hi,dy,cJ,cv⟩:=info_parts aG;have h:=run_makeSlice (P:=prog) W 27 3 i0 (.int .i64 0) underlying27 hi dy .i64 .i64 0 (n:Int) (by omega) (by omega) (by rw[cJ];simp;omega) (by rw[cv];omega) (by omega);have e:(Value.int .i64 0).cells=#[.int .i64 0]:=rfl;rw[cJ,e] at h;simpa using h
def dV(w:World)(k:TypeId)(b n:Nat)(Q:Value->Value->Prop):Prop:=
 ∃es clock,w.heap[b]?=some (.map es clock)/\Fit prog k fE es clock/\es.size=n/\(∀e∈es.toList,Q e.key e.val)/\∀x y,Q x y->∃e∈es.toList,e.key=x
theorem dV.ex{k:TypeId}{b:Nat}{Q:Value->Value->Prop}(h:dV w k b n Q):aO w k b n Q:=by
 obtain⟨es,clock,h1,h2,h3,h4⟩:=h;exact⟨es,clock,h1,h2,by omega,h4⟩
theorem dV.made(w:World)(k:TypeId)(Q:Value->Value->Prop)(h0:∀x y,¬Q x y):dV (w.alloc (.map #[] 0)) k w.heap.size 0 Q:=
 ⟨#[],0,(MapKept.heap_alloc w _).1,⟨by simp,stamped_empty 0,by simp⟩,rfl,by simp,fun x y h=>absurd h (h0 x y)⟩
theorem dV.lt{k:TypeId}{b:Nat}{Q:Value->Value->Prop}(h:dV w k b n Q):b<w.heap.size:=h.ex.lt
theorem dV.same{k:TypeId}{b:Nat}{Q:Value->Value->Prop}(h:dV w k b n Q)(e:w'.heap[b]?=w.heap[b]?):dV w' k b n Q:=by
 obtain⟨es,clock,hb,r⟩:=h;exact⟨es,clock,e.trans hb,r⟩
theorem dV.ae{t' size b N:Nat}{xs:List Value}{Q:Value->Value->Prop}(h:dV w k b N Q)(ho:w.ownsRow B t' size v n xs)(hg:w.grownBy w' v.ownBlock):dV w' k b N Q:=by
 refine h.same (hg.block b h.lt (fun e=>?_));obtain⟨c,fz,hc⟩:=pP ho b e.symm;obtain⟨es,clock,hb,_⟩:=h;rw[hc] at hb;cases hb
theorem dV.len{k ty:TypeId}{b:Nat}{Q:Value->Value->Prop}(h:dV w k b n Q)(ht:prog.underlying t=some (.map (prog.mapKeyOf t) (prog.mapElemOf t))):(Builtin.len_ #[t] ty #[.map (some b)]).run prog w=.ok (.int .i64 (n:Int)) w:=by
 obtain⟨es,clock,hb,_,hs,_⟩:=h;rw[Go.run_len_map w t ty b es clock ht hb,hs];rfl
theorem dV.update{k e:TypeId}{b:Nat}{Q Q':Value->Value->Prop}(h:dV w k b n Q)(K:Keyed prog k)(ht:prog.underlying t=some (.map k e))(hn:n<maxLen)
  {key val:Value}{kl:Lit}(ea:keyOf prog k key=some kl) (kJ:∀y,¬Q key y) (hQ:∀x y,Q x y->Q' x y) (hv:Q' key val) (nw:∀x y,Q' x y->x≠key->∃y',Q x y'):
  ∃w',(mapUpdate t (.map (some b)) key val).run prog w=.ok () w'/\dV w' k b (n+1) Q'/\w.grownBy w' (some b):=by
 obtain⟨es,clock,hb,F,hs,hq,eu⟩:=h;have gd:∀x∈es.toList,x.key≠key:=fun x hx e0=>kJ x.val (by rw[<-e0];exact hq x hx)
 obtain⟨F1,_,_⟩:=F.stay (R':=fE) (fun x hx z hz=>hz);have oH:WideElems.rd prog k fE ⟨key,val,clock⟩=some (kl,.held val):=by unfold WideElems.rd fE;rw[ea];rfl
 rcases K.find w ea es.toList F.keys with ⟨h1,h2⟩|⟨j,e0,h1,h2,h3⟩
 ·refine⟨setBlock w b (.map (es.push ⟨key,val,clock⟩) (clock+1)),?_,⟨es.push ⟨key,val,clock⟩,clock+1,heap_setBlock_same hb _,⟨by simp;omega,stamped_push F.stamped h2,?_⟩,by simp;omega,fun x hx=>?_,fun x y hx=>?_⟩,⟨rfl,rfl,rfl,by simp[setBlock],fun i _ hi=>heap_setBlock_other hb _ (fun e=>hi (by rw[e]))⟩⟩
  ·simp[mapUpdate,run_underlying ht,MapKept.run_getObj_map hb,K.check w false ea,h1,MapKept.run_setObj_map _ hb,Result.andThen,setBlock]
  ·intro x hx;simp only[Array.toList_push,List.mem_append,List.mem_singleton] at hx;rcases hx with hx|rfl
   ·exact F1.reads x hx
   exact⟨_,oH⟩
  ·simp only[Array.toList_push,List.mem_append,List.mem_singleton] at hx;rcases hx with hx|rfl
   ·exact hQ _ _ (hq x hx)
   exact hv
  by_cases e0:x=key
  ·exact⟨⟨key,val,clock⟩,by rw[Array.toList_push];exact List.mem_append_right _ (List.mem_singleton.2 rfl),e0.symm⟩
  obtain⟨y',hy⟩:=nw x y hx e0;obtain⟨e1,h4,h5⟩:=eu x y' hy;exact⟨e1,by rw[Array.toList_push];exact List.mem_append_left _ h4,h5⟩
 exact absurd h3 (gd e0 (mem_of_getElem? h2))
theorem PU(n:Nat)(hn:n<=1000000)(W:World)(B:Nat)(hB:B<=W.heap.size):(W.alloc (.cells (madeCells #[.int .i64 0] n) 3)).ownsRow B 3 1 (.slice (some ⟨W.heap.size,0,none⟩) 0 n) 0 []:=
 World.ownsRow_made W _ n hB (by unfold maxLen;omega) (by have:=size_madeCells #[Value.int .i64 0] n;simpa using this)
def zqn(l:List Nat)(n:Nat)(w:World)(e:Ending)(w':World):Prop:=
 ∃(f:Nat->Nat) (B:Nat) (a:Option Addr) (c:Nat),e=.returned (.slice a n c)/\w'.ownsRow w.heap.size 3 1 (.slice a n c) n (cW ((range n).map f))/\fH (fun i j=>l.getD i 0=l.getD j 0) n f B/\Below w.heap.size w w'
structure sP (W0:World)(l:List Nat)(bM k:Nat)(v:Value)(nm:List Nat)(f:Nat->Nat)(w:World):Prop where
 below:Below W0.heap.size W0 w
 map:dV w 3 bM nm.length (zk nm)
 own:w.ownsRow W0.heap.size 3 1 v k (cW ((range k).map f))
 at_:∀i,i<k->nm[f i]?=some (l.getD i 0)
 num:fH (fun i j=>l.getD i 0=l.getD j 0) k f nm.length
 lo:W0.heap.size<=bM
 nk:nm.length<=k
theorem sP.mem(h:sP W0 l bM k v nm f w)(y:Nat):y∈nm↔∃i,i<k/\l.getD i 0=y:=by
 constructor
 ·intro hm;obtain⟨b,hb,e⟩:=getElem_of_mem hm;obtain⟨i,h1,h2,_⟩:=h.num.new b hb;refine⟨i,h1,?_⟩;have:=h.at_ i h1;rw[h2,getElem?_eq_getElem hb,e] at this;exact (Option.some.inj this).symm
 rintro⟨i,hi,rfl⟩;exact mem_of_getElem? (h.at_ i hi)
theorem Ut(f:Nat->Nat)(k b:Nat):cW ((range (k+1)).map fun i=>if i=k then b else f i)=cW ((range k).map f)++[.int .i64 (b:Int)]:=by
 rw[range_succ,map_append,cW,map_append];congr 1
 ·unfold cW;congr 1;refine List.map_congr_left fun i hi=>?_
  have:=List.mem_range.1 hi;rw[if_neg (by omega)]
 simp
theorem zhy(W:World):(makeMap 147 none).run prog W=.ok (.map (some W.heap.size)) (W.alloc (.map #[] 0)):=by
 kernel_rfl
theorem sP.look(h:sP W0 l bM k v nm f w)(hk:l.getD k 0<=1000000):
  (∃b,nm[b]?=some (l.getD k 0)/\(lookup 147 (.map (some bM)) (.int .i64 ((l.getD k 0:Nat):Int)) true).run prog w=.ok (.tuple #[.int .i64 ((b:Nat):Int),.bool true]) w)\/
  (l.getD k 0∉nm/\(lookup 147 (.map (some bM)) (.int .i64 ((l.getD k 0:Nat):Int)) true).run prog w=.ok (.tuple #[.int .i64 0,.bool false]) w):=by
 rcases h.map.ex.nf y9 underlying147 (Ny w) (Ct _ (by omega:l.getD k 0<=9223372036854775807)) with ⟨ct,gd⟩|⟨v,⟨b,s,h1,h2,rfl⟩,ct⟩
 ·refine inr ⟨fun hm=>?_,ct⟩;obtain⟨b,hb,e⟩:=getElem_of_mem hm;exact gd _ ⟨b,l.getD k 0,by rw[getElem?_eq_getElem hb,e],rfl,rfl⟩
 exact inl ⟨b,by rw[JL h2];exact h1,ct⟩
theorem sP.ab(h:sP W0 l bM k v nm f w)(kk:Below w.heap.size w w1):sP W0 l bM k v nm f w1:=
 ⟨h.below.trans (kk.mono h.below.size),h.map.same (kk.block _ h.map.lt),cY h.own kk,h.at_,h.num,h.lo,h.nk⟩
theorem sP.jC{b:Nat}(h:sP W0 l bM k v nm f w)(hb:nm[b]?=some (l.getD k 0))
  (ho:w'.ownsRow W0.heap.size 3 1 v' (k+1) (cW ((range k).map f)++[.int .i64 (b:Int)])) (hg:w.grownBy w' v.ownBlock):∃f',sP W0 l bM (k+1) v' nm f' w':=by
 have gp:b<nm.length:=(List.getElem?_eq_some_iff.1 hb).1;obtain⟨i,h1,h2,_⟩:=h.num.new b gp;have hi:=h.at_ i h1;rw[h2,hb] at hi;have hi:=Option.some.inj hi;refine⟨fun j=>if j=k then b else f j,fG h.below h.own h.below.size hg,h.map.ae h.own hg,by rw[Ut];exact ho,fun j hj=>?_,?_,h.lo,by have:=h.nk;omega⟩
 ·by_cases e:j=k
  ·simp only[if_pos e];rw[e];exact hb
  simp only[if_neg e];exact h.at_ j (by omega)
 have:=h.num.jC (fun i j e=>e.symm) (fun i j l e e2=>e.trans e2) (fun i=>rfl) h1 hi.symm;rw[h2] at this;exact this
theorem sP.fresh(h:sP W0 l bM k v nm f w)(hb:l.getD k 0∉nm)(hm:dV w1 3 bM (nm.length+1) (zk (nm++[l.getD k 0])))(lU:w.grownBy w1 (some bM))
  (w2:World) (k2:Below w1.heap.size w1 w2) (hg:w2.grownBy w' v.ownBlock) (ho:w'.ownsRow W0.heap.size 3 1 v' (k+1) (cW ((range k).map f)++[.int .i64 (nm.length:Int)])):∃f',sP W0 l bM (k+1) v' (nm++[l.getD k 0]) f' w':=by
 have mG:Below W0.heap.size W0 w1:=h.below.grown lU h.below.size (fun g e=>by injection e with e;rw[<-e];exact h.lo);have mR:=mG.trans (k2.mono mG.size);have o2:=cY (yk h.own h.map.ex.of lU) k2;have m2:=hm.same (k2.block _ hm.lt);refine⟨fun j=>if j=k then nm.length else f j,fG mR o2 mR.size hg,by rw[length_append];exact m2.ae o2 hg,by rw[Ut];exact ho,fun j hj=>?_,?_,h.lo,by have:=h.nk;simp;omega⟩
 ·by_cases e:j=k
  ·simp only[if_pos e];rw[e];simp
  simp only[if_neg e];have:=h.at_ j (by omega);rw[getElem?_append_left (List.getElem?_eq_some_iff.1 this).1];exact this
 have:=h.num.fresh (fun i j e=>e.symm) (fun i=>rfl) (fun i hi e=>hb ((h.mem _).2 ⟨i,hi,e⟩));rw[length_append];exact this
theorem zpn{x:Nat}(h:dV w 3 bM nm.length (zk nm))(hx:x<=1000000)(hn:nm.length<maxLen)(hb:x∉nm):
  ∃w',(mapUpdate 147 (.map (some bM)) (.int .i64 (x:Int)) (.int .i64 (nm.length:Int))).run prog w=.ok () w'/\dV w' 3 bM (nm.length+1) (zk (nm++[x]))/\w.grownBy w' (some bM):=by
 refine h.update y9 underlying147 hn (Ct _ (by omega)) ?_ ?_ ?_ ?_
 ·rintro y ⟨k,s,h1,h2,_⟩;rw[<-JL h2] at h1;exact hb (mem_of_getElem? h1)
 ·rintro a b ⟨k,s,h1,h2,h3⟩;exact⟨k,s,by rw[getElem?_append_left (List.getElem?_eq_some_iff.1 h1).1];exact h1,h2,h3⟩
 ·exact⟨nm.length,x,by simp,rfl,rfl⟩
 rintro a b ⟨k,s,h1,h2,h3⟩ hne;by_cases e:k<nm.length
 ·rw[getElem?_append_left e] at h1;exact⟨b,k,s,h1,h2,h3⟩
 rw[List.getElem?_append_right (by omega)] at h1;cases hj:k-nm.length with
 | zero=>rw[hj] at h1;simp at h1;exact absurd (by rw[h2,h1]) hne
 | succ j=>rw[hj] at h1;simp at h1
theorem zgB(l:List Nat)(n:Nat)(hl:l.length=n)(hn:n<=100000)(hb:∀x∈l,x<=1000000)(a:Option Addr)(c:Nat)(w:World)(hL:nA w a l):Calls prog 81 #[.slice a n c] w (zqn l n w):=by
 have jw:=zhy;have eR:=RI n (by omega);have HX:=hid (Zz hl (Zz hb hL));clear hl hb hL;go_in;go_upto_region 3 with fail;obtain⟨bM,nP⟩:∃bM,w.heap.size+1=bM:=⟨_,rfl⟩
 obtain⟨b0,ay⟩:∃b0,w.heap.size=b0:=⟨_,rfl⟩
 obtain⟨W2,ke⟩:∃W2,(w.alloc (.cells (madeCells #[.int .i64 0] n) 3)).alloc (.map #[] 0)=W2:=⟨_,rfl⟩
 have cZ:(w.alloc (.cells (madeCells #[.int .i64 0] n) 3)).heap.size=bM:=by rw[<-nP];simp
 have k1:=al w (.cells (madeCells #[.int .i64 0] n) 3);have k2:=al (w.alloc (.cells (madeCells #[.int .i64 0] n) 3)) (.map #[] 0);have Iu:sP w l bM 0 (.slice (some ⟨b0,0,none⟩) 0 n) [] (fun _=>0) W2:=by
  have hO:=cY (PU n (by omega) w w.heap.size (le_refl _)) k2;rw[ke,ay] at hO;refine⟨by rw[<-ke];exact k1.trans (k2.mono (by simp)),?_,by rw[ay];exact hO,fun i hi=>absurd hi (by omega),fH.zero _,by omega,by simp⟩;have:=dV.made (w.alloc (.cells (madeCells #[.int .i64 0] n) 3)) 3 (zk []) (fun x y h=>by
   obtain⟨k,s,h1,_⟩:=h
   simp at h1)
  rw[ke,cZ] at this;exact this
 have sy:=hid Iu;clear Iu k1 k2
 try rw[nP]
 try rw[ke]
 try rw[ay]
 have Hb:=hid (Zz nP ay);clear nP ay ke cZ;go_wp2;go_loopw [3,6,7,8,15] (fun v3 _ _ _ vk wr=>∃k:Nat,vk=.int .i64 k/\k<=n/\(∃a3 c3,v3=.slice a3 k c3)/\Hid (∃nm f,sP w l bM k v3 nm f wr)) (fun _ _ _ _ v _=>n-(intOf v).toNat)
 ·exact⟨0,rfl,zero_le _,⟨_,_,rfl⟩,_,_,sy.out⟩
 obtain⟨k,rfl,hk,⟨a3,c3,rfl⟩,HL⟩:=hrel;by_cases aq:k<n
 ·obtain⟨nm,f,hI⟩:=HL.out;obtain⟨g,off,rfl,hg,hc⟩:=HX.out.2.2 (by have:=HX.out.1;omega);have d0:=(hI.below.cell (p:=⟨g,off+k,none⟩) hg).trans (hc k (by have:=HX.out.1;omega));simp only[] at d0;have Nx:l.getD k 0<=1000000:=by
   by_cases e:k<l.length
   ·rw[getD_eq_getElem?_getD,getElem?_eq_getElem e];exact HX.out.2.1 _ (List.getElem_mem e)
   rw[getD_eq_getElem?_getD,List.getElem?_eq_none (by omega)];simp
  have dE:=hI.look Nx;have i1:(k:Int)<n:=by omega
  have Jp:=hI.nk;obtain⟨m,hm⟩:∃m,nm.length=m:=⟨_,rfl⟩
  obtain⟨i0,hi,dy,cJ,cv⟩:=info_parts aG;have tj:=hI.below.size;have HI:=hid hI;have hlen:=hI.map.len (ty:=3) (t:=147) (by rw[underlying147];rfl);rw[hm] at Jp hlen;clear hc hg hI HL;rcases dE with ⟨b,hb,ct⟩|⟨hb,ct⟩
  ·have Hb:=hid hb;clear hlen hb;obtain⟨x,hx⟩:∃x,l.getD k 0=x:=(⟨_,rfl⟩);rw[hx] at d0 ct Nx;go_wp2_with (at_builtin;refine wpList_append_own_at _ rfl _ _ 27 rfl w.heap.size 3 i0 (.int .i64 0) 1 8 underlying27 hi dy cJ cv rfl (by decide) _ _ _ rfl (HI.out.own.alloc _) ⟨wr.heap.size,0,none⟩ 1 1 [.int .i64 (b:Int)] rfl rfl (cell_one_new _ _ _) ?d2 ?d3 ?d4 ?d5 ?_)
   case d2=>first|(intro u hu;simp at hu;subst hu;rfl)|rfl
   case d3=>unfold maxLen;omega
   case d4=>omega
   case d5=>first|(simp;omega)|omega
   intro v' w5 ah ag _ bJ;obtain⟨a5,c5,rfl⟩:=bP ah;have HF:=hid ((HI.out.ab (al wr (.cells #[.int .i64 (b:Int)] 3))).jC Hb.out ah ag);clear ah ag bJ;go_wp2;go_roundw
   ·exact⟨k+1,by go_num,by omega,⟨_,_,rfl⟩,nm,HF.out⟩
   simp[intOf];omega
  obtain⟨w1,vx,iF,lU⟩:=zpn HI.out.map Nx (by unfold maxLen;omega) hb;have Hj:=hid (Zz hb (Zz iF lU));have BO:=yk HI.out.own HI.out.map.ex.of lU;rw[hm] at vx;have Ts:=(HI.out.below.grown lU tj (fun g e=>by injection e with e;rw[<-e];exact HI.out.lo)).size;clear iF lU hb;obtain⟨x,hx⟩:∃x,l.getD k 0=x:=⟨_,rfl⟩
  rw[hx] at d0 ct Nx vx;go_wp2_with (at_builtin;refine wpList_append_own_at _ rfl _ _ 27 rfl w.heap.size 3 i0 (.int .i64 0) 1 8 underlying27 hi dy cJ cv rfl (by decide) _ _ _ rfl (BO.alloc _) ⟨w1.heap.size,0,none⟩ 1 1 [.int .i64 (m:Int)] rfl rfl (cell_one_new _ _ _) ?d2 ?d3 ?d4 ?d5 ?_)
  case d2=>first|(intro u hu;simp at hu;subst hu;rfl)|rfl
  case d3=>unfold maxLen;omega
  case d4=>omega
  case d5=>first|(simp;omega)|omega
  intro v' w5 ah ag _ bJ;obtain⟨a5,c5,rfl⟩:=bP ah;have HF:=hid (HI.out.fresh Hj.out.1 Hj.out.2.1 Hj.out.2.2 _ (al w1 (.cells #[.int .i64 (m:Int)] 3)) ag (by rw[hm];exact ah));clear ah ag bJ BO;go_wp2;go_roundw
  ·exact⟨k+1,by go_num,by omega,⟨_,_,rfl⟩,_,HF.out⟩
  simp[intOf];omega
 obtain rfl:k=n:=by omega
 obtain⟨nm,f,hI⟩:=HL.out;have HI:=hid hI;clear hI HL;go_wp2;go_ret;exact⟨f,nm.length,a3,c3,rfl,HI.out.own,HI.out.num,HI.out.below⟩
def YI(D:Dd)(C:Nat)(w:World)(e:Ending)(w':World):Prop:=
 ∃(f:Nat->Nat) (B:Nat) (a:Option Addr) (c:Nat),e=.returned (.slice a D.n c)/\w'.ownsRow w.heap.size 3 1 (.slice a D.n c) D.n (cW ((range D.n).map f))/\fH (jB C (tD D) (mD D)) D.n f B/\Below w.heap.size w w'
theorem nA.G1(h:nA w a l)(n:Nat)(hn:n<=l.length):nA w a (l.take n):=by
 intro h0;have e:(l.take n).length=n:=by rw[List.length_take];omega
 rw[e] at h0;obtain⟨g,off,e1,hg,hc⟩:=h (by omega);refine⟨g,off,e1,hg,fun j hj=>?_⟩;rw[e] at hj;rw[hc j (by omega)];simp only[];rw[getD_eq_getElem?_getD,getD_eq_getElem?_getD,List.getElem?_take_of_lt hj]
theorem fH.rel{R R':Nat->Nat->Prop}(h:fH R n f B)(e:∀i j,i<n->j<n->(R i j↔R' i j)):fH R' n f B:=
 ⟨fun i j hi hj=>(h.same i j hi hj).trans (e i j hi hj),h.lt,h.new⟩
theorem X2(D:Dd)(C:Nat)(hR:DR D C)(w:World)(hD:DM w D):Calls prog 45 #[.agg D.cD] w (YI D C w):=by
 have HB:=hid (Zz (bz.new hD) (Zz (al w (.cells D.cD 29)) hR));clear hD hR;go_in;go_upto_region 1 with fail;generalize w.alloc (.cells D.cD 29)=W0 at HB⊢;obtain⟨b0,ay⟩:∃b0,w.heap.size=b0:=⟨_,rfl⟩
 rw[ay] at HB;rw[ay];have bW:=hid ay;have pL:b0<=W0.heap.size:=by have:=HB.out.2.1.size;omega
 clear ay;have rG:=hid (EO D C HB.out.2.2 W0 HB.out.1.dm);go_wp2_with (refine jr (by rfl) 29 _ rfl ⟨b0,0,none⟩ rfl D.cD _ HB.out.1.st.part underlying29 rfl HB.out.1.dm.info ?_);refine rG.out.mono ?_;rintro e w1 ⟨rfl,b1⟩;have H1:=hid (Zz (HB.out.1.ab b1) (HB.out.2.1.trans (b1.mono pL)));have eG:b0<=w1.heap.size:=by have:=b1.size;omega
 have UM:=hid (zhz D C HB.out.2.2 w1 H1.out.1.dm);clear b1 rG;go_wp2_with (refine jr (by rfl) 29 _ rfl ⟨b0,0,none⟩ rfl D.cD _ H1.out.1.st.part underlying29 rfl H1.out.1.dm.info ?_);refine UM.out.mono ?_;rintro e w2 ⟨bl,a,c,rfl,gp,qW,hc,hO,heq,b2⟩;have H2:=hid (Zz (H1.out.1.ab b2) (H1.out.2.trans (b2.mono eG)));have cr:b0<=w2.heap.size:=by have:=b2.size;omega
 have cU:=HB.out.2.2.n2;have rQ:(bl.take D.n).length=D.n:=by rw[List.length_take];omega
 have HNm:=hid (zgB (bl.take D.n) D.n rQ (by omega) (fun x hx=>by have:=qW x (List.mem_of_mem_take hx);omega) a c w2 ((sx hO gp).G1 D.n (by omega)));have Heq:Hid (∀i j,i<D.n->j<D.n->((bl.take D.n).getD i 0=(bl.take D.n).getD j 0↔jB C (tD D) (mD D) i j)):=by
  show ∀i j,_;intro i j hi hj;rw[<-heq i j (by omega) (by omega)];simp only[getD_eq_getElem?_getD,List.getElem?_take_of_lt hi,List.getElem?_take_of_lt hj]
 have f1:=H2.out.1.f1;have i1:(D.n:Int)<=(c:Int):=by omega
 have gE:D.n<=c:=by omega
 clear b2 UM hO heq qW gp rQ;go_wp2_with fail;refine HNm.out.mono ?_;rintro e w3 ⟨f,B,a3,c3,rfl,ZC,G4,b3⟩;have HF:Hid (YI D C w (.returned (.slice a3 D.n c3)) w3):=by
  refine⟨f,B,a3,c3,rfl,ga ZC (by rw[bW.out];exact cr),G4.rel Heq.out,?_⟩;rw[bW.out];exact H2.out.2.trans (b3.mono cr)
 clear ZC G4 b3;go_wp2;go_ret;exact HF.out
theorem Vh{c:Nat}(h:w.ownsRow B 3 1 (.slice a n c) n (cW ((range n).map f))):kW w a n (fun i=>((f i:Nat):Int)):=by
 intro h0;obtain⟨g,e,h1,h2,h3⟩:=ek h h0;refine⟨g,0,e,h2,fun j hj=>?_⟩;have:=(h3 j (by omega)).1;rw[Nat.zero_add,this];simp[cW,hj]
def Ux(z:Nat->Int)(l:List Nat)(m:Nat)(w:World)(e:Ending)(w':World):Prop:=
 ∃(a:Option Addr) (c:Nat),e=.returned (.slice a m c)/\w'.ownsRow w.heap.size 3 1 (.slice a m c) m (ints (l.map z))/\Below w.heap.size w w'
theorem zlm(z:Nat->Int)(l:List Nat)(k:Nat)(hk:k<l.length):ints ((l.take (k+1)).map z)=ints ((l.take k).map z)++[.int .i64 (z (l.getD k 0))]:=by
 rw[List.take_succ_eq_append_getElem hk,map_append,getD_eq_getElem?_getD,getElem?_eq_getElem hk];simp[ints]
theorem YO(z:Nat->Int)(N:Nat)(l:List Nat)(m:Nat)(hm:l.length=m)(iF:m<=100000)(hN:N<=100000)(hl:∀x∈l,x<N)(a1 a2:Option Addr)(c1 c2:Nat)(w:World)(hZ:kW w a1 N z)(hL:nA w a2 l):
  Calls prog 79 #[.slice a1 N c1,.slice a2 m c2] w (Ux z l m w):=by
 have eR:=RI m (by omega);have HX:=hid (Zz hm (Zz hl (Zz hZ hL)));clear hm hl hZ hL;go_in;go_upto_region 2 with fail;obtain⟨b0,ay⟩:∃b0,w.heap.size=b0:=⟨_,rfl⟩
 obtain⟨W2,ke⟩:∃W2,w.alloc (.cells (madeCells #[.int .i64 0] m) 3)=W2:=⟨_,rfl⟩
 have k1:=al w (.cells (madeCells #[.int .i64 0] m) 3);have hO:=PU m (by omega) w w.heap.size (le_refl _);rw[ke] at hO k1;have sy:Hid (Below w.heap.size w W2/\W2.ownsRow w.heap.size 3 1 (.slice (some ⟨b0,0,none⟩) 0 m) 0 (ints ((l.take 0).map z))):=⟨k1,by rw[<-ay];simpa [ints] using hO⟩
 clear hO k1
 try rw[ke]
 try rw[ay]
 have Hb:=hid ay;clear ay ke;go_wp2;go_loopw [5,7,13] (fun v5 _ vk wr=>∃k:Nat,vk=.int .i64 k/\k<=m/\(∃a c,v5=.slice a k c)/\Hid (Below w.heap.size w wr/\wr.ownsRow w.heap.size 3 1 v5 k (ints ((l.take k).map z)))) (fun _ _ v _=>m-(intOf v).toNat)
 ·exact⟨0,rfl,zero_le _,⟨_,_,rfl⟩,sy.out⟩
 clear sy;obtain⟨k,rfl,hk,⟨a5,c5,rfl⟩,HL⟩:=hrel;by_cases aq:k<m
 ·have hkl:k<l.length:=by have:=HX.out.1;omega
  obtain⟨g,off,rfl,hg,hc⟩:=HX.out.2.2.2 (by omega);have d0:=(HL.out.1.cell (p:=⟨g,off+k,none⟩) hg).trans (hc k hkl);simp only[] at d0;have hx:l.getD k 0<N:=by
   rw[getD_eq_getElem?_getD,getElem?_eq_getElem hkl];exact HX.out.2.1 _ (List.getElem_mem hkl)
  obtain⟨g1,Pq,rfl,lU,gE⟩:=HX.out.2.2.1 (by omega);have d1:=(HL.out.1.cell (p:=⟨g1,Pq+l.getD k 0,none⟩) lU).trans (gE _ hx);have HE:=hid (zlm z l k hkl);have tj:=HL.out.1.size;obtain⟨i0,xw,dy,cJ,cv⟩:=info_parts aG;have i1:(k:Int)<m:=by omega
  clear hc hg gE lU;obtain⟨x,Eu⟩:∃x,l.getD k 0=x:=⟨_,rfl⟩
  rw[Eu] at d0 d1 hx HE;obtain⟨y,EA⟩:∃y,z x=y:=⟨_,rfl⟩
  rw[EA] at d1 HE;clear Eu EA;have i2:(x:Int)<N:=by omega
  have vw:=HL.out.2;go_wp2_with (at_builtin;refine wpList_append_own_at _ rfl _ _ 27 rfl w.heap.size 3 i0 (.int .i64 0) 1 8 underlying27 xw dy cJ cv rfl (by decide) _ _ _ rfl (vw.alloc _) ⟨wr.heap.size,0,none⟩ 1 1 [.int .i64 y] rfl rfl (cell_one_new _ _ _) ?d2 ?d3 ?d4 ?d5 ?_)
  case d2=>first|(intro u hu;simp at hu;subst hu;rfl)|rfl
  case d3=>unfold maxLen;omega
  case d4=>omega
  case d5=>first|(simp;omega)|omega
  intro v' w5 ah ag _ bJ;obtain⟨a6,c6,rfl⟩:=bP ah;have HF:Hid (Below w.heap.size w w5/\w5.ownsRow w.heap.size 3 1 (.slice a6 (k+1) c6) (k+1) (ints ((l.take (k+1)).map z))):=by
   have k9:=al wr (.cells #[.int .i64 y] 3);exact⟨fG (HL.out.1.trans (k9.mono tj)) (cY HL.out.2 k9) (by simp;omega) ag,by rw[HE.out];first|exact ah|(rw[List.map_take];exact ah)⟩
  clear ah ag bJ vw;go_wp2;go_roundw
  ·exact⟨k+1,by go_num,by omega,⟨_,_,rfl⟩,HF.out⟩
  simp[intOf];omega
 obtain rfl:k=m:=by omega
 have HF:Hid (Ux z l k w (.returned (.slice a5 k c5)) wr):=by
  have e:l.take k=l:=List.take_of_length_le (by have:=HX.out.1;omega);have h:=HL.out;rw[e] at h;exact⟨a5,c5,rfl,h.2,h.1⟩
 clear HL;go_wp2;go_ret;exact HF.out
def qA(D:Dd)(C:Nat)(f:Nat->Nat)(l:List Nat):List (List Int):=l.map fun i=>(range C).map (kC D f i)
theorem zm8{α:Type}(l:List Nat)(g:Nat->α)(n:Nat)(h:n=l.length):l.map g=(range n).map fun b=>g (l.getD b 0):=by
 subst h;apply List.ext_getElem?;intro i;by_cases hi:i<l.length
 ·simp[getD_eq_getElem?_getD,hi]
 simp[hi]
theorem ON(D:Dd)(C:Nat)(hR:DR D C)(R:Nat->Nat->Prop)(f:Nat->Nat)(B:Nat)(hN:fH R D.n f B)(a:Option Addr)(cp:Nat)(w:World)(hD:DM w D)(hL:kW w a D.n (fun i=>((f i:Nat):Int))):
  Calls prog 44 #[.agg D.cD,.slice a D.n cp] w (B2 D C B (fun b c=>kC D f ((bH f D.n).getD b 0) c) (fun b=>D.q ((bH f D.n).getD b 0)) w):=by
 have cU:=hR.n2;have da:=hR.n1;have iX:=hR.m;have tX:=(hR.iq hD.kl).2;have HB:=hid (Zz (bz.new hD) (Zz (al w (.cells D.cD 29)) (Zz hR (Zz hN hL))));obtain⟨iI,hI,rW,r8,sh⟩:=info_parts aG;obtain⟨iV,hV,uJ,uY,ur⟩:=info_parts ez;clear hD hR hN hL;go_in;go_upto_region 1 with (refine nR rfl 29 rfl (zC 29) (lA _) ?_)
 try simp only[put,List.setIfInBounds_toArray,set_cons_zero,set_cons_succ,GV]
 have H0:Hid (bz ((w.alloc (.cells D.cD 29)).alloc (.cells (zC 29) 29)) w.heap.size D/\St ((w.alloc (.cells D.cD 29)).alloc (.cells (zC 29) 29)) 29 (w.heap.size+1) (zC 29)/\Below w.heap.size w ((w.alloc (.cells D.cD 29)).alloc (.cells (zC 29) 29))):=by
  refine⟨HB.out.1.ab (al _ _),?_,HB.out.2.1.trans ((al _ _).mono (by simp))⟩;have:=St.new (w.alloc (.cells D.cD 29)) 29 (zC 29);simpa using this
 generalize (w.alloc (.cells D.cD 29)).alloc (.cells (zC 29) 29)=Wn at H0⊢;obtain⟨b2,cr⟩:∃b2,w.heap.size+1=b2:=⟨_,rfl⟩
 obtain⟨b0,ay⟩:∃b0,w.heap.size=b0:=⟨_,rfl⟩
 rw[cr,ay] at H0;rw[cr,ay];have Hb:=hid (Zz ay cr);clear cr ay;have jX:=hid H0.out.1;have k5:=al Wn (.cells (zC 29) 29);have gZ:St (Wn.alloc (.cells (zC 29) 29)) 29 Wn.heap.size (zC 29):=St.new _ _ _;have GB:iN Wn Wn.heap.size D.K C (.slice none 0 0) (qA D C f (bH f 0)) (fun _=>.slice none 0 0) (.slice none 0 0) ((bH f 0).map D.q) ((Wn.alloc (.cells (zC 29) 29)).setRow Wn.heap.size (dH D.K (.slice none 0 0) (.slice none 0 0))):=iN.start (V0:=Wn) (K:=D.K) (C:=C) (ws:=fun _=>.slice none 0 0) (a:=none) (c:=0) (ms:=[]) (World.ownsRow_nil _ _ _ _) rfl k5 gZ (le_refl _);have jZ:=hid GB;have jc:=hid gZ;clear k5 gZ GB;go_upto_region 2 with (first
  | (refine p6 rfl 25 _ rfl ⟨b0,0,none⟩ rfl (aQ D.K) (.array 256 5) jX.out.dG underlying25 rfl (vt D.K) ?_)
  | (refine AE rfl 29 _ rfl #[(0,.agg (aQ D.K))] (by first|rfl|kernel_rfl|(go_simp;done)) (.agg (dH D.K (.slice none 0 0) (.slice none 0 0))) (VZ D.K _) ?_)
  | (refine nR rfl 29 rfl (zC 29) (lA _) ?_)
  | (refine lJ rfl 29 _ _ rfl Wn.heap.size 29 (zC 29) (dH D.K (.slice none 0 0) (.slice none 0 0)) rfl rfl jc.out (by rw[gY,mV]) (by rw[fD,mV]) (xY _ _ _ _ _ _ _) ?_))
 simp only[put,sA];obtain⟨b4,fj⟩:∃b4,Wn.heap.size=b4:=⟨_,rfl⟩
 have ER:=hid fj;rw[fj] at jZ;rw[fj];generalize (Wn.alloc (.cells (zC 29) 29)).setRow b4 (dH D.K (.slice none 0 0) (.slice none 0 0))=W4 at jZ⊢;clear fj jc;obtain⟨gL,oL,rfl,D3,AZ⟩:=HB.out.2.2.2.2 (by omega);have J2:=hid (Zz D3 AZ);clear D3 AZ;go_wp2;go_loopw [6,7,8,9,10,16] (fun _ _ _ _ _ v wr=>∃(i:Nat) (ws:Nat->Value) (aN aK:Option Addr) (p cN cK:Nat),v=.int .i64 i/\i<=D.n/\p<=i/\Hid (p=(bH f i).length/\iN Wn b4 D.K C (.slice aN p cN) (qA D C f (bH f i)) ws (.slice aK p cK) ((bH f i).map D.q) wr)) (fun _ _ _ _ _ v _=>D.n-(intOf v).toNat)
 ·exact⟨0,_,none,none,0,0,0,rfl,by omega,by omega,rfl,jZ.out⟩
 clear jZ;obtain⟨i,ws,aN,aK,p,cN,cK,rfl,hi,Q2,HP,HT⟩:=hrel;by_cases aq:i<D.n
 ·have bD:w.heap.size<=Wn.heap.size:=H0.out.2.2.size;have Xl:Hid (∀W',Below Wn.heap.size Wn W'->∀j,j<D.n->W'.cell? ⟨gL,oL+j,none⟩=some (.int .i64 ((f j:Nat):Int))):=fun W' h j hj=>((H0.out.2.2.trans (h.mono (by rw[<-Hb.out.1];exact bD))).cell (p:=⟨gL,oL+j,none⟩) (by rw[<-Hb.out.1];exact J2.out.1)).trans (J2.out.2 j hj)
  have d0:=Xl.out wr HT.aP i aq;have fb:=HT.f1;have AG:=HB.out.2.2.2.1.bH i (by omega);have iy:=AG.2.2 aq;rw[<-HP] at iy;have i1:(i:Int)<(D.n:Int):=by omega
  have hp32:p<=32768:=by omega
  have zn:=hid HT;have EM:=hid HP;obtain⟨fi,r9⟩:∃fi,f i=fi:=⟨_,rfl⟩
  rw[r9] at d0 iy;by_cases rV:fi<p
  ·have i2:(fi:Int)<p:=(by omega);have HN:Hid (p=(bH f (i+1)).length/\iN Wn b4 D.K C (.slice aN p cN) (qA D C f (bH f (i+1))) ws (.slice aK p cK) ((bH f (i+1)).map D.q) wr):=by
    rw[CK (by rw[r9,<-HP];exact rV)];exact⟨HP,HT⟩
   clear HP HT AG r9;go_wp2;go_roundw
   ·exact⟨i+1,ws,aN,aK,p,cN,cK,by go_num,by omega,by omega,HN.out⟩
   simp[intOf];omega
  have i2:¬((fi:Int)<p):=by omega
  have Aj:bH f (i+1)=bH f i++[i]:=Ci (by rw[r9,<-HP];exact rV);have HPn:=hid Aj;have hmkr:=G8 C (by omega);have Aq:=hid (jX.out.ab HT.aP);have f1:=Aq.out.f1;obtain⟨gN,oN,eN,km,qB,zN⟩:=Aq.out.dm.row i aq;rw[eN] at f1;rw[HB.out.2.2.1.len i aq] at qB zN;have wF:=hid eN;have xo:=hid zN;have yI:=hid (C8 wr wr.heap.size C 3 (.int .i64 0) (le_refl _) (by unfold maxLen;omega));have oq:=hid (al wr (.cells (madeCells #[.int .i64 0] C) 3));have V6:=hid km;clear HP HT AG eN zN Aj km;go_upto_region 7 with fail;obtain⟨g,hg⟩:∃g,wr.heap.size=g:=⟨_,rfl⟩
  have kq:Hid ((wr.alloc (.cells (madeCells #[.int .i64 0] C) 3)).ownsRow g 3 1 (.slice (some ⟨g,0,none⟩) C C) C (ints ([]++replicate (C-0) 0))/\Below g wr (wr.alloc (.cells (madeCells #[.int .i64 0] C) 3))):=by
   rw[<-hg];refine⟨?_,oq.out⟩;have:=yI.out;simpa [ints] using this
  have Hg:=hid hg;have Kc:=(oq.out.cell (p:=⟨b0,256,none⟩) Aq.out.st.lt).trans f1;have F9:=(oq.out.cell (p:=⟨gN,oN+i,none⟩) V6.out).trans qB;rw[hg];clear yI oq hg f1 qB d0 fb;generalize wr.alloc (.cells (madeCells #[.int .i64 0] C) 3)=W6 at kq Kc F9⊢;revert wr;intro wo zn Aq xo V6 Hg kq;go_wp2;go_loopw [9,10,39] (fun _ _ v wq=>∃(k:Nat),v=.int .i64 k/\k<=C/\Hid (wq.ownsRow g 3 1 (.slice (some ⟨g,0,none⟩) C C) C (ints ((range k).map (kC D f i)++replicate (C-k) 0))/\Below g wo wq)) (fun _ _ v _=>C-(intOf v).toNat)
  ·exact⟨0,rfl,by omega,kq⟩
  clear kq Kc F9;obtain⟨k,rfl,hk,HA⟩:=hrel;have kP:Below wo.heap.size wo wr:=by rw[Hg.out];exact HA.out.2
  by_cases dE:k<C
  ·obtain⟨gA,oA,eA,BT,lC⟩:=xo.out (by omega);have cA:=(kP.cell (p:=⟨gA,oA+k,none⟩) BT).trans (lC k dE);have J1:=HB.out.2.2.1.nx i k aq dE;obtain⟨g',e',_,_,hc'⟩:=ek HA.out.1 (by omega);obtain rfl:g'=g:=by
    injection e' with e';injection e' with e' _;exact e'.symm
   obtain⟨y0,y1⟩:=hc' k (by omega);have hlen:((range k).map (kC D f i)).length=k:=(by simp);have y2:(ints ((range k).map (kC D f i)++replicate (C-k) 0))[k]?=some (.int .i64 0):=by
    have:0<C-k:=(by omega);simp[ints,List.getElem?_append,this]
   rw[y2] at y0;have eV:Hid ((wr.setCell ⟨g',k,none⟩ (.int .i64 (-1))).ownsRow g' 3 1 (.slice (some ⟨g',0,none⟩) C C) C (ints (((range k).map (kC D f i)++[-1])++replicate (C-(k+1)) 0))/\Below g' wo (wr.setCell ⟨g',k,none⟩ (.int .i64 (-1)))):=by
    refine⟨?_,HA.out.2.setCell (p:=⟨g',k,none⟩) (le_refl _) _⟩;have:=ua HA.out.1 k dE (.int .i64 (-1));rwa [FA _ C k _ hlen dE] at this
   have AA:Hid (∀v,kC D f i k=v->(range (k+1)).map (kC D f i)=(range k).map (kC D f i)++[v]):=fun v h=>by
    rw[range_succ,map_append,List.map_singleton,h]
   have Dj:Hid ((D.nx i k=-1->kC D f i k=-1)/\∀x:Nat,D.nx i k=(x:Int)->kC D f i k=((f x:Nat):Int)):=⟨fun h=>by simp[kC,h],fun x h=>by
    unfold kC
    rw[if_neg (by omega),h]
    rfl⟩
   have yf:=hid hlen;have i3:(k:Int)<C:=(by omega);rw[eA];have Ib:=hid eA;have HWo:=hid zn.out.aP
   try dsimp only at cA
   clear lC hc' e' y2 hlen eA BT;generalize D.nx i k=t at cA J1 Dj;go_upto_region 11 with fail;generalize wr.setCell ⟨g',k,none⟩ (.int .i64 (-1))=W5 at eV⊢;clear y0 y1 cA kP;by_cases ht:t=-1
   ·subst ht;have HZ:=hid (AA.out (-1) (Dj.out.1 rfl));go_wp2;go_roundw
    ·exact⟨k+1,by go_num,by omega,by rw[HZ.out];exact eV⟩
    simp[intOf];omega
   obtain⟨x,rfl⟩:∃x:Nat,t=(x:Int):=(⟨t.toNat,by omega⟩);have hY:x<D.n:=(by omega);have lu:((x:Int) != (-1:Int))=true:=(by first|(simp;done)|(simp;omega));have i4:(x:Int)<(D.n:Int):=(by omega);have dx:=Xl.out W5 (HWo.out.trans (eV.out.2.mono (by rw[<-Hg.out];exact HWo.out.size))) x hY;have HZ:=hid (AA.out _ (Dj.out.2 x rfl));generalize f x=r at dx HZ;obtain⟨g2,e2,_,_,fp⟩:=ek eV.out.1 (by omega);obtain rfl:g2=g':=by
    injection e2 with e2;injection e2 with e2 _;exact e2.symm
   obtain⟨y0,y1⟩:=fp k (by omega);have y2:(ints (((range k).map (kC D f i)++[-1])++replicate (C-(k+1)) 0))[k]?=some (.int .i64 (-1)):=by
    simp[ints,List.getElem?_append]
   rw[y2] at y0;have kO:Hid ((W5.setCell ⟨g2,k,none⟩ (.int .i64 (r:Int))).ownsRow g2 3 1 (.slice (some ⟨g2,0,none⟩) C C) C (ints (((range k).map (kC D f i)++[(r:Int)])++replicate (C-(k+1)) 0))/\Below g2 wo (W5.setCell ⟨g2,k,none⟩ (.int .i64 (r:Int)))):=by
    refine⟨?_,eV.out.2.setCell (p:=⟨g2,k,none⟩) (le_refl _) _⟩;have:=ua eV.out.1 k dE (.int .i64 (r:Int));have e3:(ints (((range k).map (kC D f i)++[-1])++replicate (C-(k+1)) 0)).set k (.int .i64 (r:Int))=ints (((range k).map (kC D f i)++[(r:Int)])++replicate (C-(k+1)) 0):=by
     have hl:=yf.out;rw[<-FA _ C k (-1) hl dE,List.set_set,FA _ C k (r:Int) hl dE]
    rwa [e3] at this
   clear fp e2 y2;go_wp2;go_roundw
   ·exact⟨k+1,by go_num,by omega,by rw[HZ.out];exact kO⟩
   simp[intOf];omega
  obtain rfl:k=C:=by omega
  have HK:Hid (iN Wn b4 D.K k (.slice aN p cN) (qA D k f (bH f i)) ws (.slice aK p cK) ((bH f i).map D.q) wr):=zn.out.ab (by rw[Hg.out];exact HA.out.2);have mB:(qA D k f (bH f i)).length=p:=by rw[EM.out];simp[qA]
  have zX:=hid mB;have tj:=HK.out.aP.size;have HU:Hid (wr.ownsRow Wn.heap.size 3 1 (.slice (some ⟨g,0,none⟩) k k) k (ints ((range k).map (kC D f i)))):=by
   have:=HA.out.1;rw[Nat.sub_self,List.replicate_zero,List.append_nil] at this;exact ga this (by rw[<-Hg.out];exact zn.out.aP.size)
  have Jc:Hid ((∀j,j<(qA D k f (bH f i)).length->∀b,(ws j).ownBlock=some b->(Value.slice (some ⟨g,0,none⟩) k k).ownBlock≠some b)/\∀b,(Value.slice (some ⟨g,0,none⟩) k k).ownBlock=some b->(Value.slice aK p cK).ownBlock≠some b):=by
   have Px:wo.heap.size=g:=Hg.out;constructor
   ·intro j hj b e1 e2;have h1:=(zn.out.next.lt.2 j hj b e1);have h2:g=b:=(by simpa [Value.ownBlock] using e2);omega
   intro b e1 e2;have h1:=lE zn.out.dt b e2;have h2:g=b:=(by simpa [Value.ownBlock] using e1);omega
  have k9:=al wr (.cells #[.slice (some ⟨g,0,none⟩) k k] 27);have gH:Hid (iN Wn b4 D.K k (.slice aN p cN) (qA D k f (bH f i)) ws (.slice aK p cK) ((bH f i).map D.q) (wr.alloc (.cells #[.slice (some ⟨g,0,none⟩) k k] 27))):=HK.out.ab k9;have ZG:Hid ((wr.alloc (.cells #[.slice (some ⟨g,0,none⟩) k k] 27)).ownsRow Wn.heap.size 3 1 (.slice (some ⟨g,0,none⟩) k k) k (ints ((range k).map (kC D f i)))):=cY HU.out k9;have fbk:=HK.out.f1;have vw:=gH.out.next.own
  rw[mB] at vw;have CQ:=gH.out.aP.size;clear HA mB k9;go_wp2_with (at_builtin;refine wpList_append_own_at _ rfl _ _ 26 rfl Wn.heap.size 27 iV (.slice none 0 0) 1 24 underlying26 hV uJ uY ur rfl (by decide) _ _ _ rfl vw ⟨wr.heap.size,0,none⟩ 1 1 [.slice (some ⟨g,0,none⟩) k k] rfl rfl (cell_one_new _ _ _) ?d2 ?d3 ?d4 ?d5 ?_)
  case d2=>first|(intro u hu;simp at hu;subst hu;rfl)|rfl
  case d3=>unfold maxLen;omega
  case d4=>omega
  case d5=>first|(simp;omega)|omega
  intro v' w5 ah ag _ bJ;obtain⟨a5,c5,rfl⟩:=bP ah;have h9:=gH.out.st.ae gH.out.next.own (by decide) ag
  have z2:w5.cell? ⟨b4,256,none⟩=some (.slice aN p cN):=by rw[h9.at_,qp]
  have z3:w5.frozen? ⟨b4,256,none⟩=false:=h9.bb 256;have zW:=hid (gH.out.gu (vN':=.slice a5 (p+1) c5) ZG.out Jc.out.1 Jc.out.2 zX.out ah ag);clear ah ag bJ vw h9 fbk;go_upto_region 15 with fail;generalize w5.setCell ⟨b4,256,none⟩ (.slice a5 (p+1) c5)=W7 at zW⊢;clear z2 z3;have Fq:Hid (∀W' a9 c9,iN Wn b4 D.K k (.slice a5 (p+1) c5) (qA D k f (bH f i)++[(range k).map (kC D f i)]) (fun j=>if j=p then .slice (some ⟨g,0,none⟩) k k else ws j) (.slice a9 (p+1) c9) ((bH f i).map D.q++[D.q i]) W'->p+1=(bH f (i+1)).length/\iN Wn b4 D.K k (.slice a5 (p+1) c5) (qA D k f (bH f (i+1))) (fun j=>if j=p then .slice (some ⟨g,0,none⟩) k k else ws j) (.slice a9 (p+1) c9) ((bH f (i+1)).map D.q) W'):=by
   show ∀W' a9 c9,_;intro W' a9 c9 h;rw[HPn.out];refine⟨by rw[EM.out];simp,?_⟩;have e1:qA D k f (bH f i++[i])=qA D k f (bH f i)++[(range k).map (kC D f i)]:=(by simp[qA]);have e2:(bH f i++[i]).map D.q=(bH f i).map D.q++[D.q i]:=(by simp);rw[e1,e2];exact h
  have l5:Hid (((bH f i).map D.q).length=p):=by show _=_;rw[length_map];exact EM.out.symm
  obtain⟨gM,oM,eM,pY,ly⟩:=H0.out.1.dm.rM (by omega);have nV:=H0.out.1.f2;rw[eM] at nV;have i3:(i:Int)<(D.m:Int):=by omega
  have JV:=ly i (by omega);have dc:Hid (∀W',Below Wn.heap.size Wn W'->Below Wn.heap.size Wn W'/\W'.cell? ⟨b0,257,none⟩=some (.slice (some ⟨gM,oM,none⟩) D.m D.cM)/\W'.cell? ⟨gM,oM+i,none⟩=some (.int .i64 (D.q i))):=fun W' h=>⟨h,(h.cell (p:=⟨b0,257,none⟩) H0.out.1.st.lt).trans nV,(h.cell (p:=⟨gM,oM+i,none⟩) pY).trans JV⟩
  clear eM pY ly nV JV;generalize D.q i=qx at dc Fq;generalize qA D k f (bH f i)++[(range k).map (kC D f i)]=R9 at zW Fq;generalize (fun j=>if j=p then Value.slice (some ⟨g,0,none⟩) k k else ws j)=IK at zW Fq;generalize (bH f i).map D.q=Kh at zW Fq l5;clear gH HK ZG HU Jc;refine wp_region_held_drew (S:=fun W'=>Below Wn.heap.size Wn W'/\W'.cell? ⟨b0,257,none⟩=some (.slice (some ⟨gM,oM,none⟩) D.m D.cM)/\W'.cell? ⟨gM,oM+i,none⟩=some (.int .i64 qx)) (by kernel_rfl) (dc.out _ zW.out.aP.drew) fun hHeld=>?_;have HO:Hid (iN Wn b4 D.K k (.slice a5 (p+1) c5) R9 IK (.slice aK p cK) Kh W7.drew):=zW.out.ab (Below.refl _ _).drew
  (refine an 0 ?_;refine an 2 ?_;refine an 3 ?_;try simp only[put,sA];refine an 4 ?_;refine an 5 ?_;refine an 6 ?_;try simp only[put,sA])
  refine wpAnyH_ready (rs:=[1,7]) (by kernel_rfl) (by simp) ?_;refine gG (fun K hK=>?_) ?_
  ·skip;have f2:=HO.out.f2;go_simp;refine hK.out _ _ (hHeld) fun hHeld=>?_;clear hK K
   try simp only[put,sA]
   clear f2;refine bf 7 (fun K hK=>?_);skip;go_simp;have kk:=al W7.drew (.cells #[.int .i64 qx] 3);have lW:Hid (∀j u,[Value.int .i64 qx][j]?=some u->((W7.alloc (.cells #[.int .i64 qx] 3)).drew).cell? ((⟨W7.heap.size,0,none⟩:Addr).add j)=some u):=cell_one_new W7.drew _ _;have HO:Hid (iN Wn b4 D.K k (.slice a5 (p+1) c5) R9 IK (.slice aK p cK) Kh ((W7.alloc (.cells #[.int .i64 qx] 3)).drew)):=HO.out.ab kk;refine hK.out _ _ (dc.out _ HO.out.aP) fun hHeld=>?_;clear hK K
   try simp only[put,sA]
   clear kk;generalize (W7.alloc (.cells #[.int .i64 qx] 3)).drew=V5 at lW HO hHeld⊢;refine bf 8 (fun K hK=>?_);skip;have hO:=HO.out.dt;rw[l5.out] at hO;refine Ke (by rfl) _ _ _ (by rfl) Wn.heap.size 3 iI (.int .i64 0) 1 8 underlying27 hI rW r8 sh (by rfl) (by decide) _ p (ints Kh) (by rfl) hO ⟨W7.heap.size,0,none⟩ 1 1 [.int .i64 qx] (by rfl) (by rfl) lW.out (by intro u hu;simp at hu;subst hu;rfl) (by unfold maxLen;omega) (by omega) HO.out.aP.size ?_;intro v6 w6 aj af dg;obtain⟨a9,c9,rfl⟩:=bP aj;have sJ:=hid (HO.out.mU (vK':=.slice a9 (p+1) c9) (l5.out) aj af dg);have h9:=HO.out.st.ae HO.out.dt (by decide) af;have z2:w6.cell? ⟨b4,257,none⟩=some (.slice aK p cK):=(by rw[h9.at_,yP]);have z3:w6.frozen? ⟨b4,257,none⟩=false:=h9.bb 257;have eI:=fG HO.out.aP HO.out.dt HO.out.aP.size af;clear aj af dg h9 hO;refine hK.out _ _ (dc.out _ eI) fun hHeld=>?_;clear hK K
   try simp only[put,sA]
   (refine an 9 ?_;try simp only[put,sA])
   refine bf 10 (fun K hK=>?_);skip;go_simp;refine hK.out _ _ (dc.out _ sJ.out.aP) fun hHeld=>?_;clear hK K
   try simp only[put,sA]
   refine wpAnyH_done (by kernel_rfl) ?_ _;have Co:=hid (Fq.out _ a9 c9 sJ.out);clear hHeld z2 z3 eI sJ HO;go_wp2;go_roundw
   ·exact⟨i+1,IK,a5,a9,p+1,c5,c9,by go_num,by omega,by omega,Co.out⟩
   simp[intOf];omega
  refine gG (fun K hK=>?_) ?_
  ·skip;go_simp;have kk:=al W7.drew (.cells #[.int .i64 qx] 3);have lW:Hid (∀j u,[Value.int .i64 qx][j]?=some u->((W7.alloc (.cells #[.int .i64 qx] 3)).drew).cell? ((⟨W7.heap.size,0,none⟩:Addr).add j)=some u):=cell_one_new W7.drew _ _;have HO:Hid (iN Wn b4 D.K k (.slice a5 (p+1) c5) R9 IK (.slice aK p cK) Kh ((W7.alloc (.cells #[.int .i64 qx] 3)).drew)):=HO.out.ab kk;refine hK.out _ _ (dc.out _ HO.out.aP) fun hHeld=>?_;clear hK K
   try simp only[put,sA]
   clear kk;generalize (W7.alloc (.cells #[.int .i64 qx] 3)).drew=V5 at lW HO hHeld⊢;refine bf 1 (fun K hK=>?_);skip;have f2:=HO.out.f2;go_simp;refine hK.out _ _ (hHeld) fun hHeld=>?_;clear hK K
   try simp only[put,sA]
   clear f2;refine bf 8 (fun K hK=>?_);skip;have hO:=HO.out.dt;rw[l5.out] at hO;refine Ke (by rfl) _ _ _ (by rfl) Wn.heap.size 3 iI (.int .i64 0) 1 8 underlying27 hI rW r8 sh (by rfl) (by decide) _ p (ints Kh) (by rfl) hO ⟨W7.heap.size,0,none⟩ 1 1 [.int .i64 qx] (by rfl) (by rfl) lW.out (by intro u hu;simp at hu;subst hu;rfl) (by unfold maxLen;omega) (by omega) HO.out.aP.size ?_;intro v6 w6 aj af dg;obtain⟨a9,c9,rfl⟩:=bP aj;have sJ:=hid (HO.out.mU (vK':=.slice a9 (p+1) c9) (l5.out) aj af dg);have h9:=HO.out.st.ae HO.out.dt (by decide) af;have z2:w6.cell? ⟨b4,257,none⟩=some (.slice aK p cK):=(by rw[h9.at_,yP]);have z3:w6.frozen? ⟨b4,257,none⟩=false:=h9.bb 257;have eI:=fG HO.out.aP HO.out.dt HO.out.aP.size af;clear aj af dg h9 hO;refine hK.out _ _ (dc.out _ eI) fun hHeld=>?_;clear hK K
   try simp only[put,sA]
   (refine an 9 ?_;try simp only[put,sA])
   refine bf 10 (fun K hK=>?_);skip;go_simp;refine hK.out _ _ (dc.out _ sJ.out.aP) fun hHeld=>?_;clear hK K
   try simp only[put,sA]
   refine wpAnyH_done (by kernel_rfl) ?_ _;have Co:=hid (Fq.out _ a9 c9 sJ.out);clear hHeld z2 z3 eI sJ HO;go_wp2;go_roundw
   ·exact⟨i+1,IK,a5,a9,p+1,c5,c9,by go_num,by omega,by omega,Co.out⟩
   simp[intOf];omega
  exact AllReadyH.nil
 obtain rfl:i=D.n:=by omega
 obtain rfl:p=B:=HP.trans (HB.out.2.2.2.1.ic);have Rj:=hid HT;have jc:=hid HT.st;have fV:=hid (H0.out.2.1.ab HT.aP);have hd:=mV D.K (.slice aN p cN) (.slice aK p cK);have Fs:Hid (w.heap.size<=Wn.heap.size):=H0.out.2.2.size;have Bh:Hid (Below w.heap.size w (wr.setRow b2 (dH D.K (.slice aN p cN) (.slice aK p cK)))):=
  kT ((show Below w.heap.size w Wn by rw[Hb.out.1];exact H0.out.2.2).trans (HT.aP.mono Fs.out)) (by have:=Hb.out;omega) _
 have mB:(qA D C f (bH f D.n)).length=p:=by rw[HP];simp[qA]
 have HF:Hid (B2 D C p (fun b c=>kC D f ((bH f D.n).getD b 0) c) (fun b=>D.q ((bH f D.n).getD b 0)) w (.returned (.agg (dH D.K (.slice aN p cN) (.slice aK p cK)))) (wr.setRow b2 (dH D.K (.slice aN p cN) (.slice aK p cK)))):=
  Rj.out.Sl HB.out.1.dm.kl mB (fun r hr=>by unfold qA at hr;obtain⟨j,_,rfl⟩:=List.mem_map.1 hr;simp) (zm8 _ _ _ HP) (fun j hj c hc=>by
   have hj2:j<(bH f D.n).length:=by omega
   unfold qA
   simp[getD_eq_getElem?_getD,hj2,hc]) Fs.out (inr ⟨b2,_,_,fV.out,rfl⟩) Bh.out
 clear HT mB HP;go_wp2_with (first|(refine p6 rfl 29 _ rfl ⟨b4,0,none⟩ rfl (dH D.K (.slice aN p cN) (.slice aK p cK)) _ jc.out.part underlying29 rfl (by rw[fD,hd]) ?_)|(refine lJ rfl 29 _ _ rfl b2 29 (zC 29) (dH D.K (.slice aN p cN) (.slice aK p cK)) rfl rfl fV.out (by rw[gY,hd]) (by rw[fD,hd]) (xY _ _ _ _ _ _ _) ?_));refine bodyPost_ret (results_cell_row rfl _ _ b2 29 (dH D.K (.slice aN p cN) (.slice aK p cK)) (0,0) _ rfl fV.out.setRow underlying29 rfl (by rw[fD,hd])) rfl ?_;exact HF.out
theorem zhF(n:Nat)(hn:n<=1000000)(W:World):(makeSlice 112 (.int .i64 0) (.int .i64 (n:Int))).run prog W=.ok (.slice (some ⟨W.heap.size,0,none⟩) 0 n) (W.alloc (.cells (madeCells #[.int .u8 0] n) 5)):=by
 obtain⟨i0,hi,dy,cJ,cv⟩:=info_parts ll;have h:=run_makeSlice (P:=prog) W 112 5 i0 (.int .u8 0) underlying112 hi dy .i64 .i64 0 (n:Int) (by omega) (by omega) (by rw[cJ];simp;omega) (by rw[cv];omega) (by omega);have e:(Value.int .u8 0).cells=#[.int .u8 0]:=rfl;rw[cJ,e] at h;simpa using h
theorem zeb(n:Nat)(hn:n<=1000000)(W:World)(B:Nat)(hB:B<=W.heap.size):(W.alloc (.cells (madeCells #[.int .u8 0] n) 5)).ownsRow B 5 1 (.slice (some ⟨W.heap.size,0,none⟩) 0 n) 0 []:=
 World.ownsRow_made W _ n hB (by unfold maxLen;omega) (by have:=size_madeCells #[Value.int .u8 0] n;simpa using this)
theorem cell_two_new(w:World)(a b:Value)(t:TypeId):∀j u,[a,b][j]?=some u->(w.alloc (.cells #[a,b] t)).cell? ((⟨w.heap.size,0,none⟩:Addr).add j)=some u:=by
 intro j u h;have hS:=(St.new w t #[a,b]).part;exact hS j u h
theorem zhG(n:Nat)(hn:2*n<=1000000)(W:World):(makeSlice 112 (.int .i64 0) (.int .i64 (2*(n:Int)))).run prog W=.ok (.slice (some ⟨W.heap.size,0,none⟩) 0 (2*n)) (W.alloc (.cells (madeCells #[.int .u8 0] (2*n)) 5)):=by
 have h:=zhF (2*n) hn W;rwa [show ((2*n:Nat):Int)=2*(n:Int) by omega] at h
def rz(D:Dd)(k:Nat):Value:=.string (strOf (jg (fun i=>D.nx i k) D.n))
theorem DM.rowAt(h:DM w D){g off:Nat}(e:D.aN=some ⟨g,off,none⟩)(hi:i<D.n):w.cell? ⟨g,off+i,none⟩=some (.slice (D.A i) (D.len i) (D.Cp i))/\kW w (D.A i) (D.len i) (D.nx i):=by
 obtain⟨g',lg,e',_,h1,h2⟩:=h.row i hi;rw[e] at e';injection e' with e';injection e' with e1 e2;subst e1 e2;exact⟨h1,h2⟩
def YB(D:Dd)(C:Nat)(w:World)(e:Ending)(w':World):Prop:=
 ∃(a:Option Addr) (c:Nat),e=.returned (.slice a C c)/\w'.ownsRow w.heap.size 9 1 (.slice a C c) C ((range C).map (rz D))/\Below w.heap.size w w'
theorem zm5(x:Int):IntKind.u16.wrap x=((mN x:Nat):Int):=by
 have h:IntKind.u16.wrap x=x % 65536:=by simp[wrap,IntKind.bits,signed]
 rw[h];unfold mN;omega
theorem zm6(z:Nat->Int)(i y:Nat)(hy:mN (z i)=y):lR (jg z (i+1))=lR (jg z i)++[.int .u8 ((y:Int) % 256),.int .u8 ((y:Int) / 256)]:=by
 subst hy;rw[jg,lR,map_append];congr 1
theorem zfK(D:Dd)(C:Nat)(hR:DR D C)(w:World)(hD:DM w D):Calls prog 78 #[.agg D.cD] w (YB D C w):=by
 have cU:=hR.n2;have da:=hR.n1;have tX:=(hR.iq hD.kl).2;have eR:=zhG D.n (by omega);have hk:=hD.kl;have HB:=hid (Zz (bz.new hD) (Zz (al w (.cells D.cD 29)) hR));obtain⟨iU,hU,hU0,hU1,hU2⟩:=info_parts ll;obtain⟨iS,hS,hS0,Ho,hS2⟩:=info_parts o9;clear hD hR;go_in;go_upto_region 1 with fail;generalize w.alloc (.cells D.cD 29)=W0 at HB⊢;obtain⟨b0,ay⟩:∃b0,w.heap.size=b0:=⟨_,rfl⟩
 rw[ay] at HB;rw[ay];have bW:=hid ay;clear ay;have tO:=hid (FC D.K C HB.out.2.2.c hk W0);go_wp2_with (refine p6 rfl 25 _ rfl ⟨b0,0,none⟩ rfl (aQ D.K) (.array 256 5) HB.out.1.dG underlying25 rfl (vt D.K) ?_);refine tO.out.mono ?_;rintro e w1 ⟨rfl,b1⟩;have HG1:Hid (w.heap.size<=W0.heap.size):=show w.heap.size<=W0.heap.size by have:=HB.out.2.1.size;have:=bW.out;omega
 have sy:Hid (w1.ownsRow W0.heap.size 9 1 (.slice none 0 0) 0 ((range 0).map (rz D))/\Below W0.heap.size W0 w1):=⟨World.ownsRow_nil _ _ _ _,b1⟩
 clear b1 tO;go_wp2;go_loopw [3,4,5,7,8,12] (fun v3 _ _ _ _ vk wr=>∃(k:Nat) (a3:Option Addr) (c3:Nat),v3=.slice a3 k c3/\vk=.int .i64 k/\k<=C/\Hid (wr.ownsRow W0.heap.size 9 1 v3 k ((range k).map (rz D))/\Below W0.heap.size W0 wr)) (fun _ _ _ _ _ v _=>C-(intOf v).toNat)
 ·exact⟨0,none,0,rfl,rfl,zero_le _,sy.out⟩
 clear sy;obtain⟨k,a3,c3,rfl,rfl,fm,HL⟩:=hrel;by_cases aq:k<C
 ·have Aq:=hid (HB.out.1.ab HL.out.2);have f1:=Aq.out.f1;obtain⟨gN,oN,eN,km,_,_⟩:=Aq.out.dm.row 0 (by omega);rw[eN] at f1;have wF:=hid (Zz eN km);have i1:(k:Int)<C:=by omega
  have yI:=hid (zeb (2*D.n) (by omega) wr wr.heap.size (le_refl _));have oq:=hid (al wr (.cells (madeCells #[.int .u8 0] (2*D.n)) 5));clear eN km;go_upto_region 6 with fail;obtain⟨g,hg⟩:∃g,wr.heap.size=g:=⟨_,rfl⟩
  have kq:Hid ((wr.alloc (.cells (madeCells #[.int .u8 0] (2*D.n)) 5)).ownsRow g 5 1 (.slice (some ⟨g,0,none⟩) 0 (2*D.n)) 0 (lR (jg (fun i=>D.nx i k) 0))/\Below g wr (wr.alloc (.cells (madeCells #[.int .u8 0] (2*D.n)) 5))):=by
   rw[<-hg];exact⟨yI.out,oq.out⟩
  have Hg:=hid hg;have Kc:=(oq.out.cell (p:=⟨b0,256,none⟩) Aq.out.st.lt).trans f1
  try rw[hg]
  clear yI oq hg f1;generalize wr.alloc (.cells (madeCells #[.int .u8 0] (2*D.n)) 5)=W6 at kq Kc⊢;obtain⟨wo,Km⟩:∃wo,wo=wr:=⟨wr,rfl⟩
  subst Km;go_wp2;go_loopw [5,7,8,23] (fun v5 _ _ vi wq=>∃(i:Nat) (a5:Option Addr) (c5:Nat),v5=.slice a5 (2*i) c5/\vi=.int .i64 i/\i<=D.n/\Hid (wq.ownsRow g 5 1 v5 (2*i) (lR (jg (fun i=>D.nx i k) i))/\Below g wo wq)) (fun _ _ _ v _=>D.n-(intOf v).toNat)
  ·exact⟨0,_,_,rfl,rfl,zero_le _,kq⟩
  clear kq Kc;obtain⟨i,a5,c5,rfl,rfl,hi,HA⟩:=hrel;have kP:Hid (Below wo.heap.size wo wr):=by rw[Hg.out];exact HA.out.2
  have HBq:=hid (Aq.out.ab kP.out);by_cases qu:i<D.n
  ·obtain⟨qB,zN⟩:=HBq.out.dm.rowAt wF.out.1 qu;rw[HB.out.2.2.len i qu] at qB zN;obtain⟨gr,or9,eA,oh,cz⟩:=zN (by omega);rw[eA] at qB;have cz1:=cz k aq;have i2:(i:Int)<(D.n:Int):=(by omega);obtain⟨x,hx⟩:∃x,D.nx i k=x:=(⟨_,rfl⟩);have Hx:=hid hx;rw[hx] at cz1;clear zN eA cz oh hx;have hW:=zm5 x;obtain⟨y,hy⟩:∃y:Nat,mN x=y:=(⟨_,rfl⟩);have Hy:=hid (zm6 (fun i=>D.nx i k) i y (by show mN (D.nx i k)=y;rw[Hx.out];exact hy));rw[hy] at hW;have EA:y<65536:=(by rw[<-hy];exact Nn x);clear hy;have vw:=HA.out.1;have hgs9:g<=wr.heap.size:=(by have:=HA.out.2.size;have:=Hg.out;omega);go_wp2_with (at_builtin;refine wpList_append_own_at _ rfl _ _ 112 rfl g 5 iU (.int .u8 0) 1 1 underlying112 hU hU0 hU1 hU2 rfl (by decide) _ _ _ rfl (vw.alloc _) ⟨wr.heap.size,0,none⟩ 2 2 [.int .u8 ((y:Int) % 256),.int .u8 ((y:Int) / 256)] rfl rfl (cell_two_new _ _ _ _) ?d2 ?d3 ?d4 ?d5 ?_)
   case d2=>first|(intro u hu;simp at hu;rcases hu with rfl|rfl <;> rfl)|rfl
   case d3=>unfold maxLen;omega
   case d4=>omega
   case d5=>first|(simp;omega)|omega
   intro v' w5 ah ag _ bJ;obtain⟨a6,c6,rfl⟩:=bP ah;have HF:Hid (w5.ownsRow g 5 1 (.slice a6 (2*i+2) c6) (2*i+2) (lR (jg (fun i=>D.nx i k) (i+1)))/\Below g wo w5):=by
    have k9:=al wr (.cells #[.int .u8 ((y:Int) % 256),.int .u8 ((y:Int) / 256)] 5);have U2:g<=wr.heap.size:=(by have:=HA.out.2.size;have:=Hg.out;omega);refine⟨?_,fG (HA.out.2.trans (k9.mono U2)) (cY HA.out.1 k9) (by simp;omega) ag⟩;rw[Hy.out];exact ah
   clear ah ag bJ vw;go_wp2;go_roundw
   ·exact⟨i+1,a6,c6,rfl,by go_num,by omega,HF.out⟩
   simp[intOf];omega
  obtain rfl:i=D.n:=by omega
  have hcv:=Lk (HA.out.1) (by rw[Mu]);have Sp:=cY HL.out.1 kP.out;have Tv:=kP.out;have hs9:W0.heap.size<=wr.heap.size:=by have:=Tv.size;have:=HL.out.2.size;omega
  go_wp2_with (at_builtin;refine wpList_append_own_at _ rfl _ _ 110 rfl W0.heap.size 9 iS (.string ⟨#[]⟩) 1 16 underlying110 hS hS0 Ho hS2 rfl (by decide) _ _ _ rfl (Sp.alloc _) ⟨wr.heap.size,0,none⟩ 1 1 [rz D k] rfl rfl (cell_one_new _ _ _) ?d2 ?d3 ?d4 ?d5 ?_)
  case d2=>first|(intro u hu;simp at hu;subst hu;rfl)|rfl
  case d3=>unfold maxLen;omega
  case d4=>omega
  case d5=>first|(simp;omega)|omega
  intro v' w5 ah ag _ bJ;obtain⟨a6,c6,rfl⟩:=bP ah;have HF:Hid (w5.ownsRow W0.heap.size 9 1 (.slice a6 (k+1) c6) (k+1) ((range (k+1)).map (rz D))/\Below W0.heap.size W0 w5):=by
   have k9:=al wr (.cells #[rz D k] 9);have mC:=HL.out.2.size;have kM:=Tv.size;refine⟨?_,fG ((HL.out.2.trans (Tv.mono mC)).trans (k9.mono (by omega))) (cY Sp k9) (by simp;omega) ag⟩;rw[range_succ,map_append];exact ah
  clear ah ag bJ Sp;go_wp2;go_roundw
  ·exact⟨k+1,a6,c6,rfl,by go_num,by omega,HF.out⟩
  simp[intOf];omega
 obtain rfl:k=C:=by omega
 have HF:Hid (YB D k w (.returned (.slice a3 k c3)) wr):=by
  have h1:=HB.out.2.1;have h2:=HL.out.2;have h3:=HG1.out;have hs:=h1.size;have mC:=bW.out;rw[<-mC] at h1;exact⟨a3,c3,rfl,ga HL.out.1 h3,h1.trans (h2.mono (by omega))⟩
 clear HL;go_wp2;go_ret;exact HF.out
theorem Ue:∀j,j<256->(zC 29)[j]?=some (.int .u8 0):=by
 have h:(range 256).all (fun j=>match (zC 29)[j]? with|some (.int .u8 0)=>true|_=>false)=true:=by kernel_rfl
 intro j hj;have h1:=List.all_eq_true.1 h j (by simpa using hj);split at h1
 ·rename_i e;rw[e]
 cases h1
theorem zjJ(b:Option Addr)(m d:Nat)(W:World):(Instr.build 29 #[(2,.slice b m d)]).run prog W=.ok (.agg (dH (fun _=>0) (.slice none 0 0) (.slice b m d))) W:=by
 have e:prog.built 29 [(2,.slice b m d)]=fill (fun i=>#[(0,256),(256,1),(257,1)][i]?) (zC 29) [(2,.slice b m d)]:=by kernel_rfl
 have hz:=gY;obtain⟨d1,d2⟩:=AW;obtain⟨q1,q2⟩:=yZ (zC 29) #[.slice b m d] 257 (by rw[hz];simp);rw[zf _ _ 2 257 1 (.slice b m d) [] (by rfl) (by rfl) (by rw[hz];omega)] at e;rw[show (Value.slice b m d).cells=#[.slice b m d] from rfl] at e;simp only[List.size_toArray,List.length_cons,List.length_nil] at q2;have e4:putAt (zC 29) #[.slice b m d] 257=dH (fun _=>0) (.slice none 0 0) (.slice b m d):=by
  refine DE _ _ _ _ (by rw[q1,hz]) (fun j hj=>by rw[q2,if_neg (by omega),Ue j hj];rfl) (by rw[q2,if_neg (by omega),d1]) (by rw[q2,if_pos (by omega)];rfl)
 rw[e4] at e;exact run_build W _ _ _ e
theorem YX(K:Nat->Nat)(vN vK:Value)(j v:Nat)(hj:j<256):(dH K vN vK).setIfInBounds j (.int .u8 (v:Int))=dH (fun i=>if i=j then v else K i) vN vK:=by
 refine DE _ vN vK _ (by rw[Array.size_setIfInBounds,mV]) (fun i hi=>?_) ?_ ?_
 ·by_cases e:i=j
  ·subst e;rw[Array.getElem?_setIfInBounds_self_of_lt (by rw[mV];omega),if_pos rfl]
  rw[Array.getElem?_setIfInBounds_ne (fun h=>e h.symm),As K vN vK i hi,if_neg e]
 ·rw[Array.getElem?_setIfInBounds_ne (by omega),qp]
 rw[Array.getElem?_setIfInBounds_ne (by omega),yP]
theorem U5:∀i,(∀j,j<i->f j=g j)->bH f i=bH g i:=by
 intro i
 induction i with
 | zero=>intro _;rfl
 | succ i ih=>
  intro h;have e:=ih (fun j hj=>h j (by omega));show (if f i<(bH f i).length then bH f i else bH f i++[i])=if g i<(bH g i).length then bH g i else bH g i++[i]
  rw[e,h i (by omega)]
def cS(D:Dd)(c:Nat):ByteArray:=strOf (jg (fun i=>D.nx i c) D.n)
theorem zqp(D:Dd)(c:Nat):(cS D c).size=2*D.n:=by unfold cS;rw[zd,Mu]
theorem zqW(hR:DR D C){a b:Nat}(ha:a<C)(hb:b<C):cS D a=cS D b↔∀i,i<D.n->D.nx i a=D.nx i b:=by
 have cU:=hR.n2;rw[<-zmQ (n:=D.n) (z:=fun i=>D.nx i a) (z':=fun i=>D.nx i b) (fun i hi=>by have:=hR.nx i a hi ha;omega) (fun i hi=>by have:=hR.nx i b hi hb;omega)];unfold cS;constructor
 ·intro h;have h1:=congrArg (fun s:ByteArray=>s.data.toList) h;simp only[yJ] at h1;exact Pl (zgq _ _) (zgq _ _) h1
 intro h;rw[h]
def Nj(nm:List ByteArray)(key val:Value):Prop:=∃(b:Nat) (s:ByteArray),nm[b]?=some s/\key=.string s/\val=.int .u8 ((b:Nat):Int)
theorem zhH(W:World):(makeMap 128 none).run prog W=.ok (.map (some W.heap.size)) (W.alloc (.map #[] 0)):=by
 kernel_rfl
theorem zm7(w:World):(zeroValue 5).run prog w=.ok (.int .u8 0) w:=by kernel_rfl
structure qz (W0:World)(D:Dd)(C bM b4:Nat)(vC:Value)(k:Nat)(v6:Value)(nm:List ByteArray)(g:Nat->Nat)(w:World):Prop where
 aP:Below W0.heap.size W0 w
 map:dV w 9 bM nm.length (Nj nm)
 kept:w.ownsRow W0.heap.size 3 1 v6 nm.length (cW ((bH g k).map D.K))
 kl:(bH g k).length=nm.length
 st:St w 29 b4 (dH (fun j=>if j<k then g j else 0) (.slice none 0 0) (.slice D.aM D.m D.cM))
 D8:w.ownsRow W0.heap.size 9 1 vC C ((range C).map (rz D))
 at_:∀i,i<k->nm[g i]?=some (cS D (D.K i))
 num:fH (jy D D.n) k g nm.length
 Mt:W0.heap.size<=bM
 KF:W0.heap.size<=b4
 nk:nm.length<=k
section
variable {W0 : World}{D : Dd}{C bM b4 : Nat}{vC : Value}{k : Nat}{v6 : Value}{nm : List ByteArray}{g : Nat → Nat}{w : World}
theorem qz.mem(h:qz W0 D C bM b4 vC k v6 nm g w)(s:ByteArray):s∈nm↔∃i,i<k/\cS D (D.K i)=s:=by
 constructor
 ·intro hm;obtain⟨b,hb,e⟩:=getElem_of_mem hm;obtain⟨i,h1,h2,_⟩:=h.num.new b hb;refine⟨i,h1,?_⟩;have:=h.at_ i h1;rw[h2,getElem?_eq_getElem hb,e] at this;exact (Option.some.inj this).symm
 rintro⟨i,hi,rfl⟩;exact mem_of_getElem? (h.at_ i hi)
theorem qz.look(h:qz W0 D C bM b4 vC k v6 nm g w)(s:ByteArray)(hs:s.size<=1000000):
  (∃b,nm[b]?=some s/\(lookup 128 (.map (some bM)) (.string s) true).run prog w=.ok (.tuple #[.int .u8 ((b:Nat):Int),.bool true]) w)\/
  (s∉nm/\(lookup 128 (.map (some bM)) (.string s) true).run prog w=.ok (.tuple #[.int .u8 0,.bool false]) w):=by
 rcases h.map.ex.nf B7 underlying128 (zm7 w) (Go.WideMaps.keyOf_string_mk underlying9 (s:=s) (by unfold maxLen;omega)) with ⟨ct,gd⟩|⟨v,⟨b,s',h1,h2,rfl⟩,ct⟩
 ·refine inr ⟨fun hm=>?_,ct⟩;obtain⟨b,hb,e⟩:=getElem_of_mem hm;exact gd _ ⟨b,s,by rw[getElem?_eq_getElem hb,e],rfl,rfl⟩
 injection h2 with h2;exact inl ⟨b,by rw[h2];exact h1,ct⟩
theorem qz.put(h:qz W0 D C bM b4 vC k v6 nm g w)(s:ByteArray)(hs:s.size<=1000000)(hn:nm.length<maxLen)(hb:s∉nm):
  ∃w',(mapUpdate 128 (.map (some bM)) (.string s) (.int .u8 (nm.length:Int))).run prog w=.ok () w'/\dV w' 9 bM (nm.length+1) (Nj (nm++[s]))/\w.grownBy w' (some bM):=by
 refine h.map.update B7 underlying128 hn (Go.WideMaps.keyOf_string_mk underlying9 (s:=s) (by unfold maxLen;omega)) ?_ ?_ ?_ ?_
 ·rintro y ⟨k,s',h1,h2,_⟩;injection h2 with h2;rw[<-h2] at h1;exact hb (mem_of_getElem? h1)
 ·rintro a b ⟨k,s',h1,h2,h3⟩;exact⟨k,s',by rw[getElem?_append_left (List.getElem?_eq_some_iff.1 h1).1];exact h1,h2,h3⟩
 ·exact⟨nm.length,s,by simp,rfl,rfl⟩
 rintro a b ⟨k,s',h1,h2,h3⟩ hne;by_cases e:k<nm.length
 ·rw[getElem?_append_left e] at h1;exact⟨b,k,s',h1,h2,h3⟩
 rw[List.getElem?_append_right (by omega)] at h1;cases hj:k-nm.length with
 | zero=>rw[hj] at h1;simp at h1;exact absurd (by rw[h2,h1]) hne
 | succ j=>rw[hj] at h1;simp at h1
theorem Us(g:Nat->Nat)(k b:Nat):(fun i=>if i=k then b else if i<k then g i else 0)=fun j=>if j<k+1 then (if j=k then b else g j) else 0:=by
 funext i;by_cases e:i=k
 ·rw[if_pos e,if_pos (by omega),if_pos e]
 rw[if_neg e];by_cases e2:i<k
 ·rw[if_pos e2,if_pos (by omega),if_neg e]
 rw[if_neg e2,if_neg (by omega)]
theorem ZV(hR:DR D C){a b:Nat}(ha:a<256)(hb:b<256):cS D (D.K a)=cS D (D.K b)↔jy D D.n a b:=zqW hR (hR.c.1 a ha) (hR.c.1 b hb)
theorem dV.set{k:TypeId}{b t g:Nat}{Q:Value->Value->Prop}(h:dV w k b n Q)(h':St w t g cs):dV (w.setCell ⟨g,i,none⟩ u) k b n Q:=by
 refine h.same (Below.heap_setCell _ _ _ _ ?_);intro e;obtain⟨es,clock,hb,_⟩:=h;have h2:w.heap[g]?=_:=h';rw[show b=g from e,h2] at hb;cases hb
theorem qz.jC{b:Nat}(hR:DR D C)(hk:k<256)(h:qz W0 D C bM b4 vC k v6 nm g w)(hb:nm[b]?=some (cS D (D.K k))):
  ∃g',qz W0 D C bM b4 vC (k+1) v6 nm g' (w.setCell ⟨b4,k,none⟩ (.int .u8 (b:Int))):=by
 have gp:b<nm.length:=(List.getElem?_eq_some_iff.1 hb).1;obtain⟨i,h1,h2,_⟩:=h.num.new b gp;have hi:=h.at_ i h1;rw[h2,hb] at hi;have hi:=Option.some.inj hi;have hE:jy D D.n i k:=(ZV hR (by omega) hk).1 hi.symm;have AG:bH (fun j=>if j=k then b else g j) (k+1)=bH g k:=by
  have e0:bH (fun j=>if j=k then b else g j) k=bH g k:=U5 k (fun j hj=>by simp only[if_neg (show ¬j=k by omega)]);rw[CK (f:=fun j=>if j=k then b else g j) (by rw[e0,h.kl];simp only[if_pos rfl];exact gp),e0]
 refine⟨fun j=>if j=k then b else g j,h.aP.setCell (p:=⟨b4,k,none⟩) h.KF _,h.map.set h.st,by rw[AG];exact jz h.kept h.st (by decide) _ _,by rw[AG];exact h.kl,?_,jz h.D8 h.st (by decide) _ _,fun j hj=>?_,?_,h.Mt,h.KF,by have:=h.nk;omega⟩
 ·have:=h.st.set k (.int .u8 (b:Int));rw[YX _ _ _ k b hk,Us] at this;exact this
 ·by_cases e:j=k
  ·simp only[if_pos e];rw[e];exact hb
  simp only[if_neg e];exact h.at_ j (by omega)
 have:=h.num.jC (fun i j e x hx=>(e x hx).symm) (fun i j l e e2 x hx=>(e x hx).trans (e2 x hx)) (fun i x hx=>rfl) h1 hE;rw[h2] at this;exact this
theorem qz.fresh{w2 w3:World}{FM:Value}(hR:DR D C)(hk:k<256)(h:qz W0 D C bM b4 vC k v6 nm g w)(hb:cS D (D.K k)∉nm)(hm:dV w1 9 bM (nm.length+1) (Nj (nm++[cS D (D.K k)])))(lU:w.grownBy w1 (some bM))
  (k2:Below w1.heap.size w1 w2) (hg:w2.grownBy w3 v6.ownBlock) (ho:w3.ownsRow W0.heap.size 3 1 FM (nm.length+1) (cW ((bH g k).map D.K)++[.int .i64 ((D.K k:Nat):Int)])):
  ∃g',qz W0 D C bM b4 vC (k+1) FM (nm++[cS D (D.K k)]) g' (w3.setCell ⟨b4,k,none⟩ (.int .u8 (nm.length:Int))):=by
 have mG:Below W0.heap.size W0 w1:=h.aP.grown lU h.aP.size (fun g e=>by injection e with e;rw[<-e];exact h.Mt);have mR:=mG.trans (k2.mono mG.size);have o2:=cY (yk h.kept h.map.ex.of lU) k2;have c2:=cY (yk h.D8 h.map.ex.of lU) k2;have m2:=hm.same (k2.block _ hm.lt);have s2:=(h.st.eb h.map.ex.of lU).ab k2;have s3:=s2.ae o2 (by decide) hg;have m3:=m2.ae o2 hg;have c3:=qI c2 hg (fun b e e2=>im c2 o2 (by decide) b e e2.symm);have B3:=fG mR o2 mR.size hg;have AG:bH (fun j=>if j=k then nm.length else g j) (k+1)=bH g k++[k]:=by
  have e0:bH (fun j=>if j=k then nm.length else g j) k=bH g k:=U5 k (fun j hj=>by simp only[if_neg (show ¬j=k by omega)]);rw[Ci (f:=fun j=>if j=k then nm.length else g j) (by rw[e0,h.kl];show ¬(if k=k then nm.length else g k)<nm.length;rw[if_pos rfl];omega),e0]
 have hlen:(nm++[cS D (D.K k)]).length=nm.length+1:=by simp
 refine⟨fun j=>if j=k then nm.length else g j,B3.setCell (p:=⟨b4,k,none⟩) h.KF _,by rw[hlen];exact m3.set s3,?_,by rw[AG,hlen,length_append,h.kl];rfl,?_,jz c3 s3 (by decide) _ _,fun j hj=>?_,?_,h.Mt,h.KF,by rw[hlen];have:=h.nk;omega⟩
 ·rw[AG,hlen,map_append,show cW ((bH g k).map D.K++[k].map D.K)=cW ((bH g k).map D.K)++[.int .i64 ((D.K k:Nat):Int)] by simp[cW]];exact jz ho s3 (by decide) _ _
 ·have:=s3.set k (.int .u8 (nm.length:Int));rw[YX _ _ _ k _ hk,Us] at this;exact this
 ·by_cases e:j=k
  ·simp only[if_pos e];rw[e];simp
  simp only[if_neg e];have:=h.at_ j (by omega);rw[getElem?_append_left (List.getElem?_eq_some_iff.1 this).1];exact this
 rw[hlen];exact h.num.fresh (fun i j e x hx=>(e x hx).symm) (fun i x hx=>rfl) (fun i hi e=>hb ((h.mem _).2 ⟨i,hi,(ZV hR (by omega) hk).2 e⟩))
end
structure tr (W0:World)(D:Dd)(b4 C':Nat)(K':Nat->Nat)(vN:Value)(R:List (List Int))(ws:Nat->Value)(v6:Value)(l:List Nat)(w:World):Prop where
 aP:Below W0.heap.size W0 w
 st:St w 29 b4 (dH K' vN (.slice D.aM D.m D.cM))
 next:bE w W0.heap.size 27 3 1 vN R.length ws (fun _=>C') (fun j=>ints (R.getD j []))
 kept:w.ownsRow W0.heap.size 3 1 v6 C' (cW l)
 sep:∀i,i<R.length->∀b,(ws i).ownBlock=some b->v6.ownBlock≠some b
 lo:W0.heap.size<=b4
section
variable {W0 : World}{D : Dd}{b4 C' : Nat}{K' : Nat → Nat}{vN v6 : Value}{R : List (List Int)}{ws : Nat → Value}{l : List Nat}{w : World}
theorem tr.ab(h:tr W0 D b4 C' K' vN R ws v6 l w)(k:Below w.heap.size w w1):tr W0 D b4 C' K' vN R ws v6 l w1:=
 ⟨h.aP.trans (k.mono h.aP.size),h.st.ab k,h.next.ab k,cY h.kept k,h.sep,h.lo⟩
theorem tr.f1(h:tr W0 D b4 C' K' vN R ws v6 l w):w.cell? ⟨b4,256,none⟩=some vN:=by rw[h.st.at_,qp]
theorem qz.done{vC:Value}{nm:List ByteArray}{ws:Nat->Value}(h:qz W0 D C bM b4 vC 256 v6 nm g w)(hm:nm.length=C'):tr W0 D b4 C' (fun j=>if j<256 then g j else 0) (.slice none 0 0) [] ws v6 ((bH g 256).map D.K) w:=by
 subst hm;exact⟨h.aP,h.st,⟨World.ownsRow_nil _ _ _ _,fun i hi=>absurd hi (by simp),fun i j hi=>absurd hi (by simp)⟩,h.kept,fun i hi=>absurd hi (by simp),h.KF⟩
theorem tr.gu{vN':Value}{row:List Int}{q:Nat}(h:tr W0 D b4 C' K' vN R ws v6 l w)(hu:w.ownsRow W0.heap.size 3 1 u C' (ints row))(hs:∀i,i<R.length->∀b,(ws i).ownBlock=some b->u.ownBlock≠some b)(tN:∀b,u.ownBlock=some b->v6.ownBlock≠some b)(hq:R.length=q)
  (ho:w'.ownsRow W0.heap.size 27 1 vN' (q+1) ((range q).map ws++[u])) (hg:w.grownBy w' vN.ownBlock):tr W0 D b4 C' K' vN' (R++[row]) (fun j=>if j=q then u else ws j) v6 l (w'.setCell ⟨b4,256,none⟩ vN'):=by
 subst hq;have bU:St w' 29 b4 (dH K' vN (.slice D.aM D.m D.cM)):=h.st.ae h.next.own (by decide) hg
 have h1:bE w W0.heap.size 27 3 1 vN R.length ws (fun _=>C') (fun j=>ints ((R++[row]).getD j [])):=h.next.congr (fun i hi=>⟨rfl,by simp[getD_eq_getElem?_getD,getElem?_append_left hi]⟩)
 have h2:=h1.p8 (v':=vN') (u:=u) (w':=w') (by decide) (by simpa [getD_eq_getElem?_getD] using hu) hs ho hg;have hm:w'.ownsRow W0.heap.size 3 1 v6 C' (cW l):=qI h.kept hg (fun b e e2=>im h.kept h.next.own (by decide) b e e2.symm);refine⟨(fG h.aP h.next.own h.aP.size hg).setCell (p:=⟨b4,256,none⟩) h.lo _,?_,?_,Ad hm bU (by decide),?_,h.lo⟩
 ·have:=bU.set 256 vN';rwa [zjs] at this
 ·rw[length_append];exact⟨Ad h2.own bU (by decide),fun i hi=>Ad (h2.row i hi) bU (by decide),h2.sep⟩
 intro i hi b e;by_cases e1:i=R.length
 ·rw[if_pos e1] at e;exact tN b e
 rw[if_neg e1] at e;exact h.sep i (by simp at hi;omega) b e
def Ry(D:Dd)(w:World)(e:Ending)(w':World):Prop:=
 ∃(P:Dd) (g:Nat->Nat) (C':Nat),e=.returned (.agg P.cD)/\DM w' P/\fH (jy D D.n) 256 g C'/\sI D g C' P/\Below w.heap.size w w'
def nb(D:Dd)(l:List Nat)(n:Nat):List (List Int):=(range n).map fun i=>l.map (D.nx i)
theorem tr.fin{bR:Nat}{wS:World}{jC:Array Value}(hD:DM wS D)(hR:DR D C)(hN:fH (jy D D.n) 256 g C')(h:tr W0 D b4 C' (fun j=>if j<256 then g j else 0) vN (nb D ((bH g 256).map D.K) D.n) ws v6 ((bH g 256).map D.K) w)
  (hs:St w 29 bR jC) (hw:w'=w.setRow bR cs) (hB:Below wS.heap.size wS w'):Ry D wS (.returned (.agg (dH (fun j=>if j<256 then g j else 0) vN (.slice D.aM D.m D.cM)))) w':=by
 subst hw;obtain⟨aN,cN,rfl⟩:=bP h.next.own
 have hlen:(nb D ((bH g 256).map D.K) D.n).length=D.n:=by simp[nb]
 have pe:∀{B t n:Nat}{v:Value}{xs:List Value},t≠29->w.ownsRow B t 1 v n xs->(w.setRow bR cs).ownsRow B t 1 v n xs:=fun {B t n v xs} ht ho=>
  fC (ts:=[]) (bs:=[bR]) ho (IQ w bR cs) (by simp) (fun g e hm=>ew ho hs ht g e (List.mem_singleton.1 hm))
 have cU:bE (w.setRow bR cs) W0.heap.size 27 3 1 (.slice aN (nb D ((bH g 256).map D.K) D.n).length cN) (nb D ((bH g 256).map D.K) D.n).length ws (fun _=>C') (fun j=>ints ((nb D ((bH g 256).map D.K) D.n).getD j [])):=⟨pe (by decide) h.next.own,fun i hi=>pe (by decide) (h.next.row i hi),h.next.sep⟩
 have wh:∀r∈nb D ((bH g 256).map D.K) D.n,r.length=C':=by
  intro r hr;obtain⟨i,_,rfl⟩:=List.mem_map.1 hr;rw[length_map,length_map,hN.ic]
 have hm:=hR.m;have hg:∀j,j<256->g j<256:=fun j hj=>by have:=hN.le j hj;omega
 refine⟨⟨dH (fun j=>if j<256 then g j else 0) (.slice aN (nb D ((bH g 256).map D.K) D.n).length cN) (.slice D.aM D.m D.cM),fun j=>if j<256 then g j else 0,aN,(nb D ((bH g 256).map D.K) D.n).length,cN,fun i=>va (ws i),fun i=>xr (ws i),fun _=>C',fun i x=>((nb D ((bH g 256).map D.K) D.n).getD i []).getD x 0,D.aM,D.m,D.cM,D.q⟩,g,C',rfl,
  ⟨mV _ _ _,xY _ _ _ _ _ _ _,fun j hj=>As _ _ _ j hj,fun j hj=>?_,qp _ _ _,yP _ _ _,cU.zs rfl wh,(hD.below hB).rM⟩,hN,⟨fun b hb=>?_,hlen,hm,fun i hi=>rfl,fun i hi c hc=>?_,fun i hi=>rfl⟩,hB⟩
 ·show (if j<256 then g j else 0)<256;rw[if_pos hj];exact hg j hj
 ·show (if b<256 then g b else 0)=g b;rw[if_pos hb]
 show ((nb D ((bH g 256).map D.K) D.n).getD i []).getD c 0=D.nx i (D.K ((bH g 256).getD c 0));have fp:c<(bH g 256).length:=by rw[hN.ic];exact hc
 unfold nb;simp[getD_eq_getElem?_getD,hi,fp]
end
theorem Pr(D:Dd)(l:List Nat)(i:Nat):nb D l (i+1)=nb D l i++[l.map (D.nx i)]:=by
 unfold nb;rw[range_succ,map_append];rfl
theorem zpu(D:Dd)(l:List Nat)(i:Nat):(nb D l i).length=i:=by simp[nb]
theorem Nu(D:Dd)(C:Nat)(hR:DR D C)(w:World)(hD:DM w D):
  Calls prog 43 #[.agg D.cD] w (Ry D w):=by
 have cU:=hR.n2;have da:=hR.n1;have tX:=(hR.iq hD.kl).2;have xT:=hD.kl;have jw:=zhH;have HB:=hid (Zz (bz.new hD) (Zz (al w (.cells D.cD 29)) (Zz hR hD)));obtain⟨iI,hI,rW,r8,sh⟩:=info_parts aG;obtain⟨iV,hV,uJ,uY,ur⟩:=info_parts ez;have WG:=hid xT;clear hD hR xT;go_in;go_upto_region 1 with (refine nR rfl 29 rfl (zC 29) (lA _) ?_)
 try simp only[put,List.setIfInBounds_toArray,set_cons_zero,set_cons_succ,GV]
 have H0:Hid (bz ((w.alloc (.cells D.cD 29)).alloc (.cells (zC 29) 29)) w.heap.size D/\St ((w.alloc (.cells D.cD 29)).alloc (.cells (zC 29) 29)) 29 (w.heap.size+1) (zC 29)/\Below w.heap.size w ((w.alloc (.cells D.cD 29)).alloc (.cells (zC 29) 29))):=by
  refine⟨HB.out.1.ab (al _ _),?_,HB.out.2.1.trans ((al _ _).mono (by simp))⟩;have:=St.new (w.alloc (.cells D.cD 29)) 29 (zC 29);simpa using this
 generalize (w.alloc (.cells D.cD 29)).alloc (.cells (zC 29) 29)=Wn at H0⊢;obtain⟨b2,cr⟩:∃b2,w.heap.size+1=b2:=⟨_,rfl⟩
 obtain⟨b0,ay⟩:∃b0,w.heap.size=b0:=⟨_,rfl⟩
 rw[cr,ay] at H0;rw[cr,ay];have Hb:=hid (Zz ay cr);clear cr ay;have f2:=H0.out.1.f2;have k5:=al Wn (.cells (zC 29) 29);have gZ:St (Wn.alloc (.cells (zC 29) 29)) 29 Wn.heap.size (zC 29):=St.new _ _ _;have jc:=hid gZ;have jZ:Hid (St ((Wn.alloc (.cells (zC 29) 29)).setRow Wn.heap.size (dH (fun _=>0) (.slice none 0 0) (.slice D.aM D.m D.cM))) 29 Wn.heap.size (dH (fun _=>0) (.slice none 0 0) (.slice D.aM D.m D.cM))/\Below Wn.heap.size Wn ((Wn.alloc (.cells (zC 29) 29)).setRow Wn.heap.size (dH (fun _=>0) (.slice none 0 0) (.slice D.aM D.m D.cM)))):=⟨gZ.setRow,kT k5 (le_refl _) _⟩
 clear k5 gZ;go_upto_region 2 with (first
  | (refine AE rfl 29 _ rfl #[(2,.slice D.aM D.m D.cM)] (by first|rfl|kernel_rfl|(go_simp;done)) (.agg (dH (fun _=>0) (.slice none 0 0) (.slice D.aM D.m D.cM))) (zjJ D.aM D.m D.cM _) ?_)
  | (refine nR rfl 29 rfl (zC 29) (lA _) ?_)
  | (refine lJ rfl 29 _ _ rfl Wn.heap.size 29 (zC 29) (dH (fun _=>0) (.slice none 0 0) (.slice D.aM D.m D.cM)) rfl rfl jc.out (by rw[gY,mV]) (by rw[fD,mV]) (xY _ _ _ _ _ _ _) ?_))
 simp only[put,sA];clear f2;obtain⟨b4,fj⟩:∃b4,Wn.heap.size=b4:=⟨_,rfl⟩
 have ER:=hid fj;rw[fj] at jZ;rw[fj];generalize (Wn.alloc (.cells (zC 29) 29)).setRow b4 (dH (fun _=>0) (.slice none 0 0) (.slice D.aM D.m D.cM))=W4 at jZ⊢;clear fj jc;have vh:=hid (H0.out.1.ab (show Below Wn.heap.size Wn W4 by rw[ER.out];exact jZ.out.2));have VA:=hid (zfK D C HB.out.2.2.1 W4 vh.out.dm);go_wp2_with (refine jr (by rfl) 29 _ rfl ⟨b0,0,none⟩ rfl D.cD _ vh.out.st.part underlying29 rfl vh.out.dm.info ?_);refine VA.out.mono ?_;rintro e w5 ⟨aC,cC,rfl,jk,b5⟩;obtain⟨gC,rfl,TA,OY,Oq⟩:=ek jk (show 0<C by have:=HB.out.2.2.1.iq WG.out;omega);have k6:=al w5 (.map #[] 0);have Wi:dV (w5.alloc (.map #[] 0)) 9 w5.heap.size 0 (Nj []):=dV.made _ _ _ (fun x y h=>by
  obtain⟨k,s,h1,_⟩:=h
  simp at h1)
 have Nv:Hid (qz Wn D C w5.heap.size b4 (.slice (some ⟨gC,0,none⟩) C cC) 0 (.slice none 0 0) [] (fun _=>0) (w5.alloc (.map #[] 0))):=by
  have fe:b4<=W4.heap.size:=by have:=jZ.out.2.size;have:=ER.out;omega
  have jn:=b5.size;have PC:=ER.out;have hbA:Below Wn.heap.size Wn w5:=(show Below Wn.heap.size Wn W4 by rw[ER.out];exact jZ.out.2).trans (b5.mono (by omega));refine⟨hbA.trans (k6.mono (by omega)),Wi,World.ownsRow_nil _ _ _ _,rfl,?_,ga (cY jk k6) (by omega),fun i hi=>absurd hi (by omega),fH.zero _,by omega,by omega,by simp⟩;have:=(jZ.out.1.ab b5).ab k6;have e:(fun j=>if j<0 then (fun _=>0:Nat->Nat) j else 0)=fun _=>0:=by funext j;simp
  rw[e];exact this
 have Gi:=hid ((vh.out.ab b5).ab k6);clear jk b5 TA OY Oq k6 Wi VA;go_upto_region 5 with fail;obtain⟨bM,nP⟩:∃bM,w5.heap.size=bM:=⟨_,rfl⟩
 rw[nP] at Nv
 try rw[nP]
 generalize w5.alloc (.map #[] 0)=W6 at Nv Gi⊢;clear nP;have dN:=vt D.K;go_wp2_with (refine p6 rfl 25 _ rfl ⟨b0,0,none⟩ rfl (aQ D.K) (.array 256 5) Gi.out.dG underlying25 rfl dN ?_);go_loopw [6,7,8,9,10,11,22] (fun v6 _ _ _ _ _ vk wr=>∃(k m:Nat) (a6:Option Addr) (c6:Nat),v6=.slice a6 m c6/\vk=.int .i64 k/\k<=256/\m<=k/\Hid (∃nm g,nm.length=m/\qz Wn D C bM b4 (.slice (some ⟨gC,0,none⟩) C cC) k v6 nm g wr)) (fun _ _ _ _ _ _ v _=>256-(intOf v).toNat)
 ·exact⟨0,0,none,0,rfl,rfl,by omega,by omega,_,_,rfl,Nv.out⟩
 clear Nv;obtain⟨k,m,a6,c6,rfl,rfl,hk,eR,HL⟩:=hrel;by_cases dE:k<256
 ·obtain⟨nm,g,k8,hM⟩:=HL.out;have HM:=hid hM;have LU:=hid k8;have i2:(k:Int)<256:=by omega
  have hv:=Db D.K k dE;have Am:=Mr 25 5 256 (aQ D.K) k _ underlying25 dE (by kernel_rfl) ⟨_,underlying5,rfl⟩ hv wr;have wu:=WG.out k dE;have TV:=HB.out.2.2.1.c.1 k dE;obtain⟨gX,DK,J5,IT,Cc⟩:=ek hM.D8 (by omega);have dL:=(Cc (D.K k) (by omega)).1;have PY:gX=gC:=by injection DK with DK;injection DK with DK _;exact DK.symm
  rw[PY] at dL;have hcv:((range C).map (rz D))[D.K k]?=some (.string (cS D (D.K k))):=by simp[TV];rfl
  rw[hcv] at dL;have cZ:(cS D (D.K k)).size<=1000000:=by rw[zqp];omega
  have yg:=hM.look (cS D (D.K k)) cZ;have hlen:=hM.map.len (ty:=3) (t:=128) (by rw[underlying128];rfl);rw[k8] at hlen;have hw8:IntKind.u8.wrap (m:Int)=m:=by simp[wrap,IntKind.bits,signed];omega
  have z1:=hM.st.at_ k;have z2:=hM.st.bb k;rw[As _ _ _ k dE] at z1;rcases yg with ⟨b,hb,ct⟩|⟨hb,ct⟩
  ·have HF:Hid (∃nm g,nm.length=m/\qz Wn D C bM b4 (.slice (some ⟨gC,0,none⟩) C cC) (k+1) (.slice a6 m c6) nm g (wr.setCell ⟨b4,k,none⟩ (.int .u8 (b:Int)))):=by
    obtain⟨g',AB⟩:=hM.jC HB.out.2.2.1 dE hb;exact⟨nm,g',k8,AB⟩
   clear hM hb hlen hw8 DK J5 IT Cc hcv k8 HM LU cZ HL;obtain⟨y,hy⟩:∃y,D.K k=y:=(⟨_,rfl⟩);obtain⟨s,hs⟩:∃s,cS D y=s:=(⟨_,rfl⟩);rw[hy] at hv Am wu TV dL ct;rw[hs] at dL ct;clear hy hs;go_wp2;go_roundw
   ·exact⟨k+1,m,a6,c6,rfl,by go_num,by omega,by omega,HF.out⟩
   simp[intOf];omega
  have l5:nm.length<maxLen:=by unfold maxLen;omega
  obtain⟨w1,vx,iF,lU⟩:=hM.put (cS D (D.K k)) cZ l5 hb;rw[k8] at vx;have BO:=yk hM.kept hM.map.ex.of lU;rw[k8] at BO;have Ts:=(hM.aP.grown lU hM.aP.size (fun g e=>by injection e with e;rw[<-e];exact hM.Mt)).size;have oO:=hid (hM.st.eb hM.map.ex.of lU);have S9:Hid (∀(w2 w3:World) (FM:Value),Below w1.heap.size w1 w2->w2.grownBy w3 (Value.slice a6 m c6).ownBlock->w3.ownsRow Wn.heap.size 3 1 FM (m+1) (cW ((bH g k).map D.K)++[.int .i64 ((D.K k:Nat):Int)])->∃nm g,nm.length=m+1/\qz Wn D C bM b4 (.slice (some ⟨gC,0,none⟩) C cC) (k+1) FM nm g (w3.setCell ⟨b4,k,none⟩ (.int .u8 (m:Int)))):=fun w2 w3 FM h1 h2 h3=>by
   obtain⟨g',AB⟩:=hM.fresh HB.out.2.2.1 dE hb iF lU h1 h2 (by rw[k8];exact h3);rw[k8] at AB;exact⟨_,g',by simp[k8],AB⟩
  clear hM hb DK J5 IT Cc hcv k8 HM LU cZ HL iF lU z1 z2 l5;obtain⟨y,hy⟩:∃y,D.K k=y:=⟨_,rfl⟩
  obtain⟨s,hs⟩:∃s,cS D y=s:=⟨_,rfl⟩
  rw[hy] at hv Am wu TV dL ct vx S9;rw[hs] at dL ct vx;clear hy hs;obtain⟨l9,yy⟩:∃l9,cW ((bH g k).map D.K)=l9:=⟨_,rfl⟩
  rw[yy] at BO S9;clear yy;go_wp2_with (at_builtin;refine wpList_append_own_at _ rfl _ _ 27 rfl Wn.heap.size 3 iI (.int .i64 0) 1 8 underlying27 hI rW r8 sh rfl (by decide) _ _ _ rfl (BO.alloc _) ⟨w1.heap.size,0,none⟩ 1 1 [.int .i64 (y:Int)] rfl rfl (cell_one_new _ _ _) ?d2 ?d3 ?d4 ?d5 ?_)
  case d2=>first|(intro u hu;simp at hu;subst hu;rfl)|rfl
  case d3=>unfold maxLen;omega
  case d4=>omega
  case d5=>first|(simp;omega)|omega
  intro v' w5 ah ag _ bJ;obtain⟨a7,c7,rfl⟩:=bP ah;have k9:=al w1 (.cells #[.int .i64 (y:Int)] 3);have HF:=hid (S9.out _ w5 (.slice a7 (m+1) c7) k9 ag ah);have Xj:=hid ((oO.out.ab k9).ae (cY BO k9) (by decide) ag);have z1:=Xj.out.at_ k;have z2:=Xj.out.bb k;rw[As _ _ _ k dE] at z1;clear ah ag bJ BO k9;go_wp2;go_roundw
  ·exact⟨k+1,m+1,a7,c7,rfl,by go_num,by omega,by omega,HF.out⟩
  simp[intOf];omega
 obtain rfl:k=256:=by omega
 obtain⟨nm,g,k8,hM⟩:=HL.out;have zr:=hM.num;rw[k8] at zr;have sN:=hM.done (ws:=fun _=>.slice none 0 0) k8;obtain⟨l,hl⟩:∃l,(bH g 256).map D.K=l:=⟨_,rfl⟩
 obtain⟨Kf,RH⟩:∃Kf:Nat->Nat,(fun j=>if j<256 then g j else 0)=Kf:=⟨_,rfl⟩
 have Ai:=hid (Zz zr (Zz hl RH));rw[hl,RH] at sN;have jZ:Hid (tr Wn D b4 m Kf (.slice none 0 0) (nb D l 0) (fun _=>.slice none 0 0) (.slice a6 m c6) l wr):=sN;have Hl:Hid (l.length=m/\∀x∈l,x<C):=by
  refine⟨by rw[<-hl,length_map,zr.ic],fun x hx=>?_⟩;rw[<-hl] at hx;obtain⟨j,hj,rfl⟩:=List.mem_map.1 hx;exact HB.out.2.2.1.c.1 j (L6 g 256 j hj)
 have SU:=hid (H0.out.1.ab hM.aP);have f1:=SU.out.f1;obtain⟨gN,oN,eN,km,pC⟩:=H0.out.1.dm.rN (by omega);rw[eN] at f1;have sj:=hid pC;have Hg:=hid km;clear eN pC km zr sN hl RH hM HL k8;go_wp2_with fail;clear f1;rw[show ((256:Nat):Int)=256 from rfl];go_loopw [13,57] (fun _ v wr=>∃(i:Nat) (ws:Nat->Value) (aN:Option Addr) (cN:Nat),v=.int .i64 i/\i<=D.n/\Hid (tr Wn D b4 m Kf (.slice aN i cN) (nb D l i) ws (.slice a6 m c6) l wr)) (fun _ v _=>D.n-(intOf v).toNat)
 ·exact⟨0,_,none,0,rfl,by omega,jZ⟩
 clear jZ;obtain⟨i,ws,aN,cN,rfl,hi,HT⟩:=hrel;have mB:Hid ((nb D l i).length=i):=zpu D l i;by_cases aq:i<D.n
 ·have i1:(i:Int)<(D.n:Int):=by omega
  have hlen:=HB.out.2.2.1.len i aq;have qB:=(HT.out.aP.cell (p:=⟨gN,oN+i,none⟩) Hg.out).trans (sj.out i aq).1;have zN:=(sj.out i aq).2;rw[hlen] at qB zN
  try dsimp only at qB
  have xo:Hid (kW wr.drew (D.A i) C (D.nx i)):=(zN.below HT.out.aP).below (Below.refl _ _).drew;clear hlen zN;go_upto_region 19 with fail;clear qB;refine wp_region_held_drew (S:=fun W'=>Below Wn.heap.size Wn W') (by kernel_rfl) HT.out.aP.drew fun hHeld=>?_;have HT:Hid (tr Wn D b4 m Kf (.slice aN i cN) (nb D l i) ws (.slice a6 m c6) l wr.drew):=HT.out.ab (Below.refl _ _).drew
  (refine an 0 ?_;refine an 2 ?_;refine an 3 ?_;try simp only[put,sA])
  refine wpAnyH_ready (rs:=[1,4]) (by kernel_rfl) (by simp) ?_;refine gG (fun K hK=>?_) ?_
  ·skip;have f1:=HT.out.f1;go_simp;refine hK.out _ _ (hHeld) fun hHeld=>?_;clear hK K
   try simp only[put,sA]
   clear f1;refine bf 4 (fun K hK=>?_);skip;have iQ:=(HT.out.next.lt).2;have jE:=lE HT.out.kept;have I0:=sx HT.out.kept Hl.out.1;have JH:=xo.out;skip;go_simp;go_at_call 79;refine (YO (D.nx i) C l m Hl.out.1 (by omega) (by omega) Hl.out.2 (D.A i) a6 (D.Cp i) c6 _ JH I0).mono ?_;rintro e w5 ⟨a5,c5,rfl,jk,b5⟩;have HU:Hid (w5.ownsRow Wn.heap.size 3 1 (.slice a5 m c5) m (ints (l.map (D.nx i)))/\(∀j,j<(nb D l i).length->∀b,(ws j).ownBlock=some b->(Value.slice a5 m c5).ownBlock≠some b)/\∀b,(Value.slice a5 m c5).ownBlock=some b->(Value.slice a6 m c6).ownBlock≠some b):=by
    have jD:=kD jk;refine⟨?_,fun j hj b e1 e2=>?_,fun b e1 e2=>?_⟩
    ·exact ga jk HT.out.aP.size
    ·have h1:=iQ j hj b e1;have h2:=jD b e2
     try simp only[kU] at h1
     try simp only[kU] at h2
     omega
    have h1:=jE b e2;have h2:=jD b e1
    try simp only[kU] at h1
    try simp only[kU] at h2
    omega
   have HT:=hid (HT.out.ab b5);clear jk b5 iQ jE I0 JH
   try go_wp2_with fail
   refine hK.out _ _ (HT.out.aP) fun hHeld=>?_;clear hK K
   try simp only[put,sA]
   refine bf 5 (fun K hK=>?_);skip;go_simp;have kk:=al w5 (.cells #[.slice a5 m c5] 27);have HN:Hid (∀j u,[Value.slice a5 m c5][j]?=some u->(w5.alloc (.cells #[.slice a5 m c5] 27)).cell? ((⟨w5.heap.size,0,none⟩:Addr).add j)=some u):=cell_one_new _ _ _;have HT:=hid (HT.out.ab kk);have HU:=hid (Zz (cY HU.out.1 kk) HU.out.2);refine hK.out _ _ (HT.out.aP) fun hHeld=>?_;clear hK K
   try simp only[put,sA]
   clear kk;generalize w5.alloc (.cells #[.slice a5 m c5] 27)=V5 at HN HT HU hHeld⊢;refine bf 6 (fun K hK=>?_);skip;have hO:=(HT.out.next.own);rw[mB.out] at hO;refine sa (by rfl) _ _ _ (by rfl) Wn.heap.size 27 iV (.slice none 0 0) 1 24 underlying26 hV uJ uY ur (by rfl) (by decide) _ i ((range i).map ws) (by rfl) hO ⟨w5.heap.size,0,none⟩ 1 1 [.slice a5 m c5] (by rfl) (by rfl) HN.out (by intro u hu;simp at hu;subst hu;rfl) (by unfold maxLen;omega) (by omega) HT.out.aP.size ?_;intro v6 w6 aj af;obtain⟨a7,c7,rfl⟩:=bP aj;have js:=hid (HT.out.gu (u:=.slice a5 m c5) (vN':=.slice a7 (i+1) c7) HU.out.1 HU.out.2.1 HU.out.2.2 mB.out aj af);have h9:=(HT.out.st.ae HT.out.next.own (by decide) af);have z2:w6.cell? ⟨b4,256,none⟩=some (.slice aN i cN):=(by rw[h9.at_,qp]);have z3:w6.frozen? ⟨b4,256,none⟩=false:=h9.bb 256;have eI:=(fG HT.out.aP HT.out.next.own HT.out.aP.size af);clear aj af h9 hO;refine hK.out _ _ (eI) fun hHeld=>?_;clear hK K
   try simp only[put,sA]
   (refine an 7 ?_;try simp only[put,sA])
   refine bf 8 (fun K hK=>?_);skip;go_simp;refine hK.out _ _ (js.out.aP) fun hHeld=>?_;clear hK K
   try simp only[put,sA]
   refine wpAnyH_done (by kernel_rfl) ?_ _;rw[<-Pr] at js;clear hHeld z2 z3 eI;go_wp2;go_roundw
   ·exact⟨i+1,_,a7,c7,by go_num,by omega,js⟩
   simp[intOf];omega
  refine gG (fun K hK=>?_) ?_
  ·skip;have iQ:=(HT.out.next.lt).2;have jE:=lE HT.out.kept;have I0:=sx HT.out.kept Hl.out.1;have JH:=xo.out;skip;go_simp;go_at_call 79;refine (YO (D.nx i) C l m Hl.out.1 (by omega) (by omega) Hl.out.2 (D.A i) a6 (D.Cp i) c6 _ JH I0).mono ?_;rintro e w5 ⟨a5,c5,rfl,jk,b5⟩;have HU:Hid (w5.ownsRow Wn.heap.size 3 1 (.slice a5 m c5) m (ints (l.map (D.nx i)))/\(∀j,j<(nb D l i).length->∀b,(ws j).ownBlock=some b->(Value.slice a5 m c5).ownBlock≠some b)/\∀b,(Value.slice a5 m c5).ownBlock=some b->(Value.slice a6 m c6).ownBlock≠some b):=by
    have jD:=kD jk;refine⟨?_,fun j hj b e1 e2=>?_,fun b e1 e2=>?_⟩
    ·exact ga jk HT.out.aP.size
    ·have h1:=iQ j hj b e1;have h2:=jD b e2
     try simp only[kU] at h1
     try simp only[kU] at h2
     omega
    have h1:=jE b e2;have h2:=jD b e1
    try simp only[kU] at h1
    try simp only[kU] at h2
    omega
   have HT:=hid (HT.out.ab b5);clear jk b5 iQ jE I0 JH
   try go_wp2_with fail
   refine hK.out _ _ (HT.out.aP) fun hHeld=>?_;clear hK K
   try simp only[put,sA]
   refine wpAnyH_ready (rs:=[1,5]) (by kernel_rfl) (by simp) ?_;refine gG (fun K hK=>?_) ?_
   ·skip;have f1:=HT.out.f1;go_simp;refine hK.out _ _ (hHeld) fun hHeld=>?_;clear hK K
    try simp only[put,sA]
    clear f1;refine bf 5 (fun K hK=>?_);skip;go_simp;have kk:=al w5 (.cells #[.slice a5 m c5] 27);have HN:Hid (∀j u,[Value.slice a5 m c5][j]?=some u->(w5.alloc (.cells #[.slice a5 m c5] 27)).cell? ((⟨w5.heap.size,0,none⟩:Addr).add j)=some u):=cell_one_new _ _ _;have HT:=hid (HT.out.ab kk);have HU:=hid (Zz (cY HU.out.1 kk) HU.out.2);refine hK.out _ _ (HT.out.aP) fun hHeld=>?_;clear hK K
    try simp only[put,sA]
    clear kk;generalize w5.alloc (.cells #[.slice a5 m c5] 27)=V5 at HN HT HU hHeld⊢;refine bf 6 (fun K hK=>?_);skip;have hO:=(HT.out.next.own);rw[mB.out] at hO;refine sa (by rfl) _ _ _ (by rfl) Wn.heap.size 27 iV (.slice none 0 0) 1 24 underlying26 hV uJ uY ur (by rfl) (by decide) _ i ((range i).map ws) (by rfl) hO ⟨w5.heap.size,0,none⟩ 1 1 [.slice a5 m c5] (by rfl) (by rfl) HN.out (by intro u hu;simp at hu;subst hu;rfl) (by unfold maxLen;omega) (by omega) HT.out.aP.size ?_;intro v6 w6 aj af;obtain⟨a7,c7,rfl⟩:=bP aj;have js:=hid (HT.out.gu (u:=.slice a5 m c5) (vN':=.slice a7 (i+1) c7) HU.out.1 HU.out.2.1 HU.out.2.2 mB.out aj af);have h9:=(HT.out.st.ae HT.out.next.own (by decide) af);have z2:w6.cell? ⟨b4,256,none⟩=some (.slice aN i cN):=(by rw[h9.at_,qp]);have z3:w6.frozen? ⟨b4,256,none⟩=false:=h9.bb 256;have eI:=(fG HT.out.aP HT.out.next.own HT.out.aP.size af);clear aj af h9 hO;refine hK.out _ _ (eI) fun hHeld=>?_;clear hK K
    try simp only[put,sA]
    (refine an 7 ?_;try simp only[put,sA])
    refine bf 8 (fun K hK=>?_);skip;go_simp;refine hK.out _ _ (js.out.aP) fun hHeld=>?_;clear hK K
    try simp only[put,sA]
    refine wpAnyH_done (by kernel_rfl) ?_ _;rw[<-Pr] at js;clear hHeld z2 z3 eI;go_wp2;go_roundw
    ·exact⟨i+1,_,a7,c7,by go_num,by omega,js⟩
    simp[intOf];omega
   refine gG (fun K hK=>?_) ?_
   ·skip;go_simp;have kk:=al w5 (.cells #[.slice a5 m c5] 27);have HN:Hid (∀j u,[Value.slice a5 m c5][j]?=some u->(w5.alloc (.cells #[.slice a5 m c5] 27)).cell? ((⟨w5.heap.size,0,none⟩:Addr).add j)=some u):=cell_one_new _ _ _;have HT:=hid (HT.out.ab kk);have HU:=hid (Zz (cY HU.out.1 kk) HU.out.2);refine hK.out _ _ (HT.out.aP) fun hHeld=>?_;clear hK K
    try simp only[put,sA]
    clear kk;generalize w5.alloc (.cells #[.slice a5 m c5] 27)=V5 at HN HT HU hHeld⊢;refine bf 1 (fun K hK=>?_);skip;have f1:=HT.out.f1;go_simp;refine hK.out _ _ (hHeld) fun hHeld=>?_;clear hK K
    try simp only[put,sA]
    clear f1;refine bf 6 (fun K hK=>?_);skip;have hO:=(HT.out.next.own);rw[mB.out] at hO;refine sa (by rfl) _ _ _ (by rfl) Wn.heap.size 27 iV (.slice none 0 0) 1 24 underlying26 hV uJ uY ur (by rfl) (by decide) _ i ((range i).map ws) (by rfl) hO ⟨w5.heap.size,0,none⟩ 1 1 [.slice a5 m c5] (by rfl) (by rfl) HN.out (by intro u hu;simp at hu;subst hu;rfl) (by unfold maxLen;omega) (by omega) HT.out.aP.size ?_;intro v6 w6 aj af;obtain⟨a7,c7,rfl⟩:=bP aj;have js:=hid (HT.out.gu (u:=.slice a5 m c5) (vN':=.slice a7 (i+1) c7) HU.out.1 HU.out.2.1 HU.out.2.2 mB.out aj af);have h9:=(HT.out.st.ae HT.out.next.own (by decide) af);have z2:w6.cell? ⟨b4,256,none⟩=some (.slice aN i cN):=(by rw[h9.at_,qp]);have z3:w6.frozen? ⟨b4,256,none⟩=false:=h9.bb 256;have eI:=(fG HT.out.aP HT.out.next.own HT.out.aP.size af);clear aj af h9 hO;refine hK.out _ _ (eI) fun hHeld=>?_;clear hK K
    try simp only[put,sA]
    (refine an 7 ?_;try simp only[put,sA])
    refine bf 8 (fun K hK=>?_);skip;go_simp;refine hK.out _ _ (js.out.aP) fun hHeld=>?_;clear hK K
    try simp only[put,sA]
    refine wpAnyH_done (by kernel_rfl) ?_ _;rw[<-Pr] at js;clear hHeld z2 z3 eI;go_wp2;go_roundw
    ·exact⟨i+1,_,a7,c7,by go_num,by omega,js⟩
    simp[intOf];omega
   exact AllReadyH.nil
  exact AllReadyH.nil
 obtain rfl:i=D.n:=by omega
 have Rj:=hid HT.out;have jc:=hid HT.out.st;have fV:=hid (H0.out.2.1.ab HT.out.aP);have hd:=mV Kf (.slice aN D.n cN) (.slice D.aM D.m D.cM);have Fs:Hid (w.heap.size<=Wn.heap.size):=by have:=H0.out.2.2.size;have:=Hb.out.1;show _<=_;omega
 have Bh:Hid (Below w.heap.size w (wr.setRow b2 (dH Kf (.slice aN D.n cN) (.slice D.aM D.m D.cM)))):=
  kT ((show Below w.heap.size w Wn by rw[Hb.out.1];exact H0.out.2.2).trans (HT.out.aP.mono Fs.out)) (by have:=Hb.out;omega) _
 have HF:Hid (Ry D w (.returned (.agg (dH Kf (.slice aN D.n cN) (.slice D.aM D.m D.cM)))) (wr.setRow b2 (dH Kf (.slice aN D.n cN) (.slice D.aM D.m D.cM)))):=by
  obtain⟨h1,h2,h3⟩:=Ai.out;have hT:=Rj.out;rw[<-h3] at hT Bh⊢;rw[<-h2] at hT;exact hT.fin HB.out.2.2.2 HB.out.2.2.1 h1 fV.out rfl Bh.out
 clear HT;go_wp2_with (first|(refine p6 rfl 29 _ rfl ⟨b4,0,none⟩ rfl (dH Kf (.slice aN D.n cN) (.slice D.aM D.m D.cM)) _ jc.out.part underlying29 rfl (by rw[fD,hd]) ?_)|(refine lJ rfl 29 _ _ rfl b2 29 (zC 29) (dH Kf (.slice aN D.n cN) (.slice D.aM D.m D.cM)) rfl rfl fV.out (by rw[gY,hd]) (by rw[fD,hd]) (xY _ _ _ _ _ _ _) ?_));refine bodyPost_ret (results_cell_row rfl _ _ b2 29 (dH Kf (.slice aN D.n cN) (.slice D.aM D.m D.cM)) (0,0) _ rfl fV.out.setRow underlying29 rfl (by rw[fD,hd])) rfl ?_;exact HF.out
theorem zqq(h:(zC 29)[i]?=some v):v=.int .u8 0\/v=.slice none 0 0:=by
 have hz:=gY;by_cases a:i<256
 ·rw[Ue i a] at h;exact inl (Option.some.inj h).symm
 by_cases b:i=256
 ·subst b;rw[AW.1] at h;exact inr (Option.some.inj h).symm
 by_cases c:i=257
 ·subst c;rw[AW.2] at h;exact inr (Option.some.inj h).symm
 rw[Array.getElem?_eq_none (by omega)] at h;cases h
theorem DM.Qi{b:Nat}(hR:DR D C)(h:DM w D)(hs:St w 29 b (zC 29))(cs:Array Value):DM (w.setRow b cs) D:=by
 have hk:=IQ w b cs;have cZ:(w.setRow b cs).heap.size=w.heap.size:=setRow_size _ _ _;have hC:=(hR.iq h.kl).1;have key:∀{g i:Nat}{v:Value},g<w.heap.size->w.cell? ⟨g,i,none⟩=some v->v≠.int .u8 0->v≠.slice none 0 0->(w.setRow b cs).cell? ⟨g,i,none⟩=some v:=fun {g i v} hg hc h1 h2=>by
  have hgb:g≠b:=fun e=>by
   subst e;rw[hs.at_] at hc;rcases zqq hc with e|e
   ·exact h1 e
   exact h2 e
  rw[hk.nI (g:=g) (i:=i) (by simpa using hgb) hg];exact hc
 refine⟨h.sz,h.one,h.cl,h.kl,h.fN,h.fM,fun h0=>?_,fun h0=>?_⟩
 ·obtain⟨g,off,e,hg,hc⟩:=h.rN h0;refine⟨g,off,e,by rw[cZ];exact hg,fun i hi=>⟨key hg (hc i hi).1 (fun e=>by cases e) (fun e=>by
   injection e with _ e _
   have:=hR.len i hi
   omega),fun h1=>?_⟩⟩
  obtain⟨g',lg,e',AB,hc'⟩:=(hc i hi).2 h1;exact⟨g',lg,e',by rw[cZ];exact AB,fun j hj=>key AB (hc' j hj) (fun e=>by cases e) (fun e=>by cases e)⟩
 obtain⟨g,off,e,hg,hc⟩:=h.rM h0;exact⟨g,off,e,by rw[cZ];exact hg,fun j hj=>key hg (hc j hj) (fun e=>by cases e) (fun e=>by cases e)⟩
theorem bz.stored{b:Nat}(hR:DR D C)(hD:DM w D)(h:St w 29 b (zC 29)):bz (w.setRow b D.cD) b D:=⟨h.setRow,hD.Qi hR h _⟩
def wg(O P:Dd)(C C':Nat):Prop:=∃(f:Nat->Nat) (B:Nat) (M:Dd) (g:Nat->Nat),fH (jB C (tD O) (mD O)) O.n f B/\qR O C f B M/\fH (jy M M.n) 256 g C'/\sI M g C' P
theorem wg.right(hR:DR O C)(h:wg O P C C'):DR P C':=by
 obtain⟨f,B,M,g,h1,h2,h3,h4⟩:=h;exact h4.right (h2.right hR h1) h3
theorem wg.le(h:wg O P C C'):P.n<=O.n:=by
 obtain⟨f,B,M,g,h1,h2,h3,h4⟩:=h;have e:=h4.n;have e2:M.n=B:=h2.2.1;have e3:=h1.ic;have e4:=YC f O.n;omega
theorem wg.mn{X:Dd}(hR:DR O C)(hO:oQ O)(hT:vT O C)(h:wg O P C C')(hl:l=dw (av P.len P.nx) [0] k)(dE:l.length=k)(rV:k<=P.n)(hX:pn P C' k (iC P l) (fun i=>P.q (l.getD i 0)) X):Mn X C'/\eE X 0 O 0:=by
 obtain⟨f,B,M,g,h1,h2,h3,h4⟩:=h;exact Mn.made hR hO hT h1 h2 h3 h4 hl dE rV hX
structure Qq (D O:Dd)(C:Nat):Prop where
 r:DR O C
 ord:oQ O
 Ba:vT O C
 xx:eE O 0 D 0
 le:O.n<=D.n
theorem Qq.made{T:Dd}(hR:DR D C)(hT:pn D C D.n (oa D) D.q T)(hl:l=dw (av T.len T.nx) [0] k)(dE:l.length=k)(rV:k<=T.n)(hO:pn T C k (iC T l) (fun i=>T.q (l.getD i 0)) O):Qq D O C:=by
 have La:=hT.kF hR;have hTT:=hT.xQ hR;have hn:=hR.n1;have h1:=OI (D:=T) (k:=k) (by rw[<-hl];exact dE);rw[<-hl] at h1;have hb:=hO.pV La hl dE (i:=0) (by omega);rw[h1.2] at hb;refine⟨?_,hO.It La hl dE,hO.tR La hTT hl dE,hb.trans (hT.qV hR (by omega)),by have h3:=hO.2.1;have h4:=hT.2.1;omega⟩;subst hl;exact hO.pw La dE rV
def Zd(D:Dd)(w:World)(e:Ending)(w':World):Prop:=∃(X:Dd) (C':Nat),e=.returned (.tuple #[.agg X.cD,.int .i64 0])/\DM w' X/\Mn X C'/\eE X 0 D 0/\X.n<=D.n/\Below w.heap.size w w'
theorem X3(D:Dd)(C:Nat)(hR:DR D C)(w:World)(hD:DM w D):Calls prog 23 #[.agg D.cD] w (Zd D w):=by
 have HB:=hid (Zz (bz.new hD) (Zz (al w (.cells D.cD 29)) hR));clear hD hR;go_in;go_upto_region 1 with (refine nR rfl 29 rfl (zC 29) (lA _) ?_)
 try simp only[put,List.setIfInBounds_toArray,set_cons_zero,set_cons_succ,GV]
 have H0:Hid (bz ((w.alloc (.cells D.cD 29)).alloc (.cells (zC 29) 29)) w.heap.size D/\St ((w.alloc (.cells D.cD 29)).alloc (.cells (zC 29) 29)) 29 (w.heap.size+1) (zC 29)/\Below w.heap.size w ((w.alloc (.cells D.cD 29)).alloc (.cells (zC 29) 29))):=by
  refine⟨HB.out.1.ab (al _ _),?_,HB.out.2.1.trans ((al _ _).mono (by simp))⟩;have:=St.new (w.alloc (.cells D.cD 29)) 29 (zC 29);simpa using this
 generalize (w.alloc (.cells D.cD 29)).alloc (.cells (zC 29) 29)=Wb at H0⊢;obtain⟨b2,cr⟩:∃b2,w.heap.size+1=b2:=⟨_,rfl⟩
 obtain⟨b0,ay⟩:∃b0,w.heap.size=b0:=⟨_,rfl⟩
 rw[cr,ay] at H0;rw[cr,ay];have Hb:=hid (Zz ay cr);clear cr ay;have rG:=hid (EO D C HB.out.2.2 Wb H0.out.1.dm);go_wp2_with (refine jr (by rfl) 29 _ rfl ⟨b0,0,none⟩ rfl D.cD _ H0.out.1.st.part underlying29 rfl H0.out.1.dm.info ?_);refine rG.out.mono ?_;rintro e wy ⟨rfl,rR⟩;have rS:Hid (bz wy b0 D/\St wy 29 b2 (zC 29)/\Below b0 w wy/\b0<=wy.heap.size):=⟨H0.out.1.ab rR,H0.out.2.1.ab rR,H0.out.2.2.trans (rR.mono (by have:=H0.out.2.2.size;have:=Hb.out.1;omega)),by have:=H0.out.2.2.size;have:=rR.size;have:=Hb.out.1;omega⟩
 have zn:=hid (zoi D C wy rS.out.1.dm HB.out.2.2);clear rR rG;go_wp2_with (refine jr (by rfl) 29 _ rfl ⟨b0,0,none⟩ rfl D.cD _ rS.out.1.st.part underlying29 rfl rS.out.1.dm.info ?_);refine zn.out.mono ?_;rintro e wT ⟨T,rfl,UY,t1,t2,t3,t4,t5,t6,bT,_⟩;have HT:=hid (Zz UY (show pn D C D.n (oa D) D.q T from ⟨t1,t2,t3,t4,t5,t6⟩));have H1:Hid (St wT 29 b2 (zC 29)/\Below b0 w wT/\b0<=wT.heap.size):=⟨rS.out.2.1.ab bT,rS.out.2.2.1.trans (bT.mono rS.out.2.2.2),by have:=rS.out.2.2.2;have:=bT.size;omega⟩
 obtain⟨k,dE,rV⟩:=Xt (HT.out.2.kF HB.out.2.2);have HOr:=hid (Zq T C _ k rfl dE rV wT HT.out.1 (HT.out.2.kF HB.out.2.2));have XY:=hid (Zz dE rV);clear UY t1 t2 t3 t4 t5 t6 bT zn dE rV;go_wp2_with fail;refine HOr.out.mono ?_;rintro e wO ⟨O,rfl,VW,t1,t2,t3,t4,t5,t6,bO,_⟩;have HO:=hid (Zz VW (Qq.made HB.out.2.2 HT.out.2 rfl XY.out.1 XY.out.2 ⟨t1,t2,t3,t4,t5,t6⟩));have H2:Hid (St wO 29 b2 (zC 29)/\Below b0 w wO/\b0<=wO.heap.size):=⟨H1.out.1.ab bO,H1.out.2.1.trans (bO.mono H1.out.2.2),by have:=H1.out.2.2;have:=bO.size;omega⟩
 clear VW t1 t2 t3 t4 t5 t6 bO HOr;have jc:=hid (St.new wO 29 (zC 29));have H3:Hid (bz ((wO.alloc (.cells (zC 29) 29)).setRow wO.heap.size O.cD) wO.heap.size O/\Below wO.heap.size wO ((wO.alloc (.cells (zC 29) 29)).setRow wO.heap.size O.cD)):=
  ⟨bz.stored HO.out.2.r (HO.out.1.below (al _ _)) (St.new _ _ _),kT (al _ _) (le_refl _) _⟩
 go_upto_region 4 with (first
  | (refine nR rfl 29 rfl (zC 29) (lA _) ?_)
  | (refine lJ rfl 29 _ _ rfl wO.heap.size 29 (zC 29) O.cD rfl rfl jc.out (by rw[gY,HO.out.1.sz]) (by rw[fD,HO.out.1.sz]) HO.out.1.one ?_))
 simp only[put,sA];obtain⟨b4,fj⟩:∃b4,wO.heap.size=b4:=⟨_,rfl⟩
 rw[fj] at H3;rw[fj];generalize (wO.alloc (.cells (zC 29) 29)).setRow b4 O.cD=V at H3⊢;have H4:Hid (St V 29 b2 (zC 29)/\Below b0 w V/\b0<=V.heap.size):=by
  have h:=H3.out.2;have hs:=h.size;rw[<-fj] at h;exact⟨H2.out.1.ab h,H2.out.2.1.trans (h.mono H2.out.2.2),by have:=H2.out.2.2;omega⟩
 clear fj jc;have dc:Hid (∀W',Below V.heap.size V W'->Below V.heap.size V W'/\bz W' b4 O):=fun W' h=>⟨h,H3.out.1.ab h⟩
 go_cut [5] from 13 to 17 (fun v wx=>∃(b5:Nat) (P:Dd) (C':Nat),v=.pointer (some ⟨b5,0,none⟩)/\bz wx b5 P/\wg O P C C'/\Below V.heap.size V wx)
 case first=>
  refine wp_region_held_drew (S:=fun W'=>Below V.heap.size V W'/\bz W' b4 O) (by kernel_rfl) (dc.out _ (Below.refl _ _).drew) (fun hHeld=>?_)
  (refine an 0 (v:=.agg O.cD) ?_ (hy:=by intro wz hSw;exact pt (o:=_) (ρ:=_) wz 29 (.tmp 4) rfl ⟨b4,0,none⟩ rfl O.cD _ (bz.st (And.right hSw)).part underlying29 rfl (bz.dm (And.right hSw)).info))
  (refine an 1 (v:=.agg O.cD) ?_ (hy:=by intro wz hSw;exact pt (o:=_) (ρ:=_) wz 29 (.tmp 4) rfl ⟨b4,0,none⟩ rfl O.cD _ (bz.st (And.right hSw)).part underlying29 rfl (bz.dm (And.right hSw)).info);try simp only[put,sA])
  refine wpAnyH_ready (rs:=[2,5]) (by kernel_rfl) (by simp) ?_;refine gG (fun K hK=>?_) ?_
  ·skip;go_simp;go_at_call 45;refine (X2 O C HO.out.2.r _ hHeld.2.dm).mono ?_;rintro e w8 ⟨f,B,aB,cB,rfl,ho,Kg,vv⟩;have bD:Below V.heap.size V w8:=hHeld.1.trans (vv.mono hHeld.1.size);have HK:=hid (Zz (Vh ho) Kg);clear ho Kg vv
   try go_wp2_with fail
   refine hK.out _ _ (dc.out _ bD) fun hHeld=>?_;clear hK K
   try simp only[put,sA]
   clear bD;refine wpAnyH_ready (rs:=[3,5]) (by kernel_rfl) (by simp) ?_;refine gG (fun K hK=>?_) ?_
   ·skip;go_simp;go_at_call 44;refine (ON O C HO.out.2.r _ f B HK.out.2 aB cB _ hHeld.2.dm HK.out.1).mono ?_;rintro e w9 ⟨M,rfl,Be,t1,t2,t3,t4,t5,t6,vv,_⟩;have bD:Below V.heap.size V w9:=hHeld.1.trans (vv.mono hHeld.1.size);have nW:=hid (Zz Be (show qR O C f B M from ⟨t1,t2,t3,t4,t5,t6⟩));clear Be t1 t2 t3 t4 t5 t6 vv
    try go_wp2_with fail
    refine hK.out _ _ (dc.out _ bD) fun hHeld=>?_;clear hK K
    try simp only[put,sA]
    clear bD;refine wpAnyH_ready (rs:=[4,5]) (by kernel_rfl) (by simp) ?_;refine gG (fun K hK=>?_) ?_
    ·skip;go_simp;go_at_call 43;refine (Nu M C (nW.out.2.right HO.out.2.r HK.out.2) _ nW.out.1).mono ?_;rintro e ri ⟨P,g,C',rfl,xM,ym,tA,vv⟩;have bD:Below V.heap.size V ri:=hHeld.1.trans (vv.mono hHeld.1.size);have kK:=hid (Zz xM (show wg O P C C' from ⟨f,B,M,g,HK.out.2,nW.out.2,ym,tA⟩));clear xM ym tA vv
     try go_wp2_with fail
     refine hK.out _ _ (dc.out _ bD) fun hHeld=>?_;clear hK K
     try simp only[put,sA]
     clear bD;refine bf 5 (fun K hK=>?_);skip;refine EJ (by rfl) 29 (by rfl) (zC 29) (lA _) ?_;have kk:=al ri (.cells (zC 29) 29);have bD:Below V.heap.size V (ri.alloc (.cells (zC 29) 29)):=hHeld.1.trans (kk.mono hHeld.1.size);have kK:=hid (Zz (kK.out.1.below kk) kK.out.2);have H7:Hid (St (ri.alloc (.cells (zC 29) 29)) 29 ri.heap.size (zC 29)/\V.heap.size<=ri.heap.size):=(⟨St.new _ _ _,hHeld.1.size⟩);refine hK.out _ _ (dc.out _ bD) fun hHeld=>?_;clear hK K
     try simp only[put,sA]
     try simp only[kU]
     clear kk;generalize (ri.alloc (.cells (zC 29) 29))=V7 at H7 kK hHeld bD⊢;refine bf 6 (fun K hK=>?_);skip;refine FN (by rfl) 29 _ _ (by rfl) ri.heap.size 29 (zC 29) P.cD (by rfl) (by rfl) H7.out.1 (by rw[gY,kK.out.1.sz]) (by rw[fD,kK.out.1.sz]) kK.out.1.one ?_;have HE:=hid (Zz (bz.stored (kK.out.2.right HO.out.2.r) kK.out.1 H7.out.1) (Zz kK.out.2 (kT hHeld.1 H7.out.2 P.cD)));refine hK.out _ _ (dc.out _ HE.out.2.2) fun hHeld=>?_;clear hK K
     try simp only[put,sA]
     refine wpAnyH_done (by kernel_rfl) ?_ _;clear hHeld;go_wp2_with fail
     go_meet
     exact⟨_,P,C',rfl,HE.out⟩
    refine gG (fun K hK=>?_) ?_
    ·skip;refine EJ (by rfl) 29 (by rfl) (zC 29) (lA _) ?_;have kk:=al w9 (.cells (zC 29) 29);have bD:Below V.heap.size V (w9.alloc (.cells (zC 29) 29)):=hHeld.1.trans (kk.mono hHeld.1.size);have nW:=hid (Zz (nW.out.1.below kk) nW.out.2);have H7:Hid (St (w9.alloc (.cells (zC 29) 29)) 29 w9.heap.size (zC 29)/\V.heap.size<=w9.heap.size):=(⟨St.new _ _ _,hHeld.1.size⟩);refine hK.out _ _ (dc.out _ bD) fun hHeld=>?_;clear hK K
     try simp only[put,sA]
     try simp only[kU]
     clear kk;generalize (w9.alloc (.cells (zC 29) 29))=V7 at H7 nW hHeld bD⊢;refine bf 4 (fun K hK=>?_);skip;go_simp;go_at_call 43;refine (Nu M C (nW.out.2.right HO.out.2.r HK.out.2) _ nW.out.1).mono ?_;rintro e ri ⟨P,g,C',rfl,xM,ym,tA,vv⟩;have H7:Hid (St ri 29 w9.heap.size (zC 29)/\V.heap.size<=w9.heap.size):=(⟨H7.out.1.ab vv,H7.out.2⟩);have bD:Below V.heap.size V ri:=hHeld.1.trans (vv.mono hHeld.1.size);have kK:=hid (Zz xM (show wg O P C C' from ⟨f,B,M,g,HK.out.2,nW.out.2,ym,tA⟩));clear xM ym tA vv
     try go_wp2_with fail
     refine hK.out _ _ (dc.out _ bD) fun hHeld=>?_;clear hK K
     try simp only[put,sA]
     clear bD;refine bf 6 (fun K hK=>?_);skip;refine FN (by rfl) 29 _ _ (by rfl) w9.heap.size 29 (zC 29) P.cD (by rfl) (by rfl) H7.out.1 (by rw[gY,kK.out.1.sz]) (by rw[fD,kK.out.1.sz]) kK.out.1.one ?_;have HE:=hid (Zz (bz.stored (kK.out.2.right HO.out.2.r) kK.out.1 H7.out.1) (Zz kK.out.2 (kT hHeld.1 H7.out.2 P.cD)));refine hK.out _ _ (dc.out _ HE.out.2.2) fun hHeld=>?_;clear hK K
     try simp only[put,sA]
     refine wpAnyH_done (by kernel_rfl) ?_ _;clear hHeld;go_wp2_with fail
     go_meet
     exact⟨_,P,C',rfl,HE.out⟩
    exact AllReadyH.nil
   refine gG (fun K hK=>?_) ?_
   ·skip;refine EJ (by rfl) 29 (by rfl) (zC 29) (lA _) ?_;have kk:=al w8 (.cells (zC 29) 29);have bD:Below V.heap.size V (w8.alloc (.cells (zC 29) 29)):=hHeld.1.trans (kk.mono hHeld.1.size);have HK:=hid (Zz (HK.out.1.below kk) HK.out.2);have H7:Hid (St (w8.alloc (.cells (zC 29) 29)) 29 w8.heap.size (zC 29)/\V.heap.size<=w8.heap.size):=(⟨St.new _ _ _,hHeld.1.size⟩);refine hK.out _ _ (dc.out _ bD) fun hHeld=>?_;clear hK K
    try simp only[put,sA]
    try simp only[kU]
    clear kk;generalize (w8.alloc (.cells (zC 29) 29))=V7 at H7 HK hHeld bD⊢;refine bf 3 (fun K hK=>?_);skip;go_simp;go_at_call 44;refine (ON O C HO.out.2.r _ f B HK.out.2 aB cB _ hHeld.2.dm HK.out.1).mono ?_;rintro e w9 ⟨M,rfl,Be,t1,t2,t3,t4,t5,t6,vv,_⟩;have H7:Hid (St w9 29 w8.heap.size (zC 29)/\V.heap.size<=w8.heap.size):=(⟨H7.out.1.ab vv,H7.out.2⟩);have bD:Below V.heap.size V w9:=hHeld.1.trans (vv.mono hHeld.1.size);have nW:=hid (Zz Be (show qR O C f B M from ⟨t1,t2,t3,t4,t5,t6⟩));clear Be t1 t2 t3 t4 t5 t6 vv
    try go_wp2_with fail
    refine hK.out _ _ (dc.out _ bD) fun hHeld=>?_;clear hK K
    try simp only[put,sA]
    clear bD;refine bf 4 (fun K hK=>?_);skip;go_simp;go_at_call 43;refine (Nu M C (nW.out.2.right HO.out.2.r HK.out.2) _ nW.out.1).mono ?_;rintro e ri ⟨P,g,C',rfl,xM,ym,tA,vv⟩;have H7:Hid (St ri 29 w8.heap.size (zC 29)/\V.heap.size<=w8.heap.size):=(⟨H7.out.1.ab vv,H7.out.2⟩);have bD:Below V.heap.size V ri:=hHeld.1.trans (vv.mono hHeld.1.size);have kK:=hid (Zz xM (show wg O P C C' from ⟨f,B,M,g,HK.out.2,nW.out.2,ym,tA⟩));clear xM ym tA vv
    try go_wp2_with fail
    refine hK.out _ _ (dc.out _ bD) fun hHeld=>?_;clear hK K
    try simp only[put,sA]
    clear bD;refine bf 6 (fun K hK=>?_);skip;refine FN (by rfl) 29 _ _ (by rfl) w8.heap.size 29 (zC 29) P.cD (by rfl) (by rfl) H7.out.1 (by rw[gY,kK.out.1.sz]) (by rw[fD,kK.out.1.sz]) kK.out.1.one ?_;have HE:=hid (Zz (bz.stored (kK.out.2.right HO.out.2.r) kK.out.1 H7.out.1) (Zz kK.out.2 (kT hHeld.1 H7.out.2 P.cD)));refine hK.out _ _ (dc.out _ HE.out.2.2) fun hHeld=>?_;clear hK K
    try simp only[put,sA]
    refine wpAnyH_done (by kernel_rfl) ?_ _;clear hHeld;go_wp2_with fail
    go_meet
    exact⟨_,P,C',rfl,HE.out⟩
   exact AllReadyH.nil
  refine gG (fun K hK=>?_) ?_
  ·skip;refine EJ (by rfl) 29 (by rfl) (zC 29) (lA _) ?_;have kk:=al V.drew (.cells (zC 29) 29);have bD:Below V.heap.size V (V.drew.alloc (.cells (zC 29) 29)):=hHeld.1.trans (kk.mono hHeld.1.size);have H7:Hid (St (V.drew.alloc (.cells (zC 29) 29)) 29 V.heap.size (zC 29)/\V.heap.size<=V.heap.size):=(⟨St.new _ _ _,hHeld.1.size⟩);refine hK.out _ _ (dc.out _ bD) fun hHeld=>?_;clear hK K
   try simp only[put,sA]
   try simp only[kU]
   clear kk;generalize (V.drew.alloc (.cells (zC 29) 29))=V7 at H7 hHeld bD⊢;refine bf 2 (fun K hK=>?_);skip;go_simp;go_at_call 45;refine (X2 O C HO.out.2.r _ hHeld.2.dm).mono ?_;rintro e w8 ⟨f,B,aB,cB,rfl,ho,Kg,vv⟩;have H7:Hid (St w8 29 V.heap.size (zC 29)/\V.heap.size<=V.heap.size):=(⟨H7.out.1.ab vv,H7.out.2⟩);have bD:Below V.heap.size V w8:=hHeld.1.trans (vv.mono hHeld.1.size);have HK:=hid (Zz (Vh ho) Kg);clear ho Kg vv
   try go_wp2_with fail
   refine hK.out _ _ (dc.out _ bD) fun hHeld=>?_;clear hK K
   try simp only[put,sA]
   clear bD;refine bf 3 (fun K hK=>?_);skip;go_simp;go_at_call 44;refine (ON O C HO.out.2.r _ f B HK.out.2 aB cB _ hHeld.2.dm HK.out.1).mono ?_;rintro e w9 ⟨M,rfl,Be,t1,t2,t3,t4,t5,t6,vv,_⟩;have H7:Hid (St w9 29 V.heap.size (zC 29)/\V.heap.size<=V.heap.size):=(⟨H7.out.1.ab vv,H7.out.2⟩);have bD:Below V.heap.size V w9:=hHeld.1.trans (vv.mono hHeld.1.size);have nW:=hid (Zz Be (show qR O C f B M from ⟨t1,t2,t3,t4,t5,t6⟩));clear Be t1 t2 t3 t4 t5 t6 vv
   try go_wp2_with fail
   refine hK.out _ _ (dc.out _ bD) fun hHeld=>?_;clear hK K
   try simp only[put,sA]
   clear bD;refine bf 4 (fun K hK=>?_);skip;go_simp;go_at_call 43;refine (Nu M C (nW.out.2.right HO.out.2.r HK.out.2) _ nW.out.1).mono ?_;rintro e ri ⟨P,g,C',rfl,xM,ym,tA,vv⟩;have H7:Hid (St ri 29 V.heap.size (zC 29)/\V.heap.size<=V.heap.size):=(⟨H7.out.1.ab vv,H7.out.2⟩);have bD:Below V.heap.size V ri:=hHeld.1.trans (vv.mono hHeld.1.size);have kK:=hid (Zz xM (show wg O P C C' from ⟨f,B,M,g,HK.out.2,nW.out.2,ym,tA⟩));clear xM ym tA vv
   try go_wp2_with fail
   refine hK.out _ _ (dc.out _ bD) fun hHeld=>?_;clear hK K
   try simp only[put,sA]
   clear bD;refine bf 6 (fun K hK=>?_);skip;refine FN (by rfl) 29 _ _ (by rfl) V.heap.size 29 (zC 29) P.cD (by rfl) (by rfl) H7.out.1 (by rw[gY,kK.out.1.sz]) (by rw[fD,kK.out.1.sz]) kK.out.1.one ?_;have HE:=hid (Zz (bz.stored (kK.out.2.right HO.out.2.r) kK.out.1 H7.out.1) (Zz kK.out.2 (kT hHeld.1 H7.out.2 P.cD)));refine hK.out _ _ (dc.out _ HE.out.2.2) fun hHeld=>?_;clear hK K
   try simp only[put,sA]
   refine wpAnyH_done (by kernel_rfl) ?_ _;clear hHeld;go_wp2_with fail
   go_meet
   exact⟨_,P,C',rfl,HE.out⟩
  exact AllReadyH.nil
 case rest=>
  obtain⟨b5,P,C',rfl,MV,Q2,Gd⟩:=hcut;have HP:=hid (Zz MV (Zz Q2 Gd));have H5:Hid (St wc 29 b2 (zC 29)/\Below b0 w wc/\b0<=wc.heap.size):=⟨H4.out.1.ab Gd,H4.out.2.1.trans (Gd.mono H4.out.2.2),by have:=H4.out.2.2;have:=Gd.size;omega⟩
  obtain⟨k2,yg,DQ⟩:=Xt (HP.out.2.1.right HO.out.2.r);have HOr:=hid (Zq P C' _ k2 rfl yg DQ wc HP.out.1.dm (HP.out.2.1.right HO.out.2.r));have CL:=hid (Zz yg DQ);clear MV Q2 Gd yg DQ;go_wp2_with (refine jr (by rfl) 29 _ rfl ⟨b5,0,none⟩ rfl P.cD _ HP.out.1.st.part underlying29 rfl HP.out.1.dm.info ?_);refine HOr.out.mono ?_;rintro e wX ⟨X,rfl,yl,t1,t2,t3,t4,t5,t6,bX,_⟩;have HX:=hid (wg.mn HO.out.2.r HO.out.2.ord HO.out.2.Ba HP.out.2.1 rfl CL.out.1 CL.out.2 (X:=X) ⟨t1,t2,t3,t4,t5,t6⟩);have uT:=hid yl;have uW:Hid (X.n<=D.n):=by have h1:=HP.out.2.1.le;have h2:=HO.out.2.le;have h3:=CL.out.2;show X.n<=D.n;omega
  have fV:=hid (H5.out.1.ab bX);have HF:Hid (Zd D w (.returned (.tuple #[.agg X.cD,.int .i64 0])) (wX.setRow b2 X.cD)):=by
   have hb:Below w.heap.size w wX:=by
    have h:=H5.out.2.1.trans (bX.mono H5.out.2.2);rw[Hb.out.1];exact h
   refine⟨X,C',rfl,(bz.stored HX.out.1.r yl fV.out).dm,HX.out.1,HX.out.2.trans HO.out.2.xx,uW.out,kT hb (by have:=Hb.out.2;omega) _⟩
  clear yl t1 t2 t3 t4 t5 t6 bX HOr;go_wp2_with (refine lJ rfl 29 _ _ rfl b2 29 (zC 29) X.cD rfl rfl fV.out (by rw[gY,uT.out.sz]) (by rw[fD,uT.out.sz]) uT.out.one ?_);refine bodyPost_ret (ye rfl _ _ b2 X.cD _ rfl fV.out.setRow.part underlying29 rfl (by rw[fD,uT.out.sz])) rfl ?_;exact HF.out
