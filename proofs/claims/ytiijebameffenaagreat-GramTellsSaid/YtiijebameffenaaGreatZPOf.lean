import Derived.Test.YtiijebameffenaaGreatZMUniq
import Derived.Test.YtiijebameffenaaGreatZPBy
import Derived.Laws.MakeOwn
set_option linter.all false
set_option maxHeartbeats 4000000
set_option maxRecDepth 100000
open Go.Lib (hid)
namespace Go.Proofs.YtiijebameffenaaGreat
open Go.RowKit Go.Maps Go.WideElems Go.ChangeMaps Go.MapKept Go.Proofs.Tryz
open Instr (fill lookup makeMap makeSlice mapUpdate)
open List (getD_eq_getElem?_getD getElem?_append_left getElem?_eq_getElem getElem_of_mem length_append length_map map_append mem_of_getElem? range range_succ replicate set_cons_succ set_cons_zero)
open Or (inl inr)
open Nat (le_refl zero_le)
open Act (put)
open IntKind (signed wrap)
variable {B C C' bM i k n:Nat}{D O P:Dd}{W0 w w' w1:World}{a:Option Addr}{cs:Array Value}{f g:Nat->Nat}{l nm:List Nat}{t:TypeId}{u v v':Value}
theorem Wz(n:Nat)(hn:n<=1000000)(W:World):(makeSlice 43 (.int .i64 0) (.int .i64 (n:Int))).run prog W=.ok (.slice (some ⟨W.heap.size,0,none⟩) 0 n) (W.alloc (.cells (madeCells #[.int .i64 0] n) 3)):=by
 obtain⟨i0,hi,dD,cQ,cJ⟩:=info_parts az;have h:=run_makeSlice (P:=prog) W 43 3 i0 (.int .i64 0) underlying43 hi dD .i64 .i64 0 (n:Int) (by omega) (by omega) (by rw[cQ];simp;omega) (by rw[cJ];omega) (by omega);have e:(Value.int .i64 0).cells=#[.int .i64 0]:=rfl;rw[cQ,e] at h;simpa using h
def dV(w:World)(k:TypeId)(b n:Nat)(Q:Value->Value->Prop):Prop:=
 ∃es clock,w.heap[b]?=some (.map es clock)/\Fit prog k fp es clock/\es.size=n/\(∀e∈es.toList,Q e.key e.val)/\∀x y,Q x y->∃e∈es.toList,e.key=x
theorem dV.ex{k:TypeId}{b:Nat}{Q:Value->Value->Prop}(h:dV w k b n Q):aD w k b n Q:=by
 obtain⟨es,clock,h1,h2,h3,h4⟩:=h;exact⟨es,clock,h1,h2,by omega,h4⟩
theorem dV.made(w:World)(k:TypeId)(Q:Value->Value->Prop)(h0:∀x y,¬Q x y):dV (w.alloc (.map #[] 0)) k w.heap.size 0 Q:=
 ⟨#[],0,(MapKept.heap_alloc w _).1,⟨by simp,stamped_empty 0,by simp⟩,rfl,by simp,fun x y h=>absurd h (h0 x y)⟩
theorem dV.lt{k:TypeId}{b:Nat}{Q:Value->Value->Prop}(h:dV w k b n Q):b<w.heap.size:=h.ex.lt
theorem dV.same{k:TypeId}{b:Nat}{Q:Value->Value->Prop}(h:dV w k b n Q)(e:w'.heap[b]?=w.heap[b]?):dV w' k b n Q:=by
 obtain⟨es,clock,hb,r⟩:=h;exact⟨es,clock,e.trans hb,r⟩
theorem dV.af{t' size b N:Nat}{xs:List Value}{Q:Value->Value->Prop}(h:dV w k b N Q)(ho:w.ownsRow B t' size v n xs)(hg:w.grownBy w' v.ownBlock):dV w' k b N Q:=by
 refine h.same (hg.block b h.lt (fun e=>?_));obtain⟨c,fz,hc⟩:=qa ho b e.symm;obtain⟨es,clock,hb,_⟩:=h;rw[hc] at hb;cases hb
theorem dV.len{k ty:TypeId}{b:Nat}{Q:Value->Value->Prop}(h:dV w k b n Q)(ht:prog.underlying t=some (.map (prog.mapKeyOf t) (prog.mapElemOf t))):(Builtin.len_ #[t] ty #[.map (some b)]).run prog w=.ok (.int .i64 (n:Int)) w:=by
 obtain⟨es,clock,hb,_,hs,_⟩:=h;rw[Go.run_len_map w t ty b es clock ht hb,hs];rfl
theorem dV.update{k e:TypeId}{b:Nat}{Q Q':Value->Value->Prop}(h:dV w k b n Q)(K:Keyed prog k)(ht:prog.underlying t=some (.map k e))(hn:n<maxLen)
  {key val:Value}{kl:Lit}(ee:keyOf prog k key=some kl) (jU:∀y,¬Q key y) (hQ:∀x y,Q x y->Q' x y) (hv:Q' key val) (mx:∀x y,Q' x y->x≠key->∃y',Q x y'):
  ∃w',(mapUpdate t (.map (some b)) key val).run prog w=.ok () w'/\dV w' k b (n+1) Q'/\w.grownBy w' (some b):=by
 obtain⟨es,clock,hb,F,hs,hq,dX⟩:=h;have iQ:∀x∈es.toList,x.key≠key:=fun x hx e0=>jU x.val (by rw[<-e0];exact hq x hx)
 obtain⟨F1,_,_⟩:=F.stay (R':=fp) (fun x hx z hz=>hz);have DB:WideElems.rd prog k fp ⟨key,val,clock⟩=some (kl,.held val):=by unfold WideElems.rd fp;rw[ee];rfl
 rcases K.find w ee es.toList F.keys with ⟨h1,h2⟩|⟨j,e0,h1,h2,h3⟩
 ·refine⟨setBlock w b (.map (es.push ⟨key,val,clock⟩) (clock+1)),?_,⟨es.push ⟨key,val,clock⟩,clock+1,heap_setBlock_same hb _,⟨by simp;omega,stamped_push F.stamped h2,?_⟩,by simp;omega,fun x hx=>?_,fun x y hx=>?_⟩,⟨rfl,rfl,rfl,by simp[setBlock],fun i _ hi=>heap_setBlock_other hb _ (fun e=>hi (by rw[e]))⟩⟩
  ·simp[mapUpdate,run_underlying ht,MapKept.run_getObj_map hb,K.check w false ee,h1,MapKept.run_setObj_map _ hb,Result.andThen,setBlock]
  ·intro x hx;simp only[Array.toList_push,List.mem_append,List.mem_singleton] at hx;rcases hx with hx|rfl
   ·exact F1.reads x hx
   exact⟨_,DB⟩
  ·simp only[Array.toList_push,List.mem_append,List.mem_singleton] at hx;rcases hx with hx|rfl
   ·exact hQ _ _ (hq x hx)
   exact hv
  by_cases e0:x=key
  ·exact⟨⟨key,val,clock⟩,by rw[Array.toList_push];exact List.mem_append_right _ (List.mem_singleton.2 rfl),e0.symm⟩
  obtain⟨y',hy⟩:=mx x y hx e0;obtain⟨e1,h4,h5⟩:=dX x y' hy;exact⟨e1,by rw[Array.toList_push];exact List.mem_append_left _ h4,h5⟩
 exact absurd h3 (iQ e0 (mem_of_getElem? h2))
theorem Xe(n:Nat)(hn:n<=1000000)(W:World)(B:Nat)(hB:B<=W.heap.size):(W.alloc (.cells (madeCells #[.int .i64 0] n) 3)).ownsRow B 3 1 (.slice (some ⟨W.heap.size,0,none⟩) 0 n) 0 []:=
 World.ownsRow_made W _ n hB (by unfold maxLen;omega) (by have:=size_madeCells #[Value.int .i64 0] n;simpa using this)
def zoS(l:List Nat)(n:Nat)(w:World)(e:Ending)(w':World):Prop:=
 ∃(f:Nat->Nat) (B:Nat) (a:Option Addr) (c:Nat),e=.returned (.slice a n c)/\w'.ownsRow w.heap.size 3 1 (.slice a n c) n (cG ((range n).map f))/\ff (fun i j=>l.getD i 0=l.getD j 0) n f B/\Below w.heap.size w w'
structure sj (W0:World)(l:List Nat)(bM k:Nat)(v:Value)(nm:List Nat)(f:Nat->Nat)(w:World):Prop where
 below:Below W0.heap.size W0 w
 map:dV w 3 bM nm.length (zH nm)
 own:w.ownsRow W0.heap.size 3 1 v k (cG ((range k).map f))
 at_:∀i,i<k->nm[f i]?=some (l.getD i 0)
 num:ff (fun i j=>l.getD i 0=l.getD j 0) k f nm.length
 lo:W0.heap.size<=bM
 nk:nm.length<=k
theorem sj.mem(h:sj W0 l bM k v nm f w)(y:Nat):y∈nm↔∃i,i<k/\l.getD i 0=y:=by
 constructor
 ·intro hm;obtain⟨b,hb,e⟩:=getElem_of_mem hm;obtain⟨i,h1,h2,_⟩:=h.num.new b hb;refine⟨i,h1,?_⟩;have:=h.at_ i h1;rw[h2,getElem?_eq_getElem hb,e] at this;exact (Option.some.inj this).symm
 rintro⟨i,hi,rfl⟩;exact mem_of_getElem? (h.at_ i hi)
theorem XV(f:Nat->Nat)(k b:Nat):cG ((range (k+1)).map fun i=>if i=k then b else f i)=cG ((range k).map f)++[.int .i64 (b:Int)]:=by
 rw[range_succ,map_append,cG,map_append];congr 1
 ·unfold cG;congr 1;refine List.map_congr_left fun i hi=>?_
  have:=List.mem_range.1 hi;rw[if_neg (by omega)]
 simp
theorem zgt(W:World):(makeMap 191 none).run prog W=.ok (.map (some W.heap.size)) (W.alloc (.map #[] 0)):=by
 kernel_rfl
theorem sj.look(h:sj W0 l bM k v nm f w)(hk:l.getD k 0<=1000000):
  (∃b,nm[b]?=some (l.getD k 0)/\(lookup 191 (.map (some bM)) (.int .i64 ((l.getD k 0:Nat):Int)) true).run prog w=.ok (.tuple #[.int .i64 ((b:Nat):Int),.bool true]) w)\/
  (l.getD k 0∉nm/\(lookup 191 (.map (some bM)) (.int .i64 ((l.getD k 0:Nat):Int)) true).run prog w=.ok (.tuple #[.int .i64 0,.bool false]) w):=by
 rcases h.map.ex.oh Dv underlying191 (J9 w) (LI _ (by omega:l.getD k 0<=9223372036854775807)) with ⟨bU,iQ⟩|⟨v,⟨b,s,h1,h2,rfl⟩,bU⟩
 ·refine inr ⟨fun hm=>?_,bU⟩;obtain⟨b,hb,e⟩:=getElem_of_mem hm;exact iQ _ ⟨b,l.getD k 0,by rw[getElem?_eq_getElem hb,e],rfl,rfl⟩
 exact inl ⟨b,by rw[MO h2];exact h1,bU⟩
theorem sj.aa(h:sj W0 l bM k v nm f w)(kk:Below w.heap.size w w1):sj W0 l bM k v nm f w1:=
 ⟨h.below.trans (kk.mono h.below.size),h.map.same (kk.block _ h.map.lt),dr h.own kk,h.at_,h.num,h.lo,h.nk⟩
theorem sj.kL{b:Nat}(h:sj W0 l bM k v nm f w)(hb:nm[b]?=some (l.getD k 0))
  (ho:w'.ownsRow W0.heap.size 3 1 v' (k+1) (cG ((range k).map f)++[.int .i64 (b:Int)])) (hg:w.grownBy w' v.ownBlock):∃f',sj W0 l bM (k+1) v' nm f' w':=by
 have ew:b<nm.length:=(List.getElem?_eq_some_iff.1 hb).1;obtain⟨i,h1,h2,_⟩:=h.num.new b ew;have hi:=h.at_ i h1;rw[h2,hb] at hi;have hi:=Option.some.inj hi;refine⟨fun j=>if j=k then b else f j,fO h.below h.own h.below.size hg,h.map.af h.own hg,by rw[XV];exact ho,fun j hj=>?_,?_,h.lo,by have:=h.nk;omega⟩
 ·by_cases e:j=k
  ·simp only[if_pos e];rw[e];exact hb
  simp only[if_neg e];exact h.at_ j (by omega)
 have:=h.num.kL (fun i j e=>e.symm) (fun i j l e e2=>e.trans e2) (fun i=>rfl) h1 hi.symm;rw[h2] at this;exact this
theorem sj.fresh(h:sj W0 l bM k v nm f w)(hb:l.getD k 0∉nm)(hm:dV w1 3 bM (nm.length+1) (zH (nm++[l.getD k 0])))(jx:w.grownBy w1 (some bM))
  (w2:World) (k2:Below w1.heap.size w1 w2) (hg:w2.grownBy w' v.ownBlock) (ho:w'.ownsRow W0.heap.size 3 1 v' (k+1) (cG ((range k).map f)++[.int .i64 (nm.length:Int)])):∃f',sj W0 l bM (k+1) v' (nm++[l.getD k 0]) f' w':=by
 have lF:Below W0.heap.size W0 w1:=h.below.grown jx h.below.size (fun g e=>by injection e with e;rw[<-e];exact h.lo);have ma:=lF.trans (k2.mono lF.size);have o2:=dr (ym h.own h.map.ex.of jx) k2;have m2:=hm.same (k2.block _ hm.lt);refine⟨fun j=>if j=k then nm.length else f j,fO ma o2 ma.size hg,by rw[length_append];exact m2.af o2 hg,by rw[XV];exact ho,fun j hj=>?_,?_,h.lo,by have:=h.nk;simp;omega⟩
 ·by_cases e:j=k
  ·simp only[if_pos e];rw[e];simp
  simp only[if_neg e];have:=h.at_ j (by omega);rw[getElem?_append_left (List.getElem?_eq_some_iff.1 this).1];exact this
 have:=h.num.fresh (fun i j e=>e.symm) (fun i=>rfl) (fun i hi e=>hb ((h.mem _).2 ⟨i,hi,e⟩));rw[length_append];exact this
theorem znM{x:Nat}(h:dV w 3 bM nm.length (zH nm))(hx:x<=1000000)(hn:nm.length<maxLen)(hb:x∉nm):
  ∃w',(mapUpdate 191 (.map (some bM)) (.int .i64 (x:Int)) (.int .i64 (nm.length:Int))).run prog w=.ok () w'/\dV w' 3 bM (nm.length+1) (zH (nm++[x]))/\w.grownBy w' (some bM):=by
 refine h.update Dv underlying191 hn (LI _ (by omega)) ?_ ?_ ?_ ?_
 ·rintro y ⟨k,s,h1,h2,_⟩;rw[<-MO h2] at h1;exact hb (mem_of_getElem? h1)
 ·rintro a b ⟨k,s,h1,h2,h3⟩;exact⟨k,s,by rw[getElem?_append_left (List.getElem?_eq_some_iff.1 h1).1];exact h1,h2,h3⟩
 ·exact⟨nm.length,x,by simp,rfl,rfl⟩
 rintro a b ⟨k,s,h1,h2,h3⟩ hne;by_cases e:k<nm.length
 ·rw[getElem?_append_left e] at h1;exact⟨b,k,s,h1,h2,h3⟩
 rw[List.getElem?_append_right (by omega)] at h1;cases hj:k-nm.length with
 | zero=>rw[hj] at h1;simp at h1;exact absurd (by rw[h2,h1]) hne
 | succ j=>rw[hj] at h1;simp at h1
theorem Zj(l:List Nat)(n:Nat)(hl:l.length=n)(hn:n<=100000)(hb:∀x∈l,x<=1000000)(a:Option Addr)(c:Nat)(w:World)(hL:nA w a l):Calls prog 133 #[.slice a n c] w (zoS l n w):=by
 have iK:=zgt;have jd:=Wz n (by omega);have HX:=hid (Zz hl (Zz hb hL));clear hl hb hL;go_enter func133,ntmps133;go_upto_region 3 with fail;obtain⟨bM,qZ⟩:∃bM,w.heap.size+1=bM:=⟨_,rfl⟩
 obtain⟨b0,aY⟩:∃b0,w.heap.size=b0:=⟨_,rfl⟩
 obtain⟨W2,lO⟩:∃W2,(w.alloc (.cells (madeCells #[.int .i64 0] n) 3)).alloc (.map #[] 0)=W2:=⟨_,rfl⟩
 have da:(w.alloc (.cells (madeCells #[.int .i64 0] n) 3)).heap.size=bM:=by rw[<-qZ];simp
 have k1:=al w (.cells (madeCells #[.int .i64 0] n) 3);have k2:=al (w.alloc (.cells (madeCells #[.int .i64 0] n) 3)) (.map #[] 0);have Ic:sj w l bM 0 (.slice (some ⟨b0,0,none⟩) 0 n) [] (fun _=>0) W2:=by
  have hO:=dr (Xe n (by omega) w w.heap.size (le_refl _)) k2;rw[lO,aY] at hO;refine⟨by rw[<-lO];exact k1.trans (k2.mono (by simp)),?_,by rw[aY];exact hO,fun i hi=>absurd hi (by omega),ff.zero _,by omega,by simp⟩;have:=dV.made (w.alloc (.cells (madeCells #[.int .i64 0] n) 3)) 3 (zH []) (fun x y h=>by
   obtain⟨k,s,h1,_⟩:=h
   simp at h1)
  rw[lO,da] at this;exact this
 have uy:=hid Ic;clear Ic k1 k2
 try rw[qZ]
 try rw[lO]
 try rw[aY]
 have Hb:=hid (Zz qZ aY);clear qZ aY lO da;go_wp2;go_loopw [3,6,7,8,15] (fun v3 _ _ _ vk wr=>∃k:Nat,vk=.int .i64 k/\k<=n/\(∃a3 c3,v3=.slice a3 k c3)/\Hid (∃nm f,sj w l bM k v3 nm f wr)) (fun _ _ _ _ v _=>n-(intOf v).toNat)
 ·exact⟨0,rfl,zero_le _,⟨_,_,rfl⟩,_,_,uy.out⟩
 obtain⟨k,rfl,hk,⟨a3,c3,rfl⟩,HL⟩:=hrel;by_cases aw:k<n
 ·obtain⟨nm,f,hI⟩:=HL.out;obtain⟨g,off,rfl,hg,hc⟩:=HX.out.2.2 (by have:=HX.out.1;omega);have d0:=(hI.below.cell (p:=⟨g,off+k,none⟩) hg).trans (hc k (by have:=HX.out.1;omega));simp only[] at d0;have KE:l.getD k 0<=1000000:=by
   by_cases e:k<l.length
   ·rw[getD_eq_getElem?_getD,getElem?_eq_getElem e];exact HX.out.2.1 _ (List.getElem_mem e)
   rw[getD_eq_getElem?_getD,List.getElem?_eq_none (by omega)];simp
  have dE:=hI.look KE;have i1:(k:Int)<n:=by omega
  have Gp:=hI.nk;obtain⟨m,hm⟩:∃m,nm.length=m:=⟨_,rfl⟩
  obtain⟨i0,hi,dD,cQ,cJ⟩:=info_parts az;have rH:=hI.below.size;have HI:=hid hI;have hlen:=hI.map.len (ty:=3) (t:=191) (by rw[underlying191];rfl);rw[hm] at Gp hlen;clear hc hg hI HL;rcases dE with ⟨b,hb,bU⟩|⟨hb,bU⟩
  ·have Hb:=hid hb;clear hlen hb;obtain⟨x,hx⟩:∃x,l.getD k 0=x:=(⟨_,rfl⟩);rw[hx] at d0 bU KE;go_wp2_with (at_builtin;refine wpList_append_own_at _ rfl _ _ 43 rfl w.heap.size 3 i0 (.int .i64 0) 1 8 underlying43 hi dD cQ cJ rfl (by decide) _ _ _ rfl (HI.out.own.alloc _) ⟨wr.heap.size,0,none⟩ 1 1 [.int .i64 (b:Int)] rfl rfl (cell_one_new _ _ _) ?d2 ?d3 ?d4 ?d5 ?_)
   case d2=>first|(intro u hu;simp at hu;subst hu;rfl)|rfl
   case d3=>unfold maxLen;omega
   case d4=>omega
   case d5=>first|(simp;omega)|omega
   intro v' w5 an ak _ bw;obtain⟨a5,c5,rfl⟩:=bG an;have HF:=hid ((HI.out.aa (al wr (.cells #[.int .i64 (b:Int)] 3))).kL Hb.out an ak);clear an ak bw;go_wp2;go_roundw
   ·exact⟨k+1,by go_num,by omega,⟨_,_,rfl⟩,nm,HF.out⟩
   simp[intOf];omega
  obtain⟨w1,yd,mj,jx⟩:=znM HI.out.map KE (by unfold maxLen;omega) hb;have RC:=hid (Zz hb (Zz mj jx));have Am:=ym HI.out.own HI.out.map.ex.of jx;rw[hm] at yd;have On:=(HI.out.below.grown jx rH (fun g e=>by injection e with e;rw[<-e];exact HI.out.lo)).size;clear mj jx hb;obtain⟨x,hx⟩:∃x,l.getD k 0=x:=⟨_,rfl⟩
  rw[hx] at d0 bU KE yd;go_wp2_with (at_builtin;refine wpList_append_own_at _ rfl _ _ 43 rfl w.heap.size 3 i0 (.int .i64 0) 1 8 underlying43 hi dD cQ cJ rfl (by decide) _ _ _ rfl (Am.alloc _) ⟨w1.heap.size,0,none⟩ 1 1 [.int .i64 (m:Int)] rfl rfl (cell_one_new _ _ _) ?d2 ?d3 ?d4 ?d5 ?_)
  case d2=>first|(intro u hu;simp at hu;subst hu;rfl)|rfl
  case d3=>unfold maxLen;omega
  case d4=>omega
  case d5=>first|(simp;omega)|omega
  intro v' w5 an ak _ bw;obtain⟨a5,c5,rfl⟩:=bG an;have HF:=hid (HI.out.fresh RC.out.1 RC.out.2.1 RC.out.2.2 _ (al w1 (.cells #[.int .i64 (m:Int)] 3)) ak (by rw[hm];exact an));clear an ak bw Am;go_wp2;go_roundw
  ·exact⟨k+1,by go_num,by omega,⟨_,_,rfl⟩,_,HF.out⟩
  simp[intOf];omega
 obtain rfl:k=n:=by omega
 obtain⟨nm,f,hI⟩:=HL.out;have HI:=hid hI;clear hI HL;go_wp2;go_ret;exact⟨f,nm.length,a3,c3,rfl,HI.out.own,HI.out.num,HI.out.below⟩
def UU(D:Dd)(C:Nat)(w:World)(e:Ending)(w':World):Prop:=
 ∃(f:Nat->Nat) (B:Nat) (a:Option Addr) (c:Nat),e=.returned (.slice a D.n c)/\w'.ownsRow w.heap.size 3 1 (.slice a D.n c) D.n (cG ((range D.n).map f))/\ff (kP C (tD D) (mD D)) D.n f B/\Below w.heap.size w w'
theorem nA.G8(h:nA w a l)(n:Nat)(hn:n<=l.length):nA w a (l.take n):=by
 intro h0;have e:(l.take n).length=n:=by rw[List.length_take];omega
 rw[e] at h0;obtain⟨g,off,e1,hg,hc⟩:=h (by omega);refine⟨g,off,e1,hg,fun j hj=>?_⟩;rw[e] at hj;rw[hc j (by omega)];simp only[];rw[getD_eq_getElem?_getD,getD_eq_getElem?_getD,List.getElem?_take_of_lt hj]
theorem ff.rel{R R':Nat->Nat->Prop}(h:ff R n f B)(e:∀i j,i<n->j<n->(R i j↔R' i j)):ff R' n f B:=
 ⟨fun i j hi hj=>(h.same i j hi hj).trans (e i j hi hj),h.lt,h.new⟩
theorem Yd(D:Dd)(C:Nat)(hR:DR D C)(w:World)(hD:DM w D):Calls prog 102 #[.agg D.cD] w (UU D C w):=by
 have HB:=hid (Zz (db.new hD) (Zz (al w (.cells D.cD 101)) hR));clear hD hR;go_enter func102,ntmps102;go_upto_region 1 with fail;generalize w.alloc (.cells D.cD 101)=W0 at HB⊢;obtain⟨b0,aY⟩:∃b0,w.heap.size=b0:=⟨_,rfl⟩
 rw[aY] at HB;rw[aY];have dU:=hid aY;have Jp:b0<=W0.heap.size:=by have:=HB.out.2.1.size;omega
 clear aY;have tk:=hid (Ga D C HB.out.2.2 W0 HB.out.1.dm);go_wp2_with (refine nI (by rfl) 101 _ rfl ⟨b0,0,none⟩ rfl D.cD _ HB.out.1.st.part underlying101 rfl HB.out.1.dm.info ?_);refine tk.out.mono ?_;rintro e w1 ⟨rfl,b1⟩;have H1:=hid (Zz (HB.out.1.aa b1) (HB.out.2.1.trans (b1.mono Jp)));have fG:b0<=w1.heap.size:=by have:=b1.size;omega
 have TY:=hid (zgu D C HB.out.2.2 w1 H1.out.1.dm);clear b1 tk;go_wp2_with (refine nI (by rfl) 101 _ rfl ⟨b0,0,none⟩ rfl D.cD _ H1.out.1.st.part underlying101 rfl H1.out.1.dm.info ?_);refine TY.out.mono ?_;rintro e w2 ⟨bl,a,c,rfl,ew,Gv,hc,hO,heq,b2⟩;have H2:=hid (Zz (H1.out.1.aa b2) (H1.out.2.trans (b2.mono fG)));have ct:b0<=w2.heap.size:=by have:=b2.size;omega
 have dj:=HB.out.2.2.n2;have xz:(bl.take D.n).length=D.n:=by rw[List.length_take];omega
 have xO:=hid (Zj (bl.take D.n) D.n xz (by omega) (fun x hx=>by have:=Gv x (List.mem_of_mem_take hx);omega) a c w2 ((tN hO ew).G8 D.n (by omega)));have Heq:Hid (∀i j,i<D.n->j<D.n->((bl.take D.n).getD i 0=(bl.take D.n).getD j 0↔kP C (tD D) (mD D) i j)):=by
  show ∀i j,_;intro i j hi hj;rw[<-heq i j (by omega) (by omega)];simp only[getD_eq_getElem?_getD,List.getElem?_take_of_lt hi,List.getElem?_take_of_lt hj]
 have f1:=H2.out.1.f1;have i1:(D.n:Int)<=(c:Int):=by omega
 have pD:D.n<=c:=by omega
 clear b2 TY hO heq Gv ew xz;go_wp2_with fail;refine xO.out.mono ?_;rintro e w3 ⟨f,B,a3,c3,rfl,TG,Jo,b3⟩;have HF:Hid (UU D C w (.returned (.slice a3 D.n c3)) w3):=by
  refine⟨f,B,a3,c3,rfl,jR TG (by rw[dU.out];exact ct),Jo.rel Heq.out,?_⟩;rw[dU.out];exact H2.out.2.trans (b3.mono ct)
 clear TG Jo b3;go_wp2;go_ret;exact HF.out
theorem SM{c:Nat}(h:w.ownsRow B 3 1 (.slice a n c) n (cG ((range n).map f))):kQ w a n (fun i=>((f i:Nat):Int)):=by
 intro h0;obtain⟨g,e,h1,h2,h3⟩:=fe h h0;refine⟨g,0,e,h2,fun j hj=>?_⟩;have:=(h3 j (by omega)).1;rw[Nat.zero_add,this];simp[cG,hj]
def Wl(z:Nat->Int)(l:List Nat)(m:Nat)(w:World)(e:Ending)(w':World):Prop:=
 ∃(a:Option Addr) (c:Nat),e=.returned (.slice a m c)/\w'.ownsRow w.heap.size 3 1 (.slice a m c) m (ints (l.map z))/\Below w.heap.size w w'
theorem zjY(z:Nat->Int)(l:List Nat)(k:Nat)(hk:k<l.length):ints ((l.take (k+1)).map z)=ints ((l.take k).map z)++[.int .i64 (z (l.getD k 0))]:=by
 rw[List.take_succ_eq_append_getElem hk,map_append,getD_eq_getElem?_getD,getElem?_eq_getElem hk];simp[ints]
theorem Ua(z:Nat->Int)(N:Nat)(l:List Nat)(m:Nat)(hm:l.length=m)(mj:m<=100000)(hN:N<=100000)(hl:∀x∈l,x<N)(a1 a2:Option Addr)(c1 c2:Nat)(w:World)(hZ:kQ w a1 N z)(hL:nA w a2 l):
  Calls prog 131 #[.slice a1 N c1,.slice a2 m c2] w (Wl z l m w):=by
 have jd:=Wz m (by omega);have HX:=hid (Zz hm (Zz hl (Zz hZ hL)));clear hm hl hZ hL;go_enter func131,ntmps131;go_upto_region 2 with fail;obtain⟨b0,aY⟩:∃b0,w.heap.size=b0:=⟨_,rfl⟩
 obtain⟨W2,lO⟩:∃W2,w.alloc (.cells (madeCells #[.int .i64 0] m) 3)=W2:=⟨_,rfl⟩
 have k1:=al w (.cells (madeCells #[.int .i64 0] m) 3);have hO:=Xe m (by omega) w w.heap.size (le_refl _);rw[lO] at hO k1;have uy:Hid (Below w.heap.size w W2/\W2.ownsRow w.heap.size 3 1 (.slice (some ⟨b0,0,none⟩) 0 m) 0 (ints ((l.take 0).map z))):=⟨k1,by rw[<-aY];simpa [ints] using hO⟩
 clear hO k1
 try rw[lO]
 try rw[aY]
 have Hb:=hid aY;clear aY lO;go_wp2;go_loopw [5,7,13] (fun v5 _ vk wr=>∃k:Nat,vk=.int .i64 k/\k<=m/\(∃a c,v5=.slice a k c)/\Hid (Below w.heap.size w wr/\wr.ownsRow w.heap.size 3 1 v5 k (ints ((l.take k).map z)))) (fun _ _ v _=>m-(intOf v).toNat)
 ·exact⟨0,rfl,zero_le _,⟨_,_,rfl⟩,uy.out⟩
 clear uy;obtain⟨k,rfl,hk,⟨a5,c5,rfl⟩,HL⟩:=hrel;by_cases aw:k<m
 ·have hkl:k<l.length:=by have:=HX.out.1;omega
  obtain⟨g,off,rfl,hg,hc⟩:=HX.out.2.2.2 (by omega);have d0:=(HL.out.1.cell (p:=⟨g,off+k,none⟩) hg).trans (hc k hkl);simp only[] at d0;have hx:l.getD k 0<N:=by
   rw[getD_eq_getElem?_getD,getElem?_eq_getElem hkl];exact HX.out.2.1 _ (List.getElem_mem hkl)
  obtain⟨g1,OE,rfl,jx,pD⟩:=HX.out.2.2.1 (by omega);have d1:=(HL.out.1.cell (p:=⟨g1,OE+l.getD k 0,none⟩) jx).trans (pD _ hx);have HE:=hid (zjY z l k hkl);have rH:=HL.out.1.size;obtain⟨i0,xB,dD,cQ,cJ⟩:=info_parts az;have i1:(k:Int)<m:=by omega
  clear hc hg pD jx;obtain⟨x,Db⟩:∃x,l.getD k 0=x:=⟨_,rfl⟩
  rw[Db] at d0 d1 hx HE;obtain⟨y,ez⟩:∃y,z x=y:=⟨_,rfl⟩
  rw[ez] at d1 HE;clear Db ez;have i2:(x:Int)<N:=by omega
  have zT:=HL.out.2;go_wp2_with (at_builtin;refine wpList_append_own_at _ rfl _ _ 43 rfl w.heap.size 3 i0 (.int .i64 0) 1 8 underlying43 xB dD cQ cJ rfl (by decide) _ _ _ rfl (zT.alloc _) ⟨wr.heap.size,0,none⟩ 1 1 [.int .i64 y] rfl rfl (cell_one_new _ _ _) ?d2 ?d3 ?d4 ?d5 ?_)
  case d2=>first|(intro u hu;simp at hu;subst hu;rfl)|rfl
  case d3=>unfold maxLen;omega
  case d4=>omega
  case d5=>first|(simp;omega)|omega
  intro v' w5 an ak _ bw;obtain⟨a6,c6,rfl⟩:=bG an;have HF:Hid (Below w.heap.size w w5/\w5.ownsRow w.heap.size 3 1 (.slice a6 (k+1) c6) (k+1) (ints ((l.take (k+1)).map z))):=by
   have k9:=al wr (.cells #[.int .i64 y] 3);exact⟨fO (HL.out.1.trans (k9.mono rH)) (dr HL.out.2 k9) (by simp;omega) ak,by rw[HE.out];first|exact an|(rw[List.map_take];exact an)⟩
  clear an ak bw zT;go_wp2;go_roundw
  ·exact⟨k+1,by go_num,by omega,⟨_,_,rfl⟩,HF.out⟩
  simp[intOf];omega
 obtain rfl:k=m:=by omega
 have HF:Hid (Wl z l k w (.returned (.slice a5 k c5)) wr):=by
  have e:l.take k=l:=List.take_of_length_le (by have:=HX.out.1;omega);have h:=HL.out;rw[e] at h;exact⟨a5,c5,rfl,h.2,h.1⟩
 clear HL;go_wp2;go_ret;exact HF.out
def pU(D:Dd)(C:Nat)(f:Nat->Nat)(l:List Nat):List (List Int):=l.map fun i=>(range C).map (jW D f i)
theorem zlM{α:Type}(l:List Nat)(g:Nat->α)(n:Nat)(h:n=l.length):l.map g=(range n).map fun b=>g (l.getD b 0):=by
 subst h;apply List.ext_getElem?;intro i;by_cases hi:i<l.length
 ·simp[getD_eq_getElem?_getD,hi]
 simp[hi]
theorem RJ(D:Dd)(C:Nat)(hR:DR D C)(R:Nat->Nat->Prop)(f:Nat->Nat)(B:Nat)(hN:ff R D.n f B)(a:Option Addr)(cp:Nat)(w:World)(hD:DM w D)(hL:kQ w a D.n (fun i=>((f i:Nat):Int))):
  Calls prog 101 #[.agg D.cD,.slice a D.n cp] w (C7 D C B (fun b c=>jW D f ((bf f D.n).getD b 0) c) (fun b=>D.q ((bf f D.n).getD b 0)) w):=by
 have dj:=hR.n2;have fx:=hR.n1;have nc:=hR.m;have zp:=(hR.ka hD.kl).2;have HB:=hid (Zz (db.new hD) (Zz (al w (.cells D.cD 101)) (Zz hR (Zz hN hL))));obtain⟨iI,hI,oG,ow,oK⟩:=info_parts az;obtain⟨iV,hV,tQ,tI,tA⟩:=info_parts dR;clear hD hR hN hL;go_enter func101,ntmps101;go_upto_region 1 with (refine rF rfl 101 rfl (zC 101) (nE _) ?_)
 try simp only[put,List.setIfInBounds_toArray,set_cons_zero,set_cons_succ,GM]
 have H0:Hid (db ((w.alloc (.cells D.cD 101)).alloc (.cells (zC 101) 101)) w.heap.size D/\St ((w.alloc (.cells D.cD 101)).alloc (.cells (zC 101) 101)) 101 (w.heap.size+1) (zC 101)/\Below w.heap.size w ((w.alloc (.cells D.cD 101)).alloc (.cells (zC 101) 101))):=by
  refine⟨HB.out.1.aa (al _ _),?_,HB.out.2.1.trans ((al _ _).mono (by simp))⟩;have:=St.new (w.alloc (.cells D.cD 101)) 101 (zC 101);simpa using this
 generalize (w.alloc (.cells D.cD 101)).alloc (.cells (zC 101) 101)=Wn at H0⊢;obtain⟨b2,ct⟩:∃b2,w.heap.size+1=b2:=⟨_,rfl⟩
 obtain⟨b0,aY⟩:∃b0,w.heap.size=b0:=⟨_,rfl⟩
 rw[ct,aY] at H0;rw[ct,aY];have Hb:=hid (Zz aY ct);clear ct aY;have tr:=hid H0.out.1;have k5:=al Wn (.cells (zC 101) 101);have gq:St (Wn.alloc (.cells (zC 101) 101)) 101 Wn.heap.size (zC 101):=St.new _ _ _;have ID:ij Wn Wn.heap.size D.K C (.slice none 0 0) (pU D C f (bf f 0)) (fun _=>.slice none 0 0) (.slice none 0 0) ((bf f 0).map D.q) ((Wn.alloc (.cells (zC 101) 101)).setRow Wn.heap.size (df D.K (.slice none 0 0) (.slice none 0 0))):=ij.start (V0:=Wn) (K:=D.K) (C:=C) (ws:=fun _=>.slice none 0 0) (a:=none) (c:=0) (ms:=[]) (World.ownsRow_nil _ _ _ _) rfl k5 gq (le_refl _);have jB:=hid ID;have iA:=hid gq;clear k5 gq ID;go_upto_region 2 with (first
  | (refine r8 rfl 98 _ rfl ⟨b0,0,none⟩ rfl (aU D.K) (.array 256 5) tr.out.eo underlying98 rfl (yY D.K) ?_)
  | (refine Dw rfl 101 _ rfl #[(0,.agg (aU D.K))] (by first|rfl|kernel_rfl|(go_simp;done)) (.agg (df D.K (.slice none 0 0) (.slice none 0 0))) (YI D.K _) ?_)
  | (refine rF rfl 101 rfl (zC 101) (nE _) ?_)
  | (refine o8 rfl 101 _ _ rfl Wn.heap.size 101 (zC 101) (df D.K (.slice none 0 0) (.slice none 0 0)) rfl rfl iA.out (by rw[jz,l8]) (by rw[gY,l8]) (wB _ _ _ _ _ _ _) ?_))
 simp only[put,sA,sB,sC];obtain⟨b4,iN⟩:∃b4,Wn.heap.size=b4:=⟨_,rfl⟩
 have EZ:=hid iN;rw[iN] at jB;rw[iN];generalize (Wn.alloc (.cells (zC 101) 101)).setRow b4 (df D.K (.slice none 0 0) (.slice none 0 0))=W4 at jB⊢;clear iN iA;obtain⟨gL,oL,rfl,Bk,Bd⟩:=HB.out.2.2.2.2 (by omega);have GD:=hid (Zz Bk Bd);clear Bk Bd;go_wp2;go_loopw [6,7,8,9,10,16] (fun _ _ _ _ _ v wr=>∃(i:Nat) (ws:Nat->Value) (aN aK:Option Addr) (p cN cK:Nat),v=.int .i64 i/\i<=D.n/\p<=i/\Hid (p=(bf f i).length/\ij Wn b4 D.K C (.slice aN p cN) (pU D C f (bf f i)) ws (.slice aK p cK) ((bf f i).map D.q) wr)) (fun _ _ _ _ _ v _=>D.n-(intOf v).toNat)
 ·exact⟨0,_,none,none,0,0,0,rfl,by omega,by omega,rfl,jB.out⟩
 clear jB;obtain⟨i,ws,aN,aK,p,cN,cK,rfl,hi,PN,HP,HT⟩:=hrel;by_cases aw:i<D.n
 ·have aW:w.heap.size<=Wn.heap.size:=H0.out.2.2.size;have SF:Hid (∀W',Below Wn.heap.size Wn W'->∀j,j<D.n->W'.cell? ⟨gL,oL+j,none⟩=some (.int .i64 ((f j:Nat):Int))):=fun W' h j hj=>((H0.out.2.2.trans (h.mono (by rw[<-Hb.out.1];exact aW))).cell (p:=⟨gL,oL+j,none⟩) (by rw[<-Hb.out.1];exact GD.out.1)).trans (GD.out.2 j hj)
  have d0:=SF.out wr HT.aJ i aw;have fb:=HT.f1;have zG:=HB.out.2.2.2.1.bf i (by omega);have hY:=zG.2.2 aw;rw[<-HP] at hY;have i1:(i:Int)<(D.n:Int):=by omega
  have hp32:p<=32768:=by omega
  have zi:=hid HT;have Ef:=hid HP;obtain⟨fi,Kz⟩:∃fi,f i=fi:=⟨_,rfl⟩
  rw[Kz] at d0 hY;by_cases pT:fi<p
  ·have i2:(fi:Int)<p:=(by omega);have HN:Hid (p=(bf f (i+1)).length/\ij Wn b4 D.K C (.slice aN p cN) (pU D C f (bf f (i+1))) ws (.slice aK p cK) ((bf f (i+1)).map D.q) wr):=by
    rw[Dk (by rw[Kz,<-HP];exact pT)];exact⟨HP,HT⟩
   clear HP HT zG Kz;go_wp2;go_roundw
   ·exact⟨i+1,ws,aN,aK,p,cN,cK,by go_num,by omega,by omega,HN.out⟩
   simp[intOf];omega
  have i2:¬((fi:Int)<p):=by omega
  have FO:bf f (i+1)=bf f i++[i]:=CX (by rw[Kz,<-HP];exact pT);have HPn:=hid FO;have hmkr:=G6 C (by omega);have zd:=hid (tr.out.aa HT.aJ);have f1:=zd.out.f1;obtain⟨gN,oN,eN,mo,p7,zN⟩:=zd.out.dm.row i aw;rw[eN] at f1;rw[HB.out.2.2.1.len i aw] at p7 zN;have Aq:=hid eN;have wW:=hid zN;have vd:=hid (CF wr wr.heap.size C 3 (.int .i64 0) (le_refl _) (by unfold maxLen;omega));have nu:=hid (al wr (.cells (madeCells #[.int .i64 0] C) 3));have Yf:=hid mo;clear HP HT zG eN zN FO mo;go_upto_region 7 with fail;obtain⟨g,hg⟩:∃g,wr.heap.size=g:=⟨_,rfl⟩
  have la:Hid ((wr.alloc (.cells (madeCells #[.int .i64 0] C) 3)).ownsRow g 3 1 (.slice (some ⟨g,0,none⟩) C C) C (ints ([]++replicate (C-0) 0))/\Below g wr (wr.alloc (.cells (madeCells #[.int .i64 0] C) 3))):=by
   rw[<-hg];refine⟨?_,nu.out⟩;have:=vd.out;simpa [ints] using this
  have Hg:=hid hg;have Js:=(nu.out.cell (p:=⟨b0,256,none⟩) zd.out.st.lt).trans f1;have Gx:=(nu.out.cell (p:=⟨gN,oN+i,none⟩) Yf.out).trans p7;rw[hg];clear vd nu hg f1 p7 d0 fb;generalize wr.alloc (.cells (madeCells #[.int .i64 0] C) 3)=W6 at la Js Gx⊢;revert wr;intro wo zi zd wW Yf Hg la;go_wp2;go_loopw [9,10,39] (fun _ _ v wq=>∃(k:Nat),v=.int .i64 k/\k<=C/\Hid (wq.ownsRow g 3 1 (.slice (some ⟨g,0,none⟩) C C) C (ints ((range k).map (jW D f i)++replicate (C-k) 0))/\Below g wo wq)) (fun _ _ v _=>C-(intOf v).toNat)
  ·exact⟨0,rfl,by omega,la⟩
  clear la Js Gx;obtain⟨k,rfl,hk,HA⟩:=hrel;have jq:Below wo.heap.size wo wr:=by rw[Hg.out];exact HA.out.2
  by_cases dE:k<C
  ·obtain⟨gA,oA,eA,EK,oy⟩:=wW.out (by omega);have cA:=(jq.cell (p:=⟨gA,oA+k,none⟩) EK).trans (oy k dE);have GO:=HB.out.2.2.1.nx i k aw dE;obtain⟨g',e',_,_,nG⟩:=fe HA.out.1 (by omega);obtain rfl:g'=g:=by
    injection e' with e';injection e' with e' _;exact e'.symm
   obtain⟨y0,y1⟩:=nG k (by omega);have hlen:((range k).map (jW D f i)).length=k:=(by simp);have y2:(ints ((range k).map (jW D f i)++replicate (C-k) 0))[k]?=some (.int .i64 0):=by
    have:0<C-k:=(by omega);simp[ints,List.getElem?_append,this]
   rw[y2] at y0;have gD:Hid ((wr.setCell ⟨g',k,none⟩ (.int .i64 (-1))).ownsRow g' 3 1 (.slice (some ⟨g',0,none⟩) C C) C (ints (((range k).map (jW D f i)++[-1])++replicate (C-(k+1)) 0))/\Below g' wo (wr.setCell ⟨g',k,none⟩ (.int .i64 (-1)))):=by
    refine⟨?_,HA.out.2.setCell (p:=⟨g',k,none⟩) (le_refl _) _⟩;have:=vh HA.out.1 k dE (.int .i64 (-1));rwa [EH _ C k _ hlen dE] at this
   have Fc:Hid (∀v,jW D f i k=v->(range (k+1)).map (jW D f i)=(range k).map (jW D f i)++[v]):=fun v h=>by
    rw[range_succ,map_append,List.map_singleton,h]
   have Ca:Hid ((D.nx i k=-1->jW D f i k=-1)/\∀x:Nat,D.nx i k=(x:Int)->jW D f i k=((f x:Nat):Int)):=⟨fun h=>by simp[jW,h],fun x h=>by
    unfold jW
    rw[if_neg (by omega),h]
    rfl⟩
   have wP:=hid hlen;have i3:(k:Int)<C:=(by omega);rw[eA];have Kl:=hid eA;have SV:=hid zi.out.aJ
   try dsimp only at cA
   clear oy nG e' y2 hlen eA EK;generalize D.nx i k=t at cA GO Ca;go_upto_region 11 with fail;generalize wr.setCell ⟨g',k,none⟩ (.int .i64 (-1))=W5 at gD⊢;clear y0 y1 cA jq;by_cases ht:t=-1
   ·subst ht;have HZ:=hid (Fc.out (-1) (Ca.out.1 rfl));go_wp2;go_roundw
    ·exact⟨k+1,by go_num,by omega,by rw[HZ.out];exact gD⟩
    simp[intOf];omega
   obtain⟨x,rfl⟩:∃x:Nat,t=(x:Int):=(⟨t.toNat,by omega⟩);have iY:x<D.n:=(by omega);have kT:((x:Int) != (-1:Int))=true:=(by first|(simp;done)|(simp;omega));have i4:(x:Int)<(D.n:Int):=(by omega);have dx:=SF.out W5 (SV.out.trans (gD.out.2.mono (by rw[<-Hg.out];exact SV.out.size))) x iY;have HZ:=hid (Fc.out _ (Ca.out.2 x rfl));generalize f x=r at dx HZ;obtain⟨g2,e2,_,_,iZ⟩:=fe gD.out.1 (by omega);obtain rfl:g2=g':=by
    injection e2 with e2;injection e2 with e2 _;exact e2.symm
   obtain⟨y0,y1⟩:=iZ k (by omega);have y2:(ints (((range k).map (jW D f i)++[-1])++replicate (C-(k+1)) 0))[k]?=some (.int .i64 (-1)):=by
    simp[ints,List.getElem?_append]
   rw[y2] at y0;have kj:Hid ((W5.setCell ⟨g2,k,none⟩ (.int .i64 (r:Int))).ownsRow g2 3 1 (.slice (some ⟨g2,0,none⟩) C C) C (ints (((range k).map (jW D f i)++[(r:Int)])++replicate (C-(k+1)) 0))/\Below g2 wo (W5.setCell ⟨g2,k,none⟩ (.int .i64 (r:Int)))):=by
    refine⟨?_,gD.out.2.setCell (p:=⟨g2,k,none⟩) (le_refl _) _⟩;have:=vh gD.out.1 k dE (.int .i64 (r:Int));have e3:(ints (((range k).map (jW D f i)++[-1])++replicate (C-(k+1)) 0)).set k (.int .i64 (r:Int))=ints (((range k).map (jW D f i)++[(r:Int)])++replicate (C-(k+1)) 0):=by
     have hl:=wP.out;rw[<-EH _ C k (-1) hl dE,List.set_set,EH _ C k (r:Int) hl dE]
    rwa [e3] at this
   clear iZ e2 y2;go_wp2;go_roundw
   ·exact⟨k+1,by go_num,by omega,by rw[HZ.out];exact kj⟩
   simp[intOf];omega
  obtain rfl:k=C:=by omega
  have HK:Hid (ij Wn b4 D.K k (.slice aN p cN) (pU D k f (bf f i)) ws (.slice aK p cK) ((bf f i).map D.q) wr):=zi.out.aa (by rw[Hg.out];exact HA.out.2);have lX:(pU D k f (bf f i)).length=p:=by rw[Ef.out];simp[pU]
  have DO:=hid lX;have rH:=HK.out.aJ.size;have HU:Hid (wr.ownsRow Wn.heap.size 3 1 (.slice (some ⟨g,0,none⟩) k k) k (ints ((range k).map (jW D f i)))):=by
   have:=HA.out.1;rw[Nat.sub_self,List.replicate_zero,List.append_nil] at this;exact jR this (by rw[<-Hg.out];exact zi.out.aJ.size)
  have MK:Hid ((∀j,j<(pU D k f (bf f i)).length->∀b,(ws j).ownBlock=some b->(Value.slice (some ⟨g,0,none⟩) k k).ownBlock≠some b)/\∀b,(Value.slice (some ⟨g,0,none⟩) k k).ownBlock=some b->(Value.slice aK p cK).ownBlock≠some b):=by
   have hg9:wo.heap.size=g:=Hg.out;constructor
   ·intro j hj b e1 e2;have h1:=(zi.out.next.lt.2 j hj b e1);have h2:g=b:=(by simpa [Value.ownBlock] using e2);omega
   intro b e1 e2;have h1:=ln zi.out.cq b e2;have h2:g=b:=(by simpa [Value.ownBlock] using e1);omega
  have k9:=al wr (.cells #[.slice (some ⟨g,0,none⟩) k k] 43);have ke:Hid (ij Wn b4 D.K k (.slice aN p cN) (pU D k f (bf f i)) ws (.slice aK p cK) ((bf f i).map D.q) (wr.alloc (.cells #[.slice (some ⟨g,0,none⟩) k k] 43))):=HK.out.aa k9;have YZ:Hid ((wr.alloc (.cells #[.slice (some ⟨g,0,none⟩) k k] 43)).ownsRow Wn.heap.size 3 1 (.slice (some ⟨g,0,none⟩) k k) k (ints ((range k).map (jW D f i)))):=dr HU.out k9;have fbk:=HK.out.f1;have zT:=ke.out.next.own
  rw[lX] at zT;have Bl:=ke.out.aJ.size;clear HA lX k9;go_wp2_with (at_builtin;refine wpList_append_own_at _ rfl _ _ 99 rfl Wn.heap.size 43 iV (.slice none 0 0) 1 24 underlying99 hV tQ tI tA rfl (by decide) _ _ _ rfl zT ⟨wr.heap.size,0,none⟩ 1 1 [.slice (some ⟨g,0,none⟩) k k] rfl rfl (cell_one_new _ _ _) ?d2 ?d3 ?d4 ?d5 ?_)
  case d2=>first|(intro u hu;simp at hu;subst hu;rfl)|rfl
  case d3=>unfold maxLen;omega
  case d4=>omega
  case d5=>first|(simp;omega)|omega
  intro v' w5 an ak _ bw;obtain⟨a5,c5,rfl⟩:=bG an;have h9:=ke.out.st.af ke.out.next.own (by decide) ak
  have z2:w5.cell? ⟨b4,256,none⟩=some (.slice aN p cN):=by rw[h9.at_,p6]
  have z3:w5.frozen? ⟨b4,256,none⟩=false:=h9.aZ 256;have EB:=hid (ke.out.fZ (vN':=.slice a5 (p+1) c5) YZ.out MK.out.1 MK.out.2 DO.out an ak);clear an ak bw zT h9 fbk;go_upto_region 15 with fail;generalize w5.setCell ⟨b4,256,none⟩ (.slice a5 (p+1) c5)=W7 at EB⊢;clear z2 z3;have D7:Hid (∀W' a9 c9,ij Wn b4 D.K k (.slice a5 (p+1) c5) (pU D k f (bf f i)++[(range k).map (jW D f i)]) (fun j=>if j=p then .slice (some ⟨g,0,none⟩) k k else ws j) (.slice a9 (p+1) c9) ((bf f i).map D.q++[D.q i]) W'->p+1=(bf f (i+1)).length/\ij Wn b4 D.K k (.slice a5 (p+1) c5) (pU D k f (bf f (i+1))) (fun j=>if j=p then .slice (some ⟨g,0,none⟩) k k else ws j) (.slice a9 (p+1) c9) ((bf f (i+1)).map D.q) W'):=by
   show ∀W' a9 c9,_;intro W' a9 c9 h;rw[HPn.out];refine⟨by rw[Ef.out];simp,?_⟩;have e1:pU D k f (bf f i++[i])=pU D k f (bf f i)++[(range k).map (jW D f i)]:=(by simp[pU]);have e2:(bf f i++[i]).map D.q=(bf f i).map D.q++[D.q i]:=(by simp);rw[e1,e2];exact h
  have mV:Hid (((bf f i).map D.q).length=p):=by show _=_;rw[length_map];exact Ef.out.symm
  obtain⟨gM,oM,eM,se,mX⟩:=H0.out.1.dm.rM (by omega);have ng:=H0.out.1.f2;rw[eM] at ng;have i3:(i:Int)<(D.m:Int):=by omega
  have GZ:=mX i (by omega);have dA:Hid (∀W',Below Wn.heap.size Wn W'->Below Wn.heap.size Wn W'/\W'.cell? ⟨b0,257,none⟩=some (.slice (some ⟨gM,oM,none⟩) D.m D.cM)/\W'.cell? ⟨gM,oM+i,none⟩=some (.int .i64 (D.q i))):=fun W' h=>⟨h,(h.cell (p:=⟨b0,257,none⟩) H0.out.1.st.lt).trans ng,(h.cell (p:=⟨gM,oM+i,none⟩) se).trans GZ⟩
  clear eM se mX ng GZ;generalize D.q i=qx at dA D7;generalize pU D k f (bf f i)++[(range k).map (jW D f i)]=R9 at EB D7;generalize (fun j=>if j=p then Value.slice (some ⟨g,0,none⟩) k k else ws j)=Gw at EB D7;generalize (bf f i).map D.q=Hv at EB D7 mV;clear ke HK YZ HU MK;refine wp_region_held_drew (S:=fun W'=>Below Wn.heap.size Wn W'/\W'.cell? ⟨b0,257,none⟩=some (.slice (some ⟨gM,oM,none⟩) D.m D.cM)/\W'.cell? ⟨gM,oM+i,none⟩=some (.int .i64 qx)) (by kernel_rfl) (dA.out _ EB.out.aJ.drew) (fun hHeld=>?_);have HO:Hid (ij Wn b4 D.K k (.slice a5 (p+1) c5) R9 Gw (.slice aK p cK) Hv W7.drew):=EB.out.aa (Below.refl _ _).drew
  (refine ag 0 ?_;refine ag 2 ?_;refine ag 3 ?_;try simp only[put,sA,sB,sC];refine ag 4 ?_;refine ag 5 ?_;refine ag 6 ?_;try simp only[put,sA,sB,sC])
  refine wpAnyH_ready (rs:=[1,7]) (by kernel_rfl) (by simp) ?_;refine ir (fun K hK=>?_) ?_
  ·skip;have f2:=HO.out.f2;go_simp;refine hK.out _ _ (hHeld) (fun hHeld=>?_);clear hK K
   try simp only[put,sA,sB,sC]
   clear f2;refine ba 7 (fun K hK=>?_);skip;go_simp;have kk:=al W7.drew (.cells #[.int .i64 qx] 3);have kX:Hid (∀j u,[Value.int .i64 qx][j]?=some u->((W7.alloc (.cells #[.int .i64 qx] 3)).drew).cell? ((⟨W7.heap.size,0,none⟩:Addr).add j)=some u):=cell_one_new W7.drew _ _;have HO:Hid (ij Wn b4 D.K k (.slice a5 (p+1) c5) R9 Gw (.slice aK p cK) Hv ((W7.alloc (.cells #[.int .i64 qx] 3)).drew)):=HO.out.aa kk;refine hK.out _ _ (dA.out _ HO.out.aJ) (fun hHeld=>?_);clear hK K
   try simp only[put,sA,sB,sC]
   clear kk;generalize (W7.alloc (.cells #[.int .i64 qx] 3)).drew=V5 at kX HO hHeld⊢;refine ba 8 (fun K hK=>?_);skip;have hO:=HO.out.cq;rw[mV.out] at hO;refine Gs (by rfl) _ _ _ (by rfl) Wn.heap.size 3 iI (.int .i64 0) 1 8 underlying43 hI oG ow oK (by rfl) (by decide) _ p (ints Hv) (by rfl) hO ⟨W7.heap.size,0,none⟩ 1 1 [.int .i64 qx] (by rfl) (by rfl) kX.out (by intro u hu;simp at hu;subst hu;rfl) (by unfold maxLen;omega) (by omega) HO.out.aJ.size ?_;intro v6 w6 aq aj cj;obtain⟨a9,c9,rfl⟩:=bG aq;have rQ:=hid (HO.out.mg (vK':=.slice a9 (p+1) c9) (mV.out) aq aj cj);have h9:=HO.out.st.af HO.out.cq (by decide) aj;have z2:w6.cell? ⟨b4,257,none⟩=some (.slice aK p cK):=(by rw[h9.at_,yo]);have z3:w6.frozen? ⟨b4,257,none⟩=false:=h9.aZ 257;have ey:=fO HO.out.aJ HO.out.cq HO.out.aJ.size aj;clear aq aj cj h9 hO;refine hK.out _ _ (dA.out _ ey) (fun hHeld=>?_);clear hK K
   try simp only[put,sA,sB,sC]
   (refine ag 9 ?_;try simp only[put,sA,sB,sC])
   refine ba 10 (fun K hK=>?_);skip;go_simp;refine hK.out _ _ (dA.out _ rQ.out.aJ) (fun hHeld=>?_);clear hK K
   try simp only[put,sA,sB,sC]
   refine wpAnyH_done (by kernel_rfl) ?_ _;have Bq:=hid (D7.out _ a9 c9 rQ.out);clear hHeld z2 z3 ey rQ HO;go_wp2;go_roundw
   ·exact⟨i+1,Gw,a5,a9,p+1,c5,c9,by go_num,by omega,by omega,Bq.out⟩
   simp[intOf];omega
  refine ir (fun K hK=>?_) ?_
  ·skip;go_simp;have kk:=al W7.drew (.cells #[.int .i64 qx] 3);have kX:Hid (∀j u,[Value.int .i64 qx][j]?=some u->((W7.alloc (.cells #[.int .i64 qx] 3)).drew).cell? ((⟨W7.heap.size,0,none⟩:Addr).add j)=some u):=cell_one_new W7.drew _ _;have HO:Hid (ij Wn b4 D.K k (.slice a5 (p+1) c5) R9 Gw (.slice aK p cK) Hv ((W7.alloc (.cells #[.int .i64 qx] 3)).drew)):=HO.out.aa kk;refine hK.out _ _ (dA.out _ HO.out.aJ) (fun hHeld=>?_);clear hK K
   try simp only[put,sA,sB,sC]
   clear kk;generalize (W7.alloc (.cells #[.int .i64 qx] 3)).drew=V5 at kX HO hHeld⊢;refine ba 1 (fun K hK=>?_);skip;have f2:=HO.out.f2;go_simp;refine hK.out _ _ (hHeld) (fun hHeld=>?_);clear hK K
   try simp only[put,sA,sB,sC]
   clear f2;refine ba 8 (fun K hK=>?_);skip;have hO:=HO.out.cq;rw[mV.out] at hO;refine Gs (by rfl) _ _ _ (by rfl) Wn.heap.size 3 iI (.int .i64 0) 1 8 underlying43 hI oG ow oK (by rfl) (by decide) _ p (ints Hv) (by rfl) hO ⟨W7.heap.size,0,none⟩ 1 1 [.int .i64 qx] (by rfl) (by rfl) kX.out (by intro u hu;simp at hu;subst hu;rfl) (by unfold maxLen;omega) (by omega) HO.out.aJ.size ?_;intro v6 w6 aq aj cj;obtain⟨a9,c9,rfl⟩:=bG aq;have rQ:=hid (HO.out.mg (vK':=.slice a9 (p+1) c9) (mV.out) aq aj cj);have h9:=HO.out.st.af HO.out.cq (by decide) aj;have z2:w6.cell? ⟨b4,257,none⟩=some (.slice aK p cK):=(by rw[h9.at_,yo]);have z3:w6.frozen? ⟨b4,257,none⟩=false:=h9.aZ 257;have ey:=fO HO.out.aJ HO.out.cq HO.out.aJ.size aj;clear aq aj cj h9 hO;refine hK.out _ _ (dA.out _ ey) (fun hHeld=>?_);clear hK K
   try simp only[put,sA,sB,sC]
   (refine ag 9 ?_;try simp only[put,sA,sB,sC])
   refine ba 10 (fun K hK=>?_);skip;go_simp;refine hK.out _ _ (dA.out _ rQ.out.aJ) (fun hHeld=>?_);clear hK K
   try simp only[put,sA,sB,sC]
   refine wpAnyH_done (by kernel_rfl) ?_ _;have Bq:=hid (D7.out _ a9 c9 rQ.out);clear hHeld z2 z3 ey rQ HO;go_wp2;go_roundw
   ·exact⟨i+1,Gw,a5,a9,p+1,c5,c9,by go_num,by omega,by omega,Bq.out⟩
   simp[intOf];omega
  exact AllReadyH.nil
 obtain rfl:i=D.n:=by omega
 obtain rfl:p=B:=HP.trans (HB.out.2.2.2.1.gw);have Rw:=hid HT;have iA:=hid HT.st;have iH:=hid (H0.out.2.1.aa HT.aJ);have hd:=l8 D.K (.slice aN p cN) (.slice aK p cK);have Dx:Hid (w.heap.size<=Wn.heap.size):=H0.out.2.2.size;have AJ:Hid (Below w.heap.size w (wr.setRow b2 (df D.K (.slice aN p cN) (.slice aK p cK)))):=
  mQ ((show Below w.heap.size w Wn by rw[Hb.out.1];exact H0.out.2.2).trans (HT.aJ.mono Dx.out)) (by have:=Hb.out;omega) _
 have lX:(pU D C f (bf f D.n)).length=p:=by rw[HP];simp[pU]
 have HF:Hid (C7 D C p (fun b c=>jW D f ((bf f D.n).getD b 0) c) (fun b=>D.q ((bf f D.n).getD b 0)) w (.returned (.agg (df D.K (.slice aN p cN) (.slice aK p cK)))) (wr.setRow b2 (df D.K (.slice aN p cN) (.slice aK p cK)))):=
  Rw.out.Ql HB.out.1.dm.kl lX (fun r hr=>by unfold pU at hr;obtain⟨j,_,rfl⟩:=List.mem_map.1 hr;simp) (zlM _ _ _ HP) (fun j hj c hc=>by
   have hj2:j<(bf f D.n).length:=by omega
   unfold pU
   simp[getD_eq_getElem?_getD,hj2,hc]) Dx.out (inr ⟨b2,_,_,iH.out,rfl⟩) AJ.out
 clear HT lX HP;go_wp2_with (first|(refine r8 rfl 101 _ rfl ⟨b4,0,none⟩ rfl (df D.K (.slice aN p cN) (.slice aK p cK)) _ iA.out.part underlying101 rfl (by rw[gY,hd]) ?_)|(refine o8 rfl 101 _ _ rfl b2 101 (zC 101) (df D.K (.slice aN p cN) (.slice aK p cK)) rfl rfl iH.out (by rw[jz,hd]) (by rw[gY,hd]) (wB _ _ _ _ _ _ _) ?_));refine bodyPost_ret (results_cell_row rfl _ _ b2 101 (df D.K (.slice aN p cN) (.slice aK p cK)) (0,0) _ rfl iH.out.setRow underlying101 rfl (by rw[gY,hd])) rfl ?_;exact HF.out
theorem zgy(n:Nat)(hn:n<=1000000)(W:World):(makeSlice 76 (.int .i64 0) (.int .i64 (n:Int))).run prog W=.ok (.slice (some ⟨W.heap.size,0,none⟩) 0 n) (W.alloc (.cells (madeCells #[.int .u8 0] n) 5)):=by
 obtain⟨i0,hi,dD,cQ,cJ⟩:=info_parts jD;have h:=run_makeSlice (P:=prog) W 76 5 i0 (.int .u8 0) underlying76 hi dD .i64 .i64 0 (n:Int) (by omega) (by omega) (by rw[cQ];simp;omega) (by rw[cJ];omega) (by omega);have e:(Value.int .u8 0).cells=#[.int .u8 0]:=rfl;rw[cQ,e] at h;simpa using h
theorem zdC(n:Nat)(hn:n<=1000000)(W:World)(B:Nat)(hB:B<=W.heap.size):(W.alloc (.cells (madeCells #[.int .u8 0] n) 5)).ownsRow B 5 1 (.slice (some ⟨W.heap.size,0,none⟩) 0 n) 0 []:=
 World.ownsRow_made W _ n hB (by unfold maxLen;omega) (by have:=size_madeCells #[Value.int .u8 0] n;simpa using this)
theorem cell_two_new(w:World)(a b:Value)(t:TypeId):∀j u,[a,b][j]?=some u->(w.alloc (.cells #[a,b] t)).cell? ((⟨w.heap.size,0,none⟩:Addr).add j)=some u:=by
 intro j u h;have hS:=(St.new w t #[a,b]).part;exact hS j u h
theorem zgz(n:Nat)(hn:2*n<=1000000)(W:World):(makeSlice 76 (.int .i64 0) (.int .i64 (2*(n:Int)))).run prog W=.ok (.slice (some ⟨W.heap.size,0,none⟩) 0 (2*n)) (W.alloc (.cells (madeCells #[.int .u8 0] (2*n)) 5)):=by
 have h:=zgy (2*n) hn W;rwa [show ((2*n:Nat):Int)=2*(n:Int) by omega] at h
def qP(D:Dd)(k:Nat):Value:=.string (strOf (iB (fun i=>D.nx i k) D.n))
theorem DM.rowAt(h:DM w D){g off:Nat}(e:D.aN=some ⟨g,off,none⟩)(hi:i<D.n):w.cell? ⟨g,off+i,none⟩=some (.slice (D.A i) (D.len i) (D.Cp i))/\kQ w (D.A i) (D.len i) (D.nx i):=by
 obtain⟨g',Fs,e',_,h1,h2⟩:=h.row i hi;rw[e] at e';injection e' with e';injection e' with e1 e2;subst e1 e2;exact⟨h1,h2⟩
def Tm(D:Dd)(C:Nat)(w:World)(e:Ending)(w':World):Prop:=
 ∃(a:Option Addr) (c:Nat),e=.returned (.slice a C c)/\w'.ownsRow w.heap.size 9 1 (.slice a C c) C ((range C).map (qP D))/\Below w.heap.size w w'
theorem zlJ(x:Int):IntKind.u16.wrap x=((l5 x:Nat):Int):=by
 have h:IntKind.u16.wrap x=x % 65536:=by simp[wrap,IntKind.bits,signed]
 rw[h];unfold l5;omega
theorem zlK(z:Nat->Int)(i y:Nat)(hy:l5 (z i)=y):ix (iB z (i+1))=ix (iB z i)++[.int .u8 ((y:Int) % 256),.int .u8 ((y:Int) / 256)]:=by
 subst hy;rw[iB,ix,map_append];congr 1
theorem zeO(D:Dd)(C:Nat)(hR:DR D C)(w:World)(hD:DM w D):Calls prog 130 #[.agg D.cD] w (Tm D C w):=by
 have dj:=hR.n2;have fx:=hR.n1;have zp:=(hR.ka hD.kl).2;have jd:=zgz D.n (by omega);have hk:=hD.kl;have HB:=hid (Zz (db.new hD) (Zz (al w (.cells D.cD 101)) hR));obtain⟨iU,hU,ZG,hU1,hU2⟩:=info_parts jD;obtain⟨iS,hS,hS0,Fp,hS2⟩:=info_parts ox;clear hD hR;go_enter func130,ntmps130;go_upto_region 1 with fail;generalize w.alloc (.cells D.cD 101)=W0 at HB⊢;obtain⟨b0,aY⟩:∃b0,w.heap.size=b0:=⟨_,rfl⟩
 rw[aY] at HB;rw[aY];have dU:=hid aY;clear aY;have zY:=hid (KB D.K C HB.out.2.2.c hk W0);go_wp2_with (refine r8 rfl 98 _ rfl ⟨b0,0,none⟩ rfl (aU D.K) (.array 256 5) HB.out.1.eo underlying98 rfl (yY D.K) ?_);refine zY.out.mono ?_;rintro e w1 ⟨rfl,b1⟩;have HG1:Hid (w.heap.size<=W0.heap.size):=show w.heap.size<=W0.heap.size by have:=HB.out.2.1.size;have:=dU.out;omega
 have uy:Hid (w1.ownsRow W0.heap.size 9 1 (.slice none 0 0) 0 ((range 0).map (qP D))/\Below W0.heap.size W0 w1):=⟨World.ownsRow_nil _ _ _ _,b1⟩
 clear b1 zY;go_wp2;go_loopw [3,4,5,7,8,12] (fun v3 _ _ _ _ vk wr=>∃(k:Nat) (a3:Option Addr) (c3:Nat),v3=.slice a3 k c3/\vk=.int .i64 k/\k<=C/\Hid (wr.ownsRow W0.heap.size 9 1 v3 k ((range k).map (qP D))/\Below W0.heap.size W0 wr)) (fun _ _ _ _ _ v _=>C-(intOf v).toNat)
 ·exact⟨0,none,0,rfl,rfl,zero_le _,uy.out⟩
 clear uy;obtain⟨k,a3,c3,rfl,rfl,eD,HL⟩:=hrel;by_cases aw:k<C
 ·have zd:=hid (HB.out.1.aa HL.out.2);have f1:=zd.out.f1;obtain⟨gN,oN,eN,mo,_,_⟩:=zd.out.dm.row 0 (by omega);rw[eN] at f1;have Aq:=hid (Zz eN mo);have i1:(k:Int)<C:=by omega
  have vd:=hid (zdC (2*D.n) (by omega) wr wr.heap.size (le_refl _));have nu:=hid (al wr (.cells (madeCells #[.int .u8 0] (2*D.n)) 5));clear eN mo;go_upto_region 6 with fail;obtain⟨g,hg⟩:∃g,wr.heap.size=g:=⟨_,rfl⟩
  have la:Hid ((wr.alloc (.cells (madeCells #[.int .u8 0] (2*D.n)) 5)).ownsRow g 5 1 (.slice (some ⟨g,0,none⟩) 0 (2*D.n)) 0 (ix (iB (fun i=>D.nx i k) 0))/\Below g wr (wr.alloc (.cells (madeCells #[.int .u8 0] (2*D.n)) 5))):=by
   rw[<-hg];exact⟨vd.out,nu.out⟩
  have Hg:=hid hg;have Js:=(nu.out.cell (p:=⟨b0,256,none⟩) zd.out.st.lt).trans f1
  try rw[hg]
  clear vd nu hg f1;generalize wr.alloc (.cells (madeCells #[.int .u8 0] (2*D.n)) 5)=W6 at la Js⊢;obtain⟨wo,Fz⟩:∃wo,wo=wr:=⟨wr,rfl⟩
  subst Fz;go_wp2;go_loopw [5,7,8,23] (fun v5 _ _ vi wq=>∃(i:Nat) (a5:Option Addr) (c5:Nat),v5=.slice a5 (2*i) c5/\vi=.int .i64 i/\i<=D.n/\Hid (wq.ownsRow g 5 1 v5 (2*i) (ix (iB (fun i=>D.nx i k) i))/\Below g wo wq)) (fun _ _ _ v _=>D.n-(intOf v).toNat)
  ·exact⟨0,_,_,rfl,rfl,zero_le _,la⟩
  clear la Js;obtain⟨i,a5,c5,rfl,rfl,hi,HA⟩:=hrel;have jq:Hid (Below wo.heap.size wo wr):=by rw[Hg.out];exact HA.out.2
  have HBq:=hid (zd.out.aa jq.out);by_cases th:i<D.n
  ·obtain⟨p7,zN⟩:=HBq.out.dm.rowAt Aq.out.1 th;rw[HB.out.2.2.len i th] at p7 zN;obtain⟨gr,or9,eA,tp,cz⟩:=zN (by omega);rw[eA] at p7;have cz1:=cz k aw;have i2:(i:Int)<(D.n:Int):=(by omega);obtain⟨x,hx⟩:∃x,D.nx i k=x:=(⟨_,rfl⟩);have Hx:=hid hx;rw[hx] at cz1;clear zN eA cz tp hx;have hW:=zlJ x;obtain⟨y,hy⟩:∃y:Nat,l5 x=y:=(⟨_,rfl⟩);have Hy:=hid (zlK (fun i=>D.nx i k) i y (by show l5 (D.nx i k)=y;rw[Hx.out];exact hy));rw[hy] at hW;have ez:y<65536:=(by rw[<-hy];exact Lq x);clear hy;have zT:=HA.out.1;have Z6:g<=wr.heap.size:=(by have:=HA.out.2.size;have:=Hg.out;omega);go_wp2_with (at_builtin;refine wpList_append_own_at _ rfl _ _ 76 rfl g 5 iU (.int .u8 0) 1 1 underlying76 hU ZG hU1 hU2 rfl (by decide) _ _ _ rfl (zT.alloc _) ⟨wr.heap.size,0,none⟩ 2 2 [.int .u8 ((y:Int) % 256),.int .u8 ((y:Int) / 256)] rfl rfl (cell_two_new _ _ _ _) ?d2 ?d3 ?d4 ?d5 ?_)
   case d2=>first|(intro u hu;simp at hu;rcases hu with rfl|rfl <;> rfl)|rfl
   case d3=>unfold maxLen;omega
   case d4=>omega
   case d5=>first|(simp;omega)|omega
   intro v' w5 an ak _ bw;obtain⟨a6,c6,rfl⟩:=bG an;have HF:Hid (w5.ownsRow g 5 1 (.slice a6 (2*i+2) c6) (2*i+2) (ix (iB (fun i=>D.nx i k) (i+1)))/\Below g wo w5):=by
    have k9:=al wr (.cells #[.int .u8 ((y:Int) % 256),.int .u8 ((y:Int) / 256)] 5);have VC:g<=wr.heap.size:=(by have:=HA.out.2.size;have:=Hg.out;omega);refine⟨?_,fO (HA.out.2.trans (k9.mono VC)) (dr HA.out.1 k9) (by simp;omega) ak⟩;rw[Hy.out];exact an
   clear an ak bw zT;go_wp2;go_roundw
   ·exact⟨i+1,a6,c6,rfl,by go_num,by omega,HF.out⟩
   simp[intOf];omega
  obtain rfl:i=D.n:=by omega
  have hcv:=MD (HA.out.1) (by rw[Lg]);have OT:=dr HL.out.1 jq.out;have MJ:=jq.out;have uS:W0.heap.size<=wr.heap.size:=by have:=MJ.size;have:=HL.out.2.size;omega
  go_wp2_with (at_builtin;refine wpList_append_own_at _ rfl _ _ 23 rfl W0.heap.size 9 iS (.string ⟨#[]⟩) 1 16 underlying23 hS hS0 Fp hS2 rfl (by decide) _ _ _ rfl (OT.alloc _) ⟨wr.heap.size,0,none⟩ 1 1 [qP D k] rfl rfl (cell_one_new _ _ _) ?d2 ?d3 ?d4 ?d5 ?_)
  case d2=>first|(intro u hu;simp at hu;subst hu;rfl)|rfl
  case d3=>unfold maxLen;omega
  case d4=>omega
  case d5=>first|(simp;omega)|omega
  intro v' w5 an ak _ bw;obtain⟨a6,c6,rfl⟩:=bG an;have HF:Hid (w5.ownsRow W0.heap.size 9 1 (.slice a6 (k+1) c6) (k+1) ((range (k+1)).map (qP D))/\Below W0.heap.size W0 w5):=by
   have k9:=al wr (.cells #[qP D k] 9);have nz:=HL.out.2.size;have lZ:=MJ.size;refine⟨?_,fO ((HL.out.2.trans (MJ.mono nz)).trans (k9.mono (by omega))) (dr OT k9) (by simp;omega) ak⟩;rw[range_succ,map_append];exact an
  clear an ak bw OT;go_wp2;go_roundw
  ·exact⟨k+1,a6,c6,rfl,by go_num,by omega,HF.out⟩
  simp[intOf];omega
 obtain rfl:k=C:=by omega
 have HF:Hid (Tm D k w (.returned (.slice a3 k c3)) wr):=by
  have h1:=HB.out.2.1;have h2:=HL.out.2;have h3:=HG1.out;have hs:=h1.size;have nz:=dU.out;rw[<-nz] at h1;exact⟨a3,c3,rfl,jR HL.out.1 h3,h1.trans (h2.mono (by omega))⟩
 clear HL;go_wp2;go_ret;exact HF.out
theorem XP:∀j,j<256->(zC 101)[j]?=some (.int .u8 0):=by
 have h:(range 256).all (fun j=>match (zC 101)[j]? with|some (.int .u8 0)=>true|_=>false)=true:=by kernel_rfl
 intro j hj;have h1:=List.all_eq_true.1 h j (by simpa using hj);split at h1
 ·rename_i e;rw[e]
 cases h1
theorem zir(b:Option Addr)(m d:Nat)(W:World):(Instr.build 101 #[(2,.slice b m d)]).run prog W=.ok (.agg (df (fun _=>0) (.slice none 0 0) (.slice b m d))) W:=by
 have e:prog.built 101 [(2,.slice b m d)]=fill (fun i=>#[(0,256),(256,1),(257,1)][i]?) (zC 101) [(2,.slice b m d)]:=by kernel_rfl
 have hz:=jz;obtain⟨d1,d2⟩:=Ew;obtain⟨q1,q2⟩:=yf (zC 101) #[.slice b m d] 257 (by rw[hz];simp);rw[yj _ _ 2 257 1 (.slice b m d) [] (by rfl) (by rfl) (by rw[hz];omega)] at e;rw[show (Value.slice b m d).cells=#[.slice b m d] from rfl] at e;simp only[List.size_toArray,List.length_cons,List.length_nil] at q2;have e4:putAt (zC 101) #[.slice b m d] 257=df (fun _=>0) (.slice none 0 0) (.slice b m d):=by
  refine BR _ _ _ _ (by rw[q1,hz]) (fun j hj=>by rw[q2,if_neg (by omega),XP j hj];rfl) (by rw[q2,if_neg (by omega),d1]) (by rw[q2,if_pos (by omega)];rfl)
 rw[e4] at e;exact run_build W _ _ _ e
theorem Tt(K:Nat->Nat)(vN vK:Value)(j v:Nat)(hj:j<256):(df K vN vK).setIfInBounds j (.int .u8 (v:Int))=df (fun i=>if i=j then v else K i) vN vK:=by
 refine BR _ vN vK _ (by rw[Array.size_setIfInBounds,l8]) (fun i hi=>?_) ?_ ?_
 ·by_cases e:i=j
  ·subst e;rw[Array.getElem?_setIfInBounds_self_of_lt (by rw[l8];omega),if_pos rfl]
  rw[Array.getElem?_setIfInBounds_ne (fun h=>e h.symm),yV K vN vK i hi,if_neg e]
 ·rw[Array.getElem?_setIfInBounds_ne (by omega),p6]
 rw[Array.getElem?_setIfInBounds_ne (by omega),yo]
theorem TE:∀i,(∀j,j<i->f j=g j)->bf f i=bf g i:=by
 intro i
 induction i with
 | zero=>intro _;rfl
 | succ i ih=>
  intro h;have e:=ih (fun j hj=>h j (by omega));show (if f i<(bf f i).length then bf f i else bf f i++[i])=if g i<(bf g i).length then bf g i else bf g i++[i]
  rw[e,h i (by omega)]
def cS(D:Dd)(c:Nat):ByteArray:=strOf (iB (fun i=>D.nx i c) D.n)
theorem ZJ(D:Dd)(c:Nat):(cS D c).size=2*D.n:=by unfold cS;rw[yC,Lg]
theorem Z4(hR:DR D C){a b:Nat}(ha:a<C)(hb:b<C):cS D a=cS D b↔∀i,i<D.n->D.nx i a=D.nx i b:=by
 have dj:=hR.n2;rw[<-zlq (n:=D.n) (z:=fun i=>D.nx i a) (z':=fun i=>D.nx i b) (fun i hi=>by have:=hR.nx i a hi ha;omega) (fun i hi=>by have:=hR.nx i b hi hb;omega)];unfold cS;constructor
 ·intro h;have h1:=congrArg (fun s:ByteArray=>s.data.toList) h;simp only[Ao] at h1;exact Pd (TZ _ _) (TZ _ _) h1
 intro h;rw[h]
def KF(nm:List ByteArray)(key val:Value):Prop:=∃(b:Nat) (s:ByteArray),nm[b]?=some s/\key=.string s/\val=.int .u8 ((b:Nat):Int)
theorem zgA(W:World):(makeMap 176 none).run prog W=.ok (.map (some W.heap.size)) (W.alloc (.map #[] 0)):=by
 kernel_rfl
theorem zlL(w:World):(zeroValue 5).run prog w=.ok (.int .u8 0) w:=by kernel_rfl
structure pQ (W0:World)(D:Dd)(C bM b4:Nat)(vC:Value)(k:Nat)(v6:Value)(nm:List ByteArray)(g:Nat->Nat)(w:World):Prop where
 aJ:Below W0.heap.size W0 w
 map:dV w 9 bM nm.length (KF nm)
 kept:w.ownsRow W0.heap.size 3 1 v6 nm.length (cG ((bf g k).map D.K))
 kl:(bf g k).length=nm.length
 st:St w 101 b4 (df (fun j=>if j<k then g j else 0) (.slice none 0 0) (.slice D.aM D.m D.cM))
 BH:w.ownsRow W0.heap.size 9 1 vC C ((range C).map (qP D))
 at_:∀i,i<k->nm[g i]?=some (cS D (D.K i))
 num:ff (iX D D.n) k g nm.length
 LH:W0.heap.size<=bM
 Gz:W0.heap.size<=b4
 nk:nm.length<=k
section
variable {W0 : World}{D : Dd}{C bM b4 : Nat}{vC : Value}{k : Nat}{v6 : Value}{nm : List ByteArray}{g : Nat → Nat}{w : World}
theorem pQ.mem(h:pQ W0 D C bM b4 vC k v6 nm g w)(s:ByteArray):s∈nm↔∃i,i<k/\cS D (D.K i)=s:=by
 constructor
 ·intro hm;obtain⟨b,hb,e⟩:=getElem_of_mem hm;obtain⟨i,h1,h2,_⟩:=h.num.new b hb;refine⟨i,h1,?_⟩;have:=h.at_ i h1;rw[h2,getElem?_eq_getElem hb,e] at this;exact (Option.some.inj this).symm
 rintro⟨i,hi,rfl⟩;exact mem_of_getElem? (h.at_ i hi)
theorem pQ.look(h:pQ W0 D C bM b4 vC k v6 nm g w)(s:ByteArray)(hs:s.size<=1000000):
  (∃b,nm[b]?=some s/\(lookup 176 (.map (some bM)) (.string s) true).run prog w=.ok (.tuple #[.int .u8 ((b:Nat):Int),.bool true]) w)\/
  (s∉nm/\(lookup 176 (.map (some bM)) (.string s) true).run prog w=.ok (.tuple #[.int .u8 0,.bool false]) w):=by
 rcases h.map.ex.oh B2 underlying176 (zlL w) (Go.WideMaps.keyOf_string_mk underlying9 (s:=s) (by unfold maxLen;omega)) with ⟨bU,iQ⟩|⟨v,⟨b,s',h1,h2,rfl⟩,bU⟩
 ·refine inr ⟨fun hm=>?_,bU⟩;obtain⟨b,hb,e⟩:=getElem_of_mem hm;exact iQ _ ⟨b,s,by rw[getElem?_eq_getElem hb,e],rfl,rfl⟩
 injection h2 with h2;exact inl ⟨b,by rw[h2];exact h1,bU⟩
theorem pQ.put(h:pQ W0 D C bM b4 vC k v6 nm g w)(s:ByteArray)(hs:s.size<=1000000)(hn:nm.length<maxLen)(hb:s∉nm):
  ∃w',(mapUpdate 176 (.map (some bM)) (.string s) (.int .u8 (nm.length:Int))).run prog w=.ok () w'/\dV w' 9 bM (nm.length+1) (KF (nm++[s]))/\w.grownBy w' (some bM):=by
 refine h.map.update B2 underlying176 hn (Go.WideMaps.keyOf_string_mk underlying9 (s:=s) (by unfold maxLen;omega)) ?_ ?_ ?_ ?_
 ·rintro y ⟨k,s',h1,h2,_⟩;injection h2 with h2;rw[<-h2] at h1;exact hb (mem_of_getElem? h1)
 ·rintro a b ⟨k,s',h1,h2,h3⟩;exact⟨k,s',by rw[getElem?_append_left (List.getElem?_eq_some_iff.1 h1).1];exact h1,h2,h3⟩
 ·exact⟨nm.length,s,by simp,rfl,rfl⟩
 rintro a b ⟨k,s',h1,h2,h3⟩ hne;by_cases e:k<nm.length
 ·rw[getElem?_append_left e] at h1;exact⟨b,k,s',h1,h2,h3⟩
 rw[List.getElem?_append_right (by omega)] at h1;cases hj:k-nm.length with
 | zero=>rw[hj] at h1;simp at h1;exact absurd (by rw[h2,h1]) hne
 | succ j=>rw[hj] at h1;simp at h1
theorem Yq(g:Nat->Nat)(k b:Nat):(fun i=>if i=k then b else if i<k then g i else 0)=fun j=>if j<k+1 then (if j=k then b else g j) else 0:=by
 funext i;by_cases e:i=k
 ·rw[if_pos e,if_pos (by omega),if_pos e]
 rw[if_neg e];by_cases e2:i<k
 ·rw[if_pos e2,if_pos (by omega),if_neg e]
 rw[if_neg e2,if_neg (by omega)]
theorem TU(hR:DR D C){a b:Nat}(ha:a<256)(hb:b<256):cS D (D.K a)=cS D (D.K b)↔iX D D.n a b:=Z4 hR (hR.c.1 a ha) (hR.c.1 b hb)
theorem dV.set{k:TypeId}{b t g:Nat}{Q:Value->Value->Prop}(h:dV w k b n Q)(h':St w t g cs):dV (w.setCell ⟨g,i,none⟩ u) k b n Q:=by
 refine h.same (Below.heap_setCell _ _ _ _ ?_);intro e;obtain⟨es,clock,hb,_⟩:=h;have h2:w.heap[g]?=_:=h';rw[show b=g from e,h2] at hb;cases hb
theorem pQ.kL{b:Nat}(hR:DR D C)(hk:k<256)(h:pQ W0 D C bM b4 vC k v6 nm g w)(hb:nm[b]?=some (cS D (D.K k))):
  ∃g',pQ W0 D C bM b4 vC (k+1) v6 nm g' (w.setCell ⟨b4,k,none⟩ (.int .u8 (b:Int))):=by
 have ew:b<nm.length:=(List.getElem?_eq_some_iff.1 hb).1;obtain⟨i,h1,h2,_⟩:=h.num.new b ew;have hi:=h.at_ i h1;rw[h2,hb] at hi;have hi:=Option.some.inj hi;have hE:iX D D.n i k:=(TU hR (by omega) hk).1 hi.symm;have zG:bf (fun j=>if j=k then b else g j) (k+1)=bf g k:=by
  have e0:bf (fun j=>if j=k then b else g j) k=bf g k:=TE k (fun j hj=>by simp only[if_neg (show ¬j=k by omega)]);rw[Dk (f:=fun j=>if j=k then b else g j) (by rw[e0,h.kl];simp only[if_pos rfl];exact ew),e0]
 refine⟨fun j=>if j=k then b else g j,h.aJ.setCell (p:=⟨b4,k,none⟩) h.Gz _,h.map.set h.st,by rw[zG];exact jE h.kept h.st (by decide) _ _,by rw[zG];exact h.kl,?_,jE h.BH h.st (by decide) _ _,fun j hj=>?_,?_,h.LH,h.Gz,by have:=h.nk;omega⟩
 ·have:=h.st.set k (.int .u8 (b:Int));rw[Tt _ _ _ k b hk,Yq] at this;exact this
 ·by_cases e:j=k
  ·simp only[if_pos e];rw[e];exact hb
  simp only[if_neg e];exact h.at_ j (by omega)
 have:=h.num.kL (fun i j e x hx=>(e x hx).symm) (fun i j l e e2 x hx=>(e x hx).trans (e2 x hx)) (fun i x hx=>rfl) h1 hE;rw[h2] at this;exact this
theorem pQ.fresh{w2 w3:World}{D8:Value}(hR:DR D C)(hk:k<256)(h:pQ W0 D C bM b4 vC k v6 nm g w)(hb:cS D (D.K k)∉nm)(hm:dV w1 9 bM (nm.length+1) (KF (nm++[cS D (D.K k)])))(jx:w.grownBy w1 (some bM))
  (k2:Below w1.heap.size w1 w2) (hg:w2.grownBy w3 v6.ownBlock) (ho:w3.ownsRow W0.heap.size 3 1 D8 (nm.length+1) (cG ((bf g k).map D.K)++[.int .i64 ((D.K k:Nat):Int)])):
  ∃g',pQ W0 D C bM b4 vC (k+1) D8 (nm++[cS D (D.K k)]) g' (w3.setCell ⟨b4,k,none⟩ (.int .u8 (nm.length:Int))):=by
 have lF:Below W0.heap.size W0 w1:=h.aJ.grown jx h.aJ.size (fun g e=>by injection e with e;rw[<-e];exact h.LH);have ma:=lF.trans (k2.mono lF.size);have o2:=dr (ym h.kept h.map.ex.of jx) k2;have c2:=dr (ym h.BH h.map.ex.of jx) k2;have m2:=hm.same (k2.block _ hm.lt);have s2:=(h.st.dB h.map.ex.of jx).aa k2;have s3:=s2.af o2 (by decide) hg;have m3:=m2.af o2 hg;have c3:=qV c2 hg (fun b e e2=>hJ c2 o2 (by decide) b e e2.symm);have B3:=fO ma o2 ma.size hg;have zG:bf (fun j=>if j=k then nm.length else g j) (k+1)=bf g k++[k]:=by
  have e0:bf (fun j=>if j=k then nm.length else g j) k=bf g k:=TE k (fun j hj=>by simp only[if_neg (show ¬j=k by omega)]);rw[CX (f:=fun j=>if j=k then nm.length else g j) (by rw[e0,h.kl];show ¬(if k=k then nm.length else g k)<nm.length;rw[if_pos rfl];omega),e0]
 have hlen:(nm++[cS D (D.K k)]).length=nm.length+1:=by simp
 refine⟨fun j=>if j=k then nm.length else g j,B3.setCell (p:=⟨b4,k,none⟩) h.Gz _,by rw[hlen];exact m3.set s3,?_,by rw[zG,hlen,length_append,h.kl];rfl,?_,jE c3 s3 (by decide) _ _,fun j hj=>?_,?_,h.LH,h.Gz,by rw[hlen];have:=h.nk;omega⟩
 ·rw[zG,hlen,map_append,show cG ((bf g k).map D.K++[k].map D.K)=cG ((bf g k).map D.K)++[.int .i64 ((D.K k:Nat):Int)] by simp[cG]];exact jE ho s3 (by decide) _ _
 ·have:=s3.set k (.int .u8 (nm.length:Int));rw[Tt _ _ _ k _ hk,Yq] at this;exact this
 ·by_cases e:j=k
  ·simp only[if_pos e];rw[e];simp
  simp only[if_neg e];have:=h.at_ j (by omega);rw[getElem?_append_left (List.getElem?_eq_some_iff.1 this).1];exact this
 rw[hlen];exact h.num.fresh (fun i j e x hx=>(e x hx).symm) (fun i x hx=>rfl) (fun i hi e=>hb ((h.mem _).2 ⟨i,hi,(TU hR (by omega) hk).2 e⟩))
end
structure tf (W0:World)(D:Dd)(b4 C':Nat)(K':Nat->Nat)(vN:Value)(R:List (List Int))(ws:Nat->Value)(v6:Value)(l:List Nat)(w:World):Prop where
 aJ:Below W0.heap.size W0 w
 st:St w 101 b4 (df K' vN (.slice D.aM D.m D.cM))
 next:bq w W0.heap.size 43 3 1 vN R.length ws (fun _=>C') (fun j=>ints (R.getD j []))
 kept:w.ownsRow W0.heap.size 3 1 v6 C' (cG l)
 sep:∀i,i<R.length->∀b,(ws i).ownBlock=some b->v6.ownBlock≠some b
 lo:W0.heap.size<=b4
section
variable {W0 : World}{D : Dd}{b4 C' : Nat}{K' : Nat → Nat}{vN v6 : Value}{R : List (List Int)}{ws : Nat → Value}{l : List Nat}{w : World}
theorem tf.aa(h:tf W0 D b4 C' K' vN R ws v6 l w)(k:Below w.heap.size w w1):tf W0 D b4 C' K' vN R ws v6 l w1:=
 ⟨h.aJ.trans (k.mono h.aJ.size),h.st.aa k,h.next.aa k,dr h.kept k,h.sep,h.lo⟩
theorem tf.f1(h:tf W0 D b4 C' K' vN R ws v6 l w):w.cell? ⟨b4,256,none⟩=some vN:=by rw[h.st.at_,p6]
theorem pQ.done{vC:Value}{nm:List ByteArray}{ws:Nat->Value}(h:pQ W0 D C bM b4 vC 256 v6 nm g w)(hm:nm.length=C'):tf W0 D b4 C' (fun j=>if j<256 then g j else 0) (.slice none 0 0) [] ws v6 ((bf g 256).map D.K) w:=by
 subst hm;exact⟨h.aJ,h.st,⟨World.ownsRow_nil _ _ _ _,fun i hi=>absurd hi (by simp),fun i j hi=>absurd hi (by simp)⟩,h.kept,fun i hi=>absurd hi (by simp),h.Gz⟩
theorem tf.fZ{vN':Value}{row:List Int}{q:Nat}(h:tf W0 D b4 C' K' vN R ws v6 l w)(hu:w.ownsRow W0.heap.size 3 1 u C' (ints row))(hs:∀i,i<R.length->∀b,(ws i).ownBlock=some b->u.ownBlock≠some b)(oQ:∀b,u.ownBlock=some b->v6.ownBlock≠some b)(hq:R.length=q)
  (ho:w'.ownsRow W0.heap.size 43 1 vN' (q+1) ((range q).map ws++[u])) (hg:w.grownBy w' vN.ownBlock):tf W0 D b4 C' K' vN' (R++[row]) (fun j=>if j=q then u else ws j) v6 l (w'.setCell ⟨b4,256,none⟩ vN'):=by
 subst hq;have dC:St w' 101 b4 (df K' vN (.slice D.aM D.m D.cM)):=h.st.af h.next.own (by decide) hg
 have h1:bq w W0.heap.size 43 3 1 vN R.length ws (fun _=>C') (fun j=>ints ((R++[row]).getD j [])):=h.next.congr (fun i hi=>⟨rfl,by simp[getD_eq_getElem?_getD,getElem?_append_left hi]⟩)
 have h2:=h1.tw (v':=vN') (u:=u) (w':=w') (by decide) (by simpa [getD_eq_getElem?_getD] using hu) hs ho hg;have hm:w'.ownsRow W0.heap.size 3 1 v6 C' (cG l):=qV h.kept hg (fun b e e2=>hJ h.kept h.next.own (by decide) b e e2.symm);refine⟨(fO h.aJ h.next.own h.aJ.size hg).setCell (p:=⟨b4,256,none⟩) h.lo _,?_,?_,zl hm dC (by decide),?_,h.lo⟩
 ·have:=dC.set 256 vN';rwa [UD] at this
 ·rw[length_append];exact⟨zl h2.own dC (by decide),fun i hi=>zl (h2.row i hi) dC (by decide),h2.sep⟩
 intro i hi b e;by_cases e1:i=R.length
 ·rw[if_pos e1] at e;exact oQ b e
 rw[if_neg e1] at e;exact h.sep i (by simp at hi;omega) b e
def OH(D:Dd)(w:World)(e:Ending)(w':World):Prop:=
 ∃(P:Dd) (g:Nat->Nat) (C':Nat),e=.returned (.agg P.cD)/\DM w' P/\ff (iX D D.n) 256 g C'/\sx D g C' P/\Below w.heap.size w w'
def mC(D:Dd)(l:List Nat)(n:Nat):List (List Int):=(range n).map fun i=>l.map (D.nx i)
theorem tf.fin{bR:Nat}{wS:World}{kL:Array Value}(hD:DM wS D)(hR:DR D C)(hN:ff (iX D D.n) 256 g C')(h:tf W0 D b4 C' (fun j=>if j<256 then g j else 0) vN (mC D ((bf g 256).map D.K) D.n) ws v6 ((bf g 256).map D.K) w)
  (hs:St w 101 bR kL) (hw:w'=w.setRow bR cs) (hB:Below wS.heap.size wS w'):OH D wS (.returned (.agg (df (fun j=>if j<256 then g j else 0) vN (.slice D.aM D.m D.cM)))) w':=by
 subst hw;obtain⟨aN,cN,rfl⟩:=bG h.next.own
 have hlen:(mC D ((bf g 256).map D.K) D.n).length=D.n:=by simp[mC]
 have oJ:∀{B t n:Nat}{v:Value}{xs:List Value},t≠101->w.ownsRow B t 1 v n xs->(w.setRow bR cs).ownsRow B t 1 v n xs:=fun {B t n v xs} ht ho=>
  fD (ts:=[]) (bs:=[bR]) ho (Jt w bR cs) (by simp) (fun g e hm=>dH ho hs ht g e (List.mem_singleton.1 hm))
 have dj:bq (w.setRow bR cs) W0.heap.size 43 3 1 (.slice aN (mC D ((bf g 256).map D.K) D.n).length cN) (mC D ((bf g 256).map D.K) D.n).length ws (fun _=>C') (fun j=>ints ((mC D ((bf g 256).map D.K) D.n).getD j [])):=⟨oJ (by decide) h.next.own,fun i hi=>oJ (by decide) (h.next.row i hi),h.next.sep⟩
 have vg:∀r∈mC D ((bf g 256).map D.K) D.n,r.length=C':=by
  intro r hr;obtain⟨i,_,rfl⟩:=List.mem_map.1 hr;rw[length_map,length_map,hN.gw]
 have hm:=hR.m;have hg:∀j,j<256->g j<256:=fun j hj=>by have:=hN.le j hj;omega
 refine⟨⟨df (fun j=>if j<256 then g j else 0) (.slice aN (mC D ((bf g 256).map D.K) D.n).length cN) (.slice D.aM D.m D.cM),fun j=>if j<256 then g j else 0,aN,(mC D ((bf g 256).map D.K) D.n).length,cN,fun i=>ui (ws i),fun i=>xw (ws i),fun _=>C',fun i x=>((mC D ((bf g 256).map D.K) D.n).getD i []).getD x 0,D.aM,D.m,D.cM,D.q⟩,g,C',rfl,
  ⟨l8 _ _ _,wB _ _ _ _ _ _ _,fun j hj=>yV _ _ _ j hj,fun j hj=>?_,p6 _ _ _,yo _ _ _,dj.zs rfl vg,(hD.below hB).rM⟩,hN,⟨fun b hb=>?_,hlen,hm,fun i hi=>rfl,fun i hi c hc=>?_,fun i hi=>rfl⟩,hB⟩
 ·show (if j<256 then g j else 0)<256;rw[if_pos hj];exact hg j hj
 ·show (if b<256 then g b else 0)=g b;rw[if_pos hb]
 show ((mC D ((bf g 256).map D.K) D.n).getD i []).getD c 0=D.nx i (D.K ((bf g 256).getD c 0));have iZ:c<(bf g 256).length:=by rw[hN.gw];exact hc
 unfold mC;simp[getD_eq_getElem?_getD,hi,iZ]
end
theorem Nu(D:Dd)(l:List Nat)(i:Nat):mC D l (i+1)=mC D l i++[l.map (D.nx i)]:=by
 unfold mC;rw[range_succ,map_append];rfl
theorem znT(D:Dd)(l:List Nat)(i:Nat):(mC D l i).length=i:=by simp[mC]
theorem Ky(D:Dd)(C:Nat)(hR:DR D C)(w:World)(hD:DM w D):
  Calls prog 100 #[.agg D.cD] w (OH D w):=by
 have dj:=hR.n2;have fx:=hR.n1;have zp:=(hR.ka hD.kl).2;have ur:=hD.kl;have iK:=zgA;have HB:=hid (Zz (db.new hD) (Zz (al w (.cells D.cD 101)) (Zz hR hD)));obtain⟨iI,hI,oG,ow,oK⟩:=info_parts az;obtain⟨iV,hV,tQ,tI,tA⟩:=info_parts dR;have V9:=hid ur;clear hD hR ur;go_enter func100,ntmps100;go_upto_region 1 with (refine rF rfl 101 rfl (zC 101) (nE _) ?_)
 try simp only[put,List.setIfInBounds_toArray,set_cons_zero,set_cons_succ,GM]
 have H0:Hid (db ((w.alloc (.cells D.cD 101)).alloc (.cells (zC 101) 101)) w.heap.size D/\St ((w.alloc (.cells D.cD 101)).alloc (.cells (zC 101) 101)) 101 (w.heap.size+1) (zC 101)/\Below w.heap.size w ((w.alloc (.cells D.cD 101)).alloc (.cells (zC 101) 101))):=by
  refine⟨HB.out.1.aa (al _ _),?_,HB.out.2.1.trans ((al _ _).mono (by simp))⟩;have:=St.new (w.alloc (.cells D.cD 101)) 101 (zC 101);simpa using this
 generalize (w.alloc (.cells D.cD 101)).alloc (.cells (zC 101) 101)=Wn at H0⊢;obtain⟨b2,ct⟩:∃b2,w.heap.size+1=b2:=⟨_,rfl⟩
 obtain⟨b0,aY⟩:∃b0,w.heap.size=b0:=⟨_,rfl⟩
 rw[ct,aY] at H0;rw[ct,aY];have Hb:=hid (Zz aY ct);clear ct aY;have f2:=H0.out.1.f2;have k5:=al Wn (.cells (zC 101) 101);have gq:St (Wn.alloc (.cells (zC 101) 101)) 101 Wn.heap.size (zC 101):=St.new _ _ _;have iA:=hid gq;have jB:Hid (St ((Wn.alloc (.cells (zC 101) 101)).setRow Wn.heap.size (df (fun _=>0) (.slice none 0 0) (.slice D.aM D.m D.cM))) 101 Wn.heap.size (df (fun _=>0) (.slice none 0 0) (.slice D.aM D.m D.cM))/\Below Wn.heap.size Wn ((Wn.alloc (.cells (zC 101) 101)).setRow Wn.heap.size (df (fun _=>0) (.slice none 0 0) (.slice D.aM D.m D.cM)))):=⟨gq.setRow,mQ k5 (le_refl _) _⟩
 clear k5 gq;go_upto_region 2 with (first
  | (refine Dw rfl 101 _ rfl #[(2,.slice D.aM D.m D.cM)] (by first|rfl|kernel_rfl|(go_simp;done)) (.agg (df (fun _=>0) (.slice none 0 0) (.slice D.aM D.m D.cM))) (zir D.aM D.m D.cM _) ?_)
  | (refine rF rfl 101 rfl (zC 101) (nE _) ?_)
  | (refine o8 rfl 101 _ _ rfl Wn.heap.size 101 (zC 101) (df (fun _=>0) (.slice none 0 0) (.slice D.aM D.m D.cM)) rfl rfl iA.out (by rw[jz,l8]) (by rw[gY,l8]) (wB _ _ _ _ _ _ _) ?_))
 simp only[put,sA,sB,sC];clear f2;obtain⟨b4,iN⟩:∃b4,Wn.heap.size=b4:=⟨_,rfl⟩
 have EZ:=hid iN;rw[iN] at jB;rw[iN];generalize (Wn.alloc (.cells (zC 101) 101)).setRow b4 (df (fun _=>0) (.slice none 0 0) (.slice D.aM D.m D.cM))=W4 at jB⊢;clear iN iA;have tM:=hid (H0.out.1.aa (show Below Wn.heap.size Wn W4 by rw[EZ.out];exact jB.out.2));have AL:=hid (zeO D C HB.out.2.2.1 W4 tM.out.dm);go_wp2_with (refine nI (by rfl) 101 _ rfl ⟨b0,0,none⟩ rfl D.cD _ tM.out.st.part underlying101 rfl tM.out.dm.info ?_);refine AL.out.mono ?_;rintro e w5 ⟨aC,cC,rfl,jK,b5⟩;obtain⟨gC,rfl,Nx,Qi,MW⟩:=fe jK (show 0<C by have:=HB.out.2.2.1.ka V9.out;omega);have k6:=al w5 (.map #[] 0);have WW:dV (w5.alloc (.map #[] 0)) 9 w5.heap.size 0 (KF []):=dV.made _ _ _ (fun x y h=>by
  obtain⟨k,s,h1,_⟩:=h
  simp at h1)
 have Lr:Hid (pQ Wn D C w5.heap.size b4 (.slice (some ⟨gC,0,none⟩) C cC) 0 (.slice none 0 0) [] (fun _=>0) (w5.alloc (.map #[] 0))):=by
  have mW:b4<=W4.heap.size:=by have:=jB.out.2.size;have:=EZ.out;omega
  have lY:=b5.size;have hn4:=EZ.out;have hbA:Below Wn.heap.size Wn w5:=(show Below Wn.heap.size Wn W4 by rw[EZ.out];exact jB.out.2).trans (b5.mono (by omega));refine⟨hbA.trans (k6.mono (by omega)),WW,World.ownsRow_nil _ _ _ _,rfl,?_,jR (dr jK k6) (by omega),fun i hi=>absurd hi (by omega),ff.zero _,by omega,by omega,by simp⟩;have:=(jB.out.1.aa b5).aa k6;have e:(fun j=>if j<0 then (fun _=>0:Nat->Nat) j else 0)=fun _=>0:=by funext j;simp
  rw[e];exact this
 have FZ:=hid ((tM.out.aa b5).aa k6);clear jK b5 Nx Qi MW k6 WW AL;go_upto_region 5 with fail;obtain⟨bM,qZ⟩:∃bM,w5.heap.size=bM:=⟨_,rfl⟩
 rw[qZ] at Lr
 try rw[qZ]
 generalize w5.alloc (.map #[] 0)=W6 at Lr FZ⊢;clear qZ;have eC:=yY D.K;go_wp2_with (refine r8 rfl 98 _ rfl ⟨b0,0,none⟩ rfl (aU D.K) (.array 256 5) FZ.out.eo underlying98 rfl eC ?_);go_loopw [6,7,8,9,10,11,22] (fun v6 _ _ _ _ _ vk wr=>∃(k m:Nat) (a6:Option Addr) (c6:Nat),v6=.slice a6 m c6/\vk=.int .i64 k/\k<=256/\m<=k/\Hid (∃nm g,nm.length=m/\pQ Wn D C bM b4 (.slice (some ⟨gC,0,none⟩) C cC) k v6 nm g wr)) (fun _ _ _ _ _ _ v _=>256-(intOf v).toNat)
 ·exact⟨0,0,none,0,rfl,rfl,by omega,by omega,_,_,rfl,Lr.out⟩
 clear Lr;obtain⟨k,m,a6,c6,rfl,rfl,hk,jd,HL⟩:=hrel;by_cases dE:k<256
 ·obtain⟨nm,g,jc,hM⟩:=HL.out;have HM:=hid hM;have Ay:=hid jc;have i2:(k:Int)<256:=by omega
  have hv:=Et D.K k dE;have Bi:=OA 98 5 256 (aU D.K) k _ underlying98 dE (by kernel_rfl) ⟨_,underlying5,rfl⟩ hv wr;have xM:=V9.out k dE;have NH:=HB.out.2.2.1.c.1 k dE;obtain⟨gX,BB,GP,GU,Dc⟩:=fe hM.BH (by omega);have dF:=(Dc (D.K k) (by omega)).1;have Pn:gX=gC:=by injection BB with BB;injection BB with BB _;exact BB.symm
  rw[Pn] at dF;have hcv:((range C).map (qP D))[D.K k]?=some (.string (cS D (D.K k))):=by simp[NH];rfl
  rw[hcv] at dF;have da:(cS D (D.K k)).size<=1000000:=by rw[ZJ];omega
  have vT:=hM.look (cS D (D.K k)) da;have hlen:=hM.map.len (ty:=3) (t:=176) (by rw[underlying176];rfl);rw[jc] at hlen;have Ju:IntKind.u8.wrap (m:Int)=m:=by simp[wrap,IntKind.bits,signed];omega
  have z1:=hM.st.at_ k;have z2:=hM.st.aZ k;rw[yV _ _ _ k dE] at z1;rcases vT with ⟨b,hb,bU⟩|⟨hb,bU⟩
  ·have HF:Hid (∃nm g,nm.length=m/\pQ Wn D C bM b4 (.slice (some ⟨gC,0,none⟩) C cC) (k+1) (.slice a6 m c6) nm g (wr.setCell ⟨b4,k,none⟩ (.int .u8 (b:Int)))):=by
    obtain⟨g',Bm⟩:=hM.kL HB.out.2.2.1 dE hb;exact⟨nm,g',jc,Bm⟩
   clear hM hb hlen Ju BB GP GU Dc hcv jc HM Ay da HL;obtain⟨y,hy⟩:∃y,D.K k=y:=(⟨_,rfl⟩);obtain⟨s,hs⟩:∃s,cS D y=s:=(⟨_,rfl⟩);rw[hy] at hv Bi xM NH dF bU;rw[hs] at dF bU;clear hy hs;go_wp2;go_roundw
   ·exact⟨k+1,m,a6,c6,rfl,by go_num,by omega,by omega,HF.out⟩
   simp[intOf];omega
  have mV:nm.length<maxLen:=by unfold maxLen;omega
  obtain⟨w1,yd,mj,jx⟩:=hM.put (cS D (D.K k)) da mV hb;rw[jc] at yd;have Am:=ym hM.kept hM.map.ex.of jx;rw[jc] at Am;have On:=(hM.aJ.grown jx hM.aJ.size (fun g e=>by injection e with e;rw[<-e];exact hM.LH)).size;have nO:=hid (hM.st.dB hM.map.ex.of jx);have NB:Hid (∀(w2 w3:World) (D8:Value),Below w1.heap.size w1 w2->w2.grownBy w3 (Value.slice a6 m c6).ownBlock->w3.ownsRow Wn.heap.size 3 1 D8 (m+1) (cG ((bf g k).map D.K)++[.int .i64 ((D.K k:Nat):Int)])->∃nm g,nm.length=m+1/\pQ Wn D C bM b4 (.slice (some ⟨gC,0,none⟩) C cC) (k+1) D8 nm g (w3.setCell ⟨b4,k,none⟩ (.int .u8 (m:Int)))):=fun w2 w3 D8 h1 h2 h3=>by
   obtain⟨g',Bm⟩:=hM.fresh HB.out.2.2.1 dE hb mj jx h1 h2 (by rw[jc];exact h3);rw[jc] at Bm;exact⟨_,g',by simp[jc],Bm⟩
  clear hM hb BB GP GU Dc hcv jc HM Ay da HL mj jx z1 z2 mV;obtain⟨y,hy⟩:∃y,D.K k=y:=⟨_,rfl⟩
  obtain⟨s,hs⟩:∃s,cS D y=s:=⟨_,rfl⟩
  rw[hy] at hv Bi xM NH dF bU yd NB;rw[hs] at dF bU yd;clear hy hs;obtain⟨l9,xo⟩:∃l9,cG ((bf g k).map D.K)=l9:=⟨_,rfl⟩
  rw[xo] at Am NB;clear xo;go_wp2_with (at_builtin;refine wpList_append_own_at _ rfl _ _ 43 rfl Wn.heap.size 3 iI (.int .i64 0) 1 8 underlying43 hI oG ow oK rfl (by decide) _ _ _ rfl (Am.alloc _) ⟨w1.heap.size,0,none⟩ 1 1 [.int .i64 (y:Int)] rfl rfl (cell_one_new _ _ _) ?d2 ?d3 ?d4 ?d5 ?_)
  case d2=>first|(intro u hu;simp at hu;subst hu;rfl)|rfl
  case d3=>unfold maxLen;omega
  case d4=>omega
  case d5=>first|(simp;omega)|omega
  intro v' w5 an ak _ bw;obtain⟨a7,c7,rfl⟩:=bG an;have k9:=al w1 (.cells #[.int .i64 (y:Int)] 3);have HF:=hid (NB.out _ w5 (.slice a7 (m+1) c7) k9 ak an);have Xq:=hid ((nO.out.aa k9).af (dr Am k9) (by decide) ak);have z1:=Xq.out.at_ k;have z2:=Xq.out.aZ k;rw[yV _ _ _ k dE] at z1;clear an ak bw Am k9;go_wp2;go_roundw
  ·exact⟨k+1,m+1,a7,c7,rfl,by go_num,by omega,by omega,HF.out⟩
  simp[intOf];omega
 obtain rfl:k=256:=by omega
 obtain⟨nm,g,jc,hM⟩:=HL.out;have zM:=hM.num;rw[jc] at zM;have yJ:=hM.done (ws:=fun _=>.slice none 0 0) jc;obtain⟨l,hl⟩:∃l,(bf g 256).map D.K=l:=⟨_,rfl⟩
 obtain⟨Kf,O0⟩:∃Kf:Nat->Nat,(fun j=>if j<256 then g j else 0)=Kf:=⟨_,rfl⟩
 have yX:=hid (Zz zM (Zz hl O0));rw[hl,O0] at yJ;have jB:Hid (tf Wn D b4 m Kf (.slice none 0 0) (mC D l 0) (fun _=>.slice none 0 0) (.slice a6 m c6) l wr):=yJ;have Hl:Hid (l.length=m/\∀x∈l,x<C):=by
  refine⟨by rw[<-hl,length_map,zM.gw],fun x hx=>?_⟩;rw[<-hl] at hx;obtain⟨j,hj,rfl⟩:=List.mem_map.1 hx;exact HB.out.2.2.1.c.1 j (KJ g 256 j hj)
 have MZ:=hid (H0.out.1.aa hM.aJ);have f1:=MZ.out.f1;obtain⟨gN,oN,eN,mo,qK⟩:=H0.out.1.dm.rN (by omega);rw[eN] at f1;have uw:=hid qK;have Hg:=hid mo;clear eN qK mo zM yJ hl O0 hM HL jc;go_wp2_with fail;clear f1;rw[show ((256:Nat):Int)=256 from rfl];go_loopw [13,57] (fun _ v wr=>∃(i:Nat) (ws:Nat->Value) (aN:Option Addr) (cN:Nat),v=.int .i64 i/\i<=D.n/\Hid (tf Wn D b4 m Kf (.slice aN i cN) (mC D l i) ws (.slice a6 m c6) l wr)) (fun _ v _=>D.n-(intOf v).toNat)
 ·exact⟨0,_,none,0,rfl,by omega,jB⟩
 clear jB;obtain⟨i,ws,aN,cN,rfl,hi,HT⟩:=hrel;have lX:Hid ((mC D l i).length=i):=znT D l i;by_cases aw:i<D.n
 ·have i1:(i:Int)<(D.n:Int):=by omega
  have hlen:=HB.out.2.2.1.len i aw;have p7:=(HT.out.aJ.cell (p:=⟨gN,oN+i,none⟩) Hg.out).trans (uw.out i aw).1;have zN:=(uw.out i aw).2;rw[hlen] at p7 zN
  try dsimp only at p7
  have wW:Hid (kQ wr.drew (D.A i) C (D.nx i)):=(zN.below HT.out.aJ).below (Below.refl _ _).drew;clear hlen zN;go_upto_region 19 with fail;clear p7;refine wp_region_held_drew (S:=fun W'=>Below Wn.heap.size Wn W') (by kernel_rfl) HT.out.aJ.drew (fun hHeld=>?_);have HT:Hid (tf Wn D b4 m Kf (.slice aN i cN) (mC D l i) ws (.slice a6 m c6) l wr.drew):=HT.out.aa (Below.refl _ _).drew
  (refine ag 0 ?_;refine ag 2 ?_;refine ag 3 ?_;try simp only[put,sA,sB,sC])
  refine wpAnyH_ready (rs:=[1,4]) (by kernel_rfl) (by simp) ?_;refine ir (fun K hK=>?_) ?_
  ·skip;have f1:=HT.out.f1;go_simp;refine hK.out _ _ (hHeld) (fun hHeld=>?_);clear hK K
   try simp only[put,sA,sB,sC]
   clear f1;refine ba 4 (fun K hK=>?_);skip;have il:=(HT.out.next.lt).2;have ji:=ln HT.out.kept;have Gg:=tN HT.out.kept Hl.out.1;have Hu:=wW.out;skip;go_simp;go_at_call 131;refine (Ua (D.nx i) C l m Hl.out.1 (by omega) (by omega) Hl.out.2 (D.A i) a6 (D.Cp i) c6 _ Hu Gg).mono ?_;rintro e w5 ⟨a5,c5,rfl,jK,b5⟩;have HU:Hid (w5.ownsRow Wn.heap.size 3 1 (.slice a5 m c5) m (ints (l.map (D.nx i)))/\(∀j,j<(mC D l i).length->∀b,(ws j).ownBlock=some b->(Value.slice a5 m c5).ownBlock≠some b)/\∀b,(Value.slice a5 m c5).ownBlock=some b->(Value.slice a6 m c6).ownBlock≠some b):=by
    have jl:=ko jK;refine⟨?_,fun j hj b e1 e2=>?_,fun b e1 e2=>?_⟩
    ·exact jR jK HT.out.aJ.size
    ·have h1:=il j hj b e1;have h2:=jl b e2
     try simp only[kn] at h1
     try simp only[kn] at h2
     omega
    have h1:=ji b e2;have h2:=jl b e1
    try simp only[kn] at h1
    try simp only[kn] at h2
    omega
   have HT:=hid (HT.out.aa b5);clear jK b5 il ji Gg Hu
   try go_wp2_with fail
   refine hK.out _ _ (HT.out.aJ) (fun hHeld=>?_);clear hK K
   try simp only[put,sA,sB,sC]
   refine ba 5 (fun K hK=>?_);skip;go_simp;have kk:=al w5 (.cells #[.slice a5 m c5] 43);have HN:Hid (∀j u,[Value.slice a5 m c5][j]?=some u->(w5.alloc (.cells #[.slice a5 m c5] 43)).cell? ((⟨w5.heap.size,0,none⟩:Addr).add j)=some u):=cell_one_new _ _ _;have HT:=hid (HT.out.aa kk);have HU:=hid (Zz (dr HU.out.1 kk) HU.out.2);refine hK.out _ _ (HT.out.aJ) (fun hHeld=>?_);clear hK K
   try simp only[put,sA,sB,sC]
   clear kk;generalize w5.alloc (.cells #[.slice a5 m c5] 43)=V5 at HN HT HU hHeld⊢;refine ba 6 (fun K hK=>?_);skip;have hO:=(HT.out.next.own);rw[lX.out] at hO;refine xv (by rfl) _ _ _ (by rfl) Wn.heap.size 43 iV (.slice none 0 0) 1 24 underlying99 hV tQ tI tA (by rfl) (by decide) _ i ((range i).map ws) (by rfl) hO ⟨w5.heap.size,0,none⟩ 1 1 [.slice a5 m c5] (by rfl) (by rfl) HN.out (by intro u hu;simp at hu;subst hu;rfl) (by unfold maxLen;omega) (by omega) HT.out.aJ.size ?_;intro v6 w6 aq aj;obtain⟨a7,c7,rfl⟩:=bG aq;have jw:=hid (HT.out.fZ (u:=.slice a5 m c5) (vN':=.slice a7 (i+1) c7) HU.out.1 HU.out.2.1 HU.out.2.2 lX.out aq aj);have h9:=(HT.out.st.af HT.out.next.own (by decide) aj);have z2:w6.cell? ⟨b4,256,none⟩=some (.slice aN i cN):=(by rw[h9.at_,p6]);have z3:w6.frozen? ⟨b4,256,none⟩=false:=h9.aZ 256;have ey:=(fO HT.out.aJ HT.out.next.own HT.out.aJ.size aj);clear aq aj h9 hO;refine hK.out _ _ (ey) (fun hHeld=>?_);clear hK K
   try simp only[put,sA,sB,sC]
   (refine ag 7 ?_;try simp only[put,sA,sB,sC])
   refine ba 8 (fun K hK=>?_);skip;go_simp;refine hK.out _ _ (jw.out.aJ) (fun hHeld=>?_);clear hK K
   try simp only[put,sA,sB,sC]
   refine wpAnyH_done (by kernel_rfl) ?_ _;rw[<-Nu] at jw;clear hHeld z2 z3 ey;go_wp2;go_roundw
   ·exact⟨i+1,_,a7,c7,by go_num,by omega,jw⟩
   simp[intOf];omega
  refine ir (fun K hK=>?_) ?_
  ·skip;have il:=(HT.out.next.lt).2;have ji:=ln HT.out.kept;have Gg:=tN HT.out.kept Hl.out.1;have Hu:=wW.out;skip;go_simp;go_at_call 131;refine (Ua (D.nx i) C l m Hl.out.1 (by omega) (by omega) Hl.out.2 (D.A i) a6 (D.Cp i) c6 _ Hu Gg).mono ?_;rintro e w5 ⟨a5,c5,rfl,jK,b5⟩;have HU:Hid (w5.ownsRow Wn.heap.size 3 1 (.slice a5 m c5) m (ints (l.map (D.nx i)))/\(∀j,j<(mC D l i).length->∀b,(ws j).ownBlock=some b->(Value.slice a5 m c5).ownBlock≠some b)/\∀b,(Value.slice a5 m c5).ownBlock=some b->(Value.slice a6 m c6).ownBlock≠some b):=by
    have jl:=ko jK;refine⟨?_,fun j hj b e1 e2=>?_,fun b e1 e2=>?_⟩
    ·exact jR jK HT.out.aJ.size
    ·have h1:=il j hj b e1;have h2:=jl b e2
     try simp only[kn] at h1
     try simp only[kn] at h2
     omega
    have h1:=ji b e2;have h2:=jl b e1
    try simp only[kn] at h1
    try simp only[kn] at h2
    omega
   have HT:=hid (HT.out.aa b5);clear jK b5 il ji Gg Hu
   try go_wp2_with fail
   refine hK.out _ _ (HT.out.aJ) (fun hHeld=>?_);clear hK K
   try simp only[put,sA,sB,sC]
   refine wpAnyH_ready (rs:=[1,5]) (by kernel_rfl) (by simp) ?_;refine ir (fun K hK=>?_) ?_
   ·skip;have f1:=HT.out.f1;go_simp;refine hK.out _ _ (hHeld) (fun hHeld=>?_);clear hK K
    try simp only[put,sA,sB,sC]
    clear f1;refine ba 5 (fun K hK=>?_);skip;go_simp;have kk:=al w5 (.cells #[.slice a5 m c5] 43);have HN:Hid (∀j u,[Value.slice a5 m c5][j]?=some u->(w5.alloc (.cells #[.slice a5 m c5] 43)).cell? ((⟨w5.heap.size,0,none⟩:Addr).add j)=some u):=cell_one_new _ _ _;have HT:=hid (HT.out.aa kk);have HU:=hid (Zz (dr HU.out.1 kk) HU.out.2);refine hK.out _ _ (HT.out.aJ) (fun hHeld=>?_);clear hK K
    try simp only[put,sA,sB,sC]
    clear kk;generalize w5.alloc (.cells #[.slice a5 m c5] 43)=V5 at HN HT HU hHeld⊢;refine ba 6 (fun K hK=>?_);skip;have hO:=(HT.out.next.own);rw[lX.out] at hO;refine xv (by rfl) _ _ _ (by rfl) Wn.heap.size 43 iV (.slice none 0 0) 1 24 underlying99 hV tQ tI tA (by rfl) (by decide) _ i ((range i).map ws) (by rfl) hO ⟨w5.heap.size,0,none⟩ 1 1 [.slice a5 m c5] (by rfl) (by rfl) HN.out (by intro u hu;simp at hu;subst hu;rfl) (by unfold maxLen;omega) (by omega) HT.out.aJ.size ?_;intro v6 w6 aq aj;obtain⟨a7,c7,rfl⟩:=bG aq;have jw:=hid (HT.out.fZ (u:=.slice a5 m c5) (vN':=.slice a7 (i+1) c7) HU.out.1 HU.out.2.1 HU.out.2.2 lX.out aq aj);have h9:=(HT.out.st.af HT.out.next.own (by decide) aj);have z2:w6.cell? ⟨b4,256,none⟩=some (.slice aN i cN):=(by rw[h9.at_,p6]);have z3:w6.frozen? ⟨b4,256,none⟩=false:=h9.aZ 256;have ey:=(fO HT.out.aJ HT.out.next.own HT.out.aJ.size aj);clear aq aj h9 hO;refine hK.out _ _ (ey) (fun hHeld=>?_);clear hK K
    try simp only[put,sA,sB,sC]
    (refine ag 7 ?_;try simp only[put,sA,sB,sC])
    refine ba 8 (fun K hK=>?_);skip;go_simp;refine hK.out _ _ (jw.out.aJ) (fun hHeld=>?_);clear hK K
    try simp only[put,sA,sB,sC]
    refine wpAnyH_done (by kernel_rfl) ?_ _;rw[<-Nu] at jw;clear hHeld z2 z3 ey;go_wp2;go_roundw
    ·exact⟨i+1,_,a7,c7,by go_num,by omega,jw⟩
    simp[intOf];omega
   refine ir (fun K hK=>?_) ?_
   ·skip;go_simp;have kk:=al w5 (.cells #[.slice a5 m c5] 43);have HN:Hid (∀j u,[Value.slice a5 m c5][j]?=some u->(w5.alloc (.cells #[.slice a5 m c5] 43)).cell? ((⟨w5.heap.size,0,none⟩:Addr).add j)=some u):=cell_one_new _ _ _;have HT:=hid (HT.out.aa kk);have HU:=hid (Zz (dr HU.out.1 kk) HU.out.2);refine hK.out _ _ (HT.out.aJ) (fun hHeld=>?_);clear hK K
    try simp only[put,sA,sB,sC]
    clear kk;generalize w5.alloc (.cells #[.slice a5 m c5] 43)=V5 at HN HT HU hHeld⊢;refine ba 1 (fun K hK=>?_);skip;have f1:=HT.out.f1;go_simp;refine hK.out _ _ (hHeld) (fun hHeld=>?_);clear hK K
    try simp only[put,sA,sB,sC]
    clear f1;refine ba 6 (fun K hK=>?_);skip;have hO:=(HT.out.next.own);rw[lX.out] at hO;refine xv (by rfl) _ _ _ (by rfl) Wn.heap.size 43 iV (.slice none 0 0) 1 24 underlying99 hV tQ tI tA (by rfl) (by decide) _ i ((range i).map ws) (by rfl) hO ⟨w5.heap.size,0,none⟩ 1 1 [.slice a5 m c5] (by rfl) (by rfl) HN.out (by intro u hu;simp at hu;subst hu;rfl) (by unfold maxLen;omega) (by omega) HT.out.aJ.size ?_;intro v6 w6 aq aj;obtain⟨a7,c7,rfl⟩:=bG aq;have jw:=hid (HT.out.fZ (u:=.slice a5 m c5) (vN':=.slice a7 (i+1) c7) HU.out.1 HU.out.2.1 HU.out.2.2 lX.out aq aj);have h9:=(HT.out.st.af HT.out.next.own (by decide) aj);have z2:w6.cell? ⟨b4,256,none⟩=some (.slice aN i cN):=(by rw[h9.at_,p6]);have z3:w6.frozen? ⟨b4,256,none⟩=false:=h9.aZ 256;have ey:=(fO HT.out.aJ HT.out.next.own HT.out.aJ.size aj);clear aq aj h9 hO;refine hK.out _ _ (ey) (fun hHeld=>?_);clear hK K
    try simp only[put,sA,sB,sC]
    (refine ag 7 ?_;try simp only[put,sA,sB,sC])
    refine ba 8 (fun K hK=>?_);skip;go_simp;refine hK.out _ _ (jw.out.aJ) (fun hHeld=>?_);clear hK K
    try simp only[put,sA,sB,sC]
    refine wpAnyH_done (by kernel_rfl) ?_ _;rw[<-Nu] at jw;clear hHeld z2 z3 ey;go_wp2;go_roundw
    ·exact⟨i+1,_,a7,c7,by go_num,by omega,jw⟩
    simp[intOf];omega
   exact AllReadyH.nil
  exact AllReadyH.nil
 obtain rfl:i=D.n:=by omega
 have Rw:=hid HT.out;have iA:=hid HT.out.st;have iH:=hid (H0.out.2.1.aa HT.out.aJ);have hd:=l8 Kf (.slice aN D.n cN) (.slice D.aM D.m D.cM);have Dx:Hid (w.heap.size<=Wn.heap.size):=by have:=H0.out.2.2.size;have:=Hb.out.1;show _<=_;omega
 have AJ:Hid (Below w.heap.size w (wr.setRow b2 (df Kf (.slice aN D.n cN) (.slice D.aM D.m D.cM)))):=
  mQ ((show Below w.heap.size w Wn by rw[Hb.out.1];exact H0.out.2.2).trans (HT.out.aJ.mono Dx.out)) (by have:=Hb.out;omega) _
 have HF:Hid (OH D w (.returned (.agg (df Kf (.slice aN D.n cN) (.slice D.aM D.m D.cM)))) (wr.setRow b2 (df Kf (.slice aN D.n cN) (.slice D.aM D.m D.cM)))):=by
  obtain⟨h1,h2,h3⟩:=yX.out;have hT:=Rw.out;rw[<-h3] at hT AJ⊢;rw[<-h2] at hT;exact hT.fin HB.out.2.2.2 HB.out.2.2.1 h1 iH.out rfl AJ.out
 clear HT;go_wp2_with (first|(refine r8 rfl 101 _ rfl ⟨b4,0,none⟩ rfl (df Kf (.slice aN D.n cN) (.slice D.aM D.m D.cM)) _ iA.out.part underlying101 rfl (by rw[gY,hd]) ?_)|(refine o8 rfl 101 _ _ rfl b2 101 (zC 101) (df Kf (.slice aN D.n cN) (.slice D.aM D.m D.cM)) rfl rfl iH.out (by rw[jz,hd]) (by rw[gY,hd]) (wB _ _ _ _ _ _ _) ?_));refine bodyPost_ret (results_cell_row rfl _ _ b2 101 (df Kf (.slice aN D.n cN) (.slice D.aM D.m D.cM)) (0,0) _ rfl iH.out.setRow underlying101 rfl (by rw[gY,hd])) rfl ?_;exact HF.out
theorem zoV(h:(zC 101)[i]?=some v):v=.int .u8 0\/v=.slice none 0 0:=by
 have hz:=jz;by_cases a:i<256
 ·rw[XP i a] at h;exact inl (Option.some.inj h).symm
 by_cases b:i=256
 ·subst b;rw[Ew.1] at h;exact inr (Option.some.inj h).symm
 by_cases c:i=257
 ·subst c;rw[Ew.2] at h;exact inr (Option.some.inj h).symm
 rw[Array.getElem?_eq_none (by omega)] at h;cases h
theorem DM.NA{b:Nat}(hR:DR D C)(h:DM w D)(hs:St w 101 b (zC 101))(cs:Array Value):DM (w.setRow b cs) D:=by
 have hk:=Jt w b cs;have da:(w.setRow b cs).heap.size=w.heap.size:=setRow_size _ _ _;have hC:=(hR.ka h.kl).1;have key:∀{g i:Nat}{v:Value},g<w.heap.size->w.cell? ⟨g,i,none⟩=some v->v≠.int .u8 0->v≠.slice none 0 0->(w.setRow b cs).cell? ⟨g,i,none⟩=some v:=fun {g i v} hg hc h1 h2=>by
  have hgb:g≠b:=fun e=>by
   subst e;rw[hs.at_] at hc;rcases zoV hc with e|e
   ·exact h1 e
   exact h2 e
  rw[hk.mG (g:=g) (i:=i) (by simpa using hgb) hg];exact hc
 refine⟨h.sz,h.one,h.cl,h.kl,h.fN,h.fM,fun h0=>?_,fun h0=>?_⟩
 ·obtain⟨g,off,e,hg,hc⟩:=h.rN h0;refine⟨g,off,e,by rw[da];exact hg,fun i hi=>⟨key hg (hc i hi).1 (fun e=>by cases e) (fun e=>by
   injection e with _ e _
   have:=hR.len i hi
   omega),fun h1=>?_⟩⟩
  obtain⟨g',Fs,e',Bm,nG⟩:=(hc i hi).2 h1;exact⟨g',Fs,e',by rw[da];exact Bm,fun j hj=>key Bm (nG j hj) (fun e=>by cases e) (fun e=>by cases e)⟩
 obtain⟨g,off,e,hg,hc⟩:=h.rM h0;exact⟨g,off,e,by rw[da];exact hg,fun j hj=>key hg (hc j hj) (fun e=>by cases e) (fun e=>by cases e)⟩
theorem db.stored{b:Nat}(hR:DR D C)(hD:DM w D)(h:St w 101 b (zC 101)):db (w.setRow b D.cD) b D:=⟨h.setRow,hD.NA hR h _⟩
def uV(O P:Dd)(C C':Nat):Prop:=∃(f:Nat->Nat) (B:Nat) (M:Dd) (g:Nat->Nat),ff (kP C (tD O) (mD O)) O.n f B/\qT O C f B M/\ff (iX M M.n) 256 g C'/\sx M g C' P
theorem uV.right(hR:DR O C)(h:uV O P C C'):DR P C':=by
 obtain⟨f,B,M,g,h1,h2,h3,h4⟩:=h;exact h4.right (h2.right hR h1) h3
theorem uV.le(h:uV O P C C'):P.n<=O.n:=by
 obtain⟨f,B,M,g,h1,h2,h3,h4⟩:=h;have e:=h4.n;have e2:M.n=B:=h2.2.1;have e3:=h1.gw;have e4:=Su f O.n;omega
theorem uV.mn{X:Dd}(hR:DR O C)(hO:nM O)(hT:va O C)(h:uV O P C C')(hl:l=cy (av P.len P.nx) [0] k)(dE:l.length=k)(pT:k<=P.n)(hX:oV P C' k (ie P l) (fun i=>P.q (l.getD i 0)) X):Mn X C'/\dZ X 0 O 0:=by
 obtain⟨f,B,M,g,h1,h2,h3,h4⟩:=h;exact Mn.made hR hO hT h1 h2 h3 h4 hl dE pT hX
structure Qq (D O:Dd)(C:Nat):Prop where
 r:DR O C
 ord:nM O
 D3:va O C
 wI:dZ O 0 D 0
 le:O.n<=D.n
theorem Qq.made{T:Dd}(hR:DR D C)(hT:oV D C D.n (nv D) D.q T)(hl:l=cy (av T.len T.nx) [0] k)(dE:l.length=k)(pT:k<=T.n)(hO:oV T C k (ie T l) (fun i=>T.q (l.getD i 0)) O):Qq D O C:=by
 have Km:=hT.kh hR;have hTT:=hT.vY hR;have hn:=hR.n1;have h1:=Nc (D:=T) (k:=k) (by rw[<-hl];exact dE);rw[<-hl] at h1;have hb:=hO.pe Km hl dE (i:=0) (by omega);rw[h1.2] at hb;refine⟨?_,hO.FQ Km hl dE,hO.ti Km hTT hl dE,hb.trans (hT.qO hR (by omega)),by have h3:=hO.2.1;have h4:=hT.2.1;omega⟩;subst hl;exact hO.oH Km dE pT
def Yx(D:Dd)(w:World)(e:Ending)(w':World):Prop:=∃(X:Dd) (C':Nat),e=.returned (.tuple #[.agg X.cD,.int .i64 0])/\DM w' X/\Mn X C'/\dZ X 0 D 0/\X.n<=D.n/\Below w.heap.size w w'
theorem zlN(D:Dd)(C:Nat)(hR:DR D C)(w:World)(hD:DM w D):Calls prog 83 #[.agg D.cD] w (Yx D w):=by
 have HB:=hid (Zz (db.new hD) (Zz (al w (.cells D.cD 101)) hR));clear hD hR;go_enter func83,ntmps83;go_upto_region 1 with (refine rF rfl 101 rfl (zC 101) (nE _) ?_)
 try simp only[put,List.setIfInBounds_toArray,set_cons_zero,set_cons_succ,GM]
 have H0:Hid (db ((w.alloc (.cells D.cD 101)).alloc (.cells (zC 101) 101)) w.heap.size D/\St ((w.alloc (.cells D.cD 101)).alloc (.cells (zC 101) 101)) 101 (w.heap.size+1) (zC 101)/\Below w.heap.size w ((w.alloc (.cells D.cD 101)).alloc (.cells (zC 101) 101))):=by
  refine⟨HB.out.1.aa (al _ _),?_,HB.out.2.1.trans ((al _ _).mono (by simp))⟩;have:=St.new (w.alloc (.cells D.cD 101)) 101 (zC 101);simpa using this
 generalize (w.alloc (.cells D.cD 101)).alloc (.cells (zC 101) 101)=Wb at H0⊢;obtain⟨b2,ct⟩:∃b2,w.heap.size+1=b2:=⟨_,rfl⟩
 obtain⟨b0,aY⟩:∃b0,w.heap.size=b0:=⟨_,rfl⟩
 rw[ct,aY] at H0;rw[ct,aY];have Hb:=hid (Zz aY ct);clear ct aY;have tk:=hid (Ga D C HB.out.2.2 Wb H0.out.1.dm);go_wp2_with (refine nI (by rfl) 101 _ rfl ⟨b0,0,none⟩ rfl D.cD _ H0.out.1.st.part underlying101 rfl H0.out.1.dm.info ?_);refine tk.out.mono ?_;rintro e wy ⟨rfl,rm⟩;have rk:Hid (db wy b0 D/\St wy 101 b2 (zC 101)/\Below b0 w wy/\b0<=wy.heap.size):=⟨H0.out.1.aa rm,H0.out.2.1.aa rm,H0.out.2.2.trans (rm.mono (by have:=H0.out.2.2.size;have:=Hb.out.1;omega)),by have:=H0.out.2.2.size;have:=rm.size;have:=Hb.out.1;omega⟩
 have zi:=hid (zmF D C wy rk.out.1.dm HB.out.2.2);clear rm tk;go_wp2_with (refine nI (by rfl) 101 _ rfl ⟨b0,0,none⟩ rfl D.cD _ rk.out.1.st.part underlying101 rfl rk.out.1.dm.info ?_);refine zi.out.mono ?_;rintro e wT ⟨T,rfl,XT,t1,t2,t3,t4,t5,t6,bT,_⟩;have HT:=hid (Zz XT (show oV D C D.n (nv D) D.q T from ⟨t1,t2,t3,t4,t5,t6⟩));have H1:Hid (St wT 101 b2 (zC 101)/\Below b0 w wT/\b0<=wT.heap.size):=⟨rk.out.2.1.aa bT,rk.out.2.2.1.trans (bT.mono rk.out.2.2.2),by have:=rk.out.2.2.2;have:=bT.size;omega⟩
 obtain⟨k,dE,pT⟩:=Ti (HT.out.2.kh HB.out.2.2);have HOr:=hid (YX T C _ k rfl dE pT wT HT.out.1 (HT.out.2.kh HB.out.2.2));have UG:=hid (Zz dE pT);clear XT t1 t2 t3 t4 t5 t6 bT zi dE pT;go_wp2_with fail;refine HOr.out.mono ?_;rintro e wO ⟨O,rfl,Ye,t1,t2,t3,t4,t5,t6,bO,_⟩;have HO:=hid (Zz Ye (Qq.made HB.out.2.2 HT.out.2 rfl UG.out.1 UG.out.2 ⟨t1,t2,t3,t4,t5,t6⟩));have H2:Hid (St wO 101 b2 (zC 101)/\Below b0 w wO/\b0<=wO.heap.size):=⟨H1.out.1.aa bO,H1.out.2.1.trans (bO.mono H1.out.2.2),by have:=H1.out.2.2;have:=bO.size;omega⟩
 clear Ye t1 t2 t3 t4 t5 t6 bO HOr;have iA:=hid (St.new wO 101 (zC 101));have H3:Hid (db ((wO.alloc (.cells (zC 101) 101)).setRow wO.heap.size O.cD) wO.heap.size O/\Below wO.heap.size wO ((wO.alloc (.cells (zC 101) 101)).setRow wO.heap.size O.cD)):=
  ⟨db.stored HO.out.2.r (HO.out.1.below (al _ _)) (St.new _ _ _),mQ (al _ _) (le_refl _) _⟩
 go_upto_region 4 with (first
  | (refine rF rfl 101 rfl (zC 101) (nE _) ?_)
  | (refine o8 rfl 101 _ _ rfl wO.heap.size 101 (zC 101) O.cD rfl rfl iA.out (by rw[jz,HO.out.1.sz]) (by rw[gY,HO.out.1.sz]) HO.out.1.one ?_))
 simp only[put,sA,sB,sC];obtain⟨b4,iN⟩:∃b4,wO.heap.size=b4:=⟨_,rfl⟩
 rw[iN] at H3;rw[iN];generalize (wO.alloc (.cells (zC 101) 101)).setRow b4 O.cD=V at H3⊢;have H4:Hid (St V 101 b2 (zC 101)/\Below b0 w V/\b0<=V.heap.size):=by
  have h:=H3.out.2;have hs:=h.size;rw[<-iN] at h;exact⟨H2.out.1.aa h,H2.out.2.1.trans (h.mono H2.out.2.2),by have:=H2.out.2.2;omega⟩
 clear iN iA;have dA:Hid (∀W',Below V.heap.size V W'->Below V.heap.size V W'/\db W' b4 O):=fun W' h=>⟨h,H3.out.1.aa h⟩
 go_cut [5] from 13 to 17 (fun v wx=>∃(b5:Nat) (P:Dd) (C':Nat),v=.pointer (some ⟨b5,0,none⟩)/\db wx b5 P/\uV O P C C'/\Below V.heap.size V wx)
 case first=>
  refine wp_region_held_drew (S:=fun W'=>Below V.heap.size V W'/\db W' b4 O) (by kernel_rfl) (dA.out _ (Below.refl _ _).drew) (fun hHeld=>?_)
  (refine ag 0 (v:=.agg O.cD) ?_ (hy:=by intro wz hSw;exact Cs (o:=_) (ρ:=_) wz 101 (.tmp 4) rfl ⟨b4,0,none⟩ rfl O.cD _ (db.st (And.right hSw)).part underlying101 rfl (db.dm (And.right hSw)).info))
  (refine ag 1 (v:=.agg O.cD) ?_ (hy:=by intro wz hSw;exact Cs (o:=_) (ρ:=_) wz 101 (.tmp 4) rfl ⟨b4,0,none⟩ rfl O.cD _ (db.st (And.right hSw)).part underlying101 rfl (db.dm (And.right hSw)).info);try simp only[put,sA,sB,sC])
  refine wpAnyH_ready (rs:=[2,5]) (by kernel_rfl) (by simp) ?_;refine ir (fun K hK=>?_) ?_
  ·skip;go_simp;go_at_call 102;refine (Yd O C HO.out.2.r _ hHeld.2.dm).mono ?_;rintro e w8 ⟨f,B,aB,cB,rfl,ho,F0,vv⟩;have aW:Below V.heap.size V w8:=hHeld.1.trans (vv.mono hHeld.1.size);have HK:=hid (Zz (SM ho) F0);clear ho F0 vv
   try go_wp2_with fail
   refine hK.out _ _ (dA.out _ aW) (fun hHeld=>?_);clear hK K
   try simp only[put,sA,sB,sC]
   clear aW;refine wpAnyH_ready (rs:=[3,5]) (by kernel_rfl) (by simp) ?_;refine ir (fun K hK=>?_) ?_
   ·skip;go_simp;go_at_call 101;refine (RJ O C HO.out.2.r _ f B HK.out.2 aB cB _ hHeld.2.dm HK.out.1).mono ?_;rintro e w9 ⟨M,rfl,A4,t1,t2,t3,t4,t5,t6,vv,_⟩;have aW:Below V.heap.size V w9:=hHeld.1.trans (vv.mono hHeld.1.size);have nt:=hid (Zz A4 (show qT O C f B M from ⟨t1,t2,t3,t4,t5,t6⟩));clear A4 t1 t2 t3 t4 t5 t6 vv
    try go_wp2_with fail
    refine hK.out _ _ (dA.out _ aW) (fun hHeld=>?_);clear hK K
    try simp only[put,sA,sB,sC]
    clear aW;refine wpAnyH_ready (rs:=[4,5]) (by kernel_rfl) (by simp) ?_;refine ir (fun K hK=>?_) ?_
    ·skip;go_simp;go_at_call 100;refine (Ky M C (nt.out.2.right HO.out.2.r HK.out.2) _ nt.out.1).mono ?_;rintro e ny ⟨P,g,C',rfl,we,wu,s6,vv⟩;have aW:Below V.heap.size V ny:=hHeld.1.trans (vv.mono hHeld.1.size);have jZ:=hid (Zz we (show uV O P C C' from ⟨f,B,M,g,HK.out.2,nt.out.2,wu,s6⟩));clear we wu s6 vv
     try go_wp2_with fail
     refine hK.out _ _ (dA.out _ aW) (fun hHeld=>?_);clear hK K
     try simp only[put,sA,sB,sC]
     clear aW;refine ba 5 (fun K hK=>?_);skip;refine DY (by rfl) 101 (by rfl) (zC 101) (nE _) ?_;have kk:=al ny (.cells (zC 101) 101);have aW:Below V.heap.size V (ny.alloc (.cells (zC 101) 101)):=hHeld.1.trans (kk.mono hHeld.1.size);have jZ:=hid (Zz (jZ.out.1.below kk) jZ.out.2);have H7:Hid (St (ny.alloc (.cells (zC 101) 101)) 101 ny.heap.size (zC 101)/\V.heap.size<=ny.heap.size):=(⟨St.new _ _ _,hHeld.1.size⟩);refine hK.out _ _ (dA.out _ aW) (fun hHeld=>?_);clear hK K
     try simp only[put,sA,sB,sC]
     try simp only[kn]
     clear kk;generalize (ny.alloc (.cells (zC 101) 101))=V7 at H7 jZ hHeld aW⊢;refine ba 6 (fun K hK=>?_);skip;refine EJ (by rfl) 101 _ _ (by rfl) ny.heap.size 101 (zC 101) P.cD (by rfl) (by rfl) H7.out.1 (by rw[jz,jZ.out.1.sz]) (by rw[gY,jZ.out.1.sz]) jZ.out.1.one ?_;have HE:=hid (Zz (db.stored (jZ.out.2.right HO.out.2.r) jZ.out.1 H7.out.1) (Zz jZ.out.2 (mQ hHeld.1 H7.out.2 P.cD)));refine hK.out _ _ (dA.out _ HE.out.2.2) (fun hHeld=>?_);clear hK K
     try simp only[put,sA,sB,sC]
     refine wpAnyH_done (by kernel_rfl) ?_ _;clear hHeld;go_wp2_with fail
     go_meet
     exact⟨_,P,C',rfl,HE.out⟩
    refine ir (fun K hK=>?_) ?_
    ·skip;refine DY (by rfl) 101 (by rfl) (zC 101) (nE _) ?_;have kk:=al w9 (.cells (zC 101) 101);have aW:Below V.heap.size V (w9.alloc (.cells (zC 101) 101)):=hHeld.1.trans (kk.mono hHeld.1.size);have nt:=hid (Zz (nt.out.1.below kk) nt.out.2);have H7:Hid (St (w9.alloc (.cells (zC 101) 101)) 101 w9.heap.size (zC 101)/\V.heap.size<=w9.heap.size):=(⟨St.new _ _ _,hHeld.1.size⟩);refine hK.out _ _ (dA.out _ aW) (fun hHeld=>?_);clear hK K
     try simp only[put,sA,sB,sC]
     try simp only[kn]
     clear kk;generalize (w9.alloc (.cells (zC 101) 101))=V7 at H7 nt hHeld aW⊢;refine ba 4 (fun K hK=>?_);skip;go_simp;go_at_call 100;refine (Ky M C (nt.out.2.right HO.out.2.r HK.out.2) _ nt.out.1).mono ?_;rintro e ny ⟨P,g,C',rfl,we,wu,s6,vv⟩;have H7:Hid (St ny 101 w9.heap.size (zC 101)/\V.heap.size<=w9.heap.size):=(⟨H7.out.1.aa vv,H7.out.2⟩);have aW:Below V.heap.size V ny:=hHeld.1.trans (vv.mono hHeld.1.size);have jZ:=hid (Zz we (show uV O P C C' from ⟨f,B,M,g,HK.out.2,nt.out.2,wu,s6⟩));clear we wu s6 vv
     try go_wp2_with fail
     refine hK.out _ _ (dA.out _ aW) (fun hHeld=>?_);clear hK K
     try simp only[put,sA,sB,sC]
     clear aW;refine ba 6 (fun K hK=>?_);skip;refine EJ (by rfl) 101 _ _ (by rfl) w9.heap.size 101 (zC 101) P.cD (by rfl) (by rfl) H7.out.1 (by rw[jz,jZ.out.1.sz]) (by rw[gY,jZ.out.1.sz]) jZ.out.1.one ?_;have HE:=hid (Zz (db.stored (jZ.out.2.right HO.out.2.r) jZ.out.1 H7.out.1) (Zz jZ.out.2 (mQ hHeld.1 H7.out.2 P.cD)));refine hK.out _ _ (dA.out _ HE.out.2.2) (fun hHeld=>?_);clear hK K
     try simp only[put,sA,sB,sC]
     refine wpAnyH_done (by kernel_rfl) ?_ _;clear hHeld;go_wp2_with fail
     go_meet
     exact⟨_,P,C',rfl,HE.out⟩
    exact AllReadyH.nil
   refine ir (fun K hK=>?_) ?_
   ·skip;refine DY (by rfl) 101 (by rfl) (zC 101) (nE _) ?_;have kk:=al w8 (.cells (zC 101) 101);have aW:Below V.heap.size V (w8.alloc (.cells (zC 101) 101)):=hHeld.1.trans (kk.mono hHeld.1.size);have HK:=hid (Zz (HK.out.1.below kk) HK.out.2);have H7:Hid (St (w8.alloc (.cells (zC 101) 101)) 101 w8.heap.size (zC 101)/\V.heap.size<=w8.heap.size):=(⟨St.new _ _ _,hHeld.1.size⟩);refine hK.out _ _ (dA.out _ aW) (fun hHeld=>?_);clear hK K
    try simp only[put,sA,sB,sC]
    try simp only[kn]
    clear kk;generalize (w8.alloc (.cells (zC 101) 101))=V7 at H7 HK hHeld aW⊢;refine ba 3 (fun K hK=>?_);skip;go_simp;go_at_call 101;refine (RJ O C HO.out.2.r _ f B HK.out.2 aB cB _ hHeld.2.dm HK.out.1).mono ?_;rintro e w9 ⟨M,rfl,A4,t1,t2,t3,t4,t5,t6,vv,_⟩;have H7:Hid (St w9 101 w8.heap.size (zC 101)/\V.heap.size<=w8.heap.size):=(⟨H7.out.1.aa vv,H7.out.2⟩);have aW:Below V.heap.size V w9:=hHeld.1.trans (vv.mono hHeld.1.size);have nt:=hid (Zz A4 (show qT O C f B M from ⟨t1,t2,t3,t4,t5,t6⟩));clear A4 t1 t2 t3 t4 t5 t6 vv
    try go_wp2_with fail
    refine hK.out _ _ (dA.out _ aW) (fun hHeld=>?_);clear hK K
    try simp only[put,sA,sB,sC]
    clear aW;refine ba 4 (fun K hK=>?_);skip;go_simp;go_at_call 100;refine (Ky M C (nt.out.2.right HO.out.2.r HK.out.2) _ nt.out.1).mono ?_;rintro e ny ⟨P,g,C',rfl,we,wu,s6,vv⟩;have H7:Hid (St ny 101 w8.heap.size (zC 101)/\V.heap.size<=w8.heap.size):=(⟨H7.out.1.aa vv,H7.out.2⟩);have aW:Below V.heap.size V ny:=hHeld.1.trans (vv.mono hHeld.1.size);have jZ:=hid (Zz we (show uV O P C C' from ⟨f,B,M,g,HK.out.2,nt.out.2,wu,s6⟩));clear we wu s6 vv
    try go_wp2_with fail
    refine hK.out _ _ (dA.out _ aW) (fun hHeld=>?_);clear hK K
    try simp only[put,sA,sB,sC]
    clear aW;refine ba 6 (fun K hK=>?_);skip;refine EJ (by rfl) 101 _ _ (by rfl) w8.heap.size 101 (zC 101) P.cD (by rfl) (by rfl) H7.out.1 (by rw[jz,jZ.out.1.sz]) (by rw[gY,jZ.out.1.sz]) jZ.out.1.one ?_;have HE:=hid (Zz (db.stored (jZ.out.2.right HO.out.2.r) jZ.out.1 H7.out.1) (Zz jZ.out.2 (mQ hHeld.1 H7.out.2 P.cD)));refine hK.out _ _ (dA.out _ HE.out.2.2) (fun hHeld=>?_);clear hK K
    try simp only[put,sA,sB,sC]
    refine wpAnyH_done (by kernel_rfl) ?_ _;clear hHeld;go_wp2_with fail
    go_meet
    exact⟨_,P,C',rfl,HE.out⟩
   exact AllReadyH.nil
  refine ir (fun K hK=>?_) ?_
  ·skip;refine DY (by rfl) 101 (by rfl) (zC 101) (nE _) ?_;have kk:=al V.drew (.cells (zC 101) 101);have aW:Below V.heap.size V (V.drew.alloc (.cells (zC 101) 101)):=hHeld.1.trans (kk.mono hHeld.1.size);have H7:Hid (St (V.drew.alloc (.cells (zC 101) 101)) 101 V.heap.size (zC 101)/\V.heap.size<=V.heap.size):=(⟨St.new _ _ _,hHeld.1.size⟩);refine hK.out _ _ (dA.out _ aW) (fun hHeld=>?_);clear hK K
   try simp only[put,sA,sB,sC]
   try simp only[kn]
   clear kk;generalize (V.drew.alloc (.cells (zC 101) 101))=V7 at H7 hHeld aW⊢;refine ba 2 (fun K hK=>?_);skip;go_simp;go_at_call 102;refine (Yd O C HO.out.2.r _ hHeld.2.dm).mono ?_;rintro e w8 ⟨f,B,aB,cB,rfl,ho,F0,vv⟩;have H7:Hid (St w8 101 V.heap.size (zC 101)/\V.heap.size<=V.heap.size):=(⟨H7.out.1.aa vv,H7.out.2⟩);have aW:Below V.heap.size V w8:=hHeld.1.trans (vv.mono hHeld.1.size);have HK:=hid (Zz (SM ho) F0);clear ho F0 vv
   try go_wp2_with fail
   refine hK.out _ _ (dA.out _ aW) (fun hHeld=>?_);clear hK K
   try simp only[put,sA,sB,sC]
   clear aW;refine ba 3 (fun K hK=>?_);skip;go_simp;go_at_call 101;refine (RJ O C HO.out.2.r _ f B HK.out.2 aB cB _ hHeld.2.dm HK.out.1).mono ?_;rintro e w9 ⟨M,rfl,A4,t1,t2,t3,t4,t5,t6,vv,_⟩;have H7:Hid (St w9 101 V.heap.size (zC 101)/\V.heap.size<=V.heap.size):=(⟨H7.out.1.aa vv,H7.out.2⟩);have aW:Below V.heap.size V w9:=hHeld.1.trans (vv.mono hHeld.1.size);have nt:=hid (Zz A4 (show qT O C f B M from ⟨t1,t2,t3,t4,t5,t6⟩));clear A4 t1 t2 t3 t4 t5 t6 vv
   try go_wp2_with fail
   refine hK.out _ _ (dA.out _ aW) (fun hHeld=>?_);clear hK K
   try simp only[put,sA,sB,sC]
   clear aW;refine ba 4 (fun K hK=>?_);skip;go_simp;go_at_call 100;refine (Ky M C (nt.out.2.right HO.out.2.r HK.out.2) _ nt.out.1).mono ?_;rintro e ny ⟨P,g,C',rfl,we,wu,s6,vv⟩;have H7:Hid (St ny 101 V.heap.size (zC 101)/\V.heap.size<=V.heap.size):=(⟨H7.out.1.aa vv,H7.out.2⟩);have aW:Below V.heap.size V ny:=hHeld.1.trans (vv.mono hHeld.1.size);have jZ:=hid (Zz we (show uV O P C C' from ⟨f,B,M,g,HK.out.2,nt.out.2,wu,s6⟩));clear we wu s6 vv
   try go_wp2_with fail
   refine hK.out _ _ (dA.out _ aW) (fun hHeld=>?_);clear hK K
   try simp only[put,sA,sB,sC]
   clear aW;refine ba 6 (fun K hK=>?_);skip;refine EJ (by rfl) 101 _ _ (by rfl) V.heap.size 101 (zC 101) P.cD (by rfl) (by rfl) H7.out.1 (by rw[jz,jZ.out.1.sz]) (by rw[gY,jZ.out.1.sz]) jZ.out.1.one ?_;have HE:=hid (Zz (db.stored (jZ.out.2.right HO.out.2.r) jZ.out.1 H7.out.1) (Zz jZ.out.2 (mQ hHeld.1 H7.out.2 P.cD)));refine hK.out _ _ (dA.out _ HE.out.2.2) (fun hHeld=>?_);clear hK K
   try simp only[put,sA,sB,sC]
   refine wpAnyH_done (by kernel_rfl) ?_ _;clear hHeld;go_wp2_with fail
   go_meet
   exact⟨_,P,C',rfl,HE.out⟩
  exact AllReadyH.nil
 case rest=>
  obtain⟨b5,P,C',rfl,ME,PN,IP⟩:=hcut;have HP:=hid (Zz ME (Zz PN IP));have H5:Hid (St wc 101 b2 (zC 101)/\Below b0 w wc/\b0<=wc.heap.size):=⟨H4.out.1.aa IP,H4.out.2.1.trans (IP.mono H4.out.2.2),by have:=H4.out.2.2;have:=IP.size;omega⟩
  obtain⟨k2,vT,CC⟩:=Ti (HP.out.2.1.right HO.out.2.r);have HOr:=hid (YX P C' _ k2 rfl vT CC wc HP.out.1.dm (HP.out.2.1.right HO.out.2.r));have Bj:=hid (Zz vT CC);clear ME PN IP vT CC;go_wp2_with (refine nI (by rfl) 101 _ rfl ⟨b5,0,none⟩ rfl P.cD _ HP.out.1.st.part underlying101 rfl HP.out.1.dm.info ?_);refine HOr.out.mono ?_;rintro e wX ⟨X,rfl,QJ,t1,t2,t3,t4,t5,t6,bX,_⟩;have HX:=hid (uV.mn HO.out.2.r HO.out.2.ord HO.out.2.D3 HP.out.2.1 rfl Bj.out.1 Bj.out.2 (X:=X) ⟨t1,t2,t3,t4,t5,t6⟩);have KR:=hid QJ;have HXn:Hid (X.n<=D.n):=by have h1:=HP.out.2.1.le;have h2:=HO.out.2.le;have h3:=Bj.out.2;show X.n<=D.n;omega
  have iH:=hid (H5.out.1.aa bX);have HF:Hid (Yx D w (.returned (.tuple #[.agg X.cD,.int .i64 0])) (wX.setRow b2 X.cD)):=by
   have hb:Below w.heap.size w wX:=by
    have h:=H5.out.2.1.trans (bX.mono H5.out.2.2);rw[Hb.out.1];exact h
   refine⟨X,C',rfl,(db.stored HX.out.1.r QJ iH.out).dm,HX.out.1,HX.out.2.trans HO.out.2.wI,HXn.out,mQ hb (by have:=Hb.out.2;omega) _⟩
  clear QJ t1 t2 t3 t4 t5 t6 bX HOr;go_wp2_with (refine o8 rfl 101 _ _ rfl b2 101 (zC 101) X.cD rfl rfl iH.out (by rw[jz,KR.out.sz]) (by rw[gY,KR.out.sz]) KR.out.one ?_);refine bodyPost_ret (Ds rfl _ _ b2 X.cD _ rfl iH.out.setRow.part underlying101 rfl (by rw[gY,KR.out.sz])) rfl ?_;exact HF.out
end Go.Proofs.YtiijebameffenaaGreat
