import Derived.Test.YtiijebameffenaaGreatZMUniq
import Derived.Test.YtiijebameffenaaGreatZPBy
import Derived.Laws.MakeOwn
set_option linter.all false
set_option maxHeartbeats 4000000
set_option maxRecDepth 100000
open Go.Lib (hid)
namespace Go.Proofs.YtiijebameffenaaGreat
open Go.RowKit Go.Maps Go.WideElems Go.ChangeMaps Go.MapKept Go.Proofs.Tryz
open Instr (fill lookup makeMap makeSlice mapUpdate)
open List (getD_eq_getElem?_getD getElem?_append_left getElem?_eq_getElem getElem_of_mem length_append length_map map_append mem_of_getElem? range range_succ replicate set_cons_succ set_cons_zero)
open Or (inl inr)
open Nat (le_refl zero_le)
open Act (put)
open IntKind (signed wrap)
variable {B C C' bM i k n:Nat}{D O P:Dd}{W0 w w' w1:World}{a:Option Addr}{cs:Array Value}{f g:Nat->Nat}{l nm:List Nat}{t:TypeId}{u v v':Value}
theorem SD(n:Nat)(hn:n<=1000000)(W:World):(makeSlice 43 (.int .i64 0) (.int .i64 (n:Int))).run prog W=.ok (.slice (some ⟨W.heap.size,0,none⟩) 0 n) (W.alloc (.cells (madeCells #[.int .i64 0] n) 3)):=by
 obtain⟨i0,hi,dF,cY,cO⟩:=info_parts az;have h:=run_makeSlice (P:=prog) W 43 3 i0 (.int .i64 0) underlying43 hi dF .i64 .i64 0 (n:Int) (by omega) (by omega) (by rw[cY];simp;omega) (by rw[cO];omega) (by omega);have e:(Value.int .i64 0).cells=#[.int .i64 0]:=rfl;rw[cY,e] at h;simpa using h
def dY(w:World)(k:TypeId)(b n:Nat)(Q:Value->Value->Prop):Prop:=
 ∃es clock,w.heap[b]?=some (.map es clock)/\Fit prog k fj es clock/\es.size=n/\(∀e∈es.toList,Q e.key e.val)/\∀x y,Q x y->∃e∈es.toList,e.key=x
theorem dY.ex{k:TypeId}{b:Nat}{Q:Value->Value->Prop}(h:dY w k b n Q):aD w k b n Q:=by
 obtain⟨es,clock,h1,h2,h3,h4⟩:=h;exact⟨es,clock,h1,h2,by omega,h4⟩
theorem dY.made(w:World)(k:TypeId)(Q:Value->Value->Prop)(h0:∀x y,¬Q x y):dY (w.alloc (.map #[] 0)) k w.heap.size 0 Q:=
 ⟨#[],0,(MapKept.heap_alloc w _).1,⟨by simp,stamped_empty 0,by simp⟩,rfl,by simp,fun x y h=>absurd h (h0 x y)⟩
theorem dY.lt{k:TypeId}{b:Nat}{Q:Value->Value->Prop}(h:dY w k b n Q):b<w.heap.size:=h.ex.lt
theorem dY.same{k:TypeId}{b:Nat}{Q:Value->Value->Prop}(h:dY w k b n Q)(e:w'.heap[b]?=w.heap[b]?):dY w' k b n Q:=by
 obtain⟨es,clock,hb,r⟩:=h;exact⟨es,clock,e.trans hb,r⟩
theorem dY.af{t' size b N:Nat}{xs:List Value}{Q:Value->Value->Prop}(h:dY w k b N Q)(ho:w.ownsRow B t' size v n xs)(hg:w.grownBy w' v.ownBlock):dY w' k b N Q:=by
 refine h.same (hg.block b h.lt (fun e=>?_));obtain⟨c,fz,hc⟩:=pG ho b e.symm;obtain⟨es,clock,hb,_⟩:=h;rw[hc] at hb;cases hb
theorem dY.len{k ty:TypeId}{b:Nat}{Q:Value->Value->Prop}(h:dY w k b n Q)(ht:prog.underlying t=some (.map (prog.mapKeyOf t) (prog.mapElemOf t))):(Builtin.len_ #[t] ty #[.map (some b)]).run prog w=.ok (.int .i64 (n:Int)) w:=by
 obtain⟨es,clock,hb,_,hs,_⟩:=h;rw[Go.run_len_map w t ty b es clock ht hb,hs];rfl
theorem dY.update{k e:TypeId}{b:Nat}{Q Q':Value->Value->Prop}(h:dY w k b n Q)(K:Keyed prog k)(ht:prog.underlying t=some (.map k e))(hn:n<maxLen)
  {key val:Value}{kl:Lit}(ek:keyOf prog k key=some kl) (jK:∀y,¬Q key y) (hQ:∀x y,Q x y->Q' x y) (hv:Q' key val) (mq:∀x y,Q' x y->x≠key->∃y',Q x y'):
  ∃w',(mapUpdate t (.map (some b)) key val).run prog w=.ok () w'/\dY w' k b (n+1) Q'/\w.grownBy w' (some b):=by
 obtain⟨es,clock,hb,F,hs,hq,ea⟩:=h;have iG:∀x∈es.toList,x.key≠key:=fun x hx e0=>jK x.val (by rw[<-e0];exact hq x hx)
 obtain⟨F1,_,_⟩:=F.stay (R':=fj) (fun x hx z hz=>hz);have Eu:WideElems.rd prog k fj ⟨key,val,clock⟩=some (kl,.held val):=by unfold WideElems.rd fj;rw[ek];rfl
 rcases K.find w ek es.toList F.keys with ⟨h1,h2⟩|⟨j,e0,h1,h2,h3⟩
 ·refine⟨setBlock w b (.map (es.push ⟨key,val,clock⟩) (clock+1)),?_,⟨es.push ⟨key,val,clock⟩,clock+1,heap_setBlock_same hb _,⟨by simp;omega,stamped_push F.stamped h2,?_⟩,by simp;omega,fun x hx=>?_,fun x y hx=>?_⟩,⟨rfl,rfl,rfl,by simp[setBlock],fun i _ hi=>heap_setBlock_other hb _ (fun e=>hi (by rw[e]))⟩⟩
  ·simp[mapUpdate,run_underlying ht,MapKept.run_getObj_map hb,K.check w false ek,h1,MapKept.run_setObj_map _ hb,Result.andThen,setBlock]
  ·intro x hx;simp only[Array.toList_push,List.mem_append,List.mem_singleton] at hx;rcases hx with hx|rfl
   ·exact F1.reads x hx
   exact⟨_,Eu⟩
  ·simp only[Array.toList_push,List.mem_append,List.mem_singleton] at hx;rcases hx with hx|rfl
   ·exact hQ _ _ (hq x hx)
   exact hv
  by_cases e0:x=key
  ·exact⟨⟨key,val,clock⟩,by rw[Array.toList_push];exact List.mem_append_right _ (List.mem_singleton.2 rfl),e0.symm⟩
  obtain⟨y',hy⟩:=mq x y hx e0;obtain⟨e1,h4,h5⟩:=ea x y' hy;exact⟨e1,by rw[Array.toList_push];exact List.mem_append_left _ h4,h5⟩
 exact absurd h3 (iG e0 (mem_of_getElem? h2))
theorem WT(n:Nat)(hn:n<=1000000)(W:World)(B:Nat)(hB:B<=W.heap.size):(W.alloc (.cells (madeCells #[.int .i64 0] n) 3)).ownsRow B 3 1 (.slice (some ⟨W.heap.size,0,none⟩) 0 n) 0 []:=
 World.ownsRow_made W _ n hB (by unfold maxLen;omega) (by have:=size_madeCells #[Value.int .i64 0] n;simpa using this)
def zoM(l:List Nat)(n:Nat)(w:World)(e:Ending)(w':World):Prop:=
 ∃(f:Nat->Nat) (B:Nat) (a:Option Addr) (c:Nat),e=.returned (.slice a n c)/\w'.ownsRow w.heap.size 3 1 (.slice a n c) n (cy ((range n).map f))/\eZ (fun i j=>l.getD i 0=l.getD j 0) n f B/\Below w.heap.size w w'
structure rO (W0:World)(l:List Nat)(bM k:Nat)(v:Value)(nm:List Nat)(f:Nat->Nat)(w:World):Prop where
 below:Below W0.heap.size W0 w
 map:dY w 3 bM nm.length (yu nm)
 own:w.ownsRow W0.heap.size 3 1 v k (cy ((range k).map f))
 at_:∀i,i<k->nm[f i]?=some (l.getD i 0)
 num:eZ (fun i j=>l.getD i 0=l.getD j 0) k f nm.length
 lo:W0.heap.size<=bM
 nk:nm.length<=k
theorem rO.mem(h:rO W0 l bM k v nm f w)(y:Nat):y∈nm↔∃i,i<k/\l.getD i 0=y:=by
 constructor
 ·intro hm;obtain⟨b,hb,e⟩:=getElem_of_mem hm;obtain⟨i,h1,h2,_⟩:=h.num.new b hb;refine⟨i,h1,?_⟩;have:=h.at_ i h1;rw[h2,getElem?_eq_getElem hb,e] at this;exact (Option.some.inj this).symm
 rintro⟨i,hi,rfl⟩;exact mem_of_getElem? (h.at_ i hi)
theorem Ro(f:Nat->Nat)(k b:Nat):cy ((range (k+1)).map fun i=>if i=k then b else f i)=cy ((range k).map f)++[.int .i64 (b:Int)]:=by
 rw[range_succ,map_append,cy,map_append];congr 1
 ·unfold cy;congr 1;refine List.map_congr_left fun i hi=>?_
  have:=List.mem_range.1 hi;rw[if_neg (by omega)]
 simp
theorem zgn(W:World):(makeMap 191 none).run prog W=.ok (.map (some W.heap.size)) (W.alloc (.map #[] 0)):=by
 kernel_rfl
theorem rO.look(h:rO W0 l bM k v nm f w)(hk:l.getD k 0<=1000000):
  (∃b,nm[b]?=some (l.getD k 0)/\(lookup 191 (.map (some bM)) (.int .i64 ((l.getD k 0:Nat):Int)) true).run prog w=.ok (.tuple #[.int .i64 ((b:Nat):Int),.bool true]) w)\/
  (l.getD k 0∉nm/\(lookup 191 (.map (some bM)) (.int .i64 ((l.getD k 0:Nat):Int)) true).run prog w=.ok (.tuple #[.int .i64 0,.bool false]) w):=by
 rcases h.map.ex.ox CC underlying191 (Kl w) (JX _ (by omega:l.getD k 0<=9223372036854775807)) with ⟨bS,iG⟩|⟨v,⟨b,s,h1,h2,rfl⟩,bS⟩
 ·refine inr ⟨fun hm=>?_,bS⟩;obtain⟨b,hb,e⟩:=getElem_of_mem hm;exact iG _ ⟨b,l.getD k 0,by rw[getElem?_eq_getElem hb,e],rfl,rfl⟩
 exact inl ⟨b,by rw[PE h2];exact h1,bS⟩
theorem rO.aa(h:rO W0 l bM k v nm f w)(kk:Below w.heap.size w w1):rO W0 l bM k v nm f w1:=
 ⟨h.below.trans (kk.mono h.below.size),h.map.same (kk.block _ h.map.lt),dr h.own kk,h.at_,h.num,h.lo,h.nk⟩
theorem rO.kz{b:Nat}(h:rO W0 l bM k v nm f w)(hb:nm[b]?=some (l.getD k 0))
  (ho:w'.ownsRow W0.heap.size 3 1 v' (k+1) (cy ((range k).map f)++[.int .i64 (b:Int)])) (hg:w.grownBy w' v.ownBlock):∃f',rO W0 l bM (k+1) v' nm f' w':=by
 have eB:b<nm.length:=(List.getElem?_eq_some_iff.1 hb).1;obtain⟨i,h1,h2,_⟩:=h.num.new b eB;have hi:=h.at_ i h1;rw[h2,hb] at hi;have hi:=Option.some.inj hi;refine⟨fun j=>if j=k then b else f j,fA h.below h.own h.below.size hg,h.map.af h.own hg,by rw[Ro];exact ho,fun j hj=>?_,?_,h.lo,by have:=h.nk;omega⟩
 ·by_cases e:j=k
  ·simp only[if_pos e];rw[e];exact hb
  simp only[if_neg e];exact h.at_ j (by omega)
 have:=h.num.kz (fun i j e=>e.symm) (fun i j l e e2=>e.trans e2) (fun i=>rfl) h1 hi.symm;rw[h2] at this;exact this
theorem rO.fresh(h:rO W0 l bM k v nm f w)(hb:l.getD k 0∉nm)(hm:dY w1 3 bM (nm.length+1) (yu (nm++[l.getD k 0])))(gV:w.grownBy w1 (some bM))
  (w2:World) (k2:Below w1.heap.size w1 w2) (hg:w2.grownBy w' v.ownBlock) (ho:w'.ownsRow W0.heap.size 3 1 v' (k+1) (cy ((range k).map f)++[.int .i64 (nm.length:Int)])):∃f',rO W0 l bM (k+1) v' (nm++[l.getD k 0]) f' w':=by
 have ln:Below W0.heap.size W0 w1:=h.below.grown gV h.below.size (fun g e=>by injection e with e;rw[<-e];exact h.lo);have ma:=ln.trans (k2.mono ln.size);have o2:=dr (yi h.own h.map.ex.of gV) k2;have m2:=hm.same (k2.block _ hm.lt);refine⟨fun j=>if j=k then nm.length else f j,fA ma o2 ma.size hg,by rw[length_append];exact m2.af o2 hg,by rw[Ro];exact ho,fun j hj=>?_,?_,h.lo,by have:=h.nk;simp;omega⟩
 ·by_cases e:j=k
  ·simp only[if_pos e];rw[e];simp
  simp only[if_neg e];have:=h.at_ j (by omega);rw[getElem?_append_left (List.getElem?_eq_some_iff.1 this).1];exact this
 have:=h.num.fresh (fun i j e=>e.symm) (fun i=>rfl) (fun i hi e=>hb ((h.mem _).2 ⟨i,hi,e⟩));rw[length_append];exact this
theorem znJ{x:Nat}(h:dY w 3 bM nm.length (yu nm))(hx:x<=1000000)(hn:nm.length<maxLen)(hb:x∉nm):
  ∃w',(mapUpdate 191 (.map (some bM)) (.int .i64 (x:Int)) (.int .i64 (nm.length:Int))).run prog w=.ok () w'/\dY w' 3 bM (nm.length+1) (yu (nm++[x]))/\w.grownBy w' (some bM):=by
 refine h.update CC underlying191 hn (JX _ (by omega)) ?_ ?_ ?_ ?_
 ·rintro y ⟨k,s,h1,h2,_⟩;rw[<-PE h2] at h1;exact hb (mem_of_getElem? h1)
 ·rintro a b ⟨k,s,h1,h2,h3⟩;exact⟨k,s,by rw[getElem?_append_left (List.getElem?_eq_some_iff.1 h1).1];exact h1,h2,h3⟩
 ·exact⟨nm.length,x,by simp,rfl,rfl⟩
 rintro a b ⟨k,s,h1,h2,h3⟩ hne;by_cases e:k<nm.length
 ·rw[getElem?_append_left e] at h1;exact⟨b,k,s,h1,h2,h3⟩
 rw[List.getElem?_append_right (by omega)] at h1;cases hj:k-nm.length with
 | zero=>rw[hj] at h1;simp at h1;exact absurd (by rw[h2,h1]) hne
 | succ j=>rw[hj] at h1;simp at h1
theorem zfu(l:List Nat)(n:Nat)(hl:l.length=n)(hn:n<=100000)(hb:∀x∈l,x<=1000000)(a:Option Addr)(c:Nat)(w:World)(hL:mV w a l):Calls prog 133 #[.slice a n c] w (zoM l n w):=by
 have iD:=zgn;have iP:=SD n (by omega);have HX:=hid (Zz hl (Zz hb hL));clear hl hb hL;go_enter func133,ntmps133;go_upto_region 3 with fail;obtain⟨bM,qI⟩:∃bM,w.heap.size+1=bM:=⟨_,rfl⟩
 obtain⟨b0,aY⟩:∃b0,w.heap.size=b0:=⟨_,rfl⟩
 obtain⟨W2,lk⟩:∃W2,(w.alloc (.cells (madeCells #[.int .i64 0] n) 3)).alloc (.map #[] 0)=W2:=⟨_,rfl⟩
 have dp:(w.alloc (.cells (madeCells #[.int .i64 0] n) 3)).heap.size=bM:=by rw[<-qI];simp
 have k1:=al w (.cells (madeCells #[.int .i64 0] n) 3);have k2:=al (w.alloc (.cells (madeCells #[.int .i64 0] n) 3)) (.map #[] 0);have jU:rO w l bM 0 (.slice (some ⟨b0,0,none⟩) 0 n) [] (fun _=>0) W2:=by
  have hO:=dr (WT n (by omega) w w.heap.size (le_refl _)) k2;rw[lk,aY] at hO;refine⟨by rw[<-lk];exact k1.trans (k2.mono (by simp)),?_,by rw[aY];exact hO,fun i hi=>absurd hi (by omega),eZ.zero _,by omega,by simp⟩;have:=dY.made (w.alloc (.cells (madeCells #[.int .i64 0] n) 3)) 3 (yu []) (fun x y h=>by
   obtain⟨k,s,h1,_⟩:=h
   simp at h1)
  rw[lk,dp] at this;exact this
 have tJ:=hid jU;clear jU k1 k2
 try rw[qI]
 try rw[lk]
 try rw[aY]
 have Hb:=hid (Zz qI aY);clear qI aY lk dp;go_wp2;go_loopw [3,6,7,8,15] (fun v3 _ _ _ vk wr=>∃k:Nat,vk=.int .i64 k/\k<=n/\(∃a3 c3,v3=.slice a3 k c3)/\Hid (∃nm f,rO w l bM k v3 nm f wr)) (fun _ _ _ _ v _=>n-(intOf v).toNat)
 ·exact⟨0,rfl,zero_le _,⟨_,_,rfl⟩,_,_,tJ.out⟩
 obtain⟨k,rfl,hk,⟨a3,c3,rfl⟩,HL⟩:=hrel;by_cases av:k<n
 ·obtain⟨nm,f,hI⟩:=HL.out;obtain⟨g,off,rfl,hg,hc⟩:=HX.out.2.2 (by have:=HX.out.1;omega);have d0:=(hI.below.cell (p:=⟨g,off+k,none⟩) hg).trans (hc k (by have:=HX.out.1;omega));simp only[] at d0;have uR:l.getD k 0<=1000000:=by
   by_cases e:k<l.length
   ·rw[getD_eq_getElem?_getD,getElem?_eq_getElem e];exact HX.out.2.1 _ (List.getElem_mem e)
   rw[getD_eq_getElem?_getD,List.getElem?_eq_none (by omega)];simp
  have dG:=hI.look uR;have i1:(k:Int)<n:=by omega
  have Ff:=hI.nk;obtain⟨m,hm⟩:∃m,nm.length=m:=⟨_,rfl⟩
  obtain⟨i0,hi,dF,cY,cO⟩:=info_parts az;have rz:=hI.below.size;have HI:=hid hI;have hlen:=hI.map.len (ty:=3) (t:=191) (by rw[underlying191];rfl);rw[hm] at Ff hlen;clear hc hg hI HL;rcases dG with ⟨b,hb,bS⟩|⟨hb,bS⟩
  ·have Hb:=hid hb;clear hlen hb;obtain⟨x,hx⟩:∃x,l.getD k 0=x:=(⟨_,rfl⟩);rw[hx] at d0 bS uR;go_wp2_with (at_builtin;refine wpList_append_own_at _ rfl _ _ 43 rfl w.heap.size 3 i0 (.int .i64 0) 1 8 underlying43 hi dF cY cO rfl (by decide) _ _ _ rfl (HI.out.own.alloc _) ⟨wr.heap.size,0,none⟩ 1 1 [.int .i64 (b:Int)] rfl rfl (cell_one_new _ _ _) ?d2 ?d3 ?d4 ?d5 ?_)
   case d2=>first|(intro u hu;simp at hu;subst hu;rfl)|rfl
   case d3=>unfold maxLen;omega
   case d4=>omega
   case d5=>first|(simp;omega)|omega
   intro v' w5 an aj _ bw;obtain⟨a5,c5,rfl⟩:=bE an;have HF:=hid ((HI.out.aa (al wr (.cells #[.int .i64 (b:Int)] 3))).kz Hb.out an aj);clear an aj bw;go_wp2;go_roundw
   ·exact⟨k+1,by go_num,by omega,⟨_,_,rfl⟩,nm,HF.out⟩
   simp[intOf];omega
  obtain⟨w1,xx,mJ,gV⟩:=znJ HI.out.map uR (by unfold maxLen;omega) hb;have O9:=hid (Zz hb (Zz mJ gV));have AZ:=yi HI.out.own HI.out.map.ex.of gV;rw[hm] at xx;have On:=(HI.out.below.grown gV rz (fun g e=>by injection e with e;rw[<-e];exact HI.out.lo)).size;clear mJ gV hb;obtain⟨x,hx⟩:∃x,l.getD k 0=x:=⟨_,rfl⟩
  rw[hx] at d0 bS uR xx;go_wp2_with (at_builtin;refine wpList_append_own_at _ rfl _ _ 43 rfl w.heap.size 3 i0 (.int .i64 0) 1 8 underlying43 hi dF cY cO rfl (by decide) _ _ _ rfl (AZ.alloc _) ⟨w1.heap.size,0,none⟩ 1 1 [.int .i64 (m:Int)] rfl rfl (cell_one_new _ _ _) ?d2 ?d3 ?d4 ?d5 ?_)
  case d2=>first|(intro u hu;simp at hu;subst hu;rfl)|rfl
  case d3=>unfold maxLen;omega
  case d4=>omega
  case d5=>first|(simp;omega)|omega
  intro v' w5 an aj _ bw;obtain⟨a5,c5,rfl⟩:=bE an;have HF:=hid (HI.out.fresh O9.out.1 O9.out.2.1 O9.out.2.2 _ (al w1 (.cells #[.int .i64 (m:Int)] 3)) aj (by rw[hm];exact an));clear an aj bw AZ;go_wp2;go_roundw
  ·exact⟨k+1,by go_num,by omega,⟨_,_,rfl⟩,_,HF.out⟩
  simp[intOf];omega
 obtain rfl:k=n:=by omega
 obtain⟨nm,f,hI⟩:=HL.out;have HI:=hid hI;clear hI HL;go_wp2;go_ret;exact⟨f,nm.length,a3,c3,rfl,HI.out.own,HI.out.num,HI.out.below⟩
def Rf(D:Dd)(C:Nat)(w:World)(e:Ending)(w':World):Prop:=
 ∃(f:Nat->Nat) (B:Nat) (a:Option Addr) (c:Nat),e=.returned (.slice a D.n c)/\w'.ownsRow w.heap.size 3 1 (.slice a D.n c) D.n (cy ((range D.n).map f))/\eZ (ku C (tD D) (mD D)) D.n f B/\Below w.heap.size w w'
theorem mV.IE(h:mV w a l)(n:Nat)(hn:n<=l.length):mV w a (l.take n):=by
 intro h0;have e:(l.take n).length=n:=by rw[List.length_take];omega
 rw[e] at h0;obtain⟨g,off,e1,hg,hc⟩:=h (by omega);refine⟨g,off,e1,hg,fun j hj=>?_⟩;rw[e] at hj;rw[hc j (by omega)];simp only[];rw[getD_eq_getElem?_getD,getD_eq_getElem?_getD,List.getElem?_take_of_lt hj]
theorem eZ.rel{R R':Nat->Nat->Prop}(h:eZ R n f B)(e:∀i j,i<n->j<n->(R i j↔R' i j)):eZ R' n f B:=
 ⟨fun i j hi hj=>(h.same i j hi hj).trans (e i j hi hj),h.lt,h.new⟩
theorem XC(D:Dd)(C:Nat)(hR:DR D C)(w:World)(hD:DM w D):Calls prog 102 #[.agg D.cD] w (Rf D C w):=by
 have HB:=hid (Zz (cZ.new hD) (Zz (al w (.cells D.cD 101)) hR));clear hD hR;go_enter func102,ntmps102;go_upto_region 1 with fail;generalize w.alloc (.cells D.cD 101)=W0 at HB⊢;obtain⟨b0,aY⟩:∃b0,w.heap.size=b0:=⟨_,rfl⟩
 rw[aY] at HB;rw[aY];have dW:=hid aY;have Jm:b0<=W0.heap.size:=by have:=HB.out.2.1.size;omega
 clear aY;have sf:=hid (Fh D C HB.out.2.2 W0 HB.out.1.dm);go_wp2_with (refine nO (by rfl) 101 _ rfl ⟨b0,0,none⟩ rfl D.cD _ HB.out.1.st.part underlying101 rfl HB.out.1.dm.info ?_);refine sf.out.mono ?_;rintro e w1 ⟨rfl,b1⟩;have H1:=hid (Zz (HB.out.1.aa b1) (HB.out.2.1.trans (b1.mono Jm)));have eU:b0<=w1.heap.size:=by have:=b1.size;omega
 have V9:=hid (zgo D C HB.out.2.2 w1 H1.out.1.dm);clear b1 sf;go_wp2_with (refine nO (by rfl) 101 _ rfl ⟨b0,0,none⟩ rfl D.cD _ H1.out.1.st.part underlying101 rfl H1.out.1.dm.info ?_);refine V9.out.mono ?_;rintro e w2 ⟨bl,a,c,rfl,eB,Is,hc,hO,heq,b2⟩;have H2:=hid (Zz (H1.out.1.aa b2) (H1.out.2.trans (b2.mono eU)));have bZ:b0<=w2.heap.size:=by have:=b2.size;omega
 have dk:=HB.out.2.2.n2;have vw:(bl.take D.n).length=D.n:=by rw[List.length_take];omega
 have BV:=hid (zfu (bl.take D.n) D.n vw (by omega) (fun x hx=>by have:=Is x (List.mem_of_mem_take hx);omega) a c w2 ((tU hO eB).IE D.n (by omega)));have Heq:Hid (∀i j,i<D.n->j<D.n->((bl.take D.n).getD i 0=(bl.take D.n).getD j 0↔ku C (tD D) (mD D) i j)):=by
  show ∀i j,_;intro i j hi hj;rw[<-heq i j (by omega) (by omega)];simp only[getD_eq_getElem?_getD,List.getElem?_take_of_lt hi,List.getElem?_take_of_lt hj]
 have f1:=H2.out.1.f1;have i1:(D.n:Int)<=(c:Int):=by omega
 have pt:D.n<=c:=by omega
 clear b2 V9 hO heq Is eB vw;go_wp2_with fail;refine BV.out.mono ?_;rintro e w3 ⟨f,B,a3,c3,rfl,Xp,I7,b3⟩;have HF:Hid (Rf D C w (.returned (.slice a3 D.n c3)) w3):=by
  refine⟨f,B,a3,c3,rfl,jL Xp (by rw[dW.out];exact bZ),I7.rel Heq.out,?_⟩;rw[dW.out];exact H2.out.2.trans (b3.mono bZ)
 clear Xp I7 b3;go_wp2;go_ret;exact HF.out
theorem SV{c:Nat}(h:w.ownsRow B 3 1 (.slice a n c) n (cy ((range n).map f))):kv w a n (fun i=>((f i:Nat):Int)):=by
 intro h0;obtain⟨g,e,h1,h2,h3⟩:=fa h h0;refine⟨g,0,e,h2,fun j hj=>?_⟩;have:=(h3 j (by omega)).1;rw[Nat.zero_add,this];simp[cy,hj]
def XY(z:Nat->Int)(l:List Nat)(m:Nat)(w:World)(e:Ending)(w':World):Prop:=
 ∃(a:Option Addr) (c:Nat),e=.returned (.slice a m c)/\w'.ownsRow w.heap.size 3 1 (.slice a m c) m (ints (l.map z))/\Below w.heap.size w w'
theorem zjX(z:Nat->Int)(l:List Nat)(k:Nat)(hk:k<l.length):ints ((l.take (k+1)).map z)=ints ((l.take k).map z)++[.int .i64 (z (l.getD k 0))]:=by
 rw[List.take_succ_eq_append_getElem hk,map_append,getD_eq_getElem?_getD,getElem?_eq_getElem hk];simp[ints]
theorem RU(z:Nat->Int)(N:Nat)(l:List Nat)(m:Nat)(hm:l.length=m)(mJ:m<=100000)(hN:N<=100000)(hl:∀x∈l,x<N)(a1 a2:Option Addr)(c1 c2:Nat)(w:World)(hZ:kv w a1 N z)(hL:mV w a2 l):
  Calls prog 131 #[.slice a1 N c1,.slice a2 m c2] w (XY z l m w):=by
 have iP:=SD m (by omega);have HX:=hid (Zz hm (Zz hl (Zz hZ hL)));clear hm hl hZ hL;go_enter func131,ntmps131;go_upto_region 2 with fail;obtain⟨b0,aY⟩:∃b0,w.heap.size=b0:=⟨_,rfl⟩
 obtain⟨W2,lk⟩:∃W2,w.alloc (.cells (madeCells #[.int .i64 0] m) 3)=W2:=⟨_,rfl⟩
 have k1:=al w (.cells (madeCells #[.int .i64 0] m) 3);have hO:=WT m (by omega) w w.heap.size (le_refl _);rw[lk] at hO k1;have tJ:Hid (Below w.heap.size w W2/\W2.ownsRow w.heap.size 3 1 (.slice (some ⟨b0,0,none⟩) 0 m) 0 (ints ((l.take 0).map z))):=⟨k1,by rw[<-aY];simpa [ints] using hO⟩
 clear hO k1
 try rw[lk]
 try rw[aY]
 have Hb:=hid aY;clear aY lk;go_wp2;go_loopw [5,7,13] (fun v5 _ vk wr=>∃k:Nat,vk=.int .i64 k/\k<=m/\(∃a c,v5=.slice a k c)/\Hid (Below w.heap.size w wr/\wr.ownsRow w.heap.size 3 1 v5 k (ints ((l.take k).map z)))) (fun _ _ v _=>m-(intOf v).toNat)
 ·exact⟨0,rfl,zero_le _,⟨_,_,rfl⟩,tJ.out⟩
 clear tJ;obtain⟨k,rfl,hk,⟨a5,c5,rfl⟩,HL⟩:=hrel;by_cases av:k<m
 ·have hkl:k<l.length:=by have:=HX.out.1;omega
  obtain⟨g,off,rfl,hg,hc⟩:=HX.out.2.2.2 (by omega);have d0:=(HL.out.1.cell (p:=⟨g,off+k,none⟩) hg).trans (hc k hkl);simp only[] at d0;have hx:l.getD k 0<N:=by
   rw[getD_eq_getElem?_getD,getElem?_eq_getElem hkl];exact HX.out.2.1 _ (List.getElem_mem hkl)
  obtain⟨g1,PV,rfl,gV,pt⟩:=HX.out.2.2.1 (by omega);have d1:=(HL.out.1.cell (p:=⟨g1,PV+l.getD k 0,none⟩) gV).trans (pt _ hx);have HE:=hid (zjX z l k hkl);have rz:=HL.out.1.size;obtain⟨i0,vd,dF,cY,cO⟩:=info_parts az;have i1:(k:Int)<m:=by omega
  clear hc hg pt gV;obtain⟨x,Ci⟩:∃x,l.getD k 0=x:=⟨_,rfl⟩
  rw[Ci] at d0 d1 hx HE;obtain⟨y,DO⟩:∃y,z x=y:=⟨_,rfl⟩
  rw[DO] at d1 HE;clear Ci DO;have i2:(x:Int)<N:=by omega
  have zi:=HL.out.2;go_wp2_with (at_builtin;refine wpList_append_own_at _ rfl _ _ 43 rfl w.heap.size 3 i0 (.int .i64 0) 1 8 underlying43 vd dF cY cO rfl (by decide) _ _ _ rfl (zi.alloc _) ⟨wr.heap.size,0,none⟩ 1 1 [.int .i64 y] rfl rfl (cell_one_new _ _ _) ?d2 ?d3 ?d4 ?d5 ?_)
  case d2=>first|(intro u hu;simp at hu;subst hu;rfl)|rfl
  case d3=>unfold maxLen;omega
  case d4=>omega
  case d5=>first|(simp;omega)|omega
  intro v' w5 an aj _ bw;obtain⟨a6,c6,rfl⟩:=bE an;have HF:Hid (Below w.heap.size w w5/\w5.ownsRow w.heap.size 3 1 (.slice a6 (k+1) c6) (k+1) (ints ((l.take (k+1)).map z))):=by
   have k9:=al wr (.cells #[.int .i64 y] 3);exact⟨fA (HL.out.1.trans (k9.mono rz)) (dr HL.out.2 k9) (by simp;omega) aj,by rw[HE.out];first|exact an|(rw[List.map_take];exact an)⟩
  clear an aj bw zi;go_wp2;go_roundw
  ·exact⟨k+1,by go_num,by omega,⟨_,_,rfl⟩,HF.out⟩
  simp[intOf];omega
 obtain rfl:k=m:=by omega
 have HF:Hid (XY z l k w (.returned (.slice a5 k c5)) wr):=by
  have e:l.take k=l:=List.take_of_length_le (by have:=HX.out.1;omega);have h:=HL.out;rw[e] at h;exact⟨a5,c5,rfl,h.2,h.1⟩
 clear HL;go_wp2;go_ret;exact HF.out
def pD(D:Dd)(C:Nat)(f:Nat->Nat)(l:List Nat):List (List Int):=l.map fun i=>(range C).map (jR D f i)
theorem zlN{α:Type}(l:List Nat)(g:Nat->α)(n:Nat)(h:n=l.length):l.map g=(range n).map fun b=>g (l.getD b 0):=by
 subst h;apply List.ext_getElem?;intro i;by_cases hi:i<l.length
 ·simp[getD_eq_getElem?_getD,hi]
 simp[hi]
theorem Nw(D:Dd)(C:Nat)(hR:DR D C)(R:Nat->Nat->Prop)(f:Nat->Nat)(B:Nat)(hN:eZ R D.n f B)(a:Option Addr)(cp:Nat)(w:World)(hD:DM w D)(hL:kv w a D.n (fun i=>((f i:Nat):Int))):
  Calls prog 101 #[.agg D.cD,.slice a D.n cp] w (Bk D C B (fun b c=>jR D f ((bg f D.n).getD b 0) c) (fun b=>D.q ((bg f D.n).getD b 0)) w):=by
 have dk:=hR.n2;have fx:=hR.n1;have np:=hR.m;have yP:=(hR.jF hD.kl).2;have HB:=hid (Zz (cZ.new hD) (Zz (al w (.cells D.cD 101)) (Zz hR (Zz hN hL))));obtain⟨iI,hI,pT,pJ,pK⟩:=info_parts az;obtain⟨iV,hV,tI,uh,uq⟩:=info_parts dR;clear hD hR hN hL;go_enter func101,ntmps101;go_upto_region 1 with (refine rq rfl 101 rfl (zC 101) (mX _) ?_)
 try simp only[put,List.setIfInBounds_toArray,set_cons_zero,set_cons_succ,Ip]
 have H0:Hid (cZ ((w.alloc (.cells D.cD 101)).alloc (.cells (zC 101) 101)) w.heap.size D/\St ((w.alloc (.cells D.cD 101)).alloc (.cells (zC 101) 101)) 101 (w.heap.size+1) (zC 101)/\Below w.heap.size w ((w.alloc (.cells D.cD 101)).alloc (.cells (zC 101) 101))):=by
  refine⟨HB.out.1.aa (al _ _),?_,HB.out.2.1.trans ((al _ _).mono (by simp))⟩;have:=St.new (w.alloc (.cells D.cD 101)) 101 (zC 101);simpa using this
 generalize (w.alloc (.cells D.cD 101)).alloc (.cells (zC 101) 101)=Wn at H0⊢;obtain⟨b2,bZ⟩:∃b2,w.heap.size+1=b2:=⟨_,rfl⟩
 obtain⟨b0,aY⟩:∃b0,w.heap.size=b0:=⟨_,rfl⟩
 rw[bZ,aY] at H0;rw[bZ,aY];have Hb:=hid (Zz aY bZ);clear bZ aY;have sJ:=hid H0.out.1;have k5:=al Wn (.cells (zC 101) 101);have fX:St (Wn.alloc (.cells (zC 101) 101)) 101 Wn.heap.size (zC 101):=St.new _ _ _;have G7:gZ Wn Wn.heap.size D.K C (.slice none 0 0) (pD D C f (bg f 0)) (fun _=>.slice none 0 0) (.slice none 0 0) ((bg f 0).map D.q) ((Wn.alloc (.cells (zC 101) 101)).setRow Wn.heap.size (de D.K (.slice none 0 0) (.slice none 0 0))):=gZ.start (V0:=Wn) (K:=D.K) (C:=C) (ws:=fun _=>.slice none 0 0) (a:=none) (c:=0) (ms:=[]) (World.ownsRow_nil _ _ _ _) rfl k5 fX (le_refl _);have js:=hid G7;have iy:=hid fX;clear k5 fX G7;go_upto_region 2 with (first
  | (refine rD rfl 98 _ rfl ⟨b0,0,none⟩ rfl (aU D.K) (.array 256 5) sJ.out.en underlying98 rfl (yD D.K) ?_)
  | (refine CZ rfl 101 _ rfl #[(0,.agg (aU D.K))] (by first|rfl|kernel_rfl|(go_simp;done)) (.agg (de D.K (.slice none 0 0) (.slice none 0 0))) (VS D.K _) ?_)
  | (refine rq rfl 101 rfl (zC 101) (mX _) ?_)
  | (refine ph rfl 101 _ _ rfl Wn.heap.size 101 (zC 101) (de D.K (.slice none 0 0) (.slice none 0 0)) rfl rfl iy.out (by rw[jq,mc]) (by rw[gO,mc]) (vu _ _ _ _ _ _ _) ?_))
 simp only[put,sA,sB,sC];obtain⟨b4,iE⟩:∃b4,Wn.heap.size=b4:=⟨_,rfl⟩
 have EX:=hid iE;rw[iE] at js;rw[iE];generalize (Wn.alloc (.cells (zC 101) 101)).setRow b4 (de D.K (.slice none 0 0) (.slice none 0 0))=W4 at js⊢;clear iE iy;obtain⟨gL,oL,rfl,Cd,A9⟩:=HB.out.2.2.2.2 (by omega);have F4:=hid (Zz Cd A9);clear Cd A9;go_wp2;go_loopw [6,7,8,9,10,16] (fun _ _ _ _ _ v wr=>∃(i:Nat) (ws:Nat->Value) (aN aK:Option Addr) (p cN cK:Nat),v=.int .i64 i/\i<=D.n/\p<=i/\Hid (p=(bg f i).length/\gZ Wn b4 D.K C (.slice aN p cN) (pD D C f (bg f i)) ws (.slice aK p cK) ((bg f i).map D.q) wr)) (fun _ _ _ _ _ v _=>D.n-(intOf v).toNat)
 ·exact⟨0,_,none,none,0,0,0,rfl,by omega,by omega,rfl,js.out⟩
 clear js;obtain⟨i,ws,aN,aK,p,cN,cK,rfl,hi,M1,HP,HT⟩:=hrel;by_cases av:i<D.n
 ·have aZ:w.heap.size<=Wn.heap.size:=H0.out.2.2.size;have RB:Hid (∀W',Below Wn.heap.size Wn W'->∀j,j<D.n->W'.cell? ⟨gL,oL+j,none⟩=some (.int .i64 ((f j:Nat):Int))):=fun W' h j hj=>((H0.out.2.2.trans (h.mono (by rw[<-Hb.out.1];exact aZ))).cell (p:=⟨gL,oL+j,none⟩) (by rw[<-Hb.out.1];exact F4.out.1)).trans (F4.out.2 j hj)
  have d0:=RB.out wr HT.aJ i av;have fb:=HT.f1;have zc:=HB.out.2.2.2.1.bg i (by omega);have gQ:=zc.2.2 av;rw[<-HP] at gQ;have i1:(i:Int)<(D.n:Int):=by omega
  have hp32:p<=32768:=by omega
  have yU:=hid HT;have DQ:=hid HP;obtain⟨fi,KY⟩:∃fi,f i=fi:=⟨_,rfl⟩
  rw[KY] at d0 gQ;by_cases rS:fi<p
  ·have i2:(fi:Int)<p:=(by omega);have HN:Hid (p=(bg f (i+1)).length/\gZ Wn b4 D.K C (.slice aN p cN) (pD D C f (bg f (i+1))) ws (.slice aK p cK) ((bg f (i+1)).map D.q) wr):=by
    rw[Bo (by rw[KY,<-HP];exact rS)];exact⟨HP,HT⟩
   clear HP HT zc KY;go_wp2;go_roundw
   ·exact⟨i+1,ws,aN,aK,p,cN,cK,by go_num,by omega,by omega,HN.out⟩
   simp[intOf];omega
  have i2:¬((fi:Int)<p):=by omega
  have FM:bg f (i+1)=bg f i++[i]:=Cs (by rw[KY,<-HP];exact rS);have ZE:=hid FM;have Zp:=FU C (by omega);have yy:=hid (sJ.out.aa HT.aJ);have f1:=yy.out.f1;obtain⟨gN,oN,eN,mC,pM,zN⟩:=yy.out.dm.row i av;rw[eN] at f1;rw[HB.out.2.2.1.len i av] at pM zN;have A7:=hid eN;have wg:=hid zN;have zr:=hid (Ca wr wr.heap.size C 3 (.int .i64 0) (le_refl _) (by unfold maxLen;omega));have ny:=hid (al wr (.cells (madeCells #[.int .i64 0] C) 3));have Su:=hid mC;clear HP HT zc eN zN FM mC;go_upto_region 7 with fail;obtain⟨g,hg⟩:∃g,wr.heap.size=g:=⟨_,rfl⟩
  have kQ:Hid ((wr.alloc (.cells (madeCells #[.int .i64 0] C) 3)).ownsRow g 3 1 (.slice (some ⟨g,0,none⟩) C C) C (ints ([]++replicate (C-0) 0))/\Below g wr (wr.alloc (.cells (madeCells #[.int .i64 0] C) 3))):=by
   rw[<-hg];refine⟨?_,ny.out⟩;have:=zr.out;simpa [ints] using this
  have Hg:=hid hg;have G8:=(ny.out.cell (p:=⟨b0,256,none⟩) yy.out.st.lt).trans f1;have GB:=(ny.out.cell (p:=⟨gN,oN+i,none⟩) Su.out).trans pM;rw[hg];clear zr ny hg f1 pM d0 fb;generalize wr.alloc (.cells (madeCells #[.int .i64 0] C) 3)=W6 at kQ G8 GB⊢;revert wr;intro wo yU yy wg Su Hg kQ;go_wp2;go_loopw [9,10,39] (fun _ _ v wq=>∃(k:Nat),v=.int .i64 k/\k<=C/\Hid (wq.ownsRow g 3 1 (.slice (some ⟨g,0,none⟩) C C) C (ints ((range k).map (jR D f i)++replicate (C-k) 0))/\Below g wo wq)) (fun _ _ v _=>C-(intOf v).toNat)
  ·exact⟨0,rfl,by omega,kQ⟩
  clear kQ G8 GB;obtain⟨k,rfl,hk,HA⟩:=hrel;have jm:Below wo.heap.size wo wr:=by rw[Hg.out];exact HA.out.2
  by_cases dG:k<C
  ·obtain⟨gA,oA,eA,EZ,oj⟩:=wg.out (by omega);have cA:=(jm.cell (p:=⟨gA,oA+k,none⟩) EZ).trans (oj k dG);have Jl:=HB.out.2.2.1.nx i k av dG;obtain⟨g',e',_,_,nt⟩:=fa HA.out.1 (by omega);obtain rfl:g'=g:=by
    injection e' with e';injection e' with e' _;exact e'.symm
   obtain⟨y0,y1⟩:=nt k (by omega);have hlen:((range k).map (jR D f i)).length=k:=(by simp);have y2:(ints ((range k).map (jR D f i)++replicate (C-k) 0))[k]?=some (.int .i64 0):=by
    have:0<C-k:=(by omega);simp[ints,List.getElem?_append,this]
   rw[y2] at y0;have gf:Hid ((wr.setCell ⟨g',k,none⟩ (.int .i64 (-1))).ownsRow g' 3 1 (.slice (some ⟨g',0,none⟩) C C) C (ints (((range k).map (jR D f i)++[-1])++replicate (C-(k+1)) 0))/\Below g' wo (wr.setCell ⟨g',k,none⟩ (.int .i64 (-1)))):=by
    refine⟨?_,HA.out.2.setCell (p:=⟨g',k,none⟩) (le_refl _) _⟩;have:=uV HA.out.1 k dG (.int .i64 (-1));rwa [DG _ C k _ hlen dG] at this
   have FQ:Hid (∀v,jR D f i k=v->(range (k+1)).map (jR D f i)=(range k).map (jR D f i)++[v]):=fun v h=>by
    rw[range_succ,map_append,List.map_singleton,h]
   have Bu:Hid ((D.nx i k=-1->jR D f i k=-1)/\∀x:Nat,D.nx i k=(x:Int)->jR D f i k=((f x:Nat):Int)):=⟨fun h=>by simp[jR,h],fun x h=>by
    unfold jR
    rw[if_neg (by omega),h]
    rfl⟩
   have vb:=hid hlen;have i3:(k:Int)<C:=(by omega);rw[eA];have Jo:=hid eA;have Rw:=hid yU.out.aJ
   try dsimp only at cA
   clear oj nt e' y2 hlen eA EZ;generalize D.nx i k=t at cA Jl Bu;go_upto_region 11 with fail;generalize wr.setCell ⟨g',k,none⟩ (.int .i64 (-1))=W5 at gf⊢;clear y0 y1 cA jm;by_cases ht:t=-1
   ·subst ht;have HZ:=hid (FQ.out (-1) (Bu.out.1 rfl));go_wp2;go_roundw
    ·exact⟨k+1,by go_num,by omega,by rw[HZ.out];exact gf⟩
    simp[intOf];omega
   obtain⟨x,rfl⟩:∃x:Nat,t=(x:Int):=(⟨t.toNat,by omega⟩);have iH:x<D.n:=(by omega);have kC:((x:Int) != (-1:Int))=true:=(by first|(simp;done)|(simp;omega));have i4:(x:Int)<(D.n:Int):=(by omega);have dx:=RB.out W5 (Rw.out.trans (gf.out.2.mono (by rw[<-Hg.out];exact Rw.out.size))) x iH;have HZ:=hid (FQ.out _ (Bu.out.2 x rfl));generalize f x=r at dx HZ;obtain⟨g2,e2,_,_,iQ⟩:=fa gf.out.1 (by omega);obtain rfl:g2=g':=by
    injection e2 with e2;injection e2 with e2 _;exact e2.symm
   obtain⟨y0,y1⟩:=iQ k (by omega);have y2:(ints (((range k).map (jR D f i)++[-1])++replicate (C-(k+1)) 0))[k]?=some (.int .i64 (-1)):=by
    simp[ints,List.getElem?_append]
   rw[y2] at y0;have jW:Hid ((W5.setCell ⟨g2,k,none⟩ (.int .i64 (r:Int))).ownsRow g2 3 1 (.slice (some ⟨g2,0,none⟩) C C) C (ints (((range k).map (jR D f i)++[(r:Int)])++replicate (C-(k+1)) 0))/\Below g2 wo (W5.setCell ⟨g2,k,none⟩ (.int .i64 (r:Int)))):=by
    refine⟨?_,gf.out.2.setCell (p:=⟨g2,k,none⟩) (le_refl _) _⟩;have:=uV gf.out.1 k dG (.int .i64 (r:Int));have e3:(ints (((range k).map (jR D f i)++[-1])++replicate (C-(k+1)) 0)).set k (.int .i64 (r:Int))=ints (((range k).map (jR D f i)++[(r:Int)])++replicate (C-(k+1)) 0):=by
     have hl:=vb.out;rw[<-DG _ C k (-1) hl dG,List.set_set,DG _ C k (r:Int) hl dG]
    rwa [e3] at this
   clear iQ e2 y2;go_wp2;go_roundw
   ·exact⟨k+1,by go_num,by omega,by rw[HZ.out];exact jW⟩
   simp[intOf];omega
  obtain rfl:k=C:=by omega
  have HK:Hid (gZ Wn b4 D.K k (.slice aN p cN) (pD D k f (bg f i)) ws (.slice aK p cK) ((bg f i).map D.q) wr):=yU.out.aa (by rw[Hg.out];exact HA.out.2);have lH:(pD D k f (bg f i)).length=p:=by rw[DQ.out];simp[pD]
  have EU:=hid lH;have rz:=HK.out.aJ.size;have HU:Hid (wr.ownsRow Wn.heap.size 3 1 (.slice (some ⟨g,0,none⟩) k k) k (ints ((range k).map (jR D f i)))):=by
   have:=HA.out.1;rw[Nat.sub_self,List.replicate_zero,List.append_nil] at this;exact jL this (by rw[<-Hg.out];exact yU.out.aJ.size)
  have Gu:Hid ((∀j,j<(pD D k f (bg f i)).length->∀b,(ws j).ownBlock=some b->(Value.slice (some ⟨g,0,none⟩) k k).ownBlock≠some b)/\∀b,(Value.slice (some ⟨g,0,none⟩) k k).ownBlock=some b->(Value.slice aK p cK).ownBlock≠some b):=by
   have hg9:wo.heap.size=g:=Hg.out;constructor
   ·intro j hj b e1 e2;have h1:=(yU.out.next.lt.2 j hj b e1);have h2:g=b:=(by simpa [Value.ownBlock] using e2);omega
   intro b e1 e2;have h1:=kP yU.out.ct b e2;have h2:g=b:=(by simpa [Value.ownBlock] using e1);omega
  have k9:=al wr (.cells #[.slice (some ⟨g,0,none⟩) k k] 43);have jJ:Hid (gZ Wn b4 D.K k (.slice aN p cN) (pD D k f (bg f i)) ws (.slice aK p cK) ((bg f i).map D.q) (wr.alloc (.cells #[.slice (some ⟨g,0,none⟩) k k] 43))):=HK.out.aa k9;have SQ:Hid ((wr.alloc (.cells #[.slice (some ⟨g,0,none⟩) k k] 43)).ownsRow Wn.heap.size 3 1 (.slice (some ⟨g,0,none⟩) k k) k (ints ((range k).map (jR D f i)))):=dr HU.out k9;have fbk:=HK.out.f1;have zi:=jJ.out.next.own
  rw[lH] at zi;have BD:=jJ.out.aJ.size;clear HA lH k9;go_wp2_with (at_builtin;refine wpList_append_own_at _ rfl _ _ 99 rfl Wn.heap.size 43 iV (.slice none 0 0) 1 24 underlying99 hV tI uh uq rfl (by decide) _ _ _ rfl zi ⟨wr.heap.size,0,none⟩ 1 1 [.slice (some ⟨g,0,none⟩) k k] rfl rfl (cell_one_new _ _ _) ?d2 ?d3 ?d4 ?d5 ?_)
  case d2=>first|(intro u hu;simp at hu;subst hu;rfl)|rfl
  case d3=>unfold maxLen;omega
  case d4=>omega
  case d5=>first|(simp;omega)|omega
  intro v' w5 an aj _ bw;obtain⟨a5,c5,rfl⟩:=bE an;have h9:=jJ.out.st.af jJ.out.next.own (by decide) aj
  have z2:w5.cell? ⟨b4,256,none⟩=some (.slice aN p cN):=by rw[h9.at_,pO]
  have z3:w5.frozen? ⟨b4,256,none⟩=false:=h9.aX 256;have Ei:=hid (jJ.out.fL (vN':=.slice a5 (p+1) c5) SQ.out Gu.out.1 Gu.out.2 EU.out an aj);clear an aj bw zi h9 fbk;go_upto_region 15 with fail;generalize w5.setCell ⟨b4,256,none⟩ (.slice a5 (p+1) c5)=W7 at Ei⊢;clear z2 z3;have DF:Hid (∀W' a9 c9,gZ Wn b4 D.K k (.slice a5 (p+1) c5) (pD D k f (bg f i)++[(range k).map (jR D f i)]) (fun j=>if j=p then .slice (some ⟨g,0,none⟩) k k else ws j) (.slice a9 (p+1) c9) ((bg f i).map D.q++[D.q i]) W'->p+1=(bg f (i+1)).length/\gZ Wn b4 D.K k (.slice a5 (p+1) c5) (pD D k f (bg f (i+1))) (fun j=>if j=p then .slice (some ⟨g,0,none⟩) k k else ws j) (.slice a9 (p+1) c9) ((bg f (i+1)).map D.q) W'):=by
   show ∀W' a9 c9,_;intro W' a9 c9 h;rw[ZE.out];refine⟨by rw[DQ.out];simp,?_⟩;have e1:pD D k f (bg f i++[i])=pD D k f (bg f i)++[(range k).map (jR D f i)]:=(by simp[pD]);have e2:(bg f i++[i]).map D.q=(bg f i).map D.q++[D.q i]:=(by simp);rw[e1,e2];exact h
  have mw:Hid (((bg f i).map D.q).length=p):=by show _=_;rw[length_map];exact DQ.out.symm
  obtain⟨gM,oM,eM,rR,na⟩:=H0.out.1.dm.rM (by omega);have mW:=H0.out.1.f2;rw[eM] at mW;have i3:(i:Int)<(D.m:Int):=by omega
  have Iw:=na i (by omega);have dA:Hid (∀W',Below Wn.heap.size Wn W'->Below Wn.heap.size Wn W'/\W'.cell? ⟨b0,257,none⟩=some (.slice (some ⟨gM,oM,none⟩) D.m D.cM)/\W'.cell? ⟨gM,oM+i,none⟩=some (.int .i64 (D.q i))):=fun W' h=>⟨h,(h.cell (p:=⟨b0,257,none⟩) H0.out.1.st.lt).trans mW,(h.cell (p:=⟨gM,oM+i,none⟩) rR).trans Iw⟩
  clear eM rR na mW Iw;generalize D.q i=qx at dA DF;generalize pD D k f (bg f i)++[(range k).map (jR D f i)]=R9 at Ei DF;generalize (fun j=>if j=p then Value.slice (some ⟨g,0,none⟩) k k else ws j)=Jj at Ei DF;generalize (bg f i).map D.q=Ig at Ei DF mw;clear jJ HK SQ HU Gu;refine wp_region_held_drew (S:=fun W'=>Below Wn.heap.size Wn W'/\W'.cell? ⟨b0,257,none⟩=some (.slice (some ⟨gM,oM,none⟩) D.m D.cM)/\W'.cell? ⟨gM,oM+i,none⟩=some (.int .i64 qx)) (by kernel_rfl) (dA.out _ Ei.out.aJ.drew) (fun hHeld=>?_);have HO:Hid (gZ Wn b4 D.K k (.slice a5 (p+1) c5) R9 Jj (.slice aK p cK) Ig W7.drew):=Ei.out.aa (Below.refl _ _).drew
  (refine ak 0 ?_;refine ak 2 ?_;refine ak 3 ?_;try simp only[put,sA,sB,sC];refine ak 4 ?_;refine ak 5 ?_;refine ak 6 ?_;try simp only[put,sA,sB,sC])
  refine wpAnyH_ready (rs:=[1,7]) (by kernel_rfl) (by simp) ?_;refine ik (fun K hK=>?_) ?_
  ·skip;have f2:=HO.out.f2;go_simp;refine hK.out _ _ (hHeld) (fun hHeld=>?_);clear hK K
   try simp only[put,sA,sB,sC]
   clear f2;refine bc 7 (fun K hK=>?_);skip;go_simp;have kk:=al W7.drew (.cells #[.int .i64 qx] 3);have kB:Hid (∀j u,[Value.int .i64 qx][j]?=some u->((W7.alloc (.cells #[.int .i64 qx] 3)).drew).cell? ((⟨W7.heap.size,0,none⟩:Addr).add j)=some u):=cell_one_new W7.drew _ _;have HO:Hid (gZ Wn b4 D.K k (.slice a5 (p+1) c5) R9 Jj (.slice aK p cK) Ig ((W7.alloc (.cells #[.int .i64 qx] 3)).drew)):=HO.out.aa kk;refine hK.out _ _ (dA.out _ HO.out.aJ) (fun hHeld=>?_);clear hK K
   try simp only[put,sA,sB,sC]
   clear kk;generalize (W7.alloc (.cells #[.int .i64 qx] 3)).drew=V5 at kB HO hHeld⊢;refine bc 8 (fun K hK=>?_);skip;have hO:=HO.out.ct;rw[mw.out] at hO;refine Gz (by rfl) _ _ _ (by rfl) Wn.heap.size 3 iI (.int .i64 0) 1 8 underlying43 hI pT pJ pK (by rfl) (by decide) _ p (ints Ig) (by rfl) hO ⟨W7.heap.size,0,none⟩ 1 1 [.int .i64 qx] (by rfl) (by rfl) kB.out (by intro u hu;simp at hu;subst hu;rfl) (by unfold maxLen;omega) (by omega) HO.out.aJ.size ?_;intro v6 w6 aq ag cj;obtain⟨a9,c9,rfl⟩:=bE aq;have rB:=hid (HO.out.l5 (vK':=.slice a9 (p+1) c9) (mw.out) aq ag cj);have h9:=HO.out.st.af HO.out.ct (by decide) ag;have z2:w6.cell? ⟨b4,257,none⟩=some (.slice aK p cK):=(by rw[h9.at_,yj]);have z3:w6.frozen? ⟨b4,257,none⟩=false:=h9.aX 257;have eC:=fA HO.out.aJ HO.out.ct HO.out.aJ.size ag;clear aq ag cj h9 hO;refine hK.out _ _ (dA.out _ eC) (fun hHeld=>?_);clear hK K
   try simp only[put,sA,sB,sC]
   (refine ak 9 ?_;try simp only[put,sA,sB,sC])
   refine bc 10 (fun K hK=>?_);skip;go_simp;refine hK.out _ _ (dA.out _ rB.out.aJ) (fun hHeld=>?_);clear hK K
   try simp only[put,sA,sB,sC]
   refine wpAnyH_done (by kernel_rfl) ?_ _;have BC:=hid (DF.out _ a9 c9 rB.out);clear hHeld z2 z3 eC rB HO;go_wp2;go_roundw
   ·exact⟨i+1,Jj,a5,a9,p+1,c5,c9,by go_num,by omega,by omega,BC.out⟩
   simp[intOf];omega
  refine ik (fun K hK=>?_) ?_
  ·skip;go_simp;have kk:=al W7.drew (.cells #[.int .i64 qx] 3);have kB:Hid (∀j u,[Value.int .i64 qx][j]?=some u->((W7.alloc (.cells #[.int .i64 qx] 3)).drew).cell? ((⟨W7.heap.size,0,none⟩:Addr).add j)=some u):=cell_one_new W7.drew _ _;have HO:Hid (gZ Wn b4 D.K k (.slice a5 (p+1) c5) R9 Jj (.slice aK p cK) Ig ((W7.alloc (.cells #[.int .i64 qx] 3)).drew)):=HO.out.aa kk;refine hK.out _ _ (dA.out _ HO.out.aJ) (fun hHeld=>?_);clear hK K
   try simp only[put,sA,sB,sC]
   clear kk;generalize (W7.alloc (.cells #[.int .i64 qx] 3)).drew=V5 at kB HO hHeld⊢;refine bc 1 (fun K hK=>?_);skip;have f2:=HO.out.f2;go_simp;refine hK.out _ _ (hHeld) (fun hHeld=>?_);clear hK K
   try simp only[put,sA,sB,sC]
   clear f2;refine bc 8 (fun K hK=>?_);skip;have hO:=HO.out.ct;rw[mw.out] at hO;refine Gz (by rfl) _ _ _ (by rfl) Wn.heap.size 3 iI (.int .i64 0) 1 8 underlying43 hI pT pJ pK (by rfl) (by decide) _ p (ints Ig) (by rfl) hO ⟨W7.heap.size,0,none⟩ 1 1 [.int .i64 qx] (by rfl) (by rfl) kB.out (by intro u hu;simp at hu;subst hu;rfl) (by unfold maxLen;omega) (by omega) HO.out.aJ.size ?_;intro v6 w6 aq ag cj;obtain⟨a9,c9,rfl⟩:=bE aq;have rB:=hid (HO.out.l5 (vK':=.slice a9 (p+1) c9) (mw.out) aq ag cj);have h9:=HO.out.st.af HO.out.ct (by decide) ag;have z2:w6.cell? ⟨b4,257,none⟩=some (.slice aK p cK):=(by rw[h9.at_,yj]);have z3:w6.frozen? ⟨b4,257,none⟩=false:=h9.aX 257;have eC:=fA HO.out.aJ HO.out.ct HO.out.aJ.size ag;clear aq ag cj h9 hO;refine hK.out _ _ (dA.out _ eC) (fun hHeld=>?_);clear hK K
   try simp only[put,sA,sB,sC]
   (refine ak 9 ?_;try simp only[put,sA,sB,sC])
   refine bc 10 (fun K hK=>?_);skip;go_simp;refine hK.out _ _ (dA.out _ rB.out.aJ) (fun hHeld=>?_);clear hK K
   try simp only[put,sA,sB,sC]
   refine wpAnyH_done (by kernel_rfl) ?_ _;have BC:=hid (DF.out _ a9 c9 rB.out);clear hHeld z2 z3 eC rB HO;go_wp2;go_roundw
   ·exact⟨i+1,Jj,a5,a9,p+1,c5,c9,by go_num,by omega,by omega,BC.out⟩
   simp[intOf];omega
  exact AllReadyH.nil
 obtain rfl:i=D.n:=by omega
 obtain rfl:p=B:=HP.trans (HB.out.2.2.2.1.gj);have PF:=hid HT;have iy:=hid HT.st;have iw:=hid (H0.out.2.1.aa HT.aJ);have hd:=mc D.K (.slice aN p cN) (.slice aK p cK);have Dw:Hid (w.heap.size<=Wn.heap.size):=H0.out.2.2.size;have Bg:Hid (Below w.heap.size w (wr.setRow b2 (de D.K (.slice aN p cN) (.slice aK p cK)))):=
  mT ((show Below w.heap.size w Wn by rw[Hb.out.1];exact H0.out.2.2).trans (HT.aJ.mono Dw.out)) (by have:=Hb.out;omega) _
 have lH:(pD D C f (bg f D.n)).length=p:=by rw[HP];simp[pD]
 have HF:Hid (Bk D C p (fun b c=>jR D f ((bg f D.n).getD b 0) c) (fun b=>D.q ((bg f D.n).getD b 0)) w (.returned (.agg (de D.K (.slice aN p cN) (.slice aK p cK)))) (wr.setRow b2 (de D.K (.slice aN p cN) (.slice aK p cK)))):=
  PF.out.MX HB.out.1.dm.kl lH (fun r hr=>by unfold pD at hr;obtain⟨j,_,rfl⟩:=List.mem_map.1 hr;simp) (zlN _ _ _ HP) (fun j hj c hc=>by
   have hj2:j<(bg f D.n).length:=by omega
   unfold pD
   simp[getD_eq_getElem?_getD,hj2,hc]) Dw.out (inr ⟨b2,_,_,iw.out,rfl⟩) Bg.out
 clear HT lH HP;go_wp2_with (first|(refine rD rfl 101 _ rfl ⟨b4,0,none⟩ rfl (de D.K (.slice aN p cN) (.slice aK p cK)) _ iy.out.part underlying101 rfl (by rw[gO,hd]) ?_)|(refine ph rfl 101 _ _ rfl b2 101 (zC 101) (de D.K (.slice aN p cN) (.slice aK p cK)) rfl rfl iw.out (by rw[jq,hd]) (by rw[gO,hd]) (vu _ _ _ _ _ _ _) ?_));refine bodyPost_ret (results_cell_row rfl _ _ b2 101 (de D.K (.slice aN p cN) (.slice aK p cK)) (0,0) _ rfl iw.out.setRow underlying101 rfl (by rw[gO,hd])) rfl ?_;exact HF.out
theorem zgs(n:Nat)(hn:n<=1000000)(W:World):(makeSlice 76 (.int .i64 0) (.int .i64 (n:Int))).run prog W=.ok (.slice (some ⟨W.heap.size,0,none⟩) 0 n) (W.alloc (.cells (madeCells #[.int .u8 0] n) 5)):=by
 obtain⟨i0,hi,dF,cY,cO⟩:=info_parts jr;have h:=run_makeSlice (P:=prog) W 76 5 i0 (.int .u8 0) underlying76 hi dF .i64 .i64 0 (n:Int) (by omega) (by omega) (by rw[cY];simp;omega) (by rw[cO];omega) (by omega);have e:(Value.int .u8 0).cells=#[.int .u8 0]:=rfl;rw[cY,e] at h;simpa using h
theorem zdC(n:Nat)(hn:n<=1000000)(W:World)(B:Nat)(hB:B<=W.heap.size):(W.alloc (.cells (madeCells #[.int .u8 0] n) 5)).ownsRow B 5 1 (.slice (some ⟨W.heap.size,0,none⟩) 0 n) 0 []:=
 World.ownsRow_made W _ n hB (by unfold maxLen;omega) (by have:=size_madeCells #[Value.int .u8 0] n;simpa using this)
theorem cell_two_new(w:World)(a b:Value)(t:TypeId):∀j u,[a,b][j]?=some u->(w.alloc (.cells #[a,b] t)).cell? ((⟨w.heap.size,0,none⟩:Addr).add j)=some u:=by
 intro j u h;have hS:=(St.new w t #[a,b]).part;exact hS j u h
theorem zgt(n:Nat)(hn:2*n<=1000000)(W:World):(makeSlice 76 (.int .i64 0) (.int .i64 (2*(n:Int)))).run prog W=.ok (.slice (some ⟨W.heap.size,0,none⟩) 0 (2*n)) (W.alloc (.cells (madeCells #[.int .u8 0] (2*n)) 5)):=by
 have h:=zgs (2*n) hn W;rwa [show ((2*n:Nat):Int)=2*(n:Int) by omega] at h
def qu(D:Dd)(k:Nat):Value:=.string (strOf (ir (fun i=>D.nx i k) D.n))
theorem DM.rowAt(h:DM w D){g off:Nat}(e:D.aN=some ⟨g,off,none⟩)(hi:i<D.n):w.cell? ⟨g,off+i,none⟩=some (.slice (D.A i) (D.len i) (D.Cp i))/\kv w (D.A i) (D.len i) (D.nx i):=by
 obtain⟨g',E2,e',_,h1,h2⟩:=h.row i hi;rw[e] at e';injection e' with e';injection e' with e1 e2;subst e1 e2;exact⟨h1,h2⟩
def Xe(D:Dd)(C:Nat)(w:World)(e:Ending)(w':World):Prop:=
 ∃(a:Option Addr) (c:Nat),e=.returned (.slice a C c)/\w'.ownsRow w.heap.size 9 1 (.slice a C c) C ((range C).map (qu D))/\Below w.heap.size w w'
theorem YL(x:Int):IntKind.u16.wrap x=((ly x:Nat):Int):=by
 have h:IntKind.u16.wrap x=x % 65536:=by simp[wrap,IntKind.bits,signed]
 rw[h];unfold ly;omega
theorem zlL(z:Nat->Int)(i y:Nat)(hy:ly (z i)=y):iq (ir z (i+1))=iq (ir z i)++[.int .u8 ((y:Int) % 256),.int .u8 ((y:Int) / 256)]:=by
 subst hy;rw[ir,iq,map_append];congr 1
theorem zeM(D:Dd)(C:Nat)(hR:DR D C)(w:World)(hD:DM w D):Calls prog 130 #[.agg D.cD] w (Xe D C w):=by
 have dk:=hR.n2;have fx:=hR.n1;have yP:=(hR.jF hD.kl).2;have iP:=zgt D.n (by omega);have hk:=hD.kl;have HB:=hid (Zz (cZ.new hD) (Zz (al w (.cells D.cD 101)) hR));obtain⟨iU,hU,hU0,hU1,hU2⟩:=info_parts jr;obtain⟨iS,hS,hS0,Ij,hS2⟩:=info_parts oO;clear hD hR;go_enter func130,ntmps130;go_upto_region 1 with fail;generalize w.alloc (.cells D.cD 101)=W0 at HB⊢;obtain⟨b0,aY⟩:∃b0,w.heap.size=b0:=⟨_,rfl⟩
 rw[aY] at HB;rw[aY];have dW:=hid aY;clear aY;have AX:=hid (LO D.K C HB.out.2.2.c hk W0);go_wp2_with (refine rD rfl 98 _ rfl ⟨b0,0,none⟩ rfl (aU D.K) (.array 256 5) HB.out.1.en underlying98 rfl (yD D.K) ?_);refine AX.out.mono ?_;rintro e w1 ⟨rfl,b1⟩;have HG1:Hid (w.heap.size<=W0.heap.size):=show w.heap.size<=W0.heap.size by have:=HB.out.2.1.size;have:=dW.out;omega
 have tJ:Hid (w1.ownsRow W0.heap.size 9 1 (.slice none 0 0) 0 ((range 0).map (qu D))/\Below W0.heap.size W0 w1):=⟨World.ownsRow_nil _ _ _ _,b1⟩
 clear b1 AX;go_wp2;go_loopw [3,4,5,7,8,12] (fun v3 _ _ _ _ vk wr=>∃(k:Nat) (a3:Option Addr) (c3:Nat),v3=.slice a3 k c3/\vk=.int .i64 k/\k<=C/\Hid (wr.ownsRow W0.heap.size 9 1 v3 k ((range k).map (qu D))/\Below W0.heap.size W0 wr)) (fun _ _ _ _ _ v _=>C-(intOf v).toNat)
 ·exact⟨0,none,0,rfl,rfl,zero_le _,tJ.out⟩
 clear tJ;obtain⟨k,a3,c3,rfl,rfl,ey,HL⟩:=hrel;by_cases av:k<C
 ·have yy:=hid (HB.out.1.aa HL.out.2);have f1:=yy.out.f1;obtain⟨gN,oN,eN,mC,_,_⟩:=yy.out.dm.row 0 (by omega);rw[eN] at f1;have A7:=hid (Zz eN mC);have i1:(k:Int)<C:=by omega
  have zr:=hid (zdC (2*D.n) (by omega) wr wr.heap.size (le_refl _));have ny:=hid (al wr (.cells (madeCells #[.int .u8 0] (2*D.n)) 5));clear eN mC;go_upto_region 6 with fail;obtain⟨g,hg⟩:∃g,wr.heap.size=g:=⟨_,rfl⟩
  have kQ:Hid ((wr.alloc (.cells (madeCells #[.int .u8 0] (2*D.n)) 5)).ownsRow g 5 1 (.slice (some ⟨g,0,none⟩) 0 (2*D.n)) 0 (iq (ir (fun i=>D.nx i k) 0))/\Below g wr (wr.alloc (.cells (madeCells #[.int .u8 0] (2*D.n)) 5))):=by
   rw[<-hg];exact⟨zr.out,ny.out⟩
  have Hg:=hid hg;have G8:=(ny.out.cell (p:=⟨b0,256,none⟩) yy.out.st.lt).trans f1
  try rw[hg]
  clear zr ny hg f1;generalize wr.alloc (.cells (madeCells #[.int .u8 0] (2*D.n)) 5)=W6 at kQ G8⊢;obtain⟨wo,Gn⟩:∃wo,wo=wr:=⟨wr,rfl⟩
  subst Gn;go_wp2;go_loopw [5,7,8,23] (fun v5 _ _ vi wq=>∃(i:Nat) (a5:Option Addr) (c5:Nat),v5=.slice a5 (2*i) c5/\vi=.int .i64 i/\i<=D.n/\Hid (wq.ownsRow g 5 1 v5 (2*i) (iq (ir (fun i=>D.nx i k) i))/\Below g wo wq)) (fun _ _ _ v _=>D.n-(intOf v).toNat)
  ·exact⟨0,_,_,rfl,rfl,zero_le _,kQ⟩
  clear kQ G8;obtain⟨i,a5,c5,rfl,rfl,hi,HA⟩:=hrel;have jm:Hid (Below wo.heap.size wo wr):=by rw[Hg.out];exact HA.out.2
  have HBq:=hid (yy.out.aa jm.out);by_cases so:i<D.n
  ·obtain⟨pM,zN⟩:=HBq.out.dm.rowAt A7.out.1 so;rw[HB.out.2.2.len i so] at pM zN;obtain⟨gr,or9,eA,sh,cz⟩:=zN (by omega);rw[eA] at pM;have cz1:=cz k av;have i2:(i:Int)<(D.n:Int):=(by omega);obtain⟨x,hx⟩:∃x,D.nx i k=x:=(⟨_,rfl⟩);have Hx:=hid hx;rw[hx] at cz1;clear zN eA cz sh hx;have hW:=YL x;obtain⟨y,hy⟩:∃y:Nat,ly x=y:=(⟨_,rfl⟩);have Hy:=hid (zlL (fun i=>D.nx i k) i y (by show ly (D.nx i k)=y;rw[Hx.out];exact hy));rw[hy] at hW;have DO:y<65536:=(by rw[<-hy];exact Lb x);clear hy;have zi:=HA.out.1;have hgs9:g<=wr.heap.size:=(by have:=HA.out.2.size;have:=Hg.out;omega);go_wp2_with (at_builtin;refine wpList_append_own_at _ rfl _ _ 76 rfl g 5 iU (.int .u8 0) 1 1 underlying76 hU hU0 hU1 hU2 rfl (by decide) _ _ _ rfl (zi.alloc _) ⟨wr.heap.size,0,none⟩ 2 2 [.int .u8 ((y:Int) % 256),.int .u8 ((y:Int) / 256)] rfl rfl (cell_two_new _ _ _ _) ?d2 ?d3 ?d4 ?d5 ?_)
   case d2=>first|(intro u hu;simp at hu;rcases hu with rfl|rfl <;> rfl)|rfl
   case d3=>unfold maxLen;omega
   case d4=>omega
   case d5=>first|(simp;omega)|omega
   intro v' w5 an aj _ bw;obtain⟨a6,c6,rfl⟩:=bE an;have HF:Hid (w5.ownsRow g 5 1 (.slice a6 (2*i+2) c6) (2*i+2) (iq (ir (fun i=>D.nx i k) (i+1)))/\Below g wo w5):=by
    have k9:=al wr (.cells #[.int .u8 ((y:Int) % 256),.int .u8 ((y:Int) / 256)] 5);have To:g<=wr.heap.size:=(by have:=HA.out.2.size;have:=Hg.out;omega);refine⟨?_,fA (HA.out.2.trans (k9.mono To)) (dr HA.out.1 k9) (by simp;omega) aj⟩;rw[Hy.out];exact an
   clear an aj bw zi;go_wp2;go_roundw
   ·exact⟨i+1,a6,c6,rfl,by go_num,by omega,HF.out⟩
   simp[intOf];omega
  obtain rfl:i=D.n:=by omega
  have hcv:=LY (HA.out.1) (by rw[Jw]);have NK:=dr HL.out.1 jm.out;have Mj:=jm.out;have A3:W0.heap.size<=wr.heap.size:=by have:=Mj.size;have:=HL.out.2.size;omega
  go_wp2_with (at_builtin;refine wpList_append_own_at _ rfl _ _ 23 rfl W0.heap.size 9 iS (.string ⟨#[]⟩) 1 16 underlying23 hS hS0 Ij hS2 rfl (by decide) _ _ _ rfl (NK.alloc _) ⟨wr.heap.size,0,none⟩ 1 1 [qu D k] rfl rfl (cell_one_new _ _ _) ?d2 ?d3 ?d4 ?d5 ?_)
  case d2=>first|(intro u hu;simp at hu;subst hu;rfl)|rfl
  case d3=>unfold maxLen;omega
  case d4=>omega
  case d5=>first|(simp;omega)|omega
  intro v' w5 an aj _ bw;obtain⟨a6,c6,rfl⟩:=bE an;have HF:Hid (w5.ownsRow W0.heap.size 9 1 (.slice a6 (k+1) c6) (k+1) ((range (k+1)).map (qu D))/\Below W0.heap.size W0 w5):=by
   have k9:=al wr (.cells #[qu D k] 9);have nA:=HL.out.2.size;have lp:=Mj.size;refine⟨?_,fA ((HL.out.2.trans (Mj.mono nA)).trans (k9.mono (by omega))) (dr NK k9) (by simp;omega) aj⟩;rw[range_succ,map_append];exact an
  clear an aj bw NK;go_wp2;go_roundw
  ·exact⟨k+1,a6,c6,rfl,by go_num,by omega,HF.out⟩
  simp[intOf];omega
 obtain rfl:k=C:=by omega
 have HF:Hid (Xe D k w (.returned (.slice a3 k c3)) wr):=by
  have h1:=HB.out.2.1;have h2:=HL.out.2;have h3:=HG1.out;have hs:=h1.size;have nA:=dW.out;rw[<-nA] at h1;exact⟨a3,c3,rfl,jL HL.out.1 h3,h1.trans (h2.mono (by omega))⟩
 clear HL;go_wp2;go_ret;exact HF.out
theorem WM:∀j,j<256->(zC 101)[j]?=some (.int .u8 0):=by
 have h:(range 256).all (fun j=>match (zC 101)[j]? with|some (.int .u8 0)=>true|_=>false)=true:=by kernel_rfl
 intro j hj;have h1:=List.all_eq_true.1 h j (by simpa using hj);split at h1
 ·rename_i e;rw[e]
 cases h1
theorem zil(b:Option Addr)(m d:Nat)(W:World):(Instr.build 101 #[(2,.slice b m d)]).run prog W=.ok (.agg (de (fun _=>0) (.slice none 0 0) (.slice b m d))) W:=by
 have e:prog.built 101 [(2,.slice b m d)]=fill (fun i=>#[(0,256),(256,1),(257,1)][i]?) (zC 101) [(2,.slice b m d)]:=by kernel_rfl
 have hz:=jq;obtain⟨d1,d2⟩:=EO;obtain⟨q1,q2⟩:=xW (zC 101) #[.slice b m d] 257 (by rw[hz];simp);rw[xQ _ _ 2 257 1 (.slice b m d) [] (by rfl) (by rfl) (by rw[hz];omega)] at e;rw[show (Value.slice b m d).cells=#[.slice b m d] from rfl] at e;simp only[List.size_toArray,List.length_cons,List.length_nil] at q2;have e4:putAt (zC 101) #[.slice b m d] 257=de (fun _=>0) (.slice none 0 0) (.slice b m d):=by
  refine B7 _ _ _ _ (by rw[q1,hz]) (fun j hj=>by rw[q2,if_neg (by omega),WM j hj];rfl) (by rw[q2,if_neg (by omega),d1]) (by rw[q2,if_pos (by omega)];rfl)
 rw[e4] at e;exact run_build W _ _ _ e
theorem Xq(K:Nat->Nat)(vN vK:Value)(j v:Nat)(hj:j<256):(de K vN vK).setIfInBounds j (.int .u8 (v:Int))=de (fun i=>if i=j then v else K i) vN vK:=by
 refine B7 _ vN vK _ (by rw[Array.size_setIfInBounds,mc]) (fun i hi=>?_) ?_ ?_
 ·by_cases e:i=j
  ·subst e;rw[Array.getElem?_setIfInBounds_self_of_lt (by rw[mc];omega),if_pos rfl]
  rw[Array.getElem?_setIfInBounds_ne (fun h=>e h.symm),zu K vN vK i hi,if_neg e]
 ·rw[Array.getElem?_setIfInBounds_ne (by omega),pO]
 rw[Array.getElem?_setIfInBounds_ne (by omega),yj]
theorem Rg:∀i,(∀j,j<i->f j=g j)->bg f i=bg g i:=by
 intro i
 induction i with
 | zero=>intro _;rfl
 | succ i ih=>
  intro h;have e:=ih (fun j hj=>h j (by omega));show (if f i<(bg f i).length then bg f i else bg f i++[i])=if g i<(bg g i).length then bg g i else bg g i++[i]
  rw[e,h i (by omega)]
def cS(D:Dd)(c:Nat):ByteArray:=strOf (ir (fun i=>D.nx i c) D.n)
theorem zoO(D:Dd)(c:Nat):(cS D c).size=2*D.n:=by unfold cS;rw[zE,Jw]
theorem zpn(hR:DR D C){a b:Nat}(ha:a<C)(hb:b<C):cS D a=cS D b↔∀i,i<D.n->D.nx i a=D.nx i b:=by
 have dk:=hR.n2;rw[<-zlr (n:=D.n) (z:=fun i=>D.nx i a) (z':=fun i=>D.nx i b) (fun i hi=>by have:=hR.nx i a hi ha;omega) (fun i hi=>by have:=hR.nx i b hi hb;omega)];unfold cS;constructor
 ·intro h;have h1:=congrArg (fun s:ByteArray=>s.data.toList) h;simp only[AP] at h1;exact Oz (XV _ _) (XV _ _) h1
 intro h;rw[h]
def JW(nm:List ByteArray)(key val:Value):Prop:=∃(b:Nat) (s:ByteArray),nm[b]?=some s/\key=.string s/\val=.int .u8 ((b:Nat):Int)
theorem zgu(W:World):(makeMap 176 none).run prog W=.ok (.map (some W.heap.size)) (W.alloc (.map #[] 0)):=by
 kernel_rfl
theorem zlM(w:World):(zeroValue 5).run prog w=.ok (.int .u8 0) w:=by kernel_rfl
structure pH (W0:World)(D:Dd)(C bM b4:Nat)(vC:Value)(k:Nat)(v6:Value)(nm:List ByteArray)(g:Nat->Nat)(w:World):Prop where
 aJ:Below W0.heap.size W0 w
 map:dY w 9 bM nm.length (JW nm)
 kept:w.ownsRow W0.heap.size 3 1 v6 nm.length (cy ((bg g k).map D.K))
 kl:(bg g k).length=nm.length
 st:St w 101 b4 (de (fun j=>if j<k then g j else 0) (.slice none 0 0) (.slice D.aM D.m D.cM))
 CE:w.ownsRow W0.heap.size 9 1 vC C ((range C).map (qu D))
 at_:∀i,i<k->nm[g i]?=some (cS D (D.K i))
 num:eZ (iK D D.n) k g nm.length
 KL:W0.heap.size<=bM
 Ga:W0.heap.size<=b4
 nk:nm.length<=k
section
variable {W0 : World}{D : Dd}{C bM b4 : Nat}{vC : Value}{k : Nat}{v6 : Value}{nm : List ByteArray}{g : Nat → Nat}{w : World}
theorem pH.mem(h:pH W0 D C bM b4 vC k v6 nm g w)(s:ByteArray):s∈nm↔∃i,i<k/\cS D (D.K i)=s:=by
 constructor
 ·intro hm;obtain⟨b,hb,e⟩:=getElem_of_mem hm;obtain⟨i,h1,h2,_⟩:=h.num.new b hb;refine⟨i,h1,?_⟩;have:=h.at_ i h1;rw[h2,getElem?_eq_getElem hb,e] at this;exact (Option.some.inj this).symm
 rintro⟨i,hi,rfl⟩;exact mem_of_getElem? (h.at_ i hi)
theorem pH.look(h:pH W0 D C bM b4 vC k v6 nm g w)(s:ByteArray)(hs:s.size<=1000000):
  (∃b,nm[b]?=some s/\(lookup 176 (.map (some bM)) (.string s) true).run prog w=.ok (.tuple #[.int .u8 ((b:Nat):Int),.bool true]) w)\/
  (s∉nm/\(lookup 176 (.map (some bM)) (.string s) true).run prog w=.ok (.tuple #[.int .u8 0,.bool false]) w):=by
 rcases h.map.ex.ox De underlying176 (zlM w) (Go.WideMaps.keyOf_string_mk underlying9 (s:=s) (by unfold maxLen;omega)) with ⟨bS,iG⟩|⟨v,⟨b,s',h1,h2,rfl⟩,bS⟩
 ·refine inr ⟨fun hm=>?_,bS⟩;obtain⟨b,hb,e⟩:=getElem_of_mem hm;exact iG _ ⟨b,s,by rw[getElem?_eq_getElem hb,e],rfl,rfl⟩
 injection h2 with h2;exact inl ⟨b,by rw[h2];exact h1,bS⟩
theorem pH.put(h:pH W0 D C bM b4 vC k v6 nm g w)(s:ByteArray)(hs:s.size<=1000000)(hn:nm.length<maxLen)(hb:s∉nm):
  ∃w',(mapUpdate 176 (.map (some bM)) (.string s) (.int .u8 (nm.length:Int))).run prog w=.ok () w'/\dY w' 9 bM (nm.length+1) (JW (nm++[s]))/\w.grownBy w' (some bM):=by
 refine h.map.update De underlying176 hn (Go.WideMaps.keyOf_string_mk underlying9 (s:=s) (by unfold maxLen;omega)) ?_ ?_ ?_ ?_
 ·rintro y ⟨k,s',h1,h2,_⟩;injection h2 with h2;rw[<-h2] at h1;exact hb (mem_of_getElem? h1)
 ·rintro a b ⟨k,s',h1,h2,h3⟩;exact⟨k,s',by rw[getElem?_append_left (List.getElem?_eq_some_iff.1 h1).1];exact h1,h2,h3⟩
 ·exact⟨nm.length,s,by simp,rfl,rfl⟩
 rintro a b ⟨k,s',h1,h2,h3⟩ hne;by_cases e:k<nm.length
 ·rw[getElem?_append_left e] at h1;exact⟨b,k,s',h1,h2,h3⟩
 rw[List.getElem?_append_right (by omega)] at h1;cases hj:k-nm.length with
 | zero=>rw[hj] at h1;simp at h1;exact absurd (by rw[h2,h1]) hne
 | succ j=>rw[hj] at h1;simp at h1
theorem Vr(g:Nat->Nat)(k b:Nat):(fun i=>if i=k then b else if i<k then g i else 0)=fun j=>if j<k+1 then (if j=k then b else g j) else 0:=by
 funext i;by_cases e:i=k
 ·rw[if_pos e,if_pos (by omega),if_pos e]
 rw[if_neg e];by_cases e2:i<k
 ·rw[if_pos e2,if_pos (by omega),if_neg e]
 rw[if_neg e2,if_neg (by omega)]
theorem TO(hR:DR D C){a b:Nat}(ha:a<256)(hb:b<256):cS D (D.K a)=cS D (D.K b)↔iK D D.n a b:=zpn hR (hR.c.1 a ha) (hR.c.1 b hb)
theorem dY.set{k:TypeId}{b t g:Nat}{Q:Value->Value->Prop}(h:dY w k b n Q)(h':St w t g cs):dY (w.setCell ⟨g,i,none⟩ u) k b n Q:=by
 refine h.same (Below.heap_setCell _ _ _ _ ?_);intro e;obtain⟨es,clock,hb,_⟩:=h;have h2:w.heap[g]?=_:=h';rw[show b=g from e,h2] at hb;cases hb
theorem pH.kz{b:Nat}(hR:DR D C)(hk:k<256)(h:pH W0 D C bM b4 vC k v6 nm g w)(hb:nm[b]?=some (cS D (D.K k))):
  ∃g',pH W0 D C bM b4 vC (k+1) v6 nm g' (w.setCell ⟨b4,k,none⟩ (.int .u8 (b:Int))):=by
 have eB:b<nm.length:=(List.getElem?_eq_some_iff.1 hb).1;obtain⟨i,h1,h2,_⟩:=h.num.new b eB;have hi:=h.at_ i h1;rw[h2,hb] at hi;have hi:=Option.some.inj hi;have hE:iK D D.n i k:=(TO hR (by omega) hk).1 hi.symm;have zc:bg (fun j=>if j=k then b else g j) (k+1)=bg g k:=by
  have e0:bg (fun j=>if j=k then b else g j) k=bg g k:=Rg k (fun j hj=>by simp only[if_neg (show ¬j=k by omega)]);rw[Bo (f:=fun j=>if j=k then b else g j) (by rw[e0,h.kl];simp only[if_pos rfl];exact eB),e0]
 refine⟨fun j=>if j=k then b else g j,h.aJ.setCell (p:=⟨b4,k,none⟩) h.Ga _,h.map.set h.st,by rw[zc];exact ju h.kept h.st (by decide) _ _,by rw[zc];exact h.kl,?_,ju h.CE h.st (by decide) _ _,fun j hj=>?_,?_,h.KL,h.Ga,by have:=h.nk;omega⟩
 ·have:=h.st.set k (.int .u8 (b:Int));rw[Xq _ _ _ k b hk,Vr] at this;exact this
 ·by_cases e:j=k
  ·simp only[if_pos e];rw[e];exact hb
  simp only[if_neg e];exact h.at_ j (by omega)
 have:=h.num.kz (fun i j e x hx=>(e x hx).symm) (fun i j l e e2 x hx=>(e x hx).trans (e2 x hx)) (fun i x hx=>rfl) h1 hE;rw[h2] at this;exact this
theorem pH.fresh{w2 w3:World}{E0:Value}(hR:DR D C)(hk:k<256)(h:pH W0 D C bM b4 vC k v6 nm g w)(hb:cS D (D.K k)∉nm)(hm:dY w1 9 bM (nm.length+1) (JW (nm++[cS D (D.K k)])))(gV:w.grownBy w1 (some bM))
  (k2:Below w1.heap.size w1 w2) (hg:w2.grownBy w3 v6.ownBlock) (ho:w3.ownsRow W0.heap.size 3 1 E0 (nm.length+1) (cy ((bg g k).map D.K)++[.int .i64 ((D.K k:Nat):Int)])):
  ∃g',pH W0 D C bM b4 vC (k+1) E0 (nm++[cS D (D.K k)]) g' (w3.setCell ⟨b4,k,none⟩ (.int .u8 (nm.length:Int))):=by
 have ln:Below W0.heap.size W0 w1:=h.aJ.grown gV h.aJ.size (fun g e=>by injection e with e;rw[<-e];exact h.KL);have ma:=ln.trans (k2.mono ln.size);have o2:=dr (yi h.kept h.map.ex.of gV) k2;have c2:=dr (yi h.CE h.map.ex.of gV) k2;have m2:=hm.same (k2.block _ hm.lt);have s2:=(h.st.dB h.map.ex.of gV).aa k2;have s3:=s2.af o2 (by decide) hg;have m3:=m2.af o2 hg;have c3:=qc c2 hg (fun b e e2=>gH c2 o2 (by decide) b e e2.symm);have B3:=fA ma o2 ma.size hg;have zc:bg (fun j=>if j=k then nm.length else g j) (k+1)=bg g k++[k]:=by
  have e0:bg (fun j=>if j=k then nm.length else g j) k=bg g k:=Rg k (fun j hj=>by simp only[if_neg (show ¬j=k by omega)]);rw[Cs (f:=fun j=>if j=k then nm.length else g j) (by rw[e0,h.kl];show ¬(if k=k then nm.length else g k)<nm.length;rw[if_pos rfl];omega),e0]
 have hlen:(nm++[cS D (D.K k)]).length=nm.length+1:=by simp
 refine⟨fun j=>if j=k then nm.length else g j,B3.setCell (p:=⟨b4,k,none⟩) h.Ga _,by rw[hlen];exact m3.set s3,?_,by rw[zc,hlen,length_append,h.kl];rfl,?_,ju c3 s3 (by decide) _ _,fun j hj=>?_,?_,h.KL,h.Ga,by rw[hlen];have:=h.nk;omega⟩
 ·rw[zc,hlen,map_append,show cy ((bg g k).map D.K++[k].map D.K)=cy ((bg g k).map D.K)++[.int .i64 ((D.K k:Nat):Int)] by simp[cy]];exact ju ho s3 (by decide) _ _
 ·have:=s3.set k (.int .u8 (nm.length:Int));rw[Xq _ _ _ k _ hk,Vr] at this;exact this
 ·by_cases e:j=k
  ·simp only[if_pos e];rw[e];simp
  simp only[if_neg e];have:=h.at_ j (by omega);rw[getElem?_append_left (List.getElem?_eq_some_iff.1 this).1];exact this
 rw[hlen];exact h.num.fresh (fun i j e x hx=>(e x hx).symm) (fun i x hx=>rfl) (fun i hi e=>hb ((h.mem _).2 ⟨i,hi,(TO hR (by omega) hk).2 e⟩))
end
structure ti (W0:World)(D:Dd)(b4 C':Nat)(K':Nat->Nat)(vN:Value)(R:List (List Int))(ws:Nat->Value)(v6:Value)(l:List Nat)(w:World):Prop where
 aJ:Below W0.heap.size W0 w
 st:St w 101 b4 (de K' vN (.slice D.aM D.m D.cM))
 next:bq w W0.heap.size 43 3 1 vN R.length ws (fun _=>C') (fun j=>ints (R.getD j []))
 kept:w.ownsRow W0.heap.size 3 1 v6 C' (cy l)
 sep:∀i,i<R.length->∀b,(ws i).ownBlock=some b->v6.ownBlock≠some b
 lo:W0.heap.size<=b4
section
variable {W0 : World}{D : Dd}{b4 C' : Nat}{K' : Nat → Nat}{vN v6 : Value}{R : List (List Int)}{ws : Nat → Value}{l : List Nat}{w : World}
theorem ti.aa(h:ti W0 D b4 C' K' vN R ws v6 l w)(k:Below w.heap.size w w1):ti W0 D b4 C' K' vN R ws v6 l w1:=
 ⟨h.aJ.trans (k.mono h.aJ.size),h.st.aa k,h.next.aa k,dr h.kept k,h.sep,h.lo⟩
theorem ti.f1(h:ti W0 D b4 C' K' vN R ws v6 l w):w.cell? ⟨b4,256,none⟩=some vN:=by rw[h.st.at_,pO]
theorem pH.done{vC:Value}{nm:List ByteArray}{ws:Nat->Value}(h:pH W0 D C bM b4 vC 256 v6 nm g w)(hm:nm.length=C'):ti W0 D b4 C' (fun j=>if j<256 then g j else 0) (.slice none 0 0) [] ws v6 ((bg g 256).map D.K) w:=by
 subst hm;exact⟨h.aJ,h.st,⟨World.ownsRow_nil _ _ _ _,fun i hi=>absurd hi (by simp),fun i j hi=>absurd hi (by simp)⟩,h.kept,fun i hi=>absurd hi (by simp),h.Ga⟩
theorem ti.fL{vN':Value}{row:List Int}{q:Nat}(h:ti W0 D b4 C' K' vN R ws v6 l w)(hu:w.ownsRow W0.heap.size 3 1 u C' (ints row))(hs:∀i,i<R.length->∀b,(ws i).ownBlock=some b->u.ownBlock≠some b)(qw:∀b,u.ownBlock=some b->v6.ownBlock≠some b)(hq:R.length=q)
  (ho:w'.ownsRow W0.heap.size 43 1 vN' (q+1) ((range q).map ws++[u])) (hg:w.grownBy w' vN.ownBlock):ti W0 D b4 C' K' vN' (R++[row]) (fun j=>if j=q then u else ws j) v6 l (w'.setCell ⟨b4,256,none⟩ vN'):=by
 subst hq;have dE:St w' 101 b4 (de K' vN (.slice D.aM D.m D.cM)):=h.st.af h.next.own (by decide) hg
 have h1:bq w W0.heap.size 43 3 1 vN R.length ws (fun _=>C') (fun j=>ints ((R++[row]).getD j [])):=h.next.congr (fun i hi=>⟨rfl,by simp[getD_eq_getElem?_getD,getElem?_append_left hi]⟩)
 have h2:=h1.sU (v':=vN') (u:=u) (w':=w') (by decide) (by simpa [getD_eq_getElem?_getD] using hu) hs ho hg;have hm:w'.ownsRow W0.heap.size 3 1 v6 C' (cy l):=qc h.kept hg (fun b e e2=>gH h.kept h.next.own (by decide) b e e2.symm);refine⟨(fA h.aJ h.next.own h.aJ.size hg).setCell (p:=⟨b4,256,none⟩) h.lo _,?_,?_,y9 hm dE (by decide),?_,h.lo⟩
 ·have:=dE.set 256 vN';rwa [Xz] at this
 ·rw[length_append];exact⟨y9 h2.own dE (by decide),fun i hi=>y9 (h2.row i hi) dE (by decide),h2.sep⟩
 intro i hi b e;by_cases e1:i=R.length
 ·rw[if_pos e1] at e;exact qw b e
 rw[if_neg e1] at e;exact h.sep i (by simp at hi;omega) b e
def NT(D:Dd)(w:World)(e:Ending)(w':World):Prop:=
 ∃(P:Dd) (g:Nat->Nat) (C':Nat),e=.returned (.agg P.cD)/\DM w' P/\eZ (iK D D.n) 256 g C'/\ry D g C' P/\Below w.heap.size w w'
def mj(D:Dd)(l:List Nat)(n:Nat):List (List Int):=(range n).map fun i=>l.map (D.nx i)
theorem ti.fin{bR:Nat}{wS:World}{kz:Array Value}(hD:DM wS D)(hR:DR D C)(hN:eZ (iK D D.n) 256 g C')(h:ti W0 D b4 C' (fun j=>if j<256 then g j else 0) vN (mj D ((bg g 256).map D.K) D.n) ws v6 ((bg g 256).map D.K) w)
  (hs:St w 101 bR kz) (hw:w'=w.setRow bR cs) (hB:Below wS.heap.size wS w'):NT D wS (.returned (.agg (de (fun j=>if j<256 then g j else 0) vN (.slice D.aM D.m D.cM)))) w':=by
 subst hw;obtain⟨aN,cN,rfl⟩:=bE h.next.own
 have hlen:(mj D ((bg g 256).map D.K) D.n).length=D.n:=by simp[mj]
 have oD:∀{B t n:Nat}{v:Value}{xs:List Value},t≠101->w.ownsRow B t 1 v n xs->(w.setRow bR cs).ownsRow B t 1 v n xs:=fun {B t n v xs} ht ho=>
  fu (ts:=[]) (bs:=[bR]) ho (G9 w bR cs) (by simp) (fun g e hm=>dH ho hs ht g e (List.mem_singleton.1 hm))
 have dk:bq (w.setRow bR cs) W0.heap.size 43 3 1 (.slice aN (mj D ((bg g 256).map D.K) D.n).length cN) (mj D ((bg g 256).map D.K) D.n).length ws (fun _=>C') (fun j=>ints ((mj D ((bg g 256).map D.K) D.n).getD j [])):=⟨oD (by decide) h.next.own,fun i hi=>oD (by decide) (h.next.row i hi),h.next.sep⟩
 have uC:∀r∈mj D ((bg g 256).map D.K) D.n,r.length=C':=by
  intro r hr;obtain⟨i,_,rfl⟩:=List.mem_map.1 hr;rw[length_map,length_map,hN.gj]
 have hm:=hR.m;have hg:∀j,j<256->g j<256:=fun j hj=>by have:=hN.le j hj;omega
 refine⟨⟨de (fun j=>if j<256 then g j else 0) (.slice aN (mj D ((bg g 256).map D.K) D.n).length cN) (.slice D.aM D.m D.cM),fun j=>if j<256 then g j else 0,aN,(mj D ((bg g 256).map D.K) D.n).length,cN,fun i=>tu (ws i),fun i=>vD (ws i),fun _=>C',fun i x=>((mj D ((bg g 256).map D.K) D.n).getD i []).getD x 0,D.aM,D.m,D.cM,D.q⟩,g,C',rfl,
  ⟨mc _ _ _,vu _ _ _ _ _ _ _,fun j hj=>zu _ _ _ j hj,fun j hj=>?_,pO _ _ _,yj _ _ _,dk.zs rfl uC,(hD.below hB).rM⟩,hN,⟨fun b hb=>?_,hlen,hm,fun i hi=>rfl,fun i hi c hc=>?_,fun i hi=>rfl⟩,hB⟩
 ·show (if j<256 then g j else 0)<256;rw[if_pos hj];exact hg j hj
 ·show (if b<256 then g b else 0)=g b;rw[if_pos hb]
 show ((mj D ((bg g 256).map D.K) D.n).getD i []).getD c 0=D.nx i (D.K ((bg g 256).getD c 0));have iQ:c<(bg g 256).length:=by rw[hN.gj];exact hc
 unfold mj;simp[getD_eq_getElem?_getD,hi,iQ]
end
theorem Qb(D:Dd)(l:List Nat)(i:Nat):mj D l (i+1)=mj D l i++[l.map (D.nx i)]:=by
 unfold mj;rw[range_succ,map_append];rfl
theorem YT(D:Dd)(l:List Nat)(i:Nat):(mj D l i).length=i:=by simp[mj]
theorem KM(D:Dd)(C:Nat)(hR:DR D C)(w:World)(hD:DM w D):
  Calls prog 100 #[.agg D.cD] w (NT D w):=by
 have dk:=hR.n2;have fx:=hR.n1;have yP:=(hR.jF hD.kl).2;have vm:=hD.kl;have iD:=zgu;have HB:=hid (Zz (cZ.new hD) (Zz (al w (.cells D.cD 101)) (Zz hR hD)));obtain⟨iI,hI,pT,pJ,pK⟩:=info_parts az;obtain⟨iV,hV,tI,uh,uq⟩:=info_parts dR;have VW:=hid vm;clear hD hR vm;go_enter func100,ntmps100;go_upto_region 1 with (refine rq rfl 101 rfl (zC 101) (mX _) ?_)
 try simp only[put,List.setIfInBounds_toArray,set_cons_zero,set_cons_succ,Ip]
 have H0:Hid (cZ ((w.alloc (.cells D.cD 101)).alloc (.cells (zC 101) 101)) w.heap.size D/\St ((w.alloc (.cells D.cD 101)).alloc (.cells (zC 101) 101)) 101 (w.heap.size+1) (zC 101)/\Below w.heap.size w ((w.alloc (.cells D.cD 101)).alloc (.cells (zC 101) 101))):=by
  refine⟨HB.out.1.aa (al _ _),?_,HB.out.2.1.trans ((al _ _).mono (by simp))⟩;have:=St.new (w.alloc (.cells D.cD 101)) 101 (zC 101);simpa using this
 generalize (w.alloc (.cells D.cD 101)).alloc (.cells (zC 101) 101)=Wn at H0⊢;obtain⟨b2,bZ⟩:∃b2,w.heap.size+1=b2:=⟨_,rfl⟩
 obtain⟨b0,aY⟩:∃b0,w.heap.size=b0:=⟨_,rfl⟩
 rw[bZ,aY] at H0;rw[bZ,aY];have Hb:=hid (Zz aY bZ);clear bZ aY;have f2:=H0.out.1.f2;have k5:=al Wn (.cells (zC 101) 101);have fX:St (Wn.alloc (.cells (zC 101) 101)) 101 Wn.heap.size (zC 101):=St.new _ _ _;have iy:=hid fX;have js:Hid (St ((Wn.alloc (.cells (zC 101) 101)).setRow Wn.heap.size (de (fun _=>0) (.slice none 0 0) (.slice D.aM D.m D.cM))) 101 Wn.heap.size (de (fun _=>0) (.slice none 0 0) (.slice D.aM D.m D.cM))/\Below Wn.heap.size Wn ((Wn.alloc (.cells (zC 101) 101)).setRow Wn.heap.size (de (fun _=>0) (.slice none 0 0) (.slice D.aM D.m D.cM)))):=⟨fX.setRow,mT k5 (le_refl _) _⟩
 clear k5 fX;go_upto_region 2 with (first
  | (refine CZ rfl 101 _ rfl #[(2,.slice D.aM D.m D.cM)] (by first|rfl|kernel_rfl|(go_simp;done)) (.agg (de (fun _=>0) (.slice none 0 0) (.slice D.aM D.m D.cM))) (zil D.aM D.m D.cM _) ?_)
  | (refine rq rfl 101 rfl (zC 101) (mX _) ?_)
  | (refine ph rfl 101 _ _ rfl Wn.heap.size 101 (zC 101) (de (fun _=>0) (.slice none 0 0) (.slice D.aM D.m D.cM)) rfl rfl iy.out (by rw[jq,mc]) (by rw[gO,mc]) (vu _ _ _ _ _ _ _) ?_))
 simp only[put,sA,sB,sC];clear f2;obtain⟨b4,iE⟩:∃b4,Wn.heap.size=b4:=⟨_,rfl⟩
 have EX:=hid iE;rw[iE] at js;rw[iE];generalize (Wn.alloc (.cells (zC 101) 101)).setRow b4 (de (fun _=>0) (.slice none 0 0) (.slice D.aM D.m D.cM))=W4 at js⊢;clear iE iy;have tX:=hid (H0.out.1.aa (show Below Wn.heap.size Wn W4 by rw[EX.out];exact js.out.2));have Hs:=hid (zeM D C HB.out.2.2.1 W4 tX.out.dm);go_wp2_with (refine nO (by rfl) 101 _ rfl ⟨b0,0,none⟩ rfl D.cD _ tX.out.st.part underlying101 rfl tX.out.dm.info ?_);refine Hs.out.mono ?_;rintro e w5 ⟨aC,cC,rfl,jw,b5⟩;obtain⟨gC,rfl,M4,MR,MF⟩:=fa jw (show 0<C by have:=HB.out.2.2.1.jF VW.out;omega);have k6:=al w5 (.map #[] 0);have Th:dY (w5.alloc (.map #[] 0)) 9 w5.heap.size 0 (JW []):=dY.made _ _ _ (fun x y h=>by
  obtain⟨k,s,h1,_⟩:=h
  simp at h1)
 have Ka:Hid (pH Wn D C w5.heap.size b4 (.slice (some ⟨gC,0,none⟩) C cC) 0 (.slice none 0 0) [] (fun _=>0) (w5.alloc (.map #[] 0))):=by
  have nz:b4<=W4.heap.size:=by have:=js.out.2.size;have:=EX.out;omega
  have ll:=b5.size;have hn4:=EX.out;have Z3:Below Wn.heap.size Wn w5:=(show Below Wn.heap.size Wn W4 by rw[EX.out];exact js.out.2).trans (b5.mono (by omega));refine⟨Z3.trans (k6.mono (by omega)),Th,World.ownsRow_nil _ _ _ _,rfl,?_,jL (dr jw k6) (by omega),fun i hi=>absurd hi (by omega),eZ.zero _,by omega,by omega,by simp⟩;have:=(js.out.1.aa b5).aa k6;have e:(fun j=>if j<0 then (fun _=>0:Nat->Nat) j else 0)=fun _=>0:=by funext j;simp
  rw[e];exact this
 have Gj:=hid ((tX.out.aa b5).aa k6);clear jw b5 M4 MR MF k6 Th Hs;go_upto_region 5 with fail;obtain⟨bM,qI⟩:∃bM,w5.heap.size=bM:=⟨_,rfl⟩
 rw[qI] at Ka
 try rw[qI]
 generalize w5.alloc (.map #[] 0)=W6 at Ka Gj⊢;clear qI;have eG:=yD D.K;go_wp2_with (refine rD rfl 98 _ rfl ⟨b0,0,none⟩ rfl (aU D.K) (.array 256 5) Gj.out.en underlying98 rfl eG ?_);go_loopw [6,7,8,9,10,11,22] (fun v6 _ _ _ _ _ vk wr=>∃(k m:Nat) (a6:Option Addr) (c6:Nat),v6=.slice a6 m c6/\vk=.int .i64 k/\k<=256/\m<=k/\Hid (∃nm g,nm.length=m/\pH Wn D C bM b4 (.slice (some ⟨gC,0,none⟩) C cC) k v6 nm g wr)) (fun _ _ _ _ _ _ v _=>256-(intOf v).toNat)
 ·exact⟨0,0,none,0,rfl,rfl,by omega,by omega,_,_,rfl,Ka.out⟩
 clear Ka;obtain⟨k,m,a6,c6,rfl,rfl,hk,iP,HL⟩:=hrel;by_cases dG:k<256
 ·obtain⟨nm,g,ez,hM⟩:=HL.out;have HM:=hid hM;have Al:=hid ez;have i2:(k:Int)<256:=by omega
  have hv:=EG D.K k dG;have Dj:=OQ 98 5 256 (aU D.K) k _ underlying98 dG (by kernel_rfl) ⟨_,underlying5,rfl⟩ hv wr;have xM:=VW.out k dG;have MB:=HB.out.2.2.1.c.1 k dG;obtain⟨gX,BZ,Fm,GP,BG⟩:=fa hM.CE (by omega);have dI:=(BG (D.K k) (by omega)).1;have QY:gX=gC:=by injection BZ with BZ;injection BZ with BZ _;exact BZ.symm
  rw[QY] at dI;have hcv:((range C).map (qu D))[D.K k]?=some (.string (cS D (D.K k))):=by simp[MB];rfl
  rw[hcv] at dI;have dp:(cS D (D.K k)).size<=1000000:=by rw[zoO];omega
  have xo:=hM.look (cS D (D.K k)) dp;have hlen:=hM.map.len (ty:=3) (t:=176) (by rw[underlying176];rfl);rw[ez] at hlen;have X3:IntKind.u8.wrap (m:Int)=m:=by simp[wrap,IntKind.bits,signed];omega
  have z1:=hM.st.at_ k;have z2:=hM.st.aX k;rw[zu _ _ _ k dG] at z1;rcases xo with ⟨b,hb,bS⟩|⟨hb,bS⟩
  ·have HF:Hid (∃nm g,nm.length=m/\pH Wn D C bM b4 (.slice (some ⟨gC,0,none⟩) C cC) (k+1) (.slice a6 m c6) nm g (wr.setCell ⟨b4,k,none⟩ (.int .u8 (b:Int)))):=by
    obtain⟨g',BP⟩:=hM.kz HB.out.2.2.1 dG hb;exact⟨nm,g',ez,BP⟩
   clear hM hb hlen X3 BZ Fm GP BG hcv ez HM Al dp HL;obtain⟨y,hy⟩:∃y,D.K k=y:=(⟨_,rfl⟩);obtain⟨s,hs⟩:∃s,cS D y=s:=(⟨_,rfl⟩);rw[hy] at hv Dj xM MB dI bS;rw[hs] at dI bS;clear hy hs;go_wp2;go_roundw
   ·exact⟨k+1,m,a6,c6,rfl,by go_num,by omega,by omega,HF.out⟩
   simp[intOf];omega
  have mw:nm.length<maxLen:=by unfold maxLen;omega
  obtain⟨w1,xx,mJ,gV⟩:=hM.put (cS D (D.K k)) dp mw hb;rw[ez] at xx;have AZ:=yi hM.kept hM.map.ex.of gV;rw[ez] at AZ;have On:=(hM.aJ.grown gV hM.aJ.size (fun g e=>by injection e with e;rw[<-e];exact hM.KL)).size;have nN:=hid (hM.st.dB hM.map.ex.of gV);have OS:Hid (∀(w2 w3:World) (E0:Value),Below w1.heap.size w1 w2->w2.grownBy w3 (Value.slice a6 m c6).ownBlock->w3.ownsRow Wn.heap.size 3 1 E0 (m+1) (cy ((bg g k).map D.K)++[.int .i64 ((D.K k:Nat):Int)])->∃nm g,nm.length=m+1/\pH Wn D C bM b4 (.slice (some ⟨gC,0,none⟩) C cC) (k+1) E0 nm g (w3.setCell ⟨b4,k,none⟩ (.int .u8 (m:Int)))):=fun w2 w3 E0 h1 h2 h3=>by
   obtain⟨g',BP⟩:=hM.fresh HB.out.2.2.1 dG hb mJ gV h1 h2 (by rw[ez];exact h3);rw[ez] at BP;exact⟨_,g',by simp[ez],BP⟩
  clear hM hb BZ Fm GP BG hcv ez HM Al dp HL mJ gV z1 z2 mw;obtain⟨y,hy⟩:∃y,D.K k=y:=⟨_,rfl⟩
  obtain⟨s,hs⟩:∃s,cS D y=s:=⟨_,rfl⟩
  rw[hy] at hv Dj xM MB dI bS xx OS;rw[hs] at dI bS xx;clear hy hs;obtain⟨l9,xd⟩:∃l9,cy ((bg g k).map D.K)=l9:=⟨_,rfl⟩
  rw[xd] at AZ OS;clear xd;go_wp2_with (at_builtin;refine wpList_append_own_at _ rfl _ _ 43 rfl Wn.heap.size 3 iI (.int .i64 0) 1 8 underlying43 hI pT pJ pK rfl (by decide) _ _ _ rfl (AZ.alloc _) ⟨w1.heap.size,0,none⟩ 1 1 [.int .i64 (y:Int)] rfl rfl (cell_one_new _ _ _) ?d2 ?d3 ?d4 ?d5 ?_)
  case d2=>first|(intro u hu;simp at hu;subst hu;rfl)|rfl
  case d3=>unfold maxLen;omega
  case d4=>omega
  case d5=>first|(simp;omega)|omega
  intro v' w5 an aj _ bw;obtain⟨a7,c7,rfl⟩:=bE an;have k9:=al w1 (.cells #[.int .i64 (y:Int)] 3);have HF:=hid (OS.out _ w5 (.slice a7 (m+1) c7) k9 aj an);have Ve:=hid ((nN.out.aa k9).af (dr AZ k9) (by decide) aj);have z1:=Ve.out.at_ k;have z2:=Ve.out.aX k;rw[zu _ _ _ k dG] at z1;clear an aj bw AZ k9;go_wp2;go_roundw
  ·exact⟨k+1,m+1,a7,c7,rfl,by go_num,by omega,by omega,HF.out⟩
  simp[intOf];omega
 obtain rfl:k=256:=by omega
 obtain⟨nm,g,ez,hM⟩:=HL.out;have y7:=hM.num;rw[ez] at y7;have yB:=hM.done (ws:=fun _=>.slice none 0 0) ez;obtain⟨l,hl⟩:∃l,(bg g 256).map D.K=l:=⟨_,rfl⟩
 obtain⟨Kf,PL⟩:∃Kf:Nat->Nat,(fun j=>if j<256 then g j else 0)=Kf:=⟨_,rfl⟩
 have yM:=hid (Zz y7 (Zz hl PL));rw[hl,PL] at yB;have js:Hid (ti Wn D b4 m Kf (.slice none 0 0) (mj D l 0) (fun _=>.slice none 0 0) (.slice a6 m c6) l wr):=yB;have Hl:Hid (l.length=m/\∀x∈l,x<C):=by
  refine⟨by rw[<-hl,length_map,y7.gj],fun x hx=>?_⟩;rw[<-hl] at hx;obtain⟨j,hj,rfl⟩:=List.mem_map.1 hx;exact HB.out.2.2.1.c.1 j (J1 g 256 j hj)
 have PT:=hid (H0.out.1.aa hM.aJ);have f1:=PT.out.f1;obtain⟨gN,oN,eN,mC,qQ⟩:=H0.out.1.dm.rN (by omega);rw[eN] at f1;have uc:=hid qQ;have Hg:=hid mC;clear eN qQ mC y7 yB hl PL hM HL ez;go_wp2_with fail;clear f1;rw[show ((256:Nat):Int)=256 from rfl];go_loopw [13,57] (fun _ v wr=>∃(i:Nat) (ws:Nat->Value) (aN:Option Addr) (cN:Nat),v=.int .i64 i/\i<=D.n/\Hid (ti Wn D b4 m Kf (.slice aN i cN) (mj D l i) ws (.slice a6 m c6) l wr)) (fun _ v _=>D.n-(intOf v).toNat)
 ·exact⟨0,_,none,0,rfl,by omega,js⟩
 clear js;obtain⟨i,ws,aN,cN,rfl,hi,HT⟩:=hrel;have lH:Hid ((mj D l i).length=i):=YT D l i;by_cases av:i<D.n
 ·have i1:(i:Int)<(D.n:Int):=by omega
  have hlen:=HB.out.2.2.1.len i av;have pM:=(HT.out.aJ.cell (p:=⟨gN,oN+i,none⟩) Hg.out).trans (uc.out i av).1;have zN:=(uc.out i av).2;rw[hlen] at pM zN
  try dsimp only at pM
  have wg:Hid (kv wr.drew (D.A i) C (D.nx i)):=(zN.below HT.out.aJ).below (Below.refl _ _).drew;clear hlen zN;go_upto_region 19 with fail;clear pM;refine wp_region_held_drew (S:=fun W'=>Below Wn.heap.size Wn W') (by kernel_rfl) HT.out.aJ.drew (fun hHeld=>?_);have HT:Hid (ti Wn D b4 m Kf (.slice aN i cN) (mj D l i) ws (.slice a6 m c6) l wr.drew):=HT.out.aa (Below.refl _ _).drew
  (refine ak 0 ?_;refine ak 2 ?_;refine ak 3 ?_;try simp only[put,sA,sB,sC])
  refine wpAnyH_ready (rs:=[1,4]) (by kernel_rfl) (by simp) ?_;refine ik (fun K hK=>?_) ?_
  ·skip;have f1:=HT.out.f1;go_simp;refine hK.out _ _ (hHeld) (fun hHeld=>?_);clear hK K
   try simp only[put,sA,sB,sC]
   clear f1;refine bc 4 (fun K hK=>?_);skip;have ic:=(HT.out.next.lt).2;have iY:=kP HT.out.kept;have GM:=tU HT.out.kept Hl.out.1;have F9:=wg.out;skip;go_simp;go_at_call 131;refine (RU (D.nx i) C l m Hl.out.1 (by omega) (by omega) Hl.out.2 (D.A i) a6 (D.Cp i) c6 _ F9 GM).mono ?_;rintro e w5 ⟨a5,c5,rfl,jw,b5⟩;have HU:Hid (w5.ownsRow Wn.heap.size 3 1 (.slice a5 m c5) m (ints (l.map (D.nx i)))/\(∀j,j<(mj D l i).length->∀b,(ws j).ownBlock=some b->(Value.slice a5 m c5).ownBlock≠some b)/\∀b,(Value.slice a5 m c5).ownBlock=some b->(Value.slice a6 m c6).ownBlock≠some b):=by
    have jc:=jZ jw;refine⟨?_,fun j hj b e1 e2=>?_,fun b e1 e2=>?_⟩
    ·exact jL jw HT.out.aJ.size
    ·have h1:=ic j hj b e1;have h2:=jc b e2
     try simp only[jV] at h1
     try simp only[jV] at h2
     omega
    have h1:=iY b e2;have h2:=jc b e1
    try simp only[jV] at h1
    try simp only[jV] at h2
    omega
   have HT:=hid (HT.out.aa b5);clear jw b5 ic iY GM F9
   try go_wp2_with fail
   refine hK.out _ _ (HT.out.aJ) (fun hHeld=>?_);clear hK K
   try simp only[put,sA,sB,sC]
   refine bc 5 (fun K hK=>?_);skip;go_simp;have kk:=al w5 (.cells #[.slice a5 m c5] 43);have HN:Hid (∀j u,[Value.slice a5 m c5][j]?=some u->(w5.alloc (.cells #[.slice a5 m c5] 43)).cell? ((⟨w5.heap.size,0,none⟩:Addr).add j)=some u):=cell_one_new _ _ _;have HT:=hid (HT.out.aa kk);have HU:=hid (Zz (dr HU.out.1 kk) HU.out.2);refine hK.out _ _ (HT.out.aJ) (fun hHeld=>?_);clear hK K
   try simp only[put,sA,sB,sC]
   clear kk;generalize w5.alloc (.cells #[.slice a5 m c5] 43)=V5 at HN HT HU hHeld⊢;refine bc 6 (fun K hK=>?_);skip;have hO:=(HT.out.next.own);rw[lH.out] at hO;refine wB (by rfl) _ _ _ (by rfl) Wn.heap.size 43 iV (.slice none 0 0) 1 24 underlying99 hV tI uh uq (by rfl) (by decide) _ i ((range i).map ws) (by rfl) hO ⟨w5.heap.size,0,none⟩ 1 1 [.slice a5 m c5] (by rfl) (by rfl) HN.out (by intro u hu;simp at hu;subst hu;rfl) (by unfold maxLen;omega) (by omega) HT.out.aJ.size ?_;intro v6 w6 aq ag;obtain⟨a7,c7,rfl⟩:=bE aq;have ji:=hid (HT.out.fL (u:=.slice a5 m c5) (vN':=.slice a7 (i+1) c7) HU.out.1 HU.out.2.1 HU.out.2.2 lH.out aq ag);have h9:=(HT.out.st.af HT.out.next.own (by decide) ag);have z2:w6.cell? ⟨b4,256,none⟩=some (.slice aN i cN):=(by rw[h9.at_,pO]);have z3:w6.frozen? ⟨b4,256,none⟩=false:=h9.aX 256;have eC:=(fA HT.out.aJ HT.out.next.own HT.out.aJ.size ag);clear aq ag h9 hO;refine hK.out _ _ (eC) (fun hHeld=>?_);clear hK K
   try simp only[put,sA,sB,sC]
   (refine ak 7 ?_;try simp only[put,sA,sB,sC])
   refine bc 8 (fun K hK=>?_);skip;go_simp;refine hK.out _ _ (ji.out.aJ) (fun hHeld=>?_);clear hK K
   try simp only[put,sA,sB,sC]
   refine wpAnyH_done (by kernel_rfl) ?_ _;rw[<-Qb] at ji;clear hHeld z2 z3 eC;go_wp2;go_roundw
   ·exact⟨i+1,_,a7,c7,by go_num,by omega,ji⟩
   simp[intOf];omega
  refine ik (fun K hK=>?_) ?_
  ·skip;have ic:=(HT.out.next.lt).2;have iY:=kP HT.out.kept;have GM:=tU HT.out.kept Hl.out.1;have F9:=wg.out;skip;go_simp;go_at_call 131;refine (RU (D.nx i) C l m Hl.out.1 (by omega) (by omega) Hl.out.2 (D.A i) a6 (D.Cp i) c6 _ F9 GM).mono ?_;rintro e w5 ⟨a5,c5,rfl,jw,b5⟩;have HU:Hid (w5.ownsRow Wn.heap.size 3 1 (.slice a5 m c5) m (ints (l.map (D.nx i)))/\(∀j,j<(mj D l i).length->∀b,(ws j).ownBlock=some b->(Value.slice a5 m c5).ownBlock≠some b)/\∀b,(Value.slice a5 m c5).ownBlock=some b->(Value.slice a6 m c6).ownBlock≠some b):=by
    have jc:=jZ jw;refine⟨?_,fun j hj b e1 e2=>?_,fun b e1 e2=>?_⟩
    ·exact jL jw HT.out.aJ.size
    ·have h1:=ic j hj b e1;have h2:=jc b e2
     try simp only[jV] at h1
     try simp only[jV] at h2
     omega
    have h1:=iY b e2;have h2:=jc b e1
    try simp only[jV] at h1
    try simp only[jV] at h2
    omega
   have HT:=hid (HT.out.aa b5);clear jw b5 ic iY GM F9
   try go_wp2_with fail
   refine hK.out _ _ (HT.out.aJ) (fun hHeld=>?_);clear hK K
   try simp only[put,sA,sB,sC]
   refine wpAnyH_ready (rs:=[1,5]) (by kernel_rfl) (by simp) ?_;refine ik (fun K hK=>?_) ?_
   ·skip;have f1:=HT.out.f1;go_simp;refine hK.out _ _ (hHeld) (fun hHeld=>?_);clear hK K
    try simp only[put,sA,sB,sC]
    clear f1;refine bc 5 (fun K hK=>?_);skip;go_simp;have kk:=al w5 (.cells #[.slice a5 m c5] 43);have HN:Hid (∀j u,[Value.slice a5 m c5][j]?=some u->(w5.alloc (.cells #[.slice a5 m c5] 43)).cell? ((⟨w5.heap.size,0,none⟩:Addr).add j)=some u):=cell_one_new _ _ _;have HT:=hid (HT.out.aa kk);have HU:=hid (Zz (dr HU.out.1 kk) HU.out.2);refine hK.out _ _ (HT.out.aJ) (fun hHeld=>?_);clear hK K
    try simp only[put,sA,sB,sC]
    clear kk;generalize w5.alloc (.cells #[.slice a5 m c5] 43)=V5 at HN HT HU hHeld⊢;refine bc 6 (fun K hK=>?_);skip;have hO:=(HT.out.next.own);rw[lH.out] at hO;refine wB (by rfl) _ _ _ (by rfl) Wn.heap.size 43 iV (.slice none 0 0) 1 24 underlying99 hV tI uh uq (by rfl) (by decide) _ i ((range i).map ws) (by rfl) hO ⟨w5.heap.size,0,none⟩ 1 1 [.slice a5 m c5] (by rfl) (by rfl) HN.out (by intro u hu;simp at hu;subst hu;rfl) (by unfold maxLen;omega) (by omega) HT.out.aJ.size ?_;intro v6 w6 aq ag;obtain⟨a7,c7,rfl⟩:=bE aq;have ji:=hid (HT.out.fL (u:=.slice a5 m c5) (vN':=.slice a7 (i+1) c7) HU.out.1 HU.out.2.1 HU.out.2.2 lH.out aq ag);have h9:=(HT.out.st.af HT.out.next.own (by decide) ag);have z2:w6.cell? ⟨b4,256,none⟩=some (.slice aN i cN):=(by rw[h9.at_,pO]);have z3:w6.frozen? ⟨b4,256,none⟩=false:=h9.aX 256;have eC:=(fA HT.out.aJ HT.out.next.own HT.out.aJ.size ag);clear aq ag h9 hO;refine hK.out _ _ (eC) (fun hHeld=>?_);clear hK K
    try simp only[put,sA,sB,sC]
    (refine ak 7 ?_;try simp only[put,sA,sB,sC])
    refine bc 8 (fun K hK=>?_);skip;go_simp;refine hK.out _ _ (ji.out.aJ) (fun hHeld=>?_);clear hK K
    try simp only[put,sA,sB,sC]
    refine wpAnyH_done (by kernel_rfl) ?_ _;rw[<-Qb] at ji;clear hHeld z2 z3 eC;go_wp2;go_roundw
    ·exact⟨i+1,_,a7,c7,by go_num,by omega,ji⟩
    simp[intOf];omega
   refine ik (fun K hK=>?_) ?_
   ·skip;go_simp;have kk:=al w5 (.cells #[.slice a5 m c5] 43);have HN:Hid (∀j u,[Value.slice a5 m c5][j]?=some u->(w5.alloc (.cells #[.slice a5 m c5] 43)).cell? ((⟨w5.heap.size,0,none⟩:Addr).add j)=some u):=cell_one_new _ _ _;have HT:=hid (HT.out.aa kk);have HU:=hid (Zz (dr HU.out.1 kk) HU.out.2);refine hK.out _ _ (HT.out.aJ) (fun hHeld=>?_);clear hK K
    try simp only[put,sA,sB,sC]
    clear kk;generalize w5.alloc (.cells #[.slice a5 m c5] 43)=V5 at HN HT HU hHeld⊢;refine bc 1 (fun K hK=>?_);skip;have f1:=HT.out.f1;go_simp;refine hK.out _ _ (hHeld) (fun hHeld=>?_);clear hK K
    try simp only[put,sA,sB,sC]
    clear f1;refine bc 6 (fun K hK=>?_);skip;have hO:=(HT.out.next.own);rw[lH.out] at hO;refine wB (by rfl) _ _ _ (by rfl) Wn.heap.size 43 iV (.slice none 0 0) 1 24 underlying99 hV tI uh uq (by rfl) (by decide) _ i ((range i).map ws) (by rfl) hO ⟨w5.heap.size,0,none⟩ 1 1 [.slice a5 m c5] (by rfl) (by rfl) HN.out (by intro u hu;simp at hu;subst hu;rfl) (by unfold maxLen;omega) (by omega) HT.out.aJ.size ?_;intro v6 w6 aq ag;obtain⟨a7,c7,rfl⟩:=bE aq;have ji:=hid (HT.out.fL (u:=.slice a5 m c5) (vN':=.slice a7 (i+1) c7) HU.out.1 HU.out.2.1 HU.out.2.2 lH.out aq ag);have h9:=(HT.out.st.af HT.out.next.own (by decide) ag);have z2:w6.cell? ⟨b4,256,none⟩=some (.slice aN i cN):=(by rw[h9.at_,pO]);have z3:w6.frozen? ⟨b4,256,none⟩=false:=h9.aX 256;have eC:=(fA HT.out.aJ HT.out.next.own HT.out.aJ.size ag);clear aq ag h9 hO;refine hK.out _ _ (eC) (fun hHeld=>?_);clear hK K
    try simp only[put,sA,sB,sC]
    (refine ak 7 ?_;try simp only[put,sA,sB,sC])
    refine bc 8 (fun K hK=>?_);skip;go_simp;refine hK.out _ _ (ji.out.aJ) (fun hHeld=>?_);clear hK K
    try simp only[put,sA,sB,sC]
    refine wpAnyH_done (by kernel_rfl) ?_ _;rw[<-Qb] at ji;clear hHeld z2 z3 eC;go_wp2;go_roundw
    ·exact⟨i+1,_,a7,c7,by go_num,by omega,ji⟩
    simp[intOf];omega
   exact AllReadyH.nil
  exact AllReadyH.nil
 obtain rfl:i=D.n:=by omega
 have PF:=hid HT.out;have iy:=hid HT.out.st;have iw:=hid (H0.out.2.1.aa HT.out.aJ);have hd:=mc Kf (.slice aN D.n cN) (.slice D.aM D.m D.cM);have Dw:Hid (w.heap.size<=Wn.heap.size):=by have:=H0.out.2.2.size;have:=Hb.out.1;show _<=_;omega
 have Bg:Hid (Below w.heap.size w (wr.setRow b2 (de Kf (.slice aN D.n cN) (.slice D.aM D.m D.cM)))):=
  mT ((show Below w.heap.size w Wn by rw[Hb.out.1];exact H0.out.2.2).trans (HT.out.aJ.mono Dw.out)) (by have:=Hb.out;omega) _
 have HF:Hid (NT D w (.returned (.agg (de Kf (.slice aN D.n cN) (.slice D.aM D.m D.cM)))) (wr.setRow b2 (de Kf (.slice aN D.n cN) (.slice D.aM D.m D.cM)))):=by
  obtain⟨h1,h2,h3⟩:=yM.out;have hT:=PF.out;rw[<-h3] at hT Bg⊢;rw[<-h2] at hT;exact hT.fin HB.out.2.2.2 HB.out.2.2.1 h1 iw.out rfl Bg.out
 clear HT;go_wp2_with (first|(refine rD rfl 101 _ rfl ⟨b4,0,none⟩ rfl (de Kf (.slice aN D.n cN) (.slice D.aM D.m D.cM)) _ iy.out.part underlying101 rfl (by rw[gO,hd]) ?_)|(refine ph rfl 101 _ _ rfl b2 101 (zC 101) (de Kf (.slice aN D.n cN) (.slice D.aM D.m D.cM)) rfl rfl iw.out (by rw[jq,hd]) (by rw[gO,hd]) (vu _ _ _ _ _ _ _) ?_));refine bodyPost_ret (results_cell_row rfl _ _ b2 101 (de Kf (.slice aN D.n cN) (.slice D.aM D.m D.cM)) (0,0) _ rfl iw.out.setRow underlying101 rfl (by rw[gO,hd])) rfl ?_;exact HF.out
theorem zoP(h:(zC 101)[i]?=some v):v=.int .u8 0\/v=.slice none 0 0:=by
 have hz:=jq;by_cases a:i<256
 ·rw[WM i a] at h;exact inl (Option.some.inj h).symm
 by_cases b:i=256
 ·subst b;rw[EO.1] at h;exact inr (Option.some.inj h).symm
 by_cases c:i=257
 ·subst c;rw[EO.2] at h;exact inr (Option.some.inj h).symm
 rw[Array.getElem?_eq_none (by omega)] at h;cases h
theorem DM.Of{b:Nat}(hR:DR D C)(h:DM w D)(hs:St w 101 b (zC 101))(cs:Array Value):DM (w.setRow b cs) D:=by
 have hk:=G9 w b cs;have dp:(w.setRow b cs).heap.size=w.heap.size:=setRow_size _ _ _;have hC:=(hR.jF h.kl).1;have key:∀{g i:Nat}{v:Value},g<w.heap.size->w.cell? ⟨g,i,none⟩=some v->v≠.int .u8 0->v≠.slice none 0 0->(w.setRow b cs).cell? ⟨g,i,none⟩=some v:=fun {g i v} hg hc h1 h2=>by
  have hgb:g≠b:=fun e=>by
   subst e;rw[hs.at_] at hc;rcases zoP hc with e|e
   ·exact h1 e
   exact h2 e
  rw[hk.mQ (g:=g) (i:=i) (by simpa using hgb) hg];exact hc
 refine⟨h.sz,h.one,h.cl,h.kl,h.fN,h.fM,fun h0=>?_,fun h0=>?_⟩
 ·obtain⟨g,off,e,hg,hc⟩:=h.rN h0;refine⟨g,off,e,by rw[dp];exact hg,fun i hi=>⟨key hg (hc i hi).1 (fun e=>by cases e) (fun e=>by
   injection e with _ e _
   have:=hR.len i hi
   omega),fun h1=>?_⟩⟩
  obtain⟨g',E2,e',BP,nt⟩:=(hc i hi).2 h1;exact⟨g',E2,e',by rw[dp];exact BP,fun j hj=>key BP (nt j hj) (fun e=>by cases e) (fun e=>by cases e)⟩
 obtain⟨g,off,e,hg,hc⟩:=h.rM h0;exact⟨g,off,e,by rw[dp];exact hg,fun j hj=>key hg (hc j hj) (fun e=>by cases e) (fun e=>by cases e)⟩
theorem cZ.stored{b:Nat}(hR:DR D C)(hD:DM w D)(h:St w 101 b (zC 101)):cZ (w.setRow b D.cD) b D:=⟨h.setRow,hD.Of hR h _⟩
def uE(O P:Dd)(C C':Nat):Prop:=∃(f:Nat->Nat) (B:Nat) (M:Dd) (g:Nat->Nat),eZ (ku C (tD O) (mD O)) O.n f B/\qE O C f B M/\eZ (iK M M.n) 256 g C'/\ry M g C' P
theorem uE.right(hR:DR O C)(h:uE O P C C'):DR P C':=by
 obtain⟨f,B,M,g,h1,h2,h3,h4⟩:=h;exact h4.right (h2.right hR h1) h3
theorem uE.le(h:uE O P C C'):P.n<=O.n:=by
 obtain⟨f,B,M,g,h1,h2,h3,h4⟩:=h;have e:=h4.n;have e2:M.n=B:=h2.2.1;have e3:=h1.gj;have e4:=Ta f O.n;omega
theorem uE.mn{X:Dd}(hR:DR O C)(hO:nV O)(hT:uT O C)(h:uE O P C C')(hl:l=cv (aw P.len P.nx) [0] k)(dG:l.length=k)(rS:k<=P.n)(hX:oI P C' k (gW P l) (fun i=>P.q (l.getD i 0)) X):Mn X C'/\ec X 0 O 0:=by
 obtain⟨f,B,M,g,h1,h2,h3,h4⟩:=h;exact Mn.made hR hO hT h1 h2 h3 h4 hl dG rS hX
structure Od (D O:Dd)(C:Nat):Prop where
 r:DR O C
 ord:nV O
 EY:uT O C
 uY:ec O 0 D 0
 le:O.n<=D.n
theorem Od.made{T:Dd}(hR:DR D C)(hT:oI D C D.n (ni D) D.q T)(hl:l=cv (aw T.len T.nx) [0] k)(dG:l.length=k)(rS:k<=T.n)(hO:oI T C k (gW T l) (fun i=>T.q (l.getD i 0)) O):Od D O C:=by
 have JJ:=hT.jM hR;have hTT:=hT.wV hR;have hn:=hR.n1;have h1:=OA (D:=T) (k:=k) (by rw[<-hl];exact dG);rw[<-hl] at h1;have hb:=hO.pw JJ hl dG (i:=0) (by omega);rw[h1.2] at hb;refine⟨?_,hO.It JJ hl dG,hO.tb JJ hTT hl dG,hb.trans (hT.qF hR (by omega)),by have h3:=hO.2.1;have h4:=hT.2.1;omega⟩;subst hl;exact hO.oh JJ dG rS
def UH(D:Dd)(w:World)(e:Ending)(w':World):Prop:=∃(X:Dd) (C':Nat),e=.returned (.tuple #[.agg X.cD,.int .i64 0])/\DM w' X/\Mn X C'/\ec X 0 D 0/\X.n<=D.n/\Below w.heap.size w w'
theorem Zw(D:Dd)(C:Nat)(hR:DR D C)(w:World)(hD:DM w D):Calls prog 83 #[.agg D.cD] w (UH D w):=by
 have HB:=hid (Zz (cZ.new hD) (Zz (al w (.cells D.cD 101)) hR));clear hD hR;go_enter func83,ntmps83;go_upto_region 1 with (refine rq rfl 101 rfl (zC 101) (mX _) ?_)
 try simp only[put,List.setIfInBounds_toArray,set_cons_zero,set_cons_succ,Ip]
 have H0:Hid (cZ ((w.alloc (.cells D.cD 101)).alloc (.cells (zC 101) 101)) w.heap.size D/\St ((w.alloc (.cells D.cD 101)).alloc (.cells (zC 101) 101)) 101 (w.heap.size+1) (zC 101)/\Below w.heap.size w ((w.alloc (.cells D.cD 101)).alloc (.cells (zC 101) 101))):=by
  refine⟨HB.out.1.aa (al _ _),?_,HB.out.2.1.trans ((al _ _).mono (by simp))⟩;have:=St.new (w.alloc (.cells D.cD 101)) 101 (zC 101);simpa using this
 generalize (w.alloc (.cells D.cD 101)).alloc (.cells (zC 101) 101)=Wb at H0⊢;obtain⟨b2,bZ⟩:∃b2,w.heap.size+1=b2:=⟨_,rfl⟩
 obtain⟨b0,aY⟩:∃b0,w.heap.size=b0:=⟨_,rfl⟩
 rw[bZ,aY] at H0;rw[bZ,aY];have Hb:=hid (Zz aY bZ);clear bZ aY;have sf:=hid (Fh D C HB.out.2.2 Wb H0.out.1.dm);go_wp2_with (refine nO (by rfl) 101 _ rfl ⟨b0,0,none⟩ rfl D.cD _ H0.out.1.st.part underlying101 rfl H0.out.1.dm.info ?_);refine sf.out.mono ?_;rintro e wy ⟨rfl,ra⟩;have qZ:Hid (cZ wy b0 D/\St wy 101 b2 (zC 101)/\Below b0 w wy/\b0<=wy.heap.size):=⟨H0.out.1.aa ra,H0.out.2.1.aa ra,H0.out.2.2.trans (ra.mono (by have:=H0.out.2.2.size;have:=Hb.out.1;omega)),by have:=H0.out.2.2.size;have:=ra.size;have:=Hb.out.1;omega⟩
 have yU:=hid (zmG D C wy qZ.out.1.dm HB.out.2.2);clear ra sf;go_wp2_with (refine nO (by rfl) 101 _ rfl ⟨b0,0,none⟩ rfl D.cD _ qZ.out.1.st.part underlying101 rfl qZ.out.1.dm.info ?_);refine yU.out.mono ?_;rintro e wT ⟨T,rfl,Va,t1,t2,t3,t4,t5,t6,bT,_⟩;have HT:=hid (Zz Va (show oI D C D.n (ni D) D.q T from ⟨t1,t2,t3,t4,t5,t6⟩));have H1:Hid (St wT 101 b2 (zC 101)/\Below b0 w wT/\b0<=wT.heap.size):=⟨qZ.out.2.1.aa bT,qZ.out.2.2.1.trans (bT.mono qZ.out.2.2.2),by have:=qZ.out.2.2.2;have:=bT.size;omega⟩
 obtain⟨k,dG,rS⟩:=T7 (HT.out.2.jM HB.out.2.2);have HOr:=hid (Rc T C _ k rfl dG rS wT HT.out.1 (HT.out.2.jM HB.out.2.2));have U9:=hid (Zz dG rS);clear Va t1 t2 t3 t4 t5 t6 bT yU dG rS;go_wp2_with fail;refine HOr.out.mono ?_;rintro e wO ⟨O,rfl,VP,t1,t2,t3,t4,t5,t6,bO,_⟩;have HO:=hid (Zz VP (Od.made HB.out.2.2 HT.out.2 rfl U9.out.1 U9.out.2 ⟨t1,t2,t3,t4,t5,t6⟩));have H2:Hid (St wO 101 b2 (zC 101)/\Below b0 w wO/\b0<=wO.heap.size):=⟨H1.out.1.aa bO,H1.out.2.1.trans (bO.mono H1.out.2.2),by have:=H1.out.2.2;have:=bO.size;omega⟩
 clear VP t1 t2 t3 t4 t5 t6 bO HOr;have iy:=hid (St.new wO 101 (zC 101));have H3:Hid (cZ ((wO.alloc (.cells (zC 101) 101)).setRow wO.heap.size O.cD) wO.heap.size O/\Below wO.heap.size wO ((wO.alloc (.cells (zC 101) 101)).setRow wO.heap.size O.cD)):=
  ⟨cZ.stored HO.out.2.r (HO.out.1.below (al _ _)) (St.new _ _ _),mT (al _ _) (le_refl _) _⟩
 go_upto_region 4 with (first
  | (refine rq rfl 101 rfl (zC 101) (mX _) ?_)
  | (refine ph rfl 101 _ _ rfl wO.heap.size 101 (zC 101) O.cD rfl rfl iy.out (by rw[jq,HO.out.1.sz]) (by rw[gO,HO.out.1.sz]) HO.out.1.one ?_))
 simp only[put,sA,sB,sC];obtain⟨b4,iE⟩:∃b4,wO.heap.size=b4:=⟨_,rfl⟩
 rw[iE] at H3;rw[iE];generalize (wO.alloc (.cells (zC 101) 101)).setRow b4 O.cD=V at H3⊢;have H4:Hid (St V 101 b2 (zC 101)/\Below b0 w V/\b0<=V.heap.size):=by
  have h:=H3.out.2;have hs:=h.size;rw[<-iE] at h;exact⟨H2.out.1.aa h,H2.out.2.1.trans (h.mono H2.out.2.2),by have:=H2.out.2.2;omega⟩
 clear iE iy;have dA:Hid (∀W',Below V.heap.size V W'->Below V.heap.size V W'/\cZ W' b4 O):=fun W' h=>⟨h,H3.out.1.aa h⟩
 go_cut [5] from 13 to 17 (fun v wx=>∃(b5:Nat) (P:Dd) (C':Nat),v=.pointer (some ⟨b5,0,none⟩)/\cZ wx b5 P/\uE O P C C'/\Below V.heap.size V wx)
 case first=>
  refine wp_region_held_drew (S:=fun W'=>Below V.heap.size V W'/\cZ W' b4 O) (by kernel_rfl) (dA.out _ (Below.refl _ _).drew) (fun hHeld=>?_)
  (refine ak 0 (v:=.agg O.cD) ?_ (hy:=by intro wz hSw;exact C0 (o:=_) (ρ:=_) wz 101 (.tmp 4) rfl ⟨b4,0,none⟩ rfl O.cD _ (cZ.st (And.right hSw)).part underlying101 rfl (cZ.dm (And.right hSw)).info))
  (refine ak 1 (v:=.agg O.cD) ?_ (hy:=by intro wz hSw;exact C0 (o:=_) (ρ:=_) wz 101 (.tmp 4) rfl ⟨b4,0,none⟩ rfl O.cD _ (cZ.st (And.right hSw)).part underlying101 rfl (cZ.dm (And.right hSw)).info);try simp only[put,sA,sB,sC])
  refine wpAnyH_ready (rs:=[2,5]) (by kernel_rfl) (by simp) ?_;refine ik (fun K hK=>?_) ?_
  ·skip;go_simp;go_at_call 102;refine (XC O C HO.out.2.r _ hHeld.2.dm).mono ?_;rintro e w8 ⟨f,B,aB,cB,rfl,ho,FP,vv⟩;have aZ:Below V.heap.size V w8:=hHeld.1.trans (vv.mono hHeld.1.size);have HK:=hid (Zz (SV ho) FP);clear ho FP vv
   try go_wp2_with fail
   refine hK.out _ _ (dA.out _ aZ) (fun hHeld=>?_);clear hK K
   try simp only[put,sA,sB,sC]
   clear aZ;refine wpAnyH_ready (rs:=[3,5]) (by kernel_rfl) (by simp) ?_;refine ik (fun K hK=>?_) ?_
   ·skip;go_simp;go_at_call 101;refine (Nw O C HO.out.2.r _ f B HK.out.2 aB cB _ hHeld.2.dm HK.out.1).mono ?_;rintro e w9 ⟨M,rfl,Aa,t1,t2,t3,t4,t5,t6,vv,_⟩;have aZ:Below V.heap.size V w9:=hHeld.1.trans (vv.mono hHeld.1.size);have nw:=hid (Zz Aa (show qE O C f B M from ⟨t1,t2,t3,t4,t5,t6⟩));clear Aa t1 t2 t3 t4 t5 t6 vv
    try go_wp2_with fail
    refine hK.out _ _ (dA.out _ aZ) (fun hHeld=>?_);clear hK K
    try simp only[put,sA,sB,sC]
    clear aZ;refine wpAnyH_ready (rs:=[4,5]) (by kernel_rfl) (by simp) ?_;refine ik (fun K hK=>?_) ?_
    ·skip;go_simp;go_at_call 100;refine (KM M C (nw.out.2.right HO.out.2.r HK.out.2) _ nw.out.1).mono ?_;rintro e nJ ⟨P,g,C',rfl,vI,vp,sj,vv⟩;have aZ:Below V.heap.size V nJ:=hHeld.1.trans (vv.mono hHeld.1.size);have jS:=hid (Zz vI (show uE O P C C' from ⟨f,B,M,g,HK.out.2,nw.out.2,vp,sj⟩));clear vI vp sj vv
     try go_wp2_with fail
     refine hK.out _ _ (dA.out _ aZ) (fun hHeld=>?_);clear hK K
     try simp only[put,sA,sB,sC]
     clear aZ;refine bc 5 (fun K hK=>?_);skip;refine Ez (by rfl) 101 (by rfl) (zC 101) (mX _) ?_;have kk:=al nJ (.cells (zC 101) 101);have aZ:Below V.heap.size V (nJ.alloc (.cells (zC 101) 101)):=hHeld.1.trans (kk.mono hHeld.1.size);have jS:=hid (Zz (jS.out.1.below kk) jS.out.2);have H7:Hid (St (nJ.alloc (.cells (zC 101) 101)) 101 nJ.heap.size (zC 101)/\V.heap.size<=nJ.heap.size):=(⟨St.new _ _ _,hHeld.1.size⟩);refine hK.out _ _ (dA.out _ aZ) (fun hHeld=>?_);clear hK K
     try simp only[put,sA,sB,sC]
     try simp only[jV]
     clear kk;generalize (nJ.alloc (.cells (zC 101) 101))=V7 at H7 jS hHeld aZ⊢;refine bc 6 (fun K hK=>?_);skip;refine DC (by rfl) 101 _ _ (by rfl) nJ.heap.size 101 (zC 101) P.cD (by rfl) (by rfl) H7.out.1 (by rw[jq,jS.out.1.sz]) (by rw[gO,jS.out.1.sz]) jS.out.1.one ?_;have HE:=hid (Zz (cZ.stored (jS.out.2.right HO.out.2.r) jS.out.1 H7.out.1) (Zz jS.out.2 (mT hHeld.1 H7.out.2 P.cD)));refine hK.out _ _ (dA.out _ HE.out.2.2) (fun hHeld=>?_);clear hK K
     try simp only[put,sA,sB,sC]
     refine wpAnyH_done (by kernel_rfl) ?_ _;clear hHeld;go_wp2_with fail
     go_meet
     exact⟨_,P,C',rfl,HE.out⟩
    refine ik (fun K hK=>?_) ?_
    ·skip;refine Ez (by rfl) 101 (by rfl) (zC 101) (mX _) ?_;have kk:=al w9 (.cells (zC 101) 101);have aZ:Below V.heap.size V (w9.alloc (.cells (zC 101) 101)):=hHeld.1.trans (kk.mono hHeld.1.size);have nw:=hid (Zz (nw.out.1.below kk) nw.out.2);have H7:Hid (St (w9.alloc (.cells (zC 101) 101)) 101 w9.heap.size (zC 101)/\V.heap.size<=w9.heap.size):=(⟨St.new _ _ _,hHeld.1.size⟩);refine hK.out _ _ (dA.out _ aZ) (fun hHeld=>?_);clear hK K
     try simp only[put,sA,sB,sC]
     try simp only[jV]
     clear kk;generalize (w9.alloc (.cells (zC 101) 101))=V7 at H7 nw hHeld aZ⊢;refine bc 4 (fun K hK=>?_);skip;go_simp;go_at_call 100;refine (KM M C (nw.out.2.right HO.out.2.r HK.out.2) _ nw.out.1).mono ?_;rintro e nJ ⟨P,g,C',rfl,vI,vp,sj,vv⟩;have H7:Hid (St nJ 101 w9.heap.size (zC 101)/\V.heap.size<=w9.heap.size):=(⟨H7.out.1.aa vv,H7.out.2⟩);have aZ:Below V.heap.size V nJ:=hHeld.1.trans (vv.mono hHeld.1.size);have jS:=hid (Zz vI (show uE O P C C' from ⟨f,B,M,g,HK.out.2,nw.out.2,vp,sj⟩));clear vI vp sj vv
     try go_wp2_with fail
     refine hK.out _ _ (dA.out _ aZ) (fun hHeld=>?_);clear hK K
     try simp only[put,sA,sB,sC]
     clear aZ;refine bc 6 (fun K hK=>?_);skip;refine DC (by rfl) 101 _ _ (by rfl) w9.heap.size 101 (zC 101) P.cD (by rfl) (by rfl) H7.out.1 (by rw[jq,jS.out.1.sz]) (by rw[gO,jS.out.1.sz]) jS.out.1.one ?_;have HE:=hid (Zz (cZ.stored (jS.out.2.right HO.out.2.r) jS.out.1 H7.out.1) (Zz jS.out.2 (mT hHeld.1 H7.out.2 P.cD)));refine hK.out _ _ (dA.out _ HE.out.2.2) (fun hHeld=>?_);clear hK K
     try simp only[put,sA,sB,sC]
     refine wpAnyH_done (by kernel_rfl) ?_ _;clear hHeld;go_wp2_with fail
     go_meet
     exact⟨_,P,C',rfl,HE.out⟩
    exact AllReadyH.nil
   refine ik (fun K hK=>?_) ?_
   ·skip;refine Ez (by rfl) 101 (by rfl) (zC 101) (mX _) ?_;have kk:=al w8 (.cells (zC 101) 101);have aZ:Below V.heap.size V (w8.alloc (.cells (zC 101) 101)):=hHeld.1.trans (kk.mono hHeld.1.size);have HK:=hid (Zz (HK.out.1.below kk) HK.out.2);have H7:Hid (St (w8.alloc (.cells (zC 101) 101)) 101 w8.heap.size (zC 101)/\V.heap.size<=w8.heap.size):=(⟨St.new _ _ _,hHeld.1.size⟩);refine hK.out _ _ (dA.out _ aZ) (fun hHeld=>?_);clear hK K
    try simp only[put,sA,sB,sC]
    try simp only[jV]
    clear kk;generalize (w8.alloc (.cells (zC 101) 101))=V7 at H7 HK hHeld aZ⊢;refine bc 3 (fun K hK=>?_);skip;go_simp;go_at_call 101;refine (Nw O C HO.out.2.r _ f B HK.out.2 aB cB _ hHeld.2.dm HK.out.1).mono ?_;rintro e w9 ⟨M,rfl,Aa,t1,t2,t3,t4,t5,t6,vv,_⟩;have H7:Hid (St w9 101 w8.heap.size (zC 101)/\V.heap.size<=w8.heap.size):=(⟨H7.out.1.aa vv,H7.out.2⟩);have aZ:Below V.heap.size V w9:=hHeld.1.trans (vv.mono hHeld.1.size);have nw:=hid (Zz Aa (show qE O C f B M from ⟨t1,t2,t3,t4,t5,t6⟩));clear Aa t1 t2 t3 t4 t5 t6 vv
    try go_wp2_with fail
    refine hK.out _ _ (dA.out _ aZ) (fun hHeld=>?_);clear hK K
    try simp only[put,sA,sB,sC]
    clear aZ;refine bc 4 (fun K hK=>?_);skip;go_simp;go_at_call 100;refine (KM M C (nw.out.2.right HO.out.2.r HK.out.2) _ nw.out.1).mono ?_;rintro e nJ ⟨P,g,C',rfl,vI,vp,sj,vv⟩;have H7:Hid (St nJ 101 w8.heap.size (zC 101)/\V.heap.size<=w8.heap.size):=(⟨H7.out.1.aa vv,H7.out.2⟩);have aZ:Below V.heap.size V nJ:=hHeld.1.trans (vv.mono hHeld.1.size);have jS:=hid (Zz vI (show uE O P C C' from ⟨f,B,M,g,HK.out.2,nw.out.2,vp,sj⟩));clear vI vp sj vv
    try go_wp2_with fail
    refine hK.out _ _ (dA.out _ aZ) (fun hHeld=>?_);clear hK K
    try simp only[put,sA,sB,sC]
    clear aZ;refine bc 6 (fun K hK=>?_);skip;refine DC (by rfl) 101 _ _ (by rfl) w8.heap.size 101 (zC 101) P.cD (by rfl) (by rfl) H7.out.1 (by rw[jq,jS.out.1.sz]) (by rw[gO,jS.out.1.sz]) jS.out.1.one ?_;have HE:=hid (Zz (cZ.stored (jS.out.2.right HO.out.2.r) jS.out.1 H7.out.1) (Zz jS.out.2 (mT hHeld.1 H7.out.2 P.cD)));refine hK.out _ _ (dA.out _ HE.out.2.2) (fun hHeld=>?_);clear hK K
    try simp only[put,sA,sB,sC]
    refine wpAnyH_done (by kernel_rfl) ?_ _;clear hHeld;go_wp2_with fail
    go_meet
    exact⟨_,P,C',rfl,HE.out⟩
   exact AllReadyH.nil
  refine ik (fun K hK=>?_) ?_
  ·skip;refine Ez (by rfl) 101 (by rfl) (zC 101) (mX _) ?_;have kk:=al V.drew (.cells (zC 101) 101);have aZ:Below V.heap.size V (V.drew.alloc (.cells (zC 101) 101)):=hHeld.1.trans (kk.mono hHeld.1.size);have H7:Hid (St (V.drew.alloc (.cells (zC 101) 101)) 101 V.heap.size (zC 101)/\V.heap.size<=V.heap.size):=(⟨St.new _ _ _,hHeld.1.size⟩);refine hK.out _ _ (dA.out _ aZ) (fun hHeld=>?_);clear hK K
   try simp only[put,sA,sB,sC]
   try simp only[jV]
   clear kk;generalize (V.drew.alloc (.cells (zC 101) 101))=V7 at H7 hHeld aZ⊢;refine bc 2 (fun K hK=>?_);skip;go_simp;go_at_call 102;refine (XC O C HO.out.2.r _ hHeld.2.dm).mono ?_;rintro e w8 ⟨f,B,aB,cB,rfl,ho,FP,vv⟩;have H7:Hid (St w8 101 V.heap.size (zC 101)/\V.heap.size<=V.heap.size):=(⟨H7.out.1.aa vv,H7.out.2⟩);have aZ:Below V.heap.size V w8:=hHeld.1.trans (vv.mono hHeld.1.size);have HK:=hid (Zz (SV ho) FP);clear ho FP vv
   try go_wp2_with fail
   refine hK.out _ _ (dA.out _ aZ) (fun hHeld=>?_);clear hK K
   try simp only[put,sA,sB,sC]
   clear aZ;refine bc 3 (fun K hK=>?_);skip;go_simp;go_at_call 101;refine (Nw O C HO.out.2.r _ f B HK.out.2 aB cB _ hHeld.2.dm HK.out.1).mono ?_;rintro e w9 ⟨M,rfl,Aa,t1,t2,t3,t4,t5,t6,vv,_⟩;have H7:Hid (St w9 101 V.heap.size (zC 101)/\V.heap.size<=V.heap.size):=(⟨H7.out.1.aa vv,H7.out.2⟩);have aZ:Below V.heap.size V w9:=hHeld.1.trans (vv.mono hHeld.1.size);have nw:=hid (Zz Aa (show qE O C f B M from ⟨t1,t2,t3,t4,t5,t6⟩));clear Aa t1 t2 t3 t4 t5 t6 vv
   try go_wp2_with fail
   refine hK.out _ _ (dA.out _ aZ) (fun hHeld=>?_);clear hK K
   try simp only[put,sA,sB,sC]
   clear aZ;refine bc 4 (fun K hK=>?_);skip;go_simp;go_at_call 100;refine (KM M C (nw.out.2.right HO.out.2.r HK.out.2) _ nw.out.1).mono ?_;rintro e nJ ⟨P,g,C',rfl,vI,vp,sj,vv⟩;have H7:Hid (St nJ 101 V.heap.size (zC 101)/\V.heap.size<=V.heap.size):=(⟨H7.out.1.aa vv,H7.out.2⟩);have aZ:Below V.heap.size V nJ:=hHeld.1.trans (vv.mono hHeld.1.size);have jS:=hid (Zz vI (show uE O P C C' from ⟨f,B,M,g,HK.out.2,nw.out.2,vp,sj⟩));clear vI vp sj vv
   try go_wp2_with fail
   refine hK.out _ _ (dA.out _ aZ) (fun hHeld=>?_);clear hK K
   try simp only[put,sA,sB,sC]
   clear aZ;refine bc 6 (fun K hK=>?_);skip;refine DC (by rfl) 101 _ _ (by rfl) V.heap.size 101 (zC 101) P.cD (by rfl) (by rfl) H7.out.1 (by rw[jq,jS.out.1.sz]) (by rw[gO,jS.out.1.sz]) jS.out.1.one ?_;have HE:=hid (Zz (cZ.stored (jS.out.2.right HO.out.2.r) jS.out.1 H7.out.1) (Zz jS.out.2 (mT hHeld.1 H7.out.2 P.cD)));refine hK.out _ _ (dA.out _ HE.out.2.2) (fun hHeld=>?_);clear hK K
   try simp only[put,sA,sB,sC]
   refine wpAnyH_done (by kernel_rfl) ?_ _;clear hHeld;go_wp2_with fail
   go_meet
   exact⟨_,P,C',rfl,HE.out⟩
  exact AllReadyH.nil
 case rest=>
  obtain⟨b5,P,C',rfl,Jy,M1,Ib⟩:=hcut;have HP:=hid (Zz Jy (Zz M1 Ib));have H5:Hid (St wc 101 b2 (zC 101)/\Below b0 w wc/\b0<=wc.heap.size):=⟨H4.out.1.aa Ib,H4.out.2.1.trans (Ib.mono H4.out.2.2),by have:=H4.out.2.2;have:=Ib.size;omega⟩
  obtain⟨k2,xo,CX⟩:=T7 (HP.out.2.1.right HO.out.2.r);have HOr:=hid (Rc P C' _ k2 rfl xo CX wc HP.out.1.dm (HP.out.2.1.right HO.out.2.r));have C5:=hid (Zz xo CX);clear Jy M1 Ib xo CX;go_wp2_with (refine nO (by rfl) 101 _ rfl ⟨b5,0,none⟩ rfl P.cD _ HP.out.1.st.part underlying101 rfl HP.out.1.dm.info ?_);refine HOr.out.mono ?_;rintro e wX ⟨X,rfl,Q4,t1,t2,t3,t4,t5,t6,bX,_⟩;have HX:=hid (uE.mn HO.out.2.r HO.out.2.ord HO.out.2.EY HP.out.2.1 rfl C5.out.1 C5.out.2 (X:=X) ⟨t1,t2,t3,t4,t5,t6⟩);have Lj:=hid Q4;have HXn:Hid (X.n<=D.n):=by have h1:=HP.out.2.1.le;have h2:=HO.out.2.le;have h3:=C5.out.2;show X.n<=D.n;omega
  have iw:=hid (H5.out.1.aa bX);have HF:Hid (UH D w (.returned (.tuple #[.agg X.cD,.int .i64 0])) (wX.setRow b2 X.cD)):=by
   have hb:Below w.heap.size w wX:=by
    have h:=H5.out.2.1.trans (bX.mono H5.out.2.2);rw[Hb.out.1];exact h
   refine⟨X,C',rfl,(cZ.stored HX.out.1.r Q4 iw.out).dm,HX.out.1,HX.out.2.trans HO.out.2.uY,HXn.out,mT hb (by have:=Hb.out.2;omega) _⟩
  clear Q4 t1 t2 t3 t4 t5 t6 bX HOr;go_wp2_with (refine ph rfl 101 _ _ rfl b2 101 (zC 101) X.cD rfl rfl iw.out (by rw[jq,Lj.out.sz]) (by rw[gO,Lj.out.sz]) Lj.out.one ?_);refine bodyPost_ret (CY rfl _ _ b2 X.cD _ rfl iw.out.setRow.part underlying101 rfl (by rw[gO,Lj.out.sz])) rfl ?_;exact HF.out
end Go.Proofs.YtiijebameffenaaGreat
