import Derived.Test.YtiijebameffenaaGreatZMUniq
import Derived.Test.YtiijebameffenaaGreatZPBy
import Derived.Laws.MakeOwn
set_option linter.all false
set_option maxHeartbeats 4000000
set_option maxRecDepth 100000
open Go.Lib (hid)
namespace Go.Proofs.YtiijebameffenaaGreat
open Go.RowKit Go.Maps Go.WideElems Go.ChangeMaps Go.MapKept Go.Proofs.Tryz
open Instr (fill lookup makeMap makeSlice mapUpdate)
open List (getD_eq_getElem?_getD getElem?_append_left getElem?_eq_getElem getElem_of_mem length_append length_map map_append mem_of_getElem? range range_succ replicate set_cons_succ set_cons_zero)
open Or (inl inr)
open Nat (le_refl zero_le)
open Act (put)
open IntKind (signed wrap)
variable {B C C' bM i k n:Nat}{D O P:Dd}{W0 w' w1:World}{a:Option Addr}{f g:Nat->Nat}{l nm:List Nat}{t:TypeId}{u v v':Value}
theorem Wi(n:Nat)(hn:n<=1000000)(W:World):(makeSlice 43 (.int .i64 0) (.int .i64 (n:Int))).run prog W=.ok (.slice (some ⟨W.heap.size,0,none⟩) 0 n) (W.alloc (.cells (madeCells #[.int .i64 0] n) 3)):=by
 obtain⟨i0,hi,dD,db,cW⟩:=info_parts az;have h:=run_makeSlice (P:=prog) W 43 3 i0 (.int .i64 0) underlying43 hi dD .i64 .i64 0 (n:Int) (by omega) (by omega) (by rw[db];simp;omega) (by rw[cW];omega) (by omega);have e:(Value.int .i64 0).cells=#[.int .i64 0]:=rfl;rw[db,e] at h;simpa using h
def dX(w:World)(k:TypeId)(b n:Nat)(Q:Value->Value->Prop):Prop:=
 ∃es clock,w.heap[b]?=some (.map es clock)/\Fit prog k fe es clock/\es.size=n/\(∀e∈es.toList,Q e.key e.val)/\∀x y,Q x y->∃e∈es.toList,e.key=x
theorem dX.ex{w:World}{k:TypeId}{b:Nat}{Q:Value->Value->Prop}(h:dX w k b n Q):aD w k b n Q:=by
 obtain⟨es,clock,h1,h2,h3,h4⟩:=h;exact⟨es,clock,h1,h2,by omega,h4⟩
theorem dX.made(w:World)(k:TypeId)(Q:Value->Value->Prop)(h0:∀x y,¬Q x y):dX (w.alloc (.map #[] 0)) k w.heap.size 0 Q:=
 ⟨#[],0,(MapKept.heap_alloc w _).1,⟨by simp,stamped_empty 0,by simp⟩,rfl,by simp,fun x y h=>absurd h (h0 x y)⟩
theorem dX.lt{w:World}{k:TypeId}{b:Nat}{Q:Value->Value->Prop}(h:dX w k b n Q):b<w.heap.size:=h.ex.lt
theorem dX.same{w:World}{k:TypeId}{b:Nat}{Q:Value->Value->Prop}(h:dX w k b n Q)(e:w'.heap[b]?=w.heap[b]?):dX w' k b n Q:=by
 obtain⟨es,clock,hb,r⟩:=h;exact⟨es,clock,e.trans hb,r⟩
theorem dX.ag{w:World}{t' size b N:Nat}{xs:List Value}{Q:Value->Value->Prop}(h:dX w k b N Q)(ho:w.ownsRow B t' size v n xs)(hg:w.grownBy w' v.ownBlock):dX w' k b N Q:=by
 refine h.same (hg.block b h.lt (fun e=>?_));obtain⟨c,fz,hc⟩:=pS ho b e.symm;obtain⟨es,clock,hb,_⟩:=h;rw[hc] at hb;cases hb
theorem dX.len{w:World}{k ty:TypeId}{b:Nat}{Q:Value->Value->Prop}(h:dX w k b n Q)(ht:prog.underlying t=some (.map (prog.mapKeyOf t) (prog.mapElemOf t))):(Builtin.len_ #[t] ty #[.map (some b)]).run prog w=.ok (.int .i64 (n:Int)) w:=by
 obtain⟨es,clock,hb,_,hs,_⟩:=h;rw[Go.run_len_map w t ty b es clock ht hb,hs];rfl
theorem dX.update{w:World}{k e:TypeId}{b:Nat}{Q Q':Value->Value->Prop}(h:dX w k b n Q)(K:Keyed prog k)(ht:prog.underlying t=some (.map k e))(hn:n<maxLen)
  {key val:Value}{kl:Lit}(ek:keyOf prog k key=some kl) (gD:∀y,¬Q key y) (hQ:∀x y,Q x y->Q' x y) (hv:Q' key val) (ni:∀x y,Q' x y->x≠key->∃y',Q x y'):
  ∃w',(mapUpdate t (.map (some b)) key val).run prog w=.ok () w'/\dX w' k b (n+1) Q'/\w.grownBy w' (some b):=by
 obtain⟨es,clock,hb,F,hs,hq,dU⟩:=h;have iN:∀x∈es.toList,x.key≠key:=fun x hx e0=>gD x.val (by rw[<-e0];exact hq x hx)
 obtain⟨F1,_,_⟩:=F.stay (R':=fe) (fun x hx z hz=>hz);have EV:WideElems.rd prog k fe ⟨key,val,clock⟩=some (kl,.held val):=by unfold WideElems.rd fe;rw[ek];rfl
 rcases K.find w ek es.toList F.keys with ⟨h1,h2⟩|⟨j,e0,h1,h2,h3⟩
 ·refine⟨setBlock w b (.map (es.push ⟨key,val,clock⟩) (clock+1)),?_,⟨es.push ⟨key,val,clock⟩,clock+1,heap_setBlock_same hb _,⟨by simp;omega,stamped_push F.stamped h2,?_⟩,by simp;omega,fun x hx=>?_,fun x y hx=>?_⟩,⟨rfl,rfl,rfl,by simp[setBlock],fun i _ hi=>heap_setBlock_other hb _ (fun e=>hi (by rw[e]))⟩⟩
  ·simp[mapUpdate,run_underlying ht,MapKept.run_getObj_map hb,K.check w false ek,h1,MapKept.run_setObj_map _ hb,Result.andThen,setBlock]
  ·intro x hx;simp only[Array.toList_push,List.mem_append,List.mem_singleton] at hx;rcases hx with hx|rfl
   ·exact F1.reads x hx
   exact⟨_,EV⟩
  ·simp only[Array.toList_push,List.mem_append,List.mem_singleton] at hx;rcases hx with hx|rfl
   ·exact hQ _ _ (hq x hx)
   exact hv
  by_cases e0:x=key
  ·exact⟨⟨key,val,clock⟩,by rw[Array.toList_push];exact List.mem_append_right _ (List.mem_singleton.2 rfl),e0.symm⟩
  obtain⟨y',hy⟩:=ni x y hx e0;obtain⟨e1,h4,h5⟩:=dU x y' hy;exact⟨e1,by rw[Array.toList_push];exact List.mem_append_left _ h4,h5⟩
 exact absurd h3 (iN e0 (mem_of_getElem? h2))
theorem WZ(n:Nat)(hn:n<=1000000)(W:World)(B:Nat)(hB:B<=W.heap.size):(W.alloc (.cells (madeCells #[.int .i64 0] n) 3)).ownsRow B 3 1 (.slice (some ⟨W.heap.size,0,none⟩) 0 n) 0 []:=
 World.ownsRow_made W _ n hB (by unfold maxLen;omega) (by have:=size_madeCells #[Value.int .i64 0] n;simpa using this)
def zpk(l:List Nat)(n:Nat)(w:World)(e:Ending)(w':World):Prop:=
 ∃(f:Nat->Nat) (B:Nat) (a:Option Addr) (c:Nat),e=.returned (.slice a n c)/\w'.ownsRow w.heap.size 3 1 (.slice a n c) n (cy ((range n).map f))/\fa (fun i j=>l.getD i 0=l.getD j 0) n f B/\Below w.heap.size w w'
structure r8 (W0:World)(l:List Nat)(bM k:Nat)(v:Value)(nm:List Nat)(f:Nat->Nat)(w:World):Prop where
 below:Below W0.heap.size W0 w
 map:dX w 3 bM nm.length (y8 nm)
 own:w.ownsRow W0.heap.size 3 1 v k (cy ((range k).map f))
 at_:∀i,i<k->nm[f i]?=some (l.getD i 0)
 num:fa (fun i j=>l.getD i 0=l.getD j 0) k f nm.length
 lo:W0.heap.size<=bM
 nk:nm.length<=k
theorem r8.mem{w:World}(h:r8 W0 l bM k v nm f w)(y:Nat):y∈nm↔∃i,i<k/\l.getD i 0=y:=by
 constructor
 ·intro hm;obtain⟨b,hb,e⟩:=getElem_of_mem hm;obtain⟨i,h1,h2,_⟩:=h.num.new b hb;refine⟨i,h1,?_⟩;have:=h.at_ i h1;rw[h2,getElem?_eq_getElem hb,e] at this;exact (Option.some.inj this).symm
 rintro⟨i,hi,rfl⟩;exact mem_of_getElem? (h.at_ i hi)
theorem YR(f:Nat->Nat)(k b:Nat):cy ((range (k+1)).map fun i=>if i=k then b else f i)=cy ((range k).map f)++[.int .i64 (b:Int)]:=by
 rw[range_succ,map_append,cy,map_append];congr 1
 ·unfold cy;congr 1;refine List.map_congr_left fun i hi=>?_
  have:=List.mem_range.1 hi;rw[if_neg (by omega)]
 simp
theorem zgq(W:World):(makeMap 191 none).run prog W=.ok (.map (some W.heap.size)) (W.alloc (.map #[] 0)):=by
 kernel_rfl
theorem r8.look{w:World}(h:r8 W0 l bM k v nm f w)(hk:l.getD k 0<=1000000):
  (∃b,nm[b]?=some (l.getD k 0)/\(lookup 191 (.map (some bM)) (.int .i64 ((l.getD k 0:Nat):Int)) true).run prog w=.ok (.tuple #[.int .i64 ((b:Nat):Int),.bool true]) w)\/
  (l.getD k 0∉nm/\(lookup 191 (.map (some bM)) (.int .i64 ((l.getD k 0:Nat):Int)) true).run prog w=.ok (.tuple #[.int .i64 0,.bool false]) w):=by
 rcases h.map.ex.pj CF underlying191 (MK w) (Ks _ (by omega:l.getD k 0<=9223372036854775807)) with ⟨bU,iN⟩|⟨v,⟨b,s,h1,h2,rfl⟩,bU⟩
 ·refine inr ⟨fun hm=>?_,bU⟩;obtain⟨b,hb,e⟩:=getElem_of_mem hm;exact iN _ ⟨b,l.getD k 0,by rw[getElem?_eq_getElem hb,e],rfl,rfl⟩
 exact inl ⟨b,by rw[QD h2];exact h1,bU⟩
theorem r8.aa{w:World}(h:r8 W0 l bM k v nm f w)(kk:Below w.heap.size w w1):r8 W0 l bM k v nm f w1:=
 ⟨h.below.trans (kk.mono h.below.size),h.map.same (kk.block _ h.map.lt),dp h.own kk,h.at_,h.num,h.lo,h.nk⟩
theorem r8.old{w:World}{b:Nat}(h:r8 W0 l bM k v nm f w)(hb:nm[b]?=some (l.getD k 0))
  (ho:w'.ownsRow W0.heap.size 3 1 v' (k+1) (cy ((range k).map f)++[.int .i64 (b:Int)])) (hg:w.grownBy w' v.ownBlock):∃f',r8 W0 l bM (k+1) v' nm f' w':=by
 have ey:b<nm.length:=(List.getElem?_eq_some_iff.1 hb).1;obtain⟨i,h1,h2,_⟩:=h.num.new b ey;have hi:=h.at_ i h1;rw[h2,hb] at hi;have hi:=Option.some.inj hi;refine⟨fun j=>if j=k then b else f j,fH h.below h.own h.below.size hg,h.map.ag h.own hg,by rw[YR];exact ho,fun j hj=>?_,?_,h.lo,by have:=h.nk;omega⟩
 ·by_cases e:j=k
  ·simp only[if_pos e];rw[e];exact hb
  simp only[if_neg e];exact h.at_ j (by omega)
 have:=h.num.old (fun i j e=>e.symm) (fun i j l e e2=>e.trans e2) (fun i=>rfl) h1 hi.symm;rw[h2] at this;exact this
theorem r8.fresh{w:World}(h:r8 W0 l bM k v nm f w)(hb:l.getD k 0∉nm)(hm:dX w1 3 bM (nm.length+1) (y8 (nm++[l.getD k 0])))(kj:w.grownBy w1 (some bM))
  (w2:World) (k2:Below w1.heap.size w1 w2) (hg:w2.grownBy w' v.ownBlock) (ho:w'.ownsRow W0.heap.size 3 1 v' (k+1) (cy ((range k).map f)++[.int .i64 (nm.length:Int)])):∃f',r8 W0 l bM (k+1) v' (nm++[l.getD k 0]) f' w':=by
 have mg:Below W0.heap.size W0 w1:=h.below.grown kj h.below.size (fun g e=>by injection e with e;rw[<-e];exact h.lo);have mo:=mg.trans (k2.mono mg.size);have o2:=dp (yG h.own h.map.ex.of kj) k2;have m2:=hm.same (k2.block _ hm.lt);refine⟨fun j=>if j=k then nm.length else f j,fH mo o2 mo.size hg,by rw[length_append];exact m2.ag o2 hg,by rw[YR];exact ho,fun j hj=>?_,?_,h.lo,by have:=h.nk;simp;omega⟩
 ·by_cases e:j=k
  ·simp only[if_pos e];rw[e];simp
  simp only[if_neg e];have:=h.at_ j (by omega);rw[getElem?_append_left (List.getElem?_eq_some_iff.1 this).1];exact this
 have:=h.num.fresh (fun i j e=>e.symm) (fun i=>rfl) (fun i hi e=>hb ((h.mem _).2 ⟨i,hi,e⟩));rw[length_append];exact this
theorem zoe{w:World}{x:Nat}(h:dX w 3 bM nm.length (y8 nm))(hx:x<=1000000)(hn:nm.length<maxLen)(hb:x∉nm):
  ∃w',(mapUpdate 191 (.map (some bM)) (.int .i64 (x:Int)) (.int .i64 (nm.length:Int))).run prog w=.ok () w'/\dX w' 3 bM (nm.length+1) (y8 (nm++[x]))/\w.grownBy w' (some bM):=by
 refine h.update CF underlying191 hn (Ks _ (by omega)) ?_ ?_ ?_ ?_
 ·rintro y ⟨k,s,h1,h2,_⟩;rw[<-QD h2] at h1;exact hb (mem_of_getElem? h1)
 ·rintro a b ⟨k,s,h1,h2,h3⟩;exact⟨k,s,by rw[getElem?_append_left (List.getElem?_eq_some_iff.1 h1).1];exact h1,h2,h3⟩
 ·exact⟨nm.length,x,by simp,rfl,rfl⟩
 rintro a b ⟨k,s,h1,h2,h3⟩ hne;by_cases e:k<nm.length
 ·rw[getElem?_append_left e] at h1;exact⟨b,k,s,h1,h2,h3⟩
 rw[List.getElem?_append_right (by omega)] at h1;cases hj:k-nm.length with
 | zero=>rw[hj] at h1;simp at h1;exact absurd (by rw[h2,h1]) hne
 | succ j=>rw[hj] at h1;simp at h1
theorem zfx(l:List Nat)(n:Nat)(hl:l.length=n)(hn:n<=100000)(hb:∀x∈l,x<=1000000)(a:Option Addr)(c:Nat)(w:World)(hL:nH w a l):Calls prog 133 #[.slice a n c] w (zpk l n w):=by
 have iJ:=zgq;have iZ:=Wi n (by omega);have HX:=hid (Zz hl (Zz hb hL));clear hl hb hL;go_enter func133,ntmps133;go_upto_region 3 with fail;obtain⟨bM,qZ⟩:∃bM,w.heap.size+1=bM:=⟨_,rfl⟩
 obtain⟨b0,bc⟩:∃b0,w.heap.size=b0:=⟨_,rfl⟩
 obtain⟨W2,lY⟩:∃W2,(w.alloc (.cells (madeCells #[.int .i64 0] n) 3)).alloc (.map #[] 0)=W2:=⟨_,rfl⟩
 have da:(w.alloc (.cells (madeCells #[.int .i64 0] n) 3)).heap.size=bM:=by rw[<-qZ];simp
 have k1:=al w (.cells (madeCells #[.int .i64 0] n) 3);have k2:=al (w.alloc (.cells (madeCells #[.int .i64 0] n) 3)) (.map #[] 0);have Ha:r8 w l bM 0 (.slice (some ⟨b0,0,none⟩) 0 n) [] (fun _=>0) W2:=by
  have hO:=dp (WZ n (by omega) w w.heap.size (le_refl _)) k2;rw[lY,bc] at hO;refine⟨by rw[<-lY];exact k1.trans (k2.mono (by simp)),?_,by rw[bc];exact hO,fun i hi=>absurd hi (by omega),fa.zero _,by omega,by simp⟩;have:=dX.made (w.alloc (.cells (madeCells #[.int .i64 0] n) 3)) 3 (y8 []) (fun x y h=>by
   obtain⟨k,s,h1,_⟩:=h
   simp at h1)
  rw[lY,da] at this;exact this
 have tW:=hid Ha;clear Ha k1 k2
 try rw[qZ]
 try rw[lY]
 try rw[bc]
 have Hb:=hid (Zz qZ bc);clear qZ bc lY da;go_wp2;go_loopw [3,6,7,8,15] (fun v3 _ _ _ vk wr=>∃k:Nat,vk=.int .i64 k/\k<=n/\(∃a3 c3,v3=.slice a3 k c3)/\Hid (∃nm f,r8 w l bM k v3 nm f wr)) (fun _ _ _ _ v _=>n-(intOf v).toNat)
 ·exact⟨0,rfl,zero_le _,⟨_,_,rfl⟩,_,_,tW.out⟩
 obtain⟨k,rfl,hk,⟨a3,c3,rfl⟩,HL⟩:=hrel;by_cases aw:k<n
 ·obtain⟨nm,f,hI⟩:=HL.out;obtain⟨g,off,rfl,hg,hc⟩:=HX.out.2.2 (by have:=HX.out.1;omega);have d0:=(hI.below.cell (p:=⟨g,off+k,none⟩) hg).trans (hc k (by have:=HX.out.1;omega));simp only[] at d0;have Kn:l.getD k 0<=1000000:=by
   by_cases e:k<l.length
   ·rw[getD_eq_getElem?_getD,getElem?_eq_getElem e];exact HX.out.2.1 _ (List.getElem_mem e)
   rw[getD_eq_getElem?_getD,List.getElem?_eq_none (by omega)];simp
  have dE:=hI.look Kn;have i1:(k:Int)<n:=by omega
  have F4:=hI.nk;obtain⟨m,hm⟩:∃m,nm.length=m:=⟨_,rfl⟩
  obtain⟨i0,hi,dD,db,cW⟩:=info_parts az;have sb:=hI.below.size;have HI:=hid hI;have hlen:=hI.map.len (ty:=3) (t:=191) (by rw[underlying191];rfl);rw[hm] at F4 hlen;clear hc hg hI HL;rcases dE with ⟨b,hb,bU⟩|⟨hb,bU⟩
  ·have Hb:=hid hb;clear hlen hb;obtain⟨x,hx⟩:∃x,l.getD k 0=x:=(⟨_,rfl⟩);rw[hx] at d0 bU Kn;go_wp2_with (at_builtin;refine wpList_append_own_at _ rfl _ _ 43 rfl w.heap.size 3 i0 (.int .i64 0) 1 8 underlying43 hi dD db cW rfl (by decide) _ _ _ rfl (HI.out.own.alloc _) ⟨wr.heap.size,0,none⟩ 1 1 [.int .i64 (b:Int)] rfl rfl (cell_one_new _ _ _) ?d2 ?d3 ?d4 ?d5 ?_)
   case d2=>first|(intro u hu;simp at hu;subst hu;rfl)|rfl
   case d3=>unfold maxLen;omega
   case d4=>omega
   case d5=>first|(simp;omega)|omega
   intro v' w5 ak aj _ bg;obtain⟨a5,c5,rfl⟩:=bF ak;have HF:=hid ((HI.out.aa (al wr (.cells #[.int .i64 (b:Int)] 3))).old Hb.out ak aj);clear ak aj bg;go_wp2;go_roundw
   ·exact⟨k+1,by go_num,by omega,⟨_,_,rfl⟩,nm,HF.out⟩
   simp[intOf];omega
  obtain⟨w1,yH,nc,kj⟩:=zoe HI.out.map Kn (by unfold maxLen;omega) hb;have NC:=hid (Zz hb (Zz nc kj));have AL:=yG HI.out.own HI.out.map.ex.of kj;rw[hm] at yH;have Qa:=(HI.out.below.grown kj sb (fun g e=>by injection e with e;rw[<-e];exact HI.out.lo)).size;clear nc kj hb;obtain⟨x,hx⟩:∃x,l.getD k 0=x:=⟨_,rfl⟩
  rw[hx] at d0 bU Kn yH;go_wp2_with (at_builtin;refine wpList_append_own_at _ rfl _ _ 43 rfl w.heap.size 3 i0 (.int .i64 0) 1 8 underlying43 hi dD db cW rfl (by decide) _ _ _ rfl (AL.alloc _) ⟨w1.heap.size,0,none⟩ 1 1 [.int .i64 (m:Int)] rfl rfl (cell_one_new _ _ _) ?d2 ?d3 ?d4 ?d5 ?_)
  case d2=>first|(intro u hu;simp at hu;subst hu;rfl)|rfl
  case d3=>unfold maxLen;omega
  case d4=>omega
  case d5=>first|(simp;omega)|omega
  intro v' w5 ak aj _ bg;obtain⟨a5,c5,rfl⟩:=bF ak;have HF:=hid (HI.out.fresh NC.out.1 NC.out.2.1 NC.out.2.2 _ (al w1 (.cells #[.int .i64 (m:Int)] 3)) aj (by rw[hm];exact ak));clear ak aj bg AL;go_wp2;go_roundw
  ·exact⟨k+1,by go_num,by omega,⟨_,_,rfl⟩,_,HF.out⟩
  simp[intOf];omega
 obtain rfl:k=n:=by omega
 obtain⟨nm,f,hI⟩:=HL.out;have HI:=hid hI;clear hI HL;go_wp2;go_ret;exact⟨f,nm.length,a3,c3,rfl,HI.out.own,HI.out.num,HI.out.below⟩
def Uw(D:Dd)(C:Nat)(w:World)(e:Ending)(w':World):Prop:=
 ∃(f:Nat->Nat) (B:Nat) (a:Option Addr) (c:Nat),e=.returned (.slice a D.n c)/\w'.ownsRow w.heap.size 3 1 (.slice a D.n c) D.n (cy ((range D.n).map f))/\fa (la C (tD D) (mD D)) D.n f B/\Below w.heap.size w w'
theorem nH.Gv{w:World}(h:nH w a l)(n:Nat)(hn:n<=l.length):nH w a (l.take n):=by
 intro h0;have e:(l.take n).length=n:=by rw[List.length_take];omega
 rw[e] at h0;obtain⟨g,off,e1,hg,hc⟩:=h (by omega);refine⟨g,off,e1,hg,fun j hj=>?_⟩;rw[e] at hj;rw[hc j (by omega)];simp only[];rw[getD_eq_getElem?_getD,getD_eq_getElem?_getD,List.getElem?_take_of_lt hj]
theorem fa.rel{R R':Nat->Nat->Prop}(h:fa R n f B)(e:∀i j,i<n->j<n->(R i j↔R' i j)):fa R' n f B:=
 ⟨fun i j hi hj=>(h.same i j hi hj).trans (e i j hi hj),h.lt,h.new⟩
theorem SL(D:Dd)(C:Nat)(hR:DR D C)(w:World)(hD:DM w D):Calls prog 102 #[.agg D.cD] w (Uw D C w):=by
 have HB:=hid (Zz (dc.new hD) (Zz (al w (.cells D.cD 101)) hR));clear hD hR;go_enter func102,ntmps102;go_upto_region 1 with fail;generalize w.alloc (.cells D.cD 101)=W0 at HB⊢;obtain⟨b0,bc⟩:∃b0,w.heap.size=b0:=⟨_,rfl⟩
 rw[bc] at HB;rw[bc];have dO:=hid bc;have Ge:b0<=W0.heap.size:=by have:=HB.out.2.1.size;omega
 clear bc;have sY:=hid (Jc D C HB.out.2.2 W0 HB.out.1.dm);go_wp2_with (refine oa (by rfl) 101 _ rfl ⟨b0,0,none⟩ rfl D.cD _ HB.out.1.st.part underlying101 rfl HB.out.1.dm.info ?_);refine sY.out.mono ?_;rintro e w1 ⟨rfl,b1⟩;have H1:=hid (Zz (HB.out.1.aa b1) (HB.out.2.1.trans (b1.mono Ge)));have fw:b0<=w1.heap.size:=by have:=b1.size;omega
 have XI:=hid (zgr D C HB.out.2.2 w1 H1.out.1.dm);clear b1 sY;go_wp2_with (refine oa (by rfl) 101 _ rfl ⟨b0,0,none⟩ rfl D.cD _ H1.out.1.st.part underlying101 rfl H1.out.1.dm.info ?_);refine XI.out.mono ?_;rintro e w2 ⟨bl,a,c,rfl,ey,I9,hc,hO,heq,b2⟩;have H2:=hid (Zz (H1.out.1.aa b2) (H1.out.2.trans (b2.mono fw)));have cv:b0<=w2.heap.size:=by have:=b2.size;omega
 have dj:=HB.out.2.2.n2;have wV:(bl.take D.n).length=D.n:=by rw[List.length_take];omega
 have Cc:=hid (zfx (bl.take D.n) D.n wV (by omega) (fun x hx=>by have:=I9 x (List.mem_of_mem_take hx);omega) a c w2 ((uj hO ey).Gv D.n (by omega)));have Heq:Hid (∀i j,i<D.n->j<D.n->((bl.take D.n).getD i 0=(bl.take D.n).getD j 0↔la C (tD D) (mD D) i j)):=by
  show ∀i j,_;intro i j hi hj;rw[<-heq i j (by omega) (by omega)];simp only[getD_eq_getElem?_getD,List.getElem?_take_of_lt hi,List.getElem?_take_of_lt hj]
 have f1:=H2.out.1.f1;have i1:(D.n:Int)<=(c:Int):=by omega
 have pI:D.n<=c:=by omega
 clear b2 XI hO heq I9 ey wV;go_wp2_with fail;refine Cc.out.mono ?_;rintro e w3 ⟨f,B,a3,c3,rfl,VS,Gs,b3⟩;have HF:Hid (Uw D C w (.returned (.slice a3 D.n c3)) w3):=by
  refine⟨f,B,a3,c3,rfl,jF VS (by rw[dO.out];exact cv),Gs.rel Heq.out,?_⟩;rw[dO.out];exact H2.out.2.trans (b3.mono cv)
 clear VS Gs b3;go_wp2;go_ret;exact HF.out
theorem Wh{w:World}{c:Nat}(h:w.ownsRow B 3 1 (.slice a n c) n (cy ((range n).map f))):lb w a n (fun i=>((f i:Nat):Int)):=by
 intro h0;obtain⟨g,e,h1,h2,h3⟩:=eR h h0;refine⟨g,0,e,h2,fun j hj=>?_⟩;have:=(h3 j (by omega)).1;rw[Nat.zero_add,this];simp[cy,hj]
def XK(z:Nat->Int)(l:List Nat)(m:Nat)(w:World)(e:Ending)(w':World):Prop:=
 ∃(a:Option Addr) (c:Nat),e=.returned (.slice a m c)/\w'.ownsRow w.heap.size 3 1 (.slice a m c) m (ints (l.map z))/\Below w.heap.size w w'
theorem zj8(z:Nat->Int)(l:List Nat)(k:Nat)(hk:k<l.length):ints ((l.take (k+1)).map z)=ints ((l.take k).map z)++[.int .i64 (z (l.getD k 0))]:=by
 rw[List.take_succ_eq_append_getElem hk,map_append,getD_eq_getElem?_getD,getElem?_eq_getElem hk];simp[ints]
theorem WK(z:Nat->Int)(N:Nat)(l:List Nat)(m:Nat)(hm:l.length=m)(nc:m<=100000)(hN:N<=100000)(hl:∀x∈l,x<N)(a1 a2:Option Addr)(c1 c2:Nat)(w:World)(hZ:lb w a1 N z)(hL:nH w a2 l):
  Calls prog 131 #[.slice a1 N c1,.slice a2 m c2] w (XK z l m w):=by
 have iZ:=Wi m (by omega);have HX:=hid (Zz hm (Zz hl (Zz hZ hL)));clear hm hl hZ hL;go_enter func131,ntmps131;go_upto_region 2 with fail;obtain⟨b0,bc⟩:∃b0,w.heap.size=b0:=⟨_,rfl⟩
 obtain⟨W2,lY⟩:∃W2,w.alloc (.cells (madeCells #[.int .i64 0] m) 3)=W2:=⟨_,rfl⟩
 have k1:=al w (.cells (madeCells #[.int .i64 0] m) 3);have hO:=WZ m (by omega) w w.heap.size (le_refl _);rw[lY] at hO k1;have tW:Hid (Below w.heap.size w W2/\W2.ownsRow w.heap.size 3 1 (.slice (some ⟨b0,0,none⟩) 0 m) 0 (ints ((l.take 0).map z))):=⟨k1,by rw[<-bc];simpa [ints] using hO⟩
 clear hO k1
 try rw[lY]
 try rw[bc]
 have Hb:=hid bc;clear bc lY;go_wp2;go_loopw [5,7,13] (fun v5 _ vk wr=>∃k:Nat,vk=.int .i64 k/\k<=m/\(∃a c,v5=.slice a k c)/\Hid (Below w.heap.size w wr/\wr.ownsRow w.heap.size 3 1 v5 k (ints ((l.take k).map z)))) (fun _ _ v _=>m-(intOf v).toNat)
 ·exact⟨0,rfl,zero_le _,⟨_,_,rfl⟩,tW.out⟩
 clear tW;obtain⟨k,rfl,hk,⟨a5,c5,rfl⟩,HL⟩:=hrel;by_cases aw:k<m
 ·have hkl:k<l.length:=by have:=HX.out.1;omega
  obtain⟨g,off,rfl,hg,hc⟩:=HX.out.2.2.2 (by omega);have d0:=(HL.out.1.cell (p:=⟨g,off+k,none⟩) hg).trans (hc k hkl);simp only[] at d0;have hx:l.getD k 0<N:=by
   rw[getD_eq_getElem?_getD,getElem?_eq_getElem hkl];exact HX.out.2.1 _ (List.getElem_mem hkl)
  obtain⟨g1,NR,rfl,kj,pI⟩:=HX.out.2.2.1 (by omega);have d1:=(HL.out.1.cell (p:=⟨g1,NR+l.getD k 0,none⟩) kj).trans (pI _ hx);have HE:=hid (zj8 z l k hkl);have sb:=HL.out.1.size;obtain⟨i0,xB,dD,db,cW⟩:=info_parts az;have i1:(k:Int)<m:=by omega
  clear hc hg pI kj;obtain⟨x,CX⟩:∃x,l.getD k 0=x:=⟨_,rfl⟩
  rw[CX] at d0 d1 hx HE;obtain⟨y,D3⟩:∃y,z x=y:=⟨_,rfl⟩
  rw[D3] at d1 HE;clear CX D3;have i2:(x:Int)<N:=by omega
  have zT:=HL.out.2;go_wp2_with (at_builtin;refine wpList_append_own_at _ rfl _ _ 43 rfl w.heap.size 3 i0 (.int .i64 0) 1 8 underlying43 xB dD db cW rfl (by decide) _ _ _ rfl (zT.alloc _) ⟨wr.heap.size,0,none⟩ 1 1 [.int .i64 y] rfl rfl (cell_one_new _ _ _) ?d2 ?d3 ?d4 ?d5 ?_)
  case d2=>first|(intro u hu;simp at hu;subst hu;rfl)|rfl
  case d3=>unfold maxLen;omega
  case d4=>omega
  case d5=>first|(simp;omega)|omega
  intro v' w5 ak aj _ bg;obtain⟨a6,c6,rfl⟩:=bF ak;have HF:Hid (Below w.heap.size w w5/\w5.ownsRow w.heap.size 3 1 (.slice a6 (k+1) c6) (k+1) (ints ((l.take (k+1)).map z))):=by
   have k9:=al wr (.cells #[.int .i64 y] 3);exact⟨fH (HL.out.1.trans (k9.mono sb)) (dp HL.out.2 k9) (by simp;omega) aj,by rw[HE.out];first|exact ak|(rw[List.map_take];exact ak)⟩
  clear ak aj bg zT;go_wp2;go_roundw
  ·exact⟨k+1,by go_num,by omega,⟨_,_,rfl⟩,HF.out⟩
  simp[intOf];omega
 obtain rfl:k=m:=by omega
 have HF:Hid (XK z l k w (.returned (.slice a5 k c5)) wr):=by
  have e:l.take k=l:=List.take_of_length_le (by have:=HX.out.1;omega);have h:=HL.out;rw[e] at h;exact⟨a5,c5,rfl,h.2,h.1⟩
 clear HL;go_wp2;go_ret;exact HF.out
def pV(D:Dd)(C:Nat)(f:Nat->Nat)(l:List Nat):List (List Int):=l.map fun i=>(range C).map (jV D f i)
theorem zl5{α:Type}(l:List Nat)(g:Nat->α)(n:Nat)(h:n=l.length):l.map g=(range n).map fun b=>g (l.getD b 0):=by
 subst h;apply List.ext_getElem?;intro i;by_cases hi:i<l.length
 ·simp[getD_eq_getElem?_getD,hi]
 simp[hi]
theorem N1(D:Dd)(C:Nat)(hR:DR D C)(R:Nat->Nat->Prop)(f:Nat->Nat)(B:Nat)(hN:fa R D.n f B)(a:Option Addr)(cp:Nat)(w:World)(hD:DM w D)(hL:lb w a D.n (fun i=>((f i:Nat):Int))):
  Calls prog 101 #[.agg D.cD,.slice a D.n cp] w (CW D C B (fun b c=>jV D f ((bp f D.n).getD b 0) c) (fun b=>D.q ((bp f D.n).getD b 0)) w):=by
 have dj:=hR.n2;have fA:=hR.n1;have nV:=hR.m;have Ah:=(hR.ke hD.kl).2;have HB:=hid (Zz (dc.new hD) (Zz (al w (.cells D.cD 101)) (Zz hR (Zz hN hL))));obtain⟨iI,hI,pT,qd,qb⟩:=info_parts az;obtain⟨iV,hV,ur,ub,uC⟩:=info_parts dP;clear hD hR hN hL;go_enter func101,ntmps101;go_upto_region 1 with (refine rB rfl 101 rfl (zC 101) (nG _) ?_)
 try simp only[put,List.setIfInBounds_toArray,set_cons_zero,set_cons_succ,Ib]
 have H0:Hid (dc ((w.alloc (.cells D.cD 101)).alloc (.cells (zC 101) 101)) w.heap.size D/\St ((w.alloc (.cells D.cD 101)).alloc (.cells (zC 101) 101)) 101 (w.heap.size+1) (zC 101)/\Below w.heap.size w ((w.alloc (.cells D.cD 101)).alloc (.cells (zC 101) 101))):=by
  refine⟨HB.out.1.aa (al _ _),?_,HB.out.2.1.trans ((al _ _).mono (by simp))⟩;have:=St.new (w.alloc (.cells D.cD 101)) 101 (zC 101);simpa using this
 generalize (w.alloc (.cells D.cD 101)).alloc (.cells (zC 101) 101)=Wn at H0⊢;obtain⟨b2,cv⟩:∃b2,w.heap.size+1=b2:=⟨_,rfl⟩
 obtain⟨b0,bc⟩:∃b0,w.heap.size=b0:=⟨_,rfl⟩
 rw[cv,bc] at H0;rw[cv,bc];have Hb:=hid (Zz bc cv);clear cv bc;have sO:=hid H0.out.1;have k5:=al Wn (.cells (zC 101) 101);have gj:St (Wn.alloc (.cells (zC 101) 101)) 101 Wn.heap.size (zC 101):=St.new _ _ _;have F0:gZ Wn Wn.heap.size D.K C (.slice none 0 0) (pV D C f (bp f 0)) (fun _=>.slice none 0 0) (.slice none 0 0) ((bp f 0).map D.q) ((Wn.alloc (.cells (zC 101) 101)).setRow Wn.heap.size (df D.K (.slice none 0 0) (.slice none 0 0))):=gZ.start (V0:=Wn) (K:=D.K) (C:=C) (ws:=fun _=>.slice none 0 0) (a:=none) (c:=0) (ms:=[]) (World.ownsRow_nil _ _ _ _) rfl k5 gj (le_refl _);have jy:=hid F0;have iG:=hid gj;clear k5 gj F0;go_upto_region 2 with (first
  | (refine si rfl 98 _ rfl ⟨b0,0,none⟩ rfl (aY D.K) (.array 256 5) sO.out.eo underlying98 rfl (y9 D.K) ?_)
  | (refine BU rfl 101 _ rfl #[(0,.agg (aY D.K))] (by first|rfl|kernel_rfl|(go_simp;done)) (.agg (df D.K (.slice none 0 0) (.slice none 0 0))) (Sl D.K _) ?_)
  | (refine rB rfl 101 rfl (zC 101) (nG _) ?_)
  | (refine pN rfl 101 _ _ rfl Wn.heap.size 101 (zC 101) (df D.K (.slice none 0 0) (.slice none 0 0)) rfl rfl iG.out (by rw[jA,mw]) (by rw[gO,mw]) (xe _ _ _ _ _ _ _) ?_))
 simp only[put,sA,sB,sC];obtain⟨b4,iM⟩:∃b4,Wn.heap.size=b4:=⟨_,rfl⟩
 have Fk:=hid iM;rw[iM] at jy;rw[iM];generalize (Wn.alloc (.cells (zC 101) 101)).setRow b4 (df D.K (.slice none 0 0) (.slice none 0 0))=W4 at jy⊢;clear iM iG;obtain⟨gL,oL,rfl,CL,A4⟩:=HB.out.2.2.2.2 (by omega);have IE:=hid (Zz CL A4);clear CL A4;go_wp2;go_loopw [6,7,8,9,10,16] (fun _ _ _ _ _ v wr=>∃(i:Nat) (ws:Nat->Value) (aN aK:Option Addr) (p cN cK:Nat),v=.int .i64 i/\i<=D.n/\p<=i/\Hid (p=(bp f i).length/\gZ Wn b4 D.K C (.slice aN p cN) (pV D C f (bp f i)) ws (.slice aK p cK) ((bp f i).map D.q) wr)) (fun _ _ _ _ _ v _=>D.n-(intOf v).toNat)
 ·exact⟨0,_,none,none,0,0,0,rfl,by omega,by omega,rfl,jy.out⟩
 clear jy;obtain⟨i,ws,aN,aK,p,cN,cK,rfl,hi,MY,HP,HT⟩:=hrel;by_cases aw:i<D.n
 ·have aJ:w.heap.size<=Wn.heap.size:=H0.out.2.2.size;have Vs:Hid (∀W',Below Wn.heap.size Wn W'->∀j,j<D.n->W'.cell? ⟨gL,oL+j,none⟩=some (.int .i64 ((f j:Nat):Int))):=fun W' h j hj=>((H0.out.2.2.trans (h.mono (by rw[<-Hb.out.1];exact aJ))).cell (p:=⟨gL,oL+j,none⟩) (by rw[<-Hb.out.1];exact IE.out.1)).trans (IE.out.2 j hj)
  have d0:=Vs.out wr HT.aU i aw;have fb:=HT.f1;have zF:=HB.out.2.2.2.1.bp i (by omega);have gK:=zF.2.2 aw;rw[<-HP] at gK;have i1:(i:Int)<(D.n:Int):=by omega
  have hp32:p<=32768:=by omega
  have zZ:=hid HT;have Fh:=hid HP;obtain⟨fi,Ln⟩:∃fi,f i=fi:=⟨_,rfl⟩
  rw[Ln] at d0 gK;by_cases rL:fi<p
  ·have i2:(fi:Int)<p:=(by omega);have HN:Hid (p=(bp f (i+1)).length/\gZ Wn b4 D.K C (.slice aN p cN) (pV D C f (bp f (i+1))) ws (.slice aK p cK) ((bp f (i+1)).map D.q) wr):=by
    rw[DS (by rw[Ln,<-HP];exact rL)];exact⟨HP,HT⟩
   clear HP HT zF Ln;go_wp2;go_roundw
   ·exact⟨i+1,ws,aN,aK,p,cN,cK,by go_num,by omega,by omega,HN.out⟩
   simp[intOf];omega
  have i2:¬((fi:Int)<p):=by omega
  have FE:bp f (i+1)=bp f i++[i]:=Cn (by rw[Ln,<-HP];exact rL);have HPn:=hid FE;have hmkr:=Fu C (by omega);have zV:=hid (sO.out.aa HT.aU);have f1:=zV.out.f1;obtain⟨gN,oN,eN,mC,p7,zN⟩:=zV.out.dm.row i aw;rw[eN] at f1;rw[HB.out.2.2.1.len i aw] at p7 zN;have Av:=hid eN;have xz:=hid zN;have qv:=hid (Cx wr wr.heap.size C 3 (.int .i64 0) (le_refl _) (by unfold maxLen;omega));have nL:=hid (al wr (.cells (madeCells #[.int .i64 0] C) 3));have Vh:=hid mC;clear HP HT zF eN zN FE mC;go_upto_region 7 with fail;obtain⟨g,hg⟩:∃g,wr.heap.size=g:=⟨_,rfl⟩
  have lh:Hid ((wr.alloc (.cells (madeCells #[.int .i64 0] C) 3)).ownsRow g 3 1 (.slice (some ⟨g,0,none⟩) C C) C (ints ([]++replicate (C-0) 0))/\Below g wr (wr.alloc (.cells (madeCells #[.int .i64 0] C) 3))):=by
   rw[<-hg];refine⟨?_,nL.out⟩;have:=qv.out;simpa [ints] using this
  have Hg:=hid hg;have F7:=(nL.out.cell (p:=⟨b0,256,none⟩) zV.out.st.lt).trans f1;have GU:=(nL.out.cell (p:=⟨gN,oN+i,none⟩) Vh.out).trans p7;rw[hg];clear qv nL hg f1 p7 d0 fb;generalize wr.alloc (.cells (madeCells #[.int .i64 0] C) 3)=W6 at lh F7 GU⊢;revert wr;intro wo zZ zV xz Vh Hg lh;go_wp2;go_loopw [9,10,39] (fun _ _ v wq=>∃(k:Nat),v=.int .i64 k/\k<=C/\Hid (wq.ownsRow g 3 1 (.slice (some ⟨g,0,none⟩) C C) C (ints ((range k).map (jV D f i)++replicate (C-k) 0))/\Below g wo wq)) (fun _ _ v _=>C-(intOf v).toNat)
  ·exact⟨0,rfl,by omega,lh⟩
  clear lh F7 GU;obtain⟨k,rfl,hk,HA⟩:=hrel;have ju:Below wo.heap.size wo wr:=by rw[Hg.out];exact HA.out.2
  by_cases dE:k<C
  ·obtain⟨gA,oA,eA,D8,oU⟩:=xz.out (by omega);have cA:=(ju.cell (p:=⟨gA,oA+k,none⟩) D8).trans (oU k dE);have I3:=HB.out.2.2.1.nx i k aw dE;obtain⟨g',e',_,_,nz⟩:=eR HA.out.1 (by omega);obtain rfl:g'=g:=by
    injection e' with e';injection e' with e' _;exact e'.symm
   obtain⟨y0,y1⟩:=nz k (by omega);have hlen:((range k).map (jV D f i)).length=k:=(by simp);have y2:(ints ((range k).map (jV D f i)++replicate (C-k) 0))[k]?=some (.int .i64 0):=by
    have:0<C-k:=(by omega);simp[ints,List.getElem?_append,this]
   rw[y2] at y0;have gw:Hid ((wr.setCell ⟨g',k,none⟩ (.int .i64 (-1))).ownsRow g' 3 1 (.slice (some ⟨g',0,none⟩) C C) C (ints (((range k).map (jV D f i)++[-1])++replicate (C-(k+1)) 0))/\Below g' wo (wr.setCell ⟨g',k,none⟩ (.int .i64 (-1)))):=by
    refine⟨?_,HA.out.2.setCell (p:=⟨g',k,none⟩) (le_refl _) _⟩;have:=vn HA.out.1 k dE (.int .i64 (-1));rwa [EE _ C k _ hlen dE] at this
   have JM:Hid (∀v,jV D f i k=v->(range (k+1)).map (jV D f i)=(range k).map (jV D f i)++[v]):=fun v h=>by
    rw[range_succ,map_append,List.map_singleton,h]
   have DF:Hid ((D.nx i k=-1->jV D f i k=-1)/\∀x:Nat,D.nx i k=(x:Int)->jV D f i k=((f x:Nat):Int)):=⟨fun h=>by simp[jV,h],fun x h=>by
    unfold jV
    rw[if_neg (by omega),h]
    rfl⟩
   have wY:=hid hlen;have i3:(k:Int)<C:=(by omega);rw[eA];have LO:=hid eA;have Sp:=hid zZ.out.aU
   try dsimp only at cA
   clear oU nz e' y2 hlen eA D8;generalize D.nx i k=t at cA I3 DF;go_upto_region 11 with fail;generalize wr.setCell ⟨g',k,none⟩ (.int .i64 (-1))=W5 at gw⊢;clear y0 y1 cA ju;by_cases ht:t=-1
   ·subst ht;have HZ:=hid (JM.out (-1) (DF.out.1 rfl));go_wp2;go_roundw
    ·exact⟨k+1,by go_num,by omega,by rw[HZ.out];exact gw⟩
    simp[intOf];omega
   obtain⟨x,rfl⟩:∃x:Nat,t=(x:Int):=(⟨t.toNat,by omega⟩);have iL:x<D.n:=(by omega);have kY:((x:Int) != (-1:Int))=true:=(by first|(simp;done)|(simp;omega));have i4:(x:Int)<(D.n:Int):=(by omega);have dx:=Vs.out W5 (Sp.out.trans (gw.out.2.mono (by rw[<-Hg.out];exact Sp.out.size))) x iL;have HZ:=hid (JM.out _ (DF.out.2 x rfl));generalize f x=r at dx HZ;obtain⟨g2,e2,_,_,jf⟩:=eR gw.out.1 (by omega);obtain rfl:g2=g':=by
    injection e2 with e2;injection e2 with e2 _;exact e2.symm
   obtain⟨y0,y1⟩:=jf k (by omega);have y2:(ints (((range k).map (jV D f i)++[-1])++replicate (C-(k+1)) 0))[k]?=some (.int .i64 (-1)):=by
    simp[ints,List.getElem?_append]
   rw[y2] at y0;have kr:Hid ((W5.setCell ⟨g2,k,none⟩ (.int .i64 (r:Int))).ownsRow g2 3 1 (.slice (some ⟨g2,0,none⟩) C C) C (ints (((range k).map (jV D f i)++[(r:Int)])++replicate (C-(k+1)) 0))/\Below g2 wo (W5.setCell ⟨g2,k,none⟩ (.int .i64 (r:Int)))):=by
    refine⟨?_,gw.out.2.setCell (p:=⟨g2,k,none⟩) (le_refl _) _⟩;have:=vn gw.out.1 k dE (.int .i64 (r:Int));have e3:(ints (((range k).map (jV D f i)++[-1])++replicate (C-(k+1)) 0)).set k (.int .i64 (r:Int))=ints (((range k).map (jV D f i)++[(r:Int)])++replicate (C-(k+1)) 0):=by
     have hl:=wY.out;rw[<-EE _ C k (-1) hl dE,List.set_set,EE _ C k (r:Int) hl dE]
    rwa [e3] at this
   clear jf e2 y2;go_wp2;go_roundw
   ·exact⟨k+1,by go_num,by omega,by rw[HZ.out];exact kr⟩
   simp[intOf];omega
  obtain rfl:k=C:=by omega
  have HK:Hid (gZ Wn b4 D.K k (.slice aN p cN) (pV D k f (bp f i)) ws (.slice aK p cK) ((bp f i).map D.q) wr):=zZ.out.aa (by rw[Hg.out];exact HA.out.2);have mi:(pV D k f (bp f i)).length=p:=by rw[Fh.out];simp[pV]
  have ET:=hid mi;have sb:=HK.out.aU.size;have HU:Hid (wr.ownsRow Wn.heap.size 3 1 (.slice (some ⟨g,0,none⟩) k k) k (ints ((range k).map (jV D f i)))):=by
   have:=HA.out.1;rw[Nat.sub_self,List.replicate_zero,List.append_nil] at this;exact jF this (by rw[<-Hg.out];exact zZ.out.aU.size)
  have O9:Hid ((∀j,j<(pV D k f (bp f i)).length->∀b,(ws j).ownBlock=some b->(Value.slice (some ⟨g,0,none⟩) k k).ownBlock≠some b)/\∀b,(Value.slice (some ⟨g,0,none⟩) k k).ownBlock=some b->(Value.slice aK p cK).ownBlock≠some b):=by
   have hg9:wo.heap.size=g:=Hg.out;constructor
   ·intro j hj b e1 e2;have h1:=(zZ.out.next.lt.2 j hj b e1);have h2:g=b:=(by simpa [Value.ownBlock] using e2);omega
   intro b e1 e2;have h1:=lx zZ.out.ct b e2;have h2:g=b:=(by simpa [Value.ownBlock] using e1);omega
  have k9:=al wr (.cells #[.slice (some ⟨g,0,none⟩) k k] 43);have jT:Hid (gZ Wn b4 D.K k (.slice aN p cN) (pV D k f (bp f i)) ws (.slice aK p cK) ((bp f i).map D.q) (wr.alloc (.cells #[.slice (some ⟨g,0,none⟩) k k] 43))):=HK.out.aa k9;have UA:Hid ((wr.alloc (.cells #[.slice (some ⟨g,0,none⟩) k k] 43)).ownsRow Wn.heap.size 3 1 (.slice (some ⟨g,0,none⟩) k k) k (ints ((range k).map (jV D f i)))):=dp HU.out k9;have fbk:=HK.out.f1;have zT:=jT.out.next.own
  rw[mi] at zT;have Cf:=jT.out.aU.size;clear HA mi k9;go_wp2_with (at_builtin;refine wpList_append_own_at _ rfl _ _ 99 rfl Wn.heap.size 43 iV (.slice none 0 0) 1 24 underlying99 hV ur ub uC rfl (by decide) _ _ _ rfl zT ⟨wr.heap.size,0,none⟩ 1 1 [.slice (some ⟨g,0,none⟩) k k] rfl rfl (cell_one_new _ _ _) ?d2 ?d3 ?d4 ?d5 ?_)
  case d2=>first|(intro u hu;simp at hu;subst hu;rfl)|rfl
  case d3=>unfold maxLen;omega
  case d4=>omega
  case d5=>first|(simp;omega)|omega
  intro v' w5 ak aj _ bg;obtain⟨a5,c5,rfl⟩:=bF ak;have h9:=jT.out.st.ag jT.out.next.own (by decide) aj
  have z2:w5.cell? ⟨b4,256,none⟩=some (.slice aN p cN):=by rw[h9.at_,qe]
  have z3:w5.frozen? ⟨b4,256,none⟩=false:=h9.ba 256;have EI:=hid (jT.out.fT (vN':=.slice a5 (p+1) c5) UA.out O9.out.1 O9.out.2 ET.out ak aj);clear ak aj bg zT h9 fbk;go_upto_region 15 with fail;generalize w5.setCell ⟨b4,256,none⟩ (.slice a5 (p+1) c5)=W7 at EI⊢;clear z2 z3;have EZ:Hid (∀W' a9 c9,gZ Wn b4 D.K k (.slice a5 (p+1) c5) (pV D k f (bp f i)++[(range k).map (jV D f i)]) (fun j=>if j=p then .slice (some ⟨g,0,none⟩) k k else ws j) (.slice a9 (p+1) c9) ((bp f i).map D.q++[D.q i]) W'->p+1=(bp f (i+1)).length/\gZ Wn b4 D.K k (.slice a5 (p+1) c5) (pV D k f (bp f (i+1))) (fun j=>if j=p then .slice (some ⟨g,0,none⟩) k k else ws j) (.slice a9 (p+1) c9) ((bp f (i+1)).map D.q) W'):=by
   show ∀W' a9 c9,_;intro W' a9 c9 h;rw[HPn.out];refine⟨by rw[Fh.out];simp,?_⟩;have e1:pV D k f (bp f i++[i])=pV D k f (bp f i)++[(range k).map (jV D f i)]:=(by simp[pV]);have e2:(bp f i++[i]).map D.q=(bp f i).map D.q++[D.q i]:=(by simp);rw[e1,e2];exact h
  have mT:Hid (((bp f i).map D.q).length=p):=by show _=_;rw[length_map];exact Fh.out.symm
  obtain⟨gM,oM,eM,r9,nA⟩:=H0.out.1.dm.rM (by omega);have nD:=H0.out.1.f2;rw[eM] at nD;have i3:(i:Int)<(D.m:Int):=by omega
  have ID:=nA i (by omega);have dz:Hid (∀W',Below Wn.heap.size Wn W'->Below Wn.heap.size Wn W'/\W'.cell? ⟨b0,257,none⟩=some (.slice (some ⟨gM,oM,none⟩) D.m D.cM)/\W'.cell? ⟨gM,oM+i,none⟩=some (.int .i64 (D.q i))):=fun W' h=>⟨h,(h.cell (p:=⟨b0,257,none⟩) H0.out.1.st.lt).trans nD,(h.cell (p:=⟨gM,oM+i,none⟩) r9).trans ID⟩
  clear eM r9 nA nD ID;generalize D.q i=qx at dz EZ;generalize pV D k f (bp f i)++[(range k).map (jV D f i)]=R9 at EI EZ;generalize (fun j=>if j=p then Value.slice (some ⟨g,0,none⟩) k k else ws j)=G4 at EI EZ;generalize (bp f i).map D.q=GJ at EI EZ mT;clear jT HK UA HU O9;refine wp_region_held_drew (S:=fun W'=>Below Wn.heap.size Wn W'/\W'.cell? ⟨b0,257,none⟩=some (.slice (some ⟨gM,oM,none⟩) D.m D.cM)/\W'.cell? ⟨gM,oM+i,none⟩=some (.int .i64 qx)) (by kernel_rfl) (dz.out _ EI.out.aU.drew) (fun hHeld=>?_);have HO:Hid (gZ Wn b4 D.K k (.slice a5 (p+1) c5) R9 G4 (.slice aK p cK) GJ W7.drew):=EI.out.aa (Below.refl _ _).drew
  (refine aq 0 ?_;refine aq 2 ?_;refine aq 3 ?_;try simp only[put,sA,sB,sC];refine aq 4 ?_;refine aq 5 ?_;refine aq 6 ?_;try simp only[put,sA,sB,sC])
  refine wpAnyH_ready (rs:=[1,7]) (by kernel_rfl) (by simp) ?_;refine eV (fun K hK=>?_) ?_
  ·skip;have f2:=HO.out.f2;go_simp;refine hK.out _ _ (hHeld) (fun hHeld=>?_);clear hK K
   try simp only[put,sA,sB,sC]
   clear f2;refine aQ 7 (fun K hK=>?_);skip;go_simp;have kk:=al W7.drew (.cells #[.int .i64 qx] 3);have kQ:Hid (∀j u,[Value.int .i64 qx][j]?=some u->((W7.alloc (.cells #[.int .i64 qx] 3)).drew).cell? ((⟨W7.heap.size,0,none⟩:Addr).add j)=some u):=cell_one_new W7.drew _ _;have HO:Hid (gZ Wn b4 D.K k (.slice a5 (p+1) c5) R9 G4 (.slice aK p cK) GJ ((W7.alloc (.cells #[.int .i64 qx] 3)).drew)):=HO.out.aa kk;refine hK.out _ _ (dz.out _ HO.out.aU) (fun hHeld=>?_);clear hK K
   try simp only[put,sA,sB,sC]
   clear kk;generalize (W7.alloc (.cells #[.int .i64 qx] 3)).drew=V5 at kQ HO hHeld⊢;refine aQ 8 (fun K hK=>?_);skip;have hO:=HO.out.ct;rw[mT.out] at hO;refine Gz (by rfl) _ _ _ (by rfl) Wn.heap.size 3 iI (.int .i64 0) 1 8 underlying43 hI pT qd qb (by rfl) (by decide) _ p (ints GJ) (by rfl) hO ⟨W7.heap.size,0,none⟩ 1 1 [.int .i64 qx] (by rfl) (by rfl) kQ.out (by intro u hu;simp at hu;subst hu;rfl) (by unfold maxLen;omega) (by omega) HO.out.aU.size ?_;intro v6 w6 an af bH;obtain⟨a9,c9,rfl⟩:=bF an;have sG:=hid (HO.out.mq (vK':=.slice a9 (p+1) c9) (mT.out) an af bH);have h9:=HO.out.st.ag HO.out.ct (by decide) af;have z2:w6.cell? ⟨b4,257,none⟩=some (.slice aK p cK):=(by rw[h9.at_,yv]);have z3:w6.frozen? ⟨b4,257,none⟩=false:=h9.ba 257;have ec:=fH HO.out.aU HO.out.ct HO.out.aU.size af;clear an af bH h9 hO;refine hK.out _ _ (dz.out _ ec) (fun hHeld=>?_);clear hK K
   try simp only[put,sA,sB,sC]
   (refine aq 9 ?_;try simp only[put,sA,sB,sC])
   refine aQ 10 (fun K hK=>?_);skip;go_simp;refine hK.out _ _ (dz.out _ sG.out.aU) (fun hHeld=>?_);clear hK K
   try simp only[put,sA,sB,sC]
   refine wpAnyH_done (by kernel_rfl) ?_ _;have DC:=hid (EZ.out _ a9 c9 sG.out);clear hHeld z2 z3 ec sG HO;go_wp2;go_roundw
   ·exact⟨i+1,G4,a5,a9,p+1,c5,c9,by go_num,by omega,by omega,DC.out⟩
   simp[intOf];omega
  refine eV (fun K hK=>?_) ?_
  ·skip;go_simp;have kk:=al W7.drew (.cells #[.int .i64 qx] 3);have kQ:Hid (∀j u,[Value.int .i64 qx][j]?=some u->((W7.alloc (.cells #[.int .i64 qx] 3)).drew).cell? ((⟨W7.heap.size,0,none⟩:Addr).add j)=some u):=cell_one_new W7.drew _ _;have HO:Hid (gZ Wn b4 D.K k (.slice a5 (p+1) c5) R9 G4 (.slice aK p cK) GJ ((W7.alloc (.cells #[.int .i64 qx] 3)).drew)):=HO.out.aa kk;refine hK.out _ _ (dz.out _ HO.out.aU) (fun hHeld=>?_);clear hK K
   try simp only[put,sA,sB,sC]
   clear kk;generalize (W7.alloc (.cells #[.int .i64 qx] 3)).drew=V5 at kQ HO hHeld⊢;refine aQ 1 (fun K hK=>?_);skip;have f2:=HO.out.f2;go_simp;refine hK.out _ _ (hHeld) (fun hHeld=>?_);clear hK K
   try simp only[put,sA,sB,sC]
   clear f2;refine aQ 8 (fun K hK=>?_);skip;have hO:=HO.out.ct;rw[mT.out] at hO;refine Gz (by rfl) _ _ _ (by rfl) Wn.heap.size 3 iI (.int .i64 0) 1 8 underlying43 hI pT qd qb (by rfl) (by decide) _ p (ints GJ) (by rfl) hO ⟨W7.heap.size,0,none⟩ 1 1 [.int .i64 qx] (by rfl) (by rfl) kQ.out (by intro u hu;simp at hu;subst hu;rfl) (by unfold maxLen;omega) (by omega) HO.out.aU.size ?_;intro v6 w6 an af bH;obtain⟨a9,c9,rfl⟩:=bF an;have sG:=hid (HO.out.mq (vK':=.slice a9 (p+1) c9) (mT.out) an af bH);have h9:=HO.out.st.ag HO.out.ct (by decide) af;have z2:w6.cell? ⟨b4,257,none⟩=some (.slice aK p cK):=(by rw[h9.at_,yv]);have z3:w6.frozen? ⟨b4,257,none⟩=false:=h9.ba 257;have ec:=fH HO.out.aU HO.out.ct HO.out.aU.size af;clear an af bH h9 hO;refine hK.out _ _ (dz.out _ ec) (fun hHeld=>?_);clear hK K
   try simp only[put,sA,sB,sC]
   (refine aq 9 ?_;try simp only[put,sA,sB,sC])
   refine aQ 10 (fun K hK=>?_);skip;go_simp;refine hK.out _ _ (dz.out _ sG.out.aU) (fun hHeld=>?_);clear hK K
   try simp only[put,sA,sB,sC]
   refine wpAnyH_done (by kernel_rfl) ?_ _;have DC:=hid (EZ.out _ a9 c9 sG.out);clear hHeld z2 z3 ec sG HO;go_wp2;go_roundw
   ·exact⟨i+1,G4,a5,a9,p+1,c5,c9,by go_num,by omega,by omega,DC.out⟩
   simp[intOf];omega
  exact AllReadyH.nil
 obtain rfl:i=D.n:=by omega
 obtain rfl:p=B:=HP.trans (HB.out.2.2.2.1.gv);have Ra:=hid HT;have iG:=hid HT.st;have iF:=hid (H0.out.2.1.aa HT.aU);have hd:=mw D.K (.slice aN p cN) (.slice aK p cK);have Ec:Hid (w.heap.size<=Wn.heap.size):=H0.out.2.2.size;have BF:Hid (Below w.heap.size w (wr.setRow b2 (df D.K (.slice aN p cN) (.slice aK p cK)))):=
  mY ((show Below w.heap.size w Wn by rw[Hb.out.1];exact H0.out.2.2).trans (HT.aU.mono Ec.out)) (by have:=Hb.out;omega) _
 have mi:(pV D C f (bp f D.n)).length=p:=by rw[HP];simp[pV]
 have HF:Hid (CW D C p (fun b c=>jV D f ((bp f D.n).getD b 0) c) (fun b=>D.q ((bp f D.n).getD b 0)) w (.returned (.agg (df D.K (.slice aN p cN) (.slice aK p cK)))) (wr.setRow b2 (df D.K (.slice aN p cN) (.slice aK p cK)))):=
  Ra.out.QN HB.out.1.dm.kl mi (fun r hr=>by unfold pV at hr;obtain⟨j,_,rfl⟩:=List.mem_map.1 hr;simp) (zl5 _ _ _ HP) (fun j hj c hc=>by
   have hj2:j<(bp f D.n).length:=by omega
   unfold pV
   simp[getD_eq_getElem?_getD,hj2,hc]) Ec.out (inr ⟨b2,_,_,iF.out,rfl⟩) BF.out
 clear HT mi HP;go_wp2_with (first|(refine si rfl 101 _ rfl ⟨b4,0,none⟩ rfl (df D.K (.slice aN p cN) (.slice aK p cK)) _ iG.out.part underlying101 rfl (by rw[gO,hd]) ?_)|(refine pN rfl 101 _ _ rfl b2 101 (zC 101) (df D.K (.slice aN p cN) (.slice aK p cK)) rfl rfl iF.out (by rw[jA,hd]) (by rw[gO,hd]) (xe _ _ _ _ _ _ _) ?_));refine bodyPost_ret (results_cell_row rfl _ _ b2 101 (df D.K (.slice aN p cN) (.slice aK p cK)) (0,0) _ rfl iF.out.setRow underlying101 rfl (by rw[gO,hd])) rfl ?_;exact HF.out
theorem zgv(n:Nat)(hn:n<=1000000)(W:World):(makeSlice 76 (.int .i64 0) (.int .i64 (n:Int))).run prog W=.ok (.slice (some ⟨W.heap.size,0,none⟩) 0 n) (W.alloc (.cells (madeCells #[.int .u8 0] n) 5)):=by
 obtain⟨i0,hi,dD,db,cW⟩:=info_parts jB;have h:=run_makeSlice (P:=prog) W 76 5 i0 (.int .u8 0) underlying76 hi dD .i64 .i64 0 (n:Int) (by omega) (by omega) (by rw[db];simp;omega) (by rw[cW];omega) (by omega);have e:(Value.int .u8 0).cells=#[.int .u8 0]:=rfl;rw[db,e] at h;simpa using h
theorem zdE(n:Nat)(hn:n<=1000000)(W:World)(B:Nat)(hB:B<=W.heap.size):(W.alloc (.cells (madeCells #[.int .u8 0] n) 5)).ownsRow B 5 1 (.slice (some ⟨W.heap.size,0,none⟩) 0 n) 0 []:=
 World.ownsRow_made W _ n hB (by unfold maxLen;omega) (by have:=size_madeCells #[Value.int .u8 0] n;simpa using this)
theorem cell_two_new(w:World)(a b:Value)(t:TypeId):∀j u,[a,b][j]?=some u->(w.alloc (.cells #[a,b] t)).cell? ((⟨w.heap.size,0,none⟩:Addr).add j)=some u:=by
 intro j u h;have hS:=(St.new w t #[a,b]).part;exact hS j u h
theorem zgw(n:Nat)(hn:2*n<=1000000)(W:World):(makeSlice 76 (.int .i64 0) (.int .i64 (2*(n:Int)))).run prog W=.ok (.slice (some ⟨W.heap.size,0,none⟩) 0 (2*n)) (W.alloc (.cells (madeCells #[.int .u8 0] (2*n)) 5)):=by
 have h:=zgv (2*n) hn W;rwa [show ((2*n:Nat):Int)=2*(n:Int) by omega] at h
def qS(D:Dd)(k:Nat):Value:=.string (strOf (iA (fun i=>D.nx i k) D.n))
theorem DM.rowAt{w:World}(h:DM w D){g off:Nat}(e:D.aN=some ⟨g,off,none⟩)(hi:i<D.n):w.cell? ⟨g,off+i,none⟩=some (.slice (D.A i) (D.len i) (D.Cp i))/\lb w (D.A i) (D.len i) (D.nx i):=by
 obtain⟨g',Iy,e',_,h1,h2⟩:=h.row i hi;rw[e] at e';injection e' with e';injection e' with e1 e2;subst e1 e2;exact⟨h1,h2⟩
def XB(D:Dd)(C:Nat)(w:World)(e:Ending)(w':World):Prop:=
 ∃(a:Option Addr) (c:Nat),e=.returned (.slice a C c)/\w'.ownsRow w.heap.size 9 1 (.slice a C c) C ((range C).map (qS D))/\Below w.heap.size w w'
theorem zl2(x:Int):IntKind.u16.wrap x=((mc x:Nat):Int):=by
 have h:IntKind.u16.wrap x=x % 65536:=by simp[wrap,IntKind.bits,signed]
 rw[h];unfold mc;omega
theorem zl3(z:Nat->Int)(i y:Nat)(hy:mc (z i)=y):ix (iA z (i+1))=ix (iA z i)++[.int .u8 ((y:Int) % 256),.int .u8 ((y:Int) / 256)]:=by
 subst hy;rw[iA,ix,map_append];congr 1
theorem zeQ(D:Dd)(C:Nat)(hR:DR D C)(w:World)(hD:DM w D):Calls prog 130 #[.agg D.cD] w (XB D C w):=by
 have dj:=hR.n2;have fA:=hR.n1;have Ah:=(hR.ke hD.kl).2;have iZ:=zgw D.n (by omega);have hk:=hD.kl;have HB:=hid (Zz (dc.new hD) (Zz (al w (.cells D.cD 101)) hR));obtain⟨iU,hU,hU0,hU1,hU2⟩:=info_parts jB;obtain⟨iS,hS,Z0,BA,hS2⟩:=info_parts pk;clear hD hR;go_enter func130,ntmps130;go_upto_region 1 with fail;generalize w.alloc (.cells D.cD 101)=W0 at HB⊢;obtain⟨b0,bc⟩:∃b0,w.heap.size=b0:=⟨_,rfl⟩
 rw[bc] at HB;rw[bc];have dO:=hid bc;clear bc;have Ar:=hid (Mh D.K C HB.out.2.2.c hk W0);go_wp2_with (refine si rfl 98 _ rfl ⟨b0,0,none⟩ rfl (aY D.K) (.array 256 5) HB.out.1.eo underlying98 rfl (y9 D.K) ?_);refine Ar.out.mono ?_;rintro e w1 ⟨rfl,b1⟩;have HG1:Hid (w.heap.size<=W0.heap.size):=show w.heap.size<=W0.heap.size by have:=HB.out.2.1.size;have:=dO.out;omega
 have tW:Hid (w1.ownsRow W0.heap.size 9 1 (.slice none 0 0) 0 ((range 0).map (qS D))/\Below W0.heap.size W0 w1):=⟨World.ownsRow_nil _ _ _ _,b1⟩
 clear b1 Ar;go_wp2;go_loopw [3,4,5,7,8,12] (fun v3 _ _ _ _ vk wr=>∃(k:Nat) (a3:Option Addr) (c3:Nat),v3=.slice a3 k c3/\vk=.int .i64 k/\k<=C/\Hid (wr.ownsRow W0.heap.size 9 1 v3 k ((range k).map (qS D))/\Below W0.heap.size W0 wr)) (fun _ _ _ _ _ v _=>C-(intOf v).toNat)
 ·exact⟨0,none,0,rfl,rfl,zero_le _,tW.out⟩
 clear tW;obtain⟨k,a3,c3,rfl,rfl,eO,HL⟩:=hrel;by_cases aw:k<C
 ·have zV:=hid (HB.out.1.aa HL.out.2);have f1:=zV.out.f1;obtain⟨gN,oN,eN,mC,_,_⟩:=zV.out.dm.row 0 (by omega);rw[eN] at f1;have Av:=hid (Zz eN mC);have i1:(k:Int)<C:=by omega
  have qv:=hid (zdE (2*D.n) (by omega) wr wr.heap.size (le_refl _));have nL:=hid (al wr (.cells (madeCells #[.int .u8 0] (2*D.n)) 5));clear eN mC;go_upto_region 6 with fail;obtain⟨g,hg⟩:∃g,wr.heap.size=g:=⟨_,rfl⟩
  have lh:Hid ((wr.alloc (.cells (madeCells #[.int .u8 0] (2*D.n)) 5)).ownsRow g 5 1 (.slice (some ⟨g,0,none⟩) 0 (2*D.n)) 0 (ix (iA (fun i=>D.nx i k) 0))/\Below g wr (wr.alloc (.cells (madeCells #[.int .u8 0] (2*D.n)) 5))):=by
   rw[<-hg];exact⟨qv.out,nL.out⟩
  have Hg:=hid hg;have F7:=(nL.out.cell (p:=⟨b0,256,none⟩) zV.out.st.lt).trans f1
  try rw[hg]
  clear qv nL hg f1;generalize wr.alloc (.cells (madeCells #[.int .u8 0] (2*D.n)) 5)=W6 at lh F7⊢;obtain⟨wo,FJ⟩:∃wo,wo=wr:=⟨wr,rfl⟩
  subst FJ;go_wp2;go_loopw [5,7,8,23] (fun v5 _ _ vi wq=>∃(i:Nat) (a5:Option Addr) (c5:Nat),v5=.slice a5 (2*i) c5/\vi=.int .i64 i/\i<=D.n/\Hid (wq.ownsRow g 5 1 v5 (2*i) (ix (iA (fun i=>D.nx i k) i))/\Below g wo wq)) (fun _ _ _ v _=>D.n-(intOf v).toNat)
  ·exact⟨0,_,_,rfl,rfl,zero_le _,lh⟩
  clear lh F7;obtain⟨i,a5,c5,rfl,rfl,hi,HA⟩:=hrel;have ju:Hid (Below wo.heap.size wo wr):=by rw[Hg.out];exact HA.out.2
  have HBq:=hid (zV.out.aa ju.out);by_cases tL:i<D.n
  ·obtain⟨p7,zN⟩:=HBq.out.dm.rowAt Av.out.1 tL;rw[HB.out.2.2.len i tL] at p7 zN;obtain⟨gr,or9,eA,tf,cz⟩:=zN (by omega);rw[eA] at p7;have cz1:=cz k aw;have i2:(i:Int)<(D.n:Int):=(by omega);obtain⟨x,hx⟩:∃x,D.nx i k=x:=(⟨_,rfl⟩);have Hx:=hid hx;rw[hx] at cz1;clear zN eA cz tf hx;have hW:=zl2 x;obtain⟨y,hy⟩:∃y:Nat,mc x=y:=(⟨_,rfl⟩);have Hy:=hid (zl3 (fun i=>D.nx i k) i y (by show mc (D.nx i k)=y;rw[Hx.out];exact hy));rw[hy] at hW;have D3:y<65536:=(by rw[<-hy];exact ME x);clear hy;have zT:=HA.out.1;have hgs9:g<=wr.heap.size:=(by have:=HA.out.2.size;have:=Hg.out;omega);go_wp2_with (at_builtin;refine wpList_append_own_at _ rfl _ _ 76 rfl g 5 iU (.int .u8 0) 1 1 underlying76 hU hU0 hU1 hU2 rfl (by decide) _ _ _ rfl (zT.alloc _) ⟨wr.heap.size,0,none⟩ 2 2 [.int .u8 ((y:Int) % 256),.int .u8 ((y:Int) / 256)] rfl rfl (cell_two_new _ _ _ _) ?d2 ?d3 ?d4 ?d5 ?_)
   case d2=>first|(intro u hu;simp at hu;rcases hu with rfl|rfl <;> rfl)|rfl
   case d3=>unfold maxLen;omega
   case d4=>omega
   case d5=>first|(simp;omega)|omega
   intro v' w5 ak aj _ bg;obtain⟨a6,c6,rfl⟩:=bF ak;have HF:Hid (w5.ownsRow g 5 1 (.slice a6 (2*i+2) c6) (2*i+2) (ix (iA (fun i=>D.nx i k) (i+1)))/\Below g wo w5):=by
    have k9:=al wr (.cells #[.int .u8 ((y:Int) % 256),.int .u8 ((y:Int) / 256)] 5);have Th:g<=wr.heap.size:=(by have:=HA.out.2.size;have:=Hg.out;omega);refine⟨?_,fH (HA.out.2.trans (k9.mono Th)) (dp HA.out.1 k9) (by simp;omega) aj⟩;rw[Hy.out];exact ak
   clear ak aj bg zT;go_wp2;go_roundw
   ·exact⟨i+1,a6,c6,rfl,by go_num,by omega,HF.out⟩
   simp[intOf];omega
  obtain rfl:i=D.n:=by omega
  have hcv:=J2 (HA.out.1) (by rw[Mz]);have Pd:=dp HL.out.1 ju.out;have Q3:=ju.out;have AT:W0.heap.size<=wr.heap.size:=by have:=Q3.size;have:=HL.out.2.size;omega
  go_wp2_with (at_builtin;refine wpList_append_own_at _ rfl _ _ 23 rfl W0.heap.size 9 iS (.string ⟨#[]⟩) 1 16 underlying23 hS Z0 BA hS2 rfl (by decide) _ _ _ rfl (Pd.alloc _) ⟨wr.heap.size,0,none⟩ 1 1 [qS D k] rfl rfl (cell_one_new _ _ _) ?d2 ?d3 ?d4 ?d5 ?_)
  case d2=>first|(intro u hu;simp at hu;subst hu;rfl)|rfl
  case d3=>unfold maxLen;omega
  case d4=>omega
  case d5=>first|(simp;omega)|omega
  intro v' w5 ak aj _ bg;obtain⟨a6,c6,rfl⟩:=bF ak;have HF:Hid (w5.ownsRow W0.heap.size 9 1 (.slice a6 (k+1) c6) (k+1) ((range (k+1)).map (qS D))/\Below W0.heap.size W0 w5):=by
   have k9:=al wr (.cells #[qS D k] 9);have nw:=HL.out.2.size;have kz:=Q3.size;refine⟨?_,fH ((HL.out.2.trans (Q3.mono nw)).trans (k9.mono (by omega))) (dp Pd k9) (by simp;omega) aj⟩;rw[range_succ,map_append];exact ak
  clear ak aj bg Pd;go_wp2;go_roundw
  ·exact⟨k+1,a6,c6,rfl,by go_num,by omega,HF.out⟩
  simp[intOf];omega
 obtain rfl:k=C:=by omega
 have HF:Hid (XB D k w (.returned (.slice a3 k c3)) wr):=by
  have h1:=HB.out.2.1;have h2:=HL.out.2;have h3:=HG1.out;have hs:=h1.size;have nw:=dO.out;rw[<-nw] at h1;exact⟨a3,c3,rfl,jF HL.out.1 h3,h1.trans (h2.mono (by omega))⟩
 clear HL;go_wp2;go_ret;exact HF.out
theorem Tl:∀j,j<256->(zC 101)[j]?=some (.int .u8 0):=by
 have h:(range 256).all (fun j=>match (zC 101)[j]? with|some (.int .u8 0)=>true|_=>false)=true:=by kernel_rfl
 intro j hj;have h1:=List.all_eq_true.1 h j (by simpa using hj);split at h1
 ·rename_i e;rw[e]
 cases h1
theorem zit(b:Option Addr)(m d:Nat)(W:World):(Instr.build 101 #[(2,.slice b m d)]).run prog W=.ok (.agg (df (fun _=>0) (.slice none 0 0) (.slice b m d))) W:=by
 have e:prog.built 101 [(2,.slice b m d)]=fill (fun i=>#[(0,256),(256,1),(257,1)][i]?) (zC 101) [(2,.slice b m d)]:=by kernel_rfl
 have hz:=jA;obtain⟨d1,d2⟩:=E3;obtain⟨q1,q2⟩:=xZ (zC 101) #[.slice b m d] 257 (by rw[hz];simp);rw[ym _ _ 2 257 1 (.slice b m d) [] (by rfl) (by rfl) (by rw[hz];omega)] at e;rw[show (Value.slice b m d).cells=#[.slice b m d] from rfl] at e;simp only[List.size_toArray,List.length_cons,List.length_nil] at q2;have e4:putAt (zC 101) #[.slice b m d] 257=df (fun _=>0) (.slice none 0 0) (.slice b m d):=by
  refine Cd _ _ _ _ (by rw[q1,hz]) (fun j hj=>by rw[q2,if_neg (by omega),Tl j hj];rfl) (by rw[q2,if_neg (by omega),d1]) (by rw[q2,if_pos (by omega)];rfl)
 rw[e4] at e;exact run_build W _ _ _ e
theorem Zf(K:Nat->Nat)(vN vK:Value)(j v:Nat)(hj:j<256):(df K vN vK).setIfInBounds j (.int .u8 (v:Int))=df (fun i=>if i=j then v else K i) vN vK:=by
 refine Cd _ vN vK _ (by rw[Array.size_setIfInBounds,mw]) (fun i hi=>?_) ?_ ?_
 ·by_cases e:i=j
  ·subst e;rw[Array.getElem?_setIfInBounds_self_of_lt (by rw[mw];omega),if_pos rfl]
  rw[Array.getElem?_setIfInBounds_ne (fun h=>e h.symm),zU K vN vK i hi,if_neg e]
 ·rw[Array.getElem?_setIfInBounds_ne (by omega),qe]
 rw[Array.getElem?_setIfInBounds_ne (by omega),yv]
theorem Uh:∀i,(∀j,j<i->f j=g j)->bp f i=bp g i:=by
 intro i
 induction i with
 | zero=>intro _;rfl
 | succ i ih=>
  intro h;have e:=ih (fun j hj=>h j (by omega));show (if f i<(bp f i).length then bp f i else bp f i++[i])=if g i<(bp g i).length then bp g i else bp g i++[i]
  rw[e,h i (by omega)]
def cS(D:Dd)(c:Nat):ByteArray:=strOf (iA (fun i=>D.nx i c) D.n)
theorem zpm(D:Dd)(c:Nat):(cS D c).size=2*D.n:=by unfold cS;rw[z8,Mz]
theorem zpS(hR:DR D C){a b:Nat}(ha:a<C)(hb:b<C):cS D a=cS D b↔∀i,i<D.n->D.nx i a=D.nx i b:=by
 have dj:=hR.n2;rw[<-zlJ (n:=D.n) (z:=fun i=>D.nx i a) (z':=fun i=>D.nx i b) (fun i hi=>by have:=hR.nx i a hi ha;omega) (fun i hi=>by have:=hR.nx i b hi hb;omega)];unfold cS;constructor
 ·intro h;have h1:=congrArg (fun s:ByteArray=>s.data.toList) h;simp only[Bo] at h1;exact RC (YS _ _) (YS _ _) h1
 intro h;rw[h]
def Lg(nm:List ByteArray)(key val:Value):Prop:=∃(b:Nat) (s:ByteArray),nm[b]?=some s/\key=.string s/\val=.int .u8 ((b:Nat):Int)
theorem zgx(W:World):(makeMap 176 none).run prog W=.ok (.map (some W.heap.size)) (W.alloc (.map #[] 0)):=by
 kernel_rfl
theorem zl4(w:World):(zeroValue 5).run prog w=.ok (.int .u8 0) w:=by kernel_rfl
structure qc (W0:World)(D:Dd)(C bM b4:Nat)(vC:Value)(k:Nat)(v6:Value)(nm:List ByteArray)(g:Nat->Nat)(w:World):Prop where
 aU:Below W0.heap.size W0 w
 map:dX w 9 bM nm.length (Lg nm)
 kept:w.ownsRow W0.heap.size 3 1 v6 nm.length (cy ((bp g k).map D.K))
 kl:(bp g k).length=nm.length
 st:St w 101 b4 (df (fun j=>if j<k then g j else 0) (.slice none 0 0) (.slice D.aM D.m D.cM))
 Du:w.ownsRow W0.heap.size 9 1 vC C ((range C).map (qS D))
 at_:∀i,i<k->nm[g i]?=some (cS D (D.K i))
 num:fa (iX D D.n) k g nm.length
 JP:W0.heap.size<=bM
 GN:W0.heap.size<=b4
 nk:nm.length<=k
section
variable {W0 : World}{D : Dd}{C bM b4 : Nat}{vC : Value}{k : Nat}{v6 : Value}{nm : List ByteArray}{g : Nat → Nat}{w : World}
theorem qc.mem(h:qc W0 D C bM b4 vC k v6 nm g w)(s:ByteArray):s∈nm↔∃i,i<k/\cS D (D.K i)=s:=by
 constructor
 ·intro hm;obtain⟨b,hb,e⟩:=getElem_of_mem hm;obtain⟨i,h1,h2,_⟩:=h.num.new b hb;refine⟨i,h1,?_⟩;have:=h.at_ i h1;rw[h2,getElem?_eq_getElem hb,e] at this;exact (Option.some.inj this).symm
 rintro⟨i,hi,rfl⟩;exact mem_of_getElem? (h.at_ i hi)
theorem qc.look(h:qc W0 D C bM b4 vC k v6 nm g w)(s:ByteArray)(hs:s.size<=1000000):
  (∃b,nm[b]?=some s/\(lookup 176 (.map (some bM)) (.string s) true).run prog w=.ok (.tuple #[.int .u8 ((b:Nat):Int),.bool true]) w)\/
  (s∉nm/\(lookup 176 (.map (some bM)) (.string s) true).run prog w=.ok (.tuple #[.int .u8 0,.bool false]) w):=by
 rcases h.map.ex.pj Cs underlying176 (zl4 w) (Go.WideMaps.keyOf_string_mk underlying9 (s:=s) (by unfold maxLen;omega)) with ⟨bU,iN⟩|⟨v,⟨b,s',h1,h2,rfl⟩,bU⟩
 ·refine inr ⟨fun hm=>?_,bU⟩;obtain⟨b,hb,e⟩:=getElem_of_mem hm;exact iN _ ⟨b,s,by rw[getElem?_eq_getElem hb,e],rfl,rfl⟩
 injection h2 with h2;exact inl ⟨b,by rw[h2];exact h1,bU⟩
theorem qc.put(h:qc W0 D C bM b4 vC k v6 nm g w)(s:ByteArray)(hs:s.size<=1000000)(hn:nm.length<maxLen)(hb:s∉nm):
  ∃w',(mapUpdate 176 (.map (some bM)) (.string s) (.int .u8 (nm.length:Int))).run prog w=.ok () w'/\dX w' 9 bM (nm.length+1) (Lg (nm++[s]))/\w.grownBy w' (some bM):=by
 refine h.map.update Cs underlying176 hn (Go.WideMaps.keyOf_string_mk underlying9 (s:=s) (by unfold maxLen;omega)) ?_ ?_ ?_ ?_
 ·rintro y ⟨k,s',h1,h2,_⟩;injection h2 with h2;rw[<-h2] at h1;exact hb (mem_of_getElem? h1)
 ·rintro a b ⟨k,s',h1,h2,h3⟩;exact⟨k,s',by rw[getElem?_append_left (List.getElem?_eq_some_iff.1 h1).1];exact h1,h2,h3⟩
 ·exact⟨nm.length,s,by simp,rfl,rfl⟩
 rintro a b ⟨k,s',h1,h2,h3⟩ hne;by_cases e:k<nm.length
 ·rw[getElem?_append_left e] at h1;exact⟨b,k,s',h1,h2,h3⟩
 rw[List.getElem?_append_right (by omega)] at h1;cases hj:k-nm.length with
 | zero=>rw[hj] at h1;simp at h1;exact absurd (by rw[h2,h1]) hne
 | succ j=>rw[hj] at h1;simp at h1
theorem Vp(g:Nat->Nat)(k b:Nat):(fun i=>if i=k then b else if i<k then g i else 0)=fun j=>if j<k+1 then (if j=k then b else g j) else 0:=by
 funext i;by_cases e:i=k
 ·rw[if_pos e,if_pos (by omega),if_pos e]
 rw[if_neg e];by_cases e2:i<k
 ·rw[if_pos e2,if_pos (by omega),if_neg e]
 rw[if_neg e2,if_neg (by omega)]
theorem Va(hR:DR D C){a b:Nat}(ha:a<256)(hb:b<256):cS D (D.K a)=cS D (D.K b)↔iX D D.n a b:=zpS hR (hR.c.1 a ha) (hR.c.1 b hb)
theorem dX.set{w:World}{k:TypeId}{b t g:Nat}{cs:Array Value}{Q:Value->Value->Prop}(h:dX w k b n Q)(h':St w t g cs):dX (w.setCell ⟨g,i,none⟩ u) k b n Q:=by
 refine h.same (Below.heap_setCell _ _ _ _ ?_);intro e;obtain⟨es,clock,hb,_⟩:=h;have h2:w.heap[g]?=_:=h';rw[show b=g from e,h2] at hb;cases hb
theorem qc.old{b:Nat}(hR:DR D C)(hk:k<256)(h:qc W0 D C bM b4 vC k v6 nm g w)(hb:nm[b]?=some (cS D (D.K k))):
  ∃g',qc W0 D C bM b4 vC (k+1) v6 nm g' (w.setCell ⟨b4,k,none⟩ (.int .u8 (b:Int))):=by
 have ey:b<nm.length:=(List.getElem?_eq_some_iff.1 hb).1;obtain⟨i,h1,h2,_⟩:=h.num.new b ey;have hi:=h.at_ i h1;rw[h2,hb] at hi;have hi:=Option.some.inj hi;have hE:iX D D.n i k:=(Va hR (by omega) hk).1 hi.symm;have zF:bp (fun j=>if j=k then b else g j) (k+1)=bp g k:=by
  have e0:bp (fun j=>if j=k then b else g j) k=bp g k:=Uh k (fun j hj=>by simp only[if_neg (show ¬j=k by omega)]);rw[DS (f:=fun j=>if j=k then b else g j) (by rw[e0,h.kl];simp only[if_pos rfl];exact ey),e0]
 refine⟨fun j=>if j=k then b else g j,h.aU.setCell (p:=⟨b4,k,none⟩) h.GN _,h.map.set h.st,by rw[zF];exact jI h.kept h.st (by decide) _ _,by rw[zF];exact h.kl,?_,jI h.Du h.st (by decide) _ _,fun j hj=>?_,?_,h.JP,h.GN,by have:=h.nk;omega⟩
 ·have:=h.st.set k (.int .u8 (b:Int));rw[Zf _ _ _ k b hk,Vp] at this;exact this
 ·by_cases e:j=k
  ·simp only[if_pos e];rw[e];exact hb
  simp only[if_neg e];exact h.at_ j (by omega)
 have:=h.num.old (fun i j e x hx=>(e x hx).symm) (fun i j l e e2 x hx=>(e x hx).trans (e2 x hx)) (fun i x hx=>rfl) h1 hE;rw[h2] at this;exact this
theorem qc.fresh{w2 w3:World}{D4:Value}(hR:DR D C)(hk:k<256)(h:qc W0 D C bM b4 vC k v6 nm g w)(hb:cS D (D.K k)∉nm)(hm:dX w1 9 bM (nm.length+1) (Lg (nm++[cS D (D.K k)])))(kj:w.grownBy w1 (some bM))
  (k2:Below w1.heap.size w1 w2) (hg:w2.grownBy w3 v6.ownBlock) (ho:w3.ownsRow W0.heap.size 3 1 D4 (nm.length+1) (cy ((bp g k).map D.K)++[.int .i64 ((D.K k:Nat):Int)])):
  ∃g',qc W0 D C bM b4 vC (k+1) D4 (nm++[cS D (D.K k)]) g' (w3.setCell ⟨b4,k,none⟩ (.int .u8 (nm.length:Int))):=by
 have mg:Below W0.heap.size W0 w1:=h.aU.grown kj h.aU.size (fun g e=>by injection e with e;rw[<-e];exact h.JP);have mo:=mg.trans (k2.mono mg.size);have o2:=dp (yG h.kept h.map.ex.of kj) k2;have c2:=dp (yG h.Du h.map.ex.of kj) k2;have m2:=hm.same (k2.block _ hm.lt);have s2:=(h.st.dA h.map.ex.of kj).aa k2;have s3:=s2.ag o2 (by decide) hg;have m3:=m2.ag o2 hg;have c3:=ri c2 hg (fun b e e2=>gP c2 o2 (by decide) b e e2.symm);have B3:=fH mo o2 mo.size hg;have zF:bp (fun j=>if j=k then nm.length else g j) (k+1)=bp g k++[k]:=by
  have e0:bp (fun j=>if j=k then nm.length else g j) k=bp g k:=Uh k (fun j hj=>by simp only[if_neg (show ¬j=k by omega)]);rw[Cn (f:=fun j=>if j=k then nm.length else g j) (by rw[e0,h.kl];show ¬(if k=k then nm.length else g k)<nm.length;rw[if_pos rfl];omega),e0]
 have hlen:(nm++[cS D (D.K k)]).length=nm.length+1:=by simp
 refine⟨fun j=>if j=k then nm.length else g j,B3.setCell (p:=⟨b4,k,none⟩) h.GN _,by rw[hlen];exact m3.set s3,?_,by rw[zF,hlen,length_append,h.kl];rfl,?_,jI c3 s3 (by decide) _ _,fun j hj=>?_,?_,h.JP,h.GN,by rw[hlen];have:=h.nk;omega⟩
 ·rw[zF,hlen,map_append,show cy ((bp g k).map D.K++[k].map D.K)=cy ((bp g k).map D.K)++[.int .i64 ((D.K k:Nat):Int)] by simp[cy]];exact jI ho s3 (by decide) _ _
 ·have:=s3.set k (.int .u8 (nm.length:Int));rw[Zf _ _ _ k _ hk,Vp] at this;exact this
 ·by_cases e:j=k
  ·simp only[if_pos e];rw[e];simp
  simp only[if_neg e];have:=h.at_ j (by omega);rw[getElem?_append_left (List.getElem?_eq_some_iff.1 this).1];exact this
 rw[hlen];exact h.num.fresh (fun i j e x hx=>(e x hx).symm) (fun i x hx=>rfl) (fun i hi e=>hb ((h.mem _).2 ⟨i,hi,(Va hR (by omega) hk).2 e⟩))
end
structure tA (W0:World)(D:Dd)(b4 C':Nat)(K':Nat->Nat)(vN:Value)(R:List (List Int))(ws:Nat->Value)(v6:Value)(l:List Nat)(w:World):Prop where
 aU:Below W0.heap.size W0 w
 st:St w 101 b4 (df K' vN (.slice D.aM D.m D.cM))
 next:bu w W0.heap.size 43 3 1 vN R.length ws (fun _=>C') (fun j=>ints (R.getD j []))
 kept:w.ownsRow W0.heap.size 3 1 v6 C' (cy l)
 sep:∀i,i<R.length->∀b,(ws i).ownBlock=some b->v6.ownBlock≠some b
 lo:W0.heap.size<=b4
section
variable {W0 : World}{D : Dd}{b4 C' : Nat}{K' : Nat → Nat}{vN v6 : Value}{R : List (List Int)}{ws : Nat → Value}{l : List Nat}{w : World}
theorem tA.aa(h:tA W0 D b4 C' K' vN R ws v6 l w)(k:Below w.heap.size w w1):tA W0 D b4 C' K' vN R ws v6 l w1:=
 ⟨h.aU.trans (k.mono h.aU.size),h.st.aa k,h.next.aa k,dp h.kept k,h.sep,h.lo⟩
theorem tA.f1(h:tA W0 D b4 C' K' vN R ws v6 l w):w.cell? ⟨b4,256,none⟩=some vN:=by rw[h.st.at_,qe]
theorem qc.done{vC:Value}{nm:List ByteArray}{ws:Nat->Value}(h:qc W0 D C bM b4 vC 256 v6 nm g w)(hm:nm.length=C'):tA W0 D b4 C' (fun j=>if j<256 then g j else 0) (.slice none 0 0) [] ws v6 ((bp g 256).map D.K) w:=by
 subst hm;exact⟨h.aU,h.st,⟨World.ownsRow_nil _ _ _ _,fun i hi=>absurd hi (by simp),fun i j hi=>absurd hi (by simp)⟩,h.kept,fun i hi=>absurd hi (by simp),h.GN⟩
theorem tA.fT{vN':Value}{row:List Int}{q:Nat}(h:tA W0 D b4 C' K' vN R ws v6 l w)(hu:w.ownsRow W0.heap.size 3 1 u C' (ints row))(hs:∀i,i<R.length->∀b,(ws i).ownBlock=some b->u.ownBlock≠some b)(nY:∀b,u.ownBlock=some b->v6.ownBlock≠some b)(hq:R.length=q)
  (ho:w'.ownsRow W0.heap.size 43 1 vN' (q+1) ((range q).map ws++[u])) (hg:w.grownBy w' vN.ownBlock):tA W0 D b4 C' K' vN' (R++[row]) (fun j=>if j=q then u else ws j) v6 l (w'.setCell ⟨b4,256,none⟩ vN'):=by
 subst hq;have dC:St w' 101 b4 (df K' vN (.slice D.aM D.m D.cM)):=h.st.ag h.next.own (by decide) hg
 have h1:bu w W0.heap.size 43 3 1 vN R.length ws (fun _=>C') (fun j=>ints ((R++[row]).getD j [])):=h.next.congr (fun i hi=>⟨rfl,by simp[getD_eq_getElem?_getD,getElem?_append_left hi]⟩)
 have h2:=h1.tz (v':=vN') (u:=u) (w':=w') (by decide) (by simpa [getD_eq_getElem?_getD] using hu) hs ho hg;have hm:w'.ownsRow W0.heap.size 3 1 v6 C' (cy l):=ri h.kept hg (fun b e e2=>gP h.kept h.next.own (by decide) b e e2.symm);refine⟨(fH h.aU h.next.own h.aU.size hg).setCell (p:=⟨b4,256,none⟩) h.lo _,?_,?_,yZ hm dC (by decide),?_,h.lo⟩
 ·have:=dC.set 256 vN';rwa [TD] at this
 ·rw[length_append];exact⟨yZ h2.own dC (by decide),fun i hi=>yZ (h2.row i hi) dC (by decide),h2.sep⟩
 intro i hi b e;by_cases e1:i=R.length
 ·rw[if_pos e1] at e;exact nY b e
 rw[if_neg e1] at e;exact h.sep i (by simp at hi;omega) b e
def QS(D:Dd)(w:World)(e:Ending)(w':World):Prop:=
 ∃(P:Dd) (g:Nat->Nat) (C':Nat),e=.returned (.agg P.cD)/\DM w' P/\fa (iX D D.n) 256 g C'/\sH D g C' P/\Below w.heap.size w w'
def nu(D:Dd)(l:List Nat)(n:Nat):List (List Int):=(range n).map fun i=>l.map (D.nx i)
theorem tA.fin{bR:Nat}{wS:World}{cs old:Array Value}(hD:DM wS D)(hR:DR D C)(hN:fa (iX D D.n) 256 g C')(h:tA W0 D b4 C' (fun j=>if j<256 then g j else 0) vN (nu D ((bp g 256).map D.K) D.n) ws v6 ((bp g 256).map D.K) w)
  (hs:St w 101 bR old) (hw:w'=w.setRow bR cs) (hB:Below wS.heap.size wS w'):QS D wS (.returned (.agg (df (fun j=>if j<256 then g j else 0) vN (.slice D.aM D.m D.cM)))) w':=by
 subst hw;obtain⟨aN,cN,rfl⟩:=bF h.next.own
 have hlen:(nu D ((bp g 256).map D.K) D.n).length=D.n:=by simp[nu]
 have ph:∀{B t n:Nat}{v:Value}{xs:List Value},t≠101->w.ownsRow B t 1 v n xs->(w.setRow bR cs).ownsRow B t 1 v n xs:=fun {B t n v xs} ht ho=>
  fy (ts:=[]) (bs:=[bR]) ho (Iz w bR cs) (by simp) (fun g e hm=>dG ho hs ht g e (List.mem_singleton.1 hm))
 have dj:bu (w.setRow bR cs) W0.heap.size 43 3 1 (.slice aN (nu D ((bp g 256).map D.K) D.n).length cN) (nu D ((bp g 256).map D.K) D.n).length ws (fun _=>C') (fun j=>ints ((nu D ((bp g 256).map D.K) D.n).getD j [])):=⟨ph (by decide) h.next.own,fun i hi=>ph (by decide) (h.next.row i hi),h.next.sep⟩
 have pa:∀r∈nu D ((bp g 256).map D.K) D.n,r.length=C':=by
  intro r hr;obtain⟨i,_,rfl⟩:=List.mem_map.1 hr;rw[length_map,length_map,hN.gv]
 have hm:=hR.m;have hg:∀j,j<256->g j<256:=fun j hj=>by have:=hN.le j hj;omega
 refine⟨⟨df (fun j=>if j<256 then g j else 0) (.slice aN (nu D ((bp g 256).map D.K) D.n).length cN) (.slice D.aM D.m D.cM),fun j=>if j<256 then g j else 0,aN,(nu D ((bp g 256).map D.K) D.n).length,cN,fun i=>uT (ws i),fun i=>xV (ws i),fun _=>C',fun i x=>((nu D ((bp g 256).map D.K) D.n).getD i []).getD x 0,D.aM,D.m,D.cM,D.q⟩,g,C',rfl,
  ⟨mw _ _ _,xe _ _ _ _ _ _ _,fun j hj=>zU _ _ _ j hj,fun j hj=>?_,qe _ _ _,yv _ _ _,dj.zs rfl pa,(hD.below hB).rM⟩,hN,⟨fun b hb=>?_,hlen,hm,fun i hi=>rfl,fun i hi c hc=>?_,fun i hi=>rfl⟩,hB⟩
 ·show (if j<256 then g j else 0)<256;rw[if_pos hj];exact hg j hj
 ·show (if b<256 then g b else 0)=g b;rw[if_pos hb]
 show ((nu D ((bp g 256).map D.K) D.n).getD i []).getD c 0=D.nx i (D.K ((bp g 256).getD c 0));have jf:c<(bp g 256).length:=by rw[hN.gv];exact hc
 unfold nu;simp[getD_eq_getElem?_getD,hi,jf]
end
theorem R7(D:Dd)(l:List Nat)(i:Nat):nu D l (i+1)=nu D l i++[l.map (D.nx i)]:=by
 unfold nu;rw[range_succ,map_append];rfl
theorem zom(D:Dd)(l:List Nat)(i:Nat):(nu D l i).length=i:=by simp[nu]
theorem KL(D:Dd)(C:Nat)(hR:DR D C)(w:World)(hD:DM w D):
  Calls prog 100 #[.agg D.cD] w (QS D w):=by
 have dj:=hR.n2;have fA:=hR.n1;have Ah:=(hR.ke hD.kl).2;have wW:=hD.kl;have iJ:=zgx;have HB:=hid (Zz (dc.new hD) (Zz (al w (.cells D.cD 101)) (Zz hR hD)));obtain⟨iI,hI,pT,qd,qb⟩:=info_parts az;obtain⟨iV,hV,ur,ub,uC⟩:=info_parts dP;have UN:=hid wW;clear hD hR wW;go_enter func100,ntmps100;go_upto_region 1 with (refine rB rfl 101 rfl (zC 101) (nG _) ?_)
 try simp only[put,List.setIfInBounds_toArray,set_cons_zero,set_cons_succ,Ib]
 have H0:Hid (dc ((w.alloc (.cells D.cD 101)).alloc (.cells (zC 101) 101)) w.heap.size D/\St ((w.alloc (.cells D.cD 101)).alloc (.cells (zC 101) 101)) 101 (w.heap.size+1) (zC 101)/\Below w.heap.size w ((w.alloc (.cells D.cD 101)).alloc (.cells (zC 101) 101))):=by
  refine⟨HB.out.1.aa (al _ _),?_,HB.out.2.1.trans ((al _ _).mono (by simp))⟩;have:=St.new (w.alloc (.cells D.cD 101)) 101 (zC 101);simpa using this
 generalize (w.alloc (.cells D.cD 101)).alloc (.cells (zC 101) 101)=Wn at H0⊢;obtain⟨b2,cv⟩:∃b2,w.heap.size+1=b2:=⟨_,rfl⟩
 obtain⟨b0,bc⟩:∃b0,w.heap.size=b0:=⟨_,rfl⟩
 rw[cv,bc] at H0;rw[cv,bc];have Hb:=hid (Zz bc cv);clear cv bc;have f2:=H0.out.1.f2;have k5:=al Wn (.cells (zC 101) 101);have gj:St (Wn.alloc (.cells (zC 101) 101)) 101 Wn.heap.size (zC 101):=St.new _ _ _;have iG:=hid gj;have jy:Hid (St ((Wn.alloc (.cells (zC 101) 101)).setRow Wn.heap.size (df (fun _=>0) (.slice none 0 0) (.slice D.aM D.m D.cM))) 101 Wn.heap.size (df (fun _=>0) (.slice none 0 0) (.slice D.aM D.m D.cM))/\Below Wn.heap.size Wn ((Wn.alloc (.cells (zC 101) 101)).setRow Wn.heap.size (df (fun _=>0) (.slice none 0 0) (.slice D.aM D.m D.cM)))):=⟨gj.setRow,mY k5 (le_refl _) _⟩
 clear k5 gj;go_upto_region 2 with (first
  | (refine BU rfl 101 _ rfl #[(2,.slice D.aM D.m D.cM)] (by first|rfl|kernel_rfl|(go_simp;done)) (.agg (df (fun _=>0) (.slice none 0 0) (.slice D.aM D.m D.cM))) (zit D.aM D.m D.cM _) ?_)
  | (refine rB rfl 101 rfl (zC 101) (nG _) ?_)
  | (refine pN rfl 101 _ _ rfl Wn.heap.size 101 (zC 101) (df (fun _=>0) (.slice none 0 0) (.slice D.aM D.m D.cM)) rfl rfl iG.out (by rw[jA,mw]) (by rw[gO,mw]) (xe _ _ _ _ _ _ _) ?_))
 simp only[put,sA,sB,sC];clear f2;obtain⟨b4,iM⟩:∃b4,Wn.heap.size=b4:=⟨_,rfl⟩
 have Fk:=hid iM;rw[iM] at jy;rw[iM];generalize (Wn.alloc (.cells (zC 101) 101)).setRow b4 (df (fun _=>0) (.slice none 0 0) (.slice D.aM D.m D.cM))=W4 at jy⊢;clear iM iG;have ux:=hid (H0.out.1.aa (show Below Wn.heap.size Wn W4 by rw[Fk.out];exact jy.out.2));have Jz:=hid (zeQ D C HB.out.2.2.1 W4 ux.out.dm);go_wp2_with (refine oa (by rfl) 101 _ rfl ⟨b0,0,none⟩ rfl D.cD _ ux.out.st.part underlying101 rfl ux.out.dm.info ?_);refine Jz.out.mono ?_;rintro e w5 ⟨aC,cC,rfl,jH,b5⟩;obtain⟨gC,rfl,Re,Rc,OF⟩:=eR jH (show 0<C by have:=HB.out.2.2.1.ke UN.out;omega);have k6:=al w5 (.map #[] 0);have Zg:dX (w5.alloc (.map #[] 0)) 9 w5.heap.size 0 (Lg []):=dX.made _ _ _ (fun x y h=>by
  obtain⟨k,s,h1,_⟩:=h
  simp at h1)
 have KJ:Hid (qc Wn D C w5.heap.size b4 (.slice (some ⟨gC,0,none⟩) C cC) 0 (.slice none 0 0) [] (fun _=>0) (w5.alloc (.map #[] 0))):=by
  have nv:b4<=W4.heap.size:=by have:=jy.out.2.size;have:=Fk.out;omega
  have iR:=b5.size;have hn4:=Fk.out;have hbA:Below Wn.heap.size Wn w5:=(show Below Wn.heap.size Wn W4 by rw[Fk.out];exact jy.out.2).trans (b5.mono (by omega));refine⟨hbA.trans (k6.mono (by omega)),Zg,World.ownsRow_nil _ _ _ _,rfl,?_,jF (dp jH k6) (by omega),fun i hi=>absurd hi (by omega),fa.zero _,by omega,by omega,by simp⟩;have:=(jy.out.1.aa b5).aa k6;have e:(fun j=>if j<0 then (fun _=>0:Nat->Nat) j else 0)=fun _=>0:=by funext j;simp
  rw[e];exact this
 have Jn:=hid ((ux.out.aa b5).aa k6);clear jH b5 Re Rc OF k6 Zg Jz;go_upto_region 5 with fail;obtain⟨bM,qZ⟩:∃bM,w5.heap.size=bM:=⟨_,rfl⟩
 rw[qZ] at KJ
 try rw[qZ]
 generalize w5.alloc (.map #[] 0)=W6 at KJ Jn⊢;clear qZ;have eG:=y9 D.K;go_wp2_with (refine si rfl 98 _ rfl ⟨b0,0,none⟩ rfl (aY D.K) (.array 256 5) Jn.out.eo underlying98 rfl eG ?_);go_loopw [6,7,8,9,10,11,22] (fun v6 _ _ _ _ _ vk wr=>∃(k m:Nat) (a6:Option Addr) (c6:Nat),v6=.slice a6 m c6/\vk=.int .i64 k/\k<=256/\m<=k/\Hid (∃nm g,nm.length=m/\qc Wn D C bM b4 (.slice (some ⟨gC,0,none⟩) C cC) k v6 nm g wr)) (fun _ _ _ _ _ _ v _=>256-(intOf v).toNat)
 ·exact⟨0,0,none,0,rfl,rfl,by omega,by omega,_,_,rfl,KJ.out⟩
 clear KJ;obtain⟨k,m,a6,c6,rfl,rfl,hk,iZ,HL⟩:=hrel;by_cases dE:k<256
 ·obtain⟨nm,g,jc,hM⟩:=HL.out;have HM:=hid hM;have AI:=hid jc;have i2:(k:Int)<256:=by omega
  have hv:=Ei D.K k dE;have C8:=Ot 98 5 256 (aY D.K) k _ underlying98 dE (by kernel_rfl) ⟨_,underlying5,rfl⟩ hv wr;have yu:=UN.out k dE;have M9:=HB.out.2.2.1.c.1 k dE;obtain⟨gX,Dv,Ic,Fz,Cu⟩:=eR hM.Du (by omega);have dF:=(Cu (D.K k) (by omega)).1;have Nv:gX=gC:=by injection Dv with Dv;injection Dv with Dv _;exact Dv.symm
  rw[Nv] at dF;have hcv:((range C).map (qS D))[D.K k]?=some (.string (cS D (D.K k))):=by simp[M9];rfl
  rw[hcv] at dF;have da:(cS D (D.K k)).size<=1000000:=by rw[zpm];omega
  have wF:=hM.look (cS D (D.K k)) da;have hlen:=hM.map.len (ty:=3) (t:=176) (by rw[underlying176];rfl);rw[jc] at hlen;have hw8:IntKind.u8.wrap (m:Int)=m:=by simp[wrap,IntKind.bits,signed];omega
  have z1:=hM.st.at_ k;have z2:=hM.st.ba k;rw[zU _ _ _ k dE] at z1;rcases wF with ⟨b,hb,bU⟩|⟨hb,bU⟩
  ·have HF:Hid (∃nm g,nm.length=m/\qc Wn D C bM b4 (.slice (some ⟨gC,0,none⟩) C cC) (k+1) (.slice a6 m c6) nm g (wr.setCell ⟨b4,k,none⟩ (.int .u8 (b:Int)))):=by
    obtain⟨g',DO⟩:=hM.old HB.out.2.2.1 dE hb;exact⟨nm,g',jc,DO⟩
   clear hM hb hlen hw8 Dv Ic Fz Cu hcv jc HM AI da HL;obtain⟨y,hy⟩:∃y,D.K k=y:=(⟨_,rfl⟩);obtain⟨s,hs⟩:∃s,cS D y=s:=(⟨_,rfl⟩);rw[hy] at hv C8 yu M9 dF bU;rw[hs] at dF bU;clear hy hs;go_wp2;go_roundw
   ·exact⟨k+1,m,a6,c6,rfl,by go_num,by omega,by omega,HF.out⟩
   simp[intOf];omega
  have mT:nm.length<maxLen:=by unfold maxLen;omega
  obtain⟨w1,yH,nc,kj⟩:=hM.put (cS D (D.K k)) da mT hb;rw[jc] at yH;have AL:=yG hM.kept hM.map.ex.of kj;rw[jc] at AL;have Qa:=(hM.aU.grown kj hM.aU.size (fun g e=>by injection e with e;rw[<-e];exact hM.JP)).size;have my:=hid (hM.st.dA hM.map.ex.of kj);have NI:Hid (∀(w2 w3:World) (D4:Value),Below w1.heap.size w1 w2->w2.grownBy w3 (Value.slice a6 m c6).ownBlock->w3.ownsRow Wn.heap.size 3 1 D4 (m+1) (cy ((bp g k).map D.K)++[.int .i64 ((D.K k:Nat):Int)])->∃nm g,nm.length=m+1/\qc Wn D C bM b4 (.slice (some ⟨gC,0,none⟩) C cC) (k+1) D4 nm g (w3.setCell ⟨b4,k,none⟩ (.int .u8 (m:Int)))):=fun w2 w3 D4 h1 h2 h3=>by
   obtain⟨g',DO⟩:=hM.fresh HB.out.2.2.1 dE hb nc kj h1 h2 (by rw[jc];exact h3);rw[jc] at DO;exact⟨_,g',by simp[jc],DO⟩
  clear hM hb Dv Ic Fz Cu hcv jc HM AI da HL nc kj z1 z2 mT;obtain⟨y,hy⟩:∃y,D.K k=y:=⟨_,rfl⟩
  obtain⟨s,hs⟩:∃s,cS D y=s:=⟨_,rfl⟩
  rw[hy] at hv C8 yu M9 dF bU yH NI;rw[hs] at dF bU yH;clear hy hs;obtain⟨l9,xd⟩:∃l9,cy ((bp g k).map D.K)=l9:=⟨_,rfl⟩
  rw[xd] at AL NI;clear xd;go_wp2_with (at_builtin;refine wpList_append_own_at _ rfl _ _ 43 rfl Wn.heap.size 3 iI (.int .i64 0) 1 8 underlying43 hI pT qd qb rfl (by decide) _ _ _ rfl (AL.alloc _) ⟨w1.heap.size,0,none⟩ 1 1 [.int .i64 (y:Int)] rfl rfl (cell_one_new _ _ _) ?d2 ?d3 ?d4 ?d5 ?_)
  case d2=>first|(intro u hu;simp at hu;subst hu;rfl)|rfl
  case d3=>unfold maxLen;omega
  case d4=>omega
  case d5=>first|(simp;omega)|omega
  intro v' w5 ak aj _ bg;obtain⟨a7,c7,rfl⟩:=bF ak;have k9:=al w1 (.cells #[.int .i64 (y:Int)] 3);have HF:=hid (NI.out _ w5 (.slice a7 (m+1) c7) k9 aj ak);have UT:=hid ((my.out.aa k9).ag (dp AL k9) (by decide) aj);have z1:=UT.out.at_ k;have z2:=UT.out.ba k;rw[zU _ _ _ k dE] at z1;clear ak aj bg AL k9;go_wp2;go_roundw
  ·exact⟨k+1,m+1,a7,c7,rfl,by go_num,by omega,by omega,HF.out⟩
  simp[intOf];omega
 obtain rfl:k=256:=by omega
 obtain⟨nm,g,jc,hM⟩:=HL.out;have zd:=hM.num;rw[jc] at zd;have va:=hM.done (ws:=fun _=>.slice none 0 0) jc;obtain⟨l,hl⟩:∃l,(bp g 256).map D.K=l:=⟨_,rfl⟩
 obtain⟨Kf,Rq⟩:∃Kf:Nat->Nat,(fun j=>if j<256 then g j else 0)=Kf:=⟨_,rfl⟩
 have zi:=hid (Zz zd (Zz hl Rq));rw[hl,Rq] at va;have jy:Hid (tA Wn D b4 m Kf (.slice none 0 0) (nu D l 0) (fun _=>.slice none 0 0) (.slice a6 m c6) l wr):=va;have Hl:Hid (l.length=m/\∀x∈l,x<C):=by
  refine⟨by rw[<-hl,length_map,zd.gv],fun x hx=>?_⟩;rw[<-hl] at hx;obtain⟨j,hj,rfl⟩:=List.mem_map.1 hx;exact HB.out.2.2.1.c.1 j (Kx g 256 j hj)
 have Ol:=hid (H0.out.1.aa hM.aU);have f1:=Ol.out.f1;obtain⟨gN,oN,eN,mC,qE⟩:=H0.out.1.dm.rN (by omega);rw[eN] at f1;have uy:=hid qE;have Hg:=hid mC;clear eN qE mC zd va hl Rq hM HL jc;go_wp2_with fail;clear f1;rw[show ((256:Nat):Int)=256 from rfl];go_loopw [13,57] (fun _ v wr=>∃(i:Nat) (ws:Nat->Value) (aN:Option Addr) (cN:Nat),v=.int .i64 i/\i<=D.n/\Hid (tA Wn D b4 m Kf (.slice aN i cN) (nu D l i) ws (.slice a6 m c6) l wr)) (fun _ v _=>D.n-(intOf v).toNat)
 ·exact⟨0,_,none,0,rfl,by omega,jy⟩
 clear jy;obtain⟨i,ws,aN,cN,rfl,hi,HT⟩:=hrel;have mi:Hid ((nu D l i).length=i):=zom D l i;by_cases aw:i<D.n
 ·have i1:(i:Int)<(D.n:Int):=by omega
  have hlen:=HB.out.2.2.1.len i aw;have p7:=(HT.out.aU.cell (p:=⟨gN,oN+i,none⟩) Hg.out).trans (uy.out i aw).1;have zN:=(uy.out i aw).2;rw[hlen] at p7 zN
  try dsimp only at p7
  have xz:Hid (lb wr.drew (D.A i) C (D.nx i)):=(zN.below HT.out.aU).below (Below.refl _ _).drew;clear hlen zN;go_upto_region 19 with fail;clear p7;refine wp_region_held_drew (S:=fun W'=>Below Wn.heap.size Wn W') (by kernel_rfl) HT.out.aU.drew (fun hHeld=>?_);have HT:Hid (tA Wn D b4 m Kf (.slice aN i cN) (nu D l i) ws (.slice a6 m c6) l wr.drew):=HT.out.aa (Below.refl _ _).drew
  (refine aq 0 ?_;refine aq 2 ?_;refine aq 3 ?_;try simp only[put,sA,sB,sC])
  refine wpAnyH_ready (rs:=[1,4]) (by kernel_rfl) (by simp) ?_;refine eV (fun K hK=>?_) ?_
  ·skip;have f1:=HT.out.f1;go_simp;refine hK.out _ _ (hHeld) (fun hHeld=>?_);clear hK K
   try simp only[put,sA,sB,sC]
   clear f1;refine aQ 4 (fun K hK=>?_);skip;have ia:=(HT.out.next.lt).2;have jo:=lx HT.out.kept;have F8:=uj HT.out.kept Hl.out.1;have Jp:=xz.out;skip;go_simp;go_at_call 131;refine (WK (D.nx i) C l m Hl.out.1 (by omega) (by omega) Hl.out.2 (D.A i) a6 (D.Cp i) c6 _ Jp F8).mono ?_;rintro e w5 ⟨a5,c5,rfl,jH,b5⟩;have HU:Hid (w5.ownsRow Wn.heap.size 3 1 (.slice a5 m c5) m (ints (l.map (D.nx i)))/\(∀j,j<(nu D l i).length->∀b,(ws j).ownBlock=some b->(Value.slice a5 m c5).ownBlock≠some b)/\∀b,(Value.slice a5 m c5).ownBlock=some b->(Value.slice a6 m c6).ownBlock≠some b):=by
    have jk:=km jH;refine⟨?_,fun j hj b e1 e2=>?_,fun b e1 e2=>?_⟩
    ·exact jF jH HT.out.aU.size
    ·have h1:=ia j hj b e1;have h2:=jk b e2
     try simp only[ko] at h1
     try simp only[ko] at h2
     omega
    have h1:=jo b e2;have h2:=jk b e1
    try simp only[ko] at h1
    try simp only[ko] at h2
    omega
   have HT:=hid (HT.out.aa b5);clear jH b5 ia jo F8 Jp
   try go_wp2_with fail
   refine hK.out _ _ (HT.out.aU) (fun hHeld=>?_);clear hK K
   try simp only[put,sA,sB,sC]
   refine aQ 5 (fun K hK=>?_);skip;go_simp;have kk:=al w5 (.cells #[.slice a5 m c5] 43);have HN:Hid (∀j u,[Value.slice a5 m c5][j]?=some u->(w5.alloc (.cells #[.slice a5 m c5] 43)).cell? ((⟨w5.heap.size,0,none⟩:Addr).add j)=some u):=cell_one_new _ _ _;have HT:=hid (HT.out.aa kk);have HU:=hid (Zz (dp HU.out.1 kk) HU.out.2);refine hK.out _ _ (HT.out.aU) (fun hHeld=>?_);clear hK K
   try simp only[put,sA,sB,sC]
   clear kk;generalize w5.alloc (.cells #[.slice a5 m c5] 43)=V5 at HN HT HU hHeld⊢;refine aQ 6 (fun K hK=>?_);skip;have hO:=(HT.out.next.own);rw[mi.out] at hO;refine xM (by rfl) _ _ _ (by rfl) Wn.heap.size 43 iV (.slice none 0 0) 1 24 underlying99 hV ur ub uC (by rfl) (by decide) _ i ((range i).map ws) (by rfl) hO ⟨w5.heap.size,0,none⟩ 1 1 [.slice a5 m c5] (by rfl) (by rfl) HN.out (by intro u hu;simp at hu;subst hu;rfl) (by unfold maxLen;omega) (by omega) HT.out.aU.size ?_;intro v6 w6 an af;obtain⟨a7,c7,rfl⟩:=bF an;have jt:=hid (HT.out.fT (u:=.slice a5 m c5) (vN':=.slice a7 (i+1) c7) HU.out.1 HU.out.2.1 HU.out.2.2 mi.out an af);have h9:=(HT.out.st.ag HT.out.next.own (by decide) af);have z2:w6.cell? ⟨b4,256,none⟩=some (.slice aN i cN):=(by rw[h9.at_,qe]);have z3:w6.frozen? ⟨b4,256,none⟩=false:=h9.ba 256;have ec:=(fH HT.out.aU HT.out.next.own HT.out.aU.size af);clear an af h9 hO;refine hK.out _ _ (ec) (fun hHeld=>?_);clear hK K
   try simp only[put,sA,sB,sC]
   (refine aq 7 ?_;try simp only[put,sA,sB,sC])
   refine aQ 8 (fun K hK=>?_);skip;go_simp;refine hK.out _ _ (jt.out.aU) (fun hHeld=>?_);clear hK K
   try simp only[put,sA,sB,sC]
   refine wpAnyH_done (by kernel_rfl) ?_ _;rw[<-R7] at jt;clear hHeld z2 z3 ec;go_wp2;go_roundw
   ·exact⟨i+1,_,a7,c7,by go_num,by omega,jt⟩
   simp[intOf];omega
  refine eV (fun K hK=>?_) ?_
  ·skip;have ia:=(HT.out.next.lt).2;have jo:=lx HT.out.kept;have F8:=uj HT.out.kept Hl.out.1;have Jp:=xz.out;skip;go_simp;go_at_call 131;refine (WK (D.nx i) C l m Hl.out.1 (by omega) (by omega) Hl.out.2 (D.A i) a6 (D.Cp i) c6 _ Jp F8).mono ?_;rintro e w5 ⟨a5,c5,rfl,jH,b5⟩;have HU:Hid (w5.ownsRow Wn.heap.size 3 1 (.slice a5 m c5) m (ints (l.map (D.nx i)))/\(∀j,j<(nu D l i).length->∀b,(ws j).ownBlock=some b->(Value.slice a5 m c5).ownBlock≠some b)/\∀b,(Value.slice a5 m c5).ownBlock=some b->(Value.slice a6 m c6).ownBlock≠some b):=by
    have jk:=km jH;refine⟨?_,fun j hj b e1 e2=>?_,fun b e1 e2=>?_⟩
    ·exact jF jH HT.out.aU.size
    ·have h1:=ia j hj b e1;have h2:=jk b e2
     try simp only[ko] at h1
     try simp only[ko] at h2
     omega
    have h1:=jo b e2;have h2:=jk b e1
    try simp only[ko] at h1
    try simp only[ko] at h2
    omega
   have HT:=hid (HT.out.aa b5);clear jH b5 ia jo F8 Jp
   try go_wp2_with fail
   refine hK.out _ _ (HT.out.aU) (fun hHeld=>?_);clear hK K
   try simp only[put,sA,sB,sC]
   refine wpAnyH_ready (rs:=[1,5]) (by kernel_rfl) (by simp) ?_;refine eV (fun K hK=>?_) ?_
   ·skip;have f1:=HT.out.f1;go_simp;refine hK.out _ _ (hHeld) (fun hHeld=>?_);clear hK K
    try simp only[put,sA,sB,sC]
    clear f1;refine aQ 5 (fun K hK=>?_);skip;go_simp;have kk:=al w5 (.cells #[.slice a5 m c5] 43);have HN:Hid (∀j u,[Value.slice a5 m c5][j]?=some u->(w5.alloc (.cells #[.slice a5 m c5] 43)).cell? ((⟨w5.heap.size,0,none⟩:Addr).add j)=some u):=cell_one_new _ _ _;have HT:=hid (HT.out.aa kk);have HU:=hid (Zz (dp HU.out.1 kk) HU.out.2);refine hK.out _ _ (HT.out.aU) (fun hHeld=>?_);clear hK K
    try simp only[put,sA,sB,sC]
    clear kk;generalize w5.alloc (.cells #[.slice a5 m c5] 43)=V5 at HN HT HU hHeld⊢;refine aQ 6 (fun K hK=>?_);skip;have hO:=(HT.out.next.own);rw[mi.out] at hO;refine xM (by rfl) _ _ _ (by rfl) Wn.heap.size 43 iV (.slice none 0 0) 1 24 underlying99 hV ur ub uC (by rfl) (by decide) _ i ((range i).map ws) (by rfl) hO ⟨w5.heap.size,0,none⟩ 1 1 [.slice a5 m c5] (by rfl) (by rfl) HN.out (by intro u hu;simp at hu;subst hu;rfl) (by unfold maxLen;omega) (by omega) HT.out.aU.size ?_;intro v6 w6 an af;obtain⟨a7,c7,rfl⟩:=bF an;have jt:=hid (HT.out.fT (u:=.slice a5 m c5) (vN':=.slice a7 (i+1) c7) HU.out.1 HU.out.2.1 HU.out.2.2 mi.out an af);have h9:=(HT.out.st.ag HT.out.next.own (by decide) af);have z2:w6.cell? ⟨b4,256,none⟩=some (.slice aN i cN):=(by rw[h9.at_,qe]);have z3:w6.frozen? ⟨b4,256,none⟩=false:=h9.ba 256;have ec:=(fH HT.out.aU HT.out.next.own HT.out.aU.size af);clear an af h9 hO;refine hK.out _ _ (ec) (fun hHeld=>?_);clear hK K
    try simp only[put,sA,sB,sC]
    (refine aq 7 ?_;try simp only[put,sA,sB,sC])
    refine aQ 8 (fun K hK=>?_);skip;go_simp;refine hK.out _ _ (jt.out.aU) (fun hHeld=>?_);clear hK K
    try simp only[put,sA,sB,sC]
    refine wpAnyH_done (by kernel_rfl) ?_ _;rw[<-R7] at jt;clear hHeld z2 z3 ec;go_wp2;go_roundw
    ·exact⟨i+1,_,a7,c7,by go_num,by omega,jt⟩
    simp[intOf];omega
   refine eV (fun K hK=>?_) ?_
   ·skip;go_simp;have kk:=al w5 (.cells #[.slice a5 m c5] 43);have HN:Hid (∀j u,[Value.slice a5 m c5][j]?=some u->(w5.alloc (.cells #[.slice a5 m c5] 43)).cell? ((⟨w5.heap.size,0,none⟩:Addr).add j)=some u):=cell_one_new _ _ _;have HT:=hid (HT.out.aa kk);have HU:=hid (Zz (dp HU.out.1 kk) HU.out.2);refine hK.out _ _ (HT.out.aU) (fun hHeld=>?_);clear hK K
    try simp only[put,sA,sB,sC]
    clear kk;generalize w5.alloc (.cells #[.slice a5 m c5] 43)=V5 at HN HT HU hHeld⊢;refine aQ 1 (fun K hK=>?_);skip;have f1:=HT.out.f1;go_simp;refine hK.out _ _ (hHeld) (fun hHeld=>?_);clear hK K
    try simp only[put,sA,sB,sC]
    clear f1;refine aQ 6 (fun K hK=>?_);skip;have hO:=(HT.out.next.own);rw[mi.out] at hO;refine xM (by rfl) _ _ _ (by rfl) Wn.heap.size 43 iV (.slice none 0 0) 1 24 underlying99 hV ur ub uC (by rfl) (by decide) _ i ((range i).map ws) (by rfl) hO ⟨w5.heap.size,0,none⟩ 1 1 [.slice a5 m c5] (by rfl) (by rfl) HN.out (by intro u hu;simp at hu;subst hu;rfl) (by unfold maxLen;omega) (by omega) HT.out.aU.size ?_;intro v6 w6 an af;obtain⟨a7,c7,rfl⟩:=bF an;have jt:=hid (HT.out.fT (u:=.slice a5 m c5) (vN':=.slice a7 (i+1) c7) HU.out.1 HU.out.2.1 HU.out.2.2 mi.out an af);have h9:=(HT.out.st.ag HT.out.next.own (by decide) af);have z2:w6.cell? ⟨b4,256,none⟩=some (.slice aN i cN):=(by rw[h9.at_,qe]);have z3:w6.frozen? ⟨b4,256,none⟩=false:=h9.ba 256;have ec:=(fH HT.out.aU HT.out.next.own HT.out.aU.size af);clear an af h9 hO;refine hK.out _ _ (ec) (fun hHeld=>?_);clear hK K
    try simp only[put,sA,sB,sC]
    (refine aq 7 ?_;try simp only[put,sA,sB,sC])
    refine aQ 8 (fun K hK=>?_);skip;go_simp;refine hK.out _ _ (jt.out.aU) (fun hHeld=>?_);clear hK K
    try simp only[put,sA,sB,sC]
    refine wpAnyH_done (by kernel_rfl) ?_ _;rw[<-R7] at jt;clear hHeld z2 z3 ec;go_wp2;go_roundw
    ·exact⟨i+1,_,a7,c7,by go_num,by omega,jt⟩
    simp[intOf];omega
   exact AllReadyH.nil
  exact AllReadyH.nil
 obtain rfl:i=D.n:=by omega
 have Ra:=hid HT.out;have iG:=hid HT.out.st;have iF:=hid (H0.out.2.1.aa HT.out.aU);have hd:=mw Kf (.slice aN D.n cN) (.slice D.aM D.m D.cM);have Ec:Hid (w.heap.size<=Wn.heap.size):=by have:=H0.out.2.2.size;have:=Hb.out.1;show _<=_;omega
 have BF:Hid (Below w.heap.size w (wr.setRow b2 (df Kf (.slice aN D.n cN) (.slice D.aM D.m D.cM)))):=
  mY ((show Below w.heap.size w Wn by rw[Hb.out.1];exact H0.out.2.2).trans (HT.out.aU.mono Ec.out)) (by have:=Hb.out;omega) _
 have HF:Hid (QS D w (.returned (.agg (df Kf (.slice aN D.n cN) (.slice D.aM D.m D.cM)))) (wr.setRow b2 (df Kf (.slice aN D.n cN) (.slice D.aM D.m D.cM)))):=by
  obtain⟨h1,h2,h3⟩:=zi.out;have hT:=Ra.out;rw[<-h3] at hT BF⊢;rw[<-h2] at hT;exact hT.fin HB.out.2.2.2 HB.out.2.2.1 h1 iF.out rfl BF.out
 clear HT;go_wp2_with (first|(refine si rfl 101 _ rfl ⟨b4,0,none⟩ rfl (df Kf (.slice aN D.n cN) (.slice D.aM D.m D.cM)) _ iG.out.part underlying101 rfl (by rw[gO,hd]) ?_)|(refine pN rfl 101 _ _ rfl b2 101 (zC 101) (df Kf (.slice aN D.n cN) (.slice D.aM D.m D.cM)) rfl rfl iF.out (by rw[jA,hd]) (by rw[gO,hd]) (xe _ _ _ _ _ _ _) ?_));refine bodyPost_ret (results_cell_row rfl _ _ b2 101 (df Kf (.slice aN D.n cN) (.slice D.aM D.m D.cM)) (0,0) _ rfl iF.out.setRow underlying101 rfl (by rw[gO,hd])) rfl ?_;exact HF.out
theorem zpn(h:(zC 101)[i]?=some v):v=.int .u8 0\/v=.slice none 0 0:=by
 have hz:=jA;by_cases a:i<256
 ·rw[Tl i a] at h;exact inl (Option.some.inj h).symm
 by_cases b:i=256
 ·subst b;rw[E3.1] at h;exact inr (Option.some.inj h).symm
 by_cases c:i=257
 ·subst c;rw[E3.2] at h;exact inr (Option.some.inj h).symm
 rw[Array.getElem?_eq_none (by omega)] at h;cases h
theorem DM.QE{w:World}{b:Nat}(hR:DR D C)(h:DM w D)(hs:St w 101 b (zC 101))(cs:Array Value):DM (w.setRow b cs) D:=by
 have hk:=Iz w b cs;have da:(w.setRow b cs).heap.size=w.heap.size:=setRow_size _ _ _;have hC:=(hR.ke h.kl).1;have key:∀{g i:Nat}{v:Value},g<w.heap.size->w.cell? ⟨g,i,none⟩=some v->v≠.int .u8 0->v≠.slice none 0 0->(w.setRow b cs).cell? ⟨g,i,none⟩=some v:=fun {g i v} hg hc h1 h2=>by
  have hgb:g≠b:=fun e=>by
   subst e;rw[hs.at_] at hc;rcases zpn hc with e|e
   ·exact h1 e
   exact h2 e
  rw[hk.mV (g:=g) (i:=i) (by simpa using hgb) hg];exact hc
 refine⟨h.sz,h.one,h.cl,h.kl,h.fN,h.fM,fun h0=>?_,fun h0=>?_⟩
 ·obtain⟨g,off,e,hg,hc⟩:=h.rN h0;refine⟨g,off,e,by rw[da];exact hg,fun i hi=>⟨key hg (hc i hi).1 (fun e=>by cases e) (fun e=>by
   injection e with _ e _
   have:=hR.len i hi
   omega),fun h1=>?_⟩⟩
  obtain⟨g',Iy,e',DO,nz⟩:=(hc i hi).2 h1;exact⟨g',Iy,e',by rw[da];exact DO,fun j hj=>key DO (nz j hj) (fun e=>by cases e) (fun e=>by cases e)⟩
 obtain⟨g,off,e,hg,hc⟩:=h.rM h0;exact⟨g,off,e,by rw[da];exact hg,fun j hj=>key hg (hc j hj) (fun e=>by cases e) (fun e=>by cases e)⟩
theorem dc.stored{w:World}{b:Nat}(hR:DR D C)(hD:DM w D)(h:St w 101 b (zC 101)):dc (w.setRow b D.cD) b D:=⟨h.setRow,hD.QE hR h _⟩
def vm(O P:Dd)(C C':Nat):Prop:=∃(f:Nat->Nat) (B:Nat) (M:Dd) (g:Nat->Nat),fa (la C (tD O) (mD O)) O.n f B/\qA O C f B M/\fa (iX M M.n) 256 g C'/\sH M g C' P
theorem vm.right(hR:DR O C)(h:vm O P C C'):DR P C':=by
 obtain⟨f,B,M,g,h1,h2,h3,h4⟩:=h;exact h4.right (h2.right hR h1) h3
theorem vm.le(h:vm O P C C'):P.n<=O.n:=by
 obtain⟨f,B,M,g,h1,h2,h3,h4⟩:=h;have e:=h4.n;have e2:M.n=B:=h2.2.1;have e3:=h1.gv;have e4:=WX f O.n;omega
theorem vm.mn{X:Dd}(hR:DR O C)(hO:ou O)(hT:vH O C)(h:vm O P C C')(hl:l=cH (av P.len P.nx) [0] k)(dE:l.length=k)(rL:k<=P.n)(hX:oY P C' k (il P l) (fun i=>P.q (l.getD i 0)) X):Mn X C'/\ee X 0 O 0:=by
 obtain⟨f,B,M,g,h1,h2,h3,h4⟩:=h;exact Mn.made hR hO hT h1 h2 h3 h4 hl dE rL hX
structure PC (D O:Dd)(C:Nat):Prop where
 r:DR O C
 ord:ou O
 Fq:vH O C
 wK:ee O 0 D 0
 le:O.n<=D.n
theorem PC.made{T:Dd}(hR:DR D C)(hT:oY D C D.n (nE D) D.q T)(hl:l=cH (av T.len T.nx) [0] k)(dE:l.length=k)(rL:k<=T.n)(hO:oY T C k (il T l) (fun i=>T.q (l.getD i 0)) O):PC D O C:=by
 have Lh:=hT.jZ hR;have hTT:=hT.xv hR;have hn:=hR.n1;have h1:=PA (D:=T) (k:=k) (by rw[<-hl];exact dE);rw[<-hl] at h1;have hb:=hO.pn Lh hl dE (i:=0) (by omega);rw[h1.2] at hb;refine⟨?_,hO.Gy Lh hl dE,hO.tp Lh hTT hl dE,hb.trans (hT.qB hR (by omega)),by have h3:=hO.2.1;have h4:=hT.2.1;omega⟩;subst hl;exact hO.pe Lh dE rL
def V4(D:Dd)(w:World)(e:Ending)(w':World):Prop:=∃(X:Dd) (C':Nat),e=.returned (.tuple #[.agg X.cD,.int .i64 0])/\DM w' X/\Mn X C'/\ee X 0 D 0/\X.n<=D.n/\Below w.heap.size w w'
theorem zl6(D:Dd)(C:Nat)(hR:DR D C)(w:World)(hD:DM w D):Calls prog 83 #[.agg D.cD] w (V4 D w):=by
 have HB:=hid (Zz (dc.new hD) (Zz (al w (.cells D.cD 101)) hR));clear hD hR;go_enter func83,ntmps83;go_upto_region 1 with (refine rB rfl 101 rfl (zC 101) (nG _) ?_)
 try simp only[put,List.setIfInBounds_toArray,set_cons_zero,set_cons_succ,Ib]
 have H0:Hid (dc ((w.alloc (.cells D.cD 101)).alloc (.cells (zC 101) 101)) w.heap.size D/\St ((w.alloc (.cells D.cD 101)).alloc (.cells (zC 101) 101)) 101 (w.heap.size+1) (zC 101)/\Below w.heap.size w ((w.alloc (.cells D.cD 101)).alloc (.cells (zC 101) 101))):=by
  refine⟨HB.out.1.aa (al _ _),?_,HB.out.2.1.trans ((al _ _).mono (by simp))⟩;have:=St.new (w.alloc (.cells D.cD 101)) 101 (zC 101);simpa using this
 generalize (w.alloc (.cells D.cD 101)).alloc (.cells (zC 101) 101)=Wb at H0⊢;obtain⟨b2,cv⟩:∃b2,w.heap.size+1=b2:=⟨_,rfl⟩
 obtain⟨b0,bc⟩:∃b0,w.heap.size=b0:=⟨_,rfl⟩
 rw[cv,bc] at H0;rw[cv,bc];have Hb:=hid (Zz bc cv);clear cv bc;have sY:=hid (Jc D C HB.out.2.2 Wb H0.out.1.dm);go_wp2_with (refine oa (by rfl) 101 _ rfl ⟨b0,0,none⟩ rfl D.cD _ H0.out.1.st.part underlying101 rfl H0.out.1.dm.info ?_);refine sY.out.mono ?_;rintro e wy ⟨rfl,rD⟩;have ry:Hid (dc wy b0 D/\St wy 101 b2 (zC 101)/\Below b0 w wy/\b0<=wy.heap.size):=⟨H0.out.1.aa rD,H0.out.2.1.aa rD,H0.out.2.2.trans (rD.mono (by have:=H0.out.2.2.size;have:=Hb.out.1;omega)),by have:=H0.out.2.2.size;have:=rD.size;have:=Hb.out.1;omega⟩
 have zZ:=hid (zmX D C wy ry.out.1.dm HB.out.2.2);clear rD sY;go_wp2_with (refine oa (by rfl) 101 _ rfl ⟨b0,0,none⟩ rfl D.cD _ ry.out.1.st.part underlying101 rfl ry.out.1.dm.info ?_);refine zZ.out.mono ?_;rintro e wT ⟨T,rfl,TU,t1,t2,t3,t4,t5,t6,bT,_⟩;have HT:=hid (Zz TU (show oY D C D.n (nE D) D.q T from ⟨t1,t2,t3,t4,t5,t6⟩));have H1:Hid (St wT 101 b2 (zC 101)/\Below b0 w wT/\b0<=wT.heap.size):=⟨ry.out.2.1.aa bT,ry.out.2.2.1.trans (bT.mono ry.out.2.2.2),by have:=ry.out.2.2.2;have:=bT.size;omega⟩
 obtain⟨k,dE,rL⟩:=Y7 (HT.out.2.jZ HB.out.2.2);have HOr:=hid (Xh T C _ k rfl dE rL wT HT.out.1 (HT.out.2.jZ HB.out.2.2));have Wx:=hid (Zz dE rL);clear TU t1 t2 t3 t4 t5 t6 bT zZ dE rL;go_wp2_with fail;refine HOr.out.mono ?_;rintro e wO ⟨O,rfl,UY,t1,t2,t3,t4,t5,t6,bO,_⟩;have HO:=hid (Zz UY (PC.made HB.out.2.2 HT.out.2 rfl Wx.out.1 Wx.out.2 ⟨t1,t2,t3,t4,t5,t6⟩));have H2:Hid (St wO 101 b2 (zC 101)/\Below b0 w wO/\b0<=wO.heap.size):=⟨H1.out.1.aa bO,H1.out.2.1.trans (bO.mono H1.out.2.2),by have:=H1.out.2.2;have:=bO.size;omega⟩
 clear UY t1 t2 t3 t4 t5 t6 bO HOr;have iG:=hid (St.new wO 101 (zC 101));have H3:Hid (dc ((wO.alloc (.cells (zC 101) 101)).setRow wO.heap.size O.cD) wO.heap.size O/\Below wO.heap.size wO ((wO.alloc (.cells (zC 101) 101)).setRow wO.heap.size O.cD)):=
  ⟨dc.stored HO.out.2.r (HO.out.1.below (al _ _)) (St.new _ _ _),mY (al _ _) (le_refl _) _⟩
 go_upto_region 4 with (first
  | (refine rB rfl 101 rfl (zC 101) (nG _) ?_)
  | (refine pN rfl 101 _ _ rfl wO.heap.size 101 (zC 101) O.cD rfl rfl iG.out (by rw[jA,HO.out.1.sz]) (by rw[gO,HO.out.1.sz]) HO.out.1.one ?_))
 simp only[put,sA,sB,sC];obtain⟨b4,iM⟩:∃b4,wO.heap.size=b4:=⟨_,rfl⟩
 rw[iM] at H3;rw[iM];generalize (wO.alloc (.cells (zC 101) 101)).setRow b4 O.cD=V at H3⊢;have H4:Hid (St V 101 b2 (zC 101)/\Below b0 w V/\b0<=V.heap.size):=by
  have h:=H3.out.2;have hs:=h.size;rw[<-iM] at h;exact⟨H2.out.1.aa h,H2.out.2.1.trans (h.mono H2.out.2.2),by have:=H2.out.2.2;omega⟩
 clear iM iG;have dz:Hid (∀W',Below V.heap.size V W'->Below V.heap.size V W'/\dc W' b4 O):=fun W' h=>⟨h,H3.out.1.aa h⟩
 go_cut [5] from 13 to 17 (fun v wx=>∃(b5:Nat) (P:Dd) (C':Nat),v=.pointer (some ⟨b5,0,none⟩)/\dc wx b5 P/\vm O P C C'/\Below V.heap.size V wx)
 case first=>
  refine wp_region_held_drew (S:=fun W'=>Below V.heap.size V W'/\dc W' b4 O) (by kernel_rfl) (dz.out _ (Below.refl _ _).drew) (fun hHeld=>?_)
  (refine aq 0 (v:=.agg O.cD) ?_ (hy:=by intro wz hSw;exact Cm (o:=_) (ρ:=_) wz 101 (.tmp 4) rfl ⟨b4,0,none⟩ rfl O.cD _ (dc.st (And.right hSw)).part underlying101 rfl (dc.dm (And.right hSw)).info))
  (refine aq 1 (v:=.agg O.cD) ?_ (hy:=by intro wz hSw;exact Cm (o:=_) (ρ:=_) wz 101 (.tmp 4) rfl ⟨b4,0,none⟩ rfl O.cD _ (dc.st (And.right hSw)).part underlying101 rfl (dc.dm (And.right hSw)).info);try simp only[put,sA,sB,sC])
  refine wpAnyH_ready (rs:=[2,5]) (by kernel_rfl) (by simp) ?_;refine eV (fun K hK=>?_) ?_
  ·skip;go_simp;go_at_call 102;refine (SL O C HO.out.2.r _ hHeld.2.dm).mono ?_;rintro e w8 ⟨f,B,aB,cB,rfl,ho,Gn,vv⟩;have aJ:Below V.heap.size V w8:=hHeld.1.trans (vv.mono hHeld.1.size);have HK:=hid (Zz (Wh ho) Gn);clear ho Gn vv
   try go_wp2_with fail
   refine hK.out _ _ (dz.out _ aJ) (fun hHeld=>?_);clear hK K
   try simp only[put,sA,sB,sC]
   clear aJ;refine wpAnyH_ready (rs:=[3,5]) (by kernel_rfl) (by simp) ?_;refine eV (fun K hK=>?_) ?_
   ·skip;go_simp;go_at_call 101;refine (N1 O C HO.out.2.r _ f B HK.out.2 aB cB _ hHeld.2.dm HK.out.1).mono ?_;rintro e w9 ⟨M,rfl,Bd,t1,t2,t3,t4,t5,t6,vv,_⟩;have aJ:Below V.heap.size V w9:=hHeld.1.trans (vv.mono hHeld.1.size);have nN:=hid (Zz Bd (show qA O C f B M from ⟨t1,t2,t3,t4,t5,t6⟩));clear Bd t1 t2 t3 t4 t5 t6 vv
    try go_wp2_with fail
    refine hK.out _ _ (dz.out _ aJ) (fun hHeld=>?_);clear hK K
    try simp only[put,sA,sB,sC]
    clear aJ;refine wpAnyH_ready (rs:=[4,5]) (by kernel_rfl) (by simp) ?_;refine eV (fun K hK=>?_) ?_
    ·skip;go_simp;go_at_call 100;refine (KL M C (nN.out.2.right HO.out.2.r HK.out.2) _ nN.out.1).mono ?_;rintro e kP ⟨P,g,C',rfl,xP,wE,tr,vv⟩;have aJ:Below V.heap.size V kP:=hHeld.1.trans (vv.mono hHeld.1.size);have jX:=hid (Zz xP (show vm O P C C' from ⟨f,B,M,g,HK.out.2,nN.out.2,wE,tr⟩));clear xP wE tr vv
     try go_wp2_with fail
     refine hK.out _ _ (dz.out _ aJ) (fun hHeld=>?_);clear hK K
     try simp only[put,sA,sB,sC]
     clear aJ;refine aQ 5 (fun K hK=>?_);skip;refine EM (by rfl) 101 (by rfl) (zC 101) (nG _) ?_;have kk:=al kP (.cells (zC 101) 101);have aJ:Below V.heap.size V (kP.alloc (.cells (zC 101) 101)):=hHeld.1.trans (kk.mono hHeld.1.size);have jX:=hid (Zz (jX.out.1.below kk) jX.out.2);have H7:Hid (St (kP.alloc (.cells (zC 101) 101)) 101 kP.heap.size (zC 101)/\V.heap.size<=kP.heap.size):=(⟨St.new _ _ _,hHeld.1.size⟩);refine hK.out _ _ (dz.out _ aJ) (fun hHeld=>?_);clear hK K
     try simp only[put,sA,sB,sC]
     try simp only[ko]
     clear kk;generalize (kP.alloc (.cells (zC 101) 101))=V7 at H7 jX hHeld aJ⊢;refine aQ 6 (fun K hK=>?_);skip;refine EJ (by rfl) 101 _ _ (by rfl) kP.heap.size 101 (zC 101) P.cD (by rfl) (by rfl) H7.out.1 (by rw[jA,jX.out.1.sz]) (by rw[gO,jX.out.1.sz]) jX.out.1.one ?_;have HE:=hid (Zz (dc.stored (jX.out.2.right HO.out.2.r) jX.out.1 H7.out.1) (Zz jX.out.2 (mY hHeld.1 H7.out.2 P.cD)));refine hK.out _ _ (dz.out _ HE.out.2.2) (fun hHeld=>?_);clear hK K
     try simp only[put,sA,sB,sC]
     refine wpAnyH_done (by kernel_rfl) ?_ _;clear hHeld;go_wp2_with fail
     go_meet
     exact⟨_,P,C',rfl,HE.out⟩
    refine eV (fun K hK=>?_) ?_
    ·skip;refine EM (by rfl) 101 (by rfl) (zC 101) (nG _) ?_;have kk:=al w9 (.cells (zC 101) 101);have aJ:Below V.heap.size V (w9.alloc (.cells (zC 101) 101)):=hHeld.1.trans (kk.mono hHeld.1.size);have nN:=hid (Zz (nN.out.1.below kk) nN.out.2);have H7:Hid (St (w9.alloc (.cells (zC 101) 101)) 101 w9.heap.size (zC 101)/\V.heap.size<=w9.heap.size):=(⟨St.new _ _ _,hHeld.1.size⟩);refine hK.out _ _ (dz.out _ aJ) (fun hHeld=>?_);clear hK K
     try simp only[put,sA,sB,sC]
     try simp only[ko]
     clear kk;generalize (w9.alloc (.cells (zC 101) 101))=V7 at H7 nN hHeld aJ⊢;refine aQ 4 (fun K hK=>?_);skip;go_simp;go_at_call 100;refine (KL M C (nN.out.2.right HO.out.2.r HK.out.2) _ nN.out.1).mono ?_;rintro e kP ⟨P,g,C',rfl,xP,wE,tr,vv⟩;have H7:Hid (St kP 101 w9.heap.size (zC 101)/\V.heap.size<=w9.heap.size):=(⟨H7.out.1.aa vv,H7.out.2⟩);have aJ:Below V.heap.size V kP:=hHeld.1.trans (vv.mono hHeld.1.size);have jX:=hid (Zz xP (show vm O P C C' from ⟨f,B,M,g,HK.out.2,nN.out.2,wE,tr⟩));clear xP wE tr vv
     try go_wp2_with fail
     refine hK.out _ _ (dz.out _ aJ) (fun hHeld=>?_);clear hK K
     try simp only[put,sA,sB,sC]
     clear aJ;refine aQ 6 (fun K hK=>?_);skip;refine EJ (by rfl) 101 _ _ (by rfl) w9.heap.size 101 (zC 101) P.cD (by rfl) (by rfl) H7.out.1 (by rw[jA,jX.out.1.sz]) (by rw[gO,jX.out.1.sz]) jX.out.1.one ?_;have HE:=hid (Zz (dc.stored (jX.out.2.right HO.out.2.r) jX.out.1 H7.out.1) (Zz jX.out.2 (mY hHeld.1 H7.out.2 P.cD)));refine hK.out _ _ (dz.out _ HE.out.2.2) (fun hHeld=>?_);clear hK K
     try simp only[put,sA,sB,sC]
     refine wpAnyH_done (by kernel_rfl) ?_ _;clear hHeld;go_wp2_with fail
     go_meet
     exact⟨_,P,C',rfl,HE.out⟩
    exact AllReadyH.nil
   refine eV (fun K hK=>?_) ?_
   ·skip;refine EM (by rfl) 101 (by rfl) (zC 101) (nG _) ?_;have kk:=al w8 (.cells (zC 101) 101);have aJ:Below V.heap.size V (w8.alloc (.cells (zC 101) 101)):=hHeld.1.trans (kk.mono hHeld.1.size);have HK:=hid (Zz (HK.out.1.below kk) HK.out.2);have H7:Hid (St (w8.alloc (.cells (zC 101) 101)) 101 w8.heap.size (zC 101)/\V.heap.size<=w8.heap.size):=(⟨St.new _ _ _,hHeld.1.size⟩);refine hK.out _ _ (dz.out _ aJ) (fun hHeld=>?_);clear hK K
    try simp only[put,sA,sB,sC]
    try simp only[ko]
    clear kk;generalize (w8.alloc (.cells (zC 101) 101))=V7 at H7 HK hHeld aJ⊢;refine aQ 3 (fun K hK=>?_);skip;go_simp;go_at_call 101;refine (N1 O C HO.out.2.r _ f B HK.out.2 aB cB _ hHeld.2.dm HK.out.1).mono ?_;rintro e w9 ⟨M,rfl,Bd,t1,t2,t3,t4,t5,t6,vv,_⟩;have H7:Hid (St w9 101 w8.heap.size (zC 101)/\V.heap.size<=w8.heap.size):=(⟨H7.out.1.aa vv,H7.out.2⟩);have aJ:Below V.heap.size V w9:=hHeld.1.trans (vv.mono hHeld.1.size);have nN:=hid (Zz Bd (show qA O C f B M from ⟨t1,t2,t3,t4,t5,t6⟩));clear Bd t1 t2 t3 t4 t5 t6 vv
    try go_wp2_with fail
    refine hK.out _ _ (dz.out _ aJ) (fun hHeld=>?_);clear hK K
    try simp only[put,sA,sB,sC]
    clear aJ;refine aQ 4 (fun K hK=>?_);skip;go_simp;go_at_call 100;refine (KL M C (nN.out.2.right HO.out.2.r HK.out.2) _ nN.out.1).mono ?_;rintro e kP ⟨P,g,C',rfl,xP,wE,tr,vv⟩;have H7:Hid (St kP 101 w8.heap.size (zC 101)/\V.heap.size<=w8.heap.size):=(⟨H7.out.1.aa vv,H7.out.2⟩);have aJ:Below V.heap.size V kP:=hHeld.1.trans (vv.mono hHeld.1.size);have jX:=hid (Zz xP (show vm O P C C' from ⟨f,B,M,g,HK.out.2,nN.out.2,wE,tr⟩));clear xP wE tr vv
    try go_wp2_with fail
    refine hK.out _ _ (dz.out _ aJ) (fun hHeld=>?_);clear hK K
    try simp only[put,sA,sB,sC]
    clear aJ;refine aQ 6 (fun K hK=>?_);skip;refine EJ (by rfl) 101 _ _ (by rfl) w8.heap.size 101 (zC 101) P.cD (by rfl) (by rfl) H7.out.1 (by rw[jA,jX.out.1.sz]) (by rw[gO,jX.out.1.sz]) jX.out.1.one ?_;have HE:=hid (Zz (dc.stored (jX.out.2.right HO.out.2.r) jX.out.1 H7.out.1) (Zz jX.out.2 (mY hHeld.1 H7.out.2 P.cD)));refine hK.out _ _ (dz.out _ HE.out.2.2) (fun hHeld=>?_);clear hK K
    try simp only[put,sA,sB,sC]
    refine wpAnyH_done (by kernel_rfl) ?_ _;clear hHeld;go_wp2_with fail
    go_meet
    exact⟨_,P,C',rfl,HE.out⟩
   exact AllReadyH.nil
  refine eV (fun K hK=>?_) ?_
  ·skip;refine EM (by rfl) 101 (by rfl) (zC 101) (nG _) ?_;have kk:=al V.drew (.cells (zC 101) 101);have aJ:Below V.heap.size V (V.drew.alloc (.cells (zC 101) 101)):=hHeld.1.trans (kk.mono hHeld.1.size);have H7:Hid (St (V.drew.alloc (.cells (zC 101) 101)) 101 V.heap.size (zC 101)/\V.heap.size<=V.heap.size):=(⟨St.new _ _ _,hHeld.1.size⟩);refine hK.out _ _ (dz.out _ aJ) (fun hHeld=>?_);clear hK K
   try simp only[put,sA,sB,sC]
   try simp only[ko]
   clear kk;generalize (V.drew.alloc (.cells (zC 101) 101))=V7 at H7 hHeld aJ⊢;refine aQ 2 (fun K hK=>?_);skip;go_simp;go_at_call 102;refine (SL O C HO.out.2.r _ hHeld.2.dm).mono ?_;rintro e w8 ⟨f,B,aB,cB,rfl,ho,Gn,vv⟩;have H7:Hid (St w8 101 V.heap.size (zC 101)/\V.heap.size<=V.heap.size):=(⟨H7.out.1.aa vv,H7.out.2⟩);have aJ:Below V.heap.size V w8:=hHeld.1.trans (vv.mono hHeld.1.size);have HK:=hid (Zz (Wh ho) Gn);clear ho Gn vv
   try go_wp2_with fail
   refine hK.out _ _ (dz.out _ aJ) (fun hHeld=>?_);clear hK K
   try simp only[put,sA,sB,sC]
   clear aJ;refine aQ 3 (fun K hK=>?_);skip;go_simp;go_at_call 101;refine (N1 O C HO.out.2.r _ f B HK.out.2 aB cB _ hHeld.2.dm HK.out.1).mono ?_;rintro e w9 ⟨M,rfl,Bd,t1,t2,t3,t4,t5,t6,vv,_⟩;have H7:Hid (St w9 101 V.heap.size (zC 101)/\V.heap.size<=V.heap.size):=(⟨H7.out.1.aa vv,H7.out.2⟩);have aJ:Below V.heap.size V w9:=hHeld.1.trans (vv.mono hHeld.1.size);have nN:=hid (Zz Bd (show qA O C f B M from ⟨t1,t2,t3,t4,t5,t6⟩));clear Bd t1 t2 t3 t4 t5 t6 vv
   try go_wp2_with fail
   refine hK.out _ _ (dz.out _ aJ) (fun hHeld=>?_);clear hK K
   try simp only[put,sA,sB,sC]
   clear aJ;refine aQ 4 (fun K hK=>?_);skip;go_simp;go_at_call 100;refine (KL M C (nN.out.2.right HO.out.2.r HK.out.2) _ nN.out.1).mono ?_;rintro e kP ⟨P,g,C',rfl,xP,wE,tr,vv⟩;have H7:Hid (St kP 101 V.heap.size (zC 101)/\V.heap.size<=V.heap.size):=(⟨H7.out.1.aa vv,H7.out.2⟩);have aJ:Below V.heap.size V kP:=hHeld.1.trans (vv.mono hHeld.1.size);have jX:=hid (Zz xP (show vm O P C C' from ⟨f,B,M,g,HK.out.2,nN.out.2,wE,tr⟩));clear xP wE tr vv
   try go_wp2_with fail
   refine hK.out _ _ (dz.out _ aJ) (fun hHeld=>?_);clear hK K
   try simp only[put,sA,sB,sC]
   clear aJ;refine aQ 6 (fun K hK=>?_);skip;refine EJ (by rfl) 101 _ _ (by rfl) V.heap.size 101 (zC 101) P.cD (by rfl) (by rfl) H7.out.1 (by rw[jA,jX.out.1.sz]) (by rw[gO,jX.out.1.sz]) jX.out.1.one ?_;have HE:=hid (Zz (dc.stored (jX.out.2.right HO.out.2.r) jX.out.1 H7.out.1) (Zz jX.out.2 (mY hHeld.1 H7.out.2 P.cD)));refine hK.out _ _ (dz.out _ HE.out.2.2) (fun hHeld=>?_);clear hK K
   try simp only[put,sA,sB,sC]
   refine wpAnyH_done (by kernel_rfl) ?_ _;clear hHeld;go_wp2_with fail
   go_meet
   exact⟨_,P,C',rfl,HE.out⟩
  exact AllReadyH.nil
 case rest=>
  obtain⟨b5,P,C',rfl,KC,MY,FT⟩:=hcut;have HP:=hid (Zz KC (Zz MY FT));have H5:Hid (St wc 101 b2 (zC 101)/\Below b0 w wc/\b0<=wc.heap.size):=⟨H4.out.1.aa FT,H4.out.2.1.trans (FT.mono H4.out.2.2),by have:=H4.out.2.2;have:=FT.size;omega⟩
  obtain⟨k2,wF,Da⟩:=Y7 (HP.out.2.1.right HO.out.2.r);have HOr:=hid (Xh P C' _ k2 rfl wF Da wc HP.out.1.dm (HP.out.2.1.right HO.out.2.r));have C4:=hid (Zz wF Da);clear KC MY FT wF Da;go_wp2_with (refine oa (by rfl) 101 _ rfl ⟨b5,0,none⟩ rfl P.cD _ HP.out.1.st.part underlying101 rfl HP.out.1.dm.info ?_);refine HOr.out.mono ?_;rintro e wX ⟨X,rfl,Rj,t1,t2,t3,t4,t5,t6,bX,_⟩;have HX:=hid (vm.mn HO.out.2.r HO.out.2.ord HO.out.2.Fq HP.out.2.1 rfl C4.out.1 C4.out.2 (X:=X) ⟨t1,t2,t3,t4,t5,t6⟩);have J4:=hid Rj;have HXn:Hid (X.n<=D.n):=by have h1:=HP.out.2.1.le;have h2:=HO.out.2.le;have h3:=C4.out.2;show X.n<=D.n;omega
  have iF:=hid (H5.out.1.aa bX);have HF:Hid (V4 D w (.returned (.tuple #[.agg X.cD,.int .i64 0])) (wX.setRow b2 X.cD)):=by
   have hb:Below w.heap.size w wX:=by
    have h:=H5.out.2.1.trans (bX.mono H5.out.2.2);rw[Hb.out.1];exact h
   refine⟨X,C',rfl,(dc.stored HX.out.1.r Rj iF.out).dm,HX.out.1,HX.out.2.trans HO.out.2.wK,HXn.out,mY hb (by have:=Hb.out.2;omega) _⟩
  clear Rj t1 t2 t3 t4 t5 t6 bX HOr;go_wp2_with (refine pN rfl 101 _ _ rfl b2 101 (zC 101) X.cD rfl rfl iF.out (by rw[jA,J4.out.sz]) (by rw[gO,J4.out.sz]) J4.out.one ?_);refine bodyPost_ret (CD rfl _ _ b2 X.cD _ rfl iF.out.setRow.part underlying101 rfl (by rw[gO,J4.out.sz])) rfl ?_;exact HF.out
end Go.Proofs.YtiijebameffenaaGreat
