import Derived.Test.YtiijebameffenaaGreatZMUniq
import Derived.Test.YtiijebameffenaaGreatZPBy
import Derived.Laws.MakeOwn
set_option linter.all false
set_option maxHeartbeats 4000000
set_option maxRecDepth 100000
open Go.Lib (hid)
namespace Go.Proofs.YtiijebameffenaaGreat
open Go.RowKit Go.Maps Go.WideElems Go.ChangeMaps Go.MapKept Go.Proofs.Tryz
open Instr (fill lookup makeMap makeSlice mapUpdate)
open List (getD_eq_getElem?_getD getElem?_append_left getElem?_eq_getElem getElem_of_mem length_append length_map map_append mem_of_getElem? range range_succ replicate set_cons_succ set_cons_zero)
open Or (inl inr)
open Nat (le_refl zero_le)
open Act (put)
open IntKind (signed wrap)
variable {B C C' bM i k n:Nat}{D O P:Dd}{W0 w w' w1:World}{a:Option Addr}{cs:Array Value}{f g:Nat->Nat}{l nm:List Nat}{t:TypeId}{u v v':Value}
theorem Yv(n:Nat)(hn:n<=1000000)(W:World):(makeSlice 43 (.int .i64 0) (.int .i64 (n:Int))).run prog W=.ok (.slice (some ⟨W.heap.size,0,none⟩) 0 n) (W.alloc (.cells (madeCells #[.int .i64 0] n) 3)):=by
 obtain⟨i0,hi,dP,dc,db⟩:=info_parts aH;have h:=run_makeSlice (P:=prog) W 43 3 i0 (.int .i64 0) underlying43 hi dP .i64 .i64 0 (n:Int) (by omega) (by omega) (by rw[dc];simp;omega) (by rw[db];omega) (by omega);have e:(Value.int .i64 0).cells=#[.int .i64 0]:=rfl;rw[dc,e] at h;simpa using h
def fo(w:World)(k:TypeId)(b n:Nat)(Q:Value->Value->Prop):Prop:=
 ∃es clock,w.heap[b]?=some (.map es clock)/\Fit prog k fY es clock/\es.size=n/\(∀e∈es.toList,Q e.key e.val)/\∀x y,Q x y->∃e∈es.toList,e.key=x
theorem fo.ex{k:TypeId}{b:Nat}{Q:Value->Value->Prop}(h:fo w k b n Q):aJ w k b n Q:=by
 obtain⟨es,clock,h1,h2,h3,h4⟩:=h;exact⟨es,clock,h1,h2,by omega,h4⟩
theorem fo.made(w:World)(k:TypeId)(Q:Value->Value->Prop)(h0:∀x y,¬Q x y):fo (w.alloc (.map #[] 0)) k w.heap.size 0 Q:=
 ⟨#[],0,(MapKept.heap_alloc w _).1,⟨by simp,stamped_empty 0,by simp⟩,rfl,by simp,fun x y h=>absurd h (h0 x y)⟩
theorem fo.lt{k:TypeId}{b:Nat}{Q:Value->Value->Prop}(h:fo w k b n Q):b<w.heap.size:=h.ex.lt
theorem fo.same{k:TypeId}{b:Nat}{Q:Value->Value->Prop}(h:fo w k b n Q)(e:w'.heap[b]?=w.heap[b]?):fo w' k b n Q:=by
 obtain⟨es,clock,hb,r⟩:=h;exact⟨es,clock,e.trans hb,r⟩
theorem fo.af{t' size b N:Nat}{xs:List Value}{Q:Value->Value->Prop}(h:fo w k b N Q)(ho:w.ownsRow B t' size v n xs)(hg:w.grownBy w' v.ownBlock):fo w' k b N Q:=by
 refine h.same (hg.block b h.lt (fun e=>?_));obtain⟨c,fz,hc⟩:=qX ho b e.symm;obtain⟨es,clock,hb,_⟩:=h;rw[hc] at hb;cases hb
theorem fo.len{k ty:TypeId}{b:Nat}{Q:Value->Value->Prop}(h:fo w k b n Q)(ht:prog.underlying t=some (.map (prog.mapKeyOf t) (prog.mapElemOf t))):(Builtin.len_ #[t] ty #[.map (some b)]).run prog w=.ok (.int .i64 (n:Int)) w:=by
 obtain⟨es,clock,hb,_,hs,_⟩:=h;rw[Go.run_len_map w t ty b es clock ht hb,hs];rfl
theorem fo.update{k e:TypeId}{b:Nat}{Q Q':Value->Value->Prop}(h:fo w k b n Q)(K:Keyed prog k)(ht:prog.underlying t=some (.map k e))(hn:n<maxLen)
  {key val:Value}{kl:Lit}(fw:keyOf prog k key=some kl) (kQ:∀y,¬Q key y) (hQ:∀x y,Q x y->Q' x y) (hv:Q' key val) (oj:∀x y,Q' x y->x≠key->∃y',Q x y'):
  ∃w',(mapUpdate t (.map (some b)) key val).run prog w=.ok () w'/\fo w' k b (n+1) Q'/\w.grownBy w' (some b):=by
 obtain⟨es,clock,hb,F,hs,hq,eO⟩:=h;have jv:∀x∈es.toList,x.key≠key:=fun x hx e0=>kQ x.val (by rw[<-e0];exact hq x hx)
 obtain⟨F1,_,_⟩:=F.stay (R':=fY) (fun x hx z hz=>hz);have pS:WideElems.rd prog k fY ⟨key,val,clock⟩=some (kl,.held val):=by unfold WideElems.rd fY;rw[fw];rfl
 rcases K.find w fw es.toList F.keys with ⟨h1,h2⟩|⟨j,e0,h1,h2,h3⟩
 ·refine⟨setBlock w b (.map (es.push ⟨key,val,clock⟩) (clock+1)),?_,⟨es.push ⟨key,val,clock⟩,clock+1,heap_setBlock_same hb _,⟨by simp;omega,stamped_push F.stamped h2,?_⟩,by simp;omega,fun x hx=>?_,fun x y hx=>?_⟩,⟨rfl,rfl,rfl,by simp[setBlock],fun i _ hi=>heap_setBlock_other hb _ (fun e=>hi (by rw[e]))⟩⟩
  ·simp[mapUpdate,run_underlying ht,MapKept.run_getObj_map hb,K.check w false fw,h1,MapKept.run_setObj_map _ hb,Result.andThen,setBlock]
  ·intro x hx;simp only[Array.toList_push,List.mem_append,List.mem_singleton] at hx;rcases hx with hx|rfl
   ·exact F1.reads x hx
   exact⟨_,pS⟩
  ·simp only[Array.toList_push,List.mem_append,List.mem_singleton] at hx;rcases hx with hx|rfl
   ·exact hQ _ _ (hq x hx)
   exact hv
  by_cases e0:x=key
  ·exact⟨⟨key,val,clock⟩,by rw[Array.toList_push];exact List.mem_append_right _ (List.mem_singleton.2 rfl),e0.symm⟩
  obtain⟨y',hy⟩:=oj x y hx e0;obtain⟨e1,h4,h5⟩:=eO x y' hy;exact⟨e1,by rw[Array.toList_push];exact List.mem_append_left _ h4,h5⟩
 exact absurd h3 (jv e0 (mem_of_getElem? h2))
theorem WC(n:Nat)(hn:n<=1000000)(W:World)(B:Nat)(hB:B<=W.heap.size):(W.alloc (.cells (madeCells #[.int .i64 0] n) 3)).ownsRow B 3 1 (.slice (some ⟨W.heap.size,0,none⟩) 0 n) 0 []:=
 World.ownsRow_made W _ n hB (by unfold maxLen;omega) (by have:=size_madeCells #[Value.int .i64 0] n;simpa using this)
def zrw(l:List Nat)(n:Nat)(w:World)(e:Ending)(w':World):Prop:=
 ∃(f:Nat->Nat) (B:Nat) (a:Option Addr) (c:Nat),e=.returned (.slice a n c)/\w'.ownsRow w.heap.size 3 1 (.slice a n c) n (dv ((range n).map f))/\jO (fun i j=>l.getD i 0=l.getD j 0) n f B/\Below w.heap.size w w'
structure ub (W0:World)(l:List Nat)(bM k:Nat)(v:Value)(nm:List Nat)(f:Nat->Nat)(w:World):Prop where
 below:Below W0.heap.size W0 w
 map:fo w 3 bM nm.length (AV nm)
 own:w.ownsRow W0.heap.size 3 1 v k (dv ((range k).map f))
 at_:∀i,i<k->nm[f i]?=some (l.getD i 0)
 num:jO (fun i j=>l.getD i 0=l.getD j 0) k f nm.length
 lo:W0.heap.size<=bM
 nk:nm.length<=k
theorem ub.mem(h:ub W0 l bM k v nm f w)(y:Nat):y∈nm↔∃i,i<k/\l.getD i 0=y:=by
 constructor
 ·intro hm;obtain⟨b,hb,e⟩:=getElem_of_mem hm;obtain⟨i,h1,h2,_⟩:=h.num.new b hb;refine⟨i,h1,?_⟩;have:=h.at_ i h1;rw[h2,getElem?_eq_getElem hb,e] at this;exact (Option.some.inj this).symm
 rintro⟨i,hi,rfl⟩;exact mem_of_getElem? (h.at_ i hi)
theorem V1(f:Nat->Nat)(k b:Nat):dv ((range (k+1)).map fun i=>if i=k then b else f i)=dv ((range k).map f)++[.int .i64 (b:Int)]:=by
 rw[range_succ,map_append,dv,map_append];congr 1
 ·unfold dv;congr 1;refine List.map_congr_left fun i hi=>?_
  have:=List.mem_range.1 hi;rw[if_neg (by omega)]
 simp
theorem zhC(W:World):(makeMap 191 none).run prog W=.ok (.map (some W.heap.size)) (W.alloc (.map #[] 0)):=by
 kernel_rfl
theorem ub.look(h:ub W0 l bM k v nm f w)(hk:l.getD k 0<=1000000):
  (∃b,nm[b]?=some (l.getD k 0)/\(lookup 191 (.map (some bM)) (.int .i64 (l.getD k 0)) true).run prog w=.ok (.tuple #[.int .i64 ((b:Nat):Int),.bool true]) w)\/
  (l.getD k 0∉nm/\(lookup 191 (.map (some bM)) (.int .i64 (l.getD k 0)) true).run prog w=.ok (.tuple #[.int .i64 0,.bool false]) w):=by
 rcases h.map.ex.qm E5 underlying191 (OA w) (Ov _ (by omega:l.getD k 0<=9223372036854775807)) with ⟨cZ,jv⟩|⟨v,⟨b,s,h1,h2,rfl⟩,cZ⟩
 ·refine inr ⟨fun hm=>?_,cZ⟩;obtain⟨b,hb,e⟩:=getElem_of_mem hm;exact jv _ ⟨b,l.getD k 0,by rw[getElem?_eq_getElem hb,e],rfl,rfl⟩
 exact inl ⟨b,by rw[Px h2];exact h1,cZ⟩
theorem ub.ae(h:ub W0 l bM k v nm f w)(kk:Below w.heap.size w w1):ub W0 l bM k v nm f w1:=
 ⟨h.below.trans (kk.mono h.below.size),h.map.same (kk.block _ h.map.lt),dE h.own kk,h.at_,h.num,h.lo,h.nk⟩
theorem ub.lX{b:Nat}(h:ub W0 l bM k v nm f w)(hb:nm[b]?=some (l.getD k 0))
  (ho:w'.ownsRow W0.heap.size 3 1 v' (k+1) (dv ((range k).map f)++[.int .i64 (b:Int)])) (hg:w.grownBy w' v.ownBlock):∃f',ub W0 l bM (k+1) v' nm f' w':=by
 have eC:b<nm.length:=(List.getElem?_eq_some_iff.1 hb).1;obtain⟨i,h1,h2,_⟩:=h.num.new b eC;have hi:=h.at_ i h1;rw[h2,hb] at hi;have hi:=Option.some.inj hi;refine⟨fun j=>if j=k then b else f j,gu h.below h.own h.below.size hg,h.map.af h.own hg,by rw[V1];exact ho,fun j hj=>?_,?_,h.lo,by have:=h.nk;omega⟩
 ·by_cases e:j=k
  ·simp only[if_pos e];rw[e];exact hb
  simp only[if_neg e];exact h.at_ j (by omega)
 have:=h.num.lX (fun i j e=>e.symm) (fun i j l e e2=>e.trans e2) (fun i=>rfl) h1 hi.symm;rw[h2] at this;exact this
theorem ub.fresh(h:ub W0 l bM k v nm f w)(hb:l.getD k 0∉nm)(hm:fo w1 3 bM (nm.length+1) (AV (nm++[l.getD k 0])))(jF:w.grownBy w1 (some bM))
  (w2:World) (k2:Below w1.heap.size w1 w2) (hg:w2.grownBy w' v.ownBlock) (ho:w'.ownsRow W0.heap.size 3 1 v' (k+1) (dv ((range k).map f)++[.int .i64 (nm.length:Int)])):∃f',ub W0 l bM (k+1) v' (nm++[l.getD k 0]) f' w':=by
 have mZ:Below W0.heap.size W0 w1:=h.below.grown jF h.below.size (fun g e=>by injection e with e;rw[<-e];exact h.lo);have nO:=mZ.trans (k2.mono mZ.size);have o2:=dE (AD h.own h.map.ex.of jF) k2;have m2:=hm.same (k2.block _ hm.lt);refine⟨fun j=>if j=k then nm.length else f j,gu nO o2 nO.size hg,by rw[length_append];exact m2.af o2 hg,by rw[V1];exact ho,fun j hj=>?_,?_,h.lo,by have:=h.nk;simp;omega⟩
 ·by_cases e:j=k
  ·simp only[if_pos e];rw[e];simp
  simp only[if_neg e];have:=h.at_ j (by omega);rw[getElem?_append_left (List.getElem?_eq_some_iff.1 this).1];exact this
 have:=h.num.fresh (fun i j e=>e.symm) (fun i=>rfl) (fun i hi e=>hb ((h.mem _).2 ⟨i,hi,e⟩));rw[length_append];exact this
theorem zqm{x:Nat}(h:fo w 3 bM nm.length (AV nm))(hx:x<=1000000)(hn:nm.length<maxLen)(hb:x∉nm):
  ∃w',(mapUpdate 191 (.map (some bM)) (.int .i64 (x:Int)) (.int .i64 (nm.length:Int))).run prog w=.ok () w'/\fo w' 3 bM (nm.length+1) (AV (nm++[x]))/\w.grownBy w' (some bM):=by
 refine h.update E5 underlying191 hn (Ov _ (by omega)) ?_ ?_ ?_ ?_
 ·rintro y ⟨k,s,h1,h2,_⟩;rw[<-Px h2] at h1;exact hb (mem_of_getElem? h1)
 ·rintro a b ⟨k,s,h1,h2,h3⟩;exact⟨k,s,by rw[getElem?_append_left (List.getElem?_eq_some_iff.1 h1).1];exact h1,h2,h3⟩
 ·exact⟨nm.length,x,by simp,rfl,rfl⟩
 rintro a b ⟨k,s,h1,h2,h3⟩ hne;by_cases e:k<nm.length
 ·rw[getElem?_append_left e] at h1;exact⟨b,k,s,h1,h2,h3⟩
 rw[List.getElem?_append_right (by omega)] at h1;cases hj:k-nm.length with
 | zero=>rw[hj] at h1;simp at h1;exact absurd (by rw[h2,h1]) hne
 | succ j=>rw[hj] at h1;simp at h1
theorem zgD(l:List Nat)(n:Nat)(hl:l.length=n)(hn:n<=100000)(hb:∀x∈l,x<=1000000)(a:Option Addr)(c:Nat)(w:World)(hL:pe w a l):Calls prog 133 #[.slice a n c] w (zrw l n w):=by
 have jR:=zhC;have gP:=Yv n (by omega);have HX:=ξ hl hb hL;clear hl hb hL;go_in;go_upto_region 3 with fail;obtain⟨bM,sY⟩:=Ξ (w.heap.size+1)
 obtain⟨b0,bz⟩:=Ξ w.heap.size
 obtain⟨W2,lQ⟩:=Ξ ((w.alloc (.cells (madeCells #[.int .i64 0] n) 3)).alloc (.map #[] 0))
 have cQ:(w.alloc (.cells (madeCells #[.int .i64 0] n) 3)).heap.size=bM:=by rw[<-sY];simp
 have k1:=al w (.cells (madeCells #[.int .i64 0] n) 3);have k2:=al (w.alloc (.cells (madeCells #[.int .i64 0] n) 3)) (.map #[] 0);have Lb:ub w l bM 0 (.slice (some ⟨b0,0,none⟩) 0 n) [] (fun _=>0) W2:=by
  have hO:=dE (WC n (by omega) w w.heap.size (le_refl _)) k2;rw[lQ,bz] at hO;refine⟨by rw[<-lQ];exact k1.trans (k2.mono (by simp)),?_,by rw[bz];exact hO,fun i hi=>absurd hi (by omega),jO.zero _,by omega,by simp⟩;have:=fo.made (w.alloc (.cells (madeCells #[.int .i64 0] n) 3)) 3 (AV []) (fun x y h=>by
   obtain⟨k,s,h1,_⟩:=h
   simp at h1)
  rw[lQ,cQ] at this;exact this
 have tM:=hid Lb;clear Lb k1 k2
 try rw[sY]
 try rw[lQ]
 try rw[bz]
 have Hb:=ζ sY bz;clear sY bz lQ cQ;go_wp2;go_loopw [3,6,7,8,15] (fun v3 _ _ _ vk wr=>∃k:Nat,vk=.int .i64 k/\k<=n/\(∃a3 c3,v3=.slice a3 k c3)/\Hid (∃nm f,ub w l bM k v3 nm f wr)) (fun _ _ _ _ v _=>n-(intOf v).toNat)
 ·exact⟨0,rfl,zero_le _,⟨_,_,rfl⟩,_,_,tM.o⟩
 obtain⟨k,rfl,hk,⟨a3,c3,rfl⟩,HL⟩:=hrel;by_cases aq:k<n
 ·obtain⟨nm,f,hI⟩:=HL.o;obtain⟨g,off,rfl,hg,hc⟩:=HX.o.2.2 (by have:=HX.o.1;omega);have d0:=(hI.below.cell (p:=⟨g,off+k,none⟩) hg).trans (hc k (by have:=HX.o.1;omega));simp only[] at d0;have Au:l.getD k 0<=1000000:=by
   by_cases e:k<l.length
   ·rw[getD_eq_getElem?_getD,getElem?_eq_getElem e];exact HX.o.2.1 _ (List.getElem_mem e)
   rw[getD_eq_getElem?_getD,List.getElem?_eq_none (by omega)];simp
  have fW:=hI.look Au;have i1:(k:Int)<n:=by omega
  have IE:=hI.nk;obtain⟨m,hm⟩:=Ξ nm.length
  obtain⟨i0,hi,dP,dc,db⟩:=info_parts aH;have ur:=hI.below.size;have HI:=hid hI;have hlen:=hI.map.len (ty:=3) (t:=191) (by rw[underlying191];rfl);rw[hm] at IE hlen;clear hc hg hI HL;rcases fW with ⟨b,hb,cZ⟩|⟨hb,cZ⟩
  ·have Hb:=hid hb;clear hlen hb;obtain⟨x,hx⟩:=Ξ (l.getD k 0);rw[hx] at d0 cZ Au;go_wp2_with (at_builtin;refine wpList_append_own_at _ rfl _ _ 43 rfl w.heap.size 3 i0 (.int .i64 0) 1 8 underlying43 hi dP dc db rfl (by decide) _ _ _ rfl (HI.o.own.alloc _) ⟨wr.heap.size,0,none⟩ 1 1 [.int .i64 (b:Int)] rfl rfl (cell_one_new _ _ _) ?d2 ?d3 ?d4 ?d5 ?_)
   case d2=>first|(intro u hu;simp at hu;subst hu;rfl)|rfl
   case d3=>unfold maxLen;omega
   case d4=>omega
   case d5=>first|(simp;omega)|omega
   intro v' w5 ak aj _ bW;obtain⟨a5,c5,rfl⟩:=cy ak;have HF:=hid ((HI.o.ae (al wr (.cells #[.int .i64 (b:Int)] 3))).lX Hb.o ak aj);clear ak aj bW;go_wp2;go_roundw
   ·exact⟨k+1,by go_num,by omega,⟨_,_,rfl⟩,nm,HF.o⟩
   simp[intOf];omega
  obtain⟨w1,Ah,jD,jF⟩:=zqm HI.o.map Au (by unfold maxLen;omega) hb;have PE:=ξ hb jD jF;have Ch:=AD HI.o.own HI.o.map.ex.of jF;rw[hm] at Ah;have Q5:=(HI.o.below.grown jF ur (fun g e=>by injection e with e;rw[<-e];exact HI.o.lo)).size;clear jD jF hb;obtain⟨x,hx⟩:=Ξ (l.getD k 0)
  rw[hx] at d0 cZ Au Ah;go_wp2_with (at_builtin;refine wpList_append_own_at _ rfl _ _ 43 rfl w.heap.size 3 i0 (.int .i64 0) 1 8 underlying43 hi dP dc db rfl (by decide) _ _ _ rfl (Ch.alloc _) ⟨w1.heap.size,0,none⟩ 1 1 [.int .i64 (m:Int)] rfl rfl (cell_one_new _ _ _) ?d2 ?d3 ?d4 ?d5 ?_)
  case d2=>first|(intro u hu;simp at hu;subst hu;rfl)|rfl
  case d3=>unfold maxLen;omega
  case d4=>omega
  case d5=>first|(simp;omega)|omega
  intro v' w5 ak aj _ bW;obtain⟨a5,c5,rfl⟩:=cy ak;have HF:=hid (HI.o.fresh PE.o.1 PE.o.2.1 PE.o.2.2 _ (al w1 (.cells #[.int .i64 (m:Int)] 3)) aj (by rw[hm];exact ak));clear ak aj bW Ch;go_wp2;go_roundw
  ·exact⟨k+1,by go_num,by omega,⟨_,_,rfl⟩,_,HF.o⟩
  simp[intOf];omega
 obtain rfl:k=n:=by omega
 obtain⟨nm,f,hI⟩:=HL.o;have HI:=hid hI;clear hI HL;go_wp2;go_ret;exact⟨f,nm.length,a3,c3,rfl,HI.o.own,HI.o.num,HI.o.below⟩
def WO(D:Dd)(C:Nat)(w:World)(e:Ending)(w':World):Prop:=
 ∃(f:Nat->Nat) (B:Nat) (a:Option Addr) (c:Nat),e=.returned (.slice a D.n c)/\w'.ownsRow w.heap.size 3 1 (.slice a D.n c) D.n (dv ((range D.n).map f))/\jO (nI C (tD D) (mD D)) D.n f B/\Below w.heap.size w w'
theorem pe.J6(h:pe w a l)(n:Nat)(hn:n<=l.length):pe w a (l.take n):=by
 intro h0;have e:(l.take n).length=n:=by rw[List.length_take];omega
 rw[e] at h0;obtain⟨g,off,e1,hg,hc⟩:=h (by omega);refine⟨g,off,e1,hg,fun j hj=>?_⟩;rw[e] at hj;rw[hc j (by omega)];simp only[];rw[getD_eq_getElem?_getD,getD_eq_getElem?_getD,List.getElem?_take_of_lt hj]
theorem jO.rel{R R':Nat->Nat->Prop}(h:jO R n f B)(e:∀i j,i<n->j<n->(R i j↔R' i j)):jO R' n f B:=
 ⟨fun i j hi hj=>(h.same i j hi hj).trans (e i j hi hj),h.lt,h.new⟩
theorem Vw(D:Dd)(C:Nat)(hR:DR D C)(w:World)(hD:DM w D):Calls prog 102 #[.agg D.cD] w (WO D C w):=by
 have HB:=ξ (dD.new hD) (al w (.cells D.cD 101)) hR;clear hD hR;go_in;go_upto_region 1 with fail;generalize w.alloc (.cells D.cD 101)=W0 at HB⊢;obtain⟨b0,bz⟩:=Ξ w.heap.size
 rw[bz] at HB;rw[bz];have eY:=hid bz;have IQ:b0<=W0.heap.size:=by have:=HB.o.2.1.size;omega
 clear bz;have uX:=hid (Ji D C HB.o.2.2 W0 HB.o.1.dm);go_wp2_with (refine pU (by rfl) 101 _ rfl ⟨b0,0,none⟩ rfl D.cD _ HB.o.1.st.part underlying101 rfl HB.o.1.dm.info ?_);refine uX.o.mono ?_;rintro e w1 ⟨rfl,b1⟩;have H1:=ζ (HB.o.1.ae b1) (HB.o.2.1.trans (b1.mono IQ));have fT:b0<=w1.heap.size:=by have:=b1.size;omega
 have Xu:=hid (zhD D C HB.o.2.2 w1 H1.o.1.dm);clear b1 uX;go_wp2_with (refine pU (by rfl) 101 _ rfl ⟨b0,0,none⟩ rfl D.cD _ H1.o.1.st.part underlying101 rfl H1.o.1.dm.info ?_);refine Xu.o.mono ?_;rintro e w2 ⟨bl,a,c,rfl,eC,sG,hc,hO,heq,b2⟩;have H2:=ζ (H1.o.1.ae b2) (H1.o.2.trans (b2.mono fT));have cH:b0<=w2.heap.size:=by have:=b2.size;omega
 have dd:=HB.o.2.2.n2;have yN:(bl.take D.n).length=D.n:=by rw[List.length_take];omega
 have uu:=hid (zgD (bl.take D.n) D.n yN (by omega) (fun x hx=>by have:=sG x (List.mem_of_mem_take hx);omega) a c w2 ((vy hO eC).J6 D.n (by omega)));have Heq:Hid (∀i j,i<D.n->j<D.n->((bl.take D.n).getD i 0=(bl.take D.n).getD j 0↔nI C (tD D) (mD D) i j)):=by
  show ∀i j,_;intro i j hi hj;rw[<-heq i j (by omega) (by omega)];simp only[getD_eq_getElem?_getD,List.getElem?_take_of_lt hi,List.getElem?_take_of_lt hj]
 have f1:=H2.o.1.f1;have i1:(D.n:Int)<=(c:Int):=by omega
 have ie:D.n<=c:=by omega
 clear b2 Xu hO heq sG eC yN;go_wp2_with fail;refine uu.o.mono ?_;rintro e w3 ⟨f,B,a3,c3,rfl,Vz,It,b3⟩;have HF:Hid (WO D C w (.returned (.slice a3 D.n c3)) w3):=by
  refine⟨f,B,a3,c3,rfl,jH Vz (by rw[eY.o];exact cH),It.rel Heq.o,?_⟩;rw[eY.o];exact H2.o.2.trans (b3.mono cH)
 clear Vz It b3;go_wp2;go_ret;exact HF.o
theorem Xx{c:Nat}(h:w.ownsRow B 3 1 (.slice a n c) n (dv ((range n).map f))):lT w a n (fun i=>((f i:Nat):Int)):=by
 intro h0;obtain⟨g,e,h1,h2,h3⟩:=fG h h0;refine⟨g,0,e,h2,fun j hj=>?_⟩;have:=(h3 j (by omega)).1;rw[Nat.zero_add,this];simp[dv,hj]
def XQ(z:Nat->Int)(l:List Nat)(m:Nat)(w:World)(e:Ending)(w':World):Prop:=
 ∃(a:Option Addr) (c:Nat),e=.returned (.slice a m c)/\w'.ownsRow w.heap.size 3 1 (.slice a m c) m (ints (l.map z))/\Below w.heap.size w w'
theorem zlW(z:Nat->Int)(l:List Nat)(k:Nat)(hk:k<l.length):ints ((l.take (k+1)).map z)=ints ((l.take k).map z)++[.int .i64 (z (l.getD k 0))]:=by
 rw[List.take_succ_eq_append_getElem hk,map_append,getD_eq_getElem?_getD,getElem?_eq_getElem hk];simp[ints]
theorem zeZ(z:Nat->Int)(N:Nat)(l:List Nat)(m:Nat)(hm:l.length=m)(jD:m<=100000)(hN:N<=100000)(hl:∀x∈l,x<N)(a1 a2:Option Addr)(c1 c2:Nat)(w:World)(hZ:lT w a1 N z)(hL:pe w a2 l):
  Calls prog 131 #[.slice a1 N c1,.slice a2 m c2] w (XQ z l m w):=by
 have gP:=Yv m (by omega);have HX:=ψ hm hl hZ hL;clear hm hl hZ hL;go_in;go_upto_region 2 with fail;obtain⟨b0,bz⟩:=Ξ w.heap.size
 obtain⟨W2,lQ⟩:=Ξ (w.alloc (.cells (madeCells #[.int .i64 0] m) 3))
 have k1:=al w (.cells (madeCells #[.int .i64 0] m) 3);have hO:=WC m (by omega) w w.heap.size (le_refl _);rw[lQ] at hO k1;have tM:Hid (Below w.heap.size w W2/\W2.ownsRow w.heap.size 3 1 (.slice (some ⟨b0,0,none⟩) 0 m) 0 (ints ((l.take 0).map z))):=⟨k1,by rw[<-bz];simpa [ints] using hO⟩
 clear hO k1
 try rw[lQ]
 try rw[bz]
 have Hb:=hid bz;clear bz lQ;go_wp2;go_loopw [5,7,13] (fun v5 _ vk wr=>∃k:Nat,vk=.int .i64 k/\k<=m/\(∃a c,v5=.slice a k c)/\Hid (Below w.heap.size w wr/\wr.ownsRow w.heap.size 3 1 v5 k (ints ((l.take k).map z)))) (fun _ _ v _=>m-(intOf v).toNat)
 ·exact⟨0,rfl,zero_le _,⟨_,_,rfl⟩,tM.o⟩
 clear tM;obtain⟨k,rfl,hk,⟨a5,c5,rfl⟩,HL⟩:=hrel;by_cases aq:k<m
 ·have hkl:k<l.length:=by have:=HX.o.1;omega
  obtain⟨g,off,rfl,hg,hc⟩:=HX.o.2.2.2 (by omega);have d0:=(HL.o.1.cell (p:=⟨g,off+k,none⟩) hg).trans (hc k hkl);simp only[] at d0;have hx:l.getD k 0<N:=by
   rw[getD_eq_getElem?_getD,getElem?_eq_getElem hkl];exact HX.o.2.1 _ (List.getElem_mem hkl)
  obtain⟨g1,Sj,rfl,jF,ie⟩:=HX.o.2.2.1 (by omega);have d1:=(HL.o.1.cell (p:=⟨g1,Sj+l.getD k 0,none⟩) jF).trans (ie _ hx);have HE:=hid (zlW z l k hkl);have ur:=HL.o.1.size;obtain⟨i0,zd,dP,dc,db⟩:=info_parts aH;have i1:(k:Int)<m:=by omega
  clear hc hg ie jF;obtain⟨x,Ef⟩:=Ξ (l.getD k 0)
  rw[Ef] at d0 d1 hx HE;obtain⟨y,F8⟩:=Ξ (z x)
  rw[F8] at d1 HE;clear Ef F8;have i2:(x:Int)<N:=by omega
  have Be:=HL.o.2;go_wp2_with (at_builtin;refine wpList_append_own_at _ rfl _ _ 43 rfl w.heap.size 3 i0 (.int .i64 0) 1 8 underlying43 zd dP dc db rfl (by decide) _ _ _ rfl (Be.alloc _) ⟨wr.heap.size,0,none⟩ 1 1 [.int .i64 y] rfl rfl (cell_one_new _ _ _) ?d2 ?d3 ?d4 ?d5 ?_)
  case d2=>first|(intro u hu;simp at hu;subst hu;rfl)|rfl
  case d3=>unfold maxLen;omega
  case d4=>omega
  case d5=>first|(simp;omega)|omega
  intro v' w5 ak aj _ bW;obtain⟨a6,c6,rfl⟩:=cy ak;have HF:Hid (Below w.heap.size w w5/\w5.ownsRow w.heap.size 3 1 (.slice a6 (k+1) c6) (k+1) (ints ((l.take (k+1)).map z))):=by
   have k9:=al wr (.cells #[.int .i64 y] 3);exact⟨gu (HL.o.1.trans (k9.mono ur)) (dE HL.o.2 k9) (by simp;omega) aj,by rw[HE.o];first|exact ak|(rw[List.map_take];exact ak)⟩
  clear ak aj bW Be;go_wp2;go_roundw
  ·exact⟨k+1,by go_num,by omega,⟨_,_,rfl⟩,HF.o⟩
  simp[intOf];omega
 obtain rfl:k=m:=by omega
 have HF:Hid (XQ z l k w (.returned (.slice a5 k c5)) wr):=by
  have e:l.take k=l:=List.take_of_length_le (by have:=HX.o.1;omega);have h:=HL.o;rw[e] at h;exact⟨a5,c5,rfl,h.2,h.1⟩
 clear HL;go_wp2;go_ret;exact HF.o
def rA(D:Dd)(C:Nat)(f:Nat->Nat)(l:List Nat):List (List Int):=l.map fun i=>(range C).map (mj D f i)
theorem znY{α:Type}(l:List Nat)(g:Nat->α)(n:Nat)(h:n=l.length):l.map g=(range n).map fun b=>g (l.getD b 0):=by
 subst h;apply List.ext_getElem?;intro i;by_cases hi:i<l.length
 ·simp[getD_eq_getElem?_getD,hi]
 simp[hi]
theorem Qx(D:Dd)(C:Nat)(hR:DR D C)(R:Nat->Nat->Prop)(f:Nat->Nat)(B:Nat)(hN:jO R D.n f B)(a:Option Addr)(cp:Nat)(w:World)(hD:DM w D)(hL:lT w a D.n (fun i=>((f i:Nat):Int))):
  Calls prog 101 #[.agg D.cD,.slice a D.n cp] w (EK D C B (fun b c=>mj D f ((bP f D.n).getD b 0) c) (fun b=>D.q ((bP f D.n).getD b 0)) w):=by
 have dd:=hR.n2;have dr:=hR.n1;have ly:=hR.m;have Bt:=(hR.lf hD.kl).2;have HB:=φ (dD.new hD) (al w (.cells D.cD 101)) hR hN hL;obtain⟨iI,hI,q8,rm,rf⟩:=info_parts aH;obtain⟨iV,hV,wF,wg,wD⟩:=info_parts fa;clear hD hR hN hL;go_in;go_upto_region 1 with (refine tq rfl 101 rfl (zC 101) (o8 _) ?_)
 try simp only[put,List.setIfInBounds_toArray,set_cons_zero,set_cons_succ,Ke]
 have H0:Hid (dD ((w.alloc (.cells D.cD 101)).alloc (.cells (zC 101) 101)) w.heap.size D/\St ((w.alloc (.cells D.cD 101)).alloc (.cells (zC 101) 101)) 101 (w.heap.size+1) (zC 101)/\Below w.heap.size w ((w.alloc (.cells D.cD 101)).alloc (.cells (zC 101) 101))):=by
  refine⟨HB.o.1.ae (al _ _),?_,HB.o.2.1.trans ((al _ _).mono (by simp))⟩;have:=St.new (w.alloc (.cells D.cD 101)) 101 (zC 101);simpa using this
 generalize (w.alloc (.cells D.cD 101)).alloc (.cells (zC 101) 101)=Wn at H0⊢;obtain⟨b2,cH⟩:=Ξ (w.heap.size+1)
 obtain⟨b0,bz⟩:=Ξ w.heap.size
 rw[cH,bz] at H0;rw[cH,bz];have Hb:=ζ bz cH;clear cH bz;have vd:=hid H0.o.1;have k5:=al Wn (.cells (zC 101) 101);have iv:St (Wn.alloc (.cells (zC 101) 101)) 101 Wn.heap.size (zC 101):=St.new _ _ _;have Lv:iX Wn Wn.heap.size D.K C (.slice none 0 0) (rA D C f (bP f 0)) (fun _=>.slice none 0 0) (.slice none 0 0) ((bP f 0).map D.q) ((Wn.alloc (.cells (zC 101) 101)).setRow Wn.heap.size (dH D.K (.slice none 0 0) (.slice none 0 0))):=iX.start (V0:=Wn) (K:=D.K) (C:=C) (ws:=fun _=>.slice none 0 0) (a:=none) (c:=0) (ms:=[]) (World.ownsRow_nil _ _ _ _) rfl k5 iv (le_refl _);have kq:=hid Lv;have jB:=hid iv;clear k5 iv Lv;go_upto_region 2 with (first
  | (refine tH rfl 98 _ rfl ⟨b0,0,none⟩ rfl (bu D.K) (.array 256 5) vd.o.fy underlying98 rfl (BG D.K) ?_)
  | (refine Dn rfl 101 _ rfl #[(0,.agg (bu D.K))] (by first|rfl|kernel_rfl|(go_simp;done)) (.agg (dH D.K (.slice none 0 0) (.slice none 0 0))) (Xe D.K _) ?_)
  | (refine tq rfl 101 rfl (zC 101) (o8 _) ?_)
  | (refine qD rfl 101 _ _ rfl Wn.heap.size 101 (zC 101) (dH D.K (.slice none 0 0) (.slice none 0 0)) rfl rfl jB.o (by rw[kr,nP]) (by rw[iN,nP]) (yZ _ _ _ _ _ _ _) ?_))
 simp only[put,sA];obtain⟨b4,fV⟩:=Ξ Wn.heap.size
 have Gu:=hid fV;rw[fV] at kq;rw[fV];generalize (Wn.alloc (.cells (zC 101) 101)).setRow b4 (dH D.K (.slice none 0 0) (.slice none 0 0))=W4 at kq⊢;clear fV jB;obtain⟨gL,oL,rfl,Dl,Cf⟩:=HB.o.2.2.2.2 (by omega);have KB:=ζ Dl Cf;clear Dl Cf;go_wp2;go_loopw [6,7,8,9,10,16] (fun _ _ _ _ _ v wr=>∃(i:Nat) (ws:Nat->Value) (aN aK:Option Addr) (p cN cK:Nat),v=.int .i64 i/\i<=D.n/\p<=i/\Hid (p=(bP f i).length/\iX Wn b4 D.K C (.slice aN p cN) (rA D C f (bP f i)) ws (.slice aK p cK) ((bP f i).map D.q) wr)) (fun _ _ _ _ _ v _=>D.n-(intOf v).toNat)
 ·exact⟨0,_,none,none,0,0,0,rfl,by omega,by omega,rfl,kq.o⟩
 clear kq;obtain⟨i,ws,aN,aK,p,cN,cK,rfl,hi,Pv,HP,HT⟩:=hrel;by_cases aq:i<D.n
 ·have bQ:w.heap.size<=Wn.heap.size:=H0.o.2.2.size;have Xn:Hid (∀W',Below Wn.heap.size Wn W'->∀j,j<D.n->W'.cell? ⟨gL,oL+j,none⟩=some (.int .i64 (f j))):=fun W' h j hj=>((H0.o.2.2.trans (h.mono (by rw[<-Hb.o.1];exact bQ))).cell (p:=⟨gL,oL+j,none⟩) (by rw[<-Hb.o.1];exact KB.o.1)).trans (KB.o.2 j hj)
  have d0:=Xn.o wr HT.bc i aq;have fb:=HT.f1;have Bw:=HB.o.2.2.2.1.bP i (by omega);have ik:=Bw.2.2 aq;rw[<-HP] at ik;have i1:(i:Int)<(D.n:Int):=by omega
  have hp32:p<=32768:=by omega
  have BH:=hid HT;have Hj:=hid HP;obtain⟨fi,vz⟩:=Ξ (f i)
  rw[vz] at d0 ik;by_cases uS:fi<p
  ·have i2:(fi:Int)<p:=(by omega);have HN:Hid (p=(bP f (i+1)).length/\iX Wn b4 D.K C (.slice aN p cN) (rA D C f (bP f (i+1))) ws (.slice aK p cK) ((bP f (i+1)).map D.q) wr):=by
    rw[Ec (by rw[vz,<-HP];exact uS)];exact⟨HP,HT⟩
   clear HP HT Bw vz;go_wp2;go_roundw
   ·exact⟨i+1,ws,aN,aK,p,cN,cK,by go_num,by omega,by omega,HN.o⟩
   simp[intOf];omega
  have i2:¬((fi:Int)<p):=by omega
  have J5:bP f (i+1)=bP f i++[i]:=EN (by rw[vz,<-HP];exact uS);have HPn:=hid J5;have hmkr:=Ki C (by omega);have A9:=hid (vd.o.ae HT.bc);have f1:=A9.o.f1;obtain⟨gN,oN,eN,od,qZ,zN⟩:=A9.o.dm.row i aq;rw[eN] at f1;rw[HB.o.2.2.1.len i aq] at qZ zN;have Db:=hid eN;have yV:=hid zN;have BY:=hid (Fb wr wr.heap.size C 3 (.int .i64 0) (le_refl _) (by unfold maxLen;omega));have pd:=hid (al wr (.cells (madeCells #[.int .i64 0] C) 3));have Zl:=hid od;clear HP HT Bw eN zN J5 od;go_upto_region 7 with fail;obtain⟨g,hg⟩:=Ξ wr.heap.size
  have lz:Hid ((wr.alloc (.cells (madeCells #[.int .i64 0] C) 3)).ownsRow g 3 1 (.slice (some ⟨g,0,none⟩) C C) C (ints ([]++replicate (C-0) 0))/\Below g wr (wr.alloc (.cells (madeCells #[.int .i64 0] C) 3))):=by
   rw[<-hg];refine⟨?_,pd.o⟩;have:=BY.o;simpa [ints] using this
  have Hg:=hid hg;have IP:=(pd.o.cell (p:=⟨b0,256,none⟩) A9.o.st.lt).trans f1;have KH:=(pd.o.cell (p:=⟨gN,oN+i,none⟩) Zl.o).trans qZ;rw[hg];clear BY pd hg f1 qZ d0 fb;generalize wr.alloc (.cells (madeCells #[.int .i64 0] C) 3)=W6 at lz IP KH⊢;revert wr;intro wo BH A9 yV Zl Hg lz;go_wp2;go_loopw [9,10,39] (fun _ _ v wq=>∃(k:Nat),v=.int .i64 k/\k<=C/\Hid (wq.ownsRow g 3 1 (.slice (some ⟨g,0,none⟩) C C) C (ints ((range k).map (mj D f i)++replicate (C-k) 0))/\Below g wo wq)) (fun _ _ v _=>C-(intOf v).toNat)
  ·exact⟨0,rfl,by omega,lz⟩
  clear lz IP KH;obtain⟨k,rfl,hk,HA⟩:=hrel;have km:Below wo.heap.size wo wr:=by rw[Hg.o];exact HA.o.2
  by_cases fW:k<C
  ·obtain⟨gA,oA,eA,FX,p9⟩:=yV.o (by omega);have cA:=(km.cell (p:=⟨gA,oA+k,none⟩) FX).trans (p9 k fW);have Jk:=HB.o.2.2.1.nx i k aq fW;obtain⟨g',e',_,_,nH⟩:=fG HA.o.1 (by omega);obtain rfl:g'=g:=by
    injection e' with e';injection e' with e' _;exact e'.symm
   obtain⟨y0,y1⟩:=nH k (by omega);have hlen:((range k).map (mj D f i)).length=k:=(by simp);have y2:(ints ((range k).map (mj D f i)++replicate (C-k) 0))[k]?=some (.int .i64 0):=by
    have:0<C-k:=(by omega);simp[ints,List.getElem?_append,this]
   rw[y2] at y0;have fP:Hid ((wr.setCell ⟨g',k,none⟩ (.int .i64 (-1))).ownsRow g' 3 1 (.slice (some ⟨g',0,none⟩) C C) C (ints (((range k).map (mj D f i)++[-1])++replicate (C-(k+1)) 0))/\Below g' wo (wr.setCell ⟨g',k,none⟩ (.int .i64 (-1)))):=by
    refine⟨?_,HA.o.2.setCell (p:=⟨g',k,none⟩) (le_refl _) _⟩;have:=xC HA.o.1 k fW (.int .i64 (-1));rwa [G7 _ C k _ hlen fW] at this
   have KO:Hid (∀v,mj D f i k=v->(range (k+1)).map (mj D f i)=(range k).map (mj D f i)++[v]):=fun v h=>by
    rw[range_succ,map_append,List.map_singleton,h]
   have DC:Hid ((D.nx i k=-1->mj D f i k=-1)/\∀x:Nat,D.nx i k=(x:Int)->mj D f i k=((f x:Nat):Int)):=⟨fun h=>by simp[mj,h],fun x h=>by
    unfold mj
    rw[if_neg (by omega),h]
    rfl⟩
   have yP:=hid hlen;have i3:(k:Int)<C:=(by omega);rw[eA];have O5:=hid eA;have Wy:=hid BH.o.bc
   try dsimp only at cA
   clear p9 nH e' y2 hlen eA FX;generalize D.nx i k=t at cA Jk DC;go_upto_region 11 with fail;generalize wr.setCell ⟨g',k,none⟩ (.int .i64 (-1))=W5 at fP⊢;clear y0 y1 cA km;by_cases ht:t=-1
   ·subst ht;have HZ:=hid (KO.o (-1) (DC.o.1 rfl));go_wp2;go_roundw
    ·exact⟨k+1,by go_num,by omega,by rw[HZ.o];exact fP⟩
    simp[intOf];omega
   obtain⟨x,rfl⟩:∃x:Nat,t=(x:Int):=(⟨t.toNat,by omega⟩);have kE:x<D.n:=(by omega);have lZ:((x:Int) != (-1:Int))=true:=(by first|(simp;done)|(simp;omega));have i4:(x:Int)<(D.n:Int):=(by omega);have dx:=Xn.o W5 (Wy.o.trans (fP.o.2.mono (by rw[<-Hg.o];exact Wy.o.size))) x kE;have HZ:=hid (KO.o _ (DC.o.2 x rfl));generalize f x=r at dx HZ;obtain⟨g2,e2,_,_,gj⟩:=fG fP.o.1 (by omega);obtain rfl:g2=g':=by
    injection e2 with e2;injection e2 with e2 _;exact e2.symm
   obtain⟨y0,y1⟩:=gj k (by omega);have y2:(ints (((range k).map (mj D f i)++[-1])++replicate (C-(k+1)) 0))[k]?=some (.int .i64 (-1)):=by
    simp[ints,List.getElem?_append]
   rw[y2] at y0;have jA:Hid ((W5.setCell ⟨g2,k,none⟩ (.int .i64 (r:Int))).ownsRow g2 3 1 (.slice (some ⟨g2,0,none⟩) C C) C (ints (((range k).map (mj D f i)++[(r:Int)])++replicate (C-(k+1)) 0))/\Below g2 wo (W5.setCell ⟨g2,k,none⟩ (.int .i64 (r:Int)))):=by
    refine⟨?_,fP.o.2.setCell (p:=⟨g2,k,none⟩) (le_refl _) _⟩;have:=xC fP.o.1 k fW (.int .i64 (r:Int));have e3:(ints (((range k).map (mj D f i)++[-1])++replicate (C-(k+1)) 0)).set k (.int .i64 (r:Int))=ints (((range k).map (mj D f i)++[(r:Int)])++replicate (C-(k+1)) 0):=by
     have hl:=yP.o;rw[<-G7 _ C k (-1) hl fW,List.set_set,G7 _ C k (r:Int) hl fW]
    rwa [e3] at this
   clear gj e2 y2;go_wp2;go_roundw
   ·exact⟨k+1,by go_num,by omega,by rw[HZ.o];exact jA⟩
   simp[intOf];omega
  obtain rfl:k=C:=by omega
  have HK:Hid (iX Wn b4 D.K k (.slice aN p cN) (rA D k f (bP f i)) ws (.slice aK p cK) ((bP f i).map D.q) wr):=BH.o.ae (by rw[Hg.o];exact HA.o.2);have nA:(rA D k f (bP f i)).length=p:=by rw[Hj.o];simp[rA]
  have Gq:=hid nA;have ur:=HK.o.bc.size;have HU:Hid (wr.ownsRow Wn.heap.size 3 1 (.slice (some ⟨g,0,none⟩) k k) k (ints ((range k).map (mj D f i)))):=by
   have:=HA.o.1;rw[Nat.sub_self,List.replicate_zero,List.append_nil] at this;exact jH this (by rw[<-Hg.o];exact BH.o.bc.size)
  have U9:Hid ((∀j,j<(rA D k f (bP f i)).length->∀b,(ws j).ownBlock=some b->(Value.slice (some ⟨g,0,none⟩) k k).ownBlock≠some b)/\∀b,(Value.slice (some ⟨g,0,none⟩) k k).ownBlock=some b->(Value.slice aK p cK).ownBlock≠some b):=by
   have UG:wo.heap.size=g:=Hg.o;constructor
   ·intro j hj b e1 e2;have h1:=(BH.o.next.lt.2 j hj b e1);have h2:g=b:=(by simpa [Value.ownBlock] using e2);omega
   intro b e1 e2;have h1:=me BH.o.dt b e2;have h2:g=b:=(by simpa [Value.ownBlock] using e1);omega
  have k9:=al wr (.cells #[.slice (some ⟨g,0,none⟩) k k] 43);have ic:Hid (iX Wn b4 D.K k (.slice aN p cN) (rA D k f (bP f i)) ws (.slice aK p cK) ((bP f i).map D.q) (wr.alloc (.cells #[.slice (some ⟨g,0,none⟩) k k] 43))):=HK.o.ae k9;have ZS:Hid ((wr.alloc (.cells #[.slice (some ⟨g,0,none⟩) k k] 43)).ownsRow Wn.heap.size 3 1 (.slice (some ⟨g,0,none⟩) k k) k (ints ((range k).map (mj D f i)))):=dE HU.o k9;have fbk:=HK.o.f1;have Be:=ic.o.next.own
  rw[nA] at Be;have Fz:=ic.o.bc.size;clear HA nA k9;go_wp2_with (at_builtin;refine wpList_append_own_at _ rfl _ _ 99 rfl Wn.heap.size 43 iV (.slice none 0 0) 1 24 underlying99 hV wF wg wD rfl (by decide) _ _ _ rfl Be ⟨wr.heap.size,0,none⟩ 1 1 [.slice (some ⟨g,0,none⟩) k k] rfl rfl (cell_one_new _ _ _) ?d2 ?d3 ?d4 ?d5 ?_)
  case d2=>first|(intro u hu;simp at hu;subst hu;rfl)|rfl
  case d3=>unfold maxLen;omega
  case d4=>omega
  case d5=>first|(simp;omega)|omega
  intro v' w5 ak aj _ bW;obtain⟨a5,c5,rfl⟩:=cy ak;have h9:=ic.o.st.af ic.o.next.own (by decide) aj
  have z2:w5.cell? ⟨b4,256,none⟩=some (.slice aN p cN):=by rw[h9.at_,ri]
  have z3:w5.frozen? ⟨b4,256,none⟩=false:=h9.bE 256;have Hf:=hid (ic.o.gY (vN':=.slice a5 (p+1) c5) ZS.o U9.o.1 U9.o.2 Gq.o ak aj);clear ak aj bW Be h9 fbk;go_upto_region 15 with fail;generalize w5.setCell ⟨b4,256,none⟩ (.slice a5 (p+1) c5)=W7 at Hf⊢;clear z2 z3;have GJ:Hid (∀W' a9 c9,iX Wn b4 D.K k (.slice a5 (p+1) c5) (rA D k f (bP f i)++[(range k).map (mj D f i)]) (fun j=>if j=p then .slice (some ⟨g,0,none⟩) k k else ws j) (.slice a9 (p+1) c9) ((bP f i).map D.q++[D.q i]) W'->p+1=(bP f (i+1)).length/\iX Wn b4 D.K k (.slice a5 (p+1) c5) (rA D k f (bP f (i+1))) (fun j=>if j=p then .slice (some ⟨g,0,none⟩) k k else ws j) (.slice a9 (p+1) c9) ((bP f (i+1)).map D.q) W'):=by
   show ∀W' a9 c9,_;intro W' a9 c9 h;rw[HPn.o];refine⟨by rw[Hj.o];simp,?_⟩;have e1:rA D k f (bP f i++[i])=rA D k f (bP f i)++[(range k).map (mj D f i)]:=(by simp[rA]);have e2:(bP f i++[i]).map D.q=(bP f i).map D.q++[D.q i]:=(by simp);rw[e1,e2];exact h
  have oD:Hid (((bP f i).map D.q).length=p):=by show _=_;rw[length_map];exact Hj.o.symm
  obtain⟨gM,oM,eM,uc,pj⟩:=H0.o.1.dm.rM (by omega);have pw:=H0.o.1.f2;rw[eM] at pw;have i3:(i:Int)<(D.m:Int):=by omega
  have IG:=pj i (by omega);have eh:Hid (∀W',Below Wn.heap.size Wn W'->Below Wn.heap.size Wn W'/\W'.cell? ⟨b0,257,none⟩=some (.slice (some ⟨gM,oM,none⟩) D.m D.cM)/\W'.cell? ⟨gM,oM+i,none⟩=some (.int .i64 (D.q i))):=fun W' h=>⟨h,(h.cell (p:=⟨b0,257,none⟩) H0.o.1.st.lt).trans pw,(h.cell (p:=⟨gM,oM+i,none⟩) uc).trans IG⟩
  clear eM uc pj pw IG;generalize D.q i=qx at eh GJ;generalize rA D k f (bP f i)++[(range k).map (mj D f i)]=R9 at Hf GJ;generalize (fun j=>if j=p then Value.slice (some ⟨g,0,none⟩) k k else ws j)=L4 at Hf GJ;generalize (bP f i).map D.q=LC at Hf GJ oD;clear ic HK ZS HU U9;refine wp_region_held_drew (S:=fun W'=>Below Wn.heap.size Wn W'/\W'.cell? ⟨b0,257,none⟩=some (.slice (some ⟨gM,oM,none⟩) D.m D.cM)/\W'.cell? ⟨gM,oM+i,none⟩=some (.int .i64 qx)) (by kernel_rfl) (eh.o _ Hf.o.bc.drew) fun η=>?_;have HO:Hid (iX Wn b4 D.K k (.slice a5 (p+1) c5) R9 L4 (.slice aK p cK) LC W7.drew):=Hf.o.ae (Below.refl _ _).drew
  (refine ay 0 ?_;refine ay 2 ?_;refine ay 3 ?_;try simp only[put,sA];refine ay 4 ?_;refine ay 5 ?_;refine ay 6 ?_;try simp only[put,sA])
  ·refine wpAnyH_ready (rs:=[1,7]) (by kernel_rfl) (by simp) (jn (fun K hK=>?_) (jn (fun K hK=>?_) AllReadyH.nil))
   skip;have f2:=HO.o.f2;go_simp;refine hK.out _ _ (η) fun η=>?_;clear hK K
   try simp only[put,sA]
   clear f2;refine bH 7 (fun K hK=>?_);skip;go_simp;have kk:=al W7.drew (.cells #[.int .i64 qx] 3);have lY:Hid (∀j u,[Value.int .i64 qx][j]?=some u->((W7.alloc (.cells #[.int .i64 qx] 3)).drew).cell? ((⟨W7.heap.size,0,none⟩:Addr).add j)=some u):=cell_one_new W7.drew _ _;have HO:Hid (iX Wn b4 D.K k (.slice a5 (p+1) c5) R9 L4 (.slice aK p cK) LC ((W7.alloc (.cells #[.int .i64 qx] 3)).drew)):=HO.o.ae kk;refine hK.out _ _ (eh.o _ HO.o.bc) fun η=>?_;clear hK K
   try simp only[put,sA]
   clear kk;generalize (W7.alloc (.cells #[.int .i64 qx] 3)).drew=V5 at lY HO η⊢;refine bH 8 (fun K hK=>?_);skip;have hO:=HO.o.dt;rw[oD.o] at hO;refine KT (by rfl) _ _ _ (by rfl) Wn.heap.size 3 iI (.int .i64 0) 1 8 underlying43 hI q8 rm rf (by rfl) (by decide) _ p (ints LC) (by rfl) hO ⟨W7.heap.size,0,none⟩ 1 1 [.int .i64 qx] (by rfl) (by rfl) lY.o (by intro u hu;simp at hu;subst hu;rfl) (by unfold maxLen;omega) (by omega) HO.o.bc.size ?_;intro v6 w6 an ag di;obtain⟨a9,c9,rfl⟩:=cy an;have tE:=hid (HO.o.nQ (vK':=.slice a9 (p+1) c9) (oD.o) an ag di);have h9:=HO.o.st.af HO.o.dt (by decide) ag;have z2:w6.cell? ⟨b4,257,none⟩=some (.slice aK p cK):=(by rw[h9.at_,AK]);have z3:w6.frozen? ⟨b4,257,none⟩=false:=h9.bE 257;have eJ:=gu HO.o.bc HO.o.dt HO.o.bc.size ag;clear an ag di h9 hO;refine hK.out _ _ (eh.o _ eJ) fun η=>?_;clear hK K
   rotate_left
   skip;go_simp;have kk:=al W7.drew (.cells #[.int .i64 qx] 3);have lY:Hid (∀j u,[Value.int .i64 qx][j]?=some u->((W7.alloc (.cells #[.int .i64 qx] 3)).drew).cell? ((⟨W7.heap.size,0,none⟩:Addr).add j)=some u):=cell_one_new W7.drew _ _;have HO:Hid (iX Wn b4 D.K k (.slice a5 (p+1) c5) R9 L4 (.slice aK p cK) LC ((W7.alloc (.cells #[.int .i64 qx] 3)).drew)):=HO.o.ae kk;refine hK.out _ _ (eh.o _ HO.o.bc) fun η=>?_;clear hK K
   try simp only[put,sA]
   clear kk;generalize (W7.alloc (.cells #[.int .i64 qx] 3)).drew=V5 at lY HO η⊢;refine bH 1 (fun K hK=>?_);skip;have f2:=HO.o.f2;go_simp;refine hK.out _ _ (η) fun η=>?_;clear hK K
   try simp only[put,sA]
   clear f2;refine bH 8 (fun K hK=>?_);skip;have hO:=HO.o.dt;rw[oD.o] at hO;refine KT (by rfl) _ _ _ (by rfl) Wn.heap.size 3 iI (.int .i64 0) 1 8 underlying43 hI q8 rm rf (by rfl) (by decide) _ p (ints LC) (by rfl) hO ⟨W7.heap.size,0,none⟩ 1 1 [.int .i64 qx] (by rfl) (by rfl) lY.o (by intro u hu;simp at hu;subst hu;rfl) (by unfold maxLen;omega) (by omega) HO.o.bc.size ?_;intro v6 w6 an ag di;obtain⟨a9,c9,rfl⟩:=cy an;have tE:=hid (HO.o.nQ (vK':=.slice a9 (p+1) c9) (oD.o) an ag di);have h9:=HO.o.st.af HO.o.dt (by decide) ag;have z2:w6.cell? ⟨b4,257,none⟩=some (.slice aK p cK):=(by rw[h9.at_,AK]);have z3:w6.frozen? ⟨b4,257,none⟩=false:=h9.bE 257;have eJ:=gu HO.o.bc HO.o.dt HO.o.bc.size ag;clear an ag di h9 hO;refine hK.out _ _ (eh.o _ eJ) fun η=>?_;clear hK K
   rotate_left
   all_goals
    try simp only[put,sA]
    (refine ay 9 ?_;try simp only[put,sA])
    refine bH 10 (fun K hK=>?_);skip;go_simp;refine hK.out _ _ (eh.o _ tE.o.bc) fun η=>?_;clear hK K
    try simp only[put,sA]
    refine wpAnyH_done (by kernel_rfl) ?_ _;have EM:=hid (GJ.o _ a9 c9 tE.o);clear η z2 z3 eJ tE HO;go_wp2;go_roundw
    ·exact⟨i+1,L4,a5,a9,p+1,c5,c9,by go_num,by omega,by omega,EM.o⟩
    simp[intOf];omega
 obtain rfl:i=D.n:=by omega
 obtain rfl:p=B:=HP.trans (HB.o.2.2.2.1.iy);have Sz:=hid HT;have jB:=hid HT.st;have gq:=hid (H0.o.2.1.ae HT.bc);have hd:=nP D.K (.slice aN p cN) (.slice aK p cK);have GG:Hid (w.heap.size<=Wn.heap.size):=H0.o.2.2.size;have CP:Hid (Below w.heap.size w (wr.setRow b2 (dH D.K (.slice aN p cN) (.slice aK p cK)))):=
  nY ((show Below w.heap.size w Wn by rw[Hb.o.1];exact H0.o.2.2).trans (HT.bc.mono GG.o)) (by have:=Hb.o;omega) _
 have nA:(rA D C f (bP f D.n)).length=p:=by rw[HP];simp[rA]
 have HF:Hid (EK D C p (fun b c=>mj D f ((bP f D.n).getD b 0) c) (fun b=>D.q ((bP f D.n).getD b 0)) w (.returned (.agg (dH D.K (.slice aN p cN) (.slice aK p cK)))) (wr.setRow b2 (dH D.K (.slice aN p cN) (.slice aK p cK)))):=
  Sz.o.TE HB.o.1.dm.kl nA (fun r hr=>by unfold rA at hr;obtain⟨j,_,rfl⟩:=List.mem_map.1 hr;simp) (znY _ _ _ HP) (fun j hj c hc=>by
   have hj2:j<(bP f D.n).length:=by omega
   unfold rA
   simp[getD_eq_getElem?_getD,hj2,hc]) GG.o (inr ⟨b2,_,_,gq.o,rfl⟩) CP.o
 clear HT nA HP;go_wp2_with (first|(refine tH rfl 101 _ rfl ⟨b4,0,none⟩ rfl (dH D.K (.slice aN p cN) (.slice aK p cK)) _ jB.o.part underlying101 rfl (by rw[iN,hd]) ?_)|(refine qD rfl 101 _ _ rfl b2 101 (zC 101) (dH D.K (.slice aN p cN) (.slice aK p cK)) rfl rfl gq.o (by rw[kr,hd]) (by rw[iN,hd]) (yZ _ _ _ _ _ _ _) ?_));refine bodyPost_ret (results_cell_row rfl _ _ b2 101 (dH D.K (.slice aN p cN) (.slice aK p cK)) (0,0) _ rfl gq.o.setRow underlying101 rfl (by rw[iN,hd])) rfl ?_;exact HF.o
theorem zhH(n:Nat)(hn:n<=1000000)(W:World):(makeSlice 76 (.int .i64 0) (.int .i64 (n:Int))).run prog W=.ok (.slice (some ⟨W.heap.size,0,none⟩) 0 n) (W.alloc (.cells (madeCells #[.int .u8 0] n) 5)):=by
 obtain⟨i0,hi,dP,dc,db⟩:=info_parts kn;have h:=run_makeSlice (P:=prog) W 76 5 i0 (.int .u8 0) underlying76 hi dP .i64 .i64 0 (n:Int) (by omega) (by omega) (by rw[dc];simp;omega) (by rw[db];omega) (by omega);have e:(Value.int .u8 0).cells=#[.int .u8 0]:=rfl;rw[dc,e] at h;simpa using h
theorem zeb(n:Nat)(hn:n<=1000000)(W:World)(B:Nat)(hB:B<=W.heap.size):(W.alloc (.cells (madeCells #[.int .u8 0] n) 5)).ownsRow B 5 1 (.slice (some ⟨W.heap.size,0,none⟩) 0 n) 0 []:=
 World.ownsRow_made W _ n hB (by unfold maxLen;omega) (by have:=size_madeCells #[Value.int .u8 0] n;simpa using this)
theorem cell_two_new(w:World)(a b:Value)(t:TypeId):∀j u,[a,b][j]?=some u->(w.alloc (.cells #[a,b] t)).cell? ((⟨w.heap.size,0,none⟩:Addr).add j)=some u:=by
 intro j u h;have hS:=(St.new w t #[a,b]).part;exact hS j u h
theorem zhI(n:Nat)(hn:2*n<=1000000)(W:World):(makeSlice 76 (.int .i64 0) (.int .i64 (2*(n:Int)))).run prog W=.ok (.slice (some ⟨W.heap.size,0,none⟩) 0 (2*n)) (W.alloc (.cells (madeCells #[.int .u8 0] (2*n)) 5)):=by
 have h:=zhH (2*n) hn W;rwa [show ((2*n:Nat):Int)=2*(n:Int) by omega] at h
def rW(D:Dd)(k:Nat):Value:=.string (strOf (jw (fun i=>D.nx i k) D.n))
theorem DM.rowAt(h:DM w D){g off:Nat}(e:D.aN=some ⟨g,off,none⟩)(hi:i<D.n):w.cell? ⟨g,off+i,none⟩=some (.slice (D.A i) (D.len i) (D.Cp i))/\lT w (D.A i) (D.len i) (D.nx i):=by
 obtain⟨g',lF,e',_,h1,h2⟩:=h.row i hi;rw[e] at e';injection e' with e';injection e' with e1 e2;subst e1 e2;exact⟨h1,h2⟩
def XL(D:Dd)(C:Nat)(w:World)(e:Ending)(w':World):Prop:=
 ∃(a:Option Addr) (c:Nat),e=.returned (.slice a C c)/\w'.ownsRow w.heap.size 9 1 (.slice a C c) C ((range C).map (rW D))/\Below w.heap.size w w'
theorem znV(x:Int):IntKind.u16.wrap x=((mY x:Nat):Int):=by
 have h:IntKind.u16.wrap x=x % 65536:=by simp[wrap,IntKind.bits,signed]
 rw[h];unfold mY;omega
theorem znW(z:Nat->Int)(i y:Nat)(hy:mY (z i)=y):jx (jw z (i+1))=jx (jw z i)++[.int .u8 ((y:Int) % 256),.int .u8 ((y:Int) / 256)]:=by
 subst hy;rw[jw,jx,map_append];congr 1
theorem zfM(D:Dd)(C:Nat)(hR:DR D C)(w:World)(hD:DM w D):Calls prog 130 #[.agg D.cD] w (XL D C w):=by
 have dd:=hR.n2;have dr:=hR.n1;have Bt:=(hR.lf hD.kl).2;have gP:=zhI D.n (by omega);have hk:=hD.kl;have HB:=ξ (dD.new hD) (al w (.cells D.cD 101)) hR;obtain⟨iU,hU,hU0,hU1,hU2⟩:=info_parts kn;obtain⟨iS,hS,hS0,I6,hS2⟩:=info_parts p7;clear hD hR;go_in;go_upto_region 1 with fail;generalize w.alloc (.cells D.cD 101)=W0 at HB⊢;obtain⟨b0,bz⟩:=Ξ w.heap.size
 rw[bz] at HB;rw[bz];have eY:=hid bz;clear bz;have CQ:=hid (M4 D.K C HB.o.2.2.c hk W0);go_wp2_with (refine tH rfl 98 _ rfl ⟨b0,0,none⟩ rfl (bu D.K) (.array 256 5) HB.o.1.fy underlying98 rfl (BG D.K) ?_);refine CQ.o.mono ?_;rintro e w1 ⟨rfl,b1⟩;have HG1:Hid (w.heap.size<=W0.heap.size):=show w.heap.size<=W0.heap.size by have:=HB.o.2.1.size;have:=eY.o;omega
 have tM:Hid (w1.ownsRow W0.heap.size 9 1 (.slice none 0 0) 0 ((range 0).map (rW D))/\Below W0.heap.size W0 w1):=⟨World.ownsRow_nil _ _ _ _,b1⟩
 clear b1 CQ;go_wp2;go_loopw [3,4,5,7,8,12] (fun v3 _ _ _ _ vk wr=>∃(k:Nat) (a3:Option Addr) (c3:Nat),v3=.slice a3 k c3/\vk=.int .i64 k/\k<=C/\Hid (wr.ownsRow W0.heap.size 9 1 v3 k ((range k).map (rW D))/\Below W0.heap.size W0 wr)) (fun _ _ _ _ _ v _=>C-(intOf v).toNat)
 ·exact⟨0,none,0,rfl,rfl,zero_le _,tM.o⟩
 clear tM;obtain⟨k,a3,c3,rfl,rfl,fS,HL⟩:=hrel;by_cases aq:k<C
 ·have A9:=hid (HB.o.1.ae HL.o.2);have f1:=A9.o.f1;obtain⟨gN,oN,eN,od,_,_⟩:=A9.o.dm.row 0 (by omega);rw[eN] at f1;have Db:=ζ eN od;have i1:(k:Int)<C:=by omega
  have BY:=hid (zeb (2*D.n) (by omega) wr wr.heap.size (le_refl _));have pd:=hid (al wr (.cells (madeCells #[.int .u8 0] (2*D.n)) 5));clear eN od;go_upto_region 6 with fail;obtain⟨g,hg⟩:=Ξ wr.heap.size
  have lz:Hid ((wr.alloc (.cells (madeCells #[.int .u8 0] (2*D.n)) 5)).ownsRow g 5 1 (.slice (some ⟨g,0,none⟩) 0 (2*D.n)) 0 (jx (jw (fun i=>D.nx i k) 0))/\Below g wr (wr.alloc (.cells (madeCells #[.int .u8 0] (2*D.n)) 5))):=by
   rw[<-hg];exact⟨BY.o,pd.o⟩
  have Hg:=hid hg;have IP:=(pd.o.cell (p:=⟨b0,256,none⟩) A9.o.st.lt).trans f1
  try rw[hg]
  clear BY pd hg f1;generalize wr.alloc (.cells (madeCells #[.int .u8 0] (2*D.n)) 5)=W6 at lz IP⊢;obtain⟨wo,Kc⟩:∃wo,wo=wr:=⟨wr,rfl⟩
  subst Kc;go_wp2;go_loopw [5,7,8,23] (fun v5 _ _ vi wq=>∃(i:Nat) (a5:Option Addr) (c5:Nat),v5=.slice a5 (2*i) c5/\vi=.int .i64 i/\i<=D.n/\Hid (wq.ownsRow g 5 1 v5 (2*i) (jx (jw (fun i=>D.nx i k) i))/\Below g wo wq)) (fun _ _ _ v _=>D.n-(intOf v).toNat)
  ·exact⟨0,_,_,rfl,rfl,zero_le _,lz⟩
  clear lz IP;obtain⟨i,a5,c5,rfl,rfl,hi,HA⟩:=hrel;have km:Hid (Below wo.heap.size wo wr):=by rw[Hg.o];exact HA.o.2
  have HBq:=hid (A9.o.ae km.o);by_cases vh:i<D.n
  ·obtain⟨qZ,zN⟩:=HBq.o.dm.rowAt Db.o.1 vh;rw[HB.o.2.2.len i vh] at qZ zN;obtain⟨gr,or9,eA,ph,cz⟩:=zN (by omega);rw[eA] at qZ;have cz1:=cz k aq;have i2:(i:Int)<(D.n:Int):=(by omega);obtain⟨x,hx⟩:=Ξ (D.nx i k);have Hx:=hid hx;rw[hx] at cz1;clear zN eA cz ph hx;have hW:=znV x;obtain⟨y,hy⟩:∃y:Nat,mY x=y:=(⟨_,rfl⟩);have Hy:=hid (znW (fun i=>D.nx i k) i y (by show mY (D.nx i k)=y;rw[Hx.o];exact hy));rw[hy] at hW;have F8:y<65536:=(by rw[<-hy];exact M3 x);clear hy;have Be:=HA.o.1;have hgs9:g<=wr.heap.size:=(by have:=HA.o.2.size;have:=Hg.o;omega);go_wp2_with (at_builtin;refine wpList_append_own_at _ rfl _ _ 76 rfl g 5 iU (.int .u8 0) 1 1 underlying76 hU hU0 hU1 hU2 rfl (by decide) _ _ _ rfl (Be.alloc _) ⟨wr.heap.size,0,none⟩ 2 2 [.int .u8 ((y:Int) % 256),.int .u8 ((y:Int) / 256)] rfl rfl (cell_two_new _ _ _ _) ?d2 ?d3 ?d4 ?d5 ?_)
   case d2=>first|(intro u hu;simp at hu;rcases hu with rfl|rfl <;> rfl)|rfl
   case d3=>unfold maxLen;omega
   case d4=>omega
   case d5=>first|(simp;omega)|omega
   intro v' w5 ak aj _ bW;obtain⟨a6,c6,rfl⟩:=cy ak;have HF:Hid (w5.ownsRow g 5 1 (.slice a6 (2*i+2) c6) (2*i+2) (jx (jw (fun i=>D.nx i k) (i+1)))/\Below g wo w5):=by
    have k9:=al wr (.cells #[.int .u8 ((y:Int) % 256),.int .u8 ((y:Int) / 256)] 5);have hgs:g<=wr.heap.size:=(by have:=HA.o.2.size;have:=Hg.o;omega);refine⟨?_,gu (HA.o.2.trans (k9.mono hgs)) (dE HA.o.1 k9) (by simp;omega) aj⟩;rw[Hy.o];exact ak
   clear ak aj bW Be;go_wp2;go_roundw
   ·exact⟨i+1,a6,c6,rfl,by go_num,by omega,HF.o⟩
   simp[intOf];omega
  obtain rfl:i=D.n:=by omega
  have hcv:=Mz (HA.o.1) (by rw[Oh]);have Ul:=dE HL.o.1 km.o;have RR:=km.o;have tk:W0.heap.size<=wr.heap.size:=by have:=RR.size;have:=HL.o.2.size;omega
  go_wp2_with (at_builtin;refine wpList_append_own_at _ rfl _ _ 23 rfl W0.heap.size 9 iS (.string ⟨#[]⟩) 1 16 underlying23 hS hS0 I6 hS2 rfl (by decide) _ _ _ rfl (Ul.alloc _) ⟨wr.heap.size,0,none⟩ 1 1 [rW D k] rfl rfl (cell_one_new _ _ _) ?d2 ?d3 ?d4 ?d5 ?_)
  case d2=>first|(intro u hu;simp at hu;subst hu;rfl)|rfl
  case d3=>unfold maxLen;omega
  case d4=>omega
  case d5=>first|(simp;omega)|omega
  intro v' w5 ak aj _ bW;obtain⟨a6,c6,rfl⟩:=cy ak;have HF:Hid (w5.ownsRow W0.heap.size 9 1 (.slice a6 (k+1) c6) (k+1) ((range (k+1)).map (rW D))/\Below W0.heap.size W0 w5):=by
   have k9:=al wr (.cells #[rW D k] 9);have oY:=HL.o.2.size;have my:=RR.size;refine⟨?_,gu ((HL.o.2.trans (RR.mono oY)).trans (k9.mono (by omega))) (dE Ul k9) (by simp;omega) aj⟩;rw[range_succ,map_append];exact ak
  clear ak aj bW Ul;go_wp2;go_roundw
  ·exact⟨k+1,a6,c6,rfl,by go_num,by omega,HF.o⟩
  simp[intOf];omega
 obtain rfl:k=C:=by omega
 have HF:Hid (XL D k w (.returned (.slice a3 k c3)) wr):=by
  have h1:=HB.o.2.1;have h2:=HL.o.2;have h3:=HG1.o;have hs:=h1.size;have oY:=eY.o;rw[<-oY] at h1;exact⟨a3,c3,rfl,jH HL.o.1 h3,h1.trans (h2.mono (by omega))⟩
 clear HL;go_wp2;go_ret;exact HF.o
theorem Z4:∀j,j<256->(zC 101)[j]?=some (.int .u8 0):=by
 have h:(range 256).all (fun j=>match (zC 101)[j]? with|some (.int .u8 0)=>true|_=>false)=true:=by kernel_rfl
 intro j hj;have h1:=List.all_eq_true.1 h j (by simpa using hj);split at h1
 ·rename_i e;rw[e]
 cases h1
theorem zj2(b:Option Addr)(m d:Nat)(W:World):(Instr.build 101 #[(2,.slice b m d)]).run prog W=.ok (.agg (dH (fun _=>0) (.slice none 0 0) (.slice b m d))) W:=by
 have e:prog.built 101 [(2,.slice b m d)]=fill (fun i=>#[(0,256),(256,1),(257,1)][i]?) (zC 101) [(2,.slice b m d)]:=by kernel_rfl
 have hz:=kr;obtain⟨d1,d2⟩:=G5;obtain⟨q1,q2⟩:=zZ (zC 101) #[.slice b m d] 257 (by rw[hz];simp);rw[Ak _ _ 2 257 1 (.slice b m d) [] (by rfl) (by rfl) (by rw[hz];omega)] at e;rw[show (Value.slice b m d).cells=#[.slice b m d] from rfl] at e;simp only[List.size_toArray,List.length_cons,List.length_nil] at q2;have e4:putAt (zC 101) #[.slice b m d] 257=dH (fun _=>0) (.slice none 0 0) (.slice b m d):=by
  refine Dj _ _ _ _ (by rw[q1,hz]) (fun j hj=>by rw[q2,if_neg (by omega),Z4 j hj];rfl) (by rw[q2,if_neg (by omega),d1]) (by rw[q2,if_pos (by omega)];rfl)
 rw[e4] at e;exact run_build W _ _ _ e
theorem X4(K:Nat->Nat)(vN vK:Value)(j v:Nat)(hj:j<256):(dH K vN vK).setIfInBounds j (.int .u8 (v:Int))=dH (fun i=>if i=j then v else K i) vN vK:=by
 refine Dj _ vN vK _ (by rw[Array.size_setIfInBounds,nP]) (fun i hi=>?_) ?_ ?_
 ·by_cases e:i=j
  ·subst e;rw[Array.getElem?_setIfInBounds_self_of_lt (by rw[nP];omega),if_pos rfl]
  rw[Array.getElem?_setIfInBounds_ne (fun h=>e h.symm),Bi K vN vK i hi,if_neg e]
 ·rw[Array.getElem?_setIfInBounds_ne (by omega),ri]
 rw[Array.getElem?_setIfInBounds_ne (by omega),AK]
theorem zgG:∀i,(∀j,j<i->f j=g j)->bP f i=bP g i:=by
 intro i
 induction i with
 | zero=>intro _;rfl
 | succ i ih=>
  intro h;have e:=ih (fun j hj=>h j (by omega));show (if f i<(bP f i).length then bP f i else bP f i++[i])=if g i<(bP g i).length then bP g i else bP g i++[i]
  rw[e,h i (by omega)]
def cS(D:Dd)(c:Nat):ByteArray:=strOf (jw (fun i=>D.nx i c) D.n)
theorem zry(D:Dd)(c:Nat):(cS D c).size=2*D.n:=by unfold cS;rw[yu,Oh]
theorem zr5(hR:DR D C){a b:Nat}(ha:a<C)(hb:b<C):cS D a=cS D b↔∀i,i<D.n->D.nx i a=D.nx i b:=by
 have dd:=hR.n2;rw[<-znH (n:=D.n) (z:=fun i=>D.nx i a) (z':=fun i=>D.nx i b) (fun i hi=>by have:=hR.nx i a hi ha;omega) (fun i hi=>by have:=hR.nx i b hi hb;omega)];unfold cS;constructor
 ·intro h;have h1:=congrArg (fun s:ByteArray=>s.data.toList) h;simp only[xW] at h1;exact Ud (XO _ _) (XO _ _) h1
 intro h;rw[h]
def On(nm:List ByteArray)(key val:Value):Prop:=∃(b:Nat) (s:ByteArray),nm[b]?=some s/\key=.string s/\val=.int .u8 ((b:Nat):Int)
theorem zhJ(W:World):(makeMap 176 none).run prog W=.ok (.map (some W.heap.size)) (W.alloc (.map #[] 0)):=by
 kernel_rfl
theorem znX(w:World):(zeroValue 5).run prog w=.ok (.int .u8 0) w:=by kernel_rfl
structure rz (W0:World)(D:Dd)(C bM b4:Nat)(vC:Value)(k:Nat)(v6:Value)(nm:List ByteArray)(g:Nat->Nat)(w:World):Prop where
 bc:Below W0.heap.size W0 w
 map:fo w 9 bM nm.length (On nm)
 kept:w.ownsRow W0.heap.size 3 1 v6 nm.length (dv ((bP g k).map D.K))
 kl:(bP g k).length=nm.length
 st:St w 101 b4 (dH (fun j=>if j<k then g j else 0) (.slice none 0 0) (.slice D.aM D.m D.cM))
 Eo:w.ownsRow W0.heap.size 9 1 vC C ((range C).map (rW D))
 at_:∀i,i<k->nm[g i]?=some (cS D (D.K i))
 num:jO (pI D D.n) k g nm.length
 Mj:W0.heap.size<=bM
 Jt:W0.heap.size<=b4
 nk:nm.length<=k
section
variable {W0 : World}{D : Dd}{C bM b4 : Nat}{vC : Value}{k : Nat}{v6 : Value}{nm : List ByteArray}{g : Nat → Nat}{w : World}
theorem rz.mem(h:rz W0 D C bM b4 vC k v6 nm g w)(s:ByteArray):s∈nm↔∃i,i<k/\cS D (D.K i)=s:=by
 constructor
 ·intro hm;obtain⟨b,hb,e⟩:=getElem_of_mem hm;obtain⟨i,h1,h2,_⟩:=h.num.new b hb;refine⟨i,h1,?_⟩;have:=h.at_ i h1;rw[h2,getElem?_eq_getElem hb,e] at this;exact (Option.some.inj this).symm
 rintro⟨i,hi,rfl⟩;exact mem_of_getElem? (h.at_ i hi)
theorem rz.look(h:rz W0 D C bM b4 vC k v6 nm g w)(s:ByteArray)(hs:s.size<=1000000):
  (∃b,nm[b]?=some s/\(lookup 176 (.map (some bM)) (.string s) true).run prog w=.ok (.tuple #[.int .u8 ((b:Nat):Int),.bool true]) w)\/
  (s∉nm/\(lookup 176 (.map (some bM)) (.string s) true).run prog w=.ok (.tuple #[.int .u8 0,.bool false]) w):=by
 rcases h.map.ex.qm FN underlying176 (znX w) (Go.WideMaps.keyOf_string_mk underlying9 (s:=s) (by unfold maxLen;omega)) with ⟨cZ,jv⟩|⟨v,⟨b,s',h1,h2,rfl⟩,cZ⟩
 ·refine inr ⟨fun hm=>?_,cZ⟩;obtain⟨b,hb,e⟩:=getElem_of_mem hm;exact jv _ ⟨b,s,by rw[getElem?_eq_getElem hb,e],rfl,rfl⟩
 injection h2 with h2;exact inl ⟨b,by rw[h2];exact h1,cZ⟩
theorem rz.put(h:rz W0 D C bM b4 vC k v6 nm g w)(s:ByteArray)(hs:s.size<=1000000)(hn:nm.length<maxLen)(hb:s∉nm):
  ∃w',(mapUpdate 176 (.map (some bM)) (.string s) (.int .u8 (nm.length:Int))).run prog w=.ok () w'/\fo w' 9 bM (nm.length+1) (On (nm++[s]))/\w.grownBy w' (some bM):=by
 refine h.map.update FN underlying176 hn (Go.WideMaps.keyOf_string_mk underlying9 (s:=s) (by unfold maxLen;omega)) ?_ ?_ ?_ ?_
 ·rintro y ⟨k,s',h1,h2,_⟩;injection h2 with h2;rw[<-h2] at h1;exact hb (mem_of_getElem? h1)
 ·rintro a b ⟨k,s',h1,h2,h3⟩;exact⟨k,s',by rw[getElem?_append_left (List.getElem?_eq_some_iff.1 h1).1];exact h1,h2,h3⟩
 ·exact⟨nm.length,s,by simp,rfl,rfl⟩
 rintro a b ⟨k,s',h1,h2,h3⟩ hne;by_cases e:k<nm.length
 ·rw[getElem?_append_left e] at h1;exact⟨b,k,s',h1,h2,h3⟩
 rw[List.getElem?_append_right (by omega)] at h1;cases hj:k-nm.length with
 | zero=>rw[hj] at h1;simp at h1;exact absurd (by rw[h2,h1]) hne
 | succ j=>rw[hj] at h1;simp at h1
theorem zlT(g:Nat->Nat)(k b:Nat):(fun i=>if i=k then b else if i<k then g i else 0)=fun j=>if j<k+1 then (if j=k then b else g j) else 0:=by
 funext i;by_cases e:i=k
 ·rw[if_pos e,if_pos (by omega),if_pos e]
 rw[if_neg e];by_cases e2:i<k
 ·rw[if_pos e2,if_pos (by omega),if_neg e]
 rw[if_neg e2,if_neg (by omega)]
theorem zlU(hR:DR D C){a b:Nat}(ha:a<256)(hb:b<256):cS D (D.K a)=cS D (D.K b)↔pI D D.n a b:=zr5 hR (hR.c.1 a ha) (hR.c.1 b hb)
theorem fo.set{k:TypeId}{b t g:Nat}{Q:Value->Value->Prop}(h:fo w k b n Q)(h':St w t g cs):fo (w.setCell ⟨g,i,none⟩ u) k b n Q:=by
 refine h.same (Below.heap_setCell _ _ _ _ ?_);intro e;obtain⟨es,clock,hb,_⟩:=h;have h2:w.heap[g]?=_:=h';rw[show b=g from e,h2] at hb;cases hb
theorem rz.lX{b:Nat}(hR:DR D C)(hk:k<256)(h:rz W0 D C bM b4 vC k v6 nm g w)(hb:nm[b]?=some (cS D (D.K k))):
  ∃g',rz W0 D C bM b4 vC (k+1) v6 nm g' (w.setCell ⟨b4,k,none⟩ (.int .u8 (b:Int))):=by
 have eC:b<nm.length:=(List.getElem?_eq_some_iff.1 hb).1;obtain⟨i,h1,h2,_⟩:=h.num.new b eC;have hi:=h.at_ i h1;rw[h2,hb] at hi;have hi:=Option.some.inj hi;have hE:pI D D.n i k:=(zlU hR (by omega) hk).1 hi.symm;have Bw:bP (fun j=>if j=k then b else g j) (k+1)=bP g k:=by
  have e0:bP (fun j=>if j=k then b else g j) k=bP g k:=zgG k (fun j hj=>by simp only[if_neg (show ¬j=k by omega)]);rw[Ec (f:=fun j=>if j=k then b else g j) (by rw[e0,h.kl];simp only[if_pos rfl];exact eC),e0]
 refine⟨fun j=>if j=k then b else g j,h.bc.setCell (p:=⟨b4,k,none⟩) h.Jt _,h.map.set h.st,by rw[Bw];exact kz h.kept h.st (by decide) _ _,by rw[Bw];exact h.kl,?_,kz h.Eo h.st (by decide) _ _,fun j hj=>?_,?_,h.Mj,h.Jt,by have:=h.nk;omega⟩
 ·have:=h.st.set k (.int .u8 (b:Int));rw[X4 _ _ _ k b hk,zlT] at this;exact this
 ·by_cases e:j=k
  ·simp only[if_pos e];rw[e];exact hb
  simp only[if_neg e];exact h.at_ j (by omega)
 have:=h.num.lX (fun i j e x hx=>(e x hx).symm) (fun i j l e e2 x hx=>(e x hx).trans (e2 x hx)) (fun i x hx=>rfl) h1 hE;rw[h2] at this;exact this
theorem rz.fresh{w2 w3:World}{Ia:Value}(hR:DR D C)(hk:k<256)(h:rz W0 D C bM b4 vC k v6 nm g w)(hb:cS D (D.K k)∉nm)(hm:fo w1 9 bM (nm.length+1) (On (nm++[cS D (D.K k)])))(jF:w.grownBy w1 (some bM))
  (k2:Below w1.heap.size w1 w2) (hg:w2.grownBy w3 v6.ownBlock) (ho:w3.ownsRow W0.heap.size 3 1 Ia (nm.length+1) (dv ((bP g k).map D.K)++[.int .i64 (D.K k)])):
  ∃g',rz W0 D C bM b4 vC (k+1) Ia (nm++[cS D (D.K k)]) g' (w3.setCell ⟨b4,k,none⟩ (.int .u8 (nm.length:Int))):=by
 have mZ:Below W0.heap.size W0 w1:=h.bc.grown jF h.bc.size (fun g e=>by injection e with e;rw[<-e];exact h.Mj);have nO:=mZ.trans (k2.mono mZ.size);have o2:=dE (AD h.kept h.map.ex.of jF) k2;have c2:=dE (AD h.Eo h.map.ex.of jF) k2;have m2:=hm.same (k2.block _ hm.lt);have s2:=(h.st.ey h.map.ex.of jF).ae k2;have s3:=s2.af o2 (by decide) hg;have m3:=m2.af o2 hg;have c3:=rS c2 hg (fun b e e2=>iO c2 o2 (by decide) b e e2.symm);have B3:=gu nO o2 nO.size hg;have Bw:bP (fun j=>if j=k then nm.length else g j) (k+1)=bP g k++[k]:=by
  have e0:bP (fun j=>if j=k then nm.length else g j) k=bP g k:=zgG k (fun j hj=>by simp only[if_neg (show ¬j=k by omega)]);rw[EN (f:=fun j=>if j=k then nm.length else g j) (by rw[e0,h.kl];show ¬(if k=k then nm.length else g k)<nm.length;rw[if_pos rfl];omega),e0]
 have hlen:(nm++[cS D (D.K k)]).length=nm.length+1:=by simp
 refine⟨fun j=>if j=k then nm.length else g j,B3.setCell (p:=⟨b4,k,none⟩) h.Jt _,by rw[hlen];exact m3.set s3,?_,by rw[Bw,hlen,length_append,h.kl];rfl,?_,kz c3 s3 (by decide) _ _,fun j hj=>?_,?_,h.Mj,h.Jt,by rw[hlen];have:=h.nk;omega⟩
 ·rw[Bw,hlen,map_append,show dv ((bP g k).map D.K++[k].map D.K)=dv ((bP g k).map D.K)++[.int .i64 (D.K k)] by simp[dv]];exact kz ho s3 (by decide) _ _
 ·have:=s3.set k (.int .u8 (nm.length:Int));rw[X4 _ _ _ k _ hk,zlT] at this;exact this
 ·by_cases e:j=k
  ·simp only[if_pos e];rw[e];simp
  simp only[if_neg e];have:=h.at_ j (by omega);rw[getElem?_append_left (List.getElem?_eq_some_iff.1 this).1];exact this
 rw[hlen];exact h.num.fresh (fun i j e x hx=>(e x hx).symm) (fun i x hx=>rfl) (fun i hi e=>hb ((h.mem _).2 ⟨i,hi,(zlU hR (by omega) hk).2 e⟩))
end
structure uT (W0:World)(D:Dd)(b4 C':Nat)(K':Nat->Nat)(vN:Value)(R:List (List Int))(ws:Nat->Value)(v6:Value)(l:List Nat)(w:World):Prop where
 bc:Below W0.heap.size W0 w
 st:St w 101 b4 (dH K' vN (.slice D.aM D.m D.cM))
 next:bK w W0.heap.size 43 3 1 vN R.length ws (fun _=>C') (fun j=>ints (R.getD j []))
 kept:w.ownsRow W0.heap.size 3 1 v6 C' (dv l)
 sep:∀i,i<R.length->∀b,(ws i).ownBlock=some b->v6.ownBlock≠some b
 lo:W0.heap.size<=b4
section
variable {W0 : World}{D : Dd}{b4 C' : Nat}{K' : Nat → Nat}{vN v6 : Value}{R : List (List Int)}{ws : Nat → Value}{l : List Nat}{w : World}
theorem uT.ae(h:uT W0 D b4 C' K' vN R ws v6 l w)(k:Below w.heap.size w w1):uT W0 D b4 C' K' vN R ws v6 l w1:=
 ⟨h.bc.trans (k.mono h.bc.size),h.st.ae k,h.next.ae k,dE h.kept k,h.sep,h.lo⟩
theorem uT.f1(h:uT W0 D b4 C' K' vN R ws v6 l w):w.cell? ⟨b4,256,none⟩=some vN:=by rw[h.st.at_,ri]
theorem rz.done{vC:Value}{nm:List ByteArray}{ws:Nat->Value}(h:rz W0 D C bM b4 vC 256 v6 nm g w)(hm:nm.length=C'):uT W0 D b4 C' (fun j=>if j<256 then g j else 0) (.slice none 0 0) [] ws v6 ((bP g 256).map D.K) w:=by
 subst hm;exact⟨h.bc,h.st,⟨World.ownsRow_nil _ _ _ _,fun i hi=>absurd hi (by simp),fun i j hi=>absurd hi (by simp)⟩,h.kept,fun i hi=>absurd hi (by simp),h.Jt⟩
theorem uT.gY{vN':Value}{row:List Int}{q:Nat}(h:uT W0 D b4 C' K' vN R ws v6 l w)(hu:w.ownsRow W0.heap.size 3 1 u C' (ints row))(hs:∀i,i<R.length->∀b,(ws i).ownBlock=some b->u.ownBlock≠some b)(sX:∀b,u.ownBlock=some b->v6.ownBlock≠some b)(hq:R.length=q)
  (ho:w'.ownsRow W0.heap.size 43 1 vN' (q+1) ((range q).map ws++[u])) (hg:w.grownBy w' vN.ownBlock):uT W0 D b4 C' K' vN' (R++[row]) (fun j=>if j=q then u else ws j) v6 l (w'.setCell ⟨b4,256,none⟩ vN'):=by
 subst hq;have cU:St w' 101 b4 (dH K' vN (.slice D.aM D.m D.cM)):=h.st.af h.next.own (by decide) hg
 have h1:bK w W0.heap.size 43 3 1 vN R.length ws (fun _=>C') (fun j=>ints ((R++[row]).getD j [])):=h.next.congr (fun i hi=>⟨rfl,by simp[getD_eq_getElem?_getD,getElem?_append_left hi]⟩)
 have h2:=h1.uW (v':=vN') (u:=u) (w':=w') (by decide) (by simpa [getD_eq_getElem?_getD] using hu) hs ho hg;have hm:w'.ownsRow W0.heap.size 3 1 v6 C' (dv l):=rS h.kept hg (fun b e e2=>iO h.kept h.next.own (by decide) b e e2.symm);refine⟨(gu h.bc h.next.own h.bc.size hg).setCell (p:=⟨b4,256,none⟩) h.lo _,?_,?_,Bn hm cU (by decide),?_,h.lo⟩
 ·have:=cU.set 256 vN';rwa [Yw] at this
 ·rw[length_append];exact⟨Bn h2.own cU (by decide),fun i hi=>Bn (h2.row i hi) cU (by decide),h2.sep⟩
 intro i hi b e;by_cases e1:i=R.length
 ·rw[if_pos e1] at e;exact sX b e
 rw[if_neg e1] at e;exact h.sep i (by simp at hi;omega) b e
def TR(D:Dd)(w:World)(e:Ending)(w':World):Prop:=
 ∃(P:Dd) (g:Nat->Nat) (C':Nat),e=.returned (.agg P.cD)/\DM w' P/\jO (pI D D.n) 256 g C'/\CR D g C' P/\Below w.heap.size w w'
def nZ(D:Dd)(l:List Nat)(n:Nat):List (List Int):=(range n).map fun i=>l.map (D.nx i)
theorem uT.fin{bR:Nat}{wS:World}{lX:Array Value}(hD:DM wS D)(hR:DR D C)(hN:jO (pI D D.n) 256 g C')(h:uT W0 D b4 C' (fun j=>if j<256 then g j else 0) vN (nZ D ((bP g 256).map D.K) D.n) ws v6 ((bP g 256).map D.K) w)
  (hs:St w 101 bR lX) (hw:w'=w.setRow bR cs) (hB:Below wS.heap.size wS w'):TR D wS (.returned (.agg (dH (fun j=>if j<256 then g j else 0) vN (.slice D.aM D.m D.cM)))) w':=by
 subst hw;obtain⟨aN,cN,rfl⟩:=cy h.next.own
 have hlen:(nZ D ((bP g 256).map D.K) D.n).length=D.n:=by simp[nZ]
 have qj:∀{B t n:Nat}{v:Value}{xs:List Value},t≠101->w.ownsRow B t 1 v n xs->(w.setRow bR cs).ownsRow B t 1 v n xs:=fun {B t n v xs} ht ho=>
  gk (ts:=[]) (bs:=[bR]) ho (JH w bR cs) (by simp) (fun g e hm=>eI ho hs ht g e (List.mem_singleton.1 hm))
 have dd:bK (w.setRow bR cs) W0.heap.size 43 3 1 (.slice aN (nZ D ((bP g 256).map D.K) D.n).length cN) (nZ D ((bP g 256).map D.K) D.n).length ws (fun _=>C') (fun j=>ints ((nZ D ((bP g 256).map D.K) D.n).getD j [])):=⟨qj (by decide) h.next.own,fun i hi=>qj (by decide) (h.next.row i hi),h.next.sep⟩
 have xL:∀r∈nZ D ((bP g 256).map D.K) D.n,r.length=C':=by
  intro r hr;obtain⟨i,_,rfl⟩:=List.mem_map.1 hr;rw[length_map,length_map,hN.iy]
 have hm:=hR.m;have hg:∀j,j<256->g j<256:=fun j hj=>by have:=hN.le j hj;omega
 refine⟨⟨dH (fun j=>if j<256 then g j else 0) (.slice aN (nZ D ((bP g 256).map D.K) D.n).length cN) (.slice D.aM D.m D.cM),fun j=>if j<256 then g j else 0,aN,(nZ D ((bP g 256).map D.K) D.n).length,cN,fun i=>wZ (ws i),fun i=>yQ (ws i),fun _=>C',fun i x=>((nZ D ((bP g 256).map D.K) D.n).getD i []).getD x 0,D.aM,D.m,D.cM,D.q⟩,g,C',rfl,
  ⟨nP _ _ _,yZ _ _ _ _ _ _ _,fun j hj=>Bi _ _ _ j hj,fun j hj=>?_,ri _ _ _,AK _ _ _,dd.zs rfl xL,(hD.below hB).rM⟩,hN,⟨fun b hb=>?_,hlen,hm,fun i hi=>rfl,fun i hi c hc=>?_,fun i hi=>rfl⟩,hB⟩
 ·show (if j<256 then g j else 0)<256;rw[if_pos hj];exact hg j hj
 ·show (if b<256 then g b else 0)=g b;rw[if_pos hb]
 show ((nZ D ((bP g 256).map D.K) D.n).getD i []).getD c 0=D.nx i (D.K ((bP g 256).getD c 0));have gj:c<(bP g 256).length:=by rw[hN.iy];exact hc
 unfold nZ;simp[getD_eq_getElem?_getD,hi,gj]
end
theorem Ux(D:Dd)(l:List Nat)(i:Nat):nZ D l (i+1)=nZ D l i++[l.map (D.nx i)]:=by
 unfold nZ;rw[range_succ,map_append];rfl
theorem zqt(D:Dd)(l:List Nat)(i:Nat):(nZ D l i).length=i:=by simp[nZ]
theorem Oe(D:Dd)(C:Nat)(hR:DR D C)(w:World)(hD:DM w D):
  Calls prog 100 #[.agg D.cD] w (TR D w):=by
 have dd:=hR.n2;have dr:=hR.n1;have Bt:=(hR.lf hD.kl).2;have yC:=hD.kl;have jR:=zhJ;have HB:=ψ (dD.new hD) (al w (.cells D.cD 101)) hR hD;obtain⟨iI,hI,q8,rm,rf⟩:=info_parts aH;obtain⟨iV,hV,wF,wg,wD⟩:=info_parts fa;have VH:=hid yC;clear hD hR yC;go_in;go_upto_region 1 with (refine tq rfl 101 rfl (zC 101) (o8 _) ?_)
 try simp only[put,List.setIfInBounds_toArray,set_cons_zero,set_cons_succ,Ke]
 have H0:Hid (dD ((w.alloc (.cells D.cD 101)).alloc (.cells (zC 101) 101)) w.heap.size D/\St ((w.alloc (.cells D.cD 101)).alloc (.cells (zC 101) 101)) 101 (w.heap.size+1) (zC 101)/\Below w.heap.size w ((w.alloc (.cells D.cD 101)).alloc (.cells (zC 101) 101))):=by
  refine⟨HB.o.1.ae (al _ _),?_,HB.o.2.1.trans ((al _ _).mono (by simp))⟩;have:=St.new (w.alloc (.cells D.cD 101)) 101 (zC 101);simpa using this
 generalize (w.alloc (.cells D.cD 101)).alloc (.cells (zC 101) 101)=Wn at H0⊢;obtain⟨b2,cH⟩:=Ξ (w.heap.size+1)
 obtain⟨b0,bz⟩:=Ξ w.heap.size
 rw[cH,bz] at H0;rw[cH,bz];have Hb:=ζ bz cH;clear cH bz;have f2:=H0.o.1.f2;have k5:=al Wn (.cells (zC 101) 101);have iv:St (Wn.alloc (.cells (zC 101) 101)) 101 Wn.heap.size (zC 101):=St.new _ _ _;have jB:=hid iv;have kq:Hid (St ((Wn.alloc (.cells (zC 101) 101)).setRow Wn.heap.size (dH (fun _=>0) (.slice none 0 0) (.slice D.aM D.m D.cM))) 101 Wn.heap.size (dH (fun _=>0) (.slice none 0 0) (.slice D.aM D.m D.cM))/\Below Wn.heap.size Wn ((Wn.alloc (.cells (zC 101) 101)).setRow Wn.heap.size (dH (fun _=>0) (.slice none 0 0) (.slice D.aM D.m D.cM)))):=⟨iv.setRow,nY k5 (le_refl _) _⟩
 clear k5 iv;go_upto_region 2 with (first
  | (refine Dn rfl 101 _ rfl #[(2,.slice D.aM D.m D.cM)] (by first|rfl|kernel_rfl|(go_simp;done)) (.agg (dH (fun _=>0) (.slice none 0 0) (.slice D.aM D.m D.cM))) (zj2 D.aM D.m D.cM _) ?_)
  | (refine tq rfl 101 rfl (zC 101) (o8 _) ?_)
  | (refine qD rfl 101 _ _ rfl Wn.heap.size 101 (zC 101) (dH (fun _=>0) (.slice none 0 0) (.slice D.aM D.m D.cM)) rfl rfl jB.o (by rw[kr,nP]) (by rw[iN,nP]) (yZ _ _ _ _ _ _ _) ?_))
 simp only[put,sA];clear f2;obtain⟨b4,fV⟩:=Ξ Wn.heap.size
 have Gu:=hid fV;rw[fV] at kq;rw[fV];generalize (Wn.alloc (.cells (zC 101) 101)).setRow b4 (dH (fun _=>0) (.slice none 0 0) (.slice D.aM D.m D.cM))=W4 at kq⊢;clear fV jB;have wP:=hid (H0.o.1.ae (show Below Wn.heap.size Wn W4 by rw[Gu.o];exact kq.o.2));have Kr:=hid (zfM D C HB.o.2.2.1 W4 wP.o.dm);go_wp2_with (refine pU (by rfl) 101 _ rfl ⟨b0,0,none⟩ rfl D.cD _ wP.o.st.part underlying101 rfl wP.o.dm.info ?_);refine Kr.o.mono ?_;rintro e w5 ⟨aC,cC,rfl,ky,b5⟩;obtain⟨gC,rfl,Rz,SD,PW⟩:=fG ky (show 0<C by have:=HB.o.2.2.1.lf VH.o;omega);have k6:=al w5 (.map #[] 0);have Wm:fo (w5.alloc (.map #[] 0)) 9 w5.heap.size 0 (On []):=fo.made _ _ _ (fun x y h=>by
  obtain⟨k,s,h1,_⟩:=h
  simp at h1)
 have Mt:Hid (rz Wn D C w5.heap.size b4 (.slice (some ⟨gC,0,none⟩) C cC) 0 (.slice none 0 0) [] (fun _=>0) (w5.alloc (.map #[] 0))):=by
  have l6:b4<=W4.heap.size:=by have:=kq.o.2.size;have:=Gu.o;omega
  have jE:=b5.size;have hn4:=Gu.o;have hbA:Below Wn.heap.size Wn w5:=(show Below Wn.heap.size Wn W4 by rw[Gu.o];exact kq.o.2).trans (b5.mono (by omega));refine⟨hbA.trans (k6.mono (by omega)),Wm,World.ownsRow_nil _ _ _ _,rfl,?_,jH (dE ky k6) (by omega),fun i hi=>absurd hi (by omega),jO.zero _,by omega,by omega,by simp⟩;have:=(kq.o.1.ae b5).ae k6;have e:(fun j=>if j<0 then (fun _=>0:Nat->Nat) j else 0)=fun _=>0:=by funext j;simp
  rw[e];exact this
 have Iv:=hid ((wP.o.ae b5).ae k6);clear ky b5 Rz SD PW k6 Wm Kr;go_upto_region 5 with fail;obtain⟨bM,sY⟩:=Ξ w5.heap.size
 rw[sY] at Mt
 try rw[sY]
 generalize w5.alloc (.map #[] 0)=W6 at Mt Iv⊢;clear sY;have fI:=BG D.K;go_wp2_with (refine tH rfl 98 _ rfl ⟨b0,0,none⟩ rfl (bu D.K) (.array 256 5) Iv.o.fy underlying98 rfl fI ?_);go_loopw [6,7,8,9,10,11,22] (fun v6 _ _ _ _ _ vk wr=>∃(k m:Nat) (a6:Option Addr) (c6:Nat),v6=.slice a6 m c6/\vk=.int .i64 k/\k<=256/\m<=k/\Hid (∃nm g,nm.length=m/\rz Wn D C bM b4 (.slice (some ⟨gC,0,none⟩) C cC) k v6 nm g wr)) (fun _ _ _ _ _ _ v _=>256-(intOf v).toNat)
 ·exact⟨0,0,none,0,rfl,rfl,by omega,by omega,_,_,rfl,Mt.o⟩
 clear Mt;obtain⟨k,m,a6,c6,rfl,rfl,hk,gP,HL⟩:=hrel;by_cases fW:k<256
 ·obtain⟨nm,g,jo,hM⟩:=HL.o;have HM:=hid hM;have Cu:=hid jo;have i2:(k:Int)<256:=by omega
  have hv:=Ii D.K k fW;have DK:=T0 98 5 256 (bu D.K) k _ underlying98 fW (by kernel_rfl) ⟨_,underlying5,rfl⟩ hv wr;have Ar:=VH.o k fW;have QQ:=HB.o.2.2.1.c.1 k fW;obtain⟨gX,EY,LN,L3,DB⟩:=fG hM.Eo (by omega);have dy:=(DB (D.K k) (by omega)).1;have TZ:gX=gC:=by injection EY with EY;injection EY with EY _;exact EY.symm
  rw[TZ] at dy;have hcv:((range C).map (rW D))[D.K k]?=some (.string (cS D (D.K k))):=by simp[QQ];rfl
  rw[hcv] at dy;have cQ:(cS D (D.K k)).size<=1000000:=by rw[zry];omega
  have yz:=hM.look (cS D (D.K k)) cQ;have hlen:=hM.map.len (ty:=3) (t:=176) (by rw[underlying176];rfl);rw[jo] at hlen;have hw8:IntKind.u8.wrap (m:Int)=m:=by simp[wrap,IntKind.bits,signed];omega
  have z1:=hM.st.at_ k;have z2:=hM.st.bE k;rw[Bi _ _ _ k fW] at z1;rcases yz with ⟨b,hb,cZ⟩|⟨hb,cZ⟩
  ·have HF:Hid (∃nm g,nm.length=m/\rz Wn D C bM b4 (.slice (some ⟨gC,0,none⟩) C cC) (k+1) (.slice a6 m c6) nm g (wr.setCell ⟨b4,k,none⟩ (.int .u8 (b:Int)))):=by
    obtain⟨g',FB⟩:=hM.lX HB.o.2.2.1 fW hb;exact⟨nm,g',jo,FB⟩
   clear hM hb hlen hw8 EY LN L3 DB hcv jo HM Cu cQ HL;obtain⟨y,hy⟩:=Ξ (D.K k);obtain⟨s,hs⟩:=Ξ (cS D y);rw[hy] at hv DK Ar QQ dy cZ;rw[hs] at dy cZ;clear hy hs;go_wp2;go_roundw
   ·exact⟨k+1,m,a6,c6,rfl,by go_num,by omega,by omega,HF.o⟩
   simp[intOf];omega
  have oD:nm.length<maxLen:=by unfold maxLen;omega
  obtain⟨w1,Ah,jD,jF⟩:=hM.put (cS D (D.K k)) cQ oD hb;rw[jo] at Ah;have Ch:=AD hM.kept hM.map.ex.of jF;rw[jo] at Ch;have Q5:=(hM.bc.grown jF hM.bc.size (fun g e=>by injection e with e;rw[<-e];exact hM.Mj)).size;have pD:=hid (hM.st.ey hM.map.ex.of jF);have SE:Hid (∀(w2 w3:World) (Ia:Value),Below w1.heap.size w1 w2->w2.grownBy w3 (Value.slice a6 m c6).ownBlock->w3.ownsRow Wn.heap.size 3 1 Ia (m+1) (dv ((bP g k).map D.K)++[.int .i64 (D.K k)])->∃nm g,nm.length=m+1/\rz Wn D C bM b4 (.slice (some ⟨gC,0,none⟩) C cC) (k+1) Ia nm g (w3.setCell ⟨b4,k,none⟩ (.int .u8 (m:Int)))):=fun w2 w3 Ia h1 h2 h3=>by
   obtain⟨g',FB⟩:=hM.fresh HB.o.2.2.1 fW hb jD jF h1 h2 (by rw[jo];exact h3);rw[jo] at FB;exact⟨_,g',by simp[jo],FB⟩
  clear hM hb EY LN L3 DB hcv jo HM Cu cQ HL jD jF z1 z2 oD;obtain⟨y,hy⟩:=Ξ (D.K k)
  obtain⟨s,hs⟩:=Ξ (cS D y)
  rw[hy] at hv DK Ar QQ dy cZ Ah SE;rw[hs] at dy cZ Ah;clear hy hs;obtain⟨l9,sc⟩:=Ξ (dv ((bP g k).map D.K))
  rw[sc] at Ch SE;clear sc;go_wp2_with (at_builtin;refine wpList_append_own_at _ rfl _ _ 43 rfl Wn.heap.size 3 iI (.int .i64 0) 1 8 underlying43 hI q8 rm rf rfl (by decide) _ _ _ rfl (Ch.alloc _) ⟨w1.heap.size,0,none⟩ 1 1 [.int .i64 (y:Int)] rfl rfl (cell_one_new _ _ _) ?d2 ?d3 ?d4 ?d5 ?_)
  case d2=>first|(intro u hu;simp at hu;subst hu;rfl)|rfl
  case d3=>unfold maxLen;omega
  case d4=>omega
  case d5=>first|(simp;omega)|omega
  intro v' w5 ak aj _ bW;obtain⟨a7,c7,rfl⟩:=cy ak;have k9:=al w1 (.cells #[.int .i64 (y:Int)] 3);have HF:=hid (SE.o _ w5 (.slice a7 (m+1) c7) k9 aj ak);have HS5:=hid ((pD.o.ae k9).af (dE Ch k9) (by decide) aj);have z1:=HS5.o.at_ k;have z2:=HS5.o.bE k;rw[Bi _ _ _ k fW] at z1;clear ak aj bW Ch k9;go_wp2;go_roundw
  ·exact⟨k+1,m+1,a7,c7,rfl,by go_num,by omega,by omega,HF.o⟩
  simp[intOf];omega
 obtain rfl:k=256:=by omega
 obtain⟨nm,g,jo,hM⟩:=HL.o;have AQ:=hM.num;rw[jo] at AQ;have Bo:=hM.done (ws:=fun _=>.slice none 0 0) jo;obtain⟨l,hl⟩:=Ξ ((bP g 256).map D.K)
 obtain⟨Kf,RW⟩:∃Kf:Nat->Nat,(fun j=>if j<256 then g j else 0)=Kf:=⟨_,rfl⟩
 have BU:=ξ AQ hl RW;rw[hl,RW] at Bo;have kq:Hid (uT Wn D b4 m Kf (.slice none 0 0) (nZ D l 0) (fun _=>.slice none 0 0) (.slice a6 m c6) l wr):=Bo;have Hl:Hid (l.length=m/\∀x∈l,x<C):=by
  refine⟨by rw[<-hl,length_map,AQ.iy],fun x hx=>?_⟩;rw[<-hl] at hx;obtain⟨j,hj,rfl⟩:=List.mem_map.1 hx;exact HB.o.2.2.1.c.1 j (Ny g 256 j hj)
 have U1:=hid (H0.o.1.ae hM.bc);have f1:=U1.o.f1;obtain⟨gN,oN,eN,od,rF⟩:=H0.o.1.dm.rN (by omega);rw[eN] at f1;have xA:=hid rF;have Hg:=hid od;clear eN rF od AQ Bo hl RW hM HL jo;go_wp2_with fail;clear f1;rw[show ((256:Nat):Int)=256 from rfl];go_loopw [13,57] (fun _ v wr=>∃(i:Nat) (ws:Nat->Value) (aN:Option Addr) (cN:Nat),v=.int .i64 i/\i<=D.n/\Hid (uT Wn D b4 m Kf (.slice aN i cN) (nZ D l i) ws (.slice a6 m c6) l wr)) (fun _ v _=>D.n-(intOf v).toNat)
 ·exact⟨0,_,none,0,rfl,by omega,kq⟩
 clear kq;obtain⟨i,ws,aN,cN,rfl,hi,HT⟩:=hrel;have nA:Hid ((nZ D l i).length=i):=zqt D l i;by_cases aq:i<D.n
 ·have i1:(i:Int)<(D.n:Int):=by omega
  have hlen:=HB.o.2.2.1.len i aq;have qZ:=(HT.o.bc.cell (p:=⟨gN,oN+i,none⟩) Hg.o).trans (xA.o i aq).1;have zN:=(xA.o i aq).2;rw[hlen] at qZ zN
  try dsimp only at qZ
  have yV:Hid (lT wr.drew (D.A i) C (D.nx i)):=(zN.below HT.o.bc).below (Below.refl _ _).drew;clear hlen zN;go_upto_region 19 with fail;clear qZ;refine wp_region_held_drew (S:=fun W'=>Below Wn.heap.size Wn W') (by kernel_rfl) HT.o.bc.drew fun η=>?_;have HT:Hid (uT Wn D b4 m Kf (.slice aN i cN) (nZ D l i) ws (.slice a6 m c6) l wr.drew):=HT.o.ae (Below.refl _ _).drew
  (refine ay 0 ?_;refine ay 2 ?_;refine ay 3 ?_;try simp only[put,sA])
  ·refine wpAnyH_ready (rs:=[1,4]) (by kernel_rfl) (by simp) (jn (fun K hK=>?_) (jn (fun K hK=>?_) AllReadyH.nil))
   skip;have f1:=HT.o.f1;go_simp;refine hK.out _ _ (η) fun η=>?_;clear hK K
   try simp only[put,sA]
   clear f1;refine bH 4 (fun K hK=>?_);skip;have iQ:=(HT.o.next.lt).2;have ka:=me HT.o.kept;have L5:=vy HT.o.kept Hl.o.1;have IJ:=yV.o;skip;go_simp;go_at_call 131;refine (zeZ (D.nx i) C l m Hl.o.1 (by omega) (by omega) Hl.o.2 (D.A i) a6 (D.Cp i) c6 _ IJ L5).mono ?_;rintro e w5 ⟨a5,c5,rfl,ky,b5⟩;have HU:Hid (w5.ownsRow Wn.heap.size 3 1 (.slice a5 m c5) m (ints (l.map (D.nx i)))/\(∀j,j<(nZ D l i).length->∀b,(ws j).ownBlock=some b->(Value.slice a5 m c5).ownBlock≠some b)/\∀b,(Value.slice a5 m c5).ownBlock=some b->(Value.slice a6 m c6).ownBlock≠some b):=by
    have jS:=ln ky;refine⟨?_,fun j hj b e1 e2=>?_,fun b e1 e2=>?_⟩
    ·exact jH ky HT.o.bc.size
    ·have h1:=iQ j hj b e1;have h2:=jS b e2
     try simp only[lj] at h1
     try simp only[lj] at h2
     omega
    have h1:=ka b e2;have h2:=jS b e1
    try simp only[lj] at h1
    try simp only[lj] at h2
    omega
   have HT:=hid (HT.o.ae b5);clear ky b5 iQ ka L5 IJ
   try go_wp2_with fail
   refine hK.out _ _ (HT.o.bc) fun η=>?_;clear hK K
   try simp only[put,sA]
   refine bH 5 (fun K hK=>?_);skip;go_simp;have kk:=al w5 (.cells #[.slice a5 m c5] 43);have HN:Hid (∀j u,[Value.slice a5 m c5][j]?=some u->(w5.alloc (.cells #[.slice a5 m c5] 43)).cell? ((⟨w5.heap.size,0,none⟩:Addr).add j)=some u):=cell_one_new _ _ _;have HT:=hid (HT.o.ae kk);have HU:=ζ (dE HU.o.1 kk) HU.o.2;refine hK.out _ _ (HT.o.bc) fun η=>?_;clear hK K
   try simp only[put,sA]
   clear kk;generalize w5.alloc (.cells #[.slice a5 m c5] 43)=V5 at HN HT HU η⊢;refine bH 6 (fun K hK=>?_);skip;have hO:=(HT.o.next.own);rw[nA.o] at hO;refine yX (by rfl) _ _ _ (by rfl) Wn.heap.size 43 iV (.slice none 0 0) 1 24 underlying99 hV wF wg wD (by rfl) (by decide) _ i ((range i).map ws) (by rfl) hO ⟨w5.heap.size,0,none⟩ 1 1 [.slice a5 m c5] (by rfl) (by rfl) HN.o (by intro u hu;simp at hu;subst hu;rfl) (by unfold maxLen;omega) (by omega) HT.o.bc.size ?_;intro v6 w6 an ag;obtain⟨a7,c7,rfl⟩:=cy an;have jT:=hid (HT.o.gY (u:=.slice a5 m c5) (vN':=.slice a7 (i+1) c7) HU.o.1 HU.o.2.1 HU.o.2.2 nA.o an ag);have h9:=(HT.o.st.af HT.o.next.own (by decide) ag);have z2:w6.cell? ⟨b4,256,none⟩=some (.slice aN i cN):=(by rw[h9.at_,ri]);have z3:w6.frozen? ⟨b4,256,none⟩=false:=h9.bE 256;have eJ:=(gu HT.o.bc HT.o.next.own HT.o.bc.size ag);clear an ag h9 hO;refine hK.out _ _ (eJ) fun η=>?_;clear hK K
   rotate_left
   skip;have iQ:=(HT.o.next.lt).2;have ka:=me HT.o.kept;have L5:=vy HT.o.kept Hl.o.1;have IJ:=yV.o;skip;go_simp;go_at_call 131;refine (zeZ (D.nx i) C l m Hl.o.1 (by omega) (by omega) Hl.o.2 (D.A i) a6 (D.Cp i) c6 _ IJ L5).mono ?_;rintro e w5 ⟨a5,c5,rfl,ky,b5⟩;have HU:Hid (w5.ownsRow Wn.heap.size 3 1 (.slice a5 m c5) m (ints (l.map (D.nx i)))/\(∀j,j<(nZ D l i).length->∀b,(ws j).ownBlock=some b->(Value.slice a5 m c5).ownBlock≠some b)/\∀b,(Value.slice a5 m c5).ownBlock=some b->(Value.slice a6 m c6).ownBlock≠some b):=by
    have jS:=ln ky;refine⟨?_,fun j hj b e1 e2=>?_,fun b e1 e2=>?_⟩
    ·exact jH ky HT.o.bc.size
    ·have h1:=iQ j hj b e1;have h2:=jS b e2
     try simp only[lj] at h1
     try simp only[lj] at h2
     omega
    have h1:=ka b e2;have h2:=jS b e1
    try simp only[lj] at h1
    try simp only[lj] at h2
    omega
   have HT:=hid (HT.o.ae b5);clear ky b5 iQ ka L5 IJ
   try go_wp2_with fail
   refine hK.out _ _ (HT.o.bc) fun η=>?_;clear hK K
   try simp only[put,sA]
   refine wpAnyH_ready (rs:=[1,5]) (by kernel_rfl) (by simp) (jn (fun K hK=>?_) (jn (fun K hK=>?_) AllReadyH.nil))
   skip;have f1:=HT.o.f1;go_simp;refine hK.out _ _ (η) fun η=>?_;clear hK K
   try simp only[put,sA]
   clear f1;refine bH 5 (fun K hK=>?_);skip;go_simp;have kk:=al w5 (.cells #[.slice a5 m c5] 43);have HN:Hid (∀j u,[Value.slice a5 m c5][j]?=some u->(w5.alloc (.cells #[.slice a5 m c5] 43)).cell? ((⟨w5.heap.size,0,none⟩:Addr).add j)=some u):=cell_one_new _ _ _;have HT:=hid (HT.o.ae kk);have HU:=ζ (dE HU.o.1 kk) HU.o.2;refine hK.out _ _ (HT.o.bc) fun η=>?_;clear hK K
   try simp only[put,sA]
   clear kk;generalize w5.alloc (.cells #[.slice a5 m c5] 43)=V5 at HN HT HU η⊢;refine bH 6 (fun K hK=>?_);skip;have hO:=(HT.o.next.own);rw[nA.o] at hO;refine yX (by rfl) _ _ _ (by rfl) Wn.heap.size 43 iV (.slice none 0 0) 1 24 underlying99 hV wF wg wD (by rfl) (by decide) _ i ((range i).map ws) (by rfl) hO ⟨w5.heap.size,0,none⟩ 1 1 [.slice a5 m c5] (by rfl) (by rfl) HN.o (by intro u hu;simp at hu;subst hu;rfl) (by unfold maxLen;omega) (by omega) HT.o.bc.size ?_;intro v6 w6 an ag;obtain⟨a7,c7,rfl⟩:=cy an;have jT:=hid (HT.o.gY (u:=.slice a5 m c5) (vN':=.slice a7 (i+1) c7) HU.o.1 HU.o.2.1 HU.o.2.2 nA.o an ag);have h9:=(HT.o.st.af HT.o.next.own (by decide) ag);have z2:w6.cell? ⟨b4,256,none⟩=some (.slice aN i cN):=(by rw[h9.at_,ri]);have z3:w6.frozen? ⟨b4,256,none⟩=false:=h9.bE 256;have eJ:=(gu HT.o.bc HT.o.next.own HT.o.bc.size ag);clear an ag h9 hO;refine hK.out _ _ (eJ) fun η=>?_;clear hK K
   rotate_left
   skip;go_simp;have kk:=al w5 (.cells #[.slice a5 m c5] 43);have HN:Hid (∀j u,[Value.slice a5 m c5][j]?=some u->(w5.alloc (.cells #[.slice a5 m c5] 43)).cell? ((⟨w5.heap.size,0,none⟩:Addr).add j)=some u):=cell_one_new _ _ _;have HT:=hid (HT.o.ae kk);have HU:=ζ (dE HU.o.1 kk) HU.o.2;refine hK.out _ _ (HT.o.bc) fun η=>?_;clear hK K
   try simp only[put,sA]
   clear kk;generalize w5.alloc (.cells #[.slice a5 m c5] 43)=V5 at HN HT HU η⊢;refine bH 1 (fun K hK=>?_);skip;have f1:=HT.o.f1;go_simp;refine hK.out _ _ (η) fun η=>?_;clear hK K
   try simp only[put,sA]
   clear f1;refine bH 6 (fun K hK=>?_);skip;have hO:=(HT.o.next.own);rw[nA.o] at hO;refine yX (by rfl) _ _ _ (by rfl) Wn.heap.size 43 iV (.slice none 0 0) 1 24 underlying99 hV wF wg wD (by rfl) (by decide) _ i ((range i).map ws) (by rfl) hO ⟨w5.heap.size,0,none⟩ 1 1 [.slice a5 m c5] (by rfl) (by rfl) HN.o (by intro u hu;simp at hu;subst hu;rfl) (by unfold maxLen;omega) (by omega) HT.o.bc.size ?_;intro v6 w6 an ag;obtain⟨a7,c7,rfl⟩:=cy an;have jT:=hid (HT.o.gY (u:=.slice a5 m c5) (vN':=.slice a7 (i+1) c7) HU.o.1 HU.o.2.1 HU.o.2.2 nA.o an ag);have h9:=(HT.o.st.af HT.o.next.own (by decide) ag);have z2:w6.cell? ⟨b4,256,none⟩=some (.slice aN i cN):=(by rw[h9.at_,ri]);have z3:w6.frozen? ⟨b4,256,none⟩=false:=h9.bE 256;have eJ:=(gu HT.o.bc HT.o.next.own HT.o.bc.size ag);clear an ag h9 hO;refine hK.out _ _ (eJ) fun η=>?_;clear hK K
   rotate_left
   all_goals
    try simp only[put,sA]
    (refine ay 7 ?_;try simp only[put,sA])
    refine bH 8 (fun K hK=>?_);skip;go_simp;refine hK.out _ _ (jT.o.bc) fun η=>?_;clear hK K
    try simp only[put,sA]
    refine wpAnyH_done (by kernel_rfl) ?_ _;rw[<-Ux] at jT;clear η z2 z3 eJ;go_wp2;go_roundw
    ·exact⟨i+1,_,a7,c7,by go_num,by omega,jT⟩
    simp[intOf];omega
 obtain rfl:i=D.n:=by omega
 have Sz:=hid HT.o;have jB:=hid HT.o.st;have gq:=hid (H0.o.2.1.ae HT.o.bc);have hd:=nP Kf (.slice aN D.n cN) (.slice D.aM D.m D.cM);have GG:Hid (w.heap.size<=Wn.heap.size):=by have:=H0.o.2.2.size;have:=Hb.o.1;show _<=_;omega
 have CP:Hid (Below w.heap.size w (wr.setRow b2 (dH Kf (.slice aN D.n cN) (.slice D.aM D.m D.cM)))):=
  nY ((show Below w.heap.size w Wn by rw[Hb.o.1];exact H0.o.2.2).trans (HT.o.bc.mono GG.o)) (by have:=Hb.o;omega) _
 have HF:Hid (TR D w (.returned (.agg (dH Kf (.slice aN D.n cN) (.slice D.aM D.m D.cM)))) (wr.setRow b2 (dH Kf (.slice aN D.n cN) (.slice D.aM D.m D.cM)))):=by
  obtain⟨h1,h2,h3⟩:=BU.o;have hT:=Sz.o;rw[<-h3] at hT CP⊢;rw[<-h2] at hT;exact hT.fin HB.o.2.2.2 HB.o.2.2.1 h1 gq.o rfl CP.o
 clear HT;go_wp2_with (first|(refine tH rfl 101 _ rfl ⟨b4,0,none⟩ rfl (dH Kf (.slice aN D.n cN) (.slice D.aM D.m D.cM)) _ jB.o.part underlying101 rfl (by rw[iN,hd]) ?_)|(refine qD rfl 101 _ _ rfl b2 101 (zC 101) (dH Kf (.slice aN D.n cN) (.slice D.aM D.m D.cM)) rfl rfl gq.o (by rw[kr,hd]) (by rw[iN,hd]) (yZ _ _ _ _ _ _ _) ?_));refine bodyPost_ret (results_cell_row rfl _ _ b2 101 (dH Kf (.slice aN D.n cN) (.slice D.aM D.m D.cM)) (0,0) _ rfl gq.o.setRow underlying101 rfl (by rw[iN,hd])) rfl ?_;exact HF.o
theorem zrz(h:(zC 101)[i]?=some v):v=.int .u8 0\/v=.slice none 0 0:=by
 have hz:=kr;by_cases a:i<256
 ·rw[Z4 i a] at h;exact inl (Option.some.inj h).symm
 by_cases b:i=256
 ·subst b;rw[G5.1] at h;exact inr (Option.some.inj h).symm
 by_cases c:i=257
 ·subst c;rw[G5.2] at h;exact inr (Option.some.inj h).symm
 rw[Array.getElem?_eq_none (by omega)] at h;cases h
theorem DM.Tf{b:Nat}(hR:DR D C)(h:DM w D)(hs:St w 101 b (zC 101))(cs:Array Value):DM (w.setRow b cs) D:=by
 have hk:=JH w b cs;have cQ:(w.setRow b cs).heap.size=w.heap.size:=setRow_size _ _ _;have hC:=(hR.lf h.kl).1;have key:∀{g i:Nat}{v:Value},g<w.heap.size->w.cell? ⟨g,i,none⟩=some v->v≠.int .u8 0->v≠.slice none 0 0->(w.setRow b cs).cell? ⟨g,i,none⟩=some v:=fun {g i v} hg hc h1 h2=>by
  have hgb:g≠b:=fun e=>by
   subst e;rw[hs.at_] at hc;rcases zrz hc with e|e
   ·exact h1 e
   exact h2 e
  rw[hk.oz (g:=g) (i:=i) (by simpa using hgb) hg];exact hc
 refine⟨h.sz,h.one,h.cl,h.kl,h.fN,h.fM,fun h0=>?_,fun h0=>?_⟩
 ·obtain⟨g,off,e,hg,hc⟩:=h.rN h0;refine⟨g,off,e,by rw[cQ];exact hg,fun i hi=>⟨key hg (hc i hi).1 (fun e=>by cases e) (fun e=>by
   injection e with _ e _
   have:=hR.len i hi
   omega),fun h1=>?_⟩⟩
  obtain⟨g',lF,e',FB,nH⟩:=(hc i hi).2 h1;exact⟨g',lF,e',by rw[cQ];exact FB,fun j hj=>key FB (nH j hj) (fun e=>by cases e) (fun e=>by cases e)⟩
 obtain⟨g,off,e,hg,hc⟩:=h.rM h0;exact⟨g,off,e,by rw[cQ];exact hg,fun j hj=>key hg (hc j hj) (fun e=>by cases e) (fun e=>by cases e)⟩
theorem dD.stored{b:Nat}(hR:DR D C)(hD:DM w D)(h:St w 101 b (zC 101)):dD (w.setRow b D.cD) b D:=⟨h.setRow,hD.Tf hR h _⟩
def xU(O P:Dd)(C C':Nat):Prop:=∃(f:Nat->Nat) (B:Nat) (M:Dd) (g:Nat->Nat),jO (nI C (tD O) (mD O)) O.n f B/\zU O C f B M/\jO (pI M M.n) 256 g C'/\CR M g C' P
theorem xU.right(hR:DR O C)(h:xU O P C C'):DR P C':=by
 obtain⟨f,B,M,g,h1,h2,h3,h4⟩:=h;exact h4.right (h2.right hR h1) h3
theorem xU.le(h:xU O P C C'):P.n<=O.n:=by
 obtain⟨f,B,M,g,h1,h2,h3,h4⟩:=h;have e:=h4.n;have e2:M.n=B:=h2.2.1;have e3:=h1.iy;have e4:=WT f O.n;omega
theorem xU.mn{X:Dd}(hR:DR O C)(h:xU O P C C')(hl:l=dN (aQ P.len P.nx) [0] k)(fW:l.length=k)(uS:k<=P.n)(hX:wv P C' k (kD P l) (fun i=>P.q (l.getD i 0)) X):DR X C'/\jG X 0 O 0:=by
 obtain⟨f,B,M,g,hN,hM,hG,hP⟩:=h;have Z2:=hM.right hR hN;have Yg:=hP.right Z2 hG;have dr:=hR.n1;have Dw:M.n=B:=hM.2.1;have f0:f 0=0:=by have:=hN.le 0 (by omega);omega
 have ll:1<=k/\l.getD 0 0=0:=by
  have:=Vg (D:=P) (k:=k) (by rw[<-hl];exact fW);rw[<-hl] at this;exact this
 have h1:=hX.uM Yg hl fW (i:=0) (by omega);rw[ll.2] at h1;have h2:=hP.JY Z2 hG (i:=0) (by rw[Dw];have:=hN.lt 0 (by omega);omega);have h3:=hM.JY hR hN (i:=0) (by omega);rw[f0] at h3;refine⟨?_,(h1.trans h2).trans h3⟩;subst hl;exact hX.qs Yg fW uS
structure Qk (D O:Dd)(C:Nat):Prop where
 r:DR O C
 JY:jG O 0 D 0
 le:O.n<=D.n
theorem Qk.made{T:Dd}(hR:DR D C)(hT:wv D C D.n (qh D) D.q T)(hl:l=dN (aQ T.len T.nx) [0] k)(fW:l.length=k)(uS:k<=T.n)(hO:wv T C k (kD T l) (fun i=>T.q (l.getD i 0)) O):Qk D O C:=by
 have ZI:=hT.ld hR;have hn:=hR.n1;have h1:=Vg (D:=T) (k:=k) (by rw[<-hl];exact fW);rw[<-hl] at h1;have hb:=hO.uM ZI hl fW (i:=0) (by omega);rw[h1.2] at hb;refine⟨?_,hb.trans (hT.zt hR (by omega)),by have h3:=hO.2.1;have h4:=hT.2.1;omega⟩;subst hl;exact hO.qs ZI fW uS
def Yy(D:Dd)(w:World)(e:Ending)(w':World):Prop:=∃(X:Dd) (C':Nat),e=.returned (.tuple #[.agg X.cD,.int .i64 0])/\DM w' X/\DR X C'/\jG X 0 D 0/\X.n<=D.n/\Below w.heap.size w w'
theorem znZ(D:Dd)(C:Nat)(hR:DR D C)(w:World)(hD:DM w D):Calls prog 83 #[.agg D.cD] w (Yy D w):=by
 have HB:=ξ (dD.new hD) (al w (.cells D.cD 101)) hR;clear hD hR;go_in;go_upto_region 1 with (refine tq rfl 101 rfl (zC 101) (o8 _) ?_)
 try simp only[put,List.setIfInBounds_toArray,set_cons_zero,set_cons_succ,Ke]
 have H0:Hid (dD ((w.alloc (.cells D.cD 101)).alloc (.cells (zC 101) 101)) w.heap.size D/\St ((w.alloc (.cells D.cD 101)).alloc (.cells (zC 101) 101)) 101 (w.heap.size+1) (zC 101)/\Below w.heap.size w ((w.alloc (.cells D.cD 101)).alloc (.cells (zC 101) 101))):=by
  refine⟨HB.o.1.ae (al _ _),?_,HB.o.2.1.trans ((al _ _).mono (by simp))⟩;have:=St.new (w.alloc (.cells D.cD 101)) 101 (zC 101);simpa using this
 generalize (w.alloc (.cells D.cD 101)).alloc (.cells (zC 101) 101)=Wb at H0⊢;obtain⟨b2,cH⟩:=Ξ (w.heap.size+1)
 obtain⟨b0,bz⟩:=Ξ w.heap.size
 rw[cH,bz] at H0;rw[cH,bz];have Hb:=ζ bz cH;clear cH bz;have uX:=hid (Ji D C HB.o.2.2 Wb H0.o.1.dm);go_wp2_with (refine pU (by rfl) 101 _ rfl ⟨b0,0,none⟩ rfl D.cD _ H0.o.1.st.part underlying101 rfl H0.o.1.dm.info ?_);refine uX.o.mono ?_;rintro e wy ⟨rfl,ta⟩;have tv:Hid (dD wy b0 D/\St wy 101 b2 (zC 101)/\Below b0 w wy/\b0<=wy.heap.size):=⟨H0.o.1.ae ta,H0.o.2.1.ae ta,H0.o.2.2.trans (ta.mono (by have:=H0.o.2.2.size;have:=Hb.o.1;omega)),by have:=H0.o.2.2.size;have:=ta.size;have:=Hb.o.1;omega⟩
 have BH:=hid (zo6 D C wy tv.o.1.dm HB.o.2.2);clear ta uX;go_wp2_with (refine pU (by rfl) 101 _ rfl ⟨b0,0,none⟩ rfl D.cD _ tv.o.1.st.part underlying101 rfl tv.o.1.dm.info ?_);refine BH.o.mono ?_;rintro e wT ⟨T,rfl,XH,t1,t2,t3,t4,t5,t6,bT,_⟩;have HT:=ζ XH (show wv D C D.n (qh D) D.q T from ⟨t1,t2,t3,t4,t5,t6⟩);have H1:Hid (St wT 101 b2 (zC 101)/\Below b0 w wT/\b0<=wT.heap.size):=⟨tv.o.2.1.ae bT,tv.o.2.2.1.trans (bT.mono tv.o.2.2.2),by have:=tv.o.2.2.2;have:=bT.size;omega⟩
 obtain⟨k,fW,uS⟩:=zmW (HT.o.2.ld HB.o.2.2);have HOr:=hid (zg6 T C _ k rfl fW uS wT HT.o.1 (HT.o.2.ld HB.o.2.2));have Hlk:=ζ fW uS;clear XH t1 t2 t3 t4 t5 t6 bT BH fW uS;go_wp2_with fail;refine HOr.o.mono ?_;rintro e wO ⟨O,rfl,Yf,t1,t2,t3,t4,t5,t6,bO,_⟩;have HO:=ζ Yf (Qk.made HB.o.2.2 HT.o.2 rfl Hlk.o.1 Hlk.o.2 ⟨t1,t2,t3,t4,t5,t6⟩);have H2:Hid (St wO 101 b2 (zC 101)/\Below b0 w wO/\b0<=wO.heap.size):=⟨H1.o.1.ae bO,H1.o.2.1.trans (bO.mono H1.o.2.2),by have:=H1.o.2.2;have:=bO.size;omega⟩
 clear Yf t1 t2 t3 t4 t5 t6 bO HOr;have jB:=hid (St.new wO 101 (zC 101));have H3:Hid (dD ((wO.alloc (.cells (zC 101) 101)).setRow wO.heap.size O.cD) wO.heap.size O/\Below wO.heap.size wO ((wO.alloc (.cells (zC 101) 101)).setRow wO.heap.size O.cD)):=
  ⟨dD.stored HO.o.2.r (HO.o.1.below (al _ _)) (St.new _ _ _),nY (al _ _) (le_refl _) _⟩
 go_upto_region 4 with (first
  | (refine tq rfl 101 rfl (zC 101) (o8 _) ?_)
  | (refine qD rfl 101 _ _ rfl wO.heap.size 101 (zC 101) O.cD rfl rfl jB.o (by rw[kr,HO.o.1.sz]) (by rw[iN,HO.o.1.sz]) HO.o.1.one ?_))
 simp only[put,sA];obtain⟨b4,fV⟩:=Ξ wO.heap.size
 rw[fV] at H3;rw[fV];generalize (wO.alloc (.cells (zC 101) 101)).setRow b4 O.cD=V at H3⊢;have H4:Hid (St V 101 b2 (zC 101)/\Below b0 w V/\b0<=V.heap.size):=by
  have h:=H3.o.2;have hs:=h.size;rw[<-fV] at h;exact⟨H2.o.1.ae h,H2.o.2.1.trans (h.mono H2.o.2.2),by have:=H2.o.2.2;omega⟩
 clear fV jB;have eh:Hid (∀W',Below V.heap.size V W'->Below V.heap.size V W'/\dD W' b4 O):=fun W' h=>⟨h,H3.o.1.ae h⟩
 go_cut [5] from 13 to 17 (fun v wx=>∃(b5:Nat) (P:Dd) (C':Nat),v=.pointer (some ⟨b5,0,none⟩)/\dD wx b5 P/\xU O P C C'/\Below V.heap.size V wx)
 case first=>
  refine wp_region_held_drew (S:=fun W'=>Below V.heap.size V W'/\dD W' b4 O) (by kernel_rfl) (eh.o _ (Below.refl _ _).drew) (fun η=>?_)
  (refine ay 0 (v:=.agg O.cD) ?_ (hy:=by intro wz hSw;exact EZ (o:=_) (ρ:=_) wz 101 (.tmp 4) rfl ⟨b4,0,none⟩ rfl O.cD _ (dD.st (And.right hSw)).part underlying101 rfl (dD.dm (And.right hSw)).info))
  (refine ay 1 (v:=.agg O.cD) ?_ (hy:=by intro wz hSw;exact EZ (o:=_) (ρ:=_) wz 101 (.tmp 4) rfl ⟨b4,0,none⟩ rfl O.cD _ (dD.st (And.right hSw)).part underlying101 rfl (dD.dm (And.right hSw)).info);try simp only[put,sA])
  refine wpAnyH_ready (rs:=[2,5]) (by kernel_rfl) (by simp) ?_;refine jn (fun K hK=>?_) ?_
  ·skip;go_simp;go_at_call 102;refine (Vw O C HO.o.2.r _ η.2.dm).mono ?_;rintro e w8 ⟨f,B,aB,cB,rfl,ho,Io,vv⟩;have bQ:Below V.heap.size V w8:=η.1.trans (vv.mono η.1.size);have HK:=ζ (Xx ho) Io;clear ho Io vv
   try go_wp2_with fail
   refine hK.out _ _ (eh.o _ bQ) fun η=>?_;clear hK K
   try simp only[put,sA]
   clear bQ;refine wpAnyH_ready (rs:=[3,5]) (by kernel_rfl) (by simp) ?_;refine jn (fun K hK=>?_) ?_
   ·skip;go_simp;go_at_call 101;refine (Qx O C HO.o.2.r _ f B HK.o.2 aB cB _ η.2.dm HK.o.1).mono ?_;rintro e w9 ⟨M,rfl,CJ,t1,t2,t3,t4,t5,t6,vv,_⟩;have bQ:Below V.heap.size V w9:=η.1.trans (vv.mono η.1.size);have pr:=ζ CJ (show zU O C f B M from ⟨t1,t2,t3,t4,t5,t6⟩);clear CJ t1 t2 t3 t4 t5 t6 vv
    try go_wp2_with fail
    refine hK.out _ _ (eh.o _ bQ) fun η=>?_;clear hK K
    try simp only[put,sA]
    clear bQ;refine wpAnyH_ready (rs:=[4,5]) (by kernel_rfl) (by simp) ?_;refine jn (fun K hK=>?_) ?_
    ·skip;go_simp;go_at_call 100;refine (Oe M C (pr.o.2.right HO.o.2.r HK.o.2) _ pr.o.1).mono ?_;rintro e pP ⟨P,g,C',rfl,yq,zr,uG,vv⟩;have bQ:Below V.heap.size V pP:=η.1.trans (vv.mono η.1.size);have la:=ζ yq (show xU O P C C' from ⟨f,B,M,g,HK.o.2,pr.o.2,zr,uG⟩);clear yq zr uG vv
     try go_wp2_with fail
     refine hK.out _ _ (eh.o _ bQ) fun η=>?_;clear hK K
     try simp only[put,sA]
     clear bQ;refine bH 5 (fun K hK=>?_);skip;refine Gw (by rfl) 101 (by rfl) (zC 101) (o8 _) ?_;have kk:=al pP (.cells (zC 101) 101);have bQ:Below V.heap.size V (pP.alloc (.cells (zC 101) 101)):=η.1.trans (kk.mono η.1.size);have la:=ζ (la.o.1.below kk) la.o.2;have H7:Hid (St (pP.alloc (.cells (zC 101) 101)) 101 pP.heap.size (zC 101)/\V.heap.size<=pP.heap.size):=(⟨St.new _ _ _,η.1.size⟩);refine hK.out _ _ (eh.o _ bQ) fun η=>?_;clear hK K
     try simp only[put,sA]
     try simp only[lj]
     clear kk;generalize (pP.alloc (.cells (zC 101) 101))=V7 at H7 la η bQ⊢;refine bH 6 (fun K hK=>?_);skip;refine GV (by rfl) 101 _ _ (by rfl) pP.heap.size 101 (zC 101) P.cD (by rfl) (by rfl) H7.o.1 (by rw[kr,la.o.1.sz]) (by rw[iN,la.o.1.sz]) la.o.1.one ?_;have HE:=ξ (dD.stored (la.o.2.right HO.o.2.r) la.o.1 H7.o.1) la.o.2 (nY η.1 H7.o.2 P.cD);refine hK.out _ _ (eh.o _ HE.o.2.2) fun η=>?_;clear hK K
     try simp only[put,sA]
     refine wpAnyH_done (by kernel_rfl) ?_ _;clear η;go_wp2_with fail
     go_meet
     exact⟨_,P,C',rfl,HE.o⟩
    refine jn (fun K hK=>?_) ?_
    ·skip;refine Gw (by rfl) 101 (by rfl) (zC 101) (o8 _) ?_;have kk:=al w9 (.cells (zC 101) 101);have bQ:Below V.heap.size V (w9.alloc (.cells (zC 101) 101)):=η.1.trans (kk.mono η.1.size);have pr:=ζ (pr.o.1.below kk) pr.o.2;have H7:Hid (St (w9.alloc (.cells (zC 101) 101)) 101 w9.heap.size (zC 101)/\V.heap.size<=w9.heap.size):=(⟨St.new _ _ _,η.1.size⟩);refine hK.out _ _ (eh.o _ bQ) fun η=>?_;clear hK K
     try simp only[put,sA]
     try simp only[lj]
     clear kk;generalize (w9.alloc (.cells (zC 101) 101))=V7 at H7 pr η bQ⊢;refine bH 4 (fun K hK=>?_);skip;go_simp;go_at_call 100;refine (Oe M C (pr.o.2.right HO.o.2.r HK.o.2) _ pr.o.1).mono ?_;rintro e pP ⟨P,g,C',rfl,yq,zr,uG,vv⟩;have H7:Hid (St pP 101 w9.heap.size (zC 101)/\V.heap.size<=w9.heap.size):=(⟨H7.o.1.ae vv,H7.o.2⟩);have bQ:Below V.heap.size V pP:=η.1.trans (vv.mono η.1.size);have la:=ζ yq (show xU O P C C' from ⟨f,B,M,g,HK.o.2,pr.o.2,zr,uG⟩);clear yq zr uG vv
     try go_wp2_with fail
     refine hK.out _ _ (eh.o _ bQ) fun η=>?_;clear hK K
     try simp only[put,sA]
     clear bQ;refine bH 6 (fun K hK=>?_);skip;refine GV (by rfl) 101 _ _ (by rfl) w9.heap.size 101 (zC 101) P.cD (by rfl) (by rfl) H7.o.1 (by rw[kr,la.o.1.sz]) (by rw[iN,la.o.1.sz]) la.o.1.one ?_;have HE:=ξ (dD.stored (la.o.2.right HO.o.2.r) la.o.1 H7.o.1) la.o.2 (nY η.1 H7.o.2 P.cD);refine hK.out _ _ (eh.o _ HE.o.2.2) fun η=>?_;clear hK K
     try simp only[put,sA]
     refine wpAnyH_done (by kernel_rfl) ?_ _;clear η;go_wp2_with fail
     go_meet
     exact⟨_,P,C',rfl,HE.o⟩
    exact AllReadyH.nil
   refine jn (fun K hK=>?_) ?_
   ·skip;refine Gw (by rfl) 101 (by rfl) (zC 101) (o8 _) ?_;have kk:=al w8 (.cells (zC 101) 101);have bQ:Below V.heap.size V (w8.alloc (.cells (zC 101) 101)):=η.1.trans (kk.mono η.1.size);have HK:=ζ (HK.o.1.below kk) HK.o.2;have H7:Hid (St (w8.alloc (.cells (zC 101) 101)) 101 w8.heap.size (zC 101)/\V.heap.size<=w8.heap.size):=(⟨St.new _ _ _,η.1.size⟩);refine hK.out _ _ (eh.o _ bQ) fun η=>?_;clear hK K
    try simp only[put,sA]
    try simp only[lj]
    clear kk;generalize (w8.alloc (.cells (zC 101) 101))=V7 at H7 HK η bQ⊢;refine bH 3 (fun K hK=>?_);skip;go_simp;go_at_call 101;refine (Qx O C HO.o.2.r _ f B HK.o.2 aB cB _ η.2.dm HK.o.1).mono ?_;rintro e w9 ⟨M,rfl,CJ,t1,t2,t3,t4,t5,t6,vv,_⟩;have H7:Hid (St w9 101 w8.heap.size (zC 101)/\V.heap.size<=w8.heap.size):=(⟨H7.o.1.ae vv,H7.o.2⟩);have bQ:Below V.heap.size V w9:=η.1.trans (vv.mono η.1.size);have pr:=ζ CJ (show zU O C f B M from ⟨t1,t2,t3,t4,t5,t6⟩);clear CJ t1 t2 t3 t4 t5 t6 vv
    try go_wp2_with fail
    refine hK.out _ _ (eh.o _ bQ) fun η=>?_;clear hK K
    try simp only[put,sA]
    clear bQ;refine bH 4 (fun K hK=>?_);skip;go_simp;go_at_call 100;refine (Oe M C (pr.o.2.right HO.o.2.r HK.o.2) _ pr.o.1).mono ?_;rintro e pP ⟨P,g,C',rfl,yq,zr,uG,vv⟩;have H7:Hid (St pP 101 w8.heap.size (zC 101)/\V.heap.size<=w8.heap.size):=(⟨H7.o.1.ae vv,H7.o.2⟩);have bQ:Below V.heap.size V pP:=η.1.trans (vv.mono η.1.size);have la:=ζ yq (show xU O P C C' from ⟨f,B,M,g,HK.o.2,pr.o.2,zr,uG⟩);clear yq zr uG vv
    try go_wp2_with fail
    refine hK.out _ _ (eh.o _ bQ) fun η=>?_;clear hK K
    try simp only[put,sA]
    clear bQ;refine bH 6 (fun K hK=>?_);skip;refine GV (by rfl) 101 _ _ (by rfl) w8.heap.size 101 (zC 101) P.cD (by rfl) (by rfl) H7.o.1 (by rw[kr,la.o.1.sz]) (by rw[iN,la.o.1.sz]) la.o.1.one ?_;have HE:=ξ (dD.stored (la.o.2.right HO.o.2.r) la.o.1 H7.o.1) la.o.2 (nY η.1 H7.o.2 P.cD);refine hK.out _ _ (eh.o _ HE.o.2.2) fun η=>?_;clear hK K
    try simp only[put,sA]
    refine wpAnyH_done (by kernel_rfl) ?_ _;clear η;go_wp2_with fail
    go_meet
    exact⟨_,P,C',rfl,HE.o⟩
   exact AllReadyH.nil
  refine jn (fun K hK=>?_) ?_
  ·skip;refine Gw (by rfl) 101 (by rfl) (zC 101) (o8 _) ?_;have kk:=al V.drew (.cells (zC 101) 101);have bQ:Below V.heap.size V (V.drew.alloc (.cells (zC 101) 101)):=η.1.trans (kk.mono η.1.size);have H7:Hid (St (V.drew.alloc (.cells (zC 101) 101)) 101 V.heap.size (zC 101)/\V.heap.size<=V.heap.size):=(⟨St.new _ _ _,η.1.size⟩);refine hK.out _ _ (eh.o _ bQ) fun η=>?_;clear hK K
   try simp only[put,sA]
   try simp only[lj]
   clear kk;generalize (V.drew.alloc (.cells (zC 101) 101))=V7 at H7 η bQ⊢;refine bH 2 (fun K hK=>?_);skip;go_simp;go_at_call 102;refine (Vw O C HO.o.2.r _ η.2.dm).mono ?_;rintro e w8 ⟨f,B,aB,cB,rfl,ho,Io,vv⟩;have H7:Hid (St w8 101 V.heap.size (zC 101)/\V.heap.size<=V.heap.size):=(⟨H7.o.1.ae vv,H7.o.2⟩);have bQ:Below V.heap.size V w8:=η.1.trans (vv.mono η.1.size);have HK:=ζ (Xx ho) Io;clear ho Io vv
   try go_wp2_with fail
   refine hK.out _ _ (eh.o _ bQ) fun η=>?_;clear hK K
   try simp only[put,sA]
   clear bQ;refine bH 3 (fun K hK=>?_);skip;go_simp;go_at_call 101;refine (Qx O C HO.o.2.r _ f B HK.o.2 aB cB _ η.2.dm HK.o.1).mono ?_;rintro e w9 ⟨M,rfl,CJ,t1,t2,t3,t4,t5,t6,vv,_⟩;have H7:Hid (St w9 101 V.heap.size (zC 101)/\V.heap.size<=V.heap.size):=(⟨H7.o.1.ae vv,H7.o.2⟩);have bQ:Below V.heap.size V w9:=η.1.trans (vv.mono η.1.size);have pr:=ζ CJ (show zU O C f B M from ⟨t1,t2,t3,t4,t5,t6⟩);clear CJ t1 t2 t3 t4 t5 t6 vv
   try go_wp2_with fail
   refine hK.out _ _ (eh.o _ bQ) fun η=>?_;clear hK K
   try simp only[put,sA]
   clear bQ;refine bH 4 (fun K hK=>?_);skip;go_simp;go_at_call 100;refine (Oe M C (pr.o.2.right HO.o.2.r HK.o.2) _ pr.o.1).mono ?_;rintro e pP ⟨P,g,C',rfl,yq,zr,uG,vv⟩;have H7:Hid (St pP 101 V.heap.size (zC 101)/\V.heap.size<=V.heap.size):=(⟨H7.o.1.ae vv,H7.o.2⟩);have bQ:Below V.heap.size V pP:=η.1.trans (vv.mono η.1.size);have la:=ζ yq (show xU O P C C' from ⟨f,B,M,g,HK.o.2,pr.o.2,zr,uG⟩);clear yq zr uG vv
   try go_wp2_with fail
   refine hK.out _ _ (eh.o _ bQ) fun η=>?_;clear hK K
   try simp only[put,sA]
   clear bQ;refine bH 6 (fun K hK=>?_);skip;refine GV (by rfl) 101 _ _ (by rfl) V.heap.size 101 (zC 101) P.cD (by rfl) (by rfl) H7.o.1 (by rw[kr,la.o.1.sz]) (by rw[iN,la.o.1.sz]) la.o.1.one ?_;have HE:=ξ (dD.stored (la.o.2.right HO.o.2.r) la.o.1 H7.o.1) la.o.2 (nY η.1 H7.o.2 P.cD);refine hK.out _ _ (eh.o _ HE.o.2.2) fun η=>?_;clear hK K
   try simp only[put,sA]
   refine wpAnyH_done (by kernel_rfl) ?_ _;clear η;go_wp2_with fail
   go_meet
   exact⟨_,P,C',rfl,HE.o⟩
  exact AllReadyH.nil
 case rest=>
  obtain⟨b5,P,C',rfl,ML,Pv,Lo⟩:=hcut;have HP:=ξ ML Pv Lo;have H5:Hid (St wc 101 b2 (zC 101)/\Below b0 w wc/\b0<=wc.heap.size):=⟨H4.o.1.ae Lo,H4.o.2.1.trans (Lo.mono H4.o.2.2),by have:=H4.o.2.2;have:=Lo.size;omega⟩
  obtain⟨k2,yz,Dg⟩:=zmW (HP.o.2.1.right HO.o.2.r);have HOr:=hid (zg6 P C' _ k2 rfl yz Dg wc HP.o.1.dm (HP.o.2.1.right HO.o.2.r));have ES:=ζ yz Dg;clear ML Pv Lo yz Dg;go_wp2_with (refine pU (by rfl) 101 _ rfl ⟨b5,0,none⟩ rfl P.cD _ HP.o.1.st.part underlying101 rfl HP.o.1.dm.info ?_);refine HOr.o.mono ?_;rintro e wX ⟨X,rfl,Tb,t1,t2,t3,t4,t5,t6,bX,_⟩;have HX:=hid (xU.mn HO.o.2.r HP.o.2.1 rfl ES.o.1 ES.o.2 (X:=X) ⟨t1,t2,t3,t4,t5,t6⟩);have O1:=hid Tb;have xk:Hid (X.n<=D.n):=by have h1:=HP.o.2.1.le;have h2:=HO.o.2.le;have h3:=ES.o.2;show X.n<=D.n;omega
  have gq:=hid (H5.o.1.ae bX);have HF:Hid (Yy D w (.returned (.tuple #[.agg X.cD,.int .i64 0])) (wX.setRow b2 X.cD)):=by
   have hb:Below w.heap.size w wX:=by
    have h:=H5.o.2.1.trans (bX.mono H5.o.2.2);rw[Hb.o.1];exact h
   refine⟨X,C',rfl,(dD.stored HX.o.1 Tb gq.o).dm,HX.o.1,HX.o.2.trans HO.o.2.JY,xk.o,nY hb (by have:=Hb.o.2;omega) _⟩
  clear Tb t1 t2 t3 t4 t5 t6 bX HOr;go_wp2_with (refine qD rfl 101 _ _ rfl b2 101 (zC 101) X.cD rfl rfl gq.o (by rw[kr,O1.o.sz]) (by rw[iN,O1.o.sz]) O1.o.one ?_);refine bodyPost_ret (ER rfl _ _ b2 X.cD _ rfl gq.o.setRow.part underlying101 rfl (by rw[iN,O1.o.sz])) rfl ?_;exact HF.o
