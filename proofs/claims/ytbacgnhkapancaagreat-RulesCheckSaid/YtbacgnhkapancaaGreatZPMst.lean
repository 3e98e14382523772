import Derived.Test.YtbacgnhkapancaaGreatZMUniq
import Derived.Test.YtbacgnhkapancaaGreatZPBy
import Derived.Laws.MakeOwn
set_option linter.all false
set_option maxHeartbeats 4000000
set_option maxRecDepth 100000
open Go.Lib (hid)
namespace Go.Proofs.YtbacgnhkapancaaGreat
open Go.RowKit Go.Maps Go.WideElems Go.ChangeMaps Go.MapKept Go.Proofs.Tryz
open Act (put)
open Nat (le_refl)
open List (getD_eq_getElem?_getD getElem?_eq_getElem map_append range replicate)
variable {W0 w1:World}{bM:Nat}{nm:List Nat}
theorem Na(n:Nat)(hn:n<=1000000)(W:World):(Instr.makeSlice 30 (.int .i64 0) (.int .i64 (n:Int))).run prog W=.ok (.slice (some ⟨W.heap.size,0,none⟩) 0 n) (W.alloc (.cells (madeCells #[.int .i64 0] n) 3)):=by
 obtain⟨i0,hi,du,cH,ct⟩:=info_parts az;have h:=run_makeSlice (P:=prog) W 30 3 i0 (.int .i64 0) underlying30 hi du .i64 .i64 0 (n:Int) (by omega) (by omega) (by rw[cH];simp;omega) (by rw[ct];omega) (by omega);have e:(Value.int .i64 0).cells=#[.int .i64 0]:=rfl;rw[cH,e] at h;simpa using h
def dP(w:World)(k:TypeId)(b n:Nat)(Q:Value->Value->Prop):Prop:=
 ∃es clock,w.heap[b]?=some (.map es clock)/\Fit prog k fy es clock/\es.size=n/\(∀e∈es.toList,Q e.key e.val)/\∀x y,Q x y->∃e∈es.toList,e.key=x
theorem dP.ex{w:World}{k:TypeId}{b n:Nat}{Q:Value->Value->Prop}(h:dP w k b n Q):aO w k b n Q:=by
 obtain⟨es,clock,h1,h2,h3,h4⟩:=h;exact⟨es,clock,h1,h2,by omega,h4⟩
theorem dP.made(w:World)(k:TypeId)(Q:Value->Value->Prop)(h0:∀x y,¬Q x y):dP (w.alloc (.map #[] 0)) k w.heap.size 0 Q:=
 ⟨#[],0,(MapKept.heap_alloc w _).1,⟨by simp,stamped_empty 0,by simp⟩,rfl,by simp,fun x y h=>absurd h (h0 x y)⟩
theorem dP.lt{w:World}{k:TypeId}{b n:Nat}{Q:Value->Value->Prop}(h:dP w k b n Q):b<w.heap.size:=h.ex.lt
theorem dP.same{w w':World}{k:TypeId}{b n:Nat}{Q:Value->Value->Prop}(h:dP w k b n Q)(e:w'.heap[b]?=w.heap[b]?):dP w' k b n Q:=by
 obtain⟨es,clock,hb,r⟩:=h;exact⟨es,clock,e.trans hb,r⟩
theorem dP.ae{w w':World}{B t' size n k b N:Nat}{v:Value}{xs:List Value}{Q:Value->Value->Prop}(h:dP w k b N Q)(ho:w.ownsRow B t' size v n xs)(hg:w.grownBy w' v.ownBlock):dP w' k b N Q:=by
 refine h.same (hg.block b h.lt (fun e=>?_));obtain⟨c,fz,hc⟩:=pL ho b e.symm;obtain⟨es,clock,hb,_⟩:=h;rw[hc] at hb;cases hb
theorem dP.len{w:World}{k t ty:TypeId}{b n:Nat}{Q:Value->Value->Prop}(h:dP w k b n Q)(ht:prog.underlying t=some (.map (prog.mapKeyOf t) (prog.mapElemOf t))):(Builtin.len_ #[t] ty #[.map (some b)]).run prog w=.ok (.int .i64 (n:Int)) w:=by
 obtain⟨es,clock,hb,_,hs,_⟩:=h;rw[Go.run_len_map w t ty b es clock ht hb,hs];rfl
theorem dP.update{w:World}{k t e:TypeId}{b n:Nat}{Q Q':Value->Value->Prop}(h:dP w k b n Q)(K:Keyed prog k)(ht:prog.underlying t=some (.map k e))(hn:n<maxLen)
  {key val:Value}{kl:Lit}(dX:keyOf prog k key=some kl) (kh:∀y,¬Q key y) (hQ:∀x y,Q x y->Q' x y) (hv:Q' key val) (nj:∀x y,Q' x y->x≠key->∃y',Q x y'):
  ∃w',(Instr.mapUpdate t (.map (some b)) key val).run prog w=.ok () w'/\dP w' k b (n+1) Q'/\w.grownBy w' (some b):=by
 obtain⟨es,clock,hb,F,hs,hq,eb⟩:=h;have gW:∀x∈es.toList,x.key≠key:=fun x hx e0=>kh x.val (by rw[<-e0];exact hq x hx)
 obtain⟨F1,_,_⟩:=F.stay (R':=fy) (fun x hx z hz=>hz);have oC:WideElems.rd prog k fy ⟨key,val,clock⟩=some (kl,.held val):=by unfold WideElems.rd fy;rw[dX];rfl
 rcases K.find w dX es.toList F.keys with ⟨h1,h2⟩|⟨j,e0,h1,h2,h3⟩
 ·refine⟨setBlock w b (.map (es.push ⟨key,val,clock⟩) (clock+1)),?_,⟨es.push ⟨key,val,clock⟩,clock+1,heap_setBlock_same hb _,⟨by simp;omega,stamped_push F.stamped h2,?_⟩,by simp;omega,fun x hx=>?_,fun x y hx=>?_⟩,⟨rfl,rfl,rfl,by simp[setBlock],fun i _ hi=>heap_setBlock_other hb _ (fun e=>hi (by rw[e]))⟩⟩
  ·simp[Instr.mapUpdate,run_underlying ht,MapKept.run_getObj_map hb,K.check w false dX,h1,MapKept.run_setObj_map _ hb,Result.andThen,setBlock]
  ·intro x hx;simp only[Array.toList_push,List.mem_append,List.mem_singleton] at hx;rcases hx with hx|rfl
   ·exact F1.reads x hx
   exact⟨_,oC⟩
  ·simp only[Array.toList_push,List.mem_append,List.mem_singleton] at hx;rcases hx with hx|rfl
   ·exact hQ _ _ (hq x hx)
   exact hv
  by_cases e0:x=key
  ·exact⟨⟨key,val,clock⟩,by rw[Array.toList_push];exact List.mem_append_right _ (List.mem_singleton.2 rfl),e0.symm⟩
  obtain⟨y',hy⟩:=nj x y hx e0;obtain⟨e1,h4,h5⟩:=eb x y' hy;exact⟨e1,by rw[Array.toList_push];exact List.mem_append_left _ h4,h5⟩
 exact absurd h3 (gW e0 (List.mem_of_getElem? h2))
theorem Me(n:Nat)(hn:n<=1000000)(W:World)(B:Nat)(hB:B<=W.heap.size):(W.alloc (.cells (madeCells #[.int .i64 0] n) 3)).ownsRow B 3 1 (.slice (some ⟨W.heap.size,0,none⟩) 0 n) 0 []:=
 World.ownsRow_made W _ n hB (by unfold maxLen;omega) (by have:=size_madeCells #[Value.int .i64 0] n;simpa using this)
def zql(l:List Nat)(n:Nat)(w:World)(e:Ending)(w':World):Prop:=
 ∃(f:Nat->Nat) (B:Nat) (a:Option Addr) (c:Nat),e=.returned (.slice a n c)/\w'.ownsRow w.heap.size 3 1 (.slice a n c) n (cO ((range n).map f))/\fD (fun i j=>l.getD i 0=l.getD j 0) n f B/\Below w.heap.size w w'
structure r9 (W0:World)(l:List Nat)(bM k:Nat)(v:Value)(nm:List Nat)(f:Nat->Nat)(w:World):Prop where
 below:Below W0.heap.size W0 w
 map:dP w 3 bM nm.length (zY nm)
 own:w.ownsRow W0.heap.size 3 1 v k (cO ((range k).map f))
 at_:∀i,i<k->nm[f i]?=some (l.getD i 0)
 num:fD (fun i j=>l.getD i 0=l.getD j 0) k f nm.length
 lo:W0.heap.size<=bM
 nk:nm.length<=k
theorem r9.mem{w:World}{l:List Nat}{k:Nat}{v:Value}{f:Nat->Nat}(h:r9 W0 l bM k v nm f w)(y:Nat):y∈nm↔∃i,i<k/\l.getD i 0=y:=by
 constructor
 ·intro hm;obtain⟨b,hb,e⟩:=List.getElem_of_mem hm;obtain⟨i,h1,h2,_⟩:=h.num.new b hb;refine⟨i,h1,?_⟩;have:=h.at_ i h1;rw[h2,getElem?_eq_getElem hb,e] at this;exact (Option.some.inj this).symm
 rintro⟨i,hi,rfl⟩;exact List.mem_of_getElem? (h.at_ i hi)
theorem XB(f:Nat->Nat)(k b:Nat):cO ((range (k+1)).map fun i=>if i=k then b else f i)=cO ((range k).map f)++[.int .i64 (b:Int)]:=by
 rw[List.range_succ,map_append,cO,map_append];congr 1
 ·unfold cO;congr 1;refine List.map_congr_left fun i hi=>?_
  have:=List.mem_range.1 hi;rw[if_neg (by omega)]
 simp
theorem zhw(W:World):(Instr.makeMap 157 none).run prog W=.ok (.map (some W.heap.size)) (W.alloc (.map #[] 0)):=by
 kernel_rfl
theorem r9.look{w:World}{l:List Nat}{k:Nat}{v:Value}{f:Nat->Nat}(h:r9 W0 l bM k v nm f w)(hk:l.getD k 0<=1000000):
  (∃b,nm[b]?=some (l.getD k 0)/\(Instr.lookup 157 (.map (some bM)) (.int .i64 ((l.getD k 0:Nat):Int)) true).run prog w=.ok (.tuple #[.int .i64 ((b:Nat):Int),.bool true]) w)\/
  (l.getD k 0∉nm/\(Instr.lookup 157 (.map (some bM)) (.int .i64 ((l.getD k 0:Nat):Int)) true).run prog w=.ok (.tuple #[.int .i64 0,.bool false]) w):=by
 rcases h.map.ex.np yK underlying157 (Mt w) (CL _ (by omega:l.getD k 0<=9223372036854775807)) with ⟨cj,gW⟩|⟨v,⟨b,s,h1,h2,rfl⟩,cj⟩
 ·refine Or.inr ⟨fun hm=>?_,cj⟩;obtain⟨b,hb,e⟩:=List.getElem_of_mem hm;exact gW _ ⟨b,l.getD k 0,by rw[getElem?_eq_getElem hb,e],rfl,rfl⟩
 exact Or.inl ⟨b,by rw[F0 h2];exact h1,cj⟩
theorem r9.ab{w:World}{l:List Nat}{k:Nat}{v:Value}{f:Nat->Nat}(h:r9 W0 l bM k v nm f w)(kk:Below w.heap.size w w1):r9 W0 l bM k v nm f w1:=
 ⟨h.below.trans (kk.mono h.below.size),h.map.same (kk.block _ h.map.lt),cW h.own kk,h.at_,h.num,h.lo,h.nk⟩
theorem r9.lf{w w':World}{l:List Nat}{k b:Nat}{v v':Value}{f:Nat->Nat}(h:r9 W0 l bM k v nm f w)(hb:nm[b]?=some (l.getD k 0))
  (ho:w'.ownsRow W0.heap.size 3 1 v' (k+1) (cO ((range k).map f)++[.int .i64 (b:Int)])) (hg:w.grownBy w' v.ownBlock):∃f',r9 W0 l bM (k+1) v' nm f' w':=by
 have gk:b<nm.length:=(List.getElem?_eq_some_iff.1 hb).1;obtain⟨i,h1,h2,_⟩:=h.num.new b gk;have hi:=h.at_ i h1;rw[h2,hb] at hi;have hi:=Option.some.inj hi;refine⟨fun j=>if j=k then b else f j,fC h.below h.own h.below.size hg,h.map.ae h.own hg,by rw[XB];exact ho,fun j hj=>?_,?_,h.lo,by have:=h.nk;omega⟩
 ·by_cases e:j=k
  ·simp only[if_pos e];rw[e];exact hb
  simp only[if_neg e];exact h.at_ j (by omega)
 have:=h.num.lf (fun i j e=>e.symm) (fun i j l e e2=>e.trans e2) (fun i=>rfl) h1 hi.symm;rw[h2] at this;exact this
theorem r9.fresh{w w':World}{l:List Nat}{k:Nat}{v v':Value}{f:Nat->Nat}(h:r9 W0 l bM k v nm f w)(hb:l.getD k 0∉nm)(hm:dP w1 3 bM (nm.length+1) (zY (nm++[l.getD k 0])))(lE:w.grownBy w1 (some bM))
  (w2:World) (k2:Below w1.heap.size w1 w2) (hg:w2.grownBy w' v.ownBlock) (ho:w'.ownsRow W0.heap.size 3 1 v' (k+1) (cO ((range k).map f)++[.int .i64 (nm.length:Int)])):∃f',r9 W0 l bM (k+1) v' (nm++[l.getD k 0]) f' w':=by
 have l8:Below W0.heap.size W0 w1:=h.below.grown lE h.below.size (fun g e=>by injection e with e;rw[<-e];exact h.lo);have mK:=l8.trans (k2.mono l8.size);have o2:=cW (wI h.own h.map.ex.of lE) k2;have m2:=hm.same (k2.block _ hm.lt);refine⟨fun j=>if j=k then nm.length else f j,fC mK o2 mK.size hg,by rw[List.length_append];exact m2.ae o2 hg,by rw[XB];exact ho,fun j hj=>?_,?_,h.lo,by have:=h.nk;simp;omega⟩
 ·by_cases e:j=k
  ·simp only[if_pos e];rw[e];simp
  simp only[if_neg e];have:=h.at_ j (by omega);rw[List.getElem?_append_left (List.getElem?_eq_some_iff.1 this).1];exact this
 have:=h.num.fresh (fun i j e=>e.symm) (fun i=>rfl) (fun i hi e=>hb ((h.mem _).2 ⟨i,hi,e⟩));rw[List.length_append];exact this
theorem zpm{w:World}{x:Nat}(h:dP w 3 bM nm.length (zY nm))(hx:x<=1000000)(hn:nm.length<maxLen)(hb:x∉nm):
  ∃w',(Instr.mapUpdate 157 (.map (some bM)) (.int .i64 (x:Int)) (.int .i64 (nm.length:Int))).run prog w=.ok () w'/\dP w' 3 bM (nm.length+1) (zY (nm++[x]))/\w.grownBy w' (some bM):=by
 refine h.update yK underlying157 hn (CL _ (by omega)) ?_ ?_ ?_ ?_
 ·rintro y ⟨k,s,h1,h2,_⟩;rw[<-F0 h2] at h1;exact hb (List.mem_of_getElem? h1)
 ·rintro a b ⟨k,s,h1,h2,h3⟩;exact⟨k,s,by rw[List.getElem?_append_left (List.getElem?_eq_some_iff.1 h1).1];exact h1,h2,h3⟩
 ·exact⟨nm.length,x,by simp,rfl,rfl⟩
 rintro a b ⟨k,s,h1,h2,h3⟩ hne;by_cases e:k<nm.length
 ·rw[List.getElem?_append_left e] at h1;exact⟨b,k,s,h1,h2,h3⟩
 rw[List.getElem?_append_right (by omega)] at h1;cases hj:k-nm.length with
 | zero=>rw[hj] at h1;simp at h1;exact absurd (by rw[h2,h1]) hne
 | succ j=>rw[hj] at h1;simp at h1
theorem zgA(l:List Nat)(n:Nat)(hl:l.length=n)(hn:n<=100000)(hb:∀x∈l,x<=1000000)(a:Option Addr)(c:Nat)(w:World)(hL:nr w a l):Calls prog 94 #[.slice a n c] w (zql l n w):=by
 have iQ:=zhw;have fu:=Na n (by omega);have HX:=hid (Zz hl (Zz hb hL));clear hl hb hL;go_enter func94,ntmps94;go_upto_region 3 with fail;obtain⟨bM,nD⟩:∃bM,w.heap.size+1=bM:=⟨_,rfl⟩
 obtain⟨b0,aD⟩:∃b0,w.heap.size=b0:=⟨_,rfl⟩
 obtain⟨W2,jY⟩:∃W2,(w.alloc (.cells (madeCells #[.int .i64 0] n) 3)).alloc (.map #[] 0)=W2:=⟨_,rfl⟩
 have cU:(w.alloc (.cells (madeCells #[.int .i64 0] n) 3)).heap.size=bM:=by rw[<-nD];simp
 have k1:=al w (.cells (madeCells #[.int .i64 0] n) 3);have k2:=al (w.alloc (.cells (madeCells #[.int .i64 0] n) 3)) (.map #[] 0);have GG:r9 w l bM 0 (.slice (some ⟨b0,0,none⟩) 0 n) [] (fun _=>0) W2:=by
  have hO:=cW (Me n (by omega) w w.heap.size (le_refl _)) k2;rw[jY,aD] at hO;refine⟨by rw[<-jY];exact k1.trans (k2.mono (by simp)),?_,by rw[aD];exact hO,fun i hi=>absurd hi (by omega),fD.zero _,by omega,by simp⟩;have:=dP.made (w.alloc (.cells (madeCells #[.int .i64 0] n) 3)) 3 (zY []) (fun x y h=>by
   obtain⟨k,s,h1,_⟩:=h
   simp at h1)
  rw[jY,cU] at this;exact this
 have r8:=hid GG;clear GG k1 k2
 try rw[nD]
 try rw[jY]
 try rw[aD]
 have Hb:=hid (Zz nD aD);clear nD aD jY cU;go_wp2_with fail;go_loopw [3,6,7,8,15] (fun v3 _ _ _ vk wr=>∃k:Nat,vk=.int .i64 k/\k<=n/\(∃a3 c3,v3=.slice a3 k c3)/\Hid (∃nm f,r9 w l bM k v3 nm f wr)) (fun _ _ _ _ v _=>n-(intOf v).toNat)
 ·exact⟨0,rfl,Nat.zero_le _,⟨_,_,rfl⟩,_,_,r8.out⟩
 obtain⟨k,rfl,hk,⟨a3,c3,rfl⟩,HL⟩:=hrel;by_cases an:k<n
 ·obtain⟨nm,f,hI⟩:=HL.out;obtain⟨g,off,rfl,hg,hc⟩:=HX.out.2.2 (by have:=HX.out.1;omega);have d0:=(hI.below.cell (p:=⟨g,off+k,none⟩) hg).trans (hc k (by have:=HX.out.1;omega));simp only[] at d0;have KE:l.getD k 0<=1000000:=by
   by_cases e:k<l.length
   ·rw[getD_eq_getElem?_getD,getElem?_eq_getElem e];exact HX.out.2.1 _ (List.getElem_mem e)
   rw[getD_eq_getElem?_getD,List.getElem?_eq_none (by omega)];simp
  have dN:=hI.look KE;have i1:(k:Int)<n:=by omega
  have J7:=hI.nk;obtain⟨m,hm⟩:∃m,nm.length=m:=⟨_,rfl⟩
  obtain⟨i0,hi,du,cH,ct⟩:=info_parts az;have sP:=hI.below.size;have HI:=hid hI;have hlen:=hI.map.len (ty:=3) (t:=157) (by rw[underlying157];rfl);rw[hm] at J7 hlen;clear hc hg hI HL;rcases dN with ⟨b,hb,cj⟩|⟨hb,cj⟩
  ·have Hb:=hid hb;clear hlen hb;obtain⟨x,hx⟩:∃x,l.getD k 0=x:=(⟨_,rfl⟩);rw[hx] at d0 cj KE;go_wp2_with (at_builtin;refine wpList_append_own_at _ rfl _ _ 30 rfl w.heap.size 3 i0 (.int .i64 0) 1 8 underlying30 hi du cH ct rfl (by decide) _ _ _ rfl (HI.out.own.alloc _) ⟨wr.heap.size,0,none⟩ 1 1 [.int .i64 (b:Int)] rfl rfl (cell_one_new _ _ _) ?d2 ?d3 ?d4 ?d5 ?_)
   case d2=>first|(intro u hu;simp at hu;subst hu;rfl)|rfl
   case d3=>unfold maxLen;omega
   case d4=>omega
   case d5=>first|(simp;omega)|omega
   intro v' w5 ah ag _ bG;obtain⟨a5,c5,rfl⟩:=bJ ah;have HF:=hid ((HI.out.ab (al wr (.cells #[.int .i64 (b:Int)] 3))).lf Hb.out ah ag);clear ah ag bG;go_wp2;go_roundw
   ·exact⟨k+1,by go_num,by omega,⟨_,_,rfl⟩,nm,HF.out⟩
   simp[intOf];omega
  obtain⟨w1,vJ,iD,lE⟩:=zpm HI.out.map KE (by unfold maxLen;omega) hb;have GI:=hid (Zz hb (Zz iD lE));have AW:=wI HI.out.own HI.out.map.ex.of lE;rw[hm] at vJ;have S5:=(HI.out.below.grown lE sP (fun g e=>by injection e with e;rw[<-e];exact HI.out.lo)).size;clear iD lE hb;obtain⟨x,hx⟩:∃x,l.getD k 0=x:=⟨_,rfl⟩
  rw[hx] at d0 cj KE vJ;go_wp2_with (at_builtin;refine wpList_append_own_at _ rfl _ _ 30 rfl w.heap.size 3 i0 (.int .i64 0) 1 8 underlying30 hi du cH ct rfl (by decide) _ _ _ rfl (AW.alloc _) ⟨w1.heap.size,0,none⟩ 1 1 [.int .i64 (m:Int)] rfl rfl (cell_one_new _ _ _) ?d2 ?d3 ?d4 ?d5 ?_)
  case d2=>first|(intro u hu;simp at hu;subst hu;rfl)|rfl
  case d3=>unfold maxLen;omega
  case d4=>omega
  case d5=>first|(simp;omega)|omega
  intro v' w5 ah ag _ bG;obtain⟨a5,c5,rfl⟩:=bJ ah;have HF:=hid (HI.out.fresh GI.out.1 GI.out.2.1 GI.out.2.2 _ (al w1 (.cells #[.int .i64 (m:Int)] 3)) ag (by rw[hm];exact ah));clear ah ag bG AW;go_wp2;go_roundw
  ·exact⟨k+1,by go_num,by omega,⟨_,_,rfl⟩,_,HF.out⟩
  simp[intOf];omega
 obtain rfl:k=n:=by omega
 obtain⟨nm,f,hI⟩:=HL.out;have HI:=hid hI;clear hI HL;go_wp2;go_ret;exact⟨f,nm.length,a3,c3,rfl,HI.out.own,HI.out.num,HI.out.below⟩
def UY(D:Dd)(C:Nat)(w:World)(e:Ending)(w':World):Prop:=
 ∃(f:Nat->Nat) (B:Nat) (a:Option Addr) (c:Nat),e=.returned (.slice a D.n c)/\w'.ownsRow w.heap.size 3 1 (.slice a D.n c) D.n (cO ((range D.n).map f))/\fD (lj C (tD D) (mD D)) D.n f B/\Below w.heap.size w w'
theorem nr.Gj{w:World}{a:Option Addr}{l:List Nat}(h:nr w a l)(n:Nat)(hn:n<=l.length):nr w a (l.take n):=by
 intro h0;have e:(l.take n).length=n:=by rw[List.length_take];omega
 rw[e] at h0;obtain⟨g,off,e1,hg,hc⟩:=h (by omega);refine⟨g,off,e1,hg,fun j hj=>?_⟩;rw[e] at hj;rw[hc j (by omega)];simp only[];rw[getD_eq_getElem?_getD,getD_eq_getElem?_getD,List.getElem?_take_of_lt hj]
theorem fD.rel{R R':Nat->Nat->Prop}{n B:Nat}{f:Nat->Nat}(h:fD R n f B)(e:∀i j,i<n->j<n->(R i j↔R' i j)):fD R' n f B:=
 ⟨fun i j hi hj=>(h.same i j hi hj).trans (e i j hi hj),h.lt,h.new⟩
theorem Wt(D:Dd)(C:Nat)(hR:DR D C)(w:World)(hD:DM w D):Calls prog 59 #[.agg D.cD] w (UY D C w):=by
 have HB:=hid (Zz (cm.new hD) (Zz (al w (.cells D.cD 39)) hR));clear hD hR;go_enter func59,ntmps59;go_upto_region 1 with fail;generalize w.alloc (.cells D.cD 39)=W0 at HB⊢;obtain⟨b0,aD⟩:∃b0,w.heap.size=b0:=⟨_,rfl⟩
 rw[aD] at HB;rw[aD];have cP:=hid aD;have qH:b0<=W0.heap.size:=by have:=HB.out.2.1.size;omega
 clear aD;have qK:=hid (D4 D C HB.out.2.2 W0 HB.out.1.dm);go_wp2_with (refine kc (by rfl) 39 _ rfl ⟨b0,0,none⟩ rfl D.cD _ HB.out.1.st.part underlying39 rfl HB.out.1.dm.info ?_);refine qK.out.mono ?_;rintro e w1 ⟨rfl,b1⟩;have H1:=hid (Zz (HB.out.1.ab b1) (HB.out.2.1.trans (b1.mono qH)));have fp:b0<=w1.heap.size:=by have:=b1.size;omega
 have YE:=hid (zhx D C HB.out.2.2 w1 H1.out.1.dm);clear b1 qK;go_wp2_with (refine kc (by rfl) 39 _ rfl ⟨b0,0,none⟩ rfl D.cD _ H1.out.1.st.part underlying39 rfl H1.out.1.dm.info ?_);refine YE.out.mono ?_;rintro e w2 ⟨bl,a,c,rfl,gk,qT,hc,hO,heq,b2⟩;have H2:=hid (Zz (H1.out.1.ab b2) (H1.out.2.trans (b2.mono fp)));have cr:b0<=w2.heap.size:=by have:=b2.size;omega
 have cQ:=HB.out.2.2.n2;have x8:(bl.take D.n).length=D.n:=by rw[List.length_take];omega
 have JP:=hid (zgA (bl.take D.n) D.n x8 (by omega) (fun x hx=>by have:=qT x (List.mem_of_mem_take hx);omega) a c w2 ((si hO gk).Gj D.n (by omega)));have Heq:Hid (∀i j,i<D.n->j<D.n->((bl.take D.n).getD i 0=(bl.take D.n).getD j 0↔lj C (tD D) (mD D) i j)):=by
  show ∀i j,_;intro i j hi hj;rw[<-heq i j (by omega) (by omega)];simp only[getD_eq_getElem?_getD,List.getElem?_take_of_lt hi,List.getElem?_take_of_lt hj]
 have f1:=H2.out.1.f1;have i1:(D.n:Int)<=(c:Int):=by omega
 have gz:D.n<=c:=by omega
 clear b2 YE hO heq qT gk x8;go_wp2_with fail;refine JP.out.mono ?_;rintro e w3 ⟨f,B,a3,c3,rfl,Yd,F9,b3⟩;have HF:Hid (UY D C w (.returned (.slice a3 D.n c3)) w3):=by
  refine⟨f,B,a3,c3,rfl,gE Yd (by rw[cP.out];exact cr),F9.rel Heq.out,?_⟩;rw[cP.out];exact H2.out.2.trans (b3.mono cr)
 clear Yd F9 b3;go_wp2;go_ret;exact HF.out
theorem ziP{w:World}{B n c:Nat}{a:Option Addr}{f:Nat->Nat}(h:w.ownsRow B 3 1 (.slice a n c) n (cO ((range n).map f))):kE w a n (fun i=>((f i:Nat):Int)):=by
 intro h0;obtain⟨g,e,h1,h2,h3⟩:=ep h h0;refine⟨g,0,e,h2,fun j hj=>?_⟩;have:=(h3 j (by omega)).1;rw[Nat.zero_add,this];simp[cO,hj]
def XN(z:Nat->Int)(l:List Nat)(m:Nat)(w:World)(e:Ending)(w':World):Prop:=
 ∃(a:Option Addr) (c:Nat),e=.returned (.slice a m c)/\w'.ownsRow w.heap.size 3 1 (.slice a m c) m (ints (l.map z))/\Below w.heap.size w w'
theorem zll(z:Nat->Int)(l:List Nat)(k:Nat)(hk:k<l.length):ints ((l.take (k+1)).map z)=ints ((l.take k).map z)++[.int .i64 (z (l.getD k 0))]:=by
 rw[List.take_succ_eq_append_getElem hk,map_append,getD_eq_getElem?_getD,getElem?_eq_getElem hk];simp[ints]
theorem Vw(z:Nat->Int)(N:Nat)(l:List Nat)(m:Nat)(hm:l.length=m)(iD:m<=100000)(hN:N<=100000)(hl:∀x∈l,x<N)(a1 a2:Option Addr)(c1 c2:Nat)(w:World)(hZ:kE w a1 N z)(hL:nr w a2 l):
  Calls prog 92 #[.slice a1 N c1,.slice a2 m c2] w (XN z l m w):=by
 have fu:=Na m (by omega);have HX:=hid (Zz hm (Zz hl (Zz hZ hL)));clear hm hl hZ hL;go_enter func92,ntmps92;go_upto_region 2 with fail;obtain⟨b0,aD⟩:∃b0,w.heap.size=b0:=⟨_,rfl⟩
 obtain⟨W2,jY⟩:∃W2,w.alloc (.cells (madeCells #[.int .i64 0] m) 3)=W2:=⟨_,rfl⟩
 have k1:=al w (.cells (madeCells #[.int .i64 0] m) 3);have hO:=Me m (by omega) w w.heap.size (le_refl _);rw[jY] at hO k1;have r8:Hid (Below w.heap.size w W2/\W2.ownsRow w.heap.size 3 1 (.slice (some ⟨b0,0,none⟩) 0 m) 0 (ints ((l.take 0).map z))):=⟨k1,by rw[<-aD];simpa [ints] using hO⟩
 clear hO k1
 try rw[jY]
 try rw[aD]
 have Hb:=hid aD;clear aD jY;go_wp2_with fail;go_loopw [5,7,13] (fun v5 _ vk wr=>∃k:Nat,vk=.int .i64 k/\k<=m/\(∃a c,v5=.slice a k c)/\Hid (Below w.heap.size w wr/\wr.ownsRow w.heap.size 3 1 v5 k (ints ((l.take k).map z)))) (fun _ _ v _=>m-(intOf v).toNat)
 ·exact⟨0,rfl,Nat.zero_le _,⟨_,_,rfl⟩,r8.out⟩
 clear r8;obtain⟨k,rfl,hk,⟨a5,c5,rfl⟩,HL⟩:=hrel;by_cases an:k<m
 ·have hkl:k<l.length:=by have:=HX.out.1;omega
  obtain⟨g,off,rfl,hg,hc⟩:=HX.out.2.2.2 (by omega);have d0:=(HL.out.1.cell (p:=⟨g,off+k,none⟩) hg).trans (hc k hkl);simp only[] at d0;have hx:l.getD k 0<N:=by
   rw[getD_eq_getElem?_getD,getElem?_eq_getElem hkl];exact HX.out.2.1 _ (List.getElem_mem hkl)
  obtain⟨g1,QC,rfl,lE,gz⟩:=HX.out.2.2.1 (by omega);have d1:=(HL.out.1.cell (p:=⟨g1,QC+l.getD k 0,none⟩) lE).trans (gz _ hx);have HE:=hid (zll z l k hkl);have sP:=HL.out.1.size;obtain⟨i0,xk,du,cH,ct⟩:=info_parts az;have i1:(k:Int)<m:=by omega
  clear hc hg gz lE;obtain⟨x,DA⟩:∃x,l.getD k 0=x:=⟨_,rfl⟩
  rw[DA] at d0 d1 hx HE;obtain⟨y,Ev⟩:∃y,z x=y:=⟨_,rfl⟩
  rw[Ev] at d1 HE;clear DA Ev;have i2:(x:Int)<N:=by omega
  have Af:=HL.out.2;go_wp2_with (at_builtin;refine wpList_append_own_at _ rfl _ _ 30 rfl w.heap.size 3 i0 (.int .i64 0) 1 8 underlying30 xk du cH ct rfl (by decide) _ _ _ rfl (Af.alloc _) ⟨wr.heap.size,0,none⟩ 1 1 [.int .i64 y] rfl rfl (cell_one_new _ _ _) ?d2 ?d3 ?d4 ?d5 ?_)
  case d2=>first|(intro u hu;simp at hu;subst hu;rfl)|rfl
  case d3=>unfold maxLen;omega
  case d4=>omega
  case d5=>first|(simp;omega)|omega
  intro v' w5 ah ag _ bG;obtain⟨a6,c6,rfl⟩:=bJ ah;have HF:Hid (Below w.heap.size w w5/\w5.ownsRow w.heap.size 3 1 (.slice a6 (k+1) c6) (k+1) (ints ((l.take (k+1)).map z))):=by
   have k9:=al wr (.cells #[.int .i64 y] 3);exact⟨fC (HL.out.1.trans (k9.mono sP)) (cW HL.out.2 k9) (by simp;omega) ag,by rw[HE.out];first|exact ah|(rw[List.map_take];exact ah)⟩
  clear ah ag bG Af;go_wp2;go_roundw
  ·exact⟨k+1,by go_num,by omega,⟨_,_,rfl⟩,HF.out⟩
  simp[intOf];omega
 obtain rfl:k=m:=by omega
 have HF:Hid (XN z l k w (.returned (.slice a5 k c5)) wr):=by
  have e:l.take k=l:=List.take_of_length_le (by have:=HX.out.1;omega);have h:=HL.out;rw[e] at h;exact⟨a5,c5,rfl,h.2,h.1⟩
 clear HL;go_wp2;go_ret;exact HF.out
def qb(D:Dd)(C:Nat)(f:Nat->Nat)(l:List Nat):List (List Int):=l.map fun i=>(range C).map (kt D f i)
theorem zm7{α:Type}(l:List Nat)(g:Nat->α)(n:Nat)(h:n=l.length):l.map g=(range n).map fun b=>g (l.getD b 0):=by
 subst h;apply List.ext_getElem?;intro i;by_cases hi:i<l.length
 ·simp[getD_eq_getElem?_getD,hi]
 simp[hi]
theorem S4(D:Dd)(C:Nat)(hR:DR D C)(R:Nat->Nat->Prop)(f:Nat->Nat)(B:Nat)(hN:fD R D.n f B)(a:Option Addr)(cp:Nat)(w:World)(hD:DM w D)(hL:kE w a D.n (fun i=>((f i:Nat):Int))):
  Calls prog 58 #[.agg D.cD,.slice a D.n cp] w (C1 D C B (fun b c=>kt D f ((bD f D.n).getD b 0) c) (fun b=>D.q ((bD f D.n).getD b 0)) w):=by
 have cQ:=hR.n2;have cZ:=hR.n1;have jF:=hR.m;have uN:=(hR.jn hD.kl).2;have HB:=hid (Zz (cm.new hD) (Zz (al w (.cells D.cD 39)) (Zz hR (Zz hN hL))));obtain⟨iI,hI,pW,p9,qa⟩:=info_parts az;obtain⟨iV,hV,um,uU,uL⟩:=info_parts ew;clear hD hR hN hL;go_enter func58,ntmps58;go_upto_region 1 with (refine oO rfl 39 rfl (zC 39) (lP _) ?_)
 try simp only[put,List.setIfInBounds_toArray,List.set_cons_zero,List.set_cons_succ,Gb]
 have H0:Hid (cm ((w.alloc (.cells D.cD 39)).alloc (.cells (zC 39) 39)) w.heap.size D/\St ((w.alloc (.cells D.cD 39)).alloc (.cells (zC 39) 39)) 39 (w.heap.size+1) (zC 39)/\Below w.heap.size w ((w.alloc (.cells D.cD 39)).alloc (.cells (zC 39) 39))):=by
  refine⟨HB.out.1.ab (al _ _),?_,HB.out.2.1.trans ((al _ _).mono (by simp))⟩;have:=St.new (w.alloc (.cells D.cD 39)) 39 (zC 39);simpa using this
 generalize (w.alloc (.cells D.cD 39)).alloc (.cells (zC 39) 39)=Wn at H0⊢;obtain⟨b2,cr⟩:∃b2,w.heap.size+1=b2:=⟨_,rfl⟩
 obtain⟨b0,aD⟩:∃b0,w.heap.size=b0:=⟨_,rfl⟩
 rw[cr,aD] at H0;rw[cr,aD];have Hb:=hid (Zz aD cr);clear cr aD;have pg:=hid H0.out.1;have k5:=al Wn (.cells (zC 39) 39);have gV:St (Wn.alloc (.cells (zC 39) 39)) 39 Wn.heap.size (zC 39):=St.new _ _ _;have J4:iK Wn Wn.heap.size D.K C (.slice none 0 0) (qb D C f (bD f 0)) (fun _=>.slice none 0 0) (.slice none 0 0) ((bD f 0).map D.q) ((Wn.alloc (.cells (zC 39) 39)).setRow Wn.heap.size (dE D.K (.slice none 0 0) (.slice none 0 0))):=iK.start (V0:=Wn) (K:=D.K) (C:=C) (ws:=fun _=>.slice none 0 0) (a:=none) (c:=0) (ms:=[]) (World.ownsRow_nil _ _ _ _) rfl k5 gV (le_refl _);have jR:=hid J4;have jk:=hid gV;clear k5 gV J4;go_upto_region 2 with (first
  | (refine pM rfl 36 _ rfl ⟨b0,0,none⟩ rfl (aP D.K) (.array 256 5) pg.out.dC underlying36 rfl (vU D.K) ?_)
  | (refine zw rfl 39 _ rfl #[(0,.agg (aP D.K))] (by first|rfl|kernel_rfl|(go_simp;done)) (.agg (dE D.K (.slice none 0 0) (.slice none 0 0))) (ZM D.K _) ?_)
  | (refine oO rfl 39 rfl (zC 39) (lP _) ?_)
  | (refine l6 rfl 39 _ _ rfl Wn.heap.size 39 (zC 39) (dE D.K (.slice none 0 0) (.slice none 0 0)) rfl rfl jk.out (by rw[ir,mA]) (by rw[fB,mA]) (xr _ _ _ _ _ _ _) ?_))
 simp only[put,sA,sB,sC];obtain⟨b4,eV⟩:∃b4,Wn.heap.size=b4:=⟨_,rfl⟩
 have EJ:=hid eV;rw[eV] at jR;rw[eV];generalize (Wn.alloc (.cells (zC 39) 39)).setRow b4 (dE D.K (.slice none 0 0) (.slice none 0 0))=W4 at jR⊢;clear eV jk;obtain⟨gL,oL,rfl,BK,Bn⟩:=HB.out.2.2.2.2 (by omega);have JD:=hid (Zz BK Bn);clear BK Bn;go_wp2_with fail;go_loopw [6,7,8,9,10,16] (fun _ _ _ _ _ v wr=>∃(i:Nat) (ws:Nat->Value) (aN aK:Option Addr) (p cN cK:Nat),v=.int .i64 i/\i<=D.n/\p<=i/\Hid (p=(bD f i).length/\iK Wn b4 D.K C (.slice aN p cN) (qb D C f (bD f i)) ws (.slice aK p cK) ((bD f i).map D.q) wr)) (fun _ _ _ _ _ v _=>D.n-(intOf v).toNat)
 ·exact⟨0,_,none,none,0,0,0,rfl,by omega,by omega,rfl,jR.out⟩
 clear jR;obtain⟨i,ws,aN,aK,p,cN,cK,rfl,hi,Qv,HP,HT⟩:=hrel;by_cases an:i<D.n
 ·have bY:w.heap.size<=Wn.heap.size:=H0.out.2.2.size;have Xw:Hid (∀W',Below Wn.heap.size Wn W'->∀j,j<D.n->W'.cell? ⟨gL,oL+j,none⟩=some (.int .i64 ((f j:Nat):Int))):=fun W' h j hj=>((H0.out.2.2.trans (h.mono (by rw[<-Hb.out.1];exact bY))).cell (p:=⟨gL,oL+j,none⟩) (by rw[<-Hb.out.1];exact JD.out.1)).trans (JD.out.2 j hj)
  have d0:=Xw.out wr HT.bb i an;have fb:=HT.f1;have zM:=HB.out.2.2.2.1.bD i (by omega);have gP:=zM.2.2 an;rw[<-HP] at gP;have i1:(i:Int)<(D.n:Int):=by omega
  have hp32:p<=32768:=by omega
  have zu:=hid HT;have D5:=hid HP;obtain⟨fi,o9⟩:∃fi,f i=fi:=⟨_,rfl⟩
  rw[o9] at d0 gP;by_cases rG:fi<p
  ·have i2:(fi:Int)<p:=(by omega);have HN:Hid (p=(bD f (i+1)).length/\iK Wn b4 D.K C (.slice aN p cN) (qb D C f (bD f (i+1))) ws (.slice aK p cK) ((bD f (i+1)).map D.q) wr):=by
    rw[CW (by rw[o9,<-HP];exact rG)];exact⟨HP,HT⟩
   clear HP HT zM o9;go_wp2;go_roundw
   ·exact⟨i+1,ws,aN,aK,p,cN,cK,by go_num,by omega,by omega,HN.out⟩
   simp[intOf];omega
  have i2:¬((fi:Int)<p):=by omega
  have Jc:bD f (i+1)=bD f i++[i]:=Cg (by rw[o9,<-HP];exact rG);have HPn:=hid Jc;have hmkr:=JA C (by omega);have zT:=hid (pg.out.ab HT.bb);have f1:=zT.out.f1;obtain⟨gN,oN,eN,lH,qj,zN⟩:=zT.out.dm.row i an;rw[eN] at f1;rw[HB.out.2.2.1.len i an] at qj zN;have z8:=hid eN;have xK:=hid zN;have Ix:=hid (DX wr wr.heap.size C 3 (.int .i64 0) (le_refl _) (by unfold maxLen;omega));have oD:=hid (al wr (.cells (madeCells #[.int .i64 0] C) 3));have VJ:=hid lH;clear HP HT zM eN zN Jc lH;go_upto_region 7 with fail;obtain⟨g,hg⟩:∃g,wr.heap.size=g:=⟨_,rfl⟩
  have j4:Hid ((wr.alloc (.cells (madeCells #[.int .i64 0] C) 3)).ownsRow g 3 1 (.slice (some ⟨g,0,none⟩) C C) C (ints ([]++replicate (C-0) 0))/\Below g wr (wr.alloc (.cells (madeCells #[.int .i64 0] C) 3))):=by
   rw[<-hg];refine⟨?_,oD.out⟩;have:=Ix.out;simpa [ints] using this
  have Hg:=hid hg;have GH:=(oD.out.cell (p:=⟨b0,256,none⟩) zT.out.st.lt).trans f1;have J0:=(oD.out.cell (p:=⟨gN,oN+i,none⟩) VJ.out).trans qj;rw[hg];clear Ix oD hg f1 qj d0 fb;generalize wr.alloc (.cells (madeCells #[.int .i64 0] C) 3)=W6 at j4 GH J0⊢;revert wr;intro wo zu zT xK VJ Hg j4;go_wp2_with fail;go_loopw [9,10,39] (fun _ _ v wq=>∃(k:Nat),v=.int .i64 k/\k<=C/\Hid (wq.ownsRow g 3 1 (.slice (some ⟨g,0,none⟩) C C) C (ints ((range k).map (kt D f i)++replicate (C-k) 0))/\Below g wo wq)) (fun _ _ v _=>C-(intOf v).toNat)
  ·exact⟨0,rfl,by omega,j4⟩
  clear j4 GH J0;obtain⟨k,rfl,hk,HA⟩:=hrel;have kJ:Below wo.heap.size wo wr:=by rw[Hg.out];exact HA.out.2
  by_cases dN:k<C
  ·obtain⟨gA,oA,eA,Bv,mz⟩:=xK.out (by omega);have cA:=(kJ.cell (p:=⟨gA,oA+k,none⟩) Bv).trans (mz k dN);have Hh:=HB.out.2.2.1.nx i k an dN;obtain⟨g',e',_,_,hc'⟩:=ep HA.out.1 (by omega);obtain rfl:g'=g:=by
    injection e' with e';injection e' with e' _;exact e'.symm
   obtain⟨y0,y1⟩:=hc' k (by omega);have hlen:((range k).map (kt D f i)).length=k:=(by simp);have y2:(ints ((range k).map (kt D f i)++replicate (C-k) 0))[k]?=some (.int .i64 0):=by
    have:0<C-k:=(by omega);simp[ints,List.getElem?_append,this]
   rw[y2] at y0;have fo:Hid ((wr.setCell ⟨g',k,none⟩ (.int .i64 (-1))).ownsRow g' 3 1 (.slice (some ⟨g',0,none⟩) C C) C (ints (((range k).map (kt D f i)++[-1])++replicate (C-(k+1)) 0))/\Below g' wo (wr.setCell ⟨g',k,none⟩ (.int .i64 (-1)))):=by
    refine⟨?_,HA.out.2.setCell (p:=⟨g',k,none⟩) (le_refl _) _⟩;have:=uA HA.out.1 k dN (.int .i64 (-1));rwa [Eu _ C k _ hlen dN] at this
   have JZ:Hid (∀v,kt D f i k=v->(range (k+1)).map (kt D f i)=(range k).map (kt D f i)++[v]):=fun v h=>by
    rw[List.range_succ,map_append,List.map_singleton,h]
   have zA:Hid ((D.nx i k=-1->kt D f i k=-1)/\∀x:Nat,D.nx i k=(x:Int)->kt D f i k=((f x:Nat):Int)):=⟨fun h=>by simp[kt,h],fun x h=>by
    unfold kt
    rw[if_neg (by omega),h]
    rfl⟩
   have wM:=hid hlen;have i3:(k:Int)<C:=(by omega);rw[eA];have Hj:=hid eA;have YM:=hid zu.out.bb
   try dsimp only at cA
   clear mz hc' e' y2 hlen eA Bv;generalize D.nx i k=t at cA Hh zA;go_upto_region 11 with fail;generalize wr.setCell ⟨g',k,none⟩ (.int .i64 (-1))=W5 at fo⊢;clear y0 y1 cA kJ;by_cases ht:t=-1
   ·subst ht;have HZ:=hid (JZ.out (-1) (zA.out.1 rfl));go_wp2;go_roundw
    ·exact⟨k+1,by go_num,by omega,by rw[HZ.out];exact fo⟩
    simp[intOf];omega
   obtain⟨x,rfl⟩:∃x:Nat,t=(x:Int):=(⟨t.toNat,by omega⟩);have jq:x<D.n:=(by omega);have ld:((x:Int) != (-1:Int))=true:=(by first|(simp;done)|(simp;omega));have i4:(x:Int)<(D.n:Int):=(by omega);have dx:=Xw.out W5 (YM.out.trans (fo.out.2.mono (by rw[<-Hg.out];exact YM.out.size))) x jq;have HZ:=hid (JZ.out _ (zA.out.2 x rfl));generalize f x=r at dx HZ;obtain⟨g2,e2,_,_,fH⟩:=ep fo.out.1 (by omega);obtain rfl:g2=g':=by
    injection e2 with e2;injection e2 with e2 _;exact e2.symm
   obtain⟨y0,y1⟩:=fH k (by omega);have y2:(ints (((range k).map (kt D f i)++[-1])++replicate (C-(k+1)) 0))[k]?=some (.int .i64 (-1)):=by
    simp[ints,List.getElem?_append]
   rw[y2] at y0;have kD:Hid ((W5.setCell ⟨g2,k,none⟩ (.int .i64 (r:Int))).ownsRow g2 3 1 (.slice (some ⟨g2,0,none⟩) C C) C (ints (((range k).map (kt D f i)++[(r:Int)])++replicate (C-(k+1)) 0))/\Below g2 wo (W5.setCell ⟨g2,k,none⟩ (.int .i64 (r:Int)))):=by
    refine⟨?_,fo.out.2.setCell (p:=⟨g2,k,none⟩) (le_refl _) _⟩;have:=uA fo.out.1 k dN (.int .i64 (r:Int));have e3:(ints (((range k).map (kt D f i)++[-1])++replicate (C-(k+1)) 0)).set k (.int .i64 (r:Int))=ints (((range k).map (kt D f i)++[(r:Int)])++replicate (C-(k+1)) 0):=by
     have hl:=wM.out;rw[<-Eu _ C k (-1) hl dN,List.set_set,Eu _ C k (r:Int) hl dN]
    rwa [e3] at this
   clear fH e2 y2;go_wp2;go_roundw
   ·exact⟨k+1,by go_num,by omega,by rw[HZ.out];exact kD⟩
   simp[intOf];omega
  obtain rfl:k=C:=by omega
  have HK:Hid (iK Wn b4 D.K k (.slice aN p cN) (qb D k f (bD f i)) ws (.slice aK p cK) ((bD f i).map D.q) wr):=zu.out.ab (by rw[Hg.out];exact HA.out.2);have mr:(qb D k f (bD f i)).length=p:=by rw[D5.out];simp[qb]
  have D9:=hid mr;have sP:=HK.out.bb.size;have HU:Hid (wr.ownsRow Wn.heap.size 3 1 (.slice (some ⟨g,0,none⟩) k k) k (ints ((range k).map (kt D f i)))):=by
   have:=HA.out.1;rw[Nat.sub_self,List.replicate_zero,List.append_nil] at this;exact gE this (by rw[<-Hg.out];exact zu.out.bb.size)
  have Ib:Hid ((∀j,j<(qb D k f (bD f i)).length->∀b,(ws j).ownBlock=some b->(Value.slice (some ⟨g,0,none⟩) k k).ownBlock≠some b)/\∀b,(Value.slice (some ⟨g,0,none⟩) k k).ownBlock=some b->(Value.slice aK p cK).ownBlock≠some b):=by
   have RC:wo.heap.size=g:=Hg.out;constructor
   ·intro j hj b e1 e2;have h1:=(zu.out.next.lt.2 j hj b e1);have h2:g=b:=(by simpa [Value.ownBlock] using e2);omega
   intro b e1 e2;have h1:=lB zu.out.dj b e2;have h2:g=b:=(by simpa [Value.ownBlock] using e1);omega
  have k9:=al wr (.cells #[.slice (some ⟨g,0,none⟩) k k] 30);have gv:Hid (iK Wn b4 D.K k (.slice aN p cN) (qb D k f (bD f i)) ws (.slice aK p cK) ((bD f i).map D.q) (wr.alloc (.cells #[.slice (some ⟨g,0,none⟩) k k] 30))):=HK.out.ab k9;have XF:Hid ((wr.alloc (.cells #[.slice (some ⟨g,0,none⟩) k k] 30)).ownsRow Wn.heap.size 3 1 (.slice (some ⟨g,0,none⟩) k k) k (ints ((range k).map (kt D f i)))):=cW HU.out k9;have fbk:=HK.out.f1;have Af:=gv.out.next.own
  rw[mr] at Af;have Ca:=gv.out.bb.size;clear HA mr k9;go_wp2_with (at_builtin;refine wpList_append_own_at _ rfl _ _ 37 rfl Wn.heap.size 30 iV (.slice none 0 0) 1 24 underlying37 hV um uU uL rfl (by decide) _ _ _ rfl Af ⟨wr.heap.size,0,none⟩ 1 1 [.slice (some ⟨g,0,none⟩) k k] rfl rfl (cell_one_new _ _ _) ?d2 ?d3 ?d4 ?d5 ?_)
  case d2=>first|(intro u hu;simp at hu;subst hu;rfl)|rfl
  case d3=>unfold maxLen;omega
  case d4=>omega
  case d5=>first|(simp;omega)|omega
  intro v' w5 ah ag _ bG;obtain⟨a5,c5,rfl⟩:=bJ ah;have h9:=gv.out.st.ae gv.out.next.own (by decide) ag
  have z2:w5.cell? ⟨b4,256,none⟩=some (.slice aN p cN):=by rw[h9.at_,p7]
  have z3:w5.frozen? ⟨b4,256,none⟩=false:=h9.aZ 256;have E7:=hid (gv.out.gj (vN':=.slice a5 (p+1) c5) XF.out Ib.out.1 Ib.out.2 D9.out ah ag);clear ah ag bG Af h9 fbk;go_upto_region 15 with fail;generalize w5.setCell ⟨b4,256,none⟩ (.slice a5 (p+1) c5)=W7 at E7⊢;clear z2 z3;have EO:Hid (∀W' a9 c9,iK Wn b4 D.K k (.slice a5 (p+1) c5) (qb D k f (bD f i)++[(range k).map (kt D f i)]) (fun j=>if j=p then .slice (some ⟨g,0,none⟩) k k else ws j) (.slice a9 (p+1) c9) ((bD f i).map D.q++[D.q i]) W'->p+1=(bD f (i+1)).length/\iK Wn b4 D.K k (.slice a5 (p+1) c5) (qb D k f (bD f (i+1))) (fun j=>if j=p then .slice (some ⟨g,0,none⟩) k k else ws j) (.slice a9 (p+1) c9) ((bD f (i+1)).map D.q) W'):=by
   show ∀W' a9 c9,_;intro W' a9 c9 h;rw[HPn.out];refine⟨by rw[D5.out];simp,?_⟩;have e1:qb D k f (bD f i++[i])=qb D k f (bD f i)++[(range k).map (kt D f i)]:=(by simp[qb]);have e2:(bD f i++[i]).map D.q=(bD f i).map D.q++[D.q i]:=(by simp);rw[e1,e2];exact h
  have lO:Hid (((bD f i).map D.q).length=p):=by show _=_;rw[List.length_map];exact D5.out.symm
  obtain⟨gM,oM,eM,rF,mo⟩:=H0.out.1.dm.rM (by omega);have nU:=H0.out.1.f2;rw[eM] at nU;have i3:(i:Int)<(D.m:Int):=by omega
  have IX:=mo i (by omega);have dG:Hid (∀W',Below Wn.heap.size Wn W'->Below Wn.heap.size Wn W'/\W'.cell? ⟨b0,257,none⟩=some (.slice (some ⟨gM,oM,none⟩) D.m D.cM)/\W'.cell? ⟨gM,oM+i,none⟩=some (.int .i64 (D.q i))):=fun W' h=>⟨h,(h.cell (p:=⟨b0,257,none⟩) H0.out.1.st.lt).trans nU,(h.cell (p:=⟨gM,oM+i,none⟩) rF).trans IX⟩
  clear eM rF mo nU IX;generalize D.q i=qx at dG EO;generalize qb D k f (bD f i)++[(range k).map (kt D f i)]=R9 at E7 EO;generalize (fun j=>if j=p then Value.slice (some ⟨g,0,none⟩) k k else ws j)=Ja at E7 EO;generalize (bD f i).map D.q=Gg at E7 EO lO;clear gv HK XF HU Ib;refine wp_region_held_drew (S:=fun W'=>Below Wn.heap.size Wn W'/\W'.cell? ⟨b0,257,none⟩=some (.slice (some ⟨gM,oM,none⟩) D.m D.cM)/\W'.cell? ⟨gM,oM+i,none⟩=some (.int .i64 qx)) (by kernel_rfl) (dG.out _ E7.out.bb.drew) (fun hHeld=>?_);have HO:Hid (iK Wn b4 D.K k (.slice a5 (p+1) c5) R9 Ja (.slice aK p cK) Gg W7.drew):=E7.out.ab (Below.refl _ _).drew
  (refine av 0 ?_;refine av 2 ?_;refine av 3 ?_;try simp only[put,sA,sB,sC];refine av 4 ?_;refine av 5 ?_;refine av 6 ?_;try simp only[put,sA,sB,sC])
  refine wpAnyH_ready (rs:=[1,7]) (by kernel_rfl) (by simp) ?_;refine gy (fun K hK=>?_) ?_
  ·skip;have f2:=HO.out.f2;go_simp;refine hK.out _ _ (hHeld) (fun hHeld=>?_);clear hK K
   try simp only[put,sA,sB,sC]
   clear f2;refine bq 7 (fun K hK=>?_);skip;go_simp;have kk:=al W7.drew (.cells #[.int .i64 qx] 3);have lJ:Hid (∀j u,[Value.int .i64 qx][j]?=some u->((W7.alloc (.cells #[.int .i64 qx] 3)).drew).cell? ((⟨W7.heap.size,0,none⟩:Addr).add j)=some u):=cell_one_new W7.drew _ _;have HO:Hid (iK Wn b4 D.K k (.slice a5 (p+1) c5) R9 Ja (.slice aK p cK) Gg ((W7.alloc (.cells #[.int .i64 qx] 3)).drew)):=HO.out.ab kk;refine hK.out _ _ (dG.out _ HO.out.bb) (fun hHeld=>?_);clear hK K
   try simp only[put,sA,sB,sC]
   clear kk;generalize (W7.alloc (.cells #[.int .i64 qx] 3)).drew=V5 at lJ HO hHeld⊢;refine bq 8 (fun K hK=>?_);skip;have hO:=HO.out.dj;rw[lO.out] at hO;refine GU (by rfl) _ _ _ (by rfl) Wn.heap.size 3 iI (.int .i64 0) 1 8 underlying30 hI pW p9 qa (by rfl) (by decide) _ p (ints Gg) (by rfl) hO ⟨W7.heap.size,0,none⟩ 1 1 [.int .i64 qx] (by rfl) (by rfl) lJ.out (by intro u hu;simp at hu;subst hu;rfl) (by unfold maxLen;omega) (by omega) HO.out.bb.size ?_;intro v6 w6 aj af db;obtain⟨a9,c9,rfl⟩:=bJ aj;have rX:=hid (HO.out.mF (vK':=.slice a9 (p+1) c9) (lO.out) aj af db);have h9:=HO.out.st.ae HO.out.dj (by decide) af;have z2:w6.cell? ⟨b4,257,none⟩=some (.slice aK p cK):=(by rw[h9.at_,yh]);have z3:w6.frozen? ⟨b4,257,none⟩=false:=h9.aZ 257;have eJ:=fC HO.out.bb HO.out.dj HO.out.bb.size af;clear aj af db h9 hO;refine hK.out _ _ (dG.out _ eJ) (fun hHeld=>?_);clear hK K
   try simp only[put,sA,sB,sC]
   (refine av 9 ?_;try simp only[put,sA,sB,sC])
   refine bq 10 (fun K hK=>?_);skip;go_simp;refine hK.out _ _ (dG.out _ rX.out.bb) (fun hHeld=>?_);clear hK K
   try simp only[put,sA,sB,sC]
   refine wpAnyH_done (by kernel_rfl) ?_ _;have BZ:=hid (EO.out _ a9 c9 rX.out);clear hHeld z2 z3 eJ rX HO;go_wp2;go_roundw
   ·exact⟨i+1,Ja,a5,a9,p+1,c5,c9,by go_num,by omega,by omega,BZ.out⟩
   simp[intOf];omega
  refine gy (fun K hK=>?_) ?_
  ·skip;go_simp;have kk:=al W7.drew (.cells #[.int .i64 qx] 3);have lJ:Hid (∀j u,[Value.int .i64 qx][j]?=some u->((W7.alloc (.cells #[.int .i64 qx] 3)).drew).cell? ((⟨W7.heap.size,0,none⟩:Addr).add j)=some u):=cell_one_new W7.drew _ _;have HO:Hid (iK Wn b4 D.K k (.slice a5 (p+1) c5) R9 Ja (.slice aK p cK) Gg ((W7.alloc (.cells #[.int .i64 qx] 3)).drew)):=HO.out.ab kk;refine hK.out _ _ (dG.out _ HO.out.bb) (fun hHeld=>?_);clear hK K
   try simp only[put,sA,sB,sC]
   clear kk;generalize (W7.alloc (.cells #[.int .i64 qx] 3)).drew=V5 at lJ HO hHeld⊢;refine bq 1 (fun K hK=>?_);skip;have f2:=HO.out.f2;go_simp;refine hK.out _ _ (hHeld) (fun hHeld=>?_);clear hK K
   try simp only[put,sA,sB,sC]
   clear f2;refine bq 8 (fun K hK=>?_);skip;have hO:=HO.out.dj;rw[lO.out] at hO;refine GU (by rfl) _ _ _ (by rfl) Wn.heap.size 3 iI (.int .i64 0) 1 8 underlying30 hI pW p9 qa (by rfl) (by decide) _ p (ints Gg) (by rfl) hO ⟨W7.heap.size,0,none⟩ 1 1 [.int .i64 qx] (by rfl) (by rfl) lJ.out (by intro u hu;simp at hu;subst hu;rfl) (by unfold maxLen;omega) (by omega) HO.out.bb.size ?_;intro v6 w6 aj af db;obtain⟨a9,c9,rfl⟩:=bJ aj;have rX:=hid (HO.out.mF (vK':=.slice a9 (p+1) c9) (lO.out) aj af db);have h9:=HO.out.st.ae HO.out.dj (by decide) af;have z2:w6.cell? ⟨b4,257,none⟩=some (.slice aK p cK):=(by rw[h9.at_,yh]);have z3:w6.frozen? ⟨b4,257,none⟩=false:=h9.aZ 257;have eJ:=fC HO.out.bb HO.out.dj HO.out.bb.size af;clear aj af db h9 hO;refine hK.out _ _ (dG.out _ eJ) (fun hHeld=>?_);clear hK K
   try simp only[put,sA,sB,sC]
   (refine av 9 ?_;try simp only[put,sA,sB,sC])
   refine bq 10 (fun K hK=>?_);skip;go_simp;refine hK.out _ _ (dG.out _ rX.out.bb) (fun hHeld=>?_);clear hK K
   try simp only[put,sA,sB,sC]
   refine wpAnyH_done (by kernel_rfl) ?_ _;have BZ:=hid (EO.out _ a9 c9 rX.out);clear hHeld z2 z3 eJ rX HO;go_wp2;go_roundw
   ·exact⟨i+1,Ja,a5,a9,p+1,c5,c9,by go_num,by omega,by omega,BZ.out⟩
   simp[intOf];omega
  exact AllReadyH.nil
 obtain rfl:i=D.n:=by omega
 obtain rfl:p=B:=HP.trans (HB.out.2.2.2.1.ib);have SD:=hid HT;have jk:=hid HT.st;have fQ:=hid (H0.out.2.1.ab HT.bb);have hd:=mA D.K (.slice aN p cN) (.slice aK p cK);have EA:Hid (w.heap.size<=Wn.heap.size):=H0.out.2.2.size;have AQ:Hid (Below w.heap.size w (wr.setRow b2 (dE D.K (.slice aN p cN) (.slice aK p cK)))):=
  lk ((show Below w.heap.size w Wn by rw[Hb.out.1];exact H0.out.2.2).trans (HT.bb.mono EA.out)) (by have:=Hb.out;omega) _
 have mr:(qb D C f (bD f D.n)).length=p:=by rw[HP];simp[qb]
 have HF:Hid (C1 D C p (fun b c=>kt D f ((bD f D.n).getD b 0) c) (fun b=>D.q ((bD f D.n).getD b 0)) w (.returned (.agg (dE D.K (.slice aN p cN) (.slice aK p cK)))) (wr.setRow b2 (dE D.K (.slice aN p cN) (.slice aK p cK)))):=
  SD.out.Sm HB.out.1.dm.kl mr (fun r hr=>by unfold qb at hr;obtain⟨j,_,rfl⟩:=List.mem_map.1 hr;simp) (zm7 _ _ _ HP) (fun j hj c hc=>by
   have hj2:j<(bD f D.n).length:=by omega
   unfold qb
   simp[getD_eq_getElem?_getD,hj2,hc]) EA.out (Or.inr ⟨b2,_,_,fQ.out,rfl⟩) AQ.out
 clear HT mr HP;go_wp2_with (first|(refine pM rfl 39 _ rfl ⟨b4,0,none⟩ rfl (dE D.K (.slice aN p cN) (.slice aK p cK)) _ jk.out.part underlying39 rfl (by rw[fB,hd]) ?_)|(refine l6 rfl 39 _ _ rfl b2 39 (zC 39) (dE D.K (.slice aN p cN) (.slice aK p cK)) rfl rfl fQ.out (by rw[ir,hd]) (by rw[fB,hd]) (xr _ _ _ _ _ _ _) ?_));refine bodyPost_ret (results_cell_row rfl _ _ b2 39 (dE D.K (.slice aN p cN) (.slice aK p cK)) (0,0) _ rfl fQ.out.setRow underlying39 rfl (by rw[fB,hd])) rfl ?_;exact HF.out
end Go.Proofs.YtbacgnhkapancaaGreat
