import Derived.Test.YtjehgdjlncofeaaGreatZPBy
import Derived.Laws.MakeOwn
set_option linter.unusedVariables false
set_option linter.unusedSimpArgs false
set_option maxHeartbeats 4000000
set_option maxRecDepth 100000
open Go.Lib (hid)
namespace Go.Proofs.YtjehgdjlncofeaaGreat
open Go.RowKit Go.Maps Go.WideElems Go.ChangeMaps Go.MapKept
theorem zcQ (n:Nat) (hn:n<=1000000) (W:World):(Instr.makeSlice 30 (.int .i64 0) (.int .i64 (n:Int))).run Tryz.prog W=.ok (.slice (some ⟨W.heap.size,0,none⟩) 0 n) (W.alloc (.cells (madeCells #[.int .i64 0] n) 3)):=by
 obtain⟨i0,hi,hz0,hz1,hz2⟩:=info_parts Tryz.info_int9
 have h:=run_makeSlice (P:=Tryz.prog) W 30 3 i0 (.int .i64 0) Tryz.underlying30 hi hz0 .i64 .i64 0 (n:Int) (by omega) (by omega) (by rw[hz1];simp;omega) (by rw[hz2];omega) (by omega)
 have e:(Value.int .i64 0).cells=#[.int .i64 0]:=rfl
 rw[hz1,e] at h
 simpa using h
def MapN (w:World) (k:TypeId) (b n:Nat) (Q:Value->Value->Prop):Prop:=
 ∃es clock,w.heap[b]?=some (.map es clock)/\Fit Tryz.prog k anyR es clock/\es.size=n/\(∀e∈es.toList,Q e.key e.val)/\∀x y,Q x y->∃e∈es.toList,e.key=x
theorem MapN.ex {w:World}{k:TypeId}{b n:Nat}{Q:Value->Value->Prop}(h:MapN w k b n Q):MapEx w k b n Q:=by
 obtain⟨es,clock,h1,h2,h3,h4⟩:=h
 exact⟨es,clock,h1,h2,by omega,h4⟩
theorem MapN.made (w:World) (k:TypeId) (Q:Value->Value->Prop) (h0:∀x y,¬Q x y):MapN (w.alloc (.map #[] 0)) k w.heap.size 0 Q:=
 ⟨#[],0,(MapKept.heap_alloc w _).1,⟨by simp,stamped_empty 0,by simp⟩,rfl,by simp,fun x y h=>absurd h (h0 x y)⟩
theorem MapN.lt {w:World}{k:TypeId}{b n:Nat}{Q:Value->Value->Prop}(h:MapN w k b n Q):b<w.heap.size:=h.ex.lt
theorem MapN.same {w w':World}{k:TypeId}{b n:Nat}{Q:Value->Value->Prop}(h:MapN w k b n Q) (e:w'.heap[b]?=w.heap[b]?):MapN w' k b n Q:=by
 obtain⟨es,clock,hb,r⟩:=h
 exact⟨es,clock,e.trans hb,r⟩
theorem MapN.grown_own {w w':World}{B t' size n k b N:Nat}{v:Value}{xs:List Value}{Q:Value->Value->Prop}(h:MapN w k b N Q) (ho:w.ownsRow B t' size v n xs) (hg:w.grownBy w' v.ownBlock):MapN w' k b N Q:=by
 refine h.same (hg.block b h.lt (fun e=>?_))
 obtain⟨c,fz,hc⟩:=zaI ho b e.symm
 obtain⟨es,clock,hb,_⟩:=h
 rw[hc] at hb
 cases hb
theorem MapN.len {w:World}{k t ty:TypeId}{b n:Nat}{Q:Value->Value->Prop}(h:MapN w k b n Q) (ht:Tryz.prog.underlying t=some (.map (Tryz.prog.mapKeyOf t) (Tryz.prog.mapElemOf t))):(Builtin.len_ #[t] ty #[.map (some b)]).run Tryz.prog w=.ok (.int .i64 (n:Int)) w:=by
 obtain⟨es,clock,hb,_,hs,_⟩:=h
 rw[Go.run_len_map w t ty b es clock ht hb,hs]
 rfl
theorem MapN.update {w:World}{k t e:TypeId}{b n:Nat}{Q Q':Value->Value->Prop}(h:MapN w k b n Q) (K:Keyed Tryz.prog k) (ht:Tryz.prog.underlying t=some (.map k e)) (hn:n<maxLen)
  {key val:Value}{kl:Lit}(hkey:keyOf Tryz.prog k key=some kl) (hnew:∀y,¬Q key y) (hQ:∀x y,Q x y->Q' x y) (hv:Q' key val) (hback:∀x y,Q' x y->x≠key->∃y',Q x y'):
  ∃w',(Instr.mapUpdate t (.map (some b)) key val).run Tryz.prog w=.ok () w'/\MapN w' k b (n+1) Q'/\w.grownBy w' (some b):=by
 obtain⟨es,clock,hb,F,hs,hq,hall⟩:=h
 have hno:∀x∈es.toList,x.key≠key:=fun x hx e0=>hnew x.val (by rw[<-e0];exact hq x hx)
 obtain⟨F1,_,_⟩:=F.stay (R':=anyR) (fun x hx z hz=>hz)
 have hrd:WideElems.rd Tryz.prog k anyR ⟨key,val,clock⟩=some (kl,.held val):=by unfold WideElems.rd anyR;rw[hkey];rfl
 rcases K.find w hkey es.toList F.keys with ⟨h1,h2⟩|⟨j,e0,h1,h2,h3⟩
 ·refine⟨setBlock w b (.map (es.push ⟨key,val,clock⟩) (clock+1)),?_,⟨es.push ⟨key,val,clock⟩,clock+1,heap_setBlock_same hb _,⟨by simp;omega,stamped_push F.stamped h2,?_⟩,by simp;omega,fun x hx=>?_,fun x y hx=>?_⟩,⟨rfl,rfl,rfl,by simp[setBlock],fun i _ hi=>heap_setBlock_other hb _ (fun e=>hi (by rw[e]))⟩⟩
  ·simp[Instr.mapUpdate,run_underlying ht,MapKept.run_getObj_map hb,K.check w false hkey,h1,MapKept.run_setObj_map _ hb,Result.andThen,setBlock]
  ·intro x hx
   simp only[Array.toList_push,List.mem_append,List.mem_singleton] at hx
   rcases hx with hx|rfl
   ·exact F1.reads x hx
   ·exact⟨_,hrd⟩
  ·simp only[Array.toList_push,List.mem_append,List.mem_singleton] at hx
   rcases hx with hx|rfl
   ·exact hQ _ _ (hq x hx)
   ·exact hv
  ·by_cases e0:x=key
   ·exact⟨⟨key,val,clock⟩,by rw[Array.toList_push];exact List.mem_append_right _ (List.mem_singleton.2 rfl),e0.symm⟩
   ·obtain⟨y',hy⟩:=hback x y hx e0
    obtain⟨e1,h4,h5⟩:=hall x y' hy
    exact⟨e1,by rw[Array.toList_push];exact List.mem_append_left _ h4,h5⟩
 ·exact absurd h3 (hno e0 (List.mem_of_getElem? h2))
theorem zby (n:Nat) (hn:n<=1000000) (W:World) (B:Nat) (hB:B<=W.heap.size):(W.alloc (.cells (madeCells #[.int .i64 0] n) 3)).ownsRow B 3 1 (.slice (some ⟨W.heap.size,0,none⟩) 0 n) 0 []:=
 World.ownsRow_made W _ n hB (by unfold maxLen;omega) (by have:=size_madeCells #[Value.int .i64 0] n;simpa using this)
def zn2 (l:List Nat) (n:Nat) (w:World) (e:Ending) (w':World):Prop:=
 ∃(f:Nat->Nat) (B:Nat) (a:Option Addr) (c:Nat),e=.returned (.slice a n c)/\w'.ownsRow w.heap.size 3 1 (.slice a n c) n (zai ((List.range n).map f))/\Num (fun i j=>l.getD i 0=l.getD j 0) n f B/\Below w.heap.size w w'
structure NmI (W0:World) (l:List Nat) (bM k:Nat) (v:Value) (nm:List Nat) (f:Nat->Nat) (w:World):Prop where
 below:Below W0.heap.size W0 w
 map:MapN w 3 bM nm.length (NmQ nm)
 own:w.ownsRow W0.heap.size 3 1 v k (zai ((List.range k).map f))
 at_:∀i,i<k->nm[f i]?=some (l.getD i 0)
 num:Num (fun i j=>l.getD i 0=l.getD j 0) k f nm.length
 lo:W0.heap.size<=bM
 nk:nm.length<=k
theorem NmI.mem {W0 w:World}{l nm:List Nat}{bM k:Nat}{v:Value}{f:Nat->Nat}(h:NmI W0 l bM k v nm f w) (y:Nat):y∈nm↔∃i,i<k/\l.getD i 0=y:=by
 constructor
 ·intro hm
  obtain⟨b,hb,e⟩:=List.getElem_of_mem hm
  obtain⟨i,h1,h2,_⟩:=h.num.new b hb
  refine⟨i,h1,?_⟩
  have:=h.at_ i h1
  rw[h2,List.getElem?_eq_getElem hb,e] at this
  exact (Option.some.inj this).symm
 ·rintro⟨i,hi,rfl⟩
  exact List.mem_of_getElem? (h.at_ i hi)
theorem zjh (f:Nat->Nat) (k b:Nat):zai ((List.range (k+1)).map fun i=>if i=k then b else f i)=zai ((List.range k).map f)++[.int .i64 (b:Int)]:=by
 rw[List.range_succ,List.map_append,zai,List.map_append]
 congr 1
 ·unfold zai
  congr 1
  refine List.map_congr_left fun i hi=>?_
  have:=List.mem_range.1 hi
  rw[if_neg (by omega)]
 ·simp
theorem zgl (W:World):(Instr.makeMap 157 none).run Tryz.prog W=.ok (.map (some W.heap.size)) (W.alloc (.map #[] 0)):=by
 kernel_rfl
theorem NmI.look {W0 w:World}{l nm:List Nat}{bM k:Nat}{v:Value}{f:Nat->Nat}(h:NmI W0 l bM k v nm f w) (hk:l.getD k 0<=1000000):
  (∃b,nm[b]?=some (l.getD k 0)/\(Instr.lookup 157 (.map (some bM)) (.int .i64 ((l.getD k 0:Nat):Int)) true).run Tryz.prog w=.ok (.tuple #[.int .i64 ((b:Nat):Int),.bool true]) w)\/
  (l.getD k 0∉nm/\(Instr.lookup 157 (.map (some bM)) (.int .i64 ((l.getD k 0:Nat):Int)) true).run Tryz.prog w=.ok (.tuple #[.int .i64 0,.bool false]) w):=by
 rcases h.map.ex.look2 zbe Tryz.underlying157 (zcs w) (zbP _ (by omega:l.getD k 0<=9223372036854775807)) with ⟨hrun,hno⟩|⟨v,⟨b,s,h1,h2,rfl⟩,hrun⟩
 ·refine Or.inr ⟨fun hm=>?_,hrun⟩
  obtain⟨b,hb,e⟩:=List.getElem_of_mem hm
  exact hno _ ⟨b,l.getD k 0,by rw[List.getElem?_eq_getElem hb,e],rfl,rfl⟩
 ·exact Or.inl ⟨b,by rw[zct h2];exact h1,hrun⟩
theorem NmI.keep {W0 w w1:World}{l nm:List Nat}{bM k:Nat}{v:Value}{f:Nat->Nat}(h:NmI W0 l bM k v nm f w) (kk:Below w.heap.size w w1):NmI W0 l bM k v nm f w1:=
 ⟨h.below.trans (kk.mono h.below.size),h.map.same (kk.block _ h.map.lt),zab h.own kk,h.at_,h.num,h.lo,h.nk⟩
theorem NmI.old {W0 w w':World}{l nm:List Nat}{bM k b:Nat}{v v':Value}{f:Nat->Nat}(h:NmI W0 l bM k v nm f w) (hb:nm[b]?=some (l.getD k 0))
  (ho:w'.ownsRow W0.heap.size 3 1 v' (k+1) (zai ((List.range k).map f)++[.int .i64 (b:Int)])) (hg:w.grownBy w' v.ownBlock):∃f',NmI W0 l bM (k+1) v' nm f' w':=by
 have hbl:b<nm.length:=(List.getElem?_eq_some_iff.1 hb).1
 obtain⟨i,h1,h2,_⟩:=h.num.new b hbl
 have hi:=h.at_ i h1
 rw[h2,hb] at hi
 have hi:=Option.some.inj hi
 refine⟨fun j=>if j=k then b else f j,zac h.below h.own h.below.size hg,h.map.grown_own h.own hg,by rw[zjh];exact ho,fun j hj=>?_,?_,h.lo,by have:=h.nk;omega⟩
 ·by_cases e:j=k
  ·simp only[if_pos e];rw[e];exact hb
  ·simp only[if_neg e];exact h.at_ j (by omega)
 ·have:=h.num.old (fun i j e=>e.symm) (fun i j l e e2=>e.trans e2) (fun i=>rfl) h1 hi.symm
  rw[h2] at this
  exact this
theorem NmI.fresh {W0 w w1 w':World}{l nm:List Nat}{bM k:Nat}{v v':Value}{f:Nat->Nat}(h:NmI W0 l bM k v nm f w) (hb:l.getD k 0∉nm) (hm:MapN w1 3 bM (nm.length+1) (NmQ (nm++[l.getD k 0]))) (hg1:w.grownBy w1 (some bM))
  (w2:World) (k2:Below w1.heap.size w1 w2) (hg:w2.grownBy w' v.ownBlock) (ho:w'.ownsRow W0.heap.size 3 1 v' (k+1) (zai ((List.range k).map f)++[.int .i64 (nm.length:Int)])):∃f',NmI W0 l bM (k+1) v' (nm++[l.getD k 0]) f' w':=by
 have hB1:Below W0.heap.size W0 w1:=h.below.grown hg1 h.below.size (fun g e=>by injection e with e;rw[<-e];exact h.lo)
 have hB2:=hB1.trans (k2.mono hB1.size)
 have o2:=zab (zaB h.own h.map.ex.of hg1) k2
 have m2:=hm.same (k2.block _ hm.lt)
 refine⟨fun j=>if j=k then nm.length else f j,zac hB2 o2 hB2.size hg,by rw[List.length_append];exact m2.grown_own o2 hg,by rw[zjh];exact ho,fun j hj=>?_,?_,h.lo,by have:=h.nk;simp;omega⟩
 ·by_cases e:j=k
  ·simp only[if_pos e];rw[e];simp
  ·simp only[if_neg e]
   have:=h.at_ j (by omega)
   rw[List.getElem?_append_left (List.getElem?_eq_some_iff.1 this).1]
   exact this
 ·have:=h.num.fresh (fun i j e=>e.symm) (fun i=>rfl) (fun i hi e=>hb ((h.mem _).2 ⟨i,hi,e⟩))
  rw[List.length_append]
  exact this
theorem zm7 {w:World}{nm:List Nat}{bM x:Nat}(h:MapN w 3 bM nm.length (NmQ nm)) (hx:x<=1000000) (hn:nm.length<maxLen) (hb:x∉nm):
  ∃w',(Instr.mapUpdate 157 (.map (some bM)) (.int .i64 (x:Int)) (.int .i64 (nm.length:Int))).run Tryz.prog w=.ok () w'/\MapN w' 3 bM (nm.length+1) (NmQ (nm++[x]))/\w.grownBy w' (some bM):=by
 refine h.update zbe Tryz.underlying157 hn (zbP _ (by omega)) ?_ ?_ ?_ ?_
 ·rintro y ⟨k,s,h1,h2,_⟩
  rw[<-zct h2] at h1
  exact hb (List.mem_of_getElem? h1)
 ·rintro a b ⟨k,s,h1,h2,h3⟩
  exact⟨k,s,by rw[List.getElem?_append_left (List.getElem?_eq_some_iff.1 h1).1];exact h1,h2,h3⟩
 ·exact⟨nm.length,x,by simp,rfl,rfl⟩
 ·rintro a b ⟨k,s,h1,h2,h3⟩ hne
  by_cases e:k<nm.length
  ·rw[List.getElem?_append_left e] at h1
   exact⟨b,k,s,h1,h2,h3⟩
  ·rw[List.getElem?_append_right (by omega)] at h1
   cases hj:k-nm.length with
   | zero=>rw[hj] at h1;simp at h1;exact absurd (by rw[h2,h1]) hne
   | succ j=>rw[hj] at h1;simp at h1
theorem zfu (l:List Nat) (n:Nat) (hl:l.length=n) (hn:n<=100000) (hb:∀x∈l,x<=1000000) (a:Option Addr) (c:Nat) (w:World) (hL:LAt w a l):Calls Tryz.prog 94 #[.slice a n c] w (zn2 l n w):=by
 have hmm:=zgl
 have hmk:=zcQ n (by omega)
 have HX:=hid (And.intro hl (And.intro hb hL))
 clear hl hb hL
 go_enter Tryz.func94,Tryz.ntmps94
 go_upto_region 3 with fail
 obtain⟨bM,hbM⟩:∃bM,w.heap.size+1=bM:=⟨_,rfl⟩
 obtain⟨b0,hb0⟩:∃b0,w.heap.size=b0:=⟨_,rfl⟩
 obtain⟨W2,hW2⟩:∃W2,(w.alloc (.cells (madeCells #[.int .i64 0] n) 3)).alloc (.map #[] 0)=W2:=⟨_,rfl⟩
 have hsz:(w.alloc (.cells (madeCells #[.int .i64 0] n) 3)).heap.size=bM:=by rw[<-hbM];simp
 have k1:=al w (.cells (madeCells #[.int .i64 0] n) 3)
 have k2:=al (w.alloc (.cells (madeCells #[.int .i64 0] n) 3)) (.map #[] 0)
 have hG0:NmI w l bM 0 (.slice (some ⟨b0,0,none⟩) 0 n) [] (fun _=>0) W2:=by
  have hO:=zab (zby n (by omega) w w.heap.size (Nat.le_refl _)) k2
  rw[hW2,hb0] at hO
  refine⟨by rw[<-hW2];exact k1.trans (k2.mono (by simp)),?_,by rw[hb0];exact hO,fun i hi=>absurd hi (by omega),Num.zero _,by omega,by simp⟩
  have:=MapN.made (w.alloc (.cells (madeCells #[.int .i64 0] n) 3)) 3 (NmQ []) (fun x y h=>by
   obtain⟨k,s,h1,_⟩:=h
   simp at h1)
  rw[hW2,hsz] at this
  exact this
 have HG0:=hid hG0
 clear hG0 k1 k2
 try rw[hbM]
 try rw[hW2]
 try rw[hb0]
 have Hb:=hid (And.intro hbM hb0)
 clear hbM hb0 hW2 hsz
 go_wp2_with fail
 go_loopw [3,6,7,8,15] (fun v3 _ _ _ vk wr=>∃k:Nat,vk=.int .i64 k/\k<=n/\(∃a3 c3,v3=.slice a3 k c3)/\Hid (∃nm f,NmI w l bM k v3 nm f wr)) (fun _ _ _ _ v _=>n-(intOf v).toNat)
 case atStart=>exact⟨0,rfl,Nat.zero_le _,⟨_,_,rfl⟩,_,_,HG0.out⟩
 case round=>
  obtain⟨k,rfl,hk,⟨a3,c3,rfl⟩,HL⟩:=hrel
  by_cases hlt:k<n
  ·obtain⟨nm,f,hI⟩:=HL.out
   obtain⟨g,off,rfl,hg,hc⟩:=HX.out.2.2 (by have:=HX.out.1;omega)
   have d0:=(hI.below.cell (p:=⟨g,off+k,none⟩) hg).trans (hc k (by have:=HX.out.1;omega))
   simp only[] at d0
   have hxb:l.getD k 0<=1000000:=by
    by_cases e:k<l.length
    ·rw[List.getD_eq_getElem?_getD,List.getElem?_eq_getElem e]
     exact HX.out.2.1 _ (List.getElem_mem e)
    ·rw[List.getD_eq_getElem?_getD,List.getElem?_eq_none (by omega)]
     simp
   have hlk:=hI.look hxb
   have i1:(k:Int)<(n:Int):=by omega
   have hnk:=hI.nk
   obtain⟨m,hm⟩:∃m,nm.length=m:=⟨_,rfl⟩
   obtain⟨i0,hi,hz0,hz1,hz2⟩:=info_parts Tryz.info_int9
   have hlo:=hI.below.size
   have HI:=hid hI
   have hlen:=hI.map.len (ty:=3) (t:=157) (by rw[Tryz.underlying157];rfl)
   rw[hm] at hnk hlen
   clear hc hg hI HL
   rcases hlk with ⟨b,hb,hrun⟩|⟨hb,hrun⟩
   ·have Hb:=hid hb
    clear hlen hb
    obtain⟨x,hx⟩:∃x,l.getD k 0=x:=⟨_,rfl⟩
    rw[hx] at d0 hrun hxb
    go_wp2_with (at_builtin;refine wpList_append_own_at _ rfl _ _ 30 rfl w.heap.size 3 i0 (.int .i64 0) 1 8 Tryz.underlying30 hi hz0 hz1 hz2 rfl (by decide) _ _ _ rfl (HI.out.own.alloc _) ⟨wr.heap.size,0,none⟩ 1 1 [.int .i64 (b:Int)] rfl rfl (cell_one_new _ _ _) ?d2 ?d3 ?d4 ?d5 ?_)
    case d2=>first|(intro u hu;simp at hu;subst hu;rfl)|rfl
    case d3=>unfold maxLen;omega
    case d4=>omega
    case d5=>first|(simp;omega)|omega
    intro v' w5 hown5 hgrow5 _ hat5
    obtain⟨a5,c5,rfl⟩:=zaa hown5
    have HF:=hid ((HI.out.keep (al wr (.cells #[.int .i64 (b:Int)] 3))).old Hb.out hown5 hgrow5)
    clear hown5 hgrow5 hat5
    go_wp2_with fail
    go_roundw
    case rel=>exact⟨k+1,by go_num,by omega,⟨_,_,rfl⟩,nm,HF.out⟩
    case measure=>simp[intOf];omega
   ·obtain⟨w1,hup,hm1,hg1⟩:=zm7 HI.out.map hxb (by unfold maxLen;omega) hb
    have Hm1:=hid (And.intro hb (And.intro hm1 hg1))
    have ho1:=zaB HI.out.own HI.out.map.ex.of hg1
    rw[hm] at hup
    have hlo1:=(HI.out.below.grown hg1 hlo (fun g e=>by injection e with e;rw[<-e];exact HI.out.lo)).size
    clear hm1 hg1 hb
    obtain⟨x,hx⟩:∃x,l.getD k 0=x:=⟨_,rfl⟩
    rw[hx] at d0 hrun hxb hup
    go_wp2_with (at_builtin;refine wpList_append_own_at _ rfl _ _ 30 rfl w.heap.size 3 i0 (.int .i64 0) 1 8 Tryz.underlying30 hi hz0 hz1 hz2 rfl (by decide) _ _ _ rfl (ho1.alloc _) ⟨w1.heap.size,0,none⟩ 1 1 [.int .i64 (m:Int)] rfl rfl (cell_one_new _ _ _) ?d2 ?d3 ?d4 ?d5 ?_)
    case d2=>first|(intro u hu;simp at hu;subst hu;rfl)|rfl
    case d3=>unfold maxLen;omega
    case d4=>omega
    case d5=>first|(simp;omega)|omega
    intro v' w5 hown5 hgrow5 _ hat5
    obtain⟨a5,c5,rfl⟩:=zaa hown5
    have HF:=hid (HI.out.fresh Hm1.out.1 Hm1.out.2.1 Hm1.out.2.2 _ (al w1 (.cells #[.int .i64 (m:Int)] 3)) hgrow5 (by rw[hm];exact hown5))
    clear hown5 hgrow5 hat5 ho1
    go_wp2_with fail
    go_roundw
    case rel=>exact⟨k+1,by go_num,by omega,⟨_,_,rfl⟩,_,HF.out⟩
    case measure=>simp[intOf];omega
  ·obtain rfl:k=n:=by omega
   obtain⟨nm,f,hI⟩:=HL.out
   have HI:=hid hI
   clear hI HL
   go_wp2_with fail
   go_ret
   exact⟨f,nm.length,a3,c3,rfl,HI.out.own,HI.out.num,HI.out.below⟩
def zhi (D:Dd) (C:Nat) (w:World) (e:Ending) (w':World):Prop:=
 ∃(f:Nat->Nat) (B:Nat) (a:Option Addr) (c:Nat),e=.returned (.slice a D.n c)/\w'.ownsRow w.heap.size 3 1 (.slice a D.n c) D.n (zai ((List.range D.n).map f))/\Num (Eqv C (tD D) (mD D)) D.n f B/\Below w.heap.size w w'
theorem LAt.take9 {w:World}{a:Option Addr}{l:List Nat}(h:LAt w a l) (n:Nat) (hn:n<=l.length):LAt w a (l.take n):=by
 intro h0
 have e:(l.take n).length=n:=by rw[List.length_take];omega
 rw[e] at h0
 obtain⟨g,off,e1,hg,hc⟩:=h (by omega)
 refine⟨g,off,e1,hg,fun j hj=>?_⟩
 rw[e] at hj
 rw[hc j (by omega)]
 simp only[]
 rw[List.getD_eq_getElem?_getD,List.getD_eq_getElem?_getD,List.getElem?_take_of_lt hj]
theorem Num.rel {R R':Nat->Nat->Prop}{n B:Nat}{f:Nat->Nat}(h:Num R n f B) (e:∀i j,i<n->j<n->(R i j↔R' i j)):Num R' n f B:=
 ⟨fun i j hi hj=>(h.same i j hi hj).trans (e i j hi hj),h.lt,h.new⟩
theorem zd8 (D:Dd) (C:Nat) (hR:DR D C) (w:World) (hD:DM w D):Calls Tryz.prog 59 #[.agg D.cD] w (zhi D C w):=by
 have HB:=hid (And.intro (DBx.new hD) (And.intro (al w (.cells D.cD 39)) hR))
 clear hD hR
 go_enter Tryz.func59,Tryz.ntmps59
 go_upto_region 1 with fail
 generalize w.alloc (.cells D.cD 39)=W0 at HB⊢
 obtain⟨b0,hb0⟩:∃b0,w.heap.size=b0:=⟨_,rfl⟩
 rw[hb0] at HB
 rw[hb0]
 have Hb0:=hid hb0
 have hb9:b0<=W0.heap.size:=by have:=HB.out.2.1.size;omega
 clear hb0
 have HRy:=hid (zbH D C HB.out.2.2 W0 HB.out.1.dm)
 go_wp2_with (refine zad (by rfl) 39 _ rfl ⟨b0,0,none⟩ rfl D.cD _ HB.out.1.st.part Tryz.underlying39 rfl HB.out.1.dm.info ?_)
 refine HRy.out.mono ?_
 rintro e w1 ⟨rfl,b1⟩
 have H1:=hid (And.intro (HB.out.1.keep b1) (HB.out.2.1.trans (b1.mono hb9)))
 have hb1:b0<=w1.heap.size:=by have:=b1.size;omega
 have HDv:=hid (zgm D C HB.out.2.2 w1 H1.out.1.dm)
 clear b1 HRy
 go_wp2_with (refine zad (by rfl) 39 _ rfl ⟨b0,0,none⟩ rfl D.cD _ H1.out.1.st.part Tryz.underlying39 rfl H1.out.1.dm.info ?_)
 refine HDv.out.mono ?_
 rintro e w2 ⟨bl,a,c,rfl,hbl,hbd,hc,hO,heq,b2⟩
 have H2:=hid (And.intro (H1.out.1.keep b2) (H1.out.2.trans (b2.mono hb1)))
 have hb2:b0<=w2.heap.size:=by have:=b2.size;omega
 have hn2:=HB.out.2.2.n2
 have htl:(bl.take D.n).length=D.n:=by rw[List.length_take];omega
 have HNm:=hid (zfu (bl.take D.n) D.n htl (by omega) (fun x hx=>by have:=hbd x (List.mem_of_mem_take hx);omega) a c w2 ((za7 hO hbl).take9 D.n (by omega)))
 have Heq:Hid (∀i j,i<D.n->j<D.n->((bl.take D.n).getD i 0=(bl.take D.n).getD j 0↔Eqv C (tD D) (mD D) i j)):=by
  show ∀i j,_
  intro i j hi hj
  rw[<-heq i j (by omega) (by omega)]
  simp only[List.getD_eq_getElem?_getD,List.getElem?_take_of_lt hi,List.getElem?_take_of_lt hj]
 have f1:=H2.out.1.f1
 have i1:(D.n:Int)<=(c:Int):=by omega
 have hc1:D.n<=c:=by omega
 clear b2 HDv hO heq hbd hbl htl
 go_wp2_with fail
 refine HNm.out.mono ?_
 rintro e w3 ⟨f,B,a3,c3,rfl,hO3,hN3,b3⟩
 have HF:Hid (zhi D C w (.returned (.slice a3 D.n c3)) w3):=by
  refine⟨f,B,a3,c3,rfl,zag hO3 (by rw[Hb0.out];exact hb2),hN3.rel Heq.out,?_⟩
  rw[Hb0.out]
  exact H2.out.2.trans (b3.mono hb2)
 clear hO3 hN3 b3
 go_wp2_with fail
 go_ret
 exact HF.out
end Go.Proofs.YtjehgdjlncofeaaGreat
