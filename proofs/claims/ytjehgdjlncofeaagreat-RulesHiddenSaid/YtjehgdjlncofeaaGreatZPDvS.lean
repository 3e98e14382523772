import Derived.Test.YtjehgdjlncofeaaGreatZPRep
set_option linter.unusedVariables false
set_option linter.unusedSimpArgs false
set_option maxHeartbeats 4000000
set_option maxRecDepth 100000
open Go.Lib (hid)
namespace Go.Proofs.YtjehgdjlncofeaaGreat
open Go.RowKit Go.Maps Go.WideElems Go.ChangeMaps Go.MapKept
def nmZ (f:Nat->Int) (n:Nat):List Value:=(List.range n).map fun y=>Value.int .i64 (f y)
theorem zhk (f:Nat->Int) (n x:Nat) (h:x<n):(nmZ f n)[x]?=some (.int .i64 (f x)):=by simp[nmZ,h]
theorem zjj (f:Nat->Int) (n x:Nat) (v:Int):(nmZ f n).set x (.int .i64 v)=nmZ (fun y=>if y=x then v else f y) n:=by
 unfold nmZ
 apply List.ext_getElem?
 intro i
 rw[List.getElem?_set]
 by_cases e:x=i
 ·subst e
  by_cases h:x<n
  ·simp[h]
  ·simp[h]
 ·rw[if_neg e]
  by_cases h:i<n
  ·simp[h,Ne.symm e,show ¬i=x from fun h=>e h.symm]
  ·simp[h]
theorem zjk (n:Nat) (v:Int):ints (List.replicate n v)=nmZ (fun _=>v) n:=by
 unfold nmZ ints
 apply List.ext_getElem?
 intro i
 by_cases h:i<n <;> simp[h]
def LL (x:Nat->Int):Int->List Nat->Prop
 | v,[]=>v=-1
 | v,a :: l=>v=(a:Int)/\LL x (x a) l
def chain (t:Nat->Nat) (k s:Nat):List Nat:=((List.range k).filter fun i=>t i == s).reverse
theorem zbZ (t:Nat->Nat) (k s i:Nat):i∈chain t k s↔i<k/\t i=s:=by simp[chain]
theorem zgo (t:Nat->Nat) (k s:Nat):(chain t k s).Nodup:=by
 unfold chain
 exact List.pairwise_reverse.2 ((List.Nodup.sublist List.filter_sublist List.nodup_range).imp fun h=>Ne.symm h)
theorem zh7 (t:Nat->Nat) (k s:Nat):chain t (k+1) s=if t k=s then k :: chain t k s else chain t k s:=by
 unfold chain
 rw[List.range_succ,List.filter_append,List.reverse_append]
 by_cases h:t k=s
 ·simp[h]
 ·simp[h]
theorem LL.congr {x x':Nat->Int}:∀(l:List Nat) (v:Int),(∀a∈l,x a=x' a)->LL x v l->LL x' v l
 | [],_,_,h=>h
 | a :: l,v,e,h=>⟨h.1,by
   have h2:=h.2
   rw[e a List.mem_cons_self] at h2
   exact LL.congr l _ (fun b hb=>e b (List.mem_cons_of_mem _ hb)) h2⟩
theorem LL.link {t:Nat->Nat}{f x:Nat->Int}{N k:Nat}(h:∀s,s<N->LL x (f s) (chain t k s)) (hk:t k<N):
  ∀s,s<N->LL (fun j=>if j=k then f (t k) else x j) (if s=t k then (k:Int) else f s) (chain t (k+1) s):=by
 intro s hto
 rw[zh7]
 have hc:∀s,s<N->LL (fun j=>if j=k then f (t k) else x j) (f s) (chain t k s):=fun s hto=>
  LL.congr _ _ (fun a ha=>by
   have:=((zbZ t k s a).1 ha).1
   rw[if_neg (by omega)]) (h s hto)
 by_cases e:s=t k
 ·subst e
  rw[if_pos rfl,if_pos rfl]
  refine⟨rfl,?_⟩
  show LL _ (if k=k then f (t k) else x k) _
  rw[if_pos rfl]
  exact hc _ hto
 ·rw[if_neg e,if_neg (fun e2=>e e2.symm)]
  exact hc _ hto
structure RvM (W0 w:World) (b gF gX N:Nat) (f x:Nat->Int):Prop where
 bel:Below W0.heap.size W0 w
 st:St w 178 b #[.slice (some ⟨gF,0,none⟩) N N,.slice (some ⟨gX,0,none⟩) N N]
 fs:w.ownsRow W0.heap.size 3 1 (.slice (some ⟨gF,0,none⟩) N N) N (nmZ f N)
 xs:w.ownsRow W0.heap.size 3 1 (.slice (some ⟨gX,0,none⟩) N N) N (nmZ x N)
 ne:gF≠gX
 lo:W0.heap.size<=b
theorem RvM.keep {W0 w w1:World}{b gF gX N:Nat}{f x:Nat->Int}(h:RvM W0 w b gF gX N f x) (k:Below w.heap.size w w1):RvM W0 w1 b gF gX N f x:=
 ⟨h.bel.trans (k.mono h.bel.size),h.st.keep k,zab h.fs k,zab h.xs k,h.ne,h.lo⟩
theorem RvM.putX {W0 w:World}{b gF gX N:Nat}{f x:Nat->Int}(h:RvM W0 w b gF gX N f x) (i:Nat) (hi:i<N) (v:Int):RvM W0 (w.setCell ⟨gX,i,none⟩ (.int .i64 v)) b gF gX N f (fun j=>if j=i then v else x j):=by
 have hk:Kept [] [gX] w (w.setCell ⟨gX,i,none⟩ (.int .i64 v)):=(Kept.refl _ _ _).setCell _ _ (Or.inl (by simp))
 refine⟨h.bel.setCell (p:=⟨gX,i,none⟩) (zas h.xs gX rfl) _,h.st.far (p:=⟨gX,i,none⟩) (fun e=>zaq h.xs h.st (by decide) gX rfl e.symm) _,zal h.fs hk (by simp) (fun g e hm=>?_),?_,h.ne,h.lo⟩
 ·rw[List.mem_singleton.1 hm] at e
  simp[Value.ownBlock] at e
  exact h.ne e
 ·rw[<-zjj];exact za9 h.xs i hi _
theorem RvM.putF {W0 w:World}{b gF gX N:Nat}{f x:Nat->Int}(h:RvM W0 w b gF gX N f x) (i:Nat) (hi:i<N) (v:Int):RvM W0 (w.setCell ⟨gF,i,none⟩ (.int .i64 v)) b gF gX N (fun j=>if j=i then v else f j) x:=by
 have hk:Kept [] [gF] w (w.setCell ⟨gF,i,none⟩ (.int .i64 v)):=(Kept.refl _ _ _).setCell _ _ (Or.inl (by simp))
 refine⟨h.bel.setCell (p:=⟨gF,i,none⟩) (zas h.fs gF rfl) _,h.st.far (p:=⟨gF,i,none⟩) (fun e=>zaq h.fs h.st (by decide) gF rfl e.symm) _,?_,zal h.xs hk (by simp) (fun g e hm=>?_),h.ne,h.lo⟩
 ·rw[<-zjj];exact za9 h.fs i hi _
 ·rw[List.mem_singleton.1 hm] at e
  simp[Value.ownBlock] at e
  exact h.ne e.symm
theorem RvM.atF {W0 w:World}{b gF gX N:Nat}{f x:Nat->Int}(h:RvM W0 w b gF gX N f x) (i:Nat) (hi:i<N):w.cell? ⟨gF,i,none⟩=some (.int .i64 (f i))/\w.frozen? ⟨gF,i,none⟩=false:=by
 obtain⟨g,e,_,_,hc⟩:=zae h.fs (by omega)
 injection e with e;injection e with e;subst e
 obtain⟨h1,h2⟩:=hc i (by omega)
 exact⟨by rw[h1,zhk _ _ _ hi],h2⟩
theorem RvM.atX {W0 w:World}{b gF gX N:Nat}{f x:Nat->Int}(h:RvM W0 w b gF gX N f x) (i:Nat) (hi:i<N):w.cell? ⟨gX,i,none⟩=some (.int .i64 (x i))/\w.frozen? ⟨gX,i,none⟩=false:=by
 obtain⟨g,e,_,_,hc⟩:=zae h.xs (by omega)
 injection e with e;injection e with e;subst e
 obtain⟨h1,h2⟩:=hc i (by omega)
 exact⟨by rw[h1,zhk _ _ _ hi],h2⟩
theorem zh8:∀(args:Array Value) (W:World),(callFunc 153 args).run Tryz.prog W=.ok (.enter 153 args) W:=fun _ _=>by rfl
def zk3 (W0 w:World) (b gF gX N:Nat) (f x:Nat->Int) (e:Ending) (w':World):Prop:=e=.returned (.tuple #[])/\RvM W0 w' b gF gX N f x/\Kept [] [gF,gX] w w'
theorem zhl (W0 w:World) (b gF gX N:Nat) (f x:Nat->Int) (h:RvM W0 w b gF gX N f x) (i t:Nat) (hi:i<N) (ht:t<N):
  Calls Tryz.prog 153 #[.int .i64 (i:Int),.int .i64 (t:Int),.pointer (some ⟨b,0,none⟩)] w (zk3 W0 w b gF gX N (fun j=>if j=t then (i:Int) else f j) (fun j=>if j=i then f t else x j)):=by
 have c0:w.cell? ⟨b,0,none⟩=some (.slice (some ⟨gF,0,none⟩) N N):=h.st.at_ 0
 have c1:w.cell? ⟨b,1,none⟩=some (.slice (some ⟨gX,0,none⟩) N N):=h.st.at_ 1
 obtain⟨d0,d1⟩:=h.atF t ht
 obtain⟨d2,d3⟩:=h.atX i hi
 have hb1:gX≠b:=zaq h.xs h.st (by decide) gX rfl
 have hb2:gF≠b:=zaq h.fs h.st (by decide) gF rfl
 have hb3:b≠gX:=fun e=>hb1 e.symm
 have hb4:b≠gF:=fun e=>hb2 e.symm
 have hF:=hid ((h.putX i hi (f t)).putF t ht (i:Int))
 have e1:gX≠gF:=fun e=>h.ne e.symm
 have e2:gF≠gX:=h.ne
 have i1:(i:Int)<(N:Int):=by omega
 have i2:(t:Int)<(N:Int):=by omega
 clear h
 generalize f t=ft at d0 hF⊢
 generalize x i=xi at d2
 go_enter Tryz.func153,Tryz.ntmps153
 go_wp2_with fail
 go_region
 go_wp2_with fail
 go_end0
 exact⟨rfl,hF.out.keep (Below.refl _ _).drew,(((Kept.refl _ _ _).setCell _ _ (Or.inl (by simp))).setCell _ _ (Or.inl (by simp))).drew⟩
def tD (D:Dd) (i c:Nat):Nat:=if i<D.n/\0<=D.nx i c then (D.nx i c).toNat else D.n
theorem zh9 {D:Dd}{C:Nat}(h:DR D C) (i c:Nat) (hc:c<C):tD D i c<D.n+1:=by
 unfold tD
 split
 ·rename_i h1
  have:=h.nx i c h1.1 hc
  omega
 ·omega
def zhm (D:Dd) (c:Nat) (w:World) (e:Ending) (w':World):Prop:=
 ∃(gF gX:Nat) (f x:Nat->Int),e=.returned (.agg #[.slice (some ⟨gF,0,none⟩) (D.n+1) (D.n+1),.slice (some ⟨gX,0,none⟩) (D.n+1) (D.n+1)])/\
  w'.ownsRow w.heap.size 3 1 (.slice (some ⟨gF,0,none⟩) (D.n+1) (D.n+1)) (D.n+1) (nmZ f (D.n+1))/\w'.ownsRow w.heap.size 3 1 (.slice (some ⟨gX,0,none⟩) (D.n+1) (D.n+1)) (D.n+1) (nmZ x (D.n+1))/\
  (∀s,s<D.n+1->LL x (f s) (chain (fun i=>tD D i c) (D.n+1) s))/\Below w.heap.size w w'
theorem zeK (D:Dd) (C:Nat) (hR:DR D C) (c:Nat) (hc:c<C) (w:World) (hD:DM w D):
  Calls Tryz.prog 127 #[.agg D.cD,.int .i64 (c:Int)] w (zhm D c w):=by
 have hn2:=hR.n2
 obtain⟨N,hN⟩:∃N,D.n+1=N:=⟨_,rfl⟩
 have HRep:Hid (∀(W:World) (g:Nat),W.cell? ⟨g,0,none⟩=some (.int .i64 (-1))->g<W.heap.size->Calls Tryz.prog 54 #[.slice (some ⟨g,0,none⟩) 1 1,.int .i64 ((D.n:Int)+1)] W (zeS N W)):=fun W g h1 h2=>by
  have:=zee N (by omega) (by omega) g W h1 h2
  rw[<-hN] at this⊢
  exact this
 have HD:=hid hD
 have HB:=hid (And.intro (DBx.new hD) (And.intro (al w (.cells D.cD 39)) (And.intro hR hN)))
 clear hD hR hN
 go_enter Tryz.func127,Tryz.ntmps127
 go_upto_region 1 with fail
 obtain⟨W1,hW1⟩:∃W1,(w.alloc (.cells D.cD 39)).alloc (.cells #[.slice none 0 0,.slice none 0 0] 178)=W1:=⟨_,rfl⟩
 obtain⟨b0,hb0⟩:∃b0,w.heap.size=b0:=⟨_,rfl⟩
 have H1:Hid (DBx W1 b0 D/\St W1 178 (b0+1) #[.slice none 0 0,.slice none 0 0]/\Below b0 w W1):=by
  have k2:=al (w.alloc (.cells D.cD 39)) (.cells #[.slice none 0 0,.slice none 0 0] 178)
  rw[<-hW1,<-hb0]
  refine⟨HB.out.1.keep k2,?_,HB.out.2.1.trans (k2.mono (by simp))⟩
  have:=St.new (w.alloc (.cells D.cD 39)) 178 #[.slice none 0 0,.slice none 0 0]
  rw[show (w.alloc (.cells D.cD 39)).heap.size=w.heap.size+1 by simp] at this
  exact this
 have Hb0:=hid hb0
 rw[hW1,hb0]
 clear hW1 hb0
 have c1:=H1.out.1.f1
 go_wp2_with fail
 refine (HRep.out _ _ (by exact cell_one_new _ _ _ 0 _ rfl) (by simp)).mono ?_
 rintro e w5 ⟨gF,rfl,o5,b5⟩
 obtain⟨W5,hW5⟩:∃W5,W5=w5:=⟨_,rfl⟩
 have H5:Hid (w5.ownsRow b0 3 1 (.slice (some ⟨gF,0,none⟩) N N) N (nmZ (fun _=>-1) N)/\St w5 178 (b0+1) #[.slice none 0 0,.slice none 0 0]/\Below b0 w w5/\gF<w5.heap.size/\Below W1.heap.size W1 w5):=by
  have k1:=al W1 (.cells #[.int .i64 (-1)] 3)
  have hs1:=H1.out.2.2.size
  have hs0:b0<=W1.heap.size:=by have:=H1.out.2.1.lt;omega
  rw[zjk] at o5
  exact⟨zag o5 (by simp;omega),(H1.out.2.1.keep k1).keep b5,H1.out.2.2.trans ((k1.mono hs0).trans (b5.mono (by simp;omega))),zaE o5 gF rfl,k1.trans (b5.mono (by simp))⟩
 clear o5 b5 hW5 W5
 go_wp2_with fail
 refine (HRep.out _ _ (by exact cell_one_new _ _ _ 0 _ rfl) (by simp)).mono ?_
 rintro e w6 ⟨gX,rfl,o6,b6⟩
 have H6:Hid (w6.ownsRow b0 3 1 (.slice (some ⟨gF,0,none⟩) N N) N (nmZ (fun _=>-1) N)/\w6.ownsRow b0 3 1 (.slice (some ⟨gX,0,none⟩) N N) N (nmZ (fun _=>-1) N)/\St w6 178 (b0+1) #[.slice none 0 0,.slice none 0 0]/\Below b0 w w6/\gF≠gX/\Below W1.heap.size W1 w6):=by
  have k1:=al w5 (.cells #[.int .i64 (-1)] 3)
  have hs0:b0<=w5.heap.size:=by have:=H5.out.2.1.lt;omega
  rw[zjk] at o6
  have hge:=zas o6 gX rfl
  have hlt:=H5.out.2.2.2.1
  refine⟨zab (zab H5.out.1 k1) b6,zag o6 (by simp;omega),(H5.out.2.1.keep k1).keep b6,H5.out.2.2.1.trans ((k1.mono hs0).trans (b6.mono (by simp;omega))),?_,H5.out.2.2.2.2.trans ((k1.mono H5.out.2.2.2.2.size).trans (b6.mono (by have:=H5.out.2.2.2.2.size;simp;omega)))⟩
  rw[show (w5.alloc (.cells #[.int .i64 (-1)] 3)).heap.size=w5.heap.size+1 by simp] at hge
  omega
 clear o6 b6 H5 c1
 go_upto_region 3 with fail
 obtain⟨W7,hW7⟩:∃W7,w6.alloc (.cells #[.slice (some ⟨gF,0,none⟩) N N,.slice (some ⟨gX,0,none⟩) N N] 178)=W7:=⟨_,rfl⟩
 obtain⟨b6,hb6⟩:∃b6,w6.heap.size=b6:=⟨_,rfl⟩
 have H7:Hid (RvM w W7 b6 gF gX N (fun _=>-1) (fun _=>-1)/\St W7 178 (b0+1) #[.slice none 0 0,.slice none 0 0]/\b0+1≠b6/\Below W1.heap.size W1 W7):=by
  have k1:=al w6 (.cells #[.slice (some ⟨gF,0,none⟩) N N,.slice (some ⟨gX,0,none⟩) N N] 178)
  have hs0:=H6.out.2.2.1.lt
  rw[<-hW7,<-hb6]
  refine⟨⟨?_,St.new _ _ _,?_,?_,H6.out.2.2.2.2.1,?_⟩,H6.out.2.2.1.keep k1,by omega,H6.out.2.2.2.2.2.trans (k1.mono (H6.out.2.2.2.2.2.size))⟩
  ·rw[Hb0.out];exact H6.out.2.2.2.1.trans (k1.mono (by omega))
  ·rw[Hb0.out];exact zab H6.out.1 k1
  ·rw[Hb0.out];exact zab H6.out.2.1 k1
  ·rw[Hb0.out];omega
 rw[hW7,hb6]
 clear hW7 hb6 H6
 have hcl:=zh8
 have HN:=HB.out.2.2.2
 have c1:W7.cell? ⟨b0,256,none⟩=some (.slice D.aN D.n D.cN):=(H7.out.2.2.2.cell (p:=⟨b0,256,none⟩) H1.out.1.st.lt).trans H1.out.1.f1
 go_wp2_with fail
 go_loopw [8,9,10,27] (fun _ _ _ vk wr=>∃k:Nat,vk=.int .i64 k/\k<=D.n/\Hid (∃f x,RvM w wr b6 gF gX N f x/\St wr 178 (b0+1) #[.slice none 0 0,.slice none 0 0]/\∀s,s<N->LL x (f s) (chain (fun i=>tD D i c) k s))) (fun _ _ _ v _=>D.n-(intOf v).toNat)
 case atStart=>exact⟨0,rfl,Nat.zero_le _,_,_,H7.out.1,H7.out.2.1,fun s _=>rfl⟩
 case round=>
  obtain⟨k,rfl,hk,HL⟩:=hrel
  by_cases hlt:k<D.n
  ·obtain⟨f,x,hRv,hSt,hLL⟩:=HL.out
   obtain⟨gN,oN,eN,_,cN0⟩:=(HD.out.rN.below hRv.bel) (by omega)
   obtain⟨cN,zN⟩:=cN0 k hlt
   rw[HB.out.2.2.1.len k hlt] at cN zN
   have hC1:0<C:=by omega
   obtain⟨gA,oA,eA,_,cA0⟩:=zN hC1
   have cA:=cA0 c hc
   rw[eA] at cN
   have hnx:=HB.out.2.2.1.nx k c hlt hc
   obtain⟨t,ht⟩:∃t,tD D k c=t:=⟨_,rfl⟩
   have htN:t<N:=by rw[<-ht,<-HN];exact zh9 HB.out.2.2.1 k c hc
   have HC:=hid (zhl w wr b6 gF gX N f x hRv k t (by omega) htN)
   have HLN:=hid (LL.link (t:=fun i=>tD D i c) (k:=k) hLL (by show tD D k c<N;rw[ht];exact htN))
   have hne1:b0+1≠gF:=fun e=>zaq hRv.fs hSt (by decide) gF rfl e.symm
   have hne2:b0+1≠gX:=fun e=>zaq hRv.xs hSt (by decide) gX rfl e.symm
   have HStk:Hid (∀w',Kept [] [gF,gX] wr w'->St w' 178 (b0+1) #[.slice none 0 0,.slice none 0 0]):=fun w' hk=>hSt.kept hk (by simp) (by simp[hne1,hne2])
   have Ht:=hid ht
   have htd:(D.nx k c=-1/\t=D.n)\/(D.nx k c≠-1/\D.nx k c=(t:Int)):=by
    rw[<-ht]
    unfold tD
    by_cases h0:D.nx k c=-1
    ·exact Or.inl ⟨h0,by rw[if_neg (by omega)]⟩
    ·exact Or.inr ⟨h0,by rw[if_pos ⟨hlt,by omega⟩];omega⟩
   have i1:(k:Int)<(D.n:Int):=by omega
   have i2:(c:Int)<(C:Int):=by omega
   rw[eN]
   have HeN:=hid eN
   generalize D.nx k c=nx at cA htd
   clear cN0 zN cA0 hRv hSt hLL hnx ht eA HL c1 HN eN hne1 hne2
   rcases htd with ⟨rfl,rfl⟩|⟨h0,rfl⟩
   ·go_wp2_with fail
    refine HC.out.mono ?_
    rintro e w8 ⟨rfl,hRv8,hk8⟩
    have H8:=hid (And.intro hRv8 (HStk.out _ hk8))
    clear hRv8 hk8 HC cN cA
    go_wp2_with fail
    go_roundw
    case rel=>
     refine⟨k+1,by go_num,by omega,_,_,H8.out.1,H8.out.2,fun s hs=>?_⟩
     have:=HLN.out s hs
     simp only[Ht.out] at this
     exact this
    case measure=>simp[intOf];omega
   ·have i3:((t:Int) == -1)=false:=by rw[beq_eq_false_iff_ne];omega
    go_wp2_with fail
    refine HC.out.mono ?_
    rintro e w8 ⟨rfl,hRv8,hk8⟩
    have H8:=hid (And.intro hRv8 (HStk.out _ hk8))
    clear hRv8 hk8 HC cN cA
    go_wp2_with fail
    go_roundw
    case rel=>
     refine⟨k+1,by go_num,by omega,_,_,H8.out.1,H8.out.2,fun s hs=>?_⟩
     have:=HLN.out s hs
     simp only[Ht.out] at this
     exact this
    case measure=>simp[intOf];omega
  ·obtain rfl:k=D.n:=by omega
   obtain⟨f,x,hRv,hSt,hLL⟩:=HL.out
   have htn:tD D D.n c=D.n:=by unfold tD;rw[if_neg (by omega)]
   have HC:=hid (zhl w wr b6 gF gX N f x hRv D.n D.n (by omega) (by omega))
   have HLN:=hid (LL.link (t:=fun i=>tD D i c) (k:=D.n) hLL (by show tD D D.n c<N;rw[htn];omega))
   have hne1:b0+1≠gF:=fun e=>zaq hRv.fs hSt (by decide) gF rfl e.symm
   have hne2:b0+1≠gX:=fun e=>zaq hRv.xs hSt (by decide) gX rfl e.symm
   have HStk:Hid (∀w',Kept [] [gF,gX] wr w'->St w' 178 (b0+1) #[.slice none 0 0,.slice none 0 0]):=fun w' hk=>hSt.kept hk (by simp) (by simp[hne1,hne2])
   have Htn:=hid htn
   have HNe:=hid HN
   clear hRv hSt hLL htn HL c1 HN hne1 hne2
   go_wp2_with fail
   refine HC.out.mono ?_
   rintro e w8 ⟨rfl,hRv8,hk8⟩
   have hS8:=HStk.out _ hk8
   have s0:w8.cell? ⟨b6,0,none⟩=some (.slice (some ⟨gF,0,none⟩) N N):=hRv8.st.at_ 0
   have s1:w8.cell? ⟨b6,1,none⟩=some (.slice (some ⟨gX,0,none⟩) N N):=hRv8.st.at_ 1
   have s2:w8.cell? ⟨b0+1,0,none⟩=some (.slice none 0 0):=hS8.at_ 0
   have s3:w8.cell? ⟨b0+1,1,none⟩=some (.slice none 0 0):=hS8.at_ 1
   have z2:=hS8.thaw_ 0
   have z3:=hS8.thaw_ 1
   have H8:=hid (And.intro hRv8 hS8)
   clear hRv8 hS8 hk8 HC
   have HF:Hid (zhm D c w (.returned (.agg #[.slice (some ⟨gF,0,none⟩) N N,.slice (some ⟨gX,0,none⟩) N N])) ((w8.setCell ⟨b0+1,0,none⟩ (.slice (some ⟨gF,0,none⟩) N N)).setCell ⟨b0+1,1,none⟩ (.slice (some ⟨gX,0,none⟩) N N))):=by
    have hk:Kept [] [b0+1] w8 ((w8.setCell ⟨b0+1,0,none⟩ (.slice (some ⟨gF,0,none⟩) N N)).setCell ⟨b0+1,1,none⟩ (.slice (some ⟨gX,0,none⟩) N N)):=((Kept.refl _ _ _).setCell _ _ (Or.inl (by simp))).setCell _ _ (Or.inl (by simp))
    have o1:=zal H8.out.1.fs hk (by simp) (fun g e hm=>zaq H8.out.1.fs H8.out.2 (by decide) g e (List.mem_singleton.1 hm))
    have o2:=zal H8.out.1.xs hk (by simp) (fun g e hm=>zaq H8.out.1.xs H8.out.2 (by decide) g e (List.mem_singleton.1 hm))
    refine⟨gF,gX,_,_,by rw[HNe.out],by rw[HNe.out];exact o1,by rw[HNe.out];exact o2,fun s hs=>?_,?_⟩
    ·have:=HLN.out s (by rw[<-HNe.out];exact hs)
     simp only[Htn.out] at this
     exact this
    ·have hb:=Hb0.out
     exact (H8.out.1.bel.setCell (p:=⟨b0+1,0,none⟩) (by show w.heap.size<=b0+1;omega) _).setCell (p:=⟨b0+1,1,none⟩) (by show w.heap.size<=b0+1;omega) _
   go_wp2_with fail
   refine bodyPost_ret (v:=.agg #[.slice (some ⟨gF,0,none⟩) N N,.slice (some ⟨gX,0,none⟩) N N]) (by simp[results,Tryz.results127,go_sem,z2,z3,s2,s3]) rfl ?_
   exact HF.out
def srcs (t:Nat->Nat) (N:Nat) (T:List Nat):List Nat:=T.flatMap (chain t N)
theorem zeL (t:Nat->Nat) (N:Nat) (T:List Nat) (i:Nat):i∈srcs t N T↔i<N/\t i∈T:=by
 unfold srcs
 rw[List.mem_flatMap]
 constructor
 ·rintro⟨s,hs,h⟩
  obtain⟨h1,h2⟩:=(zbZ t N s i).1 h
  exact⟨h1,by rw[h2];exact hs⟩
 ·rintro⟨h1,h2⟩
  exact⟨t i,h2,(zbZ t N _ i).2 ⟨h1,rfl⟩⟩
theorem zea (t:Nat->Nat) (N:Nat):∀(T:List Nat),T.Nodup->(srcs t N T).Nodup:=by
 intro T
 induction T with
 | nil=>intro _;simp[srcs]
 | cons s T ih=>
  intro h
  have h2:=List.nodup_cons.1 h
  show (chain t N s++srcs t N T).Nodup
  rw[List.nodup_append]
  refine⟨zgo t N s,ih h2.2,fun a ha b hb e=>?_⟩
  subst e
  have h3:=((zbZ t N s a).1 ha).2
  have h4:=((zeL t N T a).1 hb).2
  rw[h3] at h4
  exact h2.1 h4
theorem zjl (t:Nat->Nat) (N:Nat) (T:List Nat) (k:Nat) (h:k<T.length):srcs t N (T.take (k+1))=srcs t N (T.take k)++chain t N T[k]:=by
 unfold srcs
 rw[zce _ _ h,zaH _ _ _ h,List.flatMap_append]
 simp
structure Col9 (V:World) (B:Nat) (ls:List Nat) (l:List Nat) (v:Value) (w:World):Prop where
 kept:Kept [] ls V w
 below:Below B V w
 own:w.ownsRow B 3 1 v l.length (zai l)
 loc:∀g,v.ownBlock=some g->g∈ls\/V.heap.size<=g
 lo:B<=V.heap.size
theorem Col9.keep {V:World}{B:Nat}{ls l:List Nat}{v:Value}{w w1:World}(h:Col9 V B ls l v w) (k:Below w.heap.size w w1):Col9 V B ls l v w1:=
 ⟨h.kept.below k,h.below.trans (k.mono (Nat.le_trans h.lo h.below.size)),zab h.own k,h.loc,h.lo⟩
theorem Col9.app {V:World}{B q:Nat}{ls l:List Nat}{v v':Value}{w w':World}{x:Nat}(h:Col9 V B ls l v w) (hq:l.length=q) (ho:w'.ownsRow B 3 1 v' (q+1) (zai l++[.int .i64 (x:Int)])) (hg:w.grownBy w' v.ownBlock) (hat:v'.ownBlock=v.ownBlock\/v'.ownBlock=some w.heap.size):Col9 V B ls (l++[x]) v' w':=by
 subst hq
 have hB:B<=w.heap.size:=Nat.le_trans h.lo h.below.size
 refine⟨h.kept.grown hg (fun g e=>(h.loc g e).elim Or.inl (fun x=>Or.inr (Or.inl x))),zac h.below h.own hB hg,?_,fun g e=>?_,h.lo⟩
 ·rw[zaL,List.length_append];exact ho
 ·rcases hat with e1|e1
  ·exact h.loc g (by rw[<-e1];exact e)
  ·rw[e] at e1;injection e1 with e1;exact Or.inr (by have:=h.below.size;omega)
def zdv:Value->Nat
 | .slice _ n _=>n
 | _=>0
def zeM (B:Nat) (ls l:List Nat) (w:World) (e:Ending) (w':World):Prop:=∃a c,e=.returned (.slice a l.length c)/\Col9 w B ls l (.slice a l.length c) w'
theorem zk4 (N:Nat) (hN:N<=100000) (t:Nat->Nat) (ht:∀i,i<N->t i<N) (f x:Nat->Int) (hLL:∀s,s<N->LL x (f s) (chain t N s)) (gF gX:Nat) (B B1:Nat) (aS:Option Addr) (cS:Nat) (T:List Nat) (m:Nat) (hm:T.length=m) (hT:T.Nodup) (hTl:∀s∈T,s<N) (aT:Option Addr) (cT:Nat) (w:World)
  (oF:w.ownsRow B1 3 1 (.slice (some ⟨gF,0,none⟩) N N) N (nmZ f N)) (oX:w.ownsRow B1 3 1 (.slice (some ⟨gX,0,none⟩) N N) N (nmZ x N)) (oS:w.ownsRow B 3 1 (.slice aS 0 cS) 0 []) (hB:B<=w.heap.size) (hL:LAt w aT T)
  (ls:List Nat) (hls:ls=(Value.slice aS 0 cS).ownBlock.toList) (nF:gF∉ls) (nX:gX∉ls) (nT:∀ad,aT=some ad->ad.block∉ls):
  Calls Tryz.prog 129 #[.agg #[.slice (some ⟨gF,0,none⟩) N N,.slice (some ⟨gX,0,none⟩) N N],.slice aS 0 cS,.slice aT m cT] w (zeM B ls (srcs t N T) w):=by
 have hmN:m<=N:=by rw[<-hm];exact zax hT hTl
 have hsl:∀k,k<=m->(srcs t N (T.take k)).length<=N:=fun k hk=>zax (zea t N _ (hT.sublist (List.take_sublist _ _))) (fun i hi=>((zeL t N _ i).1 hi).1)
 have hbls:∀g∈ls,g<w.heap.size:=fun g hg=>by
  rw[hls] at hg
  exact zaE oS g (by simpa using hg)
 have h0:Col9 w B ls [] (.slice aS 0 cS) w:=⟨Kept.refl _ _ _,Below.refl _ _,oS,fun g e=>Or.inl (by rw[hls];simpa using e),hB⟩
 have k1:=al w (.cells #[.slice (some ⟨gF,0,none⟩) N N,.slice (some ⟨gX,0,none⟩) N N] 178)
 have hC1:=h0.keep k1
 have hS1:=St.new w 178 #[.slice (some ⟨gF,0,none⟩) N N,.slice (some ⟨gX,0,none⟩) N N]
 have HX:=hid (And.intro ht (And.intro hLL (And.intro hm (And.intro hT (And.intro hTl (And.intro oF (And.intro oX (And.intro hL (And.intro nF (And.intro nX (And.intro nT (And.intro hsl hbls))))))))))))
 obtain⟨b3,hb3⟩:∃b3,w.heap.size=b3:=⟨_,rfl⟩
 have hb3l:b3∉ls:=fun hm2=>by have:=hbls b3 hm2;omega
 rw[hb3] at hS1
 have H1:=hid (And.intro hC1 (And.intro hS1 hb3l))
 have hB3:=hid hb3
 clear ht hLL hm hT hTl oF oX oS hB hL hls nF nX nT hsl hbls h0 k1 hC1 hS1 hb3l
 go_enter Tryz.func129,Tryz.ntmps129
 go_upto_region 1 with fail
 generalize w.alloc (.cells #[.slice (some ⟨gF,0,none⟩) N N,.slice (some ⟨gX,0,none⟩) N N] 178)=W1 at H1⊢
 clear hb3
 go_wp2_with fail
 go_loopw [1,8,9,12] (fun v1 _ _ vk wr=>∃(k p:Nat) (a:Option Addr) (c:Nat),vk=.int .i64 k/\k<=m/\p<=N/\v1=.slice a p c/\Hid ((srcs t N (T.take k)).length=p/\Col9 w B ls (srcs t N (T.take k)) (.slice a p c) wr/\St wr 178 b3 #[.slice (some ⟨gF,0,none⟩) N N,.slice (some ⟨gX,0,none⟩) N N])) (fun _ _ _ v _=>m-(intOf v).toNat)
 case atStart=>exact⟨0,0,aS,cS,rfl,Nat.zero_le _,Nat.zero_le _,rfl,rfl,H1.out.1,H1.out.2.1⟩
 case round=>
  obtain⟨k,p,a,c,rfl,hk,hpN,rfl,HL⟩:=hrel
  by_cases hlt:k<m
  ·have hkl:k<T.length:=by rw[HX.out.2.2.1];exact hlt
   obtain⟨gT,oT,eT,_,hc0⟩:=(LAt.kept9 HX.out.2.2.2.2.2.2.2.1 HL.out.2.1.kept HL.out.2.1.below.size HX.out.2.2.2.2.2.2.2.2.2.2.1) (by omega)
   have hcT:wr.cell? ⟨gT,oT+k,none⟩=some (.int .i64 ((T.getD k 0:Nat):Int)):=hc0 k hkl
   rw[zaH _ _ _ hkl] at hcT
   have hsN:=HX.out.2.2.2.2.1 _ (List.getElem_mem hkl)
   have hst:=zjl t N T k hkl
   have hLLs:=HX.out.2.1 _ hsN
   have hsl1:=HX.out.2.2.2.2.2.2.2.2.2.2.2.1 (k+1) (by omega)
   rw[hst] at hsl1
   have Hst:=hid hst
   obtain⟨s,hs⟩:∃s,T[k]=s:=⟨_,rfl⟩
   rw[hs] at hcT hsN hLLs hsl1 Hst
   clear hs hst hc0
   obtain⟨P0,hP0⟩:∃P0,srcs t N (T.take k)=P0:=⟨_,rfl⟩
   rw[hP0] at hsl1 Hst HL
   obtain⟨cF,hcF⟩:∃cF:Nat->Int,cF=f:=⟨f,rfl⟩
   have oFr:=zal HX.out.2.2.2.2.2.1 HL.out.2.1.kept (by simp) (fun g e hm2=>by simp[Value.ownBlock] at e;rw[<-e] at hm2;exact HX.out.2.2.2.2.2.2.2.2.1 hm2)
   obtain⟨gF',eF,_,_,cFr⟩:=zae oFr (by omega)
   injection eF with eF;injection eF with eF
   subst eF
   have d0:=(cFr s (by omega)).1
   rw[zhk _ _ _ hsN] at d0
   have s0:wr.cell? ⟨b3,0,none⟩=some (.slice (some ⟨gF,0,none⟩) N N):=HL.out.2.2.at_ 0
   have i1:(k:Int)<(m:Int):=by omega
   have i2:(s:Int)<(N:Int):=by omega
   rw[eT]
   have HeT:=hid eT
   have HsL:=hid (And.intro hLLs hsl1)
   clear cFr oFr eT hLLs hsl1 hP0 hcF
   obtain⟨fs,hfs⟩:∃fs,f s=fs:=⟨_,rfl⟩
   rw[hfs] at d0 HsL
   clear hfs
   go_wp2_with fail
   obtain⟨W9,hW9⟩:∃W9,W9=wr:=⟨wr,rfl⟩
   clear hW9 W9 d0 s0 hcT
   go_loopw [1,9] (fun v1 v9 wq=>∃(u:Int) (dn rest:List Nat) (p2:Nat) (a2:Option Addr) (c2:Nat),v9=.int .i64 u/\p2<=N/\v1=.slice a2 p2 c2/\Hid (chain t N s=dn++rest/\LL x u rest/\(P0++dn).length=p2/\Col9 w B ls (P0++dn) (.slice a2 p2 c2) wq/\St wq 178 b3 #[.slice (some ⟨gF,0,none⟩) N N,.slice (some ⟨gX,0,none⟩) N N])) (fun v1 _ _=>N-zdv v1)
   case atStart=>exact⟨fs,[],chain t N s,p,a,c,rfl,hpN,rfl,rfl,HsL.out.1,by simpa using HL.out.1,by simpa using HL.out.2.1,HL.out.2.2⟩
   case round=>
    obtain⟨u,dn,rest,p2,a2,c2,rfl,hp2,rfl,HK⟩:=hrel
    rcases rest with _|⟨y,rest⟩
    ·obtain rfl:u=-1:=HK.out.2.1
     have HZ:Hid (srcs t N (T.take (k+1))=P0++dn):=by
      show _=_
      rw[Hst.out,HK.out.1,List.append_nil]
     have HZ2:Hid ((P0++dn).length=p2/\Col9 w B ls (P0++dn) (.slice a2 p2 c2) wr/\St wr 178 b3 #[.slice (some ⟨gF,0,none⟩) N N,.slice (some ⟨gX,0,none⟩) N N]):=HK.out.2.2
     clear HK HL
     go_wp2_with fail
     go_roundw
     case rel=>exact⟨k+1,p2,a2,c2,by go_num,by omega,hp2,rfl,by rw[HZ.out];exact HZ2.out⟩
     case measure=>simp[intOf];omega
    ·obtain⟨rfl,hLL2⟩:u=(y:Int)/\LL x (x y) rest:=HK.out.2.1
     have hy:y∈chain t N s:=by rw[HK.out.1];simp
     have hyN:=((zbZ t N s y).1 hy).1
     have hp3:p2+1<=N:=by
      have h1:=HsL.out.2
      rw[HK.out.1] at h1
      have h2:=HK.out.2.2.1
      simp at h1 h2
      omega
     have oXr:=zal HX.out.2.2.2.2.2.2.1 HK.out.2.2.2.1.kept (by simp) (fun g e hm2=>by simp[Value.ownBlock] at e;rw[<-e] at hm2;exact HX.out.2.2.2.2.2.2.2.2.2.1 hm2)
     have HoX:=hid oXr
     have hO:=HK.out.2.2.2.1.own
     rw[HK.out.2.2.1] at hO
     have hlo:B<=wr.heap.size:=Nat.le_trans HK.out.2.2.2.1.lo HK.out.2.2.2.1.below.size
     obtain⟨i0,hi,hz0,hz1,hz2⟩:=info_parts Tryz.info_int9
     have i3:((y:Int) != -1)=true:=by first|(simp;done)|(simp;omega)
     have i4:(y:Int)<(N:Int):=by omega
     have HyL:=hid hLL2
     clear hy oXr hLL2
     go_wp2_with (at_builtin;refine wpList_append_own_at _ rfl _ _ 30 rfl B 3 i0 (.int .i64 0) 1 8 Tryz.underlying30 hi hz0 hz1 hz2 rfl (by decide) _ _ _ rfl (hO.alloc _) ⟨wr.heap.size,0,none⟩ 1 1 [.int .i64 (y:Int)] rfl rfl (cell_one_new _ _ _) ?d2 ?d3 ?d4 ?d5 ?_)
     case d2=>first|(intro u hu;simp at hu;subst hu;rfl)|rfl
     case d3=>unfold maxLen;omega
     case d4=>omega
     case d5=>first|(simp;omega)|omega
     intro v' w5 hown5 hgrow5 _ hat5
     obtain⟨a5,c5,rfl⟩:=zaa hown5
     have HK5:Hid (Col9 w B ls (P0++(dn++[y])) (.slice a5 (p2+1) c5) w5/\St w5 178 b3 #[.slice (some ⟨gF,0,none⟩) N N,.slice (some ⟨gX,0,none⟩) N N]):=by
      have h2:=HK.out.2.2.2.1.keep (al wr (.cells #[.int .i64 (y:Int)] 3))
      have h3:=h2.app (v':=.slice a5 (p2+1) c5) HK.out.2.2.1 hown5 hgrow5 (by
       rw[show (wr.alloc (.cells #[.int .i64 (y:Int)] 3)).heap.size=wr.heap.size+1 by simp]
       exact hat5)
      rw[<-List.append_assoc]
      exact⟨h3,(HK.out.2.2.2.2.alloc _).grown_own (hO.alloc _) (by decide) hgrow5⟩
     have s1:w5.cell? ⟨b3,1,none⟩=some (.slice (some ⟨gX,0,none⟩) N N):=HK5.out.2.at_ 1
     have oX5:=zal HX.out.2.2.2.2.2.2.1 HK5.out.1.kept (by simp) (fun g e hm2=>by simp[Value.ownBlock] at e;rw[<-e] at hm2;exact HX.out.2.2.2.2.2.2.2.2.2.1 hm2)
     obtain⟨gX',eX,_,_,cXr⟩:=zae oX5 (by omega)
     injection eX with eX;injection eX with eX
     subst eX
     have d1:=(cXr y (by omega)).1
     rw[zhk _ _ _ hyN] at d1
     obtain⟨xy,hxy⟩:∃xy,x y=xy:=⟨_,rfl⟩
     rw[hxy] at d1 HyL
     have HKd:Hid (chain t N s=(dn++[y])++rest/\(P0++(dn++[y])).length=p2+1):=by
      have h1:=HK.out.1
      have h2:=HK.out.2.2.1
      refine⟨by rw[h1];simp,?_⟩
      simp at h2⊢
      omega
     clear hown5 hgrow5 hat5 oX5 cXr hxy hO HK HoX
     go_wp2_with fail
     go_roundw
     case rel=>exact⟨xy,dn++[y],rest,p2+1,a5,c5,rfl,hp3,rfl,HKd.out.1,HyL.out,HKd.out.2,HK5.out.1,HK5.out.2⟩
     case measure=>simp[zdv];omega
  ·obtain rfl:k=m:=by omega
   have HF:Hid (zeM B ls (srcs t N T) w (.returned (.slice a p c)) wr):=by
    have h1:=HL.out
    rw[List.take_of_length_le (by rw[HX.out.2.2.1];exact Nat.le_refl _)] at h1
    refine⟨a,c,by rw[h1.1],?_⟩
    rw[h1.1]
    exact h1.2.1
   clear HL
   go_wp2_with fail
   go_ret
   exact HF.out
theorem PtM.kept9 {V:World}{B b:Nat}{bs ls:List Nat}{v:Nat->Value}{vS:Value}{P:Pt}{w w':World}(h:PtM V B bs b v vS P w) (k:Kept [] ls w w') (hB:Below B w w') (h1:∀x∈ls,x∉pblks b v vS) (h2:∀x∈ls,V.heap.size<=x\/x∈bs):PtM V B bs b v vS P w':=by
 refine⟨fun g o hg ho hn=>?_,h.below.trans hB,h.st.kept k (by simp) (fun hm=>h1 _ hm (zaN.2 (Or.inl rfl))),fun i hi=>zal (h.row i hi) k (by simp) (fun g e hm=>h1 _ hm (zaN.2 (Or.inr (Or.inr ⟨i,hi,e⟩)))),h.sep,zal h.spn k (by simp) (fun g e hm=>h1 _ hm (zaN.2 (Or.inr (Or.inl e)))),h.loc,h.locS,h.inb,h.lo⟩
 refine k g o (h.kept g o hg ho hn) ho (fun hm=>?_)
 rcases h2 g hm with h3|h3
 ·have:=(Array.getElem?_eq_some_iff.1 hg).1;omega
 ·exact hn h3
theorem PtM.blt {V:World}{B b:Nat}{bs:List Nat}{v:Nat->Value}{vS:Value}{P:Pt}{w:World}(h:PtM V B bs b v vS P w):∀x∈pblks b v vS,x<w.heap.size:=fun x hx=>by
 rcases zaN.1 hx with rfl|e|⟨i,hi,e⟩
 ·exact h.st.lt
 ·exact zaE h.spn x e
 ·exact zaE (h.row i hi) x e
def mD (D:Dd) (i:Nat):Int:=if i<D.n then D.q i else -1
def mkL (D:Dd) (μ:Int):List Nat:=(List.range D.n).filter fun i=>D.q i == μ
theorem zeN (D:Dd) (μ:Int) (i:Nat):i∈mkL D μ↔i<D.n/\D.q i=μ:=by simp[mkL]
theorem zcx (D:Dd) (μ:Int):(mkL D μ).Nodup:=List.Nodup.sublist List.filter_sublist List.nodup_range
theorem znc (D:Dd) (μ:Int):(mkL D μ).length<=D.n:=zax (zcx D μ) (fun i hi=>((zeN D μ i).1 hi).1)
theorem zhn (D:Dd) (μ:Int) (h:0<=μ) (i:Nat):i∈mkL D μ↔mD D i=μ:=by
 rw[zeN]
 unfold mD
 split
 ·rename_i h1;exact⟨fun h=>h.2,fun h=>⟨h1,h⟩⟩
 ·rename_i h1;exact⟨fun h=>absurd h.1 h1,fun h=>by omega⟩
structure MkI (D:Dd) (C:Nat) (P:Pt) (ms:List Int):Prop where
 h:HopI (D.n+1) C (tD D) (mD D) P C (fun _=>False)
 m:∀μ∈ms,∀x y,x<D.n+1->y<D.n+1->P.b x=P.b y->(mD D x=μ↔mD D y=μ)
 mu:P.mu (D.n+1)=D.n
theorem MkI.start (D:Dd) (C:Nat):MkI D C (wholeP (D.n+1)) []:=⟨HopI.start (by omega),fun μ h=>by simp at h,by rw[zkM _ (by omega)];omega⟩
theorem MkI.step {D:Dd}{C:Nat}{P:Pt}{ms:List Int}(hR:DR D C) (h:MkI D C P ms) (μ:Int) (hμ:0<=μ):MkI D C (divF P (mkL D μ)) (ms++[μ]):=by
 have hl:∀x∈mkL D μ,x<D.n+1:=fun x hx=>by have:=((zeN D μ x).1 hx).1;omega
 have hd:=zfl h.h.pz (mkL D μ) (zcx D μ) hl
 refine⟨h.h.divide (fun x c _ hc=>zh9 hR x c hc) _ (zcx D μ) hl (fun x y hx hy he=>by rw[zhn D μ hμ,zhn D μ hμ,he.mark]),fun ν hν x y hx hy hb=>?_,by rw[hd.mu];exact h.mu⟩
 have h2:=(hd.b x y hx hy).1 hb
 rcases List.mem_append.1 hν with h3|h3
 ·exact h.m ν h3 x y hx hy h2.1
 ·rw[List.mem_singleton.1 h3,<-zhn D μ hμ,<-zhn D μ hμ]
  exact h2.2
theorem MkI.done {D:Dd}{C:Nat}{P:Pt}{ms:List Int}(hR:DR D C) (h:MkI D C P ms) (hms:∀μ∈ms,0<=μ) (hall:∀i,i<D.n->0<=D.q i->D.q i∈ms):∀x y,x<D.n+1->y<D.n+1->P.b x=P.b y->mD D x=mD D y:=by
 have one:∀x y,x<D.n+1->y<D.n+1->P.b x=P.b y->mD D x≠-1->mD D x=mD D y:=fun x y hx hy hb hne=>by
  have hxn:x<D.n:=by
   refine Classical.byContradiction fun h0=>hne ?_
   unfold mD;rw[if_neg h0]
  have hq:mD D x=D.q x:=by unfold mD;rw[if_pos hxn]
  have:=hR.q x hxn
  have hm:=hall x hxn (by omega)
  rw[<-hq] at hm
  exact ((h.m _ hm x y hx hy hb).1 rfl).symm
 intro x y hx hy hb
 by_cases h1:mD D x=-1
 ·by_cases h2:mD D y=-1
  ·rw[h1,h2]
  ·exact (one y x hy hx hb.symm h2).symm
 ·exact one x y hx hy hb h1
def zjm (D:Dd) (w:World) (e:Ending) (w':World):Prop:=
 ∃(ms:List Int) (aM:Option Addr) (cM:Nat) (A:Nat->Option Addr) (Cp:Nat->Nat),e=.returned (.slice aM ms.length cM)/\(∀μ∈ms,0<=μ)/\(∀i,i<D.n->0<=D.q i->D.q i∈ms)/\ms.length<=D.n/\Below w.heap.size w w'/\
  w'.ownsRow w.heap.size 30 1 (.slice aM ms.length cM) ms.length ((List.range ms.length).map fun j=>.slice (A j) (mkL D (ms.getD j 0)).length (Cp j))/\
  ∀j,j<ms.length->w'.ownsRow w.heap.size 3 1 (.slice (A j) (mkL D (ms.getD j 0)).length (Cp j)) (mkL D (ms.getD j 0)).length (zai (mkL D (ms.getD j 0)))
def zgp (D:Dd) (C:Nat) (w:World) (e:Ending) (w':World):Prop:=
 ∃(bl:List Nat) (a:Option Addr) (c:Nat),e=.returned (.slice a (D.n+1) c)/\bl.length=D.n+1/\(∀x∈bl,x<=D.n+1)/\D.n+1<=c/\w'.ownsRow w.heap.size 3 1 (.slice a (D.n+1) c) (D.n+1) (zai bl)/\
  (∀x y,x<D.n+1->y<D.n+1->(bl.getD x 0=bl.getD y 0↔Eqv C (tD D) (mD D) x y))/\Below w.heap.size w w'
theorem Tryz.info_rev9:(Tryz.prog.info? 178).map (fun i=>(i.zero,i.size,i.bytes))=some (some (.agg #[.slice none 0 0,.slice none 0 0]),2,48):=by kernel_rfl
def rvs (N:Nat) (gF gX:Nat->Nat):Nat->List Value
 | 0=>[]
 | c+1=>rvs N gF gX c++[.slice (some ⟨gF c,0,none⟩) N N,.slice (some ⟨gX c,0,none⟩) N N]
theorem znd (N:Nat) (gF gX:Nat->Nat) (c:Nat):(rvs N gF gX c).length=c*2:=by
 induction c with
 | zero=>rfl
 | succ c ih=>simp[rvs,ih];omega
theorem zfw (N:Nat) {gF gX gF' gX':Nat->Nat}:∀(c:Nat),(∀i,i<c->gF i=gF' i/\gX i=gX' i)->rvs N gF gX c=rvs N gF' gX' c
 | 0,_=>rfl
 | c+1,h=>by
   unfold rvs
   rw[zfw N c (fun i hi=>h i (by omega)),(h c (by omega)).1,(h c (by omega)).2]
theorem zmk (N:Nat) (gF gX:Nat->Nat) (c i:Nat) (h:i<c):(rvs N gF gX c)[i*2]?=some (.slice (some ⟨gF i,0,none⟩) N N)/\(rvs N gF gX c)[i*2+1]?=some (.slice (some ⟨gX i,0,none⟩) N N):=by
 induction c with
 | zero=>omega
 | succ c ih=>
  have hl:=znd N gF gX c
  unfold rvs
  by_cases e:i=c
  ·subst e
   rw[List.getElem?_append_right (by omega),List.getElem?_append_right (by omega),hl]
   simp
  ·rw[List.getElem?_append_left (by omega),List.getElem?_append_left (by omega)]
   exact ih (by omega)
structure BkI (D:Dd) (N:Nat) (W3:World) (c:Nat) (vB:Value) (gF gX:Nat->Nat) (f x:Nat->Nat->Int) (w:World):Prop where
 below:Below W3.heap.size W3 w
 own:w.ownsRow W3.heap.size 178 2 vB c (rvs N gF gX c)
 F:∀i,i<c->w.ownsRow W3.heap.size 3 1 (.slice (some ⟨gF i,0,none⟩) N N) N (nmZ (f i) N)
 X:∀i,i<c->w.ownsRow W3.heap.size 3 1 (.slice (some ⟨gX i,0,none⟩) N N) N (nmZ (x i) N)
 L:∀i,i<c->∀s,s<N->LL (x i) (f i s) (chain (fun k=>tD D k i) N s)
theorem BkI.keep {D:Dd}{N c:Nat}{W3 w w1:World}{vB:Value}{gF gX:Nat->Nat}{f x:Nat->Nat->Int}(h:BkI D N W3 c vB gF gX f x w) (k:Below w.heap.size w w1):BkI D N W3 c vB gF gX f x w1:=
 ⟨h.below.trans (k.mono h.below.size),zab h.own k,fun i hi=>zab (h.F i hi) k,fun i hi=>zab (h.X i hi) k,h.L⟩
theorem BkI.app {D:Dd}{N c:Nat}{W3 w w':World}{vB vB':Value}{gF gX:Nat->Nat}{f x:Nat->Nat->Int}{pF pX:Nat}{fc xc:Nat->Int}(h:BkI D N W3 c vB gF gX f x w) (oF:w.ownsRow W3.heap.size 3 1 (.slice (some ⟨pF,0,none⟩) N N) N (nmZ fc N)) (oX:w.ownsRow W3.heap.size 3 1 (.slice (some ⟨pX,0,none⟩) N N) N (nmZ xc N)) (hL:∀s,s<N->LL xc (fc s) (chain (fun k=>tD D k c) N s))
  (ho:w'.ownsRow W3.heap.size 178 2 vB' (c+1) (rvs N gF gX c++[.slice (some ⟨pF,0,none⟩) N N,.slice (some ⟨pX,0,none⟩) N N])) (hg:w.grownBy w' vB.ownBlock):
  BkI D N W3 (c+1) vB' (fun i=>if i=c then pF else gF i) (fun i=>if i=c then pX else gX i) (fun i=>if i=c then fc else f i) (fun i=>if i=c then xc else x i) w':=by
 have kp:∀{v:Value}{xs:List Value},w.ownsRow W3.heap.size 3 1 v N xs->w'.ownsRow W3.heap.size 3 1 v N xs:=fun o=>zav o h.own (by decide) hg
 refine⟨zac h.below h.own h.below.size hg,?_,fun i hi=>?_,fun i hi=>?_,fun i hi=>?_⟩
 ·have e:rvs N (fun i=>if i=c then pF else gF i) (fun i=>if i=c then pX else gX i) (c+1)=rvs N gF gX c++[.slice (some ⟨pF,0,none⟩) N N,.slice (some ⟨pX,0,none⟩) N N]:=by
   show rvs N _ _ c++_=_
   rw[zfw N (gF':=gF) (gX':=gX) c (fun i hi=>⟨if_neg (by omega),if_neg (by omega)⟩)]
   simp
  rw[e];exact ho
 ·by_cases e:i=c
  ·simp only[if_pos e];exact kp oF
  ·simp only[if_neg e];exact kp (h.F i (by omega))
 ·by_cases e:i=c
  ·simp only[if_pos e];exact kp oX
  ·simp only[if_neg e];exact kp (h.X i (by omega))
 ·by_cases e:i=c
  ·simp only[if_pos e];rw[e];exact hL
  ·simp only[if_neg e];exact h.L i (by omega)
def cl9 (b i:Nat) (w:World):Nat:=match w.cell? ⟨b,i,none⟩ with
 | some v=>zdv v
 | none=>0
def muW (b N:Nat) (v9:Value) (w:World):Nat:=(N-cl9 b 3 w)+cl9 b 5 w+(if zdv v9=0 then 0 else 1)
theorem zjn {V:World}{B b:Nat}{bs:List Nat}{v:Nat->Value}{vS:Value}{P:Pt}{w:World}(h:PtM V B bs b v vS P w) (N:Nat) (v9:Value):muW b N v9 w=P.mu N+(if zdv v9=0 then 0 else 1):=by
 have h1:cl9 b 3 w=P.sp.length:=by
  unfold cl9
  rw[h.cellS.1]
  obtain⟨a,c,e⟩:=zaa h.spn
  show zdv vS=_
  rw[e];rfl
 have h2:cl9 b 5 w=(P.L 4).length:=by
  unfold cl9
  rw[h.c4.1]
  obtain⟨a,c,e⟩:=h.sl0 4 (by omega) rfl
  show zdv (v 4)=_
  rw[e];rfl
 unfold muW Pt.mu
 rw[h1,h2]
end Go.Proofs.YtjehgdjlncofeaaGreat
