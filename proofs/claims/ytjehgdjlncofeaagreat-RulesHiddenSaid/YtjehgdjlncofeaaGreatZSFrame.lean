import Derived.Test.YtjehgdjlncofeaaGreatZSVar
set_option linter.unusedVariables false
set_option linter.unusedSimpArgs false
set_option maxHeartbeats 2000000
set_option maxRecDepth 100000
open Go.Lib (hid)
namespace Go.Proofs.YtjehgdjlncofeaaGreat
open Go.ChangeShapes Go.WideShapes Go.ChangeAt Go.RowKit Go.Deep
theorem zdh (b o j:Nat):(⟨b,o,none⟩:Addr).add j=⟨b,o+j,none⟩:=by unfold Addr.add;split <;> simp_all
theorem zeq {H:Type}{enc:TypeId × Value->H}{w:World}{base fuel:Nat}{spare:Nat->Bool}{held:Bool}{a:Option Addr}{len cap:Nat}{x:DataW H × List MemPlace}
  (h:DataW.trod enc Tryz.prog w base spare held fuel 30 [.slice a len cap]=some x):(∃g:Nat->Int,ZAt w a len g)/\len<=cap/\cap<=maxLen:=by
 rcases open_slice Tryz.underlying30 h with ⟨hcs,_⟩|⟨ad,l,c,m,n,D,Pl,hcs,hb,hl,hm,hmm,hx,hi⟩
 ·simp at hcs
  obtain⟨rfl,rfl,rfl⟩:=hcs
  exact⟨⟨fun _=>0,fun h=>absurd h (by omega)⟩,Nat.le_refl _,by unfold maxLen;omega⟩
 ·simp at hcs
  obtain⟨rfl,rfl,rfl⟩:=hcs
  have h1:Tryz.prog.cellsOf 3=1:=by kernel_rfl
  have hp:∀i,i<len->∃p:Int,w.cell? (ad.add i)=some (.int .i64 p):=by
   intro i him
   obtain⟨cs',hc,ht⟩:=hi i (by rw[hmm];split <;> omega)
   rw[h1] at hc
   obtain⟨_,hcl,hat⟩:=World.cells?_some hc
   obtain⟨b,e,_⟩:=DataW.trod_int Tryz.underlying3 ht
   have h2:=hat 0 (by omega)
   rw[Go.Deep.add_add,e] at h2
   exact⟨b,by simpa using h2⟩
  obtain⟨b,off,spot⟩:=ad
  obtain⟨G,hs⟩:∃G:Nat->Int,∀i,i<len->w.cell? ((⟨b,off,spot⟩:Addr).add i)=some (.int .i64 (G i)):=
   ⟨fun i=>if h:i<len then Classical.choose (hp i h) else 0,fun i h=>by
    have:=Classical.choose_spec (hp i h)
    simp only[dif_pos h]
    exact this⟩
  refine⟨⟨G,fun h0=>?_⟩,hl,hm⟩
  have hspot:spot=none:=by
   have:=hs 0 h0
   simpa [Addr.add] using World.cell?_spot this
  subst hspot
  refine⟨b,off,rfl,?_,fun j hj=>?_⟩
  ·have:=hs 0 h0
   by_cases hb:b<w.heap.size
   ·exact hb
   ·rw[zdh] at this
    simp[World.cell?,Array.getElem?_eq_none (by omega:w.heap.size<=b)] at this
  ·have:=hs j hj
   rwa [zdh] at this
open Go.Maps Go.WideElems Go.ChangeMaps Go.MapKept
theorem Tryz.info_step9:(Tryz.prog.info? 163).map (fun i=>(i.zero,i.size,i.bytes))=some (some (.agg #[.slice none 0 0,.int .i64 0]),2,32):=by kernel_rfl
def NetP (K:Nat->Lit) (mf:Nat->Int) (L:List En) (F:Nat) (w:World) (e:Ending) (w':World):Prop:=
 ∃(bn f0 gM cM gF cF gS cS:Nat) (nm:List Nat) (L':List En) (aF aS:Nat->Option Addr) (cRF cRS:Nat->Nat) (csA:Array Value),e=.returned (.pointer (some ⟨bn,0,none⟩))/\Below w.heap.size w w'/\NetFr w' w'.heap.size bn gF nm.length cF aF cRF L'/\
  NetSt w' w'.heap.size bn gS nm.length cS aS cRS (clR (rl K 256)) L'/\NetMk w' w'.heap.size bn gM nm.length cM (fun i=>mf (nm.getD i 0))/\zkb w' w'.heap.size bn K csA/\w'.cell? ⟨bn,256,none⟩=some (.int .i64 (f0:Int))/\
  L=L'.map (En.ren nm)/\nm.Nodup/\(∀e∈L',e.f<nm.length/\e.t<nm.length)/\nm[f0]?=some F/\nm.length<=2*L.length+1/\∀x∈nm,Src L F F x
theorem ziE (kf bV:Nat) (mf:Nat->Int) (S0 T:Int) (F:Nat) (L:List En) (a:Option Addr) (n c:Nat) (w:World) (HC:∀(args:Array Value) (W:World),(callFunc kf args).run Tryz.prog W=.ok (.enter kf args) W)
  (HM:∀W,Below w.heap.size w W->∀x,x<=9223372036854775807->Calls Tryz.prog kf #[.int .i64 ((x:Nat):Int),.pointer (some ⟨bV,0,none⟩)] W fun e w'=>e=.returned (.int .i64 (mf x))/\w'=W)
  (hL:EdAt w a (L.map En.z)) (hn:L.length=n) (hmax:n<=6400) (hsb:(setsOf (L.map En.z)).length<=1000) (hF:F<=9223372036854775807) (hE:∀e∈L,e.f<=9223372036854775807/\e.t<=9223372036854775807):
  Calls Tryz.prog 79 #[.agg #[.int .i64 S0,.slice a n c,.int .i64 (F:Int),.int .i64 T],.func (.func kf) #[] #[.pointer (some ⟨bV,0,none⟩)]] w (NetP (KOf L) mf L F w):=by
 have hmm:=@run_makeMap Tryz.prog
 have hmf:∀(fn:Fn) (first cap:Array Value) (w:World),(Instr.makeFunc fn first cap).run Tryz.prog w=.ok (.func fn first cap) w:=fun _ _ _ _=>rfl
 have Hsb:=hid hsb
 have HH:=hid (And.intro HC (And.intro HM (And.intro hL (And.intro hn hE))))
 clear HC HM hL hn hE hsb
 go_enter Tryz.func79,Tryz.ntmps79
 go_upto_region 1 with fail
 have HI:Hid (∃W0,(w.alloc (.cells #[.int .i64 S0,.slice a n c,.int .i64 (F:Int),.int .i64 T] 67)).alloc (.cells #[.func (.func kf) #[] #[.pointer (some ⟨bV,0,none⟩)]] 93)=W0):=⟨_,rfl⟩
 obtain⟨W0,hW0⟩:=HI.out
 have h2:St W0 67 w.heap.size #[.int .i64 S0,.slice a n c,.int .i64 (F:Int),.int .i64 T]:=by rw[<-hW0];exact (St.new w _ _).alloc _
 have h3:St W0 93 (w.heap.size+1) #[.func (.func kf) #[] #[.pointer (some ⟨bV,0,none⟩)]]:=by
  rw[<-hW0]
  have:=St.new (w.alloc (.cells #[.int .i64 S0,.slice a n c,.int .i64 (F:Int),.int .i64 T] 67)) 93 #[.func (.func kf) #[] #[.pointer (some ⟨bV,0,none⟩)]]
  simpa using this
 have hB0:Below w.heap.size w W0:=by rw[<-hW0];exact (al w _).trans ((al _ _).mono (by simp))
 rw[hW0]
 clear hW0 HI
 have H0:=hid (And.intro h2 (And.intro h3 hB0))
 obtain⟨r0,r1,r2,r3⟩:=h2.cells4
 have HSe:=hid (zlM S0 (F:Int) T a n c (L.map En.z) W0 (HH.out.2.2.1.below hB0) (by rw[List.length_map];exact HH.out.2.2.2.1) (by omega))
 clear h2 h3 hB0
 go_wp2_with fail
 refine HSe.out.mono ?_
 rintro e w1 ⟨a1,n1,c1,rfl,hl1,hO1,hB1⟩
 have hn1:n1<=1000:=by rw[<-hl1];exact Hsb.out
 subst hl1
 have HCl:=hid (zgb a1 _ c1 (setF (L.map En.z)) hn1 w1 (zlT hO1 rfl))
 have HB1:=hid hB1
 clear hO1 hB1 r0 r1 r2 r3 HSe hn1
 go_wp2_with fail
 refine HCl.out.mono ?_
 rintro e w3 ⟨csA,rfl,hsA,hvA,hB3⟩
 obtain⟨cN,hcs,hc1,c256,c257,c258,c259,hbuild⟩:=zj8 csA hsA
 have HB3:=hid (show Below w.heap.size w w3/\St w3 67 w.heap.size #[.int .i64 S0,.slice a n c,.int .i64 (F:Int),.int .i64 T]/\St w3 93 (w.heap.size+1) #[.func (.func kf) #[] #[.pointer (some ⟨bV,0,none⟩)]] from by
  have hk:=HB1.out.trans (hB3.mono HB1.out.size)
  exact⟨H0.out.2.2.trans (hk.mono H0.out.2.2.size),H0.out.1.keep hk,H0.out.2.1.keep hk⟩)
 have HN:=hid (And.intro hsA (And.intro hvA (And.intro hcs (And.intro hc1 (And.intro c256 (And.intro c257 (And.intro c258 c259)))))))
 clear hsA hvA hB3 hcs hc1 c256 c257 c258 c259 HCl
 go_wp2_with (refine zaF rfl 121 _ rfl #[(0,.agg csA)] ?hp (.agg cN) ?hb ?_)
 case hb=>exact hbuild _
 go_upto_region 4 with fail
 have HA:=hid (NnA.start w w3 w.heap.size (w.heap.size+1) (.func (.func kf) #[] #[.pointer (some ⟨bV,0,none⟩)]) mf cN HB3.out.1 HB3.out.1.size HB3.out.2.2 HN.out.2.2.1 HN.out.2.2.2.2.2.1 HN.out.2.2.2.2.2.2.1 HN.out.2.2.2.2.2.2.2)
 have HS2:Hid (St ((((w3.alloc (.cells cN 121)).alloc (.cells #[.pointer (some ⟨w3.heap.size,0,none⟩)] 116)).alloc (.map #[] 0)).alloc (.cells #[.map (some (w3.heap.size+1+1))] 157)) 67 w.heap.size #[.int .i64 S0,.slice a n c,.int .i64 (F:Int),.int .i64 T]):=(((HB3.out.2.1.keep (al _ _)).keep (al _ _)).keep (al _ _)).keep (al _ _)
 obtain⟨bn,hbn⟩:∃bn,w3.heap.size=bn:=⟨_,rfl⟩
 rw[hbn] at HA HS2
 rw[hbn]
 generalize (((w3.alloc (.cells cN 121)).alloc (.cells #[.pointer (some ⟨bn,0,none⟩)] 116)).alloc (.map #[] 0)).alloc (.cells #[.map (some (bn+1+1))] 157)=W4 at HA HS2⊢
 obtain⟨b5,hb5⟩:∃b5,bn+1=b5:=⟨_,rfl⟩
 obtain⟨bM,hbM⟩:∃bM,bn+1+1=bM:=⟨_,rfl⟩
 obtain⟨b6,hb6⟩:∃b6,bn+1+1+1=b6:=⟨_,rfl⟩
 obtain⟨b2,hb2⟩:∃b2,w.heap.size=b2:=⟨_,rfl⟩
 obtain⟨b3,hb3⟩:∃b3,w.heap.size+1=b3:=⟨_,rfl⟩
 rw[hb6,hbM,hb5] at HA
 rw[hb6,hb5]
 rw[hb3] at HA
 rw[hb3]
 have hHS:=HS2.out
 rw[hb2] at hHS HS2
 have hBd:Below W4.heap.size W4 W4.drew:=(Below.refl _ _).drew
 have HAd:=hid (HA.out.keep hBd)
 have HNum:=hid (zcn w w.heap.size bn b3 b5 b6 bM kf bV mf [] cN (.slice none 0 0) (.slice none 0 0) (.slice none 0 0) (fun _=>.slice none 0 0) (fun _=>.slice none 0 0) (fun _=>[]) [] W4.drew HH.out.1 HH.out.2.1 HAd.out (by simp) F hF)
 have q2:W4.drew.cell? ⟨b2,2,none⟩=some (.int .i64 (F:Int)):=hHS.at_ 2
 have q5:W4.drew.cell? ⟨b5,0,none⟩=some (.pointer (some ⟨bn,0,none⟩)):=HA.out.sT.at_ 0
 rw[hb2]
 have HBb:=hid (And.intro hb2 (And.intro hb5 (And.intro hbM (And.intro hb6 hb3))))
 clear hHS hb2 hb5 hbM hb6 hb3 hbn hBd hbuild
 refine wp_region_held_drew (S:=fun W'=>W'.cell? ⟨b5,0,none⟩=some (.pointer (some ⟨bn,0,none⟩))/\W'.cell? ⟨b2,2,none⟩=some (.int .i64 (F:Int))) (by kernel_rfl) ⟨q5,q2⟩ (fun hHeld=>?_)
 (refine tkA 0 ?_;refine tkA 1 ?_;refine tkA 2 ?_;refine tkA 3 ?_;try simp only[Act.put,sA,sB,sC])
 refine rd1 4 (fun K hK=>?_)
 ·skip
  go_simp
  go_at_call 114
  refine HNum.out.mono ?_
  rintro e w5 ⟨f0,nm1,vM1,vF1,vS1,fv1,sv1,rfl,hN1,hk1,hor1,hF1⟩
  have HX:=hid (And.intro hN1 (And.intro hk1 (And.intro hor1 hF1)))
  have hs2w:St w5 67 b2 #[.int .i64 S0,.slice a n c,.int .i64 (F:Int),.int .i64 T]:=hF1.st HS2.out.drew (fun e=>Or.elim e (fun e=>zbi HAd.out.map HS2.out.drew e) (fun e=>HAd.out.n.ne_st HS2.out.drew (by decide) (by decide) (by decide) (by decide) (by decide) e))
  have q5':w5.cell? ⟨b5,0,none⟩=some (.pointer (some ⟨bn,0,none⟩)):=HX.out.1.sT.at_ 0
  have q6:=HX.out.1.n.sn.thaw_ 256
  have q7:w5.cell? ⟨bn,256,none⟩=some (.int .i64 0):=(by rw[HX.out.1.n.sn.at_,Array.getElem?_setIfInBounds_ne (by decide),Array.getElem?_setIfInBounds_ne (by decide),Array.getElem?_setIfInBounds_ne (by decide)];exact HN.out.2.2.2.2.1)
  have HX2:Hid (NnA w w.heap.size bn b3 b5 b6 bM (.func (.func kf) #[] #[.pointer (some ⟨bV,0,none⟩)]) mf nm1 (cN.setIfInBounds 256 (.int .i64 (f0:Int))) vM1 vF1 vS1 fv1 sv1 (fun _=>[]) [] (w5.setCell ⟨bn,256,none⟩ (.int .i64 (f0:Int)))/\St (w5.setCell ⟨bn,256,none⟩ (.int .i64 (f0:Int))) 67 b2 #[.int .i64 S0,.slice a n c,.int .i64 (F:Int),.int .i64 T]):=⟨HX.out.1.first _,hs2w.set_far HX.out.1.n.sn (by decide) _ _⟩
  have HX1:=hid HX.out.2
  have q2':w5.cell? ⟨b2,2,none⟩=some (.int .i64 (F:Int)):=hs2w.at_ 2
  clear hN1 hk1 hor1 hF1
  try go_wp2_with fail
  refine hK.out _ _ ⟨q5',q2'⟩ (fun hHeld=>?_)
  clear hK K
  try simp only[Act.put,sA,sB,sC]
  (refine tkA 5 ?_;refine tkA 6 ?_;try simp only[Act.put,sA,sB,sC])
  refine rd1 7 (fun K hK=>?_)
  ·skip
   go_simp
   refine hK.out _ _ ⟨HX2.out.1.sT.at_ 0,HX2.out.2.at_ 2⟩ (fun hHeld=>?_)
   clear hK K
   try simp only[Act.put,sA,sB,sC]
   refine wpAnyH_done (by kernel_rfl) ?_ _
   clear hHeld q2 q5 q5' q6 q7 q2' hs2w HX HNum HAd
   generalize w5.setCell ⟨bn,256,none⟩ (.int .i64 (f0:Int))=W5 at HX2⊢
   have s0:W5.cell? ⟨b5,0,none⟩=some (.pointer (some ⟨bn,0,none⟩)):=HX2.out.1.sT.at_ 0
   have HCs:=hid (zkq (KOf L) bn csA W5 (HX2.out.1.n.cl HN.out.1 HN.out.2.1 (fun j hj=>by rw[Array.getElem?_setIfInBounds_ne (by omega)];exact HN.out.2.2.2.1 j hj)))
   go_wp2_with fail
   refine HCs.out.mono ?_
   rintro e w6 ⟨b7,b8,bL,aR,cR,rfl,hLs,hB6,hbL⟩
   have HNw:Hid (NwS w w.heap.size b2 b3 b5 b6 b7 b8 bn bM bL (.func (.func kf) #[] #[.pointer (some ⟨bV,0,none⟩)]) mf #[.int .i64 S0,.slice a n c,.int .i64 (F:Int),.int .i64 T] (cN.setIfInBounds 256 (.int .i64 (f0:Int))) (rl (KOf L) 256) aR cR L F f0 0 1 0 nm1 vM1 vF1 vS1 fv1 sv1 (fun _=>[]) [] [] w6):=by
    have h1:=HX2.out.1.keep hB6
    refine⟨h1,(hLs _).base HX2.out.1.bel.size,HX2.out.2.keep hB6,fun i hi=>StP.nil _ _ _,rfl,fun e he=>by simp at he,HX1.out.1,?_,?_,?_⟩
    ·rcases HX1.out.2.1 with h|h <;> rw[h] <;> simp
    ·have:=HX2.out.1.map.lt
     omega
    ·exact zi8 HX1.out.2.1 (Or.inl rfl) (fun x hx=>by simp at hx)
   have s1:w6.cell? ⟨b2,1,none⟩=some (.slice a n c):=HNw.out.s2.at_ 1
   have hs26:St w6 67 b2 #[.int .i64 S0,.slice a n c,.int .i64 (F:Int),.int .i64 T]:=HNw.out.s2
   clear hLs hB6 hbL s0 HCs HX2 HX1 hs26
   go_wp2_with fail
   clear s1
   go_loopw [10,11,12,32] (fun _ _ _ v wq=>∃(k nn:Nat) (nm:List Nat) (vM vF vS:Value) (fv sv:Nat->Value) (xs:Nat->List Value) (L':List En) (DL:List ((Nat->Bool) × Option Addr × Nat)),v=.int .i64 k/\k<=n/\nn<=k/\
    Hid (NwS w w.heap.size b2 b3 b5 b6 b7 b8 bn bM bL (.func (.func kf) #[] #[.pointer (some ⟨bV,0,none⟩)]) mf #[.int .i64 S0,.slice a n c,.int .i64 (F:Int),.int .i64 T] (cN.setIfInBounds 256 (.int .i64 (f0:Int))) (rl (KOf L) 256) aR cR L F f0 k (2*k+1) nn nm vM vF vS fv sv xs L' DL wq)) (fun _ _ _ v _=>n-(intOf v).toNat)
   case atStart=>exact⟨0,0,nm1,vM1,vF1,vS1,fv1,sv1,_,[],[],rfl,Nat.zero_le _,Nat.le_refl _,HNw⟩
   case round=>
    clear HNw
    obtain⟨k,nn,nm,vM,vF,vS,fv,sv,xs,L1,DL,rfl,hk,hnk,HA⟩:=hrel
    by_cases hlt:k<n
    ·have hkl:k<L.length:=by rw[HH.out.2.2.2.1];exact hlt
     obtain⟨ge,off,rfl,hg,c0,c1,c2,c3,c4,c5,c6⟩:=(HH.out.2.2.1.below HA.out.a.bel).getN k hkl
     have HS:Hid (L.take (k+1)=L.take k++[L[k]]):=List.take_succ_eq_append_getElem hkl
     have hx:=HH.out.2.2.2.2 L[k] (List.getElem_mem _)
     have HMm:Hid (L[k]∈L):=List.getElem_mem _
     generalize L[k]=x at c0 c1 c2 c3 c4 c5 c6 HS hx HMm
     have hal:Below wr.heap.size wr (wr.alloc (.cells #[.int .i64 (x.f:Int),.int .i64 (x.t:Int),.int .u64 ((wd x.p 0:Nat):Int),.int .u64 ((wd x.p 1:Nat):Int),.int .u64 ((wd x.p 2:Nat):Int),.int .u64 ((wd x.p 3:Nat):Int),.bool x.b] 128)):=al wr _
     have HA1:=hid (HA.out.keep hal.drew)
     have HE1:Hid (St (wr.alloc (.cells #[.int .i64 (x.f:Int),.int .i64 (x.t:Int),.int .u64 ((wd x.p 0:Nat):Int),.int .u64 ((wd x.p 1:Nat):Int),.int .u64 ((wd x.p 2:Nat):Int),.int .u64 ((wd x.p 3:Nat):Int),.bool x.b] 128)).drew 128 wr.heap.size #[.int .i64 (x.f:Int),.int .i64 (x.t:Int),.int .u64 ((wd x.p 0:Nat):Int),.int .u64 ((wd x.p 1:Nat):Int),.int .u64 ((wd x.p 2:Nat):Int),.int .u64 ((wd x.p 3:Nat):Int),.bool x.b]):=St.new wr _ _
     have d0:(wr.alloc (.cells #[.int .i64 (x.f:Int),.int .i64 (x.t:Int),.int .u64 ((wd x.p 0:Nat):Int),.int .u64 ((wd x.p 1:Nat):Int),.int .u64 ((wd x.p 2:Nat):Int),.int .u64 ((wd x.p 3:Nat):Int),.bool x.b] 128)).drew.cell? ⟨wr.heap.size,0,none⟩=some (.int .i64 (x.f:Int)):=HE1.out.at_ 0
     have d1:(wr.alloc (.cells #[.int .i64 (x.f:Int),.int .i64 (x.t:Int),.int .u64 ((wd x.p 0:Nat):Int),.int .u64 ((wd x.p 1:Nat):Int),.int .u64 ((wd x.p 2:Nat):Int),.int .u64 ((wd x.p 3:Nat):Int),.bool x.b] 128)).drew.cell? ⟨wr.heap.size,1,none⟩=some (.int .i64 (x.t:Int)):=HE1.out.at_ 1
     have hnl:nm.length<=90000:=by have:=HA.out.len;omega
     clear hal hkl
     go_wp2_with fail
     clear c0 c1 c2 c3 c4 c5 c6
     refine wp_region_held_drew (S:=fun W'=>W'.cell? ⟨wr.heap.size,0,none⟩=some (.int .i64 (x.f:Int))/\W'.cell? ⟨wr.heap.size,1,none⟩=some (.int .i64 (x.t:Int))) (by kernel_rfl) ⟨d0,d1⟩ (fun hHeld=>?_)
     (refine tkA 0 ?_;refine tkA 1 ?_;refine tkA 2 ?_;refine tkA 4 ?_;refine tkA 5 ?_;refine tkA 6 ?_;try simp only[Act.put,sA,sB,sC])
     refine rd1 3 (fun K hK=>?_)
     ·skip
      go_simp
      go_at_call 114
      refine (zcn w w.heap.size bn b3 b5 b6 bM kf bV mf nm _ vM vF vS fv sv xs L1 (wr.alloc (.cells #[.int .i64 (x.f:Int),.int .i64 (x.t:Int),.int .u64 ((wd x.p 0:Nat):Int),.int .u64 ((wd x.p 1:Nat):Int),.int .u64 ((wd x.p 2:Nat):Int),.int .u64 ((wd x.p 3:Nat):Int),.bool x.b] 128)).drew HH.out.1 HH.out.2.1 HA1.out.a hnl x.f hx.1).mono ?_
      rintro e w2 ⟨k1,nm2,vM2,vF2,vS2,fv2,sv2,rfl,hN2,hk2,hor2,hF2⟩
      have HA2:=hid (And.intro (HA1.out.num hN2 hor2 hF2 (Or.inr (Or.inr ⟨x,HMm.out,Or.inl rfl⟩))) (And.intro (hF2.st HE1.out (fun e=>HA1.out.far HE1.out (by decide) (by decide) (by decide) (by decide) (by decide) (Or.inr e))) (And.intro hk2 hor2)))
      clear hN2 hk2 hor2 hF2
      try go_wp2_with fail
      refine hK.out _ _ ⟨HA2.out.2.1.at_ 0,HA2.out.2.1.at_ 1⟩ (fun hHeld=>?_)
      clear hK K
      try simp only[Act.put,sA,sB,sC]
      refine rd1 7 (fun K hK=>?_)
      ·skip
       go_simp
       go_at_call 114
       refine (zcn w w.heap.size bn b3 b5 b6 bM kf bV mf nm2 _ vM2 vF2 vS2 fv2 sv2 xs L1 w2 HH.out.1 HH.out.2.1 HA2.out.1.a (by have:=HA2.out.1.len;omega) x.t hx.2).mono ?_
       rintro e w3 ⟨k2,nm3,vM3,vF3,vS3,fv3,sv3,rfl,hN3,hk3,hor3,hF3⟩
       have HA3:=hid (And.intro (HA2.out.1.num hN3 hor3 hF3 (Or.inr (Or.inr ⟨x,HMm.out,Or.inr rfl⟩))) (And.intro (hF3.st HA2.out.2.1 (fun e=>HA2.out.1.far HA2.out.2.1 (by decide) (by decide) (by decide) (by decide) (by decide) (Or.inr e))) (And.intro (zi7 hor3 HA2.out.2.2.1) (And.intro hk3 (show L1.length<=6400 from by have:=congrArg List.length HA.out.rel;rw[List.length_map] at this;have h2:=List.length_take_le k L;omega)))))
       clear hN3 hk3 hor3 hF3
       try go_wp2_with fail
       refine hK.out _ _ ⟨HA3.out.2.1.at_ 0,HA3.out.2.1.at_ 1⟩ (fun hHeld=>?_)
       clear hK K
       try simp only[Act.put,sA,sB,sC]
       (refine tkA 8 ?_;refine tkA 9 ?_;try simp only[Act.put,sA,sB,sC])
       refine wpAnyH_done (by kernel_rfl) ?_ _
       clear hHeld
       have HK:=hid (And.intro HA3.out.2.2.1 HA3.out.2.2.2.1)
       have hk1l:k1<nm3.length:=(List.getElem?_eq_some_iff.1 HK.out.1).1
       have hk2l:k2<nm3.length:=(List.getElem?_eq_some_iff.1 HK.out.2).1
       have hnpos:0<nm3.length:=by omega
       have hnm3:nm3.length<=90000:=by have:=HA3.out.1.len;omega
       obtain⟨z0,z1,z2,z3,z4,z5,z6⟩:=znY HA3.out.2.1
       obtain⟨xf,xt,xp,xb⟩:=x
       obtain⟨be,hbe⟩:∃be,wr.heap.size=be:=⟨_,rfl⟩
       have HE:=hid HA3.out.2.1
       rw[hbe] at z0 z1 z2 z3 z4 z5 z6 HE
       rw[hbe]
       clear d0 d1 HA2 HA1 HE1 HA hnl hbe
       dsimp only at z0 z1 z2 z3 z4 z5 z6 HE HS HK
       rcases xb with _|_
       ·skip
        go_wp2_with fail
        obtain⟨aS,cS,rfl⟩:=zaa HA3.out.1.a.n.st.own
        obtain⟨gS,rfl,-,-,-⟩:=zae HA3.out.1.a.n.st.own hnpos
        obtain⟨aRw,cRw,hv⟩:=zaa (HA3.out.1.a.n.st.row k1 hk1l)
        try dsimp only at hv
        have HA3d:=hid (HA3.out.1.keep (show Below w3.heap.size w3 w3.drew from (Below.refl _ _).drew))
        obtain⟨p,hp⟩:∃p,(rowB L1 k1).length=p:=⟨_,rfl⟩
        have hpl:p<=6400:=by rw[<-hp];exact Nat.le_trans (zhd _ _) HA3.out.2.2.2.2
        have rdS:∀W:World,W.ownsRow w.heap.size 161 1 (.slice (some ⟨gS,0,none⟩) nm3.length cS) nm3.length ((List.range nm3.length).map sv3)->W.cell? ⟨gS,k1,none⟩=some (.slice aRw p cRw)/\W.frozen? ⟨gS,k1,none⟩=false:=fun W hW=>by
         obtain⟨g,e,_,_,hc⟩:=zae hW hnpos
         injection e with e
         injection e with e
         subst e
         obtain⟨h1,h2⟩:=hc k1 (by omega)
         exact⟨by rw[h1];simp only[List.getElem?_map,List.getElem?_range hk1l,Option.map_some,hv,hp],h2⟩
        have k0:=(rdS _ HA3.out.1.a.n.st.own).1
        have HV:=hid (And.intro hv hp)
        have HRd:=hid rdS
        obtain⟨q,hq⟩:∃q,nm3.length=q:=⟨_,rfl⟩
        have HQ:=hid hq
        have j1:(k1:Int)<(q:Int):=by omega
        have j2:(0:Int)<=(k1:Int):=by omega
        obtain⟨pc,hpc⟩:∃pc,(clR (rl (KOf L) 256) xp).length=pc:=⟨_,rfl⟩
        have HPC:=hid hpc
        have hlr:(rl (KOf L) 256).length<=256:=by rw[zcL];exact zez _ _
        have HCl:=hid (zlG w.heap.size bn b7 b8 bL nn (rl (KOf L) 256) aR cR _ DL w3.drew HA3d.out.l (fun x hx=>HA3d.out.lt x hx) (by omega) hlr xp)
        obtain⟨i0,hi0,hz0,hz1,hz2⟩:=info_parts Tryz.info_step9
        have HS0:=hid (fun (W:World) (h1:St W 116 b5 #[.pointer (some ⟨bn,0,none⟩)]) (h2:W.cell? ⟨bn,259,none⟩=some (.slice (some ⟨gS,0,none⟩) q cS)) (h3:St W 128 be #[.int .i64 (xf:Int),.int .i64 (xt:Int),.int .u64 ((wd xp 0:Nat):Int),.int .u64 ((wd xp 1:Nat):Int),.int .u64 ((wd xp 2:Nat):Int),.int .u64 ((wd xp 3:Nat):Int),.bool false])=>(⟨h1.at_ 0,h2,h3.at_ 2,h3.at_ 3,h3.at_ 4,h3.at_ 5⟩:W.cell? ⟨b5,0,none⟩=some (.pointer (some ⟨bn,0,none⟩))/\W.cell? ⟨bn,259,none⟩=some (.slice (some ⟨gS,0,none⟩) q cS)/\W.cell? ⟨be,2,none⟩=some (.int .u64 ((wd xp 0:Nat):Int))/\W.cell? ⟨be,3,none⟩=some (.int .u64 ((wd xp 1:Nat):Int))/\W.cell? ⟨be,4,none⟩=some (.int .u64 ((wd xp 2:Nat):Int))/\W.cell? ⟨be,5,none⟩=some (.int .u64 ((wd xp 3:Nat):Int))))
        have hs3:=HA3.out.1.a.sT
        have hc3:w3.cell? ⟨bn,259,none⟩=some (.slice (some ⟨gS,0,none⟩) q cS):=by rw[<-hq];exact HA3.out.1.a.n.cells.2.2
        clear hv hp rdS hq hpc hlr
        refine wp_region_held_drew (S:=fun W'=>W'.cell? ⟨b5,0,none⟩=some (.pointer (some ⟨bn,0,none⟩))/\W'.cell? ⟨bn,259,none⟩=some (.slice (some ⟨gS,0,none⟩) q cS)/\W'.cell? ⟨be,2,none⟩=some (.int .u64 ((wd xp 0:Nat):Int))/\W'.cell? ⟨be,3,none⟩=some (.int .u64 ((wd xp 1:Nat):Int))/\W'.cell? ⟨be,4,none⟩=some (.int .u64 ((wd xp 2:Nat):Int))/\W'.cell? ⟨be,5,none⟩=some (.int .u64 ((wd xp 3:Nat):Int))) (by kernel_rfl) (HS0.out _ hs3.drew hc3 HE.out.drew) (fun hHeld=>?_)
        (refine tkA 0 ?_;refine tkA 1 ?_;refine tkA 2 ?_;refine tkA 3 ?_;refine tkA 4 ?_;refine tkA 5 ?_;refine tkA 6 ?_;refine tkA 7 ?_;refine tkA 8 ?_;refine tkA 9 ?_;refine tkA 10 ?_;refine tkA 12 ?_;refine tkA 13 ?_;refine tkA 14 ?_;refine tkA 16 ?_;try simp only[Act.put,sA,sB,sC])
        refine wpAnyH_ready (rs:=[11,15]) (by kernel_rfl) (by simp) ?_
        refine arC (fun K hK=>?_) ?_
        ·skip
         go_simp
         refine hK.out _ _ (HS0.out _ hs3.drew hc3 HE.out.drew) (fun hHeld=>?_)
         clear hK K
         try simp only[Act.put,sA,sB,sC]
         refine rd1 15 (fun K hK=>?_)
         ·skip
          go_simp
          go_at_call 143
          refine HCl.out.mono ?_
          rintro e w4 ⟨ac,cc,DL2,rfl,hl4,hI4,hk4,hb4⟩
          have HA4:=hid (HA3d.out.cls hl4 hk4 hb4)
          have HE4:Hid (St w4 128 be #[.int .i64 (xf:Int),.int .i64 (xt:Int),.int .u64 ((wd xp 0:Nat):Int),.int .u64 ((wd xp 1:Nat):Int),.int .u64 ((wd xp 2:Nat):Int),.int .u64 ((wd xp 3:Nat):Int),.bool false]):=zmx HE.out.drew HA3d.out.l hk4
          have HI4:=hid hI4
          rw[HPC.out]
          clear hl4 hI4 hk4 hb4
          have HA5:=hid (HA4.out.keep (al w4 (.cells #[.slice ac pc cc,.int .i64 (k2:Int)] 163)))
          have HE5:=hid (HE4.out.keep (al w4 (.cells #[.slice ac pc cc,.int .i64 (k2:Int)] 163)))
          have hs4:=HA4.out.a.sT
          have hs5:=HA5.out.a.sT
          have hc4:w4.cell? ⟨bn,259,none⟩=some (.slice (some ⟨gS,0,none⟩) q cS):=by rw[<-HQ.out];exact HA4.out.a.n.cells.2.2
          have hc5:(w4.alloc (.cells #[.slice ac pc cc,.int .i64 (k2:Int)] 163)).cell? ⟨bn,259,none⟩=some (.slice (some ⟨gS,0,none⟩) q cS):=by rw[<-HQ.out];exact HA5.out.a.n.cells.2.2
          have k4:=(HRd.out _ HA4.out.a.n.st.own).1
          have k5:=(HRd.out _ HA5.out.a.n.st.own).1
          have hrow:=HA5.out.a.n.st.row k1 hk1l
          rw[HV.out.1,HV.out.2] at hrow
          have hH2:w.heap.size<=(w4.alloc (.cells #[.slice ac pc cc,.int .i64 (k2:Int)] 163)).heap.size:=HA5.out.a.n.lo.2
          try go_wp2_with fail
          refine hK.out _ _ (HS0.out _ hs4 hc4 HE4.out) (fun hHeld=>?_)
          clear hK K
          try simp only[Act.put,sA,sB,sC]
          (refine tkA 17 ?_;try simp only[Act.put,sA,sB,sC])
          refine rd1 18 (fun K hK=>?_)
          ·skip
           go_simp
           refine hK.out _ _ (HS0.out _ hs5 hc5 HE5.out) (fun hHeld=>?_)
           clear hK K
           try simp only[Act.put,sA,sB,sC]
           refine rd1 19 (fun K hK=>?_)
           ·skip
            skip
            refine step_append_lies _ (by rfl) _ _ _ (by rfl) w.heap.size 163 i0 (.agg #[.slice none 0 0,.int .i64 0]) 2 32 Tryz.underlying161 hi0 hz0 hz1 hz2 (by rfl) (by decide) _ p (xs k1) (by rfl) hrow ⟨w4.heap.size,0,none⟩ 1 1 (#[.slice ac pc cc,.int .i64 (k2:Int)]).toList (by rfl) (by rfl) (World.news_of_block (cs:=#[.slice ac pc cc,.int .i64 (k2:Int)]) (t:=163) (fr:=(0,0)) (heap_alloc_new w4 _)) (by simp[Value.oneCell']) (by omega) (by unfold maxLen;omega) (by omega) hH2 (w4.heap.size+1) (by simp) ?_
            intro gg cap6 w6 hown6 hgrow6 hat6 hlt6
            have hrw2:=HA5.out.a.n.st.row k1 hk1l
            have hg6:=hgrow6
            rw[show (Value.slice aRw p cRw)=sv3 k1 from by rw[HV.out.1,HV.out.2]] at hg6
            obtain⟨hN6,hF6⟩:=HA5.out.a.n.appB (x:=⟨k1,k2,xp,false⟩) rfl hk1l hk2l (v':=(.slice (some ⟨gg,0,none⟩) (p+1) cap6)) (p:=p) hown6 HV.out.2 hg6 (fun b e=>by rw[HV.out.1,HV.out.2];injection e with e;rw[<-e];rcases hat6 with h|h;exact Or.inl h;exact Or.inr (by rw[h];simp))
            have hsT6:=HA5.out.a.sT.grown_own hrw2 (by decide) hg6
            have hse6:=HE5.out.grown_own hrw2 (by decide) hg6
            have hsN6:=HA5.out.a.n.sn.grown_own hrw2 (by decide) hg6
            have hc6:w6.cell? ⟨bn,259,none⟩=some (.slice (some ⟨gS,0,none⟩) q cS):=by rw[hsN6.at_,<-HA5.out.a.n.sn.at_];exact hc5
            have ho6:=zav HA5.out.a.n.st.own hrw2 (by decide) hg6
            obtain⟨t2,t3⟩:=HRd.out _ ho6
            have hneT:b5≠gS/\bn≠gS/\be≠gS:=⟨fun e=>zaq ho6 hsT6 (by decide) gS rfl e.symm,fun e=>zaq ho6 hsN6 (by decide) gS rfl e.symm,fun e=>zaq ho6 hse6 (by decide) gS rfl e.symm⟩
            have HF:Hid (NwS w w.heap.size b2 b3 b5 b6 b7 b8 bn bM bL (.func (.func kf) #[] #[.pointer (some ⟨bV,0,none⟩)]) mf #[.int .i64 S0,.slice (some ⟨ge,off,none⟩) n c,.int .i64 (F:Int),.int .i64 T] (cN.setIfInBounds 256 (.int .i64 (f0:Int))) (rl (KOf L) 256) aR cR L F f0 (k+1) (2*(k+1)+1) (nn+1) nm3 vM3 vF3 (.slice (some ⟨gS,0,none⟩) q cS) fv3 (fun j=>if j=k1 then (.slice (some ⟨gg,0,none⟩) (p+1) cap6) else sv3 j) (fun j=>if j=k1 then xs k1++(#[.slice ac pc cc,.int .i64 (k2:Int)]).toList else xs j) (L1++[⟨k1,k2,xp,false⟩]) DL2 (w6.setCell ⟨gS,k1,none⟩ (.slice (some ⟨gg,0,none⟩) (p+1) cap6))):=by
             rw[<-HQ.out]
             refine HA5.out.put (x:=⟨xf,xt,xp,false⟩) hN6 hF6 HS.out HK.out.1 HK.out.2 (fun i hi=>?_)
             rw[zbq]
             by_cases e:i=k1
             ·subst e
              rw[if_pos ⟨rfl,rfl⟩,if_pos rfl]
              have hI5:=(NtF.keep (B:=w.heap.size) (bn:=bn) (P:=bsL bL bM bn nm3.length vM3 vF3 (.slice (some ⟨gS,0,none⟩) nm3.length cS) fv3 sv3) (al w4 (.cells #[.slice ac pc cc,.int .i64 (k2:Int)] 163)) HA4.out.a.n.lo.2).ian HI4.out
              have:=(HA5.out.rows i hi).snoc ⟨i,k2,xp,false⟩ ac cc hI5
              dsimp only at this
              rw[HPC.out] at this
              exact this
             ·rw[if_neg (fun h=>e h.2.symm),if_neg e]
              exact HA5.out.rows i hi
            refine hK.out _ _ (HS0.out _ hsT6 hc6 hse6) (fun hHeld=>?_)
            clear hK K hown6 hgrow6 hat6 hlt6 hN6 hF6 hrw2 hg6 ho6 hsN6
            try simp only[Act.put,sA,sB,sC]
            (refine tkA 20 ?_;try simp only[Act.put,sA,sB,sC])
            refine rd1 21 (fun K hK=>?_)
            ·skip
             go_simp
             refine hK.out _ _ (HS0.out _ (hsT6.far (p:=⟨gS,k1,none⟩) hneT.1 _) ((zb6 _ _ _ hneT.2.1).trans hc6) (hse6.far (p:=⟨gS,k1,none⟩) hneT.2.2 _)) (fun hHeld=>?_)
             clear hK K
             try simp only[Act.put,sA,sB,sC]
             refine wpAnyH_done (by kernel_rfl) ?_ _
             clear hsT6 hneT hc6 t2 t3 hHeld hs3 hs4 hs5 hc3 hc4 hc5 k0 k4 k5 hse6
             go_wp2_with fail
             go_roundw
             case rel=>exact⟨k+1,nn+1,nm3,_,_,_,_,_,_,_,DL2,by go_num,by omega,by omega,HF⟩
             case measure=>simp[intOf];omega
        refine arC (fun K hK=>?_) ?_
        ·skip
         go_simp
         go_at_call 143
         refine HCl.out.mono ?_
         rintro e w4 ⟨ac,cc,DL2,rfl,hl4,hI4,hk4,hb4⟩
         have HA4:=hid (HA3d.out.cls hl4 hk4 hb4)
         have HE4:Hid (St w4 128 be #[.int .i64 (xf:Int),.int .i64 (xt:Int),.int .u64 ((wd xp 0:Nat):Int),.int .u64 ((wd xp 1:Nat):Int),.int .u64 ((wd xp 2:Nat):Int),.int .u64 ((wd xp 3:Nat):Int),.bool false]):=zmx HE.out.drew HA3d.out.l hk4
         have HI4:=hid hI4
         rw[HPC.out]
         clear hl4 hI4 hk4 hb4
         have HA5:=hid (HA4.out.keep (al w4 (.cells #[.slice ac pc cc,.int .i64 (k2:Int)] 163)))
         have HE5:=hid (HE4.out.keep (al w4 (.cells #[.slice ac pc cc,.int .i64 (k2:Int)] 163)))
         have hs4:=HA4.out.a.sT
         have hs5:=HA5.out.a.sT
         have hc4:w4.cell? ⟨bn,259,none⟩=some (.slice (some ⟨gS,0,none⟩) q cS):=by rw[<-HQ.out];exact HA4.out.a.n.cells.2.2
         have hc5:(w4.alloc (.cells #[.slice ac pc cc,.int .i64 (k2:Int)] 163)).cell? ⟨bn,259,none⟩=some (.slice (some ⟨gS,0,none⟩) q cS):=by rw[<-HQ.out];exact HA5.out.a.n.cells.2.2
         have k4:=(HRd.out _ HA4.out.a.n.st.own).1
         have k5:=(HRd.out _ HA5.out.a.n.st.own).1
         have hrow:=HA5.out.a.n.st.row k1 hk1l
         rw[HV.out.1,HV.out.2] at hrow
         have hH2:w.heap.size<=(w4.alloc (.cells #[.slice ac pc cc,.int .i64 (k2:Int)] 163)).heap.size:=HA5.out.a.n.lo.2
         try go_wp2_with fail
         refine hK.out _ _ (HS0.out _ hs4 hc4 HE4.out) (fun hHeld=>?_)
         clear hK K
         try simp only[Act.put,sA,sB,sC]
         (refine tkA 17 ?_;try simp only[Act.put,sA,sB,sC])
         refine wpAnyH_ready (rs:=[11,18]) (by kernel_rfl) (by simp) ?_
         refine arC (fun K hK=>?_) ?_
         ·skip
          go_simp
          refine hK.out _ _ (HS0.out _ hs4 hc4 HE4.out) (fun hHeld=>?_)
          clear hK K
          try simp only[Act.put,sA,sB,sC]
          refine rd1 18 (fun K hK=>?_)
          ·skip
           go_simp
           refine hK.out _ _ (HS0.out _ hs5 hc5 HE5.out) (fun hHeld=>?_)
           clear hK K
           try simp only[Act.put,sA,sB,sC]
           refine rd1 19 (fun K hK=>?_)
           ·skip
            skip
            refine step_append_lies _ (by rfl) _ _ _ (by rfl) w.heap.size 163 i0 (.agg #[.slice none 0 0,.int .i64 0]) 2 32 Tryz.underlying161 hi0 hz0 hz1 hz2 (by rfl) (by decide) _ p (xs k1) (by rfl) hrow ⟨w4.heap.size,0,none⟩ 1 1 (#[.slice ac pc cc,.int .i64 (k2:Int)]).toList (by rfl) (by rfl) (World.news_of_block (cs:=#[.slice ac pc cc,.int .i64 (k2:Int)]) (t:=163) (fr:=(0,0)) (heap_alloc_new w4 _)) (by simp[Value.oneCell']) (by omega) (by unfold maxLen;omega) (by omega) hH2 (w4.heap.size+1) (by simp) ?_
            intro gg cap6 w6 hown6 hgrow6 hat6 hlt6
            have hrw2:=HA5.out.a.n.st.row k1 hk1l
            have hg6:=hgrow6
            rw[show (Value.slice aRw p cRw)=sv3 k1 from by rw[HV.out.1,HV.out.2]] at hg6
            obtain⟨hN6,hF6⟩:=HA5.out.a.n.appB (x:=⟨k1,k2,xp,false⟩) rfl hk1l hk2l (v':=(.slice (some ⟨gg,0,none⟩) (p+1) cap6)) (p:=p) hown6 HV.out.2 hg6 (fun b e=>by rw[HV.out.1,HV.out.2];injection e with e;rw[<-e];rcases hat6 with h|h;exact Or.inl h;exact Or.inr (by rw[h];simp))
            have hsT6:=HA5.out.a.sT.grown_own hrw2 (by decide) hg6
            have hse6:=HE5.out.grown_own hrw2 (by decide) hg6
            have hsN6:=HA5.out.a.n.sn.grown_own hrw2 (by decide) hg6
            have hc6:w6.cell? ⟨bn,259,none⟩=some (.slice (some ⟨gS,0,none⟩) q cS):=by rw[hsN6.at_,<-HA5.out.a.n.sn.at_];exact hc5
            have ho6:=zav HA5.out.a.n.st.own hrw2 (by decide) hg6
            obtain⟨t2,t3⟩:=HRd.out _ ho6
            have hneT:b5≠gS/\bn≠gS/\be≠gS:=⟨fun e=>zaq ho6 hsT6 (by decide) gS rfl e.symm,fun e=>zaq ho6 hsN6 (by decide) gS rfl e.symm,fun e=>zaq ho6 hse6 (by decide) gS rfl e.symm⟩
            have HF:Hid (NwS w w.heap.size b2 b3 b5 b6 b7 b8 bn bM bL (.func (.func kf) #[] #[.pointer (some ⟨bV,0,none⟩)]) mf #[.int .i64 S0,.slice (some ⟨ge,off,none⟩) n c,.int .i64 (F:Int),.int .i64 T] (cN.setIfInBounds 256 (.int .i64 (f0:Int))) (rl (KOf L) 256) aR cR L F f0 (k+1) (2*(k+1)+1) (nn+1) nm3 vM3 vF3 (.slice (some ⟨gS,0,none⟩) q cS) fv3 (fun j=>if j=k1 then (.slice (some ⟨gg,0,none⟩) (p+1) cap6) else sv3 j) (fun j=>if j=k1 then xs k1++(#[.slice ac pc cc,.int .i64 (k2:Int)]).toList else xs j) (L1++[⟨k1,k2,xp,false⟩]) DL2 (w6.setCell ⟨gS,k1,none⟩ (.slice (some ⟨gg,0,none⟩) (p+1) cap6))):=by
             rw[<-HQ.out]
             refine HA5.out.put (x:=⟨xf,xt,xp,false⟩) hN6 hF6 HS.out HK.out.1 HK.out.2 (fun i hi=>?_)
             rw[zbq]
             by_cases e:i=k1
             ·subst e
              rw[if_pos ⟨rfl,rfl⟩,if_pos rfl]
              have hI5:=(NtF.keep (B:=w.heap.size) (bn:=bn) (P:=bsL bL bM bn nm3.length vM3 vF3 (.slice (some ⟨gS,0,none⟩) nm3.length cS) fv3 sv3) (al w4 (.cells #[.slice ac pc cc,.int .i64 (k2:Int)] 163)) HA4.out.a.n.lo.2).ian HI4.out
              have:=(HA5.out.rows i hi).snoc ⟨i,k2,xp,false⟩ ac cc hI5
              dsimp only at this
              rw[HPC.out] at this
              exact this
             ·rw[if_neg (fun h=>e h.2.symm),if_neg e]
              exact HA5.out.rows i hi
            refine hK.out _ _ (HS0.out _ hsT6 hc6 hse6) (fun hHeld=>?_)
            clear hK K hown6 hgrow6 hat6 hlt6 hN6 hF6 hrw2 hg6 ho6 hsN6
            try simp only[Act.put,sA,sB,sC]
            (refine tkA 20 ?_;try simp only[Act.put,sA,sB,sC])
            refine rd1 21 (fun K hK=>?_)
            ·skip
             go_simp
             refine hK.out _ _ (HS0.out _ (hsT6.far (p:=⟨gS,k1,none⟩) hneT.1 _) ((zb6 _ _ _ hneT.2.1).trans hc6) (hse6.far (p:=⟨gS,k1,none⟩) hneT.2.2 _)) (fun hHeld=>?_)
             clear hK K
             try simp only[Act.put,sA,sB,sC]
             refine wpAnyH_done (by kernel_rfl) ?_ _
             clear hsT6 hneT hc6 t2 t3 hHeld hs3 hs4 hs5 hc3 hc4 hc5 k0 k4 k5 hse6
             go_wp2_with fail
             go_roundw
             case rel=>exact⟨k+1,nn+1,nm3,_,_,_,_,_,_,_,DL2,by go_num,by omega,by omega,HF⟩
             case measure=>simp[intOf];omega
         refine arC (fun K hK=>?_) ?_
         ·skip
          go_simp
          refine hK.out _ _ (HS0.out _ hs5 hc5 HE5.out) (fun hHeld=>?_)
          clear hK K
          try simp only[Act.put,sA,sB,sC]
          refine rd1 11 (fun K hK=>?_)
          ·skip
           go_simp
           refine hK.out _ _ (HS0.out _ hs5 hc5 HE5.out) (fun hHeld=>?_)
           clear hK K
           try simp only[Act.put,sA,sB,sC]
           refine rd1 19 (fun K hK=>?_)
           ·skip
            skip
            refine step_append_lies _ (by rfl) _ _ _ (by rfl) w.heap.size 163 i0 (.agg #[.slice none 0 0,.int .i64 0]) 2 32 Tryz.underlying161 hi0 hz0 hz1 hz2 (by rfl) (by decide) _ p (xs k1) (by rfl) hrow ⟨w4.heap.size,0,none⟩ 1 1 (#[.slice ac pc cc,.int .i64 (k2:Int)]).toList (by rfl) (by rfl) (World.news_of_block (cs:=#[.slice ac pc cc,.int .i64 (k2:Int)]) (t:=163) (fr:=(0,0)) (heap_alloc_new w4 _)) (by simp[Value.oneCell']) (by omega) (by unfold maxLen;omega) (by omega) hH2 (w4.heap.size+1) (by simp) ?_
            intro gg cap6 w6 hown6 hgrow6 hat6 hlt6
            have hrw2:=HA5.out.a.n.st.row k1 hk1l
            have hg6:=hgrow6
            rw[show (Value.slice aRw p cRw)=sv3 k1 from by rw[HV.out.1,HV.out.2]] at hg6
            obtain⟨hN6,hF6⟩:=HA5.out.a.n.appB (x:=⟨k1,k2,xp,false⟩) rfl hk1l hk2l (v':=(.slice (some ⟨gg,0,none⟩) (p+1) cap6)) (p:=p) hown6 HV.out.2 hg6 (fun b e=>by rw[HV.out.1,HV.out.2];injection e with e;rw[<-e];rcases hat6 with h|h;exact Or.inl h;exact Or.inr (by rw[h];simp))
            have hsT6:=HA5.out.a.sT.grown_own hrw2 (by decide) hg6
            have hse6:=HE5.out.grown_own hrw2 (by decide) hg6
            have hsN6:=HA5.out.a.n.sn.grown_own hrw2 (by decide) hg6
            have hc6:w6.cell? ⟨bn,259,none⟩=some (.slice (some ⟨gS,0,none⟩) q cS):=by rw[hsN6.at_,<-HA5.out.a.n.sn.at_];exact hc5
            have ho6:=zav HA5.out.a.n.st.own hrw2 (by decide) hg6
            obtain⟨t2,t3⟩:=HRd.out _ ho6
            have hneT:b5≠gS/\bn≠gS/\be≠gS:=⟨fun e=>zaq ho6 hsT6 (by decide) gS rfl e.symm,fun e=>zaq ho6 hsN6 (by decide) gS rfl e.symm,fun e=>zaq ho6 hse6 (by decide) gS rfl e.symm⟩
            have HF:Hid (NwS w w.heap.size b2 b3 b5 b6 b7 b8 bn bM bL (.func (.func kf) #[] #[.pointer (some ⟨bV,0,none⟩)]) mf #[.int .i64 S0,.slice (some ⟨ge,off,none⟩) n c,.int .i64 (F:Int),.int .i64 T] (cN.setIfInBounds 256 (.int .i64 (f0:Int))) (rl (KOf L) 256) aR cR L F f0 (k+1) (2*(k+1)+1) (nn+1) nm3 vM3 vF3 (.slice (some ⟨gS,0,none⟩) q cS) fv3 (fun j=>if j=k1 then (.slice (some ⟨gg,0,none⟩) (p+1) cap6) else sv3 j) (fun j=>if j=k1 then xs k1++(#[.slice ac pc cc,.int .i64 (k2:Int)]).toList else xs j) (L1++[⟨k1,k2,xp,false⟩]) DL2 (w6.setCell ⟨gS,k1,none⟩ (.slice (some ⟨gg,0,none⟩) (p+1) cap6))):=by
             rw[<-HQ.out]
             refine HA5.out.put (x:=⟨xf,xt,xp,false⟩) hN6 hF6 HS.out HK.out.1 HK.out.2 (fun i hi=>?_)
             rw[zbq]
             by_cases e:i=k1
             ·subst e
              rw[if_pos ⟨rfl,rfl⟩,if_pos rfl]
              have hI5:=(NtF.keep (B:=w.heap.size) (bn:=bn) (P:=bsL bL bM bn nm3.length vM3 vF3 (.slice (some ⟨gS,0,none⟩) nm3.length cS) fv3 sv3) (al w4 (.cells #[.slice ac pc cc,.int .i64 (k2:Int)] 163)) HA4.out.a.n.lo.2).ian HI4.out
              have:=(HA5.out.rows i hi).snoc ⟨i,k2,xp,false⟩ ac cc hI5
              dsimp only at this
              rw[HPC.out] at this
              exact this
             ·rw[if_neg (fun h=>e h.2.symm),if_neg e]
              exact HA5.out.rows i hi
            refine hK.out _ _ (HS0.out _ hsT6 hc6 hse6) (fun hHeld=>?_)
            clear hK K hown6 hgrow6 hat6 hlt6 hN6 hF6 hrw2 hg6 ho6 hsN6
            try simp only[Act.put,sA,sB,sC]
            (refine tkA 20 ?_;try simp only[Act.put,sA,sB,sC])
            refine rd1 21 (fun K hK=>?_)
            ·skip
             go_simp
             refine hK.out _ _ (HS0.out _ (hsT6.far (p:=⟨gS,k1,none⟩) hneT.1 _) ((zb6 _ _ _ hneT.2.1).trans hc6) (hse6.far (p:=⟨gS,k1,none⟩) hneT.2.2 _)) (fun hHeld=>?_)
             clear hK K
             try simp only[Act.put,sA,sB,sC]
             refine wpAnyH_done (by kernel_rfl) ?_ _
             clear hsT6 hneT hc6 t2 t3 hHeld hs3 hs4 hs5 hc3 hc4 hc5 k0 k4 k5 hse6
             go_wp2_with fail
             go_roundw
             case rel=>exact⟨k+1,nn+1,nm3,_,_,_,_,_,_,_,DL2,by go_num,by omega,by omega,HF⟩
             case measure=>simp[intOf];omega
         exact AllReadyH.nil
        exact AllReadyH.nil
       ·skip
        go_wp2_with fail
        obtain⟨aF,cF,rfl⟩:=zaa HA3.out.1.a.n.fr.own
        obtain⟨gF,rfl,-,-,-⟩:=zae HA3.out.1.a.n.fr.own hnpos
        obtain⟨aRw,cRw,hv⟩:=zaa (HA3.out.1.a.n.fr.row k1 hk1l)
        try dsimp only at hv
        have HA4:=hid (HA3.out.1.keep (show Below w3.heap.size w3 (w3.alloc (.cells #[.int .i64 (k2:Int)] 3)).drew from (al w3 _).drew))
        have hrow:=HA4.out.a.n.fr.row k1 hk1l
        rw[hv] at hrow
        try dsimp only at hrow
        obtain⟨p,hp⟩:∃p,(rowF L1 k1).length=p:=⟨_,rfl⟩
        have hpl:p<=6400:=by rw[<-hp];exact Nat.le_trans (zhc _ _) HA3.out.2.2.2.2
        have hgr:=HA3.out.1.a.n.fr.own
        have rdF:∀W:World,W.ownsRow w.heap.size 30 1 (.slice (some ⟨gF,0,none⟩) nm3.length cF) nm3.length ((List.range nm3.length).map fv3)->W.cell? ⟨gF,k1,none⟩=some (.slice aRw p cRw)/\W.frozen? ⟨gF,k1,none⟩=false:=fun W hW=>by
         obtain⟨g,e,_,_,hc⟩:=zae hW hnpos
         injection e with e
         injection e with e
         subst e
         obtain⟨h1,h2⟩:=hc k1 (by omega)
         exact⟨by rw[h1];simp only[List.getElem?_map,List.getElem?_range hk1l,Option.map_some,hv,hp],h2⟩
        have k0:=(rdF _ HA3.out.1.a.n.fr.own).1
        have m2:=(rdF _ HA4.out.a.n.fr.own).1
        have HV:=hid (And.intro hv hp)
        have HRd:=hid rdF
        obtain⟨q,hq⟩:∃q,nm3.length=q:=⟨_,rfl⟩
        have HQ:=hid hq
        have j1:(k1:Int)<(q:Int):=by omega
        have j2:(0:Int)<=(k1:Int):=by omega
        have hH2:w.heap.size<=((w3.alloc (.cells #[.int .i64 (k2:Int)] 3)).drew).heap.size:=HA4.out.a.n.lo.2
        rw[hp] at hrow
        obtain⟨i0,hi0,hz0,hz1,hz2⟩:=info_parts Tryz.info_int9
        have HS0:=hid (fun (W:World) (h1:St W 116 b5 #[.pointer (some ⟨bn,0,none⟩)]) (h2:W.cell? ⟨bn,258,none⟩=some (.slice (some ⟨gF,0,none⟩) q cF))=>(⟨h1.at_ 0,h2⟩:W.cell? ⟨b5,0,none⟩=some (.pointer (some ⟨bn,0,none⟩))/\W.cell? ⟨bn,258,none⟩=some (.slice (some ⟨gF,0,none⟩) q cF)))
        have hs3:=HA3.out.1.a.sT
        have hs4:=HA4.out.a.sT
        have hc3:w3.cell? ⟨bn,258,none⟩=some (.slice (some ⟨gF,0,none⟩) q cF):=by rw[<-hq];exact HA3.out.1.a.n.cells.2.1
        have hc4:((w3.alloc (.cells #[.int .i64 (k2:Int)] 3)).drew).cell? ⟨bn,258,none⟩=some (.slice (some ⟨gF,0,none⟩) q cF):=by rw[<-hq];exact HA4.out.a.n.cells.2.1
        clear hv hp hgr rdF hq
        refine wp_region_held_drew (S:=fun W'=>W'.cell? ⟨b5,0,none⟩=some (.pointer (some ⟨bn,0,none⟩))/\W'.cell? ⟨bn,258,none⟩=some (.slice (some ⟨gF,0,none⟩) q cF)) (by kernel_rfl) (HS0.out _ hs3.drew hc3) (fun hHeld=>?_)
        (refine tkA 0 ?_;refine tkA 1 ?_;refine tkA 2 ?_;refine tkA 3 ?_;refine tkA 4 ?_;refine tkA 5 ?_;refine tkA 6 ?_;refine tkA 7 ?_;refine tkA 8 ?_;refine tkA 9 ?_;refine tkA 10 ?_;refine tkA 12 ?_;try simp only[Act.put,sA,sB,sC])
        refine wpAnyH_ready (rs:=[11,13]) (by kernel_rfl) (by simp) ?_
        refine arC (fun K hK=>?_) ?_
        ·skip
         go_simp
         refine hK.out _ _ (HS0.out _ hs3.drew hc3) (fun hHeld=>?_)
         clear hK K
         try simp only[Act.put,sA,sB,sC]
         refine rd1 13 (fun K hK=>?_)
         ·skip
          go_simp
          refine hK.out _ _ (HS0.out _ hs4 hc4) (fun hHeld=>?_)
          clear hK K
          try simp only[Act.put,sA,sB,sC]
          refine rd1 14 (fun K hK=>?_)
          ·skip
           skip
           refine step_append_lies _ (by rfl) _ _ _ (by rfl) w.heap.size 3 i0 (.int .i64 0) 1 8 Tryz.underlying30 hi0 hz0 hz1 hz2 (by rfl) (by decide) _ p (zai (rowF L1 k1)) (by rfl) hrow ⟨w3.heap.size,0,none⟩ 1 1 (#[.int .i64 (k2:Int)]).toList (by rfl) (by rfl) (World.news_of_block (cs:=#[.int .i64 (k2:Int)]) (t:=3) (fr:=(0,0)) (heap_alloc_new w3 _)) (by simp[Value.oneCell']) (by omega) (by unfold maxLen;omega) (by omega) hH2 (w3.heap.size+1) (by simp) ?_
           intro gg cap6 w6 hown6 hgrow6 hat6 hlt6
           have hrw2:=HA4.out.a.n.fr.row k1 hk1l
           have hg6:=hgrow6
           rw[show (Value.slice aRw p cRw)=fv3 k1 from by rw[HV.out.1,HV.out.2]] at hg6
           obtain⟨hN6,hF6⟩:=HA4.out.a.n.appF (x:=⟨k1,k2,xp,true⟩) rfl hk1l hk2l (v':=(.slice (some ⟨gg,0,none⟩) (p+1) cap6)) (p:=p) hown6 HV.out.2 hg6 (fun b e=>by rw[HV.out.1,HV.out.2];injection e with e;rw[<-e];rcases hat6 with h|h;exact Or.inl h;exact Or.inr (by rw[h];simp))
           have hsT6:=HA4.out.a.sT.grown_own hrw2 (by decide) hg6
           have hsN6:=HA4.out.a.n.sn.grown_own hrw2 (by decide) hg6
           have hc6:w6.cell? ⟨bn,258,none⟩=some (.slice (some ⟨gF,0,none⟩) q cF):=by rw[hsN6.at_,<-HA4.out.a.n.sn.at_];exact hc4
           have ho6:=zav HA4.out.a.n.fr.own hrw2 (by decide) hg6
           obtain⟨t2,t3⟩:=HRd.out _ ho6
           have hneT:b5≠gF/\bn≠gF:=⟨fun e=>zaq ho6 hsT6 (by decide) gF rfl e.symm,fun e=>zaq ho6 hsN6 (by decide) gF rfl e.symm⟩
           have HF:Hid (NwS w w.heap.size b2 b3 b5 b6 b7 b8 bn bM bL (.func (.func kf) #[] #[.pointer (some ⟨bV,0,none⟩)]) mf #[.int .i64 S0,.slice (some ⟨ge,off,none⟩) n c,.int .i64 (F:Int),.int .i64 T] (cN.setIfInBounds 256 (.int .i64 (f0:Int))) (rl (KOf L) 256) aR cR L F f0 (k+1) (2*(k+1)+1) nn nm3 vM3 (.slice (some ⟨gF,0,none⟩) q cF) vS3 (fun j=>if j=k1 then (.slice (some ⟨gg,0,none⟩) (p+1) cap6) else fv3 j) sv3 xs (L1++[⟨k1,k2,xp,true⟩]) DL (w6.setCell ⟨gF,k1,none⟩ (.slice (some ⟨gg,0,none⟩) (p+1) cap6))):=by
            rw[<-HQ.out]
            exact HA4.out.put (x:=⟨xf,xt,xp,true⟩) hN6 hF6 HS.out HK.out.1 HK.out.2 (fun i hi=>by rw[zbq,if_neg (by simp)];exact HA4.out.rows i hi)
           refine hK.out _ _ (HS0.out _ hsT6 hc6) (fun hHeld=>?_)
           clear hK K hown6 hgrow6 hat6 hlt6 hN6 hF6 hrw2 hg6 ho6 hsN6
           try simp only[Act.put,sA,sB,sC]
           (refine tkA 15 ?_;try simp only[Act.put,sA,sB,sC])
           refine rd1 16 (fun K hK=>?_)
           ·skip
            go_simp
            refine hK.out _ _ (HS0.out _ (hsT6.far (p:=⟨gF,k1,none⟩) hneT.1 _) ((zb6 _ _ _ hneT.2).trans hc6)) (fun hHeld=>?_)
            clear hK K
            try simp only[Act.put,sA,sB,sC]
            refine wpAnyH_done (by kernel_rfl) ?_ _
            clear hsT6 hneT hc6 t2 t3 hHeld hs3 hs4 hc3 hc4
            go_wp2_with fail
            go_roundw
            case rel=>exact⟨k+1,nn,nm3,_,_,_,_,_,_,_,DL,by go_num,by omega,by omega,HF⟩
            case measure=>simp[intOf];omega
        refine arC (fun K hK=>?_) ?_
        ·skip
         go_simp
         refine hK.out _ _ (HS0.out _ hs4 hc4) (fun hHeld=>?_)
         clear hK K
         try simp only[Act.put,sA,sB,sC]
         refine rd1 11 (fun K hK=>?_)
         ·skip
          go_simp
          refine hK.out _ _ (HS0.out _ hs4 hc4) (fun hHeld=>?_)
          clear hK K
          try simp only[Act.put,sA,sB,sC]
          refine rd1 14 (fun K hK=>?_)
          ·skip
           skip
           refine step_append_lies _ (by rfl) _ _ _ (by rfl) w.heap.size 3 i0 (.int .i64 0) 1 8 Tryz.underlying30 hi0 hz0 hz1 hz2 (by rfl) (by decide) _ p (zai (rowF L1 k1)) (by rfl) hrow ⟨w3.heap.size,0,none⟩ 1 1 (#[.int .i64 (k2:Int)]).toList (by rfl) (by rfl) (World.news_of_block (cs:=#[.int .i64 (k2:Int)]) (t:=3) (fr:=(0,0)) (heap_alloc_new w3 _)) (by simp[Value.oneCell']) (by omega) (by unfold maxLen;omega) (by omega) hH2 (w3.heap.size+1) (by simp) ?_
           intro gg cap6 w6 hown6 hgrow6 hat6 hlt6
           have hrw2:=HA4.out.a.n.fr.row k1 hk1l
           have hg6:=hgrow6
           rw[show (Value.slice aRw p cRw)=fv3 k1 from by rw[HV.out.1,HV.out.2]] at hg6
           obtain⟨hN6,hF6⟩:=HA4.out.a.n.appF (x:=⟨k1,k2,xp,true⟩) rfl hk1l hk2l (v':=(.slice (some ⟨gg,0,none⟩) (p+1) cap6)) (p:=p) hown6 HV.out.2 hg6 (fun b e=>by rw[HV.out.1,HV.out.2];injection e with e;rw[<-e];rcases hat6 with h|h;exact Or.inl h;exact Or.inr (by rw[h];simp))
           have hsT6:=HA4.out.a.sT.grown_own hrw2 (by decide) hg6
           have hsN6:=HA4.out.a.n.sn.grown_own hrw2 (by decide) hg6
           have hc6:w6.cell? ⟨bn,258,none⟩=some (.slice (some ⟨gF,0,none⟩) q cF):=by rw[hsN6.at_,<-HA4.out.a.n.sn.at_];exact hc4
           have ho6:=zav HA4.out.a.n.fr.own hrw2 (by decide) hg6
           obtain⟨t2,t3⟩:=HRd.out _ ho6
           have hneT:b5≠gF/\bn≠gF:=⟨fun e=>zaq ho6 hsT6 (by decide) gF rfl e.symm,fun e=>zaq ho6 hsN6 (by decide) gF rfl e.symm⟩
           have HF:Hid (NwS w w.heap.size b2 b3 b5 b6 b7 b8 bn bM bL (.func (.func kf) #[] #[.pointer (some ⟨bV,0,none⟩)]) mf #[.int .i64 S0,.slice (some ⟨ge,off,none⟩) n c,.int .i64 (F:Int),.int .i64 T] (cN.setIfInBounds 256 (.int .i64 (f0:Int))) (rl (KOf L) 256) aR cR L F f0 (k+1) (2*(k+1)+1) nn nm3 vM3 (.slice (some ⟨gF,0,none⟩) q cF) vS3 (fun j=>if j=k1 then (.slice (some ⟨gg,0,none⟩) (p+1) cap6) else fv3 j) sv3 xs (L1++[⟨k1,k2,xp,true⟩]) DL (w6.setCell ⟨gF,k1,none⟩ (.slice (some ⟨gg,0,none⟩) (p+1) cap6))):=by
            rw[<-HQ.out]
            exact HA4.out.put (x:=⟨xf,xt,xp,true⟩) hN6 hF6 HS.out HK.out.1 HK.out.2 (fun i hi=>by rw[zbq,if_neg (by simp)];exact HA4.out.rows i hi)
           refine hK.out _ _ (HS0.out _ hsT6 hc6) (fun hHeld=>?_)
           clear hK K hown6 hgrow6 hat6 hlt6 hN6 hF6 hrw2 hg6 ho6 hsN6
           try simp only[Act.put,sA,sB,sC]
           (refine tkA 15 ?_;try simp only[Act.put,sA,sB,sC])
           refine rd1 16 (fun K hK=>?_)
           ·skip
            go_simp
            refine hK.out _ _ (HS0.out _ (hsT6.far (p:=⟨gF,k1,none⟩) hneT.1 _) ((zb6 _ _ _ hneT.2).trans hc6)) (fun hHeld=>?_)
            clear hK K
            try simp only[Act.put,sA,sB,sC]
            refine wpAnyH_done (by kernel_rfl) ?_ _
            clear hsT6 hneT hc6 t2 t3 hHeld hs3 hs4 hc3 hc4
            go_wp2_with fail
            go_roundw
            case rel=>exact⟨k+1,nn,nm3,_,_,_,_,_,_,_,DL,by go_num,by omega,by omega,HF⟩
            case measure=>simp[intOf];omega
        exact AllReadyH.nil
    ·obtain rfl:k=n:=by omega
     have s0:wr.cell? ⟨b5,0,none⟩=some (.pointer (some ⟨bn,0,none⟩)):=HA.out.a.sT.at_ 0
     have HF:Hid (NetP (KOf L) mf L F w (.returned (.pointer (some ⟨bn,0,none⟩))) wr):=by
      have hrel2:=HA.out.rel
      rw[show L.take k=L by rw[<-HH.out.2.2.2.1];exact List.take_length] at hrel2
      have hpos:0<nm.length:=by
       have:=(List.getElem?_eq_some_iff.1 HA.out.hf).1
       omega
      have hgl:∀i (h:i<nm.length),nm.getD i 0=nm[i]:=fun i h=>by simp[List.getD,h]
      obtain⟨gM,cM,gF,cF,gS,cS,h1,h2,h3⟩:=HA.out.a.n.net (mk:=fun i=>mf (nm.getD i 0)) hpos HA.out.rows (fun i hi=>by simp[hi])
      refine⟨bn,f0,gM,cM,gF,cF,gS,cS,nm,L1,_,_,_,_,csA,rfl,HA.out.a.bel,h1,h2,h3,HA.out.a.n.cl HN.out.1 HN.out.2.1 (fun j hj=>by rw[Array.getElem?_setIfInBounds_ne (by omega)];exact HN.out.2.2.2.1 j hj),?_,hrel2,HA.out.a.nd,HA.out.bd,HA.out.hf,by have:=HA.out.len;have:=HH.out.2.2.2.1;omega,HA.out.src⟩
      rw[HA.out.a.n.sn.at_,Array.getElem?_setIfInBounds_ne (by decide),Array.getElem?_setIfInBounds_ne (by decide),Array.getElem?_setIfInBounds_ne (by decide),Array.getElem?_setIfInBounds_self_of_lt (by rw[HN.out.2.2.1];decide)]
     go_wp2_with fail
     go_ret
     exact HF.out
theorem zkh (l:List Nat) (hl:∀x∈l,x<256) (i:Nat) (h:i<l.length):zof (strOf l) i=l[i]:=by
 have hs:i<(strOf l).size:=by rw[zaY];exact h
 rw[<-zhI _ i hs]
 have h1:((strOf l).data.toList)[i]?=some ((strOf l)[i]'hs):=by
  rw[Array.getElem?_toList]
  exact Array.getElem?_eq_getElem hs
 rw[zbA,List.getElem?_map,List.getElem?_eq_getElem h] at h1
 simp only[Option.map_some,Option.some.injEq] at h1
 rw[<-h1]
 have:=hl l[i] (List.getElem_mem h)
 simp[UInt8.toNat_ofNat]
 omega
theorem znG (M:Nat) (f:Nat->Bool) (i:Nat) (h:i<(M+7) / 8):zof (txt M f) i=by8 (upTo f M) i:=by
 unfold txt
 rw[zkh _ (zbB f M) i (by simp[keyL];omega)]
 simp[keyL]
theorem zlQ (M:Nat) (f:Nat->Bool):(txt M f).size=(M+7) / 8:=by unfold txt;rw[zaY];simp[keyL]
def InTg (L:List En) (rp:Nat->Nat) (es:List En) (c x:Nat):Prop:=∃e∈es,e.p (rp c)=true/\e.t=x
def lenB (L:List En) (Ls:List Nat) (i:Nat):Nat:=((Ls.take i).flatMap (rowB L)).length
def oneIf (lc:List Nat) (j c:Nat):Nat:=if c∈lc.take j then 1 else 0
theorem zhK (lc:List Nat) (j c:Nat):oneIf lc j c<=1:=by unfold oneIf;split <;> omega
theorem ziF {lc:List Nat}{j x:Nat}(hn:lc.Nodup) (h:lc.take (j+1)=lc.take j++[x]):oneIf lc j x=0/\oneIf lc (j+1) x=1:=by
 have h1:(lc.take j++[x]).Nodup:=by rw[<-h];exact hn.sublist (List.take_sublist _ _)
 have h2:x∉lc.take j:=fun hx=>(List.nodup_append.1 h1).2.2 x hx x (by simp) rfl
 unfold oneIf
 rw[h,if_neg h2,if_pos (by simp)]
 exact⟨rfl,rfl⟩
theorem zgR {lc:List Nat}{j x c:Nat}(h:lc.take (j+1)=lc.take j++[x]) (hc:c≠x):oneIf lc (j+1) c=oneIf lc j c:=by
 unfold oneIf
 rw[h]
 simp[hc]
theorem zki (L:List En) (Ls:List Nat):lenB L Ls 0=0:=rfl
theorem zkj {L:List En}{Ls:List Nat}{i st:Nat}(h:Ls.take (i+1)=Ls.take i++[st]):lenB L Ls (i+1)=lenB L Ls i+(rowB L st).length:=by
 unfold lenB
 rw[h,List.flatMap_append,List.length_append]
 simp
theorem zkk (Ls:List Nat) (hn:Ls.Nodup):∀L:List En,(Ls.flatMap (rowB L)).length<=L.length:=by
 intro L
 induction L with
 | nil=>
  have:Ls.flatMap (rowB [])=[]:=by simp[rowB]
  rw[this];exact Nat.le_refl _
 | cons e L ih=>
  have key:∀l:List Nat,l.Nodup->(l.flatMap (rowB (e :: L))).length<=(l.flatMap (rowB L)).length+(if e.f∈l then 1 else 0):=by
   intro l hl
   induction l with
   | nil=>simp
   | cons a l ih2=>
    have h1:=ih2 (List.nodup_cons.1 hl).2
    have h2:(rowB (e :: L) a).length<=(rowB L a).length+(if e.f=a then 1 else 0):=by
     unfold rowB
     rw[List.filter_cons]
     by_cases he:e.f=a
     ·rw[if_pos he];split <;> simp
     ·rw[if_neg he]
      have:(!e.b && e.f == a)=false:=by simp[he]
      rw[if_neg (by rw[this];decide)]
      exact Nat.le_refl _
    simp only[List.flatMap_cons,List.length_append]
    by_cases ha:e.f=a
    ·have h3:e.f∉l:=by rw[ha];exact (List.nodup_cons.1 hl).1
     rw[if_neg h3] at h1
     rw[if_pos ha] at h2
     rw[if_pos (by simp[ha])]
     omega
    ·rw[if_neg ha] at h2
     by_cases hb:e.f∈l
     ·rw[if_pos hb] at h1
      rw[if_pos (List.mem_cons_of_mem _ hb)]
      omega
     ·rw[if_neg hb] at h1
      split <;> omega
  have h4:=key Ls hn
  have h5:(if e.f∈Ls then 1 else 0)<=1:=by split <;> omega
  simp only[List.length_cons]
  omega
theorem zgS (L:List En) {Ls:List Nat}(hn:Ls.Nodup) (i:Nat):lenB L Ls i<=L.length:=zkk (Ls.take i) (hn.sublist (List.take_sublist _ _)) L
def zhL (B bm gI bM m M C bn:Nat) (K:Nat->Lit) (L:List En) (mk:Nat->Int) (SS:List (Nat->Bool)) (R:List (List Int)) (T:Nat->Nat->Prop) (w:World) (e:Ending) (w':World):Prop:=
 ∃(row:List Int) (SS':List (Nat->Bool)) (ms':List Int) (D':List ((Nat->Bool) × Nat)) (n':Nat) (cs':Array Value) (l':List Nat) (vL' vS' vK' vN':Value) (gs':List Nat),e=.returned (.tuple #[])/\
  MkS B bm gI bM m M C bn K L mk SS' ms' D' (R++[row]) n' cs' l' vL' vS' vK' vN' gs' w'/\RowD M T SS C row SS'/\Below B w w'
theorem zlR (B bm gI bM m M C bn gM cM gF cF gS cS n fr:Nat) (aF aS:Nat->Option Addr) (cRF cRS rp:Nat->Nat) (K:Nat->Lit) (L:List En) (mk:Nat->Int) (w:World)
  (HF:NetFr w B bn gF M cF aF cRF L) (HT:NetSt w B bn gS M cS aS cRS (fun p=>lst (fun c=>p (rp c)) C) L) (HV:NetMk w B bn gM M cM mk) (hE:∀e∈L,e.f<M/\e.t<M) (hLl:L.length<=6400) (hmk:∀i,i<M->-1<=mk i)
  (hC:nrep K 256=C) (hC2:C<=256) (hM:M<=12900) (hm:(M+7) / 8=m) (SS:List (Nat->Bool)) (ms:List Int) (D:List ((Nat->Bool) × Nat)) (R:List (List Int)) (cs:Array Value) (l:List Nat) (vL vS vK vN:Value) (gs:List Nat)
  (h:MkS B bm gI bM m M C bn K L mk SS ms D R n cs l vL vS vK vN gs w) (hfr:fr<SS.length) (hS:SS.length<=3000) (hR:R.length<=3000):
  Calls Tryz.prog 81 #[.pointer (some ⟨bm,0,none⟩),.int .i64 (fr:Int)] w (zhL B bm gI bM m M C bn K L mk SS R (fun c x=>FR L (Mv L (fun y=>y<M/\SS[fr] y=true) (rp c)) x) w):=by
 obtain⟨cA,hcAs,hcA⟩:∃cA:Array Value,cA.size=256/\∀j,j<256->cA[j]?=some (.int .u8 ((cls K j:Nat):Int)):=⟨((List.range 256).map fun j=>.int .u8 ((cls K j:Nat):Int)).toArray,by simp,fun j hj=>by simp[hj]⟩
 have hinfo:(Tryz.prog.info? 36).map (·.size)=some cA.size:=by rw[hcAs];kernel_rfl
 have hcell:∀j v,cA.toList[j]?=some v->w.cell? ((⟨bm,1,none⟩:Addr).add j)=some v:=by
  intro j v hj
  have hj2:j<256:=by
   have:=(List.getElem?_eq_some_iff.1 hj).1
   simpa [hcAs] using this
  have e:(⟨bm,1,none⟩:Addr).add j=⟨bm,1+j,none⟩:=by unfold Addr.add;split <;> simp_all
  have h1:=hcA j hj2
  rw[<-Array.getElem?_toList,hj] at h1
  rw[e,h.a.r.other (1+j) (by omega),h.cl j hj2,h1]
 have HCt:=hid (zka K cA hcAs hcA w)
 have hm1:=zfq C (by omega)
 have H:=hid h
 have HLl:=hid hLl
 have HN:=hid (And.intro HF (And.intro HT (And.intro HV (And.intro hE (And.intro hmk (And.intro hm hfr))))))
 rw[hC] at HCt
 obtain⟨aS0,cS0,rfl⟩:=zaa h.t.os
 obtain⟨gS0,rfl,_,_,hcS⟩:=zae h.t.os (by omega)
 have d0:=(hcS fr (by omega)).1
 have d1:w.cell? ⟨bm,259,none⟩=some (.slice (some ⟨gS0,0,none⟩) SS.length cS0):=by rw[h.a.r.other 259 (by decide),h.t.cS]
 have hlt1:bm<w.heap.size:=h.a.r.sm.lt
 have hlt2:gS0<w.heap.size:=by have:=h.bs_lt gS0 ((zbz ..).2 (by simp[Value.ownBlock]));exact this
 have hB0:B<=w.heap.size:=h.a.r.hB
 rw[show (strs (SS.map (txt M)))[fr]?=some (.string (txt M SS[fr])) from by simp[strs,hfr]] at d0
 have HMem:=hid (fun W:World=>zgQ (txt M SS[fr]) m (by rw[zlQ,hm]) (by omega) (upTo SS[fr] M) (fun i hi=>znG M _ i (by omega)) W)
 obtain⟨fs,hfs⟩:∃fs,SS[fr]=fs:=⟨_,rfl⟩
 rw[hfs] at d0 HMem
 rw[show (fun c x=>FR L (Mv L (fun y=>y<M/\SS[fr] y=true) (rp c)) x)=(fun c x=>FR L (Mv L (fun y=>y<M/\fs y=true) (rp c)) x) from by rw[hfs]]
 have hfk:fr<SS.length:=hfr
 obtain⟨kS,hkS⟩:∃kS,SS.length=kS:=⟨_,rfl⟩
 have HKS:=hid hkS
 rw[hkS] at d1 hfk hS
 have i0:(fr:Int)<(kS:Int):=by omega
 clear h HF HT HV hE hmk hcA hm hcS hfr hfs hkS
 go_enter Tryz.func81,Tryz.ntmps81
 go_wp2_with (refine zam rfl 36 _ rfl ⟨bm,1,none⟩ rfl cA (.array 256 5) hcell Tryz.underlying36 rfl hinfo ?_)
 refine HCt.out.mono ?_
 rintro e w1 ⟨rfl,hB1⟩
 have hs1:=hB1.size
 have d0':(w1.alloc (.cells (madeCells #[.slice none 0 0] C) 30)).cell? ⟨gS0,fr,none⟩=some (.string (txt M fs)):=(((al w1 _).cell (p:=⟨gS0,fr,none⟩) (by show gS0<_;omega)).trans (hB1.cell (p:=⟨gS0,fr,none⟩) hlt2)).trans d0
 have d1':(w1.alloc (.cells (madeCells #[.slice none 0 0] C) 30)).cell? ⟨bm,259,none⟩=some (.slice (some ⟨gS0,0,none⟩) kS cS0):=(((al w1 _).cell (p:=⟨bm,259,none⟩) (by show bm<_;omega)).trans (hB1.cell (p:=⟨bm,259,none⟩) hlt1)).trans d1
 clear d0 d1 hcell HCt
 go_wp2_with fail
 refine (HMem.out _).mono ?_
 rintro e w3 ⟨Ls,aL,cL,rfl,hO,hnd,hmem,hB3⟩
 have HTg:=hid (TgAt.made w1 w.heap.size C w3 hs1 hB3)
 have hBw:Below w.heap.size w w3:=(hB1.trans ((al w1 _).mono hs1)).trans (hB3.mono (by simp;omega))
 obtain⟨gT,hgT⟩:∃gT,w1.heap.size=gT:=⟨_,rfl⟩
 have hgT3:gT<w3.heap.size:=by have:=hB3.size;simp at this;omega
 rw[hgT] at HTg
 have hstate:∀x∈Ls,x<M/\fs x=true:=fun x hx=>by have:=((hmem x).1 hx).2;simpa [upTo] using this
 have HLs:=hid (And.intro hO (And.intro hnd (And.intro (fun x=>show x∈Ls↔x<M/\fs x=true from ⟨hstate x,fun hx=>(hmem x).2 ⟨by have:=HN.out.2.2.2.2.2.1;omega,by simp[upTo,hx.1,hx.2]⟩⟩) hBw)))
 have hgTk:∀g,(Value.slice aL Ls.length cL).ownBlock=some g->g≠gT:=fun g e h=>by
  have h1:=zaq hO (HTg.out.grid.1) (by decide) g e
  exact h1 h
 have HGT:=hid hgTk
 have hLsM:Ls.length<=M:=zax hnd (fun x hx=>(hstate x hx).1)
 obtain⟨q,hq⟩:∃q,Ls.length=q:=⟨_,rfl⟩
 have HQ:=hid hq
 rw[hq] at hLsM
 rw[hgT]
 rw[hq]
 clear hO hnd hmem hB3 hstate hgTk hBw hB1 d0' d1' HMem hm1 hq hgT
 go_wp2_with fail
 go_loopw [6,8,10,30] (fun _ _ _ v wq=>∃(i:Nat) (vs:Nat->Value) (tg:Nat->List Nat),v=.int .i64 i/\i<=q/\Hid (TgAt w3 w.heap.size gT C vs tg wq)/\Hid (∀c,c<C->(tg c).length<=lenB L Ls i/\∀x,x∈tg c↔InTg L rp ((Ls.take i).flatMap (rowB L)) c x)) (fun _ _ _ v _=>q-(intOf v).toNat)
 case atStart=>exact⟨0,_,_,rfl,Nat.zero_le _,HTg,fun c hc=>⟨by rw[zki];simp,fun x=>by simp[InTg]⟩⟩
 case round=>
  obtain⟨i,vs,tg,rfl,hi,HA,HC⟩:=hrel
  clear HTg
  have hW:Below w.heap.size w wr:=HLs.out.2.2.2.trans HA.out.below
  have HW:=hid hW
  by_cases hlt:i<q
  ·have hil:i<Ls.length:=by rw[HQ.out];exact hlt
   obtain⟨gl,rfl,_,hgl3,hcl⟩:=zae HLs.out.1 (by omega)
   have d0:=(hcl i (by omega)).1
   rw[za8 Ls i hil] at d0
   have hglT:gl≠gT:=HGT.out gl rfl
   replace d0:wr.cell? ⟨gl,i,none⟩=some (.int .i64 ((Ls[i]:Nat):Int)):=(HA.out.kept.cell9 (by simpa using hglT) hgl3).trans d0
   have hs:=((HLs.out.2.2.1 Ls[i]).1 (List.getElem_mem _)).1
   have HTk:Hid (Ls.take (i+1)=Ls.take i++[Ls[i]]):=List.take_succ_eq_append_getElem hil
   generalize Ls[i]=st at d0 hs HTk
   have c0:wr.cell? ⟨bm,0,none⟩=some (.pointer (some ⟨bn,0,none⟩)):=(hW.cell (p:=⟨bm,0,none⟩) hlt1).trans ((H.out.a.r.other 0 (by decide)).trans H.out.c0)
   have hst:=HN.out.2.1.below (hW.mono hB0)
   have f0:=hst.fld
   have k0:=hst.row st hs
   have HRw:=hid (HN.out.2.1.at_ st hs)
   obtain⟨aR,haR⟩:∃aR,aS st=aR:=⟨_,rfl⟩
   obtain⟨cR',hcR⟩:∃cR',cRS st=cR':=⟨_,rfl⟩
   rw[haR,hcR] at k0
   rw[haR] at HRw
   have HBE:Hid (∀e∈rowB L st,e.t<M):=fun e he=>(HN.out.2.2.2.1 e ((zda L st e).1 he).1).2
   obtain⟨p,hp⟩:∃p,(rowB L st).length=p:=⟨_,rfl⟩
   have hpl:p<=6400:=by rw[<-hp];exact Nat.le_trans (zhd L st) hLl
   have HP:=hid hp
   rw[hp] at k0
   have i1:(i:Int)<(q:Int):=by omega
   have i2:(st:Int)<(M:Int):=by omega
   clear hst haR hcR hp hcl hil hlt hi hW hglT hgl3
   go_wp2_with fail
   clear c0 f0 k0 d0
   go_loopw [8,10,45] (fun _ _ v wq=>∃(k:Nat) (vs2:Nat->Value) (tg2:Nat->List Nat),v=.int .i64 k/\k<=p/\Hid (TgAt w3 w.heap.size gT C vs2 tg2 wq)/\Hid (∀c,c<C->(tg2 c).length<=lenB L Ls i+k/\∀x,x∈tg2 c↔InTg L rp ((Ls.take i).flatMap (rowB L)++(rowB L st).take k) c x)) (fun _ _ v _=>p-(intOf v).toNat)
   case atStart=>exact⟨0,vs,tg,rfl,Nat.zero_le _,HA,fun c hc=>⟨(HC.out c hc).1,fun x=>by rw[(HC.out c hc).2 x];simp⟩⟩
   case round=>
    clear HA HC HW
    obtain⟨k,vs2,tg2,rfl,hk,HA,HC⟩:=hrel
    have hW:Below w.heap.size w wr:=HLs.out.2.2.2.trans HA.out.below
    by_cases hkp:k<p
    ·have hkl:k<(rowB L st).length:=by rw[HP.out];exact hkp
     obtain⟨gx,off,rfl,hgx,hcells⟩:=HRw.out (by omega)
     obtain⟨ac,cc,s0,s1,hI⟩:=hcells k hkl
     replace s0:=(hW.cell (p:=⟨gx,off+k*2,none⟩) (by show gx<_;omega)).trans s0
     replace s1:=(hW.cell (p:=⟨gx,off+k*2+1,none⟩) (by show gx<_;omega)).trans s1
     have HTK:Hid ((rowB L st).take (k+1)=(rowB L st).take k++[(rowB L st)[k]]):=List.take_succ_eq_append_getElem hkl
     have htM:=HBE.out _ (List.getElem_mem hkl)
     generalize (rowB L st)[k]=ed at s0 s1 hI HTK htM
     obtain⟨lc,hlc⟩:∃lc,lst (fun c=>ed.p (rp c)) C=lc:=⟨_,rfl⟩
     have HLC:Hid (∀x,x∈lc↔x<C/\ed.p (rp x)=true):=fun x=>by rw[<-hlc];exact zeA _ _ x
     have HND:Hid (lc.Nodup):=by rw[<-hlc];exact (List.nodup_range).filter _
     have hlcl:lc.length<=C:=by rw[<-hlc];exact zl9 _ _
     dsimp only at s0 hI
     rw[hlc] at s0 hI
     have HI:=hid hI
     obtain⟨pc,hpc⟩:∃pc,lc.length=pc:=⟨_,rfl⟩
     have HPC:=hid hpc
     rw[hpc] at s0 hlcl
     obtain⟨t,ht⟩:∃t,ed.t=t:=⟨_,rfl⟩
     have HTD:=hid ht
     rw[ht] at s1 htM
     have i5:(k:Int)<(p:Int):=by omega
     have HA1:=hid (HA.out.keep (al wr (.cells #[.slice ac pc cc,.int .i64 (t:Int)] 163)))
     have HE1:=hid (St.new wr 163 #[.slice ac pc cc,.int .i64 (t:Int)])
     clear hI hlc hpc ht hcells hkl hW hk
     go_wp2_with fail
     obtain⟨g8,hg8⟩:∃g8,wr.heap.size=g8:=⟨_,rfl⟩
     rw[hg8] at HE1
     rw[hg8]
     generalize wr.alloc (.cells #[.slice ac pc cc,.int .i64 (t:Int)] 163)=W1 at HA1 HE1⊢
     clear hg8 s0 s1 HA
     go_loopw [10,52] (fun _ v wz=>∃(j:Nat) (vs3:Nat->Value) (tg3:Nat->List Nat),v=.int .i64 j/\j<=pc/\Hid (TgAt w3 w.heap.size gT C vs3 tg3 wz)/\Hid (St wz 163 g8 #[.slice ac pc cc,.int .i64 (t:Int)])/\Hid (∀c,c<C->(tg3 c).length<=lenB L Ls i+k+oneIf lc j c/\∀x,x∈tg3 c↔InTg L rp ((Ls.take i).flatMap (rowB L)++(rowB L st).take k) c x\/(c∈lc.take j/\x=t))) (fun _ v _=>pc-(intOf v).toNat)
     case atStart=>exact⟨0,vs2,tg2,rfl,Nat.zero_le _,HA1,HE1,fun c hc=>⟨by have:=(HC.out c hc).1;omega,fun x=>by rw[(HC.out c hc).2 x];simp⟩⟩
     case round=>
      clear HA1 HE1
      obtain⟨j,vs3,tg3,rfl,hj,HA3,HE3,HC3⟩:=hrel
      have hW:Below w.heap.size w wr:=HLs.out.2.2.2.trans HA3.out.below
      by_cases hjp:j<pc
      ·have hjl:j<lc.length:=by rw[HPC.out];exact hjp
       obtain⟨gi,oi,rfl,hgi,hic⟩:=HI.out (by omega)
       have s2:=(hW.cell (p:=⟨gi,oi+j,none⟩) (by show gi<_;omega)).trans (hic j hjl)
       have hx:=((HLC.out lc[j]).1 (List.getElem_mem hjl)).1
       have HTJ:Hid (lc.take (j+1)=lc.take j++[lc[j]]):=List.take_succ_eq_append_getElem hjl
       generalize lc[j]=x at s2 hx HTJ
       have i6:(j:Int)<(pc:Int):=by omega
       clear hic hjl hW
       have HF3:Hid (∀c,c<C->((fun jj=>if jj=x then tg3 x++[t] else tg3 jj) c).length<=lenB L Ls i+k+oneIf lc (j+1) c/\∀y,y∈(fun jj=>if jj=x then tg3 x++[t] else tg3 jj) c↔InTg L rp ((Ls.take i).flatMap (rowB L)++(rowB L st).take k) c y\/(c∈lc.take (j+1)/\y=t)):=fun c hc=>by
        obtain⟨h1,h2⟩:=HC3.out c hc
        rw[HTJ.out]
        by_cases e:c=x
        ·subst e
         have hoi:=ziF HND.out HTJ.out
         refine⟨by simp;omega,fun y=>?_⟩
         simp only[if_true,List.mem_append,List.mem_singleton,h2 y]
         constructor
         ·rintro ((h3|⟨h3,h4⟩)|h3)
          ·exact Or.inl h3
          ·exact Or.inr ⟨Or.inl h3,h4⟩
          ·exact Or.inr ⟨Or.inr trivial,h3⟩
         ·rintro (h3|⟨h3,h4⟩)
          ·exact Or.inl (Or.inl h3)
          ·exact Or.inr h4
        ·have hoi:=zgR HTJ.out e
         refine⟨by simp[e];omega,fun y=>?_⟩
         show (y∈if c=x then tg3 x++[t] else tg3 c)↔_
         rw[if_neg e,h2 y,List.mem_append,List.mem_singleton]
         simp[e]
       go_wp2_with fail
       obtain⟨aR3,cR3,hv⟩:=zaa (HA3.out.grid.2.1 x hx)
       dsimp only at hv
       have HA4:=hid (HA3.out.keep (al wr (.cells #[.int .i64 (t:Int)] 3)).drew)
       have HE4:=hid (HE3.out.keep (al wr (.cells #[.int .i64 (t:Int)] 3)).drew)
       have hrow:=HA4.out.grid.2.1 x hx
       rw[hv] at hrow
       dsimp only at hrow
       have hlen:(tg3 x).length<=20000:=by
        have a1:=(HC3.out x hx).1
        have a2:=zgS L HLs.out.2.1 i
        have a3:=zhK lc j x
        have a4:=HLl.out
        omega
       obtain⟨p3,hp3⟩:∃p3,(tg3 x).length=p3:=⟨_,rfl⟩
       have k0:wr.cell? ⟨gT,x,none⟩=some (.slice aR3 p3 cR3):=by rw[(HA3.out.grid.cell x hx).1,hv,hp3]
       have m2:(wr.alloc (.cells #[.int .i64 (t:Int)] 3)).drew.cell? ⟨gT,x,none⟩=some (.slice aR3 p3 cR3):=by rw[(HA4.out.grid.cell x hx).1,hv,hp3]
       have HV3:=hid (And.intro hv hp3)
       have j1:(x:Int)<(C:Int):=by omega
       have j2:(0:Int)<=(x:Int):=by omega
       have hH2:w3.heap.size<=((wr.alloc (.cells #[.int .i64 (t:Int)] 3)).drew).heap.size:=HA4.out.below.size
       rw[hp3] at hrow hlen
       obtain⟨i0,hi0,hz0,hz1,hz2⟩:=info_parts Tryz.info_int9
       have HS0:=hid (fun (W:World) (h1:St W 163 g8 #[.slice (some ⟨gi,oi,none⟩) pc cc,.int .i64 ((t:Nat):Int)])=>(h1.at_ 1:W.cell? ⟨g8,1,none⟩=some (.int .i64 ((t:Nat):Int))))
       clear hv hp3
       refine wp_region_held_drew (S:=fun W'=>W'.cell? ⟨g8,1,none⟩=some (.int .i64 (t:Int))) (by kernel_rfl) (HS0.out _ HE3.out.drew) (fun hHeld=>?_)
       (refine tkA 0 ?_;refine tkA 1 ?_;refine tkA 2 ?_;refine tkA 3 ?_;refine tkA 4 ?_;refine tkA 6 ?_;refine tkA 7 ?_;try simp only[Act.put,sA,sB,sC])
       refine wpAnyH_ready (rs:=[5,8]) (by kernel_rfl) (by simp) ?_
       refine arC (fun K hK=>?_) ?_
       ·skip
        go_simp
        refine hK.out _ _ (HS0.out _ HE3.out.drew) (fun hHeld=>?_)
        clear hK K
        try simp only[Act.put,sA,sB,sC]
        refine rd1 8 (fun K hK=>?_)
        ·skip
         go_simp
         refine hK.out _ _ (HS0.out _ HE4.out) (fun hHeld=>?_)
         clear hK K
         try simp only[Act.put,sA,sB,sC]
         refine rd1 9 (fun K hK=>?_)
         ·skip
          skip
          refine step_append_lies _ (by rfl) _ _ _ (by rfl) w3.heap.size 3 i0 (.int .i64 0) 1 8 Tryz.underlying30 hi0 hz0 hz1 hz2 (by rfl) (by decide) _ p3 (zai (tg3 x)) (by rfl) hrow ⟨wr.heap.size,0,none⟩ 1 1 (#[.int .i64 (t:Int)]).toList (by rfl) (by rfl) (World.news_of_block (cs:=#[.int .i64 (t:Int)]) (t:=3) (fr:=(0,0)) (heap_alloc_new wr _)) (by simp[Value.oneCell']) (by omega) (by unfold maxLen;omega) (by omega) hH2 (wr.heap.size+1) (by simp) ?_
          intro gg cap6 w6 hown6 hgrow6 hat6 hlt6
          have hse6:=HE4.out.grown_own hrow (by decide) hgrow6
          have hgr6:=HA4.out.grid.1.grown_own hrow (by decide) hgrow6
          have t2:w6.cell? ⟨gT,x,none⟩=some (.slice aR3 p3 cR3):=by rw[hgr6.at_];simp only[List.getElem?_toArray,List.getElem?_map,List.getElem?_range hx,Option.map_some,HV3.out.1,HV3.out.2]
          have t3:=hgr6.thaw_ x
          have HF:Hid (TgAt w3 w.heap.size gT C (fun j=>if j=x then (.slice (some ⟨gg,0,none⟩) (p3+1) cap6) else vs3 j) (fun j=>if j=x then tg3 x++[t] else tg3 j) (w6.setCell ⟨gT,x,none⟩ (.slice (some ⟨gg,0,none⟩) (p3+1) cap6))):=
           HA4.out.app hx HV3.out.2 hown6 (by rw[HV3.out.1,HV3.out.2];exact hgrow6) (fun b e=>by rw[HV3.out.1,HV3.out.2];injection e with e;rw[<-e];rcases hat6 with h|h;exact Or.inl h;exact Or.inr (by rw[h];simp))
          have HF2:Hid (St (w6.setCell ⟨gT,x,none⟩ (.slice (some ⟨gg,0,none⟩) (p3+1) cap6)) 163 g8 #[.slice (some ⟨gi,oi,none⟩) pc cc,.int .i64 (t:Int)]):=hse6.set_far hgr6 (by decide) x _
          refine hK.out _ _ (HS0.out _ hse6) (fun hHeld=>?_)
          clear hK K hown6 hgrow6 hat6 hlt6
          try simp only[Act.put,sA,sB,sC]
          (refine tkA 10 ?_;try simp only[Act.put,sA,sB,sC])
          refine rd1 11 (fun K hK=>?_)
          ·skip
           go_simp
           refine hK.out _ _ (HS0.out _ (hse6.set_far hgr6 (by decide) x _)) (fun hHeld=>?_)
           clear hK K
           try simp only[Act.put,sA,sB,sC]
           refine wpAnyH_done (by kernel_rfl) ?_ _
           clear hse6 hgr6 t2 t3 hHeld
           go_wp2_with fail
           go_roundw
           case rel=>exact⟨j+1,_,_,by go_num,by omega,HF,HF2,HF3⟩
           case measure=>simp[intOf];omega
       refine arC (fun K hK=>?_) ?_
       ·skip
        go_simp
        refine hK.out _ _ (HS0.out _ HE4.out) (fun hHeld=>?_)
        clear hK K
        try simp only[Act.put,sA,sB,sC]
        refine rd1 5 (fun K hK=>?_)
        ·skip
         go_simp
         refine hK.out _ _ (HS0.out _ HE4.out) (fun hHeld=>?_)
         clear hK K
         try simp only[Act.put,sA,sB,sC]
         refine rd1 9 (fun K hK=>?_)
         ·skip
          skip
          refine step_append_lies _ (by rfl) _ _ _ (by rfl) w3.heap.size 3 i0 (.int .i64 0) 1 8 Tryz.underlying30 hi0 hz0 hz1 hz2 (by rfl) (by decide) _ p3 (zai (tg3 x)) (by rfl) hrow ⟨wr.heap.size,0,none⟩ 1 1 (#[.int .i64 (t:Int)]).toList (by rfl) (by rfl) (World.news_of_block (cs:=#[.int .i64 (t:Int)]) (t:=3) (fr:=(0,0)) (heap_alloc_new wr _)) (by simp[Value.oneCell']) (by omega) (by unfold maxLen;omega) (by omega) hH2 (wr.heap.size+1) (by simp) ?_
          intro gg cap6 w6 hown6 hgrow6 hat6 hlt6
          have hse6:=HE4.out.grown_own hrow (by decide) hgrow6
          have hgr6:=HA4.out.grid.1.grown_own hrow (by decide) hgrow6
          have t2:w6.cell? ⟨gT,x,none⟩=some (.slice aR3 p3 cR3):=by rw[hgr6.at_];simp only[List.getElem?_toArray,List.getElem?_map,List.getElem?_range hx,Option.map_some,HV3.out.1,HV3.out.2]
          have t3:=hgr6.thaw_ x
          have HF:Hid (TgAt w3 w.heap.size gT C (fun j=>if j=x then (.slice (some ⟨gg,0,none⟩) (p3+1) cap6) else vs3 j) (fun j=>if j=x then tg3 x++[t] else tg3 j) (w6.setCell ⟨gT,x,none⟩ (.slice (some ⟨gg,0,none⟩) (p3+1) cap6))):=
           HA4.out.app hx HV3.out.2 hown6 (by rw[HV3.out.1,HV3.out.2];exact hgrow6) (fun b e=>by rw[HV3.out.1,HV3.out.2];injection e with e;rw[<-e];rcases hat6 with h|h;exact Or.inl h;exact Or.inr (by rw[h];simp))
          have HF2:Hid (St (w6.setCell ⟨gT,x,none⟩ (.slice (some ⟨gg,0,none⟩) (p3+1) cap6)) 163 g8 #[.slice (some ⟨gi,oi,none⟩) pc cc,.int .i64 (t:Int)]):=hse6.set_far hgr6 (by decide) x _
          refine hK.out _ _ (HS0.out _ hse6) (fun hHeld=>?_)
          clear hK K hown6 hgrow6 hat6 hlt6
          try simp only[Act.put,sA,sB,sC]
          (refine tkA 10 ?_;try simp only[Act.put,sA,sB,sC])
          refine rd1 11 (fun K hK=>?_)
          ·skip
           go_simp
           refine hK.out _ _ (HS0.out _ (hse6.set_far hgr6 (by decide) x _)) (fun hHeld=>?_)
           clear hK K
           try simp only[Act.put,sA,sB,sC]
           refine wpAnyH_done (by kernel_rfl) ?_ _
           clear hse6 hgr6 t2 t3 hHeld
           go_wp2_with fail
           go_roundw
           case rel=>exact⟨j+1,_,_,by go_num,by omega,HF,HF2,HF3⟩
           case measure=>simp[intOf];omega
       exact AllReadyH.nil
      ·obtain rfl:j=pc:=by omega
       have HZ:Hid (∀c,c<C->(tg3 c).length<=lenB L Ls i+(k+1)/\∀x,x∈tg3 c↔InTg L rp ((Ls.take i).flatMap (rowB L)++(rowB L st).take (k+1)) c x):=fun c hc=>by
        obtain⟨h1,h2⟩:=HC3.out c hc
        refine⟨by have:=zhK lc j c;omega,fun x=>?_⟩
        rw[h2 x,HTK.out,<-HPC.out,List.take_length,HLC.out c,<-HTD.out]
        unfold InTg
        simp only[List.mem_append,List.mem_singleton]
        constructor
        ·rintro (⟨e,he,h3,h4⟩|⟨⟨_,h3⟩,h4⟩)
         ·exact⟨e,by rcases he with he|he;exact Or.inl he;exact Or.inr (Or.inl he),h3,h4⟩
         ·exact⟨ed,Or.inr (Or.inr rfl),h3,h4.symm⟩
        ·rintro⟨e,he,h3,h4⟩
         rcases he with he|he|rfl
         ·exact Or.inl ⟨e,Or.inl he,h3,h4⟩
         ·exact Or.inl ⟨e,Or.inr he,h3,h4⟩
         ·exact Or.inr ⟨⟨hc,h3⟩,h4.symm⟩
       clear hW
       go_wp2_with fail
       go_roundw
       case rel=>exact⟨k+1,vs3,tg3,by go_num,by omega,HA3,HZ⟩
       case measure=>simp[intOf];omega
    ·obtain rfl:k=p:=by omega
     have HZ:Hid (∀c,c<C->(tg2 c).length<=lenB L Ls (i+1)/\∀x,x∈tg2 c↔InTg L rp ((Ls.take (i+1)).flatMap (rowB L)) c x):=fun c hc=>by
      obtain⟨h1,h2⟩:=HC.out c hc
      refine⟨by rw[zkj HTk.out,HP.out];exact h1,fun x=>?_⟩
      rw[h2 x,HTk.out,<-HP.out,List.take_length,List.flatMap_append]
      simp
     clear hW
     go_wp2_with fail
     go_roundw
     case rel=>exact⟨i+1,vs2,tg2,by go_num,by omega,HA,HZ⟩
     case measure=>simp[intOf];omega
  ·obtain rfl:i=q:=by omega
   have HZ:Hid (∀c,c<C->(tg c).length<=6400/\∀x,x∈tg c↔InTg L rp (Ls.flatMap (rowB L)) c x):=fun c hc=>by
    obtain⟨h1,h2⟩:=HC.out c hc
    refine⟨by have a2:=zgS L HLs.out.2.1 i;have a4:=HLl.out;omega,fun x=>?_⟩
    rw[h2 x,<-HQ.out,List.take_length]
   have hgTw:gT<wr.heap.size:=by have:=HA.out.below.size;omega
   have hm9:=zkn C (by omega)
   have HVs:=hid (Kept.refl [] [] wr)
   have H1:=hid (H.out.keep hW)
   have hBlt:∀x∈bsA bm gI bM vL (.slice (some ⟨gS0,0,none⟩) SS.length cS0) vK,x<w.heap.size:=H.out.bs_lt
   have hgTlo:w.heap.size<=gT:=HA.out.lo.1
   have HR0:=hid (And.intro hBlt hgTlo)
   clear hBlt hgTlo
   go_wp2_with fail
   obtain⟨gR,hgR⟩:∃gR,wr.heap.size=gR:=⟨_,rfl⟩
   rw[hgR]
   have HG:=hid (HA.out.grid)
   have HGlt:Hid (∀c,c<C->∀b,(vs c).ownBlock=some b->b<gR/\w3.heap.size<=b):=fun c hc b e=>by
    obtain⟨c1,fz,h1⟩:=zaI (HG.out.2.1 c hc) b e
    exact⟨by rw[<-hgR];exact (Array.getElem?_eq_some_iff.1 h1).1,zas (HG.out.2.1 c hc) b e⟩
   have HSt:Hid (St (wr.alloc (.cells (madeCells #[.int .i64 0] C) 3)) 3 gR (ints (List.replicate C 0)).toArray):=by
    show St _ _ _ _
    rw[<-ziH,<-hgR]
    exact St.new _ _ _
   have H2:=hid (H1.out.keep (al wr (.cells (madeCells #[.int .i64 0] C) 3)))
   have HG2:=hid (HG.out.keep (al wr (.cells (madeCells #[.int .i64 0] C) 3)))
   have hVs:(wr.alloc (.cells (madeCells #[.int .i64 0] C) 3)).heap.size=gR+1:=by simp[hgR]
   have hBV:Below w.heap.size w (wr.alloc (.cells (madeCells #[.int .i64 0] C) 3)):=(hW.trans ((al wr _).mono hW.size))
   have HBV:=hid hBV
   generalize wr.alloc (.cells (madeCells #[.int .i64 0] C) 3)=V at HSt H2 HG2 hVs hBV HBV⊢
   obtain⟨bs0,hbs0⟩:∃bs0,bsA bm gI bM vL (.slice (some ⟨gS0,0,none⟩) SS.length cS0) vK=bs0:=⟨_,rfl⟩
   have HBS:=hid hbs0
   clear H1 HG HVs hBV hm9 hW hbs0
   have hgTR:gT<gR:=by omega
   have HTC:Hid (∀c,c<C->(fun x=>FR L (fun y=>y∈tg c) x)=(fun x=>FR L (Mv L (fun y=>y<M/\fs y=true) (rp c)) x)):=fun c hc=>funext fun x=>propext (FR.congr (fun y=>by
    rw[(HC.out c hc).2 y]
    rw[<-HQ.out,List.take_length]
    constructor
    ·rintro⟨e,he,h1,h2⟩
     obtain⟨st,hst,he⟩:=List.mem_flatMap.1 he
     obtain⟨h3,h4,h5⟩:=(zda L st e).1 he
     exact⟨e,h3,h4,h1,by rw[h5];exact (HLs.out.2.2.1 st).1 hst,h2⟩
    ·rintro⟨e,h3,h4,h1,h5,h2⟩
     exact⟨e,List.mem_flatMap.2 ⟨e.f,(HLs.out.2.2.1 e.f).2 h5,(zda L e.f e).2 ⟨h3,h4,rfl⟩⟩,h1,h2⟩) x)
   have HTL:Hid (∀c,c<C->(tg c).length<=6400/\∀x∈tg c,x<M):=fun c hc=>⟨by have a1:=(HC.out c hc).1;have a2:=zgS L HLs.out.2.1 i;have a4:=HLl.out;omega,fun x hx=>by
    obtain⟨e,he,h1,h2⟩:=((HC.out c hc).2 x).1 hx
    obtain⟨st,hst,he⟩:=List.mem_flatMap.1 he
    rw[<-h2]
    exact (HN.out.2.2.2.1 e ((zda L st e).1 he).1).2⟩
   have hbsw:Hid (∀x∈bs0,x<w.heap.size):=by rw[<-HBS.out];exact HR0.out.1
   have hgTlo:w.heap.size<=gT:=HR0.out.2
   clear HC HA hi hlt HW HR0 hgTw
   go_loopw [12,13,75] (fun _ _ v wq=>∃(c:Nat) (row:List Int) (SS':List (Nat->Bool)) (ms':List Int) (D':List ((Nat->Bool) × Nat)) (n':Nat) (cs':Array Value) (l':List Nat) (vL' vS' vK':Value),v=.int .i64 c/\c<=C/\
    Hid (MkS B bm gI bM m M C bn K L mk SS' ms' D' R n' cs' l' vL' vS' vK' vN gs wq)/\Hid (RowD M (fun c x=>FR L (Mv L (fun y=>y<M/\fs y=true) (rp c)) x) SS c row SS')/\Hid (Kept [] (gR :: bs0) V wq/\Below B V wq/\(∀x∈bsA bm gI bM vL' vS' vK',x∈bs0\/V.heap.size<=x)/\St wq 3 gR (ints (row++List.replicate (C-c) 0)).toArray/\∀x∈gs,x≠gR)) (fun _ _ v _=>C-(intOf v).toNat)
   case atStart=>exact⟨0,[],SS,ms,D,n,cs,l,vL,_,vK,rfl,Nat.zero_le _,H2,RowD.zero,Kept.refl _ _ _,Below.refl _ _,fun x hx=>Or.inl (by rw[<-HBS.out];exact hx),by simpa using HSt.out,fun x hx e=>by
    obtain⟨i1,h1,h2⟩:=List.getElem_of_mem hx
    have h3:=(H.out.nx.row i1 h1 (by rw[<-H.out.nx.len];exact h1)).1.lt
    omega⟩
   case round=>
    clear H2 HSt
    obtain⟨c,row,SS',ms',D',n',cs',l',vL',vS',vK',rfl,hc,HM,HRw,HK⟩:=hrel
    have hrl:=HRw.out.len
    have hgRb:gR∉bs0:=fun h=>by have:=hbsw.out _ h;omega
    have hgTb:gT∉gR :: bs0:=fun h=>by
     rcases List.mem_cons.1 h with h|h
     ·omega
     ·have:=hbsw.out _ h;omega
    have hgRm:gR∉bsA bm gI bM vL' vS' vK':=fun h=>by
     rcases HK.out.2.2.1 _ h with h|h
     ·exact hgRb h
     ·omega
    have hBw:Below B w wr:=(HBV.out.mono hB0).trans HK.out.2.1
    by_cases hlt:c<C
    ·have hO:=HG2.out.2.1 c hlt
     obtain⟨aT,cT,hv⟩:=zaa hO
     dsimp only at hv hO
     have t0:wr.cell? ⟨gT,c,none⟩=some (.slice aT (tg c).length cT):=by rw[HK.out.1.cell9 hgTb (by omega),(HG2.out.cell c hlt).1,hv]
     have hglt:=HGlt.out c hlt
     rw[hv] at hO hglt
     have HAt:Hid (∀W:World,(∀g,g∉gR :: bs0->g<V.heap.size->W.heap[g]?=V.heap[g]?)->IAt W W.heap.size aT (tg c)):=fun W hW h0=>by
      obtain⟨gt,rfl,hlo,hhi,hcs⟩:=zae hO h0
      have h1:=(hglt gt rfl).1
      have h2:=hW gt (fun h=>by
       rcases List.mem_cons.1 h with h|h
       ·omega
       ·have:=hbsw.out _ h;omega) hhi
      refine⟨gt,0,rfl,?_,fun j hj=>?_⟩
      ·rw[Array.getElem?_eq_getElem hhi] at h2
       exact (Array.getElem?_eq_some_iff.1 h2).1
      ·rw[Nat.zero_add]
       have h3:W.cell? ⟨gt,j,none⟩=V.cell? ⟨gt,j,none⟩:=by simp only[World.cell?,h2]
       rw[h3,(hcs j (by omega)).1,za8 (tg c) j hj]
     have htl:=HTL.out c hlt
     have htM:=hid htl.2
     replace htl:=htl.1
     have hTC:=hid (HTC.out c hlt)
     obtain⟨tc,htc⟩:∃tc,tg c=tc:=⟨_,rfl⟩
     rw[htc] at t0 HAt htl htM hTC
     have hrow:row.length=c:=hrl.1
     have hst:=HK.out.2.2.2.1
     rw[zko row C c hlt] at hst
     have e0:wr.cell? ⟨gR,c,none⟩=some (.int .i64 0):=by rw[hst.at_,zkp row C c hrow]
     have e1:=hst.thaw_ c
     have HS1:Hid (St (wr.setCell ⟨gR,c,none⟩ (.int .i64 (-1))) 3 gR (ints ((row++[-1])++List.replicate (C-(c+1)) 0)).toArray):=by
      have:=hst.set c (.int .i64 (-1))
      rwa [zhM row C c hrow hlt] at this
     have hk1:Kept [] [gR] wr (wr.setCell ⟨gR,c,none⟩ (.int .i64 (-1))):=(Kept.refl _ _ _).setCell _ _ (Or.inl (by simp))
     have hb1:Below B wr (wr.setCell ⟨gR,c,none⟩ (.int .i64 (-1))):=(Below.refl _ _).setCell (p:=⟨gR,c,none⟩) (by show B<=gR;omega) _
     have HM1:=hid (HM.out.far hk1 hb1 (fun x hx h=>hgRm (by rw[<-List.mem_singleton.1 h];exact hx)) (fun b e h=>zaq HM.out.nx.own hst (by decide) b e (List.mem_singleton.1 h)) (fun x hx h=>HK.out.2.2.2.2 x hx (List.mem_singleton.1 h)))
     have HK1:Hid (Kept [] (gR :: bs0) V (wr.setCell ⟨gR,c,none⟩ (.int .i64 (-1)))/\Below B V (wr.setCell ⟨gR,c,none⟩ (.int .i64 (-1)))):=⟨HK.out.1.setCell _ _ (Or.inl (by simp)),HK.out.2.1.trans hb1⟩
     have i1:(c:Int)<(C:Int):=by omega
     obtain⟨p,hp⟩:∃p,tc.length=p:=⟨_,rfl⟩
     rw[hp] at t0 htl
     have HP:=hid hp
     clear hO hv hglt hst hk1 hb1 hp
     go_upto_region 19 with fail
     generalize wr.setCell ⟨gR,c,none⟩ (.int .i64 (-1))=W1 at HS1 HM1 HK1⊢
     have HB1:Hid (∀x∈bsA bm gI bM vL' vS' vK',x∈bs0\/V.heap.size<=x):=HK.out.2.2.1
     have HGS:Hid (∀x∈gs,x≠gR):=HK.out.2.2.2.2
     clear e0 e1 t0 HK HM
     by_cases hp0:p=0
     ·subst hp0
      have HZ:Hid (RowD M (fun c x=>FR L (Mv L (fun y=>y<M/\fs y=true) (rp c)) x) SS (c+1) (row++[-1]) SS'):=by
       refine RowD.succ HRw.out (Or.inl ⟨fun x hx h=>?_,rfl,rfl⟩)
       have h1:=congrFun hTC.out x
       have h2:FR L (fun y=>y∈tc) x:=by
        have e:(FR L (fun y=>y∈tc) x)=_:=h1
        rw[e];exact h
       rw[List.length_eq_zero_iff.1 HP.out] at h2
       exact FR.none (fun x h=>by simp at h) x h2
      clear hrl hrow htc
      go_wp2_with fail
      go_roundw
      case rel=>exact⟨c+1,row++[-1],SS',ms',D',n',cs',l',vL',vS',vK',by go_num,by omega,HM1,HZ,HK1.out.1,HK1.out.2,HB1.out,HS1.out,HGS.out⟩
      case measure=>simp[intOf];omega
     ·have hq0:(0:Int)<(p:Int):=by omega
      have hSl:SS'.length<=3256:=by have:=HKS.out;omega
      have hn2:n'<=100000:=by have:=HM1.out.hn;omega
      have hll:l'.length<=100000:=by have:=HM1.out.a.len;omega
      have hbw1:Below B w W1:=(HBV.out.mono hB0).trans HK1.out.2
      have HCl:=hid (zdM W1 B (bsA bm gI bM vL' vS' vK') bm gI m M bM bn gM cM gF cF aF cRF L (HN.out.1.below hbw1) HN.out.2.2.2.1 (by omega) cs' mk (HN.out.2.2.1.below hbw1) HN.out.2.2.2.2.1 HM1.out.c0 (by omega) HN.out.2.2.2.2.2.1 _ l' vL' vS' vK' n' SS' ms' D' (by omega) hn2 hll
       aT p cT tc HP.out (by omega) htM.out (fun W hW=>HAt.out W (fun g hg hl=>by
        have h1:=HK1.out.1 g _ (Array.getElem?_eq_getElem hl) (fun _ _ _ _=>by simp) hg
        rw[Array.getElem?_eq_getElem hl]
        exact hW g _ h1 (fun _ _ _ _=>by simp) (fun hm=>by
         rcases HB1.out _ hm with h|h
         ·exact hg (List.mem_cons_of_mem _ h)
         ·omega))) W1 HM1.out.a.r HM1.out.t HM1.out.inv)
      have h0:∃x,x<M/\FR L (fun y=>y∈tc) x:=by
       have hp1:0<tc.length:=by rw[HP.out];omega
       exact⟨tc[0],htM.out _ (List.getElem_mem hp1),.base (List.getElem_mem hp1)⟩
      have H0:=hid h0
      have HGRm:=hid hgRm
      clear h0 hbw1 hrl htc hgRm hBw hgTb hn2 hll
      go_wp2_with fail
      refine HCl.out.mono ?_
      rintro e w5 hpost
      obtain⟨r,SS2,ms2,D2,n2,cs2,l2,vL2,vS2,vK2,rfl,hM2,hAdd,hk2,hB2,hb2⟩:=HM1.out.close hpost H0.out
      have hst5:=HS1.out.kept hk2 (by simp) HGRm.out
      have e0:w5.cell? ⟨gR,c,none⟩=some (.int .i64 (-1)):=by rw[hst5.at_,zkp row C c hrow]
      have e1:=hst5.thaw_ c
      have hgR2:gR∉bsA bm gI bM vL2 vS2 vK2:=fun h=>by
       rcases hb2 _ h with h|h
       ·exact HGRm.out h
       ·have:=HS1.out.lt;omega
      have hk3:Kept [] [gR] w5 (w5.setCell ⟨gR,c,none⟩ (.int .i64 r)):=(Kept.refl _ _ _).setCell _ _ (Or.inl (by simp))
      have hb3:Below B w5 (w5.setCell ⟨gR,c,none⟩ (.int .i64 r)):=(Below.refl _ _).setCell (p:=⟨gR,c,none⟩) (by show B<=gR;omega) _
      have HM3:=hid (hM2.far hk3 hb3 (fun x hx h=>hgR2 (by rw[<-List.mem_singleton.1 h];exact hx)) (fun b e h=>zaq hM2.nx.own hst5 (by decide) b e (List.mem_singleton.1 h)) (fun x hx h=>HGS.out x hx (List.mem_singleton.1 h)))
      have hk4:Kept [] (gR :: bs0) V w5:=fun k o hk ho hn=>hk2 k o (HK1.out.1 k o hk ho hn) ho (fun hm=>by
       rcases HB1.out _ hm with h|h
       ·exact hn (List.mem_cons_of_mem _ h)
       ·have:=(Array.getElem?_eq_some_iff.1 hk).1;omega)
      have HZ:Hid (Kept [] (gR :: bs0) V (w5.setCell ⟨gR,c,none⟩ (.int .i64 r))/\Below B V (w5.setCell ⟨gR,c,none⟩ (.int .i64 r))/\(∀x∈bsA bm gI bM vL2 vS2 vK2,x∈bs0\/V.heap.size<=x)/\St (w5.setCell ⟨gR,c,none⟩ (.int .i64 r)) 3 gR (ints (row++[r]++List.replicate (C-(c+1)) 0)).toArray/\∀x∈gs,x≠gR):=by
       refine⟨hk4.setCell _ _ (Or.inl (by simp)),(HK1.out.2.trans hB2).trans hb3,fun x hx=>?_,?_,HGS.out⟩
       ·rcases hb2 x hx with h|h
        ·exact HB1.out x h
        ·exact Or.inr (Nat.le_trans HK1.out.2.size h)
       ·have:=hst5.set c (.int .i64 r)
        rwa [zhM row C c hrow hlt] at this
      have HZ2:Hid (RowD M (fun c x=>FR L (Mv L (fun y=>y<M/\fs y=true) (rp c)) x) SS (c+1) (row++[r]) SS2):=by
       refine RowD.succ HRw.out ?_
       rw[hTC.out] at hAdd
       exact hAdd
      clear hpost hM2 hAdd hk2 hB2 hb2 hst5 hgR2 hk3 hb3 hk4 HCl
      go_wp2_with fail
      go_roundw
      case rel=>exact⟨c+1,row++[r],SS2,ms2,D2,n2,cs2,l2,vL2,vS2,vK2,by go_num,by omega,HM3,HZ2,HZ⟩
      case measure=>simp[intOf];omega
    ·obtain rfl:c=C:=by omega
     obtain⟨aN,cN,rfl⟩:=zaa HM.out.nx.own
     have n0:wr.cell? ⟨bm,257,none⟩=some (.slice aN R.length cN):=by rw[HM.out.a.r.other 257 (by decide),HM.out.cN]
     have hO:=HM.out.nx.own
     have hBB:=HM.out.a.r.hB
     have HRL:Hid (St wr 3 gR (ints row).toArray):=by
      have:=HK.out.2.2.2.1
      show St _ _ _ _
      simpa using this
     obtain⟨kR,hkR⟩:∃kR,R.length=kR:=⟨_,rfl⟩
     rw[hkR] at n0 hO hR
     have HKR:=hid hkR
     obtain⟨i9,hi9,hz0,hz1,hz2⟩:=info_parts Tryz.info_ints
     have HGRm:=hid hgRm
     have HBw:=hid hBw
     clear hkR hrl hgRm hgTb hBw
     go_wp2_with (at_builtin;refine wpList_append_own_at _ rfl _ _ 37 rfl B 30 i9 (.slice none 0 0) 1 24 Tryz.underlying37 hi9 hz0 hz1 hz2 rfl (by decide) _ _ _ rfl (hO.alloc _) ⟨wr.heap.size,0,none⟩ 1 1 [.slice (some ⟨gR,0,none⟩) c c] rfl rfl (cell_one_new _ _ _) ?d2 ?d3 ?d4 ?d5 ?_)
     case d2=>intro u hu;simp at hu;subst hu;rfl
     case d3=>unfold maxLen;omega
     case d4=>omega
     case d5=>simp;omega
     intro v' w5 hown5 hgrow5 _ hat5
     obtain⟨a5,c5,rfl⟩:=zaa hown5
     have h2:=HM.out.keep (al wr (.cells #[.slice (some ⟨gR,0,none⟩) c c] 30))
     have hown6:=hown5
     rw[<-HKR.out] at hown6
     obtain⟨hF,hFB⟩:=h2.next (HRL.out.keep (al wr _)) HGRm.out (v':=.slice a5 (kR+1) c5) (by simpa [HKR.out] using hown6) (by rw[HKR.out];exact hgrow5)
     have hsw5:St w5 125 bm _:=h2.a.r.sm.grown_own h2.nx.own (by decide) (by rw[HKR.out];exact hgrow5)
     have p3:w5.cell? ⟨bm,257,none⟩=some (.slice aN kR cN):=by rw[hsw5.at_,Array.getElem?_setIfInBounds_ne (by decide),h2.cN,HKR.out]
     have pf:=hsw5.thaw_ 257
     have HFin:Hid (zhL B bm gI bM m M c bn K L mk SS R (fun c x=>FR L (Mv L (fun y=>y<M/\fs y=true) (rp c)) x) w (.returned (.tuple #[])) (w5.setCell ⟨bm,257,none⟩ (.slice a5 (kR+1) c5))):=
      ⟨row,SS',ms',D',n',_,l',vL',vS',vK',_,_,rfl,hF,HRw.out,(HBw.out.trans ((al wr _).mono HM.out.a.r.hB)).trans hFB⟩
     clear hown5 hown6 hgrow5 hat5 h2 hsw5 hF hFB hO n0
     go_wp2_with fail
     refine bodyPost_ret (results_none rfl _ _ _) rfl ?_
     exact HFin.out
theorem zlS (K:Nat->Lit) {x y:Nat}(h:cls K x=cls K y):K x=K y:=by
 have hx:cls K (fst K x)=cls K x:=by unfold cls;rw[zey]
 have hy:cls K (fst K y)=cls K y:=by unfold cls;rw[zey]
 have e:fst K x=fst K y:=by
  rcases Nat.lt_trichotomy (fst K x) (fst K y) with h1|h1|h1
  ·have h2:=zd0 K (fst K x) (fst K y) h1
   have h3:nrep K (fst K y)=cls K y:=rfl
   omega
  ·exact h1
  ·have h2:=zd0 K (fst K y) (fst K x) h1
   have h3:nrep K (fst K x)=cls K x:=rfl
   omega
 rw[<-(zbd K x).2.1,<-(zbd K y).2.1,e]
noncomputable def rpO (K:Nat->Lit) (c:Nat):Nat:=(rl K 256).getD c 0
theorem zgT (K:Nat->Lit) (b:Nat) (hb:b<256):cls K b<(rl K 256).length/\K (rpO K (cls K b))=K b:=by
 have h1:=zd0 K b 256 hb
 have h2:cls K b<(rl K 256).length:=by rw[zcL];omega
 refine⟨h2,zlS K ?_⟩
 have:rpO K (cls K b)=(rl K 256)[cls K b]:=by simp[rpO,List.getD_eq_getElem?_getD,h2]
 rw[this]
 exact (zon K 256 (cls K b) h2).1
theorem zoo (L:List En) {x y:Nat}(h:KOf L x=KOf L y):∀e∈L,e.b=false->e.p x=e.p y:=by
 intro e he hb
 have h1:=(ziR _ _ _ _).1 h
 have hm:e.p∈setsOf (L.map En.z):=by
  unfold setsOf
  exact List.mem_map.2 ⟨e.z,List.mem_filter.2 ⟨List.mem_map.2 ⟨e,he,rfl⟩,by simp[En.z,hb]⟩,rfl⟩
 obtain⟨i,hi,e1⟩:=List.getElem_of_mem hm
 have h2:=h1 i hi
 have h3:setF (L.map En.z) i=e.p:=by simp[setF,List.getD_eq_getElem?_getD,hi,e1]
 rw[h3] at h2
 exact h2
theorem zoz (L:List En) (b:Nat) (hb:b<256):∀e∈L,e.b=false->e.p (rpO (KOf L) (cls (KOf L) b))=e.p b:=zoo L (zgT (KOf L) b hb).2
theorem Mv.byte {L:List En}{A:Nat->Prop}{c d:Nat}(h:∀e∈L,e.b=false->e.p c=e.p d) (x:Nat):Mv L A c x↔Mv L A d x:=
 ⟨fun ⟨e,h1,h2,h3,h4,h5⟩=>⟨e,h1,h2,by rw[<-h e h1 h2];exact h3,h4,h5⟩,fun ⟨e,h1,h2,h3,h4,h5⟩=>⟨e,h1,h2,by rw[h e h1 h2];exact h3,h4,h5⟩⟩
theorem Mv.none {L:List En}{A:Nat->Prop}(h:∀x,¬A x) (c x:Nat):¬Mv L A c x:=fun ⟨e,_,_,_,h4,_⟩=>h _ h4
theorem Least.nam {nm:List Nat}(hn:nm.Nodup) {mf:Nat->Int}{A' A:Nat->Prop}(h:Nam nm A' A) {r:Int}(hr:Least (fun i=>mf (nm.getD i 0)) A' r):Least mf A r:=by
 rcases hr with ⟨h1,h2⟩|⟨h1,⟨x,hx,h2⟩,h3⟩
 ·refine Or.inl ⟨h1,fun x hx=>?_⟩
  obtain⟨i,hi,rfl⟩:=(h.2 x).1 hx
  exact h2 i hi
 ·refine Or.inr ⟨h1,⟨nm.getD x 0,(h.2 _).2 ⟨x,hx,rfl⟩,h2⟩,fun y hy=>?_⟩
  obtain⟨i,hi,rfl⟩:=(h.2 y).1 hy
  exact h3 i hi
def TTo (L:List En) (M:Nat) (rp:Nat->Nat) (f:Nat->Bool) (c x:Nat):Prop:=FR L (Mv L (fun y=>y<M/\f y=true) (rp c)) x
structure Made (L:List En) (F:Nat) (nm:List Nat) (L':List En) (f0:Nat) (s0:Nat->Bool) (k:Nat) (R:List (List Int)) (SS:List (Nat->Bool)):Prop where
 ren:L=L'.map (En.ren nm)
 nd:nm.Nodup
 bd:∀e∈L',e.f<nm.length/\e.t<nm.length
 hf:nm[f0]?=some F
 src:∀x∈nm,Src L F F x
 st:∀x,x<nm.length->(s0 x=true↔FR L' (fun y=>y=f0) x)
 run:RunD nm.length (rl (KOf L) 256).length (TTo L' nm.length (rpO (KOf L))) [s0] k R SS
theorem Made.rep {L:List En}{F f0 k:Nat}{nm:List Nat}{L':List En}{s0:Nat->Bool}{R:List (List Int)}{SS:List (Nat->Bool)}(h:Made L F nm L' f0 s0 k R SS) (b:Nat) (hb:b<256):∀e∈L',e.b=false->e.p (rpO (KOf L) (cls (KOf L) b))=e.p b:=by
 intro e he h2
 have h3:e.ren nm∈L:=by rw[h.ren];exact List.mem_map.2 ⟨e,he,rfl⟩
 exact zoz L b hb (e.ren nm) h3 h2
def Says (M:Nat) (SS:List (Nat->Bool)) (A:Nat->Prop) (a:Int):Prop:=(a=-1/\∀x,¬A x)\/∃(j:Nat) (h:j<SS.length),a=((j:Nat):Int)/\∀x,x<M->(SS[j] x=true↔A x)
theorem Made.start {L:List En}{F f0 k:Nat}{nm:List Nat}{L':List En}{s0:Nat->Bool}{R:List (List Int)}{SS:List (Nat->Bool)}(h:Made L F nm L' f0 s0 k R SS) (z:Nat->Nat):Says nm.length SS (RunP L' f0 z 0) 0:=by
 have hp:=h.run.pre
 have h0:0<SS.length:=Nat.lt_of_lt_of_le (by simp) hp.length_le
 have h1:s0=SS[0]:=by
  have:=hp.getElem (i:=0) (by simp)
  simpa using this
 exact Or.inr ⟨0,h0,rfl,fun x hx=>by rw[<-h1];exact h.st x hx⟩
theorem Made.step {L:List En}{F f0 k:Nat}{nm:List Nat}{L':List En}{s0:Nat->Bool}{R:List (List Int)}{SS:List (Nat->Bool)}(h:Made L F nm L' f0 s0 k R SS) (hk:SS.length=k) (z:Nat->Nat) (t j:Nat) (hz:z t<256) (hs:Says nm.length SS (RunP L' f0 z t) (j:Int)):
  ∃(hj:j<R.length) (hc:cls (KOf L) (z t)<R[j].length),Says nm.length SS (RunP L' f0 z (t+1)) R[j][cls (KOf L) (z t)]:=by
 have hRl:=h.run.len
 obtain⟨hc1,_⟩:=zgT (KOf L) (z t) hz
 rcases hs with ⟨h1,_⟩|⟨j',hj',e,hS⟩
 ·omega
 ·have e2:j'=j:=by omega
  subst e2
  have hjR:j'<R.length:=by omega
  have hrow:=h.run.rowlen R[j'] (List.getElem_mem hjR)
  refine⟨hjR,by omega,?_⟩
  obtain⟨hs2,ht⟩:=h.run.tells j' hjR
  have htc:=ht (cls (KOf L) (z t)) (by omega)
  have hA:∀x,TTo L' nm.length (rpO (KOf L)) SS[j'] (cls (KOf L) (z t)) x↔RunP L' f0 z (t+1) x:=by
   intro x
   show FR L' _ x↔FR L' _ x
   refine FR.congr (fun y=>?_) x
   rw[Mv.byte (h.rep (z t) hz) y]
   refine Mv.congr (fun w=>⟨fun hw=>(hS w hw.1).1 hw.2,fun hw=>?_⟩) _ y
   have hlt:w<nm.length:=RunP.lt (f:=f0) (List.getElem?_eq_some_iff.1 h.hf).1 (fun e he=>(h.bd e he).2) t hw
   exact⟨hlt,(hS w hlt).2 hw⟩
  rcases htc with ⟨h1,h2⟩|⟨_,j2,hj2,h1,h2⟩
  ·refine Or.inl ⟨h1,fun x hx=>?_⟩
   have hlt:x<nm.length:=RunP.lt (f:=f0) (List.getElem?_eq_some_iff.1 h.hf).1 (fun e he=>(h.bd e he).2) (t+1) hx
   exact h2 x hlt ((hA x).2 hx)
  ·exact Or.inr ⟨j2,hj2,h1,fun x hx=>(h2 x hx).trans (hA x)⟩
theorem RunP.dead {L:List En}{f:Nat}{z:Nat->Nat}{t:Nat}(h:∀x,¬RunP L f z t x):∀x,¬RunP L f z (t+1) x:=fun x=>FR.none (Mv.none h (z t)) x
theorem Made.names {L:List En}{F f0 k:Nat}{nm:List Nat}{L':List En}{s0:Nat->Bool}{R:List (List Int)}{SS:List (Nat->Bool)}(h:Made L F nm L' f0 s0 k R SS) (z:Nat->Nat) (m:Nat):Nam nm (RunP L' f0 z m) (RunP L F z m):=by
 have:=Nam.run h.nd h.bd (List.getElem?_eq_some_iff.1 h.hf).1 z m
 rw[<-h.ren] at this
 have e:nm.getD f0 0=F:=by simp[List.getD_eq_getElem?_getD,h.hf]
 rwa [e] at this
theorem Made.mark {L:List En}{F f0 k:Nat}{nm:List Nat}{L':List En}{s0:Nat->Bool}{R:List (List Int)}{SS:List (Nat->Bool)}(h:Made L F nm L' f0 s0 k R SS) {mf:Nat->Int}{z:Nat->Nat}{m j:Nat}(hj:j<SS.length) {r:Int}(hs:Says nm.length SS (RunP L' f0 z m) (j:Int))
  (hr:Least (fun i=>mf (nm.getD i 0)) (fun x=>x<nm.length/\SS[j] x=true) r):Least mf (RunP L F z m) r:=by
 rcases hs with ⟨h1,_⟩|⟨j',hj',e,hS⟩
 ·omega
 ·have e2:j'=j:=by omega
  subst e2
  refine Least.nam h.nd (h.names z m) (hr.congr (fun x=>⟨fun hx=>(hS x hx.1).1 hx.2,fun hx=>?_⟩))
  have hlt:x<nm.length:=RunP.lt (f:=f0) (List.getElem?_eq_some_iff.1 h.hf).1 (fun e he=>(h.bd e he).2) m hx
  exact⟨hlt,(hS x hlt).2 hx⟩
theorem Add1.src {M:Nat}{S:Nat->Prop}{SS S':List (Nat->Bool)}{r:Int}(h:Add1 M S SS r S'):∀i (hi:i<S'.length),SS.length<=i->(∃x,x<M/\S x)/\∀x,x<M->(S'[i] x=true↔S x):=by
 intro i hi hl
 rcases h with ⟨_,_,rfl⟩|⟨h0,j,_,⟨hj,hjs⟩,rfl|⟨f,rfl,rfl,_⟩⟩
 ·omega
 ·omega
 ·have:i=SS.length:=by simp at hi;omega
  subst this
  exact⟨h0,hjs⟩
theorem RowD.src {M:Nat}{T:Nat->Nat->Prop}{SS S':List (Nat->Bool)}{c:Nat}{row:List Int}(h:RowD M T SS c row S'):∀i (hi:i<S'.length),SS.length<=i->∃d,d<c/\(∃x,x<M/\T d x)/\∀x,x<M->(S'[i] x=true↔T d x):=by
 induction h with
 | zero=>intro i hi hl;omega
 | @succ c row S1 S2 r h0 h1 ih=>
  intro i hi hl
  by_cases e:i<S1.length
  ·obtain⟨d,hd,h2,h3⟩:=ih i e hl
   refine⟨d,by omega,h2,fun x hx=>?_⟩
   rw[<-h1.pre.getElem e]
   exact h3 x hx
  ·obtain⟨h2,h3⟩:=h1.src i hi (by omega)
   exact⟨c,by omega,h2,h3⟩
theorem RunD.src {M C:Nat}{T:(Nat->Bool)->Nat->Nat->Prop}{S0 S':List (Nat->Bool)}{k:Nat}{R:List (List Int)}(h:RunD M C T S0 k R S'):∀i (hi:i<S'.length),S0.length<=i->∃(i':Nat) (hi':i'<S'.length) (d:Nat),i'<i/\d<C/\(∃x,x<M/\T S'[i'] d x)/\∀x,x<M->(S'[i] x=true↔T S'[i'] d x):=by
 induction h with
 | zero=>intro i hi hl;omega
 | @succ k R row S1 S2 h0 hk h1 ih=>
  intro i hi hl
  by_cases e:i<S1.length
  ·obtain⟨i',hi',d,hlt,hd,h2,h3⟩:=ih i e hl
   refine⟨i',Nat.lt_of_lt_of_le hi' h1.pre.length_le,d,hlt,hd,?_,fun x hx=>?_⟩
   ·rw[<-h1.pre.getElem hi'];exact h2
   ·rw[<-h1.pre.getElem e,<-h1.pre.getElem hi']
    exact h3 x hx
  ·obtain⟨d,hd,h2,h3⟩:=h1.src i hi (by omega)
   refine⟨k,Nat.lt_of_lt_of_le hk h1.pre.length_le,d,by omega,hd,?_,fun x hx=>?_⟩
   ·rw[<-h1.pre.getElem hk];exact h2
   ·rw[<-h1.pre.getElem hk]
    exact h3 x hx
theorem zfW (K:Nat->Lit):0<nrep K 256:=by
 have h:=zd0 K 0 256 (by omega)
 omega
structure DfaAt (w:World) (cD:Array Value) (K:Nat->Lit) (R:List (List Int)) (ms:List Int) (C:Nat):Prop where
 cl:∀j,j<256->cD[j]?=some (.int .u8 ((cls K j:Nat):Int))
 nx:∃vN gs,cD[256]?=some vN/\NxAt w 0 [] vN C gs R
 mks:∃vK,cD[257]?=some vK/\w.ownsRow 0 3 1 vK ms.length (ints ms)
 rl:∀r∈R,r.length=C
theorem zbj (w:World) (b:Nat) (cs:Array Value):Kept [] [b] w (w.setRow b cs):=fun k o hk _ hn=>by
 rw[setRow_other w b k cs (by simpa using hn)]
 exact hk
theorem DfaAt.setRow {w:World}{cD:Array Value}{K:Nat->Lit}{R:List (List Int)}{ms:List Int}{C b:Nat}{old cs:Array Value}(h:DfaAt w cD K R ms C) (hb:St w 39 b old):DfaAt (w.setRow b cs) cD K R ms C:=by
 obtain⟨vN,gs,h1,h2⟩:=h.nx
 obtain⟨vK,h3,h4⟩:=h.mks
 have k:=zbj w b cs
 refine⟨h.cl,⟨vN,gs,h1,⟨zal h2.own k (by simp) (fun g e hm=>zaq h2.own hb (by decide) g e (List.mem_singleton.1 hm)),h2.len,fun i hi hi'=>⟨(h2.row i hi hi').1.kept k (by simp) (fun hm=>(h2.row i hi hi').1.ne hb (by decide) (List.mem_singleton.1 hm)),by simp⟩⟩⟩,
  ⟨vK,h3,zal h4 k (by simp) (fun g e hm=>zaq h4 hb (by decide) g e (List.mem_singleton.1 hm))⟩,h.rl⟩
theorem DfaAt.rows {w:World}{cD:Array Value}{K:Nat->Lit}{R:List (List Int)}{ms:List Int}{C:Nat}(h:DfaAt w cD K R ms C):∃a c A,cD[256]?=some (.slice a R.length c)/\ZsAt w a R.length A (fun _=>C) (fun _=>C) (fun i x=>(R.getD i []).getD x 0):=by
 obtain⟨vN,gs,h1,h2⟩:=h.nx
 have hN:=h2.own
 obtain⟨aN,cN,rfl⟩:=zaa hN
 refine⟨aN,cN,fun i=>some ⟨gs.getD i 0,0,none⟩,h1,fun h0=>?_⟩
 obtain⟨g,rfl,_,hg,hc⟩:=zae hN h0
 refine⟨g,0,rfl,hg,fun i hi=>?_⟩
 have hig:i<gs.length:=by rw[h2.len];exact hi
 obtain⟨hs,_⟩:=h2.row i hig hi
 have hrl:=h.rl _ (List.getElem_mem hi)
 refine⟨?_,fun h1=>⟨gs.getD i 0,0,rfl,?_,fun j hj=>?_⟩⟩
 ·rw[Nat.zero_add,(hc i (by omega)).1]
  simp[List.getD_eq_getElem?_getD,hig]
 ·have:=hs.lt
  simpa [List.getD_eq_getElem?_getD,hig] using this
 ·have hgi:gs.getD i 0=gs[i]:=by simp[List.getD_eq_getElem?_getD,hig]
  rw[Nat.zero_add,hgi,hs.at_]
  have hj2:j<R[i].length:=by rw[hrl];exact hj
  simp[ints,List.getD_eq_getElem?_getD,hi,hj2]
theorem DfaAt.marks {w:World}{cD:Array Value}{K:Nat->Lit}{R:List (List Int)}{ms:List Int}{C:Nat}(h:DfaAt w cD K R ms C):∃a c,cD[257]?=some (.slice a ms.length c)/\ZAt w a ms.length (fun i=>ms.getD i 0):=by
 obtain⟨vK,h3,h4⟩:=h.mks
 obtain⟨a,c,rfl⟩:=zaa h4
 refine⟨a,c,h3,fun h0=>?_⟩
 obtain⟨g,rfl,_,hg,hc⟩:=zae h4 h0
 refine⟨g,0,rfl,hg,fun j hj=>?_⟩
 rw[Nat.zero_add,(hc j (by omega)).1]
 simp[ints,List.getD_eq_getElem?_getD,hj]
def DetP (L:List En) (F:Nat) (mf:Nat->Int) (w:World) (e:Ending) (w':World):Prop:=
 ∃(cD:Array Value) (er:Int) (nm:List Nat) (L':List En) (f0:Nat) (s0:Nat->Bool) (k:Nat) (R:List (List Int)) (SS:List (Nat->Bool)),e=.returned (.tuple #[.agg cD,.int .i64 er])/\Below w.heap.size w w'/\Made L F nm L' f0 s0 k R SS/\cD.size=258/\(∀v∈cD.toList,v.oneCell'=true)/\
  ((er=6/\2000<SS.length/\cD=zC 39)\/(er=0/\SS.length=k/\k<=2000/\∃ms,DfaAt w' cD (KOf L) R ms (rl (KOf L) 256).length/\ms.length=k/\∀j (h:j<SS.length) (h2:j<ms.length),Least (fun i=>mf (nm.getD i 0)) (fun x=>x<nm.length/\SS[j] x=true) ms[j]))
theorem Add1.start {M:Nat}{S:Nat->Prop}{SS':List (Nat->Bool)}{r:Int}(h:Add1 M S [] r SS') (h0:∃x,x<M/\S x):∃f,SS'=[f]/\∀x,x<M->(f x=true↔S x):=by
 rcases h with ⟨h1,_,_⟩|⟨_,j,_,⟨hj,hjs⟩,rfl|⟨f,rfl,rfl,_⟩⟩
 ·obtain⟨x,hx,hs⟩:=h0
  exact absurd hs (h1 x hx)
 ·simp at hj
 ·exact⟨f,rfl,fun x hx=>hjs x hx⟩
theorem MkS.dfa {w:World}{B bm gI bM m M C bn n:Nat}{K:Nat->Lit}{L:List En}{mk:Nat->Int}{SS:List (Nat->Bool)}{ms:List Int}{D:List ((Nat->Bool) × Nat)}{R:List (List Int)}{cs:Array Value}{l:List Nat}{vL vS vK vN:Value}{gs:List Nat}
  (h:MkS B bm gI bM m M C bn K L mk SS ms D R n cs l vL vS vK vN gs w) (hR:∀r∈R,r.length=C):
  ∃cD:Array Value,cD.size=258/\(∀v∈cD.toList,v.oneCell'=true)/\(∀j v,cD.toList[j]?=some v->w.cell? ((⟨bm,1,none⟩:Addr).add j)=some v)/\ms.length=SS.length/\DfaAt w cD K R ms C:=by
 have hlm:=h.inv.len
 have hN:=h.nx.own
 have hK:=h.t.ok
 obtain⟨aN,cN,rfl⟩:=zaa hN
 obtain⟨aK,cK,rfl⟩:=zaa hK
 refine⟨((List.range 256).map (fun j=>Value.int .u8 ((cls K j:Nat):Int))++[Value.slice aN R.length cN,Value.slice aK SS.length cK]).toArray,by simp,fun v hv=>?_,fun j v hj=>?_,hlm,⟨fun j hj=>?_,⟨.slice aN R.length cN,gs,by simp[List.getElem?_append],⟨zag hN (Nat.zero_le _),h.nx.len,fun i hi hi'=>⟨(h.nx.row i hi hi').1,by simp⟩⟩⟩,⟨.slice aK SS.length cK,by simp[List.getElem?_append],by rw[hlm];exact zag hK (Nat.zero_le _)⟩,hR⟩⟩
 ·rcases List.mem_append.1 hv with hv|hv
  ·obtain⟨j,_,rfl⟩:=List.mem_map.1 hv
   rfl
  ·simp only[List.mem_cons,List.not_mem_nil,or_false] at hv
   rcases hv with rfl|rfl <;> rfl
 ·have e:(⟨bm,1,none⟩:Addr).add j=⟨bm,1+j,none⟩:=by unfold Addr.add;split <;> simp_all
  have hj2:j<258:=by
   have:=(List.getElem?_eq_some_iff.1 hj).1
   simpa using this
  rw[e,h.a.r.other (1+j) (by omega)]
  by_cases e1:j<256
  ·rw[h.cl j e1,<-hj]
   simp[List.getElem?_append,e1]
  ·by_cases e2:j=256
   ·subst e2
    rw[show 1+256=257 from rfl,h.cN,<-hj]
    simp[List.getElem?_append]
   ·have e3:j=257:=by omega
    subst e3
    rw[show 1+257=258 from rfl,h.t.cK,<-hj]
    simp[List.getElem?_append]
 ·simp[List.getElem?_append,hj]
theorem zkl (kf bV:Nat) (mf:Nat->Int) (S0 T:Int) (F:Nat) (L:List En) (a:Option Addr) (n c:Nat) (w:World) (HC:∀(args:Array Value) (W:World),(callFunc kf args).run Tryz.prog W=.ok (.enter kf args) W)
  (HM:∀W,Below w.heap.size w W->∀x,x<=9223372036854775807->Calls Tryz.prog kf #[.int .i64 ((x:Nat):Int),.pointer (some ⟨bV,0,none⟩)] W fun e w'=>e=.returned (.int .i64 (mf x))/\w'=W) (hmf:∀x,-1<=mf x)
  (hL:EdAt w a (L.map En.z)) (hn:L.length=n) (hmax:n<=6400) (hsb:(setsOf (L.map En.z)).length<=1000) (hF:F<=9223372036854775807) (hE:∀e∈L,e.f<=9223372036854775807/\e.t<=9223372036854775807) (hr:riB S0 (L.map En.z) (F:Int) T=true):
  Calls Tryz.prog 51 #[.agg #[.int .i64 S0,.slice a n c,.int .i64 (F:Int),.int .i64 T],.func (.func kf) #[] #[.pointer (some ⟨bV,0,none⟩)]] w (DetP L F mf w):=by
 have HNet:=hid (fun (W:World) (hb:Below w.heap.size w W)=>ziE kf bV mf S0 T F L a n c W HC (fun W' hb'=>HM W' (hb.trans (hb'.mono hb.size))) (hL.below hb) hn hmax hsb hF hE)
 have HRi:Hid (∀(W:World),Below w.heap.size w W->Calls Tryz.prog 77 #[.agg #[.int .i64 S0,.slice a n c,.int .i64 (F:Int),.int .i64 T]] W fun e w'=>e=.returned (.bool true)/\Below W.heap.size W w'):=fun W hb=>by
  have:=zi5 S0 (F:Int) T a n c (L.map En.z) W (hL.below hb) (by rw[List.length_map];exact hn) (by unfold maxLen;omega)
  rwa [hr] at this
 have HH:=hid (And.intro hn (And.intro hmf hr))
 clear HC HM hL hn hE hr hmf
 go_enter Tryz.func51,Tryz.ntmps51
 go_wp2_with (refine zap rfl 39 rfl (zC 39) (zat _) ?_)
 go_upto_region 1 with fail
 have h2:St ((w.alloc (.cells #[.int .i64 S0,.slice a n c,.int .i64 (F:Int),.int .i64 T] 67)).alloc (.cells (zC 39) 39)) 67 w.heap.size #[.int .i64 S0,.slice a n c,.int .i64 (F:Int),.int .i64 T]:=(St.new w _ _).alloc _
 have h4:St ((w.alloc (.cells #[.int .i64 S0,.slice a n c,.int .i64 (F:Int),.int .i64 T] 67)).alloc (.cells (zC 39) 39)) 39 (w.heap.size+1) (zC 39):=by
  have:=St.new (w.alloc (.cells #[.int .i64 S0,.slice a n c,.int .i64 (F:Int),.int .i64 T] 67)) 39 (zC 39)
  simpa using this
 have hB0:Below w.heap.size w ((w.alloc (.cells #[.int .i64 S0,.slice a n c,.int .i64 (F:Int),.int .i64 T] 67)).alloc (.cells (zC 39) 39)):=(al w _).trans ((al _ _).mono (by simp))
 generalize (w.alloc (.cells #[.int .i64 S0,.slice a n c,.int .i64 (F:Int),.int .i64 T] 67)).alloc (.cells (zC 39) 39)=W0 at h2 h4 hB0⊢
 obtain⟨b4,hb4⟩:∃b4,w.heap.size+1=b4:=⟨_,rfl⟩
 rw[hb4] at h4
 rw[hb4]
 obtain⟨r0,r1,r2,r3⟩:=h2.cells4
 have H0:=hid (And.intro h2 (And.intro h4 (And.intro hB0 hb4)))
 have HR0:=hid (HRi.out W0 hB0)
 clear h2 h4 hB0 hb4
 go_wp2_with fail
 refine HR0.out.mono ?_
 rintro e w1 ⟨rfl,hB1⟩
 have hk1:Below w.heap.size w w1:=H0.out.2.2.1.trans (hB1.mono H0.out.2.2.1.size)
 have s2:=H0.out.1.keep hB1
 have H1:=hid (And.intro s2 (And.intro (H0.out.2.1.keep hB1) hk1))
 have HN1:=hid (HNet.out w1 hk1)
 clear r0 r1 r2 r3
 obtain⟨r0,r1,r2,r3⟩:=s2.cells4
 clear hB1 hk1 s2 HR0 HRi HNet
 go_wp2_with fail
 refine HN1.out.mono ?_
 rintro e w2 ⟨bn,f0,gM,cM,gF,cF,gS,cS,nm,L',aF,aS,cRF,cRS,csA,rfl,hB2,hFr,hSt,hMk,hCl,hfst,hren,hnd,hbd,hf0,hnl,hsrc⟩
 obtain⟨m,hm⟩:∃m,(nm.length+7) / 8=m:=⟨_,rfl⟩
 have hlL:L.length=L'.length:=by rw[hren,List.length_map]
 have hL30:L'.length<=6400:=by have:=HH.out.1;omega
 have hM61:nm.length<=12900:=by have:=HH.out.1;omega
 have HMkr:=hid (zfX (KOf L) L' (fun i=>mf (nm.getD i 0)) csA bn gM nm.length cM m (rl (KOf L) 256).length w2 hCl hMk.fld hM61 hm)
 have HNt:=hid (And.intro hFr (And.intro hSt (And.intro hMk (And.intro hfst (And.intro hren (And.intro hnd (And.intro hbd (And.intro hf0 (And.intro hsrc hm)))))))))
 have H2:=hid (And.intro (H1.out.2.1.keep hB2) (H1.out.2.2.trans (hB2.mono H1.out.2.2.size)))
 have hbn:bn<w2.heap.size:=hFr.blk.1
 have hlo:=hB2.size
 have hlo9:w.heap.size<=w2.heap.size:=by have:=H1.out.2.2.size;omega
 clear hB2 hFr hSt hMk hCl hfst hren hnd hbd hf0 hsrc hm hnl hlL HN1 r0 r1 r2 r3
 go_wp2_with fail
 refine HMkr.out.mono ?_
 rintro e w3 ⟨bm,gI,bM,cK,rfl,hMK,hB3⟩
 have c0:w3.cell? ⟨bm,0,none⟩=some (.pointer (some ⟨bn,0,none⟩)):=(hMK.a.r.other 0 (by decide)).trans hMK.c0
 have c1:w3.cell? ⟨bn,256,none⟩=some (.int .i64 (f0:Int)):=(hB3.cell (p:=⟨bn,256,none⟩) hbn).trans HNt.out.2.2.2.1
 have hb3:=hB3.size
 have HMK:=hid (hMK.keep (al w3 (.cells #[.int .i64 (f0:Int)] 3)))
 have HB3:=hid hB3
 have hbs:=hMK.bs_lt
 have hf0M:f0<nm.length:=(List.getElem?_eq_some_iff.1 HNt.out.2.2.2.2.2.2.2.1).1
 have hBw4:Below w2.heap.size w2 (w3.alloc (.cells #[.int .i64 (f0:Int)] 3)):=hB3.trans ((al w3 _).mono hb3)
 have HCl:=hid (zdM (w3.alloc (.cells #[.int .i64 (f0:Int)] 3)) w2.heap.size (bsA bm gI bM (.slice none 0 0) (.slice none 0 0) (.slice none 0 0)) bm gI m nm.length bM bn gM cM gF cF aF cRF L' (HNt.out.1.below hBw4) HNt.out.2.2.2.2.2.2.1 (by omega) cK (fun i=>mf (nm.getD i 0)) (HNt.out.2.2.1.below hBw4) (fun i _=>HH.out.2.1 _) HMK.out.c0 (by omega) HNt.out.2.2.2.2.2.2.2.2.2 _ [] (.slice none 0 0) (.slice none 0 0) (.slice none 0 0) 0 [] [] [] (by simp) (by omega) (by simp)
  (some ⟨w3.heap.size,0,none⟩) 1 1 [f0] rfl (by omega) (fun x hx=>by rw[List.mem_singleton.1 hx];exact hf0M) (fun W hW h0=>by
   have hg:w3.heap.size<(w3.alloc (.cells #[.int .i64 (f0:Int)] 3)).heap.size:=by simp
   have hn:w3.heap.size∉bsA bm gI bM (.slice none 0 0) (.slice none 0 0) (.slice none 0 0):=fun hm=>Nat.lt_irrefl _ (hbs _ hm)
   have h1:=hW _ _ (Array.getElem?_eq_getElem hg) (fun _ _ _ _=>by simp) hn
   refine⟨w3.heap.size,0,rfl,(Array.getElem?_eq_some_iff.1 h1).1,fun j hj=>?_⟩
   obtain rfl:j=0:=by simp at hj;omega
   rw[hW.cell9 hn hg]
   exact (St.new w3 3 #[.int .i64 (f0:Int)]).at_ 0) _ HMK.out.a.r HMK.out.t HMK.out.inv)
 clear hMK hB3 hbs hBw4 HMkr
 go_wp2_with fail
 refine HCl.out.mono ?_
 rintro e w5 hpost
 obtain⟨r,SS1,ms1,D1,n1,cs1,l1,vL1,vS1,vK1,rfl,hM5,hAdd,_,hB5,_⟩:=HMK.out.close hpost ⟨f0,hf0M,.base (by simp)⟩
 obtain⟨s0,rfl,hs0⟩:=hAdd.start ⟨f0,hf0M,.base (by simp)⟩
 have HS0:Hid (∀x,x<nm.length->(s0 x=true↔FR L' (fun y=>y=f0) x)):=fun x hx=>(hs0 x hx).trans (FR.congr (fun y=>by simp) x)
 have HM5:=hid hM5
 have HB5:=hid ((HB3.out.trans ((al w3 _).mono hb3)).trans hB5)
 clear hpost hM5 hAdd hB5 hs0 c0 c1 HCl HMK
 have hlC:(rl (KOf L) 256).length<=256:=by rw[zcL];exact zez _ _
 have hCp:0<(rl (KOf L) 256).length:=by
  rw[zcL]
  exact zfW _
 go_wp2_with fail
 go_loopw [7] (fun v wq=>∃(k:Nat) (SS:List (Nat->Bool)) (ms:List Int) (D:List ((Nat->Bool) × Nat)) (R:List (List Int)) (nn:Nat) (cs:Array Value) (l:List Nat) (vL vS vK vN:Value) (gs:List Nat),v=.int .i64 k/\k<=SS.length/\SS.length<=2000/\
  Hid (MkS w2.heap.size bm gI bM m nm.length (rl (KOf L) 256).length bn (KOf L) L' (fun i=>mf (nm.getD i 0)) SS ms D R nn cs l vL vS vK vN gs wq)/\Hid (RunD nm.length (rl (KOf L) 256).length (TTo L' nm.length (rpO (KOf L))) [s0] k R SS)/\Hid (Below w2.heap.size w2 wq)) (fun v _=>2001-(intOf v).toNat)
 case atStart=>exact⟨0,[s0],ms1,D1,[],n1,cs1,l1,vL1,vS1,vK1,_,[],rfl,by simp,by simp,HM5,RunD.zero,HB5⟩
 case round=>
  clear HM5 HB5
  obtain⟨k,SS,ms,D,R,nn,cs,l,vL,vS,vK,vN,gs,rfl,hk,hS,HM,HRn,HB⟩:=hrel
  obtain⟨aS1,cS1,rfl⟩:=zaa HM.out.t.os
  have d0:wr.cell? ⟨bm,259,none⟩=some (.slice aS1 SS.length cS1):=(HM.out.a.r.other 259 (by decide)).trans HM.out.t.cS
  have hRk:=HRn.out.len
  have hst4:St wr 39 b4 (zC 39):=H2.out.1.below HB.out H2.out.1.lt
  by_cases hlt:k<SS.length
  ·have hk63:k<3000:=by omega
   have HLd:=hid (zlR w2.heap.size bm gI bM m nm.length (rl (KOf L) 256).length bn gM cM gF cF gS cS nn k aF aS cRF cRS (rpO (KOf L)) (KOf L) L' (fun i=>mf (nm.getD i 0)) wr (HNt.out.1.below HB.out) (HNt.out.2.1.below HB.out) (HNt.out.2.2.1.below HB.out) HNt.out.2.2.2.2.2.2.1 hL30 (fun i _=>HH.out.2.1 _) (by rw[<-zcL]) hlC hM61 HNt.out.2.2.2.2.2.2.2.2.2 SS ms D R cs l vL _ vK vN gs HM.out hlt (by omega) (by omega))
   have HLt:=hid hlt
   obtain⟨q,hq⟩:∃q,SS.length=q:=⟨_,rfl⟩
   have i1:(k:Int)<(q:Int):=by omega
   rw[hq] at d0
   have HQ:=hid hq
   clear hq hk
   go_wp2_with fail
   refine HLd.out.mono ?_
   rintro e w6 ⟨row,SS2,ms2,D2,n2,cs2,l2,vL2,vS2,vK2,vN2,gs2,rfl,hM6,hRow,hB6⟩
   obtain⟨aS2,cS2,rfl⟩:=zaa hM6.t.os
   have d1:w6.cell? ⟨bm,259,none⟩=some (.slice aS2 SS2.length cS2):=(hM6.a.r.other 259 (by decide)).trans hM6.t.cS
   have HRn2:Hid (RunD nm.length (rl (KOf L) 256).length (TTo L' nm.length (rpO (KOf L))) [s0] (k+1) (R++[row]) SS2):=RunD.succ HRn.out HLt.out hRow
   have HM6:=hid hM6
   have HB6:=hid (HB.out.trans hB6)
   have hst6:St w6 39 b4 (zC 39):=H2.out.1.below HB6.out H2.out.1.lt
   have HP2:=hid hRow.pre.length_le
   obtain⟨q2,hq2⟩:∃q2,SS2.length=q2:=⟨_,rfl⟩
   have HQ2:=hid hq2
   rw[hq2] at d1
   clear hM6 hRow hB6 hq2 d0 hst4 HLd
   by_cases hbig:2000<q2
   ·have i2:(2000:Int)<(q2:Int):=by omega
    have HF:Hid (DetP L F mf w (.returned (.tuple #[.agg (zC 39),.int .i64 6])) (w6.setRow b4 (zC 39))):=by
     refine⟨zC 39,6,nm,L',f0,s0,k+1,R++[row],SS2,rfl,zaj (H2.out.2.trans (HB6.out.mono hlo9)) (by have:=H0.out.2.2.2;omega) _,⟨HNt.out.2.2.2.2.1,HNt.out.2.2.2.2.2.1,HNt.out.2.2.2.2.2.2.1,HNt.out.2.2.2.2.2.2.2.1,HNt.out.2.2.2.2.2.2.2.2.1,HS0.out,HRn2.out⟩,zak,zbw,Or.inl ⟨rfl,by rw[HQ2.out];exact hbig,rfl⟩⟩
    have HSt:=hid hst6
    clear hst6
    go_wp2_with (first|(refine zaF rfl 39 _ rfl #[] ?hp (.agg (zC 39)) ?hb ?_)|(refine zaf rfl 39 _ _ rfl b4 39 (zC 39) (zC 39) rfl rfl HSt.out rfl (by rw[zah,zak]) zbw ?_))
    case hb=>exact zbt _
    refine bodyPost_ret (zaC rfl _ _ b4 (zC 39) _ rfl HSt.out.setRow.part Tryz.underlying39 rfl (by rw[zah,zak])) rfl ?_
    exact HF.out
   ·have i2:¬((2000:Int)<(q2:Int)):=by omega
    clear hst6
    go_wp2_with fail
    go_roundw
    case rel=>exact⟨k+1,SS2,ms2,D2,R++[row],n2,cs2,l2,vL2,_,vK2,vN2,gs2,by go_num,by have:=HP2.out;have:=HLt.out;omega,by have:=HQ2.out;omega,HM6,HRn2,HB6⟩
    case measure=>simp[intOf];have:=HLt.out;omega
  ·have hkq:k=SS.length:=by omega
   obtain⟨cD,hcs,hone,hcell,hml,hD⟩:=HM.out.dfa (fun r hr=>HRn.out.rowlen r hr)
   have HF:Hid (DetP L F mf w (.returned (.tuple #[.agg cD,.int .i64 0])) (wr.setRow b4 cD)):=by
    refine⟨cD,0,nm,L',f0,s0,k,R,SS,rfl,zaj (H2.out.2.trans (HB.out.mono hlo9)) (by have:=H0.out.2.2.2;omega) _,⟨HNt.out.2.2.2.2.1,HNt.out.2.2.2.2.2.1,HNt.out.2.2.2.2.2.2.1,HNt.out.2.2.2.2.2.2.2.1,HNt.out.2.2.2.2.2.2.2.2.1,HS0.out,HRn.out⟩,hcs,hone,Or.inr ⟨rfl,hkq.symm,by omega,ms,hD.setRow hst4,by omega,HM.out.inv.mks⟩⟩
   have HSt:=hid hst4
   have HX:=hid (And.intro hcs (And.intro hone hcell))
   have i1:¬((k:Int)<(SS.length:Int)):=by omega
   clear hst4 hD hml hcs hone hcell hkq hlt hk
   go_wp2_with (first|(refine zam rfl 39 _ rfl ⟨bm,1,none⟩ rfl cD _ HX.out.2.2 Tryz.underlying39 rfl (by rw[zah,HX.out.1]) ?_)|(refine zaf rfl 39 _ _ rfl b4 39 (zC 39) cD rfl rfl HSt.out (by rw[zak,HX.out.1]) (by rw[zah,HX.out.1]) HX.out.2.1 ?_))
   refine bodyPost_ret (zaC rfl _ _ b4 cD _ rfl HSt.out.setRow.part Tryz.underlying39 rfl (by rw[zah,HX.out.1])) rfl ?_
   exact HF.out
theorem ziG (bV:Nat) (a:Option Addr) (n c:Nat) (z:Nat->Int) (hn:n<=9223372036854775807) (w:World) (hS:St w 30 bV #[.slice a n c]) (hz:ZAt w a n z) (x:Nat) (hx:x<=9223372036854775807):
  Calls Tryz.prog 52 #[.int .i64 (x:Int),.pointer (some ⟨bV,0,none⟩)] w fun e w'=>e=.returned (.int .i64 (mkOf n z x))/\w'=w:=by
 have c0:w.cell? ⟨bV,0,none⟩=some (.slice a n c):=hS.at_ 0
 by_cases hlt:x<n
 ·obtain⟨g,off,rfl,_,q⟩:=hz (by omega)
  have d0:=q x hlt
  have i1:(x:Int)<(n:Int):=by omega
  have HM:Hid (mkOf n z x=max (z x) (-1)):=by
   show _=_
   unfold mkOf
   rw[if_pos hlt]
   split <;> omega
  generalize mkOf n z x=r at HM
  generalize z x=y at d0 HM
  clear q
  go_enter Tryz.func52,Tryz.ntmps52
  go_wp2_with fail
  go_ret
  exact⟨by rw[HM.out];rfl,rfl⟩
 ·have i1:¬((x:Int)<(n:Int)):=by omega
  have HM:Hid (mkOf n z x=-1):=by show _=_;simp[mkOf,hlt]
  go_enter Tryz.func52,Tryz.ntmps52
  go_wp2_with fail
  go_ret
  exact⟨by rw[HM.out];rfl,rfl⟩
theorem zgU (bV:Nat) (S F:Int) (T:Nat) (a:Option Addr) (n c:Nat) (w:World) (hS:St w 67 bV #[.int .i64 S,.slice a n c,.int .i64 F,.int .i64 (T:Int)]) (x:Nat) (hx:x<=9223372036854775807) (hT:T<=9223372036854775807):
  Calls Tryz.prog 62 #[.int .i64 (x:Int),.pointer (some ⟨bV,0,none⟩)] w fun e w'=>e=.returned (.int .i64 (if x=T then 0 else -1))/\w'=w:=by
 obtain⟨c0,c1,c2,c3⟩:=hS.cells4
 by_cases e:x=T
 ·rw[if_pos e]
  subst e
  go_enter Tryz.func62,Tryz.ntmps62
  go_wp2_with fail
  go_ret
  exact⟨rfl,rfl⟩
 ·rw[if_neg e]
  have i1:¬((x:Int)=(T:Int)):=by omega
  go_enter Tryz.func62,Tryz.ntmps62
  go_wp2_with fail
  go_ret
  exact⟨rfl,rfl⟩
theorem DetP.put {L:List En}{F:Nat}{mf:Nat->Int}{w W0 w':World}{cD:Array Value}{er:Int}{nm:List Nat}{L':List En}{f0 k:Nat}{s0:Nat->Bool}{R:List (List Int)}{SS:List (Nat->Bool)}{b4:Nat}
  (hB:Below w.heap.size w W0) (h1:Below W0.heap.size W0 w') (h2:Made L F nm L' f0 s0 k R SS) (h3:cD.size=258) (h4:∀v∈cD.toList,v.oneCell'=true)
  (h5:(er=6/\2000<SS.length/\cD=zC 39)\/(er=0/\SS.length=k/\k<=2000/\∃ms,DfaAt w' cD (KOf L) R ms (rl (KOf L) 256).length/\ms.length=k/\∀j (h:j<SS.length) (h2:j<ms.length),Least (fun i=>mf (nm.getD i 0)) (fun x=>x<nm.length/\SS[j] x=true) ms[j]))
  (hst:St w' 39 b4 (zC 39)) (hb4:w.heap.size<=b4):DetP L F mf w (.returned (.tuple #[.agg cD,.int .i64 er])) (w'.setRow b4 cD):=by
 refine⟨cD,er,nm,L',f0,s0,k,R,SS,rfl,zaj (hB.trans (h1.mono hB.size)) hb4 _,h2,h3,h4,?_⟩
 rcases h5 with h|⟨e1,e2,e3,ms,h6,h7,h8⟩
 ·exact Or.inl h
 ·exact Or.inr ⟨e1,e2,e3,ms,h6.setRow hst,h7,h8⟩
theorem znH (S0 T:Int) (F:Nat) (L:List En) (a:Option Addr) (n c:Nat) (am:Option Addr) (nM cM:Nat) (z:Nat->Int) (w:World) (hz:ZAt w am nM z) (hnM:nM<=9223372036854775807)
  (hL:EdAt w a (L.map En.z)) (hn:L.length=n) (hmax:n<=6400) (hsb:(setsOf (L.map En.z)).length<=1000) (hF:F<=9223372036854775807) (hE:∀e∈L,e.f<=9223372036854775807/\e.t<=9223372036854775807) (hr:riB S0 (L.map En.z) (F:Int) T=true):
  Calls Tryz.prog 31 #[.agg #[.int .i64 S0,.slice a n c,.int .i64 (F:Int),.int .i64 T],.slice am nM cM] w (DetP L F (mkOf nM z) w):=by
 have hmk:∀(fn:Fn) (first cap:Array Value) (w:World),(Instr.makeFunc fn first cap).run Tryz.prog w=.ok (.func fn first cap) w:=fun _ _ _ _=>rfl
 have HD:=hid (fun (W:World) (hb:Below w.heap.size w W) (bV:Nat) (hS:St W 30 bV #[.slice am nM cM])=>zkl 52 bV (mkOf nM z) S0 T F L a n c W zen.1 (fun W' hb' x hx=>ziG bV am nM cM z hnM W' (hS.keep hb') (hz.below (hb.trans (hb'.mono hb.size))) x hx) (fun x=>by unfold mkOf;split <;> (try split) <;> omega) (hL.below hb) hn hmax hsb hF hE hr)
 clear hL hn hE hr hz
 go_enter Tryz.func31,Tryz.ntmps31
 go_wp2_with (refine zap rfl 39 rfl (zC 39) (zat _) ?_)
 go_upto_region 1 with fail
 obtain⟨W0,hW0⟩:∃W0,((w.alloc (.cells #[.int .i64 S0,.slice a n c,.int .i64 (F:Int),.int .i64 T] 67)).alloc (.cells #[.slice am nM cM] 30)).alloc (.cells (zC 39) 39)=W0:=⟨_,rfl⟩
 have k1:=al w (.cells #[.int .i64 S0,.slice a n c,.int .i64 (F:Int),.int .i64 T] 67)
 have k2:=al (w.alloc (.cells #[.int .i64 S0,.slice a n c,.int .i64 (F:Int),.int .i64 T] 67)) (.cells #[.slice am nM cM] 30)
 have k3:=al ((w.alloc (.cells #[.int .i64 S0,.slice a n c,.int .i64 (F:Int),.int .i64 T] 67)).alloc (.cells #[.slice am nM cM] 30)) (.cells (zC 39) 39)
 have h2:St W0 67 w.heap.size #[.int .i64 S0,.slice a n c,.int .i64 (F:Int),.int .i64 T]:=by rw[<-hW0];exact ((St.new w _ _).keep k2).keep k3
 have h3:St W0 30 (w.heap.size+1) #[.slice am nM cM]:=by
  rw[<-hW0]
  have:=(St.new (w.alloc (.cells #[.int .i64 S0,.slice a n c,.int .i64 (F:Int),.int .i64 T] 67)) 30 #[.slice am nM cM]).keep k3
  simpa using this
 have h4:St W0 39 (w.heap.size+1+1) (zC 39):=by
  rw[<-hW0]
  have:=St.new ((w.alloc (.cells #[.int .i64 S0,.slice a n c,.int .i64 (F:Int),.int .i64 T] 67)).alloc (.cells #[.slice am nM cM] 30)) 39 (zC 39)
  simpa using this
 have hB0:Below w.heap.size w W0:=by rw[<-hW0];exact (k1.trans (k2.mono (by simp))).trans (k3.mono (by simp;omega))
 try rw[hW0]
 obtain⟨b4,hb4⟩:∃b4,w.heap.size+1+1=b4:=⟨_,rfl⟩
 obtain⟨b3,hb3⟩:∃b3,w.heap.size+1=b3:=⟨_,rfl⟩
 rw[hb4] at h4
 rw[hb3] at h3
 rw[hb4,hb3]
 obtain⟨r0,r1,r2,r3⟩:=h2.cells4
 have H0:=hid (And.intro h4 (And.intro hB0 hb4))
 have HD0:=hid (HD.out W0 hB0 b3 h3)
 clear h2 h3 h4 hB0 hb4 hb3 hW0 k1 k2 k3
 go_wp2_with fail
 refine HD0.out.mono ?_
 rintro e w1 ⟨cD,er,nm,L',f0,s0,k,R,SS,rfl,h1,h2,h3,h4,h5⟩
 have hst:=H0.out.1.keep h1
 have HF:=hid (DetP.put H0.out.2.1 h1 h2 h3 h4 h5 hst (by have:=H0.out.2.2;omega))
 have HSt:=hid hst
 have HX:=hid (And.intro h3 h4)
 clear h1 h2 h3 h4 h5 hst HD HD0 r0 r1 r2 r3
 go_wp2_with (refine zaf rfl 39 _ _ rfl b4 39 (zC 39) cD rfl rfl HSt.out (by rw[zak,HX.out.1]) (by rw[zah,HX.out.1]) HX.out.2 ?_)
 refine bodyPost_ret (zaC rfl _ _ b4 cD _ rfl HSt.out.setRow.part Tryz.underlying39 rfl (by rw[zah,HX.out.1])) rfl ?_
 exact HF.out
theorem znI (S0:Int) (F T:Nat) (L:List En) (a:Option Addr) (n c:Nat) (w:World)
  (hL:EdAt w a (L.map En.z)) (hn:L.length=n) (hmax:n<=6400) (hsb:(setsOf (L.map En.z)).length<=1000) (hF:F<=9223372036854775807) (hT:T<=9223372036854775807) (hE:∀e∈L,e.f<=9223372036854775807/\e.t<=9223372036854775807) (hr:riB S0 (L.map En.z) (F:Int) (T:Int)=true):
  Calls Tryz.prog 40 #[.agg #[.int .i64 S0,.slice a n c,.int .i64 (F:Int),.int .i64 (T:Int)]] w (DetP L F (fun x=>if x=T then 0 else -1) w):=by
 have hmk:∀(fn:Fn) (first cap:Array Value) (w:World),(Instr.makeFunc fn first cap).run Tryz.prog w=.ok (.func fn first cap) w:=fun _ _ _ _=>rfl
 have HD:=hid (fun (W:World) (hb:Below w.heap.size w W) (bV:Nat) (hS:St W 67 bV #[.int .i64 S0,.slice a n c,.int .i64 ((F:Nat):Int),.int .i64 ((T:Nat):Int)])=>zkl 62 bV (fun x=>if x=T then 0 else -1) S0 ((T:Nat):Int) F L a n c W zen.2 (fun W' hb' x hx=>zgU bV S0 ((F:Nat):Int) T a n c W' (hS.keep hb') x hx hT) (fun x=>by split <;> omega) (hL.below hb) hn hmax hsb hF hE hr)
 clear hL hn hE hr
 go_enter Tryz.func40,Tryz.ntmps40
 go_wp2_with (refine zap rfl 39 rfl (zC 39) (zat _) ?_)
 go_upto_region 1 with fail
 have h2:St ((w.alloc (.cells #[.int .i64 S0,.slice a n c,.int .i64 (F:Int),.int .i64 (T:Int)] 67)).alloc (.cells (zC 39) 39)) 67 w.heap.size #[.int .i64 S0,.slice a n c,.int .i64 (F:Int),.int .i64 (T:Int)]:=(St.new w _ _).alloc _
 have h4:St ((w.alloc (.cells #[.int .i64 S0,.slice a n c,.int .i64 (F:Int),.int .i64 (T:Int)] 67)).alloc (.cells (zC 39) 39)) 39 (w.heap.size+1) (zC 39):=by
  have:=St.new (w.alloc (.cells #[.int .i64 S0,.slice a n c,.int .i64 (F:Int),.int .i64 (T:Int)] 67)) 39 (zC 39)
  simpa using this
 have hB0:Below w.heap.size w ((w.alloc (.cells #[.int .i64 S0,.slice a n c,.int .i64 (F:Int),.int .i64 (T:Int)] 67)).alloc (.cells (zC 39) 39)):=(al w _).trans ((al _ _).mono (by simp))
 generalize (w.alloc (.cells #[.int .i64 S0,.slice a n c,.int .i64 (F:Int),.int .i64 (T:Int)] 67)).alloc (.cells (zC 39) 39)=W0 at h2 h4 hB0⊢
 obtain⟨b4,hb4⟩:∃b4,w.heap.size+1=b4:=⟨_,rfl⟩
 rw[hb4] at h4
 rw[hb4]
 obtain⟨r0,r1,r2,r3⟩:=h2.cells4
 have H0:=hid (And.intro h4 (And.intro hB0 hb4))
 have HD0:=hid (HD.out W0 hB0 w.heap.size h2)
 clear h2 h4 hB0 hb4
 go_wp2_with fail
 refine HD0.out.mono ?_
 rintro e w1 ⟨cD,er,nm,L',f0,s0,k,R,SS,rfl,h1,h2,h3,h4,h5⟩
 have hst:=H0.out.1.keep h1
 have HF:=hid (DetP.put (mf:=fun x=>if x=T then 0 else -1) H0.out.2.1 h1 h2 h3 h4 h5 hst (by have:=H0.out.2.2;omega))
 have HSt:=hid hst
 have HX:=hid (And.intro h3 h4)
 clear h1 h2 h3 h4 h5 hst HD HD0 r0 r1 r2 r3
 go_wp2_with (refine zaf rfl 39 _ _ rfl b4 39 (zC 39) cD rfl rfl HSt.out (by rw[zak,HX.out.1]) (by rw[zah,HX.out.1]) HX.out.2 ?_)
 refine bodyPost_ret (zaC rfl _ _ b4 cD _ rfl HSt.out.setRow.part Tryz.underlying39 rfl (by rw[zah,HX.out.1])) rfl ?_
 exact HF.out
theorem GridOw.pushRow {w w':World}{B ts te sz M:Nat}{v v' u:Value}{vs:Nat->Value}{len:Nat->Nat}{xs:Nat->List Value}(h:GridOw w B ts te sz v M vs len xs) (ht:te≠ts) (hu:w.ownsRow B te sz u (len M) (xs M)) (hs:∀i,i<M->∀b,(vs i).ownBlock=some b->u.ownBlock≠some b)
  (ho:w'.ownsRow B ts 1 v' (M+1) ((List.range M).map vs++[u])) (hg:w.grownBy w' v.ownBlock):GridOw w' B ts te sz v' (M+1) (fun j=>if j=M then u else vs j) len xs:=by
 refine⟨?_,fun i hi=>?_,fun i j hi hj hij b=>?_⟩
 ·have e:(List.range (M+1)).map (fun j=>if j=M then u else vs j)=(List.range M).map vs++[u]:=by
   rw[List.range_succ,List.map_append]
   congr 1
   ·refine List.map_congr_left fun j hj=>?_
    have:j<M:=by simpa using hj
    rw[if_neg (by omega)]
   ·simp
  rw[e]
  exact ho
 ·by_cases e:i=M
  ·subst e
   simp only[if_pos rfl]
   exact zaG hu hg (fun b e1 e2=>zan hu h.own ht b e1 e2.symm)
  ·simp only[if_neg e]
   exact zaG (h.row i (by omega)) hg (fun b e1 e2=>zan (h.row i (by omega)) h.own ht b e1 e2.symm)
 ·by_cases e1:i=M
  ·by_cases e2:j=M
   ·omega
   ·simp only[if_pos e1,if_neg e2]
    intro e3 e4
    exact hs j (by omega) b e4 e3
  ·by_cases e2:j=M
   ·simp only[if_neg e1,if_pos e2]
    exact hs i (by omega) b
   ·simp only[if_neg e1,if_neg e2]
    exact h.sep i j (by omega) (by omega) hij b
theorem zaE {w:World}{B t s n:Nat}{v:Value}{xs:List Value}(ho:w.ownsRow B t s v n xs):∀g,v.ownBlock=some g->g<w.heap.size:=fun g e=>by
 obtain⟨c,fz,hc⟩:=zaI ho g e
 exact (Array.getElem?_eq_some_iff.1 hc).1
section
variable {W0 : World}{z N C : Nat}{rp : List Nat}{vP vR : Value}{SS : List (Nat → Bool)}{vs : Nat → Value}{vN : Value}{R : List (List Int)}{ws : Nat → Value}{vO : Value}{ms : List Int}{vW : Value}{row : List Int}{w : World}
end
def slA:Value->Option Addr
 | .slice a _ _=>a
 | _=>none
def slC:Value->Nat
 | .slice _ _ c=>c
 | _=>0
theorem GridOw.zs {w:World}{B k c C:Nat}{a:Option Addr}{ws:Nat->Value}{R:List (List Int)}(h:GridOw w B 30 3 1 (.slice a k c) k ws (fun _=>C) (fun j=>ints (R.getD j []))) (hk:R.length=k) (hl:∀r∈R,r.length=C):
  ZsAt w a k (fun i=>slA (ws i)) (fun i=>slC (ws i)) (fun _=>C) (fun i x=>(R.getD i []).getD x 0):=by
 intro h0
 obtain⟨g,rfl,_,hg,hc⟩:=zae h.own h0
 refine⟨g,0,rfl,hg,fun i hi=>?_⟩
 obtain⟨ai,ci,e⟩:=zaa (h.row i hi)
 have hr:=h.row i hi
 refine⟨?_,fun h1=>?_⟩
 ·rw[Nat.zero_add,(hc i (by omega)).1]
  simp[hi,e,slA,slC]
 ·rw[e] at hr
  obtain⟨g2,e2,_,hg2,hc2⟩:=zae hr h1
  refine⟨g2,0,by simp[e,slA,e2],hg2,fun j hj=>?_⟩
  rw[Nat.zero_add,(hc2 j (by simpa using hj)).1]
  have hi2:i<R.length:=by omega
  have hj2:j<R[i].length:=by rw[hl _ (List.getElem_mem hi2)];exact hj
  simp[ints,List.getD_eq_getElem?_getD,hi2,hj2]
theorem zgV {w:World}{B n c:Nat}{a:Option Addr}{l:List Int}(h:w.ownsRow B 3 1 (.slice a n c) n (ints l)) (hl:l.length=n):ZAt w a n (fun i=>l.getD i 0):=by
 intro h0
 obtain⟨g,rfl,_,hg,hc⟩:=zae h h0
 refine⟨g,0,rfl,hg,fun j hj=>?_⟩
 rw[Nat.zero_add,(hc j (by omega)).1]
 have hj2:j<l.length:=by omega
 simp[ints,List.getD_eq_getElem?_getD,hj2]
end Go.Proofs.YtjehgdjlncofeaaGreat
