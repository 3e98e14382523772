import Derived.Test.YtbacgnhkapancaaGreatZSVar
set_option linter.all false
set_option maxHeartbeats 2000000
set_option maxRecDepth 100000
open Go.Lib (hid)
namespace Go.Proofs.YtbacgnhkapancaaGreat
open Go.ChangeShapes Go.WideShapes Go.ChangeAt Go.RowKit Go.Deep Go.Proofs.Tryz
open Value (oneCell')
open World (news_of_block)
open Option (map_some)
open Nat (le_refl le_trans zero_add zero_le)
open Or (inl inr)
open _root_.Array (getElem?_setIfInBounds_ne)
open Act (put)
open List (getD_eq_getElem?_getD getElem?_append getElem?_map getElem?_range getElem_mem length_map mem_append mem_singleton range replicate take_length)
variable {F M y:Nat}{L L':List En}{Ls lc nm:List Nat}{R:List (List Int)}{SS:List (Nat->Bool)}{cD:Array Value}{s0:Nat->Bool}
theorem zn3(b o j:Nat):(⟨b,o,none⟩:Addr).add j=⟨b,o+j,none⟩:=by unfold Addr.add;split <;> simp_all
open Go.Maps Go.WideElems Go.ChangeMaps Go.MapKept
theorem sq:(prog.info? 163).map (fun i=>(i.zero,i.size,i.bytes))=some (some (.agg #[.slice none 0 0,.int .i64 0]),2,32):=by kernel_rfl
def F5(K:Nat->Lit)(mf:Nat->Int)(L:List En)(F:Nat)(w:World)(e:Ending)(w':World):Prop:=
 ∃(bn f0 gM cM gF cF gS cS:Nat) (nm:List Nat) (L':List En) (aF aS:Nat->Option Addr) (BE Ek:Nat->Nat) (csA:Array Value),e=.returned (.pointer (some ⟨bn,0,none⟩))/\Below w.heap.size w w'/\lU w' w'.heap.size bn gF nm.length cF aF BE L'/\
  pn w' w'.heap.size bn gS nm.length cS aS Ek (qO (rl K 256)) L'/\kW w' w'.heap.size bn gM nm.length cM (fun i=>mf (nm.getD i 0))/\GD w' w'.heap.size bn K csA/\w'.cell? ⟨bn,256,none⟩=some (.int .i64 (f0:Int))/\
  L=L'.map (En.oa nm)/\nm.Nodup/\(∀e∈L',e.f<nm.length/\e.t<nm.length)/\nm[f0]?=some F/\nm.length<=2*L.length+1/\∀x∈nm,Src L F F x
theorem zkj(kf bV:Nat)(mf:Nat->Int)(S0 T:Int)(F:Nat)(L:List En)(a:Option Addr)(n c:Nat)(w:World)(HC:∀(args:Array Value) (W:World),(callFunc kf args).run prog W=.ok (.enter kf args) W)
  (HM:∀W,Below w.heap.size w W->∀x,x<=9223372036854775807->Calls prog kf #[.int .i64 ((x:Nat):Int),.pointer (some ⟨bV,0,none⟩)] W fun e w'=>e=.returned (.int .i64 (mf x))/\w'=W)
  (hL:gq w a (L.map En.z)) (hn:L.length=n) (dD:n<=6400) (pr:(cv (L.map En.z)).length<=1000) (hF:F<=9223372036854775807) (hE:∀e∈L,e.f<=9223372036854775807/\e.t<=9223372036854775807):
  Calls prog 79 #[.agg #[.int .i64 S0,.slice a n c,.int .i64 (F:Int),.int .i64 T],.func (.func kf) #[] #[.pointer (some ⟨bV,0,none⟩)]] w (F5 (dK L) mf L F w):=by
 have iQ:=@run_makeMap prog;have DE:∀(fn:Fn) (first cap:Array Value) (w:World),(Instr.makeFunc fn first cap).run prog w=.ok (.func fn first cap) w:=fun _ _ _ _=>rfl
 have Hsb:=hid pr;have HH:=hid (Zz HC (Zz HM (Zz hL (Zz hn hE))));clear HC HM hL hn hE pr;go_enter func79,ntmps79;go_upto_region 1 with fail;have HI:Hid (∃W0,(w.alloc (.cells #[.int .i64 S0,.slice a n c,.int .i64 (F:Int),.int .i64 T] 67)).alloc (.cells #[.func (.func kf) #[] #[.pointer (some ⟨bV,0,none⟩)]] 93)=W0):=⟨_,rfl⟩
 obtain⟨W0,qe⟩:=HI.out;have h2:St W0 67 w.heap.size #[.int .i64 S0,.slice a n c,.int .i64 (F:Int),.int .i64 T]:=by rw[<-qe];exact (St.new w _ _).alloc _
 have h3:St W0 93 (w.heap.size+1) #[.func (.func kf) #[] #[.pointer (some ⟨bV,0,none⟩)]]:=by
  rw[<-qe];have:=St.new (w.alloc (.cells #[.int .i64 S0,.slice a n c,.int .i64 (F:Int),.int .i64 T] 67)) 93 #[.func (.func kf) #[] #[.pointer (some ⟨bV,0,none⟩)]];simpa using this
 have ll:Below w.heap.size w W0:=by rw[<-qe];exact (al w _).trans ((al _ _).mono (by simp))
 rw[qe];clear qe HI;have H0:=hid (Zz h2 (Zz h3 ll));obtain⟨r0,r1,r2,r3⟩:=h2.bS;have YX:=hid (znZ S0 (F:Int) T a n c (L.map En.z) W0 (HH.out.2.2.1.below ll) (by rw[length_map];exact HH.out.2.2.2.1) (by omega));clear h2 h3 ll;go_wp2_with fail;refine YX.out.mono ?_;rintro e w1 ⟨a1,n1,c1,rfl,jo,DH,l8⟩;have cZ:n1<=1000:=by rw[<-jo];exact Hsb.out
 subst jo;have tj:=hid (zhi a1 _ c1 (qS (L.map En.z)) cZ w1 (zn7 DH rfl));have qE:=hid l8;clear DH l8 r0 r1 r2 r3 YX cZ;go_wp2_with fail;refine tj.out.mono ?_;rintro e w3 ⟨csA,rfl,QW,Xm,pK⟩;obtain⟨cN,mm,gz,jn,F8,G0,GJ,xM⟩:=zl4 csA QW;have tm:=hid (show Below w.heap.size w w3/\St w3 67 w.heap.size #[.int .i64 S0,.slice a n c,.int .i64 (F:Int),.int .i64 T]/\St w3 93 (w.heap.size+1) #[.func (.func kf) #[] #[.pointer (some ⟨bV,0,none⟩)]] from by
  have hk:=qE.out.trans (pK.mono qE.out.size)
  exact⟨H0.out.2.2.trans (hk.mono H0.out.2.2.size),H0.out.1.ab hk,H0.out.2.1.ab hk⟩)
 have HN:=hid (Zz QW (Zz Xm (Zz mm (Zz gz (Zz jn (Zz F8 (Zz G0 GJ)))))));clear QW Xm pK mm gz jn F8 G0 GJ tj;go_wp2_with (refine zw rfl 121 _ rfl #[(0,.agg csA)] ?hp (.agg cN) ?hb ?_)
 case hb=>exact xM _
 go_upto_region 4 with fail;have HA:=hid (tv.start w w3 w.heap.size (w.heap.size+1) (.func (.func kf) #[] #[.pointer (some ⟨bV,0,none⟩)]) mf cN tm.out.1 tm.out.1.size tm.out.2.2 HN.out.2.2.1 HN.out.2.2.2.2.2.1 HN.out.2.2.2.2.2.2.1 HN.out.2.2.2.2.2.2.2);have gD:Hid (St ((((w3.alloc (.cells cN 121)).alloc (.cells #[.pointer (some ⟨w3.heap.size,0,none⟩)] 116)).alloc (.map #[] 0)).alloc (.cells #[.map (some (w3.heap.size+1+1))] 157)) 67 w.heap.size #[.int .i64 S0,.slice a n c,.int .i64 (F:Int),.int .i64 T]):=(((tm.out.2.1.ab (al _ _)).ab (al _ _)).ab (al _ _)).ab (al _ _);obtain⟨bn,bY⟩:∃bn,w3.heap.size=bn:=⟨_,rfl⟩
 rw[bY] at HA gD;rw[bY];generalize (((w3.alloc (.cells cN 121)).alloc (.cells #[.pointer (some ⟨bn,0,none⟩)] 116)).alloc (.map #[] 0)).alloc (.cells #[.map (some (bn+1+1))] 157)=W4 at HA gD⊢;obtain⟨b5,mC⟩:∃b5,bn+1=b5:=⟨_,rfl⟩
 obtain⟨bM,nD⟩:∃bM,bn+1+1=bM:=⟨_,rfl⟩
 obtain⟨b6,eJ⟩:∃b6,bn+1+1+1=b6:=⟨_,rfl⟩
 obtain⟨b2,cr⟩:∃b2,w.heap.size=b2:=⟨_,rfl⟩
 obtain⟨b3,dH⟩:∃b3,w.heap.size+1=b3:=⟨_,rfl⟩
 rw[eJ,nD,mC] at HA;rw[eJ,mC];rw[dH] at HA;rw[dH];have QH:=gD.out;rw[cr] at QH gD;have WS:Below W4.heap.size W4 W4.drew:=(Below.refl _ _).drew;have yO:=hid (HA.out.ab WS);have zp:=hid (OJ w w.heap.size bn b3 b5 b6 bM kf bV mf [] cN (.slice none 0 0) (.slice none 0 0) (.slice none 0 0) (fun _=>.slice none 0 0) (fun _=>.slice none 0 0) (fun _=>[]) [] W4.drew HH.out.1 HH.out.2.1 yO.out (by simp) F hF);have q2:W4.drew.cell? ⟨b2,2,none⟩=some (.int .i64 (F:Int)):=QH.at_ 2;have q5:W4.drew.cell? ⟨b5,0,none⟩=some (.pointer (some ⟨bn,0,none⟩)):=HA.out.sT.at_ 0;rw[cr];have Wm:=hid (Zz cr (Zz mC (Zz nD (Zz eJ dH))));clear QH cr mC nD eJ dH bY WS xM;refine wp_region_held_drew (S:=fun W'=>W'.cell? ⟨b5,0,none⟩=some (.pointer (some ⟨bn,0,none⟩))/\W'.cell? ⟨b2,2,none⟩=some (.int .i64 (F:Int))) (by kernel_rfl) ⟨q5,q2⟩ (fun hHeld=>?_)
 (refine av 0 ?_;refine av 1 ?_;refine av 2 ?_;try simp only[put,sA,sB,sC];refine av 3 ?_;try simp only[put,sA,sB,sC])
 refine bq 4 (fun K hK=>?_);skip;go_simp;go_at_call 114;refine zp.out.mono ?_;rintro e w5 ⟨f0,Oe,SF,Q6,Io,SK,SU,rfl,Br,jU,FN,O0⟩;have HX:=hid (Zz Br (Zz jU (Zz FN O0)));have BV:St w5 67 b2 #[.int .i64 S0,.slice a n c,.int .i64 (F:Int),.int .i64 T]:=O0.st gD.out.drew (fun e=>Or.elim e (fun e=>A3 yO.out.map gD.out.drew e) (fun e=>yO.out.n.oQ gD.out.drew (by decide) (by decide) (by decide) (by decide) (by decide) e));have X6:w5.cell? ⟨b5,0,none⟩=some (.pointer (some ⟨bn,0,none⟩)):=HX.out.1.sT.at_ 0;have q6:=HX.out.1.n.sn.aZ 256;have q7:w5.cell? ⟨bn,256,none⟩=some (.int .i64 0):=(by rw[HX.out.1.n.sn.at_,getElem?_setIfInBounds_ne (by decide),getElem?_setIfInBounds_ne (by decide),getElem?_setIfInBounds_ne (by decide)];exact HN.out.2.2.2.2.1)
 have oY:Hid (tv w w.heap.size bn b3 b5 b6 bM (.func (.func kf) #[] #[.pointer (some ⟨bV,0,none⟩)]) mf Oe (cN.setIfInBounds 256 (.int .i64 (f0:Int))) SF Q6 Io SK SU (fun _=>[]) [] (w5.setCell ⟨bn,256,none⟩ (.int .i64 (f0:Int)))/\St (w5.setCell ⟨bn,256,none⟩ (.int .i64 (f0:Int))) 67 b2 #[.int .i64 S0,.slice a n c,.int .i64 (F:Int),.int .i64 T]):=⟨HX.out.1.first _,BV.fS HX.out.1.n.sn (by decide) _ _⟩
 have M6:=hid HX.out.2;have XU:w5.cell? ⟨b2,2,none⟩=some (.int .i64 (F:Int)):=BV.at_ 2;clear Br jU FN O0
 try go_wp2_with fail
 refine hK.out _ _ ⟨X6,XU⟩ (fun hHeld=>?_);clear hK K
 try simp only[put,sA,sB,sC]
 (refine av 5 ?_;refine av 6 ?_;try simp only[put,sA,sB,sC])
 refine bq 7 (fun K hK=>?_);skip;go_simp;refine hK.out _ _ ⟨oY.out.1.sT.at_ 0,oY.out.2.at_ 2⟩ (fun hHeld=>?_);clear hK K
 try simp only[put,sA,sB,sC]
 refine wpAnyH_done (by kernel_rfl) ?_ _;clear hHeld q2 q5 X6 q6 q7 XU BV HX zp yO;generalize w5.setCell ⟨bn,256,none⟩ (.int .i64 (f0:Int))=W5 at oY⊢;have s0:W5.cell? ⟨b5,0,none⟩=some (.pointer (some ⟨bn,0,none⟩)):=oY.out.1.sT.at_ 0;have WJ:=hid (zmo (dK L) bn csA W5 (oY.out.1.n.cl HN.out.1 HN.out.2.1 (fun j hj=>by rw[getElem?_setIfInBounds_ne (by omega)];exact HN.out.2.2.2.1 j hj)));go_wp2_with fail;refine WJ.out.mono ?_;rintro e w6 ⟨b7,b8,bL,aR,cR,rfl,A6,qh,hbL⟩;have lJ:Hid (l5 w w.heap.size b2 b3 b5 b6 b7 b8 bn bM bL (.func (.func kf) #[] #[.pointer (some ⟨bV,0,none⟩)]) mf #[.int .i64 S0,.slice a n c,.int .i64 (F:Int),.int .i64 T] (cN.setIfInBounds 256 (.int .i64 (f0:Int))) (rl (dK L) 256) aR cR L F f0 0 1 0 Oe SF Q6 Io SK SU (fun _=>[]) [] [] w6):=by
  have h1:=oY.out.1.ab qh;refine⟨h1,(A6 _).base oY.out.1.bb.size,oY.out.2.ab qh,fun i hi=>uS.nil _ _ _,rfl,fun e he=>by simp at he,M6.out.1,?_,?_,?_⟩
  ·rcases M6.out.2.1 with h|h <;> rw[h] <;> simp
  ·have:=oY.out.1.map.lt;omega
  exact UN M6.out.2.1 (inl rfl) (fun x hx=>by simp at hx)
 have s1:w6.cell? ⟨b2,1,none⟩=some (.slice a n c):=lJ.out.s2.at_ 1;have Qx:St w6 67 b2 #[.int .i64 S0,.slice a n c,.int .i64 (F:Int),.int .i64 T]:=lJ.out.s2;clear A6 qh hbL s0 WJ oY M6 Qx;go_wp2_with fail;clear s1;go_loopw [10,11,12,32] (fun _ _ _ v wq=>∃(k nn:Nat) (nm:List Nat) (vM vF vS:Value) (fv sv:Nat->Value) (xs:Nat->List Value) (L':List En) (DL:List ((Nat->Bool) × Option Addr × Nat)),v=.int .i64 k/\k<=n/\nn<=k/\
  Hid (l5 w w.heap.size b2 b3 b5 b6 b7 b8 bn bM bL (.func (.func kf) #[] #[.pointer (some ⟨bV,0,none⟩)]) mf #[.int .i64 S0,.slice a n c,.int .i64 (F:Int),.int .i64 T] (cN.setIfInBounds 256 (.int .i64 (f0:Int))) (rl (dK L) 256) aR cR L F f0 k (2*k+1) nn nm vM vF vS fv sv xs L' DL wq)) (fun _ _ _ v _=>n-(intOf v).toNat)
 ·exact⟨0,0,Oe,SF,Q6,Io,SK,SU,_,[],[],rfl,zero_le _,le_refl _,lJ⟩
 clear lJ;obtain⟨k,nn,nm,vM,vF,vS,fv,sv,xs,L1,DL,rfl,hk,J7,HA⟩:=hrel;by_cases an:k<n
 ·have hkl:k<L.length:=by rw[HH.out.2.2.2.1];exact an
  obtain⟨ge,off,rfl,hg,c0,c1,c2,c3,c4,c5,c6⟩:=(HH.out.2.2.1.below HA.out.a.bb).QV k hkl;have HS:Hid (L.take (k+1)=L.take k++[L[k]]):=List.take_succ_eq_append_getElem hkl;have hx:=HH.out.2.2.2.2 L[k] (getElem_mem _);have nI:Hid (L[k]∈L):=getElem_mem _;generalize L[k]=x at c0 c1 c2 c3 c4 c5 c6 HS hx nI;have p6:Below wr.heap.size wr (wr.alloc (.cells #[.int .i64 (x.f:Int),.int .i64 (x.t:Int),.int .u64 ((wd x.p 0:Nat):Int),.int .u64 ((wd x.p 1:Nat):Int),.int .u64 ((wd x.p 2:Nat):Int),.int .u64 ((wd x.p 3:Nat):Int),.bool x.b] 128)):=al wr _;have qm:=hid (HA.out.ab p6.drew);have lQ:Hid (St (wr.alloc (.cells #[.int .i64 (x.f:Int),.int .i64 (x.t:Int),.int .u64 ((wd x.p 0:Nat):Int),.int .u64 ((wd x.p 1:Nat):Int),.int .u64 ((wd x.p 2:Nat):Int),.int .u64 ((wd x.p 3:Nat):Int),.bool x.b] 128)).drew 128 wr.heap.size #[.int .i64 (x.f:Int),.int .i64 (x.t:Int),.int .u64 ((wd x.p 0:Nat):Int),.int .u64 ((wd x.p 1:Nat):Int),.int .u64 ((wd x.p 2:Nat):Int),.int .u64 ((wd x.p 3:Nat):Int),.bool x.b]):=St.new wr _ _;have d0:(wr.alloc (.cells #[.int .i64 (x.f:Int),.int .i64 (x.t:Int),.int .u64 ((wd x.p 0:Nat):Int),.int .u64 ((wd x.p 1:Nat):Int),.int .u64 ((wd x.p 2:Nat):Int),.int .u64 ((wd x.p 3:Nat):Int),.bool x.b] 128)).drew.cell? ⟨wr.heap.size,0,none⟩=some (.int .i64 (x.f:Int)):=lQ.out.at_ 0;have d1:(wr.alloc (.cells #[.int .i64 (x.f:Int),.int .i64 (x.t:Int),.int .u64 ((wd x.p 0:Nat):Int),.int .u64 ((wd x.p 1:Nat):Int),.int .u64 ((wd x.p 2:Nat):Int),.int .u64 ((wd x.p 3:Nat):Int),.bool x.b] 128)).drew.cell? ⟨wr.heap.size,1,none⟩=some (.int .i64 (x.t:Int)):=lQ.out.at_ 1;have Lp:nm.length<=90000:=by have:=HA.out.len;omega
  clear p6 hkl;go_wp2_with fail;clear c0 c1 c2 c3 c4 c5 c6;refine wp_region_held_drew (S:=fun W'=>W'.cell? ⟨wr.heap.size,0,none⟩=some (.int .i64 (x.f:Int))/\W'.cell? ⟨wr.heap.size,1,none⟩=some (.int .i64 (x.t:Int))) (by kernel_rfl) ⟨d0,d1⟩ (fun hHeld=>?_)
  (refine av 0 ?_;refine av 1 ?_;refine av 2 ?_;try simp only[put,sA,sB,sC];refine av 4 ?_;refine av 5 ?_;refine av 6 ?_;try simp only[put,sA,sB,sC])
  refine bq 3 (fun K hK=>?_);skip;go_simp;go_at_call 114;refine (OJ w w.heap.size bn b3 b5 b6 bM kf bV mf nm _ vM vF vS fv sv xs L1 (wr.alloc (.cells #[.int .i64 (x.f:Int),.int .i64 (x.t:Int),.int .u64 ((wd x.p 0:Nat):Int),.int .u64 ((wd x.p 1:Nat):Int),.int .u64 ((wd x.p 2:Nat):Int),.int .u64 ((wd x.p 3:Nat):Int),.bool x.b] 128)).drew HH.out.1 HH.out.2.1 qm.out.a Lp x.f hx.1).mono ?_;rintro e w2 ⟨k1,nm2,vM2,vF2,Ep,fv2,sv2,rfl,A9,eQ,CE,vn⟩;have iZ:=hid (Zz (qm.out.num A9 CE vn (inr (inr ⟨x,nI.out,inl rfl⟩))) (Zz (vn.st lQ.out (fun e=>qm.out.fq lQ.out (by decide) (by decide) (by decide) (by decide) (by decide) (inr e))) (Zz eQ CE)));clear A9 eQ CE vn
  try go_wp2_with fail
  refine hK.out _ _ ⟨iZ.out.2.1.at_ 0,iZ.out.2.1.at_ 1⟩ (fun hHeld=>?_);clear hK K
  try simp only[put,sA,sB,sC]
  refine bq 7 (fun K hK=>?_);skip;go_simp;go_at_call 114;refine (OJ w w.heap.size bn b3 b5 b6 bM kf bV mf nm2 _ vM2 vF2 Ep fv2 sv2 xs L1 w2 HH.out.1 HH.out.2.1 iZ.out.1.a (by have:=iZ.out.1.len;omega) x.t hx.2).mono ?_;rintro e w3 ⟨k2,lh,Be,D7,rI,wN,vX,rfl,F9,Kb,Di,Ss⟩;have fV:=hid (Zz (iZ.out.1.num F9 Di Ss (inr (inr ⟨x,nI.out,inr rfl⟩))) (Zz (Ss.st iZ.out.2.1 (fun e=>iZ.out.1.fq iZ.out.2.1 (by decide) (by decide) (by decide) (by decide) (by decide) (inr e))) (Zz (OX Di iZ.out.2.2.1) (Zz Kb (show L1.length<=6400 from by have:=congrArg List.length HA.out.rel;rw[length_map] at this;have h2:=List.length_take_le k L;omega)))));clear F9 Kb Di Ss
  try go_wp2_with fail
  refine hK.out _ _ ⟨fV.out.2.1.at_ 0,fV.out.2.1.at_ 1⟩ (fun hHeld=>?_);clear hK K
  try simp only[put,sA,sB,sC]
  (refine av 8 ?_;refine av 9 ?_;try simp only[put,sA,sB,sC])
  refine wpAnyH_done (by kernel_rfl) ?_ _;clear hHeld;have HK:=hid (Zz fV.out.2.2.1 fV.out.2.2.2.1);have jI:k1<lh.length:=(List.getElem?_eq_some_iff.1 HK.out.1).1;have xz:k2<lh.length:=(List.getElem?_eq_some_iff.1 HK.out.2).1;have sU:0<lh.length:=by omega
  have hnm3:lh.length<=90000:=by have:=fV.out.1.len;omega
  obtain⟨z0,z1,z2,z3,z4,z5,z6⟩:=Xd fV.out.2.1;obtain⟨xf,xt,xp,xb⟩:=x;obtain⟨be,qc⟩:∃be,wr.heap.size=be:=⟨_,rfl⟩
  have HE:=hid fV.out.2.1;rw[qc] at z0 z1 z2 z3 z4 z5 z6 HE;rw[qc];clear d0 d1 iZ qm lQ HA Lp qc;dsimp only at z0 z1 z2 z3 z4 z5 z6 HE HS HK;rcases xb with _|_
  ·skip;go_wp2_with fail;obtain⟨aS,cS,rfl⟩:=bJ fV.out.1.a.n.st.own;obtain⟨gS,rfl,-,-,-⟩:=ep fV.out.1.a.n.st.own sU;obtain⟨Bh,AF,hv⟩:=bJ (fV.out.1.a.n.st.row k1 jI)
   try dsimp only at hv
   have uj:=hid (fV.out.1.ab (show Below w3.heap.size w3 w3.drew from (Below.refl _ _).drew));obtain⟨p,hp⟩:∃p,(de L1 k1).length=p:=(⟨_,rfl⟩);have uG:p<=6400:=(by rw[<-hp];exact le_trans (Vz _ _) fV.out.2.2.2.2);have Sq:∀W:World,W.ownsRow w.heap.size 161 1 (.slice (some ⟨gS,0,none⟩) lh.length cS) lh.length ((range lh.length).map vX)->W.cell? ⟨gS,k1,none⟩=some (.slice Bh p AF)/\W.frozen? ⟨gS,k1,none⟩=false:=fun W hW=>by
    obtain⟨g,e,_,_,hc⟩:=ep hW sU;injection e with e;injection e with e;subst e;obtain⟨h1,h2⟩:=hc k1 (by omega);exact⟨by rw[h1];simp only[getElem?_map,getElem?_range jI,map_some,hv,hp],h2⟩
   have k0:=(Sq _ fV.out.1.a.n.st.own).1;have HV:=hid (Zz hv hp);have yF:=hid Sq;obtain⟨q,hq⟩:∃q,lh.length=q:=(⟨_,rfl⟩);have HQ:=hid hq;have j1:(k1:Int)<q:=(by omega);have j2:(0:Int)<=k1:=(by omega);obtain⟨pc,tP⟩:∃pc,(qO (rl (dK L) 256) xp).length=pc:=(⟨_,rfl⟩);have yk:=hid tP;have LK:(rl (dK L) 256).length<=256:=(by rw[zm];exact KS _ _);have tj:=hid (znT w.heap.size bn b7 b8 bL nn (rl (dK L) 256) aR cR _ DL w3.drew uj.out.l (fun x hx=>uj.out.lt x hx) (by omega) LK xp);obtain⟨i0,xk,du,cH,ct⟩:=info_parts sq;have dt:=hid (fun (W:World) (h1:St W 116 b5 #[.pointer (some ⟨bn,0,none⟩)]) (h2:W.cell? ⟨bn,259,none⟩=some (.slice (some ⟨gS,0,none⟩) q cS)) (h3:St W 128 be #[.int .i64 (xf:Int),.int .i64 (xt:Int),.int .u64 ((wd xp 0:Nat):Int),.int .u64 ((wd xp 1:Nat):Int),.int .u64 ((wd xp 2:Nat):Int),.int .u64 ((wd xp 3:Nat):Int),.bool false])=>(⟨h1.at_ 0,h2,h3.at_ 2,h3.at_ 3,h3.at_ 4,h3.at_ 5⟩:W.cell? ⟨b5,0,none⟩=some (.pointer (some ⟨bn,0,none⟩))/\W.cell? ⟨bn,259,none⟩=some (.slice (some ⟨gS,0,none⟩) q cS)/\W.cell? ⟨be,2,none⟩=some (.int .u64 ((wd xp 0:Nat):Int))/\W.cell? ⟨be,3,none⟩=some (.int .u64 ((wd xp 1:Nat):Int))/\W.cell? ⟨be,4,none⟩=some (.int .u64 ((wd xp 2:Nat):Int))/\W.cell? ⟨be,5,none⟩=some (.int .u64 ((wd xp 3:Nat):Int))));have pO:=fV.out.1.a.sT;have tJ:w3.cell? ⟨bn,259,none⟩=some (.slice (some ⟨gS,0,none⟩) q cS):=(by rw[<-hq];exact fV.out.1.a.n.cells.2.2);clear hv hp Sq hq tP LK;refine wp_region_held_drew (S:=fun W'=>W'.cell? ⟨b5,0,none⟩=some (.pointer (some ⟨bn,0,none⟩))/\W'.cell? ⟨bn,259,none⟩=some (.slice (some ⟨gS,0,none⟩) q cS)/\W'.cell? ⟨be,2,none⟩=some (.int .u64 ((wd xp 0:Nat):Int))/\W'.cell? ⟨be,3,none⟩=some (.int .u64 ((wd xp 1:Nat):Int))/\W'.cell? ⟨be,4,none⟩=some (.int .u64 ((wd xp 2:Nat):Int))/\W'.cell? ⟨be,5,none⟩=some (.int .u64 ((wd xp 3:Nat):Int))) (by kernel_rfl) (dt.out _ pO.drew tJ HE.out.drew) (fun hHeld=>?_)
   (refine av 0 ?_;refine av 1 ?_;refine av 2 ?_;try simp only[put,sA,sB,sC];refine av 3 ?_;refine av 4 ?_;refine av 5 ?_;try simp only[put,sA,sB,sC];refine av 6 ?_;refine av 7 ?_;refine av 8 ?_;try simp only[put,sA,sB,sC];refine av 9 ?_;refine av 10 ?_;refine av 12 ?_;try simp only[put,sA,sB,sC];refine av 13 ?_;refine av 14 ?_;refine av 16 ?_;try simp only[put,sA,sB,sC])
   refine wpAnyH_ready (rs:=[11,15]) (by kernel_rfl) (by simp) ?_;refine gy (fun K hK=>?_) ?_
   ·skip;go_simp;refine hK.out _ _ (dt.out _ pO.drew tJ HE.out.drew) (fun hHeld=>?_);clear hK K
    try simp only[put,sA,sB,sC]
    refine bq 15 (fun K hK=>?_);skip;go_simp;go_at_call 143;refine tj.out.mono ?_;rintro e w4 ⟨ac,cc,Cl,rfl,ve,GK,rU,eV⟩;have iw:=hid (uj.out.cls ve rU eV);have sE:Hid (St w4 128 be #[.int .i64 (xf:Int),.int .i64 (xt:Int),.int .u64 ((wd xp 0:Nat):Int),.int .u64 ((wd xp 1:Nat):Int),.int .u64 ((wd xp 2:Nat):Int),.int .u64 ((wd xp 3:Nat):Int),.bool false]):=TD HE.out.drew uj.out.l rU;have zE:=hid GK;rw[yk.out];clear ve GK rU eV;have dk:=hid (iw.out.ab (al w4 (.cells #[.slice ac pc cc,.int .i64 (k2:Int)] 163)));have yL:=hid (sE.out.ab (al w4 (.cells #[.slice ac pc cc,.int .i64 (k2:Int)] 163)));have eY:=iw.out.a.sT;have je:=dk.out.a.sT;have so:w4.cell? ⟨bn,259,none⟩=some (.slice (some ⟨gS,0,none⟩) q cS):=(by rw[<-HQ.out];exact iw.out.a.n.cells.2.2);have tk:(w4.alloc (.cells #[.slice ac pc cc,.int .i64 (k2:Int)] 163)).cell? ⟨bn,259,none⟩=some (.slice (some ⟨gS,0,none⟩) q cS):=(by rw[<-HQ.out];exact dk.out.a.n.cells.2.2);have k4:=(yF.out _ iw.out.a.n.st.own).1;have k5:=(yF.out _ dk.out.a.n.st.own).1;have dA:=dk.out.a.n.st.row k1 jI;rw[HV.out.1,HV.out.2] at dA;have yS:w.heap.size<=(w4.alloc (.cells #[.slice ac pc cc,.int .i64 (k2:Int)] 163)).heap.size:=dk.out.a.n.lo.2
    try go_wp2_with fail
    refine hK.out _ _ (dt.out _ eY so sE.out) (fun hHeld=>?_);clear hK K
    try simp only[put,sA,sB,sC]
    (refine av 17 ?_;try simp only[put,sA,sB,sC])
    refine bq 18 (fun K hK=>?_);skip;go_simp;refine hK.out _ _ (dt.out _ je tk yL.out) (fun hHeld=>?_);clear hK K
    try simp only[put,sA,sB,sC]
    refine bq 19 (fun K hK=>?_);skip;skip;refine step_append_lies _ (by rfl) _ _ _ (by rfl) w.heap.size 163 i0 (.agg #[.slice none 0 0,.int .i64 0]) 2 32 underlying161 xk du cH ct (by rfl) (by decide) _ p (xs k1) (by rfl) dA ⟨w4.heap.size,0,none⟩ 1 1 (#[.slice ac pc cc,.int .i64 (k2:Int)]).toList (by rfl) (by rfl) (news_of_block (cs:=#[.slice ac pc cc,.int .i64 (k2:Int)]) (t:=163) (fr:=(0,0)) (heap_alloc_new w4 _)) (by simp[oneCell']) (by omega) (by unfold maxLen;omega) (by omega) yS (w4.heap.size+1) (by simp) ?_;intro gg fm w6 aj af db ly;have fj:=dk.out.a.n.st.row k1 jI;have gu:=af;rw[show (Value.slice Bh p AF)=vX k1 from by rw[HV.out.1,HV.out.2]] at gu;obtain⟨th,s6⟩:=dk.out.a.n.CY (x:=⟨k1,k2,xp,false⟩) rfl jI xz (v':=(.slice (some ⟨gg,0,none⟩) (p+1) fm)) (p:=p) aj HV.out.2 gu (fun b e=>by rw[HV.out.1,HV.out.2];injection e with e;rw[<-e];rcases db with h|h;exact inl h;exact inr (by rw[h];simp));have fL:=dk.out.a.sT.ae fj (by decide) gu;have fP:=yL.out.ae fj (by decide) gu;have iX:=dk.out.a.n.sn.ae fj (by decide) gu;have pE:w6.cell? ⟨bn,259,none⟩=some (.slice (some ⟨gS,0,none⟩) q cS):=(by rw[iX.at_,<-dk.out.a.n.sn.at_];exact tk);have j8:=sh dk.out.a.n.st.own fj (by decide) gu;obtain⟨t2,t3⟩:=yF.out _ j8;have gG:b5≠gS/\bn≠gS/\be≠gS:=(⟨fun e=>ef j8 fL (by decide) gS rfl e.symm,fun e=>ef j8 iX (by decide) gS rfl e.symm,fun e=>ef j8 fP (by decide) gS rfl e.symm⟩);have HF:Hid (l5 w w.heap.size b2 b3 b5 b6 b7 b8 bn bM bL (.func (.func kf) #[] #[.pointer (some ⟨bV,0,none⟩)]) mf #[.int .i64 S0,.slice (some ⟨ge,off,none⟩) n c,.int .i64 (F:Int),.int .i64 T] (cN.setIfInBounds 256 (.int .i64 (f0:Int))) (rl (dK L) 256) aR cR L F f0 (k+1) (2*(k+1)+1) (nn+1) lh Be D7 (.slice (some ⟨gS,0,none⟩) q cS) wN (fun j=>if j=k1 then (.slice (some ⟨gg,0,none⟩) (p+1) fm) else vX j) (fun j=>if j=k1 then xs k1++(#[.slice ac pc cc,.int .i64 (k2:Int)]).toList else xs j) (L1++[⟨k1,k2,xp,false⟩]) Cl (w6.setCell ⟨gS,k1,none⟩ (.slice (some ⟨gg,0,none⟩) (p+1) fm))):=by
     rw[<-HQ.out];refine dk.out.put (x:=⟨xf,xt,xp,false⟩) th s6 HS.out HK.out.1 HK.out.2 (fun i hi=>?_);rw[CZ];by_cases e:i=k1
     ·subst e;rw[if_pos ⟨rfl,rfl⟩,if_pos rfl];have xo:=(iO.ab (B:=w.heap.size) (bn:=bn) (P:=rD bL bM bn lh.length Be D7 (.slice (some ⟨gS,0,none⟩) lh.length cS) wN vX) (al w4 (.cells #[.slice ac pc cc,.int .i64 (k2:Int)] 163)) iw.out.a.n.lo.2).Es zE.out;have:=(dk.out.rows i hi).snoc ⟨i,k2,xp,false⟩ ac cc xo;dsimp only at this;rw[yk.out] at this;exact this
     rw[if_neg (fun h=>e h.2.symm),if_neg e];exact dk.out.rows i hi
    refine hK.out _ _ (dt.out _ fL pE fP) (fun hHeld=>?_);clear hK K aj af db ly th s6 fj gu j8 iX
    try simp only[put,sA,sB,sC]
    (refine av 20 ?_;try simp only[put,sA,sB,sC])
    refine bq 21 (fun K hK=>?_);skip;go_simp;refine hK.out _ _ (dt.out _ (fL.fq (p:=⟨gS,k1,none⟩) gG.1 _) ((Gd _ _ _ gG.2.1).trans pE) (fP.fq (p:=⟨gS,k1,none⟩) gG.2.2 _)) (fun hHeld=>?_);clear hK K
    try simp only[put,sA,sB,sC]
    refine wpAnyH_done (by kernel_rfl) ?_ _;clear fL gG pE t2 t3 hHeld pO eY je tJ so tk k0 k4 k5 fP;go_wp2;go_roundw
    ·exact⟨k+1,nn+1,lh,_,_,_,_,_,_,_,Cl,by go_num,by omega,by omega,HF⟩
    simp[intOf];omega
   refine gy (fun K hK=>?_) ?_
   ·skip;go_simp;go_at_call 143;refine tj.out.mono ?_;rintro e w4 ⟨ac,cc,Cl,rfl,ve,GK,rU,eV⟩;have iw:=hid (uj.out.cls ve rU eV);have sE:Hid (St w4 128 be #[.int .i64 (xf:Int),.int .i64 (xt:Int),.int .u64 ((wd xp 0:Nat):Int),.int .u64 ((wd xp 1:Nat):Int),.int .u64 ((wd xp 2:Nat):Int),.int .u64 ((wd xp 3:Nat):Int),.bool false]):=TD HE.out.drew uj.out.l rU;have zE:=hid GK;rw[yk.out];clear ve GK rU eV;have dk:=hid (iw.out.ab (al w4 (.cells #[.slice ac pc cc,.int .i64 (k2:Int)] 163)));have yL:=hid (sE.out.ab (al w4 (.cells #[.slice ac pc cc,.int .i64 (k2:Int)] 163)));have eY:=iw.out.a.sT;have je:=dk.out.a.sT;have so:w4.cell? ⟨bn,259,none⟩=some (.slice (some ⟨gS,0,none⟩) q cS):=(by rw[<-HQ.out];exact iw.out.a.n.cells.2.2);have tk:(w4.alloc (.cells #[.slice ac pc cc,.int .i64 (k2:Int)] 163)).cell? ⟨bn,259,none⟩=some (.slice (some ⟨gS,0,none⟩) q cS):=(by rw[<-HQ.out];exact dk.out.a.n.cells.2.2);have k4:=(yF.out _ iw.out.a.n.st.own).1;have k5:=(yF.out _ dk.out.a.n.st.own).1;have dA:=dk.out.a.n.st.row k1 jI;rw[HV.out.1,HV.out.2] at dA;have yS:w.heap.size<=(w4.alloc (.cells #[.slice ac pc cc,.int .i64 (k2:Int)] 163)).heap.size:=dk.out.a.n.lo.2
    try go_wp2_with fail
    refine hK.out _ _ (dt.out _ eY so sE.out) (fun hHeld=>?_);clear hK K
    try simp only[put,sA,sB,sC]
    (refine av 17 ?_;try simp only[put,sA,sB,sC])
    refine wpAnyH_ready (rs:=[11,18]) (by kernel_rfl) (by simp) ?_;refine gy (fun K hK=>?_) ?_
    ·skip;go_simp;refine hK.out _ _ (dt.out _ eY so sE.out) (fun hHeld=>?_);clear hK K
     try simp only[put,sA,sB,sC]
     refine bq 18 (fun K hK=>?_);skip;go_simp;refine hK.out _ _ (dt.out _ je tk yL.out) (fun hHeld=>?_);clear hK K
     try simp only[put,sA,sB,sC]
     refine bq 19 (fun K hK=>?_);skip;skip;refine step_append_lies _ (by rfl) _ _ _ (by rfl) w.heap.size 163 i0 (.agg #[.slice none 0 0,.int .i64 0]) 2 32 underlying161 xk du cH ct (by rfl) (by decide) _ p (xs k1) (by rfl) dA ⟨w4.heap.size,0,none⟩ 1 1 (#[.slice ac pc cc,.int .i64 (k2:Int)]).toList (by rfl) (by rfl) (news_of_block (cs:=#[.slice ac pc cc,.int .i64 (k2:Int)]) (t:=163) (fr:=(0,0)) (heap_alloc_new w4 _)) (by simp[oneCell']) (by omega) (by unfold maxLen;omega) (by omega) yS (w4.heap.size+1) (by simp) ?_;intro gg fm w6 aj af db ly;have fj:=dk.out.a.n.st.row k1 jI;have gu:=af;rw[show (Value.slice Bh p AF)=vX k1 from by rw[HV.out.1,HV.out.2]] at gu;obtain⟨th,s6⟩:=dk.out.a.n.CY (x:=⟨k1,k2,xp,false⟩) rfl jI xz (v':=(.slice (some ⟨gg,0,none⟩) (p+1) fm)) (p:=p) aj HV.out.2 gu (fun b e=>by rw[HV.out.1,HV.out.2];injection e with e;rw[<-e];rcases db with h|h;exact inl h;exact inr (by rw[h];simp));have fL:=dk.out.a.sT.ae fj (by decide) gu;have fP:=yL.out.ae fj (by decide) gu;have iX:=dk.out.a.n.sn.ae fj (by decide) gu;have pE:w6.cell? ⟨bn,259,none⟩=some (.slice (some ⟨gS,0,none⟩) q cS):=(by rw[iX.at_,<-dk.out.a.n.sn.at_];exact tk);have j8:=sh dk.out.a.n.st.own fj (by decide) gu;obtain⟨t2,t3⟩:=yF.out _ j8;have gG:b5≠gS/\bn≠gS/\be≠gS:=(⟨fun e=>ef j8 fL (by decide) gS rfl e.symm,fun e=>ef j8 iX (by decide) gS rfl e.symm,fun e=>ef j8 fP (by decide) gS rfl e.symm⟩);have HF:Hid (l5 w w.heap.size b2 b3 b5 b6 b7 b8 bn bM bL (.func (.func kf) #[] #[.pointer (some ⟨bV,0,none⟩)]) mf #[.int .i64 S0,.slice (some ⟨ge,off,none⟩) n c,.int .i64 (F:Int),.int .i64 T] (cN.setIfInBounds 256 (.int .i64 (f0:Int))) (rl (dK L) 256) aR cR L F f0 (k+1) (2*(k+1)+1) (nn+1) lh Be D7 (.slice (some ⟨gS,0,none⟩) q cS) wN (fun j=>if j=k1 then (.slice (some ⟨gg,0,none⟩) (p+1) fm) else vX j) (fun j=>if j=k1 then xs k1++(#[.slice ac pc cc,.int .i64 (k2:Int)]).toList else xs j) (L1++[⟨k1,k2,xp,false⟩]) Cl (w6.setCell ⟨gS,k1,none⟩ (.slice (some ⟨gg,0,none⟩) (p+1) fm))):=by
      rw[<-HQ.out];refine dk.out.put (x:=⟨xf,xt,xp,false⟩) th s6 HS.out HK.out.1 HK.out.2 (fun i hi=>?_);rw[CZ];by_cases e:i=k1
      ·subst e;rw[if_pos ⟨rfl,rfl⟩,if_pos rfl];have xo:=(iO.ab (B:=w.heap.size) (bn:=bn) (P:=rD bL bM bn lh.length Be D7 (.slice (some ⟨gS,0,none⟩) lh.length cS) wN vX) (al w4 (.cells #[.slice ac pc cc,.int .i64 (k2:Int)] 163)) iw.out.a.n.lo.2).Es zE.out;have:=(dk.out.rows i hi).snoc ⟨i,k2,xp,false⟩ ac cc xo;dsimp only at this;rw[yk.out] at this;exact this
      rw[if_neg (fun h=>e h.2.symm),if_neg e];exact dk.out.rows i hi
     refine hK.out _ _ (dt.out _ fL pE fP) (fun hHeld=>?_);clear hK K aj af db ly th s6 fj gu j8 iX
     try simp only[put,sA,sB,sC]
     (refine av 20 ?_;try simp only[put,sA,sB,sC])
     refine bq 21 (fun K hK=>?_);skip;go_simp;refine hK.out _ _ (dt.out _ (fL.fq (p:=⟨gS,k1,none⟩) gG.1 _) ((Gd _ _ _ gG.2.1).trans pE) (fP.fq (p:=⟨gS,k1,none⟩) gG.2.2 _)) (fun hHeld=>?_);clear hK K
     try simp only[put,sA,sB,sC]
     refine wpAnyH_done (by kernel_rfl) ?_ _;clear fL gG pE t2 t3 hHeld pO eY je tJ so tk k0 k4 k5 fP;go_wp2;go_roundw
     ·exact⟨k+1,nn+1,lh,_,_,_,_,_,_,_,Cl,by go_num,by omega,by omega,HF⟩
     simp[intOf];omega
    refine gy (fun K hK=>?_) ?_
    ·skip;go_simp;refine hK.out _ _ (dt.out _ je tk yL.out) (fun hHeld=>?_);clear hK K
     try simp only[put,sA,sB,sC]
     refine bq 11 (fun K hK=>?_);skip;go_simp;refine hK.out _ _ (dt.out _ je tk yL.out) (fun hHeld=>?_);clear hK K
     try simp only[put,sA,sB,sC]
     refine bq 19 (fun K hK=>?_);skip;skip;refine step_append_lies _ (by rfl) _ _ _ (by rfl) w.heap.size 163 i0 (.agg #[.slice none 0 0,.int .i64 0]) 2 32 underlying161 xk du cH ct (by rfl) (by decide) _ p (xs k1) (by rfl) dA ⟨w4.heap.size,0,none⟩ 1 1 (#[.slice ac pc cc,.int .i64 (k2:Int)]).toList (by rfl) (by rfl) (news_of_block (cs:=#[.slice ac pc cc,.int .i64 (k2:Int)]) (t:=163) (fr:=(0,0)) (heap_alloc_new w4 _)) (by simp[oneCell']) (by omega) (by unfold maxLen;omega) (by omega) yS (w4.heap.size+1) (by simp) ?_;intro gg fm w6 aj af db ly;have fj:=dk.out.a.n.st.row k1 jI;have gu:=af;rw[show (Value.slice Bh p AF)=vX k1 from by rw[HV.out.1,HV.out.2]] at gu;obtain⟨th,s6⟩:=dk.out.a.n.CY (x:=⟨k1,k2,xp,false⟩) rfl jI xz (v':=(.slice (some ⟨gg,0,none⟩) (p+1) fm)) (p:=p) aj HV.out.2 gu (fun b e=>by rw[HV.out.1,HV.out.2];injection e with e;rw[<-e];rcases db with h|h;exact inl h;exact inr (by rw[h];simp));have fL:=dk.out.a.sT.ae fj (by decide) gu;have fP:=yL.out.ae fj (by decide) gu;have iX:=dk.out.a.n.sn.ae fj (by decide) gu;have pE:w6.cell? ⟨bn,259,none⟩=some (.slice (some ⟨gS,0,none⟩) q cS):=(by rw[iX.at_,<-dk.out.a.n.sn.at_];exact tk);have j8:=sh dk.out.a.n.st.own fj (by decide) gu;obtain⟨t2,t3⟩:=yF.out _ j8;have gG:b5≠gS/\bn≠gS/\be≠gS:=(⟨fun e=>ef j8 fL (by decide) gS rfl e.symm,fun e=>ef j8 iX (by decide) gS rfl e.symm,fun e=>ef j8 fP (by decide) gS rfl e.symm⟩);have HF:Hid (l5 w w.heap.size b2 b3 b5 b6 b7 b8 bn bM bL (.func (.func kf) #[] #[.pointer (some ⟨bV,0,none⟩)]) mf #[.int .i64 S0,.slice (some ⟨ge,off,none⟩) n c,.int .i64 (F:Int),.int .i64 T] (cN.setIfInBounds 256 (.int .i64 (f0:Int))) (rl (dK L) 256) aR cR L F f0 (k+1) (2*(k+1)+1) (nn+1) lh Be D7 (.slice (some ⟨gS,0,none⟩) q cS) wN (fun j=>if j=k1 then (.slice (some ⟨gg,0,none⟩) (p+1) fm) else vX j) (fun j=>if j=k1 then xs k1++(#[.slice ac pc cc,.int .i64 (k2:Int)]).toList else xs j) (L1++[⟨k1,k2,xp,false⟩]) Cl (w6.setCell ⟨gS,k1,none⟩ (.slice (some ⟨gg,0,none⟩) (p+1) fm))):=by
      rw[<-HQ.out];refine dk.out.put (x:=⟨xf,xt,xp,false⟩) th s6 HS.out HK.out.1 HK.out.2 (fun i hi=>?_);rw[CZ];by_cases e:i=k1
      ·subst e;rw[if_pos ⟨rfl,rfl⟩,if_pos rfl];have xo:=(iO.ab (B:=w.heap.size) (bn:=bn) (P:=rD bL bM bn lh.length Be D7 (.slice (some ⟨gS,0,none⟩) lh.length cS) wN vX) (al w4 (.cells #[.slice ac pc cc,.int .i64 (k2:Int)] 163)) iw.out.a.n.lo.2).Es zE.out;have:=(dk.out.rows i hi).snoc ⟨i,k2,xp,false⟩ ac cc xo;dsimp only at this;rw[yk.out] at this;exact this
      rw[if_neg (fun h=>e h.2.symm),if_neg e];exact dk.out.rows i hi
     refine hK.out _ _ (dt.out _ fL pE fP) (fun hHeld=>?_);clear hK K aj af db ly th s6 fj gu j8 iX
     try simp only[put,sA,sB,sC]
     (refine av 20 ?_;try simp only[put,sA,sB,sC])
     refine bq 21 (fun K hK=>?_);skip;go_simp;refine hK.out _ _ (dt.out _ (fL.fq (p:=⟨gS,k1,none⟩) gG.1 _) ((Gd _ _ _ gG.2.1).trans pE) (fP.fq (p:=⟨gS,k1,none⟩) gG.2.2 _)) (fun hHeld=>?_);clear hK K
     try simp only[put,sA,sB,sC]
     refine wpAnyH_done (by kernel_rfl) ?_ _;clear fL gG pE t2 t3 hHeld pO eY je tJ so tk k0 k4 k5 fP;go_wp2;go_roundw
     ·exact⟨k+1,nn+1,lh,_,_,_,_,_,_,_,Cl,by go_num,by omega,by omega,HF⟩
     simp[intOf];omega
    exact AllReadyH.nil
   exact AllReadyH.nil
  skip;go_wp2_with fail;obtain⟨aF,cF,rfl⟩:=bJ fV.out.1.a.n.fr.own;obtain⟨gF,rfl,-,-,-⟩:=ep fV.out.1.a.n.fr.own sU;obtain⟨Bh,AF,hv⟩:=bJ (fV.out.1.a.n.fr.row k1 jI)
  try dsimp only at hv
  have iw:=hid (fV.out.1.ab (show Below w3.heap.size w3 (w3.alloc (.cells #[.int .i64 (k2:Int)] 3)).drew from (al w3 _).drew));have dA:=iw.out.a.n.fr.row k1 jI;rw[hv] at dA
  try dsimp only at dA
  obtain⟨p,hp⟩:∃p,(ee L1 k1).length=p:=⟨_,rfl⟩
  have uG:p<=6400:=by rw[<-hp];exact le_trans (Xc _ _) fV.out.2.2.2.2
  have nQ:=fV.out.1.a.n.fr.own;have Kt:∀W:World,W.ownsRow w.heap.size 30 1 (.slice (some ⟨gF,0,none⟩) lh.length cF) lh.length ((range lh.length).map wN)->W.cell? ⟨gF,k1,none⟩=some (.slice Bh p AF)/\W.frozen? ⟨gF,k1,none⟩=false:=fun W hW=>by
   obtain⟨g,e,_,_,hc⟩:=ep hW sU;injection e with e;injection e with e;subst e;obtain⟨h1,h2⟩:=hc k1 (by omega);exact⟨by rw[h1];simp only[getElem?_map,getElem?_range jI,map_some,hv,hp],h2⟩
  have k0:=(Kt _ fV.out.1.a.n.fr.own).1;have m2:=(Kt _ iw.out.a.n.fr.own).1;have HV:=hid (Zz hv hp);have yF:=hid Kt;obtain⟨q,hq⟩:∃q,lh.length=q:=⟨_,rfl⟩
  have HQ:=hid hq;have j1:(k1:Int)<q:=by omega
  have j2:(0:Int)<=k1:=by omega
  have yS:w.heap.size<=((w3.alloc (.cells #[.int .i64 (k2:Int)] 3)).drew).heap.size:=iw.out.a.n.lo.2;rw[hp] at dA;obtain⟨i0,xk,du,cH,ct⟩:=info_parts az;have dt:=hid (fun (W:World) (h1:St W 116 b5 #[.pointer (some ⟨bn,0,none⟩)]) (h2:W.cell? ⟨bn,258,none⟩=some (.slice (some ⟨gF,0,none⟩) q cF))=>(⟨h1.at_ 0,h2⟩:W.cell? ⟨b5,0,none⟩=some (.pointer (some ⟨bn,0,none⟩))/\W.cell? ⟨bn,258,none⟩=some (.slice (some ⟨gF,0,none⟩) q cF)));have pO:=fV.out.1.a.sT;have eY:=iw.out.a.sT;have tJ:w3.cell? ⟨bn,258,none⟩=some (.slice (some ⟨gF,0,none⟩) q cF):=by rw[<-hq];exact fV.out.1.a.n.cells.2.1
  have so:((w3.alloc (.cells #[.int .i64 (k2:Int)] 3)).drew).cell? ⟨bn,258,none⟩=some (.slice (some ⟨gF,0,none⟩) q cF):=by rw[<-hq];exact iw.out.a.n.cells.2.1
  clear hv hp nQ Kt hq;refine wp_region_held_drew (S:=fun W'=>W'.cell? ⟨b5,0,none⟩=some (.pointer (some ⟨bn,0,none⟩))/\W'.cell? ⟨bn,258,none⟩=some (.slice (some ⟨gF,0,none⟩) q cF)) (by kernel_rfl) (dt.out _ pO.drew tJ) (fun hHeld=>?_)
  (refine av 0 ?_;refine av 1 ?_;refine av 2 ?_;try simp only[put,sA,sB,sC];refine av 3 ?_;refine av 4 ?_;refine av 5 ?_;try simp only[put,sA,sB,sC];refine av 6 ?_;refine av 7 ?_;refine av 8 ?_;try simp only[put,sA,sB,sC];refine av 9 ?_;refine av 10 ?_;refine av 12 ?_;try simp only[put,sA,sB,sC])
  refine wpAnyH_ready (rs:=[11,13]) (by kernel_rfl) (by simp) ?_;refine gy (fun K hK=>?_) ?_
  ·skip;go_simp;refine hK.out _ _ (dt.out _ pO.drew tJ) (fun hHeld=>?_);clear hK K
   try simp only[put,sA,sB,sC]
   refine bq 13 (fun K hK=>?_);skip;go_simp;refine hK.out _ _ (dt.out _ eY so) (fun hHeld=>?_);clear hK K
   try simp only[put,sA,sB,sC]
   refine bq 14 (fun K hK=>?_);skip;skip;refine step_append_lies _ (by rfl) _ _ _ (by rfl) w.heap.size 3 i0 (.int .i64 0) 1 8 underlying30 xk du cH ct (by rfl) (by decide) _ p (cO (ee L1 k1)) (by rfl) dA ⟨w3.heap.size,0,none⟩ 1 1 (#[.int .i64 (k2:Int)]).toList (by rfl) (by rfl) (news_of_block (cs:=#[.int .i64 (k2:Int)]) (t:=3) (fr:=(0,0)) (heap_alloc_new w3 _)) (by simp[oneCell']) (by omega) (by unfold maxLen;omega) (by omega) yS (w3.heap.size+1) (by simp) ?_;intro gg fm w6 aj af db ly;have fj:=iw.out.a.n.fr.row k1 jI;have gu:=af;rw[show (Value.slice Bh p AF)=wN k1 from by rw[HV.out.1,HV.out.2]] at gu;obtain⟨th,s6⟩:=iw.out.a.n.GW (x:=⟨k1,k2,xp,true⟩) rfl jI xz (v':=(.slice (some ⟨gg,0,none⟩) (p+1) fm)) (p:=p) aj HV.out.2 gu (fun b e=>by rw[HV.out.1,HV.out.2];injection e with e;rw[<-e];rcases db with h|h;exact inl h;exact inr (by rw[h];simp));have fL:=iw.out.a.sT.ae fj (by decide) gu;have iX:=iw.out.a.n.sn.ae fj (by decide) gu;have pE:w6.cell? ⟨bn,258,none⟩=some (.slice (some ⟨gF,0,none⟩) q cF):=(by rw[iX.at_,<-iw.out.a.n.sn.at_];exact so);have j8:=sh iw.out.a.n.fr.own fj (by decide) gu;obtain⟨t2,t3⟩:=yF.out _ j8;have gG:b5≠gF/\bn≠gF:=(⟨fun e=>ef j8 fL (by decide) gF rfl e.symm,fun e=>ef j8 iX (by decide) gF rfl e.symm⟩);have HF:Hid (l5 w w.heap.size b2 b3 b5 b6 b7 b8 bn bM bL (.func (.func kf) #[] #[.pointer (some ⟨bV,0,none⟩)]) mf #[.int .i64 S0,.slice (some ⟨ge,off,none⟩) n c,.int .i64 (F:Int),.int .i64 T] (cN.setIfInBounds 256 (.int .i64 (f0:Int))) (rl (dK L) 256) aR cR L F f0 (k+1) (2*(k+1)+1) nn lh Be (.slice (some ⟨gF,0,none⟩) q cF) rI (fun j=>if j=k1 then (.slice (some ⟨gg,0,none⟩) (p+1) fm) else wN j) vX xs (L1++[⟨k1,k2,xp,true⟩]) DL (w6.setCell ⟨gF,k1,none⟩ (.slice (some ⟨gg,0,none⟩) (p+1) fm))):=by
    rw[<-HQ.out];exact iw.out.put (x:=⟨xf,xt,xp,true⟩) th s6 HS.out HK.out.1 HK.out.2 (fun i hi=>by rw[CZ,if_neg (by simp)];exact iw.out.rows i hi)
   refine hK.out _ _ (dt.out _ fL pE) (fun hHeld=>?_);clear hK K aj af db ly th s6 fj gu j8 iX
   try simp only[put,sA,sB,sC]
   (refine av 15 ?_;try simp only[put,sA,sB,sC])
   refine bq 16 (fun K hK=>?_);skip;go_simp;refine hK.out _ _ (dt.out _ (fL.fq (p:=⟨gF,k1,none⟩) gG.1 _) ((Gd _ _ _ gG.2).trans pE)) (fun hHeld=>?_);clear hK K
   try simp only[put,sA,sB,sC]
   refine wpAnyH_done (by kernel_rfl) ?_ _;clear fL gG pE t2 t3 hHeld pO eY tJ so;go_wp2;go_roundw
   ·exact⟨k+1,nn,lh,_,_,_,_,_,_,_,DL,by go_num,by omega,by omega,HF⟩
   simp[intOf];omega
  refine gy (fun K hK=>?_) ?_
  ·skip;go_simp;refine hK.out _ _ (dt.out _ eY so) (fun hHeld=>?_);clear hK K
   try simp only[put,sA,sB,sC]
   refine bq 11 (fun K hK=>?_);skip;go_simp;refine hK.out _ _ (dt.out _ eY so) (fun hHeld=>?_);clear hK K
   try simp only[put,sA,sB,sC]
   refine bq 14 (fun K hK=>?_);skip;skip;refine step_append_lies _ (by rfl) _ _ _ (by rfl) w.heap.size 3 i0 (.int .i64 0) 1 8 underlying30 xk du cH ct (by rfl) (by decide) _ p (cO (ee L1 k1)) (by rfl) dA ⟨w3.heap.size,0,none⟩ 1 1 (#[.int .i64 (k2:Int)]).toList (by rfl) (by rfl) (news_of_block (cs:=#[.int .i64 (k2:Int)]) (t:=3) (fr:=(0,0)) (heap_alloc_new w3 _)) (by simp[oneCell']) (by omega) (by unfold maxLen;omega) (by omega) yS (w3.heap.size+1) (by simp) ?_;intro gg fm w6 aj af db ly;have fj:=iw.out.a.n.fr.row k1 jI;have gu:=af;rw[show (Value.slice Bh p AF)=wN k1 from by rw[HV.out.1,HV.out.2]] at gu;obtain⟨th,s6⟩:=iw.out.a.n.GW (x:=⟨k1,k2,xp,true⟩) rfl jI xz (v':=(.slice (some ⟨gg,0,none⟩) (p+1) fm)) (p:=p) aj HV.out.2 gu (fun b e=>by rw[HV.out.1,HV.out.2];injection e with e;rw[<-e];rcases db with h|h;exact inl h;exact inr (by rw[h];simp));have fL:=iw.out.a.sT.ae fj (by decide) gu;have iX:=iw.out.a.n.sn.ae fj (by decide) gu;have pE:w6.cell? ⟨bn,258,none⟩=some (.slice (some ⟨gF,0,none⟩) q cF):=(by rw[iX.at_,<-iw.out.a.n.sn.at_];exact so);have j8:=sh iw.out.a.n.fr.own fj (by decide) gu;obtain⟨t2,t3⟩:=yF.out _ j8;have gG:b5≠gF/\bn≠gF:=(⟨fun e=>ef j8 fL (by decide) gF rfl e.symm,fun e=>ef j8 iX (by decide) gF rfl e.symm⟩);have HF:Hid (l5 w w.heap.size b2 b3 b5 b6 b7 b8 bn bM bL (.func (.func kf) #[] #[.pointer (some ⟨bV,0,none⟩)]) mf #[.int .i64 S0,.slice (some ⟨ge,off,none⟩) n c,.int .i64 (F:Int),.int .i64 T] (cN.setIfInBounds 256 (.int .i64 (f0:Int))) (rl (dK L) 256) aR cR L F f0 (k+1) (2*(k+1)+1) nn lh Be (.slice (some ⟨gF,0,none⟩) q cF) rI (fun j=>if j=k1 then (.slice (some ⟨gg,0,none⟩) (p+1) fm) else wN j) vX xs (L1++[⟨k1,k2,xp,true⟩]) DL (w6.setCell ⟨gF,k1,none⟩ (.slice (some ⟨gg,0,none⟩) (p+1) fm))):=by
    rw[<-HQ.out];exact iw.out.put (x:=⟨xf,xt,xp,true⟩) th s6 HS.out HK.out.1 HK.out.2 (fun i hi=>by rw[CZ,if_neg (by simp)];exact iw.out.rows i hi)
   refine hK.out _ _ (dt.out _ fL pE) (fun hHeld=>?_);clear hK K aj af db ly th s6 fj gu j8 iX
   try simp only[put,sA,sB,sC]
   (refine av 15 ?_;try simp only[put,sA,sB,sC])
   refine bq 16 (fun K hK=>?_);skip;go_simp;refine hK.out _ _ (dt.out _ (fL.fq (p:=⟨gF,k1,none⟩) gG.1 _) ((Gd _ _ _ gG.2).trans pE)) (fun hHeld=>?_);clear hK K
   try simp only[put,sA,sB,sC]
   refine wpAnyH_done (by kernel_rfl) ?_ _;clear fL gG pE t2 t3 hHeld pO eY tJ so;go_wp2;go_roundw
   ·exact⟨k+1,nn,lh,_,_,_,_,_,_,_,DL,by go_num,by omega,by omega,HF⟩
   simp[intOf];omega
  exact AllReadyH.nil
 obtain rfl:k=n:=by omega
 have s0:wr.cell? ⟨b5,0,none⟩=some (.pointer (some ⟨bn,0,none⟩)):=HA.out.a.sT.at_ 0;have HF:Hid (F5 (dK L) mf L F w (.returned (.pointer (some ⟨bn,0,none⟩))) wr):=by
  have Av:=HA.out.rel;rw[show L.take k=L by rw[<-HH.out.2.2.2.1];exact take_length] at Av;have hpos:0<nm.length:=by
   have:=(List.getElem?_eq_some_iff.1 HA.out.hf).1;omega
  have uY:∀i (h:i<nm.length),nm.getD i 0=nm[i]:=fun i h=>by simp[List.getD,h]
  obtain⟨gM,cM,gF,cF,gS,cS,h1,h2,h3⟩:=HA.out.a.n.net (mk:=fun i=>mf (nm.getD i 0)) hpos HA.out.rows (fun i hi=>by simp[hi]);refine⟨bn,f0,gM,cM,gF,cF,gS,cS,nm,L1,_,_,_,_,csA,rfl,HA.out.a.bb,h1,h2,h3,HA.out.a.n.cl HN.out.1 HN.out.2.1 (fun j hj=>by rw[getElem?_setIfInBounds_ne (by omega)];exact HN.out.2.2.2.1 j hj),?_,Av,HA.out.a.nd,HA.out.bd,HA.out.hf,by have:=HA.out.len;have:=HH.out.2.2.2.1;omega,HA.out.src⟩;rw[HA.out.a.n.sn.at_,getElem?_setIfInBounds_ne (by decide),getElem?_setIfInBounds_ne (by decide),getElem?_setIfInBounds_ne (by decide),Array.getElem?_setIfInBounds_self_of_lt (by rw[HN.out.2.2.1];decide)]
 go_wp2;go_ret;exact HF.out
theorem zmf(l:List Nat)(hl:∀x∈l,x<256)(i:Nat)(h:i<l.length):fU (strOf l) i=l[i]:=by
 have hs:i<(strOf l).size:=by rw[yM];exact h
 rw[<-LB _ i hs];have h1:((strOf l).data.toList)[i]?=some ((strOf l)[i]'hs):=by
  rw[Array.getElem?_toList];exact Array.getElem?_eq_getElem hs
 rw[yD,getElem?_map,List.getElem?_eq_getElem h] at h1;simp only[map_some,Option.some.injEq] at h1;rw[<-h1];have:=hl l[i] (getElem_mem h);simp[UInt8.toNat_ofNat];omega
theorem zpZ(M:Nat)(f:Nat->Bool)(i:Nat)(h:i<(M+7) / 8):fU (j9 M f) i=kg (bZ f M) i:=by
 unfold j9;rw[zmf _ (IW f M) i (by simp[fT];omega)];simp[fT]
theorem zn4(M:Nat)(f:Nat->Bool):(j9 M f).size=(M+7) / 8:=by unfold j9;rw[yM];simp[fT]
def pH(L:List En)(rp:Nat->Nat)(es:List En)(c x:Nat):Prop:=∃e∈es,e.p (rp c)=true/\e.t=x
def nc(L:List En)(Ls:List Nat)(i:Nat):Nat:=((Ls.take i).flatMap (de L)).length
def j5(lc:List Nat)(j c:Nat):Nat:=if c∈lc.take j then 1 else 0
theorem UM(lc:List Nat)(j c:Nat):j5 lc j c<=1:=by unfold j5;split <;> omega
theorem zkk{j x:Nat}(hn:lc.Nodup)(h:lc.take (j+1)=lc.take j++[x]):j5 lc j x=0/\j5 lc (j+1) x=1:=by
 have h1:(lc.take j++[x]).Nodup:=by rw[<-h];exact hn.sublist (List.take_sublist _ _)
 have h2:x∉lc.take j:=fun hx=>(List.nodup_append.1 h1).2.2 x hx x (by simp) rfl
 unfold j5;rw[h,if_neg h2,if_pos (by simp)];exact⟨rfl,rfl⟩
theorem zh8{j x c:Nat}(h:lc.take (j+1)=lc.take j++[x])(hc:c≠x):j5 lc (j+1) c=j5 lc j c:=by
 unfold j5;rw[h];simp[hc]
theorem zmg(L:List En)(Ls:List Nat):nc L Ls 0=0:=rfl
theorem zmh{i st:Nat}(h:Ls.take (i+1)=Ls.take i++[st]):nc L Ls (i+1)=nc L Ls i+(de L st).length:=by
 unfold nc;rw[h,List.flatMap_append,List.length_append];simp
theorem zmi(Ls:List Nat)(hn:Ls.Nodup):∀L:List En,(Ls.flatMap (de L)).length<=L.length:=by
 intro L
 induction L with
 | nil=>
  have:Ls.flatMap (de [])=[]:=by simp[de]
  rw[this];exact le_refl _
 | cons e L ih=>
  have key:∀l:List Nat,l.Nodup->(l.flatMap (de (e :: L))).length<=(l.flatMap (de L)).length+(if e.f∈l then 1 else 0):=by
   intro l hl
   induction l with
   | nil=>simp
   | cons a l ih2=>
    have h1:=ih2 (List.nodup_cons.1 hl).2;have h2:(de (e :: L) a).length<=(de L a).length+(if e.f=a then 1 else 0):=by
     unfold de;rw[List.filter_cons];by_cases he:e.f=a
     ·rw[if_pos he];split <;> simp
     rw[if_neg he];have:(!e.b && e.f == a)=false:=(by simp[he]);rw[if_neg (by rw[this];decide)];exact le_refl _
    simp only[List.flatMap_cons,List.length_append];by_cases ha:e.f=a
    ·have h3:e.f∉l:=(by rw[ha];exact (List.nodup_cons.1 hl).1);rw[if_neg h3] at h1;rw[if_pos ha] at h2;rw[if_pos (by simp[ha])];omega
    rw[if_neg ha] at h2;by_cases hb:e.f∈l
    ·rw[if_pos hb] at h1;rw[if_pos (List.mem_cons_of_mem _ hb)];omega
    rw[if_neg hb] at h1;split <;> omega
  have h4:=key Ls hn;have h5:(if e.f∈Ls then 1 else 0)<=1:=by split <;> omega
  simp only[List.length_cons];omega
theorem Pz(L:List En)(hn:Ls.Nodup)(i:Nat):nc L Ls i<=L.length:=zmi (Ls.take i) (hn.sublist (List.take_sublist _ _)) L
def YD(B bm gI bM m M C bn:Nat)(K:Nat->Lit)(L:List En)(mk:Nat->Int)(SS:List (Nat->Bool))(R:List (List Int))(T:Nat->Nat->Prop)(w:World)(e:Ending)(w':World):Prop:=
 ∃(row:List Int) (jz:List (Nat->Bool)) (sX:List Int) (D':List ((Nat->Bool) × Nat)) (n':Nat) (ix:Array Value) (l':List Nat) (jd vS' vK' vN':Value) (gs':List Nat),e=.returned (.tuple #[])/\
  lF B bm gI bM m M C bn K L mk jz sX D' (R++[row]) n' ix l' jd vS' vK' vN' gs' w'/\ik M T SS C row jz/\Below B w w'
theorem zn5(B bm gI bM m M C bn gM cM gF cF gS cS n fr:Nat)(aF aS:Nat->Option Addr)(BE Ek rp:Nat->Nat)(K:Nat->Lit)(L:List En)(mk:Nat->Int)(w:World)
  (HF:lU w B bn gF M cF aF BE L) (HT:pn w B bn gS M cS aS Ek (fun p=>cY (fun c=>p (rp c)) C) L) (HV:kW w B bn gM M cM mk) (hE:∀e∈L,e.f<M/\e.t<M) (MC:L.length<=6400) (fu:∀i,i<M->-1<=mk i)
  (hC:dz K 256=C) (hC2:C<=256) (hM:M<=12900) (hm:(M+7) / 8=m) (SS:List (Nat->Bool)) (ms:List Int) (D:List ((Nat->Bool) × Nat)) (R:List (List Int)) (cs:Array Value) (l:List Nat) (vL vS vK vN:Value) (gs:List Nat)
  (h:lF B bm gI bM m M C bn K L mk SS ms D R n cs l vL vS vK vN gs w) (sW:fr<SS.length) (hS:SS.length<=3000) (hR:R.length<=3000):
  Calls prog 81 #[.pointer (some ⟨bm,0,none⟩),.int .i64 (fr:Int)] w (YD B bm gI bM m M C bn K L mk SS R (fun c x=>FR L (Mv L (fun y=>y<M/\SS[fr] y=true) (rp c)) x) w):=by
 obtain⟨cA,DT,Oi⟩:∃cA:Array Value,cA.size=256/\∀j,j<256->cA[j]?=some (.int .u8 ((cls K j:Nat):Int)):=⟨((range 256).map fun j=>.int .u8 ((cls K j:Nat):Int)).toArray,by simp,fun j hj=>by simp[hj]⟩
 have dL:(prog.info? 36).map (·.size)=some cA.size:=by rw[DT];kernel_rfl
 have dv:∀j v,cA.toList[j]?=some v->w.cell? ((⟨bm,1,none⟩:Addr).add j)=some v:=by
  intro j v hj;have hj2:j<256:=by
   have:=(List.getElem?_eq_some_iff.1 hj).1;simpa [DT] using this
  have e:(⟨bm,1,none⟩:Addr).add j=⟨bm,1+j,none⟩:=by unfold Addr.add;split <;> simp_all
  have h1:=Oi j hj2;rw[<-Array.getElem?_toList,hj] at h1;rw[e,h.a.r.other (1+j) (by omega),h.cl j hj2,h1]
 have NP:=hid (zl8 K cA DT Oi w);have iD:=Yk C (by omega);have H:=hid h;have Fp:=hid MC;have HN:=hid (Zz HF (Zz HT (Zz HV (Zz hE (Zz fu (Zz hm sW))))));rw[hC] at NP;obtain⟨aS0,Dq,rfl⟩:=bJ h.t.os;obtain⟨yz,rfl,_,_,Ng⟩:=ep h.t.os (by omega);have d0:=(Ng fr (by omega)).1;have d1:w.cell? ⟨bm,259,none⟩=some (.slice (some ⟨yz,0,none⟩) SS.length Dq):=by rw[h.a.r.other 259 (by decide),h.t.cS]
 have DQ:bm<w.heap.size:=h.a.r.sm.lt;have ml:yz<w.heap.size:=by have:=h.yg yz ((yC ..).2 (by simp[Value.ownBlock]));exact this
 have ll:B<=w.heap.size:=h.a.r.hB;rw[show (strs (SS.map (j9 M)))[fr]?=some (.string (j9 M SS[fr])) from by simp[strs,sW]] at d0;have wL:=hid (fun W:World=>zh7 (j9 M SS[fr]) m (by rw[zn4,hm]) (by omega) (bZ SS[fr] M) (fun i hi=>zpZ M _ i (by omega)) W);obtain⟨fs,ki⟩:∃fs,SS[fr]=fs:=⟨_,rfl⟩
 rw[ki] at d0 wL;rw[show (fun c x=>FR L (Mv L (fun y=>y<M/\SS[fr] y=true) (rp c)) x)=(fun c x=>FR L (Mv L (fun y=>y<M/\fs y=true) (rp c)) x) from by rw[ki]];have yv:fr<SS.length:=sW;obtain⟨kS,Rp⟩:∃kS,SS.length=kS:=⟨_,rfl⟩
 have HKS:=hid Rp;rw[Rp] at d1 yv hS;have i0:(fr:Int)<kS:=by omega
 clear h HF HT HV hE fu Oi hm Ng sW ki Rp;go_enter func81,ntmps81;go_wp2_with (refine pM rfl 36 _ rfl ⟨bm,1,none⟩ rfl cA (.array 256 5) dv underlying36 rfl dL ?_);refine NP.out.mono ?_;rintro e w1 ⟨rfl,l8⟩;have kI:=l8.size;have d0':(w1.alloc (.cells (madeCells #[.slice none 0 0] C) 30)).cell? ⟨yz,fr,none⟩=some (.string (j9 M fs)):=(((al w1 _).cell (p:=⟨yz,fr,none⟩) (by show yz<_;omega)).trans (l8.cell (p:=⟨yz,fr,none⟩) ml)).trans d0;have d1':(w1.alloc (.cells (madeCells #[.slice none 0 0] C) 30)).cell? ⟨bm,259,none⟩=some (.slice (some ⟨yz,0,none⟩) kS Dq):=(((al w1 _).cell (p:=⟨bm,259,none⟩) (by show bm<_;omega)).trans (l8.cell (p:=⟨bm,259,none⟩) DQ)).trans d1;clear d0 d1 dv NP;go_wp2_with fail;refine (wL.out _).mono ?_;rintro e w3 ⟨Ls,aL,cL,rfl,hO,jr,gm,pK⟩;have MU:=hid (iA.made w1 w.heap.size C w3 kI pK);have kJ:Below w.heap.size w w3:=(l8.trans ((al w1 _).mono kI)).trans (pK.mono (by simp;omega));obtain⟨gT,Bj⟩:∃gT,w1.heap.size=gT:=⟨_,rfl⟩
 have hgT3:gT<w3.heap.size:=by have:=pK.size;simp at this;omega
 rw[Bj] at MU;have su:∀x∈Ls,x<M/\fs x=true:=fun x hx=>by have:=((gm x).1 hx).2;simpa [bZ] using this
 have yq:=hid (Zz hO (Zz jr (Zz (fun x=>show x∈Ls↔x<M/\fs x=true from ⟨su x,fun hx=>(gm x).2 ⟨by have:=HN.out.2.2.2.2.2.1;omega,by simp[bZ,hx.1,hx.2]⟩⟩) kJ)));have Gn:∀g,(Value.slice aL Ls.length cL).ownBlock=some g->g≠gT:=fun g e h=>by
  have h1:=ef hO (MU.out.iF.1) (by decide) g e;exact h1 h
 have HGT:=hid Gn;have RP:Ls.length<=M:=p8 jr (fun x hx=>(su x hx).1);obtain⟨q,hq⟩:∃q,Ls.length=q:=⟨_,rfl⟩
 have HQ:=hid hq;rw[hq] at RP;rw[Bj];rw[hq];clear hO jr gm pK su Gn kJ l8 d0' d1' wL iD hq Bj;go_wp2_with fail;go_loopw [6,8,10,30] (fun _ _ _ v wq=>∃(i:Nat) (vs:Nat->Value) (tg:Nat->List Nat),v=.int .i64 i/\i<=q/\Hid (iA w3 w.heap.size gT C vs tg wq)/\Hid (∀c,c<C->(tg c).length<=nc L Ls i/\∀x,x∈tg c↔pH L rp ((Ls.take i).flatMap (de L)) c x)) (fun _ _ _ v _=>q-(intOf v).toNat)
 ·exact⟨0,_,_,rfl,zero_le _,MU,fun c hc=>⟨by rw[zmg];simp,fun x=>by simp[pH]⟩⟩
 obtain⟨i,vs,tg,rfl,hi,HA,HC⟩:=hrel;clear MU;have hW:Below w.heap.size w wr:=yq.out.2.2.2.trans HA.out.below;have HW:=hid hW;by_cases an:i<q
 ·have tN:i<Ls.length:=by rw[HQ.out];exact an
  obtain⟨gl,rfl,_,ID,fW⟩:=ep yq.out.1 (by omega);have d0:=(fW i (by omega)).1;rw[By Ls i tN] at d0;have JQ:gl≠gT:=HGT.out gl rfl;replace d0:wr.cell? ⟨gl,i,none⟩=some (.int .i64 ((Ls[i]:Nat):Int)):=(HA.out.kept.na (by simpa using JQ) ID).trans d0;have hs:=((yq.out.2.2.1 Ls[i]).1 (getElem_mem _)).1;have Bo:Hid (Ls.take (i+1)=Ls.take i++[Ls[i]]):=List.take_succ_eq_append_getElem tN;generalize Ls[i]=st at d0 hs Bo;have c0:wr.cell? ⟨bm,0,none⟩=some (.pointer (some ⟨bn,0,none⟩)):=(hW.cell (p:=⟨bm,0,none⟩) DQ).trans ((H.out.a.r.other 0 (by decide)).trans H.out.c0);have bQ:=HN.out.2.1.below (hW.mono ll);have f0:=bQ.gw;have k0:=bQ.row st hs;have wm:=hid (HN.out.2.1.at_ st hs);obtain⟨aR,CF⟩:∃aR,aS st=aR:=⟨_,rfl⟩
  obtain⟨Jj,A8⟩:∃Jj,Ek st=Jj:=⟨_,rfl⟩
  rw[CF,A8] at k0;rw[CF] at wm;have HBE:Hid (∀e∈de L st,e.t<M):=fun e he=>(HN.out.2.2.2.1 e ((KC L st e).1 he).1).2
  obtain⟨p,hp⟩:∃p,(de L st).length=p:=⟨_,rfl⟩
  have uG:p<=6400:=by rw[<-hp];exact le_trans (Vz L st) MC
  have HP:=hid hp;rw[hp] at k0;have i1:(i:Int)<q:=by omega
  have i2:(st:Int)<M:=by omega
  clear bQ CF A8 hp fW tN an hi hW JQ ID;go_wp2_with fail;clear c0 f0 k0 d0;go_loopw [8,10,45] (fun _ _ v wq=>∃(k:Nat) (MX:Nat->Value) (Bl:Nat->List Nat),v=.int .i64 k/\k<=p/\Hid (iA w3 w.heap.size gT C MX Bl wq)/\Hid (∀c,c<C->(Bl c).length<=nc L Ls i+k/\∀x,x∈Bl c↔pH L rp ((Ls.take i).flatMap (de L)++(de L st).take k) c x)) (fun _ _ v _=>p-(intOf v).toNat)
  ·exact⟨0,vs,tg,rfl,zero_le _,HA,fun c hc=>⟨(HC.out c hc).1,fun x=>by rw[(HC.out c hc).2 x];simp⟩⟩
  clear HA HC HW;obtain⟨k,MX,Bl,rfl,hk,HA,HC⟩:=hrel;have hW:Below w.heap.size w wr:=yq.out.2.2.2.trans HA.out.below;by_cases vD:k<p
  ·have hkl:k<(de L st).length:=(by rw[HP.out];exact vD);obtain⟨gx,off,rfl,hgx,xu⟩:=wm.out (by omega);obtain⟨ac,cc,s0,s1,hI⟩:=xu k hkl;replace s0:=(hW.cell (p:=⟨gx,off+k*2,none⟩) (by show gx<_;omega)).trans s0;replace s1:=(hW.cell (p:=⟨gx,off+k*2+1,none⟩) (by show gx<_;omega)).trans s1;have uQ:Hid ((de L st).take (k+1)=(de L st).take k++[(de L st)[k]]):=List.take_succ_eq_append_getElem hkl;have EN:=HBE.out _ (getElem_mem hkl);generalize (de L st)[k]=ed at s0 s1 hI uQ EN;obtain⟨lc,rT⟩:∃lc,cY (fun c=>ed.p (rp c)) C=lc:=(⟨_,rfl⟩);have XZ:Hid (∀x,x∈lc↔x<C/\ed.p (rp x)=true):=(fun x=>by rw[<-rT];exact MR _ _ x);have HND:Hid (lc.Nodup):=(by rw[<-rT];exact (List.nodup_range).filter _);have NL:lc.length<=C:=(by rw[<-rT];exact Z9 _ _);dsimp only at s0 hI;rw[rT] at s0 hI;have HI:=hid hI;obtain⟨pc,tP⟩:∃pc,lc.length=pc:=(⟨_,rfl⟩);have yk:=hid tP;rw[tP] at s0 NL;obtain⟨t,ht⟩:∃t,ed.t=t:=(⟨_,rfl⟩);have HTD:=hid ht;rw[ht] at s1 EN;have i5:(k:Int)<p:=(by omega);have qm:=hid (HA.out.ab (al wr (.cells #[.slice ac pc cc,.int .i64 (t:Int)] 163)));have lQ:=hid (St.new wr 163 #[.slice ac pc cc,.int .i64 (t:Int)]);clear hI rT tP ht xu hkl hW hk;go_wp2_with fail;obtain⟨g8,Tn⟩:∃g8,wr.heap.size=g8:=(⟨_,rfl⟩);rw[Tn] at lQ;rw[Tn];generalize wr.alloc (.cells #[.slice ac pc cc,.int .i64 (t:Int)] 163)=W1 at qm lQ⊢;clear Tn s0 s1 HA;go_loopw [10,52] (fun _ v wz=>∃(j:Nat) (FA:Nat->Value) (od:Nat->List Nat),v=.int .i64 j/\j<=pc/\Hid (iA w3 w.heap.size gT C FA od wz)/\Hid (St wz 163 g8 #[.slice ac pc cc,.int .i64 (t:Int)])/\Hid (∀c,c<C->(od c).length<=nc L Ls i+k+j5 lc j c/\∀x,x∈od c↔pH L rp ((Ls.take i).flatMap (de L)++(de L st).take k) c x\/(c∈lc.take j/\x=t))) (fun _ v _=>pc-(intOf v).toNat)
   ·exact⟨0,MX,Bl,rfl,zero_le _,qm,lQ,fun c hc=>⟨by have:=(HC.out c hc).1;omega,fun x=>by rw[(HC.out c hc).2 x];simp⟩⟩
   clear qm lQ;obtain⟨j,FA,od,rfl,hj,fV,Rf,vz⟩:=hrel;have hW:Below w.heap.size w wr:=yq.out.2.2.2.trans fV.out.below;by_cases hjp:j<pc
   ·have hjl:j<lc.length:=(by rw[yk.out];exact hjp);obtain⟨gi,oi,rfl,VH,Vy⟩:=HI.out (by omega);have s2:=(hW.cell (p:=⟨gi,oi+j,none⟩) (by show gi<_;omega)).trans (Vy j hjl);have hx:=((XZ.out lc[j]).1 (getElem_mem hjl)).1;have Ma:Hid (lc.take (j+1)=lc.take j++[lc[j]]):=List.take_succ_eq_append_getElem hjl;generalize lc[j]=x at s2 hx Ma;have i6:(j:Int)<pc:=(by omega);clear Vy hjl hW;have vl:Hid (∀c,c<C->((fun jj=>if jj=x then od x++[t] else od jj) c).length<=nc L Ls i+k+j5 lc (j+1) c/\∀y,y∈(fun jj=>if jj=x then od x++[t] else od jj) c↔pH L rp ((Ls.take i).flatMap (de L)++(de L st).take k) c y\/(c∈lc.take (j+1)/\y=t)):=fun c hc=>by
     obtain⟨h1,h2⟩:=vz.out c hc;rw[Ma.out];by_cases e:c=x
     ·subst e;have hoi:=zkk HND.out Ma.out;refine⟨by simp;omega,fun y=>?_⟩;simp only[if_true,mem_append,mem_singleton,h2 y];constructor
      ·rintro ((h3|⟨h3,h4⟩)|h3)
       ·exact inl h3
       ·exact inr ⟨inl h3,h4⟩
       exact inr ⟨inr trivial,h3⟩
      rintro (h3|⟨h3,h4⟩)
      ·exact inl (inl h3)
      exact inr h4
     have hoi:=zh8 Ma.out e;refine⟨by simp[e];omega,fun y=>?_⟩;show (y∈if c=x then od x++[t] else od c)↔_;rw[if_neg e,h2 y,mem_append,mem_singleton];simp[e]
    go_wp2_with fail;obtain⟨Ln,Lq,hv⟩:=bJ (fV.out.iF.2.1 x hx);dsimp only at hv;have iw:=hid (fV.out.ab (al wr (.cells #[.int .i64 (t:Int)] 3)).drew);have sE:=hid (Rf.out.ab (al wr (.cells #[.int .i64 (t:Int)] 3)).drew);have dA:=iw.out.iF.2.1 x hx;rw[hv] at dA;dsimp only at dA;have hlen:(od x).length<=20000:=by
     have a1:=(vz.out x hx).1;have a2:=Pz L yq.out.2.1 i;have a3:=UM lc j x;have a4:=Fp.out;omega
    obtain⟨p3,gP⟩:∃p3,(od x).length=p3:=(⟨_,rfl⟩);have k0:wr.cell? ⟨gT,x,none⟩=some (.slice Ln p3 Lq):=(by rw[(fV.out.iF.cell x hx).1,hv,gP]);have m2:(wr.alloc (.cells #[.int .i64 (t:Int)] 3)).drew.cell? ⟨gT,x,none⟩=some (.slice Ln p3 Lq):=(by rw[(iw.out.iF.cell x hx).1,hv,gP]);have tL:=hid (Zz hv gP);have j1:(x:Int)<C:=(by omega);have j2:(0:Int)<=x:=(by omega);have yS:w3.heap.size<=((wr.alloc (.cells #[.int .i64 (t:Int)] 3)).drew).heap.size:=iw.out.below.size;rw[gP] at dA hlen;obtain⟨i0,xk,du,cH,ct⟩:=info_parts az;have dt:=hid (fun (W:World) (h1:St W 163 g8 #[.slice (some ⟨gi,oi,none⟩) pc cc,.int .i64 ((t:Nat):Int)])=>(h1.at_ 1:W.cell? ⟨g8,1,none⟩=some (.int .i64 ((t:Nat):Int))));clear hv gP;refine wp_region_held_drew (S:=fun W'=>W'.cell? ⟨g8,1,none⟩=some (.int .i64 (t:Int))) (by kernel_rfl) (dt.out _ Rf.out.drew) (fun hHeld=>?_)
    (refine av 0 ?_;refine av 1 ?_;refine av 2 ?_;try simp only[put,sA,sB,sC];refine av 3 ?_;refine av 4 ?_;refine av 6 ?_;try simp only[put,sA,sB,sC];refine av 7 ?_;try simp only[put,sA,sB,sC])
    refine wpAnyH_ready (rs:=[5,8]) (by kernel_rfl) (by simp) ?_;refine gy (fun K hK=>?_) ?_
    ·skip;go_simp;refine hK.out _ _ (dt.out _ Rf.out.drew) (fun hHeld=>?_);clear hK K
     try simp only[put,sA,sB,sC]
     refine bq 8 (fun K hK=>?_);skip;go_simp;refine hK.out _ _ (dt.out _ sE.out) (fun hHeld=>?_);clear hK K
     try simp only[put,sA,sB,sC]
     refine bq 9 (fun K hK=>?_);skip;skip;refine step_append_lies _ (by rfl) _ _ _ (by rfl) w3.heap.size 3 i0 (.int .i64 0) 1 8 underlying30 xk du cH ct (by rfl) (by decide) _ p3 (cO (od x)) (by rfl) dA ⟨wr.heap.size,0,none⟩ 1 1 (#[.int .i64 (t:Int)]).toList (by rfl) (by rfl) (news_of_block (cs:=#[.int .i64 (t:Int)]) (t:=3) (fr:=(0,0)) (heap_alloc_new wr _)) (by simp[oneCell']) (by omega) (by unfold maxLen;omega) (by omega) yS (wr.heap.size+1) (by simp) ?_;intro gg fm w6 aj af db ly;have fP:=sE.out.ae dA (by decide) af;have nv:=iw.out.iF.1.ae dA (by decide) af;have t2:w6.cell? ⟨gT,x,none⟩=some (.slice Ln p3 Lq):=(by rw[nv.at_];simp only[List.getElem?_toArray,getElem?_map,getElem?_range hx,map_some,tL.out.1,tL.out.2]);have t3:=nv.aZ x;have HF:Hid (iA w3 w.heap.size gT C (fun j=>if j=x then (.slice (some ⟨gg,0,none⟩) (p3+1) fm) else FA j) (fun j=>if j=x then od x++[t] else od j) (w6.setCell ⟨gT,x,none⟩ (.slice (some ⟨gg,0,none⟩) (p3+1) fm))):=
      iw.out.app hx tL.out.2 aj (by rw[tL.out.1,tL.out.2];exact af) (fun b e=>by rw[tL.out.1,tL.out.2];injection e with e;rw[<-e];rcases db with h|h;exact inl h;exact inr (by rw[h];simp))
     have OP:Hid (St (w6.setCell ⟨gT,x,none⟩ (.slice (some ⟨gg,0,none⟩) (p3+1) fm)) 163 g8 #[.slice (some ⟨gi,oi,none⟩) pc cc,.int .i64 (t:Int)]):=fP.fS nv (by decide) x _;refine hK.out _ _ (dt.out _ fP) (fun hHeld=>?_);clear hK K aj af db ly
     try simp only[put,sA,sB,sC]
     (refine av 10 ?_;try simp only[put,sA,sB,sC])
     refine bq 11 (fun K hK=>?_);skip;go_simp;refine hK.out _ _ (dt.out _ (fP.fS nv (by decide) x _)) (fun hHeld=>?_);clear hK K
     try simp only[put,sA,sB,sC]
     refine wpAnyH_done (by kernel_rfl) ?_ _;clear fP nv t2 t3 hHeld;go_wp2;go_roundw
     ·exact⟨j+1,_,_,by go_num,by omega,HF,OP,vl⟩
     simp[intOf];omega
    refine gy (fun K hK=>?_) ?_
    ·skip;go_simp;refine hK.out _ _ (dt.out _ sE.out) (fun hHeld=>?_);clear hK K
     try simp only[put,sA,sB,sC]
     refine bq 5 (fun K hK=>?_);skip;go_simp;refine hK.out _ _ (dt.out _ sE.out) (fun hHeld=>?_);clear hK K
     try simp only[put,sA,sB,sC]
     refine bq 9 (fun K hK=>?_);skip;skip;refine step_append_lies _ (by rfl) _ _ _ (by rfl) w3.heap.size 3 i0 (.int .i64 0) 1 8 underlying30 xk du cH ct (by rfl) (by decide) _ p3 (cO (od x)) (by rfl) dA ⟨wr.heap.size,0,none⟩ 1 1 (#[.int .i64 (t:Int)]).toList (by rfl) (by rfl) (news_of_block (cs:=#[.int .i64 (t:Int)]) (t:=3) (fr:=(0,0)) (heap_alloc_new wr _)) (by simp[oneCell']) (by omega) (by unfold maxLen;omega) (by omega) yS (wr.heap.size+1) (by simp) ?_;intro gg fm w6 aj af db ly;have fP:=sE.out.ae dA (by decide) af;have nv:=iw.out.iF.1.ae dA (by decide) af;have t2:w6.cell? ⟨gT,x,none⟩=some (.slice Ln p3 Lq):=(by rw[nv.at_];simp only[List.getElem?_toArray,getElem?_map,getElem?_range hx,map_some,tL.out.1,tL.out.2]);have t3:=nv.aZ x;have HF:Hid (iA w3 w.heap.size gT C (fun j=>if j=x then (.slice (some ⟨gg,0,none⟩) (p3+1) fm) else FA j) (fun j=>if j=x then od x++[t] else od j) (w6.setCell ⟨gT,x,none⟩ (.slice (some ⟨gg,0,none⟩) (p3+1) fm))):=
      iw.out.app hx tL.out.2 aj (by rw[tL.out.1,tL.out.2];exact af) (fun b e=>by rw[tL.out.1,tL.out.2];injection e with e;rw[<-e];rcases db with h|h;exact inl h;exact inr (by rw[h];simp))
     have OP:Hid (St (w6.setCell ⟨gT,x,none⟩ (.slice (some ⟨gg,0,none⟩) (p3+1) fm)) 163 g8 #[.slice (some ⟨gi,oi,none⟩) pc cc,.int .i64 (t:Int)]):=fP.fS nv (by decide) x _;refine hK.out _ _ (dt.out _ fP) (fun hHeld=>?_);clear hK K aj af db ly
     try simp only[put,sA,sB,sC]
     (refine av 10 ?_;try simp only[put,sA,sB,sC])
     refine bq 11 (fun K hK=>?_);skip;go_simp;refine hK.out _ _ (dt.out _ (fP.fS nv (by decide) x _)) (fun hHeld=>?_);clear hK K
     try simp only[put,sA,sB,sC]
     refine wpAnyH_done (by kernel_rfl) ?_ _;clear fP nv t2 t3 hHeld;go_wp2;go_roundw
     ·exact⟨j+1,_,_,by go_num,by omega,HF,OP,vl⟩
     simp[intOf];omega
    exact AllReadyH.nil
   obtain rfl:j=pc:=(by omega);have HZ:Hid (∀c,c<C->(od c).length<=nc L Ls i+(k+1)/\∀x,x∈od c↔pH L rp ((Ls.take i).flatMap (de L)++(de L st).take (k+1)) c x):=fun c hc=>by
    obtain⟨h1,h2⟩:=vz.out c hc;refine⟨by have:=UM lc j c;omega,fun x=>?_⟩;rw[h2 x,uQ.out,<-yk.out,take_length,XZ.out c,<-HTD.out];unfold pH;simp only[mem_append,mem_singleton];constructor
    ·rintro (⟨e,he,h3,h4⟩|⟨⟨_,h3⟩,h4⟩)
     ·exact⟨e,by rcases he with he|he;exact inl he;exact inr (inl he),h3,h4⟩
     exact⟨ed,inr (inr rfl),h3,h4.symm⟩
    rintro⟨e,he,h3,h4⟩;rcases he with he|he|rfl
    ·exact inl ⟨e,inl he,h3,h4⟩
    ·exact inl ⟨e,inr he,h3,h4⟩
    exact inr ⟨⟨hc,h3⟩,h4.symm⟩
   clear hW;go_wp2;go_roundw
   ·exact⟨k+1,FA,od,by go_num,by omega,fV,HZ⟩
   simp[intOf];omega
  obtain rfl:k=p:=by omega
  have HZ:Hid (∀c,c<C->(Bl c).length<=nc L Ls (i+1)/\∀x,x∈Bl c↔pH L rp ((Ls.take (i+1)).flatMap (de L)) c x):=fun c hc=>by
   obtain⟨h1,h2⟩:=HC.out c hc;refine⟨by rw[zmh Bo.out,HP.out];exact h1,fun x=>?_⟩;rw[h2 x,Bo.out,<-HP.out,take_length,List.flatMap_append];simp
  clear hW;go_wp2;go_roundw
  ·exact⟨i+1,MX,Bl,by go_num,by omega,HA,HZ⟩
  simp[intOf];omega
 obtain rfl:i=q:=by omega
 have HZ:Hid (∀c,c<C->(tg c).length<=6400/\∀x,x∈tg c↔pH L rp (Ls.flatMap (de L)) c x):=fun c hc=>by
  obtain⟨h1,h2⟩:=HC.out c hc;refine⟨by have a2:=Pz L yq.out.2.1 i;have a4:=Fp.out;omega,fun x=>?_⟩;rw[h2 x,<-HQ.out,take_length]
 have SJ:gT<wr.heap.size:=by have:=HA.out.below.size;omega
 have zg:=zml C (by omega);have HVs:=hid (Kept.refl [] [] wr);have H1:=hid (H.out.ab hW);have JJ:∀x∈jc bm gI bM vL (.slice (some ⟨yz,0,none⟩) SS.length Dq) vK,x<w.heap.size:=H.out.yg;have wD:w.heap.size<=gT:=HA.out.lo.1;have vo:=hid (Zz JJ wD);clear JJ wD;go_wp2_with fail;obtain⟨gR,AX⟩:∃gR,wr.heap.size=gR:=⟨_,rfl⟩
 rw[AX];have HG:=hid (HA.out.iF);have RG:Hid (∀c,c<C->∀b,(vs c).ownBlock=some b->b<gR/\w3.heap.size<=b):=fun c hc b e=>by
  obtain⟨c1,fz,h1⟩:=pL (HG.out.2.1 c hc) b e;exact⟨by rw[<-AX];exact (Array.getElem?_eq_some_iff.1 h1).1,kq (HG.out.2.1 c hc) b e⟩
 have eB:Hid (St (wr.alloc (.cells (madeCells #[.int .i64 0] C) 3)) 3 gR (ints (replicate C 0)).toArray):=by
  show St _ _ _ _;rw[<-zkm,<-AX];exact St.new _ _ _
 have H2:=hid (H1.out.ab (al wr (.cells (madeCells #[.int .i64 0] C) 3)));have Ra:=hid (HG.out.ab (al wr (.cells (madeCells #[.int .i64 0] C) 3)));have hVs:(wr.alloc (.cells (madeCells #[.int .i64 0] C) 3)).heap.size=gR+1:=by simp[AX]
 have QN:Below w.heap.size w (wr.alloc (.cells (madeCells #[.int .i64 0] C) 3)):=(hW.trans ((al wr _).mono hW.size))
 have Tj:=hid QN;generalize wr.alloc (.cells (madeCells #[.int .i64 0] C) 3)=V at eB H2 Ra hVs QN Tj⊢;obtain⟨tU,Ki⟩:∃tU,jc bm gI bM vL (.slice (some ⟨yz,0,none⟩) SS.length Dq) vK=tU:=⟨_,rfl⟩
 have Xj:=hid Ki;clear H1 HG HVs QN zg hW Ki;have hgTR:gT<gR:=by omega
 have HTC:Hid (∀c,c<C->(fun x=>FR L (fun y=>y∈tg c) x)=(fun x=>FR L (Mv L (fun y=>y<M/\fs y=true) (rp c)) x)):=fun c hc=>funext fun x=>propext (FR.congr (fun y=>by
  rw[(HC.out c hc).2 y]
  rw[<-HQ.out,take_length]
  constructor
  ·rintro⟨e,he,h1,h2⟩
   obtain⟨st,bQ,he⟩:=List.mem_flatMap.1 he
   obtain⟨h3,h4,h5⟩:=(KC L st e).1 he
   exact⟨e,h3,h4,h1,by rw[h5];exact (yq.out.2.2.1 st).1 bQ,h2⟩
  ·rintro⟨e,h3,h4,h1,h5,h2⟩
   exact⟨e,List.mem_flatMap.2 ⟨e.f,(yq.out.2.2.1 e.f).2 h5,(KC L e.f e).2 ⟨h3,h4,rfl⟩⟩,h1,h2⟩) x)
 have HTL:Hid (∀c,c<C->(tg c).length<=6400/\∀x∈tg c,x<M):=fun c hc=>⟨by have a1:=(HC.out c hc).1;have a2:=Pz L yq.out.2.1 i;have a4:=Fp.out;omega,fun x hx=>by
  obtain⟨e,he,h1,h2⟩:=((HC.out c hc).2 x).1 hx
  obtain⟨st,bQ,he⟩:=List.mem_flatMap.1 he
  rw[<-h2]
  exact (HN.out.2.2.2.1 e ((KC L st e).1 he).1).2⟩
 have DD:Hid (∀x∈tU,x<w.heap.size):=by rw[<-Xj.out];exact vo.out.1
 have wD:w.heap.size<=gT:=vo.out.2;clear HC HA hi an HW vo SJ;go_loopw [12,13,75] (fun _ _ v wq=>∃(c:Nat) (row:List Int) (jz:List (Nat->Bool)) (sX:List Int) (D':List ((Nat->Bool) × Nat)) (n':Nat) (ix:Array Value) (l':List Nat) (jd vS' vK':Value),v=.int .i64 c/\c<=C/\
  Hid (lF B bm gI bM m M C bn K L mk jz sX D' R n' ix l' jd vS' vK' vN gs wq)/\Hid (ik M (fun c x=>FR L (Mv L (fun y=>y<M/\fs y=true) (rp c)) x) SS c row jz)/\Hid (Kept [] (gR :: tU) V wq/\Below B V wq/\(∀x∈jc bm gI bM jd vS' vK',x∈tU\/V.heap.size<=x)/\St wq 3 gR (ints (row++replicate (C-c) 0)).toArray/\∀x∈gs,x≠gR)) (fun _ _ v _=>C-(intOf v).toNat)
 case atStart=>exact⟨0,[],SS,ms,D,n,cs,l,vL,_,vK,rfl,zero_le _,H2,ik.zero,Kept.refl _ _ _,Below.refl _ _,fun x hx=>inl (by rw[<-Xj.out];exact hx),by simpa using eB.out,fun x hx e=>by
  obtain⟨i1,h1,h2⟩:=List.getElem_of_mem hx
  have h3:=(H.out.nx.row i1 h1 (by rw[<-H.out.nx.len];exact h1)).1.lt
  omega⟩
 case round=>
  clear H2 eB;obtain⟨c,row,jz,sX,D',n',ix,l',jd,vS',vK',rfl,hc,HM,wm,HK⟩:=hrel;have vu:=wm.out.len;have Tm:gR∉tU:=fun h=>by have:=DD.out _ h;omega
  have Cr:gT∉gR :: tU:=fun h=>by
   rcases List.mem_cons.1 h with h|h
   ·omega
   have:=DD.out _ h;omega
  have wZ:gR∉jc bm gI bM jd vS' vK':=fun h=>by
   rcases HK.out.2.2.1 _ h with h|h
   ·exact Tm h
   omega
  have kJ:Below B w wr:=(Tj.out.mono ll).trans HK.out.2.1;by_cases an:c<C
  ·have hO:=Ra.out.2.1 c an;obtain⟨aT,cT,hv⟩:=bJ hO;dsimp only at hv hO;have t0:wr.cell? ⟨gT,c,none⟩=some (.slice aT (tg c).length cT):=(by rw[HK.out.1.na Cr (by omega),(Ra.out.cell c an).1,hv]);have Dc:=RG.out c an;rw[hv] at hO Dc;have VT:Hid (∀W:World,(∀g,g∉gR :: tU->g<V.heap.size->W.heap[g]?=V.heap[g]?)->Bm W W.heap.size aT (tg c)):=fun W hW h0=>by
    obtain⟨gt,rfl,sP,Mi,mm⟩:=ep hO h0;have h1:=(Dc gt rfl).1;have h2:=hW gt (fun h=>by
     rcases List.mem_cons.1 h with h|h
     ·omega
     ·have:=DD.out _ h;omega) Mi
    refine⟨gt,0,rfl,?_,fun j hj=>?_⟩
    ·rw[Array.getElem?_eq_getElem Mi] at h2;exact (Array.getElem?_eq_some_iff.1 h2).1
    rw[zero_add];have h3:W.cell? ⟨gt,j,none⟩=V.cell? ⟨gt,j,none⟩:=(by simp only[World.cell?,h2]);rw[h3,(mm j (by omega)).1,By (tg c) j hj]
   have x8:=HTL.out c an;have EN:=hid x8.2;replace x8:=x8.1;have Sv:=hid (HTC.out c an);obtain⟨tc,Fz⟩:∃tc,tg c=tc:=(⟨_,rfl⟩);rw[Fz] at t0 VT x8 EN Sv;have dA:row.length=c:=vu.1;have bQ:=HK.out.2.2.2.1;rw[zmm row C c an] at bQ;have e0:wr.cell? ⟨gR,c,none⟩=some (.int .i64 0):=(by rw[bQ.at_,US row C c dA]);have e1:=bQ.aZ c;have oq:Hid (St (wr.setCell ⟨gR,c,none⟩ (.int .i64 (-1))) 3 gR (ints ((row++[-1])++replicate (C-(c+1)) 0)).toArray):=by
    have:=bQ.set c (.int .i64 (-1));rwa [Zc row C c dA an] at this
   have jU:Kept [] [gR] wr (wr.setCell ⟨gR,c,none⟩ (.int .i64 (-1))):=(Kept.refl _ _ _).setCell _ _ (inl (by simp));have fp:Below B wr (wr.setCell ⟨gR,c,none⟩ (.int .i64 (-1))):=(Below.refl _ _).setCell (p:=⟨gR,c,none⟩) (by show B<=gR;omega) _;have Am:=hid (HM.out.fq jU fp (fun x hx h=>wZ (by rw[<-List.mem_singleton.1 h];exact hx)) (fun b e h=>ef HM.out.nx.own bQ (by decide) b e (List.mem_singleton.1 h)) (fun x hx h=>HK.out.2.2.2.2 x hx (List.mem_singleton.1 h)));have mj:Hid (Kept [] (gR :: tU) V (wr.setCell ⟨gR,c,none⟩ (.int .i64 (-1)))/\Below B V (wr.setCell ⟨gR,c,none⟩ (.int .i64 (-1)))):=(⟨HK.out.1.setCell _ _ (inl (by simp)),HK.out.2.1.trans fp⟩);have i1:(c:Int)<C:=(by omega);obtain⟨p,hp⟩:∃p,tc.length=p:=(⟨_,rfl⟩);rw[hp] at t0 x8;have HP:=hid hp;clear hO hv Dc bQ jU fp hp;go_upto_region 19 with fail;generalize wr.setCell ⟨gR,c,none⟩ (.int .i64 (-1))=W1 at oq Am mj⊢;have qE:Hid (∀x∈jc bm gI bM jd vS' vK',x∈tU\/V.heap.size<=x):=HK.out.2.2.1;have Tg:Hid (∀x∈gs,x≠gR):=HK.out.2.2.2.2;clear e0 e1 t0 HK HM;by_cases Cw:p=0
   ·subst Cw;have HZ:Hid (ik M (fun c x=>FR L (Mv L (fun y=>y<M/\fs y=true) (rp c)) x) SS (c+1) (row++[-1]) jz):=by
     refine ik.succ wm.out (inl ⟨fun x hx h=>?_,rfl,rfl⟩);have h1:=congrFun Sv.out x;have h2:FR L (fun y=>y∈tc) x:=by
      have e:(FR L (fun y=>y∈tc) x)=_:=h1;rw[e];exact h
     rw[List.length_eq_zero_iff.1 HP.out] at h2;exact FR.none (fun x h=>by simp at h) x h2
    clear vu dA Fz;go_wp2;go_roundw
    ·exact⟨c+1,row++[-1],jz,sX,D',n',ix,l',jd,vS',vK',by go_num,by omega,Am,HZ,mj.out.1,mj.out.2,qE.out,oq.out,Tg.out⟩
    simp[intOf];omega
   have hq0:(0:Int)<p:=(by omega);have hSl:jz.length<=3256:=(by have:=HKS.out;omega);have cQ:n'<=100000:=(by have:=Am.out.hn;omega);have tH:l'.length<=100000:=(by have:=Am.out.a.len;omega);have uM:Below B w W1:=(Tj.out.mono ll).trans mj.out.2;have tj:=hid (VZ W1 B (jc bm gI bM jd vS' vK') bm gI m M bM bn gM cM gF cF aF BE L (HN.out.1.below uM) HN.out.2.2.2.1 (by omega) ix mk (HN.out.2.2.1.below uM) HN.out.2.2.2.2.1 Am.out.c0 (by omega) HN.out.2.2.2.2.2.1 _ l' jd vS' vK' n' jz sX D' (by omega) cQ tH
    aT p cT tc HP.out (by omega) EN.out (fun W hW=>VT.out W (fun g hg hl=>by
     have h1:=mj.out.1 g _ (Array.getElem?_eq_getElem hl) (fun _ _ _ _=>by simp) hg
     rw[Array.getElem?_eq_getElem hl]
     exact hW g _ h1 (fun _ _ _ _=>by simp) (fun hm=>by
      rcases qE.out _ hm with h|h
      ·exact hg (List.mem_cons_of_mem _ h)
      ·omega))) W1 Am.out.a.r Am.out.t Am.out.inv)
   have h0:∃x,x<M/\FR L (fun y=>y∈tc) x:=by
    have fI:0<tc.length:=(by rw[HP.out];omega);exact⟨tc[0],EN.out _ (getElem_mem fI),.base (getElem_mem fI)⟩
   have H0:=hid h0;have zD:=hid wZ;clear h0 uM vu Fz wZ kJ Cr cQ tH;go_wp2_with fail;refine tj.out.mono ?_;rintro e w5 qN;obtain⟨r,Bp,RB,D2,n2,O3,l2,qu,Ep,F6,rfl,Ly,hAdd,eQ,mK,cr⟩:=Am.out.close qN H0.out;have fG:=oq.out.kept eQ (by simp) zD.out;have e0:w5.cell? ⟨gR,c,none⟩=some (.int .i64 (-1)):=(by rw[fG.at_,US row C c dA]);have e1:=fG.aZ c;have JE:gR∉jc bm gI bM qu Ep F6:=fun h=>by
    rcases cr _ h with h|h
    ·exact zD.out h
    have:=oq.out.lt;omega
   have Kb:Kept [] [gR] w5 (w5.setCell ⟨gR,c,none⟩ (.int .i64 r)):=(Kept.refl _ _ _).setCell _ _ (inl (by simp));have dH:Below B w5 (w5.setCell ⟨gR,c,none⟩ (.int .i64 r)):=(Below.refl _ _).setCell (p:=⟨gR,c,none⟩) (by show B<=gR;omega) _;have HM3:=hid (Ly.fq Kb dH (fun x hx h=>JE (by rw[<-List.mem_singleton.1 h];exact hx)) (fun b e h=>ef Ly.nx.own fG (by decide) b e (List.mem_singleton.1 h)) (fun x hx h=>Tg.out x hx (List.mem_singleton.1 h)));have rU:Kept [] (gR :: tU) V w5:=fun k o hk ho hn=>eQ k o (mj.out.1 k o hk ho hn) ho (fun hm=>by
    rcases qE.out _ hm with h|h
    ·exact hn (List.mem_cons_of_mem _ h)
    ·have:=(Array.getElem?_eq_some_iff.1 hk).1;omega)
   have HZ:Hid (Kept [] (gR :: tU) V (w5.setCell ⟨gR,c,none⟩ (.int .i64 r))/\Below B V (w5.setCell ⟨gR,c,none⟩ (.int .i64 r))/\(∀x∈jc bm gI bM qu Ep F6,x∈tU\/V.heap.size<=x)/\St (w5.setCell ⟨gR,c,none⟩ (.int .i64 r)) 3 gR (ints (row++[r]++replicate (C-(c+1)) 0)).toArray/\∀x∈gs,x≠gR):=by
    refine⟨rU.setCell _ _ (inl (by simp)),(mj.out.2.trans mK).trans dH,fun x hx=>?_,?_,Tg.out⟩
    ·rcases cr x hx with h|h
     ·exact qE.out x h
     exact inr (le_trans mj.out.2.size h)
    have:=fG.set c (.int .i64 r);rwa [Zc row C c dA an] at this
   have we:Hid (ik M (fun c x=>FR L (Mv L (fun y=>y<M/\fs y=true) (rp c)) x) SS (c+1) (row++[r]) Bp):=by
    refine ik.succ wm.out ?_;rw[Sv.out] at hAdd;exact hAdd
   clear qN Ly hAdd eQ mK cr fG JE Kb dH rU tj;go_wp2;go_roundw
   ·exact⟨c+1,row++[r],Bp,RB,D2,n2,O3,l2,qu,Ep,F6,by go_num,by omega,HM3,we,HZ⟩
   simp[intOf];omega
  obtain rfl:c=C:=by omega
  obtain⟨aN,cN,rfl⟩:=bJ HM.out.nx.own;have n0:wr.cell? ⟨bm,257,none⟩=some (.slice aN R.length cN):=by rw[HM.out.a.r.other 257 (by decide),HM.out.cN]
  have hO:=HM.out.nx.own;have hBB:=HM.out.a.r.hB;have HRL:Hid (St wr 3 gR (ints row).toArray):=by
   have:=HK.out.2.2.2.1;show St _ _ _ _;simpa using this
  obtain⟨kR,PB⟩:∃kR,R.length=kR:=⟨_,rfl⟩
  rw[PB] at n0 hO hR;have FT:=hid PB;obtain⟨i9,ES,du,cH,ct⟩:=info_parts ew;have zD:=hid wZ;have C7:=hid kJ;clear PB vu wZ Cr kJ;go_wp2_with (at_builtin;refine wpList_append_own_at _ rfl _ _ 37 rfl B 30 i9 (.slice none 0 0) 1 24 underlying37 ES du cH ct rfl (by decide) _ _ _ rfl (hO.alloc _) ⟨wr.heap.size,0,none⟩ 1 1 [.slice (some ⟨gR,0,none⟩) c c] rfl rfl (cell_one_new _ _ _) ?d2 ?d3 ?d4 ?d5 ?_)
  case d2=>intro u hu;simp at hu;subst hu;rfl
  case d3=>unfold maxLen;omega
  case d4=>omega
  case d5=>simp;omega
  intro v' w5 ah ag _ bG;obtain⟨a5,c5,rfl⟩:=bJ ah;have h2:=HM.out.ab (al wr (.cells #[.slice (some ⟨gR,0,none⟩) c c] 30));have aj:=ah;rw[<-FT.out] at aj;obtain⟨hF,ZC⟩:=h2.next (HRL.out.ab (al wr _)) zD.out (v':=.slice a5 (kR+1) c5) (by simpa [FT.out] using aj) (by rw[FT.out];exact ag)
  have sQ:St w5 125 bm _:=h2.a.r.sm.ae h2.nx.own (by decide) (by rw[FT.out];exact ag);have p3:w5.cell? ⟨bm,257,none⟩=some (.slice aN kR cN):=by rw[sQ.at_,getElem?_setIfInBounds_ne (by decide),h2.cN,FT.out]
  have pf:=sQ.aZ 257;have tT:Hid (YD B bm gI bM m M c bn K L mk SS R (fun c x=>FR L (Mv L (fun y=>y<M/\fs y=true) (rp c)) x) w (.returned (.tuple #[])) (w5.setCell ⟨bm,257,none⟩ (.slice a5 (kR+1) c5))):=
   ⟨row,jz,sX,D',n',_,l',jd,vS',vK',_,_,rfl,hF,wm.out,(C7.out.trans ((al wr _).mono HM.out.a.r.hB)).trans ZC⟩
  clear ah aj ag bG h2 sQ hF ZC hO n0;go_wp2_with fail;refine bodyPost_ret (results_none rfl _ _ _) rfl ?_;exact tT.out
theorem zn6(K:Nat->Lit){x:Nat}(h:cls K x=cls K y):K x=K y:=by
 have hx:cls K (fst K x)=cls K x:=by unfold cls;rw[Ns]
 have hy:cls K (fst K y)=cls K y:=by unfold cls;rw[Ns]
 have e:fst K x=fst K y:=by
  rcases Nat.lt_trichotomy (fst K x) (fst K y) with h1|h1|h1
  ·have h2:=Fc K (fst K x) (fst K y) h1;have h3:dz K (fst K y)=cls K y:=rfl;omega
  ·exact h1
  have h2:=Fc K (fst K y) (fst K x) h1;have h3:dz K (fst K x)=cls K x:=rfl;omega
 rw[<-(yr K x).2.1,<-(yr K y).2.1,e]
noncomputable def py (K:Nat->Lit) (c:Nat):Nat:=(rl K 256).getD c 0
theorem QB(K:Nat->Lit)(b:Nat)(hb:b<256):cls K b<(rl K 256).length/\K (py K (cls K b))=K b:=by
 have h1:=Fc K b 256 hb;have h2:cls K b<(rl K 256).length:=by rw[zm];omega
 refine⟨h2,zn6 K ?_⟩;have:py K (cls K b)=(rl K 256)[cls K b]:=by simp[py,getD_eq_getElem?_getD,h2]
 rw[this];exact (Ws K 256 (cls K b) h2).1
theorem zqM(L:List En){x:Nat}(h:dK L x=dK L y):∀e∈L,e.b=false->e.p x=e.p y:=by
 intro e he hb;have h1:=(zku _ _ _ _).1 h;have hm:e.p∈cv (L.map En.z):=by
  unfold cv;exact List.mem_map.2 ⟨e.z,List.mem_filter.2 ⟨List.mem_map.2 ⟨e,he,rfl⟩,by simp[En.z,hb]⟩,rfl⟩
 obtain⟨i,hi,e1⟩:=List.getElem_of_mem hm;have h2:=h1 i hi;have h3:qS (L.map En.z) i=e.p:=by simp[qS,getD_eq_getElem?_getD,hi,e1]
 rw[h3] at h2;exact h2
theorem zqW(L:List En)(b:Nat)(hb:b<256):∀e∈L,e.b=false->e.p (py (dK L) (cls (dK L) b))=e.p b:=zqM L (QB (dK L) b hb).2
theorem Mv.byte{A:Nat->Prop}{c d:Nat}(h:∀e∈L,e.b=false->e.p c=e.p d)(x:Nat):Mv L A c x↔Mv L A d x:=
 ⟨fun ⟨e,h1,h2,h3,h4,h5⟩=>⟨e,h1,h2,by rw[<-h e h1 h2];exact h3,h4,h5⟩,fun ⟨e,h1,h2,h3,h4,h5⟩=>⟨e,h1,h2,by rw[h e h1 h2];exact h3,h4,h5⟩⟩
theorem Mv.none{A:Nat->Prop}(h:∀x,¬A x)(c x:Nat):¬Mv L A c x:=fun ⟨e,_,_,_,h4,_⟩=>h _ h4
theorem bI.nam(hn:nm.Nodup){mf:Nat->Int}{A' A:Nat->Prop}(h:tu nm A' A){r:Int}(hr:bI (fun i=>mf (nm.getD i 0)) A' r):bI mf A r:=by
 rcases hr with ⟨h1,h2⟩|⟨h1,⟨x,hx,h2⟩,h3⟩
 ·refine inl ⟨h1,fun x hx=>?_⟩;obtain⟨i,hi,rfl⟩:=(h.2 x).1 hx;exact h2 i hi
 refine inr ⟨h1,⟨nm.getD x 0,(h.2 _).2 ⟨x,hx,rfl⟩,h2⟩,fun y hy=>?_⟩;obtain⟨i,hi,rfl⟩:=(h.2 y).1 hy;exact h3 i hi
def Fs(L:List En)(M:Nat)(rp:Nat->Nat)(f:Nat->Bool)(c x:Nat):Prop:=FR L (Mv L (fun y=>y<M/\f y=true) (rp c)) x
structure Made (L:List En)(F:Nat)(nm:List Nat)(L':List En)(f0:Nat)(s0:Nat->Bool)(k:Nat)(R:List (List Int))(SS:List (Nat->Bool)):Prop where
 oa:L=L'.map (En.oa nm)
 nd:nm.Nodup
 bd:∀e∈L',e.f<nm.length/\e.t<nm.length
 hf:nm[f0]?=some F
 src:∀x∈nm,Src L F F x
 st:∀x,x<nm.length->(s0 x=true↔FR L' (fun y=>y=f0) x)
 run:iz nm.length (rl (dK L) 256).length (Fs L' nm.length (py (dK L))) [s0] k R SS
theorem Made.rep{f0 k:Nat}(h:Made L F nm L' f0 s0 k R SS)(b:Nat)(hb:b<256):∀e∈L',e.b=false->e.p (py (dK L) (cls (dK L) b))=e.p b:=by
 intro e he h2;have h3:e.oa nm∈L:=by rw[h.oa];exact List.mem_map.2 ⟨e,he,rfl⟩
 exact zqW L b hb (e.oa nm) h3 h2
def sx(M:Nat)(SS:List (Nat->Bool))(A:Nat->Prop)(a:Int):Prop:=(a=-1/\∀x,¬A x)\/∃(j:Nat) (h:j<SS.length),a=((j:Nat):Int)/\∀x,x<M->(SS[j] x=true↔A x)
theorem Made.start{f0 k:Nat}(h:Made L F nm L' f0 s0 k R SS)(z:Nat->Nat):sx nm.length SS (cq L' f0 z 0) 0:=by
 have hp:=h.run.pre;have h0:0<SS.length:=Nat.lt_of_lt_of_le (by simp) hp.length_le;have h1:s0=SS[0]:=by
  have:=hp.getElem (i:=0) (by simp);simpa using this
 exact inr ⟨0,h0,rfl,fun x hx=>by rw[<-h1];exact h.st x hx⟩
theorem Made.step{L:List En}{F f0 k:Nat}{nm:List Nat}{L':List En}{s0:Nat->Bool}{R:List (List Int)}{SS:List (Nat->Bool)}(h:Made L F nm L' f0 s0 k R SS)(hk:SS.length=k)(z:Nat->Nat)(t j:Nat)(hz:z t<256)(hs:sx nm.length SS (cq L' f0 z t) (j:Int)):
  ∃(hj:j<R.length) (hc:cls (dK L) (z t)<R[j].length),sx nm.length SS (cq L' f0 z (t+1)) R[j][cls (dK L) (z t)]:=by
 have mr:=h.run.len;obtain⟨gz,_⟩:=QB (dK L) (z t) hz;rcases hs with ⟨h1,_⟩|⟨j',Ea,e,hS⟩
 ·omega
 have e2:j'=j:=by omega
 subst e2;have Gf:j'<R.length:=by omega
 have dA:=h.run.sg R[j'] (getElem_mem Gf);refine⟨Gf,by omega,?_⟩;obtain⟨td,ht⟩:=h.run.pd j' Gf;have Fz:=ht (cls (dK L) (z t)) (by omega);have hA:∀x,Fs L' nm.length (py (dK L)) SS[j'] (cls (dK L) (z t)) x↔cq L' f0 z (t+1) x:=by
  intro x;show FR L' _ x↔FR L' _ x;refine FR.congr (fun y=>?_) x;rw[Mv.byte (h.rep (z t) hz) y];refine Mv.congr (fun w=>⟨fun hw=>(hS w hw.1).1 hw.2,fun hw=>?_⟩) _ y;have an:w<nm.length:=cq.lt (f:=f0) (List.getElem?_eq_some_iff.1 h.hf).1 (fun e he=>(h.bd e he).2) t hw;exact⟨an,(hS w an).2 hw⟩
 rcases Fz with ⟨h1,h2⟩|⟨_,j2,hj2,h1,h2⟩
 ·refine inl ⟨h1,fun x hx=>?_⟩;have an:x<nm.length:=cq.lt (f:=f0) (List.getElem?_eq_some_iff.1 h.hf).1 (fun e he=>(h.bd e he).2) (t+1) hx;exact h2 x an ((hA x).2 hx)
 exact inr ⟨j2,hj2,h1,fun x hx=>(h2 x hx).trans (hA x)⟩
theorem cq.dead{f:Nat}{z:Nat->Nat}{t:Nat}(h:∀x,¬cq L f z t x):∀x,¬cq L f z (t+1) x:=fun x=>FR.none (Mv.none h (z t)) x
theorem Made.names{f0 k:Nat}(h:Made L F nm L' f0 s0 k R SS)(z:Nat->Nat)(m:Nat):tu nm (cq L' f0 z m) (cq L F z m):=by
 have:=tu.run h.nd h.bd (List.getElem?_eq_some_iff.1 h.hf).1 z m;rw[<-h.oa] at this;have e:nm.getD f0 0=F:=by simp[getD_eq_getElem?_getD,h.hf]
 rwa [e] at this
theorem Made.mark{f0 k:Nat}(h:Made L F nm L' f0 s0 k R SS){mf:Nat->Int}{z:Nat->Nat}{m j:Nat}(hj:j<SS.length){r:Int}(hs:sx nm.length SS (cq L' f0 z m) (j:Int))
  (hr:bI (fun i=>mf (nm.getD i 0)) (fun x=>x<nm.length/\SS[j] x=true) r):bI mf (cq L F z m) r:=by
 rcases hs with ⟨h1,_⟩|⟨j',Ea,e,hS⟩
 ·omega
 have e2:j'=j:=by omega
 subst e2;refine bI.nam h.nd (h.names z m) (hr.congr (fun x=>⟨fun hx=>(hS x hx.1).1 hx.2,fun hx=>?_⟩));have an:x<nm.length:=cq.lt (f:=f0) (List.getElem?_eq_some_iff.1 h.hf).1 (fun e he=>(h.bd e he).2) m hx;exact⟨an,(hS x an).2 hx⟩
theorem lZ.src{S:Nat->Prop}{S':List (Nat->Bool)}{r:Int}(h:lZ M S SS r S'):∀i (hi:i<S'.length),SS.length<=i->(∃x,x<M/\S x)/\∀x,x<M->(S'[i] x=true↔S x):=by
 intro i hi hl;rcases h with ⟨_,_,rfl⟩|⟨h0,j,_,⟨hj,Qd⟩,rfl|⟨f,rfl,rfl,_⟩⟩
 ·omega
 ·omega
 have:i=SS.length:=by simp at hi;omega
 subst this;exact⟨h0,Qd⟩
theorem ik.src{M:Nat}{T:Nat->Nat->Prop}{SS S':List (Nat->Bool)}{c:Nat}{row:List Int}(h:ik M T SS c row S'):∀i (hi:i<S'.length),SS.length<=i->∃d,d<c/\(∃x,x<M/\T d x)/\∀x,x<M->(S'[i] x=true↔T d x):=by
 induction h with
 | zero=>intro i hi hl;omega
 | @succ c row S1 S2 r h0 h1 ih=>
  intro i hi hl;by_cases e:i<S1.length
  ·obtain⟨d,hd,h2,h3⟩:=ih i e hl;refine⟨d,by omega,h2,fun x hx=>?_⟩;rw[<-h1.pre.getElem e];exact h3 x hx
  obtain⟨h2,h3⟩:=h1.src i hi (by omega);exact⟨c,by omega,h2,h3⟩
theorem iz.src{M C:Nat}{T:(Nat->Bool)->Nat->Nat->Prop}{S0 S':List (Nat->Bool)}{k:Nat}{R:List (List Int)}(h:iz M C T S0 k R S'):∀i (hi:i<S'.length),S0.length<=i->∃(i':Nat) (hi':i'<S'.length) (d:Nat),i'<i/\d<C/\(∃x,x<M/\T S'[i'] d x)/\∀x,x<M->(S'[i] x=true↔T S'[i'] d x):=by
 induction h with
 | zero=>intro i hi hl;omega
 | @succ k R row S1 S2 h0 hk h1 ih=>
  intro i hi hl;by_cases e:i<S1.length
  ·obtain⟨i',hi',d,an,hd,h2,h3⟩:=ih i e hl;refine⟨i',Nat.lt_of_lt_of_le hi' h1.pre.length_le,d,an,hd,?_,fun x hx=>?_⟩
   ·rw[<-h1.pre.getElem hi'];exact h2
   rw[<-h1.pre.getElem e,<-h1.pre.getElem hi'];exact h3 x hx
  obtain⟨d,hd,h2,h3⟩:=h1.src i hi (by omega);refine⟨k,Nat.lt_of_lt_of_le hk h1.pre.length_le,d,by omega,hd,?_,fun x hx=>?_⟩
  ·rw[<-h1.pre.getElem hk];exact h2
  rw[<-h1.pre.getElem hk];exact h3 x hx
theorem Va(K:Nat->Lit):0<dz K 256:=by
 have h:=Fc K 0 256 (by omega);omega
structure jD (w:World)(cD:Array Value)(K:Nat->Lit)(R:List (List Int))(ms:List Int)(C:Nat):Prop where
 cl:∀j,j<256->cD[j]?=some (.int .u8 ((cls K j:Nat):Int))
 nx:∃vN gs,cD[256]?=some vN/\rf w 0 [] vN C gs R
 dj:∃vK,cD[257]?=some vK/\w.ownsRow 0 3 1 vK ms.length (ints ms)
 rl:∀r∈R,r.length=C
theorem FQ(w:World)(b:Nat)(cs:Array Value):Kept [] [b] w (w.setRow b cs):=fun k o hk _ hn=>by
 rw[setRow_other w b k cs (by simpa using hn)]
 exact hk
theorem jD.setRow{w:World}{K:Nat->Lit}{ms:List Int}{C b:Nat}{lf cs:Array Value}(h:jD w cD K R ms C)(hb:St w 39 b lf):jD (w.setRow b cs) cD K R ms C:=by
 obtain⟨vN,gs,h1,h2⟩:=h.nx;obtain⟨vK,h3,h4⟩:=h.dj;have k:=FQ w b cs;refine⟨h.cl,⟨vN,gs,h1,⟨fA h2.own k (by simp) (fun g e hm=>ef h2.own hb (by decide) g e (List.mem_singleton.1 hm)),h2.len,fun i hi hi'=>⟨(h2.row i hi hi').1.kept k (by simp) (fun hm=>(h2.row i hi hi').1.ne hb (by decide) (List.mem_singleton.1 hm)),by simp⟩⟩⟩,
  ⟨vK,h3,fA h4 k (by simp) (fun g e hm=>ef h4 hb (by decide) g e (List.mem_singleton.1 hm))⟩,h.rl⟩
theorem jD.rows{w:World}{K:Nat->Lit}{ms:List Int}{C:Nat}(h:jD w cD K R ms C):∃a c A,cD[256]?=some (.slice a R.length c)/\pQ w a R.length A (fun _=>C) (fun _=>C) (fun i x=>(R.getD i []).getD x 0):=by
 obtain⟨vN,gs,h1,h2⟩:=h.nx;have hN:=h2.own;obtain⟨aN,cN,rfl⟩:=bJ hN;refine⟨aN,cN,fun i=>some ⟨gs.getD i 0,0,none⟩,h1,fun h0=>?_⟩;obtain⟨g,rfl,_,hg,hc⟩:=ep hN h0;refine⟨g,0,rfl,hg,fun i hi=>?_⟩;have LR:i<gs.length:=by rw[h2.len];exact hi
 obtain⟨hs,_⟩:=h2.row i LR hi;have vu:=h.rl _ (getElem_mem hi);refine⟨?_,fun h1=>⟨gs.getD i 0,0,rfl,?_,fun j hj=>?_⟩⟩
 ·rw[zero_add,(hc i (by omega)).1];simp[getD_eq_getElem?_getD,LR]
 ·have:=hs.lt;simpa [getD_eq_getElem?_getD,LR] using this
 have VH:gs.getD i 0=gs[i]:=by simp[getD_eq_getElem?_getD,LR]
 rw[zero_add,VH,hs.at_];have hj2:j<R[i].length:=by rw[vu];exact hj
 simp[ints,getD_eq_getElem?_getD,hi,hj2]
theorem jD.marks{w:World}{K:Nat->Lit}{ms:List Int}{C:Nat}(h:jD w cD K R ms C):∃a c,cD[257]?=some (.slice a ms.length c)/\kE w a ms.length (fun i=>ms.getD i 0):=by
 obtain⟨vK,h3,h4⟩:=h.dj;obtain⟨a,c,rfl⟩:=bJ h4;refine⟨a,c,h3,fun h0=>?_⟩;obtain⟨g,rfl,_,hg,hc⟩:=ep h4 h0;refine⟨g,0,rfl,hg,fun j hj=>?_⟩;rw[zero_add,(hc j (by omega)).1];simp[ints,getD_eq_getElem?_getD,hj]
def ov(L:List En)(F:Nat)(mf:Nat->Int)(w:World)(e:Ending)(w':World):Prop:=
 ∃(cD:Array Value) (er:Int) (nm:List Nat) (L':List En) (f0:Nat) (s0:Nat->Bool) (k:Nat) (R:List (List Int)) (SS:List (Nat->Bool)),e=.returned (.tuple #[.agg cD,.int .i64 er])/\Below w.heap.size w w'/\Made L F nm L' f0 s0 k R SS/\cD.size=258/\(∀v∈cD.toList,v.oneCell'=true)/\
  ((er=6/\2000<SS.length/\cD=zC 39)\/(er=0/\SS.length=k/\k<=2000/\∃ms,jD w' cD (dK L) R ms (rl (dK L) 256).length/\ms.length=k/\∀j (h:j<SS.length) (h2:j<ms.length),bI (fun i=>mf (nm.getD i 0)) (fun x=>x<nm.length/\SS[j] x=true) ms[j]))
theorem lZ.start{S:Nat->Prop}{jz:List (Nat->Bool)}{r:Int}(h:lZ M S [] r jz)(h0:∃x,x<M/\S x):∃f,jz=[f]/\∀x,x<M->(f x=true↔S x):=by
 rcases h with ⟨h1,_,_⟩|⟨_,j,_,⟨hj,Qd⟩,rfl|⟨f,rfl,rfl,_⟩⟩
 ·obtain⟨x,hx,hs⟩:=h0;exact absurd hs (h1 x hx)
 ·simp at hj
 exact⟨f,rfl,fun x hx=>Qd x hx⟩
theorem lF.dfa{w:World}{B bm gI bM m C bn n:Nat}{K:Nat->Lit}{mk:Nat->Int}{ms:List Int}{D:List ((Nat->Bool) × Nat)}{cs:Array Value}{l:List Nat}{vL vS vK vN:Value}{gs:List Nat}
  (h:lF B bm gI bM m M C bn K L mk SS ms D R n cs l vL vS vK vN gs w) (hR:∀r∈R,r.length=C):
  ∃cD:Array Value,cD.size=258/\(∀v∈cD.toList,v.oneCell'=true)/\(∀j v,cD.toList[j]?=some v->w.cell? ((⟨bm,1,none⟩:Addr).add j)=some v)/\ms.length=SS.length/\jD w cD K R ms C:=by
 have UC:=h.inv.len;have hN:=h.nx.own;have hK:=h.t.ok;obtain⟨aN,cN,rfl⟩:=bJ hN;obtain⟨aK,cK,rfl⟩:=bJ hK;refine⟨((range 256).map (fun j=>Value.int .u8 ((cls K j:Nat):Int))++[Value.slice aN R.length cN,Value.slice aK SS.length cK]).toArray,by simp,fun v hv=>?_,fun j v hj=>?_,UC,⟨fun j hj=>?_,⟨.slice aN R.length cN,gs,by simp[getElem?_append],⟨gE hN (zero_le _),h.nx.len,fun i hi hi'=>⟨(h.nx.row i hi hi').1,by simp⟩⟩⟩,⟨.slice aK SS.length cK,by simp[getElem?_append],by rw[UC];exact gE hK (zero_le _)⟩,hR⟩⟩
 ·rcases List.mem_append.1 hv with hv|hv
  ·obtain⟨j,_,rfl⟩:=List.mem_map.1 hv;rfl
  simp only[List.mem_cons,List.not_mem_nil,or_false] at hv;rcases hv with rfl|rfl <;> rfl
 ·have e:(⟨bm,1,none⟩:Addr).add j=⟨bm,1+j,none⟩:=by unfold Addr.add;split <;> simp_all
  have hj2:j<258:=by
   have:=(List.getElem?_eq_some_iff.1 hj).1;simpa using this
  rw[e,h.a.r.other (1+j) (by omega)];by_cases e1:j<256
  ·rw[h.cl j e1,<-hj];simp[getElem?_append,e1]
  by_cases e2:j=256
  ·subst e2;rw[show 1+256=257 from rfl,h.cN,<-hj];simp[getElem?_append]
  have e3:j=257:=by omega
  subst e3;rw[show 1+257=258 from rfl,h.t.cK,<-hj];simp[getElem?_append]
 simp[getElem?_append,hj]
theorem VF(kf bV:Nat)(mf:Nat->Int)(S0 T:Int)(F:Nat)(L:List En)(a:Option Addr)(n c:Nat)(w:World)(HC:∀(args:Array Value) (W:World),(callFunc kf args).run prog W=.ok (.enter kf args) W)
  (HM:∀W,Below w.heap.size w W->∀x,x<=9223372036854775807->Calls prog kf #[.int .i64 ((x:Nat):Int),.pointer (some ⟨bV,0,none⟩)] W fun e w'=>e=.returned (.int .i64 (mf x))/\w'=W) (DE:∀x,-1<=mf x)
  (hL:gq w a (L.map En.z)) (hn:L.length=n) (dD:n<=6400) (pr:(cv (L.map En.z)).length<=1000) (hF:F<=9223372036854775807) (hE:∀e∈L,e.f<=9223372036854775807/\e.t<=9223372036854775807) (hr:rA S0 (L.map En.z) (F:Int) T=true):
  Calls prog 51 #[.agg #[.int .i64 S0,.slice a n c,.int .i64 (F:Int),.int .i64 T],.func (.func kf) #[] #[.pointer (some ⟨bV,0,none⟩)]] w (ov L F mf w):=by
 have GR:=hid (fun (W:World) (hb:Below w.heap.size w W)=>zkj kf bV mf S0 T F L a n c W HC (fun W' hb'=>HM W' (hb.trans (hb'.mono hb.size))) (hL.below hb) hn dD pr hF hE);have HRi:Hid (∀(W:World),Below w.heap.size w W->Calls prog 77 #[.agg #[.int .i64 S0,.slice a n c,.int .i64 (F:Int),.int .i64 T]] W fun e w'=>e=.returned (.bool true)/\Below W.heap.size W w'):=fun W hb=>by
  have:=zkY S0 (F:Int) T a n c (L.map En.z) W (hL.below hb) (by rw[length_map];exact hn) (by unfold maxLen;omega);rwa [hr] at this
 have HH:=hid (Zz hn (Zz DE hr));clear HC HM hL hn hE hr DE;go_enter func51,ntmps51;go_wp2_with (refine oO rfl 39 rfl (zC 39) (lP _) ?_);go_upto_region 1 with fail;have h2:St ((w.alloc (.cells #[.int .i64 S0,.slice a n c,.int .i64 (F:Int),.int .i64 T] 67)).alloc (.cells (zC 39) 39)) 67 w.heap.size #[.int .i64 S0,.slice a n c,.int .i64 (F:Int),.int .i64 T]:=(St.new w _ _).alloc _;have h4:St ((w.alloc (.cells #[.int .i64 S0,.slice a n c,.int .i64 (F:Int),.int .i64 T] 67)).alloc (.cells (zC 39) 39)) 39 (w.heap.size+1) (zC 39):=by
  have:=St.new (w.alloc (.cells #[.int .i64 S0,.slice a n c,.int .i64 (F:Int),.int .i64 T] 67)) 39 (zC 39);simpa using this
 have ll:Below w.heap.size w ((w.alloc (.cells #[.int .i64 S0,.slice a n c,.int .i64 (F:Int),.int .i64 T] 67)).alloc (.cells (zC 39) 39)):=(al w _).trans ((al _ _).mono (by simp));generalize (w.alloc (.cells #[.int .i64 S0,.slice a n c,.int .i64 (F:Int),.int .i64 T] 67)).alloc (.cells (zC 39) 39)=W0 at h2 h4 ll⊢;obtain⟨b4,eV⟩:∃b4,w.heap.size+1=b4:=⟨_,rfl⟩
 rw[eV] at h4;rw[eV];obtain⟨r0,r1,r2,r3⟩:=h2.bS;have H0:=hid (Zz h2 (Zz h4 (Zz ll eV)));have vo:=hid (HRi.out W0 ll);clear h2 h4 ll eV;go_wp2_with fail;refine vo.out.mono ?_;rintro e w1 ⟨rfl,l8⟩;have jU:Below w.heap.size w w1:=H0.out.2.2.1.trans (l8.mono H0.out.2.2.1.size);have s2:=H0.out.1.ab l8;have H1:=hid (Zz s2 (Zz (H0.out.2.1.ab l8) jU));have nV:=hid (GR.out w1 jU);clear r0 r1 r2 r3;obtain⟨r0,r1,r2,r3⟩:=s2.bS;clear l8 jU s2 vo HRi GR;go_wp2_with fail;refine nV.out.mono ?_;rintro e w2 ⟨bn,f0,gM,cM,gF,cF,gS,cS,nm,L',aF,aS,BE,Ek,csA,rfl,mK,SX,rP,se,tO,IL,DN,jr,qT,JM,Lp,jL⟩;obtain⟨m,hm⟩:∃m,(nm.length+7) / 8=m:=⟨_,rfl⟩
 have hlL:L.length=L'.length:=by rw[DN,length_map]
 have Qq:L'.length<=6400:=by have:=HH.out.1;omega
 have Hw:nm.length<=12900:=by have:=HH.out.1;omega
 have FE:=hid (zg6 (dK L) L' (fun i=>mf (nm.getD i 0)) csA bn gM nm.length cM m (rl (dK L) 256).length w2 tO se.gw Hw hm);have mN:=hid (Zz SX (Zz rP (Zz se (Zz IL (Zz DN (Zz jr (Zz qT (Zz JM (Zz jL hm)))))))));have H2:=hid (Zz (H1.out.2.1.ab mK) (H1.out.2.2.trans (mK.mono H1.out.2.2.size)));have bY:bn<w2.heap.size:=SX.ga.1;have sP:=mK.size;have Ca:w.heap.size<=w2.heap.size:=by have:=H1.out.2.2.size;omega
 clear mK SX rP se tO IL DN jr qT JM jL hm Lp hlL nV r0 r1 r2 r3;go_wp2_with fail;refine FE.out.mono ?_;rintro e w3 ⟨bm,gI,bM,cK,rfl,Im,pK⟩;have c0:w3.cell? ⟨bm,0,none⟩=some (.pointer (some ⟨bn,0,none⟩)):=(Im.a.r.other 0 (by decide)).trans Im.c0;have c1:w3.cell? ⟨bn,256,none⟩=some (.int .i64 (f0:Int)):=(pK.cell (p:=⟨bn,256,none⟩) bY).trans mN.out.2.2.2.1;have dH:=pK.size;have Fj:=hid (Im.ab (al w3 (.cells #[.int .i64 (f0:Int)] 3)));have tm:=hid pK;have pY:=Im.yg;have C8:f0<nm.length:=(List.getElem?_eq_some_iff.1 mN.out.2.2.2.2.2.2.2.1).1;have BU:Below w2.heap.size w2 (w3.alloc (.cells #[.int .i64 (f0:Int)] 3)):=pK.trans ((al w3 _).mono dH);have tj:=hid (VZ (w3.alloc (.cells #[.int .i64 (f0:Int)] 3)) w2.heap.size (jc bm gI bM (.slice none 0 0) (.slice none 0 0) (.slice none 0 0)) bm gI m nm.length bM bn gM cM gF cF aF BE L' (mN.out.1.below BU) mN.out.2.2.2.2.2.2.1 (by omega) cK (fun i=>mf (nm.getD i 0)) (mN.out.2.2.1.below BU) (fun i _=>HH.out.2.1 _) Fj.out.c0 (by omega) mN.out.2.2.2.2.2.2.2.2.2 _ [] (.slice none 0 0) (.slice none 0 0) (.slice none 0 0) 0 [] [] [] (by simp) (by omega) (by simp)
  (some ⟨w3.heap.size,0,none⟩) 1 1 [f0] rfl (by omega) (fun x hx=>by rw[List.mem_singleton.1 hx];exact C8) (fun W hW h0=>by
   have hg:w3.heap.size<(w3.alloc (.cells #[.int .i64 (f0:Int)] 3)).heap.size:=by simp
   have hn:w3.heap.size∉jc bm gI bM (.slice none 0 0) (.slice none 0 0) (.slice none 0 0):=fun hm=>Nat.lt_irrefl _ (pY _ hm)
   have h1:=hW _ _ (Array.getElem?_eq_getElem hg) (fun _ _ _ _=>by simp) hn
   refine⟨w3.heap.size,0,rfl,(Array.getElem?_eq_some_iff.1 h1).1,fun j hj=>?_⟩
   obtain rfl:j=0:=by simp at hj;omega
   rw[hW.na hn hg]
   exact (St.new w3 3 #[.int .i64 (f0:Int)]).at_ 0) _ Fj.out.a.r Fj.out.t Fj.out.inv)
 clear Im pK pY BU FE;go_wp2_with fail;refine tj.out.mono ?_;rintro e w5 qN;obtain⟨r,SS1,ms1,D1,n1,cs1,l1,ML,Io,vK1,rfl,Al,hAdd,_,ec,_⟩:=Fj.out.close qN ⟨f0,C8,.base (by simp)⟩;obtain⟨s0,rfl,nJ⟩:=hAdd.start ⟨f0,C8,.base (by simp)⟩;have dt:Hid (∀x,x<nm.length->(s0 x=true↔FR L' (fun y=>y=f0) x)):=fun x hx=>(nJ x hx).trans (FR.congr (fun y=>by simp) x)
 have CG:=hid Al;have KD:=hid ((tm.out.trans ((al w3 _).mono dH)).trans ec);clear qN Al hAdd ec nJ c0 c1 tj Fj;have hlC:(rl (dK L) 256).length<=256:=by rw[zm];exact KS _ _
 have hCp:0<(rl (dK L) 256).length:=by
  rw[zm];exact Va _
 go_wp2_with fail;go_loopw [7] (fun v wq=>∃(k:Nat) (SS:List (Nat->Bool)) (ms:List Int) (D:List ((Nat->Bool) × Nat)) (R:List (List Int)) (nn:Nat) (cs:Array Value) (l:List Nat) (vL vS vK vN:Value) (gs:List Nat),v=.int .i64 k/\k<=SS.length/\SS.length<=2000/\
  Hid (lF w2.heap.size bm gI bM m nm.length (rl (dK L) 256).length bn (dK L) L' (fun i=>mf (nm.getD i 0)) SS ms D R nn cs l vL vS vK vN gs wq)/\Hid (iz nm.length (rl (dK L) 256).length (Fs L' nm.length (py (dK L))) [s0] k R SS)/\Hid (Below w2.heap.size w2 wq)) (fun v _=>2001-(intOf v).toNat)
 ·exact⟨0,[s0],ms1,D1,[],n1,cs1,l1,ML,Io,vK1,_,[],rfl,by simp,by simp,CG,iz.zero,KD⟩
 clear CG KD;obtain⟨k,SS,ms,D,R,nn,cs,l,vL,vS,vK,vN,gs,rfl,hk,hS,HM,KQ,HB⟩:=hrel;obtain⟨aS1,cS1,rfl⟩:=bJ HM.out.t.os;have d0:wr.cell? ⟨bm,259,none⟩=some (.slice aS1 SS.length cS1):=(HM.out.a.r.other 259 (by decide)).trans HM.out.t.cS;have hRk:=KQ.out.len;have gV:St wr 39 b4 (zC 39):=H2.out.1.below HB.out H2.out.1.lt;by_cases an:k<SS.length
 ·have hk63:k<3000:=by omega
  have Ua:=hid (zn5 w2.heap.size bm gI bM m nm.length (rl (dK L) 256).length bn gM cM gF cF gS cS nn k aF aS BE Ek (py (dK L)) (dK L) L' (fun i=>mf (nm.getD i 0)) wr (mN.out.1.below HB.out) (mN.out.2.1.below HB.out) (mN.out.2.2.1.below HB.out) mN.out.2.2.2.2.2.2.1 Qq (fun i _=>HH.out.2.1 _) (by rw[<-zm]) hlC Hw mN.out.2.2.2.2.2.2.2.2.2 SS ms D R cs l vL _ vK vN gs HM.out an (by omega) (by omega));have PN:=hid an;obtain⟨q,hq⟩:∃q,SS.length=q:=⟨_,rfl⟩
  have i1:(k:Int)<q:=by omega
  rw[hq] at d0;have HQ:=hid hq;clear hq hk;go_wp2_with fail;refine Ua.out.mono ?_;rintro e w6 ⟨row,Bp,RB,D2,n2,O3,l2,qu,Ep,F6,vN2,gs2,rfl,px,C2,qh⟩;obtain⟨SC,cS2,rfl⟩:=bJ px.t.os;have d1:w6.cell? ⟨bm,259,none⟩=some (.slice SC Bp.length cS2):=(px.a.r.other 259 (by decide)).trans px.t.cS;have Gp:Hid (iz nm.length (rl (dK L) 256).length (Fs L' nm.length (py (dK L))) [s0] (k+1) (R++[row]) Bp):=iz.succ KQ.out PN.out C2;have tB:=hid px;have yU:=hid (HB.out.trans qh);have DI:St w6 39 b4 (zC 39):=H2.out.1.below yU.out H2.out.1.lt;have kD:=hid C2.pre.length_le;obtain⟨q2,hq2⟩:∃q2,Bp.length=q2:=⟨_,rfl⟩
  have uH:=hid hq2;rw[hq2] at d1;clear px C2 qh hq2 d0 gV Ua;by_cases kO:2000<q2
  ·have i2:(2000:Int)<q2:=(by omega);have HF:Hid (ov L F mf w (.returned (.tuple #[.agg (zC 39),.int .i64 6])) (w6.setRow b4 (zC 39))):=by
    refine⟨zC 39,6,nm,L',f0,s0,k+1,R++[row],Bp,rfl,lk (H2.out.2.trans (yU.out.mono Ca)) (by have:=H0.out.2.2.2;omega) _,⟨mN.out.2.2.2.2.1,mN.out.2.2.2.2.2.1,mN.out.2.2.2.2.2.2.1,mN.out.2.2.2.2.2.2.2.1,mN.out.2.2.2.2.2.2.2.2.1,dt.out,Gp.out⟩,ir,Bz,inl ⟨rfl,by rw[uH.out];exact kO,rfl⟩⟩
   have eB:=hid DI;clear DI;go_wp2_with (first|(refine zw rfl 39 _ rfl #[] ?hp (.agg (zC 39)) ?hb ?_)|(refine l6 rfl 39 _ _ rfl b4 39 (zC 39) (zC 39) rfl rfl eB.out rfl (by rw[fB,ir]) Bz ?_))
   case hb=>exact GM _
   refine bodyPost_ret (wR rfl _ _ b4 (zC 39) _ rfl eB.out.setRow.part underlying39 rfl (by rw[fB,ir])) rfl ?_;exact HF.out
  have i2:¬((2000:Int)<q2):=by omega
  clear DI;go_wp2;go_roundw
  ·exact⟨k+1,Bp,RB,D2,R++[row],n2,O3,l2,qu,_,F6,vN2,gs2,by go_num,by have:=kD.out;have:=PN.out;omega,by have:=uH.out;omega,tB,Gp,yU⟩
  simp[intOf];have:=PN.out;omega
 have YQ:k=SS.length:=by omega
 obtain⟨cD,mm,Dg,dv,lO,hD⟩:=HM.out.dfa (fun r hr=>KQ.out.sg r hr);have HF:Hid (ov L F mf w (.returned (.tuple #[.agg cD,.int .i64 0])) (wr.setRow b4 cD)):=by
  refine⟨cD,0,nm,L',f0,s0,k,R,SS,rfl,lk (H2.out.2.trans (HB.out.mono Ca)) (by have:=H0.out.2.2.2;omega) _,⟨mN.out.2.2.2.2.1,mN.out.2.2.2.2.2.1,mN.out.2.2.2.2.2.2.1,mN.out.2.2.2.2.2.2.2.1,mN.out.2.2.2.2.2.2.2.2.1,dt.out,KQ.out⟩,mm,Dg,inr ⟨rfl,YQ.symm,by omega,ms,hD.setRow gV,by omega,HM.out.inv.dj⟩⟩
 have eB:=hid gV;have HX:=hid (Zz mm (Zz Dg dv));have i1:¬((k:Int)<(SS.length:Int)):=by omega
 clear gV hD lO mm Dg dv YQ an hk;go_wp2_with (first|(refine pM rfl 39 _ rfl ⟨bm,1,none⟩ rfl cD _ HX.out.2.2 underlying39 rfl (by rw[fB,HX.out.1]) ?_)|(refine l6 rfl 39 _ _ rfl b4 39 (zC 39) cD rfl rfl eB.out (by rw[ir,HX.out.1]) (by rw[fB,HX.out.1]) HX.out.2.1 ?_));refine bodyPost_ret (wR rfl _ _ b4 cD _ rfl eB.out.setRow.part underlying39 rfl (by rw[fB,HX.out.1])) rfl ?_;exact HF.out
theorem zkl(bV:Nat)(a:Option Addr)(n c:Nat)(z:Nat->Int)(hn:n<=9223372036854775807)(w:World)(hS:St w 30 bV #[.slice a n c])(hz:kE w a n z)(x:Nat)(hx:x<=9223372036854775807):
  Calls prog 52 #[.int .i64 (x:Int),.pointer (some ⟨bV,0,none⟩)] w fun e w'=>e=.returned (.int .i64 (iq n z x))/\w'=w:=by
 have c0:w.cell? ⟨bV,0,none⟩=some (.slice a n c):=hS.at_ 0;by_cases an:x<n
 ·obtain⟨g,off,rfl,_,q⟩:=hz (by omega);have d0:=q x an;have i1:(x:Int)<n:=by omega
  have HM:Hid (iq n z x=max (z x) (-1)):=by
   show _=_;unfold iq;rw[if_pos an];split <;> omega
  generalize iq n z x=r at HM;generalize z x=y at d0 HM;clear q;go_enter func52,ntmps52;go_wp2;go_ret;exact⟨by rw[HM.out];rfl,rfl⟩
 have i1:¬((x:Int)<n):=by omega
 have HM:Hid (iq n z x=-1):=by show _=_;simp[iq,an]
 go_enter func52,ntmps52;go_wp2;go_ret;exact⟨by rw[HM.out];rfl,rfl⟩
theorem zib(bV:Nat)(S F:Int)(T:Nat)(a:Option Addr)(n c:Nat)(w:World)(hS:St w 67 bV #[.int .i64 S,.slice a n c,.int .i64 F,.int .i64 (T:Int)])(x:Nat)(hx:x<=9223372036854775807)(hT:T<=9223372036854775807):
  Calls prog 62 #[.int .i64 (x:Int),.pointer (some ⟨bV,0,none⟩)] w fun e w'=>e=.returned (.int .i64 (if x=T then 0 else -1))/\w'=w:=by
 obtain⟨c0,c1,c2,c3⟩:=hS.bS;by_cases e:x=T
 ·rw[if_pos e];subst e;go_enter func62,ntmps62;go_wp2;go_ret;exact⟨rfl,rfl⟩
 rw[if_neg e];have i1:¬((x:Int)=T):=by omega
 go_enter func62,ntmps62;go_wp2;go_ret;exact⟨rfl,rfl⟩
theorem ov.put{mf:Nat->Int}{w W0 w':World}{er:Int}{f0 k:Nat}{b4:Nat}
  (hB:Below w.heap.size w W0) (h1:Below W0.heap.size W0 w') (h2:Made L F nm L' f0 s0 k R SS) (h3:cD.size=258) (h4:∀v∈cD.toList,v.oneCell'=true)
  (h5:(er=6/\2000<SS.length/\cD=zC 39)\/(er=0/\SS.length=k/\k<=2000/\∃ms,jD w' cD (dK L) R ms (rl (dK L) 256).length/\ms.length=k/\∀j (h:j<SS.length) (h2:j<ms.length),bI (fun i=>mf (nm.getD i 0)) (fun x=>x<nm.length/\SS[j] x=true) ms[j]))
  (bQ:St w' 39 b4 (zC 39)) (eV:w.heap.size<=b4):ov L F mf w (.returned (.tuple #[.agg cD,.int .i64 er])) (w'.setRow b4 cD):=by
 refine⟨cD,er,nm,L',f0,s0,k,R,SS,rfl,lk (hB.trans (h1.mono hB.size)) eV _,h2,h3,h4,?_⟩;rcases h5 with h|⟨e1,e2,e3,ms,h6,h7,h8⟩
 ·exact inl h
 exact inr ⟨e1,e2,e3,ms,h6.setRow bQ,h7,h8⟩
theorem zp0(S0 T:Int)(F:Nat)(L:List En)(a:Option Addr)(n c:Nat)(am:Option Addr)(nM cM:Nat)(z:Nat->Int)(w:World)(hz:kE w am nM z)(hnM:nM<=9223372036854775807)
  (hL:gq w a (L.map En.z)) (hn:L.length=n) (dD:n<=6400) (pr:(cv (L.map En.z)).length<=1000) (hF:F<=9223372036854775807) (hE:∀e∈L,e.f<=9223372036854775807/\e.t<=9223372036854775807) (hr:rA S0 (L.map En.z) (F:Int) T=true):
  Calls prog 31 #[.agg #[.int .i64 S0,.slice a n c,.int .i64 (F:Int),.int .i64 T],.slice am nM cM] w (ov L F (iq nM z) w):=by
 have fu:∀(fn:Fn) (first cap:Array Value) (w:World),(Instr.makeFunc fn first cap).run prog w=.ok (.func fn first cap) w:=fun _ _ _ _=>rfl
 have HD:=hid (fun (W:World) (hb:Below w.heap.size w W) (bV:Nat) (hS:St W 30 bV #[.slice am nM cM])=>VF 52 bV (iq nM z) S0 T F L a n c W Xn.1 (fun W' hb' x hx=>zkl bV am nM cM z hnM W' (hS.ab hb') (hz.below (hb.trans (hb'.mono hb.size))) x hx) (fun x=>by unfold iq;split <;> (try split) <;> omega) (hL.below hb) hn dD pr hF hE hr);clear hL hn hE hr hz;go_enter func31,ntmps31;go_wp2_with (refine oO rfl 39 rfl (zC 39) (lP _) ?_);go_upto_region 1 with fail;obtain⟨W0,qe⟩:∃W0,((w.alloc (.cells #[.int .i64 S0,.slice a n c,.int .i64 (F:Int),.int .i64 T] 67)).alloc (.cells #[.slice am nM cM] 30)).alloc (.cells (zC 39) 39)=W0:=⟨_,rfl⟩
 have k1:=al w (.cells #[.int .i64 S0,.slice a n c,.int .i64 (F:Int),.int .i64 T] 67);have k2:=al (w.alloc (.cells #[.int .i64 S0,.slice a n c,.int .i64 (F:Int),.int .i64 T] 67)) (.cells #[.slice am nM cM] 30);have k3:=al ((w.alloc (.cells #[.int .i64 S0,.slice a n c,.int .i64 (F:Int),.int .i64 T] 67)).alloc (.cells #[.slice am nM cM] 30)) (.cells (zC 39) 39);have h2:St W0 67 w.heap.size #[.int .i64 S0,.slice a n c,.int .i64 (F:Int),.int .i64 T]:=by rw[<-qe];exact ((St.new w _ _).ab k2).ab k3
 have h3:St W0 30 (w.heap.size+1) #[.slice am nM cM]:=by
  rw[<-qe];have:=(St.new (w.alloc (.cells #[.int .i64 S0,.slice a n c,.int .i64 (F:Int),.int .i64 T] 67)) 30 #[.slice am nM cM]).ab k3;simpa using this
 have h4:St W0 39 (w.heap.size+1+1) (zC 39):=by
  rw[<-qe];have:=St.new ((w.alloc (.cells #[.int .i64 S0,.slice a n c,.int .i64 (F:Int),.int .i64 T] 67)).alloc (.cells #[.slice am nM cM] 30)) 39 (zC 39);simpa using this
 have ll:Below w.heap.size w W0:=by rw[<-qe];exact (k1.trans (k2.mono (by simp))).trans (k3.mono (by simp;omega))
 try rw[qe]
 obtain⟨b4,eV⟩:∃b4,w.heap.size+1+1=b4:=⟨_,rfl⟩
 obtain⟨b3,dH⟩:∃b3,w.heap.size+1=b3:=⟨_,rfl⟩
 rw[eV] at h4;rw[dH] at h3;rw[eV,dH];obtain⟨r0,r1,r2,r3⟩:=h2.bS;have H0:=hid (Zz h4 (Zz ll eV));have F7:=hid (HD.out W0 ll b3 h3);clear h2 h3 h4 ll eV dH qe k1 k2 k3;go_wp2_with fail;refine F7.out.mono ?_;rintro e w1 ⟨cD,er,nm,L',f0,s0,k,R,SS,rfl,h1,h2,h3,h4,h5⟩;have bQ:=H0.out.1.ab h1;have HF:=hid (ov.put H0.out.2.1 h1 h2 h3 h4 h5 bQ (by have:=H0.out.2.2;omega));have eB:=hid bQ;have HX:=hid (Zz h3 h4);clear h1 h2 h3 h4 h5 bQ HD F7 r0 r1 r2 r3;go_wp2_with (refine l6 rfl 39 _ _ rfl b4 39 (zC 39) cD rfl rfl eB.out (by rw[ir,HX.out.1]) (by rw[fB,HX.out.1]) HX.out.2 ?_);refine bodyPost_ret (wR rfl _ _ b4 cD _ rfl eB.out.setRow.part underlying39 rfl (by rw[fB,HX.out.1])) rfl ?_;exact HF.out
theorem zp1(S0:Int)(F T:Nat)(L:List En)(a:Option Addr)(n c:Nat)(w:World)
  (hL:gq w a (L.map En.z)) (hn:L.length=n) (dD:n<=6400) (pr:(cv (L.map En.z)).length<=1000) (hF:F<=9223372036854775807) (hT:T<=9223372036854775807) (hE:∀e∈L,e.f<=9223372036854775807/\e.t<=9223372036854775807) (hr:rA S0 (L.map En.z) (F:Int) (T:Int)=true):
  Calls prog 40 #[.agg #[.int .i64 S0,.slice a n c,.int .i64 (F:Int),.int .i64 (T:Int)]] w (ov L F (fun x=>if x=T then 0 else -1) w):=by
 have fu:∀(fn:Fn) (first cap:Array Value) (w:World),(Instr.makeFunc fn first cap).run prog w=.ok (.func fn first cap) w:=fun _ _ _ _=>rfl
 have HD:=hid (fun (W:World) (hb:Below w.heap.size w W) (bV:Nat) (hS:St W 67 bV #[.int .i64 S0,.slice a n c,.int .i64 ((F:Nat):Int),.int .i64 ((T:Nat):Int)])=>VF 62 bV (fun x=>if x=T then 0 else -1) S0 ((T:Nat):Int) F L a n c W Xn.2 (fun W' hb' x hx=>zib bV S0 ((F:Nat):Int) T a n c W' (hS.ab hb') x hx hT) (fun x=>by split <;> omega) (hL.below hb) hn dD pr hF hE hr);clear hL hn hE hr;go_enter func40,ntmps40;go_wp2_with (refine oO rfl 39 rfl (zC 39) (lP _) ?_);go_upto_region 1 with fail;have h2:St ((w.alloc (.cells #[.int .i64 S0,.slice a n c,.int .i64 (F:Int),.int .i64 (T:Int)] 67)).alloc (.cells (zC 39) 39)) 67 w.heap.size #[.int .i64 S0,.slice a n c,.int .i64 (F:Int),.int .i64 (T:Int)]:=(St.new w _ _).alloc _;have h4:St ((w.alloc (.cells #[.int .i64 S0,.slice a n c,.int .i64 (F:Int),.int .i64 (T:Int)] 67)).alloc (.cells (zC 39) 39)) 39 (w.heap.size+1) (zC 39):=by
  have:=St.new (w.alloc (.cells #[.int .i64 S0,.slice a n c,.int .i64 (F:Int),.int .i64 (T:Int)] 67)) 39 (zC 39);simpa using this
 have ll:Below w.heap.size w ((w.alloc (.cells #[.int .i64 S0,.slice a n c,.int .i64 (F:Int),.int .i64 (T:Int)] 67)).alloc (.cells (zC 39) 39)):=(al w _).trans ((al _ _).mono (by simp));generalize (w.alloc (.cells #[.int .i64 S0,.slice a n c,.int .i64 (F:Int),.int .i64 (T:Int)] 67)).alloc (.cells (zC 39) 39)=W0 at h2 h4 ll⊢;obtain⟨b4,eV⟩:∃b4,w.heap.size+1=b4:=⟨_,rfl⟩
 rw[eV] at h4;rw[eV];obtain⟨r0,r1,r2,r3⟩:=h2.bS;have H0:=hid (Zz h4 (Zz ll eV));have F7:=hid (HD.out W0 ll w.heap.size h2);clear h2 h4 ll eV;go_wp2_with fail;refine F7.out.mono ?_;rintro e w1 ⟨cD,er,nm,L',f0,s0,k,R,SS,rfl,h1,h2,h3,h4,h5⟩;have bQ:=H0.out.1.ab h1;have HF:=hid (ov.put (mf:=fun x=>if x=T then 0 else -1) H0.out.2.1 h1 h2 h3 h4 h5 bQ (by have:=H0.out.2.2;omega));have eB:=hid bQ;have HX:=hid (Zz h3 h4);clear h1 h2 h3 h4 h5 bQ HD F7 r0 r1 r2 r3;go_wp2_with (refine l6 rfl 39 _ _ rfl b4 39 (zC 39) cD rfl rfl eB.out (by rw[ir,HX.out.1]) (by rw[fB,HX.out.1]) HX.out.2 ?_);refine bodyPost_ret (wR rfl _ _ b4 cD _ rfl eB.out.setRow.part underlying39 rfl (by rw[fB,HX.out.1])) rfl ?_;exact HF.out
theorem bF.tF{w w':World}{B ts te sz:Nat}{v v' u:Value}{vs:Nat->Value}{len:Nat->Nat}{xs:Nat->List Value}(h:bF w B ts te sz v M vs len xs)(ht:te≠ts)(hu:w.ownsRow B te sz u (len M) (xs M))(hs:∀i,i<M->∀b,(vs i).ownBlock=some b->u.ownBlock≠some b)
  (ho:w'.ownsRow B ts 1 v' (M+1) ((range M).map vs++[u])) (hg:w.grownBy w' v.ownBlock):bF w' B ts te sz v' (M+1) (fun j=>if j=M then u else vs j) len xs:=by
 refine⟨?_,fun i hi=>?_,fun i j hi hj hij b=>?_⟩
 ·have e:(range (M+1)).map (fun j=>if j=M then u else vs j)=(range M).map vs++[u]:=by
   rw[List.range_succ,List.map_append];congr 1
   ·refine(List.map_congr_left fun j hj=>?_);have:j<M:=(by simpa using hj);rw[if_neg (by omega)]
   simp
  rw[e];exact ho
 ·by_cases e:i=M
  ·subst e;simp only[if_pos rfl];exact qM hu hg (fun b e1 e2=>iy hu h.own ht b e1 e2.symm)
  simp only[if_neg e];exact qM (h.row i (by omega)) hg (fun b e1 e2=>iy (h.row i (by omega)) h.own ht b e1 e2.symm)
 by_cases e1:i=M
 ·by_cases e2:j=M
  ·omega
  simp only[if_pos e1,if_neg e2];intro e3 e4;exact hs j (by omega) b e4 e3
 by_cases e2:j=M
 ·simp only[if_neg e1,if_pos e2];exact hs i (by omega) b
 simp only[if_neg e1,if_neg e2];exact h.sep i j (by omega) (by omega) hij b
theorem lB{w:World}{B t s n:Nat}{v:Value}{xs:List Value}(ho:w.ownsRow B t s v n xs):∀g,v.ownBlock=some g->g<w.heap.size:=fun g e=>by
 obtain⟨c,fz,hc⟩:=pL ho g e
 exact (Array.getElem?_eq_some_iff.1 hc).1
section
variable {W0 : World}{z N C : Nat}{rp : List Nat}{vP vR : Value}{SS : List (Nat → Bool)}{vs : Nat → Value}{vN : Value}{R : List (List Int)}{ws : Nat → Value}{vO : Value}{ms : List Int}{vW : Value}{row : List Int}{w : World}
end
def uf:Value->Option Addr
 | .slice a _ _=>a
 | _=>none
def ye:Value->Nat
 | .slice _ _ c=>c
 | _=>0
theorem bF.zs{w:World}{B k c C:Nat}{a:Option Addr}{ws:Nat->Value}(h:bF w B 30 3 1 (.slice a k c) k ws (fun _=>C) (fun j=>ints (R.getD j [])))(hk:R.length=k)(hl:∀r∈R,r.length=C):
  pQ w a k (fun i=>uf (ws i)) (fun i=>ye (ws i)) (fun _=>C) (fun i x=>(R.getD i []).getD x 0):=by
 intro h0;obtain⟨g,rfl,_,hg,hc⟩:=ep h.own h0;refine⟨g,0,rfl,hg,fun i hi=>?_⟩;obtain⟨ai,ci,e⟩:=bJ (h.row i hi);have hr:=h.row i hi;refine⟨?_,fun h1=>?_⟩
 ·rw[zero_add,(hc i (by omega)).1];simp[hi,e,uf,ye]
 rw[e] at hr;obtain⟨g2,e2,_,Aa,fH⟩:=ep hr h1;refine⟨g2,0,by simp[e,uf,e2],Aa,fun j hj=>?_⟩;rw[zero_add,(fH j (by simpa using hj)).1];have lp:i<R.length:=by omega
 have hj2:j<R[i].length:=by rw[hl _ (getElem_mem lp)];exact hj
 simp[ints,getD_eq_getElem?_getD,lp,hj2]
theorem Te{w:World}{B n c:Nat}{a:Option Addr}{l:List Int}(h:w.ownsRow B 3 1 (.slice a n c) n (ints l))(hl:l.length=n):kE w a n (fun i=>l.getD i 0):=by
 intro h0;obtain⟨g,rfl,_,hg,hc⟩:=ep h h0;refine⟨g,0,rfl,hg,fun j hj=>?_⟩;rw[zero_add,(hc j (by omega)).1];have hj2:j<l.length:=by omega
 simp[ints,getD_eq_getElem?_getD,hj2]
end Go.Proofs.YtbacgnhkapancaaGreat
