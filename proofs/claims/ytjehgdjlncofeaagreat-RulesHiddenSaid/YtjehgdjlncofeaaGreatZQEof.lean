import Derived.Test.YtjehgdjlncofeaaGreatZQEds
set_option linter.unusedVariables false
set_option linter.unusedSimpArgs false
set_option maxHeartbeats 4000000
set_option maxRecDepth 100000
open Go.Lib (hid)
namespace Go.Proofs.YtjehgdjlncofeaaGreat
open Go.RowKit Go.Maps Go.WideElems Go.ChangeMaps Go.MapKept
theorem zlq (x:Pc) (i:Nat) (hk:x.k=0\/x.k=1):egs ((leafE x i).map En.z)=[.int .i64 ((2*i:Nat):Int),.int .i64 ((2*i+1:Nat):Int),.int .u64 ((wd x.p 0:Nat):Int),.int .u64 ((wd x.p 1:Nat):Int),.int .u64 ((wd x.p 2:Nat):Int),.int .u64 ((wd x.p 3:Nat):Int),.bool (x.k == 0)]:=by
 have h:decide (x.k=0)=(x.k == 0):=by rcases hk with h|h <;> rw[h] <;> rfl
 simp[egs,egCells,En.z,leafE,h]
theorem zlr:∀(l:List Pc) (m:Int),stGo l m<=l.length:=by
 intro l
 induction l with
 | nil=>intro m;exact Nat.le_refl _
 | cons x r ih=>
  intro m
  unfold stGo
  split
  ·simp
  ·have:=ih (m+(takesZ x.k-1))
   simp
   omega
theorem zjJ (l:List Pc) (j:Nat):startT l j<=j+1:=by
 unfold startT
 have:=zlr (l.take (j+1)).reverse 1
 simp at this
 omega
theorem zgF (l:List Pc) (a:Option Addr) (n cap:Nat) (w:World) (hL:RxAt w a l) (hn:l.length=n) (hmax:n<=100000) (i:Nat) (hi:i<n) (hv:0<=takesZ (l.getD i pc0).k) (hok:OkI l i):
  Calls Tryz.prog 99 #[.slice a n cap,.int .i64 (i:Int)] w (EdsP (edE l i) w):=by
 obtain⟨g,off,rfl,hg,c0,c1,c2,c3,c4⟩:=hL.get i (by omega)
 have hx:l[i]'(by omega)=l.getD i pc0:=by simp[List.getD_eq_getElem?_getD,show i<l.length by omega]
 rw[hx] at c0 c1 c2 c3 c4
 obtain⟨x,hxx⟩:∃x,l.getD i pc0=x:=⟨_,rfl⟩
 have HE:Hid (edE l i=if takesZ x.k=1 then repE x.k (i-1) i else if takesZ x.k=2 then pairE x.k (startT l (i-1)-1) (i-1) i else leafE x i):=by
  show _=_
  unfold edE
  rw[hxx]
 unfold OkI at hok
 rw[hxx] at c0 c1 c2 c3 c4 hv hok
 have HSt:Hid (1<=i->∀W,Below w.heap.size w W->Calls Tryz.prog 137 #[.slice (some ⟨g,off,none⟩) n cap,.int .i64 ((i-1:Nat):Int)] W fun e w'=>e=.returned (.int .i64 ((startT l (i-1):Nat):Int))/\W=w'):=fun h W hW=>ziU l _ n cap W (hL.below hW) hn (by omega) (i-1) (by omega)
 have HBi:=hid (fun (W:World)=>zbr i (by omega) W)
 have HEi:=hid (fun (W:World)=>zcT i (by omega) W)
 have HX:=hid (And.intro hv hok)
 have HRep:Hid (1<=i->∀W,Calls Tryz.prog 135 #[.int .i64 x.k,.int .i64 ((i:Int)-1),.int .i64 ((2*i:Nat):Int),.int .i64 ((2*i+1:Nat):Int)] W (EdsP (repE x.k (i-1) i) W)):=fun h W=>by
  have:=zfI x.k (i-1) i (by omega) (by omega) W
  rwa [show ((i-1:Nat):Int)=(i:Int)-1 by omega] at this
 have HPai:Hid (1<=i->∀R:Nat,1<=R->R<=1000000->∀W,Calls Tryz.prog 136 #[.int .i64 x.k,.int .i64 ((R:Int)-1),.int .i64 ((i:Int)-1),.int .i64 ((2*i:Nat):Int),.int .i64 ((2*i+1:Nat):Int)] W (EdsP (pairE x.k (R-1) (i-1) i) W)):=fun h R hR hR2 W=>by
  have:=zip x.k (R-1) (i-1) i (by omega) (by omega) (by omega) W
  rwa [show ((i-1:Nat):Int)=(i:Int)-1 by omega,show ((R-1:Nat):Int)=(R:Int)-1 by omega] at this
 have HRl:Hid (1<=i->startT l (i-1)<=1000000):=fun h=>by
  have:=zjJ l (i-1)
  omega
 obtain⟨bi,hbi⟩:∃b:Nat,2*i=b:=⟨_,rfl⟩
 obtain⟨ei,hei⟩:∃b:Nat,2*i+1=b:=⟨_,rfl⟩
 have Hbi:=hid (And.intro hbi hei)
 rw[hbi] at HBi
 rw[hei] at HEi
 rw[hei,hbi] at HRep HPai
 have i1:(i:Int)<(n:Int):=by omega
 clear hL hn hx hxx hv hok hbi hei
 obtain⟨k,hk⟩:∃k,x.k=k:=⟨_,rfl⟩
 have Hk:=hid hk
 rw[hk] at c0 HRep HPai HE HX
 obtain⟨p0,hp0⟩:∃p0:Nat,wd x.p 0=p0:=⟨_,rfl⟩
 obtain⟨p1,hp1⟩:∃p1:Nat,wd x.p 1=p1:=⟨_,rfl⟩
 obtain⟨p2,hp2⟩:∃p2:Nat,wd x.p 2=p2:=⟨_,rfl⟩
 obtain⟨p3,hp3⟩:∃p3:Nat,wd x.p 3=p3:=⟨_,rfl⟩
 have Hp:=hid (And.intro hp0 (And.intro hp1 (And.intro hp2 hp3)))
 rw[hp0] at c1
 rw[hp1] at c2
 rw[hp2] at c3
 rw[hp3] at c4
 clear hk hp0 hp1 hp2 hp3
 go_enter Tryz.func99,Tryz.ntmps99
 go_wp2_with fail
 go_cut [5,6,7] from 9 to 17 (fun v5 v6 v7 wx=>v5=.pointer (some ⟨w.heap.size,0,none⟩)/\v6=.int .i64 (bi:Int)/\v7=.int .i64 (ei:Int)/\St wx 104 w.heap.size #[.int .i64 k,.int .u64 (p0:Int),.int .u64 (p1:Int),.int .u64 (p2:Int),.int .u64 (p3:Int)]/\Below w.heap.size w wx)
 case first=>
  go_region_with (first
   | (go_at_call 97;refine (HBi.out _).mono ?_;rintro e w' ⟨rfl,rfl⟩)
   | (go_at_call 98;refine (HEi.out _).mono ?_;rintro e w' ⟨rfl,rfl⟩))
  all_goals
   go_wp2_with fail
   go_meet
   exact⟨rfl,rfl,rfl,St.new _ _ _,((Below.refl _ _).alloc (Nat.le_refl _) _).drew⟩
 case rest=>
  obtain⟨rfl,rfl,rfl,hS,hB⟩:=hcut
  have h0:=hS.at_ 0
  have h1:=hS.at_ 1
  have h2:=hS.at_ 2
  have h3:=hS.at_ 3
  have h4:=hS.at_ 4
  simp only[List.getElem?_toArray,List.getElem?_cons_succ,List.getElem?_cons_zero] at h0 h1 h2 h3 h4
  have HB:=hid hB
  have HSc:=hid hS
  clear hS hB c0 c1 c2 c3 c4 HBi HEi
  go_wp2_with fail
  refine (zdo k _).mono ?_
  rintro e w2 ⟨rfl,rfl⟩
  rcases zaQ k with ⟨e0,hk0⟩|⟨e0,hk0⟩|⟨e0,hk0⟩|⟨e0,_⟩
  ·have HE1:Hid (edE l i=leafE x i):=by show _=_;rw[HE.out,e0,if_neg (by omega),if_neg (by omega)]
   have Hlg:=hid (zlq x i (by rw[Hk.out];exact hk0))
   rw[e0]
   clear HRep HPai HRl HSt HE hk0 e0
   go_wp2_with fail
   go_ret
   have ho:=zbM wc w.heap.size 128 7 #[.int .i64 (bi:Int),.int .i64 (ei:Int),.int .u64 (p0:Int),.int .u64 (p1:Int),.int .u64 (p2:Int),.int .u64 (p3:Int),.bool (k == 0)] 1 rfl HB.out.size (by unfold maxLen;omega)
   rw[HE1.out]
   refine⟨some ⟨wc.heap.size,0,none⟩,1,rfl,?_,HB.out.trans ((al wc _).mono HB.out.size)⟩
   rw[Hlg.out,Hbi.out.2,Hbi.out.1,Hp.out.1,Hp.out.2.1,Hp.out.2.2.1,Hp.out.2.2.2,Hk.out]
   exact ho
  ·have HE1:Hid (edE l i=pairE k (startT l (i-1)-1) (i-1) i):=by show _=_;rw[HE.out,e0,if_neg (by omega),if_pos rfl]
   obtain⟨hi1,hR1⟩:=HX.out.2.2 e0
   have hR2:=HRl.out hi1
   have HS2:=hid (HSt.out hi1)
   have HP2:=hid (HPai.out hi1 _ hR1 hR2)
   obtain⟨R,hR⟩:∃R,startT l (i-1)=R:=⟨_,rfl⟩
   rw[hR] at HS2 HP2 HE1 hR1 hR2
   rw[show ((i-1:Nat):Int)=(i:Int)-1 by omega] at HS2
   rw[<-show IntKind.i64.wrap ((R:Int)-1)=(R:Int)-1 from IntWalk.i64_in _ (by omega)] at HP2
   rw[e0]
   have i3:(1:Int)<=(i:Int):=by omega
   have i4:(1:Int)<=(R:Int):=by omega
   clear HRep HPai HRl HSt HE hk0 e0 hR
   go_upto_region 7 with fail
   have HSk:Hid (∀W,Below w.heap.size w W->∀{W'},Below W.heap.size W W'->W.cell? ⟨w.heap.size,0,none⟩=some (.int .i64 k)->W'.cell? ⟨w.heap.size,0,none⟩=some (.int .i64 k)):=fun W hW W' hb hc=>by
    by_cases hl:w.heap.size<W.heap.size
    ·exact (hb.cell (p:=⟨w.heap.size,0,none⟩) hl).trans hc
    ·simp[World.cell?,Array.getElem?_eq_none (by omega:W.heap.size<=w.heap.size)] at hc
   refine wp_region_held_drew (S:=fun W'=>Below w.heap.size w W'/\W'.cell? ⟨w.heap.size,0,none⟩=some (.int .i64 k)/\True) (by kernel_rfl) ⟨HB.out.drew,HSc.out.at_ 0,trivial⟩ (fun hHeld=>?_)
   (refine tkA 0 ?_;refine tkA 1 ?_;refine tkA 2 ?_;refine tkA 3 ?_;refine tkA 6 ?_;refine tkA 7 ?_;refine tkA 8 ?_;try simp only[Act.put,sA,sB,sC])
   refine rd1 4 (fun K hK=>?_)
   ·skip
    go_simp
    go_at_call 137
    refine (HS2.out _ (And.left hHeld)).mono ?_
    rintro e w2 ⟨rfl,rfl⟩
    try go_wp2_with fail
    refine hK.out _ _ (hHeld) (fun hHeld=>?_)
    clear hK K
    try simp only[Act.put,sA,sB,sC]
    (refine tkA 5 ?_;try simp only[Act.put,sA,sB,sC])
    refine rd1 9 (fun K hK=>?_)
    ·skip
     go_simp
     go_at_call 136
     have hbl:=And.left hHeld
     refine (HP2.out _).mono ?_
     rintro e w3 ⟨a2,c2,rfl,ho2,hb2⟩
     have HO2:Hid (w3.ownsRow w.heap.size 128 7 (.slice a2 (pairE k (R-1) (i-1) i).length c2) (pairE k (R-1) (i-1) i).length (egs ((pairE k (R-1) (i-1) i).map En.z))/\Below w.heap.size w w3):=⟨zag ho2 hbl.size,hbl.trans (hb2.mono hbl.size)⟩
     have hkp:=HSk.out _ hbl hb2
     clear ho2 hb2 hbl
     try go_wp2_with fail
     refine hK.out _ _ (⟨HO2.out.2,hkp (And.left (And.right hHeld)),trivial⟩) (fun hHeld=>?_)
     clear hK K
     try simp only[Act.put,sA,sB,sC]
     (refine tkA 10 ?_;try simp only[Act.put,sA,sB,sC])
     refine wpAnyH_done (by kernel_rfl) ?_ _
     clear hHeld
     go_wp2_with fail
     go_ret
     rw[HE1.out]
     exact⟨a2,c2,rfl,HO2.out.1,HO2.out.2⟩
  ·have HE1:Hid (edE l i=repE k (i-1) i):=by show _=_;rw[HE.out,if_pos e0]
   have HR2:=hid (HRep.out (HX.out.2.1 e0))
   have i3:(1:Int)<=(i:Int):=by have:=HX.out.2.1 e0;omega
   rw[e0]
   clear HRep HPai HRl HSt HE hk0 e0
   go_wp2_with fail
   refine (HR2.out _).mono ?_
   rintro e w2 ⟨a2,c2,rfl,ho2,hb2⟩
   have HO2:Hid (w2.ownsRow w.heap.size 128 7 (.slice a2 (repE k (i-1) i).length c2) (repE k (i-1) i).length (egs ((repE k (i-1) i).map En.z))/\Below w.heap.size w w2):=⟨zag ho2 HB.out.size,HB.out.trans (hb2.mono HB.out.size)⟩
   clear ho2 hb2
   go_wp2_with fail
   go_ret
   rw[HE1.out]
   exact⟨a2,c2,rfl,HO2.out.1,HO2.out.2⟩
  ·exact absurd HX.out.1 (by rw[e0];omega)
end Go.Proofs.YtjehgdjlncofeaaGreat
