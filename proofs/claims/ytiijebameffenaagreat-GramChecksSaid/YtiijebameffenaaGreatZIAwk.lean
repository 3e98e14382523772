import Derived.Test.YtiijebameffenaaGreatZIPSelf
import Derived.Test.YtiijebameffenaaGreatZQLan
set_option linter.all false
set_option maxHeartbeats 8000000
set_option maxRecDepth 100000
open Go.Lib (hid)
namespace Go.Proofs.YtiijebameffenaaGreat
open Go.RowKit Go.Maps Go.Proofs.Tryz
open Nat (le_refl lt_of_lt_of_le zero_le)
open List (getElem_mem getElem_of_mem length_append range)
open Or (inl inr)
variable {B g i k n:Nat}{G:Gr}{W w w' wr:World}{a e:Int}
structure qI (B:Nat)(w:World)(b g o cb:Nat)(dF bn:Int)(a0 b0 d0:Bool)(W:World):Prop where
 c0:W.cell? ⟨b,0,none⟩=some (.int .i64 dF)
 c2:W.cell? ⟨b,2,none⟩=some (.slice (some ⟨g,o,none⟩) 3 cb)
 x0:W.cell? ⟨g,o,none⟩=some (.bool a0)
 y0:W.cell? ⟨g,o+1*2,none⟩=some (.bool b0)
 y1:W.cell? ⟨g,o+1*2+1,none⟩=some (.int .i64 bn)
 z0:W.cell? ⟨g,o+2*2,none⟩=some (.bool d0)
 bb:b<W.heap.size
 gg:g<W.heap.size
 k:Below B w W
 le:B<=W.heap.size
theorem qI.ae{b o cb:Nat}{dF bn:Int}{a0 b0 d0:Bool}{W':World}(h:qI B w b g o cb dF bn a0 b0 d0 W)(k:ϐ W W'):qI B w b g o cb dF bn a0 b0 d0 W':=
 ⟨(k.cell (p:=⟨b,0,none⟩) h.bb).trans h.c0,(k.cell (p:=⟨b,2,none⟩) h.bb).trans h.c2,(k.cell (p:=⟨g,o,none⟩) h.gg).trans h.x0,(k.cell (p:=⟨g,o+1*2,none⟩) h.gg).trans h.y0,(k.cell (p:=⟨g,o+1*2+1,none⟩) h.gg).trans h.y1,(k.cell (p:=⟨g,o+2*2,none⟩) h.gg).trans h.z0,lt_of_lt_of_le h.bb k.size,lt_of_lt_of_le h.gg k.size,h.k.trans (k.mono h.le),Nat.le_trans h.le k.size⟩
theorem zjC(p:iF)(w:World)(hA:p.At w)(hl:p.body.length<=9223372036854775807):
  Calls prog 20 #[p.val] w (rH (ep p) w):=by
 show Calls prog 20 #[.agg #[.int .i64 p.dF,.string p.dR,.slice p.ab p.body.length p.cb,.bool p.par,.int .i64 p.prec,.slice p.ah p.hints.length p.ch]] w _;have HA:=hid hA;clear hA;obtain⟨w2,dQ,H,ib⟩:=UP w p;go_in;go_upto_region 1 with fail
 try rw[dQ]
 clear dQ;have HB:=hid H.o.2;have c0:=H.o.1.c0;have c2:=H.o.1.c2;have xF:ϐ w w2.drew:=HB.o.drew;by_cases h3:p.body.length=3
 ·have HE:=hid (WV h3);have k0:0<p.body.length:=by omega
  have k1:1<p.body.length:=by omega
  have k2:2<p.body.length:=by omega
  obtain⟨g,o,e,q0,x0,x1⟩:=(HA.o.b.below HB.o).get 0 k0;obtain⟨g',o',e',q1,y0,y1⟩:=(HA.o.b.below HB.o).get 1 k1;obtain⟨g'',o'',BW,q2,z0,z1⟩:=(HA.o.b.below HB.o).get 2 k2;clear x1 z1 q1 q2;rw[e] at e' BW;injection e' with e';injection e' with e1 e2;injection BW with BW;injection BW with e3 e4;subst e1 e2 e3 e4;rw[Nat.zero_mul,Nat.add_zero] at x0;rw[h3,e] at c2;have HS:Hid (qI w.heap.size w w.heap.size g o p.cb p.dF p.body[1].n p.body[0].s p.body[1].s p.body[2].s w2.drew):=⟨c0,c2,x0,y0,y1,z0,H.o.1.lt,q0,xF,HB.o.size⟩
  generalize p.body[0].s=a0 at HS HE;generalize p.body[1].s=b0 at HS HE;generalize p.body[1].n=bn at HS HE;generalize p.body[2].s=d0 at HS HE;clear k0 k1 k2 hl c0 c2 x0 y0 y1 z0 H HA e h3 q0 xF;obtain⟨b,hb⟩:=Ξ w.heap.size
  have tb:Hid (qI w.heap.size w b g o p.cb p.dF bn a0 b0 d0 w2.drew):=by rw[<-hb];exact HS.o
  rw[hb];clear hb HS HB;cases a0 with
  | true=>
   refine wp_region_held_drew (S:=fun W'=>qI w.heap.size w b g o p.cb p.dF bn true b0 d0 W') (by kernel_rfl) (tb.o) fun η=>?_;refine cq 0 ?_;refine cq 1 ?_;refine cq 2 ?_
   try simp only[Act.put,sA]
   refine cq 3 (v:=.bool true) ?_;refine cq 4 ?_;refine cq 5 ?_
   try simp only[Act.put,sA]
   refine cq 6 ?_;refine cq 7 ?_;refine cq 8 ?_
   try simp only[Act.put,sA]
   refine cq 9 ?_;refine cq 10 ?_;refine cq 11 ?_
   try simp only[Act.put,sA]
   refine cq 12 ?_;refine bS 13 ?_;refine bS 14 ?_
   try simp only[Act.put,sA]
   refine bS 15 ?_;refine bS 16 ?_;refine bS 17 ?_
   try simp only[Act.put,sA]
   refine bS 18 ?_;refine bS 19 ?_;refine bS 20 ?_
   try simp only[Act.put,sA]
   refine cq 21 ?_;refine cq 22 ?_;refine bS 23 ?_
   try simp only[Act.put,sA]
   refine bS 24 ?_;refine bS 25 ?_;refine bS 26 ?_
   try simp only[Act.put,sA]
   refine bS 27 ?_;refine bS 28 ?_;refine cq 29 ?_
   try simp only[Act.put,sA]
   refine cq 30 ?_;refine wpAnyH_done (by kernel_rfl) ?_ _;go_wp2;go_ret;exact⟨by rw[HE.o];rfl,η.k⟩
  | false=>
   cases b0 with
   | false=>
    refine wp_region_held_drew (S:=fun W'=>qI w.heap.size w b g o p.cb p.dF bn false false d0 W') (by kernel_rfl) (tb.o) fun η=>?_;refine cq 0 ?_;refine cq 1 ?_;refine cq 2 ?_
    try simp only[Act.put,sA]
    refine cq 3 (v:=.bool true) ?_;refine cq 4 ?_;refine cq 5 ?_
    try simp only[Act.put,sA]
    refine cq 6 ?_;refine cq 7 ?_;refine cq 8 ?_
    try simp only[Act.put,sA]
    refine cq 9 ?_;refine cq 10 ?_;refine cq 11 ?_
    try simp only[Act.put,sA]
    refine cq 12 ?_;refine cq 13 ?_;refine cq 14 ?_
    try simp only[Act.put,sA]
    refine cq 15 ?_;refine cq 16 ?_;refine cq 17 ?_
    try simp only[Act.put,sA]
    refine cq 18 ?_;refine bH 19 (fun K hK=>?_);go_simp;go_at_call 30;refine (AA _ _).mono ?_;rintro e w8 ⟨rfl,b8⟩;have bQ:=η.ae b8;clear b8 η
    try go_wp2_with fail
    refine hK.out _ _ bQ fun η=>?_;clear hK K bQ
    try simp only[Act.put,sA]
    refine cq 20 ?_;refine cq 21 ?_;refine cq 22 ?_
    try simp only[Act.put,sA]
    refine bS 23 ?_;refine bS 24 ?_;refine bS 25 ?_
    try simp only[Act.put,sA]
    refine bS 26 ?_;refine bS 27 ?_;refine bS 28 ?_
    try simp only[Act.put,sA]
    refine cq 29 ?_;refine cq 30 ?_;refine wpAnyH_done (by kernel_rfl) ?_ _;go_wp2;go_ret;exact⟨by rw[HE.o];rfl,η.k⟩
   | true=>
    by_cases bQ:bn=p.dF
    ·have j9:(bn == p.dF)=true:=(by simp[bQ]);refine wp_region_held_drew (S:=fun W'=>qI w.heap.size w b g o p.cb p.dF bn false true d0 W') (by kernel_rfl) (tb.o) fun η=>?_;refine cq 0 ?_;refine cq 1 ?_;refine cq 2 ?_
     try simp only[Act.put,sA]
     refine cq 3 (v:=.bool true) ?_;refine cq 4 ?_;refine cq 5 ?_
     try simp only[Act.put,sA]
     refine cq 6 ?_;refine cq 7 ?_;refine cq 8 ?_
     try simp only[Act.put,sA]
     refine cq 9 ?_;refine cq 10 ?_;refine cq 11 ?_
     try simp only[Act.put,sA]
     refine cq 12 ?_;refine cq 13 ?_;refine cq 14 ?_
     try simp only[Act.put,sA]
     refine cq 15 ?_;refine cq 16 ?_;refine cq 17 ?_
     try simp only[Act.put,sA]
     refine cq 18 ?_;refine bH 19 (fun K hK=>?_);go_simp;go_at_call 30;refine (AA _ _).mono ?_;rintro e w8 ⟨rfl,b8⟩;have bQ:=η.ae b8;clear b8 η
     try go_wp2_with fail
     refine hK.out _ _ bQ fun η=>?_;clear hK K bQ
     try simp only[Act.put,sA]
     refine cq 20 (v:=.bool true) ?_;refine cq 21 ?_;refine cq 22 ?_
     try simp only[Act.put,sA]
     refine cq 23 ?_;refine cq 24 ?_;refine cq 25 ?_
     try simp only[Act.put,sA]
     refine cq 26 ?_;refine cq 27 ?_;refine cq 28 ?_
     try simp only[Act.put,sA]
     refine cq 29 ?_;refine cq 30 ?_;refine wpAnyH_done (by kernel_rfl) ?_ _;go_wp2;go_ret;exact⟨by rw[HE.o,j9];rfl,η.k⟩
    have j9:(bn == p.dF)=false:=(by simp[bQ]);refine wp_region_held_drew (S:=fun W'=>qI w.heap.size w b g o p.cb p.dF bn false true d0 W') (by kernel_rfl) (tb.o) fun η=>?_;refine cq 0 ?_;refine cq 1 ?_;refine cq 2 ?_
    try simp only[Act.put,sA]
    refine cq 3 (v:=.bool true) ?_;refine cq 4 ?_;refine cq 5 ?_
    try simp only[Act.put,sA]
    refine cq 6 ?_;refine cq 7 ?_;refine cq 8 ?_
    try simp only[Act.put,sA]
    refine cq 9 ?_;refine cq 10 ?_;refine cq 11 ?_
    try simp only[Act.put,sA]
    refine cq 12 ?_;refine cq 13 ?_;refine cq 14 ?_
    try simp only[Act.put,sA]
    refine cq 15 ?_;refine cq 16 ?_;refine cq 17 ?_
    try simp only[Act.put,sA]
    refine cq 18 ?_;refine bH 19 (fun K hK=>?_);go_simp;go_at_call 30;refine (AA _ _).mono ?_;rintro e w8 ⟨rfl,b8⟩;have bQ:=η.ae b8;clear b8 η
    try go_wp2_with fail
    refine hK.out _ _ bQ fun η=>?_;clear hK K bQ
    try simp only[Act.put,sA]
    refine cq 20 (v:=.bool false) ?_;refine cq 21 ?_;refine cq 22 ?_
    try simp only[Act.put,sA]
    refine bS 23 ?_;refine bS 24 ?_;refine bS 25 ?_
    try simp only[Act.put,sA]
    refine bS 26 ?_;refine bS 27 ?_;refine bS 28 ?_
    try simp only[Act.put,sA]
    refine cq 29 ?_;refine cq 30 ?_;refine wpAnyH_done (by kernel_rfl) ?_ _;go_wp2;go_ret;exact⟨by rw[HE.o,j9];rfl,η.k⟩
 have HE:=hid (Yp h3);have X2:w2.drew.cell? ⟨w.heap.size,2,none⟩=some (.slice p.ab p.body.length p.cb):=c2;have j9:((p.body.length:Int) == 3)=false:=by simp;omega
 clear c0 c2 H HA h3;refine wp_region_held_drew (S:=fun W'=>W'=w2.drew) (by kernel_rfl) rfl fun η=>?_;generalize w2.drew=w9 at *;refine bF 0 ?_;refine bF 1 ?_;refine bF 2 ?_
 try simp only[Act.put,sA]
 refine bF 3 (v:=.bool false) ?_;refine bF 4 ?_;refine bS 5 ?_
 try simp only[Act.put,sA]
 refine bS 6 ?_;refine bS 7 ?_;refine bS 8 ?_
 try simp only[Act.put,sA]
 refine bS 9 ?_;refine bS 10 ?_;refine bF 11 ?_
 try simp only[Act.put,sA]
 refine bF 12 ?_;refine bS 13 ?_;refine bS 14 ?_
 try simp only[Act.put,sA]
 refine bS 15 ?_;refine bS 16 ?_;refine bS 17 ?_
 try simp only[Act.put,sA]
 refine bS 18 ?_;refine bS 19 ?_;refine bS 20 ?_
 try simp only[Act.put,sA]
 refine bF 21 ?_;refine bF 22 ?_;refine bS 23 ?_
 try simp only[Act.put,sA]
 refine bS 24 ?_;refine bS 25 ?_;refine bS 26 ?_
 try simp only[Act.put,sA]
 refine bS 27 ?_;refine bS 28 ?_;refine bF 29 ?_
 try simp only[Act.put,sA]
 refine bF 30 ?_;refine wpAnyH_done (by kernel_rfl) ?_ _;go_wp2;go_ret;exact⟨by rw[HE.o];rfl,xF⟩
def sa(z:Int):Bool:=z == 0 || (z == 1 || (z == 2 || z == 3))
theorem zk6{z:Int}:(!sa z)=true↔(z<0\/3<z):=by
 unfold sa;simp only[Bool.not_eq_true',Bool.or_eq_false_iff,beq_eq_false_iff_ne];omega
theorem zjD(z:Int)(w:World):Calls prog 75 #[.int .i64 z] w (fun e w'=>e=.returned (.bool (sa z))/\w'=w):=by
 have HZ:Hid (sa z=(z == 0 || (z == 1 || (z == 2 || z == 3)))):=rfl;go_in;rcases h0:(z == 0) with _|_
 ·rcases h1:(z == 1) with _|_
  ·rcases h2:(z == 2) with _|_
   ·rw[h0,h1,h2] at HZ;go_wp2;go_ret;exact⟨by rw[HZ.o];rfl,rfl⟩
   rw[h0,h1,h2] at HZ;go_wp2;go_ret;exact⟨by rw[HZ.o];rfl,rfl⟩
  rw[h0,h1] at HZ;go_wp2;go_ret;exact⟨by rw[HZ.o];rfl,rfl⟩
 rw[h0] at HZ;go_wp2;go_ret;exact⟨by rw[HZ.o];rfl,rfl⟩
theorem znn:∀(args:Array Value) (W:World),(callFunc 72 args).run prog W=.ok (.enter 72 args) W:=fun _ _=>by rfl
theorem zno:∀(args:Array Value) (W:World),(callFunc 74 args).run prog W=.ok (.enter 74 args) W:=fun _ _=>by rfl
theorem zpN(z:Int)(w:World):Calls prog 74 #[.int .i64 z] w (jk (z<0\/3<z) w):=by
 have HH:=hid (zjD z w);have HQ:Hid (jk (z<0\/3<z) w (.returned (.bool (!sa z))) w):=⟨_,zk6,rfl,Below.refl _ _⟩
 go_in;go_wp2_with (go_at_call 75;refine HH.o.mono ?_;rintro e w2 ⟨rfl,rfl⟩);go_ret;exact HQ.o
theorem zpO(G:Gr)(y:Sy)(b:Nat)(w:World)(hA:G.At w)(hL:G.mE 9223372036854775807)(hG:jJ w b G):
  Calls prog 72 #[.agg #[.bool y.s,.int .i64 y.n],.pointer (some ⟨b,0,none⟩)] w (jk (eH G y=false) w):=by
 have HH:Hid (∀W,ϐ w W->Calls prog 14 #[ϑ G,.agg #[.bool y.s,.int .i64 y.n]] W (rH (eH G y) W)):=fun W k=>MN G y W (hA.below k) hL
 have HG:=hid hG;clear hA hL hG;obtain⟨w2,dQ,H,ib⟩:=bxS w y;go_in;go_upto_region 1 with fail
 try rw[dQ]
 clear dQ;have HB:=hid H.o.2;have hg:=HG.o.below HB.o;have c0:=hg.c0;have c1:=hg.c1;have c2:=hg.c2;have c3:=hg.c3;have c4:=hg.c4;have s0:=H.o.1.c0;have s1:=H.o.1.c1;have Gi:=hid (HH.o w2 HB.o);clear hg H ib HH;go_wp2_with (go_at_call 14;refine Gi.o.mono ?_);rintro e w3 ⟨rfl,b3⟩;have lk:=hid (HB.o.trans (b3.mono HB.o.size));clear b3 c0 c1 c2 c3 c4 s0 s1 Gi;have HQ:Hid (∀W,ϐ w W->jk (eH G y=false) w (.returned (.bool (!eH G y))) W):=fun W k=>⟨_,by cases eH G y <;> simp,rfl,k⟩
 go_wp2;go_ret;exact HQ.o _ lk.o
theorem znp(fn:Nat)(uU:∀(args:Array Value) (W:World),(callFunc fn args).run prog W=.ok (.enter fn args) W)(p:Sy->Prop)(n c b:Nat)(a:Option Addr)(l:List Sy)(hl:l.length=n)(hn:n<=9223372036854775807)(w:World)(h1:qF w a l)
  (hF:∀(x:Sy) W,ϐ w W->Calls prog fn #[.agg #[.bool x.s,.int .i64 x.n],.pointer (some ⟨b,0,none⟩)] W (jk (p x) W)):
  Calls prog 87 #[.slice a n c,.func (.func fn) #[] #[.pointer (some ⟨b,0,none⟩)]] w (fun e w'=>∃r:Int,e=.returned (.int .i64 r)/\(0<=r↔∃x∈l,p x)/\ϐ w w'):=by
 have H:=ξ h1 hl hF;clear h1 hl hF;go_in;go_wp2;go_loopw [5,8] (fun _ v wr=>∃k:Nat,v=.int .i64 k/\k<=n/\Hid (ϐ w wr/\∀j (h:j<l.length),j<k->¬p l[j])) (fun _ v _=>n-(intOf v).toNat)
 ·exact⟨0,rfl,zero_le _,Below.refl _ _,fun j _ h=>by omega⟩
 obtain⟨k,rfl,hk,HL⟩:=hrel;by_cases aq:k<n
 case neg=>
  obtain rfl:k=n:=by omega
  have HZ:Hid ((0:Int)<=-1↔∃x∈l,p x):=⟨fun h=>by omega,fun ⟨x,hx,hp⟩=>by
   obtain⟨j,hj,rfl⟩:=getElem_of_mem hx
   exact absurd hp (HL.o.2 j hj (by have:=H.o.2.1;omega))⟩
  go_wp2;go_ret;exact⟨_,rfl,HZ.o,HL.o.1⟩
 have hkl:k<l.length:=by rw[H.o.2.1];exact aq
 obtain⟨g1,o1,rfl,_,x0,x1⟩:=(H.o.1.below HL.o.1).get k hkl;have HF:=hid (H.o.2.2 l[k] wr HL.o.1);have HS:Hid (¬p l[k]->∀j (h:j<l.length),j<k+1->¬p l[j]):=fun h j hj hjk=>by
  by_cases e:j=k
  ·subst e;exact h
  exact HL.o.2 j hj (by omega)
 have HY:Hid (p l[k]->((0:Int)<=k↔∃x∈l,p x)):=fun h=>⟨fun _=>⟨_,getElem_mem hkl,h⟩,fun _=>by omega⟩
 have i1:(k:Int)<n:=by omega
 generalize l[k]=x at x0 x1 HF HS HY;clear hkl;go_wp2_with fail;refine HF.o.mono ?_;rintro e w2 ⟨y,hy,rfl,b2⟩;have H2:=ζ (HL.o.1.trans (b2.mono HL.o.1.size)) hy;clear b2 hy HF x0 x1;rcases y with _|_
 ·have HZ:=hid (HS.o (fun h=>by have:=H2.o.2.2 h;cases this));go_wp2;go_roundw
  ·exact⟨k+1,by go_num,by omega,H2.o.1,HZ.o⟩
  simp[intOf];omega
 have HZ:=hid (HY.o (H2.o.2.1 rfl));go_wp2;go_ret;exact⟨_,rfl,HZ.o,H2.o.1⟩
theorem znq(fn:Nat)(uU:∀(args:Array Value) (W:World),(callFunc fn args).run prog W=.ok (.enter fn args) W)(p:Sy->Prop)(n c b:Nat)(a:Option Addr)(l:List Sy)(hl:l.length=n)(hn:n<=9223372036854775807)(w:World)(h1:qF w a l)
  (hF:∀(x:Sy) W,ϐ w W->Calls prog fn #[.agg #[.bool x.s,.int .i64 x.n],.pointer (some ⟨b,0,none⟩)] W (jk (p x) W)):
  Calls prog 71 #[.slice a n c,.func (.func fn) #[] #[.pointer (some ⟨b,0,none⟩)]] w (jk (∃x∈l,p x) w):=by
 have HI:=hid (znp fn uU p n c b a l hl hn w h1 hF);clear h1 hl hF uU;go_in;go_wp2_with (go_at_call 87;refine HI.o.mono ?_);rintro e w2 ⟨r,rfl,hr,b2⟩;have HZ:Hid (jk (∃x∈l,p x) w (.returned (.bool (decide (0<=r)))) w2):=⟨_,by rw[decide_eq_true_iff];exact hr,rfl,b2⟩
 clear hr b2 HI;go_wp2;go_ret;exact HZ.o
theorem znr(fn:Nat)(uU:∀(args:Array Value) (W:World),(callFunc fn args).run prog W=.ok (.enter fn args) W)(p:Int->Prop)(n c:Nat)(a:Option Addr)(l:List Int)(hl:l.length=n)(hn:n<=9223372036854775807)(w:World)(h1:iP w a l)
  (hF:∀(x:Int) W,ϐ w W->Calls prog fn #[.int .i64 x] W (jk (p x) W)):
  Calls prog 88 #[.slice a n c,.func (.func fn) #[] #[]] w (fun e w'=>∃r:Int,e=.returned (.int .i64 r)/\(0<=r↔∃x∈l,p x)/\ϐ w w'):=by
 have H:=ξ h1 hl hF;clear h1 hl hF;go_in;go_wp2;go_loopw [5,8] (fun _ v wr=>∃k:Nat,v=.int .i64 k/\k<=n/\Hid (ϐ w wr/\∀j (h:j<l.length),j<k->¬p l[j])) (fun _ v _=>n-(intOf v).toNat)
 ·exact⟨0,rfl,zero_le _,Below.refl _ _,fun j _ h=>by omega⟩
 obtain⟨k,rfl,hk,HL⟩:=hrel;by_cases aq:k<n
 case neg=>
  obtain rfl:k=n:=by omega
  have HZ:Hid ((0:Int)<=-1↔∃x∈l,p x):=⟨fun h=>by omega,fun ⟨x,hx,hp⟩=>by
   obtain⟨j,hj,rfl⟩:=getElem_of_mem hx
   exact absurd hp (HL.o.2 j hj (by have:=H.o.2.1;omega))⟩
  go_wp2;go_ret;exact⟨_,rfl,HZ.o,HL.o.1⟩
 have hkl:k<l.length:=by rw[H.o.2.1];exact aq
 obtain⟨g1,o1,rfl,_,x0⟩:=(H.o.1.below HL.o.1).get k hkl;have HF:=hid (H.o.2.2 l[k] wr HL.o.1);have HS:Hid (¬p l[k]->∀j (h:j<l.length),j<k+1->¬p l[j]):=fun h j hj hjk=>by
  by_cases e:j=k
  ·subst e;exact h
  exact HL.o.2 j hj (by omega)
 have HY:Hid (p l[k]->((0:Int)<=k↔∃x∈l,p x)):=fun h=>⟨fun _=>⟨_,getElem_mem hkl,h⟩,fun _=>by omega⟩
 have i1:(k:Int)<n:=by omega
 generalize l[k]=x at x0 HF HS HY;clear hkl;go_wp2_with fail;refine HF.o.mono ?_;rintro e w2 ⟨y,hy,rfl,b2⟩;have H2:=ζ (HL.o.1.trans (b2.mono HL.o.1.size)) hy;clear b2 hy HF x0;rcases y with _|_
 ·have HZ:=hid (HS.o (fun h=>by have:=H2.o.2.2 h;cases this));go_wp2;go_roundw
  ·exact⟨k+1,by go_num,by omega,H2.o.1,HZ.o⟩
  simp[intOf];omega
 have HZ:=hid (HY.o (H2.o.2.1 rfl));go_wp2;go_ret;exact⟨_,rfl,HZ.o,H2.o.1⟩
theorem zns(fn:Nat)(uU:∀(args:Array Value) (W:World),(callFunc fn args).run prog W=.ok (.enter fn args) W)(p:Int->Prop)(n c:Nat)(a:Option Addr)(l:List Int)(hl:l.length=n)(hn:n<=9223372036854775807)(w:World)(h1:iP w a l)
  (hF:∀(x:Int) W,ϐ w W->Calls prog fn #[.int .i64 x] W (jk (p x) W)):
  Calls prog 73 #[.slice a n c,.func (.func fn) #[] #[]] w (jk (∃x∈l,p x) w):=by
 have HI:=hid (znr fn uU p n c a l hl hn w h1 hF);clear h1 hl hF uU;go_in;go_wp2_with (go_at_call 88;refine HI.o.mono ?_);rintro e w2 ⟨r,rfl,hr,b2⟩;have HZ:Hid (jk (∃x∈l,p x) w (.returned (.bool (decide (0<=r)))) w2):=⟨_,by rw[decide_eq_true_iff];exact hr,rfl,b2⟩
 clear hr b2 HI;go_wp2;go_ret;exact HZ.o
theorem zfq(G:Gr)(i:Nat)(hi:i<G.P.length)(w:World)(hA:G.At w)(hL:G.mE 1000000):
  Calls prog 55 #[G.val,.int .i64 i] w (Bl (eV G i) w):=by
 show Calls prog 55 #[ϑ G,.int .i64 i] w _;unfold ϑ;obtain⟨g,o,eP,eR⟩:=zit hA (by omega);have tT:=ζ eR eP;obtain⟨x,hx⟩:=Ξ (lh G i)
 have Hx:=hid hx;have rq:=hL.ps i hi;rw[<-DD hi,hx] at rq;have yI:=(eR w (Below.refl _ _) i hi).1;rw[hx] at yI;have HA:=ξ hA hL yI;have Ci:=hL.p;have ze:Hid (∀W,ϐ w W->Calls prog 20 #[.agg #[.int .i64 x.dF,.string x.dR,.slice x.ab x.body.length x.cb,.bool x.par,.int .i64 x.prec,.slice x.ah x.hints.length x.ch]] W (rH (ep x) W)):=fun W k=>zjC x W (yI.below k) (by have:=rq.2.1;omega)
 have vT:Hid (∀(y:Sy) W,ϐ w W->Calls prog 14 #[ϑ G,.agg #[.bool y.s,.int .i64 y.n]] W (rH (eH G y) W)):=fun y W k=>MN G y W (hA.below k) (hL.mono (by omega))
 have Kr:Hid (∀W,ϐ w W->Calls prog 23 #[ϑ G,.string x.dR] W (Bx G.P (fun y=>y.dR=x.dR) W)):=fun W k=>zlb G x.dR W (hA.below k) (by omega)
 have Xd:Hid (∀(b:Nat) W,ϐ w W->jJ W b G->Calls prog 71 #[.slice x.ab x.body.length x.cb,.func (.func 72) #[] #[.pointer (some ⟨b,0,none⟩)]] W (jk (∃y∈x.body,eH G y=false) W)):=fun b W k hG=>znq 72 znn (fun y=>eH G y=false) x.body.length x.cb b x.ab x.body rfl (by have:=rq.2.1;omega) W (yI.below k).b (fun y W' k'=>zpO G y b W' (hA.below (k.trans (k'.mono k.size))) (hL.mono (by omega)) (hG.below k'))
 have Wc:Hid (∀W,ϐ w W->Calls prog 73 #[.slice x.ah x.hints.length x.ch,.func (.func 74) #[] #[]] W (jk (∃z∈x.hints,z<0\/3<z) W)):=fun W k=>zns 74 zno (fun z=>z<0\/3<z) x.hints.length x.ch x.ah x.hints rfl (by have:=rq.2.2;omega) W (yI.below k).h (fun z W' _=>zpN z W')
 have Bm:∀(fn:Fn) (first cap:Array Value) (w:World),(Instr.makeFunc fn first cap).run prog w=.ok (.func fn first cap) w:=fun _ _ _ _=>rfl
 clear hA hL eR eP hx yI;obtain⟨w2,dQ,H,ib⟩:=xJ w G;go_in;go_upto_region 1 with fail
 try rw[dQ]
 clear dQ;obtain⟨b,hb⟩:=Ξ w.heap.size
 have HX:Hid (eU w b G w2):=by rw[<-hb];exact H.o
 have cQ:w2.heap.size=b+1:=by rw[<-hb];exact ib.o
 rw[hb];clear hb H ib;obtain⟨n,hn⟩:=Ξ G.P.length
 have HN:=hid hn;have c2:=HX.o.1.c2;rw[hn,tT.o.2] at c2;have i0:(i:Int)<n:=by omega
 obtain⟨_,x0,x1,x2,x3,x4,x5⟩:=tT.o.1 w2 HX.o.2 i hi;rw[Hx.o] at x0 x1 x2 x3 x4 x5;rw[hn] at Ci;clear hn;obtain⟨w3,ue⟩:=Ξ (w2.alloc (.cells #[.int .i64 x.dF,.string x.dR,.slice x.ab x.body.length x.cb,.bool x.par,.int .i64 x.prec,.slice x.ah x.hints.length x.ch] 47))
 have HY:Hid (y9 w b G x w3):=by
  have k1:=al w2 (.cells #[.int .i64 x.dF,.string x.dR,.slice x.ab x.body.length x.cb,.bool x.par,.int .i64 x.prec,.slice x.ah x.hints.length x.ch] 47);have p1:=pJ.new w2 x 47;rw[ue] at k1 p1;rw[cQ] at p1;exact⟨HX.o.1.below k1,p1,HX.o.2.trans (k1.mono HX.o.2.size)⟩
 go_upto_region 2 with fail
 try rw[ue]
 try rw[cQ]
 clear ue x0 x1 x2 x3 x4 x5 c2 cQ HX;have uI:Hid (∀z:Int,eV G i=z->∀W,ϐ w W->Bl (eV G i) w (.returned (.int .i64 z)) W):=fun z h W k=>⟨by rw[h],k⟩
 have kd:ϐ w3 w3.drew:=⟨rfl,rfl,rfl,le_refl _,fun _ _=>rfl⟩
 have Vk:=hid (HY.o.ae kd);clear kd HY;generalize zy:w3.drew=w4 at Vk;refine wp_region_held_drew (S:=fun W'=>y9 w b G x W') (by kernel_rfl) (by rw[zy];exact Vk.o) fun η=>?_;rw[zy] at η⊢;clear zy Vk;obtain⟨bo,ku⟩:=Ξ (eH G ⟨true,x.dF⟩)
 have Li:=hid ku;have Ma:Hid (∀W,ϐ w W->Calls prog 14 #[ϑ G,.agg #[.bool true,.int .i64 x.dF]] W (rH bo W)):=by rw[<-ku];exact vT.o ⟨true,x.dF⟩
 clear ku;refine cq 0 (v:=ϑ G) ?_;refine cq 1 ?_;refine cq 2 ?_
 try simp only[Act.put,sA]
 refine bH 3 (fun K hK=>?_);go_simp;go_at_call 30;refine (AA _ _).mono ?_;rintro e w8 ⟨rfl,b8⟩;have bQ:=η.ae b8;clear b8 η
 try go_wp2_with fail
 refine hK.out _ _ bQ fun η=>?_;clear hK K bQ
 try simp only[Act.put,sA]
 refine bH 4 (fun K hK=>?_);go_simp;go_at_call 14;refine (Ma.o _ η.2.2).mono ?_;rintro e w8 ⟨rfl,b8⟩;have bQ:=η.ae b8;clear b8 η
 try go_wp2_with fail
 refine hK.out _ _ bQ fun η=>?_;clear hK K bQ
 try simp only[Act.put,sA]
 refine cq 5 ?_;refine cq 6 ?_;refine wpAnyH_done (by kernel_rfl) ?_ _;have fC:Hid (bo=true↔¬(x.dF<0\/(G.S.length:Int)<=x.dF)):=by
  show _↔_;rw[<-Li.o,show eH G ⟨true,x.dF⟩=yJ G x.dF from rfl,Mn];simp only[Bool.and_eq_true,decide_eq_true_eq];omega
 have oB:=hid η;clear η Ma Li;cases bo with
 | false=>
  have HZ:=hid (uI.o 11 (Vt Hx.o (Classical.byContradiction fun h=>by have:=fC.o.2 h;cases this)) _ oB.o.2.2);go_wp2;go_ret;exact HZ.o
 | true=>
 have H1:=hid (fC.o.1 rfl);have zY:=rq.2.1;have Vv:=rq.2.2;have ud:=rq.1;clear rq;generalize hW:w8=W4 at oB⊢;clear hW;have p1:=oB.o.2.1.c1;have uu:=hid (Tl x.dR W4 (by unfold maxLen;omega));clear fC;go_upto_region 4 with fail;cases hT:bG x.dR with
 | false=>
  rw[hT] at uu;have HZ:=hid (uI.o 8 (Yh Hx.o H1.o hT) _ oB.o.2.2);clear hT;go_wp2_with (go_at_call 70;refine uu.o.mono ?_;rintro e w5 ⟨rfl,rfl⟩);go_ret;exact HZ.o
 | true=>
 rw[hT] at uu;have HT:=hid hT;clear hT;go_upto_region 6 with (go_at_call 70;refine uu.o.mono ?_;rintro e w5 ⟨rfl,rfl⟩);clear uu p1;have p2:=oB.o.2.1.c2;have p5:=oB.o.2.1.c5;by_cases AN:12<x.body.length
 ·have i12:(12:Int)<(x.body.length:Int):=by omega
  have HZ:=hid (uI.o 6 (zrf Hx.o H1.o HT.o AN) _ oB.o.2.2);clear AN;go_wp2;go_ret;exact HZ.o
 have i12:¬(12:Int)<(x.body.length:Int):=by omega
 obtain⟨bh,sb⟩:=Ξ (decide (x.hints.length≠x.body.length-1))
 go_upto_region 8 with fail
 go_cut [28] from 29 to 37 (fun v wx=>v=.bool bh/\wx=W4)
 case first=>
  by_cases hc:0<x.body.length
  ·have j3:(0:Int)<=(x.body.length:Int)-1:=(by omega);have j8:max ((x.body.length:Int)-1) 0=(x.body.length:Int)-1:=(by omega);have j4:((x.hints.length:Int) != (x.body.length:Int)-1)=bh:=by
    rw[<-sb,Bool.eq_iff_iff];simp only[bne_iff_ne,ne_eq,decide_eq_true_eq];omega
   clear sb;go_wp2_with fail
   go_meet
   exact⟨rfl,rfl⟩
  have j3:(x.body.length:Int)-1<0:=by omega
  have j8:max ((x.body.length:Int)-1) 0=0:=by omega
  have j4:((x.hints.length:Int) != 0)=bh:=by
   rw[<-sb,Bool.eq_iff_iff];simp only[bne_iff_ne,ne_eq,decide_eq_true_eq];omega
  clear sb;go_wp2_with fail
  go_meet
  exact⟨rfl,rfl⟩
 case rest=>
 obtain⟨rfl,rfl⟩:=hcut;cases bh with
 | true=>
  have HZ:=hid (uI.o 1 (ZN Hx.o H1.o HT.o AN (by simpa using sb)) _ oB.o.2.2);clear sb;go_wp2;go_ret;exact HZ.o
 | false=>
 have qv:=hid (R3 Hx.o H1.o HT.o AN (by simpa using sb));clear sb AN i12 p2 p5;have c0:=oB.o.1.c0;have c1:=oB.o.1.c1;have c2:=oB.o.1.c2;have c3:=oB.o.1.c3;have c4:=oB.o.1.c4;have p1:=oB.o.2.1.c1;have Lj:=hid (Kr.o _ oB.o.2.2);go_wp2_with (go_at_call 23;refine Lj.o.mono ?_;rintro e w5 ⟨r,rfl,hr,b5⟩;refine Hid.o ?_);refine hid ?_;have FW:=hid (oB.o.ae b5);have HQ:Hid (r<(i:Int)↔∃k,k<i/\(lh G k).dR=x.dR):=by
  show _↔_;rw[zq9 hr hi (by rw[<-DD hi,Hx.o])];constructor
  ·rintro⟨k,hk,h⟩;exact⟨k,hk,by rw[DD (by omega)];exact h⟩
  rintro⟨k,hk,h⟩;exact⟨k,hk,by rw[DD (by omega)] at h;exact h⟩
 clear c0 c1 c2 c3 c4 p1 Lj b5 hr Kr oB;by_cases PJ:r<(i:Int)
 ·have HZ:=hid (uI.o 9 (by rw[qv.o,if_pos (HQ.o.1 PJ)]) _ FW.o.2.2);clear HQ;go_wp2;go_ret;exact HZ.o
 have FD:Hid (eV G i=(open Classical in if (∃y∈x.body,eH G y=false) then 11 else if (∃z∈x.hints,z<0\/3<z) then 1
     else if x.prec≠-1/\gW G x.prec=false then 11 else if x.par=true/\ep x=false then 15 else 0)):=by
  show _=_
  rw[qv.o,if_neg (fun h=>PJ (HQ.o.2 h))]
 clear HQ qv;have p2:=FW.o.2.1.c2;have pt:=hid (Xd.o b _ FW.o.2.2 FW.o.1);go_upto_region 12 with fail;go_wp2_with (go_at_call 71;refine pt.o.mono ?_;rintro e w6 ⟨bo,ku,rfl,b6⟩;refine Hid.o ?_);refine hid ?_;have CZ:=hid (FW.o.ae b6);clear p2 pt b6 Xd FW PJ;cases bo with
 | true=>
  have HZ:=hid (uI.o 11 (by rw[FD.o,if_pos (ku.1 rfl)]) _ CZ.o.2.2);clear ku;go_wp2;go_ret;exact HZ.o
 | false=>
 have uE:Hid (eV G i=(open Classical in if (∃z∈x.hints,z<0\/3<z) then 1
     else if x.prec≠-1/\gW G x.prec=false then 11 else if x.par=true/\ep x=false then 15 else 0)):=by
  show _=_
  rw[FD.o,if_neg (fun h=>by have:=ku.2 h;cases this)]
 clear ku FD;have p5:=CZ.o.2.1.c5;have VZ:=hid (Wc.o _ CZ.o.2.2);go_wp2_with (go_at_call 73;refine VZ.o.mono ?_;rintro e w7 ⟨bo,ku,rfl,b7⟩;refine Hid.o ?_);refine hid ?_;have lJ:=hid (CZ.o.ae b7);clear p5 VZ b7 Wc CZ;cases bo with
 | true=>
  have HZ:=hid (uI.o 1 (by rw[uE.o,if_pos (ku.1 rfl)]) _ lJ.o.2.2);clear ku;go_wp2;go_ret;exact HZ.o
 | false=>
 have yB:Hid (eV G i=(open Classical in if x.prec≠-1/\gW G x.prec=false then 11 else if x.par=true/\ep x=false then 15 else 0)):=by
  show _=_;rw[uE.o,if_neg (fun h=>by have:=ku.2 h;cases this)]
 clear ku uE;have c0:=lJ.o.1.c0;have c1:=lJ.o.1.c1;have c2:=lJ.o.1.c2;have c3:=lJ.o.1.c3;have c4:=lJ.o.1.c4;have p3:=lJ.o.2.1.c3;have p4:=lJ.o.2.1.c4;obtain⟨pb,DN⟩:∃pb:Bool,decide (x.prec≠-1/\gW G x.prec=false)=pb:=⟨_,rfl⟩
 obtain⟨hb,kZ⟩:=Ξ (gW G x.prec)
 have E3:Hid (Calls prog 14 #[ϑ G,.agg #[.bool false,.int .i64 x.prec]] w7 (rH hb w7)):=by rw[<-kZ];exact vT.o ⟨false,x.prec⟩ w7 lJ.o.2.2
 by_cases GW:x.prec=-1
 case neg=>
  have j1:(x.prec != -1)=true:=by simp[GW]
  go_wp2_with (go_at_call 14;refine E3.o.mono ?_;rintro e w8 ⟨rfl,b8⟩;refine Hid.o ?_)
  refine hid ?_
  have wI:=hid (lJ.o.ae b8)
  clear c0 c1 c2 c3 c4 p3 p4 b8 E3
  cases hb with
  | false=>
   have HZ:=hid (uI.o 11 (by rw[yB.o,if_pos ⟨GW,kZ⟩]) _ wI.o.2.2);clear kZ DN;go_wp2;go_ret;exact HZ.o
  | true=>
  have qu:Hid (eV G i=(open Classical in if x.par=true/\ep x=false then 15 else 0)):=by
   show _=_;rw[yB.o,if_neg (fun h=>by rw[kZ] at h;cases h.2)]
  clear kZ DN yB
  have q0:=wI.o.2.1.c0
  have q1:=wI.o.2.1.c1
  have q2:=wI.o.2.1.c2
  have q3:=wI.o.2.1.c3
  have q4:=wI.o.2.1.c4
  have q5:=wI.o.2.1.c5
  by_cases tw:x.par=true
  case neg=>
   have HZ:=hid (uI.o 0 (by rw[qu.o,if_neg (fun h=>tw h.1)]) _ wI.o.2.2);have j2:x.par=false:=(by simpa using tw);rw[j2] at q3;clear tw;go_wp2;go_ret;exact HZ.o
  rw[tw] at q3
  obtain⟨eb,zK⟩:=Ξ (ep x)
  have EG:=hid (ze.o _ wI.o.2.2)
  rw[tw,zK] at EG
  have UC:=hid tw
  clear tw
  go_wp2_with (go_at_call 20;refine EG.o.mono ?_;rintro e w9 ⟨rfl,b9⟩;refine Hid.o ?_)
  refine hid ?_
  have Ko:=hid (wI.o.ae b9)
  clear q0 q1 q2 q3 q4 q5 b9 EG
  cases eb with
  | false=>
   have HZ:=hid (uI.o 15 (by rw[qu.o,if_pos ⟨UC.o,zK⟩]) _ Ko.o.2.2);clear zK;go_wp2;go_ret;exact HZ.o
  | true=>
   have HZ:=hid (uI.o 0 (by rw[qu.o,if_neg (fun h=>by rw[zK] at h;cases h.2)]) _ Ko.o.2.2);clear zK;go_wp2;go_ret;exact HZ.o
 have j1:(x.prec != -1)=false:=by simp[GW]
 have qu:Hid (eV G i=(open Classical in if x.par=true/\ep x=false then 15 else 0)):=by
  show _=_;rw[yB.o,if_neg (fun h=>h.1 GW)]
 have Hpr:=hid GW;clear GW kZ DN yB c0 c1 c2 c3 c4 E3;have q0:=lJ.o.2.1.c0;have q1:=lJ.o.2.1.c1;have q2:=lJ.o.2.1.c2;have q3:=lJ.o.2.1.c3;have q4:=lJ.o.2.1.c4;have q5:=lJ.o.2.1.c5;by_cases tw:x.par=true
 case neg=>
  have HZ:=hid (uI.o 0 (by rw[qu.o,if_neg (fun h=>tw h.1)]) _ lJ.o.2.2);have j2:x.par=false:=by simpa using tw
  rw[j2] at q3;clear tw;go_wp2;go_ret;exact HZ.o
 rw[tw] at q3;obtain⟨eb,zK⟩:=Ξ (ep x)
 have EG:=hid (ze.o _ lJ.o.2.2);rw[tw,zK] at EG;have UC:=hid tw;clear tw;go_wp2_with (go_at_call 20;refine EG.o.mono ?_;rintro e w9 ⟨rfl,b9⟩;refine Hid.o ?_);refine hid ?_;have Ko:=hid (lJ.o.ae b9);clear q0 q1 q2 q3 q4 q5 b9 EG;cases eb with
 | false=>
  have HZ:=hid (uI.o 15 (by rw[qu.o,if_pos ⟨UC.o,zK⟩]) _ Ko.o.2.2);clear zK;go_wp2;go_ret;exact HZ.o
 | true=>
  have HZ:=hid (uI.o 0 (by rw[qu.o,if_neg (fun h=>by rw[zK] at h;cases h.2)]) _ Ko.o.2.2);clear zK;go_wp2;go_ret;exact HZ.o
def AZ(l:List Int):List Value:=l.map fun z=>.int .i64 z
theorem zq6{a:Option Addr}{c:Nat}{l:List Int}(h:w.ownsRow B 3 1 (.slice a n c) n (AZ l))(hl:l.length=n):iP w a l:=by
 intro h0;obtain⟨g,e,_,hg,hc⟩:=fG h (by omega);refine⟨g,0,e,hg,fun j hj=>?_⟩;rw[Nat.zero_add,(hc j (by omega)).1];simp[AZ,hj]
def zq7(l:List ByteArray)(s:ByteArray)(w:World)(e:Ending)(w':World):Prop:=e=.returned (.int .i64 (Am l s))/\w'=w
theorem zjE(l:List ByteArray)(s:ByteArray)(n c:Nat)(a:Option Addr)(hn:l.length=n)(nU:n<=1000000)(w:World)(h1:tC w a l):
  Calls prog 42 #[.slice a n c,.string s] w (zq7 l s w):=by
 have H:=ζ h1 hn;clear h1 hn;go_in;go_wp2;go_loopw [5,8] (fun _ v wr=>∃k:Nat,v=.int .i64 k/\k<=n/\wr=w/\Hid (∀j (h:j<l.length),j<k->l[j]≠s)) (fun _ v _=>n-(intOf v).toNat)
 ·exact⟨0,rfl,zero_le _,rfl,fun j _ h=>absurd h (by omega)⟩
 obtain⟨k,rfl,hk,rfl,HX⟩:=hrel;by_cases aq:k<n
 ·have dV:k<l.length:=by rw[H.o.2];exact aq
  obtain⟨g1,o1,rfl,_,q1⟩:=H.o.1 (by omega);have x1:=q1 k dV;have HN:Hid ((l[k]≠s->∀j (h:j<l.length),j<k+1->l[j]≠s)/\(l[k]=s->Am l s=(k:Int))):=by
   refine⟨fun h j hj h3=>?_,fun h=>zrk dV h HX.o⟩;by_cases e:j=k
   ·subst e;exact h
   exact HX.o j hj (by omega)
  have i2:(k:Int)<n:=by omega
  clear q1;generalize l[k]=u at x1 HN;have qd:=IB s u;rcases hE:(s.toList == u.toList) with _|_
  ·rw[hE] at qd;have hne:u≠s:=(fun e=>by simp[e] at qd);have HZ:=hid (HN.o.1 hne)
   try clear hne
   clear qd HN dV;go_wp2;go_roundw
   ·exact⟨k+1,by go_num,by omega,by first|trivial|rfl,HZ.o⟩
   simp[intOf];omega
  rw[hE] at qd;have oK:s=u:=by simpa using qd
  have HZ:=hid (HN.o.2 oK.symm)
  try clear oK
  try clear hne
  clear qd HN dV;go_wp2;go_ret;exact⟨by rw[HZ.o];rfl,rfl⟩
 obtain rfl:k=n:=by omega
 have HZ:Hid (Am l s=-1):=zrl (fun j hj=>HX.o j hj (by rw[<-H.o.2];exact hj));go_wp2;go_ret;exact⟨by rw[HZ.o];rfl,rfl⟩
theorem zq8{s:ByteArray}(hr:∀j (h:j<G.R.length),G.R[j].nm≠s):(Am G.S s=-1/\sy G s=(⟨false,0⟩,false))\/∃k:Nat,Am G.S s=(k:Int)/\sy G s=(⟨true,(k:Int)⟩,true):=by
 have h1:=M6 (s:=s) (l:=G.R.map Ru.nm) (fun j hj=>by simp at hj⊢;exact hr j hj);have e1:sy G s=if qS s G.S<G.S.length then (⟨true,((qS s G.S:Nat):Int)⟩,true) else (⟨false,0⟩,false):=by
  unfold sy;rw[h1,List.length_map,if_neg (by omega)]
 rw[e1];unfold Am;by_cases h:qS s G.S<G.S.length
 ·right;exact⟨_,if_pos h,if_pos h⟩
 left;exact⟨if_neg h,if_neg h⟩
def Gm(w:World)(b:Nat)(G:Gr)(wr:World):Prop:=jJ wr b G/\wr.heap[b+1]?=some (.cells #[.bool false,.int .i64 0] 38 (0,0))/\ϐ w wr/\b+1<wr.heap.size/\w.heap.size<=b
theorem Gm.ae{b:Nat}(h:Gm w b G wr)(k:ϐ wr w'):Gm w b G w':=⟨h.1.below k,(k.block _ h.2.2.2.1).trans h.2.1,h.2.2.1.trans (k.mono h.2.2.1.size),lt_of_lt_of_le h.2.2.2.1 k.size,h.2.2.2.2⟩
theorem Gm.put{b:Nat}(h:Gm w b G wr)(d0 d1:Value):ϐ w ((wr.setCell ⟨b+1,0,none⟩ d0).setCell ⟨b+1,1,none⟩ d1):=(h.2.2.1.setCell (p:=⟨b+1,0,none⟩) (by have:=h.2.2.2.2;show w.heap.size<=b+1;omega) d0).setCell (p:=⟨b+1,1,none⟩) (by have:=h.2.2.2.2;show w.heap.size<=b+1;omega) d1
theorem zjF(G:Gr)(s:ByteArray)(w:World)(hA:G.At w)(hL:G.mE 1000000):
  Calls prog 12 #[G.val,.string s] w (SX G s w):=by
 show Calls prog 12 #[ϑ G,.string s] w _;unfold ϑ;have HA:=ζ hA hL;clear hA hL;obtain⟨w2,dQ,H,ib⟩:=Dy w G #[.bool false,.int .i64 0] 38;go_in;go_upto_region 1 with fail
 try rw[dQ]
 clear dQ;obtain⟨b,hb⟩:=Ξ w.heap.size
 have HX:Hid (Gm w b G w2):=by
  have h8:=ib.o;rw[<-hb];exact⟨H.o.1,H.o.2.1,H.o.2.2,by omega,le_refl _⟩
 rw[hb];clear hb H ib;have c0:=HX.o.1.c0;have HF:=hid (Yi G.R.length G.cR G.aR G.R s rfl (by have:=HA.o.2.r;omega) w2 (HA.o.1.below HX.o.2.2.1).r);go_wp2_with (go_at_call 41;refine HF.o.mono ?_);rintro e w3 ⟨r,rfl,hr,b3⟩;have ew:=hid (HX.o.ae b3);clear HX b3 HF c0;rcases hr with ⟨rfl,hn⟩|⟨i,hi,rfl,hs,hn⟩
 ·have HI:=hid (zjE G.S s G.S.length G.cS G.aS rfl HA.o.2.s w3 (HA.o.1.below ew.o.2.2.1).s);have HQ:=hid (zq8 hn);have c1:=ew.o.1.c1;clear hn;go_wp2_with (go_at_call 42;refine HI.o.mono ?_);rintro e w4 ⟨rfl,rfl⟩;clear HI;rcases HQ.o with ⟨h1,h2⟩|⟨k,h1,h2⟩
  ·rw[h1];have HZ:=hid h2;have f0:w4.frozen? ⟨b+1,0,none⟩=false:=frozen_of_row w4 _ 0 _ _ ew.o.2.1;have f1:w4.frozen? ⟨b+1,1,none⟩=false:=frozen_of_row w4 _ 1 _ _ ew.o.2.1;have t0:w4.cell? ⟨b+1,0,none⟩=some (.bool false):=(by rw[cell_of_row w4 _ 0 _ _ _ ew.o.2.1];rfl);have t1:w4.cell? ⟨b+1,1,none⟩=some (.int .i64 0):=(by rw[cell_of_row w4 _ 1 _ _ _ ew.o.2.1];rfl);obtain⟨q0,q1⟩:=Qr ew.o.2.1 (.bool false) (.int .i64 0);clear h1 h2 HQ c1;go_wp2_with fail;exact bodyPost_ret (v:=.tuple #[.agg #[.bool false,.int .i64 0],.bool false]) (by simp[results,results12,go_sem,q0,q1]) rfl ⟨by rw[HZ.o];rfl,ew.o.put _ _⟩
  rw[h1];have HZ:=hid h2;have HO:=hid (AA (k:Int) w4);have i9:(0:Int)<=k:=by omega
  clear h1 h2 HQ c1;go_wp2_with (go_at_call 30;refine HO.o.mono ?_;rintro e w5 ⟨rfl,b5⟩;refine Hid.o ?_);refine hid ?_;have ob:=hid (ew.o.ae b5);clear b5 HO;have f0:w5.frozen? ⟨b+1,0,none⟩=false:=frozen_of_row w5 _ 0 _ _ ob.o.2.1;have f1:w5.frozen? ⟨b+1,1,none⟩=false:=frozen_of_row w5 _ 1 _ _ ob.o.2.1;have t0:w5.cell? ⟨b+1,0,none⟩=some (.bool false):=by rw[cell_of_row w5 _ 0 _ _ _ ob.o.2.1];rfl
  have t1:w5.cell? ⟨b+1,1,none⟩=some (.int .i64 0):=by rw[cell_of_row w5 _ 1 _ _ _ ob.o.2.1];rfl
  obtain⟨q0,q1⟩:=Qr ob.o.2.1 (.bool true) (.int .i64 k);go_wp2_with fail;exact bodyPost_ret (v:=.tuple #[.agg #[.bool true,.int .i64 k],.bool true]) (by simp[results,results12,go_sem,q0,q1]) rfl ⟨by rw[HZ.o];rfl,ob.o.put _ _⟩
 have HZ:=hid (zrZ hi hs hn);have i9:(0:Int)<=i:=by omega
 have f0:w3.frozen? ⟨b+1,0,none⟩=false:=frozen_of_row w3 _ 0 _ _ ew.o.2.1;have f1:w3.frozen? ⟨b+1,1,none⟩=false:=frozen_of_row w3 _ 1 _ _ ew.o.2.1;have t0:w3.cell? ⟨b+1,0,none⟩=some (.bool false):=by rw[cell_of_row w3 _ 0 _ _ _ ew.o.2.1];rfl
 have t1:w3.cell? ⟨b+1,1,none⟩=some (.int .i64 0):=by rw[cell_of_row w3 _ 1 _ _ _ ew.o.2.1];rfl
 obtain⟨q0,q1⟩:=Qr ew.o.2.1 (.bool false) (.int .i64 i);clear hi hs hn;go_wp2_with fail;exact bodyPost_ret (v:=.tuple #[.agg #[.bool false,.int .i64 i],.bool true]) (by simp[results,results12,go_sem,q0,q1]) rfl ⟨by rw[HZ.o];rfl,ew.o.put _ _⟩
def rO(q:Int->Int->Prop)(w:World)(e:Ending)(w':World):Prop:=∃a b:Int,e=.returned (.tuple #[.int .i64 a,.int .i64 b])/\q a b/\ϐ w w'
def pY(f:Nat->Int)(n m:Nat)(a e:Int):Prop:=(m<n/\e=6/\a=(n:Int))\/(n<=m/\ma f n=e/\(e≠0->a=(CO f n:Int)))
theorem Wh{s:ByteArray}{l:List ByteArray}{j:Nat}(hj:j<l.length)(h:l[j]=s):qS s l<=j:=by
 induction l generalizing j with
 | nil=>simp at hj
 | cons a l ih=>
  simp only[qS];split
  ·omega
  rename_i h1;cases j with
  | zero=>exact absurd h h1
  | succ j=>
   simp at hj h;have:=ih hj h;omega
theorem zpP(hk:k<G.S.length)(hn:bG (mN G k)=true):((sy G G.S[k]).1=⟨true,(k:Int)⟩->fU G k=0)/\((sy G G.S[k]).1≠⟨true,(k:Int)⟩->fU G k=9):=by
 by_cases hr:∃j,∃h:j<G.R.length,G.R[j].nm=G.S[k]
 ·obtain⟨j,hj,h⟩:=hr;have e9:fU G k=9:=Nw hn (inr ⟨j,hj,by rw[Gv hj,xX hk];exact h⟩);refine⟨fun e=>?_,fun _=>e9⟩;have aq:qS G.S[k] (G.R.map Ru.nm)<G.R.length:=Nat.lt_of_le_of_lt (Wh (j:=j) (by simpa using hj) (by simpa using h)) hj;unfold sy at e;rw[if_pos aq] at e;injection e with e1 e2;cases e1
 have Ut:∀j (h:j<G.R.length),G.R[j].nm≠G.S[k]:=fun j h e=>hr ⟨j,h,e⟩
 by_cases hs:∃j,∃h:j<k,G.S[j]'(by omega)=G.S[k]
 ·obtain⟨j,hj,h⟩:=hs;have e9:fU G k=9:=Nw hn (inl ⟨j,hj,by rw[xX (by omega),xX hk];exact h⟩);refine⟨fun e=>?_,fun _=>e9⟩;have hle:qS G.S[k] G.S<=j:=Wh (by omega) h;have e2:=M6 (s:=G.S[k]) (l:=G.R.map Ru.nm) (fun j hj=>by simp at hj⊢;exact Ut j hj);unfold sy at e;rw[e2,List.length_map,if_neg (by omega),if_pos (by omega)] at e;injection e with e1 e3;omega
 have sX:∀j (h:j<G.S.length),j<k->G.S[j]≠G.S[k]:=fun j h hjk e=>hs ⟨j,hjk,e⟩
 have e0:=zr0 Ut hk rfl sX;have e1:fU G k=0:=Sm hn (fun j hj=>by rw[xX (by omega),xX hk];exact sX j (by omega) hj) (fun j hj=>by rw[Gv hj,xX hk];exact Ut j hj);exact⟨fun _=>e1,fun h=>absurd (by rw[e0]) h⟩
def QR(b:Bool):Int:=if b then 0 else 8
theorem zjG(s:ByteArray)(w:World)(hs:s.size<=maxLen):
  Calls prog 54 #[.string s] w fun e w'=>e=.returned (.int .i64 (QR (bG s)))/\w'=w:=by
 go_in;go_wp2_with fail;refine (Tl s _ hs).mono ?_;rintro e w1 ⟨rfl,rfl⟩;rcases hn:bG s with _|_
 ·have HN:=hid hn;clear hn;go_wp2;go_ret;exact⟨by rw[HN.o];rfl,rfl⟩
 have HN:=hid hn;clear hn;go_wp2;go_ret;exact⟨by rw[HN.o];rfl,rfl⟩
def EC(w:World)(b b7:Nat)(G:Gr)(y:Sy)(wr:World):Prop:=jJ wr b G/\xz wr b7 y/\ϐ w wr
theorem EC.ae{b b7:Nat}{y:Sy}(h:EC w b b7 G y wr)(k:ϐ wr w'):EC w b b7 G y w':=⟨h.1.below k,h.2.1.below k,h.2.2.trans (k.mono h.2.2.size)⟩
theorem zeB(G:Gr)(w:World)(hA:G.At w)(hL:G.mE 1000000):
  Calls prog 27 #[G.val] w (rO (pY (fU G) G.S.length 300) w):=by
 show Calls prog 27 #[ϑ G] w _;unfold ϑ;have HA:=ζ hA hL;have HFd:Hid (∀(s:ByteArray) W,ϐ w W->Calls prog 12 #[ϑ G,.string s] W (SX G s W)):=fun s W k=>zjF G s W (hA.below k) hL
 have tk:=hL.s;clear hA hL;obtain⟨w2,dQ,H,ib⟩:=xJ w G;go_in;go_upto_region 1 with fail
 try rw[dQ]
 clear dQ;obtain⟨b,hb⟩:=Ξ w.heap.size
 have HX:Hid (eU w b G w2):=by rw[<-hb];exact H.o
 rw[hb];clear hb H ib;have c1:=HX.o.1.c1;by_cases h3:300<G.S.length
 ·have i3:(300:Int)<(G.S.length:Int):=by omega
  have HZ:Hid (rO (pY (fU G) G.S.length 300) w (.returned (.tuple #[.int .i64 (G.S.length:Int),.int .i64 6])) w2):=⟨_,_,rfl,inl ⟨h3,rfl,rfl⟩,HX.o.2⟩
  clear h3;go_wp2;go_ret2;exact HZ.o
 have i3:¬((300:Int)<(G.S.length:Int)):=by omega
 have H3:=hid h3;obtain⟨n,hn⟩:=Ξ G.S.length
 have HN:=hid hn;have nU:n<=1000000:=by omega
 rw[hn] at c1 i3;clear hn tk h3;have su:Hid (eU w b G w2/\∀j,j<0->fU G j=0):=⟨HX.o,fun j h=>by omega⟩
 go_wp2;go_loopw [19] (fun v wr=>∃k:Nat,v=.int .i64 (k:Int)/\k<=n/\Hid (eU w b G wr/\∀j,j<k->fU G j=0)) (fun v _=>n-(intOf v).toNat)
 ·exact⟨0,rfl,zero_le _,su.o⟩
 clear su HX c1;obtain⟨k,rfl,hk,HK⟩:=hrel;have c1:=HK.o.1.1.c1;rw[HN.o] at c1;by_cases aq:k<n
 case neg=>
  obtain rfl:k=n:=by omega
  have HZ:Hid (rO (pY (fU G) G.S.length 300) w (.returned (.tuple #[.int .i64 (k:Int),.int .i64 0])) wr):=⟨_,_,rfl,inr ⟨by have:=H3.o;omega,by rw[HN.o];exact tL HK.o.2,fun h=>absurd rfl h⟩,HK.o.1.2⟩
  go_wp2;go_ret2;exact HZ.o
 have dV:k<G.S.length:=by rw[HN.o];exact aq
 obtain⟨g1,o1,e1,jF,y1⟩:=(HA.o.1.below HK.o.1.2).s (by omega);have x0:=y1 k dV;have i1:(k:Int)<n:=by omega
 have HW:Hid (∀W,ϐ w W->fU G k≠0->rO (pY (fU G) G.S.length 300) w (.returned (.tuple #[.int .i64 (k:Int),.int .i64 (fU G k)])) W):=fun W hW h=>by
  obtain⟨f1,f2⟩:=BN (n:=G.S.length) dV HK.o.2 h;exact⟨_,_,rfl,inr ⟨by have:=H3.o;omega,f1,fun _=>by rw[f2]⟩,hW⟩
 have HE:=hid (zjG G.S[k] wr (by have:=HA.o.2.ss k dV;unfold maxLen;omega));have eh:Hid ((bG G.S[k]=true->((sy G G.S[k]).1=⟨true,(k:Int)⟩->fU G k=0)/\((sy G G.S[k]).1≠⟨true,(k:Int)⟩->fU G k=9))/\(bG G.S[k]=false->fU G k=8)):=⟨fun h=>zpP dV (by rw[xX dV];exact h),fun h=>YT (by rw[xX dV];exact h)⟩
 have mJ:=hid e1;rw[e1] at c1⊢;clear y1 e1;generalize G.S[k]=s at x0 HE eh;cases jo:bG s with
 | false=>
  rw[jo] at HE;have Ng:Hid (Calls prog 54 #[.string s] wr fun e w'=>e=.returned (.int .i64 8)/\w'=wr):=HE.o;have h8:=eh.o.2 jo;have HZ:=hid (HW.o wr HK.o.1.2 (by rw[h8];decide));rw[h8] at HZ;clear h8 jo HW HE eh dV;go_wp2_with (go_at_call 54;refine Ng.o.mono ?_;rintro e w3 ⟨rfl,rfl⟩);go_ret2;exact HZ.o
 | true=>
  rw[jo] at HE
  have Ng:Hid (Calls prog 54 #[.string s] wr fun e w'=>e=.returned (.int .i64 0)/\w'=wr):=HE.o
  have vU:=hid (eh.o.1 jo)
  have HF:=hid (HFd.o s wr HK.o.1.2)
  have c0:=HK.o.1.1.c0
  have c2:=HK.o.1.1.c2
  have c3:=HK.o.1.1.c3
  have c4:=HK.o.1.1.c4
  clear HE eh jo dV
  obtain⟨⟨y,ok⟩,hy⟩:∃p,sy G s=p:=⟨_,rfl⟩
  rw[hy] at vU
  have D9:Hid (Calls prog 12 #[ϑ G,.string s] wr (fun e w'=>e=.returned (.tuple #[.agg #[.bool y.s,.int .i64 y.n],.bool ok])/\ϐ wr w')):=by
   have h9:=HF.o;unfold SX at h9;rw[hy] at h9;exact h9
  unfold ϑ at D9;rw[HN.o,mJ.o] at D9
  clear hy HF
  go_upto_region 9 with (go_at_call 54;refine Ng.o.mono ?_;rintro e w3 ⟨rfl,rfl⟩)
  go_upto_region 10 with (go_at_call 12;refine D9.o.mono ?_;rintro e w4 ⟨rfl,b4⟩)
  have kC:=hid (HK.o.1.ae b4)
  have k4:=al w4 (.cells #[.bool y.s,.int .i64 y.n] 38)
  obtain⟨b7,C9⟩:=Ξ w4.heap.size
  have HC:Hid (EC w b b7 G y (w4.alloc (.cells #[.bool y.s,.int .i64 y.n] 38))):=by
   have h9:=kC.o.ae k4;exact⟨h9.1,by rw[<-C9];exact xz.new w4 y 38,h9.2⟩
  try rw[C9]
  clear b4 k4 C9 kC D9 Ng x0 c0 c1 c2 c3 c4
  generalize w4.alloc (.cells #[.bool y.s,.int .i64 y.n] 38)=W5 at HC⊢
  have kd:ϐ W5 W5.drew:=⟨rfl,rfl,rfl,le_refl _,fun _ _=>rfl⟩
  have Aj:=hid (HC.o.ae kd)
  clear kd
  obtain⟨ys,yn⟩:=y
  cases ys with
  | false=>
   have h9:=vU.o.2 (fun e=>by injection e with e1 e2;cases e1);have HZ:Hid (∀W,ϐ w W->rO (pY (fU G) G.S.length 300) w (.returned (.tuple #[.int .i64 (k:Int),.int .i64 9])) W):=fun W hW=>by
    have:=HW.o W hW (by rw[h9];decide);rw[h9] at this;exact this
   clear h9 HW vU;refine wp_region_held_drew (S:=fun W'=>EC w b b7 G ⟨false,yn⟩ W') (by kernel_rfl) (Aj.o) fun η=>?_;refine cq 0 (v:=.agg #[.bool false,.int .i64 yn]) ?_;refine cq 1 ?_;refine bH 2 (fun K hK=>?_);go_simp;go_at_call 30;refine (AA _ _).mono ?_;rintro e w8 ⟨rfl,b8⟩;have bQ:=η.ae b8;clear b8 η
   try go_wp2_with fail
   refine hK.out _ _ bQ fun η=>?_;clear hK K bQ
   try simp only[Act.put,sA]
   refine cq 3 (v:=.bool true) ?_;refine wpAnyH_done (by kernel_rfl) ?_ _;go_wp2;go_ret2;exact HZ.o _ η.2.2
  | true=>
   by_cases BL:yn=(k:Int)
   ·have j9:(yn == (k:Int))=true:=(by simp[BL]);have h0:=vU.o.1 (by rw[BL]);have HZ:Hid (∀j,j<k+1->fU G j=0):=fun j hj=>by
     by_cases e:j=k
     ·subst e;exact h0
     exact HK.o.2 j (by omega)
    have hyk2:=hid BL;clear h0 HW vU BL;refine wp_region_held_drew (S:=fun W'=>EC w b b7 G ⟨true,yn⟩ W') (by kernel_rfl) (Aj.o) fun η=>?_;refine cq 0 (v:=.agg #[.bool true,.int .i64 yn]) ?_;refine cq 1 ?_;refine bH 2 (fun K hK=>?_);go_simp;go_at_call 30;refine (AA _ _).mono ?_;rintro e w8 ⟨rfl,b8⟩;have bQ:=η.ae b8;clear b8 η
    try go_wp2_with fail
    refine hK.out _ _ bQ fun η=>?_;clear hK K bQ
    try simp only[Act.put,sA]
    refine cq 3 (v:=.bool false) ?_;refine wpAnyH_done (by kernel_rfl) ?_ _;go_wp2;go_roundw
    ·exact⟨k+1,by go_num,by omega,⟨η.1,η.2.2⟩,HZ.o⟩
    simp[intOf];omega
   have j9:(yn == (k:Int))=false:=(by simp[BL]);have h9:=vU.o.2 (fun e=>by injection e with e1 e2;exact BL e2);have HZ:Hid (∀W,ϐ w W->rO (pY (fU G) G.S.length 300) w (.returned (.tuple #[.int .i64 (k:Int),.int .i64 9])) W):=fun W hW=>by
    have:=HW.o W hW (by rw[h9];decide);rw[h9] at this;exact this
   clear h9 HW vU BL;refine wp_region_held_drew (S:=fun W'=>EC w b b7 G ⟨true,yn⟩ W') (by kernel_rfl) (Aj.o) fun η=>?_;refine cq 0 (v:=.agg #[.bool true,.int .i64 yn]) ?_;refine cq 1 ?_;refine bH 2 (fun K hK=>?_);go_simp;go_at_call 30;refine (AA _ _).mono ?_;rintro e w8 ⟨rfl,b8⟩;have bQ:=η.ae b8;clear b8 η
   try go_wp2_with fail
   refine hK.out _ _ bQ fun η=>?_;clear hK K bQ
   try simp only[Act.put,sA]
   refine cq 3 (v:=.bool true) ?_;refine wpAnyH_done (by kernel_rfl) ?_ _;go_wp2;go_ret2;exact HZ.o _ η.2.2
theorem zeC(G:Gr)(w:World)(hA:G.At w)(hL:G.mE 1000000):
  Calls prog 28 #[G.val] w (rO (pY (eV G) G.P.length 200) w):=by
 show Calls prog 28 #[ϑ G] w _;unfold ϑ;have HCp:Hid (∀i,i<G.P.length->∀W,ϐ w W->Calls prog 55 #[ϑ G,.int .i64 ((i:Nat):Int)] W (Bl (eV G i) W)):=fun i h W k=>zfq G i h W (hA.below k) hL
 have tk:=hL.p;clear hA hL;obtain⟨w2,dQ,H,ib⟩:=xJ w G;go_in;go_upto_region 1 with fail
 try rw[dQ]
 clear dQ;obtain⟨b,hb⟩:=Ξ w.heap.size
 have HX:Hid (eU w b G w2):=by rw[<-hb];exact H.o
 rw[hb];clear hb H ib;have c2:=HX.o.1.c2;by_cases h3:200<G.P.length
 ·have i3:(200:Int)<(G.P.length:Int):=by omega
  have HZ:Hid (rO (pY (eV G) G.P.length 200) w (.returned (.tuple #[.int .i64 (G.P.length:Int),.int .i64 6])) w2):=⟨_,_,rfl,inl ⟨h3,rfl,rfl⟩,HX.o.2⟩
  clear h3;go_wp2;go_ret2;exact HZ.o
 have i3:¬((200:Int)<(G.P.length:Int)):=by omega
 have H3:=hid h3;obtain⟨n,hn⟩:=Ξ G.P.length
 have HN:=hid hn;have nU:n<=1000000:=by omega
 rw[hn] at c2 i3;clear hn tk h3;have su:Hid (eU w b G w2/\∀j,j<0->eV G j=0):=⟨HX.o,fun j h=>by omega⟩
 go_wp2;go_loopw [16] (fun v wr=>∃k:Nat,v=.int .i64 (k:Int)/\k<=n/\Hid (eU w b G wr/\∀j,j<k->eV G j=0)) (fun v _=>n-(intOf v).toNat)
 ·exact⟨0,rfl,zero_le _,su.o⟩
 clear su HX c2;obtain⟨k,rfl,hk,HK⟩:=hrel;have c0:=HK.o.1.1.c0;have c1:=HK.o.1.1.c1;have c2:=HK.o.1.1.c2;have c3:=HK.o.1.1.c3;have c4:=HK.o.1.1.c4;rw[HN.o] at c2;by_cases aq:k<n
 case neg=>
  obtain rfl:k=n:=by omega
  have HZ:Hid (rO (pY (eV G) G.P.length 200) w (.returned (.tuple #[.int .i64 (k:Int),.int .i64 0])) wr):=⟨_,_,rfl,inr ⟨by have:=H3.o;omega,by rw[HN.o];exact tL HK.o.2,fun h=>absurd rfl h⟩,HK.o.1.2⟩
  clear c0 c1 c3 c4;go_wp2;go_ret2;exact HZ.o
 have dV:k<G.P.length:=by rw[HN.o];exact aq
 have i1:(k:Int)<n:=by omega
 have HC:=hid (HCp.o k dV wr HK.o.1.2);unfold ϑ at HC;rw[HN.o] at HC;obtain⟨z,hz⟩:=Ξ (eV G k)
 rw[hz] at HC;have TK:=hid hz;clear hz;go_wp2_with (go_at_call 55;refine HC.o.mono ?_;rintro e w3 ⟨rfl,b3⟩;refine Hid.o ?_);refine hid ?_;have xZ:=hid (HK.o.1.ae b3);clear b3 HC c0 c1 c2 c3 c4;by_cases h0:z=0
 ·subst h0;have HZ:Hid (∀j,j<k+1->eV G j=0):=fun j hj=>by
   by_cases e:j=k
   ·subst e;exact TK.o
   exact HK.o.2 j (by omega)
  go_wp2;go_roundw
  ·exact⟨k+1,by go_num,by omega,xZ.o,HZ.o⟩
  simp[intOf];omega
 have j0:(z != 0)=true:=by simpa using h0
 have HZ:Hid (rO (pY (eV G) G.P.length 200) w (.returned (.tuple #[.int .i64 (k:Int),.int .i64 z])) w3):=by
  obtain⟨f1,f2⟩:=BN (n:=G.P.length) dV HK.o.2 (by rw[TK.o];exact h0);exact⟨_,_,rfl,inr ⟨by have:=H3.o;omega,by rw[f1,TK.o],fun _=>by rw[f2]⟩,xZ.o.2⟩
 clear h0 dV;go_wp2;go_ret2;exact HZ.o
def l8(G:Gr)(i k:Nat):List Int:=((range i).flatMap (fun a=>(dT G a).rules))++(dT G i).rules.take k
theorem znt(G:Gr):l8 G 0 0=[]:=by simp[l8]
theorem znu(h:k<(dT G i).rules.length):l8 G i (k+1)=l8 G i k++[(dT G i).rules[k]]:=by
 unfold l8;rw[List.take_succ_eq_append_getElem h,List.append_assoc]
theorem zk7(G:Gr)(i:Nat):l8 G (i+1) 0=l8 G i (dT G i).rules.length:=by
 unfold l8;rw[List.range_succ,List.flatMap_append,List.take_zero,List.append_nil,List.take_of_length_le (le_refl _)];simp
theorem zpQ{m:Nat}(h:∀a,(dT G a).rules.length<=m)(i k:Nat):(l8 G i k).length<=i*m+k:=by
 have h1:((range i).flatMap (fun a=>(dT G a).rules)).length<=i*m:=by
  induction i with
  | zero=>simp
  | succ i ih=>
   have:=h i;rw[List.range_succ,List.flatMap_append,length_append];simp only[List.flatMap_cons,List.flatMap_nil,List.append_nil];rw[Nat.add_mul,Nat.one_mul];omega
 unfold l8;rw[length_append,List.length_take];omega
theorem zk8(h:k<(dT G i).rules.length):(dT G i).rules[k]∈l8 G i k↔gm G i k:=by
 have e:(dT G i).rules.getD k 0=(dT G i).rules[k]:=by simp[h]
 unfold l8 gm;rw[List.mem_append,e];constructor
 ·rintro (h1|h1)
  ·obtain⟨a,ha,hz⟩:=List.mem_flatMap.1 h1;obtain⟨b,hb,hq⟩:=getElem_of_mem hz;exact⟨a,b,inl (by simpa using ha),hb,by simp[hb,hq]⟩
  obtain⟨b,hb,hq⟩:=getElem_of_mem h1;simp at hb hq;have cH:b<(dT G i).rules.length:=by omega
  exact⟨i,b,inr ⟨rfl,by omega⟩,cH,by simp[cH,hq]⟩
 rintro⟨a,b,h1,hb,hq⟩;rw[show (dT G a).rules.getD b 0=(dT G a).rules[b] by simp[hb]] at hq;rcases h1 with h1|⟨rfl,h1⟩
 ·exact inl (List.mem_flatMap.2 ⟨a,by simpa using h1,by rw[<-hq];exact getElem_mem hb⟩)
 right;rw[<-hq];have:(dT G a).rules[b]=((dT G a).rules.take k)[b]'(by simp;omega):=by simp
 rw[this];exact getElem_mem _
theorem UA(h:(dT G i).side<1\/3<(dT G i).side\/(dT G i).rules.length=0\/60<=i):kg G i=1:=if_pos h
theorem znv(h:¬((dT G i).side<1\/3<(dT G i).side\/(dT G i).rules.length=0\/60<=i)):kg G i=ma (vg G i) (dT G i).rules.length:=if_neg h
def ox(z:Int):Bool:=z == 1 || (z == 2 || z == 3)
theorem znw{z:Int}(h:ox z=false):z<1\/3<z:=by
 unfold ox at h;simp only[Bool.or_eq_false_iff,beq_eq_false_iff_ne] at h;omega
theorem zk9{z:Int}(h:ox z=true):¬(z<1\/3<z):=by
 unfold ox at h;simp only[Bool.or_eq_true,beq_iff_eq] at h;omega
theorem zjH(z:Int)(w:World):Calls prog 56 #[.int .i64 z] w (fun e w'=>e=.returned (.bool (ox z))/\w'=w):=by
 have HZ:Hid (ox z=(z == 1 || (z == 2 || z == 3))):=rfl;go_in;rcases h0:(z == 1) with _|_
 ·rcases h1:(z == 2) with _|_
  ·rw[h0,h1] at HZ;go_wp2;go_ret;exact⟨by rw[HZ.o];rfl,rfl⟩
  rw[h0,h1] at HZ;go_wp2;go_ret;exact⟨by rw[HZ.o];rfl,rfl⟩
 rw[h0] at HZ;go_wp2;go_ret;exact⟨by rw[HZ.o];rfl,rfl⟩
theorem znx(l:List Int)(n c:Nat)(a:Option Addr)(z:Int)(hl:l.length=n)(hn:n<=9223372036854775807)(w:World)(h:iP w a l):
  Calls prog 57 #[.slice a n c,.int .i64 z] w (fun e w'=>∃b,(b=true↔z∈l)/\e=.returned (.bool b)/\w'=w):=by
 rcases Nat.eq_zero_or_pos n with h0|h0
 ·subst h0;refine (Tryz.slices_Contains_int_empty a c z w).mono ?_;rintro e w' ⟨rfl,rfl⟩;exact⟨false,by rw[List.length_eq_zero_iff.1 hl];simp,rfl,rfl⟩
 obtain⟨g,off,rfl,hg,hc⟩:=h (by omega);refine (Tryz.slices_Contains_int g off n c l z w (by omega) hn hc).mono ?_;rintro e w' ⟨rfl,rfl⟩;exact⟨_,by rw[List.take_of_length_le (by omega),List.contains_iff_mem],rfl,rfl⟩
theorem zd4(G:Gr)(w:World)(hA:G.At w)(hL:G.mE 1000000):
  Calls prog 29 #[G.val] w (rO (pY (kg G) G.L.length G.L.length) w):=by
 show Calls prog 29 #[ϑ G] w _;unfold ϑ;obtain⟨iI,hI,q8,rm,rf⟩:=info_parts aH;have vT:Hid (∀(y:Sy) W,ϐ w W->Calls prog 14 #[ϑ G,.agg #[.bool y.s,.int .i64 y.n]] W (rH (eH G y) W)):=fun y W k=>MN G y W (hA.below k) (hL.mono (by omega))
 have F4:Hid (∀a,(dT G a).rules.length<=1000000):=fun a=>by
  by_cases h:a<G.L.length
  ·rw[Gl h];exact hL.ls a h
  simp[dT,h]
 have HA:=hid hA;have sc:=hL.l;clear hA hL;obtain⟨w2,dQ,H,ib⟩:=xJ w G;go_in;go_upto_region 1 with fail
 try rw[dQ]
 clear dQ;obtain⟨b,hb⟩:=Ξ w.heap.size
 have HX:Hid (eU w b G w2):=by rw[<-hb];exact H.o
 rw[hb];clear hb H ib;have Ih:Hid (∀W,ϐ w2 W->eU w b G W):=fun W k=>HX.o.ae k
 have c3:=HX.o.1.c3;obtain⟨n,hn⟩:=Ξ G.L.length
 have HN:=hid hn;rw[hn] at c3 sc;have Mx:Hid (∀k,k<n->(∀j,j<k->kg G j=0)->∀z,kg G k=z->z≠0->∀W,ϐ w2 W->rO (pY (kg G) G.L.length G.L.length) w (.returned (.tuple #[.int .i64 (k:Int),.int .i64 z])) W):=fun k hk h0 z hz hne W kW=>by
  obtain⟨f1,f2⟩:=BN (n:=G.L.length) (by omega) h0 (by rw[hz];exact hne);exact⟨_,_,rfl,inr ⟨le_refl _,by rw[f1,hz],fun _=>by rw[f2]⟩,(Ih.o W kW).2⟩
 clear hn;have BY:Hid (w2.ownsRow w2.heap.size 3 1 (.slice none 0 0) 0 (AZ (l8 G 0 0))/\(l8 G 0 0).length=0):=by rw[znt];exact⟨World.ownsRow_nil _ _ _ _,rfl⟩
 go_wp2;go_loopw [4,12] (fun v4 v12 wr=>∃(k q:Nat) (a:Option Addr) (d:Nat),k<=n/\v12=.int .i64 (k:Int)/\v4=.slice a q d/\Hid (wr.ownsRow w2.heap.size 3 1 (.slice a q d) q (AZ (l8 G k 0))/\(l8 G k 0).length=q/\ϐ w2 wr/\∀j,j<k->kg G j=0)) (fun _ v _=>n-(intOf v).toNat)
 ·exact⟨0,0,none,0,zero_le _,rfl,rfl,BY.o.1,BY.o.2,Below.refl _ _,fun j h=>by omega⟩
 clear BY c3;obtain⟨k,q,a,d,hk,rfl,rfl,HK⟩:=hrel;by_cases aq:k<n
 case neg=>
  obtain rfl:k=n:=by omega
  have HZ:Hid (rO (pY (kg G) G.L.length G.L.length) w (.returned (.tuple #[.int .i64 (k:Int),.int .i64 0])) wr):=⟨_,_,rfl,inr ⟨le_refl _,by rw[HN.o];exact tL HK.o.2.2.2,fun h=>absurd rfl h⟩,(Ih.o wr HK.o.2.2.1).2⟩
  have c3:=(Ih.o wr HK.o.2.2.1).1.c3;rw[HN.o] at c3;go_wp2;go_ret2;exact HZ.o
 have dV:k<G.L.length:=by rw[HN.o];exact aq
 have i1:(k:Int)<n:=by omega
 obtain⟨g1,o1,e1,_,X,x0,x1⟩:=(HA.o.below (Ih.o wr HK.o.2.2.1).2).l.get k dV;obtain⟨x,hx⟩:=Ξ (G.L[k])
 have Hx:Hid (dT G k=x):=by show _=_;rw[Gl dV];exact hx
 have hz:=F4.o k;rw[Gl dV] at hz;rw[hx] at X x0 x1 hz;have HNs:=hid X;have kb:=al wr (.cells #[.int .i64 x.side,.slice x.ar x.rules.length x.cr] 58);have pb:=wi.new wr x 58;obtain⟨b6,eJ⟩:=Ξ wr.heap.size
 obtain⟨W1,qa⟩:=Ξ (wr.alloc (.cells #[.int .i64 x.side,.slice x.ar x.rules.length x.cr] 58))
 have H1:Hid (wi W1 b6 x/\iP W1 x.ar x.rules/\W1.ownsRow w2.heap.size 3 1 (.slice a q d) q (AZ (l8 G k 0))/\ϐ w2 W1):=by
  rw[qa] at kb pb;have:=HK.o.1.alloc (.cells #[.int .i64 x.side,.slice x.ar x.rules.length x.cr] 58);rw[qa] at this;exact⟨eJ ▸ pb,HNs.o.below kb,this,HK.o.2.2.1.trans (kb.mono HK.o.2.2.1.size)⟩
 have lY:Hid (∀W,ϐ w W->iP W x.ar x.rules):=fun W kW=>by
  obtain⟨_,_,_,_,Y,_⟩:=(HA.o.below kW).l.get k dV;rw[hx] at Y;exact Y
 clear X kb pb hx dV HNs;rw[e1];go_upto_region 5 with fail
 try rw[qa]
 try rw[eJ]
 clear qa eJ x0 x1 e1;have d0:=H1.o.1.c0;have d1:=H1.o.1.c1;have Dp:=hid (zjH x.side W1);cases Gy:ox x.side with
 | false=>
  rw[Gy] at Dp;have HZ:=hid (Mx.o k aq HK.o.2.2.2 1 (UA (by rw[Hx.o];have:=znw Gy;omega)) (by decide) W1 H1.o.2.2.2);clear Gy;go_wp2_with (go_at_call 56;refine Dp.o.mono ?_;rintro e w4 ⟨rfl,rfl⟩);go_ret2;exact HZ.o
 | true=>
 rw[Gy] at Dp;have Z6:=hid (zk9 Gy);clear Gy;by_cases h0:x.rules.length=0
 ·have HZ:=hid (Mx.o k aq HK.o.2.2.2 1 (UA (by rw[Hx.o];omega)) (by decide) W1 H1.o.2.2.2);have j0:((x.rules.length:Int) == 0)=true:=by simp[h0]
  clear h0;go_wp2_with (go_at_call 56;refine Dp.o.mono ?_;rintro e w4 ⟨rfl,rfl⟩);go_ret2;exact HZ.o
 have j0:((x.rules.length:Int) == 0)=false:=by rw[beq_eq_false_iff_ne];omega
 have H0:=hid h0;clear h0;by_cases h6:60<=k
 ·have HZ:=hid (Mx.o k aq HK.o.2.2.2 1 (UA (by omega)) (by decide) W1 H1.o.2.2.2);have j6:(60:Int)<=k:=by omega
  clear h6;go_wp2_with (go_at_call 56;refine Dp.o.mono ?_;rintro e w4 ⟨rfl,rfl⟩);go_ret2;exact HZ.o
 have j6:¬(60:Int)<=k:=by omega
 have KU:Hid (kg G k=ma (vg G k) x.rules.length):=by
  show _=_;rw[znv (by rw[Hx.o];have:=Z6.o;have:=H0.o;omega),Hx.o]
 clear h6 H0 Z6;go_upto_region 7 with (go_at_call 56;refine Dp.o.mono ?_;rintro e w4 ⟨rfl,rfl⟩);obtain⟨m,hm⟩:=Ξ x.rules.length
 have HM:=hid hm;rw[hm] at d1 hz KU
 try rw[hm]
 clear hm Dp j0 j6 d0;go_wp2_with fail;clear d1;go_loopw [4,35] (fun v4 v35 wr=>∃(y q:Nat) (a:Option Addr) (d:Nat),y<=m/\v35=.int .i64 (y:Int)/\v4=.slice a q d/\Hid (wr.ownsRow w2.heap.size 3 1 (.slice a q d) q (AZ (l8 G k y))/\(l8 G k y).length=q/\ϐ w2 wr/\(∀j,j<y->vg G k j=0))) (fun _ v _=>m-(intOf v).toNat)
 ·exact⟨0,q,a,d,zero_le _,rfl,rfl,H1.o.2.2.1,HK.o.2.1,H1.o.2.2.2,fun j h=>by omega⟩
 have pA:=hid HK.o.2.2.2;have Hk9:Hid (k<n):=aq;obtain⟨y,p,a2,d2,hy,rfl,rfl,HY⟩:=hrel;by_cases Qy:y<m
 case neg=>
  obtain rfl:y=m:=by omega
  have h0:kg G k=0:=by rw[KU.o];exact tL HY.o.2.2.2
  have HZ:Hid (∀j,j<k+1->kg G j=0):=fun j hj=>by
   by_cases e:j=k
   ·subst e;exact h0
   exact pA.o j (by omega)
  have HT:Hid (l8 G (k+1) 0=l8 G k y):=by show _=_;rw[zk7,Hx.o,HM.o]
  clear h0;go_wp2;go_roundw
  ·exact⟨k+1,p,a2,d2,by omega,by go_num,rfl,by rw[HT.o];exact HY.o.1,by rw[HT.o];exact HY.o.2.1,HY.o.2.2.1,HZ.o⟩
  simp[intOf];omega
 have Fw:y<x.rules.length:=by rw[HM.o];exact Qy
 have Np:y<(dT G k).rules.length:=by rw[Hx.o,HM.o];exact Qy
 obtain⟨g2,o2,e2,_,y0⟩:=(lY.o wr (Ih.o wr HY.o.2.2.1).2).get y Fw;obtain⟨z,SJ⟩:=Ξ (x.rules[y])
 have MK:Hid ((dT G k).rules.getD y 0=z/\(dT G k).rules[y]=z):=by
  have e9:(dT G k).rules=x.rules:=by rw[Hx.o]
  have e8:(dT G k).rules[y]=z:=by simp only[e9];exact SJ
  exact⟨by rw[<-e8];simp[Np],e8⟩
 have Zi:Hid (l8 G k (y+1)=l8 G k y++[z]):=by show _=_;rw[znu Np,MK.o.2]
 have Nq:Hid (z∈l8 G k y↔gm G k y):=by have:=zk8 Np;rw[MK.o.2] at this;exact this
 rw[SJ] at y0;have i2:(y:Int)<m:=by omega
 have HB:=hid (Ih.o wr HY.o.2.2.1);have TU:Hid (∀c,vg G k y=c->c≠0->∀W,ϐ w2 W->rO (pY (kg G) G.L.length G.L.length) w (.returned (.tuple #[.int .i64 (k:Int),.int .i64 c])) W):=fun c hc hne W kW=>by
  refine Mx.o k Hk9.o pA.o c ?_ hne W kW;rw[KU.o];obtain⟨f1,_⟩:=BN (n:=m) Qy HY.o.2.2.2 (by rw[hc];exact hne);rw[f1,hc]
 have c0:=HB.o.1.c0;have c1:=HB.o.1.c1;have c2:=HB.o.1.c2;have c3:=HB.o.1.c3;have c4:=HB.o.1.c4;have Yj:=hid (vT.o ⟨false,z⟩ wr HB.o.2);have Qi:Hid ((dT G k).rules.getD y 0=z):=MK.o.1;rw[e2];clear MK SJ Fw Np e2;obtain⟨hb,kZ⟩:=Ξ (gW G z)
 have Jc:Hid (Calls prog 14 #[ϑ G,.agg #[.bool false,.int .i64 z]] wr (rH hb wr)):=by rw[<-kZ];exact Yj.o
 clear Yj;go_upto_region 10 with fail;go_wp2_with (go_at_call 14;refine Jc.o.mono ?_;rintro e w5 ⟨rfl,b5⟩;refine Hid.o ?_);refine hid ?_;have pt:=hid (HY.o.2.2.1.trans (b5.mono HY.o.2.2.1.size));have vb:=hid (dE HY.o.1 b5);clear c0 c1 c2 c3 c4 y0 b5 Jc;cases hb with
 | false=>
  have HZ:=hid (TU.o 11 (zo9 (by rw[Qi.o];exact kZ)) (by decide) _ pt.o);clear kZ;go_wp2;go_ret2;exact HZ.o
 | true=>
 have Ci:p<=2000000000000:=by
  have h1:=zpQ F4.o k y;rw[HY.o.2.1] at h1;have h2:k*1000000<=1000000*1000000:=Nat.mul_le_mul_right _ (by omega);omega
 have Hi:=hid (znx (l8 G k y) p d2 a2 z HY.o.2.1 (by omega) w5 (zq6 vb.o HY.o.2.1));go_wp2_with (go_at_call 57;refine Hi.o.mono ?_;rintro e w6 ⟨bo,ku,rfl,rfl⟩;refine Hid.o ?_);refine hid ?_;clear Hi;cases bo with
 | true=>
  have HZ:=hid (TU.o 9 (YW (by rw[Qi.o];exact kZ) (Nq.o.1 (ku.1 rfl))) (by decide) _ pt.o);clear kZ ku;go_wp2;go_ret2;exact HZ.o
 | false=>
 have HZ:Hid (∀j,j<y+1->vg G k j=0):=fun j hj=>by
  by_cases e:j=y
  ·subst e;exact YN (by rw[Qi.o];exact kZ) (fun h=>by have:=ku.2 (Nq.o.2 h);cases this)
  exact HY.o.2.2.2 j (by omega)
 clear kZ ku TU;have hO:=vb.o;have cQ:=pt.o.size;have HT:Hid (AZ (l8 G k (y+1))=AZ (l8 G k y)++[.int .i64 z]):=by show _=_;rw[Zi.o,AZ,List.map_append];rfl
 go_wp2_with (at_builtin;refine wpList_append_own _ rfl _ _ 43 rfl w2.heap.size 3 iI (.int .i64 0) 1 8 underlying43 hI q8 rm rf rfl (by decide) _ p _ rfl (hO.alloc _) ⟨w6.heap.size,0,none⟩ 1 1 [.int .i64 z] rfl rfl ?c1 ?c2 ?c3 ?c4 ?c5 ?_)
 case c1=>
  intro j u hj
  match j,hj with
  | 0,hj=>simp at hj;subst hj;simp[Addr.add]
 case c2=>first|rfl|(intro u hu;simp at hu;subst hu;rfl)
 case c3=>unfold maxLen;omega
 case c4=>omega
 case c5=>first|omega|(simp;omega)
 intro v' w7 lI jY _;obtain⟨a7,c7,rfl⟩:=cy lI;have zW:=hid ((pt.o.trans ((al w6 (.cells #[.int .i64 z] 3)).mono cQ)).grown jY (by simp;omega) (fun g e=>(hO.lt g e).1));have lJ:=hid lI;clear lI jY hO cQ;go_wp2;go_roundw
 ·exact⟨y+1,p+1,a7,c7,by omega,by go_num,rfl,by rw[HT.o];exact lJ.o,by rw[Zi.o,length_append,HY.o.2.1];rfl,zW.o,HZ.o⟩
 simp[intOf];omega
theorem FU{t:Nat}{c0 c1 c2:Value}(h:w.heap[g]?=some (.cells #[c0,c1,c2] t (0,0)))(d0 d1 d2:Value):
  (((w.setCell ⟨g,0,none⟩ d0).setCell ⟨g,1,none⟩ d1).setCell ⟨g,2,none⟩ d2).cell? ⟨g,0,none⟩=some d0/\(((w.setCell ⟨g,0,none⟩ d0).setCell ⟨g,1,none⟩ d1).setCell ⟨g,2,none⟩ d2).cell? ⟨g,1,none⟩=some d1/\(((w.setCell ⟨g,0,none⟩ d0).setCell ⟨g,1,none⟩ d1).setCell ⟨g,2,none⟩ d2).cell? ⟨g,2,none⟩=some d2:=by
 have h1:=heap_setCell_same w g 0 _ _ d0 h;have h2:=heap_setCell_same _ g 1 _ _ d1 h1;have h3:=heap_setCell_same _ g 2 _ _ d2 h2;rw[cell_of_row _ g 0 _ _ _ h3,cell_of_row _ g 1 _ _ _ h3,cell_of_row _ g 2 _ _ _ h3];exact⟨rfl,rfl,rfl⟩
def Bv(w:World)(b:Nat)(G:Gr)(wr:World):Prop:=jJ wr b G/\wr.heap[b+1]?=some (.cells #[.int .i64 0,.int .i64 0,.int .i64 0] 32 (0,0))/\ϐ w wr/\b+1<wr.heap.size/\w.heap.size<=b
theorem Bv.ae{b:Nat}(h:Bv w b G wr)(k:ϐ wr w'):Bv w b G w':=⟨h.1.below k,(k.block _ h.2.2.2.1).trans h.2.1,h.2.2.1.trans (k.mono h.2.2.1.size),lt_of_lt_of_le h.2.2.2.1 k.size,h.2.2.2.2⟩
theorem Bv.put{b:Nat}(h:Bv w b G wr)(d0 d1 d2:Value):ϐ w (((wr.setCell ⟨b+1,0,none⟩ d0).setCell ⟨b+1,1,none⟩ d1).setCell ⟨b+1,2,none⟩ d2):=by
 have:=h.2.2.2.2;exact ((h.2.2.1.setCell (p:=⟨b+1,0,none⟩) (by show w.heap.size<=b+1;omega) d0).setCell (p:=⟨b+1,1,none⟩) (by show w.heap.size<=b+1;omega) d1).setCell (p:=⟨b+1,2,none⟩) (by show w.heap.size<=b+1;omega) d2
theorem Bv.cells{b:Nat}(h:Bv w b G wr):(wr.cell? ⟨b+1,0,none⟩=some (.int .i64 0)/\wr.cell? ⟨b+1,1,none⟩=some (.int .i64 0)/\wr.cell? ⟨b+1,2,none⟩=some (.int .i64 0))/\wr.frozen? ⟨b+1,0,none⟩=false/\wr.frozen? ⟨b+1,1,none⟩=false/\wr.frozen? ⟨b+1,2,none⟩=false:=by
 have h2:=h.2.1;exact⟨⟨by rw[cell_of_row wr _ 0 _ _ _ h2];rfl,by rw[cell_of_row wr _ 1 _ _ _ h2];rfl,by rw[cell_of_row wr _ 2 _ _ _ h2];rfl⟩,frozen_of_row wr _ 0 _ _ h2,frozen_of_row wr _ 1 _ _ h2,frozen_of_row wr _ 2 _ _ h2⟩
theorem zrW(h:pY (fU G) G.S.length 300 a e):(e≠0->dw G=(e,2,a))/\(e=0->¬300<G.S.length/\ma (fU G) G.S.length=0):=by
 rcases h with ⟨h1,rfl,rfl⟩|⟨h1,h2,h3⟩
 ·exact⟨fun _=>by unfold dw;rw[if_pos h1],fun h=>by cases h⟩
 refine⟨fun hne=>?_,fun h0=>⟨by omega,by rw[h2,h0]⟩⟩;unfold dw;rw[if_neg (by omega),if_pos (by rw[h2];exact hne),h2,h3 hne]
theorem zrX(h1:¬300<G.S.length/\ma (fU G) G.S.length=0)(h:pY (eV G) G.P.length 200 a e):(e≠0->dw G=(e,3,a))/\(e=0->¬200<G.P.length/\ma (eV G) G.P.length=0):=by
 rcases h with ⟨h2,rfl,rfl⟩|⟨h2,h3,h4⟩
 ·exact⟨fun _=>by unfold dw;rw[if_neg h1.1,if_neg (by simp[h1.2]),if_pos h2],fun h=>by cases h⟩
 refine⟨fun hne=>?_,fun h0=>⟨by omega,by rw[h3,h0]⟩⟩;unfold dw;rw[if_neg h1.1,if_neg (by simp[h1.2]),if_neg (by omega),if_pos (by rw[h3];exact hne),h3,h4 hne]
theorem zrY(h1:¬300<G.S.length/\ma (fU G) G.S.length=0)(h2:¬200<G.P.length/\ma (eV G) G.P.length=0)(h:pY (kg G) G.L.length G.L.length a e):(e≠0->dw G=(e,4,a))/\(e=0->dw G=if G.st<0\/(G.S.length:Int)<=G.st then (11,5,0) else (0,0,0)):=by
 rcases h with ⟨h3,_,_⟩|⟨_,h3,h4⟩
 ·omega
 refine⟨fun hne=>?_,fun h0=>?_⟩
 ·unfold dw;rw[if_neg h1.1,if_neg (by simp[h1.2]),if_neg h2.1,if_neg (by simp[h2.2]),if_pos (by rw[h3];exact hne),h3,h4 hne]
 unfold dw;rw[if_neg h1.1,if_neg (by simp[h1.2]),if_neg h2.1,if_neg (by simp[h2.2]),if_neg (by rw[h3,h0];simp)]
theorem zd5(Q:Int->Int->Prop)(G:Gr)(w:World)(hA:G.At w)(hL:G.mE 1000000)
  (hR:∀W,ϐ w W->Calls prog 26 #[.slice G.aR G.R.length G.cR] W (Pr Q W)):
  Calls prog 9 #[G.val] w (B4 Q G w):=by
 show Calls prog 9 #[ϑ G] w _;unfold ϑ;have HR:=hid hR;have eh:Hid (∀W,ϐ w W->Calls prog 27 #[ϑ G] W (rO (pY (fU G) G.S.length 300) W)):=fun W k=>zeB G W (hA.below k) hL
 have ra:Hid (∀W,ϐ w W->Calls prog 28 #[ϑ G] W (rO (pY (eV G) G.P.length 200) W)):=fun W k=>zeC G W (hA.below k) hL
 have Y9:Hid (∀W,ϐ w W->Calls prog 29 #[ϑ G] W (rO (pY (kg G) G.L.length G.L.length) W)):=fun W k=>zd4 G W (hA.below k) hL
 have vT:Hid (∀W,ϐ w W->Calls prog 14 #[ϑ G,.agg #[.bool true,.int .i64 G.st]] W (rH (eH G ⟨true,G.st⟩) W)):=fun W k=>MN G ⟨true,G.st⟩ W (hA.below k) (hL.mono (by omega))
 clear hA hL hR;obtain⟨w2,dQ,H,ib⟩:=Dy w G #[.int .i64 0,.int .i64 0,.int .i64 0] 32;go_in;go_upto_region 1 with fail
 try rw[dQ]
 clear dQ;obtain⟨b,hb⟩:=Ξ w.heap.size
 have HX:Hid (Bv w b G w2):=by
  have h8:=ib.o;rw[<-hb];exact⟨H.o.1,H.o.2.1,H.o.2.2,by omega,le_refl _⟩
 rw[hb];clear hb H ib;have c0:=HX.o.1.c0;have uE:=hid (HR.o w2 HX.o.2.2.1);go_wp2_with (go_at_call 26;refine uE.o.mono ?_;rintro e w3 ⟨ai,er,rfl,hq,b3⟩;refine Hid.o ?_);refine hid ?_;have ew:=hid (HX.o.ae b3);have HQ:=hid hq;clear c0 uE HX HR b3 hq;by_cases h0:er=0
 case neg=>
  have j0:(er != 0)=true:=by simpa using h0
  have HC:Hid (ji G ai er=(er,1,ai)):=if_pos h0;clear h0;obtain⟨⟨t0,t1,t2⟩,f0,f1,f2⟩:=ew.o.cells;obtain⟨q0,q1,q2⟩:=FU ew.o.2.1 (.int .i64 er) (.int .i64 1) (.int .i64 ai);have HZ:Hid (∀W,ϐ w W->B4 Q G w (.returned (.agg #[.int .i64 er,.int .i64 1,.int .i64 ai])) W):=fun W k=>⟨_,_,HQ.o,by rw[HC.o],k⟩
  go_wp2_with fail;exact bodyPost_ret (v:=.agg #[.int .i64 er,.int .i64 1,.int .i64 ai]) (by simp[results,results9,go_sem,q0,q1,q2]) rfl (HZ.o _ (ew.o.put _ _ _))
 subst h0;have HC:Hid (ji G ai 0=dw G):=if_neg (by simp);have c0:=ew.o.1.c0;have c1:=ew.o.1.c1;have c2:=ew.o.1.c2;have c3:=ew.o.1.c3;have c4:=ew.o.1.c4;have re:=hid (eh.o w3 ew.o.2.2.1);go_wp2_with (go_at_call 27;refine re.o.mono ?_;rintro e w4 ⟨Om,GM,rfl,NY,b4⟩;refine Hid.o ?_);refine hid ?_;have kC:=hid (ew.o.ae b4);have TL:=hid (zrW NY);clear c0 c1 c2 c3 c4 re eh b4 NY ew;by_cases h0:GM=0
 case neg=>
  have j0:(GM != 0)=true:=by simpa using h0
  have Bg:Hid (ji G ai 0=(GM,2,Om)):=by show _=_;rw[HC.o,TL.o.1 h0]
  clear h0;obtain⟨⟨t0,t1,t2⟩,f0,f1,f2⟩:=kC.o.cells;obtain⟨q0,q1,q2⟩:=FU kC.o.2.1 (.int .i64 GM) (.int .i64 2) (.int .i64 Om);have HZ:Hid (∀W,ϐ w W->B4 Q G w (.returned (.agg #[.int .i64 GM,.int .i64 2,.int .i64 Om])) W):=fun W k=>⟨_,_,HQ.o,by rw[Bg.o],k⟩
  go_wp2_with fail;exact bodyPost_ret (v:=.agg #[.int .i64 GM,.int .i64 2,.int .i64 Om]) (by simp[results,results9,go_sem,q0,q1,q2]) rfl (HZ.o _ (kC.o.put _ _ _))
 have xZ:=hid (TL.o.2 h0);subst h0;clear TL;have c0:=kC.o.1.c0;have c1:=kC.o.1.c1;have c2:=kC.o.1.c2;have c3:=kC.o.1.c3;have c4:=kC.o.1.c4;have Hc:=hid (ra.o w4 kC.o.2.2.1);go_wp2_with (go_at_call 28;refine Hc.o.mono ?_;rintro e w5 ⟨OJ,Ij,rfl,hq4,b5⟩;refine Hid.o ?_);refine hid ?_;have ob:=hid (kC.o.ae b5);have Uk:=hid (zrX xZ.o hq4);clear c0 c1 c2 c3 c4 Hc ra b5 hq4 kC;by_cases h0:Ij=0
 case neg=>
  have j0:(Ij != 0)=true:=by simpa using h0
  have Bg:Hid (ji G ai 0=(Ij,3,OJ)):=by show _=_;rw[HC.o,Uk.o.1 h0]
  clear h0;obtain⟨⟨t0,t1,t2⟩,f0,f1,f2⟩:=ob.o.cells;obtain⟨q0,q1,q2⟩:=FU ob.o.2.1 (.int .i64 Ij) (.int .i64 3) (.int .i64 OJ);have HZ:Hid (∀W,ϐ w W->B4 Q G w (.returned (.agg #[.int .i64 Ij,.int .i64 3,.int .i64 OJ])) W):=fun W k=>⟨_,_,HQ.o,by rw[Bg.o],k⟩
  go_wp2_with fail;exact bodyPost_ret (v:=.agg #[.int .i64 Ij,.int .i64 3,.int .i64 OJ]) (by simp[results,results9,go_sem,q0,q1,q2]) rfl (HZ.o _ (ob.o.put _ _ _))
 have HK4:=hid (Uk.o.2 h0);subst h0;clear Uk;have c0:=ob.o.1.c0;have c1:=ob.o.1.c1;have c2:=ob.o.1.c2;have c3:=ob.o.1.c3;have c4:=ob.o.1.c4;have uR:=hid (Y9.o w5 ob.o.2.2.1);go_wp2_with (go_at_call 29;refine uR.o.mono ?_;rintro e w6 ⟨OY,GF,rfl,NX,b6⟩;refine Hid.o ?_);refine hid ?_;have AF:=hid (ob.o.ae b6);have Tr:=hid (zrY xZ.o HK4.o NX);clear c0 c1 c2 c3 c4 uR Y9 b6 NX ob;by_cases h0:GF=0
 case neg=>
  have j0:(GF != 0)=true:=by simpa using h0
  have Bg:Hid (ji G ai 0=(GF,4,OY)):=by show _=_;rw[HC.o,Tr.o.1 h0]
  clear h0;obtain⟨⟨t0,t1,t2⟩,f0,f1,f2⟩:=AF.o.cells;obtain⟨q0,q1,q2⟩:=FU AF.o.2.1 (.int .i64 GF) (.int .i64 4) (.int .i64 OY);have HZ:Hid (∀W,ϐ w W->B4 Q G w (.returned (.agg #[.int .i64 GF,.int .i64 4,.int .i64 OY])) W):=fun W k=>⟨_,_,HQ.o,by rw[Bg.o],k⟩
  go_wp2_with fail;exact bodyPost_ret (v:=.agg #[.int .i64 GF,.int .i64 4,.int .i64 OY]) (by simp[results,results9,go_sem,q0,q1,q2]) rfl (HZ.o _ (AF.o.put _ _ _))
 have EB:=hid (Tr.o.2 h0);subst h0;clear Tr;have c0:=AF.o.1.c0;have c1:=AF.o.1.c1;have c2:=AF.o.1.c2;have c3:=AF.o.1.c3;have c4:=AF.o.1.c4;go_upto_region 13 with fail;have kd:ϐ w6 w6.drew:=⟨rfl,rfl,rfl,le_refl _,fun _ _=>rfl⟩
 have Ra:=hid (AF.o.ae kd);clear kd AF c0 c1 c2 c3 c4;generalize zy:w6.drew=w7 at Ra;refine wp_region_held_drew (S:=fun W'=>Bv w b G W') (by kernel_rfl) (by rw[zy];exact Ra.o) fun η=>?_;rw[zy] at η⊢;clear zy Ra;obtain⟨bo,ku⟩:=Ξ (eH G ⟨true,G.st⟩)
 have fC:Hid (bo=true↔¬(G.st<0\/(G.S.length:Int)<=G.st)):=by
  show _↔_;rw[<-ku,show eH G ⟨true,G.st⟩=yJ G G.st from rfl,Mn];simp only[Bool.and_eq_true,decide_eq_true_eq];omega
 rw[ku] at vT;clear ku;refine cq 0 (v:=ϑ G) ?_;refine cq 1 ?_;refine cq 2 ?_
 try simp only[Act.put,sA]
 refine bH 3 (fun K hK=>?_);go_simp;go_at_call 30;refine (AA _ _).mono ?_;rintro e w8 ⟨rfl,b8⟩;have bQ:=η.ae b8;clear b8 η
 try go_wp2_with fail
 refine hK.out _ _ bQ fun η=>?_;clear hK K bQ
 try simp only[Act.put,sA]
 refine bH 4 (fun K hK=>?_);go_simp;go_at_call 14;refine (vT.o _ η.2.2.1).mono ?_;rintro e w8 ⟨rfl,b8⟩;have bQ:=η.ae b8;clear b8 η
 try go_wp2_with fail
 refine hK.out _ _ bQ fun η=>?_;clear hK K bQ
 try simp only[Act.put,sA]
 refine cq 5 ?_;refine wpAnyH_done (by kernel_rfl) ?_ _;have Gt:=hid η;clear η vT;cases bo with
 | false=>
  have Bg:Hid (ji G ai 0=(11,5,0)):=by
   show _=_;rw[HC.o,EB.o,if_pos (Classical.byContradiction fun h=>by have:=fC.o.2 h;cases this)]
  obtain⟨⟨t0,t1,t2⟩,f0,f1,f2⟩:=Gt.o.cells;obtain⟨q0,q1,q2⟩:=FU Gt.o.2.1 (.int .i64 11) (.int .i64 5) (.int .i64 0);have HZ:Hid (∀W,ϐ w W->B4 Q G w (.returned (.agg #[.int .i64 11,.int .i64 5,.int .i64 0])) W):=fun W k=>⟨_,_,HQ.o,by rw[Bg.o],k⟩
  go_wp2_with fail;exact bodyPost_ret (v:=.agg #[.int .i64 11,.int .i64 5,.int .i64 0]) (by simp[results,results9,go_sem,q0,q1,q2]) rfl (HZ.o _ (Gt.o.put _ _ _))
 | true=>
  have Bg:Hid (ji G ai 0=(0,0,0)):=by
   show _=_;rw[HC.o,EB.o,if_neg (fC.o.1 rfl)]
  obtain⟨⟨t0,t1,t2⟩,f0,f1,f2⟩:=Gt.o.cells;obtain⟨q0,q1,q2⟩:=FU Gt.o.2.1 (.int .i64 0) (.int .i64 0) (.int .i64 0);have HZ:Hid (∀W,ϐ w W->B4 Q G w (.returned (.agg #[.int .i64 0,.int .i64 0,.int .i64 0])) W):=fun W k=>⟨_,_,HQ.o,by rw[Bg.o],k⟩
  go_wp2_with fail;exact bodyPost_ret (v:=.agg #[.int .i64 0,.int .i64 0,.int .i64 0]) (by simp[results,results9,go_sem,q0,q1,q2]) rfl (HZ.o _ (Gt.o.put _ _ _))
def gy(b:Nat):Gr:=⟨some ⟨b,0,none⟩,1,[⟨⟨#[80,76,85,83]⟩,0,⟨#[92,43]⟩⟩],some ⟨b+1,0,none⟩,1,[⟨#[69]⟩],some ⟨b+4,0,none⟩,1,[⟨0,⟨#[65,100,100]⟩,some ⟨b+2,0,none⟩,3,[⟨true,0⟩,⟨false,0⟩,⟨true,0⟩],false,-1,some ⟨b+3,0,none⟩,2,[0,0]⟩],none,0,[],0⟩
theorem zip(b:Nat):mq (gy b):=by
 refine⟨show 1<=20 by decide,fun i hi _=>?_,show 1<=20 by decide,show 1<=40 by decide,show 0<=20 by decide,fun i hi=>?_,fun i hi=>?_,fun i hi=>?_⟩
 ·obtain rfl:i=0:=by have:i<1:=hi;omega
  exact⟨show 2<=40 by decide,show 4<=100 by decide⟩
 ·obtain rfl:i=0:=by have:i<1:=hi;omega
  exact show 1<=100 by decide
 ·obtain rfl:i=0:=by have:i<1:=hi;omega
  exact⟨show 3<=100 by decide,show 3<=20 by decide,show 2<=20 by decide⟩
 have:i<0:=hi;omega
theorem zk5(b:Nat):rJ (gy b) 0=⟨#[69,46,65,100,100,32,61,32,69,32,80,76,85,83,32,69]⟩:=by rfl
theorem zpJ(b:Nat):fU (gy b) 0=0:=Sm (show bG ⟨#[69]⟩=true by decide +kernel) (fun k hk=>by omega) (fun k hk=>by
 obtain rfl:k=0:=by have:k<1:=hk;omega
 show (⟨#[80,76,85,83]⟩:ByteArray)≠⟨#[69]⟩
 intro h
 have:(⟨#[80,76,85,83]⟩:ByteArray).data=(⟨#[69]⟩:ByteArray).data:=by rw[h]
 revert this
 decide)
theorem zpK(b:Nat):eV (gy b) 0=0:=by
 have h:=R3 (G:=gy b) (i:=0) (x:=⟨0,⟨#[65,100,100]⟩,some ⟨b+2,0,none⟩,3,[⟨true,0⟩,⟨false,0⟩,⟨true,0⟩],false,-1,some ⟨b+3,0,none⟩,2,[0,0]⟩) rfl (show ¬((0:Int)<0\/((1:Nat):Int)<=0) by decide) (show bG ⟨#[65,100,100]⟩=true by decide +kernel) (show ¬12<3 by decide) rfl;rw[h,if_neg (fun ⟨k,hk,_⟩=>by omega),if_neg,if_neg,if_neg (fun h=>h.1 rfl),if_neg (fun h=>by cases h.1)]
 ·rintro⟨z,hz,h⟩;have:z=0:=by
   have h1:z∈[(0:Int),0]:=hz;simpa using h1
  omega
 rintro⟨y,hy,h⟩;have h1:y∈[(⟨true,0⟩:Sy),⟨false,0⟩,⟨true,0⟩]:=hy;have h2:y=⟨true,0⟩\/y=⟨false,0⟩:=by
  simp at h1;rcases h1 with h1|h1
  ·exact inl h1
  exact h1.symm
 rcases h2 with rfl|rfl
 ·have:eH (gy b) ⟨true,0⟩=true:=by rfl
  rw[this] at h;cases h
 have:eH (gy b) ⟨false,0⟩=true:=by rfl
 rw[this] at h;cases h
theorem znk(b:Nat):dw (gy b)=(0,0,0):=by
 have h1:ma (fU (gy b)) (gy b).S.length=0:=tL (fun j hj=>by
  obtain rfl:j=0:=by have:j<1:=hj;omega
  exact zpJ b)
 have h2:ma (eV (gy b)) (gy b).P.length=0:=tL (fun j hj=>by
  obtain rfl:j=0:=by have:j<1:=hj;omega
  exact zpK b)
 have h3:ma (kg (gy b)) (gy b).L.length=0:=rfl;unfold dw;rw[if_neg (show ¬300<(gy b).S.length from (show ¬300<1 by decide)),if_neg (by rw[h1];simp),if_neg (show ¬200<(gy b).P.length from (show ¬200<1 by decide)),if_neg (by rw[h2];simp),if_neg (by rw[h3];simp),if_neg (show ¬((gy b).st<0\/((gy b).S.length:Int)<=(gy b).st) from (show ¬((0:Int)<0\/((1:Nat):Int)<=0) by decide))]
theorem JJ(a b:ByteArray):aa (a++b)=aa a++aa b:=by simp[aa,ByteArray.data_append]
theorem bq(a:ByteArray):(aa a).length=a.size:=by simp[aa]
def WrP(g:Nat)(l:List Nat)(t:ByteArray)(w:World)(e:Ending)(w':World):Prop:=e=.returned (.tuple #[.int .i64 ((t.size:Nat):Int),.nilIface])/\mV g g (l++aa t) w'/\Below g w w'/\Lib.OthersKept 5 (some g) w w'
theorem GK(g:Nat)(l:List Nat)(t:ByteArray)(w:World)(h:mV g g l w)(hs:l.length+t.size<=1000000)(hg:g<=w.heap.size):
  Calls prog 46 #[.pointer (some ⟨g,0,none⟩),.string t] w (WrP g l t w):=by
 have h1:=zjs g g l (aa t) w h (Al t) (by rw[bq];omega) hg;rw[MY,bq] at h1;exact h1
def LnA(w:World)(b b5 g:Nat)(G:Gr)(p:iF)(W0:World):Prop:=∀W',Below g W0 W'->jJ W' b G/\pJ W' b5 p/\G.At W'/\p.At W'/\ϐ w W'/\g<=W'.heap.size
theorem zjB(G:Gr)(i:Int)(w:World)(hA:G.At w)(hF:mq G):
  Calls prog 19 #[G.val,.int .i64 i] w (BK (rJ G i) w):=by
 show Calls prog 19 #[ϑ G,.int .i64 i] w _;unfold ϑ;have HA:=ζ hA hF;have sc:G.P.length<=1000000:=by have:=(hF.lim (m:=1000000) (by omega)).p;omega
 clear hA hF;obtain⟨w2,dQ,H,ib⟩:=xJ w G;go_in;go_upto_region 1 with fail
 try rw[dQ]
 clear dQ;obtain⟨b,hb⟩:=Ξ w.heap.size
 have HX:Hid (jJ w2 b G/\ϐ w w2):=by rw[<-hb];exact H.o
 rw[hb];clear hb H ib;have c2:=HX.o.1.c2;by_cases h0:0<=i/\i<(G.P.length:Int)
 case neg=>
  have HI:=hid (SH h0 w2);have HZ:=hid (zlg h0);clear h0;go_wp2_with (go_at_call 43;refine HI.o.mono ?_;rintro e w3 ⟨rfl,rfl⟩);go_ret;exact⟨by rw[HZ.o];rfl,HX.o.2⟩
 obtain⟨k,rfl⟩:=Int.eq_ofNat_of_zero_le h0.1;have HI:=hid (Up h0 w2);have hk:k<G.P.length:=by omega
 have HZ:=hid (znD hk);have Jf:=hid (HA.o.2.ps k hk);obtain⟨g1,o1,e1,_,X,x0,x1,x2,x3,x4,x5⟩:=(HA.o.1.below HX.o.2).p.get k hk;rw[DD hk] at HZ;rw[e1] at c2;have Ql:=hid X;have i9:(k:Int)<(G.P.length:Int):=h0.2;clear X h0;generalize G.P[k]=p at x0 x1 x2 x3 x4 x5 HZ Ql Jf;have PG:=pJ.new w2 p 47;have kb:=al w2 (.cells #[.int .i64 p.dF,.string p.dR,.slice p.ab p.body.length p.cb,.bool p.par,.int .i64 p.prec,.slice p.ah p.hints.length p.ch] 47);obtain⟨b5,nL⟩:=Ξ w2.heap.size
 obtain⟨W0,tX⟩:=Ξ (w2.alloc (.cells #[.int .i64 p.dF,.string p.dR,.slice p.ab p.body.length p.cb,.bool p.par,.int .i64 p.prec,.slice p.ah p.hints.length p.ch] 47))
 have pd:Hid (∀g,W0.heap.size=g->LnA w b b5 g G p W0):=fun g hg W' k=>by
  rw[tX] at PG kb;subst hg;rw[<-nL] at *;have k2:=(HX.o.2).trans ((kb.trans (k.mono kb.size)).mono HX.o.2.size);exact⟨(HX.o.1.below kb).below k,PG.below k,HA.o.1.below k2,(Ql.o.below kb).below k,k2,k.size⟩
 have so:=ζ (mV.new W0) (al W0 (.cells #[.pointer none,.slice none 0 0] 78));clear PG kb hk;go_upto_region 5 with (first
  | (go_at_call 43;refine HI.o.mono ?_;rintro e w3 ⟨rfl,rfl⟩))
 obtain⟨g,hg⟩:=Ξ W0.heap.size
 have mm:=hid (pd.o g hg);rw[hg] at so
 try rw[tX]
 try rw[nL]
 rw[hg];clear i9 pd tX nL hg HI e1 x0 x1 x2 x3 x4 x5 c2 Ql HX;generalize W0.alloc (.cells #[.pointer none,.slice none 0 0] 78)=W1 at so⊢;have ke:Hid (∀(y:Sy) W,Below g W0 W->Calls prog 45 #[ϑ G,.agg #[.bool y.s,.int .i64 y.n]] W (BK (mr G y) W)):=fun y W k=>zjI G y W (mm.o W k).2.2.1 (HA.o.2.lim (by omega))
 have Cu:=hid (fun y=>PD HA.o.2 y);have kd:ϐ W1 W1.drew:=⟨rfl,rfl,rfl,le_refl _,fun _ _=>rfl⟩
 have py:Hid (mV g g [] W1.drew/\Below g W0 W1.drew):=⟨so.o.1.ae kd,so.o.2.trans (kd.mono (mm.o _ so.o.2).2.2.2.2.2)⟩
 clear kd;generalize zy:W1.drew=W2 at py;refine wp_region_held_drew (S:=fun W'=>Below g W0 W') (by kernel_rfl) (by rw[zy];exact py.o.2) fun η=>?_;rw[zy] at η⊢;clear zy so;refine ay 0 (v:=ϑ G) ?_ (hy:=by intro wz hSw;obtain⟨mz,hq2,_⟩:=mm.o wz hSw;have y0:=mz.c0;have y1:=mz.c1;have y2:=mz.c2;have y3:=mz.c3;have y4:=mz.c4;have z0:=hq2.c0;(try simp only[Act.put,sA]);go_simp;first|done|with_reducible rfl)
 try simp only[Act.put,sA]
 refine ay 1 ?_ (hy:=by intro wz hSw;obtain⟨mz,hq2,_⟩:=mm.o wz hSw;have y0:=mz.c0;have y1:=mz.c1;have y2:=mz.c2;have y3:=mz.c3;have y4:=mz.c4;have z0:=hq2.c0;(try simp only[Act.put,sA]);go_simp;first|done|with_reducible rfl)
 try simp only[Act.put,sA]
 refine ay 2 ?_ (hy:=by intro wz hSw;obtain⟨mz,hq2,_⟩:=mm.o wz hSw;have y0:=mz.c0;have y1:=mz.c1;have y2:=mz.c2;have y3:=mz.c3;have y4:=mz.c4;have z0:=hq2.c0;(try simp only[Act.put,sA]);go_simp;first|done|with_reducible rfl)
 try simp only[Act.put,sA]
 refine bH 3 (fun K hK=>?_);go_simp;go_at_call 30;refine (AA _ _).mono ?_;rintro e w8 ⟨rfl,b8⟩;have zJ:Hid (mV g g [] w8/\Below g W0 w8):=⟨py.o.1.ae b8,η.trans (b8.mono (mm.o _ η).2.2.2.2.2)⟩
 clear b8 η py
 try go_wp2_with fail
 refine hK.out _ _ zJ.o.2 fun η=>?_;clear hK K;refine bH 4 (fun K hK=>?_);go_simp;go_at_call 45;refine (ke.o ⟨true,p.dF⟩ _ η).mono ?_;rintro e w9 ⟨rfl,b8⟩;have lk:Hid (mV g g [] w9/\Below g W0 w9):=⟨zJ.o.1.ae b8,η.trans (b8.mono (mm.o _ η).2.2.2.2.2)⟩
 clear b8 η zJ
 try go_wp2_with fail
 refine hK.out _ _ lk.o.2 fun η=>?_;clear hK K;refine bH 5 (fun K hK=>?_);go_simp;go_at_call 46;refine (GK g [] (mr G ⟨true,p.dF⟩) _ lk.o.1 (by have:=Cu.o ⟨true,p.dF⟩;simp only[List.length_nil];omega) (mm.o _ η).2.2.2.2.2).mono ?_;rintro e pP ⟨rfl,eC,b8,_⟩;have rj:Hid (mV g g (aa (mr G ⟨true,p.dF⟩)) pP/\Below g W0 pP):=⟨eC,η.trans b8⟩
 clear b8 eC η lk
 try go_wp2_with fail
 refine hK.out _ _ rj.o.2 fun η=>?_;clear hK K;refine wpAnyH_done (by kernel_rfl) ?_ _;have Q8:=hid (Cu.o ⟨true,p.dF⟩);have CZ:=hid (GK g (aa (mr G ⟨true,p.dF⟩)) ⟨#[46]⟩ pP rj.o.1 (by have:=Q8.o;rw[bq];show _+1<=_;omega) (mm.o _ rj.o.2).2.2.2.2.2);go_upto_region 7 with (go_at_call 46;refine CZ.o.mono ?_;rintro e w11 ⟨rfl,eC,b8,_⟩);have pt:=ζ eC (rj.o.2.trans b8);have z1:=(mm.o _ pt.o.2).2.1.c1;have lJ:=hid (GK g _ p.dR w11 pt.o.1 (by have:=Q8.o;have:=Jf.o.1;rw[length_append,bq,bq];show _+1+_<=_;omega) (mm.o _ pt.o.2).2.2.2.2.2);clear eC b8 CZ rj η;go_upto_region 8 with (go_at_call 46;refine lJ.o.mono ?_;rintro e w12 ⟨rfl,eC,b8,_⟩);have p8:=ζ eC (pt.o.2.trans b8);have wI:=hid (GK g _ ⟨#[32,61]⟩ w12 p8.o.1 (by have:=Q8.o;have:=Jf.o.1;rw[length_append,length_append,bq,bq,bq];show _+1+_+2<=_;omega) (mm.o _ p8.o.2).2.2.2.2.2);clear eC b8 lJ pt z1;go_upto_region 9 with (go_at_call 46;refine wI.o.mono ?_;rintro e Vi ⟨rfl,eC,b8,_⟩);have zW:Hid (mV g g (aa (kB G p 0)) Vi/\Below g W0 Vi):=⟨by
  show mV g g (aa (((mr G ⟨true,p.dF⟩++⟨#[46]⟩)++p.dR)++⟨#[32,61]⟩)) Vi
  rw[JJ,JJ,JJ];exact eC,p8.o.2.trans b8⟩
 have z2:=(mm.o _ zW.o.2).2.1.c2;obtain⟨n,hn⟩:=Ξ p.body.length
 have HN:=hid hn;rw[hn] at z2;have nU:n<=20:=by have:=Jf.o.2.1;omega
 clear eC b8 wI p8 hn;go_wp2;go_loopw [8,34] (fun _ v wr=>∃k:Nat,v=.int .i64 (k:Int)/\k<=n/\Hid (mV g g (aa (kB G p k)) wr/\Below g W0 wr)) (fun _ v _=>n-(intOf v).toNat)
 ·exact⟨0,rfl,zero_le _,zW.o⟩
 clear zW z2;obtain⟨q,rfl,hq,HR⟩:=hrel;by_cases aq:q<n
 case neg=>
  obtain rfl:q=n:=by omega
  have HT:=hid (zm4 g g (aa (kB G p q)) wr HR.o.1 (Al _) (mm.o _ HR.o.2).2.2.2.2.2);go_wp2_with (go_at_call 47;refine HT.o.mono ?_;rintro e w14 ⟨rfl,b8⟩);go_ret;refine⟨?_,(mm.o _ (HR.o.2.trans b8)).2.2.2.2.1⟩;rw[HZ.o,HN.o,MY];rfl
 have hkl:q<p.body.length:=by rw[HN.o];exact aq
 obtain⟨g1,o1,e1,_,y0,y1⟩:=(mm.o _ HR.o.2).2.2.2.1.b.get q hkl;have HU:Hid (kB G p (q+1)=(kB G p q++⟨#[32]⟩)++mr G p.body[q]):=by show _=_;simp[kB,hkl]
 have Ww:=hid (zlf HA.o.2 Jf.o.1 q);have i1:(q:Int)<n:=by omega
 generalize p.body[q]=y at y0 y1 HU;obtain⟨ys,yn⟩:=y;dsimp only at y0 y1;have z2:=(mm.o _ HR.o.2).2.1.c2;rw[HN.o,e1] at z2;have kS:=al wr (.cells #[.bool ys,.int .i64 yn] 38);have sS:=xz.new wr ⟨ys,yn⟩ 38;obtain⟨b8,NA⟩:=Ξ wr.heap.size
 have dX:Hid ((wr.alloc (.cells #[.bool ys,.int .i64 yn] 38)).heap[b8]?=some (.cells #[.bool ys,.int .i64 yn] 38 (0,0))/\mV g g (aa (kB G p q)) (wr.alloc (.cells #[.bool ys,.int .i64 yn] 38))/\Below g W0 (wr.alloc (.cells #[.bool ys,.int .i64 yn] 38))/\g<b8):=⟨by rw[<-NA];exact heap_alloc_new wr _,HR.o.1.ae kS,HR.o.2.trans (kS.mono (mm.o _ HR.o.2).2.2.2.2.2),by rw[<-NA];exact HR.o.1.lt⟩
 clear kS sS hkl;go_upto_region 12 with fail
 try rw[NA]
 clear NA y0 y1 z2 e1;generalize wr.alloc (.cells #[.bool ys,.int .i64 yn] 38)=W3 at dX⊢;have HW:=hid (GK g _ ⟨#[32]⟩ W3 dX.o.2.1 (by have:=Ww.o;rw[bq];show _+1<=_;omega) (mm.o _ dX.o.2.2.1).2.2.2.2.2);go_upto_region 13 with (go_at_call 46;refine HW.o.mono ?_;rintro e w4 ⟨rfl,eC,b9,YK⟩);have h8:=YK b8 _ dX.o.1 (by have:=dX.o.2.2.2;simp;omega) (fun c fz e=>by injection e with _ e2;exact absurd e2 (by decide));have u0:w4.cell? ⟨b8,0,none⟩=some (.bool ys):=by rw[cell_of_row w4 _ 0 _ _ _ h8];rfl
 have u1:w4.cell? ⟨b8,1,none⟩=some (.int .i64 yn):=by rw[cell_of_row w4 _ 1 _ _ _ h8];rfl
 have xP:Hid (mV g g (aa (kB G p q)++aa ⟨#[32]⟩) w4/\Below g W0 w4):=⟨eC,dX.o.2.2.1.trans b9⟩
 have hG:=(mm.o _ xP.o.2).1;have y0:=hG.c0;have y1:=hG.c1;have y2:=hG.c2;have y3:=hG.c3;have y4:=hG.c4;have HN9:=hid (ke.o ⟨ys,yn⟩ w4 xP.o.2);clear eC b9 YK h8 HW dX hG HR;go_wp2_with (go_at_call 45;refine HN9.o.mono ?_;rintro e w5 ⟨rfl,b9⟩;refine Hid.o ?_);refine hid ?_;have MZ:Hid (mV g g (aa (kB G p q)++aa ⟨#[32]⟩) w5/\Below g W0 w5):=⟨xP.o.1.ae b9,xP.o.2.trans (b9.mono (mm.o _ xP.o.2).2.2.2.2.2)⟩
 clear b9 HN9 xP u0 u1 y0 y1 y2 y3 y4;have HW:=hid (GK g _ (mr G ⟨ys,yn⟩) w5 MZ.o.1 (by have:=Ww.o;have:=Cu.o ⟨ys,yn⟩;rw[length_append,bq,bq];show _+1+_<=_;omega) (mm.o _ MZ.o.2).2.2.2.2.2);go_wp2_with (go_at_call 46;refine HW.o.mono ?_;rintro e w6 ⟨rfl,eC,b9,_⟩;refine Hid.o ?_);refine hid ?_;have HBA:Hid (mV g g (aa (kB G p (q+1))) w6/\Below g W0 w6):=⟨by rw[HU.o,JJ,JJ];exact eC,MZ.o.2.trans b9⟩
 clear eC b9 HW MZ;go_wp2;go_roundw
 ·exact⟨q+1,by go_num,by omega,HBA.o⟩
 simp[intOf];omega
theorem zpL(c:Nat)(hc:c<256)(s:List Nat):fj (.leaf ⟨1,fu (fun _=>c) 1⟩) s↔s=[c]:=by
 rw[CU,if_pos rfl];constructor
 ·rintro⟨b,rfl,_,h⟩;obtain⟨j,_,e⟩:=(SY _ _ _).1 h;rw[<-e]
 rintro rfl;exact⟨c,rfl,hc,(SY _ _ _).2 ⟨0,by omega,rfl⟩⟩
theorem znl{pre:List Ru}{x:Ru}{er:Int}(h:Ik pre x er)(h1:bG x.nm=true)(h2:∀y∈pre,y.nm≠x.nm)(h3:iA x.k=true){t:Rx}(ht:kP x.rx t)(hn:nB (gn t 0)<=2)(he:¬fj t []):er=0:=by
 rcases h with ⟨h4,_⟩|⟨_,⟨⟨y,hy,e⟩,_⟩|⟨_,⟨h4,_⟩|⟨_,⟨e5,h4,_⟩|⟨t',zj,h5⟩⟩⟩⟩
 ·rw[h1] at h4;cases h4
 ·exact absurd e (h2 y hy)
 ·rw[h3] at h4;cases h4
 ·exact (ht.tY h4).elim
 have hf:=zj.flat ht;have hE:=zi6 zj.1 ht.1 hf;rcases h5 with ⟨h6,_⟩|⟨h6,_⟩|⟨_,h6⟩
 ·have h6:=h6.1;rw[hE] at h6;have:2 ^ nB (gn t 0)<=2 ^ 2:=Nat.pow_le_pow_right (by omega) hn;omega
 ·refine absurd ?_ he;have:=(zi7 zj.1 ht.1 hf (fun _=>0) (fun _=>by omega) 0).1;exact this h6
 exact h6
def Qc:Rx:=.leaf ⟨1,fu (fun _=>43) 1⟩
def EX:ByteArray:=⟨#[92,43]⟩
def E6:ByteArray:=⟨#[80,76,85,83]⟩
theorem zq3:kP EX Qc:=⟨⟨rfl,by decide +kernel⟩,by kernel_rfl,by decide +kernel⟩
theorem zq4:nB (gn Qc 0)<=2:=by decide +kernel
theorem znm{e:Ending}(h:EW [⟨E6,0,EX⟩] w e w'):e=.returned (.tuple #[.int .i64 1,.int .i64 0])/\ϐ w w':=by
 refine⟨?_,h.1⟩;rcases h.2 with ⟨h1,_⟩|⟨i,hi,er,hne,_,hr,_⟩|⟨_,_,rfl⟩
 ·simp at h1
 ·exfalso;obtain rfl:i=0:=by simpa using hi
  exact hne (znl (t:=Qc) hr (show bG E6=true by decide +kernel) (fun y hy=>by simp at hy) (show iA 0=true by decide) zq3 zq4 (fun hh=>by have:=(zpL 43 (by omega) []).1 hh;simp at this))
 rfl
theorem zpM(hz:n+5<=W.heap.size)(g0:W.heap[n]?=some (.cells #[.string ⟨#[80,76,85,83]⟩,.int .i64 0,.string ⟨#[92,43]⟩] 55 (0,0)))(g1:W.heap[n+1]?=some (.cells #[.string ⟨#[69]⟩] 9 (0,0)))
  (g2:W.heap[n+2]?=some (.cells #[.bool true,.int .i64 0,.bool false,.int .i64 0,.bool true,.int .i64 0] 38 (0,0))) (g3:W.heap[n+3]?=some (.cells #[.int .i64 0,.int .i64 0] 3 (0,0)))
  (g4:W.heap[n+4]?=some (.cells #[.int .i64 0,.string ⟨#[65,100,100]⟩,.slice (some ⟨n+2,0,none⟩) 3 3,.bool false,.int .i64 (-1),.slice (some ⟨n+3,0,none⟩) 2 2] 47 (0,0))):(gy n).At W:=by
 refine⟨fun _=>⟨n,0,rfl,by omega,fun j hj=>?_⟩,fun _=>⟨n+1,0,rfl,by omega,fun j hj=>?_⟩,fun _=>⟨n+4,0,rfl,by omega,fun i hi=>?_⟩,fun h=>absurd h (by show ¬0<0;omega)⟩
 ·have h3:j<3:=hj;rw[cell_of_row W _ _ _ _ _ g0];rcases (by omega:j=0\/j=1\/j=2) with rfl|rfl|rfl <;> rfl
 ·obtain rfl:j=0:=by have:j<1:=hj;omega
  rw[cell_of_row W _ _ _ _ _ g1];rfl
 obtain rfl:i=0:=by have:i<1:=hi;omega
 refine⟨⟨fun _=>⟨n+2,0,rfl,by omega,fun i hi j hj=>?_⟩,fun _=>⟨n+3,0,rfl,by omega,fun j hj=>?_⟩⟩,fun j hj=>?_⟩
 ·have h3:i<3:=hi;rw[cell_of_row W _ _ _ _ _ g2];rcases (by omega:i=0\/i=1\/i=2) with rfl|rfl|rfl <;> rcases (by omega:j=0\/j=1) with rfl|rfl <;> rfl
 ·have h3:j<2:=hj;rw[cell_of_row W _ _ _ _ _ g3];rcases (by omega:j=0\/j=1) with rfl|rfl <;> rfl
 rw[cell_of_row W _ _ _ _ _ g4];rcases (by omega:j=0\/j=1\/j=2\/j=3\/j=4\/j=5) with rfl|rfl|rfl|rfl|rfl|rfl <;> rfl
theorem zho(w:World):Calls prog 7 #[] w (kX w):=by
 obtain⟨n,hn⟩:=Ξ w.heap.size
 obtain⟨W1,h1⟩:=Ξ (w.alloc (.cells #[.string ⟨#[80,76,85,83]⟩,.int .i64 0,.string ⟨#[92,43]⟩] 55))
 have k1:=al w (.cells #[.string ⟨#[80,76,85,83]⟩,.int .i64 0,.string ⟨#[92,43]⟩] 55);have g1:=heap_alloc_new w (.cells #[.string ⟨#[80,76,85,83]⟩,.int .i64 0,.string ⟨#[92,43]⟩] 55);have z1:W1.heap.size=n+1:=by rw[<-h1];simp[hn]
 rw[h1] at k1 g1;rw[hn] at g1 k1;obtain⟨W2,h2⟩:=Ξ (W1.alloc (.cells #[.string ⟨#[69]⟩] 9))
 have k2:=al W1 (.cells #[.string ⟨#[69]⟩] 9);have g2:=heap_alloc_new W1 (.cells #[.string ⟨#[69]⟩] 9);have z2:W2.heap.size=n+2:=by rw[<-h2];simp[z1]
 rw[h2] at k2 g2;rw[z1] at g2 k2;obtain⟨W3,h3⟩:=Ξ (W2.alloc (.cells #[.bool true,.int .i64 0,.bool false,.int .i64 0,.bool true,.int .i64 0] 38))
 have k3:=al W2 (.cells #[.bool true,.int .i64 0,.bool false,.int .i64 0,.bool true,.int .i64 0] 38);have g3:=heap_alloc_new W2 (.cells #[.bool true,.int .i64 0,.bool false,.int .i64 0,.bool true,.int .i64 0] 38);have z3:W3.heap.size=n+3:=by rw[<-h3];simp[z2]
 rw[h3] at k3 g3;rw[z2] at g3 k3;obtain⟨W4,h4⟩:=Ξ (W3.alloc (.cells #[.int .i64 0,.int .i64 0] 3))
 have k4:=al W3 (.cells #[.int .i64 0,.int .i64 0] 3);have g4:=heap_alloc_new W3 (.cells #[.int .i64 0,.int .i64 0] 3);have z4:W4.heap.size=n+4:=by rw[<-h4];simp[z3]
 rw[h4] at k4 g4;rw[z3] at g4 k4;obtain⟨W5,h5⟩:=Ξ (W4.alloc (.cells #[.int .i64 0,.string ⟨#[65,100,100]⟩,.slice (some ⟨n+1+1,0,none⟩) 3 3,.bool false,.int .i64 (-1),.slice (some ⟨n+1+1+1,0,none⟩) 2 2] 47))
 have k5:=al W4 (.cells #[.int .i64 0,.string ⟨#[65,100,100]⟩,.slice (some ⟨n+1+1,0,none⟩) 3 3,.bool false,.int .i64 (-1),.slice (some ⟨n+1+1+1,0,none⟩) 2 2] 47);have g5:=heap_alloc_new W4 (.cells #[.int .i64 0,.string ⟨#[65,100,100]⟩,.slice (some ⟨n+1+1,0,none⟩) 3 3,.bool false,.int .i64 (-1),.slice (some ⟨n+1+1+1,0,none⟩) 2 2] 47);have z5:W5.heap.size=n+5:=by rw[<-h5];simp[z4]
 rw[h5] at k5 g5;rw[z4] at g5 k5;obtain⟨W6,h6⟩:=Ξ (W5.alloc (.cells #[.slice (some ⟨n,0,none⟩) 1 1,.slice (some ⟨n+1,0,none⟩) 1 1,.slice (some ⟨n+1+1+1+1,0,none⟩) 1 1,.slice none 0 0,.int .i64 0] 27))
 have k6:=al W5 (.cells #[.slice (some ⟨n,0,none⟩) 1 1,.slice (some ⟨n+1,0,none⟩) 1 1,.slice (some ⟨n+1+1+1+1,0,none⟩) 1 1,.slice none 0 0,.int .i64 0] 27);have g6:=heap_alloc_new W5 (.cells #[.slice (some ⟨n,0,none⟩) 1 1,.slice (some ⟨n+1,0,none⟩) 1 1,.slice (some ⟨n+1+1+1+1,0,none⟩) 1 1,.slice none 0 0,.int .i64 0] 27);have z6:W6.heap.size=n+6:=by rw[<-h6];simp[z5]
 rw[h6] at k6 g6;rw[z5] at g6 k6;have e2:W6.heap[n+1]?=_:=(k6.block _ (by omega)).trans ((k5.block _ (by omega)).trans ((k4.block _ (by omega)).trans ((k3.block _ (by omega)).trans g2)));have e1:W6.heap[n]?=_:=(k6.block _ (by omega)).trans ((k5.block _ (by omega)).trans ((k4.block _ (by omega)).trans ((k3.block _ (by omega)).trans ((k2.block _ (by omega)).trans g1))));have e3:W6.heap[n+2]?=_:=(k6.block _ (by omega)).trans ((k5.block _ (by omega)).trans ((k4.block _ (by omega)).trans g3));have e4:W6.heap[n+3]?=_:=(k6.block _ (by omega)).trans ((k5.block _ (by omega)).trans g4);have e5:W6.heap[n+4]?=_:=(k6.block _ (by omega)).trans g5;have HA:=hid (zpM (by omega) e1 e2 e3 e4 e5);have HG:Hid (jJ W6 (n+5) (gy n)):=⟨by rw[cell_of_row W6 _ _ _ _ _ g6];rfl,by rw[cell_of_row W6 _ _ _ _ _ g6];rfl,by rw[cell_of_row W6 _ _ _ _ _ g6];rfl,by rw[cell_of_row W6 _ _ _ _ _ g6];rfl,by rw[cell_of_row W6 _ _ _ _ _ g6];rfl,by omega⟩
 have HB:Hid (Below n w W6):=(((((k1.trans (k2.mono (by omega))).trans (k3.mono (by omega))).trans (k4.mono (by omega))).trans (k5.mono (by omega))).trans (k6.mono (by omega)))
 have Hh:=hid (Zz h1 (Zz h2 (Zz h3 (Zz h4 (Zz h5 h6)))));have Hn:=hid hn;have Hz:=hid z6;clear k1 k2 k3 k4 k5 k6 g1 g2 g3 g4 g5 g6 z1 z2 z3 z4 z5 z6 e1 e2 e3 e4 e5 h1 h2 h3 h4 h5 h6 hn;go_in;go_upto_region 2 with fail;rw[Hn.o,Hh.o.1,Hh.o.2.1,Hh.o.2.2.1,Hh.o.2.2.2.1,Hh.o.2.2.2.2.1,Hh.o.2.2.2.2.2];have XK:Hid (Calls prog 19 #[.agg #[.slice (some ⟨n,0,none⟩) 1 1,.slice (some ⟨n+1,0,none⟩) 1 1,.slice (some ⟨n+1+1+1+1,0,none⟩) 1 1,.slice none 0 0,.int .i64 0],.int .i64 0] W6 (BK ⟨#[69,46,65,100,100,32,61,32,69,32,80,76,85,83,32,69]⟩ W6)):=by
  have h9:=zjB (gy n) 0 W6 HA.o (zip n);rw[zk5] at h9;exact h9
 have CL:Hid (∀W,ϐ W6 W->Calls prog 9 #[.agg #[.slice (some ⟨n,0,none⟩) 1 1,.slice (some ⟨n+1,0,none⟩) 1 1,.slice (some ⟨n+1+1+1+1,0,none⟩) 1 1,.slice none 0 0,.int .i64 0]] W (fun e w'=>e=.returned (.agg #[.int .i64 0,.int .i64 0,.int .i64 0])/\ϐ W w')):=fun W kW=>by
  refine (zd5 (fun i er=>i=1/\er=0) (gy n) W (HA.o.below kW) ((zip n).lim (by omega)) (fun W' k'=>?_)).mono ?_
  ·refine (ze4 1 1 (some ⟨n,0,none⟩) [⟨E6,0,EX⟩] rfl (by omega) (le_refl _) (fun j hj=>?_) W' ((HA.o.below kW).below k').r).mono ?_
   ·obtain rfl:j=0:=(by have:j<1:=hj;omega);exact⟨show 4<=maxLen by unfold maxLen;omega,show 2<=1600 by omega⟩
   intro e w' h;obtain⟨h1,h2⟩:=znm h;exact⟨1,0,h1,⟨rfl,rfl⟩,h2⟩
  rintro e w' ⟨i,er,⟨rfl,rfl⟩,rfl,hb⟩;rw[show ji (gy n) 1 0=(0,0,0) by rw[<-znk n];exact if_neg (by simp)];exact⟨rfl,hb⟩
 have HD:Hid (∀W,ϐ W6 W->W.cell? ⟨n+1+1+1+1+1,0,none⟩=some (.slice (some ⟨n,0,none⟩) 1 1)/\W.cell? ⟨n+1+1+1+1+1,1,none⟩=some (.slice (some ⟨n+1,0,none⟩) 1 1)/\W.cell? ⟨n+1+1+1+1+1,2,none⟩=some (.slice (some ⟨n+1+1+1+1,0,none⟩) 1 1)/\W.cell? ⟨n+1+1+1+1+1,3,none⟩=some (.slice none 0 0)/\W.cell? ⟨n+1+1+1+1+1,4,none⟩=some (.int .i64 0)):=fun W k=>by
  have h9:=HG.o.below k;exact⟨h9.c0,h9.c1,h9.c2,h9.c3,h9.c4⟩
 obtain⟨c0,c1,c2,c3,c4⟩:=HD.o W6 (Below.refl _ _);go_wp2_with (go_at_call 19;refine XK.o.mono ?_;rintro e w7 ⟨rfl,b7⟩;refine Hid.o ?_);refine hid ?_;have zW:=hid b7;clear c0 c1 c2 c3 c4 XK b7;obtain⟨c0,c1,c2,c3,c4⟩:=HD.o w7 zW.o;have Ol:=hid (CL.o w7 zW.o);go_wp2_with (go_at_call 9;refine Ol.o.mono ?_;rintro e w8 ⟨rfl,b8⟩);go_ret;refine⟨rfl,?_⟩;unfold ϐ;rw[Hn.o];exact HB.o.trans ((zW.o.mono (by have:=Hz.o;omega)).trans (b8.mono (by have:=zW.o.size;have:=Hz.o;omega)))
