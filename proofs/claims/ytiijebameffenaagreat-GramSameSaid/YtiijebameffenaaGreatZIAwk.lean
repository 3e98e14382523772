import Derived.Test.YtiijebameffenaaGreatZIPFn
import Derived.Test.YtiijebameffenaaGreatZQLan
set_option linter.all false
set_option maxHeartbeats 8000000
set_option maxRecDepth 100000
open Go.Lib (hid)
namespace Go.Proofs.YtiijebameffenaaGreat
open Go.RowKit Go.Maps Go.WideElems Go.ChangeMaps Go.MapKept Go.Proofs.Tryz
open Nat (le_refl lt_of_lt_of_le zero_le)
open List (getElem_mem getElem_of_mem length_append range)
open Or (inl inr)
variable {B g i k n:Nat}{G:Gr}{W w w' wr:World}{a e:Int}
structure oU (B:Nat)(w:World)(b g o cb:Nat)(bF bn:Int)(a0 b0 d0:Bool)(W:World):Prop where
 c0:W.cell? ⟨b,0,none⟩=some (.int .i64 bF)
 c2:W.cell? ⟨b,2,none⟩=some (.slice (some ⟨g,o,none⟩) 3 cb)
 x0:W.cell? ⟨g,o,none⟩=some (.bool a0)
 y0:W.cell? ⟨g,o+1*2,none⟩=some (.bool b0)
 y1:W.cell? ⟨g,o+1*2+1,none⟩=some (.int .i64 bn)
 z0:W.cell? ⟨g,o+2*2,none⟩=some (.bool d0)
 bb:b<W.heap.size
 gg:g<W.heap.size
 k:Below B w W
 le:B<=W.heap.size
theorem oU.aa{b o cb:Nat}{bF bn:Int}{a0 b0 d0:Bool}{W':World}(h:oU B w b g o cb bF bn a0 b0 d0 W)(k:Below W.heap.size W W'):oU B w b g o cb bF bn a0 b0 d0 W':=
 ⟨(k.cell (p:=⟨b,0,none⟩) h.bb).trans h.c0,(k.cell (p:=⟨b,2,none⟩) h.bb).trans h.c2,(k.cell (p:=⟨g,o,none⟩) h.gg).trans h.x0,(k.cell (p:=⟨g,o+1*2,none⟩) h.gg).trans h.y0,(k.cell (p:=⟨g,o+1*2+1,none⟩) h.gg).trans h.y1,(k.cell (p:=⟨g,o+2*2,none⟩) h.gg).trans h.z0,lt_of_lt_of_le h.bb k.size,lt_of_lt_of_le h.gg k.size,h.k.trans (k.mono h.le),Nat.le_trans h.le k.size⟩
theorem zh0(p:gK)(w:World)(hA:p.At w)(hl:p.body.length<=9223372036854775807):
  Calls prog 20 #[p.val] w (mB (gp p) w):=by
 show Calls prog 20 #[.agg #[.int .i64 p.bF,.string p.bG,.slice p.ab p.body.length p.cb,.bool p.par,.int .i64 p.prec,.slice p.ah p.hints.length p.ch]] w _;have HA:=hid hA;clear hA;obtain⟨w2,bK⟩:∃w2,(w.alloc (.cells #[.int .i64 p.bF,.string p.bG,.slice p.ab p.body.length p.cb,.bool p.par,.int .i64 p.prec,.slice p.ah p.hints.length p.ch] 47))=w2:=⟨_,rfl⟩
 have H:Hid (lF w2 w.heap.size p/\Below w.heap.size w w2):=by
  rw[<-bK];have k0:=al w (.cells #[.int .i64 p.bF,.string p.bG,.slice p.ab p.body.length p.cb,.bool p.par,.int .i64 p.prec,.slice p.ah p.hints.length p.ch] 47);exact⟨(lF.new w p 47),k0⟩
 have jC:Hid (w2.heap.size=w.heap.size+1):=by show _=_;rw[<-bK];simp
 go_enter func20,ntmps20;go_upto_region 1 with fail
 try rw[bK]
 clear bK;have HB:=hid H.out.2;have c0:=H.out.1.c0;have c2:=H.out.1.c2;have Ec:Below w.heap.size w w2.drew:=HB.out.drew;by_cases h3:p.body.length=3
 ·have HE:=hid (zlk h3);have k0:0<p.body.length:=by omega
  have k1:1<p.body.length:=by omega
  have k2:2<p.body.length:=by omega
  obtain⟨g,o,e,q0,x0,x1⟩:=(HA.out.b.below HB.out).get 0 k0;obtain⟨g',o',e',q1,y0,y1⟩:=(HA.out.b.below HB.out).get 1 k1;obtain⟨g'',o'',Kc,q2,z0,z1⟩:=(HA.out.b.below HB.out).get 2 k2;clear x1 z1 q1 q2;rw[e] at e' Kc;injection e' with e';injection e' with e1 e2;injection Kc with Kc;injection Kc with e3 e4;subst e1 e2 e3 e4;rw[Nat.zero_mul,Nat.add_zero] at x0;rw[h3,e] at c2;have HS:Hid (oU w.heap.size w w.heap.size g o p.cb p.bF p.body[1].n p.body[0].s p.body[1].s p.body[2].s w2.drew):=⟨c0,c2,x0,y0,y1,z0,H.out.1.lt,q0,Ec,HB.out.size⟩
  generalize p.body[0].s=a0 at HS HE;generalize p.body[1].s=b0 at HS HE;generalize p.body[1].n=bn at HS HE;generalize p.body[2].s=d0 at HS HE;clear k0 k1 k2 hl c0 c2 x0 y0 y1 z0 H HA e h3 q0 Ec;obtain⟨b,hb⟩:∃b,w.heap.size=b:=⟨_,rfl⟩
  have pj:Hid (oU w.heap.size w b g o p.cb p.bF bn a0 b0 d0 w2.drew):=by rw[<-hb];exact HS.out
  rw[hb];clear hb HS HB;cases a0 with
  | true=>
   refine wp_region_held_drew (S:=fun W'=>oU w.heap.size w b g o p.cb p.bF bn true b0 d0 W') (by kernel_rfl) (pj.out) (fun hHeld=>?_);refine ak 0 ?_ (hy:=by intro wz hSw;have y0:=hSw.c0;have y1:=hSw.c2;have y2:=hSw.x0;have y3:=hSw.y0;have y4:=hSw.y1;have y5:=hSw.z0;(try simp only[Act.put,sA,sB,sC]);go_simp;first|done|with_reducible rfl)
   try simp only[Act.put,sA,sB,sC]
   refine ak 1 ?_ (hy:=by intro wz hSw;have y0:=hSw.c0;have y1:=hSw.c2;have y2:=hSw.x0;have y3:=hSw.y0;have y4:=hSw.y1;have y5:=hSw.z0;(try simp only[Act.put,sA,sB,sC]);go_simp;first|done|with_reducible rfl)
   try simp only[Act.put,sA,sB,sC]
   refine ak 2 ?_ (hy:=by intro wz hSw;have y0:=hSw.c0;have y1:=hSw.c2;have y2:=hSw.x0;have y3:=hSw.y0;have y4:=hSw.y1;have y5:=hSw.z0;(try simp only[Act.put,sA,sB,sC]);go_simp;first|done|with_reducible rfl)
   try simp only[Act.put,sA,sB,sC]
   refine ak 3 (v:=.bool true) ?_ (hy:=by intro wz hSw;have y0:=hSw.c0;have y1:=hSw.c2;have y2:=hSw.x0;have y3:=hSw.y0;have y4:=hSw.y1;have y5:=hSw.z0;(try simp only[Act.put,sA,sB,sC]);go_simp;first|done|with_reducible rfl)
   try simp only[Act.put,sA,sB,sC]
   refine ak 4 ?_ (hy:=by intro wz hSw;have y0:=hSw.c0;have y1:=hSw.c2;have y2:=hSw.x0;have y3:=hSw.y0;have y4:=hSw.y1;have y5:=hSw.z0;(try simp only[Act.put,sA,sB,sC]);go_simp;first|done|with_reducible rfl)
   try simp only[Act.put,sA,sB,sC]
   refine ak 5 ?_ (hy:=by intro wz hSw;have y0:=hSw.c0;have y1:=hSw.c2;have y2:=hSw.x0;have y3:=hSw.y0;have y4:=hSw.y1;have y5:=hSw.z0;(try simp only[Act.put,sA,sB,sC]);go_simp;first|done|with_reducible rfl)
   try simp only[Act.put,sA,sB,sC]
   refine ak 6 ?_ (hy:=by intro wz hSw;have y0:=hSw.c0;have y1:=hSw.c2;have y2:=hSw.x0;have y3:=hSw.y0;have y4:=hSw.y1;have y5:=hSw.z0;(try simp only[Act.put,sA,sB,sC]);go_simp;first|done|with_reducible rfl)
   try simp only[Act.put,sA,sB,sC]
   refine ak 7 ?_ (hy:=by intro wz hSw;have y0:=hSw.c0;have y1:=hSw.c2;have y2:=hSw.x0;have y3:=hSw.y0;have y4:=hSw.y1;have y5:=hSw.z0;(try simp only[Act.put,sA,sB,sC]);go_simp;first|done|with_reducible rfl)
   try simp only[Act.put,sA,sB,sC]
   refine ak 8 ?_ (hy:=by intro wz hSw;have y0:=hSw.c0;have y1:=hSw.c2;have y2:=hSw.x0;have y3:=hSw.y0;have y4:=hSw.y1;have y5:=hSw.z0;(try simp only[Act.put,sA,sB,sC]);go_simp;first|done|with_reducible rfl)
   try simp only[Act.put,sA,sB,sC]
   refine ak 9 ?_ (hy:=by intro wz hSw;have y0:=hSw.c0;have y1:=hSw.c2;have y2:=hSw.x0;have y3:=hSw.y0;have y4:=hSw.y1;have y5:=hSw.z0;(try simp only[Act.put,sA,sB,sC]);go_simp;first|done|with_reducible rfl)
   try simp only[Act.put,sA,sB,sC]
   refine ak 10 ?_ (hy:=by intro wz hSw;have y0:=hSw.c0;have y1:=hSw.c2;have y2:=hSw.x0;have y3:=hSw.y0;have y4:=hSw.y1;have y5:=hSw.z0;(try simp only[Act.put,sA,sB,sC]);go_simp;first|done|with_reducible rfl)
   try simp only[Act.put,sA,sB,sC]
   refine ak 11 ?_ (hy:=by intro wz hSw;have y0:=hSw.c0;have y1:=hSw.c2;have y2:=hSw.x0;have y3:=hSw.y0;have y4:=hSw.y1;have y5:=hSw.z0;(try simp only[Act.put,sA,sB,sC]);go_simp;first|done|with_reducible rfl)
   try simp only[Act.put,sA,sB,sC]
   refine ak 12 ?_ (hy:=by intro wz hSw;have y0:=hSw.c0;have y1:=hSw.c2;have y2:=hSw.x0;have y3:=hSw.y0;have y4:=hSw.y1;have y5:=hSw.z0;(try simp only[Act.put,sA,sB,sC]);go_simp;first|done|with_reducible rfl)
   try simp only[Act.put,sA,sB,sC]
   refine dg 13 ?_
   try simp only[Act.put,sA,sB,sC]
   refine dg 14 ?_
   try simp only[Act.put,sA,sB,sC]
   refine dg 15 ?_
   try simp only[Act.put,sA,sB,sC]
   refine dg 16 ?_
   try simp only[Act.put,sA,sB,sC]
   refine dg 17 ?_
   try simp only[Act.put,sA,sB,sC]
   refine dg 18 ?_
   try simp only[Act.put,sA,sB,sC]
   refine dg 19 ?_
   try simp only[Act.put,sA,sB,sC]
   refine dg 20 ?_
   try simp only[Act.put,sA,sB,sC]
   refine ak 21 ?_ (hy:=by intro wz hSw;have y0:=hSw.c0;have y1:=hSw.c2;have y2:=hSw.x0;have y3:=hSw.y0;have y4:=hSw.y1;have y5:=hSw.z0;(try simp only[Act.put,sA,sB,sC]);go_simp;first|done|with_reducible rfl)
   try simp only[Act.put,sA,sB,sC]
   refine ak 22 ?_ (hy:=by intro wz hSw;have y0:=hSw.c0;have y1:=hSw.c2;have y2:=hSw.x0;have y3:=hSw.y0;have y4:=hSw.y1;have y5:=hSw.z0;(try simp only[Act.put,sA,sB,sC]);go_simp;first|done|with_reducible rfl)
   try simp only[Act.put,sA,sB,sC]
   refine dg 23 ?_
   try simp only[Act.put,sA,sB,sC]
   refine dg 24 ?_
   try simp only[Act.put,sA,sB,sC]
   refine dg 25 ?_
   try simp only[Act.put,sA,sB,sC]
   refine dg 26 ?_
   try simp only[Act.put,sA,sB,sC]
   refine dg 27 ?_
   try simp only[Act.put,sA,sB,sC]
   refine dg 28 ?_
   try simp only[Act.put,sA,sB,sC]
   refine ak 29 ?_ (hy:=by intro wz hSw;have y0:=hSw.c0;have y1:=hSw.c2;have y2:=hSw.x0;have y3:=hSw.y0;have y4:=hSw.y1;have y5:=hSw.z0;(try simp only[Act.put,sA,sB,sC]);go_simp;first|done|with_reducible rfl)
   try simp only[Act.put,sA,sB,sC]
   refine ak 30 ?_ (hy:=by intro wz hSw;have y0:=hSw.c0;have y1:=hSw.c2;have y2:=hSw.x0;have y3:=hSw.y0;have y4:=hSw.y1;have y5:=hSw.z0;(try simp only[Act.put,sA,sB,sC]);go_simp;first|done|with_reducible rfl)
   try simp only[Act.put,sA,sB,sC]
   refine wpAnyH_done (by kernel_rfl) ?_ _;go_wp2;go_ret;exact⟨by rw[HE.out];rfl,hHeld.k⟩
  | false=>
   cases b0 with
   | false=>
    refine wp_region_held_drew (S:=fun W'=>oU w.heap.size w b g o p.cb p.bF bn false false d0 W') (by kernel_rfl) (pj.out) (fun hHeld=>?_);refine ak 0 ?_ (hy:=by intro wz hSw;have y0:=hSw.c0;have y1:=hSw.c2;have y2:=hSw.x0;have y3:=hSw.y0;have y4:=hSw.y1;have y5:=hSw.z0;(try simp only[Act.put,sA,sB,sC]);go_simp;first|done|with_reducible rfl)
    try simp only[Act.put,sA,sB,sC]
    refine ak 1 ?_ (hy:=by intro wz hSw;have y0:=hSw.c0;have y1:=hSw.c2;have y2:=hSw.x0;have y3:=hSw.y0;have y4:=hSw.y1;have y5:=hSw.z0;(try simp only[Act.put,sA,sB,sC]);go_simp;first|done|with_reducible rfl)
    try simp only[Act.put,sA,sB,sC]
    refine ak 2 ?_ (hy:=by intro wz hSw;have y0:=hSw.c0;have y1:=hSw.c2;have y2:=hSw.x0;have y3:=hSw.y0;have y4:=hSw.y1;have y5:=hSw.z0;(try simp only[Act.put,sA,sB,sC]);go_simp;first|done|with_reducible rfl)
    try simp only[Act.put,sA,sB,sC]
    refine ak 3 (v:=.bool true) ?_ (hy:=by intro wz hSw;have y0:=hSw.c0;have y1:=hSw.c2;have y2:=hSw.x0;have y3:=hSw.y0;have y4:=hSw.y1;have y5:=hSw.z0;(try simp only[Act.put,sA,sB,sC]);go_simp;first|done|with_reducible rfl)
    try simp only[Act.put,sA,sB,sC]
    refine ak 4 ?_ (hy:=by intro wz hSw;have y0:=hSw.c0;have y1:=hSw.c2;have y2:=hSw.x0;have y3:=hSw.y0;have y4:=hSw.y1;have y5:=hSw.z0;(try simp only[Act.put,sA,sB,sC]);go_simp;first|done|with_reducible rfl)
    try simp only[Act.put,sA,sB,sC]
    refine ak 5 ?_ (hy:=by intro wz hSw;have y0:=hSw.c0;have y1:=hSw.c2;have y2:=hSw.x0;have y3:=hSw.y0;have y4:=hSw.y1;have y5:=hSw.z0;(try simp only[Act.put,sA,sB,sC]);go_simp;first|done|with_reducible rfl)
    try simp only[Act.put,sA,sB,sC]
    refine ak 6 ?_ (hy:=by intro wz hSw;have y0:=hSw.c0;have y1:=hSw.c2;have y2:=hSw.x0;have y3:=hSw.y0;have y4:=hSw.y1;have y5:=hSw.z0;(try simp only[Act.put,sA,sB,sC]);go_simp;first|done|with_reducible rfl)
    try simp only[Act.put,sA,sB,sC]
    refine ak 7 ?_ (hy:=by intro wz hSw;have y0:=hSw.c0;have y1:=hSw.c2;have y2:=hSw.x0;have y3:=hSw.y0;have y4:=hSw.y1;have y5:=hSw.z0;(try simp only[Act.put,sA,sB,sC]);go_simp;first|done|with_reducible rfl)
    try simp only[Act.put,sA,sB,sC]
    refine ak 8 ?_ (hy:=by intro wz hSw;have y0:=hSw.c0;have y1:=hSw.c2;have y2:=hSw.x0;have y3:=hSw.y0;have y4:=hSw.y1;have y5:=hSw.z0;(try simp only[Act.put,sA,sB,sC]);go_simp;first|done|with_reducible rfl)
    try simp only[Act.put,sA,sB,sC]
    refine ak 9 ?_ (hy:=by intro wz hSw;have y0:=hSw.c0;have y1:=hSw.c2;have y2:=hSw.x0;have y3:=hSw.y0;have y4:=hSw.y1;have y5:=hSw.z0;(try simp only[Act.put,sA,sB,sC]);go_simp;first|done|with_reducible rfl)
    try simp only[Act.put,sA,sB,sC]
    refine ak 10 ?_ (hy:=by intro wz hSw;have y0:=hSw.c0;have y1:=hSw.c2;have y2:=hSw.x0;have y3:=hSw.y0;have y4:=hSw.y1;have y5:=hSw.z0;(try simp only[Act.put,sA,sB,sC]);go_simp;first|done|with_reducible rfl)
    try simp only[Act.put,sA,sB,sC]
    refine ak 11 ?_ (hy:=by intro wz hSw;have y0:=hSw.c0;have y1:=hSw.c2;have y2:=hSw.x0;have y3:=hSw.y0;have y4:=hSw.y1;have y5:=hSw.z0;(try simp only[Act.put,sA,sB,sC]);go_simp;first|done|with_reducible rfl)
    try simp only[Act.put,sA,sB,sC]
    refine ak 12 ?_ (hy:=by intro wz hSw;have y0:=hSw.c0;have y1:=hSw.c2;have y2:=hSw.x0;have y3:=hSw.y0;have y4:=hSw.y1;have y5:=hSw.z0;(try simp only[Act.put,sA,sB,sC]);go_simp;first|done|with_reducible rfl)
    try simp only[Act.put,sA,sB,sC]
    refine ak 13 ?_ (hy:=by intro wz hSw;have y0:=hSw.c0;have y1:=hSw.c2;have y2:=hSw.x0;have y3:=hSw.y0;have y4:=hSw.y1;have y5:=hSw.z0;(try simp only[Act.put,sA,sB,sC]);go_simp;first|done|with_reducible rfl)
    try simp only[Act.put,sA,sB,sC]
    refine ak 14 ?_ (hy:=by intro wz hSw;have y0:=hSw.c0;have y1:=hSw.c2;have y2:=hSw.x0;have y3:=hSw.y0;have y4:=hSw.y1;have y5:=hSw.z0;(try simp only[Act.put,sA,sB,sC]);go_simp;first|done|with_reducible rfl)
    try simp only[Act.put,sA,sB,sC]
    refine ak 15 ?_ (hy:=by intro wz hSw;have y0:=hSw.c0;have y1:=hSw.c2;have y2:=hSw.x0;have y3:=hSw.y0;have y4:=hSw.y1;have y5:=hSw.z0;(try simp only[Act.put,sA,sB,sC]);go_simp;first|done|with_reducible rfl)
    try simp only[Act.put,sA,sB,sC]
    refine ak 16 ?_ (hy:=by intro wz hSw;have y0:=hSw.c0;have y1:=hSw.c2;have y2:=hSw.x0;have y3:=hSw.y0;have y4:=hSw.y1;have y5:=hSw.z0;(try simp only[Act.put,sA,sB,sC]);go_simp;first|done|with_reducible rfl)
    try simp only[Act.put,sA,sB,sC]
    refine ak 17 ?_ (hy:=by intro wz hSw;have y0:=hSw.c0;have y1:=hSw.c2;have y2:=hSw.x0;have y3:=hSw.y0;have y4:=hSw.y1;have y5:=hSw.z0;(try simp only[Act.put,sA,sB,sC]);go_simp;first|done|with_reducible rfl)
    try simp only[Act.put,sA,sB,sC]
    refine ak 18 ?_ (hy:=by intro wz hSw;have y0:=hSw.c0;have y1:=hSw.c2;have y2:=hSw.x0;have y3:=hSw.y0;have y4:=hSw.y1;have y5:=hSw.z0;(try simp only[Act.put,sA,sB,sC]);go_simp;first|done|with_reducible rfl)
    try simp only[Act.put,sA,sB,sC]
    refine bc 19 (fun K hK=>?_);go_simp;go_at_call 30;refine (xT _ _).mono ?_;rintro e w8 ⟨rfl,b8⟩;have aZ:=hHeld.aa b8;clear b8 hHeld
    try go_wp2_with fail
    refine hK.out _ _ aZ (fun hHeld=>?_);clear hK K aZ
    try simp only[Act.put,sA,sB,sC]
    refine ak 20 ?_ (hy:=by intro wz hSw;have y0:=hSw.c0;have y1:=hSw.c2;have y2:=hSw.x0;have y3:=hSw.y0;have y4:=hSw.y1;have y5:=hSw.z0;(try simp only[Act.put,sA,sB,sC]);go_simp;first|done|with_reducible rfl)
    try simp only[Act.put,sA,sB,sC]
    refine ak 21 ?_ (hy:=by intro wz hSw;have y0:=hSw.c0;have y1:=hSw.c2;have y2:=hSw.x0;have y3:=hSw.y0;have y4:=hSw.y1;have y5:=hSw.z0;(try simp only[Act.put,sA,sB,sC]);go_simp;first|done|with_reducible rfl)
    try simp only[Act.put,sA,sB,sC]
    refine ak 22 ?_ (hy:=by intro wz hSw;have y0:=hSw.c0;have y1:=hSw.c2;have y2:=hSw.x0;have y3:=hSw.y0;have y4:=hSw.y1;have y5:=hSw.z0;(try simp only[Act.put,sA,sB,sC]);go_simp;first|done|with_reducible rfl)
    try simp only[Act.put,sA,sB,sC]
    refine dg 23 ?_
    try simp only[Act.put,sA,sB,sC]
    refine dg 24 ?_
    try simp only[Act.put,sA,sB,sC]
    refine dg 25 ?_
    try simp only[Act.put,sA,sB,sC]
    refine dg 26 ?_
    try simp only[Act.put,sA,sB,sC]
    refine dg 27 ?_
    try simp only[Act.put,sA,sB,sC]
    refine dg 28 ?_
    try simp only[Act.put,sA,sB,sC]
    refine ak 29 ?_ (hy:=by intro wz hSw;have y0:=hSw.c0;have y1:=hSw.c2;have y2:=hSw.x0;have y3:=hSw.y0;have y4:=hSw.y1;have y5:=hSw.z0;(try simp only[Act.put,sA,sB,sC]);go_simp;first|done|with_reducible rfl)
    try simp only[Act.put,sA,sB,sC]
    refine ak 30 ?_ (hy:=by intro wz hSw;have y0:=hSw.c0;have y1:=hSw.c2;have y2:=hSw.x0;have y3:=hSw.y0;have y4:=hSw.y1;have y5:=hSw.z0;(try simp only[Act.put,sA,sB,sC]);go_simp;first|done|with_reducible rfl)
    try simp only[Act.put,sA,sB,sC]
    refine wpAnyH_done (by kernel_rfl) ?_ _;go_wp2;go_ret;exact⟨by rw[HE.out];rfl,hHeld.k⟩
   | true=>
    by_cases aZ:bn=p.bF
    ·have j9:(bn == p.bF)=true:=(by simp[aZ]);refine wp_region_held_drew (S:=fun W'=>oU w.heap.size w b g o p.cb p.bF bn false true d0 W') (by kernel_rfl) (pj.out) (fun hHeld=>?_);refine ak 0 ?_ (hy:=by intro wz hSw;have y0:=hSw.c0;have y1:=hSw.c2;have y2:=hSw.x0;have y3:=hSw.y0;have y4:=hSw.y1;have y5:=hSw.z0;(try simp only[Act.put,sA,sB,sC]);go_simp;first|done|with_reducible rfl)
     try simp only[Act.put,sA,sB,sC]
     refine ak 1 ?_ (hy:=by intro wz hSw;have y0:=hSw.c0;have y1:=hSw.c2;have y2:=hSw.x0;have y3:=hSw.y0;have y4:=hSw.y1;have y5:=hSw.z0;(try simp only[Act.put,sA,sB,sC]);go_simp;first|done|with_reducible rfl)
     try simp only[Act.put,sA,sB,sC]
     refine ak 2 ?_ (hy:=by intro wz hSw;have y0:=hSw.c0;have y1:=hSw.c2;have y2:=hSw.x0;have y3:=hSw.y0;have y4:=hSw.y1;have y5:=hSw.z0;(try simp only[Act.put,sA,sB,sC]);go_simp;first|done|with_reducible rfl)
     try simp only[Act.put,sA,sB,sC]
     refine ak 3 (v:=.bool true) ?_ (hy:=by intro wz hSw;have y0:=hSw.c0;have y1:=hSw.c2;have y2:=hSw.x0;have y3:=hSw.y0;have y4:=hSw.y1;have y5:=hSw.z0;(try simp only[Act.put,sA,sB,sC]);go_simp;first|done|with_reducible rfl)
     try simp only[Act.put,sA,sB,sC]
     refine ak 4 ?_ (hy:=by intro wz hSw;have y0:=hSw.c0;have y1:=hSw.c2;have y2:=hSw.x0;have y3:=hSw.y0;have y4:=hSw.y1;have y5:=hSw.z0;(try simp only[Act.put,sA,sB,sC]);go_simp;first|done|with_reducible rfl)
     try simp only[Act.put,sA,sB,sC]
     refine ak 5 ?_ (hy:=by intro wz hSw;have y0:=hSw.c0;have y1:=hSw.c2;have y2:=hSw.x0;have y3:=hSw.y0;have y4:=hSw.y1;have y5:=hSw.z0;(try simp only[Act.put,sA,sB,sC]);go_simp;first|done|with_reducible rfl)
     try simp only[Act.put,sA,sB,sC]
     refine ak 6 ?_ (hy:=by intro wz hSw;have y0:=hSw.c0;have y1:=hSw.c2;have y2:=hSw.x0;have y3:=hSw.y0;have y4:=hSw.y1;have y5:=hSw.z0;(try simp only[Act.put,sA,sB,sC]);go_simp;first|done|with_reducible rfl)
     try simp only[Act.put,sA,sB,sC]
     refine ak 7 ?_ (hy:=by intro wz hSw;have y0:=hSw.c0;have y1:=hSw.c2;have y2:=hSw.x0;have y3:=hSw.y0;have y4:=hSw.y1;have y5:=hSw.z0;(try simp only[Act.put,sA,sB,sC]);go_simp;first|done|with_reducible rfl)
     try simp only[Act.put,sA,sB,sC]
     refine ak 8 ?_ (hy:=by intro wz hSw;have y0:=hSw.c0;have y1:=hSw.c2;have y2:=hSw.x0;have y3:=hSw.y0;have y4:=hSw.y1;have y5:=hSw.z0;(try simp only[Act.put,sA,sB,sC]);go_simp;first|done|with_reducible rfl)
     try simp only[Act.put,sA,sB,sC]
     refine ak 9 ?_ (hy:=by intro wz hSw;have y0:=hSw.c0;have y1:=hSw.c2;have y2:=hSw.x0;have y3:=hSw.y0;have y4:=hSw.y1;have y5:=hSw.z0;(try simp only[Act.put,sA,sB,sC]);go_simp;first|done|with_reducible rfl)
     try simp only[Act.put,sA,sB,sC]
     refine ak 10 ?_ (hy:=by intro wz hSw;have y0:=hSw.c0;have y1:=hSw.c2;have y2:=hSw.x0;have y3:=hSw.y0;have y4:=hSw.y1;have y5:=hSw.z0;(try simp only[Act.put,sA,sB,sC]);go_simp;first|done|with_reducible rfl)
     try simp only[Act.put,sA,sB,sC]
     refine ak 11 ?_ (hy:=by intro wz hSw;have y0:=hSw.c0;have y1:=hSw.c2;have y2:=hSw.x0;have y3:=hSw.y0;have y4:=hSw.y1;have y5:=hSw.z0;(try simp only[Act.put,sA,sB,sC]);go_simp;first|done|with_reducible rfl)
     try simp only[Act.put,sA,sB,sC]
     refine ak 12 ?_ (hy:=by intro wz hSw;have y0:=hSw.c0;have y1:=hSw.c2;have y2:=hSw.x0;have y3:=hSw.y0;have y4:=hSw.y1;have y5:=hSw.z0;(try simp only[Act.put,sA,sB,sC]);go_simp;first|done|with_reducible rfl)
     try simp only[Act.put,sA,sB,sC]
     refine ak 13 ?_ (hy:=by intro wz hSw;have y0:=hSw.c0;have y1:=hSw.c2;have y2:=hSw.x0;have y3:=hSw.y0;have y4:=hSw.y1;have y5:=hSw.z0;(try simp only[Act.put,sA,sB,sC]);go_simp;first|done|with_reducible rfl)
     try simp only[Act.put,sA,sB,sC]
     refine ak 14 ?_ (hy:=by intro wz hSw;have y0:=hSw.c0;have y1:=hSw.c2;have y2:=hSw.x0;have y3:=hSw.y0;have y4:=hSw.y1;have y5:=hSw.z0;(try simp only[Act.put,sA,sB,sC]);go_simp;first|done|with_reducible rfl)
     try simp only[Act.put,sA,sB,sC]
     refine ak 15 ?_ (hy:=by intro wz hSw;have y0:=hSw.c0;have y1:=hSw.c2;have y2:=hSw.x0;have y3:=hSw.y0;have y4:=hSw.y1;have y5:=hSw.z0;(try simp only[Act.put,sA,sB,sC]);go_simp;first|done|with_reducible rfl)
     try simp only[Act.put,sA,sB,sC]
     refine ak 16 ?_ (hy:=by intro wz hSw;have y0:=hSw.c0;have y1:=hSw.c2;have y2:=hSw.x0;have y3:=hSw.y0;have y4:=hSw.y1;have y5:=hSw.z0;(try simp only[Act.put,sA,sB,sC]);go_simp;first|done|with_reducible rfl)
     try simp only[Act.put,sA,sB,sC]
     refine ak 17 ?_ (hy:=by intro wz hSw;have y0:=hSw.c0;have y1:=hSw.c2;have y2:=hSw.x0;have y3:=hSw.y0;have y4:=hSw.y1;have y5:=hSw.z0;(try simp only[Act.put,sA,sB,sC]);go_simp;first|done|with_reducible rfl)
     try simp only[Act.put,sA,sB,sC]
     refine ak 18 ?_ (hy:=by intro wz hSw;have y0:=hSw.c0;have y1:=hSw.c2;have y2:=hSw.x0;have y3:=hSw.y0;have y4:=hSw.y1;have y5:=hSw.z0;(try simp only[Act.put,sA,sB,sC]);go_simp;first|done|with_reducible rfl)
     try simp only[Act.put,sA,sB,sC]
     refine bc 19 (fun K hK=>?_);go_simp;go_at_call 30;refine (xT _ _).mono ?_;rintro e w8 ⟨rfl,b8⟩;have aZ:=hHeld.aa b8;clear b8 hHeld
     try go_wp2_with fail
     refine hK.out _ _ aZ (fun hHeld=>?_);clear hK K aZ
     try simp only[Act.put,sA,sB,sC]
     refine ak 20 (v:=.bool true) ?_ (hy:=by intro wz hSw;have y0:=hSw.c0;have y1:=hSw.c2;have y2:=hSw.x0;have y3:=hSw.y0;have y4:=hSw.y1;have y5:=hSw.z0;(try simp only[Act.put,sA,sB,sC]);go_simp;first|done|with_reducible rfl)
     try simp only[Act.put,sA,sB,sC]
     refine ak 21 ?_ (hy:=by intro wz hSw;have y0:=hSw.c0;have y1:=hSw.c2;have y2:=hSw.x0;have y3:=hSw.y0;have y4:=hSw.y1;have y5:=hSw.z0;(try simp only[Act.put,sA,sB,sC]);go_simp;first|done|with_reducible rfl)
     try simp only[Act.put,sA,sB,sC]
     refine ak 22 ?_ (hy:=by intro wz hSw;have y0:=hSw.c0;have y1:=hSw.c2;have y2:=hSw.x0;have y3:=hSw.y0;have y4:=hSw.y1;have y5:=hSw.z0;(try simp only[Act.put,sA,sB,sC]);go_simp;first|done|with_reducible rfl)
     try simp only[Act.put,sA,sB,sC]
     refine ak 23 ?_ (hy:=by intro wz hSw;have y0:=hSw.c0;have y1:=hSw.c2;have y2:=hSw.x0;have y3:=hSw.y0;have y4:=hSw.y1;have y5:=hSw.z0;(try simp only[Act.put,sA,sB,sC]);go_simp;first|done|with_reducible rfl)
     try simp only[Act.put,sA,sB,sC]
     refine ak 24 ?_ (hy:=by intro wz hSw;have y0:=hSw.c0;have y1:=hSw.c2;have y2:=hSw.x0;have y3:=hSw.y0;have y4:=hSw.y1;have y5:=hSw.z0;(try simp only[Act.put,sA,sB,sC]);go_simp;first|done|with_reducible rfl)
     try simp only[Act.put,sA,sB,sC]
     refine ak 25 ?_ (hy:=by intro wz hSw;have y0:=hSw.c0;have y1:=hSw.c2;have y2:=hSw.x0;have y3:=hSw.y0;have y4:=hSw.y1;have y5:=hSw.z0;(try simp only[Act.put,sA,sB,sC]);go_simp;first|done|with_reducible rfl)
     try simp only[Act.put,sA,sB,sC]
     refine ak 26 ?_ (hy:=by intro wz hSw;have y0:=hSw.c0;have y1:=hSw.c2;have y2:=hSw.x0;have y3:=hSw.y0;have y4:=hSw.y1;have y5:=hSw.z0;(try simp only[Act.put,sA,sB,sC]);go_simp;first|done|with_reducible rfl)
     try simp only[Act.put,sA,sB,sC]
     refine ak 27 ?_ (hy:=by intro wz hSw;have y0:=hSw.c0;have y1:=hSw.c2;have y2:=hSw.x0;have y3:=hSw.y0;have y4:=hSw.y1;have y5:=hSw.z0;(try simp only[Act.put,sA,sB,sC]);go_simp;first|done|with_reducible rfl)
     try simp only[Act.put,sA,sB,sC]
     refine ak 28 ?_ (hy:=by intro wz hSw;have y0:=hSw.c0;have y1:=hSw.c2;have y2:=hSw.x0;have y3:=hSw.y0;have y4:=hSw.y1;have y5:=hSw.z0;(try simp only[Act.put,sA,sB,sC]);go_simp;first|done|with_reducible rfl)
     try simp only[Act.put,sA,sB,sC]
     refine ak 29 ?_ (hy:=by intro wz hSw;have y0:=hSw.c0;have y1:=hSw.c2;have y2:=hSw.x0;have y3:=hSw.y0;have y4:=hSw.y1;have y5:=hSw.z0;(try simp only[Act.put,sA,sB,sC]);go_simp;first|done|with_reducible rfl)
     try simp only[Act.put,sA,sB,sC]
     refine ak 30 ?_ (hy:=by intro wz hSw;have y0:=hSw.c0;have y1:=hSw.c2;have y2:=hSw.x0;have y3:=hSw.y0;have y4:=hSw.y1;have y5:=hSw.z0;(try simp only[Act.put,sA,sB,sC]);go_simp;first|done|with_reducible rfl)
     try simp only[Act.put,sA,sB,sC]
     refine wpAnyH_done (by kernel_rfl) ?_ _;go_wp2;go_ret;exact⟨by rw[HE.out,j9];rfl,hHeld.k⟩
    have j9:(bn == p.bF)=false:=(by simp[aZ]);refine wp_region_held_drew (S:=fun W'=>oU w.heap.size w b g o p.cb p.bF bn false true d0 W') (by kernel_rfl) (pj.out) (fun hHeld=>?_);refine ak 0 ?_ (hy:=by intro wz hSw;have y0:=hSw.c0;have y1:=hSw.c2;have y2:=hSw.x0;have y3:=hSw.y0;have y4:=hSw.y1;have y5:=hSw.z0;(try simp only[Act.put,sA,sB,sC]);go_simp;first|done|with_reducible rfl)
    try simp only[Act.put,sA,sB,sC]
    refine ak 1 ?_ (hy:=by intro wz hSw;have y0:=hSw.c0;have y1:=hSw.c2;have y2:=hSw.x0;have y3:=hSw.y0;have y4:=hSw.y1;have y5:=hSw.z0;(try simp only[Act.put,sA,sB,sC]);go_simp;first|done|with_reducible rfl)
    try simp only[Act.put,sA,sB,sC]
    refine ak 2 ?_ (hy:=by intro wz hSw;have y0:=hSw.c0;have y1:=hSw.c2;have y2:=hSw.x0;have y3:=hSw.y0;have y4:=hSw.y1;have y5:=hSw.z0;(try simp only[Act.put,sA,sB,sC]);go_simp;first|done|with_reducible rfl)
    try simp only[Act.put,sA,sB,sC]
    refine ak 3 (v:=.bool true) ?_ (hy:=by intro wz hSw;have y0:=hSw.c0;have y1:=hSw.c2;have y2:=hSw.x0;have y3:=hSw.y0;have y4:=hSw.y1;have y5:=hSw.z0;(try simp only[Act.put,sA,sB,sC]);go_simp;first|done|with_reducible rfl)
    try simp only[Act.put,sA,sB,sC]
    refine ak 4 ?_ (hy:=by intro wz hSw;have y0:=hSw.c0;have y1:=hSw.c2;have y2:=hSw.x0;have y3:=hSw.y0;have y4:=hSw.y1;have y5:=hSw.z0;(try simp only[Act.put,sA,sB,sC]);go_simp;first|done|with_reducible rfl)
    try simp only[Act.put,sA,sB,sC]
    refine ak 5 ?_ (hy:=by intro wz hSw;have y0:=hSw.c0;have y1:=hSw.c2;have y2:=hSw.x0;have y3:=hSw.y0;have y4:=hSw.y1;have y5:=hSw.z0;(try simp only[Act.put,sA,sB,sC]);go_simp;first|done|with_reducible rfl)
    try simp only[Act.put,sA,sB,sC]
    refine ak 6 ?_ (hy:=by intro wz hSw;have y0:=hSw.c0;have y1:=hSw.c2;have y2:=hSw.x0;have y3:=hSw.y0;have y4:=hSw.y1;have y5:=hSw.z0;(try simp only[Act.put,sA,sB,sC]);go_simp;first|done|with_reducible rfl)
    try simp only[Act.put,sA,sB,sC]
    refine ak 7 ?_ (hy:=by intro wz hSw;have y0:=hSw.c0;have y1:=hSw.c2;have y2:=hSw.x0;have y3:=hSw.y0;have y4:=hSw.y1;have y5:=hSw.z0;(try simp only[Act.put,sA,sB,sC]);go_simp;first|done|with_reducible rfl)
    try simp only[Act.put,sA,sB,sC]
    refine ak 8 ?_ (hy:=by intro wz hSw;have y0:=hSw.c0;have y1:=hSw.c2;have y2:=hSw.x0;have y3:=hSw.y0;have y4:=hSw.y1;have y5:=hSw.z0;(try simp only[Act.put,sA,sB,sC]);go_simp;first|done|with_reducible rfl)
    try simp only[Act.put,sA,sB,sC]
    refine ak 9 ?_ (hy:=by intro wz hSw;have y0:=hSw.c0;have y1:=hSw.c2;have y2:=hSw.x0;have y3:=hSw.y0;have y4:=hSw.y1;have y5:=hSw.z0;(try simp only[Act.put,sA,sB,sC]);go_simp;first|done|with_reducible rfl)
    try simp only[Act.put,sA,sB,sC]
    refine ak 10 ?_ (hy:=by intro wz hSw;have y0:=hSw.c0;have y1:=hSw.c2;have y2:=hSw.x0;have y3:=hSw.y0;have y4:=hSw.y1;have y5:=hSw.z0;(try simp only[Act.put,sA,sB,sC]);go_simp;first|done|with_reducible rfl)
    try simp only[Act.put,sA,sB,sC]
    refine ak 11 ?_ (hy:=by intro wz hSw;have y0:=hSw.c0;have y1:=hSw.c2;have y2:=hSw.x0;have y3:=hSw.y0;have y4:=hSw.y1;have y5:=hSw.z0;(try simp only[Act.put,sA,sB,sC]);go_simp;first|done|with_reducible rfl)
    try simp only[Act.put,sA,sB,sC]
    refine ak 12 ?_ (hy:=by intro wz hSw;have y0:=hSw.c0;have y1:=hSw.c2;have y2:=hSw.x0;have y3:=hSw.y0;have y4:=hSw.y1;have y5:=hSw.z0;(try simp only[Act.put,sA,sB,sC]);go_simp;first|done|with_reducible rfl)
    try simp only[Act.put,sA,sB,sC]
    refine ak 13 ?_ (hy:=by intro wz hSw;have y0:=hSw.c0;have y1:=hSw.c2;have y2:=hSw.x0;have y3:=hSw.y0;have y4:=hSw.y1;have y5:=hSw.z0;(try simp only[Act.put,sA,sB,sC]);go_simp;first|done|with_reducible rfl)
    try simp only[Act.put,sA,sB,sC]
    refine ak 14 ?_ (hy:=by intro wz hSw;have y0:=hSw.c0;have y1:=hSw.c2;have y2:=hSw.x0;have y3:=hSw.y0;have y4:=hSw.y1;have y5:=hSw.z0;(try simp only[Act.put,sA,sB,sC]);go_simp;first|done|with_reducible rfl)
    try simp only[Act.put,sA,sB,sC]
    refine ak 15 ?_ (hy:=by intro wz hSw;have y0:=hSw.c0;have y1:=hSw.c2;have y2:=hSw.x0;have y3:=hSw.y0;have y4:=hSw.y1;have y5:=hSw.z0;(try simp only[Act.put,sA,sB,sC]);go_simp;first|done|with_reducible rfl)
    try simp only[Act.put,sA,sB,sC]
    refine ak 16 ?_ (hy:=by intro wz hSw;have y0:=hSw.c0;have y1:=hSw.c2;have y2:=hSw.x0;have y3:=hSw.y0;have y4:=hSw.y1;have y5:=hSw.z0;(try simp only[Act.put,sA,sB,sC]);go_simp;first|done|with_reducible rfl)
    try simp only[Act.put,sA,sB,sC]
    refine ak 17 ?_ (hy:=by intro wz hSw;have y0:=hSw.c0;have y1:=hSw.c2;have y2:=hSw.x0;have y3:=hSw.y0;have y4:=hSw.y1;have y5:=hSw.z0;(try simp only[Act.put,sA,sB,sC]);go_simp;first|done|with_reducible rfl)
    try simp only[Act.put,sA,sB,sC]
    refine ak 18 ?_ (hy:=by intro wz hSw;have y0:=hSw.c0;have y1:=hSw.c2;have y2:=hSw.x0;have y3:=hSw.y0;have y4:=hSw.y1;have y5:=hSw.z0;(try simp only[Act.put,sA,sB,sC]);go_simp;first|done|with_reducible rfl)
    try simp only[Act.put,sA,sB,sC]
    refine bc 19 (fun K hK=>?_);go_simp;go_at_call 30;refine (xT _ _).mono ?_;rintro e w8 ⟨rfl,b8⟩;have aZ:=hHeld.aa b8;clear b8 hHeld
    try go_wp2_with fail
    refine hK.out _ _ aZ (fun hHeld=>?_);clear hK K aZ
    try simp only[Act.put,sA,sB,sC]
    refine ak 20 (v:=.bool false) ?_ (hy:=by intro wz hSw;have y0:=hSw.c0;have y1:=hSw.c2;have y2:=hSw.x0;have y3:=hSw.y0;have y4:=hSw.y1;have y5:=hSw.z0;(try simp only[Act.put,sA,sB,sC]);go_simp;first|done|with_reducible rfl)
    try simp only[Act.put,sA,sB,sC]
    refine ak 21 ?_ (hy:=by intro wz hSw;have y0:=hSw.c0;have y1:=hSw.c2;have y2:=hSw.x0;have y3:=hSw.y0;have y4:=hSw.y1;have y5:=hSw.z0;(try simp only[Act.put,sA,sB,sC]);go_simp;first|done|with_reducible rfl)
    try simp only[Act.put,sA,sB,sC]
    refine ak 22 ?_ (hy:=by intro wz hSw;have y0:=hSw.c0;have y1:=hSw.c2;have y2:=hSw.x0;have y3:=hSw.y0;have y4:=hSw.y1;have y5:=hSw.z0;(try simp only[Act.put,sA,sB,sC]);go_simp;first|done|with_reducible rfl)
    try simp only[Act.put,sA,sB,sC]
    refine dg 23 ?_
    try simp only[Act.put,sA,sB,sC]
    refine dg 24 ?_
    try simp only[Act.put,sA,sB,sC]
    refine dg 25 ?_
    try simp only[Act.put,sA,sB,sC]
    refine dg 26 ?_
    try simp only[Act.put,sA,sB,sC]
    refine dg 27 ?_
    try simp only[Act.put,sA,sB,sC]
    refine dg 28 ?_
    try simp only[Act.put,sA,sB,sC]
    refine ak 29 ?_ (hy:=by intro wz hSw;have y0:=hSw.c0;have y1:=hSw.c2;have y2:=hSw.x0;have y3:=hSw.y0;have y4:=hSw.y1;have y5:=hSw.z0;(try simp only[Act.put,sA,sB,sC]);go_simp;first|done|with_reducible rfl)
    try simp only[Act.put,sA,sB,sC]
    refine ak 30 ?_ (hy:=by intro wz hSw;have y0:=hSw.c0;have y1:=hSw.c2;have y2:=hSw.x0;have y3:=hSw.y0;have y4:=hSw.y1;have y5:=hSw.z0;(try simp only[Act.put,sA,sB,sC]);go_simp;first|done|with_reducible rfl)
    try simp only[Act.put,sA,sB,sC]
    refine wpAnyH_done (by kernel_rfl) ?_ _;go_wp2;go_ret;exact⟨by rw[HE.out,j9];rfl,hHeld.k⟩
 have HE:=hid (zjl h3);have X2:w2.drew.cell? ⟨w.heap.size,2,none⟩=some (.slice p.ab p.body.length p.cb):=c2;have j9:((p.body.length:Int) == 3)=false:=by simp;omega
 clear c0 c2 H HA h3;refine wp_region_held_drew (S:=fun W'=>W'=w2.drew) (by kernel_rfl) rfl (fun hHeld=>?_);generalize w2.drew=w9 at *;refine ak 0 ?_ (hy:=by intro wz hSw;subst hSw;(try simp only[Act.put,sA,sB,sC]);go_simp;first|done|with_reducible rfl)
 try simp only[Act.put,sA,sB,sC]
 refine ak 1 ?_ (hy:=by intro wz hSw;subst hSw;(try simp only[Act.put,sA,sB,sC]);go_simp;first|done|with_reducible rfl)
 try simp only[Act.put,sA,sB,sC]
 refine ak 2 ?_ (hy:=by intro wz hSw;subst hSw;(try simp only[Act.put,sA,sB,sC]);go_simp;first|done|with_reducible rfl)
 try simp only[Act.put,sA,sB,sC]
 refine ak 3 (v:=.bool false) ?_ (hy:=by intro wz hSw;subst hSw;(try simp only[Act.put,sA,sB,sC]);go_simp;first|done|with_reducible rfl)
 try simp only[Act.put,sA,sB,sC]
 refine ak 4 ?_ (hy:=by intro wz hSw;subst hSw;(try simp only[Act.put,sA,sB,sC]);go_simp;first|done|with_reducible rfl)
 try simp only[Act.put,sA,sB,sC]
 refine dg 5 ?_
 try simp only[Act.put,sA,sB,sC]
 refine dg 6 ?_
 try simp only[Act.put,sA,sB,sC]
 refine dg 7 ?_
 try simp only[Act.put,sA,sB,sC]
 refine dg 8 ?_
 try simp only[Act.put,sA,sB,sC]
 refine dg 9 ?_
 try simp only[Act.put,sA,sB,sC]
 refine dg 10 ?_
 try simp only[Act.put,sA,sB,sC]
 refine ak 11 ?_ (hy:=by intro wz hSw;subst hSw;(try simp only[Act.put,sA,sB,sC]);go_simp;first|done|with_reducible rfl)
 try simp only[Act.put,sA,sB,sC]
 refine ak 12 ?_ (hy:=by intro wz hSw;subst hSw;(try simp only[Act.put,sA,sB,sC]);go_simp;first|done|with_reducible rfl)
 try simp only[Act.put,sA,sB,sC]
 refine dg 13 ?_
 try simp only[Act.put,sA,sB,sC]
 refine dg 14 ?_
 try simp only[Act.put,sA,sB,sC]
 refine dg 15 ?_
 try simp only[Act.put,sA,sB,sC]
 refine dg 16 ?_
 try simp only[Act.put,sA,sB,sC]
 refine dg 17 ?_
 try simp only[Act.put,sA,sB,sC]
 refine dg 18 ?_
 try simp only[Act.put,sA,sB,sC]
 refine dg 19 ?_
 try simp only[Act.put,sA,sB,sC]
 refine dg 20 ?_
 try simp only[Act.put,sA,sB,sC]
 refine ak 21 ?_ (hy:=by intro wz hSw;subst hSw;(try simp only[Act.put,sA,sB,sC]);go_simp;first|done|with_reducible rfl)
 try simp only[Act.put,sA,sB,sC]
 refine ak 22 ?_ (hy:=by intro wz hSw;subst hSw;(try simp only[Act.put,sA,sB,sC]);go_simp;first|done|with_reducible rfl)
 try simp only[Act.put,sA,sB,sC]
 refine dg 23 ?_
 try simp only[Act.put,sA,sB,sC]
 refine dg 24 ?_
 try simp only[Act.put,sA,sB,sC]
 refine dg 25 ?_
 try simp only[Act.put,sA,sB,sC]
 refine dg 26 ?_
 try simp only[Act.put,sA,sB,sC]
 refine dg 27 ?_
 try simp only[Act.put,sA,sB,sC]
 refine dg 28 ?_
 try simp only[Act.put,sA,sB,sC]
 refine ak 29 ?_ (hy:=by intro wz hSw;subst hSw;(try simp only[Act.put,sA,sB,sC]);go_simp;first|done|with_reducible rfl)
 try simp only[Act.put,sA,sB,sC]
 refine ak 30 ?_ (hy:=by intro wz hSw;subst hSw;(try simp only[Act.put,sA,sB,sC]);go_simp;first|done|with_reducible rfl)
 try simp only[Act.put,sA,sB,sC]
 refine wpAnyH_done (by kernel_rfl) ?_ _;go_wp2;go_ret;exact⟨by rw[HE.out];rfl,Ec⟩
def qM(z:Int):Bool:=z == 0 || (z == 1 || (z == 2 || z == 3))
theorem ZN{z:Int}:(!qM z)=true↔(z<0\/3<z):=by
 unfold qM;simp only[Bool.not_eq_true',Bool.or_eq_false_iff,beq_eq_false_iff_ne];omega
theorem zh1(z:Int)(w:World):Calls prog 75 #[.int .i64 z] w (fun e w'=>e=.returned (.bool (qM z))/\w'=w):=by
 have HZ:Hid (qM z=(z == 0 || (z == 1 || (z == 2 || z == 3)))):=rfl;go_enter func75,ntmps75;rcases h0:(z == 0) with _|_
 ·rcases h1:(z == 1) with _|_
  ·rcases h2:(z == 2) with _|_
   ·rw[h0,h1,h2] at HZ;go_wp2;go_ret;exact⟨by rw[HZ.out];rfl,rfl⟩
   rw[h0,h1,h2] at HZ;go_wp2;go_ret;exact⟨by rw[HZ.out];rfl,rfl⟩
  rw[h0,h1] at HZ;go_wp2;go_ret;exact⟨by rw[HZ.out];rfl,rfl⟩
 rw[h0] at HZ;go_wp2;go_ret;exact⟨by rw[HZ.out];rfl,rfl⟩
theorem zk7:∀(args:Array Value) (W:World),(callFunc 72 args).run prog W=.ok (.enter 72 args) W:=fun _ _=>by rfl
theorem zk8:∀(args:Array Value) (W:World),(callFunc 74 args).run prog W=.ok (.enter 74 args) W:=fun _ _=>by rfl
theorem znn(z:Int)(w:World):Calls prog 74 #[.int .i64 z] w (ba (z<0\/3<z) w):=by
 have HH:=hid (zh1 z w);have HQ:Hid (ba (z<0\/3<z) w (.returned (.bool (!qM z))) w):=⟨_,ZN,rfl,Below.refl _ _⟩
 go_enter func74,ntmps74;go_wp2_with (go_at_call 75;refine HH.out.mono ?_;rintro e w2 ⟨rfl,rfl⟩);go_ret;exact HQ.out
theorem zno(G:Gr)(y:Sy)(b:Nat)(w:World)(hA:G.At w)(hL:G.lb 9223372036854775807)(hG:fo w b G):
  Calls prog 72 #[.agg #[.bool y.s,.int .i64 y.n],.pointer (some ⟨b,0,none⟩)] w (ba (fQ G y=false) w):=by
 have HH:Hid (∀W,Below w.heap.size w W->Calls prog 14 #[.agg #[.slice G.aR G.R.length G.cR,.slice G.aS G.S.length G.cS,.slice G.aP G.P.length G.cP,.slice G.aL G.L.length G.cL,.int .i64 G.st],.agg #[.bool y.s,.int .i64 y.n]] W (mB (fQ G y) W)):=fun W k=>JM G y W (hA.below k) hL
 have HG:=hid hG;clear hA hL hG;obtain⟨w2,bK⟩:∃w2,(w.alloc (.cells #[.bool y.s,.int .i64 y.n] 38))=w2:=⟨_,rfl⟩
 have H:Hid (sW w2 w.heap.size y/\Below w.heap.size w w2):=by
  rw[<-bK];have k0:=al w (.cells #[.bool y.s,.int .i64 y.n] 38);exact⟨(sW.new w y 38),k0⟩
 have jC:Hid (w2.heap.size=w.heap.size+1):=by show _=_;rw[<-bK];simp
 go_enter func72,ntmps72;go_upto_region 1 with fail
 try rw[bK]
 clear bK;have HB:=hid H.out.2;have hg:=HG.out.below HB.out;have c0:=hg.c0;have c1:=hg.c1;have c2:=hg.c2;have c3:=hg.c3;have c4:=hg.c4;have s0:=H.out.1.c0;have s1:=H.out.1.c1;have Dx:=hid (HH.out w2 HB.out);clear hg H jC HH;go_wp2_with (go_at_call 14;refine Dx.out.mono ?_);rintro e w3 ⟨rfl,b3⟩;have kE:=hid (HB.out.trans (b3.mono HB.out.size));clear b3 c0 c1 c2 c3 c4 s0 s1 Dx;have HQ:Hid (∀W,Below w.heap.size w W->ba (fQ G y=false) w (.returned (.bool (!fQ G y))) W):=fun W k=>⟨_,by cases fQ G y <;> simp,rfl,k⟩
 go_wp2;go_ret;exact HQ.out _ kE.out
theorem zk9(fn:Nat)(wL:∀(args:Array Value) (W:World),(callFunc fn args).run prog W=.ok (.enter fn args) W)(p:Sy->Prop)(n c b:Nat)(a:Option Addr)(l:List Sy)(hl:l.length=n)(hn:n<=9223372036854775807)(w:World)(h1:nM w a l)
  (hF:∀(x:Sy) W,Below w.heap.size w W->Calls prog fn #[.agg #[.bool x.s,.int .i64 x.n],.pointer (some ⟨b,0,none⟩)] W (ba (p x) W)):
  Calls prog 87 #[.slice a n c,.func (.func fn) #[] #[.pointer (some ⟨b,0,none⟩)]] w (fun e w'=>∃r:Int,e=.returned (.int .i64 r)/\(0<=r↔∃x∈l,p x)/\Below w.heap.size w w'):=by
 have H:=hid (Zz h1 (Zz hl hF));clear h1 hl hF;go_enter func87,ntmps87;go_wp2;go_loopw [5,8] (fun _ v wr=>∃k:Nat,v=.int .i64 k/\k<=n/\Hid (Below w.heap.size w wr/\∀j (h:j<l.length),j<k->¬p l[j])) (fun _ v _=>n-(intOf v).toNat)
 ·exact⟨0,rfl,zero_le _,Below.refl _ _,fun j _ h=>by omega⟩
 obtain⟨k,rfl,hk,HL⟩:=hrel;by_cases av:k<n
 case neg=>
  obtain rfl:k=n:=by omega
  have HZ:Hid ((0:Int)<=-1↔∃x∈l,p x):=⟨fun h=>by omega,fun ⟨x,hx,hp⟩=>by
   obtain⟨j,hj,rfl⟩:=getElem_of_mem hx
   exact absurd hp (HL.out.2 j hj (by have:=H.out.2.1;omega))⟩
  go_wp2;go_ret;exact⟨_,rfl,HZ.out,HL.out.1⟩
 have hkl:k<l.length:=by rw[H.out.2.1];exact av
 obtain⟨g1,o1,rfl,_,x0,x1⟩:=(H.out.1.below HL.out.1).get k hkl;have HF:=hid (H.out.2.2 l[k] wr HL.out.1);have HS:Hid (¬p l[k]->∀j (h:j<l.length),j<k+1->¬p l[j]):=fun h j hj hjk=>by
  by_cases e:j=k
  ·subst e;exact h
  exact HL.out.2 j hj (by omega)
 have HY:Hid (p l[k]->((0:Int)<=k↔∃x∈l,p x)):=fun h=>⟨fun _=>⟨_,getElem_mem hkl,h⟩,fun _=>by omega⟩
 have i1:(k:Int)<n:=by omega
 generalize l[k]=x at x0 x1 HF HS HY;clear hkl;go_wp2_with fail;refine HF.out.mono ?_;rintro e w2 ⟨y,hy,rfl,b2⟩;have H2:=hid (Zz (HL.out.1.trans (b2.mono HL.out.1.size)) hy);clear b2 hy HF x0 x1;rcases y with _|_
 ·have HZ:=hid (HS.out (fun h=>by have:=H2.out.2.2 h;cases this));go_wp2;go_roundw
  ·exact⟨k+1,by go_num,by omega,H2.out.1,HZ.out⟩
  simp[intOf];omega
 have HZ:=hid (HY.out (H2.out.2.1 rfl));go_wp2;go_ret;exact⟨_,rfl,HZ.out,H2.out.1⟩
theorem Yj(fn:Nat)(wL:∀(args:Array Value) (W:World),(callFunc fn args).run prog W=.ok (.enter fn args) W)(p:Sy->Prop)(n c b:Nat)(a:Option Addr)(l:List Sy)(hl:l.length=n)(hn:n<=9223372036854775807)(w:World)(h1:nM w a l)
  (hF:∀(x:Sy) W,Below w.heap.size w W->Calls prog fn #[.agg #[.bool x.s,.int .i64 x.n],.pointer (some ⟨b,0,none⟩)] W (ba (p x) W)):
  Calls prog 71 #[.slice a n c,.func (.func fn) #[] #[.pointer (some ⟨b,0,none⟩)]] w (ba (∃x∈l,p x) w):=by
 have HI:=hid (zk9 fn wL p n c b a l hl hn w h1 hF);clear h1 hl hF wL;go_enter func71,ntmps71;go_wp2_with (go_at_call 87;refine HI.out.mono ?_);rintro e w2 ⟨r,rfl,hr,b2⟩;have HZ:Hid (ba (∃x∈l,p x) w (.returned (.bool (decide (0<=r)))) w2):=⟨_,by rw[decide_eq_true_iff];exact hr,rfl,b2⟩
 clear hr b2 HI;go_wp2;go_ret;exact HZ.out
theorem zlb(fn:Nat)(wL:∀(args:Array Value) (W:World),(callFunc fn args).run prog W=.ok (.enter fn args) W)(p:Int->Prop)(n c:Nat)(a:Option Addr)(l:List Int)(hl:l.length=n)(hn:n<=9223372036854775807)(w:World)(h1:fP w a l)
  (hF:∀(x:Int) W,Below w.heap.size w W->Calls prog fn #[.int .i64 x] W (ba (p x) W)):
  Calls prog 88 #[.slice a n c,.func (.func fn) #[] #[]] w (fun e w'=>∃r:Int,e=.returned (.int .i64 r)/\(0<=r↔∃x∈l,p x)/\Below w.heap.size w w'):=by
 have H:=hid (Zz h1 (Zz hl hF));clear h1 hl hF;go_enter func88,ntmps88;go_wp2;go_loopw [5,8] (fun _ v wr=>∃k:Nat,v=.int .i64 k/\k<=n/\Hid (Below w.heap.size w wr/\∀j (h:j<l.length),j<k->¬p l[j])) (fun _ v _=>n-(intOf v).toNat)
 ·exact⟨0,rfl,zero_le _,Below.refl _ _,fun j _ h=>by omega⟩
 obtain⟨k,rfl,hk,HL⟩:=hrel;by_cases av:k<n
 case neg=>
  obtain rfl:k=n:=by omega
  have HZ:Hid ((0:Int)<=-1↔∃x∈l,p x):=⟨fun h=>by omega,fun ⟨x,hx,hp⟩=>by
   obtain⟨j,hj,rfl⟩:=getElem_of_mem hx
   exact absurd hp (HL.out.2 j hj (by have:=H.out.2.1;omega))⟩
  go_wp2;go_ret;exact⟨_,rfl,HZ.out,HL.out.1⟩
 have hkl:k<l.length:=by rw[H.out.2.1];exact av
 obtain⟨g1,o1,rfl,_,x0⟩:=(H.out.1.below HL.out.1).get k hkl;have HF:=hid (H.out.2.2 l[k] wr HL.out.1);have HS:Hid (¬p l[k]->∀j (h:j<l.length),j<k+1->¬p l[j]):=fun h j hj hjk=>by
  by_cases e:j=k
  ·subst e;exact h
  exact HL.out.2 j hj (by omega)
 have HY:Hid (p l[k]->((0:Int)<=k↔∃x∈l,p x)):=fun h=>⟨fun _=>⟨_,getElem_mem hkl,h⟩,fun _=>by omega⟩
 have i1:(k:Int)<n:=by omega
 generalize l[k]=x at x0 HF HS HY;clear hkl;go_wp2_with fail;refine HF.out.mono ?_;rintro e w2 ⟨y,hy,rfl,b2⟩;have H2:=hid (Zz (HL.out.1.trans (b2.mono HL.out.1.size)) hy);clear b2 hy HF x0;rcases y with _|_
 ·have HZ:=hid (HS.out (fun h=>by have:=H2.out.2.2 h;cases this));go_wp2;go_roundw
  ·exact⟨k+1,by go_num,by omega,H2.out.1,HZ.out⟩
  simp[intOf];omega
 have HZ:=hid (HY.out (H2.out.2.1 rfl));go_wp2;go_ret;exact⟨_,rfl,HZ.out,H2.out.1⟩
theorem zlc(fn:Nat)(wL:∀(args:Array Value) (W:World),(callFunc fn args).run prog W=.ok (.enter fn args) W)(p:Int->Prop)(n c:Nat)(a:Option Addr)(l:List Int)(hl:l.length=n)(hn:n<=9223372036854775807)(w:World)(h1:fP w a l)
  (hF:∀(x:Int) W,Below w.heap.size w W->Calls prog fn #[.int .i64 x] W (ba (p x) W)):
  Calls prog 73 #[.slice a n c,.func (.func fn) #[] #[]] w (ba (∃x∈l,p x) w):=by
 have HI:=hid (zlb fn wL p n c a l hl hn w h1 hF);clear h1 hl hF wL;go_enter func73,ntmps73;go_wp2_with (go_at_call 88;refine HI.out.mono ?_);rintro e w2 ⟨r,rfl,hr,b2⟩;have HZ:Hid (ba (∃x∈l,p x) w (.returned (.bool (decide (0<=r)))) w2):=⟨_,by rw[decide_eq_true_iff];exact hr,rfl,b2⟩
 clear hr b2 HI;go_wp2;go_ret;exact HZ.out
theorem zeu(G:Gr)(i:Nat)(hi:i<G.P.length)(w:World)(hA:G.At w)(hL:G.lb 1000000):
  Calls prog 55 #[G.val,.int .i64 i] w (O4 (iO G i) w):=by
 show Calls prog 55 #[.agg #[.slice G.aR G.R.length G.cR,.slice G.aS G.S.length G.cS,.slice G.aP G.P.length G.cP,.slice G.aL G.L.length G.cL,.int .i64 G.st],.int .i64 i] w _;obtain⟨g,o,eP,fq⟩:=zll hA (by omega);have DS:=hid (Zz fq eP);obtain⟨x,hx⟩:∃x,l8 G i=x:=⟨_,rfl⟩
 have Hx:=hid hx;have Ab:=hL.ps i hi;rw[<-EV hi,hx] at Ab;have DW:=(fq w (Below.refl _ _) i hi).1;rw[hx] at DW;have HA:=hid (Zz hA (Zz hL DW));have Lv:=hL.p;have zk:Hid (∀W,Below w.heap.size w W->Calls prog 20 #[.agg #[.int .i64 x.bF,.string x.bG,.slice x.ab x.body.length x.cb,.bool x.par,.int .i64 x.prec,.slice x.ah x.hints.length x.ch]] W (mB (gp x) W)):=fun W k=>zh0 x W (DW.below k) (by have:=Ab.2.1;omega)
 have AF:Hid (∀(y:Sy) W,Below w.heap.size w W->Calls prog 14 #[.agg #[.slice G.aR G.R.length G.cR,.slice G.aS G.S.length G.cS,.slice G.aP G.P.length G.cP,.slice G.aL G.L.length G.cL,.int .i64 G.st],.agg #[.bool y.s,.int .i64 y.n]] W (mB (fQ G y) W)):=fun y W k=>JM G y W (hA.below k) (hL.mono (by omega))
 have Hs:Hid (∀W,Below w.heap.size w W->Calls prog 23 #[.agg #[.slice G.aR G.R.length G.cR,.slice G.aS G.S.length G.cS,.slice G.aP G.P.length G.cP,.slice G.aL G.L.length G.cL,.int .i64 G.st],.string x.bG] W (yw G.P (fun y=>y.bG=x.bG) W)):=fun W k=>zjf G x.bG W (hA.below k) (by omega)
 have WU:Hid (∀(b:Nat) W,Below w.heap.size w W->fo W b G->Calls prog 71 #[.slice x.ab x.body.length x.cb,.func (.func 72) #[] #[.pointer (some ⟨b,0,none⟩)]] W (ba (∃y∈x.body,fQ G y=false) W)):=fun b W k hG=>Yj 72 zk7 (fun y=>fQ G y=false) x.body.length x.cb b x.ab x.body rfl (by have:=Ab.2.1;omega) W (DW.below k).b (fun y W' k'=>zno G y b W' (hA.below (k.trans (k'.mono k.size))) (hL.mono (by omega)) (hG.below k'))
 have Ub:Hid (∀W,Below w.heap.size w W->Calls prog 73 #[.slice x.ah x.hints.length x.ch,.func (.func 74) #[] #[]] W (ba (∃z∈x.hints,z<0\/3<z) W)):=fun W k=>zlc 74 zk8 (fun z=>z<0\/3<z) x.hints.length x.ch x.ah x.hints rfl (by have:=Ab.2.2;omega) W (DW.below k).h (fun z W' _=>znn z W')
 have zd:∀(fn:Fn) (first cap:Array Value) (w:World),(Instr.makeFunc fn first cap).run prog w=.ok (.func fn first cap) w:=fun _ _ _ _=>rfl
 clear hA hL fq eP hx DW;obtain⟨w2,bK⟩:∃w2,(w.alloc (.cells #[.slice G.aR G.R.length G.cR,.slice G.aS G.S.length G.cS,.slice G.aP G.P.length G.cP,.slice G.aL G.L.length G.cL,.int .i64 G.st] 27))=w2:=⟨_,rfl⟩
 have H:Hid (fo w2 w.heap.size G/\Below w.heap.size w w2):=by
  rw[<-bK];have k0:=al w (.cells #[.slice G.aR G.R.length G.cR,.slice G.aS G.S.length G.cS,.slice G.aP G.P.length G.cP,.slice G.aL G.L.length G.cL,.int .i64 G.st] 27);exact⟨(fo.new w G 27),k0⟩
 have jC:Hid (w2.heap.size=w.heap.size+1):=by show _=_;rw[<-bK];simp
 go_enter func55,ntmps55;go_upto_region 1 with fail
 try rw[bK]
 clear bK;obtain⟨b,hb⟩:∃b,w.heap.size=b:=⟨_,rfl⟩
 have HX:Hid (kO w b G w2):=by rw[<-hb];exact H.out
 have dp:w2.heap.size=b+1:=by rw[<-hb];exact jC.out
 rw[hb];clear hb H jC;obtain⟨n,hn⟩:∃n,G.P.length=n:=⟨_,rfl⟩
 have HN:=hid hn;have c2:=HX.out.1.c2;rw[hn,DS.out.2] at c2;have i0:(i:Int)<n:=by omega
 obtain⟨_,x0,x1,x2,x3,x4,x5⟩:=DS.out.1 w2 HX.out.2 i hi;rw[Hx.out] at x0 x1 x2 x3 x4 x5;rw[hn] at Lv;clear hn;obtain⟨w3,B4⟩:∃w3,w2.alloc (.cells #[.int .i64 x.bF,.string x.bG,.slice x.ab x.body.length x.cb,.bool x.par,.int .i64 x.prec,.slice x.ah x.hints.length x.ch] 47)=w3:=⟨_,rfl⟩
 have HY:Hid (GU w b G x w3):=by
  have k1:=al w2 (.cells #[.int .i64 x.bF,.string x.bG,.slice x.ab x.body.length x.cb,.bool x.par,.int .i64 x.prec,.slice x.ah x.hints.length x.ch] 47);have p1:=lF.new w2 x 47;rw[B4] at k1 p1;rw[dp] at p1;exact⟨HX.out.1.below k1,p1,HX.out.2.trans (k1.mono HX.out.2.size)⟩
 go_upto_region 2 with fail
 try rw[B4]
 try rw[dp]
 clear B4 x0 x1 x2 x3 x4 x5 c2 dp HX;have tj:Hid (∀z:Int,iO G i=z->∀W,Below w.heap.size w W->O4 (iO G i) w (.returned (.int .i64 z)) W):=fun z h W k=>⟨by rw[h],k⟩
 have kd:Below w3.heap.size w3 w3.drew:=⟨rfl,rfl,rfl,le_refl _,fun _ _=>rfl⟩
 have NM:=hid (HY.out.aa kd);clear kd HY;generalize vq:w3.drew=w4 at NM;refine wp_region_held_drew (S:=fun W'=>GU w b G x W') (by kernel_rfl) (by rw[vq];exact NM.out) (fun hHeld=>?_);rw[vq] at hHeld⊢;clear vq NM;obtain⟨bo,cn⟩:∃bo,fQ G ⟨true,x.bF⟩=bo:=⟨_,rfl⟩
 have zT:=hid cn;have I9:Hid (∀W,Below w.heap.size w W->Calls prog 14 #[.agg #[.slice G.aR G.R.length G.cR,.slice G.aS G.S.length G.cS,.slice G.aP G.P.length G.cP,.slice G.aL G.L.length G.cL,.int .i64 G.st],.agg #[.bool true,.int .i64 x.bF]] W (mB bo W)):=by rw[<-cn];exact AF.out ⟨true,x.bF⟩
 clear cn;refine ak 0 (v:=.agg #[.slice G.aR G.R.length G.cR,.slice G.aS G.S.length G.cS,.slice G.aP G.P.length G.cP,.slice G.aL G.L.length G.cL,.int .i64 G.st]) ?_ (hy:=by intro wz hSw;have y0:=hSw.1.c0;have y1:=hSw.1.c1;have y2:=hSw.1.c2;have y3:=hSw.1.c3;have y4:=hSw.1.c4;have z0:=hSw.2.1.c0;(try simp only[Act.put,sA,sB,sC]);go_simp;first|done|with_reducible rfl)
 try simp only[Act.put,sA,sB,sC]
 refine ak 1 ?_ (hy:=by intro wz hSw;have y0:=hSw.1.c0;have y1:=hSw.1.c1;have y2:=hSw.1.c2;have y3:=hSw.1.c3;have y4:=hSw.1.c4;have z0:=hSw.2.1.c0;(try simp only[Act.put,sA,sB,sC]);go_simp;first|done|with_reducible rfl)
 try simp only[Act.put,sA,sB,sC]
 refine ak 2 ?_ (hy:=by intro wz hSw;have y0:=hSw.1.c0;have y1:=hSw.1.c1;have y2:=hSw.1.c2;have y3:=hSw.1.c3;have y4:=hSw.1.c4;have z0:=hSw.2.1.c0;(try simp only[Act.put,sA,sB,sC]);go_simp;first|done|with_reducible rfl)
 try simp only[Act.put,sA,sB,sC]
 refine bc 3 (fun K hK=>?_);go_simp;go_at_call 30;refine (xT _ _).mono ?_;rintro e w8 ⟨rfl,b8⟩;have aZ:=hHeld.aa b8;clear b8 hHeld
 try go_wp2_with fail
 refine hK.out _ _ aZ (fun hHeld=>?_);clear hK K aZ
 try simp only[Act.put,sA,sB,sC]
 refine bc 4 (fun K hK=>?_);go_simp;go_at_call 14;refine (I9.out _ hHeld.2.2).mono ?_;rintro e w8 ⟨rfl,b8⟩;have aZ:=hHeld.aa b8;clear b8 hHeld
 try go_wp2_with fail
 refine hK.out _ _ aZ (fun hHeld=>?_);clear hK K aZ
 try simp only[Act.put,sA,sB,sC]
 refine ak 5 ?_ (hy:=by intro wz hSw;have y0:=hSw.1.c0;have y1:=hSw.1.c1;have y2:=hSw.1.c2;have y3:=hSw.1.c3;have y4:=hSw.1.c4;have z0:=hSw.2.1.c0;(try simp only[Act.put,sA,sB,sC]);go_simp;first|done|with_reducible rfl)
 try simp only[Act.put,sA,sB,sC]
 refine ak 6 ?_ (hy:=by intro wz hSw;have y0:=hSw.1.c0;have y1:=hSw.1.c1;have y2:=hSw.1.c2;have y3:=hSw.1.c3;have y4:=hSw.1.c4;have z0:=hSw.2.1.c0;(try simp only[Act.put,sA,sB,sC]);go_simp;first|done|with_reducible rfl)
 try simp only[Act.put,sA,sB,sC]
 refine wpAnyH_done (by kernel_rfl) ?_ _;have jT:Hid (bo=true↔¬(x.bF<0\/(G.S.length:Int)<=x.bF)):=by
  show _↔_;rw[<-zT.out,show fQ G ⟨true,x.bF⟩=wh G x.bF from rfl,QQ];simp only[Bool.and_eq_true,decide_eq_true_eq];omega
 have mO:=hid hHeld;clear hHeld I9 zT;cases bo with
 | false=>
  have HZ:=hid (tj.out 11 (zpe Hx.out (Classical.byContradiction fun h=>by have:=jT.out.2 h;cases this)) _ mO.out.2.2);go_wp2;go_ret;exact HZ.out
 | true=>
 have H1:=hid (jT.out.1 rfl);have AT:=Ab.2.1;have hph:=Ab.2.2;have ta:=Ab.1;clear Ab;generalize hW:w8=W4 at mO⊢;clear hW;have p1:=mO.out.2.1.c1;have BV:=hid (Pf x.bG W4 (by unfold maxLen;omega));clear jT;go_upto_region 4 with fail;cases hT:bU x.bG with
 | false=>
  rw[hT] at BV;have HZ:=hid (tj.out 8 (zpf Hx.out H1.out hT) _ mO.out.2.2);clear hT;go_wp2_with (go_at_call 70;refine BV.out.mono ?_;rintro e w5 ⟨rfl,rfl⟩);go_ret;exact HZ.out
 | true=>
 rw[hT] at BV;have HT:=hid hT;clear hT;go_upto_region 6 with (go_at_call 70;refine BV.out.mono ?_;rintro e w5 ⟨rfl,rfl⟩);clear BV p1;have p2:=mO.out.2.1.c2;have p5:=mO.out.2.1.c5;by_cases IC:12<x.body.length
 ·have i12:(12:Int)<(x.body.length:Int):=by omega
  have HZ:=hid (tj.out 6 (zpg Hx.out H1.out HT.out IC) _ mO.out.2.2);clear IC;go_wp2;go_ret;exact HZ.out
 have i12:¬(12:Int)<(x.body.length:Int):=by omega
 obtain⟨bh,Av⟩:∃bh,decide (x.hints.length≠x.body.length-1)=bh:=⟨_,rfl⟩
 go_upto_region 8 with fail
 go_cut [28] from 29 to 37 (fun v wx=>v=.bool bh/\wx=W4)
 case first=>
  by_cases hc:0<x.body.length
  ·have j3:(0:Int)<=(x.body.length:Int)-1:=(by omega);have j8:max ((x.body.length:Int)-1) 0=(x.body.length:Int)-1:=(by omega);have j4:((x.hints.length:Int) != (x.body.length:Int)-1)=bh:=by
    rw[<-Av,Bool.eq_iff_iff];simp only[bne_iff_ne,ne_eq,decide_eq_true_eq];omega
   clear Av;go_wp2_with fail
   go_meet
   exact⟨rfl,rfl⟩
  have j3:(x.body.length:Int)-1<0:=by omega
  have j8:max ((x.body.length:Int)-1) 0=0:=by omega
  have j4:((x.hints.length:Int) != 0)=bh:=by
   rw[<-Av,Bool.eq_iff_iff];simp only[bne_iff_ne,ne_eq,decide_eq_true_eq];omega
  clear Av;go_wp2_with fail
  go_meet
  exact⟨rfl,rfl⟩
 case rest=>
 obtain⟨rfl,rfl⟩:=hcut;cases bh with
 | true=>
  have HZ:=hid (tj.out 1 (zph Hx.out H1.out HT.out IC (by simpa using Av)) _ mO.out.2.2);clear Av;go_wp2;go_ret;exact HZ.out
 | false=>
 have ri:=hid (VH Hx.out H1.out HT.out IC (by simpa using Av));clear Av IC i12 p2 p5;have c0:=mO.out.1.c0;have c1:=mO.out.1.c1;have c2:=mO.out.1.c2;have c3:=mO.out.1.c3;have c4:=mO.out.1.c4;have p1:=mO.out.2.1.c1;have Te:=hid (Hs.out _ mO.out.2.2);go_wp2_with (go_at_call 23;refine Te.out.mono ?_;rintro e w5 ⟨r,rfl,hr,b5⟩;refine Hid.out ?_);refine hid ?_;have Eo:=hid (mO.out.aa b5);have HQ:Hid (r<(i:Int)↔∃k,k<i/\(l8 G k).bG=x.bG):=by
  show _↔_;rw[zou hr hi (by rw[<-EV hi,Hx.out])];constructor
  ·rintro⟨k,hk,h⟩;exact⟨k,hk,by rw[EV (by omega)];exact h⟩
  rintro⟨k,hk,h⟩;exact⟨k,hk,by rw[EV (by omega)] at h;exact h⟩
 clear c0 c1 c2 c3 c4 p1 Te b5 hr Hs mO;by_cases OJ:r<(i:Int)
 ·have HZ:=hid (tj.out 9 (by rw[ri.out,if_pos (HQ.out.1 OJ)]) _ Eo.out.2.2);clear HQ;go_wp2;go_ret;exact HZ.out
 have Q6:Hid (iO G i=(open Classical in if (∃y∈x.body,fQ G y=false) then 11 else if (∃z∈x.hints,z<0\/3<z) then 1
     else if x.prec≠-1/\iT G x.prec=false then 11 else if x.par=true/\gp x=false then 15 else 0)):=by
  show _=_
  rw[ri.out,if_neg (fun h=>OJ (HQ.out.2 h))]
 clear HQ ri;have p2:=Eo.out.2.1.c2;have lO:=hid (WU.out b _ Eo.out.2.2 Eo.out.1);go_upto_region 12 with fail;go_wp2_with (go_at_call 71;refine lO.out.mono ?_;rintro e w6 ⟨bo,cn,rfl,b6⟩;refine Hid.out ?_);refine hid ?_;have Aw:=hid (Eo.out.aa b6);clear p2 lO b6 WU Eo OJ;cases bo with
 | true=>
  have HZ:=hid (tj.out 11 (by rw[Q6.out,if_pos (cn.1 rfl)]) _ Aw.out.2.2);clear cn;go_wp2;go_ret;exact HZ.out
 | false=>
 have yf:Hid (iO G i=(open Classical in if (∃z∈x.hints,z<0\/3<z) then 1
     else if x.prec≠-1/\iT G x.prec=false then 11 else if x.par=true/\gp x=false then 15 else 0)):=by
  show _=_
  rw[Q6.out,if_neg (fun h=>by have:=cn.2 h;cases this)]
 clear cn Q6;have p5:=Aw.out.2.1.c5;have Tb:=hid (Ub.out _ Aw.out.2.2);go_wp2_with (go_at_call 73;refine Tb.out.mono ?_;rintro e w7 ⟨bo,cn,rfl,b7⟩;refine Hid.out ?_);refine hid ?_;have j8:=hid (Aw.out.aa b7);clear p5 Tb b7 Ub Aw;cases bo with
 | true=>
  have HZ:=hid (tj.out 1 (by rw[yf.out,if_pos (cn.1 rfl)]) _ j8.out.2.2);clear cn;go_wp2;go_ret;exact HZ.out
 | false=>
 have FC:Hid (iO G i=(open Classical in if x.prec≠-1/\iT G x.prec=false then 11 else if x.par=true/\gp x=false then 15 else 0)):=by
  show _=_;rw[yf.out,if_neg (fun h=>by have:=cn.2 h;cases this)]
 clear cn yf;have c0:=j8.out.1.c0;have c1:=j8.out.1.c1;have c2:=j8.out.1.c2;have c3:=j8.out.1.c3;have c4:=j8.out.1.c4;have p3:=j8.out.2.1.c3;have p4:=j8.out.2.1.c4;obtain⟨pb,Bq⟩:∃pb:Bool,decide (x.prec≠-1/\iT G x.prec=false)=pb:=⟨_,rfl⟩
 obtain⟨hb,sg⟩:∃hb,iT G x.prec=hb:=⟨_,rfl⟩
 have BS:Hid (Calls prog 14 #[.agg #[.slice G.aR G.R.length G.cR,.slice G.aS G.S.length G.cS,.slice G.aP G.P.length G.cP,.slice G.aL G.L.length G.cL,.int .i64 G.st],.agg #[.bool false,.int .i64 x.prec]] w7 (mB hb w7)):=by rw[<-sg];exact AF.out ⟨false,x.prec⟩ w7 j8.out.2.2
 by_cases Ef:x.prec=-1
 case neg=>
  have j1:(x.prec != -1)=true:=by simp[Ef]
  go_wp2_with (go_at_call 14;refine BS.out.mono ?_;rintro e w8 ⟨rfl,b8⟩;refine Hid.out ?_)
  refine hid ?_
  have ud:=hid (j8.out.aa b8)
  clear c0 c1 c2 c3 c4 p3 p4 b8 BS
  cases hb with
  | false=>
   have HZ:=hid (tj.out 11 (by rw[FC.out,if_pos ⟨Ef,sg⟩]) _ ud.out.2.2);clear sg Bq;go_wp2;go_ret;exact HZ.out
  | true=>
  have yl:Hid (iO G i=(open Classical in if x.par=true/\gp x=false then 15 else 0)):=by
   show _=_;rw[FC.out,if_neg (fun h=>by rw[sg] at h;cases h.2)]
  clear sg Bq FC
  have q0:=ud.out.2.1.c0
  have q1:=ud.out.2.1.c1
  have q2:=ud.out.2.1.c2
  have q3:=ud.out.2.1.c3
  have q4:=ud.out.2.1.c4
  have q5:=ud.out.2.1.c5
  by_cases qV:x.par=true
  case neg=>
   have HZ:=hid (tj.out 0 (by rw[yl.out,if_neg (fun h=>qV h.1)]) _ ud.out.2.2);have j2:x.par=false:=(by simpa using qV);rw[j2] at q3;clear qV;go_wp2;go_ret;exact HZ.out
  rw[qV] at q3
  obtain⟨eb,wJ⟩:∃eb,gp x=eb:=⟨_,rfl⟩
  have CM:=hid (zk.out _ ud.out.2.2)
  rw[qV,wJ] at CM
  have Mu:=hid qV
  clear qV
  go_wp2_with (go_at_call 20;refine CM.out.mono ?_;rintro e w9 ⟨rfl,b9⟩;refine Hid.out ?_)
  refine hid ?_
  have Iu:=hid (ud.out.aa b9)
  clear q0 q1 q2 q3 q4 q5 b9 CM
  cases eb with
  | false=>
   have HZ:=hid (tj.out 15 (by rw[yl.out,if_pos ⟨Mu.out,wJ⟩]) _ Iu.out.2.2);clear wJ;go_wp2;go_ret;exact HZ.out
  | true=>
   have HZ:=hid (tj.out 0 (by rw[yl.out,if_neg (fun h=>by rw[wJ] at h;cases h.2)]) _ Iu.out.2.2);clear wJ;go_wp2;go_ret;exact HZ.out
 have j1:(x.prec != -1)=false:=by simp[Ef]
 have yl:Hid (iO G i=(open Classical in if x.par=true/\gp x=false then 15 else 0)):=by
  show _=_;rw[FC.out,if_neg (fun h=>h.1 Ef)]
 have Hpr:=hid Ef;clear Ef sg Bq FC c0 c1 c2 c3 c4 BS;have q0:=j8.out.2.1.c0;have q1:=j8.out.2.1.c1;have q2:=j8.out.2.1.c2;have q3:=j8.out.2.1.c3;have q4:=j8.out.2.1.c4;have q5:=j8.out.2.1.c5;by_cases qV:x.par=true
 case neg=>
  have HZ:=hid (tj.out 0 (by rw[yl.out,if_neg (fun h=>qV h.1)]) _ j8.out.2.2);have j2:x.par=false:=by simpa using qV
  rw[j2] at q3;clear qV;go_wp2;go_ret;exact HZ.out
 rw[qV] at q3;obtain⟨eb,wJ⟩:∃eb,gp x=eb:=⟨_,rfl⟩
 have CM:=hid (zk.out _ j8.out.2.2);rw[qV,wJ] at CM;have Mu:=hid qV;clear qV;go_wp2_with (go_at_call 20;refine CM.out.mono ?_;rintro e w9 ⟨rfl,b9⟩;refine Hid.out ?_);refine hid ?_;have Iu:=hid (j8.out.aa b9);clear q0 q1 q2 q3 q4 q5 b9 CM;cases eb with
 | false=>
  have HZ:=hid (tj.out 15 (by rw[yl.out,if_pos ⟨Mu.out,wJ⟩]) _ Iu.out.2.2);clear wJ;go_wp2;go_ret;exact HZ.out
 | true=>
  have HZ:=hid (tj.out 0 (by rw[yl.out,if_neg (fun h=>by rw[wJ] at h;cases h.2)]) _ Iu.out.2.2);clear wJ;go_wp2;go_ret;exact HZ.out
def yx(l:List Int):List Value:=l.map fun z=>.int .i64 z
theorem zor{a:Option Addr}{c:Nat}{l:List Int}(h:w.ownsRow B 3 1 (.slice a n c) n (yx l))(hl:l.length=n):fP w a l:=by
 intro h0;obtain⟨g,e,_,hg,hc⟩:=fa h (by omega);refine⟨g,0,e,hg,fun j hj=>?_⟩;rw[Nat.zero_add,(hc j (by omega)).1];simp[yx,hj]
def zos(l:List ByteArray)(s:ByteArray)(w:World)(e:Ending)(w':World):Prop:=e=.returned (.int .i64 (xG l s))/\w'=w
theorem zh2(l:List ByteArray)(s:ByteArray)(n c:Nat)(a:Option Addr)(hn:l.length=n)(uM:n<=1000000)(w:World)(h1:qD w a l):
  Calls prog 42 #[.slice a n c,.string s] w (zos l s w):=by
 have H:=hid (Zz h1 hn);clear h1 hn;go_enter func42,ntmps42;go_wp2;go_loopw [5,8] (fun _ v wr=>∃k:Nat,v=.int .i64 k/\k<=n/\wr=w/\Hid (∀j (h:j<l.length),j<k->l[j]≠s)) (fun _ v _=>n-(intOf v).toNat)
 ·exact⟨0,rfl,zero_le _,rfl,fun j _ h=>absurd h (by omega)⟩
 obtain⟨k,rfl,hk,rfl,HX⟩:=hrel;by_cases av:k<n
 ·have cQ:k<l.length:=by rw[H.out.2];exact av
  obtain⟨g1,o1,rfl,_,q1⟩:=H.out.1 (by omega);have x1:=q1 k cQ;have HN:Hid ((l[k]≠s->∀j (h:j<l.length),j<k+1->l[j]≠s)/\(l[k]=s->xG l s=(k:Int))):=by
   refine⟨fun h j hj h3=>?_,fun h=>zom cQ h HX.out⟩;by_cases e:j=k
   ·subst e;exact h
   exact HX.out j hj (by omega)
  have i2:(k:Int)<n:=by omega
  clear q1;generalize l[k]=u at x1 HN;have AW:=xP s u;rcases hE:(s.toList == u.toList) with _|_
  ·rw[hE] at AW;have hne:u≠s:=(fun e=>by simp[e] at AW);have HZ:=hid (HN.out.1 hne)
   try clear hne
   clear AW HN cQ;go_wp2;go_roundw
   ·exact⟨k+1,by go_num,by omega,by first|trivial|rfl,HZ.out⟩
   simp[intOf];omega
  rw[hE] at AW;have Ts:s=u:=by simpa using AW
  have HZ:=hid (HN.out.2 Ts.symm)
  try clear Ts
  try clear hne
  clear AW HN cQ;go_wp2;go_ret;exact⟨by rw[HZ.out];rfl,rfl⟩
 obtain rfl:k=n:=by omega
 have HZ:Hid (xG l s=-1):=zon (fun j hj=>HX.out j hj (by rw[<-H.out.2];exact hj));go_wp2;go_ret;exact⟨by rw[HZ.out];rfl,rfl⟩
theorem zot{s:ByteArray}(hr:∀j (h:j<G.R.length),G.R[j].nm≠s):(xG G.S s=-1/\qa G s=(⟨false,0⟩,false))\/∃k:Nat,xG G.S s=(k:Int)/\qa G s=(⟨true,(k:Int)⟩,true):=by
 have h1:=L3 (s:=s) (l:=G.R.map Ru.nm) (fun j hj=>by simp at hj⊢;exact hr j hj);have e1:qa G s=if px s G.S<G.S.length then (⟨true,((px s G.S:Nat):Int)⟩,true) else (⟨false,0⟩,false):=by
  unfold qa;rw[h1,List.length_map,if_neg (by omega)]
 rw[e1];unfold xG;by_cases h:px s G.S<G.S.length
 ·right;exact⟨_,if_pos h,if_pos h⟩
 left;exact⟨if_neg h,if_neg h⟩
def Es(w:World)(b:Nat)(G:Gr)(wr:World):Prop:=fo wr b G/\wr.heap[b+1]?=some (.cells #[.bool false,.int .i64 0] 38 (0,0))/\Below w.heap.size w wr/\b+1<wr.heap.size/\w.heap.size<=b
theorem Es.aa{b:Nat}(h:Es w b G wr)(k:Below wr.heap.size wr w'):Es w b G w':=⟨h.1.below k,(k.block _ h.2.2.2.1).trans h.2.1,h.2.2.1.trans (k.mono h.2.2.1.size),lt_of_lt_of_le h.2.2.2.1 k.size,h.2.2.2.2⟩
theorem Es.put{b:Nat}(h:Es w b G wr)(d0 d1:Value):Below w.heap.size w ((wr.setCell ⟨b+1,0,none⟩ d0).setCell ⟨b+1,1,none⟩ d1):=(h.2.2.1.setCell (p:=⟨b+1,0,none⟩) (by have:=h.2.2.2.2;show w.heap.size<=b+1;omega) d0).setCell (p:=⟨b+1,1,none⟩) (by have:=h.2.2.2.2;show w.heap.size<=b+1;omega) d1
theorem zh3(G:Gr)(s:ByteArray)(w:World)(hA:G.At w)(hL:G.lb 1000000):
  Calls prog 12 #[G.val,.string s] w (NC G s w):=by
 show Calls prog 12 #[.agg #[.slice G.aR G.R.length G.cR,.slice G.aS G.S.length G.cS,.slice G.aP G.P.length G.cP,.slice G.aL G.L.length G.cL,.int .i64 G.st],.string s] w _;have HA:=hid (Zz hA hL);clear hA hL;obtain⟨w2,bK⟩:∃w2,((w.alloc (.cells #[.slice G.aR G.R.length G.cR,.slice G.aS G.S.length G.cS,.slice G.aP G.P.length G.cP,.slice G.aL G.L.length G.cL,.int .i64 G.st] 27)).alloc (.cells #[.bool false,.int .i64 0] 38))=w2:=⟨_,rfl⟩
 have H:Hid (fo w2 w.heap.size G/\w2.heap[(w.heap.size+1)]?=some (.cells #[.bool false,.int .i64 0] 38 (0,0))/\Below w.heap.size w w2):=by
  rw[<-bK];have k0:=al w (.cells #[.slice G.aR G.R.length G.cR,.slice G.aS G.S.length G.cS,.slice G.aP G.P.length G.cP,.slice G.aL G.L.length G.cL,.int .i64 G.st] 27);have k1:=al (w.alloc (.cells #[.slice G.aR G.R.length G.cR,.slice G.aS G.S.length G.cS,.slice G.aP G.P.length G.cP,.slice G.aL G.L.length G.cL,.int .i64 G.st] 27)) (.cells #[.bool false,.int .i64 0] 38);exact⟨((fo.new w G 27).below k1),(by have h9:=(heap_alloc_new (w.alloc (.cells #[.slice G.aR G.R.length G.cR,.slice G.aS G.S.length G.cS,.slice G.aP G.P.length G.cP,.slice G.aL G.L.length G.cL,.int .i64 G.st] 27)) (.cells #[.bool false,.int .i64 0] 38));simpa using h9),(k0.trans (k1.mono k0.size))⟩
 have jC:Hid (w2.heap.size=w.heap.size+2):=by show _=_;rw[<-bK];simp
 go_enter func12,ntmps12;go_upto_region 1 with fail
 try rw[bK]
 clear bK;obtain⟨b,hb⟩:∃b,w.heap.size=b:=⟨_,rfl⟩
 have HX:Hid (Es w b G w2):=by
  have h8:=jC.out;rw[<-hb];exact⟨H.out.1,H.out.2.1,H.out.2.2,by omega,le_refl _⟩
 rw[hb];clear hb H jC;have c0:=HX.out.1.c0;have HF:=hid (S7 G.R.length G.cR G.aR G.R s rfl (by have:=HA.out.2.r;omega) w2 (HA.out.1.below HX.out.2.2.1).r);go_wp2_with (go_at_call 41;refine HF.out.mono ?_);rintro e w3 ⟨r,rfl,hr,b3⟩;have eh:=hid (HX.out.aa b3);clear HX b3 HF c0;rcases hr with ⟨rfl,hn⟩|⟨i,hi,rfl,hs,hn⟩
 ·have HI:=hid (zh2 G.S s G.S.length G.cS G.aS rfl HA.out.2.s w3 (HA.out.1.below eh.out.2.2.1).s);have HQ:=hid (zot hn);have c1:=eh.out.1.c1;clear hn;go_wp2_with (go_at_call 42;refine HI.out.mono ?_);rintro e w4 ⟨rfl,rfl⟩;clear HI;rcases HQ.out with ⟨h1,h2⟩|⟨k,h1,h2⟩
  ·rw[h1];have HZ:=hid h2;have f0:w4.frozen? ⟨b+1,0,none⟩=false:=frozen_of_row w4 _ 0 _ _ eh.out.2.1;have f1:w4.frozen? ⟨b+1,1,none⟩=false:=frozen_of_row w4 _ 1 _ _ eh.out.2.1;have t0:w4.cell? ⟨b+1,0,none⟩=some (.bool false):=(by rw[cell_of_row w4 _ 0 _ _ _ eh.out.2.1];rfl);have t1:w4.cell? ⟨b+1,1,none⟩=some (.int .i64 0):=(by rw[cell_of_row w4 _ 1 _ _ _ eh.out.2.1];rfl);obtain⟨q0,q1⟩:=PJ eh.out.2.1 (.bool false) (.int .i64 0);clear h1 h2 HQ c1;go_wp2_with fail;exact bodyPost_ret (v:=.tuple #[.agg #[.bool false,.int .i64 0],.bool false]) (by simp[results,results12,go_sem,q0,q1]) rfl ⟨by rw[HZ.out];rfl,eh.out.put _ _⟩
  rw[h1];have HZ:=hid h2;have HO:=hid (xT (k:Int) w4);have i9:(0:Int)<=k:=by omega
  clear h1 h2 HQ c1;go_wp2_with (go_at_call 30;refine HO.out.mono ?_;rintro e w5 ⟨rfl,b5⟩;refine Hid.out ?_);refine hid ?_;have oK:=hid (eh.out.aa b5);clear b5 HO;have f0:w5.frozen? ⟨b+1,0,none⟩=false:=frozen_of_row w5 _ 0 _ _ oK.out.2.1;have f1:w5.frozen? ⟨b+1,1,none⟩=false:=frozen_of_row w5 _ 1 _ _ oK.out.2.1;have t0:w5.cell? ⟨b+1,0,none⟩=some (.bool false):=by rw[cell_of_row w5 _ 0 _ _ _ oK.out.2.1];rfl
  have t1:w5.cell? ⟨b+1,1,none⟩=some (.int .i64 0):=by rw[cell_of_row w5 _ 1 _ _ _ oK.out.2.1];rfl
  obtain⟨q0,q1⟩:=PJ oK.out.2.1 (.bool true) (.int .i64 k);go_wp2_with fail;exact bodyPost_ret (v:=.tuple #[.agg #[.bool true,.int .i64 k],.bool true]) (by simp[results,results12,go_sem,q0,q1]) rfl ⟨by rw[HZ.out];rfl,oK.out.put _ _⟩
 have HZ:=hid (ZU hi hs hn);have i9:(0:Int)<=i:=by omega
 have f0:w3.frozen? ⟨b+1,0,none⟩=false:=frozen_of_row w3 _ 0 _ _ eh.out.2.1;have f1:w3.frozen? ⟨b+1,1,none⟩=false:=frozen_of_row w3 _ 1 _ _ eh.out.2.1;have t0:w3.cell? ⟨b+1,0,none⟩=some (.bool false):=by rw[cell_of_row w3 _ 0 _ _ _ eh.out.2.1];rfl
 have t1:w3.cell? ⟨b+1,1,none⟩=some (.int .i64 0):=by rw[cell_of_row w3 _ 1 _ _ _ eh.out.2.1];rfl
 obtain⟨q0,q1⟩:=PJ eh.out.2.1 (.bool false) (.int .i64 i);clear hi hs hn;go_wp2_with fail;exact bodyPost_ret (v:=.tuple #[.agg #[.bool false,.int .i64 i],.bool true]) (by simp[results,results12,go_sem,q0,q1]) rfl ⟨by rw[HZ.out];rfl,eh.out.put _ _⟩
def qP(q:Int->Int->Prop)(w:World)(e:Ending)(w':World):Prop:=∃a b:Int,e=.returned (.tuple #[.int .i64 a,.int .i64 b])/\q a b/\Below w.heap.size w w'
def og(f:Nat->Int)(n m:Nat)(a e:Int):Prop:=(m<n/\e=6/\a=(n:Int))\/(n<=m/\lg f n=e/\(e≠0->a=(Ao f n:Int)))
theorem Vu{s:ByteArray}{l:List ByteArray}{j:Nat}(hj:j<l.length)(h:l[j]=s):px s l<=j:=by
 induction l generalizing j with
 | nil=>simp at hj
 | cons a l ih=>
  simp only[px];split
  ·omega
  rename_i h1;cases j with
  | zero=>exact absurd h h1
  | succ j=>
   simp at hj h;have:=ih hj h;omega
theorem znp(hk:k<G.S.length)(hn:bU (pN G k)=true):((qa G G.S[k]).1=⟨true,(k:Int)⟩->je G k=0)/\((qa G G.S[k]).1≠⟨true,(k:Int)⟩->je G k=9):=by
 by_cases hr:∃j,∃h:j<G.R.length,G.R[j].nm=G.S[k]
 ·obtain⟨j,hj,h⟩:=hr;have e9:je G k=9:=TK hn (inr ⟨j,hj,by rw[Fq hj,xD hk];exact h⟩);refine⟨fun e=>?_,fun _=>e9⟩;have av:px G.S[k] (G.R.map Ru.nm)<G.R.length:=Nat.lt_of_le_of_lt (Vu (j:=j) (by simpa using hj) (by simpa using h)) hj;unfold qa at e;rw[if_pos av] at e;injection e with e1 e2;cases e1
 have QP:∀j (h:j<G.R.length),G.R[j].nm≠G.S[k]:=fun j h e=>hr ⟨j,h,e⟩
 by_cases hs:∃j,∃h:j<k,G.S[j]'(by omega)=G.S[k]
 ·obtain⟨j,hj,h⟩:=hs;have e9:je G k=9:=TK hn (inl ⟨j,hj,by rw[xD (by omega),xD hk];exact h⟩);refine⟨fun e=>?_,fun _=>e9⟩;have hle:px G.S[k] G.S<=j:=Vu (by omega) h;have e2:=L3 (s:=G.S[k]) (l:=G.R.map Ru.nm) (fun j hj=>by simp at hj⊢;exact QP j hj);unfold qa at e;rw[e2,List.length_map,if_neg (by omega),if_pos (by omega)] at e;injection e with e1 e3;omega
 have qw:∀j (h:j<G.S.length),j<k->G.S[j]≠G.S[k]:=fun j h hjk e=>hs ⟨j,hjk,e⟩
 have e0:=Zk QP hk rfl qw;have e1:je G k=0:=XA hn (fun j hj=>by rw[xD (by omega),xD hk];exact qw j (by omega) hj) (fun j hj=>by rw[Fq hj,xD hk];exact QP j hj);exact⟨fun _=>e1,fun h=>absurd (by rw[e0]) h⟩
def Pj(b:Bool):Int:=if b then 0 else 8
theorem zh4(s:ByteArray)(w:World)(hs:s.size<=maxLen):
  Calls prog 54 #[.string s] w fun e w'=>e=.returned (.int .i64 (Pj (bU s)))/\w'=w:=by
 go_enter func54,ntmps54;go_wp2_with fail;refine (Pf s _ hs).mono ?_;rintro e w1 ⟨rfl,rfl⟩;rcases hn:bU s with _|_
 ·have HN:=hid hn;clear hn;go_wp2;go_ret;exact⟨by rw[HN.out];rfl,rfl⟩
 have HN:=hid hn;clear hn;go_wp2;go_ret;exact⟨by rw[HN.out];rfl,rfl⟩
def Dt(w:World)(b b7:Nat)(G:Gr)(y:Sy)(wr:World):Prop:=fo wr b G/\sW wr b7 y/\Below w.heap.size w wr
theorem Dt.aa{b b7:Nat}{y:Sy}(h:Dt w b b7 G y wr)(k:Below wr.heap.size wr w'):Dt w b b7 G y w':=⟨h.1.below k,h.2.1.below k,h.2.2.trans (k.mono h.2.2.size)⟩
theorem zdR(G:Gr)(w:World)(hA:G.At w)(hL:G.lb 1000000):
  Calls prog 27 #[G.val] w (qP (og (je G) G.S.length 300) w):=by
 show Calls prog 27 #[.agg #[.slice G.aR G.R.length G.cR,.slice G.aS G.S.length G.cS,.slice G.aP G.P.length G.cP,.slice G.aL G.L.length G.cL,.int .i64 G.st]] w _;have HA:=hid (Zz hA hL);have HFd:Hid (∀(s:ByteArray) W,Below w.heap.size w W->Calls prog 12 #[.agg #[.slice G.aR G.R.length G.cR,.slice G.aS G.S.length G.cS,.slice G.aP G.P.length G.cP,.slice G.aL G.L.length G.cL,.int .i64 G.st],.string s] W (NC G s W)):=fun s W k=>zh3 G s W (hA.below k) hL
 have A3:=hL.s;clear hA hL;obtain⟨w2,bK⟩:∃w2,(w.alloc (.cells #[.slice G.aR G.R.length G.cR,.slice G.aS G.S.length G.cS,.slice G.aP G.P.length G.cP,.slice G.aL G.L.length G.cL,.int .i64 G.st] 27))=w2:=⟨_,rfl⟩
 have H:Hid (fo w2 w.heap.size G/\Below w.heap.size w w2):=by
  rw[<-bK];have k0:=al w (.cells #[.slice G.aR G.R.length G.cR,.slice G.aS G.S.length G.cS,.slice G.aP G.P.length G.cP,.slice G.aL G.L.length G.cL,.int .i64 G.st] 27);exact⟨(fo.new w G 27),k0⟩
 have jC:Hid (w2.heap.size=w.heap.size+1):=by show _=_;rw[<-bK];simp
 go_enter func27,ntmps27;go_upto_region 1 with fail
 try rw[bK]
 clear bK;obtain⟨b,hb⟩:∃b,w.heap.size=b:=⟨_,rfl⟩
 have HX:Hid (kO w b G w2):=by rw[<-hb];exact H.out
 rw[hb];clear hb H jC;have c1:=HX.out.1.c1;by_cases h3:300<G.S.length
 ·have i3:(300:Int)<(G.S.length:Int):=by omega
  have HZ:Hid (qP (og (je G) G.S.length 300) w (.returned (.tuple #[.int .i64 (G.S.length:Int),.int .i64 6])) w2):=⟨_,_,rfl,inl ⟨h3,rfl,rfl⟩,HX.out.2⟩
  clear h3;go_wp2;go_ret2;exact HZ.out
 have i3:¬((300:Int)<(G.S.length:Int)):=by omega
 have H3:=hid h3;obtain⟨n,hn⟩:∃n,G.S.length=n:=⟨_,rfl⟩
 have HN:=hid hn;have uM:n<=1000000:=by omega
 rw[hn] at c1 i3;clear hn A3 h3;have vV:Hid (kO w b G w2/\∀j,j<0->je G j=0):=⟨HX.out,fun j h=>by omega⟩
 go_wp2;go_loopw [19] (fun v wr=>∃k:Nat,v=.int .i64 (k:Int)/\k<=n/\Hid (kO w b G wr/\∀j,j<k->je G j=0)) (fun v _=>n-(intOf v).toNat)
 ·exact⟨0,rfl,zero_le _,vV.out⟩
 clear vV HX c1;obtain⟨k,rfl,hk,HK⟩:=hrel;have c1:=HK.out.1.1.c1;rw[HN.out] at c1;by_cases av:k<n
 case neg=>
  obtain rfl:k=n:=by omega
  have HZ:Hid (qP (og (je G) G.S.length 300) w (.returned (.tuple #[.int .i64 (k:Int),.int .i64 0])) wr):=⟨_,_,rfl,inr ⟨by have:=H3.out;omega,by rw[HN.out];exact Dl HK.out.2,fun h=>absurd rfl h⟩,HK.out.1.2⟩
  go_wp2;go_ret2;exact HZ.out
 have cQ:k<G.S.length:=by rw[HN.out];exact av
 obtain⟨g1,o1,e1,gV,y1⟩:=(HA.out.1.below HK.out.1.2).s (by omega);have x0:=y1 k cQ;have i1:(k:Int)<n:=by omega
 have HW:Hid (∀W,Below w.heap.size w W->je G k≠0->qP (og (je G) G.S.length 300) w (.returned (.tuple #[.int .i64 (k:Int),.int .i64 (je G k)])) W):=fun W hW h=>by
  obtain⟨f1,f2⟩:=JA (n:=G.S.length) cQ HK.out.2 h;exact⟨_,_,rfl,inr ⟨by have:=H3.out;omega,f1,fun _=>by rw[f2]⟩,hW⟩
 have HE:=hid (zh4 G.S[k] wr (by have:=HA.out.2.ss k cQ;unfold maxLen;omega));have dA:Hid ((bU G.S[k]=true->((qa G G.S[k]).1=⟨true,(k:Int)⟩->je G k=0)/\((qa G G.S[k]).1≠⟨true,(k:Int)⟩->je G k=9))/\(bU G.S[k]=false->je G k=8)):=⟨fun h=>znp cQ (by rw[xD cQ];exact h),fun h=>zpd (by rw[xD cQ];exact h)⟩
 have jY:=hid e1;rw[e1] at c1⊢;clear y1 e1;generalize G.S[k]=s at x0 HE dA;cases ez:bU s with
 | false=>
  rw[ez] at HE;have AA:Hid (Calls prog 54 #[.string s] wr fun e w'=>e=.returned (.int .i64 8)/\w'=wr):=HE.out;have h8:=dA.out.2 ez;have HZ:=hid (HW.out wr HK.out.1.2 (by rw[h8];decide));rw[h8] at HZ;clear h8 ez HW HE dA cQ;go_wp2_with (go_at_call 54;refine AA.out.mono ?_;rintro e w3 ⟨rfl,rfl⟩);go_ret2;exact HZ.out
 | true=>
  rw[ez] at HE
  have AA:Hid (Calls prog 54 #[.string s] wr fun e w'=>e=.returned (.int .i64 0)/\w'=wr):=HE.out
  have xv:=hid (dA.out.1 ez)
  have HF:=hid (HFd.out s wr HK.out.1.2)
  have c0:=HK.out.1.1.c0
  have c2:=HK.out.1.1.c2
  have c3:=HK.out.1.1.c3
  have c4:=HK.out.1.1.c4
  clear HE dA ez cQ
  obtain⟨⟨y,ok⟩,hy⟩:∃p,qa G s=p:=⟨_,rfl⟩
  rw[hy] at xv
  have Cn:Hid (Calls prog 12 #[.agg #[.slice G.aR G.R.length G.cR,.slice G.aS G.S.length G.cS,.slice G.aP G.P.length G.cP,.slice G.aL G.L.length G.cL,.int .i64 G.st],.string s] wr (fun e w'=>e=.returned (.tuple #[.agg #[.bool y.s,.int .i64 y.n],.bool ok])/\Below wr.heap.size wr w')):=by
   have h9:=HF.out;unfold NC at h9;rw[hy] at h9;exact h9
  rw[HN.out,jY.out] at Cn
  clear hy HF
  go_upto_region 9 with (go_at_call 54;refine AA.out.mono ?_;rintro e w3 ⟨rfl,rfl⟩)
  go_upto_region 10 with (go_at_call 12;refine Cn.out.mono ?_;rintro e w4 ⟨rfl,b4⟩)
  have lG:=hid (HK.out.1.aa b4)
  have k4:=al w4 (.cells #[.bool y.s,.int .i64 y.n] 38)
  obtain⟨b7,AY⟩:∃b7,w4.heap.size=b7:=⟨_,rfl⟩
  have HC:Hid (Dt w b b7 G y (w4.alloc (.cells #[.bool y.s,.int .i64 y.n] 38))):=by
   have h9:=lG.out.aa k4;exact⟨h9.1,by rw[<-AY];exact sW.new w4 y 38,h9.2⟩
  try rw[AY]
  clear b4 k4 AY lG Cn AA x0 c0 c1 c2 c3 c4
  generalize w4.alloc (.cells #[.bool y.s,.int .i64 y.n] 38)=W5 at HC⊢
  have kd:Below W5.heap.size W5 W5.drew:=⟨rfl,rfl,rfl,le_refl _,fun _ _=>rfl⟩
  have xZ:=hid (HC.out.aa kd)
  clear kd
  obtain⟨ys,yn⟩:=y
  cases ys with
  | false=>
   have h9:=xv.out.2 (fun e=>by injection e with e1 e2;cases e1);have HZ:Hid (∀W,Below w.heap.size w W->qP (og (je G) G.S.length 300) w (.returned (.tuple #[.int .i64 (k:Int),.int .i64 9])) W):=fun W hW=>by
    have:=HW.out W hW (by rw[h9];decide);rw[h9] at this;exact this
   clear h9 HW xv;refine wp_region_held_drew (S:=fun W'=>Dt w b b7 G ⟨false,yn⟩ W') (by kernel_rfl) (xZ.out) (fun hHeld=>?_);refine ak 0 (v:=.agg #[.bool false,.int .i64 yn]) ?_ (hy:=by intro wz hSw;have z0:=hSw.2.1.c0;have z1:=hSw.2.1.c1;(try simp only[Act.put,sA,sB,sC]);go_simp;first|done|with_reducible rfl)
   try simp only[Act.put,sA,sB,sC]
   refine ak 1 ?_ (hy:=by intro wz hSw;have z0:=hSw.2.1.c0;have z1:=hSw.2.1.c1;(try simp only[Act.put,sA,sB,sC]);go_simp;first|done|with_reducible rfl)
   try simp only[Act.put,sA,sB,sC]
   refine bc 2 (fun K hK=>?_);go_simp;go_at_call 30;refine (xT _ _).mono ?_;rintro e w8 ⟨rfl,b8⟩;have aZ:=hHeld.aa b8;clear b8 hHeld
   try go_wp2_with fail
   refine hK.out _ _ aZ (fun hHeld=>?_);clear hK K aZ
   try simp only[Act.put,sA,sB,sC]
   refine ak 3 (v:=.bool true) ?_ (hy:=by intro wz hSw;have z0:=hSw.2.1.c0;have z1:=hSw.2.1.c1;(try simp only[Act.put,sA,sB,sC]);go_simp;first|done|with_reducible rfl)
   try simp only[Act.put,sA,sB,sC]
   refine wpAnyH_done (by kernel_rfl) ?_ _;go_wp2;go_ret2;exact HZ.out _ hHeld.2.2
  | true=>
   by_cases Cb:yn=(k:Int)
   ·have j9:(yn == (k:Int))=true:=(by simp[Cb]);have h0:=xv.out.1 (by rw[Cb]);have HZ:Hid (∀j,j<k+1->je G j=0):=fun j hj=>by
     by_cases e:j=k
     ·subst e;exact h0
     exact HK.out.2 j (by omega)
    have hyk2:=hid Cb;clear h0 HW xv Cb;refine wp_region_held_drew (S:=fun W'=>Dt w b b7 G ⟨true,yn⟩ W') (by kernel_rfl) (xZ.out) (fun hHeld=>?_);refine ak 0 (v:=.agg #[.bool true,.int .i64 yn]) ?_ (hy:=by intro wz hSw;have z0:=hSw.2.1.c0;have z1:=hSw.2.1.c1;(try simp only[Act.put,sA,sB,sC]);go_simp;first|done|with_reducible rfl)
    try simp only[Act.put,sA,sB,sC]
    refine ak 1 ?_ (hy:=by intro wz hSw;have z0:=hSw.2.1.c0;have z1:=hSw.2.1.c1;(try simp only[Act.put,sA,sB,sC]);go_simp;first|done|with_reducible rfl)
    try simp only[Act.put,sA,sB,sC]
    refine bc 2 (fun K hK=>?_);go_simp;go_at_call 30;refine (xT _ _).mono ?_;rintro e w8 ⟨rfl,b8⟩;have aZ:=hHeld.aa b8;clear b8 hHeld
    try go_wp2_with fail
    refine hK.out _ _ aZ (fun hHeld=>?_);clear hK K aZ
    try simp only[Act.put,sA,sB,sC]
    refine ak 3 (v:=.bool false) ?_ (hy:=by intro wz hSw;have z0:=hSw.2.1.c0;have z1:=hSw.2.1.c1;(try simp only[Act.put,sA,sB,sC]);go_simp;first|done|with_reducible rfl)
    try simp only[Act.put,sA,sB,sC]
    refine wpAnyH_done (by kernel_rfl) ?_ _;go_wp2;go_roundw
    ·exact⟨k+1,by go_num,by omega,⟨hHeld.1,hHeld.2.2⟩,HZ.out⟩
    simp[intOf];omega
   have j9:(yn == (k:Int))=false:=(by simp[Cb]);have h9:=xv.out.2 (fun e=>by injection e with e1 e2;exact Cb e2);have HZ:Hid (∀W,Below w.heap.size w W->qP (og (je G) G.S.length 300) w (.returned (.tuple #[.int .i64 (k:Int),.int .i64 9])) W):=fun W hW=>by
    have:=HW.out W hW (by rw[h9];decide);rw[h9] at this;exact this
   clear h9 HW xv Cb;refine wp_region_held_drew (S:=fun W'=>Dt w b b7 G ⟨true,yn⟩ W') (by kernel_rfl) (xZ.out) (fun hHeld=>?_);refine ak 0 (v:=.agg #[.bool true,.int .i64 yn]) ?_ (hy:=by intro wz hSw;have z0:=hSw.2.1.c0;have z1:=hSw.2.1.c1;(try simp only[Act.put,sA,sB,sC]);go_simp;first|done|with_reducible rfl)
   try simp only[Act.put,sA,sB,sC]
   refine ak 1 ?_ (hy:=by intro wz hSw;have z0:=hSw.2.1.c0;have z1:=hSw.2.1.c1;(try simp only[Act.put,sA,sB,sC]);go_simp;first|done|with_reducible rfl)
   try simp only[Act.put,sA,sB,sC]
   refine bc 2 (fun K hK=>?_);go_simp;go_at_call 30;refine (xT _ _).mono ?_;rintro e w8 ⟨rfl,b8⟩;have aZ:=hHeld.aa b8;clear b8 hHeld
   try go_wp2_with fail
   refine hK.out _ _ aZ (fun hHeld=>?_);clear hK K aZ
   try simp only[Act.put,sA,sB,sC]
   refine ak 3 (v:=.bool true) ?_ (hy:=by intro wz hSw;have z0:=hSw.2.1.c0;have z1:=hSw.2.1.c1;(try simp only[Act.put,sA,sB,sC]);go_simp;first|done|with_reducible rfl)
   try simp only[Act.put,sA,sB,sC]
   refine wpAnyH_done (by kernel_rfl) ?_ _;go_wp2;go_ret2;exact HZ.out _ hHeld.2.2
theorem zdS(G:Gr)(w:World)(hA:G.At w)(hL:G.lb 1000000):
  Calls prog 28 #[G.val] w (qP (og (iO G) G.P.length 200) w):=by
 show Calls prog 28 #[.agg #[.slice G.aR G.R.length G.cR,.slice G.aS G.S.length G.cS,.slice G.aP G.P.length G.cP,.slice G.aL G.L.length G.cL,.int .i64 G.st]] w _;have HCp:Hid (∀i,i<G.P.length->∀W,Below w.heap.size w W->Calls prog 55 #[.agg #[.slice G.aR G.R.length G.cR,.slice G.aS G.S.length G.cS,.slice G.aP G.P.length G.cP,.slice G.aL G.L.length G.cL,.int .i64 G.st],.int .i64 ((i:Nat):Int)] W (O4 (iO G i) W)):=fun i h W k=>zeu G i h W (hA.below k) hL
 have A3:=hL.p;clear hA hL;obtain⟨w2,bK⟩:∃w2,(w.alloc (.cells #[.slice G.aR G.R.length G.cR,.slice G.aS G.S.length G.cS,.slice G.aP G.P.length G.cP,.slice G.aL G.L.length G.cL,.int .i64 G.st] 27))=w2:=⟨_,rfl⟩
 have H:Hid (fo w2 w.heap.size G/\Below w.heap.size w w2):=by
  rw[<-bK];have k0:=al w (.cells #[.slice G.aR G.R.length G.cR,.slice G.aS G.S.length G.cS,.slice G.aP G.P.length G.cP,.slice G.aL G.L.length G.cL,.int .i64 G.st] 27);exact⟨(fo.new w G 27),k0⟩
 have jC:Hid (w2.heap.size=w.heap.size+1):=by show _=_;rw[<-bK];simp
 go_enter func28,ntmps28;go_upto_region 1 with fail
 try rw[bK]
 clear bK;obtain⟨b,hb⟩:∃b,w.heap.size=b:=⟨_,rfl⟩
 have HX:Hid (kO w b G w2):=by rw[<-hb];exact H.out
 rw[hb];clear hb H jC;have c2:=HX.out.1.c2;by_cases h3:200<G.P.length
 ·have i3:(200:Int)<(G.P.length:Int):=by omega
  have HZ:Hid (qP (og (iO G) G.P.length 200) w (.returned (.tuple #[.int .i64 (G.P.length:Int),.int .i64 6])) w2):=⟨_,_,rfl,inl ⟨h3,rfl,rfl⟩,HX.out.2⟩
  clear h3;go_wp2;go_ret2;exact HZ.out
 have i3:¬((200:Int)<(G.P.length:Int)):=by omega
 have H3:=hid h3;obtain⟨n,hn⟩:∃n,G.P.length=n:=⟨_,rfl⟩
 have HN:=hid hn;have uM:n<=1000000:=by omega
 rw[hn] at c2 i3;clear hn A3 h3;have vV:Hid (kO w b G w2/\∀j,j<0->iO G j=0):=⟨HX.out,fun j h=>by omega⟩
 go_wp2;go_loopw [16] (fun v wr=>∃k:Nat,v=.int .i64 (k:Int)/\k<=n/\Hid (kO w b G wr/\∀j,j<k->iO G j=0)) (fun v _=>n-(intOf v).toNat)
 ·exact⟨0,rfl,zero_le _,vV.out⟩
 clear vV HX c2;obtain⟨k,rfl,hk,HK⟩:=hrel;have c0:=HK.out.1.1.c0;have c1:=HK.out.1.1.c1;have c2:=HK.out.1.1.c2;have c3:=HK.out.1.1.c3;have c4:=HK.out.1.1.c4;rw[HN.out] at c2;by_cases av:k<n
 case neg=>
  obtain rfl:k=n:=by omega
  have HZ:Hid (qP (og (iO G) G.P.length 200) w (.returned (.tuple #[.int .i64 (k:Int),.int .i64 0])) wr):=⟨_,_,rfl,inr ⟨by have:=H3.out;omega,by rw[HN.out];exact Dl HK.out.2,fun h=>absurd rfl h⟩,HK.out.1.2⟩
  clear c0 c1 c3 c4;go_wp2;go_ret2;exact HZ.out
 have cQ:k<G.P.length:=by rw[HN.out];exact av
 have i1:(k:Int)<n:=by omega
 have HC:=hid (HCp.out k cQ wr HK.out.1.2);rw[HN.out] at HC;obtain⟨z,hz⟩:∃z,iO G k=z:=⟨_,rfl⟩
 rw[hz] at HC;have PN:=hid hz;clear hz;go_wp2_with (go_at_call 55;refine HC.out.mono ?_;rintro e w3 ⟨rfl,b3⟩;refine Hid.out ?_);refine hid ?_;have uK:=hid (HK.out.1.aa b3);clear b3 HC c0 c1 c2 c3 c4;by_cases h0:z=0
 ·subst h0;have HZ:Hid (∀j,j<k+1->iO G j=0):=fun j hj=>by
   by_cases e:j=k
   ·subst e;exact PN.out
   exact HK.out.2 j (by omega)
  go_wp2;go_roundw
  ·exact⟨k+1,by go_num,by omega,uK.out,HZ.out⟩
  simp[intOf];omega
 have j0:(z != 0)=true:=by simpa using h0
 have HZ:Hid (qP (og (iO G) G.P.length 200) w (.returned (.tuple #[.int .i64 (k:Int),.int .i64 z])) w3):=by
  obtain⟨f1,f2⟩:=JA (n:=G.P.length) cQ HK.out.2 (by rw[PN.out];exact h0);exact⟨_,_,rfl,inr ⟨by have:=H3.out;omega,by rw[f1,PN.out],fun _=>by rw[f2]⟩,uK.out.2⟩
 clear h0 cQ;go_wp2;go_ret2;exact HZ.out
def kI(G:Gr)(i k:Nat):List Int:=((range i).flatMap (fun a=>(ga G a).rules))++(ga G i).rules.take k
theorem zld(G:Gr):kI G 0 0=[]:=by simp[kI]
theorem zle(h:k<(ga G i).rules.length):kI G i (k+1)=kI G i k++[(ga G i).rules[k]]:=by
 unfold kI;rw[List.take_succ_eq_append_getElem h,List.append_assoc]
theorem zjb(G:Gr)(i:Nat):kI G (i+1) 0=kI G i (ga G i).rules.length:=by
 unfold kI;rw[List.range_succ,List.flatMap_append,List.take_zero,List.append_nil,List.take_of_length_le (le_refl _)];simp
theorem Zj{m:Nat}(h:∀a,(ga G a).rules.length<=m)(i k:Nat):(kI G i k).length<=i*m+k:=by
 have h1:((range i).flatMap (fun a=>(ga G a).rules)).length<=i*m:=by
  induction i with
  | zero=>simp
  | succ i ih=>
   have:=h i;rw[List.range_succ,List.flatMap_append,length_append];simp only[List.flatMap_cons,List.flatMap_nil,List.append_nil];rw[Nat.add_mul,Nat.one_mul];omega
 unfold kI;rw[length_append,List.length_take];omega
theorem zjc(h:k<(ga G i).rules.length):(ga G i).rules[k]∈kI G i k↔oz G i k:=by
 have e:(ga G i).rules.getD k 0=(ga G i).rules[k]:=by simp[h]
 unfold kI oz;rw[List.mem_append,e];constructor
 ·rintro (h1|h1)
  ·obtain⟨a,ha,hz⟩:=List.mem_flatMap.1 h1;obtain⟨b,hb,hq⟩:=getElem_of_mem hz;exact⟨a,b,inl (by simpa using ha),hb,by simp[hb,hq]⟩
  obtain⟨b,hb,hq⟩:=getElem_of_mem h1;simp at hb hq;have bZ:b<(ga G i).rules.length:=by omega
  exact⟨i,b,inr ⟨rfl,by omega⟩,bZ,by simp[bZ,hq]⟩
 rintro⟨a,b,h1,hb,hq⟩;rw[show (ga G a).rules.getD b 0=(ga G a).rules[b] by simp[hb]] at hq;rcases h1 with h1|⟨rfl,h1⟩
 ·exact inl (List.mem_flatMap.2 ⟨a,by simpa using h1,by rw[<-hq];exact getElem_mem hb⟩)
 right;rw[<-hq];have:(ga G a).rules[b]=((ga G a).rules.take k)[b]'(by simp;omega):=by simp
 rw[this];exact getElem_mem _
theorem Qw(h:(ga G i).side<1\/3<(ga G i).side\/(ga G i).rules.length=0\/60<=i):pQ G i=1:=if_pos h
theorem zlf(h:¬((ga G i).side<1\/3<(ga G i).side\/(ga G i).rules.length=0\/60<=i)):pQ G i=lg (wY G i) (ga G i).rules.length:=if_neg h
def mh(z:Int):Bool:=z == 1 || (z == 2 || z == 3)
theorem zlg{z:Int}(h:mh z=false):z<1\/3<z:=by
 unfold mh at h;simp only[Bool.or_eq_false_iff,beq_eq_false_iff_ne] at h;omega
theorem zjd{z:Int}(h:mh z=true):¬(z<1\/3<z):=by
 unfold mh at h;simp only[Bool.or_eq_true,beq_iff_eq] at h;omega
theorem zh5(z:Int)(w:World):Calls prog 56 #[.int .i64 z] w (fun e w'=>e=.returned (.bool (mh z))/\w'=w):=by
 have HZ:Hid (mh z=(z == 1 || (z == 2 || z == 3))):=rfl;go_enter func56,ntmps56;rcases h0:(z == 1) with _|_
 ·rcases h1:(z == 2) with _|_
  ·rw[h0,h1] at HZ;go_wp2;go_ret;exact⟨by rw[HZ.out];rfl,rfl⟩
  rw[h0,h1] at HZ;go_wp2;go_ret;exact⟨by rw[HZ.out];rfl,rfl⟩
 rw[h0] at HZ;go_wp2;go_ret;exact⟨by rw[HZ.out];rfl,rfl⟩
theorem Zl(l:List Int)(n c:Nat)(a:Option Addr)(z:Int)(hl:l.length=n)(hn:n<=9223372036854775807)(w:World)(h:fP w a l):
  Calls prog 57 #[.slice a n c,.int .i64 z] w (fun e w'=>∃b,(b=true↔z∈l)/\e=.returned (.bool b)/\w'=w):=by
 rcases Nat.eq_zero_or_pos n with h0|h0
 ·subst h0;refine (Tryz.slices_Contains_int_empty a c z w).mono ?_;rintro e w' ⟨rfl,rfl⟩;exact⟨false,by rw[List.length_eq_zero_iff.1 hl];simp,rfl,rfl⟩
 obtain⟨g,off,rfl,hg,hc⟩:=h (by omega);refine (Tryz.slices_Contains_int g off n c l z w (by omega) hn hc).mono ?_;rintro e w' ⟨rfl,rfl⟩;exact⟨_,by rw[List.take_of_length_le (by omega),List.contains_iff_mem],rfl,rfl⟩
theorem Yq(G:Gr)(w:World)(hA:G.At w)(hL:G.lb 1000000):
  Calls prog 29 #[G.val] w (qP (og (pQ G) G.L.length G.L.length) w):=by
 show Calls prog 29 #[.agg #[.slice G.aR G.R.length G.cR,.slice G.aS G.S.length G.cS,.slice G.aP G.P.length G.cP,.slice G.aL G.L.length G.cL,.int .i64 G.st]] w _;obtain⟨iI,hI,pT,pJ,pK⟩:=info_parts az;have AF:Hid (∀(y:Sy) W,Below w.heap.size w W->Calls prog 14 #[.agg #[.slice G.aR G.R.length G.cR,.slice G.aS G.S.length G.cS,.slice G.aP G.P.length G.cP,.slice G.aL G.L.length G.cL,.int .i64 G.st],.agg #[.bool y.s,.int .i64 y.n]] W (mB (fQ G y) W)):=fun y W k=>JM G y W (hA.below k) (hL.mono (by omega))
 have US:Hid (∀a,(ga G a).rules.length<=1000000):=fun a=>by
  by_cases h:a<G.L.length
  ·rw[Qd h];exact hL.ls a h
  simp[ga,h]
 have HA:=hid hA;have xd:=hL.l;clear hA hL;obtain⟨w2,bK⟩:∃w2,(w.alloc (.cells #[.slice G.aR G.R.length G.cR,.slice G.aS G.S.length G.cS,.slice G.aP G.P.length G.cP,.slice G.aL G.L.length G.cL,.int .i64 G.st] 27))=w2:=⟨_,rfl⟩
 have H:Hid (fo w2 w.heap.size G/\Below w.heap.size w w2):=by
  rw[<-bK];have k0:=al w (.cells #[.slice G.aR G.R.length G.cR,.slice G.aS G.S.length G.cS,.slice G.aP G.P.length G.cP,.slice G.aL G.L.length G.cL,.int .i64 G.st] 27);exact⟨(fo.new w G 27),k0⟩
 have jC:Hid (w2.heap.size=w.heap.size+1):=by show _=_;rw[<-bK];simp
 go_enter func29,ntmps29;go_upto_region 1 with fail
 try rw[bK]
 clear bK;obtain⟨b,hb⟩:∃b,w.heap.size=b:=⟨_,rfl⟩
 have HX:Hid (kO w b G w2):=by rw[<-hb];exact H.out
 rw[hb];clear hb H jC;have Et:Hid (∀W,Below w2.heap.size w2 W->kO w b G W):=fun W k=>HX.out.aa k
 have c3:=HX.out.1.c3;obtain⟨n,hn⟩:∃n,G.L.length=n:=⟨_,rfl⟩
 have HN:=hid hn;rw[hn] at c3 xd;have J3:Hid (∀k,k<n->(∀j,j<k->pQ G j=0)->∀z,pQ G k=z->z≠0->∀W,Below w2.heap.size w2 W->qP (og (pQ G) G.L.length G.L.length) w (.returned (.tuple #[.int .i64 (k:Int),.int .i64 z])) W):=fun k hk h0 z hz hne W kW=>by
  obtain⟨f1,f2⟩:=JA (n:=G.L.length) (by omega) h0 (by rw[hz];exact hne);exact⟨_,_,rfl,inr ⟨le_refl _,by rw[f1,hz],fun _=>by rw[f2]⟩,(Et.out W kW).2⟩
 clear hn;have zr:Hid (w2.ownsRow w2.heap.size 3 1 (.slice none 0 0) 0 (yx (kI G 0 0))/\(kI G 0 0).length=0):=by rw[zld];exact⟨World.ownsRow_nil _ _ _ _,rfl⟩
 go_wp2;go_loopw [4,12] (fun v4 v12 wr=>∃(k q:Nat) (a:Option Addr) (d:Nat),k<=n/\v12=.int .i64 (k:Int)/\v4=.slice a q d/\Hid (wr.ownsRow w2.heap.size 3 1 (.slice a q d) q (yx (kI G k 0))/\(kI G k 0).length=q/\Below w2.heap.size w2 wr/\∀j,j<k->pQ G j=0)) (fun _ v _=>n-(intOf v).toNat)
 ·exact⟨0,0,none,0,zero_le _,rfl,rfl,zr.out.1,zr.out.2,Below.refl _ _,fun j h=>by omega⟩
 clear zr c3;obtain⟨k,q,a,d,hk,rfl,rfl,HK⟩:=hrel;by_cases av:k<n
 case neg=>
  obtain rfl:k=n:=by omega
  have HZ:Hid (qP (og (pQ G) G.L.length G.L.length) w (.returned (.tuple #[.int .i64 (k:Int),.int .i64 0])) wr):=⟨_,_,rfl,inr ⟨le_refl _,by rw[HN.out];exact Dl HK.out.2.2.2,fun h=>absurd rfl h⟩,(Et.out wr HK.out.2.2.1).2⟩
  have c3:=(Et.out wr HK.out.2.2.1).1.c3;rw[HN.out] at c3;go_wp2;go_ret2;exact HZ.out
 have cQ:k<G.L.length:=by rw[HN.out];exact av
 have i1:(k:Int)<n:=by omega
 obtain⟨g1,o1,e1,_,X,x0,x1⟩:=(HA.out.below (Et.out wr HK.out.2.2.1).2).l.get k cQ;obtain⟨x,hx⟩:∃x,G.L[k]=x:=⟨_,rfl⟩
 have Hx:Hid (ga G k=x):=by show _=_;rw[Qd cQ];exact hx
 have hz:=US.out k;rw[Qd cQ] at hz;rw[hx] at X x0 x1 hz;have Uq:=hid X;have kb:=al wr (.cells #[.int .i64 x.side,.slice x.ar x.rules.length x.cr] 58);have pb:=wM.new wr x 58;obtain⟨b6,eC⟩:∃b6,wr.heap.size=b6:=⟨_,rfl⟩
 obtain⟨W1,qK⟩:∃W1,wr.alloc (.cells #[.int .i64 x.side,.slice x.ar x.rules.length x.cr] 58)=W1:=⟨_,rfl⟩
 have H1:Hid (wM W1 b6 x/\fP W1 x.ar x.rules/\W1.ownsRow w2.heap.size 3 1 (.slice a q d) q (yx (kI G k 0))/\Below w2.heap.size w2 W1):=by
  rw[qK] at kb pb;have:=HK.out.1.alloc (.cells #[.int .i64 x.side,.slice x.ar x.rules.length x.cr] 58);rw[qK] at this;exact⟨eC ▸ pb,Uq.out.below kb,this,HK.out.2.2.1.trans (kb.mono HK.out.2.2.1.size)⟩
 have kB:Hid (∀W,Below w.heap.size w W->fP W x.ar x.rules):=fun W kW=>by
  obtain⟨_,_,_,_,Y,_⟩:=(HA.out.below kW).l.get k cQ;rw[hx] at Y;exact Y
 clear X kb pb hx cQ Uq;rw[e1];go_upto_region 5 with fail
 try rw[qK]
 try rw[eC]
 clear qK eC x0 x1 e1;have d0:=H1.out.1.c0;have d1:=H1.out.1.c1;have BU:=hid (zh5 x.side W1);cases Ew:mh x.side with
 | false=>
  rw[Ew] at BU;have HZ:=hid (J3.out k av HK.out.2.2.2 1 (Qw (by rw[Hx.out];have:=zlg Ew;omega)) (by decide) W1 H1.out.2.2.2);clear Ew;go_wp2_with (go_at_call 56;refine BU.out.mono ?_;rintro e w4 ⟨rfl,rfl⟩);go_ret2;exact HZ.out
 | true=>
 rw[Ew] at BU;have Wq:=hid (zjd Ew);clear Ew;by_cases h0:x.rules.length=0
 ·have HZ:=hid (J3.out k av HK.out.2.2.2 1 (Qw (by rw[Hx.out];omega)) (by decide) W1 H1.out.2.2.2);have j0:((x.rules.length:Int) == 0)=true:=by simp[h0]
  clear h0;go_wp2_with (go_at_call 56;refine BU.out.mono ?_;rintro e w4 ⟨rfl,rfl⟩);go_ret2;exact HZ.out
 have j0:((x.rules.length:Int) == 0)=false:=by rw[beq_eq_false_iff_ne];omega
 have H0:=hid h0;clear h0;by_cases h6:60<=k
 ·have HZ:=hid (J3.out k av HK.out.2.2.2 1 (Qw (by omega)) (by decide) W1 H1.out.2.2.2);have j6:(60:Int)<=k:=by omega
  clear h6;go_wp2_with (go_at_call 56;refine BU.out.mono ?_;rintro e w4 ⟨rfl,rfl⟩);go_ret2;exact HZ.out
 have j6:¬(60:Int)<=k:=by omega
 have MZ:Hid (pQ G k=lg (wY G k) x.rules.length):=by
  show _=_;rw[zlf (by rw[Hx.out];have:=Wq.out;have:=H0.out;omega),Hx.out]
 clear h6 H0 Wq;go_upto_region 7 with (go_at_call 56;refine BU.out.mono ?_;rintro e w4 ⟨rfl,rfl⟩);obtain⟨m,hm⟩:∃m,x.rules.length=m:=⟨_,rfl⟩
 have HM:=hid hm;rw[hm] at d1 hz MZ
 try rw[hm]
 clear hm BU j0 j6 d0;go_wp2_with fail;clear d1;go_loopw [4,35] (fun v4 v35 wr=>∃(y q:Nat) (a:Option Addr) (d:Nat),y<=m/\v35=.int .i64 (y:Int)/\v4=.slice a q d/\Hid (wr.ownsRow w2.heap.size 3 1 (.slice a q d) q (yx (kI G k y))/\(kI G k y).length=q/\Below w2.heap.size w2 wr/\(∀j,j<y->wY G k j=0))) (fun _ v _=>m-(intOf v).toNat)
 ·exact⟨0,q,a,d,zero_le _,rfl,rfl,H1.out.2.2.1,HK.out.2.1,H1.out.2.2.2,fun j h=>by omega⟩
 have vX:=hid HK.out.2.2.2;have Hk9:Hid (k<n):=av;obtain⟨y,p,a2,d2,hy,rfl,rfl,HY⟩:=hrel;by_cases QE:y<m
 case neg=>
  obtain rfl:y=m:=by omega
  have h0:pQ G k=0:=by rw[MZ.out];exact Dl HY.out.2.2.2
  have HZ:Hid (∀j,j<k+1->pQ G j=0):=fun j hj=>by
   by_cases e:j=k
   ·subst e;exact h0
   exact vX.out j (by omega)
  have HT:Hid (kI G (k+1) 0=kI G k y):=by show _=_;rw[zjb,Hx.out,HM.out]
  clear h0;go_wp2;go_roundw
  ·exact⟨k+1,p,a2,d2,by omega,by go_num,rfl,by rw[HT.out];exact HY.out.1,by rw[HT.out];exact HY.out.2.1,HY.out.2.2.1,HZ.out⟩
  simp[intOf];omega
 have R3:y<x.rules.length:=by rw[HM.out];exact QE
 have KC:y<(ga G k).rules.length:=by rw[Hx.out,HM.out];exact QE
 obtain⟨g2,o2,e2,_,y0⟩:=(kB.out wr (Et.out wr HY.out.2.2.1).2).get y R3;obtain⟨z,NH⟩:∃z,x.rules[y]=z:=⟨_,rfl⟩
 have J7:Hid ((ga G k).rules.getD y 0=z/\(ga G k).rules[y]=z):=by
  have e9:(ga G k).rules=x.rules:=by rw[Hx.out]
  have e8:(ga G k).rules[y]=z:=by simp only[e9];exact NH
  exact⟨by rw[<-e8];simp[KC],e8⟩
 have Vy:Hid (kI G k (y+1)=kI G k y++[z]):=by show _=_;rw[zle KC,J7.out.2]
 have Wx:Hid (z∈kI G k y↔oz G k y):=by have:=zjc KC;rw[J7.out.2] at this;exact this
 rw[NH] at y0;have i2:(y:Int)<m:=by omega
 have HB:=hid (Et.out wr HY.out.2.2.1);have Qu:Hid (∀c,wY G k y=c->c≠0->∀W,Below w2.heap.size w2 W->qP (og (pQ G) G.L.length G.L.length) w (.returned (.tuple #[.int .i64 (k:Int),.int .i64 c])) W):=fun c hc hne W kW=>by
  refine J3.out k Hk9.out vX.out c ?_ hne W kW;rw[MZ.out];obtain⟨f1,_⟩:=JA (n:=m) QE HY.out.2.2.2 (by rw[hc];exact hne);rw[f1,hc]
 have c0:=HB.out.1.c0;have c1:=HB.out.1.c1;have c2:=HB.out.1.c2;have c3:=HB.out.1.c3;have c4:=HB.out.1.c4;have XQ:=hid (AF.out ⟨false,z⟩ wr HB.out.2);have OK:Hid ((ga G k).rules.getD y 0=z):=J7.out.1;rw[e2];clear J7 NH R3 KC e2;obtain⟨hb,sg⟩:∃hb,iT G z=hb:=⟨_,rfl⟩
 have F0:Hid (Calls prog 14 #[.agg #[.slice G.aR G.R.length G.cR,.slice G.aS G.S.length G.cS,.slice G.aP G.P.length G.cP,.slice G.aL G.L.length G.cL,.int .i64 G.st],.agg #[.bool false,.int .i64 z]] wr (mB hb wr)):=by rw[<-sg];exact XQ.out
 clear XQ;go_upto_region 10 with fail;go_wp2_with (go_at_call 14;refine F0.out.mono ?_;rintro e w5 ⟨rfl,b5⟩;refine Hid.out ?_);refine hid ?_;have lO:=hid (HY.out.2.2.1.trans (b5.mono HY.out.2.2.1.size));have zV:=hid (dr HY.out.1 b5);clear c0 c1 c2 c3 c4 y0 b5 F0;cases hb with
 | false=>
  have HZ:=hid (Qu.out 11 (zoA (by rw[OK.out];exact sg)) (by decide) _ lO.out);clear sg;go_wp2;go_ret2;exact HZ.out
 | true=>
 have Lv:p<=2000000000000:=by
  have h1:=Zj US.out k y;rw[HY.out.2.1] at h1;have h2:k*1000000<=1000000*1000000:=Nat.mul_le_mul_right _ (by omega);omega
 have Em:=hid (Zl (kI G k y) p d2 a2 z HY.out.2.1 (by omega) w5 (zor zV.out HY.out.2.1));go_wp2_with (go_at_call 57;refine Em.out.mono ?_;rintro e w6 ⟨bo,cn,rfl,rfl⟩;refine Hid.out ?_);refine hid ?_;clear Em;cases bo with
 | true=>
  have HZ:=hid (Qu.out 9 (zlo (by rw[OK.out];exact sg) (Wx.out.1 (cn.1 rfl))) (by decide) _ lO.out);clear sg cn;go_wp2;go_ret2;exact HZ.out
 | false=>
 have HZ:Hid (∀j,j<y+1->wY G k j=0):=fun j hj=>by
  by_cases e:j=y
  ·subst e;exact zpk (by rw[OK.out];exact sg) (fun h=>by have:=cn.2 (Wx.out.2 h);cases this)
  exact HY.out.2.2.2 j (by omega)
 clear sg cn Qu;have hO:=zV.out;have dp:=lO.out.size;have HT:Hid (yx (kI G k (y+1))=yx (kI G k y)++[.int .i64 z]):=by show _=_;rw[Vy.out,yx,List.map_append];rfl
 go_wp2_with (at_builtin;refine wpList_append_own _ rfl _ _ 43 rfl w2.heap.size 3 iI (.int .i64 0) 1 8 underlying43 hI pT pJ pK rfl (by decide) _ p _ rfl (hO.alloc _) ⟨w6.heap.size,0,none⟩ 1 1 [.int .i64 z] rfl rfl ?c1 ?c2 ?c3 ?c4 ?c5 ?_)
 case c1=>
  intro j u hj
  match j,hj with
  | 0,hj=>simp at hj;subst hj;simp[Addr.add]
 case c2=>first|rfl|(intro u hu;simp at hu;subst hu;rfl)
 case c3=>unfold maxLen;omega
 case c4=>omega
 case c5=>first|omega|(simp;omega)
 intro v' w7 vt wC _;obtain⟨a7,c7,rfl⟩:=bE vt;have xK:=hid ((lO.out.trans ((al w6 (.cells #[.int .i64 z] 3)).mono dp)).grown wC (by simp;omega) (fun g e=>(hO.lt g e).1));have j8:=hid vt;clear vt wC hO dp;go_wp2;go_roundw
 ·exact⟨y+1,p+1,a7,c7,by omega,by go_num,rfl,by rw[HT.out];exact j8.out,by rw[Vy.out,length_append,HY.out.2.1];rfl,xK.out,HZ.out⟩
 simp[intOf];omega
theorem EK{t:Nat}{c0 c1 c2:Value}(h:w.heap[g]?=some (.cells #[c0,c1,c2] t (0,0)))(d0 d1 d2:Value):
  (((w.setCell ⟨g,0,none⟩ d0).setCell ⟨g,1,none⟩ d1).setCell ⟨g,2,none⟩ d2).cell? ⟨g,0,none⟩=some d0/\(((w.setCell ⟨g,0,none⟩ d0).setCell ⟨g,1,none⟩ d1).setCell ⟨g,2,none⟩ d2).cell? ⟨g,1,none⟩=some d1/\(((w.setCell ⟨g,0,none⟩ d0).setCell ⟨g,1,none⟩ d1).setCell ⟨g,2,none⟩ d2).cell? ⟨g,2,none⟩=some d2:=by
 have h1:=heap_setCell_same w g 0 _ _ d0 h;have h2:=heap_setCell_same _ g 1 _ _ d1 h1;have h3:=heap_setCell_same _ g 2 _ _ d2 h2;rw[cell_of_row _ g 0 _ _ _ h3,cell_of_row _ g 1 _ _ _ h3,cell_of_row _ g 2 _ _ _ h3];exact⟨rfl,rfl,rfl⟩
def yE(w:World)(b:Nat)(G:Gr)(wr:World):Prop:=fo wr b G/\wr.heap[b+1]?=some (.cells #[.int .i64 0,.int .i64 0,.int .i64 0] 32 (0,0))/\Below w.heap.size w wr/\b+1<wr.heap.size/\w.heap.size<=b
theorem yE.aa{b:Nat}(h:yE w b G wr)(k:Below wr.heap.size wr w'):yE w b G w':=⟨h.1.below k,(k.block _ h.2.2.2.1).trans h.2.1,h.2.2.1.trans (k.mono h.2.2.1.size),lt_of_lt_of_le h.2.2.2.1 k.size,h.2.2.2.2⟩
theorem yE.put{b:Nat}(h:yE w b G wr)(d0 d1 d2:Value):Below w.heap.size w (((wr.setCell ⟨b+1,0,none⟩ d0).setCell ⟨b+1,1,none⟩ d1).setCell ⟨b+1,2,none⟩ d2):=by
 have:=h.2.2.2.2;exact ((h.2.2.1.setCell (p:=⟨b+1,0,none⟩) (by show w.heap.size<=b+1;omega) d0).setCell (p:=⟨b+1,1,none⟩) (by show w.heap.size<=b+1;omega) d1).setCell (p:=⟨b+1,2,none⟩) (by show w.heap.size<=b+1;omega) d2
theorem yE.cells{b:Nat}(h:yE w b G wr):(wr.cell? ⟨b+1,0,none⟩=some (.int .i64 0)/\wr.cell? ⟨b+1,1,none⟩=some (.int .i64 0)/\wr.cell? ⟨b+1,2,none⟩=some (.int .i64 0))/\wr.frozen? ⟨b+1,0,none⟩=false/\wr.frozen? ⟨b+1,1,none⟩=false/\wr.frozen? ⟨b+1,2,none⟩=false:=by
 have h2:=h.2.1;exact⟨⟨by rw[cell_of_row wr _ 0 _ _ _ h2];rfl,by rw[cell_of_row wr _ 1 _ _ _ h2];rfl,by rw[cell_of_row wr _ 2 _ _ _ h2];rfl⟩,frozen_of_row wr _ 0 _ _ h2,frozen_of_row wr _ 1 _ _ h2,frozen_of_row wr _ 2 _ _ h2⟩
theorem zpa(h:og (je G) G.S.length 300 a e):(e≠0->gm G=(e,2,a))/\(e=0->¬300<G.S.length/\lg (je G) G.S.length=0):=by
 rcases h with ⟨h1,rfl,rfl⟩|⟨h1,h2,h3⟩
 ·exact⟨fun _=>by unfold gm;rw[if_pos h1],fun h=>by cases h⟩
 refine⟨fun hne=>?_,fun h0=>⟨by omega,by rw[h2,h0]⟩⟩;unfold gm;rw[if_neg (by omega),if_pos (by rw[h2];exact hne),h2,h3 hne]
theorem zpb(h1:¬300<G.S.length/\lg (je G) G.S.length=0)(h:og (iO G) G.P.length 200 a e):(e≠0->gm G=(e,3,a))/\(e=0->¬200<G.P.length/\lg (iO G) G.P.length=0):=by
 rcases h with ⟨h2,rfl,rfl⟩|⟨h2,h3,h4⟩
 ·exact⟨fun _=>by unfold gm;rw[if_neg h1.1,if_neg (by simp[h1.2]),if_pos h2],fun h=>by cases h⟩
 refine⟨fun hne=>?_,fun h0=>⟨by omega,by rw[h3,h0]⟩⟩;unfold gm;rw[if_neg h1.1,if_neg (by simp[h1.2]),if_neg (by omega),if_pos (by rw[h3];exact hne),h3,h4 hne]
theorem YB(h1:¬300<G.S.length/\lg (je G) G.S.length=0)(h2:¬200<G.P.length/\lg (iO G) G.P.length=0)(h:og (pQ G) G.L.length G.L.length a e):(e≠0->gm G=(e,4,a))/\(e=0->gm G=if G.st<0\/(G.S.length:Int)<=G.st then (11,5,0) else (0,0,0)):=by
 rcases h with ⟨h3,_,_⟩|⟨_,h3,h4⟩
 ·omega
 refine⟨fun hne=>?_,fun h0=>?_⟩
 ·unfold gm;rw[if_neg h1.1,if_neg (by simp[h1.2]),if_neg h2.1,if_neg (by simp[h2.2]),if_pos (by rw[h3];exact hne),h3,h4 hne]
 unfold gm;rw[if_neg h1.1,if_neg (by simp[h1.2]),if_neg h2.1,if_neg (by simp[h2.2]),if_neg (by rw[h3,h0];simp)]
theorem zgf(Q:Int->Int->Prop)(G:Gr)(w:World)(hA:G.At w)(hL:G.lb 1000000)
  (hR:∀W,Below w.heap.size w W->Calls prog 26 #[.slice G.aR G.R.length G.cR] W (zpl Q W)):
  Calls prog 9 #[G.val] w (Cm Q G w):=by
 show Calls prog 9 #[.agg #[.slice G.aR G.R.length G.cR,.slice G.aS G.S.length G.cS,.slice G.aP G.P.length G.cP,.slice G.aL G.L.length G.cL,.int .i64 G.st]] w _;have HR:=hid hR;have dA:Hid (∀W,Below w.heap.size w W->Calls prog 27 #[.agg #[.slice G.aR G.R.length G.cR,.slice G.aS G.S.length G.cS,.slice G.aP G.P.length G.cP,.slice G.aL G.L.length G.cL,.int .i64 G.st]] W (qP (og (je G) G.S.length 300) W)):=fun W k=>zdR G W (hA.below k) hL
 have Fv:Hid (∀W,Below w.heap.size w W->Calls prog 28 #[.agg #[.slice G.aR G.R.length G.cR,.slice G.aS G.S.length G.cS,.slice G.aP G.P.length G.cP,.slice G.aL G.L.length G.cL,.int .i64 G.st]] W (qP (og (iO G) G.P.length 200) W)):=fun W k=>zdS G W (hA.below k) hL
 have Vs:Hid (∀W,Below w.heap.size w W->Calls prog 29 #[.agg #[.slice G.aR G.R.length G.cR,.slice G.aS G.S.length G.cS,.slice G.aP G.P.length G.cP,.slice G.aL G.L.length G.cL,.int .i64 G.st]] W (qP (og (pQ G) G.L.length G.L.length) W)):=fun W k=>Yq G W (hA.below k) hL
 have AF:Hid (∀W,Below w.heap.size w W->Calls prog 14 #[.agg #[.slice G.aR G.R.length G.cR,.slice G.aS G.S.length G.cS,.slice G.aP G.P.length G.cP,.slice G.aL G.L.length G.cL,.int .i64 G.st],.agg #[.bool true,.int .i64 G.st]] W (mB (fQ G ⟨true,G.st⟩) W)):=fun W k=>JM G ⟨true,G.st⟩ W (hA.below k) (hL.mono (by omega))
 clear hA hL hR;obtain⟨w2,bK⟩:∃w2,((w.alloc (.cells #[.slice G.aR G.R.length G.cR,.slice G.aS G.S.length G.cS,.slice G.aP G.P.length G.cP,.slice G.aL G.L.length G.cL,.int .i64 G.st] 27)).alloc (.cells #[.int .i64 0,.int .i64 0,.int .i64 0] 32))=w2:=⟨_,rfl⟩
 have H:Hid (fo w2 w.heap.size G/\w2.heap[(w.heap.size+1)]?=some (.cells #[.int .i64 0,.int .i64 0,.int .i64 0] 32 (0,0))/\Below w.heap.size w w2):=by
  rw[<-bK];have k0:=al w (.cells #[.slice G.aR G.R.length G.cR,.slice G.aS G.S.length G.cS,.slice G.aP G.P.length G.cP,.slice G.aL G.L.length G.cL,.int .i64 G.st] 27);have k1:=al (w.alloc (.cells #[.slice G.aR G.R.length G.cR,.slice G.aS G.S.length G.cS,.slice G.aP G.P.length G.cP,.slice G.aL G.L.length G.cL,.int .i64 G.st] 27)) (.cells #[.int .i64 0,.int .i64 0,.int .i64 0] 32);exact⟨((fo.new w G 27).below k1),(by have h9:=(heap_alloc_new (w.alloc (.cells #[.slice G.aR G.R.length G.cR,.slice G.aS G.S.length G.cS,.slice G.aP G.P.length G.cP,.slice G.aL G.L.length G.cL,.int .i64 G.st] 27)) (.cells #[.int .i64 0,.int .i64 0,.int .i64 0] 32));simpa using h9),(k0.trans (k1.mono k0.size))⟩
 have jC:Hid (w2.heap.size=w.heap.size+2):=by show _=_;rw[<-bK];simp
 go_enter func9,ntmps9;go_upto_region 1 with fail
 try rw[bK]
 clear bK;obtain⟨b,hb⟩:∃b,w.heap.size=b:=⟨_,rfl⟩
 have HX:Hid (yE w b G w2):=by
  have h8:=jC.out;rw[<-hb];exact⟨H.out.1,H.out.2.1,H.out.2.2,by omega,le_refl _⟩
 rw[hb];clear hb H jC;have c0:=HX.out.1.c0;have yf:=hid (HR.out w2 HX.out.2.2.1);go_wp2_with (go_at_call 26;refine yf.out.mono ?_;rintro e w3 ⟨ai,er,rfl,hq,b3⟩;refine Hid.out ?_);refine hid ?_;have eh:=hid (HX.out.aa b3);have HQ:=hid hq;clear c0 yf HX HR b3 hq;by_cases h0:er=0
 case neg=>
  have j0:(er != 0)=true:=by simpa using h0
  have HC:Hid (mG G ai er=(er,1,ai)):=if_pos h0;clear h0;obtain⟨⟨t0,t1,t2⟩,f0,f1,f2⟩:=eh.out.cells;obtain⟨q0,q1,q2⟩:=EK eh.out.2.1 (.int .i64 er) (.int .i64 1) (.int .i64 ai);have HZ:Hid (∀W,Below w.heap.size w W->Cm Q G w (.returned (.agg #[.int .i64 er,.int .i64 1,.int .i64 ai])) W):=fun W k=>⟨_,_,HQ.out,by rw[HC.out],k⟩
  go_wp2_with fail;exact bodyPost_ret (v:=.agg #[.int .i64 er,.int .i64 1,.int .i64 ai]) (by simp[results,results9,go_sem,q0,q1,q2]) rfl (HZ.out _ (eh.out.put _ _ _))
 subst h0;have HC:Hid (mG G ai 0=gm G):=if_neg (by simp);have c0:=eh.out.1.c0;have c1:=eh.out.1.c1;have c2:=eh.out.1.c2;have c3:=eh.out.1.c3;have c4:=eh.out.1.c4;have Gt:=hid (dA.out w3 eh.out.2.2.1);go_wp2_with (go_at_call 27;refine Gt.out.mono ?_;rintro e w4 ⟨LC,EI,rfl,Si,b4⟩;refine Hid.out ?_);refine hid ?_;have lG:=hid (eh.out.aa b4);have Pb:=hid (zpa Si);clear c0 c1 c2 c3 c4 Gt dA b4 Si eh;by_cases h0:EI=0
 case neg=>
  have j0:(EI != 0)=true:=by simpa using h0
  have zF:Hid (mG G ai 0=(EI,2,LC)):=by show _=_;rw[HC.out,Pb.out.1 h0]
  clear h0;obtain⟨⟨t0,t1,t2⟩,f0,f1,f2⟩:=lG.out.cells;obtain⟨q0,q1,q2⟩:=EK lG.out.2.1 (.int .i64 EI) (.int .i64 2) (.int .i64 LC);have HZ:Hid (∀W,Below w.heap.size w W->Cm Q G w (.returned (.agg #[.int .i64 EI,.int .i64 2,.int .i64 LC])) W):=fun W k=>⟨_,_,HQ.out,by rw[zF.out],k⟩
  go_wp2_with fail;exact bodyPost_ret (v:=.agg #[.int .i64 EI,.int .i64 2,.int .i64 LC]) (by simp[results,results9,go_sem,q0,q1,q2]) rfl (HZ.out _ (lG.out.put _ _ _))
 have uK:=hid (Pb.out.2 h0);subst h0;clear Pb;have c0:=lG.out.1.c0;have c1:=lG.out.1.c1;have c2:=lG.out.1.c2;have c3:=lG.out.1.c3;have c4:=lG.out.1.c4;have TH:=hid (Fv.out w4 lG.out.2.2.1);go_wp2_with (go_at_call 28;refine TH.out.mono ?_;rintro e w5 ⟨Ju,D7,rfl,VJ,b5⟩;refine Hid.out ?_);refine hid ?_;have oK:=hid (lG.out.aa b5);have NX:=hid (zpb uK.out VJ);clear c0 c1 c2 c3 c4 TH Fv b5 VJ lG;by_cases h0:D7=0
 case neg=>
  have j0:(D7 != 0)=true:=by simpa using h0
  have zF:Hid (mG G ai 0=(D7,3,Ju)):=by show _=_;rw[HC.out,NX.out.1 h0]
  clear h0;obtain⟨⟨t0,t1,t2⟩,f0,f1,f2⟩:=oK.out.cells;obtain⟨q0,q1,q2⟩:=EK oK.out.2.1 (.int .i64 D7) (.int .i64 3) (.int .i64 Ju);have HZ:Hid (∀W,Below w.heap.size w W->Cm Q G w (.returned (.agg #[.int .i64 D7,.int .i64 3,.int .i64 Ju])) W):=fun W k=>⟨_,_,HQ.out,by rw[zF.out],k⟩
  go_wp2_with fail;exact bodyPost_ret (v:=.agg #[.int .i64 D7,.int .i64 3,.int .i64 Ju]) (by simp[results,results9,go_sem,q0,q1,q2]) rfl (HZ.out _ (oK.out.put _ _ _))
 have HK4:=hid (NX.out.2 h0);subst h0;clear NX;have c0:=oK.out.1.c0;have c1:=oK.out.1.c1;have c2:=oK.out.1.c2;have c3:=oK.out.1.c3;have c4:=oK.out.1.c4;have Rh:=hid (Vs.out w5 oK.out.2.2.1);go_wp2_with (go_at_call 29;refine Rh.out.mono ?_;rintro e w6 ⟨LH,DX,rfl,Kz,b6⟩;refine Hid.out ?_);refine hid ?_;have xA:=hid (oK.out.aa b6);have QU:=hid (YB uK.out HK4.out Kz);clear c0 c1 c2 c3 c4 Rh Vs b6 Kz oK;by_cases h0:DX=0
 case neg=>
  have j0:(DX != 0)=true:=by simpa using h0
  have zF:Hid (mG G ai 0=(DX,4,LH)):=by show _=_;rw[HC.out,QU.out.1 h0]
  clear h0;obtain⟨⟨t0,t1,t2⟩,f0,f1,f2⟩:=xA.out.cells;obtain⟨q0,q1,q2⟩:=EK xA.out.2.1 (.int .i64 DX) (.int .i64 4) (.int .i64 LH);have HZ:Hid (∀W,Below w.heap.size w W->Cm Q G w (.returned (.agg #[.int .i64 DX,.int .i64 4,.int .i64 LH])) W):=fun W k=>⟨_,_,HQ.out,by rw[zF.out],k⟩
  go_wp2_with fail;exact bodyPost_ret (v:=.agg #[.int .i64 DX,.int .i64 4,.int .i64 LH]) (by simp[results,results9,go_sem,q0,q1,q2]) rfl (HZ.out _ (xA.out.put _ _ _))
 have Cy:=hid (QU.out.2 h0);subst h0;clear QU;have c0:=xA.out.1.c0;have c1:=xA.out.1.c1;have c2:=xA.out.1.c2;have c3:=xA.out.1.c3;have c4:=xA.out.1.c4;go_upto_region 13 with fail;have kd:Below w6.heap.size w6 w6.drew:=⟨rfl,rfl,rfl,le_refl _,fun _ _=>rfl⟩
 have NY:=hid (xA.out.aa kd);clear kd xA c0 c1 c2 c3 c4;generalize vq:w6.drew=w7 at NY;refine wp_region_held_drew (S:=fun W'=>yE w b G W') (by kernel_rfl) (by rw[vq];exact NY.out) (fun hHeld=>?_);rw[vq] at hHeld⊢;clear vq NY;obtain⟨bo,cn⟩:∃bo,fQ G ⟨true,G.st⟩=bo:=⟨_,rfl⟩
 have jT:Hid (bo=true↔¬(G.st<0\/(G.S.length:Int)<=G.st)):=by
  show _↔_;rw[<-cn,show fQ G ⟨true,G.st⟩=wh G G.st from rfl,QQ];simp only[Bool.and_eq_true,decide_eq_true_eq];omega
 rw[cn] at AF;clear cn;refine ak 0 (v:=.agg #[.slice G.aR G.R.length G.cR,.slice G.aS G.S.length G.cS,.slice G.aP G.P.length G.cP,.slice G.aL G.L.length G.cL,.int .i64 G.st]) ?_ (hy:=by intro wz hSw;have y0:=hSw.1.c0;have y1:=hSw.1.c1;have y2:=hSw.1.c2;have y3:=hSw.1.c3;have y4:=hSw.1.c4;(try simp only[Act.put,sA,sB,sC]);go_simp;first|done|with_reducible rfl)
 try simp only[Act.put,sA,sB,sC]
 refine ak 1 ?_ (hy:=by intro wz hSw;have y0:=hSw.1.c0;have y1:=hSw.1.c1;have y2:=hSw.1.c2;have y3:=hSw.1.c3;have y4:=hSw.1.c4;(try simp only[Act.put,sA,sB,sC]);go_simp;first|done|with_reducible rfl)
 try simp only[Act.put,sA,sB,sC]
 refine ak 2 ?_ (hy:=by intro wz hSw;have y0:=hSw.1.c0;have y1:=hSw.1.c1;have y2:=hSw.1.c2;have y3:=hSw.1.c3;have y4:=hSw.1.c4;(try simp only[Act.put,sA,sB,sC]);go_simp;first|done|with_reducible rfl)
 try simp only[Act.put,sA,sB,sC]
 refine bc 3 (fun K hK=>?_);go_simp;go_at_call 30;refine (xT _ _).mono ?_;rintro e w8 ⟨rfl,b8⟩;have aZ:=hHeld.aa b8;clear b8 hHeld
 try go_wp2_with fail
 refine hK.out _ _ aZ (fun hHeld=>?_);clear hK K aZ
 try simp only[Act.put,sA,sB,sC]
 refine bc 4 (fun K hK=>?_);go_simp;go_at_call 14;refine (AF.out _ hHeld.2.2.1).mono ?_;rintro e w8 ⟨rfl,b8⟩;have aZ:=hHeld.aa b8;clear b8 hHeld
 try go_wp2_with fail
 refine hK.out _ _ aZ (fun hHeld=>?_);clear hK K aZ
 try simp only[Act.put,sA,sB,sC]
 refine ak 5 ?_ (hy:=by intro wz hSw;have y0:=hSw.1.c0;have y1:=hSw.1.c1;have y2:=hSw.1.c2;have y3:=hSw.1.c3;have y4:=hSw.1.c4;(try simp only[Act.put,sA,sB,sC]);go_simp;first|done|with_reducible rfl)
 try simp only[Act.put,sA,sB,sC]
 refine wpAnyH_done (by kernel_rfl) ?_ _;have DN:=hid hHeld;clear hHeld AF;cases bo with
 | false=>
  have zF:Hid (mG G ai 0=(11,5,0)):=by
   show _=_;rw[HC.out,Cy.out,if_pos (Classical.byContradiction fun h=>by have:=jT.out.2 h;cases this)]
  obtain⟨⟨t0,t1,t2⟩,f0,f1,f2⟩:=DN.out.cells;obtain⟨q0,q1,q2⟩:=EK DN.out.2.1 (.int .i64 11) (.int .i64 5) (.int .i64 0);have HZ:Hid (∀W,Below w.heap.size w W->Cm Q G w (.returned (.agg #[.int .i64 11,.int .i64 5,.int .i64 0])) W):=fun W k=>⟨_,_,HQ.out,by rw[zF.out],k⟩
  go_wp2_with fail;exact bodyPost_ret (v:=.agg #[.int .i64 11,.int .i64 5,.int .i64 0]) (by simp[results,results9,go_sem,q0,q1,q2]) rfl (HZ.out _ (DN.out.put _ _ _))
 | true=>
  have zF:Hid (mG G ai 0=(0,0,0)):=by
   show _=_;rw[HC.out,Cy.out,if_neg (jT.out.1 rfl)]
  obtain⟨⟨t0,t1,t2⟩,f0,f1,f2⟩:=DN.out.cells;obtain⟨q0,q1,q2⟩:=EK DN.out.2.1 (.int .i64 0) (.int .i64 0) (.int .i64 0);have HZ:Hid (∀W,Below w.heap.size w W->Cm Q G w (.returned (.agg #[.int .i64 0,.int .i64 0,.int .i64 0])) W):=fun W k=>⟨_,_,HQ.out,by rw[zF.out],k⟩
  go_wp2_with fail;exact bodyPost_ret (v:=.agg #[.int .i64 0,.int .i64 0,.int .i64 0]) (by simp[results,results9,go_sem,q0,q1,q2]) rfl (HZ.out _ (DN.out.put _ _ _))
def fB(b:Nat):Gr:=⟨some ⟨b,0,none⟩,1,[⟨⟨#[80,76,85,83]⟩,0,⟨#[92,43]⟩⟩],some ⟨b+1,0,none⟩,1,[⟨#[69]⟩],some ⟨b+4,0,none⟩,1,[⟨0,⟨#[65,100,100]⟩,some ⟨b+2,0,none⟩,3,[⟨true,0⟩,⟨false,0⟩,⟨true,0⟩],false,-1,some ⟨b+3,0,none⟩,2,[0,0]⟩],none,0,[],0⟩
theorem Wh(b:Nat):lj (fB b):=by
 refine⟨show 1<=20 by decide,fun i hi _=>?_,show 1<=20 by decide,show 1<=40 by decide,show 0<=20 by decide,fun i hi=>?_,fun i hi=>?_,fun i hi=>?_⟩
 ·obtain rfl:i=0:=by have:i<1:=hi;omega
  exact⟨show 2<=40 by decide,show 4<=100 by decide⟩
 ·obtain rfl:i=0:=by have:i<1:=hi;omega
  exact show 1<=100 by decide
 ·obtain rfl:i=0:=by have:i<1:=hi;omega
  exact⟨show 3<=100 by decide,show 3<=20 by decide,show 2<=20 by decide⟩
 have:i<0:=hi;omega
theorem zi9(b:Nat):qR (fB b) 0=⟨#[69,46,65,100,100,32,61,32,69,32,80,76,85,83,32,69]⟩:=by rfl
theorem YR(b:Nat):je (fB b) 0=0:=XA (show bU ⟨#[69]⟩=true by decide +kernel) (fun k hk=>by omega) (fun k hk=>by
 obtain rfl:k=0:=by have:k<1:=hk;omega
 show (⟨#[80,76,85,83]⟩:ByteArray)≠⟨#[69]⟩
 intro h
 have:(⟨#[80,76,85,83]⟩:ByteArray).data=(⟨#[69]⟩:ByteArray).data:=by rw[h]
 revert this
 decide)
theorem znk(b:Nat):iO (fB b) 0=0:=by
 have h:=VH (G:=fB b) (i:=0) (x:=⟨0,⟨#[65,100,100]⟩,some ⟨b+2,0,none⟩,3,[⟨true,0⟩,⟨false,0⟩,⟨true,0⟩],false,-1,some ⟨b+3,0,none⟩,2,[0,0]⟩) rfl (show ¬((0:Int)<0\/((1:Nat):Int)<=0) by decide) (show bU ⟨#[65,100,100]⟩=true by decide +kernel) (show ¬12<3 by decide) rfl;rw[h,if_neg (fun ⟨k,hk,_⟩=>by omega),if_neg,if_neg,if_neg (fun h=>h.1 rfl),if_neg (fun h=>by cases h.1)]
 ·rintro⟨z,hz,h⟩;have:z=0:=by
   have h1:z∈[(0:Int),0]:=hz;simpa using h1
  omega
 rintro⟨y,hy,h⟩;have h1:y∈[(⟨true,0⟩:Sy),⟨false,0⟩,⟨true,0⟩]:=hy;have h2:y=⟨true,0⟩\/y=⟨false,0⟩:=by
  simp at h1;rcases h1 with h1|h1
  ·exact inl h1
  exact h1.symm
 rcases h2 with rfl|rfl
 ·have:fQ (fB b) ⟨true,0⟩=true:=by rfl
  rw[this] at h;cases h
 have:fQ (fB b) ⟨false,0⟩=true:=by rfl
 rw[this] at h;cases h
theorem zk4(b:Nat):gm (fB b)=(0,0,0):=by
 have h1:lg (je (fB b)) (fB b).S.length=0:=Dl (fun j hj=>by
  obtain rfl:j=0:=by have:j<1:=hj;omega
  exact YR b)
 have h2:lg (iO (fB b)) (fB b).P.length=0:=Dl (fun j hj=>by
  obtain rfl:j=0:=by have:j<1:=hj;omega
  exact znk b)
 have h3:lg (pQ (fB b)) (fB b).L.length=0:=rfl;unfold gm;rw[if_neg (show ¬300<(fB b).S.length from (show ¬300<1 by decide)),if_neg (by rw[h1];simp),if_neg (show ¬200<(fB b).P.length from (show ¬200<1 by decide)),if_neg (by rw[h2];simp),if_neg (by rw[h3];simp),if_neg (show ¬((fB b).st<0\/((fB b).S.length:Int)<=(fB b).st) from (show ¬((0:Int)<0\/((1:Nat):Int)<=0) by decide))]
theorem IQ(a b:ByteArray):ae (a++b)=ae a++ae b:=by simp[ae,ByteArray.data_append]
theorem wv(a:ByteArray):(ae a).length=a.size:=by simp[ae]
def WrP(g:Nat)(l:List Nat)(t:ByteArray)(w:World)(e:Ending)(w':World):Prop:=e=.returned (.tuple #[.int .i64 ((t.size:Nat):Int),.nilIface])/\kX g g (l++ae t) w'/\Below g w w'/\Lib.OthersKept 5 (some g) w w'
theorem DI(g:Nat)(l:List Nat)(t:ByteArray)(w:World)(h:kX g g l w)(hs:l.length+t.size<=1000000)(hg:g<=w.heap.size):
  Calls prog 46 #[.pointer (some ⟨g,0,none⟩),.string t] w (WrP g l t w):=by
 have h1:=zhN g g l (ae t) w h (Gm t) (by rw[wv];omega) hg;rw[XB,wv] at h1;exact h1
def LnA(w:World)(b b5 g:Nat)(G:Gr)(p:gK)(W0:World):Prop:=∀W',Below g W0 W'->fo W' b G/\lF W' b5 p/\G.At W'/\p.At W'/\Below w.heap.size w W'/\g<=W'.heap.size
theorem zhZ(G:Gr)(i:Int)(w:World)(hA:G.At w)(hF:lj G):
  Calls prog 19 #[G.val,.int .i64 i] w (zn (qR G i) w):=by
 show Calls prog 19 #[.agg #[.slice G.aR G.R.length G.cR,.slice G.aS G.S.length G.cS,.slice G.aP G.P.length G.cP,.slice G.aL G.L.length G.cL,.int .i64 G.st],.int .i64 i] w _;have HA:=hid (Zz hA hF);have xd:G.P.length<=1000000:=by have:=(hF.lim (m:=1000000) (by omega)).p;omega
 clear hA hF;obtain⟨w2,bK⟩:∃w2,(w.alloc (.cells #[.slice G.aR G.R.length G.cR,.slice G.aS G.S.length G.cS,.slice G.aP G.P.length G.cP,.slice G.aL G.L.length G.cL,.int .i64 G.st] 27))=w2:=⟨_,rfl⟩
 have H:Hid (fo w2 w.heap.size G/\Below w.heap.size w w2):=by
  rw[<-bK];have k0:=al w (.cells #[.slice G.aR G.R.length G.cR,.slice G.aS G.S.length G.cS,.slice G.aP G.P.length G.cP,.slice G.aL G.L.length G.cL,.int .i64 G.st] 27);exact⟨(fo.new w G 27),k0⟩
 have jC:Hid (w2.heap.size=w.heap.size+1):=by show _=_;rw[<-bK];simp
 go_enter func19,ntmps19;go_upto_region 1 with fail
 try rw[bK]
 clear bK;obtain⟨b,hb⟩:∃b,w.heap.size=b:=⟨_,rfl⟩
 have HX:Hid (fo w2 b G/\Below w.heap.size w w2):=by rw[<-hb];exact H.out
 rw[hb];clear hb H jC;have c2:=HX.out.1.c2;by_cases h0:0<=i/\i<(G.P.length:Int)
 case neg=>
  have HI:=hid (Ou h0 w2);have HZ:=hid (Y8 h0);clear h0;go_wp2_with (go_at_call 43;refine HI.out.mono ?_;rintro e w3 ⟨rfl,rfl⟩);go_ret;exact⟨by rw[HZ.out];rfl,HX.out.2⟩
 obtain⟨k,rfl⟩:=Int.eq_ofNat_of_zero_le h0.1;have HI:=hid (ND h0 w2);have hk:k<G.P.length:=by omega
 have HZ:=hid (zln hk);have Fx:=hid (HA.out.2.ps k hk);obtain⟨g1,o1,e1,_,X,x0,x1,x2,x3,x4,x5⟩:=(HA.out.1.below HX.out.2).p.get k hk;rw[EV hk] at HZ;rw[e1] at c2;have Qp:=hid X;have i9:(k:Int)<(G.P.length:Int):=h0.2;clear X h0;generalize G.P[k]=p at x0 x1 x2 x3 x4 x5 HZ Qp Fx;have OG:=lF.new w2 p 47;have kb:=al w2 (.cells #[.int .i64 p.bF,.string p.bG,.slice p.ab p.body.length p.cb,.bool p.par,.int .i64 p.prec,.slice p.ah p.hints.length p.ch] 47);obtain⟨b5,uz⟩:∃b5,w2.heap.size=b5:=⟨_,rfl⟩
 obtain⟨W0,sa⟩:∃W0,w2.alloc (.cells #[.int .i64 p.bF,.string p.bG,.slice p.ab p.body.length p.cb,.bool p.par,.int .i64 p.prec,.slice p.ah p.hints.length p.ch] 47)=W0:=⟨_,rfl⟩
 have ny:Hid (∀g,W0.heap.size=g->LnA w b b5 g G p W0):=fun g hg W' k=>by
  rw[sa] at OG kb;subst hg;rw[<-uz] at *;have k2:=(HX.out.2).trans ((kb.trans (k.mono kb.size)).mono HX.out.2.size);exact⟨(HX.out.1.below kb).below k,OG.below k,HA.out.1.below k2,(Qp.out.below kb).below k,k2,k.size⟩
 have qm:=hid (Zz (kX.new W0) (al W0 (.cells #[.pointer none,.slice none 0 0] 78)));clear OG kb hk;go_upto_region 5 with (first
  | (go_at_call 43;refine HI.out.mono ?_;rintro e w3 ⟨rfl,rfl⟩))
 obtain⟨g,hg⟩:∃g,W0.heap.size=g:=⟨_,rfl⟩
 have kU:=hid (ny.out g hg);rw[hg] at qm
 try rw[sa]
 try rw[uz]
 rw[hg];clear i9 ny sa uz hg HI e1 x0 x1 x2 x3 x4 x5 c2 Qp HX;generalize W0.alloc (.cells #[.pointer none,.slice none 0 0] 78)=W1 at qm⊢;have km:Hid (∀(y:Sy) W,Below g W0 W->Calls prog 45 #[.agg #[.slice G.aR G.R.length G.cR,.slice G.aS G.S.length G.cS,.slice G.aP G.P.length G.cP,.slice G.aL G.L.length G.cL,.int .i64 G.st],.agg #[.bool y.s,.int .i64 y.n]] W (zn (kG G y) W)):=fun y W k=>zh6 G y W (kU.out W k).2.2.1 (HA.out.2.lim (by omega))
 have Al:=hid (fun y=>Ov HA.out.2 y);have kd:Below W1.heap.size W1 W1.drew:=⟨rfl,rfl,rfl,le_refl _,fun _ _=>rfl⟩
 have nj:Hid (kX g g [] W1.drew/\Below g W0 W1.drew):=⟨qm.out.1.aa kd,qm.out.2.trans (kd.mono (kU.out _ qm.out.2).2.2.2.2.2)⟩
 clear kd;generalize vq:W1.drew=W2 at nj;refine wp_region_held_drew (S:=fun W'=>Below g W0 W') (by kernel_rfl) (by rw[vq];exact nj.out.2) (fun hHeld=>?_);rw[vq] at hHeld⊢;clear vq qm;refine ak 0 (v:=.agg #[.slice G.aR G.R.length G.cR,.slice G.aS G.S.length G.cS,.slice G.aP G.P.length G.cP,.slice G.aL G.L.length G.cL,.int .i64 G.st]) ?_ (hy:=by intro wz hSw;obtain⟨mF,hq2,_⟩:=kU.out wz hSw;have y0:=mF.c0;have y1:=mF.c1;have y2:=mF.c2;have y3:=mF.c3;have y4:=mF.c4;have z0:=hq2.c0;(try simp only[Act.put,sA,sB,sC]);go_simp;first|done|with_reducible rfl)
 try simp only[Act.put,sA,sB,sC]
 refine ak 1 ?_ (hy:=by intro wz hSw;obtain⟨mF,hq2,_⟩:=kU.out wz hSw;have y0:=mF.c0;have y1:=mF.c1;have y2:=mF.c2;have y3:=mF.c3;have y4:=mF.c4;have z0:=hq2.c0;(try simp only[Act.put,sA,sB,sC]);go_simp;first|done|with_reducible rfl)
 try simp only[Act.put,sA,sB,sC]
 refine ak 2 ?_ (hy:=by intro wz hSw;obtain⟨mF,hq2,_⟩:=kU.out wz hSw;have y0:=mF.c0;have y1:=mF.c1;have y2:=mF.c2;have y3:=mF.c3;have y4:=mF.c4;have z0:=hq2.c0;(try simp only[Act.put,sA,sB,sC]);go_simp;first|done|with_reducible rfl)
 try simp only[Act.put,sA,sB,sC]
 refine bc 3 (fun K hK=>?_);go_simp;go_at_call 30;refine (xT _ _).mono ?_;rintro e w8 ⟨rfl,b8⟩;have O8:Hid (kX g g [] w8/\Below g W0 w8):=⟨nj.out.1.aa b8,hHeld.trans (b8.mono (kU.out _ hHeld).2.2.2.2.2)⟩
 clear b8 hHeld nj
 try go_wp2_with fail
 refine hK.out _ _ O8.out.2 (fun hHeld=>?_);clear hK K;refine bc 4 (fun K hK=>?_);go_simp;go_at_call 45;refine (km.out ⟨true,p.bF⟩ _ hHeld).mono ?_;rintro e w9 ⟨rfl,b8⟩;have kE:Hid (kX g g [] w9/\Below g W0 w9):=⟨O8.out.1.aa b8,hHeld.trans (b8.mono (kU.out _ hHeld).2.2.2.2.2)⟩
 clear b8 hHeld O8
 try go_wp2_with fail
 refine hK.out _ _ kE.out.2 (fun hHeld=>?_);clear hK K;refine bc 5 (fun K hK=>?_);go_simp;go_at_call 46;refine (DI g [] (kG G ⟨true,p.bF⟩) _ kE.out.1 (by have:=Al.out ⟨true,p.bF⟩;simp only[List.length_nil];omega) (kU.out _ hHeld).2.2.2.2.2).mono ?_;rintro e nJ ⟨rfl,eB,b8,_⟩;have mU:Hid (kX g g (ae (kG G ⟨true,p.bF⟩)) nJ/\Below g W0 nJ):=⟨eB,hHeld.trans b8⟩
 clear b8 eB hHeld kE
 try go_wp2_with fail
 refine hK.out _ _ mU.out.2 (fun hHeld=>?_);clear hK K;refine wpAnyH_done (by kernel_rfl) ?_ _;have PH:=hid (Al.out ⟨true,p.bF⟩);have Aw:=hid (DI g (ae (kG G ⟨true,p.bF⟩)) ⟨#[46]⟩ nJ mU.out.1 (by have:=PH.out;rw[wv];show _+1<=_;omega) (kU.out _ mU.out.2).2.2.2.2.2);go_upto_region 7 with (go_at_call 46;refine Aw.out.mono ?_;rintro e w11 ⟨rfl,eB,b8,_⟩);have lO:=hid (Zz eB (mU.out.2.trans b8));have z1:=(kU.out _ lO.out.2).2.1.c1;have j8:=hid (DI g _ p.bG w11 lO.out.1 (by have:=PH.out;have:=Fx.out.1;rw[length_append,wv,wv];show _+1+_<=_;omega) (kU.out _ lO.out.2).2.2.2.2.2);clear eB b8 Aw mU hHeld;go_upto_region 8 with (go_at_call 46;refine j8.out.mono ?_;rintro e w12 ⟨rfl,eB,b8,_⟩);have Ba:=hid (Zz eB (lO.out.2.trans b8));have ud:=hid (DI g _ ⟨#[32,61]⟩ w12 Ba.out.1 (by have:=PH.out;have:=Fx.out.1;rw[length_append,length_append,wv,wv,wv];show _+1+_+2<=_;omega) (kU.out _ Ba.out.2).2.2.2.2.2);clear eB b8 j8 lO z1;go_upto_region 9 with (go_at_call 46;refine ud.out.mono ?_;rintro e Pn ⟨rfl,eB,b8,_⟩);have xK:Hid (kX g g (ae (jy G p 0)) Pn/\Below g W0 Pn):=⟨by
  show kX g g (ae (((kG G ⟨true,p.bF⟩++⟨#[46]⟩)++p.bG)++⟨#[32,61]⟩)) Pn
  rw[IQ,IQ,IQ];exact eB,Ba.out.2.trans b8⟩
 have z2:=(kU.out _ xK.out.2).2.1.c2;obtain⟨n,hn⟩:∃n,p.body.length=n:=⟨_,rfl⟩
 have HN:=hid hn;rw[hn] at z2;have uM:n<=20:=by have:=Fx.out.2.1;omega
 clear eB b8 ud Ba hn;go_wp2;go_loopw [8,34] (fun _ v wr=>∃k:Nat,v=.int .i64 (k:Int)/\k<=n/\Hid (kX g g (ae (jy G p k)) wr/\Below g W0 wr)) (fun _ v _=>n-(intOf v).toNat)
 ·exact⟨0,rfl,zero_le _,xK.out⟩
 clear xK z2;obtain⟨q,rfl,hq,HR⟩:=hrel;by_cases av:q<n
 case neg=>
  obtain rfl:q=n:=by omega
  have HT:=hid (zkV g g (ae (jy G p q)) wr HR.out.1 (Gm _) (kU.out _ HR.out.2).2.2.2.2.2);go_wp2_with (go_at_call 47;refine HT.out.mono ?_;rintro e w14 ⟨rfl,b8⟩);go_ret;refine⟨?_,(kU.out _ (HR.out.2.trans b8)).2.2.2.2.1⟩;rw[HZ.out,HN.out,XB];rfl
 have hkl:q<p.body.length:=by rw[HN.out];exact av
 obtain⟨g1,o1,e1,_,y0,y1⟩:=(kU.out _ HR.out.2).2.2.2.1.b.get q hkl;have HU:Hid (jy G p (q+1)=(jy G p q++⟨#[32]⟩)++kG G p.body[q]):=by show _=_;simp[jy,hkl]
 have U6:=hid (X9 HA.out.2 Fx.out.1 q);have i1:(q:Int)<n:=by omega
 generalize p.body[q]=y at y0 y1 HU;obtain⟨ys,yn⟩:=y;dsimp only at y0 y1;have z2:=(kU.out _ HR.out.2).2.1.c2;rw[HN.out,e1] at z2;have kS:=al wr (.cells #[.bool ys,.int .i64 yn] 38);have sS:=sW.new wr ⟨ys,yn⟩ 38;obtain⟨b8,Lx⟩:∃b8,wr.heap.size=b8:=⟨_,rfl⟩
 have dC:Hid ((wr.alloc (.cells #[.bool ys,.int .i64 yn] 38)).heap[b8]?=some (.cells #[.bool ys,.int .i64 yn] 38 (0,0))/\kX g g (ae (jy G p q)) (wr.alloc (.cells #[.bool ys,.int .i64 yn] 38))/\Below g W0 (wr.alloc (.cells #[.bool ys,.int .i64 yn] 38))/\g<b8):=⟨by rw[<-Lx];exact heap_alloc_new wr _,HR.out.1.aa kS,HR.out.2.trans (kS.mono (kU.out _ HR.out.2).2.2.2.2.2),by rw[<-Lx];exact HR.out.1.lt⟩
 clear kS sS hkl;go_upto_region 12 with fail
 try rw[Lx]
 clear Lx y0 y1 z2 e1;generalize wr.alloc (.cells #[.bool ys,.int .i64 yn] 38)=W3 at dC⊢;have HW:=hid (DI g _ ⟨#[32]⟩ W3 dC.out.2.1 (by have:=U6.out;rw[wv];show _+1<=_;omega) (kU.out _ dC.out.2.2.1).2.2.2.2.2);go_upto_region 13 with (go_at_call 46;refine HW.out.mono ?_;rintro e w4 ⟨rfl,eB,b9,XJ⟩);have h8:=XJ b8 _ dC.out.1 (by have:=dC.out.2.2.2;simp;omega) (fun c fz e=>by injection e with _ e2;exact absurd e2 (by decide));have u0:w4.cell? ⟨b8,0,none⟩=some (.bool ys):=by rw[cell_of_row w4 _ 0 _ _ _ h8];rfl
 have u1:w4.cell? ⟨b8,1,none⟩=some (.int .i64 yn):=by rw[cell_of_row w4 _ 1 _ _ _ h8];rfl
 have Ej:Hid (kX g g (ae (jy G p q)++ae ⟨#[32]⟩) w4/\Below g W0 w4):=⟨eB,dC.out.2.2.1.trans b9⟩
 have hG:=(kU.out _ Ej.out.2).1;have y0:=hG.c0;have y1:=hG.c1;have y2:=hG.c2;have y3:=hG.c3;have y4:=hG.c4;have SX:=hid (km.out ⟨ys,yn⟩ w4 Ej.out.2);clear eB b9 XJ h8 HW dC hG HR;go_wp2_with (go_at_call 45;refine SX.out.mono ?_;rintro e w5 ⟨rfl,b9⟩;refine Hid.out ?_);refine hid ?_;have Cw:Hid (kX g g (ae (jy G p q)++ae ⟨#[32]⟩) w5/\Below g W0 w5):=⟨Ej.out.1.aa b9,Ej.out.2.trans (b9.mono (kU.out _ Ej.out.2).2.2.2.2.2)⟩
 clear b9 SX Ej u0 u1 y0 y1 y2 y3 y4;have HW:=hid (DI g _ (kG G ⟨ys,yn⟩) w5 Cw.out.1 (by have:=U6.out;have:=Al.out ⟨ys,yn⟩;rw[length_append,wv,wv];show _+1+_<=_;omega) (kU.out _ Cw.out.2).2.2.2.2.2);go_wp2_with (go_at_call 46;refine HW.out.mono ?_;rintro e w6 ⟨rfl,eB,b9,_⟩;refine Hid.out ?_);refine hid ?_;have HBA:Hid (kX g g (ae (jy G p (q+1))) w6/\Below g W0 w6):=⟨by rw[HU.out,IQ,IQ];exact eB,Cw.out.2.trans b9⟩
 clear eB b9 HW Cw;go_wp2;go_roundw
 ·exact⟨q+1,by go_num,by omega,HBA.out⟩
 simp[intOf];omega
theorem znl(c:Nat)(hc:c<256)(s:List Nat):eQ (.leaf ⟨1,iJ (fun _=>c) 1⟩) s↔s=[c]:=by
 rw[Kv,if_pos rfl];constructor
 ·rintro⟨b,rfl,_,h⟩;obtain⟨j,_,e⟩:=(Og _ _ _).1 h;rw[<-e]
 rintro rfl;exact⟨c,rfl,hc,(Og _ _ _).2 ⟨0,by omega,rfl⟩⟩
theorem Z5{pre:List Ru}{x:Ru}{er:Int}(h:Lk pre x er)(h1:bU x.nm=true)(h2:∀y∈pre,y.nm≠x.nm)(h3:k8 x.k=true){t:Rx}(ht:oa x.rx t)(hn:nB (fw t 0)<=2)(he:¬eQ t []):er=0:=by
 rcases h with ⟨h4,_⟩|⟨_,⟨⟨y,hy,e⟩,_⟩|⟨_,⟨h4,_⟩|⟨_,⟨e5,h4,_⟩|⟨t',xe,h5⟩⟩⟩⟩
 ·rw[h1] at h4;cases h4
 ·exact absurd e (h2 y hy)
 ·rw[h3] at h4;cases h4
 ·exact (ht.BR h4).elim
 have hf:=xe.flat ht;have hE:=Xd xe.1 ht.1 hf;rcases h5 with ⟨h6,_⟩|⟨h6,_⟩|⟨_,h6⟩
 ·have h6:=h6.1;rw[hE] at h6;have:2 ^ nB (fw t 0)<=2 ^ 2:=Nat.pow_le_pow_right (by omega) hn;omega
 ·refine absurd ?_ he;have:=(zmb xe.1 ht.1 hf (fun _=>0) (fun _=>by omega) 0).1;exact this h6
 exact h6
def MS:Rx:=.leaf ⟨1,iJ (fun _=>43) 1⟩
def Dq:ByteArray:=⟨#[92,43]⟩
def Bn:ByteArray:=⟨#[80,76,85,83]⟩
theorem ZA:oa Dq MS:=⟨⟨rfl,by decide +kernel⟩,by kernel_rfl,by decide +kernel⟩
theorem zop:nB (fw MS 0)<=2:=by decide +kernel
theorem zk6{e:Ending}(h:Ho [⟨Bn,0,Dq⟩] w e w'):e=.returned (.tuple #[.int .i64 1,.int .i64 0])/\Below w.heap.size w w':=by
 refine⟨?_,h.1⟩;rcases h.2 with ⟨h1,_⟩|⟨i,hi,er,hne,_,hr,_⟩|⟨_,_,rfl⟩
 ·simp at h1
 ·exfalso;obtain rfl:i=0:=by simpa using hi
  exact hne (Z5 (t:=MS) hr (show bU Bn=true by decide +kernel) (fun y hy=>by simp at hy) (show k8 0=true by decide) ZA zop (fun hh=>by have:=(znl 43 (by omega) []).1 hh;simp at this))
 rfl
theorem ZQ(hz:n+5<=W.heap.size)(g0:W.heap[n]?=some (.cells #[.string ⟨#[80,76,85,83]⟩,.int .i64 0,.string ⟨#[92,43]⟩] 55 (0,0)))(g1:W.heap[n+1]?=some (.cells #[.string ⟨#[69]⟩] 9 (0,0)))
  (g2:W.heap[n+2]?=some (.cells #[.bool true,.int .i64 0,.bool false,.int .i64 0,.bool true,.int .i64 0] 38 (0,0))) (g3:W.heap[n+3]?=some (.cells #[.int .i64 0,.int .i64 0] 3 (0,0)))
  (g4:W.heap[n+4]?=some (.cells #[.int .i64 0,.string ⟨#[65,100,100]⟩,.slice (some ⟨n+2,0,none⟩) 3 3,.bool false,.int .i64 (-1),.slice (some ⟨n+3,0,none⟩) 2 2] 47 (0,0))):(fB n).At W:=by
 refine⟨fun _=>⟨n,0,rfl,by omega,fun j hj=>?_⟩,fun _=>⟨n+1,0,rfl,by omega,fun j hj=>?_⟩,fun _=>⟨n+4,0,rfl,by omega,fun i hi=>?_⟩,fun h=>absurd h (by show ¬0<0;omega)⟩
 ·have h3:j<3:=hj;rw[cell_of_row W _ _ _ _ _ g0];rcases (by omega:j=0\/j=1\/j=2) with rfl|rfl|rfl <;> rfl
 ·obtain rfl:j=0:=by have:j<1:=hj;omega
  rw[cell_of_row W _ _ _ _ _ g1];rfl
 obtain rfl:i=0:=by have:i<1:=hi;omega
 refine⟨⟨fun _=>⟨n+2,0,rfl,by omega,fun i hi j hj=>?_⟩,fun _=>⟨n+3,0,rfl,by omega,fun j hj=>?_⟩⟩,fun j hj=>?_⟩
 ·have h3:i<3:=hi;rw[cell_of_row W _ _ _ _ _ g2];rcases (by omega:i=0\/i=1\/i=2) with rfl|rfl|rfl <;> rcases (by omega:j=0\/j=1) with rfl|rfl <;> rfl
 ·have h3:j<2:=hj;rw[cell_of_row W _ _ _ _ _ g3];rcases (by omega:j=0\/j=1) with rfl|rfl <;> rfl
 rw[cell_of_row W _ _ _ _ _ g4];rcases (by omega:j=0\/j=1\/j=2\/j=3\/j=4\/j=5) with rfl|rfl|rfl|rfl|rfl|rfl <;> rfl
theorem zgc(w:World):Calls prog 7 #[] w (yQ w):=by
 obtain⟨n,hn⟩:∃n,w.heap.size=n:=⟨_,rfl⟩
 obtain⟨W1,h1⟩:∃W1,w.alloc (.cells #[.string ⟨#[80,76,85,83]⟩,.int .i64 0,.string ⟨#[92,43]⟩] 55)=W1:=⟨_,rfl⟩
 have k1:=al w (.cells #[.string ⟨#[80,76,85,83]⟩,.int .i64 0,.string ⟨#[92,43]⟩] 55);have g1:=heap_alloc_new w (.cells #[.string ⟨#[80,76,85,83]⟩,.int .i64 0,.string ⟨#[92,43]⟩] 55);have z1:W1.heap.size=n+1:=by rw[<-h1];simp[hn]
 rw[h1] at k1 g1;rw[hn] at g1 k1;obtain⟨W2,h2⟩:∃W2,W1.alloc (.cells #[.string ⟨#[69]⟩] 9)=W2:=⟨_,rfl⟩
 have k2:=al W1 (.cells #[.string ⟨#[69]⟩] 9);have g2:=heap_alloc_new W1 (.cells #[.string ⟨#[69]⟩] 9);have z2:W2.heap.size=n+2:=by rw[<-h2];simp[z1]
 rw[h2] at k2 g2;rw[z1] at g2 k2;obtain⟨W3,h3⟩:∃W3,W2.alloc (.cells #[.bool true,.int .i64 0,.bool false,.int .i64 0,.bool true,.int .i64 0] 38)=W3:=⟨_,rfl⟩
 have k3:=al W2 (.cells #[.bool true,.int .i64 0,.bool false,.int .i64 0,.bool true,.int .i64 0] 38);have g3:=heap_alloc_new W2 (.cells #[.bool true,.int .i64 0,.bool false,.int .i64 0,.bool true,.int .i64 0] 38);have z3:W3.heap.size=n+3:=by rw[<-h3];simp[z2]
 rw[h3] at k3 g3;rw[z2] at g3 k3;obtain⟨W4,h4⟩:∃W4,W3.alloc (.cells #[.int .i64 0,.int .i64 0] 3)=W4:=⟨_,rfl⟩
 have k4:=al W3 (.cells #[.int .i64 0,.int .i64 0] 3);have g4:=heap_alloc_new W3 (.cells #[.int .i64 0,.int .i64 0] 3);have z4:W4.heap.size=n+4:=by rw[<-h4];simp[z3]
 rw[h4] at k4 g4;rw[z3] at g4 k4;obtain⟨W5,h5⟩:∃W5,W4.alloc (.cells #[.int .i64 0,.string ⟨#[65,100,100]⟩,.slice (some ⟨n+1+1,0,none⟩) 3 3,.bool false,.int .i64 (-1),.slice (some ⟨n+1+1+1,0,none⟩) 2 2] 47)=W5:=⟨_,rfl⟩
 have k5:=al W4 (.cells #[.int .i64 0,.string ⟨#[65,100,100]⟩,.slice (some ⟨n+1+1,0,none⟩) 3 3,.bool false,.int .i64 (-1),.slice (some ⟨n+1+1+1,0,none⟩) 2 2] 47);have g5:=heap_alloc_new W4 (.cells #[.int .i64 0,.string ⟨#[65,100,100]⟩,.slice (some ⟨n+1+1,0,none⟩) 3 3,.bool false,.int .i64 (-1),.slice (some ⟨n+1+1+1,0,none⟩) 2 2] 47);have z5:W5.heap.size=n+5:=by rw[<-h5];simp[z4]
 rw[h5] at k5 g5;rw[z4] at g5 k5;obtain⟨W6,h6⟩:∃W6,W5.alloc (.cells #[.slice (some ⟨n,0,none⟩) 1 1,.slice (some ⟨n+1,0,none⟩) 1 1,.slice (some ⟨n+1+1+1+1,0,none⟩) 1 1,.slice none 0 0,.int .i64 0] 27)=W6:=⟨_,rfl⟩
 have k6:=al W5 (.cells #[.slice (some ⟨n,0,none⟩) 1 1,.slice (some ⟨n+1,0,none⟩) 1 1,.slice (some ⟨n+1+1+1+1,0,none⟩) 1 1,.slice none 0 0,.int .i64 0] 27);have g6:=heap_alloc_new W5 (.cells #[.slice (some ⟨n,0,none⟩) 1 1,.slice (some ⟨n+1,0,none⟩) 1 1,.slice (some ⟨n+1+1+1+1,0,none⟩) 1 1,.slice none 0 0,.int .i64 0] 27);have z6:W6.heap.size=n+6:=by rw[<-h6];simp[z5]
 rw[h6] at k6 g6;rw[z5] at g6 k6;have e2:W6.heap[n+1]?=_:=(k6.block _ (by omega)).trans ((k5.block _ (by omega)).trans ((k4.block _ (by omega)).trans ((k3.block _ (by omega)).trans g2)));have e1:W6.heap[n]?=_:=(k6.block _ (by omega)).trans ((k5.block _ (by omega)).trans ((k4.block _ (by omega)).trans ((k3.block _ (by omega)).trans ((k2.block _ (by omega)).trans g1))));have e3:W6.heap[n+2]?=_:=(k6.block _ (by omega)).trans ((k5.block _ (by omega)).trans ((k4.block _ (by omega)).trans g3));have e4:W6.heap[n+3]?=_:=(k6.block _ (by omega)).trans ((k5.block _ (by omega)).trans g4);have e5:W6.heap[n+4]?=_:=(k6.block _ (by omega)).trans g5;have HA:=hid (ZQ (by omega) e1 e2 e3 e4 e5);have HG:Hid (fo W6 (n+5) (fB n)):=⟨by rw[cell_of_row W6 _ _ _ _ _ g6];rfl,by rw[cell_of_row W6 _ _ _ _ _ g6];rfl,by rw[cell_of_row W6 _ _ _ _ _ g6];rfl,by rw[cell_of_row W6 _ _ _ _ _ g6];rfl,by rw[cell_of_row W6 _ _ _ _ _ g6];rfl,by omega⟩
 have HB:Hid (Below n w W6):=(((((k1.trans (k2.mono (by omega))).trans (k3.mono (by omega))).trans (k4.mono (by omega))).trans (k5.mono (by omega))).trans (k6.mono (by omega)))
 have Hh:=hid (Zz h1 (Zz h2 (Zz h3 (Zz h4 (Zz h5 h6)))));have Hn:=hid hn;have Hz:=hid z6;clear k1 k2 k3 k4 k5 k6 g1 g2 g3 g4 g5 g6 z1 z2 z3 z4 z5 z6 e1 e2 e3 e4 e5 h1 h2 h3 h4 h5 h6 hn;go_enter func7,ntmps7;go_upto_region 2 with fail;rw[Hn.out,Hh.out.1,Hh.out.2.1,Hh.out.2.2.1,Hh.out.2.2.2.1,Hh.out.2.2.2.2.1,Hh.out.2.2.2.2.2];have Sm:Hid (Calls prog 19 #[.agg #[.slice (some ⟨n,0,none⟩) 1 1,.slice (some ⟨n+1,0,none⟩) 1 1,.slice (some ⟨n+1+1+1+1,0,none⟩) 1 1,.slice none 0 0,.int .i64 0],.int .i64 0] W6 (zn ⟨#[69,46,65,100,100,32,61,32,69,32,80,76,85,83,32,69]⟩ W6)):=by
  have h9:=zhZ (fB n) 0 W6 HA.out (Wh n);rw[zi9] at h9;exact h9
 have Ik:Hid (∀W,Below W6.heap.size W6 W->Calls prog 9 #[.agg #[.slice (some ⟨n,0,none⟩) 1 1,.slice (some ⟨n+1,0,none⟩) 1 1,.slice (some ⟨n+1+1+1+1,0,none⟩) 1 1,.slice none 0 0,.int .i64 0]] W (fun e w'=>e=.returned (.agg #[.int .i64 0,.int .i64 0,.int .i64 0])/\Below W.heap.size W w')):=fun W kW=>by
  refine (zgf (fun i er=>i=1/\er=0) (fB n) W (HA.out.below kW) ((Wh n).lim (by omega)) (fun W' k'=>?_)).mono ?_
  ·refine (ziJ 1 1 (some ⟨n,0,none⟩) [⟨Bn,0,Dq⟩] rfl (by omega) (le_refl _) (fun j hj=>?_) W' ((HA.out.below kW).below k').r).mono ?_
   ·obtain rfl:j=0:=(by have:j<1:=hj;omega);exact⟨show 4<=maxLen by unfold maxLen;omega,show 2<=1600 by omega⟩
   intro e w' h;obtain⟨h1,h2⟩:=zk6 h;exact⟨1,0,h1,⟨rfl,rfl⟩,h2⟩
  rintro e w' ⟨i,er,⟨rfl,rfl⟩,rfl,hb⟩;rw[show mG (fB n) 1 0=(0,0,0) by rw[<-zk4 n];exact if_neg (by simp)];exact⟨rfl,hb⟩
 have HD:Hid (∀W,Below W6.heap.size W6 W->W.cell? ⟨n+1+1+1+1+1,0,none⟩=some (.slice (some ⟨n,0,none⟩) 1 1)/\W.cell? ⟨n+1+1+1+1+1,1,none⟩=some (.slice (some ⟨n+1,0,none⟩) 1 1)/\W.cell? ⟨n+1+1+1+1+1,2,none⟩=some (.slice (some ⟨n+1+1+1+1,0,none⟩) 1 1)/\W.cell? ⟨n+1+1+1+1+1,3,none⟩=some (.slice none 0 0)/\W.cell? ⟨n+1+1+1+1+1,4,none⟩=some (.int .i64 0)):=fun W k=>by
  have h9:=HG.out.below k;exact⟨h9.c0,h9.c1,h9.c2,h9.c3,h9.c4⟩
 obtain⟨c0,c1,c2,c3,c4⟩:=HD.out W6 (Below.refl _ _);go_wp2_with (go_at_call 19;refine Sm.out.mono ?_;rintro e w7 ⟨rfl,b7⟩;refine Hid.out ?_);refine hid ?_;have xK:=hid b7;clear c0 c1 c2 c3 c4 Sm b7;obtain⟨c0,c1,c2,c3,c4⟩:=HD.out w7 xK.out;have KZ:=hid (Ik.out w7 xK.out);go_wp2_with (go_at_call 9;refine KZ.out.mono ?_;rintro e w8 ⟨rfl,b8⟩);go_ret;refine⟨rfl,?_⟩;rw[Hn.out];exact HB.out.trans ((xK.out.mono (by have:=Hz.out;omega)).trans (b8.mono (by have:=xK.out.size;have:=Hz.out;omega)))
end Go.Proofs.YtiijebameffenaaGreat
