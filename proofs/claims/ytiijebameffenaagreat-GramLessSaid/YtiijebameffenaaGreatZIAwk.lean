import Derived.Test.YtiijebameffenaaGreatZIPFn
import Derived.Test.YtiijebameffenaaGreatZQLan
set_option linter.all false
set_option maxHeartbeats 8000000
set_option maxRecDepth 100000
open Go.Lib (hid)
namespace Go.Proofs.YtiijebameffenaaGreat
open Go.RowKit Go.Maps Go.WideElems Go.ChangeMaps Go.MapKept Go.Proofs.Tryz
open Nat (le_refl lt_of_lt_of_le zero_le)
open List (getElem_mem getElem_of_mem length_append range)
open Or (inl inr)
variable {B g i k n:Nat}{G:Gr}{W w' wr:World}{a e er:Int}{t:Rx}{x:Ru}
structure pL (B:Nat)(w:World)(b g o cb:Nat)(cj bn:Int)(a0 b0 d0:Bool)(W:World):Prop where
 c0:W.cell? ⟨b,0,none⟩=some (.int .i64 cj)
 c2:W.cell? ⟨b,2,none⟩=some (.slice (some ⟨g,o,none⟩) 3 cb)
 x0:W.cell? ⟨g,o,none⟩=some (.bool a0)
 y0:W.cell? ⟨g,o+1*2,none⟩=some (.bool b0)
 y1:W.cell? ⟨g,o+1*2+1,none⟩=some (.int .i64 bn)
 z0:W.cell? ⟨g,o+2*2,none⟩=some (.bool d0)
 bb:b<W.heap.size
 gg:g<W.heap.size
 k:Below B w W
 le:B<=W.heap.size
theorem pL.aa{w:World}{b o cb:Nat}{cj bn:Int}{a0 b0 d0:Bool}{W':World}(h:pL B w b g o cb cj bn a0 b0 d0 W)(k:Below W.heap.size W W'):pL B w b g o cb cj bn a0 b0 d0 W':=
 ⟨(k.cell (p:=⟨b,0,none⟩) h.bb).trans h.c0,(k.cell (p:=⟨b,2,none⟩) h.bb).trans h.c2,(k.cell (p:=⟨g,o,none⟩) h.gg).trans h.x0,(k.cell (p:=⟨g,o+1*2,none⟩) h.gg).trans h.y0,(k.cell (p:=⟨g,o+1*2+1,none⟩) h.gg).trans h.y1,(k.cell (p:=⟨g,o+2*2,none⟩) h.gg).trans h.z0,lt_of_lt_of_le h.bb k.size,lt_of_lt_of_le h.gg k.size,h.k.trans (k.mono h.le),Nat.le_trans h.le k.size⟩
theorem zh9(p:fC)(w:World)(hA:p.At w)(hl:p.body.length<=9223372036854775807):
  Calls prog 20 #[p.val] w (xU (eY p) w):=by
 show Calls prog 20 #[.agg #[.int .i64 p.cj,.string p.cJ,.slice p.ab p.body.length p.cb,.bool p.par,.int .i64 p.prec,.slice p.ah p.hints.length p.ch]] w _;have HA:=hid hA;clear hA;obtain⟨w2,bQ⟩:∃w2,(w.alloc (.cells #[.int .i64 p.cj,.string p.cJ,.slice p.ab p.body.length p.cb,.bool p.par,.int .i64 p.prec,.slice p.ah p.hints.length p.ch] 47))=w2:=⟨_,rfl⟩
 have H:Hid (tO w2 w.heap.size p/\Below w.heap.size w w2):=by
  rw[<-bQ];have k0:=al w (.cells #[.int .i64 p.cj,.string p.cJ,.slice p.ab p.body.length p.cb,.bool p.par,.int .i64 p.prec,.slice p.ah p.hints.length p.ch] 47);exact⟨(tO.new w p 47),k0⟩
 have ld:Hid (w2.heap.size=w.heap.size+1):=by show _=_;rw[<-bQ];simp
 go_enter func20,ntmps20;go_upto_region 1 with fail
 try rw[bQ]
 clear bQ;have HB:=hid H.out.2;have c0:=H.out.1.c0;have c2:=H.out.1.c2;have BJ:Below w.heap.size w w2.drew:=HB.out.drew;by_cases h3:p.body.length=3
 ·have HE:=hid (zlD h3);have k0:0<p.body.length:=by omega
  have k1:1<p.body.length:=by omega
  have k2:2<p.body.length:=by omega
  obtain⟨g,o,e,q0,x0,x1⟩:=(HA.out.b.below HB.out).get 0 k0;obtain⟨g',o',e',q1,y0,y1⟩:=(HA.out.b.below HB.out).get 1 k1;obtain⟨g'',o'',J1,q2,z0,z1⟩:=(HA.out.b.below HB.out).get 2 k2;clear x1 z1 q1 q2;rw[e] at e' J1;injection e' with e';injection e' with e1 e2;injection J1 with J1;injection J1 with e3 e4;subst e1 e2 e3 e4;rw[Nat.zero_mul,Nat.add_zero] at x0;rw[h3,e] at c2;have HS:Hid (pL w.heap.size w w.heap.size g o p.cb p.cj p.body[1].n p.body[0].s p.body[1].s p.body[2].s w2.drew):=⟨c0,c2,x0,y0,y1,z0,H.out.1.lt,q0,BJ,HB.out.size⟩
  generalize p.body[0].s=a0 at HS HE;generalize p.body[1].s=b0 at HS HE;generalize p.body[1].n=bn at HS HE;generalize p.body[2].s=d0 at HS HE;clear k0 k1 k2 hl c0 c2 x0 y0 y1 z0 H HA e h3 q0 BJ;obtain⟨b,hb⟩:∃b,w.heap.size=b:=⟨_,rfl⟩
  have rC:Hid (pL w.heap.size w b g o p.cb p.cj bn a0 b0 d0 w2.drew):=by rw[<-hb];exact HS.out
  rw[hb];clear hb HS HB;cases a0 with
  | true=>
   refine wp_region_held_drew (S:=fun W'=>pL w.heap.size w b g o p.cb p.cj bn true b0 d0 W') (by kernel_rfl) (rC.out) (fun hHeld=>?_);refine aq 0 ?_ (hy:=by intro wz hSw;have y0:=hSw.c0;have y1:=hSw.c2;have y2:=hSw.x0;have y3:=hSw.y0;have y4:=hSw.y1;have y5:=hSw.z0;(try simp only[Act.put,sA,sB,sC]);go_simp;first|done|with_reducible rfl)
   try simp only[Act.put,sA,sB,sC]
   refine aq 1 ?_ (hy:=by intro wz hSw;have y0:=hSw.c0;have y1:=hSw.c2;have y2:=hSw.x0;have y3:=hSw.y0;have y4:=hSw.y1;have y5:=hSw.z0;(try simp only[Act.put,sA,sB,sC]);go_simp;first|done|with_reducible rfl)
   try simp only[Act.put,sA,sB,sC]
   refine aq 2 ?_ (hy:=by intro wz hSw;have y0:=hSw.c0;have y1:=hSw.c2;have y2:=hSw.x0;have y3:=hSw.y0;have y4:=hSw.y1;have y5:=hSw.z0;(try simp only[Act.put,sA,sB,sC]);go_simp;first|done|with_reducible rfl)
   try simp only[Act.put,sA,sB,sC]
   refine aq 3 (v:=.bool true) ?_ (hy:=by intro wz hSw;have y0:=hSw.c0;have y1:=hSw.c2;have y2:=hSw.x0;have y3:=hSw.y0;have y4:=hSw.y1;have y5:=hSw.z0;(try simp only[Act.put,sA,sB,sC]);go_simp;first|done|with_reducible rfl)
   try simp only[Act.put,sA,sB,sC]
   refine aq 4 ?_ (hy:=by intro wz hSw;have y0:=hSw.c0;have y1:=hSw.c2;have y2:=hSw.x0;have y3:=hSw.y0;have y4:=hSw.y1;have y5:=hSw.z0;(try simp only[Act.put,sA,sB,sC]);go_simp;first|done|with_reducible rfl)
   try simp only[Act.put,sA,sB,sC]
   refine aq 5 ?_ (hy:=by intro wz hSw;have y0:=hSw.c0;have y1:=hSw.c2;have y2:=hSw.x0;have y3:=hSw.y0;have y4:=hSw.y1;have y5:=hSw.z0;(try simp only[Act.put,sA,sB,sC]);go_simp;first|done|with_reducible rfl)
   try simp only[Act.put,sA,sB,sC]
   refine aq 6 ?_ (hy:=by intro wz hSw;have y0:=hSw.c0;have y1:=hSw.c2;have y2:=hSw.x0;have y3:=hSw.y0;have y4:=hSw.y1;have y5:=hSw.z0;(try simp only[Act.put,sA,sB,sC]);go_simp;first|done|with_reducible rfl)
   try simp only[Act.put,sA,sB,sC]
   refine aq 7 ?_ (hy:=by intro wz hSw;have y0:=hSw.c0;have y1:=hSw.c2;have y2:=hSw.x0;have y3:=hSw.y0;have y4:=hSw.y1;have y5:=hSw.z0;(try simp only[Act.put,sA,sB,sC]);go_simp;first|done|with_reducible rfl)
   try simp only[Act.put,sA,sB,sC]
   refine aq 8 ?_ (hy:=by intro wz hSw;have y0:=hSw.c0;have y1:=hSw.c2;have y2:=hSw.x0;have y3:=hSw.y0;have y4:=hSw.y1;have y5:=hSw.z0;(try simp only[Act.put,sA,sB,sC]);go_simp;first|done|with_reducible rfl)
   try simp only[Act.put,sA,sB,sC]
   refine aq 9 ?_ (hy:=by intro wz hSw;have y0:=hSw.c0;have y1:=hSw.c2;have y2:=hSw.x0;have y3:=hSw.y0;have y4:=hSw.y1;have y5:=hSw.z0;(try simp only[Act.put,sA,sB,sC]);go_simp;first|done|with_reducible rfl)
   try simp only[Act.put,sA,sB,sC]
   refine aq 10 ?_ (hy:=by intro wz hSw;have y0:=hSw.c0;have y1:=hSw.c2;have y2:=hSw.x0;have y3:=hSw.y0;have y4:=hSw.y1;have y5:=hSw.z0;(try simp only[Act.put,sA,sB,sC]);go_simp;first|done|with_reducible rfl)
   try simp only[Act.put,sA,sB,sC]
   refine aq 11 ?_ (hy:=by intro wz hSw;have y0:=hSw.c0;have y1:=hSw.c2;have y2:=hSw.x0;have y3:=hSw.y0;have y4:=hSw.y1;have y5:=hSw.z0;(try simp only[Act.put,sA,sB,sC]);go_simp;first|done|with_reducible rfl)
   try simp only[Act.put,sA,sB,sC]
   refine aq 12 ?_ (hy:=by intro wz hSw;have y0:=hSw.c0;have y1:=hSw.c2;have y2:=hSw.x0;have y3:=hSw.y0;have y4:=hSw.y1;have y5:=hSw.z0;(try simp only[Act.put,sA,sB,sC]);go_simp;first|done|with_reducible rfl)
   try simp only[Act.put,sA,sB,sC]
   refine fZ 13 ?_
   try simp only[Act.put,sA,sB,sC]
   refine fZ 14 ?_
   try simp only[Act.put,sA,sB,sC]
   refine fZ 15 ?_
   try simp only[Act.put,sA,sB,sC]
   refine fZ 16 ?_
   try simp only[Act.put,sA,sB,sC]
   refine fZ 17 ?_
   try simp only[Act.put,sA,sB,sC]
   refine fZ 18 ?_
   try simp only[Act.put,sA,sB,sC]
   refine fZ 19 ?_
   try simp only[Act.put,sA,sB,sC]
   refine fZ 20 ?_
   try simp only[Act.put,sA,sB,sC]
   refine aq 21 ?_ (hy:=by intro wz hSw;have y0:=hSw.c0;have y1:=hSw.c2;have y2:=hSw.x0;have y3:=hSw.y0;have y4:=hSw.y1;have y5:=hSw.z0;(try simp only[Act.put,sA,sB,sC]);go_simp;first|done|with_reducible rfl)
   try simp only[Act.put,sA,sB,sC]
   refine aq 22 ?_ (hy:=by intro wz hSw;have y0:=hSw.c0;have y1:=hSw.c2;have y2:=hSw.x0;have y3:=hSw.y0;have y4:=hSw.y1;have y5:=hSw.z0;(try simp only[Act.put,sA,sB,sC]);go_simp;first|done|with_reducible rfl)
   try simp only[Act.put,sA,sB,sC]
   refine fZ 23 ?_
   try simp only[Act.put,sA,sB,sC]
   refine fZ 24 ?_
   try simp only[Act.put,sA,sB,sC]
   refine fZ 25 ?_
   try simp only[Act.put,sA,sB,sC]
   refine fZ 26 ?_
   try simp only[Act.put,sA,sB,sC]
   refine fZ 27 ?_
   try simp only[Act.put,sA,sB,sC]
   refine fZ 28 ?_
   try simp only[Act.put,sA,sB,sC]
   refine aq 29 ?_ (hy:=by intro wz hSw;have y0:=hSw.c0;have y1:=hSw.c2;have y2:=hSw.x0;have y3:=hSw.y0;have y4:=hSw.y1;have y5:=hSw.z0;(try simp only[Act.put,sA,sB,sC]);go_simp;first|done|with_reducible rfl)
   try simp only[Act.put,sA,sB,sC]
   refine aq 30 ?_ (hy:=by intro wz hSw;have y0:=hSw.c0;have y1:=hSw.c2;have y2:=hSw.x0;have y3:=hSw.y0;have y4:=hSw.y1;have y5:=hSw.z0;(try simp only[Act.put,sA,sB,sC]);go_simp;first|done|with_reducible rfl)
   try simp only[Act.put,sA,sB,sC]
   refine wpAnyH_done (by kernel_rfl) ?_ _;go_wp2;go_ret;exact⟨by rw[HE.out];rfl,hHeld.k⟩
  | false=>
   cases b0 with
   | false=>
    refine wp_region_held_drew (S:=fun W'=>pL w.heap.size w b g o p.cb p.cj bn false false d0 W') (by kernel_rfl) (rC.out) (fun hHeld=>?_);refine aq 0 ?_ (hy:=by intro wz hSw;have y0:=hSw.c0;have y1:=hSw.c2;have y2:=hSw.x0;have y3:=hSw.y0;have y4:=hSw.y1;have y5:=hSw.z0;(try simp only[Act.put,sA,sB,sC]);go_simp;first|done|with_reducible rfl)
    try simp only[Act.put,sA,sB,sC]
    refine aq 1 ?_ (hy:=by intro wz hSw;have y0:=hSw.c0;have y1:=hSw.c2;have y2:=hSw.x0;have y3:=hSw.y0;have y4:=hSw.y1;have y5:=hSw.z0;(try simp only[Act.put,sA,sB,sC]);go_simp;first|done|with_reducible rfl)
    try simp only[Act.put,sA,sB,sC]
    refine aq 2 ?_ (hy:=by intro wz hSw;have y0:=hSw.c0;have y1:=hSw.c2;have y2:=hSw.x0;have y3:=hSw.y0;have y4:=hSw.y1;have y5:=hSw.z0;(try simp only[Act.put,sA,sB,sC]);go_simp;first|done|with_reducible rfl)
    try simp only[Act.put,sA,sB,sC]
    refine aq 3 (v:=.bool true) ?_ (hy:=by intro wz hSw;have y0:=hSw.c0;have y1:=hSw.c2;have y2:=hSw.x0;have y3:=hSw.y0;have y4:=hSw.y1;have y5:=hSw.z0;(try simp only[Act.put,sA,sB,sC]);go_simp;first|done|with_reducible rfl)
    try simp only[Act.put,sA,sB,sC]
    refine aq 4 ?_ (hy:=by intro wz hSw;have y0:=hSw.c0;have y1:=hSw.c2;have y2:=hSw.x0;have y3:=hSw.y0;have y4:=hSw.y1;have y5:=hSw.z0;(try simp only[Act.put,sA,sB,sC]);go_simp;first|done|with_reducible rfl)
    try simp only[Act.put,sA,sB,sC]
    refine aq 5 ?_ (hy:=by intro wz hSw;have y0:=hSw.c0;have y1:=hSw.c2;have y2:=hSw.x0;have y3:=hSw.y0;have y4:=hSw.y1;have y5:=hSw.z0;(try simp only[Act.put,sA,sB,sC]);go_simp;first|done|with_reducible rfl)
    try simp only[Act.put,sA,sB,sC]
    refine aq 6 ?_ (hy:=by intro wz hSw;have y0:=hSw.c0;have y1:=hSw.c2;have y2:=hSw.x0;have y3:=hSw.y0;have y4:=hSw.y1;have y5:=hSw.z0;(try simp only[Act.put,sA,sB,sC]);go_simp;first|done|with_reducible rfl)
    try simp only[Act.put,sA,sB,sC]
    refine aq 7 ?_ (hy:=by intro wz hSw;have y0:=hSw.c0;have y1:=hSw.c2;have y2:=hSw.x0;have y3:=hSw.y0;have y4:=hSw.y1;have y5:=hSw.z0;(try simp only[Act.put,sA,sB,sC]);go_simp;first|done|with_reducible rfl)
    try simp only[Act.put,sA,sB,sC]
    refine aq 8 ?_ (hy:=by intro wz hSw;have y0:=hSw.c0;have y1:=hSw.c2;have y2:=hSw.x0;have y3:=hSw.y0;have y4:=hSw.y1;have y5:=hSw.z0;(try simp only[Act.put,sA,sB,sC]);go_simp;first|done|with_reducible rfl)
    try simp only[Act.put,sA,sB,sC]
    refine aq 9 ?_ (hy:=by intro wz hSw;have y0:=hSw.c0;have y1:=hSw.c2;have y2:=hSw.x0;have y3:=hSw.y0;have y4:=hSw.y1;have y5:=hSw.z0;(try simp only[Act.put,sA,sB,sC]);go_simp;first|done|with_reducible rfl)
    try simp only[Act.put,sA,sB,sC]
    refine aq 10 ?_ (hy:=by intro wz hSw;have y0:=hSw.c0;have y1:=hSw.c2;have y2:=hSw.x0;have y3:=hSw.y0;have y4:=hSw.y1;have y5:=hSw.z0;(try simp only[Act.put,sA,sB,sC]);go_simp;first|done|with_reducible rfl)
    try simp only[Act.put,sA,sB,sC]
    refine aq 11 ?_ (hy:=by intro wz hSw;have y0:=hSw.c0;have y1:=hSw.c2;have y2:=hSw.x0;have y3:=hSw.y0;have y4:=hSw.y1;have y5:=hSw.z0;(try simp only[Act.put,sA,sB,sC]);go_simp;first|done|with_reducible rfl)
    try simp only[Act.put,sA,sB,sC]
    refine aq 12 ?_ (hy:=by intro wz hSw;have y0:=hSw.c0;have y1:=hSw.c2;have y2:=hSw.x0;have y3:=hSw.y0;have y4:=hSw.y1;have y5:=hSw.z0;(try simp only[Act.put,sA,sB,sC]);go_simp;first|done|with_reducible rfl)
    try simp only[Act.put,sA,sB,sC]
    refine aq 13 ?_ (hy:=by intro wz hSw;have y0:=hSw.c0;have y1:=hSw.c2;have y2:=hSw.x0;have y3:=hSw.y0;have y4:=hSw.y1;have y5:=hSw.z0;(try simp only[Act.put,sA,sB,sC]);go_simp;first|done|with_reducible rfl)
    try simp only[Act.put,sA,sB,sC]
    refine aq 14 ?_ (hy:=by intro wz hSw;have y0:=hSw.c0;have y1:=hSw.c2;have y2:=hSw.x0;have y3:=hSw.y0;have y4:=hSw.y1;have y5:=hSw.z0;(try simp only[Act.put,sA,sB,sC]);go_simp;first|done|with_reducible rfl)
    try simp only[Act.put,sA,sB,sC]
    refine aq 15 ?_ (hy:=by intro wz hSw;have y0:=hSw.c0;have y1:=hSw.c2;have y2:=hSw.x0;have y3:=hSw.y0;have y4:=hSw.y1;have y5:=hSw.z0;(try simp only[Act.put,sA,sB,sC]);go_simp;first|done|with_reducible rfl)
    try simp only[Act.put,sA,sB,sC]
    refine aq 16 ?_ (hy:=by intro wz hSw;have y0:=hSw.c0;have y1:=hSw.c2;have y2:=hSw.x0;have y3:=hSw.y0;have y4:=hSw.y1;have y5:=hSw.z0;(try simp only[Act.put,sA,sB,sC]);go_simp;first|done|with_reducible rfl)
    try simp only[Act.put,sA,sB,sC]
    refine aq 17 ?_ (hy:=by intro wz hSw;have y0:=hSw.c0;have y1:=hSw.c2;have y2:=hSw.x0;have y3:=hSw.y0;have y4:=hSw.y1;have y5:=hSw.z0;(try simp only[Act.put,sA,sB,sC]);go_simp;first|done|with_reducible rfl)
    try simp only[Act.put,sA,sB,sC]
    refine aq 18 ?_ (hy:=by intro wz hSw;have y0:=hSw.c0;have y1:=hSw.c2;have y2:=hSw.x0;have y3:=hSw.y0;have y4:=hSw.y1;have y5:=hSw.z0;(try simp only[Act.put,sA,sB,sC]);go_simp;first|done|with_reducible rfl)
    try simp only[Act.put,sA,sB,sC]
    refine aQ 19 (fun K hK=>?_);go_simp;go_at_call 30;refine (yh _ _).mono ?_;rintro e w8 ⟨rfl,b8⟩;have aJ:=hHeld.aa b8;clear b8 hHeld
    try go_wp2_with fail
    refine hK.out _ _ aJ (fun hHeld=>?_);clear hK K aJ
    try simp only[Act.put,sA,sB,sC]
    refine aq 20 ?_ (hy:=by intro wz hSw;have y0:=hSw.c0;have y1:=hSw.c2;have y2:=hSw.x0;have y3:=hSw.y0;have y4:=hSw.y1;have y5:=hSw.z0;(try simp only[Act.put,sA,sB,sC]);go_simp;first|done|with_reducible rfl)
    try simp only[Act.put,sA,sB,sC]
    refine aq 21 ?_ (hy:=by intro wz hSw;have y0:=hSw.c0;have y1:=hSw.c2;have y2:=hSw.x0;have y3:=hSw.y0;have y4:=hSw.y1;have y5:=hSw.z0;(try simp only[Act.put,sA,sB,sC]);go_simp;first|done|with_reducible rfl)
    try simp only[Act.put,sA,sB,sC]
    refine aq 22 ?_ (hy:=by intro wz hSw;have y0:=hSw.c0;have y1:=hSw.c2;have y2:=hSw.x0;have y3:=hSw.y0;have y4:=hSw.y1;have y5:=hSw.z0;(try simp only[Act.put,sA,sB,sC]);go_simp;first|done|with_reducible rfl)
    try simp only[Act.put,sA,sB,sC]
    refine fZ 23 ?_
    try simp only[Act.put,sA,sB,sC]
    refine fZ 24 ?_
    try simp only[Act.put,sA,sB,sC]
    refine fZ 25 ?_
    try simp only[Act.put,sA,sB,sC]
    refine fZ 26 ?_
    try simp only[Act.put,sA,sB,sC]
    refine fZ 27 ?_
    try simp only[Act.put,sA,sB,sC]
    refine fZ 28 ?_
    try simp only[Act.put,sA,sB,sC]
    refine aq 29 ?_ (hy:=by intro wz hSw;have y0:=hSw.c0;have y1:=hSw.c2;have y2:=hSw.x0;have y3:=hSw.y0;have y4:=hSw.y1;have y5:=hSw.z0;(try simp only[Act.put,sA,sB,sC]);go_simp;first|done|with_reducible rfl)
    try simp only[Act.put,sA,sB,sC]
    refine aq 30 ?_ (hy:=by intro wz hSw;have y0:=hSw.c0;have y1:=hSw.c2;have y2:=hSw.x0;have y3:=hSw.y0;have y4:=hSw.y1;have y5:=hSw.z0;(try simp only[Act.put,sA,sB,sC]);go_simp;first|done|with_reducible rfl)
    try simp only[Act.put,sA,sB,sC]
    refine wpAnyH_done (by kernel_rfl) ?_ _;go_wp2;go_ret;exact⟨by rw[HE.out];rfl,hHeld.k⟩
   | true=>
    by_cases aJ:bn=p.cj
    ·have j9:(bn == p.cj)=true:=(by simp[aJ]);refine wp_region_held_drew (S:=fun W'=>pL w.heap.size w b g o p.cb p.cj bn false true d0 W') (by kernel_rfl) (rC.out) (fun hHeld=>?_);refine aq 0 ?_ (hy:=by intro wz hSw;have y0:=hSw.c0;have y1:=hSw.c2;have y2:=hSw.x0;have y3:=hSw.y0;have y4:=hSw.y1;have y5:=hSw.z0;(try simp only[Act.put,sA,sB,sC]);go_simp;first|done|with_reducible rfl)
     try simp only[Act.put,sA,sB,sC]
     refine aq 1 ?_ (hy:=by intro wz hSw;have y0:=hSw.c0;have y1:=hSw.c2;have y2:=hSw.x0;have y3:=hSw.y0;have y4:=hSw.y1;have y5:=hSw.z0;(try simp only[Act.put,sA,sB,sC]);go_simp;first|done|with_reducible rfl)
     try simp only[Act.put,sA,sB,sC]
     refine aq 2 ?_ (hy:=by intro wz hSw;have y0:=hSw.c0;have y1:=hSw.c2;have y2:=hSw.x0;have y3:=hSw.y0;have y4:=hSw.y1;have y5:=hSw.z0;(try simp only[Act.put,sA,sB,sC]);go_simp;first|done|with_reducible rfl)
     try simp only[Act.put,sA,sB,sC]
     refine aq 3 (v:=.bool true) ?_ (hy:=by intro wz hSw;have y0:=hSw.c0;have y1:=hSw.c2;have y2:=hSw.x0;have y3:=hSw.y0;have y4:=hSw.y1;have y5:=hSw.z0;(try simp only[Act.put,sA,sB,sC]);go_simp;first|done|with_reducible rfl)
     try simp only[Act.put,sA,sB,sC]
     refine aq 4 ?_ (hy:=by intro wz hSw;have y0:=hSw.c0;have y1:=hSw.c2;have y2:=hSw.x0;have y3:=hSw.y0;have y4:=hSw.y1;have y5:=hSw.z0;(try simp only[Act.put,sA,sB,sC]);go_simp;first|done|with_reducible rfl)
     try simp only[Act.put,sA,sB,sC]
     refine aq 5 ?_ (hy:=by intro wz hSw;have y0:=hSw.c0;have y1:=hSw.c2;have y2:=hSw.x0;have y3:=hSw.y0;have y4:=hSw.y1;have y5:=hSw.z0;(try simp only[Act.put,sA,sB,sC]);go_simp;first|done|with_reducible rfl)
     try simp only[Act.put,sA,sB,sC]
     refine aq 6 ?_ (hy:=by intro wz hSw;have y0:=hSw.c0;have y1:=hSw.c2;have y2:=hSw.x0;have y3:=hSw.y0;have y4:=hSw.y1;have y5:=hSw.z0;(try simp only[Act.put,sA,sB,sC]);go_simp;first|done|with_reducible rfl)
     try simp only[Act.put,sA,sB,sC]
     refine aq 7 ?_ (hy:=by intro wz hSw;have y0:=hSw.c0;have y1:=hSw.c2;have y2:=hSw.x0;have y3:=hSw.y0;have y4:=hSw.y1;have y5:=hSw.z0;(try simp only[Act.put,sA,sB,sC]);go_simp;first|done|with_reducible rfl)
     try simp only[Act.put,sA,sB,sC]
     refine aq 8 ?_ (hy:=by intro wz hSw;have y0:=hSw.c0;have y1:=hSw.c2;have y2:=hSw.x0;have y3:=hSw.y0;have y4:=hSw.y1;have y5:=hSw.z0;(try simp only[Act.put,sA,sB,sC]);go_simp;first|done|with_reducible rfl)
     try simp only[Act.put,sA,sB,sC]
     refine aq 9 ?_ (hy:=by intro wz hSw;have y0:=hSw.c0;have y1:=hSw.c2;have y2:=hSw.x0;have y3:=hSw.y0;have y4:=hSw.y1;have y5:=hSw.z0;(try simp only[Act.put,sA,sB,sC]);go_simp;first|done|with_reducible rfl)
     try simp only[Act.put,sA,sB,sC]
     refine aq 10 ?_ (hy:=by intro wz hSw;have y0:=hSw.c0;have y1:=hSw.c2;have y2:=hSw.x0;have y3:=hSw.y0;have y4:=hSw.y1;have y5:=hSw.z0;(try simp only[Act.put,sA,sB,sC]);go_simp;first|done|with_reducible rfl)
     try simp only[Act.put,sA,sB,sC]
     refine aq 11 ?_ (hy:=by intro wz hSw;have y0:=hSw.c0;have y1:=hSw.c2;have y2:=hSw.x0;have y3:=hSw.y0;have y4:=hSw.y1;have y5:=hSw.z0;(try simp only[Act.put,sA,sB,sC]);go_simp;first|done|with_reducible rfl)
     try simp only[Act.put,sA,sB,sC]
     refine aq 12 ?_ (hy:=by intro wz hSw;have y0:=hSw.c0;have y1:=hSw.c2;have y2:=hSw.x0;have y3:=hSw.y0;have y4:=hSw.y1;have y5:=hSw.z0;(try simp only[Act.put,sA,sB,sC]);go_simp;first|done|with_reducible rfl)
     try simp only[Act.put,sA,sB,sC]
     refine aq 13 ?_ (hy:=by intro wz hSw;have y0:=hSw.c0;have y1:=hSw.c2;have y2:=hSw.x0;have y3:=hSw.y0;have y4:=hSw.y1;have y5:=hSw.z0;(try simp only[Act.put,sA,sB,sC]);go_simp;first|done|with_reducible rfl)
     try simp only[Act.put,sA,sB,sC]
     refine aq 14 ?_ (hy:=by intro wz hSw;have y0:=hSw.c0;have y1:=hSw.c2;have y2:=hSw.x0;have y3:=hSw.y0;have y4:=hSw.y1;have y5:=hSw.z0;(try simp only[Act.put,sA,sB,sC]);go_simp;first|done|with_reducible rfl)
     try simp only[Act.put,sA,sB,sC]
     refine aq 15 ?_ (hy:=by intro wz hSw;have y0:=hSw.c0;have y1:=hSw.c2;have y2:=hSw.x0;have y3:=hSw.y0;have y4:=hSw.y1;have y5:=hSw.z0;(try simp only[Act.put,sA,sB,sC]);go_simp;first|done|with_reducible rfl)
     try simp only[Act.put,sA,sB,sC]
     refine aq 16 ?_ (hy:=by intro wz hSw;have y0:=hSw.c0;have y1:=hSw.c2;have y2:=hSw.x0;have y3:=hSw.y0;have y4:=hSw.y1;have y5:=hSw.z0;(try simp only[Act.put,sA,sB,sC]);go_simp;first|done|with_reducible rfl)
     try simp only[Act.put,sA,sB,sC]
     refine aq 17 ?_ (hy:=by intro wz hSw;have y0:=hSw.c0;have y1:=hSw.c2;have y2:=hSw.x0;have y3:=hSw.y0;have y4:=hSw.y1;have y5:=hSw.z0;(try simp only[Act.put,sA,sB,sC]);go_simp;first|done|with_reducible rfl)
     try simp only[Act.put,sA,sB,sC]
     refine aq 18 ?_ (hy:=by intro wz hSw;have y0:=hSw.c0;have y1:=hSw.c2;have y2:=hSw.x0;have y3:=hSw.y0;have y4:=hSw.y1;have y5:=hSw.z0;(try simp only[Act.put,sA,sB,sC]);go_simp;first|done|with_reducible rfl)
     try simp only[Act.put,sA,sB,sC]
     refine aQ 19 (fun K hK=>?_);go_simp;go_at_call 30;refine (yh _ _).mono ?_;rintro e w8 ⟨rfl,b8⟩;have aJ:=hHeld.aa b8;clear b8 hHeld
     try go_wp2_with fail
     refine hK.out _ _ aJ (fun hHeld=>?_);clear hK K aJ
     try simp only[Act.put,sA,sB,sC]
     refine aq 20 (v:=.bool true) ?_ (hy:=by intro wz hSw;have y0:=hSw.c0;have y1:=hSw.c2;have y2:=hSw.x0;have y3:=hSw.y0;have y4:=hSw.y1;have y5:=hSw.z0;(try simp only[Act.put,sA,sB,sC]);go_simp;first|done|with_reducible rfl)
     try simp only[Act.put,sA,sB,sC]
     refine aq 21 ?_ (hy:=by intro wz hSw;have y0:=hSw.c0;have y1:=hSw.c2;have y2:=hSw.x0;have y3:=hSw.y0;have y4:=hSw.y1;have y5:=hSw.z0;(try simp only[Act.put,sA,sB,sC]);go_simp;first|done|with_reducible rfl)
     try simp only[Act.put,sA,sB,sC]
     refine aq 22 ?_ (hy:=by intro wz hSw;have y0:=hSw.c0;have y1:=hSw.c2;have y2:=hSw.x0;have y3:=hSw.y0;have y4:=hSw.y1;have y5:=hSw.z0;(try simp only[Act.put,sA,sB,sC]);go_simp;first|done|with_reducible rfl)
     try simp only[Act.put,sA,sB,sC]
     refine aq 23 ?_ (hy:=by intro wz hSw;have y0:=hSw.c0;have y1:=hSw.c2;have y2:=hSw.x0;have y3:=hSw.y0;have y4:=hSw.y1;have y5:=hSw.z0;(try simp only[Act.put,sA,sB,sC]);go_simp;first|done|with_reducible rfl)
     try simp only[Act.put,sA,sB,sC]
     refine aq 24 ?_ (hy:=by intro wz hSw;have y0:=hSw.c0;have y1:=hSw.c2;have y2:=hSw.x0;have y3:=hSw.y0;have y4:=hSw.y1;have y5:=hSw.z0;(try simp only[Act.put,sA,sB,sC]);go_simp;first|done|with_reducible rfl)
     try simp only[Act.put,sA,sB,sC]
     refine aq 25 ?_ (hy:=by intro wz hSw;have y0:=hSw.c0;have y1:=hSw.c2;have y2:=hSw.x0;have y3:=hSw.y0;have y4:=hSw.y1;have y5:=hSw.z0;(try simp only[Act.put,sA,sB,sC]);go_simp;first|done|with_reducible rfl)
     try simp only[Act.put,sA,sB,sC]
     refine aq 26 ?_ (hy:=by intro wz hSw;have y0:=hSw.c0;have y1:=hSw.c2;have y2:=hSw.x0;have y3:=hSw.y0;have y4:=hSw.y1;have y5:=hSw.z0;(try simp only[Act.put,sA,sB,sC]);go_simp;first|done|with_reducible rfl)
     try simp only[Act.put,sA,sB,sC]
     refine aq 27 ?_ (hy:=by intro wz hSw;have y0:=hSw.c0;have y1:=hSw.c2;have y2:=hSw.x0;have y3:=hSw.y0;have y4:=hSw.y1;have y5:=hSw.z0;(try simp only[Act.put,sA,sB,sC]);go_simp;first|done|with_reducible rfl)
     try simp only[Act.put,sA,sB,sC]
     refine aq 28 ?_ (hy:=by intro wz hSw;have y0:=hSw.c0;have y1:=hSw.c2;have y2:=hSw.x0;have y3:=hSw.y0;have y4:=hSw.y1;have y5:=hSw.z0;(try simp only[Act.put,sA,sB,sC]);go_simp;first|done|with_reducible rfl)
     try simp only[Act.put,sA,sB,sC]
     refine aq 29 ?_ (hy:=by intro wz hSw;have y0:=hSw.c0;have y1:=hSw.c2;have y2:=hSw.x0;have y3:=hSw.y0;have y4:=hSw.y1;have y5:=hSw.z0;(try simp only[Act.put,sA,sB,sC]);go_simp;first|done|with_reducible rfl)
     try simp only[Act.put,sA,sB,sC]
     refine aq 30 ?_ (hy:=by intro wz hSw;have y0:=hSw.c0;have y1:=hSw.c2;have y2:=hSw.x0;have y3:=hSw.y0;have y4:=hSw.y1;have y5:=hSw.z0;(try simp only[Act.put,sA,sB,sC]);go_simp;first|done|with_reducible rfl)
     try simp only[Act.put,sA,sB,sC]
     refine wpAnyH_done (by kernel_rfl) ?_ _;go_wp2;go_ret;exact⟨by rw[HE.out,j9];rfl,hHeld.k⟩
    have j9:(bn == p.cj)=false:=(by simp[aJ]);refine wp_region_held_drew (S:=fun W'=>pL w.heap.size w b g o p.cb p.cj bn false true d0 W') (by kernel_rfl) (rC.out) (fun hHeld=>?_);refine aq 0 ?_ (hy:=by intro wz hSw;have y0:=hSw.c0;have y1:=hSw.c2;have y2:=hSw.x0;have y3:=hSw.y0;have y4:=hSw.y1;have y5:=hSw.z0;(try simp only[Act.put,sA,sB,sC]);go_simp;first|done|with_reducible rfl)
    try simp only[Act.put,sA,sB,sC]
    refine aq 1 ?_ (hy:=by intro wz hSw;have y0:=hSw.c0;have y1:=hSw.c2;have y2:=hSw.x0;have y3:=hSw.y0;have y4:=hSw.y1;have y5:=hSw.z0;(try simp only[Act.put,sA,sB,sC]);go_simp;first|done|with_reducible rfl)
    try simp only[Act.put,sA,sB,sC]
    refine aq 2 ?_ (hy:=by intro wz hSw;have y0:=hSw.c0;have y1:=hSw.c2;have y2:=hSw.x0;have y3:=hSw.y0;have y4:=hSw.y1;have y5:=hSw.z0;(try simp only[Act.put,sA,sB,sC]);go_simp;first|done|with_reducible rfl)
    try simp only[Act.put,sA,sB,sC]
    refine aq 3 (v:=.bool true) ?_ (hy:=by intro wz hSw;have y0:=hSw.c0;have y1:=hSw.c2;have y2:=hSw.x0;have y3:=hSw.y0;have y4:=hSw.y1;have y5:=hSw.z0;(try simp only[Act.put,sA,sB,sC]);go_simp;first|done|with_reducible rfl)
    try simp only[Act.put,sA,sB,sC]
    refine aq 4 ?_ (hy:=by intro wz hSw;have y0:=hSw.c0;have y1:=hSw.c2;have y2:=hSw.x0;have y3:=hSw.y0;have y4:=hSw.y1;have y5:=hSw.z0;(try simp only[Act.put,sA,sB,sC]);go_simp;first|done|with_reducible rfl)
    try simp only[Act.put,sA,sB,sC]
    refine aq 5 ?_ (hy:=by intro wz hSw;have y0:=hSw.c0;have y1:=hSw.c2;have y2:=hSw.x0;have y3:=hSw.y0;have y4:=hSw.y1;have y5:=hSw.z0;(try simp only[Act.put,sA,sB,sC]);go_simp;first|done|with_reducible rfl)
    try simp only[Act.put,sA,sB,sC]
    refine aq 6 ?_ (hy:=by intro wz hSw;have y0:=hSw.c0;have y1:=hSw.c2;have y2:=hSw.x0;have y3:=hSw.y0;have y4:=hSw.y1;have y5:=hSw.z0;(try simp only[Act.put,sA,sB,sC]);go_simp;first|done|with_reducible rfl)
    try simp only[Act.put,sA,sB,sC]
    refine aq 7 ?_ (hy:=by intro wz hSw;have y0:=hSw.c0;have y1:=hSw.c2;have y2:=hSw.x0;have y3:=hSw.y0;have y4:=hSw.y1;have y5:=hSw.z0;(try simp only[Act.put,sA,sB,sC]);go_simp;first|done|with_reducible rfl)
    try simp only[Act.put,sA,sB,sC]
    refine aq 8 ?_ (hy:=by intro wz hSw;have y0:=hSw.c0;have y1:=hSw.c2;have y2:=hSw.x0;have y3:=hSw.y0;have y4:=hSw.y1;have y5:=hSw.z0;(try simp only[Act.put,sA,sB,sC]);go_simp;first|done|with_reducible rfl)
    try simp only[Act.put,sA,sB,sC]
    refine aq 9 ?_ (hy:=by intro wz hSw;have y0:=hSw.c0;have y1:=hSw.c2;have y2:=hSw.x0;have y3:=hSw.y0;have y4:=hSw.y1;have y5:=hSw.z0;(try simp only[Act.put,sA,sB,sC]);go_simp;first|done|with_reducible rfl)
    try simp only[Act.put,sA,sB,sC]
    refine aq 10 ?_ (hy:=by intro wz hSw;have y0:=hSw.c0;have y1:=hSw.c2;have y2:=hSw.x0;have y3:=hSw.y0;have y4:=hSw.y1;have y5:=hSw.z0;(try simp only[Act.put,sA,sB,sC]);go_simp;first|done|with_reducible rfl)
    try simp only[Act.put,sA,sB,sC]
    refine aq 11 ?_ (hy:=by intro wz hSw;have y0:=hSw.c0;have y1:=hSw.c2;have y2:=hSw.x0;have y3:=hSw.y0;have y4:=hSw.y1;have y5:=hSw.z0;(try simp only[Act.put,sA,sB,sC]);go_simp;first|done|with_reducible rfl)
    try simp only[Act.put,sA,sB,sC]
    refine aq 12 ?_ (hy:=by intro wz hSw;have y0:=hSw.c0;have y1:=hSw.c2;have y2:=hSw.x0;have y3:=hSw.y0;have y4:=hSw.y1;have y5:=hSw.z0;(try simp only[Act.put,sA,sB,sC]);go_simp;first|done|with_reducible rfl)
    try simp only[Act.put,sA,sB,sC]
    refine aq 13 ?_ (hy:=by intro wz hSw;have y0:=hSw.c0;have y1:=hSw.c2;have y2:=hSw.x0;have y3:=hSw.y0;have y4:=hSw.y1;have y5:=hSw.z0;(try simp only[Act.put,sA,sB,sC]);go_simp;first|done|with_reducible rfl)
    try simp only[Act.put,sA,sB,sC]
    refine aq 14 ?_ (hy:=by intro wz hSw;have y0:=hSw.c0;have y1:=hSw.c2;have y2:=hSw.x0;have y3:=hSw.y0;have y4:=hSw.y1;have y5:=hSw.z0;(try simp only[Act.put,sA,sB,sC]);go_simp;first|done|with_reducible rfl)
    try simp only[Act.put,sA,sB,sC]
    refine aq 15 ?_ (hy:=by intro wz hSw;have y0:=hSw.c0;have y1:=hSw.c2;have y2:=hSw.x0;have y3:=hSw.y0;have y4:=hSw.y1;have y5:=hSw.z0;(try simp only[Act.put,sA,sB,sC]);go_simp;first|done|with_reducible rfl)
    try simp only[Act.put,sA,sB,sC]
    refine aq 16 ?_ (hy:=by intro wz hSw;have y0:=hSw.c0;have y1:=hSw.c2;have y2:=hSw.x0;have y3:=hSw.y0;have y4:=hSw.y1;have y5:=hSw.z0;(try simp only[Act.put,sA,sB,sC]);go_simp;first|done|with_reducible rfl)
    try simp only[Act.put,sA,sB,sC]
    refine aq 17 ?_ (hy:=by intro wz hSw;have y0:=hSw.c0;have y1:=hSw.c2;have y2:=hSw.x0;have y3:=hSw.y0;have y4:=hSw.y1;have y5:=hSw.z0;(try simp only[Act.put,sA,sB,sC]);go_simp;first|done|with_reducible rfl)
    try simp only[Act.put,sA,sB,sC]
    refine aq 18 ?_ (hy:=by intro wz hSw;have y0:=hSw.c0;have y1:=hSw.c2;have y2:=hSw.x0;have y3:=hSw.y0;have y4:=hSw.y1;have y5:=hSw.z0;(try simp only[Act.put,sA,sB,sC]);go_simp;first|done|with_reducible rfl)
    try simp only[Act.put,sA,sB,sC]
    refine aQ 19 (fun K hK=>?_);go_simp;go_at_call 30;refine (yh _ _).mono ?_;rintro e w8 ⟨rfl,b8⟩;have aJ:=hHeld.aa b8;clear b8 hHeld
    try go_wp2_with fail
    refine hK.out _ _ aJ (fun hHeld=>?_);clear hK K aJ
    try simp only[Act.put,sA,sB,sC]
    refine aq 20 (v:=.bool false) ?_ (hy:=by intro wz hSw;have y0:=hSw.c0;have y1:=hSw.c2;have y2:=hSw.x0;have y3:=hSw.y0;have y4:=hSw.y1;have y5:=hSw.z0;(try simp only[Act.put,sA,sB,sC]);go_simp;first|done|with_reducible rfl)
    try simp only[Act.put,sA,sB,sC]
    refine aq 21 ?_ (hy:=by intro wz hSw;have y0:=hSw.c0;have y1:=hSw.c2;have y2:=hSw.x0;have y3:=hSw.y0;have y4:=hSw.y1;have y5:=hSw.z0;(try simp only[Act.put,sA,sB,sC]);go_simp;first|done|with_reducible rfl)
    try simp only[Act.put,sA,sB,sC]
    refine aq 22 ?_ (hy:=by intro wz hSw;have y0:=hSw.c0;have y1:=hSw.c2;have y2:=hSw.x0;have y3:=hSw.y0;have y4:=hSw.y1;have y5:=hSw.z0;(try simp only[Act.put,sA,sB,sC]);go_simp;first|done|with_reducible rfl)
    try simp only[Act.put,sA,sB,sC]
    refine fZ 23 ?_
    try simp only[Act.put,sA,sB,sC]
    refine fZ 24 ?_
    try simp only[Act.put,sA,sB,sC]
    refine fZ 25 ?_
    try simp only[Act.put,sA,sB,sC]
    refine fZ 26 ?_
    try simp only[Act.put,sA,sB,sC]
    refine fZ 27 ?_
    try simp only[Act.put,sA,sB,sC]
    refine fZ 28 ?_
    try simp only[Act.put,sA,sB,sC]
    refine aq 29 ?_ (hy:=by intro wz hSw;have y0:=hSw.c0;have y1:=hSw.c2;have y2:=hSw.x0;have y3:=hSw.y0;have y4:=hSw.y1;have y5:=hSw.z0;(try simp only[Act.put,sA,sB,sC]);go_simp;first|done|with_reducible rfl)
    try simp only[Act.put,sA,sB,sC]
    refine aq 30 ?_ (hy:=by intro wz hSw;have y0:=hSw.c0;have y1:=hSw.c2;have y2:=hSw.x0;have y3:=hSw.y0;have y4:=hSw.y1;have y5:=hSw.z0;(try simp only[Act.put,sA,sB,sC]);go_simp;first|done|with_reducible rfl)
    try simp only[Act.put,sA,sB,sC]
    refine wpAnyH_done (by kernel_rfl) ?_ _;go_wp2;go_ret;exact⟨by rw[HE.out,j9];rfl,hHeld.k⟩
 have HE:=hid (zjv h3);have X2:w2.drew.cell? ⟨w.heap.size,2,none⟩=some (.slice p.ab p.body.length p.cb):=c2;have j9:((p.body.length:Int) == 3)=false:=by simp;omega
 clear c0 c2 H HA h3;refine wp_region_held_drew (S:=fun W'=>W'=w2.drew) (by kernel_rfl) rfl (fun hHeld=>?_);generalize w2.drew=w9 at *;refine aq 0 ?_ (hy:=by intro wz hSw;subst hSw;(try simp only[Act.put,sA,sB,sC]);go_simp;first|done|with_reducible rfl)
 try simp only[Act.put,sA,sB,sC]
 refine aq 1 ?_ (hy:=by intro wz hSw;subst hSw;(try simp only[Act.put,sA,sB,sC]);go_simp;first|done|with_reducible rfl)
 try simp only[Act.put,sA,sB,sC]
 refine aq 2 ?_ (hy:=by intro wz hSw;subst hSw;(try simp only[Act.put,sA,sB,sC]);go_simp;first|done|with_reducible rfl)
 try simp only[Act.put,sA,sB,sC]
 refine aq 3 (v:=.bool false) ?_ (hy:=by intro wz hSw;subst hSw;(try simp only[Act.put,sA,sB,sC]);go_simp;first|done|with_reducible rfl)
 try simp only[Act.put,sA,sB,sC]
 refine aq 4 ?_ (hy:=by intro wz hSw;subst hSw;(try simp only[Act.put,sA,sB,sC]);go_simp;first|done|with_reducible rfl)
 try simp only[Act.put,sA,sB,sC]
 refine fZ 5 ?_
 try simp only[Act.put,sA,sB,sC]
 refine fZ 6 ?_
 try simp only[Act.put,sA,sB,sC]
 refine fZ 7 ?_
 try simp only[Act.put,sA,sB,sC]
 refine fZ 8 ?_
 try simp only[Act.put,sA,sB,sC]
 refine fZ 9 ?_
 try simp only[Act.put,sA,sB,sC]
 refine fZ 10 ?_
 try simp only[Act.put,sA,sB,sC]
 refine aq 11 ?_ (hy:=by intro wz hSw;subst hSw;(try simp only[Act.put,sA,sB,sC]);go_simp;first|done|with_reducible rfl)
 try simp only[Act.put,sA,sB,sC]
 refine aq 12 ?_ (hy:=by intro wz hSw;subst hSw;(try simp only[Act.put,sA,sB,sC]);go_simp;first|done|with_reducible rfl)
 try simp only[Act.put,sA,sB,sC]
 refine fZ 13 ?_
 try simp only[Act.put,sA,sB,sC]
 refine fZ 14 ?_
 try simp only[Act.put,sA,sB,sC]
 refine fZ 15 ?_
 try simp only[Act.put,sA,sB,sC]
 refine fZ 16 ?_
 try simp only[Act.put,sA,sB,sC]
 refine fZ 17 ?_
 try simp only[Act.put,sA,sB,sC]
 refine fZ 18 ?_
 try simp only[Act.put,sA,sB,sC]
 refine fZ 19 ?_
 try simp only[Act.put,sA,sB,sC]
 refine fZ 20 ?_
 try simp only[Act.put,sA,sB,sC]
 refine aq 21 ?_ (hy:=by intro wz hSw;subst hSw;(try simp only[Act.put,sA,sB,sC]);go_simp;first|done|with_reducible rfl)
 try simp only[Act.put,sA,sB,sC]
 refine aq 22 ?_ (hy:=by intro wz hSw;subst hSw;(try simp only[Act.put,sA,sB,sC]);go_simp;first|done|with_reducible rfl)
 try simp only[Act.put,sA,sB,sC]
 refine fZ 23 ?_
 try simp only[Act.put,sA,sB,sC]
 refine fZ 24 ?_
 try simp only[Act.put,sA,sB,sC]
 refine fZ 25 ?_
 try simp only[Act.put,sA,sB,sC]
 refine fZ 26 ?_
 try simp only[Act.put,sA,sB,sC]
 refine fZ 27 ?_
 try simp only[Act.put,sA,sB,sC]
 refine fZ 28 ?_
 try simp only[Act.put,sA,sB,sC]
 refine aq 29 ?_ (hy:=by intro wz hSw;subst hSw;(try simp only[Act.put,sA,sB,sC]);go_simp;first|done|with_reducible rfl)
 try simp only[Act.put,sA,sB,sC]
 refine aq 30 ?_ (hy:=by intro wz hSw;subst hSw;(try simp only[Act.put,sA,sB,sC]);go_simp;first|done|with_reducible rfl)
 try simp only[Act.put,sA,sB,sC]
 refine wpAnyH_done (by kernel_rfl) ?_ _;go_wp2;go_ret;exact⟨by rw[HE.out];rfl,BJ⟩
def qq(z:Int):Bool:=z == 0 || (z == 1 || (z == 2 || z == 3))
theorem zjp{z:Int}:(!qq z)=true↔(z<0\/3<z):=by
 unfold qq;simp only[Bool.not_eq_true',Bool.or_eq_false_iff,beq_eq_false_iff_ne];omega
theorem zia(z:Int)(w:World):Calls prog 75 #[.int .i64 z] w (fun e w'=>e=.returned (.bool (qq z))/\w'=w):=by
 have HZ:Hid (qq z=(z == 0 || (z == 1 || (z == 2 || z == 3)))):=rfl;go_enter func75,ntmps75;rcases h0:(z == 0) with _|_
 ·rcases h1:(z == 1) with _|_
  ·rcases h2:(z == 2) with _|_
   ·rw[h0,h1,h2] at HZ;go_wp2;go_ret;exact⟨by rw[HZ.out];rfl,rfl⟩
   rw[h0,h1,h2] at HZ;go_wp2;go_ret;exact⟨by rw[HZ.out];rfl,rfl⟩
  rw[h0,h1] at HZ;go_wp2;go_ret;exact⟨by rw[HZ.out];rfl,rfl⟩
 rw[h0] at HZ;go_wp2;go_ret;exact⟨by rw[HZ.out];rfl,rfl⟩
theorem Z1:∀(args:Array Value) (W:World),(callFunc 72 args).run prog W=.ok (.enter 72 args) W:=fun _ _=>by rfl
theorem zlp:∀(args:Array Value) (W:World),(callFunc 74 args).run prog W=.ok (.enter 74 args) W:=fun _ _=>by rfl
theorem znN(z:Int)(w:World):Calls prog 74 #[.int .i64 z] w (jM (z<0\/3<z) w):=by
 have HH:=hid (zia z w);have HQ:Hid (jM (z<0\/3<z) w (.returned (.bool (!qq z))) w):=⟨_,zjp,rfl,Below.refl _ _⟩
 go_enter func74,ntmps74;go_wp2_with (go_at_call 75;refine HH.out.mono ?_;rintro e w2 ⟨rfl,rfl⟩);go_ret;exact HQ.out
theorem znO(G:Gr)(y:Sy)(b:Nat)(w:World)(hA:G.At w)(hL:G.mK 9223372036854775807)(hG:ez w b G):
  Calls prog 72 #[.agg #[.bool y.s,.int .i64 y.n],.pointer (some ⟨b,0,none⟩)] w (jM (dT G y=false) w):=by
 have HH:Hid (∀W,Below w.heap.size w W->Calls prog 14 #[.agg #[.slice G.aR G.R.length G.cR,.slice G.aS G.S.length G.cS,.slice G.aP G.P.length G.cP,.slice G.aL G.L.length G.cL,.int .i64 G.st],.agg #[.bool y.s,.int .i64 y.n]] W (xU (dT G y) W)):=fun W k=>J5 G y W (hA.below k) hL
 have HG:=hid hG;clear hA hL hG;obtain⟨w2,bQ⟩:∃w2,(w.alloc (.cells #[.bool y.s,.int .i64 y.n] 38))=w2:=⟨_,rfl⟩
 have H:Hid (tG w2 w.heap.size y/\Below w.heap.size w w2):=by
  rw[<-bQ];have k0:=al w (.cells #[.bool y.s,.int .i64 y.n] 38);exact⟨(tG.new w y 38),k0⟩
 have ld:Hid (w2.heap.size=w.heap.size+1):=by show _=_;rw[<-bQ];simp
 go_enter func72,ntmps72;go_upto_region 1 with fail
 try rw[bQ]
 clear bQ;have HB:=hid H.out.2;have hg:=HG.out.below HB.out;have c0:=hg.c0;have c1:=hg.c1;have c2:=hg.c2;have c3:=hg.c3;have c4:=hg.c4;have s0:=H.out.1.c0;have s1:=H.out.1.c1;have EH:=hid (HH.out w2 HB.out);clear hg H ld HH;go_wp2_with (go_at_call 14;refine EH.out.mono ?_);rintro e w3 ⟨rfl,b3⟩;have ru:=hid (HB.out.trans (b3.mono HB.out.size));clear b3 c0 c1 c2 c3 c4 s0 s1 EH;have HQ:Hid (∀W,Below w.heap.size w W->jM (dT G y=false) w (.returned (.bool (!dT G y))) W):=fun W k=>⟨_,by cases dT G y <;> simp,rfl,k⟩
 go_wp2;go_ret;exact HQ.out _ ru.out
theorem zlq(fn:Nat)(Ap:∀(args:Array Value) (W:World),(callFunc fn args).run prog W=.ok (.enter fn args) W)(p:Sy->Prop)(n c b:Nat)(a:Option Addr)(l:List Sy)(hl:l.length=n)(hn:n<=9223372036854775807)(w:World)(h1:qw w a l)
  (hF:∀(x:Sy) W,Below w.heap.size w W->Calls prog fn #[.agg #[.bool x.s,.int .i64 x.n],.pointer (some ⟨b,0,none⟩)] W (jM (p x) W)):
  Calls prog 87 #[.slice a n c,.func (.func fn) #[] #[.pointer (some ⟨b,0,none⟩)]] w (fun e w'=>∃r:Int,e=.returned (.int .i64 r)/\(0<=r↔∃x∈l,p x)/\Below w.heap.size w w'):=by
 have H:=hid (Zz h1 (Zz hl hF));clear h1 hl hF;go_enter func87,ntmps87;go_wp2;go_loopw [5,8] (fun _ v wr=>∃k:Nat,v=.int .i64 k/\k<=n/\Hid (Below w.heap.size w wr/\∀j (h:j<l.length),j<k->¬p l[j])) (fun _ v _=>n-(intOf v).toNat)
 ·exact⟨0,rfl,zero_le _,Below.refl _ _,fun j _ h=>by omega⟩
 obtain⟨k,rfl,hk,HL⟩:=hrel;by_cases aw:k<n
 case neg=>
  obtain rfl:k=n:=by omega
  have HZ:Hid ((0:Int)<=-1↔∃x∈l,p x):=⟨fun h=>by omega,fun ⟨x,hx,hp⟩=>by
   obtain⟨j,hj,rfl⟩:=getElem_of_mem hx
   exact absurd hp (HL.out.2 j hj (by have:=H.out.2.1;omega))⟩
  go_wp2;go_ret;exact⟨_,rfl,HZ.out,HL.out.1⟩
 have hkl:k<l.length:=by rw[H.out.2.1];exact aw
 obtain⟨g1,o1,rfl,_,x0,x1⟩:=(H.out.1.below HL.out.1).get k hkl;have HF:=hid (H.out.2.2 l[k] wr HL.out.1);have HS:Hid (¬p l[k]->∀j (h:j<l.length),j<k+1->¬p l[j]):=fun h j hj hjk=>by
  by_cases e:j=k
  ·subst e;exact h
  exact HL.out.2 j hj (by omega)
 have HY:Hid (p l[k]->((0:Int)<=k↔∃x∈l,p x)):=fun h=>⟨fun _=>⟨_,getElem_mem hkl,h⟩,fun _=>by omega⟩
 have i1:(k:Int)<n:=by omega
 generalize l[k]=x at x0 x1 HF HS HY;clear hkl;go_wp2_with fail;refine HF.out.mono ?_;rintro e w2 ⟨y,hy,rfl,b2⟩;have H2:=hid (Zz (HL.out.1.trans (b2.mono HL.out.1.size)) hy);clear b2 hy HF x0 x1;rcases y with _|_
 ·have HZ:=hid (HS.out (fun h=>by have:=H2.out.2.2 h;cases this));go_wp2;go_roundw
  ·exact⟨k+1,by go_num,by omega,H2.out.1,HZ.out⟩
  simp[intOf];omega
 have HZ:=hid (HY.out (H2.out.2.1 rfl));go_wp2;go_ret;exact⟨_,rfl,HZ.out,H2.out.1⟩
theorem zlr(fn:Nat)(Ap:∀(args:Array Value) (W:World),(callFunc fn args).run prog W=.ok (.enter fn args) W)(p:Sy->Prop)(n c b:Nat)(a:Option Addr)(l:List Sy)(hl:l.length=n)(hn:n<=9223372036854775807)(w:World)(h1:qw w a l)
  (hF:∀(x:Sy) W,Below w.heap.size w W->Calls prog fn #[.agg #[.bool x.s,.int .i64 x.n],.pointer (some ⟨b,0,none⟩)] W (jM (p x) W)):
  Calls prog 71 #[.slice a n c,.func (.func fn) #[] #[.pointer (some ⟨b,0,none⟩)]] w (jM (∃x∈l,p x) w):=by
 have HI:=hid (zlq fn Ap p n c b a l hl hn w h1 hF);clear h1 hl hF Ap;go_enter func71,ntmps71;go_wp2_with (go_at_call 87;refine HI.out.mono ?_);rintro e w2 ⟨r,rfl,hr,b2⟩;have HZ:Hid (jM (∃x∈l,p x) w (.returned (.bool (decide (0<=r)))) w2):=⟨_,by rw[decide_eq_true_iff];exact hr,rfl,b2⟩
 clear hr b2 HI;go_wp2;go_ret;exact HZ.out
theorem zls(fn:Nat)(Ap:∀(args:Array Value) (W:World),(callFunc fn args).run prog W=.ok (.enter fn args) W)(p:Int->Prop)(n c:Nat)(a:Option Addr)(l:List Int)(hl:l.length=n)(hn:n<=9223372036854775807)(w:World)(h1:js w a l)
  (hF:∀(x:Int) W,Below w.heap.size w W->Calls prog fn #[.int .i64 x] W (jM (p x) W)):
  Calls prog 88 #[.slice a n c,.func (.func fn) #[] #[]] w (fun e w'=>∃r:Int,e=.returned (.int .i64 r)/\(0<=r↔∃x∈l,p x)/\Below w.heap.size w w'):=by
 have H:=hid (Zz h1 (Zz hl hF));clear h1 hl hF;go_enter func88,ntmps88;go_wp2;go_loopw [5,8] (fun _ v wr=>∃k:Nat,v=.int .i64 k/\k<=n/\Hid (Below w.heap.size w wr/\∀j (h:j<l.length),j<k->¬p l[j])) (fun _ v _=>n-(intOf v).toNat)
 ·exact⟨0,rfl,zero_le _,Below.refl _ _,fun j _ h=>by omega⟩
 obtain⟨k,rfl,hk,HL⟩:=hrel;by_cases aw:k<n
 case neg=>
  obtain rfl:k=n:=by omega
  have HZ:Hid ((0:Int)<=-1↔∃x∈l,p x):=⟨fun h=>by omega,fun ⟨x,hx,hp⟩=>by
   obtain⟨j,hj,rfl⟩:=getElem_of_mem hx
   exact absurd hp (HL.out.2 j hj (by have:=H.out.2.1;omega))⟩
  go_wp2;go_ret;exact⟨_,rfl,HZ.out,HL.out.1⟩
 have hkl:k<l.length:=by rw[H.out.2.1];exact aw
 obtain⟨g1,o1,rfl,_,x0⟩:=(H.out.1.below HL.out.1).get k hkl;have HF:=hid (H.out.2.2 l[k] wr HL.out.1);have HS:Hid (¬p l[k]->∀j (h:j<l.length),j<k+1->¬p l[j]):=fun h j hj hjk=>by
  by_cases e:j=k
  ·subst e;exact h
  exact HL.out.2 j hj (by omega)
 have HY:Hid (p l[k]->((0:Int)<=k↔∃x∈l,p x)):=fun h=>⟨fun _=>⟨_,getElem_mem hkl,h⟩,fun _=>by omega⟩
 have i1:(k:Int)<n:=by omega
 generalize l[k]=x at x0 HF HS HY;clear hkl;go_wp2_with fail;refine HF.out.mono ?_;rintro e w2 ⟨y,hy,rfl,b2⟩;have H2:=hid (Zz (HL.out.1.trans (b2.mono HL.out.1.size)) hy);clear b2 hy HF x0;rcases y with _|_
 ·have HZ:=hid (HS.out (fun h=>by have:=H2.out.2.2 h;cases this));go_wp2;go_roundw
  ·exact⟨k+1,by go_num,by omega,H2.out.1,HZ.out⟩
  simp[intOf];omega
 have HZ:=hid (HY.out (H2.out.2.1 rfl));go_wp2;go_ret;exact⟨_,rfl,HZ.out,H2.out.1⟩
theorem zlt(fn:Nat)(Ap:∀(args:Array Value) (W:World),(callFunc fn args).run prog W=.ok (.enter fn args) W)(p:Int->Prop)(n c:Nat)(a:Option Addr)(l:List Int)(hl:l.length=n)(hn:n<=9223372036854775807)(w:World)(h1:js w a l)
  (hF:∀(x:Int) W,Below w.heap.size w W->Calls prog fn #[.int .i64 x] W (jM (p x) W)):
  Calls prog 73 #[.slice a n c,.func (.func fn) #[] #[]] w (jM (∃x∈l,p x) w):=by
 have HI:=hid (zls fn Ap p n c a l hl hn w h1 hF);clear h1 hl hF Ap;go_enter func73,ntmps73;go_wp2_with (go_at_call 88;refine HI.out.mono ?_);rintro e w2 ⟨r,rfl,hr,b2⟩;have HZ:Hid (jM (∃x∈l,p x) w (.returned (.bool (decide (0<=r)))) w2):=⟨_,by rw[decide_eq_true_iff];exact hr,rfl,b2⟩
 clear hr b2 HI;go_wp2;go_ret;exact HZ.out
theorem zeB(G:Gr)(i:Nat)(hi:i<G.P.length)(w:World)(hA:G.At w)(hL:G.mK 1000000):
  Calls prog 55 #[G.val,.int .i64 i] w (MW (fY G i) w):=by
 show Calls prog 55 #[.agg #[.slice G.aR G.R.length G.cR,.slice G.aS G.S.length G.cS,.slice G.aP G.P.length G.cP,.slice G.aL G.L.length G.cL,.int .i64 G.st],.int .i64 i] w _;obtain⟨g,o,eP,eK⟩:=ZK hA (by omega);have Fc:=hid (Zz eK eP);obtain⟨x,hx⟩:∃x,du G i=x:=⟨_,rfl⟩
 have Hx:=hid hx;have A3:=hL.ps i hi;rw[<-A8 hi,hx] at A3;have Ee:=(eK w (Below.refl _ _) i hi).1;rw[hx] at Ee;have HA:=hid (Zz hA (Zz hL Ee));have LW:=hL.p;have z7:Hid (∀W,Below w.heap.size w W->Calls prog 20 #[.agg #[.int .i64 x.cj,.string x.cJ,.slice x.ab x.body.length x.cb,.bool x.par,.int .i64 x.prec,.slice x.ah x.hints.length x.ch]] W (xU (eY x) W)):=fun W k=>zh9 x W (Ee.below k) (by have:=A3.2.1;omega)
 have AO:Hid (∀(y:Sy) W,Below w.heap.size w W->Calls prog 14 #[.agg #[.slice G.aR G.R.length G.cR,.slice G.aS G.S.length G.cS,.slice G.aP G.P.length G.cP,.slice G.aL G.L.length G.cL,.int .i64 G.st],.agg #[.bool y.s,.int .i64 y.n]] W (xU (dT G y) W)):=fun y W k=>J5 G y W (hA.below k) (hL.mono (by omega))
 have Jz:Hid (∀W,Below w.heap.size w W->Calls prog 23 #[.agg #[.slice G.aR G.R.length G.cR,.slice G.aS G.S.length G.cS,.slice G.aP G.P.length G.cP,.slice G.aL G.L.length G.cL,.int .i64 G.st],.string x.cJ] W (zI G.P (fun y=>y.cJ=x.cJ) W)):=fun W k=>zju G x.cJ W (hA.below k) (by omega)
 have Sn:Hid (∀(b:Nat) W,Below w.heap.size w W->ez W b G->Calls prog 71 #[.slice x.ab x.body.length x.cb,.func (.func 72) #[] #[.pointer (some ⟨b,0,none⟩)]] W (jM (∃y∈x.body,dT G y=false) W)):=fun b W k hG=>zlr 72 Z1 (fun y=>dT G y=false) x.body.length x.cb b x.ab x.body rfl (by have:=A3.2.1;omega) W (Ee.below k).b (fun y W' k'=>znO G y b W' (hA.below (k.trans (k'.mono k.size))) (hL.mono (by omega)) (hG.below k'))
 have WN:Hid (∀W,Below w.heap.size w W->Calls prog 73 #[.slice x.ah x.hints.length x.ch,.func (.func 74) #[] #[]] W (jM (∃z∈x.hints,z<0\/3<z) W)):=fun W k=>zlt 74 zlp (fun z=>z<0\/3<z) x.hints.length x.ch x.ah x.hints rfl (by have:=A3.2.2;omega) W (Ee.below k).h (fun z W' _=>znN z W')
 have zy:∀(fn:Fn) (first cap:Array Value) (w:World),(Instr.makeFunc fn first cap).run prog w=.ok (.func fn first cap) w:=fun _ _ _ _=>rfl
 clear hA hL eK eP hx Ee;obtain⟨w2,bQ⟩:∃w2,(w.alloc (.cells #[.slice G.aR G.R.length G.cR,.slice G.aS G.S.length G.cS,.slice G.aP G.P.length G.cP,.slice G.aL G.L.length G.cL,.int .i64 G.st] 27))=w2:=⟨_,rfl⟩
 have H:Hid (ez w2 w.heap.size G/\Below w.heap.size w w2):=by
  rw[<-bQ];have k0:=al w (.cells #[.slice G.aR G.R.length G.cR,.slice G.aS G.S.length G.cS,.slice G.aP G.P.length G.cP,.slice G.aL G.L.length G.cL,.int .i64 G.st] 27);exact⟨(ez.new w G 27),k0⟩
 have ld:Hid (w2.heap.size=w.heap.size+1):=by show _=_;rw[<-bQ];simp
 go_enter func55,ntmps55;go_upto_region 1 with fail
 try rw[bQ]
 clear bQ;obtain⟨b,hb⟩:∃b,w.heap.size=b:=⟨_,rfl⟩
 have HX:Hid (jC w b G w2):=by rw[<-hb];exact H.out
 have da:w2.heap.size=b+1:=by rw[<-hb];exact ld.out
 rw[hb];clear hb H ld;obtain⟨n,hn⟩:∃n,G.P.length=n:=⟨_,rfl⟩
 have HN:=hid hn;have c2:=HX.out.1.c2;rw[hn,Fc.out.2] at c2;have i0:(i:Int)<n:=by omega
 obtain⟨_,x0,x1,x2,x3,x4,x5⟩:=Fc.out.1 w2 HX.out.2 i hi;rw[Hx.out] at x0 x1 x2 x3 x4 x5;rw[hn] at LW;clear hn;obtain⟨w3,Bu⟩:∃w3,w2.alloc (.cells #[.int .i64 x.cj,.string x.cJ,.slice x.ab x.body.length x.cb,.bool x.par,.int .i64 x.prec,.slice x.ah x.hints.length x.ch] 47)=w3:=⟨_,rfl⟩
 have HY:Hid (GM w b G x w3):=by
  have k1:=al w2 (.cells #[.int .i64 x.cj,.string x.cJ,.slice x.ab x.body.length x.cb,.bool x.par,.int .i64 x.prec,.slice x.ah x.hints.length x.ch] 47);have p1:=tO.new w2 x 47;rw[Bu] at k1 p1;rw[da] at p1;exact⟨HX.out.1.below k1,p1,HX.out.2.trans (k1.mono HX.out.2.size)⟩
 go_upto_region 2 with fail
 try rw[Bu]
 try rw[da]
 clear Bu x0 x1 x2 x3 x4 x5 c2 da HX;have sW:Hid (∀z:Int,fY G i=z->∀W,Below w.heap.size w W->MW (fY G i) w (.returned (.int .i64 z)) W):=fun z h W k=>⟨by rw[h],k⟩
 have kd:Below w3.heap.size w3 w3.drew:=⟨rfl,rfl,rfl,le_refl _,fun _ _=>rfl⟩
 have QO:=hid (HY.out.aa kd);clear kd HY;generalize sd:w3.drew=w4 at QO;refine wp_region_held_drew (S:=fun W'=>GM w b G x W') (by kernel_rfl) (by rw[sd];exact QO.out) (fun hHeld=>?_);rw[sd] at hHeld⊢;clear sd QO;obtain⟨bo,jE⟩:∃bo,dT G ⟨true,x.cj⟩=bo:=⟨_,rfl⟩
 have I1:=hid jE;have Fx:Hid (∀W,Below w.heap.size w W->Calls prog 14 #[.agg #[.slice G.aR G.R.length G.cR,.slice G.aS G.S.length G.cS,.slice G.aP G.P.length G.cP,.slice G.aL G.L.length G.cL,.int .i64 G.st],.agg #[.bool true,.int .i64 x.cj]] W (xU bo W)):=by rw[<-jE];exact AO.out ⟨true,x.cj⟩
 clear jE;refine aq 0 (v:=.agg #[.slice G.aR G.R.length G.cR,.slice G.aS G.S.length G.cS,.slice G.aP G.P.length G.cP,.slice G.aL G.L.length G.cL,.int .i64 G.st]) ?_ (hy:=by intro wz hSw;have y0:=hSw.1.c0;have y1:=hSw.1.c1;have y2:=hSw.1.c2;have y3:=hSw.1.c3;have y4:=hSw.1.c4;have z0:=hSw.2.1.c0;(try simp only[Act.put,sA,sB,sC]);go_simp;first|done|with_reducible rfl)
 try simp only[Act.put,sA,sB,sC]
 refine aq 1 ?_ (hy:=by intro wz hSw;have y0:=hSw.1.c0;have y1:=hSw.1.c1;have y2:=hSw.1.c2;have y3:=hSw.1.c3;have y4:=hSw.1.c4;have z0:=hSw.2.1.c0;(try simp only[Act.put,sA,sB,sC]);go_simp;first|done|with_reducible rfl)
 try simp only[Act.put,sA,sB,sC]
 refine aq 2 ?_ (hy:=by intro wz hSw;have y0:=hSw.1.c0;have y1:=hSw.1.c1;have y2:=hSw.1.c2;have y3:=hSw.1.c3;have y4:=hSw.1.c4;have z0:=hSw.2.1.c0;(try simp only[Act.put,sA,sB,sC]);go_simp;first|done|with_reducible rfl)
 try simp only[Act.put,sA,sB,sC]
 refine aQ 3 (fun K hK=>?_);go_simp;go_at_call 30;refine (yh _ _).mono ?_;rintro e w8 ⟨rfl,b8⟩;have aJ:=hHeld.aa b8;clear b8 hHeld
 try go_wp2_with fail
 refine hK.out _ _ aJ (fun hHeld=>?_);clear hK K aJ
 try simp only[Act.put,sA,sB,sC]
 refine aQ 4 (fun K hK=>?_);go_simp;go_at_call 14;refine (Fx.out _ hHeld.2.2).mono ?_;rintro e w8 ⟨rfl,b8⟩;have aJ:=hHeld.aa b8;clear b8 hHeld
 try go_wp2_with fail
 refine hK.out _ _ aJ (fun hHeld=>?_);clear hK K aJ
 try simp only[Act.put,sA,sB,sC]
 refine aq 5 ?_ (hy:=by intro wz hSw;have y0:=hSw.1.c0;have y1:=hSw.1.c1;have y2:=hSw.1.c2;have y3:=hSw.1.c3;have y4:=hSw.1.c4;have z0:=hSw.2.1.c0;(try simp only[Act.put,sA,sB,sC]);go_simp;first|done|with_reducible rfl)
 try simp only[Act.put,sA,sB,sC]
 refine aq 6 ?_ (hy:=by intro wz hSw;have y0:=hSw.1.c0;have y1:=hSw.1.c1;have y2:=hSw.1.c2;have y3:=hSw.1.c3;have y4:=hSw.1.c4;have z0:=hSw.2.1.c0;(try simp only[Act.put,sA,sB,sC]);go_simp;first|done|with_reducible rfl)
 try simp only[Act.put,sA,sB,sC]
 refine wpAnyH_done (by kernel_rfl) ?_ _;have kn:Hid (bo=true↔¬(x.cj<0\/(G.S.length:Int)<=x.cj)):=by
  show _↔_;rw[<-I1.out,show dT G ⟨true,x.cj⟩=tT G x.cj from rfl,Ns];simp only[Bool.and_eq_true,decide_eq_true_eq];omega
 have qh:=hid hHeld;clear hHeld Fx I1;cases bo with
 | false=>
  have HZ:=hid (sW.out 11 (Ty Hx.out (Classical.byContradiction fun h=>by have:=kn.out.2 h;cases this)) _ qh.out.2.2);go_wp2;go_ret;exact HZ.out
 | true=>
 have H1:=hid (kn.out.1 rfl);have BD:=A3.2.1;have hph:=A3.2.2;have ta:=A3.1;clear A3;generalize hW:w8=W4 at qh⊢;clear hW;have p1:=qh.out.2.1.c1;have Cc:=hid (MT x.cJ W4 (by unfold maxLen;omega));clear kn;go_upto_region 4 with fail;cases hT:bD x.cJ with
 | false=>
  rw[hT] at Cc;have HZ:=hid (sW.out 8 (U4 Hx.out H1.out hT) _ qh.out.2.2);clear hT;go_wp2_with (go_at_call 70;refine Cc.out.mono ?_;rintro e w5 ⟨rfl,rfl⟩);go_ret;exact HZ.out
 | true=>
 rw[hT] at Cc;have HT:=hid hT;clear hT;go_upto_region 6 with (go_at_call 70;refine Cc.out.mono ?_;rintro e w5 ⟨rfl,rfl⟩);clear Cc p1;have p2:=qh.out.2.1.c2;have p5:=qh.out.2.1.c5;by_cases FZ:12<x.body.length
 ·have i12:(12:Int)<(x.body.length:Int):=by omega
  have HZ:=hid (sW.out 6 (YL Hx.out H1.out HT.out FZ) _ qh.out.2.2);clear FZ;go_wp2;go_ret;exact HZ.out
 have i12:¬(12:Int)<(x.body.length:Int):=by omega
 obtain⟨bh,AB⟩:∃bh,decide (x.hints.length≠x.body.length-1)=bh:=⟨_,rfl⟩
 go_upto_region 8 with fail
 go_cut [28] from 29 to 37 (fun v wx=>v=.bool bh/\wx=W4)
 case first=>
  by_cases hc:0<x.body.length
  ·have j3:(0:Int)<=(x.body.length:Int)-1:=(by omega);have j8:max ((x.body.length:Int)-1) 0=(x.body.length:Int)-1:=(by omega);have j4:((x.hints.length:Int) != (x.body.length:Int)-1)=bh:=by
    rw[<-AB,Bool.eq_iff_iff];simp only[bne_iff_ne,ne_eq,decide_eq_true_eq];omega
   clear AB;go_wp2_with fail
   go_meet
   exact⟨rfl,rfl⟩
  have j3:(x.body.length:Int)-1<0:=by omega
  have j8:max ((x.body.length:Int)-1) 0=0:=by omega
  have j4:((x.hints.length:Int) != 0)=bh:=by
   rw[<-AB,Bool.eq_iff_iff];simp only[bne_iff_ne,ne_eq,decide_eq_true_eq];omega
  clear AB;go_wp2_with fail
  go_meet
  exact⟨rfl,rfl⟩
 case rest=>
 obtain⟨rfl,rfl⟩:=hcut;cases bh with
 | true=>
  have HZ:=hid (sW.out 1 (Uy Hx.out H1.out HT.out FZ (by simpa using AB)) _ qh.out.2.2);clear AB;go_wp2;go_ret;exact HZ.out
 | false=>
 have rA:=hid (IN Hx.out H1.out HT.out FZ (by simpa using AB));clear AB FZ i12 p2 p5;have c0:=qh.out.1.c0;have c1:=qh.out.1.c1;have c2:=qh.out.1.c2;have c3:=qh.out.1.c3;have c4:=qh.out.1.c4;have p1:=qh.out.2.1.c1;have IM:=hid (Jz.out _ qh.out.2.2);go_wp2_with (go_at_call 23;refine IM.out.mono ?_;rintro e w5 ⟨r,rfl,hr,b5⟩;refine Hid.out ?_);refine hid ?_;have uW:=hid (qh.out.aa b5);have HQ:Hid (r<(i:Int)↔∃k,k<i/\(du G k).cJ=x.cJ):=by
  show _↔_;rw[zo0 hr hi (by rw[<-A8 hi,Hx.out])];constructor
  ·rintro⟨k,hk,h⟩;exact⟨k,hk,by rw[A8 (by omega)];exact h⟩
  rintro⟨k,hk,h⟩;exact⟨k,hk,by rw[A8 (by omega)] at h;exact h⟩
 clear c0 c1 c2 c3 c4 p1 IM b5 hr Jz qh;by_cases NA:r<(i:Int)
 ·have HZ:=hid (sW.out 9 (by rw[rA.out,if_pos (HQ.out.1 NA)]) _ uW.out.2.2);clear HQ;go_wp2;go_ret;exact HZ.out
 have NK:Hid (fY G i=(open Classical in if (∃y∈x.body,dT G y=false) then 11 else if (∃z∈x.hints,z<0\/3<z) then 1
     else if x.prec≠-1/\ie G x.prec=false then 11 else if x.par=true/\eY x=false then 15 else 0)):=by
  show _=_
  rw[rA.out,if_neg (fun h=>NA (HQ.out.2 h))]
 clear HQ rA;have p2:=uW.out.2.1.c2;have pY:=hid (Sn.out b _ uW.out.2.2 uW.out.1);go_upto_region 12 with fail;go_wp2_with (go_at_call 71;refine pY.out.mono ?_;rintro e w6 ⟨bo,jE,rfl,b6⟩;refine Hid.out ?_);refine hid ?_;have Bg:=hid (uW.out.aa b6);clear p2 pY b6 Sn uW NA;cases bo with
 | true=>
  have HZ:=hid (sW.out 11 (by rw[NK.out,if_pos (jE.1 rfl)]) _ Bg.out.2.2);clear jE;go_wp2;go_ret;exact HZ.out
 | false=>
 have yj:Hid (fY G i=(open Classical in if (∃z∈x.hints,z<0\/3<z) then 1
     else if x.prec≠-1/\ie G x.prec=false then 11 else if x.par=true/\eY x=false then 15 else 0)):=by
  show _=_
  rw[NK.out,if_neg (fun h=>by have:=jE.2 h;cases this)]
 clear jE NK;have p5:=Bg.out.2.1.c5;have Wd:=hid (WN.out _ Bg.out.2.2);go_wp2_with (go_at_call 73;refine Wd.out.mono ?_;rintro e w7 ⟨bo,jE,rfl,b7⟩;refine Hid.out ?_);refine hid ?_;have kI:=hid (Bg.out.aa b7);clear p5 Wd b7 WN Bg;cases bo with
 | true=>
  have HZ:=hid (sW.out 1 (by rw[yj.out,if_pos (jE.1 rfl)]) _ kI.out.2.2);clear jE;go_wp2;go_ret;exact HZ.out
 | false=>
 have GL:Hid (fY G i=(open Classical in if x.prec≠-1/\ie G x.prec=false then 11 else if x.par=true/\eY x=false then 15 else 0)):=by
  show _=_;rw[yj.out,if_neg (fun h=>by have:=jE.2 h;cases this)]
 clear jE yj;have c0:=kI.out.1.c0;have c1:=kI.out.1.c1;have c2:=kI.out.1.c2;have c3:=kI.out.1.c3;have c4:=kI.out.1.c4;have p3:=kI.out.2.1.c3;have p4:=kI.out.2.1.c4;obtain⟨pb,B6⟩:∃pb:Bool,decide (x.prec≠-1/\ie G x.prec=false)=pb:=⟨_,rfl⟩
 obtain⟨hb,tE⟩:∃hb,ie G x.prec=hb:=⟨_,rfl⟩
 have CO:Hid (Calls prog 14 #[.agg #[.slice G.aR G.R.length G.cR,.slice G.aS G.S.length G.cS,.slice G.aP G.P.length G.cP,.slice G.aL G.L.length G.cL,.int .i64 G.st],.agg #[.bool false,.int .i64 x.prec]] w7 (xU hb w7)):=by rw[<-tE];exact AO.out ⟨false,x.prec⟩ w7 kI.out.2.2
 by_cases Bf:x.prec=-1
 case neg=>
  have j1:(x.prec != -1)=true:=by simp[Bf]
  go_wp2_with (go_at_call 14;refine CO.out.mono ?_;rintro e w8 ⟨rfl,b8⟩;refine Hid.out ?_)
  refine hid ?_
  have tM:=hid (kI.out.aa b8)
  clear c0 c1 c2 c3 c4 p3 p4 b8 CO
  cases hb with
  | false=>
   have HZ:=hid (sW.out 11 (by rw[GL.out,if_pos ⟨Bf,tE⟩]) _ tM.out.2.2);clear tE B6;go_wp2;go_ret;exact HZ.out
  | true=>
  have xX:Hid (fY G i=(open Classical in if x.par=true/\eY x=false then 15 else 0)):=by
   show _=_;rw[GL.out,if_neg (fun h=>by rw[tE] at h;cases h.2)]
  clear tE B6 GL
  have q0:=tM.out.2.1.c0
  have q1:=tM.out.2.1.c1
  have q2:=tM.out.2.1.c2
  have q3:=tM.out.2.1.c3
  have q4:=tM.out.2.1.c4
  have q5:=tM.out.2.1.c5
  by_cases rH:x.par=true
  case neg=>
   have HZ:=hid (sW.out 0 (by rw[xX.out,if_neg (fun h=>rH h.1)]) _ tM.out.2.2);have j2:x.par=false:=(by simpa using rH);rw[j2] at q3;clear rH;go_wp2;go_ret;exact HZ.out
  rw[rH] at q3
  obtain⟨eb,vX⟩:∃eb,eY x=eb:=⟨_,rfl⟩
  have Dt:=hid (z7.out _ tM.out.2.2)
  rw[rH,vX] at Dt
  have R8:=hid rH
  clear rH
  go_wp2_with (go_at_call 20;refine Dt.out.mono ?_;rintro e w9 ⟨rfl,b9⟩;refine Hid.out ?_)
  refine hid ?_
  have IC:=hid (tM.out.aa b9)
  clear q0 q1 q2 q3 q4 q5 b9 Dt
  cases eb with
  | false=>
   have HZ:=hid (sW.out 15 (by rw[xX.out,if_pos ⟨R8.out,vX⟩]) _ IC.out.2.2);clear vX;go_wp2;go_ret;exact HZ.out
  | true=>
   have HZ:=hid (sW.out 0 (by rw[xX.out,if_neg (fun h=>by rw[vX] at h;cases h.2)]) _ IC.out.2.2);clear vX;go_wp2;go_ret;exact HZ.out
 have j1:(x.prec != -1)=false:=by simp[Bf]
 have xX:Hid (fY G i=(open Classical in if x.par=true/\eY x=false then 15 else 0)):=by
  show _=_;rw[GL.out,if_neg (fun h=>h.1 Bf)]
 have Hpr:=hid Bf;clear Bf tE B6 GL c0 c1 c2 c3 c4 CO;have q0:=kI.out.2.1.c0;have q1:=kI.out.2.1.c1;have q2:=kI.out.2.1.c2;have q3:=kI.out.2.1.c3;have q4:=kI.out.2.1.c4;have q5:=kI.out.2.1.c5;by_cases rH:x.par=true
 case neg=>
  have HZ:=hid (sW.out 0 (by rw[xX.out,if_neg (fun h=>rH h.1)]) _ kI.out.2.2);have j2:x.par=false:=by simpa using rH
  rw[j2] at q3;clear rH;go_wp2;go_ret;exact HZ.out
 rw[rH] at q3;obtain⟨eb,vX⟩:∃eb,eY x=eb:=⟨_,rfl⟩
 have Dt:=hid (z7.out _ kI.out.2.2);rw[rH,vX] at Dt;have R8:=hid rH;clear rH;go_wp2_with (go_at_call 20;refine Dt.out.mono ?_;rintro e w9 ⟨rfl,b9⟩;refine Hid.out ?_);refine hid ?_;have IC:=hid (kI.out.aa b9);clear q0 q1 q2 q3 q4 q5 b9 Dt;cases eb with
 | false=>
  have HZ:=hid (sW.out 15 (by rw[xX.out,if_pos ⟨R8.out,vX⟩]) _ IC.out.2.2);clear vX;go_wp2;go_ret;exact HZ.out
 | true=>
  have HZ:=hid (sW.out 0 (by rw[xX.out,if_neg (fun h=>by rw[vX] at h;cases h.2)]) _ IC.out.2.2);clear vX;go_wp2;go_ret;exact HZ.out
def zg(l:List Int):List Value:=l.map fun z=>.int .i64 z
theorem zoX{w:World}{a:Option Addr}{c:Nat}{l:List Int}(h:w.ownsRow B 3 1 (.slice a n c) n (zg l))(hl:l.length=n):js w a l:=by
 intro h0;obtain⟨g,e,_,hg,hc⟩:=eR h (by omega);refine⟨g,0,e,hg,fun j hj=>?_⟩;rw[Nat.zero_add,(hc j (by omega)).1];simp[zg,hj]
def zoY(l:List ByteArray)(s:ByteArray)(w:World)(e:Ending)(w':World):Prop:=e=.returned (.int .i64 (yL l s))/\w'=w
theorem zib(l:List ByteArray)(s:ByteArray)(n c:Nat)(a:Option Addr)(hn:l.length=n)(Rm:n<=1000000)(w:World)(h1:lp w a l):
  Calls prog 42 #[.slice a n c,.string s] w (zoY l s w):=by
 have H:=hid (Zz h1 hn);clear h1 hn;go_enter func42,ntmps42;go_wp2;go_loopw [5,8] (fun _ v wr=>∃k:Nat,v=.int .i64 k/\k<=n/\wr=w/\Hid (∀j (h:j<l.length),j<k->l[j]≠s)) (fun _ v _=>n-(intOf v).toNat)
 ·exact⟨0,rfl,zero_le _,rfl,fun j _ h=>absurd h (by omega)⟩
 obtain⟨k,rfl,hk,rfl,HX⟩:=hrel;by_cases aw:k<n
 ·have jU:k<l.length:=by rw[H.out.2];exact aw
  obtain⟨g1,o1,rfl,_,q1⟩:=H.out.1 (by omega);have x1:=q1 k jU;have HN:Hid ((l[k]≠s->∀j (h:j<l.length),j<k+1->l[j]≠s)/\(l[k]=s->yL l s=(k:Int))):=by
   refine⟨fun h j hj h3=>?_,fun h=>zoS jU h HX.out⟩;by_cases e:j=k
   ·subst e;exact h
   exact HX.out j hj (by omega)
  have i2:(k:Int)<n:=by omega
  clear q1;generalize l[k]=u at x1 HN;have AM:=VC s u;rcases hE:(s.toList == u.toList) with _|_
  ·rw[hE] at AM;have hne:u≠s:=(fun e=>by simp[e] at AM);have HZ:=hid (HN.out.1 hne)
   try clear hne
   clear AM HN jU;go_wp2;go_roundw
   ·exact⟨k+1,by go_num,by omega,by first|trivial|rfl,HZ.out⟩
   simp[intOf];omega
  rw[hE] at AM;have Ut:s=u:=by simpa using AM
  have HZ:=hid (HN.out.2 Ut.symm)
  try clear Ut
  try clear hne
  clear AM HN jU;go_wp2;go_ret;exact⟨by rw[HZ.out];rfl,rfl⟩
 obtain rfl:k=n:=by omega
 have HZ:Hid (yL l s=-1):=zoT (fun j hj=>HX.out j hj (by rw[<-H.out.2];exact hj));go_wp2;go_ret;exact⟨by rw[HZ.out];rfl,rfl⟩
theorem zoZ{s:ByteArray}(hr:∀j (h:j<G.R.length),G.R[j].nm≠s):(yL G.S s=-1/\qH G s=(⟨false,0⟩,false))\/∃k:Nat,yL G.S s=(k:Int)/\qH G s=(⟨true,(k:Int)⟩,true):=by
 have h1:=Kc (s:=s) (l:=G.R.map Ru.nm) (fun j hj=>by simp at hj⊢;exact hr j hj);have e1:qH G s=if pC s G.S<G.S.length then (⟨true,((pC s G.S:Nat):Int)⟩,true) else (⟨false,0⟩,false):=by
  unfold qH;rw[h1,List.length_map,if_neg (by omega)]
 rw[e1];unfold yL;by_cases h:pC s G.S<G.S.length
 ·right;exact⟨_,if_pos h,if_pos h⟩
 left;exact⟨if_neg h,if_neg h⟩
def EO(w:World)(b:Nat)(G:Gr)(wr:World):Prop:=ez wr b G/\wr.heap[b+1]?=some (.cells #[.bool false,.int .i64 0] 38 (0,0))/\Below w.heap.size w wr/\b+1<wr.heap.size/\w.heap.size<=b
theorem EO.aa{w:World}{b:Nat}(h:EO w b G wr)(k:Below wr.heap.size wr w'):EO w b G w':=⟨h.1.below k,(k.block _ h.2.2.2.1).trans h.2.1,h.2.2.1.trans (k.mono h.2.2.1.size),lt_of_lt_of_le h.2.2.2.1 k.size,h.2.2.2.2⟩
theorem EO.put{w:World}{b:Nat}(h:EO w b G wr)(d0 d1:Value):Below w.heap.size w ((wr.setCell ⟨b+1,0,none⟩ d0).setCell ⟨b+1,1,none⟩ d1):=(h.2.2.1.setCell (p:=⟨b+1,0,none⟩) (by have:=h.2.2.2.2;show w.heap.size<=b+1;omega) d0).setCell (p:=⟨b+1,1,none⟩) (by have:=h.2.2.2.2;show w.heap.size<=b+1;omega) d1
theorem zic(G:Gr)(s:ByteArray)(w:World)(hA:G.At w)(hL:G.mK 1000000):
  Calls prog 12 #[G.val,.string s] w (Ql G s w):=by
 show Calls prog 12 #[.agg #[.slice G.aR G.R.length G.cR,.slice G.aS G.S.length G.cS,.slice G.aP G.P.length G.cP,.slice G.aL G.L.length G.cL,.int .i64 G.st],.string s] w _;have HA:=hid (Zz hA hL);clear hA hL;obtain⟨w2,bQ⟩:∃w2,((w.alloc (.cells #[.slice G.aR G.R.length G.cR,.slice G.aS G.S.length G.cS,.slice G.aP G.P.length G.cP,.slice G.aL G.L.length G.cL,.int .i64 G.st] 27)).alloc (.cells #[.bool false,.int .i64 0] 38))=w2:=⟨_,rfl⟩
 have H:Hid (ez w2 w.heap.size G/\w2.heap[(w.heap.size+1)]?=some (.cells #[.bool false,.int .i64 0] 38 (0,0))/\Below w.heap.size w w2):=by
  rw[<-bQ];have k0:=al w (.cells #[.slice G.aR G.R.length G.cR,.slice G.aS G.S.length G.cS,.slice G.aP G.P.length G.cP,.slice G.aL G.L.length G.cL,.int .i64 G.st] 27);have k1:=al (w.alloc (.cells #[.slice G.aR G.R.length G.cR,.slice G.aS G.S.length G.cS,.slice G.aP G.P.length G.cP,.slice G.aL G.L.length G.cL,.int .i64 G.st] 27)) (.cells #[.bool false,.int .i64 0] 38);exact⟨((ez.new w G 27).below k1),(by have h9:=(heap_alloc_new (w.alloc (.cells #[.slice G.aR G.R.length G.cR,.slice G.aS G.S.length G.cS,.slice G.aP G.P.length G.cP,.slice G.aL G.L.length G.cL,.int .i64 G.st] 27)) (.cells #[.bool false,.int .i64 0] 38));simpa using h9),(k0.trans (k1.mono k0.size))⟩
 have ld:Hid (w2.heap.size=w.heap.size+2):=by show _=_;rw[<-bQ];simp
 go_enter func12,ntmps12;go_upto_region 1 with fail
 try rw[bQ]
 clear bQ;obtain⟨b,hb⟩:∃b,w.heap.size=b:=⟨_,rfl⟩
 have HX:Hid (EO w b G w2):=by
  have h8:=ld.out;rw[<-hb];exact⟨H.out.1,H.out.2.1,H.out.2.2,by omega,le_refl _⟩
 rw[hb];clear hb H ld;have c0:=HX.out.1.c0;have HF:=hid (Wp G.R.length G.cR G.aR G.R s rfl (by have:=HA.out.2.r;omega) w2 (HA.out.1.below HX.out.2.2.1).r);go_wp2_with (go_at_call 41;refine HF.out.mono ?_);rintro e w3 ⟨r,rfl,hr,b3⟩;have ff:=hid (HX.out.aa b3);clear HX b3 HF c0;rcases hr with ⟨rfl,hn⟩|⟨i,hi,rfl,hs,hn⟩
 ·have HI:=hid (zib G.S s G.S.length G.cS G.aS rfl HA.out.2.s w3 (HA.out.1.below ff.out.2.2.1).s);have HQ:=hid (zoZ hn);have c1:=ff.out.1.c1;clear hn;go_wp2_with (go_at_call 42;refine HI.out.mono ?_);rintro e w4 ⟨rfl,rfl⟩;clear HI;rcases HQ.out with ⟨h1,h2⟩|⟨k,h1,h2⟩
  ·rw[h1];have HZ:=hid h2;have f0:w4.frozen? ⟨b+1,0,none⟩=false:=frozen_of_row w4 _ 0 _ _ ff.out.2.1;have f1:w4.frozen? ⟨b+1,1,none⟩=false:=frozen_of_row w4 _ 1 _ _ ff.out.2.1;have t0:w4.cell? ⟨b+1,0,none⟩=some (.bool false):=(by rw[cell_of_row w4 _ 0 _ _ _ ff.out.2.1];rfl);have t1:w4.cell? ⟨b+1,1,none⟩=some (.int .i64 0):=(by rw[cell_of_row w4 _ 1 _ _ _ ff.out.2.1];rfl);obtain⟨q0,q1⟩:=PT ff.out.2.1 (.bool false) (.int .i64 0);clear h1 h2 HQ c1;go_wp2_with fail;exact bodyPost_ret (v:=.tuple #[.agg #[.bool false,.int .i64 0],.bool false]) (by simp[results,results12,go_sem,q0,q1]) rfl ⟨by rw[HZ.out];rfl,ff.out.put _ _⟩
  rw[h1];have HZ:=hid h2;have HO:=hid (yh (k:Int) w4);have i9:(0:Int)<=k:=by omega
  clear h1 h2 HQ c1;go_wp2_with (go_at_call 30;refine HO.out.mono ?_;rintro e w5 ⟨rfl,b5⟩;refine Hid.out ?_);refine hid ?_;have kA:=hid (ff.out.aa b5);clear b5 HO;have f0:w5.frozen? ⟨b+1,0,none⟩=false:=frozen_of_row w5 _ 0 _ _ kA.out.2.1;have f1:w5.frozen? ⟨b+1,1,none⟩=false:=frozen_of_row w5 _ 1 _ _ kA.out.2.1;have t0:w5.cell? ⟨b+1,0,none⟩=some (.bool false):=by rw[cell_of_row w5 _ 0 _ _ _ kA.out.2.1];rfl
  have t1:w5.cell? ⟨b+1,1,none⟩=some (.int .i64 0):=by rw[cell_of_row w5 _ 1 _ _ _ kA.out.2.1];rfl
  obtain⟨q0,q1⟩:=PT kA.out.2.1 (.bool true) (.int .i64 k);go_wp2_with fail;exact bodyPost_ret (v:=.tuple #[.agg #[.bool true,.int .i64 k],.bool true]) (by simp[results,results12,go_sem,q0,q1]) rfl ⟨by rw[HZ.out];rfl,kA.out.put _ _⟩
 have HZ:=hid (zpN hi hs hn);have i9:(0:Int)<=i:=by omega
 have f0:w3.frozen? ⟨b+1,0,none⟩=false:=frozen_of_row w3 _ 0 _ _ ff.out.2.1;have f1:w3.frozen? ⟨b+1,1,none⟩=false:=frozen_of_row w3 _ 1 _ _ ff.out.2.1;have t0:w3.cell? ⟨b+1,0,none⟩=some (.bool false):=by rw[cell_of_row w3 _ 0 _ _ _ ff.out.2.1];rfl
 have t1:w3.cell? ⟨b+1,1,none⟩=some (.int .i64 0):=by rw[cell_of_row w3 _ 1 _ _ _ ff.out.2.1];rfl
 obtain⟨q0,q1⟩:=PT ff.out.2.1 (.bool false) (.int .i64 i);clear hi hs hn;go_wp2_with fail;exact bodyPost_ret (v:=.tuple #[.agg #[.bool false,.int .i64 i],.bool true]) (by simp[results,results12,go_sem,q0,q1]) rfl ⟨by rw[HZ.out];rfl,ff.out.put _ _⟩
def qs(q:Int->Int->Prop)(w:World)(e:Ending)(w':World):Prop:=∃a b:Int,e=.returned (.tuple #[.int .i64 a,.int .i64 b])/\q a b/\Below w.heap.size w w'
def oW(f:Nat->Int)(n m:Nat)(a e:Int):Prop:=(m<n/\e=6/\a=(n:Int))\/(n<=m/\iY f n=e/\(e≠0->a=(AJ f n:Int)))
theorem TW{s:ByteArray}{l:List ByteArray}{j:Nat}(hj:j<l.length)(h:l[j]=s):pC s l<=j:=by
 induction l generalizing j with
 | nil=>simp at hj
 | cons a l ih=>
  simp only[pC];split
  ·omega
  rename_i h1;cases j with
  | zero=>exact absurd h h1
  | succ j=>
   simp at hj h;have:=ih hj h;omega
theorem znP(hk:k<G.S.length)(hn:bD (ky G k)=true):((qH G G.S[k]).1=⟨true,(k:Int)⟩->fL G k=0)/\((qH G G.S[k]).1≠⟨true,(k:Int)⟩->fL G k=9):=by
 by_cases hr:∃j,∃h:j<G.R.length,G.R[j].nm=G.S[k]
 ·obtain⟨j,hj,h⟩:=hr;have e9:fL G k=9:=Kr hn (inr ⟨j,hj,by rw[Hw hj,xY hk];exact h⟩);refine⟨fun e=>?_,fun _=>e9⟩;have aw:pC G.S[k] (G.R.map Ru.nm)<G.R.length:=Nat.lt_of_le_of_lt (TW (j:=j) (by simpa using hj) (by simpa using h)) hj;unfold qH at e;rw[if_pos aw] at e;injection e with e1 e2;cases e1
 have Nk:∀j (h:j<G.R.length),G.R[j].nm≠G.S[k]:=fun j h e=>hr ⟨j,h,e⟩
 by_cases hs:∃j,∃h:j<k,G.S[j]'(by omega)=G.S[k]
 ·obtain⟨j,hj,h⟩:=hs;have e9:fL G k=9:=Kr hn (inl ⟨j,hj,by rw[xY (by omega),xY hk];exact h⟩);refine⟨fun e=>?_,fun _=>e9⟩;have hle:pC G.S[k] G.S<=j:=TW (by omega) h;have e2:=Kc (s:=G.S[k]) (l:=G.R.map Ru.nm) (fun j hj=>by simp at hj⊢;exact Nk j hj);unfold qH at e;rw[e2,List.length_map,if_neg (by omega),if_pos (by omega)] at e;injection e with e1 e3;omega
 have nY:∀j (h:j<G.S.length),j<k->G.S[j]≠G.S[k]:=fun j h hjk e=>hs ⟨j,hjk,e⟩
 have e0:=zpO Nk hk rfl nY;have e1:fL G k=0:=LC hn (fun j hj=>by rw[xY (by omega),xY hk];exact nY j (by omega) hj) (fun j hj=>by rw[Hw hj,xY hk];exact Nk j hj);exact⟨fun _=>e1,fun h=>absurd (by rw[e0]) h⟩
def NJ(b:Bool):Int:=if b then 0 else 8
theorem Zx(s:ByteArray)(w:World)(hs:s.size<=maxLen):
  Calls prog 54 #[.string s] w fun e w'=>e=.returned (.int .i64 (NJ (bD s)))/\w'=w:=by
 go_enter func54,ntmps54;go_wp2_with fail;refine (MT s _ hs).mono ?_;rintro e w1 ⟨rfl,rfl⟩;rcases hn:bD s with _|_
 ·have HN:=hid hn;clear hn;go_wp2;go_ret;exact⟨by rw[HN.out];rfl,rfl⟩
 have HN:=hid hn;clear hn;go_wp2;go_ret;exact⟨by rw[HN.out];rfl,rfl⟩
def Ct(w:World)(b b7:Nat)(G:Gr)(y:Sy)(wr:World):Prop:=ez wr b G/\tG wr b7 y/\Below w.heap.size w wr
theorem Ct.aa{w:World}{b b7:Nat}{y:Sy}(h:Ct w b b7 G y wr)(k:Below wr.heap.size wr w'):Ct w b b7 G y w':=⟨h.1.below k,h.2.1.below k,h.2.2.trans (k.mono h.2.2.size)⟩
theorem zdT(G:Gr)(w:World)(hA:G.At w)(hL:G.mK 1000000):
  Calls prog 27 #[G.val] w (qs (oW (fL G) G.S.length 300) w):=by
 show Calls prog 27 #[.agg #[.slice G.aR G.R.length G.cR,.slice G.aS G.S.length G.cS,.slice G.aP G.P.length G.cP,.slice G.aL G.L.length G.cL,.int .i64 G.st]] w _;have HA:=hid (Zz hA hL);have HFd:Hid (∀(s:ByteArray) W,Below w.heap.size w W->Calls prog 12 #[.agg #[.slice G.aR G.R.length G.cR,.slice G.aS G.S.length G.cS,.slice G.aP G.P.length G.cP,.slice G.aL G.L.length G.cL,.int .i64 G.st],.string s] W (Ql G s W)):=fun s W k=>zic G s W (hA.below k) hL
 have AT:=hL.s;clear hA hL;obtain⟨w2,bQ⟩:∃w2,(w.alloc (.cells #[.slice G.aR G.R.length G.cR,.slice G.aS G.S.length G.cS,.slice G.aP G.P.length G.cP,.slice G.aL G.L.length G.cL,.int .i64 G.st] 27))=w2:=⟨_,rfl⟩
 have H:Hid (ez w2 w.heap.size G/\Below w.heap.size w w2):=by
  rw[<-bQ];have k0:=al w (.cells #[.slice G.aR G.R.length G.cR,.slice G.aS G.S.length G.cS,.slice G.aP G.P.length G.cP,.slice G.aL G.L.length G.cL,.int .i64 G.st] 27);exact⟨(ez.new w G 27),k0⟩
 have ld:Hid (w2.heap.size=w.heap.size+1):=by show _=_;rw[<-bQ];simp
 go_enter func27,ntmps27;go_upto_region 1 with fail
 try rw[bQ]
 clear bQ;obtain⟨b,hb⟩:∃b,w.heap.size=b:=⟨_,rfl⟩
 have HX:Hid (jC w b G w2):=by rw[<-hb];exact H.out
 rw[hb];clear hb H ld;have c1:=HX.out.1.c1;by_cases h3:300<G.S.length
 ·have i3:(300:Int)<(G.S.length:Int):=by omega
  have HZ:Hid (qs (oW (fL G) G.S.length 300) w (.returned (.tuple #[.int .i64 (G.S.length:Int),.int .i64 6])) w2):=⟨_,_,rfl,inl ⟨h3,rfl,rfl⟩,HX.out.2⟩
  clear h3;go_wp2;go_ret2;exact HZ.out
 have i3:¬((300:Int)<(G.S.length:Int)):=by omega
 have H3:=hid h3;obtain⟨n,hn⟩:∃n,G.S.length=n:=⟨_,rfl⟩
 have HN:=hid hn;have Rm:n<=1000000:=by omega
 rw[hn] at c1 i3;clear hn AT h3;have Gl:Hid (jC w b G w2/\∀j,j<0->fL G j=0):=⟨HX.out,fun j h=>by omega⟩
 go_wp2;go_loopw [19] (fun v wr=>∃k:Nat,v=.int .i64 (k:Int)/\k<=n/\Hid (jC w b G wr/\∀j,j<k->fL G j=0)) (fun v _=>n-(intOf v).toNat)
 ·exact⟨0,rfl,zero_le _,Gl.out⟩
 clear Gl HX c1;obtain⟨k,rfl,hk,HK⟩:=hrel;have c1:=HK.out.1.1.c1;rw[HN.out] at c1;by_cases aw:k<n
 case neg=>
  obtain rfl:k=n:=by omega
  have HZ:Hid (qs (oW (fL G) G.S.length 300) w (.returned (.tuple #[.int .i64 (k:Int),.int .i64 0])) wr):=⟨_,_,rfl,inr ⟨by have:=H3.out;omega,by rw[HN.out];exact vy HK.out.2,fun h=>absurd rfl h⟩,HK.out.1.2⟩
  go_wp2;go_ret2;exact HZ.out
 have jU:k<G.S.length:=by rw[HN.out];exact aw
 obtain⟨g1,o1,e1,kj,y1⟩:=(HA.out.1.below HK.out.1.2).s (by omega);have x0:=y1 k jU;have i1:(k:Int)<n:=by omega
 have HW:Hid (∀W,Below w.heap.size w W->fL G k≠0->qs (oW (fL G) G.S.length 300) w (.returned (.tuple #[.int .i64 (k:Int),.int .i64 (fL G k)])) W):=fun W hW h=>by
  obtain⟨f1,f2⟩:=EU (n:=G.S.length) jU HK.out.2 h;exact⟨_,_,rfl,inr ⟨by have:=H3.out;omega,f1,fun _=>by rw[f2]⟩,hW⟩
 have HE:=hid (Zx G.S[k] wr (by have:=HA.out.2.ss k jU;unfold maxLen;omega));have dz:Hid ((bD G.S[k]=true->((qH G G.S[k]).1=⟨true,(k:Int)⟩->fL G k=0)/\((qH G G.S[k]).1≠⟨true,(k:Int)⟩->fL G k=9))/\(bD G.S[k]=false->fL G k=8)):=⟨fun h=>znP jU (by rw[xY jU];exact h),fun h=>SU (by rw[xY jU];exact h)⟩
 have gh:=hid e1;rw[e1] at c1⊢;clear y1 e1;generalize G.S[k]=s at x0 HE dz;cases jc:bD s with
 | false=>
  rw[jc] at HE;have MG:Hid (Calls prog 54 #[.string s] wr fun e w'=>e=.returned (.int .i64 8)/\w'=wr):=HE.out;have h8:=dz.out.2 jc;have HZ:=hid (HW.out wr HK.out.1.2 (by rw[h8];decide));rw[h8] at HZ;clear h8 jc HW HE dz jU;go_wp2_with (go_at_call 54;refine MG.out.mono ?_;rintro e w3 ⟨rfl,rfl⟩);go_ret2;exact HZ.out
 | true=>
  rw[jc] at HE
  have MG:Hid (Calls prog 54 #[.string s] wr fun e w'=>e=.returned (.int .i64 0)/\w'=wr):=HE.out
  have yJ:=hid (dz.out.1 jc)
  have HF:=hid (HFd.out s wr HK.out.1.2)
  have c0:=HK.out.1.1.c0
  have c2:=HK.out.1.1.c2
  have c3:=HK.out.1.1.c3
  have c4:=HK.out.1.1.c4
  clear HE dz jc jU
  obtain⟨⟨y,ok⟩,hy⟩:∃p,qH G s=p:=⟨_,rfl⟩
  rw[hy] at yJ
  have xW:Hid (Calls prog 12 #[.agg #[.slice G.aR G.R.length G.cR,.slice G.aS G.S.length G.cS,.slice G.aP G.P.length G.cP,.slice G.aL G.L.length G.cL,.int .i64 G.st],.string s] wr (fun e w'=>e=.returned (.tuple #[.agg #[.bool y.s,.int .i64 y.n],.bool ok])/\Below wr.heap.size wr w')):=by
   have h9:=HF.out;unfold Ql at h9;rw[hy] at h9;exact h9
  rw[HN.out,gh.out] at xW
  clear hy HF
  go_upto_region 9 with (go_at_call 54;refine MG.out.mono ?_;rintro e w3 ⟨rfl,rfl⟩)
  go_upto_region 10 with (go_at_call 12;refine xW.out.mono ?_;rintro e w4 ⟨rfl,b4⟩)
  have kt:=hid (HK.out.1.aa b4)
  have k4:=al w4 (.cells #[.bool y.s,.int .i64 y.n] 38)
  obtain⟨b7,AD⟩:∃b7,w4.heap.size=b7:=⟨_,rfl⟩
  have HC:Hid (Ct w b b7 G y (w4.alloc (.cells #[.bool y.s,.int .i64 y.n] 38))):=by
   have h9:=kt.out.aa k4;exact⟨h9.1,by rw[<-AD];exact tG.new w4 y 38,h9.2⟩
  try rw[AD]
  clear b4 k4 AD kt xW MG x0 c0 c1 c2 c3 c4
  generalize w4.alloc (.cells #[.bool y.s,.int .i64 y.n] 38)=W5 at HC⊢
  have kd:Below W5.heap.size W5 W5.drew:=⟨rfl,rfl,rfl,le_refl _,fun _ _=>rfl⟩
  have DQ:=hid (HC.out.aa kd)
  clear kd
  obtain⟨ys,yn⟩:=y
  cases ys with
  | false=>
   have h9:=yJ.out.2 (fun e=>by injection e with e1 e2;cases e1);have HZ:Hid (∀W,Below w.heap.size w W->qs (oW (fL G) G.S.length 300) w (.returned (.tuple #[.int .i64 (k:Int),.int .i64 9])) W):=fun W hW=>by
    have:=HW.out W hW (by rw[h9];decide);rw[h9] at this;exact this
   clear h9 HW yJ;refine wp_region_held_drew (S:=fun W'=>Ct w b b7 G ⟨false,yn⟩ W') (by kernel_rfl) (DQ.out) (fun hHeld=>?_);refine aq 0 (v:=.agg #[.bool false,.int .i64 yn]) ?_ (hy:=by intro wz hSw;have z0:=hSw.2.1.c0;have z1:=hSw.2.1.c1;(try simp only[Act.put,sA,sB,sC]);go_simp;first|done|with_reducible rfl)
   try simp only[Act.put,sA,sB,sC]
   refine aq 1 ?_ (hy:=by intro wz hSw;have z0:=hSw.2.1.c0;have z1:=hSw.2.1.c1;(try simp only[Act.put,sA,sB,sC]);go_simp;first|done|with_reducible rfl)
   try simp only[Act.put,sA,sB,sC]
   refine aQ 2 (fun K hK=>?_);go_simp;go_at_call 30;refine (yh _ _).mono ?_;rintro e w8 ⟨rfl,b8⟩;have aJ:=hHeld.aa b8;clear b8 hHeld
   try go_wp2_with fail
   refine hK.out _ _ aJ (fun hHeld=>?_);clear hK K aJ
   try simp only[Act.put,sA,sB,sC]
   refine aq 3 (v:=.bool true) ?_ (hy:=by intro wz hSw;have z0:=hSw.2.1.c0;have z1:=hSw.2.1.c1;(try simp only[Act.put,sA,sB,sC]);go_simp;first|done|with_reducible rfl)
   try simp only[Act.put,sA,sB,sC]
   refine wpAnyH_done (by kernel_rfl) ?_ _;go_wp2;go_ret2;exact HZ.out _ hHeld.2.2
  | true=>
   by_cases Cz:yn=(k:Int)
   ·have j9:(yn == (k:Int))=true:=(by simp[Cz]);have h0:=yJ.out.1 (by rw[Cz]);have HZ:Hid (∀j,j<k+1->fL G j=0):=fun j hj=>by
     by_cases e:j=k
     ·subst e;exact h0
     exact HK.out.2 j (by omega)
    have hyk2:=hid Cz;clear h0 HW yJ Cz;refine wp_region_held_drew (S:=fun W'=>Ct w b b7 G ⟨true,yn⟩ W') (by kernel_rfl) (DQ.out) (fun hHeld=>?_);refine aq 0 (v:=.agg #[.bool true,.int .i64 yn]) ?_ (hy:=by intro wz hSw;have z0:=hSw.2.1.c0;have z1:=hSw.2.1.c1;(try simp only[Act.put,sA,sB,sC]);go_simp;first|done|with_reducible rfl)
    try simp only[Act.put,sA,sB,sC]
    refine aq 1 ?_ (hy:=by intro wz hSw;have z0:=hSw.2.1.c0;have z1:=hSw.2.1.c1;(try simp only[Act.put,sA,sB,sC]);go_simp;first|done|with_reducible rfl)
    try simp only[Act.put,sA,sB,sC]
    refine aQ 2 (fun K hK=>?_);go_simp;go_at_call 30;refine (yh _ _).mono ?_;rintro e w8 ⟨rfl,b8⟩;have aJ:=hHeld.aa b8;clear b8 hHeld
    try go_wp2_with fail
    refine hK.out _ _ aJ (fun hHeld=>?_);clear hK K aJ
    try simp only[Act.put,sA,sB,sC]
    refine aq 3 (v:=.bool false) ?_ (hy:=by intro wz hSw;have z0:=hSw.2.1.c0;have z1:=hSw.2.1.c1;(try simp only[Act.put,sA,sB,sC]);go_simp;first|done|with_reducible rfl)
    try simp only[Act.put,sA,sB,sC]
    refine wpAnyH_done (by kernel_rfl) ?_ _;go_wp2;go_roundw
    ·exact⟨k+1,by go_num,by omega,⟨hHeld.1,hHeld.2.2⟩,HZ.out⟩
    simp[intOf];omega
   have j9:(yn == (k:Int))=false:=(by simp[Cz]);have h9:=yJ.out.2 (fun e=>by injection e with e1 e2;exact Cz e2);have HZ:Hid (∀W,Below w.heap.size w W->qs (oW (fL G) G.S.length 300) w (.returned (.tuple #[.int .i64 (k:Int),.int .i64 9])) W):=fun W hW=>by
    have:=HW.out W hW (by rw[h9];decide);rw[h9] at this;exact this
   clear h9 HW yJ Cz;refine wp_region_held_drew (S:=fun W'=>Ct w b b7 G ⟨true,yn⟩ W') (by kernel_rfl) (DQ.out) (fun hHeld=>?_);refine aq 0 (v:=.agg #[.bool true,.int .i64 yn]) ?_ (hy:=by intro wz hSw;have z0:=hSw.2.1.c0;have z1:=hSw.2.1.c1;(try simp only[Act.put,sA,sB,sC]);go_simp;first|done|with_reducible rfl)
   try simp only[Act.put,sA,sB,sC]
   refine aq 1 ?_ (hy:=by intro wz hSw;have z0:=hSw.2.1.c0;have z1:=hSw.2.1.c1;(try simp only[Act.put,sA,sB,sC]);go_simp;first|done|with_reducible rfl)
   try simp only[Act.put,sA,sB,sC]
   refine aQ 2 (fun K hK=>?_);go_simp;go_at_call 30;refine (yh _ _).mono ?_;rintro e w8 ⟨rfl,b8⟩;have aJ:=hHeld.aa b8;clear b8 hHeld
   try go_wp2_with fail
   refine hK.out _ _ aJ (fun hHeld=>?_);clear hK K aJ
   try simp only[Act.put,sA,sB,sC]
   refine aq 3 (v:=.bool true) ?_ (hy:=by intro wz hSw;have z0:=hSw.2.1.c0;have z1:=hSw.2.1.c1;(try simp only[Act.put,sA,sB,sC]);go_simp;first|done|with_reducible rfl)
   try simp only[Act.put,sA,sB,sC]
   refine wpAnyH_done (by kernel_rfl) ?_ _;go_wp2;go_ret2;exact HZ.out _ hHeld.2.2
theorem zdU(G:Gr)(w:World)(hA:G.At w)(hL:G.mK 1000000):
  Calls prog 28 #[G.val] w (qs (oW (fY G) G.P.length 200) w):=by
 show Calls prog 28 #[.agg #[.slice G.aR G.R.length G.cR,.slice G.aS G.S.length G.cS,.slice G.aP G.P.length G.cP,.slice G.aL G.L.length G.cL,.int .i64 G.st]] w _;have HCp:Hid (∀i,i<G.P.length->∀W,Below w.heap.size w W->Calls prog 55 #[.agg #[.slice G.aR G.R.length G.cR,.slice G.aS G.S.length G.cS,.slice G.aP G.P.length G.cP,.slice G.aL G.L.length G.cL,.int .i64 G.st],.int .i64 ((i:Nat):Int)] W (MW (fY G i) W)):=fun i h W k=>zeB G i h W (hA.below k) hL
 have AT:=hL.p;clear hA hL;obtain⟨w2,bQ⟩:∃w2,(w.alloc (.cells #[.slice G.aR G.R.length G.cR,.slice G.aS G.S.length G.cS,.slice G.aP G.P.length G.cP,.slice G.aL G.L.length G.cL,.int .i64 G.st] 27))=w2:=⟨_,rfl⟩
 have H:Hid (ez w2 w.heap.size G/\Below w.heap.size w w2):=by
  rw[<-bQ];have k0:=al w (.cells #[.slice G.aR G.R.length G.cR,.slice G.aS G.S.length G.cS,.slice G.aP G.P.length G.cP,.slice G.aL G.L.length G.cL,.int .i64 G.st] 27);exact⟨(ez.new w G 27),k0⟩
 have ld:Hid (w2.heap.size=w.heap.size+1):=by show _=_;rw[<-bQ];simp
 go_enter func28,ntmps28;go_upto_region 1 with fail
 try rw[bQ]
 clear bQ;obtain⟨b,hb⟩:∃b,w.heap.size=b:=⟨_,rfl⟩
 have HX:Hid (jC w b G w2):=by rw[<-hb];exact H.out
 rw[hb];clear hb H ld;have c2:=HX.out.1.c2;by_cases h3:200<G.P.length
 ·have i3:(200:Int)<(G.P.length:Int):=by omega
  have HZ:Hid (qs (oW (fY G) G.P.length 200) w (.returned (.tuple #[.int .i64 (G.P.length:Int),.int .i64 6])) w2):=⟨_,_,rfl,inl ⟨h3,rfl,rfl⟩,HX.out.2⟩
  clear h3;go_wp2;go_ret2;exact HZ.out
 have i3:¬((200:Int)<(G.P.length:Int)):=by omega
 have H3:=hid h3;obtain⟨n,hn⟩:∃n,G.P.length=n:=⟨_,rfl⟩
 have HN:=hid hn;have Rm:n<=1000000:=by omega
 rw[hn] at c2 i3;clear hn AT h3;have Gl:Hid (jC w b G w2/\∀j,j<0->fY G j=0):=⟨HX.out,fun j h=>by omega⟩
 go_wp2;go_loopw [16] (fun v wr=>∃k:Nat,v=.int .i64 (k:Int)/\k<=n/\Hid (jC w b G wr/\∀j,j<k->fY G j=0)) (fun v _=>n-(intOf v).toNat)
 ·exact⟨0,rfl,zero_le _,Gl.out⟩
 clear Gl HX c2;obtain⟨k,rfl,hk,HK⟩:=hrel;have c0:=HK.out.1.1.c0;have c1:=HK.out.1.1.c1;have c2:=HK.out.1.1.c2;have c3:=HK.out.1.1.c3;have c4:=HK.out.1.1.c4;rw[HN.out] at c2;by_cases aw:k<n
 case neg=>
  obtain rfl:k=n:=by omega
  have HZ:Hid (qs (oW (fY G) G.P.length 200) w (.returned (.tuple #[.int .i64 (k:Int),.int .i64 0])) wr):=⟨_,_,rfl,inr ⟨by have:=H3.out;omega,by rw[HN.out];exact vy HK.out.2,fun h=>absurd rfl h⟩,HK.out.1.2⟩
  clear c0 c1 c3 c4;go_wp2;go_ret2;exact HZ.out
 have jU:k<G.P.length:=by rw[HN.out];exact aw
 have i1:(k:Int)<n:=by omega
 have HC:=hid (HCp.out k jU wr HK.out.1.2);rw[HN.out] at HC;obtain⟨z,hz⟩:∃z,fY G k=z:=⟨_,rfl⟩
 rw[hz] at HC;have Nw:=hid hz;clear hz;go_wp2_with (go_at_call 55;refine HC.out.mono ?_;rintro e w3 ⟨rfl,b3⟩;refine Hid.out ?_);refine hid ?_;have vI:=hid (HK.out.1.aa b3);clear b3 HC c0 c1 c2 c3 c4;by_cases h0:z=0
 ·subst h0;have HZ:Hid (∀j,j<k+1->fY G j=0):=fun j hj=>by
   by_cases e:j=k
   ·subst e;exact Nw.out
   exact HK.out.2 j (by omega)
  go_wp2;go_roundw
  ·exact⟨k+1,by go_num,by omega,vI.out,HZ.out⟩
  simp[intOf];omega
 have j0:(z != 0)=true:=by simpa using h0
 have HZ:Hid (qs (oW (fY G) G.P.length 200) w (.returned (.tuple #[.int .i64 (k:Int),.int .i64 z])) w3):=by
  obtain⟨f1,f2⟩:=EU (n:=G.P.length) jU HK.out.2 (by rw[Nw.out];exact h0);exact⟨_,_,rfl,inr ⟨by have:=H3.out;omega,by rw[f1,Nw.out],fun _=>by rw[f2]⟩,vI.out.2⟩
 clear h0 jU;go_wp2;go_ret2;exact HZ.out
def lz(G:Gr)(i k:Nat):List Int:=((range i).flatMap (fun a=>(gb G a).rules))++(gb G i).rules.take k
theorem zlu(G:Gr):lz G 0 0=[]:=by simp[lz]
theorem zlv(h:k<(gb G i).rules.length):lz G i (k+1)=lz G i k++[(gb G i).rules[k]]:=by
 unfold lz;rw[List.take_succ_eq_append_getElem h,List.append_assoc]
theorem zjq(G:Gr)(i:Nat):lz G (i+1) 0=lz G i (gb G i).rules.length:=by
 unfold lz;rw[List.range_succ,List.flatMap_append,List.take_zero,List.append_nil,List.take_of_length_le (le_refl _)];simp
theorem znQ{m:Nat}(h:∀a,(gb G a).rules.length<=m)(i k:Nat):(lz G i k).length<=i*m+k:=by
 have h1:((range i).flatMap (fun a=>(gb G a).rules)).length<=i*m:=by
  induction i with
  | zero=>simp
  | succ i ih=>
   have:=h i;rw[List.range_succ,List.flatMap_append,length_append];simp only[List.flatMap_cons,List.flatMap_nil,List.append_nil];rw[Nat.add_mul,Nat.one_mul];omega
 unfold lz;rw[length_append,List.length_take];omega
theorem zjr(h:k<(gb G i).rules.length):(gb G i).rules[k]∈lz G i k↔o9 G i k:=by
 have e:(gb G i).rules.getD k 0=(gb G i).rules[k]:=by simp[h]
 unfold lz o9;rw[List.mem_append,e];constructor
 ·rintro (h1|h1)
  ·obtain⟨a,ha,hz⟩:=List.mem_flatMap.1 h1;obtain⟨b,hb,hq⟩:=getElem_of_mem hz;exact⟨a,b,inl (by simpa using ha),hb,by simp[hb,hq]⟩
  obtain⟨b,hb,hq⟩:=getElem_of_mem h1;simp at hb hq;have cv:b<(gb G i).rules.length:=by omega
  exact⟨i,b,inr ⟨rfl,by omega⟩,cv,by simp[cv,hq]⟩
 rintro⟨a,b,h1,hb,hq⟩;rw[show (gb G a).rules.getD b 0=(gb G a).rules[b] by simp[hb]] at hq;rcases h1 with h1|⟨rfl,h1⟩
 ·exact inl (List.mem_flatMap.2 ⟨a,by simpa using h1,by rw[<-hq];exact getElem_mem hb⟩)
 right;rw[<-hq];have:(gb G a).rules[b]=((gb G a).rules.take k)[b]'(by simp;omega):=by simp
 rw[this];exact getElem_mem _
theorem RO(h:(gb G i).side<1\/3<(gb G i).side\/(gb G i).rules.length=0\/60<=i):oC G i=1:=if_pos h
theorem zlw(h:¬((gb G i).side<1\/3<(gb G i).side\/(gb G i).rules.length=0\/60<=i)):oC G i=iY (wJ G i) (gb G i).rules.length:=if_neg h
def mB(z:Int):Bool:=z == 1 || (z == 2 || z == 3)
theorem zlx{z:Int}(h:mB z=false):z<1\/3<z:=by
 unfold mB at h;simp only[Bool.or_eq_false_iff,beq_eq_false_iff_ne] at h;omega
theorem zjs{z:Int}(h:mB z=true):¬(z<1\/3<z):=by
 unfold mB at h;simp only[Bool.or_eq_true,beq_iff_eq] at h;omega
theorem zie(z:Int)(w:World):Calls prog 56 #[.int .i64 z] w (fun e w'=>e=.returned (.bool (mB z))/\w'=w):=by
 have HZ:Hid (mB z=(z == 1 || (z == 2 || z == 3))):=rfl;go_enter func56,ntmps56;rcases h0:(z == 1) with _|_
 ·rcases h1:(z == 2) with _|_
  ·rw[h0,h1] at HZ;go_wp2;go_ret;exact⟨by rw[HZ.out];rfl,rfl⟩
  rw[h0,h1] at HZ;go_wp2;go_ret;exact⟨by rw[HZ.out];rfl,rfl⟩
 rw[h0] at HZ;go_wp2;go_ret;exact⟨by rw[HZ.out];rfl,rfl⟩
theorem zly(l:List Int)(n c:Nat)(a:Option Addr)(z:Int)(hl:l.length=n)(hn:n<=9223372036854775807)(w:World)(h:js w a l):
  Calls prog 57 #[.slice a n c,.int .i64 z] w (fun e w'=>∃b,(b=true↔z∈l)/\e=.returned (.bool b)/\w'=w):=by
 rcases Nat.eq_zero_or_pos n with h0|h0
 ·subst h0;refine (Tryz.slices_Contains_int_empty a c z w).mono ?_;rintro e w' ⟨rfl,rfl⟩;exact⟨false,by rw[List.length_eq_zero_iff.1 hl];simp,rfl,rfl⟩
 obtain⟨g,off,rfl,hg,hc⟩:=h (by omega);refine (Tryz.slices_Contains_int g off n c l z w (by omega) hn hc).mono ?_;rintro e w' ⟨rfl,rfl⟩;exact⟨_,by rw[List.take_of_length_le (by omega),List.contains_iff_mem],rfl,rfl⟩
theorem zdy(G:Gr)(w:World)(hA:G.At w)(hL:G.mK 1000000):
  Calls prog 29 #[G.val] w (qs (oW (oC G) G.L.length G.L.length) w):=by
 show Calls prog 29 #[.agg #[.slice G.aR G.R.length G.cR,.slice G.aS G.S.length G.cS,.slice G.aP G.P.length G.cP,.slice G.aL G.L.length G.cL,.int .i64 G.st]] w _;obtain⟨iI,hI,pT,qd,qb⟩:=info_parts az;have AO:Hid (∀(y:Sy) W,Below w.heap.size w W->Calls prog 14 #[.agg #[.slice G.aR G.R.length G.cR,.slice G.aS G.S.length G.cS,.slice G.aP G.P.length G.cP,.slice G.aL G.L.length G.cL,.int .i64 G.st],.agg #[.bool y.s,.int .i64 y.n]] W (xU (dT G y) W)):=fun y W k=>J5 G y W (hA.below k) (hL.mono (by omega))
 have X9:Hid (∀a,(gb G a).rules.length<=1000000):=fun a=>by
  by_cases h:a<G.L.length
  ·rw[Q9 h];exact hL.ls a h
  simp[gb,h]
 have HA:=hid hA;have xd:=hL.l;clear hA hL;obtain⟨w2,bQ⟩:∃w2,(w.alloc (.cells #[.slice G.aR G.R.length G.cR,.slice G.aS G.S.length G.cS,.slice G.aP G.P.length G.cP,.slice G.aL G.L.length G.cL,.int .i64 G.st] 27))=w2:=⟨_,rfl⟩
 have H:Hid (ez w2 w.heap.size G/\Below w.heap.size w w2):=by
  rw[<-bQ];have k0:=al w (.cells #[.slice G.aR G.R.length G.cR,.slice G.aS G.S.length G.cS,.slice G.aP G.P.length G.cP,.slice G.aL G.L.length G.cL,.int .i64 G.st] 27);exact⟨(ez.new w G 27),k0⟩
 have ld:Hid (w2.heap.size=w.heap.size+1):=by show _=_;rw[<-bQ];simp
 go_enter func29,ntmps29;go_upto_region 1 with fail
 try rw[bQ]
 clear bQ;obtain⟨b,hb⟩:∃b,w.heap.size=b:=⟨_,rfl⟩
 have HX:Hid (jC w b G w2):=by rw[<-hb];exact H.out
 rw[hb];clear hb H ld;have Ff:Hid (∀W,Below w2.heap.size w2 W->jC w b G W):=fun W k=>HX.out.aa k
 have c3:=HX.out.1.c3;obtain⟨n,hn⟩:∃n,G.L.length=n:=⟨_,rfl⟩
 have HN:=hid hn;rw[hn] at c3 xd;have KH:Hid (∀k,k<n->(∀j,j<k->oC G j=0)->∀z,oC G k=z->z≠0->∀W,Below w2.heap.size w2 W->qs (oW (oC G) G.L.length G.L.length) w (.returned (.tuple #[.int .i64 (k:Int),.int .i64 z])) W):=fun k hk h0 z hz hne W kW=>by
  obtain⟨f1,f2⟩:=EU (n:=G.L.length) (by omega) h0 (by rw[hz];exact hne);exact⟨_,_,rfl,inr ⟨le_refl _,by rw[f1,hz],fun _=>by rw[f2]⟩,(Ff.out W kW).2⟩
 clear hn;have qv:Hid (w2.ownsRow w2.heap.size 3 1 (.slice none 0 0) 0 (zg (lz G 0 0))/\(lz G 0 0).length=0):=by rw[zlu];exact⟨World.ownsRow_nil _ _ _ _,rfl⟩
 go_wp2;go_loopw [4,12] (fun v4 v12 wr=>∃(k q:Nat) (a:Option Addr) (d:Nat),k<=n/\v12=.int .i64 (k:Int)/\v4=.slice a q d/\Hid (wr.ownsRow w2.heap.size 3 1 (.slice a q d) q (zg (lz G k 0))/\(lz G k 0).length=q/\Below w2.heap.size w2 wr/\∀j,j<k->oC G j=0)) (fun _ v _=>n-(intOf v).toNat)
 ·exact⟨0,0,none,0,zero_le _,rfl,rfl,qv.out.1,qv.out.2,Below.refl _ _,fun j h=>by omega⟩
 clear qv c3;obtain⟨k,q,a,d,hk,rfl,rfl,HK⟩:=hrel;by_cases aw:k<n
 case neg=>
  obtain rfl:k=n:=by omega
  have HZ:Hid (qs (oW (oC G) G.L.length G.L.length) w (.returned (.tuple #[.int .i64 (k:Int),.int .i64 0])) wr):=⟨_,_,rfl,inr ⟨le_refl _,by rw[HN.out];exact vy HK.out.2.2.2,fun h=>absurd rfl h⟩,(Ff.out wr HK.out.2.2.1).2⟩
  have c3:=(Ff.out wr HK.out.2.2.1).1.c3;rw[HN.out] at c3;go_wp2;go_ret2;exact HZ.out
 have jU:k<G.L.length:=by rw[HN.out];exact aw
 have i1:(k:Int)<n:=by omega
 obtain⟨g1,o1,e1,_,X,x0,x1⟩:=(HA.out.below (Ff.out wr HK.out.2.2.1).2).l.get k jU;obtain⟨x,hx⟩:∃x,G.L[k]=x:=⟨_,rfl⟩
 have Hx:Hid (gb G k=x):=by show _=_;rw[Q9 jU];exact hx
 have hz:=X9.out k;rw[Q9 jU] at hz;rw[hx] at X x0 x1 hz;have Vb:=hid X;have kb:=al wr (.cells #[.int .i64 x.side,.slice x.ar x.rules.length x.cr] 58);have pb:=Mp.new wr x 58;obtain⟨b6,ec⟩:∃b6,wr.heap.size=b6:=⟨_,rfl⟩
 obtain⟨W1,qk⟩:∃W1,wr.alloc (.cells #[.int .i64 x.side,.slice x.ar x.rules.length x.cr] 58)=W1:=⟨_,rfl⟩
 have H1:Hid (Mp W1 b6 x/\js W1 x.ar x.rules/\W1.ownsRow w2.heap.size 3 1 (.slice a q d) q (zg (lz G k 0))/\Below w2.heap.size w2 W1):=by
  rw[qk] at kb pb;have:=HK.out.1.alloc (.cells #[.int .i64 x.side,.slice x.ar x.rules.length x.cr] 58);rw[qk] at this;exact⟨ec ▸ pb,Vb.out.below kb,this,HK.out.2.2.1.trans (kb.mono HK.out.2.2.1.size)⟩
 have kQ:Hid (∀W,Below w.heap.size w W->js W x.ar x.rules):=fun W kW=>by
  obtain⟨_,_,_,_,Y,_⟩:=(HA.out.below kW).l.get k jU;rw[hx] at Y;exact Y
 clear X kb pb hx jU Vb;rw[e1];go_upto_region 5 with fail
 try rw[qk]
 try rw[ec]
 clear qk ec x0 x1 e1;have d0:=H1.out.1.c0;have d1:=H1.out.1.c1;have CC:=hid (zie x.side W1);cases Fb:mB x.side with
 | false=>
  rw[Fb] at CC;have HZ:=hid (KH.out k aw HK.out.2.2.2 1 (RO (by rw[Hx.out];have:=zlx Fb;omega)) (by decide) W1 H1.out.2.2.2);clear Fb;go_wp2_with (go_at_call 56;refine CC.out.mono ?_;rintro e w4 ⟨rfl,rfl⟩);go_ret2;exact HZ.out
 | true=>
 rw[Fb] at CC;have Xu:=hid (zjs Fb);clear Fb;by_cases h0:x.rules.length=0
 ·have HZ:=hid (KH.out k aw HK.out.2.2.2 1 (RO (by rw[Hx.out];omega)) (by decide) W1 H1.out.2.2.2);have j0:((x.rules.length:Int) == 0)=true:=by simp[h0]
  clear h0;go_wp2_with (go_at_call 56;refine CC.out.mono ?_;rintro e w4 ⟨rfl,rfl⟩);go_ret2;exact HZ.out
 have j0:((x.rules.length:Int) == 0)=false:=by rw[beq_eq_false_iff_ne];omega
 have H0:=hid h0;clear h0;by_cases h6:60<=k
 ·have HZ:=hid (KH.out k aw HK.out.2.2.2 1 (RO (by omega)) (by decide) W1 H1.out.2.2.2);have j6:(60:Int)<=k:=by omega
  clear h6;go_wp2_with (go_at_call 56;refine CC.out.mono ?_;rintro e w4 ⟨rfl,rfl⟩);go_ret2;exact HZ.out
 have j6:¬(60:Int)<=k:=by omega
 have QU:Hid (oC G k=iY (wJ G k) x.rules.length):=by
  show _=_;rw[zlw (by rw[Hx.out];have:=Xu.out;have:=H0.out;omega),Hx.out]
 clear h6 H0 Xu;go_upto_region 7 with (go_at_call 56;refine CC.out.mono ?_;rintro e w4 ⟨rfl,rfl⟩);obtain⟨m,hm⟩:∃m,x.rules.length=m:=⟨_,rfl⟩
 have HM:=hid hm;rw[hm] at d1 hz QU
 try rw[hm]
 clear hm CC j0 j6 d0;go_wp2_with fail;clear d1;go_loopw [4,35] (fun v4 v35 wr=>∃(y q:Nat) (a:Option Addr) (d:Nat),y<=m/\v35=.int .i64 (y:Int)/\v4=.slice a q d/\Hid (wr.ownsRow w2.heap.size 3 1 (.slice a q d) q (zg (lz G k y))/\(lz G k y).length=q/\Below w2.heap.size w2 wr/\(∀j,j<y->wJ G k j=0))) (fun _ v _=>m-(intOf v).toNat)
 ·exact⟨0,q,a,d,zero_le _,rfl,rfl,H1.out.2.2.1,HK.out.2.1,H1.out.2.2.2,fun j h=>by omega⟩
 have xT:=hid HK.out.2.2.2;have Hk9:Hid (k<n):=aw;obtain⟨y,p,a2,d2,hy,rfl,rfl,HY⟩:=hrel;by_cases RV:y<m
 case neg=>
  obtain rfl:y=m:=by omega
  have h0:oC G k=0:=by rw[QU.out];exact vy HY.out.2.2.2
  have HZ:Hid (∀j,j<k+1->oC G j=0):=fun j hj=>by
   by_cases e:j=k
   ·subst e;exact h0
   exact xT.out j (by omega)
  have HT:Hid (lz G (k+1) 0=lz G k y):=by show _=_;rw[zjq,Hx.out,HM.out]
  clear h0;go_wp2;go_roundw
  ·exact⟨k+1,p,a2,d2,by omega,by go_num,rfl,by rw[HT.out];exact HY.out.1,by rw[HT.out];exact HY.out.2.1,HY.out.2.2.1,HZ.out⟩
  simp[intOf];omega
 have Yn:y<x.rules.length:=by rw[HM.out];exact RV
 have Mi:y<(gb G k).rules.length:=by rw[Hx.out,HM.out];exact RV
 obtain⟨g2,o2,e2,_,y0⟩:=(kQ.out wr (Ff.out wr HY.out.2.2.1).2).get y Yn;obtain⟨z,M7⟩:∃z,x.rules[y]=z:=⟨_,rfl⟩
 have KG:Hid ((gb G k).rules.getD y 0=z/\(gb G k).rules[y]=z):=by
  have e9:(gb G k).rules=x.rules:=by rw[Hx.out]
  have e8:(gb G k).rules[y]=z:=by simp only[e9];exact M7
  exact⟨by rw[<-e8];simp[Mi],e8⟩
 have Uc:Hid (lz G k (y+1)=lz G k y++[z]):=by show _=_;rw[zlv Mi,KG.out.2]
 have WG:Hid (z∈lz G k y↔o9 G k y):=by have:=zjr Mi;rw[KG.out.2] at this;exact this
 rw[M7] at y0;have i2:(y:Int)<m:=by omega
 have HB:=hid (Ff.out wr HY.out.2.2.1);have Qr:Hid (∀c,wJ G k y=c->c≠0->∀W,Below w2.heap.size w2 W->qs (oW (oC G) G.L.length G.L.length) w (.returned (.tuple #[.int .i64 (k:Int),.int .i64 c])) W):=fun c hc hne W kW=>by
  refine KH.out k Hk9.out xT.out c ?_ hne W kW;rw[QU.out];obtain⟨f1,_⟩:=EU (n:=m) RV HY.out.2.2.2 (by rw[hc];exact hne);rw[f1,hc]
 have c0:=HB.out.1.c0;have c1:=HB.out.1.c1;have c2:=HB.out.1.c2;have c3:=HB.out.1.c3;have c4:=HB.out.1.c4;have Tw:=hid (AO.out ⟨false,z⟩ wr HB.out.2);have PL:Hid ((gb G k).rules.getD y 0=z):=KG.out.1;rw[e2];clear KG M7 Yn Mi e2;obtain⟨hb,tE⟩:∃hb,ie G z=hb:=⟨_,rfl⟩
 have GI:Hid (Calls prog 14 #[.agg #[.slice G.aR G.R.length G.cR,.slice G.aS G.S.length G.cS,.slice G.aP G.P.length G.cP,.slice G.aL G.L.length G.cL,.int .i64 G.st],.agg #[.bool false,.int .i64 z]] wr (xU hb wr)):=by rw[<-tE];exact Tw.out
 clear Tw;go_upto_region 10 with fail;go_wp2_with (go_at_call 14;refine GI.out.mono ?_;rintro e w5 ⟨rfl,b5⟩;refine Hid.out ?_);refine hid ?_;have pY:=hid (HY.out.2.2.1.trans (b5.mono HY.out.2.2.1.size));have Bn:=hid (dp HY.out.1 b5);clear c0 c1 c2 c3 c4 y0 b5 GI;cases hb with
 | false=>
  have HZ:=hid (Qr.out 11 (zo8 (by rw[PL.out];exact tE)) (by decide) _ pY.out);clear tE;go_wp2;go_ret2;exact HZ.out
 | true=>
 have LW:p<=2000000000000:=by
  have h1:=znQ X9.out k y;rw[HY.out.2.1] at h1;have h2:k*1000000<=1000000*1000000:=Nat.mul_le_mul_right _ (by omega);omega
 have E0:=hid (zly (lz G k y) p d2 a2 z HY.out.2.1 (by omega) w5 (zoX Bn.out HY.out.2.1));go_wp2_with (go_at_call 57;refine E0.out.mono ?_;rintro e w6 ⟨bo,jE,rfl,rfl⟩;refine Hid.out ?_);refine hid ?_;clear E0;cases bo with
 | true=>
  have HZ:=hid (Qr.out 9 (Z8 (by rw[PL.out];exact tE) (WG.out.1 (jE.1 rfl))) (by decide) _ pY.out);clear tE jE;go_wp2;go_ret2;exact HZ.out
 | false=>
 have HZ:Hid (∀j,j<y+1->wJ G k j=0):=fun j hj=>by
  by_cases e:j=y
  ·subst e;exact zpP (by rw[PL.out];exact tE) (fun h=>by have:=jE.2 (WG.out.2 h);cases this)
  exact HY.out.2.2.2 j (by omega)
 clear tE jE Qr;have hO:=Bn.out;have da:=pY.out.size;have HT:Hid (zg (lz G k (y+1))=zg (lz G k y)++[.int .i64 z]):=by show _=_;rw[Uc.out,zg,List.map_append];rfl
 go_wp2_with (at_builtin;refine wpList_append_own _ rfl _ _ 43 rfl w2.heap.size 3 iI (.int .i64 0) 1 8 underlying43 hI pT qd qb rfl (by decide) _ p _ rfl (hO.alloc _) ⟨w6.heap.size,0,none⟩ 1 1 [.int .i64 z] rfl rfl ?c1 ?c2 ?c3 ?c4 ?c5 ?_)
 case c1=>
  intro j u hj
  match j,hj with
  | 0,hj=>simp at hj;subst hj;simp[Addr.add]
 case c2=>first|rfl|(intro u hu;simp at hu;subst hu;rfl)
 case c3=>unfold maxLen;omega
 case c4=>omega
 case c5=>first|omega|(simp;omega)
 intro v' w7 wH xH _;obtain⟨a7,c7,rfl⟩:=bF wH;have yK:=hid ((pY.out.trans ((al w6 (.cells #[.int .i64 z] 3)).mono da)).grown xH (by simp;omega) (fun g e=>(hO.lt g e).1));have kI:=hid wH;clear wH xH hO da;go_wp2;go_roundw
 ·exact⟨y+1,p+1,a7,c7,by omega,by go_num,rfl,by rw[HT.out];exact kI.out,by rw[Uc.out,length_append,HY.out.2.1];rfl,yK.out,HZ.out⟩
 simp[intOf];omega
theorem E7{w:World}{t:Nat}{c0 c1 c2:Value}(h:w.heap[g]?=some (.cells #[c0,c1,c2] t (0,0)))(d0 d1 d2:Value):
  (((w.setCell ⟨g,0,none⟩ d0).setCell ⟨g,1,none⟩ d1).setCell ⟨g,2,none⟩ d2).cell? ⟨g,0,none⟩=some d0/\(((w.setCell ⟨g,0,none⟩ d0).setCell ⟨g,1,none⟩ d1).setCell ⟨g,2,none⟩ d2).cell? ⟨g,1,none⟩=some d1/\(((w.setCell ⟨g,0,none⟩ d0).setCell ⟨g,1,none⟩ d1).setCell ⟨g,2,none⟩ d2).cell? ⟨g,2,none⟩=some d2:=by
 have h1:=heap_setCell_same w g 0 _ _ d0 h;have h2:=heap_setCell_same _ g 1 _ _ d1 h1;have h3:=heap_setCell_same _ g 2 _ _ d2 h2;rw[cell_of_row _ g 0 _ _ _ h3,cell_of_row _ g 1 _ _ _ h3,cell_of_row _ g 2 _ _ _ h3];exact⟨rfl,rfl,rfl⟩
def yU(w:World)(b:Nat)(G:Gr)(wr:World):Prop:=ez wr b G/\wr.heap[b+1]?=some (.cells #[.int .i64 0,.int .i64 0,.int .i64 0] 32 (0,0))/\Below w.heap.size w wr/\b+1<wr.heap.size/\w.heap.size<=b
theorem yU.aa{w:World}{b:Nat}(h:yU w b G wr)(k:Below wr.heap.size wr w'):yU w b G w':=⟨h.1.below k,(k.block _ h.2.2.2.1).trans h.2.1,h.2.2.1.trans (k.mono h.2.2.1.size),lt_of_lt_of_le h.2.2.2.1 k.size,h.2.2.2.2⟩
theorem yU.put{w:World}{b:Nat}(h:yU w b G wr)(d0 d1 d2:Value):Below w.heap.size w (((wr.setCell ⟨b+1,0,none⟩ d0).setCell ⟨b+1,1,none⟩ d1).setCell ⟨b+1,2,none⟩ d2):=by
 have:=h.2.2.2.2;exact ((h.2.2.1.setCell (p:=⟨b+1,0,none⟩) (by show w.heap.size<=b+1;omega) d0).setCell (p:=⟨b+1,1,none⟩) (by show w.heap.size<=b+1;omega) d1).setCell (p:=⟨b+1,2,none⟩) (by show w.heap.size<=b+1;omega) d2
theorem yU.cells{w:World}{b:Nat}(h:yU w b G wr):(wr.cell? ⟨b+1,0,none⟩=some (.int .i64 0)/\wr.cell? ⟨b+1,1,none⟩=some (.int .i64 0)/\wr.cell? ⟨b+1,2,none⟩=some (.int .i64 0))/\wr.frozen? ⟨b+1,0,none⟩=false/\wr.frozen? ⟨b+1,1,none⟩=false/\wr.frozen? ⟨b+1,2,none⟩=false:=by
 have h2:=h.2.1;exact⟨⟨by rw[cell_of_row wr _ 0 _ _ _ h2];rfl,by rw[cell_of_row wr _ 1 _ _ _ h2];rfl,by rw[cell_of_row wr _ 2 _ _ _ h2];rfl⟩,frozen_of_row wr _ 0 _ _ h2,frozen_of_row wr _ 1 _ _ h2,frozen_of_row wr _ 2 _ _ h2⟩
theorem zpK(h:oW (fL G) G.S.length 300 a e):(e≠0->bY G=(e,2,a))/\(e=0->¬300<G.S.length/\iY (fL G) G.S.length=0):=by
 rcases h with ⟨h1,rfl,rfl⟩|⟨h1,h2,h3⟩
 ·exact⟨fun _=>by unfold bY;rw[if_pos h1],fun h=>by cases h⟩
 refine⟨fun hne=>?_,fun h0=>⟨by omega,by rw[h2,h0]⟩⟩;unfold bY;rw[if_neg (by omega),if_pos (by rw[h2];exact hne),h2,h3 hne]
theorem zpL(h1:¬300<G.S.length/\iY (fL G) G.S.length=0)(h:oW (fY G) G.P.length 200 a e):(e≠0->bY G=(e,3,a))/\(e=0->¬200<G.P.length/\iY (fY G) G.P.length=0):=by
 rcases h with ⟨h2,rfl,rfl⟩|⟨h2,h3,h4⟩
 ·exact⟨fun _=>by unfold bY;rw[if_neg h1.1,if_neg (by simp[h1.2]),if_pos h2],fun h=>by cases h⟩
 refine⟨fun hne=>?_,fun h0=>⟨by omega,by rw[h3,h0]⟩⟩;unfold bY;rw[if_neg h1.1,if_neg (by simp[h1.2]),if_neg (by omega),if_pos (by rw[h3];exact hne),h3,h4 hne]
theorem zpM(h1:¬300<G.S.length/\iY (fL G) G.S.length=0)(h2:¬200<G.P.length/\iY (fY G) G.P.length=0)(h:oW (oC G) G.L.length G.L.length a e):(e≠0->bY G=(e,4,a))/\(e=0->bY G=if G.st<0\/(G.S.length:Int)<=G.st then (11,5,0) else (0,0,0)):=by
 rcases h with ⟨h3,_,_⟩|⟨_,h3,h4⟩
 ·omega
 refine⟨fun hne=>?_,fun h0=>?_⟩
 ·unfold bY;rw[if_neg h1.1,if_neg (by simp[h1.2]),if_neg h2.1,if_neg (by simp[h2.2]),if_pos (by rw[h3];exact hne),h3,h4 hne]
 unfold bY;rw[if_neg h1.1,if_neg (by simp[h1.2]),if_neg h2.1,if_neg (by simp[h2.2]),if_neg (by rw[h3,h0];simp)]
theorem VP(Q:Int->Int->Prop)(G:Gr)(w:World)(hA:G.At w)(hL:G.mK 1000000)
  (hR:∀W,Below w.heap.size w W->Calls prog 26 #[.slice G.aR G.R.length G.cR] W (zpQ Q W)):
  Calls prog 9 #[G.val] w (zO Q G w):=by
 show Calls prog 9 #[.agg #[.slice G.aR G.R.length G.cR,.slice G.aS G.S.length G.cS,.slice G.aP G.P.length G.cP,.slice G.aL G.L.length G.cL,.int .i64 G.st]] w _;have HR:=hid hR;have dz:Hid (∀W,Below w.heap.size w W->Calls prog 27 #[.agg #[.slice G.aR G.R.length G.cR,.slice G.aS G.S.length G.cS,.slice G.aP G.P.length G.cP,.slice G.aL G.L.length G.cL,.int .i64 G.st]] W (qs (oW (fL G) G.S.length 300) W)):=fun W k=>zdT G W (hA.below k) hL
 have oD:Hid (∀W,Below w.heap.size w W->Calls prog 28 #[.agg #[.slice G.aR G.R.length G.cR,.slice G.aS G.S.length G.cS,.slice G.aP G.P.length G.cP,.slice G.aL G.L.length G.cL,.int .i64 G.st]] W (qs (oW (fY G) G.P.length 200) W)):=fun W k=>zdU G W (hA.below k) hL
 have WR:Hid (∀W,Below w.heap.size w W->Calls prog 29 #[.agg #[.slice G.aR G.R.length G.cR,.slice G.aS G.S.length G.cS,.slice G.aP G.P.length G.cP,.slice G.aL G.L.length G.cL,.int .i64 G.st]] W (qs (oW (oC G) G.L.length G.L.length) W)):=fun W k=>zdy G W (hA.below k) hL
 have AO:Hid (∀W,Below w.heap.size w W->Calls prog 14 #[.agg #[.slice G.aR G.R.length G.cR,.slice G.aS G.S.length G.cS,.slice G.aP G.P.length G.cP,.slice G.aL G.L.length G.cL,.int .i64 G.st],.agg #[.bool true,.int .i64 G.st]] W (xU (dT G ⟨true,G.st⟩) W)):=fun W k=>J5 G ⟨true,G.st⟩ W (hA.below k) (hL.mono (by omega))
 clear hA hL hR;obtain⟨w2,bQ⟩:∃w2,((w.alloc (.cells #[.slice G.aR G.R.length G.cR,.slice G.aS G.S.length G.cS,.slice G.aP G.P.length G.cP,.slice G.aL G.L.length G.cL,.int .i64 G.st] 27)).alloc (.cells #[.int .i64 0,.int .i64 0,.int .i64 0] 32))=w2:=⟨_,rfl⟩
 have H:Hid (ez w2 w.heap.size G/\w2.heap[(w.heap.size+1)]?=some (.cells #[.int .i64 0,.int .i64 0,.int .i64 0] 32 (0,0))/\Below w.heap.size w w2):=by
  rw[<-bQ];have k0:=al w (.cells #[.slice G.aR G.R.length G.cR,.slice G.aS G.S.length G.cS,.slice G.aP G.P.length G.cP,.slice G.aL G.L.length G.cL,.int .i64 G.st] 27);have k1:=al (w.alloc (.cells #[.slice G.aR G.R.length G.cR,.slice G.aS G.S.length G.cS,.slice G.aP G.P.length G.cP,.slice G.aL G.L.length G.cL,.int .i64 G.st] 27)) (.cells #[.int .i64 0,.int .i64 0,.int .i64 0] 32);exact⟨((ez.new w G 27).below k1),(by have h9:=(heap_alloc_new (w.alloc (.cells #[.slice G.aR G.R.length G.cR,.slice G.aS G.S.length G.cS,.slice G.aP G.P.length G.cP,.slice G.aL G.L.length G.cL,.int .i64 G.st] 27)) (.cells #[.int .i64 0,.int .i64 0,.int .i64 0] 32));simpa using h9),(k0.trans (k1.mono k0.size))⟩
 have ld:Hid (w2.heap.size=w.heap.size+2):=by show _=_;rw[<-bQ];simp
 go_enter func9,ntmps9;go_upto_region 1 with fail
 try rw[bQ]
 clear bQ;obtain⟨b,hb⟩:∃b,w.heap.size=b:=⟨_,rfl⟩
 have HX:Hid (yU w b G w2):=by
  have h8:=ld.out;rw[<-hb];exact⟨H.out.1,H.out.2.1,H.out.2.2,by omega,le_refl _⟩
 rw[hb];clear hb H ld;have c0:=HX.out.1.c0;have yj:=hid (HR.out w2 HX.out.2.2.1);go_wp2_with (go_at_call 26;refine yj.out.mono ?_;rintro e w3 ⟨ai,er,rfl,hq,b3⟩;refine Hid.out ?_);refine hid ?_;have ff:=hid (HX.out.aa b3);have HQ:=hid hq;clear c0 yj HX HR b3 hq;by_cases h0:er=0
 case neg=>
  have j0:(er != 0)=true:=by simpa using h0
  have HC:Hid (jn G ai er=(er,1,ai)):=if_pos h0;clear h0;obtain⟨⟨t0,t1,t2⟩,f0,f1,f2⟩:=ff.out.cells;obtain⟨q0,q1,q2⟩:=E7 ff.out.2.1 (.int .i64 er) (.int .i64 1) (.int .i64 ai);have HZ:Hid (∀W,Below w.heap.size w W->zO Q G w (.returned (.agg #[.int .i64 er,.int .i64 1,.int .i64 ai])) W):=fun W k=>⟨_,_,HQ.out,by rw[HC.out],k⟩
  go_wp2_with fail;exact bodyPost_ret (v:=.agg #[.int .i64 er,.int .i64 1,.int .i64 ai]) (by simp[results,results9,go_sem,q0,q1,q2]) rfl (HZ.out _ (ff.out.put _ _ _))
 subst h0;have HC:Hid (jn G ai 0=bY G):=if_neg (by simp);have c0:=ff.out.1.c0;have c1:=ff.out.1.c1;have c2:=ff.out.1.c2;have c3:=ff.out.1.c3;have c4:=ff.out.1.c4;have Be:=hid (dz.out w3 ff.out.2.2.1);go_wp2_with (go_at_call 27;refine Be.out.mono ?_;rintro e w4 ⟨LS,Ex,rfl,VE,b4⟩;refine Hid.out ?_);refine hid ?_;have kt:=hid (ff.out.aa b4);have P5:=hid (zpK VE);clear c0 c1 c2 c3 c4 Be dz b4 VE ff;by_cases h0:Ex=0
 case neg=>
  have j0:(Ex != 0)=true:=by simpa using h0
  have sJ:Hid (jn G ai 0=(Ex,2,LS)):=by show _=_;rw[HC.out,P5.out.1 h0]
  clear h0;obtain⟨⟨t0,t1,t2⟩,f0,f1,f2⟩:=kt.out.cells;obtain⟨q0,q1,q2⟩:=E7 kt.out.2.1 (.int .i64 Ex) (.int .i64 2) (.int .i64 LS);have HZ:Hid (∀W,Below w.heap.size w W->zO Q G w (.returned (.agg #[.int .i64 Ex,.int .i64 2,.int .i64 LS])) W):=fun W k=>⟨_,_,HQ.out,by rw[sJ.out],k⟩
  go_wp2_with fail;exact bodyPost_ret (v:=.agg #[.int .i64 Ex,.int .i64 2,.int .i64 LS]) (by simp[results,results9,go_sem,q0,q1,q2]) rfl (HZ.out _ (kt.out.put _ _ _))
 have vI:=hid (P5.out.2 h0);subst h0;clear P5;have c0:=kt.out.1.c0;have c1:=kt.out.1.c1;have c2:=kt.out.1.c2;have c3:=kt.out.1.c3;have c4:=kt.out.1.c4;have Vz:=hid (oD.out w4 kt.out.2.2.1);go_wp2_with (go_at_call 28;refine Vz.out.mono ?_;rintro e w5 ⟨Ma,Fm,rfl,U1,b5⟩;refine Hid.out ?_);refine hid ?_;have kA:=hid (kt.out.aa b5);have QW:=hid (zpL vI.out U1);clear c0 c1 c2 c3 c4 Vz oD b5 U1 kt;by_cases h0:Fm=0
 case neg=>
  have j0:(Fm != 0)=true:=by simpa using h0
  have sJ:Hid (jn G ai 0=(Fm,3,Ma)):=by show _=_;rw[HC.out,QW.out.1 h0]
  clear h0;obtain⟨⟨t0,t1,t2⟩,f0,f1,f2⟩:=kA.out.cells;obtain⟨q0,q1,q2⟩:=E7 kA.out.2.1 (.int .i64 Fm) (.int .i64 3) (.int .i64 Ma);have HZ:Hid (∀W,Below w.heap.size w W->zO Q G w (.returned (.agg #[.int .i64 Fm,.int .i64 3,.int .i64 Ma])) W):=fun W k=>⟨_,_,HQ.out,by rw[sJ.out],k⟩
  go_wp2_with fail;exact bodyPost_ret (v:=.agg #[.int .i64 Fm,.int .i64 3,.int .i64 Ma]) (by simp[results,results9,go_sem,q0,q1,q2]) rfl (HZ.out _ (kA.out.put _ _ _))
 have HK4:=hid (QW.out.2 h0);subst h0;clear QW;have c0:=kA.out.1.c0;have c1:=kA.out.1.c1;have c2:=kA.out.1.c2;have c3:=kA.out.1.c3;have c4:=kA.out.1.c4;have UB:=hid (WR.out w5 kA.out.2.2.1);go_wp2_with (go_at_call 29;refine UB.out.mono ?_;rintro e w6 ⟨Lx,ED,rfl,L3,b6⟩;refine Hid.out ?_);refine hid ?_;have yp:=hid (kA.out.aa b6);have PJ:=hid (zpM vI.out HK4.out L3);clear c0 c1 c2 c3 c4 UB WR b6 L3 kA;by_cases h0:ED=0
 case neg=>
  have j0:(ED != 0)=true:=by simpa using h0
  have sJ:Hid (jn G ai 0=(ED,4,Lx)):=by show _=_;rw[HC.out,PJ.out.1 h0]
  clear h0;obtain⟨⟨t0,t1,t2⟩,f0,f1,f2⟩:=yp.out.cells;obtain⟨q0,q1,q2⟩:=E7 yp.out.2.1 (.int .i64 ED) (.int .i64 4) (.int .i64 Lx);have HZ:Hid (∀W,Below w.heap.size w W->zO Q G w (.returned (.agg #[.int .i64 ED,.int .i64 4,.int .i64 Lx])) W):=fun W k=>⟨_,_,HQ.out,by rw[sJ.out],k⟩
  go_wp2_with fail;exact bodyPost_ret (v:=.agg #[.int .i64 ED,.int .i64 4,.int .i64 Lx]) (by simp[results,results9,go_sem,q0,q1,q2]) rfl (HZ.out _ (yp.out.put _ _ _))
 have B8:=hid (PJ.out.2 h0);subst h0;clear PJ;have c0:=yp.out.1.c0;have c1:=yp.out.1.c1;have c2:=yp.out.1.c2;have c3:=yp.out.1.c3;have c4:=yp.out.1.c4;go_upto_region 13 with fail;have kd:Below w6.heap.size w6 w6.drew:=⟨rfl,rfl,rfl,le_refl _,fun _ _=>rfl⟩
 have NO:=hid (yp.out.aa kd);clear kd yp c0 c1 c2 c3 c4;generalize sd:w6.drew=w7 at NO;refine wp_region_held_drew (S:=fun W'=>yU w b G W') (by kernel_rfl) (by rw[sd];exact NO.out) (fun hHeld=>?_);rw[sd] at hHeld⊢;clear sd NO;obtain⟨bo,jE⟩:∃bo,dT G ⟨true,G.st⟩=bo:=⟨_,rfl⟩
 have kn:Hid (bo=true↔¬(G.st<0\/(G.S.length:Int)<=G.st)):=by
  show _↔_;rw[<-jE,show dT G ⟨true,G.st⟩=tT G G.st from rfl,Ns];simp only[Bool.and_eq_true,decide_eq_true_eq];omega
 rw[jE] at AO;clear jE;refine aq 0 (v:=.agg #[.slice G.aR G.R.length G.cR,.slice G.aS G.S.length G.cS,.slice G.aP G.P.length G.cP,.slice G.aL G.L.length G.cL,.int .i64 G.st]) ?_ (hy:=by intro wz hSw;have y0:=hSw.1.c0;have y1:=hSw.1.c1;have y2:=hSw.1.c2;have y3:=hSw.1.c3;have y4:=hSw.1.c4;(try simp only[Act.put,sA,sB,sC]);go_simp;first|done|with_reducible rfl)
 try simp only[Act.put,sA,sB,sC]
 refine aq 1 ?_ (hy:=by intro wz hSw;have y0:=hSw.1.c0;have y1:=hSw.1.c1;have y2:=hSw.1.c2;have y3:=hSw.1.c3;have y4:=hSw.1.c4;(try simp only[Act.put,sA,sB,sC]);go_simp;first|done|with_reducible rfl)
 try simp only[Act.put,sA,sB,sC]
 refine aq 2 ?_ (hy:=by intro wz hSw;have y0:=hSw.1.c0;have y1:=hSw.1.c1;have y2:=hSw.1.c2;have y3:=hSw.1.c3;have y4:=hSw.1.c4;(try simp only[Act.put,sA,sB,sC]);go_simp;first|done|with_reducible rfl)
 try simp only[Act.put,sA,sB,sC]
 refine aQ 3 (fun K hK=>?_);go_simp;go_at_call 30;refine (yh _ _).mono ?_;rintro e w8 ⟨rfl,b8⟩;have aJ:=hHeld.aa b8;clear b8 hHeld
 try go_wp2_with fail
 refine hK.out _ _ aJ (fun hHeld=>?_);clear hK K aJ
 try simp only[Act.put,sA,sB,sC]
 refine aQ 4 (fun K hK=>?_);go_simp;go_at_call 14;refine (AO.out _ hHeld.2.2.1).mono ?_;rintro e w8 ⟨rfl,b8⟩;have aJ:=hHeld.aa b8;clear b8 hHeld
 try go_wp2_with fail
 refine hK.out _ _ aJ (fun hHeld=>?_);clear hK K aJ
 try simp only[Act.put,sA,sB,sC]
 refine aq 5 ?_ (hy:=by intro wz hSw;have y0:=hSw.1.c0;have y1:=hSw.1.c1;have y2:=hSw.1.c2;have y3:=hSw.1.c3;have y4:=hSw.1.c4;(try simp only[Act.put,sA,sB,sC]);go_simp;first|done|with_reducible rfl)
 try simp only[Act.put,sA,sB,sC]
 refine wpAnyH_done (by kernel_rfl) ?_ _;have D6:=hid hHeld;clear hHeld AO;cases bo with
 | false=>
  have sJ:Hid (jn G ai 0=(11,5,0)):=by
   show _=_;rw[HC.out,B8.out,if_pos (Classical.byContradiction fun h=>by have:=kn.out.2 h;cases this)]
  obtain⟨⟨t0,t1,t2⟩,f0,f1,f2⟩:=D6.out.cells;obtain⟨q0,q1,q2⟩:=E7 D6.out.2.1 (.int .i64 11) (.int .i64 5) (.int .i64 0);have HZ:Hid (∀W,Below w.heap.size w W->zO Q G w (.returned (.agg #[.int .i64 11,.int .i64 5,.int .i64 0])) W):=fun W k=>⟨_,_,HQ.out,by rw[sJ.out],k⟩
  go_wp2_with fail;exact bodyPost_ret (v:=.agg #[.int .i64 11,.int .i64 5,.int .i64 0]) (by simp[results,results9,go_sem,q0,q1,q2]) rfl (HZ.out _ (D6.out.put _ _ _))
 | true=>
  have sJ:Hid (jn G ai 0=(0,0,0)):=by
   show _=_;rw[HC.out,B8.out,if_neg (kn.out.1 rfl)]
  obtain⟨⟨t0,t1,t2⟩,f0,f1,f2⟩:=D6.out.cells;obtain⟨q0,q1,q2⟩:=E7 D6.out.2.1 (.int .i64 0) (.int .i64 0) (.int .i64 0);have HZ:Hid (∀W,Below w.heap.size w W->zO Q G w (.returned (.agg #[.int .i64 0,.int .i64 0,.int .i64 0])) W):=fun W k=>⟨_,_,HQ.out,by rw[sJ.out],k⟩
  go_wp2_with fail;exact bodyPost_ret (v:=.agg #[.int .i64 0,.int .i64 0,.int .i64 0]) (by simp[results,results9,go_sem,q0,q1,q2]) rfl (HZ.out _ (D6.out.put _ _ _))
def fG(b:Nat):Gr:=⟨some ⟨b,0,none⟩,1,[⟨⟨#[80,76,85,83]⟩,0,⟨#[92,43]⟩⟩],some ⟨b+1,0,none⟩,1,[⟨#[69]⟩],some ⟨b+4,0,none⟩,1,[⟨0,⟨#[65,100,100]⟩,some ⟨b+2,0,none⟩,3,[⟨true,0⟩,⟨false,0⟩,⟨true,0⟩],false,-1,some ⟨b+3,0,none⟩,2,[0,0]⟩],none,0,[],0⟩
theorem SM(b:Nat):lB (fG b):=by
 refine⟨show 1<=20 by decide,fun i hi _=>?_,show 1<=20 by decide,show 1<=40 by decide,show 0<=20 by decide,fun i hi=>?_,fun i hi=>?_,fun i hi=>?_⟩
 ·obtain rfl:i=0:=by have:i<1:=hi;omega
  exact⟨show 2<=40 by decide,show 4<=100 by decide⟩
 ·obtain rfl:i=0:=by have:i<1:=hi;omega
  exact show 1<=100 by decide
 ·obtain rfl:i=0:=by have:i<1:=hi;omega
  exact⟨show 3<=100 by decide,show 3<=20 by decide,show 2<=20 by decide⟩
 have:i<0:=hi;omega
theorem zjg(b:Nat):qR (fG b) 0=⟨#[69,46,65,100,100,32,61,32,69,32,80,76,85,83,32,69]⟩:=by rfl
theorem znF(b:Nat):fL (fG b) 0=0:=LC (show bD ⟨#[69]⟩=true by decide +kernel) (fun k hk=>by omega) (fun k hk=>by
 obtain rfl:k=0:=by have:k<1:=hk;omega
 show (⟨#[80,76,85,83]⟩:ByteArray)≠⟨#[69]⟩
 intro h
 have:(⟨#[80,76,85,83]⟩:ByteArray).data=(⟨#[69]⟩:ByteArray).data:=by rw[h]
 revert this
 decide)
theorem znG(b:Nat):fY (fG b) 0=0:=by
 have h:=IN (G:=fG b) (i:=0) (x:=⟨0,⟨#[65,100,100]⟩,some ⟨b+2,0,none⟩,3,[⟨true,0⟩,⟨false,0⟩,⟨true,0⟩],false,-1,some ⟨b+3,0,none⟩,2,[0,0]⟩) rfl (show ¬((0:Int)<0\/((1:Nat):Int)<=0) by decide) (show bD ⟨#[65,100,100]⟩=true by decide +kernel) (show ¬12<3 by decide) rfl;rw[h,if_neg (fun ⟨k,hk,_⟩=>by omega),if_neg,if_neg,if_neg (fun h=>h.1 rfl),if_neg (fun h=>by cases h.1)]
 ·rintro⟨z,hz,h⟩;have:z=0:=by
   have h1:z∈[(0:Int),0]:=hz;simpa using h1
  omega
 rintro⟨y,hy,h⟩;have h1:y∈[(⟨true,0⟩:Sy),⟨false,0⟩,⟨true,0⟩]:=hy;have h2:y=⟨true,0⟩\/y=⟨false,0⟩:=by
  simp at h1;rcases h1 with h1|h1
  ·exact inl h1
  exact h1.symm
 rcases h2 with rfl|rfl
 ·have:dT (fG b) ⟨true,0⟩=true:=by rfl
  rw[this] at h;cases h
 have:dT (fG b) ⟨false,0⟩=true:=by rfl
 rw[this] at h;cases h
theorem zlj(b:Nat):bY (fG b)=(0,0,0):=by
 have h1:iY (fL (fG b)) (fG b).S.length=0:=vy (fun j hj=>by
  obtain rfl:j=0:=by have:j<1:=hj;omega
  exact znF b)
 have h2:iY (fY (fG b)) (fG b).P.length=0:=vy (fun j hj=>by
  obtain rfl:j=0:=by have:j<1:=hj;omega
  exact znG b)
 have h3:iY (oC (fG b)) (fG b).L.length=0:=rfl;unfold bY;rw[if_neg (show ¬300<(fG b).S.length from (show ¬300<1 by decide)),if_neg (by rw[h1];simp),if_neg (show ¬200<(fG b).P.length from (show ¬200<1 by decide)),if_neg (by rw[h2];simp),if_neg (by rw[h3];simp),if_neg (show ¬((fG b).st<0\/((fG b).S.length:Int)<=(fG b).st) from (show ¬((0:Int)<0\/((1:Nat):Int)<=0) by decide))]
theorem Jr(a b:ByteArray):ae (a++b)=ae a++ae b:=by simp[ae,ByteArray.data_append]
theorem vY(a:ByteArray):(ae a).length=a.size:=by simp[ae]
def WrP(g:Nat)(l:List Nat)(t:ByteArray)(w:World)(e:Ending)(w':World):Prop:=e=.returned (.tuple #[.int .i64 ((t.size:Nat):Int),.nilIface])/\lJ g g (l++ae t) w'/\Below g w w'/\Lib.OthersKept 5 (some g) w w'
theorem Et(g:Nat)(l:List Nat)(t:ByteArray)(w:World)(h:lJ g g l w)(hs:l.length+t.size<=1000000)(hg:g<=w.heap.size):
  Calls prog 46 #[.pointer (some ⟨g,0,none⟩),.string t] w (WrP g l t w):=by
 have h1:=zhT g g l (ae t) w h (JI t) (by rw[vY];omega) hg;rw[XZ,vY] at h1;exact h1
def LnA(w:World)(b b5 g:Nat)(G:Gr)(p:fC)(W0:World):Prop:=∀W',Below g W0 W'->ez W' b G/\tO W' b5 p/\G.At W'/\p.At W'/\Below w.heap.size w W'/\g<=W'.heap.size
theorem zh7(G:Gr)(i:Int)(w:World)(hA:G.At w)(hF:lB G):
  Calls prog 19 #[G.val,.int .i64 i] w (zB (qR G i) w):=by
 show Calls prog 19 #[.agg #[.slice G.aR G.R.length G.cR,.slice G.aS G.S.length G.cS,.slice G.aP G.P.length G.cP,.slice G.aL G.L.length G.cL,.int .i64 G.st],.int .i64 i] w _;have HA:=hid (Zz hA hF);have xd:G.P.length<=1000000:=by have:=(hF.lim (m:=1000000) (by omega)).p;omega
 clear hA hF;obtain⟨w2,bQ⟩:∃w2,(w.alloc (.cells #[.slice G.aR G.R.length G.cR,.slice G.aS G.S.length G.cS,.slice G.aP G.P.length G.cP,.slice G.aL G.L.length G.cL,.int .i64 G.st] 27))=w2:=⟨_,rfl⟩
 have H:Hid (ez w2 w.heap.size G/\Below w.heap.size w w2):=by
  rw[<-bQ];have k0:=al w (.cells #[.slice G.aR G.R.length G.cR,.slice G.aS G.S.length G.cS,.slice G.aP G.P.length G.cP,.slice G.aL G.L.length G.cL,.int .i64 G.st] 27);exact⟨(ez.new w G 27),k0⟩
 have ld:Hid (w2.heap.size=w.heap.size+1):=by show _=_;rw[<-bQ];simp
 go_enter func19,ntmps19;go_upto_region 1 with fail
 try rw[bQ]
 clear bQ;obtain⟨b,hb⟩:∃b,w.heap.size=b:=⟨_,rfl⟩
 have HX:Hid (ez w2 b G/\Below w.heap.size w w2):=by rw[<-hb];exact H.out
 rw[hb];clear hb H ld;have c2:=HX.out.1.c2;by_cases h0:0<=i/\i<(G.P.length:Int)
 case neg=>
  have HI:=hid (Q8 h0 w2);have HZ:=hid (zjz h0);clear h0;go_wp2_with (go_at_call 43;refine HI.out.mono ?_;rintro e w3 ⟨rfl,rfl⟩);go_ret;exact⟨by rw[HZ.out];rfl,HX.out.2⟩
 obtain⟨k,rfl⟩:=Int.eq_ofNat_of_zero_le h0.1;have HI:=hid (Ry h0 w2);have hk:k<G.P.length:=by omega
 have HZ:=hid (zlF hk);have Im:=hid (HA.out.2.ps k hk);obtain⟨g1,o1,e1,_,X,x0,x1,x2,x3,x4,x5⟩:=(HA.out.1.below HX.out.2).p.get k hk;rw[A8 hk] at HZ;rw[e1] at c2;have Rt:=hid X;have i9:(k:Int)<(G.P.length:Int):=h0.2;clear X h0;generalize G.P[k]=p at x0 x1 x2 x3 x4 x5 HZ Rt Im;have M4:=tO.new w2 p 47;have kb:=al w2 (.cells #[.int .i64 p.cj,.string p.cJ,.slice p.ab p.body.length p.cb,.bool p.par,.int .i64 p.prec,.slice p.ah p.hints.length p.ch] 47);obtain⟨b5,rJ⟩:∃b5,w2.heap.size=b5:=⟨_,rfl⟩
 obtain⟨W0,sr⟩:∃W0,w2.alloc (.cells #[.int .i64 p.cj,.string p.cJ,.slice p.ab p.body.length p.cb,.bool p.par,.int .i64 p.prec,.slice p.ah p.hints.length p.ch] 47)=W0:=⟨_,rfl⟩
 have nL:Hid (∀g,W0.heap.size=g->LnA w b b5 g G p W0):=fun g hg W' k=>by
  rw[sr] at M4 kb;subst hg;rw[<-rJ] at *;have k2:=(HX.out.2).trans ((kb.trans (k.mono kb.size)).mono HX.out.2.size);exact⟨(HX.out.1.below kb).below k,M4.below k,HA.out.1.below k2,(Rt.out.below kb).below k,k2,k.size⟩
 have ra:=hid (Zz (lJ.new W0) (al W0 (.cells #[.pointer none,.slice none 0 0] 78)));clear M4 kb hk;go_upto_region 5 with (first
  | (go_at_call 43;refine HI.out.mono ?_;rintro e w3 ⟨rfl,rfl⟩))
 obtain⟨g,hg⟩:∃g,W0.heap.size=g:=⟨_,rfl⟩
 have lA:=hid (nL.out g hg);rw[hg] at ra
 try rw[sr]
 try rw[rJ]
 rw[hg];clear i9 nL sr rJ hg HI e1 x0 x1 x2 x3 x4 x5 c2 Rt HX;generalize W0.alloc (.cells #[.pointer none,.slice none 0 0] 78)=W1 at ra⊢;have kD:Hid (∀(y:Sy) W,Below g W0 W->Calls prog 45 #[.agg #[.slice G.aR G.R.length G.cR,.slice G.aS G.S.length G.cS,.slice G.aP G.P.length G.cP,.slice G.aL G.L.length G.cL,.int .i64 G.st],.agg #[.bool y.s,.int .i64 y.n]] W (zB (ly G y) W)):=fun y W k=>zif G y W (lA.out W k).2.2.1 (HA.out.2.lim (by omega))
 have AI:=hid (fun y=>MP HA.out.2 y);have kd:Below W1.heap.size W1 W1.drew:=⟨rfl,rfl,rfl,le_refl _,fun _ _=>rfl⟩
 have nI:Hid (lJ g g [] W1.drew/\Below g W0 W1.drew):=⟨ra.out.1.aa kd,ra.out.2.trans (kd.mono (lA.out _ ra.out.2).2.2.2.2.2)⟩
 clear kd;generalize sd:W1.drew=W2 at nI;refine wp_region_held_drew (S:=fun W'=>Below g W0 W') (by kernel_rfl) (by rw[sd];exact nI.out.2) (fun hHeld=>?_);rw[sd] at hHeld⊢;clear sd ra;refine aq 0 (v:=.agg #[.slice G.aR G.R.length G.cR,.slice G.aS G.S.length G.cS,.slice G.aP G.P.length G.cP,.slice G.aL G.L.length G.cL,.int .i64 G.st]) ?_ (hy:=by intro wz hSw;obtain⟨np,hq2,_⟩:=lA.out wz hSw;have y0:=np.c0;have y1:=np.c1;have y2:=np.c2;have y3:=np.c3;have y4:=np.c4;have z0:=hq2.c0;(try simp only[Act.put,sA,sB,sC]);go_simp;first|done|with_reducible rfl)
 try simp only[Act.put,sA,sB,sC]
 refine aq 1 ?_ (hy:=by intro wz hSw;obtain⟨np,hq2,_⟩:=lA.out wz hSw;have y0:=np.c0;have y1:=np.c1;have y2:=np.c2;have y3:=np.c3;have y4:=np.c4;have z0:=hq2.c0;(try simp only[Act.put,sA,sB,sC]);go_simp;first|done|with_reducible rfl)
 try simp only[Act.put,sA,sB,sC]
 refine aq 2 ?_ (hy:=by intro wz hSw;obtain⟨np,hq2,_⟩:=lA.out wz hSw;have y0:=np.c0;have y1:=np.c1;have y2:=np.c2;have y3:=np.c3;have y4:=np.c4;have z0:=hq2.c0;(try simp only[Act.put,sA,sB,sC]);go_simp;first|done|with_reducible rfl)
 try simp only[Act.put,sA,sB,sC]
 refine aQ 3 (fun K hK=>?_);go_simp;go_at_call 30;refine (yh _ _).mono ?_;rintro e w8 ⟨rfl,b8⟩;have Pq:Hid (lJ g g [] w8/\Below g W0 w8):=⟨nI.out.1.aa b8,hHeld.trans (b8.mono (lA.out _ hHeld).2.2.2.2.2)⟩
 clear b8 hHeld nI
 try go_wp2_with fail
 refine hK.out _ _ Pq.out.2 (fun hHeld=>?_);clear hK K;refine aQ 4 (fun K hK=>?_);go_simp;go_at_call 45;refine (kD.out ⟨true,p.cj⟩ _ hHeld).mono ?_;rintro e w9 ⟨rfl,b8⟩;have ru:Hid (lJ g g [] w9/\Below g W0 w9):=⟨Pq.out.1.aa b8,hHeld.trans (b8.mono (lA.out _ hHeld).2.2.2.2.2)⟩
 clear b8 hHeld Pq
 try go_wp2_with fail
 refine hK.out _ _ ru.out.2 (fun hHeld=>?_);clear hK K;refine aQ 5 (fun K hK=>?_);go_simp;go_at_call 46;refine (Et g [] (ly G ⟨true,p.cj⟩) _ ru.out.1 (by have:=AI.out ⟨true,p.cj⟩;simp only[List.length_nil];omega) (lA.out _ hHeld).2.2.2.2.2).mono ?_;rintro e kP ⟨rfl,ey,b8,_⟩;have Gg:Hid (lJ g g (ae (ly G ⟨true,p.cj⟩)) kP/\Below g W0 kP):=⟨ey,hHeld.trans b8⟩
 clear b8 ey hHeld ru
 try go_wp2_with fail
 refine hK.out _ _ Gg.out.2 (fun hHeld=>?_);clear hK K;refine wpAnyH_done (by kernel_rfl) ?_ _;have Sd:=hid (AI.out ⟨true,p.cj⟩);have Bg:=hid (Et g (ae (ly G ⟨true,p.cj⟩)) ⟨#[46]⟩ kP Gg.out.1 (by have:=Sd.out;rw[vY];show _+1<=_;omega) (lA.out _ Gg.out.2).2.2.2.2.2);go_upto_region 7 with (go_at_call 46;refine Bg.out.mono ?_;rintro e w11 ⟨rfl,ey,b8,_⟩);have pY:=hid (Zz ey (Gg.out.2.trans b8));have z1:=(lA.out _ pY.out.2).2.1.c1;have kI:=hid (Et g _ p.cJ w11 pY.out.1 (by have:=Sd.out;have:=Im.out.1;rw[length_append,vY,vY];show _+1+_<=_;omega) (lA.out _ pY.out.2).2.2.2.2.2);clear ey b8 Bg Gg hHeld;go_upto_region 8 with (go_at_call 46;refine kI.out.mono ?_;rintro e w12 ⟨rfl,ey,b8,_⟩);have tu:=hid (Zz ey (pY.out.2.trans b8));have tM:=hid (Et g _ ⟨#[32,61]⟩ w12 tu.out.1 (by have:=Sd.out;have:=Im.out.1;rw[length_append,length_append,vY,vY,vY];show _+1+_+2<=_;omega) (lA.out _ tu.out.2).2.2.2.2.2);clear ey b8 kI pY z1;go_upto_region 9 with (go_at_call 46;refine tM.out.mono ?_;rintro e N4 ⟨rfl,ey,b8,_⟩);have yK:Hid (lJ g g (ae (jJ G p 0)) N4/\Below g W0 N4):=⟨by
  show lJ g g (ae (((ly G ⟨true,p.cj⟩++⟨#[46]⟩)++p.cJ)++⟨#[32,61]⟩)) N4
  rw[Jr,Jr,Jr];exact ey,tu.out.2.trans b8⟩
 have z2:=(lA.out _ yK.out.2).2.1.c2;obtain⟨n,hn⟩:∃n,p.body.length=n:=⟨_,rfl⟩
 have HN:=hid hn;rw[hn] at z2;have Rm:n<=20:=by have:=Im.out.2.1;omega
 clear ey b8 tM tu hn;go_wp2;go_loopw [8,34] (fun _ v wr=>∃k:Nat,v=.int .i64 (k:Int)/\k<=n/\Hid (lJ g g (ae (jJ G p k)) wr/\Below g W0 wr)) (fun _ v _=>n-(intOf v).toNat)
 ·exact⟨0,rfl,zero_le _,yK.out⟩
 clear yK z2;obtain⟨q,rfl,hq,HR⟩:=hrel;by_cases aw:q<n
 case neg=>
  obtain rfl:q=n:=by omega
  have HT:=hid (zk8 g g (ae (jJ G p q)) wr HR.out.1 (JI _) (lA.out _ HR.out.2).2.2.2.2.2);go_wp2_with (go_at_call 47;refine HT.out.mono ?_;rintro e w14 ⟨rfl,b8⟩);go_ret;refine⟨?_,(lA.out _ (HR.out.2.trans b8)).2.2.2.2.1⟩;rw[HZ.out,HN.out,XZ];rfl
 have hkl:q<p.body.length:=by rw[HN.out];exact aw
 obtain⟨g1,o1,e1,_,y0,y1⟩:=(lA.out _ HR.out.2).2.2.2.1.b.get q hkl;have HU:Hid (jJ G p (q+1)=(jJ G p q++⟨#[32]⟩)++ly G p.body[q]):=by show _=_;simp[jJ,hkl]
 have TH:=hid (zjy HA.out.2 Im.out.1 q);have i1:(q:Int)<n:=by omega
 generalize p.body[q]=y at y0 y1 HU;obtain⟨ys,yn⟩:=y;dsimp only at y0 y1;have z2:=(lA.out _ HR.out.2).2.1.c2;rw[HN.out,e1] at z2;have kS:=al wr (.cells #[.bool ys,.int .i64 yn] 38);have sS:=tG.new wr ⟨ys,yn⟩ 38;obtain⟨b8,BG⟩:∃b8,wr.heap.size=b8:=⟨_,rfl⟩
 have dB:Hid ((wr.alloc (.cells #[.bool ys,.int .i64 yn] 38)).heap[b8]?=some (.cells #[.bool ys,.int .i64 yn] 38 (0,0))/\lJ g g (ae (jJ G p q)) (wr.alloc (.cells #[.bool ys,.int .i64 yn] 38))/\Below g W0 (wr.alloc (.cells #[.bool ys,.int .i64 yn] 38))/\g<b8):=⟨by rw[<-BG];exact heap_alloc_new wr _,HR.out.1.aa kS,HR.out.2.trans (kS.mono (lA.out _ HR.out.2).2.2.2.2.2),by rw[<-BG];exact HR.out.1.lt⟩
 clear kS sS hkl;go_upto_region 12 with fail
 try rw[BG]
 clear BG y0 y1 z2 e1;generalize wr.alloc (.cells #[.bool ys,.int .i64 yn] 38)=W3 at dB⊢;have HW:=hid (Et g _ ⟨#[32]⟩ W3 dB.out.2.1 (by have:=TH.out;rw[vY];show _+1<=_;omega) (lA.out _ dB.out.2.2.1).2.2.2.2.2);go_upto_region 13 with (go_at_call 46;refine HW.out.mono ?_;rintro e w4 ⟨rfl,ey,b9,Xw⟩);have h8:=Xw b8 _ dB.out.1 (by have:=dB.out.2.2.2;simp;omega) (fun c fz e=>by injection e with _ e2;exact absurd e2 (by decide));have u0:w4.cell? ⟨b8,0,none⟩=some (.bool ys):=by rw[cell_of_row w4 _ 0 _ _ _ h8];rfl
 have u1:w4.cell? ⟨b8,1,none⟩=some (.int .i64 yn):=by rw[cell_of_row w4 _ 1 _ _ _ h8];rfl
 have yQ:Hid (lJ g g (ae (jJ G p q)++ae ⟨#[32]⟩) w4/\Below g W0 w4):=⟨ey,dB.out.2.2.1.trans b9⟩
 have hG:=(lA.out _ yQ.out.2).1;have y0:=hG.c0;have y1:=hG.c1;have y2:=hG.c2;have y3:=hG.c3;have y4:=hG.c4;have VX:=hid (kD.out ⟨ys,yn⟩ w4 yQ.out.2);clear ey b9 Xw h8 HW dB hG HR;go_wp2_with (go_at_call 45;refine VX.out.mono ?_;rintro e w5 ⟨rfl,b9⟩;refine Hid.out ?_);refine hid ?_;have My:Hid (lJ g g (ae (jJ G p q)++ae ⟨#[32]⟩) w5/\Below g W0 w5):=⟨yQ.out.1.aa b9,yQ.out.2.trans (b9.mono (lA.out _ yQ.out.2).2.2.2.2.2)⟩
 clear b9 VX yQ u0 u1 y0 y1 y2 y3 y4;have HW:=hid (Et g _ (ly G ⟨ys,yn⟩) w5 My.out.1 (by have:=TH.out;have:=AI.out ⟨ys,yn⟩;rw[length_append,vY,vY];show _+1+_<=_;omega) (lA.out _ My.out.2).2.2.2.2.2);go_wp2_with (go_at_call 46;refine HW.out.mono ?_;rintro e w6 ⟨rfl,ey,b9,_⟩;refine Hid.out ?_);refine hid ?_;have HBA:Hid (lJ g g (ae (jJ G p (q+1))) w6/\Below g W0 w6):=⟨by rw[HU.out,Jr,Jr];exact ey,My.out.2.trans b9⟩
 clear ey b9 HW My;go_wp2;go_roundw
 ·exact⟨q+1,by go_num,by omega,HBA.out⟩
 simp[intOf];omega
theorem znH(c:Nat)(hc:c<256)(s:List Nat):eQ (.leaf ⟨1,iQ (fun _=>c) 1⟩) s↔s=[c]:=by
 rw[Ld,if_pos rfl];constructor
 ·rintro⟨b,rfl,_,h⟩;obtain⟨j,_,e⟩:=(Qs _ _ _).1 h;rw[<-e]
 rintro rfl;exact⟨c,rfl,hc,(Qs _ _ _).2 ⟨0,by omega,rfl⟩⟩
theorem zlk{pre:List Ru}(h:E1 pre x er)(h1:bD x.nm=true)(h2:∀y∈pre,y.nm≠x.nm)(h3:lG x.k=true)(ht:lZ x.rx t)(hn:nB (fx t 0)<=2)(he:¬eQ t []):er=0:=by
 rcases h with ⟨h4,_⟩|⟨_,⟨⟨y,hy,e⟩,_⟩|⟨_,⟨h4,_⟩|⟨_,⟨e5,h4,_⟩|⟨t',sq,h5⟩⟩⟩⟩
 ·rw[h1] at h4;cases h4
 ·exact absurd e (h2 y hy)
 ·rw[h3] at h4;cases h4
 ·exact (ht.xN h4).elim
 have hf:=sq.flat ht;have hE:=QK sq.1 ht.1 hf;rcases h5 with ⟨h6,_⟩|⟨h6,_⟩|⟨_,h6⟩
 ·have h6:=h6.1;rw[hE] at h6;have:2 ^ nB (fx t 0)<=2 ^ 2:=Nat.pow_le_pow_right (by omega) hn;omega
 ·refine absurd ?_ he;have:=(Wk sq.1 ht.1 hf (fun _=>0) (fun _=>by omega) 0).1;exact this h6
 exact h6
def Rb:Rx:=.leaf ⟨1,iQ (fun _=>43) 1⟩
def B5:ByteArray:=⟨#[92,43]⟩
def CQ:ByteArray:=⟨#[80,76,85,83]⟩
theorem zoU:lZ B5 Rb:=⟨⟨rfl,by decide +kernel⟩,by kernel_rfl,by decide +kernel⟩
theorem zoV:nB (fx Rb 0)<=2:=by decide +kernel
theorem zll{w:World}{e:Ending}(h:Bj [⟨CQ,0,B5⟩] w e w'):e=.returned (.tuple #[.int .i64 1,.int .i64 0])/\Below w.heap.size w w':=by
 refine⟨?_,h.1⟩;rcases h.2 with ⟨h1,_⟩|⟨i,hi,er,hne,_,hr,_⟩|⟨_,_,rfl⟩
 ·simp at h1
 ·exfalso;obtain rfl:i=0:=by simpa using hi
  exact hne (zlk (t:=Rb) hr (show bD CQ=true by decide +kernel) (fun y hy=>by simp at hy) (show lG 0=true by decide) zoU zoV (fun hh=>by have:=(znH 43 (by omega) []).1 hh;simp at this))
 rfl
theorem znI(hz:n+5<=W.heap.size)(g0:W.heap[n]?=some (.cells #[.string ⟨#[80,76,85,83]⟩,.int .i64 0,.string ⟨#[92,43]⟩] 55 (0,0)))(g1:W.heap[n+1]?=some (.cells #[.string ⟨#[69]⟩] 9 (0,0)))
  (g2:W.heap[n+2]?=some (.cells #[.bool true,.int .i64 0,.bool false,.int .i64 0,.bool true,.int .i64 0] 38 (0,0))) (g3:W.heap[n+3]?=some (.cells #[.int .i64 0,.int .i64 0] 3 (0,0)))
  (g4:W.heap[n+4]?=some (.cells #[.int .i64 0,.string ⟨#[65,100,100]⟩,.slice (some ⟨n+2,0,none⟩) 3 3,.bool false,.int .i64 (-1),.slice (some ⟨n+3,0,none⟩) 2 2] 47 (0,0))):(fG n).At W:=by
 refine⟨fun _=>⟨n,0,rfl,by omega,fun j hj=>?_⟩,fun _=>⟨n+1,0,rfl,by omega,fun j hj=>?_⟩,fun _=>⟨n+4,0,rfl,by omega,fun i hi=>?_⟩,fun h=>absurd h (by show ¬0<0;omega)⟩
 ·have h3:j<3:=hj;rw[cell_of_row W _ _ _ _ _ g0];rcases (by omega:j=0\/j=1\/j=2) with rfl|rfl|rfl <;> rfl
 ·obtain rfl:j=0:=by have:j<1:=hj;omega
  rw[cell_of_row W _ _ _ _ _ g1];rfl
 obtain rfl:i=0:=by have:i<1:=hi;omega
 refine⟨⟨fun _=>⟨n+2,0,rfl,by omega,fun i hi j hj=>?_⟩,fun _=>⟨n+3,0,rfl,by omega,fun j hj=>?_⟩⟩,fun j hj=>?_⟩
 ·have h3:i<3:=hi;rw[cell_of_row W _ _ _ _ _ g2];rcases (by omega:i=0\/i=1\/i=2) with rfl|rfl|rfl <;> rcases (by omega:j=0\/j=1) with rfl|rfl <;> rfl
 ·have h3:j<2:=hj;rw[cell_of_row W _ _ _ _ _ g3];rcases (by omega:j=0\/j=1) with rfl|rfl <;> rfl
 rw[cell_of_row W _ _ _ _ _ g4];rcases (by omega:j=0\/j=1\/j=2\/j=3\/j=4\/j=5) with rfl|rfl|rfl|rfl|rfl|rfl <;> rfl
theorem zgf(w:World):Calls prog 7 #[] w (zc w):=by
 obtain⟨n,hn⟩:∃n,w.heap.size=n:=⟨_,rfl⟩
 obtain⟨W1,h1⟩:∃W1,w.alloc (.cells #[.string ⟨#[80,76,85,83]⟩,.int .i64 0,.string ⟨#[92,43]⟩] 55)=W1:=⟨_,rfl⟩
 have k1:=al w (.cells #[.string ⟨#[80,76,85,83]⟩,.int .i64 0,.string ⟨#[92,43]⟩] 55);have g1:=heap_alloc_new w (.cells #[.string ⟨#[80,76,85,83]⟩,.int .i64 0,.string ⟨#[92,43]⟩] 55);have z1:W1.heap.size=n+1:=by rw[<-h1];simp[hn]
 rw[h1] at k1 g1;rw[hn] at g1 k1;obtain⟨W2,h2⟩:∃W2,W1.alloc (.cells #[.string ⟨#[69]⟩] 9)=W2:=⟨_,rfl⟩
 have k2:=al W1 (.cells #[.string ⟨#[69]⟩] 9);have g2:=heap_alloc_new W1 (.cells #[.string ⟨#[69]⟩] 9);have z2:W2.heap.size=n+2:=by rw[<-h2];simp[z1]
 rw[h2] at k2 g2;rw[z1] at g2 k2;obtain⟨W3,h3⟩:∃W3,W2.alloc (.cells #[.bool true,.int .i64 0,.bool false,.int .i64 0,.bool true,.int .i64 0] 38)=W3:=⟨_,rfl⟩
 have k3:=al W2 (.cells #[.bool true,.int .i64 0,.bool false,.int .i64 0,.bool true,.int .i64 0] 38);have g3:=heap_alloc_new W2 (.cells #[.bool true,.int .i64 0,.bool false,.int .i64 0,.bool true,.int .i64 0] 38);have z3:W3.heap.size=n+3:=by rw[<-h3];simp[z2]
 rw[h3] at k3 g3;rw[z2] at g3 k3;obtain⟨W4,h4⟩:∃W4,W3.alloc (.cells #[.int .i64 0,.int .i64 0] 3)=W4:=⟨_,rfl⟩
 have k4:=al W3 (.cells #[.int .i64 0,.int .i64 0] 3);have g4:=heap_alloc_new W3 (.cells #[.int .i64 0,.int .i64 0] 3);have z4:W4.heap.size=n+4:=by rw[<-h4];simp[z3]
 rw[h4] at k4 g4;rw[z3] at g4 k4;obtain⟨W5,h5⟩:∃W5,W4.alloc (.cells #[.int .i64 0,.string ⟨#[65,100,100]⟩,.slice (some ⟨n+1+1,0,none⟩) 3 3,.bool false,.int .i64 (-1),.slice (some ⟨n+1+1+1,0,none⟩) 2 2] 47)=W5:=⟨_,rfl⟩
 have k5:=al W4 (.cells #[.int .i64 0,.string ⟨#[65,100,100]⟩,.slice (some ⟨n+1+1,0,none⟩) 3 3,.bool false,.int .i64 (-1),.slice (some ⟨n+1+1+1,0,none⟩) 2 2] 47);have g5:=heap_alloc_new W4 (.cells #[.int .i64 0,.string ⟨#[65,100,100]⟩,.slice (some ⟨n+1+1,0,none⟩) 3 3,.bool false,.int .i64 (-1),.slice (some ⟨n+1+1+1,0,none⟩) 2 2] 47);have z5:W5.heap.size=n+5:=by rw[<-h5];simp[z4]
 rw[h5] at k5 g5;rw[z4] at g5 k5;obtain⟨W6,h6⟩:∃W6,W5.alloc (.cells #[.slice (some ⟨n,0,none⟩) 1 1,.slice (some ⟨n+1,0,none⟩) 1 1,.slice (some ⟨n+1+1+1+1,0,none⟩) 1 1,.slice none 0 0,.int .i64 0] 27)=W6:=⟨_,rfl⟩
 have k6:=al W5 (.cells #[.slice (some ⟨n,0,none⟩) 1 1,.slice (some ⟨n+1,0,none⟩) 1 1,.slice (some ⟨n+1+1+1+1,0,none⟩) 1 1,.slice none 0 0,.int .i64 0] 27);have g6:=heap_alloc_new W5 (.cells #[.slice (some ⟨n,0,none⟩) 1 1,.slice (some ⟨n+1,0,none⟩) 1 1,.slice (some ⟨n+1+1+1+1,0,none⟩) 1 1,.slice none 0 0,.int .i64 0] 27);have z6:W6.heap.size=n+6:=by rw[<-h6];simp[z5]
 rw[h6] at k6 g6;rw[z5] at g6 k6;have e2:W6.heap[n+1]?=_:=(k6.block _ (by omega)).trans ((k5.block _ (by omega)).trans ((k4.block _ (by omega)).trans ((k3.block _ (by omega)).trans g2)));have e1:W6.heap[n]?=_:=(k6.block _ (by omega)).trans ((k5.block _ (by omega)).trans ((k4.block _ (by omega)).trans ((k3.block _ (by omega)).trans ((k2.block _ (by omega)).trans g1))));have e3:W6.heap[n+2]?=_:=(k6.block _ (by omega)).trans ((k5.block _ (by omega)).trans ((k4.block _ (by omega)).trans g3));have e4:W6.heap[n+3]?=_:=(k6.block _ (by omega)).trans ((k5.block _ (by omega)).trans g4);have e5:W6.heap[n+4]?=_:=(k6.block _ (by omega)).trans g5;have HA:=hid (znI (by omega) e1 e2 e3 e4 e5);have HG:Hid (ez W6 (n+5) (fG n)):=⟨by rw[cell_of_row W6 _ _ _ _ _ g6];rfl,by rw[cell_of_row W6 _ _ _ _ _ g6];rfl,by rw[cell_of_row W6 _ _ _ _ _ g6];rfl,by rw[cell_of_row W6 _ _ _ _ _ g6];rfl,by rw[cell_of_row W6 _ _ _ _ _ g6];rfl,by omega⟩
 have HB:Hid (Below n w W6):=(((((k1.trans (k2.mono (by omega))).trans (k3.mono (by omega))).trans (k4.mono (by omega))).trans (k5.mono (by omega))).trans (k6.mono (by omega)))
 have Hh:=hid (Zz h1 (Zz h2 (Zz h3 (Zz h4 (Zz h5 h6)))));have Hn:=hid hn;have Hz:=hid z6;clear k1 k2 k3 k4 k5 k6 g1 g2 g3 g4 g5 g6 z1 z2 z3 z4 z5 z6 e1 e2 e3 e4 e5 h1 h2 h3 h4 h5 h6 hn;go_enter func7,ntmps7;go_upto_region 2 with fail;rw[Hn.out,Hh.out.1,Hh.out.2.1,Hh.out.2.2.1,Hh.out.2.2.2.1,Hh.out.2.2.2.2.1,Hh.out.2.2.2.2.2];have U8:Hid (Calls prog 19 #[.agg #[.slice (some ⟨n,0,none⟩) 1 1,.slice (some ⟨n+1,0,none⟩) 1 1,.slice (some ⟨n+1+1+1+1,0,none⟩) 1 1,.slice none 0 0,.int .i64 0],.int .i64 0] W6 (zB ⟨#[69,46,65,100,100,32,61,32,69,32,80,76,85,83,32,69]⟩ W6)):=by
  have h9:=zh7 (fG n) 0 W6 HA.out (SM n);rw[zjg] at h9;exact h9
 have Iq:Hid (∀W,Below W6.heap.size W6 W->Calls prog 9 #[.agg #[.slice (some ⟨n,0,none⟩) 1 1,.slice (some ⟨n+1,0,none⟩) 1 1,.slice (some ⟨n+1+1+1+1,0,none⟩) 1 1,.slice none 0 0,.int .i64 0]] W (fun e w'=>e=.returned (.agg #[.int .i64 0,.int .i64 0,.int .i64 0])/\Below W.heap.size W w')):=fun W kW=>by
  refine (VP (fun i er=>i=1/\er=0) (fG n) W (HA.out.below kW) ((SM n).lim (by omega)) (fun W' k'=>?_)).mono ?_
  ·refine (SI 1 1 (some ⟨n,0,none⟩) [⟨CQ,0,B5⟩] rfl (by omega) (le_refl _) (fun j hj=>?_) W' ((HA.out.below kW).below k').r).mono ?_
   ·obtain rfl:j=0:=(by have:j<1:=hj;omega);exact⟨show 4<=maxLen by unfold maxLen;omega,show 2<=1600 by omega⟩
   intro e w' h;obtain⟨h1,h2⟩:=zll h;exact⟨1,0,h1,⟨rfl,rfl⟩,h2⟩
  rintro e w' ⟨i,er,⟨rfl,rfl⟩,rfl,hb⟩;rw[show jn (fG n) 1 0=(0,0,0) by rw[<-zlj n];exact if_neg (by simp)];exact⟨rfl,hb⟩
 have HD:Hid (∀W,Below W6.heap.size W6 W->W.cell? ⟨n+1+1+1+1+1,0,none⟩=some (.slice (some ⟨n,0,none⟩) 1 1)/\W.cell? ⟨n+1+1+1+1+1,1,none⟩=some (.slice (some ⟨n+1,0,none⟩) 1 1)/\W.cell? ⟨n+1+1+1+1+1,2,none⟩=some (.slice (some ⟨n+1+1+1+1,0,none⟩) 1 1)/\W.cell? ⟨n+1+1+1+1+1,3,none⟩=some (.slice none 0 0)/\W.cell? ⟨n+1+1+1+1+1,4,none⟩=some (.int .i64 0)):=fun W k=>by
  have h9:=HG.out.below k;exact⟨h9.c0,h9.c1,h9.c2,h9.c3,h9.c4⟩
 obtain⟨c0,c1,c2,c3,c4⟩:=HD.out W6 (Below.refl _ _);go_wp2_with (go_at_call 19;refine U8.out.mono ?_;rintro e w7 ⟨rfl,b7⟩;refine Hid.out ?_);refine hid ?_;have yK:=hid b7;clear c0 c1 c2 c3 c4 U8 b7;obtain⟨c0,c1,c2,c3,c4⟩:=HD.out w7 yK.out;have uq:=hid (Iq.out w7 yK.out);go_wp2_with (go_at_call 9;refine uq.out.mono ?_;rintro e w8 ⟨rfl,b8⟩);go_ret;refine⟨rfl,?_⟩;rw[Hn.out];exact HB.out.trans ((yK.out.mono (by have:=Hz.out;omega)).trans (b8.mono (by have:=yK.out.size;have:=Hz.out;omega)))
theorem znJ{L:List En}{F:Nat}{nm jK:List Nat}{L1 L2:List En}{f f' k':Nat}{s s':Nat->Bool}{R R':List (List Int)}{A B:List (Nat->Bool)}(g1:Di L F nm L1 f s k R A)(g2:Di L F jK L2 f' s' k' R' B)(hb:2000<A.length)(hk:B.length=k')(eO:k'<=2000):False:=by
 by_cases e:k<=k'
 ·obtain⟨R3,S3,g3,g4,_⟩:=g2.run.cut k e;have hs:=(UX g1 g2 g1.run g3).2.1;have:=g4.length_le;omega
 obtain⟨R3,S3,g3,_,g5⟩:=g1.run.cut k' (by omega);have hs:=(UX g1 g2 g3 g2.run).2.1;have:=g5 (by omega);omega
theorem zpI{s:ByteArray}{t':Rx}(h:lZ s t)(h':lZ s t')(hb:QP t)(hs:Lj t'):False:=by
 have hf:=h.flat h';have hE:=QK h.1 h'.1 hf;obtain⟨_,nm,L1,f0,s0,k,R,SS,m1,hl⟩:=hb;obtain⟨jK,L1',f0',s0',k',R',jd,m2,hl',hk'⟩:=hs;have hR:ef t 0=ef t' 0:=by unfold ef;rw[hf]
 rw[hE,hR] at m1;exact znJ m1.w m2.w hl hl' hk'
theorem znK{pre:List Ru}{e1:Int}(h:E1 pre x e1)(k:E1 pre x 0):e1=0:=by
 rcases k with ⟨_,k⟩|⟨k1,⟨_,k⟩|⟨k2,⟨_,k⟩|⟨k3,⟨e5,k4,k⟩|⟨t,ht,⟨_,k⟩|⟨_,k⟩|⟨⟨k5,k6⟩,_⟩⟩⟩⟩⟩
 ·cases k
 ·cases k
 ·cases k
 ·rcases k4 with ⟨rfl,_⟩|⟨rfl,_⟩ <;> cases k
 ·cases k
 ·cases k
 rcases h with ⟨h1,_⟩|⟨h1,⟨⟨y,hy,hn⟩,_⟩|⟨h2,⟨h3,_⟩|⟨h3,⟨e5,h4,_⟩|⟨t',sq,⟨h5,_⟩|⟨h5,_⟩|⟨_,h⟩⟩⟩⟩⟩
 ·rw[k1] at h1;cases h1
 ·exact absurd hn (k2 y hy)
 ·rw[k3] at h3;cases h3
 ·exact (ht.xN h4).elim
 ·exact (zpI sq ht h5 k6).elim
 ·exact absurd ((Wk ht.1 sq.1 (ht.flat sq) (fun _=>0) (fun _=>by omega) 0).2 h5) k5
 exact h
theorem zjh{l:List Ru}{v v' w:World}{i i2 Er:Int}(h:Bj l v (.returned (.tuple #[.int .i64 i,.int .i64 er])) v')(k:Bj l w (.returned (.tuple #[.int .i64 i2,.int .i64 Er])) w')(h0:er=0):Er=0:=by
 subst h0;rcases h.2 with ⟨_,h⟩|⟨_,_,_,hne,_,_,h⟩|⟨h6,hf,h⟩
 ·simp at h
 ·simp at h;exact absurd h.2.symm hne
 rcases k.2 with ⟨k6,_⟩|⟨q,hq,er,hne,_,hr,k⟩|⟨_,_,k⟩
 ·omega
 ·exact absurd (znK hr (hf q hq hq)) hne
 simp at k;exact k.2
end Go.Proofs.YtiijebameffenaaGreat
