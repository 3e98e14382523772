import Derived.Test.YtiijebameffenaaGreatZIPFn
import Derived.Test.YtiijebameffenaaGreatZQLan
set_option linter.all false
set_option maxHeartbeats 8000000
set_option maxRecDepth 100000
open Go.Lib (hid)
namespace Go.Proofs.YtiijebameffenaaGreat
open Go.RowKit Go.Maps Go.WideElems Go.ChangeMaps Go.MapKept Go.Proofs.Tryz
open Nat (le_refl lt_of_lt_of_le zero_le)
open List (getElem_mem getElem_of_mem length_append range)
open Or (inl inr)
variable {B g i k n:Nat}{G:Gr}{W w w' wr:World}{a e:Int}
structure pN (B:Nat)(w:World)(b g o cb:Nat)(bB bn:Int)(a0 b0 d0:Bool)(W:World):Prop where
 c0:W.cell? ⟨b,0,none⟩=some (.int .i64 bB)
 c2:W.cell? ⟨b,2,none⟩=some (.slice (some ⟨g,o,none⟩) 3 cb)
 x0:W.cell? ⟨g,o,none⟩=some (.bool a0)
 y0:W.cell? ⟨g,o+1*2,none⟩=some (.bool b0)
 y1:W.cell? ⟨g,o+1*2+1,none⟩=some (.int .i64 bn)
 z0:W.cell? ⟨g,o+2*2,none⟩=some (.bool d0)
 bb:b<W.heap.size
 gg:g<W.heap.size
 k:Below B w W
 le:B<=W.heap.size
theorem pN.aa{b o cb:Nat}{bB bn:Int}{a0 b0 d0:Bool}{W':World}(h:pN B w b g o cb bB bn a0 b0 d0 W)(k:Below W.heap.size W W'):pN B w b g o cb bB bn a0 b0 d0 W':=
 ⟨(k.cell (p:=⟨b,0,none⟩) h.bb).trans h.c0,(k.cell (p:=⟨b,2,none⟩) h.bb).trans h.c2,(k.cell (p:=⟨g,o,none⟩) h.gg).trans h.x0,(k.cell (p:=⟨g,o+1*2,none⟩) h.gg).trans h.y0,(k.cell (p:=⟨g,o+1*2+1,none⟩) h.gg).trans h.y1,(k.cell (p:=⟨g,o+2*2,none⟩) h.gg).trans h.z0,lt_of_lt_of_le h.bb k.size,lt_of_lt_of_le h.gg k.size,h.k.trans (k.mono h.le),Nat.le_trans h.le k.size⟩
theorem VM(p:iw)(w:World)(hA:p.At w)(hl:p.body.length<=9223372036854775807):
  Calls prog 20 #[p.val] w (px (ek p) w):=by
 show Calls prog 20 #[.agg #[.int .i64 p.bB,.string p.cZ,.slice p.ab p.body.length p.cb,.bool p.par,.int .i64 p.prec,.slice p.ah p.hints.length p.ch]] w _;have HA:=hid hA;clear hA;obtain⟨w2,bD⟩:∃w2,(w.alloc (.cells #[.int .i64 p.bB,.string p.cZ,.slice p.ab p.body.length p.cb,.bool p.par,.int .i64 p.prec,.slice p.ah p.hints.length p.ch] 47))=w2:=⟨_,rfl⟩
 have H:Hid (nW w2 w.heap.size p/\Below w.heap.size w w2):=by
  rw[<-bD];have k0:=al w (.cells #[.int .i64 p.bB,.string p.cZ,.slice p.ab p.body.length p.cb,.bool p.par,.int .i64 p.prec,.slice p.ah p.hints.length p.ch] 47);exact⟨(nW.new w p 47),k0⟩
 have iL:Hid (w2.heap.size=w.heap.size+1):=by show _=_;rw[<-bD];simp
 go_enter func20,ntmps20;go_upto_region 1 with fail
 try rw[bD]
 clear bD;have HB:=hid H.out.2;have c0:=H.out.1.c0;have c2:=H.out.1.c2;have uO:Below w.heap.size w w2.drew:=HB.out.drew;by_cases h3:p.body.length=3
 ·have HE:=hid (SC h3);have k0:0<p.body.length:=by omega
  have k1:1<p.body.length:=by omega
  have k2:2<p.body.length:=by omega
  obtain⟨g,o,e,q0,x0,x1⟩:=(HA.out.b.below HB.out).get 0 k0;obtain⟨g',o',e',q1,y0,y1⟩:=(HA.out.b.below HB.out).get 1 k1;obtain⟨ZQ,o'',yG,q2,z0,z1⟩:=(HA.out.b.below HB.out).get 2 k2;clear x1 z1 q1 q2;rw[e] at e' yG;injection e' with e';injection e' with e1 e2;injection yG with yG;injection yG with e3 e4;subst e1 e2 e3 e4;rw[Nat.zero_mul,Nat.add_zero] at x0;rw[h3,e] at c2;have HS:Hid (pN w.heap.size w w.heap.size g o p.cb p.bB p.body[1].n p.body[0].s p.body[1].s p.body[2].s w2.drew):=⟨c0,c2,x0,y0,y1,z0,H.out.1.lt,q0,uO,HB.out.size⟩
  generalize p.body[0].s=a0 at HS HE;generalize p.body[1].s=b0 at HS HE;generalize p.body[1].n=bn at HS HE;generalize p.body[2].s=d0 at HS HE;clear k0 k1 k2 hl c0 c2 x0 y0 y1 z0 H HA e h3 q0 uO;obtain⟨b,hb⟩:∃b,w.heap.size=b:=⟨_,rfl⟩
  have rq:Hid (pN w.heap.size w b g o p.cb p.bB bn a0 b0 d0 w2.drew):=by rw[<-hb];exact HS.out
  rw[hb];clear hb HS HB;cases a0 with
  | true=>
   refine wp_region_held_drew (S:=fun W'=>pN w.heap.size w b g o p.cb p.bB bn true b0 d0 W') (by kernel_rfl) (rq.out) (fun hHeld=>?_);refine ag 0 ?_ (hy:=by intro wz hSw;have y0:=hSw.c0;have y1:=hSw.c2;have y2:=hSw.x0;have y3:=hSw.y0;have y4:=hSw.y1;have y5:=hSw.z0;(try simp only[Act.put,sA,sB,sC]);go_simp;first|done|with_reducible rfl)
   try simp only[Act.put,sA,sB,sC]
   refine ag 1 ?_ (hy:=by intro wz hSw;have y0:=hSw.c0;have y1:=hSw.c2;have y2:=hSw.x0;have y3:=hSw.y0;have y4:=hSw.y1;have y5:=hSw.z0;(try simp only[Act.put,sA,sB,sC]);go_simp;first|done|with_reducible rfl)
   try simp only[Act.put,sA,sB,sC]
   refine ag 2 ?_ (hy:=by intro wz hSw;have y0:=hSw.c0;have y1:=hSw.c2;have y2:=hSw.x0;have y3:=hSw.y0;have y4:=hSw.y1;have y5:=hSw.z0;(try simp only[Act.put,sA,sB,sC]);go_simp;first|done|with_reducible rfl)
   try simp only[Act.put,sA,sB,sC]
   refine ag 3 (v:=.bool true) ?_ (hy:=by intro wz hSw;have y0:=hSw.c0;have y1:=hSw.c2;have y2:=hSw.x0;have y3:=hSw.y0;have y4:=hSw.y1;have y5:=hSw.z0;(try simp only[Act.put,sA,sB,sC]);go_simp;first|done|with_reducible rfl)
   try simp only[Act.put,sA,sB,sC]
   refine ag 4 ?_ (hy:=by intro wz hSw;have y0:=hSw.c0;have y1:=hSw.c2;have y2:=hSw.x0;have y3:=hSw.y0;have y4:=hSw.y1;have y5:=hSw.z0;(try simp only[Act.put,sA,sB,sC]);go_simp;first|done|with_reducible rfl)
   try simp only[Act.put,sA,sB,sC]
   refine ag 5 ?_ (hy:=by intro wz hSw;have y0:=hSw.c0;have y1:=hSw.c2;have y2:=hSw.x0;have y3:=hSw.y0;have y4:=hSw.y1;have y5:=hSw.z0;(try simp only[Act.put,sA,sB,sC]);go_simp;first|done|with_reducible rfl)
   try simp only[Act.put,sA,sB,sC]
   refine ag 6 ?_ (hy:=by intro wz hSw;have y0:=hSw.c0;have y1:=hSw.c2;have y2:=hSw.x0;have y3:=hSw.y0;have y4:=hSw.y1;have y5:=hSw.z0;(try simp only[Act.put,sA,sB,sC]);go_simp;first|done|with_reducible rfl)
   try simp only[Act.put,sA,sB,sC]
   refine ag 7 ?_ (hy:=by intro wz hSw;have y0:=hSw.c0;have y1:=hSw.c2;have y2:=hSw.x0;have y3:=hSw.y0;have y4:=hSw.y1;have y5:=hSw.z0;(try simp only[Act.put,sA,sB,sC]);go_simp;first|done|with_reducible rfl)
   try simp only[Act.put,sA,sB,sC]
   refine ag 8 ?_ (hy:=by intro wz hSw;have y0:=hSw.c0;have y1:=hSw.c2;have y2:=hSw.x0;have y3:=hSw.y0;have y4:=hSw.y1;have y5:=hSw.z0;(try simp only[Act.put,sA,sB,sC]);go_simp;first|done|with_reducible rfl)
   try simp only[Act.put,sA,sB,sC]
   refine ag 9 ?_ (hy:=by intro wz hSw;have y0:=hSw.c0;have y1:=hSw.c2;have y2:=hSw.x0;have y3:=hSw.y0;have y4:=hSw.y1;have y5:=hSw.z0;(try simp only[Act.put,sA,sB,sC]);go_simp;first|done|with_reducible rfl)
   try simp only[Act.put,sA,sB,sC]
   refine ag 10 ?_ (hy:=by intro wz hSw;have y0:=hSw.c0;have y1:=hSw.c2;have y2:=hSw.x0;have y3:=hSw.y0;have y4:=hSw.y1;have y5:=hSw.z0;(try simp only[Act.put,sA,sB,sC]);go_simp;first|done|with_reducible rfl)
   try simp only[Act.put,sA,sB,sC]
   refine ag 11 ?_ (hy:=by intro wz hSw;have y0:=hSw.c0;have y1:=hSw.c2;have y2:=hSw.x0;have y3:=hSw.y0;have y4:=hSw.y1;have y5:=hSw.z0;(try simp only[Act.put,sA,sB,sC]);go_simp;first|done|with_reducible rfl)
   try simp only[Act.put,sA,sB,sC]
   refine ag 12 ?_ (hy:=by intro wz hSw;have y0:=hSw.c0;have y1:=hSw.c2;have y2:=hSw.x0;have y3:=hSw.y0;have y4:=hSw.y1;have y5:=hSw.z0;(try simp only[Act.put,sA,sB,sC]);go_simp;first|done|with_reducible rfl)
   try simp only[Act.put,sA,sB,sC]
   refine bF 13 ?_
   try simp only[Act.put,sA,sB,sC]
   refine bF 14 ?_
   try simp only[Act.put,sA,sB,sC]
   refine bF 15 ?_
   try simp only[Act.put,sA,sB,sC]
   refine bF 16 ?_
   try simp only[Act.put,sA,sB,sC]
   refine bF 17 ?_
   try simp only[Act.put,sA,sB,sC]
   refine bF 18 ?_
   try simp only[Act.put,sA,sB,sC]
   refine bF 19 ?_
   try simp only[Act.put,sA,sB,sC]
   refine bF 20 ?_
   try simp only[Act.put,sA,sB,sC]
   refine ag 21 ?_ (hy:=by intro wz hSw;have y0:=hSw.c0;have y1:=hSw.c2;have y2:=hSw.x0;have y3:=hSw.y0;have y4:=hSw.y1;have y5:=hSw.z0;(try simp only[Act.put,sA,sB,sC]);go_simp;first|done|with_reducible rfl)
   try simp only[Act.put,sA,sB,sC]
   refine ag 22 ?_ (hy:=by intro wz hSw;have y0:=hSw.c0;have y1:=hSw.c2;have y2:=hSw.x0;have y3:=hSw.y0;have y4:=hSw.y1;have y5:=hSw.z0;(try simp only[Act.put,sA,sB,sC]);go_simp;first|done|with_reducible rfl)
   try simp only[Act.put,sA,sB,sC]
   refine bF 23 ?_
   try simp only[Act.put,sA,sB,sC]
   refine bF 24 ?_
   try simp only[Act.put,sA,sB,sC]
   refine bF 25 ?_
   try simp only[Act.put,sA,sB,sC]
   refine bF 26 ?_
   try simp only[Act.put,sA,sB,sC]
   refine bF 27 ?_
   try simp only[Act.put,sA,sB,sC]
   refine bF 28 ?_
   try simp only[Act.put,sA,sB,sC]
   refine ag 29 ?_ (hy:=by intro wz hSw;have y0:=hSw.c0;have y1:=hSw.c2;have y2:=hSw.x0;have y3:=hSw.y0;have y4:=hSw.y1;have y5:=hSw.z0;(try simp only[Act.put,sA,sB,sC]);go_simp;first|done|with_reducible rfl)
   try simp only[Act.put,sA,sB,sC]
   refine ag 30 ?_ (hy:=by intro wz hSw;have y0:=hSw.c0;have y1:=hSw.c2;have y2:=hSw.x0;have y3:=hSw.y0;have y4:=hSw.y1;have y5:=hSw.z0;(try simp only[Act.put,sA,sB,sC]);go_simp;first|done|with_reducible rfl)
   try simp only[Act.put,sA,sB,sC]
   refine wpAnyH_done (by kernel_rfl) ?_ _;go_wp2;go_ret;exact⟨by rw[HE.out];rfl,hHeld.k⟩
  | false=>
   cases b0 with
   | false=>
    refine wp_region_held_drew (S:=fun W'=>pN w.heap.size w b g o p.cb p.bB bn false false d0 W') (by kernel_rfl) (rq.out) (fun hHeld=>?_);refine ag 0 ?_ (hy:=by intro wz hSw;have y0:=hSw.c0;have y1:=hSw.c2;have y2:=hSw.x0;have y3:=hSw.y0;have y4:=hSw.y1;have y5:=hSw.z0;(try simp only[Act.put,sA,sB,sC]);go_simp;first|done|with_reducible rfl)
    try simp only[Act.put,sA,sB,sC]
    refine ag 1 ?_ (hy:=by intro wz hSw;have y0:=hSw.c0;have y1:=hSw.c2;have y2:=hSw.x0;have y3:=hSw.y0;have y4:=hSw.y1;have y5:=hSw.z0;(try simp only[Act.put,sA,sB,sC]);go_simp;first|done|with_reducible rfl)
    try simp only[Act.put,sA,sB,sC]
    refine ag 2 ?_ (hy:=by intro wz hSw;have y0:=hSw.c0;have y1:=hSw.c2;have y2:=hSw.x0;have y3:=hSw.y0;have y4:=hSw.y1;have y5:=hSw.z0;(try simp only[Act.put,sA,sB,sC]);go_simp;first|done|with_reducible rfl)
    try simp only[Act.put,sA,sB,sC]
    refine ag 3 (v:=.bool true) ?_ (hy:=by intro wz hSw;have y0:=hSw.c0;have y1:=hSw.c2;have y2:=hSw.x0;have y3:=hSw.y0;have y4:=hSw.y1;have y5:=hSw.z0;(try simp only[Act.put,sA,sB,sC]);go_simp;first|done|with_reducible rfl)
    try simp only[Act.put,sA,sB,sC]
    refine ag 4 ?_ (hy:=by intro wz hSw;have y0:=hSw.c0;have y1:=hSw.c2;have y2:=hSw.x0;have y3:=hSw.y0;have y4:=hSw.y1;have y5:=hSw.z0;(try simp only[Act.put,sA,sB,sC]);go_simp;first|done|with_reducible rfl)
    try simp only[Act.put,sA,sB,sC]
    refine ag 5 ?_ (hy:=by intro wz hSw;have y0:=hSw.c0;have y1:=hSw.c2;have y2:=hSw.x0;have y3:=hSw.y0;have y4:=hSw.y1;have y5:=hSw.z0;(try simp only[Act.put,sA,sB,sC]);go_simp;first|done|with_reducible rfl)
    try simp only[Act.put,sA,sB,sC]
    refine ag 6 ?_ (hy:=by intro wz hSw;have y0:=hSw.c0;have y1:=hSw.c2;have y2:=hSw.x0;have y3:=hSw.y0;have y4:=hSw.y1;have y5:=hSw.z0;(try simp only[Act.put,sA,sB,sC]);go_simp;first|done|with_reducible rfl)
    try simp only[Act.put,sA,sB,sC]
    refine ag 7 ?_ (hy:=by intro wz hSw;have y0:=hSw.c0;have y1:=hSw.c2;have y2:=hSw.x0;have y3:=hSw.y0;have y4:=hSw.y1;have y5:=hSw.z0;(try simp only[Act.put,sA,sB,sC]);go_simp;first|done|with_reducible rfl)
    try simp only[Act.put,sA,sB,sC]
    refine ag 8 ?_ (hy:=by intro wz hSw;have y0:=hSw.c0;have y1:=hSw.c2;have y2:=hSw.x0;have y3:=hSw.y0;have y4:=hSw.y1;have y5:=hSw.z0;(try simp only[Act.put,sA,sB,sC]);go_simp;first|done|with_reducible rfl)
    try simp only[Act.put,sA,sB,sC]
    refine ag 9 ?_ (hy:=by intro wz hSw;have y0:=hSw.c0;have y1:=hSw.c2;have y2:=hSw.x0;have y3:=hSw.y0;have y4:=hSw.y1;have y5:=hSw.z0;(try simp only[Act.put,sA,sB,sC]);go_simp;first|done|with_reducible rfl)
    try simp only[Act.put,sA,sB,sC]
    refine ag 10 ?_ (hy:=by intro wz hSw;have y0:=hSw.c0;have y1:=hSw.c2;have y2:=hSw.x0;have y3:=hSw.y0;have y4:=hSw.y1;have y5:=hSw.z0;(try simp only[Act.put,sA,sB,sC]);go_simp;first|done|with_reducible rfl)
    try simp only[Act.put,sA,sB,sC]
    refine ag 11 ?_ (hy:=by intro wz hSw;have y0:=hSw.c0;have y1:=hSw.c2;have y2:=hSw.x0;have y3:=hSw.y0;have y4:=hSw.y1;have y5:=hSw.z0;(try simp only[Act.put,sA,sB,sC]);go_simp;first|done|with_reducible rfl)
    try simp only[Act.put,sA,sB,sC]
    refine ag 12 ?_ (hy:=by intro wz hSw;have y0:=hSw.c0;have y1:=hSw.c2;have y2:=hSw.x0;have y3:=hSw.y0;have y4:=hSw.y1;have y5:=hSw.z0;(try simp only[Act.put,sA,sB,sC]);go_simp;first|done|with_reducible rfl)
    try simp only[Act.put,sA,sB,sC]
    refine ag 13 ?_ (hy:=by intro wz hSw;have y0:=hSw.c0;have y1:=hSw.c2;have y2:=hSw.x0;have y3:=hSw.y0;have y4:=hSw.y1;have y5:=hSw.z0;(try simp only[Act.put,sA,sB,sC]);go_simp;first|done|with_reducible rfl)
    try simp only[Act.put,sA,sB,sC]
    refine ag 14 ?_ (hy:=by intro wz hSw;have y0:=hSw.c0;have y1:=hSw.c2;have y2:=hSw.x0;have y3:=hSw.y0;have y4:=hSw.y1;have y5:=hSw.z0;(try simp only[Act.put,sA,sB,sC]);go_simp;first|done|with_reducible rfl)
    try simp only[Act.put,sA,sB,sC]
    refine ag 15 ?_ (hy:=by intro wz hSw;have y0:=hSw.c0;have y1:=hSw.c2;have y2:=hSw.x0;have y3:=hSw.y0;have y4:=hSw.y1;have y5:=hSw.z0;(try simp only[Act.put,sA,sB,sC]);go_simp;first|done|with_reducible rfl)
    try simp only[Act.put,sA,sB,sC]
    refine ag 16 ?_ (hy:=by intro wz hSw;have y0:=hSw.c0;have y1:=hSw.c2;have y2:=hSw.x0;have y3:=hSw.y0;have y4:=hSw.y1;have y5:=hSw.z0;(try simp only[Act.put,sA,sB,sC]);go_simp;first|done|with_reducible rfl)
    try simp only[Act.put,sA,sB,sC]
    refine ag 17 ?_ (hy:=by intro wz hSw;have y0:=hSw.c0;have y1:=hSw.c2;have y2:=hSw.x0;have y3:=hSw.y0;have y4:=hSw.y1;have y5:=hSw.z0;(try simp only[Act.put,sA,sB,sC]);go_simp;first|done|with_reducible rfl)
    try simp only[Act.put,sA,sB,sC]
    refine ag 18 ?_ (hy:=by intro wz hSw;have y0:=hSw.c0;have y1:=hSw.c2;have y2:=hSw.x0;have y3:=hSw.y0;have y4:=hSw.y1;have y5:=hSw.z0;(try simp only[Act.put,sA,sB,sC]);go_simp;first|done|with_reducible rfl)
    try simp only[Act.put,sA,sB,sC]
    refine ba 19 (fun K hK=>?_);go_simp;go_at_call 30;refine (xY _ _).mono ?_;rintro e w8 ⟨rfl,b8⟩;have aW:=hHeld.aa b8;clear b8 hHeld
    try go_wp2_with fail
    refine hK.out _ _ aW (fun hHeld=>?_);clear hK K aW
    try simp only[Act.put,sA,sB,sC]
    refine ag 20 ?_ (hy:=by intro wz hSw;have y0:=hSw.c0;have y1:=hSw.c2;have y2:=hSw.x0;have y3:=hSw.y0;have y4:=hSw.y1;have y5:=hSw.z0;(try simp only[Act.put,sA,sB,sC]);go_simp;first|done|with_reducible rfl)
    try simp only[Act.put,sA,sB,sC]
    refine ag 21 ?_ (hy:=by intro wz hSw;have y0:=hSw.c0;have y1:=hSw.c2;have y2:=hSw.x0;have y3:=hSw.y0;have y4:=hSw.y1;have y5:=hSw.z0;(try simp only[Act.put,sA,sB,sC]);go_simp;first|done|with_reducible rfl)
    try simp only[Act.put,sA,sB,sC]
    refine ag 22 ?_ (hy:=by intro wz hSw;have y0:=hSw.c0;have y1:=hSw.c2;have y2:=hSw.x0;have y3:=hSw.y0;have y4:=hSw.y1;have y5:=hSw.z0;(try simp only[Act.put,sA,sB,sC]);go_simp;first|done|with_reducible rfl)
    try simp only[Act.put,sA,sB,sC]
    refine bF 23 ?_
    try simp only[Act.put,sA,sB,sC]
    refine bF 24 ?_
    try simp only[Act.put,sA,sB,sC]
    refine bF 25 ?_
    try simp only[Act.put,sA,sB,sC]
    refine bF 26 ?_
    try simp only[Act.put,sA,sB,sC]
    refine bF 27 ?_
    try simp only[Act.put,sA,sB,sC]
    refine bF 28 ?_
    try simp only[Act.put,sA,sB,sC]
    refine ag 29 ?_ (hy:=by intro wz hSw;have y0:=hSw.c0;have y1:=hSw.c2;have y2:=hSw.x0;have y3:=hSw.y0;have y4:=hSw.y1;have y5:=hSw.z0;(try simp only[Act.put,sA,sB,sC]);go_simp;first|done|with_reducible rfl)
    try simp only[Act.put,sA,sB,sC]
    refine ag 30 ?_ (hy:=by intro wz hSw;have y0:=hSw.c0;have y1:=hSw.c2;have y2:=hSw.x0;have y3:=hSw.y0;have y4:=hSw.y1;have y5:=hSw.z0;(try simp only[Act.put,sA,sB,sC]);go_simp;first|done|with_reducible rfl)
    try simp only[Act.put,sA,sB,sC]
    refine wpAnyH_done (by kernel_rfl) ?_ _;go_wp2;go_ret;exact⟨by rw[HE.out];rfl,hHeld.k⟩
   | true=>
    by_cases aW:bn=p.bB
    ·have j9:(bn == p.bB)=true:=(by simp[aW]);refine wp_region_held_drew (S:=fun W'=>pN w.heap.size w b g o p.cb p.bB bn false true d0 W') (by kernel_rfl) (rq.out) (fun hHeld=>?_);refine ag 0 ?_ (hy:=by intro wz hSw;have y0:=hSw.c0;have y1:=hSw.c2;have y2:=hSw.x0;have y3:=hSw.y0;have y4:=hSw.y1;have y5:=hSw.z0;(try simp only[Act.put,sA,sB,sC]);go_simp;first|done|with_reducible rfl)
     try simp only[Act.put,sA,sB,sC]
     refine ag 1 ?_ (hy:=by intro wz hSw;have y0:=hSw.c0;have y1:=hSw.c2;have y2:=hSw.x0;have y3:=hSw.y0;have y4:=hSw.y1;have y5:=hSw.z0;(try simp only[Act.put,sA,sB,sC]);go_simp;first|done|with_reducible rfl)
     try simp only[Act.put,sA,sB,sC]
     refine ag 2 ?_ (hy:=by intro wz hSw;have y0:=hSw.c0;have y1:=hSw.c2;have y2:=hSw.x0;have y3:=hSw.y0;have y4:=hSw.y1;have y5:=hSw.z0;(try simp only[Act.put,sA,sB,sC]);go_simp;first|done|with_reducible rfl)
     try simp only[Act.put,sA,sB,sC]
     refine ag 3 (v:=.bool true) ?_ (hy:=by intro wz hSw;have y0:=hSw.c0;have y1:=hSw.c2;have y2:=hSw.x0;have y3:=hSw.y0;have y4:=hSw.y1;have y5:=hSw.z0;(try simp only[Act.put,sA,sB,sC]);go_simp;first|done|with_reducible rfl)
     try simp only[Act.put,sA,sB,sC]
     refine ag 4 ?_ (hy:=by intro wz hSw;have y0:=hSw.c0;have y1:=hSw.c2;have y2:=hSw.x0;have y3:=hSw.y0;have y4:=hSw.y1;have y5:=hSw.z0;(try simp only[Act.put,sA,sB,sC]);go_simp;first|done|with_reducible rfl)
     try simp only[Act.put,sA,sB,sC]
     refine ag 5 ?_ (hy:=by intro wz hSw;have y0:=hSw.c0;have y1:=hSw.c2;have y2:=hSw.x0;have y3:=hSw.y0;have y4:=hSw.y1;have y5:=hSw.z0;(try simp only[Act.put,sA,sB,sC]);go_simp;first|done|with_reducible rfl)
     try simp only[Act.put,sA,sB,sC]
     refine ag 6 ?_ (hy:=by intro wz hSw;have y0:=hSw.c0;have y1:=hSw.c2;have y2:=hSw.x0;have y3:=hSw.y0;have y4:=hSw.y1;have y5:=hSw.z0;(try simp only[Act.put,sA,sB,sC]);go_simp;first|done|with_reducible rfl)
     try simp only[Act.put,sA,sB,sC]
     refine ag 7 ?_ (hy:=by intro wz hSw;have y0:=hSw.c0;have y1:=hSw.c2;have y2:=hSw.x0;have y3:=hSw.y0;have y4:=hSw.y1;have y5:=hSw.z0;(try simp only[Act.put,sA,sB,sC]);go_simp;first|done|with_reducible rfl)
     try simp only[Act.put,sA,sB,sC]
     refine ag 8 ?_ (hy:=by intro wz hSw;have y0:=hSw.c0;have y1:=hSw.c2;have y2:=hSw.x0;have y3:=hSw.y0;have y4:=hSw.y1;have y5:=hSw.z0;(try simp only[Act.put,sA,sB,sC]);go_simp;first|done|with_reducible rfl)
     try simp only[Act.put,sA,sB,sC]
     refine ag 9 ?_ (hy:=by intro wz hSw;have y0:=hSw.c0;have y1:=hSw.c2;have y2:=hSw.x0;have y3:=hSw.y0;have y4:=hSw.y1;have y5:=hSw.z0;(try simp only[Act.put,sA,sB,sC]);go_simp;first|done|with_reducible rfl)
     try simp only[Act.put,sA,sB,sC]
     refine ag 10 ?_ (hy:=by intro wz hSw;have y0:=hSw.c0;have y1:=hSw.c2;have y2:=hSw.x0;have y3:=hSw.y0;have y4:=hSw.y1;have y5:=hSw.z0;(try simp only[Act.put,sA,sB,sC]);go_simp;first|done|with_reducible rfl)
     try simp only[Act.put,sA,sB,sC]
     refine ag 11 ?_ (hy:=by intro wz hSw;have y0:=hSw.c0;have y1:=hSw.c2;have y2:=hSw.x0;have y3:=hSw.y0;have y4:=hSw.y1;have y5:=hSw.z0;(try simp only[Act.put,sA,sB,sC]);go_simp;first|done|with_reducible rfl)
     try simp only[Act.put,sA,sB,sC]
     refine ag 12 ?_ (hy:=by intro wz hSw;have y0:=hSw.c0;have y1:=hSw.c2;have y2:=hSw.x0;have y3:=hSw.y0;have y4:=hSw.y1;have y5:=hSw.z0;(try simp only[Act.put,sA,sB,sC]);go_simp;first|done|with_reducible rfl)
     try simp only[Act.put,sA,sB,sC]
     refine ag 13 ?_ (hy:=by intro wz hSw;have y0:=hSw.c0;have y1:=hSw.c2;have y2:=hSw.x0;have y3:=hSw.y0;have y4:=hSw.y1;have y5:=hSw.z0;(try simp only[Act.put,sA,sB,sC]);go_simp;first|done|with_reducible rfl)
     try simp only[Act.put,sA,sB,sC]
     refine ag 14 ?_ (hy:=by intro wz hSw;have y0:=hSw.c0;have y1:=hSw.c2;have y2:=hSw.x0;have y3:=hSw.y0;have y4:=hSw.y1;have y5:=hSw.z0;(try simp only[Act.put,sA,sB,sC]);go_simp;first|done|with_reducible rfl)
     try simp only[Act.put,sA,sB,sC]
     refine ag 15 ?_ (hy:=by intro wz hSw;have y0:=hSw.c0;have y1:=hSw.c2;have y2:=hSw.x0;have y3:=hSw.y0;have y4:=hSw.y1;have y5:=hSw.z0;(try simp only[Act.put,sA,sB,sC]);go_simp;first|done|with_reducible rfl)
     try simp only[Act.put,sA,sB,sC]
     refine ag 16 ?_ (hy:=by intro wz hSw;have y0:=hSw.c0;have y1:=hSw.c2;have y2:=hSw.x0;have y3:=hSw.y0;have y4:=hSw.y1;have y5:=hSw.z0;(try simp only[Act.put,sA,sB,sC]);go_simp;first|done|with_reducible rfl)
     try simp only[Act.put,sA,sB,sC]
     refine ag 17 ?_ (hy:=by intro wz hSw;have y0:=hSw.c0;have y1:=hSw.c2;have y2:=hSw.x0;have y3:=hSw.y0;have y4:=hSw.y1;have y5:=hSw.z0;(try simp only[Act.put,sA,sB,sC]);go_simp;first|done|with_reducible rfl)
     try simp only[Act.put,sA,sB,sC]
     refine ag 18 ?_ (hy:=by intro wz hSw;have y0:=hSw.c0;have y1:=hSw.c2;have y2:=hSw.x0;have y3:=hSw.y0;have y4:=hSw.y1;have y5:=hSw.z0;(try simp only[Act.put,sA,sB,sC]);go_simp;first|done|with_reducible rfl)
     try simp only[Act.put,sA,sB,sC]
     refine ba 19 (fun K hK=>?_);go_simp;go_at_call 30;refine (xY _ _).mono ?_;rintro e w8 ⟨rfl,b8⟩;have aW:=hHeld.aa b8;clear b8 hHeld
     try go_wp2_with fail
     refine hK.out _ _ aW (fun hHeld=>?_);clear hK K aW
     try simp only[Act.put,sA,sB,sC]
     refine ag 20 (v:=.bool true) ?_ (hy:=by intro wz hSw;have y0:=hSw.c0;have y1:=hSw.c2;have y2:=hSw.x0;have y3:=hSw.y0;have y4:=hSw.y1;have y5:=hSw.z0;(try simp only[Act.put,sA,sB,sC]);go_simp;first|done|with_reducible rfl)
     try simp only[Act.put,sA,sB,sC]
     refine ag 21 ?_ (hy:=by intro wz hSw;have y0:=hSw.c0;have y1:=hSw.c2;have y2:=hSw.x0;have y3:=hSw.y0;have y4:=hSw.y1;have y5:=hSw.z0;(try simp only[Act.put,sA,sB,sC]);go_simp;first|done|with_reducible rfl)
     try simp only[Act.put,sA,sB,sC]
     refine ag 22 ?_ (hy:=by intro wz hSw;have y0:=hSw.c0;have y1:=hSw.c2;have y2:=hSw.x0;have y3:=hSw.y0;have y4:=hSw.y1;have y5:=hSw.z0;(try simp only[Act.put,sA,sB,sC]);go_simp;first|done|with_reducible rfl)
     try simp only[Act.put,sA,sB,sC]
     refine ag 23 ?_ (hy:=by intro wz hSw;have y0:=hSw.c0;have y1:=hSw.c2;have y2:=hSw.x0;have y3:=hSw.y0;have y4:=hSw.y1;have y5:=hSw.z0;(try simp only[Act.put,sA,sB,sC]);go_simp;first|done|with_reducible rfl)
     try simp only[Act.put,sA,sB,sC]
     refine ag 24 ?_ (hy:=by intro wz hSw;have y0:=hSw.c0;have y1:=hSw.c2;have y2:=hSw.x0;have y3:=hSw.y0;have y4:=hSw.y1;have y5:=hSw.z0;(try simp only[Act.put,sA,sB,sC]);go_simp;first|done|with_reducible rfl)
     try simp only[Act.put,sA,sB,sC]
     refine ag 25 ?_ (hy:=by intro wz hSw;have y0:=hSw.c0;have y1:=hSw.c2;have y2:=hSw.x0;have y3:=hSw.y0;have y4:=hSw.y1;have y5:=hSw.z0;(try simp only[Act.put,sA,sB,sC]);go_simp;first|done|with_reducible rfl)
     try simp only[Act.put,sA,sB,sC]
     refine ag 26 ?_ (hy:=by intro wz hSw;have y0:=hSw.c0;have y1:=hSw.c2;have y2:=hSw.x0;have y3:=hSw.y0;have y4:=hSw.y1;have y5:=hSw.z0;(try simp only[Act.put,sA,sB,sC]);go_simp;first|done|with_reducible rfl)
     try simp only[Act.put,sA,sB,sC]
     refine ag 27 ?_ (hy:=by intro wz hSw;have y0:=hSw.c0;have y1:=hSw.c2;have y2:=hSw.x0;have y3:=hSw.y0;have y4:=hSw.y1;have y5:=hSw.z0;(try simp only[Act.put,sA,sB,sC]);go_simp;first|done|with_reducible rfl)
     try simp only[Act.put,sA,sB,sC]
     refine ag 28 ?_ (hy:=by intro wz hSw;have y0:=hSw.c0;have y1:=hSw.c2;have y2:=hSw.x0;have y3:=hSw.y0;have y4:=hSw.y1;have y5:=hSw.z0;(try simp only[Act.put,sA,sB,sC]);go_simp;first|done|with_reducible rfl)
     try simp only[Act.put,sA,sB,sC]
     refine ag 29 ?_ (hy:=by intro wz hSw;have y0:=hSw.c0;have y1:=hSw.c2;have y2:=hSw.x0;have y3:=hSw.y0;have y4:=hSw.y1;have y5:=hSw.z0;(try simp only[Act.put,sA,sB,sC]);go_simp;first|done|with_reducible rfl)
     try simp only[Act.put,sA,sB,sC]
     refine ag 30 ?_ (hy:=by intro wz hSw;have y0:=hSw.c0;have y1:=hSw.c2;have y2:=hSw.x0;have y3:=hSw.y0;have y4:=hSw.y1;have y5:=hSw.z0;(try simp only[Act.put,sA,sB,sC]);go_simp;first|done|with_reducible rfl)
     try simp only[Act.put,sA,sB,sC]
     refine wpAnyH_done (by kernel_rfl) ?_ _;go_wp2;go_ret;exact⟨by rw[HE.out,j9];rfl,hHeld.k⟩
    have j9:(bn == p.bB)=false:=(by simp[aW]);refine wp_region_held_drew (S:=fun W'=>pN w.heap.size w b g o p.cb p.bB bn false true d0 W') (by kernel_rfl) (rq.out) (fun hHeld=>?_);refine ag 0 ?_ (hy:=by intro wz hSw;have y0:=hSw.c0;have y1:=hSw.c2;have y2:=hSw.x0;have y3:=hSw.y0;have y4:=hSw.y1;have y5:=hSw.z0;(try simp only[Act.put,sA,sB,sC]);go_simp;first|done|with_reducible rfl)
    try simp only[Act.put,sA,sB,sC]
    refine ag 1 ?_ (hy:=by intro wz hSw;have y0:=hSw.c0;have y1:=hSw.c2;have y2:=hSw.x0;have y3:=hSw.y0;have y4:=hSw.y1;have y5:=hSw.z0;(try simp only[Act.put,sA,sB,sC]);go_simp;first|done|with_reducible rfl)
    try simp only[Act.put,sA,sB,sC]
    refine ag 2 ?_ (hy:=by intro wz hSw;have y0:=hSw.c0;have y1:=hSw.c2;have y2:=hSw.x0;have y3:=hSw.y0;have y4:=hSw.y1;have y5:=hSw.z0;(try simp only[Act.put,sA,sB,sC]);go_simp;first|done|with_reducible rfl)
    try simp only[Act.put,sA,sB,sC]
    refine ag 3 (v:=.bool true) ?_ (hy:=by intro wz hSw;have y0:=hSw.c0;have y1:=hSw.c2;have y2:=hSw.x0;have y3:=hSw.y0;have y4:=hSw.y1;have y5:=hSw.z0;(try simp only[Act.put,sA,sB,sC]);go_simp;first|done|with_reducible rfl)
    try simp only[Act.put,sA,sB,sC]
    refine ag 4 ?_ (hy:=by intro wz hSw;have y0:=hSw.c0;have y1:=hSw.c2;have y2:=hSw.x0;have y3:=hSw.y0;have y4:=hSw.y1;have y5:=hSw.z0;(try simp only[Act.put,sA,sB,sC]);go_simp;first|done|with_reducible rfl)
    try simp only[Act.put,sA,sB,sC]
    refine ag 5 ?_ (hy:=by intro wz hSw;have y0:=hSw.c0;have y1:=hSw.c2;have y2:=hSw.x0;have y3:=hSw.y0;have y4:=hSw.y1;have y5:=hSw.z0;(try simp only[Act.put,sA,sB,sC]);go_simp;first|done|with_reducible rfl)
    try simp only[Act.put,sA,sB,sC]
    refine ag 6 ?_ (hy:=by intro wz hSw;have y0:=hSw.c0;have y1:=hSw.c2;have y2:=hSw.x0;have y3:=hSw.y0;have y4:=hSw.y1;have y5:=hSw.z0;(try simp only[Act.put,sA,sB,sC]);go_simp;first|done|with_reducible rfl)
    try simp only[Act.put,sA,sB,sC]
    refine ag 7 ?_ (hy:=by intro wz hSw;have y0:=hSw.c0;have y1:=hSw.c2;have y2:=hSw.x0;have y3:=hSw.y0;have y4:=hSw.y1;have y5:=hSw.z0;(try simp only[Act.put,sA,sB,sC]);go_simp;first|done|with_reducible rfl)
    try simp only[Act.put,sA,sB,sC]
    refine ag 8 ?_ (hy:=by intro wz hSw;have y0:=hSw.c0;have y1:=hSw.c2;have y2:=hSw.x0;have y3:=hSw.y0;have y4:=hSw.y1;have y5:=hSw.z0;(try simp only[Act.put,sA,sB,sC]);go_simp;first|done|with_reducible rfl)
    try simp only[Act.put,sA,sB,sC]
    refine ag 9 ?_ (hy:=by intro wz hSw;have y0:=hSw.c0;have y1:=hSw.c2;have y2:=hSw.x0;have y3:=hSw.y0;have y4:=hSw.y1;have y5:=hSw.z0;(try simp only[Act.put,sA,sB,sC]);go_simp;first|done|with_reducible rfl)
    try simp only[Act.put,sA,sB,sC]
    refine ag 10 ?_ (hy:=by intro wz hSw;have y0:=hSw.c0;have y1:=hSw.c2;have y2:=hSw.x0;have y3:=hSw.y0;have y4:=hSw.y1;have y5:=hSw.z0;(try simp only[Act.put,sA,sB,sC]);go_simp;first|done|with_reducible rfl)
    try simp only[Act.put,sA,sB,sC]
    refine ag 11 ?_ (hy:=by intro wz hSw;have y0:=hSw.c0;have y1:=hSw.c2;have y2:=hSw.x0;have y3:=hSw.y0;have y4:=hSw.y1;have y5:=hSw.z0;(try simp only[Act.put,sA,sB,sC]);go_simp;first|done|with_reducible rfl)
    try simp only[Act.put,sA,sB,sC]
    refine ag 12 ?_ (hy:=by intro wz hSw;have y0:=hSw.c0;have y1:=hSw.c2;have y2:=hSw.x0;have y3:=hSw.y0;have y4:=hSw.y1;have y5:=hSw.z0;(try simp only[Act.put,sA,sB,sC]);go_simp;first|done|with_reducible rfl)
    try simp only[Act.put,sA,sB,sC]
    refine ag 13 ?_ (hy:=by intro wz hSw;have y0:=hSw.c0;have y1:=hSw.c2;have y2:=hSw.x0;have y3:=hSw.y0;have y4:=hSw.y1;have y5:=hSw.z0;(try simp only[Act.put,sA,sB,sC]);go_simp;first|done|with_reducible rfl)
    try simp only[Act.put,sA,sB,sC]
    refine ag 14 ?_ (hy:=by intro wz hSw;have y0:=hSw.c0;have y1:=hSw.c2;have y2:=hSw.x0;have y3:=hSw.y0;have y4:=hSw.y1;have y5:=hSw.z0;(try simp only[Act.put,sA,sB,sC]);go_simp;first|done|with_reducible rfl)
    try simp only[Act.put,sA,sB,sC]
    refine ag 15 ?_ (hy:=by intro wz hSw;have y0:=hSw.c0;have y1:=hSw.c2;have y2:=hSw.x0;have y3:=hSw.y0;have y4:=hSw.y1;have y5:=hSw.z0;(try simp only[Act.put,sA,sB,sC]);go_simp;first|done|with_reducible rfl)
    try simp only[Act.put,sA,sB,sC]
    refine ag 16 ?_ (hy:=by intro wz hSw;have y0:=hSw.c0;have y1:=hSw.c2;have y2:=hSw.x0;have y3:=hSw.y0;have y4:=hSw.y1;have y5:=hSw.z0;(try simp only[Act.put,sA,sB,sC]);go_simp;first|done|with_reducible rfl)
    try simp only[Act.put,sA,sB,sC]
    refine ag 17 ?_ (hy:=by intro wz hSw;have y0:=hSw.c0;have y1:=hSw.c2;have y2:=hSw.x0;have y3:=hSw.y0;have y4:=hSw.y1;have y5:=hSw.z0;(try simp only[Act.put,sA,sB,sC]);go_simp;first|done|with_reducible rfl)
    try simp only[Act.put,sA,sB,sC]
    refine ag 18 ?_ (hy:=by intro wz hSw;have y0:=hSw.c0;have y1:=hSw.c2;have y2:=hSw.x0;have y3:=hSw.y0;have y4:=hSw.y1;have y5:=hSw.z0;(try simp only[Act.put,sA,sB,sC]);go_simp;first|done|with_reducible rfl)
    try simp only[Act.put,sA,sB,sC]
    refine ba 19 (fun K hK=>?_);go_simp;go_at_call 30;refine (xY _ _).mono ?_;rintro e w8 ⟨rfl,b8⟩;have aW:=hHeld.aa b8;clear b8 hHeld
    try go_wp2_with fail
    refine hK.out _ _ aW (fun hHeld=>?_);clear hK K aW
    try simp only[Act.put,sA,sB,sC]
    refine ag 20 (v:=.bool false) ?_ (hy:=by intro wz hSw;have y0:=hSw.c0;have y1:=hSw.c2;have y2:=hSw.x0;have y3:=hSw.y0;have y4:=hSw.y1;have y5:=hSw.z0;(try simp only[Act.put,sA,sB,sC]);go_simp;first|done|with_reducible rfl)
    try simp only[Act.put,sA,sB,sC]
    refine ag 21 ?_ (hy:=by intro wz hSw;have y0:=hSw.c0;have y1:=hSw.c2;have y2:=hSw.x0;have y3:=hSw.y0;have y4:=hSw.y1;have y5:=hSw.z0;(try simp only[Act.put,sA,sB,sC]);go_simp;first|done|with_reducible rfl)
    try simp only[Act.put,sA,sB,sC]
    refine ag 22 ?_ (hy:=by intro wz hSw;have y0:=hSw.c0;have y1:=hSw.c2;have y2:=hSw.x0;have y3:=hSw.y0;have y4:=hSw.y1;have y5:=hSw.z0;(try simp only[Act.put,sA,sB,sC]);go_simp;first|done|with_reducible rfl)
    try simp only[Act.put,sA,sB,sC]
    refine bF 23 ?_
    try simp only[Act.put,sA,sB,sC]
    refine bF 24 ?_
    try simp only[Act.put,sA,sB,sC]
    refine bF 25 ?_
    try simp only[Act.put,sA,sB,sC]
    refine bF 26 ?_
    try simp only[Act.put,sA,sB,sC]
    refine bF 27 ?_
    try simp only[Act.put,sA,sB,sC]
    refine bF 28 ?_
    try simp only[Act.put,sA,sB,sC]
    refine ag 29 ?_ (hy:=by intro wz hSw;have y0:=hSw.c0;have y1:=hSw.c2;have y2:=hSw.x0;have y3:=hSw.y0;have y4:=hSw.y1;have y5:=hSw.z0;(try simp only[Act.put,sA,sB,sC]);go_simp;first|done|with_reducible rfl)
    try simp only[Act.put,sA,sB,sC]
    refine ag 30 ?_ (hy:=by intro wz hSw;have y0:=hSw.c0;have y1:=hSw.c2;have y2:=hSw.x0;have y3:=hSw.y0;have y4:=hSw.y1;have y5:=hSw.z0;(try simp only[Act.put,sA,sB,sC]);go_simp;first|done|with_reducible rfl)
    try simp only[Act.put,sA,sB,sC]
    refine wpAnyH_done (by kernel_rfl) ?_ _;go_wp2;go_ret;exact⟨by rw[HE.out,j9];rfl,hHeld.k⟩
 have HE:=hid (YT h3);have X2:w2.drew.cell? ⟨w.heap.size,2,none⟩=some (.slice p.ab p.body.length p.cb):=c2;have j9:((p.body.length:Int) == 3)=false:=by simp;omega
 clear c0 c2 H HA h3;refine wp_region_held_drew (S:=fun W'=>W'=w2.drew) (by kernel_rfl) rfl (fun hHeld=>?_);generalize w2.drew=w9 at *;refine ag 0 ?_ (hy:=by intro wz hSw;subst hSw;(try simp only[Act.put,sA,sB,sC]);go_simp;first|done|with_reducible rfl)
 try simp only[Act.put,sA,sB,sC]
 refine ag 1 ?_ (hy:=by intro wz hSw;subst hSw;(try simp only[Act.put,sA,sB,sC]);go_simp;first|done|with_reducible rfl)
 try simp only[Act.put,sA,sB,sC]
 refine ag 2 ?_ (hy:=by intro wz hSw;subst hSw;(try simp only[Act.put,sA,sB,sC]);go_simp;first|done|with_reducible rfl)
 try simp only[Act.put,sA,sB,sC]
 refine ag 3 (v:=.bool false) ?_ (hy:=by intro wz hSw;subst hSw;(try simp only[Act.put,sA,sB,sC]);go_simp;first|done|with_reducible rfl)
 try simp only[Act.put,sA,sB,sC]
 refine ag 4 ?_ (hy:=by intro wz hSw;subst hSw;(try simp only[Act.put,sA,sB,sC]);go_simp;first|done|with_reducible rfl)
 try simp only[Act.put,sA,sB,sC]
 refine bF 5 ?_
 try simp only[Act.put,sA,sB,sC]
 refine bF 6 ?_
 try simp only[Act.put,sA,sB,sC]
 refine bF 7 ?_
 try simp only[Act.put,sA,sB,sC]
 refine bF 8 ?_
 try simp only[Act.put,sA,sB,sC]
 refine bF 9 ?_
 try simp only[Act.put,sA,sB,sC]
 refine bF 10 ?_
 try simp only[Act.put,sA,sB,sC]
 refine ag 11 ?_ (hy:=by intro wz hSw;subst hSw;(try simp only[Act.put,sA,sB,sC]);go_simp;first|done|with_reducible rfl)
 try simp only[Act.put,sA,sB,sC]
 refine ag 12 ?_ (hy:=by intro wz hSw;subst hSw;(try simp only[Act.put,sA,sB,sC]);go_simp;first|done|with_reducible rfl)
 try simp only[Act.put,sA,sB,sC]
 refine bF 13 ?_
 try simp only[Act.put,sA,sB,sC]
 refine bF 14 ?_
 try simp only[Act.put,sA,sB,sC]
 refine bF 15 ?_
 try simp only[Act.put,sA,sB,sC]
 refine bF 16 ?_
 try simp only[Act.put,sA,sB,sC]
 refine bF 17 ?_
 try simp only[Act.put,sA,sB,sC]
 refine bF 18 ?_
 try simp only[Act.put,sA,sB,sC]
 refine bF 19 ?_
 try simp only[Act.put,sA,sB,sC]
 refine bF 20 ?_
 try simp only[Act.put,sA,sB,sC]
 refine ag 21 ?_ (hy:=by intro wz hSw;subst hSw;(try simp only[Act.put,sA,sB,sC]);go_simp;first|done|with_reducible rfl)
 try simp only[Act.put,sA,sB,sC]
 refine ag 22 ?_ (hy:=by intro wz hSw;subst hSw;(try simp only[Act.put,sA,sB,sC]);go_simp;first|done|with_reducible rfl)
 try simp only[Act.put,sA,sB,sC]
 refine bF 23 ?_
 try simp only[Act.put,sA,sB,sC]
 refine bF 24 ?_
 try simp only[Act.put,sA,sB,sC]
 refine bF 25 ?_
 try simp only[Act.put,sA,sB,sC]
 refine bF 26 ?_
 try simp only[Act.put,sA,sB,sC]
 refine bF 27 ?_
 try simp only[Act.put,sA,sB,sC]
 refine bF 28 ?_
 try simp only[Act.put,sA,sB,sC]
 refine ag 29 ?_ (hy:=by intro wz hSw;subst hSw;(try simp only[Act.put,sA,sB,sC]);go_simp;first|done|with_reducible rfl)
 try simp only[Act.put,sA,sB,sC]
 refine ag 30 ?_ (hy:=by intro wz hSw;subst hSw;(try simp only[Act.put,sA,sB,sC]);go_simp;first|done|with_reducible rfl)
 try simp only[Act.put,sA,sB,sC]
 refine wpAnyH_done (by kernel_rfl) ?_ _;go_wp2;go_ret;exact⟨by rw[HE.out];rfl,uO⟩
def qg(z:Int):Bool:=z == 0 || (z == 1 || (z == 2 || z == 3))
theorem zjh{z:Int}:(!qg z)=true↔(z<0\/3<z):=by
 unfold qg;simp only[Bool.not_eq_true',Bool.or_eq_false_iff,beq_eq_false_iff_ne];omega
theorem zia(z:Int)(w:World):Calls prog 75 #[.int .i64 z] w (fun e w'=>e=.returned (.bool (qg z))/\w'=w):=by
 have HZ:Hid (qg z=(z == 0 || (z == 1 || (z == 2 || z == 3)))):=rfl;go_enter func75,ntmps75;rcases h0:(z == 0) with _|_
 ·rcases h1:(z == 1) with _|_
  ·rcases h2:(z == 2) with _|_
   ·rw[h0,h1,h2] at HZ;go_wp2;go_ret;exact⟨by rw[HZ.out];rfl,rfl⟩
   rw[h0,h1,h2] at HZ;go_wp2;go_ret;exact⟨by rw[HZ.out];rfl,rfl⟩
  rw[h0,h1] at HZ;go_wp2;go_ret;exact⟨by rw[HZ.out];rfl,rfl⟩
 rw[h0] at HZ;go_wp2;go_ret;exact⟨by rw[HZ.out];rfl,rfl⟩
theorem Z0:∀(args:Array Value) (W:World),(callFunc 72 args).run prog W=.ok (.enter 72 args) W:=fun _ _=>by rfl
theorem zk8:∀(args:Array Value) (W:World),(callFunc 74 args).run prog W=.ok (.enter 74 args) W:=fun _ _=>by rfl
theorem znm(z:Int)(w:World):Calls prog 74 #[.int .i64 z] w (jk (z<0\/3<z) w):=by
 have HH:=hid (zia z w);have HQ:Hid (jk (z<0\/3<z) w (.returned (.bool (!qg z))) w):=⟨_,zjh,rfl,Below.refl _ _⟩
 go_enter func74,ntmps74;go_wp2_with (go_at_call 75;refine HH.out.mono ?_;rintro e w2 ⟨rfl,rfl⟩);go_ret;exact HQ.out
theorem znn(G:Gr)(y:Sy)(b:Nat)(w:World)(hA:G.At w)(hL:G.na 9223372036854775807)(hG:eU w b G):
  Calls prog 72 #[.agg #[.bool y.s,.int .i64 y.n],.pointer (some ⟨b,0,none⟩)] w (jk (dL G y=false) w):=by
 have HH:Hid (∀W,Below w.heap.size w W->Calls prog 14 #[.agg #[.slice G.aR G.R.length G.cR,.slice G.aS G.S.length G.cS,.slice G.aP G.P.length G.cP,.slice G.aL G.L.length G.cL,.int .i64 G.st],.agg #[.bool y.s,.int .i64 y.n]] W (px (dL G y) W)):=fun W k=>I2 G y W (hA.below k) hL
 have HG:=hid hG;clear hA hL hG;obtain⟨w2,bD⟩:∃w2,(w.alloc (.cells #[.bool y.s,.int .i64 y.n] 38))=w2:=⟨_,rfl⟩
 have H:Hid (kJ w2 w.heap.size y/\Below w.heap.size w w2):=by
  rw[<-bD];have k0:=al w (.cells #[.bool y.s,.int .i64 y.n] 38);exact⟨(kJ.new w y 38),k0⟩
 have iL:Hid (w2.heap.size=w.heap.size+1):=by show _=_;rw[<-bD];simp
 go_enter func72,ntmps72;go_upto_region 1 with fail
 try rw[bD]
 clear bD;have HB:=hid H.out.2;have hg:=HG.out.below HB.out;have c0:=hg.c0;have c1:=hg.c1;have c2:=hg.c2;have c3:=hg.c3;have c4:=hg.c4;have s0:=H.out.1.c0;have s1:=H.out.1.c1;have EU:=hid (HH.out w2 HB.out);clear hg H iL HH;go_wp2_with (go_at_call 14;refine EU.out.mono ?_);rintro e w3 ⟨rfl,b3⟩;have py:=hid (HB.out.trans (b3.mono HB.out.size));clear b3 c0 c1 c2 c3 c4 s0 s1 EU;have HQ:Hid (∀W,Below w.heap.size w W->jk (dL G y=false) w (.returned (.bool (!dL G y))) W):=fun W k=>⟨_,by cases dL G y <;> simp,rfl,k⟩
 go_wp2;go_ret;exact HQ.out _ py.out
theorem zk9(fn:Nat)(zz:∀(args:Array Value) (W:World),(callFunc fn args).run prog W=.ok (.enter fn args) W)(p:Sy->Prop)(n c b:Nat)(a:Option Addr)(l:List Sy)(hl:l.length=n)(hn:n<=9223372036854775807)(w:World)(h1:qv w a l)
  (hF:∀(x:Sy) W,Below w.heap.size w W->Calls prog fn #[.agg #[.bool x.s,.int .i64 x.n],.pointer (some ⟨b,0,none⟩)] W (jk (p x) W)):
  Calls prog 87 #[.slice a n c,.func (.func fn) #[] #[.pointer (some ⟨b,0,none⟩)]] w (fun e w'=>∃r:Int,e=.returned (.int .i64 r)/\(0<=r↔∃x∈l,p x)/\Below w.heap.size w w'):=by
 have H:=hid (Zz h1 (Zz hl hF));clear h1 hl hF;go_enter func87,ntmps87;go_wp2;go_loopw [5,8] (fun _ v wr=>∃k:Nat,v=.int .i64 k/\k<=n/\Hid (Below w.heap.size w wr/\∀j (h:j<l.length),j<k->¬p l[j])) (fun _ v _=>n-(intOf v).toNat)
 ·exact⟨0,rfl,zero_le _,Below.refl _ _,fun j _ h=>by omega⟩
 obtain⟨k,rfl,hk,HL⟩:=hrel;by_cases aw:k<n
 case neg=>
  obtain rfl:k=n:=by omega
  have HZ:Hid ((0:Int)<=-1↔∃x∈l,p x):=⟨fun h=>by omega,fun ⟨x,hx,hp⟩=>by
   obtain⟨j,hj,rfl⟩:=getElem_of_mem hx
   exact absurd hp (HL.out.2 j hj (by have:=H.out.2.1;omega))⟩
  go_wp2;go_ret;exact⟨_,rfl,HZ.out,HL.out.1⟩
 have hkl:k<l.length:=by rw[H.out.2.1];exact aw
 obtain⟨g1,o1,rfl,_,x0,x1⟩:=(H.out.1.below HL.out.1).get k hkl;have HF:=hid (H.out.2.2 l[k] wr HL.out.1);have HS:Hid (¬p l[k]->∀j (h:j<l.length),j<k+1->¬p l[j]):=fun h j hj hjk=>by
  by_cases e:j=k
  ·subst e;exact h
  exact HL.out.2 j hj (by omega)
 have HY:Hid (p l[k]->((0:Int)<=k↔∃x∈l,p x)):=fun h=>⟨fun _=>⟨_,getElem_mem hkl,h⟩,fun _=>by omega⟩
 have i1:(k:Int)<n:=by omega
 generalize l[k]=x at x0 x1 HF HS HY;clear hkl;go_wp2_with fail;refine HF.out.mono ?_;rintro e w2 ⟨y,hy,rfl,b2⟩;have H2:=hid (Zz (HL.out.1.trans (b2.mono HL.out.1.size)) hy);clear b2 hy HF x0 x1;rcases y with _|_
 ·have HZ:=hid (HS.out (fun h=>by have:=H2.out.2.2 h;cases this));go_wp2;go_roundw
  ·exact⟨k+1,by go_num,by omega,H2.out.1,HZ.out⟩
  simp[intOf];omega
 have HZ:=hid (HY.out (H2.out.2.1 rfl));go_wp2;go_ret;exact⟨_,rfl,HZ.out,H2.out.1⟩
theorem ZM(fn:Nat)(zz:∀(args:Array Value) (W:World),(callFunc fn args).run prog W=.ok (.enter fn args) W)(p:Sy->Prop)(n c b:Nat)(a:Option Addr)(l:List Sy)(hl:l.length=n)(hn:n<=9223372036854775807)(w:World)(h1:qv w a l)
  (hF:∀(x:Sy) W,Below w.heap.size w W->Calls prog fn #[.agg #[.bool x.s,.int .i64 x.n],.pointer (some ⟨b,0,none⟩)] W (jk (p x) W)):
  Calls prog 71 #[.slice a n c,.func (.func fn) #[] #[.pointer (some ⟨b,0,none⟩)]] w (jk (∃x∈l,p x) w):=by
 have HI:=hid (zk9 fn zz p n c b a l hl hn w h1 hF);clear h1 hl hF zz;go_enter func71,ntmps71;go_wp2_with (go_at_call 87;refine HI.out.mono ?_);rintro e w2 ⟨r,rfl,hr,b2⟩;have HZ:Hid (jk (∃x∈l,p x) w (.returned (.bool (decide (0<=r)))) w2):=⟨_,by rw[decide_eq_true_iff];exact hr,rfl,b2⟩
 clear hr b2 HI;go_wp2;go_ret;exact HZ.out
theorem zlb(fn:Nat)(zz:∀(args:Array Value) (W:World),(callFunc fn args).run prog W=.ok (.enter fn args) W)(p:Int->Prop)(n c:Nat)(a:Option Addr)(l:List Int)(hl:l.length=n)(hn:n<=9223372036854775807)(w:World)(h1:eI w a l)
  (hF:∀(x:Int) W,Below w.heap.size w W->Calls prog fn #[.int .i64 x] W (jk (p x) W)):
  Calls prog 88 #[.slice a n c,.func (.func fn) #[] #[]] w (fun e w'=>∃r:Int,e=.returned (.int .i64 r)/\(0<=r↔∃x∈l,p x)/\Below w.heap.size w w'):=by
 have H:=hid (Zz h1 (Zz hl hF));clear h1 hl hF;go_enter func88,ntmps88;go_wp2;go_loopw [5,8] (fun _ v wr=>∃k:Nat,v=.int .i64 k/\k<=n/\Hid (Below w.heap.size w wr/\∀j (h:j<l.length),j<k->¬p l[j])) (fun _ v _=>n-(intOf v).toNat)
 ·exact⟨0,rfl,zero_le _,Below.refl _ _,fun j _ h=>by omega⟩
 obtain⟨k,rfl,hk,HL⟩:=hrel;by_cases aw:k<n
 case neg=>
  obtain rfl:k=n:=by omega
  have HZ:Hid ((0:Int)<=-1↔∃x∈l,p x):=⟨fun h=>by omega,fun ⟨x,hx,hp⟩=>by
   obtain⟨j,hj,rfl⟩:=getElem_of_mem hx
   exact absurd hp (HL.out.2 j hj (by have:=H.out.2.1;omega))⟩
  go_wp2;go_ret;exact⟨_,rfl,HZ.out,HL.out.1⟩
 have hkl:k<l.length:=by rw[H.out.2.1];exact aw
 obtain⟨g1,o1,rfl,_,x0⟩:=(H.out.1.below HL.out.1).get k hkl;have HF:=hid (H.out.2.2 l[k] wr HL.out.1);have HS:Hid (¬p l[k]->∀j (h:j<l.length),j<k+1->¬p l[j]):=fun h j hj hjk=>by
  by_cases e:j=k
  ·subst e;exact h
  exact HL.out.2 j hj (by omega)
 have HY:Hid (p l[k]->((0:Int)<=k↔∃x∈l,p x)):=fun h=>⟨fun _=>⟨_,getElem_mem hkl,h⟩,fun _=>by omega⟩
 have i1:(k:Int)<n:=by omega
 generalize l[k]=x at x0 HF HS HY;clear hkl;go_wp2_with fail;refine HF.out.mono ?_;rintro e w2 ⟨y,hy,rfl,b2⟩;have H2:=hid (Zz (HL.out.1.trans (b2.mono HL.out.1.size)) hy);clear b2 hy HF x0;rcases y with _|_
 ·have HZ:=hid (HS.out (fun h=>by have:=H2.out.2.2 h;cases this));go_wp2;go_roundw
  ·exact⟨k+1,by go_num,by omega,H2.out.1,HZ.out⟩
  simp[intOf];omega
 have HZ:=hid (HY.out (H2.out.2.1 rfl));go_wp2;go_ret;exact⟨_,rfl,HZ.out,H2.out.1⟩
theorem Zd(fn:Nat)(zz:∀(args:Array Value) (W:World),(callFunc fn args).run prog W=.ok (.enter fn args) W)(p:Int->Prop)(n c:Nat)(a:Option Addr)(l:List Int)(hl:l.length=n)(hn:n<=9223372036854775807)(w:World)(h1:eI w a l)
  (hF:∀(x:Int) W,Below w.heap.size w W->Calls prog fn #[.int .i64 x] W (jk (p x) W)):
  Calls prog 73 #[.slice a n c,.func (.func fn) #[] #[]] w (jk (∃x∈l,p x) w):=by
 have HI:=hid (zlb fn zz p n c a l hl hn w h1 hF);clear h1 hl hF zz;go_enter func73,ntmps73;go_wp2_with (go_at_call 88;refine HI.out.mono ?_);rintro e w2 ⟨r,rfl,hr,b2⟩;have HZ:Hid (jk (∃x∈l,p x) w (.returned (.bool (decide (0<=r)))) w2):=⟨_,by rw[decide_eq_true_iff];exact hr,rfl,b2⟩
 clear hr b2 HI;go_wp2;go_ret;exact HZ.out
theorem zeA(G:Gr)(i:Nat)(hi:i<G.P.length)(w:World)(hA:G.At w)(hL:G.na 1000000):
  Calls prog 55 #[G.val,.int .i64 i] w (wY (je G i) w):=by
 show Calls prog 55 #[.agg #[.slice G.aR G.R.length G.cR,.slice G.aS G.S.length G.cS,.slice G.aP G.P.length G.cP,.slice G.aL G.L.length G.cL,.int .i64 G.st],.int .i64 i] w _;obtain⟨g,o,eP,fk⟩:=zll hA (by omega);have Ex:=hid (Zz fk eP);obtain⟨x,hx⟩:∃x,gj G i=x:=⟨_,rfl⟩
 have Hx:=hid hx;have sb:=hL.ps i hi;rw[<-qB hi,hx] at sb;have Ez:=(fk w (Below.refl _ _) i hi).1;rw[hx] at Ez;have HA:=hid (Zz hA (Zz hL Ez));have Lf:=hL.p;have vw:Hid (∀W,Below w.heap.size w W->Calls prog 20 #[.agg #[.int .i64 x.bB,.string x.cZ,.slice x.ab x.body.length x.cb,.bool x.par,.int .i64 x.prec,.slice x.ah x.hints.length x.ch]] W (px (ek x) W)):=fun W k=>VM x W (Ez.below k) (by have:=sb.2.1;omega)
 have wE:Hid (∀(y:Sy) W,Below w.heap.size w W->Calls prog 14 #[.agg #[.slice G.aR G.R.length G.cR,.slice G.aS G.S.length G.cS,.slice G.aP G.P.length G.cP,.slice G.aL G.L.length G.cL,.int .i64 G.st],.agg #[.bool y.s,.int .i64 y.n]] W (px (dL G y) W)):=fun y W k=>I2 G y W (hA.below k) (hL.mono (by omega))
 have AL:Hid (∀W,Below w.heap.size w W->Calls prog 23 #[.agg #[.slice G.aR G.R.length G.cR,.slice G.aS G.S.length G.cS,.slice G.aP G.P.length G.cP,.slice G.aL G.L.length G.cL,.int .i64 G.st],.string x.cZ] W (vu G.P (fun y=>y.cZ=x.cZ) W)):=fun W k=>VD G x.cZ W (hA.below k) (by omega)
 have Yt:Hid (∀(b:Nat) W,Below w.heap.size w W->eU W b G->Calls prog 71 #[.slice x.ab x.body.length x.cb,.func (.func 72) #[] #[.pointer (some ⟨b,0,none⟩)]] W (jk (∃y∈x.body,dL G y=false) W)):=fun b W k hG=>ZM 72 Z0 (fun y=>dL G y=false) x.body.length x.cb b x.ab x.body rfl (by have:=sb.2.1;omega) W (Ez.below k).b (fun y W' k'=>znn G y b W' (hA.below (k.trans (k'.mono k.size))) (hL.mono (by omega)) (hG.below k'))
 have SB:Hid (∀W,Below w.heap.size w W->Calls prog 73 #[.slice x.ah x.hints.length x.ch,.func (.func 74) #[] #[]] W (jk (∃z∈x.hints,z<0\/3<z) W)):=fun W k=>Zd 74 zk8 (fun z=>z<0\/3<z) x.hints.length x.ch x.ah x.hints rfl (by have:=sb.2.2;omega) W (Ez.below k).h (fun z W' _=>znm z W')
 have xQ:∀(fn:Fn) (first cap:Array Value) (w:World),(Instr.makeFunc fn first cap).run prog w=.ok (.func fn first cap) w:=fun _ _ _ _=>rfl
 clear hA hL fk eP hx Ez;obtain⟨w2,bD⟩:∃w2,(w.alloc (.cells #[.slice G.aR G.R.length G.cR,.slice G.aS G.S.length G.cS,.slice G.aP G.P.length G.cP,.slice G.aL G.L.length G.cL,.int .i64 G.st] 27))=w2:=⟨_,rfl⟩
 have H:Hid (eU w2 w.heap.size G/\Below w.heap.size w w2):=by
  rw[<-bD];have k0:=al w (.cells #[.slice G.aR G.R.length G.cR,.slice G.aS G.S.length G.cS,.slice G.aP G.P.length G.cP,.slice G.aL G.L.length G.cL,.int .i64 G.st] 27);exact⟨(eU.new w G 27),k0⟩
 have iL:Hid (w2.heap.size=w.heap.size+1):=by show _=_;rw[<-bD];simp
 go_enter func55,ntmps55;go_upto_region 1 with fail
 try rw[bD]
 clear bD;obtain⟨b,hb⟩:∃b,w.heap.size=b:=⟨_,rfl⟩
 have HX:Hid (lh w b G w2):=by rw[<-hb];exact H.out
 have da:w2.heap.size=b+1:=by rw[<-hb];exact iL.out
 rw[hb];clear hb H iL;obtain⟨n,hn⟩:∃n,G.P.length=n:=⟨_,rfl⟩
 have HN:=hid hn;have c2:=HX.out.1.c2;rw[hn,Ex.out.2] at c2;have i0:(i:Int)<n:=by omega
 obtain⟨_,x0,x1,x2,x3,x4,x5⟩:=Ex.out.1 w2 HX.out.2 i hi;rw[Hx.out] at x0 x1 x2 x3 x4 x5;rw[hn] at Lf;clear hn;obtain⟨w3,Ci⟩:∃w3,w2.alloc (.cells #[.int .i64 x.bB,.string x.cZ,.slice x.ab x.body.length x.cb,.bool x.par,.int .i64 x.prec,.slice x.ah x.hints.length x.ch] 47)=w3:=⟨_,rfl⟩
 have HY:Hid (Ik w b G x w3):=by
  have k1:=al w2 (.cells #[.int .i64 x.bB,.string x.cZ,.slice x.ab x.body.length x.cb,.bool x.par,.int .i64 x.prec,.slice x.ah x.hints.length x.ch] 47);have p1:=nW.new w2 x 47;rw[Ci] at k1 p1;rw[da] at p1;exact⟨HX.out.1.below k1,p1,HX.out.2.trans (k1.mono HX.out.2.size)⟩
 go_upto_region 2 with fail
 try rw[Ci]
 try rw[da]
 clear Ci x0 x1 x2 x3 x4 x5 c2 da HX;have tm:Hid (∀z:Int,je G i=z->∀W,Below w.heap.size w W->wY (je G i) w (.returned (.int .i64 z)) W):=fun z h W k=>⟨by rw[h],k⟩
 have kd:Below w3.heap.size w3 w3.drew:=⟨rfl,rfl,rfl,le_refl _,fun _ _=>rfl⟩
 have RO:=hid (HY.out.aa kd);clear kd HY;generalize vt:w3.drew=w4 at RO;refine wp_region_held_drew (S:=fun W'=>Ik w b G x W') (by kernel_rfl) (by rw[vt];exact RO.out) (fun hHeld=>?_);rw[vt] at hHeld⊢;clear vt RO;obtain⟨bo,jG⟩:∃bo,dL G ⟨true,x.bB⟩=bo:=⟨_,rfl⟩
 have Fe:=hid jG;have Fi:Hid (∀W,Below w.heap.size w W->Calls prog 14 #[.agg #[.slice G.aR G.R.length G.cR,.slice G.aS G.S.length G.cS,.slice G.aP G.P.length G.cP,.slice G.aL G.L.length G.cL,.int .i64 G.st],.agg #[.bool true,.int .i64 x.bB]] W (px bo W)):=by rw[<-jG];exact wE.out ⟨true,x.bB⟩
 clear jG;refine ag 0 (v:=.agg #[.slice G.aR G.R.length G.cR,.slice G.aS G.S.length G.cS,.slice G.aP G.P.length G.cP,.slice G.aL G.L.length G.cL,.int .i64 G.st]) ?_ (hy:=by intro wz hSw;have y0:=hSw.1.c0;have y1:=hSw.1.c1;have y2:=hSw.1.c2;have y3:=hSw.1.c3;have y4:=hSw.1.c4;have z0:=hSw.2.1.c0;(try simp only[Act.put,sA,sB,sC]);go_simp;first|done|with_reducible rfl)
 try simp only[Act.put,sA,sB,sC]
 refine ag 1 ?_ (hy:=by intro wz hSw;have y0:=hSw.1.c0;have y1:=hSw.1.c1;have y2:=hSw.1.c2;have y3:=hSw.1.c3;have y4:=hSw.1.c4;have z0:=hSw.2.1.c0;(try simp only[Act.put,sA,sB,sC]);go_simp;first|done|with_reducible rfl)
 try simp only[Act.put,sA,sB,sC]
 refine ag 2 ?_ (hy:=by intro wz hSw;have y0:=hSw.1.c0;have y1:=hSw.1.c1;have y2:=hSw.1.c2;have y3:=hSw.1.c3;have y4:=hSw.1.c4;have z0:=hSw.2.1.c0;(try simp only[Act.put,sA,sB,sC]);go_simp;first|done|with_reducible rfl)
 try simp only[Act.put,sA,sB,sC]
 refine ba 3 (fun K hK=>?_);go_simp;go_at_call 30;refine (xY _ _).mono ?_;rintro e w8 ⟨rfl,b8⟩;have aW:=hHeld.aa b8;clear b8 hHeld
 try go_wp2_with fail
 refine hK.out _ _ aW (fun hHeld=>?_);clear hK K aW
 try simp only[Act.put,sA,sB,sC]
 refine ba 4 (fun K hK=>?_);go_simp;go_at_call 14;refine (Fi.out _ hHeld.2.2).mono ?_;rintro e w8 ⟨rfl,b8⟩;have aW:=hHeld.aa b8;clear b8 hHeld
 try go_wp2_with fail
 refine hK.out _ _ aW (fun hHeld=>?_);clear hK K aW
 try simp only[Act.put,sA,sB,sC]
 refine ag 5 ?_ (hy:=by intro wz hSw;have y0:=hSw.1.c0;have y1:=hSw.1.c1;have y2:=hSw.1.c2;have y3:=hSw.1.c3;have y4:=hSw.1.c4;have z0:=hSw.2.1.c0;(try simp only[Act.put,sA,sB,sC]);go_simp;first|done|with_reducible rfl)
 try simp only[Act.put,sA,sB,sC]
 refine ag 6 ?_ (hy:=by intro wz hSw;have y0:=hSw.1.c0;have y1:=hSw.1.c1;have y2:=hSw.1.c2;have y3:=hSw.1.c3;have y4:=hSw.1.c4;have z0:=hSw.2.1.c0;(try simp only[Act.put,sA,sB,sC]);go_simp;first|done|with_reducible rfl)
 try simp only[Act.put,sA,sB,sC]
 refine wpAnyH_done (by kernel_rfl) ?_ _;have kq:Hid (bo=true↔¬(x.bB<0\/(G.S.length:Int)<=x.bB)):=by
  show _↔_;rw[<-Fe.out,show dL G ⟨true,x.bB⟩=xu G x.bB from rfl,Mq];simp only[Bool.and_eq_true,decide_eq_true_eq];omega
 have qF:=hid hHeld;clear hHeld Fi Fe;cases bo with
 | false=>
  have HZ:=hid (tm.out 11 (zpi Hx.out (Classical.byContradiction fun h=>by have:=kq.out.2 h;cases this)) _ qF.out.2.2);go_wp2;go_ret;exact HZ.out
 | true=>
 have H1:=hid (kq.out.1 rfl);have yl:=sb.2.1;have hph:=sb.2.2;have sK:=sb.1;clear sb;generalize hW:w8=W4 at qF⊢;clear hW;have p1:=qF.out.2.1.c1;have xO:=hid (Qr x.cZ W4 (by unfold maxLen;omega));clear kq;go_upto_region 4 with fail;cases hT:bW x.cZ with
 | false=>
  rw[hT] at xO;have HZ:=hid (tm.out 8 (zpj Hx.out H1.out hT) _ qF.out.2.2);clear hT;go_wp2_with (go_at_call 70;refine xO.out.mono ?_;rintro e w5 ⟨rfl,rfl⟩);go_ret;exact HZ.out
 | true=>
 rw[hT] at xO;have HT:=hid hT;clear hT;go_upto_region 6 with (go_at_call 70;refine xO.out.mono ?_;rintro e w5 ⟨rfl,rfl⟩);clear xO p1;have p2:=qF.out.2.1.c2;have p5:=qF.out.2.1.c5;by_cases I9:12<x.body.length
 ·have i12:(12:Int)<(x.body.length:Int):=by omega
  have HZ:=hid (tm.out 6 (zpk Hx.out H1.out HT.out I9) _ qF.out.2.2);clear I9;go_wp2;go_ret;exact HZ.out
 have i12:¬(12:Int)<(x.body.length:Int):=by omega
 obtain⟨bh,Be⟩:∃bh,decide (x.hints.length≠x.body.length-1)=bh:=⟨_,rfl⟩
 go_upto_region 8 with fail
 go_cut [28] from 29 to 37 (fun v wx=>v=.bool bh/\wx=W4)
 case first=>
  by_cases hc:0<x.body.length
  ·have j3:(0:Int)<=(x.body.length:Int)-1:=(by omega);have j8:max ((x.body.length:Int)-1) 0=(x.body.length:Int)-1:=(by omega);have j4:((x.hints.length:Int) != (x.body.length:Int)-1)=bh:=by
    rw[<-Be,Bool.eq_iff_iff];simp only[bne_iff_ne,ne_eq,decide_eq_true_eq];omega
   clear Be;go_wp2_with fail
   go_meet
   exact⟨rfl,rfl⟩
  have j3:(x.body.length:Int)-1<0:=by omega
  have j8:max ((x.body.length:Int)-1) 0=0:=by omega
  have j4:((x.hints.length:Int) != 0)=bh:=by
   rw[<-Be,Bool.eq_iff_iff];simp only[bne_iff_ne,ne_eq,decide_eq_true_eq];omega
  clear Be;go_wp2_with fail
  go_meet
  exact⟨rfl,rfl⟩
 case rest=>
 obtain⟨rfl,rfl⟩:=hcut;cases bh with
 | true=>
  have HZ:=hid (tm.out 1 (zpl Hx.out H1.out HT.out I9 (by simpa using Be)) _ qF.out.2.2);clear Be;go_wp2;go_ret;exact HZ.out
 | false=>
 have rE:=hid (X7 Hx.out H1.out HT.out I9 (by simpa using Be));clear Be I9 i12 p2 p5;have c0:=qF.out.1.c0;have c1:=qF.out.1.c1;have c2:=qF.out.1.c2;have c3:=qF.out.1.c3;have c4:=qF.out.1.c4;have p1:=qF.out.2.1.c1;have Fj:=hid (AL.out _ qF.out.2.2);go_wp2_with (go_at_call 23;refine Fj.out.mono ?_;rintro e w5 ⟨r,rfl,hr,b5⟩;refine Hid.out ?_);refine hid ?_;have EA:=hid (qF.out.aa b5);have HQ:Hid (r<(i:Int)↔∃k,k<i/\(gj G k).cZ=x.cZ):=by
  show _↔_;rw[zow hr hi (by rw[<-qB hi,Hx.out])];constructor
  ·rintro⟨k,hk,h⟩;exact⟨k,hk,by rw[qB (by omega)];exact h⟩
  rintro⟨k,hk,h⟩;exact⟨k,hk,by rw[qB (by omega)] at h;exact h⟩
 clear c0 c1 c2 c3 c4 p1 Fj b5 hr AL qF;by_cases OZ:r<(i:Int)
 ·have HZ:=hid (tm.out 9 (by rw[rE.out,if_pos (HQ.out.1 OZ)]) _ EA.out.2.2);clear HQ;go_wp2;go_ret;exact HZ.out
 have RM:Hid (je G i=(open Classical in if (∃y∈x.body,dL G y=false) then 11 else if (∃z∈x.hints,z<0\/3<z) then 1
     else if x.prec≠-1/\jv G x.prec=false then 11 else if x.par=true/\ek x=false then 15 else 0)):=by
  show _=_
  rw[rE.out,if_neg (fun h=>OZ (HQ.out.2 h))]
 clear HQ rE;have p2:=EA.out.2.1.c2;have qe:=hid (Yt.out b _ EA.out.2.2 EA.out.1);go_upto_region 12 with fail;go_wp2_with (go_at_call 71;refine qe.out.mono ?_;rintro e w6 ⟨bo,jG,rfl,b6⟩;refine Hid.out ?_);refine hid ?_;have AF:=hid (EA.out.aa b6);clear p2 qe b6 Yt EA OZ;cases bo with
 | true=>
  have HZ:=hid (tm.out 11 (by rw[RM.out,if_pos (jG.1 rfl)]) _ AF.out.2.2);clear jG;go_wp2;go_ret;exact HZ.out
 | false=>
 have xK:Hid (je G i=(open Classical in if (∃z∈x.hints,z<0\/3<z) then 1
     else if x.prec≠-1/\jv G x.prec=false then 11 else if x.par=true/\ek x=false then 15 else 0)):=by
  show _=_
  rw[RM.out,if_neg (fun h=>by have:=jG.2 h;cases this)]
 clear jG RM;have p5:=AF.out.2.1.c5;have Sg:=hid (SB.out _ AF.out.2.2);go_wp2_with (go_at_call 73;refine Sg.out.mono ?_;rintro e w7 ⟨bo,jG,rfl,b7⟩;refine Hid.out ?_);refine hid ?_;have kG:=hid (AF.out.aa b7);clear p5 Sg b7 SB AF;cases bo with
 | true=>
  have HZ:=hid (tm.out 1 (by rw[xK.out,if_pos (jG.1 rfl)]) _ kG.out.2.2);clear jG;go_wp2;go_ret;exact HZ.out
 | false=>
 have Jl:Hid (je G i=(open Classical in if x.prec≠-1/\jv G x.prec=false then 11 else if x.par=true/\ek x=false then 15 else 0)):=by
  show _=_;rw[xK.out,if_neg (fun h=>by have:=jG.2 h;cases this)]
 clear jG xK;have c0:=kG.out.1.c0;have c1:=kG.out.1.c1;have c2:=kG.out.1.c2;have c3:=kG.out.1.c3;have c4:=kG.out.1.c4;have p3:=kG.out.2.1.c3;have p4:=kG.out.2.1.c4;obtain⟨pb,Dp⟩:∃pb:Bool,decide (x.prec≠-1/\jv G x.prec=false)=pb:=⟨_,rfl⟩
 obtain⟨hb,tu⟩:∃hb,jv G x.prec=hb:=⟨_,rfl⟩
 have C5:Hid (Calls prog 14 #[.agg #[.slice G.aR G.R.length G.cR,.slice G.aS G.S.length G.cS,.slice G.aP G.P.length G.cP,.slice G.aL G.L.length G.cL,.int .i64 G.st],.agg #[.bool false,.int .i64 x.prec]] w7 (px hb w7)):=by rw[<-tu];exact wE.out ⟨false,x.prec⟩ w7 kG.out.2.2
 by_cases DP:x.prec=-1
 case neg=>
  have j1:(x.prec != -1)=true:=by simp[DP]
  go_wp2_with (go_at_call 14;refine C5.out.mono ?_;rintro e w8 ⟨rfl,b8⟩;refine Hid.out ?_)
  refine hid ?_
  have uD:=hid (kG.out.aa b8)
  clear c0 c1 c2 c3 c4 p3 p4 b8 C5
  cases hb with
  | false=>
   have HZ:=hid (tm.out 11 (by rw[Jl.out,if_pos ⟨DP,tu⟩]) _ uD.out.2.2);clear tu Dp;go_wp2;go_ret;exact HZ.out
  | true=>
  have yp:Hid (je G i=(open Classical in if x.par=true/\ek x=false then 15 else 0)):=by
   show _=_;rw[Jl.out,if_neg (fun h=>by rw[tu] at h;cases h.2)]
  clear tu Dp Jl
  have q0:=uD.out.2.1.c0
  have q1:=uD.out.2.1.c1
  have q2:=uD.out.2.1.c2
  have q3:=uD.out.2.1.c3
  have q4:=uD.out.2.1.c4
  have q5:=uD.out.2.1.c5
  by_cases pW:x.par=true
  case neg=>
   have HZ:=hid (tm.out 0 (by rw[yp.out,if_neg (fun h=>pW h.1)]) _ uD.out.2.2);have j2:x.par=false:=(by simpa using pW);rw[j2] at q3;clear pW;go_wp2;go_ret;exact HZ.out
  rw[pW] at q3
  obtain⟨eb,vD⟩:∃eb,ek x=eb:=⟨_,rfl⟩
  have CJ:=hid (vw.out _ uD.out.2.2)
  rw[pW,vD] at CJ
  have N0:=hid pW
  clear pW
  go_wp2_with (go_at_call 20;refine CJ.out.mono ?_;rintro e w9 ⟨rfl,b9⟩;refine Hid.out ?_)
  refine hid ?_
  have Gb:=hid (uD.out.aa b9)
  clear q0 q1 q2 q3 q4 q5 b9 CJ
  cases eb with
  | false=>
   have HZ:=hid (tm.out 15 (by rw[yp.out,if_pos ⟨N0.out,vD⟩]) _ Gb.out.2.2);clear vD;go_wp2;go_ret;exact HZ.out
  | true=>
   have HZ:=hid (tm.out 0 (by rw[yp.out,if_neg (fun h=>by rw[vD] at h;cases h.2)]) _ Gb.out.2.2);clear vD;go_wp2;go_ret;exact HZ.out
 have j1:(x.prec != -1)=false:=by simp[DP]
 have yp:Hid (je G i=(open Classical in if x.par=true/\ek x=false then 15 else 0)):=by
  show _=_;rw[Jl.out,if_neg (fun h=>h.1 DP)]
 have Hpr:=hid DP;clear DP tu Dp Jl c0 c1 c2 c3 c4 C5;have q0:=kG.out.2.1.c0;have q1:=kG.out.2.1.c1;have q2:=kG.out.2.1.c2;have q3:=kG.out.2.1.c3;have q4:=kG.out.2.1.c4;have q5:=kG.out.2.1.c5;by_cases pW:x.par=true
 case neg=>
  have HZ:=hid (tm.out 0 (by rw[yp.out,if_neg (fun h=>pW h.1)]) _ kG.out.2.2);have j2:x.par=false:=by simpa using pW
  rw[j2] at q3;clear pW;go_wp2;go_ret;exact HZ.out
 rw[pW] at q3;obtain⟨eb,vD⟩:∃eb,ek x=eb:=⟨_,rfl⟩
 have CJ:=hid (vw.out _ kG.out.2.2);rw[pW,vD] at CJ;have N0:=hid pW;clear pW;go_wp2_with (go_at_call 20;refine CJ.out.mono ?_;rintro e w9 ⟨rfl,b9⟩;refine Hid.out ?_);refine hid ?_;have Gb:=hid (kG.out.aa b9);clear q0 q1 q2 q3 q4 q5 b9 CJ;cases eb with
 | false=>
  have HZ:=hid (tm.out 15 (by rw[yp.out,if_pos ⟨N0.out,vD⟩]) _ Gb.out.2.2);clear vD;go_wp2;go_ret;exact HZ.out
 | true=>
  have HZ:=hid (tm.out 0 (by rw[yp.out,if_neg (fun h=>by rw[vD] at h;cases h.2)]) _ Gb.out.2.2);clear vD;go_wp2;go_ret;exact HZ.out
def sh(l:List Int):List Value:=l.map fun z=>.int .i64 z
theorem Xg{a:Option Addr}{c:Nat}{l:List Int}(h:w.ownsRow B 3 1 (.slice a n c) n (sh l))(hl:l.length=n):eI w a l:=by
 intro h0;obtain⟨g,e,_,hg,hc⟩:=fe h (by omega);refine⟨g,0,e,hg,fun j hj=>?_⟩;rw[Nat.zero_add,(hc j (by omega)).1];simp[sh,hj]
theorem Z5(G:Gr)(t:Int)(w:World)(hA:G.At w)(hL:G.P.length<=1000000):
  Calls prog 18 #[G.val,.int .i64 t] w (KX (ld G t) w):=by
 show Calls prog 18 #[.agg #[.slice G.aR G.R.length G.cR,.slice G.aS G.S.length G.cS,.slice G.aP G.P.length G.cP,.slice G.aL G.L.length G.cL,.int .i64 G.st],.int .i64 t] w _;obtain⟨iI,hI,oG,ow,oK⟩:=info_parts az;have HA:=hid (Zz hA hL);clear hA hL;obtain⟨w2,bD⟩:∃w2,(w.alloc (.cells #[.slice G.aR G.R.length G.cR,.slice G.aS G.S.length G.cS,.slice G.aP G.P.length G.cP,.slice G.aL G.L.length G.cL,.int .i64 G.st] 27))=w2:=⟨_,rfl⟩
 have H:Hid (eU w2 w.heap.size G/\Below w.heap.size w w2):=by
  rw[<-bD];have k0:=al w (.cells #[.slice G.aR G.R.length G.cR,.slice G.aS G.S.length G.cS,.slice G.aP G.P.length G.cP,.slice G.aL G.L.length G.cL,.int .i64 G.st] 27);exact⟨(eU.new w G 27),k0⟩
 have iL:Hid (w2.heap.size=w.heap.size+1):=by show _=_;rw[<-bD];simp
 go_enter func18,ntmps18;go_upto_region 1 with fail
 try rw[bD]
 clear bD;have HX:=hid H.out;obtain⟨b,hb⟩:∃b,w.heap.size=b:=⟨_,rfl⟩
 have yL:Hid (eU w2 b G/\Below w.heap.size w w2):=by rw[<-hb];exact HX.out
 rw[hb];clear hb H iL HX;obtain⟨n,hn⟩:∃n,G.P.length=n:=⟨_,rfl⟩
 have HN:=hid hn;have LW:n<=1000000:=by have:=HA.out.2;omega
 have c2:=yL.out.1.c2;rw[hn] at c2;clear hn;have vd:Hid (w2.ownsRow w.heap.size 3 1 (.slice none 0 0) 0 (sh (lp G t 0))):=World.ownsRow_nil _ _ _ _;go_wp2;go_loopw [5,6,7,11] (fun v5 _ _ v11 wr=>∃(k q:Nat) (a:Option Addr) (d:Nat),k<=n/\v11=.int .i64 (k:Int)/\v5=.slice a q d/\q<=k/\Hid (wr.ownsRow w.heap.size 3 1 (.slice a q d) q (sh (lp G t k))/\(lp G t k).length=q/\Below w.heap.size w wr)) (fun _ _ _ v _=>n-(intOf v).toNat)
 ·exact⟨0,0,none,0,zero_le _,rfl,rfl,le_refl _,vd.out,rfl,yL.out.2⟩
 clear vd c2;obtain⟨k,q,a,d,hk,rfl,rfl,hqk,HK⟩:=hrel;by_cases aw:k<n
 case neg=>
  obtain rfl:k=n:=by omega
  have HZ:Hid (KX (ld G t) w (.returned (.slice a q d)) wr):=by
   refine⟨a,d,?_,?_,HK.out.2.2⟩
   ·unfold ld;rw[HN.out,HK.out.2.1]
   unfold ld;rw[HN.out];exact Xg HK.out.1 HK.out.2.1
  go_wp2;go_ret;exact HZ.out
 have hkl:k<G.P.length:=by rw[HN.out];exact aw
 obtain⟨g1,o1,e1,_,X,x0,x1,x2,x3,x4,x5⟩:=(HA.out.1.below HK.out.2.2).p.get k hkl;have HU:=hid (Zz (fun h:(gj G k).bB=t=>Gc h) (fun h:(gj G k).bB≠t=>J0 h));rw[qB hkl] at HU;clear X;generalize G.P[k]=x at x0 x1 x2 x3 x4 x5 HU;have c2:=(yL.out.1).c2;have i1:(k:Int)<n:=by omega
 have Es:=nW.new wr x 47;have kb:=al wr (.cells #[.int .i64 x.bB,.string x.cZ,.slice x.ab x.body.length x.cb,.bool x.par,.int .i64 x.prec,.slice x.ah x.hints.length x.ch] 47);obtain⟨b0,aY⟩:∃b0,wr.heap.size=b0:=⟨_,rfl⟩
 have H0:Hid (nW (wr.alloc (.cells #[.int .i64 x.bB,.string x.cZ,.slice x.ab x.body.length x.cb,.bool x.par,.int .i64 x.prec,.slice x.ah x.hints.length x.ch] 47)) b0 x/\Below w.heap.size w (wr.alloc (.cells #[.int .i64 x.bB,.string x.cZ,.slice x.ab x.body.length x.cb,.bool x.par,.int .i64 x.prec,.slice x.ah x.hints.length x.ch] 47))/\(wr.alloc (.cells #[.int .i64 x.bB,.string x.cZ,.slice x.ab x.body.length x.cb,.bool x.par,.int .i64 x.prec,.slice x.ah x.hints.length x.ch] 47)).ownsRow w.heap.size 3 1 (.slice a q d) q (sh (lp G t k))):=⟨aY ▸ Es,HK.out.2.2.trans (kb.mono HK.out.2.2.size),HK.out.1.alloc _⟩
 clear c2 hkl Es kb;rw[e1];go_upto_region 5 with fail
 try rw[aY]
 clear aY x0 x1 x2 x3 x4 x5 e1;generalize wr.alloc (.cells #[.int .i64 x.bB,.string x.cZ,.slice x.ab x.body.length x.cb,.bool x.par,.int .i64 x.prec,.slice x.ah x.hints.length x.ch] 47)=W1 at H0⊢;have d0:=H0.out.1.c0;by_cases Ey:x.bB=t
 case neg=>
  have j1:(x.bB == t)=false:=by simp[Ey]
  have HZ:=hid (HU.out.2 Ey);clear Ey HU;go_wp2;go_roundw
  ·exact⟨k+1,q,a,d,by omega,by go_num,rfl,by omega,by rw[HZ.out];exact H0.out.2.2,by rw[HZ.out];exact HK.out.2.1,H0.out.2.1⟩
  simp[intOf];omega
 have j1:(x.bB == t)=true:=by simp[Ey]
 have HZ:=hid (HU.out.1 Ey);have HT:Hid (sh (lp G t (k+1))=sh (lp G t k)++[.int .i64 (k:Int)]):=by show _=_;rw[HZ.out,sh,List.map_append];rfl
 clear Ey HU;have da:=H0.out.2.1.size;have hO:=H0.out.2.2;go_wp2_with (at_builtin;refine wpList_append_own _ rfl _ _ 43 rfl w.heap.size 3 iI (.int .i64 0) 1 8 underlying43 hI oG ow oK rfl (by decide) _ q _ rfl (hO.alloc _) ⟨W1.heap.size,0,none⟩ 1 1 [.int .i64 (k:Int)] rfl rfl ?c1 ?c2 ?c3 ?c4 ?c5 ?_)
 case c1=>
  intro j u hj
  match j,hj with
  | 0,hj=>simp at hj;subst hj;simp[Addr.add]
 case c2=>first|rfl|(intro u hu;simp at hu;subst hu;rfl)
 case c3=>unfold maxLen;omega
 case c4=>omega
 case c5=>first|omega|(simp;omega)
 intro v' w5 an ak _;obtain⟨a5,c5,rfl⟩:=bG an;have HB:=hid ((H0.out.2.1.trans ((al W1 (.cells #[.int .i64 (k:Int)] 3)).mono da)).grown ak (by simp;omega) (fun g e=>(hO.lt g e).1));have HW:=hid an;clear an ak hO d0 da;go_wp2;go_roundw
 ·exact⟨k+1,q+1,a5,c5,by omega,by go_num,rfl,by omega,by rw[HT.out];exact HW.out,by rw[HZ.out,length_append,HK.out.2.1];rfl,HB.out⟩
 simp[intOf];omega
def zou(l:List ByteArray)(s:ByteArray)(w:World)(e:Ending)(w':World):Prop:=e=.returned (.int .i64 (yk l s))/\w'=w
theorem zib(l:List ByteArray)(s:ByteArray)(n c:Nat)(a:Option Addr)(hn:l.length=n)(LW:n<=1000000)(w:World)(h1:uG w a l):
  Calls prog 42 #[.slice a n c,.string s] w (zou l s w):=by
 have H:=hid (Zz h1 hn);clear h1 hn;go_enter func42,ntmps42;go_wp2;go_loopw [5,8] (fun _ v wr=>∃k:Nat,v=.int .i64 k/\k<=n/\wr=w/\Hid (∀j (h:j<l.length),j<k->l[j]≠s)) (fun _ v _=>n-(intOf v).toNat)
 ·exact⟨0,rfl,zero_le _,rfl,fun j _ h=>absurd h (by omega)⟩
 obtain⟨k,rfl,hk,rfl,HX⟩:=hrel;by_cases aw:k<n
 ·have iJ:k<l.length:=by rw[H.out.2];exact aw
  obtain⟨g1,o1,rfl,_,q1⟩:=H.out.1 (by omega);have x1:=q1 k iJ;have HN:Hid ((l[k]≠s->∀j (h:j<l.length),j<k+1->l[j]≠s)/\(l[k]=s->yk l s=(k:Int))):=by
   refine⟨fun h j hj h3=>?_,fun h=>zop iJ h HX.out⟩;by_cases e:j=k
   ·subst e;exact h
   exact HX.out j hj (by omega)
  have i2:(k:Int)<n:=by omega
  clear q1;generalize l[k]=u at x1 HN;have oz:=GK s u;rcases hE:(s.toList == u.toList) with _|_
  ·rw[hE] at oz;have hne:u≠s:=(fun e=>by simp[e] at oz);have HZ:=hid (HN.out.1 hne)
   try clear hne
   clear oz HN iJ;go_wp2;go_roundw
   ·exact⟨k+1,by go_num,by omega,by first|trivial|rfl,HZ.out⟩
   simp[intOf];omega
  rw[hE] at oz;have pk:s=u:=by simpa using oz
  have HZ:=hid (HN.out.2 pk.symm)
  try clear pk
  try clear hne
  clear oz HN iJ;go_wp2;go_ret;exact⟨by rw[HZ.out];rfl,rfl⟩
 obtain rfl:k=n:=by omega
 have HZ:Hid (yk l s=-1):=zoq (fun j hj=>HX.out j hj (by rw[<-H.out.2];exact hj));go_wp2;go_ret;exact⟨by rw[HZ.out];rfl,rfl⟩
theorem zov{s:ByteArray}(hr:∀j (h:j<G.R.length),G.R[j].nm≠s):(yk G.S s=-1/\mT G s=(⟨false,0⟩,false))\/∃k:Nat,yk G.S s=(k:Int)/\mT G s=(⟨true,(k:Int)⟩,true):=by
 have h1:=Eh (s:=s) (l:=G.R.map Ru.nm) (fun j hj=>by simp at hj⊢;exact hr j hj);have e1:mT G s=if pg s G.S<G.S.length then (⟨true,((pg s G.S:Nat):Int)⟩,true) else (⟨false,0⟩,false):=by
  unfold mT;rw[h1,List.length_map,if_neg (by omega)]
 rw[e1];unfold yk;by_cases h:pg s G.S<G.S.length
 ·right;exact⟨_,if_pos h,if_pos h⟩
 left;exact⟨if_neg h,if_neg h⟩
def DG(w:World)(b:Nat)(G:Gr)(wr:World):Prop:=eU wr b G/\wr.heap[b+1]?=some (.cells #[.bool false,.int .i64 0] 38 (0,0))/\Below w.heap.size w wr/\b+1<wr.heap.size/\w.heap.size<=b
theorem DG.aa{b:Nat}(h:DG w b G wr)(k:Below wr.heap.size wr w'):DG w b G w':=⟨h.1.below k,(k.block _ h.2.2.2.1).trans h.2.1,h.2.2.1.trans (k.mono h.2.2.1.size),lt_of_lt_of_le h.2.2.2.1 k.size,h.2.2.2.2⟩
theorem DG.put{b:Nat}(h:DG w b G wr)(d0 d1:Value):Below w.heap.size w ((wr.setCell ⟨b+1,0,none⟩ d0).setCell ⟨b+1,1,none⟩ d1):=(h.2.2.1.setCell (p:=⟨b+1,0,none⟩) (by have:=h.2.2.2.2;show w.heap.size<=b+1;omega) d0).setCell (p:=⟨b+1,1,none⟩) (by have:=h.2.2.2.2;show w.heap.size<=b+1;omega) d1
theorem XB(G:Gr)(s:ByteArray)(w:World)(hA:G.At w)(hL:G.na 1000000):
  Calls prog 12 #[G.val,.string s] w (Cb G s w):=by
 show Calls prog 12 #[.agg #[.slice G.aR G.R.length G.cR,.slice G.aS G.S.length G.cS,.slice G.aP G.P.length G.cP,.slice G.aL G.L.length G.cL,.int .i64 G.st],.string s] w _;have HA:=hid (Zz hA hL);clear hA hL;obtain⟨w2,bD⟩:∃w2,((w.alloc (.cells #[.slice G.aR G.R.length G.cR,.slice G.aS G.S.length G.cS,.slice G.aP G.P.length G.cP,.slice G.aL G.L.length G.cL,.int .i64 G.st] 27)).alloc (.cells #[.bool false,.int .i64 0] 38))=w2:=⟨_,rfl⟩
 have H:Hid (eU w2 w.heap.size G/\w2.heap[(w.heap.size+1)]?=some (.cells #[.bool false,.int .i64 0] 38 (0,0))/\Below w.heap.size w w2):=by
  rw[<-bD];have k0:=al w (.cells #[.slice G.aR G.R.length G.cR,.slice G.aS G.S.length G.cS,.slice G.aP G.P.length G.cP,.slice G.aL G.L.length G.cL,.int .i64 G.st] 27);have k1:=al (w.alloc (.cells #[.slice G.aR G.R.length G.cR,.slice G.aS G.S.length G.cS,.slice G.aP G.P.length G.cP,.slice G.aL G.L.length G.cL,.int .i64 G.st] 27)) (.cells #[.bool false,.int .i64 0] 38);exact⟨((eU.new w G 27).below k1),(by have h9:=(heap_alloc_new (w.alloc (.cells #[.slice G.aR G.R.length G.cR,.slice G.aS G.S.length G.cS,.slice G.aP G.P.length G.cP,.slice G.aL G.L.length G.cL,.int .i64 G.st] 27)) (.cells #[.bool false,.int .i64 0] 38));simpa using h9),(k0.trans (k1.mono k0.size))⟩
 have iL:Hid (w2.heap.size=w.heap.size+2):=by show _=_;rw[<-bD];simp
 go_enter func12,ntmps12;go_upto_region 1 with fail
 try rw[bD]
 clear bD;obtain⟨b,hb⟩:∃b,w.heap.size=b:=⟨_,rfl⟩
 have HX:Hid (DG w b G w2):=by
  have h8:=iL.out;rw[<-hb];exact⟨H.out.1,H.out.2.1,H.out.2.2,by omega,le_refl _⟩
 rw[hb];clear hb H iL;have c0:=HX.out.1.c0;have HF:=hid (Wr G.R.length G.cR G.aR G.R s rfl (by have:=HA.out.2.r;omega) w2 (HA.out.1.below HX.out.2.2.1).r);go_wp2_with (go_at_call 41;refine HF.out.mono ?_);rintro e w3 ⟨r,rfl,hr,b3⟩;have fm:=hid (HX.out.aa b3);clear HX b3 HF c0;rcases hr with ⟨rfl,hn⟩|⟨i,hi,rfl,hs,hn⟩
 ·have HI:=hid (zib G.S s G.S.length G.cS G.aS rfl HA.out.2.s w3 (HA.out.1.below fm.out.2.2.1).s);have HQ:=hid (zov hn);have c1:=fm.out.1.c1;clear hn;go_wp2_with (go_at_call 42;refine HI.out.mono ?_);rintro e w4 ⟨rfl,rfl⟩;clear HI;rcases HQ.out with ⟨h1,h2⟩|⟨k,h1,h2⟩
  ·rw[h1];have HZ:=hid h2;have f0:w4.frozen? ⟨b+1,0,none⟩=false:=frozen_of_row w4 _ 0 _ _ fm.out.2.1;have f1:w4.frozen? ⟨b+1,1,none⟩=false:=frozen_of_row w4 _ 1 _ _ fm.out.2.1;have t0:w4.cell? ⟨b+1,0,none⟩=some (.bool false):=(by rw[cell_of_row w4 _ 0 _ _ _ fm.out.2.1];rfl);have t1:w4.cell? ⟨b+1,1,none⟩=some (.int .i64 0):=(by rw[cell_of_row w4 _ 1 _ _ _ fm.out.2.1];rfl);obtain⟨q0,q1⟩:=DJ fm.out.2.1 (.bool false) (.int .i64 0);clear h1 h2 HQ c1;go_wp2_with fail;exact bodyPost_ret (v:=.tuple #[.agg #[.bool false,.int .i64 0],.bool false]) (by simp[results,results12,go_sem,q0,q1]) rfl ⟨by rw[HZ.out];rfl,fm.out.put _ _⟩
  rw[h1];have HZ:=hid h2;have HO:=hid (xY (k:Int) w4);have i9:(0:Int)<=k:=by omega
  clear h1 h2 HQ c1;go_wp2_with (go_at_call 30;refine HO.out.mono ?_;rintro e w5 ⟨rfl,b5⟩;refine Hid.out ?_);refine hid ?_;have mw:=hid (fm.out.aa b5);clear b5 HO;have f0:w5.frozen? ⟨b+1,0,none⟩=false:=frozen_of_row w5 _ 0 _ _ mw.out.2.1;have f1:w5.frozen? ⟨b+1,1,none⟩=false:=frozen_of_row w5 _ 1 _ _ mw.out.2.1;have t0:w5.cell? ⟨b+1,0,none⟩=some (.bool false):=by rw[cell_of_row w5 _ 0 _ _ _ mw.out.2.1];rfl
  have t1:w5.cell? ⟨b+1,1,none⟩=some (.int .i64 0):=by rw[cell_of_row w5 _ 1 _ _ _ mw.out.2.1];rfl
  obtain⟨q0,q1⟩:=DJ mw.out.2.1 (.bool true) (.int .i64 k);go_wp2_with fail;exact bodyPost_ret (v:=.tuple #[.agg #[.bool true,.int .i64 k],.bool true]) (by simp[results,results12,go_sem,q0,q1]) rfl ⟨by rw[HZ.out];rfl,mw.out.put _ _⟩
 have HZ:=hid (Uj hi hs hn);have i9:(0:Int)<=i:=by omega
 have f0:w3.frozen? ⟨b+1,0,none⟩=false:=frozen_of_row w3 _ 0 _ _ fm.out.2.1;have f1:w3.frozen? ⟨b+1,1,none⟩=false:=frozen_of_row w3 _ 1 _ _ fm.out.2.1;have t0:w3.cell? ⟨b+1,0,none⟩=some (.bool false):=by rw[cell_of_row w3 _ 0 _ _ _ fm.out.2.1];rfl
 have t1:w3.cell? ⟨b+1,1,none⟩=some (.int .i64 0):=by rw[cell_of_row w3 _ 1 _ _ _ fm.out.2.1];rfl
 obtain⟨q0,q1⟩:=DJ fm.out.2.1 (.bool false) (.int .i64 i);clear hi hs hn;go_wp2_with fail;exact bodyPost_ret (v:=.tuple #[.agg #[.bool false,.int .i64 i],.bool true]) (by simp[results,results12,go_sem,q0,q1]) rfl ⟨by rw[HZ.out];rfl,fm.out.put _ _⟩
def qj(q:Int->Int->Prop)(w:World)(e:Ending)(w':World):Prop:=∃a b:Int,e=.returned (.tuple #[.int .i64 a,.int .i64 b])/\q a b/\Below w.heap.size w w'
def oq(f:Nat->Int)(n m:Nat)(a e:Int):Prop:=(m<n/\e=6/\a=(n:Int))\/(n<=m/\lA f n=e/\(e≠0->a=(Ah f n:Int)))
theorem Vu{s:ByteArray}{l:List ByteArray}{j:Nat}(hj:j<l.length)(h:l[j]=s):pg s l<=j:=by
 induction l generalizing j with
 | nil=>simp at hj
 | cons a l ih=>
  simp only[pg];split
  ·omega
  rename_i h1;cases j with
  | zero=>exact absurd h h1
  | succ j=>
   simp at hj h;have:=ih hj h;omega
theorem zno(hk:k<G.S.length)(hn:bW (qc G k)=true):((mT G G.S[k]).1=⟨true,(k:Int)⟩->ju G k=0)/\((mT G G.S[k]).1≠⟨true,(k:Int)⟩->ju G k=9):=by
 by_cases hr:∃j,∃h:j<G.R.length,G.R[j].nm=G.S[k]
 ·obtain⟨j,hj,h⟩:=hr;have e9:ju G k=9:=XM hn (inr ⟨j,hj,by rw[Jn hj,yx hk];exact h⟩);refine⟨fun e=>?_,fun _=>e9⟩;have aw:pg G.S[k] (G.R.map Ru.nm)<G.R.length:=Nat.lt_of_le_of_lt (Vu (j:=j) (by simpa using hj) (by simpa using h)) hj;unfold mT at e;rw[if_pos aw] at e;injection e with e1 e2;cases e1
 have Ou:∀j (h:j<G.R.length),G.R[j].nm≠G.S[k]:=fun j h e=>hr ⟨j,h,e⟩
 by_cases hs:∃j,∃h:j<k,G.S[j]'(by omega)=G.S[k]
 ·obtain⟨j,hj,h⟩:=hs;have e9:ju G k=9:=XM hn (inl ⟨j,hj,by rw[yx (by omega),yx hk];exact h⟩);refine⟨fun e=>?_,fun _=>e9⟩;have hle:pg G.S[k] G.S<=j:=Vu (by omega) h;have e2:=Eh (s:=G.S[k]) (l:=G.R.map Ru.nm) (fun j hj=>by simp at hj⊢;exact Ou j hj);unfold mT at e;rw[e2,List.length_map,if_neg (by omega),if_pos (by omega)] at e;injection e with e1 e3;omega
 have oQ:∀j (h:j<G.S.length),j<k->G.S[j]≠G.S[k]:=fun j h hjk e=>hs ⟨j,hjk,e⟩
 have e0:=RW Ou hk rfl oQ;have e1:ju G k=0:=Vr hn (fun j hj=>by rw[yx (by omega),yx hk];exact oQ j (by omega) hj) (fun j hj=>by rw[Jn hj,yx hk];exact Ou j hj);exact⟨fun _=>e1,fun h=>absurd (by rw[e0]) h⟩
def QN(b:Bool):Int:=if b then 0 else 8
theorem zic(s:ByteArray)(w:World)(hs:s.size<=maxLen):
  Calls prog 54 #[.string s] w fun e w'=>e=.returned (.int .i64 (QN (bW s)))/\w'=w:=by
 go_enter func54,ntmps54;go_wp2_with fail;refine (Qr s _ hs).mono ?_;rintro e w1 ⟨rfl,rfl⟩;rcases hn:bW s with _|_
 ·have HN:=hid hn;clear hn;go_wp2;go_ret;exact⟨by rw[HN.out];rfl,rfl⟩
 have HN:=hid hn;clear hn;go_wp2;go_ret;exact⟨by rw[HN.out];rfl,rfl⟩
def Cw(w:World)(b b7:Nat)(G:Gr)(y:Sy)(wr:World):Prop:=eU wr b G/\kJ wr b7 y/\Below w.heap.size w wr
theorem Cw.aa{b b7:Nat}{y:Sy}(h:Cw w b b7 G y wr)(k:Below wr.heap.size wr w'):Cw w b b7 G y w':=⟨h.1.below k,h.2.1.below k,h.2.2.trans (k.mono h.2.2.size)⟩
theorem zdR(G:Gr)(w:World)(hA:G.At w)(hL:G.na 1000000):
  Calls prog 27 #[G.val] w (qj (oq (ju G) G.S.length 300) w):=by
 show Calls prog 27 #[.agg #[.slice G.aR G.R.length G.cR,.slice G.aS G.S.length G.cS,.slice G.aP G.P.length G.cP,.slice G.aL G.L.length G.cL,.int .i64 G.st]] w _;have HA:=hid (Zz hA hL);have HFd:Hid (∀(s:ByteArray) W,Below w.heap.size w W->Calls prog 12 #[.agg #[.slice G.aR G.R.length G.cR,.slice G.aS G.S.length G.cS,.slice G.aP G.P.length G.cP,.slice G.aL G.L.length G.cL,.int .i64 G.st],.string s] W (Cb G s W)):=fun s W k=>XB G s W (hA.below k) hL
 have uS:=hL.s;clear hA hL;obtain⟨w2,bD⟩:∃w2,(w.alloc (.cells #[.slice G.aR G.R.length G.cR,.slice G.aS G.S.length G.cS,.slice G.aP G.P.length G.cP,.slice G.aL G.L.length G.cL,.int .i64 G.st] 27))=w2:=⟨_,rfl⟩
 have H:Hid (eU w2 w.heap.size G/\Below w.heap.size w w2):=by
  rw[<-bD];have k0:=al w (.cells #[.slice G.aR G.R.length G.cR,.slice G.aS G.S.length G.cS,.slice G.aP G.P.length G.cP,.slice G.aL G.L.length G.cL,.int .i64 G.st] 27);exact⟨(eU.new w G 27),k0⟩
 have iL:Hid (w2.heap.size=w.heap.size+1):=by show _=_;rw[<-bD];simp
 go_enter func27,ntmps27;go_upto_region 1 with fail
 try rw[bD]
 clear bD;obtain⟨b,hb⟩:∃b,w.heap.size=b:=⟨_,rfl⟩
 have HX:Hid (lh w b G w2):=by rw[<-hb];exact H.out
 rw[hb];clear hb H iL;have c1:=HX.out.1.c1;by_cases h3:300<G.S.length
 ·have i3:(300:Int)<(G.S.length:Int):=by omega
  have HZ:Hid (qj (oq (ju G) G.S.length 300) w (.returned (.tuple #[.int .i64 (G.S.length:Int),.int .i64 6])) w2):=⟨_,_,rfl,inl ⟨h3,rfl,rfl⟩,HX.out.2⟩
  clear h3;go_wp2;go_ret2;exact HZ.out
 have i3:¬((300:Int)<(G.S.length:Int)):=by omega
 have H3:=hid h3;obtain⟨n,hn⟩:∃n,G.S.length=n:=⟨_,rfl⟩
 have HN:=hid hn;have LW:n<=1000000:=by omega
 rw[hn] at c1 i3;clear hn uS h3;have yL:Hid (lh w b G w2/\∀j,j<0->ju G j=0):=⟨HX.out,fun j h=>by omega⟩
 go_wp2;go_loopw [19] (fun v wr=>∃k:Nat,v=.int .i64 (k:Int)/\k<=n/\Hid (lh w b G wr/\∀j,j<k->ju G j=0)) (fun v _=>n-(intOf v).toNat)
 ·exact⟨0,rfl,zero_le _,yL.out⟩
 clear yL HX c1;obtain⟨k,rfl,hk,HK⟩:=hrel;have c1:=HK.out.1.1.c1;rw[HN.out] at c1;by_cases aw:k<n
 case neg=>
  obtain rfl:k=n:=by omega
  have HZ:Hid (qj (oq (ju G) G.S.length 300) w (.returned (.tuple #[.int .i64 (k:Int),.int .i64 0])) wr):=⟨_,_,rfl,inr ⟨by have:=H3.out;omega,by rw[HN.out];exact C4 HK.out.2,fun h=>absurd rfl h⟩,HK.out.1.2⟩
  go_wp2;go_ret2;exact HZ.out
 have iJ:k<G.S.length:=by rw[HN.out];exact aw
 obtain⟨g1,o1,e1,jx,y1⟩:=(HA.out.1.below HK.out.1.2).s (by omega);have x0:=y1 k iJ;have i1:(k:Int)<n:=by omega
 have HW:Hid (∀W,Below w.heap.size w W->ju G k≠0->qj (oq (ju G) G.S.length 300) w (.returned (.tuple #[.int .i64 (k:Int),.int .i64 (ju G k)])) W):=fun W hW h=>by
  obtain⟨f1,f2⟩:=JT (n:=G.S.length) iJ HK.out.2 h;exact⟨_,_,rfl,inr ⟨by have:=H3.out;omega,f1,fun _=>by rw[f2]⟩,hW⟩
 have HE:=hid (zic G.S[k] wr (by have:=HA.out.2.ss k iJ;unfold maxLen;omega));have dA:Hid ((bW G.S[k]=true->((mT G G.S[k]).1=⟨true,(k:Int)⟩->ju G k=0)/\((mT G G.S[k]).1≠⟨true,(k:Int)⟩->ju G k=9))/\(bW G.S[k]=false->ju G k=8)):=⟨fun h=>zno iJ (by rw[yx iJ];exact h),fun h=>zph (by rw[yx iJ];exact h)⟩
 have lC:=hid e1;rw[e1] at c1⊢;clear y1 e1;generalize G.S[k]=s at x0 HE dA;cases jc:bW s with
 | false=>
  rw[jc] at HE;have Lo:Hid (Calls prog 54 #[.string s] wr fun e w'=>e=.returned (.int .i64 8)/\w'=wr):=HE.out;have h8:=dA.out.2 jc;have HZ:=hid (HW.out wr HK.out.1.2 (by rw[h8];decide));rw[h8] at HZ;clear h8 jc HW HE dA iJ;go_wp2_with (go_at_call 54;refine Lo.out.mono ?_;rintro e w3 ⟨rfl,rfl⟩);go_ret2;exact HZ.out
 | true=>
  rw[jc] at HE
  have Lo:Hid (Calls prog 54 #[.string s] wr fun e w'=>e=.returned (.int .i64 0)/\w'=wr):=HE.out
  have x8:=hid (dA.out.1 jc)
  have HF:=hid (HFd.out s wr HK.out.1.2)
  have c0:=HK.out.1.1.c0
  have c2:=HK.out.1.1.c2
  have c3:=HK.out.1.1.c3
  have c4:=HK.out.1.1.c4
  clear HE dA jc iJ
  obtain⟨⟨y,ok⟩,hy⟩:∃p,mT G s=p:=⟨_,rfl⟩
  rw[hy] at x8
  have BY:Hid (Calls prog 12 #[.agg #[.slice G.aR G.R.length G.cR,.slice G.aS G.S.length G.cS,.slice G.aP G.P.length G.cP,.slice G.aL G.L.length G.cL,.int .i64 G.st],.string s] wr (fun e w'=>e=.returned (.tuple #[.agg #[.bool y.s,.int .i64 y.n],.bool ok])/\Below wr.heap.size wr w')):=by
   have h9:=HF.out;unfold Cb at h9;rw[hy] at h9;exact h9
  rw[HN.out,lC.out] at BY
  clear hy HF
  go_upto_region 9 with (go_at_call 54;refine Lo.out.mono ?_;rintro e w3 ⟨rfl,rfl⟩)
  go_upto_region 10 with (go_at_call 12;refine BY.out.mono ?_;rintro e w4 ⟨rfl,b4⟩)
  have kt:=hid (HK.out.1.aa b4)
  have k4:=al w4 (.cells #[.bool y.s,.int .i64 y.n] 38)
  obtain⟨b7,Ax⟩:∃b7,w4.heap.size=b7:=⟨_,rfl⟩
  have HC:Hid (Cw w b b7 G y (w4.alloc (.cells #[.bool y.s,.int .i64 y.n] 38))):=by
   have h9:=kt.out.aa k4;exact⟨h9.1,by rw[<-Ax];exact kJ.new w4 y 38,h9.2⟩
  try rw[Ax]
  clear b4 k4 Ax kt BY Lo x0 c0 c1 c2 c3 c4
  generalize w4.alloc (.cells #[.bool y.s,.int .i64 y.n] 38)=W5 at HC⊢
  have kd:Below W5.heap.size W5 W5.drew:=⟨rfl,rfl,rfl,le_refl _,fun _ _=>rfl⟩
  have C0:=hid (HC.out.aa kd)
  clear kd
  obtain⟨ys,yn⟩:=y
  cases ys with
  | false=>
   have h9:=x8.out.2 (fun e=>by injection e with e1 e2;cases e1);have HZ:Hid (∀W,Below w.heap.size w W->qj (oq (ju G) G.S.length 300) w (.returned (.tuple #[.int .i64 (k:Int),.int .i64 9])) W):=fun W hW=>by
    have:=HW.out W hW (by rw[h9];decide);rw[h9] at this;exact this
   clear h9 HW x8;refine wp_region_held_drew (S:=fun W'=>Cw w b b7 G ⟨false,yn⟩ W') (by kernel_rfl) (C0.out) (fun hHeld=>?_);refine ag 0 (v:=.agg #[.bool false,.int .i64 yn]) ?_ (hy:=by intro wz hSw;have z0:=hSw.2.1.c0;have z1:=hSw.2.1.c1;(try simp only[Act.put,sA,sB,sC]);go_simp;first|done|with_reducible rfl)
   try simp only[Act.put,sA,sB,sC]
   refine ag 1 ?_ (hy:=by intro wz hSw;have z0:=hSw.2.1.c0;have z1:=hSw.2.1.c1;(try simp only[Act.put,sA,sB,sC]);go_simp;first|done|with_reducible rfl)
   try simp only[Act.put,sA,sB,sC]
   refine ba 2 (fun K hK=>?_);go_simp;go_at_call 30;refine (xY _ _).mono ?_;rintro e w8 ⟨rfl,b8⟩;have aW:=hHeld.aa b8;clear b8 hHeld
   try go_wp2_with fail
   refine hK.out _ _ aW (fun hHeld=>?_);clear hK K aW
   try simp only[Act.put,sA,sB,sC]
   refine ag 3 (v:=.bool true) ?_ (hy:=by intro wz hSw;have z0:=hSw.2.1.c0;have z1:=hSw.2.1.c1;(try simp only[Act.put,sA,sB,sC]);go_simp;first|done|with_reducible rfl)
   try simp only[Act.put,sA,sB,sC]
   refine wpAnyH_done (by kernel_rfl) ?_ _;go_wp2;go_ret2;exact HZ.out _ hHeld.2.2
  | true=>
   by_cases Dh:yn=(k:Int)
   ·have j9:(yn == (k:Int))=true:=(by simp[Dh]);have h0:=x8.out.1 (by rw[Dh]);have HZ:Hid (∀j,j<k+1->ju G j=0):=fun j hj=>by
     by_cases e:j=k
     ·subst e;exact h0
     exact HK.out.2 j (by omega)
    have hyk2:=hid Dh;clear h0 HW x8 Dh;refine wp_region_held_drew (S:=fun W'=>Cw w b b7 G ⟨true,yn⟩ W') (by kernel_rfl) (C0.out) (fun hHeld=>?_);refine ag 0 (v:=.agg #[.bool true,.int .i64 yn]) ?_ (hy:=by intro wz hSw;have z0:=hSw.2.1.c0;have z1:=hSw.2.1.c1;(try simp only[Act.put,sA,sB,sC]);go_simp;first|done|with_reducible rfl)
    try simp only[Act.put,sA,sB,sC]
    refine ag 1 ?_ (hy:=by intro wz hSw;have z0:=hSw.2.1.c0;have z1:=hSw.2.1.c1;(try simp only[Act.put,sA,sB,sC]);go_simp;first|done|with_reducible rfl)
    try simp only[Act.put,sA,sB,sC]
    refine ba 2 (fun K hK=>?_);go_simp;go_at_call 30;refine (xY _ _).mono ?_;rintro e w8 ⟨rfl,b8⟩;have aW:=hHeld.aa b8;clear b8 hHeld
    try go_wp2_with fail
    refine hK.out _ _ aW (fun hHeld=>?_);clear hK K aW
    try simp only[Act.put,sA,sB,sC]
    refine ag 3 (v:=.bool false) ?_ (hy:=by intro wz hSw;have z0:=hSw.2.1.c0;have z1:=hSw.2.1.c1;(try simp only[Act.put,sA,sB,sC]);go_simp;first|done|with_reducible rfl)
    try simp only[Act.put,sA,sB,sC]
    refine wpAnyH_done (by kernel_rfl) ?_ _;go_wp2;go_roundw
    ·exact⟨k+1,by go_num,by omega,⟨hHeld.1,hHeld.2.2⟩,HZ.out⟩
    simp[intOf];omega
   have j9:(yn == (k:Int))=false:=(by simp[Dh]);have h9:=x8.out.2 (fun e=>by injection e with e1 e2;exact Dh e2);have HZ:Hid (∀W,Below w.heap.size w W->qj (oq (ju G) G.S.length 300) w (.returned (.tuple #[.int .i64 (k:Int),.int .i64 9])) W):=fun W hW=>by
    have:=HW.out W hW (by rw[h9];decide);rw[h9] at this;exact this
   clear h9 HW x8 Dh;refine wp_region_held_drew (S:=fun W'=>Cw w b b7 G ⟨true,yn⟩ W') (by kernel_rfl) (C0.out) (fun hHeld=>?_);refine ag 0 (v:=.agg #[.bool true,.int .i64 yn]) ?_ (hy:=by intro wz hSw;have z0:=hSw.2.1.c0;have z1:=hSw.2.1.c1;(try simp only[Act.put,sA,sB,sC]);go_simp;first|done|with_reducible rfl)
   try simp only[Act.put,sA,sB,sC]
   refine ag 1 ?_ (hy:=by intro wz hSw;have z0:=hSw.2.1.c0;have z1:=hSw.2.1.c1;(try simp only[Act.put,sA,sB,sC]);go_simp;first|done|with_reducible rfl)
   try simp only[Act.put,sA,sB,sC]
   refine ba 2 (fun K hK=>?_);go_simp;go_at_call 30;refine (xY _ _).mono ?_;rintro e w8 ⟨rfl,b8⟩;have aW:=hHeld.aa b8;clear b8 hHeld
   try go_wp2_with fail
   refine hK.out _ _ aW (fun hHeld=>?_);clear hK K aW
   try simp only[Act.put,sA,sB,sC]
   refine ag 3 (v:=.bool true) ?_ (hy:=by intro wz hSw;have z0:=hSw.2.1.c0;have z1:=hSw.2.1.c1;(try simp only[Act.put,sA,sB,sC]);go_simp;first|done|with_reducible rfl)
   try simp only[Act.put,sA,sB,sC]
   refine wpAnyH_done (by kernel_rfl) ?_ _;go_wp2;go_ret2;exact HZ.out _ hHeld.2.2
theorem zdS(G:Gr)(w:World)(hA:G.At w)(hL:G.na 1000000):
  Calls prog 28 #[G.val] w (qj (oq (je G) G.P.length 200) w):=by
 show Calls prog 28 #[.agg #[.slice G.aR G.R.length G.cR,.slice G.aS G.S.length G.cS,.slice G.aP G.P.length G.cP,.slice G.aL G.L.length G.cL,.int .i64 G.st]] w _;have HCp:Hid (∀i,i<G.P.length->∀W,Below w.heap.size w W->Calls prog 55 #[.agg #[.slice G.aR G.R.length G.cR,.slice G.aS G.S.length G.cS,.slice G.aP G.P.length G.cP,.slice G.aL G.L.length G.cL,.int .i64 G.st],.int .i64 ((i:Nat):Int)] W (wY (je G i) W)):=fun i h W k=>zeA G i h W (hA.below k) hL
 have uS:=hL.p;clear hA hL;obtain⟨w2,bD⟩:∃w2,(w.alloc (.cells #[.slice G.aR G.R.length G.cR,.slice G.aS G.S.length G.cS,.slice G.aP G.P.length G.cP,.slice G.aL G.L.length G.cL,.int .i64 G.st] 27))=w2:=⟨_,rfl⟩
 have H:Hid (eU w2 w.heap.size G/\Below w.heap.size w w2):=by
  rw[<-bD];have k0:=al w (.cells #[.slice G.aR G.R.length G.cR,.slice G.aS G.S.length G.cS,.slice G.aP G.P.length G.cP,.slice G.aL G.L.length G.cL,.int .i64 G.st] 27);exact⟨(eU.new w G 27),k0⟩
 have iL:Hid (w2.heap.size=w.heap.size+1):=by show _=_;rw[<-bD];simp
 go_enter func28,ntmps28;go_upto_region 1 with fail
 try rw[bD]
 clear bD;obtain⟨b,hb⟩:∃b,w.heap.size=b:=⟨_,rfl⟩
 have HX:Hid (lh w b G w2):=by rw[<-hb];exact H.out
 rw[hb];clear hb H iL;have c2:=HX.out.1.c2;by_cases h3:200<G.P.length
 ·have i3:(200:Int)<(G.P.length:Int):=by omega
  have HZ:Hid (qj (oq (je G) G.P.length 200) w (.returned (.tuple #[.int .i64 (G.P.length:Int),.int .i64 6])) w2):=⟨_,_,rfl,inl ⟨h3,rfl,rfl⟩,HX.out.2⟩
  clear h3;go_wp2;go_ret2;exact HZ.out
 have i3:¬((200:Int)<(G.P.length:Int)):=by omega
 have H3:=hid h3;obtain⟨n,hn⟩:∃n,G.P.length=n:=⟨_,rfl⟩
 have HN:=hid hn;have LW:n<=1000000:=by omega
 rw[hn] at c2 i3;clear hn uS h3;have yL:Hid (lh w b G w2/\∀j,j<0->je G j=0):=⟨HX.out,fun j h=>by omega⟩
 go_wp2;go_loopw [16] (fun v wr=>∃k:Nat,v=.int .i64 (k:Int)/\k<=n/\Hid (lh w b G wr/\∀j,j<k->je G j=0)) (fun v _=>n-(intOf v).toNat)
 ·exact⟨0,rfl,zero_le _,yL.out⟩
 clear yL HX c2;obtain⟨k,rfl,hk,HK⟩:=hrel;have c0:=HK.out.1.1.c0;have c1:=HK.out.1.1.c1;have c2:=HK.out.1.1.c2;have c3:=HK.out.1.1.c3;have c4:=HK.out.1.1.c4;rw[HN.out] at c2;by_cases aw:k<n
 case neg=>
  obtain rfl:k=n:=by omega
  have HZ:Hid (qj (oq (je G) G.P.length 200) w (.returned (.tuple #[.int .i64 (k:Int),.int .i64 0])) wr):=⟨_,_,rfl,inr ⟨by have:=H3.out;omega,by rw[HN.out];exact C4 HK.out.2,fun h=>absurd rfl h⟩,HK.out.1.2⟩
  clear c0 c1 c3 c4;go_wp2;go_ret2;exact HZ.out
 have iJ:k<G.P.length:=by rw[HN.out];exact aw
 have i1:(k:Int)<n:=by omega
 have HC:=hid (HCp.out k iJ wr HK.out.1.2);rw[HN.out] at HC;obtain⟨z,hz⟩:∃z,je G k=z:=⟨_,rfl⟩
 rw[hz] at HC;have O5:=hid hz;clear hz;go_wp2_with (go_at_call 55;refine HC.out.mono ?_;rintro e w3 ⟨rfl,b3⟩;refine Hid.out ?_);refine hid ?_;have vm:=hid (HK.out.1.aa b3);clear b3 HC c0 c1 c2 c3 c4;by_cases h0:z=0
 ·subst h0;have HZ:Hid (∀j,j<k+1->je G j=0):=fun j hj=>by
   by_cases e:j=k
   ·subst e;exact O5.out
   exact HK.out.2 j (by omega)
  go_wp2;go_roundw
  ·exact⟨k+1,by go_num,by omega,vm.out,HZ.out⟩
  simp[intOf];omega
 have j0:(z != 0)=true:=by simpa using h0
 have HZ:Hid (qj (oq (je G) G.P.length 200) w (.returned (.tuple #[.int .i64 (k:Int),.int .i64 z])) w3):=by
  obtain⟨f1,f2⟩:=JT (n:=G.P.length) iJ HK.out.2 (by rw[O5.out];exact h0);exact⟨_,_,rfl,inr ⟨by have:=H3.out;omega,by rw[f1,O5.out],fun _=>by rw[f2]⟩,vm.out.2⟩
 clear h0 iJ;go_wp2;go_ret2;exact HZ.out
def lf(G:Gr)(i k:Nat):List Int:=((range i).flatMap (fun a=>(gp G a).rules))++(gp G i).rules.take k
theorem zle(G:Gr):lf G 0 0=[]:=by simp[lf]
theorem zlf(h:k<(gp G i).rules.length):lf G i (k+1)=lf G i k++[(gp G i).rules[k]]:=by
 unfold lf;rw[List.take_succ_eq_append_getElem h,List.append_assoc]
theorem zji(G:Gr)(i:Nat):lf G (i+1) 0=lf G i (gp G i).rules.length:=by
 unfold lf;rw[List.range_succ,List.flatMap_append,List.take_zero,List.append_nil,List.take_of_length_le (le_refl _)];simp
theorem znp{m:Nat}(h:∀a,(gp G a).rules.length<=m)(i k:Nat):(lf G i k).length<=i*m+k:=by
 have h1:((range i).flatMap (fun a=>(gp G a).rules)).length<=i*m:=by
  induction i with
  | zero=>simp
  | succ i ih=>
   have:=h i;rw[List.range_succ,List.flatMap_append,length_append];simp only[List.flatMap_cons,List.flatMap_nil,List.append_nil];rw[Nat.add_mul,Nat.one_mul];omega
 unfold lf;rw[length_append,List.length_take];omega
theorem zjj(h:k<(gp G i).rules.length):(gp G i).rules[k]∈lf G i k↔ov G i k:=by
 have e:(gp G i).rules.getD k 0=(gp G i).rules[k]:=by simp[h]
 unfold lf ov;rw[List.mem_append,e];constructor
 ·rintro (h1|h1)
  ·obtain⟨a,ha,hz⟩:=List.mem_flatMap.1 h1;obtain⟨b,hb,hq⟩:=getElem_of_mem hz;exact⟨a,b,inl (by simpa using ha),hb,by simp[hb,hq]⟩
  obtain⟨b,hb,hq⟩:=getElem_of_mem h1;simp at hb hq;have ct:b<(gp G i).rules.length:=by omega
  exact⟨i,b,inr ⟨rfl,by omega⟩,ct,by simp[ct,hq]⟩
 rintro⟨a,b,h1,hb,hq⟩;rw[show (gp G a).rules.getD b 0=(gp G a).rules[b] by simp[hb]] at hq;rcases h1 with h1|⟨rfl,h1⟩
 ·exact inl (List.mem_flatMap.2 ⟨a,by simpa using h1,by rw[<-hq];exact getElem_mem hb⟩)
 right;rw[<-hq];have:(gp G a).rules[b]=((gp G a).rules.take k)[b]'(by simp;omega):=by simp
 rw[this];exact getElem_mem _
theorem Qk(h:(gp G i).side<1\/3<(gp G i).side\/(gp G i).rules.length=0\/60<=i):pZ G i=1:=if_pos h
theorem zlg(h:¬((gp G i).side<1\/3<(gp G i).side\/(gp G i).rules.length=0\/60<=i)):pZ G i=lA (wv G i) (gp G i).rules.length:=if_neg h
def mB(z:Int):Bool:=z == 1 || (z == 2 || z == 3)
theorem ZS{z:Int}(h:mB z=false):z<1\/3<z:=by
 unfold mB at h;simp only[Bool.or_eq_false_iff,beq_eq_false_iff_ne] at h;omega
theorem zjk{z:Int}(h:mB z=true):¬(z<1\/3<z):=by
 unfold mB at h;simp only[Bool.or_eq_true,beq_iff_eq] at h;omega
theorem zid(z:Int)(w:World):Calls prog 56 #[.int .i64 z] w (fun e w'=>e=.returned (.bool (mB z))/\w'=w):=by
 have HZ:Hid (mB z=(z == 1 || (z == 2 || z == 3))):=rfl;go_enter func56,ntmps56;rcases h0:(z == 1) with _|_
 ·rcases h1:(z == 2) with _|_
  ·rw[h0,h1] at HZ;go_wp2;go_ret;exact⟨by rw[HZ.out];rfl,rfl⟩
  rw[h0,h1] at HZ;go_wp2;go_ret;exact⟨by rw[HZ.out];rfl,rfl⟩
 rw[h0] at HZ;go_wp2;go_ret;exact⟨by rw[HZ.out];rfl,rfl⟩
theorem ZX(l:List Int)(n c:Nat)(a:Option Addr)(z:Int)(hl:l.length=n)(hn:n<=9223372036854775807)(w:World)(h:eI w a l):
  Calls prog 57 #[.slice a n c,.int .i64 z] w (fun e w'=>∃b,(b=true↔z∈l)/\e=.returned (.bool b)/\w'=w):=by
 rcases Nat.eq_zero_or_pos n with h0|h0
 ·subst h0;refine (Tryz.slices_Contains_int_empty a c z w).mono ?_;rintro e w' ⟨rfl,rfl⟩;exact⟨false,by rw[List.length_eq_zero_iff.1 hl];simp,rfl,rfl⟩
 obtain⟨g,off,rfl,hg,hc⟩:=h (by omega);refine (Tryz.slices_Contains_int g off n c l z w (by omega) hn hc).mono ?_;rintro e w' ⟨rfl,rfl⟩;exact⟨_,by rw[List.take_of_length_le (by omega),List.contains_iff_mem],rfl,rfl⟩
theorem zds(G:Gr)(w:World)(hA:G.At w)(hL:G.na 1000000):
  Calls prog 29 #[G.val] w (qj (oq (pZ G) G.L.length G.L.length) w):=by
 show Calls prog 29 #[.agg #[.slice G.aR G.R.length G.cR,.slice G.aS G.S.length G.cS,.slice G.aP G.P.length G.cP,.slice G.aL G.L.length G.cL,.int .i64 G.st]] w _;obtain⟨iI,hI,oG,ow,oK⟩:=info_parts az;have wE:Hid (∀(y:Sy) W,Below w.heap.size w W->Calls prog 14 #[.agg #[.slice G.aR G.R.length G.cR,.slice G.aS G.S.length G.cS,.slice G.aP G.P.length G.cP,.slice G.aL G.L.length G.cL,.int .i64 G.st],.agg #[.bool y.s,.int .i64 y.n]] W (px (dL G y) W)):=fun y W k=>I2 G y W (hA.below k) (hL.mono (by omega))
 have Ts:Hid (∀a,(gp G a).rules.length<=1000000):=fun a=>by
  by_cases h:a<G.L.length
  ·rw[Px h];exact hL.ls a h
  simp[gp,h]
 have HA:=hid hA;have xo:=hL.l;clear hA hL;obtain⟨w2,bD⟩:∃w2,(w.alloc (.cells #[.slice G.aR G.R.length G.cR,.slice G.aS G.S.length G.cS,.slice G.aP G.P.length G.cP,.slice G.aL G.L.length G.cL,.int .i64 G.st] 27))=w2:=⟨_,rfl⟩
 have H:Hid (eU w2 w.heap.size G/\Below w.heap.size w w2):=by
  rw[<-bD];have k0:=al w (.cells #[.slice G.aR G.R.length G.cR,.slice G.aS G.S.length G.cS,.slice G.aP G.P.length G.cP,.slice G.aL G.L.length G.cL,.int .i64 G.st] 27);exact⟨(eU.new w G 27),k0⟩
 have iL:Hid (w2.heap.size=w.heap.size+1):=by show _=_;rw[<-bD];simp
 go_enter func29,ntmps29;go_upto_region 1 with fail
 try rw[bD]
 clear bD;obtain⟨b,hb⟩:∃b,w.heap.size=b:=⟨_,rfl⟩
 have HX:Hid (lh w b G w2):=by rw[<-hb];exact H.out
 rw[hb];clear hb H iL;have EL:Hid (∀W,Below w2.heap.size w2 W->lh w b G W):=fun W k=>HX.out.aa k
 have c3:=HX.out.1.c3;obtain⟨n,hn⟩:∃n,G.L.length=n:=⟨_,rfl⟩
 have HN:=hid hn;rw[hn] at c3 xo;have Ld:Hid (∀k,k<n->(∀j,j<k->pZ G j=0)->∀z,pZ G k=z->z≠0->∀W,Below w2.heap.size w2 W->qj (oq (pZ G) G.L.length G.L.length) w (.returned (.tuple #[.int .i64 (k:Int),.int .i64 z])) W):=fun k hk h0 z hz hne W kW=>by
  obtain⟨f1,f2⟩:=JT (n:=G.L.length) (by omega) h0 (by rw[hz];exact hne);exact⟨_,_,rfl,inr ⟨le_refl _,by rw[f1,hz],fun _=>by rw[f2]⟩,(EL.out W kW).2⟩
 clear hn;have vd:Hid (w2.ownsRow w2.heap.size 3 1 (.slice none 0 0) 0 (sh (lf G 0 0))/\(lf G 0 0).length=0):=by rw[zle];exact⟨World.ownsRow_nil _ _ _ _,rfl⟩
 go_wp2;go_loopw [4,12] (fun v4 v12 wr=>∃(k q:Nat) (a:Option Addr) (d:Nat),k<=n/\v12=.int .i64 (k:Int)/\v4=.slice a q d/\Hid (wr.ownsRow w2.heap.size 3 1 (.slice a q d) q (sh (lf G k 0))/\(lf G k 0).length=q/\Below w2.heap.size w2 wr/\∀j,j<k->pZ G j=0)) (fun _ v _=>n-(intOf v).toNat)
 ·exact⟨0,0,none,0,zero_le _,rfl,rfl,vd.out.1,vd.out.2,Below.refl _ _,fun j h=>by omega⟩
 clear vd c3;obtain⟨k,q,a,d,hk,rfl,rfl,HK⟩:=hrel;by_cases aw:k<n
 case neg=>
  obtain rfl:k=n:=by omega
  have HZ:Hid (qj (oq (pZ G) G.L.length G.L.length) w (.returned (.tuple #[.int .i64 (k:Int),.int .i64 0])) wr):=⟨_,_,rfl,inr ⟨le_refl _,by rw[HN.out];exact C4 HK.out.2.2.2,fun h=>absurd rfl h⟩,(EL.out wr HK.out.2.2.1).2⟩
  have c3:=(EL.out wr HK.out.2.2.1).1.c3;rw[HN.out] at c3;go_wp2;go_ret2;exact HZ.out
 have iJ:k<G.L.length:=by rw[HN.out];exact aw
 have i1:(k:Int)<n:=by omega
 obtain⟨g1,o1,e1,_,X,x0,x1⟩:=(HA.out.below (EL.out wr HK.out.2.2.1).2).l.get k iJ;obtain⟨x,hx⟩:∃x,G.L[k]=x:=⟨_,rfl⟩
 have Hx:Hid (gp G k=x):=by show _=_;rw[Px iJ];exact hx
 have hz:=Ts.out k;rw[Px iJ] at hz;rw[hx] at X x0 x1 hz;have Xa:=hid X;have kb:=al wr (.cells #[.int .i64 x.side,.slice x.ar x.rules.length x.cr] 58);have pb:=KI.new wr x 58;obtain⟨b6,ey⟩:∃b6,wr.heap.size=b6:=⟨_,rfl⟩
 obtain⟨W1,qo⟩:∃W1,wr.alloc (.cells #[.int .i64 x.side,.slice x.ar x.rules.length x.cr] 58)=W1:=⟨_,rfl⟩
 have H1:Hid (KI W1 b6 x/\eI W1 x.ar x.rules/\W1.ownsRow w2.heap.size 3 1 (.slice a q d) q (sh (lf G k 0))/\Below w2.heap.size w2 W1):=by
  rw[qo] at kb pb;have:=HK.out.1.alloc (.cells #[.int .i64 x.side,.slice x.ar x.rules.length x.cr] 58);rw[qo] at this;exact⟨ey ▸ pb,Xa.out.below kb,this,HK.out.2.2.1.trans (kb.mono HK.out.2.2.1.size)⟩
 have kX:Hid (∀W,Below w.heap.size w W->eI W x.ar x.rules):=fun W kW=>by
  obtain⟨_,_,_,_,Y,_⟩:=(HA.out.below kW).l.get k iJ;rw[hx] at Y;exact Y
 clear X kb pb hx iJ Xa;rw[e1];go_upto_region 5 with fail
 try rw[qo]
 try rw[ey]
 clear qo ey x0 x1 e1;have d0:=H1.out.1.c0;have d1:=H1.out.1.c1;have CM:=hid (zid x.side W1);cases DN:mB x.side with
 | false=>
  rw[DN] at CM;have HZ:=hid (Ld.out k aw HK.out.2.2.2 1 (Qk (by rw[Hx.out];have:=ZS DN;omega)) (by decide) W1 H1.out.2.2.2);clear DN;go_wp2_with (go_at_call 56;refine CM.out.mono ?_;rintro e w4 ⟨rfl,rfl⟩);go_ret2;exact HZ.out
 | true=>
 rw[DN] at CM;have WX:=hid (zjk DN);clear DN;by_cases h0:x.rules.length=0
 ·have HZ:=hid (Ld.out k aw HK.out.2.2.2 1 (Qk (by rw[Hx.out];omega)) (by decide) W1 H1.out.2.2.2);have j0:((x.rules.length:Int) == 0)=true:=by simp[h0]
  clear h0;go_wp2_with (go_at_call 56;refine CM.out.mono ?_;rintro e w4 ⟨rfl,rfl⟩);go_ret2;exact HZ.out
 have j0:((x.rules.length:Int) == 0)=false:=by rw[beq_eq_false_iff_ne];omega
 have H0:=hid h0;clear h0;by_cases h6:60<=k
 ·have HZ:=hid (Ld.out k aw HK.out.2.2.2 1 (Qk (by omega)) (by decide) W1 H1.out.2.2.2);have j6:(60:Int)<=k:=by omega
  clear h6;go_wp2_with (go_at_call 56;refine CM.out.mono ?_;rintro e w4 ⟨rfl,rfl⟩);go_ret2;exact HZ.out
 have j6:¬(60:Int)<=k:=by omega
 have Qm:Hid (pZ G k=lA (wv G k) x.rules.length):=by
  show _=_;rw[zlg (by rw[Hx.out];have:=WX.out;have:=H0.out;omega),Hx.out]
 clear h6 H0 WX;go_upto_region 7 with (go_at_call 56;refine CM.out.mono ?_;rintro e w4 ⟨rfl,rfl⟩);obtain⟨m,hm⟩:∃m,x.rules.length=m:=⟨_,rfl⟩
 have HM:=hid hm;rw[hm] at d1 hz Qm
 try rw[hm]
 clear hm CM j0 j6 d0;go_wp2_with fail;clear d1;go_loopw [4,35] (fun v4 v35 wr=>∃(y q:Nat) (a:Option Addr) (d:Nat),y<=m/\v35=.int .i64 (y:Int)/\v4=.slice a q d/\Hid (wr.ownsRow w2.heap.size 3 1 (.slice a q d) q (sh (lf G k y))/\(lf G k y).length=q/\Below w2.heap.size w2 wr/\(∀j,j<y->wv G k j=0))) (fun _ v _=>m-(intOf v).toNat)
 ·exact⟨0,q,a,d,zero_le _,rfl,rfl,H1.out.2.2.1,HK.out.2.1,H1.out.2.2.2,fun j h=>by omega⟩
 have xj:=hid HK.out.2.2.2;have Hk9:Hid (k<n):=aw;obtain⟨y,p,a2,d2,hy,rfl,rfl,HY⟩:=hrel;by_cases RP:y<m
 case neg=>
  obtain rfl:y=m:=by omega
  have h0:pZ G k=0:=by rw[Qm.out];exact C4 HY.out.2.2.2
  have HZ:Hid (∀j,j<k+1->pZ G j=0):=fun j hj=>by
   by_cases e:j=k
   ·subst e;exact h0
   exact xj.out j (by omega)
  have HT:Hid (lf G (k+1) 0=lf G k y):=by show _=_;rw[zji,Hx.out,HM.out]
  clear h0;go_wp2;go_roundw
  ·exact⟨k+1,p,a2,d2,by omega,by go_num,rfl,by rw[HT.out];exact HY.out.1,by rw[HT.out];exact HY.out.2.1,HY.out.2.2.1,HZ.out⟩
  simp[intOf];omega
 have UW:y<x.rules.length:=by rw[HM.out];exact RP
 have Kh:y<(gp G k).rules.length:=by rw[Hx.out,HM.out];exact RP
 obtain⟨g2,o2,e2,_,y0⟩:=(kX.out wr (EL.out wr HY.out.2.2.1).2).get y UW;obtain⟨z,Oi⟩:∃z,x.rules[y]=z:=⟨_,rfl⟩
 have JX:Hid ((gp G k).rules.getD y 0=z/\(gp G k).rules[y]=z):=by
  have e9:(gp G k).rules=x.rules:=by rw[Hx.out]
  have e8:(gp G k).rules[y]=z:=by simp only[e9];exact Oi
  exact⟨by rw[<-e8];simp[Kh],e8⟩
 have YQ:Hid (lf G k (y+1)=lf G k y++[z]):=by show _=_;rw[zlf Kh,JX.out.2]
 have YA:Hid (z∈lf G k y↔ov G k y):=by have:=zjj Kh;rw[JX.out.2] at this;exact this
 rw[Oi] at y0;have i2:(y:Int)<m:=by omega
 have HB:=hid (EL.out wr HY.out.2.2.1);have Oj:Hid (∀c,wv G k y=c->c≠0->∀W,Below w2.heap.size w2 W->qj (oq (pZ G) G.L.length G.L.length) w (.returned (.tuple #[.int .i64 (k:Int),.int .i64 c])) W):=fun c hc hne W kW=>by
  refine Ld.out k Hk9.out xj.out c ?_ hne W kW;rw[Qm.out];obtain⟨f1,_⟩:=JT (n:=m) RP HY.out.2.2.2 (by rw[hc];exact hne);rw[f1,hc]
 have c0:=HB.out.1.c0;have c1:=HB.out.1.c1;have c2:=HB.out.1.c2;have c3:=HB.out.1.c3;have c4:=HB.out.1.c4;have R8:=hid (wE.out ⟨false,z⟩ wr HB.out.2);have PC:Hid ((gp G k).rules.getD y 0=z):=JX.out.1;rw[e2];clear JX Oi UW Kh e2;obtain⟨hb,tu⟩:∃hb,jv G z=hb:=⟨_,rfl⟩
 have FF:Hid (Calls prog 14 #[.agg #[.slice G.aR G.R.length G.cR,.slice G.aS G.S.length G.cS,.slice G.aP G.P.length G.cP,.slice G.aL G.L.length G.cL,.int .i64 G.st],.agg #[.bool false,.int .i64 z]] wr (px hb wr)):=by rw[<-tu];exact R8.out
 clear R8;go_upto_region 10 with fail;go_wp2_with (go_at_call 14;refine FF.out.mono ?_;rintro e w5 ⟨rfl,b5⟩;refine Hid.out ?_);refine hid ?_;have qe:=hid (HY.out.2.2.1.trans (b5.mono HY.out.2.2.1.size));have AE:=hid (dr HY.out.1 b5);clear c0 c1 c2 c3 c4 y0 b5 FF;cases hb with
 | false=>
  have HZ:=hid (Oj.out 11 (zoG (by rw[PC.out];exact tu)) (by decide) _ qe.out);clear tu;go_wp2;go_ret2;exact HZ.out
 | true=>
 have Lf:p<=2000000000000:=by
  have h1:=znp Ts.out k y;rw[HY.out.2.1] at h1;have h2:k*1000000<=1000000*1000000:=Nat.mul_le_mul_right _ (by omega);omega
 have Ev:=hid (ZX (lf G k y) p d2 a2 z HY.out.2.1 (by omega) w5 (Xg AE.out HY.out.2.1));go_wp2_with (go_at_call 57;refine Ev.out.mono ?_;rintro e w6 ⟨bo,jG,rfl,rfl⟩;refine Hid.out ?_);refine hid ?_;clear Ev;cases bo with
 | true=>
  have HZ:=hid (Oj.out 9 (zln (by rw[PC.out];exact tu) (YA.out.1 (jG.1 rfl))) (by decide) _ qe.out);clear tu jG;go_wp2;go_ret2;exact HZ.out
 | false=>
 have HZ:Hid (∀j,j<y+1->wv G k j=0):=fun j hj=>by
  by_cases e:j=y
  ·subst e;exact zpm (by rw[PC.out];exact tu) (fun h=>by have:=jG.2 (YA.out.2 h);cases this)
  exact HY.out.2.2.2 j (by omega)
 clear tu jG Oj;have hO:=AE.out;have da:=qe.out.size;have HT:Hid (sh (lf G k (y+1))=sh (lf G k y)++[.int .i64 z]):=by show _=_;rw[YQ.out,sh,List.map_append];rfl
 go_wp2_with (at_builtin;refine wpList_append_own _ rfl _ _ 43 rfl w2.heap.size 3 iI (.int .i64 0) 1 8 underlying43 hI oG ow oK rfl (by decide) _ p _ rfl (hO.alloc _) ⟨w6.heap.size,0,none⟩ 1 1 [.int .i64 z] rfl rfl ?c1 ?c2 ?c3 ?c4 ?c5 ?_)
 case c1=>
  intro j u hj
  match j,hj with
  | 0,hj=>simp at hj;subst hj;simp[Addr.add]
 case c2=>first|rfl|(intro u hu;simp at hu;subst hu;rfl)
 case c3=>unfold maxLen;omega
 case c4=>omega
 case c5=>first|omega|(simp;omega)
 intro v' w7 xn wZ _;obtain⟨a7,c7,rfl⟩:=bG xn;have xN:=hid ((qe.out.trans ((al w6 (.cells #[.int .i64 z] 3)).mono da)).grown wZ (by simp;omega) (fun g e=>(hO.lt g e).1));have kG:=hid xn;clear xn wZ hO da;go_wp2;go_roundw
 ·exact⟨y+1,p+1,a7,c7,by omega,by go_num,rfl,by rw[HT.out];exact kG.out,by rw[YQ.out,length_append,HY.out.2.1];rfl,xN.out,HZ.out⟩
 simp[intOf];omega
theorem EP{t:Nat}{c0 c1 c2:Value}(h:w.heap[g]?=some (.cells #[c0,c1,c2] t (0,0)))(d0 d1 d2:Value):
  (((w.setCell ⟨g,0,none⟩ d0).setCell ⟨g,1,none⟩ d1).setCell ⟨g,2,none⟩ d2).cell? ⟨g,0,none⟩=some d0/\(((w.setCell ⟨g,0,none⟩ d0).setCell ⟨g,1,none⟩ d1).setCell ⟨g,2,none⟩ d2).cell? ⟨g,1,none⟩=some d1/\(((w.setCell ⟨g,0,none⟩ d0).setCell ⟨g,1,none⟩ d1).setCell ⟨g,2,none⟩ d2).cell? ⟨g,2,none⟩=some d2:=by
 have h1:=heap_setCell_same w g 0 _ _ d0 h;have h2:=heap_setCell_same _ g 1 _ _ d1 h1;have h3:=heap_setCell_same _ g 2 _ _ d2 h2;rw[cell_of_row _ g 0 _ _ _ h3,cell_of_row _ g 1 _ _ _ h3,cell_of_row _ g 2 _ _ _ h3];exact⟨rfl,rfl,rfl⟩
def y9(w:World)(b:Nat)(G:Gr)(wr:World):Prop:=eU wr b G/\wr.heap[b+1]?=some (.cells #[.int .i64 0,.int .i64 0,.int .i64 0] 32 (0,0))/\Below w.heap.size w wr/\b+1<wr.heap.size/\w.heap.size<=b
theorem y9.aa{b:Nat}(h:y9 w b G wr)(k:Below wr.heap.size wr w'):y9 w b G w':=⟨h.1.below k,(k.block _ h.2.2.2.1).trans h.2.1,h.2.2.1.trans (k.mono h.2.2.1.size),lt_of_lt_of_le h.2.2.2.1 k.size,h.2.2.2.2⟩
theorem y9.put{b:Nat}(h:y9 w b G wr)(d0 d1 d2:Value):Below w.heap.size w (((wr.setCell ⟨b+1,0,none⟩ d0).setCell ⟨b+1,1,none⟩ d1).setCell ⟨b+1,2,none⟩ d2):=by
 have:=h.2.2.2.2;exact ((h.2.2.1.setCell (p:=⟨b+1,0,none⟩) (by show w.heap.size<=b+1;omega) d0).setCell (p:=⟨b+1,1,none⟩) (by show w.heap.size<=b+1;omega) d1).setCell (p:=⟨b+1,2,none⟩) (by show w.heap.size<=b+1;omega) d2
theorem y9.cells{b:Nat}(h:y9 w b G wr):(wr.cell? ⟨b+1,0,none⟩=some (.int .i64 0)/\wr.cell? ⟨b+1,1,none⟩=some (.int .i64 0)/\wr.cell? ⟨b+1,2,none⟩=some (.int .i64 0))/\wr.frozen? ⟨b+1,0,none⟩=false/\wr.frozen? ⟨b+1,1,none⟩=false/\wr.frozen? ⟨b+1,2,none⟩=false:=by
 have h2:=h.2.1;exact⟨⟨by rw[cell_of_row wr _ 0 _ _ _ h2];rfl,by rw[cell_of_row wr _ 1 _ _ _ h2];rfl,by rw[cell_of_row wr _ 2 _ _ _ h2];rfl⟩,frozen_of_row wr _ 0 _ _ h2,frozen_of_row wr _ 1 _ _ h2,frozen_of_row wr _ 2 _ _ h2⟩
theorem zpe(h:oq (ju G) G.S.length 300 a e):(e≠0->gv G=(e,2,a))/\(e=0->¬300<G.S.length/\lA (ju G) G.S.length=0):=by
 rcases h with ⟨h1,rfl,rfl⟩|⟨h1,h2,h3⟩
 ·exact⟨fun _=>by unfold gv;rw[if_pos h1],fun h=>by cases h⟩
 refine⟨fun hne=>?_,fun h0=>⟨by omega,by rw[h2,h0]⟩⟩;unfold gv;rw[if_neg (by omega),if_pos (by rw[h2];exact hne),h2,h3 hne]
theorem zpf(h1:¬300<G.S.length/\lA (ju G) G.S.length=0)(h:oq (je G) G.P.length 200 a e):(e≠0->gv G=(e,3,a))/\(e=0->¬200<G.P.length/\lA (je G) G.P.length=0):=by
 rcases h with ⟨h2,rfl,rfl⟩|⟨h2,h3,h4⟩
 ·exact⟨fun _=>by unfold gv;rw[if_neg h1.1,if_neg (by simp[h1.2]),if_pos h2],fun h=>by cases h⟩
 refine⟨fun hne=>?_,fun h0=>⟨by omega,by rw[h3,h0]⟩⟩;unfold gv;rw[if_neg h1.1,if_neg (by simp[h1.2]),if_neg (by omega),if_pos (by rw[h3];exact hne),h3,h4 hne]
theorem zpg(h1:¬300<G.S.length/\lA (ju G) G.S.length=0)(h2:¬200<G.P.length/\lA (je G) G.P.length=0)(h:oq (pZ G) G.L.length G.L.length a e):(e≠0->gv G=(e,4,a))/\(e=0->gv G=if G.st<0\/(G.S.length:Int)<=G.st then (11,5,0) else (0,0,0)):=by
 rcases h with ⟨h3,_,_⟩|⟨_,h3,h4⟩
 ·omega
 refine⟨fun hne=>?_,fun h0=>?_⟩
 ·unfold gv;rw[if_neg h1.1,if_neg (by simp[h1.2]),if_neg h2.1,if_neg (by simp[h2.2]),if_pos (by rw[h3];exact hne),h3,h4 hne]
 unfold gv;rw[if_neg h1.1,if_neg (by simp[h1.2]),if_neg h2.1,if_neg (by simp[h2.2]),if_neg (by rw[h3,h0];simp)]
theorem zgj(Q:Int->Int->Prop)(G:Gr)(w:World)(hA:G.At w)(hL:G.na 1000000)
  (hR:∀W,Below w.heap.size w W->Calls prog 26 #[.slice G.aR G.R.length G.cR] W (zpn Q W)):
  Calls prog 9 #[G.val] w (Bs Q G w):=by
 show Calls prog 9 #[.agg #[.slice G.aR G.R.length G.cR,.slice G.aS G.S.length G.cS,.slice G.aP G.P.length G.cP,.slice G.aL G.L.length G.cL,.int .i64 G.st]] w _;have HR:=hid hR;have dA:Hid (∀W,Below w.heap.size w W->Calls prog 27 #[.agg #[.slice G.aR G.R.length G.cR,.slice G.aS G.S.length G.cS,.slice G.aP G.P.length G.cP,.slice G.aL G.L.length G.cL,.int .i64 G.st]] W (qj (oq (ju G) G.S.length 300) W)):=fun W k=>zdR G W (hA.below k) hL
 have Hw:Hid (∀W,Below w.heap.size w W->Calls prog 28 #[.agg #[.slice G.aR G.R.length G.cR,.slice G.aS G.S.length G.cS,.slice G.aP G.P.length G.cP,.slice G.aL G.L.length G.cL,.int .i64 G.st]] W (qj (oq (je G) G.P.length 200) W)):=fun W k=>zdS G W (hA.below k) hL
 have Vk:Hid (∀W,Below w.heap.size w W->Calls prog 29 #[.agg #[.slice G.aR G.R.length G.cR,.slice G.aS G.S.length G.cS,.slice G.aP G.P.length G.cP,.slice G.aL G.L.length G.cL,.int .i64 G.st]] W (qj (oq (pZ G) G.L.length G.L.length) W)):=fun W k=>zds G W (hA.below k) hL
 have wE:Hid (∀W,Below w.heap.size w W->Calls prog 14 #[.agg #[.slice G.aR G.R.length G.cR,.slice G.aS G.S.length G.cS,.slice G.aP G.P.length G.cP,.slice G.aL G.L.length G.cL,.int .i64 G.st],.agg #[.bool true,.int .i64 G.st]] W (px (dL G ⟨true,G.st⟩) W)):=fun W k=>I2 G ⟨true,G.st⟩ W (hA.below k) (hL.mono (by omega))
 clear hA hL hR;obtain⟨w2,bD⟩:∃w2,((w.alloc (.cells #[.slice G.aR G.R.length G.cR,.slice G.aS G.S.length G.cS,.slice G.aP G.P.length G.cP,.slice G.aL G.L.length G.cL,.int .i64 G.st] 27)).alloc (.cells #[.int .i64 0,.int .i64 0,.int .i64 0] 32))=w2:=⟨_,rfl⟩
 have H:Hid (eU w2 w.heap.size G/\w2.heap[(w.heap.size+1)]?=some (.cells #[.int .i64 0,.int .i64 0,.int .i64 0] 32 (0,0))/\Below w.heap.size w w2):=by
  rw[<-bD];have k0:=al w (.cells #[.slice G.aR G.R.length G.cR,.slice G.aS G.S.length G.cS,.slice G.aP G.P.length G.cP,.slice G.aL G.L.length G.cL,.int .i64 G.st] 27);have k1:=al (w.alloc (.cells #[.slice G.aR G.R.length G.cR,.slice G.aS G.S.length G.cS,.slice G.aP G.P.length G.cP,.slice G.aL G.L.length G.cL,.int .i64 G.st] 27)) (.cells #[.int .i64 0,.int .i64 0,.int .i64 0] 32);exact⟨((eU.new w G 27).below k1),(by have h9:=(heap_alloc_new (w.alloc (.cells #[.slice G.aR G.R.length G.cR,.slice G.aS G.S.length G.cS,.slice G.aP G.P.length G.cP,.slice G.aL G.L.length G.cL,.int .i64 G.st] 27)) (.cells #[.int .i64 0,.int .i64 0,.int .i64 0] 32));simpa using h9),(k0.trans (k1.mono k0.size))⟩
 have iL:Hid (w2.heap.size=w.heap.size+2):=by show _=_;rw[<-bD];simp
 go_enter func9,ntmps9;go_upto_region 1 with fail
 try rw[bD]
 clear bD;obtain⟨b,hb⟩:∃b,w.heap.size=b:=⟨_,rfl⟩
 have HX:Hid (y9 w b G w2):=by
  have h8:=iL.out;rw[<-hb];exact⟨H.out.1,H.out.2.1,H.out.2.2,by omega,le_refl _⟩
 rw[hb];clear hb H iL;have c0:=HX.out.1.c0;have xK:=hid (HR.out w2 HX.out.2.2.1);go_wp2_with (go_at_call 26;refine xK.out.mono ?_;rintro e w3 ⟨ai,er,rfl,hq,b3⟩;refine Hid.out ?_);refine hid ?_;have fm:=hid (HX.out.aa b3);have HQ:=hid hq;clear c0 xK HX HR b3 hq;by_cases h0:er=0
 case neg=>
  have j0:(er != 0)=true:=by simpa using h0
  have HC:Hid (mK G ai er=(er,1,ai)):=if_pos h0;clear h0;obtain⟨⟨t0,t1,t2⟩,f0,f1,f2⟩:=fm.out.cells;obtain⟨q0,q1,q2⟩:=EP fm.out.2.1 (.int .i64 er) (.int .i64 1) (.int .i64 ai);have HZ:Hid (∀W,Below w.heap.size w W->Bs Q G w (.returned (.agg #[.int .i64 er,.int .i64 1,.int .i64 ai])) W):=fun W k=>⟨_,_,HQ.out,by rw[HC.out],k⟩
  go_wp2_with fail;exact bodyPost_ret (v:=.agg #[.int .i64 er,.int .i64 1,.int .i64 ai]) (by simp[results,results9,go_sem,q0,q1,q2]) rfl (HZ.out _ (fm.out.put _ _ _))
 subst h0;have HC:Hid (mK G ai 0=gv G):=if_neg (by simp);have c0:=fm.out.1.c0;have c1:=fm.out.1.c1;have c2:=fm.out.1.c2;have c3:=fm.out.1.c3;have c4:=fm.out.1.c4;have AY:=hid (dA.out w3 fm.out.2.2.1);go_wp2_with (go_at_call 27;refine AY.out.mono ?_;rintro e w4 ⟨Lu,DX,rfl,Xu,b4⟩;refine Hid.out ?_);refine hid ?_;have kt:=hid (fm.out.aa b4);have QO:=hid (zpe Xu);clear c0 c1 c2 c3 c4 AY dA b4 Xu fm;by_cases h0:DX=0
 case neg=>
  have j0:(DX != 0)=true:=by simpa using h0
  have zU:Hid (mK G ai 0=(DX,2,Lu)):=by show _=_;rw[HC.out,QO.out.1 h0]
  clear h0;obtain⟨⟨t0,t1,t2⟩,f0,f1,f2⟩:=kt.out.cells;obtain⟨q0,q1,q2⟩:=EP kt.out.2.1 (.int .i64 DX) (.int .i64 2) (.int .i64 Lu);have HZ:Hid (∀W,Below w.heap.size w W->Bs Q G w (.returned (.agg #[.int .i64 DX,.int .i64 2,.int .i64 Lu])) W):=fun W k=>⟨_,_,HQ.out,by rw[zU.out],k⟩
  go_wp2_with fail;exact bodyPost_ret (v:=.agg #[.int .i64 DX,.int .i64 2,.int .i64 Lu]) (by simp[results,results9,go_sem,q0,q1,q2]) rfl (HZ.out _ (kt.out.put _ _ _))
 have vm:=hid (QO.out.2 h0);subst h0;clear QO;have c0:=kt.out.1.c0;have c1:=kt.out.1.c1;have c2:=kt.out.1.c2;have c3:=kt.out.1.c3;have c4:=kt.out.1.c4;have UY:=hid (Hw.out w4 kt.out.2.2.1);go_wp2_with (go_at_call 28;refine UY.out.mono ?_;rintro e w5 ⟨JF,DA,rfl,Uo,b5⟩;refine Hid.out ?_);refine hid ?_;have mw:=hid (kt.out.aa b5);have PS:=hid (zpf vm.out Uo);clear c0 c1 c2 c3 c4 UY Hw b5 Uo kt;by_cases h0:DA=0
 case neg=>
  have j0:(DA != 0)=true:=by simpa using h0
  have zU:Hid (mK G ai 0=(DA,3,JF)):=by show _=_;rw[HC.out,PS.out.1 h0]
  clear h0;obtain⟨⟨t0,t1,t2⟩,f0,f1,f2⟩:=mw.out.cells;obtain⟨q0,q1,q2⟩:=EP mw.out.2.1 (.int .i64 DA) (.int .i64 3) (.int .i64 JF);have HZ:Hid (∀W,Below w.heap.size w W->Bs Q G w (.returned (.agg #[.int .i64 DA,.int .i64 3,.int .i64 JF])) W):=fun W k=>⟨_,_,HQ.out,by rw[zU.out],k⟩
  go_wp2_with fail;exact bodyPost_ret (v:=.agg #[.int .i64 DA,.int .i64 3,.int .i64 JF]) (by simp[results,results9,go_sem,q0,q1,q2]) rfl (HZ.out _ (mw.out.put _ _ _))
 have HK4:=hid (PS.out.2 h0);subst h0;clear PS;have c0:=mw.out.1.c0;have c1:=mw.out.1.c1;have c2:=mw.out.1.c2;have c3:=mw.out.1.c3;have c4:=mw.out.1.c4;have TS:=hid (Vk.out w5 mw.out.2.2.1);go_wp2_with (go_at_call 29;refine TS.out.mono ?_;rintro e w6 ⟨Ly,D6,rfl,Kp,b6⟩;refine Hid.out ?_);refine hid ?_;have yw:=hid (mw.out.aa b6);have Rc:=hid (zpg vm.out HK4.out Kp);clear c0 c1 c2 c3 c4 TS Vk b6 Kp mw;by_cases h0:D6=0
 case neg=>
  have j0:(D6 != 0)=true:=by simpa using h0
  have zU:Hid (mK G ai 0=(D6,4,Ly)):=by show _=_;rw[HC.out,Rc.out.1 h0]
  clear h0;obtain⟨⟨t0,t1,t2⟩,f0,f1,f2⟩:=yw.out.cells;obtain⟨q0,q1,q2⟩:=EP yw.out.2.1 (.int .i64 D6) (.int .i64 4) (.int .i64 Ly);have HZ:Hid (∀W,Below w.heap.size w W->Bs Q G w (.returned (.agg #[.int .i64 D6,.int .i64 4,.int .i64 Ly])) W):=fun W k=>⟨_,_,HQ.out,by rw[zU.out],k⟩
  go_wp2_with fail;exact bodyPost_ret (v:=.agg #[.int .i64 D6,.int .i64 4,.int .i64 Ly]) (by simp[results,results9,go_sem,q0,q1,q2]) rfl (HZ.out _ (yw.out.put _ _ _))
 have BG:=hid (Rc.out.2 h0);subst h0;clear Rc;have c0:=yw.out.1.c0;have c1:=yw.out.1.c1;have c2:=yw.out.1.c2;have c3:=yw.out.1.c3;have c4:=yw.out.1.c4;go_upto_region 13 with fail;have kd:Below w6.heap.size w6 w6.drew:=⟨rfl,rfl,rfl,le_refl _,fun _ _=>rfl⟩
 have Rv:=hid (yw.out.aa kd);clear kd yw c0 c1 c2 c3 c4;generalize vt:w6.drew=w7 at Rv;refine wp_region_held_drew (S:=fun W'=>y9 w b G W') (by kernel_rfl) (by rw[vt];exact Rv.out) (fun hHeld=>?_);rw[vt] at hHeld⊢;clear vt Rv;obtain⟨bo,jG⟩:∃bo,dL G ⟨true,G.st⟩=bo:=⟨_,rfl⟩
 have kq:Hid (bo=true↔¬(G.st<0\/(G.S.length:Int)<=G.st)):=by
  show _↔_;rw[<-jG,show dL G ⟨true,G.st⟩=xu G G.st from rfl,Mq];simp only[Bool.and_eq_true,decide_eq_true_eq];omega
 rw[jG] at wE;clear jG;refine ag 0 (v:=.agg #[.slice G.aR G.R.length G.cR,.slice G.aS G.S.length G.cS,.slice G.aP G.P.length G.cP,.slice G.aL G.L.length G.cL,.int .i64 G.st]) ?_ (hy:=by intro wz hSw;have y0:=hSw.1.c0;have y1:=hSw.1.c1;have y2:=hSw.1.c2;have y3:=hSw.1.c3;have y4:=hSw.1.c4;(try simp only[Act.put,sA,sB,sC]);go_simp;first|done|with_reducible rfl)
 try simp only[Act.put,sA,sB,sC]
 refine ag 1 ?_ (hy:=by intro wz hSw;have y0:=hSw.1.c0;have y1:=hSw.1.c1;have y2:=hSw.1.c2;have y3:=hSw.1.c3;have y4:=hSw.1.c4;(try simp only[Act.put,sA,sB,sC]);go_simp;first|done|with_reducible rfl)
 try simp only[Act.put,sA,sB,sC]
 refine ag 2 ?_ (hy:=by intro wz hSw;have y0:=hSw.1.c0;have y1:=hSw.1.c1;have y2:=hSw.1.c2;have y3:=hSw.1.c3;have y4:=hSw.1.c4;(try simp only[Act.put,sA,sB,sC]);go_simp;first|done|with_reducible rfl)
 try simp only[Act.put,sA,sB,sC]
 refine ba 3 (fun K hK=>?_);go_simp;go_at_call 30;refine (xY _ _).mono ?_;rintro e w8 ⟨rfl,b8⟩;have aW:=hHeld.aa b8;clear b8 hHeld
 try go_wp2_with fail
 refine hK.out _ _ aW (fun hHeld=>?_);clear hK K aW
 try simp only[Act.put,sA,sB,sC]
 refine ba 4 (fun K hK=>?_);go_simp;go_at_call 14;refine (wE.out _ hHeld.2.2.1).mono ?_;rintro e w8 ⟨rfl,b8⟩;have aW:=hHeld.aa b8;clear b8 hHeld
 try go_wp2_with fail
 refine hK.out _ _ aW (fun hHeld=>?_);clear hK K aW
 try simp only[Act.put,sA,sB,sC]
 refine ag 5 ?_ (hy:=by intro wz hSw;have y0:=hSw.1.c0;have y1:=hSw.1.c1;have y2:=hSw.1.c2;have y3:=hSw.1.c3;have y4:=hSw.1.c4;(try simp only[Act.put,sA,sB,sC]);go_simp;first|done|with_reducible rfl)
 try simp only[Act.put,sA,sB,sC]
 refine wpAnyH_done (by kernel_rfl) ?_ _;have EX:=hid hHeld;clear hHeld wE;cases bo with
 | false=>
  have zU:Hid (mK G ai 0=(11,5,0)):=by
   show _=_;rw[HC.out,BG.out,if_pos (Classical.byContradiction fun h=>by have:=kq.out.2 h;cases this)]
  obtain⟨⟨t0,t1,t2⟩,f0,f1,f2⟩:=EX.out.cells;obtain⟨q0,q1,q2⟩:=EP EX.out.2.1 (.int .i64 11) (.int .i64 5) (.int .i64 0);have HZ:Hid (∀W,Below w.heap.size w W->Bs Q G w (.returned (.agg #[.int .i64 11,.int .i64 5,.int .i64 0])) W):=fun W k=>⟨_,_,HQ.out,by rw[zU.out],k⟩
  go_wp2_with fail;exact bodyPost_ret (v:=.agg #[.int .i64 11,.int .i64 5,.int .i64 0]) (by simp[results,results9,go_sem,q0,q1,q2]) rfl (HZ.out _ (EX.out.put _ _ _))
 | true=>
  have zU:Hid (mK G ai 0=(0,0,0)):=by
   show _=_;rw[HC.out,BG.out,if_neg (kq.out.1 rfl)]
  obtain⟨⟨t0,t1,t2⟩,f0,f1,f2⟩:=EX.out.cells;obtain⟨q0,q1,q2⟩:=EP EX.out.2.1 (.int .i64 0) (.int .i64 0) (.int .i64 0);have HZ:Hid (∀W,Below w.heap.size w W->Bs Q G w (.returned (.agg #[.int .i64 0,.int .i64 0,.int .i64 0])) W):=fun W k=>⟨_,_,HQ.out,by rw[zU.out],k⟩
  go_wp2_with fail;exact bodyPost_ret (v:=.agg #[.int .i64 0,.int .i64 0,.int .i64 0]) (by simp[results,results9,go_sem,q0,q1,q2]) rfl (HZ.out _ (EX.out.put _ _ _))
def fP(b:Nat):Gr:=⟨some ⟨b,0,none⟩,1,[⟨⟨#[80,76,85,83]⟩,0,⟨#[92,43]⟩⟩],some ⟨b+1,0,none⟩,1,[⟨#[69]⟩],some ⟨b+4,0,none⟩,1,[⟨0,⟨#[65,100,100]⟩,some ⟨b+2,0,none⟩,3,[⟨true,0⟩,⟨false,0⟩,⟨true,0⟩],false,-1,some ⟨b+3,0,none⟩,2,[0,0]⟩],none,0,[],0⟩
theorem U2(b:Nat):fI (fP b):=by
 refine⟨show 1<=20 by decide,fun i hi _=>?_,show 1<=20 by decide,show 1<=40 by decide,show 0<=20 by decide,fun i hi=>?_,fun i hi=>?_,fun i hi=>?_⟩
 ·obtain rfl:i=0:=by have:i<1:=hi;omega
  exact⟨show 2<=40 by decide,show 4<=100 by decide⟩
 ·obtain rfl:i=0:=by have:i<1:=hi;omega
  exact show 1<=100 by decide
 ·obtain rfl:i=0:=by have:i<1:=hi;omega
  exact⟨show 3<=100 by decide,show 3<=20 by decide,show 2<=20 by decide⟩
 have:i<0:=hi;omega
theorem zjf(b:Nat):mJ (fP b) 0=⟨#[69,46,65,100,100,32,61,32,69,32,80,76,85,83,32,69]⟩:=by rfl
theorem zni(b:Nat):ju (fP b) 0=0:=Vr (show bW ⟨#[69]⟩=true by decide +kernel) (fun k hk=>by omega) (fun k hk=>by
 obtain rfl:k=0:=by have:k<1:=hk;omega
 show (⟨#[80,76,85,83]⟩:ByteArray)≠⟨#[69]⟩
 intro h
 have:(⟨#[80,76,85,83]⟩:ByteArray).data=(⟨#[69]⟩:ByteArray).data:=by rw[h]
 revert this
 decide)
theorem znj(b:Nat):je (fP b) 0=0:=by
 have h:=X7 (G:=fP b) (i:=0) (x:=⟨0,⟨#[65,100,100]⟩,some ⟨b+2,0,none⟩,3,[⟨true,0⟩,⟨false,0⟩,⟨true,0⟩],false,-1,some ⟨b+3,0,none⟩,2,[0,0]⟩) rfl (show ¬((0:Int)<0\/((1:Nat):Int)<=0) by decide) (show bW ⟨#[65,100,100]⟩=true by decide +kernel) (show ¬12<3 by decide) rfl;rw[h,if_neg (fun ⟨k,hk,_⟩=>by omega),if_neg,if_neg,if_neg (fun h=>h.1 rfl),if_neg (fun h=>by cases h.1)]
 ·rintro⟨z,hz,h⟩;have:z=0:=by
   have h1:z∈[(0:Int),0]:=hz;simpa using h1
  omega
 rintro⟨y,hy,h⟩;have h1:y∈[(⟨true,0⟩:Sy),⟨false,0⟩,⟨true,0⟩]:=hy;have h2:y=⟨true,0⟩\/y=⟨false,0⟩:=by
  simp at h1;rcases h1 with h1|h1
  ·exact inl h1
  exact h1.symm
 rcases h2 with rfl|rfl
 ·have:dL (fP b) ⟨true,0⟩=true:=by rfl
  rw[this] at h;cases h
 have:dL (fP b) ⟨false,0⟩=true:=by rfl
 rw[this] at h;cases h
theorem zk4(b:Nat):gv (fP b)=(0,0,0):=by
 have h1:lA (ju (fP b)) (fP b).S.length=0:=C4 (fun j hj=>by
  obtain rfl:j=0:=by have:j<1:=hj;omega
  exact zni b)
 have h2:lA (je (fP b)) (fP b).P.length=0:=C4 (fun j hj=>by
  obtain rfl:j=0:=by have:j<1:=hj;omega
  exact znj b)
 have h3:lA (pZ (fP b)) (fP b).L.length=0:=rfl;unfold gv;rw[if_neg (show ¬300<(fP b).S.length from (show ¬300<1 by decide)),if_neg (by rw[h1];simp),if_neg (show ¬200<(fP b).P.length from (show ¬200<1 by decide)),if_neg (by rw[h2];simp),if_neg (by rw[h3];simp),if_neg (show ¬((fP b).st<0\/((fP b).S.length:Int)<=(fP b).st) from (show ¬((0:Int)<0\/((1:Nat):Int)<=0) by decide))]
theorem F8(a b:ByteArray):ae (a++b)=ae a++ae b:=by simp[ae,ByteArray.data_append]
theorem xm(a:ByteArray):(ae a).length=a.size:=by simp[ae]
def ZH(g:Nat)(l:List Nat)(t:ByteArray)(w:World)(e:Ending)(w':World):Prop:=e=.returned (.tuple #[.int .i64 ((t.size:Nat):Int),.nilIface])/\lq g g (l++ae t) w'/\Below g w w'/\Lib.OthersKept 5 (some g) w w'
theorem Ep(g:Nat)(l:List Nat)(t:ByteArray)(w:World)(h:lq g g l w)(hs:l.length+t.size<=1000000)(hg:g<=w.heap.size):
  Calls prog 46 #[.pointer (some ⟨g,0,none⟩),.string t] w (ZH g l t w):=by
 have h1:=zhX g g l (ae t) w h (E4 t) (by rw[xm];omega) hg;rw[Yz,xm] at h1;exact h1
def LnA(w:World)(b b5 g:Nat)(G:Gr)(p:iw)(W0:World):Prop:=∀W',Below g W0 W'->eU W' b G/\nW W' b5 p/\G.At W'/\p.At W'/\Below w.heap.size w W'/\g<=W'.heap.size
theorem WT(G:Gr)(i:Int)(w:World)(hA:G.At w)(hF:fI G):
  Calls prog 19 #[G.val,.int .i64 i] w (iP (mJ G i) w):=by
 show Calls prog 19 #[.agg #[.slice G.aR G.R.length G.cR,.slice G.aS G.S.length G.cS,.slice G.aP G.P.length G.cP,.slice G.aL G.L.length G.cL,.int .i64 G.st],.int .i64 i] w _;have HA:=hid (Zz hA hF);have xo:G.P.length<=1000000:=by have:=(hF.lim (m:=1000000) (by omega)).p;omega
 clear hA hF;obtain⟨w2,bD⟩:∃w2,(w.alloc (.cells #[.slice G.aR G.R.length G.cR,.slice G.aS G.S.length G.cS,.slice G.aP G.P.length G.cP,.slice G.aL G.L.length G.cL,.int .i64 G.st] 27))=w2:=⟨_,rfl⟩
 have H:Hid (eU w2 w.heap.size G/\Below w.heap.size w w2):=by
  rw[<-bD];have k0:=al w (.cells #[.slice G.aR G.R.length G.cR,.slice G.aS G.S.length G.cS,.slice G.aP G.P.length G.cP,.slice G.aL G.L.length G.cL,.int .i64 G.st] 27);exact⟨(eU.new w G 27),k0⟩
 have iL:Hid (w2.heap.size=w.heap.size+1):=by show _=_;rw[<-bD];simp
 go_enter func19,ntmps19;go_upto_region 1 with fail
 try rw[bD]
 clear bD;obtain⟨b,hb⟩:∃b,w.heap.size=b:=⟨_,rfl⟩
 have HX:Hid (eU w2 b G/\Below w.heap.size w w2):=by rw[<-hb];exact H.out
 rw[hb];clear hb H iL;have c2:=HX.out.1.c2;by_cases h0:0<=i/\i<(G.P.length:Int)
 case neg=>
  have HI:=hid (PE h0 w2);have HZ:=hid (M3 h0);clear h0;go_wp2_with (go_at_call 43;refine HI.out.mono ?_;rintro e w3 ⟨rfl,rfl⟩);go_ret;exact⟨by rw[HZ.out];rfl,HX.out.2⟩
 obtain⟨k,rfl⟩:=Int.eq_ofNat_of_zero_le h0.1;have HI:=hid (Qb h0 w2);have hk:k<G.P.length:=by omega
 have HZ:=hid (UT hk);have Ib:=hid (HA.out.2.ps k hk);obtain⟨g1,o1,e1,_,X,x0,x1,x2,x3,x4,x5⟩:=(HA.out.1.below HX.out.2).p.get k hk;rw[qB hk] at HZ;rw[e1] at c2;have QY:=hid X;have i9:(k:Int)<(G.P.length:Int):=h0.2;clear X h0;generalize G.P[k]=p at x0 x1 x2 x3 x4 x5 HZ QY Ib;have Es:=nW.new w2 p 47;have kb:=al w2 (.cells #[.int .i64 p.bB,.string p.cZ,.slice p.ab p.body.length p.cb,.bool p.par,.int .i64 p.prec,.slice p.ah p.hints.length p.ch] 47);obtain⟨b5,vn⟩:∃b5,w2.heap.size=b5:=⟨_,rfl⟩
 obtain⟨W0,rV⟩:∃W0,w2.alloc (.cells #[.int .i64 p.bB,.string p.cZ,.slice p.ab p.body.length p.cb,.bool p.par,.int .i64 p.prec,.slice p.ah p.hints.length p.ch] 47)=W0:=⟨_,rfl⟩
 have nu:Hid (∀g,W0.heap.size=g->LnA w b b5 g G p W0):=fun g hg W' k=>by
  rw[rV] at Es kb;subst hg;rw[<-vn] at *;have k2:=(HX.out.2).trans ((kb.trans (k.mono kb.size)).mono HX.out.2.size);exact⟨(HX.out.1.below kb).below k,Es.below k,HA.out.1.below k2,(QY.out.below kb).below k,k2,k.size⟩
 have qi:=hid (Zz (lq.new W0) (al W0 (.cells #[.pointer none,.slice none 0 0] 78)));clear Es kb hk;go_upto_region 5 with (first
  | (go_at_call 43;refine HI.out.mono ?_;rintro e w3 ⟨rfl,rfl⟩))
 obtain⟨g,hg⟩:∃g,W0.heap.size=g:=⟨_,rfl⟩
 have kZ:=hid (nu.out g hg);rw[hg] at qi
 try rw[rV]
 try rw[vn]
 rw[hg];clear i9 nu rV vn hg HI e1 x0 x1 x2 x3 x4 x5 c2 QY HX;generalize W0.alloc (.cells #[.pointer none,.slice none 0 0] 78)=W1 at qi⊢;have jL:Hid (∀(y:Sy) W,Below g W0 W->Calls prog 45 #[.agg #[.slice G.aR G.R.length G.cR,.slice G.aS G.S.length G.cS,.slice G.aP G.P.length G.cP,.slice G.aL G.L.length G.cL,.int .i64 G.st],.agg #[.bool y.s,.int .i64 y.n]] W (iP (gK G y) W)):=fun y W k=>Sc G y W (kZ.out W k).2.2.1 (HA.out.2.lim (by omega))
 have Ay:=hid (fun y=>ES HA.out.2 y);have kd:Below W1.heap.size W1 W1.drew:=⟨rfl,rfl,rfl,le_refl _,fun _ _=>rfl⟩
 have mZ:Hid (lq g g [] W1.drew/\Below g W0 W1.drew):=⟨qi.out.1.aa kd,qi.out.2.trans (kd.mono (kZ.out _ qi.out.2).2.2.2.2.2)⟩
 clear kd;generalize vt:W1.drew=W2 at mZ;refine wp_region_held_drew (S:=fun W'=>Below g W0 W') (by kernel_rfl) (by rw[vt];exact mZ.out.2) (fun hHeld=>?_);rw[vt] at hHeld⊢;clear vt qi;refine ag 0 (v:=.agg #[.slice G.aR G.R.length G.cR,.slice G.aS G.S.length G.cS,.slice G.aP G.P.length G.cP,.slice G.aL G.L.length G.cL,.int .i64 G.st]) ?_ (hy:=by intro wz hSw;obtain⟨mA,hq2,_⟩:=kZ.out wz hSw;have y0:=mA.c0;have y1:=mA.c1;have y2:=mA.c2;have y3:=mA.c3;have y4:=mA.c4;have z0:=hq2.c0;(try simp only[Act.put,sA,sB,sC]);go_simp;first|done|with_reducible rfl)
 try simp only[Act.put,sA,sB,sC]
 refine ag 1 ?_ (hy:=by intro wz hSw;obtain⟨mA,hq2,_⟩:=kZ.out wz hSw;have y0:=mA.c0;have y1:=mA.c1;have y2:=mA.c2;have y3:=mA.c3;have y4:=mA.c4;have z0:=hq2.c0;(try simp only[Act.put,sA,sB,sC]);go_simp;first|done|with_reducible rfl)
 try simp only[Act.put,sA,sB,sC]
 refine ag 2 ?_ (hy:=by intro wz hSw;obtain⟨mA,hq2,_⟩:=kZ.out wz hSw;have y0:=mA.c0;have y1:=mA.c1;have y2:=mA.c2;have y3:=mA.c3;have y4:=mA.c4;have z0:=hq2.c0;(try simp only[Act.put,sA,sB,sC]);go_simp;first|done|with_reducible rfl)
 try simp only[Act.put,sA,sB,sC]
 refine ba 3 (fun K hK=>?_);go_simp;go_at_call 30;refine (xY _ _).mono ?_;rintro e w8 ⟨rfl,b8⟩;have MX:Hid (lq g g [] w8/\Below g W0 w8):=⟨mZ.out.1.aa b8,hHeld.trans (b8.mono (kZ.out _ hHeld).2.2.2.2.2)⟩
 clear b8 hHeld mZ
 try go_wp2_with fail
 refine hK.out _ _ MX.out.2 (fun hHeld=>?_);clear hK K;refine ba 4 (fun K hK=>?_);go_simp;go_at_call 45;refine (jL.out ⟨true,p.bB⟩ _ hHeld).mono ?_;rintro e w9 ⟨rfl,b8⟩;have py:Hid (lq g g [] w9/\Below g W0 w9):=⟨MX.out.1.aa b8,hHeld.trans (b8.mono (kZ.out _ hHeld).2.2.2.2.2)⟩
 clear b8 hHeld MX
 try go_wp2_with fail
 refine hK.out _ _ py.out.2 (fun hHeld=>?_);clear hK K;refine ba 5 (fun K hK=>?_);go_simp;go_at_call 46;refine (Ep g [] (gK G ⟨true,p.bB⟩) _ py.out.1 (by have:=Ay.out ⟨true,p.bB⟩;simp only[List.length_nil];omega) (kZ.out _ hHeld).2.2.2.2.2).mono ?_;rintro e ny ⟨rfl,ew,b8,_⟩;have IK:Hid (lq g g (ae (gK G ⟨true,p.bB⟩)) ny/\Below g W0 ny):=⟨ew,hHeld.trans b8⟩
 clear b8 ew hHeld py
 try go_wp2_with fail
 refine hK.out _ _ IK.out.2 (fun hHeld=>?_);clear hK K;refine wpAnyH_done (by kernel_rfl) ?_ _;have PB:=hid (Ay.out ⟨true,p.bB⟩);have AF:=hid (Ep g (ae (gK G ⟨true,p.bB⟩)) ⟨#[46]⟩ ny IK.out.1 (by have:=PB.out;rw[xm];show _+1<=_;omega) (kZ.out _ IK.out.2).2.2.2.2.2);go_upto_region 7 with (go_at_call 46;refine AF.out.mono ?_;rintro e Aw ⟨rfl,ew,b8,_⟩);have qe:=hid (Zz ew (IK.out.2.trans b8));have z1:=(kZ.out _ qe.out.2).2.1.c1;have kG:=hid (Ep g _ p.cZ Aw qe.out.1 (by have:=PB.out;have:=Ib.out.1;rw[length_append,xm,xm];show _+1+_<=_;omega) (kZ.out _ qe.out.2).2.2.2.2.2);clear ew b8 AF IK hHeld;go_upto_region 8 with (go_at_call 46;refine kG.out.mono ?_;rintro e w12 ⟨rfl,ew,b8,_⟩);have zX:=hid (Zz ew (qe.out.2.trans b8));have uD:=hid (Ep g _ ⟨#[32,61]⟩ w12 zX.out.1 (by have:=PB.out;have:=Ib.out.1;rw[length_append,length_append,xm,xm,xm];show _+1+_+2<=_;omega) (kZ.out _ zX.out.2).2.2.2.2.2);clear ew b8 kG qe z1;go_upto_region 9 with (go_at_call 46;refine uD.out.mono ?_;rintro e Qt ⟨rfl,ew,b8,_⟩);have xN:Hid (lq g g (ae (fT G p 0)) Qt/\Below g W0 Qt):=⟨by
  show lq g g (ae (((gK G ⟨true,p.bB⟩++⟨#[46]⟩)++p.cZ)++⟨#[32,61]⟩)) Qt
  rw[F8,F8,F8];exact ew,zX.out.2.trans b8⟩
 have z2:=(kZ.out _ xN.out.2).2.1.c2;obtain⟨n,hn⟩:∃n,p.body.length=n:=⟨_,rfl⟩
 have HN:=hid hn;rw[hn] at z2;have LW:n<=20:=by have:=Ib.out.2.1;omega
 clear ew b8 uD zX hn;go_wp2;go_loopw [8,34] (fun _ v wr=>∃k:Nat,v=.int .i64 (k:Int)/\k<=n/\Hid (lq g g (ae (fT G p k)) wr/\Below g W0 wr)) (fun _ v _=>n-(intOf v).toNat)
 ·exact⟨0,rfl,zero_le _,xN.out⟩
 clear xN z2;obtain⟨q,rfl,hq,HR⟩:=hrel;by_cases aw:q<n
 case neg=>
  obtain rfl:q=n:=by omega
  have HT:=hid (zkW g g (ae (fT G p q)) wr HR.out.1 (E4 _) (kZ.out _ HR.out.2).2.2.2.2.2);go_wp2_with (go_at_call 47;refine HT.out.mono ?_;rintro e w14 ⟨rfl,b8⟩);go_ret;refine⟨?_,(kZ.out _ (HR.out.2.trans b8)).2.2.2.2.1⟩;rw[HZ.out,HN.out,Yz];rfl
 have hkl:q<p.body.length:=by rw[HN.out];exact aw
 obtain⟨g1,o1,e1,_,y0,y1⟩:=(kZ.out _ HR.out.2).2.2.2.1.b.get q hkl;have HU:Hid (fT G p (q+1)=(fT G p q++⟨#[32]⟩)++gK G p.body[q]):=by show _=_;simp[fT,hkl]
 have S5:=hid (VV HA.out.2 Ib.out.1 q);have i1:(q:Int)<n:=by omega
 generalize p.body[q]=y at y0 y1 HU;obtain⟨ys,yn⟩:=y;dsimp only at y0 y1;have z2:=(kZ.out _ HR.out.2).2.1.c2;rw[HN.out,e1] at z2;have kS:=al wr (.cells #[.bool ys,.int .i64 yn] 38);have sS:=kJ.new wr ⟨ys,yn⟩ 38;obtain⟨b8,LS⟩:∃b8,wr.heap.size=b8:=⟨_,rfl⟩
 have dy:Hid ((wr.alloc (.cells #[.bool ys,.int .i64 yn] 38)).heap[b8]?=some (.cells #[.bool ys,.int .i64 yn] 38 (0,0))/\lq g g (ae (fT G p q)) (wr.alloc (.cells #[.bool ys,.int .i64 yn] 38))/\Below g W0 (wr.alloc (.cells #[.bool ys,.int .i64 yn] 38))/\g<b8):=⟨by rw[<-LS];exact heap_alloc_new wr _,HR.out.1.aa kS,HR.out.2.trans (kS.mono (kZ.out _ HR.out.2).2.2.2.2.2),by rw[<-LS];exact HR.out.1.lt⟩
 clear kS sS hkl;go_upto_region 12 with fail
 try rw[LS]
 clear LS y0 y1 z2 e1;generalize wr.alloc (.cells #[.bool ys,.int .i64 yn] 38)=W3 at dy⊢;have HW:=hid (Ep g _ ⟨#[32]⟩ W3 dy.out.2.1 (by have:=S5.out;rw[xm];show _+1<=_;omega) (kZ.out _ dy.out.2.2.1).2.2.2.2.2);go_upto_region 13 with (go_at_call 46;refine HW.out.mono ?_;rintro e w4 ⟨rfl,ew,b9,VO⟩);have h8:=VO b8 _ dy.out.1 (by have:=dy.out.2.2.2;simp;omega) (fun c fz e=>by injection e with _ e2;exact absurd e2 (by decide));have u0:w4.cell? ⟨b8,0,none⟩=some (.bool ys):=by rw[cell_of_row w4 _ 0 _ _ _ h8];rfl
 have u1:w4.cell? ⟨b8,1,none⟩=some (.int .i64 yn):=by rw[cell_of_row w4 _ 1 _ _ _ h8];rfl
 have Ei:Hid (lq g g (ae (fT G p q)++ae ⟨#[32]⟩) w4/\Below g W0 w4):=⟨ew,dy.out.2.2.1.trans b9⟩
 have hG:=(kZ.out _ Ei.out.2).1;have y0:=hG.c0;have y1:=hG.c1;have y2:=hG.c2;have y3:=hG.c3;have y4:=hG.c4;have Ys:=hid (jL.out ⟨ys,yn⟩ w4 Ei.out.2);clear ew b9 VO h8 HW dy hG HR;go_wp2_with (go_at_call 45;refine Ys.out.mono ?_;rintro e w5 ⟨rfl,b9⟩;refine Hid.out ?_);refine hid ?_;have Kg:Hid (lq g g (ae (fT G p q)++ae ⟨#[32]⟩) w5/\Below g W0 w5):=⟨Ei.out.1.aa b9,Ei.out.2.trans (b9.mono (kZ.out _ Ei.out.2).2.2.2.2.2)⟩
 clear b9 Ys Ei u0 u1 y0 y1 y2 y3 y4;have HW:=hid (Ep g _ (gK G ⟨ys,yn⟩) w5 Kg.out.1 (by have:=S5.out;have:=Ay.out ⟨ys,yn⟩;rw[length_append,xm,xm];show _+1+_<=_;omega) (kZ.out _ Kg.out.2).2.2.2.2.2);go_wp2_with (go_at_call 46;refine HW.out.mono ?_;rintro e w6 ⟨rfl,ew,b9,_⟩;refine Hid.out ?_);refine hid ?_;have HBA:Hid (lq g g (ae (fT G p (q+1))) w6/\Below g W0 w6):=⟨by rw[HU.out,F8,F8];exact ew,Kg.out.2.trans b9⟩
 clear ew b9 HW Kg;go_wp2;go_roundw
 ·exact⟨q+1,by go_num,by omega,HBA.out⟩
 simp[intOf];omega
theorem znk(c:Nat)(hc:c<256)(s:List Nat):eR (.leaf ⟨1,iT (fun _=>c) 1⟩) s↔s=[c]:=by
 rw[JO,if_pos rfl];constructor
 ·rintro⟨b,rfl,_,h⟩;obtain⟨j,_,e⟩:=(NN _ _ _).1 h;rw[<-e]
 rintro rfl;exact⟨c,rfl,hc,(NN _ _ _).2 ⟨0,by omega,rfl⟩⟩
theorem zk5{pre:List Ru}{x:Ru}{er:Int}(h:Mx pre x er)(h1:bW x.nm=true)(h2:∀y∈pre,y.nm≠x.nm)(h3:lD x.k=true){t:Rx}(ht:nZ x.rx t)(hn:nB (fB t 0)<=2)(he:¬eR t []):er=0:=by
 rcases h with ⟨h4,_⟩|⟨_,⟨⟨y,hy,e⟩,_⟩|⟨_,⟨h4,_⟩|⟨_,⟨e5,h4,_⟩|⟨t',xC,h5⟩⟩⟩⟩
 ·rw[h1] at h4;cases h4
 ·exact absurd e (h2 y hy)
 ·rw[h3] at h4;cases h4
 ·exact (ht.BJ h4).elim
 have hf:=xC.flat ht;have hE:=VS xC.1 ht.1 hf;rcases h5 with ⟨h6,_⟩|⟨h6,_⟩|⟨_,h6⟩
 ·rw[hE] at h6;have:2 ^ nB (fB t 0)<=2 ^ 2:=Nat.pow_le_pow_right (by omega) hn;omega
 ·refine absurd ?_ he;have:=(zma xC.1 ht.1 hf (fun _=>0) (fun _=>by omega) 0).1;exact this h6
 exact h6
def QM:Rx:=.leaf ⟨1,iT (fun _=>43) 1⟩
def Br:ByteArray:=⟨#[92,43]⟩
def Ch:ByteArray:=⟨#[80,76,85,83]⟩
theorem zor:nZ Br QM:=⟨⟨rfl,by decide +kernel⟩,by kernel_rfl,by decide +kernel⟩
theorem zos:nB (fB QM 0)<=2:=by decide +kernel
theorem zk6{e:Ending}(h:IN [⟨Ch,0,Br⟩] w e w'):e=.returned (.tuple #[.int .i64 1,.int .i64 0])/\Below w.heap.size w w':=by
 refine⟨?_,h.1⟩;rcases h.2 with ⟨h1,_⟩|⟨i,hi,er,hne,_,hr,_⟩|⟨_,_,rfl⟩
 ·simp at h1
 ·exfalso;obtain rfl:i=0:=by simpa using hi
  exact hne (zk5 (t:=QM) hr (show bW Ch=true by decide +kernel) (fun y hy=>by simp at hy) (show lD 0=true by decide) zor zos (fun hh=>by have:=(znk 43 (by omega) []).1 hh;simp at this))
 rfl
theorem znl(hz:n+5<=W.heap.size)(g0:W.heap[n]?=some (.cells #[.string ⟨#[80,76,85,83]⟩,.int .i64 0,.string ⟨#[92,43]⟩] 55 (0,0)))(g1:W.heap[n+1]?=some (.cells #[.string ⟨#[69]⟩] 9 (0,0)))
  (g2:W.heap[n+2]?=some (.cells #[.bool true,.int .i64 0,.bool false,.int .i64 0,.bool true,.int .i64 0] 38 (0,0))) (g3:W.heap[n+3]?=some (.cells #[.int .i64 0,.int .i64 0] 3 (0,0)))
  (g4:W.heap[n+4]?=some (.cells #[.int .i64 0,.string ⟨#[65,100,100]⟩,.slice (some ⟨n+2,0,none⟩) 3 3,.bool false,.int .i64 (-1),.slice (some ⟨n+3,0,none⟩) 2 2] 47 (0,0))):(fP n).At W:=by
 refine⟨fun _=>⟨n,0,rfl,by omega,fun j hj=>?_⟩,fun _=>⟨n+1,0,rfl,by omega,fun j hj=>?_⟩,fun _=>⟨n+4,0,rfl,by omega,fun i hi=>?_⟩,fun h=>absurd h (by show ¬0<0;omega)⟩
 ·have h3:j<3:=hj;rw[cell_of_row W _ _ _ _ _ g0];rcases (by omega:j=0\/j=1\/j=2) with rfl|rfl|rfl <;> rfl
 ·obtain rfl:j=0:=by have:j<1:=hj;omega
  rw[cell_of_row W _ _ _ _ _ g1];rfl
 obtain rfl:i=0:=by have:i<1:=hi;omega
 refine⟨⟨fun _=>⟨n+2,0,rfl,by omega,fun i hi j hj=>?_⟩,fun _=>⟨n+3,0,rfl,by omega,fun j hj=>?_⟩⟩,fun j hj=>?_⟩
 ·have h3:i<3:=hi;rw[cell_of_row W _ _ _ _ _ g2];rcases (by omega:i=0\/i=1\/i=2) with rfl|rfl|rfl <;> rcases (by omega:j=0\/j=1) with rfl|rfl <;> rfl
 ·have h3:j<2:=hj;rw[cell_of_row W _ _ _ _ _ g3];rcases (by omega:j=0\/j=1) with rfl|rfl <;> rfl
 rw[cell_of_row W _ _ _ _ _ g4];rcases (by omega:j=0\/j=1\/j=2\/j=3\/j=4\/j=5) with rfl|rfl|rfl|rfl|rfl|rfl <;> rfl
theorem zgh(w:World):Calls prog 7 #[] w (zo w):=by
 obtain⟨n,hn⟩:∃n,w.heap.size=n:=⟨_,rfl⟩
 obtain⟨W1,h1⟩:∃W1,w.alloc (.cells #[.string ⟨#[80,76,85,83]⟩,.int .i64 0,.string ⟨#[92,43]⟩] 55)=W1:=⟨_,rfl⟩
 have k1:=al w (.cells #[.string ⟨#[80,76,85,83]⟩,.int .i64 0,.string ⟨#[92,43]⟩] 55);have g1:=heap_alloc_new w (.cells #[.string ⟨#[80,76,85,83]⟩,.int .i64 0,.string ⟨#[92,43]⟩] 55);have z1:W1.heap.size=n+1:=by rw[<-h1];simp[hn]
 rw[h1] at k1 g1;rw[hn] at g1 k1;obtain⟨W2,h2⟩:∃W2,W1.alloc (.cells #[.string ⟨#[69]⟩] 9)=W2:=⟨_,rfl⟩
 have k2:=al W1 (.cells #[.string ⟨#[69]⟩] 9);have g2:=heap_alloc_new W1 (.cells #[.string ⟨#[69]⟩] 9);have z2:W2.heap.size=n+2:=by rw[<-h2];simp[z1]
 rw[h2] at k2 g2;rw[z1] at g2 k2;obtain⟨W3,h3⟩:∃W3,W2.alloc (.cells #[.bool true,.int .i64 0,.bool false,.int .i64 0,.bool true,.int .i64 0] 38)=W3:=⟨_,rfl⟩
 have k3:=al W2 (.cells #[.bool true,.int .i64 0,.bool false,.int .i64 0,.bool true,.int .i64 0] 38);have g3:=heap_alloc_new W2 (.cells #[.bool true,.int .i64 0,.bool false,.int .i64 0,.bool true,.int .i64 0] 38);have z3:W3.heap.size=n+3:=by rw[<-h3];simp[z2]
 rw[h3] at k3 g3;rw[z2] at g3 k3;obtain⟨W4,h4⟩:∃W4,W3.alloc (.cells #[.int .i64 0,.int .i64 0] 3)=W4:=⟨_,rfl⟩
 have k4:=al W3 (.cells #[.int .i64 0,.int .i64 0] 3);have g4:=heap_alloc_new W3 (.cells #[.int .i64 0,.int .i64 0] 3);have z4:W4.heap.size=n+4:=by rw[<-h4];simp[z3]
 rw[h4] at k4 g4;rw[z3] at g4 k4;obtain⟨W5,h5⟩:∃W5,W4.alloc (.cells #[.int .i64 0,.string ⟨#[65,100,100]⟩,.slice (some ⟨n+1+1,0,none⟩) 3 3,.bool false,.int .i64 (-1),.slice (some ⟨n+1+1+1,0,none⟩) 2 2] 47)=W5:=⟨_,rfl⟩
 have k5:=al W4 (.cells #[.int .i64 0,.string ⟨#[65,100,100]⟩,.slice (some ⟨n+1+1,0,none⟩) 3 3,.bool false,.int .i64 (-1),.slice (some ⟨n+1+1+1,0,none⟩) 2 2] 47);have g5:=heap_alloc_new W4 (.cells #[.int .i64 0,.string ⟨#[65,100,100]⟩,.slice (some ⟨n+1+1,0,none⟩) 3 3,.bool false,.int .i64 (-1),.slice (some ⟨n+1+1+1,0,none⟩) 2 2] 47);have z5:W5.heap.size=n+5:=by rw[<-h5];simp[z4]
 rw[h5] at k5 g5;rw[z4] at g5 k5;obtain⟨W6,h6⟩:∃W6,W5.alloc (.cells #[.slice (some ⟨n,0,none⟩) 1 1,.slice (some ⟨n+1,0,none⟩) 1 1,.slice (some ⟨n+1+1+1+1,0,none⟩) 1 1,.slice none 0 0,.int .i64 0] 27)=W6:=⟨_,rfl⟩
 have k6:=al W5 (.cells #[.slice (some ⟨n,0,none⟩) 1 1,.slice (some ⟨n+1,0,none⟩) 1 1,.slice (some ⟨n+1+1+1+1,0,none⟩) 1 1,.slice none 0 0,.int .i64 0] 27);have g6:=heap_alloc_new W5 (.cells #[.slice (some ⟨n,0,none⟩) 1 1,.slice (some ⟨n+1,0,none⟩) 1 1,.slice (some ⟨n+1+1+1+1,0,none⟩) 1 1,.slice none 0 0,.int .i64 0] 27);have z6:W6.heap.size=n+6:=by rw[<-h6];simp[z5]
 rw[h6] at k6 g6;rw[z5] at g6 k6;have e2:W6.heap[n+1]?=_:=(k6.block _ (by omega)).trans ((k5.block _ (by omega)).trans ((k4.block _ (by omega)).trans ((k3.block _ (by omega)).trans g2)));have e1:W6.heap[n]?=_:=(k6.block _ (by omega)).trans ((k5.block _ (by omega)).trans ((k4.block _ (by omega)).trans ((k3.block _ (by omega)).trans ((k2.block _ (by omega)).trans g1))));have e3:W6.heap[n+2]?=_:=(k6.block _ (by omega)).trans ((k5.block _ (by omega)).trans ((k4.block _ (by omega)).trans g3));have e4:W6.heap[n+3]?=_:=(k6.block _ (by omega)).trans ((k5.block _ (by omega)).trans g4);have e5:W6.heap[n+4]?=_:=(k6.block _ (by omega)).trans g5;have HA:=hid (znl (by omega) e1 e2 e3 e4 e5);have HG:Hid (eU W6 (n+5) (fP n)):=⟨by rw[cell_of_row W6 _ _ _ _ _ g6];rfl,by rw[cell_of_row W6 _ _ _ _ _ g6];rfl,by rw[cell_of_row W6 _ _ _ _ _ g6];rfl,by rw[cell_of_row W6 _ _ _ _ _ g6];rfl,by rw[cell_of_row W6 _ _ _ _ _ g6];rfl,by omega⟩
 have HB:Hid (Below n w W6):=(((((k1.trans (k2.mono (by omega))).trans (k3.mono (by omega))).trans (k4.mono (by omega))).trans (k5.mono (by omega))).trans (k6.mono (by omega)))
 have Hh:=hid (Zz h1 (Zz h2 (Zz h3 (Zz h4 (Zz h5 h6)))));have Hn:=hid hn;have Hz:=hid z6;clear k1 k2 k3 k4 k5 k6 g1 g2 g3 g4 g5 g6 z1 z2 z3 z4 z5 z6 e1 e2 e3 e4 e5 h1 h2 h3 h4 h5 h6 hn;go_enter func7,ntmps7;go_upto_region 2 with fail;rw[Hn.out,Hh.out.1,Hh.out.2.1,Hh.out.2.2.1,Hh.out.2.2.2.1,Hh.out.2.2.2.2.1,Hh.out.2.2.2.2.2];have Bw:Hid (Calls prog 19 #[.agg #[.slice (some ⟨n,0,none⟩) 1 1,.slice (some ⟨n+1,0,none⟩) 1 1,.slice (some ⟨n+1+1+1+1,0,none⟩) 1 1,.slice none 0 0,.int .i64 0],.int .i64 0] W6 (iP ⟨#[69,46,65,100,100,32,61,32,69,32,80,76,85,83,32,69]⟩ W6)):=by
  have h9:=WT (fP n) 0 W6 HA.out (U2 n);rw[zjf] at h9;exact h9
 have IC:Hid (∀W,Below W6.heap.size W6 W->Calls prog 9 #[.agg #[.slice (some ⟨n,0,none⟩) 1 1,.slice (some ⟨n+1,0,none⟩) 1 1,.slice (some ⟨n+1+1+1+1,0,none⟩) 1 1,.slice none 0 0,.int .i64 0]] W (fun e w'=>e=.returned (.agg #[.int .i64 0,.int .i64 0,.int .i64 0])/\Below W.heap.size W w')):=fun W kW=>by
  refine (zgj (fun i er=>i=1/\er=0) (fP n) W (HA.out.below kW) ((U2 n).lim (by omega)) (fun W' k'=>?_)).mono ?_
  ·refine (ziP 1 1 (some ⟨n,0,none⟩) [⟨Ch,0,Br⟩] rfl (by omega) (le_refl _) (fun j hj=>?_) W' ((HA.out.below kW).below k').r).mono ?_
   ·obtain rfl:j=0:=(by have:j<1:=hj;omega);exact⟨show 4<=maxLen by unfold maxLen;omega,show 2<=1600 by omega⟩
   intro e w' h;obtain⟨h1,h2⟩:=zk6 h;exact⟨1,0,h1,⟨rfl,rfl⟩,h2⟩
  rintro e w' ⟨i,er,⟨rfl,rfl⟩,rfl,hb⟩;rw[show mK (fP n) 1 0=(0,0,0) by rw[<-zk4 n];exact if_neg (by simp)];exact⟨rfl,hb⟩
 have HD:Hid (∀W,Below W6.heap.size W6 W->W.cell? ⟨n+1+1+1+1+1,0,none⟩=some (.slice (some ⟨n,0,none⟩) 1 1)/\W.cell? ⟨n+1+1+1+1+1,1,none⟩=some (.slice (some ⟨n+1,0,none⟩) 1 1)/\W.cell? ⟨n+1+1+1+1+1,2,none⟩=some (.slice (some ⟨n+1+1+1+1,0,none⟩) 1 1)/\W.cell? ⟨n+1+1+1+1+1,3,none⟩=some (.slice none 0 0)/\W.cell? ⟨n+1+1+1+1+1,4,none⟩=some (.int .i64 0)):=fun W k=>by
  have h9:=HG.out.below k;exact⟨h9.c0,h9.c1,h9.c2,h9.c3,h9.c4⟩
 obtain⟨c0,c1,c2,c3,c4⟩:=HD.out W6 (Below.refl _ _);go_wp2_with (go_at_call 19;refine Bw.out.mono ?_;rintro e w7 ⟨rfl,b7⟩;refine Hid.out ?_);refine hid ?_;have xN:=hid b7;clear c0 c1 c2 c3 c4 Bw b7;obtain⟨c0,c1,c2,c3,c4⟩:=HD.out w7 xN.out;have L0:=hid (IC.out w7 xN.out);go_wp2_with (go_at_call 9;refine L0.out.mono ?_;rintro e w8 ⟨rfl,b8⟩);go_ret;refine⟨rfl,?_⟩;rw[Hn.out];exact HB.out.trans ((xN.out.mono (by have:=Hz.out;omega)).trans (b8.mono (by have:=xN.out.size;have:=Hz.out;omega)))
theorem zjg(s:ByteArray)(h:s.size<=100000)(w:World):Calls prog 44 #[.string s] w fun e w'=>e=.returned (.string s)/\Below w.heap.size w w':=by
 have HC:=hid (Tryz.stringslite_Clone s w (by omega));go_enter func44,ntmps44;go_wp2_with (go_at_call 65;refine HC.out.mono ?_;rintro e w2 ⟨rfl,b2⟩);go_ret;exact⟨rfl,b2⟩
theorem zh9(G:Gr)(x:Sy)(w:World)(hA:G.At w)(hF:fI G):
  Calls prog 16 #[G.val,.agg (de x).toArray] w (iP (gK G x) w):=by
 show Calls prog 16 #[.agg #[.slice G.aR G.R.length G.cR,.slice G.aS G.S.length G.cS,.slice G.aP G.P.length G.cP,.slice G.aL G.L.length G.cL,.int .i64 G.st],.agg #[.bool x.s,.int .i64 x.n]] w _;have jL:Hid (∀W,Below w.heap.size w W->Calls prog 45 #[.agg #[.slice G.aR G.R.length G.cR,.slice G.aS G.S.length G.cS,.slice G.aP G.P.length G.cP,.slice G.aL G.L.length G.cL,.int .i64 G.st],.agg #[.bool x.s,.int .i64 x.n]] W (iP (gK G x) W)):=fun W k=>Sc G x W (hA.below k) (hF.lim (by omega))
 have HC:Hid (∀W,Calls prog 44 #[.string (gK G x)] W (iP (gK G x) W)):=fun W=>zjg _ (by have:=ES hF x;omega) W
 clear hA hF;obtain⟨w2,bD⟩:∃w2,((w.alloc (.cells #[.slice G.aR G.R.length G.cR,.slice G.aS G.S.length G.cS,.slice G.aP G.P.length G.cP,.slice G.aL G.L.length G.cL,.int .i64 G.st] 27)).alloc (.cells #[.bool x.s,.int .i64 x.n] 38))=w2:=⟨_,rfl⟩
 have H:Hid (eU w2 w.heap.size G/\kJ w2 (w.heap.size+1) x/\Below w.heap.size w w2):=by
  rw[<-bD];have k0:=al w (.cells #[.slice G.aR G.R.length G.cR,.slice G.aS G.S.length G.cS,.slice G.aP G.P.length G.cP,.slice G.aL G.L.length G.cL,.int .i64 G.st] 27);have k1:=al (w.alloc (.cells #[.slice G.aR G.R.length G.cR,.slice G.aS G.S.length G.cS,.slice G.aP G.P.length G.cP,.slice G.aL G.L.length G.cL,.int .i64 G.st] 27)) (.cells #[.bool x.s,.int .i64 x.n] 38);exact⟨((eU.new w G 27).below k1),(by have h9:=(kJ.new (w.alloc (.cells #[.slice G.aR G.R.length G.cR,.slice G.aS G.S.length G.cS,.slice G.aP G.P.length G.cP,.slice G.aL G.L.length G.cL,.int .i64 G.st] 27)) x 38);simpa using h9),(k0.trans (k1.mono k0.size))⟩
 have iL:Hid (w2.heap.size=w.heap.size+2):=by show _=_;rw[<-bD];simp
 go_enter func16,ntmps16;go_upto_region 1 with fail
 try rw[bD]
 clear bD;have HB:=hid H.out.2.2;have jO:=hid (jL.out w2 HB.out);have c0:=H.out.1.c0;have c1:=H.out.1.c1;have c2:=H.out.1.c2;have c3:=H.out.1.c3;have c4:=H.out.1.c4;have s0:=H.out.2.1.c0;have s1:=H.out.2.1.c1;clear H iL jL;go_wp2_with (go_at_call 45;refine jO.out.mono ?_;rintro e w3 ⟨rfl,b3⟩;refine Hid.out ?_);refine hid ?_;have py:=hid (HB.out.trans (b3.mono HB.out.size));have A3:=hid (HC.out w3);clear c0 c1 c2 c3 c4 s0 s1 jO b3 HC;go_wp2_with (go_at_call 44;refine A3.out.mono ?_;rintro e w4 ⟨rfl,b4⟩);go_ret;exact⟨rfl,py.out.trans (b4.mono py.out.size)⟩
end Go.Proofs.YtiijebameffenaaGreat
