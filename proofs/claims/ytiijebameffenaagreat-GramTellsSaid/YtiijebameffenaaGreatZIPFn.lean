import Derived.Test.YtiijebameffenaaGreatZGMath
import Derived.Test.YtiijebameffenaaGreatZTk
import Derived.Laws.ResultCell
set_option linter.all false
set_option maxHeartbeats 4000000
set_option maxRecDepth 100000
open Go.Lib (hid)
namespace Go.Proofs.YtiijebameffenaaGreat
open Go.RowKit Go.Maps Go.WideElems Go.ChangeMaps Go.MapKept Go.Proofs.Tryz
open Act (put)
open Nat (zero_le)
variable {G:Gr}{i k:Nat}{m n r t:Int}{w w' wr:World}
def wY(z:Int)(w:World)(e:Ending)(w':World):Prop:=e=.returned (.int .i64 z)/\Below w.heap.size w w'
def lh(w:World)(b:Nat)(G:Gr)(wr:World):Prop:=eU wr b G/\Below w.heap.size w wr
theorem lh.aa{b:Nat}(h:lh w b G wr)(k:Below wr.heap.size wr w'):lh w b G w':=⟨h.1.below k,h.2.trans (k.mono h.2.size)⟩
theorem zph(h:bW (qc G i)=false):ju G i=8:=by simp[ju,h]
theorem XM(h:bW (qc G i)=true)(h1:(∃k,k<i/\qc G k=qc G i)\/∃k,k<G.R.length/\(zZ G k).nm=qc G i):ju G i=9:=by
 unfold ju;rw[if_neg (by simp[h])];split
 ·rfl
 rename_i h2;rw[if_pos (h1.resolve_left h2)]
theorem Vr(h:bW (qc G i)=true)(h1:∀k,k<i->qc G k≠qc G i)(h2:∀k,k<G.R.length->(zZ G k).nm≠qc G i):ju G i=0:=by
 unfold ju;rw[if_neg (by simp[h]),if_neg (fun ⟨k,h3,h4⟩=>h1 k h3 h4),if_neg (fun ⟨k,h3,h4⟩=>h2 k h3 h4)]
def jk(p:Prop)(w:World)(e:Ending)(w':World):Prop:=∃b,(b=true↔p)/\px b w e w'
theorem YT{p:iw}(h:p.body.length≠3):ek p=false:=by
 unfold ek;split
 ·rename_i e;rw[e] at h;exact absurd rfl h
 rfl
theorem SC{p:iw}(h:p.body.length=3):ek p=(!(p.body[0].s) && p.body[1].s && p.body[1].n == p.bB && !(p.body[2].s)):=by
 obtain⟨r,s,a,c,B,b,q,ah,ch,hs⟩:=p;simp only at h
 match B,h with
 | [x,y,z],_=>rfl
theorem zgk(p:iw)(w:World)(hA:p.At w)(hl:p.body.length<=9223372036854775807):
  Calls prog 21 #[p.val] w (px (ek p) w):=by
 show Calls prog 21 #[.agg #[.int .i64 p.bB,.string p.cZ,.slice p.ab p.body.length p.cb,.bool p.par,.int .i64 p.prec,.slice p.ah p.hints.length p.ch]] w _;have HA:=hid hA;clear hA;obtain⟨w2,bD⟩:∃w2,(w.alloc (.cells #[.int .i64 p.bB,.string p.cZ,.slice p.ab p.body.length p.cb,.bool p.par,.int .i64 p.prec,.slice p.ah p.hints.length p.ch] 47))=w2:=⟨_,rfl⟩
 have H:Hid (nW w2 w.heap.size p/\Below w.heap.size w w2):=by
  rw[<-bD];have k0:=al w (.cells #[.int .i64 p.bB,.string p.cZ,.slice p.ab p.body.length p.cb,.bool p.par,.int .i64 p.prec,.slice p.ah p.hints.length p.ch] 47);exact⟨(nW.new w p 47),k0⟩
 go_enter func21,ntmps21;go_upto_region 1 with fail
 try rw[bD]
 clear bD;have HB:=hid H.out.2;have c0:=H.out.1.c0;have c2:=H.out.1.c2;have uO:Below w.heap.size w w2.drew:=HB.out.drew;by_cases h3:p.body.length=3
 ·have HE:=hid (SC h3);have k0:0<p.body.length:=by omega
  have k1:1<p.body.length:=by omega
  have k2:2<p.body.length:=by omega
  obtain⟨g,o,e,q0,x0,x1⟩:=(HA.out.b.below HB.out).get 0 k0;obtain⟨g',o',e',q1,y0,y1⟩:=(HA.out.b.below HB.out).get 1 k1;obtain⟨ZQ,o'',yG,q2,z0,z1⟩:=(HA.out.b.below HB.out).get 2 k2;clear x1 z1 q0 q1 q2;rw[e] at e' yG;injection e' with e';injection e' with e1 e2;injection yG with yG;injection yG with e3 e4;subst e1 e2 e3 e4;rw[Nat.zero_mul,Nat.add_zero] at x0;rw[h3,e] at c2;have X0:w2.drew.cell? ⟨w.heap.size,0,none⟩=some (.int .i64 p.bB):=c0;have X2:w2.drew.cell? ⟨w.heap.size,2,none⟩=some (.slice (some ⟨g,o,none⟩) 3 p.cb):=c2;have Y0:w2.drew.cell? ⟨g,o,none⟩=some (.bool p.body[0].s):=x0;have Y1:w2.drew.cell? ⟨g,o+1*2,none⟩=some (.bool p.body[1].s):=y0;have Y2:w2.drew.cell? ⟨g,o+1*2+1,none⟩=some (.int .i64 p.body[1].n):=y1;have Y3:w2.drew.cell? ⟨g,o+2*2,none⟩=some (.bool p.body[2].s):=z0;generalize p.body[0].s=a0 at x0 Y0 HE;generalize p.body[1].s=b0 at y0 Y1 HE;generalize p.body[1].n=bn at y1 Y2 HE;generalize p.body[2].s=d0 at z0 Y3 HE;clear k0 k1 k2 hl c0 c2 x0 y0 y1 z0 H HA e h3;cases a0 with
  | true=>
   refine wp_region_held_drew (S:=fun W'=>W'=w2.drew) (by kernel_rfl) rfl (fun hHeld=>?_);generalize w2.drew=w9 at *;refine ag 0 ?_ (hy:=by intro wz hSw;subst hSw;(try simp only[put,sA,sB,sC]);go_simp;first|done|with_reducible rfl)
   try simp only[put,sA,sB,sC]
   refine ag 1 ?_ (hy:=by intro wz hSw;subst hSw;(try simp only[put,sA,sB,sC]);go_simp;first|done|with_reducible rfl)
   try simp only[put,sA,sB,sC]
   refine ag 2 ?_ (hy:=by intro wz hSw;subst hSw;(try simp only[put,sA,sB,sC]);go_simp;first|done|with_reducible rfl)
   try simp only[put,sA,sB,sC]
   refine ag 3 (v:=.bool true) ?_ (hy:=by intro wz hSw;subst hSw;(try simp only[put,sA,sB,sC]);go_simp;first|done|with_reducible rfl)
   try simp only[put,sA,sB,sC]
   refine ag 4 ?_ (hy:=by intro wz hSw;subst hSw;(try simp only[put,sA,sB,sC]);go_simp;first|done|with_reducible rfl)
   try simp only[put,sA,sB,sC]
   refine ag 5 ?_ (hy:=by intro wz hSw;subst hSw;(try simp only[put,sA,sB,sC]);go_simp;first|done|with_reducible rfl)
   try simp only[put,sA,sB,sC]
   refine ag 6 ?_ (hy:=by intro wz hSw;subst hSw;(try simp only[put,sA,sB,sC]);go_simp;first|done|with_reducible rfl)
   try simp only[put,sA,sB,sC]
   refine ag 7 ?_ (hy:=by intro wz hSw;subst hSw;(try simp only[put,sA,sB,sC]);go_simp;first|done|with_reducible rfl)
   try simp only[put,sA,sB,sC]
   refine ag 8 ?_ (hy:=by intro wz hSw;subst hSw;(try simp only[put,sA,sB,sC]);go_simp;first|done|with_reducible rfl)
   try simp only[put,sA,sB,sC]
   refine ag 9 ?_ (hy:=by intro wz hSw;subst hSw;(try simp only[put,sA,sB,sC]);go_simp;first|done|with_reducible rfl)
   try simp only[put,sA,sB,sC]
   refine ag 10 ?_ (hy:=by intro wz hSw;subst hSw;(try simp only[put,sA,sB,sC]);go_simp;first|done|with_reducible rfl)
   try simp only[put,sA,sB,sC]
   refine ag 11 ?_ (hy:=by intro wz hSw;subst hSw;(try simp only[put,sA,sB,sC]);go_simp;first|done|with_reducible rfl)
   try simp only[put,sA,sB,sC]
   refine ag 12 ?_ (hy:=by intro wz hSw;subst hSw;(try simp only[put,sA,sB,sC]);go_simp;first|done|with_reducible rfl)
   try simp only[put,sA,sB,sC]
   refine bF 13 ?_
   try simp only[put,sA,sB,sC]
   refine bF 14 ?_
   try simp only[put,sA,sB,sC]
   refine bF 15 ?_
   try simp only[put,sA,sB,sC]
   refine bF 16 ?_
   try simp only[put,sA,sB,sC]
   refine bF 17 ?_
   try simp only[put,sA,sB,sC]
   refine ag 18 ?_ (hy:=by intro wz hSw;subst hSw;(try simp only[put,sA,sB,sC]);go_simp;first|done|with_reducible rfl)
   try simp only[put,sA,sB,sC]
   refine ag 19 ?_ (hy:=by intro wz hSw;subst hSw;(try simp only[put,sA,sB,sC]);go_simp;first|done|with_reducible rfl)
   try simp only[put,sA,sB,sC]
   refine bF 20 ?_
   try simp only[put,sA,sB,sC]
   refine bF 21 ?_
   try simp only[put,sA,sB,sC]
   refine bF 22 ?_
   try simp only[put,sA,sB,sC]
   refine bF 23 ?_
   try simp only[put,sA,sB,sC]
   refine bF 24 ?_
   try simp only[put,sA,sB,sC]
   refine bF 25 ?_
   try simp only[put,sA,sB,sC]
   refine bF 26 ?_
   try simp only[put,sA,sB,sC]
   refine bF 27 ?_
   try simp only[put,sA,sB,sC]
   refine ag 28 ?_ (hy:=by intro wz hSw;subst hSw;(try simp only[put,sA,sB,sC]);go_simp;first|done|with_reducible rfl)
   try simp only[put,sA,sB,sC]
   refine ag 29 ?_ (hy:=by intro wz hSw;subst hSw;(try simp only[put,sA,sB,sC]);go_simp;first|done|with_reducible rfl)
   try simp only[put,sA,sB,sC]
   refine bF 30 ?_
   try simp only[put,sA,sB,sC]
   refine bF 31 ?_
   try simp only[put,sA,sB,sC]
   refine bF 32 ?_
   try simp only[put,sA,sB,sC]
   refine bF 33 ?_
   try simp only[put,sA,sB,sC]
   refine bF 34 ?_
   try simp only[put,sA,sB,sC]
   refine bF 35 ?_
   try simp only[put,sA,sB,sC]
   refine ag 36 ?_ (hy:=by intro wz hSw;subst hSw;(try simp only[put,sA,sB,sC]);go_simp;first|done|with_reducible rfl)
   try simp only[put,sA,sB,sC]
   refine ag 37 ?_ (hy:=by intro wz hSw;subst hSw;(try simp only[put,sA,sB,sC]);go_simp;first|done|with_reducible rfl)
   try simp only[put,sA,sB,sC]
   refine wpAnyH_done (by kernel_rfl) ?_ _;go_wp2;go_ret;exact⟨by rw[HE.out];rfl,uO⟩
  | false=>
   cases b0 with
   | false=>
    refine wp_region_held_drew (S:=fun W'=>W'=w2.drew) (by kernel_rfl) rfl (fun hHeld=>?_);generalize w2.drew=w9 at *;refine ag 0 ?_ (hy:=by intro wz hSw;subst hSw;(try simp only[put,sA,sB,sC]);go_simp;first|done|with_reducible rfl)
    try simp only[put,sA,sB,sC]
    refine ag 1 ?_ (hy:=by intro wz hSw;subst hSw;(try simp only[put,sA,sB,sC]);go_simp;first|done|with_reducible rfl)
    try simp only[put,sA,sB,sC]
    refine ag 2 ?_ (hy:=by intro wz hSw;subst hSw;(try simp only[put,sA,sB,sC]);go_simp;first|done|with_reducible rfl)
    try simp only[put,sA,sB,sC]
    refine ag 3 (v:=.bool true) ?_ (hy:=by intro wz hSw;subst hSw;(try simp only[put,sA,sB,sC]);go_simp;first|done|with_reducible rfl)
    try simp only[put,sA,sB,sC]
    refine ag 4 ?_ (hy:=by intro wz hSw;subst hSw;(try simp only[put,sA,sB,sC]);go_simp;first|done|with_reducible rfl)
    try simp only[put,sA,sB,sC]
    refine ag 5 ?_ (hy:=by intro wz hSw;subst hSw;(try simp only[put,sA,sB,sC]);go_simp;first|done|with_reducible rfl)
    try simp only[put,sA,sB,sC]
    refine ag 6 ?_ (hy:=by intro wz hSw;subst hSw;(try simp only[put,sA,sB,sC]);go_simp;first|done|with_reducible rfl)
    try simp only[put,sA,sB,sC]
    refine ag 7 ?_ (hy:=by intro wz hSw;subst hSw;(try simp only[put,sA,sB,sC]);go_simp;first|done|with_reducible rfl)
    try simp only[put,sA,sB,sC]
    refine ag 8 ?_ (hy:=by intro wz hSw;subst hSw;(try simp only[put,sA,sB,sC]);go_simp;first|done|with_reducible rfl)
    try simp only[put,sA,sB,sC]
    refine ag 9 ?_ (hy:=by intro wz hSw;subst hSw;(try simp only[put,sA,sB,sC]);go_simp;first|done|with_reducible rfl)
    try simp only[put,sA,sB,sC]
    refine ag 10 ?_ (hy:=by intro wz hSw;subst hSw;(try simp only[put,sA,sB,sC]);go_simp;first|done|with_reducible rfl)
    try simp only[put,sA,sB,sC]
    refine ag 11 ?_ (hy:=by intro wz hSw;subst hSw;(try simp only[put,sA,sB,sC]);go_simp;first|done|with_reducible rfl)
    try simp only[put,sA,sB,sC]
    refine ag 12 ?_ (hy:=by intro wz hSw;subst hSw;(try simp only[put,sA,sB,sC]);go_simp;first|done|with_reducible rfl)
    try simp only[put,sA,sB,sC]
    refine ag 13 ?_ (hy:=by intro wz hSw;subst hSw;(try simp only[put,sA,sB,sC]);go_simp;first|done|with_reducible rfl)
    try simp only[put,sA,sB,sC]
    refine ag 14 ?_ (hy:=by intro wz hSw;subst hSw;(try simp only[put,sA,sB,sC]);go_simp;first|done|with_reducible rfl)
    try simp only[put,sA,sB,sC]
    refine ag 15 ?_ (hy:=by intro wz hSw;subst hSw;(try simp only[put,sA,sB,sC]);go_simp;first|done|with_reducible rfl)
    try simp only[put,sA,sB,sC]
    refine ag 16 ?_ (hy:=by intro wz hSw;subst hSw;(try simp only[put,sA,sB,sC]);go_simp;first|done|with_reducible rfl)
    try simp only[put,sA,sB,sC]
    refine ag 17 ?_ (hy:=by intro wz hSw;subst hSw;(try simp only[put,sA,sB,sC]);go_simp;first|done|with_reducible rfl)
    try simp only[put,sA,sB,sC]
    refine ag 18 ?_ (hy:=by intro wz hSw;subst hSw;(try simp only[put,sA,sB,sC]);go_simp;first|done|with_reducible rfl)
    try simp only[put,sA,sB,sC]
    refine ag 19 ?_ (hy:=by intro wz hSw;subst hSw;(try simp only[put,sA,sB,sC]);go_simp;first|done|with_reducible rfl)
    try simp only[put,sA,sB,sC]
    refine bF 20 ?_
    try simp only[put,sA,sB,sC]
    refine bF 21 ?_
    try simp only[put,sA,sB,sC]
    refine bF 22 ?_
    try simp only[put,sA,sB,sC]
    refine bF 23 ?_
    try simp only[put,sA,sB,sC]
    refine bF 24 ?_
    try simp only[put,sA,sB,sC]
    refine bF 25 ?_
    try simp only[put,sA,sB,sC]
    refine bF 26 ?_
    try simp only[put,sA,sB,sC]
    refine bF 27 ?_
    try simp only[put,sA,sB,sC]
    refine ag 28 ?_ (hy:=by intro wz hSw;subst hSw;(try simp only[put,sA,sB,sC]);go_simp;first|done|with_reducible rfl)
    try simp only[put,sA,sB,sC]
    refine ag 29 ?_ (hy:=by intro wz hSw;subst hSw;(try simp only[put,sA,sB,sC]);go_simp;first|done|with_reducible rfl)
    try simp only[put,sA,sB,sC]
    refine bF 30 ?_
    try simp only[put,sA,sB,sC]
    refine bF 31 ?_
    try simp only[put,sA,sB,sC]
    refine bF 32 ?_
    try simp only[put,sA,sB,sC]
    refine bF 33 ?_
    try simp only[put,sA,sB,sC]
    refine bF 34 ?_
    try simp only[put,sA,sB,sC]
    refine bF 35 ?_
    try simp only[put,sA,sB,sC]
    refine ag 36 ?_ (hy:=by intro wz hSw;subst hSw;(try simp only[put,sA,sB,sC]);go_simp;first|done|with_reducible rfl)
    try simp only[put,sA,sB,sC]
    refine ag 37 ?_ (hy:=by intro wz hSw;subst hSw;(try simp only[put,sA,sB,sC]);go_simp;first|done|with_reducible rfl)
    try simp only[put,sA,sB,sC]
    refine wpAnyH_done (by kernel_rfl) ?_ _;go_wp2;go_ret;exact⟨by rw[HE.out];rfl,uO⟩
   | true=>
    by_cases aW:bn=p.bB
    ·have j9:(bn == p.bB)=true:=(by simp[aW]);refine wp_region_held_drew (S:=fun W'=>W'=w2.drew) (by kernel_rfl) rfl (fun hHeld=>?_);generalize w2.drew=w9 at *;refine ag 0 ?_ (hy:=by intro wz hSw;subst hSw;(try simp only[put,sA,sB,sC]);go_simp;first|done|with_reducible rfl)
     try simp only[put,sA,sB,sC]
     refine ag 1 ?_ (hy:=by intro wz hSw;subst hSw;(try simp only[put,sA,sB,sC]);go_simp;first|done|with_reducible rfl)
     try simp only[put,sA,sB,sC]
     refine ag 2 ?_ (hy:=by intro wz hSw;subst hSw;(try simp only[put,sA,sB,sC]);go_simp;first|done|with_reducible rfl)
     try simp only[put,sA,sB,sC]
     refine ag 3 (v:=.bool true) ?_ (hy:=by intro wz hSw;subst hSw;(try simp only[put,sA,sB,sC]);go_simp;first|done|with_reducible rfl)
     try simp only[put,sA,sB,sC]
     refine ag 4 ?_ (hy:=by intro wz hSw;subst hSw;(try simp only[put,sA,sB,sC]);go_simp;first|done|with_reducible rfl)
     try simp only[put,sA,sB,sC]
     refine ag 5 ?_ (hy:=by intro wz hSw;subst hSw;(try simp only[put,sA,sB,sC]);go_simp;first|done|with_reducible rfl)
     try simp only[put,sA,sB,sC]
     refine ag 6 ?_ (hy:=by intro wz hSw;subst hSw;(try simp only[put,sA,sB,sC]);go_simp;first|done|with_reducible rfl)
     try simp only[put,sA,sB,sC]
     refine ag 7 ?_ (hy:=by intro wz hSw;subst hSw;(try simp only[put,sA,sB,sC]);go_simp;first|done|with_reducible rfl)
     try simp only[put,sA,sB,sC]
     refine ag 8 ?_ (hy:=by intro wz hSw;subst hSw;(try simp only[put,sA,sB,sC]);go_simp;first|done|with_reducible rfl)
     try simp only[put,sA,sB,sC]
     refine ag 9 ?_ (hy:=by intro wz hSw;subst hSw;(try simp only[put,sA,sB,sC]);go_simp;first|done|with_reducible rfl)
     try simp only[put,sA,sB,sC]
     refine ag 10 ?_ (hy:=by intro wz hSw;subst hSw;(try simp only[put,sA,sB,sC]);go_simp;first|done|with_reducible rfl)
     try simp only[put,sA,sB,sC]
     refine ag 11 ?_ (hy:=by intro wz hSw;subst hSw;(try simp only[put,sA,sB,sC]);go_simp;first|done|with_reducible rfl)
     try simp only[put,sA,sB,sC]
     refine ag 12 ?_ (hy:=by intro wz hSw;subst hSw;(try simp only[put,sA,sB,sC]);go_simp;first|done|with_reducible rfl)
     try simp only[put,sA,sB,sC]
     refine ag 13 ?_ (hy:=by intro wz hSw;subst hSw;(try simp only[put,sA,sB,sC]);go_simp;first|done|with_reducible rfl)
     try simp only[put,sA,sB,sC]
     refine ag 14 ?_ (hy:=by intro wz hSw;subst hSw;(try simp only[put,sA,sB,sC]);go_simp;first|done|with_reducible rfl)
     try simp only[put,sA,sB,sC]
     refine ag 15 ?_ (hy:=by intro wz hSw;subst hSw;(try simp only[put,sA,sB,sC]);go_simp;first|done|with_reducible rfl)
     try simp only[put,sA,sB,sC]
     refine ag 16 ?_ (hy:=by intro wz hSw;subst hSw;(try simp only[put,sA,sB,sC]);go_simp;first|done|with_reducible rfl)
     try simp only[put,sA,sB,sC]
     refine ag 17 ?_ (hy:=by intro wz hSw;subst hSw;(try simp only[put,sA,sB,sC]);go_simp;first|done|with_reducible rfl)
     try simp only[put,sA,sB,sC]
     refine ag 18 ?_ (hy:=by intro wz hSw;subst hSw;(try simp only[put,sA,sB,sC]);go_simp;first|done|with_reducible rfl)
     try simp only[put,sA,sB,sC]
     refine ag 19 ?_ (hy:=by intro wz hSw;subst hSw;(try simp only[put,sA,sB,sC]);go_simp;first|done|with_reducible rfl)
     try simp only[put,sA,sB,sC]
     refine ag 20 ?_ (hy:=by intro wz hSw;subst hSw;(try simp only[put,sA,sB,sC]);go_simp;first|done|with_reducible rfl)
     try simp only[put,sA,sB,sC]
     refine ag 21 ?_ (hy:=by intro wz hSw;subst hSw;(try simp only[put,sA,sB,sC]);go_simp;first|done|with_reducible rfl)
     try simp only[put,sA,sB,sC]
     refine ag 22 ?_ (hy:=by intro wz hSw;subst hSw;(try simp only[put,sA,sB,sC]);go_simp;first|done|with_reducible rfl)
     try simp only[put,sA,sB,sC]
     refine ag 23 ?_ (hy:=by intro wz hSw;subst hSw;(try simp only[put,sA,sB,sC]);go_simp;first|done|with_reducible rfl)
     try simp only[put,sA,sB,sC]
     refine ag 24 ?_ (hy:=by intro wz hSw;subst hSw;(try simp only[put,sA,sB,sC]);go_simp;first|done|with_reducible rfl)
     try simp only[put,sA,sB,sC]
     refine ag 25 ?_ (hy:=by intro wz hSw;subst hSw;(try simp only[put,sA,sB,sC]);go_simp;first|done|with_reducible rfl)
     try simp only[put,sA,sB,sC]
     refine ag 26 ?_ (hy:=by intro wz hSw;subst hSw;(try simp only[put,sA,sB,sC]);go_simp;first|done|with_reducible rfl)
     try simp only[put,sA,sB,sC]
     refine ag 27 (v:=.bool true) ?_ (hy:=by intro wz hSw;subst hSw;(try simp only[put,sA,sB,sC]);go_simp;first|done|with_reducible rfl)
     try simp only[put,sA,sB,sC]
     refine ag 28 ?_ (hy:=by intro wz hSw;subst hSw;(try simp only[put,sA,sB,sC]);go_simp;first|done|with_reducible rfl)
     try simp only[put,sA,sB,sC]
     refine ag 29 ?_ (hy:=by intro wz hSw;subst hSw;(try simp only[put,sA,sB,sC]);go_simp;first|done|with_reducible rfl)
     try simp only[put,sA,sB,sC]
     refine ag 30 ?_ (hy:=by intro wz hSw;subst hSw;(try simp only[put,sA,sB,sC]);go_simp;first|done|with_reducible rfl)
     try simp only[put,sA,sB,sC]
     refine ag 31 ?_ (hy:=by intro wz hSw;subst hSw;(try simp only[put,sA,sB,sC]);go_simp;first|done|with_reducible rfl)
     try simp only[put,sA,sB,sC]
     refine ag 32 ?_ (hy:=by intro wz hSw;subst hSw;(try simp only[put,sA,sB,sC]);go_simp;first|done|with_reducible rfl)
     try simp only[put,sA,sB,sC]
     refine ag 33 ?_ (hy:=by intro wz hSw;subst hSw;(try simp only[put,sA,sB,sC]);go_simp;first|done|with_reducible rfl)
     try simp only[put,sA,sB,sC]
     refine ag 34 ?_ (hy:=by intro wz hSw;subst hSw;(try simp only[put,sA,sB,sC]);go_simp;first|done|with_reducible rfl)
     try simp only[put,sA,sB,sC]
     refine ag 35 ?_ (hy:=by intro wz hSw;subst hSw;(try simp only[put,sA,sB,sC]);go_simp;first|done|with_reducible rfl)
     try simp only[put,sA,sB,sC]
     refine ag 36 ?_ (hy:=by intro wz hSw;subst hSw;(try simp only[put,sA,sB,sC]);go_simp;first|done|with_reducible rfl)
     try simp only[put,sA,sB,sC]
     refine ag 37 ?_ (hy:=by intro wz hSw;subst hSw;(try simp only[put,sA,sB,sC]);go_simp;first|done|with_reducible rfl)
     try simp only[put,sA,sB,sC]
     refine wpAnyH_done (by kernel_rfl) ?_ _;go_wp2;go_ret;exact⟨by rw[HE.out,j9];rfl,uO⟩
    have j9:(bn == p.bB)=false:=(by simp[aW]);refine wp_region_held_drew (S:=fun W'=>W'=w2.drew) (by kernel_rfl) rfl (fun hHeld=>?_);generalize w2.drew=w9 at *;refine ag 0 ?_ (hy:=by intro wz hSw;subst hSw;(try simp only[put,sA,sB,sC]);go_simp;first|done|with_reducible rfl)
    try simp only[put,sA,sB,sC]
    refine ag 1 ?_ (hy:=by intro wz hSw;subst hSw;(try simp only[put,sA,sB,sC]);go_simp;first|done|with_reducible rfl)
    try simp only[put,sA,sB,sC]
    refine ag 2 ?_ (hy:=by intro wz hSw;subst hSw;(try simp only[put,sA,sB,sC]);go_simp;first|done|with_reducible rfl)
    try simp only[put,sA,sB,sC]
    refine ag 3 (v:=.bool true) ?_ (hy:=by intro wz hSw;subst hSw;(try simp only[put,sA,sB,sC]);go_simp;first|done|with_reducible rfl)
    try simp only[put,sA,sB,sC]
    refine ag 4 ?_ (hy:=by intro wz hSw;subst hSw;(try simp only[put,sA,sB,sC]);go_simp;first|done|with_reducible rfl)
    try simp only[put,sA,sB,sC]
    refine ag 5 ?_ (hy:=by intro wz hSw;subst hSw;(try simp only[put,sA,sB,sC]);go_simp;first|done|with_reducible rfl)
    try simp only[put,sA,sB,sC]
    refine ag 6 ?_ (hy:=by intro wz hSw;subst hSw;(try simp only[put,sA,sB,sC]);go_simp;first|done|with_reducible rfl)
    try simp only[put,sA,sB,sC]
    refine ag 7 ?_ (hy:=by intro wz hSw;subst hSw;(try simp only[put,sA,sB,sC]);go_simp;first|done|with_reducible rfl)
    try simp only[put,sA,sB,sC]
    refine ag 8 ?_ (hy:=by intro wz hSw;subst hSw;(try simp only[put,sA,sB,sC]);go_simp;first|done|with_reducible rfl)
    try simp only[put,sA,sB,sC]
    refine ag 9 ?_ (hy:=by intro wz hSw;subst hSw;(try simp only[put,sA,sB,sC]);go_simp;first|done|with_reducible rfl)
    try simp only[put,sA,sB,sC]
    refine ag 10 ?_ (hy:=by intro wz hSw;subst hSw;(try simp only[put,sA,sB,sC]);go_simp;first|done|with_reducible rfl)
    try simp only[put,sA,sB,sC]
    refine ag 11 ?_ (hy:=by intro wz hSw;subst hSw;(try simp only[put,sA,sB,sC]);go_simp;first|done|with_reducible rfl)
    try simp only[put,sA,sB,sC]
    refine ag 12 ?_ (hy:=by intro wz hSw;subst hSw;(try simp only[put,sA,sB,sC]);go_simp;first|done|with_reducible rfl)
    try simp only[put,sA,sB,sC]
    refine ag 13 ?_ (hy:=by intro wz hSw;subst hSw;(try simp only[put,sA,sB,sC]);go_simp;first|done|with_reducible rfl)
    try simp only[put,sA,sB,sC]
    refine ag 14 ?_ (hy:=by intro wz hSw;subst hSw;(try simp only[put,sA,sB,sC]);go_simp;first|done|with_reducible rfl)
    try simp only[put,sA,sB,sC]
    refine ag 15 ?_ (hy:=by intro wz hSw;subst hSw;(try simp only[put,sA,sB,sC]);go_simp;first|done|with_reducible rfl)
    try simp only[put,sA,sB,sC]
    refine ag 16 ?_ (hy:=by intro wz hSw;subst hSw;(try simp only[put,sA,sB,sC]);go_simp;first|done|with_reducible rfl)
    try simp only[put,sA,sB,sC]
    refine ag 17 ?_ (hy:=by intro wz hSw;subst hSw;(try simp only[put,sA,sB,sC]);go_simp;first|done|with_reducible rfl)
    try simp only[put,sA,sB,sC]
    refine ag 18 ?_ (hy:=by intro wz hSw;subst hSw;(try simp only[put,sA,sB,sC]);go_simp;first|done|with_reducible rfl)
    try simp only[put,sA,sB,sC]
    refine ag 19 ?_ (hy:=by intro wz hSw;subst hSw;(try simp only[put,sA,sB,sC]);go_simp;first|done|with_reducible rfl)
    try simp only[put,sA,sB,sC]
    refine ag 20 ?_ (hy:=by intro wz hSw;subst hSw;(try simp only[put,sA,sB,sC]);go_simp;first|done|with_reducible rfl)
    try simp only[put,sA,sB,sC]
    refine ag 21 ?_ (hy:=by intro wz hSw;subst hSw;(try simp only[put,sA,sB,sC]);go_simp;first|done|with_reducible rfl)
    try simp only[put,sA,sB,sC]
    refine ag 22 ?_ (hy:=by intro wz hSw;subst hSw;(try simp only[put,sA,sB,sC]);go_simp;first|done|with_reducible rfl)
    try simp only[put,sA,sB,sC]
    refine ag 23 ?_ (hy:=by intro wz hSw;subst hSw;(try simp only[put,sA,sB,sC]);go_simp;first|done|with_reducible rfl)
    try simp only[put,sA,sB,sC]
    refine ag 24 ?_ (hy:=by intro wz hSw;subst hSw;(try simp only[put,sA,sB,sC]);go_simp;first|done|with_reducible rfl)
    try simp only[put,sA,sB,sC]
    refine ag 25 ?_ (hy:=by intro wz hSw;subst hSw;(try simp only[put,sA,sB,sC]);go_simp;first|done|with_reducible rfl)
    try simp only[put,sA,sB,sC]
    refine ag 26 ?_ (hy:=by intro wz hSw;subst hSw;(try simp only[put,sA,sB,sC]);go_simp;first|done|with_reducible rfl)
    try simp only[put,sA,sB,sC]
    refine ag 27 (v:=.bool false) ?_ (hy:=by intro wz hSw;subst hSw;(try simp only[put,sA,sB,sC]);go_simp;first|done|with_reducible rfl)
    try simp only[put,sA,sB,sC]
    refine ag 28 ?_ (hy:=by intro wz hSw;subst hSw;(try simp only[put,sA,sB,sC]);go_simp;first|done|with_reducible rfl)
    try simp only[put,sA,sB,sC]
    refine ag 29 ?_ (hy:=by intro wz hSw;subst hSw;(try simp only[put,sA,sB,sC]);go_simp;first|done|with_reducible rfl)
    try simp only[put,sA,sB,sC]
    refine bF 30 ?_
    try simp only[put,sA,sB,sC]
    refine bF 31 ?_
    try simp only[put,sA,sB,sC]
    refine bF 32 ?_
    try simp only[put,sA,sB,sC]
    refine bF 33 ?_
    try simp only[put,sA,sB,sC]
    refine bF 34 ?_
    try simp only[put,sA,sB,sC]
    refine bF 35 ?_
    try simp only[put,sA,sB,sC]
    refine ag 36 ?_ (hy:=by intro wz hSw;subst hSw;(try simp only[put,sA,sB,sC]);go_simp;first|done|with_reducible rfl)
    try simp only[put,sA,sB,sC]
    refine ag 37 ?_ (hy:=by intro wz hSw;subst hSw;(try simp only[put,sA,sB,sC]);go_simp;first|done|with_reducible rfl)
    try simp only[put,sA,sB,sC]
    refine wpAnyH_done (by kernel_rfl) ?_ _;go_wp2;go_ret;exact⟨by rw[HE.out,j9];rfl,uO⟩
 have HE:=hid (YT h3);have X2:w2.drew.cell? ⟨w.heap.size,2,none⟩=some (.slice p.ab p.body.length p.cb):=c2;have j9:((p.body.length:Int) == 3)=false:=by simp;omega
 clear c0 c2 H HA h3;refine wp_region_held_drew (S:=fun W'=>W'=w2.drew) (by kernel_rfl) rfl (fun hHeld=>?_);generalize w2.drew=w9 at *;refine ag 0 ?_ (hy:=by intro wz hSw;subst hSw;(try simp only[put,sA,sB,sC]);go_simp;first|done|with_reducible rfl)
 try simp only[put,sA,sB,sC]
 refine ag 1 ?_ (hy:=by intro wz hSw;subst hSw;(try simp only[put,sA,sB,sC]);go_simp;first|done|with_reducible rfl)
 try simp only[put,sA,sB,sC]
 refine ag 2 ?_ (hy:=by intro wz hSw;subst hSw;(try simp only[put,sA,sB,sC]);go_simp;first|done|with_reducible rfl)
 try simp only[put,sA,sB,sC]
 refine ag 3 (v:=.bool false) ?_ (hy:=by intro wz hSw;subst hSw;(try simp only[put,sA,sB,sC]);go_simp;first|done|with_reducible rfl)
 try simp only[put,sA,sB,sC]
 refine ag 4 ?_ (hy:=by intro wz hSw;subst hSw;(try simp only[put,sA,sB,sC]);go_simp;first|done|with_reducible rfl)
 try simp only[put,sA,sB,sC]
 refine bF 5 ?_
 try simp only[put,sA,sB,sC]
 refine bF 6 ?_
 try simp only[put,sA,sB,sC]
 refine bF 7 ?_
 try simp only[put,sA,sB,sC]
 refine bF 8 ?_
 try simp only[put,sA,sB,sC]
 refine bF 9 ?_
 try simp only[put,sA,sB,sC]
 refine bF 10 ?_
 try simp only[put,sA,sB,sC]
 refine ag 11 ?_ (hy:=by intro wz hSw;subst hSw;(try simp only[put,sA,sB,sC]);go_simp;first|done|with_reducible rfl)
 try simp only[put,sA,sB,sC]
 refine ag 12 ?_ (hy:=by intro wz hSw;subst hSw;(try simp only[put,sA,sB,sC]);go_simp;first|done|with_reducible rfl)
 try simp only[put,sA,sB,sC]
 refine bF 13 ?_
 try simp only[put,sA,sB,sC]
 refine bF 14 ?_
 try simp only[put,sA,sB,sC]
 refine bF 15 ?_
 try simp only[put,sA,sB,sC]
 refine bF 16 ?_
 try simp only[put,sA,sB,sC]
 refine bF 17 ?_
 try simp only[put,sA,sB,sC]
 refine ag 18 ?_ (hy:=by intro wz hSw;subst hSw;(try simp only[put,sA,sB,sC]);go_simp;first|done|with_reducible rfl)
 try simp only[put,sA,sB,sC]
 refine ag 19 ?_ (hy:=by intro wz hSw;subst hSw;(try simp only[put,sA,sB,sC]);go_simp;first|done|with_reducible rfl)
 try simp only[put,sA,sB,sC]
 refine bF 20 ?_
 try simp only[put,sA,sB,sC]
 refine bF 21 ?_
 try simp only[put,sA,sB,sC]
 refine bF 22 ?_
 try simp only[put,sA,sB,sC]
 refine bF 23 ?_
 try simp only[put,sA,sB,sC]
 refine bF 24 ?_
 try simp only[put,sA,sB,sC]
 refine bF 25 ?_
 try simp only[put,sA,sB,sC]
 refine bF 26 ?_
 try simp only[put,sA,sB,sC]
 refine bF 27 ?_
 try simp only[put,sA,sB,sC]
 refine ag 28 ?_ (hy:=by intro wz hSw;subst hSw;(try simp only[put,sA,sB,sC]);go_simp;first|done|with_reducible rfl)
 try simp only[put,sA,sB,sC]
 refine ag 29 ?_ (hy:=by intro wz hSw;subst hSw;(try simp only[put,sA,sB,sC]);go_simp;first|done|with_reducible rfl)
 try simp only[put,sA,sB,sC]
 refine bF 30 ?_
 try simp only[put,sA,sB,sC]
 refine bF 31 ?_
 try simp only[put,sA,sB,sC]
 refine bF 32 ?_
 try simp only[put,sA,sB,sC]
 refine bF 33 ?_
 try simp only[put,sA,sB,sC]
 refine bF 34 ?_
 try simp only[put,sA,sB,sC]
 refine bF 35 ?_
 try simp only[put,sA,sB,sC]
 refine ag 36 ?_ (hy:=by intro wz hSw;subst hSw;(try simp only[put,sA,sB,sC]);go_simp;first|done|with_reducible rfl)
 try simp only[put,sA,sB,sC]
 refine ag 37 ?_ (hy:=by intro wz hSw;subst hSw;(try simp only[put,sA,sB,sC]);go_simp;first|done|with_reducible rfl)
 try simp only[put,sA,sB,sC]
 refine wpAnyH_done (by kernel_rfl) ?_ _;go_wp2;go_ret;exact⟨by rw[HE.out];rfl,uO⟩
section
variable {G : Gr}{i : Nat}{x : iw}(hx : gj G i = x)
include hx
theorem zpi(h:x.bB<0\/(G.S.length:Int)<=x.bB):je G i=11:=by unfold je;rw[hx];exact if_pos h
theorem zpj(h1:¬(x.bB<0\/(G.S.length:Int)<=x.bB))(h:bW x.cZ=false):je G i=8:=by unfold je;rw[hx];dsimp only;rw[if_neg h1,if_pos h]
theorem zpk(h1:¬(x.bB<0\/(G.S.length:Int)<=x.bB))(h2:bW x.cZ=true)(h:12<x.body.length):je G i=6:=by unfold je;rw[hx];dsimp only;rw[if_neg h1,if_neg (by simp[h2]),if_pos h]
theorem zpl(h1:¬(x.bB<0\/(G.S.length:Int)<=x.bB))(h2:bW x.cZ=true)(h3:¬12<x.body.length)(h:x.hints.length≠x.body.length-1):je G i=1:=by
 unfold je;rw[hx];dsimp only;rw[if_neg h1,if_neg (by simp[h2]),if_neg h3,if_pos h]
theorem X7(h1:¬(x.bB<0\/(G.S.length:Int)<=x.bB))(h2:bW x.cZ=true)(h3:¬12<x.body.length)(h4:x.hints.length=x.body.length-1):je G i=(open Classical in
  if (∃k,k<i/\(gj G k).cZ=x.cZ) then 9 else if (∃y∈x.body,dL G y=false) then 11 else if (∃z∈x.hints,z<0\/3<z) then 1
  else if x.prec≠-1/\jv G x.prec=false then 11 else if x.par=true/\ek x=false then 15 else 0):=by
 unfold je;rw[hx];dsimp only;rw[if_neg h1,if_neg (by simp[h2]),if_neg h3,if_neg (by simp[h4])]
end
theorem zll(hA:G.At w)(h0:0<G.P.length):∃g o,G.aP=some ⟨g,o,none⟩/\∀wr,Below w.heap.size w wr->∀a,a<G.P.length->(gj G a).At wr/\wr.cell? ⟨g,o+a*6,none⟩=some (.int .i64 (gj G a).bB)/\wr.cell? ⟨g,o+a*6+1,none⟩=some (.string (gj G a).cZ)/\
   wr.cell? ⟨g,o+a*6+2,none⟩=some (.slice (gj G a).ab (gj G a).body.length (gj G a).cb)/\wr.cell? ⟨g,o+a*6+3,none⟩=some (.bool (gj G a).par)/\wr.cell? ⟨g,o+a*6+4,none⟩=some (.int .i64 (gj G a).prec)/\wr.cell? ⟨g,o+a*6+5,none⟩=some (.slice (gj G a).ah (gj G a).hints.length (gj G a).ch):=by
 obtain⟨g,o,e,_⟩:=hA.p h0;refine⟨g,o,e,fun wr hb a ha=>?_⟩;obtain⟨g',o',e',_,h1,h2⟩:=(hA.p.below hb).get a ha;rw[e] at e';injection e' with e';injection e' with e1 e2;subst e1 e2;rw[qB ha];exact⟨h1,h2⟩
def Ik(w:World)(b:Nat)(G:Gr)(x:iw)(wr:World):Prop:=eU wr b G/\nW wr (b+1) x/\Below w.heap.size w wr
theorem Ik.aa{b:Nat}{x:iw}(h:Ik w b G x wr)(k:Below wr.heap.size wr w'):Ik w b G x w':=⟨h.1.below k,h.2.1.below k,h.2.2.trans (k.mono h.2.2.size)⟩
structure fI (G:Gr):Prop where
 rl:G.R.length<=20
 rr:zD G.R G.R.length
 s:G.S.length<=20
 p:G.P.length<=40
 l:G.L.length<=20
 ss:∀i (h:i<G.S.length),G.S[i].size<=100
 ps:∀i (h:i<G.P.length),G.P[i].cZ.size<=100/\G.P[i].body.length<=20/\G.P[i].hints.length<=20
 ls:∀i (h:i<G.L.length),G.L[i].rules.length<=20
theorem fI.lim(h:fI G){m:Nat}(hm:100<=m):G.na m:=
 ⟨by have:=h.rl;omega,by have:=h.s;omega,by have:=h.p;omega,by have:=h.l;omega,fun i hi=>by have:=h.rr i hi hi;omega,fun i hi=>by have:=h.ss i hi;omega,fun i hi=>by have:=h.ps i hi;omega,fun i hi=>by have:=h.ls i hi;omega⟩
def MP(G:Gr)(w:World)(e:Ending)(w':World):Prop:=∃bo:Bool,e=.returned (.bool bo)/\(bo=true->fI G)/\Below w.heap.size w w'
theorem Zu(G:Gr)(w:World)(hA:G.At w)(hL:G.na 9223372036854775807):
  Calls prog 8 #[G.val] w (MP G w):=by
 show Calls prog 8 #[.agg #[.slice G.aR G.R.length G.cR,.slice G.aS G.S.length G.cS,.slice G.aP G.P.length G.cP,.slice G.aL G.L.length G.cL,.int .i64 G.st]] w _;have HA:=hid (Zz hA hL);have BO:=hL.r;have uS:=hL.s;have Lf:=hL.p;have xo:=hL.l;clear hA hL;obtain⟨w2,bD⟩:∃w2,(w.alloc (.cells #[.slice G.aR G.R.length G.cR,.slice G.aS G.S.length G.cS,.slice G.aP G.P.length G.cP,.slice G.aL G.L.length G.cL,.int .i64 G.st] 27))=w2:=⟨_,rfl⟩
 have H:Hid (eU w2 w.heap.size G/\Below w.heap.size w w2):=by
  rw[<-bD];have k0:=al w (.cells #[.slice G.aR G.R.length G.cR,.slice G.aS G.S.length G.cS,.slice G.aP G.P.length G.cP,.slice G.aL G.L.length G.cL,.int .i64 G.st] 27);exact⟨(eU.new w G 27),k0⟩
 have iL:Hid (w2.heap.size=w.heap.size+1):=by show _=_;rw[<-bD];simp
 go_enter func8,ntmps8;go_upto_region 1 with fail
 try rw[bD]
 clear bD;obtain⟨b,hb⟩:∃b,w.heap.size=b:=⟨_,rfl⟩
 have HX:Hid (lh w b G w2):=by rw[<-hb];exact H.out
 rw[hb];clear hb H iL;have jL:Hid (∀w',Below w.heap.size w w'->MP G w (.returned (.bool false)) w'):=fun w' h=>⟨false,rfl,fun h=>(by cases h),h⟩
 have HF:=hid (zjd G.R.length G.cR G.aR G.R rfl BO w2 (HA.out.1.r.below HX.out.2));have c0:=HX.out.1.c0;go_wp2_with (go_at_call 25;refine HF.out.mono ?_);rintro e w3 ⟨bo,rfl,jG,b3⟩;have HY:=hid (HX.out.aa b3);clear b3 c0 HF HX;rcases bo with _|_
 ·clear jG;go_wp2;go_ret;exact jL.out _ HY.out.2
 have Xo:=hid (jG rfl);clear jG;have c1:=HY.out.1.c1;have c2:=HY.out.1.c2;have c3:=HY.out.1.c3;obtain⟨n,hn⟩:∃n,G.S.length=n:=⟨_,rfl⟩
 obtain⟨m,hm⟩:∃m,G.P.length=m:=⟨_,rfl⟩
 obtain⟨d,hd⟩:∃d,G.L.length=d:=⟨_,rfl⟩
 have HN:=hid (Zz hn (Zz hm hd));rw[hn] at uS c1;rw[hm] at Lf c2;rw[hd] at xo c3;clear hn hm hd;by_cases h1:20<n
 ·have j1:(20:Int)<n:=by omega
  go_wp2;go_ret;exact jL.out _ HY.out.2
 have j1:¬(20:Int)<n:=by omega
 by_cases h2:40<m
 ·have j2:(40:Int)<m:=by omega
  go_wp2;go_ret;exact jL.out _ HY.out.2
 have j2:¬(40:Int)<m:=by omega
 by_cases h3:20<d
 ·have j3:(20:Int)<d:=by omega
  go_wp2;go_ret;exact jL.out _ HY.out.2
 have j3:¬(20:Int)<d:=by omega
 go_wp2;go_loopw [3] (fun v wr=>∃k:Nat,v=.int .i64 k/\k<=n/\wr=w3/\Hid (∀j (h:j<G.S.length),j<k->G.S[j].size<=100)) (fun v _=>n-(intOf v).toNat)
 ·exact⟨0,rfl,zero_le _,rfl,fun j _ h=>absurd h (by omega)⟩
 obtain⟨k,rfl,hk,rfl,HR⟩:=hrel;by_cases aw:k<n
 ·have i2:(k:Int)<n:=by omega
  have iJ:k<G.S.length:=by rw[HN.out.1];exact aw
  obtain⟨g1,o1,e1,_,y1⟩:=(HA.out.1.s.below HY.out.2) (by omega);have x1:=y1 k iJ;have HK:Hid (G.S[k].size<=100->∀j (h:j<G.S.length),j<k+1->G.S[j].size<=100):=fun h j hj h3=>by
   by_cases e:j=k
   ·subst e;exact h
   exact HR.out j hj (by omega)
  rw[e1] at c1;clear y1 e1;generalize G.S[k]=u at x1 HK;by_cases hu:100<u.size
  ·have j4:(100:Int)<(u.size:Int):=(by omega);go_wp2;go_ret;exact jL.out _ HY.out.2
  have j4:¬(100:Int)<(u.size:Int):=by omega
  have HZ:=hid (HK.out (by omega));go_wp2;go_roundw
  ·exact⟨k+1,by go_num,by omega,by first|trivial|rfl,HZ.out⟩
  simp[intOf];omega
 obtain rfl:k=n:=by omega
 have HSs:Hid (∀j (h:j<G.S.length),G.S[j].size<=100):=fun j hj=>HR.out j hj (by rw[<-HN.out.1];exact hj)
 clear HR;go_wp2_with fail;obtain⟨wn,Jf⟩:∃wn,wn=wr:=⟨_,rfl⟩
 subst Jf;go_loopw [4] (fun v wr=>∃q:Nat,v=.int .i64 q/\q<=m/\wr=wn/\Hid (∀j (h:j<G.P.length),j<q->G.P[j].cZ.size<=100/\G.P[j].body.length<=20/\G.P[j].hints.length<=20)) (fun v _=>m-(intOf v).toNat)
 ·exact⟨0,rfl,zero_le _,rfl,fun j _ h=>absurd h (by omega)⟩
 obtain⟨q,rfl,hq,rfl,HR⟩:=hrel;by_cases aw:q<m
 ·have i2:(q:Int)<m:=by omega
  have iJ:q<G.P.length:=by rw[HN.out.2.1];exact aw
  obtain⟨g1,o1,e1,_,y0,y1,y2,y3,y4,y5,y6⟩:=(HA.out.1.p.below HY.out.2).get q iJ;have hz:=HA.out.2.ps q iJ;have HK:Hid (G.P[q].cZ.size<=100->G.P[q].body.length<=20->G.P[q].hints.length<=20->∀j (h:j<G.P.length),j<q+1->G.P[j].cZ.size<=100/\G.P[j].body.length<=20/\G.P[j].hints.length<=20):=fun f1 f2 f3 j hj h3=>by
   by_cases e:j=q
   ·subst e;exact⟨f1,f2,f3⟩
   exact HR.out j hj (by omega)
  rw[e1] at c2;clear e1 y0 y1 y4 y5;generalize G.P[q]=x at y2 y3 y6 HK hz;obtain⟨xs,xc,xa,xcb,xb,xp,xq,xah,xch,xh⟩:=x;dsimp only at y2 y3 y6 HK hz;obtain⟨z1,z2,z3⟩:=hz;generalize xb.length=nb at y3 HK z2;generalize xh.length=nh at y6 HK z3;by_cases f1:20<nb
  ·have j4:(20:Int)<nb:=(by omega);go_wp2;go_ret;exact jL.out _ HY.out.2
  have j4:¬(20:Int)<nb:=by omega
  by_cases f2:20<nh
  ·have j5:(20:Int)<nh:=(by omega);go_wp2;go_ret;exact jL.out _ HY.out.2
  have j5:¬(20:Int)<nh:=by omega
  by_cases f3:100<xc.size
  ·have j6:(100:Int)<(xc.size:Int):=(by omega);go_wp2;go_ret;exact jL.out _ HY.out.2
  have j6:¬(100:Int)<(xc.size:Int):=by omega
  have HZ:=hid (HK.out (by omega) (by omega) (by omega));clear HK HR;go_wp2;go_roundw
  ·exact⟨q+1,by go_num,by omega,by first|trivial|rfl,HZ.out⟩
  simp[intOf];omega
 obtain rfl:q=m:=by omega
 have HPs:Hid (∀j (h:j<G.P.length),G.P[j].cZ.size<=100/\G.P[j].body.length<=20/\G.P[j].hints.length<=20):=fun j hj=>HR.out j hj (by rw[<-HN.out.2.1];exact hj)
 clear HR;go_wp2_with fail;obtain⟨wn,Jf⟩:∃wn,wn=wr:=⟨_,rfl⟩
 subst Jf;go_loopw [5] (fun v wr=>∃y:Nat,v=.int .i64 y/\y<=d/\wr=wn/\Hid (∀j (h:j<G.L.length),j<y->G.L[j].rules.length<=20)) (fun v _=>d-(intOf v).toNat)
 ·exact⟨0,rfl,zero_le _,rfl,fun j _ h=>absurd h (by omega)⟩
 obtain⟨y,rfl,hy,rfl,HR⟩:=hrel;by_cases aw:y<d
 ·have i2:(y:Int)<d:=by omega
  have iJ:y<G.L.length:=by rw[HN.out.2.2];exact aw
  obtain⟨g1,o1,e1,_,y0,y1,y2⟩:=(HA.out.1.l.below HY.out.2).get y iJ;have hz:=HA.out.2.ls y iJ;have HK:Hid (G.L[y].rules.length<=20->∀j (h:j<G.L.length),j<y+1->G.L[j].rules.length<=20):=fun f1 j hj h3=>by
   by_cases e:j=y
   ·subst e;exact f1
   exact HR.out j hj (by omega)
  rw[e1] at c3;clear e1 y0 y1;generalize G.L[y]=x at y2 HK hz;obtain⟨xs,xa,xc,xr⟩:=x;dsimp only at y2 HK hz;generalize xr.length=nr at y2 HK hz;by_cases f1:20<nr
  ·have j4:(20:Int)<nr:=(by omega);go_wp2;go_ret;exact jL.out _ HY.out.2
  have j4:¬(20:Int)<nr:=by omega
  have HZ:=hid (HK.out (by omega));clear HK HR;go_wp2;go_roundw
  ·exact⟨y+1,by go_num,by omega,by first|trivial|rfl,HZ.out⟩
  simp[intOf];omega
 obtain rfl:y=d:=by omega
 have HZ:Hid (fI G):=⟨Xo.out.1,Xo.out.2,by rw[HN.out.1];omega,by rw[HN.out.2.1];omega,by rw[HN.out.2.2];omega,HSs.out,HPs.out,fun j hj=>HR.out j hj (by rw[<-HN.out.2.2];exact hj)⟩
 go_wp2;go_ret;exact⟨true,rfl,fun _=>HZ.out,HY.out.2⟩
def mT(G:Gr)(s:ByteArray):Sy × Bool:=
 if pg s (G.R.map Ru.nm)<G.R.length then (⟨false,((pg s (G.R.map Ru.nm):Nat):Int)⟩,true) else if pg s G.S<G.S.length then (⟨true,((pg s G.S:Nat):Int)⟩,true) else (⟨false,0⟩,false)
theorem Uj{s:ByteArray}(hk:k<G.R.length)(h:G.R[k].nm=s)(hn:∀j (h:j<G.R.length),j<k->G.R[j].nm≠s):mT G s=(⟨false,(k:Int)⟩,true):=by
 have:=Re (s:=s) (l:=G.R.map Ru.nm) (k:=k) (by simpa using hk) (by simpa using h) (fun j hj hjk=>by simp at hj⊢;exact hn j hj hjk);unfold mT;rw[this,if_pos hk]
theorem RW{s:ByteArray}(hr:∀j (h:j<G.R.length),G.R[j].nm≠s)(hk:k<G.S.length)(h:G.S[k]=s)(hn:∀j (h:j<G.S.length),j<k->G.S[j]≠s):mT G s=(⟨true,(k:Int)⟩,true):=by
 have h1:=Eh (s:=s) (l:=G.R.map Ru.nm) (fun j hj=>by simp at hj⊢;exact hr j hj);unfold mT;rw[h1,if_neg (by simp),Re hk h hn,if_pos hk]
theorem zoD{s:ByteArray}(hr:∀j (h:j<G.R.length),G.R[j].nm≠s)(hs:∀j (h:j<G.S.length),G.S[j]≠s):mT G s=(⟨false,0⟩,false):=by
 have h1:=Eh (s:=s) (l:=G.R.map Ru.nm) (fun j hj=>by simp at hj⊢;exact hr j hj);unfold mT;rw[h1,if_neg (by simp),Eh hs,if_neg (by omega)]
theorem DJ{g t:Nat}{c0 c1:Value}(h:w.heap[g]?=some (.cells #[c0,c1] t (0,0)))(d0 d1:Value):
  ((w.setCell ⟨g,0,none⟩ d0).setCell ⟨g,1,none⟩ d1).cell? ⟨g,0,none⟩=some d0/\((w.setCell ⟨g,0,none⟩ d0).setCell ⟨g,1,none⟩ d1).cell? ⟨g,1,none⟩=some d1:=by
 have h1:=heap_setCell_same w g 0 _ _ d0 h;have h2:=heap_setCell_same _ g 1 _ _ d1 h1;rw[cell_of_row _ g 0 _ _ _ h2,cell_of_row _ g 1 _ _ _ h2];exact⟨rfl,rfl⟩
def Cb(G:Gr)(s:ByteArray)(w:World)(e:Ending)(w':World):Prop:=e=.returned (.tuple #[.agg (de (mT G s).1).toArray,.bool (mT G s).2])/\Below w.heap.size w w'
theorem zgl(G:Gr)(s:ByteArray)(w:World)(hA:G.At w)(hL:G.na 9223372036854775807):
  Calls prog 13 #[G.val,.string s] w (Cb G s w):=by
 show Calls prog 13 #[.agg #[.slice G.aR G.R.length G.cR,.slice G.aS G.S.length G.cS,.slice G.aP G.P.length G.cP,.slice G.aL G.L.length G.cL,.int .i64 G.st],.string s] w _;have HA:=hid hA;have BO:=hL.r;have uS:=hL.s;clear hA hL;obtain⟨w2,bD⟩:∃w2,((w.alloc (.cells #[.slice G.aR G.R.length G.cR,.slice G.aS G.S.length G.cS,.slice G.aP G.P.length G.cP,.slice G.aL G.L.length G.cL,.int .i64 G.st] 27)).alloc (.cells #[.bool false,.int .i64 0] 38))=w2:=⟨_,rfl⟩
 have H:Hid (eU w2 w.heap.size G/\w2.heap[(w.heap.size+1)]?=some (.cells #[.bool false,.int .i64 0] 38 (0,0))/\Below w.heap.size w w2):=by
  rw[<-bD];have k0:=al w (.cells #[.slice G.aR G.R.length G.cR,.slice G.aS G.S.length G.cS,.slice G.aP G.P.length G.cP,.slice G.aL G.L.length G.cL,.int .i64 G.st] 27);have k1:=al (w.alloc (.cells #[.slice G.aR G.R.length G.cR,.slice G.aS G.S.length G.cS,.slice G.aP G.P.length G.cP,.slice G.aL G.L.length G.cL,.int .i64 G.st] 27)) (.cells #[.bool false,.int .i64 0] 38);exact⟨((eU.new w G 27).below k1),(by have h9:=(heap_alloc_new (w.alloc (.cells #[.slice G.aR G.R.length G.cR,.slice G.aS G.S.length G.cS,.slice G.aP G.P.length G.cP,.slice G.aL G.L.length G.cL,.int .i64 G.st] 27)) (.cells #[.bool false,.int .i64 0] 38));simpa using h9),(k0.trans (k1.mono k0.size))⟩
 go_enter func13,ntmps13;go_upto_region 1 with fail
 try rw[bD]
 clear bD;obtain⟨b,hb⟩:∃b,w.heap.size=b:=⟨_,rfl⟩
 have HX:Hid (eU w2 b G/\w2.heap[b+1]?=some (.cells #[.bool false,.int .i64 0] 38 (0,0))/\Below w.heap.size w w2):=by rw[<-hb];exact H.out
 have c0:=HX.out.1.c0;have c1:=HX.out.1.c1;have t0:w2.cell? ⟨b+1,0,none⟩=some (.bool false):=by rw[cell_of_row w2 _ 0 _ _ _ HX.out.2.1];rfl
 have t1:w2.cell? ⟨b+1,1,none⟩=some (.int .i64 0):=by rw[cell_of_row w2 _ 1 _ _ _ HX.out.2.1];rfl
 have f0:w2.frozen? ⟨b+1,0,none⟩=false:=frozen_of_row w2 _ 0 _ _ HX.out.2.1;have f1:w2.frozen? ⟨b+1,1,none⟩=false:=frozen_of_row w2 _ 1 _ _ HX.out.2.1;have HQ:Hid (∀d0 d1,Below w.heap.size w ((w2.setCell ⟨b+1,0,none⟩ d0).setCell ⟨b+1,1,none⟩ d1)):=fun d0 d1=>(HX.out.2.2.setCell (p:=⟨b+1,0,none⟩) (by show _<=b+1;omega) d0).setCell (p:=⟨b+1,1,none⟩) (by show _<=b+1;omega) d1
 rw[hb];clear hb H;obtain⟨n,hn⟩:∃n,G.R.length=n:=⟨_,rfl⟩
 obtain⟨m,hm⟩:∃m,G.S.length=m:=⟨_,rfl⟩
 have HN:=hid (Zz hn hm);rw[hn] at c0 BO;rw[hm] at c1 uS;clear hn hm;go_wp2;go_loopw [6] (fun v wr=>∃k:Nat,v=.int .i64 k/\k<=n/\wr=w2/\Hid (∀j (h:j<G.R.length),j<k->G.R[j].nm≠s)) (fun v _=>n-(intOf v).toNat)
 ·exact⟨0,rfl,zero_le _,rfl,fun j _ h=>absurd h (by omega)⟩
 obtain⟨k,rfl,hk,rfl,HR⟩:=hrel;by_cases aw:k<n
 ·have i2:(k:Int)<n:=by omega
  have iJ:k<G.R.length:=by rw[HN.out.1];exact aw
  obtain⟨g1,o1,e1,jx,x0,x1,x2⟩:=(HA.out.below HX.out.2.2).r.get k iJ;clear x1 x2;have HK:Hid ((G.R[k].nm=s->mT G s=(⟨false,(k:Int)⟩,true))/\(G.R[k].nm≠s->∀j (h:j<G.R.length),j<k+1->G.R[j].nm≠s)):=by
   refine⟨fun h=>Uj iJ h HR.out,fun h j hj h3=>?_⟩;by_cases e:j=k
   ·subst e;exact h
   exact HR.out j hj (by omega)
  generalize G.R[k].nm=u at x0 HK;rw[e1] at c0;have oz:=GK u s;clear iJ e1;by_cases pk:u=s
  ·have j9:(u.toList == s.toList)=true:=(by simp[pk]);have HZ:=hid (HK.out.1 pk);obtain⟨q0,q1⟩:=DJ HX.out.2.1 (.bool false) (.int .i64 k);clear HK pk oz;go_wp2_with fail;exact bodyPost_ret (v:=.tuple #[.agg #[.bool false,.int .i64 k],.bool true]) (by simp[results,results13,go_sem,q0,q1]) rfl ⟨by rw[HZ.out];rfl,HQ.out _ _⟩
  have j9:(u.toList == s.toList)=false:=by rw[oz];simp[pk]
  have HZ:=hid (HK.out.2 pk);clear HK pk oz;go_wp2;go_roundw
  ·exact⟨k+1,by go_num,by omega,by first|trivial|rfl,HZ.out⟩
  simp[intOf];omega
 obtain rfl:k=n:=by omega
 have Dj:Hid (∀j (h:j<G.R.length),G.R[j].nm≠s):=fun j hj=>HR.out j hj (by rw[<-HN.out.1];exact hj)
 clear HR;go_wp2_with fail;obtain⟨wn,Jf⟩:∃wn,wn=wr:=⟨_,rfl⟩
 subst Jf;go_loopw [7] (fun v wr=>∃q:Nat,v=.int .i64 q/\q<=m/\wr=wn/\Hid (∀j (h:j<G.S.length),j<q->G.S[j]≠s)) (fun v _=>m-(intOf v).toNat)
 ·exact⟨0,rfl,zero_le _,rfl,fun j _ h=>absurd h (by omega)⟩
 obtain⟨q,rfl,hq,rfl,HR⟩:=hrel;by_cases ll:q<m
 ·have i3:(q:Int)<m:=by omega
  have iJ:q<G.S.length:=by rw[HN.out.2];exact ll
  obtain⟨g1,o1,e1,jx,y1⟩:=(HA.out.below HX.out.2.2).s (by omega);have x0:=y1 q iJ;have HK:Hid ((G.S[q]=s->mT G s=(⟨true,(q:Int)⟩,true))/\(G.S[q]≠s->∀j (h:j<G.S.length),j<q+1->G.S[j]≠s)):=by
   refine⟨fun h=>RW Dj.out iJ h HR.out,fun h j hj h3=>?_⟩;by_cases e:j=q
   ·subst e;exact h
   exact HR.out j hj (by omega)
  clear y1;generalize G.S[q]=u at x0 HK;rw[e1] at c1;have oz:=GK u s;clear iJ e1;by_cases pk:u=s
  ·have j9:(u.toList == s.toList)=true:=(by simp[pk]);have HZ:=hid (HK.out.1 pk);obtain⟨q0,q1⟩:=DJ HX.out.2.1 (.bool true) (.int .i64 q);clear HK pk oz;go_wp2_with fail;exact bodyPost_ret (v:=.tuple #[.agg #[.bool true,.int .i64 q],.bool true]) (by simp[results,results13,go_sem,q0,q1]) rfl ⟨by rw[HZ.out];rfl,HQ.out _ _⟩
  have j9:(u.toList == s.toList)=false:=by rw[oz];simp[pk]
  have HZ:=hid (HK.out.2 pk);clear HK pk oz;go_wp2;go_roundw
  ·exact⟨q+1,by go_num,by omega,by first|trivial|rfl,HZ.out⟩
  simp[intOf];omega
 obtain rfl:q=m:=by omega
 have HZ:Hid (mT G s=(⟨false,0⟩,false)):=zoD Dj.out (fun j hj=>HR.out j hj (by rw[<-HN.out.2];exact hj));obtain⟨q0,q1⟩:=DJ HX.out.2.1 (.bool false) (.int .i64 0);go_wp2_with fail;exact bodyPost_ret (v:=.tuple #[.agg #[.bool false,.int .i64 0],.bool false]) (by simp[results,results13,go_sem,q0,q1]) rfl ⟨by rw[HZ.out];rfl,HQ.out _ _⟩
def lp(G:Gr)(t:Int):Nat->List Int
 | 0=>[]
 | i+1=>if (gj G i).bB=t then lp G t i++[(i:Int)] else lp G t i
def ld(G:Gr)(t:Int):List Int:=lp G t G.P.length
theorem Gc(h:(gj G i).bB=t):lp G t (i+1)=lp G t i++[(i:Int)]:=if_pos h
theorem J0(h:(gj G i).bB≠t):lp G t (i+1)=lp G t i:=if_neg h
theorem zoE(G:Gr)(t:Int)(i:Nat):(lp G t i).length<=i:=by
 induction i with
 | zero=>simp[lp]
 | succ i ih=>
  by_cases h:(gj G i).bB=t
  ·rw[Gc h,List.length_append];simp;omega
  rw[J0 h];omega
theorem znt{j:Nat}(h:i<=j):∃r,lp G t j=lp G t i++r:=by
 induction j with
 | zero=>
  have:i=0:=by omega
  subst this;exact⟨[],by simp⟩
 | succ j ih=>
  by_cases e:i=j+1
  ·subst e;exact⟨[],by simp⟩
  obtain⟨r,hr⟩:=ih (by omega);by_cases h2:(gj G j).bB=t
  ·exact⟨r++[(j:Int)],by rw[Gc h2,hr,List.append_assoc]⟩
  exact⟨r,by rw[J0 h2,hr]⟩
theorem zoF(hi:i<G.P.length)(h:(gj G i).bB=t):∃hk:(lp G t i).length<(ld G t).length,(ld G t)[(lp G t i).length]=(i:Int):=by
 obtain⟨r,hr⟩:=znt (G:=G) (t:=t) (show i+1<=G.P.length by omega);have e:ld G t=(lp G t i++[(i:Int)])++r:=by unfold ld;rw[hr,Gc h]
 have hk:(lp G t i).length<(ld G t).length:=by rw[e];simp
 refine⟨hk,?_⟩;have h2:(ld G t)[(lp G t i).length]?=some (i:Int):=by rw[e];simp
 rw[List.getElem?_eq_getElem hk] at h2;exact Option.some.inj h2
def kA(G:Gr)(s:ByteArray):Nat->Int
 | 0=>-1
 | i+1=>if kA G s i<0/\(gj G i).cZ=s then (i:Int) else kA G s i
def tH(G:Gr)(s:ByteArray):Int:=kA G s G.P.length
def ky(G:Gr)(t:Int):Nat->Int
 | 0=>-1
 | i+1=>if ky G t i<0/\(gj G i).bB=t/\(gj G i).par=true then (i:Int) else ky G t i
def uC(G:Gr)(t:Int):Int:=ky G t G.P.length
theorem RR{s:ByteArray}(h:kA G s i<0)(h2:(gj G i).cZ=s):kA G s (i+1)=(i:Int):=if_pos ⟨h,h2⟩
theorem OR{s:ByteArray}(h:¬(kA G s i<0/\(gj G i).cZ=s)):kA G s (i+1)=kA G s i:=if_neg h
theorem Sl(h:ky G t i<0)(h2:(gj G i).bB=t)(h3:(gj G i).par=true):ky G t (i+1)=(i:Int):=if_pos ⟨h,h2,h3⟩
theorem Ie(h:¬(ky G t i<0/\(gj G i).bB=t/\(gj G i).par=true)):ky G t (i+1)=ky G t i:=if_neg h
def fT(G:Gr)(p:iw):Nat->ByteArray
 | 0=>((gK G ⟨true,p.bB⟩++⟨#[46]⟩)++p.cZ)++⟨#[32,61]⟩
 | k+1=>(fT G p k++⟨#[32]⟩)++gK G (p.body.getD k ⟨false,0⟩)
def mJ(G:Gr)(i:Int):ByteArray:=if 0<=i/\i<G.P.length then fT G (gj G i.toNat) (gj G i.toNat).body.length else ⟨#[]⟩
theorem ES(h:fI G)(y:Sy):(gK G y).size<=100:=by
 unfold gK;split
 ·decide
 split
 ·rename_i h1 h2;have hk:y.n.toNat<G.S.length:=by omega
  rw[yx hk];exact h.ss _ hk
 split
 ·rename_i h1 h2 h3;have hk:y.n.toNat<G.R.length:=by omega
  rw[Jn hk];exact (h.rr _ hk hk).2
 decide
theorem VV(h:fI G){p:iw}(hc:p.cZ.size<=100)(k:Nat):(fT G p k).size<=203+101*k:=by
 induction k with
 | zero=>
  have:=ES h ⟨true,p.bB⟩;have e1:(⟨#[46]⟩:ByteArray).size=1:=rfl;have e2:(⟨#[32,61]⟩:ByteArray).size=2:=rfl;simp only[fT,ByteArray.size_append,e1,e2];omega
 | succ k ih=>
  have:=ES h (p.body.getD k ⟨false,0⟩);have e1:(⟨#[32]⟩:ByteArray).size=1:=rfl;simp only[fT,ByteArray.size_append,e1];omega
theorem UT(h:i<G.P.length):mJ G (i:Int)=fT G (gj G i) (gj G i).body.length:=by
 unfold mJ;rw[if_pos ⟨by omega,by omega⟩,Int.toNat_natCast]
theorem M3{i:Int}(h:¬(0<=i/\i<G.P.length)):mJ G i=⟨#[]⟩:=if_neg h
def KX(l:List Int)(w:World)(e:Ending)(w':World):Prop:=∃(a:Option Addr) (c:Nat),e=.returned (.slice a l.length c)/\eI w' a l/\Below w.heap.size w w'
def o9(w:World)(b:Nat)(G:Gr)(x:Sy)(wr:World):Prop:=eU wr b G/\kJ wr (b+1) x/\Below w.heap.size w wr
theorem o9.aa{b:Nat}{x:Sy}(h:o9 w b G x wr)(k:Below wr.heap.size wr w'):o9 w b G x w':=⟨h.1.below k,h.2.1.below k,h.2.2.trans (k.mono h.2.2.size)⟩
theorem zoG(h:jv G ((gp G i).rules.getD k 0)=false):wv G i k=11:=if_pos h
theorem zln(h:jv G ((gp G i).rules.getD k 0)=true)(hs:ov G i k):wv G i k=9:=by unfold wv;rw[if_neg (by simp only[h];decide),if_pos hs]
theorem zpm(h:jv G ((gp G i).rules.getD k 0)=true)(hs:¬ov G i k):wv G i k=0:=by unfold wv;rw[if_neg (by simp only[h];decide),if_neg hs]
noncomputable def mK (G:Gr) (i er:Int):Int × Int × Int:=if er≠0 then (er,1,i) else gv G
def zpn(Q:Int->Int->Prop)(w:World)(e:Ending)(w':World):Prop:=∃i er:Int,e=.returned (.tuple #[.int .i64 i,.int .i64 er])/\Q i er/\Below w.heap.size w w'
def Bs(Q:Int->Int->Prop)(G:Gr)(w:World)(e:Ending)(w':World):Prop:=
 ∃i er,Q i er/\e=.returned (.agg #[.int .i64 (mK G i er).1,.int .i64 (mK G i er).2.1,.int .i64 (mK G i er).2.2])/\Below w.heap.size w w'
def zo(w:World)(e:Ending)(w':World):Prop:=e=.returned (.bool true)/\Below w.heap.size w w'
def qL(n m:Int)(w:World)(e:Ending)(w':World):Prop:=e=.returned (.bool (decide (0<=n) && decide (n<m)))/\w'=w
theorem Mg(n m:Int)(w:World):Calls prog 43 #[.int .i64 n,.int .i64 m] w (qL n m w):=by
 go_enter func43,ntmps43;by_cases h0:0<=n
 ·by_cases h1:n<m
  ·have HZ:Hid (qL n m w (.returned (.bool true)) w):=(⟨by simp[h0,h1],rfl⟩);go_wp2;go_ret;exact HZ.out
  have HZ:Hid (qL n m w (.returned (.bool false)) w):=⟨by simp[h0,h1],rfl⟩
  go_wp2;go_ret;exact HZ.out
 have HZ:Hid (qL n m w (.returned (.bool false)) w):=⟨by simp[h0],rfl⟩
 go_wp2;go_ret;exact HZ.out
def OP(n:Int)(w:World)(e:Ending)(w':World):Prop:=e=.returned (.agg #[.bool true,.int .i64 n])/\Below w.heap.size w w'
theorem xY(n:Int)(w:World):Calls prog 30 #[.int .i64 n] w (OP n w):=by
 have k0:=al w (.cells #[.bool true,.int .i64 n] 38);have HB:=hid k0;have q0:=qy w #[.bool true,.int .i64 n] 38 0 _ rfl;have q1:=qy w #[.bool true,.int .i64 n] 38 1 _ rfl;clear k0;go_enter func30,ntmps30;go_wp2_with fail;exact bodyPost_ret (v:=.agg #[.bool true,.int .i64 n]) (by simp[results,results30,go_sem,q0,q1]) rfl ⟨rfl,HB.out⟩
theorem I2(G:Gr)(x:Sy)(w:World)(hA:G.At w)(hL:G.na 9223372036854775807):
  Calls prog 14 #[G.val,.agg (de x).toArray] w (px (dL G x) w):=by
 show Calls prog 14 #[.agg #[.slice G.aR G.R.length G.cR,.slice G.aS G.S.length G.cS,.slice G.aP G.P.length G.cP,.slice G.aL G.L.length G.cL,.int .i64 G.st],.agg #[.bool x.s,.int .i64 x.n]] w _;have HA:=hid hA;have BO:=hL.r;have uS:=hL.s;clear hA hL;obtain⟨w2,bD⟩:∃w2,((w.alloc (.cells #[.slice G.aR G.R.length G.cR,.slice G.aS G.S.length G.cS,.slice G.aP G.P.length G.cP,.slice G.aL G.L.length G.cL,.int .i64 G.st] 27)).alloc (.cells #[.bool x.s,.int .i64 x.n] 38))=w2:=⟨_,rfl⟩
 have H:Hid (eU w2 w.heap.size G/\kJ w2 (w.heap.size+1) x/\Below w.heap.size w w2):=by
  rw[<-bD];have k0:=al w (.cells #[.slice G.aR G.R.length G.cR,.slice G.aS G.S.length G.cS,.slice G.aP G.P.length G.cP,.slice G.aL G.L.length G.cL,.int .i64 G.st] 27);have k1:=al (w.alloc (.cells #[.slice G.aR G.R.length G.cR,.slice G.aS G.S.length G.cS,.slice G.aP G.P.length G.cP,.slice G.aL G.L.length G.cL,.int .i64 G.st] 27)) (.cells #[.bool x.s,.int .i64 x.n] 38);exact⟨((eU.new w G 27).below k1),(by have h9:=(kJ.new (w.alloc (.cells #[.slice G.aR G.R.length G.cR,.slice G.aS G.S.length G.cS,.slice G.aP G.P.length G.cP,.slice G.aL G.L.length G.cL,.int .i64 G.st] 27)) x 38);simpa using h9),(k0.trans (k1.mono k0.size))⟩
 have iL:Hid (w2.heap.size=w.heap.size+2):=by show _=_;rw[<-bD];simp
 go_enter func14,ntmps14;go_upto_region 1 with fail
 try rw[bD]
 clear bD;have c0:=H.out.1.c0;have c1:=H.out.1.c1;have s0:=H.out.2.1.c0;have s1:=H.out.2.1.c1;have HB:=hid H.out.2.2;obtain⟨xs,n⟩:=x;dsimp only at s0 s1;rcases xs with _|_
 ·have HI:=hid (Mg n (G.R.length:Int) w2);by_cases h0:0<=n/\n<(G.R.length:Int)
  ·have hd:(decide (0<=n) && decide (n<(G.R.length:Int)))=true:=(by simp[h0.1,h0.2]);obtain⟨k,rfl⟩:=Int.eq_ofNat_of_zero_le h0.1;have hk:k<G.R.length:=(by omega);obtain⟨g1,o1,e1,jx,x0,x1,x2⟩:=(HA.out.below HB.out).r.get k hk;have HZ:Hid (dL G ⟨false,(k:Int)⟩=(G.R[k].k == 0)):=SD hk;have qX:Hid (Calls prog 43 #[.int .i64 (k:Int),.int .i64 (G.R.length:Int)] w2 (fun e w'=>e=.returned (.bool true)/\w'=w2)):=by
    have h9:=HI.out;unfold qL at h9;rw[hd] at h9;exact h9
   rw[e1] at c0;generalize G.R[k].k=q at x1 HZ;clear x0 x2 e1 hd h0 HI;go_wp2_with (go_at_call 43;refine qX.out.mono ?_;rintro e w3 ⟨rfl,rfl⟩);go_ret;exact⟨by rw[HZ.out];rfl,HB.out⟩
  have HZ:Hid (dL G ⟨false,n⟩=false):=Oy h0;have qX:Hid (Calls prog 43 #[.int .i64 n,.int .i64 (G.R.length:Int)] w2 (fun e w'=>e=.returned (.bool false)/\w'=w2)):=by
   have h9:=HI.out;unfold qL at h9;rw[show (decide (0<=n) && decide (n<(G.R.length:Int)))=false by rw[<-Bool.decide_and];exact decide_eq_false h0] at h9;exact h9
  clear h0 HI;go_wp2_with (go_at_call 43;refine qX.out.mono ?_;rintro e w3 ⟨rfl,rfl⟩);go_ret;exact⟨by rw[HZ.out];rfl,HB.out⟩
 have HI:=hid (Mg n (G.S.length:Int) w2);have HZ:Hid (dL G ⟨true,n⟩=(decide (0<=n) && decide (n<G.S.length))):=Mq;go_wp2_with (go_at_call 43;refine HI.out.mono ?_;rintro e w3 ⟨rfl,rfl⟩);go_ret;exact⟨by rw[HZ.out];rfl,HB.out⟩
def uB(l:List iw)(p:iw->Prop)(r:Int):Prop:=(r=-1/\∀j (h:j<l.length),¬p l[j])\/∃(i:Nat) (h:i<l.length),r=((i:Nat):Int)/\p l[i]/\∀j (h:j<l.length),j<i->¬p l[j]
def vu(l:List iw)(p:iw->Prop)(w:World)(e:Ending)(w':World):Prop:=∃r,e=.returned (.int .i64 r)/\uB l p r/\Below w.heap.size w w'
theorem YL(fn:Nat)(zz:∀(args:Array Value) (W:World),(callFunc fn args).run prog W=.ok (.enter fn args) W)(p:iw->Prop)(n c b:Nat)(a:Option Addr)(l:List iw)(hl:l.length=n)(hn:n<=9223372036854775807)(w:World)(h1:rZ w a l)
  (hF:∀(x:iw) W,Below w.heap.size w W->Calls prog fn #[.agg #[.int .i64 x.bB,.string x.cZ,.slice x.ab x.body.length x.cb,.bool x.par,.int .i64 x.prec,.slice x.ah x.hints.length x.ch],.pointer (some ⟨b,0,none⟩)] W (jk (p x) W)):
  Calls prog 48 #[.slice a n c,.func (.func fn) #[] #[.pointer (some ⟨b,0,none⟩)]] w (vu l p w):=by
 have H:=hid (Zz h1 (Zz hl hF));clear h1 hl hF;go_enter func48,ntmps48;go_wp2;go_loopw [5,8] (fun _ v wr=>∃k:Nat,v=.int .i64 k/\k<=n/\Hid (Below w.heap.size w wr/\∀j (h:j<l.length),j<k->¬p l[j])) (fun _ v _=>n-(intOf v).toNat)
 ·exact⟨0,rfl,zero_le _,Below.refl _ _,fun j _ h=>by omega⟩
 obtain⟨k,rfl,hk,HL⟩:=hrel;by_cases aw:k<n
 case neg=>
  obtain rfl:k=n:=by omega
  have HZ:Hid (uB l p (-1)):=Or.inl ⟨rfl,fun j h=>HL.out.2 j h (by have:=H.out.2.1;omega)⟩;go_wp2;go_ret;exact⟨_,rfl,HZ.out,HL.out.1⟩
 have hkl:k<l.length:=by rw[H.out.2.1];exact aw
 obtain⟨g1,o1,rfl,_,X,x0,x1,x2,x3,x4,x5⟩:=(H.out.1.below HL.out.1).get k hkl;clear X;have HF:=hid (H.out.2.2 l[k] wr HL.out.1);have HS:Hid (¬p l[k]->∀j (h:j<l.length),j<k+1->¬p l[j]):=fun h j hj hjk=>by
  by_cases e:j=k
  ·subst e;exact h
  exact HL.out.2 j hj (by omega)
 have HY:Hid (p l[k]->uB l p (k:Int)):=fun h=>Or.inr ⟨k,hkl,rfl,h,HL.out.2⟩
 have i1:(k:Int)<n:=by omega
 generalize l[k]=x at x0 x1 x2 x3 x4 x5 HF HS HY;clear hkl;go_wp2_with fail;refine HF.out.mono ?_;rintro e w2 ⟨y,hy,rfl,b2⟩;have H2:=hid (Zz (HL.out.1.trans (b2.mono HL.out.1.size)) hy);clear b2 hy HF x0 x1 x2 x3 x4 x5;rcases y with _|_
 ·have HZ:=hid (HS.out (fun h=>by have:=H2.out.2.2 h;cases this));go_wp2;go_roundw
  ·exact⟨k+1,by go_num,by omega,H2.out.1,HZ.out⟩
  simp[intOf];omega
 have HZ:=hid (HY.out (H2.out.2.1 rfl));go_wp2;go_ret;exact⟨_,rfl,HZ.out,H2.out.1⟩
theorem zjl:∀(args:Array Value) (W:World),(callFunc 50 args).run prog W=.ok (.enter 50 args) W:=fun _ _=>by rfl
theorem zjm:∀(args:Array Value) (W:World),(callFunc 49 args).run prog W=.ok (.enter 49 args) W:=fun _ _=>by rfl
theorem zlj(x:iw)(b:Nat)(s:ByteArray)(w:World)(hc:w.cell? ⟨b,0,none⟩=some (.string s))(hb:b<w.heap.size):
  Calls prog 50 #[.agg #[.int .i64 x.bB,.string x.cZ,.slice x.ab x.body.length x.cb,.bool x.par,.int .i64 x.prec,.slice x.ah x.hints.length x.ch],.pointer (some ⟨b,0,none⟩)] w (jk (x.cZ=s) w):=by
 have HC:=hid (Zz hc hb);clear hc hb;obtain⟨w2,bD⟩:∃w2,(w.alloc (.cells #[.int .i64 x.bB,.string x.cZ,.slice x.ab x.body.length x.cb,.bool x.par,.int .i64 x.prec,.slice x.ah x.hints.length x.ch] 47))=w2:=⟨_,rfl⟩
 have H:Hid (nW w2 w.heap.size x/\Below w.heap.size w w2):=by
  rw[<-bD];have k0:=al w (.cells #[.int .i64 x.bB,.string x.cZ,.slice x.ab x.body.length x.cb,.bool x.par,.int .i64 x.prec,.slice x.ah x.hints.length x.ch] 47);exact⟨(nW.new w x 47),k0⟩
 have iL:Hid (w2.heap.size=w.heap.size+1):=by show _=_;rw[<-bD];simp
 go_enter func50,ntmps50;go_upto_region 1 with fail
 try rw[bD]
 clear bD;have c1:=H.out.1.c1;have HB:=hid H.out.2;have e1:w2.cell? ⟨b,0,none⟩=some (.string s):=(HB.out.cell (p:=⟨b,0,none⟩) HC.out.2).trans HC.out.1;have HQ:Hid ((x.cZ.toList == s.toList)=true↔x.cZ=s):=by
  have h9:=GK x.cZ s;show _↔_;rw[h9];simp
 clear H;go_wp2;go_ret;exact⟨_,HQ.out,rfl,HB.out⟩
theorem zlk(x:iw)(b:Nat)(t:Int)(w:World)(hc:w.cell? ⟨b,0,none⟩=some (.int .i64 t))(hb:b<w.heap.size):
  Calls prog 49 #[.agg #[.int .i64 x.bB,.string x.cZ,.slice x.ab x.body.length x.cb,.bool x.par,.int .i64 x.prec,.slice x.ah x.hints.length x.ch],.pointer (some ⟨b,0,none⟩)] w (jk (x.bB=t/\x.par=true) w):=by
 have HC:=hid (Zz hc hb);clear hc hb;obtain⟨w2,bD⟩:∃w2,(w.alloc (.cells #[.int .i64 x.bB,.string x.cZ,.slice x.ab x.body.length x.cb,.bool x.par,.int .i64 x.prec,.slice x.ah x.hints.length x.ch] 47))=w2:=⟨_,rfl⟩
 have H:Hid (nW w2 w.heap.size x/\Below w.heap.size w w2):=by
  rw[<-bD];have k0:=al w (.cells #[.int .i64 x.bB,.string x.cZ,.slice x.ab x.body.length x.cb,.bool x.par,.int .i64 x.prec,.slice x.ah x.hints.length x.ch] 47);exact⟨(nW.new w x 47),k0⟩
 have iL:Hid (w2.heap.size=w.heap.size+1):=by show _=_;rw[<-bD];simp
 go_enter func49,ntmps49;go_upto_region 1 with fail
 try rw[bD]
 clear bD;have c0:=H.out.1.c0;have c3:=H.out.1.c3;have HB:=hid H.out.2;have e1:w2.cell? ⟨b,0,none⟩=some (.int .i64 t):=(HB.out.cell (p:=⟨b,0,none⟩) HC.out.2).trans HC.out.1;clear H;by_cases h:x.bB=t
 ·have j1:(x.bB == t)=true:=by simp[h]
  have HZ:Hid (x.bB=t):=h;clear h;go_wp2;go_ret;exact⟨x.par,⟨fun h=>⟨HZ.out,h⟩,fun h=>h.2⟩,rfl,HB.out⟩
 have j1:(x.bB == t)=false:=by simp[h]
 have HZ:Hid (¬x.bB=t):=h;clear h;go_wp2;go_ret;exact⟨false,⟨fun h=>Bool.noConfusion h,fun h=>absurd h.1 HZ.out⟩,rfl,HB.out⟩
theorem znq{s:ByteArray}(h:uB G.P (fun x=>x.cZ=s) r):r=tH G s:=by
 have neg:∀k,(∀j (h:j<G.P.length),j<k->¬G.P[j].cZ=s)->k<=G.P.length->kA G s k=-1:=by
  intro k hk
  induction k with
  | zero=>intro _;rfl
  | succ k ih=>
   intro hl;have h1:=ih (fun j hj hjk=>hk j hj (by omega)) (by omega);rw[OR (fun h=>hk k (by omega) (by omega) (by rw[<-qB (by omega)];exact h.2)),h1]
 rcases h with ⟨rfl,hn⟩|⟨i,hi,rfl,hs,hn⟩
 ·exact (neg _ (fun j hj _=>hn j hj) (Nat.le_refl _)).symm
 have h0:=neg i hn (by omega);have h1:kA G s (i+1)=i:=RR (by omega) (by rw[qB hi];exact hs);have up:∀d,i+1+d<=G.P.length->kA G s (i+1+d)=i:=by
  intro d
  induction d with
  | zero=>intro _;exact h1
  | succ d ih=>intro hd;rw[<-Nat.add_assoc,OR (by rw[ih (by omega)];omega),ih (by omega)]
 have:=up (G.P.length-(i+1)) (by omega);rw[show i+1+(G.P.length-(i+1))=G.P.length by omega] at this;exact this.symm
theorem znr(h:uB G.P (fun x=>x.bB=t/\x.par=true) r):r=uC G t:=by
 have neg:∀k,(∀j (h:j<G.P.length),j<k->¬(G.P[j].bB=t/\G.P[j].par=true))->k<=G.P.length->ky G t k=-1:=by
  intro k hk
  induction k with
  | zero=>intro _;rfl
  | succ k ih=>
   intro hl;have h1:=ih (fun j hj hjk=>hk j hj (by omega)) (by omega);rw[Ie (fun h=>hk k (by omega) (by omega) (by rw[<-qB (by omega)];exact h.2)),h1]
 rcases h with ⟨rfl,hn⟩|⟨i,hi,rfl,hs,hn⟩
 ·exact (neg _ (fun j hj _=>hn j hj) (Nat.le_refl _)).symm
 have h0:=neg i hn (by omega);have h1:ky G t (i+1)=i:=Sl (by omega) (by rw[qB hi];exact hs.1) (by rw[qB hi];exact hs.2);have up:∀d,i+1+d<=G.P.length->ky G t (i+1+d)=i:=by
  intro d
  induction d with
  | zero=>intro _;exact h1
  | succ d ih=>intro hd;rw[<-Nat.add_assoc,Ie (by rw[ih (by omega)];omega),ih (by omega)]
 have:=up (G.P.length-(i+1)) (by omega);rw[show i+1+(G.P.length-(i+1))=G.P.length by omega] at this;exact this.symm
theorem VD(G:Gr)(s:ByteArray)(w:World)(hA:G.At w)(hL:G.P.length<=9223372036854775807):
  Calls prog 23 #[G.val,.string s] w (vu G.P (fun x=>x.cZ=s) w):=by
 show Calls prog 23 #[.agg #[.slice G.aR G.R.length G.cR,.slice G.aS G.S.length G.cS,.slice G.aP G.P.length G.cP,.slice G.aL G.L.length G.cL,.int .i64 G.st],.string s] w _;have HA:=hid (Zz hA hL);have xQ:∀(fn:Fn) (first cap:Array Value) (w:World),(Instr.makeFunc fn first cap).run prog w=.ok (.func fn first cap) w:=fun _ _ _ _=>rfl
 clear hA hL;obtain⟨w2,bD⟩:∃w2,((w.alloc (.cells #[.slice G.aR G.R.length G.cR,.slice G.aS G.S.length G.cS,.slice G.aP G.P.length G.cP,.slice G.aL G.L.length G.cL,.int .i64 G.st] 27)).alloc (.cells #[.string s] 9))=w2:=⟨_,rfl⟩
 have H:Hid (eU w2 w.heap.size G/\w2.heap[(w.heap.size+1)]?=some (.cells #[.string s] 9 (0,0))/\Below w.heap.size w w2):=by
  rw[<-bD];have k0:=al w (.cells #[.slice G.aR G.R.length G.cR,.slice G.aS G.S.length G.cS,.slice G.aP G.P.length G.cP,.slice G.aL G.L.length G.cL,.int .i64 G.st] 27);have k1:=al (w.alloc (.cells #[.slice G.aR G.R.length G.cR,.slice G.aS G.S.length G.cS,.slice G.aP G.P.length G.cP,.slice G.aL G.L.length G.cL,.int .i64 G.st] 27)) (.cells #[.string s] 9);exact⟨((eU.new w G 27).below k1),(by have h9:=(heap_alloc_new (w.alloc (.cells #[.slice G.aR G.R.length G.cR,.slice G.aS G.S.length G.cS,.slice G.aP G.P.length G.cP,.slice G.aL G.L.length G.cL,.int .i64 G.st] 27)) (.cells #[.string s] 9));simpa using h9),(k0.trans (k1.mono k0.size))⟩
 have iL:Hid (w2.heap.size=w.heap.size+2):=by show _=_;rw[<-bD];simp
 go_enter func23,ntmps23;go_upto_region 1 with fail
 try rw[bD]
 clear bD;have HB:=hid H.out.2.2;have c2:=H.out.1.c2;have HI:Hid (∀b,w.heap.size+1=b->Calls prog 48 #[.slice G.aP G.P.length G.cP,.func (.func 50) #[] #[.pointer (some ⟨b,0,none⟩)]] w2 (vu G.P (fun x=>x.cZ=s) w2)):=fun b hb=>by
  subst hb;have h9:w2.cell? ⟨w.heap.size+1,0,none⟩=some (.string s):=by rw[cell_of_row w2 _ 0 _ _ _ H.out.2.1];rfl
  have h8:=iL.out;exact YL 50 zjl (fun x=>x.cZ=s) _ _ _ _ G.P rfl HA.out.2 w2 (HA.out.1.below HB.out).p (fun x W k=>zlj x _ s W ((k.cell (p:=⟨w.heap.size+1,0,none⟩) (by show w.heap.size+1<w2.heap.size;omega)).trans h9) (by have:=k.size;omega))
 have qX:=hid (HI.out _ rfl);clear HI H;go_wp2_with (go_at_call 48;refine qX.out.mono ?_);rintro e w3 ⟨r,rfl,hr,b3⟩;have HF:=hid (Zz hr (HB.out.trans (b3.mono HB.out.size)));clear hr b3 qX c2;go_wp2;go_ret;exact⟨_,rfl,HF.out.1,HF.out.2⟩
theorem zjn(G:Gr)(s:ByteArray)(w:World)(hA:G.At w)(hL:G.P.length<=9223372036854775807):
  Calls prog 23 #[G.val,.string s] w (wY (tH G s) w):=by
 refine (VD G s w hA hL).mono ?_;rintro e w' ⟨r,rfl,hr,hb⟩;rw[znq hr];exact⟨rfl,hb⟩
theorem zow{l:List iw}{p:iw->Prop}(h:uB l p r)(hi:i<l.length)(hp:p l[i]):r<(i:Int)↔∃k,∃h:k<i,p (l[k]'(by omega)):=by
 rcases h with ⟨_,hn⟩|⟨q,hq,rfl,hs,hn⟩
 ·exact absurd hp (hn i hi)
 constructor
 ·intro h;exact⟨q,by omega,hs⟩
 rintro⟨k,hk,h2⟩;rcases Nat.lt_or_ge k q with h3|h3
 ·exact absurd h2 (hn k (by omega) h3)
 omega
theorem zjo(G:Gr)(t:Int)(w:World)(hA:G.At w)(hL:G.P.length<=9223372036854775807):
  Calls prog 22 #[G.val,.int .i64 t] w (wY (uC G t) w):=by
 show Calls prog 22 #[.agg #[.slice G.aR G.R.length G.cR,.slice G.aS G.S.length G.cS,.slice G.aP G.P.length G.cP,.slice G.aL G.L.length G.cL,.int .i64 G.st],.int .i64 t] w _;have HA:=hid (Zz hA hL);have xQ:∀(fn:Fn) (first cap:Array Value) (w:World),(Instr.makeFunc fn first cap).run prog w=.ok (.func fn first cap) w:=fun _ _ _ _=>rfl
 clear hA hL;obtain⟨w2,bD⟩:∃w2,((w.alloc (.cells #[.slice G.aR G.R.length G.cR,.slice G.aS G.S.length G.cS,.slice G.aP G.P.length G.cP,.slice G.aL G.L.length G.cL,.int .i64 G.st] 27)).alloc (.cells #[.int .i64 t] 3))=w2:=⟨_,rfl⟩
 have H:Hid (eU w2 w.heap.size G/\w2.heap[(w.heap.size+1)]?=some (.cells #[.int .i64 t] 3 (0,0))/\Below w.heap.size w w2):=by
  rw[<-bD];have k0:=al w (.cells #[.slice G.aR G.R.length G.cR,.slice G.aS G.S.length G.cS,.slice G.aP G.P.length G.cP,.slice G.aL G.L.length G.cL,.int .i64 G.st] 27);have k1:=al (w.alloc (.cells #[.slice G.aR G.R.length G.cR,.slice G.aS G.S.length G.cS,.slice G.aP G.P.length G.cP,.slice G.aL G.L.length G.cL,.int .i64 G.st] 27)) (.cells #[.int .i64 t] 3);exact⟨((eU.new w G 27).below k1),(by have h9:=(heap_alloc_new (w.alloc (.cells #[.slice G.aR G.R.length G.cR,.slice G.aS G.S.length G.cS,.slice G.aP G.P.length G.cP,.slice G.aL G.L.length G.cL,.int .i64 G.st] 27)) (.cells #[.int .i64 t] 3));simpa using h9),(k0.trans (k1.mono k0.size))⟩
 have iL:Hid (w2.heap.size=w.heap.size+2):=by show _=_;rw[<-bD];simp
 go_enter func22,ntmps22;go_upto_region 1 with fail
 try rw[bD]
 clear bD;have HB:=hid H.out.2.2;have c2:=H.out.1.c2;have HI:Hid (∀b,w.heap.size+1=b->Calls prog 48 #[.slice G.aP G.P.length G.cP,.func (.func 49) #[] #[.pointer (some ⟨b,0,none⟩)]] w2 (vu G.P (fun x=>x.bB=t/\x.par=true) w2)):=fun b hb=>by
  subst hb;have h9:w2.cell? ⟨w.heap.size+1,0,none⟩=some (.int .i64 t):=by rw[cell_of_row w2 _ 0 _ _ _ H.out.2.1];rfl
  have h8:=iL.out;exact YL 49 zjm (fun x=>x.bB=t/\x.par=true) _ _ _ _ G.P rfl HA.out.2 w2 (HA.out.1.below HB.out).p (fun x W k=>zlk x _ t W ((k.cell (p:=⟨w.heap.size+1,0,none⟩) (by show w.heap.size+1<w2.heap.size;omega)).trans h9) (by have:=k.size;omega))
 have qX:=hid (HI.out _ rfl);clear HI H;go_wp2_with (go_at_call 48;refine qX.out.mono ?_);rintro e w3 ⟨r,rfl,hr,b3⟩;have HF:=hid (Zz (znr hr) (HB.out.trans (b3.mono HB.out.size)));clear hr b3 qX c2;go_wp2;go_ret;exact⟨by rw[<-HF.out.1];rfl,HF.out.2⟩
theorem zox(h:¬(0<=n/\n<G.S.length)):gK G ⟨true,n⟩=⟨#[63]⟩:=by
 by_cases h0:n<0
 ·exact RD h0
 exact Xt (by omega)
theorem zoy(h:¬(0<=n/\n<G.R.length)):gK G ⟨false,n⟩=⟨#[63]⟩:=by
 by_cases h0:n<0
 ·exact RD h0
 exact Wu (by omega)
theorem Qb(h:0<=n/\n<m)(w:World):Calls prog 43 #[.int .i64 n,.int .i64 m] w (fun e w'=>e=.returned (.bool true)/\w'=w):=by
 have h9:=Mg n m w;unfold qL at h9;rw[show (decide (0<=n) && decide (n<m))=true by simp[h.1,h.2]] at h9;exact h9
theorem PE(h:¬(0<=n/\n<m))(w:World):Calls prog 43 #[.int .i64 n,.int .i64 m] w (fun e w'=>e=.returned (.bool false)/\w'=w):=by
 have h9:=Mg n m w;unfold qL at h9;rw[show (decide (0<=n) && decide (n<m))=false by rw[<-Bool.decide_and];exact decide_eq_false h] at h9;exact h9
theorem Sc(G:Gr)(x:Sy)(w:World)(hA:G.At w)(hL:G.na 9223372036854775807):
  Calls prog 45 #[G.val,.agg (de x).toArray] w (iP (gK G x) w):=by
 show Calls prog 45 #[.agg #[.slice G.aR G.R.length G.cR,.slice G.aS G.S.length G.cS,.slice G.aP G.P.length G.cP,.slice G.aL G.L.length G.cL,.int .i64 G.st],.agg #[.bool x.s,.int .i64 x.n]] w _;have HA:=hid hA;have BO:=hL.r;have uS:=hL.s;clear hA hL;obtain⟨w2,bD⟩:∃w2,((w.alloc (.cells #[.slice G.aR G.R.length G.cR,.slice G.aS G.S.length G.cS,.slice G.aP G.P.length G.cP,.slice G.aL G.L.length G.cL,.int .i64 G.st] 27)).alloc (.cells #[.bool x.s,.int .i64 x.n] 38))=w2:=⟨_,rfl⟩
 have H:Hid (eU w2 w.heap.size G/\kJ w2 (w.heap.size+1) x/\Below w.heap.size w w2):=by
  rw[<-bD];have k0:=al w (.cells #[.slice G.aR G.R.length G.cR,.slice G.aS G.S.length G.cS,.slice G.aP G.P.length G.cP,.slice G.aL G.L.length G.cL,.int .i64 G.st] 27);have k1:=al (w.alloc (.cells #[.slice G.aR G.R.length G.cR,.slice G.aS G.S.length G.cS,.slice G.aP G.P.length G.cP,.slice G.aL G.L.length G.cL,.int .i64 G.st] 27)) (.cells #[.bool x.s,.int .i64 x.n] 38);exact⟨((eU.new w G 27).below k1),(by have h9:=(kJ.new (w.alloc (.cells #[.slice G.aR G.R.length G.cR,.slice G.aS G.S.length G.cS,.slice G.aP G.P.length G.cP,.slice G.aL G.L.length G.cL,.int .i64 G.st] 27)) x 38);simpa using h9),(k0.trans (k1.mono k0.size))⟩
 have iL:Hid (w2.heap.size=w.heap.size+2):=by show _=_;rw[<-bD];simp
 go_enter func45,ntmps45;go_upto_region 1 with fail
 try rw[bD]
 clear bD;have c0:=H.out.1.c0;have c1:=H.out.1.c1;have s0:=H.out.2.1.c0;have s1:=H.out.2.1.c1;have HB:=hid H.out.2.2;obtain⟨xs,n⟩:=x;dsimp only at s0 s1;rcases xs with _|_
 ·by_cases h0:0<=n/\n<(G.R.length:Int)
  ·obtain⟨k,rfl⟩:=Int.eq_ofNat_of_zero_le h0.1;have qX:=hid (Qb h0 w2);have hk:k<G.R.length:=(by omega);obtain⟨g1,o1,e1,jx,x0,x1,x2⟩:=(HA.out.below HB.out).r.get k hk;have HZ:Hid (gK G ⟨false,(k:Int)⟩=G.R[k].nm):=YC hk;rw[e1] at c0;generalize G.R[k].nm=q at x0 HZ;clear x1 x2 e1 h0;go_wp2_with (go_at_call 43;refine qX.out.mono ?_;rintro e w3 ⟨rfl,rfl⟩);go_ret;exact⟨by rw[HZ.out];rfl,HB.out⟩
  have HZ:Hid (gK G ⟨false,n⟩=⟨#[63]⟩):=zoy h0;have qX:=hid (PE h0 w2);clear h0;go_wp2_with (go_at_call 43;refine qX.out.mono ?_;rintro e w3 ⟨rfl,rfl⟩);go_ret;exact⟨by rw[HZ.out];rfl,HB.out⟩
 by_cases h0:0<=n/\n<(G.S.length:Int)
 ·obtain⟨k,rfl⟩:=Int.eq_ofNat_of_zero_le h0.1;have qX:=hid (Qb h0 w2);have hk:k<G.S.length:=by omega
  obtain⟨g1,o1,e1,jx,q1⟩:=(HA.out.below HB.out).s (by omega);have x1:=q1 k hk;have HZ:Hid (gK G ⟨true,(k:Int)⟩=G.S[k]):=TM hk;rw[e1] at c1;generalize G.S[k]=q at x1 HZ;clear q1 e1 h0;go_wp2_with (go_at_call 43;refine qX.out.mono ?_;rintro e w3 ⟨rfl,rfl⟩);go_ret;exact⟨by rw[HZ.out];rfl,HB.out⟩
 have HZ:Hid (gK G ⟨true,n⟩=⟨#[63]⟩):=zox h0;have qX:=hid (PE h0 w2);clear h0;go_wp2_with (go_at_call 43;refine qX.out.mono ?_;rintro e w3 ⟨rfl,rfl⟩);go_ret;exact⟨by rw[HZ.out];rfl,HB.out⟩
end Go.Proofs.YtiijebameffenaaGreat
