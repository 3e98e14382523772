import Derived.Test.YtiijebameffenaaGreatZGMath
import Derived.Test.YtiijebameffenaaGreatZTk
import Derived.Laws.ResultCell
set_option linter.all false
set_option maxHeartbeats 4000000
set_option maxRecDepth 100000
open Go.Lib (hid)
namespace Go.Proofs.YtiijebameffenaaGreat
open Go.RowKit Go.Maps Go.WideElems Go.ChangeMaps Go.MapKept Go.Proofs.Tryz
variable {G:Gr}{i k:Nat}{m n:Int}{w' wr:World}
def MW(z:Int)(w:World)(e:Ending)(w':World):Prop:=e=.returned (.int .i64 z)/\Below w.heap.size w w'
def jC(w:World)(b:Nat)(G:Gr)(wr:World):Prop:=ez wr b G/\Below w.heap.size w wr
theorem jC.aa{w:World}{b:Nat}(h:jC w b G wr)(k:Below wr.heap.size wr w'):jC w b G w':=⟨h.1.below k,h.2.trans (k.mono h.2.size)⟩
theorem SU(h:bD (ky G i)=false):fL G i=8:=by simp[fL,h]
theorem Kr(h:bD (ky G i)=true)(h1:(∃k,k<i/\ky G k=ky G i)\/∃k,k<G.R.length/\(yo G k).nm=ky G i):fL G i=9:=by
 unfold fL;rw[if_neg (by simp[h])];split
 ·rfl
 rename_i h2;rw[if_pos (h1.resolve_left h2)]
theorem LC(h:bD (ky G i)=true)(h1:∀k,k<i->ky G k≠ky G i)(h2:∀k,k<G.R.length->(yo G k).nm≠ky G i):fL G i=0:=by
 unfold fL;rw[if_neg (by simp[h]),if_neg (fun ⟨k,h3,h4⟩=>h1 k h3 h4),if_neg (fun ⟨k,h3,h4⟩=>h2 k h3 h4)]
def jM(p:Prop)(w:World)(e:Ending)(w':World):Prop:=∃b,(b=true↔p)/\xU b w e w'
theorem zjv{p:fC}(h:p.body.length≠3):eY p=false:=by
 unfold eY;split
 ·rename_i e;rw[e] at h;exact absurd rfl h
 rfl
theorem zlD{p:fC}(h:p.body.length=3):eY p=(!(p.body[0].s) && p.body[1].s && p.body[1].n == p.cj && !(p.body[2].s)):=by
 obtain⟨r,s,a,c,B,b,q,ah,ch,hs⟩:=p;simp only at h
 match B,h with
 | [x,y,z],_=>rfl
section
variable {G : Gr}{i : Nat}{x : fC}(hx : du G i = x)
include hx
theorem Ty(h:x.cj<0\/(G.S.length:Int)<=x.cj):fY G i=11:=by unfold fY;rw[hx];exact if_pos h
theorem U4(h1:¬(x.cj<0\/(G.S.length:Int)<=x.cj))(h:bD x.cJ=false):fY G i=8:=by unfold fY;rw[hx];dsimp only;rw[if_neg h1,if_pos h]
theorem YL(h1:¬(x.cj<0\/(G.S.length:Int)<=x.cj))(h2:bD x.cJ=true)(h:12<x.body.length):fY G i=6:=by unfold fY;rw[hx];dsimp only;rw[if_neg h1,if_neg (by simp[h2]),if_pos h]
theorem Uy(h1:¬(x.cj<0\/(G.S.length:Int)<=x.cj))(h2:bD x.cJ=true)(h3:¬12<x.body.length)(h:x.hints.length≠x.body.length-1):fY G i=1:=by
 unfold fY;rw[hx];dsimp only;rw[if_neg h1,if_neg (by simp[h2]),if_neg h3,if_pos h]
theorem IN(h1:¬(x.cj<0\/(G.S.length:Int)<=x.cj))(h2:bD x.cJ=true)(h3:¬12<x.body.length)(h4:x.hints.length=x.body.length-1):fY G i=(open Classical in
  if (∃k,k<i/\(du G k).cJ=x.cJ) then 9 else if (∃y∈x.body,dT G y=false) then 11 else if (∃z∈x.hints,z<0\/3<z) then 1
  else if x.prec≠-1/\ie G x.prec=false then 11 else if x.par=true/\eY x=false then 15 else 0):=by
 unfold fY;rw[hx];dsimp only;rw[if_neg h1,if_neg (by simp[h2]),if_neg h3,if_neg (by simp[h4])]
end
theorem ZK{w:World}(hA:G.At w)(h0:0<G.P.length):∃g o,G.aP=some ⟨g,o,none⟩/\∀wr,Below w.heap.size w wr->∀a,a<G.P.length->(du G a).At wr/\wr.cell? ⟨g,o+a*6,none⟩=some (.int .i64 (du G a).cj)/\wr.cell? ⟨g,o+a*6+1,none⟩=some (.string (du G a).cJ)/\
   wr.cell? ⟨g,o+a*6+2,none⟩=some (.slice (du G a).ab (du G a).body.length (du G a).cb)/\wr.cell? ⟨g,o+a*6+3,none⟩=some (.bool (du G a).par)/\wr.cell? ⟨g,o+a*6+4,none⟩=some (.int .i64 (du G a).prec)/\wr.cell? ⟨g,o+a*6+5,none⟩=some (.slice (du G a).ah (du G a).hints.length (du G a).ch):=by
 obtain⟨g,o,e,_⟩:=hA.p h0;refine⟨g,o,e,fun wr hb a ha=>?_⟩;obtain⟨g',o',e',_,h1,h2⟩:=(hA.p.below hb).get a ha;rw[e] at e';injection e' with e';injection e' with e1 e2;subst e1 e2;rw[A8 ha];exact⟨h1,h2⟩
def GM(w:World)(b:Nat)(G:Gr)(x:fC)(wr:World):Prop:=ez wr b G/\tO wr (b+1) x/\Below w.heap.size w wr
theorem GM.aa{w:World}{b:Nat}{x:fC}(h:GM w b G x wr)(k:Below wr.heap.size wr w'):GM w b G x w':=⟨h.1.below k,h.2.1.below k,h.2.2.trans (k.mono h.2.2.size)⟩
structure lB (G:Gr):Prop where
 rl:G.R.length<=20
 rr:Am G.R G.R.length
 s:G.S.length<=20
 p:G.P.length<=40
 l:G.L.length<=20
 ss:∀i (h:i<G.S.length),G.S[i].size<=100
 ps:∀i (h:i<G.P.length),G.P[i].cJ.size<=100/\G.P[i].body.length<=20/\G.P[i].hints.length<=20
 ls:∀i (h:i<G.L.length),G.L[i].rules.length<=20
theorem lB.lim(h:lB G){m:Nat}(hm:100<=m):G.mK m:=
 ⟨by have:=h.rl;omega,by have:=h.s;omega,by have:=h.p;omega,by have:=h.l;omega,fun i hi=>by have:=h.rr i hi hi;omega,fun i hi=>by have:=h.ss i hi;omega,fun i hi=>by have:=h.ps i hi;omega,fun i hi=>by have:=h.ls i hi;omega⟩
def O6(G:Gr)(w:World)(e:Ending)(w':World):Prop:=∃bo:Bool,e=.returned (.bool bo)/\(bo=true->lB G)/\Below w.heap.size w w'
theorem Zu(G:Gr)(w:World)(hA:G.At w)(hL:G.mK 9223372036854775807):
  Calls prog 8 #[G.val] w (O6 G w):=by
 show Calls prog 8 #[.agg #[.slice G.aR G.R.length G.cR,.slice G.aS G.S.length G.cS,.slice G.aP G.P.length G.cP,.slice G.aL G.L.length G.cL,.int .i64 G.st]] w _;have HA:=hid (Zz hA hL);have Pb:=hL.r;have AT:=hL.s;have LW:=hL.p;have xd:=hL.l;clear hA hL;obtain⟨w2,bQ⟩:∃w2,(w.alloc (.cells #[.slice G.aR G.R.length G.cR,.slice G.aS G.S.length G.cS,.slice G.aP G.P.length G.cP,.slice G.aL G.L.length G.cL,.int .i64 G.st] 27))=w2:=⟨_,rfl⟩
 have H:Hid (ez w2 w.heap.size G/\Below w.heap.size w w2):=by
  rw[<-bQ];have k0:=al w (.cells #[.slice G.aR G.R.length G.cR,.slice G.aS G.S.length G.cS,.slice G.aP G.P.length G.cP,.slice G.aL G.L.length G.cL,.int .i64 G.st] 27);exact⟨(ez.new w G 27),k0⟩
 have ld:Hid (w2.heap.size=w.heap.size+1):=by show _=_;rw[<-bQ];simp
 go_enter func8,ntmps8;go_upto_region 1 with fail
 try rw[bQ]
 clear bQ;obtain⟨b,hb⟩:∃b,w.heap.size=b:=⟨_,rfl⟩
 have HX:Hid (jC w b G w2):=by rw[<-hb];exact H.out
 rw[hb];clear hb H ld;have kD:Hid (∀w',Below w.heap.size w w'->O6 G w (.returned (.bool false)) w'):=fun w' h=>⟨false,rfl,fun h=>(by cases h),h⟩
 have HF:=hid (zjd G.R.length G.cR G.aR G.R rfl Pb w2 (HA.out.1.r.below HX.out.2));have c0:=HX.out.1.c0;go_wp2_with (go_at_call 25;refine HF.out.mono ?_);rintro e w3 ⟨bo,rfl,jE,b3⟩;have HY:=hid (HX.out.aa b3);clear b3 c0 HF HX;rcases bo with _|_
 ·clear jE;go_wp2;go_ret;exact kD.out _ HY.out.2
 have WC:=hid (jE rfl);clear jE;have c1:=HY.out.1.c1;have c2:=HY.out.1.c2;have c3:=HY.out.1.c3;obtain⟨n,hn⟩:∃n,G.S.length=n:=⟨_,rfl⟩
 obtain⟨m,hm⟩:∃m,G.P.length=m:=⟨_,rfl⟩
 obtain⟨d,hd⟩:∃d,G.L.length=d:=⟨_,rfl⟩
 have HN:=hid (Zz hn (Zz hm hd));rw[hn] at AT c1;rw[hm] at LW c2;rw[hd] at xd c3;clear hn hm hd;by_cases h1:20<n
 ·have j1:(20:Int)<n:=by omega
  go_wp2;go_ret;exact kD.out _ HY.out.2
 have j1:¬(20:Int)<n:=by omega
 by_cases h2:40<m
 ·have j2:(40:Int)<m:=by omega
  go_wp2;go_ret;exact kD.out _ HY.out.2
 have j2:¬(40:Int)<m:=by omega
 by_cases h3:20<d
 ·have j3:(20:Int)<d:=by omega
  go_wp2;go_ret;exact kD.out _ HY.out.2
 have j3:¬(20:Int)<d:=by omega
 go_wp2;go_loopw [3] (fun v wr=>∃k:Nat,v=.int .i64 k/\k<=n/\wr=w3/\Hid (∀j (h:j<G.S.length),j<k->G.S[j].size<=100)) (fun v _=>n-(intOf v).toNat)
 ·exact⟨0,rfl,Nat.zero_le _,rfl,fun j _ h=>absurd h (by omega)⟩
 obtain⟨k,rfl,hk,rfl,HR⟩:=hrel;by_cases aw:k<n
 ·have i2:(k:Int)<n:=by omega
  have jU:k<G.S.length:=by rw[HN.out.1];exact aw
  obtain⟨g1,o1,e1,_,y1⟩:=(HA.out.1.s.below HY.out.2) (by omega);have x1:=y1 k jU;have HK:Hid (G.S[k].size<=100->∀j (h:j<G.S.length),j<k+1->G.S[j].size<=100):=fun h j hj h3=>by
   by_cases e:j=k
   ·subst e;exact h
   exact HR.out j hj (by omega)
  rw[e1] at c1;clear y1 e1;generalize G.S[k]=u at x1 HK;by_cases hu:100<u.size
  ·have j4:(100:Int)<(u.size:Int):=(by omega);go_wp2;go_ret;exact kD.out _ HY.out.2
  have j4:¬(100:Int)<(u.size:Int):=by omega
  have HZ:=hid (HK.out (by omega));go_wp2;go_roundw
  ·exact⟨k+1,by go_num,by omega,by first|trivial|rfl,HZ.out⟩
  simp[intOf];omega
 obtain rfl:k=n:=by omega
 have FM:Hid (∀j (h:j<G.S.length),G.S[j].size<=100):=fun j hj=>HR.out j hj (by rw[<-HN.out.1];exact hj)
 clear HR;go_wp2_with fail;obtain⟨wn,M0⟩:∃wn,wn=wr:=⟨_,rfl⟩
 subst M0;go_loopw [4] (fun v wr=>∃q:Nat,v=.int .i64 q/\q<=m/\wr=wn/\Hid (∀j (h:j<G.P.length),j<q->G.P[j].cJ.size<=100/\G.P[j].body.length<=20/\G.P[j].hints.length<=20)) (fun v _=>m-(intOf v).toNat)
 ·exact⟨0,rfl,Nat.zero_le _,rfl,fun j _ h=>absurd h (by omega)⟩
 obtain⟨q,rfl,hq,rfl,HR⟩:=hrel;by_cases aw:q<m
 ·have i2:(q:Int)<m:=by omega
  have jU:q<G.P.length:=by rw[HN.out.2.1];exact aw
  obtain⟨g1,o1,e1,_,y0,y1,y2,y3,y4,y5,y6⟩:=(HA.out.1.p.below HY.out.2).get q jU;have hz:=HA.out.2.ps q jU;have HK:Hid (G.P[q].cJ.size<=100->G.P[q].body.length<=20->G.P[q].hints.length<=20->∀j (h:j<G.P.length),j<q+1->G.P[j].cJ.size<=100/\G.P[j].body.length<=20/\G.P[j].hints.length<=20):=fun f1 f2 f3 j hj h3=>by
   by_cases e:j=q
   ·subst e;exact⟨f1,f2,f3⟩
   exact HR.out j hj (by omega)
  rw[e1] at c2;clear e1 y0 y1 y4 y5;generalize G.P[q]=x at y2 y3 y6 HK hz;obtain⟨xs,xc,xa,xcb,xb,xp,xq,xah,xch,xh⟩:=x;dsimp only at y2 y3 y6 HK hz;obtain⟨z1,z2,z3⟩:=hz;generalize xb.length=nb at y3 HK z2;generalize xh.length=nh at y6 HK z3;by_cases f1:20<nb
  ·have j4:(20:Int)<nb:=(by omega);go_wp2;go_ret;exact kD.out _ HY.out.2
  have j4:¬(20:Int)<nb:=by omega
  by_cases f2:20<nh
  ·have j5:(20:Int)<nh:=(by omega);go_wp2;go_ret;exact kD.out _ HY.out.2
  have j5:¬(20:Int)<nh:=by omega
  by_cases f3:100<xc.size
  ·have j6:(100:Int)<(xc.size:Int):=(by omega);go_wp2;go_ret;exact kD.out _ HY.out.2
  have j6:¬(100:Int)<(xc.size:Int):=by omega
  have HZ:=hid (HK.out (by omega) (by omega) (by omega));clear HK HR;go_wp2;go_roundw
  ·exact⟨q+1,by go_num,by omega,by first|trivial|rfl,HZ.out⟩
  simp[intOf];omega
 obtain rfl:q=m:=by omega
 have HPs:Hid (∀j (h:j<G.P.length),G.P[j].cJ.size<=100/\G.P[j].body.length<=20/\G.P[j].hints.length<=20):=fun j hj=>HR.out j hj (by rw[<-HN.out.2.1];exact hj)
 clear HR;go_wp2_with fail;obtain⟨wn,M0⟩:∃wn,wn=wr:=⟨_,rfl⟩
 subst M0;go_loopw [5] (fun v wr=>∃y:Nat,v=.int .i64 y/\y<=d/\wr=wn/\Hid (∀j (h:j<G.L.length),j<y->G.L[j].rules.length<=20)) (fun v _=>d-(intOf v).toNat)
 ·exact⟨0,rfl,Nat.zero_le _,rfl,fun j _ h=>absurd h (by omega)⟩
 obtain⟨y,rfl,hy,rfl,HR⟩:=hrel;by_cases aw:y<d
 ·have i2:(y:Int)<d:=by omega
  have jU:y<G.L.length:=by rw[HN.out.2.2];exact aw
  obtain⟨g1,o1,e1,_,y0,y1,y2⟩:=(HA.out.1.l.below HY.out.2).get y jU;have hz:=HA.out.2.ls y jU;have HK:Hid (G.L[y].rules.length<=20->∀j (h:j<G.L.length),j<y+1->G.L[j].rules.length<=20):=fun f1 j hj h3=>by
   by_cases e:j=y
   ·subst e;exact f1
   exact HR.out j hj (by omega)
  rw[e1] at c3;clear e1 y0 y1;generalize G.L[y]=x at y2 HK hz;obtain⟨xs,xa,xc,xr⟩:=x;dsimp only at y2 HK hz;generalize xr.length=nr at y2 HK hz;by_cases f1:20<nr
  ·have j4:(20:Int)<nr:=(by omega);go_wp2;go_ret;exact kD.out _ HY.out.2
  have j4:¬(20:Int)<nr:=by omega
  have HZ:=hid (HK.out (by omega));clear HK HR;go_wp2;go_roundw
  ·exact⟨y+1,by go_num,by omega,by first|trivial|rfl,HZ.out⟩
  simp[intOf];omega
 obtain rfl:y=d:=by omega
 have HZ:Hid (lB G):=⟨WC.out.1,WC.out.2,by rw[HN.out.1];omega,by rw[HN.out.2.1];omega,by rw[HN.out.2.2];omega,FM.out,HPs.out,fun j hj=>HR.out j hj (by rw[<-HN.out.2.2];exact hj)⟩
 go_wp2;go_ret;exact⟨true,rfl,fun _=>HZ.out,HY.out.2⟩
def qH(G:Gr)(s:ByteArray):Sy × Bool:=
 if pC s (G.R.map Ru.nm)<G.R.length then (⟨false,((pC s (G.R.map Ru.nm):Nat):Int)⟩,true) else if pC s G.S<G.S.length then (⟨true,((pC s G.S:Nat):Int)⟩,true) else (⟨false,0⟩,false)
theorem zpN{s:ByteArray}(hk:k<G.R.length)(h:G.R[k].nm=s)(hn:∀j (h:j<G.R.length),j<k->G.R[j].nm≠s):qH G s=(⟨false,(k:Int)⟩,true):=by
 have:=OV (s:=s) (l:=G.R.map Ru.nm) (k:=k) (by simpa using hk) (by simpa using h) (fun j hj hjk=>by simp at hj⊢;exact hn j hj hjk);unfold qH;rw[this,if_pos hk]
theorem zpO{s:ByteArray}(hr:∀j (h:j<G.R.length),G.R[j].nm≠s)(hk:k<G.S.length)(h:G.S[k]=s)(hn:∀j (h:j<G.S.length),j<k->G.S[j]≠s):qH G s=(⟨true,(k:Int)⟩,true):=by
 have h1:=Kc (s:=s) (l:=G.R.map Ru.nm) (fun j hj=>by simp at hj⊢;exact hr j hj);unfold qH;rw[h1,if_neg (by simp),OV hk h hn,if_pos hk]
theorem PT{w:World}{g t:Nat}{c0 c1:Value}(h:w.heap[g]?=some (.cells #[c0,c1] t (0,0)))(d0 d1:Value):
  ((w.setCell ⟨g,0,none⟩ d0).setCell ⟨g,1,none⟩ d1).cell? ⟨g,0,none⟩=some d0/\((w.setCell ⟨g,0,none⟩ d0).setCell ⟨g,1,none⟩ d1).cell? ⟨g,1,none⟩=some d1:=by
 have h1:=heap_setCell_same w g 0 _ _ d0 h;have h2:=heap_setCell_same _ g 1 _ _ d1 h1;rw[cell_of_row _ g 0 _ _ _ h2,cell_of_row _ g 1 _ _ _ h2];exact⟨rfl,rfl⟩
def Ql(G:Gr)(s:ByteArray)(w:World)(e:Ending)(w':World):Prop:=e=.returned (.tuple #[.agg (jw (qH G s).1).toArray,.bool (qH G s).2])/\Below w.heap.size w w'
def UJ(G:Gr)(t:Int):Nat->List Int
 | 0=>[]
 | i+1=>if (du G i).cj=t then UJ G t i++[(i:Int)] else UJ G t i
def jJ(G:Gr)(p:fC):Nat->ByteArray
 | 0=>((ly G ⟨true,p.cj⟩++⟨#[46]⟩)++p.cJ)++⟨#[32,61]⟩
 | k+1=>(jJ G p k++⟨#[32]⟩)++ly G (p.body.getD k ⟨false,0⟩)
def qR(G:Gr)(i:Int):ByteArray:=if 0<=i/\i<G.P.length then jJ G (du G i.toNat) (du G i.toNat).body.length else ⟨#[]⟩
theorem MP(h:lB G)(y:Sy):(ly G y).size<=100:=by
 unfold ly;split
 ·decide
 split
 ·rename_i h1 h2;have hk:y.n.toNat<G.S.length:=by omega
  rw[xY hk];exact h.ss _ hk
 split
 ·rename_i h1 h2 h3;have hk:y.n.toNat<G.R.length:=by omega
  rw[Hw hk];exact (h.rr _ hk hk).2
 decide
theorem zjy(h:lB G){p:fC}(hc:p.cJ.size<=100)(k:Nat):(jJ G p k).size<=203+101*k:=by
 induction k with
 | zero=>
  have:=MP h ⟨true,p.cj⟩;have e1:(⟨#[46]⟩:ByteArray).size=1:=rfl;have e2:(⟨#[32,61]⟩:ByteArray).size=2:=rfl;simp only[jJ,ByteArray.size_append,e1,e2];omega
 | succ k ih=>
  have:=MP h (p.body.getD k ⟨false,0⟩);have e1:(⟨#[32]⟩:ByteArray).size=1:=rfl;simp only[jJ,ByteArray.size_append,e1];omega
theorem zlF(h:i<G.P.length):qR G (i:Int)=jJ G (du G i) (du G i).body.length:=by
 unfold qR;rw[if_pos ⟨by omega,by omega⟩,Int.toNat_natCast]
theorem zjz{i:Int}(h:¬(0<=i/\i<G.P.length)):qR G i=⟨#[]⟩:=if_neg h
theorem zo8(h:ie G ((gb G i).rules.getD k 0)=false):wJ G i k=11:=if_pos h
theorem Z8(h:ie G ((gb G i).rules.getD k 0)=true)(hs:o9 G i k):wJ G i k=9:=by unfold wJ;rw[if_neg (by simp only[h];decide),if_pos hs]
theorem zpP(h:ie G ((gb G i).rules.getD k 0)=true)(hs:¬o9 G i k):wJ G i k=0:=by unfold wJ;rw[if_neg (by simp only[h];decide),if_neg hs]
theorem znS(h:300<G.S.length):bY G=(6,2,(G.S.length:Int)):=if_pos h
theorem znT(h1:¬300<G.S.length)(hk:k<G.S.length)(h:∀j,j<k->fL G j=0)(hn:fL G k≠0):bY G=(fL G k,2,(k:Int)):=by
 obtain⟨e1,e2⟩:=EU hk h hn;unfold bY;rw[if_neg h1,if_pos (by rw[e1];exact hn),e1,e2]
theorem znU(h1:¬300<G.S.length)(h2:∀j,j<G.S.length->fL G j=0)(h:200<G.P.length):bY G=(6,3,(G.P.length:Int)):=by
 unfold bY;rw[if_neg h1,if_neg (by rw[vy h2];simp),if_pos h]
theorem znV(h1:¬300<G.S.length)(h2:∀j,j<G.S.length->fL G j=0)(h3:¬200<G.P.length)(hk:k<G.P.length)(h:∀j,j<k->fY G j=0)(hn:fY G k≠0):bY G=(fY G k,3,(k:Int)):=by
 obtain⟨e1,e2⟩:=EU hk h hn;unfold bY;rw[if_neg h1,if_neg (by rw[vy h2];simp),if_neg h3,if_pos (by rw[e1];exact hn),e1,e2]
theorem Y1(h1:¬300<G.S.length)(h2:∀j,j<G.S.length->fL G j=0)(h3:¬200<G.P.length)(h4:∀j,j<G.P.length->fY G j=0)(h5:∀j,j<G.L.length->oC G j=0):bY G=if G.st<0\/(G.S.length:Int)<=G.st then (11,5,0) else (0,0,0):=by
 unfold bY;rw[if_neg h1,if_neg (by rw[vy h2];simp),if_neg h3,if_neg (by rw[vy h4];simp),if_neg (by rw[vy h5];simp)]
noncomputable def jn (G:Gr) (i er:Int):Int × Int × Int:=if er≠0 then (er,1,i) else bY G
def zpQ(Q:Int->Int->Prop)(w:World)(e:Ending)(w':World):Prop:=∃i er:Int,e=.returned (.tuple #[.int .i64 i,.int .i64 er])/\Q i er/\Below w.heap.size w w'
def zO(Q:Int->Int->Prop)(G:Gr)(w:World)(e:Ending)(w':World):Prop:=
 ∃i er,Q i er/\e=.returned (.agg #[.int .i64 (jn G i er).1,.int .i64 (jn G i er).2.1,.int .i64 (jn G i er).2.2])/\Below w.heap.size w w'
def zc(w:World)(e:Ending)(w':World):Prop:=e=.returned (.bool true)/\Below w.heap.size w w'
def qN(n m:Int)(w:World)(e:Ending)(w':World):Prop:=e=.returned (.bool (decide (0<=n) && decide (n<m)))/\w'=w
theorem LJ(n m:Int)(w:World):Calls prog 43 #[.int .i64 n,.int .i64 m] w (qN n m w):=by
 go_enter func43,ntmps43;by_cases h0:0<=n
 ·by_cases h1:n<m
  ·have HZ:Hid (qN n m w (.returned (.bool true)) w):=(⟨by simp[h0,h1],rfl⟩);go_wp2;go_ret;exact HZ.out
  have HZ:Hid (qN n m w (.returned (.bool false)) w):=⟨by simp[h0,h1],rfl⟩
  go_wp2;go_ret;exact HZ.out
 have HZ:Hid (qN n m w (.returned (.bool false)) w):=⟨by simp[h0],rfl⟩
 go_wp2;go_ret;exact HZ.out
def Nt(n:Int)(w:World)(e:Ending)(w':World):Prop:=e=.returned (.agg #[.bool true,.int .i64 n])/\Below w.heap.size w w'
theorem yh(n:Int)(w:World):Calls prog 30 #[.int .i64 n] w (Nt n w):=by
 have k0:=al w (.cells #[.bool true,.int .i64 n] 38);have HB:=hid k0;have q0:=qV w #[.bool true,.int .i64 n] 38 0 _ rfl;have q1:=qV w #[.bool true,.int .i64 n] 38 1 _ rfl;clear k0;go_enter func30,ntmps30;go_wp2_with fail;exact bodyPost_ret (v:=.agg #[.bool true,.int .i64 n]) (by simp[results,results30,go_sem,q0,q1]) rfl ⟨rfl,HB.out⟩
theorem J5(G:Gr)(x:Sy)(w:World)(hA:G.At w)(hL:G.mK 9223372036854775807):
  Calls prog 14 #[G.val,.agg (jw x).toArray] w (xU (dT G x) w):=by
 show Calls prog 14 #[.agg #[.slice G.aR G.R.length G.cR,.slice G.aS G.S.length G.cS,.slice G.aP G.P.length G.cP,.slice G.aL G.L.length G.cL,.int .i64 G.st],.agg #[.bool x.s,.int .i64 x.n]] w _;have HA:=hid hA;have Pb:=hL.r;have AT:=hL.s;clear hA hL;obtain⟨w2,bQ⟩:∃w2,((w.alloc (.cells #[.slice G.aR G.R.length G.cR,.slice G.aS G.S.length G.cS,.slice G.aP G.P.length G.cP,.slice G.aL G.L.length G.cL,.int .i64 G.st] 27)).alloc (.cells #[.bool x.s,.int .i64 x.n] 38))=w2:=⟨_,rfl⟩
 have H:Hid (ez w2 w.heap.size G/\tG w2 (w.heap.size+1) x/\Below w.heap.size w w2):=by
  rw[<-bQ];have k0:=al w (.cells #[.slice G.aR G.R.length G.cR,.slice G.aS G.S.length G.cS,.slice G.aP G.P.length G.cP,.slice G.aL G.L.length G.cL,.int .i64 G.st] 27);have k1:=al (w.alloc (.cells #[.slice G.aR G.R.length G.cR,.slice G.aS G.S.length G.cS,.slice G.aP G.P.length G.cP,.slice G.aL G.L.length G.cL,.int .i64 G.st] 27)) (.cells #[.bool x.s,.int .i64 x.n] 38);exact⟨((ez.new w G 27).below k1),(by have h9:=(tG.new (w.alloc (.cells #[.slice G.aR G.R.length G.cR,.slice G.aS G.S.length G.cS,.slice G.aP G.P.length G.cP,.slice G.aL G.L.length G.cL,.int .i64 G.st] 27)) x 38);simpa using h9),(k0.trans (k1.mono k0.size))⟩
 have ld:Hid (w2.heap.size=w.heap.size+2):=by show _=_;rw[<-bQ];simp
 go_enter func14,ntmps14;go_upto_region 1 with fail
 try rw[bQ]
 clear bQ;have c0:=H.out.1.c0;have c1:=H.out.1.c1;have s0:=H.out.2.1.c0;have s1:=H.out.2.1.c1;have HB:=hid H.out.2.2;obtain⟨xs,n⟩:=x;dsimp only at s0 s1;rcases xs with _|_
 ·have HI:=hid (LJ n (G.R.length:Int) w2);by_cases h0:0<=n/\n<(G.R.length:Int)
  ·have hd:(decide (0<=n) && decide (n<(G.R.length:Int)))=true:=(by simp[h0.1,h0.2]);obtain⟨k,rfl⟩:=Int.eq_ofNat_of_zero_le h0.1;have hk:k<G.R.length:=(by omega);obtain⟨g1,o1,e1,kj,x0,x1,x2⟩:=(HA.out.below HB.out).r.get k hk;have HZ:Hid (dT G ⟨false,(k:Int)⟩=(G.R[k].k == 0)):=znC hk;have tC:Hid (Calls prog 43 #[.int .i64 (k:Int),.int .i64 (G.R.length:Int)] w2 (fun e w'=>e=.returned (.bool true)/\w'=w2)):=by
    have h9:=HI.out;unfold qN at h9;rw[hd] at h9;exact h9
   rw[e1] at c0;generalize G.R[k].k=q at x1 HZ;clear x0 x2 e1 hd h0 HI;go_wp2_with (go_at_call 43;refine tC.out.mono ?_;rintro e w3 ⟨rfl,rfl⟩);go_ret;exact⟨by rw[HZ.out];rfl,HB.out⟩
  have HZ:Hid (dT G ⟨false,n⟩=false):=zli h0;have tC:Hid (Calls prog 43 #[.int .i64 n,.int .i64 (G.R.length:Int)] w2 (fun e w'=>e=.returned (.bool false)/\w'=w2)):=by
   have h9:=HI.out;unfold qN at h9;rw[show (decide (0<=n) && decide (n<(G.R.length:Int)))=false by rw[<-Bool.decide_and];exact decide_eq_false h0] at h9;exact h9
  clear h0 HI;go_wp2_with (go_at_call 43;refine tC.out.mono ?_;rintro e w3 ⟨rfl,rfl⟩);go_ret;exact⟨by rw[HZ.out];rfl,HB.out⟩
 have HI:=hid (LJ n (G.S.length:Int) w2);have HZ:Hid (dT G ⟨true,n⟩=(decide (0<=n) && decide (n<G.S.length))):=Ns;go_wp2_with (go_at_call 43;refine HI.out.mono ?_;rintro e w3 ⟨rfl,rfl⟩);go_ret;exact⟨by rw[HZ.out];rfl,HB.out⟩
def zr(l:List fC)(p:fC->Prop)(r:Int):Prop:=(r=-1/\∀j (h:j<l.length),¬p l[j])\/∃(i:Nat) (h:i<l.length),r=((i:Nat):Int)/\p l[i]/\∀j (h:j<l.length),j<i->¬p l[j]
def zI(l:List fC)(p:fC->Prop)(w:World)(e:Ending)(w':World):Prop:=∃r,e=.returned (.int .i64 r)/\zr l p r/\Below w.heap.size w w'
theorem zlz(fn:Nat)(Ap:∀(args:Array Value) (W:World),(callFunc fn args).run prog W=.ok (.enter fn args) W)(p:fC->Prop)(n c b:Nat)(a:Option Addr)(l:List fC)(hl:l.length=n)(hn:n<=9223372036854775807)(w:World)(h1:gf w a l)
  (hF:∀(x:fC) W,Below w.heap.size w W->Calls prog fn #[.agg #[.int .i64 x.cj,.string x.cJ,.slice x.ab x.body.length x.cb,.bool x.par,.int .i64 x.prec,.slice x.ah x.hints.length x.ch],.pointer (some ⟨b,0,none⟩)] W (jM (p x) W)):
  Calls prog 48 #[.slice a n c,.func (.func fn) #[] #[.pointer (some ⟨b,0,none⟩)]] w (zI l p w):=by
 have H:=hid (Zz h1 (Zz hl hF));clear h1 hl hF;go_enter func48,ntmps48;go_wp2;go_loopw [5,8] (fun _ v wr=>∃k:Nat,v=.int .i64 k/\k<=n/\Hid (Below w.heap.size w wr/\∀j (h:j<l.length),j<k->¬p l[j])) (fun _ v _=>n-(intOf v).toNat)
 ·exact⟨0,rfl,Nat.zero_le _,Below.refl _ _,fun j _ h=>by omega⟩
 obtain⟨k,rfl,hk,HL⟩:=hrel;by_cases aw:k<n
 case neg=>
  obtain rfl:k=n:=by omega
  have HZ:Hid (zr l p (-1)):=Or.inl ⟨rfl,fun j h=>HL.out.2 j h (by have:=H.out.2.1;omega)⟩;go_wp2;go_ret;exact⟨_,rfl,HZ.out,HL.out.1⟩
 have hkl:k<l.length:=by rw[H.out.2.1];exact aw
 obtain⟨g1,o1,rfl,_,X,x0,x1,x2,x3,x4,x5⟩:=(H.out.1.below HL.out.1).get k hkl;clear X;have HF:=hid (H.out.2.2 l[k] wr HL.out.1);have HS:Hid (¬p l[k]->∀j (h:j<l.length),j<k+1->¬p l[j]):=fun h j hj hjk=>by
  by_cases e:j=k
  ·subst e;exact h
  exact HL.out.2 j hj (by omega)
 have HY:Hid (p l[k]->zr l p (k:Int)):=fun h=>Or.inr ⟨k,hkl,rfl,h,HL.out.2⟩
 have i1:(k:Int)<n:=by omega
 generalize l[k]=x at x0 x1 x2 x3 x4 x5 HF HS HY;clear hkl;go_wp2_with fail;refine HF.out.mono ?_;rintro e w2 ⟨y,hy,rfl,b2⟩;have H2:=hid (Zz (HL.out.1.trans (b2.mono HL.out.1.size)) hy);clear b2 hy HF x0 x1 x2 x3 x4 x5;rcases y with _|_
 ·have HZ:=hid (HS.out (fun h=>by have:=H2.out.2.2 h;cases this));go_wp2;go_roundw
  ·exact⟨k+1,by go_num,by omega,H2.out.1,HZ.out⟩
  simp[intOf];omega
 have HZ:=hid (HY.out (H2.out.2.1 rfl));go_wp2;go_ret;exact⟨_,rfl,HZ.out,H2.out.1⟩
theorem zjt:∀(args:Array Value) (W:World),(callFunc 50 args).run prog W=.ok (.enter 50 args) W:=fun _ _=>by rfl
theorem zlA(x:fC)(b:Nat)(s:ByteArray)(w:World)(hc:w.cell? ⟨b,0,none⟩=some (.string s))(hb:b<w.heap.size):
  Calls prog 50 #[.agg #[.int .i64 x.cj,.string x.cJ,.slice x.ab x.body.length x.cb,.bool x.par,.int .i64 x.prec,.slice x.ah x.hints.length x.ch],.pointer (some ⟨b,0,none⟩)] w (jM (x.cJ=s) w):=by
 have HC:=hid (Zz hc hb);clear hc hb;obtain⟨w2,bQ⟩:∃w2,(w.alloc (.cells #[.int .i64 x.cj,.string x.cJ,.slice x.ab x.body.length x.cb,.bool x.par,.int .i64 x.prec,.slice x.ah x.hints.length x.ch] 47))=w2:=⟨_,rfl⟩
 have H:Hid (tO w2 w.heap.size x/\Below w.heap.size w w2):=by
  rw[<-bQ];have k0:=al w (.cells #[.int .i64 x.cj,.string x.cJ,.slice x.ab x.body.length x.cb,.bool x.par,.int .i64 x.prec,.slice x.ah x.hints.length x.ch] 47);exact⟨(tO.new w x 47),k0⟩
 have ld:Hid (w2.heap.size=w.heap.size+1):=by show _=_;rw[<-bQ];simp
 go_enter func50,ntmps50;go_upto_region 1 with fail
 try rw[bQ]
 clear bQ;have c1:=H.out.1.c1;have HB:=hid H.out.2;have e1:w2.cell? ⟨b,0,none⟩=some (.string s):=(HB.out.cell (p:=⟨b,0,none⟩) HC.out.2).trans HC.out.1;have HQ:Hid ((x.cJ.toList == s.toList)=true↔x.cJ=s):=by
  have h9:=VC x.cJ s;show _↔_;rw[h9];simp
 clear H;go_wp2;go_ret;exact⟨_,HQ.out,rfl,HB.out⟩
theorem zju(G:Gr)(s:ByteArray)(w:World)(hA:G.At w)(hL:G.P.length<=9223372036854775807):
  Calls prog 23 #[G.val,.string s] w (zI G.P (fun x=>x.cJ=s) w):=by
 show Calls prog 23 #[.agg #[.slice G.aR G.R.length G.cR,.slice G.aS G.S.length G.cS,.slice G.aP G.P.length G.cP,.slice G.aL G.L.length G.cL,.int .i64 G.st],.string s] w _;have HA:=hid (Zz hA hL);have zy:∀(fn:Fn) (first cap:Array Value) (w:World),(Instr.makeFunc fn first cap).run prog w=.ok (.func fn first cap) w:=fun _ _ _ _=>rfl
 clear hA hL;obtain⟨w2,bQ⟩:∃w2,((w.alloc (.cells #[.slice G.aR G.R.length G.cR,.slice G.aS G.S.length G.cS,.slice G.aP G.P.length G.cP,.slice G.aL G.L.length G.cL,.int .i64 G.st] 27)).alloc (.cells #[.string s] 9))=w2:=⟨_,rfl⟩
 have H:Hid (ez w2 w.heap.size G/\w2.heap[(w.heap.size+1)]?=some (.cells #[.string s] 9 (0,0))/\Below w.heap.size w w2):=by
  rw[<-bQ];have k0:=al w (.cells #[.slice G.aR G.R.length G.cR,.slice G.aS G.S.length G.cS,.slice G.aP G.P.length G.cP,.slice G.aL G.L.length G.cL,.int .i64 G.st] 27);have k1:=al (w.alloc (.cells #[.slice G.aR G.R.length G.cR,.slice G.aS G.S.length G.cS,.slice G.aP G.P.length G.cP,.slice G.aL G.L.length G.cL,.int .i64 G.st] 27)) (.cells #[.string s] 9);exact⟨((ez.new w G 27).below k1),(by have h9:=(heap_alloc_new (w.alloc (.cells #[.slice G.aR G.R.length G.cR,.slice G.aS G.S.length G.cS,.slice G.aP G.P.length G.cP,.slice G.aL G.L.length G.cL,.int .i64 G.st] 27)) (.cells #[.string s] 9));simpa using h9),(k0.trans (k1.mono k0.size))⟩
 have ld:Hid (w2.heap.size=w.heap.size+2):=by show _=_;rw[<-bQ];simp
 go_enter func23,ntmps23;go_upto_region 1 with fail
 try rw[bQ]
 clear bQ;have HB:=hid H.out.2.2;have c2:=H.out.1.c2;have HI:Hid (∀b,w.heap.size+1=b->Calls prog 48 #[.slice G.aP G.P.length G.cP,.func (.func 50) #[] #[.pointer (some ⟨b,0,none⟩)]] w2 (zI G.P (fun x=>x.cJ=s) w2)):=fun b hb=>by
  subst hb;have h9:w2.cell? ⟨w.heap.size+1,0,none⟩=some (.string s):=by rw[cell_of_row w2 _ 0 _ _ _ H.out.2.1];rfl
  have h8:=ld.out;exact zlz 50 zjt (fun x=>x.cJ=s) _ _ _ _ G.P rfl HA.out.2 w2 (HA.out.1.below HB.out).p (fun x W k=>zlA x _ s W ((k.cell (p:=⟨w.heap.size+1,0,none⟩) (by show w.heap.size+1<w2.heap.size;omega)).trans h9) (by have:=k.size;omega))
 have tC:=hid (HI.out _ rfl);clear HI H;go_wp2_with (go_at_call 48;refine tC.out.mono ?_);rintro e w3 ⟨r,rfl,hr,b3⟩;have HF:=hid (Zz hr (HB.out.trans (b3.mono HB.out.size)));clear hr b3 tC c2;go_wp2;go_ret;exact⟨_,rfl,HF.out.1,HF.out.2⟩
theorem zo0{l:List fC}{p:fC->Prop}{r:Int}(h:zr l p r)(hi:i<l.length)(hp:p l[i]):r<(i:Int)↔∃k,∃h:k<i,p (l[k]'(by omega)):=by
 rcases h with ⟨_,hn⟩|⟨q,hq,rfl,hs,hn⟩
 ·exact absurd hp (hn i hi)
 constructor
 ·intro h;exact⟨q,by omega,hs⟩
 rintro⟨k,hk,h2⟩;rcases Nat.lt_or_ge k q with h3|h3
 ·exact absurd h2 (hn k (by omega) h3)
 omega
theorem zo1(h:¬(0<=n/\n<G.S.length)):ly G ⟨true,n⟩=⟨#[63]⟩:=by
 by_cases h0:n<0
 ·exact VQ h0
 exact zoQ (by omega)
theorem Zs(h:¬(0<=n/\n<G.R.length)):ly G ⟨false,n⟩=⟨#[63]⟩:=by
 by_cases h0:n<0
 ·exact VQ h0
 exact zoR (by omega)
theorem Ry(h:0<=n/\n<m)(w:World):Calls prog 43 #[.int .i64 n,.int .i64 m] w (fun e w'=>e=.returned (.bool true)/\w'=w):=by
 have h9:=LJ n m w;unfold qN at h9;rw[show (decide (0<=n) && decide (n<m))=true by simp[h.1,h.2]] at h9;exact h9
theorem Q8(h:¬(0<=n/\n<m))(w:World):Calls prog 43 #[.int .i64 n,.int .i64 m] w (fun e w'=>e=.returned (.bool false)/\w'=w):=by
 have h9:=LJ n m w;unfold qN at h9;rw[show (decide (0<=n) && decide (n<m))=false by rw[<-Bool.decide_and];exact decide_eq_false h] at h9;exact h9
theorem zif(G:Gr)(x:Sy)(w:World)(hA:G.At w)(hL:G.mK 9223372036854775807):
  Calls prog 45 #[G.val,.agg (jw x).toArray] w (zB (ly G x) w):=by
 show Calls prog 45 #[.agg #[.slice G.aR G.R.length G.cR,.slice G.aS G.S.length G.cS,.slice G.aP G.P.length G.cP,.slice G.aL G.L.length G.cL,.int .i64 G.st],.agg #[.bool x.s,.int .i64 x.n]] w _;have HA:=hid hA;have Pb:=hL.r;have AT:=hL.s;clear hA hL;obtain⟨w2,bQ⟩:∃w2,((w.alloc (.cells #[.slice G.aR G.R.length G.cR,.slice G.aS G.S.length G.cS,.slice G.aP G.P.length G.cP,.slice G.aL G.L.length G.cL,.int .i64 G.st] 27)).alloc (.cells #[.bool x.s,.int .i64 x.n] 38))=w2:=⟨_,rfl⟩
 have H:Hid (ez w2 w.heap.size G/\tG w2 (w.heap.size+1) x/\Below w.heap.size w w2):=by
  rw[<-bQ];have k0:=al w (.cells #[.slice G.aR G.R.length G.cR,.slice G.aS G.S.length G.cS,.slice G.aP G.P.length G.cP,.slice G.aL G.L.length G.cL,.int .i64 G.st] 27);have k1:=al (w.alloc (.cells #[.slice G.aR G.R.length G.cR,.slice G.aS G.S.length G.cS,.slice G.aP G.P.length G.cP,.slice G.aL G.L.length G.cL,.int .i64 G.st] 27)) (.cells #[.bool x.s,.int .i64 x.n] 38);exact⟨((ez.new w G 27).below k1),(by have h9:=(tG.new (w.alloc (.cells #[.slice G.aR G.R.length G.cR,.slice G.aS G.S.length G.cS,.slice G.aP G.P.length G.cP,.slice G.aL G.L.length G.cL,.int .i64 G.st] 27)) x 38);simpa using h9),(k0.trans (k1.mono k0.size))⟩
 have ld:Hid (w2.heap.size=w.heap.size+2):=by show _=_;rw[<-bQ];simp
 go_enter func45,ntmps45;go_upto_region 1 with fail
 try rw[bQ]
 clear bQ;have c0:=H.out.1.c0;have c1:=H.out.1.c1;have s0:=H.out.2.1.c0;have s1:=H.out.2.1.c1;have HB:=hid H.out.2.2;obtain⟨xs,n⟩:=x;dsimp only at s0 s1;rcases xs with _|_
 ·by_cases h0:0<=n/\n<(G.R.length:Int)
  ·obtain⟨k,rfl⟩:=Int.eq_ofNat_of_zero_le h0.1;have tC:=hid (Ry h0 w2);have hk:k<G.R.length:=(by omega);obtain⟨g1,o1,e1,kj,x0,x1,x2⟩:=(HA.out.below HB.out).r.get k hk;have HZ:Hid (ly G ⟨false,(k:Int)⟩=G.R[k].nm):=zpH hk;rw[e1] at c0;generalize G.R[k].nm=q at x0 HZ;clear x1 x2 e1 h0;go_wp2_with (go_at_call 43;refine tC.out.mono ?_;rintro e w3 ⟨rfl,rfl⟩);go_ret;exact⟨by rw[HZ.out];rfl,HB.out⟩
  have HZ:Hid (ly G ⟨false,n⟩=⟨#[63]⟩):=Zs h0;have tC:=hid (Q8 h0 w2);clear h0;go_wp2_with (go_at_call 43;refine tC.out.mono ?_;rintro e w3 ⟨rfl,rfl⟩);go_ret;exact⟨by rw[HZ.out];rfl,HB.out⟩
 by_cases h0:0<=n/\n<(G.S.length:Int)
 ·obtain⟨k,rfl⟩:=Int.eq_ofNat_of_zero_le h0.1;have tC:=hid (Ry h0 w2);have hk:k<G.S.length:=by omega
  obtain⟨g1,o1,e1,kj,q1⟩:=(HA.out.below HB.out).s (by omega);have x1:=q1 k hk;have HZ:Hid (ly G ⟨true,(k:Int)⟩=G.S[k]):=zpG hk;rw[e1] at c1;generalize G.S[k]=q at x1 HZ;clear q1 e1 h0;go_wp2_with (go_at_call 43;refine tC.out.mono ?_;rintro e w3 ⟨rfl,rfl⟩);go_ret;exact⟨by rw[HZ.out];rfl,HB.out⟩
 have HZ:Hid (ly G ⟨true,n⟩=⟨#[63]⟩):=zo1 h0;have tC:=hid (Q8 h0 w2);clear h0;go_wp2_with (go_at_call 43;refine tC.out.mono ?_;rintro e w3 ⟨rfl,rfl⟩);go_ret;exact⟨by rw[HZ.out];rfl,HB.out⟩
end Go.Proofs.YtiijebameffenaaGreat
