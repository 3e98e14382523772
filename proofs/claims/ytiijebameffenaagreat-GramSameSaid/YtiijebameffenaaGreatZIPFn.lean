import Derived.Test.YtiijebameffenaaGreatZGMath
import Derived.Test.YtiijebameffenaaGreatZTk
import Derived.Laws.ResultCell
set_option linter.all false
set_option maxHeartbeats 8000000
set_option maxRecDepth 100000
open Go.Lib (hid)
namespace Go.Proofs.YtiijebameffenaaGreat
open Go.RowKit Go.Maps Go.WideElems Go.ChangeMaps Go.MapKept Go.Proofs.Tryz
open Nat (zero_le)
open Or (inl inr)
open Act (put)
variable {G K:Gr}{i k:Nat}{m n:Int}{w w' wr:World}{x y:qe}
def O4(z:Int)(w:World)(e:Ending)(w':World):Prop:=e=.returned (.int .i64 z)/\Below w.heap.size w w'
def kO(w:World)(b:Nat)(G:Gr)(wr:World):Prop:=fo wr b G/\Below w.heap.size w wr
theorem kO.aa{b:Nat}(h:kO w b G wr)(k:Below wr.heap.size wr w'):kO w b G w':=⟨h.1.below k,h.2.trans (k.mono h.2.size)⟩
theorem zpd(h:bU (pN G i)=false):je G i=8:=by simp[je,h]
theorem TK(h:bU (pN G i)=true)(h1:(∃k,k<i/\pN G k=pN G i)\/∃k,k<G.R.length/\(AK G k).nm=pN G i):je G i=9:=by
 unfold je;rw[if_neg (by simp[h])];split
 ·rfl
 rename_i h2;rw[if_pos (h1.resolve_left h2)]
theorem XA(h:bU (pN G i)=true)(h1:∀k,k<i->pN G k≠pN G i)(h2:∀k,k<G.R.length->(AK G k).nm≠pN G i):je G i=0:=by
 unfold je;rw[if_neg (by simp[h]),if_neg (fun ⟨k,h3,h4⟩=>h1 k h3 h4),if_neg (fun ⟨k,h3,h4⟩=>h2 k h3 h4)]
def ba(p:Prop)(w:World)(e:Ending)(w':World):Prop:=∃b,(b=true↔p)/\mB b w e w'
theorem zjl{p:gK}(h:p.body.length≠3):gp p=false:=by
 unfold gp;split
 ·rename_i e;rw[e] at h;exact absurd rfl h
 rfl
theorem zlk{p:gK}(h:p.body.length=3):gp p=(!(p.body[0].s) && p.body[1].s && p.body[1].n == p.bF && !(p.body[2].s)):=by
 obtain⟨r,s,a,c,B,b,q,ah,ch,hs⟩:=p;simp only at h
 match B,h with
 | [x,y,z],_=>rfl
section
variable {G : Gr}{i : Nat}{x : gK}(hx : l8 G i = x)
include hx
theorem zpe(h:x.bF<0\/(G.S.length:Int)<=x.bF):iO G i=11:=by unfold iO;rw[hx];exact if_pos h
theorem zpf(h1:¬(x.bF<0\/(G.S.length:Int)<=x.bF))(h:bU x.bG=false):iO G i=8:=by unfold iO;rw[hx];dsimp only;rw[if_neg h1,if_pos h]
theorem zpg(h1:¬(x.bF<0\/(G.S.length:Int)<=x.bF))(h2:bU x.bG=true)(h:12<x.body.length):iO G i=6:=by unfold iO;rw[hx];dsimp only;rw[if_neg h1,if_neg (by simp[h2]),if_pos h]
theorem zph(h1:¬(x.bF<0\/(G.S.length:Int)<=x.bF))(h2:bU x.bG=true)(h3:¬12<x.body.length)(h:x.hints.length≠x.body.length-1):iO G i=1:=by
 unfold iO;rw[hx];dsimp only;rw[if_neg h1,if_neg (by simp[h2]),if_neg h3,if_pos h]
theorem VH(h1:¬(x.bF<0\/(G.S.length:Int)<=x.bF))(h2:bU x.bG=true)(h3:¬12<x.body.length)(h4:x.hints.length=x.body.length-1):iO G i=(open Classical in
  if (∃k,k<i/\(l8 G k).bG=x.bG) then 9 else if (∃y∈x.body,fQ G y=false) then 11 else if (∃z∈x.hints,z<0\/3<z) then 1
  else if x.prec≠-1/\iT G x.prec=false then 11 else if x.par=true/\gp x=false then 15 else 0):=by
 unfold iO;rw[hx];dsimp only;rw[if_neg h1,if_neg (by simp[h2]),if_neg h3,if_neg (by simp[h4])]
end
theorem zll(hA:G.At w)(h0:0<G.P.length):∃g o,G.aP=some ⟨g,o,none⟩/\∀wr,Below w.heap.size w wr->∀a,a<G.P.length->(l8 G a).At wr/\wr.cell? ⟨g,o+a*6,none⟩=some (.int .i64 (l8 G a).bF)/\wr.cell? ⟨g,o+a*6+1,none⟩=some (.string (l8 G a).bG)/\
   wr.cell? ⟨g,o+a*6+2,none⟩=some (.slice (l8 G a).ab (l8 G a).body.length (l8 G a).cb)/\wr.cell? ⟨g,o+a*6+3,none⟩=some (.bool (l8 G a).par)/\wr.cell? ⟨g,o+a*6+4,none⟩=some (.int .i64 (l8 G a).prec)/\wr.cell? ⟨g,o+a*6+5,none⟩=some (.slice (l8 G a).ah (l8 G a).hints.length (l8 G a).ch):=by
 obtain⟨g,o,e,_⟩:=hA.p h0;refine⟨g,o,e,fun wr hb a ha=>?_⟩;obtain⟨g',o',e',_,h1,h2⟩:=(hA.p.below hb).get a ha;rw[e] at e';injection e' with e';injection e' with e1 e2;subst e1 e2;rw[EV ha];exact⟨h1,h2⟩
def GU(w:World)(b:Nat)(G:Gr)(x:gK)(wr:World):Prop:=fo wr b G/\lF wr (b+1) x/\Below w.heap.size w wr
theorem GU.aa{b:Nat}{x:gK}(h:GU w b G x wr)(k:Below wr.heap.size wr w'):GU w b G x w':=⟨h.1.below k,h.2.1.below k,h.2.2.trans (k.mono h.2.2.size)⟩
structure lj (G:Gr):Prop where
 rl:G.R.length<=20
 rr:yT G.R G.R.length
 s:G.S.length<=20
 p:G.P.length<=40
 l:G.L.length<=20
 ss:∀i (h:i<G.S.length),G.S[i].size<=100
 ps:∀i (h:i<G.P.length),G.P[i].bG.size<=100/\G.P[i].body.length<=20/\G.P[i].hints.length<=20
 ls:∀i (h:i<G.L.length),G.L[i].rules.length<=20
theorem lj.lim(h:lj G){m:Nat}(hm:100<=m):G.lb m:=
 ⟨by have:=h.rl;omega,by have:=h.s;omega,by have:=h.p;omega,by have:=h.l;omega,fun i hi=>by have:=h.rr i hi hi;omega,fun i hi=>by have:=h.ss i hi;omega,fun i hi=>by have:=h.ps i hi;omega,fun i hi=>by have:=h.ls i hi;omega⟩
def Jx(G:Gr)(w:World)(e:Ending)(w':World):Prop:=∃bo:Bool,e=.returned (.bool bo)/\(bo=true->lj G)/\Below w.heap.size w w'
theorem Ww(G:Gr)(w:World)(hA:G.At w)(hL:G.lb 9223372036854775807):
  Calls prog 8 #[G.val] w (Jx G w):=by
 show Calls prog 8 #[.agg #[.slice G.aR G.R.length G.cR,.slice G.aS G.S.length G.cS,.slice G.aP G.P.length G.cP,.slice G.aL G.L.length G.cL,.int .i64 G.st]] w _;have HA:=hid (Zz hA hL);have M9:=hL.r;have A3:=hL.s;have Lv:=hL.p;have xd:=hL.l;clear hA hL;obtain⟨w2,bK⟩:∃w2,(w.alloc (.cells #[.slice G.aR G.R.length G.cR,.slice G.aS G.S.length G.cS,.slice G.aP G.P.length G.cP,.slice G.aL G.L.length G.cL,.int .i64 G.st] 27))=w2:=⟨_,rfl⟩
 have H:Hid (fo w2 w.heap.size G/\Below w.heap.size w w2):=by
  rw[<-bK];have k0:=al w (.cells #[.slice G.aR G.R.length G.cR,.slice G.aS G.S.length G.cS,.slice G.aP G.P.length G.cP,.slice G.aL G.L.length G.cL,.int .i64 G.st] 27);exact⟨(fo.new w G 27),k0⟩
 have jC:Hid (w2.heap.size=w.heap.size+1):=by show _=_;rw[<-bK];simp
 go_enter func8,ntmps8;go_upto_region 1 with fail
 try rw[bK]
 clear bK;obtain⟨b,hb⟩:∃b,w.heap.size=b:=⟨_,rfl⟩
 have HX:Hid (kO w b G w2):=by rw[<-hb];exact H.out
 rw[hb];clear hb H jC;have km:Hid (∀w',Below w.heap.size w w'->Jx G w (.returned (.bool false)) w'):=fun w' h=>⟨false,rfl,fun h=>(by cases h),h⟩
 have HF:=hid (zi6 G.R.length G.cR G.aR G.R rfl M9 w2 (HA.out.1.r.below HX.out.2));have c0:=HX.out.1.c0;go_wp2_with (go_at_call 25;refine HF.out.mono ?_);rintro e w3 ⟨bo,rfl,cn,b3⟩;have HY:=hid (HX.out.aa b3);clear b3 c0 HF HX;rcases bo with _|_
 ·clear cn;go_wp2;go_ret;exact km.out _ HY.out.2
 have VK:=hid (cn rfl);clear cn;have c1:=HY.out.1.c1;have c2:=HY.out.1.c2;have c3:=HY.out.1.c3;obtain⟨n,hn⟩:∃n,G.S.length=n:=⟨_,rfl⟩
 obtain⟨m,hm⟩:∃m,G.P.length=m:=⟨_,rfl⟩
 obtain⟨d,hd⟩:∃d,G.L.length=d:=⟨_,rfl⟩
 have HN:=hid (Zz hn (Zz hm hd));rw[hn] at A3 c1;rw[hm] at Lv c2;rw[hd] at xd c3;clear hn hm hd;by_cases h1:20<n
 ·have j1:(20:Int)<n:=by omega
  go_wp2;go_ret;exact km.out _ HY.out.2
 have j1:¬(20:Int)<n:=by omega
 by_cases h2:40<m
 ·have j2:(40:Int)<m:=by omega
  go_wp2;go_ret;exact km.out _ HY.out.2
 have j2:¬(40:Int)<m:=by omega
 by_cases h3:20<d
 ·have j3:(20:Int)<d:=by omega
  go_wp2;go_ret;exact km.out _ HY.out.2
 have j3:¬(20:Int)<d:=by omega
 go_wp2;go_loopw [3] (fun v wr=>∃k:Nat,v=.int .i64 k/\k<=n/\wr=w3/\Hid (∀j (h:j<G.S.length),j<k->G.S[j].size<=100)) (fun v _=>n-(intOf v).toNat)
 ·exact⟨0,rfl,zero_le _,rfl,fun j _ h=>absurd h (by omega)⟩
 obtain⟨k,rfl,hk,rfl,HR⟩:=hrel;by_cases av:k<n
 ·have i2:(k:Int)<n:=by omega
  have cQ:k<G.S.length:=by rw[HN.out.1];exact av
  obtain⟨g1,o1,e1,_,y1⟩:=(HA.out.1.s.below HY.out.2) (by omega);have x1:=y1 k cQ;have HK:Hid (G.S[k].size<=100->∀j (h:j<G.S.length),j<k+1->G.S[j].size<=100):=fun h j hj h3=>by
   by_cases e:j=k
   ·subst e;exact h
   exact HR.out j hj (by omega)
  rw[e1] at c1;clear y1 e1;generalize G.S[k]=u at x1 HK;by_cases hu:100<u.size
  ·have j4:(100:Int)<(u.size:Int):=(by omega);go_wp2;go_ret;exact km.out _ HY.out.2
  have j4:¬(100:Int)<(u.size:Int):=by omega
  have HZ:=hid (HK.out (by omega));go_wp2;go_roundw
  ·exact⟨k+1,by go_num,by omega,by first|trivial|rfl,HZ.out⟩
  simp[intOf];omega
 obtain rfl:k=n:=by omega
 have Yr:Hid (∀j (h:j<G.S.length),G.S[j].size<=100):=fun j hj=>HR.out j hj (by rw[<-HN.out.1];exact hj)
 clear HR;go_wp2_with fail;obtain⟨wn,yN⟩:∃wn,wn=wr:=⟨_,rfl⟩
 subst yN;go_loopw [4] (fun v wr=>∃q:Nat,v=.int .i64 q/\q<=m/\wr=wn/\Hid (∀j (h:j<G.P.length),j<q->G.P[j].bG.size<=100/\G.P[j].body.length<=20/\G.P[j].hints.length<=20)) (fun v _=>m-(intOf v).toNat)
 ·exact⟨0,rfl,zero_le _,rfl,fun j _ h=>absurd h (by omega)⟩
 obtain⟨q,rfl,hq,rfl,HR⟩:=hrel;by_cases av:q<m
 ·have i2:(q:Int)<m:=by omega
  have cQ:q<G.P.length:=by rw[HN.out.2.1];exact av
  obtain⟨g1,o1,e1,_,y0,y1,y2,y3,y4,y5,y6⟩:=(HA.out.1.p.below HY.out.2).get q cQ;have hz:=HA.out.2.ps q cQ;have HK:Hid (G.P[q].bG.size<=100->G.P[q].body.length<=20->G.P[q].hints.length<=20->∀j (h:j<G.P.length),j<q+1->G.P[j].bG.size<=100/\G.P[j].body.length<=20/\G.P[j].hints.length<=20):=fun f1 f2 f3 j hj h3=>by
   by_cases e:j=q
   ·subst e;exact⟨f1,f2,f3⟩
   exact HR.out j hj (by omega)
  rw[e1] at c2;clear e1 y0 y1 y4 y5;generalize G.P[q]=x at y2 y3 y6 HK hz;obtain⟨xs,xc,xa,xcb,xb,xp,xq,xah,xch,xh⟩:=x;dsimp only at y2 y3 y6 HK hz;obtain⟨z1,z2,z3⟩:=hz;generalize xb.length=nb at y3 HK z2;generalize xh.length=nh at y6 HK z3;by_cases f1:20<nb
  ·have j4:(20:Int)<nb:=(by omega);go_wp2;go_ret;exact km.out _ HY.out.2
  have j4:¬(20:Int)<nb:=by omega
  by_cases f2:20<nh
  ·have j5:(20:Int)<nh:=(by omega);go_wp2;go_ret;exact km.out _ HY.out.2
  have j5:¬(20:Int)<nh:=by omega
  by_cases f3:100<xc.size
  ·have j6:(100:Int)<(xc.size:Int):=(by omega);go_wp2;go_ret;exact km.out _ HY.out.2
  have j6:¬(100:Int)<(xc.size:Int):=by omega
  have HZ:=hid (HK.out (by omega) (by omega) (by omega));clear HK HR;go_wp2;go_roundw
  ·exact⟨q+1,by go_num,by omega,by first|trivial|rfl,HZ.out⟩
  simp[intOf];omega
 obtain rfl:q=m:=by omega
 have HPs:Hid (∀j (h:j<G.P.length),G.P[j].bG.size<=100/\G.P[j].body.length<=20/\G.P[j].hints.length<=20):=fun j hj=>HR.out j hj (by rw[<-HN.out.2.1];exact hj)
 clear HR;go_wp2_with fail;obtain⟨wn,yN⟩:∃wn,wn=wr:=⟨_,rfl⟩
 subst yN;go_loopw [5] (fun v wr=>∃y:Nat,v=.int .i64 y/\y<=d/\wr=wn/\Hid (∀j (h:j<G.L.length),j<y->G.L[j].rules.length<=20)) (fun v _=>d-(intOf v).toNat)
 ·exact⟨0,rfl,zero_le _,rfl,fun j _ h=>absurd h (by omega)⟩
 obtain⟨y,rfl,hy,rfl,HR⟩:=hrel;by_cases av:y<d
 ·have i2:(y:Int)<d:=by omega
  have cQ:y<G.L.length:=by rw[HN.out.2.2];exact av
  obtain⟨g1,o1,e1,_,y0,y1,y2⟩:=(HA.out.1.l.below HY.out.2).get y cQ;have hz:=HA.out.2.ls y cQ;have HK:Hid (G.L[y].rules.length<=20->∀j (h:j<G.L.length),j<y+1->G.L[j].rules.length<=20):=fun f1 j hj h3=>by
   by_cases e:j=y
   ·subst e;exact f1
   exact HR.out j hj (by omega)
  rw[e1] at c3;clear e1 y0 y1;generalize G.L[y]=x at y2 HK hz;obtain⟨xs,xa,xc,xr⟩:=x;dsimp only at y2 HK hz;generalize xr.length=nr at y2 HK hz;by_cases f1:20<nr
  ·have j4:(20:Int)<nr:=(by omega);go_wp2;go_ret;exact km.out _ HY.out.2
  have j4:¬(20:Int)<nr:=by omega
  have HZ:=hid (HK.out (by omega));clear HK HR;go_wp2;go_roundw
  ·exact⟨y+1,by go_num,by omega,by first|trivial|rfl,HZ.out⟩
  simp[intOf];omega
 obtain rfl:y=d:=by omega
 have HZ:Hid (lj G):=⟨VK.out.1,VK.out.2,by rw[HN.out.1];omega,by rw[HN.out.2.1];omega,by rw[HN.out.2.2];omega,Yr.out,HPs.out,fun j hj=>HR.out j hj (by rw[<-HN.out.2.2];exact hj)⟩
 go_wp2;go_ret;exact⟨true,rfl,fun _=>HZ.out,HY.out.2⟩
def qa(G:Gr)(s:ByteArray):Sy × Bool:=
 if px s (G.R.map Ru.nm)<G.R.length then (⟨false,((px s (G.R.map Ru.nm):Nat):Int)⟩,true) else if px s G.S<G.S.length then (⟨true,((px s G.S:Nat):Int)⟩,true) else (⟨false,0⟩,false)
theorem ZU{s:ByteArray}(hk:k<G.R.length)(h:G.R[k].nm=s)(hn:∀j (h:j<G.R.length),j<k->G.R[j].nm≠s):qa G s=(⟨false,(k:Int)⟩,true):=by
 have:=QG (s:=s) (l:=G.R.map Ru.nm) (k:=k) (by simpa using hk) (by simpa using h) (fun j hj hjk=>by simp at hj⊢;exact hn j hj hjk);unfold qa;rw[this,if_pos hk]
theorem Zk{s:ByteArray}(hr:∀j (h:j<G.R.length),G.R[j].nm≠s)(hk:k<G.S.length)(h:G.S[k]=s)(hn:∀j (h:j<G.S.length),j<k->G.S[j]≠s):qa G s=(⟨true,(k:Int)⟩,true):=by
 have h1:=L3 (s:=s) (l:=G.R.map Ru.nm) (fun j hj=>by simp at hj⊢;exact hr j hj);unfold qa;rw[h1,if_neg (by simp),QG hk h hn,if_pos hk]
theorem PJ{g t:Nat}{c0 c1:Value}(h:w.heap[g]?=some (.cells #[c0,c1] t (0,0)))(d0 d1:Value):
  ((w.setCell ⟨g,0,none⟩ d0).setCell ⟨g,1,none⟩ d1).cell? ⟨g,0,none⟩=some d0/\((w.setCell ⟨g,0,none⟩ d0).setCell ⟨g,1,none⟩ d1).cell? ⟨g,1,none⟩=some d1:=by
 have h1:=heap_setCell_same w g 0 _ _ d0 h;have h2:=heap_setCell_same _ g 1 _ _ d1 h1;rw[cell_of_row _ g 0 _ _ _ h2,cell_of_row _ g 1 _ _ _ h2];exact⟨rfl,rfl⟩
def NC(G:Gr)(s:ByteArray)(w:World)(e:Ending)(w':World):Prop:=e=.returned (.tuple #[.agg (jo (qa G s).1).toArray,.bool (qa G s).2])/\Below w.heap.size w w'
def TU(G:Gr)(t:Int):Nat->List Int
 | 0=>[]
 | i+1=>if (l8 G i).bF=t then TU G t i++[(i:Int)] else TU G t i
def jy(G:Gr)(p:gK):Nat->ByteArray
 | 0=>((kG G ⟨true,p.bF⟩++⟨#[46]⟩)++p.bG)++⟨#[32,61]⟩
 | k+1=>(jy G p k++⟨#[32]⟩)++kG G (p.body.getD k ⟨false,0⟩)
def qR(G:Gr)(i:Int):ByteArray:=if 0<=i/\i<G.P.length then jy G (l8 G i.toNat) (l8 G i.toNat).body.length else ⟨#[]⟩
theorem Ov(h:lj G)(y:Sy):(kG G y).size<=100:=by
 unfold kG;split
 ·decide
 split
 ·rename_i h1 h2;have hk:y.n.toNat<G.S.length:=by omega
  rw[xD hk];exact h.ss _ hk
 split
 ·rename_i h1 h2 h3;have hk:y.n.toNat<G.R.length:=by omega
  rw[Fq hk];exact (h.rr _ hk hk).2
 decide
theorem X9(h:lj G){p:gK}(hc:p.bG.size<=100)(k:Nat):(jy G p k).size<=203+101*k:=by
 induction k with
 | zero=>
  have:=Ov h ⟨true,p.bF⟩;have e1:(⟨#[46]⟩:ByteArray).size=1:=rfl;have e2:(⟨#[32,61]⟩:ByteArray).size=2:=rfl;simp only[jy,ByteArray.size_append,e1,e2];omega
 | succ k ih=>
  have:=Ov h (p.body.getD k ⟨false,0⟩);have e1:(⟨#[32]⟩:ByteArray).size=1:=rfl;simp only[jy,ByteArray.size_append,e1];omega
theorem zln(h:i<G.P.length):qR G (i:Int)=jy G (l8 G i) (l8 G i).body.length:=by
 unfold qR;rw[if_pos ⟨by omega,by omega⟩,Int.toNat_natCast]
theorem Y8{i:Int}(h:¬(0<=i/\i<G.P.length)):qR G i=⟨#[]⟩:=if_neg h
theorem zoA(h:iT G ((ga G i).rules.getD k 0)=false):wY G i k=11:=if_pos h
theorem zlo(h:iT G ((ga G i).rules.getD k 0)=true)(hs:oz G i k):wY G i k=9:=by unfold wY;rw[if_neg (by simp only[h];decide),if_pos hs]
theorem zpk(h:iT G ((ga G i).rules.getD k 0)=true)(hs:¬oz G i k):wY G i k=0:=by unfold wY;rw[if_neg (by simp only[h];decide),if_neg hs]
noncomputable def mG (G:Gr) (i er:Int):Int × Int × Int:=if er≠0 then (er,1,i) else gm G
def zpl(Q:Int->Int->Prop)(w:World)(e:Ending)(w':World):Prop:=∃i er:Int,e=.returned (.tuple #[.int .i64 i,.int .i64 er])/\Q i er/\Below w.heap.size w w'
def Cm(Q:Int->Int->Prop)(G:Gr)(w:World)(e:Ending)(w':World):Prop:=
 ∃i er,Q i er/\e=.returned (.agg #[.int .i64 (mG G i er).1,.int .i64 (mG G i er).2.1,.int .i64 (mG G i er).2.2])/\Below w.heap.size w w'
def yQ(w:World)(e:Ending)(w':World):Prop:=e=.returned (.bool true)/\Below w.heap.size w w'
theorem LK{α β:Type}(f:α->β){l t:List α}(h1:i<l.length)(h2:i<t.length)(h:f l[i]≠f t[i]):l.map f≠t.map f:=fun e=>h (by
 have h3:(l.map f)[i]?=(t.map f)[i]?:=by rw[e]
 simpa [h1,h2] using h3)
theorem Lt{α β:Type}(f:α->β){l t:List α}(hl:l.length=t.length)(h:∀j (h1:j<l.length) (h2:j<t.length),f l[j]=f t[j]):l.map f=t.map f:=by
 apply List.ext_getElem (by simp[hl]);intro i h1 h2;simp at h1 h2⊢;exact h i h1 h2
theorem sO(h:G.R≠K.R\/G.S≠K.S\/G.P.map dd≠K.P.map dd\/G.L.map dK≠K.L.map dK\/G.st≠K.st):¬dT G K:=fun e=>by
 obtain⟨e1,e2,e3,e4,e5⟩:=e
 rcases h with h|h|h|h|h <;> contradiction
def kq(w:World)(b:Nat)(G K:Gr)(wr:World):Prop:=fo wr b G/\fo wr (b+1) K/\Below w.heap.size w wr
theorem kq.aa{b:Nat}(h:kq w b G K wr)(k:Below wr.heap.size wr w'):kq w b G K w':=⟨h.1.below k,h.2.1.below k,h.2.2.trans (k.mono h.2.2.size)⟩
theorem kq.Nn{b:Nat}(h:kq w b G K wr)(q:Nat):kq w b G K (wr.drewN q):=h.aa (dy wr (Below.refl _ _) q)
theorem zgg(G K:Gr)(w:World)(hG:G.At w)(hK:K.At w)(sQ:G.lb 9223372036854775807)(ou:K.lb 9223372036854775807):
  Calls prog 24 #[G.val,K.val] w (fun e w'=>∃b,(b=true↔dT G K)/\mB b w e w'):=by
 show Calls prog 24 #[.agg #[.slice G.aR G.R.length G.cR,.slice G.aS G.S.length G.cS,.slice G.aP G.P.length G.cP,.slice G.aL G.L.length G.cL,.int .i64 G.st],.agg #[.slice K.aR K.R.length K.cR,.slice K.aS K.S.length K.cS,.slice K.aP K.P.length K.cP,.slice K.aL K.L.length K.cL,.int .i64 K.st]] w _;have HA:=hid (Zz hG hK);have HL:=hid (Zz sQ ou);have HP:Hid (∀w',Below w.heap.size w w'->(¬dT G K->∃b,(b=true↔dT G K)/\mB b w (.returned (.bool false)) w')/\(dT G K->∃b,(b=true↔dT G K)/\mB b w (.returned (.bool true)) w')):=fun w' hb=>⟨fun h=>⟨false,by simp[h],rfl,hb⟩,fun h=>⟨true,by simp[h],rfl,hb⟩⟩
 have l1:=sQ.r;have l2:=sQ.s;have l3:=sQ.p;have l4:=sQ.l;have m1:=ou.r;have m2:=ou.s;have m3:=ou.p;have m4:=ou.l;clear hG hK sQ ou;obtain⟨w2,bK⟩:∃w2,((w.alloc (.cells #[.slice G.aR G.R.length G.cR,.slice G.aS G.S.length G.cS,.slice G.aP G.P.length G.cP,.slice G.aL G.L.length G.cL,.int .i64 G.st] 27)).alloc (.cells #[.slice K.aR K.R.length K.cR,.slice K.aS K.S.length K.cS,.slice K.aP K.P.length K.cP,.slice K.aL K.L.length K.cL,.int .i64 K.st] 27))=w2:=⟨_,rfl⟩
 have H:Hid (fo w2 w.heap.size G/\fo w2 (w.heap.size+1) K/\Below w.heap.size w w2):=by
  rw[<-bK];have k0:=al w (.cells #[.slice G.aR G.R.length G.cR,.slice G.aS G.S.length G.cS,.slice G.aP G.P.length G.cP,.slice G.aL G.L.length G.cL,.int .i64 G.st] 27);have k1:=al (w.alloc (.cells #[.slice G.aR G.R.length G.cR,.slice G.aS G.S.length G.cS,.slice G.aP G.P.length G.cP,.slice G.aL G.L.length G.cL,.int .i64 G.st] 27)) (.cells #[.slice K.aR K.R.length K.cR,.slice K.aS K.S.length K.cS,.slice K.aP K.P.length K.cP,.slice K.aL K.L.length K.cL,.int .i64 K.st] 27);exact⟨((fo.new w G 27).below k1),(by have h9:=(fo.new (w.alloc (.cells #[.slice G.aR G.R.length G.cR,.slice G.aS G.S.length G.cS,.slice G.aP G.P.length G.cP,.slice G.aL G.L.length G.cL,.int .i64 G.st] 27)) K 27);simpa using h9),(k0.trans (k1.mono k0.size))⟩
 go_enter func24,ntmps24;go_upto_region 1 with fail
 try rw[bK]
 clear bK;obtain⟨b,hb⟩:∃b,w.heap.size=b:=⟨_,rfl⟩
 have HX:Hid (kq w b G K w2):=by rw[<-hb];exact H.out
 rw[hb];have Hb:=hid hb;clear hb H;have c0:=HX.out.1.c0;have c1:=HX.out.1.c1;have c2:=HX.out.1.c2;have c3:=HX.out.1.c3;have c4:=HX.out.1.c4;have d0:=HX.out.2.1.c0;have d1:=HX.out.2.1.c1;have d2:=HX.out.2.1.c2;have d3:=HX.out.2.1.c3;have d4:=HX.out.2.1.c4;by_cases e0:G.R.length=K.R.length
 case neg=>
  have j0:((G.R.length:Int) != (K.R.length:Int))=true:=by simp;omega
  have HZ:=hid (sO (G:=G) (K:=K) (inl (fun e=>e0 (by rw[e]))));go_wp2;go_ret;exact (HP.out _ HX.out.2.2).1 HZ.out
 have j0:((G.R.length:Int) != (K.R.length:Int))=false:=by simp[e0]
 by_cases e1:G.S.length=K.S.length
 case neg=>
  have j1:((G.S.length:Int) != (K.S.length:Int))=true:=by simp;omega
  have HZ:=hid (sO (G:=G) (K:=K) (inr (inl (fun e=>e1 (by rw[e])))));go_wp2;go_ret;exact (HP.out _ HX.out.2.2).1 HZ.out
 have j1:((G.S.length:Int) != (K.S.length:Int))=false:=by simp[e1]
 by_cases e2:G.P.length=K.P.length
 case neg=>
  have j2:((G.P.length:Int) != (K.P.length:Int))=true:=by simp;omega
  have HZ:=hid (sO (G:=G) (K:=K) (inr (inr (inl (fun e=>e2 (by have:=congrArg List.length e;simpa using this))))));go_wp2;go_ret;exact (HP.out _ HX.out.2.2).1 HZ.out
 have j2:((G.P.length:Int) != (K.P.length:Int))=false:=by simp[e2]
 by_cases e3:G.L.length=K.L.length
 case neg=>
  have j3:((G.L.length:Int) != (K.L.length:Int))=true:=by simp;omega
  have HZ:=hid (sO (G:=G) (K:=K) (inr (inr (inr (inl (fun e=>e3 (by have:=congrArg List.length e;simpa using this)))))));go_wp2;go_ret;exact (HP.out _ HX.out.2.2).1 HZ.out
 have j3:((G.L.length:Int) != (K.L.length:Int))=false:=by simp[e3]
 by_cases e4:G.st=K.st
 case neg=>
  have j4:(G.st != K.st)=true:=by simp[e4]
  have HZ:=hid (sO (G:=G) (K:=K) (inr (inr (inr (inr e4)))));clear e4;go_wp2;go_ret;exact (HP.out _ HX.out.2.2).1 HZ.out
 have j4:(G.st != K.st)=false:=by simp[e4]
 have HE:=hid (Zz e0 (Zz e1 (Zz e2 (Zz e3 e4))));clear e0 e1 e2 e3 e4;go_wp2_with fail;clear c0 c1 c2 c3 c4 d0 d1 d2 d3 d4 j0 j1 j2 j3 j4;obtain⟨n,hn⟩:∃n,G.R.length=n:=⟨_,rfl⟩
 have HN:=hid (Zz hn (HE.out.1.symm.trans hn));have uM:n<=9223372036854775807:=by omega
 clear hn l1 m1;go_loopw [5] (fun v wr=>∃k:Nat,v=.int .i64 k/\k<=n/\Hid (kq w b G K wr/\∀j (h1:j<G.R.length) (h2:j<K.R.length),j<k->G.R[j]=K.R[j])) (fun v _=>n-(intOf v).toNat)
 ·exact⟨0,rfl,zero_le _,HX.out,fun j _ _ h=>absurd h (by omega)⟩
 clear HX;obtain⟨k,rfl,hk,HR⟩:=hrel;have c0:=HR.out.1.1.c0;have d0:=HR.out.1.2.1.c0;rw[HN.out.1] at c0;rw[HN.out.2] at d0;by_cases av:k<n
 ·have i2:(k:Int)<n:=by omega
  have cQ:k<G.R.length:=by rw[HN.out.1];exact av
  have eY:k<K.R.length:=by rw[HN.out.2];exact av
  obtain⟨g1,o1,e1,_,y0,y1,y2⟩:=(HA.out.1.r.below HR.out.1.2.2).get k cQ;obtain⟨g2,o2,e2,_,z0,z1,z2⟩:=(HA.out.2.r.below HR.out.1.2.2).get k eY;have gJ:Hid ((G.R[k]=K.R[k]->∀j (h1:j<G.R.length) (h2:j<K.R.length),j<k+1->G.R[j]=K.R[j])/\(G.R[k]≠K.R[k]->¬dT G K)):=by
   refine⟨fun h j hj hj2 h3=>?_,fun h=>sO (inl (Ae cQ eY h))⟩;by_cases e:j=k
   ·subst e;exact h
   exact HR.out.2 j hj hj2 (by omega)
  generalize G.R[k]=u at y0 y1 y2 gJ;generalize K.R[k]=v at z0 z1 z2 gJ;obtain⟨ua,uk,ux⟩:=u;obtain⟨va,vk,vx⟩:=v;dsimp only at y0 y1 y2 z0 z1 z2;rw[e1] at c0;rw[e2] at d0;have HG:=hid (fun q=>HR.out.1.Nn q);clear HR cQ eY e1 e2;have s0:=xP ua va;have s2:=xP ux vx;by_cases f0:ua=va
  ·subst f0;by_cases f1:uk=vk
   ·subst f1;by_cases f2:ux=vx
    ·subst f2;have HZ:=hid (gJ.out.1 rfl);clear gJ s0 s2;go_upto_region 6 with fail;go_quiet (fail);go_wp2;go_roundw
     ·exact⟨k+1,by go_num,by omega,HG.out _,HZ.out⟩
     simp[intOf];omega
    have HZ:=hid (gJ.out.2 (fun e=>f2 (by injection e)));have j9:(ux.toList == vx.toList)=false:=(by rw[s2];simp[f2]);clear gJ f2 s0 s2;go_upto_region 6 with fail;go_quiet (fail);go_wp2;go_ret;exact (HP.out _ (HG.out _).2.2).1 HZ.out
   have HZ:=hid (gJ.out.2 (fun e=>f1 (by injection e)));have j9:(uk == vk)=false:=(by simp[f1]);clear gJ f1 s0 s2;go_upto_region 6 with fail;go_quiet (fail);go_wp2;go_ret;exact (HP.out _ (HG.out _).2.2).1 HZ.out
  have HZ:=hid (gJ.out.2 (fun e=>f0 (by injection e)));have j9:(ua.toList == va.toList)=false:=by rw[s0];simp[f0]
  clear gJ f0 s0 s2;go_upto_region 6 with fail;go_quiet (fail);go_wp2;go_ret;exact (HP.out _ (HG.out _).2.2).1 HZ.out
 obtain rfl:k=n:=by omega
 have U3:Hid (G.R=K.R):=A6 HE.out.1 (fun j h1 h2=>HR.out.2 j h1 h2 (by rw[<-HN.out.1];exact h1));have HY:=hid HR.out.1;clear HR HN hk av;go_wp2_with fail;clear c0 d0;obtain⟨wn,yN⟩:∃wn,wn=wr:=⟨_,rfl⟩
 subst yN;obtain⟨n,hn⟩:∃n,G.S.length=n:=⟨_,rfl⟩
 have HN:=hid (Zz hn (HE.out.2.1.symm.trans hn));have hn8:n<=9223372036854775807:=by omega
 clear hn l2 m2 uM;go_loopw [6] (fun v wr=>∃k:Nat,v=.int .i64 k/\k<=n/\Hid (kq w b G K wr/\∀j (h1:j<G.S.length) (h2:j<K.S.length),j<k->G.S[j]=K.S[j])) (fun v _=>n-(intOf v).toNat)
 ·exact⟨0,rfl,zero_le _,HY.out,fun j _ _ h=>absurd h (by omega)⟩
 clear HY;obtain⟨k,rfl,hk,HR⟩:=hrel;have c1:=HR.out.1.1.c1;have d1:=HR.out.1.2.1.c1;rw[HN.out.1] at c1;rw[HN.out.2] at d1;by_cases av:k<n
 ·have i2:(k:Int)<n:=by omega
  have cQ:k<G.S.length:=by rw[HN.out.1];exact av
  have eY:k<K.S.length:=by rw[HN.out.2];exact av
  obtain⟨g1,o1,e1,_,y0⟩:=(HA.out.1.s.below HR.out.1.2.2) (by omega);obtain⟨g2,o2,e2,_,z0⟩:=(HA.out.2.s.below HR.out.1.2.2) (by omega);have y1:=y0 k cQ;have z1:=z0 k eY;have gJ:Hid ((G.S[k]=K.S[k]->∀j (h1:j<G.S.length) (h2:j<K.S.length),j<k+1->G.S[j]=K.S[j])/\(G.S[k]≠K.S[k]->¬dT G K)):=by
   refine⟨fun h j hj hj2 h3=>?_,fun h=>sO (inr (inl (Ae cQ eY h)))⟩;by_cases e:j=k
   ·subst e;exact h
   exact HR.out.2 j hj hj2 (by omega)
  clear y0 z0;generalize G.S[k]=ua at y1 gJ;generalize K.S[k]=va at z1 gJ;rw[e1] at c1;rw[e2] at d1;have HG:=hid (fun q=>HR.out.1.Nn q);clear HR cQ eY e1 e2;have s0:=xP ua va;by_cases f0:ua=va
  ·have HZ:=hid (gJ.out.1 f0);have j9:(ua.toList == va.toList)=true:=(by simp[f0]);clear gJ s0 f0;go_upto_region 11 with fail;go_quiet (fail);go_wp2;go_roundw
   ·exact⟨k+1,by go_num,by omega,HG.out _,HZ.out⟩
   simp[intOf];omega
  have HZ:=hid (gJ.out.2 f0);have j9:(ua.toList == va.toList)=false:=by rw[s0];simp[f0]
  clear gJ f0 s0;go_upto_region 11 with fail;go_quiet (fail);go_wp2;go_ret;exact (HP.out _ (HG.out _).2.2).1 HZ.out
 obtain rfl:k=n:=by omega
 have HES:Hid (G.S=K.S):=A6 HE.out.2.1 (fun j h1 h2=>HR.out.2 j h1 h2 (by rw[<-HN.out.1];exact h1));have HY:=hid HR.out.1;clear HR HN hk av;go_wp2_with fail;clear c1 d1;obtain⟨wn,yN⟩:∃wn,wn=wr:=⟨_,rfl⟩
 subst yN;obtain⟨n,hn⟩:∃n,G.P.length=n:=⟨_,rfl⟩
 have HN:=hid (Zz hn (HE.out.2.2.1.symm.trans hn));have Yx:n<=9223372036854775807:=by omega
 clear hn l3 m3 hn8;go_loopw [7] (fun v wr=>∃k:Nat,v=.int .i64 k/\k<=n/\Hid (kq w b G K wr/\∀j (h1:j<G.P.length) (h2:j<K.P.length),j<k->dd G.P[j]=dd K.P[j])) (fun v _=>n-(intOf v).toNat)
 ·exact⟨0,rfl,zero_le _,HY.out,fun j _ _ h=>absurd h (by omega)⟩
 clear HY;obtain⟨k,rfl,hk,HR⟩:=hrel;have c2:=HR.out.1.1.c2;have d2:=HR.out.1.2.1.c2;rw[HN.out.1] at c2;rw[HN.out.2] at d2;by_cases av:k<n
 ·have i2:(k:Int)<n:=by omega
  have cQ:k<G.P.length:=by rw[HN.out.1];exact av
  have eY:k<K.P.length:=by rw[HN.out.2];exact av
  obtain⟨g1,o1,e1,gV,yA,y0,y1,y2,y3,y4,y5⟩:=(HA.out.1.p.below HR.out.1.2.2).get k cQ;obtain⟨g2,o2,e2,o9,zA,z0,z1,z2,z3,z4,z5⟩:=(HA.out.2.p.below HR.out.1.2.2).get k eY;have vr:=HL.out.1.ps k cQ;have zJ:=HL.out.2.ps k eY;have gJ:Hid ((dd G.P[k]=dd K.P[k]->∀j (h1:j<G.P.length) (h2:j<K.P.length),j<k+1->dd G.P[j]=dd K.P[j])/\(dd G.P[k]≠dd K.P[k]->¬dT G K)):=by
   refine⟨fun h j hj hj2 h3=>?_,fun h=>sO (inr (inr (inl (LK dd cQ eY h))))⟩;by_cases e:j=k
   ·subst e;exact h
   exact HR.out.2 j hj hj2 (by omega)
  generalize G.P[k]=x at yA y0 y1 y2 y3 y4 y5 vr gJ;generalize K.P[k]=y at zA z0 z1 z2 z3 z4 z5 zJ gJ;rw[e1] at c2;rw[e2] at d2;have Gu:Hid (∀W,Below wr.heap.size wr W->Calls prog 51 #[.agg #[.int .i64 x.bF,.string x.bG,.slice x.ab x.body.length x.cb,.bool x.par,.int .i64 x.prec,.slice x.ah x.hints.length x.ch],.agg #[.int .i64 y.bF,.string y.bG,.slice y.ab y.body.length y.cb,.bool y.par,.int .i64 y.prec,.slice y.ah y.hints.length y.ch]] W (fun e w'=>∃b,(b=true↔dd x=dd y)/\mB b W e w')):=fun W h=>zet x y W (yA.below h) (zA.below h) vr.2.1 vr.2.2 zJ.2.1 zJ.2.2
  have dz:Hid (∀W',Below wr.heap.size wr W'->W'.cell? ⟨b,2,none⟩=some (.slice (some ⟨g1,o1,none⟩) n G.cP)/\W'.cell? ⟨b+1,2,none⟩=some (.slice (some ⟨g2,o2,none⟩) n K.cP)/\W'.cell? ⟨g1,o1+k*6,none⟩=some (.int .i64 x.bF)/\W'.cell? ⟨g1,o1+k*6+1,none⟩=some (.string x.bG)/\W'.cell? ⟨g1,o1+k*6+2,none⟩=some (.slice x.ab x.body.length x.cb)/\W'.cell? ⟨g1,o1+k*6+3,none⟩=some (.bool x.par)/\W'.cell? ⟨g1,o1+k*6+4,none⟩=some (.int .i64 x.prec)/\W'.cell? ⟨g1,o1+k*6+5,none⟩=some (.slice x.ah x.hints.length x.ch)/\W'.cell? ⟨g2,o2+k*6,none⟩=some (.int .i64 y.bF)/\W'.cell? ⟨g2,o2+k*6+1,none⟩=some (.string y.bG)/\W'.cell? ⟨g2,o2+k*6+2,none⟩=some (.slice y.ab y.body.length y.cb)/\W'.cell? ⟨g2,o2+k*6+3,none⟩=some (.bool y.par)/\W'.cell? ⟨g2,o2+k*6+4,none⟩=some (.int .i64 y.prec)/\W'.cell? ⟨g2,o2+k*6+5,none⟩=some (.slice y.ah y.hints.length y.ch)):=fun W' h=>
   ⟨(h.cell (p:=⟨b,2,none⟩) HR.out.1.1.lt).trans c2,(h.cell (p:=⟨b+1,2,none⟩) HR.out.1.2.1.lt).trans d2,(h.cell (p:=⟨g1,o1+k*6,none⟩) gV).trans y0,(h.cell (p:=⟨g1,o1+k*6+1,none⟩) gV).trans y1,(h.cell (p:=⟨g1,o1+k*6+2,none⟩) gV).trans y2,(h.cell (p:=⟨g1,o1+k*6+3,none⟩) gV).trans y3,(h.cell (p:=⟨g1,o1+k*6+4,none⟩) gV).trans y4,(h.cell (p:=⟨g1,o1+k*6+5,none⟩) gV).trans y5,(h.cell (p:=⟨g2,o2+k*6,none⟩) o9).trans z0,(h.cell (p:=⟨g2,o2+k*6+1,none⟩) o9).trans z1,(h.cell (p:=⟨g2,o2+k*6+2,none⟩) o9).trans z2,(h.cell (p:=⟨g2,o2+k*6+3,none⟩) o9).trans z3,(h.cell (p:=⟨g2,o2+k*6+4,none⟩) o9).trans z4,(h.cell (p:=⟨g2,o2+k*6+5,none⟩) o9).trans z5⟩
  have HG:=hid HR.out.1;clear cQ eY e1 e2 yA y0 y1 y2 y3 y4 y5 zA z0 z1 z2 z3 z4 z5 vr zJ gV o9 HR;go_upto_region 16 with fail;clear c2 d2;refine wp_region_held_drew (S:=fun W'=>Below wr.heap.size wr W') (by kernel_rfl) (Below.refl _ _).drew (fun hHeld=>?_);refine ak 0 ?_ (hy:=by intro wz hSw;obtain⟨z0,z1,z2,z3,z4,z5,z6,z7,z8,z9,yd,yh,z12,xS⟩:=dz.out wz hSw;(try simp only[put,sA,sB,sC]);go_simp;first|done|with_reducible rfl)
  try simp only[put,sA,sB,sC]
  refine ak 1 ?_ (hy:=by intro wz hSw;obtain⟨z0,z1,z2,z3,z4,z5,z6,z7,z8,z9,yd,yh,z12,xS⟩:=dz.out wz hSw;(try simp only[put,sA,sB,sC]);go_simp;first|done|with_reducible rfl)
  try simp only[put,sA,sB,sC]
  refine ak 2 ?_ (hy:=by intro wz hSw;obtain⟨z0,z1,z2,z3,z4,z5,z6,z7,z8,z9,yd,yh,z12,xS⟩:=dz.out wz hSw;(try simp only[put,sA,sB,sC]);go_simp;first|done|with_reducible rfl)
  try simp only[put,sA,sB,sC]
  refine ak 3 ?_ (hy:=by intro wz hSw;obtain⟨z0,z1,z2,z3,z4,z5,z6,z7,z8,z9,yd,yh,z12,xS⟩:=dz.out wz hSw;(try simp only[put,sA,sB,sC]);go_simp;first|done|with_reducible rfl)
  try simp only[put,sA,sB,sC]
  refine ak 4 (v:=.agg #[.int .i64 x.bF,.string x.bG,.slice x.ab x.body.length x.cb,.bool x.par,.int .i64 x.prec,.slice x.ah x.hints.length x.ch]) ?_ (hy:=by intro wz hSw;obtain⟨z0,z1,z2,z3,z4,z5,z6,z7,z8,z9,yd,yh,z12,xS⟩:=dz.out wz hSw;(try simp only[put,sA,sB,sC]);go_simp;first|done|with_reducible rfl)
  try simp only[put,sA,sB,sC]
  refine ak 5 ?_ (hy:=by intro wz hSw;obtain⟨z0,z1,z2,z3,z4,z5,z6,z7,z8,z9,yd,yh,z12,xS⟩:=dz.out wz hSw;(try simp only[put,sA,sB,sC]);go_simp;first|done|with_reducible rfl)
  try simp only[put,sA,sB,sC]
  refine ak 6 ?_ (hy:=by intro wz hSw;obtain⟨z0,z1,z2,z3,z4,z5,z6,z7,z8,z9,yd,yh,z12,xS⟩:=dz.out wz hSw;(try simp only[put,sA,sB,sC]);go_simp;first|done|with_reducible rfl)
  try simp only[put,sA,sB,sC]
  refine ak 7 ?_ (hy:=by intro wz hSw;obtain⟨z0,z1,z2,z3,z4,z5,z6,z7,z8,z9,yd,yh,z12,xS⟩:=dz.out wz hSw;(try simp only[put,sA,sB,sC]);go_simp;first|done|with_reducible rfl)
  try simp only[put,sA,sB,sC]
  refine ak 8 ?_ (hy:=by intro wz hSw;obtain⟨z0,z1,z2,z3,z4,z5,z6,z7,z8,z9,yd,yh,z12,xS⟩:=dz.out wz hSw;(try simp only[put,sA,sB,sC]);go_simp;first|done|with_reducible rfl)
  try simp only[put,sA,sB,sC]
  refine ak 9 (v:=.agg #[.int .i64 y.bF,.string y.bG,.slice y.ab y.body.length y.cb,.bool y.par,.int .i64 y.prec,.slice y.ah y.hints.length y.ch]) ?_ (hy:=by intro wz hSw;obtain⟨z0,z1,z2,z3,z4,z5,z6,z7,z8,z9,yd,yh,z12,xS⟩:=dz.out wz hSw;(try simp only[put,sA,sB,sC]);go_simp;first|done|with_reducible rfl)
  try simp only[put,sA,sB,sC]
  refine bc 10 (fun K hK=>?_);go_simp;go_at_call 51;refine (Gu.out _ hHeld).mono ?_;rintro e w8 ⟨bo,cn,rfl,b8⟩;have aZ:=hHeld.trans (b8.mono hHeld.size);clear b8 hHeld
  try go_wp2_with fail
  refine hK.out _ _ aZ (fun hHeld=>?_);clear hK K aZ
  try simp only[put,sA,sB,sC]
  refine ak 11 ?_ (hy:=by intro wz hSw;obtain⟨z0,z1,z2,z3,z4,z5,z6,z7,z8,z9,yd,yh,z12,xS⟩:=dz.out wz hSw;(try simp only[put,sA,sB,sC]);go_simp;first|done|with_reducible rfl)
  try simp only[put,sA,sB,sC]
  refine wpAnyH_done (by kernel_rfl) ?_ _;have xj:=hid (HG.out.aa hHeld);clear hHeld HG;rcases bo with _|_
  ·have HZ:=hid (gJ.out.2 (fun e=>by have:=cn.2 e;cases this));clear gJ cn;go_wp2;go_ret;exact (HP.out _ xj.out.2.2).1 HZ.out
  have HZ:=hid (gJ.out.1 (cn.1 rfl));clear gJ cn;go_wp2;go_roundw
  ·exact⟨k+1,by go_num,by omega,xj.out,HZ.out⟩
  simp[intOf];omega
 obtain rfl:k=n:=by omega
 have HEP:Hid (G.P.map dd=K.P.map dd):=Lt dd HE.out.2.2.1 (fun j h1 h2=>HR.out.2 j h1 h2 (by rw[<-HN.out.1];exact h1));have HY:=hid HR.out.1;clear HR HN hk av;go_wp2_with fail;clear c2 d2;obtain⟨wn,yN⟩:∃wn,wn=wr:=⟨_,rfl⟩
 subst yN;obtain⟨n,hn⟩:∃n,G.L.length=n:=⟨_,rfl⟩
 have HN:=hid (Zz hn (HE.out.2.2.2.1.symm.trans hn));have hn6:n<=9223372036854775807:=by omega
 clear hn l4 m4 Yx;go_loopw [8] (fun v wr=>∃k:Nat,v=.int .i64 k/\k<=n/\Hid (kq w b G K wr/\∀j (h1:j<G.L.length) (h2:j<K.L.length),j<k->dK G.L[j]=dK K.L[j])) (fun v _=>n-(intOf v).toNat)
 ·exact⟨0,rfl,zero_le _,HY.out,fun j _ _ h=>absurd h (by omega)⟩
 clear HY;obtain⟨k,rfl,hk,HR⟩:=hrel;have c3:=HR.out.1.1.c3;have d3:=HR.out.1.2.1.c3;rw[HN.out.1] at c3;rw[HN.out.2] at d3;by_cases av:k<n
 ·have i2:(k:Int)<n:=by omega
  have cQ:k<G.L.length:=by rw[HN.out.1];exact av
  have eY:k<K.L.length:=by rw[HN.out.2];exact av
  obtain⟨g1,o1,e1,gV,yA,y0,y1⟩:=(HA.out.1.l.below HR.out.1.2.2).get k cQ;obtain⟨g2,o2,e2,o9,zA,z0,z1⟩:=(HA.out.2.l.below HR.out.1.2.2).get k eY;have vr:=HL.out.1.ls k cQ;have zJ:=HL.out.2.ls k eY;have gJ:Hid ((dK G.L[k]=dK K.L[k]->∀j (h1:j<G.L.length) (h2:j<K.L.length),j<k+1->dK G.L[j]=dK K.L[j])/\(dK G.L[k]≠dK K.L[k]->¬dT G K)):=by
   refine⟨fun h j hj hj2 h3=>?_,fun h=>sO (inr (inr (inr (inl (LK dK cQ eY h)))))⟩;by_cases e:j=k
   ·subst e;exact h
   exact HR.out.2 j hj hj2 (by omega)
  generalize G.L[k]=x at yA y0 y1 vr gJ;generalize K.L[k]=y at zA z0 z1 zJ gJ;obtain⟨xs,xa,xc,xr⟩:=x;obtain⟨ys,ya,yc,yr⟩:=y;dsimp only at yA y0 y1 vr zA z0 z1 zJ;rw[e1] at c3;rw[e2] at d3;obtain⟨bo,cn⟩:∃bo,decide (xr=yr)=bo:=⟨_,rfl⟩
  have ZO:Hid (∀W,Below wr.heap.size wr W->Calls prog 52 #[.slice xa xr.length xc,.slice ya yr.length yc] W (mB bo W)):=fun W h=>by
   rw[<-cn];exact XW xr yr _ _ _ _ _ _ rfl rfl vr zJ W (yA.below h) (zA.below h)
  have zT:=hid cn;have dz:Hid (∀W',Below wr.heap.size wr W'->W'.cell? ⟨b,3,none⟩=some (.slice (some ⟨g1,o1,none⟩) n G.cL)/\W'.cell? ⟨b+1,3,none⟩=some (.slice (some ⟨g2,o2,none⟩) n K.cL)/\W'.cell? ⟨g1,o1+k*2,none⟩=some (.int .i64 xs)/\W'.cell? ⟨g1,o1+k*2+1,none⟩=some (.slice xa xr.length xc)/\W'.cell? ⟨g2,o2+k*2,none⟩=some (.int .i64 ys)/\W'.cell? ⟨g2,o2+k*2+1,none⟩=some (.slice ya yr.length yc)):=fun W' h=>
   ⟨(h.cell (p:=⟨b,3,none⟩) HR.out.1.1.lt).trans c3,(h.cell (p:=⟨b+1,3,none⟩) HR.out.1.2.1.lt).trans d3,(h.cell (p:=⟨g1,o1+k*2,none⟩) gV).trans y0,(h.cell (p:=⟨g1,o1+k*2+1,none⟩) gV).trans y1,(h.cell (p:=⟨g2,o2+k*2,none⟩) o9).trans z0,(h.cell (p:=⟨g2,o2+k*2+1,none⟩) o9).trans z1⟩
  have HG:=hid HR.out.1;clear cQ eY e1 e2 yA y0 y1 zA z0 z1 vr zJ gV o9 HR cn;by_cases f0:xs=ys
  ·subst f0;have j9:(xs != xs)=false:=(by simp);go_upto_region 21 with fail;clear c3 d3;refine wp_region_held_drew (S:=fun W'=>Below wr.heap.size wr W') (by kernel_rfl) (Below.refl _ _).drew (fun hHeld=>?_);refine ak 0 ?_ (hy:=by intro wz hSw;obtain⟨z0,z1,z2,z3,z4,z5⟩:=dz.out wz hSw;(try simp only[put,sA,sB,sC]);go_simp;first|done|with_reducible rfl)
   try simp only[put,sA,sB,sC]
   refine ak 1 ?_ (hy:=by intro wz hSw;obtain⟨z0,z1,z2,z3,z4,z5⟩:=dz.out wz hSw;(try simp only[put,sA,sB,sC]);go_simp;first|done|with_reducible rfl)
   try simp only[put,sA,sB,sC]
   refine ak 2 ?_ (hy:=by intro wz hSw;obtain⟨z0,z1,z2,z3,z4,z5⟩:=dz.out wz hSw;(try simp only[put,sA,sB,sC]);go_simp;first|done|with_reducible rfl)
   try simp only[put,sA,sB,sC]
   refine ak 3 ?_ (hy:=by intro wz hSw;obtain⟨z0,z1,z2,z3,z4,z5⟩:=dz.out wz hSw;(try simp only[put,sA,sB,sC]);go_simp;first|done|with_reducible rfl)
   try simp only[put,sA,sB,sC]
   refine ak 4 ?_ (hy:=by intro wz hSw;obtain⟨z0,z1,z2,z3,z4,z5⟩:=dz.out wz hSw;(try simp only[put,sA,sB,sC]);go_simp;first|done|with_reducible rfl)
   try simp only[put,sA,sB,sC]
   refine ak 5 ?_ (hy:=by intro wz hSw;obtain⟨z0,z1,z2,z3,z4,z5⟩:=dz.out wz hSw;(try simp only[put,sA,sB,sC]);go_simp;first|done|with_reducible rfl)
   try simp only[put,sA,sB,sC]
   refine ak 6 ?_ (hy:=by intro wz hSw;obtain⟨z0,z1,z2,z3,z4,z5⟩:=dz.out wz hSw;(try simp only[put,sA,sB,sC]);go_simp;first|done|with_reducible rfl)
   try simp only[put,sA,sB,sC]
   refine ak 7 ?_ (hy:=by intro wz hSw;obtain⟨z0,z1,z2,z3,z4,z5⟩:=dz.out wz hSw;(try simp only[put,sA,sB,sC]);go_simp;first|done|with_reducible rfl)
   try simp only[put,sA,sB,sC]
   refine ak 8 ?_ (hy:=by intro wz hSw;obtain⟨z0,z1,z2,z3,z4,z5⟩:=dz.out wz hSw;(try simp only[put,sA,sB,sC]);go_simp;first|done|with_reducible rfl)
   try simp only[put,sA,sB,sC]
   refine ak 9 ?_ (hy:=by intro wz hSw;obtain⟨z0,z1,z2,z3,z4,z5⟩:=dz.out wz hSw;(try simp only[put,sA,sB,sC]);go_simp;first|done|with_reducible rfl)
   try simp only[put,sA,sB,sC]
   refine ak 10 ?_ (hy:=by intro wz hSw;obtain⟨z0,z1,z2,z3,z4,z5⟩:=dz.out wz hSw;(try simp only[put,sA,sB,sC]);go_simp;first|done|with_reducible rfl)
   try simp only[put,sA,sB,sC]
   refine ak 11 ?_ (hy:=by intro wz hSw;obtain⟨z0,z1,z2,z3,z4,z5⟩:=dz.out wz hSw;(try simp only[put,sA,sB,sC]);go_simp;first|done|with_reducible rfl)
   try simp only[put,sA,sB,sC]
   refine ak 12 (v:=.bool false) ?_ (hy:=by intro wz hSw;obtain⟨z0,z1,z2,z3,z4,z5⟩:=dz.out wz hSw;(try simp only[put,sA,sB,sC]);go_simp;first|done|with_reducible rfl)
   try simp only[put,sA,sB,sC]
   refine ak 13 ?_ (hy:=by intro wz hSw;obtain⟨z0,z1,z2,z3,z4,z5⟩:=dz.out wz hSw;(try simp only[put,sA,sB,sC]);go_simp;first|done|with_reducible rfl)
   try simp only[put,sA,sB,sC]
   refine ak 14 ?_ (hy:=by intro wz hSw;obtain⟨z0,z1,z2,z3,z4,z5⟩:=dz.out wz hSw;(try simp only[put,sA,sB,sC]);go_simp;first|done|with_reducible rfl)
   try simp only[put,sA,sB,sC]
   refine ak 15 ?_ (hy:=by intro wz hSw;obtain⟨z0,z1,z2,z3,z4,z5⟩:=dz.out wz hSw;(try simp only[put,sA,sB,sC]);go_simp;first|done|with_reducible rfl)
   try simp only[put,sA,sB,sC]
   refine ak 16 ?_ (hy:=by intro wz hSw;obtain⟨z0,z1,z2,z3,z4,z5⟩:=dz.out wz hSw;(try simp only[put,sA,sB,sC]);go_simp;first|done|with_reducible rfl)
   try simp only[put,sA,sB,sC]
   refine ak 17 ?_ (hy:=by intro wz hSw;obtain⟨z0,z1,z2,z3,z4,z5⟩:=dz.out wz hSw;(try simp only[put,sA,sB,sC]);go_simp;first|done|with_reducible rfl)
   try simp only[put,sA,sB,sC]
   refine ak 18 ?_ (hy:=by intro wz hSw;obtain⟨z0,z1,z2,z3,z4,z5⟩:=dz.out wz hSw;(try simp only[put,sA,sB,sC]);go_simp;first|done|with_reducible rfl)
   try simp only[put,sA,sB,sC]
   refine ak 19 ?_ (hy:=by intro wz hSw;obtain⟨z0,z1,z2,z3,z4,z5⟩:=dz.out wz hSw;(try simp only[put,sA,sB,sC]);go_simp;first|done|with_reducible rfl)
   try simp only[put,sA,sB,sC]
   refine ak 20 ?_ (hy:=by intro wz hSw;obtain⟨z0,z1,z2,z3,z4,z5⟩:=dz.out wz hSw;(try simp only[put,sA,sB,sC]);go_simp;first|done|with_reducible rfl)
   try simp only[put,sA,sB,sC]
   refine ak 21 ?_ (hy:=by intro wz hSw;obtain⟨z0,z1,z2,z3,z4,z5⟩:=dz.out wz hSw;(try simp only[put,sA,sB,sC]);go_simp;first|done|with_reducible rfl)
   try simp only[put,sA,sB,sC]
   refine ak 22 ?_ (hy:=by intro wz hSw;obtain⟨z0,z1,z2,z3,z4,z5⟩:=dz.out wz hSw;(try simp only[put,sA,sB,sC]);go_simp;first|done|with_reducible rfl)
   try simp only[put,sA,sB,sC]
   refine ak 23 ?_ (hy:=by intro wz hSw;obtain⟨z0,z1,z2,z3,z4,z5⟩:=dz.out wz hSw;(try simp only[put,sA,sB,sC]);go_simp;first|done|with_reducible rfl)
   try simp only[put,sA,sB,sC]
   refine ak 24 ?_ (hy:=by intro wz hSw;obtain⟨z0,z1,z2,z3,z4,z5⟩:=dz.out wz hSw;(try simp only[put,sA,sB,sC]);go_simp;first|done|with_reducible rfl)
   try simp only[put,sA,sB,sC]
   refine ak 25 ?_ (hy:=by intro wz hSw;obtain⟨z0,z1,z2,z3,z4,z5⟩:=dz.out wz hSw;(try simp only[put,sA,sB,sC]);go_simp;first|done|with_reducible rfl)
   try simp only[put,sA,sB,sC]
   refine bc 26 (fun K hK=>?_);go_simp;go_at_call 52;refine (ZO.out _ hHeld).mono ?_;rintro e w8 ⟨rfl,b8⟩;have aZ:=hHeld.trans (b8.mono hHeld.size);clear b8 hHeld
   try go_wp2_with fail
   refine hK.out _ _ aZ (fun hHeld=>?_);clear hK K aZ
   try simp only[put,sA,sB,sC]
   refine ak 27 ?_ (hy:=by intro wz hSw;obtain⟨z0,z1,z2,z3,z4,z5⟩:=dz.out wz hSw;(try simp only[put,sA,sB,sC]);go_simp;first|done|with_reducible rfl)
   try simp only[put,sA,sB,sC]
   refine ak 28 ?_ (hy:=by intro wz hSw;obtain⟨z0,z1,z2,z3,z4,z5⟩:=dz.out wz hSw;(try simp only[put,sA,sB,sC]);go_simp;first|done|with_reducible rfl)
   try simp only[put,sA,sB,sC]
   refine wpAnyH_done (by kernel_rfl) ?_ _;have xj:=hid (HG.out.aa hHeld);clear hHeld HG;rcases bo with _|_
   ·have HZ:=hid (gJ.out.2 (fun e=>by have h9:=zT.out;simp[dK] at e;simp[e] at h9));clear gJ;go_wp2;go_ret;exact (HP.out _ xj.out.2.2).1 HZ.out
   have HZ:=hid (gJ.out.1 (by have h9:=zT.out;simp at h9;simp[dK,h9]));clear gJ;go_wp2;go_roundw
   ·exact⟨k+1,by go_num,by omega,xj.out,HZ.out⟩
   simp[intOf];omega
  have HZ:=hid (gJ.out.2 (fun e=>f0 (by simp[dK] at e;exact e.1)));have j9:(xs != ys)=true:=by simp[f0]
  clear gJ f0;go_upto_region 21 with fail;clear c3 d3;refine wp_region_held_drew (S:=fun W'=>Below wr.heap.size wr W') (by kernel_rfl) (Below.refl _ _).drew (fun hHeld=>?_);refine ak 0 ?_ (hy:=by intro wz hSw;obtain⟨z0,z1,z2,z3,z4,z5⟩:=dz.out wz hSw;(try simp only[put,sA,sB,sC]);go_simp;first|done|with_reducible rfl)
  try simp only[put,sA,sB,sC]
  refine ak 1 ?_ (hy:=by intro wz hSw;obtain⟨z0,z1,z2,z3,z4,z5⟩:=dz.out wz hSw;(try simp only[put,sA,sB,sC]);go_simp;first|done|with_reducible rfl)
  try simp only[put,sA,sB,sC]
  refine ak 2 ?_ (hy:=by intro wz hSw;obtain⟨z0,z1,z2,z3,z4,z5⟩:=dz.out wz hSw;(try simp only[put,sA,sB,sC]);go_simp;first|done|with_reducible rfl)
  try simp only[put,sA,sB,sC]
  refine ak 3 ?_ (hy:=by intro wz hSw;obtain⟨z0,z1,z2,z3,z4,z5⟩:=dz.out wz hSw;(try simp only[put,sA,sB,sC]);go_simp;first|done|with_reducible rfl)
  try simp only[put,sA,sB,sC]
  refine ak 4 ?_ (hy:=by intro wz hSw;obtain⟨z0,z1,z2,z3,z4,z5⟩:=dz.out wz hSw;(try simp only[put,sA,sB,sC]);go_simp;first|done|with_reducible rfl)
  try simp only[put,sA,sB,sC]
  refine ak 5 ?_ (hy:=by intro wz hSw;obtain⟨z0,z1,z2,z3,z4,z5⟩:=dz.out wz hSw;(try simp only[put,sA,sB,sC]);go_simp;first|done|with_reducible rfl)
  try simp only[put,sA,sB,sC]
  refine ak 6 ?_ (hy:=by intro wz hSw;obtain⟨z0,z1,z2,z3,z4,z5⟩:=dz.out wz hSw;(try simp only[put,sA,sB,sC]);go_simp;first|done|with_reducible rfl)
  try simp only[put,sA,sB,sC]
  refine ak 7 ?_ (hy:=by intro wz hSw;obtain⟨z0,z1,z2,z3,z4,z5⟩:=dz.out wz hSw;(try simp only[put,sA,sB,sC]);go_simp;first|done|with_reducible rfl)
  try simp only[put,sA,sB,sC]
  refine ak 8 ?_ (hy:=by intro wz hSw;obtain⟨z0,z1,z2,z3,z4,z5⟩:=dz.out wz hSw;(try simp only[put,sA,sB,sC]);go_simp;first|done|with_reducible rfl)
  try simp only[put,sA,sB,sC]
  refine ak 9 ?_ (hy:=by intro wz hSw;obtain⟨z0,z1,z2,z3,z4,z5⟩:=dz.out wz hSw;(try simp only[put,sA,sB,sC]);go_simp;first|done|with_reducible rfl)
  try simp only[put,sA,sB,sC]
  refine ak 10 ?_ (hy:=by intro wz hSw;obtain⟨z0,z1,z2,z3,z4,z5⟩:=dz.out wz hSw;(try simp only[put,sA,sB,sC]);go_simp;first|done|with_reducible rfl)
  try simp only[put,sA,sB,sC]
  refine ak 11 ?_ (hy:=by intro wz hSw;obtain⟨z0,z1,z2,z3,z4,z5⟩:=dz.out wz hSw;(try simp only[put,sA,sB,sC]);go_simp;first|done|with_reducible rfl)
  try simp only[put,sA,sB,sC]
  refine ak 12 (v:=.bool true) ?_ (hy:=by intro wz hSw;obtain⟨z0,z1,z2,z3,z4,z5⟩:=dz.out wz hSw;(try simp only[put,sA,sB,sC]);go_simp;first|done|with_reducible rfl)
  try simp only[put,sA,sB,sC]
  refine ak 13 ?_ (hy:=by intro wz hSw;obtain⟨z0,z1,z2,z3,z4,z5⟩:=dz.out wz hSw;(try simp only[put,sA,sB,sC]);go_simp;first|done|with_reducible rfl)
  try simp only[put,sA,sB,sC]
  refine dg 14 ?_
  try simp only[put,sA,sB,sC]
  refine dg 15 ?_
  try simp only[put,sA,sB,sC]
  refine dg 16 ?_
  try simp only[put,sA,sB,sC]
  refine dg 17 ?_
  try simp only[put,sA,sB,sC]
  refine dg 18 ?_
  try simp only[put,sA,sB,sC]
  refine dg 19 ?_
  try simp only[put,sA,sB,sC]
  refine dg 20 ?_
  try simp only[put,sA,sB,sC]
  refine dg 21 ?_
  try simp only[put,sA,sB,sC]
  refine dg 22 ?_
  try simp only[put,sA,sB,sC]
  refine dg 23 ?_
  try simp only[put,sA,sB,sC]
  refine dg 24 ?_
  try simp only[put,sA,sB,sC]
  refine dg 25 ?_
  try simp only[put,sA,sB,sC]
  refine dg 26 ?_
  try simp only[put,sA,sB,sC]
  refine dg 27 ?_
  try simp only[put,sA,sB,sC]
  refine ak 28 ?_ (hy:=by intro wz hSw;obtain⟨z0,z1,z2,z3,z4,z5⟩:=dz.out wz hSw;(try simp only[put,sA,sB,sC]);go_simp;first|done|with_reducible rfl)
  try simp only[put,sA,sB,sC]
  refine wpAnyH_done (by kernel_rfl) ?_ _;have xj:=hid (HG.out.aa hHeld);clear hHeld HG;go_wp2;go_ret;exact (HP.out _ xj.out.2.2).1 HZ.out
 obtain rfl:k=n:=by omega
 have HZ:Hid (dT G K):=⟨U3.out,HES.out,HEP.out,Lt dK HE.out.2.2.2.1 (fun j h1 h2=>HR.out.2 j h1 h2 (by rw[<-HN.out.1];exact h1)),HE.out.2.2.2.2⟩
 have HY:=hid HR.out.1;go_wp2;go_ret;exact (HP.out _ HY.out.2.2).2 HZ.out
def qJ(n m:Int)(w:World)(e:Ending)(w':World):Prop:=e=.returned (.bool (decide (0<=n) && decide (n<m)))/\w'=w
theorem Kq(n m:Int)(w:World):Calls prog 43 #[.int .i64 n,.int .i64 m] w (qJ n m w):=by
 go_enter func43,ntmps43;by_cases h0:0<=n
 ·by_cases h1:n<m
  ·have HZ:Hid (qJ n m w (.returned (.bool true)) w):=(⟨by simp[h0,h1],rfl⟩);go_wp2;go_ret;exact HZ.out
  have HZ:Hid (qJ n m w (.returned (.bool false)) w):=⟨by simp[h0,h1],rfl⟩
  go_wp2;go_ret;exact HZ.out
 have HZ:Hid (qJ n m w (.returned (.bool false)) w):=⟨by simp[h0],rfl⟩
 go_wp2;go_ret;exact HZ.out
def Q9(n:Int)(w:World)(e:Ending)(w':World):Prop:=e=.returned (.agg #[.bool true,.int .i64 n])/\Below w.heap.size w w'
theorem xT(n:Int)(w:World):Calls prog 30 #[.int .i64 n] w (Q9 n w):=by
 have k0:=al w (.cells #[.bool true,.int .i64 n] 38);have HB:=hid k0;have q0:=p6 w #[.bool true,.int .i64 n] 38 0 _ rfl;have q1:=p6 w #[.bool true,.int .i64 n] 38 1 _ rfl;clear k0;go_enter func30,ntmps30;go_wp2_with fail;exact bodyPost_ret (v:=.agg #[.bool true,.int .i64 n]) (by simp[results,results30,go_sem,q0,q1]) rfl ⟨rfl,HB.out⟩
theorem JM(G:Gr)(x:Sy)(w:World)(hA:G.At w)(hL:G.lb 9223372036854775807):
  Calls prog 14 #[G.val,.agg (jo x).toArray] w (mB (fQ G x) w):=by
 show Calls prog 14 #[.agg #[.slice G.aR G.R.length G.cR,.slice G.aS G.S.length G.cS,.slice G.aP G.P.length G.cP,.slice G.aL G.L.length G.cL,.int .i64 G.st],.agg #[.bool x.s,.int .i64 x.n]] w _;have HA:=hid hA;have M9:=hL.r;have A3:=hL.s;clear hA hL;obtain⟨w2,bK⟩:∃w2,((w.alloc (.cells #[.slice G.aR G.R.length G.cR,.slice G.aS G.S.length G.cS,.slice G.aP G.P.length G.cP,.slice G.aL G.L.length G.cL,.int .i64 G.st] 27)).alloc (.cells #[.bool x.s,.int .i64 x.n] 38))=w2:=⟨_,rfl⟩
 have H:Hid (fo w2 w.heap.size G/\sW w2 (w.heap.size+1) x/\Below w.heap.size w w2):=by
  rw[<-bK];have k0:=al w (.cells #[.slice G.aR G.R.length G.cR,.slice G.aS G.S.length G.cS,.slice G.aP G.P.length G.cP,.slice G.aL G.L.length G.cL,.int .i64 G.st] 27);have k1:=al (w.alloc (.cells #[.slice G.aR G.R.length G.cR,.slice G.aS G.S.length G.cS,.slice G.aP G.P.length G.cP,.slice G.aL G.L.length G.cL,.int .i64 G.st] 27)) (.cells #[.bool x.s,.int .i64 x.n] 38);exact⟨((fo.new w G 27).below k1),(by have h9:=(sW.new (w.alloc (.cells #[.slice G.aR G.R.length G.cR,.slice G.aS G.S.length G.cS,.slice G.aP G.P.length G.cP,.slice G.aL G.L.length G.cL,.int .i64 G.st] 27)) x 38);simpa using h9),(k0.trans (k1.mono k0.size))⟩
 have jC:Hid (w2.heap.size=w.heap.size+2):=by show _=_;rw[<-bK];simp
 go_enter func14,ntmps14;go_upto_region 1 with fail
 try rw[bK]
 clear bK;have c0:=H.out.1.c0;have c1:=H.out.1.c1;have s0:=H.out.2.1.c0;have s1:=H.out.2.1.c1;have HB:=hid H.out.2.2;obtain⟨xs,n⟩:=x;dsimp only at s0 s1;rcases xs with _|_
 ·have HI:=hid (Kq n (G.R.length:Int) w2);by_cases h0:0<=n/\n<(G.R.length:Int)
  ·have hd:(decide (0<=n) && decide (n<(G.R.length:Int)))=true:=(by simp[h0.1,h0.2]);obtain⟨k,rfl⟩:=Int.eq_ofNat_of_zero_le h0.1;have hk:k<G.R.length:=(by omega);obtain⟨g1,o1,e1,gV,x0,x1,x2⟩:=(HA.out.below HB.out).r.get k hk;have HZ:Hid (fQ G ⟨false,(k:Int)⟩=(G.R[k].k == 0)):=ZG hk;have sx:Hid (Calls prog 43 #[.int .i64 (k:Int),.int .i64 (G.R.length:Int)] w2 (fun e w'=>e=.returned (.bool true)/\w'=w2)):=by
    have h9:=HI.out;unfold qJ at h9;rw[hd] at h9;exact h9
   rw[e1] at c0;generalize G.R[k].k=q at x1 HZ;clear x0 x2 e1 hd h0 HI;go_wp2_with (go_at_call 43;refine sx.out.mono ?_;rintro e w3 ⟨rfl,rfl⟩);go_ret;exact⟨by rw[HZ.out];rfl,HB.out⟩
  have HZ:Hid (fQ G ⟨false,n⟩=false):=zk3 h0;have sx:Hid (Calls prog 43 #[.int .i64 n,.int .i64 (G.R.length:Int)] w2 (fun e w'=>e=.returned (.bool false)/\w'=w2)):=by
   have h9:=HI.out;unfold qJ at h9;rw[show (decide (0<=n) && decide (n<(G.R.length:Int)))=false by rw[<-Bool.decide_and];exact decide_eq_false h0] at h9;exact h9
  clear h0 HI;go_wp2_with (go_at_call 43;refine sx.out.mono ?_;rintro e w3 ⟨rfl,rfl⟩);go_ret;exact⟨by rw[HZ.out];rfl,HB.out⟩
 have HI:=hid (Kq n (G.S.length:Int) w2);have HZ:Hid (fQ G ⟨true,n⟩=(decide (0<=n) && decide (n<G.S.length))):=QQ;go_wp2_with (go_at_call 43;refine HI.out.mono ?_;rintro e w3 ⟨rfl,rfl⟩);go_ret;exact⟨by rw[HZ.out];rfl,HB.out⟩
def yK(l:List gK)(p:gK->Prop)(r:Int):Prop:=(r=-1/\∀j (h:j<l.length),¬p l[j])\/∃(i:Nat) (h:i<l.length),r=((i:Nat):Int)/\p l[i]/\∀j (h:j<l.length),j<i->¬p l[j]
def yw(l:List gK)(p:gK->Prop)(w:World)(e:Ending)(w':World):Prop:=∃r,e=.returned (.int .i64 r)/\yK l p r/\Below w.heap.size w w'
theorem zli(fn:Nat)(wL:∀(args:Array Value) (W:World),(callFunc fn args).run prog W=.ok (.enter fn args) W)(p:gK->Prop)(n c b:Nat)(a:Option Addr)(l:List gK)(hl:l.length=n)(hn:n<=9223372036854775807)(w:World)(h1:pq w a l)
  (hF:∀(x:gK) W,Below w.heap.size w W->Calls prog fn #[.agg #[.int .i64 x.bF,.string x.bG,.slice x.ab x.body.length x.cb,.bool x.par,.int .i64 x.prec,.slice x.ah x.hints.length x.ch],.pointer (some ⟨b,0,none⟩)] W (ba (p x) W)):
  Calls prog 48 #[.slice a n c,.func (.func fn) #[] #[.pointer (some ⟨b,0,none⟩)]] w (yw l p w):=by
 have H:=hid (Zz h1 (Zz hl hF));clear h1 hl hF;go_enter func48,ntmps48;go_wp2;go_loopw [5,8] (fun _ v wr=>∃k:Nat,v=.int .i64 k/\k<=n/\Hid (Below w.heap.size w wr/\∀j (h:j<l.length),j<k->¬p l[j])) (fun _ v _=>n-(intOf v).toNat)
 ·exact⟨0,rfl,zero_le _,Below.refl _ _,fun j _ h=>by omega⟩
 obtain⟨k,rfl,hk,HL⟩:=hrel;by_cases av:k<n
 case neg=>
  obtain rfl:k=n:=by omega
  have HZ:Hid (yK l p (-1)):=inl ⟨rfl,fun j h=>HL.out.2 j h (by have:=H.out.2.1;omega)⟩;go_wp2;go_ret;exact⟨_,rfl,HZ.out,HL.out.1⟩
 have hkl:k<l.length:=by rw[H.out.2.1];exact av
 obtain⟨g1,o1,rfl,_,X,x0,x1,x2,x3,x4,x5⟩:=(H.out.1.below HL.out.1).get k hkl;clear X;have HF:=hid (H.out.2.2 l[k] wr HL.out.1);have HS:Hid (¬p l[k]->∀j (h:j<l.length),j<k+1->¬p l[j]):=fun h j hj hjk=>by
  by_cases e:j=k
  ·subst e;exact h
  exact HL.out.2 j hj (by omega)
 have HY:Hid (p l[k]->yK l p (k:Int)):=fun h=>inr ⟨k,hkl,rfl,h,HL.out.2⟩
 have i1:(k:Int)<n:=by omega
 generalize l[k]=x at x0 x1 x2 x3 x4 x5 HF HS HY;clear hkl;go_wp2_with fail;refine HF.out.mono ?_;rintro e w2 ⟨y,hy,rfl,b2⟩;have H2:=hid (Zz (HL.out.1.trans (b2.mono HL.out.1.size)) hy);clear b2 hy HF x0 x1 x2 x3 x4 x5;rcases y with _|_
 ·have HZ:=hid (HS.out (fun h=>by have:=H2.out.2.2 h;cases this));go_wp2;go_roundw
  ·exact⟨k+1,by go_num,by omega,H2.out.1,HZ.out⟩
  simp[intOf];omega
 have HZ:=hid (HY.out (H2.out.2.1 rfl));go_wp2;go_ret;exact⟨_,rfl,HZ.out,H2.out.1⟩
theorem Zx:∀(args:Array Value) (W:World),(callFunc 50 args).run prog W=.ok (.enter 50 args) W:=fun _ _=>by rfl
theorem zlj(x:gK)(b:Nat)(s:ByteArray)(w:World)(hc:w.cell? ⟨b,0,none⟩=some (.string s))(hb:b<w.heap.size):
  Calls prog 50 #[.agg #[.int .i64 x.bF,.string x.bG,.slice x.ab x.body.length x.cb,.bool x.par,.int .i64 x.prec,.slice x.ah x.hints.length x.ch],.pointer (some ⟨b,0,none⟩)] w (ba (x.bG=s) w):=by
 have HC:=hid (Zz hc hb);clear hc hb;obtain⟨w2,bK⟩:∃w2,(w.alloc (.cells #[.int .i64 x.bF,.string x.bG,.slice x.ab x.body.length x.cb,.bool x.par,.int .i64 x.prec,.slice x.ah x.hints.length x.ch] 47))=w2:=⟨_,rfl⟩
 have H:Hid (lF w2 w.heap.size x/\Below w.heap.size w w2):=by
  rw[<-bK];have k0:=al w (.cells #[.int .i64 x.bF,.string x.bG,.slice x.ab x.body.length x.cb,.bool x.par,.int .i64 x.prec,.slice x.ah x.hints.length x.ch] 47);exact⟨(lF.new w x 47),k0⟩
 have jC:Hid (w2.heap.size=w.heap.size+1):=by show _=_;rw[<-bK];simp
 go_enter func50,ntmps50;go_upto_region 1 with fail
 try rw[bK]
 clear bK;have c1:=H.out.1.c1;have HB:=hid H.out.2;have e1:w2.cell? ⟨b,0,none⟩=some (.string s):=(HB.out.cell (p:=⟨b,0,none⟩) HC.out.2).trans HC.out.1;have HQ:Hid ((x.bG.toList == s.toList)=true↔x.bG=s):=by
  have h9:=xP x.bG s;show _↔_;rw[h9];simp
 clear H;go_wp2;go_ret;exact⟨_,HQ.out,rfl,HB.out⟩
theorem zjf(G:Gr)(s:ByteArray)(w:World)(hA:G.At w)(hL:G.P.length<=9223372036854775807):
  Calls prog 23 #[G.val,.string s] w (yw G.P (fun x=>x.bG=s) w):=by
 show Calls prog 23 #[.agg #[.slice G.aR G.R.length G.cR,.slice G.aS G.S.length G.cS,.slice G.aP G.P.length G.cP,.slice G.aL G.L.length G.cL,.int .i64 G.st],.string s] w _;have HA:=hid (Zz hA hL);have zd:∀(fn:Fn) (first cap:Array Value) (w:World),(Instr.makeFunc fn first cap).run prog w=.ok (.func fn first cap) w:=fun _ _ _ _=>rfl
 clear hA hL;obtain⟨w2,bK⟩:∃w2,((w.alloc (.cells #[.slice G.aR G.R.length G.cR,.slice G.aS G.S.length G.cS,.slice G.aP G.P.length G.cP,.slice G.aL G.L.length G.cL,.int .i64 G.st] 27)).alloc (.cells #[.string s] 9))=w2:=⟨_,rfl⟩
 have H:Hid (fo w2 w.heap.size G/\w2.heap[(w.heap.size+1)]?=some (.cells #[.string s] 9 (0,0))/\Below w.heap.size w w2):=by
  rw[<-bK];have k0:=al w (.cells #[.slice G.aR G.R.length G.cR,.slice G.aS G.S.length G.cS,.slice G.aP G.P.length G.cP,.slice G.aL G.L.length G.cL,.int .i64 G.st] 27);have k1:=al (w.alloc (.cells #[.slice G.aR G.R.length G.cR,.slice G.aS G.S.length G.cS,.slice G.aP G.P.length G.cP,.slice G.aL G.L.length G.cL,.int .i64 G.st] 27)) (.cells #[.string s] 9);exact⟨((fo.new w G 27).below k1),(by have h9:=(heap_alloc_new (w.alloc (.cells #[.slice G.aR G.R.length G.cR,.slice G.aS G.S.length G.cS,.slice G.aP G.P.length G.cP,.slice G.aL G.L.length G.cL,.int .i64 G.st] 27)) (.cells #[.string s] 9));simpa using h9),(k0.trans (k1.mono k0.size))⟩
 have jC:Hid (w2.heap.size=w.heap.size+2):=by show _=_;rw[<-bK];simp
 go_enter func23,ntmps23;go_upto_region 1 with fail
 try rw[bK]
 clear bK;have HB:=hid H.out.2.2;have c2:=H.out.1.c2;have HI:Hid (∀b,w.heap.size+1=b->Calls prog 48 #[.slice G.aP G.P.length G.cP,.func (.func 50) #[] #[.pointer (some ⟨b,0,none⟩)]] w2 (yw G.P (fun x=>x.bG=s) w2)):=fun b hb=>by
  subst hb;have h9:w2.cell? ⟨w.heap.size+1,0,none⟩=some (.string s):=by rw[cell_of_row w2 _ 0 _ _ _ H.out.2.1];rfl
  have h8:=jC.out;exact zli 50 Zx (fun x=>x.bG=s) _ _ _ _ G.P rfl HA.out.2 w2 (HA.out.1.below HB.out).p (fun x W k=>zlj x _ s W ((k.cell (p:=⟨w.heap.size+1,0,none⟩) (by show w.heap.size+1<w2.heap.size;omega)).trans h9) (by have:=k.size;omega))
 have sx:=hid (HI.out _ rfl);clear HI H;go_wp2_with (go_at_call 48;refine sx.out.mono ?_);rintro e w3 ⟨r,rfl,hr,b3⟩;have HF:=hid (Zz hr (HB.out.trans (b3.mono HB.out.size)));clear hr b3 sx c2;go_wp2;go_ret;exact⟨_,rfl,HF.out.1,HF.out.2⟩
theorem zou{l:List gK}{p:gK->Prop}{r:Int}(h:yK l p r)(hi:i<l.length)(hp:p l[i]):r<(i:Int)↔∃k,∃h:k<i,p (l[k]'(by omega)):=by
 rcases h with ⟨_,hn⟩|⟨q,hq,rfl,hs,hn⟩
 ·exact absurd hp (hn i hi)
 constructor
 ·intro h;exact⟨q,by omega,hs⟩
 rintro⟨k,hk,h2⟩;rcases Nat.lt_or_ge k q with h3|h3
 ·exact absurd h2 (hn k (by omega) h3)
 omega
theorem ba.yq{p:Prop}(h:Below w.heap.size w w'):(¬p->ba p w (.returned (.bool false)) w')/\(p->ba p w (.returned (.bool true)) w'):=⟨fun k=>⟨false,by simp[k],rfl,h⟩,fun k=>⟨true,by simp[k],rfl,h⟩⟩
theorem Rp(l t:List Int)(n c m d:Nat)(a b:Option Addr)(hn:l.length=n)(hm:t.length=m)(uM:n<=9223372036854775807)(rm:m<=9223372036854775807)(w:World)(h1:fP w a l)(h2:fP w b t):
  Calls prog 62 #[.slice a n c,.slice b m d] w (ba (l=t) w):=by
 have H:=hid (Zz h1 (Zz h2 (Zz hn hm)));have HP:Hid (∀w',Below w.heap.size w w'->(¬l=t->ba (l=t) w (.returned (.bool false)) w')/\(l=t->ba (l=t) w (.returned (.bool true)) w')):=fun w' hb=>ba.yq hb
 clear h1 h2 hn hm;go_enter func62,ntmps62;by_cases ez:n=m
 case neg=>
  have i1:((n:Int) != (m:Int))=true:=by simp;omega
  have HZ:Hid (¬l=t):=fun e=>ez (by rw[<-H.out.2.2.1,<-H.out.2.2.2,e])
  go_wp2;go_ret;exact (HP.out _ (Below.refl _ _)).1 HZ.out
 subst ez;go_wp2;go_loopw [5,13] (fun _ v wr=>∃k:Nat,v=.int .i64 k/\k<=n/\Hid (Below w.heap.size w wr/\∀j (h1:j<l.length) (h2:j<t.length),j<k->l[j]=t[j])) (fun _ v _=>n-(intOf v).toNat)
 ·exact⟨0,rfl,zero_le _,Below.refl _ _,fun j _ _ h=>absurd h (by omega)⟩
 obtain⟨k,rfl,hk,HX⟩:=hrel;by_cases av:k<n
 case neg=>
  obtain rfl:k=n:=by omega
  have HZ:Hid (l=t):=A6 (by rw[H.out.2.2.1,H.out.2.2.2]) (fun j h1 h2=>HX.out.2 j h1 h2 (by rw[<-H.out.2.2.1];exact h1));have HB:=hid HX.out.1;go_wp2;go_ret;exact (HP.out _ HB.out).2 HZ.out
 have cQ:k<l.length:=by rw[H.out.2.2.1];exact av
 have eY:k<t.length:=by rw[H.out.2.2.2];exact av
 obtain⟨g1,o1,rfl,_,y⟩:=(H.out.1.below HX.out.1).get k cQ;obtain⟨g2,o2,rfl,_,z⟩:=(H.out.2.1.below HX.out.1).get k eY;have HN:Hid ((l[k]=t[k]->∀j (h1:j<l.length) (h2:j<t.length),j<k+1->l[j]=t[j])/\(l[k]≠t[k]->¬l=t)):=by
  refine⟨fun h j hj hj2 h3=>?_,fun h=>Ae cQ eY h⟩;by_cases e:j=k
  ·subst e;exact h
  exact HX.out.2 j hj hj2 (by omega)
 have i2:(k:Int)<n:=by omega
 generalize l[k]=u at y HN;generalize t[k]=v at z HN;have HB:=hid HX.out.1;clear HX cQ eY;by_cases qY:u=v
 ·subst qY;have IK:(u != u)=false:=by simp
  have HZ:=hid (HN.out.1 rfl);clear HN;go_upto_region 6 with fail;go_quiet (fail);go_wp2;go_roundw
  ·exact⟨k+1,by go_num,by omega,dy w HB.out _,HZ.out⟩
  simp[intOf];omega
 have HZ:=hid (HN.out.2 qY);have IK:(u != v)=true:=by simp[qY]
 clear qY;clear HN;go_upto_region 6 with fail;go_quiet (fail);go_wp2;go_ret;exact (HP.out _ (dy w HB.out _)).1 HZ.out
theorem ZX(l t:List ByteArray)(n c m d:Nat)(a b:Option Addr)(hn:l.length=n)(hm:t.length=m)(uM:n<=9223372036854775807)(rm:m<=9223372036854775807)(w:World)(h1:qD w a l)(h2:qD w b t):
  Calls prog 36 #[.slice a n c,.slice b m d] w (ba (l=t) w):=by
 have H:=hid (Zz h1 (Zz h2 (Zz hn hm)));have HP:Hid (∀w',Below w.heap.size w w'->(¬l=t->ba (l=t) w (.returned (.bool false)) w')/\(l=t->ba (l=t) w (.returned (.bool true)) w')):=fun w' hb=>ba.yq hb
 clear h1 h2 hn hm;go_enter func36,ntmps36;by_cases ez:n=m
 case neg=>
  have i1:((n:Int) != (m:Int))=true:=by simp;omega
  have HZ:Hid (¬l=t):=fun e=>ez (by rw[<-H.out.2.2.1,<-H.out.2.2.2,e])
  go_wp2;go_ret;exact (HP.out _ (Below.refl _ _)).1 HZ.out
 subst ez;go_wp2;go_loopw [5,13] (fun _ v wr=>∃k:Nat,v=.int .i64 k/\k<=n/\Hid (Below w.heap.size w wr/\∀j (h1:j<l.length) (h2:j<t.length),j<k->l[j]=t[j])) (fun _ v _=>n-(intOf v).toNat)
 ·exact⟨0,rfl,zero_le _,Below.refl _ _,fun j _ _ h=>absurd h (by omega)⟩
 obtain⟨k,rfl,hk,HX⟩:=hrel;by_cases av:k<n
 case neg=>
  obtain rfl:k=n:=by omega
  have HZ:Hid (l=t):=A6 (by rw[H.out.2.2.1,H.out.2.2.2]) (fun j h1 h2=>HX.out.2 j h1 h2 (by rw[<-H.out.2.2.1];exact h1));have HB:=hid HX.out.1;go_wp2;go_ret;exact (HP.out _ HB.out).2 HZ.out
 have cQ:k<l.length:=by rw[H.out.2.2.1];exact av
 have eY:k<t.length:=by rw[H.out.2.2.2];exact av
 obtain⟨g1,o1,rfl,_,q1⟩:=(H.out.1.below HX.out.1) (by omega);obtain⟨g2,o2,rfl,_,q2⟩:=(H.out.2.1.below HX.out.1) (by omega);have y:=q1 k cQ;have z:=q2 k eY;clear q1 q2;have HN:Hid ((l[k]=t[k]->∀j (h1:j<l.length) (h2:j<t.length),j<k+1->l[j]=t[j])/\(l[k]≠t[k]->¬l=t)):=by
  refine⟨fun h j hj hj2 h3=>?_,fun h=>Ae cQ eY h⟩;by_cases e:j=k
  ·subst e;exact h
  exact HX.out.2 j hj hj2 (by omega)
 have i2:(k:Int)<n:=by omega
 generalize l[k]=u at y HN;generalize t[k]=v at z HN;have HB:=hid HX.out.1;clear HX cQ eY;have s0:=xP u v;by_cases qY:u=v
 ·subst qY;have IK:(u.toList != u.toList)=false:=by simp
  clear s0;have HZ:=hid (HN.out.1 rfl);clear HN;go_upto_region 6 with fail;go_quiet (fail);go_wp2;go_roundw
  ·exact⟨k+1,by go_num,by omega,dy w HB.out _,HZ.out⟩
  simp[intOf];omega
 have HZ:=hid (HN.out.2 qY);have hEq:(u.toList == v.toList)=false:=by rw[s0];simp[qY]
 have IK:(u.toList != v.toList)=true:=by simp[bne,hEq]
 clear s0;clear qY;clear HN;go_upto_region 6 with fail;go_quiet (fail);go_wp2;go_ret;exact (HP.out _ (dy w HB.out _)).1 HZ.out
theorem zjh(l t:List Sy)(n c m d:Nat)(a b:Option Addr)(hn:l.length=n)(hm:t.length=m)(uM:n<=9223372036854775807)(rm:m<=9223372036854775807)(w:World)(h1:nM w a l)(h2:nM w b t):
  Calls prog 61 #[.slice a n c,.slice b m d] w (ba (l=t) w):=by
 have H:=hid (Zz h1 (Zz h2 (Zz hn hm)));have HP:Hid (∀w',Below w.heap.size w w'->(¬l=t->ba (l=t) w (.returned (.bool false)) w')/\(l=t->ba (l=t) w (.returned (.bool true)) w')):=fun w' hb=>ba.yq hb
 clear h1 h2 hn hm;go_enter func61,ntmps61;by_cases ez:n=m
 case neg=>
  have i1:((n:Int) != (m:Int))=true:=by simp;omega
  have HZ:Hid (¬l=t):=fun e=>ez (by rw[<-H.out.2.2.1,<-H.out.2.2.2,e])
  go_wp2;go_ret;exact (HP.out _ (Below.refl _ _)).1 HZ.out
 subst ez;go_wp2;go_loopw [5,13] (fun _ v wr=>∃k:Nat,v=.int .i64 k/\k<=n/\Hid (Below w.heap.size w wr/\∀j (h1:j<l.length) (h2:j<t.length),j<k->l[j]=t[j])) (fun _ v _=>n-(intOf v).toNat)
 ·exact⟨0,rfl,zero_le _,Below.refl _ _,fun j _ _ h=>absurd h (by omega)⟩
 obtain⟨k,rfl,hk,HX⟩:=hrel;by_cases av:k<n
 case neg=>
  obtain rfl:k=n:=by omega
  have HZ:Hid (l=t):=A6 (by rw[H.out.2.2.1,H.out.2.2.2]) (fun j h1 h2=>HX.out.2 j h1 h2 (by rw[<-H.out.2.2.1];exact h1));have HB:=hid HX.out.1;go_wp2;go_ret;exact (HP.out _ HB.out).2 HZ.out
 have cQ:k<l.length:=by rw[H.out.2.2.1];exact av
 have eY:k<t.length:=by rw[H.out.2.2.2];exact av
 obtain⟨g1,o1,rfl,_,y0,y1⟩:=(H.out.1.below HX.out.1).get k cQ;obtain⟨g2,o2,rfl,_,z0,z1⟩:=(H.out.2.1.below HX.out.1).get k eY;have HN:Hid ((l[k]=t[k]->∀j (h1:j<l.length) (h2:j<t.length),j<k+1->l[j]=t[j])/\(l[k]≠t[k]->¬l=t)):=by
  refine⟨fun h j hj hj2 h3=>?_,fun h=>Ae cQ eY h⟩;by_cases e:j=k
  ·subst e;exact h
  exact HX.out.2 j hj hj2 (by omega)
 have i2:(k:Int)<n:=by omega
 generalize l[k]=u at y0 y1 HN;generalize t[k]=v at z0 z1 HN;have HB:=hid HX.out.1;clear HX cQ eY;obtain⟨us,un⟩:=u;obtain⟨vs,vn⟩:=v;dsimp only at y0 y1 z0 z1;by_cases f0:us=vs
 case neg=>
  have HZ:=hid (HN.out.2 (fun e=>f0 (by injection e)));have j9:(us == vs)=false:=by simp[f0]
  clear f0;clear HN;go_upto_region 6 with fail;go_quiet (fail);go_wp2;go_ret;exact (HP.out _ (dy w HB.out _)).1 HZ.out
 subst f0;by_cases f1:un=vn
 case neg=>
  have HZ:=hid (HN.out.2 (fun e=>f1 (by injection e)));have j9:(un == vn)=false:=by simp[f1]
  clear f1;clear HN;go_upto_region 6 with fail;go_quiet (fail);go_wp2;go_ret;exact (HP.out _ (dy w HB.out _)).1 HZ.out
 subst f1;have HZ:=hid (HN.out.1 rfl);clear HN;go_upto_region 6 with fail;go_quiet (fail);go_wp2;go_roundw
 ·exact⟨k+1,by go_num,by omega,dy w HB.out _,HZ.out⟩
 simp[intOf];omega
theorem zji(l t:List Ru)(n c m d:Nat)(a b:Option Addr)(hn:l.length=n)(hm:t.length=m)(uM:n<=9223372036854775807)(rm:m<=9223372036854775807)(w:World)(h1:jl w a l)(h2:jl w b t):
  Calls prog 35 #[.slice a n c,.slice b m d] w (ba (l=t) w):=by
 have H:=hid (Zz h1 (Zz h2 (Zz hn hm)));have HP:Hid (∀w',Below w.heap.size w w'->(¬l=t->ba (l=t) w (.returned (.bool false)) w')/\(l=t->ba (l=t) w (.returned (.bool true)) w')):=fun w' hb=>ba.yq hb
 clear h1 h2 hn hm;go_enter func35,ntmps35;by_cases ez:n=m
 case neg=>
  have i1:((n:Int) != (m:Int))=true:=by simp;omega
  have HZ:Hid (¬l=t):=fun e=>ez (by rw[<-H.out.2.2.1,<-H.out.2.2.2,e])
  go_wp2;go_ret;exact (HP.out _ (Below.refl _ _)).1 HZ.out
 subst ez;go_wp2;go_loopw [5,13] (fun _ v wr=>∃k:Nat,v=.int .i64 k/\k<=n/\Hid (Below w.heap.size w wr/\∀j (h1:j<l.length) (h2:j<t.length),j<k->l[j]=t[j])) (fun _ v _=>n-(intOf v).toNat)
 ·exact⟨0,rfl,zero_le _,Below.refl _ _,fun j _ _ h=>absurd h (by omega)⟩
 obtain⟨k,rfl,hk,HX⟩:=hrel;by_cases av:k<n
 case neg=>
  obtain rfl:k=n:=by omega
  have HZ:Hid (l=t):=A6 (by rw[H.out.2.2.1,H.out.2.2.2]) (fun j h1 h2=>HX.out.2 j h1 h2 (by rw[<-H.out.2.2.1];exact h1));have HB:=hid HX.out.1;go_wp2;go_ret;exact (HP.out _ HB.out).2 HZ.out
 have cQ:k<l.length:=by rw[H.out.2.2.1];exact av
 have eY:k<t.length:=by rw[H.out.2.2.2];exact av
 obtain⟨g1,o1,rfl,_,y0,y1,y2⟩:=(H.out.1.below HX.out.1).get k cQ;obtain⟨g2,o2,rfl,_,z0,z1,z2⟩:=(H.out.2.1.below HX.out.1).get k eY;have HN:Hid ((l[k]=t[k]->∀j (h1:j<l.length) (h2:j<t.length),j<k+1->l[j]=t[j])/\(l[k]≠t[k]->¬l=t)):=by
  refine⟨fun h j hj hj2 h3=>?_,fun h=>Ae cQ eY h⟩;by_cases e:j=k
  ·subst e;exact h
  exact HX.out.2 j hj hj2 (by omega)
 have i2:(k:Int)<n:=by omega
 generalize l[k]=u at y0 y1 y2 HN;generalize t[k]=v at z0 z1 z2 HN;have HB:=hid HX.out.1;clear HX cQ eY;obtain⟨ua,uk,ux⟩:=u;obtain⟨va,vk,vx⟩:=v;dsimp only at y0 y1 y2 z0 z1 z2;have s0:=xP ua va;have s2:=xP ux vx;by_cases f0:ua=va
 case neg=>
  have HZ:=hid (HN.out.2 (fun e=>f0 (by injection e)));have j9:(ua.toList == va.toList)=false:=by rw[s0];simp[f0]
  clear s0 s2;clear f0;clear HN;go_upto_region 6 with fail;go_quiet (fail);go_wp2;go_ret;exact (HP.out _ (dy w HB.out _)).1 HZ.out
 subst f0;clear s0;by_cases f1:uk=vk
 case neg=>
  have HZ:=hid (HN.out.2 (fun e=>f1 (by injection e)));have j9:(uk == vk)=false:=by simp[f1]
  clear s2;clear f1;clear HN;go_upto_region 6 with fail;go_quiet (fail);go_wp2;go_ret;exact (HP.out _ (dy w HB.out _)).1 HZ.out
 subst f1;by_cases f2:ux=vx
 case neg=>
  have HZ:=hid (HN.out.2 (fun e=>f2 (by injection e)));have j9:(ux.toList == vx.toList)=false:=by rw[s2];simp[f2]
  clear s2;clear f2;clear HN;go_upto_region 6 with fail;go_quiet (fail);go_wp2;go_ret;exact (HP.out _ (dy w HB.out _)).1 HZ.out
 subst f2;clear s2;have HZ:=hid (HN.out.1 rfl);clear HN;go_upto_region 6 with fail;go_quiet (fail);go_wp2;go_roundw
 ·exact⟨k+1,by go_num,by omega,dy w HB.out _,HZ.out⟩
 simp[intOf];omega
theorem zov(h:¬(0<=n/\n<G.S.length)):kG G ⟨true,n⟩=⟨#[63]⟩:=by
 by_cases h0:n<0
 ·exact UT h0
 exact Z8 (by omega)
theorem zow(h:¬(0<=n/\n<G.R.length)):kG G ⟨false,n⟩=⟨#[63]⟩:=by
 by_cases h0:n<0
 ·exact UT h0
 exact zol (by omega)
theorem ND(h:0<=n/\n<m)(w:World):Calls prog 43 #[.int .i64 n,.int .i64 m] w (fun e w'=>e=.returned (.bool true)/\w'=w):=by
 have h9:=Kq n m w;unfold qJ at h9;rw[show (decide (0<=n) && decide (n<m))=true by simp[h.1,h.2]] at h9;exact h9
theorem Ou(h:¬(0<=n/\n<m))(w:World):Calls prog 43 #[.int .i64 n,.int .i64 m] w (fun e w'=>e=.returned (.bool false)/\w'=w):=by
 have h9:=Kq n m w;unfold qJ at h9;rw[show (decide (0<=n) && decide (n<m))=false by rw[<-Bool.decide_and];exact decide_eq_false h] at h9;exact h9
theorem zh6(G:Gr)(x:Sy)(w:World)(hA:G.At w)(hL:G.lb 9223372036854775807):
  Calls prog 45 #[G.val,.agg (jo x).toArray] w (zn (kG G x) w):=by
 show Calls prog 45 #[.agg #[.slice G.aR G.R.length G.cR,.slice G.aS G.S.length G.cS,.slice G.aP G.P.length G.cP,.slice G.aL G.L.length G.cL,.int .i64 G.st],.agg #[.bool x.s,.int .i64 x.n]] w _;have HA:=hid hA;have M9:=hL.r;have A3:=hL.s;clear hA hL;obtain⟨w2,bK⟩:∃w2,((w.alloc (.cells #[.slice G.aR G.R.length G.cR,.slice G.aS G.S.length G.cS,.slice G.aP G.P.length G.cP,.slice G.aL G.L.length G.cL,.int .i64 G.st] 27)).alloc (.cells #[.bool x.s,.int .i64 x.n] 38))=w2:=⟨_,rfl⟩
 have H:Hid (fo w2 w.heap.size G/\sW w2 (w.heap.size+1) x/\Below w.heap.size w w2):=by
  rw[<-bK];have k0:=al w (.cells #[.slice G.aR G.R.length G.cR,.slice G.aS G.S.length G.cS,.slice G.aP G.P.length G.cP,.slice G.aL G.L.length G.cL,.int .i64 G.st] 27);have k1:=al (w.alloc (.cells #[.slice G.aR G.R.length G.cR,.slice G.aS G.S.length G.cS,.slice G.aP G.P.length G.cP,.slice G.aL G.L.length G.cL,.int .i64 G.st] 27)) (.cells #[.bool x.s,.int .i64 x.n] 38);exact⟨((fo.new w G 27).below k1),(by have h9:=(sW.new (w.alloc (.cells #[.slice G.aR G.R.length G.cR,.slice G.aS G.S.length G.cS,.slice G.aP G.P.length G.cP,.slice G.aL G.L.length G.cL,.int .i64 G.st] 27)) x 38);simpa using h9),(k0.trans (k1.mono k0.size))⟩
 have jC:Hid (w2.heap.size=w.heap.size+2):=by show _=_;rw[<-bK];simp
 go_enter func45,ntmps45;go_upto_region 1 with fail
 try rw[bK]
 clear bK;have c0:=H.out.1.c0;have c1:=H.out.1.c1;have s0:=H.out.2.1.c0;have s1:=H.out.2.1.c1;have HB:=hid H.out.2.2;obtain⟨xs,n⟩:=x;dsimp only at s0 s1;rcases xs with _|_
 ·by_cases h0:0<=n/\n<(G.R.length:Int)
  ·obtain⟨k,rfl⟩:=Int.eq_ofNat_of_zero_le h0.1;have sx:=hid (ND h0 w2);have hk:k<G.R.length:=(by omega);obtain⟨g1,o1,e1,gV,x0,x1,x2⟩:=(HA.out.below HB.out).r.get k hk;have HZ:Hid (kG G ⟨false,(k:Int)⟩=G.R[k].nm):=zo9 hk;rw[e1] at c0;generalize G.R[k].nm=q at x0 HZ;clear x1 x2 e1 h0;go_wp2_with (go_at_call 43;refine sx.out.mono ?_;rintro e w3 ⟨rfl,rfl⟩);go_ret;exact⟨by rw[HZ.out];rfl,HB.out⟩
  have HZ:Hid (kG G ⟨false,n⟩=⟨#[63]⟩):=zow h0;have sx:=hid (Ou h0 w2);clear h0;go_wp2_with (go_at_call 43;refine sx.out.mono ?_;rintro e w3 ⟨rfl,rfl⟩);go_ret;exact⟨by rw[HZ.out];rfl,HB.out⟩
 by_cases h0:0<=n/\n<(G.S.length:Int)
 ·obtain⟨k,rfl⟩:=Int.eq_ofNat_of_zero_le h0.1;have sx:=hid (ND h0 w2);have hk:k<G.S.length:=by omega
  obtain⟨g1,o1,e1,gV,q1⟩:=(HA.out.below HB.out).s (by omega);have x1:=q1 k hk;have HZ:Hid (kG G ⟨true,(k:Int)⟩=G.S[k]):=YW hk;rw[e1] at c1;generalize G.S[k]=q at x1 HZ;clear q1 e1 h0;go_wp2_with (go_at_call 43;refine sx.out.mono ?_;rintro e w3 ⟨rfl,rfl⟩);go_ret;exact⟨by rw[HZ.out];rfl,HB.out⟩
 have HZ:Hid (kG G ⟨true,n⟩=⟨#[63]⟩):=zov h0;have sx:=hid (Ou h0 w2);clear h0;go_wp2_with (go_at_call 43;refine sx.out.mono ?_;rintro e w3 ⟨rfl,rfl⟩);go_ret;exact⟨by rw[HZ.out];rfl,HB.out⟩
theorem zff(x y:gK)(w:World)(hx:x.At w)(hy:y.At w)(uR:x.body.length<=9223372036854775807)(FX:x.hints.length<=9223372036854775807)(D9:y.body.length<=9223372036854775807)(F6:y.hints.length<=9223372036854775807):
  Calls prog 38 #[x.val,y.val] w (ba (dd x=dd y) w):=by
 show Calls prog 38 #[.agg #[.int .i64 x.bF,.string x.bG,.slice x.ab x.body.length x.cb,.bool x.par,.int .i64 x.prec,.slice x.ah x.hints.length x.ch],.agg #[.int .i64 y.bF,.string y.bG,.slice y.ab y.body.length y.cb,.bool y.par,.int .i64 y.prec,.slice y.ah y.hints.length y.ch]] w _;have Cw:Hid (∀W,Below w.heap.size w W->Calls prog 61 #[.slice x.ab x.body.length x.cb,.slice y.ab y.body.length y.cb] W (ba (x.body=y.body) W)):=fun W k=>zjh x.body y.body _ _ _ _ _ _ rfl rfl uR D9 W (hx.b.below k) (hy.b.below k)
 have Gg:Hid (∀W,Below w.heap.size w W->Calls prog 62 #[.slice x.ah x.hints.length x.ch,.slice y.ah y.hints.length y.ch] W (ba (x.hints=y.hints) W)):=fun W k=>Rp x.hints y.hints _ _ _ _ _ _ rfl rfl FX F6 W (hx.h.below k) (hy.h.below k)
 have HP:Hid (∀w',Below w.heap.size w w'->(¬dd x=dd y->ba (dd x=dd y) w (.returned (.bool false)) w')/\(dd x=dd y->ba (dd x=dd y) w (.returned (.bool true)) w')):=fun w' hb=>ba.yq hb
 clear hx hy FX F6 uR D9;obtain⟨w2,bK⟩:∃w2,((w.alloc (.cells #[.int .i64 x.bF,.string x.bG,.slice x.ab x.body.length x.cb,.bool x.par,.int .i64 x.prec,.slice x.ah x.hints.length x.ch] 47)).alloc (.cells #[.int .i64 y.bF,.string y.bG,.slice y.ab y.body.length y.cb,.bool y.par,.int .i64 y.prec,.slice y.ah y.hints.length y.ch] 47))=w2:=⟨_,rfl⟩
 have H:Hid (lF w2 w.heap.size x/\lF w2 (w.heap.size+1) y/\Below w.heap.size w w2):=by
  rw[<-bK];have k0:=al w (.cells #[.int .i64 x.bF,.string x.bG,.slice x.ab x.body.length x.cb,.bool x.par,.int .i64 x.prec,.slice x.ah x.hints.length x.ch] 47);have k1:=al (w.alloc (.cells #[.int .i64 x.bF,.string x.bG,.slice x.ab x.body.length x.cb,.bool x.par,.int .i64 x.prec,.slice x.ah x.hints.length x.ch] 47)) (.cells #[.int .i64 y.bF,.string y.bG,.slice y.ab y.body.length y.cb,.bool y.par,.int .i64 y.prec,.slice y.ah y.hints.length y.ch] 47);exact⟨((lF.new w x 47).below k1),(by have h9:=(lF.new (w.alloc (.cells #[.int .i64 x.bF,.string x.bG,.slice x.ab x.body.length x.cb,.bool x.par,.int .i64 x.prec,.slice x.ah x.hints.length x.ch] 47)) y 47);simpa using h9),(k0.trans (k1.mono k0.size))⟩
 have jC:Hid (w2.heap.size=w.heap.size+2):=by show _=_;rw[<-bK];simp
 go_enter func38,ntmps38;go_upto_region 1 with fail
 try rw[bK]
 clear bK;have HB:=hid H.out.2.2;have HX:=hid (Zz H.out.1 H.out.2.1);obtain⟨b,hb⟩:∃b,w.heap.size=b:=⟨_,rfl⟩
 rw[hb] at HX;rw[hb];clear hb H;have gq:=hid (Cw.out w2 HB.out);have c0:=HX.out.1.c0;have c1:=HX.out.1.c1;have c2:=HX.out.1.c2;have d0:=HX.out.2.c0;have d1:=HX.out.2.c1;have d2:=HX.out.2.c2;by_cases e0:x.bF=y.bF
 case neg=>
  have j0:(x.bF == y.bF)=false:=by simp[e0]
  have HZ:=hid (ui (x:=x) (y:=y) (inl e0));clear e0;go_wp2;go_ret;exact (HP.out _ HB.out).1 HZ.out
 have j0:(x.bF == y.bF)=true:=by simp[e0]
 have GV:=hid e0;by_cases e1:x.bG=y.bG
 case neg=>
  have q1:=xP x.bG y.bG;have j1:(x.bG.toList == y.bG.toList)=false:=by rw[q1];simp[e1]
  have HZ:=hid (ui (x:=x) (y:=y) (inr (inl e1)));clear e0 e1 q1;go_wp2;go_ret;exact (HP.out _ HB.out).1 HZ.out
 have j1:(x.bG.toList == y.bG.toList)=true:=by simp[e1]
 have jY:=hid e1;clear e0 e1;go_wp2_with (go_at_call 61;refine gq.out.mono ?_;rintro e w3 ⟨bo,cn,rfl,b3⟩;refine Hid.out ?_);refine hid ?_;have eh:=hid (Zz (HX.out.1.below b3) (HX.out.2.below b3));have kE:=hid (HB.out.trans (b3.mono HB.out.size));clear c0 c1 c2 d0 d1 d2 HX HB Cw gq b3;cases bo with
 | false=>
  have HZ:=hid (ui (x:=x) (y:=y) (inr (inr (inr (inr (inl (fun e=>by have:=cn.2 e;cases this)))))));clear cn;go_wp2;go_ret;exact (HP.out _ kE.out).1 HZ.out
 | true=>
 have AA:=hid (cn.1 rfl);clear cn;have c3:=eh.out.1.c3;have c4:=eh.out.1.c4;have c5:=eh.out.1.c5;have d3:=eh.out.2.c3;have d4:=eh.out.2.c4;have d5:=eh.out.2.c5;by_cases e3:x.par=y.par
 case neg=>
  have j3:(x.par == y.par)=false:=by simp[e3]
  have HZ:=hid (ui (x:=x) (y:=y) (inr (inr (inl e3))));clear e3;go_wp2;go_ret;exact (HP.out _ kE.out).1 HZ.out
 have j3:(x.par == y.par)=true:=by simp[e3]
 have B8:=hid e3;by_cases e4:x.prec=y.prec
 case neg=>
  have j4:(x.prec == y.prec)=false:=by simp[e4]
  have HZ:=hid (ui (x:=x) (y:=y) (inr (inr (inr (inl e4)))));clear e3 e4;go_wp2;go_ret;exact (HP.out _ kE.out).1 HZ.out
 have j4:(x.prec == y.prec)=true:=by simp[e4]
 have sN:=hid e4;clear e3 e4;have rj:=hid (Gg.out w3 kE.out);go_wp2_with (go_at_call 62;refine rj.out.mono ?_;rintro e w4 ⟨bo,cn,rfl,b4⟩;refine Hid.out ?_);refine hid ?_;have mU:=hid (kE.out.trans (b4.mono kE.out.size));clear c3 c4 c5 d3 d4 d5 eh kE Gg rj b4;cases bo with
 | false=>
  have HZ:=hid (ui (x:=x) (y:=y) (inr (inr (inr (inr (inr (fun e=>by have:=cn.2 e;cases this)))))));clear cn;go_wp2;go_ret;exact (HP.out _ mU.out).1 HZ.out
 | true=>
  have HZ:=hid (Tg GV.out jY.out B8.out sN.out AA.out (cn.1 rfl));clear cn;go_wp2;go_ret;exact (HP.out _ mU.out).2 HZ.out
theorem RA(h:x.side≠y.side\/x.rules≠y.rules):dK x≠dK y:=fun e=>by
 simp only[dK,Prod.mk.injEq] at e
 rcases h with h|h
 ·exact h e.1
 ·exact h e.2
theorem YD(h1:x.side=y.side)(h2:x.rules=y.rules):dK x=dK y:=by simp[dK,h1,h2]
theorem zev(x y:qe)(w:World)(hx:fP w x.ar x.rules)(hy:fP w y.ar y.rules)(uR:x.rules.length<=9223372036854775807)(D9:y.rules.length<=9223372036854775807):
  Calls prog 40 #[x.val,y.val] w (ba (dK x=dK y) w):=by
 show Calls prog 40 #[.agg #[.int .i64 x.side,.slice x.ar x.rules.length x.cr],.agg #[.int .i64 y.side,.slice y.ar y.rules.length y.cr]] w _;have Gg:Hid (∀W,Below w.heap.size w W->Calls prog 62 #[.slice x.ar x.rules.length x.cr,.slice y.ar y.rules.length y.cr] W (ba (x.rules=y.rules) W)):=fun W k=>Rp x.rules y.rules _ _ _ _ _ _ rfl rfl uR D9 W (hx.below k) (hy.below k)
 have HP:Hid (∀w',Below w.heap.size w w'->(¬dK x=dK y->ba (dK x=dK y) w (.returned (.bool false)) w')/\(dK x=dK y->ba (dK x=dK y) w (.returned (.bool true)) w')):=fun w' hb=>ba.yq hb
 clear hx hy uR D9;obtain⟨w2,bK⟩:∃w2,((w.alloc (.cells #[.int .i64 x.side,.slice x.ar x.rules.length x.cr] 58)).alloc (.cells #[.int .i64 y.side,.slice y.ar y.rules.length y.cr] 58))=w2:=⟨_,rfl⟩
 have H:Hid (wM w2 w.heap.size x/\wM w2 (w.heap.size+1) y/\Below w.heap.size w w2):=by
  rw[<-bK];have k0:=al w (.cells #[.int .i64 x.side,.slice x.ar x.rules.length x.cr] 58);have k1:=al (w.alloc (.cells #[.int .i64 x.side,.slice x.ar x.rules.length x.cr] 58)) (.cells #[.int .i64 y.side,.slice y.ar y.rules.length y.cr] 58);exact⟨((wM.new w x 58).below k1),(by have h9:=(wM.new (w.alloc (.cells #[.int .i64 x.side,.slice x.ar x.rules.length x.cr] 58)) y 58);simpa using h9),(k0.trans (k1.mono k0.size))⟩
 have jC:Hid (w2.heap.size=w.heap.size+2):=by show _=_;rw[<-bK];simp
 go_enter func40,ntmps40;go_upto_region 1 with fail
 try rw[bK]
 clear bK;have HB:=hid H.out.2.2;have HX:=hid (Zz H.out.1 H.out.2.1);obtain⟨b,hb⟩:∃b,w.heap.size=b:=⟨_,rfl⟩
 rw[hb] at HX;rw[hb];clear hb H;have gq:=hid (Gg.out w2 HB.out);have c0:=HX.out.1.c0;have c1:=HX.out.1.c1;have d0:=HX.out.2.c0;have d1:=HX.out.2.c1;by_cases e0:x.side=y.side
 case neg=>
  have j0:(x.side == y.side)=false:=by simp[e0]
  have HZ:=hid (RA (x:=x) (y:=y) (inl e0));clear e0;go_wp2;go_ret;exact (HP.out _ HB.out).1 HZ.out
 have j0:(x.side == y.side)=true:=by simp[e0]
 have GV:=hid e0;clear e0;go_wp2_with (go_at_call 62;refine gq.out.mono ?_;rintro e w4 ⟨bo,cn,rfl,b4⟩;refine Hid.out ?_);refine hid ?_;have mU:=hid (HB.out.trans (b4.mono HB.out.size));clear c0 c1 d0 d1 HX HB Gg gq b4;cases bo with
 | false=>
  have HZ:=hid (RA (x:=x) (y:=y) (inr (fun e=>by have:=cn.2 e;cases this)));clear cn;go_wp2;go_ret;exact (HP.out _ mU.out).1 HZ.out
 | true=>
  have HZ:=hid (YD GV.out (cn.1 rfl));clear cn;go_wp2;go_ret;exact (HP.out _ mU.out).2 HZ.out
theorem zew:∀(args:Array Value) (W:World),(callFunc 38 args).run prog W=.ok (.enter 38 args) W:=fun _ _=>by rfl
theorem zjj(l t:List gK)(n c m d:Nat)(a b:Option Addr)(hn:l.length=n)(hm:t.length=m)(uM:n<=9223372036854775807)(rm:m<=9223372036854775807)(oy:∀i (h:i<l.length),l[i].body.length<=9223372036854775807/\l[i].hints.length<=9223372036854775807)(av:∀i (h:i<t.length),t[i].body.length<=9223372036854775807/\t[i].hints.length<=9223372036854775807)(w:World)(h1:pq w a l)(h2:pq w b t):
  Calls prog 37 #[.slice a n c,.slice b m d,.func (.func 38) #[] #[]] w (ba (l.map dd=t.map dd) w):=by
 have H:=hid (Zz h1 (Zz h2 (Zz hn hm)));have HL:=hid (Zz oy av);have HP:Hid (∀w',Below w.heap.size w w'->(¬l.map dd=t.map dd->ba (l.map dd=t.map dd) w (.returned (.bool false)) w')/\(l.map dd=t.map dd->ba (l.map dd=t.map dd) w (.returned (.bool true)) w')):=fun w' hb=>ba.yq hb
 have wL:=zew;clear h1 h2 hn hm oy av;go_enter func37,ntmps37;by_cases ez:n=m
 case neg=>
  have i1:((n:Int) != (m:Int))=true:=by simp;omega
  have HZ:Hid (¬l.map dd=t.map dd):=fun e=>ez (by rw[<-H.out.2.2.1,<-H.out.2.2.2,<-List.length_map (f:=dd),e,List.length_map])
  go_wp2;go_ret;exact (HP.out _ (Below.refl _ _)).1 HZ.out
 subst ez;have i0:((n:Int) != (n:Int))=false:=by simp
 go_wp2;go_loopw [7,8,9,17] (fun _ _ _ v wr=>∃k:Nat,v=.int .i64 k/\k<=n/\Hid (Below w.heap.size w wr/\∀j (h1:j<l.length) (h2:j<t.length),j<k->dd l[j]=dd t[j])) (fun _ _ _ v _=>n-(intOf v).toNat)
 ·exact⟨0,rfl,zero_le _,Below.refl _ _,fun j _ _ h=>absurd h (by omega)⟩
 obtain⟨k,rfl,hk,HX⟩:=hrel;by_cases ey:k<n
 case neg=>
  obtain rfl:k=n:=by omega
  have HZ:Hid (l.map dd=t.map dd):=Lt dd (by rw[H.out.2.2.1,H.out.2.2.2]) (fun j h1 h2=>HX.out.2 j h1 h2 (by rw[<-H.out.2.2.1];exact h1));have HB:=hid HX.out.1;go_wp2;go_ret;exact (HP.out _ HB.out).2 HZ.out
 have cQ:k<l.length:=by rw[H.out.2.2.1];exact ey
 have eY:k<t.length:=by rw[H.out.2.2.2];exact ey
 obtain⟨g1,o1,rfl,_,X,y0,y1,y2,y3,y4,y5⟩:=(H.out.1.below HX.out.1).get k cQ;obtain⟨g2,o2,rfl,_,Y,z0,z1,z2,z3,z4,z5⟩:=(H.out.2.1.below HX.out.1).get k eY;have qd:=hid (Zz (Zz X Y) (Zz (HL.out.1 k cQ) (HL.out.2 k eY)));have HN:Hid ((dd l[k]=dd t[k]->∀j (h1:j<l.length) (h2:j<t.length),j<k+1->dd l[j]=dd t[j])/\(¬dd l[k]=dd t[k]->¬l.map dd=t.map dd)):=by
  refine⟨fun h j hj hj2 h3=>?_,fun h=>LK dd cQ eY h⟩;by_cases e:j=k
  ·subst e;exact h
  exact HX.out.2 j hj hj2 (by omega)
 have i2:(k:Int)<n:=by omega
 clear X Y;generalize l[k]=x at y0 y1 y2 y3 y4 y5 HN qd;generalize t[k]=y at z0 z1 z2 z3 z4 z5 HN qd;have HB:=hid HX.out.1;obtain⟨w4,Dp⟩:∃w4,(wr.alloc (.cells #[.int .i64 x.bF,.string x.bG,.slice x.ab x.body.length x.cb,.bool x.par,.int .i64 x.prec,.slice x.ah x.hints.length x.ch] 47)).alloc (.cells #[.int .i64 y.bF,.string y.bG,.slice y.ab y.body.length y.cb,.bool y.par,.int .i64 y.prec,.slice y.ah y.hints.length y.ch] 47)=w4:=⟨_,rfl⟩
 have mU:Hid (Below wr.heap.size wr w4):=by rw[<-Dp];exact (al wr _).trans ((al _ _).mono (al wr _).size)
 have HC:Hid (Calls prog 38 #[.agg #[.int .i64 x.bF,.string x.bG,.slice x.ab x.body.length x.cb,.bool x.par,.int .i64 x.prec,.slice x.ah x.hints.length x.ch],.agg #[.int .i64 y.bF,.string y.bG,.slice y.ab y.body.length y.cb,.bool y.par,.int .i64 y.prec,.slice y.ah y.hints.length y.ch]] w4 (ba (dd x=dd y) w4)):=zff x y w4 (qd.out.1.1.below mU.out) (qd.out.1.2.below mU.out) qd.out.2.1.1 qd.out.2.1.2 qd.out.2.2.1 qd.out.2.2.2;have mO:=hid Dp;clear cQ eY HX Dp qd;go_wp2_with fail;rw[mO.out];refine HC.out.mono ?_;rintro e w5 ⟨bo,cn,rfl,b5⟩;have lO:=hid ((HB.out.trans (mU.out.mono HB.out.size)).trans (b5.mono (HB.out.trans (mU.out.mono HB.out.size)).size));clear b5 HC HB mU mO y0 z0 y1 z1 y2 z2 y3 z3 y4 z4 y5 z5;cases bo with
 | false=>
  have HZ:=hid (HN.out.2 (fun e=>by have:=cn.2 e;cases this));clear cn HN;go_wp2;go_ret;exact (HP.out _ lO.out).1 HZ.out
 | true=>
  have HZ:=hid (HN.out.1 (cn.1 rfl));clear cn HN;go_wp2;go_roundw
  ·exact⟨k+1,by go_num,by omega,lO.out,HZ.out⟩
  simp[intOf];omega
theorem zdT:∀(args:Array Value) (W:World),(callFunc 40 args).run prog W=.ok (.enter 40 args) W:=fun _ _=>by rfl
theorem Ys(l t:List qe)(n c m d:Nat)(a b:Option Addr)(hn:l.length=n)(hm:t.length=m)(uM:n<=9223372036854775807)(rm:m<=9223372036854775807)(oy:∀i (h:i<l.length),l[i].rules.length<=9223372036854775807)(av:∀i (h:i<t.length),t[i].rules.length<=9223372036854775807)(w:World)(h1:qn w a l)(h2:qn w b t):
  Calls prog 39 #[.slice a n c,.slice b m d,.func (.func 40) #[] #[]] w (ba (l.map dK=t.map dK) w):=by
 have H:=hid (Zz h1 (Zz h2 (Zz hn hm)));have HL:=hid (Zz oy av);have HP:Hid (∀w',Below w.heap.size w w'->(¬l.map dK=t.map dK->ba (l.map dK=t.map dK) w (.returned (.bool false)) w')/\(l.map dK=t.map dK->ba (l.map dK=t.map dK) w (.returned (.bool true)) w')):=fun w' hb=>ba.yq hb
 have wL:=zdT;clear h1 h2 hn hm oy av;go_enter func39,ntmps39;by_cases ez:n=m
 case neg=>
  have i1:((n:Int) != (m:Int))=true:=by simp;omega
  have HZ:Hid (¬l.map dK=t.map dK):=fun e=>ez (by rw[<-H.out.2.2.1,<-H.out.2.2.2,<-List.length_map (f:=dK),e,List.length_map])
  go_wp2;go_ret;exact (HP.out _ (Below.refl _ _)).1 HZ.out
 subst ez;have i0:((n:Int) != (n:Int))=false:=by simp
 go_wp2;go_loopw [7,8,9,17] (fun _ _ _ v wr=>∃k:Nat,v=.int .i64 k/\k<=n/\Hid (Below w.heap.size w wr/\∀j (h1:j<l.length) (h2:j<t.length),j<k->dK l[j]=dK t[j])) (fun _ _ _ v _=>n-(intOf v).toNat)
 ·exact⟨0,rfl,zero_le _,Below.refl _ _,fun j _ _ h=>absurd h (by omega)⟩
 obtain⟨k,rfl,hk,HX⟩:=hrel;by_cases ey:k<n
 case neg=>
  obtain rfl:k=n:=by omega
  have HZ:Hid (l.map dK=t.map dK):=Lt dK (by rw[H.out.2.2.1,H.out.2.2.2]) (fun j h1 h2=>HX.out.2 j h1 h2 (by rw[<-H.out.2.2.1];exact h1));have HB:=hid HX.out.1;go_wp2;go_ret;exact (HP.out _ HB.out).2 HZ.out
 have cQ:k<l.length:=by rw[H.out.2.2.1];exact ey
 have eY:k<t.length:=by rw[H.out.2.2.2];exact ey
 obtain⟨g1,o1,rfl,_,X,y0,y1⟩:=(H.out.1.below HX.out.1).get k cQ;obtain⟨g2,o2,rfl,_,Y,z0,z1⟩:=(H.out.2.1.below HX.out.1).get k eY;have qd:=hid (Zz (Zz X Y) (Zz (HL.out.1 k cQ) (HL.out.2 k eY)));have HN:Hid ((dK l[k]=dK t[k]->∀j (h1:j<l.length) (h2:j<t.length),j<k+1->dK l[j]=dK t[j])/\(¬dK l[k]=dK t[k]->¬l.map dK=t.map dK)):=by
  refine⟨fun h j hj hj2 h3=>?_,fun h=>LK dK cQ eY h⟩;by_cases e:j=k
  ·subst e;exact h
  exact HX.out.2 j hj hj2 (by omega)
 have i2:(k:Int)<n:=by omega
 clear X Y;generalize l[k]=x at y0 y1 HN qd;generalize t[k]=y at z0 z1 HN qd;have HB:=hid HX.out.1;obtain⟨w4,Dp⟩:∃w4,(wr.alloc (.cells #[.int .i64 x.side,.slice x.ar x.rules.length x.cr] 58)).alloc (.cells #[.int .i64 y.side,.slice y.ar y.rules.length y.cr] 58)=w4:=⟨_,rfl⟩
 have mU:Hid (Below wr.heap.size wr w4):=by rw[<-Dp];exact (al wr _).trans ((al _ _).mono (al wr _).size)
 have HC:Hid (Calls prog 40 #[.agg #[.int .i64 x.side,.slice x.ar x.rules.length x.cr],.agg #[.int .i64 y.side,.slice y.ar y.rules.length y.cr]] w4 (ba (dK x=dK y) w4)):=zev x y w4 (qd.out.1.1.below mU.out) (qd.out.1.2.below mU.out) qd.out.2.1 qd.out.2.2;have mO:=hid Dp;clear cQ eY HX Dp qd;go_wp2_with fail;rw[mO.out];refine HC.out.mono ?_;rintro e w5 ⟨bo,cn,rfl,b5⟩;have lO:=hid ((HB.out.trans (mU.out.mono HB.out.size)).trans (b5.mono (HB.out.trans (mU.out.mono HB.out.size)).size));clear b5 HC HB mU mO y0 z0 y1 z1;cases bo with
 | false=>
  have HZ:=hid (HN.out.2 (fun e=>by have:=cn.2 e;cases this));clear cn HN;go_wp2;go_ret;exact (HP.out _ lO.out).1 HZ.out
 | true=>
  have HZ:=hid (HN.out.1 (cn.1 rfl));clear cn HN;go_wp2;go_roundw
  ·exact⟨k+1,by go_num,by omega,lO.out,HZ.out⟩
  simp[intOf];omega
theorem zh7(G K:Gr)(w:World)(hG:G.At w)(hK:K.At w)(sQ:G.lb 9223372036854775807)(ou:K.lb 9223372036854775807):
  Calls prog 11 #[G.val,K.val] w (ba (dT G K) w):=by
 show Calls prog 11 #[.agg #[.slice G.aR G.R.length G.cR,.slice G.aS G.S.length G.cS,.slice G.aP G.P.length G.cP,.slice G.aL G.L.length G.cL,.int .i64 G.st],.agg #[.slice K.aR K.R.length K.cR,.slice K.aS K.S.length K.cS,.slice K.aP K.P.length K.cP,.slice K.aL K.L.length K.cL,.int .i64 K.st]] w _;have HP:Hid (∀w',Below w.heap.size w w'->(¬dT G K->ba (dT G K) w (.returned (.bool false)) w')/\(dT G K->ba (dT G K) w (.returned (.bool true)) w')):=fun w' hb=>ba.yq hb
 have AI:Hid (∀W,Below w.heap.size w W->Calls prog 35 #[.slice G.aR G.R.length G.cR,.slice K.aR K.R.length K.cR] W (ba (G.R=K.R) W)):=fun W k=>zji G.R K.R _ _ _ _ _ _ rfl rfl sQ.r ou.r W (hG.r.below k) (hK.r.below k)
 have pj:Hid (∀W,Below w.heap.size w W->Calls prog 36 #[.slice G.aS G.S.length G.cS,.slice K.aS K.S.length K.cS] W (ba (G.S=K.S) W)):=fun W k=>ZX G.S K.S _ _ _ _ _ _ rfl rfl sQ.s ou.s W (hG.s.below k) (hK.s.below k)
 have Cr:Hid (∀W,Below w.heap.size w W->Calls prog 37 #[.slice G.aP G.P.length G.cP,.slice K.aP K.P.length K.cP,.func (.func 38) #[] #[]] W (ba (G.P.map dd=K.P.map dd) W)):=fun W k=>zjj G.P K.P _ _ _ _ _ _ rfl rfl sQ.p ou.p (fun i h=>(sQ.ps i h).2) (fun i h=>(ou.ps i h).2) W (hG.p.below k) (hK.p.below k)
 have Rl:Hid (∀W,Below w.heap.size w W->Calls prog 39 #[.slice G.aL G.L.length G.cL,.slice K.aL K.L.length K.cL,.func (.func 40) #[] #[]] W (ba (G.L.map dK=K.L.map dK) W)):=fun W k=>Ys G.L K.L _ _ _ _ _ _ rfl rfl sQ.l ou.l (fun i h=>sQ.ls i h) (fun i h=>ou.ls i h) W (hG.l.below k) (hK.l.below k)
 clear hG hK sQ ou;obtain⟨w2,bK⟩:∃w2,((w.alloc (.cells #[.slice G.aR G.R.length G.cR,.slice G.aS G.S.length G.cS,.slice G.aP G.P.length G.cP,.slice G.aL G.L.length G.cL,.int .i64 G.st] 27)).alloc (.cells #[.slice K.aR K.R.length K.cR,.slice K.aS K.S.length K.cS,.slice K.aP K.P.length K.cP,.slice K.aL K.L.length K.cL,.int .i64 K.st] 27))=w2:=⟨_,rfl⟩
 have H:Hid (fo w2 w.heap.size G/\fo w2 (w.heap.size+1) K/\Below w.heap.size w w2):=by
  rw[<-bK];have k0:=al w (.cells #[.slice G.aR G.R.length G.cR,.slice G.aS G.S.length G.cS,.slice G.aP G.P.length G.cP,.slice G.aL G.L.length G.cL,.int .i64 G.st] 27);have k1:=al (w.alloc (.cells #[.slice G.aR G.R.length G.cR,.slice G.aS G.S.length G.cS,.slice G.aP G.P.length G.cP,.slice G.aL G.L.length G.cL,.int .i64 G.st] 27)) (.cells #[.slice K.aR K.R.length K.cR,.slice K.aS K.S.length K.cS,.slice K.aP K.P.length K.cP,.slice K.aL K.L.length K.cL,.int .i64 K.st] 27);exact⟨((fo.new w G 27).below k1),(by have h9:=(fo.new (w.alloc (.cells #[.slice G.aR G.R.length G.cR,.slice G.aS G.S.length G.cS,.slice G.aP G.P.length G.cP,.slice G.aL G.L.length G.cL,.int .i64 G.st] 27)) K 27);simpa using h9),(k0.trans (k1.mono k0.size))⟩
 have jC:Hid (w2.heap.size=w.heap.size+2):=by show _=_;rw[<-bK];simp
 go_enter func11,ntmps11;go_upto_region 1 with fail
 try rw[bK]
 clear bK;obtain⟨b,hb⟩:∃b,w.heap.size=b:=⟨_,rfl⟩
 have vV:Hid (kq w b G K w2):=by rw[<-hb];exact H.out
 rw[hb];clear hb H jC;have c0:=vV.out.1.c0;have d0:=vV.out.2.1.c0;have Ue:=hid (AI.out _ vV.out.2.2);clear AI;go_wp2_with (go_at_call 35;refine Ue.out.mono ?_;rintro e w3 ⟨bo,cn,rfl,b3⟩;refine Hid.out ?_);refine hid ?_;have uZ:=hid (vV.out.aa b3);clear c0 d0 Ue b3 vV;cases bo with
 | false=>
  have HZ:=hid (sO (G:=G) (K:=K) (inl (fun e=>by have:=cn.2 e;cases this)));clear cn;go_wp2;go_ret;exact (HP.out _ uZ.out.2.2).1 HZ.out
 | true=>
 have GV:=hid (cn.1 rfl);clear cn;have c1:=uZ.out.1.c1;have d1:=uZ.out.2.1.c1;have Fb:=hid (pj.out _ uZ.out.2.2);clear pj;go_wp2_with (go_at_call 36;refine Fb.out.mono ?_;rintro e w4 ⟨bo,cn,rfl,b3⟩;refine Hid.out ?_);refine hid ?_;have qT:=hid (uZ.out.aa b3);clear c1 d1 Fb b3 uZ;cases bo with
 | false=>
  have HZ:=hid (sO (G:=G) (K:=K) (inr (inl (fun e=>by have:=cn.2 e;cases this))));clear cn;go_wp2;go_ret;exact (HP.out _ qT.out.2.2).1 HZ.out
 | true=>
 have jY:=hid (cn.1 rfl);clear cn;have c2:=qT.out.1.c2;have d2:=qT.out.2.1.c2;have xZ:=hid (Cr.out _ qT.out.2.2);clear Cr;go_wp2_with (go_at_call 37;refine xZ.out.mono ?_;rintro e w5 ⟨bo,cn,rfl,b3⟩;refine Hid.out ?_);refine hid ?_;have eh:=hid (qT.out.aa b3);clear c2 d2 xZ b3 qT;cases bo with
 | false=>
  have HZ:=hid (sO (G:=G) (K:=K) (inr (inr (inl (fun e=>by have:=cn.2 e;cases this)))));clear cn;go_wp2;go_ret;exact (HP.out _ eh.out.2.2).1 HZ.out
 | true=>
 have AA:=hid (cn.1 rfl);clear cn;have c3:=eh.out.1.c3;have d3:=eh.out.2.1.c3;have yJ:=hid (Rl.out _ eh.out.2.2);clear Rl;go_wp2_with (go_at_call 39;refine yJ.out.mono ?_;rintro e w6 ⟨bo,cn,rfl,b3⟩;refine Hid.out ?_);refine hid ?_;have lG:=hid (eh.out.aa b3);clear c3 d3 yJ b3 eh;cases bo with
 | false=>
  have HZ:=hid (sO (G:=G) (K:=K) (inr (inr (inr (inl (fun e=>by have:=cn.2 e;cases this))))));clear cn;go_wp2;go_ret;exact (HP.out _ lG.out.2.2).1 HZ.out
 | true=>
 have B8:=hid (cn.1 rfl);clear cn;have c4:=lG.out.1.c4;have d4:=lG.out.2.1.c4;by_cases e4:G.st=K.st
 case neg=>
  have j4:(G.st == K.st)=false:=by simp[e4]
  have HZ:=hid (sO (G:=G) (K:=K) (inr (inr (inr (inr e4)))));clear e4;go_wp2;go_ret;exact (HP.out _ lG.out.2.2).1 HZ.out
 have j4:(G.st == K.st)=true:=by simp[e4]
 have HZ:Hid (dT G K):=⟨GV.out,jY.out,AA.out,B8.out,e4⟩
 clear e4;go_wp2;go_ret;exact (HP.out _ lG.out.2.2).2 HZ.out
end Go.Proofs.YtiijebameffenaaGreat
