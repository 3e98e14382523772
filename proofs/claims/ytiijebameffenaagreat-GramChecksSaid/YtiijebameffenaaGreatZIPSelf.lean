import Derived.Test.YtiijebameffenaaGreatZITk
import Derived.Laws.ResultCell
set_option linter.all false
set_option maxHeartbeats 8000000
set_option maxRecDepth 100000
open Go.Lib (hid)
namespace Go.Proofs.YtiijebameffenaaGreat
open Go.RowKit Go.Maps Go.Proofs.Tryz
open Nat (lt_or_ge zero_le)
open Or (inl inr)
open Act (put)
variable {G:Gr}{i k:Nat}{m n:Int}{w w' wr:World}{x:iF}
def Bl(z:Int)(w:World)(e:Ending)(w':World):Prop:=e=.returned (.int .i64 z)/\ϐ w w'
def eU(w:World)(b:Nat)(G:Gr)(wr:World):Prop:=jJ wr b G/\ϐ w wr
theorem eU.ae{b:Nat}(h:eU w b G wr)(k:ϐ wr w'):eU w b G w':=⟨h.1.below k,h.2.trans (k.mono h.2.size)⟩
theorem eU.LD{b:Nat}(h:eU w b G wr)(q:Nat):eU w b G (wr.drewN q):=h.ae (jQ wr (Below.refl _ _) q)
theorem YT(h:bG (mN G i)=false):fU G i=8:=by simp[fU,h]
theorem Nw(h:bG (mN G i)=true)(h1:(∃k,k<i/\mN G k=mN G i)\/∃k,k<G.R.length/\(vu G k).nm=mN G i):fU G i=9:=by
 unfold fU;rw[if_neg (by simp[h])];split
 ·rfl
 rename_i h2;rw[if_pos (h1.resolve_left h2)]
theorem Sm(h:bG (mN G i)=true)(h1:∀k,k<i->mN G k≠mN G i)(h2:∀k,k<G.R.length->(vu G k).nm≠mN G i):fU G i=0:=by
 unfold fU;rw[if_neg (by simp[h]),if_neg (fun ⟨k,h3,h4⟩=>h1 k h3 h4),if_neg (fun ⟨k,h3,h4⟩=>h2 k h3 h4)]
theorem zhq(G:Gr)(i:Nat)(hi:i<G.S.length)(w:World)(hA:G.At w)(hL:G.mE 100000):
  Calls prog 32 #[G.val,.int .i64 i] w (Bl (fU G i) w):=by
 show Calls prog 32 #[ϑ G,.int .i64 i] w _;unfold ϑ;have HA:=hid hA;have Hw:=hL.r;have tk:=hL.s;have hz:=hL.ss i hi;clear hA hL;obtain⟨w2,dQ,H,ib⟩:=xJ w G;go_in;go_upto_region 1 with fail
 try rw[dQ]
 clear dQ;obtain⟨b,hb⟩:=Ξ w.heap.size
 have HX:Hid (eU w b G w2):=by rw[<-hb];exact H.o
 rw[hb];clear hb H;have c1:=HX.o.1.c1;obtain⟨n,hn⟩:=Ξ G.S.length
 obtain⟨m,hm⟩:=Ξ G.R.length
 have HN:=ζ hn hm;obtain⟨g,o,e,hg,hc⟩:=(HA.o.s.below HX.o.2) (by omega);have x1:=hc i hi;have hsi:mN G i=G.S[i]:=xX hi;rw[<-hsi] at x1 hz;obtain⟨s,hs⟩:=Ξ (mN G i)
 have HS:=hid hs;have mO:Hid (∀wr,ϐ w wr->∀j (h:j<n),wr.cell? ⟨g,o+j,none⟩=some (.string (mN G j))):=fun wr hb j hj=>by
  have E9:j<G.S.length:=by rw[HN.o.1];exact hj
  obtain⟨g',o',e',_,nH⟩:=(HA.o.s.below hb) (by omega);rw[e] at e';injection e' with e';injection e' with e1 e2;subst e1 e2;rw[nH j E9,xX E9]
 have nf:i<n:=by omega
 have i0:(i:Int)<n:=by omega
 rw[hs] at x1 hz;rw[hn] at tk;rw[hm] at Hw;have hE:=hid e;rw[hn,e] at c1;have HT:=hid (Q9 s w2 (by unfold maxLen;omega));clear hc hsi hs hn hm hi hg e;go_wp2_with fail;refine HT.o.mono ?_;rintro e w3 ⟨rfl,rfl⟩;rcases hT:bG s with _|_
 ·have HZ:Hid (fU G i=8):=YT (by rw[HS.o];exact hT);clear hT HT;go_wp2;go_ret;exact⟨by rw[HZ.o];rfl,HX.o.2⟩
 have Tx:=hid hT;clear hT HT;go_wp2_with fail;obtain⟨wn,na⟩:∃wn,wn=w2:=⟨_,rfl⟩
 subst na;clear x1 c1;go_loopw [5] (fun v wr=>∃k:Nat,v=.int .i64 k/\k<=i/\Hid (eU w b G wr/\∀j,j<k->mN G j≠s)) (fun v _=>i-(intOf v).toNat)
 ·exact⟨0,rfl,zero_le _,HX.o,fun j h=>absurd h (by omega)⟩
 clear HX;obtain⟨k,rfl,hk,HR⟩:=hrel;by_cases aq:k<i
 ·have i2:(k:Int)<i:=by omega
  have i3:(k:Int)<n:=by omega
  have c1:=HR.o.1.1.c1;rw[HN.o.1,hE.o] at c1;have x1:=mO.o _ HR.o.1.2 i nf;have y1:=mO.o _ HR.o.1.2 k (by omega);rw[HS.o] at x1;have HK:Hid ((mN G k=s->fU G i=9)/\(mN G k≠s->∀j,j<k+1->mN G j≠s)):=by
   refine⟨fun h=>Nw (by rw[HS.o];exact Tx.o) (inl ⟨k,aq,by rw[h,HS.o]⟩),fun h j hj=>?_⟩;by_cases e:j=k
   ·subst e;exact h
   exact HR.o.2 j (by omega)
  have HG:=hid (fun q=>HR.o.1.LD q);generalize mN G k=u at y1 HK;have qd:=IB u s;clear HR;by_cases oK:u=s
  ·have j9:(u.toList == s.toList)=true:=(by simp[oK]);have HZ:=hid (HK.o.1 oK);clear HK oK qd;go_upto_region 6 with fail;go_quiet (fail);go_wp2;go_ret;exact⟨by rw[HZ.o];rfl,(HG.o _).2⟩
  have j9:(u.toList == s.toList)=false:=by rw[qd];simp[oK]
  have HZ:=hid (HK.o.2 oK);clear HK oK qd;go_upto_region 6 with fail;go_quiet (fail);go_wp2;go_roundw
  ·exact⟨k+1,by go_num,by omega,HG.o _,HZ.o⟩
  simp[intOf];omega
 obtain rfl:k=i:=by omega
 have BD:=hid HR.o.2;have HX:=hid HR.o.1;clear HR;go_wp2_with fail;obtain⟨wn,na⟩:∃wn,wn=wr:=⟨_,rfl⟩
 subst na;go_loopw [6] (fun v wr=>∃q:Nat,v=.int .i64 q/\q<=m/\Hid (eU w b G wr/\∀j,j<q->(vu G j).nm≠s)) (fun v _=>m-(intOf v).toNat)
 ·exact⟨0,rfl,zero_le _,HX.o,fun j h=>absurd h (by omega)⟩
 clear HX;obtain⟨q,rfl,hq,HR⟩:=hrel;have c0:=HR.o.1.1.c0;rw[HN.o.2] at c0;by_cases lu:q<m
 ·have i2:(q:Int)<m:=by omega
  have N7:q<G.R.length:=by rw[HN.o.2];exact lu
  have c1:=HR.o.1.1.c1;rw[HN.o.1,hE.o] at c1;have x1:=mO.o _ HR.o.1.2 k nf;rw[HS.o] at x1;obtain⟨g2,o2,e2,_,y0,y1,y2⟩:=(HA.o.r.below HR.o.1.2).get q N7;rw[<-Gv N7] at y0;rw[e2] at c0;have HK:Hid (((vu G q).nm=s->fU G k=9)/\((vu G q).nm≠s->∀j,j<q+1->(vu G j).nm≠s)):=by
   refine⟨fun h=>Nw (by rw[HS.o];exact Tx.o) (inr ⟨q,N7,by rw[h,HS.o]⟩),fun h j hj=>?_⟩;by_cases e:j=q
   ·subst e;exact h
   exact HR.o.2 j (by omega)
  have HG:=hid (fun q=>HR.o.1.LD q);generalize (vu G q).nm=u at y0 HK;have qd:=IB u s;clear HR y1 y2 e2 N7;by_cases oK:u=s
  ·have j9:(u.toList == s.toList)=true:=(by simp[oK]);have HZ:=hid (HK.o.1 oK);clear HK oK qd;go_upto_region 11 with fail;go_quiet (fail);go_wp2;go_ret;exact⟨by rw[HZ.o];rfl,(HG.o _).2⟩
  have j9:(u.toList == s.toList)=false:=by rw[qd];simp[oK]
  have HZ:=hid (HK.o.2 oK);clear HK oK qd;go_upto_region 11 with fail;go_quiet (fail);go_wp2;go_roundw
  ·exact⟨q+1,by go_num,by omega,HG.o _,HZ.o⟩
  simp[intOf];omega
 obtain rfl:q=m:=by omega
 have HZ:Hid (fU G k=0):=Sm (by rw[HS.o];exact Tx.o) (fun j hj=>by rw[HS.o];exact BD.o j hj) (fun j hj=>by rw[HS.o];exact HR.o.2 j (by rw[<-HN.o.2];exact hj));have HX:=hid HR.o.1;clear HR;go_wp2;go_ret;exact⟨by rw[HZ.o];rfl,HX.o.2⟩
theorem Vr(hA:G.At w)(h0:0<G.L.length):∃g o,G.aL=some ⟨g,o,none⟩/\∀wr,ϐ w wr->∀a,a<G.L.length->wr.cell? ⟨g,o+a*2,none⟩=some (.int .i64 (dT G a).side)/\wr.cell? ⟨g,o+a*2+1,none⟩=some (.slice (dT G a).ar (dT G a).rules.length (dT G a).cr)/\iP wr (dT G a).ar (dT G a).rules:=by
 obtain⟨g,o,e,_⟩:=hA.l h0;refine⟨g,o,e,fun wr hb a ha=>?_⟩;obtain⟨g',o',e',_,h1,h2,h3⟩:=(hA.l.below hb).get a ha;rw[e] at e';injection e' with e';injection e' with e1 e2;subst e1 e2;rw[Gl ha];exact⟨h2,h3,h1⟩
def jk(p:Prop)(w:World)(e:Ending)(w':World):Prop:=∃b,(b=true↔p)/\rH b w e w'
theorem zhr(G:Gr)(i k:Nat)(hi:i<G.L.length)(hk:k<(dT G i).rules.length)(w:World)(hA:G.At w)(hL:G.mE 100000):
  Calls prog 60 #[G.val,.int .i64 i,.int .i64 k] w (jk (gm G i k) w):=by
 show Calls prog 60 #[ϑ G,.int .i64 i,.int .i64 k] w _;unfold ϑ;obtain⟨g,o,eL,eR⟩:=Vr hA (by omega);have jM:=hid eR;have sc:=hL.l;have F4:Hid (∀a,a<G.L.length->(dT G a).rules.length<=100000):=fun a ha=>by rw[Gl ha];exact hL.ls a ha
 have HP:Hid (∀w',ϐ w w'->(¬gm G i k->jk (gm G i k) w (.returned (.bool false)) w')/\(gm G i k->jk (gm G i k) w (.returned (.bool true)) w')):=fun w' hb=>⟨fun h=>⟨false,by simp[h],rfl,hb⟩,fun h=>⟨true,by simp[h],rfl,hb⟩⟩
 have HeL:=hid eL;clear hA hL eR eL;obtain⟨w2,dQ,H,ib⟩:=xJ w G;go_in;go_upto_region 1 with fail
 try rw[dQ]
 clear dQ;obtain⟨b,hb⟩:=Ξ w.heap.size
 have HX:Hid (eU w b G w2):=by rw[<-hb];exact H.o
 rw[hb];clear hb H;obtain⟨n,hn⟩:=Ξ G.L.length
 have HN:=ζ hn HeL.o;obtain⟨r,hr⟩:=Ξ ((dT G i).rules.getD k 0)
 have Hr:=hid hr;rw[hn] at hi sc jM F4;have hik:=F4.o i hi;clear hn hr;go_wp2_with fail;obtain⟨wn,na⟩:∃wn,wn=w2:=⟨_,rfl⟩
 subst na;go_loopw [7] (fun v wr=>∃a:Nat,v=.int .i64 a/\a<=i/\Hid (eU w b G wr/\∀x y,x<a->y<(dT G x).rules.length->(dT G x).rules.getD y 0≠r)) (fun v _=>i+1-(intOf v).toNat)
 ·exact⟨0,rfl,zero_le _,HX.o,fun x y h=>absurd h (by omega)⟩
 clear HX;obtain⟨a,rfl,ha,HR⟩:=hrel;have han:a<n:=by omega
 have i2:(a:Int)<=i:=by omega
 have i3:(a:Int)<n:=by omega
 have i4:(i:Int)<n:=by omega
 obtain⟨m,hm⟩:=Ξ ((dT G a).rules.length)
 have yO:=F4.o a han;have Hm:=hid hm;rw[hm] at yO;clear hm;go_wp2_with fail;obtain⟨wn,na⟩:∃wn,wn=wr:=⟨_,rfl⟩
 subst na;go_loopw [8] (fun v wr=>∃y:Nat,v=.int .i64 y/\y<=m/\(a=i->y<=k)/\Hid (eU w b G wr/\∀j,j<y->(dT G a).rules.getD j 0≠r)) (fun v _=>m-(intOf v).toNat)
 ·exact⟨0,rfl,zero_le _,fun _=>zero_le _,HR.o.1,fun j h=>absurd h (by omega)⟩
 obtain⟨y,rfl,hy,BL,HQ⟩:=hrel;have c3:=HQ.o.1.1.c3;rw[HN.o.1,HN.o.2] at c3;obtain⟨x0,x1,xN⟩:=jM.o _ HQ.o.1.2 a han;rw[Hm.o] at x1;by_cases aq:y<m
 ·have i5:(y:Int)<m:=by omega
  by_cases iH:a=i/\k<=y
  ·have HZ:Hid (¬gm G i k):=fun ⟨p,q,h1,h2,h3⟩=>by
    rw[Hr.o] at h3;rcases h1 with h1|⟨rfl,h1⟩
    ·exact HR.o.2 p q (by omega) h2 h3
    obtain⟨e1,e2⟩:=iH;subst e1;exact HQ.o.2 q (by omega) h3
   have j1:((a:Int) == (i:Int))=true:=(by simp[iH.1]);have j2:(k:Int)<=y:=(by omega);have HB:=hid HQ.o.1.2;clear HQ HR x0 xN iH;go_wp2;go_ret;exact (HP.o _ HB.o).1 HZ.o
  have HE:Hid (a<i\/a=i/\y<k):=by
   show _\/_;rcases lt_or_ge a i with h|h
   ·exact inl h
   have:a=i:=(by omega);exact inr ⟨this,by have h9:¬k<=y:=fun h=>iH ⟨this,h⟩;omega⟩
  obtain⟨z0,z1,zN⟩:=jM.o _ HQ.o.1.2 i hi;obtain⟨ga,oa,ea,_,va⟩:=xN.get y (by rw[Hm.o];exact aq);obtain⟨gi,oi,ei,_,vi⟩:=zN.get k hk;have va':(dT G a).rules[y]'(by rw[Hm.o];exact aq)=(dT G a).rules.getD y 0:=by
   have:y<(dT G a).rules.length:=(by rw[Hm.o];exact aq);simp[this]
  have vi':(dT G i).rules[k]'hk=r:=by rw[<-Hr.o];simp[hk]
  rw[va'] at va;rw[vi'] at vi;rw[ea] at x1;rw[ei] at z1;obtain⟨mi,hmi⟩:=Ξ ((dT G i).rules.length)
  rw[hmi] at z1 hk hik;have i6:(k:Int)<mi:=by omega
  have HK:Hid (((dT G a).rules.getD y 0=r->gm G i k)/\((dT G a).rules.getD y 0≠r->∀j,j<y+1->(dT G a).rules.getD j 0≠r)):=by
   refine⟨fun h=>⟨a,y,HE.o,by rw[Hm.o];exact aq,by rw[h,Hr.o]⟩,fun h j hj=>?_⟩;by_cases e:j=y
   ·subst e;exact h
   exact HQ.o.2 j (by omega)
  have HG:=hid (fun q=>HQ.o.1.LD q);have HyE:Hid (a=i->y+1<=k):=fun h=>by rcases HE.o with h1|h1 <;> omega
  generalize (dT G a).rules.getD y 0=u at va HK;have jg:decide ((k:Int)<=y)=true->((a:Int) == (i:Int))=false:=fun h=>by
   have h1:k<=y:=(by simpa using h);simp;intro e;exact iH ⟨by omega,h1⟩
  clear HQ HE va' vi' x0 z0 xN zN ea ei hmi iH;have jc:(((a:Int) == (i:Int))=false)\/(((a:Int) == (i:Int))=true/\¬((k:Int)<=y)):=by
   by_cases h:((a:Int) == (i:Int))=true
   ·refine inr ⟨h,fun h2=>?_⟩;have:=jg (by simp;omega);rw[this] at h;cases h
   exact inl (by simpa using h)
  clear jg;by_cases Ho:u=r
  ·have j9:(u == r)=true:=(by simp[Ho]);have HZ:=hid (HK.o.1 Ho);clear HK Ho;rcases jc with j1|⟨j1,j2⟩
   all_goals
    go_upto_region 9 with fail
    go_quiet (fail)
    go_wp2
    go_ret
    exact (HP.o _ (HG.o _).2).2 HZ.o
  have j9:(u == r)=false:=by simp[Ho]
  have HZ:=hid (HK.o.2 Ho);clear HK Ho;rcases jc with j1|⟨j1,j2⟩
  all_goals
   go_upto_region 9 with fail
   go_quiet (fail)
   go_wp2
   go_roundw
   case rel=>exact⟨y+1,by go_num,by omega,HyE.o,HG.o _,HZ.o⟩
   case measure=>simp[intOf];omega
 obtain rfl:y=m:=by omega
 have hai:a<i:=by
  rcases lt_or_ge a i with h|h
  ·exact h
  have h1:a=i:=by omega
  have h2:=BL h1;subst h1;rw[Hm.o] at hk;omega
 have HZ:Hid (∀x z,x<a+1->z<(dT G x).rules.length->(dT G x).rules.getD z 0≠r):=fun x z h1 h2=>by
  by_cases e:x=a
  ·subst e;exact HQ.o.2 z (by rw[<-Hm.o];exact h2)
  exact HR.o.2 x z (by omega) h2
 have HY:=hid HQ.o.1;clear HQ HR xN x0;go_wp2;go_roundw
 ·exact⟨a+1,by go_num,by omega,HY.o,HZ.o⟩
 simp[intOf];omega
theorem Yp{p:iF}(h:p.body.length≠3):ep p=false:=by
 unfold ep;split
 ·rename_i e;rw[e] at h;exact absurd rfl h
 rfl
theorem WV{p:iF}(h:p.body.length=3):ep p=(!(p.body[0].s) && p.body[1].s && p.body[1].n == p.dF && !(p.body[2].s)):=by
 obtain⟨r,s,a,c,B,b,q,ah,ch,hs⟩:=p;simp only at h
 match B,h with
 | [x,y,z],_=>rfl
theorem zhs(p:iF)(w:World)(hA:p.At w)(hl:p.body.length<=9223372036854775807):
  Calls prog 21 #[p.val] w (rH (ep p) w):=by
 show Calls prog 21 #[.agg #[.int .i64 p.dF,.string p.dR,.slice p.ab p.body.length p.cb,.bool p.par,.int .i64 p.prec,.slice p.ah p.hints.length p.ch]] w _;have HA:=hid hA;clear hA;obtain⟨w2,dQ,H,ib⟩:=UP w p;go_in;go_upto_region 1 with fail
 try rw[dQ]
 clear dQ;have HB:=hid H.o.2;have c0:=H.o.1.c0;have c2:=H.o.1.c2;have xF:ϐ w w2.drew:=HB.o.drew;by_cases h3:p.body.length=3
 ·have HE:=hid (WV h3);have k0:0<p.body.length:=by omega
  have k1:1<p.body.length:=by omega
  have k2:2<p.body.length:=by omega
  obtain⟨g,o,e,q0,x0,x1⟩:=(HA.o.b.below HB.o).get 0 k0;obtain⟨g',o',e',q1,y0,y1⟩:=(HA.o.b.below HB.o).get 1 k1;obtain⟨g'',o'',BW,q2,z0,z1⟩:=(HA.o.b.below HB.o).get 2 k2;clear x1 z1 q0 q1 q2;rw[e] at e' BW;injection e' with e';injection e' with e1 e2;injection BW with BW;injection BW with e3 e4;subst e1 e2 e3 e4;rw[Nat.zero_mul,Nat.add_zero] at x0;rw[h3,e] at c2;have X0:w2.drew.cell? ⟨w.heap.size,0,none⟩=some (.int .i64 p.dF):=c0;have X2:w2.drew.cell? ⟨w.heap.size,2,none⟩=some (.slice (some ⟨g,o,none⟩) 3 p.cb):=c2;have Y0:w2.drew.cell? ⟨g,o,none⟩=some (.bool p.body[0].s):=x0;have Y1:w2.drew.cell? ⟨g,o+1*2,none⟩=some (.bool p.body[1].s):=y0;have Y2:w2.drew.cell? ⟨g,o+1*2+1,none⟩=some (.int .i64 p.body[1].n):=y1;have Y3:w2.drew.cell? ⟨g,o+2*2,none⟩=some (.bool p.body[2].s):=z0;generalize p.body[0].s=a0 at x0 Y0 HE;generalize p.body[1].s=b0 at y0 Y1 HE;generalize p.body[1].n=bn at y1 Y2 HE;generalize p.body[2].s=d0 at z0 Y3 HE;clear k0 k1 k2 hl c0 c2 x0 y0 y1 z0 H HA e h3;cases a0 with
  | true=>
   refine wp_region_held_drew (S:=fun W'=>W'=w2.drew) (by kernel_rfl) rfl fun η=>?_;generalize w2.drew=w9 at *;refine bF 0 ?_;refine bF 1 ?_;refine bF 2 ?_
   try simp only[put,sA]
   refine bF 3 (v:=.bool true) ?_;refine bF 4 ?_;refine bF 5 ?_
   try simp only[put,sA]
   refine bF 6 ?_;refine bF 7 ?_;refine bF 8 ?_
   try simp only[put,sA]
   refine bF 9 ?_;refine bF 10 ?_;refine bF 11 ?_
   try simp only[put,sA]
   refine bF 12 ?_;refine bS 13 ?_;refine bS 14 ?_
   try simp only[put,sA]
   refine bS 15 ?_;refine bS 16 ?_;refine bS 17 ?_
   try simp only[put,sA]
   refine bF 18 ?_;refine bF 19 ?_;refine bS 20 ?_
   try simp only[put,sA]
   refine bS 21 ?_;refine bS 22 ?_;refine bS 23 ?_
   try simp only[put,sA]
   refine bS 24 ?_;refine bS 25 ?_;refine bS 26 ?_
   try simp only[put,sA]
   refine bS 27 ?_;refine bF 28 ?_;refine bF 29 ?_
   try simp only[put,sA]
   refine bS 30 ?_;refine bS 31 ?_;refine bS 32 ?_
   try simp only[put,sA]
   refine bS 33 ?_;refine bS 34 ?_;refine bS 35 ?_
   try simp only[put,sA]
   refine bF 36 ?_;refine bF 37 ?_;refine wpAnyH_done (by kernel_rfl) ?_ _;go_wp2;go_ret;exact⟨by rw[HE.o];rfl,xF⟩
  | false=>
   cases b0 with
   | false=>
    refine wp_region_held_drew (S:=fun W'=>W'=w2.drew) (by kernel_rfl) rfl fun η=>?_;generalize w2.drew=w9 at *;refine bF 0 ?_;refine bF 1 ?_;refine bF 2 ?_
    try simp only[put,sA]
    refine bF 3 (v:=.bool true) ?_;refine bF 4 ?_;refine bF 5 ?_
    try simp only[put,sA]
    refine bF 6 ?_;refine bF 7 ?_;refine bF 8 ?_
    try simp only[put,sA]
    refine bF 9 ?_;refine bF 10 ?_;refine bF 11 ?_
    try simp only[put,sA]
    refine bF 12 ?_;refine bF 13 ?_;refine bF 14 ?_
    try simp only[put,sA]
    refine bF 15 ?_;refine bF 16 ?_;refine bF 17 ?_
    try simp only[put,sA]
    refine bF 18 ?_;refine bF 19 ?_;refine bS 20 ?_
    try simp only[put,sA]
    refine bS 21 ?_;refine bS 22 ?_;refine bS 23 ?_
    try simp only[put,sA]
    refine bS 24 ?_;refine bS 25 ?_;refine bS 26 ?_
    try simp only[put,sA]
    refine bS 27 ?_;refine bF 28 ?_;refine bF 29 ?_
    try simp only[put,sA]
    refine bS 30 ?_;refine bS 31 ?_;refine bS 32 ?_
    try simp only[put,sA]
    refine bS 33 ?_;refine bS 34 ?_;refine bS 35 ?_
    try simp only[put,sA]
    refine bF 36 ?_;refine bF 37 ?_;refine wpAnyH_done (by kernel_rfl) ?_ _;go_wp2;go_ret;exact⟨by rw[HE.o];rfl,xF⟩
   | true=>
    by_cases bQ:bn=p.dF
    ·have j9:(bn == p.dF)=true:=(by simp[bQ]);refine wp_region_held_drew (S:=fun W'=>W'=w2.drew) (by kernel_rfl) rfl fun η=>?_;generalize w2.drew=w9 at *;refine bF 0 ?_;refine bF 1 ?_;refine bF 2 ?_
     try simp only[put,sA]
     refine bF 3 (v:=.bool true) ?_;refine bF 4 ?_;refine bF 5 ?_
     try simp only[put,sA]
     refine bF 6 ?_;refine bF 7 ?_;refine bF 8 ?_
     try simp only[put,sA]
     refine bF 9 ?_;refine bF 10 ?_;refine bF 11 ?_
     try simp only[put,sA]
     refine bF 12 ?_;refine bF 13 ?_;refine bF 14 ?_
     try simp only[put,sA]
     refine bF 15 ?_;refine bF 16 ?_;refine bF 17 ?_
     try simp only[put,sA]
     refine bF 18 ?_;refine bF 19 ?_;refine bF 20 ?_
     try simp only[put,sA]
     refine bF 21 ?_;refine bF 22 ?_;refine bF 23 ?_
     try simp only[put,sA]
     refine bF 24 ?_;refine bF 25 ?_;refine bF 26 ?_
     try simp only[put,sA]
     refine bF 27 (v:=.bool true) ?_;refine bF 28 ?_;refine bF 29 ?_
     try simp only[put,sA]
     refine bF 30 ?_;refine bF 31 ?_;refine bF 32 ?_
     try simp only[put,sA]
     refine bF 33 ?_;refine bF 34 ?_;refine bF 35 ?_
     try simp only[put,sA]
     refine bF 36 ?_;refine bF 37 ?_;refine wpAnyH_done (by kernel_rfl) ?_ _;go_wp2;go_ret;exact⟨by rw[HE.o,j9];rfl,xF⟩
    have j9:(bn == p.dF)=false:=(by simp[bQ]);refine wp_region_held_drew (S:=fun W'=>W'=w2.drew) (by kernel_rfl) rfl fun η=>?_;generalize w2.drew=w9 at *;refine bF 0 ?_;refine bF 1 ?_;refine bF 2 ?_
    try simp only[put,sA]
    refine bF 3 (v:=.bool true) ?_;refine bF 4 ?_;refine bF 5 ?_
    try simp only[put,sA]
    refine bF 6 ?_;refine bF 7 ?_;refine bF 8 ?_
    try simp only[put,sA]
    refine bF 9 ?_;refine bF 10 ?_;refine bF 11 ?_
    try simp only[put,sA]
    refine bF 12 ?_;refine bF 13 ?_;refine bF 14 ?_
    try simp only[put,sA]
    refine bF 15 ?_;refine bF 16 ?_;refine bF 17 ?_
    try simp only[put,sA]
    refine bF 18 ?_;refine bF 19 ?_;refine bF 20 ?_
    try simp only[put,sA]
    refine bF 21 ?_;refine bF 22 ?_;refine bF 23 ?_
    try simp only[put,sA]
    refine bF 24 ?_;refine bF 25 ?_;refine bF 26 ?_
    try simp only[put,sA]
    refine bF 27 (v:=.bool false) ?_;refine bF 28 ?_;refine bF 29 ?_
    try simp only[put,sA]
    refine bS 30 ?_;refine bS 31 ?_;refine bS 32 ?_
    try simp only[put,sA]
    refine bS 33 ?_;refine bS 34 ?_;refine bS 35 ?_
    try simp only[put,sA]
    refine bF 36 ?_;refine bF 37 ?_;refine wpAnyH_done (by kernel_rfl) ?_ _;go_wp2;go_ret;exact⟨by rw[HE.o,j9];rfl,xF⟩
 have HE:=hid (Yp h3);have X2:w2.drew.cell? ⟨w.heap.size,2,none⟩=some (.slice p.ab p.body.length p.cb):=c2;have j9:((p.body.length:Int) == 3)=false:=by simp;omega
 clear c0 c2 H HA h3;refine wp_region_held_drew (S:=fun W'=>W'=w2.drew) (by kernel_rfl) rfl fun η=>?_;generalize w2.drew=w9 at *;refine bF 0 ?_;refine bF 1 ?_;refine bF 2 ?_
 try simp only[put,sA]
 refine bF 3 (v:=.bool false) ?_;refine bF 4 ?_;refine bS 5 ?_
 try simp only[put,sA]
 refine bS 6 ?_;refine bS 7 ?_;refine bS 8 ?_
 try simp only[put,sA]
 refine bS 9 ?_;refine bS 10 ?_;refine bF 11 ?_
 try simp only[put,sA]
 refine bF 12 ?_;refine bS 13 ?_;refine bS 14 ?_
 try simp only[put,sA]
 refine bS 15 ?_;refine bS 16 ?_;refine bS 17 ?_
 try simp only[put,sA]
 refine bF 18 ?_;refine bF 19 ?_;refine bS 20 ?_
 try simp only[put,sA]
 refine bS 21 ?_;refine bS 22 ?_;refine bS 23 ?_
 try simp only[put,sA]
 refine bS 24 ?_;refine bS 25 ?_;refine bS 26 ?_
 try simp only[put,sA]
 refine bS 27 ?_;refine bF 28 ?_;refine bF 29 ?_
 try simp only[put,sA]
 refine bS 30 ?_;refine bS 31 ?_;refine bS 32 ?_
 try simp only[put,sA]
 refine bS 33 ?_;refine bS 34 ?_;refine bS 35 ?_
 try simp only[put,sA]
 refine bF 36 ?_;refine bF 37 ?_;refine wpAnyH_done (by kernel_rfl) ?_ _;go_wp2;go_ret;exact⟨by rw[HE.o];rfl,xF⟩
section
variable {G : Gr}{i : Nat}{x : iF}(hx : lh G i = x)
include hx
theorem Vt(h:x.dF<0\/(G.S.length:Int)<=x.dF):eV G i=11:=by unfold eV;rw[hx];exact if_pos h
theorem Yh(h1:¬(x.dF<0\/(G.S.length:Int)<=x.dF))(h:bG x.dR=false):eV G i=8:=by unfold eV;rw[hx];dsimp only;rw[if_neg h1,if_pos h]
theorem zrf(h1:¬(x.dF<0\/(G.S.length:Int)<=x.dF))(h2:bG x.dR=true)(h:12<x.body.length):eV G i=6:=by unfold eV;rw[hx];dsimp only;rw[if_neg h1,if_neg (by simp[h2]),if_pos h]
theorem ZN(h1:¬(x.dF<0\/(G.S.length:Int)<=x.dF))(h2:bG x.dR=true)(h3:¬12<x.body.length)(h:x.hints.length≠x.body.length-1):eV G i=1:=by
 unfold eV;rw[hx];dsimp only;rw[if_neg h1,if_neg (by simp[h2]),if_neg h3,if_pos h]
theorem R3(h1:¬(x.dF<0\/(G.S.length:Int)<=x.dF))(h2:bG x.dR=true)(h3:¬12<x.body.length)(h4:x.hints.length=x.body.length-1):eV G i=(open Classical in
  if (∃k,k<i/\(lh G k).dR=x.dR) then 9 else if (∃y∈x.body,eH G y=false) then 11 else if (∃z∈x.hints,z<0\/3<z) then 1
  else if x.prec≠-1/\gW G x.prec=false then 11 else if x.par=true/\ep x=false then 15 else 0):=by
 unfold eV;rw[hx];dsimp only;rw[if_neg h1,if_neg (by simp[h2]),if_neg h3,if_neg (by simp[h4])]
end
theorem ZZ{α:Type}{l:List α}{P:α->Prop}(h:∀j (h:j<l.length),¬P l[j]):¬∃z∈l,P z:=fun ⟨z,hz,hp⟩=>by
 obtain⟨j,hj,rfl⟩:=List.getElem_of_mem hz
 exact h j hj hp
theorem zit(hA:G.At w)(h0:0<G.P.length):∃g o,G.aP=some ⟨g,o,none⟩/\∀wr,ϐ w wr->∀a,a<G.P.length->(lh G a).At wr/\wr.cell? ⟨g,o+a*6,none⟩=some (.int .i64 (lh G a).dF)/\wr.cell? ⟨g,o+a*6+1,none⟩=some (.string (lh G a).dR)/\
   wr.cell? ⟨g,o+a*6+2,none⟩=some (.slice (lh G a).ab (lh G a).body.length (lh G a).cb)/\wr.cell? ⟨g,o+a*6+3,none⟩=some (.bool (lh G a).par)/\wr.cell? ⟨g,o+a*6+4,none⟩=some (.int .i64 (lh G a).prec)/\wr.cell? ⟨g,o+a*6+5,none⟩=some (.slice (lh G a).ah (lh G a).hints.length (lh G a).ch):=by
 obtain⟨g,o,e,_⟩:=hA.p h0;refine⟨g,o,e,fun wr hb a ha=>?_⟩;obtain⟨g',o',e',_,h1,h2⟩:=(hA.p.below hb).get a ha;rw[e] at e';injection e' with e';injection e' with e1 e2;subst e1 e2;rw[DD ha];exact⟨h1,h2⟩
def y9(w:World)(b:Nat)(G:Gr)(x:iF)(wr:World):Prop:=jJ wr b G/\pJ wr (b+1) x/\ϐ w wr
theorem y9.ae{b:Nat}(h:y9 w b G x wr)(k:ϐ wr w'):y9 w b G x w':=⟨h.1.below k,h.2.1.below k,h.2.2.trans (k.mono h.2.2.size)⟩
theorem y9.LD{b:Nat}(h:y9 w b G x wr)(q:Nat):y9 w b G x (wr.drewN q):=h.ae (jQ wr (Below.refl _ _) q)
theorem zht(G:Gr)(i:Nat)(hi:i<G.P.length)(w:World)(hA:G.At w)(hL:G.mE 100000):
  Calls prog 33 #[G.val,.int .i64 i] w (Bl (eV G i) w):=by
 show Calls prog 33 #[ϑ G,.int .i64 i] w _;unfold ϑ;obtain⟨g,o,eP,eR⟩:=zit hA (by omega);have tT:=ζ eR eP;obtain⟨x,hx⟩:=Ξ (lh G i)
 have Hx:=hid hx;have rq:=hL.ps i hi;rw[<-DD hi,hx] at rq;have yI:=(eR w (Below.refl _ _) i hi).1;rw[hx] at yI;have HA:=ξ hA hL yI;have tk:=hL.s;have Ci:=hL.p;have ze:=hid (fun W (k:ϐ w W)=>zhs x W (yI.below k) (by have:=rq.2.1;omega));have vT:=hid (fun W (k:ϐ w W) (y:Sy)=>Yt G y W (hA.below k) (hL.mono (by omega)));clear hA hL eR eP hx yI;obtain⟨w2,dQ,H,ib⟩:=xJ w G;go_in;go_upto_region 1 with fail
 try rw[dQ]
 clear dQ;obtain⟨b,hb⟩:=Ξ w.heap.size
 have HX:Hid (eU w b G w2):=by rw[<-hb];exact H.o
 have cQ:w2.heap.size=b+1:=by rw[<-hb];exact ib.o
 rw[hb];clear hb H ib;obtain⟨m,hm⟩:=Ξ G.S.length
 obtain⟨n,hn⟩:=Ξ G.P.length
 have HN:=ζ hm hn;have c2:=HX.o.1.c2;rw[hn,tT.o.2] at c2;have i0:(i:Int)<n:=by omega
 obtain⟨_,x0,x1,x2,x3,x4,x5⟩:=tT.o.1 w2 HX.o.2 i hi;rw[Hx.o] at x0 x1 x2 x3 x4 x5;rw[hn] at Ci;rw[hm] at tk;clear hm hn;obtain⟨w3,ue⟩:=Ξ (w2.alloc (.cells #[.int .i64 x.dF,.string x.dR,.slice x.ab x.body.length x.cb,.bool x.par,.int .i64 x.prec,.slice x.ah x.hints.length x.ch] 47))
 have HY:Hid (y9 w b G x w3):=by
  have k1:=al w2 (.cells #[.int .i64 x.dF,.string x.dR,.slice x.ab x.body.length x.cb,.bool x.par,.int .i64 x.prec,.slice x.ah x.hints.length x.ch] 47);have p1:=pJ.new w2 x 47;rw[ue] at k1 p1;rw[cQ] at p1;exact⟨HX.o.1.below k1,p1,HX.o.2.trans (k1.mono HX.o.2.size)⟩
 go_upto_region 2 with fail
 try rw[ue]
 clear ue x0 x1 x2 x3 x4 x5 c2 cQ HX;have zY:=rq.2.1;have Vv:=rq.2.2;have ud:=rq.1;clear rq;have c1:=HY.o.1.c1;rw[HN.o.1] at c1;have p0:=HY.o.2.1.c0;have p1:=HY.o.2.1.c1;have p2:=HY.o.2.1.c2;have p5:=HY.o.2.1.c5;have HB:=hid HY.o.2.2;by_cases h1:x.dF<0\/(G.S.length:Int)<=x.dF
 ·have HZ:=hid (Vt Hx.o h1);rw[HN.o.1] at h1;rcases (by omega:x.dF<0\/(¬x.dF<0/\(m:Int)<=x.dF)) with j1|⟨j1,j2⟩
  ·clear h1;go_wp2;go_ret;exact⟨by rw[HZ.o];rfl,HB.o⟩
  clear h1;go_wp2;go_ret;exact⟨by rw[HZ.o];rfl,HB.o⟩
 have H1:=hid h1;rw[HN.o.1] at h1;have j1:¬x.dF<0:=fun h=>h1 (inl h)
 have j2:¬(m:Int)<=x.dF:=fun h=>h1 (inr h)
 clear h1;have uu:=hid (Q9 x.dR w3 (by unfold maxLen;omega));go_wp2_with fail;refine uu.o.mono ?_;rintro e w4 ⟨rfl,rfl⟩;rcases hT:bG x.dR with _|_
 ·have HZ:=hid (Yh Hx.o H1.o hT);clear hT uu;go_wp2;go_ret;exact⟨by rw[HZ.o];rfl,HB.o⟩
 have HT:=hid hT;clear hT uu;by_cases AN:12<x.body.length
 ·have i12:(12:Int)<(x.body.length:Int):=by omega
  have HZ:=hid (zrf Hx.o H1.o HT.o AN);go_wp2;go_ret;exact⟨by rw[HZ.o];rfl,HB.o⟩
 have i12:¬(12:Int)<(x.body.length:Int):=by omega
 obtain⟨bh,sb⟩:=Ξ (decide (x.hints.length≠x.body.length-1))
 go_upto_region 8 with fail
 go_cut [41] from 33 to 41 (fun v wx=>v=.bool bh/\wx=w3)
 case first=>
  by_cases hc:1<x.body.length
  ·have j3:(1:Int)<(x.body.length:Int):=(by omega);have j8:max 0 ((x.body.length:Int)-1)=(x.body.length:Int)-1:=(by omega);have j4:((x.hints.length:Int) != (x.body.length:Int)-1)=bh:=by
    rw[<-sb,Bool.eq_iff_iff];simp only[bne_iff_ne,ne_eq,decide_eq_true_eq];omega
   clear sb;go_wp2_with fail
   go_meet
   exact⟨rfl,rfl⟩
  have j3:¬(1:Int)<(x.body.length:Int):=by omega
  have j8:max 0 ((x.body.length:Int)-1)=0:=by omega
  have j4:((x.hints.length:Int) != 0)=bh:=by
   rw[<-sb,Bool.eq_iff_iff];simp only[bne_iff_ne,ne_eq,decide_eq_true_eq];omega
  clear sb;go_wp2_with fail
  go_meet
  exact⟨rfl,rfl⟩
 case rest=>
 obtain⟨rfl,rfl⟩:=hcut;cases bh with
 | true=>
  have HZ:=hid (ZN Hx.o H1.o HT.o AN (by simpa using sb));clear sb;go_wp2;go_ret;exact⟨by rw[HZ.o];rfl,HB.o⟩
 | false=>
 have qv:=hid (R3 Hx.o H1.o HT.o AN (by simpa using sb));clear sb c1 p0 p1 p2 p5 j1 j2 i12 HB;go_wp2_with fail;obtain⟨wn,na⟩:∃wn,wn=wc:=⟨_,rfl⟩
 subst na;go_loopw [6] (fun v wr=>∃q:Nat,v=.int .i64 q/\q<=i/\Hid (y9 w b G x wr/\∀j,j<q->(lh G j).dR≠x.dR)) (fun v _=>i-(intOf v).toNat)
 ·exact⟨0,rfl,zero_le _,HY.o,fun j h=>absurd h (by omega)⟩
 clear HY;obtain⟨q,rfl,hq,HR⟩:=hrel;by_cases aq:q<i
 ·have i2:(q:Int)<i:=by omega
  have i3:(q:Int)<n:=by omega
  have c2:=HR.o.1.1.c2;rw[HN.o.2,tT.o.2] at c2;have p1:=HR.o.1.2.1.c1;obtain⟨_,_,y1,_,_,_,_⟩:=tT.o.1 wr HR.o.1.2.2 q (by omega);have HK:Hid (((lh G q).dR=x.dR->eV G i=9)/\((lh G q).dR≠x.dR->∀j,j<q+1->(lh G j).dR≠x.dR)):=by
   refine⟨fun h=>by rw[qv.o,if_pos ⟨q,aq,h⟩],fun h j hj=>?_⟩;by_cases e:j=q
   ·subst e;exact h
   exact HR.o.2 j (by omega)
  have HG:=hid (fun q=>HR.o.1.LD q);generalize (lh G q).dR=u at y1 HK;have qd:=IB u x.dR;clear HR;by_cases oK:u=x.dR
  ·have j9:(u.toList == x.dR.toList)=true:=(by simp[oK]);have HZ:=hid (HK.o.1 oK);clear HK oK qd;go_upto_region 13 with fail;go_quiet (fail);go_wp2;go_ret;exact⟨by rw[HZ.o];rfl,(HG.o _).2.2⟩
  have j9:(u.toList == x.dR.toList)=false:=by rw[qd];simp[oK]
  have HZ:=hid (HK.o.2 oK);clear HK oK qd;go_upto_region 13 with fail;go_quiet (fail);go_wp2;go_roundw
  ·exact⟨q+1,by go_num,by omega,HG.o _,HZ.o⟩
  simp[intOf];omega
 obtain rfl:q=i:=by omega
 have FD:Hid (eV G q=(open Classical in if (∃y∈x.body,eH G y=false) then 11 else if (∃z∈x.hints,z<0\/3<z) then 1
   else if x.prec≠-1/\gW G x.prec=false then 11 else if x.par=true/\ep x=false then 15 else 0)):=by
  show _=_
  rw[qv.o,if_neg (fun ⟨k,h1,h2⟩=>HR.o.2 k h1 h2)]
 have HY:=hid HR.o.1;obtain⟨nb,Ta⟩:=Ξ x.body.length
 have SA:=hid Ta;rw[Ta] at zY;clear HR qv Ta aq hq;go_wp2_with fail;obtain⟨wn,na⟩:∃wn,wn=wr:=⟨_,rfl⟩
 subst na;go_loopw [7] (fun v wr=>∃k:Nat,v=.int .i64 k/\k<=nb/\Hid (y9 w b G x wr/\∀j (h:j<x.body.length),j<k->¬eH G x.body[j]=false)) (fun v _=>nb-(intOf v).toNat)
 ·exact⟨0,rfl,zero_le _,HY.o,fun j _ h=>absurd h (by omega)⟩
 clear HY;obtain⟨k,rfl,hk,HR⟩:=hrel;have p2:=HR.o.1.2.1.c2;rw[SA.o] at p2;by_cases aq:k<nb
 ·have i2:(k:Int)<nb:=by omega
  have dV:k<x.body.length:=by rw[SA.o];exact aq
  obtain⟨g1,o1,e1,jF,y0,y1⟩:=(HA.o.2.2.b.below HR.o.1.2.2).get k dV;obtain⟨hb,kZ⟩:=Ξ (eH G x.body[k])
  have HK:Hid ((hb=false->eV G q=11)/\(hb=true->∀j (h:j<x.body.length),j<k+1->¬eH G x.body[j]=false)):=by
   refine⟨fun h=>by rw[FD.o,if_pos ⟨_,List.getElem_mem dV,by rw[kZ];exact h⟩],fun h j hj h3=>?_⟩;by_cases e:j=k
   ·subst e;rw[kZ,h];decide
   exact HR.o.2 j hj (by omega)
  generalize x.body[k]=y at y0 y1 kZ;obtain⟨us,un⟩:=y;dsimp only at y0 y1;have pK:Hid (∀W,ϐ wr W->Calls prog 15 #[ϑ G,.agg #[.bool us,.int .i64 un]] W (rH hb W)):=fun W h=>by
   rw[<-kZ];exact vT.o W (HR.o.1.2.2.trans (h.mono HR.o.1.2.2.size)) ⟨us,un⟩
  rw[e1] at p2;have jM:Hid (∀W',ϐ wr W'->W'.cell? ⟨b,0,none⟩=some (.slice G.aR G.R.length G.cR)/\W'.cell? ⟨b,1,none⟩=some (.slice G.aS G.S.length G.cS)/\W'.cell? ⟨b,2,none⟩=some (.slice G.aP G.P.length G.cP)/\W'.cell? ⟨b,3,none⟩=some (.slice G.aL G.L.length G.cL)/\W'.cell? ⟨b,4,none⟩=some (.int .i64 G.st)/\W'.cell? ⟨b+1,2,none⟩=some (.slice (some ⟨g1,o1,none⟩) nb x.cb)/\W'.cell? ⟨g1,o1+k*2,none⟩=some (.bool us)/\W'.cell? ⟨g1,o1+k*2+1,none⟩=some (.int .i64 un)):=fun W' h=>by
   have hG:=HR.o.1.1.below h;exact⟨hG.c0,hG.c1,hG.c2,hG.c3,hG.c4,(h.cell (p:=⟨b+1,2,none⟩) HR.o.1.2.1.lt).trans p2,(h.cell (p:=⟨g1,o1+k*2,none⟩) jF).trans y0,(h.cell (p:=⟨g1,o1+k*2+1,none⟩) jF).trans y1⟩
  have HG:=hid HR.o.1;clear HR dV e1 y0 y1 jF kZ;go_upto_region 18 with fail;clear p2;refine wp_region_held_drew (S:=fun W'=>ϐ wr W') (by kernel_rfl) (Below.refl _ _).drew fun η=>?_;refine ay 0 (v:=ϑ G) ?_ (hy:=by intro wz hSw;obtain⟨z0,z1,z2,z3,z4,z5,z6,z7⟩:=jM.o wz hSw;(try simp only[put,sA]);go_simp;first|done|with_reducible rfl)
  try simp only[put,sA]
  refine ay 1 ?_ (hy:=by intro wz hSw;obtain⟨z0,z1,z2,z3,z4,z5,z6,z7⟩:=jM.o wz hSw;(try simp only[put,sA]);go_simp;first|done|with_reducible rfl)
  try simp only[put,sA]
  refine ay 2 ?_ (hy:=by intro wz hSw;obtain⟨z0,z1,z2,z3,z4,z5,z6,z7⟩:=jM.o wz hSw;(try simp only[put,sA]);go_simp;first|done|with_reducible rfl)
  try simp only[put,sA]
  refine ay 3 ?_ (hy:=by intro wz hSw;obtain⟨z0,z1,z2,z3,z4,z5,z6,z7⟩:=jM.o wz hSw;(try simp only[put,sA]);go_simp;first|done|with_reducible rfl)
  try simp only[put,sA]
  refine ay 4 ?_ (hy:=by intro wz hSw;obtain⟨z0,z1,z2,z3,z4,z5,z6,z7⟩:=jM.o wz hSw;(try simp only[put,sA]);go_simp;first|done|with_reducible rfl)
  try simp only[put,sA]
  refine ay 5 (v:=.agg #[.bool us,.int .i64 un]) ?_ (hy:=by intro wz hSw;obtain⟨z0,z1,z2,z3,z4,z5,z6,z7⟩:=jM.o wz hSw;(try simp only[put,sA]);go_simp;first|done|with_reducible rfl)
  try simp only[put,sA]
  refine bH 6 (fun K hK=>?_);go_simp;go_at_call 15;refine (pK.o _ η).mono ?_;rintro e w8 ⟨rfl,b8⟩;have bQ:=η.trans (b8.mono η.size);clear b8 η
  try go_wp2_with fail
  refine hK.out _ _ bQ fun η=>?_;clear hK K bQ
  try simp only[put,sA]
  refine ay 7 ?_ (hy:=by intro wz hSw;obtain⟨z0,z1,z2,z3,z4,z5,z6,z7⟩:=jM.o wz hSw;(try simp only[put,sA]);go_simp;first|done|with_reducible rfl)
  try simp only[put,sA]
  refine wpAnyH_done (by kernel_rfl) ?_ _;have uD:=hid (HG.o.ae η);clear η HG;cases hb with
  | false=>
   have HZ:=hid (HK.o.1 rfl);clear HK;go_wp2;go_ret;exact⟨by rw[HZ.o];rfl,uD.o.2.2⟩
  | true=>
   have HZ:=hid (HK.o.2 rfl);clear HK;go_wp2;go_roundw
   ·exact⟨k+1,by go_num,by omega,uD.o,HZ.o⟩
   simp[intOf];omega
 obtain rfl:k=nb:=by omega
 have uE:Hid (eV G q=(open Classical in if (∃z∈x.hints,z<0\/3<z) then 1
   else if x.prec≠-1/\gW G x.prec=false then 11 else if x.par=true/\ep x=false then 15 else 0)):=by
  show _=_
  rw[FD.o,if_neg (ZZ (fun j hj=>HR.o.2 j hj (by rw[<-SA.o];exact hj)))]
 have HY:=hid HR.o.1;obtain⟨nh,RM⟩:=Ξ x.hints.length
 have Va:=hid RM;rw[RM] at Vv;clear HR FD RM aq hk;go_wp2_with fail;clear p2;obtain⟨wn,na⟩:∃wn,wn=wr:=⟨_,rfl⟩
 subst na;go_loopw [8] (fun v wr=>∃y:Nat,v=.int .i64 y/\y<=nh/\wr=wn/\Hid (∀j (h:j<x.hints.length),j<y->¬(x.hints[j]<0\/3<x.hints[j]))) (fun v _=>nh-(intOf v).toNat)
 ·exact⟨0,rfl,zero_le _,rfl,fun j _ h=>absurd h (by omega)⟩
 obtain⟨y,rfl,hy,rfl,HR⟩:=hrel;have p5:=HY.o.2.1.c5;rw[Va.o] at p5;by_cases aq:y<nh
 ·have i2:(y:Int)<nh:=by omega
  have Fw:y<x.hints.length:=by rw[Va.o];exact aq
  obtain⟨g1,o1,e1,_,z0⟩:=(HA.o.2.2.h.below HY.o.2.2).get y Fw;have HK:Hid ((x.hints[y]<0\/3<x.hints[y]->eV G q=1)/\(¬(x.hints[y]<0\/3<x.hints[y])->∀j (h:j<x.hints.length),j<y+1->¬(x.hints[j]<0\/3<x.hints[j]))):=by
   refine⟨fun h=>by rw[uE.o,if_pos ⟨_,List.getElem_mem Fw,h⟩],fun h j hj h3=>?_⟩;by_cases e:j=y
   ·subst e;exact h
   exact HR.o j hj (by omega)
  rw[e1] at p5;clear HR e1;generalize x.hints[y]'Fw=z at z0 HK;clear Fw;rcases (by omega:z<0\/(¬z<0/\3<z)\/(¬z<0/\¬3<z)) with j1|⟨j1,j2⟩|⟨j1,j2⟩
  ·have HZ:=hid (HK.o.1 (inl j1));clear HK;go_wp2;go_ret;exact⟨by rw[HZ.o];rfl,HY.o.2.2⟩
  ·have HZ:=hid (HK.o.1 (inr j2));clear HK;go_wp2;go_ret;exact⟨by rw[HZ.o];rfl,HY.o.2.2⟩
  have HZ:=hid (HK.o.2 (by omega));clear HK;go_wp2;go_roundw
  ·exact⟨y+1,by go_num,by omega,by first|trivial|rfl,HZ.o⟩
  simp[intOf];omega
 obtain rfl:y=nh:=by omega
 have yB:Hid (eV G q=(open Classical in if x.prec≠-1/\gW G x.prec=false then 11 else if x.par=true/\ep x=false then 15 else 0)):=by
  show _=_;rw[uE.o,if_neg (ZZ (fun j hj=>HR.o j hj (by rw[<-Va.o];exact hj)))]
 have c0:=HY.o.1.c0;have c1:=HY.o.1.c1;have c2:=HY.o.1.c2;have c3:=HY.o.1.c3;have c4:=HY.o.1.c4;have p4:=HY.o.2.1.c4;have p3:=HY.o.2.1.c3;have pK:Hid (Calls prog 15 #[ϑ G,.agg #[.bool false,.int .i64 x.prec]] wr (rH (gW G x.prec) wr)):=vT.o wr HY.o.2.2 ⟨false,x.prec⟩;have vJ:Hid (∀W,ϐ w W->Calls prog 21 #[.agg #[.int .i64 x.dF,.string x.dR,.slice x.ab x.body.length x.cb,.bool x.par,.int .i64 x.prec,.slice x.ah x.hints.length x.ch]] W (rH (ep x) W)):=fun W h=>ze.o W h
 clear HR uE aq hy;go_upto_region 25 with fail;clear p5;by_cases hp:x.prec=-1
 ·have j1:(x.prec != -1)=false:=by simp[hp]
  have qu:Hid (eV G q=(open Classical in if x.par=true/\ep x=false then 15 else 0)):=by
   show _=_;rw[yB.o,if_neg (fun h=>h.1 hp)]
  clear yB pK hp;obtain⟨bp,zm⟩:=Ξ x.par
  obtain⟨be,nJ⟩:=Ξ (ep x)
  rw[zm,nJ] at qu;have Bs:=hid (vJ.o _ HY.o.2.2);rw[nJ] at Bs;rw[zm] at Bs;rw[zm] at p3;cases bp with
  | false=>
   have HZ:Hid (eV G q=0):=(by show _=_;rw[qu.o,if_neg (fun h=>by cases h.1)]);clear Bs vJ nJ zm;go_wp2;go_ret;exact⟨by rw[HZ.o];rfl,HY.o.2.2⟩
  | true=>
   have p0:=HY.o.2.1.c0
   have p1:=HY.o.2.1.c1
   have p2:=HY.o.2.1.c2
   have p5:=HY.o.2.1.c5
   have HbE:=hid nJ
   clear vJ nJ zm
   go_wp2_with (go_at_call 21;refine Bs.o.mono ?_)
   rintro e w6 ⟨rfl,b6⟩
   have p8:=hid (HY.o.2.2.trans (b6.mono HY.o.2.2.size))
   clear b6
   cases be with
   | false=>
    have HZ:Hid (eV G q=15):=(by show _=_;rw[qu.o];simp);go_wp2;go_ret;exact⟨by rw[HZ.o];rfl,p8.o⟩
   | true=>
    have HZ:Hid (eV G q=0):=(by show _=_;rw[qu.o,if_neg (fun h=>by cases h.2)]);go_wp2;go_ret;exact⟨by rw[HZ.o];rfl,p8.o⟩
 have j1:(x.prec != -1)=true:=by simp[hp]
 obtain⟨hb,kZ⟩:=Ξ (gW G x.prec)
 rw[kZ] at pK;have Xi:=hid kZ;have Hp:=hid hp;clear kZ hp;go_wp2_with (go_at_call 15;refine pK.o.mono ?_);rintro e w5 ⟨rfl,b5⟩;have zp:=hid (HY.o.ae b5);clear b5 c0 c1 c2 c3 c4 p4 p3;cases hb with
 | false=>
  have HZ:Hid (eV G q=11):=by show _=_;rw[yB.o,if_pos ⟨Hp.o,Xi.o⟩]
  go_wp2;go_ret;exact⟨by rw[HZ.o];rfl,zp.o.2.2⟩
 | true=>
  have qu:Hid (eV G q=(open Classical in if x.par=true/\ep x=false then 15 else 0)):=by
   show _=_;rw[yB.o,if_neg (fun h=>by have h9:=h.2;rw[Xi.o] at h9;cases h9)]
  have p3:=zp.o.2.1.c3
  have p4:=zp.o.2.1.c4
  clear yB pK HY
  obtain⟨bp,zm⟩:=Ξ x.par
  obtain⟨be,nJ⟩:=Ξ (ep x)
  rw[zm,nJ] at qu
  have Bs:=hid (vJ.o _ zp.o.2.2)
  rw[nJ] at Bs
  rw[zm] at Bs
  rw[zm] at p3
  cases bp with
  | false=>
   have HZ:Hid (eV G q=0):=(by show _=_;rw[qu.o,if_neg (fun h=>by cases h.1)]);clear Bs vJ nJ zm;go_wp2;go_ret;exact⟨by rw[HZ.o];rfl,zp.o.2.2⟩
  | true=>
   have p0:=zp.o.2.1.c0
   have p1:=zp.o.2.1.c1
   have p2:=zp.o.2.1.c2
   have p5:=zp.o.2.1.c5
   have HbE:=hid nJ
   clear vJ nJ zm
   go_wp2_with (go_at_call 21;refine Bs.o.mono ?_)
   rintro e w6 ⟨rfl,b6⟩
   have p8:=hid (zp.o.2.2.trans (b6.mono zp.o.2.2.size))
   clear b6
   cases be with
   | false=>
    have HZ:Hid (eV G q=15):=(by show _=_;rw[qu.o];simp);go_wp2;go_ret;exact⟨by rw[HZ.o];rfl,p8.o⟩
   | true=>
    have HZ:Hid (eV G q=0):=(by show _=_;rw[qu.o,if_neg (fun h=>by cases h.2)]);go_wp2;go_ret;exact⟨by rw[HZ.o];rfl,p8.o⟩
structure mq (G:Gr):Prop where
 rl:G.R.length<=20
 rr:BV G.R G.R.length
 s:G.S.length<=20
 p:G.P.length<=40
 l:G.L.length<=20
 ss:∀i (h:i<G.S.length),G.S[i].size<=100
 ps:∀i (h:i<G.P.length),G.P[i].dR.size<=100/\G.P[i].body.length<=20/\G.P[i].hints.length<=20
 ls:∀i (h:i<G.L.length),G.L[i].rules.length<=20
theorem mq.lim(h:mq G){m:Nat}(hm:100<=m):G.mE m:=
 ⟨by have:=h.rl;omega,by have:=h.s;omega,by have:=h.p;omega,by have:=h.l;omega,fun i hi=>by have:=h.rr i hi hi;omega,fun i hi=>by have:=h.ss i hi;omega,fun i hi=>by have:=h.ps i hi;omega,fun i hi=>by have:=h.ls i hi;omega⟩
def Tm(G:Gr)(w:World)(e:Ending)(w':World):Prop:=∃bo:Bool,e=.returned (.bool bo)/\(bo=true->mq G)/\ϐ w w'
theorem zld(G:Gr)(w:World)(hA:G.At w)(hL:G.mE 9223372036854775807):
  Calls prog 8 #[G.val] w (Tm G w):=by
 show Calls prog 8 #[ϑ G] w _;unfold ϑ;have HA:=ζ hA hL;have Hw:=hL.r;have tk:=hL.s;have Ci:=hL.p;have sc:=hL.l;clear hA hL;obtain⟨w2,dQ,H,ib⟩:=xJ w G;go_in;go_upto_region 1 with fail
 try rw[dQ]
 clear dQ;obtain⟨b,hb⟩:=Ξ w.heap.size
 have HX:Hid (eU w b G w2):=by rw[<-hb];exact H.o
 rw[hb];clear hb H ib;have ke:Hid (∀w',ϐ w w'->Tm G w (.returned (.bool false)) w'):=fun w' h=>⟨false,rfl,fun h=>(by cases h),h⟩
 have HF:=hid (zlk G.R.length G.cR G.aR G.R rfl Hw w2 (HA.o.1.r.below HX.o.2));have c0:=HX.o.1.c0;go_wp2_with (go_at_call 25;refine HF.o.mono ?_);rintro e w3 ⟨bo,rfl,ku,b3⟩;have HY:=hid (HX.o.ae b3);clear b3 c0 HF HX;rcases bo with _|_
 ·clear ku;go_wp2;go_ret;exact ke.o _ HY.o.2
 have HRr:=hid (ku rfl);clear ku;have c1:=HY.o.1.c1;have c2:=HY.o.1.c2;have c3:=HY.o.1.c3;obtain⟨n,hn⟩:=Ξ G.S.length
 obtain⟨m,hm⟩:=Ξ G.P.length
 obtain⟨d,hd⟩:=Ξ G.L.length
 have HN:=ξ hn hm hd;rw[hn] at tk c1;rw[hm] at Ci c2;rw[hd] at sc c3;clear hn hm hd;by_cases h1:20<n
 ·have j1:(20:Int)<n:=by omega
  go_wp2;go_ret;exact ke.o _ HY.o.2
 have j1:¬(20:Int)<n:=by omega
 by_cases h2:40<m
 ·have j2:(40:Int)<m:=by omega
  go_wp2;go_ret;exact ke.o _ HY.o.2
 have j2:¬(40:Int)<m:=by omega
 by_cases h3:20<d
 ·have j3:(20:Int)<d:=by omega
  go_wp2;go_ret;exact ke.o _ HY.o.2
 have j3:¬(20:Int)<d:=by omega
 go_wp2;go_loopw [3] (fun v wr=>∃k:Nat,v=.int .i64 k/\k<=n/\wr=w3/\Hid (∀j (h:j<G.S.length),j<k->G.S[j].size<=100)) (fun v _=>n-(intOf v).toNat)
 ·exact⟨0,rfl,zero_le _,rfl,fun j _ h=>absurd h (by omega)⟩
 obtain⟨k,rfl,hk,rfl,HR⟩:=hrel;by_cases aq:k<n
 ·have i2:(k:Int)<n:=by omega
  have dV:k<G.S.length:=by rw[HN.o.1];exact aq
  obtain⟨g1,o1,e1,_,y1⟩:=(HA.o.1.s.below HY.o.2) (by omega);have x1:=y1 k dV;have HK:Hid (G.S[k].size<=100->∀j (h:j<G.S.length),j<k+1->G.S[j].size<=100):=fun h j hj h3=>by
   by_cases e:j=k
   ·subst e;exact h
   exact HR.o j hj (by omega)
  rw[e1] at c1;clear y1 e1;generalize G.S[k]=u at x1 HK;by_cases hu:100<u.size
  ·have j4:(100:Int)<(u.size:Int):=(by omega);go_wp2;go_ret;exact ke.o _ HY.o.2
  have j4:¬(100:Int)<(u.size:Int):=by omega
  have HZ:=hid (HK.o (by omega));go_wp2;go_roundw
  ·exact⟨k+1,by go_num,by omega,by first|trivial|rfl,HZ.o⟩
  simp[intOf];omega
 obtain rfl:k=n:=by omega
 have HSs:Hid (∀j (h:j<G.S.length),G.S[j].size<=100):=fun j hj=>HR.o j hj (by rw[<-HN.o.1];exact hj)
 clear HR;go_wp2_with fail;obtain⟨wn,na⟩:∃wn,wn=wr:=⟨_,rfl⟩
 subst na;go_loopw [4] (fun v wr=>∃q:Nat,v=.int .i64 q/\q<=m/\wr=wn/\Hid (∀j (h:j<G.P.length),j<q->G.P[j].dR.size<=100/\G.P[j].body.length<=20/\G.P[j].hints.length<=20)) (fun v _=>m-(intOf v).toNat)
 ·exact⟨0,rfl,zero_le _,rfl,fun j _ h=>absurd h (by omega)⟩
 obtain⟨q,rfl,hq,rfl,HR⟩:=hrel;by_cases aq:q<m
 ·have i2:(q:Int)<m:=by omega
  have dV:q<G.P.length:=by rw[HN.o.2.1];exact aq
  obtain⟨g1,o1,e1,_,y0,y1,y2,y3,y4,y5,y6⟩:=(HA.o.1.p.below HY.o.2).get q dV;have hz:=HA.o.2.ps q dV;have HK:Hid (G.P[q].dR.size<=100->G.P[q].body.length<=20->G.P[q].hints.length<=20->∀j (h:j<G.P.length),j<q+1->G.P[j].dR.size<=100/\G.P[j].body.length<=20/\G.P[j].hints.length<=20):=fun f1 f2 f3 j hj h3=>by
   by_cases e:j=q
   ·subst e;exact⟨f1,f2,f3⟩
   exact HR.o j hj (by omega)
  rw[e1] at c2;clear e1 y0 y1 y4 y5;generalize G.P[q]=x at y2 y3 y6 HK hz;obtain⟨xs,xc,xa,xcb,xb,xp,xq,xah,xch,xh⟩:=x;dsimp only at y2 y3 y6 HK hz;obtain⟨z1,z2,z3⟩:=hz;generalize xb.length=nb at y3 HK z2;generalize xh.length=nh at y6 HK z3;by_cases f1:20<nb
  ·have j4:(20:Int)<nb:=(by omega);go_wp2;go_ret;exact ke.o _ HY.o.2
  have j4:¬(20:Int)<nb:=by omega
  by_cases f2:20<nh
  ·have j5:(20:Int)<nh:=(by omega);go_wp2;go_ret;exact ke.o _ HY.o.2
  have j5:¬(20:Int)<nh:=by omega
  by_cases f3:100<xc.size
  ·have j6:(100:Int)<(xc.size:Int):=(by omega);go_wp2;go_ret;exact ke.o _ HY.o.2
  have j6:¬(100:Int)<(xc.size:Int):=by omega
  have HZ:=hid (HK.o (by omega) (by omega) (by omega));clear HK HR;go_wp2;go_roundw
  ·exact⟨q+1,by go_num,by omega,by first|trivial|rfl,HZ.o⟩
  simp[intOf];omega
 obtain rfl:q=m:=by omega
 have HPs:Hid (∀j (h:j<G.P.length),G.P[j].dR.size<=100/\G.P[j].body.length<=20/\G.P[j].hints.length<=20):=fun j hj=>HR.o j hj (by rw[<-HN.o.2.1];exact hj)
 clear HR;go_wp2_with fail;obtain⟨wn,na⟩:∃wn,wn=wr:=⟨_,rfl⟩
 subst na;go_loopw [5] (fun v wr=>∃y:Nat,v=.int .i64 y/\y<=d/\wr=wn/\Hid (∀j (h:j<G.L.length),j<y->G.L[j].rules.length<=20)) (fun v _=>d-(intOf v).toNat)
 ·exact⟨0,rfl,zero_le _,rfl,fun j _ h=>absurd h (by omega)⟩
 obtain⟨y,rfl,hy,rfl,HR⟩:=hrel;by_cases aq:y<d
 ·have i2:(y:Int)<d:=by omega
  have dV:y<G.L.length:=by rw[HN.o.2.2];exact aq
  obtain⟨g1,o1,e1,_,y0,y1,y2⟩:=(HA.o.1.l.below HY.o.2).get y dV;have hz:=HA.o.2.ls y dV;have HK:Hid (G.L[y].rules.length<=20->∀j (h:j<G.L.length),j<y+1->G.L[j].rules.length<=20):=fun f1 j hj h3=>by
   by_cases e:j=y
   ·subst e;exact f1
   exact HR.o j hj (by omega)
  rw[e1] at c3;clear e1 y0 y1;generalize G.L[y]=x at y2 HK hz;obtain⟨xs,xa,xc,xr⟩:=x;dsimp only at y2 HK hz;generalize xr.length=nr at y2 HK hz;by_cases f1:20<nr
  ·have j4:(20:Int)<nr:=(by omega);go_wp2;go_ret;exact ke.o _ HY.o.2
  have j4:¬(20:Int)<nr:=by omega
  have HZ:=hid (HK.o (by omega));clear HK HR;go_wp2;go_roundw
  ·exact⟨y+1,by go_num,by omega,by first|trivial|rfl,HZ.o⟩
  simp[intOf];omega
 obtain rfl:y=d:=by omega
 have HZ:Hid (mq G):=⟨HRr.o.1,HRr.o.2,by rw[HN.o.1];omega,by rw[HN.o.2.1];omega,by rw[HN.o.2.2];omega,HSs.o,HPs.o,fun j hj=>HR.o j hj (by rw[<-HN.o.2.2];exact hj)⟩
 go_wp2;go_ret;exact⟨true,rfl,fun _=>HZ.o,HY.o.2⟩
def sy(G:Gr)(s:ByteArray):Sy × Bool:=
 if qS s (G.R.map Ru.nm)<G.R.length then (⟨false,((qS s (G.R.map Ru.nm):Nat):Int)⟩,true) else if qS s G.S<G.S.length then (⟨true,((qS s G.S:Nat):Int)⟩,true) else (⟨false,0⟩,false)
theorem zrZ{s:ByteArray}(hk:k<G.R.length)(h:G.R[k].nm=s)(hn:∀j (h:j<G.R.length),j<k->G.R[j].nm≠s):sy G s=(⟨false,(k:Int)⟩,true):=by
 have:=PX (s:=s) (l:=G.R.map Ru.nm) (k:=k) (by simpa using hk) (by simpa using h) (fun j hj hjk=>by simp at hj⊢;exact hn j hj hjk);unfold sy;rw[this,if_pos hk]
theorem zr0{s:ByteArray}(hr:∀j (h:j<G.R.length),G.R[j].nm≠s)(hk:k<G.S.length)(h:G.S[k]=s)(hn:∀j (h:j<G.S.length),j<k->G.S[j]≠s):sy G s=(⟨true,(k:Int)⟩,true):=by
 have h1:=M6 (s:=s) (l:=G.R.map Ru.nm) (fun j hj=>by simp at hj⊢;exact hr j hj);unfold sy;rw[h1,if_neg (by simp),PX hk h hn,if_pos hk]
theorem Qr{g t:Nat}{c0 c1:Value}(h:w.heap[g]?=some (.cells #[c0,c1] t (0,0)))(d0 d1:Value):
  ((w.setCell ⟨g,0,none⟩ d0).setCell ⟨g,1,none⟩ d1).cell? ⟨g,0,none⟩=some d0/\((w.setCell ⟨g,0,none⟩ d0).setCell ⟨g,1,none⟩ d1).cell? ⟨g,1,none⟩=some d1:=by
 have h1:=heap_setCell_same w g 0 _ _ d0 h;have h2:=heap_setCell_same _ g 1 _ _ d1 h1;rw[cell_of_row _ g 0 _ _ _ h2,cell_of_row _ g 1 _ _ _ h2];exact⟨rfl,rfl⟩
def SX(G:Gr)(s:ByteArray)(w:World)(e:Ending)(w':World):Prop:=e=.returned (.tuple #[.agg (js (sy G s).1).toArray,.bool (sy G s).2])/\ϐ w w'
def XN(G:Gr)(t:Int):Nat->List Int
 | 0=>[]
 | i+1=>if (lh G i).dF=t then XN G t i++[(i:Int)] else XN G t i
def kB(G:Gr)(p:iF):Nat->ByteArray
 | 0=>((mr G ⟨true,p.dF⟩++⟨#[46]⟩)++p.dR)++⟨#[32,61]⟩
 | k+1=>(kB G p k++⟨#[32]⟩)++mr G (p.body.getD k ⟨false,0⟩)
def rJ(G:Gr)(i:Int):ByteArray:=if 0<=i/\i<G.P.length then kB G (lh G i.toNat) (lh G i.toNat).body.length else ⟨#[]⟩
theorem PD(h:mq G)(y:Sy):(mr G y).size<=100:=by
 unfold mr;split
 ·decide
 split
 ·rename_i h1 h2;have hk:y.n.toNat<G.S.length:=by omega
  rw[xX hk];exact h.ss _ hk
 split
 ·rename_i h1 h2 h3;have hk:y.n.toNat<G.R.length:=by omega
  rw[Gv hk];exact (h.rr _ hk hk).2
 decide
theorem zlf(h:mq G){p:iF}(hc:p.dR.size<=100)(k:Nat):(kB G p k).size<=203+101*k:=by
 induction k with
 | zero=>
  have:=PD h ⟨true,p.dF⟩;have e1:(⟨#[46]⟩:ByteArray).size=1:=rfl;have e2:(⟨#[32,61]⟩:ByteArray).size=2:=rfl;simp only[kB,ByteArray.size_append,e1,e2];omega
 | succ k ih=>
  have:=PD h (p.body.getD k ⟨false,0⟩);have e1:(⟨#[32]⟩:ByteArray).size=1:=rfl;simp only[kB,ByteArray.size_append,e1];omega
theorem znD(h:i<G.P.length):rJ G (i:Int)=kB G (lh G i) (lh G i).body.length:=by
 unfold rJ;rw[if_pos ⟨by omega,by omega⟩,Int.toNat_natCast]
theorem zlg{i:Int}(h:¬(0<=i/\i<G.P.length)):rJ G i=⟨#[]⟩:=if_neg h
theorem zo9(h:gW G ((dT G i).rules.getD k 0)=false):vg G i k=11:=if_pos h
theorem YW(h:gW G ((dT G i).rules.getD k 0)=true)(hs:gm G i k):vg G i k=9:=by unfold vg;rw[if_neg (by simp only[h];decide),if_pos hs]
theorem YN(h:gW G ((dT G i).rules.getD k 0)=true)(hs:¬gm G i k):vg G i k=0:=by unfold vg;rw[if_neg (by simp only[h];decide),if_neg hs]
def Iy(w:World)(b:Nat)(G:Gr)(x:tx)(wr:World):Prop:=jJ wr b G/\wi wr (b+1) x/\ϐ w wr
theorem Iy.ae{b:Nat}{x:tx}(h:Iy w b G x wr)(k:ϐ wr w'):Iy w b G x w':=⟨h.1.below k,h.2.1.below k,h.2.2.trans (k.mono h.2.2.size)⟩
theorem zgm(G:Gr)(i:Nat)(hi:i<G.L.length)(w:World)(hA:G.At w)(hL:G.mE 100000):
  Calls prog 34 #[G.val,.int .i64 i] w (Bl (kg G i) w):=by
 show Calls prog 34 #[ϑ G,.int .i64 i] w _;unfold ϑ;obtain⟨g,o,eL,eR⟩:=Vr hA (by omega);have tT:=ζ eR eL;obtain⟨x,hx⟩:=Ξ (dT G i)
 have Hx:=hid hx;have rq:=hL.ls i hi;rw[<-Gl hi,hx] at rq;have sc:=hL.l;have vT:=hid (fun W (k:ϐ w W) (y:Sy)=>Yt G y W (hA.below k) (hL.mono (by omega)));have Nq:=hid (fun W (k:ϐ w W) (q:Nat) (hq:q<(dT G i).rules.length)=>zhr G i q hi hq W (hA.below k) hL);clear hA hL eR eL hx;obtain⟨w2,dQ,H,ib⟩:=xJ w G;go_in;go_upto_region 1 with fail
 try rw[dQ]
 clear dQ;obtain⟨b,hb⟩:=Ξ w.heap.size
 have HX:Hid (eU w b G w2):=by rw[<-hb];exact H.o
 have cQ:w2.heap.size=b+1:=by rw[<-hb];exact ib.o
 rw[hb];clear hb H ib;obtain⟨n,hn⟩:=Ξ G.L.length
 have HN:=hid hn;have c3:=HX.o.1.c3;rw[hn,tT.o.2] at c3;have i0:(i:Int)<n:=by omega
 obtain⟨x0,x1,_⟩:=tT.o.1 w2 HX.o.2 i hi;rw[Hx.o] at x0 x1;rw[hn] at sc;clear hn;obtain⟨w3,ue⟩:=Ξ (w2.alloc (.cells #[.int .i64 x.side,.slice x.ar x.rules.length x.cr] 58))
 have HY:Hid (Iy w b G x w3):=by
  have k1:=al w2 (.cells #[.int .i64 x.side,.slice x.ar x.rules.length x.cr] 58);have p1:=wi.new w2 x 58;rw[ue] at k1 p1;rw[cQ] at p1;exact⟨HX.o.1.below k1,p1,HX.o.2.trans (k1.mono HX.o.2.size)⟩
 go_upto_region 2 with fail
 try rw[ue]
 clear ue x0 x1 c3 cQ HX;have p0:=HY.o.2.1.c0;have p1:=HY.o.2.1.c1;obtain⟨m,hm⟩:=Ξ x.rules.length
 have HM:=hid hm;rw[hm] at p1 rq;clear hm;have Ix:Hid (x.side<1\/3<x.side\/m=0\/60<=i->kg G i=1):=fun h=>by unfold kg;rw[Hx.o];exact if_pos (by rw[HM.o];exact h)
 by_cases j1:x.side<1
 ·have HZ:=hid (Ix.o (inl j1));go_wp2;go_ret;exact⟨by rw[HZ.o];rfl,HY.o.2.2⟩
 by_cases j2:3<x.side
 ·have HZ:=hid (Ix.o (inr (inl j2)));go_wp2;go_ret;exact⟨by rw[HZ.o];rfl,HY.o.2.2⟩
 by_cases j3:m=0
 ·have HZ:=hid (Ix.o (inr (inr (inl j3))));have YE:((m:Int) == 0)=true:=by simp[j3]
  clear j3;go_wp2;go_ret;exact⟨by rw[HZ.o];rfl,HY.o.2.2⟩
 have YE:((m:Int) == 0)=false:=by simp;omega
 by_cases j4:60<=i
 ·have HZ:=hid (Ix.o (inr (inr (inr j4))));have XS:(60:Int)<=i:=by omega
  go_wp2;go_ret;exact⟨by rw[HZ.o];rfl,HY.o.2.2⟩
 have XS:¬(60:Int)<=i:=by omega
 have HE:Hid (kg G i=ma (vg G i) m):=by
  show _=_;unfold kg;rw[Hx.o,HM.o];exact if_neg (fun h=>by rcases h with h|h|h|h <;> omega)
 clear Ix j3;go_wp2_with fail;clear j1 j2 YE XS p0 p1;obtain⟨wn,na⟩:∃wn,wn=w3:=⟨_,rfl⟩
 subst na;go_loopw [6] (fun v wr=>∃k:Nat,v=.int .i64 k/\k<=m/\Hid (Iy w b G x wr/\∀j,j<k->vg G i j=0)) (fun v _=>m-(intOf v).toNat)
 ·exact⟨0,rfl,zero_le _,HY.o,fun j h=>absurd h (by omega)⟩
 clear HY;obtain⟨k,rfl,hk,HR⟩:=hrel;have p1:=HR.o.1.2.1.c1;rw[HM.o] at p1;by_cases aq:k<m
 ·have i2:(k:Int)<m:=by omega
  have dV:k<x.rules.length:=by rw[HM.o];exact aq
  have SU:=(tT.o.1 wr HR.o.1.2.2 i hi).2.2;rw[Hx.o] at SU;obtain⟨g1,o1,e1,jF,z0⟩:=SU.get k dV;have hz:x.rules[k]=(dT G i).rules.getD k 0:=by rw[Hx.o];simp[dV]
  rw[hz] at z0;obtain⟨hb,kZ⟩:=Ξ (gW G ((dT G i).rules.getD k 0))
  have pK:Hid (∀W,ϐ wr W->Calls prog 15 #[ϑ G,.agg #[.bool false,.int .i64 ((dT G i).rules.getD k 0)]] W (rH hb W)):=fun W h=>by
   rw[<-kZ];exact vT.o W (HR.o.1.2.2.trans (h.mono HR.o.1.2.2.size)) ⟨false,(dT G i).rules.getD k 0⟩
  have vU:Hid (∀W,ϐ wr W->Calls prog 60 #[ϑ G,.int .i64 i,.int .i64 k] W (jk (gm G i k) W)):=fun W h=>Nq.o W (HR.o.1.2.2.trans (h.mono HR.o.1.2.2.size)) k (by rw[Hx.o];exact dV)
  have HK:Hid ((hb=false->kg G i=11)/\(hb=true->(gm G i k->kg G i=9)/\(¬gm G i k->∀j,j<k+1->vg G i j=0))):=by
   refine⟨fun h=>?_,fun h=>⟨fun hs=>?_,fun hs j hj=>?_⟩⟩
   ·have h1:=zo9 (G:=G) (i:=i) (k:=k) (by rw[kZ,h]);rw[HE.o,(BN aq HR.o.2 (by rw[h1];decide)).1,h1]
   ·have h1:=YW (G:=G) (i:=i) (k:=k) (by rw[kZ,h]) hs;rw[HE.o,(BN aq HR.o.2 (by rw[h1];decide)).1,h1]
   by_cases e:j=k
   ·subst e;exact YN (by rw[kZ,h]) hs
   exact HR.o.2 j (by omega)
  generalize (dT G i).rules.getD k 0=z at z0 pK hz kZ;rw[e1] at p1;have jM:Hid (∀W',ϐ wr W'->W'.cell? ⟨b,0,none⟩=some (.slice G.aR G.R.length G.cR)/\W'.cell? ⟨b,1,none⟩=some (.slice G.aS G.S.length G.cS)/\W'.cell? ⟨b,2,none⟩=some (.slice G.aP G.P.length G.cP)/\W'.cell? ⟨b,3,none⟩=some (.slice G.aL G.L.length G.cL)/\W'.cell? ⟨b,4,none⟩=some (.int .i64 G.st)/\W'.cell? ⟨b+1,1,none⟩=some (.slice (some ⟨g1,o1,none⟩) m x.cr)/\W'.cell? ⟨g1,o1+k,none⟩=some (.int .i64 z)):=fun W' h=>by
   have hG:=HR.o.1.1.below h;exact⟨hG.c0,hG.c1,hG.c2,hG.c3,hG.c4,(h.cell (p:=⟨b+1,1,none⟩) HR.o.1.2.1.lt).trans p1,(h.cell (p:=⟨g1,o1+k,none⟩) jF).trans z0⟩
  have HG:=hid HR.o.1;clear HR dV e1 z0 hz jF SU kZ;go_upto_region 7 with fail;clear p1;refine wp_region_held_drew (S:=fun W'=>ϐ wr W') (by kernel_rfl) (Below.refl _ _).drew fun η=>?_;refine ay 0 (v:=ϑ G) ?_ (hy:=by intro wz hSw;obtain⟨z0,z1,z2,z3,z4,z5,z6⟩:=jM.o wz hSw;(try simp only[put,sA]);go_simp;first|done|with_reducible rfl)
  try simp only[put,sA]
  refine ay 1 ?_ (hy:=by intro wz hSw;obtain⟨z0,z1,z2,z3,z4,z5,z6⟩:=jM.o wz hSw;(try simp only[put,sA]);go_simp;first|done|with_reducible rfl)
  try simp only[put,sA]
  refine ay 2 ?_ (hy:=by intro wz hSw;obtain⟨z0,z1,z2,z3,z4,z5,z6⟩:=jM.o wz hSw;(try simp only[put,sA]);go_simp;first|done|with_reducible rfl)
  try simp only[put,sA]
  refine ay 3 ?_ (hy:=by intro wz hSw;obtain⟨z0,z1,z2,z3,z4,z5,z6⟩:=jM.o wz hSw;(try simp only[put,sA]);go_simp;first|done|with_reducible rfl)
  try simp only[put,sA]
  refine ay 4 ?_ (hy:=by intro wz hSw;obtain⟨z0,z1,z2,z3,z4,z5,z6⟩:=jM.o wz hSw;(try simp only[put,sA]);go_simp;first|done|with_reducible rfl)
  try simp only[put,sA]
  refine ay 5 ?_ (hy:=by intro wz hSw;obtain⟨z0,z1,z2,z3,z4,z5,z6⟩:=jM.o wz hSw;(try simp only[put,sA]);go_simp;first|done|with_reducible rfl)
  try simp only[put,sA]
  refine ay 6 (v:=.agg #[.bool false,.int .i64 z]) ?_ (hy:=by intro wz hSw;obtain⟨z0,z1,z2,z3,z4,z5,z6⟩:=jM.o wz hSw;(try simp only[put,sA]);go_simp;first|done|with_reducible rfl)
  try simp only[put,sA]
  refine bH 7 (fun K hK=>?_);go_simp;go_at_call 15;refine (pK.o _ η).mono ?_;rintro e w8 ⟨rfl,b8⟩;have bQ:=η.trans (b8.mono η.size);clear b8 η
  try go_wp2_with fail
  refine hK.out _ _ bQ fun η=>?_;clear hK K bQ
  try simp only[put,sA]
  refine ay 8 ?_ (hy:=by intro wz hSw;obtain⟨z0,z1,z2,z3,z4,z5,z6⟩:=jM.o wz hSw;(try simp only[put,sA]);go_simp;first|done|with_reducible rfl)
  try simp only[put,sA]
  refine wpAnyH_done (by kernel_rfl) ?_ _;have uD:=hid (HG.o.ae η);have Lp:=hid (vU.o _ η);clear η HG vU pK jM;cases hb with
  | false=>
   have HZ:=hid (HK.o.1 rfl);clear HK;go_wp2;go_ret;exact⟨by rw[HZ.o];rfl,uD.o.2.2⟩
  | true=>
   have pA:=hid (HK.o.2 rfl)
   clear HK
   have c0:=uD.o.1.c0
   have c1:=uD.o.1.c1
   have c2:=uD.o.1.c2
   have c3:=uD.o.1.c3
   have c4:=uD.o.1.c4
   go_wp2_with (go_at_call 60;refine Lp.o.mono ?_)
   rintro e w6 ⟨bs,ow,rfl,b6⟩
   have HG3:=hid (uD.o.ae b6)
   clear b6 c0 c1 c2 c3 c4 Lp
   cases bs with
   | true=>
    have HZ:=hid (pA.o.1 (ow.1 rfl));clear ow pA;go_wp2;go_ret;exact⟨by rw[HZ.o];rfl,HG3.o.2.2⟩
   | false=>
    have HZ:=hid (pA.o.2 (fun h=>by have:=ow.2 h;cases this));clear ow pA;go_wp2;go_roundw
    ·exact⟨k+1,by go_num,by omega,HG3.o,HZ.o⟩
    simp[intOf];omega
 obtain rfl:k=m:=by omega
 have HZ:Hid (kg G i=0):=by show _=_;rw[HE.o,tL HR.o.2]
 have HY:=hid HR.o.1;clear HR;go_wp2;go_ret;exact⟨by rw[HZ.o];rfl,HY.o.2.2⟩
theorem zpY(h:300<G.S.length):dw G=(6,2,(G.S.length:Int)):=if_pos h
theorem zpZ(h1:¬300<G.S.length)(hk:k<G.S.length)(h:∀j,j<k->fU G j=0)(hn:fU G k≠0):dw G=(fU G k,2,(k:Int)):=by
 obtain⟨e1,e2⟩:=BN hk h hn;unfold dw;rw[if_neg h1,if_pos (by rw[e1];exact hn),e1,e2]
theorem zp0(h1:¬300<G.S.length)(h2:∀j,j<G.S.length->fU G j=0)(h:200<G.P.length):dw G=(6,3,(G.P.length:Int)):=by
 unfold dw;rw[if_neg h1,if_neg (by rw[tL h2];simp),if_pos h]
theorem zp1(h1:¬300<G.S.length)(h2:∀j,j<G.S.length->fU G j=0)(h3:¬200<G.P.length)(hk:k<G.P.length)(h:∀j,j<k->eV G j=0)(hn:eV G k≠0):dw G=(eV G k,3,(k:Int)):=by
 obtain⟨e1,e2⟩:=BN hk h hn;unfold dw;rw[if_neg h1,if_neg (by rw[tL h2];simp),if_neg h3,if_pos (by rw[e1];exact hn),e1,e2]
theorem zp2(h1:¬300<G.S.length)(h2:∀j,j<G.S.length->fU G j=0)(h3:¬200<G.P.length)(h4:∀j,j<G.P.length->eV G j=0)(hk:k<G.L.length)(h:∀j,j<k->kg G j=0)(hn:kg G k≠0):dw G=(kg G k,4,(k:Int)):=by
 obtain⟨e1,e2⟩:=BN hk h hn;unfold dw;rw[if_neg h1,if_neg (by rw[tL h2];simp),if_neg h3,if_neg (by rw[tL h4];simp),if_pos (by rw[e1];exact hn),e1,e2]
theorem zp3(h1:¬300<G.S.length)(h2:∀j,j<G.S.length->fU G j=0)(h3:¬200<G.P.length)(h4:∀j,j<G.P.length->eV G j=0)(h5:∀j,j<G.L.length->kg G j=0):dw G=if G.st<0\/(G.S.length:Int)<=G.st then (11,5,0) else (0,0,0):=by
 unfold dw;rw[if_neg h1,if_neg (by rw[tL h2];simp),if_neg h3,if_neg (by rw[tL h4];simp),if_neg (by rw[tL h5];simp)]
noncomputable def ji (G:Gr) (i er:Int):Int × Int × Int:=if er≠0 then (er,1,i) else dw G
def Nn(Q:Int->Int->Prop)(G:Gr)(w:World)(e:Ending)(w':World):Prop:=
 ∃i er,Q i er/\e=.returned (.tuple #[.int .i64 (ji G i er).1,.int .i64 (ji G i er).2.1,.int .i64 (ji G i er).2.2])/\ϐ w w'
def Pr(Q:Int->Int->Prop)(w:World)(e:Ending)(w':World):Prop:=∃i er:Int,e=.returned (.tuple #[.int .i64 i,.int .i64 er])/\Q i er/\ϐ w w'
theorem zgn(Q:Int->Int->Prop)(G:Gr)(w:World)(hA:G.At w)(hL:G.mE 100000)(hC:∀W,ϐ w W->Calls prog 31 #[.slice G.aR G.R.length G.cR] W (Pr Q W)):
  Calls prog 10 #[G.val] w (Nn Q G w):=by
 show Calls prog 10 #[ϑ G] w _;unfold ϑ;have eh:=hid (fun W (k:ϐ w W) (q:Nat) (hq:q<G.S.length)=>zhq G q hq W (hA.below k) hL);have ra:=hid (fun W (k:ϐ w W) (q:Nat) (hq:q<G.P.length)=>zht G q hq W (hA.below k) hL);have KU:=hid (fun W (k:ϐ w W) (q:Nat) (hq:q<G.L.length)=>zgm G q hq W (hA.below k) hL);have HC:=hid hC;have tk:=hL.s;have Ci:=hL.p;have sc:=hL.l;clear hA hL hC;obtain⟨w2,dQ,H,ib⟩:=xJ w G;go_in;go_upto_region 1 with fail
 try rw[dQ]
 clear dQ;obtain⟨b,hb⟩:=Ξ w.heap.size
 have HX:Hid (eU w b G w2):=by rw[<-hb];exact H.o
 rw[hb];clear hb H ib;have Aj:=hid (HC.o w2 HX.o.2);have c0:=HX.o.1.c0;go_wp2_with (go_at_call 31;refine Aj.o.mono ?_);rintro e w3 ⟨ai,er,rfl,hQ,b3⟩;have HY:=hid (HX.o.ae b3);have HQ:=hid hQ;clear b3 hQ c0 Aj HX HC;have HP:Hid (∀t1 t2 t3 w',(t1,t2,t3)=ji G ai er->ϐ w w'->Nn Q G w (.returned (.tuple #[.int .i64 t1,.int .i64 t2,.int .i64 t3])) w'):=fun t1 t2 t3 w' h hb=>⟨ai,er,HQ.o,by rw[<-h],hb⟩
 by_cases CB:er=0
 case neg=>
  have j1:(er != 0)=true:=by simp[CB]
  have HZ:Hid ((er,(1:Int),ai)=ji G ai er):=(if_pos CB).symm;clear CB;go_wp2_with fail
  go_ret3
  exact HP.o _ _ _ _ HZ.o HY.o.2
 have j1:(er != 0)=false:=by simp[CB]
 have jA:Hid (∀t1 t2 t3 w',dw G=(t1,t2,t3)->ϐ w w'->Nn Q G w (.returned (.tuple #[.int .i64 t1,.int .i64 t2,.int .i64 t3])) w'):=fun t1 t2 t3 w' h hb=>HP.o _ _ _ _ (by rw[<-h];unfold ji;rw[if_neg (by simp[CB])]) hb
 clear CB HP;have c1:=HY.o.1.c1;obtain⟨n,hn⟩:=Ξ G.S.length
 have HN:=hid hn;rw[hn] at tk c1;clear hn;by_cases vY:300<n
 ·have j2:(300:Int)<n:=by omega
  have HZ:=hid (zpY (G:=G) (by rw[HN.o];exact vY));rw[HN.o] at HZ;go_upto_region 5 with fail;go_quiet (fail);go_wp2_with fail
  go_ret3
  exact jA.o _ _ _ _ HZ.o (jQ w HY.o.2 _)
 have j2:¬(300:Int)<n:=by omega
 go_wp2_with fail;clear c1 j1 j2;obtain⟨wn,na⟩:∃wn,wn=w3:=⟨_,rfl⟩
 subst na;go_loopw [7] (fun v wr=>∃k:Nat,v=.int .i64 k/\k<=n/\Hid (eU w b G wr/\∀j,j<k->fU G j=0)) (fun v _=>n-(intOf v).toNat)
 ·exact⟨0,rfl,zero_le _,HY.o,fun j h=>absurd h (by omega)⟩
 clear HY;obtain⟨k,rfl,hk,HR⟩:=hrel;have c0:=HR.o.1.1.c0;have c1:=HR.o.1.1.c1;have c2:=HR.o.1.1.c2;have c3:=HR.o.1.1.c3;have c4:=HR.o.1.1.c4;by_cases aq:k<n
 ·have i2:(k:Int)<n:=by omega
  have IV:(k:Int)<(G.S.length:Int):=by rw[HN.o];exact i2
  have dV:k<G.S.length:=by rw[HN.o];exact aq
  have yT:Hid (Calls prog 32 #[ϑ G,.int .i64 k] wr (Bl (fU G k) wr)):=eh.o wr HR.o.1.2 k dV;go_wp2_with (go_at_call 32;refine yT.o.mono ?_);rintro e w4 ⟨rfl,b4⟩;have HG:=hid (HR.o.1.ae b4);clear b4 yT c0 c1 c2 c3 c4 IV;by_cases hz:fU G k=0
  ·have HZ:Hid (∀j,j<k+1->fU G j=0):=fun j hj=>by
    by_cases e:j=k
    ·subst e;exact hz
    exact HR.o.2 j (by omega)
   rw[hz];clear hz HR dV;go_wp2;go_roundw
   ·exact⟨k+1,by go_num,by omega,HG.o,HZ.o⟩
   simp[intOf];omega
  have HZ:=hid (zpZ (G:=G) (by rw[HN.o];exact vY) dV HR.o.2 hz);obtain⟨z,CF⟩:=Ξ (fU G k)
  rw[CF] at hz HZ⊢;have j3:(z != 0)=true:=by simp[hz]
  clear hz CF HR dV;go_wp2_with fail
  go_ret3
  exact jA.o _ _ _ _ HZ.o HG.o.2
 obtain rfl:k=n:=by omega
 have dX:Hid (∀j,j<G.S.length->fU G j=0):=fun j hj=>HR.o.2 j (by rw[<-HN.o];exact hj)
 have HY:=hid HR.o.1;rw[HN.o] at c1;obtain⟨m,hm⟩:=Ξ G.P.length
 have HM:=hid hm;rw[hm] at Ci c2;clear hm HR;by_cases AY:200<m
 ·have j2:(200:Int)<m:=by omega
  have HZ:=hid (zp0 (G:=G) (by rw[HN.o];exact vY) dX.o (by rw[HM.o];exact AY));rw[HM.o] at HZ;go_upto_region 13 with fail;go_quiet (fail);go_wp2_with fail
  go_ret3
  exact jA.o _ _ _ _ HZ.o (jQ w HY.o.2 _)
 have j2:¬(200:Int)<m:=by omega
 go_wp2_with fail;clear c0 c1 c2 c3 c4 j2;obtain⟨wn,na⟩:∃wn,wn=wr:=⟨_,rfl⟩
 subst na;go_loopw [9] (fun v wr=>∃q:Nat,v=.int .i64 q/\q<=m/\Hid (eU w b G wr/\∀j,j<q->eV G j=0)) (fun v _=>m-(intOf v).toNat)
 ·exact⟨0,rfl,zero_le _,HY.o,fun j h=>absurd h (by omega)⟩
 clear HY;obtain⟨q,rfl,hq,HR⟩:=hrel;have c0:=HR.o.1.1.c0;have c1:=HR.o.1.1.c1;have c2:=HR.o.1.1.c2;have c3:=HR.o.1.1.c3;have c4:=HR.o.1.1.c4;by_cases aq:q<m
 ·have i2:(q:Int)<m:=by omega
  have IV:(q:Int)<(G.P.length:Int):=by rw[HM.o];exact i2
  have dV:q<G.P.length:=by rw[HM.o];exact aq
  have yT:Hid (Calls prog 33 #[ϑ G,.int .i64 q] wr (Bl (eV G q) wr)):=ra.o wr HR.o.1.2 q dV;go_wp2_with (go_at_call 33;refine yT.o.mono ?_);rintro e w4 ⟨rfl,b4⟩;have HG:=hid (HR.o.1.ae b4);clear b4 yT c0 c1 c2 c3 c4 IV;by_cases hz:eV G q=0
  ·have HZ:Hid (∀j,j<q+1->eV G j=0):=fun j hj=>by
    by_cases e:j=q
    ·subst e;exact hz
    exact HR.o.2 j (by omega)
   rw[hz];clear hz HR dV;go_wp2;go_roundw
   ·exact⟨q+1,by go_num,by omega,HG.o,HZ.o⟩
   simp[intOf];omega
  have HZ:=hid (zp1 (G:=G) (by rw[HN.o];exact vY) dX.o (by rw[HM.o];exact AY) dV HR.o.2 hz);obtain⟨z,CF⟩:=Ξ (eV G q)
  rw[CF] at hz HZ⊢;have j3:(z != 0)=true:=by simp[hz]
  clear hz CF HR dV;go_wp2_with fail
  go_ret3
  exact jA.o _ _ _ _ HZ.o HG.o.2
 obtain rfl:q=m:=by omega
 have ml:Hid (∀j,j<G.P.length->eV G j=0):=fun j hj=>HR.o.2 j (by rw[<-HM.o];exact hj)
 have HY:=hid HR.o.1;rw[HM.o] at c2;clear HR;go_wp2_with fail;clear c0 c1 c2 c3 c4;obtain⟨wn,na⟩:∃wn,wn=wr:=⟨_,rfl⟩
 subst na;obtain⟨d,hd⟩:=Ξ G.L.length
 have HD:=hid hd;rw[hd] at sc;clear hd;go_loopw [11] (fun v wr=>∃y:Nat,v=.int .i64 y/\y<=d/\Hid (eU w b G wr/\∀j,j<y->kg G j=0)) (fun v _=>d-(intOf v).toNat)
 ·exact⟨0,rfl,zero_le _,HY.o,fun j h=>absurd h (by omega)⟩
 clear HY;obtain⟨y,rfl,hy,HR⟩:=hrel;have c0:=HR.o.1.1.c0;have c1:=HR.o.1.1.c1;have c2:=HR.o.1.1.c2;have c3:=HR.o.1.1.c3;have c4:=HR.o.1.1.c4;by_cases aq:y<d
 ·have i2:(y:Int)<d:=by omega
  have IV:(y:Int)<(G.L.length:Int):=by rw[HD.o];exact i2
  have dV:y<G.L.length:=by rw[HD.o];exact aq
  have yT:Hid (Calls prog 34 #[ϑ G,.int .i64 y] wr (Bl (kg G y) wr)):=KU.o wr HR.o.1.2 y dV;go_wp2_with (go_at_call 34;refine yT.o.mono ?_);rintro e w4 ⟨rfl,b4⟩;have HG:=hid (HR.o.1.ae b4);clear b4 yT c0 c1 c2 c3 c4 IV;by_cases hz:kg G y=0
  ·have HZ:Hid (∀j,j<y+1->kg G j=0):=fun j hj=>by
    by_cases e:j=y
    ·subst e;exact hz
    exact HR.o.2 j (by omega)
   rw[hz];clear hz HR dV;go_wp2;go_roundw
   ·exact⟨y+1,by go_num,by omega,HG.o,HZ.o⟩
   simp[intOf];omega
  have HZ:=hid (zp2 (G:=G) (by rw[HN.o];exact vY) dX.o (by rw[HM.o];exact AY) ml.o dV HR.o.2 hz);obtain⟨z,CF⟩:=Ξ (kg G y)
  rw[CF] at hz HZ⊢;have j3:(z != 0)=true:=by simp[hz]
  clear hz CF HR dV;go_wp2_with fail
  go_ret3
  exact jA.o _ _ _ _ HZ.o HG.o.2
 obtain rfl:y=d:=by omega
 have HF:=hid (zp3 (G:=G) (by rw[HN.o];exact vY) dX.o (by rw[HM.o];exact AY) ml.o (fun j hj=>HR.o.2 j (by rw[<-HD.o];exact hj)));rw[HN.o] at HF;have HY:=hid HR.o.1;rw[HD.o] at c3;rw[HN.o] at c1;clear HR c0 c2;by_cases j1:G.st<0
 ·have HZ:Hid (dw G=(11,5,0)):=HF.o.trans (if_pos (inl j1));clear HF;go_wp2_with fail
  go_ret3
  exact jA.o _ _ _ _ HZ.o HY.o.2
 by_cases j2:(k:Int)<=G.st
 ·have HZ:Hid (dw G=(11,5,0)):=HF.o.trans (if_pos (inr j2));clear HF;go_wp2_with fail
  go_ret3
  exact jA.o _ _ _ _ HZ.o HY.o.2
 have HZ:Hid (dw G=(0,0,0)):=HF.o.trans (if_neg (fun h=>by rcases h with h|h <;> contradiction));clear HF;go_wp2_with fail
 go_ret3
 exact jA.o _ _ _ _ HZ.o HY.o.2
def B4(Q:Int->Int->Prop)(G:Gr)(w:World)(e:Ending)(w':World):Prop:=
 ∃i er,Q i er/\e=.returned (.agg #[.int .i64 (ji G i er).1,.int .i64 (ji G i er).2.1,.int .i64 (ji G i er).2.2])/\ϐ w w'
def kX(w:World)(e:Ending)(w':World):Prop:=e=.returned (.bool true)/\ϐ w w'
theorem zfp(Q Q2:Int->Int->Prop)(G:Gr)(w:World)(hA:G.At w)(hL:G.mE 9223372036854775807)
  (hW:∀W,Calls prog 7 #[] W (kX W))
  (hC:mq G->∀W,ϐ w W->Calls prog 9 #[G.val] W (B4 Q G W))
  (hS:mq G->∀W,ϐ w W->Calls prog 11 #[G.val,G.val] W (kX W))
  (hR:mq G->∀W,ϐ w W->Calls prog 31 #[.slice G.aR G.R.length G.cR] W (Pr Q2 W))
  (hQ:∀i er i2 uY,Q i er->Q2 i2 uY->er≠6->i=i2/\er=uY):
  Calls prog 3 #[G.val] w (kX w):=by
 show Calls prog 3 #[ϑ G] w _;unfold ϑ;have rk:=hid (fun W (k:ϐ w W)=>zld G W (hA.below k) hL);have CL:=hid hC;have Gz:=hid hS;have HRc:=hid (fun (hf:mq G) W (k:ϐ w W)=>zgn Q2 G W (hA.below k) (hf.lim (by omega)) (fun W' k'=>hR hf W' (k.trans (k'.mono k.size))));have HQ:=hid hQ;have HW:=hid hW;clear hA hL hC hS hR hQ hW;obtain⟨w2,dQ,H,ib⟩:=xJ w G;go_in;go_upto_region 1 with fail
 try rw[dQ]
 clear dQ;obtain⟨b,hb⟩:=Ξ w.heap.size
 have HX:Hid (eU w b G w2):=by rw[<-hb];exact H.o
 rw[hb];clear hb H ib;have HW2:=hid (HW.o w2);go_wp2_with (go_at_call 7;refine HW2.o.mono ?_);rintro e w3 ⟨rfl,b3⟩;have ew:=hid (HX.o.ae b3);clear b3 HX HW HW2;have c0:=ew.o.1.c0;have c1:=ew.o.1.c1;have c2:=ew.o.1.c2;have c3:=ew.o.1.c3;have c4:=ew.o.1.c4;have re:Hid (Calls prog 8 #[ϑ G] w3 (Tm G w3)):=rk.o w3 ew.o.2;go_wp2_with (go_at_call 8;refine re.o.mono ?_);rintro e w4 ⟨bo,rfl,ku,b4⟩;have kC:=hid (ew.o.ae b4);clear b4 ew rk re c0 c1 c2 c3 c4;rcases bo with _|_
 ·clear ku;go_wp2;go_ret;exact⟨rfl,kC.o.2⟩
 have HB:=hid (ku rfl);clear ku;have c0:=kC.o.1.c0;have c1:=kC.o.1.c1;have c2:=kC.o.1.c2;have c3:=kC.o.1.c3;have c4:=kC.o.1.c4;have Lj:Hid (Calls prog 9 #[ϑ G] w4 (B4 Q G w4)):=CL.o HB.o w4 kC.o.2;go_wp2_with (go_at_call 9;refine Lj.o.mono ?_);rintro e w5 ⟨ai,er,hq,rfl,b5⟩;have ob:=hid (kC.o.ae b5);have Hq:=hid hq;clear b5 kC Lj CL c0 c1 c2 c3 c4 hq;obtain⟨t,ht⟩:=Ξ (ji G ai er)
 rw[ht];have Ht:=hid ht;clear ht;obtain⟨t1,t2,t3⟩:=t;dsimp only;obtain⟨w6,RP⟩:=Ξ (w5.alloc (.cells #[.int .i64 t1,.int .i64 t2,.int .i64 t3] 32))
 obtain⟨c,hc⟩:=Ξ w5.heap.size
 have H6:Hid (eU w b G w6/\w6.heap[c]?=some (.cells #[.int .i64 t1,.int .i64 t2,.int .i64 t3] 32 (0,0))):=by
  rw[<-RP,<-hc];exact⟨ob.o.ae (al w5 _),heap_alloc_new _ _⟩
 go_upto_region 6 with fail
 try rw[RP]
 try rw[hc]
 clear RP hc ob;have x0:w6.cell? ⟨c,0,none⟩=some (.int .i64 t1):=by rw[cell_of_row w6 _ 0 _ _ _ H6.o.2];rfl
 have x1:w6.cell? ⟨c,1,none⟩=some (.int .i64 t2):=by rw[cell_of_row w6 _ 1 _ _ _ H6.o.2];rfl
 by_cases iZ:t1=6/\t2=1
 ·have j1:(t1 == 6)=true:=by simp[iZ.1]
  have j2:(t2 == 1)=true:=by simp[iZ.2]
  clear iZ;go_wp2;go_ret;exact⟨rfl,H6.o.1.2⟩
 have h6:er≠6:=fun e=>by
  have h9:=Ht.o;subst e;simp[ji] at h9;exact iZ ⟨h9.1.symm,h9.2.1.symm⟩
 have H6e:=hid h6;have hj:(t1 == 6)=false\/((t1 == 6)=true/\(t2 == 1)=false):=by
  by_cases e1:t1=6
  ·exact inr ⟨by simp[e1],by simp;intro e2;exact iZ ⟨e1,e2⟩⟩
  exact inl (by simp[e1])
 clear iZ h6;have c0:=H6.o.1.1.c0;have c1:=H6.o.1.1.c1;have c2:=H6.o.1.1.c2;have c3:=H6.o.1.1.c3;have c4:=H6.o.1.1.c4;have Ky:Hid (Calls prog 10 #[ϑ G] w6 (Nn Q2 G w6)):=HRc.o HB.o w6 H6.o.1.2;have HG:Hid (∀i2 uY,Q2 i2 uY->ji G i2 uY=(t1,t2,t3)):=fun i2 uY h=>by
  obtain⟨e1,e2⟩:=HQ.o ai er i2 uY Hq.o h H6e.o;rw[<-e1,<-e2];exact Ht.o
 rcases hj with j1|⟨j1,j2⟩
 all_goals
  go_wp2_with (go_at_call 10;refine Ky.o.mono ?_)
  rintro e w7 ⟨i2,uY,hq2,rfl,b7⟩
  rw[HG.o i2 uY hq2]
  have H7:Hid (eU w b G w7/\w7.heap[c]?=some (.cells #[.int .i64 t1,.int .i64 t2,.int .i64 t3] 32 (0,0))):=⟨H6.o.1.ae b7,(b7.block c (Array.getElem?_eq_some_iff.1 H6.o.2).1).trans H6.o.2⟩
  clear b7 hq2 c0 c1 c2 c3 c4 x0 x1 Ky
  dsimp only
  have x0:w7.cell? ⟨c,0,none⟩=some (.int .i64 t1):=by rw[cell_of_row w7 _ 0 _ _ _ H7.o.2];rfl
  have x1:w7.cell? ⟨c,1,none⟩=some (.int .i64 t2):=by rw[cell_of_row w7 _ 1 _ _ _ H7.o.2];rfl
  have x2:w7.cell? ⟨c,2,none⟩=some (.int .i64 t3):=by rw[cell_of_row w7 _ 2 _ _ _ H7.o.2];rfl
  have c0:=H7.o.1.1.c0
  have c1:=H7.o.1.1.c1
  have c2:=H7.o.1.1.c2
  have c3:=H7.o.1.1.c3
  have c4:=H7.o.1.1.c4
  have k1:(t1 == t1)=true:=by simp
  have k2:(t2 == t2)=true:=by simp
  have k3:(t3 == t3)=true:=by simp
  have HS7:Hid (Calls prog 11 #[ϑ G,ϑ G] w7 (kX w7)):=Gz.o HB.o w7 H7.o.1.2
  go_wp2_with (go_at_call 11;refine HS7.o.mono ?_)
  rintro e w8 ⟨rfl,b8⟩
  have xP:=hid (H7.o.1.2.trans (b8.mono H7.o.1.2.size))
  clear b8
  go_wp2
  go_ret
  exact⟨rfl,xP.o⟩
def rZ(n m:Int)(w:World)(e:Ending)(w':World):Prop:=e=.returned (.bool (decide (0<=n) && decide (n<m)))/\w'=w
theorem Mp(n m:Int)(w:World):Calls prog 43 #[.int .i64 n,.int .i64 m] w (rZ n m w):=by
 go_in;by_cases h0:0<=n
 ·by_cases h1:n<m
  ·have HZ:Hid (rZ n m w (.returned (.bool true)) w):=(⟨by simp[h0,h1],rfl⟩);go_wp2;go_ret;exact HZ.o
  have HZ:Hid (rZ n m w (.returned (.bool false)) w):=⟨by simp[h0,h1],rfl⟩
  go_wp2;go_ret;exact HZ.o
 have HZ:Hid (rZ n m w (.returned (.bool false)) w):=⟨by simp[h0],rfl⟩
 go_wp2;go_ret;exact HZ.o
def Rr(n:Int)(w:World)(e:Ending)(w':World):Prop:=e=.returned (.agg #[.bool true,.int .i64 n])/\ϐ w w'
theorem AA(n:Int)(w:World):Calls prog 30 #[.int .i64 n] w (Rr n w):=by
 have k0:=al w (.cells #[.bool true,.int .i64 n] 38);have HB:=hid k0;have q0:=rC w #[.bool true,.int .i64 n] 38 0 _ rfl;have q1:=rC w #[.bool true,.int .i64 n] 38 1 _ rfl;clear k0;go_in;go_wp2_with fail;exact bodyPost_ret (v:=.agg #[.bool true,.int .i64 n]) (by simp[results,results30,go_sem,q0,q1]) rfl ⟨rfl,HB.o⟩
theorem MN(G:Gr)(x:Sy)(w:World)(hA:G.At w)(hL:G.mE 9223372036854775807):
  Calls prog 14 #[G.val,.agg (js x).toArray] w (rH (eH G x) w):=by
 show Calls prog 14 #[ϑ G,.agg #[.bool x.s,.int .i64 x.n]] w _;unfold ϑ;have HA:=hid hA;have Hw:=hL.r;have tk:=hL.s;clear hA hL;obtain⟨w2,dQ,H,ib⟩:=Fx w G x;go_in;go_upto_region 1 with fail
 try rw[dQ]
 clear dQ;have c0:=H.o.1.c0;have c1:=H.o.1.c1;have s0:=H.o.2.1.c0;have s1:=H.o.2.1.c1;have HB:=hid H.o.2.2;obtain⟨xs,n⟩:=x;dsimp only at s0 s1;rcases xs with _|_
 ·have HI:=hid (Mp n (G.R.length:Int) w2);by_cases h0:0<=n/\n<(G.R.length:Int)
  ·have hd:(decide (0<=n) && decide (n<(G.R.length:Int)))=true:=(by simp[h0.1,h0.2]);obtain⟨k,rfl⟩:=Int.eq_ofNat_of_zero_le h0.1;have hk:k<G.R.length:=(by omega);obtain⟨g1,o1,e1,jF,x0,x1,x2⟩:=(HA.o.below HB.o).r.get k hk;have HZ:Hid (eH G ⟨false,(k:Int)⟩=(G.R[k].k == 0)):=Z0 hk;have vo:Hid (Calls prog 43 #[.int .i64 (k:Int),.int .i64 (G.R.length:Int)] w2 (fun e w'=>e=.returned (.bool true)/\w'=w2)):=by
    have h9:=HI.o;unfold rZ at h9;rw[hd] at h9;exact h9
   rw[e1] at c0;generalize G.R[k].k=q at x1 HZ;clear x0 x2 e1 hd h0 HI;go_wp2_with (go_at_call 43;refine vo.o.mono ?_;rintro e w3 ⟨rfl,rfl⟩);go_ret;exact⟨by rw[HZ.o];rfl,HB.o⟩
  have HZ:Hid (eH G ⟨false,n⟩=false):=QL h0;have vo:Hid (Calls prog 43 #[.int .i64 n,.int .i64 (G.R.length:Int)] w2 (fun e w'=>e=.returned (.bool false)/\w'=w2)):=by
   have h9:=HI.o;unfold rZ at h9;rw[show (decide (0<=n) && decide (n<(G.R.length:Int)))=false by rw[<-Bool.decide_and];exact decide_eq_false h0] at h9;exact h9
  clear h0 HI;go_wp2_with (go_at_call 43;refine vo.o.mono ?_;rintro e w3 ⟨rfl,rfl⟩);go_ret;exact⟨by rw[HZ.o];rfl,HB.o⟩
 have HI:=hid (Mp n (G.S.length:Int) w2);have HZ:Hid (eH G ⟨true,n⟩=(decide (0<=n) && decide (n<G.S.length))):=Mn;go_wp2_with (go_at_call 43;refine HI.o.mono ?_;rintro e w3 ⟨rfl,rfl⟩);go_ret;exact⟨by rw[HZ.o];rfl,HB.o⟩
def A7(l:List iF)(p:iF->Prop)(r:Int):Prop:=(r=-1/\∀j (h:j<l.length),¬p l[j])\/∃(i:Nat) (h:i<l.length),r=((i:Nat):Int)/\p l[i]/\∀j (h:j<l.length),j<i->¬p l[j]
def Bx(l:List iF)(p:iF->Prop)(w:World)(e:Ending)(w':World):Prop:=∃r,e=.returned (.int .i64 r)/\A7 l p r/\ϐ w w'
theorem zny(fn:Nat)(uU:∀(args:Array Value) (W:World),(callFunc fn args).run prog W=.ok (.enter fn args) W)(p:iF->Prop)(n c b:Nat)(a:Option Addr)(l:List iF)(hl:l.length=n)(hn:n<=9223372036854775807)(w:World)(h1:sE w a l)
  (hF:∀(x:iF) W,ϐ w W->Calls prog fn #[.agg #[.int .i64 x.dF,.string x.dR,.slice x.ab x.body.length x.cb,.bool x.par,.int .i64 x.prec,.slice x.ah x.hints.length x.ch],.pointer (some ⟨b,0,none⟩)] W (jk (p x) W)):
  Calls prog 48 #[.slice a n c,.func (.func fn) #[] #[.pointer (some ⟨b,0,none⟩)]] w (Bx l p w):=by
 have H:=ξ h1 hl hF;clear h1 hl hF;go_in;go_wp2;go_loopw [5,8] (fun _ v wr=>∃k:Nat,v=.int .i64 k/\k<=n/\Hid (ϐ w wr/\∀j (h:j<l.length),j<k->¬p l[j])) (fun _ v _=>n-(intOf v).toNat)
 ·exact⟨0,rfl,zero_le _,Below.refl _ _,fun j _ h=>by omega⟩
 obtain⟨k,rfl,hk,HL⟩:=hrel;by_cases aq:k<n
 case neg=>
  obtain rfl:k=n:=by omega
  have HZ:Hid (A7 l p (-1)):=inl ⟨rfl,fun j h=>HL.o.2 j h (by have:=H.o.2.1;omega)⟩;go_wp2;go_ret;exact⟨_,rfl,HZ.o,HL.o.1⟩
 have hkl:k<l.length:=by rw[H.o.2.1];exact aq
 obtain⟨g1,o1,rfl,_,X,x0,x1,x2,x3,x4,x5⟩:=(H.o.1.below HL.o.1).get k hkl;clear X;have HF:=hid (H.o.2.2 l[k] wr HL.o.1);have HS:Hid (¬p l[k]->∀j (h:j<l.length),j<k+1->¬p l[j]):=fun h j hj hjk=>by
  by_cases e:j=k
  ·subst e;exact h
  exact HL.o.2 j hj (by omega)
 have HY:Hid (p l[k]->A7 l p (k:Int)):=fun h=>inr ⟨k,hkl,rfl,h,HL.o.2⟩
 have i1:(k:Int)<n:=by omega
 generalize l[k]=x at x0 x1 x2 x3 x4 x5 HF HS HY;clear hkl;go_wp2_with fail;refine HF.o.mono ?_;rintro e w2 ⟨y,hy,rfl,b2⟩;have H2:=ζ (HL.o.1.trans (b2.mono HL.o.1.size)) hy;clear b2 hy HF x0 x1 x2 x3 x4 x5;rcases y with _|_
 ·have HZ:=hid (HS.o (fun h=>by have:=H2.o.2.2 h;cases this));go_wp2;go_roundw
  ·exact⟨k+1,by go_num,by omega,H2.o.1,HZ.o⟩
  simp[intOf];omega
 have HZ:=hid (HY.o (H2.o.2.1 rfl));go_wp2;go_ret;exact⟨_,rfl,HZ.o,H2.o.1⟩
theorem zla:∀(args:Array Value) (W:World),(callFunc 50 args).run prog W=.ok (.enter 50 args) W:=fun _ _=>by rfl
theorem znz(x:iF)(b:Nat)(s:ByteArray)(w:World)(hc:w.cell? ⟨b,0,none⟩=some (.string s))(hb:b<w.heap.size):
  Calls prog 50 #[.agg #[.int .i64 x.dF,.string x.dR,.slice x.ab x.body.length x.cb,.bool x.par,.int .i64 x.prec,.slice x.ah x.hints.length x.ch],.pointer (some ⟨b,0,none⟩)] w (jk (x.dR=s) w):=by
 have HC:=ζ hc hb;clear hc hb;obtain⟨w2,dQ,H,ib⟩:=UP w x;go_in;go_upto_region 1 with fail
 try rw[dQ]
 clear dQ;have c1:=H.o.1.c1;have HB:=hid H.o.2;have e1:w2.cell? ⟨b,0,none⟩=some (.string s):=(HB.o.cell (p:=⟨b,0,none⟩) HC.o.2).trans HC.o.1;have HQ:Hid ((x.dR.toList == s.toList)=true↔x.dR=s):=by
  have h9:=IB x.dR s;show _↔_;rw[h9];simp
 clear H;go_wp2;go_ret;exact⟨_,HQ.o,rfl,HB.o⟩
theorem zlb(G:Gr)(s:ByteArray)(w:World)(hA:G.At w)(hL:G.P.length<=9223372036854775807):
  Calls prog 23 #[G.val,.string s] w (Bx G.P (fun x=>x.dR=s) w):=by
 show Calls prog 23 #[ϑ G,.string s] w _;unfold ϑ;have HA:=ζ hA hL;have Bm:∀(fn:Fn) (first cap:Array Value) (w:World),(Instr.makeFunc fn first cap).run prog w=.ok (.func fn first cap) w:=fun _ _ _ _=>rfl
 clear hA hL;obtain⟨w2,dQ,H,ib⟩:=Dy w G #[.string s] 9;go_in;go_upto_region 1 with fail
 try rw[dQ]
 clear dQ;have HB:=hid H.o.2.2;have c2:=H.o.1.c2;have HI:Hid (∀b,w.heap.size+1=b->Calls prog 48 #[.slice G.aP G.P.length G.cP,.func (.func 50) #[] #[.pointer (some ⟨b,0,none⟩)]] w2 (Bx G.P (fun x=>x.dR=s) w2)):=fun b hb=>by
  subst hb;have h9:w2.cell? ⟨w.heap.size+1,0,none⟩=some (.string s):=by rw[cell_of_row w2 _ 0 _ _ _ H.o.2.1];rfl
  have h8:=ib.o;exact zny 50 zla (fun x=>x.dR=s) _ _ _ _ G.P rfl HA.o.2 w2 (HA.o.1.below HB.o).p (fun x W k=>znz x _ s W ((k.cell (p:=⟨w.heap.size+1,0,none⟩) (by show w.heap.size+1<w2.heap.size;omega)).trans h9) (by have:=k.size;omega))
 have vo:=hid (HI.o _ rfl);clear HI H;go_wp2_with (go_at_call 48;refine vo.o.mono ?_);rintro e w3 ⟨r,rfl,hr,b3⟩;have HF:=ζ hr (HB.o.trans (b3.mono HB.o.size));clear hr b3 vo c2;go_wp2;go_ret;exact⟨_,rfl,HF.o.1,HF.o.2⟩
theorem zq9{l:List iF}{p:iF->Prop}{r:Int}(h:A7 l p r)(hi:i<l.length)(hp:p l[i]):r<(i:Int)↔∃k,∃h:k<i,p (l[k]'(by omega)):=by
 rcases h with ⟨_,hn⟩|⟨q,hq,rfl,hs,hn⟩
 ·exact absurd hp (hn i hi)
 constructor
 ·intro h;exact⟨q,by omega,hs⟩
 rintro⟨k,hk,h2⟩;rcases lt_or_ge k q with h3|h3
 ·exact absurd h2 (hn k (by omega) h3)
 omega
theorem zra(h:¬(0<=n/\n<G.S.length)):mr G ⟨true,n⟩=⟨#[63]⟩:=by
 by_cases h0:n<0
 ·exact zll h0
 exact zri (by omega)
theorem zrb(h:¬(0<=n/\n<G.R.length)):mr G ⟨false,n⟩=⟨#[63]⟩:=by
 by_cases h0:n<0
 ·exact zll h0
 exact zrj (by omega)
theorem Up(h:0<=n/\n<m)(w:World):Calls prog 43 #[.int .i64 n,.int .i64 m] w (fun e w'=>e=.returned (.bool true)/\w'=w):=by
 have h9:=Mp n m w;unfold rZ at h9;rw[show (decide (0<=n) && decide (n<m))=true by simp[h.1,h.2]] at h9;exact h9
theorem SH(h:¬(0<=n/\n<m))(w:World):Calls prog 43 #[.int .i64 n,.int .i64 m] w (fun e w'=>e=.returned (.bool false)/\w'=w):=by
 have h9:=Mp n m w;unfold rZ at h9;rw[show (decide (0<=n) && decide (n<m))=false by rw[<-Bool.decide_and];exact decide_eq_false h] at h9;exact h9
theorem zjI(G:Gr)(x:Sy)(w:World)(hA:G.At w)(hL:G.mE 9223372036854775807):
  Calls prog 45 #[G.val,.agg (js x).toArray] w (BK (mr G x) w):=by
 show Calls prog 45 #[ϑ G,.agg #[.bool x.s,.int .i64 x.n]] w _;unfold ϑ;have HA:=hid hA;have Hw:=hL.r;have tk:=hL.s;clear hA hL;obtain⟨w2,dQ,H,ib⟩:=Fx w G x;go_in;go_upto_region 1 with fail
 try rw[dQ]
 clear dQ;have c0:=H.o.1.c0;have c1:=H.o.1.c1;have s0:=H.o.2.1.c0;have s1:=H.o.2.1.c1;have HB:=hid H.o.2.2;obtain⟨xs,n⟩:=x;dsimp only at s0 s1;rcases xs with _|_
 ·by_cases h0:0<=n/\n<(G.R.length:Int)
  ·obtain⟨k,rfl⟩:=Int.eq_ofNat_of_zero_le h0.1;have vo:=hid (Up h0 w2);have hk:k<G.R.length:=(by omega);obtain⟨g1,o1,e1,jF,x0,x1,x2⟩:=(HA.o.below HB.o).r.get k hk;have HZ:Hid (mr G ⟨false,(k:Int)⟩=G.R[k].nm):=zr2 hk;rw[e1] at c0;generalize G.R[k].nm=q at x0 HZ;clear x1 x2 e1 h0;go_wp2_with (go_at_call 43;refine vo.o.mono ?_;rintro e w3 ⟨rfl,rfl⟩);go_ret;exact⟨by rw[HZ.o];rfl,HB.o⟩
  have HZ:Hid (mr G ⟨false,n⟩=⟨#[63]⟩):=zrb h0;have vo:=hid (SH h0 w2);clear h0;go_wp2_with (go_at_call 43;refine vo.o.mono ?_;rintro e w3 ⟨rfl,rfl⟩);go_ret;exact⟨by rw[HZ.o];rfl,HB.o⟩
 by_cases h0:0<=n/\n<(G.S.length:Int)
 ·obtain⟨k,rfl⟩:=Int.eq_ofNat_of_zero_le h0.1;have vo:=hid (Up h0 w2);have hk:k<G.S.length:=by omega
  obtain⟨g1,o1,e1,jF,q1⟩:=(HA.o.below HB.o).s (by omega);have x1:=q1 k hk;have HZ:Hid (mr G ⟨true,(k:Int)⟩=G.S[k]):=zr1 hk;rw[e1] at c1;generalize G.S[k]=q at x1 HZ;clear q1 e1 h0;go_wp2_with (go_at_call 43;refine vo.o.mono ?_;rintro e w3 ⟨rfl,rfl⟩);go_ret;exact⟨by rw[HZ.o];rfl,HB.o⟩
 have HZ:Hid (mr G ⟨true,n⟩=⟨#[63]⟩):=zra h0;have vo:=hid (SH h0 w2);clear h0;go_wp2_with (go_at_call 43;refine vo.o.mono ?_;rintro e w3 ⟨rfl,rfl⟩);go_ret;exact⟨by rw[HZ.o];rfl,HB.o⟩
theorem XR(l:List Int)(n c:Nat)(a:Option Addr)(hn:l.length=n)(nU:n<=9223372036854775807)(w:World)(h1:iP w a l):
  Calls prog 62 #[.slice a n c,.slice a n c] w (kX w):=by
 have H:=ζ h1 hn;clear h1 hn;go_in;go_wp2;go_loopw [5,13] (fun _ v wr=>∃k:Nat,v=.int .i64 k/\k<=n/\Hid (ϐ w wr)) (fun _ v _=>n-(intOf v).toNat)
 ·exact⟨0,rfl,zero_le _,Below.refl _ _⟩
 obtain⟨k,rfl,hk,HX⟩:=hrel;by_cases aq:k<n
 case neg=>
  obtain rfl:k=n:=by omega
  go_wp2;go_ret;exact⟨rfl,HX.o⟩
 have dV:k<l.length:=by rw[H.o.2];exact aq
 obtain⟨g1,o1,rfl,_,y⟩:=(H.o.1.below HX.o).get k dV;have i2:(k:Int)<n:=by omega
 generalize l[k]=u at y;clear dV;have hE:(u != u)=false:=by simp
 go_upto_region 6 with fail;go_quiet (fail);go_wp2;go_roundw
 ·exact⟨k+1,by go_num,by omega,jQ w HX.o _⟩
 simp[intOf];omega
theorem zpR(l:List ByteArray)(n c:Nat)(a:Option Addr)(hn:l.length=n)(nU:n<=9223372036854775807)(w:World)(h1:tC w a l):
  Calls prog 36 #[.slice a n c,.slice a n c] w (kX w):=by
 have H:=ζ h1 hn;clear h1 hn;go_in;go_wp2;go_loopw [5,13] (fun _ v wr=>∃k:Nat,v=.int .i64 k/\k<=n/\Hid (ϐ w wr)) (fun _ v _=>n-(intOf v).toNat)
 ·exact⟨0,rfl,zero_le _,Below.refl _ _⟩
 obtain⟨k,rfl,hk,HX⟩:=hrel;by_cases aq:k<n
 case neg=>
  obtain rfl:k=n:=by omega
  go_wp2;go_ret;exact⟨rfl,HX.o⟩
 have dV:k<l.length:=by rw[H.o.2];exact aq
 obtain⟨g1,o1,rfl,_,q1⟩:=(H.o.1.below HX.o) (by omega);have y:=q1 k dV;clear q1;have i2:(k:Int)<n:=by omega
 generalize l[k]=u at y;clear dV;have hE:(u.toList != u.toList)=false:=by simp
 go_upto_region 6 with fail;go_quiet (fail);go_wp2;go_roundw
 ·exact⟨k+1,by go_num,by omega,jQ w HX.o _⟩
 simp[intOf];omega
theorem zpS(l:List Sy)(n c:Nat)(a:Option Addr)(hn:l.length=n)(nU:n<=9223372036854775807)(w:World)(h1:qF w a l):
  Calls prog 61 #[.slice a n c,.slice a n c] w (kX w):=by
 have H:=ζ h1 hn;clear h1 hn;go_in;go_wp2;go_loopw [5,13] (fun _ v wr=>∃k:Nat,v=.int .i64 k/\k<=n/\Hid (ϐ w wr)) (fun _ v _=>n-(intOf v).toNat)
 ·exact⟨0,rfl,zero_le _,Below.refl _ _⟩
 obtain⟨k,rfl,hk,HX⟩:=hrel;by_cases aq:k<n
 case neg=>
  obtain rfl:k=n:=by omega
  go_wp2;go_ret;exact⟨rfl,HX.o⟩
 have dV:k<l.length:=by rw[H.o.2];exact aq
 obtain⟨g1,o1,rfl,_,y0,y1⟩:=(H.o.1.below HX.o).get k dV;have i2:(k:Int)<n:=by omega
 generalize l[k]=u at y0 y1;clear dV;obtain⟨us,un⟩:=u;dsimp only at y0 y1;go_upto_region 6 with fail;go_quiet (fail);go_wp2;go_roundw
 ·exact⟨k+1,by go_num,by omega,jQ w HX.o _⟩
 simp[intOf];omega
theorem zpT(l:List Ru)(n c:Nat)(a:Option Addr)(hn:l.length=n)(nU:n<=9223372036854775807)(w:World)(h1:jL w a l):
  Calls prog 35 #[.slice a n c,.slice a n c] w (kX w):=by
 have H:=ζ h1 hn;clear h1 hn;go_in;go_wp2;go_loopw [5,13] (fun _ v wr=>∃k:Nat,v=.int .i64 k/\k<=n/\Hid (ϐ w wr)) (fun _ v _=>n-(intOf v).toNat)
 ·exact⟨0,rfl,zero_le _,Below.refl _ _⟩
 obtain⟨k,rfl,hk,HX⟩:=hrel;by_cases aq:k<n
 case neg=>
  obtain rfl:k=n:=by omega
  go_wp2;go_ret;exact⟨rfl,HX.o⟩
 have dV:k<l.length:=by rw[H.o.2];exact aq
 obtain⟨g1,o1,rfl,_,y0,y1,y2⟩:=(H.o.1.below HX.o).get k dV;have i2:(k:Int)<n:=by omega
 generalize l[k]=u at y0 y1 y2;clear dV;obtain⟨ua,uk,ux⟩:=u;dsimp only at y0 y1 y2;go_upto_region 6 with fail;go_quiet (fail);go_wp2;go_roundw
 ·exact⟨k+1,by go_num,by omega,jQ w HX.o _⟩
 simp[intOf];omega
theorem zjJ(x:iF)(w:World)(hx:x.At w)(Au:x.body.length<=9223372036854775807)(hxh:x.hints.length<=9223372036854775807):
  Calls prog 38 #[.agg #[.int .i64 x.dF,.string x.dR,.slice x.ab x.body.length x.cb,.bool x.par,.int .i64 x.prec,.slice x.ah x.hints.length x.ch],.agg #[.int .i64 x.dF,.string x.dR,.slice x.ab x.body.length x.cb,.bool x.par,.int .i64 x.prec,.slice x.ah x.hints.length x.ch]] w (kX w):=by
 have HA:=ξ hx Au hxh;clear hx Au hxh;obtain⟨w2,dQ,H,ib⟩:=U6 w x x;go_in;go_upto_region 1 with fail
 try rw[dQ]
 clear dQ;obtain⟨b,hb⟩:=Ξ w.heap.size
 have HB:Hid (pJ w2 b x/\pJ w2 (b+1) x/\ϐ w w2):=by rw[<-hb];exact H.o
 rw[hb];clear hb H ib;have HE:=hid (zpS x.body _ x.cb x.ab rfl HA.o.2.1 w2 (HA.o.1.b.below HB.o.2.2));have c0:=HB.o.1.c0;have c1:=HB.o.1.c1;have c2:=HB.o.1.c2;have d0:=HB.o.2.1.c0;have d1:=HB.o.2.1.c1;have d2:=HB.o.2.1.c2;go_wp2_with (go_at_call 61;refine HE.o.mono ?_;rintro e w3 ⟨rfl,b3⟩;refine Hid.o ?_);refine hid ?_;have lk:Hid (pJ w3 b x/\pJ w3 (b+1) x/\ϐ w w3):=⟨HB.o.1.below b3,HB.o.2.1.below b3,HB.o.2.2.trans (b3.mono HB.o.2.2.size)⟩
 clear b3 c0 c1 c2 d0 d1 d2 HB HE;have HE:=hid (XR x.hints _ x.ch x.ah rfl HA.o.2.2 w3 (HA.o.1.h.below lk.o.2.2));have c3:=lk.o.1.c3;have c4:=lk.o.1.c4;have c5:=lk.o.1.c5;have d3:=lk.o.2.1.c3;have d4:=lk.o.2.1.c4;have d5:=lk.o.2.1.c5;go_wp2_with (go_at_call 62;refine HE.o.mono ?_;rintro e w4 ⟨rfl,b4⟩);go_ret;exact⟨rfl,lk.o.2.2.trans (b4.mono lk.o.2.2.size)⟩
theorem zjK(x:tx)(w:World)(hx:iP w x.ar x.rules)(Au:x.rules.length<=9223372036854775807):
  Calls prog 40 #[.agg #[.int .i64 x.side,.slice x.ar x.rules.length x.cr],.agg #[.int .i64 x.side,.slice x.ar x.rules.length x.cr]] w (kX w):=by
 have HA:=ζ hx Au;clear hx Au;obtain⟨w2,dQ,H,ib⟩:=TG w x x;go_in;go_upto_region 1 with fail
 try rw[dQ]
 clear dQ;have HB:=hid H.o.2.2;have HE:=hid (XR x.rules _ x.cr x.ar rfl HA.o.2 w2 (HA.o.1.below HB.o));have c0:=H.o.1.c0;have c1:=H.o.1.c1;have d0:=H.o.2.1.c0;have d1:=H.o.2.1.c1;clear H ib;go_wp2_with (go_at_call 62;refine HE.o.mono ?_;rintro e w4 ⟨rfl,b4⟩);go_ret;exact⟨rfl,HB.o.trans (b4.mono HB.o.size)⟩
theorem znA:∀(args:Array Value) (W:World),(callFunc 38 args).run prog W=.ok (.enter 38 args) W:=fun _ _=>by rfl
theorem zpU(l:List iF)(n c:Nat)(a:Option Addr)(hn:l.length=n)(nU:n<=9223372036854775807)(qb:∀i (h:i<l.length),l[i].body.length<=9223372036854775807/\l[i].hints.length<=9223372036854775807)(w:World)(h1:sE w a l):
  Calls prog 37 #[.slice a n c,.slice a n c,.func (.func 38) #[] #[]] w (kX w):=by
 have H:=ξ h1 hn qb;have uU:=znA;clear h1 hn qb;go_in;go_wp2;go_loopw [7,8,9,17] (fun _ _ _ v wr=>∃k:Nat,v=.int .i64 k/\k<=n/\Hid (ϐ w wr)) (fun _ _ _ v _=>n-(intOf v).toNat)
 ·exact⟨0,rfl,zero_le _,Below.refl _ _⟩
 obtain⟨k,rfl,hk,HX⟩:=hrel;by_cases aq:k<n
 case neg=>
  obtain rfl:k=n:=by omega
  go_wp2;go_ret;exact⟨rfl,HX.o⟩
 have dV:k<l.length:=by rw[H.o.2.1];exact aq
 obtain⟨g1,o1,rfl,_,X,y0,y1,y2,y3,y4,y5⟩:=(H.o.1.below HX.o).get k dV;have HY:=ζ X (H.o.2.2 k dV);have i2:(k:Int)<n:=by omega
 clear X;generalize l[k]=x at y0 y1 y2 y3 y4 y5 HY;clear dV;obtain⟨w4,FI⟩:=Ξ ((wr.alloc (.cells #[.int .i64 x.dF,.string x.dR,.slice x.ab x.body.length x.cb,.bool x.par,.int .i64 x.prec,.slice x.ah x.hints.length x.ch] 47)).alloc (.cells #[.int .i64 x.dF,.string x.dR,.slice x.ab x.body.length x.cb,.bool x.par,.int .i64 x.prec,.slice x.ah x.hints.length x.ch] 47))
 have rj:Hid (ϐ wr w4):=by rw[<-FI];exact (al wr _).trans ((al _ _).mono (al wr _).size)
 have HC:=hid (zjJ x w4 (HY.o.1.below rj.o) HY.o.2.1 HY.o.2.2);have oB:=hid FI;clear FI HY;go_wp2_with fail;rw[oB.o];refine HC.o.mono ?_;rintro e w5 ⟨rfl,b5⟩;have pt:=hid ((HX.o.trans (rj.o.mono HX.o.size)).trans (b5.mono (HX.o.trans (rj.o.mono HX.o.size)).size));clear b5 HC HX rj oB y0 y1 y2 y3 y4 y5;go_wp2;go_roundw
 ·exact⟨k+1,by go_num,by omega,pt.o⟩
 simp[intOf];omega
theorem znB:∀(args:Array Value) (W:World),(callFunc 40 args).run prog W=.ok (.enter 40 args) W:=fun _ _=>by rfl
theorem zpV(l:List tx)(n c:Nat)(a:Option Addr)(hn:l.length=n)(nU:n<=9223372036854775807)(qb:∀i (h:i<l.length),l[i].rules.length<=9223372036854775807)(w:World)(h1:tS w a l):
  Calls prog 39 #[.slice a n c,.slice a n c,.func (.func 40) #[] #[]] w (kX w):=by
 have H:=ξ h1 hn qb;have uU:=znB;clear h1 hn qb;go_in;go_wp2;go_loopw [7,8,9,17] (fun _ _ _ v wr=>∃k:Nat,v=.int .i64 k/\k<=n/\Hid (ϐ w wr)) (fun _ _ _ v _=>n-(intOf v).toNat)
 ·exact⟨0,rfl,zero_le _,Below.refl _ _⟩
 obtain⟨k,rfl,hk,HX⟩:=hrel;by_cases aq:k<n
 case neg=>
  obtain rfl:k=n:=by omega
  go_wp2;go_ret;exact⟨rfl,HX.o⟩
 have dV:k<l.length:=by rw[H.o.2.1];exact aq
 obtain⟨g1,o1,rfl,_,X,y0,y1⟩:=(H.o.1.below HX.o).get k dV;have HY:=ζ X (H.o.2.2 k dV);have i2:(k:Int)<n:=by omega
 clear X;generalize l[k]=x at y0 y1 HY;clear dV;obtain⟨w4,FI⟩:=Ξ ((wr.alloc (.cells #[.int .i64 x.side,.slice x.ar x.rules.length x.cr] 58)).alloc (.cells #[.int .i64 x.side,.slice x.ar x.rules.length x.cr] 58))
 have rj:Hid (ϐ wr w4):=by rw[<-FI];exact (al wr _).trans ((al _ _).mono (al wr _).size)
 have HC:=hid (zjK x w4 (HY.o.1.below rj.o) HY.o.2);have oB:=hid FI;clear FI HY;go_wp2_with fail;rw[oB.o];refine HC.o.mono ?_;rintro e w5 ⟨rfl,b5⟩;have pt:=hid ((HX.o.trans (rj.o.mono HX.o.size)).trans (b5.mono (HX.o.trans (rj.o.mono HX.o.size)).size));clear b5 HC HX rj oB y0 y1;go_wp2;go_roundw
 ·exact⟨k+1,by go_num,by omega,pt.o⟩
 simp[intOf];omega
theorem zjL(G:Gr)(w:World)(hG:G.At w)(hL:G.mE 9223372036854775807):Calls prog 11 #[G.val,G.val] w (kX w):=by
 show Calls prog 11 #[ϑ G,ϑ G] w _;unfold ϑ;have HA:=ζ hG hL;clear hG hL;obtain⟨w2,dQ,H,ib⟩:=Si w G G;go_in;go_upto_region 1 with fail
 try rw[dQ]
 clear dQ;obtain⟨b,hb⟩:=Ξ w.heap.size
 have su:Hid (jJ w2 b G/\jJ w2 (b+1) G/\ϐ w w2):=by rw[<-hb];exact H.o
 rw[hb];clear hb H ib;have c0:=su.o.1.c0;have d0:=su.o.2.1.c0;have HC:=hid (zpT G.R _ G.cR G.aR rfl HA.o.2.r _ (HA.o.1.r.below su.o.2.2));go_wp2_with (go_at_call 35;refine HC.o.mono ?_;rintro e w3 ⟨rfl,b3⟩;refine Hid.o ?_);refine hid ?_;have wB:Hid (jJ w3 b G/\jJ w3 (b+1) G/\ϐ w w3):=⟨su.o.1.below b3,su.o.2.1.below b3,su.o.2.2.trans (b3.mono su.o.2.2.size)⟩
 clear c0 d0 HC b3 su;have c1:=wB.o.1.c1;have d1:=wB.o.2.1.c1;have HC:=hid (zpR G.S _ G.cS G.aS rfl HA.o.2.s _ (HA.o.1.s.below wB.o.2.2));go_wp2_with (go_at_call 36;refine HC.o.mono ?_;rintro e w4 ⟨rfl,b3⟩;refine Hid.o ?_);refine hid ?_;have lv:Hid (jJ w4 b G/\jJ w4 (b+1) G/\ϐ w w4):=⟨wB.o.1.below b3,wB.o.2.1.below b3,wB.o.2.2.trans (b3.mono wB.o.2.2.size)⟩
 clear c1 d1 HC b3 wB;have c2:=lv.o.1.c2;have d2:=lv.o.2.1.c2;have HC:=hid (zpU G.P _ G.cP G.aP rfl HA.o.2.p (fun i h=>(HA.o.2.ps i h).2) _ (HA.o.1.p.below lv.o.2.2));go_wp2_with (go_at_call 37;refine HC.o.mono ?_;rintro e w5 ⟨rfl,b3⟩;refine Hid.o ?_);refine hid ?_;have ew:Hid (jJ w5 b G/\jJ w5 (b+1) G/\ϐ w w5):=⟨lv.o.1.below b3,lv.o.2.1.below b3,lv.o.2.2.trans (b3.mono lv.o.2.2.size)⟩
 clear c2 d2 HC b3 lv;have c3:=ew.o.1.c3;have d3:=ew.o.2.1.c3;have HC:=hid (zpV G.L _ G.cL G.aL rfl HA.o.2.l (fun i h=>HA.o.2.ls i h) _ (HA.o.1.l.below ew.o.2.2));go_wp2_with (go_at_call 39;refine HC.o.mono ?_;rintro e w6 ⟨rfl,b3⟩;refine Hid.o ?_);refine hid ?_;have kC:Hid (jJ w6 b G/\jJ w6 (b+1) G/\ϐ w w6):=⟨ew.o.1.below b3,ew.o.2.1.below b3,ew.o.2.2.trans (b3.mono ew.o.2.2.size)⟩
 clear c3 d3 HC b3 ew;have c4:=kC.o.1.c4;have d4:=kC.o.2.1.c4;go_wp2;go_ret;exact⟨rfl,kC.o.2.2⟩
