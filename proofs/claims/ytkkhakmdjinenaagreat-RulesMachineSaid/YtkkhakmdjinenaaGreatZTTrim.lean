import Derived.Test.YtkkhakmdjinenaaGreatZTRefW
set_option linter.all false
set_option maxHeartbeats 4000000
set_option maxRecDepth 100000
open Go.Lib (hid)
namespace Go.Proofs.YtkkhakmdjinenaaGreat
open Go.RowKit Go.Maps Go.Proofs.Tryz
open List (getD_eq_getElem?_getD getElem?_append getElem_mem length_append map_append mem_append mem_singleton range range_succ replicate)
open Nat (le_refl le_trans)
open Sem (run_bind run_pure)
open Result (andThen_ok)
open Or (inl inr)
open Act (eval put)
open Instr (build fill)
open Region (wanted)
variable {B C b4 c f n q t:Nat}{D:Dd}{P:Program}{a:Option Addr}{l:List Nat}{ms:List Int}{ops:Array Oper}{tg:Nat->List Nat}{u:Value}{w w':World}{ws:Nat->Value}{xs:List Value}
def nQ(w:World)(a:Option Addr)(l:List Nat):Prop:=kY w a l.length (fun i=>((l.getD i 0:Nat):Int))
theorem nQ.below(h:nQ w a l)(k:Below w.heap.size w w'):nQ w' a l:=kY.below h k
theorem sZ(h:w.ownsRow B 3 1 (.slice a n c) n (cY l))(hl:l.length=n):nQ w a l:=by
 have e:cY l=ints (l.map fun x=>((x:Nat):Int)):=by simp[cY,ints]
 rw[e] at h;have h2:=PX h (by simpa using hl);unfold nQ;rw[hl];intro h0;obtain⟨g,off,e1,e2,hc⟩:=h2 h0;refine⟨g,off,e1,e2,fun j hj=>?_⟩;rw[hc j hj];have:j<l.length:=by omega
 simp[getD_eq_getElem?_getD,this]
theorem Tg(n:Nat)(l:List Nat)(a:Option Addr)(q c:Nat)(hq:l.length=q)(hq2:q<=1000000)(hn:n<=1000000)(hl:∀x∈l,x<n)(w:World)(hL:nQ w a l):
  Calls prog 94 #[.int .i64 (n:Int),.slice a q c] w (DV n (fun x=>x∈l) w):=by
 have fJ:=QN n (by omega);have HL:=ξ hL hq hl;have HO:=hid (OB.made w n (by unfold maxLen;omega));clear hL hq hl;go_in;go_wp2_with fail;obtain⟨g,hg⟩:∃g,w.heap.size=g:=⟨_,rfl⟩
 have kz:Hid (∀W1,(w.alloc (.cells (madeCells #[.bool false] n) 4))=W1->OB w g n (fun _=>false) W1):=fun W1 h=>by rw[<-h,<-hg];exact HO.out
 rw[hg];generalize p8:w.alloc (.cells (madeCells #[.bool false] n) 4)=W1;have HO:=hid (kz.out W1 p8);have HOl:=hid (fun (wr:World) (h:OB w g n (fun _=>false) wr)=>h);have HLW:=hid (fun (wr:World) (hb:Below w.heap.size w wr)=>HL.out.1.below hb);clear kz hg p8;go_loopw [7,12] (fun _ v wr=>∃(k:Nat) (f:Nat->Bool),v=.int .i64 k/\k<=q/\Hid (OB w g n f wr/\∀x,f x=true↔x∈l.take k)) (fun _ v _=>q-(intOf v).toNat)
 ·exact⟨0,_,rfl,by omega,⟨HO.out,fun x=>by simp⟩⟩
 clear HO;obtain⟨k,f,rfl,hk,HX⟩:=hrel;by_cases aq:k<q
 ·have hkl:k<l.length:=by rw[HL.out.2.1];exact aq
  obtain⟨gL,oL,rfl,_,c0⟩:=HLW.out wr HX.out.1.aP (by omega);have c1:=c0 k hkl;have hx:l.getD k 0=l[k]:=by simp[getD_eq_getElem?_getD,hkl]
  have ix:=HL.out.2.2 l[k] (getElem_mem hkl);dsimp only at c1;rw[hx] at c1;have HS:Hid (∀x,(if x=l[k] then true else f x)=true↔x∈l.take (k+1)):=fun x=>by
   rw[List.take_succ_eq_append_getElem hkl,mem_append,mem_singleton];by_cases e:x=l[k]
   ·rw[if_pos e];simp[e]
   rw[if_neg e,HX.out.2];simp[e]
  clear c0 hx;generalize l[k]=t at c1 ix HS;obtain⟨y0,y1⟩:=HX.out.1.cell t ix;have HA:=hid (HX.out.1.put t ix true);have i1:(k:Int)<q:=by omega
  have i2:(t:Int)<n:=by omega
  go_wp2;go_roundw
  ·exact⟨k+1,_,by go_num,by omega,⟨HA.out,HS.out⟩⟩
  simp[intOf];omega
 obtain rfl:k=q:=by omega
 have HZ:Hid (DV n (fun x=>x∈l) w (.returned (.slice (some ⟨g,0,none⟩) n n)) wr):=
  ⟨f,_,_,rfl,HX.out.1.own,fun x _=>by rw[HX.out.2,List.take_of_length_le (by rw[HL.out.2.1];exact le_refl _)],HX.out.1.aP⟩
 go_wp2;go_ret;exact HZ.out
def RH(q:Nat)(z:Nat->Int)(w:World)(e:Ending)(w':World):Prop:=
 ∃(a:Option Addr) (c:Nat),e=.returned (.slice a q c)/\w'.ownsRow w.heap.size 3 1 (.slice a q c) q (ints ((range q).map z))/\Below w.heap.size w w'
theorem X4{z:Nat->Int}{g o:Nat}(hc:∀j,j<q->w.cell? ⟨g,o+j,none⟩=some (.int .i64 (z j))):∀j u,(ints ((range q).map z))[j]?=some u->w.cell? ((⟨g,o,none⟩:Addr).add j)=some u:=by
 intro j u hj;have hl:j<q:=by
  have:=(List.getElem?_eq_some_iff.1 hj).1;simpa [ints] using this
 have e:(⟨g,o,none⟩:Addr).add j=⟨g,o+j,none⟩:=by unfold Addr.add;split <;> simp_all
 rw[e,hc j hl];simp[ints,hl] at hj;rw[hj]
theorem WV(a:Option Addr)(n c:Nat)(W:World):(binOp .eql 27 (.slice a n c) (.slice none 0 0)).run prog W=.ok (.bool a.isNone) W:=by
 have h:=run_equal_slice_nil W 27 3 a n c underlying27;unfold binOp;simp only[run_bind,h,andThen_ok,run_pure]
theorem Mw(q c:Nat)(a:Option Addr)(z:Nat->Int)(hq:q<=1000000)(w:World)(hz:kY w a q z)(ha:a=none->q=0/\c=0)(hs:∀ad,a=some ad->ad.spot=none):
  Calls prog 76 #[.slice a q c] w (RH q z w):=by
 have HZ:=hid hz;obtain⟨iI,hI,se,sD,sx⟩:=info_parts aG;clear hz;go_in;rcases a with _|⟨g,o,sp⟩
 ·obtain⟨rfl,rfl⟩:=ha rfl;have he:(binOp .eql 27 (.slice none 0 0) (.slice none 0 0)).run prog w=.ok (.bool true) w:=WV none 0 0 w;have HF:Hid (RH 0 z w (.returned (.slice none 0 0)) w):=⟨none,0,rfl,World.ownsRow_nil _ _ _ _,Below.refl _ _⟩
  go_wp2;go_ret;exact HF.out
 obtain rfl:sp=none:=hs _ rfl;have he:(binOp .eql 27 (.slice (some ⟨g,o,none⟩) q c) (.slice none 0 0)).run prog w=.ok (.bool false) w:=WV _ q c w;have HN:Hid (∀W,Below w.heap.size w W->∀j u,(ints ((range q).map z))[j]?=some u->W.cell? ((⟨g,o,none⟩:Addr).add j)=some u):=fun W hb=>by
  rcases Nat.eq_zero_or_pos q with h0|h0
  ·subst h0;intro j u hj;simp[ints] at hj
  obtain⟨g',o',e,_,hc⟩:=(HZ.out.below hb) h0;injection e with e;injection e with e1 e2;subst e1 e2;exact X4 hc
 have az:=vJ w w.heap.size 3 1 #[] 0 rfl (le_refl _) (by decide);go_wp2_with (at_builtin;refine wpList_append_own_at _ rfl _ _ 27 rfl w.heap.size 3 iI (.int .i64 0) 1 8 underlying27 hI se sD sx rfl (by decide) _ _ _ rfl az ⟨g,o,none⟩ q c (ints ((range q).map z)) rfl (by simp[ints]) (HN.out _ (al w _)) ?d2 ?d3 ?d4 ?d5 ?_)
 case d2=>
  intro u hu;simp[ints] at hu;obtain⟨x,_,rfl⟩:=hu;rfl
 case d3=>unfold maxLen;omega
 case d4=>omega
 any_goals (first|(simp;done)|skip)
 intro v5 w5 ah ag _ bJ
 try rw[Nat.zero_add] at ah
 try rw[Array.toList_empty,List.nil_append] at ah
 obtain⟨a5,c5,rfl⟩:=bP ah;have HF:Hid (RH q z w (.returned (.slice a5 q c5)) w5):=⟨a5,c5,rfl,ah,fL (al w (.cells #[] 3)) az (by simp) ag⟩
 clear ah ag bJ;go_wp2;go_ret;exact HF.out
def av(len:Nat->Nat)(nx:Nat->Nat->Int)(i:Nat):List Int:=(range (len i)).map (nx i)
def VG(rows:Nat->List Int)(l0:List Nat)(n:Nat)(w:World)(e:Ending)(w':World):Prop:=
 ∃(l:List Nat) (i:Nat) (a:Option Addr) (c:Nat),e=.returned (.slice a i c)/\w'.ownsRow w.heap.size 3 1 (.slice a i c) i (cY l)/\l=dw rows l0 i/\l.length=i/\i<=n/\(∀x∈l,x<n)/\Below w.heap.size w w'
theorem zmJ(nx:Nat->Nat->Int)(x c:Nat)(m:List Nat):iF m ((range (c+1)).map (nx x))=jo (iF m ((range c).map (nx x))) (nx x c):=by
 rw[range_succ,map_append,List.map_singleton,zmH]
theorem RZ(n cL:Nat)(aL:Option Addr)(A:Nat->Option Addr)(Cp len:Nat->Nat)(nx:Nat->Nat->Int)(l0:List Nat)(aF:Option Addr)(q cF:Nat)(hn:n<=100000)(hlen:∀i,i<n->len i<=100000)(yQ:∀i c,i<n->c<len i->-1<=nx i c/\nx i c<(n:Int))
  (hq:l0.length=q) (jC:l0.Nodup) (kB:∀x∈l0,x<n) (w:World) (hR:qp w aL n A Cp len nx) (hF:nQ w aF l0) (ha:aF=none->q=0/\cF=0) (hs:∀ad,aF=some ad->ad.spot=none):
  Calls prog 72 #[.slice aL n cL,.slice aF q cF] w (VG (av len nx) l0 n w):=by
 have FJ:q<=n:=by rw[<-hq];exact qw jC kB
 have HX:=hid (Zz hlen (Zz yQ (Zz hq (Zz jC (Zz kB (Zz hR hF))))));have pP:=hid (Mw q cF aF (fun i=>((l0.getD i 0:Nat):Int)) (by omega) w (by rw[<-hq];exact hF) ha hs);obtain⟨iI,hI,se,sD,sx⟩:=info_parts aG;clear hlen yQ hq jC kB hR hF ha hs;go_in;go_wp2_with fail;refine pP.out.mono ?_;rintro e w1 ⟨a1,c1,rfl,az,b1⟩;have Ao:ints ((range q).map (fun i=>((l0.getD i 0:Nat):Int)))=cY l0:=by
  apply List.ext_getElem?;intro j;have hq:=HX.out.2.2.1;by_cases h:j<q
  ·have h2:j<l0.length:=(by omega);simp[ints,cY,h,h2,getD_eq_getElem?_getD]
  have h2:¬j<l0.length:=by omega
  simp[ints,cY,h,h2]
 rw[Ao] at az;have tF:=ζ az b1;have Xb:=hid (Tg n l0 a1 q c1 HX.out.2.2.1 (by omega) (by omega) HX.out.2.2.2.2.1 w1 (sZ az HX.out.2.2.1));clear az b1 Ao pP;go_wp2_with fail;refine Xb.out.mono ?_;rintro e w2 ⟨f,a2,c2,rfl,fa,hf,b2⟩;have fB:∃g,(Value.slice a2 n c2)=.slice (some ⟨g,0,none⟩) n c2\/n=0:=by
  rcases Nat.eq_zero_or_pos n with h|h
  ·exact⟨0,inr h⟩
  obtain⟨g,e,_⟩:=eC fa h;exact⟨g,inl (by rw[e])⟩
 have cv:fG f n=fG (fun x=>decide (x∈l0)) n:=UX fun j hj=>by rw[Bool.eq_iff_iff,hf j hj,decide_eq_true_iff]
 rw[cv] at fa;have kz:Hid (w2.ownsRow w.heap.size 3 1 (.slice a1 q c1) q (cY l0)/\w2.ownsRow w.heap.size 4 1 (.slice a2 n c2) n (fG (fun x=>decide (x∈l0)) n)/\Below w.heap.size w w2):=⟨db tF.out.1 b2,gn fa tF.out.2.size,tF.out.2.trans (b2.mono tF.out.2.size)⟩
 clear fa hf b2 cv Xb tF;go_wp2;go_loopw [5,7,9,30] (fun v5 v7 _ _ wr=>∃(i p:Nat) (l:List Nat) (a:Option Addr) (c:Nat),v7=.int .i64 i/\i<=p/\p<=n/\v5=.slice a p c/\Hid (l=dw (av len nx) l0 i/\l.length=p/\l.Nodup/\(∀x∈l,x<n)/\wr.ownsRow w.heap.size 3 1 (.slice a p c) p (cY l)/\wr.ownsRow w.heap.size 4 1 (.slice a2 n c2) n (fG (fun x=>decide (x∈l)) n)/\Below w.heap.size w wr)) (fun _ v _ _ _=>n-(intOf v).toNat)
 ·exact⟨0,q,l0,a1,c1,rfl,by omega,FJ,rfl,⟨rfl,HX.out.2.2.1,HX.out.2.2.2.1,HX.out.2.2.2.2.1,kz.out.1,kz.out.2.1,kz.out.2.2⟩⟩
 clear kz;obtain⟨i,p,l,a,c,rfl,hip,AI,rfl,HL⟩:=hrel;by_cases aq:i<p
 ·have lI:i<l.length:=by rw[HL.out.2.1];exact aq
  obtain⟨gM,rfl,_,_,cM⟩:=eC HL.out.2.2.2.2.1 (by omega);have d0:=(cM i (by omega)).1;rw[BW l i lI] at d0;have ix:=HL.out.2.2.2.1 l[i] (getElem_mem lI);have Jo:Hid (dw (av len nx) l0 (i+1)=iF l (av len nx l[i])):=by
   show pE _ (dw _ _ i) i=_;rw[<-HL.out.1];unfold pE;rw[if_pos lI];simp[getD_eq_getElem?_getD,lI]
  clear cM;generalize l[i]=x at d0 ix Jo;obtain⟨g2,yR⟩:=fB;obtain rfl:a2=some ⟨g2,0,none⟩:=by
   rcases yR with h|h
   ·injection h
   omega
  clear yR;have xn:=HX.out.1 x ix;obtain⟨gL,oL,eL,_,Bq⟩:=(HX.out.2.2.2.2.2.1.below HL.out.2.2.2.2.2.2) (by omega);obtain⟨d1,zx⟩:=Bq x ix;have Jn:Hid (kY w (A x) (len x) (nx x)):=by
   obtain⟨_,_,_,_,cLw⟩:=HX.out.2.2.2.2.2.1 (by omega);exact (cLw x ix).2
  have LM:=hid (fun c hc=>HX.out.2.1 x c ix hc);have HeL:=hid eL;rw[eL];have i1:(i:Int)<p:=by omega
  have i2:(x:Int)<n:=by omega
  clear Bq zx eL;obtain⟨m,hm⟩:∃m,len x=m:=⟨_,rfl⟩
  have Hm:=hid hm;rw[hm] at d1 xn Jn;generalize A x=ax at d1 Jn;generalize Cp x=cx at d1;clear hm;go_wp2_with fail;obtain⟨W9,rfl⟩:∃W9,W9=wr:=⟨wr,rfl⟩
  clear d0 d1;go_loopw [5,9,30] (fun v5 _ v30 wq=>∃(k p2:Nat) (l2:List Nat) (a:Option Addr) (c:Nat),v30=.int .i64 k/\k<=m/\p<=p2/\p2<=n/\v5=.slice a p2 c/\Hid (l2=iF l ((range k).map (nx x))/\l2.length=p2/\l2.Nodup/\(∀x∈l2,x<n)/\wq.ownsRow w.heap.size 3 1 (.slice a p2 c) p2 (cY l2)/\wq.ownsRow w.heap.size 4 1 (.slice (some ⟨g2,0,none⟩) n c2) n (fG (fun x=>decide (x∈l2)) n)/\Below w.heap.size w wq)) (fun _ _ v _=>m-(intOf v).toNat)
  ·exact⟨0,p,l,_,c,rfl,by omega,by omega,AI,rfl,⟨rfl,HL.out.2.1,HL.out.2.2.1,HL.out.2.2.2.1,HL.out.2.2.2.2.1,HL.out.2.2.2.2.2.1,HL.out.2.2.2.2.2.2⟩⟩
  obtain⟨k,p2,l2,a,c,rfl,hk,hpp,fO,rfl,HK⟩:=hrel;by_cases dE:k<m
  ·obtain⟨gA,oA,eA,_,lH⟩:=(Jn.out.below HK.out.2.2.2.2.2.2) (by omega);have cA:=lH k dE;have hb:=LM.out k (by rw[Hm.out];exact dE);have HS:=hid (zmJ nx x k l);rw[eA];have GJ:=hid eA;have i3:(k:Int)<m:=(by omega);clear lH eA;generalize nx x k=t at cA hb HS;by_cases ht:t=-1
   ·subst ht;have HZ:Hid (l2=iF l ((range (k+1)).map (nx x))):=by
     show _=_;rw[HS.out,<-HK.out.1];unfold jo;rw[if_neg (by omega)]
    go_wp2;go_roundw
    ·exact⟨k+1,p2,l2,a,c,by go_num,by omega,by omega,by omega,rfl,⟨HZ.out,HK.out.2⟩⟩
    simp[intOf];omega
   obtain⟨u,rfl⟩:∃u:Nat,t=(u:Int):=(⟨t.toNat,by omega⟩);have hu:u<n:=(by omega);have i4:(u:Int)<n:=(by omega);have Io:((u:Int) != (-1:Int))=true:=(by first|(simp;done)|(simp;omega));obtain⟨gS,eS,wW,_,cS⟩:=eC HK.out.2.2.2.2.2.1 (by omega);obtain rfl:gS=g2:=by
    injection eS with eS;injection eS with eS _;exact eS.symm
   have y0:=(cS u (by omega)).1;have y1:=(cS u (by omega)).2;have y2:(fG (fun x=>decide (x∈l2)) n)[u]?=some (.bool (decide (u∈l2))):=(by simp[fG,hu]);rw[y2] at y0;clear cS y2 eS ht;by_cases nJ:u∈l2
   ·have hd:decide (u∈l2)=true:=(by simp[nJ]);rw[hd] at y0;have HZ:Hid (l2=iF l ((range (k+1)).map (nx x))):=by
     show _=_;rw[HS.out,<-HK.out.1];unfold jo;rw[if_neg (by simp[nJ])]
    clear hd nJ;go_wp2;go_roundw
    ·exact⟨k+1,p2,l2,a,c,by go_num,by omega,by omega,by omega,rfl,⟨HZ.out,HK.out.2⟩⟩
    simp[intOf];omega
   have hd:decide (u∈l2)=false:=(by simp[nJ]);rw[hd] at y0;have HZ:Hid (l2++[u]=iF l ((range (k+1)).map (nx x))):=by
    show _=_;rw[HS.out,<-HK.out.1];unfold jo;rw[if_pos ⟨by omega,by simpa using nJ⟩];simp
   have HN:Hid ((l2++[u]).Nodup/\∀x∈l2++[u],x<n):=by
    refine⟨?_,fun y hy=>?_⟩
    ·rw[List.nodup_append];exact⟨HK.out.2.2.1,by simp,fun a ha b cv e=>by
      rw[List.mem_singleton.1 cv] at e
      rw[e] at ha
      exact nJ ha⟩
    rcases List.mem_append.1 hy with h|h
    ·exact HK.out.2.2.2.1 y h
    rw[List.mem_singleton.1 h];exact hu
   have hpn3:p2+1<=n:=by
    have:=qw HN.out.1 HN.out.2;simp[HK.out.2.1] at this;exact this
   have HT:Hid ((wr.setCell ⟨gS,u,none⟩ (.bool true)).ownsRow w.heap.size 3 1 (.slice a p2 c) p2 (cY l2)/\(wr.setCell ⟨gS,u,none⟩ (.bool true)).ownsRow w.heap.size 4 1 (.slice (some ⟨gS,0,none⟩) n c2) n (fG (fun x=>decide (x∈l2++[u])) n)/\Below w.heap.size w (wr.setCell ⟨gS,u,none⟩ (.bool true))):=by
    have h1:=HK.out.2.2.2.2.1;have h2:=HK.out.2.2.2.2.2.1;refine⟨fI (ts:=[]) (bs:=[gS]) h1 ((Kept.refl _ _ _).setCell _ _ (inl (by simp))) (by simp) (fun b e hm=>iB h1 h2 (by decide) b e (by simp[List.mem_singleton.1 hm,Value.ownBlock])),?_,HK.out.2.2.2.2.2.2.setCell (p:=⟨gS,u,none⟩) wW _⟩;have h3:=uj h2 u hu (.bool true);rw[RI] at h3;have e:fG (fun x=>decide (x∈l2++[u])) n=fG (fun i=>if i=u then true else decide (i∈l2)) n:=UX fun j hj=>by
     by_cases e:j=u
     ·simp[e]
     simp[e]
    rw[e];exact h3
   clear hd nJ;go_upto_region 11 with fail;generalize wr.setCell ⟨gS,u,none⟩ (.bool true)=W5 at HT⊢;have hO:=HT.out.1;clear y0 y1;go_wp2_with (at_builtin;refine wpList_append_own_at _ rfl _ _ 27 rfl w.heap.size 3 iI (.int .i64 0) 1 8 underlying27 hI se sD sx rfl (by decide) _ _ _ rfl (hO.alloc _) ⟨W5.heap.size,0,none⟩ 1 1 [.int .i64 (u:Int)] rfl rfl (cell_one_new _ _ _) ?d2 ?d3 ?d4 ?d5 ?_)
   case d2=>first|(intro u hu;simp at hu;subst hu;rfl)|rfl
   case d3=>unfold maxLen;omega
   case d4=>omega
   case d5=>have:=HT.out.2.2.size;simp at this⊢;omega
   intro v5 w5 ah ag _ bJ;obtain⟨a5,c5,rfl⟩:=bP ah;have kk:=al W5 (.cells #[.int .i64 (u:Int)] 3);have tH:=HT.out.2.2.size;have h2:=db HT.out.2.1 kk;have HY:Hid (w5.ownsRow w.heap.size 3 1 (.slice a5 (p2+1) c5) (p2+1) (cY (l2++[u]))/\w5.ownsRow w.heap.size 4 1 (.slice (some ⟨gS,0,none⟩) n c2) n (fG (fun x=>decide (x∈l2++[u])) n)/\Below w.heap.size w w5):=by
    refine⟨by rw[xG];exact ah,rF h2 ag (fun b e e2=>iB h2 (hO.alloc _) (by decide) b e e2.symm),fL (HT.out.2.2.trans (kk.mono tH)) (hO.alloc _) (le_trans tH kk.size) ag⟩
   clear ah ag bJ hO kk h2;go_wp2;go_roundw
   ·exact⟨k+1,p2+1,l2++[u],a5,c5,by go_num,by omega,by omega,by omega,rfl,⟨HZ.out,by rw[length_append,HK.out.2.1];rfl,HN.out.1,HN.out.2,HY.out.1,HY.out.2.1,HY.out.2.2⟩⟩
   simp[intOf];omega
  obtain rfl:k=m:=by omega
  have HZ:Hid (l2=dw (av len nx) l0 (i+1)):=by
   show _=_;rw[Jo.out,HK.out.1];unfold av;rw[Hm.out]
  go_wp2;go_roundw
  ·exact⟨i+1,p2,l2,a,c,by go_num,by omega,fO,rfl,⟨HZ.out,HK.out.2⟩⟩
  simp[intOf];omega
 obtain rfl:i=p:=by omega
 have HF:Hid (VG (av len nx) l0 n w (.returned (.slice a i c)) wr):=⟨l,i,a,c,rfl,HL.out.2.2.2.2.1,HL.out.1,HL.out.2.1,AI,HL.out.2.2.2.1,HL.out.2.2.2.2.2.2⟩
 go_wp2;go_ret;exact HF.out
theorem zhh(l:List Nat)(s q c:Nat)(a:Option Addr)(hq:l.length=q)(hq2:q<=1000000)(w:World)(hL:nQ w a l):
  Calls prog 139 #[.slice a q c,.int .i64 (s:Int)] w (tz (l.getLast?=some s) w):=by
 have HL:=ζ hL hq;clear hL hq;go_in;rcases q with _|q
 ·have HZ:Hid (l.getLast?≠some s):=by
   show ¬_=_;rw[List.eq_nil_of_length_eq_zero HL.out.2];intro h;cases h
  go_wp2;go_ret;exact⟨false,rfl,⟨(fun h=>by cases h),(fun h=>absurd h HZ.out)⟩,Below.refl _ _⟩
 have hne:l.length=q+1:=HL.out.2;obtain⟨g,o,rfl,_,c0⟩:=HL.out.1 (by omega);have c1:=c0 q (by omega);have gy:l.getLast?=some (l.getD q 0):=by
  rw[List.getLast?_eq_getElem?,hne];have:q<l.length:=by omega
  simp[getD_eq_getElem?_getD,this]
 have HS:Hid (l.getLast?=some s↔l.getD q 0=s):=by
  show _↔_;rw[gy];simp
 clear c0 gy hne;dsimp only at c1;generalize l.getD q 0=t at c1 HS;have i1:((q:Int)+1)-1=(q:Int):=by omega
 have i2:(0:Int)<q+1:=by omega
 have i3:(q:Int)<q+1:=by omega
 by_cases e:t=s
 ·subst e;have HZ:=hid (HS.out.2 rfl);go_wp2_with fail
  try go_quiet (fail)
  try go_wp2
  go_ret;exact⟨true,rfl,⟨(fun _=>HZ.out),(fun _=>rfl)⟩,by first|exact Below.refl _ _|exact (Below.refl _ _).drew⟩
 have HZ:Hid (¬l.getLast?=some s):=fun h=>e (HS.out.1 h)
 have i4:((t:Int) == (s:Int))=false:=by simp;omega
 go_wp2_with fail
 try go_quiet (fail)
 try go_wp2
 go_ret;exact⟨false,rfl,⟨(fun h=>by cases h),(fun h=>absurd h HZ.out)⟩,by first|exact Below.refl _ _|exact (Below.refl _ _).drew⟩
structure oq (D:Dd)(f c:Nat)(tg:Nat->List Nat):Prop where
 mem:∀t,t<D.n->∀x,x∈tg t↔(x<f/\Ed D x t)\/(x=f/\f<D.n/\∃c',c'<c/\D.nx f c'=(t:Int))
 inc:∀t,t<D.n->(tg t).Pairwise (·<·)
theorem zit(hp:l.Pairwise (·<·))(hle:∀x∈l,x<=f):l.getLast?=some f↔f∈l:=by
 constructor
 ·intro h;exact List.mem_of_getLast? h
 intro h;obtain⟨i,hi,e⟩:=List.getElem_of_mem h;have rR:i=l.length-1:=by
  refine Classical.byContradiction fun hne=>?_
  have h2:=(List.pairwise_iff_getElem.1 hp) i (i+1) hi (by omega) (by omega);have h3:=hle l[i+1] (getElem_mem (by omega));omega
 rw[List.getLast?_eq_getElem?];rw[<-rR,List.getElem?_eq_getElem hi,e]
theorem WO(hp:l.Pairwise (·<·))(aq:∀x∈l,x<n):l.length<=n:=
 qw (hp.imp fun h=>by omega) aq
theorem oq.start(D:Dd):oq D 0 0 (fun _=>[]):=⟨fun t ht x=>⟨fun h=>by simp at h,fun h=>by rcases h with h|⟨_,_,c',h,_⟩ <;> omega⟩,fun t ht=>List.Pairwise.nil⟩
theorem oq.le(h:oq D f c tg)(ht:t<D.n):∀x∈tg t,x<=f:=fun x hx=>by
 rcases (h.mem t ht x).1 hx with h1|h1
 ·omega
 ·omega
theorem oq.has(h:oq D f c tg)(ht:t<D.n):(tg t).getLast?=some f↔f∈tg t:=zit (h.inc t ht) (h.le ht)
theorem oq.skip(h:oq D f c tg)(hx:D.nx f c<0\/∃t:Nat,D.nx f c=(t:Int)/\t<D.n/\f∈tg t):oq D f (c+1) tg:=by
 refine⟨fun t ht x=>?_,h.inc⟩;rw[h.mem t ht];constructor
 ·rintro (h1|⟨h1,h2,c',h3,h4⟩)
  ·exact inl h1
  exact inr ⟨h1,h2,c',by omega,h4⟩
 rintro (h1|⟨h1,h2,c',h3,h4⟩)
 ·exact inl h1
 by_cases e:c'=c
 ·subst e;rcases hx with hx|⟨t',e',rZ,hm⟩
  ·omega
  have:t'=t:=by omega
  subst this;have:=(h.mem t' ht f).1 hm;subst h1;exact this
 exact inr ⟨h1,h2,c',by omega,h4⟩
theorem oq.put(h:oq D f c tg)(hf:f<D.n)(hx:D.nx f c=(t:Int))(ht:t<D.n)(hm:f∉tg t):oq D f (c+1) (fun j=>if j=t then tg t++[f] else tg j):=by
 refine⟨fun t' rZ x=>?_,fun t' rZ=>?_⟩
 ·by_cases e:t'=t
  ·subst e;show x∈(if t'=t' then tg t'++[f] else tg t')↔_;rw[if_pos rfl,mem_append,mem_singleton,h.mem t' rZ];constructor
   ·rintro ((h1|⟨h1,h2,c',h3,h4⟩)|h1)
    ·exact inl h1
    ·exact inr ⟨h1,h2,c',by omega,h4⟩
    exact inr ⟨h1,hf,c,by omega,hx⟩
   rintro (h1|⟨h1,h2,c',h3,h4⟩)
   ·exact inl (inl h1)
   exact inr h1
  simp only[if_neg e];rw[h.mem t' rZ];constructor
  ·rintro (h1|⟨h1,h2,c',h3,h4⟩)
   ·exact inl h1
   exact inr ⟨h1,h2,c',by omega,h4⟩
  rintro (h1|⟨h1,h2,c',h3,h4⟩)
  ·exact inl h1
  by_cases e2:c'=c
  ·subst e2;omega
  exact inr ⟨h1,h2,c',by omega,h4⟩
 by_cases e:t'=t
 ·subst e;show List.Pairwise _ (if t'=t' then tg t'++[f] else tg t');rw[if_pos rfl,List.pairwise_append];refine⟨h.inc t' rZ,by simp,fun a ha b hb=>?_⟩;rw[List.mem_singleton.1 hb];have h1:=h.le rZ a ha;have h2:a≠f:=fun e=>by rw[e] at ha;exact hm ha
  omega
 simp only[if_neg e];exact h.inc t' rZ
theorem oq.row{C:Nat}(h:oq D f c tg)(hf:f<D.n)(hc:D.len f=c):oq D (f+1) 0 tg:=by
 refine⟨fun t ht x=>?_,h.inc⟩;rw[h.mem t ht];constructor
 ·rintro (h1|⟨h1,h2,c',h3,h4⟩)
  ·exact inl ⟨by omega,h1.2⟩
  subst h1;exact inl ⟨by omega,hf,c',by omega,h4⟩
 rintro (⟨h1,h2⟩|⟨_,_,c',h3,_⟩)
 ·by_cases e:x=f
  ·subst e;obtain⟨_,c',h3,h4⟩:=h2;exact inr ⟨rfl,hf,c',by omega,h4⟩
  exact inl ⟨by omega,h2⟩
 omega
def Zl(D:Dd)(w:World)(e:Ending)(w':World):Prop:=
 ∃(g:Nat) (A:Nat->Option Addr) (Cp:Nat->Nat) (tg:Nat->List Nat),e=.returned (.slice (some ⟨g,0,none⟩) D.n D.n)/\qp w' (some ⟨g,0,none⟩) D.n A Cp (fun i=>(tg i).length) (fun i c=>(((tg i).getD c 0:Nat):Int))/\oq D D.n 0 tg/\Below w.heap.size w w'
theorem iO.zs{w3 wq:World}{gT:Nat}{vs:Nat->Value}(h:iO w3 B gT C vs tg wq):qp wq (some ⟨gT,0,none⟩) C (fun i=>vw (vs i)) (fun i=>xq (vs i)) (fun i=>(tg i).length) (fun i c=>(((tg i).getD c 0:Nat):Int)):=by
 intro h0;have aq:gT<wq.heap.size:=by
  have:=(h.iP.cell 0 h0).1;by_cases hb:gT<wq.heap.size
  ·exact hb
  simp[World.cell?,Array.getElem?_eq_none (by omega:wq.heap.size<=gT)] at this
 refine⟨gT,0,rfl,aq,fun i hi=>?_⟩;obtain⟨ai,ci,e⟩:=bP (h.iP.2.1 i hi);have hr:=h.iP.2.1 i hi;refine⟨?_,?_⟩
 ·rw[Nat.zero_add,(h.iP.cell i hi).1];simp[e,vw,xq]
 show kY wq (vw (vs i)) _ _;rw[e] at hr⊢;exact sZ hr rfl
theorem ziu(D:Dd)(C:Nat)(w:World)(hD:DM w D)(hR:DR D C):
  Calls prog 111 #[.agg D.cD] w (Zl D w):=by
 have fJ:=U3 D.n (by have:=hR.n2;omega);have cU:=hR.n2;have da:=hR.n1;have tq:=(hR.il hD.kl).2;have HB:=ξ (bg.new hD) (al w (.cells D.cD 29)) hR;obtain⟨iI,hI,se,sD,sx⟩:=info_parts aG;clear hD hR;go_in;go_upto_region 1 with fail;generalize w.alloc (.cells D.cD 29)=W0 at HB⊢;obtain⟨b0,ay⟩:∃b0,w.heap.size=b0:=⟨_,rfl⟩
 rw[ay] at HB;rw[ay];have bW:=hid ay;clear ay;have f1:=HB.out.1.f1;have rh:iO (W0.alloc (.cells (madeCells #[.slice none 0 0] D.n) 27)) W0.heap.size W0.heap.size D.n (fun _=>.slice none 0 0) (fun _=>[]) (W0.alloc (.cells (madeCells #[.slice none 0 0] D.n) 27)):=iO.made W0 W0.heap.size D.n _ (le_refl _) (Below.refl _ _);have j8:=hid rh;have qn:=hid (al W0 (.cells (madeCells #[.slice none 0 0] D.n) 27));clear rh;go_upto_region 2 with fail;obtain⟨gT,A3⟩:∃gT,W0.heap.size=gT:=⟨_,rfl⟩
 have Uc:=hid A3;rw[A3] at j8;rw[A3];generalize W0.alloc (.cells (madeCells #[.slice none 0 0] D.n) 27)=W1 at j8 qn⊢;clear A3 f1;have Il:=hid (HB.out.1.ab qn.out);have f1:=Il.out.f1;obtain⟨gN,oN,eN,ky,pO⟩:=Il.out.dm.rN (by omega);rw[eN] at f1;have vZ:=hid eN;have sw:=hid pO;clear eN pO;go_wp2_with fail;clear f1;go_loopw [4,5,7,15,22] (fun _ _ _ v _ wr=>∃(f:Nat) (vs:Nat->Value) (tg:Nat->List Nat),v=.int .i64 f/\f<=D.n/\Hid (iO W1 gT gT D.n vs tg wr/\oq D f 0 tg)) (fun _ _ _ v _ _=>D.n-(intOf v).toNat)
 ·exact⟨0,_,_,rfl,by omega,⟨j8.out,oq.start D⟩⟩
 clear j8;obtain⟨f,vs,tg,rfl,hf,HX⟩:=hrel;by_cases aq:f<D.n
 ·have eQ:gN<gT:=by
   obtain⟨g,o,e,hg,_⟩:=HB.out.1.dm.rN (by omega);rw[vZ.out] at e;injection e with e;injection e with e _;rw[Uc.out] at hg;omega
  have cN:=(HX.out.1.below.cell (p:=⟨gN,oN+f,none⟩) eQ).trans (sw.out f aq).1;have vG:Hid (kY W0 (D.A f) (D.len f) (D.nx f)):=by
   obtain⟨_,_,_,_,c9⟩:=HB.out.1.dm.rN (by omega);exact (c9 f aq).2
  have hlen:=HB.out.2.2.len f aq;rw[hlen] at cN;rw[hlen] at vG;have yD:=hid hlen;have i1:(f:Int)<(D.n:Int):=by omega
  try dsimp only at cN
  clear hlen eQ;go_wp2_with fail;clear cN;go_loopw [7,22] (fun _ v wr=>∃(c:Nat) (vs:Nat->Value) (tg:Nat->List Nat),v=.int .i64 c/\c<=C/\Hid (iO W1 gT gT D.n vs tg wr/\oq D f c tg)) (fun _ v _=>C-(intOf v).toNat)
  ·exact⟨0,vs,tg,rfl,by omega,HX⟩
  clear HX;obtain⟨c,vs,tg,rfl,hc,HX⟩:=hrel;have Mj:Hid (Below W0.heap.size W0 wr):=by
   have h:=HX.out.1.below;rw[<-Uc.out] at h;exact qn.out.trans h
  by_cases lT:c<C
  ·obtain⟨gA,oA,eA,_,lH⟩:=(vG.out.below Mj.out) (by omega);have cA:=lH c lT;have hb:=HB.out.2.2.nx f c aq lT;have wI:=hid (fun h=>HX.out.2.skip h);have HPu:=hid (fun (t:Nat) h1 h2 h3=>HX.out.2.put (t:=t) aq h1 h2 h3);have i2:(c:Int)<C:=(by omega);rw[eA];have GJ:=hid eA;clear lH eA;generalize D.nx f c=t at cA hb wI HPu;by_cases ht:t=-1
   ·subst ht;have HZ:=hid (wI.out (inl (by omega)));go_wp2;go_roundw
    ·exact⟨c+1,vs,tg,by go_num,by omega,⟨HX.out.1,HZ.out⟩⟩
    simp[intOf];omega
   obtain⟨u,rfl⟩:∃u:Nat,t=(u:Int):=(⟨t.toNat,by omega⟩);have hu:u<D.n:=(by omega);have i3:(u:Int)<(D.n:Int):=(by omega);have Io:((u:Int) != (-1:Int))=true:=(by first|(simp;done)|(simp;omega));obtain⟨y0,y1⟩:=HX.out.1.iP.cell u hu;have O2:=HX.out.1.iP.2.1 u hu;obtain⟨au,cu,Mz⟩:=bP O2;have uu:(tg u).length<=D.n:=WO (HX.out.2.inc u hu) (fun x hx=>by have:=HX.out.2.le hu x hx;omega);rw[Mz] at y0;have Ce:=O2;rw[Mz] at Ce;have FK:=hid (zhh (tg u) f (tg u).length cu au rfl (by omega) wr (sZ Ce rfl));have JM:=hid Mz;clear O2 Ce Mz ht;obtain⟨q,hq⟩:∃q,(tg u).length=q:=(⟨_,rfl⟩);have Hq:=hid hq;dsimp only at y0;rw[hq] at y0 FK uu;clear hq;go_wp2_with fail;refine FK.out.mono ?_;rintro e w5 ⟨b,rfl,mW,k5⟩;have FI:=hid (HX.out.1.ab k5);have Z9:Hid (b=true↔f∈tg u):=by
    show _↔_;rw[mW,HX.out.2.has hu]
   clear mW k5 FK y0 y1;rcases b with _|_
   ·have HN:Hid (f∉tg u):=(fun h=>by have:=Z9.out.2 h;cases this);have HZ:=hid (HPu.out u rfl hu HN.out);obtain⟨y0,y1⟩:=FI.out.iP.cell u hu;rw[JM.out] at y0;have hO:=FI.out.iP.2.1 u hu;dsimp only at hO y0;rw[JM.out,Hq.out] at hO;rw[Hq.out] at y0;go_wp2_with (at_builtin;refine wpList_append_own_at _ rfl _ _ 27 rfl W1.heap.size 3 iI (.int .i64 0) 1 8 underlying27 hI se sD sx rfl (by decide) _ _ _ rfl (hO.alloc _) ⟨w5.heap.size,0,none⟩ 1 1 [.int .i64 (f:Int)] rfl rfl (cell_one_new _ _ _) ?d2 ?d3 ?d4 ?d5 ?_)
    case d2=>first|(intro u hu;simp at hu;subst hu;rfl)|rfl
    case d3=>unfold maxLen;omega
    case d4=>omega
    case d5=>have:=FI.out.below.size;simp;omega
    intro v6 w6 aj af _ dg;have kk:=al w5 (.cells #[.int .i64 (f:Int)] 3);have p7:=hid ((FI.out.ab kk).app hu Hq.out (v':=v6) (t:=f) (by exact aj) (by rw[JM.out,Hq.out];exact af) (fun b e=>by
     rcases dg with h|h
     ·rw[h] at e
      refine inl ?_
      rw[JM.out,Hq.out]
      exact e
     ·rw[h] at e
      refine inr ?_
      simp at e
      simp
      omega))
    obtain⟨a6,c6,rfl⟩:=bP aj;have gQ:=af;obtain⟨z0,z1⟩:w6.cell? ⟨gT,u,none⟩=some (vs u)/\w6.frozen? ⟨gT,u,none⟩=false:=by
     have ov:=(FI.out.ab kk).iP;have hs:=ov.1.ae (ov.2.1 u hu) (by decide) (by rw[JM.out,Hq.out];exact gQ);exact⟨by rw[hs.at_];simp[hu],hs.bb u⟩
    clear aj af dg hO kk gQ y0 y1;go_wp2;go_roundw
    ·exact⟨c+1,_,_,by go_num,by omega,⟨p7.out,HZ.out⟩⟩
    simp[intOf];omega
   have HZ:=hid (wI.out (inr ⟨u,rfl,hu,Z9.out.1 rfl⟩));go_wp2;go_roundw
   ·exact⟨c+1,vs,tg,by go_num,by omega,⟨FI.out,HZ.out⟩⟩
   simp[intOf];omega
  obtain rfl:c=C:=by omega
  have HZ:=hid (HX.out.2.row (C:=c) aq yD.out);go_wp2;go_roundw
  ·exact⟨f+1,vs,tg,by go_num,by omega,⟨HX.out.1,HZ.out⟩⟩
  simp[intOf];omega
 obtain rfl:f=D.n:=by omega
 have HF:Hid (Zl D w (.returned (.slice (some ⟨gT,0,none⟩) D.n D.n)) wr):=by
  refine⟨gT,_,_,tg,rfl,HX.out.1.zs,HX.out.2,?_⟩;have h:=HX.out.1.below;rw[<-Uc.out] at h;have h0:=HB.out.2.1;rw[<-bW.out] at h0;exact h0.trans ((qn.out.trans h).mono h0.size)
 go_wp2;go_ret;exact HF.out
theorem zrl{s:Nat}(hR:DR D C)(hs:s<D.n)(x:Nat):jI (WE (av D.len D.nx)) (fun y=>y∈[s]) x↔jI (Ed D) (fun y=>y=s) x:=by
 have mem:∀x y,WE (av D.len D.nx) x y↔∃c,c<D.len x/\D.nx x c=(y:Int):=fun x y=>by
  unfold WE av;simp
 constructor
 ·intro h;have:jI (Ed D) (fun y=>y=s) x/\x<D.n:=by
   induction h with
   | base h=>
    have e:=List.mem_singleton.1 h;subst e;exact⟨.base rfl,hs⟩
   | step _ e ih=>
    have h2:Ed D _ _:=(⟨ih.2,(mem _ _).1 e⟩);exact⟨.step ih.1 h2,hR.ed _ _ h2⟩
  exact this.1
 intro h
 induction h with
 | base h=>subst h;exact .base (by simp)
 | step _ e ih=>exact .step ih ((mem _ _).2 e.2)
theorem ziv(D:Dd)(C:Nat)(s:Int)(w:World)(hD:DM w D)(hR:DR D C):
  Calls prog 58 #[.agg D.cD,.int .i64 s] w (DV D.n (AP D s) w):=by
 have fJ:=QN D.n (by have:=hR.n2;omega);have cU:=hR.n2;have da:=hR.n1;have tq:=(hR.il hD.kl).2;have HB:=ξ (bg.new hD) (al w (.cells D.cD 29)) hR;clear hD hR;go_in;go_upto_region 1 with fail;generalize w.alloc (.cells D.cD 29)=W0 at HB⊢;obtain⟨b0,ay⟩:∃b0,w.heap.size=b0:=⟨_,rfl⟩
 rw[ay] at HB;rw[ay];have bW:=hid ay;have oV:b0<=W0.heap.size:=by have:=HB.out.2.1.size;omega
 clear ay;have rO:=hid (Fv D C HB.out.2.2 W0 HB.out.1.dm);go_wp2_with (refine js (by rfl) 29 _ rfl ⟨b0,0,none⟩ rfl D.cD _ HB.out.1.st.part underlying29 rfl HB.out.1.dm.info ?_);refine rO.out.mono ?_;rintro e w1 ⟨rfl,b1⟩;have H1:=ζ (HB.out.1.ab b1) (HB.out.2.1.trans (b1.mono oV));have eQ:b0<=w1.heap.size:=by have:=b1.size;omega
 have nb:=hid (Kc D s w1 H1.out.1.dm);clear b1 rO;go_wp2_with (refine js (by rfl) 29 _ rfl ⟨b0,0,none⟩ rfl D.cD _ H1.out.1.st.part underlying29 rfl H1.out.1.dm.info ?_);refine nb.out.mono ?_;rintro e w2 ⟨rfl,b2⟩;have H2:=ζ (H1.out.1.ab b2) (H1.out.2.trans (b2.mono eQ));have cv:b0<=w2.heap.size:=by have:=b2.size;omega
 have oY:Hid (∀W',Below w2.heap.size w2 W'->Below w.heap.size w W'):=fun W' h=>by
  rw[bW.out];exact H2.out.2.trans (h.mono cv)
 have Jm:Hid (w.heap.size<=w2.heap.size):=by show _<=_;rw[bW.out];exact cv
 have f1:=H2.out.1.f1;clear b2 nb;by_cases hs:0<=s/\s<(D.n:Int)
 rotate_left
 ·have HZ:Hid (decide (0<=s/\s<(D.n:Int))=false):=by show _=_;simp;omega
  have HO:=hid (OB.made w2 D.n (by unfold maxLen;omega));rw[HZ.out];have HF:Hid (DV D.n (AP D s) w (.returned (.slice (some ⟨w2.heap.size,0,none⟩) D.n D.n)) (w2.alloc (.cells (madeCells #[.bool false] D.n) 4))):=
   ⟨fun _=>false,_,_,rfl,gn HO.out.own Jm.out,fun x hx=>⟨(fun h=>by cases h),(fun h=>absurd ⟨h.1,h.2.1⟩ hs)⟩,oY.out _ HO.out.aP⟩
  clear HO;go_wp2;go_ret;exact HF.out
 obtain⟨t,rfl⟩:∃t:Nat,s=(t:Int):=⟨s.toNat,by omega⟩
 have ht:t<D.n:=by omega
 have HZ:Hid (decide (0<=(t:Int)/\(t:Int)<(D.n:Int))=true):=by show _=_;simp;omega
 rw[HZ.out];clear hs;have cZ:Hid (∀W',Below w2.heap.size w2 W'->Below w2.heap.size w2 W'/\bg W' b0 D/\W'.cell? ⟨b0,256,none⟩=some (.slice D.aN D.n D.cN)):=fun W' h=>⟨h,H2.out.1.ab h,(H2.out.1.ab h).f1⟩
 clear f1;go_upto_region 5 with fail;refine wp_region_held_drew (S:=fun W'=>Below w2.heap.size w2 W'/\bg W' b0 D/\W'.cell? ⟨b0,256,none⟩=some (.slice D.aN D.n D.cN)) (by kernel_rfl) (cZ.out _ (Below.refl _ _).drew) (fun η=>?_)
 (refine an 0 ?_;refine an 1 ?_;refine an 2 ?_;try simp only[put,sA];refine an 3 ?_;refine an 4 ?_;refine an 5 ?_;try simp only[put,sA])
 refine bc 6 (fun K hK=>?_);skip;go_simp;have kk:=al w2.drew (.cells #[.int .i64 (t:Int)] 3);have bz:Below w2.heap.size w2 ((w2.alloc (.cells #[.int .i64 (t:Int)] 3)).drew):=η.1.trans (kk.mono η.1.size);have HL6:Hid (nQ (w2.alloc (.cells #[.int .i64 (t:Int)] 3)).drew (some ⟨w2.heap.size,0,none⟩) [t]):=sZ (vJ w2.drew w2.drew.heap.size 3 1 #[.int .i64 (t:Int)] 1 rfl (le_refl _) (by decide)) rfl;clear kk;refine hK.out _ _ (cZ.out _ bz) fun η=>?_;generalize (w2.alloc (.cells #[.int .i64 (t:Int)] 3)).drew=W6 at HL6 η⊢;clear hK K bz
 try simp only[put,sA]
 refine bc 7 (fun K hK=>?_);skip;go_simp;go_at_call 72;refine (RZ D.n D.cN D.aN D.A D.Cp D.len D.nx [t] (some ⟨w2.heap.size,0,none⟩) 1 1 (by omega) (fun i hi=>by rw[HB.out.2.2.len i hi];omega) (fun i c hi hc=>HB.out.2.2.nx i c hi (by rw[<-HB.out.2.2.len i hi];exact hc)) rfl (by simp) (fun x hx=>by rw[List.mem_singleton.1 hx];exact ht) W6 η.2.1.dm.rN HL6.out (fun h=>by cases h) (fun ad h=>by injection h with h;rw[<-h])).mono ?_;rintro e w7 ⟨l,i,ad,c,rfl,Jd,yg,jD,nJ,gy,b7⟩;have bz:Below w2.heap.size w2 w7:=η.1.trans (b7.mono η.1.size);have zU:=ζ Jd bz;clear Jd b7
 try go_wp2_with fail
 refine hK.out _ _ (cZ.out _ bz) fun η=>?_;clear hK K bz
 try simp only[put,sA]
 refine bc 8 (fun K hK=>?_);skip;go_simp;go_at_call 94;refine (Tg D.n l ad i c jD (by omega) (by omega) gy _ (sZ zU.out.1 jD)).mono ?_;rintro e w8 ⟨f8,a8,c8,rfl,Ib,KW,b8⟩;have bz:Below w2.heap.size w2 w8:=zU.out.2.trans (b8.mono zU.out.2.size);have DX:=zU.out.2.size;have HF:Hid (DV D.n (AP D (t:Int)) w (.returned (.slice a8 D.n c8)) w8):=⟨f8,a8,c8,rfl,gn Ib (le_trans Jm.out DX),fun x hx=>by
  rw[KW x hx]
  show x∈l↔_
  rw[yg,OG _ _ (by rw[<-yg];exact jD),zrl HB.out.2.2 ht]
  exact⟨fun h=>⟨by omega,by omega,by simpa using h⟩,fun h=>by simpa using h.2.2⟩,oY.out _ bz⟩
 clear Ib KW b8
 try go_wp2_with fail
 refine hK.out _ _ (cZ.out _ bz) fun η=>?_;clear hK K bz
 try simp only[put,sA]
 (refine an 9 ?_;try simp only[put,sA])
 refine wpAnyH_done (by kernel_rfl) ?_ _;clear η;go_wp2;go_ret;exact HF.out
theorem zoy(h:w.ownsRow B 3 1 (.slice a q c) q xs)(ha:a=none):q=0/\c=0:=by
 subst ha;rcases h.2 with ⟨h1,h2⟩|⟨g,cap,cur,hv,_⟩
 ·injection h1 with _ h3 h4;exact⟨h3,h4⟩
 injection hv with h1 _ _;cases h1
theorem zoz{ad:Addr}(h:w.ownsRow B 3 1 (.slice a q c) q xs)(ha:a=some ad):ad.spot=none:=by
 subst ha;rcases h.2 with ⟨h1,h2⟩|⟨g,cap,cur,hv,_⟩
 ·injection h1 with h3 _ _;cases h3
 injection hv with h1 _ _;injection h1 with h1;rw[h1]
theorem zqp(h:oq D D.n 0 tg)(i:Nat)(hi:i<D.n):(tg i).length<=D.n:=WO (h.inc i hi) (fun x hx=>by
 rcases (h.mem i hi x).1 hx with h1|⟨_,_,c',h3,_⟩
 ·exact h1.1
 ·omega)
theorem zrc(h:oq D D.n 0 tg)(i c:Nat)(hi:i<D.n)(hc:c<(tg i).length):-1<=(((tg i).getD c 0:Nat):Int)/\(((tg i).getD c 0:Nat):Int)<(D.n:Int):=by
 have e:(tg i).getD c 0=(tg i)[c]:=by simp[getD_eq_getElem?_getD,hc]
 rw[e];rcases (h.mem i hi _).1 (getElem_mem hc) with h1|⟨_,_,c',h3,_⟩
 ·have:=h1.1;omega
 omega
theorem zqq(hR:DR D C)(h:oq D D.n 0 tg)(hl:∀x,x∈l↔x<D.n/\0<=D.q x)(x:Nat)(hx:x<D.n):jI (WE (av (fun i=>(tg i).length) (fun i c=>(((tg i).getD c 0:Nat):Int)))) (fun y=>y∈l) x↔wN D x:=by
 have mem:∀x y,WE (av (fun i=>(tg i).length) (fun i c=>(((tg i).getD c 0:Nat):Int))) x y↔y∈tg x:=fun x y=>by
  unfold WE av;constructor
  ·intro h;obtain⟨c,hc,e⟩:=List.mem_map.1 h;have fB:c<(tg x).length:=(by simpa using hc);have e2:(tg x).getD c 0=(tg x)[c]:=(by simp[getD_eq_getElem?_getD,fB]);have e1:(((tg x).getD c 0:Nat):Int)=(y:Int):=e;have e3:(tg x)[c]=y:=(by rw[<-e2];omega);rw[<-e3];exact getElem_mem fB
  intro h;obtain⟨c,hc,e⟩:=List.getElem_of_mem h;refine List.mem_map.2 ⟨c,by simpa using hc,?_⟩;simp[getD_eq_getElem?_getD,hc,e]
 have ed:∀x,x<D.n->∀y,y∈tg x↔Ed D y x:=fun x hx y=>by
  rw[h.mem x hx];constructor
  ·rintro (h1|⟨_,_,c',h3,_⟩)
   ·exact h1.2
   omega
  exact fun h1=>inl ⟨h1.1,h1⟩
 have e1:jI (WE (av (fun i=>(tg i).length) (fun i c=>(((tg i).getD c 0:Nat):Int)))) (fun y=>y∈l) x↔jI (fun a b=>Ed D b a) (fun y=>y<D.n/\0<=D.q y) x:=by
  constructor
  ·intro h;have:jI (fun a b=>Ed D b a) (fun y=>y<D.n/\0<=D.q y) x/\x<D.n:=by
    clear hx
    induction h with
    | base h=>exact⟨.base ((hl _).1 h),((hl _).1 h).1⟩
    | step _ e ih=>
     have h2:=(ed _ ih.2 _).1 ((mem _ _).1 e);exact⟨.step ih.1 h2,h2.1⟩
   exact this.1
  intro h;have:jI (WE (av (fun i=>(tg i).length) (fun i c=>(((tg i).getD c 0:Nat):Int)))) (fun y=>y∈l) x/\x<D.n:=by
   clear hx
   induction h with
   | base h=>exact⟨.base ((hl _).2 h),h.1⟩
   | step _ e ih=>exact⟨.step ih.1 ((mem _ _).2 ((ed _ ih.2 _).2 e)),e.1⟩
  exact this.1
 rw[e1,zou];constructor
 ·rintro⟨k,h1,h2⟩;exact⟨k,h1,h2.2⟩
 rintro⟨k,h1,h2⟩;exact⟨k,h1,jI.lt (fun y hy=>by rw[hy];exact hx) hR.ed h1,h2⟩
theorem zmM(D:Dd)(C:Nat)(w:World)(hD:DM w D)(hR:DR D C):
  Calls prog 75 #[.agg D.cD] w (DV D.n (wN D) w):=by
 have cU:=hR.n2;have da:=hR.n1;have jl:=hR.m;have tq:=(hR.il hD.kl).2;have HB:=ξ (bg.new hD) (al w (.cells D.cD 29)) hR;obtain⟨iI,hI,se,sD,sx⟩:=info_parts aG;clear hD hR;go_in;go_upto_region 1 with fail;generalize w.alloc (.cells D.cD 29)=W0 at HB⊢;obtain⟨b0,ay⟩:∃b0,w.heap.size=b0:=⟨_,rfl⟩
 rw[ay] at HB;rw[ay];have bW:=hid ay;have oV:b0<=W0.heap.size:=by have:=HB.out.2.1.size;omega
 clear ay;have rO:=hid (Fv D C HB.out.2.2 W0 HB.out.1.dm);go_wp2_with (refine js (by rfl) 29 _ rfl ⟨b0,0,none⟩ rfl D.cD _ HB.out.1.st.part underlying29 rfl HB.out.1.dm.info ?_);refine rO.out.mono ?_;rintro e w2 ⟨rfl,b1⟩;have H2:=ζ (HB.out.1.ab b1) (HB.out.2.1.trans (b1.mono oV));have cv:b0<=w2.heap.size:=by have:=b1.size;omega
 clear b1 rO;have oY:Hid (∀W',Below w2.heap.size w2 W'->Below w.heap.size w W'):=fun W' h=>by
  rw[bW.out];exact H2.out.2.trans (h.mono cv)
 have Jm:Hid (w.heap.size<=w2.heap.size):=by show _<=_;rw[bW.out];exact cv
 have f2:=H2.out.1.f2;obtain⟨gM,oM,eM,pW,lJ⟩:=H2.out.1.dm.rM (by omega);rw[eM,jl] at f2;have MR:=hid lJ;have NC:=hid eM;have MW:=hid jl;clear eM lJ jl;go_wp2_with fail;clear f2;go_loopw [3,4,5,12] (fun v3 _ _ v wr=>∃(k p:Nat) (l:List Nat) (a:Option Addr) (c:Nat),v=.int .i64 k/\k<=D.n/\p<=k/\v3=.slice a p c/\Hid (l.length=p/\l.Nodup/\(∀x,x∈l↔x<k/\0<=D.q x)/\wr.ownsRow w2.heap.size 3 1 (.slice a p c) p (cY l)/\Below w2.heap.size w2 wr)) (fun _ _ _ v _=>D.n-(intOf v).toNat)
 ·exact⟨0,0,[],none,0,rfl,by omega,by omega,rfl,⟨rfl,by simp,fun x=>by simp,World.ownsRow_nil _ _ _ _,Below.refl _ _⟩⟩
 obtain⟨k,p,l,a,c,rfl,hk,hp,rfl,HX⟩:=hrel;by_cases aq:k<D.n
 ·have cM:=(HX.out.2.2.2.2.cell (p:=⟨gM,oM+k,none⟩) pW).trans (MR.out k (by rw[MW.out];exact aq));have hq:=HB.out.2.2.q k aq;have i1:(k:Int)<(D.n:Int):=by omega
  have HS:Hid (∀l',(l'=l/\D.q k<0)\/(l'=l++[k]/\0<=D.q k)->l'.Nodup/\∀x,x∈l'↔x<k+1/\0<=D.q x):=fun l' h=>by
   rcases h with ⟨rfl,h⟩|⟨rfl,h⟩
   ·refine⟨HX.out.2.1,fun x=>?_⟩;rw[HX.out.2.2.1];constructor
    ·rintro⟨h1,h2⟩;exact⟨by omega,h2⟩
    rintro⟨h1,h2⟩;by_cases e:x=k
    ·subst e;omega
    exact⟨by omega,h2⟩
   refine⟨?_,fun x=>?_⟩
   ·rw[List.nodup_append];exact⟨HX.out.2.1,by simp,fun a ha b hb e=>by
     rw[List.mem_singleton.1 hb] at e
     rw[e] at ha
     have:=((HX.out.2.2.1 k).1 ha).1
     omega⟩
   rw[mem_append,mem_singleton,HX.out.2.2.1];constructor
   ·rintro (⟨h1,h2⟩|h1)
    ·exact⟨by omega,h2⟩
    subst h1;exact⟨by omega,h⟩
   rintro⟨h1,h2⟩;by_cases e:x=k
   ·exact inr e
   exact inl ⟨by omega,h2⟩
  try dsimp only at cM
  generalize D.q k=y at cM hq HS;by_cases hy:y=-1
  ·subst hy;have HZ:=hid (HS.out l (inl ⟨rfl,by omega⟩));go_wp2;go_roundw
   ·exact⟨k+1,p,l,a,c,by go_num,by omega,by omega,rfl,⟨HX.out.1,HZ.out.1,HZ.out.2,HX.out.2.2.2.1,HX.out.2.2.2.2⟩⟩
   simp[intOf];omega
  have HZ:=hid (HS.out (l++[k]) (inr ⟨rfl,by omega⟩));have nc:(y != (-1:Int))=true:=by simp[hy]
  have hO:=HX.out.2.2.2.1;go_wp2_with (at_builtin;refine wpList_append_own_at _ rfl _ _ 27 rfl w2.heap.size 3 iI (.int .i64 0) 1 8 underlying27 hI se sD sx rfl (by decide) _ _ _ rfl (hO.alloc _) ⟨wr.heap.size,0,none⟩ 1 1 [.int .i64 (k:Int)] rfl rfl (cell_one_new _ _ _) ?d2 ?d3 ?d4 ?d5 ?_)
  case d2=>first|(intro u hu;simp at hu;subst hu;rfl)|rfl
  case d3=>unfold maxLen;omega
  case d4=>omega
  case d5=>have:=HX.out.2.2.2.2.size;simp;omega
  intro v5 w5 ah ag _ bJ;obtain⟨a5,c5,rfl⟩:=bP ah;have tH:=HX.out.2.2.2.2.size;have kk:=al wr (.cells #[.int .i64 (k:Int)] 3);have HY:Hid (w5.ownsRow w2.heap.size 3 1 (.slice a5 (p+1) c5) (p+1) (cY (l++[k]))/\Below w2.heap.size w2 w5):=⟨by rw[xG];exact ah,fL (HX.out.2.2.2.2.trans (kk.mono tH)) (hO.alloc _) (le_trans tH kk.size) ag⟩
  clear ah ag bJ hO kk;go_wp2;go_roundw
  ·exact⟨k+1,p+1,l++[k],a5,c5,by go_num,by omega,by omega,rfl,⟨by rw[length_append,HX.out.1];rfl,HZ.out.1,HZ.out.2,HY.out.1,HY.out.2⟩⟩
  simp[intOf];omega
 obtain rfl:k=D.n:=by omega
 have Mj:=hid (H2.out.1.ab HX.out.2.2.2.2);have mh:=hid (fun (W':World) (h:Below wr.heap.size wr W')=>oY.out W' (HX.out.2.2.2.2.trans (h.mono HX.out.2.2.2.2.size)));have Ta:Hid (w.heap.size<=wr.heap.size):=le_trans Jm.out HX.out.2.2.2.2.size;have cZ:Hid (∀W',Below wr.heap.size wr W'->Below wr.heap.size wr W'/\bg W' b0 D/\W'.cell? ⟨b0,256,none⟩=some (.slice D.aN D.n D.cN)):=fun W' h=>⟨h,Mj.out.ab h,(Mj.out.ab h).f1⟩
 go_upto_region 10 with fail;refine wp_region_held_drew (S:=fun W'=>Below wr.heap.size wr W'/\bg W' b0 D/\W'.cell? ⟨b0,256,none⟩=some (.slice D.aN D.n D.cN)) (by kernel_rfl) (cZ.out _ (Below.refl _ _).drew) (fun η=>?_)
 (refine an 0 ?_;refine an 1 ?_;refine an 2 ?_)
 (refine an 3 (v:=.agg D.cD) ?_ (hy:=by intro wz hSw;exact ob (o:=_) (ρ:=_) wz 29 (.tmp 1) rfl ⟨b0,0,none⟩ rfl D.cD _ (bg.st (And.left (And.right hSw))).part underlying29 rfl (bg.dm (And.left (And.right hSw))).info))
 (refine an 5 ?_;try simp only[put,sA])
 refine bc 4 (fun K hK=>?_);skip;go_simp;go_at_call 111;refine (ziu D C _ η.2.1.dm HB.out.2.2).mono ?_;rintro e w5 ⟨gS,AS,CS,tg,rfl,hS5,Pk,b5⟩;have eu:Below wr.heap.size wr w5:=η.1.trans (b5.mono η.1.size);clear b5
 try go_wp2_with fail
 refine hK.out _ _ (cZ.out _ eu) fun η=>?_;clear hK K
 try simp only[put,sA]
 refine bc 6 (fun K hK=>?_);skip;go_simp;go_at_call 72;refine (RZ D.n D.n (some ⟨gS,0,none⟩) AS CS (fun i=>(tg i).length) (fun i c=>(((tg i).getD c 0:Nat):Int)) l a p c (by omega) (fun i hi=>by have:=zqp Pk i hi;omega) (fun i c hi hc=>zrc Pk i c hi hc) HX.out.1 HX.out.2.1 (fun x hx=>((HX.out.2.2.1 x).1 hx).1) w5 hS5 (nQ.below (sZ HX.out.2.2.2.1 HX.out.1) eu) (fun h=>zoy HX.out.2.2.2.1 h) (fun ad h=>zoz HX.out.2.2.2.1 h)).mono ?_;rintro e w7 ⟨l9,i,ad,c9,rfl,Jd,yg,jD,nJ,gy,b7⟩;have bz:Below wr.heap.size wr w7:=eu.trans (b7.mono eu.size);have zU:=ζ Jd bz;clear Jd b7
 try go_wp2_with fail
 refine hK.out _ _ (cZ.out _ bz) fun η=>?_;clear hK K bz
 try simp only[put,sA]
 refine bc 7 (fun K hK=>?_);skip;go_simp;go_at_call 94;refine (Tg D.n l9 ad i c9 jD (by omega) (by omega) gy _ (sZ zU.out.1 jD)).mono ?_;rintro e w8 ⟨f8,a8,c8,rfl,Ib,KW,b8⟩;have bz:Below wr.heap.size wr w8:=zU.out.2.trans (b8.mono zU.out.2.size);have DX:=zU.out.2.size;have HF:Hid (DV D.n (wN D) w (.returned (.slice a8 D.n c8)) w8):=⟨f8,a8,c8,rfl,gn Ib (le_trans Ta.out DX),fun x hx=>by
  rw[KW x hx]
  show x∈l9↔_
  rw[yg,OG _ _ (by rw[<-yg];exact jD)]
  exact zqq HB.out.2.2 Pk (fun y=>HX.out.2.2.1 y) x hx,mh.out _ bz⟩
 clear Ib KW b8
 try go_wp2_with fail
 refine hK.out _ _ (cZ.out _ bz) fun η=>?_;clear hK K bz
 try simp only[put,sA]
 (refine an 8 ?_;try simp only[put,sA])
 refine wpAnyH_done (by kernel_rfl) ?_ _;clear η;go_wp2;go_ret;exact HF.out
def dJ(K:Nat->Nat)(vN vK:Value):Array Value:=(((range 256).map fun j=>Value.int .u8 (K j))++[vN,vK]).toArray
theorem mY(K:Nat->Nat)(vN vK:Value):(dJ K vN vK).size=258:=by simp[dJ]
theorem Af(K:Nat->Nat)(vN vK:Value)(j:Nat)(hj:j<256):(dJ K vN vK)[j]?=some (.int .u8 (K j)):=by
 simp[dJ,getElem?_append,hj]
theorem qu(K:Nat->Nat)(vN vK:Value):(dJ K vN vK)[256]?=some vN:=by simp[dJ,getElem?_append]
theorem zf(K:Nat->Nat)(vN vK:Value):(dJ K vN vK)[257]?=some vK:=by simp[dJ,getElem?_append]
theorem yj(K:Nat->Nat)(a b:Option Addr)(n c m d:Nat):∀v∈(dJ K (.slice a n c) (.slice b m d)).toList,v.oneCell'=true:=by
 intro v hv;simp[dJ] at hv;rcases hv with ⟨j,_,rfl⟩|rfl|rfl <;> rfl
theorem CV(K:Nat->Nat)(vN vK:Value)(cs:Array Value)(hs:cs.size=258)(h1:∀j,j<256->cs[j]?=some (.int .u8 (K j)))(h2:cs[256]?=some vN)(h3:cs[257]?=some vK):cs=dJ K vN vK:=by
 apply Array.ext_getElem?;intro i;by_cases a:i<256
 ·rw[h1 i a,Af K vN vK i a]
 by_cases b:i=256
 ·subst b;rw[h2,qu]
 by_cases c:i=257
 ·subst c;rw[h3,zf]
 rw[Array.getElem?_eq_none (by omega),Array.getElem?_eq_none (by rw[mY];omega)]
theorem Wa(K:Nat->Nat)(vN vK v:Value):(dJ K vN vK).setIfInBounds 256 v=dJ K v vK:=by
 refine CV K v vK _ (by rw[Array.size_setIfInBounds,mY]) (fun j hj=>?_) ?_ ?_
 ·rw[Array.getElem?_setIfInBounds_ne (by omega),Af K vN vK j hj]
 ·rw[Array.getElem?_setIfInBounds_self_of_lt (by rw[mY];omega)]
 rw[Array.getElem?_setIfInBounds_ne (by omega),zf]
theorem zoA(K:Nat->Nat)(vN vK v:Value):(dJ K vN vK).setIfInBounds 257 v=dJ K vN v:=by
 refine CV K vN v _ (by rw[Array.size_setIfInBounds,mY]) (fun j hj=>?_) ?_ ?_
 ·rw[Array.getElem?_setIfInBounds_ne (by omega),Af K vN vK j hj]
 ·rw[Array.getElem?_setIfInBounds_ne (by omega),qu]
 rw[Array.getElem?_setIfInBounds_self_of_lt (by rw[mY];omega)]
theorem WT(K:Nat->Nat)(W:World):(build 29 #[(0,.agg (aU K))]).run prog W=.ok (.agg (dJ K (.slice none 0 0) (.slice none 0 0))) W:=by
 have e:prog.built 29 [(0,.agg (aU K))]=fill (fun i=>#[(0,256),(256,1),(257,1)][i]?) (zC 29) [(0,.agg (aU K))]:=by kernel_rfl
 have hz:=ia;have hs:=NS K;obtain⟨p1,p2⟩:=yZ (zC 29) (aU K) 0 (by rw[hz];omega);rw[za _ _ 0 0 256 (.agg (aU K)) [] (by rfl) hs (by rw[hz];omega)] at e;obtain⟨d1,d2⟩:=DI;have e2:putAt (zC 29) (aU K) 0=dJ K (.slice none 0 0) (.slice none 0 0):=CV _ _ _ _ (by rw[p1,hz]) (fun j hj=>by rw[p2,if_pos ⟨by omega,by omega⟩];exact Ec K j hj) (by rw[p2,if_neg (by omega),d1]) (by rw[p2,if_neg (by omega),d2]);have e3:(Value.agg (aU K)).cells=aU K:=rfl;rw[e3,e2] at e;exact run_build W _ _ _ e
theorem Vy(K:Nat->Nat)(a:Option Addr)(n c:Nat)(W:World):(build 29 #[(0,.agg (aU K)),(2,.slice a n c)]).run prog W=.ok (.agg (dJ K (.slice none 0 0) (.slice a n c))) W:=by
 have e:prog.built 29 [(0,.agg (aU K)),(2,.slice a n c)]=fill (fun i=>#[(0,256),(256,1),(257,1)][i]?) (zC 29) [(0,.agg (aU K)),(2,.slice a n c)]:=by kernel_rfl
 have hz:=ia;have hs:=NS K;obtain⟨p1,p2⟩:=yZ (zC 29) (aU K) 0 (by rw[hz];omega);rw[za _ _ 0 0 256 (.agg (aU K)) _ (by rfl) hs (by rw[hz];omega)] at e;obtain⟨d1,d2⟩:=DI;have e2:putAt (zC 29) (aU K) 0=dJ K (.slice none 0 0) (.slice none 0 0):=CV _ _ _ _ (by rw[p1,hz]) (fun j hj=>by rw[p2,if_pos ⟨by omega,by omega⟩];exact Ec K j hj) (by rw[p2,if_neg (by omega),d1]) (by rw[p2,if_neg (by omega),d2]);have e3:(Value.agg (aU K)).cells=aU K:=rfl;rw[e3,e2] at e;have hd:=mY K (.slice none 0 0) (.slice none 0 0);obtain⟨q1,q2⟩:=yZ (dJ K (.slice none 0 0) (.slice none 0 0)) #[.slice a n c] 257 (by rw[hd];simp);rw[za _ _ 2 257 1 (.slice a n c) [] (by rfl) (by rfl) (by rw[hd];omega)] at e;have e4:putAt (dJ K (.slice none 0 0) (.slice none 0 0)) #[.slice a n c] 257=dJ K (.slice none 0 0) (.slice a n c):=by
  simp only[List.size_toArray,List.length_cons,List.length_nil] at q2;refine CV _ _ _ _ (by rw[q1,hd]) (fun j hj=>by rw[q2,if_neg (by omega),Af _ _ _ j hj]) (by rw[q2,if_neg (by omega),qu]) (by rw[q2,if_pos (by omega)];rfl)
 have e5:(Value.slice a n c).cells=#[.slice a n c]:=rfl;rw[e5,e4] at e;exact run_build W _ _ _ e
structure iN (W0:World)(b4:Nat)(K:Nat->Nat)(C:Nat)(vN:Value)(R:List (List Int))(ws:Nat->Value)(vK:Value)(ms:List Int)(w:World):Prop where
 aP:Below W0.heap.size W0 w
 st:St w 29 b4 (dJ K vN vK)
 next:bE w W0.heap.size 27 3 1 vN R.length ws (fun _=>C) (fun j=>ints (R.getD j []))
 dt:w.ownsRow W0.heap.size 3 1 vK ms.length (ints ms)
 sep:∀i,i<R.length->∀b,(ws i).ownBlock=some b->vK.ownBlock≠some b
 lo:W0.heap.size<=b4
section
variable {W0 : World}{b4 C : Nat}{K : Nat → Nat}{vN : Value}{R : List (List Int)}{ws : Nat → Value}{vK : Value}{ms : List Int}{w : World}
theorem iN.ab{w1:World}(h:iN W0 b4 K C vN R ws vK ms w)(k:Below w.heap.size w w1):iN W0 b4 K C vN R ws vK ms w1:=
 ⟨h.aP.trans (k.mono h.aP.size),h.st.ab k,h.next.ab k,db h.dt k,h.sep,h.lo⟩
theorem iN.f1(h:iN W0 b4 K C vN R ws vK ms w):w.cell? ⟨b4,256,none⟩=some vN:=by rw[h.st.at_,qu]
theorem iN.f2(h:iN W0 b4 K C vN R ws vK ms w):w.cell? ⟨b4,257,none⟩=some vK:=by rw[h.st.at_,zf]
theorem zE{i:Nat}{cs:Array Value}{v:Value}(h:w.ownsRow B t 1 v n xs)(hs:St w 29 b4 cs)(ht:t≠29):(w.setCell ⟨b4,i,none⟩ u).ownsRow B t 1 v n xs:=
 fI (ts:=[]) (bs:=[b4]) h ((Kept.refl _ _ _).setCell _ _ (inl (by simp))) (by simp) (fun b e hm=>eB h hs ht b e (List.mem_singleton.1 hm))
theorem iN.gJ{vN':Value}{row:List Int}(h:iN W0 b4 K C vN R ws vK ms w)(hu:w.ownsRow W0.heap.size 3 1 u C (ints row))(hs:∀i,i<R.length->∀b,(ws i).ownBlock=some b->u.ownBlock≠some b)(tH:∀b,u.ownBlock=some b->vK.ownBlock≠some b)(hq:R.length=q)
  (ho:w'.ownsRow W0.heap.size 27 1 vN' (q+1) ((range q).map ws++[u])) (hg:w.grownBy w' vN.ownBlock):iN W0 b4 K C vN' (R++[row]) (fun j=>if j=q then u else ws j) vK ms (w'.setCell ⟨b4,256,none⟩ vN'):=by
 subst hq;have bY:St w' 29 b4 (dJ K vN vK):=h.st.ae h.next.own (by decide) hg
 have h1:bE w W0.heap.size 27 3 1 vN R.length ws (fun _=>C) (fun j=>ints ((R++[row]).getD j [])):=h.next.congr (fun i hi=>⟨rfl,by simp[getD_eq_getElem?_getD,List.getElem?_append_left hi]⟩)
 have h2:=h1.qb (v':=vN') (u:=u) (w':=w') (by decide) (by simpa [getD_eq_getElem?_getD] using hu) hs ho hg;have hm:w'.ownsRow W0.heap.size 3 1 vK ms.length (ints ms):=rF h.dt hg (fun b e e2=>iB h.dt h.next.own (by decide) b e e2.symm);refine⟨(fL h.aP h.next.own h.aP.size hg).setCell (p:=⟨b4,256,none⟩) h.lo _,?_,?_,zE hm bY (by decide),?_,h.lo⟩
 ·have:=bY.set 256 vN';rwa [Wa] at this
 ·rw[length_append];exact⟨zE h2.own bY (by decide),fun i hi=>zE (h2.row i hi) bY (by decide),h2.sep⟩
 intro i hi b e;by_cases e1:i=R.length
 ·rw[if_pos e1] at e;exact tH b e
 rw[if_neg e1] at e;exact h.sep i (by simp at hi;omega) b e
theorem iN.mZ{vK':Value}{m:Int}(h:iN W0 b4 K C vN R ws vK ms w)(hq:ms.length=q)
  (ho:w'.ownsRow W0.heap.size 3 1 vK' (q+1) (ints ms++[.int .i64 m])) (hg:w.grownBy w' vK.ownBlock) (fx:vK'.ownBlock=vK.ownBlock\/vK'.ownBlock=some w.heap.size):
  iN W0 b4 K C vN R ws vK' (ms++[m]) (w'.setCell ⟨b4,257,none⟩ vK'):=by
 subst hq;have bY:St w' 29 b4 (dJ K vN vK):=h.st.ae h.dt (by decide) hg;have hG:bE w' W0.heap.size 27 3 1 vN R.length ws (fun _=>C) (fun j=>ints (R.getD j [])):=
  ⟨rF h.next.own hg (fun b e e2=>iB h.next.own h.dt (by decide) b e e2.symm),fun i hi=>rF (h.next.row i hi) hg (fun b e e2=>h.sep i hi b e e2.symm),h.next.sep⟩
 refine⟨(fL h.aP h.dt h.aP.size hg).setCell (p:=⟨b4,257,none⟩) h.lo _,?_,⟨zE hG.own bY (by decide),fun i hi=>zE (hG.row i hi) bY (by decide),hG.sep⟩,?_,?_,h.lo⟩
 ·have:=bY.set 257 vK';rwa [zoA] at this
 ·have:=zE (i:=257) (u:=vK') ho bY (by decide);rw[length_append];simpa [ints] using this
 intro i hi b e;rcases fx with e2|e2
 ·rw[e2];exact h.sep i hi b e
 rw[e2];intro e3;have:=lZ (h.next.row i hi) b e;simp at e3;omega
end
def Eo(D:Dd)(C n':Nat)(FD:Nat->Nat->Int)(q':Nat->Int)(w:World)(e:Ending)(w':World):Prop:=
 ∃D':Dd,e=.returned (.agg D'.cD)/\DM w' D'/\D'.K=D.K/\D'.n=n'/\D'.m=n'/\(∀i,i<n'->D'.len i=C)/\(∀i,i<n'->∀c,c<C->D'.nx i c=FD i c)/\(∀i,i<n'->D'.q i=q' i)/\Below w.heap.size w w'/\w'.ownsRow w.heap.size 3 1 (.slice D'.aM n' D'.cM) n' (ints ((range n').map q'))
theorem iN.RD{W0:World}{vN:Value}{R:List (List Int)}{vK:Value}{wr:World}{n':Nat}{FD:Nat->Nat->Int}{q':Nat->Int}(hk:∀j,j<256->D.K j<256)(h:iN W0 b4 D.K C vN R ws vK ms wr)(hR:R.length=n')(wM:∀r∈R,r.length=C)(lW:ms=(range n').map q')
  (yQ:∀i,i<n'->∀c,c<C->(R.getD i []).getD c 0=FD i c) (hw:w.heap.size<=W0.heap.size) (hb:Below wr.heap.size wr w'\/(∃b cs jG,St wr 29 b jG/\w'=wr.setRow b cs)) (hB:Below w.heap.size w w'):Eo D C n' FD q' w (.returned (.agg (dJ D.K vN vK))) w':=by
 obtain⟨aN,cN,rfl⟩:=bP h.next.own
 obtain⟨aK,cK,rfl⟩:=bP h.dt;have ma:ms.length=n':=by rw[lW];simp
 have pQ:∀{B t n:Nat}{v:Value}{xs:List Value},t≠29->wr.ownsRow B t 1 v n xs->w'.ownsRow B t 1 v n xs:=fun {B t n v xs} ht ho=>by
  rcases hb with hb|⟨b,cs,jG,hs,rfl⟩
  ·exact db ho hb
  exact fI (ts:=[]) (bs:=[b]) ho (J1 wr b cs) (by simp) (fun g e hm=>eB ho hs ht g e (List.mem_singleton.1 hm))
 have cU:bE w' W0.heap.size 27 3 1 (.slice aN R.length cN) R.length ws (fun _=>C) (fun j=>ints (R.getD j [])):=⟨pQ (by decide) h.next.own,fun i hi=>pQ (by decide) (h.next.row i hi),h.next.sep⟩
 have mr:=pQ (by decide) h.dt;refine⟨⟨dJ D.K (.slice aN R.length cN) (.slice aK ms.length cK),D.K,aN,R.length,cN,fun i=>vw (ws i),fun i=>xq (ws i),fun _=>C,fun i x=>(R.getD i []).getD x 0,aK,ms.length,cK,fun i=>ms.getD i 0⟩,rfl,
  ⟨mY _ _ _,yj _ _ _ _ _ _ _,fun j hj=>Af _ _ _ j hj,hk,qu _ _ _,zf _ _ _,cU.zs rfl wM,PX mr rfl⟩,rfl,hR,ma,fun i hi=>rfl,yQ,fun i hi=>?_,hB,?_⟩
 ·show ms.getD i 0=_;rw[lW];simp[getD_eq_getElem?_getD,hi]
 show w'.ownsRow _ _ _ (.slice aK n' cK) n' _;rw[<-lW,<-ma];exact gn mr hw
theorem k8(w:World):w.drew.heap.size=w.heap.size:=rfl
theorem Hc(w:World)(o:Obj):(w.alloc o).heap.size=w.heap.size+1:=by simp
theorem YU{ρ:Operand->Value}{o:Oper}(w:World)(t:TypeId)(parts:Array (Nat × Operand))(ho:o.op=.build t parts)(ps:Array (Nat × Value))(hp:(parts.map fun (i,x)=>(i,ρ x))=ps)(v:Value)(hb:(build t ps).run P w=.ok v w):
  (execOp ρ o).run P w=.ok (.value v) w:=by
 unfold execOp;simp only[ho,hp,run_bind,hb,andThen_ok,run_pure]
theorem E7{o:Oper}{a:Act}{K:Act->World->Prop}{Q:Exit->Act->World->Prop}{E:Prop}(oE:o.guard=none)(t:TypeId)(ho:o.op=.alloc t)(cs:Array Value)(hz:(zeroValue t).run P w=.ok (.agg cs) w)
  (h:K (a.put o.dst (.pointer (some ⟨w.heap.size,0,none⟩))) (w.alloc (.cells cs t))):if wanted o (yielded ops a.tmps)=true then Oper.wp P o a w K Q else E:=by
 have hw:wanted o (yielded ops a.tmps)=true:=by simp[wanted,oE]
 rw[if_pos hw];unfold Oper.wp execOp;simp only[ho,Instr.alloc,run_bind,hz,andThen_ok,newVar,newRow,newObj,Value.cells];exact h
theorem FF{o:Oper}{a:Act}{K:Act->World->Prop}{Q:Exit->Act->World->Prop}{E:Prop}(oE:o.guard=none)(ty:TypeId)(x v:Operand)(ho:o.op=.store ty x v)(g t:Nat)(jG cs:Array Value)(hx:a.eval x=.pointer (some ⟨g,0,none⟩))(hv:a.eval v=.agg cs)
  (bY:w.heap[g]?=some (.cells jG t (0,0))) (dc:jG.size=cs.size) (hi:(P.info? ty).map (·.size)=some cs.size) (h1:∀u∈cs.toList,u.oneCell'=true) (h:K (a.put o.dst undef) (w.setRow g cs)):if wanted o (yielded ops a.tmps)=true then Oper.wp P o a w K Q else E:=by
 have cy:(storeVar ty ⟨g,0,none⟩ (.agg cs)).run P w=.ok () (w.setRow g cs):=by
  have hs:(sizeOf ty).run P w=.ok cs.size w:=by
   cases hq:P.info? ty with
   | none=>simp[hq] at hi
   | some inf=>
    have:inf.size=cs.size:=(by simpa [hq] using hi);simp[sizeOf,typeInfo,hq,this]
  have:=run_storeCells_at (P:=P) g 0 t cs.toList 0 jG w bY (by simp[dc]) h1;unfold storeVar;simp only[run_bind,hs,andThen_ok];rw[if_neg (show ¬((Value.agg cs).cells.size≠cs.size) from fun h=>h rfl)];show (storeCells ⟨g,0,none⟩ cs.toList).run P w=_;rw[this];congr 2;have hd:List.drop cs.size jG.toList=[]:=List.drop_of_length_le (by simp[dc]);simp[hd]
 have hw:wanted o (yielded ops a.tmps)=true:=by simp[wanted,oE]
 rw[if_pos hw];unfold Oper.wp execOp;simp only[ho,hx,hv,Instr.storeAt,Instr.sureAddr,run_bind,run_pure,andThen_ok,cy];exact h
open Classical in
noncomputable def oj (D:Dd) (i c:Nat):Int:=if 0<=D.nx i c/\¬wN D (D.nx i c).toNat then -1 else D.nx i c
theorem iN.start{V0 V:World}{K:Nat->Nat}{m:Nat}(hm:V.ownsRow V0.heap.size 3 1 (.slice a m c) m (ints ms))(hl:ms.length=m)(hb:Below V0.heap.size V0 V)(bY:St V 29 b4 (zC 29))(sX:V0.heap.size<=b4):
  iN V0 b4 K C (.slice none 0 0) [] ws (.slice a m c) ms (V.setRow b4 (dJ K (.slice none 0 0) (.slice a m c))):=by
 refine⟨kZ hb sX _,bY.setRow,⟨World.ownsRow_nil _ _ _ _,fun i hi=>absurd hi (by simp),fun i j hi=>absurd hi (by simp)⟩,?_,fun i hi=>absurd hi (by simp),sX⟩;rw[hl];exact fI (ts:=[]) (bs:=[b4]) hm (J1 _ _ _) (by simp) (fun g e h=>eB hm bY (by decide) g e (List.mem_singleton.1 h))
theorem Is(N:Nat)(hN:N<=2147483647)(W:World):(Instr.makeSlice 27 (.int .i64 (N:Int)) (.int .i64 (N:Int))).run prog W=.ok (.slice (some ⟨W.heap.size,0,none⟩) N N) (W.alloc (.cells (madeCells #[.int .i64 0] N) 3)):=by
 have:=run_make_row' (P:=prog) 27 3 (.int .i64 0) 8 underlying27 aG rfl .i64 .i64 N (by omega) (by omega) W;simpa using this
theorem FG(row:List Int)(m k:Nat)(v:Int)(h:row.length=k)(hk:k<m):(ints (row++replicate (m-k) 0)).set k (.int .i64 v)=ints ((row++[v])++replicate (m-(k+1)) 0):=by
 have e:replicate (m-k) (0:Int)=0 :: replicate (m-(k+1)) 0:=by
  rw[show m-k=(m-(k+1))+1 by omega,List.replicate_succ]
 rw[e];subst h;simp[ints,List.set_append]
def oQ(z:Nat->Int)(fn:Nat->Int)(i:Nat):Int:=if z i=-1 then -1 else fn (z i).toNat
def zpa(m:Nat)(r:Nat->Int)(w:World)(e:Ending)(w':World):Prop:=
 ∃(a:Option Addr) (c:Nat),e=.returned (.slice a m c)/\w'.ownsRow w.heap.size 3 1 (.slice a m c) m (ints ((range m).map r))/\Below w.heap.size w w'
theorem NX(kf bV n:Nat)(fn:Nat->Int)(m c:Nat)(a:Option Addr)(z:Nat->Int)(w:World)(HC:∀(args:Array Value) (W:World),(callFunc kf args).run prog W=.ok (.enter kf args) W)
  (HM:∀W,Below w.heap.size w W->∀x,x<n->Calls prog kf #[.int .i64 ((x:Nat):Int),.pointer (some ⟨bV,0,none⟩)] W fun e w'=>e=.returned (.int .i64 (fn x))/\w'=W)
  (hm:m<=1000) (hz:kY w a m z) (hb:∀i,i<m->-1<=z i/\z i<(n:Int)) (hn:n<=1000000):
  Calls prog 73 #[.slice a m c,.func (.func kf) #[] #[.pointer (some ⟨bV,0,none⟩)]] w (zpa m (oQ z fn) w):=by
 have fJ:=Is m (by omega);have HX:=ξ HM hz hb;have HO:=hid (Ee w w.heap.size m 3 (.int .i64 0) (le_refl _) (by unfold maxLen;omega));have pn:=hid (al w (.cells (madeCells #[.int .i64 0] m) 3));clear HM hz hb;go_in;go_wp2_with fail;obtain⟨g,hg⟩:∃g,w.heap.size=g:=⟨_,rfl⟩
 have kz:Hid ((w.alloc (.cells (madeCells #[.int .i64 0] m) 3)).ownsRow g 3 1 (.slice (some ⟨g,0,none⟩) m m) m (ints ([]++replicate (m-0) 0))/\Below g w (w.alloc (.cells (madeCells #[.int .i64 0] m) 3))):=by
  rw[<-hg];refine⟨?_,pn.out⟩;have:=HO.out;simpa [ints] using this
 rw[hg];generalize w.alloc (.cells (madeCells #[.int .i64 0] m) 3)=W1 at kz⊢;have Hg:=hid hg;clear HO pn hg;go_loopw [6,7,13] (fun _ _ v wr=>∃(k:Nat),v=.int .i64 k/\k<=m/\Hid (wr.ownsRow g 3 1 (.slice (some ⟨g,0,none⟩) m m) m (ints ((range k).map (oQ z fn)++replicate (m-k) 0))/\Below g w wr)) (fun _ _ v _=>m-(intOf v).toNat)
 ·exact⟨0,rfl,by omega,kz⟩
 clear kz;obtain⟨k,rfl,hk,HA⟩:=hrel;by_cases aq:k<m
 ·have ld:Below w.heap.size w wr:=by rw[Hg.out];exact HA.out.2
  obtain⟨gA,oA,rfl,Bm,lH⟩:=HX.out.2.1 (by omega);have cA:=(ld.cell (p:=⟨gA,oA+k,none⟩) Bm).trans (lH k aq);have IV:=HX.out.2.2 k aq;obtain⟨g',e',_,_,hc'⟩:=eC HA.out.1 (by omega);obtain rfl:g'=g:=by
   injection e' with e';injection e' with e' _;exact e'.symm
  obtain⟨y0,y1⟩:=hc' k (by omega);have hlen:((range k).map (oQ z fn)).length=k:=by simp
  have y2:(ints ((range k).map (oQ z fn)++replicate (m-k) 0))[k]?=some (.int .i64 0):=by
   have:0<m-k:=(by omega);simp[ints,getElem?_append,this]
  rw[y2] at y0;have fj:Hid ((wr.setCell ⟨g',k,none⟩ (.int .i64 (-1))).ownsRow g' 3 1 (.slice (some ⟨g',0,none⟩) m m) m (ints (((range k).map (oQ z fn)++[-1])++replicate (m-(k+1)) 0))/\Below g' w (wr.setCell ⟨g',k,none⟩ (.int .i64 (-1)))):=by
   refine⟨?_,HA.out.2.setCell (p:=⟨g',k,none⟩) (le_refl _) _⟩;have:=uj HA.out.1 k aq (.int .i64 (-1));rwa [FG _ m k _ hlen aq] at this
  have D6:Hid (∀v,oQ z fn k=v->(range (k+1)).map (oQ z fn)=(range k).map (oQ z fn)++[v]):=fun v h=>by
   rw[range_succ,map_append,List.map_singleton,h]
  have EA:Hid ((z k=-1->oQ z fn k=-1)/\∀x:Nat,z k=(x:Int)->oQ z fn k=fn x):=⟨fun h=>by simp[oQ,h],fun x h=>by
   unfold oQ
   rw[if_neg (by omega),h]
   rfl⟩
  have yD:=hid hlen;have i1:(k:Int)<m:=by omega
  have Jn:=hid HX.out.1
  try dsimp only at cA
  clear lH hc' e' y2 hlen;generalize z k=t at cA IV EA;go_upto_region 6 with fail;generalize wr.setCell ⟨g',k,none⟩ (.int .i64 (-1))=W5 at fj⊢;clear y0 y1 cA ld;by_cases ht:t=-1
  ·subst ht;have HZ:=hid (D6.out (-1) (EA.out.1 rfl));go_wp2;go_roundw
   ·exact⟨k+1,by go_num,by omega,by rw[HZ.out];exact fj⟩
   simp[intOf];omega
  obtain⟨x,rfl⟩:∃x:Nat,t=(x:Int):=⟨t.toNat,by omega⟩
  have ix:x<n:=by omega
  have lE:((x:Int) != (-1:Int))=true:=by first|(simp;done)|(simp;omega)
  have HCa:=hid (Jn.out W5 (by rw[Hg.out];exact fj.out.2) x ix);have HZ:=hid (D6.out (fn x) (EA.out.2 x rfl));generalize fn x=r at HCa HZ;go_wp2_with fail;refine HCa.out.mono ?_;rintro e w6 ⟨rfl,rfl⟩;obtain⟨g2,e2,_,_,fB⟩:=eC fj.out.1 (by omega);obtain rfl:g2=g':=by
   injection e2 with e2;injection e2 with e2 _;exact e2.symm
  obtain⟨y0,y1⟩:=fB k (by omega);have y2:(ints (((range k).map (oQ z fn)++[-1])++replicate (m-(k+1)) 0))[k]?=some (.int .i64 (-1)):=by
   simp[ints,getElem?_append]
  rw[y2] at y0;have lb:Hid ((w6.setCell ⟨g2,k,none⟩ (.int .i64 r)).ownsRow g2 3 1 (.slice (some ⟨g2,0,none⟩) m m) m (ints (((range k).map (oQ z fn)++[r])++replicate (m-(k+1)) 0))/\Below g2 w (w6.setCell ⟨g2,k,none⟩ (.int .i64 r))):=by
   refine⟨?_,fj.out.2.setCell (p:=⟨g2,k,none⟩) (le_refl _) _⟩;have:=uj fj.out.1 k aq (.int .i64 r);have e3:(ints (((range k).map (oQ z fn)++[-1])++replicate (m-(k+1)) 0)).set k (.int .i64 r)=ints (((range k).map (oQ z fn)++[r])++replicate (m-(k+1)) 0):=by
    have hl:=yD.out;rw[<-FG _ m k (-1) hl aq,List.set_set,FG _ m k r hl aq]
   rwa [e3] at this
  clear fB e2 y2;go_wp2;go_roundw
  ·exact⟨k+1,by go_num,by omega,by rw[HZ.out];exact lb⟩
  simp[intOf];omega
 obtain rfl:k=m:=by omega
 have HF:Hid (zpa k (oQ z fn) w (.returned (.slice (some ⟨g,0,none⟩) k k)) wr):=by
  refine⟨_,_,rfl,?_,by rw[Hg.out];exact HA.out.2⟩;have:=HA.out.1;rw[Nat.sub_self,List.replicate_zero,List.append_nil,<-Hg.out] at this;rw[<-Hg.out];exact this
 go_wp2;go_ret;exact HF.out
theorem Zm:∀(args:Array Value) (W:World),(callFunc 77 args).run prog W=.ok (.enter 77 args) W:=fun _ _=>by rfl
theorem Zs(b3 n c:Nat)(a:Option Addr)(f:Nat->Bool)(w:World)(hS:St w 64 b3 #[.slice a n c])(hf:pd w a n f)(x:Nat)(hx:x<n):
  Calls prog 77 #[.int .i64 (x:Int),.pointer (some ⟨b3,0,none⟩)] w fun e w'=>e=.returned (.int .i64 (if f x=true then (x:Int) else -1))/\w'=w:=by
 have c0:w.cell? ⟨b3,0,none⟩=some (.slice a n c):=hS.at_ 0;obtain⟨g,o,rfl,_,q⟩:=hf (by omega);have d0:=q x hx;have i1:(x:Int)<n:=by omega
 clear q;rcases Gf:f x with _|_
 ·rw[Gf] at d0;have HZ:Hid ((if (false=true) then (x:Int) else -1)=-1):=by show _=_;simp
  clear Gf;go_in;go_wp2;go_ret;exact⟨by first|rfl|(rw[HZ.out];rfl)|simp,rfl⟩
 rw[Gf] at d0;clear Gf;go_in;go_wp2;go_ret;exact⟨by first|rfl|simp,rfl⟩
theorem zoB(D:Dd)(C:Nat)(w:World)(hD:DM w D)(hR:DR D C):
  Calls prog 42 #[.agg D.cD] w (Eo D C D.n (oj D) D.q w):=by
 have D5:∀(fn:Fn) (first cap:Array Value) (w:World),(Instr.makeFunc fn first cap).run prog w=.ok (.func fn first cap) w:=fun _ _ _ _=>rfl
 have cU:=hR.n2;have da:=hR.n1;have jl:=hR.m;have tq:=(hR.il hD.kl).2;have HB:=ξ (bg.new hD) (al w (.cells D.cD 29)) hR;obtain⟨iI,hI,se,sD,sx⟩:=info_parts aG;obtain⟨iV,hV,vb,va,vD⟩:=info_parts eI;clear hD hR;go_in;go_upto_region 1 with (refine og rfl 29 rfl (zC 29) (lN _) ?_);simp only[put,List.setIfInBounds_toArray,List.set_cons_zero,List.set_cons_succ,Hc];have H0:Hid (bg ((w.alloc (.cells D.cD 29)).alloc (.cells (zC 29) 29)) w.heap.size D/\St ((w.alloc (.cells D.cD 29)).alloc (.cells (zC 29) 29)) 29 (w.heap.size+1) (zC 29)/\Below w.heap.size w ((w.alloc (.cells D.cD 29)).alloc (.cells (zC 29) 29))):=by
  refine⟨HB.out.1.ab (al _ _),?_,HB.out.2.1.trans ((al _ _).mono (by simp))⟩;have:=St.new (w.alloc (.cells D.cD 29)) 29 (zC 29);simpa using this
 generalize (w.alloc (.cells D.cD 29)).alloc (.cells (zC 29) 29)=Wb at H0⊢;obtain⟨b2,cv⟩:∃b2,w.heap.size+1=b2:=⟨_,rfl⟩
 obtain⟨b0,ay⟩:∃b0,w.heap.size=b0:=⟨_,rfl⟩
 rw[cv,ay] at H0;rw[cv,ay];have Hb:=ζ ay cv;clear cv ay;have rO:=hid (Fv D C HB.out.2.2 Wb H0.out.1.dm);go_wp2_with (refine js (by rfl) 29 _ rfl ⟨b0,0,none⟩ rfl D.cD _ H0.out.1.st.part underlying29 rfl H0.out.1.dm.info ?_);refine rO.out.mono ?_;rintro e wy ⟨rfl,so⟩;have rY:Hid (bg wy b0 D/\St wy 29 b2 (zC 29)/\Below b0 w wy):=⟨H0.out.1.ab so,H0.out.2.1.ab so,H0.out.2.2.trans (so.mono (by have:=H0.out.2.2.size;have:=Hb.out.1;omega))⟩
 have Wq:=hid (zmM D C wy rY.out.1.dm HB.out.2.2);clear so rO;go_wp2_with (refine js (by rfl) 29 _ rfl ⟨b0,0,none⟩ rfl D.cD _ rY.out.1.st.part underlying29 rfl rY.out.1.dm.info ?_);refine Wq.out.mono ?_;rintro e wA ⟨f,aA,cA,rfl,hoA,YY,bA⟩;go_upto_region 4 with fail;have k3:=al wA (.cells #[.slice aA D.n cA] 64);have uC:Hid (St (wA.alloc (.cells #[.slice aA D.n cA] 64)) 64 wA.heap.size #[.slice aA D.n cA]):=St.new _ _ _;have b1:Below wy.heap.size wy (wA.alloc (.cells #[.slice aA D.n cA] 64)):=bA.trans (k3.mono bA.size);have Lb:=ζ ((Ix hoA).below k3) YY;obtain⟨b3,dM⟩:∃b3,wA.heap.size=b3:=⟨_,rfl⟩
 rw[dM] at uC;rw[dM];generalize wA.alloc (.cells #[.slice aA D.n cA] 64)=w1 at b1 Lb uC⊢;clear k3 dM bA;have H1:=ξ (rY.out.1.ab b1) (rY.out.2.1.ab b1) (rY.out.2.2.trans (b1.mono (by have:=rY.out.2.2.size;have:=Hb.out.1;omega)));obtain⟨gM,oM,eM,pW,lJ⟩:=H1.out.1.dm.rM (by omega);have BP:=ψ eM pW (by rw[jl] at lJ;exact lJ:∀j,j<D.n->w1.cell? ⟨gM,oM+j,none⟩=some (.int .i64 (D.q j))) jl;have uR:Hid (w.heap.size<=w1.heap.size):=by have h1:=rY.out.2.2.size;have h2:=b1.size;have h3:=Hb.out.1;show _<=_;omega
 have cZ:Hid (∀W',Below w1.heap.size w1 W'->Below w1.heap.size w1 W'/\bg W' b0 D/\W'.cell? ⟨b0,257,none⟩=some (.slice (some ⟨gM,oM,none⟩) D.n D.cM)):=fun W' h=>⟨h,H1.out.1.ab h,by have:=(H1.out.1.ab h).f2;rw[eM,jl] at this;exact this⟩
 have mj:Hid (∀W',Below w1.heap.size w1 W'->∀j u,(ints ((range D.n).map D.q))[j]?=some u->W'.cell? ((⟨gM,oM,none⟩:Addr).add j)=some u):=fun W' h=>X4 (fun j hj=>(h.cell (p:=⟨gM,oM+j,none⟩) BP.out.2.1).trans (BP.out.2.2.1 j hj))
 clear hoA YY b1 Wq eM lJ pW jl
 go_cut [4] from 13 to 18 (fun v wx=>∃(b4:Nat) (a6:Option Addr) (c6:Nat),v=.pointer (some ⟨b4,0,none⟩)/\iN w1 b4 D.K C (.slice none 0 0) [] (fun _=>.slice none 0 0) (.slice a6 D.n c6) ((range D.n).map D.q) wx)
 case first=>
  refine wp_region_held_drew (S:=fun W'=>Below w1.heap.size w1 W'/\bg W' b0 D/\W'.cell? ⟨b0,257,none⟩=some (.slice (some ⟨gM,oM,none⟩) D.n D.cM)) (by kernel_rfl) (cZ.out _ (Below.refl _ _).drew) (fun η=>?_)
  (refine an 0 ?_)
  (refine an 1 (v:=.agg (aU D.K)) ?_ (hy:=by intro wz hSw;exact ob (o:=_) (ρ:=_) wz 25 (.tmp 13) rfl ⟨b0,0,none⟩ rfl (aU D.K) _ (bg.dL (And.left (And.right hSw))) underlying25 rfl (vX D.K)))
  (refine an 2 ?_;refine an 3 ?_;try simp only[put,sA])
  refine wpAnyH_ready (rs:=[4,6]) (by kernel_rfl) (by simp) ?_;refine hJ (fun K hK=>?_) ?_
  ·skip;go_simp;go_at_call 76;refine (Mw D.n D.cM (some ⟨gM,oM,none⟩) D.q (by omega) _ (fun _=>⟨gM,oM,rfl,Nat.lt_of_lt_of_le BP.out.2.1 η.1.size,fun j hj=>(η.1.cell (p:=⟨gM,oM+j,none⟩) BP.out.2.1).trans (BP.out.2.2.1 j hj)⟩) (fun h=>by cases h) (fun ad h=>by injection h with h;rw[<-h])).mono ?_;rintro e V5 ⟨a6,c6,rfl,aj,b6⟩;have tK:=ζ (gn aj η.1.size) (η.1.trans (b6.mono η.1.size));clear aj b6
   try go_wp2_with fail
   refine hK.out _ _ (cZ.out _ tK.out.2) fun η=>?_;clear hK K
   try simp only[put,sA]
   (refine wpAnyH_take (i:=5) (oi:=?_) (v:=.agg (dJ D.K (.slice none 0 0) (.slice a6 D.n c6))) ?_ (by kernel_rfl) (by kernel_rfl) (by kernel_rfl) ?_ (inl ⟨?_,?_⟩) (by assumption) ?_;rotate_left;(focus ((simp only[List.getElem?_toArray,List.getElem?_cons_succ,List.getElem?_cons_zero]);first|done|rfl));(focus (exact fun _ _ _ h=>h));(focus rfl);(focus (intro wz hSw;exact YU wz _ _ rfl #[(0,.agg (aU D.K)),(2,.slice a6 D.n c6)] (by first|rfl|simp[eval]|(simp;rfl)) _ (Vy D.K a6 D.n c6 wz)));try simp only[put,sA])
   refine bc 6 (fun K hK=>?_);skip;refine E7 (by rfl) 29 (by rfl) (zC 29) (lN _) ?_;have kk:=al V5 (.cells (zC 29) 29);have bz:Below w1.heap.size w1 (V5.alloc (.cells (zC 29) 29)):=η.1.trans (kk.mono η.1.size);have H7:Hid (St (V5.alloc (.cells (zC 29) 29)) 29 V5.heap.size (zC 29)/\w1.heap.size<=V5.heap.size):=(⟨St.new _ _ _,η.1.size⟩);have tK:Hid ((V5.alloc (.cells (zC 29) 29)).ownsRow w1.heap.size 3 1 (.slice a6 D.n c6) D.n (ints ((range D.n).map D.q))/\Below w1.heap.size w1 (V5.alloc (.cells (zC 29) 29))):=(⟨db tK.out.1 kk,bz⟩);refine hK.out _ _ (cZ.out _ bz) fun η=>?_;clear hK K
   try simp only[put,sA]
   try simp only[k8]
   clear kk;generalize (V5.alloc (.cells (zC 29) 29))=V7 at H7 tK η bz⊢;refine bc 7 (fun K hK=>?_);skip;refine FF (by rfl) 29 _ _ (by rfl) V5.heap.size 29 (zC 29) (dJ D.K (.slice none 0 0) (.slice a6 D.n c6)) (by rfl) (by rfl) H7.out.1 (by rw[ia,mY]) (by rw[fH,mY]) (yj _ _ _ _ _ _ _) ?_;have j8:=hid (iN.start (K:=D.K) (C:=C) (ws:=fun _=>.slice none 0 0) tK.out.1 (by simp) tK.out.2 H7.out.1 H7.out.2);refine hK.out _ _ (cZ.out _ j8.out.aP) fun η=>?_;clear hK K
   try simp only[put,sA]
   refine wpAnyH_done (by kernel_rfl) ?_ _;clear η tK H7;go_wp2_with fail
   go_meet
   exact⟨_,_,_,rfl,j8.out⟩
  refine hJ (fun K hK=>?_) ?_
  ·skip;refine E7 (by rfl) 29 (by rfl) (zC 29) (lN _) ?_;have kk:=al w1.drew (.cells (zC 29) 29);have bz:Below w1.heap.size w1 (w1.drew.alloc (.cells (zC 29) 29)):=η.1.trans (kk.mono η.1.size);have H7:Hid (St (w1.drew.alloc (.cells (zC 29) 29)) 29 w1.heap.size (zC 29)/\w1.heap.size<=w1.heap.size):=(⟨St.new _ _ _,η.1.size⟩);refine hK.out _ _ (cZ.out _ bz) fun η=>?_;clear hK K
   try simp only[put,sA]
   try simp only[k8]
   clear kk;generalize (w1.drew.alloc (.cells (zC 29) 29))=V7 at H7 η bz⊢;refine bc 4 (fun K hK=>?_);skip;go_simp;go_at_call 76;refine (Mw D.n D.cM (some ⟨gM,oM,none⟩) D.q (by omega) _ (fun _=>⟨gM,oM,rfl,Nat.lt_of_lt_of_le BP.out.2.1 η.1.size,fun j hj=>(η.1.cell (p:=⟨gM,oM+j,none⟩) BP.out.2.1).trans (BP.out.2.2.1 j hj)⟩) (fun h=>by cases h) (fun ad h=>by injection h with h;rw[<-h])).mono ?_;rintro e V5 ⟨a6,c6,rfl,aj,b6⟩;have tK:=ζ (gn aj η.1.size) (η.1.trans (b6.mono η.1.size));have H7:Hid (St V5 29 w1.heap.size (zC 29)/\w1.heap.size<=w1.heap.size):=(⟨H7.out.1.ab b6,H7.out.2⟩);clear aj b6
   try go_wp2_with fail
   refine hK.out _ _ (cZ.out _ tK.out.2) fun η=>?_;clear hK K
   try simp only[put,sA]
   (refine wpAnyH_take (i:=5) (oi:=?_) (v:=.agg (dJ D.K (.slice none 0 0) (.slice a6 D.n c6))) ?_ (by kernel_rfl) (by kernel_rfl) (by kernel_rfl) ?_ (inl ⟨?_,?_⟩) (by assumption) ?_;rotate_left;(focus ((simp only[List.getElem?_toArray,List.getElem?_cons_succ,List.getElem?_cons_zero]);first|done|rfl));(focus (exact fun _ _ _ h=>h));(focus rfl);(focus (intro wz hSw;exact YU wz _ _ rfl #[(0,.agg (aU D.K)),(2,.slice a6 D.n c6)] (by first|rfl|simp[eval]|(simp;rfl)) _ (Vy D.K a6 D.n c6 wz)));try simp only[put,sA])
   refine bc 7 (fun K hK=>?_);skip;refine FF (by rfl) 29 _ _ (by rfl) w1.heap.size 29 (zC 29) (dJ D.K (.slice none 0 0) (.slice a6 D.n c6)) (by rfl) (by rfl) H7.out.1 (by rw[ia,mY]) (by rw[fH,mY]) (yj _ _ _ _ _ _ _) ?_;have j8:=hid (iN.start (K:=D.K) (C:=C) (ws:=fun _=>.slice none 0 0) tK.out.1 (by simp) tK.out.2 H7.out.1 H7.out.2);refine hK.out _ _ (cZ.out _ j8.out.aP) fun η=>?_;clear hK K
   try simp only[put,sA]
   refine wpAnyH_done (by kernel_rfl) ?_ _;clear η tK H7;go_wp2_with fail
   go_meet
   exact⟨_,_,_,rfl,j8.out⟩
  exact AllReadyH.nil
 case rest=>
  obtain⟨b4,a6,c6,rfl,rh⟩:=hcut;have j8:=hid rh;clear rh;obtain⟨gN,oN,eN,ky,pO⟩:=H1.out.1.dm.rN (by omega);have uX:=hid (H1.out.1.ab j8.out.aP);have f1:=uX.out.f1;rw[eN] at f1;have vZ:=hid eN;have sw:=hid pO;have Hg:=hid ky;clear eN pO ky;go_wp2_with fail;clear f1;go_loopw [6,22] (fun _ v wr=>∃(i:Nat) (ws:Nat->Value) (aN:Option Addr) (cN:Nat),v=.int .i64 i/\i<=D.n/\Hid (iN w1 b4 D.K C (.slice aN i cN) ((range i).map fun i=>(range C).map (oj D i)) ws (.slice a6 D.n c6) ((range D.n).map D.q) wr)) (fun _ v _=>D.n-(intOf v).toNat)
  ·exact⟨0,_,none,0,rfl,by omega,j8⟩
  clear j8;obtain⟨i,ws,aN,cN,rfl,hi,HT⟩:=hrel;have mL:Hid (((range i).map fun i=>(range C).map (oj D i)).length=i):=by show _=_;simp
  by_cases aq:i<D.n
  ·have i1:(i:Int)<(D.n:Int):=(by omega);have hlen:=HB.out.2.2.len i aq;have qB:=(HT.out.aP.cell (p:=⟨gN,oN+i,none⟩) Hg.out).trans (sw.out i aq).1;have zN:=(sw.out i aq).2;rw[hlen] at qB zN
   try dsimp only at qB
   have xM:Hid (kY wr.drew (D.A i) C (D.nx i)):=(zN.below HT.out.aP).below (Below.refl _ _).drew;have C0:Hid ((range (i+1)).map (fun i=>(range C).map (oj D i))=(range i).map (fun i=>(range C).map (oj D i))++[(range C).map (oj D i)]):=(by show _=_;rw[range_succ,map_append];rfl);have ve:Hid ((range C).map (oQ (D.nx i) (fun x=>if f x=true then ((x:Nat):Int) else -1))=(range C).map (oj D i)):=by
    show _=_;refine(List.map_congr_left fun c hc=>?_);have fB:c<C:=(by simpa using hc);have hb:=HB.out.2.2.nx i c aq fB;unfold oQ oj;by_cases h1:D.nx i c=-1
    ·rw[if_pos h1,if_neg (by omega),h1]
    rw[if_neg h1];have hx:(D.nx i c).toNat<D.n:=(by omega);dsimp only;by_cases h2:f (D.nx i c).toNat=true
    ·rw[if_pos h2,if_neg (fun h=>h.2 ((Lb.out.2 _ hx).1 h2))];omega
    rw[if_neg h2,if_pos ⟨by omega,fun h=>h2 ((Lb.out.2 _ hx).2 h)⟩]
   clear hlen zN;go_upto_region 8 with fail;clear qB;refine wp_region_held_drew (S:=fun W'=>Below w1.heap.size w1 W') (by kernel_rfl) HT.out.aP.drew fun η=>?_;have HT:Hid (iN w1 b4 D.K C (.slice aN i cN) ((range i).map fun i=>(range C).map (oj D i)) ws (.slice a6 D.n c6) ((range D.n).map D.q) wr.drew):=HT.out.ab (Below.refl _ _).drew
   (refine an 0 ?_;refine an 2 ?_;refine an 3 ?_;try simp only[put,sA])
   ·refine wpAnyH_ready (rs:=[1,4]) (by kernel_rfl) (by simp) (hJ (fun K hK=>?_) (hJ (fun K hK=>?_) AllReadyH.nil))
    skip;have f1:=HT.out.f1;go_simp;refine hK.out _ _ (η) fun η=>?_;clear hK K
    try simp only[put,sA]
    clear f1;refine bc 4 (fun K hK=>?_);skip;have iR:=(HT.out.next.lt).2;have jT:=lZ HT.out.dt;go_simp;go_at_call 73;refine (NX 77 b3 D.n (fun x=>if f x=true then ((x:Nat):Int) else -1) C (D.Cp i) (D.A i) (D.nx i) _ Zm (fun W' h x hx=>Zs b3 D.n cA aA f W' ((uC.out.ab HT.out.aP).ab h) ((Lb.out.1.below HT.out.aP).below h) x hx) (by omega) (by have h9:=xM.out;exact h9) (fun c hc=>HB.out.2.2.nx i c aq hc) (by omega)).mono ?_;rintro e w5 ⟨a5,c5,rfl,jz,b5⟩;have HU:Hid (w5.ownsRow w1.heap.size 3 1 (.slice a5 C c5) C (ints ((range C).map (oj D i)))/\(∀j,j<((range i).map fun i=>(range C).map (oj D i)).length->∀b,(ws j).ownBlock=some b->(Value.slice a5 C c5).ownBlock≠some b)/\∀b,(Value.slice a5 C c5).ownBlock=some b->(Value.slice a6 D.n c6).ownBlock≠some b):=by
     have jK:=kL jz;refine⟨?_,fun j hj b e1 e2=>?_,fun b e1 e2=>?_⟩
     ·rw[<-ve.out];exact gn jz HT.out.aP.size
     ·have h1:=iR j hj b e1;have h2:=jK b e2
      try simp only[k8] at h1
      try simp only[k8] at h2
      omega
     have h1:=jT b e2;have h2:=jK b e1
     try simp only[k8] at h1
     try simp only[k8] at h2
     omega
    have HT:=hid (HT.out.ab b5);clear jz b5 iR jT
    try go_wp2_with fail
    refine hK.out _ _ (HT.out.aP) fun η=>?_;clear hK K
    try simp only[put,sA]
    refine bc 5 (fun K hK=>?_);skip;go_simp;have kk:=al w5 (.cells #[.slice a5 C c5] 27);have HN:Hid (∀j u,[Value.slice a5 C c5][j]?=some u->(w5.alloc (.cells #[.slice a5 C c5] 27)).cell? ((⟨w5.heap.size,0,none⟩:Addr).add j)=some u):=cell_one_new _ _ _;have HT:=hid (HT.out.ab kk);have HU:=ζ (db HU.out.1 kk) HU.out.2;refine hK.out _ _ (HT.out.aP) fun η=>?_;clear hK K
    try simp only[put,sA]
    clear kk;generalize w5.alloc (.cells #[.slice a5 C c5] 27)=V5 at HN HT HU η⊢;refine bc 6 (fun K hK=>?_);skip;have hO:=(HT.out.next.own);rw[mL.out] at hO;refine si (by rfl) _ _ _ (by rfl) w1.heap.size 27 iV (.slice none 0 0) 1 24 underlying26 hV vb va vD (by rfl) (by decide) _ i ((range i).map ws) (by rfl) hO ⟨w5.heap.size,0,none⟩ 1 1 [.slice a5 C c5] (by rfl) (by rfl) HN.out (by intro u hu;simp at hu;subst hu;rfl) (by unfold maxLen;omega) (by omega) HT.out.aP.size ?_;intro v6 w6 aj af;obtain⟨a7,c7,rfl⟩:=bP aj;have jJ:=hid (HT.out.gJ (u:=.slice a5 C c5) (vN':=.slice a7 (i+1) c7) HU.out.1 HU.out.2.1 HU.out.2.2 mL.out aj af);have h9:=(HT.out.st.ae HT.out.next.own (by decide) af);have z2:w6.cell? ⟨b4,256,none⟩=some (.slice aN i cN):=(by rw[h9.at_,qu]);have z3:w6.frozen? ⟨b4,256,none⟩=false:=h9.bb 256;have eU:=(fL HT.out.aP HT.out.next.own HT.out.aP.size af);clear aj af h9 hO;refine hK.out _ _ (eU) fun η=>?_;clear hK K
    rotate_left
    skip;have iR:=(HT.out.next.lt).2;have jT:=lZ HT.out.dt;go_simp;go_at_call 73;refine (NX 77 b3 D.n (fun x=>if f x=true then ((x:Nat):Int) else -1) C (D.Cp i) (D.A i) (D.nx i) _ Zm (fun W' h x hx=>Zs b3 D.n cA aA f W' ((uC.out.ab HT.out.aP).ab h) ((Lb.out.1.below HT.out.aP).below h) x hx) (by omega) (by have h9:=xM.out;exact h9) (fun c hc=>HB.out.2.2.nx i c aq hc) (by omega)).mono ?_;rintro e w5 ⟨a5,c5,rfl,jz,b5⟩;have HU:Hid (w5.ownsRow w1.heap.size 3 1 (.slice a5 C c5) C (ints ((range C).map (oj D i)))/\(∀j,j<((range i).map fun i=>(range C).map (oj D i)).length->∀b,(ws j).ownBlock=some b->(Value.slice a5 C c5).ownBlock≠some b)/\∀b,(Value.slice a5 C c5).ownBlock=some b->(Value.slice a6 D.n c6).ownBlock≠some b):=by
     have jK:=kL jz;refine⟨?_,fun j hj b e1 e2=>?_,fun b e1 e2=>?_⟩
     ·rw[<-ve.out];exact gn jz HT.out.aP.size
     ·have h1:=iR j hj b e1;have h2:=jK b e2
      try simp only[k8] at h1
      try simp only[k8] at h2
      omega
     have h1:=jT b e2;have h2:=jK b e1
     try simp only[k8] at h1
     try simp only[k8] at h2
     omega
    have HT:=hid (HT.out.ab b5);clear jz b5 iR jT
    try go_wp2_with fail
    refine hK.out _ _ (HT.out.aP) fun η=>?_;clear hK K
    try simp only[put,sA]
    refine wpAnyH_ready (rs:=[1,5]) (by kernel_rfl) (by simp) (hJ (fun K hK=>?_) (hJ (fun K hK=>?_) AllReadyH.nil))
    skip;have f1:=HT.out.f1;go_simp;refine hK.out _ _ (η) fun η=>?_;clear hK K
    try simp only[put,sA]
    clear f1;refine bc 5 (fun K hK=>?_);skip;go_simp;have kk:=al w5 (.cells #[.slice a5 C c5] 27);have HN:Hid (∀j u,[Value.slice a5 C c5][j]?=some u->(w5.alloc (.cells #[.slice a5 C c5] 27)).cell? ((⟨w5.heap.size,0,none⟩:Addr).add j)=some u):=cell_one_new _ _ _;have HT:=hid (HT.out.ab kk);have HU:=ζ (db HU.out.1 kk) HU.out.2;refine hK.out _ _ (HT.out.aP) fun η=>?_;clear hK K
    try simp only[put,sA]
    clear kk;generalize w5.alloc (.cells #[.slice a5 C c5] 27)=V5 at HN HT HU η⊢;refine bc 6 (fun K hK=>?_);skip;have hO:=(HT.out.next.own);rw[mL.out] at hO;refine si (by rfl) _ _ _ (by rfl) w1.heap.size 27 iV (.slice none 0 0) 1 24 underlying26 hV vb va vD (by rfl) (by decide) _ i ((range i).map ws) (by rfl) hO ⟨w5.heap.size,0,none⟩ 1 1 [.slice a5 C c5] (by rfl) (by rfl) HN.out (by intro u hu;simp at hu;subst hu;rfl) (by unfold maxLen;omega) (by omega) HT.out.aP.size ?_;intro v6 w6 aj af;obtain⟨a7,c7,rfl⟩:=bP aj;have jJ:=hid (HT.out.gJ (u:=.slice a5 C c5) (vN':=.slice a7 (i+1) c7) HU.out.1 HU.out.2.1 HU.out.2.2 mL.out aj af);have h9:=(HT.out.st.ae HT.out.next.own (by decide) af);have z2:w6.cell? ⟨b4,256,none⟩=some (.slice aN i cN):=(by rw[h9.at_,qu]);have z3:w6.frozen? ⟨b4,256,none⟩=false:=h9.bb 256;have eU:=(fL HT.out.aP HT.out.next.own HT.out.aP.size af);clear aj af h9 hO;refine hK.out _ _ (eU) fun η=>?_;clear hK K
    rotate_left
    skip;go_simp;have kk:=al w5 (.cells #[.slice a5 C c5] 27);have HN:Hid (∀j u,[Value.slice a5 C c5][j]?=some u->(w5.alloc (.cells #[.slice a5 C c5] 27)).cell? ((⟨w5.heap.size,0,none⟩:Addr).add j)=some u):=cell_one_new _ _ _;have HT:=hid (HT.out.ab kk);have HU:=ζ (db HU.out.1 kk) HU.out.2;refine hK.out _ _ (HT.out.aP) fun η=>?_;clear hK K
    try simp only[put,sA]
    clear kk;generalize w5.alloc (.cells #[.slice a5 C c5] 27)=V5 at HN HT HU η⊢;refine bc 1 (fun K hK=>?_);skip;have f1:=HT.out.f1;go_simp;refine hK.out _ _ (η) fun η=>?_;clear hK K
    try simp only[put,sA]
    clear f1;refine bc 6 (fun K hK=>?_);skip;have hO:=(HT.out.next.own);rw[mL.out] at hO;refine si (by rfl) _ _ _ (by rfl) w1.heap.size 27 iV (.slice none 0 0) 1 24 underlying26 hV vb va vD (by rfl) (by decide) _ i ((range i).map ws) (by rfl) hO ⟨w5.heap.size,0,none⟩ 1 1 [.slice a5 C c5] (by rfl) (by rfl) HN.out (by intro u hu;simp at hu;subst hu;rfl) (by unfold maxLen;omega) (by omega) HT.out.aP.size ?_;intro v6 w6 aj af;obtain⟨a7,c7,rfl⟩:=bP aj;have jJ:=hid (HT.out.gJ (u:=.slice a5 C c5) (vN':=.slice a7 (i+1) c7) HU.out.1 HU.out.2.1 HU.out.2.2 mL.out aj af);have h9:=(HT.out.st.ae HT.out.next.own (by decide) af);have z2:w6.cell? ⟨b4,256,none⟩=some (.slice aN i cN):=(by rw[h9.at_,qu]);have z3:w6.frozen? ⟨b4,256,none⟩=false:=h9.bb 256;have eU:=(fL HT.out.aP HT.out.next.own HT.out.aP.size af);clear aj af h9 hO;refine hK.out _ _ (eU) fun η=>?_;clear hK K
    rotate_left
    all_goals
     try simp only[put,sA]
     (refine an 7 ?_;try simp only[put,sA])
     refine bc 8 (fun K hK=>?_);skip;go_simp;refine hK.out _ _ (jJ.out.aP) fun η=>?_;clear hK K
     try simp only[put,sA]
     refine wpAnyH_done (by kernel_rfl) ?_ _;rw[<-C0.out] at jJ;clear η z2 z3 eU;go_wp2;go_roundw
     ·exact⟨i+1,_,a7,c7,by go_num,by omega,jJ⟩
     simp[intOf];omega
  obtain rfl:i=D.n:=by omega
  have jq:=hid HT.out.st;have gd:=hid (H1.out.2.1.ab HT.out.aP);have hd:=mY D.K (.slice aN D.n cN) (.slice a6 D.n c6);have Bi:Hid (Below w.heap.size w (wr.setRow b2 (dJ D.K (.slice aN D.n cN) (.slice a6 D.n c6)))):=by
   rw[Hb.out.1];exact kZ (H1.out.2.2.trans (HT.out.aP.mono (by have:=uR.out;have:=Hb.out.1;omega))) (by have:=Hb.out;omega) _
  have HF:Hid (Eo D C D.n (oj D) D.q w (.returned (.agg (dJ D.K (.slice aN D.n cN) (.slice a6 D.n c6)))) (wr.setRow b2 (dJ D.K (.slice aN D.n cN) (.slice a6 D.n c6)))):=
   HT.out.RD HB.out.1.dm.kl mL.out (fun r hr=>by obtain⟨j,_,rfl⟩:=List.mem_map.1 hr;simp) rfl (fun j hj c hc=>by simp[getD_eq_getElem?_getD,hj,hc]) uR.out (inr ⟨b2,_,_,gd.out,rfl⟩) Bi.out
  go_wp2_with (first|(refine p5 rfl 29 _ rfl ⟨b4,0,none⟩ rfl (dJ D.K (.slice aN D.n cN) (.slice a6 D.n c6)) _ jq.out.part underlying29 rfl (by rw[fH,hd]) ?_)|(refine lO rfl 29 _ _ rfl b2 29 (zC 29) (dJ D.K (.slice aN D.n cN) (.slice a6 D.n c6)) rfl rfl gd.out (by rw[ia,hd]) (by rw[fH,hd]) (yj _ _ _ _ _ _ _) ?_));refine bodyPost_ret (results_cell_row rfl _ _ b2 29 (dJ D.K (.slice aN D.n cN) (.slice a6 D.n c6)) (0,0) _ rfl gd.out.setRow underlying29 rfl (by rw[fH,hd])) rfl ?_;exact HF.out
