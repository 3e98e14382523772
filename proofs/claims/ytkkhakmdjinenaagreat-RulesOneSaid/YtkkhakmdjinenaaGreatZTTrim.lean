import Derived.Test.YtkkhakmdjinenaaGreatZTRefW
set_option linter.all false
set_option maxHeartbeats 4000000
set_option maxRecDepth 100000
open Go.Lib (hid)
namespace Go.Proofs.YtkkhakmdjinenaaGreat
open Go.RowKit Go.Maps Go.WideElems Go.ChangeMaps Go.MapKept Go.Proofs.Tryz
open List (getD_eq_getElem?_getD getElem?_append getElem_mem length_append map_append mem_append mem_singleton range range_succ replicate)
open Nat (le_refl le_trans)
open Sem (run_bind run_pure)
open Result (andThen_ok)
open Or (inl inr)
open Act (eval put)
open Instr (build fill)
open Region (wanted)
variable {B C b4 c f n q t:Nat}{D:Dd}{P:Program}{a:Option Addr}{l:List Nat}{ms:List Int}{ops:Array Oper}{tg:Nat->List Nat}{u:Value}{w w':World}{ws:Nat->Value}{xs:List Value}
def nA(w:World)(a:Option Addr)(l:List Nat):Prop:=kW w a l.length (fun i=>((l.getD i 0:Nat):Int))
theorem nA.below(h:nA w a l)(k:Below w.heap.size w w'):nA w' a l:=kW.below h k
theorem sx(h:w.ownsRow B 3 1 (.slice a n c) n (cW l))(hl:l.length=n):nA w a l:=by
 have e:cW l=ints (l.map fun x=>((x:Nat):Int)):=by simp[cW,ints]
 rw[e] at h;have h2:=PK h (by simpa using hl);unfold nA;rw[hl];intro h0;obtain⟨g,off,e1,e2,hc⟩:=h2 h0;refine⟨g,off,e1,e2,fun j hj=>?_⟩;rw[hc j hj];have:j<l.length:=by omega
 simp[getD_eq_getElem?_getD,this]
theorem Si(n:Nat)(l:List Nat)(a:Option Addr)(q c:Nat)(hq:l.length=q)(hq2:q<=1000000)(hn:n<=1000000)(hl:∀x∈l,x<n)(w:World)(hL:nA w a l):
  Calls prog 94 #[.int .i64 (n:Int),.slice a q c] w (Ce n (fun x=>x∈l) w):=by
 have eR:=QK n (by omega);have HL:=hid (Zz hL (Zz hq hl));have HO:=hid (OB.made w n (by unfold maxLen;omega));clear hL hq hl;go_in;go_wp2_with fail;obtain⟨g,hg⟩:∃g,w.heap.size=g:=⟨_,rfl⟩
 have kq:Hid (∀W1,(w.alloc (.cells (madeCells #[.bool false] n) 4))=W1->OB w g n (fun _=>false) W1):=fun W1 h=>by rw[<-h,<-hg];exact HO.out
 rw[hg];generalize pU:w.alloc (.cells (madeCells #[.bool false] n) 4)=W1;have HO:=hid (kq.out W1 pU);have HOl:=hid (fun (wr:World) (h:OB w g n (fun _=>false) wr)=>h);have HLW:=hid (fun (wr:World) (hb:Below w.heap.size w wr)=>HL.out.1.below hb);clear kq hg pU;go_loopw [7,12] (fun _ v wr=>∃(k:Nat) (f:Nat->Bool),v=.int .i64 k/\k<=q/\Hid (OB w g n f wr/\∀x,f x=true↔x∈l.take k)) (fun _ v _=>q-(intOf v).toNat)
 ·exact⟨0,_,rfl,by omega,⟨HO.out,fun x=>by simp⟩⟩
 clear HO;obtain⟨k,f,rfl,hk,HX⟩:=hrel;by_cases aq:k<q
 ·have hkl:k<l.length:=by rw[HL.out.2.1];exact aq
  obtain⟨gL,oL,rfl,_,c0⟩:=HLW.out wr HX.out.1.aP (by omega);have c1:=c0 k hkl;have hx:l.getD k 0=l[k]:=by simp[getD_eq_getElem?_getD,hkl]
  have hY:=HL.out.2.2 l[k] (getElem_mem hkl);dsimp only at c1;rw[hx] at c1;have HS:Hid (∀x,(if x=l[k] then true else f x)=true↔x∈l.take (k+1)):=fun x=>by
   rw[List.take_succ_eq_append_getElem hkl,mem_append,mem_singleton];by_cases e:x=l[k]
   ·rw[if_pos e];simp[e]
   rw[if_neg e,HX.out.2];simp[e]
  clear c0 hx;generalize l[k]=t at c1 hY HS;obtain⟨y0,y1⟩:=HX.out.1.cell t hY;have HA:=hid (HX.out.1.put t hY true);have i1:(k:Int)<q:=by omega
  have i2:(t:Int)<n:=by omega
  go_wp2;go_roundw
  ·exact⟨k+1,_,by go_num,by omega,⟨HA.out,HS.out⟩⟩
  simp[intOf];omega
 obtain rfl:k=q:=by omega
 have HZ:Hid (Ce n (fun x=>x∈l) w (.returned (.slice (some ⟨g,0,none⟩) n n)) wr):=
  ⟨f,_,_,rfl,HX.out.1.own,fun x _=>by rw[HX.out.2,List.take_of_length_le (by rw[HL.out.2.1];exact le_refl _)],HX.out.1.aP⟩
 go_wp2;go_ret;exact HZ.out
def QW(q:Nat)(z:Nat->Int)(w:World)(e:Ending)(w':World):Prop:=
 ∃(a:Option Addr) (c:Nat),e=.returned (.slice a q c)/\w'.ownsRow w.heap.size 3 1 (.slice a q c) q (ints ((range q).map z))/\Below w.heap.size w w'
theorem zmu{z:Nat->Int}{g o:Nat}(hc:∀j,j<q->w.cell? ⟨g,o+j,none⟩=some (.int .i64 (z j))):∀j u,(ints ((range q).map z))[j]?=some u->w.cell? ((⟨g,o,none⟩:Addr).add j)=some u:=by
 intro j u hj;have hl:j<q:=by
  have:=(List.getElem?_eq_some_iff.1 hj).1;simpa [ints] using this
 have e:(⟨g,o,none⟩:Addr).add j=⟨g,o+j,none⟩:=by unfold Addr.add;split <;> simp_all
 rw[e,hc j hl];simp[ints,hl] at hj;rw[hj]
theorem Yd(a:Option Addr)(n c:Nat)(W:World):(binOp .eql 27 (.slice a n c) (.slice none 0 0)).run prog W=.ok (.bool a.isNone) W:=by
 have h:=run_equal_slice_nil W 27 3 a n c underlying27;unfold binOp;simp only[run_bind,h,andThen_ok,run_pure]
theorem MN(q c:Nat)(a:Option Addr)(z:Nat->Int)(hq:q<=1000000)(w:World)(hz:kW w a q z)(ha:a=none->q=0/\c=0)(hs:∀ad,a=some ad->ad.spot=none):
  Calls prog 76 #[.slice a q c] w (QW q z w):=by
 have HZ:=hid hz;obtain⟨iI,hI,rW,r8,sh⟩:=info_parts aG;clear hz;go_in;rcases a with _|⟨g,o,sp⟩
 ·obtain⟨rfl,rfl⟩:=ha rfl;have he:(binOp .eql 27 (.slice none 0 0) (.slice none 0 0)).run prog w=.ok (.bool true) w:=Yd none 0 0 w;have HF:Hid (QW 0 z w (.returned (.slice none 0 0)) w):=⟨none,0,rfl,World.ownsRow_nil _ _ _ _,Below.refl _ _⟩
  go_wp2;go_ret;exact HF.out
 obtain rfl:sp=none:=hs _ rfl;have he:(binOp .eql 27 (.slice (some ⟨g,o,none⟩) q c) (.slice none 0 0)).run prog w=.ok (.bool false) w:=Yd _ q c w;have HN:Hid (∀W,Below w.heap.size w W->∀j u,(ints ((range q).map z))[j]?=some u->W.cell? ((⟨g,o,none⟩:Addr).add j)=some u):=fun W hb=>by
  rcases Nat.eq_zero_or_pos q with h0|h0
  ·subst h0;intro j u hj;simp[ints] at hj
  obtain⟨g',o',e,_,hc⟩:=(HZ.out.below hb) h0;injection e with e;injection e with e1 e2;subst e1 e2;exact zmu hc
 have az:=vV w w.heap.size 3 1 #[] 0 rfl (le_refl _) (by decide);go_wp2_with (at_builtin;refine wpList_append_own_at _ rfl _ _ 27 rfl w.heap.size 3 iI (.int .i64 0) 1 8 underlying27 hI rW r8 sh rfl (by decide) _ _ _ rfl az ⟨g,o,none⟩ q c (ints ((range q).map z)) rfl (by simp[ints]) (HN.out _ (al w _)) ?d2 ?d3 ?d4 ?d5 ?_)
 case d2=>
  intro u hu;simp[ints] at hu;obtain⟨x,_,rfl⟩:=hu;rfl
 case d3=>unfold maxLen;omega
 case d4=>omega
 any_goals (first|(simp;done)|skip)
 intro v5 w5 ah ag _ bJ
 try rw[Nat.zero_add] at ah
 try rw[Array.toList_empty,List.nil_append] at ah
 obtain⟨a5,c5,rfl⟩:=bP ah;have HF:Hid (QW q z w (.returned (.slice a5 q c5)) w5):=⟨a5,c5,rfl,ah,fG (al w (.cells #[] 3)) az (by simp) ag⟩
 clear ah ag bJ;go_wp2;go_ret;exact HF.out
def av(len:Nat->Nat)(nx:Nat->Nat->Int)(i:Nat):List Int:=(range (len i)).map (nx i)
def Xv(rows:Nat->List Int)(l0:List Nat)(n:Nat)(w:World)(e:Ending)(w':World):Prop:=
 ∃(l:List Nat) (i:Nat) (a:Option Addr) (c:Nat),e=.returned (.slice a i c)/\w'.ownsRow w.heap.size 3 1 (.slice a i c) i (cW l)/\l=dw rows l0 i/\l.length=i/\i<=n/\(∀x∈l,x<n)/\Below w.heap.size w w'
theorem zmv(nx:Nat->Nat->Int)(x c:Nat)(m:List Nat):iv m ((range (c+1)).map (nx x))=iZ (iv m ((range c).map (nx x))) (nx x c):=by
 rw[range_succ,map_append,List.map_singleton,zmt]
theorem TG(n cL:Nat)(aL:Option Addr)(A:Nat->Option Addr)(Cp len:Nat->Nat)(nx:Nat->Nat->Int)(l0:List Nat)(aF:Option Addr)(q cF:Nat)(hn:n<=100000)(hlen:∀i,i<n->len i<=100000)(yT:∀i c,i<n->c<len i->-1<=nx i c/\nx i c<(n:Int))
  (hq:l0.length=q) (ju:l0.Nodup) (ko:∀x∈l0,x<n) (w:World) (hR:pQ w aL n A Cp len nx) (hF:nA w aF l0) (ha:aF=none->q=0/\cF=0) (hs:∀ad,aF=some ad->ad.spot=none):
  Calls prog 72 #[.slice aL n cL,.slice aF q cF] w (Xv (av len nx) l0 n w):=by
 have EI:q<=n:=by rw[<-hq];exact qC ju ko
 have HX:=hid (Zz hlen (Zz yT (Zz hq (Zz ju (Zz ko (Zz hR hF))))));have qN:=hid (MN q cF aF (fun i=>((l0.getD i 0:Nat):Int)) (by omega) w (by rw[<-hq];exact hF) ha hs);obtain⟨iI,hI,rW,r8,sh⟩:=info_parts aG;clear hlen yT hq ju ko hR hF ha hs;go_in;go_wp2_with fail;refine qN.out.mono ?_;rintro e w1 ⟨a1,c1,rfl,az,b1⟩;have zE:ints ((range q).map (fun i=>((l0.getD i 0:Nat):Int)))=cW l0:=by
  apply List.ext_getElem?;intro j;have hq:=HX.out.2.2.1;by_cases h:j<q
  ·have h2:j<l0.length:=(by omega);simp[ints,cW,h,h2,getD_eq_getElem?_getD]
  have h2:¬j<l0.length:=by omega
  simp[ints,cW,h,h2]
 rw[zE] at az;have ug:=hid (Zz az b1);have T7:=hid (Si n l0 a1 q c1 HX.out.2.2.1 (by omega) (by omega) HX.out.2.2.2.2.1 w1 (sx az HX.out.2.2.1));clear az b1 zE qN;go_wp2_with fail;refine T7.out.mono ?_;rintro e w2 ⟨f,a2,c2,rfl,eW,hf,b2⟩;have fp:∃g,(Value.slice a2 n c2)=.slice (some ⟨g,0,none⟩) n c2\/n=0:=by
  rcases Nat.eq_zero_or_pos n with h|h
  ·exact⟨0,inr h⟩
  obtain⟨g,e,_⟩:=ek eW h;exact⟨g,inl (by rw[e])⟩
 have cr:fB f n=fB (fun x=>decide (x∈l0)) n:=Yt fun j hj=>by rw[Bool.eq_iff_iff,hf j hj,decide_eq_true_iff]
 rw[cr] at eW;have kq:Hid (w2.ownsRow w.heap.size 3 1 (.slice a1 q c1) q (cW l0)/\w2.ownsRow w.heap.size 4 1 (.slice a2 n c2) n (fB (fun x=>decide (x∈l0)) n)/\Below w.heap.size w w2):=⟨cY ug.out.1 b2,ga eW ug.out.2.size,ug.out.2.trans (b2.mono ug.out.2.size)⟩
 clear eW hf b2 cr T7 ug;go_wp2;go_loopw [5,7,9,30] (fun v5 v7 _ _ wr=>∃(i p:Nat) (l:List Nat) (a:Option Addr) (c:Nat),v7=.int .i64 i/\i<=p/\p<=n/\v5=.slice a p c/\Hid (l=dw (av len nx) l0 i/\l.length=p/\l.Nodup/\(∀x∈l,x<n)/\wr.ownsRow w.heap.size 3 1 (.slice a p c) p (cW l)/\wr.ownsRow w.heap.size 4 1 (.slice a2 n c2) n (fB (fun x=>decide (x∈l)) n)/\Below w.heap.size w wr)) (fun _ v _ _ _=>n-(intOf v).toNat)
 ·exact⟨0,q,l0,a1,c1,rfl,by omega,EI,rfl,⟨rfl,HX.out.2.2.1,HX.out.2.2.2.1,HX.out.2.2.2.2.1,kq.out.1,kq.out.2.1,kq.out.2.2⟩⟩
 clear kq;obtain⟨i,p,l,a,c,rfl,hip,Aj,rfl,HL⟩:=hrel;by_cases aq:i<p
 ·have lv:i<l.length:=by rw[HL.out.2.1];exact aq
  obtain⟨gM,rfl,_,_,cM⟩:=ek HL.out.2.2.2.2.1 (by omega);have d0:=(cM i (by omega)).1;rw[AY l i lv] at d0;have hY:=HL.out.2.2.2.1 l[i] (getElem_mem lv);have Ge:Hid (dw (av len nx) l0 (i+1)=iv l (av len nx l[i])):=by
   show pr _ (dw _ _ i) i=_;rw[<-HL.out.1];unfold pr;rw[if_pos lv];simp[getD_eq_getElem?_getD,lv]
  clear cM;generalize l[i]=x at d0 hY Ge;obtain⟨g2,yX⟩:=fp;obtain rfl:a2=some ⟨g2,0,none⟩:=by
   rcases yX with h|h
   ·injection h
   omega
  clear yX;have yd:=HX.out.1 x hY;obtain⟨gL,oL,eL,_,AZ⟩:=(HX.out.2.2.2.2.2.1.below HL.out.2.2.2.2.2.2) (by omega);obtain⟨d1,zx⟩:=AZ x hY;have Ip:Hid (kW w (A x) (len x) (nx x)):=by
   obtain⟨_,_,_,_,cLw⟩:=HX.out.2.2.2.2.2.1 (by omega);exact (cLw x hY).2
  have MV:=hid (fun c hc=>HX.out.2.1 x c hY hc);have HeL:=hid eL;rw[eL];have i1:(i:Int)<p:=by omega
  have i2:(x:Int)<n:=by omega
  clear AZ zx eL;obtain⟨m,hm⟩:∃m,len x=m:=⟨_,rfl⟩
  have Hm:=hid hm;rw[hm] at d1 yd Ip;generalize A x=ax at d1 Ip;generalize Cp x=cx at d1;clear hm;go_wp2_with fail;obtain⟨W9,rfl⟩:∃W9,W9=wr:=⟨wr,rfl⟩
  clear d0 d1;go_loopw [5,9,30] (fun v5 _ v30 wq=>∃(k p2:Nat) (l2:List Nat) (a:Option Addr) (c:Nat),v30=.int .i64 k/\k<=m/\p<=p2/\p2<=n/\v5=.slice a p2 c/\Hid (l2=iv l ((range k).map (nx x))/\l2.length=p2/\l2.Nodup/\(∀x∈l2,x<n)/\wq.ownsRow w.heap.size 3 1 (.slice a p2 c) p2 (cW l2)/\wq.ownsRow w.heap.size 4 1 (.slice (some ⟨g2,0,none⟩) n c2) n (fB (fun x=>decide (x∈l2)) n)/\Below w.heap.size w wq)) (fun _ _ v _=>m-(intOf v).toNat)
  ·exact⟨0,p,l,_,c,rfl,by omega,by omega,Aj,rfl,⟨rfl,HL.out.2.1,HL.out.2.2.1,HL.out.2.2.2.1,HL.out.2.2.2.2.1,HL.out.2.2.2.2.2.1,HL.out.2.2.2.2.2.2⟩⟩
  obtain⟨k,p2,l2,a,c,rfl,hk,hpp,fF,rfl,HK⟩:=hrel;by_cases dE:k<m
  ·obtain⟨gA,oA,eA,_,lC⟩:=(Ip.out.below HK.out.2.2.2.2.2.2) (by omega);have cA:=lC k dE;have hb:=MV.out k (by rw[Hm.out];exact dE);have HS:=hid (zmv nx x k l);rw[eA];have Ib:=hid eA;have i3:(k:Int)<m:=(by omega);clear lC eA;generalize nx x k=t at cA hb HS;by_cases ht:t=-1
   ·subst ht;have HZ:Hid (l2=iv l ((range (k+1)).map (nx x))):=by
     show _=_;rw[HS.out,<-HK.out.1];unfold iZ;rw[if_neg (by omega)]
    go_wp2;go_roundw
    ·exact⟨k+1,p2,l2,a,c,by go_num,by omega,by omega,by omega,rfl,⟨HZ.out,HK.out.2⟩⟩
    simp[intOf];omega
   obtain⟨u,rfl⟩:∃u:Nat,t=(u:Int):=(⟨t.toNat,by omega⟩);have hu:u<n:=(by omega);have i4:(u:Int)<n:=(by omega);have Is:((u:Int) != (-1:Int))=true:=(by first|(simp;done)|(simp;omega));obtain⟨gS,eS,xq,_,cS⟩:=ek HK.out.2.2.2.2.2.1 (by omega);obtain rfl:gS=g2:=by
    injection eS with eS;injection eS with eS _;exact eS.symm
   have y0:=(cS u (by omega)).1;have y1:=(cS u (by omega)).2;have y2:(fB (fun x=>decide (x∈l2)) n)[u]?=some (.bool (decide (u∈l2))):=(by simp[fB,hu]);rw[y2] at y0;clear cS y2 eS ht;by_cases od:u∈l2
   ·have hd:decide (u∈l2)=true:=(by simp[od]);rw[hd] at y0;have HZ:Hid (l2=iv l ((range (k+1)).map (nx x))):=by
     show _=_;rw[HS.out,<-HK.out.1];unfold iZ;rw[if_neg (by simp[od])]
    clear hd od;go_wp2;go_roundw
    ·exact⟨k+1,p2,l2,a,c,by go_num,by omega,by omega,by omega,rfl,⟨HZ.out,HK.out.2⟩⟩
    simp[intOf];omega
   have hd:decide (u∈l2)=false:=(by simp[od]);rw[hd] at y0;have HZ:Hid (l2++[u]=iv l ((range (k+1)).map (nx x))):=by
    show _=_;rw[HS.out,<-HK.out.1];unfold iZ;rw[if_pos ⟨by omega,by simpa using od⟩];simp
   have HN:Hid ((l2++[u]).Nodup/\∀x∈l2++[u],x<n):=by
    refine⟨?_,fun y hy=>?_⟩
    ·rw[List.nodup_append];exact⟨HK.out.2.2.1,by simp,fun a ha b cr e=>by
      rw[List.mem_singleton.1 cr] at e
      rw[e] at ha
      exact od ha⟩
    rcases List.mem_append.1 hy with h|h
    ·exact HK.out.2.2.2.1 y h
    rw[List.mem_singleton.1 h];exact hu
   have hpn3:p2+1<=n:=by
    have:=qC HN.out.1 HN.out.2;simp[HK.out.2.1] at this;exact this
   have HT:Hid ((wr.setCell ⟨gS,u,none⟩ (.bool true)).ownsRow w.heap.size 3 1 (.slice a p2 c) p2 (cW l2)/\(wr.setCell ⟨gS,u,none⟩ (.bool true)).ownsRow w.heap.size 4 1 (.slice (some ⟨gS,0,none⟩) n c2) n (fB (fun x=>decide (x∈l2++[u])) n)/\Below w.heap.size w (wr.setCell ⟨gS,u,none⟩ (.bool true))):=by
    have h1:=HK.out.2.2.2.2.1;have h2:=HK.out.2.2.2.2.2.1;refine⟨fC (ts:=[]) (bs:=[gS]) h1 ((Kept.refl _ _ _).setCell _ _ (inl (by simp))) (by simp) (fun b e hm=>im h1 h2 (by decide) b e (by simp[List.mem_singleton.1 hm,Value.ownBlock])),?_,HK.out.2.2.2.2.2.2.setCell (p:=⟨gS,u,none⟩) xq _⟩;have h3:=ua h2 u hu (.bool true);rw[Pf] at h3;have e:fB (fun x=>decide (x∈l2++[u])) n=fB (fun i=>if i=u then true else decide (i∈l2)) n:=Yt fun j hj=>by
     by_cases e:j=u
     ·simp[e]
     simp[e]
    rw[e];exact h3
   clear hd od;go_upto_region 11 with fail;generalize wr.setCell ⟨gS,u,none⟩ (.bool true)=W5 at HT⊢;have hO:=HT.out.1;clear y0 y1;go_wp2_with (at_builtin;refine wpList_append_own_at _ rfl _ _ 27 rfl w.heap.size 3 iI (.int .i64 0) 1 8 underlying27 hI rW r8 sh rfl (by decide) _ _ _ rfl (hO.alloc _) ⟨W5.heap.size,0,none⟩ 1 1 [.int .i64 (u:Int)] rfl rfl (cell_one_new _ _ _) ?d2 ?d3 ?d4 ?d5 ?_)
   case d2=>first|(intro u hu;simp at hu;subst hu;rfl)|rfl
   case d3=>unfold maxLen;omega
   case d4=>omega
   case d5=>have:=HT.out.2.2.size;simp at this⊢;omega
   intro v5 w5 ah ag _ bJ;obtain⟨a5,c5,rfl⟩:=bP ah;have kk:=al W5 (.cells #[.int .i64 (u:Int)] 3);have tN:=HT.out.2.2.size;have h2:=cY HT.out.2.1 kk;have HY:Hid (w5.ownsRow w.heap.size 3 1 (.slice a5 (p2+1) c5) (p2+1) (cW (l2++[u]))/\w5.ownsRow w.heap.size 4 1 (.slice (some ⟨gS,0,none⟩) n c2) n (fB (fun x=>decide (x∈l2++[u])) n)/\Below w.heap.size w w5):=by
    refine⟨by rw[xG];exact ah,qI h2 ag (fun b e e2=>im h2 (hO.alloc _) (by decide) b e e2.symm),fG (HT.out.2.2.trans (kk.mono tN)) (hO.alloc _) (le_trans tN kk.size) ag⟩
   clear ah ag bJ hO kk h2;go_wp2;go_roundw
   ·exact⟨k+1,p2+1,l2++[u],a5,c5,by go_num,by omega,by omega,by omega,rfl,⟨HZ.out,by rw[length_append,HK.out.2.1];rfl,HN.out.1,HN.out.2,HY.out.1,HY.out.2.1,HY.out.2.2⟩⟩
   simp[intOf];omega
  obtain rfl:k=m:=by omega
  have HZ:Hid (l2=dw (av len nx) l0 (i+1)):=by
   show _=_;rw[Ge.out,HK.out.1];unfold av;rw[Hm.out]
  go_wp2;go_roundw
  ·exact⟨i+1,p2,l2,a,c,by go_num,by omega,fF,rfl,⟨HZ.out,HK.out.2⟩⟩
  simp[intOf];omega
 obtain rfl:i=p:=by omega
 have HF:Hid (Xv (av len nx) l0 n w (.returned (.slice a i c)) wr):=⟨l,i,a,c,rfl,HL.out.2.2.2.2.1,HL.out.1,HL.out.2.1,Aj,HL.out.2.2.2.1,HL.out.2.2.2.2.2.2⟩
 go_wp2;go_ret;exact HF.out
theorem zg9(l:List Nat)(s q c:Nat)(a:Option Addr)(hq:l.length=q)(hq2:q<=1000000)(w:World)(hL:nA w a l):
  Calls prog 139 #[.slice a q c,.int .i64 (s:Int)] w (th (l.getLast?=some s) w):=by
 have HL:=hid (Zz hL hq);clear hL hq;go_in;rcases q with _|q
 ·have HZ:Hid (l.getLast?≠some s):=by
   show ¬_=_;rw[List.eq_nil_of_length_eq_zero HL.out.2];intro h;cases h
  go_wp2;go_ret;exact⟨false,rfl,⟨(fun h=>by cases h),(fun h=>absurd h HZ.out)⟩,Below.refl _ _⟩
 have hne:l.length=q+1:=HL.out.2;obtain⟨g,o,rfl,_,c0⟩:=HL.out.1 (by omega);have c1:=c0 q (by omega);have gy:l.getLast?=some (l.getD q 0):=by
  rw[List.getLast?_eq_getElem?,hne];have:q<l.length:=by omega
  simp[getD_eq_getElem?_getD,this]
 have HS:Hid (l.getLast?=some s↔l.getD q 0=s):=by
  show _↔_;rw[gy];simp
 clear c0 gy hne;dsimp only at c1;generalize l.getD q 0=t at c1 HS;have i1:((q:Int)+1)-1=(q:Int):=by omega
 have i2:(0:Int)<q+1:=by omega
 have i3:(q:Int)<q+1:=by omega
 by_cases e:t=s
 ·subst e;have HZ:=hid (HS.out.2 rfl);go_wp2_with fail
  try go_quiet (fail)
  try go_wp2
  go_ret;exact⟨true,rfl,⟨(fun _=>HZ.out),(fun _=>rfl)⟩,by first|exact Below.refl _ _|exact (Below.refl _ _).drew⟩
 have HZ:Hid (¬l.getLast?=some s):=fun h=>e (HS.out.1 h)
 have i4:((t:Int) == (s:Int))=false:=by simp;omega
 go_wp2_with fail
 try go_quiet (fail)
 try go_wp2
 go_ret;exact⟨false,rfl,⟨(fun h=>by cases h),(fun h=>absurd h HZ.out)⟩,by first|exact Below.refl _ _|exact (Below.refl _ _).drew⟩
structure nY (D:Dd)(f c:Nat)(tg:Nat->List Nat):Prop where
 mem:∀t,t<D.n->∀x,x∈tg t↔(x<f/\Ed D x t)\/(x=f/\f<D.n/\∃c',c'<c/\D.nx f c'=(t:Int))
 inc:∀t,t<D.n->(tg t).Pairwise (·<·)
theorem zih(hp:l.Pairwise (·<·))(hle:∀x∈l,x<=f):l.getLast?=some f↔f∈l:=by
 constructor
 ·intro h;exact List.mem_of_getLast? h
 intro h;obtain⟨i,hi,e⟩:=List.getElem_of_mem h;have rj:i=l.length-1:=by
  refine Classical.byContradiction fun hne=>?_
  have h2:=(List.pairwise_iff_getElem.1 hp) i (i+1) hi (by omega) (by omega);have h3:=hle l[i+1] (getElem_mem (by omega));omega
 rw[List.getLast?_eq_getElem?];rw[<-rj,List.getElem?_eq_getElem hi,e]
theorem YM(hp:l.Pairwise (·<·))(aq:∀x∈l,x<n):l.length<=n:=
 qC (hp.imp fun h=>by omega) aq
theorem nY.start(D:Dd):nY D 0 0 (fun _=>[]):=⟨fun t ht x=>⟨fun h=>by simp at h,fun h=>by rcases h with h|⟨_,_,c',h,_⟩ <;> omega⟩,fun t ht=>List.Pairwise.nil⟩
theorem nY.le(h:nY D f c tg)(ht:t<D.n):∀x∈tg t,x<=f:=fun x hx=>by
 rcases (h.mem t ht x).1 hx with h1|h1
 ·omega
 ·omega
theorem nY.has(h:nY D f c tg)(ht:t<D.n):(tg t).getLast?=some f↔f∈tg t:=zih (h.inc t ht) (h.le ht)
theorem nY.skip(h:nY D f c tg)(hx:D.nx f c<0\/∃t:Nat,D.nx f c=(t:Int)/\t<D.n/\f∈tg t):nY D f (c+1) tg:=by
 refine⟨fun t ht x=>?_,h.inc⟩;rw[h.mem t ht];constructor
 ·rintro (h1|⟨h1,h2,c',h3,h4⟩)
  ·exact inl h1
  exact inr ⟨h1,h2,c',by omega,h4⟩
 rintro (h1|⟨h1,h2,c',h3,h4⟩)
 ·exact inl h1
 by_cases e:c'=c
 ·subst e;rcases hx with hx|⟨t',e',rE,hm⟩
  ·omega
  have:t'=t:=by omega
  subst this;have:=(h.mem t' ht f).1 hm;subst h1;exact this
 exact inr ⟨h1,h2,c',by omega,h4⟩
theorem nY.put(h:nY D f c tg)(hf:f<D.n)(hx:D.nx f c=(t:Int))(ht:t<D.n)(hm:f∉tg t):nY D f (c+1) (fun j=>if j=t then tg t++[f] else tg j):=by
 refine⟨fun t' rE x=>?_,fun t' rE=>?_⟩
 ·by_cases e:t'=t
  ·subst e;show x∈(if t'=t' then tg t'++[f] else tg t')↔_;rw[if_pos rfl,mem_append,mem_singleton,h.mem t' rE];constructor
   ·rintro ((h1|⟨h1,h2,c',h3,h4⟩)|h1)
    ·exact inl h1
    ·exact inr ⟨h1,h2,c',by omega,h4⟩
    exact inr ⟨h1,hf,c,by omega,hx⟩
   rintro (h1|⟨h1,h2,c',h3,h4⟩)
   ·exact inl (inl h1)
   exact inr h1
  simp only[if_neg e];rw[h.mem t' rE];constructor
  ·rintro (h1|⟨h1,h2,c',h3,h4⟩)
   ·exact inl h1
   exact inr ⟨h1,h2,c',by omega,h4⟩
  rintro (h1|⟨h1,h2,c',h3,h4⟩)
  ·exact inl h1
  by_cases e2:c'=c
  ·subst e2;omega
  exact inr ⟨h1,h2,c',by omega,h4⟩
 by_cases e:t'=t
 ·subst e;show List.Pairwise _ (if t'=t' then tg t'++[f] else tg t');rw[if_pos rfl,List.pairwise_append];refine⟨h.inc t' rE,by simp,fun a ha b hb=>?_⟩;rw[List.mem_singleton.1 hb];have h1:=h.le rE a ha;have h2:a≠f:=fun e=>by rw[e] at ha;exact hm ha
  omega
 simp only[if_neg e];exact h.inc t' rE
theorem nY.row{C:Nat}(h:nY D f c tg)(hf:f<D.n)(hc:D.len f=c):nY D (f+1) 0 tg:=by
 refine⟨fun t ht x=>?_,h.inc⟩;rw[h.mem t ht];constructor
 ·rintro (h1|⟨h1,h2,c',h3,h4⟩)
  ·exact inl ⟨by omega,h1.2⟩
  subst h1;exact inl ⟨by omega,hf,c',by omega,h4⟩
 rintro (⟨h1,h2⟩|⟨_,_,c',h3,_⟩)
 ·by_cases e:x=f
  ·subst e;obtain⟨_,c',h3,h4⟩:=h2;exact inr ⟨rfl,hf,c',by omega,h4⟩
  exact inl ⟨by omega,h2⟩
 omega
def zmx(D:Dd)(w:World)(e:Ending)(w':World):Prop:=
 ∃(g:Nat) (A:Nat->Option Addr) (Cp:Nat->Nat) (tg:Nat->List Nat),e=.returned (.slice (some ⟨g,0,none⟩) D.n D.n)/\pQ w' (some ⟨g,0,none⟩) D.n A Cp (fun i=>(tg i).length) (fun i c=>(((tg i).getD c 0:Nat):Int))/\nY D D.n 0 tg/\Below w.heap.size w w'
theorem iO.zs{w3 wq:World}{gT:Nat}{vs:Nat->Value}(h:iO w3 B gT C vs tg wq):pQ wq (some ⟨gT,0,none⟩) C (fun i=>va (vs i)) (fun i=>xr (vs i)) (fun i=>(tg i).length) (fun i c=>(((tg i).getD c 0:Nat):Int)):=by
 intro h0;have aq:gT<wq.heap.size:=by
  have:=(h.iP.cell 0 h0).1;by_cases hb:gT<wq.heap.size
  ·exact hb
  simp[World.cell?,Array.getElem?_eq_none (by omega:wq.heap.size<=gT)] at this
 refine⟨gT,0,rfl,aq,fun i hi=>?_⟩;obtain⟨ai,ci,e⟩:=bP (h.iP.2.1 i hi);have hr:=h.iP.2.1 i hi;refine⟨?_,?_⟩
 ·rw[Nat.zero_add,(h.iP.cell i hi).1];simp[e,va,xr]
 show kW wq (va (vs i)) _ _;rw[e] at hr⊢;exact sx hr rfl
theorem zii(D:Dd)(C:Nat)(w:World)(hD:DM w D)(hR:DR D C):
  Calls prog 111 #[.agg D.cD] w (zmx D w):=by
 have eR:=WH D.n (by have:=hR.n2;omega);have cU:=hR.n2;have da:=hR.n1;have tX:=(hR.iq hD.kl).2;have HB:=hid (Zz (bz.new hD) (Zz (al w (.cells D.cD 29)) hR));obtain⟨iI,hI,rW,r8,sh⟩:=info_parts aG;clear hD hR;go_in;go_upto_region 1 with fail;generalize w.alloc (.cells D.cD 29)=W0 at HB⊢;obtain⟨b0,ay⟩:∃b0,w.heap.size=b0:=⟨_,rfl⟩
 rw[ay] at HB;rw[ay];have bW:=hid ay;clear ay;have f1:=HB.out.1.f1;have sN:iO (W0.alloc (.cells (madeCells #[.slice none 0 0] D.n) 27)) W0.heap.size W0.heap.size D.n (fun _=>.slice none 0 0) (fun _=>[]) (W0.alloc (.cells (madeCells #[.slice none 0 0] D.n) 27)):=iO.made W0 W0.heap.size D.n _ (le_refl _) (Below.refl _ _);have jZ:=hid sN;have pO:=hid (al W0 (.cells (madeCells #[.slice none 0 0] D.n) 27));clear sN;go_upto_region 2 with fail;obtain⟨gT,BD⟩:∃gT,W0.heap.size=gT:=⟨_,rfl⟩
 have TQ:=hid BD;rw[BD] at jZ;rw[BD];generalize W0.alloc (.cells (madeCells #[.slice none 0 0] D.n) 27)=W1 at jZ pO⊢;clear BD f1;have I1:=hid (HB.out.1.ab pO.out);have f1:=I1.out.f1;obtain⟨gN,oN,eN,km,pC⟩:=I1.out.dm.rN (by omega);rw[eN] at f1;have wF:=hid eN;have sj:=hid pC;clear eN pC;go_wp2_with fail;clear f1;go_loopw [4,5,7,15,22] (fun _ _ _ v _ wr=>∃(f:Nat) (vs:Nat->Value) (tg:Nat->List Nat),v=.int .i64 f/\f<=D.n/\Hid (iO W1 gT gT D.n vs tg wr/\nY D f 0 tg)) (fun _ _ _ v _ _=>D.n-(intOf v).toNat)
 ·exact⟨0,_,_,rfl,by omega,⟨jZ.out,nY.start D⟩⟩
 clear jZ;obtain⟨f,vs,tg,rfl,hf,HX⟩:=hrel;by_cases aq:f<D.n
 ·have eG:gN<gT:=by
   obtain⟨g,o,e,hg,_⟩:=HB.out.1.dm.rN (by omega);rw[wF.out] at e;injection e with e;injection e with e _;rw[TQ.out] at hg;omega
  have cN:=(HX.out.1.below.cell (p:=⟨gN,oN+f,none⟩) eG).trans (sj.out f aq).1;have uw:Hid (kW W0 (D.A f) (D.len f) (D.nx f)):=by
   obtain⟨_,_,_,_,c9⟩:=HB.out.1.dm.rN (by omega);exact (c9 f aq).2
  have hlen:=HB.out.2.2.len f aq;rw[hlen] at cN;rw[hlen] at uw;have yf:=hid hlen;have i1:(f:Int)<(D.n:Int):=by omega
  try dsimp only at cN
  clear hlen eG;go_wp2_with fail;clear cN;go_loopw [7,22] (fun _ v wr=>∃(c:Nat) (vs:Nat->Value) (tg:Nat->List Nat),v=.int .i64 c/\c<=C/\Hid (iO W1 gT gT D.n vs tg wr/\nY D f c tg)) (fun _ v _=>C-(intOf v).toNat)
  ·exact⟨0,vs,tg,rfl,by omega,HX⟩
  clear HX;obtain⟨c,vs,tg,rfl,hc,HX⟩:=hrel;have MD:Hid (Below W0.heap.size W0 wr):=by
   have h:=HX.out.1.below;rw[<-TQ.out] at h;exact pO.out.trans h
  by_cases mj:c<C
  ·obtain⟨gA,oA,eA,_,lC⟩:=(uw.out.below MD.out) (by omega);have cA:=lC c mj;have hb:=HB.out.2.2.nx f c aq mj;have wI:=hid (fun h=>HX.out.2.skip h);have ZE:=hid (fun (t:Nat) h1 h2 h3=>HX.out.2.put (t:=t) aq h1 h2 h3);have i2:(c:Int)<C:=(by omega);rw[eA];have Ib:=hid eA;clear lC eA;generalize D.nx f c=t at cA hb wI ZE;by_cases ht:t=-1
   ·subst ht;have HZ:=hid (wI.out (inl (by omega)));go_wp2;go_roundw
    ·exact⟨c+1,vs,tg,by go_num,by omega,⟨HX.out.1,HZ.out⟩⟩
    simp[intOf];omega
   obtain⟨u,rfl⟩:∃u:Nat,t=(u:Int):=(⟨t.toNat,by omega⟩);have hu:u<D.n:=(by omega);have i3:(u:Int)<(D.n:Int):=(by omega);have Is:((u:Int) != (-1:Int))=true:=(by first|(simp;done)|(simp;omega));obtain⟨y0,y1⟩:=HX.out.1.iP.cell u hu;have TS:=HX.out.1.iP.2.1 u hu;obtain⟨au,cu,Ml⟩:=bP TS;have tu:(tg u).length<=D.n:=YM (HX.out.2.inc u hu) (fun x hx=>by have:=HX.out.2.le hu x hx;omega);rw[Ml] at y0;have CU:=TS;rw[Ml] at CU;have EB:=hid (zg9 (tg u) f (tg u).length cu au rfl (by omega) wr (sx CU rfl));have Kb:=hid Ml;clear TS CU Ml ht;obtain⟨q,hq⟩:∃q,(tg u).length=q:=(⟨_,rfl⟩);have Hq:=hid hq;dsimp only at y0;rw[hq] at y0 EB tu;clear hq;go_wp2_with fail;refine EB.out.mono ?_;rintro e w5 ⟨b,rfl,px,k5⟩;have Fk:=hid (HX.out.1.ab k5);have Uu:Hid (b=true↔f∈tg u):=by
    show _↔_;rw[px,HX.out.2.has hu]
   clear px k5 EB y0 y1;rcases b with _|_
   ·have HN:Hid (f∉tg u):=(fun h=>by have:=Uu.out.2 h;cases this);have HZ:=hid (ZE.out u rfl hu HN.out);obtain⟨y0,y1⟩:=Fk.out.iP.cell u hu;rw[Kb.out] at y0;have hO:=Fk.out.iP.2.1 u hu;dsimp only at hO y0;rw[Kb.out,Hq.out] at hO;rw[Hq.out] at y0;go_wp2_with (at_builtin;refine wpList_append_own_at _ rfl _ _ 27 rfl W1.heap.size 3 iI (.int .i64 0) 1 8 underlying27 hI rW r8 sh rfl (by decide) _ _ _ rfl (hO.alloc _) ⟨w5.heap.size,0,none⟩ 1 1 [.int .i64 (f:Int)] rfl rfl (cell_one_new _ _ _) ?d2 ?d3 ?d4 ?d5 ?_)
    case d2=>first|(intro u hu;simp at hu;subst hu;rfl)|rfl
    case d3=>unfold maxLen;omega
    case d4=>omega
    case d5=>have:=Fk.out.below.size;simp;omega
    intro v6 w6 aj af _ dg;have kk:=al w5 (.cells #[.int .i64 (f:Int)] 3);have pK:=hid ((Fk.out.ab kk).app hu Hq.out (v':=v6) (t:=f) (by exact aj) (by rw[Kb.out,Hq.out];exact af) (fun b e=>by
     rcases dg with h|h
     ·rw[h] at e
      refine inl ?_
      rw[Kb.out,Hq.out]
      exact e
     ·rw[h] at e
      refine inr ?_
      simp at e
      simp
      omega))
    obtain⟨a6,c6,rfl⟩:=bP aj;have gj:=af;obtain⟨z0,z1⟩:w6.cell? ⟨gT,u,none⟩=some (vs u)/\w6.frozen? ⟨gT,u,none⟩=false:=by
     have oh:=(Fk.out.ab kk).iP;have hs:=oh.1.ae (oh.2.1 u hu) (by decide) (by rw[Kb.out,Hq.out];exact gj);exact⟨by rw[hs.at_];simp[hu],hs.bb u⟩
    clear aj af dg hO kk gj y0 y1;go_wp2;go_roundw
    ·exact⟨c+1,_,_,by go_num,by omega,⟨pK.out,HZ.out⟩⟩
    simp[intOf];omega
   have HZ:=hid (wI.out (inr ⟨u,rfl,hu,Uu.out.1 rfl⟩));go_wp2;go_roundw
   ·exact⟨c+1,vs,tg,by go_num,by omega,⟨Fk.out,HZ.out⟩⟩
   simp[intOf];omega
  obtain rfl:c=C:=by omega
  have HZ:=hid (HX.out.2.row (C:=c) aq yf.out);go_wp2;go_roundw
  ·exact⟨f+1,vs,tg,by go_num,by omega,⟨HX.out.1,HZ.out⟩⟩
  simp[intOf];omega
 obtain rfl:f=D.n:=by omega
 have HF:Hid (zmx D w (.returned (.slice (some ⟨gT,0,none⟩) D.n D.n)) wr):=by
  refine⟨gT,_,_,tg,rfl,HX.out.1.zs,HX.out.2,?_⟩;have h:=HX.out.1.below;rw[<-TQ.out] at h;have h0:=HB.out.2.1;rw[<-bW.out] at h0;exact h0.trans ((pO.out.trans h).mono h0.size)
 go_wp2;go_ret;exact HF.out
theorem zq1{s:Nat}(hR:DR D C)(hs:s<D.n)(x:Nat):jA (WE (av D.len D.nx)) (fun y=>y∈[s]) x↔jA (Ed D) (fun y=>y=s) x:=by
 have mem:∀x y,WE (av D.len D.nx) x y↔∃c,c<D.len x/\D.nx x c=(y:Int):=fun x y=>by
  unfold WE av;simp
 constructor
 ·intro h;have:jA (Ed D) (fun y=>y=s) x/\x<D.n:=by
   induction h with
   | base h=>
    have e:=List.mem_singleton.1 h;subst e;exact⟨.base rfl,hs⟩
   | step _ e ih=>
    have h2:Ed D _ _:=(⟨ih.2,(mem _ _).1 e⟩);exact⟨.step ih.1 h2,hR.ed _ _ h2⟩
  exact this.1
 intro h
 induction h with
 | base h=>subst h;exact .base (by simp)
 | step _ e ih=>exact .step ih ((mem _ _).2 e.2)
theorem zij(D:Dd)(C:Nat)(s:Int)(w:World)(hD:DM w D)(hR:DR D C):
  Calls prog 58 #[.agg D.cD,.int .i64 s] w (Ce D.n (Ax D s) w):=by
 have eR:=QK D.n (by have:=hR.n2;omega);have cU:=hR.n2;have da:=hR.n1;have tX:=(hR.iq hD.kl).2;have HB:=hid (Zz (bz.new hD) (Zz (al w (.cells D.cD 29)) hR));clear hD hR;go_in;go_upto_region 1 with fail;generalize w.alloc (.cells D.cD 29)=W0 at HB⊢;obtain⟨b0,ay⟩:∃b0,w.heap.size=b0:=⟨_,rfl⟩
 rw[ay] at HB;rw[ay];have bW:=hid ay;have pL:b0<=W0.heap.size:=by have:=HB.out.2.1.size;omega
 clear ay;have rG:=hid (EO D C HB.out.2.2 W0 HB.out.1.dm);go_wp2_with (refine jr (by rfl) 29 _ rfl ⟨b0,0,none⟩ rfl D.cD _ HB.out.1.st.part underlying29 rfl HB.out.1.dm.info ?_);refine rG.out.mono ?_;rintro e w1 ⟨rfl,b1⟩;have H1:=hid (Zz (HB.out.1.ab b1) (HB.out.2.1.trans (b1.mono pL)));have eG:b0<=w1.heap.size:=by have:=b1.size;omega
 have mW:=hid (Jd D s w1 H1.out.1.dm);clear b1 rG;go_wp2_with (refine jr (by rfl) 29 _ rfl ⟨b0,0,none⟩ rfl D.cD _ H1.out.1.st.part underlying29 rfl H1.out.1.dm.info ?_);refine mW.out.mono ?_;rintro e w2 ⟨rfl,b2⟩;have H2:=hid (Zz (H1.out.1.ab b2) (H1.out.2.trans (b2.mono eG)));have cr:b0<=w2.heap.size:=by have:=b2.size;omega
 have mL:Hid (∀W',Below w2.heap.size w2 W'->Below w.heap.size w W'):=fun W' h=>by
  rw[bW.out];exact H2.out.2.trans (h.mono cr)
 have F8:Hid (w.heap.size<=w2.heap.size):=by show _<=_;rw[bW.out];exact cr
 have f1:=H2.out.1.f1;clear b2 mW;by_cases hs:0<=s/\s<(D.n:Int)
 rotate_left
 ·have HZ:Hid (decide (0<=s/\s<(D.n:Int))=false):=by show _=_;simp;omega
  have HO:=hid (OB.made w2 D.n (by unfold maxLen;omega));rw[HZ.out];have HF:Hid (Ce D.n (Ax D s) w (.returned (.slice (some ⟨w2.heap.size,0,none⟩) D.n D.n)) (w2.alloc (.cells (madeCells #[.bool false] D.n) 4))):=
   ⟨fun _=>false,_,_,rfl,ga HO.out.own F8.out,fun x hx=>⟨(fun h=>by cases h),(fun h=>absurd ⟨h.1,h.2.1⟩ hs)⟩,mL.out _ HO.out.aP⟩
  clear HO;go_wp2;go_ret;exact HF.out
 obtain⟨t,rfl⟩:∃t:Nat,s=(t:Int):=⟨s.toNat,by omega⟩
 have ht:t<D.n:=by omega
 have HZ:Hid (decide (0<=(t:Int)/\(t:Int)<(D.n:Int))=true):=by show _=_;simp;omega
 rw[HZ.out];clear hs;have dc:Hid (∀W',Below w2.heap.size w2 W'->Below w2.heap.size w2 W'/\bz W' b0 D/\W'.cell? ⟨b0,256,none⟩=some (.slice D.aN D.n D.cN)):=fun W' h=>⟨h,H2.out.1.ab h,(H2.out.1.ab h).f1⟩
 clear f1;go_upto_region 5 with fail;refine wp_region_held_drew (S:=fun W'=>Below w2.heap.size w2 W'/\bz W' b0 D/\W'.cell? ⟨b0,256,none⟩=some (.slice D.aN D.n D.cN)) (by kernel_rfl) (dc.out _ (Below.refl _ _).drew) (fun hHeld=>?_)
 (refine an 0 ?_;refine an 1 ?_;refine an 2 ?_;try simp only[put,sA];refine an 3 ?_;refine an 4 ?_;refine an 5 ?_;try simp only[put,sA])
 refine bf 6 (fun K hK=>?_);skip;go_simp;have kk:=al w2.drew (.cells #[.int .i64 (t:Int)] 3);have bD:Below w2.heap.size w2 ((w2.alloc (.cells #[.int .i64 (t:Int)] 3)).drew):=hHeld.1.trans (kk.mono hHeld.1.size);have YE:Hid (nA (w2.alloc (.cells #[.int .i64 (t:Int)] 3)).drew (some ⟨w2.heap.size,0,none⟩) [t]):=sx (vV w2.drew w2.drew.heap.size 3 1 #[.int .i64 (t:Int)] 1 rfl (le_refl _) (by decide)) rfl;clear kk;refine hK.out _ _ (dc.out _ bD) fun hHeld=>?_;generalize (w2.alloc (.cells #[.int .i64 (t:Int)] 3)).drew=W6 at YE hHeld⊢;clear hK K bD
 try simp only[put,sA]
 refine bf 7 (fun K hK=>?_);skip;go_simp;go_at_call 72;refine (TG D.n D.cN D.aN D.A D.Cp D.len D.nx [t] (some ⟨w2.heap.size,0,none⟩) 1 1 (by omega) (fun i hi=>by rw[HB.out.2.2.len i hi];omega) (fun i c hi hc=>HB.out.2.2.nx i c hi (by rw[<-HB.out.2.2.len i hi];exact hc)) rfl (by simp) (fun x hx=>by rw[List.mem_singleton.1 hx];exact ht) W6 hHeld.2.1.dm.rN YE.out (fun h=>by cases h) (fun ad h=>by injection h with h;rw[<-h])).mono ?_;rintro e w7 ⟨l,i,ad,c,rfl,GS,zU,jv,od,gy,b7⟩;have bD:Below w2.heap.size w2 w7:=hHeld.1.trans (b7.mono hHeld.1.size);have Ay:=hid (Zz GS bD);clear GS b7
 try go_wp2_with fail
 refine hK.out _ _ (dc.out _ bD) fun hHeld=>?_;clear hK K bD
 try simp only[put,sA]
 refine bf 8 (fun K hK=>?_);skip;go_simp;go_at_call 94;refine (Si D.n l ad i c jv (by omega) (by omega) gy _ (sx Ay.out.1 jv)).mono ?_;rintro e w8 ⟨f8,a8,c8,rfl,JR,IY,b8⟩;have bD:Below w2.heap.size w2 w8:=Ay.out.2.trans (b8.mono Ay.out.2.size);have DX:=Ay.out.2.size;have HF:Hid (Ce D.n (Ax D (t:Int)) w (.returned (.slice a8 D.n c8)) w8):=⟨f8,a8,c8,rfl,ga JR (le_trans F8.out DX),fun x hx=>by
  rw[IY x hx]
  show x∈l↔_
  rw[zU,Sq _ _ (by rw[<-zU];exact jv),zq1 HB.out.2.2 ht]
  exact⟨fun h=>⟨by omega,by omega,by simpa using h⟩,fun h=>by simpa using h.2.2⟩,mL.out _ bD⟩
 clear JR IY b8
 try go_wp2_with fail
 refine hK.out _ _ (dc.out _ bD) fun hHeld=>?_;clear hK K bD
 try simp only[put,sA]
 (refine an 9 ?_;try simp only[put,sA])
 refine wpAnyH_done (by kernel_rfl) ?_ _;clear hHeld;go_wp2;go_ret;exact HF.out
theorem zoe(h:w.ownsRow B 3 1 (.slice a q c) q xs)(ha:a=none):q=0/\c=0:=by
 subst ha;rcases h.2 with ⟨h1,h2⟩|⟨g,cap,cur,hv,_⟩
 ·injection h1 with _ h3 h4;exact⟨h3,h4⟩
 injection hv with h1 _ _;cases h1
theorem zog{ad:Addr}(h:w.ownsRow B 3 1 (.slice a q c) q xs)(ha:a=some ad):ad.spot=none:=by
 subst ha;rcases h.2 with ⟨h1,h2⟩|⟨g,cap,cur,hv,_⟩
 ·injection h1 with h3 _ _;cases h3
 injection hv with h1 _ _;injection h1 with h1;rw[h1]
theorem zp5(h:nY D D.n 0 tg)(i:Nat)(hi:i<D.n):(tg i).length<=D.n:=YM (h.inc i hi) (fun x hx=>by
 rcases (h.mem i hi x).1 hx with h1|⟨_,_,c',h3,_⟩
 ·exact h1.1
 ·omega)
theorem zqS(h:nY D D.n 0 tg)(i c:Nat)(hi:i<D.n)(hc:c<(tg i).length):-1<=(((tg i).getD c 0:Nat):Int)/\(((tg i).getD c 0:Nat):Int)<(D.n:Int):=by
 have e:(tg i).getD c 0=(tg i)[c]:=by simp[getD_eq_getElem?_getD,hc]
 rw[e];rcases (h.mem i hi _).1 (getElem_mem hc) with h1|⟨_,_,c',h3,_⟩
 ·have:=h1.1;omega
 omega
theorem zp6(hR:DR D C)(h:nY D D.n 0 tg)(hl:∀x,x∈l↔x<D.n/\0<=D.q x)(x:Nat)(hx:x<D.n):jA (WE (av (fun i=>(tg i).length) (fun i c=>(((tg i).getD c 0:Nat):Int)))) (fun y=>y∈l) x↔wm D x:=by
 have mem:∀x y,WE (av (fun i=>(tg i).length) (fun i c=>(((tg i).getD c 0:Nat):Int))) x y↔y∈tg x:=fun x y=>by
  unfold WE av;constructor
  ·intro h;obtain⟨c,hc,e⟩:=List.mem_map.1 h;have fp:c<(tg x).length:=(by simpa using hc);have e2:(tg x).getD c 0=(tg x)[c]:=(by simp[getD_eq_getElem?_getD,fp]);have e1:(((tg x).getD c 0:Nat):Int)=(y:Int):=e;have e3:(tg x)[c]=y:=(by rw[<-e2];omega);rw[<-e3];exact getElem_mem fp
  intro h;obtain⟨c,hc,e⟩:=List.getElem_of_mem h;refine List.mem_map.2 ⟨c,by simpa using hc,?_⟩;simp[getD_eq_getElem?_getD,hc,e]
 have ed:∀x,x<D.n->∀y,y∈tg x↔Ed D y x:=fun x hx y=>by
  rw[h.mem x hx];constructor
  ·rintro (h1|⟨_,_,c',h3,_⟩)
   ·exact h1.2
   omega
  exact fun h1=>inl ⟨h1.1,h1⟩
 have e1:jA (WE (av (fun i=>(tg i).length) (fun i c=>(((tg i).getD c 0:Nat):Int)))) (fun y=>y∈l) x↔jA (fun a b=>Ed D b a) (fun y=>y<D.n/\0<=D.q y) x:=by
  constructor
  ·intro h;have:jA (fun a b=>Ed D b a) (fun y=>y<D.n/\0<=D.q y) x/\x<D.n:=by
    clear hx
    induction h with
    | base h=>exact⟨.base ((hl _).1 h),((hl _).1 h).1⟩
    | step _ e ih=>
     have h2:=(ed _ ih.2 _).1 ((mem _ _).1 e);exact⟨.step ih.1 h2,h2.1⟩
   exact this.1
  intro h;have:jA (WE (av (fun i=>(tg i).length) (fun i c=>(((tg i).getD c 0:Nat):Int)))) (fun y=>y∈l) x/\x<D.n:=by
   clear hx
   induction h with
   | base h=>exact⟨.base ((hl _).2 h),h.1⟩
   | step _ e ih=>exact⟨.step ih.1 ((mem _ _).2 ((ed _ ih.2 _).2 e)),e.1⟩
  exact this.1
 rw[e1,zoa];constructor
 ·rintro⟨k,h1,h2⟩;exact⟨k,h1,h2.2⟩
 rintro⟨k,h1,h2⟩;exact⟨k,h1,jA.lt (fun y hy=>by rw[hy];exact hx) hR.ed h1,h2⟩
theorem zmy(D:Dd)(C:Nat)(w:World)(hD:DM w D)(hR:DR D C):
  Calls prog 75 #[.agg D.cD] w (Ce D.n (wm D) w):=by
 have cU:=hR.n2;have da:=hR.n1;have iX:=hR.m;have tX:=(hR.iq hD.kl).2;have HB:=hid (Zz (bz.new hD) (Zz (al w (.cells D.cD 29)) hR));obtain⟨iI,hI,rW,r8,sh⟩:=info_parts aG;clear hD hR;go_in;go_upto_region 1 with fail;generalize w.alloc (.cells D.cD 29)=W0 at HB⊢;obtain⟨b0,ay⟩:∃b0,w.heap.size=b0:=⟨_,rfl⟩
 rw[ay] at HB;rw[ay];have bW:=hid ay;have pL:b0<=W0.heap.size:=by have:=HB.out.2.1.size;omega
 clear ay;have rG:=hid (EO D C HB.out.2.2 W0 HB.out.1.dm);go_wp2_with (refine jr (by rfl) 29 _ rfl ⟨b0,0,none⟩ rfl D.cD _ HB.out.1.st.part underlying29 rfl HB.out.1.dm.info ?_);refine rG.out.mono ?_;rintro e w2 ⟨rfl,b1⟩;have H2:=hid (Zz (HB.out.1.ab b1) (HB.out.2.1.trans (b1.mono pL)));have cr:b0<=w2.heap.size:=by have:=b1.size;omega
 clear b1 rG;have mL:Hid (∀W',Below w2.heap.size w2 W'->Below w.heap.size w W'):=fun W' h=>by
  rw[bW.out];exact H2.out.2.trans (h.mono cr)
 have F8:Hid (w.heap.size<=w2.heap.size):=by show _<=_;rw[bW.out];exact cr
 have f2:=H2.out.1.f2;obtain⟨gM,oM,eM,pY,ly⟩:=H2.out.1.dm.rM (by omega);rw[eM,iX] at f2;have MM:=hid ly;have Nf:=hid eM;have M8:=hid iX;clear eM ly iX;go_wp2_with fail;clear f2;go_loopw [3,4,5,12] (fun v3 _ _ v wr=>∃(k p:Nat) (l:List Nat) (a:Option Addr) (c:Nat),v=.int .i64 k/\k<=D.n/\p<=k/\v3=.slice a p c/\Hid (l.length=p/\l.Nodup/\(∀x,x∈l↔x<k/\0<=D.q x)/\wr.ownsRow w2.heap.size 3 1 (.slice a p c) p (cW l)/\Below w2.heap.size w2 wr)) (fun _ _ _ v _=>D.n-(intOf v).toNat)
 ·exact⟨0,0,[],none,0,rfl,by omega,by omega,rfl,⟨rfl,by simp,fun x=>by simp,World.ownsRow_nil _ _ _ _,Below.refl _ _⟩⟩
 obtain⟨k,p,l,a,c,rfl,hk,hp,rfl,HX⟩:=hrel;by_cases aq:k<D.n
 ·have cM:=(HX.out.2.2.2.2.cell (p:=⟨gM,oM+k,none⟩) pY).trans (MM.out k (by rw[M8.out];exact aq));have hq:=HB.out.2.2.q k aq;have i1:(k:Int)<(D.n:Int):=by omega
  have HS:Hid (∀l',(l'=l/\D.q k<0)\/(l'=l++[k]/\0<=D.q k)->l'.Nodup/\∀x,x∈l'↔x<k+1/\0<=D.q x):=fun l' h=>by
   rcases h with ⟨rfl,h⟩|⟨rfl,h⟩
   ·refine⟨HX.out.2.1,fun x=>?_⟩;rw[HX.out.2.2.1];constructor
    ·rintro⟨h1,h2⟩;exact⟨by omega,h2⟩
    rintro⟨h1,h2⟩;by_cases e:x=k
    ·subst e;omega
    exact⟨by omega,h2⟩
   refine⟨?_,fun x=>?_⟩
   ·rw[List.nodup_append];exact⟨HX.out.2.1,by simp,fun a ha b hb e=>by
     rw[List.mem_singleton.1 hb] at e
     rw[e] at ha
     have:=((HX.out.2.2.1 k).1 ha).1
     omega⟩
   rw[mem_append,mem_singleton,HX.out.2.2.1];constructor
   ·rintro (⟨h1,h2⟩|h1)
    ·exact⟨by omega,h2⟩
    subst h1;exact⟨by omega,h⟩
   rintro⟨h1,h2⟩;by_cases e:x=k
   ·exact inr e
   exact inl ⟨by omega,h2⟩
  try dsimp only at cM
  generalize D.q k=y at cM hq HS;by_cases hy:y=-1
  ·subst hy;have HZ:=hid (HS.out l (inl ⟨rfl,by omega⟩));go_wp2;go_roundw
   ·exact⟨k+1,p,l,a,c,by go_num,by omega,by omega,rfl,⟨HX.out.1,HZ.out.1,HZ.out.2,HX.out.2.2.2.1,HX.out.2.2.2.2⟩⟩
   simp[intOf];omega
  have HZ:=hid (HS.out (l++[k]) (inr ⟨rfl,by omega⟩));have mQ:(y != (-1:Int))=true:=by simp[hy]
  have hO:=HX.out.2.2.2.1;go_wp2_with (at_builtin;refine wpList_append_own_at _ rfl _ _ 27 rfl w2.heap.size 3 iI (.int .i64 0) 1 8 underlying27 hI rW r8 sh rfl (by decide) _ _ _ rfl (hO.alloc _) ⟨wr.heap.size,0,none⟩ 1 1 [.int .i64 (k:Int)] rfl rfl (cell_one_new _ _ _) ?d2 ?d3 ?d4 ?d5 ?_)
  case d2=>first|(intro u hu;simp at hu;subst hu;rfl)|rfl
  case d3=>unfold maxLen;omega
  case d4=>omega
  case d5=>have:=HX.out.2.2.2.2.size;simp;omega
  intro v5 w5 ah ag _ bJ;obtain⟨a5,c5,rfl⟩:=bP ah;have tN:=HX.out.2.2.2.2.size;have kk:=al wr (.cells #[.int .i64 (k:Int)] 3);have HY:Hid (w5.ownsRow w2.heap.size 3 1 (.slice a5 (p+1) c5) (p+1) (cW (l++[k]))/\Below w2.heap.size w2 w5):=⟨by rw[xG];exact ah,fG (HX.out.2.2.2.2.trans (kk.mono tN)) (hO.alloc _) (le_trans tN kk.size) ag⟩
  clear ah ag bJ hO kk;go_wp2;go_roundw
  ·exact⟨k+1,p+1,l++[k],a5,c5,by go_num,by omega,by omega,rfl,⟨by rw[length_append,HX.out.1];rfl,HZ.out.1,HZ.out.2,HY.out.1,HY.out.2⟩⟩
  simp[intOf];omega
 obtain rfl:k=D.n:=by omega
 have MD:=hid (H2.out.1.ab HX.out.2.2.2.2);have oB:=hid (fun (W':World) (h:Below wr.heap.size wr W')=>mL.out W' (HX.out.2.2.2.2.trans (h.mono HX.out.2.2.2.2.size)));have Tg:Hid (w.heap.size<=wr.heap.size):=le_trans F8.out HX.out.2.2.2.2.size;have dc:Hid (∀W',Below wr.heap.size wr W'->Below wr.heap.size wr W'/\bz W' b0 D/\W'.cell? ⟨b0,256,none⟩=some (.slice D.aN D.n D.cN)):=fun W' h=>⟨h,MD.out.ab h,(MD.out.ab h).f1⟩
 go_upto_region 10 with fail;refine wp_region_held_drew (S:=fun W'=>Below wr.heap.size wr W'/\bz W' b0 D/\W'.cell? ⟨b0,256,none⟩=some (.slice D.aN D.n D.cN)) (by kernel_rfl) (dc.out _ (Below.refl _ _).drew) (fun hHeld=>?_)
 (refine an 0 ?_;refine an 1 ?_;refine an 2 ?_)
 (refine an 3 (v:=.agg D.cD) ?_ (hy:=by intro wz hSw;exact pt (o:=_) (ρ:=_) wz 29 (.tmp 1) rfl ⟨b0,0,none⟩ rfl D.cD _ (bz.st (And.left (And.right hSw))).part underlying29 rfl (bz.dm (And.left (And.right hSw))).info))
 (refine an 5 ?_;try simp only[put,sA])
 refine bf 4 (fun K hK=>?_);skip;go_simp;go_at_call 111;refine (zii D C _ hHeld.2.1.dm HB.out.2.2).mono ?_;rintro e w5 ⟨gS,AS,CS,tg,rfl,hS5,SY,b5⟩;have ef:Below wr.heap.size wr w5:=hHeld.1.trans (b5.mono hHeld.1.size);clear b5
 try go_wp2_with fail
 refine hK.out _ _ (dc.out _ ef) fun hHeld=>?_;clear hK K
 try simp only[put,sA]
 refine bf 6 (fun K hK=>?_);skip;go_simp;go_at_call 72;refine (TG D.n D.n (some ⟨gS,0,none⟩) AS CS (fun i=>(tg i).length) (fun i c=>(((tg i).getD c 0:Nat):Int)) l a p c (by omega) (fun i hi=>by have:=zp5 SY i hi;omega) (fun i c hi hc=>zqS SY i c hi hc) HX.out.1 HX.out.2.1 (fun x hx=>((HX.out.2.2.1 x).1 hx).1) w5 hS5 (nA.below (sx HX.out.2.2.2.1 HX.out.1) ef) (fun h=>zoe HX.out.2.2.2.1 h) (fun ad h=>zog HX.out.2.2.2.1 h)).mono ?_;rintro e w7 ⟨l9,i,ad,c9,rfl,GS,zU,jv,od,gy,b7⟩;have bD:Below wr.heap.size wr w7:=ef.trans (b7.mono ef.size);have Ay:=hid (Zz GS bD);clear GS b7
 try go_wp2_with fail
 refine hK.out _ _ (dc.out _ bD) fun hHeld=>?_;clear hK K bD
 try simp only[put,sA]
 refine bf 7 (fun K hK=>?_);skip;go_simp;go_at_call 94;refine (Si D.n l9 ad i c9 jv (by omega) (by omega) gy _ (sx Ay.out.1 jv)).mono ?_;rintro e w8 ⟨f8,a8,c8,rfl,JR,IY,b8⟩;have bD:Below wr.heap.size wr w8:=Ay.out.2.trans (b8.mono Ay.out.2.size);have DX:=Ay.out.2.size;have HF:Hid (Ce D.n (wm D) w (.returned (.slice a8 D.n c8)) w8):=⟨f8,a8,c8,rfl,ga JR (le_trans Tg.out DX),fun x hx=>by
  rw[IY x hx]
  show x∈l9↔_
  rw[zU,Sq _ _ (by rw[<-zU];exact jv)]
  exact zp6 HB.out.2.2 SY (fun y=>HX.out.2.2.1 y) x hx,oB.out _ bD⟩
 clear JR IY b8
 try go_wp2_with fail
 refine hK.out _ _ (dc.out _ bD) fun hHeld=>?_;clear hK K bD
 try simp only[put,sA]
 (refine an 8 ?_;try simp only[put,sA])
 refine wpAnyH_done (by kernel_rfl) ?_ _;clear hHeld;go_wp2;go_ret;exact HF.out
def dH(K:Nat->Nat)(vN vK:Value):Array Value:=(((range 256).map fun j=>Value.int .u8 ((K j:Nat):Int))++[vN,vK]).toArray
theorem mV(K:Nat->Nat)(vN vK:Value):(dH K vN vK).size=258:=by simp[dH]
theorem As(K:Nat->Nat)(vN vK:Value)(j:Nat)(hj:j<256):(dH K vN vK)[j]?=some (.int .u8 ((K j:Nat):Int)):=by
 simp[dH,getElem?_append,hj]
theorem qp(K:Nat->Nat)(vN vK:Value):(dH K vN vK)[256]?=some vN:=by simp[dH,getElem?_append]
theorem yP(K:Nat->Nat)(vN vK:Value):(dH K vN vK)[257]?=some vK:=by simp[dH,getElem?_append]
theorem xY(K:Nat->Nat)(a b:Option Addr)(n c m d:Nat):∀v∈(dH K (.slice a n c) (.slice b m d)).toList,v.oneCell'=true:=by
 intro v hv;simp[dH] at hv;rcases hv with ⟨j,_,rfl⟩|rfl|rfl <;> rfl
theorem DE(K:Nat->Nat)(vN vK:Value)(cs:Array Value)(hs:cs.size=258)(h1:∀j,j<256->cs[j]?=some (.int .u8 ((K j:Nat):Int)))(h2:cs[256]?=some vN)(h3:cs[257]?=some vK):cs=dH K vN vK:=by
 apply Array.ext_getElem?;intro i;by_cases a:i<256
 ·rw[h1 i a,As K vN vK i a]
 by_cases b:i=256
 ·subst b;rw[h2,qp]
 by_cases c:i=257
 ·subst c;rw[h3,yP]
 rw[Array.getElem?_eq_none (by omega),Array.getElem?_eq_none (by rw[mV];omega)]
theorem zjs(K:Nat->Nat)(vN vK v:Value):(dH K vN vK).setIfInBounds 256 v=dH K v vK:=by
 refine DE K v vK _ (by rw[Array.size_setIfInBounds,mV]) (fun j hj=>?_) ?_ ?_
 ·rw[Array.getElem?_setIfInBounds_ne (by omega),As K vN vK j hj]
 ·rw[Array.getElem?_setIfInBounds_self_of_lt (by rw[mV];omega)]
 rw[Array.getElem?_setIfInBounds_ne (by omega),yP]
theorem zoh(K:Nat->Nat)(vN vK v:Value):(dH K vN vK).setIfInBounds 257 v=dH K vN v:=by
 refine DE K vN v _ (by rw[Array.size_setIfInBounds,mV]) (fun j hj=>?_) ?_ ?_
 ·rw[Array.getElem?_setIfInBounds_ne (by omega),As K vN vK j hj]
 ·rw[Array.getElem?_setIfInBounds_ne (by omega),qp]
 rw[Array.getElem?_setIfInBounds_self_of_lt (by rw[mV];omega)]
theorem VZ(K:Nat->Nat)(W:World):(build 29 #[(0,.agg (aQ K))]).run prog W=.ok (.agg (dH K (.slice none 0 0) (.slice none 0 0))) W:=by
 have e:prog.built 29 [(0,.agg (aQ K))]=fill (fun i=>#[(0,256),(256,1),(257,1)][i]?) (zC 29) [(0,.agg (aQ K))]:=by kernel_rfl
 have hz:=gY;have hs:=Ma K;obtain⟨p1,p2⟩:=yZ (zC 29) (aQ K) 0 (by rw[hz];omega);rw[zf _ _ 0 0 256 (.agg (aQ K)) [] (by rfl) hs (by rw[hz];omega)] at e;obtain⟨d1,d2⟩:=AW;have e2:putAt (zC 29) (aQ K) 0=dH K (.slice none 0 0) (.slice none 0 0):=DE _ _ _ _ (by rw[p1,hz]) (fun j hj=>by rw[p2,if_pos ⟨by omega,by omega⟩];exact Db K j hj) (by rw[p2,if_neg (by omega),d1]) (by rw[p2,if_neg (by omega),d2]);have e3:(Value.agg (aQ K)).cells=aQ K:=rfl;rw[e3,e2] at e;exact run_build W _ _ _ e
theorem Wh(K:Nat->Nat)(a:Option Addr)(n c:Nat)(W:World):(build 29 #[(0,.agg (aQ K)),(2,.slice a n c)]).run prog W=.ok (.agg (dH K (.slice none 0 0) (.slice a n c))) W:=by
 have e:prog.built 29 [(0,.agg (aQ K)),(2,.slice a n c)]=fill (fun i=>#[(0,256),(256,1),(257,1)][i]?) (zC 29) [(0,.agg (aQ K)),(2,.slice a n c)]:=by kernel_rfl
 have hz:=gY;have hs:=Ma K;obtain⟨p1,p2⟩:=yZ (zC 29) (aQ K) 0 (by rw[hz];omega);rw[zf _ _ 0 0 256 (.agg (aQ K)) _ (by rfl) hs (by rw[hz];omega)] at e;obtain⟨d1,d2⟩:=AW;have e2:putAt (zC 29) (aQ K) 0=dH K (.slice none 0 0) (.slice none 0 0):=DE _ _ _ _ (by rw[p1,hz]) (fun j hj=>by rw[p2,if_pos ⟨by omega,by omega⟩];exact Db K j hj) (by rw[p2,if_neg (by omega),d1]) (by rw[p2,if_neg (by omega),d2]);have e3:(Value.agg (aQ K)).cells=aQ K:=rfl;rw[e3,e2] at e;have hd:=mV K (.slice none 0 0) (.slice none 0 0);obtain⟨q1,q2⟩:=yZ (dH K (.slice none 0 0) (.slice none 0 0)) #[.slice a n c] 257 (by rw[hd];simp);rw[zf _ _ 2 257 1 (.slice a n c) [] (by rfl) (by rfl) (by rw[hd];omega)] at e;have e4:putAt (dH K (.slice none 0 0) (.slice none 0 0)) #[.slice a n c] 257=dH K (.slice none 0 0) (.slice a n c):=by
  simp only[List.size_toArray,List.length_cons,List.length_nil] at q2;refine DE _ _ _ _ (by rw[q1,hd]) (fun j hj=>by rw[q2,if_neg (by omega),As _ _ _ j hj]) (by rw[q2,if_neg (by omega),qp]) (by rw[q2,if_pos (by omega)];rfl)
 have e5:(Value.slice a n c).cells=#[.slice a n c]:=rfl;rw[e5,e4] at e;exact run_build W _ _ _ e
structure iN (W0:World)(b4:Nat)(K:Nat->Nat)(C:Nat)(vN:Value)(R:List (List Int))(ws:Nat->Value)(vK:Value)(ms:List Int)(w:World):Prop where
 aP:Below W0.heap.size W0 w
 st:St w 29 b4 (dH K vN vK)
 next:bE w W0.heap.size 27 3 1 vN R.length ws (fun _=>C) (fun j=>ints (R.getD j []))
 dt:w.ownsRow W0.heap.size 3 1 vK ms.length (ints ms)
 sep:∀i,i<R.length->∀b,(ws i).ownBlock=some b->vK.ownBlock≠some b
 lo:W0.heap.size<=b4
section
variable {W0 : World}{b4 C : Nat}{K : Nat → Nat}{vN : Value}{R : List (List Int)}{ws : Nat → Value}{vK : Value}{ms : List Int}{w : World}
theorem iN.ab{w1:World}(h:iN W0 b4 K C vN R ws vK ms w)(k:Below w.heap.size w w1):iN W0 b4 K C vN R ws vK ms w1:=
 ⟨h.aP.trans (k.mono h.aP.size),h.st.ab k,h.next.ab k,cY h.dt k,h.sep,h.lo⟩
theorem iN.f1(h:iN W0 b4 K C vN R ws vK ms w):w.cell? ⟨b4,256,none⟩=some vN:=by rw[h.st.at_,qp]
theorem iN.f2(h:iN W0 b4 K C vN R ws vK ms w):w.cell? ⟨b4,257,none⟩=some vK:=by rw[h.st.at_,yP]
theorem Ad{i:Nat}{cs:Array Value}{v:Value}(h:w.ownsRow B t 1 v n xs)(hs:St w 29 b4 cs)(ht:t≠29):(w.setCell ⟨b4,i,none⟩ u).ownsRow B t 1 v n xs:=
 fC (ts:=[]) (bs:=[b4]) h ((Kept.refl _ _ _).setCell _ _ (inl (by simp))) (by simp) (fun b e hm=>ew h hs ht b e (List.mem_singleton.1 hm))
theorem iN.gu{vN':Value}{row:List Int}(h:iN W0 b4 K C vN R ws vK ms w)(hu:w.ownsRow W0.heap.size 3 1 u C (ints row))(hs:∀i,i<R.length->∀b,(ws i).ownBlock=some b->u.ownBlock≠some b)(tN:∀b,u.ownBlock=some b->vK.ownBlock≠some b)(hq:R.length=q)
  (ho:w'.ownsRow W0.heap.size 27 1 vN' (q+1) ((range q).map ws++[u])) (hg:w.grownBy w' vN.ownBlock):iN W0 b4 K C vN' (R++[row]) (fun j=>if j=q then u else ws j) vK ms (w'.setCell ⟨b4,256,none⟩ vN'):=by
 subst hq;have bU:St w' 29 b4 (dH K vN vK):=h.st.ae h.next.own (by decide) hg
 have h1:bE w W0.heap.size 27 3 1 vN R.length ws (fun _=>C) (fun j=>ints ((R++[row]).getD j [])):=h.next.congr (fun i hi=>⟨rfl,by simp[getD_eq_getElem?_getD,List.getElem?_append_left hi]⟩)
 have h2:=h1.p8 (v':=vN') (u:=u) (w':=w') (by decide) (by simpa [getD_eq_getElem?_getD] using hu) hs ho hg;have hm:w'.ownsRow W0.heap.size 3 1 vK ms.length (ints ms):=qI h.dt hg (fun b e e2=>im h.dt h.next.own (by decide) b e e2.symm);refine⟨(fG h.aP h.next.own h.aP.size hg).setCell (p:=⟨b4,256,none⟩) h.lo _,?_,?_,Ad hm bU (by decide),?_,h.lo⟩
 ·have:=bU.set 256 vN';rwa [zjs] at this
 ·rw[length_append];exact⟨Ad h2.own bU (by decide),fun i hi=>Ad (h2.row i hi) bU (by decide),h2.sep⟩
 intro i hi b e;by_cases e1:i=R.length
 ·rw[if_pos e1] at e;exact tN b e
 rw[if_neg e1] at e;exact h.sep i (by simp at hi;omega) b e
theorem iN.mU{vK':Value}{m:Int}(h:iN W0 b4 K C vN R ws vK ms w)(hq:ms.length=q)
  (ho:w'.ownsRow W0.heap.size 3 1 vK' (q+1) (ints ms++[.int .i64 m])) (hg:w.grownBy w' vK.ownBlock) (fu:vK'.ownBlock=vK.ownBlock\/vK'.ownBlock=some w.heap.size):
  iN W0 b4 K C vN R ws vK' (ms++[m]) (w'.setCell ⟨b4,257,none⟩ vK'):=by
 subst hq;have bU:St w' 29 b4 (dH K vN vK):=h.st.ae h.dt (by decide) hg;have hG:bE w' W0.heap.size 27 3 1 vN R.length ws (fun _=>C) (fun j=>ints (R.getD j [])):=
  ⟨qI h.next.own hg (fun b e e2=>im h.next.own h.dt (by decide) b e e2.symm),fun i hi=>qI (h.next.row i hi) hg (fun b e e2=>h.sep i hi b e e2.symm),h.next.sep⟩
 refine⟨(fG h.aP h.dt h.aP.size hg).setCell (p:=⟨b4,257,none⟩) h.lo _,?_,⟨Ad hG.own bU (by decide),fun i hi=>Ad (hG.row i hi) bU (by decide),hG.sep⟩,?_,?_,h.lo⟩
 ·have:=bU.set 257 vK';rwa [zoh] at this
 ·have:=Ad (i:=257) (u:=vK') ho bU (by decide);rw[length_append];simpa [ints] using this
 intro i hi b e;rcases fu with e2|e2
 ·rw[e2];exact h.sep i hi b e
 rw[e2];intro e3;have:=lE (h.next.row i hi) b e;simp at e3;omega
end
def B2(D:Dd)(C n':Nat)(Fx:Nat->Nat->Int)(q':Nat->Int)(w:World)(e:Ending)(w':World):Prop:=
 ∃D':Dd,e=.returned (.agg D'.cD)/\DM w' D'/\D'.K=D.K/\D'.n=n'/\D'.m=n'/\(∀i,i<n'->D'.len i=C)/\(∀i,i<n'->∀c,c<C->D'.nx i c=Fx i c)/\(∀i,i<n'->D'.q i=q' i)/\Below w.heap.size w w'/\w'.ownsRow w.heap.size 3 1 (.slice D'.aM n' D'.cM) n' (ints ((range n').map q'))
theorem iN.Sl{W0:World}{vN:Value}{R:List (List Int)}{vK:Value}{wr:World}{n':Nat}{Fx:Nat->Nat->Int}{q':Nat->Int}(hk:∀j,j<256->D.K j<256)(h:iN W0 b4 D.K C vN R ws vK ms wr)(hR:R.length=n')(wh:∀r∈R,r.length=C)(lP:ms=(range n').map q')
  (yT:∀i,i<n'->∀c,c<C->(R.getD i []).getD c 0=Fx i c) (hw:w.heap.size<=W0.heap.size) (hb:Below wr.heap.size wr w'\/(∃b cs jC,St wr 29 b jC/\w'=wr.setRow b cs)) (hB:Below w.heap.size w w'):B2 D C n' Fx q' w (.returned (.agg (dH D.K vN vK))) w':=by
 obtain⟨aN,cN,rfl⟩:=bP h.next.own
 obtain⟨aK,cK,rfl⟩:=bP h.dt;have l5:ms.length=n':=by rw[lP];simp
 have pe:∀{B t n:Nat}{v:Value}{xs:List Value},t≠29->wr.ownsRow B t 1 v n xs->w'.ownsRow B t 1 v n xs:=fun {B t n v xs} ht ho=>by
  rcases hb with hb|⟨b,cs,jC,hs,rfl⟩
  ·exact cY ho hb
  exact fC (ts:=[]) (bs:=[b]) ho (IQ wr b cs) (by simp) (fun g e hm=>ew ho hs ht g e (List.mem_singleton.1 hm))
 have cU:bE w' W0.heap.size 27 3 1 (.slice aN R.length cN) R.length ws (fun _=>C) (fun j=>ints (R.getD j [])):=⟨pe (by decide) h.next.own,fun i hi=>pe (by decide) (h.next.row i hi),h.next.sep⟩
 have me:=pe (by decide) h.dt;refine⟨⟨dH D.K (.slice aN R.length cN) (.slice aK ms.length cK),D.K,aN,R.length,cN,fun i=>va (ws i),fun i=>xr (ws i),fun _=>C,fun i x=>(R.getD i []).getD x 0,aK,ms.length,cK,fun i=>ms.getD i 0⟩,rfl,
  ⟨mV _ _ _,xY _ _ _ _ _ _ _,fun j hj=>As _ _ _ j hj,hk,qp _ _ _,yP _ _ _,cU.zs rfl wh,PK me rfl⟩,rfl,hR,l5,fun i hi=>rfl,yT,fun i hi=>?_,hB,?_⟩
 ·show ms.getD i 0=_;rw[lP];simp[getD_eq_getElem?_getD,hi]
 show w'.ownsRow _ _ _ (.slice aK n' cK) n' _;rw[<-lP,<-l5];exact ga me hw
theorem kU(w:World):w.drew.heap.size=w.heap.size:=rfl
theorem GV(w:World)(o:Obj):(w.alloc o).heap.size=w.heap.size+1:=by simp
theorem zfk{ρ:Operand->Value}{o:Oper}(w:World)(t:TypeId)(parts:Array (Nat × Operand))(ho:o.op=.build t parts)(ps:Array (Nat × Value))(hp:(parts.map fun (i,x)=>(i,ρ x))=ps)(v:Value)(hb:(build t ps).run P w=.ok v w):
  (execOp ρ o).run P w=.ok (.value v) w:=by
 unfold execOp;simp only[ho,hp,run_bind,hb,andThen_ok,run_pure]
theorem EJ{o:Oper}{a:Act}{K:Act->World->Prop}{Q:Exit->Act->World->Prop}{E:Prop}(ow:o.guard=none)(t:TypeId)(ho:o.op=.alloc t)(cs:Array Value)(hz:(zeroValue t).run P w=.ok (.agg cs) w)
  (h:K (a.put o.dst (.pointer (some ⟨w.heap.size,0,none⟩))) (w.alloc (.cells cs t))):if wanted o (yielded ops a.tmps)=true then Oper.wp P o a w K Q else E:=by
 have hw:wanted o (yielded ops a.tmps)=true:=by simp[wanted,ow]
 rw[if_pos hw];unfold Oper.wp execOp;simp only[ho,Instr.alloc,run_bind,hz,andThen_ok,newVar,newRow,newObj,Value.cells];exact h
theorem FN{o:Oper}{a:Act}{K:Act->World->Prop}{Q:Exit->Act->World->Prop}{E:Prop}(ow:o.guard=none)(ty:TypeId)(x v:Operand)(ho:o.op=.store ty x v)(g t:Nat)(jC cs:Array Value)(hx:a.eval x=.pointer (some ⟨g,0,none⟩))(hv:a.eval v=.agg cs)
  (bU:w.heap[g]?=some (.cells jC t (0,0))) (cZ:jC.size=cs.size) (hi:(P.info? ty).map (·.size)=some cs.size) (h1:∀u∈cs.toList,u.oneCell'=true) (h:K (a.put o.dst undef) (w.setRow g cs)):if wanted o (yielded ops a.tmps)=true then Oper.wp P o a w K Q else E:=by
 have ct:(storeVar ty ⟨g,0,none⟩ (.agg cs)).run P w=.ok () (w.setRow g cs):=by
  have hs:(sizeOf ty).run P w=.ok cs.size w:=by
   cases hq:P.info? ty with
   | none=>simp[hq] at hi
   | some inf=>
    have:inf.size=cs.size:=(by simpa [hq] using hi);simp[sizeOf,typeInfo,hq,this]
  have:=run_storeCells_at (P:=P) g 0 t cs.toList 0 jC w bU (by simp[cZ]) h1;unfold storeVar;simp only[run_bind,hs,andThen_ok];rw[if_neg (show ¬((Value.agg cs).cells.size≠cs.size) from fun h=>h rfl)];show (storeCells ⟨g,0,none⟩ cs.toList).run P w=_;rw[this];congr 2;have hd:List.drop cs.size jC.toList=[]:=List.drop_of_length_le (by simp[cZ]);simp[hd]
 have hw:wanted o (yielded ops a.tmps)=true:=by simp[wanted,ow]
 rw[if_pos hw];unfold Oper.wp execOp;simp only[ho,hx,hv,Instr.storeAt,Instr.sureAddr,run_bind,run_pure,andThen_ok,ct];exact h
open Classical in
noncomputable def oa (D:Dd) (i c:Nat):Int:=if 0<=D.nx i c/\¬wm D (D.nx i c).toNat then -1 else D.nx i c
theorem iN.start{V0 V:World}{K:Nat->Nat}{m:Nat}(hm:V.ownsRow V0.heap.size 3 1 (.slice a m c) m (ints ms))(hl:ms.length=m)(hb:Below V0.heap.size V0 V)(bU:St V 29 b4 (zC 29))(tj:V0.heap.size<=b4):
  iN V0 b4 K C (.slice none 0 0) [] ws (.slice a m c) ms (V.setRow b4 (dH K (.slice none 0 0) (.slice a m c))):=by
 refine⟨kT hb tj _,bU.setRow,⟨World.ownsRow_nil _ _ _ _,fun i hi=>absurd hi (by simp),fun i j hi=>absurd hi (by simp)⟩,?_,fun i hi=>absurd hi (by simp),tj⟩;rw[hl];exact fC (ts:=[]) (bs:=[b4]) hm (IQ _ _ _) (by simp) (fun g e h=>ew hm bU (by decide) g e (List.mem_singleton.1 h))
theorem G8(N:Nat)(hN:N<=2147483647)(W:World):(Instr.makeSlice 27 (.int .i64 (N:Int)) (.int .i64 (N:Int))).run prog W=.ok (.slice (some ⟨W.heap.size,0,none⟩) N N) (W.alloc (.cells (madeCells #[.int .i64 0] N) 3)):=by
 have:=run_make_row' (P:=prog) 27 3 (.int .i64 0) 8 underlying27 aG rfl .i64 .i64 N (by omega) (by omega) W;simpa using this
theorem FA(row:List Int)(m k:Nat)(v:Int)(h:row.length=k)(hk:k<m):(ints (row++replicate (m-k) 0)).set k (.int .i64 v)=ints ((row++[v])++replicate (m-(k+1)) 0):=by
 have e:replicate (m-k) (0:Int)=0 :: replicate (m-(k+1)) 0:=by
  rw[show m-k=(m-(k+1))+1 by omega,List.replicate_succ]
 rw[e];subst h;simp[ints,List.set_append]
def oy(z:Nat->Int)(fn:Nat->Int)(i:Nat):Int:=if z i=-1 then -1 else fn (z i).toNat
def UA(m:Nat)(r:Nat->Int)(w:World)(e:Ending)(w':World):Prop:=
 ∃(a:Option Addr) (c:Nat),e=.returned (.slice a m c)/\w'.ownsRow w.heap.size 3 1 (.slice a m c) m (ints ((range m).map r))/\Below w.heap.size w w'
theorem Mh(kf bV n:Nat)(fn:Nat->Int)(m c:Nat)(a:Option Addr)(z:Nat->Int)(w:World)(HC:∀(args:Array Value) (W:World),(callFunc kf args).run prog W=.ok (.enter kf args) W)
  (HM:∀W,Below w.heap.size w W->∀x,x<n->Calls prog kf #[.int .i64 ((x:Nat):Int),.pointer (some ⟨bV,0,none⟩)] W fun e w'=>e=.returned (.int .i64 (fn x))/\w'=W)
  (hm:m<=1000) (hz:kW w a m z) (hb:∀i,i<m->-1<=z i/\z i<(n:Int)) (hn:n<=1000000):
  Calls prog 73 #[.slice a m c,.func (.func kf) #[] #[.pointer (some ⟨bV,0,none⟩)]] w (UA m (oy z fn) w):=by
 have eR:=G8 m (by omega);have HX:=hid (Zz HM (Zz hz hb));have HO:=hid (C8 w w.heap.size m 3 (.int .i64 0) (le_refl _) (by unfold maxLen;omega));have oq:=hid (al w (.cells (madeCells #[.int .i64 0] m) 3));clear HM hz hb;go_in;go_wp2_with fail;obtain⟨g,hg⟩:∃g,w.heap.size=g:=⟨_,rfl⟩
 have kq:Hid ((w.alloc (.cells (madeCells #[.int .i64 0] m) 3)).ownsRow g 3 1 (.slice (some ⟨g,0,none⟩) m m) m (ints ([]++replicate (m-0) 0))/\Below g w (w.alloc (.cells (madeCells #[.int .i64 0] m) 3))):=by
  rw[<-hg];refine⟨?_,oq.out⟩;have:=HO.out;simpa [ints] using this
 rw[hg];generalize w.alloc (.cells (madeCells #[.int .i64 0] m) 3)=W1 at kq⊢;have Hg:=hid hg;clear HO oq hg;go_loopw [6,7,13] (fun _ _ v wr=>∃(k:Nat),v=.int .i64 k/\k<=m/\Hid (wr.ownsRow g 3 1 (.slice (some ⟨g,0,none⟩) m m) m (ints ((range k).map (oy z fn)++replicate (m-k) 0))/\Below g w wr)) (fun _ _ v _=>m-(intOf v).toNat)
 ·exact⟨0,rfl,by omega,kq⟩
 clear kq;obtain⟨k,rfl,hk,HA⟩:=hrel;by_cases aq:k<m
 ·have kP:Below w.heap.size w wr:=by rw[Hg.out];exact HA.out.2
  obtain⟨gA,oA,rfl,BT,lC⟩:=HX.out.2.1 (by omega);have cA:=(kP.cell (p:=⟨gA,oA+k,none⟩) BT).trans (lC k aq);have J1:=HX.out.2.2 k aq;obtain⟨g',e',_,_,hc'⟩:=ek HA.out.1 (by omega);obtain rfl:g'=g:=by
   injection e' with e';injection e' with e' _;exact e'.symm
  obtain⟨y0,y1⟩:=hc' k (by omega);have hlen:((range k).map (oy z fn)).length=k:=by simp
  have y2:(ints ((range k).map (oy z fn)++replicate (m-k) 0))[k]?=some (.int .i64 0):=by
   have:0<m-k:=(by omega);simp[ints,getElem?_append,this]
  rw[y2] at y0;have eV:Hid ((wr.setCell ⟨g',k,none⟩ (.int .i64 (-1))).ownsRow g' 3 1 (.slice (some ⟨g',0,none⟩) m m) m (ints (((range k).map (oy z fn)++[-1])++replicate (m-(k+1)) 0))/\Below g' w (wr.setCell ⟨g',k,none⟩ (.int .i64 (-1)))):=by
   refine⟨?_,HA.out.2.setCell (p:=⟨g',k,none⟩) (le_refl _) _⟩;have:=ua HA.out.1 k aq (.int .i64 (-1));rwa [FA _ m k _ hlen aq] at this
  have AA:Hid (∀v,oy z fn k=v->(range (k+1)).map (oy z fn)=(range k).map (oy z fn)++[v]):=fun v h=>by
   rw[range_succ,map_append,List.map_singleton,h]
  have Dj:Hid ((z k=-1->oy z fn k=-1)/\∀x:Nat,z k=(x:Int)->oy z fn k=fn x):=⟨fun h=>by simp[oy,h],fun x h=>by
   unfold oy
   rw[if_neg (by omega),h]
   rfl⟩
  have yf:=hid hlen;have i1:(k:Int)<m:=by omega
  have Ip:=hid HX.out.1
  try dsimp only at cA
  clear lC hc' e' y2 hlen;generalize z k=t at cA J1 Dj;go_upto_region 6 with fail;generalize wr.setCell ⟨g',k,none⟩ (.int .i64 (-1))=W5 at eV⊢;clear y0 y1 cA kP;by_cases ht:t=-1
  ·subst ht;have HZ:=hid (AA.out (-1) (Dj.out.1 rfl));go_wp2;go_roundw
   ·exact⟨k+1,by go_num,by omega,by rw[HZ.out];exact eV⟩
   simp[intOf];omega
  obtain⟨x,rfl⟩:∃x:Nat,t=(x:Int):=⟨t.toNat,by omega⟩
  have hY:x<n:=by omega
  have lu:((x:Int) != (-1:Int))=true:=by first|(simp;done)|(simp;omega)
  have ZI:=hid (Ip.out W5 (by rw[Hg.out];exact eV.out.2) x hY);have HZ:=hid (AA.out (fn x) (Dj.out.2 x rfl));generalize fn x=r at ZI HZ;go_wp2_with fail;refine ZI.out.mono ?_;rintro e w6 ⟨rfl,rfl⟩;obtain⟨g2,e2,_,_,fp⟩:=ek eV.out.1 (by omega);obtain rfl:g2=g':=by
   injection e2 with e2;injection e2 with e2 _;exact e2.symm
  obtain⟨y0,y1⟩:=fp k (by omega);have y2:(ints (((range k).map (oy z fn)++[-1])++replicate (m-(k+1)) 0))[k]?=some (.int .i64 (-1)):=by
   simp[ints,getElem?_append]
  rw[y2] at y0;have kO:Hid ((w6.setCell ⟨g2,k,none⟩ (.int .i64 r)).ownsRow g2 3 1 (.slice (some ⟨g2,0,none⟩) m m) m (ints (((range k).map (oy z fn)++[r])++replicate (m-(k+1)) 0))/\Below g2 w (w6.setCell ⟨g2,k,none⟩ (.int .i64 r))):=by
   refine⟨?_,eV.out.2.setCell (p:=⟨g2,k,none⟩) (le_refl _) _⟩;have:=ua eV.out.1 k aq (.int .i64 r);have e3:(ints (((range k).map (oy z fn)++[-1])++replicate (m-(k+1)) 0)).set k (.int .i64 r)=ints (((range k).map (oy z fn)++[r])++replicate (m-(k+1)) 0):=by
    have hl:=yf.out;rw[<-FA _ m k (-1) hl aq,List.set_set,FA _ m k r hl aq]
   rwa [e3] at this
  clear fp e2 y2;go_wp2;go_roundw
  ·exact⟨k+1,by go_num,by omega,by rw[HZ.out];exact kO⟩
  simp[intOf];omega
 obtain rfl:k=m:=by omega
 have HF:Hid (UA k (oy z fn) w (.returned (.slice (some ⟨g,0,none⟩) k k)) wr):=by
  refine⟨_,_,rfl,?_,by rw[Hg.out];exact HA.out.2⟩;have:=HA.out.1;rw[Nat.sub_self,List.replicate_zero,List.append_nil,<-Hg.out] at this;rw[<-Hg.out];exact this
 go_wp2;go_ret;exact HF.out
theorem Y6:∀(args:Array Value) (W:World),(callFunc 77 args).run prog W=.ok (.enter 77 args) W:=fun _ _=>by rfl
theorem Z3(b3 n c:Nat)(a:Option Addr)(f:Nat->Bool)(w:World)(hS:St w 64 b3 #[.slice a n c])(hf:oE w a n f)(x:Nat)(hx:x<n):
  Calls prog 77 #[.int .i64 (x:Int),.pointer (some ⟨b3,0,none⟩)] w fun e w'=>e=.returned (.int .i64 (if f x=true then (x:Int) else -1))/\w'=w:=by
 have c0:w.cell? ⟨b3,0,none⟩=some (.slice a n c):=hS.at_ 0;obtain⟨g,o,rfl,_,q⟩:=hf (by omega);have d0:=q x hx;have i1:(x:Int)<n:=by omega
 clear q;rcases FE:f x with _|_
 ·rw[FE] at d0;have HZ:Hid ((if (false=true) then (x:Int) else -1)=-1):=by show _=_;simp
  clear FE;go_in;go_wp2;go_ret;exact⟨by first|rfl|(rw[HZ.out];rfl)|simp,rfl⟩
 rw[FE] at d0;clear FE;go_in;go_wp2;go_ret;exact⟨by first|rfl|simp,rfl⟩
theorem zoi(D:Dd)(C:Nat)(w:World)(hD:DM w D)(hR:DR D C):
  Calls prog 42 #[.agg D.cD] w (B2 D C D.n (oa D) D.q w):=by
 have CY:∀(fn:Fn) (first cap:Array Value) (w:World),(Instr.makeFunc fn first cap).run prog w=.ok (.func fn first cap) w:=fun _ _ _ _=>rfl
 have cU:=hR.n2;have da:=hR.n1;have iX:=hR.m;have tX:=(hR.iq hD.kl).2;have HB:=hid (Zz (bz.new hD) (Zz (al w (.cells D.cD 29)) hR));obtain⟨iI,hI,rW,r8,sh⟩:=info_parts aG;obtain⟨iV,hV,uJ,uY,ur⟩:=info_parts ez;clear hD hR;go_in;go_upto_region 1 with (refine nR rfl 29 rfl (zC 29) (lA _) ?_);simp only[put,List.setIfInBounds_toArray,List.set_cons_zero,List.set_cons_succ,GV];have H0:Hid (bz ((w.alloc (.cells D.cD 29)).alloc (.cells (zC 29) 29)) w.heap.size D/\St ((w.alloc (.cells D.cD 29)).alloc (.cells (zC 29) 29)) 29 (w.heap.size+1) (zC 29)/\Below w.heap.size w ((w.alloc (.cells D.cD 29)).alloc (.cells (zC 29) 29))):=by
  refine⟨HB.out.1.ab (al _ _),?_,HB.out.2.1.trans ((al _ _).mono (by simp))⟩;have:=St.new (w.alloc (.cells D.cD 29)) 29 (zC 29);simpa using this
 generalize (w.alloc (.cells D.cD 29)).alloc (.cells (zC 29) 29)=Wb at H0⊢;obtain⟨b2,cr⟩:∃b2,w.heap.size+1=b2:=⟨_,rfl⟩
 obtain⟨b0,ay⟩:∃b0,w.heap.size=b0:=⟨_,rfl⟩
 rw[cr,ay] at H0;rw[cr,ay];have Hb:=hid (Zz ay cr);clear cr ay;have rG:=hid (EO D C HB.out.2.2 Wb H0.out.1.dm);go_wp2_with (refine jr (by rfl) 29 _ rfl ⟨b0,0,none⟩ rfl D.cD _ H0.out.1.st.part underlying29 rfl H0.out.1.dm.info ?_);refine rG.out.mono ?_;rintro e wy ⟨rfl,rR⟩;have rS:Hid (bz wy b0 D/\St wy 29 b2 (zC 29)/\Below b0 w wy):=⟨H0.out.1.ab rR,H0.out.2.1.ab rR,H0.out.2.2.trans (rR.mono (by have:=H0.out.2.2.size;have:=Hb.out.1;omega))⟩
 have UD:=hid (zmy D C wy rS.out.1.dm HB.out.2.2);clear rR rG;go_wp2_with (refine jr (by rfl) 29 _ rfl ⟨b0,0,none⟩ rfl D.cD _ rS.out.1.st.part underlying29 rfl rS.out.1.dm.info ?_);refine UD.out.mono ?_;rintro e wA ⟨f,aA,cA,rfl,Yx,YH,bA⟩;go_upto_region 4 with fail;have k3:=al wA (.cells #[.slice aA D.n cA] 64);have uS:Hid (St (wA.alloc (.cells #[.slice aA D.n cA] 64)) 64 wA.heap.size #[.slice aA D.n cA]):=St.new _ _ _;have b1:Below wy.heap.size wy (wA.alloc (.cells #[.slice aA D.n cA] 64)):=bA.trans (k3.mono bA.size);have Il:=hid (Zz ((Ko Yx).below k3) YH);obtain⟨b3,dJ⟩:∃b3,wA.heap.size=b3:=⟨_,rfl⟩
 rw[dJ] at uS;rw[dJ];generalize wA.alloc (.cells #[.slice aA D.n cA] 64)=w1 at b1 Il uS⊢;clear k3 dJ bA;have H1:=hid (Zz (rS.out.1.ab b1) (Zz (rS.out.2.1.ab b1) (rS.out.2.2.trans (b1.mono (by have:=rS.out.2.2.size;have:=Hb.out.1;omega)))));obtain⟨gM,oM,eM,pY,ly⟩:=H1.out.1.dm.rM (by omega);have vp:=hid (Zz eM (Zz pY (Zz (by rw[iX] at ly;exact ly:∀j,j<D.n->w1.cell? ⟨gM,oM+j,none⟩=some (.int .i64 (D.q j))) iX)));have uy:Hid (w.heap.size<=w1.heap.size):=by have h1:=rS.out.2.2.size;have h2:=b1.size;have h3:=Hb.out.1;show _<=_;omega
 have dc:Hid (∀W',Below w1.heap.size w1 W'->Below w1.heap.size w1 W'/\bz W' b0 D/\W'.cell? ⟨b0,257,none⟩=some (.slice (some ⟨gM,oM,none⟩) D.n D.cM)):=fun W' h=>⟨h,H1.out.1.ab h,by have:=(H1.out.1.ab h).f2;rw[eM,iX] at this;exact this⟩
 have lW:Hid (∀W',Below w1.heap.size w1 W'->∀j u,(ints ((range D.n).map D.q))[j]?=some u->W'.cell? ((⟨gM,oM,none⟩:Addr).add j)=some u):=fun W' h=>zmu (fun j hj=>(h.cell (p:=⟨gM,oM+j,none⟩) vp.out.2.1).trans (vp.out.2.2.1 j hj))
 clear Yx YH b1 UD eM ly pY iX
 go_cut [4] from 13 to 18 (fun v wx=>∃(b4:Nat) (a6:Option Addr) (c6:Nat),v=.pointer (some ⟨b4,0,none⟩)/\iN w1 b4 D.K C (.slice none 0 0) [] (fun _=>.slice none 0 0) (.slice a6 D.n c6) ((range D.n).map D.q) wx)
 case first=>
  refine wp_region_held_drew (S:=fun W'=>Below w1.heap.size w1 W'/\bz W' b0 D/\W'.cell? ⟨b0,257,none⟩=some (.slice (some ⟨gM,oM,none⟩) D.n D.cM)) (by kernel_rfl) (dc.out _ (Below.refl _ _).drew) (fun hHeld=>?_)
  (refine an 0 ?_)
  (refine an 1 (v:=.agg (aQ D.K)) ?_ (hy:=by intro wz hSw;exact pt (o:=_) (ρ:=_) wz 25 (.tmp 13) rfl ⟨b0,0,none⟩ rfl (aQ D.K) _ (bz.dG (And.left (And.right hSw))) underlying25 rfl (vt D.K)))
  (refine an 2 ?_;refine an 3 ?_;try simp only[put,sA])
  refine wpAnyH_ready (rs:=[4,6]) (by kernel_rfl) (by simp) ?_;refine gG (fun K hK=>?_) ?_
  ·skip;go_simp;go_at_call 76;refine (MN D.n D.cM (some ⟨gM,oM,none⟩) D.q (by omega) _ (fun _=>⟨gM,oM,rfl,Nat.lt_of_lt_of_le vp.out.2.1 hHeld.1.size,fun j hj=>(hHeld.1.cell (p:=⟨gM,oM+j,none⟩) vp.out.2.1).trans (vp.out.2.2.1 j hj)⟩) (fun h=>by cases h) (fun ad h=>by injection h with h;rw[<-h])).mono ?_;rintro e V5 ⟨a6,c6,rfl,aj,b6⟩;have tM:=hid (Zz (ga aj hHeld.1.size) (hHeld.1.trans (b6.mono hHeld.1.size)));clear aj b6
   try go_wp2_with fail
   refine hK.out _ _ (dc.out _ tM.out.2) fun hHeld=>?_;clear hK K
   try simp only[put,sA]
   (refine wpAnyH_take (i:=5) (oi:=?_) (v:=.agg (dH D.K (.slice none 0 0) (.slice a6 D.n c6))) ?_ (by kernel_rfl) (by kernel_rfl) (by kernel_rfl) ?_ (inl ⟨?_,?_⟩) (by assumption) ?_;rotate_left;(focus ((simp only[List.getElem?_toArray,List.getElem?_cons_succ,List.getElem?_cons_zero]);first|done|rfl));(focus (exact fun _ _ _ h=>h));(focus rfl);(focus (intro wz hSw;exact zfk wz _ _ rfl #[(0,.agg (aQ D.K)),(2,.slice a6 D.n c6)] (by first|rfl|simp[eval]|(simp;rfl)) _ (Wh D.K a6 D.n c6 wz)));try simp only[put,sA])
   refine bf 6 (fun K hK=>?_);skip;refine EJ (by rfl) 29 (by rfl) (zC 29) (lA _) ?_;have kk:=al V5 (.cells (zC 29) 29);have bD:Below w1.heap.size w1 (V5.alloc (.cells (zC 29) 29)):=hHeld.1.trans (kk.mono hHeld.1.size);have H7:Hid (St (V5.alloc (.cells (zC 29) 29)) 29 V5.heap.size (zC 29)/\w1.heap.size<=V5.heap.size):=(⟨St.new _ _ _,hHeld.1.size⟩);have tM:Hid ((V5.alloc (.cells (zC 29) 29)).ownsRow w1.heap.size 3 1 (.slice a6 D.n c6) D.n (ints ((range D.n).map D.q))/\Below w1.heap.size w1 (V5.alloc (.cells (zC 29) 29))):=(⟨cY tM.out.1 kk,bD⟩);refine hK.out _ _ (dc.out _ bD) fun hHeld=>?_;clear hK K
   try simp only[put,sA]
   try simp only[kU]
   clear kk;generalize (V5.alloc (.cells (zC 29) 29))=V7 at H7 tM hHeld bD⊢;refine bf 7 (fun K hK=>?_);skip;refine FN (by rfl) 29 _ _ (by rfl) V5.heap.size 29 (zC 29) (dH D.K (.slice none 0 0) (.slice a6 D.n c6)) (by rfl) (by rfl) H7.out.1 (by rw[gY,mV]) (by rw[fD,mV]) (xY _ _ _ _ _ _ _) ?_;have jZ:=hid (iN.start (K:=D.K) (C:=C) (ws:=fun _=>.slice none 0 0) tM.out.1 (by simp) tM.out.2 H7.out.1 H7.out.2);refine hK.out _ _ (dc.out _ jZ.out.aP) fun hHeld=>?_;clear hK K
   try simp only[put,sA]
   refine wpAnyH_done (by kernel_rfl) ?_ _;clear hHeld tM H7;go_wp2_with fail
   go_meet
   exact⟨_,_,_,rfl,jZ.out⟩
  refine gG (fun K hK=>?_) ?_
  ·skip;refine EJ (by rfl) 29 (by rfl) (zC 29) (lA _) ?_;have kk:=al w1.drew (.cells (zC 29) 29);have bD:Below w1.heap.size w1 (w1.drew.alloc (.cells (zC 29) 29)):=hHeld.1.trans (kk.mono hHeld.1.size);have H7:Hid (St (w1.drew.alloc (.cells (zC 29) 29)) 29 w1.heap.size (zC 29)/\w1.heap.size<=w1.heap.size):=(⟨St.new _ _ _,hHeld.1.size⟩);refine hK.out _ _ (dc.out _ bD) fun hHeld=>?_;clear hK K
   try simp only[put,sA]
   try simp only[kU]
   clear kk;generalize (w1.drew.alloc (.cells (zC 29) 29))=V7 at H7 hHeld bD⊢;refine bf 4 (fun K hK=>?_);skip;go_simp;go_at_call 76;refine (MN D.n D.cM (some ⟨gM,oM,none⟩) D.q (by omega) _ (fun _=>⟨gM,oM,rfl,Nat.lt_of_lt_of_le vp.out.2.1 hHeld.1.size,fun j hj=>(hHeld.1.cell (p:=⟨gM,oM+j,none⟩) vp.out.2.1).trans (vp.out.2.2.1 j hj)⟩) (fun h=>by cases h) (fun ad h=>by injection h with h;rw[<-h])).mono ?_;rintro e V5 ⟨a6,c6,rfl,aj,b6⟩;have tM:=hid (Zz (ga aj hHeld.1.size) (hHeld.1.trans (b6.mono hHeld.1.size)));have H7:Hid (St V5 29 w1.heap.size (zC 29)/\w1.heap.size<=w1.heap.size):=(⟨H7.out.1.ab b6,H7.out.2⟩);clear aj b6
   try go_wp2_with fail
   refine hK.out _ _ (dc.out _ tM.out.2) fun hHeld=>?_;clear hK K
   try simp only[put,sA]
   (refine wpAnyH_take (i:=5) (oi:=?_) (v:=.agg (dH D.K (.slice none 0 0) (.slice a6 D.n c6))) ?_ (by kernel_rfl) (by kernel_rfl) (by kernel_rfl) ?_ (inl ⟨?_,?_⟩) (by assumption) ?_;rotate_left;(focus ((simp only[List.getElem?_toArray,List.getElem?_cons_succ,List.getElem?_cons_zero]);first|done|rfl));(focus (exact fun _ _ _ h=>h));(focus rfl);(focus (intro wz hSw;exact zfk wz _ _ rfl #[(0,.agg (aQ D.K)),(2,.slice a6 D.n c6)] (by first|rfl|simp[eval]|(simp;rfl)) _ (Wh D.K a6 D.n c6 wz)));try simp only[put,sA])
   refine bf 7 (fun K hK=>?_);skip;refine FN (by rfl) 29 _ _ (by rfl) w1.heap.size 29 (zC 29) (dH D.K (.slice none 0 0) (.slice a6 D.n c6)) (by rfl) (by rfl) H7.out.1 (by rw[gY,mV]) (by rw[fD,mV]) (xY _ _ _ _ _ _ _) ?_;have jZ:=hid (iN.start (K:=D.K) (C:=C) (ws:=fun _=>.slice none 0 0) tM.out.1 (by simp) tM.out.2 H7.out.1 H7.out.2);refine hK.out _ _ (dc.out _ jZ.out.aP) fun hHeld=>?_;clear hK K
   try simp only[put,sA]
   refine wpAnyH_done (by kernel_rfl) ?_ _;clear hHeld tM H7;go_wp2_with fail
   go_meet
   exact⟨_,_,_,rfl,jZ.out⟩
  exact AllReadyH.nil
 case rest=>
  obtain⟨b4,a6,c6,rfl,sN⟩:=hcut;have jZ:=hid sN;clear sN;obtain⟨gN,oN,eN,km,pC⟩:=H1.out.1.dm.rN (by omega);have vh:=hid (H1.out.1.ab jZ.out.aP);have f1:=vh.out.f1;rw[eN] at f1;have wF:=hid eN;have sj:=hid pC;have Hg:=hid km;clear eN pC km;go_wp2_with fail;clear f1;go_loopw [6,22] (fun _ v wr=>∃(i:Nat) (ws:Nat->Value) (aN:Option Addr) (cN:Nat),v=.int .i64 i/\i<=D.n/\Hid (iN w1 b4 D.K C (.slice aN i cN) ((range i).map fun i=>(range C).map (oa D i)) ws (.slice a6 D.n c6) ((range D.n).map D.q) wr)) (fun _ v _=>D.n-(intOf v).toNat)
  ·exact⟨0,_,none,0,rfl,by omega,jZ⟩
  clear jZ;obtain⟨i,ws,aN,cN,rfl,hi,HT⟩:=hrel;have mB:Hid (((range i).map fun i=>(range C).map (oa D i)).length=i):=by show _=_;simp
  by_cases aq:i<D.n
  ·have i1:(i:Int)<(D.n:Int):=(by omega);have hlen:=HB.out.2.2.len i aq;have qB:=(HT.out.aP.cell (p:=⟨gN,oN+i,none⟩) Hg.out).trans (sj.out i aq).1;have zN:=(sj.out i aq).2;rw[hlen] at qB zN
   try dsimp only at qB
   have xo:Hid (kW wr.drew (D.A i) C (D.nx i)):=(zN.below HT.out.aP).below (Below.refl _ _).drew;have D4:Hid ((range (i+1)).map (fun i=>(range C).map (oa D i))=(range i).map (fun i=>(range C).map (oa D i))++[(range C).map (oa D i)]):=(by show _=_;rw[range_succ,map_append];rfl);have ui:Hid ((range C).map (oy (D.nx i) (fun x=>if f x=true then ((x:Nat):Int) else -1))=(range C).map (oa D i)):=by
    show _=_;refine(List.map_congr_left fun c hc=>?_);have fp:c<C:=(by simpa using hc);have hb:=HB.out.2.2.nx i c aq fp;unfold oy oa;by_cases h1:D.nx i c=-1
    ·rw[if_pos h1,if_neg (by omega),h1]
    rw[if_neg h1];have hx:(D.nx i c).toNat<D.n:=(by omega);dsimp only;by_cases h2:f (D.nx i c).toNat=true
    ·rw[if_pos h2,if_neg (fun h=>h.2 ((Il.out.2 _ hx).1 h2))];omega
    rw[if_neg h2,if_pos ⟨by omega,fun h=>h2 ((Il.out.2 _ hx).2 h)⟩]
   clear hlen zN;go_upto_region 8 with fail;clear qB;refine wp_region_held_drew (S:=fun W'=>Below w1.heap.size w1 W') (by kernel_rfl) HT.out.aP.drew fun hHeld=>?_;have HT:Hid (iN w1 b4 D.K C (.slice aN i cN) ((range i).map fun i=>(range C).map (oa D i)) ws (.slice a6 D.n c6) ((range D.n).map D.q) wr.drew):=HT.out.ab (Below.refl _ _).drew
   (refine an 0 ?_;refine an 2 ?_;refine an 3 ?_;try simp only[put,sA])
   refine wpAnyH_ready (rs:=[1,4]) (by kernel_rfl) (by simp) ?_;refine gG (fun K hK=>?_) ?_
   ·skip;have f1:=HT.out.f1;go_simp;refine hK.out _ _ (hHeld) fun hHeld=>?_;clear hK K
    try simp only[put,sA]
    clear f1;refine bf 4 (fun K hK=>?_);skip;have iQ:=(HT.out.next.lt).2;have jE:=lE HT.out.dt;go_simp;go_at_call 73;refine (Mh 77 b3 D.n (fun x=>if f x=true then ((x:Nat):Int) else -1) C (D.Cp i) (D.A i) (D.nx i) _ Y6 (fun W' h x hx=>Z3 b3 D.n cA aA f W' ((uS.out.ab HT.out.aP).ab h) ((Il.out.1.below HT.out.aP).below h) x hx) (by omega) (by have h9:=xo.out;exact h9) (fun c hc=>HB.out.2.2.nx i c aq hc) (by omega)).mono ?_;rintro e w5 ⟨a5,c5,rfl,jk,b5⟩;have HU:Hid (w5.ownsRow w1.heap.size 3 1 (.slice a5 C c5) C (ints ((range C).map (oa D i)))/\(∀j,j<((range i).map fun i=>(range C).map (oa D i)).length->∀b,(ws j).ownBlock=some b->(Value.slice a5 C c5).ownBlock≠some b)/\∀b,(Value.slice a5 C c5).ownBlock=some b->(Value.slice a6 D.n c6).ownBlock≠some b):=by
     have jD:=kD jk;refine⟨?_,fun j hj b e1 e2=>?_,fun b e1 e2=>?_⟩
     ·rw[<-ui.out];exact ga jk HT.out.aP.size
     ·have h1:=iQ j hj b e1;have h2:=jD b e2
      try simp only[kU] at h1
      try simp only[kU] at h2
      omega
     have h1:=jE b e2;have h2:=jD b e1
     try simp only[kU] at h1
     try simp only[kU] at h2
     omega
    have HT:=hid (HT.out.ab b5);clear jk b5 iQ jE
    try go_wp2_with fail
    refine hK.out _ _ (HT.out.aP) fun hHeld=>?_;clear hK K
    try simp only[put,sA]
    refine bf 5 (fun K hK=>?_);skip;go_simp;have kk:=al w5 (.cells #[.slice a5 C c5] 27);have HN:Hid (∀j u,[Value.slice a5 C c5][j]?=some u->(w5.alloc (.cells #[.slice a5 C c5] 27)).cell? ((⟨w5.heap.size,0,none⟩:Addr).add j)=some u):=cell_one_new _ _ _;have HT:=hid (HT.out.ab kk);have HU:=hid (Zz (cY HU.out.1 kk) HU.out.2);refine hK.out _ _ (HT.out.aP) fun hHeld=>?_;clear hK K
    try simp only[put,sA]
    clear kk;generalize w5.alloc (.cells #[.slice a5 C c5] 27)=V5 at HN HT HU hHeld⊢;refine bf 6 (fun K hK=>?_);skip;have hO:=(HT.out.next.own);rw[mB.out] at hO;refine sa (by rfl) _ _ _ (by rfl) w1.heap.size 27 iV (.slice none 0 0) 1 24 underlying26 hV uJ uY ur (by rfl) (by decide) _ i ((range i).map ws) (by rfl) hO ⟨w5.heap.size,0,none⟩ 1 1 [.slice a5 C c5] (by rfl) (by rfl) HN.out (by intro u hu;simp at hu;subst hu;rfl) (by unfold maxLen;omega) (by omega) HT.out.aP.size ?_;intro v6 w6 aj af;obtain⟨a7,c7,rfl⟩:=bP aj;have js:=hid (HT.out.gu (u:=.slice a5 C c5) (vN':=.slice a7 (i+1) c7) HU.out.1 HU.out.2.1 HU.out.2.2 mB.out aj af);have h9:=(HT.out.st.ae HT.out.next.own (by decide) af);have z2:w6.cell? ⟨b4,256,none⟩=some (.slice aN i cN):=(by rw[h9.at_,qp]);have z3:w6.frozen? ⟨b4,256,none⟩=false:=h9.bb 256;have eI:=(fG HT.out.aP HT.out.next.own HT.out.aP.size af);clear aj af h9 hO;refine hK.out _ _ (eI) fun hHeld=>?_;clear hK K
    try simp only[put,sA]
    (refine an 7 ?_;try simp only[put,sA])
    refine bf 8 (fun K hK=>?_);skip;go_simp;refine hK.out _ _ (js.out.aP) fun hHeld=>?_;clear hK K
    try simp only[put,sA]
    refine wpAnyH_done (by kernel_rfl) ?_ _;rw[<-D4.out] at js;clear hHeld z2 z3 eI;go_wp2;go_roundw
    ·exact⟨i+1,_,a7,c7,by go_num,by omega,js⟩
    simp[intOf];omega
   refine gG (fun K hK=>?_) ?_
   ·skip;have iQ:=(HT.out.next.lt).2;have jE:=lE HT.out.dt;go_simp;go_at_call 73;refine (Mh 77 b3 D.n (fun x=>if f x=true then ((x:Nat):Int) else -1) C (D.Cp i) (D.A i) (D.nx i) _ Y6 (fun W' h x hx=>Z3 b3 D.n cA aA f W' ((uS.out.ab HT.out.aP).ab h) ((Il.out.1.below HT.out.aP).below h) x hx) (by omega) (by have h9:=xo.out;exact h9) (fun c hc=>HB.out.2.2.nx i c aq hc) (by omega)).mono ?_;rintro e w5 ⟨a5,c5,rfl,jk,b5⟩;have HU:Hid (w5.ownsRow w1.heap.size 3 1 (.slice a5 C c5) C (ints ((range C).map (oa D i)))/\(∀j,j<((range i).map fun i=>(range C).map (oa D i)).length->∀b,(ws j).ownBlock=some b->(Value.slice a5 C c5).ownBlock≠some b)/\∀b,(Value.slice a5 C c5).ownBlock=some b->(Value.slice a6 D.n c6).ownBlock≠some b):=by
     have jD:=kD jk;refine⟨?_,fun j hj b e1 e2=>?_,fun b e1 e2=>?_⟩
     ·rw[<-ui.out];exact ga jk HT.out.aP.size
     ·have h1:=iQ j hj b e1;have h2:=jD b e2
      try simp only[kU] at h1
      try simp only[kU] at h2
      omega
     have h1:=jE b e2;have h2:=jD b e1
     try simp only[kU] at h1
     try simp only[kU] at h2
     omega
    have HT:=hid (HT.out.ab b5);clear jk b5 iQ jE
    try go_wp2_with fail
    refine hK.out _ _ (HT.out.aP) fun hHeld=>?_;clear hK K
    try simp only[put,sA]
    refine wpAnyH_ready (rs:=[1,5]) (by kernel_rfl) (by simp) ?_;refine gG (fun K hK=>?_) ?_
    ·skip;have f1:=HT.out.f1;go_simp;refine hK.out _ _ (hHeld) fun hHeld=>?_;clear hK K
     try simp only[put,sA]
     clear f1;refine bf 5 (fun K hK=>?_);skip;go_simp;have kk:=al w5 (.cells #[.slice a5 C c5] 27);have HN:Hid (∀j u,[Value.slice a5 C c5][j]?=some u->(w5.alloc (.cells #[.slice a5 C c5] 27)).cell? ((⟨w5.heap.size,0,none⟩:Addr).add j)=some u):=cell_one_new _ _ _;have HT:=hid (HT.out.ab kk);have HU:=hid (Zz (cY HU.out.1 kk) HU.out.2);refine hK.out _ _ (HT.out.aP) fun hHeld=>?_;clear hK K
     try simp only[put,sA]
     clear kk;generalize w5.alloc (.cells #[.slice a5 C c5] 27)=V5 at HN HT HU hHeld⊢;refine bf 6 (fun K hK=>?_);skip;have hO:=(HT.out.next.own);rw[mB.out] at hO;refine sa (by rfl) _ _ _ (by rfl) w1.heap.size 27 iV (.slice none 0 0) 1 24 underlying26 hV uJ uY ur (by rfl) (by decide) _ i ((range i).map ws) (by rfl) hO ⟨w5.heap.size,0,none⟩ 1 1 [.slice a5 C c5] (by rfl) (by rfl) HN.out (by intro u hu;simp at hu;subst hu;rfl) (by unfold maxLen;omega) (by omega) HT.out.aP.size ?_;intro v6 w6 aj af;obtain⟨a7,c7,rfl⟩:=bP aj;have js:=hid (HT.out.gu (u:=.slice a5 C c5) (vN':=.slice a7 (i+1) c7) HU.out.1 HU.out.2.1 HU.out.2.2 mB.out aj af);have h9:=(HT.out.st.ae HT.out.next.own (by decide) af);have z2:w6.cell? ⟨b4,256,none⟩=some (.slice aN i cN):=(by rw[h9.at_,qp]);have z3:w6.frozen? ⟨b4,256,none⟩=false:=h9.bb 256;have eI:=(fG HT.out.aP HT.out.next.own HT.out.aP.size af);clear aj af h9 hO;refine hK.out _ _ (eI) fun hHeld=>?_;clear hK K
     try simp only[put,sA]
     (refine an 7 ?_;try simp only[put,sA])
     refine bf 8 (fun K hK=>?_);skip;go_simp;refine hK.out _ _ (js.out.aP) fun hHeld=>?_;clear hK K
     try simp only[put,sA]
     refine wpAnyH_done (by kernel_rfl) ?_ _;rw[<-D4.out] at js;clear hHeld z2 z3 eI;go_wp2;go_roundw
     ·exact⟨i+1,_,a7,c7,by go_num,by omega,js⟩
     simp[intOf];omega
    refine gG (fun K hK=>?_) ?_
    ·skip;go_simp;have kk:=al w5 (.cells #[.slice a5 C c5] 27);have HN:Hid (∀j u,[Value.slice a5 C c5][j]?=some u->(w5.alloc (.cells #[.slice a5 C c5] 27)).cell? ((⟨w5.heap.size,0,none⟩:Addr).add j)=some u):=cell_one_new _ _ _;have HT:=hid (HT.out.ab kk);have HU:=hid (Zz (cY HU.out.1 kk) HU.out.2);refine hK.out _ _ (HT.out.aP) fun hHeld=>?_;clear hK K
     try simp only[put,sA]
     clear kk;generalize w5.alloc (.cells #[.slice a5 C c5] 27)=V5 at HN HT HU hHeld⊢;refine bf 1 (fun K hK=>?_);skip;have f1:=HT.out.f1;go_simp;refine hK.out _ _ (hHeld) fun hHeld=>?_;clear hK K
     try simp only[put,sA]
     clear f1;refine bf 6 (fun K hK=>?_);skip;have hO:=(HT.out.next.own);rw[mB.out] at hO;refine sa (by rfl) _ _ _ (by rfl) w1.heap.size 27 iV (.slice none 0 0) 1 24 underlying26 hV uJ uY ur (by rfl) (by decide) _ i ((range i).map ws) (by rfl) hO ⟨w5.heap.size,0,none⟩ 1 1 [.slice a5 C c5] (by rfl) (by rfl) HN.out (by intro u hu;simp at hu;subst hu;rfl) (by unfold maxLen;omega) (by omega) HT.out.aP.size ?_;intro v6 w6 aj af;obtain⟨a7,c7,rfl⟩:=bP aj;have js:=hid (HT.out.gu (u:=.slice a5 C c5) (vN':=.slice a7 (i+1) c7) HU.out.1 HU.out.2.1 HU.out.2.2 mB.out aj af);have h9:=(HT.out.st.ae HT.out.next.own (by decide) af);have z2:w6.cell? ⟨b4,256,none⟩=some (.slice aN i cN):=(by rw[h9.at_,qp]);have z3:w6.frozen? ⟨b4,256,none⟩=false:=h9.bb 256;have eI:=(fG HT.out.aP HT.out.next.own HT.out.aP.size af);clear aj af h9 hO;refine hK.out _ _ (eI) fun hHeld=>?_;clear hK K
     try simp only[put,sA]
     (refine an 7 ?_;try simp only[put,sA])
     refine bf 8 (fun K hK=>?_);skip;go_simp;refine hK.out _ _ (js.out.aP) fun hHeld=>?_;clear hK K
     try simp only[put,sA]
     refine wpAnyH_done (by kernel_rfl) ?_ _;rw[<-D4.out] at js;clear hHeld z2 z3 eI;go_wp2;go_roundw
     ·exact⟨i+1,_,a7,c7,by go_num,by omega,js⟩
     simp[intOf];omega
    exact AllReadyH.nil
   exact AllReadyH.nil
  obtain rfl:i=D.n:=by omega
  have jc:=hid HT.out.st;have fV:=hid (H1.out.2.1.ab HT.out.aP);have hd:=mV D.K (.slice aN D.n cN) (.slice a6 D.n c6);have Bh:Hid (Below w.heap.size w (wr.setRow b2 (dH D.K (.slice aN D.n cN) (.slice a6 D.n c6)))):=by
   rw[Hb.out.1];exact kT (H1.out.2.2.trans (HT.out.aP.mono (by have:=uy.out;have:=Hb.out.1;omega))) (by have:=Hb.out;omega) _
  have HF:Hid (B2 D C D.n (oa D) D.q w (.returned (.agg (dH D.K (.slice aN D.n cN) (.slice a6 D.n c6)))) (wr.setRow b2 (dH D.K (.slice aN D.n cN) (.slice a6 D.n c6)))):=
   HT.out.Sl HB.out.1.dm.kl mB.out (fun r hr=>by obtain⟨j,_,rfl⟩:=List.mem_map.1 hr;simp) rfl (fun j hj c hc=>by simp[getD_eq_getElem?_getD,hj,hc]) uy.out (inr ⟨b2,_,_,fV.out,rfl⟩) Bh.out
  go_wp2_with (first|(refine p6 rfl 29 _ rfl ⟨b4,0,none⟩ rfl (dH D.K (.slice aN D.n cN) (.slice a6 D.n c6)) _ jc.out.part underlying29 rfl (by rw[fD,hd]) ?_)|(refine lJ rfl 29 _ _ rfl b2 29 (zC 29) (dH D.K (.slice aN D.n cN) (.slice a6 D.n c6)) rfl rfl fV.out (by rw[gY,hd]) (by rw[fD,hd]) (xY _ _ _ _ _ _ _) ?_));refine bodyPost_ret (results_cell_row rfl _ _ b2 29 (dH D.K (.slice aN D.n cN) (.slice a6 D.n c6)) (0,0) _ rfl fV.out.setRow underlying29 rfl (by rw[fD,hd])) rfl ?_;exact HF.out
