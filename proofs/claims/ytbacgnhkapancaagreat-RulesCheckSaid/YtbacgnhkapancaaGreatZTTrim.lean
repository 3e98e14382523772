import Derived.Test.YtbacgnhkapancaaGreatZSFrame
import Derived.Test.YtbacgnhkapancaaGreatZTRefW
set_option linter.all false
set_option maxHeartbeats 4000000
set_option maxRecDepth 100000
open Go.Lib (hid)
namespace Go.Proofs.YtbacgnhkapancaaGreat
open Go.RowKit Go.Maps Go.WideElems Go.ChangeMaps Go.MapKept Go.Proofs.Tryz
open Region (wanted)
open Instr (build fill)
open Act (eval put)
open Or (inl inr)
open Result (andThen_ok)
open Sem (run_bind run_pure)
open Nat (le_refl le_trans)
open List (getD_eq_getElem?_getD getElem?_append getElem_mem length_append map_append mem_append mem_singleton range range_succ replicate)
variable {b4:Nat}{ops:Array Oper}{tg:Nat->List Nat}{xs:List Value}
def nr(w:World)(a:Option Addr)(l:List Nat):Prop:=kE w a l.length (fun i=>((l.getD i 0:Nat):Int))
theorem nr.below{w w':World}{a:Option Addr}{l:List Nat}(h:nr w a l)(k:Below w.heap.size w w'):nr w' a l:=kE.below h k
theorem si{w:World}{B n c:Nat}{a:Option Addr}{l:List Nat}(h:w.ownsRow B 3 1 (.slice a n c) n (cO l))(hl:l.length=n):nr w a l:=by
 have e:cO l=ints (l.map fun x=>((x:Nat):Int)):=by simp[cO,ints]
 rw[e] at h;have h2:=Te h (by simpa using hl);unfold nr;rw[hl];intro h0;obtain⟨g,off,e1,e2,hc⟩:=h2 h0;refine⟨g,off,e1,e2,fun j hj=>?_⟩;rw[hc j hj];have:j<l.length:=by omega
 simp[getD_eq_getElem?_getD,this]
theorem Sw(n:Nat)(l:List Nat)(a:Option Addr)(q c:Nat)(hq:l.length=q)(hq2:q<=1000000)(hn:n<=1000000)(hl:∀x∈l,x<n)(w:World)(hL:nr w a l):
  Calls prog 106 #[.int .i64 (n:Int),.slice a q c] w (BS n (fun x=>x∈l) w):=by
 have fu:=Uu n (by omega);have HL:=hid (Zz hL (Zz hq hl));have HO:=hid (OB.made w n (by unfold maxLen;omega));clear hL hq hl;go_enter func106,ntmps106;go_wp2_with fail;obtain⟨g,hg⟩:∃g,w.heap.size=g:=⟨_,rfl⟩
 have j4:Hid (∀W1,(w.alloc (.cells (madeCells #[.bool false] n) 4))=W1->OB w g n (fun _=>false) W1):=fun W1 h=>by rw[<-h,<-hg];exact HO.out
 rw[hg];generalize sf:w.alloc (.cells (madeCells #[.bool false] n) 4)=W1;have HO:=hid (j4.out W1 sf);have HOl:=hid (fun (wr:World) (h:OB w g n (fun _=>false) wr)=>h);have HLW:=hid (fun (wr:World) (hb:Below w.heap.size w wr)=>HL.out.1.below hb);clear j4 hg sf;go_loopw [7,12] (fun _ v wr=>∃(k:Nat) (f:Nat->Bool),v=.int .i64 k/\k<=q/\Hid (OB w g n f wr/\∀x,f x=true↔x∈l.take k)) (fun _ v _=>q-(intOf v).toNat)
 ·exact⟨0,_,rfl,by omega,⟨HO.out,fun x=>by simp⟩⟩
 clear HO;obtain⟨k,f,rfl,hk,HX⟩:=hrel;by_cases an:k<q
 ·have hkl:k<l.length:=by rw[HL.out.2.1];exact an
  obtain⟨gL,oL,rfl,_,c0⟩:=HLW.out wr HX.out.1.bb (by omega);have c1:=c0 k hkl;have hx:l.getD k 0=l[k]:=by simp[getD_eq_getElem?_getD,hkl]
  have jq:=HL.out.2.2 l[k] (getElem_mem hkl);dsimp only at c1;rw[hx] at c1;have HS:Hid (∀x,(if x=l[k] then true else f x)=true↔x∈l.take (k+1)):=fun x=>by
   rw[List.take_succ_eq_append_getElem hkl,mem_append,mem_singleton];by_cases e:x=l[k]
   ·rw[if_pos e];simp[e]
   rw[if_neg e,HX.out.2];simp[e]
  clear c0 hx;generalize l[k]=t at c1 jq HS;obtain⟨y0,y1⟩:=HX.out.1.cell t jq;have HA:=hid (HX.out.1.put t jq true);have i1:(k:Int)<q:=by omega
  have i2:(t:Int)<n:=by omega
  go_wp2;go_roundw
  ·exact⟨k+1,_,by go_num,by omega,⟨HA.out,HS.out⟩⟩
  simp[intOf];omega
 obtain rfl:k=q:=by omega
 have HZ:Hid (BS n (fun x=>x∈l) w (.returned (.slice (some ⟨g,0,none⟩) n n)) wr):=
  ⟨f,_,_,rfl,HX.out.1.own,fun x _=>by rw[HX.out.2,List.take_of_length_le (by rw[HL.out.2.1];exact le_refl _)],HX.out.1.bb⟩
 go_wp2;go_ret;exact HZ.out
def N9(q:Nat)(z:Nat->Int)(w:World)(e:Ending)(w':World):Prop:=
 ∃(a:Option Addr) (c:Nat),e=.returned (.slice a q c)/\w'.ownsRow w.heap.size 3 1 (.slice a q c) q (ints ((range q).map z))/\Below w.heap.size w w'
theorem zmt{w:World}{q:Nat}{z:Nat->Int}{g o:Nat}(hc:∀j,j<q->w.cell? ⟨g,o+j,none⟩=some (.int .i64 (z j))):∀j u,(ints ((range q).map z))[j]?=some u->w.cell? ((⟨g,o,none⟩:Addr).add j)=some u:=by
 intro j u hj;have hl:j<q:=by
  have:=(List.getElem?_eq_some_iff.1 hj).1;simpa [ints] using this
 have e:(⟨g,o,none⟩:Addr).add j=⟨g,o+j,none⟩:=by unfold Addr.add;split <;> simp_all
 rw[e,hc j hl];simp[ints,hl] at hj;rw[hj]
theorem WC(a:Option Addr)(n c:Nat)(W:World):(binOp .eql 30 (.slice a n c) (.slice none 0 0)).run prog W=.ok (.bool a.isNone) W:=by
 have h:=run_equal_slice_nil W 30 3 a n c underlying30;unfold binOp;simp only[run_bind,h,andThen_ok,run_pure]
theorem Ky(q c:Nat)(a:Option Addr)(z:Nat->Int)(hq:q<=1000000)(w:World)(hz:kE w a q z)(ha:a=none->q=0/\c=0)(hs:∀ad,a=some ad->ad.spot=none):
  Calls prog 89 #[.slice a q c] w (N9 q z w):=by
 have HZ:=hid hz;obtain⟨iI,hI,pW,p9,qa⟩:=info_parts az;clear hz;go_enter func89,ntmps89;rcases a with _|⟨g,o,sp⟩
 ·obtain⟨rfl,rfl⟩:=ha rfl;have he:(binOp .eql 30 (.slice none 0 0) (.slice none 0 0)).run prog w=.ok (.bool true) w:=WC none 0 0 w;have HF:Hid (N9 0 z w (.returned (.slice none 0 0)) w):=⟨none,0,rfl,World.ownsRow_nil _ _ _ _,Below.refl _ _⟩
  go_wp2;go_ret;exact HF.out
 obtain rfl:sp=none:=hs _ rfl;have he:(binOp .eql 30 (.slice (some ⟨g,o,none⟩) q c) (.slice none 0 0)).run prog w=.ok (.bool false) w:=WC _ q c w;have HN:Hid (∀W,Below w.heap.size w W->∀j u,(ints ((range q).map z))[j]?=some u->W.cell? ((⟨g,o,none⟩:Addr).add j)=some u):=fun W hb=>by
  rcases Nat.eq_zero_or_pos q with h0|h0
  ·subst h0;intro j u hj;simp[ints] at hj
  obtain⟨g',o',e,_,hc⟩:=(HZ.out.below hb) h0;injection e with e;injection e with e1 e2;subst e1 e2;exact zmt hc
 have ay:=vx w w.heap.size 3 1 #[] 0 rfl (le_refl _) (by decide);go_wp2_with (at_builtin;refine wpList_append_own_at _ rfl _ _ 30 rfl w.heap.size 3 iI (.int .i64 0) 1 8 underlying30 hI pW p9 qa rfl (by decide) _ _ _ rfl ay ⟨g,o,none⟩ q c (ints ((range q).map z)) rfl (by simp[ints]) (HN.out _ (al w _)) ?d2 ?d3 ?d4 ?d5 ?_)
 case d2=>
  intro u hu;simp[ints] at hu;obtain⟨x,_,rfl⟩:=hu;rfl
 case d3=>unfold maxLen;omega
 case d4=>omega
 any_goals (first|(simp;done)|skip)
 intro v5 w5 ah ag _ bG
 try rw[Nat.zero_add] at ah
 try rw[Array.toList_empty,List.nil_append] at ah
 obtain⟨a5,c5,rfl⟩:=bJ ah;have HF:Hid (N9 q z w (.returned (.slice a5 q c5)) w5):=⟨a5,c5,rfl,ah,fC (al w (.cells #[] 3)) ay (by simp) ag⟩
 clear ah ag bG;go_wp2;go_ret;exact HF.out
def ar(len:Nat->Nat)(nx:Nat->Nat->Int)(i:Nat):List Int:=(range (len i)).map (nx i)
def Wp(rows:Nat->List Int)(l0:List Nat)(n:Nat)(w:World)(e:Ending)(w':World):Prop:=
 ∃(l:List Nat) (i:Nat) (a:Option Addr) (c:Nat),e=.returned (.slice a i c)/\w'.ownsRow w.heap.size 3 1 (.slice a i c) i (cO l)/\l=dr rows l0 i/\l.length=i/\i<=n/\(∀x∈l,x<n)/\Below w.heap.size w w'
theorem zmu(nx:Nat->Nat->Int)(x c:Nat)(m:List Nat):ij m ((range (c+1)).map (nx x))=iY (ij m ((range c).map (nx x))) (nx x c):=by
 rw[range_succ,map_append,List.map_singleton,zms]
theorem Pq(n cL:Nat)(aL:Option Addr)(A:Nat->Option Addr)(Cp len:Nat->Nat)(nx:Nat->Nat->Int)(l0:List Nat)(aF:Option Addr)(q cF:Nat)(hn:n<=100000)(hlen:∀i,i<n->len i<=100000)(yo:∀i c,i<n->c<len i->-1<=nx i c/\nx i c<(n:Int))
  (hq:l0.length=q) (jr:l0.Nodup) (ka:∀x∈l0,x<n) (w:World) (hR:pQ w aL n A Cp len nx) (hF:nr w aF l0) (ha:aF=none->q=0/\cF=0) (hs:∀ad,aF=some ad->ad.spot=none):
  Calls prog 85 #[.slice aL n cL,.slice aF q cF] w (Wp (ar len nx) l0 n w):=by
 have zZ:q<=n:=by rw[<-hq];exact p8 jr ka
 have HX:=hid (Zz hlen (Zz yo (Zz hq (Zz jr (Zz ka (Zz hR hF))))));have tj:=hid (Ky q cF aF (fun i=>((l0.getD i 0:Nat):Int)) (by omega) w (by rw[<-hq];exact hF) ha hs);obtain⟨iI,hI,pW,p9,qa⟩:=info_parts az;clear hlen yo hq jr ka hR hF ha hs;go_enter func85,ntmps85;go_wp2_with fail;refine tj.out.mono ?_;rintro e w1 ⟨a1,c1,rfl,ay,b1⟩;have Aj:ints ((range q).map (fun i=>((l0.getD i 0:Nat):Int)))=cO l0:=by
  apply List.ext_getElem?;intro j;have hq:=HX.out.2.2.1;by_cases h:j<q
  ·have h2:j<l0.length:=(by omega);simp[ints,cO,h,h2,getD_eq_getElem?_getD]
  have h2:¬j<l0.length:=by omega
  simp[ints,cO,h,h2]
 rw[Aj] at ay;have yR:=hid (Zz ay b1);have ZK:=hid (Sw n l0 a1 q c1 HX.out.2.2.1 (by omega) (by omega) HX.out.2.2.2.2.1 w1 (si ay HX.out.2.2.1));clear ay b1 Aj tj;go_wp2_with fail;refine ZK.out.mono ?_;rintro e w2 ⟨f,a2,c2,rfl,eK,hf,b2⟩;have fH:∃g,(Value.slice a2 n c2)=.slice (some ⟨g,0,none⟩) n c2\/n=0:=by
  rcases Nat.eq_zero_or_pos n with h|h
  ·exact⟨0,inr h⟩
  obtain⟨g,e,_⟩:=ep eK h;exact⟨g,inl (by rw[e])⟩
 have cr:iN f n=iN (fun x=>decide (x∈l0)) n:=Y4 fun j hj=>by rw[Bool.eq_iff_iff,hf j hj,decide_eq_true_iff]
 rw[cr] at eK;have j4:Hid (w2.ownsRow w.heap.size 3 1 (.slice a1 q c1) q (cO l0)/\w2.ownsRow w.heap.size 4 1 (.slice a2 n c2) n (iN (fun x=>decide (x∈l0)) n)/\Below w.heap.size w w2):=⟨cW yR.out.1 b2,gE eK yR.out.2.size,yR.out.2.trans (b2.mono yR.out.2.size)⟩
 clear eK hf b2 cr ZK yR;go_wp2_with fail;go_loopw [5,7,9,30] (fun v5 v7 _ _ wr=>∃(i p:Nat) (l:List Nat) (a:Option Addr) (c:Nat),v7=.int .i64 i/\i<=p/\p<=n/\v5=.slice a p c/\Hid (l=dr (ar len nx) l0 i/\l.length=p/\l.Nodup/\(∀x∈l,x<n)/\wr.ownsRow w.heap.size 3 1 (.slice a p c) p (cO l)/\wr.ownsRow w.heap.size 4 1 (.slice a2 n c2) n (iN (fun x=>decide (x∈l)) n)/\Below w.heap.size w wr)) (fun _ v _ _ _=>n-(intOf v).toNat)
 ·exact⟨0,q,l0,a1,c1,rfl,by omega,zZ,rfl,⟨rfl,HX.out.2.2.1,HX.out.2.2.2.1,HX.out.2.2.2.2.1,j4.out.1,j4.out.2.1,j4.out.2.2⟩⟩
 clear j4;obtain⟨i,p,l,a,c,rfl,hip,Jc,rfl,HL⟩:=hrel;by_cases an:i<p
 ·have lp:i<l.length:=by rw[HL.out.2.1];exact an
  obtain⟨gM,rfl,_,_,cM⟩:=ep HL.out.2.2.2.2.1 (by omega);have d0:=(cM i (by omega)).1;rw[By l i lp] at d0;have jq:=HL.out.2.2.2.1 l[i] (getElem_mem lp);have Kg:Hid (dr (ar len nx) l0 (i+1)=ij l (ar len nx l[i])):=by
   show oK _ (dr _ _ i) i=_;rw[<-HL.out.1];unfold oK;rw[if_pos lp];simp[getD_eq_getElem?_getD,lp]
  clear cM;generalize l[i]=x at d0 jq Kg;obtain⟨g2,Aa⟩:=fH;obtain rfl:a2=some ⟨g2,0,none⟩:=by
   rcases Aa with h|h
   ·injection h
   omega
  clear Aa;have hlx:=HX.out.1 x jq;obtain⟨gL,oL,eL,_,Bn⟩:=(HX.out.2.2.2.2.2.1.below HL.out.2.2.2.2.2.2) (by omega);obtain⟨d1,zx⟩:=Bn x jq;have GB:Hid (kE w (A x) (len x) (nx x)):=by
   obtain⟨_,_,_,_,cLw⟩:=HX.out.2.2.2.2.2.1 (by omega);exact (cLw x jq).2
  have Nu:=hid (fun c hc=>HX.out.2.1 x c jq hc);have HeL:=hid eL;rw[eL];have i1:(i:Int)<p:=by omega
  have i2:(x:Int)<n:=by omega
  clear Bn zx eL;obtain⟨m,hm⟩:∃m,len x=m:=⟨_,rfl⟩
  have Hm:=hid hm;rw[hm] at d1 hlx GB;generalize A x=ax at d1 GB;generalize Cp x=cx at d1;clear hm;go_wp2_with fail;obtain⟨W9,rfl⟩:∃W9,W9=wr:=⟨wr,rfl⟩
  clear d0 d1;go_loopw [5,9,30] (fun v5 _ v30 wq=>∃(k p2:Nat) (l2:List Nat) (a:Option Addr) (c:Nat),v30=.int .i64 k/\k<=m/\p<=p2/\p2<=n/\v5=.slice a p2 c/\Hid (l2=ij l ((range k).map (nx x))/\l2.length=p2/\l2.Nodup/\(∀x∈l2,x<n)/\wq.ownsRow w.heap.size 3 1 (.slice a p2 c) p2 (cO l2)/\wq.ownsRow w.heap.size 4 1 (.slice (some ⟨g2,0,none⟩) n c2) n (iN (fun x=>decide (x∈l2)) n)/\Below w.heap.size w wq)) (fun _ _ v _=>m-(intOf v).toNat)
  ·exact⟨0,p,l,_,c,rfl,by omega,by omega,Jc,rfl,⟨rfl,HL.out.2.1,HL.out.2.2.1,HL.out.2.2.2.1,HL.out.2.2.2.2.1,HL.out.2.2.2.2.2.1,HL.out.2.2.2.2.2.2⟩⟩
  obtain⟨k,p2,l2,a,c,rfl,hk,hpp,fw,rfl,HK⟩:=hrel;by_cases dN:k<m
  ·obtain⟨gA,oA,eA,_,mz⟩:=(GB.out.below HK.out.2.2.2.2.2.2) (by omega);have cA:=mz k dN;have hb:=Nu.out k (by rw[Hm.out];exact dN);have HS:=hid (zmu nx x k l);rw[eA];have Hj:=hid eA;have i3:(k:Int)<m:=(by omega);clear mz eA;generalize nx x k=t at cA hb HS;by_cases ht:t=-1
   ·subst ht;have HZ:Hid (l2=ij l ((range (k+1)).map (nx x))):=by
     show _=_;rw[HS.out,<-HK.out.1];unfold iY;rw[if_neg (by omega)]
    go_wp2;go_roundw
    ·exact⟨k+1,p2,l2,a,c,by go_num,by omega,by omega,by omega,rfl,⟨HZ.out,HK.out.2⟩⟩
    simp[intOf];omega
   obtain⟨u,rfl⟩:∃u:Nat,t=(u:Int):=(⟨t.toNat,by omega⟩);have hu:u<n:=(by omega);have i4:(u:Int)<n:=(by omega);have Hc:((u:Int) != (-1:Int))=true:=(by first|(simp;done)|(simp;omega));obtain⟨gS,eS,wK,_,cS⟩:=ep HK.out.2.2.2.2.2.1 (by omega);obtain rfl:gS=g2:=by
    injection eS with eS;injection eS with eS _;exact eS.symm
   have y0:=(cS u (by omega)).1;have y1:=(cS u (by omega)).2;have y2:(iN (fun x=>decide (x∈l2)) n)[u]?=some (.bool (decide (u∈l2))):=(by simp[iN,hu]);rw[y2] at y0;clear cS y2 eS ht;by_cases nb:u∈l2
   ·have hd:decide (u∈l2)=true:=(by simp[nb]);rw[hd] at y0;have HZ:Hid (l2=ij l ((range (k+1)).map (nx x))):=by
     show _=_;rw[HS.out,<-HK.out.1];unfold iY;rw[if_neg (by simp[nb])]
    clear hd nb;go_wp2;go_roundw
    ·exact⟨k+1,p2,l2,a,c,by go_num,by omega,by omega,by omega,rfl,⟨HZ.out,HK.out.2⟩⟩
    simp[intOf];omega
   have hd:decide (u∈l2)=false:=(by simp[nb]);rw[hd] at y0;have HZ:Hid (l2++[u]=ij l ((range (k+1)).map (nx x))):=by
    show _=_;rw[HS.out,<-HK.out.1];unfold iY;rw[if_pos ⟨by omega,by simpa using nb⟩];simp
   have HN:Hid ((l2++[u]).Nodup/\∀x∈l2++[u],x<n):=by
    refine⟨?_,fun y hy=>?_⟩
    ·rw[List.nodup_append];exact⟨HK.out.2.2.1,by simp,fun a ha b cr e=>by
      rw[List.mem_singleton.1 cr] at e
      rw[e] at ha
      exact nb ha⟩
    rcases List.mem_append.1 hy with h|h
    ·exact HK.out.2.2.2.1 y h
    rw[List.mem_singleton.1 h];exact hu
   have hpn3:p2+1<=n:=by
    have:=p8 HN.out.1 HN.out.2;simp[HK.out.2.1] at this;exact this
   have HT:Hid ((wr.setCell ⟨gS,u,none⟩ (.bool true)).ownsRow w.heap.size 3 1 (.slice a p2 c) p2 (cO l2)/\(wr.setCell ⟨gS,u,none⟩ (.bool true)).ownsRow w.heap.size 4 1 (.slice (some ⟨gS,0,none⟩) n c2) n (iN (fun x=>decide (x∈l2++[u])) n)/\Below w.heap.size w (wr.setCell ⟨gS,u,none⟩ (.bool true))):=by
    have h1:=HK.out.2.2.2.2.1;have h2:=HK.out.2.2.2.2.2.1;refine⟨fA (ts:=[]) (bs:=[gS]) h1 ((Kept.refl _ _ _).setCell _ _ (inl (by simp))) (by simp) (fun b e hm=>iy h1 h2 (by decide) b e (by simp[List.mem_singleton.1 hm,Value.ownBlock])),?_,HK.out.2.2.2.2.2.2.setCell (p:=⟨gS,u,none⟩) wK _⟩;have h3:=uA h2 u hu (.bool true);rw[YO] at h3;have e:iN (fun x=>decide (x∈l2++[u])) n=iN (fun i=>if i=u then true else decide (i∈l2)) n:=Y4 fun j hj=>by
     by_cases e:j=u
     ·simp[e]
     simp[e]
    rw[e];exact h3
   clear hd nb;go_upto_region 11 with fail;generalize wr.setCell ⟨gS,u,none⟩ (.bool true)=W5 at HT⊢;have hO:=HT.out.1;clear y0 y1;go_wp2_with (at_builtin;refine wpList_append_own_at _ rfl _ _ 30 rfl w.heap.size 3 iI (.int .i64 0) 1 8 underlying30 hI pW p9 qa rfl (by decide) _ _ _ rfl (hO.alloc _) ⟨W5.heap.size,0,none⟩ 1 1 [.int .i64 (u:Int)] rfl rfl (cell_one_new _ _ _) ?d2 ?d3 ?d4 ?d5 ?_)
   case d2=>first|(intro u hu;simp at hu;subst hu;rfl)|rfl
   case d3=>unfold maxLen;omega
   case d4=>omega
   case d5=>have:=HT.out.2.2.size;simp at this⊢;omega
   intro v5 w5 ah ag _ bG;obtain⟨a5,c5,rfl⟩:=bJ ah;have kk:=al W5 (.cells #[.int .i64 (u:Int)] 3);have td:=HT.out.2.2.size;have h2:=cW HT.out.2.1 kk;have HY:Hid (w5.ownsRow w.heap.size 3 1 (.slice a5 (p2+1) c5) (p2+1) (cO (l2++[u]))/\w5.ownsRow w.heap.size 4 1 (.slice (some ⟨gS,0,none⟩) n c2) n (iN (fun x=>decide (x∈l2++[u])) n)/\Below w.heap.size w w5):=by
    refine⟨by rw[wC];exact ah,qM h2 ag (fun b e e2=>iy h2 (hO.alloc _) (by decide) b e e2.symm),fC (HT.out.2.2.trans (kk.mono td)) (hO.alloc _) (le_trans td kk.size) ag⟩
   clear ah ag bG hO kk h2;go_wp2;go_roundw
   ·exact⟨k+1,p2+1,l2++[u],a5,c5,by go_num,by omega,by omega,by omega,rfl,⟨HZ.out,by rw[length_append,HK.out.2.1];rfl,HN.out.1,HN.out.2,HY.out.1,HY.out.2.1,HY.out.2.2⟩⟩
   simp[intOf];omega
  obtain rfl:k=m:=by omega
  have HZ:Hid (l2=dr (ar len nx) l0 (i+1)):=by
   show _=_;rw[Kg.out,HK.out.1];unfold ar;rw[Hm.out]
  go_wp2;go_roundw
  ·exact⟨i+1,p2,l2,a,c,by go_num,by omega,fw,rfl,⟨HZ.out,HK.out.2⟩⟩
  simp[intOf];omega
 obtain rfl:i=p:=by omega
 have HF:Hid (Wp (ar len nx) l0 n w (.returned (.slice a i c)) wr):=⟨l,i,a,c,rfl,HL.out.2.2.2.2.1,HL.out.1,HL.out.2.1,Jc,HL.out.2.2.2.1,HL.out.2.2.2.2.2.2⟩
 go_wp2;go_ret;exact HF.out
theorem zha(l:List Nat)(s q c:Nat)(a:Option Addr)(hq:l.length=q)(hq2:q<=1000000)(w:World)(hL:nr w a l):
  Calls prog 148 #[.slice a q c,.int .i64 (s:Int)] w (tY (l.getLast?=some s) w):=by
 have HL:=hid (Zz hL hq);clear hL hq;go_enter func148,ntmps148;rcases q with _|q
 ·have HZ:Hid (l.getLast?≠some s):=by
   show ¬_=_;rw[List.eq_nil_of_length_eq_zero HL.out.2];intro h;cases h
  go_wp2;go_ret;exact⟨false,rfl,⟨(fun h=>by cases h),(fun h=>absurd h HZ.out)⟩,Below.refl _ _⟩
 have hne:l.length=q+1:=HL.out.2;obtain⟨g,o,rfl,_,c0⟩:=HL.out.1 (by omega);have c1:=c0 q (by omega);have fY:l.getLast?=some (l.getD q 0):=by
  rw[List.getLast?_eq_getElem?,hne];have:q<l.length:=by omega
  simp[getD_eq_getElem?_getD,this]
 have HS:Hid (l.getLast?=some s↔l.getD q 0=s):=by
  show _↔_;rw[fY];simp
 clear c0 fY hne;dsimp only at c1;generalize l.getD q 0=t at c1 HS;have i1:((q:Int)+1)-1=(q:Int):=by omega
 have i2:(0:Int)<q+1:=by omega
 have i3:(q:Int)<q+1:=by omega
 by_cases e:t=s
 ·subst e;have HZ:=hid (HS.out.2 rfl);go_wp2_with fail
  try go_quiet (fail)
  try go_wp2_with fail
  go_ret;exact⟨true,rfl,⟨(fun _=>HZ.out),(fun _=>rfl)⟩,by first|exact Below.refl _ _|exact (Below.refl _ _).drew⟩
 have HZ:Hid (¬l.getLast?=some s):=fun h=>e (HS.out.1 h)
 have i4:((t:Int) == (s:Int))=false:=by simp;omega
 go_wp2_with fail
 try go_quiet (fail)
 try go_wp2_with fail
 go_ret;exact⟨false,rfl,⟨(fun h=>by cases h),(fun h=>absurd h HZ.out)⟩,by first|exact Below.refl _ _|exact (Below.refl _ _).drew⟩
structure nK (D:Dd)(f c:Nat)(tg:Nat->List Nat):Prop where
 mem:∀t,t<D.n->∀x,x∈tg t↔(x<f/\Ed D x t)\/(x=f/\f<D.n/\∃c',c'<c/\D.nx f c'=(t:Int))
 inc:∀t,t<D.n->(tg t).Pairwise (·<·)
theorem zie{l:List Nat}{f:Nat}(hp:l.Pairwise (·<·))(hle:∀x∈l,x<=f):l.getLast?=some f↔f∈l:=by
 constructor
 ·intro h;exact List.mem_of_getLast? h
 intro h;obtain⟨i,hi,e⟩:=List.getElem_of_mem h;have qG:i=l.length-1:=by
  refine Classical.byContradiction fun hne=>?_
  have h2:=(List.pairwise_iff_getElem.1 hp) i (i+1) hi (by omega) (by omega);have h3:=hle l[i+1] (getElem_mem (by omega));omega
 rw[List.getLast?_eq_getElem?];rw[<-qG,List.getElem?_eq_getElem hi,e]
theorem TU{l:List Nat}{n:Nat}(hp:l.Pairwise (·<·))(an:∀x∈l,x<n):l.length<=n:=
 p8 (hp.imp fun h=>by omega) an
theorem nK.start(D:Dd):nK D 0 0 (fun _=>[]):=⟨fun t ht x=>⟨fun h=>by simp at h,fun h=>by rcases h with h|⟨_,_,c',h,_⟩ <;> omega⟩,fun t ht=>List.Pairwise.nil⟩
theorem nK.le{D:Dd}{f c:Nat}(h:nK D f c tg){t:Nat}(ht:t<D.n):∀x∈tg t,x<=f:=fun x hx=>by
 rcases (h.mem t ht x).1 hx with h1|h1
 ·omega
 ·omega
theorem nK.has{D:Dd}{f c:Nat}(h:nK D f c tg){t:Nat}(ht:t<D.n):(tg t).getLast?=some f↔f∈tg t:=zie (h.inc t ht) (h.le ht)
theorem nK.skip{D:Dd}{f c:Nat}(h:nK D f c tg)(hx:D.nx f c<0\/∃t:Nat,D.nx f c=(t:Int)/\t<D.n/\f∈tg t):nK D f (c+1) tg:=by
 refine⟨fun t ht x=>?_,h.inc⟩;rw[h.mem t ht];constructor
 ·rintro (h1|⟨h1,h2,c',h3,h4⟩)
  ·exact inl h1
  exact inr ⟨h1,h2,c',by omega,h4⟩
 rintro (h1|⟨h1,h2,c',h3,h4⟩)
 ·exact inl h1
 by_cases e:c'=c
 ·subst e;rcases hx with hx|⟨t',e',xO,hm⟩
  ·omega
  have:t'=t:=by omega
  subst this;have:=(h.mem t' ht f).1 hm;subst h1;exact this
 exact inr ⟨h1,h2,c',by omega,h4⟩
theorem nK.put{D:Dd}{f c t:Nat}(h:nK D f c tg)(hf:f<D.n)(hx:D.nx f c=(t:Int))(ht:t<D.n)(hm:f∉tg t):nK D f (c+1) (fun j=>if j=t then tg t++[f] else tg j):=by
 refine⟨fun t' xO x=>?_,fun t' xO=>?_⟩
 ·by_cases e:t'=t
  ·subst e;show x∈(if t'=t' then tg t'++[f] else tg t')↔_;rw[if_pos rfl,mem_append,mem_singleton,h.mem t' xO];constructor
   ·rintro ((h1|⟨h1,h2,c',h3,h4⟩)|h1)
    ·exact inl h1
    ·exact inr ⟨h1,h2,c',by omega,h4⟩
    exact inr ⟨h1,hf,c,by omega,hx⟩
   rintro (h1|⟨h1,h2,c',h3,h4⟩)
   ·exact inl (inl h1)
   exact inr h1
  simp only[if_neg e];rw[h.mem t' xO];constructor
  ·rintro (h1|⟨h1,h2,c',h3,h4⟩)
   ·exact inl h1
   exact inr ⟨h1,h2,c',by omega,h4⟩
  rintro (h1|⟨h1,h2,c',h3,h4⟩)
  ·exact inl h1
  by_cases e2:c'=c
  ·subst e2;omega
  exact inr ⟨h1,h2,c',by omega,h4⟩
 by_cases e:t'=t
 ·subst e;show List.Pairwise _ (if t'=t' then tg t'++[f] else tg t');rw[if_pos rfl,List.pairwise_append];refine⟨h.inc t' xO,by simp,fun a ha b hb=>?_⟩;rw[List.mem_singleton.1 hb];have h1:=h.le xO a ha;have h2:a≠f:=fun e=>by rw[e] at ha;exact hm ha
  omega
 simp only[if_neg e];exact h.inc t' xO
theorem nK.row{D:Dd}{f c C:Nat}(h:nK D f c tg)(hf:f<D.n)(hc:D.len f=c):nK D (f+1) 0 tg:=by
 refine⟨fun t ht x=>?_,h.inc⟩;rw[h.mem t ht];constructor
 ·rintro (h1|⟨h1,h2,c',h3,h4⟩)
  ·exact inl ⟨by omega,h1.2⟩
  subst h1;exact inl ⟨by omega,hf,c',by omega,h4⟩
 rintro (⟨h1,h2⟩|⟨_,_,c',h3,_⟩)
 ·by_cases e:x=f
  ·subst e;obtain⟨_,c',h3,h4⟩:=h2;exact inr ⟨rfl,hf,c',by omega,h4⟩
  exact inl ⟨by omega,h2⟩
 omega
def X3(D:Dd)(w:World)(e:Ending)(w':World):Prop:=
 ∃(g:Nat) (A:Nat->Option Addr) (Cp:Nat->Nat) (tg:Nat->List Nat),e=.returned (.slice (some ⟨g,0,none⟩) D.n D.n)/\pQ w' (some ⟨g,0,none⟩) D.n A Cp (fun i=>(tg i).length) (fun i c=>(((tg i).getD c 0:Nat):Int))/\nK D D.n 0 tg/\Below w.heap.size w w'
theorem iA.zs{w3 wq:World}{B gT C:Nat}{vs:Nat->Value}(h:iA w3 B gT C vs tg wq):pQ wq (some ⟨gT,0,none⟩) C (fun i=>uf (vs i)) (fun i=>ye (vs i)) (fun i=>(tg i).length) (fun i c=>(((tg i).getD c 0:Nat):Int)):=by
 intro h0;have an:gT<wq.heap.size:=by
  have:=(h.iF.cell 0 h0).1;by_cases hb:gT<wq.heap.size
  ·exact hb
  simp[World.cell?,Array.getElem?_eq_none (by omega:wq.heap.size<=gT)] at this
 refine⟨gT,0,rfl,an,fun i hi=>?_⟩;obtain⟨ai,ci,e⟩:=bJ (h.iF.2.1 i hi);have hr:=h.iF.2.1 i hi;refine⟨?_,?_⟩
 ·rw[Nat.zero_add,(h.iF.cell i hi).1];simp[e,uf,ye]
 show kE wq (uf (vs i)) _ _;rw[e] at hr⊢;exact si hr rfl
theorem zif(D:Dd)(C:Nat)(w:World)(hD:DM w D)(hR:DR D C):
  Calls prog 123 #[.agg D.cD] w (X3 D w):=by
 have fu:=Yk D.n (by have:=hR.n2;omega);have cQ:=hR.n2;have cZ:=hR.n1;have uN:=(hR.jn hD.kl).2;have HB:=hid (Zz (cm.new hD) (Zz (al w (.cells D.cD 39)) hR));obtain⟨iI,hI,pW,p9,qa⟩:=info_parts az;clear hD hR;go_enter func123,ntmps123;go_upto_region 1 with fail;generalize w.alloc (.cells D.cD 39)=W0 at HB⊢;obtain⟨b0,aD⟩:∃b0,w.heap.size=b0:=⟨_,rfl⟩
 rw[aD] at HB;rw[aD];have cP:=hid aD;clear aD;have f1:=HB.out.1.f1;have rm:iA (W0.alloc (.cells (madeCells #[.slice none 0 0] D.n) 30)) W0.heap.size W0.heap.size D.n (fun _=>.slice none 0 0) (fun _=>[]) (W0.alloc (.cells (madeCells #[.slice none 0 0] D.n) 30)):=iA.made W0 W0.heap.size D.n _ (le_refl _) (Below.refl _ _);have jR:=hid rm;have pN:=hid (al W0 (.cells (madeCells #[.slice none 0 0] D.n) 30));clear rm;go_upto_region 2 with fail;obtain⟨gT,Bj⟩:∃gT,W0.heap.size=gT:=⟨_,rfl⟩
 have PH:=hid Bj;rw[Bj] at jR;rw[Bj];generalize W0.alloc (.cells (madeCells #[.slice none 0 0] D.n) 30)=W1 at jR pN⊢;clear Bj f1;have GS:=hid (HB.out.1.ab pN.out);have f1:=GS.out.f1;obtain⟨gN,oN,eN,lH,pv⟩:=GS.out.dm.rN (by omega);rw[eN] at f1;have z8:=hid eN;have rB:=hid pv;clear eN pv;go_wp2_with fail;clear f1;go_loopw [4,5,7,15,22] (fun _ _ _ v _ wr=>∃(f:Nat) (vs:Nat->Value) (tg:Nat->List Nat),v=.int .i64 f/\f<=D.n/\Hid (iA W1 gT gT D.n vs tg wr/\nK D f 0 tg)) (fun _ _ _ v _ _=>D.n-(intOf v).toNat)
 ·exact⟨0,_,_,rfl,by omega,⟨jR.out,nK.start D⟩⟩
 clear jR;obtain⟨f,vs,tg,rfl,hf,HX⟩:=hrel;by_cases an:f<D.n
 ·have fp:gN<gT:=by
   obtain⟨g,o,e,hg,_⟩:=HB.out.1.dm.rN (by omega);rw[z8.out] at e;injection e with e;injection e with e _;rw[PH.out] at hg;omega
  have cN:=(HX.out.1.below.cell (p:=⟨gN,oN+f,none⟩) fp).trans (rB.out f an).1;have Ah:Hid (kE W0 (D.A f) (D.len f) (D.nx f)):=by
   obtain⟨_,_,_,_,c9⟩:=HB.out.1.dm.rN (by omega);exact (c9 f an).2
  have hlen:=HB.out.2.2.len f an;rw[hlen] at cN;rw[hlen] at Ah;have wM:=hid hlen;have i1:(f:Int)<(D.n:Int):=by omega
  try dsimp only at cN
  clear hlen fp;go_wp2_with fail;clear cN;go_loopw [7,22] (fun _ v wr=>∃(c:Nat) (vs:Nat->Value) (tg:Nat->List Nat),v=.int .i64 c/\c<=C/\Hid (iA W1 gT gT D.n vs tg wr/\nK D f c tg)) (fun _ v _=>C-(intOf v).toNat)
  ·exact⟨0,vs,tg,rfl,by omega,HX⟩
  clear HX;obtain⟨c,vs,tg,rfl,hc,HX⟩:=hrel;have Mu:Hid (Below W0.heap.size W0 wr):=by
   have h:=HX.out.1.below;rw[<-PH.out] at h;exact pN.out.trans h
  by_cases rT:c<C
  ·obtain⟨gA,oA,eA,_,mz⟩:=(Ah.out.below Mu.out) (by omega);have cA:=mz c rT;have hb:=HB.out.2.2.nx f c an rT;have vf:=hid (fun h=>HX.out.2.skip h);have Vs:=hid (fun (t:Nat) h1 h2 h3=>HX.out.2.put (t:=t) an h1 h2 h3);have i2:(c:Int)<C:=(by omega);rw[eA];have Hj:=hid eA;clear mz eA;generalize D.nx f c=t at cA hb vf Vs;by_cases ht:t=-1
   ·subst ht;have HZ:=hid (vf.out (inl (by omega)));go_wp2;go_roundw
    ·exact⟨c+1,vs,tg,by go_num,by omega,⟨HX.out.1,HZ.out⟩⟩
    simp[intOf];omega
   obtain⟨u,rfl⟩:∃u:Nat,t=(u:Int):=(⟨t.toNat,by omega⟩);have hu:u<D.n:=(by omega);have i3:(u:Int)<(D.n:Int):=(by omega);have Hc:((u:Int) != (-1:Int))=true:=(by first|(simp;done)|(simp;omega));obtain⟨y0,y1⟩:=HX.out.1.iF.cell u hu;have Qh:=HX.out.1.iF.2.1 u hu;obtain⟨au,cu,Lj⟩:=bJ Qh;have tH:(tg u).length<=D.n:=TU (HX.out.2.inc u hu) (fun x hx=>by have:=HX.out.2.le hu x hx;omega);rw[Lj] at y0;have BT:=Qh;rw[Lj] at BT;have EC:=hid (zha (tg u) f (tg u).length cu au rfl (by omega) wr (si BT rfl));have JL:=hid Lj;clear Qh BT Lj ht;obtain⟨q,hq⟩:∃q,(tg u).length=q:=(⟨_,rfl⟩);have Hq:=hid hq;dsimp only at y0;rw[hq] at y0 EC tH;clear hq;go_wp2_with fail;refine EC.out.mono ?_;rintro e w5 ⟨b,rfl,rS,k5⟩;have EB:=hid (HX.out.1.ab k5);have YG:Hid (b=true↔f∈tg u):=by
    show _↔_;rw[rS,HX.out.2.has hu]
   clear rS k5 EC y0 y1;rcases b with _|_
   ·have HN:Hid (f∉tg u):=(fun h=>by have:=YG.out.2 h;cases this);have HZ:=hid (Vs.out u rfl hu HN.out);obtain⟨y0,y1⟩:=EB.out.iF.cell u hu;rw[JL.out] at y0;have hO:=EB.out.iF.2.1 u hu;dsimp only at hO y0;rw[JL.out,Hq.out] at hO;rw[Hq.out] at y0;go_wp2_with (at_builtin;refine wpList_append_own_at _ rfl _ _ 30 rfl W1.heap.size 3 iI (.int .i64 0) 1 8 underlying30 hI pW p9 qa rfl (by decide) _ _ _ rfl (hO.alloc _) ⟨w5.heap.size,0,none⟩ 1 1 [.int .i64 (f:Int)] rfl rfl (cell_one_new _ _ _) ?d2 ?d3 ?d4 ?d5 ?_)
    case d2=>first|(intro u hu;simp at hu;subst hu;rfl)|rfl
    case d3=>unfold maxLen;omega
    case d4=>omega
    case d5=>have:=EB.out.below.size;simp;omega
    intro v6 w6 aj af _ db;have kk:=al w5 (.cells #[.int .i64 (f:Int)] 3);have pA:=hid ((EB.out.ab kk).app hu Hq.out (v':=v6) (t:=f) (by exact aj) (by rw[JL.out,Hq.out];exact af) (fun b e=>by
     rcases db with h|h
     ·rw[h] at e
      refine inl ?_
      rw[JL.out,Hq.out]
      exact e
     ·rw[h] at e
      refine inr ?_
      simp at e
      simp
      omega))
    obtain⟨a6,c6,rfl⟩:=bJ aj;have gu:=af;obtain⟨z0,z1⟩:w6.cell? ⟨gT,u,none⟩=some (vs u)/\w6.frozen? ⟨gT,u,none⟩=false:=by
     have nQ:=(EB.out.ab kk).iF;have hs:=nQ.1.ae (nQ.2.1 u hu) (by decide) (by rw[JL.out,Hq.out];exact gu);exact⟨by rw[hs.at_];simp[hu],hs.aZ u⟩
    clear aj af db hO kk gu y0 y1;go_wp2;go_roundw
    ·exact⟨c+1,_,_,by go_num,by omega,⟨pA.out,HZ.out⟩⟩
    simp[intOf];omega
   have HZ:=hid (vf.out (inr ⟨u,rfl,hu,YG.out.1 rfl⟩));go_wp2;go_roundw
   ·exact⟨c+1,vs,tg,by go_num,by omega,⟨EB.out,HZ.out⟩⟩
   simp[intOf];omega
  obtain rfl:c=C:=by omega
  have HZ:=hid (HX.out.2.row (C:=c) an wM.out);go_wp2;go_roundw
  ·exact⟨f+1,vs,tg,by go_num,by omega,⟨HX.out.1,HZ.out⟩⟩
  simp[intOf];omega
 obtain rfl:f=D.n:=by omega
 have HF:Hid (X3 D w (.returned (.slice (some ⟨gT,0,none⟩) D.n D.n)) wr):=by
  refine⟨gT,_,_,tg,rfl,HX.out.1.zs,HX.out.2,?_⟩;have h:=HX.out.1.below;rw[<-PH.out] at h;have h0:=HB.out.2.1;rw[<-cP.out] at h0;exact h0.trans ((pN.out.trans h).mono h0.size)
 go_wp2;go_ret;exact HF.out
theorem zqX{D:Dd}{C s:Nat}(hR:DR D C)(hs:s<D.n)(x:Nat):jv (WE (ar D.len D.nx)) (fun y=>y∈[s]) x↔jv (Ed D) (fun y=>y=s) x:=by
 have mem:∀x y,WE (ar D.len D.nx) x y↔∃c,c<D.len x/\D.nx x c=(y:Int):=fun x y=>by
  unfold WE ar;simp
 constructor
 ·intro h;have:jv (Ed D) (fun y=>y=s) x/\x<D.n:=by
   induction h with
   | base h=>
    have e:=List.mem_singleton.1 h;subst e;exact⟨.base rfl,hs⟩
   | step _ e ih=>
    have h2:Ed D _ _:=(⟨ih.2,(mem _ _).1 e⟩);exact⟨.step ih.1 h2,hR.ed _ _ h2⟩
  exact this.1
 intro h
 induction h with
 | base h=>subst h;exact .base (by simp)
 | step _ e ih=>exact .step ih ((mem _ _).2 e.2)
theorem zig(D:Dd)(C:Nat)(s:Int)(w:World)(hD:DM w D)(hR:DR D C):
  Calls prog 71 #[.agg D.cD,.int .i64 s] w (BS D.n (zG D s) w):=by
 have fu:=Uu D.n (by have:=hR.n2;omega);have cQ:=hR.n2;have cZ:=hR.n1;have uN:=(hR.jn hD.kl).2;have HB:=hid (Zz (cm.new hD) (Zz (al w (.cells D.cD 39)) hR));clear hD hR;go_enter func71,ntmps71;go_upto_region 1 with fail;generalize w.alloc (.cells D.cD 39)=W0 at HB⊢;obtain⟨b0,aD⟩:∃b0,w.heap.size=b0:=⟨_,rfl⟩
 rw[aD] at HB;rw[aD];have cP:=hid aD;have qH:b0<=W0.heap.size:=by have:=HB.out.2.1.size;omega
 clear aD;have qK:=hid (D4 D C HB.out.2.2 W0 HB.out.1.dm);go_wp2_with (refine kc (by rfl) 39 _ rfl ⟨b0,0,none⟩ rfl D.cD _ HB.out.1.st.part underlying39 rfl HB.out.1.dm.info ?_);refine qK.out.mono ?_;rintro e w1 ⟨rfl,b1⟩;have H1:=hid (Zz (HB.out.1.ab b1) (HB.out.2.1.trans (b1.mono qH)));have fp:b0<=w1.heap.size:=by have:=b1.size;omega
 have mB:=hid (I7 D s w1 H1.out.1.dm);clear b1 qK;go_wp2_with (refine kc (by rfl) 39 _ rfl ⟨b0,0,none⟩ rfl D.cD _ H1.out.1.st.part underlying39 rfl H1.out.1.dm.info ?_);refine mB.out.mono ?_;rintro e w2 ⟨rfl,b2⟩;have H2:=hid (Zz (H1.out.1.ab b2) (H1.out.2.trans (b2.mono fp)));have cr:b0<=w2.heap.size:=by have:=b2.size;omega
 have tT:Hid (∀W',Below w2.heap.size w2 W'->Below w.heap.size w W'):=fun W' h=>by
  rw[cP.out];exact H2.out.2.trans (h.mono cr)
 have Ik:Hid (w.heap.size<=w2.heap.size):=by show _<=_;rw[cP.out];exact cr
 have f1:=H2.out.1.f1;clear b2 mB;by_cases hs:0<=s/\s<(D.n:Int)
 rotate_left
 ·have HZ:Hid (decide (0<=s/\s<(D.n:Int))=false):=by show _=_;simp;omega
  have HO:=hid (OB.made w2 D.n (by unfold maxLen;omega));rw[HZ.out];have HF:Hid (BS D.n (zG D s) w (.returned (.slice (some ⟨w2.heap.size,0,none⟩) D.n D.n)) (w2.alloc (.cells (madeCells #[.bool false] D.n) 4))):=
   ⟨fun _=>false,_,_,rfl,gE HO.out.own Ik.out,fun x hx=>⟨(fun h=>by cases h),(fun h=>absurd ⟨h.1,h.2.1⟩ hs)⟩,tT.out _ HO.out.bb⟩
  clear HO;go_wp2;go_ret;exact HF.out
 obtain⟨t,rfl⟩:∃t:Nat,s=(t:Int):=⟨s.toNat,by omega⟩
 have ht:t<D.n:=by omega
 have HZ:Hid (decide (0<=(t:Int)/\(t:Int)<(D.n:Int))=true):=by show _=_;simp;omega
 rw[HZ.out];clear hs;have dG:Hid (∀W',Below w2.heap.size w2 W'->Below w2.heap.size w2 W'/\cm W' b0 D/\W'.cell? ⟨b0,256,none⟩=some (.slice D.aN D.n D.cN)):=fun W' h=>⟨h,H2.out.1.ab h,(H2.out.1.ab h).f1⟩
 clear f1;go_upto_region 5 with fail;refine wp_region_held_drew (S:=fun W'=>Below w2.heap.size w2 W'/\cm W' b0 D/\W'.cell? ⟨b0,256,none⟩=some (.slice D.aN D.n D.cN)) (by kernel_rfl) (dG.out _ (Below.refl _ _).drew) (fun hHeld=>?_)
 (refine av 0 ?_;refine av 1 ?_;refine av 2 ?_;try simp only[put,sA,sB,sC];refine av 3 ?_;refine av 4 ?_;refine av 5 ?_;try simp only[put,sA,sB,sC])
 refine bq 6 (fun K hK=>?_);skip;go_simp;have kk:=al w2.drew (.cells #[.int .i64 (t:Int)] 3);have bY:Below w2.heap.size w2 ((w2.alloc (.cells #[.int .i64 (t:Int)] 3)).drew):=hHeld.1.trans (kk.mono hHeld.1.size);have Ym:Hid (nr (w2.alloc (.cells #[.int .i64 (t:Int)] 3)).drew (some ⟨w2.heap.size,0,none⟩) [t]):=si (vx w2.drew w2.drew.heap.size 3 1 #[.int .i64 (t:Int)] 1 rfl (le_refl _) (by decide)) rfl;clear kk;refine hK.out _ _ (dG.out _ bY) (fun hHeld=>?_);generalize (w2.alloc (.cells #[.int .i64 (t:Int)] 3)).drew=W6 at Ym hHeld⊢;clear hK K bY
 try simp only[put,sA,sB,sC]
 refine bq 7 (fun K hK=>?_);skip;go_simp;go_at_call 85;refine (Pq D.n D.cN D.aN D.A D.Cp D.len D.nx [t] (some ⟨w2.heap.size,0,none⟩) 1 1 (by omega) (fun i hi=>by rw[HB.out.2.2.len i hi];omega) (fun i c hi hc=>HB.out.2.2.nx i c hi (by rw[<-HB.out.2.2.len i hi];exact hc)) rfl (by simp) (fun x hx=>by rw[List.mem_singleton.1 hx];exact ht) W6 hHeld.2.1.dm.rN Ym.out (fun h=>by cases h) (fun ad h=>by injection h with h;rw[<-h])).mono ?_;rintro e w7 ⟨l,i,ad,c,rfl,Ic,xX,jo,nb,fY,b7⟩;have bY:Below w2.heap.size w2 w7:=hHeld.1.trans (b7.mono hHeld.1.size);have zK:=hid (Zz Ic bY);clear Ic b7
 try go_wp2_with fail
 refine hK.out _ _ (dG.out _ bY) (fun hHeld=>?_);clear hK K bY
 try simp only[put,sA,sB,sC]
 refine bq 8 (fun K hK=>?_);skip;go_simp;go_at_call 106;refine (Sw D.n l ad i c jo (by omega) (by omega) fY _ (si zK.out.1 jo)).mono ?_;rintro e w8 ⟨f8,a8,c8,rfl,IB,Ji,b8⟩;have bY:Below w2.heap.size w2 w8:=zK.out.2.trans (b8.mono zK.out.2.size);have C5:=zK.out.2.size;have HF:Hid (BS D.n (zG D (t:Int)) w (.returned (.slice a8 D.n c8)) w8):=⟨f8,a8,c8,rfl,gE IB (le_trans Ik.out C5),fun x hx=>by
  rw[Ji x hx]
  show x∈l↔_
  rw[xX,RE _ _ (by rw[<-xX];exact jo),zqX HB.out.2.2 ht]
  exact⟨fun h=>⟨by omega,by omega,by simpa using h⟩,fun h=>by simpa using h.2.2⟩,tT.out _ bY⟩
 clear IB Ji b8
 try go_wp2_with fail
 refine hK.out _ _ (dG.out _ bY) (fun hHeld=>?_);clear hK K bY
 try simp only[put,sA,sB,sC]
 (refine av 9 ?_;try simp only[put,sA,sB,sC])
 refine wpAnyH_done (by kernel_rfl) ?_ _;clear hHeld;go_wp2;go_ret;exact HF.out
theorem zoi{w:World}{B q c:Nat}{a:Option Addr}(h:w.ownsRow B 3 1 (.slice a q c) q xs)(ha:a=none):q=0/\c=0:=by
 subst ha;rcases h.2 with ⟨h1,h2⟩|⟨g,cap,cur,hv,_⟩
 ·injection h1 with _ h3 h4;exact⟨h3,h4⟩
 injection hv with h1 _ _;cases h1
theorem zoj{w:World}{B q c:Nat}{a:Option Addr}{ad:Addr}(h:w.ownsRow B 3 1 (.slice a q c) q xs)(ha:a=some ad):ad.spot=none:=by
 subst ha;rcases h.2 with ⟨h1,h2⟩|⟨g,cap,cur,hv,_⟩
 ·injection h1 with h3 _ _;cases h3
 injection hv with h1 _ _;injection h1 with h1;rw[h1]
theorem zp4{D:Dd}(h:nK D D.n 0 tg)(i:Nat)(hi:i<D.n):(tg i).length<=D.n:=TU (h.inc i hi) (fun x hx=>by
 rcases (h.mem i hi x).1 hx with h1|⟨_,_,c',h3,_⟩
 ·exact h1.1
 ·omega)
theorem zqP{D:Dd}(h:nK D D.n 0 tg)(i c:Nat)(hi:i<D.n)(hc:c<(tg i).length):-1<=(((tg i).getD c 0:Nat):Int)/\(((tg i).getD c 0:Nat):Int)<(D.n:Int):=by
 have e:(tg i).getD c 0=(tg i)[c]:=by simp[getD_eq_getElem?_getD,hc]
 rw[e];rcases (h.mem i hi _).1 (getElem_mem hc) with h1|⟨_,_,c',h3,_⟩
 ·have:=h1.1;omega
 omega
theorem zp5{D:Dd}{C:Nat}{l:List Nat}(hR:DR D C)(h:nK D D.n 0 tg)(hl:∀x,x∈l↔x<D.n/\0<=D.q x)(x:Nat)(hx:x<D.n):jv (WE (ar (fun i=>(tg i).length) (fun i c=>(((tg i).getD c 0:Nat):Int)))) (fun y=>y∈l) x↔vw D x:=by
 have mem:∀x y,WE (ar (fun i=>(tg i).length) (fun i c=>(((tg i).getD c 0:Nat):Int))) x y↔y∈tg x:=fun x y=>by
  unfold WE ar;constructor
  ·intro h;obtain⟨c,hc,e⟩:=List.mem_map.1 h;have fH:c<(tg x).length:=(by simpa using hc);have e2:(tg x).getD c 0=(tg x)[c]:=(by simp[getD_eq_getElem?_getD,fH]);have e1:(((tg x).getD c 0:Nat):Int)=(y:Int):=e;have e3:(tg x)[c]=y:=(by rw[<-e2];omega);rw[<-e3];exact getElem_mem fH
  intro h;obtain⟨c,hc,e⟩:=List.getElem_of_mem h;refine List.mem_map.2 ⟨c,by simpa using hc,?_⟩;simp[getD_eq_getElem?_getD,hc,e]
 have ed:∀x,x<D.n->∀y,y∈tg x↔Ed D y x:=fun x hx y=>by
  rw[h.mem x hx];constructor
  ·rintro (h1|⟨_,_,c',h3,_⟩)
   ·exact h1.2
   omega
  exact fun h1=>inl ⟨h1.1,h1⟩
 have e1:jv (WE (ar (fun i=>(tg i).length) (fun i c=>(((tg i).getD c 0:Nat):Int)))) (fun y=>y∈l) x↔jv (fun a b=>Ed D b a) (fun y=>y<D.n/\0<=D.q y) x:=by
  constructor
  ·intro h;have:jv (fun a b=>Ed D b a) (fun y=>y<D.n/\0<=D.q y) x/\x<D.n:=by
    clear hx
    induction h with
    | base h=>exact⟨.base ((hl _).1 h),((hl _).1 h).1⟩
    | step _ e ih=>
     have h2:=(ed _ ih.2 _).1 ((mem _ _).1 e);exact⟨.step ih.1 h2,h2.1⟩
   exact this.1
  intro h;have:jv (WE (ar (fun i=>(tg i).length) (fun i c=>(((tg i).getD c 0:Nat):Int)))) (fun y=>y∈l) x/\x<D.n:=by
   clear hx
   induction h with
   | base h=>exact⟨.base ((hl _).2 h),h.1⟩
   | step _ e ih=>exact⟨.step ih.1 ((mem _ _).2 ((ed _ ih.2 _).2 e)),e.1⟩
  exact this.1
 rw[e1,zod];constructor
 ·rintro⟨k,h1,h2⟩;exact⟨k,h1,h2.2⟩
 rintro⟨k,h1,h2⟩;exact⟨k,h1,jv.lt (fun y hy=>by rw[hy];exact hx) hR.ed h1,h2⟩
theorem zmx(D:Dd)(C:Nat)(w:World)(hD:DM w D)(hR:DR D C):
  Calls prog 88 #[.agg D.cD] w (BS D.n (vw D) w):=by
 have cQ:=hR.n2;have cZ:=hR.n1;have jF:=hR.m;have uN:=(hR.jn hD.kl).2;have HB:=hid (Zz (cm.new hD) (Zz (al w (.cells D.cD 39)) hR));obtain⟨iI,hI,pW,p9,qa⟩:=info_parts az;clear hD hR;go_enter func88,ntmps88;go_upto_region 1 with fail;generalize w.alloc (.cells D.cD 39)=W0 at HB⊢;obtain⟨b0,aD⟩:∃b0,w.heap.size=b0:=⟨_,rfl⟩
 rw[aD] at HB;rw[aD];have cP:=hid aD;have qH:b0<=W0.heap.size:=by have:=HB.out.2.1.size;omega
 clear aD;have qK:=hid (D4 D C HB.out.2.2 W0 HB.out.1.dm);go_wp2_with (refine kc (by rfl) 39 _ rfl ⟨b0,0,none⟩ rfl D.cD _ HB.out.1.st.part underlying39 rfl HB.out.1.dm.info ?_);refine qK.out.mono ?_;rintro e w2 ⟨rfl,b1⟩;have H2:=hid (Zz (HB.out.1.ab b1) (HB.out.2.1.trans (b1.mono qH)));have cr:b0<=w2.heap.size:=by have:=b1.size;omega
 clear b1 qK;have tT:Hid (∀W',Below w2.heap.size w2 W'->Below w.heap.size w W'):=fun W' h=>by
  rw[cP.out];exact H2.out.2.trans (h.mono cr)
 have Ik:Hid (w.heap.size<=w2.heap.size):=by show _<=_;rw[cP.out];exact cr
 have f2:=H2.out.1.f2;obtain⟨gM,oM,eM,rF,mo⟩:=H2.out.1.dm.rM (by omega);rw[eM,jF] at f2;have M4:=hid mo;have Qe:=hid eM;have Kz:=hid jF;clear eM mo jF;go_wp2_with fail;clear f2;go_loopw [3,4,5,12] (fun v3 _ _ v wr=>∃(k p:Nat) (l:List Nat) (a:Option Addr) (c:Nat),v=.int .i64 k/\k<=D.n/\p<=k/\v3=.slice a p c/\Hid (l.length=p/\l.Nodup/\(∀x,x∈l↔x<k/\0<=D.q x)/\wr.ownsRow w2.heap.size 3 1 (.slice a p c) p (cO l)/\Below w2.heap.size w2 wr)) (fun _ _ _ v _=>D.n-(intOf v).toNat)
 ·exact⟨0,0,[],none,0,rfl,by omega,by omega,rfl,⟨rfl,by simp,fun x=>by simp,World.ownsRow_nil _ _ _ _,Below.refl _ _⟩⟩
 obtain⟨k,p,l,a,c,rfl,hk,hp,rfl,HX⟩:=hrel;by_cases an:k<D.n
 ·have cM:=(HX.out.2.2.2.2.cell (p:=⟨gM,oM+k,none⟩) rF).trans (M4.out k (by rw[Kz.out];exact an));have hq:=HB.out.2.2.q k an;have i1:(k:Int)<(D.n:Int):=by omega
  have HS:Hid (∀l',(l'=l/\D.q k<0)\/(l'=l++[k]/\0<=D.q k)->l'.Nodup/\∀x,x∈l'↔x<k+1/\0<=D.q x):=fun l' h=>by
   rcases h with ⟨rfl,h⟩|⟨rfl,h⟩
   ·refine⟨HX.out.2.1,fun x=>?_⟩;rw[HX.out.2.2.1];constructor
    ·rintro⟨h1,h2⟩;exact⟨by omega,h2⟩
    rintro⟨h1,h2⟩;by_cases e:x=k
    ·subst e;omega
    exact⟨by omega,h2⟩
   refine⟨?_,fun x=>?_⟩
   ·rw[List.nodup_append];exact⟨HX.out.2.1,by simp,fun a ha b hb e=>by
     rw[List.mem_singleton.1 hb] at e
     rw[e] at ha
     have:=((HX.out.2.2.1 k).1 ha).1
     omega⟩
   rw[mem_append,mem_singleton,HX.out.2.2.1];constructor
   ·rintro (⟨h1,h2⟩|h1)
    ·exact⟨by omega,h2⟩
    subst h1;exact⟨by omega,h⟩
   rintro⟨h1,h2⟩;by_cases e:x=k
   ·exact inr e
   exact inl ⟨by omega,h2⟩
  try dsimp only at cM
  generalize D.q k=y at cM hq HS;by_cases hy:y=-1
  ·subst hy;have HZ:=hid (HS.out l (inl ⟨rfl,by omega⟩));go_wp2;go_roundw
   ·exact⟨k+1,p,l,a,c,by go_num,by omega,by omega,rfl,⟨HX.out.1,HZ.out.1,HZ.out.2,HX.out.2.2.2.1,HX.out.2.2.2.2⟩⟩
   simp[intOf];omega
  have HZ:=hid (HS.out (l++[k]) (inr ⟨rfl,by omega⟩));have mG:(y != (-1:Int))=true:=by simp[hy]
  have hO:=HX.out.2.2.2.1;go_wp2_with (at_builtin;refine wpList_append_own_at _ rfl _ _ 30 rfl w2.heap.size 3 iI (.int .i64 0) 1 8 underlying30 hI pW p9 qa rfl (by decide) _ _ _ rfl (hO.alloc _) ⟨wr.heap.size,0,none⟩ 1 1 [.int .i64 (k:Int)] rfl rfl (cell_one_new _ _ _) ?d2 ?d3 ?d4 ?d5 ?_)
  case d2=>first|(intro u hu;simp at hu;subst hu;rfl)|rfl
  case d3=>unfold maxLen;omega
  case d4=>omega
  case d5=>have:=HX.out.2.2.2.2.size;simp;omega
  intro v5 w5 ah ag _ bG;obtain⟨a5,c5,rfl⟩:=bJ ah;have td:=HX.out.2.2.2.2.size;have kk:=al wr (.cells #[.int .i64 (k:Int)] 3);have HY:Hid (w5.ownsRow w2.heap.size 3 1 (.slice a5 (p+1) c5) (p+1) (cO (l++[k]))/\Below w2.heap.size w2 w5):=⟨by rw[wC];exact ah,fC (HX.out.2.2.2.2.trans (kk.mono td)) (hO.alloc _) (le_trans td kk.size) ag⟩
  clear ah ag bG hO kk;go_wp2;go_roundw
  ·exact⟨k+1,p+1,l++[k],a5,c5,by go_num,by omega,by omega,rfl,⟨by rw[length_append,HX.out.1];rfl,HZ.out.1,HZ.out.2,HY.out.1,HY.out.2⟩⟩
  simp[intOf];omega
 obtain rfl:k=D.n:=by omega
 have Mu:=hid (H2.out.1.ab HX.out.2.2.2.2);have nL:=hid (fun (W':World) (h:Below wr.heap.size wr W')=>tT.out W' (HX.out.2.2.2.2.trans (h.mono HX.out.2.2.2.2.size)));have Og:Hid (w.heap.size<=wr.heap.size):=le_trans Ik.out HX.out.2.2.2.2.size;have dG:Hid (∀W',Below wr.heap.size wr W'->Below wr.heap.size wr W'/\cm W' b0 D/\W'.cell? ⟨b0,256,none⟩=some (.slice D.aN D.n D.cN)):=fun W' h=>⟨h,Mu.out.ab h,(Mu.out.ab h).f1⟩
 go_upto_region 10 with fail;refine wp_region_held_drew (S:=fun W'=>Below wr.heap.size wr W'/\cm W' b0 D/\W'.cell? ⟨b0,256,none⟩=some (.slice D.aN D.n D.cN)) (by kernel_rfl) (dG.out _ (Below.refl _ _).drew) (fun hHeld=>?_)
 (refine av 0 ?_;refine av 1 ?_;refine av 2 ?_)
 (refine av 3 (v:=.agg D.cD) ?_ (hy:=by intro wz hSw;exact uI (o:=_) (ρ:=_) wz 39 (.tmp 1) rfl ⟨b0,0,none⟩ rfl D.cD _ (cm.st (And.left (And.right hSw))).part underlying39 rfl (cm.dm (And.left (And.right hSw))).info))
 (refine av 5 ?_;try simp only[put,sA,sB,sC])
 refine bq 4 (fun K hK=>?_);skip;go_simp;go_at_call 123;refine (zif D C _ hHeld.2.1.dm HB.out.2.2).mono ?_;rintro e w5 ⟨gS,AS,CS,tg,rfl,hS5,SV,b5⟩;have ec:Below wr.heap.size wr w5:=hHeld.1.trans (b5.mono hHeld.1.size);clear b5
 try go_wp2_with fail
 refine hK.out _ _ (dG.out _ ec) (fun hHeld=>?_);clear hK K
 try simp only[put,sA,sB,sC]
 refine bq 6 (fun K hK=>?_);skip;go_simp;go_at_call 85;refine (Pq D.n D.n (some ⟨gS,0,none⟩) AS CS (fun i=>(tg i).length) (fun i c=>(((tg i).getD c 0:Nat):Int)) l a p c (by omega) (fun i hi=>by have:=zp4 SV i hi;omega) (fun i c hi hc=>zqP SV i c hi hc) HX.out.1 HX.out.2.1 (fun x hx=>((HX.out.2.2.1 x).1 hx).1) w5 hS5 (nr.below (si HX.out.2.2.2.1 HX.out.1) ec) (fun h=>zoi HX.out.2.2.2.1 h) (fun ad h=>zoj HX.out.2.2.2.1 h)).mono ?_;rintro e w7 ⟨l9,i,ad,c9,rfl,Ic,xX,jo,nb,fY,b7⟩;have bY:Below wr.heap.size wr w7:=ec.trans (b7.mono ec.size);have zK:=hid (Zz Ic bY);clear Ic b7
 try go_wp2_with fail
 refine hK.out _ _ (dG.out _ bY) (fun hHeld=>?_);clear hK K bY
 try simp only[put,sA,sB,sC]
 refine bq 7 (fun K hK=>?_);skip;go_simp;go_at_call 106;refine (Sw D.n l9 ad i c9 jo (by omega) (by omega) fY _ (si zK.out.1 jo)).mono ?_;rintro e w8 ⟨f8,a8,c8,rfl,IB,Ji,b8⟩;have bY:Below wr.heap.size wr w8:=zK.out.2.trans (b8.mono zK.out.2.size);have C5:=zK.out.2.size;have HF:Hid (BS D.n (vw D) w (.returned (.slice a8 D.n c8)) w8):=⟨f8,a8,c8,rfl,gE IB (le_trans Og.out C5),fun x hx=>by
  rw[Ji x hx]
  show x∈l9↔_
  rw[xX,RE _ _ (by rw[<-xX];exact jo)]
  exact zp5 HB.out.2.2 SV (fun y=>HX.out.2.2.1 y) x hx,nL.out _ bY⟩
 clear IB Ji b8
 try go_wp2_with fail
 refine hK.out _ _ (dG.out _ bY) (fun hHeld=>?_);clear hK K bY
 try simp only[put,sA,sB,sC]
 (refine av 8 ?_;try simp only[put,sA,sB,sC])
 refine wpAnyH_done (by kernel_rfl) ?_ _;clear hHeld;go_wp2;go_ret;exact HF.out
def dE(K:Nat->Nat)(vN vK:Value):Array Value:=(((range 256).map fun j=>Value.int .u8 ((K j:Nat):Int))++[vN,vK]).toArray
theorem mA(K:Nat->Nat)(vN vK:Value):(dE K vN vK).size=258:=by simp[dE]
theorem zQ(K:Nat->Nat)(vN vK:Value)(j:Nat)(hj:j<256):(dE K vN vK)[j]?=some (.int .u8 ((K j:Nat):Int)):=by
 simp[dE,getElem?_append,hj]
theorem p7(K:Nat->Nat)(vN vK:Value):(dE K vN vK)[256]?=some vN:=by simp[dE,getElem?_append]
theorem yh(K:Nat->Nat)(vN vK:Value):(dE K vN vK)[257]?=some vK:=by simp[dE,getElem?_append]
theorem xr(K:Nat->Nat)(a b:Option Addr)(n c m d:Nat):∀v∈(dE K (.slice a n c) (.slice b m d)).toList,v.oneCell'=true:=by
 intro v hv;simp[dE] at hv;rcases hv with ⟨j,_,rfl⟩|rfl|rfl <;> rfl
theorem BC(K:Nat->Nat)(vN vK:Value)(cs:Array Value)(hs:cs.size=258)(h1:∀j,j<256->cs[j]?=some (.int .u8 ((K j:Nat):Int)))(h2:cs[256]?=some vN)(h3:cs[257]?=some vK):cs=dE K vN vK:=by
 apply Array.ext_getElem?;intro i;by_cases a:i<256
 ·rw[h1 i a,zQ K vN vK i a]
 by_cases b:i=256
 ·subst b;rw[h2,p7]
 by_cases c:i=257
 ·subst c;rw[h3,yh]
 rw[Array.getElem?_eq_none (by omega),Array.getElem?_eq_none (by rw[mA];omega)]
theorem YJ(K:Nat->Nat)(vN vK v:Value):(dE K vN vK).setIfInBounds 256 v=dE K v vK:=by
 refine BC K v vK _ (by rw[Array.size_setIfInBounds,mA]) (fun j hj=>?_) ?_ ?_
 ·rw[Array.getElem?_setIfInBounds_ne (by omega),zQ K vN vK j hj]
 ·rw[Array.getElem?_setIfInBounds_self_of_lt (by rw[mA];omega)]
 rw[Array.getElem?_setIfInBounds_ne (by omega),yh]
theorem zok(K:Nat->Nat)(vN vK v:Value):(dE K vN vK).setIfInBounds 257 v=dE K vN v:=by
 refine BC K vN v _ (by rw[Array.size_setIfInBounds,mA]) (fun j hj=>?_) ?_ ?_
 ·rw[Array.getElem?_setIfInBounds_ne (by omega),zQ K vN vK j hj]
 ·rw[Array.getElem?_setIfInBounds_ne (by omega),p7]
 rw[Array.getElem?_setIfInBounds_self_of_lt (by rw[mA];omega)]
theorem ZM(K:Nat->Nat)(W:World):(build 39 #[(0,.agg (aP K))]).run prog W=.ok (.agg (dE K (.slice none 0 0) (.slice none 0 0))) W:=by
 have e:prog.built 39 [(0,.agg (aP K))]=fill (fun i=>#[(0,256),(256,1),(257,1)][i]?) (zC 39) [(0,.agg (aP K))]:=by kernel_rfl
 have hz:=ir;have hs:=Nw K;obtain⟨p1,p2⟩:=ym (zC 39) (aP K) 0 (by rw[hz];omega);rw[yl _ _ 0 0 256 (.agg (aP K)) [] (by rfl) hs (by rw[hz];omega)] at e;obtain⟨d1,d2⟩:=E3;have e2:putAt (zC 39) (aP K) 0=dE K (.slice none 0 0) (.slice none 0 0):=BC _ _ _ _ (by rw[p1,hz]) (fun j hj=>by rw[p2,if_pos ⟨by omega,by omega⟩];exact Db K j hj) (by rw[p2,if_neg (by omega),d1]) (by rw[p2,if_neg (by omega),d2]);have e3:(Value.agg (aP K)).cells=aP K:=rfl;rw[e3,e2] at e;exact run_build W _ _ _ e
theorem zfi(K:Nat->Nat)(a:Option Addr)(n c:Nat)(W:World):(build 39 #[(0,.agg (aP K)),(2,.slice a n c)]).run prog W=.ok (.agg (dE K (.slice none 0 0) (.slice a n c))) W:=by
 have e:prog.built 39 [(0,.agg (aP K)),(2,.slice a n c)]=fill (fun i=>#[(0,256),(256,1),(257,1)][i]?) (zC 39) [(0,.agg (aP K)),(2,.slice a n c)]:=by kernel_rfl
 have hz:=ir;have hs:=Nw K;obtain⟨p1,p2⟩:=ym (zC 39) (aP K) 0 (by rw[hz];omega);rw[yl _ _ 0 0 256 (.agg (aP K)) _ (by rfl) hs (by rw[hz];omega)] at e;obtain⟨d1,d2⟩:=E3;have e2:putAt (zC 39) (aP K) 0=dE K (.slice none 0 0) (.slice none 0 0):=BC _ _ _ _ (by rw[p1,hz]) (fun j hj=>by rw[p2,if_pos ⟨by omega,by omega⟩];exact Db K j hj) (by rw[p2,if_neg (by omega),d1]) (by rw[p2,if_neg (by omega),d2]);have e3:(Value.agg (aP K)).cells=aP K:=rfl;rw[e3,e2] at e;have hd:=mA K (.slice none 0 0) (.slice none 0 0);obtain⟨q1,q2⟩:=ym (dE K (.slice none 0 0) (.slice none 0 0)) #[.slice a n c] 257 (by rw[hd];simp);rw[yl _ _ 2 257 1 (.slice a n c) [] (by rfl) (by rfl) (by rw[hd];omega)] at e;have e4:putAt (dE K (.slice none 0 0) (.slice none 0 0)) #[.slice a n c] 257=dE K (.slice none 0 0) (.slice a n c):=by
  simp only[List.size_toArray,List.length_cons,List.length_nil] at q2;refine BC _ _ _ _ (by rw[q1,hd]) (fun j hj=>by rw[q2,if_neg (by omega),zQ _ _ _ j hj]) (by rw[q2,if_neg (by omega),p7]) (by rw[q2,if_pos (by omega)];rfl)
 have e5:(Value.slice a n c).cells=#[.slice a n c]:=rfl;rw[e5,e4] at e;exact run_build W _ _ _ e
structure iK (W0:World)(b4:Nat)(K:Nat->Nat)(C:Nat)(vN:Value)(R:List (List Int))(ws:Nat->Value)(vK:Value)(ms:List Int)(w:World):Prop where
 bb:Below W0.heap.size W0 w
 st:St w 39 b4 (dE K vN vK)
 next:bF w W0.heap.size 30 3 1 vN R.length ws (fun _=>C) (fun j=>ints (R.getD j []))
 dj:w.ownsRow W0.heap.size 3 1 vK ms.length (ints ms)
 sep:∀i,i<R.length->∀b,(ws i).ownBlock=some b->vK.ownBlock≠some b
 lo:W0.heap.size<=b4
section
variable {W0 : World}{b4 C : Nat}{K : Nat → Nat}{vN : Value}{R : List (List Int)}{ws : Nat → Value}{vK : Value}{ms : List Int}{w : World}
theorem iK.ab{w1:World}(h:iK W0 b4 K C vN R ws vK ms w)(k:Below w.heap.size w w1):iK W0 b4 K C vN R ws vK ms w1:=
 ⟨h.bb.trans (k.mono h.bb.size),h.st.ab k,h.next.ab k,cW h.dj k,h.sep,h.lo⟩
theorem iK.f1(h:iK W0 b4 K C vN R ws vK ms w):w.cell? ⟨b4,256,none⟩=some vN:=by rw[h.st.at_,p7]
theorem iK.f2(h:iK W0 b4 K C vN R ws vK ms w):w.cell? ⟨b4,257,none⟩=some vK:=by rw[h.st.at_,yh]
theorem yW{w:World}{B t n i:Nat}{cs:Array Value}{v u:Value}(h:w.ownsRow B t 1 v n xs)(hs:St w 39 b4 cs)(ht:t≠39):(w.setCell ⟨b4,i,none⟩ u).ownsRow B t 1 v n xs:=
 fA (ts:=[]) (bs:=[b4]) h ((Kept.refl _ _ _).setCell _ _ (inl (by simp))) (by simp) (fun b e hm=>ef h hs ht b e (List.mem_singleton.1 hm))
theorem iK.gj{w':World}{vN' u:Value}{row:List Int}{q:Nat}(h:iK W0 b4 K C vN R ws vK ms w)(hu:w.ownsRow W0.heap.size 3 1 u C (ints row))(hs:∀i,i<R.length->∀b,(ws i).ownBlock=some b->u.ownBlock≠some b)(td:∀b,u.ownBlock=some b->vK.ownBlock≠some b)(hq:R.length=q)
  (ho:w'.ownsRow W0.heap.size 30 1 vN' (q+1) ((range q).map ws++[u])) (hg:w.grownBy w' vN.ownBlock):iK W0 b4 K C vN' (R++[row]) (fun j=>if j=q then u else ws j) vK ms (w'.setCell ⟨b4,256,none⟩ vN'):=by
 subst hq;have bQ:St w' 39 b4 (dE K vN vK):=h.st.ae h.next.own (by decide) hg
 have h1:bF w W0.heap.size 30 3 1 vN R.length ws (fun _=>C) (fun j=>ints ((R++[row]).getD j [])):=h.next.congr (fun i hi=>⟨rfl,by simp[getD_eq_getElem?_getD,List.getElem?_append_left hi]⟩)
 have h2:=h1.tF (v':=vN') (u:=u) (w':=w') (by decide) (by simpa [getD_eq_getElem?_getD] using hu) hs ho hg;have hm:w'.ownsRow W0.heap.size 3 1 vK ms.length (ints ms):=qM h.dj hg (fun b e e2=>iy h.dj h.next.own (by decide) b e e2.symm);refine⟨(fC h.bb h.next.own h.bb.size hg).setCell (p:=⟨b4,256,none⟩) h.lo _,?_,?_,yW hm bQ (by decide),?_,h.lo⟩
 ·have:=bQ.set 256 vN';rwa [YJ] at this
 ·rw[length_append];exact⟨yW h2.own bQ (by decide),fun i hi=>yW (h2.row i hi) bQ (by decide),h2.sep⟩
 intro i hi b e;by_cases e1:i=R.length
 ·rw[if_pos e1] at e;exact td b e
 rw[if_neg e1] at e;exact h.sep i (by simp at hi;omega) b e
theorem iK.mF{w':World}{vK':Value}{m:Int}{q:Nat}(h:iK W0 b4 K C vN R ws vK ms w)(hq:ms.length=q)
  (ho:w'.ownsRow W0.heap.size 3 1 vK' (q+1) (ints ms++[.int .i64 m])) (hg:w.grownBy w' vK.ownBlock) (eZ:vK'.ownBlock=vK.ownBlock\/vK'.ownBlock=some w.heap.size):
  iK W0 b4 K C vN R ws vK' (ms++[m]) (w'.setCell ⟨b4,257,none⟩ vK'):=by
 subst hq;have bQ:St w' 39 b4 (dE K vN vK):=h.st.ae h.dj (by decide) hg;have hG:bF w' W0.heap.size 30 3 1 vN R.length ws (fun _=>C) (fun j=>ints (R.getD j [])):=
  ⟨qM h.next.own hg (fun b e e2=>iy h.next.own h.dj (by decide) b e e2.symm),fun i hi=>qM (h.next.row i hi) hg (fun b e e2=>h.sep i hi b e e2.symm),h.next.sep⟩
 refine⟨(fC h.bb h.dj h.bb.size hg).setCell (p:=⟨b4,257,none⟩) h.lo _,?_,⟨yW hG.own bQ (by decide),fun i hi=>yW (hG.row i hi) bQ (by decide),hG.sep⟩,?_,?_,h.lo⟩
 ·have:=bQ.set 257 vK';rwa [zok] at this
 ·have:=yW (i:=257) (u:=vK') ho bQ (by decide);rw[length_append];simpa [ints] using this
 intro i hi b e;rcases eZ with e2|e2
 ·rw[e2];exact h.sep i hi b e
 rw[e2];intro e3;have:=lB (h.next.row i hi) b e;simp at e3;omega
end
def C1(D:Dd)(C n':Nat)(EG:Nat->Nat->Int)(q':Nat->Int)(w:World)(e:Ending)(w':World):Prop:=
 ∃D':Dd,e=.returned (.agg D'.cD)/\DM w' D'/\D'.K=D.K/\D'.n=n'/\D'.m=n'/\(∀i,i<n'->D'.len i=C)/\(∀i,i<n'->∀c,c<C->D'.nx i c=EG i c)/\(∀i,i<n'->D'.q i=q' i)/\Below w.heap.size w w'/\w'.ownsRow w.heap.size 3 1 (.slice D'.aM n' D'.cM) n' (ints ((range n').map q'))
theorem iK.Sm{W0:World}{C:Nat}{D:Dd}{vN:Value}{R:List (List Int)}{ws:Nat->Value}{vK:Value}{ms:List Int}{w wr w':World}{n':Nat}{EG:Nat->Nat->Int}{q':Nat->Int}(hk:∀j,j<256->D.K j<256)(h:iK W0 b4 D.K C vN R ws vK ms wr)(hR:R.length=n')(vu:∀r∈R,r.length=C)(lx:ms=(range n').map q')
  (yo:∀i,i<n'->∀c,c<C->(R.getD i []).getD c 0=EG i c) (hw:w.heap.size<=W0.heap.size) (hb:Below wr.heap.size wr w'\/(∃b cs lf,St wr 39 b lf/\w'=wr.setRow b cs)) (hB:Below w.heap.size w w'):C1 D C n' EG q' w (.returned (.agg (dE D.K vN vK))) w':=by
 obtain⟨aN,cN,rfl⟩:=bJ h.next.own
 obtain⟨aK,cK,rfl⟩:=bJ h.dj;have lO:ms.length=n':=by rw[lx];simp
 have pq:∀{B t n:Nat}{v:Value}{xs:List Value},t≠39->wr.ownsRow B t 1 v n xs->w'.ownsRow B t 1 v n xs:=fun {B t n v xs} ht ho=>by
  rcases hb with hb|⟨b,cs,lf,hs,rfl⟩
  ·exact cW ho hb
  exact fA (ts:=[]) (bs:=[b]) ho (FQ wr b cs) (by simp) (fun g e hm=>ef ho hs ht g e (List.mem_singleton.1 hm))
 have cQ:bF w' W0.heap.size 30 3 1 (.slice aN R.length cN) R.length ws (fun _=>C) (fun j=>ints (R.getD j [])):=⟨pq (by decide) h.next.own,fun i hi=>pq (by decide) (h.next.row i hi),h.next.sep⟩
 have lG:=pq (by decide) h.dj;refine⟨⟨dE D.K (.slice aN R.length cN) (.slice aK ms.length cK),D.K,aN,R.length,cN,fun i=>uf (ws i),fun i=>ye (ws i),fun _=>C,fun i x=>(R.getD i []).getD x 0,aK,ms.length,cK,fun i=>ms.getD i 0⟩,rfl,
  ⟨mA _ _ _,xr _ _ _ _ _ _ _,fun j hj=>zQ _ _ _ j hj,hk,p7 _ _ _,yh _ _ _,cQ.zs rfl vu,Te lG rfl⟩,rfl,hR,lO,fun i hi=>rfl,yo,fun i hi=>?_,hB,?_⟩
 ·show ms.getD i 0=_;rw[lx];simp[getD_eq_getElem?_getD,hi]
 show w'.ownsRow _ _ _ (.slice aK n' cK) n' _;rw[<-lx,<-lO];exact gE lG hw
theorem kG(w:World):w.drew.heap.size=w.heap.size:=rfl
theorem Gb(w:World)(o:Obj):(w.alloc o).heap.size=w.heap.size+1:=by simp
theorem ZW{P:Program}{ρ:Operand->Value}{o:Oper}(w:World)(t:TypeId)(parts:Array (Nat × Operand))(ho:o.op=.build t parts)(ps:Array (Nat × Value))(hp:(parts.map fun (i,x)=>(i,ρ x))=ps)(v:Value)(hb:(build t ps).run P w=.ok v w):
  (execOp ρ o).run P w=.ok (.value v) w:=by
 unfold execOp;simp only[ho,hp,run_bind,hb,andThen_ok,run_pure]
theorem EY{P:Program}{o:Oper}{a:Act}{w:World}{K:Act->World->Prop}{Q:Exit->Act->World->Prop}{E:Prop}(oG:o.guard=none)(t:TypeId)(ho:o.op=.alloc t)(cs:Array Value)(hz:(zeroValue t).run P w=.ok (.agg cs) w)
  (h:K (a.put o.dst (.pointer (some ⟨w.heap.size,0,none⟩))) (w.alloc (.cells cs t))):if wanted o (yielded ops a.tmps)=true then Oper.wp P o a w K Q else E:=by
 have hw:wanted o (yielded ops a.tmps)=true:=by simp[wanted,oG]
 rw[if_pos hw];unfold Oper.wp execOp;simp only[ho,Instr.alloc,run_bind,hz,andThen_ok,newVar,newRow,newObj,Value.cells];exact h
theorem Ec{P:Program}{o:Oper}{a:Act}{w:World}{K:Act->World->Prop}{Q:Exit->Act->World->Prop}{E:Prop}(oG:o.guard=none)(ty:TypeId)(x v:Operand)(ho:o.op=.store ty x v)(g t:Nat)(lf cs:Array Value)(hx:a.eval x=.pointer (some ⟨g,0,none⟩))(hv:a.eval v=.agg cs)
  (bQ:w.heap[g]?=some (.cells lf t (0,0))) (cU:lf.size=cs.size) (hi:(P.info? ty).map (·.size)=some cs.size) (h1:∀u∈cs.toList,u.oneCell'=true) (h:K (a.put o.dst undef) (w.setRow g cs)):if wanted o (yielded ops a.tmps)=true then Oper.wp P o a w K Q else E:=by
 have cj:(storeVar ty ⟨g,0,none⟩ (.agg cs)).run P w=.ok () (w.setRow g cs):=by
  have hs:(sizeOf ty).run P w=.ok cs.size w:=by
   cases hq:P.info? ty with
   | none=>simp[hq] at hi
   | some inf=>
    have:inf.size=cs.size:=(by simpa [hq] using hi);simp[sizeOf,typeInfo,hq,this]
  have:=run_storeCells_at (P:=P) g 0 t cs.toList 0 lf w bQ (by simp[cU]) h1;unfold storeVar;simp only[run_bind,hs,andThen_ok];rw[if_neg (show ¬((Value.agg cs).cells.size≠cs.size) from fun h=>h rfl)];show (storeCells ⟨g,0,none⟩ cs.toList).run P w=_;rw[this];congr 2;have hd:List.drop cs.size lf.toList=[]:=List.drop_of_length_le (by simp[cU]);simp[hd]
 have hw:wanted o (yielded ops a.tmps)=true:=by simp[wanted,oG]
 rw[if_pos hw];unfold Oper.wp execOp;simp only[ho,hx,hv,Instr.storeAt,Instr.sureAddr,run_bind,run_pure,andThen_ok,cj];exact h
open Classical in
noncomputable def nG (D:Dd) (i c:Nat):Int:=if 0<=D.nx i c/\¬vw D (D.nx i c).toNat then -1 else D.nx i c
theorem iK.start{V0 V:World}{K:Nat->Nat}{C m c:Nat}{a:Option Addr}{ms:List Int}{ws:Nat->Value}(hm:V.ownsRow V0.heap.size 3 1 (.slice a m c) m (ints ms))(hl:ms.length=m)(hb:Below V0.heap.size V0 V)(bQ:St V 39 b4 (zC 39))(sP:V0.heap.size<=b4):
  iK V0 b4 K C (.slice none 0 0) [] ws (.slice a m c) ms (V.setRow b4 (dE K (.slice none 0 0) (.slice a m c))):=by
 refine⟨lk hb sP _,bQ.setRow,⟨World.ownsRow_nil _ _ _ _,fun i hi=>absurd hi (by simp),fun i j hi=>absurd hi (by simp)⟩,?_,fun i hi=>absurd hi (by simp),sP⟩;rw[hl];exact fA (ts:=[]) (bs:=[b4]) hm (FQ _ _ _) (by simp) (fun g e h=>ef hm bQ (by decide) g e (List.mem_singleton.1 h))
theorem JA(N:Nat)(hN:N<=2147483647)(W:World):(Instr.makeSlice 30 (.int .i64 (N:Int)) (.int .i64 (N:Int))).run prog W=.ok (.slice (some ⟨W.heap.size,0,none⟩) N N) (W.alloc (.cells (madeCells #[.int .i64 0] N) 3)):=by
 have:=run_make_row' (P:=prog) 30 3 (.int .i64 0) 8 underlying30 az rfl .i64 .i64 N (by omega) (by omega) W;simpa using this
theorem Eu(row:List Int)(m k:Nat)(v:Int)(h:row.length=k)(hk:k<m):(ints (row++replicate (m-k) 0)).set k (.int .i64 v)=ints ((row++[v])++replicate (m-(k+1)) 0):=by
 have e:replicate (m-k) (0:Int)=0 :: replicate (m-(k+1)) 0:=by
  rw[show m-k=(m-(k+1))+1 by omega,List.replicate_succ]
 rw[e];subst h;simp[ints,List.set_append]
def oo(z:Nat->Int)(fn:Nat->Int)(i:Nat):Int:=if z i=-1 then -1 else fn (z i).toNat
def zoQ(m:Nat)(r:Nat->Int)(w:World)(e:Ending)(w':World):Prop:=
 ∃(a:Option Addr) (c:Nat),e=.returned (.slice a m c)/\w'.ownsRow w.heap.size 3 1 (.slice a m c) m (ints ((range m).map r))/\Below w.heap.size w w'
theorem Lc(kf bV n:Nat)(fn:Nat->Int)(m c:Nat)(a:Option Addr)(z:Nat->Int)(w:World)(HC:∀(args:Array Value) (W:World),(callFunc kf args).run prog W=.ok (.enter kf args) W)
  (HM:∀W,Below w.heap.size w W->∀x,x<n->Calls prog kf #[.int .i64 ((x:Nat):Int),.pointer (some ⟨bV,0,none⟩)] W fun e w'=>e=.returned (.int .i64 (fn x))/\w'=W)
  (hm:m<=1000) (hz:kE w a m z) (hb:∀i,i<m->-1<=z i/\z i<(n:Int)) (hn:n<=1000000):
  Calls prog 86 #[.slice a m c,.func (.func kf) #[] #[.pointer (some ⟨bV,0,none⟩)]] w (zoQ m (oo z fn) w):=by
 have fu:=JA m (by omega);have HX:=hid (Zz HM (Zz hz hb));have HO:=hid (DX w w.heap.size m 3 (.int .i64 0) (le_refl _) (by unfold maxLen;omega));have oD:=hid (al w (.cells (madeCells #[.int .i64 0] m) 3));clear HM hz hb;go_enter func86,ntmps86;go_wp2_with fail;obtain⟨g,hg⟩:∃g,w.heap.size=g:=⟨_,rfl⟩
 have j4:Hid ((w.alloc (.cells (madeCells #[.int .i64 0] m) 3)).ownsRow g 3 1 (.slice (some ⟨g,0,none⟩) m m) m (ints ([]++replicate (m-0) 0))/\Below g w (w.alloc (.cells (madeCells #[.int .i64 0] m) 3))):=by
  rw[<-hg];refine⟨?_,oD.out⟩;have:=HO.out;simpa [ints] using this
 rw[hg];generalize w.alloc (.cells (madeCells #[.int .i64 0] m) 3)=W1 at j4⊢;have Hg:=hid hg;clear HO oD hg;go_loopw [6,7,13] (fun _ _ v wr=>∃(k:Nat),v=.int .i64 k/\k<=m/\Hid (wr.ownsRow g 3 1 (.slice (some ⟨g,0,none⟩) m m) m (ints ((range k).map (oo z fn)++replicate (m-k) 0))/\Below g w wr)) (fun _ _ v _=>m-(intOf v).toNat)
 ·exact⟨0,rfl,by omega,j4⟩
 clear j4;obtain⟨k,rfl,hk,HA⟩:=hrel;by_cases an:k<m
 ·have kJ:Below w.heap.size w wr:=by rw[Hg.out];exact HA.out.2
  obtain⟨gA,oA,rfl,Bv,mz⟩:=HX.out.2.1 (by omega);have cA:=(kJ.cell (p:=⟨gA,oA+k,none⟩) Bv).trans (mz k an);have Hh:=HX.out.2.2 k an;obtain⟨g',e',_,_,hc'⟩:=ep HA.out.1 (by omega);obtain rfl:g'=g:=by
   injection e' with e';injection e' with e' _;exact e'.symm
  obtain⟨y0,y1⟩:=hc' k (by omega);have hlen:((range k).map (oo z fn)).length=k:=by simp
  have y2:(ints ((range k).map (oo z fn)++replicate (m-k) 0))[k]?=some (.int .i64 0):=by
   have:0<m-k:=(by omega);simp[ints,getElem?_append,this]
  rw[y2] at y0;have fo:Hid ((wr.setCell ⟨g',k,none⟩ (.int .i64 (-1))).ownsRow g' 3 1 (.slice (some ⟨g',0,none⟩) m m) m (ints (((range k).map (oo z fn)++[-1])++replicate (m-(k+1)) 0))/\Below g' w (wr.setCell ⟨g',k,none⟩ (.int .i64 (-1)))):=by
   refine⟨?_,HA.out.2.setCell (p:=⟨g',k,none⟩) (le_refl _) _⟩;have:=uA HA.out.1 k an (.int .i64 (-1));rwa [Eu _ m k _ hlen an] at this
  have JZ:Hid (∀v,oo z fn k=v->(range (k+1)).map (oo z fn)=(range k).map (oo z fn)++[v]):=fun v h=>by
   rw[range_succ,map_append,List.map_singleton,h]
  have zA:Hid ((z k=-1->oo z fn k=-1)/\∀x:Nat,z k=(x:Int)->oo z fn k=fn x):=⟨fun h=>by simp[oo,h],fun x h=>by
   unfold oo
   rw[if_neg (by omega),h]
   rfl⟩
  have wM:=hid hlen;have i1:(k:Int)<m:=by omega
  have GB:=hid HX.out.1
  try dsimp only at cA
  clear mz hc' e' y2 hlen;generalize z k=t at cA Hh zA;go_upto_region 6 with fail;generalize wr.setCell ⟨g',k,none⟩ (.int .i64 (-1))=W5 at fo⊢;clear y0 y1 cA kJ;by_cases ht:t=-1
  ·subst ht;have HZ:=hid (JZ.out (-1) (zA.out.1 rfl));go_wp2;go_roundw
   ·exact⟨k+1,by go_num,by omega,by rw[HZ.out];exact fo⟩
   simp[intOf];omega
  obtain⟨x,rfl⟩:∃x:Nat,t=(x:Int):=⟨t.toNat,by omega⟩
  have jq:x<n:=by omega
  have ld:((x:Int) != (-1:Int))=true:=by first|(simp;done)|(simp;omega)
  have Vq:=hid (GB.out W5 (by rw[Hg.out];exact fo.out.2) x jq);have HZ:=hid (JZ.out (fn x) (zA.out.2 x rfl));generalize fn x=r at Vq HZ;go_wp2_with fail;refine Vq.out.mono ?_;rintro e w6 ⟨rfl,rfl⟩;obtain⟨g2,e2,_,_,fH⟩:=ep fo.out.1 (by omega);obtain rfl:g2=g':=by
   injection e2 with e2;injection e2 with e2 _;exact e2.symm
  obtain⟨y0,y1⟩:=fH k (by omega);have y2:(ints (((range k).map (oo z fn)++[-1])++replicate (m-(k+1)) 0))[k]?=some (.int .i64 (-1)):=by
   simp[ints,getElem?_append]
  rw[y2] at y0;have kD:Hid ((w6.setCell ⟨g2,k,none⟩ (.int .i64 r)).ownsRow g2 3 1 (.slice (some ⟨g2,0,none⟩) m m) m (ints (((range k).map (oo z fn)++[r])++replicate (m-(k+1)) 0))/\Below g2 w (w6.setCell ⟨g2,k,none⟩ (.int .i64 r))):=by
   refine⟨?_,fo.out.2.setCell (p:=⟨g2,k,none⟩) (le_refl _) _⟩;have:=uA fo.out.1 k an (.int .i64 r);have e3:(ints (((range k).map (oo z fn)++[-1])++replicate (m-(k+1)) 0)).set k (.int .i64 r)=ints (((range k).map (oo z fn)++[r])++replicate (m-(k+1)) 0):=by
    have hl:=wM.out;rw[<-Eu _ m k (-1) hl an,List.set_set,Eu _ m k r hl an]
   rwa [e3] at this
  clear fH e2 y2;go_wp2;go_roundw
  ·exact⟨k+1,by go_num,by omega,by rw[HZ.out];exact kD⟩
  simp[intOf];omega
 obtain rfl:k=m:=by omega
 have HF:Hid (zoQ k (oo z fn) w (.returned (.slice (some ⟨g,0,none⟩) k k)) wr):=by
  refine⟨_,_,rfl,?_,by rw[Hg.out];exact HA.out.2⟩;have:=HA.out.1;rw[Nat.sub_self,List.replicate_zero,List.append_nil,<-Hg.out] at this;rw[<-Hg.out];exact this
 go_wp2;go_ret;exact HF.out
theorem Tv:∀(args:Array Value) (W:World),(callFunc 90 args).run prog W=.ok (.enter 90 args) W:=fun _ _=>by rfl
theorem X9(b3 n c:Nat)(a:Option Addr)(f:Nat->Bool)(w:World)(hS:St w 75 b3 #[.slice a n c])(hf:oB w a n f)(x:Nat)(hx:x<n):
  Calls prog 90 #[.int .i64 (x:Int),.pointer (some ⟨b3,0,none⟩)] w fun e w'=>e=.returned (.int .i64 (if f x=true then (x:Int) else -1))/\w'=w:=by
 have c0:w.cell? ⟨b3,0,none⟩=some (.slice a n c):=hS.at_ 0;obtain⟨g,o,rfl,_,q⟩:=hf (by omega);have d0:=q x hx;have i1:(x:Int)<n:=by omega
 clear q;rcases D6:f x with _|_
 ·rw[D6] at d0;have HZ:Hid ((if (false=true) then (x:Int) else -1)=-1):=by show _=_;simp
  clear D6;go_enter func90,ntmps90;go_wp2;go_ret;exact⟨by first|rfl|(rw[HZ.out];rfl)|simp,rfl⟩
 rw[D6] at d0;clear D6;go_enter func90,ntmps90;go_wp2;go_ret;exact⟨by first|rfl|simp,rfl⟩
theorem zol(D:Dd)(C:Nat)(w:World)(hD:DM w D)(hR:DR D C):
  Calls prog 56 #[.agg D.cD] w (C1 D C D.n (nG D) D.q w):=by
 have DE:∀(fn:Fn) (first cap:Array Value) (w:World),(Instr.makeFunc fn first cap).run prog w=.ok (.func fn first cap) w:=fun _ _ _ _=>rfl
 have cQ:=hR.n2;have cZ:=hR.n1;have jF:=hR.m;have uN:=(hR.jn hD.kl).2;have HB:=hid (Zz (cm.new hD) (Zz (al w (.cells D.cD 39)) hR));obtain⟨iI,hI,pW,p9,qa⟩:=info_parts az;obtain⟨iV,hV,um,uU,uL⟩:=info_parts ew;clear hD hR;go_enter func56,ntmps56;go_upto_region 1 with (refine oO rfl 39 rfl (zC 39) (lP _) ?_);simp only[put,List.setIfInBounds_toArray,List.set_cons_zero,List.set_cons_succ,Gb];have H0:Hid (cm ((w.alloc (.cells D.cD 39)).alloc (.cells (zC 39) 39)) w.heap.size D/\St ((w.alloc (.cells D.cD 39)).alloc (.cells (zC 39) 39)) 39 (w.heap.size+1) (zC 39)/\Below w.heap.size w ((w.alloc (.cells D.cD 39)).alloc (.cells (zC 39) 39))):=by
  refine⟨HB.out.1.ab (al _ _),?_,HB.out.2.1.trans ((al _ _).mono (by simp))⟩;have:=St.new (w.alloc (.cells D.cD 39)) 39 (zC 39);simpa using this
 generalize (w.alloc (.cells D.cD 39)).alloc (.cells (zC 39) 39)=Wb at H0⊢;obtain⟨b2,cr⟩:∃b2,w.heap.size+1=b2:=⟨_,rfl⟩
 obtain⟨b0,aD⟩:∃b0,w.heap.size=b0:=⟨_,rfl⟩
 rw[cr,aD] at H0;rw[cr,aD];have Hb:=hid (Zz aD cr);clear cr aD;have qK:=hid (D4 D C HB.out.2.2 Wb H0.out.1.dm);go_wp2_with (refine kc (by rfl) 39 _ rfl ⟨b0,0,none⟩ rfl D.cD _ H0.out.1.st.part underlying39 rfl H0.out.1.dm.info ?_);refine qK.out.mono ?_;rintro e wy ⟨rfl,rO⟩;have rv:Hid (cm wy b0 D/\St wy 39 b2 (zC 39)/\Below b0 w wy):=⟨H0.out.1.ab rO,H0.out.2.1.ab rO,H0.out.2.2.trans (rO.mono (by have:=H0.out.2.2.size;have:=Hb.out.1;omega))⟩
 have Vd:=hid (zmx D C wy rv.out.1.dm HB.out.2.2);clear rO qK;go_wp2_with (refine kc (by rfl) 39 _ rfl ⟨b0,0,none⟩ rfl D.cD _ rv.out.1.st.part underlying39 rfl rv.out.1.dm.info ?_);refine Vd.out.mono ?_;rintro e wA ⟨f,aA,cA,rfl,TM,YC,bA⟩;go_upto_region 4 with fail;have k3:=al wA (.cells #[.slice aA D.n cA] 75);have ua:Hid (St (wA.alloc (.cells #[.slice aA D.n cA] 75)) 75 wA.heap.size #[.slice aA D.n cA]):=St.new _ _ _;have b1:Below wy.heap.size wy (wA.alloc (.cells #[.slice aA D.n cA] 75)):=bA.trans (k3.mono bA.size);have Fy:=hid (Zz ((FB TM).below k3) YC);obtain⟨b3,dH⟩:∃b3,wA.heap.size=b3:=⟨_,rfl⟩
 rw[dH] at ua;rw[dH];generalize wA.alloc (.cells #[.slice aA D.n cA] 75)=w1 at b1 Fy ua⊢;clear k3 dH bA;have H1:=hid (Zz (rv.out.1.ab b1) (Zz (rv.out.2.1.ab b1) (rv.out.2.2.trans (b1.mono (by have:=rv.out.2.2.size;have:=Hb.out.1;omega)))));obtain⟨gM,oM,eM,rF,mo⟩:=H1.out.1.dm.rM (by omega);have A7:=hid (Zz eM (Zz rF (Zz (by rw[jF] at mo;exact mo:∀j,j<D.n->w1.cell? ⟨gM,oM+j,none⟩=some (.int .i64 (D.q j))) jF)));have uM:Hid (w.heap.size<=w1.heap.size):=by have h1:=rv.out.2.2.size;have h2:=b1.size;have h3:=Hb.out.1;show _<=_;omega
 have dG:Hid (∀W',Below w1.heap.size w1 W'->Below w1.heap.size w1 W'/\cm W' b0 D/\W'.cell? ⟨b0,257,none⟩=some (.slice (some ⟨gM,oM,none⟩) D.n D.cM)):=fun W' h=>⟨h,H1.out.1.ab h,by have:=(H1.out.1.ab h).f2;rw[eM,jF] at this;exact this⟩
 have lJ:Hid (∀W',Below w1.heap.size w1 W'->∀j u,(ints ((range D.n).map D.q))[j]?=some u->W'.cell? ((⟨gM,oM,none⟩:Addr).add j)=some u):=fun W' h=>zmt (fun j hj=>(h.cell (p:=⟨gM,oM+j,none⟩) A7.out.2.1).trans (A7.out.2.2.1 j hj))
 clear TM YC b1 Vd eM mo rF jF
 go_cut [4] from 13 to 18 (fun v wx=>∃(b4:Nat) (a6:Option Addr) (c6:Nat),v=.pointer (some ⟨b4,0,none⟩)/\iK w1 b4 D.K C (.slice none 0 0) [] (fun _=>.slice none 0 0) (.slice a6 D.n c6) ((range D.n).map D.q) wx)
 case first=>
  refine wp_region_held_drew (S:=fun W'=>Below w1.heap.size w1 W'/\cm W' b0 D/\W'.cell? ⟨b0,257,none⟩=some (.slice (some ⟨gM,oM,none⟩) D.n D.cM)) (by kernel_rfl) (dG.out _ (Below.refl _ _).drew) (fun hHeld=>?_)
  (refine av 0 ?_)
  (refine av 1 (v:=.agg (aP D.K)) ?_ (hy:=by intro wz hSw;exact uI (o:=_) (ρ:=_) wz 36 (.tmp 13) rfl ⟨b0,0,none⟩ rfl (aP D.K) _ (cm.dC (And.left (And.right hSw))) underlying36 rfl (vU D.K)))
  (refine av 2 ?_;refine av 3 ?_;try simp only[put,sA,sB,sC])
  refine wpAnyH_ready (rs:=[4,6]) (by kernel_rfl) (by simp) ?_;refine gy (fun K hK=>?_) ?_
  ·skip;go_simp;go_at_call 89;refine (Ky D.n D.cM (some ⟨gM,oM,none⟩) D.q (by omega) _ (fun _=>⟨gM,oM,rfl,Nat.lt_of_lt_of_le A7.out.2.1 hHeld.1.size,fun j hj=>(hHeld.1.cell (p:=⟨gM,oM+j,none⟩) A7.out.2.1).trans (A7.out.2.2.1 j hj)⟩) (fun h=>by cases h) (fun ad h=>by injection h with h;rw[<-h])).mono ?_;rintro e V5 ⟨a6,c6,rfl,aj,b6⟩;have tB:=hid (Zz (gE aj hHeld.1.size) (hHeld.1.trans (b6.mono hHeld.1.size)));clear aj b6
   try go_wp2_with fail
   refine hK.out _ _ (dG.out _ tB.out.2) (fun hHeld=>?_);clear hK K
   try simp only[put,sA,sB,sC]
   (refine wpAnyH_take (i:=5) (oi:=?_) (v:=.agg (dE D.K (.slice none 0 0) (.slice a6 D.n c6))) ?_ (by kernel_rfl) (by kernel_rfl) (by kernel_rfl) ?_ (inl ⟨?_,?_⟩) (by assumption) ?_;rotate_left;(focus ((simp only[List.getElem?_toArray,List.getElem?_cons_succ,List.getElem?_cons_zero]);first|done|rfl));(focus (exact fun _ _ _ h=>h));(focus rfl);(focus (intro wz hSw;exact ZW wz _ _ rfl #[(0,.agg (aP D.K)),(2,.slice a6 D.n c6)] (by first|rfl|simp[eval]|(simp;rfl)) _ (zfi D.K a6 D.n c6 wz)));try simp only[put,sA,sB,sC])
   refine bq 6 (fun K hK=>?_);skip;refine EY (by rfl) 39 (by rfl) (zC 39) (lP _) ?_;have kk:=al V5 (.cells (zC 39) 39);have bY:Below w1.heap.size w1 (V5.alloc (.cells (zC 39) 39)):=hHeld.1.trans (kk.mono hHeld.1.size);have H7:Hid (St (V5.alloc (.cells (zC 39) 39)) 39 V5.heap.size (zC 39)/\w1.heap.size<=V5.heap.size):=(⟨St.new _ _ _,hHeld.1.size⟩);have tB:Hid ((V5.alloc (.cells (zC 39) 39)).ownsRow w1.heap.size 3 1 (.slice a6 D.n c6) D.n (ints ((range D.n).map D.q))/\Below w1.heap.size w1 (V5.alloc (.cells (zC 39) 39))):=(⟨cW tB.out.1 kk,bY⟩);refine hK.out _ _ (dG.out _ bY) (fun hHeld=>?_);clear hK K
   try simp only[put,sA,sB,sC]
   try simp only[kG]
   clear kk;generalize (V5.alloc (.cells (zC 39) 39))=V7 at H7 tB hHeld bY⊢;refine bq 7 (fun K hK=>?_);skip;refine Ec (by rfl) 39 _ _ (by rfl) V5.heap.size 39 (zC 39) (dE D.K (.slice none 0 0) (.slice a6 D.n c6)) (by rfl) (by rfl) H7.out.1 (by rw[ir,mA]) (by rw[fB,mA]) (xr _ _ _ _ _ _ _) ?_;have jR:=hid (iK.start (K:=D.K) (C:=C) (ws:=fun _=>.slice none 0 0) tB.out.1 (by simp) tB.out.2 H7.out.1 H7.out.2);refine hK.out _ _ (dG.out _ jR.out.bb) (fun hHeld=>?_);clear hK K
   try simp only[put,sA,sB,sC]
   refine wpAnyH_done (by kernel_rfl) ?_ _;clear hHeld tB H7;go_wp2_with fail
   go_meet
   exact⟨_,_,_,rfl,jR.out⟩
  refine gy (fun K hK=>?_) ?_
  ·skip;refine EY (by rfl) 39 (by rfl) (zC 39) (lP _) ?_;have kk:=al w1.drew (.cells (zC 39) 39);have bY:Below w1.heap.size w1 (w1.drew.alloc (.cells (zC 39) 39)):=hHeld.1.trans (kk.mono hHeld.1.size);have H7:Hid (St (w1.drew.alloc (.cells (zC 39) 39)) 39 w1.heap.size (zC 39)/\w1.heap.size<=w1.heap.size):=(⟨St.new _ _ _,hHeld.1.size⟩);refine hK.out _ _ (dG.out _ bY) (fun hHeld=>?_);clear hK K
   try simp only[put,sA,sB,sC]
   try simp only[kG]
   clear kk;generalize (w1.drew.alloc (.cells (zC 39) 39))=V7 at H7 hHeld bY⊢;refine bq 4 (fun K hK=>?_);skip;go_simp;go_at_call 89;refine (Ky D.n D.cM (some ⟨gM,oM,none⟩) D.q (by omega) _ (fun _=>⟨gM,oM,rfl,Nat.lt_of_lt_of_le A7.out.2.1 hHeld.1.size,fun j hj=>(hHeld.1.cell (p:=⟨gM,oM+j,none⟩) A7.out.2.1).trans (A7.out.2.2.1 j hj)⟩) (fun h=>by cases h) (fun ad h=>by injection h with h;rw[<-h])).mono ?_;rintro e V5 ⟨a6,c6,rfl,aj,b6⟩;have tB:=hid (Zz (gE aj hHeld.1.size) (hHeld.1.trans (b6.mono hHeld.1.size)));have H7:Hid (St V5 39 w1.heap.size (zC 39)/\w1.heap.size<=w1.heap.size):=(⟨H7.out.1.ab b6,H7.out.2⟩);clear aj b6
   try go_wp2_with fail
   refine hK.out _ _ (dG.out _ tB.out.2) (fun hHeld=>?_);clear hK K
   try simp only[put,sA,sB,sC]
   (refine wpAnyH_take (i:=5) (oi:=?_) (v:=.agg (dE D.K (.slice none 0 0) (.slice a6 D.n c6))) ?_ (by kernel_rfl) (by kernel_rfl) (by kernel_rfl) ?_ (inl ⟨?_,?_⟩) (by assumption) ?_;rotate_left;(focus ((simp only[List.getElem?_toArray,List.getElem?_cons_succ,List.getElem?_cons_zero]);first|done|rfl));(focus (exact fun _ _ _ h=>h));(focus rfl);(focus (intro wz hSw;exact ZW wz _ _ rfl #[(0,.agg (aP D.K)),(2,.slice a6 D.n c6)] (by first|rfl|simp[eval]|(simp;rfl)) _ (zfi D.K a6 D.n c6 wz)));try simp only[put,sA,sB,sC])
   refine bq 7 (fun K hK=>?_);skip;refine Ec (by rfl) 39 _ _ (by rfl) w1.heap.size 39 (zC 39) (dE D.K (.slice none 0 0) (.slice a6 D.n c6)) (by rfl) (by rfl) H7.out.1 (by rw[ir,mA]) (by rw[fB,mA]) (xr _ _ _ _ _ _ _) ?_;have jR:=hid (iK.start (K:=D.K) (C:=C) (ws:=fun _=>.slice none 0 0) tB.out.1 (by simp) tB.out.2 H7.out.1 H7.out.2);refine hK.out _ _ (dG.out _ jR.out.bb) (fun hHeld=>?_);clear hK K
   try simp only[put,sA,sB,sC]
   refine wpAnyH_done (by kernel_rfl) ?_ _;clear hHeld tB H7;go_wp2_with fail
   go_meet
   exact⟨_,_,_,rfl,jR.out⟩
  exact AllReadyH.nil
 case rest=>
  obtain⟨b4,a6,c6,rfl,rm⟩:=hcut;have jR:=hid rm;clear rm;obtain⟨gN,oN,eN,lH,pv⟩:=H1.out.1.dm.rN (by omega);have ue:=hid (H1.out.1.ab jR.out.bb);have f1:=ue.out.f1;rw[eN] at f1;have z8:=hid eN;have rB:=hid pv;have Hg:=hid lH;clear eN pv lH;go_wp2_with fail;clear f1;go_loopw [6,22] (fun _ v wr=>∃(i:Nat) (ws:Nat->Value) (aN:Option Addr) (cN:Nat),v=.int .i64 i/\i<=D.n/\Hid (iK w1 b4 D.K C (.slice aN i cN) ((range i).map fun i=>(range C).map (nG D i)) ws (.slice a6 D.n c6) ((range D.n).map D.q) wr)) (fun _ v _=>D.n-(intOf v).toNat)
  ·exact⟨0,_,none,0,rfl,by omega,jR⟩
  clear jR;obtain⟨i,ws,aN,cN,rfl,hi,HT⟩:=hrel;have mr:Hid (((range i).map fun i=>(range C).map (nG D i)).length=i):=by show _=_;simp
  by_cases an:i<D.n
  ·have i1:(i:Int)<(D.n:Int):=(by omega);have hlen:=HB.out.2.2.len i an;have qj:=(HT.out.bb.cell (p:=⟨gN,oN+i,none⟩) Hg.out).trans (rB.out i an).1;have zN:=(rB.out i an).2;rw[hlen] at qj zN
   try dsimp only at qj
   have xK:Hid (kE wr.drew (D.A i) C (D.nx i)):=(zN.below HT.out.bb).below (Below.refl _ _).drew;have Dh:Hid ((range (i+1)).map (fun i=>(range C).map (nG D i))=(range i).map (fun i=>(range C).map (nG D i))++[(range C).map (nG D i)]):=(by show _=_;rw[range_succ,map_append];rfl);have uR:Hid ((range C).map (oo (D.nx i) (fun x=>if f x=true then ((x:Nat):Int) else -1))=(range C).map (nG D i)):=by
    show _=_;refine(List.map_congr_left fun c hc=>?_);have fH:c<C:=(by simpa using hc);have hb:=HB.out.2.2.nx i c an fH;unfold oo nG;by_cases h1:D.nx i c=-1
    ·rw[if_pos h1,if_neg (by omega),h1]
    rw[if_neg h1];have hx:(D.nx i c).toNat<D.n:=(by omega);dsimp only;by_cases h2:f (D.nx i c).toNat=true
    ·rw[if_pos h2,if_neg (fun h=>h.2 ((Fy.out.2 _ hx).1 h2))];omega
    rw[if_neg h2,if_pos ⟨by omega,fun h=>h2 ((Fy.out.2 _ hx).2 h)⟩]
   clear hlen zN;go_upto_region 8 with fail;clear qj;refine wp_region_held_drew (S:=fun W'=>Below w1.heap.size w1 W') (by kernel_rfl) HT.out.bb.drew (fun hHeld=>?_);have HT:Hid (iK w1 b4 D.K C (.slice aN i cN) ((range i).map fun i=>(range C).map (nG D i)) ws (.slice a6 D.n c6) ((range D.n).map D.q) wr.drew):=HT.out.ab (Below.refl _ _).drew
   (refine av 0 ?_;refine av 2 ?_;refine av 3 ?_;try simp only[put,sA,sB,sC])
   refine wpAnyH_ready (rs:=[1,4]) (by kernel_rfl) (by simp) ?_;refine gy (fun K hK=>?_) ?_
   ·skip;have f1:=HT.out.f1;go_simp;refine hK.out _ _ (hHeld) (fun hHeld=>?_);clear hK K
    try simp only[put,sA,sB,sC]
    clear f1;refine bq 4 (fun K hK=>?_);skip;have iG:=(HT.out.next.lt).2;have jB:=lB HT.out.dj;go_simp;go_at_call 86;refine (Lc 90 b3 D.n (fun x=>if f x=true then ((x:Nat):Int) else -1) C (D.Cp i) (D.A i) (D.nx i) _ Tv (fun W' h x hx=>X9 b3 D.n cA aA f W' ((ua.out.ab HT.out.bb).ab h) ((Fy.out.1.below HT.out.bb).below h) x hx) (by omega) (by have h9:=xK.out;exact h9) (fun c hc=>HB.out.2.2.nx i c an hc) (by omega)).mono ?_;rintro e w5 ⟨a5,c5,rfl,jl,b5⟩;have HU:Hid (w5.ownsRow w1.heap.size 3 1 (.slice a5 C c5) C (ints ((range C).map (nG D i)))/\(∀j,j<((range i).map fun i=>(range C).map (nG D i)).length->∀b,(ws j).ownBlock=some b->(Value.slice a5 C c5).ownBlock≠some b)/\∀b,(Value.slice a5 C c5).ownBlock=some b->(Value.slice a6 D.n c6).ownBlock≠some b):=by
     have jN:=kq jl;refine⟨?_,fun j hj b e1 e2=>?_,fun b e1 e2=>?_⟩
     ·rw[<-uR.out];exact gE jl HT.out.bb.size
     ·have h1:=iG j hj b e1;have h2:=jN b e2
      try simp only[kG] at h1
      try simp only[kG] at h2
      omega
     have h1:=jB b e2;have h2:=jN b e1
     try simp only[kG] at h1
     try simp only[kG] at h2
     omega
    have HT:=hid (HT.out.ab b5);clear jl b5 iG jB
    try go_wp2_with fail
    refine hK.out _ _ (HT.out.bb) (fun hHeld=>?_);clear hK K
    try simp only[put,sA,sB,sC]
    refine bq 5 (fun K hK=>?_);skip;go_simp;have kk:=al w5 (.cells #[.slice a5 C c5] 30);have HN:Hid (∀j u,[Value.slice a5 C c5][j]?=some u->(w5.alloc (.cells #[.slice a5 C c5] 30)).cell? ((⟨w5.heap.size,0,none⟩:Addr).add j)=some u):=cell_one_new _ _ _;have HT:=hid (HT.out.ab kk);have HU:=hid (Zz (cW HU.out.1 kk) HU.out.2);refine hK.out _ _ (HT.out.bb) (fun hHeld=>?_);clear hK K
    try simp only[put,sA,sB,sC]
    clear kk;generalize w5.alloc (.cells #[.slice a5 C c5] 30)=V5 at HN HT HU hHeld⊢;refine bq 6 (fun K hK=>?_);skip;have hO:=(HT.out.next.own);rw[mr.out] at hO;refine rz (by rfl) _ _ _ (by rfl) w1.heap.size 30 iV (.slice none 0 0) 1 24 underlying37 hV um uU uL (by rfl) (by decide) _ i ((range i).map ws) (by rfl) hO ⟨w5.heap.size,0,none⟩ 1 1 [.slice a5 C c5] (by rfl) (by rfl) HN.out (by intro u hu;simp at hu;subst hu;rfl) (by unfold maxLen;omega) (by omega) HT.out.bb.size ?_;intro v6 w6 aj af;obtain⟨a7,c7,rfl⟩:=bJ aj;have jH:=hid (HT.out.gj (u:=.slice a5 C c5) (vN':=.slice a7 (i+1) c7) HU.out.1 HU.out.2.1 HU.out.2.2 mr.out aj af);have h9:=(HT.out.st.ae HT.out.next.own (by decide) af);have z2:w6.cell? ⟨b4,256,none⟩=some (.slice aN i cN):=(by rw[h9.at_,p7]);have z3:w6.frozen? ⟨b4,256,none⟩=false:=h9.aZ 256;have eJ:=(fC HT.out.bb HT.out.next.own HT.out.bb.size af);clear aj af h9 hO;refine hK.out _ _ (eJ) (fun hHeld=>?_);clear hK K
    try simp only[put,sA,sB,sC]
    (refine av 7 ?_;try simp only[put,sA,sB,sC])
    refine bq 8 (fun K hK=>?_);skip;go_simp;refine hK.out _ _ (jH.out.bb) (fun hHeld=>?_);clear hK K
    try simp only[put,sA,sB,sC]
    refine wpAnyH_done (by kernel_rfl) ?_ _;rw[<-Dh.out] at jH;clear hHeld z2 z3 eJ;go_wp2;go_roundw
    ·exact⟨i+1,_,a7,c7,by go_num,by omega,jH⟩
    simp[intOf];omega
   refine gy (fun K hK=>?_) ?_
   ·skip;have iG:=(HT.out.next.lt).2;have jB:=lB HT.out.dj;go_simp;go_at_call 86;refine (Lc 90 b3 D.n (fun x=>if f x=true then ((x:Nat):Int) else -1) C (D.Cp i) (D.A i) (D.nx i) _ Tv (fun W' h x hx=>X9 b3 D.n cA aA f W' ((ua.out.ab HT.out.bb).ab h) ((Fy.out.1.below HT.out.bb).below h) x hx) (by omega) (by have h9:=xK.out;exact h9) (fun c hc=>HB.out.2.2.nx i c an hc) (by omega)).mono ?_;rintro e w5 ⟨a5,c5,rfl,jl,b5⟩;have HU:Hid (w5.ownsRow w1.heap.size 3 1 (.slice a5 C c5) C (ints ((range C).map (nG D i)))/\(∀j,j<((range i).map fun i=>(range C).map (nG D i)).length->∀b,(ws j).ownBlock=some b->(Value.slice a5 C c5).ownBlock≠some b)/\∀b,(Value.slice a5 C c5).ownBlock=some b->(Value.slice a6 D.n c6).ownBlock≠some b):=by
     have jN:=kq jl;refine⟨?_,fun j hj b e1 e2=>?_,fun b e1 e2=>?_⟩
     ·rw[<-uR.out];exact gE jl HT.out.bb.size
     ·have h1:=iG j hj b e1;have h2:=jN b e2
      try simp only[kG] at h1
      try simp only[kG] at h2
      omega
     have h1:=jB b e2;have h2:=jN b e1
     try simp only[kG] at h1
     try simp only[kG] at h2
     omega
    have HT:=hid (HT.out.ab b5);clear jl b5 iG jB
    try go_wp2_with fail
    refine hK.out _ _ (HT.out.bb) (fun hHeld=>?_);clear hK K
    try simp only[put,sA,sB,sC]
    refine wpAnyH_ready (rs:=[1,5]) (by kernel_rfl) (by simp) ?_;refine gy (fun K hK=>?_) ?_
    ·skip;have f1:=HT.out.f1;go_simp;refine hK.out _ _ (hHeld) (fun hHeld=>?_);clear hK K
     try simp only[put,sA,sB,sC]
     clear f1;refine bq 5 (fun K hK=>?_);skip;go_simp;have kk:=al w5 (.cells #[.slice a5 C c5] 30);have HN:Hid (∀j u,[Value.slice a5 C c5][j]?=some u->(w5.alloc (.cells #[.slice a5 C c5] 30)).cell? ((⟨w5.heap.size,0,none⟩:Addr).add j)=some u):=cell_one_new _ _ _;have HT:=hid (HT.out.ab kk);have HU:=hid (Zz (cW HU.out.1 kk) HU.out.2);refine hK.out _ _ (HT.out.bb) (fun hHeld=>?_);clear hK K
     try simp only[put,sA,sB,sC]
     clear kk;generalize w5.alloc (.cells #[.slice a5 C c5] 30)=V5 at HN HT HU hHeld⊢;refine bq 6 (fun K hK=>?_);skip;have hO:=(HT.out.next.own);rw[mr.out] at hO;refine rz (by rfl) _ _ _ (by rfl) w1.heap.size 30 iV (.slice none 0 0) 1 24 underlying37 hV um uU uL (by rfl) (by decide) _ i ((range i).map ws) (by rfl) hO ⟨w5.heap.size,0,none⟩ 1 1 [.slice a5 C c5] (by rfl) (by rfl) HN.out (by intro u hu;simp at hu;subst hu;rfl) (by unfold maxLen;omega) (by omega) HT.out.bb.size ?_;intro v6 w6 aj af;obtain⟨a7,c7,rfl⟩:=bJ aj;have jH:=hid (HT.out.gj (u:=.slice a5 C c5) (vN':=.slice a7 (i+1) c7) HU.out.1 HU.out.2.1 HU.out.2.2 mr.out aj af);have h9:=(HT.out.st.ae HT.out.next.own (by decide) af);have z2:w6.cell? ⟨b4,256,none⟩=some (.slice aN i cN):=(by rw[h9.at_,p7]);have z3:w6.frozen? ⟨b4,256,none⟩=false:=h9.aZ 256;have eJ:=(fC HT.out.bb HT.out.next.own HT.out.bb.size af);clear aj af h9 hO;refine hK.out _ _ (eJ) (fun hHeld=>?_);clear hK K
     try simp only[put,sA,sB,sC]
     (refine av 7 ?_;try simp only[put,sA,sB,sC])
     refine bq 8 (fun K hK=>?_);skip;go_simp;refine hK.out _ _ (jH.out.bb) (fun hHeld=>?_);clear hK K
     try simp only[put,sA,sB,sC]
     refine wpAnyH_done (by kernel_rfl) ?_ _;rw[<-Dh.out] at jH;clear hHeld z2 z3 eJ;go_wp2;go_roundw
     ·exact⟨i+1,_,a7,c7,by go_num,by omega,jH⟩
     simp[intOf];omega
    refine gy (fun K hK=>?_) ?_
    ·skip;go_simp;have kk:=al w5 (.cells #[.slice a5 C c5] 30);have HN:Hid (∀j u,[Value.slice a5 C c5][j]?=some u->(w5.alloc (.cells #[.slice a5 C c5] 30)).cell? ((⟨w5.heap.size,0,none⟩:Addr).add j)=some u):=cell_one_new _ _ _;have HT:=hid (HT.out.ab kk);have HU:=hid (Zz (cW HU.out.1 kk) HU.out.2);refine hK.out _ _ (HT.out.bb) (fun hHeld=>?_);clear hK K
     try simp only[put,sA,sB,sC]
     clear kk;generalize w5.alloc (.cells #[.slice a5 C c5] 30)=V5 at HN HT HU hHeld⊢;refine bq 1 (fun K hK=>?_);skip;have f1:=HT.out.f1;go_simp;refine hK.out _ _ (hHeld) (fun hHeld=>?_);clear hK K
     try simp only[put,sA,sB,sC]
     clear f1;refine bq 6 (fun K hK=>?_);skip;have hO:=(HT.out.next.own);rw[mr.out] at hO;refine rz (by rfl) _ _ _ (by rfl) w1.heap.size 30 iV (.slice none 0 0) 1 24 underlying37 hV um uU uL (by rfl) (by decide) _ i ((range i).map ws) (by rfl) hO ⟨w5.heap.size,0,none⟩ 1 1 [.slice a5 C c5] (by rfl) (by rfl) HN.out (by intro u hu;simp at hu;subst hu;rfl) (by unfold maxLen;omega) (by omega) HT.out.bb.size ?_;intro v6 w6 aj af;obtain⟨a7,c7,rfl⟩:=bJ aj;have jH:=hid (HT.out.gj (u:=.slice a5 C c5) (vN':=.slice a7 (i+1) c7) HU.out.1 HU.out.2.1 HU.out.2.2 mr.out aj af);have h9:=(HT.out.st.ae HT.out.next.own (by decide) af);have z2:w6.cell? ⟨b4,256,none⟩=some (.slice aN i cN):=(by rw[h9.at_,p7]);have z3:w6.frozen? ⟨b4,256,none⟩=false:=h9.aZ 256;have eJ:=(fC HT.out.bb HT.out.next.own HT.out.bb.size af);clear aj af h9 hO;refine hK.out _ _ (eJ) (fun hHeld=>?_);clear hK K
     try simp only[put,sA,sB,sC]
     (refine av 7 ?_;try simp only[put,sA,sB,sC])
     refine bq 8 (fun K hK=>?_);skip;go_simp;refine hK.out _ _ (jH.out.bb) (fun hHeld=>?_);clear hK K
     try simp only[put,sA,sB,sC]
     refine wpAnyH_done (by kernel_rfl) ?_ _;rw[<-Dh.out] at jH;clear hHeld z2 z3 eJ;go_wp2;go_roundw
     ·exact⟨i+1,_,a7,c7,by go_num,by omega,jH⟩
     simp[intOf];omega
    exact AllReadyH.nil
   exact AllReadyH.nil
  obtain rfl:i=D.n:=by omega
  have jk:=hid HT.out.st;have fQ:=hid (H1.out.2.1.ab HT.out.bb);have hd:=mA D.K (.slice aN D.n cN) (.slice a6 D.n c6);have AQ:Hid (Below w.heap.size w (wr.setRow b2 (dE D.K (.slice aN D.n cN) (.slice a6 D.n c6)))):=by
   rw[Hb.out.1];exact lk (H1.out.2.2.trans (HT.out.bb.mono (by have:=uM.out;have:=Hb.out.1;omega))) (by have:=Hb.out;omega) _
  have HF:Hid (C1 D C D.n (nG D) D.q w (.returned (.agg (dE D.K (.slice aN D.n cN) (.slice a6 D.n c6)))) (wr.setRow b2 (dE D.K (.slice aN D.n cN) (.slice a6 D.n c6)))):=
   HT.out.Sm HB.out.1.dm.kl mr.out (fun r hr=>by obtain⟨j,_,rfl⟩:=List.mem_map.1 hr;simp) rfl (fun j hj c hc=>by simp[getD_eq_getElem?_getD,hj,hc]) uM.out (inr ⟨b2,_,_,fQ.out,rfl⟩) AQ.out
  go_wp2_with (first|(refine pM rfl 39 _ rfl ⟨b4,0,none⟩ rfl (dE D.K (.slice aN D.n cN) (.slice a6 D.n c6)) _ jk.out.part underlying39 rfl (by rw[fB,hd]) ?_)|(refine l6 rfl 39 _ _ rfl b2 39 (zC 39) (dE D.K (.slice aN D.n cN) (.slice a6 D.n c6)) rfl rfl fQ.out (by rw[ir,hd]) (by rw[fB,hd]) (xr _ _ _ _ _ _ _) ?_));refine bodyPost_ret (results_cell_row rfl _ _ b2 39 (dE D.K (.slice aN D.n cN) (.slice a6 D.n c6)) (0,0) _ rfl fQ.out.setRow underlying39 rfl (by rw[fB,hd])) rfl ?_;exact HF.out
end Go.Proofs.YtbacgnhkapancaaGreat
