import Derived.Test.YtjehgdjlncofeaaGreatZSFrame
import Derived.Test.YtjehgdjlncofeaaGreatZTRefW
set_option linter.unusedVariables false
set_option linter.unusedSimpArgs false
set_option maxHeartbeats 4000000
set_option maxRecDepth 100000
open Go.Lib (hid)
namespace Go.Proofs.YtjehgdjlncofeaaGreat
open Go.RowKit Go.Maps Go.WideElems Go.ChangeMaps Go.MapKept
def LAt (w:World) (a:Option Addr) (l:List Nat):Prop:=ZAt w a l.length (fun i=>((l.getD i 0:Nat):Int))
theorem LAt.below {w w':World}{a:Option Addr}{l:List Nat}(h:LAt w a l) (k:Below w.heap.size w w'):LAt w' a l:=ZAt.below h k
theorem za7 {w:World}{B n c:Nat}{a:Option Addr}{l:List Nat}(h:w.ownsRow B 3 1 (.slice a n c) n (zai l)) (hl:l.length=n):LAt w a l:=by
 have e:zai l=ints (l.map fun x=>((x:Nat):Int)):=by simp[zai,ints]
 rw[e] at h
 have h2:=zgV h (by simpa using hl)
 unfold LAt
 rw[hl]
 intro h0
 obtain⟨g,off,e1,e2,hc⟩:=h2 h0
 refine⟨g,off,e1,e2,fun j hj=>?_⟩
 rw[hc j hj]
 have:j<l.length:=by omega
 simp[List.getD_eq_getElem?_getD,this]
theorem zdR (n:Nat) (l:List Nat) (a:Option Addr) (q c:Nat) (hq:l.length=q) (hq2:q<=1000000) (hn:n<=1000000) (hl:∀x∈l,x<n) (w:World) (hL:LAt w a l):
  Calls Tryz.prog 106 #[.int .i64 (n:Int),.slice a q c] w (zdQ n (fun x=>x∈l) w):=by
 have hmk:=zgg n (by omega)
 have HL:=hid (And.intro hL (And.intro hq hl))
 have HO:=hid (OB.made w n (by unfold maxLen;omega))
 clear hL hq hl
 go_enter Tryz.func106,Tryz.ntmps106
 go_wp2_with fail
 obtain⟨g,hg⟩:∃g,w.heap.size=g:=⟨_,rfl⟩
 have HO2:Hid (∀W1,(w.alloc (.cells (madeCells #[.bool false] n) 4))=W1->OB w g n (fun _=>false) W1):=fun W1 h=>by rw[<-h,<-hg];exact HO.out
 rw[hg]
 generalize hW1:w.alloc (.cells (madeCells #[.bool false] n) 4)=W1
 have HO:=hid (HO2.out W1 hW1)
 have HOl:=hid (fun (wr:World) (h:OB w g n (fun _=>false) wr)=>h)
 have HLW:=hid (fun (wr:World) (hb:Below w.heap.size w wr)=>HL.out.1.below hb)
 clear HO2 hg hW1
 go_loopw [7,12] (fun _ v wr=>∃(k:Nat) (f:Nat->Bool),v=.int .i64 k/\k<=q/\Hid (OB w g n f wr/\∀x,f x=true↔x∈l.take k)) (fun _ v _=>q-(intOf v).toNat)
 case atStart=>exact⟨0,_,rfl,by omega,⟨HO.out,fun x=>by simp⟩⟩
 case round=>
  clear HO
  obtain⟨k,f,rfl,hk,HX⟩:=hrel
  by_cases hlt:k<q
  ·have hkl:k<l.length:=by rw[HL.out.2.1];exact hlt
   obtain⟨gL,oL,rfl,_,c0⟩:=HLW.out wr HX.out.1.bel (by omega)
   have c1:=c0 k hkl
   have hx:l.getD k 0=l[k]:=by simp[List.getD_eq_getElem?_getD,hkl]
   have hxn:=HL.out.2.2 l[k] (List.getElem_mem hkl)
   dsimp only at c1
   rw[hx] at c1
   have HS:Hid (∀x,(if x=l[k] then true else f x)=true↔x∈l.take (k+1)):=fun x=>by
    rw[List.take_succ_eq_append_getElem hkl,List.mem_append,List.mem_singleton]
    by_cases e:x=l[k]
    ·rw[if_pos e];simp[e]
    ·rw[if_neg e,HX.out.2];simp[e]
   clear c0 hx
   generalize l[k]=t at c1 hxn HS
   obtain⟨y0,y1⟩:=HX.out.1.cell t hxn
   have HA:=hid (HX.out.1.put t hxn true)
   have i1:(k:Int)<(q:Int):=by omega
   have i2:(t:Int)<(n:Int):=by omega
   go_wp2_with fail
   go_roundw
   case rel=>exact⟨k+1,_,by go_num,by omega,⟨HA.out,HS.out⟩⟩
   case measure=>simp[intOf];omega
  ·obtain rfl:k=q:=by omega
   have HZ:Hid (zdQ n (fun x=>x∈l) w (.returned (.slice (some ⟨g,0,none⟩) n n)) wr):=
    ⟨f,_,_,rfl,HX.out.1.own,fun x _=>by rw[HX.out.2,List.take_of_length_le (by rw[HL.out.2.1];exact Nat.le_refl _)],HX.out.1.bel⟩
   go_wp2_with fail
   go_ret
   exact HZ.out
def zdS (q:Nat) (z:Nat->Int) (w:World) (e:Ending) (w':World):Prop:=
 ∃(a:Option Addr) (c:Nat),e=.returned (.slice a q c)/\w'.ownsRow w.heap.size 3 1 (.slice a q c) q (ints ((List.range q).map z))/\Below w.heap.size w w'
theorem zky {w:World}{q:Nat}{z:Nat->Int}{g o:Nat}(hc:∀j,j<q->w.cell? ⟨g,o+j,none⟩=some (.int .i64 (z j))):∀j u,(ints ((List.range q).map z))[j]?=some u->w.cell? ((⟨g,o,none⟩:Addr).add j)=some u:=by
 intro j u hj
 have hl:j<q:=by
  have:=(List.getElem?_eq_some_iff.1 hj).1
  simpa [ints] using this
 have e:(⟨g,o,none⟩:Addr).add j=⟨g,o+j,none⟩:=by unfold Addr.add;split <;> simp_all
 rw[e,hc j hl]
 simp[ints,hl] at hj
 rw[hj]
theorem zhS (a:Option Addr) (n c:Nat) (W:World):(binOp .eql 30 (.slice a n c) (.slice none 0 0)).run Tryz.prog W=.ok (.bool a.isNone) W:=by
 have h:=run_equal_slice_nil W 30 3 a n c Tryz.underlying30
 unfold binOp
 simp only[Sem.run_bind,h,Result.andThen_ok,Sem.run_pure]
theorem zcO (q c:Nat) (a:Option Addr) (z:Nat->Int) (hq:q<=1000000) (w:World) (hz:ZAt w a q z) (ha:a=none->q=0/\c=0) (hs:∀ad,a=some ad->ad.spot=none):
  Calls Tryz.prog 89 #[.slice a q c] w (zdS q z w):=by
 have HZ:=hid hz
 obtain⟨iI,hI,hI0,hI1,hI2⟩:=info_parts Tryz.info_int9
 clear hz
 go_enter Tryz.func89,Tryz.ntmps89
 rcases a with _|⟨g,o,sp⟩
 ·obtain⟨rfl,rfl⟩:=ha rfl
  have he:(binOp .eql 30 (.slice none 0 0) (.slice none 0 0)).run Tryz.prog w=.ok (.bool true) w:=zhS none 0 0 w
  have HF:Hid (zdS 0 z w (.returned (.slice none 0 0)) w):=⟨none,0,rfl,World.ownsRow_nil _ _ _ _,Below.refl _ _⟩
  go_wp2_with fail
  go_ret
  exact HF.out
 ·obtain rfl:sp=none:=hs _ rfl
  have he:(binOp .eql 30 (.slice (some ⟨g,o,none⟩) q c) (.slice none 0 0)).run Tryz.prog w=.ok (.bool false) w:=zhS _ q c w
  have HN:Hid (∀W,Below w.heap.size w W->∀j u,(ints ((List.range q).map z))[j]?=some u->W.cell? ((⟨g,o,none⟩:Addr).add j)=some u):=fun W hb=>by
   rcases Nat.eq_zero_or_pos q with h0|h0
   ·subst h0
    intro j u hj
    simp[ints] at hj
   ·obtain⟨g',o',e,_,hc⟩:=(HZ.out.below hb) h0
    injection e with e
    injection e with e1 e2
    subst e1 e2
    exact zky hc
  have hown:=zbM w w.heap.size 3 1 #[] 0 rfl (Nat.le_refl _) (by decide)
  go_wp2_with (at_builtin;refine wpList_append_own_at _ rfl _ _ 30 rfl w.heap.size 3 iI (.int .i64 0) 1 8 Tryz.underlying30 hI hI0 hI1 hI2 rfl (by decide) _ _ _ rfl hown ⟨g,o,none⟩ q c (ints ((List.range q).map z)) rfl (by simp[ints]) (HN.out _ (al w _)) ?d2 ?d3 ?d4 ?d5 ?_)
  case d2=>
   intro u hu
   simp[ints] at hu
   obtain⟨x,_,rfl⟩:=hu
   rfl
  case d3=>unfold maxLen;omega
  case d4=>omega
  any_goals (first|(simp;done)|skip)
  intro v5 w5 hown5 hgrow5 _ hat5
  try rw[Nat.zero_add] at hown5
  try rw[Array.toList_empty,List.nil_append] at hown5
  obtain⟨a5,c5,rfl⟩:=zaa hown5
  have HF:Hid (zdS q z w (.returned (.slice a5 q c5)) w5):=⟨a5,c5,rfl,hown5,zac (al w (.cells #[] 3)) hown (by simp) hgrow5⟩
  clear hown5 hgrow5 hat5
  go_wp2_with fail
  go_ret
  exact HF.out
def rowsF (len:Nat->Nat) (nx:Nat->Nat->Int) (i:Nat):List Int:=(List.range (len i)).map (nx i)
def zmD (rows:Nat->List Int) (l0:List Nat) (n:Nat) (w:World) (e:Ending) (w':World):Prop:=
 ∃(l:List Nat) (i:Nat) (a:Option Addr) (c:Nat),e=.returned (.slice a i c)/\w'.ownsRow w.heap.size 3 1 (.slice a i c) i (zai l)/\l=wkN rows l0 i/\l.length=i/\i<=n/\(∀x∈l,x<n)/\Below w.heap.size w w'
theorem zkz (nx:Nat->Nat->Int) (x c:Nat) (m:List Nat):addR m ((List.range (c+1)).map (nx x))=addT (addR m ((List.range c).map (nx x))) (nx x c):=by
 rw[List.range_succ,List.map_append,List.map_singleton,zkx]
theorem zfc (n cL:Nat) (aL:Option Addr) (A:Nat->Option Addr) (Cp len:Nat->Nat) (nx:Nat->Nat->Int) (l0:List Nat) (aF:Option Addr) (q cF:Nat) (hn:n<=100000) (hlen:∀i,i<n->len i<=100000) (hnx:∀i c,i<n->c<len i->-1<=nx i c/\nx i c<(n:Int))
  (hq:l0.length=q) (hnd:l0.Nodup) (hl0:∀x∈l0,x<n) (w:World) (hR:ZsAt w aL n A Cp len nx) (hF:LAt w aF l0) (ha:aF=none->q=0/\cF=0) (hs:∀ad,aF=some ad->ad.spot=none):
  Calls Tryz.prog 85 #[.slice aL n cL,.slice aF q cF] w (zmD (rowsF len nx) l0 n w):=by
 have hqn:q<=n:=by rw[<-hq];exact zax hnd hl0
 have HX:=hid (And.intro hlen (And.intro hnx (And.intro hq (And.intro hnd (And.intro hl0 (And.intro hR hF))))))
 have HCl:=hid (zcO q cF aF (fun i=>((l0.getD i 0:Nat):Int)) (by omega) w (by rw[<-hq];exact hF) ha hs)
 obtain⟨iI,hI,hI0,hI1,hI2⟩:=info_parts Tryz.info_int9
 clear hlen hnx hq hnd hl0 hR hF ha hs
 go_enter Tryz.func85,Tryz.ntmps85
 go_wp2_with fail
 refine HCl.out.mono ?_
 rintro e w1 ⟨a1,c1,rfl,hown,b1⟩
 have hmap:ints ((List.range q).map (fun i=>((l0.getD i 0:Nat):Int)))=zai l0:=by
  apply List.ext_getElem?
  intro j
  have hq:=HX.out.2.2.1
  by_cases h:j<q
  ·have h2:j<l0.length:=by omega
   simp[ints,zai,h,h2,List.getD_eq_getElem?_getD]
  ·have h2:¬j<l0.length:=by omega
   simp[ints,zai,h,h2]
 rw[hmap] at hown
 have HO1:=hid (And.intro hown b1)
 have HFl:=hid (zdR n l0 a1 q c1 HX.out.2.2.1 (by omega) (by omega) HX.out.2.2.2.2.1 w1 (za7 hown HX.out.2.2.1))
 clear hown b1 hmap HCl
 go_wp2_with fail
 refine HFl.out.mono ?_
 rintro e w2 ⟨f,a2,c2,rfl,hown2,hf,b2⟩
 have hc2:∃g,(Value.slice a2 n c2)=.slice (some ⟨g,0,none⟩) n c2\/n=0:=by
  rcases Nat.eq_zero_or_pos n with h|h
  ·exact⟨0,Or.inr h⟩
  ·obtain⟨g,e,_⟩:=zae hown2 h
   exact⟨g,Or.inl (by rw[e])⟩
 have hb2:bls f n=bls (fun x=>decide (x∈l0)) n:=zfp fun j hj=>by rw[Bool.eq_iff_iff,hf j hj,decide_eq_true_iff]
 rw[hb2] at hown2
 have HO2:Hid (w2.ownsRow w.heap.size 3 1 (.slice a1 q c1) q (zai l0)/\w2.ownsRow w.heap.size 4 1 (.slice a2 n c2) n (bls (fun x=>decide (x∈l0)) n)/\Below w.heap.size w w2):=⟨zab HO1.out.1 b2,zag hown2 HO1.out.2.size,HO1.out.2.trans (b2.mono HO1.out.2.size)⟩
 clear hown2 hf b2 hb2 HFl HO1
 go_wp2_with fail
 go_loopw [5,7,9,30] (fun v5 v7 _ _ wr=>∃(i p:Nat) (l:List Nat) (a:Option Addr) (c:Nat),v7=.int .i64 i/\i<=p/\p<=n/\v5=.slice a p c/\Hid (l=wkN (rowsF len nx) l0 i/\l.length=p/\l.Nodup/\(∀x∈l,x<n)/\wr.ownsRow w.heap.size 3 1 (.slice a p c) p (zai l)/\wr.ownsRow w.heap.size 4 1 (.slice a2 n c2) n (bls (fun x=>decide (x∈l)) n)/\Below w.heap.size w wr)) (fun _ v _ _ _=>n-(intOf v).toNat)
 case atStart=>exact⟨0,q,l0,a1,c1,rfl,by omega,hqn,rfl,⟨rfl,HX.out.2.2.1,HX.out.2.2.2.1,HX.out.2.2.2.2.1,HO2.out.1,HO2.out.2.1,HO2.out.2.2⟩⟩
 case round=>
  clear HO2
  obtain⟨i,p,l,a,c,rfl,hip,hpn,rfl,HL⟩:=hrel
  by_cases hlt:i<p
  ·have hi2:i<l.length:=by rw[HL.out.2.1];exact hlt
   obtain⟨gM,rfl,_,_,cM⟩:=zae HL.out.2.2.2.2.1 (by omega)
   have d0:=(cM i (by omega)).1
   rw[za8 l i hi2] at d0
   have hxn:=HL.out.2.2.2.1 l[i] (List.getElem_mem hi2)
   have HGet:Hid (wkN (rowsF len nx) l0 (i+1)=addR l (rowsF len nx l[i])):=by
    show wkS _ (wkN _ _ i) i=_
    rw[<-HL.out.1]
    unfold wkS
    rw[if_pos hi2]
    simp[List.getD_eq_getElem?_getD,hi2]
   clear cM
   generalize l[i]=x at d0 hxn HGet
   obtain⟨g2,hg2⟩:=hc2
   obtain rfl:a2=some ⟨g2,0,none⟩:=by
    rcases hg2 with h|h
    ·injection h
    ·omega
   clear hg2
   have hlx:=HX.out.1 x hxn
   obtain⟨gL,oL,eL,_,cL0⟩:=(HX.out.2.2.2.2.2.1.below HL.out.2.2.2.2.2.2) (by omega)
   obtain⟨d1,zx⟩:=cL0 x hxn
   have HZx:Hid (ZAt w (A x) (len x) (nx x)):=by
    obtain⟨_,_,_,_,cLw⟩:=HX.out.2.2.2.2.2.1 (by omega)
    exact (cLw x hxn).2
   have hbx:=hid (fun c hc=>HX.out.2.1 x c hxn hc)
   have HeL:=hid eL
   rw[eL]
   have i1:(i:Int)<(p:Int):=by omega
   have i2:(x:Int)<(n:Int):=by omega
   clear cL0 zx eL
   obtain⟨m,hm⟩:∃m,len x=m:=⟨_,rfl⟩
   have Hm:=hid hm
   rw[hm] at d1 hlx HZx
   generalize A x=ax at d1 HZx
   generalize Cp x=cx at d1
   clear hm
   go_wp2_with fail
   obtain⟨W9,rfl⟩:∃W9,W9=wr:=⟨wr,rfl⟩
   clear d0 d1
   go_loopw [5,9,30] (fun v5 _ v30 wq=>∃(k p2:Nat) (l2:List Nat) (a:Option Addr) (c:Nat),v30=.int .i64 k/\k<=m/\p<=p2/\p2<=n/\v5=.slice a p2 c/\Hid (l2=addR l ((List.range k).map (nx x))/\l2.length=p2/\l2.Nodup/\(∀x∈l2,x<n)/\wq.ownsRow w.heap.size 3 1 (.slice a p2 c) p2 (zai l2)/\wq.ownsRow w.heap.size 4 1 (.slice (some ⟨g2,0,none⟩) n c2) n (bls (fun x=>decide (x∈l2)) n)/\Below w.heap.size w wq)) (fun _ _ v _=>m-(intOf v).toNat)
   case atStart=>exact⟨0,p,l,_,c,rfl,by omega,by omega,hpn,rfl,⟨rfl,HL.out.2.1,HL.out.2.2.1,HL.out.2.2.2.1,HL.out.2.2.2.2.1,HL.out.2.2.2.2.2.1,HL.out.2.2.2.2.2.2⟩⟩
   case round=>
    obtain⟨k,p2,l2,a,c,rfl,hk,hpp,hp2,rfl,HK⟩:=hrel
    by_cases hlk:k<m
    ·obtain⟨gA,oA,eA,_,cA0⟩:=(HZx.out.below HK.out.2.2.2.2.2.2) (by omega)
     have cA:=cA0 k hlk
     have hb:=hbx.out k (by rw[Hm.out];exact hlk)
     have HS:=hid (zkz nx x k l)
     rw[eA]
     have HeA:=hid eA
     have i3:(k:Int)<(m:Int):=by omega
     clear cA0 eA
     generalize nx x k=t at cA hb HS
     by_cases ht:t=-1
     ·subst ht
      have HZ:Hid (l2=addR l ((List.range (k+1)).map (nx x))):=by
       show _=_
       rw[HS.out,<-HK.out.1]
       unfold addT
       rw[if_neg (by omega)]
      go_wp2_with fail
      go_roundw
      case rel=>exact⟨k+1,p2,l2,a,c,by go_num,by omega,by omega,by omega,rfl,⟨HZ.out,HK.out.2⟩⟩
      case measure=>simp[intOf];omega
     ·obtain⟨u,rfl⟩:∃u:Nat,t=(u:Int):=⟨t.toNat,by omega⟩
      have hu:u<n:=by omega
      have i4:(u:Int)<(n:Int):=by omega
      have ht2:((u:Int) != (-1:Int))=true:=by first|(simp;done)|(simp;omega)
      obtain⟨gS,eS,hgS,_,cS⟩:=zae HK.out.2.2.2.2.2.1 (by omega)
      obtain rfl:gS=g2:=by
       injection eS with eS
       injection eS with eS _
       exact eS.symm
      have y0:=(cS u (by omega)).1
      have y1:=(cS u (by omega)).2
      have y2:(bls (fun x=>decide (x∈l2)) n)[u]?=some (.bool (decide (u∈l2))):=by simp[bls,hu]
      rw[y2] at y0
      clear cS y2 eS ht
      by_cases hin:u∈l2
      ·have hd:decide (u∈l2)=true:=by simp[hin]
       rw[hd] at y0
       have HZ:Hid (l2=addR l ((List.range (k+1)).map (nx x))):=by
        show _=_
        rw[HS.out,<-HK.out.1]
        unfold addT
        rw[if_neg (by simp[hin])]
       clear hd hin
       go_wp2_with fail
       go_roundw
       case rel=>exact⟨k+1,p2,l2,a,c,by go_num,by omega,by omega,by omega,rfl,⟨HZ.out,HK.out.2⟩⟩
       case measure=>simp[intOf];omega
      ·have hd:decide (u∈l2)=false:=by simp[hin]
       rw[hd] at y0
       have HZ:Hid (l2++[u]=addR l ((List.range (k+1)).map (nx x))):=by
        show _=_
        rw[HS.out,<-HK.out.1]
        unfold addT
        rw[if_pos ⟨by omega,by simpa using hin⟩]
        simp
       have HN:Hid ((l2++[u]).Nodup/\∀x∈l2++[u],x<n):=by
        refine⟨?_,fun y hy=>?_⟩
        ·rw[List.nodup_append]
         exact⟨HK.out.2.2.1,by simp,fun a ha b hb2 e=>by
          rw[List.mem_singleton.1 hb2] at e
          rw[e] at ha
          exact hin ha⟩
        ·rcases List.mem_append.1 hy with h|h
         ·exact HK.out.2.2.2.1 y h
         ·rw[List.mem_singleton.1 h];exact hu
       have hpn3:p2+1<=n:=by
        have:=zax HN.out.1 HN.out.2
        simp[HK.out.2.1] at this
        exact this
       have HT:Hid ((wr.setCell ⟨gS,u,none⟩ (.bool true)).ownsRow w.heap.size 3 1 (.slice a p2 c) p2 (zai l2)/\(wr.setCell ⟨gS,u,none⟩ (.bool true)).ownsRow w.heap.size 4 1 (.slice (some ⟨gS,0,none⟩) n c2) n (bls (fun x=>decide (x∈l2++[u])) n)/\Below w.heap.size w (wr.setCell ⟨gS,u,none⟩ (.bool true))):=by
        have h1:=HK.out.2.2.2.2.1
        have h2:=HK.out.2.2.2.2.2.1
        refine⟨zal (ts:=[]) (bs:=[gS]) h1 ((Kept.refl _ _ _).setCell _ _ (Or.inl (by simp))) (by simp) (fun b e hm=>zan h1 h2 (by decide) b e (by simp[List.mem_singleton.1 hm,Value.ownBlock])),?_,HK.out.2.2.2.2.2.2.setCell (p:=⟨gS,u,none⟩) hgS _⟩
        have h3:=za9 h2 u hu (.bool true)
        rw[zhb] at h3
        have e:bls (fun x=>decide (x∈l2++[u])) n=bls (fun i=>if i=u then true else decide (i∈l2)) n:=zfp fun j hj=>by
         by_cases e:j=u
         ·simp[e]
         ·simp[e]
        rw[e]
        exact h3
       clear hd hin
       go_upto_region 11 with fail
       generalize wr.setCell ⟨gS,u,none⟩ (.bool true)=W5 at HT⊢
       have hO:=HT.out.1
       clear y0 y1
       go_wp2_with (at_builtin;refine wpList_append_own_at _ rfl _ _ 30 rfl w.heap.size 3 iI (.int .i64 0) 1 8 Tryz.underlying30 hI hI0 hI1 hI2 rfl (by decide) _ _ _ rfl (hO.alloc _) ⟨W5.heap.size,0,none⟩ 1 1 [.int .i64 (u:Int)] rfl rfl (cell_one_new _ _ _) ?d2 ?d3 ?d4 ?d5 ?_)
       case d2=>first|(intro u hu;simp at hu;subst hu;rfl)|rfl
       case d3=>unfold maxLen;omega
       case d4=>omega
       case d5=>have:=HT.out.2.2.size;simp at this⊢;omega
       intro v5 w5 hown5 hgrow5 _ hat5
       obtain⟨a5,c5,rfl⟩:=zaa hown5
       have kk:=al W5 (.cells #[.int .i64 (u:Int)] 3)
       have hs2:=HT.out.2.2.size
       have h2:=zab HT.out.2.1 kk
       have HY:Hid (w5.ownsRow w.heap.size 3 1 (.slice a5 (p2+1) c5) (p2+1) (zai (l2++[u]))/\w5.ownsRow w.heap.size 4 1 (.slice (some ⟨gS,0,none⟩) n c2) n (bls (fun x=>decide (x∈l2++[u])) n)/\Below w.heap.size w w5):=by
        refine⟨by rw[zaL];exact hown5,zaG h2 hgrow5 (fun b e e2=>zan h2 (hO.alloc _) (by decide) b e e2.symm),zac (HT.out.2.2.trans (kk.mono hs2)) (hO.alloc _) (Nat.le_trans hs2 kk.size) hgrow5⟩
       clear hown5 hgrow5 hat5 hO kk h2
       go_wp2_with fail
       go_roundw
       case rel=>exact⟨k+1,p2+1,l2++[u],a5,c5,by go_num,by omega,by omega,by omega,rfl,⟨HZ.out,by rw[List.length_append,HK.out.2.1];rfl,HN.out.1,HN.out.2,HY.out.1,HY.out.2.1,HY.out.2.2⟩⟩
       case measure=>simp[intOf];omega
    ·obtain rfl:k=m:=by omega
     have HZ:Hid (l2=wkN (rowsF len nx) l0 (i+1)):=by
      show _=_
      rw[HGet.out,HK.out.1]
      unfold rowsF
      rw[Hm.out]
     go_wp2_with fail
     go_roundw
     case rel=>exact⟨i+1,p2,l2,a,c,by go_num,by omega,hp2,rfl,⟨HZ.out,HK.out.2⟩⟩
     case measure=>simp[intOf];omega
  ·obtain rfl:i=p:=by omega
   have HF:Hid (zmD (rowsF len nx) l0 n w (.returned (.slice a i c)) wr):=⟨l,i,a,c,rfl,HL.out.2.2.2.2.1,HL.out.1,HL.out.2.1,hpn,HL.out.2.2.2.1,HL.out.2.2.2.2.2.2⟩
   go_wp2_with fail
   go_ret
   exact HF.out
theorem zf3 (l:List Nat) (s q c:Nat) (a:Option Addr) (hq:l.length=q) (hq2:q<=1000000) (w:World) (hL:LAt w a l):
  Calls Tryz.prog 148 #[.slice a q c,.int .i64 (s:Int)] w (zaV (l.getLast?=some s) w):=by
 have HL:=hid (And.intro hL hq)
 clear hL hq
 go_enter Tryz.func148,Tryz.ntmps148
 rcases q with _|q
 ·have HZ:Hid (l.getLast?≠some s):=by
   show ¬_=_
   rw[List.eq_nil_of_length_eq_zero HL.out.2]
   intro h
   cases h
  go_wp2_with fail
  go_ret
  exact⟨false,rfl,⟨(fun h=>by cases h),(fun h=>absurd h HZ.out)⟩,Below.refl _ _⟩
 ·have hne:l.length=q+1:=HL.out.2
  obtain⟨g,o,rfl,_,c0⟩:=HL.out.1 (by omega)
  have c1:=c0 q (by omega)
  have hl2:l.getLast?=some (l.getD q 0):=by
   rw[List.getLast?_eq_getElem?,hne]
   have:q<l.length:=by omega
   simp[List.getD_eq_getElem?_getD,this]
  have HS:Hid (l.getLast?=some s↔l.getD q 0=s):=by
   show _↔_
   rw[hl2];simp
  clear c0 hl2 hne
  dsimp only at c1
  generalize l.getD q 0=t at c1 HS
  have i1:((q:Int)+1)-1=(q:Int):=by omega
  have i2:(0:Int)<(q:Int)+1:=by omega
  have i3:(q:Int)<(q:Int)+1:=by omega
  by_cases e:t=s
  ·subst e
   have HZ:=hid (HS.out.2 rfl)
   go_wp2_with fail
   try go_quiet (fail)
   try go_wp2_with fail
   go_ret
   exact⟨true,rfl,⟨(fun _=>HZ.out),(fun _=>rfl)⟩,by first|exact Below.refl _ _|exact (Below.refl _ _).drew⟩
  ·have HZ:Hid (¬l.getLast?=some s):=fun h=>e (HS.out.1 h)
   have i4:((t:Int) == (s:Int))=false:=by simp;omega
   go_wp2_with fail
   try go_quiet (fail)
   try go_wp2_with fail
   go_ret
   exact⟨false,rfl,⟨(fun h=>by cases h),(fun h=>absurd h HZ.out)⟩,by first|exact Below.refl _ _|exact (Below.refl _ _).drew⟩
structure SrI (D:Dd) (f c:Nat) (tg:Nat->List Nat):Prop where
 mem:∀t,t<D.n->∀x,x∈tg t↔(x<f/\Ed D x t)\/(x=f/\f<D.n/\∃c',c'<c/\D.nx f c'=(t:Int))
 inc:∀t,t<D.n->(tg t).Pairwise (·<·)
theorem zgX {l:List Nat}{f:Nat}(hp:l.Pairwise (·<·)) (hle:∀x∈l,x<=f):l.getLast?=some f↔f∈l:=by
 constructor
 ·intro h
  exact List.mem_of_getLast? h
 ·intro h
  obtain⟨i,hi,e⟩:=List.getElem_of_mem h
  have hlast:i=l.length-1:=by
   refine Classical.byContradiction fun hne=>?_
   have h2:=(List.pairwise_iff_getElem.1 hp) i (i+1) hi (by omega) (by omega)
   have h3:=hle l[i+1] (List.getElem_mem (by omega))
   omega
  rw[List.getLast?_eq_getElem?]
  rw[<-hlast,List.getElem?_eq_getElem hi,e]
theorem zkA {l:List Nat}{n:Nat}(hp:l.Pairwise (·<·)) (hlt:∀x∈l,x<n):l.length<=n:=
 zax (hp.imp fun h=>by omega) hlt
theorem SrI.start (D:Dd):SrI D 0 0 (fun _=>[]):=⟨fun t ht x=>⟨fun h=>by simp at h,fun h=>by rcases h with h|⟨_,_,c',h,_⟩ <;> omega⟩,fun t ht=>List.Pairwise.nil⟩
theorem SrI.le {D:Dd}{f c:Nat}{tg:Nat->List Nat}(h:SrI D f c tg) {t:Nat}(ht:t<D.n):∀x∈tg t,x<=f:=fun x hx=>by
 rcases (h.mem t ht x).1 hx with h1|h1
 ·omega
 ·omega
theorem SrI.has {D:Dd}{f c:Nat}{tg:Nat->List Nat}(h:SrI D f c tg) {t:Nat}(ht:t<D.n):(tg t).getLast?=some f↔f∈tg t:=zgX (h.inc t ht) (h.le ht)
theorem SrI.skip {D:Dd}{f c:Nat}{tg:Nat->List Nat}(h:SrI D f c tg) (hx:D.nx f c<0\/∃t:Nat,D.nx f c=(t:Int)/\t<D.n/\f∈tg t):SrI D f (c+1) tg:=by
 refine⟨fun t ht x=>?_,h.inc⟩
 rw[h.mem t ht]
 constructor
 ·rintro (h1|⟨h1,h2,c',h3,h4⟩)
  ·exact Or.inl h1
  ·exact Or.inr ⟨h1,h2,c',by omega,h4⟩
 ·rintro (h1|⟨h1,h2,c',h3,h4⟩)
  ·exact Or.inl h1
  ·by_cases e:c'=c
   ·subst e
    rcases hx with hx|⟨t',e',ht',hm⟩
    ·omega
    ·have:t'=t:=by omega
     subst this
     have:=(h.mem t' ht f).1 hm
     subst h1
     exact this
   ·exact Or.inr ⟨h1,h2,c',by omega,h4⟩
theorem SrI.put {D:Dd}{f c t:Nat}{tg:Nat->List Nat}(h:SrI D f c tg) (hf:f<D.n) (hx:D.nx f c=(t:Int)) (ht:t<D.n) (hm:f∉tg t):SrI D f (c+1) (fun j=>if j=t then tg t++[f] else tg j):=by
 refine⟨fun t' ht' x=>?_,fun t' ht'=>?_⟩
 ·by_cases e:t'=t
  ·subst e
   show x∈(if t'=t' then tg t'++[f] else tg t')↔_
   rw[if_pos rfl,List.mem_append,List.mem_singleton,h.mem t' ht']
   constructor
   ·rintro ((h1|⟨h1,h2,c',h3,h4⟩)|h1)
    ·exact Or.inl h1
    ·exact Or.inr ⟨h1,h2,c',by omega,h4⟩
    ·exact Or.inr ⟨h1,hf,c,by omega,hx⟩
   ·rintro (h1|⟨h1,h2,c',h3,h4⟩)
    ·exact Or.inl (Or.inl h1)
    ·exact Or.inr h1
  ·simp only[if_neg e]
   rw[h.mem t' ht']
   constructor
   ·rintro (h1|⟨h1,h2,c',h3,h4⟩)
    ·exact Or.inl h1
    ·exact Or.inr ⟨h1,h2,c',by omega,h4⟩
   ·rintro (h1|⟨h1,h2,c',h3,h4⟩)
    ·exact Or.inl h1
    ·by_cases e2:c'=c
     ·subst e2;omega
     ·exact Or.inr ⟨h1,h2,c',by omega,h4⟩
 ·by_cases e:t'=t
  ·subst e
   show List.Pairwise _ (if t'=t' then tg t'++[f] else tg t')
   rw[if_pos rfl,List.pairwise_append]
   refine⟨h.inc t' ht',by simp,fun a ha b hb=>?_⟩
   rw[List.mem_singleton.1 hb]
   have h1:=h.le ht' a ha
   have h2:a≠f:=fun e=>by rw[e] at ha;exact hm ha
   omega
  ·simp only[if_neg e]
   exact h.inc t' ht'
theorem SrI.row {D:Dd}{f c C:Nat}{tg:Nat->List Nat}(h:SrI D f c tg) (hf:f<D.n) (hc:D.len f=c):SrI D (f+1) 0 tg:=by
 refine⟨fun t ht x=>?_,h.inc⟩
 rw[h.mem t ht]
 constructor
 ·rintro (h1|⟨h1,h2,c',h3,h4⟩)
  ·exact Or.inl ⟨by omega,h1.2⟩
  ·subst h1
   exact Or.inl ⟨by omega,hf,c',by omega,h4⟩
 ·rintro (⟨h1,h2⟩|⟨_,_,c',h3,_⟩)
  ·by_cases e:x=f
   ·subst e
    obtain⟨_,c',h3,h4⟩:=h2
    exact Or.inr ⟨rfl,hf,c',by omega,h4⟩
   ·exact Or.inl ⟨by omega,h2⟩
  ·omega
def zkB (D:Dd) (w:World) (e:Ending) (w':World):Prop:=
 ∃(g:Nat) (A:Nat->Option Addr) (Cp:Nat->Nat) (tg:Nat->List Nat),e=.returned (.slice (some ⟨g,0,none⟩) D.n D.n)/\ZsAt w' (some ⟨g,0,none⟩) D.n A Cp (fun i=>(tg i).length) (fun i c=>(((tg i).getD c 0:Nat):Int))/\SrI D D.n 0 tg/\Below w.heap.size w w'
theorem TgAt.zs {w3 wq:World}{B gT C:Nat}{vs:Nat->Value}{tg:Nat->List Nat}(h:TgAt w3 B gT C vs tg wq):ZsAt wq (some ⟨gT,0,none⟩) C (fun i=>slA (vs i)) (fun i=>slC (vs i)) (fun i=>(tg i).length) (fun i c=>(((tg i).getD c 0:Nat):Int)):=by
 intro h0
 have hlt:gT<wq.heap.size:=by
  have:=(h.grid.cell 0 h0).1
  by_cases hb:gT<wq.heap.size
  ·exact hb
  ·simp[World.cell?,Array.getElem?_eq_none (by omega:wq.heap.size<=gT)] at this
 refine⟨gT,0,rfl,hlt,fun i hi=>?_⟩
 obtain⟨ai,ci,e⟩:=zaa (h.grid.2.1 i hi)
 have hr:=h.grid.2.1 i hi
 refine⟨?_,?_⟩
 ·rw[Nat.zero_add,(h.grid.cell i hi).1]
  simp[e,slA,slC]
 ·show ZAt wq (slA (vs i)) _ _
  rw[e] at hr⊢
  exact za7 hr rfl
theorem zgY (D:Dd) (C:Nat) (w:World) (hD:DM w D) (hR:DR D C):
  Calls Tryz.prog 123 #[.agg D.cD] w (zkB D w):=by
 have hmk:=zfq D.n (by have:=hR.n2;omega)
 have hn2:=hR.n2
 have hn1:=hR.n1
 have hC6:=(hR.c256 hD.kl).2
 have HB:=hid (And.intro (DBx.new hD) (And.intro (al w (.cells D.cD 39)) hR))
 obtain⟨iI,hI,hI0,hI1,hI2⟩:=info_parts Tryz.info_int9
 clear hD hR
 go_enter Tryz.func123,Tryz.ntmps123
 go_upto_region 1 with fail
 generalize w.alloc (.cells D.cD 39)=W0 at HB⊢
 obtain⟨b0,hb0⟩:∃b0,w.heap.size=b0:=⟨_,rfl⟩
 rw[hb0] at HB
 rw[hb0]
 have Hb0:=hid hb0
 clear hb0
 have f1:=HB.out.1.f1
 have hT0:TgAt (W0.alloc (.cells (madeCells #[.slice none 0 0] D.n) 30)) W0.heap.size W0.heap.size D.n (fun _=>.slice none 0 0) (fun _=>[]) (W0.alloc (.cells (madeCells #[.slice none 0 0] D.n) 30)):=TgAt.made W0 W0.heap.size D.n _ (Nat.le_refl _) (Below.refl _ _)
 have HT0:=hid hT0
 have HK0:=hid (al W0 (.cells (madeCells #[.slice none 0 0] D.n) 30))
 clear hT0
 go_upto_region 2 with fail
 obtain⟨gT,hgT⟩:∃gT,W0.heap.size=gT:=⟨_,rfl⟩
 have HgT:=hid hgT
 rw[hgT] at HT0
 rw[hgT]
 generalize W0.alloc (.cells (madeCells #[.slice none 0 0] D.n) 30)=W1 at HT0 HK0⊢
 clear hgT f1
 have HBx1:=hid (HB.out.1.keep HK0.out)
 have f1:=HBx1.out.f1
 obtain⟨gN,oN,eN,hgN,cN0⟩:=HBx1.out.dm.rN (by omega)
 rw[eN] at f1
 have HeN:=hid eN
 have HcN:=hid cN0
 clear eN cN0
 go_wp2_with fail
 clear f1
 go_loopw [4,5,7,15,22] (fun _ _ _ v _ wr=>∃(f:Nat) (vs:Nat->Value) (tg:Nat->List Nat),v=.int .i64 f/\f<=D.n/\Hid (TgAt W1 gT gT D.n vs tg wr/\SrI D f 0 tg)) (fun _ _ _ v _ _=>D.n-(intOf v).toNat)
 case atStart=>exact⟨0,_,_,rfl,by omega,⟨HT0.out,SrI.start D⟩⟩
 case round=>
  clear HT0
  obtain⟨f,vs,tg,rfl,hf,HX⟩:=hrel
  by_cases hlt:f<D.n
  ·have hb1:gN<gT:=by
    obtain⟨g,o,e,hg,_⟩:=HB.out.1.dm.rN (by omega)
    rw[HeN.out] at e
    injection e with e
    injection e with e _
    rw[HgT.out] at hg
    omega
   have cN:=(HX.out.1.below.cell (p:=⟨gN,oN+f,none⟩) hb1).trans (HcN.out f hlt).1
   have HZn:Hid (ZAt W0 (D.A f) (D.len f) (D.nx f)):=by
    obtain⟨_,_,_,_,c9⟩:=HB.out.1.dm.rN (by omega)
    exact (c9 f hlt).2
   have hlen:=HB.out.2.2.len f hlt
   rw[hlen] at cN
   rw[hlen] at HZn
   have HLen:=hid hlen
   have i1:(f:Int)<(D.n:Int):=by omega
   try dsimp only at cN
   clear hlen hb1
   go_wp2_with fail
   clear cN
   go_loopw [7,22] (fun _ v wr=>∃(c:Nat) (vs:Nat->Value) (tg:Nat->List Nat),v=.int .i64 c/\c<=C/\Hid (TgAt W1 gT gT D.n vs tg wr/\SrI D f c tg)) (fun _ v _=>C-(intOf v).toNat)
   case atStart=>exact⟨0,vs,tg,rfl,by omega,HX⟩
   case round=>
    clear HX
    obtain⟨c,vs,tg,rfl,hc,HX⟩:=hrel
    have HBW:Hid (Below W0.heap.size W0 wr):=by
     have h:=HX.out.1.below
     rw[<-HgT.out] at h
     exact HK0.out.trans h
    by_cases hlc:c<C
    ·obtain⟨gA,oA,eA,_,cA0⟩:=(HZn.out.below HBW.out) (by omega)
     have cA:=cA0 c hlc
     have hb:=HB.out.2.2.nx f c hlt hlc
     have HSk:=hid (fun h=>HX.out.2.skip h)
     have HPu:=hid (fun (t:Nat) h1 h2 h3=>HX.out.2.put (t:=t) hlt h1 h2 h3)
     have i2:(c:Int)<(C:Int):=by omega
     rw[eA]
     have HeA:=hid eA
     clear cA0 eA
     generalize D.nx f c=t at cA hb HSk HPu
     by_cases ht:t=-1
     ·subst ht
      have HZ:=hid (HSk.out (Or.inl (by omega)))
      go_wp2_with fail
      go_roundw
      case rel=>exact⟨c+1,vs,tg,by go_num,by omega,⟨HX.out.1,HZ.out⟩⟩
      case measure=>simp[intOf];omega
     ·obtain⟨u,rfl⟩:∃u:Nat,t=(u:Int):=⟨t.toNat,by omega⟩
      have hu:u<D.n:=by omega
      have i3:(u:Int)<(D.n:Int):=by omega
      have ht2:((u:Int) != (-1:Int))=true:=by first|(simp;done)|(simp;omega)
      obtain⟨y0,y1⟩:=HX.out.1.grid.cell u hu
      have hro:=HX.out.1.grid.2.1 u hu
      obtain⟨au,cu,hvu⟩:=zaa hro
      have hll:(tg u).length<=D.n:=zkA (HX.out.2.inc u hu) (fun x hx=>by have:=HX.out.2.le hu x hx;omega)
      rw[hvu] at y0
      have hro2:=hro
      rw[hvu] at hro2
      have HEn:=hid (zf3 (tg u) f (tg u).length cu au rfl (by omega) wr (za7 hro2 rfl))
      have Hvu:=hid hvu
      clear hro hro2 hvu ht
      obtain⟨q,hq⟩:∃q,(tg u).length=q:=⟨_,rfl⟩
      have Hq:=hid hq
      dsimp only at y0
      rw[hq] at y0 HEn hll
      clear hq
      go_wp2_with fail
      refine HEn.out.mono ?_
      rintro e w5 ⟨b,rfl,hbo,k5⟩
      have HT5:=hid (HX.out.1.keep k5)
      have Hbo:Hid (b=true↔f∈tg u):=by
       show _↔_
       rw[hbo,HX.out.2.has hu]
      clear hbo k5 HEn y0 y1
      rcases b with _|_
      ·have HN:Hid (f∉tg u):=fun h=>by have:=Hbo.out.2 h;cases this
       have HZ:=hid (HPu.out u rfl hu HN.out)
       obtain⟨y0,y1⟩:=HT5.out.grid.cell u hu
       rw[Hvu.out] at y0
       have hO:=HT5.out.grid.2.1 u hu
       dsimp only at hO y0
       rw[Hvu.out,Hq.out] at hO
       rw[Hq.out] at y0
       go_wp2_with (at_builtin;refine wpList_append_own_at _ rfl _ _ 30 rfl W1.heap.size 3 iI (.int .i64 0) 1 8 Tryz.underlying30 hI hI0 hI1 hI2 rfl (by decide) _ _ _ rfl (hO.alloc _) ⟨w5.heap.size,0,none⟩ 1 1 [.int .i64 (f:Int)] rfl rfl (cell_one_new _ _ _) ?d2 ?d3 ?d4 ?d5 ?_)
       case d2=>first|(intro u hu;simp at hu;subst hu;rfl)|rfl
       case d3=>unfold maxLen;omega
       case d4=>omega
       case d5=>have:=HT5.out.below.size;simp;omega
       intro v6 w6 hown6 hgrow6 _ hat6
       have kk:=al w5 (.cells #[.int .i64 (f:Int)] 3)
       have HT6:=hid ((HT5.out.keep kk).app hu Hq.out (v':=v6) (t:=f) (by exact hown6) (by rw[Hvu.out,Hq.out];exact hgrow6) (fun b e=>by
        rcases hat6 with h|h
        ·rw[h] at e
         refine Or.inl ?_
         rw[Hvu.out,Hq.out]
         exact e
        ·rw[h] at e
         refine Or.inr ?_
         simp at e
         simp
         omega))
       obtain⟨a6,c6,rfl⟩:=zaa hown6
       have hg6:=hgrow6
       obtain⟨z0,z1⟩:w6.cell? ⟨gT,u,none⟩=some (vs u)/\w6.frozen? ⟨gT,u,none⟩=false:=by
        have hgr:=(HT5.out.keep kk).grid
        have hs:=hgr.1.grown_own (hgr.2.1 u hu) (by decide) (by rw[Hvu.out,Hq.out];exact hg6)
        exact⟨by rw[hs.at_];simp[hu],hs.thaw_ u⟩
       clear hown6 hgrow6 hat6 hO kk hg6 y0 y1
       go_wp2_with fail
       go_roundw
       case rel=>exact⟨c+1,_,_,by go_num,by omega,⟨HT6.out,HZ.out⟩⟩
       case measure=>simp[intOf];omega
      ·have HZ:=hid (HSk.out (Or.inr ⟨u,rfl,hu,Hbo.out.1 rfl⟩))
       go_wp2_with fail
       go_roundw
       case rel=>exact⟨c+1,vs,tg,by go_num,by omega,⟨HT5.out,HZ.out⟩⟩
       case measure=>simp[intOf];omega
    ·obtain rfl:c=C:=by omega
     have HZ:=hid (HX.out.2.row (C:=c) hlt HLen.out)
     go_wp2_with fail
     go_roundw
     case rel=>exact⟨f+1,vs,tg,by go_num,by omega,⟨HX.out.1,HZ.out⟩⟩
     case measure=>simp[intOf];omega
  ·obtain rfl:f=D.n:=by omega
   have HF:Hid (zkB D w (.returned (.slice (some ⟨gT,0,none⟩) D.n D.n)) wr):=by
    refine⟨gT,_,_,tg,rfl,HX.out.1.zs,HX.out.2,?_⟩
    have h:=HX.out.1.below
    rw[<-HgT.out] at h
    have h0:=HB.out.2.1
    rw[<-Hb0.out] at h0
    exact h0.trans ((HK0.out.trans h).mono h0.size)
   go_wp2_with fail
   go_ret
   exact HF.out
theorem zoA {D:Dd}{C s:Nat}(hR:DR D C) (hs:s<D.n) (x:Nat):Rch (WE (rowsF D.len D.nx)) (fun y=>y∈[s]) x↔Rch (Ed D) (fun y=>y=s) x:=by
 have mem:∀x y,WE (rowsF D.len D.nx) x y↔∃c,c<D.len x/\D.nx x c=(y:Int):=fun x y=>by
  unfold WE rowsF
  simp
 constructor
 ·intro h
  have:Rch (Ed D) (fun y=>y=s) x/\x<D.n:=by
   induction h with
   | base h=>
    have e:=List.mem_singleton.1 h
    subst e
    exact⟨.base rfl,hs⟩
   | step _ e ih=>
    have h2:Ed D _ _:=⟨ih.2,(mem _ _).1 e⟩
    exact⟨.step ih.1 h2,hR.ed _ _ h2⟩
  exact this.1
 ·intro h
  induction h with
  | base h=>subst h;exact .base (by simp)
  | step _ e ih=>exact .step ih ((mem _ _).2 e.2)
theorem zgZ (D:Dd) (C:Nat) (s:Int) (w:World) (hD:DM w D) (hR:DR D C):
  Calls Tryz.prog 71 #[.agg D.cD,.int .i64 s] w (zdQ D.n (RcI D s) w):=by
 have hmk:=zgg D.n (by have:=hR.n2;omega)
 have hn2:=hR.n2
 have hn1:=hR.n1
 have hC6:=(hR.c256 hD.kl).2
 have HB:=hid (And.intro (DBx.new hD) (And.intro (al w (.cells D.cD 39)) hR))
 clear hD hR
 go_enter Tryz.func71,Tryz.ntmps71
 go_upto_region 1 with fail
 generalize w.alloc (.cells D.cD 39)=W0 at HB⊢
 obtain⟨b0,hb0⟩:∃b0,w.heap.size=b0:=⟨_,rfl⟩
 rw[hb0] at HB
 rw[hb0]
 have Hb0:=hid hb0
 have hb9:b0<=W0.heap.size:=by have:=HB.out.2.1.size;omega
 clear hb0
 have HRy:=hid (zbH D C HB.out.2.2 W0 HB.out.1.dm)
 go_wp2_with (refine zad (by rfl) 39 _ rfl ⟨b0,0,none⟩ rfl D.cD _ HB.out.1.st.part Tryz.underlying39 rfl HB.out.1.dm.info ?_)
 refine HRy.out.mono ?_
 rintro e w1 ⟨rfl,b1⟩
 have H1:=hid (And.intro (HB.out.1.keep b1) (HB.out.2.1.trans (b1.mono hb9)))
 have hb1:b0<=w1.heap.size:=by have:=b1.size;omega
 have HEx:=hid (zbG D s w1 H1.out.1.dm)
 clear b1 HRy
 go_wp2_with (refine zad (by rfl) 39 _ rfl ⟨b0,0,none⟩ rfl D.cD _ H1.out.1.st.part Tryz.underlying39 rfl H1.out.1.dm.info ?_)
 refine HEx.out.mono ?_
 rintro e w2 ⟨rfl,b2⟩
 have H2:=hid (And.intro (H1.out.1.keep b2) (H1.out.2.trans (b2.mono hb1)))
 have hb2:b0<=w2.heap.size:=by have:=b2.size;omega
 have HFin:Hid (∀W',Below w2.heap.size w2 W'->Below w.heap.size w W'):=fun W' h=>by
  rw[Hb0.out]
  exact H2.out.2.trans (h.mono hb2)
 have hw2:Hid (w.heap.size<=w2.heap.size):=by show _<=_;rw[Hb0.out];exact hb2
 have f1:=H2.out.1.f1
 clear b2 HEx
 by_cases hs:0<=s/\s<(D.n:Int)
 rotate_left
 ·have HZ:Hid (decide (0<=s/\s<(D.n:Int))=false):=by show _=_;simp;omega
  have HO:=hid (OB.made w2 D.n (by unfold maxLen;omega))
  rw[HZ.out]
  have HF:Hid (zdQ D.n (RcI D s) w (.returned (.slice (some ⟨w2.heap.size,0,none⟩) D.n D.n)) (w2.alloc (.cells (madeCells #[.bool false] D.n) 4))):=
   ⟨fun _=>false,_,_,rfl,zag HO.out.own hw2.out,fun x hx=>⟨(fun h=>by cases h),(fun h=>absurd ⟨h.1,h.2.1⟩ hs)⟩,HFin.out _ HO.out.bel⟩
  clear HO
  go_wp2_with fail
  go_ret
  exact HF.out
 ·obtain⟨t,rfl⟩:∃t:Nat,s=(t:Int):=⟨s.toNat,by omega⟩
  have ht:t<D.n:=by omega
  have HZ:Hid (decide (0<=(t:Int)/\(t:Int)<(D.n:Int))=true):=by show _=_;simp;omega
  rw[HZ.out]
  clear hs
  have HSo:Hid (∀W',Below w2.heap.size w2 W'->Below w2.heap.size w2 W'/\DBx W' b0 D/\W'.cell? ⟨b0,256,none⟩=some (.slice D.aN D.n D.cN)):=fun W' h=>⟨h,H2.out.1.keep h,(H2.out.1.keep h).f1⟩
  clear f1
  go_upto_region 5 with fail
  refine wp_region_held_drew (S:=fun W'=>Below w2.heap.size w2 W'/\DBx W' b0 D/\W'.cell? ⟨b0,256,none⟩=some (.slice D.aN D.n D.cN)) (by kernel_rfl) (HSo.out _ (Below.refl _ _).drew) (fun hHeld=>?_)
  (refine tkA 0 ?_;refine tkA 1 ?_;refine tkA 2 ?_;refine tkA 3 ?_;refine tkA 4 ?_;refine tkA 5 ?_;try simp only[Act.put,sA,sB,sC])
  refine rd1 6 (fun K hK=>?_)
  ·skip
   go_simp
   have kk:=al w2.drew (.cells #[.int .i64 (t:Int)] 3)
   have hbn:Below w2.heap.size w2 ((w2.alloc (.cells #[.int .i64 (t:Int)] 3)).drew):=hHeld.1.trans (kk.mono hHeld.1.size)
   have HL6:Hid (LAt (w2.alloc (.cells #[.int .i64 (t:Int)] 3)).drew (some ⟨w2.heap.size,0,none⟩) [t]):=za7 (zbM w2.drew w2.drew.heap.size 3 1 #[.int .i64 (t:Int)] 1 rfl (Nat.le_refl _) (by decide)) rfl
   clear kk
   refine hK.out _ _ (HSo.out _ hbn) (fun hHeld=>?_)
   generalize (w2.alloc (.cells #[.int .i64 (t:Int)] 3)).drew=W6 at HL6 hHeld⊢
   clear hK K hbn
   try simp only[Act.put,sA,sB,sC]
   refine rd1 7 (fun K hK=>?_)
   ·skip
    go_simp
    go_at_call 85
    refine (zfc D.n D.cN D.aN D.A D.Cp D.len D.nx [t] (some ⟨w2.heap.size,0,none⟩) 1 1 (by omega) (fun i hi=>by rw[HB.out.2.2.len i hi];omega) (fun i c hi hc=>HB.out.2.2.nx i c hi (by rw[<-HB.out.2.2.len i hi];exact hc)) rfl (by simp) (fun x hx=>by rw[List.mem_singleton.1 hx];exact ht) W6 hHeld.2.1.dm.rN HL6.out (fun h=>by cases h) (fun ad h=>by injection h with h;rw[<-h])).mono ?_
    rintro e w7 ⟨l,i,ad,c,rfl,ho7,hl3,hl1,hin,hl2,b7⟩
    have hbn:Below w2.heap.size w2 w7:=hHeld.1.trans (b7.mono hHeld.1.size)
    have HW7:=hid (And.intro ho7 hbn)
    clear ho7 b7
    try go_wp2_with fail
    refine hK.out _ _ (HSo.out _ hbn) (fun hHeld=>?_)
    clear hK K hbn
    try simp only[Act.put,sA,sB,sC]
    refine rd1 8 (fun K hK=>?_)
    ·skip
     go_simp
     go_at_call 106
     refine (zdR D.n l ad i c hl1 (by omega) (by omega) hl2 _ (za7 HW7.out.1 hl1)).mono ?_
     rintro e w8 ⟨f8,a8,c8,rfl,ho8,hf8,b8⟩
     have hbn:Below w2.heap.size w2 w8:=HW7.out.2.trans (b8.mono HW7.out.2.size)
     have hsz7:=HW7.out.2.size
     have HF:Hid (zdQ D.n (RcI D (t:Int)) w (.returned (.slice a8 D.n c8)) w8):=⟨f8,a8,c8,rfl,zag ho8 (Nat.le_trans hw2.out hsz7),fun x hx=>by
      rw[hf8 x hx]
      show x∈l↔_
      rw[hl3,zgW _ _ (by rw[<-hl3];exact hl1),zoA HB.out.2.2 ht]
      exact⟨fun h=>⟨by omega,by omega,by simpa using h⟩,fun h=>by simpa using h.2.2⟩,HFin.out _ hbn⟩
     clear ho8 hf8 b8
     try go_wp2_with fail
     refine hK.out _ _ (HSo.out _ hbn) (fun hHeld=>?_)
     clear hK K hbn
     try simp only[Act.put,sA,sB,sC]
     (refine tkA 9 ?_;try simp only[Act.put,sA,sB,sC])
     refine wpAnyH_done (by kernel_rfl) ?_ _
     clear hHeld
     go_wp2_with fail
     go_ret
     exact HF.out
theorem zl5 {w:World}{B q c:Nat}{a:Option Addr}{xs:List Value}(h:w.ownsRow B 3 1 (.slice a q c) q xs) (ha:a=none):q=0/\c=0:=by
 subst ha
 rcases h.2 with ⟨h1,h2⟩|⟨g,cap,cur,hv,_⟩
 ·injection h1 with _ h3 h4
  exact⟨h3,h4⟩
 ·injection hv with h1 _ _
  cases h1
theorem zl6 {w:World}{B q c:Nat}{a:Option Addr}{ad:Addr}{xs:List Value}(h:w.ownsRow B 3 1 (.slice a q c) q xs) (ha:a=some ad):ad.spot=none:=by
 subst ha
 rcases h.2 with ⟨h1,h2⟩|⟨g,cap,cur,hv,_⟩
 ·injection h1 with h3 _ _
  cases h3
 ·injection hv with h1 _ _
  injection h1 with h1
  rw[h1]
theorem znM {D:Dd}{tg:Nat->List Nat}(h:SrI D D.n 0 tg) (i:Nat) (hi:i<D.n):(tg i).length<=D.n:=zkA (h.inc i hi) (fun x hx=>by
 rcases (h.mem i hi x).1 hx with h1|⟨_,_,c',h3,_⟩
 ·exact h1.1
 ·omega)
theorem zot {D:Dd}{tg:Nat->List Nat}(h:SrI D D.n 0 tg) (i c:Nat) (hi:i<D.n) (hc:c<(tg i).length):-1<=(((tg i).getD c 0:Nat):Int)/\(((tg i).getD c 0:Nat):Int)<(D.n:Int):=by
 have e:(tg i).getD c 0=(tg i)[c]:=by simp[List.getD_eq_getElem?_getD,hc]
 rw[e]
 rcases (h.mem i hi _).1 (List.getElem_mem hc) with h1|⟨_,_,c',h3,_⟩
 ·have:=h1.1;omega
 ·omega
theorem znN {D:Dd}{C:Nat}{tg:Nat->List Nat}{l:List Nat}(hR:DR D C) (h:SrI D D.n 0 tg) (hl:∀x,x∈l↔x<D.n/\0<=D.q x) (x:Nat) (hx:x<D.n):Rch (WE (rowsF (fun i=>(tg i).length) (fun i c=>(((tg i).getD c 0:Nat):Int)))) (fun y=>y∈l) x↔Alv D x:=by
 have mem:∀x y,WE (rowsF (fun i=>(tg i).length) (fun i c=>(((tg i).getD c 0:Nat):Int))) x y↔y∈tg x:=fun x y=>by
  unfold WE rowsF
  constructor
  ·intro h
   obtain⟨c,hc,e⟩:=List.mem_map.1 h
   have hc2:c<(tg x).length:=by simpa using hc
   have e2:(tg x).getD c 0=(tg x)[c]:=by simp[List.getD_eq_getElem?_getD,hc2]
   have e1:(((tg x).getD c 0:Nat):Int)=(y:Int):=e
   have e3:(tg x)[c]=y:=by rw[<-e2];omega
   rw[<-e3];exact List.getElem_mem hc2
  ·intro h
   obtain⟨c,hc,e⟩:=List.getElem_of_mem h
   refine List.mem_map.2 ⟨c,by simpa using hc,?_⟩
   simp[List.getD_eq_getElem?_getD,hc,e]
 have ed:∀x,x<D.n->∀y,y∈tg x↔Ed D y x:=fun x hx y=>by
  rw[h.mem x hx]
  constructor
  ·rintro (h1|⟨_,_,c',h3,_⟩)
   ·exact h1.2
   ·omega
  ·exact fun h1=>Or.inl ⟨h1.1,h1⟩
 have e1:Rch (WE (rowsF (fun i=>(tg i).length) (fun i c=>(((tg i).getD c 0:Nat):Int)))) (fun y=>y∈l) x↔Rch (fun a b=>Ed D b a) (fun y=>y<D.n/\0<=D.q y) x:=by
  constructor
  ·intro h
   have:Rch (fun a b=>Ed D b a) (fun y=>y<D.n/\0<=D.q y) x/\x<D.n:=by
    clear hx
    induction h with
    | base h=>exact⟨.base ((hl _).1 h),((hl _).1 h).1⟩
    | step _ e ih=>
     have h2:=(ed _ ih.2 _).1 ((mem _ _).1 e)
     exact⟨.step ih.1 h2,h2.1⟩
   exact this.1
  ·intro h
   have:Rch (WE (rowsF (fun i=>(tg i).length) (fun i c=>(((tg i).getD c 0:Nat):Int)))) (fun y=>y∈l) x/\x<D.n:=by
    clear hx
    induction h with
    | base h=>exact⟨.base ((hl _).2 h),h.1⟩
    | step _ e ih=>exact⟨.step ih.1 ((mem _ _).2 ((ed _ ih.2 _).2 e)),e.1⟩
   exact this.1
 rw[e1,zl1]
 constructor
 ·rintro⟨k,h1,h2⟩;exact⟨k,h1,h2.2⟩
 ·rintro⟨k,h1,h2⟩
  exact⟨k,h1,Rch.lt (fun y hy=>by rw[hy];exact hx) hR.ed h1,h2⟩
theorem zkC (D:Dd) (C:Nat) (w:World) (hD:DM w D) (hR:DR D C):
  Calls Tryz.prog 88 #[.agg D.cD] w (zdQ D.n (Alv D) w):=by
 have hn2:=hR.n2
 have hn1:=hR.n1
 have hmn:=hR.m
 have hC6:=(hR.c256 hD.kl).2
 have HB:=hid (And.intro (DBx.new hD) (And.intro (al w (.cells D.cD 39)) hR))
 obtain⟨iI,hI,hI0,hI1,hI2⟩:=info_parts Tryz.info_int9
 clear hD hR
 go_enter Tryz.func88,Tryz.ntmps88
 go_upto_region 1 with fail
 generalize w.alloc (.cells D.cD 39)=W0 at HB⊢
 obtain⟨b0,hb0⟩:∃b0,w.heap.size=b0:=⟨_,rfl⟩
 rw[hb0] at HB
 rw[hb0]
 have Hb0:=hid hb0
 have hb9:b0<=W0.heap.size:=by have:=HB.out.2.1.size;omega
 clear hb0
 have HRy:=hid (zbH D C HB.out.2.2 W0 HB.out.1.dm)
 go_wp2_with (refine zad (by rfl) 39 _ rfl ⟨b0,0,none⟩ rfl D.cD _ HB.out.1.st.part Tryz.underlying39 rfl HB.out.1.dm.info ?_)
 refine HRy.out.mono ?_
 rintro e w2 ⟨rfl,b1⟩
 have H2:=hid (And.intro (HB.out.1.keep b1) (HB.out.2.1.trans (b1.mono hb9)))
 have hb2:b0<=w2.heap.size:=by have:=b1.size;omega
 clear b1 HRy
 have HFin:Hid (∀W',Below w2.heap.size w2 W'->Below w.heap.size w W'):=fun W' h=>by
  rw[Hb0.out]
  exact H2.out.2.trans (h.mono hb2)
 have hw2:Hid (w.heap.size<=w2.heap.size):=by show _<=_;rw[Hb0.out];exact hb2
 have f2:=H2.out.1.f2
 obtain⟨gM,oM,eM,hgM,cM0⟩:=H2.out.1.dm.rM (by omega)
 rw[eM,hmn] at f2
 have HcM:=hid cM0
 have HeM:=hid eM
 have Hmn:=hid hmn
 clear eM cM0 hmn
 go_wp2_with fail
 clear f2
 go_loopw [3,4,5,12] (fun v3 _ _ v wr=>∃(k p:Nat) (l:List Nat) (a:Option Addr) (c:Nat),v=.int .i64 k/\k<=D.n/\p<=k/\v3=.slice a p c/\Hid (l.length=p/\l.Nodup/\(∀x,x∈l↔x<k/\0<=D.q x)/\wr.ownsRow w2.heap.size 3 1 (.slice a p c) p (zai l)/\Below w2.heap.size w2 wr)) (fun _ _ _ v _=>D.n-(intOf v).toNat)
 case atStart=>exact⟨0,0,[],none,0,rfl,by omega,by omega,rfl,⟨rfl,by simp,fun x=>by simp,World.ownsRow_nil _ _ _ _,Below.refl _ _⟩⟩
 case round=>
  obtain⟨k,p,l,a,c,rfl,hk,hp,rfl,HX⟩:=hrel
  by_cases hlt:k<D.n
  ·have cM:=(HX.out.2.2.2.2.cell (p:=⟨gM,oM+k,none⟩) hgM).trans (HcM.out k (by rw[Hmn.out];exact hlt))
   have hq:=HB.out.2.2.q k hlt
   have i1:(k:Int)<(D.n:Int):=by omega
   have HS:Hid (∀l',(l'=l/\D.q k<0)\/(l'=l++[k]/\0<=D.q k)->l'.Nodup/\∀x,x∈l'↔x<k+1/\0<=D.q x):=fun l' h=>by
    rcases h with ⟨rfl,h⟩|⟨rfl,h⟩
    ·refine⟨HX.out.2.1,fun x=>?_⟩
     rw[HX.out.2.2.1]
     constructor
     ·rintro⟨h1,h2⟩;exact⟨by omega,h2⟩
     ·rintro⟨h1,h2⟩
      by_cases e:x=k
      ·subst e;omega
      ·exact⟨by omega,h2⟩
    ·refine⟨?_,fun x=>?_⟩
     ·rw[List.nodup_append]
      exact⟨HX.out.2.1,by simp,fun a ha b hb e=>by
       rw[List.mem_singleton.1 hb] at e
       rw[e] at ha
       have:=((HX.out.2.2.1 k).1 ha).1
       omega⟩
     ·rw[List.mem_append,List.mem_singleton,HX.out.2.2.1]
      constructor
      ·rintro (⟨h1,h2⟩|h1)
       ·exact⟨by omega,h2⟩
       ·subst h1;exact⟨by omega,h⟩
      ·rintro⟨h1,h2⟩
       by_cases e:x=k
       ·exact Or.inr e
       ·exact Or.inl ⟨by omega,h2⟩
   try dsimp only at cM
   generalize D.q k=y at cM hq HS
   by_cases hy:y=-1
   ·subst hy
    have HZ:=hid (HS.out l (Or.inl ⟨rfl,by omega⟩))
    go_wp2_with fail
    go_roundw
    case rel=>exact⟨k+1,p,l,a,c,by go_num,by omega,by omega,rfl,⟨HX.out.1,HZ.out.1,HZ.out.2,HX.out.2.2.2.1,HX.out.2.2.2.2⟩⟩
    case measure=>simp[intOf];omega
   ·have HZ:=hid (HS.out (l++[k]) (Or.inr ⟨rfl,by omega⟩))
    have hy2:(y != (-1:Int))=true:=by simp[hy]
    have hO:=HX.out.2.2.2.1
    go_wp2_with (at_builtin;refine wpList_append_own_at _ rfl _ _ 30 rfl w2.heap.size 3 iI (.int .i64 0) 1 8 Tryz.underlying30 hI hI0 hI1 hI2 rfl (by decide) _ _ _ rfl (hO.alloc _) ⟨wr.heap.size,0,none⟩ 1 1 [.int .i64 (k:Int)] rfl rfl (cell_one_new _ _ _) ?d2 ?d3 ?d4 ?d5 ?_)
    case d2=>first|(intro u hu;simp at hu;subst hu;rfl)|rfl
    case d3=>unfold maxLen;omega
    case d4=>omega
    case d5=>have:=HX.out.2.2.2.2.size;simp;omega
    intro v5 w5 hown5 hgrow5 _ hat5
    obtain⟨a5,c5,rfl⟩:=zaa hown5
    have hs2:=HX.out.2.2.2.2.size
    have kk:=al wr (.cells #[.int .i64 (k:Int)] 3)
    have HY:Hid (w5.ownsRow w2.heap.size 3 1 (.slice a5 (p+1) c5) (p+1) (zai (l++[k]))/\Below w2.heap.size w2 w5):=⟨by rw[zaL];exact hown5,zac (HX.out.2.2.2.2.trans (kk.mono hs2)) (hO.alloc _) (Nat.le_trans hs2 kk.size) hgrow5⟩
    clear hown5 hgrow5 hat5 hO kk
    go_wp2_with fail
    go_roundw
    case rel=>exact⟨k+1,p+1,l++[k],a5,c5,by go_num,by omega,by omega,rfl,⟨by rw[List.length_append,HX.out.1];rfl,HZ.out.1,HZ.out.2,HY.out.1,HY.out.2⟩⟩
    case measure=>simp[intOf];omega
  ·obtain rfl:k=D.n:=by omega
   have HBW:=hid (H2.out.1.keep HX.out.2.2.2.2)
   have HFw:=hid (fun (W':World) (h:Below wr.heap.size wr W')=>HFin.out W' (HX.out.2.2.2.2.trans (h.mono HX.out.2.2.2.2.size)))
   have hww:Hid (w.heap.size<=wr.heap.size):=Nat.le_trans hw2.out HX.out.2.2.2.2.size
   have HSo:Hid (∀W',Below wr.heap.size wr W'->Below wr.heap.size wr W'/\DBx W' b0 D/\W'.cell? ⟨b0,256,none⟩=some (.slice D.aN D.n D.cN)):=fun W' h=>⟨h,HBW.out.keep h,(HBW.out.keep h).f1⟩
   go_upto_region 10 with fail
   refine wp_region_held_drew (S:=fun W'=>Below wr.heap.size wr W'/\DBx W' b0 D/\W'.cell? ⟨b0,256,none⟩=some (.slice D.aN D.n D.cN)) (by kernel_rfl) (HSo.out _ (Below.refl _ _).drew) (fun hHeld=>?_)
   (refine tkA 0 ?_;refine tkA 1 ?_;refine tkA 2 ?_)
   (refine tkA 3 (v:=.agg D.cD) ?_ (hy:=by intro wz hSw;exact zar (o:=_) (ρ:=_) wz 39 (.tmp 1) rfl ⟨b0,0,none⟩ rfl D.cD _ (DBx.st (And.left (And.right hSw))).part Tryz.underlying39 rfl (DBx.dm (And.left (And.right hSw))).info))
   (refine tkA 5 ?_;try simp only[Act.put,sA,sB,sC])
   refine rd1 4 (fun K hK=>?_)
   ·skip
    go_simp
    go_at_call 123
    refine (zgY D C _ hHeld.2.1.dm HB.out.2.2).mono ?_
    rintro e w5 ⟨gS,AS,CS,tg,rfl,hS5,hSr,b5⟩
    have hB5:Below wr.heap.size wr w5:=hHeld.1.trans (b5.mono hHeld.1.size)
    clear b5
    try go_wp2_with fail
    refine hK.out _ _ (HSo.out _ hB5) (fun hHeld=>?_)
    clear hK K
    try simp only[Act.put,sA,sB,sC]
    refine rd1 6 (fun K hK=>?_)
    ·skip
     go_simp
     go_at_call 85
     refine (zfc D.n D.n (some ⟨gS,0,none⟩) AS CS (fun i=>(tg i).length) (fun i c=>(((tg i).getD c 0:Nat):Int)) l a p c (by omega) (fun i hi=>by have:=znM hSr i hi;omega) (fun i c hi hc=>zot hSr i c hi hc) HX.out.1 HX.out.2.1 (fun x hx=>((HX.out.2.2.1 x).1 hx).1) w5 hS5 (LAt.below (za7 HX.out.2.2.2.1 HX.out.1) hB5) (fun h=>zl5 HX.out.2.2.2.1 h) (fun ad h=>zl6 HX.out.2.2.2.1 h)).mono ?_
     rintro e w7 ⟨l9,i,ad,c9,rfl,ho7,hl3,hl1,hin,hl2,b7⟩
     have hbn:Below wr.heap.size wr w7:=hB5.trans (b7.mono hB5.size)
     have HW7:=hid (And.intro ho7 hbn)
     clear ho7 b7
     try go_wp2_with fail
     refine hK.out _ _ (HSo.out _ hbn) (fun hHeld=>?_)
     clear hK K hbn
     try simp only[Act.put,sA,sB,sC]
     refine rd1 7 (fun K hK=>?_)
     ·skip
      go_simp
      go_at_call 106
      refine (zdR D.n l9 ad i c9 hl1 (by omega) (by omega) hl2 _ (za7 HW7.out.1 hl1)).mono ?_
      rintro e w8 ⟨f8,a8,c8,rfl,ho8,hf8,b8⟩
      have hbn:Below wr.heap.size wr w8:=HW7.out.2.trans (b8.mono HW7.out.2.size)
      have hsz7:=HW7.out.2.size
      have HF:Hid (zdQ D.n (Alv D) w (.returned (.slice a8 D.n c8)) w8):=⟨f8,a8,c8,rfl,zag ho8 (Nat.le_trans hww.out hsz7),fun x hx=>by
       rw[hf8 x hx]
       show x∈l9↔_
       rw[hl3,zgW _ _ (by rw[<-hl3];exact hl1)]
       exact znN HB.out.2.2 hSr (fun y=>HX.out.2.2.1 y) x hx,HFw.out _ hbn⟩
      clear ho8 hf8 b8
      try go_wp2_with fail
      refine hK.out _ _ (HSo.out _ hbn) (fun hHeld=>?_)
      clear hK K hbn
      try simp only[Act.put,sA,sB,sC]
      (refine tkA 8 ?_;try simp only[Act.put,sA,sB,sC])
      refine wpAnyH_done (by kernel_rfl) ?_ _
      clear hHeld
      go_wp2_with fail
      go_ret
      exact HF.out
def dfC (K:Nat->Nat) (vN vK:Value):Array Value:=(((List.range 256).map fun j=>Value.int .u8 ((K j:Nat):Int))++[vN,vK]).toArray
theorem zay (K:Nat->Nat) (vN vK:Value):(dfC K vN vK).size=258:=by simp[dfC]
theorem zb7 (K:Nat->Nat) (vN vK:Value) (j:Nat) (hj:j<256):(dfC K vN vK)[j]?=some (.int .u8 ((K j:Nat):Int)):=by
 simp[dfC,List.getElem?_append,hj]
theorem zbV (K:Nat->Nat) (vN vK:Value):(dfC K vN vK)[256]?=some vN:=by simp[dfC,List.getElem?_append]
theorem zci (K:Nat->Nat) (vN vK:Value):(dfC K vN vK)[257]?=some vK:=by simp[dfC,List.getElem?_append]
theorem zba (K:Nat->Nat) (a b:Option Addr) (n c m d:Nat):∀v∈(dfC K (.slice a n c) (.slice b m d)).toList,v.oneCell'=true:=by
 intro v hv
 simp[dfC] at hv
 rcases hv with ⟨j,_,rfl⟩|rfl|rfl <;> rfl
theorem zbW (K:Nat->Nat) (vN vK:Value) (cs:Array Value) (hs:cs.size=258) (h1:∀j,j<256->cs[j]?=some (.int .u8 ((K j:Nat):Int))) (h2:cs[256]?=some vN) (h3:cs[257]?=some vK):cs=dfC K vN vK:=by
 apply Array.ext_getElem?
 intro i
 by_cases a:i<256
 ·rw[h1 i a,zb7 K vN vK i a]
 ·by_cases b:i=256
  ·subst b;rw[h2,zbV]
  ·by_cases c:i=257
   ·subst c;rw[h3,zci]
   ·rw[Array.getElem?_eq_none (by omega),Array.getElem?_eq_none (by rw[zay];omega)]
theorem zhT (K:Nat->Nat) (vN vK v:Value):(dfC K vN vK).setIfInBounds 256 v=dfC K v vK:=by
 refine zbW K v vK _ (by rw[Array.size_setIfInBounds,zay]) (fun j hj=>?_) ?_ ?_
 ·rw[Array.getElem?_setIfInBounds_ne (by omega),zb7 K vN vK j hj]
 ·rw[Array.getElem?_setIfInBounds_self_of_lt (by rw[zay];omega)]
 ·rw[Array.getElem?_setIfInBounds_ne (by omega),zci]
theorem zfd (K:Nat->Nat) (vN vK v:Value):(dfC K vN vK).setIfInBounds 257 v=dfC K vN v:=by
 refine zbW K vN v _ (by rw[Array.size_setIfInBounds,zay]) (fun j hj=>?_) ?_ ?_
 ·rw[Array.getElem?_setIfInBounds_ne (by omega),zb7 K vN vK j hj]
 ·rw[Array.getElem?_setIfInBounds_ne (by omega),zbV]
 ·rw[Array.getElem?_setIfInBounds_self_of_lt (by rw[zay];omega)]
theorem zes (K:Nat->Nat) (W:World):(Instr.build 39 #[(0,.agg (clsOf K))]).run Tryz.prog W=.ok (.agg (dfC K (.slice none 0 0) (.slice none 0 0))) W:=by
 have e:Tryz.prog.built 39 [(0,.agg (clsOf K))]=Instr.fill (fun i=>#[(0,256),(256,1),(257,1)][i]?) (zC 39) [(0,.agg (clsOf K))]:=by kernel_rfl
 have hz:=zak
 have hs:=zbF K
 obtain⟨p1,p2⟩:=zaT (zC 39) (clsOf K) 0 (by rw[hz];omega)
 rw[za5 _ _ 0 0 256 (.agg (clsOf K)) [] (by rfl) hs (by rw[hz];omega)] at e
 obtain⟨d1,d2⟩:=zbs
 have e2:putAt (zC 39) (clsOf K) 0=dfC K (.slice none 0 0) (.slice none 0 0):=zbW _ _ _ _ (by rw[p1,hz]) (fun j hj=>by rw[p2,if_pos ⟨by omega,by omega⟩];exact zbx K j hj) (by rw[p2,if_neg (by omega),d1]) (by rw[p2,if_neg (by omega),d2])
 have e3:(Value.agg (clsOf K)).cells=clsOf K:=rfl
 rw[e3,e2] at e
 exact run_build W _ _ _ e
theorem zet (K:Nat->Nat) (a:Option Addr) (n c:Nat) (W:World):(Instr.build 39 #[(0,.agg (clsOf K)),(2,.slice a n c)]).run Tryz.prog W=.ok (.agg (dfC K (.slice none 0 0) (.slice a n c))) W:=by
 have e:Tryz.prog.built 39 [(0,.agg (clsOf K)),(2,.slice a n c)]=Instr.fill (fun i=>#[(0,256),(256,1),(257,1)][i]?) (zC 39) [(0,.agg (clsOf K)),(2,.slice a n c)]:=by kernel_rfl
 have hz:=zak
 have hs:=zbF K
 obtain⟨p1,p2⟩:=zaT (zC 39) (clsOf K) 0 (by rw[hz];omega)
 rw[za5 _ _ 0 0 256 (.agg (clsOf K)) _ (by rfl) hs (by rw[hz];omega)] at e
 obtain⟨d1,d2⟩:=zbs
 have e2:putAt (zC 39) (clsOf K) 0=dfC K (.slice none 0 0) (.slice none 0 0):=zbW _ _ _ _ (by rw[p1,hz]) (fun j hj=>by rw[p2,if_pos ⟨by omega,by omega⟩];exact zbx K j hj) (by rw[p2,if_neg (by omega),d1]) (by rw[p2,if_neg (by omega),d2])
 have e3:(Value.agg (clsOf K)).cells=clsOf K:=rfl
 rw[e3,e2] at e
 have hd:=zay K (.slice none 0 0) (.slice none 0 0)
 obtain⟨q1,q2⟩:=zaT (dfC K (.slice none 0 0) (.slice none 0 0)) #[.slice a n c] 257 (by rw[hd];simp)
 rw[za5 _ _ 2 257 1 (.slice a n c) [] (by rfl) (by rfl) (by rw[hd];omega)] at e
 have e4:putAt (dfC K (.slice none 0 0) (.slice none 0 0)) #[.slice a n c] 257=dfC K (.slice none 0 0) (.slice a n c):=by
  simp only[List.size_toArray,List.length_cons,List.length_nil] at q2
  refine zbW _ _ _ _ (by rw[q1,hd]) (fun j hj=>by rw[q2,if_neg (by omega),zb7 _ _ _ j hj]) (by rw[q2,if_neg (by omega),zbV]) (by rw[q2,if_pos (by omega)];rfl)
 have e5:(Value.slice a n c).cells=#[.slice a n c]:=rfl
 rw[e5,e4] at e
 exact run_build W _ _ _ e
structure TrA (W0:World) (b4:Nat) (K:Nat->Nat) (C:Nat) (vN:Value) (R:List (List Int)) (ws:Nat->Value) (vK:Value) (ms:List Int) (w:World):Prop where
 bel:Below W0.heap.size W0 w
 st:St w 39 b4 (dfC K vN vK)
 next:GridOw w W0.heap.size 30 3 1 vN R.length ws (fun _=>C) (fun j=>ints (R.getD j []))
 mks:w.ownsRow W0.heap.size 3 1 vK ms.length (ints ms)
 sep:∀i,i<R.length->∀b,(ws i).ownBlock=some b->vK.ownBlock≠some b
 lo:W0.heap.size<=b4
section
variable {W0 : World}{b4 C : Nat}{K : Nat → Nat}{vN : Value}{R : List (List Int)}{ws : Nat → Value}{vK : Value}{ms : List Int}{w : World}
theorem TrA.keep {w1:World}(h:TrA W0 b4 K C vN R ws vK ms w) (k:Below w.heap.size w w1):TrA W0 b4 K C vN R ws vK ms w1:=
 ⟨h.bel.trans (k.mono h.bel.size),h.st.keep k,h.next.keep k,zab h.mks k,h.sep,h.lo⟩
theorem TrA.f1 (h:TrA W0 b4 K C vN R ws vK ms w):w.cell? ⟨b4,256,none⟩=some vN:=by rw[h.st.at_,zbV]
theorem TrA.f2 (h:TrA W0 b4 K C vN R ws vK ms w):w.cell? ⟨b4,257,none⟩=some vK:=by rw[h.st.at_,zci]
theorem zbn {w:World}{B t n b4 i:Nat}{cs:Array Value}{v u:Value}{xs:List Value}(h:w.ownsRow B t 1 v n xs) (hs:St w 39 b4 cs) (ht:t≠39):(w.setCell ⟨b4,i,none⟩ u).ownsRow B t 1 v n xs:=
 zal (ts:=[]) (bs:=[b4]) h ((Kept.refl _ _ _).setCell _ _ (Or.inl (by simp))) (by simp) (fun b e hm=>zaq h hs ht b e (List.mem_singleton.1 hm))
theorem TrA.addRow {w':World}{vN' u:Value}{row:List Int}{q:Nat}(h:TrA W0 b4 K C vN R ws vK ms w) (hu:w.ownsRow W0.heap.size 3 1 u C (ints row)) (hs:∀i,i<R.length->∀b,(ws i).ownBlock=some b->u.ownBlock≠some b) (hs2:∀b,u.ownBlock=some b->vK.ownBlock≠some b) (hq:R.length=q)
  (ho:w'.ownsRow W0.heap.size 30 1 vN' (q+1) ((List.range q).map ws++[u])) (hg:w.grownBy w' vN.ownBlock):TrA W0 b4 K C vN' (R++[row]) (fun j=>if j=q then u else ws j) vK ms (w'.setCell ⟨b4,256,none⟩ vN'):=by
 subst hq
 have hst:St w' 39 b4 (dfC K vN vK):=h.st.grown_own h.next.own (by decide) hg
 have h1:GridOw w W0.heap.size 30 3 1 vN R.length ws (fun _=>C) (fun j=>ints ((R++[row]).getD j [])):=h.next.congr (fun i hi=>⟨rfl,by simp[List.getD_eq_getElem?_getD,List.getElem?_append_left hi]⟩)
 have h2:=h1.pushRow (v':=vN') (u:=u) (w':=w') (by decide) (by simpa [List.getD_eq_getElem?_getD] using hu) hs ho hg
 have hm:w'.ownsRow W0.heap.size 3 1 vK ms.length (ints ms):=zaG h.mks hg (fun b e e2=>zan h.mks h.next.own (by decide) b e e2.symm)
 refine⟨(zac h.bel h.next.own h.bel.size hg).setCell (p:=⟨b4,256,none⟩) h.lo _,?_,?_,zbn hm hst (by decide),?_,h.lo⟩
 ·have:=hst.set 256 vN'
  rwa [zhT] at this
 ·rw[List.length_append]
  exact⟨zbn h2.own hst (by decide),fun i hi=>zbn (h2.row i hi) hst (by decide),h2.sep⟩
 ·intro i hi b e
  by_cases e1:i=R.length
  ·rw[if_pos e1] at e
   exact hs2 b e
  ·rw[if_neg e1] at e
   exact h.sep i (by simp at hi;omega) b e
theorem TrA.addMark {w':World}{vK':Value}{m:Int}{q:Nat}(h:TrA W0 b4 K C vN R ws vK ms w) (hq:ms.length=q)
  (ho:w'.ownsRow W0.heap.size 3 1 vK' (q+1) (ints ms++[.int .i64 m])) (hg:w.grownBy w' vK.ownBlock) (hat:vK'.ownBlock=vK.ownBlock\/vK'.ownBlock=some w.heap.size):
  TrA W0 b4 K C vN R ws vK' (ms++[m]) (w'.setCell ⟨b4,257,none⟩ vK'):=by
 subst hq
 have hst:St w' 39 b4 (dfC K vN vK):=h.st.grown_own h.mks (by decide) hg
 have hG:GridOw w' W0.heap.size 30 3 1 vN R.length ws (fun _=>C) (fun j=>ints (R.getD j [])):=
  ⟨zaG h.next.own hg (fun b e e2=>zan h.next.own h.mks (by decide) b e e2.symm),fun i hi=>zaG (h.next.row i hi) hg (fun b e e2=>h.sep i hi b e e2.symm),h.next.sep⟩
 refine⟨(zac h.bel h.mks h.bel.size hg).setCell (p:=⟨b4,257,none⟩) h.lo _,?_,⟨zbn hG.own hst (by decide),fun i hi=>zbn (hG.row i hi) hst (by decide),hG.sep⟩,?_,?_,h.lo⟩
 ·have:=hst.set 257 vK'
  rwa [zfd] at this
 ·have:=zbn (i:=257) (u:=vK') ho hst (by decide)
  rw[List.length_append]
  simpa [ints] using this
 ·intro i hi b e
  rcases hat with e2|e2
  ·rw[e2];exact h.sep i hi b e
  ·rw[e2]
   intro e3
   have:=zaE (h.next.row i hi) b e
   simp at e3
   omega
end
def DfP (D:Dd) (C n':Nat) (nx':Nat->Nat->Int) (q':Nat->Int) (w:World) (e:Ending) (w':World):Prop:=
 ∃D':Dd,e=.returned (.agg D'.cD)/\DM w' D'/\D'.K=D.K/\D'.n=n'/\D'.m=n'/\(∀i,i<n'->D'.len i=C)/\(∀i,i<n'->∀c,c<C->D'.nx i c=nx' i c)/\(∀i,i<n'->D'.q i=q' i)/\Below w.heap.size w w'/\w'.ownsRow w.heap.size 3 1 (.slice D'.aM n' D'.cM) n' (ints ((List.range n').map q'))
theorem TrA.dfp {W0:World}{b4 C:Nat}{D:Dd}{vN:Value}{R:List (List Int)}{ws:Nat->Value}{vK:Value}{ms:List Int}{w wr w':World}{n':Nat}{nx':Nat->Nat->Int}{q':Nat->Int}(hk:∀j,j<256->D.K j<256) (h:TrA W0 b4 D.K C vN R ws vK ms wr) (hR:R.length=n') (hrl:∀r∈R,r.length=C) (hms:ms=(List.range n').map q')
  (hnx:∀i,i<n'->∀c,c<C->(R.getD i []).getD c 0=nx' i c) (hw:w.heap.size<=W0.heap.size) (hb:Below wr.heap.size wr w'\/(∃b cs old,St wr 39 b old/\w'=wr.setRow b cs)) (hB:Below w.heap.size w w'):DfP D C n' nx' q' w (.returned (.agg (dfC D.K vN vK))) w':=by
 obtain⟨aN,cN,rfl⟩:=zaa h.next.own
 obtain⟨aK,cK,rfl⟩:=zaa h.mks
 have hml:ms.length=n':=by rw[hms];simp
 have keepo:∀{B t n:Nat}{v:Value}{xs:List Value},t≠39->wr.ownsRow B t 1 v n xs->w'.ownsRow B t 1 v n xs:=fun {B t n v xs} ht ho=>by
  rcases hb with hb|⟨b,cs,old,hs,rfl⟩
  ·exact zab ho hb
  ·exact zal (ts:=[]) (bs:=[b]) ho (zbj wr b cs) (by simp) (fun g e hm=>zaq ho hs ht g e (List.mem_singleton.1 hm))
 have hn2:GridOw w' W0.heap.size 30 3 1 (.slice aN R.length cN) R.length ws (fun _=>C) (fun j=>ints (R.getD j [])):=⟨keepo (by decide) h.next.own,fun i hi=>keepo (by decide) (h.next.row i hi),h.next.sep⟩
 have hm2:=keepo (by decide) h.mks
 refine⟨⟨dfC D.K (.slice aN R.length cN) (.slice aK ms.length cK),D.K,aN,R.length,cN,fun i=>slA (ws i),fun i=>slC (ws i),fun _=>C,fun i x=>(R.getD i []).getD x 0,aK,ms.length,cK,fun i=>ms.getD i 0⟩,rfl,
  ⟨zay _ _ _,zba _ _ _ _ _ _ _,fun j hj=>zb7 _ _ _ j hj,hk,zbV _ _ _,zci _ _ _,hn2.zs rfl hrl,zgV hm2 rfl⟩,rfl,hR,hml,fun i hi=>rfl,hnx,fun i hi=>?_,hB,?_⟩
 ·show ms.getD i 0=_
  rw[hms]
  simp[List.getD_eq_getElem?_getD,hi]
 ·show w'.ownsRow _ _ _ (.slice aK n' cK) n' _
  rw[<-hms,<-hml]
  exact zag hm2 hw
theorem zaw (w:World):w.drew.heap.size=w.heap.size:=rfl
theorem zb8 (w:World) (o:Obj):(w.alloc o).heap.size=w.heap.size+1:=by simp
theorem zeu {P:Program}{ρ:Operand->Value}{o:Oper}(w:World) (t:TypeId) (parts:Array (Nat × Operand)) (ho:o.op=.build t parts) (ps:Array (Nat × Value)) (hp:(parts.map fun (i,x)=>(i,ρ x))=ps) (v:Value) (hb:(Instr.build t ps).run P w=.ok v w):
  (execOp ρ o).run P w=.ok (.value v) w:=by
 unfold execOp
 simp only[ho,hp,Sem.run_bind,hb,Result.andThen_ok,Sem.run_pure]
theorem zbb {P:Program}{ops:Array Oper}{o:Oper}{a:Act}{w:World}{K:Act->World->Prop}{Q:Exit->Act->World->Prop}{E:Prop}(hgd:o.guard=none) (t:TypeId) (ho:o.op=.alloc t) (cs:Array Value) (hz:(zeroValue t).run P w=.ok (.agg cs) w)
  (h:K (a.put o.dst (.pointer (some ⟨w.heap.size,0,none⟩))) (w.alloc (.cells cs t))):if Region.wanted o (yielded ops a.tmps)=true then Oper.wp P o a w K Q else E:=by
 have hw:Region.wanted o (yielded ops a.tmps)=true:=by simp[Region.wanted,hgd]
 rw[if_pos hw]
 unfold Oper.wp execOp
 simp only[ho,Instr.alloc,Sem.run_bind,hz,Result.andThen_ok,newVar,newRow,newObj,Value.cells]
 exact h
theorem zbc {P:Program}{ops:Array Oper}{o:Oper}{a:Act}{w:World}{K:Act->World->Prop}{Q:Exit->Act->World->Prop}{E:Prop}(hgd:o.guard=none) (ty:TypeId) (x v:Operand) (ho:o.op=.store ty x v) (g t:Nat) (old cs:Array Value) (hx:a.eval x=.pointer (some ⟨g,0,none⟩)) (hv:a.eval v=.agg cs)
  (hst:w.heap[g]?=some (.cells old t (0,0))) (hsz:old.size=cs.size) (hi:(P.info? ty).map (·.size)=some cs.size) (h1:∀u∈cs.toList,u.oneCell'=true) (h:K (a.put o.dst undef) (w.setRow g cs)):if Region.wanted o (yielded ops a.tmps)=true then Oper.wp P o a w K Q else E:=by
 have hrun:(storeVar ty ⟨g,0,none⟩ (.agg cs)).run P w=.ok () (w.setRow g cs):=by
  have hs:(sizeOf ty).run P w=.ok cs.size w:=by
   cases hq:P.info? ty with
   | none=>simp[hq] at hi
   | some inf=>
    have:inf.size=cs.size:=by simpa [hq] using hi
    simp[sizeOf,typeInfo,hq,this]
  have:=run_storeCells_at (P:=P) g 0 t cs.toList 0 old w hst (by simp[hsz]) h1
  unfold storeVar
  simp only[Sem.run_bind,hs,Result.andThen_ok]
  rw[if_neg (show ¬((Value.agg cs).cells.size≠cs.size) from fun h=>h rfl)]
  show (storeCells ⟨g,0,none⟩ cs.toList).run P w=_
  rw[this]
  congr 2
  have hd:List.drop cs.size old.toList=[]:=List.drop_of_length_le (by simp[hsz])
  simp[hd]
 have hw:Region.wanted o (yielded ops a.tmps)=true:=by simp[Region.wanted,hgd]
 rw[if_pos hw]
 unfold Oper.wp execOp
 simp only[ho,hx,hv,Instr.storeAt,Instr.sureAddr,Sem.run_bind,Sem.run_pure,Result.andThen_ok,hrun]
 exact h
open Classical in
noncomputable def trF (D:Dd) (i c:Nat):Int:=if 0<=D.nx i c/\¬Alv D (D.nx i c).toNat then -1 else D.nx i c
theorem TrA.start {V0 V:World}{K:Nat->Nat}{C m c b4:Nat}{a:Option Addr}{ms:List Int}{ws:Nat->Value}(hm:V.ownsRow V0.heap.size 3 1 (.slice a m c) m (ints ms)) (hl:ms.length=m) (hb:Below V0.heap.size V0 V) (hst:St V 39 b4 (zC 39)) (hlo:V0.heap.size<=b4):
  TrA V0 b4 K C (.slice none 0 0) [] ws (.slice a m c) ms (V.setRow b4 (dfC K (.slice none 0 0) (.slice a m c))):=by
 refine⟨zaj hb hlo _,hst.setRow,⟨World.ownsRow_nil _ _ _ _,fun i hi=>absurd hi (by simp),fun i j hi=>absurd hi (by simp)⟩,?_,fun i hi=>absurd hi (by simp),hlo⟩
 rw[hl]
 exact zal (ts:=[]) (bs:=[b4]) hm (zbj _ _ _) (by simp) (fun g e h=>zaq hm hst (by decide) g e (List.mem_singleton.1 h))
theorem zbI (N:Nat) (hN:N<=2147483647) (W:World):(Instr.makeSlice 30 (.int .i64 (N:Int)) (.int .i64 (N:Int))).run Tryz.prog W=.ok (.slice (some ⟨W.heap.size,0,none⟩) N N) (W.alloc (.cells (madeCells #[.int .i64 0] N) 3)):=by
 have:=run_make_row' (P:=Tryz.prog) 30 3 (.int .i64 0) 8 Tryz.underlying30 Tryz.info_int9 rfl .i64 .i64 N (by omega) (by omega) W
 simpa using this
theorem zbJ (row:List Int) (m k:Nat) (v:Int) (h:row.length=k) (hk:k<m):(ints (row++List.replicate (m-k) 0)).set k (.int .i64 v)=ints ((row++[v])++List.replicate (m-(k+1)) 0):=by
 have e:List.replicate (m-k) (0:Int)=0 :: List.replicate (m-(k+1)) 0:=by
  rw[show m-k=(m-(k+1))+1 by omega,List.replicate_succ]
 rw[e]
 subst h
 simp[ints,List.set_append]
def mvF (z:Nat->Int) (fn:Nat->Int) (i:Nat):Int:=if z i=-1 then -1 else fn (z i).toNat
def zmE (m:Nat) (r:Nat->Int) (w:World) (e:Ending) (w':World):Prop:=
 ∃(a:Option Addr) (c:Nat),e=.returned (.slice a m c)/\w'.ownsRow w.heap.size 3 1 (.slice a m c) m (ints ((List.range m).map r))/\Below w.heap.size w w'
theorem zch (kf bV n:Nat) (fn:Nat->Int) (m c:Nat) (a:Option Addr) (z:Nat->Int) (w:World) (HC:∀(args:Array Value) (W:World),(callFunc kf args).run Tryz.prog W=.ok (.enter kf args) W)
  (HM:∀W,Below w.heap.size w W->∀x,x<n->Calls Tryz.prog kf #[.int .i64 ((x:Nat):Int),.pointer (some ⟨bV,0,none⟩)] W fun e w'=>e=.returned (.int .i64 (fn x))/\w'=W)
  (hm:m<=1000) (hz:ZAt w a m z) (hb:∀i,i<m->-1<=z i/\z i<(n:Int)) (hn:n<=1000000):
  Calls Tryz.prog 86 #[.slice a m c,.func (.func kf) #[] #[.pointer (some ⟨bV,0,none⟩)]] w (zmE m (mvF z fn) w):=by
 have hmk:=zbI m (by omega)
 have HX:=hid (And.intro HM (And.intro hz hb))
 have HO:=hid (zbO w w.heap.size m 3 (.int .i64 0) (Nat.le_refl _) (by unfold maxLen;omega))
 have HB0:=hid (al w (.cells (madeCells #[.int .i64 0] m) 3))
 clear HM hz hb
 go_enter Tryz.func86,Tryz.ntmps86
 go_wp2_with fail
 obtain⟨g,hg⟩:∃g,w.heap.size=g:=⟨_,rfl⟩
 have HO2:Hid ((w.alloc (.cells (madeCells #[.int .i64 0] m) 3)).ownsRow g 3 1 (.slice (some ⟨g,0,none⟩) m m) m (ints ([]++List.replicate (m-0) 0))/\Below g w (w.alloc (.cells (madeCells #[.int .i64 0] m) 3))):=by
  rw[<-hg]
  refine⟨?_,HB0.out⟩
  have:=HO.out
  simpa [ints] using this
 rw[hg]
 generalize w.alloc (.cells (madeCells #[.int .i64 0] m) 3)=W1 at HO2⊢
 have Hg:=hid hg
 clear HO HB0 hg
 go_loopw [6,7,13] (fun _ _ v wr=>∃(k:Nat),v=.int .i64 k/\k<=m/\Hid (wr.ownsRow g 3 1 (.slice (some ⟨g,0,none⟩) m m) m (ints ((List.range k).map (mvF z fn)++List.replicate (m-k) 0))/\Below g w wr)) (fun _ _ v _=>m-(intOf v).toNat)
 case atStart=>exact⟨0,rfl,by omega,HO2⟩
 case round=>
  clear HO2
  obtain⟨k,rfl,hk,HA⟩:=hrel
  by_cases hlt:k<m
  ·have hBw:Below w.heap.size w wr:=by rw[Hg.out];exact HA.out.2
   obtain⟨gA,oA,rfl,hgA,cA0⟩:=HX.out.2.1 (by omega)
   have cA:=(hBw.cell (p:=⟨gA,oA+k,none⟩) hgA).trans (cA0 k hlt)
   have hzb:=HX.out.2.2 k hlt
   obtain⟨g',e',_,_,hc'⟩:=zae HA.out.1 (by omega)
   obtain rfl:g'=g:=by
    injection e' with e'
    injection e' with e' _
    exact e'.symm
   obtain⟨y0,y1⟩:=hc' k (by omega)
   have hlen:((List.range k).map (mvF z fn)).length=k:=by simp
   have y2:(ints ((List.range k).map (mvF z fn)++List.replicate (m-k) 0))[k]?=some (.int .i64 0):=by
    have:0<m-k:=by omega
    simp[ints,List.getElem?_append,this]
   rw[y2] at y0
   have HP1:Hid ((wr.setCell ⟨g',k,none⟩ (.int .i64 (-1))).ownsRow g' 3 1 (.slice (some ⟨g',0,none⟩) m m) m (ints (((List.range k).map (mvF z fn)++[-1])++List.replicate (m-(k+1)) 0))/\Below g' w (wr.setCell ⟨g',k,none⟩ (.int .i64 (-1)))):=by
    refine⟨?_,HA.out.2.setCell (p:=⟨g',k,none⟩) (Nat.le_refl _) _⟩
    have:=za9 HA.out.1 k hlt (.int .i64 (-1))
    rwa [zbJ _ m k _ hlen hlt] at this
   have HMv:Hid (∀v,mvF z fn k=v->(List.range (k+1)).map (mvF z fn)=(List.range k).map (mvF z fn)++[v]):=fun v h=>by
    rw[List.range_succ,List.map_append,List.map_singleton,h]
   have HFn:Hid ((z k=-1->mvF z fn k=-1)/\∀x:Nat,z k=(x:Int)->mvF z fn k=fn x):=⟨fun h=>by simp[mvF,h],fun x h=>by
    unfold mvF
    rw[if_neg (by omega),h]
    rfl⟩
   have HLen:=hid hlen
   have i1:(k:Int)<(m:Int):=by omega
   have HZx:=hid HX.out.1
   try dsimp only at cA
   clear cA0 hc' e' y2 hlen
   generalize z k=t at cA hzb HFn
   go_upto_region 6 with fail
   generalize wr.setCell ⟨g',k,none⟩ (.int .i64 (-1))=W5 at HP1⊢
   clear y0 y1 cA hBw
   by_cases ht:t=-1
   ·subst ht
    have HZ:=hid (HMv.out (-1) (HFn.out.1 rfl))
    go_wp2_with fail
    go_roundw
    case rel=>exact⟨k+1,by go_num,by omega,by rw[HZ.out];exact HP1⟩
    case measure=>simp[intOf];omega
   ·obtain⟨x,rfl⟩:∃x:Nat,t=(x:Int):=⟨t.toNat,by omega⟩
    have hxn:x<n:=by omega
    have hx2:((x:Int) != (-1:Int))=true:=by first|(simp;done)|(simp;omega)
    have HCa:=hid (HZx.out W5 (by rw[Hg.out];exact HP1.out.2) x hxn)
    have HZ:=hid (HMv.out (fn x) (HFn.out.2 x rfl))
    generalize fn x=r at HCa HZ
    go_wp2_with fail
    refine HCa.out.mono ?_
    rintro e w6 ⟨rfl,rfl⟩
    obtain⟨g2,e2,_,_,hc2⟩:=zae HP1.out.1 (by omega)
    obtain rfl:g2=g':=by
     injection e2 with e2
     injection e2 with e2 _
     exact e2.symm
    obtain⟨y0,y1⟩:=hc2 k (by omega)
    have y2:(ints (((List.range k).map (mvF z fn)++[-1])++List.replicate (m-(k+1)) 0))[k]?=some (.int .i64 (-1)):=by
     simp[ints,List.getElem?_append]
    rw[y2] at y0
    have HP2:Hid ((w6.setCell ⟨g2,k,none⟩ (.int .i64 r)).ownsRow g2 3 1 (.slice (some ⟨g2,0,none⟩) m m) m (ints (((List.range k).map (mvF z fn)++[r])++List.replicate (m-(k+1)) 0))/\Below g2 w (w6.setCell ⟨g2,k,none⟩ (.int .i64 r))):=by
     refine⟨?_,HP1.out.2.setCell (p:=⟨g2,k,none⟩) (Nat.le_refl _) _⟩
     have:=za9 HP1.out.1 k hlt (.int .i64 r)
     have e3:(ints (((List.range k).map (mvF z fn)++[-1])++List.replicate (m-(k+1)) 0)).set k (.int .i64 r)=ints (((List.range k).map (mvF z fn)++[r])++List.replicate (m-(k+1)) 0):=by
      have hl:=HLen.out
      rw[<-zbJ _ m k (-1) hl hlt,List.set_set,zbJ _ m k r hl hlt]
     rwa [e3] at this
    clear hc2 e2 y2
    go_wp2_with fail
    go_roundw
    case rel=>exact⟨k+1,by go_num,by omega,by rw[HZ.out];exact HP2⟩
    case measure=>simp[intOf];omega
  ·obtain rfl:k=m:=by omega
   have HF:Hid (zmE k (mvF z fn) w (.returned (.slice (some ⟨g,0,none⟩) k k)) wr):=by
    refine⟨_,_,rfl,?_,by rw[Hg.out];exact HA.out.2⟩
    have:=HA.out.1
    rw[Nat.sub_self,List.replicate_zero,List.append_nil,<-Hg.out] at this
    rw[<-Hg.out]
    exact this
   go_wp2_with fail
   go_ret
   exact HF.out
theorem zev:∀(args:Array Value) (W:World),(callFunc 90 args).run Tryz.prog W=.ok (.enter 90 args) W:=fun _ _=>by rfl
theorem zf4 (b3 n c:Nat) (a:Option Addr) (f:Nat->Bool) (w:World) (hS:St w 75 b3 #[.slice a n c]) (hf:BAt w a n f) (x:Nat) (hx:x<n):
  Calls Tryz.prog 90 #[.int .i64 (x:Int),.pointer (some ⟨b3,0,none⟩)] w fun e w'=>e=.returned (.int .i64 (if f x=true then (x:Int) else -1))/\w'=w:=by
 have c0:w.cell? ⟨b3,0,none⟩=some (.slice a n c):=hS.at_ 0
 obtain⟨g,o,rfl,_,q⟩:=hf (by omega)
 have d0:=q x hx
 have i1:(x:Int)<(n:Int):=by omega
 clear q
 rcases hfx:f x with _|_
 ·rw[hfx] at d0
  have HZ:Hid ((if (false=true) then (x:Int) else -1)=-1):=by show _=_;simp
  clear hfx
  go_enter Tryz.func90,Tryz.ntmps90
  go_wp2_with fail
  go_ret
  exact⟨by first|rfl|(rw[HZ.out];rfl)|simp,rfl⟩
 ·rw[hfx] at d0
  clear hfx
  go_enter Tryz.func90,Tryz.ntmps90
  go_wp2_with fail
  go_ret
  exact⟨by first|rfl|simp,rfl⟩
theorem zl7 (D:Dd) (C:Nat) (w:World) (hD:DM w D) (hR:DR D C):
  Calls Tryz.prog 56 #[.agg D.cD] w (DfP D C D.n (trF D) D.q w):=by
 have hmf:∀(fn:Fn) (first cap:Array Value) (w:World),(Instr.makeFunc fn first cap).run Tryz.prog w=.ok (.func fn first cap) w:=fun _ _ _ _=>rfl
 have hn2:=hR.n2
 have hn1:=hR.n1
 have hmn:=hR.m
 have hC6:=(hR.c256 hD.kl).2
 have HB:=hid (And.intro (DBx.new hD) (And.intro (al w (.cells D.cD 39)) hR))
 obtain⟨iI,hI,hI0,hI1,hI2⟩:=info_parts Tryz.info_int9
 obtain⟨iV,hV,hV0,hV1,hV2⟩:=info_parts Tryz.info_ints
 clear hD hR
 go_enter Tryz.func56,Tryz.ntmps56
 go_upto_region 1 with (refine zap rfl 39 rfl (zC 39) (zat _) ?_)
 simp only[Act.put,List.setIfInBounds_toArray,List.set_cons_zero,List.set_cons_succ,zb8]
 have H0:Hid (DBx ((w.alloc (.cells D.cD 39)).alloc (.cells (zC 39) 39)) w.heap.size D/\St ((w.alloc (.cells D.cD 39)).alloc (.cells (zC 39) 39)) 39 (w.heap.size+1) (zC 39)/\Below w.heap.size w ((w.alloc (.cells D.cD 39)).alloc (.cells (zC 39) 39))):=by
  refine⟨HB.out.1.keep (al _ _),?_,HB.out.2.1.trans ((al _ _).mono (by simp))⟩
  have:=St.new (w.alloc (.cells D.cD 39)) 39 (zC 39)
  simpa using this
 generalize (w.alloc (.cells D.cD 39)).alloc (.cells (zC 39) 39)=Wb at H0⊢
 obtain⟨b2,hb2⟩:∃b2,w.heap.size+1=b2:=⟨_,rfl⟩
 obtain⟨b0,hb0⟩:∃b0,w.heap.size=b0:=⟨_,rfl⟩
 rw[hb2,hb0] at H0
 rw[hb2,hb0]
 have Hb:=hid (And.intro hb0 hb2)
 clear hb2 hb0
 have HRy:=hid (zbH D C HB.out.2.2 Wb H0.out.1.dm)
 go_wp2_with (refine zad (by rfl) 39 _ rfl ⟨b0,0,none⟩ rfl D.cD _ H0.out.1.st.part Tryz.underlying39 rfl H0.out.1.dm.info ?_)
 refine HRy.out.mono ?_
 rintro e wy ⟨rfl,by_⟩
 have H0y:Hid (DBx wy b0 D/\St wy 39 b2 (zC 39)/\Below b0 w wy):=⟨H0.out.1.keep by_,H0.out.2.1.keep by_,H0.out.2.2.trans (by_.mono (by have:=H0.out.2.2.size;have:=Hb.out.1;omega))⟩
 have HAl:=hid (zkC D C wy H0y.out.1.dm HB.out.2.2)
 clear by_ HRy
 go_wp2_with (refine zad (by rfl) 39 _ rfl ⟨b0,0,none⟩ rfl D.cD _ H0y.out.1.st.part Tryz.underlying39 rfl H0y.out.1.dm.info ?_)
 refine HAl.out.mono ?_
 rintro e wA ⟨f,aA,cA,rfl,hoA,hfA,bA⟩
 go_upto_region 4 with fail
 have k3:=al wA (.cells #[.slice aA D.n cA] 75)
 have HS3:Hid (St (wA.alloc (.cells #[.slice aA D.n cA] 75)) 75 wA.heap.size #[.slice aA D.n cA]):=St.new _ _ _
 have b1:Below wy.heap.size wy (wA.alloc (.cells #[.slice aA D.n cA] 75)):=bA.trans (k3.mono bA.size)
 have HAf:=hid (And.intro ((zmg hoA).below k3) hfA)
 obtain⟨b3,hb3⟩:∃b3,wA.heap.size=b3:=⟨_,rfl⟩
 rw[hb3] at HS3
 rw[hb3]
 generalize wA.alloc (.cells #[.slice aA D.n cA] 75)=w1 at b1 HAf HS3⊢
 clear k3 hb3 bA
 have H1:=hid (And.intro (H0y.out.1.keep b1) (And.intro (H0y.out.2.1.keep b1) (H0y.out.2.2.trans (b1.mono (by have:=H0y.out.2.2.size;have:=Hb.out.1;omega)))))
 obtain⟨gM,oM,eM,hgM,cM0⟩:=H1.out.1.dm.rM (by omega)
 have HM9:=hid (And.intro eM (And.intro hgM (And.intro (by rw[hmn] at cM0;exact cM0:∀j,j<D.n->w1.cell? ⟨gM,oM+j,none⟩=some (.int .i64 (D.q j))) hmn)))
 have hbw1:Hid (w.heap.size<=w1.heap.size):=by have h1:=H0y.out.2.2.size;have h2:=b1.size;have h3:=Hb.out.1;show _<=_;omega
 have HSo:Hid (∀W',Below w1.heap.size w1 W'->Below w1.heap.size w1 W'/\DBx W' b0 D/\W'.cell? ⟨b0,257,none⟩=some (.slice (some ⟨gM,oM,none⟩) D.n D.cM)):=fun W' h=>⟨h,H1.out.1.keep h,by have:=(H1.out.1.keep h).f2;rw[eM,hmn] at this;exact this⟩
 have HNw:Hid (∀W',Below w1.heap.size w1 W'->∀j u,(ints ((List.range D.n).map D.q))[j]?=some u->W'.cell? ((⟨gM,oM,none⟩:Addr).add j)=some u):=fun W' h=>zky (fun j hj=>(h.cell (p:=⟨gM,oM+j,none⟩) HM9.out.2.1).trans (HM9.out.2.2.1 j hj))
 clear hoA hfA b1 HAl eM cM0 hgM hmn
 go_cut [4] from 13 to 18 (fun v wx=>∃(b4:Nat) (a6:Option Addr) (c6:Nat),v=.pointer (some ⟨b4,0,none⟩)/\TrA w1 b4 D.K C (.slice none 0 0) [] (fun _=>.slice none 0 0) (.slice a6 D.n c6) ((List.range D.n).map D.q) wx)
 case first=>
  refine wp_region_held_drew (S:=fun W'=>Below w1.heap.size w1 W'/\DBx W' b0 D/\W'.cell? ⟨b0,257,none⟩=some (.slice (some ⟨gM,oM,none⟩) D.n D.cM)) (by kernel_rfl) (HSo.out _ (Below.refl _ _).drew) (fun hHeld=>?_)
  (refine tkA 0 ?_)
  (refine tkA 1 (v:=.agg (clsOf D.K)) ?_ (hy:=by intro wz hSw;exact zar (o:=_) (ρ:=_) wz 36 (.tmp 13) rfl ⟨b0,0,none⟩ rfl (clsOf D.K) _ (DBx.clsPart (And.left (And.right hSw))) Tryz.underlying36 rfl (zaK D.K)))
  (refine tkA 2 ?_;refine tkA 3 ?_;try simp only[Act.put,sA,sB,sC])
  refine wpAnyH_ready (rs:=[4,6]) (by kernel_rfl) (by simp) ?_
  refine arC (fun K hK=>?_) ?_
  ·skip
   go_simp
   go_at_call 89
   refine (zcO D.n D.cM (some ⟨gM,oM,none⟩) D.q (by omega) _ (fun _=>⟨gM,oM,rfl,Nat.lt_of_lt_of_le HM9.out.2.1 hHeld.1.size,fun j hj=>(hHeld.1.cell (p:=⟨gM,oM+j,none⟩) HM9.out.2.1).trans (HM9.out.2.2.1 j hj)⟩) (fun h=>by cases h) (fun ad h=>by injection h with h;rw[<-h])).mono ?_
   rintro e V5 ⟨a6,c6,rfl,hown6,b6⟩
   have HM6:=hid (And.intro (zag hown6 hHeld.1.size) (hHeld.1.trans (b6.mono hHeld.1.size)))
   clear hown6 b6
   try go_wp2_with fail
   refine hK.out _ _ (HSo.out _ HM6.out.2) (fun hHeld=>?_)
   clear hK K
   try simp only[Act.put,sA,sB,sC]
   (refine wpAnyH_take (i:=5) (oi:=?_) (v:=.agg (dfC D.K (.slice none 0 0) (.slice a6 D.n c6))) ?_ (by kernel_rfl) (by kernel_rfl) (by kernel_rfl) ?_ (Or.inl ⟨?_,?_⟩) (by assumption) ?_;rotate_left;(focus ((simp only[List.getElem?_toArray,List.getElem?_cons_succ,List.getElem?_cons_zero]);first|done|rfl));(focus (exact fun _ _ _ h=>h));(focus rfl);(focus (intro wz hSw;exact zeu wz _ _ rfl #[(0,.agg (clsOf D.K)),(2,.slice a6 D.n c6)] (by first|rfl|simp[Act.eval]|(simp;rfl)) _ (zet D.K a6 D.n c6 wz)));try simp only[Act.put,sA,sB,sC])
   refine rd1 6 (fun K hK=>?_)
   ·skip
    refine zbb (by rfl) 39 (by rfl) (zC 39) (zat _) ?_
    have kk:=al V5 (.cells (zC 39) 39)
    have hbn:Below w1.heap.size w1 (V5.alloc (.cells (zC 39) 39)):=hHeld.1.trans (kk.mono hHeld.1.size)
    have H7:Hid (St (V5.alloc (.cells (zC 39) 39)) 39 V5.heap.size (zC 39)/\w1.heap.size<=V5.heap.size):=⟨St.new _ _ _,hHeld.1.size⟩
    have HM6:Hid ((V5.alloc (.cells (zC 39) 39)).ownsRow w1.heap.size 3 1 (.slice a6 D.n c6) D.n (ints ((List.range D.n).map D.q))/\Below w1.heap.size w1 (V5.alloc (.cells (zC 39) 39))):=⟨zab HM6.out.1 kk,hbn⟩
    refine hK.out _ _ (HSo.out _ hbn) (fun hHeld=>?_)
    clear hK K
    try simp only[Act.put,sA,sB,sC]
    try simp only[zaw]
    clear kk
    generalize (V5.alloc (.cells (zC 39) 39))=V7 at H7 HM6 hHeld hbn⊢
    refine rd1 7 (fun K hK=>?_)
    ·skip
     refine zbc (by rfl) 39 _ _ (by rfl) V5.heap.size 39 (zC 39) (dfC D.K (.slice none 0 0) (.slice a6 D.n c6)) (by rfl) (by rfl) H7.out.1 (by rw[zak,zay]) (by rw[zah,zay]) (zba _ _ _ _ _ _ _) ?_
     have HT0:=hid (TrA.start (K:=D.K) (C:=C) (ws:=fun _=>.slice none 0 0) HM6.out.1 (by simp) HM6.out.2 H7.out.1 H7.out.2)
     refine hK.out _ _ (HSo.out _ HT0.out.bel) (fun hHeld=>?_)
     clear hK K
     try simp only[Act.put,sA,sB,sC]
     refine wpAnyH_done (by kernel_rfl) ?_ _
     clear hHeld HM6 H7
     go_wp2_with fail
     go_meet
     exact⟨_,_,_,rfl,HT0.out⟩
  refine arC (fun K hK=>?_) ?_
  ·skip
   refine zbb (by rfl) 39 (by rfl) (zC 39) (zat _) ?_
   have kk:=al w1.drew (.cells (zC 39) 39)
   have hbn:Below w1.heap.size w1 (w1.drew.alloc (.cells (zC 39) 39)):=hHeld.1.trans (kk.mono hHeld.1.size)
   have H7:Hid (St (w1.drew.alloc (.cells (zC 39) 39)) 39 w1.heap.size (zC 39)/\w1.heap.size<=w1.heap.size):=⟨St.new _ _ _,hHeld.1.size⟩
   refine hK.out _ _ (HSo.out _ hbn) (fun hHeld=>?_)
   clear hK K
   try simp only[Act.put,sA,sB,sC]
   try simp only[zaw]
   clear kk
   generalize (w1.drew.alloc (.cells (zC 39) 39))=V7 at H7 hHeld hbn⊢
   refine rd1 4 (fun K hK=>?_)
   ·skip
    go_simp
    go_at_call 89
    refine (zcO D.n D.cM (some ⟨gM,oM,none⟩) D.q (by omega) _ (fun _=>⟨gM,oM,rfl,Nat.lt_of_lt_of_le HM9.out.2.1 hHeld.1.size,fun j hj=>(hHeld.1.cell (p:=⟨gM,oM+j,none⟩) HM9.out.2.1).trans (HM9.out.2.2.1 j hj)⟩) (fun h=>by cases h) (fun ad h=>by injection h with h;rw[<-h])).mono ?_
    rintro e V5 ⟨a6,c6,rfl,hown6,b6⟩
    have HM6:=hid (And.intro (zag hown6 hHeld.1.size) (hHeld.1.trans (b6.mono hHeld.1.size)))
    have H7:Hid (St V5 39 w1.heap.size (zC 39)/\w1.heap.size<=w1.heap.size):=⟨H7.out.1.keep b6,H7.out.2⟩
    clear hown6 b6
    try go_wp2_with fail
    refine hK.out _ _ (HSo.out _ HM6.out.2) (fun hHeld=>?_)
    clear hK K
    try simp only[Act.put,sA,sB,sC]
    (refine wpAnyH_take (i:=5) (oi:=?_) (v:=.agg (dfC D.K (.slice none 0 0) (.slice a6 D.n c6))) ?_ (by kernel_rfl) (by kernel_rfl) (by kernel_rfl) ?_ (Or.inl ⟨?_,?_⟩) (by assumption) ?_;rotate_left;(focus ((simp only[List.getElem?_toArray,List.getElem?_cons_succ,List.getElem?_cons_zero]);first|done|rfl));(focus (exact fun _ _ _ h=>h));(focus rfl);(focus (intro wz hSw;exact zeu wz _ _ rfl #[(0,.agg (clsOf D.K)),(2,.slice a6 D.n c6)] (by first|rfl|simp[Act.eval]|(simp;rfl)) _ (zet D.K a6 D.n c6 wz)));try simp only[Act.put,sA,sB,sC])
    refine rd1 7 (fun K hK=>?_)
    ·skip
     refine zbc (by rfl) 39 _ _ (by rfl) w1.heap.size 39 (zC 39) (dfC D.K (.slice none 0 0) (.slice a6 D.n c6)) (by rfl) (by rfl) H7.out.1 (by rw[zak,zay]) (by rw[zah,zay]) (zba _ _ _ _ _ _ _) ?_
     have HT0:=hid (TrA.start (K:=D.K) (C:=C) (ws:=fun _=>.slice none 0 0) HM6.out.1 (by simp) HM6.out.2 H7.out.1 H7.out.2)
     refine hK.out _ _ (HSo.out _ HT0.out.bel) (fun hHeld=>?_)
     clear hK K
     try simp only[Act.put,sA,sB,sC]
     refine wpAnyH_done (by kernel_rfl) ?_ _
     clear hHeld HM6 H7
     go_wp2_with fail
     go_meet
     exact⟨_,_,_,rfl,HT0.out⟩
  exact AllReadyH.nil
 case rest=>
  obtain⟨b4,a6,c6,rfl,hT0⟩:=hcut
  have HT0:=hid hT0
  clear hT0
  obtain⟨gN,oN,eN,hgN,cN0⟩:=H1.out.1.dm.rN (by omega)
  have HBx4:=hid (H1.out.1.keep HT0.out.bel)
  have f1:=HBx4.out.f1
  rw[eN] at f1
  have HeN:=hid eN
  have HcN:=hid cN0
  have Hg:=hid hgN
  clear eN cN0 hgN
  go_wp2_with fail
  clear f1
  go_loopw [6,22] (fun _ v wr=>∃(i:Nat) (ws:Nat->Value) (aN:Option Addr) (cN:Nat),v=.int .i64 i/\i<=D.n/\Hid (TrA w1 b4 D.K C (.slice aN i cN) ((List.range i).map fun i=>(List.range C).map (trF D i)) ws (.slice a6 D.n c6) ((List.range D.n).map D.q) wr)) (fun _ v _=>D.n-(intOf v).toNat)
  case atStart=>exact⟨0,_,none,0,rfl,by omega,HT0⟩
  case round=>
   clear HT0
   obtain⟨i,ws,aN,cN,rfl,hi,HT⟩:=hrel
   have hRl:Hid (((List.range i).map fun i=>(List.range C).map (trF D i)).length=i):=by show _=_;simp
   by_cases hlt:i<D.n
   ·have i1:(i:Int)<(D.n:Int):=by omega
    have hlen:=HB.out.2.2.len i hlt
    have cN1:=(HT.out.bel.cell (p:=⟨gN,oN+i,none⟩) Hg.out).trans (HcN.out i hlt).1
    have zN:=(HcN.out i hlt).2
    rw[hlen] at cN1 zN
    try dsimp only at cN1
    have HzN:Hid (ZAt wr.drew (D.A i) C (D.nx i)):=(zN.below HT.out.bel).below (Below.refl _ _).drew
    have hRs:Hid ((List.range (i+1)).map (fun i=>(List.range C).map (trF D i))=(List.range i).map (fun i=>(List.range C).map (trF D i))++[(List.range C).map (trF D i)]):=by show _=_;rw[List.range_succ,List.map_append];rfl
    have HRow:Hid ((List.range C).map (mvF (D.nx i) (fun x=>if f x=true then ((x:Nat):Int) else -1))=(List.range C).map (trF D i)):=by
     show _=_
     refine List.map_congr_left fun c hc=>?_
     have hc2:c<C:=by simpa using hc
     have hb:=HB.out.2.2.nx i c hlt hc2
     unfold mvF trF
     by_cases h1:D.nx i c=-1
     ·rw[if_pos h1,if_neg (by omega),h1]
     ·rw[if_neg h1]
      have hx:(D.nx i c).toNat<D.n:=by omega
      dsimp only
      by_cases h2:f (D.nx i c).toNat=true
      ·rw[if_pos h2,if_neg (fun h=>h.2 ((HAf.out.2 _ hx).1 h2))]
       omega
      ·rw[if_neg h2,if_pos ⟨by omega,fun h=>h2 ((HAf.out.2 _ hx).2 h)⟩]
    clear hlen zN
    go_upto_region 8 with fail
    clear cN1
    refine wp_region_held_drew (S:=fun W'=>Below w1.heap.size w1 W') (by kernel_rfl) HT.out.bel.drew (fun hHeld=>?_)
    have HT:Hid (TrA w1 b4 D.K C (.slice aN i cN) ((List.range i).map fun i=>(List.range C).map (trF D i)) ws (.slice a6 D.n c6) ((List.range D.n).map D.q) wr.drew):=HT.out.keep (Below.refl _ _).drew
    (refine tkA 0 ?_;refine tkA 2 ?_;refine tkA 3 ?_;try simp only[Act.put,sA,sB,sC])
    refine wpAnyH_ready (rs:=[1,4]) (by kernel_rfl) (by simp) ?_
    refine arC (fun K hK=>?_) ?_
    ·skip
     have f1:=HT.out.f1
     go_simp
     refine hK.out _ _ (hHeld) (fun hHeld=>?_)
     clear hK K
     try simp only[Act.put,sA,sB,sC]
     clear f1
     refine rd1 4 (fun K hK=>?_)
     ·skip
      have hlt9:=(HT.out.next.lt).2
      have hltK:=zaE HT.out.mks
      go_simp
      go_at_call 86
      refine (zch 90 b3 D.n (fun x=>if f x=true then ((x:Nat):Int) else -1) C (D.Cp i) (D.A i) (D.nx i) _ zev (fun W' h x hx=>zf4 b3 D.n cA aA f W' ((HS3.out.keep HT.out.bel).keep h) ((HAf.out.1.below HT.out.bel).below h) x hx) (by omega) (by have h9:=HzN.out;exact h9) (fun c hc=>HB.out.2.2.nx i c hlt hc) (by omega)).mono ?_
      rintro e w5 ⟨a5,c5,rfl,ho5,b5⟩
      have HU:Hid (w5.ownsRow w1.heap.size 3 1 (.slice a5 C c5) C (ints ((List.range C).map (trF D i)))/\(∀j,j<((List.range i).map fun i=>(List.range C).map (trF D i)).length->∀b,(ws j).ownBlock=some b->(Value.slice a5 C c5).ownBlock≠some b)/\∀b,(Value.slice a5 C c5).ownBlock=some b->(Value.slice a6 D.n c6).ownBlock≠some b):=by
       have habv:=zas ho5
       refine⟨?_,fun j hj b e1 e2=>?_,fun b e1 e2=>?_⟩
       ·rw[<-HRow.out];exact zag ho5 HT.out.bel.size
       ·have h1:=hlt9 j hj b e1
        have h2:=habv b e2
        try simp only[zaw] at h1
        try simp only[zaw] at h2
        omega
       ·have h1:=hltK b e2
        have h2:=habv b e1
        try simp only[zaw] at h1
        try simp only[zaw] at h2
        omega
      have HT:=hid (HT.out.keep b5)
      clear ho5 b5 hlt9 hltK
      try go_wp2_with fail
      refine hK.out _ _ (HT.out.bel) (fun hHeld=>?_)
      clear hK K
      try simp only[Act.put,sA,sB,sC]
      refine rd1 5 (fun K hK=>?_)
      ·skip
       go_simp
       have kk:=al w5 (.cells #[.slice a5 C c5] 30)
       have HN:Hid (∀j u,[Value.slice a5 C c5][j]?=some u->(w5.alloc (.cells #[.slice a5 C c5] 30)).cell? ((⟨w5.heap.size,0,none⟩:Addr).add j)=some u):=cell_one_new _ _ _
       have HT:=hid (HT.out.keep kk)
       have HU:=hid (And.intro (zab HU.out.1 kk) HU.out.2)
       refine hK.out _ _ (HT.out.bel) (fun hHeld=>?_)
       clear hK K
       try simp only[Act.put,sA,sB,sC]
       clear kk
       generalize w5.alloc (.cells #[.slice a5 C c5] 30)=V5 at HN HT HU hHeld⊢
       refine rd1 6 (fun K hK=>?_)
       ·skip
        have hO:=HT.out.next.own
        rw[hRl.out] at hO
        refine zao (by rfl) _ _ _ (by rfl) w1.heap.size 30 iV (.slice none 0 0) 1 24 Tryz.underlying37 hV hV0 hV1 hV2 (by rfl) (by decide) _ i ((List.range i).map ws) (by rfl) hO ⟨w5.heap.size,0,none⟩ 1 1 [.slice a5 C c5] (by rfl) (by rfl) HN.out (by intro u hu;simp at hu;subst hu;rfl) (by unfold maxLen;omega) (by omega) HT.out.bel.size ?_
        intro v6 w6 hown6 hgrow6
        obtain⟨a7,c7,rfl⟩:=zaa hown6
        have HT8:=hid (HT.out.addRow (u:=.slice a5 C c5) (vN':=.slice a7 (i+1) c7) HU.out.1 HU.out.2.1 HU.out.2.2 hRl.out hown6 hgrow6)
        have h9:=HT.out.st.grown_own HT.out.next.own (by decide) hgrow6
        have z2:w6.cell? ⟨b4,256,none⟩=some (.slice aN i cN):=by rw[h9.at_,zbV]
        have z3:w6.frozen? ⟨b4,256,none⟩=false:=h9.thaw_ 256
        have hb6:=zac HT.out.bel HT.out.next.own HT.out.bel.size hgrow6
        clear hown6 hgrow6 h9 hO
        refine hK.out _ _ (hb6) (fun hHeld=>?_)
        clear hK K
        try simp only[Act.put,sA,sB,sC]
        (refine tkA 7 ?_;try simp only[Act.put,sA,sB,sC])
        refine rd1 8 (fun K hK=>?_)
        ·skip
         go_simp
         refine hK.out _ _ (HT8.out.bel) (fun hHeld=>?_)
         clear hK K
         try simp only[Act.put,sA,sB,sC]
         refine wpAnyH_done (by kernel_rfl) ?_ _
         rw[<-hRs.out] at HT8
         clear hHeld z2 z3 hb6
         go_wp2_with fail
         go_roundw
         case rel=>exact⟨i+1,_,a7,c7,by go_num,by omega,HT8⟩
         case measure=>simp[intOf];omega
    refine arC (fun K hK=>?_) ?_
    ·skip
     have hlt9:=(HT.out.next.lt).2
     have hltK:=zaE HT.out.mks
     go_simp
     go_at_call 86
     refine (zch 90 b3 D.n (fun x=>if f x=true then ((x:Nat):Int) else -1) C (D.Cp i) (D.A i) (D.nx i) _ zev (fun W' h x hx=>zf4 b3 D.n cA aA f W' ((HS3.out.keep HT.out.bel).keep h) ((HAf.out.1.below HT.out.bel).below h) x hx) (by omega) (by have h9:=HzN.out;exact h9) (fun c hc=>HB.out.2.2.nx i c hlt hc) (by omega)).mono ?_
     rintro e w5 ⟨a5,c5,rfl,ho5,b5⟩
     have HU:Hid (w5.ownsRow w1.heap.size 3 1 (.slice a5 C c5) C (ints ((List.range C).map (trF D i)))/\(∀j,j<((List.range i).map fun i=>(List.range C).map (trF D i)).length->∀b,(ws j).ownBlock=some b->(Value.slice a5 C c5).ownBlock≠some b)/\∀b,(Value.slice a5 C c5).ownBlock=some b->(Value.slice a6 D.n c6).ownBlock≠some b):=by
      have habv:=zas ho5
      refine⟨?_,fun j hj b e1 e2=>?_,fun b e1 e2=>?_⟩
      ·rw[<-HRow.out];exact zag ho5 HT.out.bel.size
      ·have h1:=hlt9 j hj b e1
       have h2:=habv b e2
       try simp only[zaw] at h1
       try simp only[zaw] at h2
       omega
      ·have h1:=hltK b e2
       have h2:=habv b e1
       try simp only[zaw] at h1
       try simp only[zaw] at h2
       omega
     have HT:=hid (HT.out.keep b5)
     clear ho5 b5 hlt9 hltK
     try go_wp2_with fail
     refine hK.out _ _ (HT.out.bel) (fun hHeld=>?_)
     clear hK K
     try simp only[Act.put,sA,sB,sC]
     refine wpAnyH_ready (rs:=[1,5]) (by kernel_rfl) (by simp) ?_
     refine arC (fun K hK=>?_) ?_
     ·skip
      have f1:=HT.out.f1
      go_simp
      refine hK.out _ _ (hHeld) (fun hHeld=>?_)
      clear hK K
      try simp only[Act.put,sA,sB,sC]
      clear f1
      refine rd1 5 (fun K hK=>?_)
      ·skip
       go_simp
       have kk:=al w5 (.cells #[.slice a5 C c5] 30)
       have HN:Hid (∀j u,[Value.slice a5 C c5][j]?=some u->(w5.alloc (.cells #[.slice a5 C c5] 30)).cell? ((⟨w5.heap.size,0,none⟩:Addr).add j)=some u):=cell_one_new _ _ _
       have HT:=hid (HT.out.keep kk)
       have HU:=hid (And.intro (zab HU.out.1 kk) HU.out.2)
       refine hK.out _ _ (HT.out.bel) (fun hHeld=>?_)
       clear hK K
       try simp only[Act.put,sA,sB,sC]
       clear kk
       generalize w5.alloc (.cells #[.slice a5 C c5] 30)=V5 at HN HT HU hHeld⊢
       refine rd1 6 (fun K hK=>?_)
       ·skip
        have hO:=HT.out.next.own
        rw[hRl.out] at hO
        refine zao (by rfl) _ _ _ (by rfl) w1.heap.size 30 iV (.slice none 0 0) 1 24 Tryz.underlying37 hV hV0 hV1 hV2 (by rfl) (by decide) _ i ((List.range i).map ws) (by rfl) hO ⟨w5.heap.size,0,none⟩ 1 1 [.slice a5 C c5] (by rfl) (by rfl) HN.out (by intro u hu;simp at hu;subst hu;rfl) (by unfold maxLen;omega) (by omega) HT.out.bel.size ?_
        intro v6 w6 hown6 hgrow6
        obtain⟨a7,c7,rfl⟩:=zaa hown6
        have HT8:=hid (HT.out.addRow (u:=.slice a5 C c5) (vN':=.slice a7 (i+1) c7) HU.out.1 HU.out.2.1 HU.out.2.2 hRl.out hown6 hgrow6)
        have h9:=HT.out.st.grown_own HT.out.next.own (by decide) hgrow6
        have z2:w6.cell? ⟨b4,256,none⟩=some (.slice aN i cN):=by rw[h9.at_,zbV]
        have z3:w6.frozen? ⟨b4,256,none⟩=false:=h9.thaw_ 256
        have hb6:=zac HT.out.bel HT.out.next.own HT.out.bel.size hgrow6
        clear hown6 hgrow6 h9 hO
        refine hK.out _ _ (hb6) (fun hHeld=>?_)
        clear hK K
        try simp only[Act.put,sA,sB,sC]
        (refine tkA 7 ?_;try simp only[Act.put,sA,sB,sC])
        refine rd1 8 (fun K hK=>?_)
        ·skip
         go_simp
         refine hK.out _ _ (HT8.out.bel) (fun hHeld=>?_)
         clear hK K
         try simp only[Act.put,sA,sB,sC]
         refine wpAnyH_done (by kernel_rfl) ?_ _
         rw[<-hRs.out] at HT8
         clear hHeld z2 z3 hb6
         go_wp2_with fail
         go_roundw
         case rel=>exact⟨i+1,_,a7,c7,by go_num,by omega,HT8⟩
         case measure=>simp[intOf];omega
     refine arC (fun K hK=>?_) ?_
     ·skip
      go_simp
      have kk:=al w5 (.cells #[.slice a5 C c5] 30)
      have HN:Hid (∀j u,[Value.slice a5 C c5][j]?=some u->(w5.alloc (.cells #[.slice a5 C c5] 30)).cell? ((⟨w5.heap.size,0,none⟩:Addr).add j)=some u):=cell_one_new _ _ _
      have HT:=hid (HT.out.keep kk)
      have HU:=hid (And.intro (zab HU.out.1 kk) HU.out.2)
      refine hK.out _ _ (HT.out.bel) (fun hHeld=>?_)
      clear hK K
      try simp only[Act.put,sA,sB,sC]
      clear kk
      generalize w5.alloc (.cells #[.slice a5 C c5] 30)=V5 at HN HT HU hHeld⊢
      refine rd1 1 (fun K hK=>?_)
      ·skip
       have f1:=HT.out.f1
       go_simp
       refine hK.out _ _ (hHeld) (fun hHeld=>?_)
       clear hK K
       try simp only[Act.put,sA,sB,sC]
       clear f1
       refine rd1 6 (fun K hK=>?_)
       ·skip
        have hO:=HT.out.next.own
        rw[hRl.out] at hO
        refine zao (by rfl) _ _ _ (by rfl) w1.heap.size 30 iV (.slice none 0 0) 1 24 Tryz.underlying37 hV hV0 hV1 hV2 (by rfl) (by decide) _ i ((List.range i).map ws) (by rfl) hO ⟨w5.heap.size,0,none⟩ 1 1 [.slice a5 C c5] (by rfl) (by rfl) HN.out (by intro u hu;simp at hu;subst hu;rfl) (by unfold maxLen;omega) (by omega) HT.out.bel.size ?_
        intro v6 w6 hown6 hgrow6
        obtain⟨a7,c7,rfl⟩:=zaa hown6
        have HT8:=hid (HT.out.addRow (u:=.slice a5 C c5) (vN':=.slice a7 (i+1) c7) HU.out.1 HU.out.2.1 HU.out.2.2 hRl.out hown6 hgrow6)
        have h9:=HT.out.st.grown_own HT.out.next.own (by decide) hgrow6
        have z2:w6.cell? ⟨b4,256,none⟩=some (.slice aN i cN):=by rw[h9.at_,zbV]
        have z3:w6.frozen? ⟨b4,256,none⟩=false:=h9.thaw_ 256
        have hb6:=zac HT.out.bel HT.out.next.own HT.out.bel.size hgrow6
        clear hown6 hgrow6 h9 hO
        refine hK.out _ _ (hb6) (fun hHeld=>?_)
        clear hK K
        try simp only[Act.put,sA,sB,sC]
        (refine tkA 7 ?_;try simp only[Act.put,sA,sB,sC])
        refine rd1 8 (fun K hK=>?_)
        ·skip
         go_simp
         refine hK.out _ _ (HT8.out.bel) (fun hHeld=>?_)
         clear hK K
         try simp only[Act.put,sA,sB,sC]
         refine wpAnyH_done (by kernel_rfl) ?_ _
         rw[<-hRs.out] at HT8
         clear hHeld z2 z3 hb6
         go_wp2_with fail
         go_roundw
         case rel=>exact⟨i+1,_,a7,c7,by go_num,by omega,HT8⟩
         case measure=>simp[intOf];omega
     exact AllReadyH.nil
    exact AllReadyH.nil
   ·obtain rfl:i=D.n:=by omega
    have HSt4:=hid HT.out.st
    have HSt2:=hid (H1.out.2.1.keep HT.out.bel)
    have hd:=zay D.K (.slice aN D.n cN) (.slice a6 D.n c6)
    have hbB:Hid (Below w.heap.size w (wr.setRow b2 (dfC D.K (.slice aN D.n cN) (.slice a6 D.n c6)))):=by
     rw[Hb.out.1]
     exact zaj (H1.out.2.2.trans (HT.out.bel.mono (by have:=hbw1.out;have:=Hb.out.1;omega))) (by have:=Hb.out;omega) _
    have HF:Hid (DfP D C D.n (trF D) D.q w (.returned (.agg (dfC D.K (.slice aN D.n cN) (.slice a6 D.n c6)))) (wr.setRow b2 (dfC D.K (.slice aN D.n cN) (.slice a6 D.n c6)))):=
     HT.out.dfp HB.out.1.dm.kl hRl.out (fun r hr=>by obtain⟨j,_,rfl⟩:=List.mem_map.1 hr;simp) rfl (fun j hj c hc=>by simp[List.getD_eq_getElem?_getD,hj,hc]) hbw1.out (Or.inr ⟨b2,_,_,HSt2.out,rfl⟩) hbB.out
    go_wp2_with (first|(refine zam rfl 39 _ rfl ⟨b4,0,none⟩ rfl (dfC D.K (.slice aN D.n cN) (.slice a6 D.n c6)) _ HSt4.out.part Tryz.underlying39 rfl (by rw[zah,hd]) ?_)|(refine zaf rfl 39 _ _ rfl b2 39 (zC 39) (dfC D.K (.slice aN D.n cN) (.slice a6 D.n c6)) rfl rfl HSt2.out (by rw[zak,hd]) (by rw[zah,hd]) (zba _ _ _ _ _ _ _) ?_))
    refine bodyPost_ret (results_cell_row rfl _ _ b2 39 (dfC D.K (.slice aN D.n cN) (.slice a6 D.n c6)) (0,0) _ rfl HSt2.out.setRow Tryz.underlying39 rfl (by rw[zah,hd])) rfl ?_
    exact HF.out
end Go.Proofs.YtjehgdjlncofeaaGreat
