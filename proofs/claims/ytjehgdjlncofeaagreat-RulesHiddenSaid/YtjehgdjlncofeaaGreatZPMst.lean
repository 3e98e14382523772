import Derived.Test.YtjehgdjlncofeaaGreatZMUniq
import Derived.Test.YtjehgdjlncofeaaGreatZPBlk
set_option linter.unusedVariables false
set_option linter.unusedSimpArgs false
set_option maxHeartbeats 4000000
set_option maxRecDepth 100000
open Go.Lib (hid)
namespace Go.Proofs.YtjehgdjlncofeaaGreat
open Go.RowKit Go.Maps Go.WideElems Go.ChangeMaps Go.MapKept
theorem zhq {w:World}{B n c:Nat}{a:Option Addr}{f:Nat->Nat}(h:w.ownsRow B 3 1 (.slice a n c) n (zai ((List.range n).map f))):ZAt w a n (fun i=>((f i:Nat):Int)):=by
 intro h0
 obtain⟨g,e,h1,h2,h3⟩:=zae h h0
 refine⟨g,0,e,h2,fun j hj=>?_⟩
 have:=(h3 j (by omega)).1
 rw[Nat.zero_add,this]
 simp[zai,hj]
def zml (z:Nat->Int) (l:List Nat) (m:Nat) (w:World) (e:Ending) (w':World):Prop:=
 ∃(a:Option Addr) (c:Nat),e=.returned (.slice a m c)/\w'.ownsRow w.heap.size 3 1 (.slice a m c) m (ints (l.map z))/\Below w.heap.size w w'
theorem zjs (z:Nat->Int) (l:List Nat) (k:Nat) (hk:k<l.length):ints ((l.take (k+1)).map z)=ints ((l.take k).map z)++[.int .i64 (z (l.getD k 0))]:=by
 rw[List.take_succ_eq_append_getElem hk,List.map_append,List.getD_eq_getElem?_getD,List.getElem?_eq_getElem hk]
 simp[ints]
theorem zec (z:Nat->Int) (N:Nat) (l:List Nat) (m:Nat) (hm:l.length=m) (hm1:m<=100000) (hN:N<=100000) (hl:∀x∈l,x<N) (a1 a2:Option Addr) (c1 c2:Nat) (w:World) (hZ:ZAt w a1 N z) (hL:LAt w a2 l):
  Calls Tryz.prog 92 #[.slice a1 N c1,.slice a2 m c2] w (zml z l m w):=by
 have hmk:=zcQ m (by omega)
 have HX:=hid (And.intro hm (And.intro hl (And.intro hZ hL)))
 clear hm hl hZ hL
 go_enter Tryz.func92,Tryz.ntmps92
 go_upto_region 2 with fail
 obtain⟨b0,hb0⟩:∃b0,w.heap.size=b0:=⟨_,rfl⟩
 obtain⟨W2,hW2⟩:∃W2,w.alloc (.cells (madeCells #[.int .i64 0] m) 3)=W2:=⟨_,rfl⟩
 have k1:=al w (.cells (madeCells #[.int .i64 0] m) 3)
 have hO:=zby m (by omega) w w.heap.size (Nat.le_refl _)
 rw[hW2] at hO k1
 have HG0:Hid (Below w.heap.size w W2/\W2.ownsRow w.heap.size 3 1 (.slice (some ⟨b0,0,none⟩) 0 m) 0 (ints ((l.take 0).map z))):=⟨k1,by rw[<-hb0];simpa [ints] using hO⟩
 clear hO k1
 try rw[hW2]
 try rw[hb0]
 have Hb:=hid hb0
 clear hb0 hW2
 go_wp2_with fail
 go_loopw [5,7,13] (fun v5 _ vk wr=>∃k:Nat,vk=.int .i64 k/\k<=m/\(∃a c,v5=.slice a k c)/\Hid (Below w.heap.size w wr/\wr.ownsRow w.heap.size 3 1 v5 k (ints ((l.take k).map z)))) (fun _ _ v _=>m-(intOf v).toNat)
 case atStart=>exact⟨0,rfl,Nat.zero_le _,⟨_,_,rfl⟩,HG0.out⟩
 case round=>
  clear HG0
  obtain⟨k,rfl,hk,⟨a5,c5,rfl⟩,HL⟩:=hrel
  by_cases hlt:k<m
  ·have hkl:k<l.length:=by have:=HX.out.1;omega
   obtain⟨g,off,rfl,hg,hc⟩:=HX.out.2.2.2 (by omega)
   have d0:=(HL.out.1.cell (p:=⟨g,off+k,none⟩) hg).trans (hc k hkl)
   simp only[] at d0
   have hx:l.getD k 0<N:=by
    rw[List.getD_eq_getElem?_getD,List.getElem?_eq_getElem hkl]
    exact HX.out.2.1 _ (List.getElem_mem hkl)
   obtain⟨g1,off1,rfl,hg1,hc1⟩:=HX.out.2.2.1 (by omega)
   have d1:=(HL.out.1.cell (p:=⟨g1,off1+l.getD k 0,none⟩) hg1).trans (hc1 _ hx)
   have HE:=hid (zjs z l k hkl)
   have hlo:=HL.out.1.size
   obtain⟨i0,hi0,hz0,hz1,hz2⟩:=info_parts Tryz.info_int9
   have i1:(k:Int)<(m:Int):=by omega
   clear hc hg hc1 hg1
   obtain⟨x,hx9⟩:∃x,l.getD k 0=x:=⟨_,rfl⟩
   rw[hx9] at d0 d1 hx HE
   obtain⟨y,hy9⟩:∃y,z x=y:=⟨_,rfl⟩
   rw[hy9] at d1 HE
   clear hx9 hy9
   have i2:(x:Int)<(N:Int):=by omega
   have ho9:=HL.out.2
   go_wp2_with (at_builtin;refine wpList_append_own_at _ rfl _ _ 30 rfl w.heap.size 3 i0 (.int .i64 0) 1 8 Tryz.underlying30 hi0 hz0 hz1 hz2 rfl (by decide) _ _ _ rfl (ho9.alloc _) ⟨wr.heap.size,0,none⟩ 1 1 [.int .i64 y] rfl rfl (cell_one_new _ _ _) ?d2 ?d3 ?d4 ?d5 ?_)
   case d2=>first|(intro u hu;simp at hu;subst hu;rfl)|rfl
   case d3=>unfold maxLen;omega
   case d4=>omega
   case d5=>first|(simp;omega)|omega
   intro v' w5 hown5 hgrow5 _ hat5
   obtain⟨a6,c6,rfl⟩:=zaa hown5
   have HF:Hid (Below w.heap.size w w5/\w5.ownsRow w.heap.size 3 1 (.slice a6 (k+1) c6) (k+1) (ints ((l.take (k+1)).map z))):=by
    have k9:=al wr (.cells #[.int .i64 y] 3)
    exact⟨zac (HL.out.1.trans (k9.mono hlo)) (zab HL.out.2 k9) (by simp;omega) hgrow5,by rw[HE.out];first|exact hown5|(rw[List.map_take];exact hown5)⟩
   clear hown5 hgrow5 hat5 ho9
   go_wp2_with fail
   go_roundw
   case rel=>exact⟨k+1,by go_num,by omega,⟨_,_,rfl⟩,HF.out⟩
   case measure=>simp[intOf];omega
  ·obtain rfl:k=m:=by omega
   have HF:Hid (zml z l k w (.returned (.slice a5 k c5)) wr):=by
    have e:l.take k=l:=List.take_of_length_le (by have:=HX.out.1;omega)
    have h:=HL.out
    rw[e] at h
    exact⟨a5,c5,rfl,h.2,h.1⟩
   clear HL
   go_wp2_with fail
   go_ret
   exact HF.out
def mgR (D:Dd) (C:Nat) (f:Nat->Nat) (l:List Nat):List (List Int):=l.map fun i=>(List.range C).map (mgF D f i)
theorem zk8 {α:Type}(l:List Nat) (g:Nat->α) (n:Nat) (h:n=l.length):l.map g=(List.range n).map fun b=>g (l.getD b 0):=by
 subst h
 apply List.ext_getElem?
 intro i
 by_cases hi:i<l.length
 ·simp[List.getD_eq_getElem?_getD,hi]
 ·simp[hi]
theorem zbl (D:Dd) (C:Nat) (hR:DR D C) (R:Nat->Nat->Prop) (f:Nat->Nat) (B:Nat) (hN:Num R D.n f B) (a:Option Addr) (cp:Nat) (w:World) (hD:DM w D) (hL:ZAt w a D.n (fun i=>((f i:Nat):Int))):
  Calls Tryz.prog 58 #[.agg D.cD,.slice a D.n cp] w (DfP D C B (fun b c=>mgF D f ((rpl f D.n).getD b 0) c) (fun b=>D.q ((rpl f D.n).getD b 0)) w):=by
 have hn2:=hR.n2
 have hn1:=hR.n1
 have hmn:=hR.m
 have hC6:=(hR.c256 hD.kl).2
 have HB:=hid (And.intro (DBx.new hD) (And.intro (al w (.cells D.cD 39)) (And.intro hR (And.intro hN hL))))
 obtain⟨iI,hI,hI0,hI1,hI2⟩:=info_parts Tryz.info_int9
 obtain⟨iV,hV,hV0,hV1,hV2⟩:=info_parts Tryz.info_ints
 clear hD hR hN hL
 go_enter Tryz.func58,Tryz.ntmps58
 go_upto_region 1 with (refine zap rfl 39 rfl (zC 39) (zat _) ?_)
 try simp only[Act.put,List.setIfInBounds_toArray,List.set_cons_zero,List.set_cons_succ,zb8]
 have H0:Hid (DBx ((w.alloc (.cells D.cD 39)).alloc (.cells (zC 39) 39)) w.heap.size D/\St ((w.alloc (.cells D.cD 39)).alloc (.cells (zC 39) 39)) 39 (w.heap.size+1) (zC 39)/\Below w.heap.size w ((w.alloc (.cells D.cD 39)).alloc (.cells (zC 39) 39))):=by
  refine⟨HB.out.1.keep (al _ _),?_,HB.out.2.1.trans ((al _ _).mono (by simp))⟩
  have:=St.new (w.alloc (.cells D.cD 39)) 39 (zC 39)
  simpa using this
 generalize (w.alloc (.cells D.cD 39)).alloc (.cells (zC 39) 39)=Wn at H0⊢
 obtain⟨b2,hb2⟩:∃b2,w.heap.size+1=b2:=⟨_,rfl⟩
 obtain⟨b0,hb0⟩:∃b0,w.heap.size=b0:=⟨_,rfl⟩
 rw[hb2,hb0] at H0
 rw[hb2,hb0]
 have Hb:=hid (And.intro hb0 hb2)
 clear hb2 hb0
 have HBx:=hid H0.out.1
 have k5:=al Wn (.cells (zC 39) 39)
 have hst4:St (Wn.alloc (.cells (zC 39) 39)) 39 Wn.heap.size (zC 39):=St.new _ _ _
 have hTr:TrA Wn Wn.heap.size D.K C (.slice none 0 0) (mgR D C f (rpl f 0)) (fun _=>.slice none 0 0) (.slice none 0 0) ((rpl f 0).map D.q) ((Wn.alloc (.cells (zC 39) 39)).setRow Wn.heap.size (dfC D.K (.slice none 0 0) (.slice none 0 0))):=TrA.start (V0:=Wn) (K:=D.K) (C:=C) (ws:=fun _=>.slice none 0 0) (a:=none) (c:=0) (ms:=[]) (World.ownsRow_nil _ _ _ _) rfl k5 hst4 (Nat.le_refl _)
 have HT0:=hid hTr
 have HSt4:=hid hst4
 clear k5 hst4 hTr
 go_upto_region 2 with (first
  | (refine zam rfl 36 _ rfl ⟨b0,0,none⟩ rfl (clsOf D.K) (.array 256 5) HBx.out.clsPart Tryz.underlying36 rfl (zaK D.K) ?_)
  | (refine zaF rfl 39 _ rfl #[(0,.agg (clsOf D.K))] (by first|rfl|kernel_rfl|(go_simp;done)) (.agg (dfC D.K (.slice none 0 0) (.slice none 0 0))) (zes D.K _) ?_)
  | (refine zap rfl 39 rfl (zC 39) (zat _) ?_)
  | (refine zaf rfl 39 _ _ rfl Wn.heap.size 39 (zC 39) (dfC D.K (.slice none 0 0) (.slice none 0 0)) rfl rfl HSt4.out (by rw[zak,zay]) (by rw[zah,zay]) (zba _ _ _ _ _ _ _) ?_))
 simp only[Act.put,sA,sB,sC]
 obtain⟨b4,hb4⟩:∃b4,Wn.heap.size=b4:=⟨_,rfl⟩
 have Hb4:=hid hb4
 rw[hb4] at HT0
 rw[hb4]
 generalize (Wn.alloc (.cells (zC 39) 39)).setRow b4 (dfC D.K (.slice none 0 0) (.slice none 0 0))=W4 at HT0⊢
 clear hb4 HSt4
 obtain⟨gL,oL,rfl,hgL,cL0⟩:=HB.out.2.2.2.2 (by omega)
 have HcL:=hid (And.intro hgL cL0)
 clear hgL cL0
 go_wp2_with fail
 go_loopw [6,7,8,9,10,16] (fun _ _ _ _ _ v wr=>∃(i:Nat) (ws:Nat->Value) (aN aK:Option Addr) (p cN cK:Nat),v=.int .i64 i/\i<=D.n/\p<=i/\Hid (p=(rpl f i).length/\TrA Wn b4 D.K C (.slice aN p cN) (mgR D C f (rpl f i)) ws (.slice aK p cK) ((rpl f i).map D.q) wr)) (fun _ _ _ _ _ v _=>D.n-(intOf v).toNat)
 case atStart=>exact⟨0,_,none,none,0,0,0,rfl,by omega,by omega,rfl,HT0.out⟩
 case round=>
  clear HT0
  obtain⟨i,ws,aN,aK,p,cN,cK,rfl,hi,hpi,HP,HT⟩:=hrel
  by_cases hlt:i<D.n
  ·have hbn:w.heap.size<=Wn.heap.size:=H0.out.2.2.size
   have Hck:Hid (∀W',Below Wn.heap.size Wn W'->∀j,j<D.n->W'.cell? ⟨gL,oL+j,none⟩=some (.int .i64 ((f j:Nat):Int))):=fun W' h j hj=>((H0.out.2.2.trans (h.mono (by rw[<-Hb.out.1];exact hbn))).cell (p:=⟨gL,oL+j,none⟩) (by rw[<-Hb.out.1];exact HcL.out.1)).trans (HcL.out.2 j hj)
   have d0:=Hck.out wr HT.bel i hlt
   have fb:=HT.f1
   have hrp:=HB.out.2.2.2.1.rpl i (by omega)
   have hp3:=hrp.2.2 hlt
   rw[<-HP] at hp3
   have i1:(i:Int)<(D.n:Int):=by omega
   have hp32:p<=32768:=by omega
   have HTr:=hid HT
   have HPl:=hid HP
   obtain⟨fi,hfi⟩:∃fi,f i=fi:=⟨_,rfl⟩
   rw[hfi] at d0 hp3
   by_cases hkn:fi<p
   ·have i2:(fi:Int)<(p:Int):=by omega
    have HN:Hid (p=(rpl f (i+1)).length/\TrA Wn b4 D.K C (.slice aN p cN) (mgR D C f (rpl f (i+1))) ws (.slice aK p cK) ((rpl f (i+1)).map D.q) wr):=by
     rw[zck (by rw[hfi,<-HP];exact hkn)]
     exact⟨HP,HT⟩
    clear HP HT hrp hfi
    go_wp2_with fail
    go_roundw
    case rel=>exact⟨i+1,ws,aN,aK,p,cN,cK,by go_num,by omega,by omega,HN.out⟩
    case measure=>simp[intOf];omega
   ·have i2:¬((fi:Int)<(p:Int)):=by omega
    have hpn:rpl f (i+1)=rpl f i++[i]:=zcl (by rw[hfi,<-HP];exact hkn)
    have HPn:=hid hpn
    have hmkr:=zbI C (by omega)
    have HBr:=hid (HBx.out.keep HT.bel)
    have f1:=HBr.out.f1
    obtain⟨gN,oN,eN,hgN,cN1,zN⟩:=HBr.out.dm.row i hlt
    rw[eN] at f1
    rw[HB.out.2.2.1.len i hlt] at cN1 zN
    have HeN:=hid eN
    have HzN:=hid zN
    have HO0:=hid (zbO wr wr.heap.size C 3 (.int .i64 0) (Nat.le_refl _) (by unfold maxLen;omega))
    have HB0:=hid (al wr (.cells (madeCells #[.int .i64 0] C) 3))
    have Hgn:=hid hgN
    clear HP HT hrp eN zN hpn hgN
    go_upto_region 7 with fail
    obtain⟨g,hg⟩:∃g,wr.heap.size=g:=⟨_,rfl⟩
    have HO2:Hid ((wr.alloc (.cells (madeCells #[.int .i64 0] C) 3)).ownsRow g 3 1 (.slice (some ⟨g,0,none⟩) C C) C (ints ([]++List.replicate (C-0) 0))/\Below g wr (wr.alloc (.cells (madeCells #[.int .i64 0] C) 3))):=by
     rw[<-hg]
     refine⟨?_,HB0.out⟩
     have:=HO0.out
     simpa [ints] using this
    have Hg:=hid hg
    have f1':=(HB0.out.cell (p:=⟨b0,256,none⟩) HBr.out.st.lt).trans f1
    have cN1':=(HB0.out.cell (p:=⟨gN,oN+i,none⟩) Hgn.out).trans cN1
    rw[hg]
    clear HO0 HB0 hg f1 cN1 d0 fb
    generalize wr.alloc (.cells (madeCells #[.int .i64 0] C) 3)=W6 at HO2 f1' cN1'⊢
    revert wr
    intro wo HTr HBr HzN Hgn Hg HO2
    go_wp2_with fail
    go_loopw [9,10,39] (fun _ _ v wq=>∃(k:Nat),v=.int .i64 k/\k<=C/\Hid (wq.ownsRow g 3 1 (.slice (some ⟨g,0,none⟩) C C) C (ints ((List.range k).map (mgF D f i)++List.replicate (C-k) 0))/\Below g wo wq)) (fun _ _ v _=>C-(intOf v).toNat)
    case atStart=>exact⟨0,rfl,by omega,HO2⟩
    case round=>
     clear HO2 f1' cN1'
     obtain⟨k,rfl,hk,HA⟩:=hrel
     have hBw:Below wo.heap.size wo wr:=by rw[Hg.out];exact HA.out.2
     by_cases hlk:k<C
     ·obtain⟨gA,oA,eA,hgA,cA0⟩:=HzN.out (by omega)
      have cA:=(hBw.cell (p:=⟨gA,oA+k,none⟩) hgA).trans (cA0 k hlk)
      have hzb:=HB.out.2.2.1.nx i k hlt hlk
      obtain⟨g',e',_,_,hc'⟩:=zae HA.out.1 (by omega)
      obtain rfl:g'=g:=by
       injection e' with e'
       injection e' with e' _
       exact e'.symm
      obtain⟨y0,y1⟩:=hc' k (by omega)
      have hlen:((List.range k).map (mgF D f i)).length=k:=by simp
      have y2:(ints ((List.range k).map (mgF D f i)++List.replicate (C-k) 0))[k]?=some (.int .i64 0):=by
       have:0<C-k:=by omega
       simp[ints,List.getElem?_append,this]
      rw[y2] at y0
      have HP1:Hid ((wr.setCell ⟨g',k,none⟩ (.int .i64 (-1))).ownsRow g' 3 1 (.slice (some ⟨g',0,none⟩) C C) C (ints (((List.range k).map (mgF D f i)++[-1])++List.replicate (C-(k+1)) 0))/\Below g' wo (wr.setCell ⟨g',k,none⟩ (.int .i64 (-1)))):=by
       refine⟨?_,HA.out.2.setCell (p:=⟨g',k,none⟩) (Nat.le_refl _) _⟩
       have:=za9 HA.out.1 k hlk (.int .i64 (-1))
       rwa [zbJ _ C k _ hlen hlk] at this
      have HMv:Hid (∀v,mgF D f i k=v->(List.range (k+1)).map (mgF D f i)=(List.range k).map (mgF D f i)++[v]):=fun v h=>by
       rw[List.range_succ,List.map_append,List.map_singleton,h]
      have HFn:Hid ((D.nx i k=-1->mgF D f i k=-1)/\∀x:Nat,D.nx i k=(x:Int)->mgF D f i k=((f x:Nat):Int)):=⟨fun h=>by simp[mgF,h],fun x h=>by
       unfold mgF
       rw[if_neg (by omega),h]
       rfl⟩
      have HLen:=hid hlen
      have i3:(k:Int)<(C:Int):=by omega
      rw[eA]
      have HeA:=hid eA
      have HWo:=hid HTr.out.bel
      try dsimp only at cA
      clear cA0 hc' e' y2 hlen eA hgA
      generalize D.nx i k=t at cA hzb HFn
      go_upto_region 11 with fail
      generalize wr.setCell ⟨g',k,none⟩ (.int .i64 (-1))=W5 at HP1⊢
      clear y0 y1 cA hBw
      by_cases ht:t=-1
      ·subst ht
       have HZ:=hid (HMv.out (-1) (HFn.out.1 rfl))
       go_wp2_with fail
       go_roundw
       case rel=>exact⟨k+1,by go_num,by omega,by rw[HZ.out];exact HP1⟩
       case measure=>simp[intOf];omega
      ·obtain⟨x,rfl⟩:∃x:Nat,t=(x:Int):=⟨t.toNat,by omega⟩
       have hxn:x<D.n:=by omega
       have hx2:((x:Int) != (-1:Int))=true:=by first|(simp;done)|(simp;omega)
       have i4:(x:Int)<(D.n:Int):=by omega
       have dx:=Hck.out W5 (HWo.out.trans (HP1.out.2.mono (by rw[<-Hg.out];exact HWo.out.size))) x hxn
       have HZ:=hid (HMv.out _ (HFn.out.2 x rfl))
       generalize f x=r at dx HZ
       obtain⟨g2,e2,_,_,hc2⟩:=zae HP1.out.1 (by omega)
       obtain rfl:g2=g':=by
        injection e2 with e2
        injection e2 with e2 _
        exact e2.symm
       obtain⟨y0,y1⟩:=hc2 k (by omega)
       have y2:(ints (((List.range k).map (mgF D f i)++[-1])++List.replicate (C-(k+1)) 0))[k]?=some (.int .i64 (-1)):=by
        simp[ints,List.getElem?_append]
       rw[y2] at y0
       have HP2:Hid ((W5.setCell ⟨g2,k,none⟩ (.int .i64 (r:Int))).ownsRow g2 3 1 (.slice (some ⟨g2,0,none⟩) C C) C (ints (((List.range k).map (mgF D f i)++[(r:Int)])++List.replicate (C-(k+1)) 0))/\Below g2 wo (W5.setCell ⟨g2,k,none⟩ (.int .i64 (r:Int)))):=by
        refine⟨?_,HP1.out.2.setCell (p:=⟨g2,k,none⟩) (Nat.le_refl _) _⟩
        have:=za9 HP1.out.1 k hlk (.int .i64 (r:Int))
        have e3:(ints (((List.range k).map (mgF D f i)++[-1])++List.replicate (C-(k+1)) 0)).set k (.int .i64 (r:Int))=ints (((List.range k).map (mgF D f i)++[(r:Int)])++List.replicate (C-(k+1)) 0):=by
         have hl:=HLen.out
         rw[<-zbJ _ C k (-1) hl hlk,List.set_set,zbJ _ C k (r:Int) hl hlk]
        rwa [e3] at this
       clear hc2 e2 y2
       go_wp2_with fail
       go_roundw
       case rel=>exact⟨k+1,by go_num,by omega,by rw[HZ.out];exact HP2⟩
       case measure=>simp[intOf];omega
     ·obtain rfl:k=C:=by omega
      have HK:Hid (TrA Wn b4 D.K k (.slice aN p cN) (mgR D k f (rpl f i)) ws (.slice aK p cK) ((rpl f i).map D.q) wr):=HTr.out.keep (by rw[Hg.out];exact HA.out.2)
      have hRl:(mgR D k f (rpl f i)).length=p:=by rw[HPl.out];simp[mgR]
      have HRl:=hid hRl
      have hlo:=HK.out.bel.size
      have HU:Hid (wr.ownsRow Wn.heap.size 3 1 (.slice (some ⟨g,0,none⟩) k k) k (ints ((List.range k).map (mgF D f i)))):=by
       have:=HA.out.1
       rw[Nat.sub_self,List.replicate_zero,List.append_nil] at this
       exact zag this (by rw[<-Hg.out];exact HTr.out.bel.size)
      have HSp:Hid ((∀j,j<(mgR D k f (rpl f i)).length->∀b,(ws j).ownBlock=some b->(Value.slice (some ⟨g,0,none⟩) k k).ownBlock≠some b)/\∀b,(Value.slice (some ⟨g,0,none⟩) k k).ownBlock=some b->(Value.slice aK p cK).ownBlock≠some b):=by
       have hg9:wo.heap.size=g:=Hg.out
       constructor
       ·intro j hj b e1 e2
        have h1:=HTr.out.next.lt.2 j hj b e1
        have h2:g=b:=by simpa [Value.ownBlock] using e2
        omega
       ·intro b e1 e2
        have h1:=zaE HTr.out.mks b e2
        have h2:g=b:=by simpa [Value.ownBlock] using e1
        omega
      have k9:=al wr (.cells #[.slice (some ⟨g,0,none⟩) k k] 30)
      have HK9:Hid (TrA Wn b4 D.K k (.slice aN p cN) (mgR D k f (rpl f i)) ws (.slice aK p cK) ((rpl f i).map D.q) (wr.alloc (.cells #[.slice (some ⟨g,0,none⟩) k k] 30))):=HK.out.keep k9
      have HU9:Hid ((wr.alloc (.cells #[.slice (some ⟨g,0,none⟩) k k] 30)).ownsRow Wn.heap.size 3 1 (.slice (some ⟨g,0,none⟩) k k) k (ints ((List.range k).map (mgF D f i)))):=zab HU.out k9
      have fbk:=HK.out.f1
      have ho9:=HK9.out.next.own
      rw[hRl] at ho9
      have hlo9:=HK9.out.bel.size
      clear HA hRl k9
      go_wp2_with (at_builtin;refine wpList_append_own_at _ rfl _ _ 37 rfl Wn.heap.size 30 iV (.slice none 0 0) 1 24 Tryz.underlying37 hV hV0 hV1 hV2 rfl (by decide) _ _ _ rfl ho9 ⟨wr.heap.size,0,none⟩ 1 1 [.slice (some ⟨g,0,none⟩) k k] rfl rfl (cell_one_new _ _ _) ?d2 ?d3 ?d4 ?d5 ?_)
      case d2=>first|(intro u hu;simp at hu;subst hu;rfl)|rfl
      case d3=>unfold maxLen;omega
      case d4=>omega
      case d5=>first|(simp;omega)|omega
      intro v' w5 hown5 hgrow5 _ hat5
      obtain⟨a5,c5,rfl⟩:=zaa hown5
      have h9:=HK9.out.st.grown_own HK9.out.next.own (by decide) hgrow5
      have z2:w5.cell? ⟨b4,256,none⟩=some (.slice aN p cN):=by rw[h9.at_,zbV]
      have z3:w5.frozen? ⟨b4,256,none⟩=false:=h9.thaw_ 256
      have HT7:=hid (HK9.out.addRow (vN':=.slice a5 (p+1) c5) HU9.out HSp.out.1 HSp.out.2 HRl.out hown5 hgrow5)
      clear hown5 hgrow5 hat5 ho9 h9 fbk
      go_upto_region 15 with fail
      generalize w5.setCell ⟨b4,256,none⟩ (.slice a5 (p+1) c5)=W7 at HT7⊢
      clear z2 z3
      have HFz:Hid (∀W' a9 c9,TrA Wn b4 D.K k (.slice a5 (p+1) c5) (mgR D k f (rpl f i)++[(List.range k).map (mgF D f i)]) (fun j=>if j=p then .slice (some ⟨g,0,none⟩) k k else ws j) (.slice a9 (p+1) c9) ((rpl f i).map D.q++[D.q i]) W'->p+1=(rpl f (i+1)).length/\TrA Wn b4 D.K k (.slice a5 (p+1) c5) (mgR D k f (rpl f (i+1))) (fun j=>if j=p then .slice (some ⟨g,0,none⟩) k k else ws j) (.slice a9 (p+1) c9) ((rpl f (i+1)).map D.q) W'):=by
       show ∀W' a9 c9,_
       intro W' a9 c9 h
       rw[HPn.out]
       refine⟨by rw[HPl.out];simp,?_⟩
       have e1:mgR D k f (rpl f i++[i])=mgR D k f (rpl f i)++[(List.range k).map (mgF D f i)]:=by simp[mgR]
       have e2:(rpl f i++[i]).map D.q=(rpl f i).map D.q++[D.q i]:=by simp
       rw[e1,e2]
       exact h
      have hml:Hid (((rpl f i).map D.q).length=p):=by show _=_;rw[List.length_map];exact HPl.out.symm
      obtain⟨gM,oM,eM,hgM,cM0⟩:=H0.out.1.dm.rM (by omega)
      have hf2:=H0.out.1.f2
      rw[eM] at hf2
      have i3:(i:Int)<(D.m:Int):=by omega
      have cM1:=cM0 i (by omega)
      have HSo:Hid (∀W',Below Wn.heap.size Wn W'->Below Wn.heap.size Wn W'/\W'.cell? ⟨b0,257,none⟩=some (.slice (some ⟨gM,oM,none⟩) D.m D.cM)/\W'.cell? ⟨gM,oM+i,none⟩=some (.int .i64 (D.q i))):=fun W' h=>⟨h,(h.cell (p:=⟨b0,257,none⟩) H0.out.1.st.lt).trans hf2,(h.cell (p:=⟨gM,oM+i,none⟩) hgM).trans cM1⟩
      clear eM hgM cM0 hf2 cM1
      generalize D.q i=qx at HSo HFz
      generalize mgR D k f (rpl f i)++[(List.range k).map (mgF D f i)]=R9 at HT7 HFz
      generalize (fun j=>if j=p then Value.slice (some ⟨g,0,none⟩) k k else ws j)=ws9 at HT7 HFz
      generalize (rpl f i).map D.q=ms9 at HT7 HFz hml
      clear HK9 HK HU9 HU HSp
      refine wp_region_held_drew (S:=fun W'=>Below Wn.heap.size Wn W'/\W'.cell? ⟨b0,257,none⟩=some (.slice (some ⟨gM,oM,none⟩) D.m D.cM)/\W'.cell? ⟨gM,oM+i,none⟩=some (.int .i64 qx)) (by kernel_rfl) (HSo.out _ HT7.out.bel.drew) (fun hHeld=>?_)
      have HO:Hid (TrA Wn b4 D.K k (.slice a5 (p+1) c5) R9 ws9 (.slice aK p cK) ms9 W7.drew):=HT7.out.keep (Below.refl _ _).drew
      (refine tkA 0 ?_;refine tkA 2 ?_;refine tkA 3 ?_;refine tkA 4 ?_;refine tkA 5 ?_;refine tkA 6 ?_;try simp only[Act.put,sA,sB,sC])
      refine wpAnyH_ready (rs:=[1,7]) (by kernel_rfl) (by simp) ?_
      refine arC (fun K hK=>?_) ?_
      ·skip
       have f2:=HO.out.f2
       go_simp
       refine hK.out _ _ (hHeld) (fun hHeld=>?_)
       clear hK K
       try simp only[Act.put,sA,sB,sC]
       clear f2
       refine rd1 7 (fun K hK=>?_)
       ·skip
        go_simp
        have kk:=al W7.drew (.cells #[.int .i64 qx] 3)
        have HNw:Hid (∀j u,[Value.int .i64 qx][j]?=some u->((W7.alloc (.cells #[.int .i64 qx] 3)).drew).cell? ((⟨W7.heap.size,0,none⟩:Addr).add j)=some u):=cell_one_new W7.drew _ _
        have HO:Hid (TrA Wn b4 D.K k (.slice a5 (p+1) c5) R9 ws9 (.slice aK p cK) ms9 ((W7.alloc (.cells #[.int .i64 qx] 3)).drew)):=HO.out.keep kk
        refine hK.out _ _ (HSo.out _ HO.out.bel) (fun hHeld=>?_)
        clear hK K
        try simp only[Act.put,sA,sB,sC]
        clear kk
        generalize (W7.alloc (.cells #[.int .i64 qx] 3)).drew=V5 at HNw HO hHeld⊢
        refine rd1 8 (fun K hK=>?_)
        ·skip
         have hO:=HO.out.mks
         rw[hml.out] at hO
         refine zaX (by rfl) _ _ _ (by rfl) Wn.heap.size 3 iI (.int .i64 0) 1 8 Tryz.underlying30 hI hI0 hI1 hI2 (by rfl) (by decide) _ p (ints ms9) (by rfl) hO ⟨W7.heap.size,0,none⟩ 1 1 [.int .i64 qx] (by rfl) (by rfl) HNw.out (by intro u hu;simp at hu;subst hu;rfl) (by unfold maxLen;omega) (by omega) HO.out.bel.size ?_
         intro v6 w6 hown6 hgrow6 hat6
         obtain⟨a9,c9,rfl⟩:=zaa hown6
         have HO8:=hid (HO.out.addMark (vK':=.slice a9 (p+1) c9) (hml.out) hown6 hgrow6 hat6)
         have h9:=HO.out.st.grown_own HO.out.mks (by decide) hgrow6
         have z2:w6.cell? ⟨b4,257,none⟩=some (.slice aK p cK):=by rw[h9.at_,zci]
         have z3:w6.frozen? ⟨b4,257,none⟩=false:=h9.thaw_ 257
         have hb6:=zac HO.out.bel HO.out.mks HO.out.bel.size hgrow6
         clear hown6 hgrow6 hat6 h9 hO
         refine hK.out _ _ (HSo.out _ hb6) (fun hHeld=>?_)
         clear hK K
         try simp only[Act.put,sA,sB,sC]
         (refine tkA 9 ?_;try simp only[Act.put,sA,sB,sC])
         refine rd1 10 (fun K hK=>?_)
         ·skip
          go_simp
          refine hK.out _ _ (HSo.out _ HO8.out.bel) (fun hHeld=>?_)
          clear hK K
          try simp only[Act.put,sA,sB,sC]
          refine wpAnyH_done (by kernel_rfl) ?_ _
          have HFi9:=hid (HFz.out _ a9 c9 HO8.out)
          clear hHeld z2 z3 hb6 HO8 HO
          go_wp2_with fail
          go_roundw
          case rel=>exact⟨i+1,ws9,a5,a9,p+1,c5,c9,by go_num,by omega,by omega,HFi9.out⟩
          case measure=>simp[intOf];omega
      refine arC (fun K hK=>?_) ?_
      ·skip
       go_simp
       have kk:=al W7.drew (.cells #[.int .i64 qx] 3)
       have HNw:Hid (∀j u,[Value.int .i64 qx][j]?=some u->((W7.alloc (.cells #[.int .i64 qx] 3)).drew).cell? ((⟨W7.heap.size,0,none⟩:Addr).add j)=some u):=cell_one_new W7.drew _ _
       have HO:Hid (TrA Wn b4 D.K k (.slice a5 (p+1) c5) R9 ws9 (.slice aK p cK) ms9 ((W7.alloc (.cells #[.int .i64 qx] 3)).drew)):=HO.out.keep kk
       refine hK.out _ _ (HSo.out _ HO.out.bel) (fun hHeld=>?_)
       clear hK K
       try simp only[Act.put,sA,sB,sC]
       clear kk
       generalize (W7.alloc (.cells #[.int .i64 qx] 3)).drew=V5 at HNw HO hHeld⊢
       refine rd1 1 (fun K hK=>?_)
       ·skip
        have f2:=HO.out.f2
        go_simp
        refine hK.out _ _ (hHeld) (fun hHeld=>?_)
        clear hK K
        try simp only[Act.put,sA,sB,sC]
        clear f2
        refine rd1 8 (fun K hK=>?_)
        ·skip
         have hO:=HO.out.mks
         rw[hml.out] at hO
         refine zaX (by rfl) _ _ _ (by rfl) Wn.heap.size 3 iI (.int .i64 0) 1 8 Tryz.underlying30 hI hI0 hI1 hI2 (by rfl) (by decide) _ p (ints ms9) (by rfl) hO ⟨W7.heap.size,0,none⟩ 1 1 [.int .i64 qx] (by rfl) (by rfl) HNw.out (by intro u hu;simp at hu;subst hu;rfl) (by unfold maxLen;omega) (by omega) HO.out.bel.size ?_
         intro v6 w6 hown6 hgrow6 hat6
         obtain⟨a9,c9,rfl⟩:=zaa hown6
         have HO8:=hid (HO.out.addMark (vK':=.slice a9 (p+1) c9) (hml.out) hown6 hgrow6 hat6)
         have h9:=HO.out.st.grown_own HO.out.mks (by decide) hgrow6
         have z2:w6.cell? ⟨b4,257,none⟩=some (.slice aK p cK):=by rw[h9.at_,zci]
         have z3:w6.frozen? ⟨b4,257,none⟩=false:=h9.thaw_ 257
         have hb6:=zac HO.out.bel HO.out.mks HO.out.bel.size hgrow6
         clear hown6 hgrow6 hat6 h9 hO
         refine hK.out _ _ (HSo.out _ hb6) (fun hHeld=>?_)
         clear hK K
         try simp only[Act.put,sA,sB,sC]
         (refine tkA 9 ?_;try simp only[Act.put,sA,sB,sC])
         refine rd1 10 (fun K hK=>?_)
         ·skip
          go_simp
          refine hK.out _ _ (HSo.out _ HO8.out.bel) (fun hHeld=>?_)
          clear hK K
          try simp only[Act.put,sA,sB,sC]
          refine wpAnyH_done (by kernel_rfl) ?_ _
          have HFi9:=hid (HFz.out _ a9 c9 HO8.out)
          clear hHeld z2 z3 hb6 HO8 HO
          go_wp2_with fail
          go_roundw
          case rel=>exact⟨i+1,ws9,a5,a9,p+1,c5,c9,by go_num,by omega,by omega,HFi9.out⟩
          case measure=>simp[intOf];omega
      exact AllReadyH.nil
  ·obtain rfl:i=D.n:=by omega
   obtain rfl:p=B:=HP.trans (HB.out.2.2.2.1.rpl_all)
   have HTe:=hid HT
   have HSt4:=hid HT.st
   have HSt2:=hid (H0.out.2.1.keep HT.bel)
   have hd:=zay D.K (.slice aN p cN) (.slice aK p cK)
   have hwn:Hid (w.heap.size<=Wn.heap.size):=H0.out.2.2.size
   have hbB:Hid (Below w.heap.size w (wr.setRow b2 (dfC D.K (.slice aN p cN) (.slice aK p cK)))):=
    zaj ((show Below w.heap.size w Wn by rw[Hb.out.1];exact H0.out.2.2).trans (HT.bel.mono hwn.out)) (by have:=Hb.out;omega) _
   have hRl:(mgR D C f (rpl f D.n)).length=p:=by rw[HP];simp[mgR]
   have HF:Hid (DfP D C p (fun b c=>mgF D f ((rpl f D.n).getD b 0) c) (fun b=>D.q ((rpl f D.n).getD b 0)) w (.returned (.agg (dfC D.K (.slice aN p cN) (.slice aK p cK)))) (wr.setRow b2 (dfC D.K (.slice aN p cN) (.slice aK p cK)))):=
    HTe.out.dfp HB.out.1.dm.kl hRl (fun r hr=>by unfold mgR at hr;obtain⟨j,_,rfl⟩:=List.mem_map.1 hr;simp) (zk8 _ _ _ HP) (fun j hj c hc=>by
     have hj2:j<(rpl f D.n).length:=by omega
     unfold mgR
     simp[List.getD_eq_getElem?_getD,hj2,hc]) hwn.out (Or.inr ⟨b2,_,_,HSt2.out,rfl⟩) hbB.out
   clear HT hRl HP
   go_wp2_with (first|(refine zam rfl 39 _ rfl ⟨b4,0,none⟩ rfl (dfC D.K (.slice aN p cN) (.slice aK p cK)) _ HSt4.out.part Tryz.underlying39 rfl (by rw[zah,hd]) ?_)|(refine zaf rfl 39 _ _ rfl b2 39 (zC 39) (dfC D.K (.slice aN p cN) (.slice aK p cK)) rfl rfl HSt2.out (by rw[zak,hd]) (by rw[zah,hd]) (zba _ _ _ _ _ _ _) ?_))
   refine bodyPost_ret (results_cell_row rfl _ _ b2 39 (dfC D.K (.slice aN p cN) (.slice aK p cK)) (0,0) _ rfl HSt2.out.setRow Tryz.underlying39 rfl (by rw[zah,hd])) rfl ?_
   exact HF.out
end Go.Proofs.YtjehgdjlncofeaaGreat
