import Derived.Test.YtjehgdjlncofeaaGreatZChk
import Derived.Test.YtjehgdjlncofeaaGreatZQThom
import Derived.Test.YtjehgdjlncofeaaGreatZRefClass
import Derived.Deep.RegionLaw
set_option linter.unusedVariables false
set_option linter.unusedSimpArgs false
set_option maxHeartbeats 2000000
set_option maxRecDepth 100000
open Go.Lib (hid)
namespace Go.Proofs.YtjehgdjlncofeaaGreat
open Go.RowKit Go.Maps Go.WideElems Go.ChangeMaps Go.MapKept
theorem zbr (k:Nat) (hk:k<=1000000) (w:World):Calls Tryz.prog 97 #[.int .i64 (k:Int)] w fun e w'=>e=.returned (.int .i64 (((2*k:Nat)):Int))/\w=w':=by
 go_enter Tryz.func97,Tryz.ntmps97
 go_wp2_with fail
 go_ret
 exact⟨by show Ending.returned _=_;congr 2,rfl⟩
theorem zcT (k:Nat) (hk:k<=1000000) (w:World):Calls Tryz.prog 98 #[.int .i64 (k:Int)] w fun e w'=>e=.returned (.int .i64 (((2*k+1:Nat)):Int))/\w=w':=by
 go_enter Tryz.func98,Tryz.ntmps98
 go_wp2_with fail
 go_ret
 exact⟨by show Ending.returned _=_;congr 2,rfl⟩
def EdsP (L:List En) (w:World) (e:Ending) (w':World):Prop:=
 ∃a c,e=.returned (.slice a L.length c)/\w'.ownsRow w.heap.size 128 7 (.slice a L.length c) L.length (egs (L.map En.z))/\Below w.heap.size w w'
def freC (f t:Nat):List Value:=[.int .i64 ((f:Nat):Int),.int .i64 ((t:Nat):Int),.int .u64 0,.int .u64 0,.int .u64 0,.int .u64 0,.bool true]
theorem zbS (f t:Nat) (l:List En):egs ((fre f t :: l).map En.z)=freC f t++egs (l.map En.z):=by
 show egCells (fre f t).z++_=_
 rw[zfT]
 rfl
theorem zip (k:Int) (i j r:Nat) (hi:i<=1000000) (hj:j<=1000000) (hr:r<=1000000) (w:World):
  Calls Tryz.prog 136 #[.int .i64 k,.int .i64 (i:Int),.int .i64 (j:Int),.int .i64 ((2*r:Nat):Int),.int .i64 ((2*r+1:Nat):Int)] w (EdsP (pairE k i j r) w):=by
 have Hb:=hid (fun (x:Nat) (hx:x<=1000000) (W:World)=>zbr x hx W)
 have He:=hid (fun (x:Nat) (hx:x<=1000000) (W:World)=>zcT x hx W)
 obtain⟨F,hF⟩:∃F:Nat,2*r=F:=⟨_,rfl⟩
 obtain⟨T,hT⟩:∃T:Nat,2*r+1=T:=⟨_,rfl⟩
 obtain⟨bi,hbi⟩:∃x:Nat,2*i=x:=⟨_,rfl⟩
 obtain⟨ei,hei⟩:∃x:Nat,2*i+1=x:=⟨_,rfl⟩
 obtain⟨bj,hbj⟩:∃x:Nat,2*j=x:=⟨_,rfl⟩
 obtain⟨ej,hej⟩:∃x:Nat,2*j+1=x:=⟨_,rfl⟩
 have HBi:=hid (fun (W:World)=>zbr i hi W)
 have HEi:=hid (fun (W:World)=>zcT i hi W)
 have HBj:=hid (fun (W:World)=>zbr j hj W)
 have HEj:=hid (fun (W:World)=>zcT j hj W)
 have HL:Hid (pairE k i j r=if k=2 then [fre F bi,fre ei bj,fre ej T] else [fre F bi,fre ei T,fre F bj,fre ej T]):=by
  show _=_
  unfold pairE
  rw[hT,hei,hej,hF,hbi,hbj]
 rw[hbi] at HBi
 rw[hei] at HEi
 rw[hbj] at HBj
 rw[hej] at HEj
 rw[hT,hF]
 clear hF hT hbi hei hbj hej Hb He
 by_cases h2:k=2
 ·have HL2:Hid (pairE k i j r=[fre F bi,fre ei bj,fre ej T]):=by show _=_;rw[HL.out,if_pos h2]
  have h1:((k:Int) == 2)=true:=by rw[h2];rfl
  clear h2 HL
  go_enter Tryz.func136,Tryz.ntmps136
  go_wp2_with fail
  refine (HBi.out w).mono ?_
  rintro e w1 ⟨rfl,rfl⟩
  go_wp2_with fail
  refine (zaz F bi w).mono ?_
  rintro e w1 ⟨rfl,k1⟩
  have H1:=hid k1
  clear k1
  go_wp2_with fail
  refine (HEi.out w1).mono ?_
  rintro e w1 ⟨rfl,rfl⟩
  go_wp2_with fail
  refine (HBj.out _).mono ?_
  rintro e w2 ⟨rfl,rfl⟩
  go_wp2_with fail
  refine (zaz ei bj _).mono ?_
  rintro e w3 ⟨rfl,k3⟩
  have H3:=hid (H1.out.trans (k3.mono H1.out.size))
  clear k3
  go_wp2_with fail
  refine (HEj.out w3).mono ?_
  rintro e w4 ⟨rfl,rfl⟩
  go_wp2_with fail
  refine (zaz ej T _).mono ?_
  rintro e w5 ⟨rfl,k5⟩
  have H5:=hid (H3.out.trans (k5.mono H3.out.size))
  clear k5
  go_wp2_with fail
  go_ret
  have ho:=zbM w5 w.heap.size 128 7 ((freC F bi++(freC ei bj++freC ej T)).toArray) 3 rfl H5.out.size (by unfold maxLen;omega)
  rw[HL2.out]
  refine⟨some ⟨w5.heap.size,0,none⟩,3,rfl,?_,H5.out.trans ((al w5 _).mono H5.out.size)⟩
  rw[zbS,zbS,zbS]
  simpa [freC,egs] using ho
 ·have HL2:Hid (pairE k i j r=[fre F bi,fre ei T,fre F bj,fre ej T]):=by show _=_;rw[HL.out,if_neg h2]
  have h1:((k:Int) == 2)=false:=by rw[beq_eq_false_iff_ne];exact h2
  clear h2 HL
  go_enter Tryz.func136,Tryz.ntmps136
  go_wp2_with fail
  refine (HBi.out w).mono ?_
  rintro e w1 ⟨rfl,rfl⟩
  go_wp2_with fail
  refine (zaz F bi w).mono ?_
  rintro e w1 ⟨rfl,k1⟩
  have H1:=hid k1
  clear k1
  go_wp2_with fail
  refine (HEi.out w1).mono ?_
  rintro e w1 ⟨rfl,rfl⟩
  go_wp2_with fail
  refine (zaz ei T _).mono ?_
  rintro e w3 ⟨rfl,k3⟩
  have H3:=hid (H1.out.trans (k3.mono H1.out.size))
  clear k3
  go_wp2_with fail
  refine (HBj.out w3).mono ?_
  rintro e w4 ⟨rfl,rfl⟩
  go_wp2_with fail
  refine (zaz F bj _).mono ?_
  rintro e w5 ⟨rfl,k5⟩
  have H5:=hid (H3.out.trans (k5.mono H3.out.size))
  clear k5
  go_wp2_with fail
  refine (HEj.out w5).mono ?_
  rintro e w6 ⟨rfl,rfl⟩
  go_wp2_with fail
  refine (zaz ej T _).mono ?_
  rintro e w7 ⟨rfl,k7⟩
  have H7:=hid (H5.out.trans (k7.mono H5.out.size))
  clear k7
  go_wp2_with fail
  go_ret
  have ho:=zbM w7 w.heap.size 128 7 ((freC F bi++(freC ei T++(freC F bj++freC ej T))).toArray) 4 rfl H7.out.size (by unfold maxLen;omega)
  rw[HL2.out]
  refine⟨some ⟨w7.heap.size,0,none⟩,4,rfl,?_,H7.out.trans ((al w7 _).mono H7.out.size)⟩
  rw[zbS,zbS,zbS,zbS]
  simpa [freC,egs] using ho
theorem St.partQ {w:World}{t g:Nat}{cs:Array Value}(h:St w t g cs):∀j v,cs.toList[j]?=some v->w.cell? ((⟨g,0,none⟩:Addr).add j)=some v:=fun j v hj=>by
 have e:(⟨g,0,none⟩:Addr).add j=⟨g,j,none⟩:=by unfold Addr.add;split <;> simp_all
 rw[e,h.at_,<-Array.getElem?_toList,hj]
theorem zfI (k:Int) (j r:Nat) (hj:j<=1000000) (hr:r<=1000000) (w:World):
  Calls Tryz.prog 135 #[.int .i64 k,.int .i64 (j:Int),.int .i64 ((2*r:Nat):Int),.int .i64 ((2*r+1:Nat):Int)] w (EdsP (repE k j r) w):=by
 obtain⟨F,hF⟩:∃F:Nat,2*r=F:=⟨_,rfl⟩
 obtain⟨T,hT⟩:∃T:Nat,2*r+1=T:=⟨_,rfl⟩
 obtain⟨bj,hbj⟩:∃x:Nat,2*j=x:=⟨_,rfl⟩
 obtain⟨ej,hej⟩:∃x:Nat,2*j+1=x:=⟨_,rfl⟩
 have HBj:=hid (fun (W:World)=>zbr j hj W)
 have HEj:=hid (fun (W:World)=>zcT j hj W)
 have HBj2:=hid (fun (W:World)=>zbr j hj W)
 have HL:Hid (repE k j r=[fre F bj,fre ej T]++((if k=5 then [] else [fre F T])++(if k=6 then [] else [fre ej bj]))):=by
  show _=_
  unfold repE
  rw[hT,hej,hF,hbj]
 rw[hbj] at HBj
 rw[hbj] at HBj2
 rw[hej] at HEj
 rw[hT,hF]
 clear hF hT hbj hej
 obtain⟨i0,hi,hz0,hz1,hz2⟩:=info_parts Tryz.info_edge
 go_enter Tryz.func135,Tryz.ntmps135
 go_wp2_with fail
 refine (HBj.out w).mono ?_
 rintro e w1 ⟨rfl,rfl⟩
 go_wp2_with fail
 refine (zaz F bj w).mono ?_
 rintro e w1 ⟨rfl,k1⟩
 have H1:=hid k1
 clear k1
 go_wp2_with fail
 refine (HEj.out w1).mono ?_
 rintro e w2 ⟨rfl,rfl⟩
 go_wp2_with fail
 refine (zaz ej T _).mono ?_
 rintro e w2 ⟨rfl,k2⟩
 have HO:Hid (Below w.heap.size w (w2.alloc (.cells #[.int .i64 (F:Int),.int .i64 (bj:Int),.int .u64 0,.int .u64 0,.int .u64 0,.int .u64 0,.bool true,.int .i64 (ej:Int),.int .i64 (T:Int),.int .u64 0,.int .u64 0,.int .u64 0,.int .u64 0,.bool true] 128))/\(w2.alloc (.cells #[.int .i64 (F:Int),.int .i64 (bj:Int),.int .u64 0,.int .u64 0,.int .u64 0,.int .u64 0,.bool true,.int .i64 (ej:Int),.int .i64 (T:Int),.int .u64 0,.int .u64 0,.int .u64 0,.int .u64 0,.bool true] 128)).ownsRow w.heap.size 128 7 (.slice (some ⟨w2.heap.size,0,none⟩) 2 2) 2 (egs (([fre F bj,fre ej T]:List En).map En.z))):=by
  have h1:=H1.out.trans (k2.mono H1.out.size)
  refine⟨h1.trans ((al w2 _).mono h1.size),?_⟩
  have ho:=zbM w2 w.heap.size 128 7 ((freC F bj++freC ej T).toArray) 2 rfl h1.size (by unfold maxLen;omega)
  rw[zbS,zbS]
  simpa [freC,egs] using ho
 clear k2 H1
 go_upto_region 2 with fail
 generalize w2.alloc (.cells #[.int .i64 (F:Int),.int .i64 (bj:Int),.int .u64 0,.int .u64 0,.int .u64 0,.int .u64 0,.bool true,.int .i64 (ej:Int),.int .i64 (T:Int),.int .u64 0,.int .u64 0,.int .u64 0,.int .u64 0,.bool true] 128)=W3 at HO⊢
 obtain⟨g,hg⟩:∃g,w2.heap.size=g:=⟨_,rfl⟩
 rw[hg] at HO
 rw[hg]
 clear hg HBj
 by_cases h5:k=5
 ·have HL2:Hid (repE k j r=[fre F bj,fre ej T,fre ej bj]):=by show _=_;rw[HL.out,if_pos h5,if_neg (by omega)];rfl
  have q5:((k:Int) != 5)=false:=by rw[h5];rfl
  have q6:((k:Int) != 6)=true:=by rw[h5];rfl
  clear h5 HL
  go_wp2_with fail
  refine (HEj.out W3).mono ?_
  rintro e w5 ⟨rfl,rfl⟩
  go_wp2_with fail
  refine (HBj2.out W3).mono ?_
  rintro e w5 ⟨rfl,rfl⟩
  go_wp2_with fail
  refine (zaz ej bj W3).mono ?_
  rintro e x3 ⟨rfl,kx⟩
  have HX3:Hid (Below w.heap.size w x3/\x3.ownsRow w.heap.size 128 7 (.slice (some ⟨g,0,none⟩) 2 2) 2 (egs (([fre F bj,fre ej T]:List En).map En.z))):=⟨HO.out.1.trans (kx.mono HO.out.1.size),zab HO.out.2 kx⟩
  clear kx
  have hO:=HX3.out.2
  go_wp2_with (at_builtin;refine wpList_append_own_at _ rfl _ _ 65 rfl w.heap.size 128 i0 (.agg #[.int .i64 0,.int .i64 0,.int .u64 0,.int .u64 0,.int .u64 0,.int .u64 0,.bool false]) 7 56 Tryz.underlying65 hi hz0 hz1 hz2 rfl (by decide) _ _ _ rfl (hO.alloc _) ⟨x3.heap.size,0,none⟩ 1 1 (freC ej bj) rfl rfl (fun j u hj=>(St.new x3 128 (freC ej bj).toArray).partQ j u (by simpa using hj)) ?d2 ?d3 ?d4 ?d5 ?_)
  case d2=>intro u hu;simp[freC] at hu;rcases hu with rfl|rfl|rfl|rfl <;> rfl
  case d3=>unfold maxLen;omega
  case d4=>omega
  case d5=>have:=HX3.out.1.size;simp at this⊢;omega
  intro v3 y3 hown hgrow _ _
  obtain⟨a3,c3,rfl⟩:=zaa hown
  have H3:Hid (Below w.heap.size w y3/\y3.ownsRow w.heap.size 128 7 (.slice a3 3 c3) 3 (egs (([fre F bj,fre ej T,fre ej bj]:List En).map En.z))):=by
   have h1:=HX3.out.1.trans ((al x3 (.cells (freC ej bj).toArray 128)).mono HX3.out.1.size)
   refine⟨zac h1 (hO.alloc _) h1.size hgrow,?_⟩
   have h2:egs (([fre F bj,fre ej T,fre ej bj]:List En).map En.z)=egs (([fre F bj,fre ej T]:List En).map En.z)++freC ej bj:=by simp[egs,egCells,En.z,fre,zbN,freC]
   rw[h2]
   exact hown
  clear hown hgrow hO
  go_wp2_with fail
  go_ret
  rw[HL2.out]
  exact⟨a3,c3,rfl,H3.out.2,H3.out.1⟩
 by_cases h6:k=6
 ·have HL2:Hid (repE k j r=[fre F bj,fre ej T,fre F T]):=by show _=_;rw[HL.out,if_neg h5,if_pos h6];rfl
  have q5:((k:Int) != 5)=true:=by rw[h6];rfl
  have q6:((k:Int) != 6)=false:=by rw[h6];rfl
  clear h5 h6 HL HEj
  go_wp2_with fail
  refine (zaz F T W3).mono ?_
  rintro e x3 ⟨rfl,kx⟩
  have HX3:Hid (Below w.heap.size w x3/\x3.ownsRow w.heap.size 128 7 (.slice (some ⟨g,0,none⟩) 2 2) 2 (egs (([fre F bj,fre ej T]:List En).map En.z))):=⟨HO.out.1.trans (kx.mono HO.out.1.size),zab HO.out.2 kx⟩
  clear kx
  have hO:=HX3.out.2
  go_wp2_with (at_builtin;refine wpList_append_own_at _ rfl _ _ 65 rfl w.heap.size 128 i0 (.agg #[.int .i64 0,.int .i64 0,.int .u64 0,.int .u64 0,.int .u64 0,.int .u64 0,.bool false]) 7 56 Tryz.underlying65 hi hz0 hz1 hz2 rfl (by decide) _ _ _ rfl (hO.alloc _) ⟨x3.heap.size,0,none⟩ 1 1 (freC F T) rfl rfl (fun j u hj=>(St.new x3 128 (freC F T).toArray).partQ j u (by simpa using hj)) ?d2 ?d3 ?d4 ?d5 ?_)
  case d2=>intro u hu;simp[freC] at hu;rcases hu with rfl|rfl|rfl|rfl <;> rfl
  case d3=>unfold maxLen;omega
  case d4=>omega
  case d5=>have:=HX3.out.1.size;simp at this⊢;omega
  intro v3 y3 hown hgrow _ _
  obtain⟨a3,c3,rfl⟩:=zaa hown
  have H3:Hid (Below w.heap.size w y3/\y3.ownsRow w.heap.size 128 7 (.slice a3 3 c3) 3 (egs (([fre F bj,fre ej T,fre F T]:List En).map En.z))):=by
   have h1:=HX3.out.1.trans ((al x3 (.cells (freC F T).toArray 128)).mono HX3.out.1.size)
   refine⟨zac h1 (hO.alloc _) h1.size hgrow,?_⟩
   have h2:egs (([fre F bj,fre ej T,fre F T]:List En).map En.z)=egs (([fre F bj,fre ej T]:List En).map En.z)++freC F T:=by simp[egs,egCells,En.z,fre,zbN,freC]
   rw[h2]
   exact hown
  clear hown hgrow hO
  go_wp2_with fail
  go_ret
  rw[HL2.out]
  exact⟨a3,c3,rfl,H3.out.2,H3.out.1⟩
 ·have HL2:Hid (repE k j r=[fre F bj,fre ej T,fre F T,fre ej bj]):=by show _=_;rw[HL.out,if_neg h5,if_neg h6];rfl
  have q5:((k:Int) != 5)=true:=by rw[bne_iff_ne];exact h5
  have q6:((k:Int) != 6)=true:=by rw[bne_iff_ne];exact h6
  clear h5 h6 HL
  go_wp2_with fail
  refine (zaz F T W3).mono ?_
  rintro e x3 ⟨rfl,kx⟩
  have HX3:Hid (Below w.heap.size w x3/\x3.ownsRow w.heap.size 128 7 (.slice (some ⟨g,0,none⟩) 2 2) 2 (egs (([fre F bj,fre ej T]:List En).map En.z))):=⟨HO.out.1.trans (kx.mono HO.out.1.size),zab HO.out.2 kx⟩
  clear kx
  have hO:=HX3.out.2
  go_wp2_with (at_builtin;refine wpList_append_own_at _ rfl _ _ 65 rfl w.heap.size 128 i0 (.agg #[.int .i64 0,.int .i64 0,.int .u64 0,.int .u64 0,.int .u64 0,.int .u64 0,.bool false]) 7 56 Tryz.underlying65 hi hz0 hz1 hz2 rfl (by decide) _ _ _ rfl (hO.alloc _) ⟨x3.heap.size,0,none⟩ 1 1 (freC F T) rfl rfl (fun j u hj=>(St.new x3 128 (freC F T).toArray).partQ j u (by simpa using hj)) ?d2 ?d3 ?d4 ?d5 ?_)
  case d2=>intro u hu;simp[freC] at hu;rcases hu with rfl|rfl|rfl|rfl <;> rfl
  case d3=>unfold maxLen;omega
  case d4=>omega
  case d5=>have:=HX3.out.1.size;simp at this⊢;omega
  intro v3 y3 hown hgrow _ _
  obtain⟨a3,c3,rfl⟩:=zaa hown
  have H3:Hid (Below w.heap.size w y3/\y3.ownsRow w.heap.size 128 7 (.slice a3 3 c3) 3 (egs (([fre F bj,fre ej T,fre F T]:List En).map En.z))):=by
   have h1:=HX3.out.1.trans ((al x3 (.cells (freC F T).toArray 128)).mono HX3.out.1.size)
   refine⟨zac h1 (hO.alloc _) h1.size hgrow,?_⟩
   have h2:egs (([fre F bj,fre ej T,fre F T]:List En).map En.z)=egs (([fre F bj,fre ej T]:List En).map En.z)++freC F T:=by simp[egs,egCells,En.z,fre,zbN,freC]
   rw[h2]
   exact hown
  clear hown hgrow hO
  go_wp2_with fail
  refine (HEj.out y3).mono ?_
  rintro e w5 ⟨rfl,rfl⟩
  go_wp2_with fail
  refine (HBj2.out y3).mono ?_
  rintro e w5 ⟨rfl,rfl⟩
  go_wp2_with fail
  refine (zaz ej bj y3).mono ?_
  rintro e x4 ⟨rfl,kx⟩
  have HX4:Hid (Below w.heap.size w x4/\x4.ownsRow w.heap.size 128 7 (.slice a3 3 c3) 3 (egs (([fre F bj,fre ej T,fre F T]:List En).map En.z))):=⟨H3.out.1.trans (kx.mono H3.out.1.size),zab H3.out.2 kx⟩
  clear kx
  have hO:=HX4.out.2
  go_wp2_with (at_builtin;refine wpList_append_own_at _ rfl _ _ 65 rfl w.heap.size 128 i0 (.agg #[.int .i64 0,.int .i64 0,.int .u64 0,.int .u64 0,.int .u64 0,.int .u64 0,.bool false]) 7 56 Tryz.underlying65 hi hz0 hz1 hz2 rfl (by decide) _ _ _ rfl (hO.alloc _) ⟨x4.heap.size,0,none⟩ 1 1 (freC ej bj) rfl rfl (fun j u hj=>(St.new x4 128 (freC ej bj).toArray).partQ j u (by simpa using hj)) ?d2 ?d3 ?d4 ?d5 ?_)
  case d2=>intro u hu;simp[freC] at hu;rcases hu with rfl|rfl|rfl|rfl <;> rfl
  case d3=>unfold maxLen;omega
  case d4=>omega
  case d5=>have:=HX4.out.1.size;simp at this⊢;omega
  intro v4 y4 hown hgrow _ _
  obtain⟨a4,c4,rfl⟩:=zaa hown
  have H4:Hid (Below w.heap.size w y4/\y4.ownsRow w.heap.size 128 7 (.slice a4 4 c4) 4 (egs (([fre F bj,fre ej T,fre F T,fre ej bj]:List En).map En.z))):=by
   have h1:=HX4.out.1.trans ((al x4 (.cells (freC ej bj).toArray 128)).mono HX4.out.1.size)
   refine⟨zac h1 (hO.alloc _) h1.size hgrow,?_⟩
   have h2:egs (([fre F bj,fre ej T,fre F T,fre ej bj]:List En).map En.z)=egs (([fre F bj,fre ej T,fre F T]:List En).map En.z)++freC ej bj:=by simp[egs,egCells,En.z,fre,zbN,freC]
   rw[h2]
   exact hown
  clear hown hgrow hO
  go_wp2_with fail
  go_ret
  rw[HL2.out]
  exact⟨a4,c4,rfl,H4.out.2,H4.out.1⟩
def pc0:Pc:=⟨0,fun _=>false⟩
def edE (l:List Pc) (i:Nat):List En:=
 if takesZ (l.getD i pc0).k=1 then repE (l.getD i pc0).k (i-1) i else if takesZ (l.getD i pc0).k=2 then pairE (l.getD i pc0).k (startT l (i-1)-1) (i-1) i else leafE (l.getD i pc0) i
theorem zdf (s v:List Pc) (x:Pc):(s++x :: v).getD s.length pc0=x:=by simp[List.getD_eq_getElem?_getD]
theorem zdW {α β:Type}{l:List α}{f g:α->List β}(h:∀x∈l,f x=g x):l.flatMap f=l.flatMap g:=by
 induction l with
 | nil=>rfl
 | cons a l ih=>simp only[List.flatMap_cons];rw[h a List.mem_cons_self,ih (fun x hx=>h x (List.mem_cons_of_mem _ hx))]
theorem zcU {β:Type}(n m:Nat) (f:Nat->List β):(List.range (n+m)).flatMap f=(List.range n).flatMap f++(List.range m).flatMap (fun j=>f (n+j)):=by
 rw[List.range_add,List.flatMap_append]
 congr 1
 induction m with
 | zero=>rfl
 | succ m ih=>rw[List.range_succ,List.map_append,List.flatMap_append,List.flatMap_append,ih];rfl
theorem znn (t:Rx) (hw:t.wf):∀(s u:List Pc),(List.range t.flat.length).flatMap (fun j=>edE (s++(t.flat++u)) (s.length+j))=thE t s.length:=by
 induction t with
 | leaf x=>
  intro s u
  have h0:takesZ x.k=0:=hw.1
  show (List.range 1).flatMap _=_
  have e:(s++((Rx.leaf x).flat++u)).getD s.length pc0=x:=zdf s u x
  show edE (s++((Rx.leaf x).flat++u)) (s.length+0)++[]=leafE x s.length
  rw[List.append_nil,Nat.add_zero]
  unfold edE
  rw[e,h0,if_neg (by omega),if_neg (by omega)]
 | un x a ih=>
  intro s u
  have h1:takesZ x.k=1:=hw.1
  have hl:(Rx.un x a).flat.length=a.flat.length+1:=by simp[Rx.flat]
  have hf:s++((Rx.un x a).flat++u)=s++(a.flat++(x :: u)):=by simp[Rx.flat]
  rw[hl,hf,zcU,ih hw.2.2 s (x :: u)]
  show thE a s.length++(edE (s++(a.flat++x :: u)) (s.length+(a.flat.length+0))++[])=_
  have e:(s++(a.flat++x :: u)).getD (s.length+a.flat.length) pc0=x:=by
   have:=zdf (s++a.flat) u x
   rwa [List.length_append,List.append_assoc] at this
  rw[List.append_nil,Nat.add_zero]
  show _=thE a s.length++repE x.k (s.length+a.flat.length-1) (s.length+a.flat.length)
  congr 1
  unfold edE
  rw[e,if_pos h1]
 | bin x a b ih jh=>
  intro s u
  have h2:takesZ x.k=2:=hw.1
  have hp:=a.flat_pos
  have hq:=b.flat_pos
  have hl:(Rx.bin x a b).flat.length=a.flat.length+(b.flat.length+1):=by simp[Rx.flat]
  have hf:s++((Rx.bin x a b).flat++u)=s++(a.flat++(b.flat++x :: u)):=by simp[Rx.flat]
  rw[hl,hf,zcU,ih hw.2.2.1 s (b.flat++x :: u),zcU]
  have hb:=jh hw.2.2.2 (s++a.flat) (x :: u)
  rw[List.append_assoc,List.length_append] at hb
  have hb2:(List.range b.flat.length).flatMap (fun j=>edE (s++(a.flat++(b.flat++x :: u))) (s.length+(a.flat.length+j)))=thE b (s.length+a.flat.length):=by
   rw[<-hb]
   refine zdW fun j _=>?_
   rw[Nat.add_assoc]
  rw[hb2]
  show thE a s.length++(thE b (s.length+a.flat.length)++(edE (s++(a.flat++(b.flat++x :: u))) (s.length+(a.flat.length+(b.flat.length+0)))++[]))=thE a s.length++(thE b (s.length+a.flat.length)++pairE x.k (s.length+a.flat.length-1) (s.length+a.flat.length+b.flat.length-1) (s.length+a.flat.length+b.flat.length))
  rw[List.append_nil,Nat.add_zero]
  congr 2
  have e:(s++(a.flat++(b.flat++x :: u))).getD (s.length+(a.flat.length+b.flat.length)) pc0=x:=by
   simp
  have est:startT (s++(a.flat++(b.flat++x :: u))) (s.length+(a.flat.length+b.flat.length)-1)=s.length+a.flat.length:=by
   unfold startT
   have et:(s++(a.flat++(b.flat++x :: u))).take (s.length+(a.flat.length+b.flat.length)-1+1)=(s++a.flat)++b.flat:=by
    rw[show s.length+(a.flat.length+b.flat.length)-1+1=((s++a.flat)++b.flat).length by simp;omega,show s++(a.flat++(b.flat++x :: u))=((s++a.flat)++b.flat)++(x :: u) by simp,List.take_left']
    rfl
   rw[et,List.reverse_append,zfi b hw.2.2.2 _ 1 (by omega),if_pos rfl,List.length_reverse,List.length_append]
  unfold edE
  rw[e,if_neg (by omega),if_pos h2,est]
  congr 1 <;> omega
theorem zdD (t:Rx) (hw:t.wf):(List.range t.flat.length).flatMap (edE t.flat)=thE t 0:=by
 have:=znn t hw [] []
 simpa using this
def OkI (l:List Pc) (i:Nat):Prop:=(takesZ (l.getD i pc0).k=1->1<=i)/\(takesZ (l.getD i pc0).k=2->1<=i/\1<=startT l (i-1))
theorem zlp (t:Rx) (hw:t.wf):∀(s u:List Pc) (j:Nat),j<t.flat.length->OkI (s++(t.flat++u)) (s.length+j):=by
 induction t with
 | leaf x=>
  intro s u j hj
  have h0:takesZ x.k=0:=hw.1
  have hj0:j=0:=by simpa [Rx.flat] using hj
  subst hj0
  have e:(s++((Rx.leaf x).flat++u)).getD (s.length+0) pc0=x:=zdf s u x
  unfold OkI
  rw[e,h0]
  exact⟨fun h=>absurd h (by omega),fun h=>absurd h (by omega)⟩
 | un x a ih=>
  intro s u j hj
  have h1:takesZ x.k=1:=hw.1
  have hp:=a.flat_pos
  have hl:(Rx.un x a).flat.length=a.flat.length+1:=by simp[Rx.flat]
  have hf:s++((Rx.un x a).flat++u)=s++(a.flat++(x :: u)):=by simp[Rx.flat]
  rw[hf]
  by_cases hja:j<a.flat.length
  ·exact ih hw.2.2 s (x :: u) j hja
  ·have hje:j=a.flat.length:=by omega
   subst hje
   have e:(s++(a.flat++x :: u)).getD (s.length+a.flat.length) pc0=x:=by
    have:=zdf (s++a.flat) u x
    rwa [List.length_append,List.append_assoc] at this
   unfold OkI
   rw[e,h1]
   exact⟨fun _=>by omega,fun h=>absurd h (by omega)⟩
 | bin x a b ih jh=>
  intro s u j hj
  have h2:takesZ x.k=2:=hw.1
  have hp:=a.flat_pos
  have hq:=b.flat_pos
  have hl:(Rx.bin x a b).flat.length=a.flat.length+(b.flat.length+1):=by simp[Rx.flat]
  have hf:s++((Rx.bin x a b).flat++u)=s++(a.flat++(b.flat++x :: u)):=by simp[Rx.flat]
  rw[hf]
  by_cases hja:j<a.flat.length
  ·exact ih hw.2.2.1 s (b.flat++x :: u) j hja
  ·by_cases hjb:j<a.flat.length+b.flat.length
   ·have:=jh hw.2.2.2 (s++a.flat) (x :: u) (j-a.flat.length) (by omega)
    rw[List.append_assoc,List.length_append,show s.length+a.flat.length+(j-a.flat.length)=s.length+j by omega] at this
    exact this
   ·have hje:j=a.flat.length+b.flat.length:=by omega
    subst hje
    have e:(s++(a.flat++(b.flat++x :: u))).getD (s.length+(a.flat.length+b.flat.length)) pc0=x:=by
     simp
    have est:startT (s++(a.flat++(b.flat++x :: u))) (s.length+(a.flat.length+b.flat.length)-1)=s.length+a.flat.length:=by
     unfold startT
     have et:(s++(a.flat++(b.flat++x :: u))).take (s.length+(a.flat.length+b.flat.length)-1+1)=(s++a.flat)++b.flat:=by
      rw[show s.length+(a.flat.length+b.flat.length)-1+1=((s++a.flat)++b.flat).length by simp;omega,show s++(a.flat++(b.flat++x :: u))=((s++a.flat)++b.flat)++(x :: u) by simp,List.take_left']
      rfl
     rw[et,List.reverse_append,zfi b hw.2.2.2 _ 1 (by omega),if_pos rfl,List.length_reverse,List.length_append]
    unfold OkI
    rw[e,h2,est]
    exact⟨fun h=>absurd h (by omega),fun _=>by omega⟩
theorem zjI (t:Rx) (hw:t.wf) (j:Nat) (hj:j<t.flat.length):OkI t.flat j:=by
 have:=zlp t hw [] [] j hj
 simpa using this
end Go.Proofs.YtjehgdjlncofeaaGreat
