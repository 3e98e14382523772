import Derived.Test.YtiijebameffenaaGreatZChk
import Derived.Test.YtiijebameffenaaGreatZQThom
import Derived.Test.YtiijebameffenaaGreatZRefClass
import Derived.Deep.RegionLaw
set_option linter.all false
set_option maxHeartbeats 4000000
set_option maxRecDepth 100000
open Go.Lib (hid)
namespace Go.Proofs.YtiijebameffenaaGreat
open Go.RowKit Go.Maps Go.WideElems Go.ChangeMaps Go.MapKept Go.Proofs.Tryz
open List (append_assoc append_nil length_append range)
open Act (put)
theorem Bn(k:Nat)(hk:k<=1000000)(w:World):Calls prog 113 #[.int .i64 (k:Int)] w fun e w'=>e=.returned (.int .i64 (((2*k:Nat)):Int))/\w=w':=by
 go_enter func113,ntmps113;go_wp2;go_ret;exact⟨by show Ending.returned _=_;congr 2,rfl⟩
theorem EV(k:Nat)(hk:k<=1000000)(w:World):Calls prog 114 #[.int .i64 (k:Int)] w fun e w'=>e=.returned (.int .i64 (((2*k+1:Nat)):Int))/\w=w':=by
 go_enter func114,ntmps114;go_wp2;go_ret;exact⟨by show Ending.returned _=_;congr 2,rfl⟩
def tL(L:List En)(w:World)(e:Ending)(w':World):Prop:=
 ∃a c,e=.returned (.slice a L.length c)/\w'.ownsRow w.heap.size 186 7 (.slice a L.length c) L.length (fq (L.map En.z))/\Below w.heap.size w w'
def dq(f t:Nat):List Value:=[.int .i64 ((f:Nat):Int),.int .i64 ((t:Nat):Int),.int .u64 0,.int .u64 0,.int .u64 0,.int .u64 0,.bool true]
theorem yN(f t:Nat)(l:List En):fq ((bx f t :: l).map En.z)=dq f t++fq (l.map En.z):=by
 show dg (bx f t).z++_=_;rw[zky];rfl
theorem ziD(k:Int)(i j r:Nat)(hi:i<=1000000)(hj:j<=1000000)(hr:r<=1000000)(w:World):
  Calls prog 144 #[.int .i64 k,.int .i64 (i:Int),.int .i64 (j:Int),.int .i64 ((2*r:Nat):Int),.int .i64 ((2*r+1:Nat):Int)] w (tL (cm k i j r) w):=by
 have Hb:=hid (fun (x:Nat) (hx:x<=1000000) (W:World)=>Bn x hx W);have He:=hid (fun (x:Nat) (hx:x<=1000000) (W:World)=>EV x hx W);obtain⟨F,hF⟩:∃F:Nat,2*r=F:=⟨_,rfl⟩
 obtain⟨T,hT⟩:∃T:Nat,2*r+1=T:=⟨_,rfl⟩
 obtain⟨bi,AK⟩:∃x:Nat,2*i=x:=⟨_,rfl⟩
 obtain⟨ei,Ba⟩:∃x:Nat,2*i+1=x:=⟨_,rfl⟩
 obtain⟨bj,AN⟩:∃x:Nat,2*j=x:=⟨_,rfl⟩
 obtain⟨ej,Cn⟩:∃x:Nat,2*j+1=x:=⟨_,rfl⟩
 have CV:=hid (fun (W:World)=>Bn i hi W);have CQ:=hid (fun (W:World)=>EV i hi W);have Cv:=hid (fun (W:World)=>Bn j hj W);have zV:=hid (fun (W:World)=>EV j hj W);have HL:Hid (cm k i j r=if k=2 then [bx F bi,bx ei bj,bx ej T] else [bx F bi,bx ei T,bx F bj,bx ej T]):=by
  show _=_;unfold cm;rw[hT,Ba,Cn,hF,AK,AN]
 rw[AK] at CV;rw[Ba] at CQ;rw[AN] at Cv;rw[Cn] at zV;rw[hT,hF];clear hF hT AK Ba AN Cn Hb He;by_cases h2:k=2
 ·have rB:Hid (cm k i j r=[bx F bi,bx ei bj,bx ej T]):=by show _=_;rw[HL.out,if_pos h2]
  have h1:((k:Int) == 2)=true:=by rw[h2];rfl
  clear h2 HL;go_enter func144,ntmps144;go_wp2_with fail;refine (CV.out w).mono ?_;rintro e w1 ⟨rfl,rfl⟩;go_wp2_with fail;refine (tR F bi w).mono ?_;rintro e w1 ⟨rfl,k1⟩;have H1:=hid k1;clear k1;go_wp2_with fail;refine (CQ.out w1).mono ?_;rintro e w1 ⟨rfl,rfl⟩;go_wp2_with fail;refine (Cv.out _).mono ?_;rintro e w2 ⟨rfl,rfl⟩;go_wp2_with fail;refine (tR ei bj _).mono ?_;rintro e w3 ⟨rfl,k3⟩;have H3:=hid (H1.out.trans (k3.mono H1.out.size));clear k3;go_wp2_with fail;refine (zV.out w3).mono ?_;rintro e w4 ⟨rfl,rfl⟩;go_wp2_with fail;refine (tR ej T _).mono ?_;rintro e w5 ⟨rfl,k5⟩;have H5:=hid (H3.out.trans (k5.mono H3.out.size));clear k5;go_wp2;go_ret;have ho:=AW w5 w.heap.size 186 7 ((dq F bi++(dq ei bj++dq ej T)).toArray) 3 rfl H5.out.size (by unfold maxLen;omega);rw[rB.out];refine⟨some ⟨w5.heap.size,0,none⟩,3,rfl,?_,H5.out.trans ((al w5 _).mono H5.out.size)⟩;rw[yN,yN,yN];simpa [dq,fq] using ho
 have rB:Hid (cm k i j r=[bx F bi,bx ei T,bx F bj,bx ej T]):=by show _=_;rw[HL.out,if_neg h2]
 have h1:((k:Int) == 2)=false:=by rw[beq_eq_false_iff_ne];exact h2
 clear h2 HL;go_enter func144,ntmps144;go_wp2_with fail;refine (CV.out w).mono ?_;rintro e w1 ⟨rfl,rfl⟩;go_wp2_with fail;refine (tR F bi w).mono ?_;rintro e w1 ⟨rfl,k1⟩;have H1:=hid k1;clear k1;go_wp2_with fail;refine (CQ.out w1).mono ?_;rintro e w1 ⟨rfl,rfl⟩;go_wp2_with fail;refine (tR ei T _).mono ?_;rintro e w3 ⟨rfl,k3⟩;have H3:=hid (H1.out.trans (k3.mono H1.out.size));clear k3;go_wp2_with fail;refine (Cv.out w3).mono ?_;rintro e w4 ⟨rfl,rfl⟩;go_wp2_with fail;refine (tR F bj _).mono ?_;rintro e w5 ⟨rfl,k5⟩;have H5:=hid (H3.out.trans (k5.mono H3.out.size));clear k5;go_wp2_with fail;refine (zV.out w5).mono ?_;rintro e w6 ⟨rfl,rfl⟩;go_wp2_with fail;refine (tR ej T _).mono ?_;rintro e w7 ⟨rfl,k7⟩;have H7:=hid (H5.out.trans (k7.mono H5.out.size));clear k7;go_wp2;go_ret;have ho:=AW w7 w.heap.size 186 7 ((dq F bi++(dq ei T++(dq F bj++dq ej T))).toArray) 4 rfl H7.out.size (by unfold maxLen;omega);rw[rB.out];refine⟨some ⟨w7.heap.size,0,none⟩,4,rfl,?_,H7.out.trans ((al w7 _).mono H7.out.size)⟩;rw[yN,yN,yN,yN];simpa [dq,fq] using ho
theorem St.sJ{w:World}{t g:Nat}{cs:Array Value}(h:St w t g cs):∀j v,cs.toList[j]?=some v->w.cell? ((⟨g,0,none⟩:Addr).add j)=some v:=fun j v hj=>by
 have e:(⟨g,0,none⟩:Addr).add j=⟨g,j,none⟩:=by unfold Addr.add;split <;> simp_all
 rw[e,h.at_,<-Array.getElem?_toList,hj]
theorem zfK(k:Int)(j r:Nat)(hj:j<=1000000)(hr:r<=1000000)(w:World):
  Calls prog 143 #[.int .i64 k,.int .i64 (j:Int),.int .i64 ((2*r:Nat):Int),.int .i64 ((2*r+1:Nat):Int)] w (tL (eB k j r) w):=by
 obtain⟨F,hF⟩:∃F:Nat,2*r=F:=⟨_,rfl⟩
 obtain⟨T,hT⟩:∃T:Nat,2*r+1=T:=⟨_,rfl⟩
 obtain⟨bj,AN⟩:∃x:Nat,2*j=x:=⟨_,rfl⟩
 obtain⟨ej,Cn⟩:∃x:Nat,2*j+1=x:=⟨_,rfl⟩
 have Cv:=hid (fun (W:World)=>Bn j hj W);have zV:=hid (fun (W:World)=>EV j hj W);have CZ:=hid (fun (W:World)=>Bn j hj W);have HL:Hid (eB k j r=[bx F bj,bx ej T]++((if k=5 then [] else [bx F T])++(if k=6 then [] else [bx ej bj]))):=by
  show _=_;unfold eB;rw[hT,Cn,hF,AN]
 rw[AN] at Cv;rw[AN] at CZ;rw[Cn] at zV;rw[hT,hF];clear hF hT AN Cn;obtain⟨i0,hi,dD,cQ,cJ⟩:=info_parts oI;go_enter func143,ntmps143;go_wp2_with fail;refine (Cv.out w).mono ?_;rintro e w1 ⟨rfl,rfl⟩;go_wp2_with fail;refine (tR F bj w).mono ?_;rintro e w1 ⟨rfl,k1⟩;have H1:=hid k1;clear k1;go_wp2_with fail;refine (zV.out w1).mono ?_;rintro e w2 ⟨rfl,rfl⟩;go_wp2_with fail;refine (tR ej T _).mono ?_;rintro e w2 ⟨rfl,k2⟩;have HO:Hid (Below w.heap.size w (w2.alloc (.cells #[.int .i64 (F:Int),.int .i64 (bj:Int),.int .u64 0,.int .u64 0,.int .u64 0,.int .u64 0,.bool true,.int .i64 (ej:Int),.int .i64 (T:Int),.int .u64 0,.int .u64 0,.int .u64 0,.int .u64 0,.bool true] 186))/\(w2.alloc (.cells #[.int .i64 (F:Int),.int .i64 (bj:Int),.int .u64 0,.int .u64 0,.int .u64 0,.int .u64 0,.bool true,.int .i64 (ej:Int),.int .i64 (T:Int),.int .u64 0,.int .u64 0,.int .u64 0,.int .u64 0,.bool true] 186)).ownsRow w.heap.size 186 7 (.slice (some ⟨w2.heap.size,0,none⟩) 2 2) 2 (fq (([bx F bj,bx ej T]:List En).map En.z))):=by
  have h1:=H1.out.trans (k2.mono H1.out.size);refine⟨h1.trans ((al w2 _).mono h1.size),?_⟩;have ho:=AW w2 w.heap.size 186 7 ((dq F bj++dq ej T).toArray) 2 rfl h1.size (by unfold maxLen;omega);rw[yN,yN];simpa [dq,fq] using ho
 clear k2 H1;go_upto_region 2 with fail;generalize w2.alloc (.cells #[.int .i64 (F:Int),.int .i64 (bj:Int),.int .u64 0,.int .u64 0,.int .u64 0,.int .u64 0,.bool true,.int .i64 (ej:Int),.int .i64 (T:Int),.int .u64 0,.int .u64 0,.int .u64 0,.int .u64 0,.bool true] 186)=W3 at HO⊢;obtain⟨g,hg⟩:∃g,w2.heap.size=g:=⟨_,rfl⟩
 rw[hg] at HO;rw[hg];clear hg Cv;by_cases h5:k=5
 ·have rB:Hid (eB k j r=[bx F bj,bx ej T,bx ej bj]):=by show _=_;rw[HL.out,if_pos h5,if_neg (by omega)];rfl
  have q5:((k:Int) != 5)=false:=by rw[h5];rfl
  have q6:((k:Int) != 6)=true:=by rw[h5];rfl
  clear h5 HL;go_wp2_with fail;refine (zV.out W3).mono ?_;rintro e w5 ⟨rfl,rfl⟩;go_wp2_with fail;refine (CZ.out W3).mono ?_;rintro e w5 ⟨rfl,rfl⟩;go_wp2_with fail;refine (tR ej bj W3).mono ?_;rintro e x3 ⟨rfl,kx⟩;have fm:Hid (Below w.heap.size w x3/\x3.ownsRow w.heap.size 186 7 (.slice (some ⟨g,0,none⟩) 2 2) 2 (fq (([bx F bj,bx ej T]:List En).map En.z))):=⟨HO.out.1.trans (kx.mono HO.out.1.size),dr HO.out.2 kx⟩
  clear kx;have hO:=fm.out.2;go_wp2_with (at_builtin;refine wpList_append_own_at _ rfl _ _ 117 rfl w.heap.size 186 i0 (.agg #[.int .i64 0,.int .i64 0,.int .u64 0,.int .u64 0,.int .u64 0,.int .u64 0,.bool false]) 7 56 underlying117 hi dD cQ cJ rfl (by decide) _ _ _ rfl (hO.alloc _) ⟨x3.heap.size,0,none⟩ 1 1 (dq ej bj) rfl rfl (fun j u hj=>(St.new x3 186 (dq ej bj).toArray).sJ j u (by simpa using hj)) ?d2 ?d3 ?d4 ?d5 ?_)
  case d2=>intro u hu;simp[dq] at hu;rcases hu with rfl|rfl|rfl|rfl <;> rfl
  case d3=>unfold maxLen;omega
  case d4=>omega
  case d5=>have:=fm.out.1.size;simp at this⊢;omega
  intro v3 y3 aQ dd _ _;obtain⟨a3,c3,rfl⟩:=bG aQ;have H3:Hid (Below w.heap.size w y3/\y3.ownsRow w.heap.size 186 7 (.slice a3 3 c3) 3 (fq (([bx F bj,bx ej T,bx ej bj]:List En).map En.z))):=by
   have h1:=fm.out.1.trans ((al x3 (.cells (dq ej bj).toArray 186)).mono fm.out.1.size);refine⟨fO h1 (hO.alloc _) h1.size dd,?_⟩;have h2:fq (([bx F bj,bx ej T,bx ej bj]:List En).map En.z)=fq (([bx F bj,bx ej T]:List En).map En.z)++dq ej bj:=(by simp[fq,dg,En.z,bx,zv,dq]);rw[h2];exact aQ
  clear aQ dd hO;go_wp2;go_ret;rw[rB.out];exact⟨a3,c3,rfl,H3.out.2,H3.out.1⟩
 by_cases h6:k=6
 ·have rB:Hid (eB k j r=[bx F bj,bx ej T,bx F T]):=by show _=_;rw[HL.out,if_neg h5,if_pos h6];rfl
  have q5:((k:Int) != 5)=true:=by rw[h6];rfl
  have q6:((k:Int) != 6)=false:=by rw[h6];rfl
  clear h5 h6 HL zV;go_wp2_with fail;refine (tR F T W3).mono ?_;rintro e x3 ⟨rfl,kx⟩;have fm:Hid (Below w.heap.size w x3/\x3.ownsRow w.heap.size 186 7 (.slice (some ⟨g,0,none⟩) 2 2) 2 (fq (([bx F bj,bx ej T]:List En).map En.z))):=⟨HO.out.1.trans (kx.mono HO.out.1.size),dr HO.out.2 kx⟩
  clear kx;have hO:=fm.out.2;go_wp2_with (at_builtin;refine wpList_append_own_at _ rfl _ _ 117 rfl w.heap.size 186 i0 (.agg #[.int .i64 0,.int .i64 0,.int .u64 0,.int .u64 0,.int .u64 0,.int .u64 0,.bool false]) 7 56 underlying117 hi dD cQ cJ rfl (by decide) _ _ _ rfl (hO.alloc _) ⟨x3.heap.size,0,none⟩ 1 1 (dq F T) rfl rfl (fun j u hj=>(St.new x3 186 (dq F T).toArray).sJ j u (by simpa using hj)) ?d2 ?d3 ?d4 ?d5 ?_)
  case d2=>intro u hu;simp[dq] at hu;rcases hu with rfl|rfl|rfl|rfl <;> rfl
  case d3=>unfold maxLen;omega
  case d4=>omega
  case d5=>have:=fm.out.1.size;simp at this⊢;omega
  intro v3 y3 aQ dd _ _;obtain⟨a3,c3,rfl⟩:=bG aQ;have H3:Hid (Below w.heap.size w y3/\y3.ownsRow w.heap.size 186 7 (.slice a3 3 c3) 3 (fq (([bx F bj,bx ej T,bx F T]:List En).map En.z))):=by
   have h1:=fm.out.1.trans ((al x3 (.cells (dq F T).toArray 186)).mono fm.out.1.size);refine⟨fO h1 (hO.alloc _) h1.size dd,?_⟩;have h2:fq (([bx F bj,bx ej T,bx F T]:List En).map En.z)=fq (([bx F bj,bx ej T]:List En).map En.z)++dq F T:=(by simp[fq,dg,En.z,bx,zv,dq]);rw[h2];exact aQ
  clear aQ dd hO;go_wp2;go_ret;rw[rB.out];exact⟨a3,c3,rfl,H3.out.2,H3.out.1⟩
 have rB:Hid (eB k j r=[bx F bj,bx ej T,bx F T,bx ej bj]):=by show _=_;rw[HL.out,if_neg h5,if_neg h6];rfl
 have q5:((k:Int) != 5)=true:=by rw[bne_iff_ne];exact h5
 have q6:((k:Int) != 6)=true:=by rw[bne_iff_ne];exact h6
 clear h5 h6 HL;go_wp2_with fail;refine (tR F T W3).mono ?_;rintro e x3 ⟨rfl,kx⟩;have fm:Hid (Below w.heap.size w x3/\x3.ownsRow w.heap.size 186 7 (.slice (some ⟨g,0,none⟩) 2 2) 2 (fq (([bx F bj,bx ej T]:List En).map En.z))):=⟨HO.out.1.trans (kx.mono HO.out.1.size),dr HO.out.2 kx⟩
 clear kx;have hO:=fm.out.2;go_wp2_with (at_builtin;refine wpList_append_own_at _ rfl _ _ 117 rfl w.heap.size 186 i0 (.agg #[.int .i64 0,.int .i64 0,.int .u64 0,.int .u64 0,.int .u64 0,.int .u64 0,.bool false]) 7 56 underlying117 hi dD cQ cJ rfl (by decide) _ _ _ rfl (hO.alloc _) ⟨x3.heap.size,0,none⟩ 1 1 (dq F T) rfl rfl (fun j u hj=>(St.new x3 186 (dq F T).toArray).sJ j u (by simpa using hj)) ?d2 ?d3 ?d4 ?d5 ?_)
 case d2=>intro u hu;simp[dq] at hu;rcases hu with rfl|rfl|rfl|rfl <;> rfl
 case d3=>unfold maxLen;omega
 case d4=>omega
 case d5=>have:=fm.out.1.size;simp at this⊢;omega
 intro v3 y3 aQ dd _ _;obtain⟨a3,c3,rfl⟩:=bG aQ;have H3:Hid (Below w.heap.size w y3/\y3.ownsRow w.heap.size 186 7 (.slice a3 3 c3) 3 (fq (([bx F bj,bx ej T,bx F T]:List En).map En.z))):=by
  have h1:=fm.out.1.trans ((al x3 (.cells (dq F T).toArray 186)).mono fm.out.1.size);refine⟨fO h1 (hO.alloc _) h1.size dd,?_⟩;have h2:fq (([bx F bj,bx ej T,bx F T]:List En).map En.z)=fq (([bx F bj,bx ej T]:List En).map En.z)++dq F T:=by simp[fq,dg,En.z,bx,zv,dq]
  rw[h2];exact aQ
 clear aQ dd hO;go_wp2_with fail;refine (zV.out y3).mono ?_;rintro e w5 ⟨rfl,rfl⟩;go_wp2_with fail;refine (CZ.out y3).mono ?_;rintro e w5 ⟨rfl,rfl⟩;go_wp2_with fail;refine (tR ej bj y3).mono ?_;rintro e x4 ⟨rfl,kx⟩;have kt:Hid (Below w.heap.size w x4/\x4.ownsRow w.heap.size 186 7 (.slice a3 3 c3) 3 (fq (([bx F bj,bx ej T,bx F T]:List En).map En.z))):=⟨H3.out.1.trans (kx.mono H3.out.1.size),dr H3.out.2 kx⟩
 clear kx;have hO:=kt.out.2;go_wp2_with (at_builtin;refine wpList_append_own_at _ rfl _ _ 117 rfl w.heap.size 186 i0 (.agg #[.int .i64 0,.int .i64 0,.int .u64 0,.int .u64 0,.int .u64 0,.int .u64 0,.bool false]) 7 56 underlying117 hi dD cQ cJ rfl (by decide) _ _ _ rfl (hO.alloc _) ⟨x4.heap.size,0,none⟩ 1 1 (dq ej bj) rfl rfl (fun j u hj=>(St.new x4 186 (dq ej bj).toArray).sJ j u (by simpa using hj)) ?d2 ?d3 ?d4 ?d5 ?_)
 case d2=>intro u hu;simp[dq] at hu;rcases hu with rfl|rfl|rfl|rfl <;> rfl
 case d3=>unfold maxLen;omega
 case d4=>omega
 case d5=>have:=kt.out.1.size;simp at this⊢;omega
 intro v4 y4 aQ dd _ _;obtain⟨a4,c4,rfl⟩:=bG aQ;have H4:Hid (Below w.heap.size w y4/\y4.ownsRow w.heap.size 186 7 (.slice a4 4 c4) 4 (fq (([bx F bj,bx ej T,bx F T,bx ej bj]:List En).map En.z))):=by
  have h1:=kt.out.1.trans ((al x4 (.cells (dq ej bj).toArray 186)).mono kt.out.1.size);refine⟨fO h1 (hO.alloc _) h1.size dd,?_⟩;have h2:fq (([bx F bj,bx ej T,bx F T,bx ej bj]:List En).map En.z)=fq (([bx F bj,bx ej T,bx F T]:List En).map En.z)++dq ej bj:=by simp[fq,dg,En.z,bx,zv,dq]
  rw[h2];exact aQ
 clear aQ dd hO;go_wp2;go_ret;rw[rB.out];exact⟨a4,c4,rfl,H4.out.2,H4.out.1⟩
def qn:Pc:=⟨0,fun _=>false⟩
def kc(l:List Pc)(i:Nat):List En:=
 if aI (l.getD i qn).k=1 then eB (l.getD i qn).k (i-1) i else if aI (l.getD i qn).k=2 then cm (l.getD i qn).k (dP l (i-1)-1) (i-1) i else fV (l.getD i qn) i
theorem Mr(s v:List Pc)(x:Pc):(s++x :: v).getD s.length qn=x:=by simp[List.getD_eq_getElem?_getD]
theorem zdU{α β:Type}{l:List α}{f g:α->List β}(h:∀x∈l,f x=g x):l.flatMap f=l.flatMap g:=by
 induction l with
 | nil=>rfl
 | cons a l ih=>simp only[List.flatMap_cons];rw[h a List.mem_cons_self,ih (fun x hx=>h x (List.mem_cons_of_mem _ hx))]
theorem QW{β:Type}(n m:Nat)(f:Nat->List β):(range (n+m)).flatMap f=(range n).flatMap f++(range m).flatMap (fun j=>f (n+j)):=by
 rw[List.range_add,List.flatMap_append];congr 1
 induction m with
 | zero=>rfl
 | succ m ih=>rw[List.range_succ,List.map_append,List.flatMap_append,List.flatMap_append,ih];rfl
theorem zn2(t:Rx)(hw:t.wf):∀(s u:List Pc),(range t.flat.length).flatMap (fun j=>kc (s++(t.flat++u)) (s.length+j))=fB t s.length:=by
 induction t with
 | leaf x=>
  intro s u;have h0:aI x.k=0:=hw.1;show (range 1).flatMap _=_;have e:(s++((Rx.leaf x).flat++u)).getD s.length qn=x:=Mr s u x;show kc (s++((Rx.leaf x).flat++u)) (s.length+0)++[]=fV x s.length;rw[append_nil,Nat.add_zero];unfold kc;rw[e,h0,if_neg (by omega),if_neg (by omega)]
 | un x a ih=>
  intro s u;have h1:aI x.k=1:=hw.1;have hl:(Rx.un x a).flat.length=a.flat.length+1:=by simp[Rx.flat]
  have hf:s++((Rx.un x a).flat++u)=s++(a.flat++(x :: u)):=by simp[Rx.flat]
  rw[hl,hf,QW,ih hw.2.2 s (x :: u)];show fB a s.length++(kc (s++(a.flat++x :: u)) (s.length+(a.flat.length+0))++[])=_;have e:(s++(a.flat++x :: u)).getD (s.length+a.flat.length) qn=x:=by
   have:=Mr (s++a.flat) u x;rwa [length_append,append_assoc] at this
  rw[append_nil,Nat.add_zero];show _=fB a s.length++eB x.k (s.length+a.flat.length-1) (s.length+a.flat.length);congr 1;unfold kc;rw[e,if_pos h1]
 | bin x a b ih jh=>
  intro s u;have h2:aI x.k=2:=hw.1;have hp:=a.bZ;have hq:=b.bZ;have hl:(Rx.bin x a b).flat.length=a.flat.length+(b.flat.length+1):=by simp[Rx.flat]
  have hf:s++((Rx.bin x a b).flat++u)=s++(a.flat++(b.flat++x :: u)):=by simp[Rx.flat]
  rw[hl,hf,QW,ih hw.2.2.1 s (b.flat++x :: u),QW];have hb:=jh hw.2.2.2 (s++a.flat) (x :: u);rw[append_assoc,length_append] at hb;have ct:(range b.flat.length).flatMap (fun j=>kc (s++(a.flat++(b.flat++x :: u))) (s.length+(a.flat.length+j)))=fB b (s.length+a.flat.length):=by
   rw[<-hb];refine(zdU fun j _=>?_);rw[Nat.add_assoc]
  rw[ct];show fB a s.length++(fB b (s.length+a.flat.length)++(kc (s++(a.flat++(b.flat++x :: u))) (s.length+(a.flat.length+(b.flat.length+0)))++[]))=fB a s.length++(fB b (s.length+a.flat.length)++cm x.k (s.length+a.flat.length-1) (s.length+a.flat.length+b.flat.length-1) (s.length+a.flat.length+b.flat.length));rw[append_nil,Nat.add_zero];congr 2;have e:(s++(a.flat++(b.flat++x :: u))).getD (s.length+(a.flat.length+b.flat.length)) qn=x:=by
   simp
  have NO:dP (s++(a.flat++(b.flat++x :: u))) (s.length+(a.flat.length+b.flat.length)-1)=s.length+a.flat.length:=by
   unfold dP;have et:(s++(a.flat++(b.flat++x :: u))).take (s.length+(a.flat.length+b.flat.length)-1+1)=(s++a.flat)++b.flat:=by
    rw[show s.length+(a.flat.length+b.flat.length)-1+1=((s++a.flat)++b.flat).length by simp;omega,show s++(a.flat++(b.flat++x :: u))=((s++a.flat)++b.flat)++(x :: u) by simp,List.take_left'];rfl
   rw[et,List.reverse_append,UL b hw.2.2.2 _ 1 (by omega),if_pos rfl,List.length_reverse,length_append]
  unfold kc;rw[e,if_neg (by omega),if_pos h2,NO];congr 1 <;> omega
theorem NI(t:Rx)(hw:t.wf):(range t.flat.length).flatMap (kc t.flat)=fB t 0:=by
 have:=zn2 t hw [] [];simpa using this
def BQ(l:List Pc)(i:Nat):Prop:=(aI (l.getD i qn).k=1->1<=i)/\(aI (l.getD i qn).k=2->1<=i/\1<=dP l (i-1))
theorem zl0(t:Rx)(hw:t.wf):∀(s u:List Pc) (j:Nat),j<t.flat.length->BQ (s++(t.flat++u)) (s.length+j):=by
 induction t with
 | leaf x=>
  intro s u j hj;have h0:aI x.k=0:=hw.1;have hj0:j=0:=by simpa [Rx.flat] using hj
  subst hj0;have e:(s++((Rx.leaf x).flat++u)).getD (s.length+0) qn=x:=Mr s u x;unfold BQ;rw[e,h0];exact⟨fun h=>absurd h (by omega),fun h=>absurd h (by omega)⟩
 | un x a ih=>
  intro s u j hj;have h1:aI x.k=1:=hw.1;have hp:=a.bZ;have hl:(Rx.un x a).flat.length=a.flat.length+1:=by simp[Rx.flat]
  have hf:s++((Rx.un x a).flat++u)=s++(a.flat++(x :: u)):=by simp[Rx.flat]
  rw[hf];by_cases Pj:j<a.flat.length
  ·exact ih hw.2.2 s (x :: u) j Pj
  have QI:j=a.flat.length:=by omega
  subst QI;have e:(s++(a.flat++x :: u)).getD (s.length+a.flat.length) qn=x:=by
   have:=Mr (s++a.flat) u x;rwa [length_append,append_assoc] at this
  unfold BQ;rw[e,h1];exact⟨fun _=>by omega,fun h=>absurd h (by omega)⟩
 | bin x a b ih jh=>
  intro s u j hj;have h2:aI x.k=2:=hw.1;have hp:=a.bZ;have hq:=b.bZ;have hl:(Rx.bin x a b).flat.length=a.flat.length+(b.flat.length+1):=by simp[Rx.flat]
  have hf:s++((Rx.bin x a b).flat++u)=s++(a.flat++(b.flat++x :: u)):=by simp[Rx.flat]
  rw[hf];by_cases Pj:j<a.flat.length
  ·exact ih hw.2.2.1 s (b.flat++x :: u) j Pj
  by_cases hjb:j<a.flat.length+b.flat.length
  ·have:=jh hw.2.2.2 (s++a.flat) (x :: u) (j-a.flat.length) (by omega);rw[append_assoc,length_append,show s.length+a.flat.length+(j-a.flat.length)=s.length+j by omega] at this;exact this
  have QI:j=a.flat.length+b.flat.length:=by omega
  subst QI;have e:(s++(a.flat++(b.flat++x :: u))).getD (s.length+(a.flat.length+b.flat.length)) qn=x:=by
   simp
  have NO:dP (s++(a.flat++(b.flat++x :: u))) (s.length+(a.flat.length+b.flat.length)-1)=s.length+a.flat.length:=by
   unfold dP;have et:(s++(a.flat++(b.flat++x :: u))).take (s.length+(a.flat.length+b.flat.length)-1+1)=(s++a.flat)++b.flat:=by
    rw[show s.length+(a.flat.length+b.flat.length)-1+1=((s++a.flat)++b.flat).length by simp;omega,show s++(a.flat++(b.flat++x :: u))=((s++a.flat)++b.flat)++(x :: u) by simp,List.take_left'];rfl
   rw[et,List.reverse_append,UL b hw.2.2.2 _ 1 (by omega),if_pos rfl,List.length_reverse,length_append]
  unfold BQ;rw[e,h2,NO];exact⟨fun h=>absurd h (by omega),fun _=>by omega⟩
theorem zkc(t:Rx)(hw:t.wf)(j:Nat)(hj:j<t.flat.length):BQ t.flat j:=by
 have:=zl0 t hw [] [] j hj;simpa using this
theorem zl1(x:Pc)(i:Nat)(hk:x.k=0\/x.k=1):fq ((fV x i).map En.z)=[.int .i64 ((2*i:Nat):Int),.int .i64 ((2*i+1:Nat):Int),.int .u64 ((wd x.p 0:Nat):Int),.int .u64 ((wd x.p 1:Nat):Int),.int .u64 ((wd x.p 2:Nat):Int),.int .u64 ((wd x.p 3:Nat):Int),.bool (x.k == 0)]:=by
 have h:decide (x.k=0)=(x.k == 0):=by rcases hk with h|h <;> rw[h] <;> rfl
 simp[fq,dg,En.z,fV,h]
theorem zl2:∀(l:List Pc) (m:Int),jI l m<=l.length:=by
 intro l
 induction l with
 | nil=>intro m;exact Nat.le_refl _
 | cons x r ih=>
  intro m;unfold jI;split
  ·simp
  have:=ih (m+(aI x.k-1));simp;omega
theorem zkd(l:List Pc)(j:Nat):dP l j<=j+1:=by
 unfold dP;have:=zl2 (l.take (j+1)).reverse 1;simp at this;omega
theorem Y6(l:List Pc)(a:Option Addr)(n cap:Nat)(w:World)(hL:ml w a l)(hn:l.length=n)(ku:n<=100000)(i:Nat)(hi:i<n)(hv:0<=aI (l.getD i qn).k)(JG:BQ l i):
  Calls prog 115 #[.slice a n cap,.int .i64 (i:Int)] w (tL (kc l i) w):=by
 obtain⟨g,off,rfl,hg,c0,c1,c2,c3,c4⟩:=hL.get i (by omega);have hx:l[i]'(by omega)=l.getD i qn:=by simp[List.getD_eq_getElem?_getD,show i<l.length by omega]
 rw[hx] at c0 c1 c2 c3 c4;obtain⟨x,GR⟩:∃x,l.getD i qn=x:=⟨_,rfl⟩
 have HE:Hid (kc l i=if aI x.k=1 then eB x.k (i-1) i else if aI x.k=2 then cm x.k (dP l (i-1)-1) (i-1) i else fV x i):=by
  show _=_;unfold kc;rw[GR]
 unfold BQ at JG;rw[GR] at c0 c1 c2 c3 c4 hv JG;have kq:Hid (1<=i->∀W,Below w.heap.size w W->Calls prog 145 #[.slice (some ⟨g,off,none⟩) n cap,.int .i64 ((i-1:Nat):Int)] W fun e w'=>e=.returned (.int .i64 ((dP l (i-1):Nat):Int))/\W=w'):=fun h W hW=>zi8 l _ n cap W (hL.below hW) hn (by omega) (i-1) (by omega)
 have CV:=hid (fun (W:World)=>Bn i (by omega) W);have CQ:=hid (fun (W:World)=>EV i (by omega) W);have HX:=hid (Zz hv JG);have pG:Hid (1<=i->∀W,Calls prog 143 #[.int .i64 x.k,.int .i64 ((i:Int)-1),.int .i64 ((2*i:Nat):Int),.int .i64 ((2*i+1:Nat):Int)] W (tL (eB x.k (i-1) i) W)):=fun h W=>by
  have:=zfK x.k (i-1) i (by omega) (by omega) W;rwa [show ((i-1:Nat):Int)=(i:Int)-1 by omega] at this
 have tK:Hid (1<=i->∀R:Nat,1<=R->R<=1000000->∀W,Calls prog 144 #[.int .i64 x.k,.int .i64 ((R:Int)-1),.int .i64 ((i:Int)-1),.int .i64 ((2*i:Nat):Int),.int .i64 ((2*i+1:Nat):Int)] W (tL (cm x.k (R-1) (i-1) i) W)):=fun h R hR OJ W=>by
  have:=ziD x.k (R-1) (i-1) i (by omega) (by omega) (by omega) W;rwa [show ((i-1:Nat):Int)=(i:Int)-1 by omega,show ((R-1:Nat):Int)=(R:Int)-1 by omega] at this
 have DO:Hid (1<=i->dP l (i-1)<=1000000):=fun h=>by
  have:=zkd l (i-1);omega
 obtain⟨bi,AK⟩:∃b:Nat,2*i=b:=⟨_,rfl⟩
 obtain⟨ei,Ba⟩:∃b:Nat,2*i+1=b:=⟨_,rfl⟩
 have Xj:=hid (Zz AK Ba);rw[AK] at CV;rw[Ba] at CQ;rw[Ba,AK] at pG tK;have i1:(i:Int)<n:=by omega
 clear hL hn hx GR hv JG AK Ba;obtain⟨k,hk⟩:∃k,x.k=k:=⟨_,rfl⟩
 have Hk:=hid hk;rw[hk] at c0 pG tK HE HX;obtain⟨p0,EI⟩:∃p0:Nat,wd x.p 0=p0:=⟨_,rfl⟩
 obtain⟨p1,fU⟩:∃p1:Nat,wd x.p 1=p1:=⟨_,rfl⟩
 obtain⟨p2,fj⟩:∃p2:Nat,wd x.p 2=p2:=⟨_,rfl⟩
 obtain⟨p3,hY⟩:∃p3:Nat,wd x.p 3=p3:=⟨_,rfl⟩
 have Hp:=hid (Zz EI (Zz fU (Zz fj hY)));rw[EI] at c1;rw[fU] at c2;rw[fj] at c3;rw[hY] at c4;clear hk EI fU fj hY;go_enter func115,ntmps115;go_wp2_with fail
 go_cut [5,6,7] from 9 to 17 (fun v5 v6 v7 wx=>v5=.pointer (some ⟨w.heap.size,0,none⟩)/\v6=.int .i64 (bi:Int)/\v7=.int .i64 (ei:Int)/\St wx 148 w.heap.size #[.int .i64 k,.int .u64 (p0:Int),.int .u64 (p1:Int),.int .u64 (p2:Int),.int .u64 (p3:Int)]/\Below w.heap.size w wx)
 case first=>
  go_region_with (first
   | (go_at_call 113;refine (CV.out _).mono ?_;rintro e w' ⟨rfl,rfl⟩)
   | (go_at_call 114;refine (CQ.out _).mono ?_;rintro e w' ⟨rfl,rfl⟩))
  all_goals
   go_wp2_with fail
   go_meet
   exact⟨rfl,rfl,rfl,St.new _ _ _,((Below.refl _ _).alloc (Nat.le_refl _) _).drew⟩
 case rest=>
  obtain⟨rfl,rfl,rfl,hS,hB⟩:=hcut;have h0:=hS.at_ 0;have h1:=hS.at_ 1;have h2:=hS.at_ 2;have h3:=hS.at_ 3;have h4:=hS.at_ 4;simp only[List.getElem?_toArray,List.getElem?_cons_succ,List.getElem?_cons_zero] at h0 h1 h2 h3 h4;have HB:=hid hB;have HSc:=hid hS;clear hS hB c0 c1 c2 c3 c4 CV CQ;go_wp2_with fail;refine (NW k _).mono ?_;rintro e w2 ⟨rfl,rfl⟩;rcases Ap k with ⟨e0,p8⟩|⟨e0,p8⟩|⟨e0,p8⟩|⟨e0,_⟩
  ·have lC:Hid (kc l i=fV x i):=(by show _=_;rw[HE.out,e0,if_neg (by omega),if_neg (by omega)]);have Hlg:=hid (zl1 x i (by rw[Hk.out];exact p8));rw[e0];clear pG tK DO kq HE p8 e0;go_wp2;go_ret;have ho:=AW wc w.heap.size 186 7 #[.int .i64 (bi:Int),.int .i64 (ei:Int),.int .u64 (p0:Int),.int .u64 (p1:Int),.int .u64 (p2:Int),.int .u64 (p3:Int),.bool (k == 0)] 1 rfl HB.out.size (by unfold maxLen;omega);rw[lC.out];refine⟨some ⟨wc.heap.size,0,none⟩,1,rfl,?_,HB.out.trans ((al wc _).mono HB.out.size)⟩;rw[Hlg.out,Xj.out.2,Xj.out.1,Hp.out.1,Hp.out.2.1,Hp.out.2.2.1,Hp.out.2.2.2,Hk.out];exact ho
  ·have lC:Hid (kc l i=cm k (dP l (i-1)-1) (i-1) i):=(by show _=_;rw[HE.out,e0,if_neg (by omega),if_pos rfl]);obtain⟨Em,Xp⟩:=HX.out.2.2 e0;have OJ:=DO.out Em;have jJ:=hid (kq.out Em);have kj:=hid (tK.out Em _ Xp OJ);obtain⟨R,hR⟩:∃R,dP l (i-1)=R:=(⟨_,rfl⟩);rw[hR] at jJ kj lC Xp OJ;rw[show ((i-1:Nat):Int)=(i:Int)-1 by omega] at jJ;rw[<-show IntKind.i64.wrap ((R:Int)-1)=(R:Int)-1 from IntWalk.i64_in _ (by omega)] at kj;rw[e0];have i3:(1:Int)<=i:=(by omega);have i4:(1:Int)<=R:=(by omega);clear pG tK DO kq HE p8 e0 hR;go_upto_region 7 with fail;have FY:Hid (∀W,Below w.heap.size w W->∀{W'},Below W.heap.size W W'->W.cell? ⟨w.heap.size,0,none⟩=some (.int .i64 k)->W'.cell? ⟨w.heap.size,0,none⟩=some (.int .i64 k)):=fun W hW W' hb hc=>by
    by_cases hl:w.heap.size<W.heap.size
    ·exact (hb.cell (p:=⟨w.heap.size,0,none⟩) hl).trans hc
    simp[World.cell?,Array.getElem?_eq_none (by omega:W.heap.size<=w.heap.size)] at hc
   refine wp_region_held_drew (S:=fun W'=>Below w.heap.size w W'/\W'.cell? ⟨w.heap.size,0,none⟩=some (.int .i64 k)/\True) (by kernel_rfl) ⟨HB.out.drew,HSc.out.at_ 0,trivial⟩ (fun hHeld=>?_)
   (refine ag 0 ?_;refine ag 1 ?_;refine ag 2 ?_;try simp only[put,sA,sB,sC];refine ag 3 ?_;refine ag 6 ?_;refine ag 7 ?_;try simp only[put,sA,sB,sC];refine ag 8 ?_;try simp only[put,sA,sB,sC])
   refine ba 4 (fun K hK=>?_);skip;go_simp;go_at_call 145;refine (jJ.out _ (And.left hHeld)).mono ?_;rintro e w2 ⟨rfl,rfl⟩
   try go_wp2_with fail
   refine hK.out _ _ (hHeld) (fun hHeld=>?_);clear hK K
   try simp only[put,sA,sB,sC]
   (refine ag 5 ?_;try simp only[put,sA,sB,sC])
   refine ba 9 (fun K hK=>?_);skip;go_simp;go_at_call 144;have ew:=And.left hHeld;refine (kj.out _).mono ?_;rintro e w3 ⟨a2,c2,rfl,ho2,ct⟩;have la:Hid (w3.ownsRow w.heap.size 186 7 (.slice a2 (cm k (R-1) (i-1) i).length c2) (cm k (R-1) (i-1) i).length (fq ((cm k (R-1) (i-1) i).map En.z))/\Below w.heap.size w w3):=(⟨jR ho2 ew.size,ew.trans (ct.mono ew.size)⟩);have yM:=FY.out _ ew ct;clear ho2 ct ew
   try go_wp2_with fail
   refine hK.out _ _ (⟨la.out.2,yM (And.left (And.right hHeld)),trivial⟩) (fun hHeld=>?_);clear hK K
   try simp only[put,sA,sB,sC]
   (refine ag 10 ?_;try simp only[put,sA,sB,sC])
   refine wpAnyH_done (by kernel_rfl) ?_ _;clear hHeld;go_wp2;go_ret;rw[lC.out];exact⟨a2,c2,rfl,la.out.1,la.out.2⟩
  ·have lC:Hid (kc l i=eB k (i-1) i):=(by show _=_;rw[HE.out,if_pos e0]);have xK:=hid (pG.out (HX.out.2.1 e0));have i3:(1:Int)<=i:=(by have:=HX.out.2.1 e0;omega);rw[e0];clear pG tK DO kq HE p8 e0;go_wp2_with fail;refine (xK.out _).mono ?_;rintro e w2 ⟨a2,c2,rfl,ho2,ct⟩;have la:Hid (w2.ownsRow w.heap.size 186 7 (.slice a2 (eB k (i-1) i).length c2) (eB k (i-1) i).length (fq ((eB k (i-1) i).map En.z))/\Below w.heap.size w w2):=(⟨jR ho2 HB.out.size,HB.out.trans (ct.mono HB.out.size)⟩);clear ho2 ct;go_wp2;go_ret;rw[lC.out];exact⟨a2,c2,rfl,la.out.1,la.out.2⟩
  exact absurd HX.out.1 (by rw[e0];omega)
end Go.Proofs.YtiijebameffenaaGreat
