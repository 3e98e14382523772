import Derived.Test.YtiijebameffenaaGreatZChk
import Derived.Test.YtiijebameffenaaGreatZQThom
import Derived.Test.YtiijebameffenaaGreatZRefClass
import Derived.Deep.RegionLaw
set_option linter.all false
set_option maxHeartbeats 4000000
set_option maxRecDepth 100000
open Go.Lib (hid)
namespace Go.Proofs.YtiijebameffenaaGreat
open Go.RowKit Go.Maps Go.Proofs.Tryz
open List (append_assoc append_nil length_append range)
open Act (put)
theorem Fi(k:Nat)(hk:k<=1000000)(w:World):Calls prog 113 #[.int .i64 (k:Int)] w fun e w'=>e=.returned (.int .i64 (((2*k:Nat)):Int))/\w=w':=by
 go_in;go_wp2;go_ret;exact⟨by show Ending.returned _=_;congr 2,rfl⟩
theorem Ig(k:Nat)(hk:k<=1000000)(w:World):Calls prog 114 #[.int .i64 (k:Int)] w fun e w'=>e=.returned (.int .i64 (((2*k+1:Nat)):Int))/\w=w':=by
 go_in;go_wp2;go_ret;exact⟨by show Ending.returned _=_;congr 2,rfl⟩
def wK(L:List En)(w:World)(e:Ending)(w':World):Prop:=
 ∃a c,e=.returned (.slice a L.length c)/\w'.ownsRow w.heap.size 186 7 (.slice a L.length c) L.length (gd (L.map En.z))/\ϐ w w'
def dU(f t:Nat):List Value:=[.int .i64 ((f:Nat):Int),.int .i64 ((t:Nat):Int),.int .u64 0,.int .u64 0,.int .u64 0,.int .u64 0,.bool true]
theorem BA(f t:Nat)(l:List En):gd ((bY f t :: l).map En.z)=dU f t++gd (l.map En.z):=by
 show dJ (bY f t).z++_=_;rw[zmG];rfl
theorem zke(k:Int)(i j r:Nat)(hi:i<=1000000)(hj:j<=1000000)(hr:r<=1000000)(w:World):
  Calls prog 144 #[.int .i64 k,.int .i64 (i:Int),.int .i64 (j:Int),.int .i64 ((2*r:Nat):Int),.int .i64 ((2*r+1:Nat):Int)] w (wK (dj k i j r) w):=by
 have Hb:=hid (fun (x:Nat) (hx:x<=1000000) (W:World)=>Fi x hx W);have He:=hid (fun (x:Nat) (hx:x<=1000000) (W:World)=>Ig x hx W);obtain⟨F,hF⟩:∃F:Nat,2*r=F:=⟨_,rfl⟩
 obtain⟨T,hT⟩:∃T:Nat,2*r+1=T:=⟨_,rfl⟩
 obtain⟨bi,B9⟩:∃x:Nat,2*i=x:=⟨_,rfl⟩
 obtain⟨ei,CT⟩:∃x:Nat,2*i+1=x:=⟨_,rfl⟩
 obtain⟨bj,CV⟩:∃x:Nat,2*j=x:=⟨_,rfl⟩
 obtain⟨ej,ED⟩:∃x:Nat,2*j+1=x:=⟨_,rfl⟩
 have D5:=hid (fun (W:World)=>Fi i hi W);have EL:=hid (fun (W:World)=>Ig i hi W);have Fv:=hid (fun (W:World)=>Fi j hj W);have BZ:=hid (fun (W:World)=>Ig j hj W);have HL:Hid (dj k i j r=if k=2 then [bY F bi,bY ei bj,bY ej T] else [bY F bi,bY ei T,bY F bj,bY ej T]):=by
  show _=_;unfold dj;rw[hT,CT,ED,hF,B9,CV]
 rw[B9] at D5;rw[CT] at EL;rw[CV] at Fv;rw[ED] at BZ;rw[hT,hF];clear hF hT B9 CT CV ED Hb He;by_cases h2:k=2
 ·have s9:Hid (dj k i j r=[bY F bi,bY ei bj,bY ej T]):=by show _=_;rw[HL.o,if_pos h2]
  have h1:((k:Int) == 2)=true:=by rw[h2];rfl
  clear h2 HL;go_in;go_wp2_with fail;refine (D5.o w).mono ?_;rintro e w1 ⟨rfl,rfl⟩;go_wp2_with fail;refine (vH F bi w).mono ?_;rintro e w1 ⟨rfl,k1⟩;have H1:=hid k1;clear k1;go_wp2_with fail;refine (EL.o w1).mono ?_;rintro e w1 ⟨rfl,rfl⟩;go_wp2_with fail;refine (Fv.o _).mono ?_;rintro e w2 ⟨rfl,rfl⟩;go_wp2_with fail;refine (vH ei bj _).mono ?_;rintro e w3 ⟨rfl,k3⟩;have H3:=hid (H1.o.trans (k3.mono H1.o.size));clear k3;go_wp2_with fail;refine (BZ.o w3).mono ?_;rintro e w4 ⟨rfl,rfl⟩;go_wp2_with fail;refine (vH ej T _).mono ?_;rintro e w5 ⟨rfl,k5⟩;have H5:=hid (H3.o.trans (k5.mono H3.o.size));clear k5;go_wp2;go_ret;have ho:=zG w5 w.heap.size 186 7 ((dU F bi++(dU ei bj++dU ej T)).toArray) 3 rfl H5.o.size (by unfold maxLen;omega);rw[s9.o];refine⟨some ⟨w5.heap.size,0,none⟩,3,rfl,?_,H5.o.trans ((al w5 _).mono H5.o.size)⟩;rw[BA,BA,BA];simpa [dU,gd] using ho
 have s9:Hid (dj k i j r=[bY F bi,bY ei T,bY F bj,bY ej T]):=by show _=_;rw[HL.o,if_neg h2]
 have h1:((k:Int) == 2)=false:=by rw[beq_eq_false_iff_ne];exact h2
 clear h2 HL;go_in;go_wp2_with fail;refine (D5.o w).mono ?_;rintro e w1 ⟨rfl,rfl⟩;go_wp2_with fail;refine (vH F bi w).mono ?_;rintro e w1 ⟨rfl,k1⟩;have H1:=hid k1;clear k1;go_wp2_with fail;refine (EL.o w1).mono ?_;rintro e w1 ⟨rfl,rfl⟩;go_wp2_with fail;refine (vH ei T _).mono ?_;rintro e w3 ⟨rfl,k3⟩;have H3:=hid (H1.o.trans (k3.mono H1.o.size));clear k3;go_wp2_with fail;refine (Fv.o w3).mono ?_;rintro e w4 ⟨rfl,rfl⟩;go_wp2_with fail;refine (vH F bj _).mono ?_;rintro e w5 ⟨rfl,k5⟩;have H5:=hid (H3.o.trans (k5.mono H3.o.size));clear k5;go_wp2_with fail;refine (BZ.o w5).mono ?_;rintro e w6 ⟨rfl,rfl⟩;go_wp2_with fail;refine (vH ej T _).mono ?_;rintro e w7 ⟨rfl,k7⟩;have H7:=hid (H5.o.trans (k7.mono H5.o.size));clear k7;go_wp2;go_ret;have ho:=zG w7 w.heap.size 186 7 ((dU F bi++(dU ei T++(dU F bj++dU ej T))).toArray) 4 rfl H7.o.size (by unfold maxLen;omega);rw[s9.o];refine⟨some ⟨w7.heap.size,0,none⟩,4,rfl,?_,H7.o.trans ((al w7 _).mono H7.o.size)⟩;rw[BA,BA,BA,BA];simpa [dU,gd] using ho
theorem St.uy{w:World}{t g:Nat}{cs:Array Value}(h:St w t g cs):∀j v,cs.toList[j]?=some v->w.cell? ((⟨g,0,none⟩:Addr).add j)=some v:=fun j v hj=>by
 have e:(⟨g,0,none⟩:Addr).add j=⟨g,j,none⟩:=by unfold Addr.add;split <;> simp_all
 rw[e,h.at_,<-Array.getElem?_toList,hj]
theorem zgP(k:Int)(j r:Nat)(hj:j<=1000000)(hr:r<=1000000)(w:World):
  Calls prog 143 #[.int .i64 k,.int .i64 (j:Int),.int .i64 ((2*r:Nat):Int),.int .i64 ((2*r+1:Nat):Int)] w (wK (fH k j r) w):=by
 obtain⟨F,hF⟩:∃F:Nat,2*r=F:=⟨_,rfl⟩
 obtain⟨T,hT⟩:∃T:Nat,2*r+1=T:=⟨_,rfl⟩
 obtain⟨bj,CV⟩:∃x:Nat,2*j=x:=⟨_,rfl⟩
 obtain⟨ej,ED⟩:∃x:Nat,2*j+1=x:=⟨_,rfl⟩
 have Fv:=hid (fun (W:World)=>Fi j hj W);have BZ:=hid (fun (W:World)=>Ig j hj W);have Fa:=hid (fun (W:World)=>Fi j hj W);have HL:Hid (fH k j r=[bY F bj,bY ej T]++((if k=5 then [] else [bY F T])++(if k=6 then [] else [bY ej bj]))):=by
  show _=_;unfold fH;rw[hT,ED,hF,CV]
 rw[CV] at Fv;rw[CV] at Fa;rw[ED] at BZ;rw[hT,hF];clear hF hT CV ED;obtain⟨i0,hi,dP,dc,db⟩:=info_parts qg;go_in;go_wp2_with fail;refine (Fv.o w).mono ?_;rintro e w1 ⟨rfl,rfl⟩;go_wp2_with fail;refine (vH F bj w).mono ?_;rintro e w1 ⟨rfl,k1⟩;have H1:=hid k1;clear k1;go_wp2_with fail;refine (BZ.o w1).mono ?_;rintro e w2 ⟨rfl,rfl⟩;go_wp2_with fail;refine (vH ej T _).mono ?_;rintro e w2 ⟨rfl,k2⟩;have HO:Hid (ϐ w (w2.alloc (.cells #[.int .i64 (F:Int),.int .i64 (bj:Int),.int .u64 0,.int .u64 0,.int .u64 0,.int .u64 0,.bool true,.int .i64 (ej:Int),.int .i64 (T:Int),.int .u64 0,.int .u64 0,.int .u64 0,.int .u64 0,.bool true] 186))/\(w2.alloc (.cells #[.int .i64 (F:Int),.int .i64 (bj:Int),.int .u64 0,.int .u64 0,.int .u64 0,.int .u64 0,.bool true,.int .i64 (ej:Int),.int .i64 (T:Int),.int .u64 0,.int .u64 0,.int .u64 0,.int .u64 0,.bool true] 186)).ownsRow w.heap.size 186 7 (.slice (some ⟨w2.heap.size,0,none⟩) 2 2) 2 (gd (([bY F bj,bY ej T]:List En).map En.z))):=by
  have h1:=H1.o.trans (k2.mono H1.o.size);refine⟨h1.trans ((al w2 _).mono h1.size),?_⟩;have ho:=zG w2 w.heap.size 186 7 ((dU F bj++dU ej T).toArray) 2 rfl h1.size (by unfold maxLen;omega);rw[BA,BA];simpa [dU,gd] using ho
 clear k2 H1;go_upto_region 2 with fail;generalize w2.alloc (.cells #[.int .i64 (F:Int),.int .i64 (bj:Int),.int .u64 0,.int .u64 0,.int .u64 0,.int .u64 0,.bool true,.int .i64 (ej:Int),.int .i64 (T:Int),.int .u64 0,.int .u64 0,.int .u64 0,.int .u64 0,.bool true] 186)=W3 at HO⊢;obtain⟨g,hg⟩:=Ξ w2.heap.size
 rw[hg] at HO;rw[hg];clear hg Fv;by_cases h5:k=5
 ·have s9:Hid (fH k j r=[bY F bj,bY ej T,bY ej bj]):=by show _=_;rw[HL.o,if_pos h5,if_neg (by omega)];rfl
  have q5:((k:Int) != 5)=false:=by rw[h5];rfl
  have q6:((k:Int) != 6)=true:=by rw[h5];rfl
  clear h5 HL;go_wp2_with fail;refine (BZ.o W3).mono ?_;rintro e w5 ⟨rfl,rfl⟩;go_wp2_with fail;refine (Fa.o W3).mono ?_;rintro e w5 ⟨rfl,rfl⟩;go_wp2_with fail;refine (vH ej bj W3).mono ?_;rintro e x3 ⟨rfl,kx⟩;have ew:Hid (ϐ w x3/\x3.ownsRow w.heap.size 186 7 (.slice (some ⟨g,0,none⟩) 2 2) 2 (gd (([bY F bj,bY ej T]:List En).map En.z))):=⟨HO.o.1.trans (kx.mono HO.o.1.size),dE HO.o.2 kx⟩
  clear kx;have hO:=ew.o.2;go_wp2_with (at_builtin;refine wpList_append_own_at _ rfl _ _ 117 rfl w.heap.size 186 i0 (.agg #[.int .i64 0,.int .i64 0,.int .u64 0,.int .u64 0,.int .u64 0,.int .u64 0,.bool false]) 7 56 underlying117 hi dP dc db rfl (by decide) _ _ _ rfl (hO.alloc _) ⟨x3.heap.size,0,none⟩ 1 1 (dU ej bj) rfl rfl (fun j u hj=>(St.new x3 186 (dU ej bj).toArray).uy j u (by simpa using hj)) ?d2 ?d3 ?d4 ?d5 ?_)
  case d2=>intro u hu;simp[dU] at hu;rcases hu with rfl|rfl|rfl|rfl <;> rfl
  case d3=>unfold maxLen;omega
  case d4=>omega
  case d5=>have:=ew.o.1.size;simp at this⊢;omega
  intro v3 y3 az dG _ _;obtain⟨a3,c3,rfl⟩:=cy az;have H3:Hid (ϐ w y3/\y3.ownsRow w.heap.size 186 7 (.slice a3 3 c3) 3 (gd (([bY F bj,bY ej T,bY ej bj]:List En).map En.z))):=by
   have h1:=ew.o.1.trans ((al x3 (.cells (dU ej bj).toArray 186)).mono ew.o.1.size);refine⟨gu h1 (hO.alloc _) h1.size dG,?_⟩;have h2:gd (([bY F bj,bY ej T,bY ej bj]:List En).map En.z)=gd (([bY F bj,bY ej T]:List En).map En.z)++dU ej bj:=(by simp[gd,dJ,En.z,bY,xD,dU]);rw[h2];exact az
  clear az dG hO;go_wp2;go_ret;rw[s9.o];exact⟨a3,c3,rfl,H3.o.2,H3.o.1⟩
 by_cases h6:k=6
 ·have s9:Hid (fH k j r=[bY F bj,bY ej T,bY F T]):=by show _=_;rw[HL.o,if_neg h5,if_pos h6];rfl
  have q5:((k:Int) != 5)=true:=by rw[h6];rfl
  have q6:((k:Int) != 6)=false:=by rw[h6];rfl
  clear h5 h6 HL BZ;go_wp2_with fail;refine (vH F T W3).mono ?_;rintro e x3 ⟨rfl,kx⟩;have ew:Hid (ϐ w x3/\x3.ownsRow w.heap.size 186 7 (.slice (some ⟨g,0,none⟩) 2 2) 2 (gd (([bY F bj,bY ej T]:List En).map En.z))):=⟨HO.o.1.trans (kx.mono HO.o.1.size),dE HO.o.2 kx⟩
  clear kx;have hO:=ew.o.2;go_wp2_with (at_builtin;refine wpList_append_own_at _ rfl _ _ 117 rfl w.heap.size 186 i0 (.agg #[.int .i64 0,.int .i64 0,.int .u64 0,.int .u64 0,.int .u64 0,.int .u64 0,.bool false]) 7 56 underlying117 hi dP dc db rfl (by decide) _ _ _ rfl (hO.alloc _) ⟨x3.heap.size,0,none⟩ 1 1 (dU F T) rfl rfl (fun j u hj=>(St.new x3 186 (dU F T).toArray).uy j u (by simpa using hj)) ?d2 ?d3 ?d4 ?d5 ?_)
  case d2=>intro u hu;simp[dU] at hu;rcases hu with rfl|rfl|rfl|rfl <;> rfl
  case d3=>unfold maxLen;omega
  case d4=>omega
  case d5=>have:=ew.o.1.size;simp at this⊢;omega
  intro v3 y3 az dG _ _;obtain⟨a3,c3,rfl⟩:=cy az;have H3:Hid (ϐ w y3/\y3.ownsRow w.heap.size 186 7 (.slice a3 3 c3) 3 (gd (([bY F bj,bY ej T,bY F T]:List En).map En.z))):=by
   have h1:=ew.o.1.trans ((al x3 (.cells (dU F T).toArray 186)).mono ew.o.1.size);refine⟨gu h1 (hO.alloc _) h1.size dG,?_⟩;have h2:gd (([bY F bj,bY ej T,bY F T]:List En).map En.z)=gd (([bY F bj,bY ej T]:List En).map En.z)++dU F T:=(by simp[gd,dJ,En.z,bY,xD,dU]);rw[h2];exact az
  clear az dG hO;go_wp2;go_ret;rw[s9.o];exact⟨a3,c3,rfl,H3.o.2,H3.o.1⟩
 have s9:Hid (fH k j r=[bY F bj,bY ej T,bY F T,bY ej bj]):=by show _=_;rw[HL.o,if_neg h5,if_neg h6];rfl
 have q5:((k:Int) != 5)=true:=by rw[bne_iff_ne];exact h5
 have q6:((k:Int) != 6)=true:=by rw[bne_iff_ne];exact h6
 clear h5 h6 HL;go_wp2_with fail;refine (vH F T W3).mono ?_;rintro e x3 ⟨rfl,kx⟩;have ew:Hid (ϐ w x3/\x3.ownsRow w.heap.size 186 7 (.slice (some ⟨g,0,none⟩) 2 2) 2 (gd (([bY F bj,bY ej T]:List En).map En.z))):=⟨HO.o.1.trans (kx.mono HO.o.1.size),dE HO.o.2 kx⟩
 clear kx;have hO:=ew.o.2;go_wp2_with (at_builtin;refine wpList_append_own_at _ rfl _ _ 117 rfl w.heap.size 186 i0 (.agg #[.int .i64 0,.int .i64 0,.int .u64 0,.int .u64 0,.int .u64 0,.int .u64 0,.bool false]) 7 56 underlying117 hi dP dc db rfl (by decide) _ _ _ rfl (hO.alloc _) ⟨x3.heap.size,0,none⟩ 1 1 (dU F T) rfl rfl (fun j u hj=>(St.new x3 186 (dU F T).toArray).uy j u (by simpa using hj)) ?d2 ?d3 ?d4 ?d5 ?_)
 case d2=>intro u hu;simp[dU] at hu;rcases hu with rfl|rfl|rfl|rfl <;> rfl
 case d3=>unfold maxLen;omega
 case d4=>omega
 case d5=>have:=ew.o.1.size;simp at this⊢;omega
 intro v3 y3 az dG _ _;obtain⟨a3,c3,rfl⟩:=cy az;have H3:Hid (ϐ w y3/\y3.ownsRow w.heap.size 186 7 (.slice a3 3 c3) 3 (gd (([bY F bj,bY ej T,bY F T]:List En).map En.z))):=by
  have h1:=ew.o.1.trans ((al x3 (.cells (dU F T).toArray 186)).mono ew.o.1.size);refine⟨gu h1 (hO.alloc _) h1.size dG,?_⟩;have h2:gd (([bY F bj,bY ej T,bY F T]:List En).map En.z)=gd (([bY F bj,bY ej T]:List En).map En.z)++dU F T:=by simp[gd,dJ,En.z,bY,xD,dU]
  rw[h2];exact az
 clear az dG hO;go_wp2_with fail;refine (BZ.o y3).mono ?_;rintro e w5 ⟨rfl,rfl⟩;go_wp2_with fail;refine (Fa.o y3).mono ?_;rintro e w5 ⟨rfl,rfl⟩;go_wp2_with fail;refine (vH ej bj y3).mono ?_;rintro e x4 ⟨rfl,kx⟩;have kC:Hid (ϐ w x4/\x4.ownsRow w.heap.size 186 7 (.slice a3 3 c3) 3 (gd (([bY F bj,bY ej T,bY F T]:List En).map En.z))):=⟨H3.o.1.trans (kx.mono H3.o.1.size),dE H3.o.2 kx⟩
 clear kx;have hO:=kC.o.2;go_wp2_with (at_builtin;refine wpList_append_own_at _ rfl _ _ 117 rfl w.heap.size 186 i0 (.agg #[.int .i64 0,.int .i64 0,.int .u64 0,.int .u64 0,.int .u64 0,.int .u64 0,.bool false]) 7 56 underlying117 hi dP dc db rfl (by decide) _ _ _ rfl (hO.alloc _) ⟨x4.heap.size,0,none⟩ 1 1 (dU ej bj) rfl rfl (fun j u hj=>(St.new x4 186 (dU ej bj).toArray).uy j u (by simpa using hj)) ?d2 ?d3 ?d4 ?d5 ?_)
 case d2=>intro u hu;simp[dU] at hu;rcases hu with rfl|rfl|rfl|rfl <;> rfl
 case d3=>unfold maxLen;omega
 case d4=>omega
 case d5=>have:=kC.o.1.size;simp at this⊢;omega
 intro v4 y4 az dG _ _;obtain⟨a4,c4,rfl⟩:=cy az;have H4:Hid (ϐ w y4/\y4.ownsRow w.heap.size 186 7 (.slice a4 4 c4) 4 (gd (([bY F bj,bY ej T,bY F T,bY ej bj]:List En).map En.z))):=by
  have h1:=kC.o.1.trans ((al x4 (.cells (dU ej bj).toArray 186)).mono kC.o.1.size);refine⟨gu h1 (hO.alloc _) h1.size dG,?_⟩;have h2:gd (([bY F bj,bY ej T,bY F T,bY ej bj]:List En).map En.z)=gd (([bY F bj,bY ej T,bY F T]:List En).map En.z)++dU ej bj:=by simp[gd,dJ,En.z,bY,xD,dU]
  rw[h2];exact az
 clear az dG hO;go_wp2;go_ret;rw[s9.o];exact⟨a4,c4,rfl,H4.o.2,H4.o.1⟩
def rV:Pc:=⟨0,fun _=>false⟩
def k8(l:List Pc)(i:Nat):List En:=
 if aG (l.getD i rV).k=1 then fH (l.getD i rV).k (i-1) i else if aG (l.getD i rV).k=2 then dj (l.getD i rV).k (dp l (i-1)-1) (i-1) i else gZ (l.getD i rV) i
theorem M7(s v:List Pc)(x:Pc):(s++x :: v).getD s.length rV=x:=by simp[List.getD_eq_getElem?_getD]
theorem zeE{α β:Type}{l:List α}{f g:α->List β}(h:∀x∈l,f x=g x):l.flatMap f=l.flatMap g:=by
 induction l with
 | nil=>rfl
 | cons a l ih=>simp only[List.flatMap_cons];rw[h a List.mem_cons_self,ih (fun x hx=>h x (List.mem_cons_of_mem _ hx))]
theorem Q3{β:Type}(n m:Nat)(f:Nat->List β):(range (n+m)).flatMap f=(range n).flatMap f++(range m).flatMap (fun j=>f (n+j)):=by
 rw[List.range_add,List.flatMap_append];congr 1
 induction m with
 | zero=>rfl
 | succ m ih=>rw[List.range_succ,List.map_append,List.flatMap_append,List.flatMap_append,ih];rfl
theorem zqB(t:Rx)(hw:t.wf):∀(s u:List Pc),(range t.flat.length).flatMap (fun j=>k8 (s++(t.flat++u)) (s.length+j))=gn t s.length:=by
 induction t with
 | leaf x=>
  intro s u;have h0:aG x.k=0:=hw.1;show (range 1).flatMap _=_;have e:(s++((Rx.leaf x).flat++u)).getD s.length rV=x:=M7 s u x;show k8 (s++((Rx.leaf x).flat++u)) (s.length+0)++[]=gZ x s.length;rw[append_nil,Nat.add_zero];unfold k8;rw[e,h0,if_neg (by omega),if_neg (by omega)]
 | un x a ih=>
  intro s u;have h1:aG x.k=1:=hw.1;have hl:(Rx.un x a).flat.length=a.flat.length+1:=by simp[Rx.flat]
  have hf:s++((Rx.un x a).flat++u)=s++(a.flat++(x :: u)):=by simp[Rx.flat]
  rw[hl,hf,Q3,ih hw.2.2 s (x :: u)];show gn a s.length++(k8 (s++(a.flat++x :: u)) (s.length+(a.flat.length+0))++[])=_;have e:(s++(a.flat++x :: u)).getD (s.length+a.flat.length) rV=x:=by
   have:=M7 (s++a.flat) u x;rwa [length_append,append_assoc] at this
  rw[append_nil,Nat.add_zero];show _=gn a s.length++fH x.k (s.length+a.flat.length-1) (s.length+a.flat.length);congr 1;unfold k8;rw[e,if_pos h1]
 | bin x a b ih jh=>
  intro s u;have h2:aG x.k=2:=hw.1;have hp:=a.aZ;have hq:=b.aZ;have hl:(Rx.bin x a b).flat.length=a.flat.length+(b.flat.length+1):=by simp[Rx.flat]
  have hf:s++((Rx.bin x a b).flat++u)=s++(a.flat++(b.flat++x :: u)):=by simp[Rx.flat]
  rw[hl,hf,Q3,ih hw.2.2.1 s (b.flat++x :: u),Q3];have hb:=jh hw.2.2.2 (s++a.flat) (x :: u);rw[append_assoc,length_append] at hb;have cH:(range b.flat.length).flatMap (fun j=>k8 (s++(a.flat++(b.flat++x :: u))) (s.length+(a.flat.length+j)))=gn b (s.length+a.flat.length):=by
   rw[<-hb];refine(zeE fun j _=>?_);rw[Nat.add_assoc]
  rw[cH];show gn a s.length++(gn b (s.length+a.flat.length)++(k8 (s++(a.flat++(b.flat++x :: u))) (s.length+(a.flat.length+(b.flat.length+0)))++[]))=gn a s.length++(gn b (s.length+a.flat.length)++dj x.k (s.length+a.flat.length-1) (s.length+a.flat.length+b.flat.length-1) (s.length+a.flat.length+b.flat.length));rw[append_nil,Nat.add_zero];congr 2;have e:(s++(a.flat++(b.flat++x :: u))).getD (s.length+(a.flat.length+b.flat.length)) rV=x:=by
   simp
  have Pk:dp (s++(a.flat++(b.flat++x :: u))) (s.length+(a.flat.length+b.flat.length)-1)=s.length+a.flat.length:=by
   unfold dp;have et:(s++(a.flat++(b.flat++x :: u))).take (s.length+(a.flat.length+b.flat.length)-1+1)=(s++a.flat)++b.flat:=by
    rw[show s.length+(a.flat.length+b.flat.length)-1+1=((s++a.flat)++b.flat).length by simp;omega,show s++(a.flat++(b.flat++x :: u))=((s++a.flat)++b.flat)++(x :: u) by simp,List.take_left'];rfl
   rw[et,List.reverse_append,Rn b hw.2.2.2 _ 1 (by omega),if_pos rfl,List.length_reverse,length_append]
  unfold k8;rw[e,if_neg (by omega),if_pos h2,Pk];congr 1 <;> omega
theorem UU(t:Rx)(hw:t.wf):(range t.flat.length).flatMap (k8 t.flat)=gn t 0:=by
 have:=zqB t hw [] [];simpa using this
def Fu(l:List Pc)(i:Nat):Prop:=(aG (l.getD i rV).k=1->1<=i)/\(aG (l.getD i rV).k=2->1<=i/\1<=dp l (i-1))
theorem zob(t:Rx)(hw:t.wf):∀(s u:List Pc) (j:Nat),j<t.flat.length->Fu (s++(t.flat++u)) (s.length+j):=by
 induction t with
 | leaf x=>
  intro s u j hj;have h0:aG x.k=0:=hw.1;have hj0:j=0:=by simpa [Rx.flat] using hj
  subst hj0;have e:(s++((Rx.leaf x).flat++u)).getD (s.length+0) rV=x:=M7 s u x;unfold Fu;rw[e,h0];exact⟨fun h=>absurd h (by omega),fun h=>absurd h (by omega)⟩
 | un x a ih=>
  intro s u j hj;have h1:aG x.k=1:=hw.1;have hp:=a.aZ;have hl:(Rx.un x a).flat.length=a.flat.length+1:=by simp[Rx.flat]
  have hf:s++((Rx.un x a).flat++u)=s++(a.flat++(x :: u)):=by simp[Rx.flat]
  rw[hf];by_cases TJ:j<a.flat.length
  ·exact ih hw.2.2 s (x :: u) j TJ
  have Sl:j=a.flat.length:=by omega
  subst Sl;have e:(s++(a.flat++x :: u)).getD (s.length+a.flat.length) rV=x:=by
   have:=M7 (s++a.flat) u x;rwa [length_append,append_assoc] at this
  unfold Fu;rw[e,h1];exact⟨fun _=>by omega,fun h=>absurd h (by omega)⟩
 | bin x a b ih jh=>
  intro s u j hj;have h2:aG x.k=2:=hw.1;have hp:=a.aZ;have hq:=b.aZ;have hl:(Rx.bin x a b).flat.length=a.flat.length+(b.flat.length+1):=by simp[Rx.flat]
  have hf:s++((Rx.bin x a b).flat++u)=s++(a.flat++(b.flat++x :: u)):=by simp[Rx.flat]
  rw[hf];by_cases TJ:j<a.flat.length
  ·exact ih hw.2.2.1 s (b.flat++x :: u) j TJ
  by_cases hjb:j<a.flat.length+b.flat.length
  ·have:=jh hw.2.2.2 (s++a.flat) (x :: u) (j-a.flat.length) (by omega);rw[append_assoc,length_append,show s.length+a.flat.length+(j-a.flat.length)=s.length+j by omega] at this;exact this
  have Sl:j=a.flat.length+b.flat.length:=by omega
  subst Sl;have e:(s++(a.flat++(b.flat++x :: u))).getD (s.length+(a.flat.length+b.flat.length)) rV=x:=by
   simp
  have Pk:dp (s++(a.flat++(b.flat++x :: u))) (s.length+(a.flat.length+b.flat.length)-1)=s.length+a.flat.length:=by
   unfold dp;have et:(s++(a.flat++(b.flat++x :: u))).take (s.length+(a.flat.length+b.flat.length)-1+1)=(s++a.flat)++b.flat:=by
    rw[show s.length+(a.flat.length+b.flat.length)-1+1=((s++a.flat)++b.flat).length by simp;omega,show s++(a.flat++(b.flat++x :: u))=((s++a.flat)++b.flat)++(x :: u) by simp,List.take_left'];rfl
   rw[et,List.reverse_append,Rn b hw.2.2.2 _ 1 (by omega),if_pos rfl,List.length_reverse,length_append]
  unfold Fu;rw[e,h2,Pk];exact⟨fun h=>absurd h (by omega),fun _=>by omega⟩
theorem zma(t:Rx)(hw:t.wf)(j:Nat)(hj:j<t.flat.length):Fu t.flat j:=by
 have:=zob t hw [] [] j hj;simpa using this
theorem zoc(x:Pc)(i:Nat)(hk:x.k=0\/x.k=1):gd ((gZ x i).map En.z)=[.int .i64 ((2*i:Nat):Int),.int .i64 ((2*i+1:Nat):Int),.int .u64 (wd x.p 0),.int .u64 (wd x.p 1),.int .u64 (wd x.p 2),.int .u64 (wd x.p 3),.bool (x.k == 0)]:=by
 have h:decide (x.k=0)=(x.k == 0):=by rcases hk with h|h <;> rw[h] <;> rfl
 simp[gd,dJ,En.z,gZ,h]
theorem zod:∀(l:List Pc) (m:Int),jb l m<=l.length:=by
 intro l
 induction l with
 | nil=>intro m;exact Nat.le_refl _
 | cons x r ih=>
  intro m;unfold jb;split
  ·simp
  have:=ih (m+(aG x.k-1));simp;omega
theorem zmb(l:List Pc)(j:Nat):dp l j<=j+1:=by
 unfold dp;have:=zod (l.take (j+1)).reverse 1;simp at this;omega
theorem zhV(l:List Pc)(a:Option Addr)(n cap:Nat)(w:World)(hL:iq w a l)(hn:l.length=n)(dZ:n<=100000)(i:Nat)(hi:i<n)(hv:0<=aG (l.getD i rV).k)(OX:Fu l i):
  Calls prog 115 #[.slice a n cap,.int .i64 (i:Int)] w (wK (k8 l i) w):=by
 obtain⟨g,off,rfl,hg,c0,c1,c2,c3,c4⟩:=hL.get i (by omega);have hx:l[i]'(by omega)=l.getD i rV:=by simp[List.getD_eq_getElem?_getD,show i<l.length by omega]
 rw[hx] at c0 c1 c2 c3 c4;obtain⟨x,JI⟩:=Ξ (l.getD i rV)
 have HE:Hid (k8 l i=if aG x.k=1 then fH x.k (i-1) i else if aG x.k=2 then dj x.k (dp l (i-1)-1) (i-1) i else gZ x i):=by
  show _=_;unfold k8;rw[JI]
 unfold Fu at OX;rw[JI] at c0 c1 c2 c3 c4 hv OX;have fC:Hid (1<=i->∀W,ϐ w W->Calls prog 145 #[.slice (some ⟨g,off,none⟩) n cap,.int .i64 ((i-1:Nat):Int)] W fun e w'=>e=.returned (.int .i64 ((dp l (i-1):Nat):Int))/\W=w'):=fun h W hW=>zkP l _ n cap W (hL.below hW) hn (by omega) (i-1) (by omega)
 have D5:=hid (fun (W:World)=>Fi i (by omega) W);have EL:=hid (fun (W:World)=>Ig i (by omega) W);have HX:=ζ hv OX;have qB:Hid (1<=i->∀W,Calls prog 143 #[.int .i64 x.k,.int .i64 ((i:Int)-1),.int .i64 ((2*i:Nat):Int),.int .i64 ((2*i+1:Nat):Int)] W (wK (fH x.k (i-1) i) W)):=fun h W=>by
  have:=zgP x.k (i-1) i (by omega) (by omega) W;rwa [show ((i-1:Nat):Int)=(i:Int)-1 by omega] at this
 have wU:Hid (1<=i->∀R:Nat,1<=R->R<=1000000->∀W,Calls prog 144 #[.int .i64 x.k,.int .i64 ((R:Int)-1),.int .i64 ((i:Int)-1),.int .i64 ((2*i:Nat):Int),.int .i64 ((2*i+1:Nat):Int)] W (wK (dj x.k (R-1) (i-1) i) W)):=fun h R hR AT W=>by
  have:=zke x.k (R-1) (i-1) i (by omega) (by omega) (by omega) W;rwa [show ((i-1:Nat):Int)=(i:Int)-1 by omega,show ((R-1:Nat):Int)=(R:Int)-1 by omega] at this
 have Gq:Hid (1<=i->dp l (i-1)<=1000000):=fun h=>by
  have:=zmb l (i-1);omega
 obtain⟨bi,B9⟩:∃b:Nat,2*i=b:=⟨_,rfl⟩
 obtain⟨ei,CT⟩:∃b:Nat,2*i+1=b:=⟨_,rfl⟩
 have Hbi:=ζ B9 CT;rw[B9] at D5;rw[CT] at EL;rw[CT,B9] at qB wU;have i1:(i:Int)<n:=by omega
 clear hL hn hx JI hv OX B9 CT;obtain⟨k,hk⟩:=Ξ x.k
 have Hk:=hid hk;rw[hk] at c0 qB wU HE HX;obtain⟨p0,DU⟩:∃p0:Nat,wd x.p 0=p0:=⟨_,rfl⟩
 obtain⟨p1,gG⟩:∃p1:Nat,wd x.p 1=p1:=⟨_,rfl⟩
 obtain⟨p2,fR⟩:∃p2:Nat,wd x.p 2=p2:=⟨_,rfl⟩
 obtain⟨p3,ik⟩:∃p3:Nat,wd x.p 3=p3:=⟨_,rfl⟩
 have Hp:=ψ DU gG fR ik;rw[DU] at c1;rw[gG] at c2;rw[fR] at c3;rw[ik] at c4;clear hk DU gG fR ik;go_in;go_wp2_with fail
 go_cut [5,6,7] from 9 to 17 (fun v5 v6 v7 wx=>v5=.pointer (some ⟨w.heap.size,0,none⟩)/\v6=.int .i64 (bi:Int)/\v7=.int .i64 (ei:Int)/\St wx 148 w.heap.size #[.int .i64 k,.int .u64 (p0:Int),.int .u64 (p1:Int),.int .u64 (p2:Int),.int .u64 (p3:Int)]/\ϐ w wx)
 case first=>
  go_region_with (first
   | (go_at_call 113;refine (D5.o _).mono ?_;rintro e w' ⟨rfl,rfl⟩)
   | (go_at_call 114;refine (EL.o _).mono ?_;rintro e w' ⟨rfl,rfl⟩))
  all_goals
   go_wp2_with fail
   go_meet
   exact⟨rfl,rfl,rfl,St.new _ _ _,((Below.refl _ _).alloc (Nat.le_refl _) _).drew⟩
 case rest=>
  obtain⟨rfl,rfl,rfl,hS,hB⟩:=hcut;have h0:=hS.at_ 0;have h1:=hS.at_ 1;have h2:=hS.at_ 2;have h3:=hS.at_ 3;have h4:=hS.at_ 4;simp only[List.getElem?_toArray,List.getElem?_cons_succ,List.getElem?_cons_zero] at h0 h1 h2 h3 h4;have HB:=hid hB;have HSc:=hid hS;clear hS hB c0 c1 c2 c3 c4 D5 EL;go_wp2_with fail;refine (UR k _).mono ?_;rintro e w2 ⟨rfl,rfl⟩;rcases tO k with ⟨e0,rB⟩|⟨e0,rB⟩|⟨e0,rB⟩|⟨e0,_⟩
  ·have mJ:Hid (k8 l i=gZ x i):=(by show _=_;rw[HE.o,e0,if_neg (by omega),if_neg (by omega)]);have Hlg:=hid (zoc x i (by rw[Hk.o];exact rB));rw[e0];clear qB wU Gq fC HE rB e0;go_wp2;go_ret;have ho:=zG wc w.heap.size 186 7 #[.int .i64 (bi:Int),.int .i64 (ei:Int),.int .u64 (p0:Int),.int .u64 (p1:Int),.int .u64 (p2:Int),.int .u64 (p3:Int),.bool (k == 0)] 1 rfl HB.o.size (by unfold maxLen;omega);rw[mJ.o];refine⟨some ⟨wc.heap.size,0,none⟩,1,rfl,?_,HB.o.trans ((al wc _).mono HB.o.size)⟩;rw[Hlg.o,Hbi.o.2,Hbi.o.1,Hp.o.1,Hp.o.2.1,Hp.o.2.2.1,Hp.o.2.2.2,Hk.o];exact ho
  ·have mJ:Hid (k8 l i=dj k (dp l (i-1)-1) (i-1) i):=(by show _=_;rw[HE.o,e0,if_neg (by omega),if_pos rfl]);obtain⟨GU,sr⟩:=HX.o.2.2 e0;have AT:=Gq.o GU;have kF:=hid (fC.o GU);have jA:=hid (wU.o GU _ sr AT);obtain⟨R,hR⟩:=Ξ (dp l (i-1));rw[hR] at kF jA mJ sr AT;rw[show ((i-1:Nat):Int)=(i:Int)-1 by omega] at kF;rw[<-show IntKind.i64.wrap ((R:Int)-1)=(R:Int)-1 from IntWalk.i64_in _ (by omega)] at jA;rw[e0];have i3:(1:Int)<=i:=(by omega);have i4:(1:Int)<=R:=(by omega);clear qB wU Gq fC HE rB e0 hR;go_upto_region 7 with fail;have yc:Hid (∀W,ϐ w W->∀{W'},ϐ W W'->W.cell? ⟨w.heap.size,0,none⟩=some (.int .i64 k)->W'.cell? ⟨w.heap.size,0,none⟩=some (.int .i64 k)):=fun W hW W' hb hc=>by
    by_cases hl:w.heap.size<W.heap.size
    ·exact (hb.cell (p:=⟨w.heap.size,0,none⟩) hl).trans hc
    simp[World.cell?,Array.getElem?_eq_none (by omega:W.heap.size<=w.heap.size)] at hc
   refine wp_region_held_drew (S:=fun W'=>ϐ w W'/\W'.cell? ⟨w.heap.size,0,none⟩=some (.int .i64 k)/\True) (by kernel_rfl) ⟨HB.o.drew,HSc.o.at_ 0,trivial⟩ (fun η=>?_)
   (refine ay 0 ?_;refine ay 1 ?_;refine ay 2 ?_;try simp only[put,sA];refine ay 3 ?_;refine ay 6 ?_;refine ay 7 ?_;try simp only[put,sA];refine ay 8 ?_;try simp only[put,sA])
   refine bH 4 (fun K hK=>?_);skip;go_simp;go_at_call 145;refine (kF.o _ (And.left η)).mono ?_;rintro e w2 ⟨rfl,rfl⟩
   try go_wp2_with fail
   refine hK.out _ _ (η) fun η=>?_;clear hK K
   try simp only[put,sA]
   (refine ay 5 ?_;try simp only[put,sA])
   refine bH 9 (fun K hK=>?_);skip;go_simp;go_at_call 144;have eC:=And.left η;refine (jA.o _).mono ?_;rintro e w3 ⟨a2,c2,rfl,ho2,cH⟩;have lz:Hid (w3.ownsRow w.heap.size 186 7 (.slice a2 (dj k (R-1) (i-1) i).length c2) (dj k (R-1) (i-1) i).length (gd ((dj k (R-1) (i-1) i).map En.z))/\ϐ w w3):=(⟨jH ho2 eC.size,eC.trans (cH.mono eC.size)⟩);have By:=yc.o _ eC cH;clear ho2 cH eC
   try go_wp2_with fail
   refine hK.out _ _ (⟨lz.o.2,By (And.left (And.right η)),trivial⟩) fun η=>?_;clear hK K
   try simp only[put,sA]
   (refine ay 10 ?_;try simp only[put,sA])
   refine wpAnyH_done (by kernel_rfl) ?_ _;clear η;go_wp2;go_ret;rw[mJ.o];exact⟨a2,c2,rfl,lz.o.1,lz.o.2⟩
  ·have mJ:Hid (k8 l i=fH k (i-1) i):=(by show _=_;rw[HE.o,if_pos e0]);have uE:=hid (qB.o (HX.o.2.1 e0));have i3:(1:Int)<=i:=(by have:=HX.o.2.1 e0;omega);rw[e0];clear qB wU Gq fC HE rB e0;go_wp2_with fail;refine (uE.o _).mono ?_;rintro e w2 ⟨a2,c2,rfl,ho2,cH⟩;have lz:Hid (w2.ownsRow w.heap.size 186 7 (.slice a2 (fH k (i-1) i).length c2) (fH k (i-1) i).length (gd ((fH k (i-1) i).map En.z))/\ϐ w w2):=(⟨jH ho2 HB.o.size,HB.o.trans (cH.mono HB.o.size)⟩);clear ho2 cH;go_wp2;go_ret;rw[mJ.o];exact⟨a2,c2,rfl,lz.o.1,lz.o.2⟩
  exact absurd HX.o.1 (by rw[e0];omega)
