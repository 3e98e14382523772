import Derived.Test.YtkkhakmdjinenaaGreatZChk
import Derived.Test.YtkkhakmdjinenaaGreatZQThom
import Derived.Test.YtkkhakmdjinenaaGreatZRefClass
import Derived.Deep.RegionLaw
set_option linter.all false
set_option maxHeartbeats 4000000
set_option maxRecDepth 100000
open Go.Lib (hid)
namespace Go.Proofs.YtkkhakmdjinenaaGreat
open Go.RowKit Go.Maps Go.Proofs.Tryz
open List (append_assoc append_nil length_append range)
open Act (put)
theorem Eu(k:Nat)(hk:k<=1000000)(w:World):Calls prog 85 #[.int .i64 (k:Int)] w fun e w'=>e=.returned (.int .i64 (((2*k:Nat)):Int))/\w=w':=by
 go_in;go_wp2;go_ret;exact⟨by show Ending.returned _=_;congr 2,rfl⟩
theorem Fl(k:Nat)(hk:k<=1000000)(w:World):Calls prog 86 #[.int .i64 (k:Int)] w fun e w'=>e=.returned (.int .i64 (((2*k+1:Nat)):Int))/\w=w':=by
 go_in;go_wp2;go_ret;exact⟨by show Ending.returned _=_;congr 2,rfl⟩
def uG(L:List En)(w:World)(e:Ending)(w':World):Prop:=
 ∃a c,e=.returned (.slice a L.length c)/\w'.ownsRow w.heap.size 117 7 (.slice a L.length c) L.length (dj (L.map En.z))/\Below w.heap.size w w'
def dR(f t:Nat):List Value:=[.int .i64 ((f:Nat):Int),.int .i64 ((t:Nat):Int),.int .u64 0,.int .u64 0,.int .u64 0,.int .u64 0,.bool true]
theorem As(f t:Nat)(l:List En):dj ((bG f t :: l).map En.z)=dR f t++dj (l.map En.z):=by
 show cQ (bG f t).z++_=_;rw[Vv];rfl
theorem zkd(k:Int)(i j r:Nat)(hi:i<=1000000)(hj:j<=1000000)(hr:r<=1000000)(w:World):
  Calls prog 126 #[.int .i64 k,.int .i64 (i:Int),.int .i64 (j:Int),.int .i64 ((2*r:Nat):Int),.int .i64 ((2*r+1:Nat):Int)] w (uG (di k i j r) w):=by
 have Hb:=hid (fun (x:Nat) (hx:x<=1000000) (W:World)=>Eu x hx W);have He:=hid (fun (x:Nat) (hx:x<=1000000) (W:World)=>Fl x hx W);obtain⟨F,hF⟩:∃F:Nat,2*r=F:=⟨_,rfl⟩
 obtain⟨T,hT⟩:∃T:Nat,2*r+1=T:=⟨_,rfl⟩
 obtain⟨bi,AV⟩:∃x:Nat,2*i=x:=⟨_,rfl⟩
 obtain⟨ei,BH⟩:∃x:Nat,2*i+1=x:=⟨_,rfl⟩
 obtain⟨bj,BS⟩:∃x:Nat,2*j=x:=⟨_,rfl⟩
 obtain⟨ej,CD⟩:∃x:Nat,2*j+1=x:=⟨_,rfl⟩
 have D8:=hid (fun (W:World)=>Eu i hi W);have D4:=hid (fun (W:World)=>Fl i hi W);have DD:=hid (fun (W:World)=>Eu j hj W);have Ax:=hid (fun (W:World)=>Fl j hj W);have HL:Hid (di k i j r=if k=2 then [bG F bi,bG ei bj,bG ej T] else [bG F bi,bG ei T,bG F bj,bG ej T]):=by
  show _=_;unfold di;rw[hT,BH,CD,hF,AV,BS]
 rw[AV] at D8;rw[BH] at D4;rw[BS] at DD;rw[CD] at Ax;rw[hT,hF];clear hF hT AV BH BS CD Hb He;by_cases h2:k=2
 ·have pL:Hid (di k i j r=[bG F bi,bG ei bj,bG ej T]):=by show _=_;rw[HL.out,if_pos h2]
  have h1:((k:Int) == 2)=true:=by rw[h2];rfl
  clear h2 HL;go_in;go_wp2_with fail;refine (D8.out w).mono ?_;rintro e w1 ⟨rfl,rfl⟩;go_wp2_with fail;refine (uh F bi w).mono ?_;rintro e w1 ⟨rfl,k1⟩;have H1:=hid k1;clear k1;go_wp2_with fail;refine (D4.out w1).mono ?_;rintro e w1 ⟨rfl,rfl⟩;go_wp2_with fail;refine (DD.out _).mono ?_;rintro e w2 ⟨rfl,rfl⟩;go_wp2_with fail;refine (uh ei bj _).mono ?_;rintro e w3 ⟨rfl,k3⟩;have H3:=hid (H1.out.trans (k3.mono H1.out.size));clear k3;go_wp2_with fail;refine (Ax.out w3).mono ?_;rintro e w4 ⟨rfl,rfl⟩;go_wp2_with fail;refine (uh ej T _).mono ?_;rintro e w5 ⟨rfl,k5⟩;have H5:=hid (H3.out.trans (k5.mono H3.out.size));clear k5;go_wp2;go_ret;have ho:=vJ w5 w.heap.size 117 7 ((dR F bi++(dR ei bj++dR ej T)).toArray) 3 rfl H5.out.size (by unfold maxLen;omega);rw[pL.out];refine⟨some ⟨w5.heap.size,0,none⟩,3,rfl,?_,H5.out.trans ((al w5 _).mono H5.out.size)⟩;rw[As,As,As];simpa [dR,dj] using ho
 have pL:Hid (di k i j r=[bG F bi,bG ei T,bG F bj,bG ej T]):=by show _=_;rw[HL.out,if_neg h2]
 have h1:((k:Int) == 2)=false:=by rw[beq_eq_false_iff_ne];exact h2
 clear h2 HL;go_in;go_wp2_with fail;refine (D8.out w).mono ?_;rintro e w1 ⟨rfl,rfl⟩;go_wp2_with fail;refine (uh F bi w).mono ?_;rintro e w1 ⟨rfl,k1⟩;have H1:=hid k1;clear k1;go_wp2_with fail;refine (D4.out w1).mono ?_;rintro e w1 ⟨rfl,rfl⟩;go_wp2_with fail;refine (uh ei T _).mono ?_;rintro e w3 ⟨rfl,k3⟩;have H3:=hid (H1.out.trans (k3.mono H1.out.size));clear k3;go_wp2_with fail;refine (DD.out w3).mono ?_;rintro e w4 ⟨rfl,rfl⟩;go_wp2_with fail;refine (uh F bj _).mono ?_;rintro e w5 ⟨rfl,k5⟩;have H5:=hid (H3.out.trans (k5.mono H3.out.size));clear k5;go_wp2_with fail;refine (Ax.out w5).mono ?_;rintro e w6 ⟨rfl,rfl⟩;go_wp2_with fail;refine (uh ej T _).mono ?_;rintro e w7 ⟨rfl,k7⟩;have H7:=hid (H5.out.trans (k7.mono H5.out.size));clear k7;go_wp2;go_ret;have ho:=vJ w7 w.heap.size 117 7 ((dR F bi++(dR ei T++(dR F bj++dR ej T))).toArray) 4 rfl H7.out.size (by unfold maxLen;omega);rw[pL.out];refine⟨some ⟨w7.heap.size,0,none⟩,4,rfl,?_,H7.out.trans ((al w7 _).mono H7.out.size)⟩;rw[As,As,As,As];simpa [dR,dj] using ho
theorem St.tM{w:World}{t g:Nat}{cs:Array Value}(h:St w t g cs):∀j v,cs.toList[j]?=some v->w.cell? ((⟨g,0,none⟩:Addr).add j)=some v:=fun j v hj=>by
 have e:(⟨g,0,none⟩:Addr).add j=⟨g,j,none⟩:=by unfold Addr.add;split <;> simp_all
 rw[e,h.at_,<-Array.getElem?_toList,hj]
theorem zgW(k:Int)(j r:Nat)(hj:j<=1000000)(hr:r<=1000000)(w:World):
  Calls prog 125 #[.int .i64 k,.int .i64 (j:Int),.int .i64 ((2*r:Nat):Int),.int .i64 ((2*r+1:Nat):Int)] w (uG (fw k j r) w):=by
 obtain⟨F,hF⟩:∃F:Nat,2*r=F:=⟨_,rfl⟩
 obtain⟨T,hT⟩:∃T:Nat,2*r+1=T:=⟨_,rfl⟩
 obtain⟨bj,BS⟩:∃x:Nat,2*j=x:=⟨_,rfl⟩
 obtain⟨ej,CD⟩:∃x:Nat,2*j+1=x:=⟨_,rfl⟩
 have DD:=hid (fun (W:World)=>Eu j hj W);have Ax:=hid (fun (W:World)=>Fl j hj W);have Ek:=hid (fun (W:World)=>Eu j hj W);have HL:Hid (fw k j r=[bG F bj,bG ej T]++((if k=5 then [] else [bG F T])++(if k=6 then [] else [bG ej bj]))):=by
  show _=_;unfold fw;rw[hT,CD,hF,BS]
 rw[BS] at DD;rw[BS] at Ek;rw[CD] at Ax;rw[hT,hF];clear hF hT BS CD;obtain⟨i0,hi,dv,cP,cG⟩:=info_parts kc;go_in;go_wp2_with fail;refine (DD.out w).mono ?_;rintro e w1 ⟨rfl,rfl⟩;go_wp2_with fail;refine (uh F bj w).mono ?_;rintro e w1 ⟨rfl,k1⟩;have H1:=hid k1;clear k1;go_wp2_with fail;refine (Ax.out w1).mono ?_;rintro e w2 ⟨rfl,rfl⟩;go_wp2_with fail;refine (uh ej T _).mono ?_;rintro e w2 ⟨rfl,k2⟩;have HO:Hid (Below w.heap.size w (w2.alloc (.cells #[.int .i64 (F:Int),.int .i64 (bj:Int),.int .u64 0,.int .u64 0,.int .u64 0,.int .u64 0,.bool true,.int .i64 (ej:Int),.int .i64 (T:Int),.int .u64 0,.int .u64 0,.int .u64 0,.int .u64 0,.bool true] 117))/\(w2.alloc (.cells #[.int .i64 (F:Int),.int .i64 (bj:Int),.int .u64 0,.int .u64 0,.int .u64 0,.int .u64 0,.bool true,.int .i64 (ej:Int),.int .i64 (T:Int),.int .u64 0,.int .u64 0,.int .u64 0,.int .u64 0,.bool true] 117)).ownsRow w.heap.size 117 7 (.slice (some ⟨w2.heap.size,0,none⟩) 2 2) 2 (dj (([bG F bj,bG ej T]:List En).map En.z))):=by
  have h1:=H1.out.trans (k2.mono H1.out.size);refine⟨h1.trans ((al w2 _).mono h1.size),?_⟩;have ho:=vJ w2 w.heap.size 117 7 ((dR F bj++dR ej T).toArray) 2 rfl h1.size (by unfold maxLen;omega);rw[As,As];simpa [dR,dj] using ho
 clear k2 H1;go_upto_region 2 with fail;generalize w2.alloc (.cells #[.int .i64 (F:Int),.int .i64 (bj:Int),.int .u64 0,.int .u64 0,.int .u64 0,.int .u64 0,.bool true,.int .i64 (ej:Int),.int .i64 (T:Int),.int .u64 0,.int .u64 0,.int .u64 0,.int .u64 0,.bool true] 117)=W3 at HO⊢;obtain⟨g,hg⟩:∃g,w2.heap.size=g:=⟨_,rfl⟩
 rw[hg] at HO;rw[hg];clear hg DD;by_cases h5:k=5
 ·have pL:Hid (fw k j r=[bG F bj,bG ej T,bG ej bj]):=by show _=_;rw[HL.out,if_pos h5,if_neg (by omega)];rfl
  have q5:((k:Int) != 5)=false:=by rw[h5];rfl
  have q6:((k:Int) != 6)=true:=by rw[h5];rfl
  clear h5 HL;go_wp2_with fail;refine (Ax.out W3).mono ?_;rintro e w5 ⟨rfl,rfl⟩;go_wp2_with fail;refine (Ek.out W3).mono ?_;rintro e w5 ⟨rfl,rfl⟩;go_wp2_with fail;refine (uh ej bj W3).mono ?_;rintro e x3 ⟨rfl,kx⟩;have mz:Hid (Below w.heap.size w x3/\x3.ownsRow w.heap.size 117 7 (.slice (some ⟨g,0,none⟩) 2 2) 2 (dj (([bG F bj,bG ej T]:List En).map En.z))):=⟨HO.out.1.trans (kx.mono HO.out.1.size),db HO.out.2 kx⟩
  clear kx;have hO:=mz.out.2;go_wp2_with (at_builtin;refine wpList_append_own_at _ rfl _ _ 53 rfl w.heap.size 117 i0 (.agg #[.int .i64 0,.int .i64 0,.int .u64 0,.int .u64 0,.int .u64 0,.int .u64 0,.bool false]) 7 56 underlying53 hi dv cP cG rfl (by decide) _ _ _ rfl (hO.alloc _) ⟨x3.heap.size,0,none⟩ 1 1 (dR ej bj) rfl rfl (fun j u hj=>(St.new x3 117 (dR ej bj).toArray).tM j u (by simpa using hj)) ?d2 ?d3 ?d4 ?d5 ?_)
  case d2=>intro u hu;simp[dR] at hu;rcases hu with rfl|rfl|rfl|rfl <;> rfl
  case d3=>unfold maxLen;omega
  case d4=>omega
  case d5=>have:=mz.out.1.size;simp at this⊢;omega
  intro v3 y3 az dy _ _;obtain⟨a3,c3,rfl⟩:=bP az;have H3:Hid (Below w.heap.size w y3/\y3.ownsRow w.heap.size 117 7 (.slice a3 3 c3) 3 (dj (([bG F bj,bG ej T,bG ej bj]:List En).map En.z))):=by
   have h1:=mz.out.1.trans ((al x3 (.cells (dR ej bj).toArray 117)).mono mz.out.1.size);refine⟨fL h1 (hO.alloc _) h1.size dy,?_⟩;have h2:dj (([bG F bj,bG ej T,bG ej bj]:List En).map En.z)=dj (([bG F bj,bG ej T]:List En).map En.z)++dR ej bj:=(by simp[dj,cQ,En.z,bG,wQ,dR]);rw[h2];exact az
  clear az dy hO;go_wp2;go_ret;rw[pL.out];exact⟨a3,c3,rfl,H3.out.2,H3.out.1⟩
 by_cases h6:k=6
 ·have pL:Hid (fw k j r=[bG F bj,bG ej T,bG F T]):=by show _=_;rw[HL.out,if_neg h5,if_pos h6];rfl
  have q5:((k:Int) != 5)=true:=by rw[h6];rfl
  have q6:((k:Int) != 6)=false:=by rw[h6];rfl
  clear h5 h6 HL Ax;go_wp2_with fail;refine (uh F T W3).mono ?_;rintro e x3 ⟨rfl,kx⟩;have mz:Hid (Below w.heap.size w x3/\x3.ownsRow w.heap.size 117 7 (.slice (some ⟨g,0,none⟩) 2 2) 2 (dj (([bG F bj,bG ej T]:List En).map En.z))):=⟨HO.out.1.trans (kx.mono HO.out.1.size),db HO.out.2 kx⟩
  clear kx;have hO:=mz.out.2;go_wp2_with (at_builtin;refine wpList_append_own_at _ rfl _ _ 53 rfl w.heap.size 117 i0 (.agg #[.int .i64 0,.int .i64 0,.int .u64 0,.int .u64 0,.int .u64 0,.int .u64 0,.bool false]) 7 56 underlying53 hi dv cP cG rfl (by decide) _ _ _ rfl (hO.alloc _) ⟨x3.heap.size,0,none⟩ 1 1 (dR F T) rfl rfl (fun j u hj=>(St.new x3 117 (dR F T).toArray).tM j u (by simpa using hj)) ?d2 ?d3 ?d4 ?d5 ?_)
  case d2=>intro u hu;simp[dR] at hu;rcases hu with rfl|rfl|rfl|rfl <;> rfl
  case d3=>unfold maxLen;omega
  case d4=>omega
  case d5=>have:=mz.out.1.size;simp at this⊢;omega
  intro v3 y3 az dy _ _;obtain⟨a3,c3,rfl⟩:=bP az;have H3:Hid (Below w.heap.size w y3/\y3.ownsRow w.heap.size 117 7 (.slice a3 3 c3) 3 (dj (([bG F bj,bG ej T,bG F T]:List En).map En.z))):=by
   have h1:=mz.out.1.trans ((al x3 (.cells (dR F T).toArray 117)).mono mz.out.1.size);refine⟨fL h1 (hO.alloc _) h1.size dy,?_⟩;have h2:dj (([bG F bj,bG ej T,bG F T]:List En).map En.z)=dj (([bG F bj,bG ej T]:List En).map En.z)++dR F T:=(by simp[dj,cQ,En.z,bG,wQ,dR]);rw[h2];exact az
  clear az dy hO;go_wp2;go_ret;rw[pL.out];exact⟨a3,c3,rfl,H3.out.2,H3.out.1⟩
 have pL:Hid (fw k j r=[bG F bj,bG ej T,bG F T,bG ej bj]):=by show _=_;rw[HL.out,if_neg h5,if_neg h6];rfl
 have q5:((k:Int) != 5)=true:=by rw[bne_iff_ne];exact h5
 have q6:((k:Int) != 6)=true:=by rw[bne_iff_ne];exact h6
 clear h5 h6 HL;go_wp2_with fail;refine (uh F T W3).mono ?_;rintro e x3 ⟨rfl,kx⟩;have mz:Hid (Below w.heap.size w x3/\x3.ownsRow w.heap.size 117 7 (.slice (some ⟨g,0,none⟩) 2 2) 2 (dj (([bG F bj,bG ej T]:List En).map En.z))):=⟨HO.out.1.trans (kx.mono HO.out.1.size),db HO.out.2 kx⟩
 clear kx;have hO:=mz.out.2;go_wp2_with (at_builtin;refine wpList_append_own_at _ rfl _ _ 53 rfl w.heap.size 117 i0 (.agg #[.int .i64 0,.int .i64 0,.int .u64 0,.int .u64 0,.int .u64 0,.int .u64 0,.bool false]) 7 56 underlying53 hi dv cP cG rfl (by decide) _ _ _ rfl (hO.alloc _) ⟨x3.heap.size,0,none⟩ 1 1 (dR F T) rfl rfl (fun j u hj=>(St.new x3 117 (dR F T).toArray).tM j u (by simpa using hj)) ?d2 ?d3 ?d4 ?d5 ?_)
 case d2=>intro u hu;simp[dR] at hu;rcases hu with rfl|rfl|rfl|rfl <;> rfl
 case d3=>unfold maxLen;omega
 case d4=>omega
 case d5=>have:=mz.out.1.size;simp at this⊢;omega
 intro v3 y3 az dy _ _;obtain⟨a3,c3,rfl⟩:=bP az;have H3:Hid (Below w.heap.size w y3/\y3.ownsRow w.heap.size 117 7 (.slice a3 3 c3) 3 (dj (([bG F bj,bG ej T,bG F T]:List En).map En.z))):=by
  have h1:=mz.out.1.trans ((al x3 (.cells (dR F T).toArray 117)).mono mz.out.1.size);refine⟨fL h1 (hO.alloc _) h1.size dy,?_⟩;have h2:dj (([bG F bj,bG ej T,bG F T]:List En).map En.z)=dj (([bG F bj,bG ej T]:List En).map En.z)++dR F T:=by simp[dj,cQ,En.z,bG,wQ,dR]
  rw[h2];exact az
 clear az dy hO;go_wp2_with fail;refine (Ax.out y3).mono ?_;rintro e w5 ⟨rfl,rfl⟩;go_wp2_with fail;refine (Ek.out y3).mono ?_;rintro e w5 ⟨rfl,rfl⟩;go_wp2_with fail;refine (uh ej bj y3).mono ?_;rintro e x4 ⟨rfl,kx⟩;have ML:Hid (Below w.heap.size w x4/\x4.ownsRow w.heap.size 117 7 (.slice a3 3 c3) 3 (dj (([bG F bj,bG ej T,bG F T]:List En).map En.z))):=⟨H3.out.1.trans (kx.mono H3.out.1.size),db H3.out.2 kx⟩
 clear kx;have hO:=ML.out.2;go_wp2_with (at_builtin;refine wpList_append_own_at _ rfl _ _ 53 rfl w.heap.size 117 i0 (.agg #[.int .i64 0,.int .i64 0,.int .u64 0,.int .u64 0,.int .u64 0,.int .u64 0,.bool false]) 7 56 underlying53 hi dv cP cG rfl (by decide) _ _ _ rfl (hO.alloc _) ⟨x4.heap.size,0,none⟩ 1 1 (dR ej bj) rfl rfl (fun j u hj=>(St.new x4 117 (dR ej bj).toArray).tM j u (by simpa using hj)) ?d2 ?d3 ?d4 ?d5 ?_)
 case d2=>intro u hu;simp[dR] at hu;rcases hu with rfl|rfl|rfl|rfl <;> rfl
 case d3=>unfold maxLen;omega
 case d4=>omega
 case d5=>have:=ML.out.1.size;simp at this⊢;omega
 intro v4 y4 az dy _ _;obtain⟨a4,c4,rfl⟩:=bP az;have H4:Hid (Below w.heap.size w y4/\y4.ownsRow w.heap.size 117 7 (.slice a4 4 c4) 4 (dj (([bG F bj,bG ej T,bG F T,bG ej bj]:List En).map En.z))):=by
  have h1:=ML.out.1.trans ((al x4 (.cells (dR ej bj).toArray 117)).mono ML.out.1.size);refine⟨fL h1 (hO.alloc _) h1.size dy,?_⟩;have h2:dj (([bG F bj,bG ej T,bG F T,bG ej bj]:List En).map En.z)=dj (([bG F bj,bG ej T,bG F T]:List En).map En.z)++dR ej bj:=by simp[dj,cQ,En.z,bG,wQ,dR]
  rw[h2];exact az
 clear az dy hO;go_wp2;go_ret;rw[pL.out];exact⟨a4,c4,rfl,H4.out.2,H4.out.1⟩
def rH:Pc:=⟨0,fun _=>false⟩
def kU(l:List Pc)(i:Nat):List En:=
 if aH (l.getD i rH).k=1 then fw (l.getD i rH).k (i-1) i else if aH (l.getD i rH).k=2 then di (l.getD i rH).k (dp l (i-1)-1) (i-1) i else gv (l.getD i rH) i
theorem NT(s v:List Pc)(x:Pc):(s++x :: v).getD s.length rH=x:=by simp[List.getD_eq_getElem?_getD]
theorem zeK{α β:Type}{l:List α}{f g:α->List β}(h:∀x∈l,f x=g x):l.flatMap f=l.flatMap g:=by
 induction l with
 | nil=>rfl
 | cons a l ih=>simp only[List.flatMap_cons];rw[h a List.mem_cons_self,ih (fun x hx=>h x (List.mem_cons_of_mem _ hx))]
theorem Po{β:Type}(n m:Nat)(f:Nat->List β):(range (n+m)).flatMap f=(range n).flatMap f++(range m).flatMap (fun j=>f (n+j)):=by
 rw[List.range_add,List.flatMap_append];congr 1
 induction m with
 | zero=>rfl
 | succ m ih=>rw[List.range_succ,List.map_append,List.flatMap_append,List.flatMap_append,ih];rfl
theorem zpW(t:Rx)(hw:t.wf):∀(s u:List Pc),(range t.flat.length).flatMap (fun j=>kU (s++(t.flat++u)) (s.length+j))=eY t s.length:=by
 induction t with
 | leaf x=>
  intro s u;have h0:aH x.k=0:=hw.1;show (range 1).flatMap _=_;have e:(s++((Rx.leaf x).flat++u)).getD s.length rH=x:=NT s u x;show kU (s++((Rx.leaf x).flat++u)) (s.length+0)++[]=gv x s.length;rw[append_nil,Nat.add_zero];unfold kU;rw[e,h0,if_neg (by omega),if_neg (by omega)]
 | un x a ih=>
  intro s u;have h1:aH x.k=1:=hw.1;have hl:(Rx.un x a).flat.length=a.flat.length+1:=by simp[Rx.flat]
  have hf:s++((Rx.un x a).flat++u)=s++(a.flat++(x :: u)):=by simp[Rx.flat]
  rw[hl,hf,Po,ih hw.2.2 s (x :: u)];show eY a s.length++(kU (s++(a.flat++x :: u)) (s.length+(a.flat.length+0))++[])=_;have e:(s++(a.flat++x :: u)).getD (s.length+a.flat.length) rH=x:=by
   have:=NT (s++a.flat) u x;rwa [length_append,append_assoc] at this
  rw[append_nil,Nat.add_zero];show _=eY a s.length++fw x.k (s.length+a.flat.length-1) (s.length+a.flat.length);congr 1;unfold kU;rw[e,if_pos h1]
 | bin x a b ih jh=>
  intro s u;have h2:aH x.k=2:=hw.1;have hp:=a.aZ;have hq:=b.aZ;have hl:(Rx.bin x a b).flat.length=a.flat.length+(b.flat.length+1):=by simp[Rx.flat]
  have hf:s++((Rx.bin x a b).flat++u)=s++(a.flat++(b.flat++x :: u)):=by simp[Rx.flat]
  rw[hl,hf,Po,ih hw.2.2.1 s (b.flat++x :: u),Po];have hb:=jh hw.2.2.2 (s++a.flat) (x :: u);rw[append_assoc,length_append] at hb;have cv:(range b.flat.length).flatMap (fun j=>kU (s++(a.flat++(b.flat++x :: u))) (s.length+(a.flat.length+j)))=eY b (s.length+a.flat.length):=by
   rw[<-hb];refine(zeK fun j _=>?_);rw[Nat.add_assoc]
  rw[cv];show eY a s.length++(eY b (s.length+a.flat.length)++(kU (s++(a.flat++(b.flat++x :: u))) (s.length+(a.flat.length+(b.flat.length+0)))++[]))=eY a s.length++(eY b (s.length+a.flat.length)++di x.k (s.length+a.flat.length-1) (s.length+a.flat.length+b.flat.length-1) (s.length+a.flat.length+b.flat.length));rw[append_nil,Nat.add_zero];congr 2;have e:(s++(a.flat++(b.flat++x :: u))).getD (s.length+(a.flat.length+b.flat.length)) rH=x:=by
   simp
  have Uo:dp (s++(a.flat++(b.flat++x :: u))) (s.length+(a.flat.length+b.flat.length)-1)=s.length+a.flat.length:=by
   unfold dp;have et:(s++(a.flat++(b.flat++x :: u))).take (s.length+(a.flat.length+b.flat.length)-1+1)=(s++a.flat)++b.flat:=by
    rw[show s.length+(a.flat.length+b.flat.length)-1+1=((s++a.flat)++b.flat).length by simp;omega,show s++(a.flat++(b.flat++x :: u))=((s++a.flat)++b.flat)++(x :: u) by simp,List.take_left'];rfl
   rw[et,List.reverse_append,Qs b hw.2.2.2 _ 1 (by omega),if_pos rfl,List.length_reverse,length_append]
  unfold kU;rw[e,if_neg (by omega),if_pos h2,Uo];congr 1 <;> omega
theorem QZ(t:Rx)(hw:t.wf):(range t.flat.length).flatMap (kU t.flat)=eY t 0:=by
 have:=zpW t hw [] [];simpa using this
def Cb(l:List Pc)(i:Nat):Prop:=(aH (l.getD i rH).k=1->1<=i)/\(aH (l.getD i rH).k=2->1<=i/\1<=dp l (i-1))
theorem znD(t:Rx)(hw:t.wf):∀(s u:List Pc) (j:Nat),j<t.flat.length->Cb (s++(t.flat++u)) (s.length+j):=by
 induction t with
 | leaf x=>
  intro s u j hj;have h0:aH x.k=0:=hw.1;have hj0:j=0:=by simpa [Rx.flat] using hj
  subst hj0;have e:(s++((Rx.leaf x).flat++u)).getD (s.length+0) rH=x:=NT s u x;unfold Cb;rw[e,h0];exact⟨fun h=>absurd h (by omega),fun h=>absurd h (by omega)⟩
 | un x a ih=>
  intro s u j hj;have h1:aH x.k=1:=hw.1;have hp:=a.aZ;have hl:(Rx.un x a).flat.length=a.flat.length+1:=by simp[Rx.flat]
  have hf:s++((Rx.un x a).flat++u)=s++(a.flat++(x :: u)):=by simp[Rx.flat]
  rw[hf];by_cases PA:j<a.flat.length
  ·exact ih hw.2.2 s (x :: u) j PA
  have RC:j=a.flat.length:=by omega
  subst RC;have e:(s++(a.flat++x :: u)).getD (s.length+a.flat.length) rH=x:=by
   have:=NT (s++a.flat) u x;rwa [length_append,append_assoc] at this
  unfold Cb;rw[e,h1];exact⟨fun _=>by omega,fun h=>absurd h (by omega)⟩
 | bin x a b ih jh=>
  intro s u j hj;have h2:aH x.k=2:=hw.1;have hp:=a.aZ;have hq:=b.aZ;have hl:(Rx.bin x a b).flat.length=a.flat.length+(b.flat.length+1):=by simp[Rx.flat]
  have hf:s++((Rx.bin x a b).flat++u)=s++(a.flat++(b.flat++x :: u)):=by simp[Rx.flat]
  rw[hf];by_cases PA:j<a.flat.length
  ·exact ih hw.2.2.1 s (b.flat++x :: u) j PA
  by_cases hjb:j<a.flat.length+b.flat.length
  ·have:=jh hw.2.2.2 (s++a.flat) (x :: u) (j-a.flat.length) (by omega);rw[append_assoc,length_append,show s.length+a.flat.length+(j-a.flat.length)=s.length+j by omega] at this;exact this
  have RC:j=a.flat.length+b.flat.length:=by omega
  subst RC;have e:(s++(a.flat++(b.flat++x :: u))).getD (s.length+(a.flat.length+b.flat.length)) rH=x:=by
   simp
  have Uo:dp (s++(a.flat++(b.flat++x :: u))) (s.length+(a.flat.length+b.flat.length)-1)=s.length+a.flat.length:=by
   unfold dp;have et:(s++(a.flat++(b.flat++x :: u))).take (s.length+(a.flat.length+b.flat.length)-1+1)=(s++a.flat)++b.flat:=by
    rw[show s.length+(a.flat.length+b.flat.length)-1+1=((s++a.flat)++b.flat).length by simp;omega,show s++(a.flat++(b.flat++x :: u))=((s++a.flat)++b.flat)++(x :: u) by simp,List.take_left'];rfl
   rw[et,List.reverse_append,Qs b hw.2.2.2 _ 1 (by omega),if_pos rfl,List.length_reverse,length_append]
  unfold Cb;rw[e,h2,Uo];exact⟨fun h=>absurd h (by omega),fun _=>by omega⟩
theorem zlR(t:Rx)(hw:t.wf)(j:Nat)(hj:j<t.flat.length):Cb t.flat j:=by
 have:=znD t hw [] [] j hj;simpa using this
theorem znE(x:Pc)(i:Nat)(hk:x.k=0\/x.k=1):dj ((gv x i).map En.z)=[.int .i64 ((2*i:Nat):Int),.int .i64 ((2*i+1:Nat):Int),.int .u64 (wd x.p 0),.int .u64 (wd x.p 1),.int .u64 (wd x.p 2),.int .u64 (wd x.p 3),.bool (x.k == 0)]:=by
 have h:decide (x.k=0)=(x.k == 0):=by rcases hk with h|h <;> rw[h] <;> rfl
 simp[dj,cQ,En.z,gv,h]
theorem znF:∀(l:List Pc) (m:Int),iQ l m<=l.length:=by
 intro l
 induction l with
 | nil=>intro m;exact Nat.le_refl _
 | cons x r ih=>
  intro m;unfold iQ;split
  ·simp
  have:=ih (m+(aH x.k-1));simp;omega
theorem zlS(l:List Pc)(j:Nat):dp l j<=j+1:=by
 unfold dp;have:=znF (l.take (j+1)).reverse 1;simp at this;omega
theorem zh4(l:List Pc)(a:Option Addr)(n cap:Nat)(w:World)(hL:ik w a l)(hn:l.length=n)(dG:n<=100000)(i:Nat)(hi:i<n)(hv:0<=aH (l.getD i rH).k)(zk:Cb l i):
  Calls prog 87 #[.slice a n cap,.int .i64 (i:Int)] w (uG (kU l i) w):=by
 obtain⟨g,off,rfl,hg,c0,c1,c2,c3,c4⟩:=hL.get i (by omega);have hx:l[i]'(by omega)=l.getD i rH:=by simp[List.getD_eq_getElem?_getD,show i<l.length by omega]
 rw[hx] at c0 c1 c2 c3 c4;obtain⟨x,Gz⟩:∃x,l.getD i rH=x:=⟨_,rfl⟩
 have HE:Hid (kU l i=if aH x.k=1 then fw x.k (i-1) i else if aH x.k=2 then di x.k (dp l (i-1)-1) (i-1) i else gv x i):=by
  show _=_;unfold kU;rw[Gz]
 unfold Cb at zk;rw[Gz] at c0 c1 c2 c3 c4 hv zk;have ep:Hid (1<=i->∀W,Below w.heap.size w W->Calls prog 127 #[.slice (some ⟨g,off,none⟩) n cap,.int .i64 ((i-1:Nat):Int)] W fun e w'=>e=.returned (.int .i64 ((dp l (i-1):Nat):Int))/\W=w'):=fun h W hW=>zkN l _ n cap W (hL.below hW) hn (by omega) (i-1) (by omega)
 have D8:=hid (fun (W:World)=>Eu i (by omega) W);have D4:=hid (fun (W:World)=>Fl i (by omega) W);have HX:=ζ hv zk;have my:Hid (1<=i->∀W,Calls prog 125 #[.int .i64 x.k,.int .i64 ((i:Int)-1),.int .i64 ((2*i:Nat):Int),.int .i64 ((2*i+1:Nat):Int)] W (uG (fw x.k (i-1) i) W)):=fun h W=>by
  have:=zgW x.k (i-1) i (by omega) (by omega) W;rwa [show ((i-1:Nat):Int)=(i:Int)-1 by omega] at this
 have uF:Hid (1<=i->∀R:Nat,1<=R->R<=1000000->∀W,Calls prog 126 #[.int .i64 x.k,.int .i64 ((R:Int)-1),.int .i64 ((i:Int)-1),.int .i64 ((2*i:Nat):Int),.int .i64 ((2*i+1:Nat):Int)] W (uG (di x.k (R-1) (i-1) i) W)):=fun h R hR AL W=>by
  have:=zkd x.k (R-1) (i-1) i (by omega) (by omega) (by omega) W;rwa [show ((i-1:Nat):Int)=(i:Int)-1 by omega,show ((R-1:Nat):Int)=(R:Int)-1 by omega] at this
 have AT:Hid (1<=i->dp l (i-1)<=1000000):=fun h=>by
  have:=zlS l (i-1);omega
 obtain⟨bi,AV⟩:∃b:Nat,2*i=b:=⟨_,rfl⟩
 obtain⟨ei,BH⟩:∃b:Nat,2*i+1=b:=⟨_,rfl⟩
 have UZ:=ζ AV BH;rw[AV] at D8;rw[BH] at D4;rw[BH,AV] at my uF;have i1:(i:Int)<n:=by omega
 clear hL hn hx Gz hv zk AV BH;obtain⟨k,hk⟩:∃k,x.k=k:=⟨_,rfl⟩
 have Hk:=hid hk;rw[hk] at c0 my uF HE HX;obtain⟨p0,DE⟩:∃p0:Nat,wd x.p 0=p0:=⟨_,rfl⟩
 obtain⟨p1,fQ⟩:∃p1:Nat,wd x.p 1=p1:=⟨_,rfl⟩
 obtain⟨p2,fO⟩:∃p2:Nat,wd x.p 2=p2:=⟨_,rfl⟩
 obtain⟨p3,ic⟩:∃p3:Nat,wd x.p 3=p3:=⟨_,rfl⟩
 have Hp:=ψ DE fQ fO ic;rw[DE] at c1;rw[fQ] at c2;rw[fO] at c3;rw[ic] at c4;clear hk DE fQ fO ic;go_in;go_wp2_with fail
 go_cut [5,6,7] from 9 to 17 (fun v5 v6 v7 wx=>v5=.pointer (some ⟨w.heap.size,0,none⟩)/\v6=.int .i64 (bi:Int)/\v7=.int .i64 (ei:Int)/\St wx 91 w.heap.size #[.int .i64 k,.int .u64 (p0:Int),.int .u64 (p1:Int),.int .u64 (p2:Int),.int .u64 (p3:Int)]/\Below w.heap.size w wx)
 case first=>
  go_region_with (first
   | (go_at_call 85;refine (D8.out _).mono ?_;rintro e w' ⟨rfl,rfl⟩)
   | (go_at_call 86;refine (D4.out _).mono ?_;rintro e w' ⟨rfl,rfl⟩))
  all_goals
   go_wp2_with fail
   go_meet
   exact⟨rfl,rfl,rfl,St.new _ _ _,((Below.refl _ _).alloc (Nat.le_refl _) _).drew⟩
 case rest=>
  obtain⟨rfl,rfl,rfl,hS,hB⟩:=hcut;have h0:=hS.at_ 0;have h1:=hS.at_ 1;have h2:=hS.at_ 2;have h3:=hS.at_ 3;have h4:=hS.at_ 4;simp only[List.getElem?_toArray,List.getElem?_cons_succ,List.getElem?_cons_zero] at h0 h1 h2 h3 h4;have HB:=hid hB;have HSc:=hid hS;clear hS hB c0 c1 c2 c3 c4 D8 D4;go_wp2_with fail;refine (SH k _).mono ?_;rintro e w2 ⟨rfl,rfl⟩;rcases tw k with ⟨e0,px⟩|⟨e0,px⟩|⟨e0,px⟩|⟨e0,_⟩
  ·have me:Hid (kU l i=gv x i):=(by show _=_;rw[HE.out,e0,if_neg (by omega),if_neg (by omega)]);have Hlg:=hid (znE x i (by rw[Hk.out];exact px));rw[e0];clear my uF AT ep HE px e0;go_wp2;go_ret;have ho:=vJ wc w.heap.size 117 7 #[.int .i64 (bi:Int),.int .i64 (ei:Int),.int .u64 (p0:Int),.int .u64 (p1:Int),.int .u64 (p2:Int),.int .u64 (p3:Int),.bool (k == 0)] 1 rfl HB.out.size (by unfold maxLen;omega);rw[me.out];refine⟨some ⟨wc.heap.size,0,none⟩,1,rfl,?_,HB.out.trans ((al wc _).mono HB.out.size)⟩;rw[Hlg.out,UZ.out.2,UZ.out.1,Hp.out.1,Hp.out.2.1,Hp.out.2.2.1,Hp.out.2.2.2,Hk.out];exact ho
  ·have me:Hid (kU l i=di k (dp l (i-1)-1) (i-1) i):=(by show _=_;rw[HE.out,e0,if_neg (by omega),if_pos rfl]);obtain⟨BG,rf⟩:=HX.out.2.2 e0;have AL:=AT.out BG;have gY:=hid (ep.out BG);have lb:=hid (uF.out BG _ rf AL);obtain⟨R,hR⟩:∃R,dp l (i-1)=R:=(⟨_,rfl⟩);rw[hR] at gY lb me rf AL;rw[show ((i-1:Nat):Int)=(i:Int)-1 by omega] at gY;rw[<-show IntKind.i64.wrap ((R:Int)-1)=(R:Int)-1 from IntWalk.i64_in _ (by omega)] at lb;rw[e0];have i3:(1:Int)<=i:=(by omega);have i4:(1:Int)<=R:=(by omega);clear my uF AT ep HE px e0 hR;go_upto_region 7 with fail;have wI:Hid (∀W,Below w.heap.size w W->∀{W'},Below W.heap.size W W'->W.cell? ⟨w.heap.size,0,none⟩=some (.int .i64 k)->W'.cell? ⟨w.heap.size,0,none⟩=some (.int .i64 k)):=fun W hW W' hb hc=>by
    by_cases hl:w.heap.size<W.heap.size
    ·exact (hb.cell (p:=⟨w.heap.size,0,none⟩) hl).trans hc
    simp[World.cell?,Array.getElem?_eq_none (by omega:W.heap.size<=w.heap.size)] at hc
   refine wp_region_held_drew (S:=fun W'=>Below w.heap.size w W'/\W'.cell? ⟨w.heap.size,0,none⟩=some (.int .i64 k)/\True) (by kernel_rfl) ⟨HB.out.drew,HSc.out.at_ 0,trivial⟩ (fun η=>?_)
   (refine an 0 ?_;refine an 1 ?_;refine an 2 ?_;try simp only[put,sA];refine an 3 ?_;refine an 6 ?_;refine an 7 ?_;try simp only[put,sA];refine an 8 ?_;try simp only[put,sA])
   refine bc 4 (fun K hK=>?_);skip;go_simp;go_at_call 127;refine (gY.out _ (And.left η)).mono ?_;rintro e w2 ⟨rfl,rfl⟩
   try go_wp2_with fail
   refine hK.out _ _ (η) fun η=>?_;clear hK K
   try simp only[put,sA]
   (refine an 5 ?_;try simp only[put,sA])
   refine bc 9 (fun K hK=>?_);skip;go_simp;go_at_call 126;have gE:=And.left η;refine (lb.out _).mono ?_;rintro e w3 ⟨a2,c2,rfl,ho2,cv⟩;have kz:Hid (w3.ownsRow w.heap.size 117 7 (.slice a2 (di k (R-1) (i-1) i).length c2) (di k (R-1) (i-1) i).length (dj ((di k (R-1) (i-1) i).map En.z))/\Below w.heap.size w w3):=(⟨gn ho2 gE.size,gE.trans (cv.mono gE.size)⟩);have wL:=wI.out _ gE cv;clear ho2 cv gE
   try go_wp2_with fail
   refine hK.out _ _ (⟨kz.out.2,wL (And.left (And.right η)),trivial⟩) fun η=>?_;clear hK K
   try simp only[put,sA]
   (refine an 10 ?_;try simp only[put,sA])
   refine wpAnyH_done (by kernel_rfl) ?_ _;clear η;go_wp2;go_ret;rw[me.out];exact⟨a2,c2,rfl,kz.out.1,kz.out.2⟩
  ·have me:Hid (kU l i=fw k (i-1) i):=(by show _=_;rw[HE.out,if_pos e0]);have QD:=hid (my.out (HX.out.2.1 e0));have i3:(1:Int)<=i:=(by have:=HX.out.2.1 e0;omega);rw[e0];clear my uF AT ep HE px e0;go_wp2_with fail;refine (QD.out _).mono ?_;rintro e w2 ⟨a2,c2,rfl,ho2,cv⟩;have kz:Hid (w2.ownsRow w.heap.size 117 7 (.slice a2 (fw k (i-1) i).length c2) (fw k (i-1) i).length (dj ((fw k (i-1) i).map En.z))/\Below w.heap.size w w2):=(⟨gn ho2 HB.out.size,HB.out.trans (cv.mono HB.out.size)⟩);clear ho2 cv;go_wp2;go_ret;rw[me.out];exact⟨a2,c2,rfl,kz.out.1,kz.out.2⟩
  exact absurd HX.out.1 (by rw[e0];omega)
