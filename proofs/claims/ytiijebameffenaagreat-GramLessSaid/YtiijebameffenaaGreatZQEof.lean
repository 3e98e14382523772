import Derived.Test.YtiijebameffenaaGreatZChk
import Derived.Test.YtiijebameffenaaGreatZQThom
import Derived.Test.YtiijebameffenaaGreatZRefClass
import Derived.Deep.RegionLaw
set_option linter.all false
set_option maxHeartbeats 4000000
set_option maxRecDepth 100000
open Go.Lib (hid)
namespace Go.Proofs.YtiijebameffenaaGreat
open Go.RowKit Go.Maps Go.WideElems Go.ChangeMaps Go.MapKept Go.Proofs.Tryz
open List (append_assoc append_nil length_append range)
open Act (put)
theorem CJ(k:Nat)(hk:k<=1000000)(w:World):Calls prog 113 #[.int .i64 (k:Int)] w fun e w'=>e=.returned (.int .i64 (((2*k:Nat)):Int))/\w=w':=by
 go_enter func113,ntmps113;go_wp2;go_ret;exact⟨by show Ending.returned _=_;congr 2,rfl⟩
theorem Fp(k:Nat)(hk:k<=1000000)(w:World):Calls prog 114 #[.int .i64 (k:Int)] w fun e w'=>e=.returned (.int .i64 (((2*k+1:Nat)):Int))/\w=w':=by
 go_enter func114,ntmps114;go_wp2;go_ret;exact⟨by show Ending.returned _=_;congr 2,rfl⟩
def uN(L:List En)(w:World)(e:Ending)(w':World):Prop:=
 ∃a c,e=.returned (.slice a L.length c)/\w'.ownsRow w.heap.size 186 7 (.slice a L.length c) L.length (fp (L.map En.z))/\Below w.heap.size w w'
def dq(f t:Nat):List Value:=[.int .i64 ((f:Nat):Int),.int .i64 ((t:Nat):Int),.int .u64 0,.int .u64 0,.int .u64 0,.int .u64 0,.bool true]
theorem yX(f t:Nat)(l:List En):fp ((bx f t :: l).map En.z)=dq f t++fp (l.map En.z):=by
 show dg (bx f t).z++_=_;rw[zkI];rfl
theorem ziF(k:Int)(i j r:Nat)(hi:i<=1000000)(hj:j<=1000000)(hr:r<=1000000)(w:World):
  Calls prog 144 #[.int .i64 k,.int .i64 (i:Int),.int .i64 (j:Int),.int .i64 ((2*r:Nat):Int),.int .i64 ((2*r+1:Nat):Int)] w (uN (cn k i j r) w):=by
 have Hb:=hid (fun (x:Nat) (hx:x<=1000000) (W:World)=>CJ x hx W);have He:=hid (fun (x:Nat) (hx:x<=1000000) (W:World)=>Fp x hx W);obtain⟨F,hF⟩:∃F:Nat,2*r=F:=⟨_,rfl⟩
 obtain⟨T,hT⟩:∃T:Nat,2*r+1=T:=⟨_,rfl⟩
 obtain⟨bi,A7⟩:∃x:Nat,2*i=x:=⟨_,rfl⟩
 obtain⟨ei,AQ⟩:∃x:Nat,2*i+1=x:=⟨_,rfl⟩
 obtain⟨bj,AX⟩:∃x:Nat,2*j=x:=⟨_,rfl⟩
 obtain⟨ej,Ca⟩:∃x:Nat,2*j+1=x:=⟨_,rfl⟩
 have CG:=hid (fun (W:World)=>CJ i hi W);have Dl:=hid (fun (W:World)=>Fp i hi W);have B9:=hid (fun (W:World)=>CJ j hj W);have yY:=hid (fun (W:World)=>Fp j hj W);have HL:Hid (cn k i j r=if k=2 then [bx F bi,bx ei bj,bx ej T] else [bx F bi,bx ei T,bx F bj,bx ej T]):=by
  show _=_;unfold cn;rw[hT,AQ,Ca,hF,A7,AX]
 rw[A7] at CG;rw[AQ] at Dl;rw[AX] at B9;rw[Ca] at yY;rw[hT,hF];clear hF hT A7 AQ AX Ca Hb He;by_cases h2:k=2
 ·have tj:Hid (cn k i j r=[bx F bi,bx ei bj,bx ej T]):=by show _=_;rw[HL.out,if_pos h2]
  have h1:((k:Int) == 2)=true:=by rw[h2];rfl
  clear h2 HL;go_enter func144,ntmps144;go_wp2_with fail;refine (CG.out w).mono ?_;rintro e w1 ⟨rfl,rfl⟩;go_wp2_with fail;refine (uK F bi w).mono ?_;rintro e w1 ⟨rfl,k1⟩;have H1:=hid k1;clear k1;go_wp2_with fail;refine (Dl.out w1).mono ?_;rintro e w1 ⟨rfl,rfl⟩;go_wp2_with fail;refine (B9.out _).mono ?_;rintro e w2 ⟨rfl,rfl⟩;go_wp2_with fail;refine (uK ei bj _).mono ?_;rintro e w3 ⟨rfl,k3⟩;have H3:=hid (H1.out.trans (k3.mono H1.out.size));clear k3;go_wp2_with fail;refine (yY.out w3).mono ?_;rintro e w4 ⟨rfl,rfl⟩;go_wp2_with fail;refine (uK ej T _).mono ?_;rintro e w5 ⟨rfl,k5⟩;have H5:=hid (H3.out.trans (k5.mono H3.out.size));clear k5;go_wp2;go_ret;have ho:=Bl w5 w.heap.size 186 7 ((dq F bi++(dq ei bj++dq ej T)).toArray) 3 rfl H5.out.size (by unfold maxLen;omega);rw[tj.out];refine⟨some ⟨w5.heap.size,0,none⟩,3,rfl,?_,H5.out.trans ((al w5 _).mono H5.out.size)⟩;rw[yX,yX,yX];simpa [dq,fp] using ho
 have tj:Hid (cn k i j r=[bx F bi,bx ei T,bx F bj,bx ej T]):=by show _=_;rw[HL.out,if_neg h2]
 have h1:((k:Int) == 2)=false:=by rw[beq_eq_false_iff_ne];exact h2
 clear h2 HL;go_enter func144,ntmps144;go_wp2_with fail;refine (CG.out w).mono ?_;rintro e w1 ⟨rfl,rfl⟩;go_wp2_with fail;refine (uK F bi w).mono ?_;rintro e w1 ⟨rfl,k1⟩;have H1:=hid k1;clear k1;go_wp2_with fail;refine (Dl.out w1).mono ?_;rintro e w1 ⟨rfl,rfl⟩;go_wp2_with fail;refine (uK ei T _).mono ?_;rintro e w3 ⟨rfl,k3⟩;have H3:=hid (H1.out.trans (k3.mono H1.out.size));clear k3;go_wp2_with fail;refine (B9.out w3).mono ?_;rintro e w4 ⟨rfl,rfl⟩;go_wp2_with fail;refine (uK F bj _).mono ?_;rintro e w5 ⟨rfl,k5⟩;have H5:=hid (H3.out.trans (k5.mono H3.out.size));clear k5;go_wp2_with fail;refine (yY.out w5).mono ?_;rintro e w6 ⟨rfl,rfl⟩;go_wp2_with fail;refine (uK ej T _).mono ?_;rintro e w7 ⟨rfl,k7⟩;have H7:=hid (H5.out.trans (k7.mono H5.out.size));clear k7;go_wp2;go_ret;have ho:=Bl w7 w.heap.size 186 7 ((dq F bi++(dq ei T++(dq F bj++dq ej T))).toArray) 4 rfl H7.out.size (by unfold maxLen;omega);rw[tj.out];refine⟨some ⟨w7.heap.size,0,none⟩,4,rfl,?_,H7.out.trans ((al w7 _).mono H7.out.size)⟩;rw[yX,yX,yX,yX];simpa [dq,fp] using ho
theorem St.sU{w:World}{t g:Nat}{cs:Array Value}(h:St w t g cs):∀j v,cs.toList[j]?=some v->w.cell? ((⟨g,0,none⟩:Addr).add j)=some v:=fun j v hj=>by
 have e:(⟨g,0,none⟩:Addr).add j=⟨g,j,none⟩:=by unfold Addr.add;split <;> simp_all
 rw[e,h.at_,<-Array.getElem?_toList,hj]
theorem zfJ(k:Int)(j r:Nat)(hj:j<=1000000)(hr:r<=1000000)(w:World):
  Calls prog 143 #[.int .i64 k,.int .i64 (j:Int),.int .i64 ((2*r:Nat):Int),.int .i64 ((2*r+1:Nat):Int)] w (uN (eB k j r) w):=by
 obtain⟨F,hF⟩:∃F:Nat,2*r=F:=⟨_,rfl⟩
 obtain⟨T,hT⟩:∃T:Nat,2*r+1=T:=⟨_,rfl⟩
 obtain⟨bj,AX⟩:∃x:Nat,2*j=x:=⟨_,rfl⟩
 obtain⟨ej,Ca⟩:∃x:Nat,2*j+1=x:=⟨_,rfl⟩
 have B9:=hid (fun (W:World)=>CJ j hj W);have yY:=hid (fun (W:World)=>Fp j hj W);have De:=hid (fun (W:World)=>CJ j hj W);have HL:Hid (eB k j r=[bx F bj,bx ej T]++((if k=5 then [] else [bx F T])++(if k=6 then [] else [bx ej bj]))):=by
  show _=_;unfold eB;rw[hT,Ca,hF,AX]
 rw[AX] at B9;rw[AX] at De;rw[Ca] at yY;rw[hT,hF];clear hF hT AX Ca;obtain⟨i0,hi,dD,db,cW⟩:=info_parts oH;go_enter func143,ntmps143;go_wp2_with fail;refine (B9.out w).mono ?_;rintro e w1 ⟨rfl,rfl⟩;go_wp2_with fail;refine (uK F bj w).mono ?_;rintro e w1 ⟨rfl,k1⟩;have H1:=hid k1;clear k1;go_wp2_with fail;refine (yY.out w1).mono ?_;rintro e w2 ⟨rfl,rfl⟩;go_wp2_with fail;refine (uK ej T _).mono ?_;rintro e w2 ⟨rfl,k2⟩;have HO:Hid (Below w.heap.size w (w2.alloc (.cells #[.int .i64 (F:Int),.int .i64 (bj:Int),.int .u64 0,.int .u64 0,.int .u64 0,.int .u64 0,.bool true,.int .i64 (ej:Int),.int .i64 (T:Int),.int .u64 0,.int .u64 0,.int .u64 0,.int .u64 0,.bool true] 186))/\(w2.alloc (.cells #[.int .i64 (F:Int),.int .i64 (bj:Int),.int .u64 0,.int .u64 0,.int .u64 0,.int .u64 0,.bool true,.int .i64 (ej:Int),.int .i64 (T:Int),.int .u64 0,.int .u64 0,.int .u64 0,.int .u64 0,.bool true] 186)).ownsRow w.heap.size 186 7 (.slice (some ⟨w2.heap.size,0,none⟩) 2 2) 2 (fp (([bx F bj,bx ej T]:List En).map En.z))):=by
  have h1:=H1.out.trans (k2.mono H1.out.size);refine⟨h1.trans ((al w2 _).mono h1.size),?_⟩;have ho:=Bl w2 w.heap.size 186 7 ((dq F bj++dq ej T).toArray) 2 rfl h1.size (by unfold maxLen;omega);rw[yX,yX];simpa [dq,fp] using ho
 clear k2 H1;go_upto_region 2 with fail;generalize w2.alloc (.cells #[.int .i64 (F:Int),.int .i64 (bj:Int),.int .u64 0,.int .u64 0,.int .u64 0,.int .u64 0,.bool true,.int .i64 (ej:Int),.int .i64 (T:Int),.int .u64 0,.int .u64 0,.int .u64 0,.int .u64 0,.bool true] 186)=W3 at HO⊢;obtain⟨g,hg⟩:∃g,w2.heap.size=g:=⟨_,rfl⟩
 rw[hg] at HO;rw[hg];clear hg B9;by_cases h5:k=5
 ·have tj:Hid (eB k j r=[bx F bj,bx ej T,bx ej bj]):=by show _=_;rw[HL.out,if_pos h5,if_neg (by omega)];rfl
  have q5:((k:Int) != 5)=false:=by rw[h5];rfl
  have q6:((k:Int) != 6)=true:=by rw[h5];rfl
  clear h5 HL;go_wp2_with fail;refine (yY.out W3).mono ?_;rintro e w5 ⟨rfl,rfl⟩;go_wp2_with fail;refine (De.out W3).mono ?_;rintro e w5 ⟨rfl,rfl⟩;go_wp2_with fail;refine (uK ej bj W3).mono ?_;rintro e x3 ⟨rfl,kx⟩;have ff:Hid (Below w.heap.size w x3/\x3.ownsRow w.heap.size 186 7 (.slice (some ⟨g,0,none⟩) 2 2) 2 (fp (([bx F bj,bx ej T]:List En).map En.z))):=⟨HO.out.1.trans (kx.mono HO.out.1.size),dp HO.out.2 kx⟩
  clear kx;have hO:=ff.out.2;go_wp2_with (at_builtin;refine wpList_append_own_at _ rfl _ _ 117 rfl w.heap.size 186 i0 (.agg #[.int .i64 0,.int .i64 0,.int .u64 0,.int .u64 0,.int .u64 0,.int .u64 0,.bool false]) 7 56 underlying117 hi dD db cW rfl (by decide) _ _ _ rfl (hO.alloc _) ⟨x3.heap.size,0,none⟩ 1 1 (dq ej bj) rfl rfl (fun j u hj=>(St.new x3 186 (dq ej bj).toArray).sU j u (by simpa using hj)) ?d2 ?d3 ?d4 ?d5 ?_)
  case d2=>intro u hu;simp[dq] at hu;rcases hu with rfl|rfl|rfl|rfl <;> rfl
  case d3=>unfold maxLen;omega
  case d4=>omega
  case d5=>have:=ff.out.1.size;simp at this⊢;omega
  intro v3 y3 aX de _ _;obtain⟨a3,c3,rfl⟩:=bF aX;have H3:Hid (Below w.heap.size w y3/\y3.ownsRow w.heap.size 186 7 (.slice a3 3 c3) 3 (fp (([bx F bj,bx ej T,bx ej bj]:List En).map En.z))):=by
   have h1:=ff.out.1.trans ((al x3 (.cells (dq ej bj).toArray 186)).mono ff.out.1.size);refine⟨fH h1 (hO.alloc _) h1.size de,?_⟩;have h2:fp (([bx F bj,bx ej T,bx ej bj]:List En).map En.z)=fp (([bx F bj,bx ej T]:List En).map En.z)++dq ej bj:=(by simp[fp,dg,En.z,bx,zq,dq]);rw[h2];exact aX
  clear aX de hO;go_wp2;go_ret;rw[tj.out];exact⟨a3,c3,rfl,H3.out.2,H3.out.1⟩
 by_cases h6:k=6
 ·have tj:Hid (eB k j r=[bx F bj,bx ej T,bx F T]):=by show _=_;rw[HL.out,if_neg h5,if_pos h6];rfl
  have q5:((k:Int) != 5)=true:=by rw[h6];rfl
  have q6:((k:Int) != 6)=false:=by rw[h6];rfl
  clear h5 h6 HL yY;go_wp2_with fail;refine (uK F T W3).mono ?_;rintro e x3 ⟨rfl,kx⟩;have ff:Hid (Below w.heap.size w x3/\x3.ownsRow w.heap.size 186 7 (.slice (some ⟨g,0,none⟩) 2 2) 2 (fp (([bx F bj,bx ej T]:List En).map En.z))):=⟨HO.out.1.trans (kx.mono HO.out.1.size),dp HO.out.2 kx⟩
  clear kx;have hO:=ff.out.2;go_wp2_with (at_builtin;refine wpList_append_own_at _ rfl _ _ 117 rfl w.heap.size 186 i0 (.agg #[.int .i64 0,.int .i64 0,.int .u64 0,.int .u64 0,.int .u64 0,.int .u64 0,.bool false]) 7 56 underlying117 hi dD db cW rfl (by decide) _ _ _ rfl (hO.alloc _) ⟨x3.heap.size,0,none⟩ 1 1 (dq F T) rfl rfl (fun j u hj=>(St.new x3 186 (dq F T).toArray).sU j u (by simpa using hj)) ?d2 ?d3 ?d4 ?d5 ?_)
  case d2=>intro u hu;simp[dq] at hu;rcases hu with rfl|rfl|rfl|rfl <;> rfl
  case d3=>unfold maxLen;omega
  case d4=>omega
  case d5=>have:=ff.out.1.size;simp at this⊢;omega
  intro v3 y3 aX de _ _;obtain⟨a3,c3,rfl⟩:=bF aX;have H3:Hid (Below w.heap.size w y3/\y3.ownsRow w.heap.size 186 7 (.slice a3 3 c3) 3 (fp (([bx F bj,bx ej T,bx F T]:List En).map En.z))):=by
   have h1:=ff.out.1.trans ((al x3 (.cells (dq F T).toArray 186)).mono ff.out.1.size);refine⟨fH h1 (hO.alloc _) h1.size de,?_⟩;have h2:fp (([bx F bj,bx ej T,bx F T]:List En).map En.z)=fp (([bx F bj,bx ej T]:List En).map En.z)++dq F T:=(by simp[fp,dg,En.z,bx,zq,dq]);rw[h2];exact aX
  clear aX de hO;go_wp2;go_ret;rw[tj.out];exact⟨a3,c3,rfl,H3.out.2,H3.out.1⟩
 have tj:Hid (eB k j r=[bx F bj,bx ej T,bx F T,bx ej bj]):=by show _=_;rw[HL.out,if_neg h5,if_neg h6];rfl
 have q5:((k:Int) != 5)=true:=by rw[bne_iff_ne];exact h5
 have q6:((k:Int) != 6)=true:=by rw[bne_iff_ne];exact h6
 clear h5 h6 HL;go_wp2_with fail;refine (uK F T W3).mono ?_;rintro e x3 ⟨rfl,kx⟩;have ff:Hid (Below w.heap.size w x3/\x3.ownsRow w.heap.size 186 7 (.slice (some ⟨g,0,none⟩) 2 2) 2 (fp (([bx F bj,bx ej T]:List En).map En.z))):=⟨HO.out.1.trans (kx.mono HO.out.1.size),dp HO.out.2 kx⟩
 clear kx;have hO:=ff.out.2;go_wp2_with (at_builtin;refine wpList_append_own_at _ rfl _ _ 117 rfl w.heap.size 186 i0 (.agg #[.int .i64 0,.int .i64 0,.int .u64 0,.int .u64 0,.int .u64 0,.int .u64 0,.bool false]) 7 56 underlying117 hi dD db cW rfl (by decide) _ _ _ rfl (hO.alloc _) ⟨x3.heap.size,0,none⟩ 1 1 (dq F T) rfl rfl (fun j u hj=>(St.new x3 186 (dq F T).toArray).sU j u (by simpa using hj)) ?d2 ?d3 ?d4 ?d5 ?_)
 case d2=>intro u hu;simp[dq] at hu;rcases hu with rfl|rfl|rfl|rfl <;> rfl
 case d3=>unfold maxLen;omega
 case d4=>omega
 case d5=>have:=ff.out.1.size;simp at this⊢;omega
 intro v3 y3 aX de _ _;obtain⟨a3,c3,rfl⟩:=bF aX;have H3:Hid (Below w.heap.size w y3/\y3.ownsRow w.heap.size 186 7 (.slice a3 3 c3) 3 (fp (([bx F bj,bx ej T,bx F T]:List En).map En.z))):=by
  have h1:=ff.out.1.trans ((al x3 (.cells (dq F T).toArray 186)).mono ff.out.1.size);refine⟨fH h1 (hO.alloc _) h1.size de,?_⟩;have h2:fp (([bx F bj,bx ej T,bx F T]:List En).map En.z)=fp (([bx F bj,bx ej T]:List En).map En.z)++dq F T:=by simp[fp,dg,En.z,bx,zq,dq]
  rw[h2];exact aX
 clear aX de hO;go_wp2_with fail;refine (yY.out y3).mono ?_;rintro e w5 ⟨rfl,rfl⟩;go_wp2_with fail;refine (De.out y3).mono ?_;rintro e w5 ⟨rfl,rfl⟩;go_wp2_with fail;refine (uK ej bj y3).mono ?_;rintro e x4 ⟨rfl,kx⟩;have kt:Hid (Below w.heap.size w x4/\x4.ownsRow w.heap.size 186 7 (.slice a3 3 c3) 3 (fp (([bx F bj,bx ej T,bx F T]:List En).map En.z))):=⟨H3.out.1.trans (kx.mono H3.out.1.size),dp H3.out.2 kx⟩
 clear kx;have hO:=kt.out.2;go_wp2_with (at_builtin;refine wpList_append_own_at _ rfl _ _ 117 rfl w.heap.size 186 i0 (.agg #[.int .i64 0,.int .i64 0,.int .u64 0,.int .u64 0,.int .u64 0,.int .u64 0,.bool false]) 7 56 underlying117 hi dD db cW rfl (by decide) _ _ _ rfl (hO.alloc _) ⟨x4.heap.size,0,none⟩ 1 1 (dq ej bj) rfl rfl (fun j u hj=>(St.new x4 186 (dq ej bj).toArray).sU j u (by simpa using hj)) ?d2 ?d3 ?d4 ?d5 ?_)
 case d2=>intro u hu;simp[dq] at hu;rcases hu with rfl|rfl|rfl|rfl <;> rfl
 case d3=>unfold maxLen;omega
 case d4=>omega
 case d5=>have:=kt.out.1.size;simp at this⊢;omega
 intro v4 y4 aX de _ _;obtain⟨a4,c4,rfl⟩:=bF aX;have H4:Hid (Below w.heap.size w y4/\y4.ownsRow w.heap.size 186 7 (.slice a4 4 c4) 4 (fp (([bx F bj,bx ej T,bx F T,bx ej bj]:List En).map En.z))):=by
  have h1:=kt.out.1.trans ((al x4 (.cells (dq ej bj).toArray 186)).mono kt.out.1.size);refine⟨fH h1 (hO.alloc _) h1.size de,?_⟩;have h2:fp (([bx F bj,bx ej T,bx F T,bx ej bj]:List En).map En.z)=fp (([bx F bj,bx ej T,bx F T]:List En).map En.z)++dq ej bj:=by simp[fp,dg,En.z,bx,zq,dq]
  rw[h2];exact aX
 clear aX de hO;go_wp2;go_ret;rw[tj.out];exact⟨a4,c4,rfl,H4.out.2,H4.out.1⟩
def q8:Pc:=⟨0,fun _=>false⟩
def ki(l:List Pc)(i:Nat):List En:=
 if aO (l.getD i q8).k=1 then eB (l.getD i q8).k (i-1) i else if aO (l.getD i q8).k=2 then cn (l.getD i q8).k (dL l (i-1)-1) (i-1) i else fS (l.getD i q8) i
theorem Lr(s v:List Pc)(x:Pc):(s++x :: v).getD s.length q8=x:=by simp[List.getD_eq_getElem?_getD]
theorem zdW{α β:Type}{l:List α}{f g:α->List β}(h:∀x∈l,f x=g x):l.flatMap f=l.flatMap g:=by
 induction l with
 | nil=>rfl
 | cons a l ih=>simp only[List.flatMap_cons];rw[h a List.mem_cons_self,ih (fun x hx=>h x (List.mem_cons_of_mem _ hx))]
theorem OP{β:Type}(n m:Nat)(f:Nat->List β):(range (n+m)).flatMap f=(range n).flatMap f++(range m).flatMap (fun j=>f (n+j)):=by
 rw[List.range_add,List.flatMap_append];congr 1
 induction m with
 | zero=>rfl
 | succ m ih=>rw[List.range_succ,List.map_append,List.flatMap_append,List.flatMap_append,ih];rfl
theorem zov(t:Rx)(hw:t.wf):∀(s u:List Pc),(range t.flat.length).flatMap (fun j=>ki (s++(t.flat++u)) (s.length+j))=fx t s.length:=by
 induction t with
 | leaf x=>
  intro s u;have h0:aO x.k=0:=hw.1;show (range 1).flatMap _=_;have e:(s++((Rx.leaf x).flat++u)).getD s.length q8=x:=Lr s u x;show ki (s++((Rx.leaf x).flat++u)) (s.length+0)++[]=fS x s.length;rw[append_nil,Nat.add_zero];unfold ki;rw[e,h0,if_neg (by omega),if_neg (by omega)]
 | un x a ih=>
  intro s u;have h1:aO x.k=1:=hw.1;have hl:(Rx.un x a).flat.length=a.flat.length+1:=by simp[Rx.flat]
  have hf:s++((Rx.un x a).flat++u)=s++(a.flat++(x :: u)):=by simp[Rx.flat]
  rw[hl,hf,OP,ih hw.2.2 s (x :: u)];show fx a s.length++(ki (s++(a.flat++x :: u)) (s.length+(a.flat.length+0))++[])=_;have e:(s++(a.flat++x :: u)).getD (s.length+a.flat.length) q8=x:=by
   have:=Lr (s++a.flat) u x;rwa [length_append,append_assoc] at this
  rw[append_nil,Nat.add_zero];show _=fx a s.length++eB x.k (s.length+a.flat.length-1) (s.length+a.flat.length);congr 1;unfold ki;rw[e,if_pos h1]
 | bin x a b ih jh=>
  intro s u;have h2:aO x.k=2:=hw.1;have hp:=a.ca;have hq:=b.ca;have hl:(Rx.bin x a b).flat.length=a.flat.length+(b.flat.length+1):=by simp[Rx.flat]
  have hf:s++((Rx.bin x a b).flat++u)=s++(a.flat++(b.flat++x :: u)):=by simp[Rx.flat]
  rw[hl,hf,OP,ih hw.2.2.1 s (b.flat++x :: u),OP];have hb:=jh hw.2.2.2 (s++a.flat) (x :: u);rw[append_assoc,length_append] at hb;have cv:(range b.flat.length).flatMap (fun j=>ki (s++(a.flat++(b.flat++x :: u))) (s.length+(a.flat.length+j)))=fx b (s.length+a.flat.length):=by
   rw[<-hb];refine(zdW fun j _=>?_);rw[Nat.add_assoc]
  rw[cv];show fx a s.length++(fx b (s.length+a.flat.length)++(ki (s++(a.flat++(b.flat++x :: u))) (s.length+(a.flat.length+(b.flat.length+0)))++[]))=fx a s.length++(fx b (s.length+a.flat.length)++cn x.k (s.length+a.flat.length-1) (s.length+a.flat.length+b.flat.length-1) (s.length+a.flat.length+b.flat.length));rw[append_nil,Nat.add_zero];congr 2;have e:(s++(a.flat++(b.flat++x :: u))).getD (s.length+(a.flat.length+b.flat.length)) q8=x:=by
   simp
  have QQ:dL (s++(a.flat++(b.flat++x :: u))) (s.length+(a.flat.length+b.flat.length)-1)=s.length+a.flat.length:=by
   unfold dL;have et:(s++(a.flat++(b.flat++x :: u))).take (s.length+(a.flat.length+b.flat.length)-1+1)=(s++a.flat)++b.flat:=by
    rw[show s.length+(a.flat.length+b.flat.length)-1+1=((s++a.flat)++b.flat).length by simp;omega,show s++(a.flat++(b.flat++x :: u))=((s++a.flat)++b.flat)++(x :: u) by simp,List.take_left'];rfl
   rw[et,List.reverse_append,SG b hw.2.2.2 _ 1 (by omega),if_pos rfl,List.length_reverse,length_append]
  unfold ki;rw[e,if_neg (by omega),if_pos h2,QQ];congr 1 <;> omega
theorem PQ(t:Rx)(hw:t.wf):(range t.flat.length).flatMap (ki t.flat)=fx t 0:=by
 have:=zov t hw [] [];simpa using this
def Dp(l:List Pc)(i:Nat):Prop:=(aO (l.getD i q8).k=1->1<=i)/\(aO (l.getD i q8).k=2->1<=i/\1<=dL l (i-1))
theorem zmj(t:Rx)(hw:t.wf):∀(s u:List Pc) (j:Nat),j<t.flat.length->Dp (s++(t.flat++u)) (s.length+j):=by
 induction t with
 | leaf x=>
  intro s u j hj;have h0:aO x.k=0:=hw.1;have hj0:j=0:=by simpa [Rx.flat] using hj
  subst hj0;have e:(s++((Rx.leaf x).flat++u)).getD (s.length+0) q8=x:=Lr s u x;unfold Dp;rw[e,h0];exact⟨fun h=>absurd h (by omega),fun h=>absurd h (by omega)⟩
 | un x a ih=>
  intro s u j hj;have h1:aO x.k=1:=hw.1;have hp:=a.ca;have hl:(Rx.un x a).flat.length=a.flat.length+1:=by simp[Rx.flat]
  have hf:s++((Rx.un x a).flat++u)=s++(a.flat++(x :: u)):=by simp[Rx.flat]
  rw[hf];by_cases Sg:j<a.flat.length
  ·exact ih hw.2.2 s (x :: u) j Sg
  have No:j=a.flat.length:=by omega
  subst No;have e:(s++(a.flat++x :: u)).getD (s.length+a.flat.length) q8=x:=by
   have:=Lr (s++a.flat) u x;rwa [length_append,append_assoc] at this
  unfold Dp;rw[e,h1];exact⟨fun _=>by omega,fun h=>absurd h (by omega)⟩
 | bin x a b ih jh=>
  intro s u j hj;have h2:aO x.k=2:=hw.1;have hp:=a.ca;have hq:=b.ca;have hl:(Rx.bin x a b).flat.length=a.flat.length+(b.flat.length+1):=by simp[Rx.flat]
  have hf:s++((Rx.bin x a b).flat++u)=s++(a.flat++(b.flat++x :: u)):=by simp[Rx.flat]
  rw[hf];by_cases Sg:j<a.flat.length
  ·exact ih hw.2.2.1 s (b.flat++x :: u) j Sg
  by_cases hjb:j<a.flat.length+b.flat.length
  ·have:=jh hw.2.2.2 (s++a.flat) (x :: u) (j-a.flat.length) (by omega);rw[append_assoc,length_append,show s.length+a.flat.length+(j-a.flat.length)=s.length+j by omega] at this;exact this
  have No:j=a.flat.length+b.flat.length:=by omega
  subst No;have e:(s++(a.flat++(b.flat++x :: u))).getD (s.length+(a.flat.length+b.flat.length)) q8=x:=by
   simp
  have QQ:dL (s++(a.flat++(b.flat++x :: u))) (s.length+(a.flat.length+b.flat.length)-1)=s.length+a.flat.length:=by
   unfold dL;have et:(s++(a.flat++(b.flat++x :: u))).take (s.length+(a.flat.length+b.flat.length)-1+1)=(s++a.flat)++b.flat:=by
    rw[show s.length+(a.flat.length+b.flat.length)-1+1=((s++a.flat)++b.flat).length by simp;omega,show s++(a.flat++(b.flat++x :: u))=((s++a.flat)++b.flat)++(x :: u) by simp,List.take_left'];rfl
   rw[et,List.reverse_append,SG b hw.2.2.2 _ 1 (by omega),if_pos rfl,List.length_reverse,length_append]
  unfold Dp;rw[e,h2,QQ];exact⟨fun h=>absurd h (by omega),fun _=>by omega⟩
theorem zkm(t:Rx)(hw:t.wf)(j:Nat)(hj:j<t.flat.length):Dp t.flat j:=by
 have:=zmj t hw [] [] j hj;simpa using this
theorem ZP(x:Pc)(i:Nat)(hk:x.k=0\/x.k=1):fp ((fS x i).map En.z)=[.int .i64 ((2*i:Nat):Int),.int .i64 ((2*i+1:Nat):Int),.int .u64 ((wd x.p 0:Nat):Int),.int .u64 ((wd x.p 1:Nat):Int),.int .u64 ((wd x.p 2:Nat):Int),.int .u64 ((wd x.p 3:Nat):Int),.bool (x.k == 0)]:=by
 have h:decide (x.k=0)=(x.k == 0):=by rcases hk with h|h <;> rw[h] <;> rfl
 simp[fp,dg,En.z,fS,h]
theorem zml:∀(l:List Pc) (m:Int),jO l m<=l.length:=by
 intro l
 induction l with
 | nil=>intro m;exact Nat.le_refl _
 | cons x r ih=>
  intro m;unfold jO;split
  ·simp
  have:=ih (m+(aO x.k-1));simp;omega
theorem zkn(l:List Pc)(j:Nat):dL l j<=j+1:=by
 unfold dL;have:=zml (l.take (j+1)).reverse 1;simp at this;omega
theorem zgJ(l:List Pc)(a:Option Addr)(n cap:Nat)(w:World)(hL:mE w a l)(hn:l.length=n)(kF:n<=100000)(i:Nat)(hi:i<n)(hv:0<=aO (l.getD i q8).k)(Ka:Dp l i):
  Calls prog 115 #[.slice a n cap,.int .i64 (i:Int)] w (uN (ki l i) w):=by
 obtain⟨g,off,rfl,hg,c0,c1,c2,c3,c4⟩:=hL.get i (by omega);have hx:l[i]'(by omega)=l.getD i q8:=by simp[List.getD_eq_getElem?_getD,show i<l.length by omega]
 rw[hx] at c0 c1 c2 c3 c4;obtain⟨x,Dh⟩:∃x,l.getD i q8=x:=⟨_,rfl⟩
 have HE:Hid (ki l i=if aO x.k=1 then eB x.k (i-1) i else if aO x.k=2 then cn x.k (dL l (i-1)-1) (i-1) i else fS x i):=by
  show _=_;unfold ki;rw[Dh]
 unfold Dp at Ka;rw[Dh] at c0 c1 c2 c3 c4 hv Ka;have kn:Hid (1<=i->∀W,Below w.heap.size w W->Calls prog 145 #[.slice (some ⟨g,off,none⟩) n cap,.int .i64 ((i-1:Nat):Int)] W fun e w'=>e=.returned (.int .i64 ((dL l (i-1):Nat):Int))/\W=w'):=fun h W hW=>zi9 l _ n cap W (hL.below hW) hn (by omega) (i-1) (by omega)
 have CG:=hid (fun (W:World)=>CJ i (by omega) W);have Dl:=hid (fun (W:World)=>Fp i (by omega) W);have HX:=hid (Zz hv Ka);have pG:Hid (1<=i->∀W,Calls prog 143 #[.int .i64 x.k,.int .i64 ((i:Int)-1),.int .i64 ((2*i:Nat):Int),.int .i64 ((2*i+1:Nat):Int)] W (uN (eB x.k (i-1) i) W)):=fun h W=>by
  have:=zfJ x.k (i-1) i (by omega) (by omega) W;rwa [show ((i-1:Nat):Int)=(i:Int)-1 by omega] at this
 have ua:Hid (1<=i->∀R:Nat,1<=R->R<=1000000->∀W,Calls prog 144 #[.int .i64 x.k,.int .i64 ((R:Int)-1),.int .i64 ((i:Int)-1),.int .i64 ((2*i:Nat):Int),.int .i64 ((2*i+1:Nat):Int)] W (uN (cn x.k (R-1) (i-1) i) W)):=fun h R hR OS W=>by
  have:=ziF x.k (R-1) (i-1) i (by omega) (by omega) (by omega) W;rwa [show ((i-1:Nat):Int)=(i:Int)-1 by omega,show ((R-1:Nat):Int)=(R:Int)-1 by omega] at this
 have ET:Hid (1<=i->dL l (i-1)<=1000000):=fun h=>by
  have:=zkn l (i-1);omega
 obtain⟨bi,A7⟩:∃b:Nat,2*i=b:=⟨_,rfl⟩
 obtain⟨ei,AQ⟩:∃b:Nat,2*i+1=b:=⟨_,rfl⟩
 have Tx:=hid (Zz A7 AQ);rw[A7] at CG;rw[AQ] at Dl;rw[AQ,A7] at pG ua;have i1:(i:Int)<n:=by omega
 clear hL hn hx Dh hv Ka A7 AQ;obtain⟨k,hk⟩:∃k,x.k=k:=⟨_,rfl⟩
 have Hk:=hid hk;rw[hk] at c0 pG ua HE HX;obtain⟨p0,yC⟩:∃p0:Nat,wd x.p 0=p0:=⟨_,rfl⟩
 obtain⟨p1,fK⟩:∃p1:Nat,wd x.p 1=p1:=⟨_,rfl⟩
 obtain⟨p2,fj⟩:∃p2:Nat,wd x.p 2=p2:=⟨_,rfl⟩
 obtain⟨p3,gK⟩:∃p3:Nat,wd x.p 3=p3:=⟨_,rfl⟩
 have Hp:=hid (Zz yC (Zz fK (Zz fj gK)));rw[yC] at c1;rw[fK] at c2;rw[fj] at c3;rw[gK] at c4;clear hk yC fK fj gK;go_enter func115,ntmps115;go_wp2_with fail
 go_cut [5,6,7] from 9 to 17 (fun v5 v6 v7 wx=>v5=.pointer (some ⟨w.heap.size,0,none⟩)/\v6=.int .i64 (bi:Int)/\v7=.int .i64 (ei:Int)/\St wx 148 w.heap.size #[.int .i64 k,.int .u64 (p0:Int),.int .u64 (p1:Int),.int .u64 (p2:Int),.int .u64 (p3:Int)]/\Below w.heap.size w wx)
 case first=>
  go_region_with (first
   | (go_at_call 113;refine (CG.out _).mono ?_;rintro e w' ⟨rfl,rfl⟩)
   | (go_at_call 114;refine (Dl.out _).mono ?_;rintro e w' ⟨rfl,rfl⟩))
  all_goals
   go_wp2_with fail
   go_meet
   exact⟨rfl,rfl,rfl,St.new _ _ _,((Below.refl _ _).alloc (Nat.le_refl _) _).drew⟩
 case rest=>
  obtain⟨rfl,rfl,rfl,hS,hB⟩:=hcut;have h0:=hS.at_ 0;have h1:=hS.at_ 1;have h2:=hS.at_ 2;have h3:=hS.at_ 3;have h4:=hS.at_ 4;simp only[List.getElem?_toArray,List.getElem?_cons_succ,List.getElem?_cons_zero] at h0 h1 h2 h3 h4;have HB:=hid hB;have HSc:=hid hS;clear hS hB c0 c1 c2 c3 c4 CG Dl;go_wp2_with fail;refine (Rw k _).mono ?_;rintro e w2 ⟨rfl,rfl⟩;rcases BH k with ⟨e0,pw⟩|⟨e0,pw⟩|⟨e0,pw⟩|⟨e0,_⟩
  ·have gh:Hid (ki l i=fS x i):=(by show _=_;rw[HE.out,e0,if_neg (by omega),if_neg (by omega)]);have Hlg:=hid (ZP x i (by rw[Hk.out];exact pw));rw[e0];clear pG ua ET kn HE pw e0;go_wp2;go_ret;have ho:=Bl wc w.heap.size 186 7 #[.int .i64 (bi:Int),.int .i64 (ei:Int),.int .u64 (p0:Int),.int .u64 (p1:Int),.int .u64 (p2:Int),.int .u64 (p3:Int),.bool (k == 0)] 1 rfl HB.out.size (by unfold maxLen;omega);rw[gh.out];refine⟨some ⟨wc.heap.size,0,none⟩,1,rfl,?_,HB.out.trans ((al wc _).mono HB.out.size)⟩;rw[Hlg.out,Tx.out.2,Tx.out.1,Hp.out.1,Hp.out.2.1,Hp.out.2.2.1,Hp.out.2.2.2,Hk.out];exact ho
  ·have gh:Hid (ki l i=cn k (dL l (i-1)-1) (i-1) i):=(by show _=_;rw[HE.out,e0,if_neg (by omega),if_pos rfl]);obtain⟨Ez,Zb⟩:=HX.out.2.2 e0;have OS:=ET.out Ez;have jD:=hid (kn.out Ez);have kr:=hid (ua.out Ez _ Zb OS);obtain⟨R,hR⟩:∃R,dL l (i-1)=R:=(⟨_,rfl⟩);rw[hR] at jD kr gh Zb OS;rw[show ((i-1:Nat):Int)=(i:Int)-1 by omega] at jD;rw[<-show IntKind.i64.wrap ((R:Int)-1)=(R:Int)-1 from IntWalk.i64_in _ (by omega)] at kr;rw[e0];have i3:(1:Int)<=i:=(by omega);have i4:(1:Int)<=R:=(by omega);clear pG ua ET kn HE pw e0 hR;go_upto_region 7 with fail;have IS:Hid (∀W,Below w.heap.size w W->∀{W'},Below W.heap.size W W'->W.cell? ⟨w.heap.size,0,none⟩=some (.int .i64 k)->W'.cell? ⟨w.heap.size,0,none⟩=some (.int .i64 k)):=fun W hW W' hb hc=>by
    by_cases hl:w.heap.size<W.heap.size
    ·exact (hb.cell (p:=⟨w.heap.size,0,none⟩) hl).trans hc
    simp[World.cell?,Array.getElem?_eq_none (by omega:W.heap.size<=w.heap.size)] at hc
   refine wp_region_held_drew (S:=fun W'=>Below w.heap.size w W'/\W'.cell? ⟨w.heap.size,0,none⟩=some (.int .i64 k)/\True) (by kernel_rfl) ⟨HB.out.drew,HSc.out.at_ 0,trivial⟩ (fun hHeld=>?_)
   (refine aq 0 ?_;refine aq 1 ?_;refine aq 2 ?_;try simp only[put,sA,sB,sC];refine aq 3 ?_;refine aq 6 ?_;refine aq 7 ?_;try simp only[put,sA,sB,sC];refine aq 8 ?_;try simp only[put,sA,sB,sC])
   refine aQ 4 (fun K hK=>?_);skip;go_simp;go_at_call 145;refine (jD.out _ (And.left hHeld)).mono ?_;rintro e w2 ⟨rfl,rfl⟩
   try go_wp2_with fail
   refine hK.out _ _ (hHeld) (fun hHeld=>?_);clear hK K
   try simp only[put,sA,sB,sC]
   (refine aq 5 ?_;try simp only[put,sA,sB,sC])
   refine aQ 9 (fun K hK=>?_);skip;go_simp;go_at_call 144;have ey:=And.left hHeld;refine (kr.out _).mono ?_;rintro e w3 ⟨a2,c2,rfl,ho2,cv⟩;have lh:Hid (w3.ownsRow w.heap.size 186 7 (.slice a2 (cn k (R-1) (i-1) i).length c2) (cn k (R-1) (i-1) i).length (fp ((cn k (R-1) (i-1) i).map En.z))/\Below w.heap.size w w3):=(⟨jF ho2 ey.size,ey.trans (cv.mono ey.size)⟩);have Aa:=IS.out _ ey cv;clear ho2 cv ey
   try go_wp2_with fail
   refine hK.out _ _ (⟨lh.out.2,Aa (And.left (And.right hHeld)),trivial⟩) (fun hHeld=>?_);clear hK K
   try simp only[put,sA,sB,sC]
   (refine aq 10 ?_;try simp only[put,sA,sB,sC])
   refine wpAnyH_done (by kernel_rfl) ?_ _;clear hHeld;go_wp2;go_ret;rw[gh.out];exact⟨a2,c2,rfl,lh.out.1,lh.out.2⟩
  ·have gh:Hid (ki l i=eB k (i-1) i):=(by show _=_;rw[HE.out,if_pos e0]);have yj:=hid (pG.out (HX.out.2.1 e0));have i3:(1:Int)<=i:=(by have:=HX.out.2.1 e0;omega);rw[e0];clear pG ua ET kn HE pw e0;go_wp2_with fail;refine (yj.out _).mono ?_;rintro e w2 ⟨a2,c2,rfl,ho2,cv⟩;have lh:Hid (w2.ownsRow w.heap.size 186 7 (.slice a2 (eB k (i-1) i).length c2) (eB k (i-1) i).length (fp ((eB k (i-1) i).map En.z))/\Below w.heap.size w w2):=(⟨jF ho2 HB.out.size,HB.out.trans (cv.mono HB.out.size)⟩);clear ho2 cv;go_wp2;go_ret;rw[gh.out];exact⟨a2,c2,rfl,lh.out.1,lh.out.2⟩
  exact absurd HX.out.1 (by rw[e0];omega)
end Go.Proofs.YtiijebameffenaaGreat
