import Derived.Test.YtiijebameffenaaGreatZChk
import Derived.Test.YtiijebameffenaaGreatZQThom
import Derived.Test.YtiijebameffenaaGreatZRefClass
import Derived.Deep.RegionLaw
set_option linter.all false
set_option maxHeartbeats 4000000
set_option maxRecDepth 100000
open Go.Lib (hid)
namespace Go.Proofs.YtiijebameffenaaGreat
open Go.RowKit Go.Maps Go.WideElems Go.ChangeMaps Go.MapKept Go.Proofs.Tryz
open List (append_assoc append_nil length_append range)
open Act (put)
theorem Db(k:Nat)(hk:k<=1000000)(w:World):Calls prog 113 #[.int .i64 (k:Int)] w fun e w'=>e=.returned (.int .i64 (((2*k:Nat)):Int))/\w=w':=by
 go_enter func113,ntmps113;go_wp2;go_ret;exact⟨by show Ending.returned _=_;congr 2,rfl⟩
theorem D3(k:Nat)(hk:k<=1000000)(w:World):Calls prog 114 #[.int .i64 (k:Int)] w fun e w'=>e=.returned (.int .i64 (((2*k+1:Nat)):Int))/\w=w':=by
 go_enter func114,ntmps114;go_wp2;go_ret;exact⟨by show Ending.returned _=_;congr 2,rfl⟩
def um(L:List En)(w:World)(e:Ending)(w':World):Prop:=
 ∃a c,e=.returned (.slice a L.length c)/\w'.ownsRow w.heap.size 186 7 (.slice a L.length c) L.length (fe (L.map En.z))/\Below w.heap.size w w'
def dq(f t:Nat):List Value:=[.int .i64 ((f:Nat):Int),.int .i64 ((t:Nat):Int),.int .u64 0,.int .u64 0,.int .u64 0,.int .u64 0,.bool true]
theorem zl(f t:Nat)(l:List En):fe ((bx f t :: l).map En.z)=dq f t++fe (l.map En.z):=by
 show dc (bx f t).z++_=_;rw[zkx];rfl
theorem Zc(k:Int)(i j r:Nat)(hi:i<=1000000)(hj:j<=1000000)(hr:r<=1000000)(w:World):
  Calls prog 144 #[.int .i64 k,.int .i64 (i:Int),.int .i64 (j:Int),.int .i64 ((2*r:Nat):Int),.int .i64 ((2*r+1:Nat):Int)] w (um (cm k i j r) w):=by
 have Hb:=hid (fun (x:Nat) (hx:x<=1000000) (W:World)=>Db x hx W);have He:=hid (fun (x:Nat) (hx:x<=1000000) (W:World)=>D3 x hx W);obtain⟨F,hF⟩:∃F:Nat,2*r=F:=⟨_,rfl⟩
 obtain⟨T,hT⟩:∃T:Nat,2*r+1=T:=⟨_,rfl⟩
 obtain⟨bi,As⟩:∃x:Nat,2*i=x:=⟨_,rfl⟩
 obtain⟨ei,AG⟩:∃x:Nat,2*i+1=x:=⟨_,rfl⟩
 obtain⟨bj,AO⟩:∃x:Nat,2*j=x:=⟨_,rfl⟩
 obtain⟨ej,Bl⟩:∃x:Nat,2*j+1=x:=⟨_,rfl⟩
 have B5:=hid (fun (W:World)=>Db i hi W);have Bv:=hid (fun (W:World)=>D3 i hi W);have Df:=hid (fun (W:World)=>Db j hj W);have yo:=hid (fun (W:World)=>D3 j hj W);have HL:Hid (cm k i j r=if k=2 then [bx F bi,bx ei bj,bx ej T] else [bx F bi,bx ei T,bx F bj,bx ej T]):=by
  show _=_;unfold cm;rw[hT,AG,Bl,hF,As,AO]
 rw[As] at B5;rw[AG] at Bv;rw[AO] at Df;rw[Bl] at yo;rw[hT,hF];clear hF hT As AG AO Bl Hb He;by_cases h2:k=2
 ·have sr:Hid (cm k i j r=[bx F bi,bx ei bj,bx ej T]):=by show _=_;rw[HL.out,if_pos h2]
  have h1:((k:Int) == 2)=true:=by rw[h2];rfl
  clear h2 HL;go_enter func144,ntmps144;go_wp2_with fail;refine (B5.out w).mono ?_;rintro e w1 ⟨rfl,rfl⟩;go_wp2_with fail;refine (ue F bi w).mono ?_;rintro e w1 ⟨rfl,k1⟩;have H1:=hid k1;clear k1;go_wp2_with fail;refine (Bv.out w1).mono ?_;rintro e w1 ⟨rfl,rfl⟩;go_wp2_with fail;refine (Df.out _).mono ?_;rintro e w2 ⟨rfl,rfl⟩;go_wp2_with fail;refine (ue ei bj _).mono ?_;rintro e w3 ⟨rfl,k3⟩;have H3:=hid (H1.out.trans (k3.mono H1.out.size));clear k3;go_wp2_with fail;refine (yo.out w3).mono ?_;rintro e w4 ⟨rfl,rfl⟩;go_wp2_with fail;refine (ue ej T _).mono ?_;rintro e w5 ⟨rfl,k5⟩;have H5:=hid (H3.out.trans (k5.mono H3.out.size));clear k5;go_wp2;go_ret;have ho:=Am w5 w.heap.size 186 7 ((dq F bi++(dq ei bj++dq ej T)).toArray) 3 rfl H5.out.size (by unfold maxLen;omega);rw[sr.out];refine⟨some ⟨w5.heap.size,0,none⟩,3,rfl,?_,H5.out.trans ((al w5 _).mono H5.out.size)⟩;rw[zl,zl,zl];simpa [dq,fe] using ho
 have sr:Hid (cm k i j r=[bx F bi,bx ei T,bx F bj,bx ej T]):=by show _=_;rw[HL.out,if_neg h2]
 have h1:((k:Int) == 2)=false:=by rw[beq_eq_false_iff_ne];exact h2
 clear h2 HL;go_enter func144,ntmps144;go_wp2_with fail;refine (B5.out w).mono ?_;rintro e w1 ⟨rfl,rfl⟩;go_wp2_with fail;refine (ue F bi w).mono ?_;rintro e w1 ⟨rfl,k1⟩;have H1:=hid k1;clear k1;go_wp2_with fail;refine (Bv.out w1).mono ?_;rintro e w1 ⟨rfl,rfl⟩;go_wp2_with fail;refine (ue ei T _).mono ?_;rintro e w3 ⟨rfl,k3⟩;have H3:=hid (H1.out.trans (k3.mono H1.out.size));clear k3;go_wp2_with fail;refine (Df.out w3).mono ?_;rintro e w4 ⟨rfl,rfl⟩;go_wp2_with fail;refine (ue F bj _).mono ?_;rintro e w5 ⟨rfl,k5⟩;have H5:=hid (H3.out.trans (k5.mono H3.out.size));clear k5;go_wp2_with fail;refine (yo.out w5).mono ?_;rintro e w6 ⟨rfl,rfl⟩;go_wp2_with fail;refine (ue ej T _).mono ?_;rintro e w7 ⟨rfl,k7⟩;have H7:=hid (H5.out.trans (k7.mono H5.out.size));clear k7;go_wp2;go_ret;have ho:=Am w7 w.heap.size 186 7 ((dq F bi++(dq ei T++(dq F bj++dq ej T))).toArray) 4 rfl H7.out.size (by unfold maxLen;omega);rw[sr.out];refine⟨some ⟨w7.heap.size,0,none⟩,4,rfl,?_,H7.out.trans ((al w7 _).mono H7.out.size)⟩;rw[zl,zl,zl,zl];simpa [dq,fe] using ho
theorem St.sD{w:World}{t g:Nat}{cs:Array Value}(h:St w t g cs):∀j v,cs.toList[j]?=some v->w.cell? ((⟨g,0,none⟩:Addr).add j)=some v:=fun j v hj=>by
 have e:(⟨g,0,none⟩:Addr).add j=⟨g,j,none⟩:=by unfold Addr.add;split <;> simp_all
 rw[e,h.at_,<-Array.getElem?_toList,hj]
theorem YG(k:Int)(j r:Nat)(hj:j<=1000000)(hr:r<=1000000)(w:World):
  Calls prog 143 #[.int .i64 k,.int .i64 (j:Int),.int .i64 ((2*r:Nat):Int),.int .i64 ((2*r+1:Nat):Int)] w (um (eD k j r) w):=by
 obtain⟨F,hF⟩:∃F:Nat,2*r=F:=⟨_,rfl⟩
 obtain⟨T,hT⟩:∃T:Nat,2*r+1=T:=⟨_,rfl⟩
 obtain⟨bj,AO⟩:∃x:Nat,2*j=x:=⟨_,rfl⟩
 obtain⟨ej,Bl⟩:∃x:Nat,2*j+1=x:=⟨_,rfl⟩
 have Df:=hid (fun (W:World)=>Db j hj W);have yo:=hid (fun (W:World)=>D3 j hj W);have Bw:=hid (fun (W:World)=>Db j hj W);have HL:Hid (eD k j r=[bx F bj,bx ej T]++((if k=5 then [] else [bx F T])++(if k=6 then [] else [bx ej bj]))):=by
  show _=_;unfold eD;rw[hT,Bl,hF,AO]
 rw[AO] at Df;rw[AO] at Bw;rw[Bl] at yo;rw[hT,hF];clear hF hT AO Bl;obtain⟨i0,hi,dF,cY,cO⟩:=info_parts oJ;go_enter func143,ntmps143;go_wp2_with fail;refine (Df.out w).mono ?_;rintro e w1 ⟨rfl,rfl⟩;go_wp2_with fail;refine (ue F bj w).mono ?_;rintro e w1 ⟨rfl,k1⟩;have H1:=hid k1;clear k1;go_wp2_with fail;refine (yo.out w1).mono ?_;rintro e w2 ⟨rfl,rfl⟩;go_wp2_with fail;refine (ue ej T _).mono ?_;rintro e w2 ⟨rfl,k2⟩;have HO:Hid (Below w.heap.size w (w2.alloc (.cells #[.int .i64 (F:Int),.int .i64 (bj:Int),.int .u64 0,.int .u64 0,.int .u64 0,.int .u64 0,.bool true,.int .i64 (ej:Int),.int .i64 (T:Int),.int .u64 0,.int .u64 0,.int .u64 0,.int .u64 0,.bool true] 186))/\(w2.alloc (.cells #[.int .i64 (F:Int),.int .i64 (bj:Int),.int .u64 0,.int .u64 0,.int .u64 0,.int .u64 0,.bool true,.int .i64 (ej:Int),.int .i64 (T:Int),.int .u64 0,.int .u64 0,.int .u64 0,.int .u64 0,.bool true] 186)).ownsRow w.heap.size 186 7 (.slice (some ⟨w2.heap.size,0,none⟩) 2 2) 2 (fe (([bx F bj,bx ej T]:List En).map En.z))):=by
  have h1:=H1.out.trans (k2.mono H1.out.size);refine⟨h1.trans ((al w2 _).mono h1.size),?_⟩;have ho:=Am w2 w.heap.size 186 7 ((dq F bj++dq ej T).toArray) 2 rfl h1.size (by unfold maxLen;omega);rw[zl,zl];simpa [dq,fe] using ho
 clear k2 H1;go_upto_region 2 with fail;generalize w2.alloc (.cells #[.int .i64 (F:Int),.int .i64 (bj:Int),.int .u64 0,.int .u64 0,.int .u64 0,.int .u64 0,.bool true,.int .i64 (ej:Int),.int .i64 (T:Int),.int .u64 0,.int .u64 0,.int .u64 0,.int .u64 0,.bool true] 186)=W3 at HO⊢;obtain⟨g,hg⟩:∃g,w2.heap.size=g:=⟨_,rfl⟩
 rw[hg] at HO;rw[hg];clear hg Df;by_cases h5:k=5
 ·have sr:Hid (eD k j r=[bx F bj,bx ej T,bx ej bj]):=by show _=_;rw[HL.out,if_pos h5,if_neg (by omega)];rfl
  have q5:((k:Int) != 5)=false:=by rw[h5];rfl
  have q6:((k:Int) != 6)=true:=by rw[h5];rfl
  clear h5 HL;go_wp2_with fail;refine (yo.out W3).mono ?_;rintro e w5 ⟨rfl,rfl⟩;go_wp2_with fail;refine (Bw.out W3).mono ?_;rintro e w5 ⟨rfl,rfl⟩;go_wp2_with fail;refine (ue ej bj W3).mono ?_;rintro e x3 ⟨rfl,kx⟩;have eh:Hid (Below w.heap.size w x3/\x3.ownsRow w.heap.size 186 7 (.slice (some ⟨g,0,none⟩) 2 2) 2 (fe (([bx F bj,bx ej T]:List En).map En.z))):=⟨HO.out.1.trans (kx.mono HO.out.1.size),dr HO.out.2 kx⟩
  clear kx;have hO:=eh.out.2;go_wp2_with (at_builtin;refine wpList_append_own_at _ rfl _ _ 117 rfl w.heap.size 186 i0 (.agg #[.int .i64 0,.int .i64 0,.int .u64 0,.int .u64 0,.int .u64 0,.int .u64 0,.bool false]) 7 56 underlying117 hi dF cY cO rfl (by decide) _ _ _ rfl (hO.alloc _) ⟨x3.heap.size,0,none⟩ 1 1 (dq ej bj) rfl rfl (fun j u hj=>(St.new x3 186 (dq ej bj).toArray).sD j u (by simpa using hj)) ?d2 ?d3 ?d4 ?d5 ?_)
  case d2=>intro u hu;simp[dq] at hu;rcases hu with rfl|rfl|rfl|rfl <;> rfl
  case d3=>unfold maxLen;omega
  case d4=>omega
  case d5=>have:=eh.out.1.size;simp at this⊢;omega
  intro v3 y3 aQ da _ _;obtain⟨a3,c3,rfl⟩:=bE aQ;have H3:Hid (Below w.heap.size w y3/\y3.ownsRow w.heap.size 186 7 (.slice a3 3 c3) 3 (fe (([bx F bj,bx ej T,bx ej bj]:List En).map En.z))):=by
   have h1:=eh.out.1.trans ((al x3 (.cells (dq ej bj).toArray 186)).mono eh.out.1.size);refine⟨fA h1 (hO.alloc _) h1.size da,?_⟩;have h2:fe (([bx F bj,bx ej T,bx ej bj]:List En).map En.z)=fe (([bx F bj,bx ej T]:List En).map En.z)++dq ej bj:=(by simp[fe,dc,En.z,bx,zg,dq]);rw[h2];exact aQ
  clear aQ da hO;go_wp2;go_ret;rw[sr.out];exact⟨a3,c3,rfl,H3.out.2,H3.out.1⟩
 by_cases h6:k=6
 ·have sr:Hid (eD k j r=[bx F bj,bx ej T,bx F T]):=by show _=_;rw[HL.out,if_neg h5,if_pos h6];rfl
  have q5:((k:Int) != 5)=true:=by rw[h6];rfl
  have q6:((k:Int) != 6)=false:=by rw[h6];rfl
  clear h5 h6 HL yo;go_wp2_with fail;refine (ue F T W3).mono ?_;rintro e x3 ⟨rfl,kx⟩;have eh:Hid (Below w.heap.size w x3/\x3.ownsRow w.heap.size 186 7 (.slice (some ⟨g,0,none⟩) 2 2) 2 (fe (([bx F bj,bx ej T]:List En).map En.z))):=⟨HO.out.1.trans (kx.mono HO.out.1.size),dr HO.out.2 kx⟩
  clear kx;have hO:=eh.out.2;go_wp2_with (at_builtin;refine wpList_append_own_at _ rfl _ _ 117 rfl w.heap.size 186 i0 (.agg #[.int .i64 0,.int .i64 0,.int .u64 0,.int .u64 0,.int .u64 0,.int .u64 0,.bool false]) 7 56 underlying117 hi dF cY cO rfl (by decide) _ _ _ rfl (hO.alloc _) ⟨x3.heap.size,0,none⟩ 1 1 (dq F T) rfl rfl (fun j u hj=>(St.new x3 186 (dq F T).toArray).sD j u (by simpa using hj)) ?d2 ?d3 ?d4 ?d5 ?_)
  case d2=>intro u hu;simp[dq] at hu;rcases hu with rfl|rfl|rfl|rfl <;> rfl
  case d3=>unfold maxLen;omega
  case d4=>omega
  case d5=>have:=eh.out.1.size;simp at this⊢;omega
  intro v3 y3 aQ da _ _;obtain⟨a3,c3,rfl⟩:=bE aQ;have H3:Hid (Below w.heap.size w y3/\y3.ownsRow w.heap.size 186 7 (.slice a3 3 c3) 3 (fe (([bx F bj,bx ej T,bx F T]:List En).map En.z))):=by
   have h1:=eh.out.1.trans ((al x3 (.cells (dq F T).toArray 186)).mono eh.out.1.size);refine⟨fA h1 (hO.alloc _) h1.size da,?_⟩;have h2:fe (([bx F bj,bx ej T,bx F T]:List En).map En.z)=fe (([bx F bj,bx ej T]:List En).map En.z)++dq F T:=(by simp[fe,dc,En.z,bx,zg,dq]);rw[h2];exact aQ
  clear aQ da hO;go_wp2;go_ret;rw[sr.out];exact⟨a3,c3,rfl,H3.out.2,H3.out.1⟩
 have sr:Hid (eD k j r=[bx F bj,bx ej T,bx F T,bx ej bj]):=by show _=_;rw[HL.out,if_neg h5,if_neg h6];rfl
 have q5:((k:Int) != 5)=true:=by rw[bne_iff_ne];exact h5
 have q6:((k:Int) != 6)=true:=by rw[bne_iff_ne];exact h6
 clear h5 h6 HL;go_wp2_with fail;refine (ue F T W3).mono ?_;rintro e x3 ⟨rfl,kx⟩;have eh:Hid (Below w.heap.size w x3/\x3.ownsRow w.heap.size 186 7 (.slice (some ⟨g,0,none⟩) 2 2) 2 (fe (([bx F bj,bx ej T]:List En).map En.z))):=⟨HO.out.1.trans (kx.mono HO.out.1.size),dr HO.out.2 kx⟩
 clear kx;have hO:=eh.out.2;go_wp2_with (at_builtin;refine wpList_append_own_at _ rfl _ _ 117 rfl w.heap.size 186 i0 (.agg #[.int .i64 0,.int .i64 0,.int .u64 0,.int .u64 0,.int .u64 0,.int .u64 0,.bool false]) 7 56 underlying117 hi dF cY cO rfl (by decide) _ _ _ rfl (hO.alloc _) ⟨x3.heap.size,0,none⟩ 1 1 (dq F T) rfl rfl (fun j u hj=>(St.new x3 186 (dq F T).toArray).sD j u (by simpa using hj)) ?d2 ?d3 ?d4 ?d5 ?_)
 case d2=>intro u hu;simp[dq] at hu;rcases hu with rfl|rfl|rfl|rfl <;> rfl
 case d3=>unfold maxLen;omega
 case d4=>omega
 case d5=>have:=eh.out.1.size;simp at this⊢;omega
 intro v3 y3 aQ da _ _;obtain⟨a3,c3,rfl⟩:=bE aQ;have H3:Hid (Below w.heap.size w y3/\y3.ownsRow w.heap.size 186 7 (.slice a3 3 c3) 3 (fe (([bx F bj,bx ej T,bx F T]:List En).map En.z))):=by
  have h1:=eh.out.1.trans ((al x3 (.cells (dq F T).toArray 186)).mono eh.out.1.size);refine⟨fA h1 (hO.alloc _) h1.size da,?_⟩;have h2:fe (([bx F bj,bx ej T,bx F T]:List En).map En.z)=fe (([bx F bj,bx ej T]:List En).map En.z)++dq F T:=by simp[fe,dc,En.z,bx,zg,dq]
  rw[h2];exact aQ
 clear aQ da hO;go_wp2_with fail;refine (yo.out y3).mono ?_;rintro e w5 ⟨rfl,rfl⟩;go_wp2_with fail;refine (Bw.out y3).mono ?_;rintro e w5 ⟨rfl,rfl⟩;go_wp2_with fail;refine (ue ej bj y3).mono ?_;rintro e x4 ⟨rfl,kx⟩;have lG:Hid (Below w.heap.size w x4/\x4.ownsRow w.heap.size 186 7 (.slice a3 3 c3) 3 (fe (([bx F bj,bx ej T,bx F T]:List En).map En.z))):=⟨H3.out.1.trans (kx.mono H3.out.1.size),dr H3.out.2 kx⟩
 clear kx;have hO:=lG.out.2;go_wp2_with (at_builtin;refine wpList_append_own_at _ rfl _ _ 117 rfl w.heap.size 186 i0 (.agg #[.int .i64 0,.int .i64 0,.int .u64 0,.int .u64 0,.int .u64 0,.int .u64 0,.bool false]) 7 56 underlying117 hi dF cY cO rfl (by decide) _ _ _ rfl (hO.alloc _) ⟨x4.heap.size,0,none⟩ 1 1 (dq ej bj) rfl rfl (fun j u hj=>(St.new x4 186 (dq ej bj).toArray).sD j u (by simpa using hj)) ?d2 ?d3 ?d4 ?d5 ?_)
 case d2=>intro u hu;simp[dq] at hu;rcases hu with rfl|rfl|rfl|rfl <;> rfl
 case d3=>unfold maxLen;omega
 case d4=>omega
 case d5=>have:=lG.out.1.size;simp at this⊢;omega
 intro v4 y4 aQ da _ _;obtain⟨a4,c4,rfl⟩:=bE aQ;have H4:Hid (Below w.heap.size w y4/\y4.ownsRow w.heap.size 186 7 (.slice a4 4 c4) 4 (fe (([bx F bj,bx ej T,bx F T,bx ej bj]:List En).map En.z))):=by
  have h1:=lG.out.1.trans ((al x4 (.cells (dq ej bj).toArray 186)).mono lG.out.1.size);refine⟨fA h1 (hO.alloc _) h1.size da,?_⟩;have h2:fe (([bx F bj,bx ej T,bx F T,bx ej bj]:List En).map En.z)=fe (([bx F bj,bx ej T,bx F T]:List En).map En.z)++dq ej bj:=by simp[fe,dc,En.z,bx,zg,dq]
  rw[h2];exact aQ
 clear aQ da hO;go_wp2;go_ret;rw[sr.out];exact⟨a4,c4,rfl,H4.out.2,H4.out.1⟩
def qL:Pc:=⟨0,fun _=>false⟩
def jG(l:List Pc)(i:Nat):List En:=
 if aI (l.getD i qL).k=1 then eD (l.getD i qL).k (i-1) i else if aI (l.getD i qL).k=2 then cm (l.getD i qL).k (dM l (i-1)-1) (i-1) i else fK (l.getD i qL) i
theorem Lc(s v:List Pc)(x:Pc):(s++x :: v).getD s.length qL=x:=by simp[List.getD_eq_getElem?_getD]
theorem zdV{α β:Type}{l:List α}{f g:α->List β}(h:∀x∈l,f x=g x):l.flatMap f=l.flatMap g:=by
 induction l with
 | nil=>rfl
 | cons a l ih=>simp only[List.flatMap_cons];rw[h a List.mem_cons_self,ih (fun x hx=>h x (List.mem_cons_of_mem _ hx))]
theorem Nh{β:Type}(n m:Nat)(f:Nat->List β):(range (n+m)).flatMap f=(range n).flatMap f++(range m).flatMap (fun j=>f (n+j)):=by
 rw[List.range_add,List.flatMap_append];congr 1
 induction m with
 | zero=>rfl
 | succ m ih=>rw[List.range_succ,List.map_append,List.flatMap_append,List.flatMap_append,ih];rfl
theorem znZ(t:Rx)(hw:t.wf):∀(s u:List Pc),(range t.flat.length).flatMap (fun j=>jG (s++(t.flat++u)) (s.length+j))=fw t s.length:=by
 induction t with
 | leaf x=>
  intro s u;have h0:aI x.k=0:=hw.1;show (range 1).flatMap _=_;have e:(s++((Rx.leaf x).flat++u)).getD s.length qL=x:=Lc s u x;show jG (s++((Rx.leaf x).flat++u)) (s.length+0)++[]=fK x s.length;rw[append_nil,Nat.add_zero];unfold jG;rw[e,h0,if_neg (by omega),if_neg (by omega)]
 | un x a ih=>
  intro s u;have h1:aI x.k=1:=hw.1;have hl:(Rx.un x a).flat.length=a.flat.length+1:=by simp[Rx.flat]
  have hf:s++((Rx.un x a).flat++u)=s++(a.flat++(x :: u)):=by simp[Rx.flat]
  rw[hl,hf,Nh,ih hw.2.2 s (x :: u)];show fw a s.length++(jG (s++(a.flat++x :: u)) (s.length+(a.flat.length+0))++[])=_;have e:(s++(a.flat++x :: u)).getD (s.length+a.flat.length) qL=x:=by
   have:=Lc (s++a.flat) u x;rwa [length_append,append_assoc] at this
  rw[append_nil,Nat.add_zero];show _=fw a s.length++eD x.k (s.length+a.flat.length-1) (s.length+a.flat.length);congr 1;unfold jG;rw[e,if_pos h1]
 | bin x a b ih jh=>
  intro s u;have h2:aI x.k=2:=hw.1;have hp:=a.bY;have hq:=b.bY;have hl:(Rx.bin x a b).flat.length=a.flat.length+(b.flat.length+1):=by simp[Rx.flat]
  have hf:s++((Rx.bin x a b).flat++u)=s++(a.flat++(b.flat++x :: u)):=by simp[Rx.flat]
  rw[hl,hf,Nh,ih hw.2.2.1 s (b.flat++x :: u),Nh];have hb:=jh hw.2.2.2 (s++a.flat) (x :: u);rw[append_assoc,length_append] at hb;have bZ:(range b.flat.length).flatMap (fun j=>jG (s++(a.flat++(b.flat++x :: u))) (s.length+(a.flat.length+j)))=fw b (s.length+a.flat.length):=by
   rw[<-hb];refine(zdV fun j _=>?_);rw[Nat.add_assoc]
  rw[bZ];show fw a s.length++(fw b (s.length+a.flat.length)++(jG (s++(a.flat++(b.flat++x :: u))) (s.length+(a.flat.length+(b.flat.length+0)))++[]))=fw a s.length++(fw b (s.length+a.flat.length)++cm x.k (s.length+a.flat.length-1) (s.length+a.flat.length+b.flat.length-1) (s.length+a.flat.length+b.flat.length));rw[append_nil,Nat.add_zero];congr 2;have e:(s++(a.flat++(b.flat++x :: u))).getD (s.length+(a.flat.length+b.flat.length)) qL=x:=by
   simp
  have Qj:dM (s++(a.flat++(b.flat++x :: u))) (s.length+(a.flat.length+b.flat.length)-1)=s.length+a.flat.length:=by
   unfold dM;have et:(s++(a.flat++(b.flat++x :: u))).take (s.length+(a.flat.length+b.flat.length)-1+1)=(s++a.flat)++b.flat:=by
    rw[show s.length+(a.flat.length+b.flat.length)-1+1=((s++a.flat)++b.flat).length by simp;omega,show s++(a.flat++(b.flat++x :: u))=((s++a.flat)++b.flat)++(x :: u) by simp,List.take_left'];rfl
   rw[et,List.reverse_append,Sa b hw.2.2.2 _ 1 (by omega),if_pos rfl,List.length_reverse,length_append]
  unfold jG;rw[e,if_neg (by omega),if_pos h2,Qj];congr 1 <;> omega
theorem ON(t:Rx)(hw:t.wf):(range t.flat.length).flatMap (jG t.flat)=fw t 0:=by
 have:=znZ t hw [] [];simpa using this
def Co(l:List Pc)(i:Nat):Prop:=(aI (l.getD i qL).k=1->1<=i)/\(aI (l.getD i qL).k=2->1<=i/\1<=dM l (i-1))
theorem zl1(t:Rx)(hw:t.wf):∀(s u:List Pc) (j:Nat),j<t.flat.length->Co (s++(t.flat++u)) (s.length+j):=by
 induction t with
 | leaf x=>
  intro s u j hj;have h0:aI x.k=0:=hw.1;have hj0:j=0:=by simpa [Rx.flat] using hj
  subst hj0;have e:(s++((Rx.leaf x).flat++u)).getD (s.length+0) qL=x:=Lc s u x;unfold Co;rw[e,h0];exact⟨fun h=>absurd h (by omega),fun h=>absurd h (by omega)⟩
 | un x a ih=>
  intro s u j hj;have h1:aI x.k=1:=hw.1;have hp:=a.bY;have hl:(Rx.un x a).flat.length=a.flat.length+1:=by simp[Rx.flat]
  have hf:s++((Rx.un x a).flat++u)=s++(a.flat++(x :: u)):=by simp[Rx.flat]
  rw[hf];by_cases Nk:j<a.flat.length
  ·exact ih hw.2.2 s (x :: u) j Nk
  have OC:j=a.flat.length:=by omega
  subst OC;have e:(s++(a.flat++x :: u)).getD (s.length+a.flat.length) qL=x:=by
   have:=Lc (s++a.flat) u x;rwa [length_append,append_assoc] at this
  unfold Co;rw[e,h1];exact⟨fun _=>by omega,fun h=>absurd h (by omega)⟩
 | bin x a b ih jh=>
  intro s u j hj;have h2:aI x.k=2:=hw.1;have hp:=a.bY;have hq:=b.bY;have hl:(Rx.bin x a b).flat.length=a.flat.length+(b.flat.length+1):=by simp[Rx.flat]
  have hf:s++((Rx.bin x a b).flat++u)=s++(a.flat++(b.flat++x :: u)):=by simp[Rx.flat]
  rw[hf];by_cases Nk:j<a.flat.length
  ·exact ih hw.2.2.1 s (b.flat++x :: u) j Nk
  by_cases hjb:j<a.flat.length+b.flat.length
  ·have:=jh hw.2.2.2 (s++a.flat) (x :: u) (j-a.flat.length) (by omega);rw[append_assoc,length_append,show s.length+a.flat.length+(j-a.flat.length)=s.length+j by omega] at this;exact this
  have OC:j=a.flat.length+b.flat.length:=by omega
  subst OC;have e:(s++(a.flat++(b.flat++x :: u))).getD (s.length+(a.flat.length+b.flat.length)) qL=x:=by
   simp
  have Qj:dM (s++(a.flat++(b.flat++x :: u))) (s.length+(a.flat.length+b.flat.length)-1)=s.length+a.flat.length:=by
   unfold dM;have et:(s++(a.flat++(b.flat++x :: u))).take (s.length+(a.flat.length+b.flat.length)-1+1)=(s++a.flat)++b.flat:=by
    rw[show s.length+(a.flat.length+b.flat.length)-1+1=((s++a.flat)++b.flat).length by simp;omega,show s++(a.flat++(b.flat++x :: u))=((s++a.flat)++b.flat)++(x :: u) by simp,List.take_left'];rfl
   rw[et,List.reverse_append,Sa b hw.2.2.2 _ 1 (by omega),if_pos rfl,List.length_reverse,length_append]
  unfold Co;rw[e,h2,Qj];exact⟨fun h=>absurd h (by omega),fun _=>by omega⟩
theorem zkb(t:Rx)(hw:t.wf)(j:Nat)(hj:j<t.flat.length):Co t.flat j:=by
 have:=zl1 t hw [] [] j hj;simpa using this
theorem zl2(x:Pc)(i:Nat)(hk:x.k=0\/x.k=1):fe ((fK x i).map En.z)=[.int .i64 ((2*i:Nat):Int),.int .i64 ((2*i+1:Nat):Int),.int .u64 ((wd x.p 0:Nat):Int),.int .u64 ((wd x.p 1:Nat):Int),.int .u64 ((wd x.p 2:Nat):Int),.int .u64 ((wd x.p 3:Nat):Int),.bool (x.k == 0)]:=by
 have h:decide (x.k=0)=(x.k == 0):=by rcases hk with h|h <;> rw[h] <;> rfl
 simp[fe,dc,En.z,fK,h]
theorem zl3:∀(l:List Pc) (m:Int),jv l m<=l.length:=by
 intro l
 induction l with
 | nil=>intro m;exact Nat.le_refl _
 | cons x r ih=>
  intro m;unfold jv;split
  ·simp
  have:=ih (m+(aI x.k-1));simp;omega
theorem zkc(l:List Pc)(j:Nat):dM l j<=j+1:=by
 unfold dM;have:=zl3 (l.take (j+1)).reverse 1;simp at this;omega
theorem zgG(l:List Pc)(a:Option Addr)(n cap:Nat)(w:World)(hL:mE w a l)(hn:l.length=n)(ka:n<=100000)(i:Nat)(hi:i<n)(hv:0<=aI (l.getD i qL).k)(Lq:Co l i):
  Calls prog 115 #[.slice a n cap,.int .i64 (i:Int)] w (um (jG l i) w):=by
 obtain⟨g,off,rfl,hg,c0,c1,c2,c3,c4⟩:=hL.get i (by omega);have hx:l[i]'(by omega)=l.getD i qL:=by simp[List.getD_eq_getElem?_getD,show i<l.length by omega]
 rw[hx] at c0 c1 c2 c3 c4;obtain⟨x,GW⟩:∃x,l.getD i qL=x:=⟨_,rfl⟩
 have HE:Hid (jG l i=if aI x.k=1 then eD x.k (i-1) i else if aI x.k=2 then cm x.k (dM l (i-1)-1) (i-1) i else fK x i):=by
  show _=_;unfold jG;rw[GW]
 unfold Co at Lq;rw[GW] at c0 c1 c2 c3 c4 hv Lq;have jT:Hid (1<=i->∀W,Below w.heap.size w W->Calls prog 145 #[.slice (some ⟨g,off,none⟩) n cap,.int .i64 ((i-1:Nat):Int)] W fun e w'=>e=.returned (.int .i64 ((dM l (i-1):Nat):Int))/\W=w'):=fun h W hW=>zi2 l _ n cap W (hL.below hW) hn (by omega) (i-1) (by omega)
 have B5:=hid (fun (W:World)=>Db i (by omega) W);have Bv:=hid (fun (W:World)=>D3 i (by omega) W);have HX:=hid (Zz hv Lq);have pk:Hid (1<=i->∀W,Calls prog 143 #[.int .i64 x.k,.int .i64 ((i:Int)-1),.int .i64 ((2*i:Nat):Int),.int .i64 ((2*i+1:Nat):Int)] W (um (eD x.k (i-1) i) W)):=fun h W=>by
  have:=YG x.k (i-1) i (by omega) (by omega) W;rwa [show ((i-1:Nat):Int)=(i:Int)-1 by omega] at this
 have tk:Hid (1<=i->∀R:Nat,1<=R->R<=1000000->∀W,Calls prog 144 #[.int .i64 x.k,.int .i64 ((R:Int)-1),.int .i64 ((i:Int)-1),.int .i64 ((2*i:Nat):Int),.int .i64 ((2*i+1:Nat):Int)] W (um (cm x.k (R-1) (i-1) i) W)):=fun h R hR OZ W=>by
  have:=Zc x.k (R-1) (i-1) i (by omega) (by omega) (by omega) W;rwa [show ((i-1:Nat):Int)=(i:Int)-1 by omega,show ((R-1:Nat):Int)=(R:Int)-1 by omega] at this
 have EU:Hid (1<=i->dM l (i-1)<=1000000):=fun h=>by
  have:=zkc l (i-1);omega
 obtain⟨bi,As⟩:∃b:Nat,2*i=b:=⟨_,rfl⟩
 obtain⟨ei,AG⟩:∃b:Nat,2*i+1=b:=⟨_,rfl⟩
 have RX:=hid (Zz As AG);rw[As] at B5;rw[AG] at Bv;rw[AG,As] at pk tk;have i1:(i:Int)<n:=by omega
 clear hL hn hx GW hv Lq As AG;obtain⟨k,hk⟩:∃k,x.k=k:=⟨_,rfl⟩
 have Hk:=hid hk;rw[hk] at c0 pk tk HE HX;obtain⟨p0,EH⟩:∃p0:Nat,wd x.p 0=p0:=⟨_,rfl⟩
 obtain⟨p1,fH⟩:∃p1:Nat,wd x.p 1=p1:=⟨_,rfl⟩
 obtain⟨p2,fp⟩:∃p2:Nat,wd x.p 2=p2:=⟨_,rfl⟩
 obtain⟨p3,gQ⟩:∃p3:Nat,wd x.p 3=p3:=⟨_,rfl⟩
 have Hp:=hid (Zz EH (Zz fH (Zz fp gQ)));rw[EH] at c1;rw[fH] at c2;rw[fp] at c3;rw[gQ] at c4;clear hk EH fH fp gQ;go_enter func115,ntmps115;go_wp2_with fail
 go_cut [5,6,7] from 9 to 17 (fun v5 v6 v7 wx=>v5=.pointer (some ⟨w.heap.size,0,none⟩)/\v6=.int .i64 (bi:Int)/\v7=.int .i64 (ei:Int)/\St wx 148 w.heap.size #[.int .i64 k,.int .u64 (p0:Int),.int .u64 (p1:Int),.int .u64 (p2:Int),.int .u64 (p3:Int)]/\Below w.heap.size w wx)
 case first=>
  go_region_with (first
   | (go_at_call 113;refine (B5.out _).mono ?_;rintro e w' ⟨rfl,rfl⟩)
   | (go_at_call 114;refine (Bv.out _).mono ?_;rintro e w' ⟨rfl,rfl⟩))
  all_goals
   go_wp2_with fail
   go_meet
   exact⟨rfl,rfl,rfl,St.new _ _ _,((Below.refl _ _).alloc (Nat.le_refl _) _).drew⟩
 case rest=>
  obtain⟨rfl,rfl,rfl,hS,hB⟩:=hcut;have h0:=hS.at_ 0;have h1:=hS.at_ 1;have h2:=hS.at_ 2;have h3:=hS.at_ 3;have h4:=hS.at_ 4;simp only[List.getElem?_toArray,List.getElem?_cons_succ,List.getElem?_cons_zero] at h0 h1 h2 h3 h4;have HB:=hid hB;have Yz:=hid hS;clear hS hB c0 c1 c2 c3 c4 B5 Bv;go_wp2_with fail;refine (QD k _).mono ?_;rintro e w2 ⟨rfl,rfl⟩;rcases Aq k with ⟨e0,pC⟩|⟨e0,pC⟩|⟨e0,pC⟩|⟨e0,_⟩
  ·have jY:Hid (jG l i=fK x i):=(by show _=_;rw[HE.out,e0,if_neg (by omega),if_neg (by omega)]);have Hlg:=hid (zl2 x i (by rw[Hk.out];exact pC));rw[e0];clear pk tk EU jT HE pC e0;go_wp2;go_ret;have ho:=Am wc w.heap.size 186 7 #[.int .i64 (bi:Int),.int .i64 (ei:Int),.int .u64 (p0:Int),.int .u64 (p1:Int),.int .u64 (p2:Int),.int .u64 (p3:Int),.bool (k == 0)] 1 rfl HB.out.size (by unfold maxLen;omega);rw[jY.out];refine⟨some ⟨wc.heap.size,0,none⟩,1,rfl,?_,HB.out.trans ((al wc _).mono HB.out.size)⟩;rw[Hlg.out,RX.out.2,RX.out.1,Hp.out.1,Hp.out.2.1,Hp.out.2.2.1,Hp.out.2.2.2,Hk.out];exact ho
  ·have jY:Hid (jG l i=cm k (dM l (i-1)-1) (i-1) i):=(by show _=_;rw[HE.out,e0,if_neg (by omega),if_pos rfl]);obtain⟨Ex,SG⟩:=HX.out.2.2 e0;have OZ:=EU.out Ex;have gq:=hid (jT.out Ex);have jW:=hid (tk.out Ex _ SG OZ);obtain⟨R,hR⟩:∃R,dM l (i-1)=R:=(⟨_,rfl⟩);rw[hR] at gq jW jY SG OZ;rw[show ((i-1:Nat):Int)=(i:Int)-1 by omega] at gq;rw[<-show IntKind.i64.wrap ((R:Int)-1)=(R:Int)-1 from IntWalk.i64_in _ (by omega)] at jW;rw[e0];have i3:(1:Int)<=i:=(by omega);have i4:(1:Int)<=R:=(by omega);clear pk tk EU jT HE pC e0 hR;go_upto_region 7 with fail;have G5:Hid (∀W,Below w.heap.size w W->∀{W'},Below W.heap.size W W'->W.cell? ⟨w.heap.size,0,none⟩=some (.int .i64 k)->W'.cell? ⟨w.heap.size,0,none⟩=some (.int .i64 k)):=fun W hW W' hb hc=>by
    by_cases hl:w.heap.size<W.heap.size
    ·exact (hb.cell (p:=⟨w.heap.size,0,none⟩) hl).trans hc
    simp[World.cell?,Array.getElem?_eq_none (by omega:W.heap.size<=w.heap.size)] at hc
   refine wp_region_held_drew (S:=fun W'=>Below w.heap.size w W'/\W'.cell? ⟨w.heap.size,0,none⟩=some (.int .i64 k)/\True) (by kernel_rfl) ⟨HB.out.drew,Yz.out.at_ 0,trivial⟩ (fun hHeld=>?_)
   (refine ak 0 ?_;refine ak 1 ?_;refine ak 2 ?_;try simp only[put,sA,sB,sC];refine ak 3 ?_;refine ak 6 ?_;refine ak 7 ?_;try simp only[put,sA,sB,sC];refine ak 8 ?_;try simp only[put,sA,sB,sC])
   refine bc 4 (fun K hK=>?_);skip;go_simp;go_at_call 145;refine (gq.out _ (And.left hHeld)).mono ?_;rintro e w2 ⟨rfl,rfl⟩
   try go_wp2_with fail
   refine hK.out _ _ (hHeld) (fun hHeld=>?_);clear hK K
   try simp only[put,sA,sB,sC]
   (refine ak 5 ?_;try simp only[put,sA,sB,sC])
   refine bc 9 (fun K hK=>?_);skip;go_simp;go_at_call 144;have eB:=And.left hHeld;refine (jW.out _).mono ?_;rintro e w3 ⟨a2,c2,rfl,ho2,bZ⟩;have kQ:Hid (w3.ownsRow w.heap.size 186 7 (.slice a2 (cm k (R-1) (i-1) i).length c2) (cm k (R-1) (i-1) i).length (fe ((cm k (R-1) (i-1) i).map En.z))/\Below w.heap.size w w3):=(⟨jL ho2 eB.size,eB.trans (bZ.mono eB.size)⟩);have yY:=G5.out _ eB bZ;clear ho2 bZ eB
   try go_wp2_with fail
   refine hK.out _ _ (⟨kQ.out.2,yY (And.left (And.right hHeld)),trivial⟩) (fun hHeld=>?_);clear hK K
   try simp only[put,sA,sB,sC]
   (refine ak 10 ?_;try simp only[put,sA,sB,sC])
   refine wpAnyH_done (by kernel_rfl) ?_ _;clear hHeld;go_wp2;go_ret;rw[jY.out];exact⟨a2,c2,rfl,kQ.out.1,kQ.out.2⟩
  ·have jY:Hid (jG l i=eD k (i-1) i):=(by show _=_;rw[HE.out,if_pos e0]);have yf:=hid (pk.out (HX.out.2.1 e0));have i3:(1:Int)<=i:=(by have:=HX.out.2.1 e0;omega);rw[e0];clear pk tk EU jT HE pC e0;go_wp2_with fail;refine (yf.out _).mono ?_;rintro e w2 ⟨a2,c2,rfl,ho2,bZ⟩;have kQ:Hid (w2.ownsRow w.heap.size 186 7 (.slice a2 (eD k (i-1) i).length c2) (eD k (i-1) i).length (fe ((eD k (i-1) i).map En.z))/\Below w.heap.size w w2):=(⟨jL ho2 HB.out.size,HB.out.trans (bZ.mono HB.out.size)⟩);clear ho2 bZ;go_wp2;go_ret;rw[jY.out];exact⟨a2,c2,rfl,kQ.out.1,kQ.out.2⟩
  exact absurd HX.out.1 (by rw[e0];omega)
end Go.Proofs.YtiijebameffenaaGreat
