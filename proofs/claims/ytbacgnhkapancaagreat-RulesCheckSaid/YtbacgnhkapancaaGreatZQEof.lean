import Derived.Test.YtbacgnhkapancaaGreatZChk
import Derived.Test.YtbacgnhkapancaaGreatZQThom
import Derived.Test.YtbacgnhkapancaaGreatZRefClass
import Derived.Deep.RegionLaw
set_option linter.all false
set_option maxHeartbeats 4000000
set_option maxRecDepth 100000
open Go.Lib (hid)
namespace Go.Proofs.YtbacgnhkapancaaGreat
open Go.RowKit Go.Maps Go.WideElems Go.ChangeMaps Go.MapKept Go.Proofs.Tryz
open Act (put)
open List (append_assoc append_nil length_append range)
theorem Ce(k:Nat)(hk:k<=1000000)(w:World):Calls prog 97 #[.int .i64 (k:Int)] w fun e w'=>e=.returned (.int .i64 (((2*k:Nat)):Int))/\w=w':=by
 go_enter func97,ntmps97;go_wp2;go_ret;exact⟨by show Ending.returned _=_;congr 2,rfl⟩
theorem Fw(k:Nat)(hk:k<=1000000)(w:World):Calls prog 98 #[.int .i64 (k:Int)] w fun e w'=>e=.returned (.int .i64 (((2*k+1:Nat)):Int))/\w=w':=by
 go_enter func98,ntmps98;go_wp2;go_ret;exact⟨by show Ending.returned _=_;congr 2,rfl⟩
def ui(L:List En)(w:World)(e:Ending)(w':World):Prop:=
 ∃a c,e=.returned (.slice a L.length c)/\w'.ownsRow w.heap.size 128 7 (.slice a L.length c) L.length (dc (L.map En.z))/\Below w.heap.size w w'
def dM(f t:Nat):List Value:=[.int .i64 ((f:Nat):Int),.int .i64 ((t:Nat):Int),.int .u64 0,.int .u64 0,.int .u64 0,.int .u64 0,.bool true]
theorem y9(f t:Nat)(l:List En):dc ((bB f t :: l).map En.z)=dM f t++dc (l.map En.z):=by
 show cG (bB f t).z++_=_;rw[ZP];rfl
theorem zjW(k:Int)(i j r:Nat)(hi:i<=1000000)(hj:j<=1000000)(hr:r<=1000000)(w:World):
  Calls prog 136 #[.int .i64 k,.int .i64 (i:Int),.int .i64 (j:Int),.int .i64 ((2*r:Nat):Int),.int .i64 ((2*r+1:Nat):Int)] w (ui (dd k i j r) w):=by
 have Hb:=hid (fun (x:Nat) (hx:x<=1000000) (W:World)=>Ce x hx W);have He:=hid (fun (x:Nat) (hx:x<=1000000) (W:World)=>Fw x hx W);obtain⟨F,hF⟩:∃F:Nat,2*r=F:=⟨_,rfl⟩
 obtain⟨T,hT⟩:∃T:Nat,2*r+1=T:=⟨_,rfl⟩
 obtain⟨bi,A1⟩:∃x:Nat,2*i=x:=⟨_,rfl⟩
 obtain⟨ei,AJ⟩:∃x:Nat,2*i+1=x:=⟨_,rfl⟩
 obtain⟨bj,Ay⟩:∃x:Nat,2*j=x:=⟨_,rfl⟩
 obtain⟨ej,BQ⟩:∃x:Nat,2*j+1=x:=⟨_,rfl⟩
 have CR:=hid (fun (W:World)=>Ce i hi W);have Cs:=hid (fun (W:World)=>Fw i hi W);have DC:=hid (fun (W:World)=>Ce j hj W);have Ai:=hid (fun (W:World)=>Fw j hj W);have HL:Hid (dd k i j r=if k=2 then [bB F bi,bB ei bj,bB ej T] else [bB F bi,bB ei T,bB F bj,bB ej T]):=by
  show _=_;unfold dd;rw[hT,AJ,BQ,hF,A1,Ay]
 rw[A1] at CR;rw[AJ] at Cs;rw[Ay] at DC;rw[BQ] at Ai;rw[hT,hF];clear hF hT A1 AJ Ay BQ Hb He;by_cases h2:k=2
 ·have rH:Hid (dd k i j r=[bB F bi,bB ei bj,bB ej T]):=by show _=_;rw[HL.out,if_pos h2]
  have h1:((k:Int) == 2)=true:=by rw[h2];rfl
  clear h2 HL;go_enter func136,ntmps136;go_wp2_with fail;refine (CR.out w).mono ?_;rintro e w1 ⟨rfl,rfl⟩;go_wp2_with fail;refine (tI F bi w).mono ?_;rintro e w1 ⟨rfl,k1⟩;have H1:=hid k1;clear k1;go_wp2_with fail;refine (Cs.out w1).mono ?_;rintro e w1 ⟨rfl,rfl⟩;go_wp2_with fail;refine (DC.out _).mono ?_;rintro e w2 ⟨rfl,rfl⟩;go_wp2_with fail;refine (tI ei bj _).mono ?_;rintro e w3 ⟨rfl,k3⟩;have H3:=hid (H1.out.trans (k3.mono H1.out.size));clear k3;go_wp2_with fail;refine (Ai.out w3).mono ?_;rintro e w4 ⟨rfl,rfl⟩;go_wp2_with fail;refine (tI ej T _).mono ?_;rintro e w5 ⟨rfl,k5⟩;have H5:=hid (H3.out.trans (k5.mono H3.out.size));clear k5;go_wp2;go_ret;have ho:=vx w5 w.heap.size 128 7 ((dM F bi++(dM ei bj++dM ej T)).toArray) 3 rfl H5.out.size (by unfold maxLen;omega);rw[rH.out];refine⟨some ⟨w5.heap.size,0,none⟩,3,rfl,?_,H5.out.trans ((al w5 _).mono H5.out.size)⟩;rw[y9,y9,y9];simpa [dM,dc] using ho
 have rH:Hid (dd k i j r=[bB F bi,bB ei T,bB F bj,bB ej T]):=by show _=_;rw[HL.out,if_neg h2]
 have h1:((k:Int) == 2)=false:=by rw[beq_eq_false_iff_ne];exact h2
 clear h2 HL;go_enter func136,ntmps136;go_wp2_with fail;refine (CR.out w).mono ?_;rintro e w1 ⟨rfl,rfl⟩;go_wp2_with fail;refine (tI F bi w).mono ?_;rintro e w1 ⟨rfl,k1⟩;have H1:=hid k1;clear k1;go_wp2_with fail;refine (Cs.out w1).mono ?_;rintro e w1 ⟨rfl,rfl⟩;go_wp2_with fail;refine (tI ei T _).mono ?_;rintro e w3 ⟨rfl,k3⟩;have H3:=hid (H1.out.trans (k3.mono H1.out.size));clear k3;go_wp2_with fail;refine (DC.out w3).mono ?_;rintro e w4 ⟨rfl,rfl⟩;go_wp2_with fail;refine (tI F bj _).mono ?_;rintro e w5 ⟨rfl,k5⟩;have H5:=hid (H3.out.trans (k5.mono H3.out.size));clear k5;go_wp2_with fail;refine (Ai.out w5).mono ?_;rintro e w6 ⟨rfl,rfl⟩;go_wp2_with fail;refine (tI ej T _).mono ?_;rintro e w7 ⟨rfl,k7⟩;have H7:=hid (H5.out.trans (k7.mono H5.out.size));clear k7;go_wp2;go_ret;have ho:=vx w7 w.heap.size 128 7 ((dM F bi++(dM ei T++(dM F bj++dM ej T))).toArray) 4 rfl H7.out.size (by unfold maxLen;omega);rw[rH.out];refine⟨some ⟨w7.heap.size,0,none⟩,4,rfl,?_,H7.out.trans ((al w7 _).mono H7.out.size)⟩;rw[y9,y9,y9,y9];simpa [dM,dc] using ho
theorem St.ta{w:World}{t g:Nat}{cs:Array Value}(h:St w t g cs):∀j v,cs.toList[j]?=some v->w.cell? ((⟨g,0,none⟩:Addr).add j)=some v:=fun j v hj=>by
 have e:(⟨g,0,none⟩:Addr).add j=⟨g,j,none⟩:=by unfold Addr.add;split <;> simp_all
 rw[e,h.at_,<-Array.getElem?_toList,hj]
theorem zgO(k:Int)(j r:Nat)(hj:j<=1000000)(hr:r<=1000000)(w:World):
  Calls prog 135 #[.int .i64 k,.int .i64 (j:Int),.int .i64 ((2*r:Nat):Int),.int .i64 ((2*r+1:Nat):Int)] w (ui (eW k j r) w):=by
 obtain⟨F,hF⟩:∃F:Nat,2*r=F:=⟨_,rfl⟩
 obtain⟨T,hT⟩:∃T:Nat,2*r+1=T:=⟨_,rfl⟩
 obtain⟨bj,Ay⟩:∃x:Nat,2*j=x:=⟨_,rfl⟩
 obtain⟨ej,BQ⟩:∃x:Nat,2*j+1=x:=⟨_,rfl⟩
 have DC:=hid (fun (W:World)=>Ce j hj W);have Ai:=hid (fun (W:World)=>Fw j hj W);have C4:=hid (fun (W:World)=>Ce j hj W);have HL:Hid (eW k j r=[bB F bj,bB ej T]++((if k=5 then [] else [bB F T])++(if k=6 then [] else [bB ej bj]))):=by
  show _=_;unfold eW;rw[hT,BQ,hF,Ay]
 rw[Ay] at DC;rw[Ay] at C4;rw[BQ] at Ai;rw[hT,hF];clear hF hT Ay BQ;obtain⟨i0,hi,du,cH,ct⟩:=info_parts jS;go_enter func135,ntmps135;go_wp2_with fail;refine (DC.out w).mono ?_;rintro e w1 ⟨rfl,rfl⟩;go_wp2_with fail;refine (tI F bj w).mono ?_;rintro e w1 ⟨rfl,k1⟩;have H1:=hid k1;clear k1;go_wp2_with fail;refine (Ai.out w1).mono ?_;rintro e w2 ⟨rfl,rfl⟩;go_wp2_with fail;refine (tI ej T _).mono ?_;rintro e w2 ⟨rfl,k2⟩;have HO:Hid (Below w.heap.size w (w2.alloc (.cells #[.int .i64 (F:Int),.int .i64 (bj:Int),.int .u64 0,.int .u64 0,.int .u64 0,.int .u64 0,.bool true,.int .i64 (ej:Int),.int .i64 (T:Int),.int .u64 0,.int .u64 0,.int .u64 0,.int .u64 0,.bool true] 128))/\(w2.alloc (.cells #[.int .i64 (F:Int),.int .i64 (bj:Int),.int .u64 0,.int .u64 0,.int .u64 0,.int .u64 0,.bool true,.int .i64 (ej:Int),.int .i64 (T:Int),.int .u64 0,.int .u64 0,.int .u64 0,.int .u64 0,.bool true] 128)).ownsRow w.heap.size 128 7 (.slice (some ⟨w2.heap.size,0,none⟩) 2 2) 2 (dc (([bB F bj,bB ej T]:List En).map En.z))):=by
  have h1:=H1.out.trans (k2.mono H1.out.size);refine⟨h1.trans ((al w2 _).mono h1.size),?_⟩;have ho:=vx w2 w.heap.size 128 7 ((dM F bj++dM ej T).toArray) 2 rfl h1.size (by unfold maxLen;omega);rw[y9,y9];simpa [dM,dc] using ho
 clear k2 H1;go_upto_region 2 with fail;generalize w2.alloc (.cells #[.int .i64 (F:Int),.int .i64 (bj:Int),.int .u64 0,.int .u64 0,.int .u64 0,.int .u64 0,.bool true,.int .i64 (ej:Int),.int .i64 (T:Int),.int .u64 0,.int .u64 0,.int .u64 0,.int .u64 0,.bool true] 128)=W3 at HO⊢;obtain⟨g,hg⟩:∃g,w2.heap.size=g:=⟨_,rfl⟩
 rw[hg] at HO;rw[hg];clear hg DC;by_cases h5:k=5
 ·have rH:Hid (eW k j r=[bB F bj,bB ej T,bB ej bj]):=by show _=_;rw[HL.out,if_pos h5,if_neg (by omega)];rfl
  have q5:((k:Int) != 5)=false:=by rw[h5];rfl
  have q6:((k:Int) != 6)=true:=by rw[h5];rfl
  clear h5 HL;go_wp2_with fail;refine (Ai.out W3).mono ?_;rintro e w5 ⟨rfl,rfl⟩;go_wp2_with fail;refine (C4.out W3).mono ?_;rintro e w5 ⟨rfl,rfl⟩;go_wp2_with fail;refine (tI ej bj W3).mono ?_;rintro e x3 ⟨rfl,kx⟩;have mR:Hid (Below w.heap.size w x3/\x3.ownsRow w.heap.size 128 7 (.slice (some ⟨g,0,none⟩) 2 2) 2 (dc (([bB F bj,bB ej T]:List En).map En.z))):=⟨HO.out.1.trans (kx.mono HO.out.1.size),cW HO.out.2 kx⟩
  clear kx;have hO:=mR.out.2;go_wp2_with (at_builtin;refine wpList_append_own_at _ rfl _ _ 65 rfl w.heap.size 128 i0 (.agg #[.int .i64 0,.int .i64 0,.int .u64 0,.int .u64 0,.int .u64 0,.int .u64 0,.bool false]) 7 56 underlying65 hi du cH ct rfl (by decide) _ _ _ rfl (hO.alloc _) ⟨x3.heap.size,0,none⟩ 1 1 (dM ej bj) rfl rfl (fun j u hj=>(St.new x3 128 (dM ej bj).toArray).ta j u (by simpa using hj)) ?d2 ?d3 ?d4 ?d5 ?_)
  case d2=>intro u hu;simp[dM] at hu;rcases hu with rfl|rfl|rfl|rfl <;> rfl
  case d3=>unfold maxLen;omega
  case d4=>omega
  case d5=>have:=mR.out.1.size;simp at this⊢;omega
  intro v3 y3 ay dp _ _;obtain⟨a3,c3,rfl⟩:=bJ ay;have H3:Hid (Below w.heap.size w y3/\y3.ownsRow w.heap.size 128 7 (.slice a3 3 c3) 3 (dc (([bB F bj,bB ej T,bB ej bj]:List En).map En.z))):=by
   have h1:=mR.out.1.trans ((al x3 (.cells (dM ej bj).toArray 128)).mono mR.out.1.size);refine⟨fC h1 (hO.alloc _) h1.size dp,?_⟩;have h2:dc (([bB F bj,bB ej T,bB ej bj]:List En).map En.z)=dc (([bB F bj,bB ej T]:List En).map En.z)++dM ej bj:=(by simp[dc,cG,En.z,bB,vb,dM]);rw[h2];exact ay
  clear ay dp hO;go_wp2;go_ret;rw[rH.out];exact⟨a3,c3,rfl,H3.out.2,H3.out.1⟩
 by_cases h6:k=6
 ·have rH:Hid (eW k j r=[bB F bj,bB ej T,bB F T]):=by show _=_;rw[HL.out,if_neg h5,if_pos h6];rfl
  have q5:((k:Int) != 5)=true:=by rw[h6];rfl
  have q6:((k:Int) != 6)=false:=by rw[h6];rfl
  clear h5 h6 HL Ai;go_wp2_with fail;refine (tI F T W3).mono ?_;rintro e x3 ⟨rfl,kx⟩;have mR:Hid (Below w.heap.size w x3/\x3.ownsRow w.heap.size 128 7 (.slice (some ⟨g,0,none⟩) 2 2) 2 (dc (([bB F bj,bB ej T]:List En).map En.z))):=⟨HO.out.1.trans (kx.mono HO.out.1.size),cW HO.out.2 kx⟩
  clear kx;have hO:=mR.out.2;go_wp2_with (at_builtin;refine wpList_append_own_at _ rfl _ _ 65 rfl w.heap.size 128 i0 (.agg #[.int .i64 0,.int .i64 0,.int .u64 0,.int .u64 0,.int .u64 0,.int .u64 0,.bool false]) 7 56 underlying65 hi du cH ct rfl (by decide) _ _ _ rfl (hO.alloc _) ⟨x3.heap.size,0,none⟩ 1 1 (dM F T) rfl rfl (fun j u hj=>(St.new x3 128 (dM F T).toArray).ta j u (by simpa using hj)) ?d2 ?d3 ?d4 ?d5 ?_)
  case d2=>intro u hu;simp[dM] at hu;rcases hu with rfl|rfl|rfl|rfl <;> rfl
  case d3=>unfold maxLen;omega
  case d4=>omega
  case d5=>have:=mR.out.1.size;simp at this⊢;omega
  intro v3 y3 ay dp _ _;obtain⟨a3,c3,rfl⟩:=bJ ay;have H3:Hid (Below w.heap.size w y3/\y3.ownsRow w.heap.size 128 7 (.slice a3 3 c3) 3 (dc (([bB F bj,bB ej T,bB F T]:List En).map En.z))):=by
   have h1:=mR.out.1.trans ((al x3 (.cells (dM F T).toArray 128)).mono mR.out.1.size);refine⟨fC h1 (hO.alloc _) h1.size dp,?_⟩;have h2:dc (([bB F bj,bB ej T,bB F T]:List En).map En.z)=dc (([bB F bj,bB ej T]:List En).map En.z)++dM F T:=(by simp[dc,cG,En.z,bB,vb,dM]);rw[h2];exact ay
  clear ay dp hO;go_wp2;go_ret;rw[rH.out];exact⟨a3,c3,rfl,H3.out.2,H3.out.1⟩
 have rH:Hid (eW k j r=[bB F bj,bB ej T,bB F T,bB ej bj]):=by show _=_;rw[HL.out,if_neg h5,if_neg h6];rfl
 have q5:((k:Int) != 5)=true:=by rw[bne_iff_ne];exact h5
 have q6:((k:Int) != 6)=true:=by rw[bne_iff_ne];exact h6
 clear h5 h6 HL;go_wp2_with fail;refine (tI F T W3).mono ?_;rintro e x3 ⟨rfl,kx⟩;have mR:Hid (Below w.heap.size w x3/\x3.ownsRow w.heap.size 128 7 (.slice (some ⟨g,0,none⟩) 2 2) 2 (dc (([bB F bj,bB ej T]:List En).map En.z))):=⟨HO.out.1.trans (kx.mono HO.out.1.size),cW HO.out.2 kx⟩
 clear kx;have hO:=mR.out.2;go_wp2_with (at_builtin;refine wpList_append_own_at _ rfl _ _ 65 rfl w.heap.size 128 i0 (.agg #[.int .i64 0,.int .i64 0,.int .u64 0,.int .u64 0,.int .u64 0,.int .u64 0,.bool false]) 7 56 underlying65 hi du cH ct rfl (by decide) _ _ _ rfl (hO.alloc _) ⟨x3.heap.size,0,none⟩ 1 1 (dM F T) rfl rfl (fun j u hj=>(St.new x3 128 (dM F T).toArray).ta j u (by simpa using hj)) ?d2 ?d3 ?d4 ?d5 ?_)
 case d2=>intro u hu;simp[dM] at hu;rcases hu with rfl|rfl|rfl|rfl <;> rfl
 case d3=>unfold maxLen;omega
 case d4=>omega
 case d5=>have:=mR.out.1.size;simp at this⊢;omega
 intro v3 y3 ay dp _ _;obtain⟨a3,c3,rfl⟩:=bJ ay;have H3:Hid (Below w.heap.size w y3/\y3.ownsRow w.heap.size 128 7 (.slice a3 3 c3) 3 (dc (([bB F bj,bB ej T,bB F T]:List En).map En.z))):=by
  have h1:=mR.out.1.trans ((al x3 (.cells (dM F T).toArray 128)).mono mR.out.1.size);refine⟨fC h1 (hO.alloc _) h1.size dp,?_⟩;have h2:dc (([bB F bj,bB ej T,bB F T]:List En).map En.z)=dc (([bB F bj,bB ej T]:List En).map En.z)++dM F T:=by simp[dc,cG,En.z,bB,vb,dM]
  rw[h2];exact ay
 clear ay dp hO;go_wp2_with fail;refine (Ai.out y3).mono ?_;rintro e w5 ⟨rfl,rfl⟩;go_wp2_with fail;refine (C4.out y3).mono ?_;rintro e w5 ⟨rfl,rfl⟩;go_wp2_with fail;refine (tI ej bj y3).mono ?_;rintro e x4 ⟨rfl,kx⟩;have Nq:Hid (Below w.heap.size w x4/\x4.ownsRow w.heap.size 128 7 (.slice a3 3 c3) 3 (dc (([bB F bj,bB ej T,bB F T]:List En).map En.z))):=⟨H3.out.1.trans (kx.mono H3.out.1.size),cW H3.out.2 kx⟩
 clear kx;have hO:=Nq.out.2;go_wp2_with (at_builtin;refine wpList_append_own_at _ rfl _ _ 65 rfl w.heap.size 128 i0 (.agg #[.int .i64 0,.int .i64 0,.int .u64 0,.int .u64 0,.int .u64 0,.int .u64 0,.bool false]) 7 56 underlying65 hi du cH ct rfl (by decide) _ _ _ rfl (hO.alloc _) ⟨x4.heap.size,0,none⟩ 1 1 (dM ej bj) rfl rfl (fun j u hj=>(St.new x4 128 (dM ej bj).toArray).ta j u (by simpa using hj)) ?d2 ?d3 ?d4 ?d5 ?_)
 case d2=>intro u hu;simp[dM] at hu;rcases hu with rfl|rfl|rfl|rfl <;> rfl
 case d3=>unfold maxLen;omega
 case d4=>omega
 case d5=>have:=Nq.out.1.size;simp at this⊢;omega
 intro v4 y4 ay dp _ _;obtain⟨a4,c4,rfl⟩:=bJ ay;have H4:Hid (Below w.heap.size w y4/\y4.ownsRow w.heap.size 128 7 (.slice a4 4 c4) 4 (dc (([bB F bj,bB ej T,bB F T,bB ej bj]:List En).map En.z))):=by
  have h1:=Nq.out.1.trans ((al x4 (.cells (dM ej bj).toArray 128)).mono Nq.out.1.size);refine⟨fC h1 (hO.alloc _) h1.size dp,?_⟩;have h2:dc (([bB F bj,bB ej T,bB F T,bB ej bj]:List En).map En.z)=dc (([bB F bj,bB ej T,bB F T]:List En).map En.z)++dM ej bj:=by simp[dc,cG,En.z,bB,vb,dM]
  rw[h2];exact ay
 clear ay dp hO;go_wp2;go_ret;rw[rH.out];exact⟨a4,c4,rfl,H4.out.2,H4.out.1⟩
def qY:Pc:=⟨0,fun _=>false⟩
def kB(l:List Pc)(i:Nat):List En:=
 if aH (l.getD i qY).k=1 then eW (l.getD i qY).k (i-1) i else if aH (l.getD i qY).k=2 then dd (l.getD i qY).k (dg l (i-1)-1) (i-1) i else gn (l.getD i qY) i
theorem No(s v:List Pc)(x:Pc):(s++x :: v).getD s.length qY=x:=by simp[List.getD_eq_getElem?_getD]
theorem zeD{α β:Type}{l:List α}{f g:α->List β}(h:∀x∈l,f x=g x):l.flatMap f=l.flatMap g:=by
 induction l with
 | nil=>rfl
 | cons a l ih=>simp only[List.flatMap_cons];rw[h a List.mem_cons_self,ih (fun x hx=>h x (List.mem_cons_of_mem _ hx))]
theorem QO{β:Type}(n m:Nat)(f:Nat->List β):(range (n+m)).flatMap f=(range n).flatMap f++(range m).flatMap (fun j=>f (n+j)):=by
 rw[List.range_add,List.flatMap_append];congr 1
 induction m with
 | zero=>rfl
 | succ m ih=>rw[List.range_succ,List.map_append,List.flatMap_append,List.flatMap_append,ih];rfl
theorem zpB(t:Rx)(hw:t.wf):∀(s u:List Pc),(range t.flat.length).flatMap (fun j=>kB (s++(t.flat++u)) (s.length+j))=eH t s.length:=by
 induction t with
 | leaf x=>
  intro s u;have h0:aH x.k=0:=hw.1;show (range 1).flatMap _=_;have e:(s++((Rx.leaf x).flat++u)).getD s.length qY=x:=No s u x;show kB (s++((Rx.leaf x).flat++u)) (s.length+0)++[]=gn x s.length;rw[append_nil,Nat.add_zero];unfold kB;rw[e,h0,if_neg (by omega),if_neg (by omega)]
 | un x a ih=>
  intro s u;have h1:aH x.k=1:=hw.1;have hl:(Rx.un x a).flat.length=a.flat.length+1:=by simp[Rx.flat]
  have hf:s++((Rx.un x a).flat++u)=s++(a.flat++(x :: u)):=by simp[Rx.flat]
  rw[hl,hf,QO,ih hw.2.2 s (x :: u)];show eH a s.length++(kB (s++(a.flat++x :: u)) (s.length+(a.flat.length+0))++[])=_;have e:(s++(a.flat++x :: u)).getD (s.length+a.flat.length) qY=x:=by
   have:=No (s++a.flat) u x;rwa [length_append,append_assoc] at this
  rw[append_nil,Nat.add_zero];show _=eH a s.length++eW x.k (s.length+a.flat.length-1) (s.length+a.flat.length);congr 1;unfold kB;rw[e,if_pos h1]
 | bin x a b ih jh=>
  intro s u;have h2:aH x.k=2:=hw.1;have hp:=a.aY;have hq:=b.aY;have hl:(Rx.bin x a b).flat.length=a.flat.length+(b.flat.length+1):=by simp[Rx.flat]
  have hf:s++((Rx.bin x a b).flat++u)=s++(a.flat++(b.flat++x :: u)):=by simp[Rx.flat]
  rw[hl,hf,QO,ih hw.2.2.1 s (b.flat++x :: u),QO];have hb:=jh hw.2.2.2 (s++a.flat) (x :: u);rw[append_assoc,length_append] at hb;have cr:(range b.flat.length).flatMap (fun j=>kB (s++(a.flat++(b.flat++x :: u))) (s.length+(a.flat.length+j)))=eH b (s.length+a.flat.length):=by
   rw[<-hb];refine(zeD fun j _=>?_);rw[Nat.add_assoc]
  rw[cr];show eH a s.length++(eH b (s.length+a.flat.length)++(kB (s++(a.flat++(b.flat++x :: u))) (s.length+(a.flat.length+(b.flat.length+0)))++[]))=eH a s.length++(eH b (s.length+a.flat.length)++dd x.k (s.length+a.flat.length-1) (s.length+a.flat.length+b.flat.length-1) (s.length+a.flat.length+b.flat.length));rw[append_nil,Nat.add_zero];congr 2;have e:(s++(a.flat++(b.flat++x :: u))).getD (s.length+(a.flat.length+b.flat.length)) qY=x:=by
   simp
  have OH:dg (s++(a.flat++(b.flat++x :: u))) (s.length+(a.flat.length+b.flat.length)-1)=s.length+a.flat.length:=by
   unfold dg;have et:(s++(a.flat++(b.flat++x :: u))).take (s.length+(a.flat.length+b.flat.length)-1+1)=(s++a.flat)++b.flat:=by
    rw[show s.length+(a.flat.length+b.flat.length)-1+1=((s++a.flat)++b.flat).length by simp;omega,show s++(a.flat++(b.flat++x :: u))=((s++a.flat)++b.flat)++(x :: u) by simp,List.take_left'];rfl
   rw[et,List.reverse_append,Sp b hw.2.2.2 _ 1 (by omega),if_pos rfl,List.length_reverse,length_append]
  unfold kB;rw[e,if_neg (by omega),if_pos h2,OH];congr 1 <;> omega
theorem SH(t:Rx)(hw:t.wf):(range t.flat.length).flatMap (kB t.flat)=eH t 0:=by
 have:=zpB t hw [] [];simpa using this
def Cj(l:List Pc)(i:Nat):Prop:=(aH (l.getD i qY).k=1->1<=i)/\(aH (l.getD i qY).k=2->1<=i/\1<=dg l (i-1))
theorem znn(t:Rx)(hw:t.wf):∀(s u:List Pc) (j:Nat),j<t.flat.length->Cj (s++(t.flat++u)) (s.length+j):=by
 induction t with
 | leaf x=>
  intro s u j hj;have h0:aH x.k=0:=hw.1;have hj0:j=0:=by simpa [Rx.flat] using hj
  subst hj0;have e:(s++((Rx.leaf x).flat++u)).getD (s.length+0) qY=x:=No s u x;unfold Cj;rw[e,h0];exact⟨fun h=>absurd h (by omega),fun h=>absurd h (by omega)⟩
 | un x a ih=>
  intro s u j hj;have h1:aH x.k=1:=hw.1;have hp:=a.aY;have hl:(Rx.un x a).flat.length=a.flat.length+1:=by simp[Rx.flat]
  have hf:s++((Rx.un x a).flat++u)=s++(a.flat++(x :: u)):=by simp[Rx.flat]
  rw[hf];by_cases SY:j<a.flat.length
  ·exact ih hw.2.2 s (x :: u) j SY
  have Ov:j=a.flat.length:=by omega
  subst Ov;have e:(s++(a.flat++x :: u)).getD (s.length+a.flat.length) qY=x:=by
   have:=No (s++a.flat) u x;rwa [length_append,append_assoc] at this
  unfold Cj;rw[e,h1];exact⟨fun _=>by omega,fun h=>absurd h (by omega)⟩
 | bin x a b ih jh=>
  intro s u j hj;have h2:aH x.k=2:=hw.1;have hp:=a.aY;have hq:=b.aY;have hl:(Rx.bin x a b).flat.length=a.flat.length+(b.flat.length+1):=by simp[Rx.flat]
  have hf:s++((Rx.bin x a b).flat++u)=s++(a.flat++(b.flat++x :: u)):=by simp[Rx.flat]
  rw[hf];by_cases SY:j<a.flat.length
  ·exact ih hw.2.2.1 s (b.flat++x :: u) j SY
  by_cases hjb:j<a.flat.length+b.flat.length
  ·have:=jh hw.2.2.2 (s++a.flat) (x :: u) (j-a.flat.length) (by omega);rw[append_assoc,length_append,show s.length+a.flat.length+(j-a.flat.length)=s.length+j by omega] at this;exact this
  have Ov:j=a.flat.length+b.flat.length:=by omega
  subst Ov;have e:(s++(a.flat++(b.flat++x :: u))).getD (s.length+(a.flat.length+b.flat.length)) qY=x:=by
   simp
  have OH:dg (s++(a.flat++(b.flat++x :: u))) (s.length+(a.flat.length+b.flat.length)-1)=s.length+a.flat.length:=by
   unfold dg;have et:(s++(a.flat++(b.flat++x :: u))).take (s.length+(a.flat.length+b.flat.length)-1+1)=(s++a.flat)++b.flat:=by
    rw[show s.length+(a.flat.length+b.flat.length)-1+1=((s++a.flat)++b.flat).length by simp;omega,show s++(a.flat++(b.flat++x :: u))=((s++a.flat)++b.flat)++(x :: u) by simp,List.take_left'];rfl
   rw[et,List.reverse_append,Sp b hw.2.2.2 _ 1 (by omega),if_pos rfl,List.length_reverse,length_append]
  unfold Cj;rw[e,h2,OH];exact⟨fun h=>absurd h (by omega),fun _=>by omega⟩
theorem zlB(t:Rx)(hw:t.wf)(j:Nat)(hj:j<t.flat.length):Cj t.flat j:=by
 have:=znn t hw [] [] j hj;simpa using this
theorem zno(x:Pc)(i:Nat)(hk:x.k=0\/x.k=1):dc ((gn x i).map En.z)=[.int .i64 ((2*i:Nat):Int),.int .i64 ((2*i+1:Nat):Int),.int .u64 ((wd x.p 0:Nat):Int),.int .u64 ((wd x.p 1:Nat):Int),.int .u64 ((wd x.p 2:Nat):Int),.int .u64 ((wd x.p 3:Nat):Int),.bool (x.k == 0)]:=by
 have h:decide (x.k=0)=(x.k == 0):=by rcases hk with h|h <;> rw[h] <;> rfl
 simp[dc,cG,En.z,gn,h]
theorem znp:∀(l:List Pc) (m:Int),iC l m<=l.length:=by
 intro l
 induction l with
 | nil=>intro m;exact Nat.le_refl _
 | cons x r ih=>
  intro m;unfold iC;split
  ·simp
  have:=ih (m+(aH x.k-1));simp;omega
theorem zlC(l:List Pc)(j:Nat):dg l j<=j+1:=by
 unfold dg;have:=znp (l.take (j+1)).reverse 1;simp at this;omega
theorem zhR(l:List Pc)(a:Option Addr)(n cap:Nat)(w:World)(hL:gO w a l)(hn:l.length=n)(dD:n<=100000)(i:Nat)(hi:i<n)(hv:0<=aH (l.getD i qY).k)(yJ:Cj l i):
  Calls prog 99 #[.slice a n cap,.int .i64 (i:Int)] w (ui (kB l i) w):=by
 obtain⟨g,off,rfl,hg,c0,c1,c2,c3,c4⟩:=hL.get i (by omega);have hx:l[i]'(by omega)=l.getD i qY:=by simp[List.getD_eq_getElem?_getD,show i<l.length by omega]
 rw[hx] at c0 c1 c2 c3 c4;obtain⟨x,FY⟩:∃x,l.getD i qY=x:=⟨_,rfl⟩
 have HE:Hid (kB l i=if aH x.k=1 then eW x.k (i-1) i else if aH x.k=2 then dd x.k (dg l (i-1)-1) (i-1) i else gn x i):=by
  show _=_;unfold kB;rw[FY]
 unfold Cj at yJ;rw[FY] at c0 c1 c2 c3 c4 hv yJ;have eB:Hid (1<=i->∀W,Below w.heap.size w W->Calls prog 137 #[.slice (some ⟨g,off,none⟩) n cap,.int .i64 ((i-1:Nat):Int)] W fun e w'=>e=.returned (.int .i64 ((dg l (i-1):Nat):Int))/\W=w'):=fun h W hW=>zkw l _ n cap W (hL.below hW) hn (by omega) (i-1) (by omega)
 have CR:=hid (fun (W:World)=>Ce i (by omega) W);have Cs:=hid (fun (W:World)=>Fw i (by omega) W);have HX:=hid (Zz hv yJ);have mq:Hid (1<=i->∀W,Calls prog 135 #[.int .i64 x.k,.int .i64 ((i:Int)-1),.int .i64 ((2*i:Nat):Int),.int .i64 ((2*i+1:Nat):Int)] W (ui (eW x.k (i-1) i) W)):=fun h W=>by
  have:=zgO x.k (i-1) i (by omega) (by omega) W;rwa [show ((i-1:Nat):Int)=(i:Int)-1 by omega] at this
 have uJ:Hid (1<=i->∀R:Nat,1<=R->R<=1000000->∀W,Calls prog 136 #[.int .i64 x.k,.int .i64 ((R:Int)-1),.int .i64 ((i:Int)-1),.int .i64 ((2*i:Nat):Int),.int .i64 ((2*i+1:Nat):Int)] W (ui (dd x.k (R-1) (i-1) i) W)):=fun h R hR yV W=>by
  have:=zjW x.k (R-1) (i-1) i (by omega) (by omega) (by omega) W;rwa [show ((i-1:Nat):Int)=(i:Int)-1 by omega,show ((R-1:Nat):Int)=(R:Int)-1 by omega] at this
 have D9:Hid (1<=i->dg l (i-1)<=1000000):=fun h=>by
  have:=zlC l (i-1);omega
 obtain⟨bi,A1⟩:∃b:Nat,2*i=b:=⟨_,rfl⟩
 obtain⟨ei,AJ⟩:∃b:Nat,2*i+1=b:=⟨_,rfl⟩
 have YR:=hid (Zz A1 AJ);rw[A1] at CR;rw[AJ] at Cs;rw[AJ,A1] at mq uJ;have i1:(i:Int)<n:=by omega
 clear hL hn hx FY hv yJ A1 AJ;obtain⟨k,hk⟩:∃k,x.k=k:=⟨_,rfl⟩
 have Hk:=hid hk;rw[hk] at c0 mq uJ HE HX;obtain⟨p0,Cw⟩:∃p0:Nat,wd x.p 0=p0:=⟨_,rfl⟩
 obtain⟨p1,fI⟩:∃p1:Nat,wd x.p 1=p1:=⟨_,rfl⟩
 obtain⟨p2,fw⟩:∃p2:Nat,wd x.p 2=p2:=⟨_,rfl⟩
 obtain⟨p3,gP⟩:∃p3:Nat,wd x.p 3=p3:=⟨_,rfl⟩
 have Hp:=hid (Zz Cw (Zz fI (Zz fw gP)));rw[Cw] at c1;rw[fI] at c2;rw[fw] at c3;rw[gP] at c4;clear hk Cw fI fw gP;go_enter func99,ntmps99;go_wp2_with fail
 go_cut [5,6,7] from 9 to 17 (fun v5 v6 v7 wx=>v5=.pointer (some ⟨w.heap.size,0,none⟩)/\v6=.int .i64 (bi:Int)/\v7=.int .i64 (ei:Int)/\St wx 104 w.heap.size #[.int .i64 k,.int .u64 (p0:Int),.int .u64 (p1:Int),.int .u64 (p2:Int),.int .u64 (p3:Int)]/\Below w.heap.size w wx)
 case first=>
  go_region_with (first
   | (go_at_call 97;refine (CR.out _).mono ?_;rintro e w' ⟨rfl,rfl⟩)
   | (go_at_call 98;refine (Cs.out _).mono ?_;rintro e w' ⟨rfl,rfl⟩))
  all_goals
   go_wp2_with fail
   go_meet
   exact⟨rfl,rfl,rfl,St.new _ _ _,((Below.refl _ _).alloc (Nat.le_refl _) _).drew⟩
 case rest=>
  obtain⟨rfl,rfl,rfl,hS,hB⟩:=hcut;have h0:=hS.at_ 0;have h1:=hS.at_ 1;have h2:=hS.at_ 2;have h3:=hS.at_ 3;have h4:=hS.at_ 4;simp only[List.getElem?_toArray,List.getElem?_cons_succ,List.getElem?_cons_zero] at h0 h1 h2 h3 h4;have HB:=hid hB;have HSc:=hid hS;clear hS hB c0 c1 c2 c3 c4 CR Cs;go_wp2_with fail;refine (QK k _).mono ?_;rintro e w2 ⟨rfl,rfl⟩;rcases sJ k with ⟨e0,oU⟩|⟨e0,oU⟩|⟨e0,oU⟩|⟨e0,_⟩
  ·have lQ:Hid (kB l i=gn x i):=(by show _=_;rw[HE.out,e0,if_neg (by omega),if_neg (by omega)]);have Hlg:=hid (zno x i (by rw[Hk.out];exact oU));rw[e0];clear mq uJ D9 eB HE oU e0;go_wp2;go_ret;have ho:=vx wc w.heap.size 128 7 #[.int .i64 (bi:Int),.int .i64 (ei:Int),.int .u64 (p0:Int),.int .u64 (p1:Int),.int .u64 (p2:Int),.int .u64 (p3:Int),.bool (k == 0)] 1 rfl HB.out.size (by unfold maxLen;omega);rw[lQ.out];refine⟨some ⟨wc.heap.size,0,none⟩,1,rfl,?_,HB.out.trans ((al wc _).mono HB.out.size)⟩;rw[Hlg.out,YR.out.2,YR.out.1,Hp.out.1,Hp.out.2.1,Hp.out.2.2.1,Hp.out.2.2.2,Hk.out];exact ho
  ·have lQ:Hid (kB l i=dd k (dg l (i-1)-1) (i-1) i):=(by show _=_;rw[HE.out,e0,if_neg (by omega),if_pos rfl]);obtain⟨Az,qB⟩:=HX.out.2.2 e0;have yV:=D9.out Az;have gD:=hid (eB.out Az);have kD:=hid (uJ.out Az _ qB yV);obtain⟨R,hR⟩:∃R,dg l (i-1)=R:=(⟨_,rfl⟩);rw[hR] at gD kD lQ qB yV;rw[show ((i-1:Nat):Int)=(i:Int)-1 by omega] at gD;rw[<-show IntKind.i64.wrap ((R:Int)-1)=(R:Int)-1 from IntWalk.i64_in _ (by omega)] at kD;rw[e0];have i3:(1:Int)<=i:=(by omega);have i4:(1:Int)<=R:=(by omega);clear mq uJ D9 eB HE oU e0 hR;go_upto_region 7 with fail;have vf:Hid (∀W,Below w.heap.size w W->∀{W'},Below W.heap.size W W'->W.cell? ⟨w.heap.size,0,none⟩=some (.int .i64 k)->W'.cell? ⟨w.heap.size,0,none⟩=some (.int .i64 k)):=fun W hW W' hb hc=>by
    by_cases hl:w.heap.size<W.heap.size
    ·exact (hb.cell (p:=⟨w.heap.size,0,none⟩) hl).trans hc
    simp[World.cell?,Array.getElem?_eq_none (by omega:W.heap.size<=w.heap.size)] at hc
   refine wp_region_held_drew (S:=fun W'=>Below w.heap.size w W'/\W'.cell? ⟨w.heap.size,0,none⟩=some (.int .i64 k)/\True) (by kernel_rfl) ⟨HB.out.drew,HSc.out.at_ 0,trivial⟩ (fun hHeld=>?_)
   (refine av 0 ?_;refine av 1 ?_;refine av 2 ?_;try simp only[put,sA,sB,sC];refine av 3 ?_;refine av 6 ?_;refine av 7 ?_;try simp only[put,sA,sB,sC];refine av 8 ?_;try simp only[put,sA,sB,sC])
   refine bq 4 (fun K hK=>?_);skip;go_simp;go_at_call 137;refine (gD.out _ (And.left hHeld)).mono ?_;rintro e w2 ⟨rfl,rfl⟩
   try go_wp2_with fail
   refine hK.out _ _ (hHeld) (fun hHeld=>?_);clear hK K
   try simp only[put,sA,sB,sC]
   (refine av 5 ?_;try simp only[put,sA,sB,sC])
   refine bq 9 (fun K hK=>?_);skip;go_simp;go_at_call 136;have gk:=And.left hHeld;refine (kD.out _).mono ?_;rintro e w3 ⟨a2,c2,rfl,ho2,cr⟩;have j4:Hid (w3.ownsRow w.heap.size 128 7 (.slice a2 (dd k (R-1) (i-1) i).length c2) (dd k (R-1) (i-1) i).length (dc ((dd k (R-1) (i-1) i).map En.z))/\Below w.heap.size w w3):=(⟨gE ho2 gk.size,gk.trans (cr.mono gk.size)⟩);have vD:=vf.out _ gk cr;clear ho2 cr gk
   try go_wp2_with fail
   refine hK.out _ _ (⟨j4.out.2,vD (And.left (And.right hHeld)),trivial⟩) (fun hHeld=>?_);clear hK K
   try simp only[put,sA,sB,sC]
   (refine av 10 ?_;try simp only[put,sA,sB,sC])
   refine wpAnyH_done (by kernel_rfl) ?_ _;clear hHeld;go_wp2;go_ret;rw[lQ.out];exact⟨a2,c2,rfl,j4.out.1,j4.out.2⟩
  ·have lQ:Hid (kB l i=eW k (i-1) i):=(by show _=_;rw[HE.out,if_pos e0]);have Tf:=hid (mq.out (HX.out.2.1 e0));have i3:(1:Int)<=i:=(by have:=HX.out.2.1 e0;omega);rw[e0];clear mq uJ D9 eB HE oU e0;go_wp2_with fail;refine (Tf.out _).mono ?_;rintro e w2 ⟨a2,c2,rfl,ho2,cr⟩;have j4:Hid (w2.ownsRow w.heap.size 128 7 (.slice a2 (eW k (i-1) i).length c2) (eW k (i-1) i).length (dc ((eW k (i-1) i).map En.z))/\Below w.heap.size w w2):=(⟨gE ho2 HB.out.size,HB.out.trans (cr.mono HB.out.size)⟩);clear ho2 cr;go_wp2;go_ret;rw[lQ.out];exact⟨a2,c2,rfl,j4.out.1,j4.out.2⟩
  exact absurd HX.out.1 (by rw[e0];omega)
end Go.Proofs.YtbacgnhkapancaaGreat
