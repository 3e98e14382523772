import Derived.Test.YtiijebameffenaaGreatZNot
import Derived.BigQuiet
import Derived.Deep.QuietTactic
import Derived.WalkSmall
set_option linter.all false
set_option maxHeartbeats 4000000
set_option maxRecDepth 100000
open Go.Lib (hid)
namespace Go.Proofs.YtiijebameffenaaGreat
open Go.RowKit Go.Proofs.Tryz
theorem Sw(p:Nat->Bool)(b:Bool)(h:eD p=b)(w:World):
  Calls prog 142 #[(.agg #[.int .u64 (wd p 0),.int .u64 (wd p 1),.int .u64 (wd p 2),.int .u64 (wd p 3)])] w fun e w'=>e=.returned (.bool b)/\ϐ w w':=by
 subst h;exact zlD p w
theorem zjt(l:List Pc)(k:Nat)(hk:k<l.length)(n:Int):fJ (l.drop k) n=if lB l[k] n=true then fJ (l.drop (k+1)) (n+1-aG l[k].k) else none:=by
 rw[List.drop_eq_getElem_cons hk];rfl
theorem zkH(l:List Pc)(k:Nat)(hk:l.length<=k)(n:Int):fJ (l.drop k) n=some n:=by
 rw[List.drop_eq_nil_of_le hk];rfl
theorem zpy(l:List Pc)(h:¬400<l.length)(o:Option Int)(ho:fJ l 0=o):mc l=if o=some 1 then 0 else 5:=by
 unfold mc;rw[if_neg h,ho]
theorem zhc(w:World)(x:Pc):(w.alloc (.cells #[.int .i64 x.k,.int .u64 (wd x.p 0),.int .u64 (wd x.p 1),.int .u64 (wd x.p 2),.int .u64 (wd x.p 3)] 148)).cell? ⟨w.heap.size,0,none⟩=some (.int .i64 x.k)/\(w.alloc (.cells #[.int .i64 x.k,.int .u64 (wd x.p 0),.int .u64 (wd x.p 1),.int .u64 (wd x.p 2),.int .u64 (wd x.p 3)] 148)).cell? ⟨w.heap.size,1,none⟩=some (.int .u64 (wd x.p 0))/\(w.alloc (.cells #[.int .i64 x.k,.int .u64 (wd x.p 0),.int .u64 (wd x.p 1),.int .u64 (wd x.p 2),.int .u64 (wd x.p 3)] 148)).cell? ⟨w.heap.size,2,none⟩=some (.int .u64 (wd x.p 1))/\
  (w.alloc (.cells #[.int .i64 x.k,.int .u64 (wd x.p 0),.int .u64 (wd x.p 1),.int .u64 (wd x.p 2),.int .u64 (wd x.p 3)] 148)).cell? ⟨w.heap.size,3,none⟩=some (.int .u64 (wd x.p 2))/\(w.alloc (.cells #[.int .i64 x.k,.int .u64 (wd x.p 0),.int .u64 (wd x.p 1),.int .u64 (wd x.p 2),.int .u64 (wd x.p 3)] 148)).cell? ⟨w.heap.size,4,none⟩=some (.int .u64 (wd x.p 3)):=by
 have h:=St.new w 148 #[.int .i64 x.k,.int .u64 (wd x.p 0),.int .u64 (wd x.p 1),.int .u64 (wd x.p 2),.int .u64 (wd x.p 3)];refine⟨?_,?_,?_,?_,?_⟩ <;> (rw[cell_of_row _ _ _ _ _ _ h];rfl)
theorem zkI(l:List Pc)(a:Option Addr)(n cap:Nat)(w:World)(hL:iq w a l)(hn:l.length=n)(dZ:n<=maxLen):
  Calls prog 112 #[.slice a n cap] w fun e w'=>e=.returned (.int .i64 (mc l))/\ϐ w w':=by
 unfold maxLen at dZ;by_cases iZ:400<n
 ·have HZ:Hid (mc l=6):=by show _=_;unfold mc;rw[if_pos (by omega)]
  go_in;go_wp2;go_ret;exact⟨by rw[HZ.o];rfl,Below.refl _ _⟩
 have HC:=hid (fun o=>zpy l (by omega) o);have HN:=hid hn;have HL:=hid hL;clear hn hL;go_in;go_wp2;go_loopw [3,12] (fun v i wr=>∃(k:Nat) (m:Int),i=.int .i64 k/\k<=n/\v=.int .i64 m/\0<=m/\m<=k/\Hid (fJ l 0=fJ (l.drop k) m)/\ϐ w wr) (fun _ i _=>n-(intOf i).toNat)
 ·exact⟨0,0,rfl,Nat.zero_le _,rfl,by omega,by omega,rfl,Below.refl _ _⟩
 obtain⟨k,m,rfl,hk,rfl,pH,gP,HG,bg⟩:=hrel;by_cases aq:k<n
 ·have hkl:k<l.length:=by rw[HN.o];exact aq
  obtain⟨g,off,rfl,hg,c0,c1,c2,c3,c4⟩:=(HL.o.below (bg.mono (Nat.le_refl _))).get k hkl;have HS:=hid (zjt l k hkl m);have hbw:=bg.size;generalize l[k]=x at c0 c1 c2 c3 c4 HS;obtain⟨t,ht⟩:=Ξ (aG x.k)
  have UJ:-1<=t/\t<=2:=by have:=tO x.k;omega
  have HT:=hid ht;clear ht hkl;go_wp2_with fail;refine (UR _ _).mono ?_;rintro e w1 ⟨rfl,rfl⟩;rw[HT.o];have HW:Hid (∀W,Below (wr.alloc (.cells #[.int .i64 x.k,.int .u64 (wd x.p 0),.int .u64 (wd x.p 1),.int .u64 (wd x.p 2),.int .u64 (wd x.p 3)] 148)).heap.size (wr.alloc (.cells #[.int .i64 x.k,.int .u64 (wd x.p 0),.int .u64 (wd x.p 1),.int .u64 (wd x.p 2),.int .u64 (wd x.p 3)] 148)) W->ϐ w W):=fun W h=>(bg.alloc hbw _).trans (h.mono (by simp;omega))
  obtain⟨d0,d1,d2,d3,d4⟩:=zhc wr x;by_cases h1:t<0\/m<t
  ·have HZ:Hid (mc l=5):=by
    show _=_;rw[HC.o none (by rw[HG.o,HS.o,if_neg];simp[lB,HT.o];omega),if_neg (by simp)]
   rcases (by omega:t<0\/(0<=t/\m<t)) with h2|⟨h2,h3⟩
   ·have g1:decide (t<0)=true:=(by simp;omega);clear h1;go_wp2_with fail;generalize lQ:wr.alloc (.cells #[.int .i64 x.k,.int .u64 (wd x.p 0),.int .u64 (wd x.p 1),.int .u64 (wd x.p 2),.int .u64 (wd x.p 3)] 148)=W2 at HW d0 d1 d2 d3 d4⊢;clear lQ c0 c1 c2 c3 c4;go_quiet (fail);go_wp2;go_ret;exact⟨by rw[HZ.o];rfl,HW.o _ (below_drewN (Below.refl _ _) _)⟩
   have g1:decide (t<0)=false:=(by simp;omega);have g2:decide (m<t)=true:=(by simp;omega);clear h1;go_wp2_with fail;generalize lQ:wr.alloc (.cells #[.int .i64 x.k,.int .u64 (wd x.p 0),.int .u64 (wd x.p 1),.int .u64 (wd x.p 2),.int .u64 (wd x.p 3)] 148)=W2 at HW d0 d1 d2 d3 d4⊢;clear lQ c0 c1 c2 c3 c4;go_quiet (fail);go_wp2;go_ret;exact⟨by rw[HZ.o];rfl,HW.o _ (below_drewN (Below.refl _ _) _)⟩
  have h2:0<=t:=by omega
  have h3:t<=m:=by omega
  clear h1;have g1:decide (t<0)=false:=by simp;omega
  have g2:decide (m<t)=false:=by simp;omega
  have HO:Hid (lB x m=jI x):=by
   show _=_;simp[lB,HT.o,decide_eq_true h2,decide_eq_true h3]
  obtain⟨b,hb⟩:=Ξ (eD x.p)
  obtain⟨b1,fT⟩:=Ξ (x.k == 1)
  have HB:=hid hb;have kF:Hid (jI x=(b != b1)):=by show _=_;unfold jI;rw[hb,fT]
  clear hb;rcases b1 with _|_ <;> rcases b with _|_
  rotate_left
  rotate_left
  rotate_left
  all_goals
   go_wp2_with fail
   generalize lQ:wr.alloc (.cells #[.int .i64 x.k,.int .u64 (wd x.p 0),.int .u64 (wd x.p 1),.int .u64 (wd x.p 2),.int .u64 (wd x.p 3)] 148)=W2 at HW d0 d1 d2 d3 d4⊢
   clear lQ c0 c1 c2 c3 c4
   have hh:ϐ W2 W2.drew:=(Below.refl _ _).drew
   have lu:wr.heap.size<W2.heap.size:=by
    by_cases h:wr.heap.size<W2.heap.size
    ·exact h
    simp[World.cell?,Array.getElem?_eq_none (by omega:W2.heap.size<=wr.heap.size)] at d0
   have HD:=φ d0 d1 d2 d3 d4
   go_region_held3 (fun W'=>W'.cell? ⟨wr.heap.size,0,none⟩=some (.int .i64 x.k)/\W'.cell? ⟨wr.heap.size,1,none⟩=some (.int .u64 (wd x.p 0))/\W'.cell? ⟨wr.heap.size,2,none⟩=some (.int .u64 (wd x.p 1))/\W'.cell? ⟨wr.heap.size,3,none⟩=some (.int .u64 (wd x.p 2))/\W'.cell? ⟨wr.heap.size,4,none⟩=some (.int .u64 (wd x.p 3))) (first|exact⟨d0,d1,d2,d3,d4⟩|go_keep)
    (first
     | (go_at_call 142;refine (Sw x.p _ HB.o _).mono ?_;rintro e w5 ⟨rfl,b5⟩;have Xj:=hh.trans (b5.mono hh.size);clear hh d0 d1 d2 d3 d4;have hh:=Xj;clear Xj b5;have d0:=(hh.cell (p:=⟨wr.heap.size,0,none⟩) lu).trans HD.o.1;have d1:=(hh.cell (p:=⟨wr.heap.size,1,none⟩) lu).trans HD.o.2.1;have d2:=(hh.cell (p:=⟨wr.heap.size,2,none⟩) lu).trans HD.o.2.2.1;have d3:=(hh.cell (p:=⟨wr.heap.size,3,none⟩) lu).trans HD.o.2.2.2.1;have d4:=(hh.cell (p:=⟨wr.heap.size,4,none⟩) lu).trans HD.o.2.2.2.2))
   have Zd:=hid (HW.o _ hh)
   clear d0 d1 d2 d3 d4 hh
   first
    | (
     have HZ:Hid (mc l=5):=by
      show _=_
      rw[HC.o none (by rw[HG.o,HS.o,if_neg (by rw[HO.o,kF.o];decide)]),if_neg (by simp)]
     go_wp2
     go_ret
     exact⟨by rw[HZ.o];rfl,Zd.o⟩)
    | (
     have HZ:Hid (fJ l 0=fJ (l.drop (k+1)) (m+(1-t))):=by
      show _=_
      rw[HG.o,HS.o,if_pos (by rw[HO.o,kF.o];decide),HT.o]
      congr 1;omega
     go_wp2
     go_roundw
     case rel=>exact⟨k+1,m+(1-t),by go_num,by omega,rfl,by omega,by omega,HZ,Zd.o⟩
     case measure=>simp[intOf];omega)
 obtain rfl:k=n:=by omega
 have HE:Hid (mc l=if some m=some 1 then 0 else 5):=by
  show _=_;rw[HC.o (some m) (by rw[HG.o,zkH l k (by rw[HN.o];exact Nat.le_refl _)])]
 by_cases h1:m=1
 ·have HZ:Hid (mc l=0):=by show _=_;rw[HE.o,if_pos (by rw[h1])]
  subst h1;go_wp2;go_ret;exact⟨by rw[HZ.o];rfl,bg⟩
 have HZ:Hid (mc l=5):=by show _=_;rw[HE.o,if_neg (by simpa using h1)]
 have e1:(m != 1)=true:=by simpa using h1
 go_wp2;go_ret;exact⟨by rw[HZ.o];rfl,bg⟩
