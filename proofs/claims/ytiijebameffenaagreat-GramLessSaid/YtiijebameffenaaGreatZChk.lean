import Derived.Test.YtiijebameffenaaGreatZNot
import Derived.BigQuiet
import Derived.Deep.QuietTactic
import Derived.WalkSmall
set_option linter.all false
set_option maxHeartbeats 4000000
set_option maxRecDepth 100000
open Go.Lib (hid)
namespace Go.Proofs.YtiijebameffenaaGreat
open Go.RowKit Go.Proofs.Tryz
theorem PS(p:Nat->Bool)(b:Bool)(h:en p=b)(w:World):
  Calls prog 142 #[(.agg #[.int .u64 ((wd p 0:Nat):Int),.int .u64 ((wd p 1:Nat):Int),.int .u64 ((wd p 2:Nat):Int),.int .u64 ((wd p 3:Nat):Int)])] w fun e w'=>e=.returned (.bool b)/\Below w.heap.size w w':=by
 subst h;exact zjP p w
theorem zhU(l:List Pc)(k:Nat)(hk:k<l.length)(n:Int):eE (l.drop k) n=if kC l[k] n=true then eE (l.drop (k+1)) (n+1-aO l[k].k) else none:=by
 rw[List.drop_eq_getElem_cons hk];rfl
theorem zi0(l:List Pc)(k:Nat)(hk:l.length<=k)(n:Int):eE (l.drop k) n=some n:=by
 rw[List.drop_eq_nil_of_le hk];rfl
theorem znt(l:List Pc)(h:¬400<l.length)(o:Option Int)(ho:eE l 0=o):ll l=if o=some 1 then 0 else 5:=by
 unfold ll;rw[if_neg h,ho]
theorem zf5(w:World)(x:Pc):(w.alloc (.cells #[.int .i64 x.k,.int .u64 ((wd x.p 0:Nat):Int),.int .u64 ((wd x.p 1:Nat):Int),.int .u64 ((wd x.p 2:Nat):Int),.int .u64 ((wd x.p 3:Nat):Int)] 148)).cell? ⟨w.heap.size,0,none⟩=some (.int .i64 x.k)/\(w.alloc (.cells #[.int .i64 x.k,.int .u64 ((wd x.p 0:Nat):Int),.int .u64 ((wd x.p 1:Nat):Int),.int .u64 ((wd x.p 2:Nat):Int),.int .u64 ((wd x.p 3:Nat):Int)] 148)).cell? ⟨w.heap.size,1,none⟩=some (.int .u64 ((wd x.p 0:Nat):Int))/\(w.alloc (.cells #[.int .i64 x.k,.int .u64 ((wd x.p 0:Nat):Int),.int .u64 ((wd x.p 1:Nat):Int),.int .u64 ((wd x.p 2:Nat):Int),.int .u64 ((wd x.p 3:Nat):Int)] 148)).cell? ⟨w.heap.size,2,none⟩=some (.int .u64 ((wd x.p 1:Nat):Int))/\
  (w.alloc (.cells #[.int .i64 x.k,.int .u64 ((wd x.p 0:Nat):Int),.int .u64 ((wd x.p 1:Nat):Int),.int .u64 ((wd x.p 2:Nat):Int),.int .u64 ((wd x.p 3:Nat):Int)] 148)).cell? ⟨w.heap.size,3,none⟩=some (.int .u64 ((wd x.p 2:Nat):Int))/\(w.alloc (.cells #[.int .i64 x.k,.int .u64 ((wd x.p 0:Nat):Int),.int .u64 ((wd x.p 1:Nat):Int),.int .u64 ((wd x.p 2:Nat):Int),.int .u64 ((wd x.p 3:Nat):Int)] 148)).cell? ⟨w.heap.size,4,none⟩=some (.int .u64 ((wd x.p 3:Nat):Int)):=by
 have h:=St.new w 148 #[.int .i64 x.k,.int .u64 ((wd x.p 0:Nat):Int),.int .u64 ((wd x.p 1:Nat):Int),.int .u64 ((wd x.p 2:Nat):Int),.int .u64 ((wd x.p 3:Nat):Int)];refine⟨?_,?_,?_,?_,?_⟩ <;> (rw[cell_of_row _ _ _ _ _ _ h];rfl)
theorem zi1(l:List Pc)(a:Option Addr)(n cap:Nat)(w:World)(hL:mE w a l)(hn:l.length=n)(kF:n<=maxLen):
  Calls prog 112 #[.slice a n cap] w fun e w'=>e=.returned (.int .i64 ((ll l:Nat):Int))/\Below w.heap.size w w':=by
 unfold maxLen at kF;by_cases ox:400<n
 ·have HZ:Hid (ll l=6):=by show _=_;unfold ll;rw[if_pos (by omega)]
  go_enter func112,ntmps112;go_wp2;go_ret;exact⟨by rw[HZ.out];rfl,Below.refl _ _⟩
 have HC:=hid (fun o=>znt l (by omega) o);have HN:=hid hn;have HL:=hid hL;clear hn hL;go_enter func112,ntmps112;go_wp2;go_loopw [3,12] (fun v i wr=>∃(k:Nat) (m:Int),i=.int .i64 k/\k<=n/\v=.int .i64 m/\0<=m/\m<=k/\Hid (eE l 0=eE (l.drop k) m)/\Below w.heap.size w wr) (fun _ i _=>n-(intOf i).toNat)
 ·exact⟨0,0,rfl,Nat.zero_le _,rfl,by omega,by omega,rfl,Below.refl _ _⟩
 obtain⟨k,m,rfl,hk,rfl,oo,iZ,HG,fV⟩:=hrel;by_cases aw:k<n
 ·have hkl:k<l.length:=by rw[HN.out];exact aw
  obtain⟨g,off,rfl,hg,c0,c1,c2,c3,c4⟩:=(HL.out.below (fV.mono (Nat.le_refl _))).get k hkl;have HS:=hid (zhU l k hkl m);have hbw:=fV.size;generalize l[k]=x at c0 c1 c2 c3 c4 HS;obtain⟨t,ht⟩:∃t,aO x.k=t:=⟨_,rfl⟩
  have ht1:-1<=t/\t<=2:=by have:=BH x.k;omega
  have HT:=hid ht;clear ht hkl;go_wp2_with fail;refine (Rw _ _).mono ?_;rintro e w1 ⟨rfl,rfl⟩;rw[HT.out];have HW:Hid (∀W,Below (wr.alloc (.cells #[.int .i64 x.k,.int .u64 ((wd x.p 0:Nat):Int),.int .u64 ((wd x.p 1:Nat):Int),.int .u64 ((wd x.p 2:Nat):Int),.int .u64 ((wd x.p 3:Nat):Int)] 148)).heap.size (wr.alloc (.cells #[.int .i64 x.k,.int .u64 ((wd x.p 0:Nat):Int),.int .u64 ((wd x.p 1:Nat):Int),.int .u64 ((wd x.p 2:Nat):Int),.int .u64 ((wd x.p 3:Nat):Int)] 148)) W->Below w.heap.size w W):=fun W h=>(fV.alloc hbw _).trans (h.mono (by simp;omega))
  obtain⟨d0,d1,d2,d3,d4⟩:=zf5 wr x;by_cases h1:t<0\/m<t
  ·have HZ:Hid (ll l=5):=by
    show _=_;rw[HC.out none (by rw[HG.out,HS.out,if_neg];simp[kC,HT.out];omega),if_neg (by simp)]
   rcases (by omega:t<0\/(0<=t/\m<t)) with h2|⟨h2,h3⟩
   ·have g1:decide (t<0)=true:=(by simp;omega);clear h1;go_wp2_with fail;generalize lY:wr.alloc (.cells #[.int .i64 x.k,.int .u64 ((wd x.p 0:Nat):Int),.int .u64 ((wd x.p 1:Nat):Int),.int .u64 ((wd x.p 2:Nat):Int),.int .u64 ((wd x.p 3:Nat):Int)] 148)=W2 at HW d0 d1 d2 d3 d4⊢;clear lY c0 c1 c2 c3 c4;go_quiet (fail);go_wp2;go_ret;exact⟨by rw[HZ.out];rfl,HW.out _ (below_drewN (Below.refl _ _) _)⟩
   have g1:decide (t<0)=false:=(by simp;omega);have g2:decide (m<t)=true:=(by simp;omega);clear h1;go_wp2_with fail;generalize lY:wr.alloc (.cells #[.int .i64 x.k,.int .u64 ((wd x.p 0:Nat):Int),.int .u64 ((wd x.p 1:Nat):Int),.int .u64 ((wd x.p 2:Nat):Int),.int .u64 ((wd x.p 3:Nat):Int)] 148)=W2 at HW d0 d1 d2 d3 d4⊢;clear lY c0 c1 c2 c3 c4;go_quiet (fail);go_wp2;go_ret;exact⟨by rw[HZ.out];rfl,HW.out _ (below_drewN (Below.refl _ _) _)⟩
  have h2:0<=t:=by omega
  have h3:t<=m:=by omega
  clear h1;have g1:decide (t<0)=false:=by simp;omega
  have g2:decide (m<t)=false:=by simp;omega
  have HO:Hid (kC x m=iH x):=by
   show _=_;simp[kC,HT.out,decide_eq_true h2,decide_eq_true h3]
  obtain⟨b,hb⟩:∃b,en x.p=b:=⟨_,rfl⟩
  obtain⟨b1,fw⟩:∃b1,(x.k == 1)=b1:=⟨_,rfl⟩
  have HB:=hid hb;have jD:Hid (iH x=(b != b1)):=by show _=_;unfold iH;rw[hb,fw]
  clear hb;rcases b1 with _|_ <;> rcases b with _|_
  rotate_left
  rotate_left
  rotate_left
  all_goals
   go_wp2_with fail
   generalize lY:wr.alloc (.cells #[.int .i64 x.k,.int .u64 ((wd x.p 0:Nat):Int),.int .u64 ((wd x.p 1:Nat):Int),.int .u64 ((wd x.p 2:Nat):Int),.int .u64 ((wd x.p 3:Nat):Int)] 148)=W2 at HW d0 d1 d2 d3 d4⊢
   clear lY c0 c1 c2 c3 c4
   have hh:Below W2.heap.size W2 W2.drew:=(Below.refl _ _).drew
   have ng:wr.heap.size<W2.heap.size:=by
    by_cases h:wr.heap.size<W2.heap.size
    ·exact h
    simp[World.cell?,Array.getElem?_eq_none (by omega:W2.heap.size<=wr.heap.size)] at d0
   have HD:=hid (Zz d0 (Zz d1 (Zz d2 (Zz d3 d4))))
   go_region_held3 (fun W'=>W'.cell? ⟨wr.heap.size,0,none⟩=some (.int .i64 x.k)/\W'.cell? ⟨wr.heap.size,1,none⟩=some (.int .u64 ((wd x.p 0:Nat):Int))/\W'.cell? ⟨wr.heap.size,2,none⟩=some (.int .u64 ((wd x.p 1:Nat):Int))/\W'.cell? ⟨wr.heap.size,3,none⟩=some (.int .u64 ((wd x.p 2:Nat):Int))/\W'.cell? ⟨wr.heap.size,4,none⟩=some (.int .u64 ((wd x.p 3:Nat):Int))) (first|exact⟨d0,d1,d2,d3,d4⟩|go_keep)
    (first
     | (go_at_call 142;refine (PS x.p _ HB.out _).mono ?_;rintro e w5 ⟨rfl,b5⟩;have TM:=hh.trans (b5.mono hh.size);clear hh d0 d1 d2 d3 d4;have hh:=TM;clear TM b5;have d0:=(hh.cell (p:=⟨wr.heap.size,0,none⟩) ng).trans HD.out.1;have d1:=(hh.cell (p:=⟨wr.heap.size,1,none⟩) ng).trans HD.out.2.1;have d2:=(hh.cell (p:=⟨wr.heap.size,2,none⟩) ng).trans HD.out.2.2.1;have d3:=(hh.cell (p:=⟨wr.heap.size,3,none⟩) ng).trans HD.out.2.2.2.1;have d4:=(hh.cell (p:=⟨wr.heap.size,4,none⟩) ng).trans HD.out.2.2.2.2))
   have Tj:=hid (HW.out _ hh)
   clear d0 d1 d2 d3 d4 hh
   first
    | (
     have HZ:Hid (ll l=5):=by
      show _=_
      rw[HC.out none (by rw[HG.out,HS.out,if_neg (by rw[HO.out,jD.out];decide)]),if_neg (by simp)]
     go_wp2
     go_ret
     exact⟨by rw[HZ.out];rfl,Tj.out⟩)
    | (
     have HZ:Hid (eE l 0=eE (l.drop (k+1)) (m+(1-t))):=by
      show _=_
      rw[HG.out,HS.out,if_pos (by rw[HO.out,jD.out];decide),HT.out]
      congr 1;omega
     go_wp2
     go_roundw
     case rel=>exact⟨k+1,m+(1-t),by go_num,by omega,rfl,by omega,by omega,HZ,Tj.out⟩
     case measure=>simp[intOf];omega)
 obtain rfl:k=n:=by omega
 have HE:Hid (ll l=if some m=some 1 then 0 else 5):=by
  show _=_;rw[HC.out (some m) (by rw[HG.out,zi0 l k (by rw[HN.out];exact Nat.le_refl _)])]
 by_cases h1:m=1
 ·have HZ:Hid (ll l=0):=by show _=_;rw[HE.out,if_pos (by rw[h1])]
  subst h1;go_wp2;go_ret;exact⟨by rw[HZ.out];rfl,fV⟩
 have HZ:Hid (ll l=5):=by show _=_;rw[HE.out,if_neg (by simpa using h1)]
 have e1:(m != 1)=true:=by simpa using h1
 go_wp2;go_ret;exact⟨by rw[HZ.out];rfl,fV⟩
end Go.Proofs.YtiijebameffenaaGreat
