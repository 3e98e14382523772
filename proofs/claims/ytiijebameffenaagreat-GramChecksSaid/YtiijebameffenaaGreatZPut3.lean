import Derived.Test.YtiijebameffenaaGreatZNNew
set_option linter.all false
set_option maxHeartbeats 4000000
set_option maxRecDepth 100000
open Go.Lib (hid)
namespace Go.Proofs.YtiijebameffenaaGreat
open Go.RowKit Go.Proofs.Tryz
def Flags(w:World)(b:Nat)(p:Nat->Bool):Prop:=∃cs,St w 4 b cs/\cs.size=256/\∀j,j<256->cs[j]?=some (.bool (p j))
theorem Flags.lt{w:World}{b:Nat}{p:Nat->Bool}(h:Flags w b p):b<w.heap.size:=by obtain⟨cs,h,_⟩:=h;exact h.lt
theorem Flags.cell{w:World}{b:Nat}{p:Nat->Bool}(h:Flags w b p)(j:Nat)(hj:j<256):w.cell? ⟨b,j,none⟩=some (.bool (p j))/\w.frozen? ⟨b,j,none⟩=false:=by
 obtain⟨cs,h,_,hc⟩:=h;have h':w.heap[b]?=some (.cells cs 4 (0,0)):=h;exact⟨by rw[cell_of_row w b j _ _ _ h',hc j hj],frozen_of_row w b j _ _ h'⟩
theorem Flags.set{w:World}{b:Nat}{p:Nat->Bool}(h:Flags w b p)(k:Nat)(hk:k<256):Flags (w.setCell ⟨b,k,none⟩ (.bool true)) b (ins p k):=by
 obtain⟨cs,h,hs,hc⟩:=h;refine⟨_,h.set k _,by simpa using hs,fun j hj=>?_⟩;rw[Array.getElem?_setIfInBounds];by_cases e:k=j
 ·subst e;rw[if_pos rfl,if_pos (by omega)];simp[ins]
 rw[if_neg e,hc j hj];have:(j == k)=false:=by simp;omega
 simp[ins,this]
theorem Flags.ae{w w':World}{b:Nat}{p:Nat->Bool}(h:Flags w b p)(k:ϐ w w'):Flags w' b p:=by
 obtain⟨cs,h,r⟩:=h;exact⟨cs,h.ae k,r⟩
structure Two (w:World)(bs ba:Nat)(p q:Nat->Bool)(wr:World):Prop where
 s:Flags wr bs p
 a:Flags wr ba q
 ne:bs≠ba
 hs:w.heap.size<=bs
 ha:w.heap.size<=ba
 below:ϐ w wr
theorem DJ(p q:Nat->Bool)(w:World):
  Calls prog 183 #[.int .i64 3,(.agg #[.int .u64 (wd p 0),.int .u64 (wd p 1),.int .u64 (wd p 2),.int .u64 (wd p 3)]),(.agg #[.int .u64 (wd q 0),.int .u64 (wd q 1),.int .u64 (wd q 2),.int .u64 (wd q 3)])] w fun e w'=>e=.returned (.agg #[.int .u64 ((wd ((fun x=>!p x)) 0:Nat):Int),.int .u64 ((wd ((fun x=>!p x)) 1:Nat):Int),.int .u64 ((wd ((fun x=>!p x)) 2:Nat):Int),.int .u64 ((wd ((fun x=>!p x)) 3:Nat):Int)])/\ϐ w w':=by
 obtain⟨i0,hi,dP,dc,db⟩:=info_parts kt;obtain⟨g,hg⟩:∃g:Nat->Bool,g=fun x=>!p x:=⟨_,rfl⟩
 rw[<-hg];have HG:=hid hg;clear hg;go_in;go_wp2;go_loopw [7,8] (fun v i wr=>∃k:Nat,i=.int .i64 k/\k<=256/\iw w p q g k v wr) (fun _ i _=>256-(intOf i).toNat)
 ·exact⟨0,rfl,Nat.zero_le _,iw.start w p q g⟩
 obtain⟨k,rfl,hk,R⟩:=hrel;obtain⟨r0,r1,r2,r3,r4,r5,r6,r7⟩:=bZ R.s0;obtain⟨q0,q1,q2,q3,q4,q5,q6,q7⟩:=bZ R.s1;by_cases aq:k<256
 ·go_wp2_with fail
  go_region_held3 (fun W'=>W'.cell? ⟨w.heap.size,0,none⟩=some (.int .u64 (wd p 0))/\W'.cell? ⟨w.heap.size,1,none⟩=some (.int .u64 (wd p 1))/\W'.cell? ⟨w.heap.size,2,none⟩=some (.int .u64 (wd p 2))/\W'.cell? ⟨w.heap.size,3,none⟩=some (.int .u64 (wd p 3))/\W'.cell? ⟨w.heap.size+1,0,none⟩=some (.int .u64 (wd q 0))/\W'.cell? ⟨w.heap.size+1,1,none⟩=some (.int .u64 (wd q 1))/\W'.cell? ⟨w.heap.size+1,2,none⟩=some (.int .u64 (wd q 2))/\W'.cell? ⟨w.heap.size+1,3,none⟩=some (.int .u64 (wd q 3))) (go_keep)
   (first
    | (go_at_call 108;have _t:=b5;refine (SQ _ k aq _).mono ?_;rintro e w6 ⟨rfl,mo⟩;have b6:ϐ w5 w6:=(by first|exact mo|exact Xo mo);have R6:=R5.ae b6;obtain⟨z0,z1,z2,z3,z4,z5,z6,z7⟩:=bZ R6.s0;obtain⟨x0,x1,x2,x3,x4,x5,x6,x7⟩:=bZ R6.s1;clear _t)
    | (go_at_call 108;refine (SQ _ k aq _).mono ?_;rintro e w5 ⟨rfl,AR⟩;have b5:ϐ wr w5:=(by first|exact AR|exact Xo AR);have R5:=R.ae b5;obtain⟨y0,y1,y2,y3,y4,y5,y6,y7⟩:=bZ R5.s0;obtain⟨u0,u1,u2,u3,u4,u5,u6,u7⟩:=bZ R5.s1))
  all_goals
   have az:=R6.own
   have cQ:=R6.size
   have Ky:=hid R6
   clear R R5 R6 b5 b6 AR mo r0 r1 r2 r3 r4 r5 r6 r7 q0 q1 q2 q3 q4 q5 q6 q7 y0 y1 y2 y3 y4 y5 y6 y7 u0 u1 u2 u3 u4 u5 u6 u7 z0 z1 z2 z3 z4 z5 z6 z7 x0 x1 x2 x3 x4 x5 x6 x7
   obtain⟨a,cap,rfl⟩:=cy az
   have Uh:g k=(!p k):=congrFun HG.o k
   obtain⟨pk,Ai⟩:∃c,p k=c:=⟨_,rfl⟩
   obtain⟨qk,SB⟩:∃c,q k=c:=⟨_,rfl⟩
   rw[Ai] at Uh
   have KS:=hid Uh
   rw[Ai,SB]
   clear Ai SB Uh
   cases pk <;> cases qk
   all_goals
    first
     | (
      go_wp2_with (at_builtin;refine wpList_append_own _ rfl _ _ 129 rfl (w.heap.size+3) 4 i0 (.bool false) 1 1 underlying129 hi dP dc db rfl (by decide) _ _ _ rfl (az.alloc _) ⟨w6.heap.size,0,none⟩ 1 1 [.bool true] rfl rfl ?_ ?_ ?_ ?_ ?_ ?_)
      ·intro j u hj
       match j,hj with
       | 0,hj=>simp at hj;subst hj;simp[Addr.add]
      ·intro u hu;simp at hu;subst hu;rfl
      ·unfold maxLen;omega
      ·omega
      ·simp;omega
      ·intro v' w7 lI jY _
       have LZ:Below (w.heap.size+3) w6 w7:=((Below.refl _ w6).alloc cQ _).trans (EE jY (az.alloc _) (by simp;omega))
       have R7:iw w p q g (k+1) v' w7:=Ky.o.yw LZ (by rw[ziG,KS.o];exact lI)
       clear lI jY az LZ
       go_wp2
       go_roundw
       case rel=>exact⟨k+1,by go_num,by omega,R7⟩
       case measure=>simp[intOf];omega)
     | (
      go_wp2_with (at_builtin;refine wpList_append_own _ rfl _ _ 129 rfl (w.heap.size+3) 4 i0 (.bool false) 1 1 underlying129 hi dP dc db rfl (by decide) _ _ _ rfl (az.alloc _) ⟨w6.heap.size,0,none⟩ 1 1 [.bool false] rfl rfl ?_ ?_ ?_ ?_ ?_ ?_)
      ·intro j u hj
       match j,hj with
       | 0,hj=>simp at hj;subst hj;simp[Addr.add]
      ·intro u hu;simp at hu;subst hu;rfl
      ·unfold maxLen;omega
      ·omega
      ·simp;omega
      ·intro v' w7 lI jY _
       have LZ:Below (w.heap.size+3) w6 w7:=((Below.refl _ w6).alloc cQ _).trans (EE jY (az.alloc _) (by simp;omega))
       have R7:iw w p q g (k+1) v' w7:=Ky.o.yw LZ (by rw[ziG,KS.o];exact lI)
       clear lI jY az LZ
       go_wp2
       go_roundw
       case rel=>exact⟨k+1,by go_num,by omega,R7⟩
       case measure=>simp[intOf];omega)
 obtain rfl:k=256:=by omega
 obtain⟨x0,x1,x2,x3,x4,x5,x6,x7⟩:=bZ R.s2;obtain⟨a,cap,rfl⟩:=cy R.own;obtain⟨b,rfl,hb,hc⟩:=R.flags;go_wp2_with fail;refine (Se g b 0 cap _ hb hc).mono ?_;rintro e w3 ⟨rfl,b3⟩;have s2:=R.s2.ae b3;have bg:=R.below.trans (b3.mono R.below.size);have lu:=s2.lt;obtain⟨y0,y1,y2,y3,y4,y5,y6,y7⟩:=bZ s2;clear R b3 s2 hc x0 x1 x2 x3 x4 x5 x6 x7 r0 r1 r2 r3 r4 r5 r6 r7 q0 q1 q2 q3 q4 q5 q6 q7;go_wp2_with fail;exact bodyPost_ret (v:=(.agg #[.int .u64 (wd g 0),.int .u64 (wd g 1),.int .u64 (wd g 2),.int .u64 (wd g 3)])) (by simp[results,results183,go_sem,y0,y1,y2,y3]) rfl ⟨rfl,td bg (by omega) _ _ _ _⟩
