import Derived.Test.YtkkhakmdjinenaaGreatZNNew
set_option linter.all false
set_option maxHeartbeats 4000000
set_option maxRecDepth 100000
open Go.Lib (hid)
namespace Go.Proofs.YtkkhakmdjinenaaGreat
open Go.RowKit Go.Proofs.Tryz
def Flags(w:World)(b:Nat)(p:Nat->Bool):Prop:=∃cs,St w 4 b cs/\cs.size=256/\∀j,j<256->cs[j]?=some (.bool (p j))
theorem Flags.lt{w:World}{b:Nat}{p:Nat->Bool}(h:Flags w b p):b<w.heap.size:=by obtain⟨cs,h,_⟩:=h;exact h.lt
theorem Flags.cell{w:World}{b:Nat}{p:Nat->Bool}(h:Flags w b p)(j:Nat)(hj:j<256):w.cell? ⟨b,j,none⟩=some (.bool (p j))/\w.frozen? ⟨b,j,none⟩=false:=by
 obtain⟨cs,h,_,hc⟩:=h;have h':w.heap[b]?=some (.cells cs 4 (0,0)):=h;exact⟨by rw[cell_of_row w b j _ _ _ h',hc j hj],frozen_of_row w b j _ _ h'⟩
theorem Flags.set{w:World}{b:Nat}{p:Nat->Bool}(h:Flags w b p)(k:Nat)(hk:k<256):Flags (w.setCell ⟨b,k,none⟩ (.bool true)) b (ins p k):=by
 obtain⟨cs,h,hs,hc⟩:=h;refine⟨_,h.set k _,by simpa using hs,fun j hj=>?_⟩;rw[Array.getElem?_setIfInBounds];by_cases e:k=j
 ·subst e;rw[if_pos rfl,if_pos (by omega)];simp[ins]
 rw[if_neg e,hc j hj];have:(j == k)=false:=by simp;omega
 simp[ins,this]
theorem Flags.ab{w w':World}{b:Nat}{p:Nat->Bool}(h:Flags w b p)(k:Below w.heap.size w w'):Flags w' b p:=by
 obtain⟨cs,h,r⟩:=h;exact⟨cs,h.ab k,r⟩
structure Two (w:World)(bs ba:Nat)(p q:Nat->Bool)(wr:World):Prop where
 s:Flags wr bs p
 a:Flags wr ba q
 ne:bs≠ba
 hs:w.heap.size<=bs
 ha:w.heap.size<=ba
 below:Below w.heap.size w wr
theorem Dl(p q:Nat->Bool)(w:World):
  Calls prog 146 #[.int .i64 3,(.agg #[.int .u64 (wd p 0),.int .u64 (wd p 1),.int .u64 (wd p 2),.int .u64 (wd p 3)]),(.agg #[.int .u64 (wd q 0),.int .u64 (wd q 1),.int .u64 (wd q 2),.int .u64 (wd q 3)])] w fun e w'=>e=.returned (.agg #[.int .u64 ((wd ((fun x=>!p x)) 0:Nat):Int),.int .u64 ((wd ((fun x=>!p x)) 1:Nat):Int),.int .u64 ((wd ((fun x=>!p x)) 2:Nat):Int),.int .u64 ((wd ((fun x=>!p x)) 3:Nat):Int)])/\Below w.heap.size w w':=by
 obtain⟨i0,hi,dv,cP,cG⟩:=info_parts ke;obtain⟨g,hg⟩:∃g:Nat->Bool,g=fun x=>!p x:=⟨_,rfl⟩
 rw[<-hg];have HG:=hid hg;clear hg;go_in;go_wp2;go_loopw [7,8] (fun v i wr=>∃k:Nat,i=.int .i64 k/\k<=256/\iw w p q g k v wr) (fun _ i _=>256-(intOf i).toNat)
 ·exact⟨0,rfl,Nat.zero_le _,iw.start w p q g⟩
 obtain⟨k,rfl,hk,R⟩:=hrel;obtain⟨r0,r1,r2,r3,r4,r5,r6,r7⟩:=bQ R.s0;obtain⟨q0,q1,q2,q3,q4,q5,q6,q7⟩:=bQ R.s1;by_cases aq:k<256
 ·go_wp2_with fail
  go_region_held3 (fun W'=>W'.cell? ⟨w.heap.size,0,none⟩=some (.int .u64 (wd p 0))/\W'.cell? ⟨w.heap.size,1,none⟩=some (.int .u64 (wd p 1))/\W'.cell? ⟨w.heap.size,2,none⟩=some (.int .u64 (wd p 2))/\W'.cell? ⟨w.heap.size,3,none⟩=some (.int .u64 (wd p 3))/\W'.cell? ⟨w.heap.size+1,0,none⟩=some (.int .u64 (wd q 0))/\W'.cell? ⟨w.heap.size+1,1,none⟩=some (.int .u64 (wd q 1))/\W'.cell? ⟨w.heap.size+1,2,none⟩=some (.int .u64 (wd q 2))/\W'.cell? ⟨w.heap.size+1,3,none⟩=some (.int .u64 (wd q 3))) (go_keep)
   (first
    | (go_at_call 52;have _t:=b5;refine (Ox _ k aq _).mono ?_;rintro e w6 ⟨rfl,lQ⟩;have b6:Below w5.heap.size w5 w6:=(by first|exact lQ|exact XJ lQ);have R6:=R5.ab b6;obtain⟨z0,z1,z2,z3,z4,z5,z6,z7⟩:=bQ R6.s0;obtain⟨x0,x1,x2,x3,x4,x5,x6,x7⟩:=bQ R6.s1;clear _t)
    | (go_at_call 52;refine (Ox _ k aq _).mono ?_;rintro e w5 ⟨rfl,zG⟩;have b5:Below wr.heap.size wr w5:=(by first|exact zG|exact XJ zG);have R5:=R.ab b5;obtain⟨y0,y1,y2,y3,y4,y5,y6,y7⟩:=bQ R5.s0;obtain⟨u0,u1,u2,u3,u4,u5,u6,u7⟩:=bQ R5.s1))
  all_goals
   have az:=R6.own
   have dc:=R6.size
   have HR6:=hid R6
   clear R R5 R6 b5 b6 zG lQ r0 r1 r2 r3 r4 r5 r6 r7 q0 q1 q2 q3 q4 q5 q6 q7 y0 y1 y2 y3 y4 y5 y6 y7 u0 u1 u2 u3 u4 u5 u6 u7 z0 z1 z2 z3 z4 z5 z6 z7 x0 x1 x2 x3 x4 x5 x6 x7
   obtain⟨a,cap,rfl⟩:=bP az
   have QX:g k=(!p k):=congrFun HG.out k
   obtain⟨pk,zp⟩:∃c,p k=c:=⟨_,rfl⟩
   obtain⟨qk,PV⟩:∃c,q k=c:=⟨_,rfl⟩
   rw[zp] at QX
   have Iq:=hid QX
   rw[zp,PV]
   clear zp PV QX
   cases pk <;> cases qk
   all_goals
    first
     | (
      go_wp2_with (at_builtin;refine wpList_append_own _ rfl _ _ 64 rfl (w.heap.size+3) 4 i0 (.bool false) 1 1 underlying64 hi dv cP cG rfl (by decide) _ _ _ rfl (az.alloc _) ⟨w6.heap.size,0,none⟩ 1 1 [.bool true] rfl rfl ?_ ?_ ?_ ?_ ?_ ?_)
      ·intro j u hj
       match j,hj with
       | 0,hj=>simp at hj;subst hj;simp[Addr.add]
      ·intro u hu;simp at hu;subst hu;rfl
      ·unfold maxLen;omega
      ·omega
      ·simp;omega
      ·intro v' w7 rC nO _
       have Jg:Below (w.heap.size+3) w6 w7:=((Below.refl _ w6).alloc dc _).trans (EK nO (az.alloc _) (by simp;omega))
       have R7:iw w p q g (k+1) v' w7:=HR6.out.xD Jg (by rw[Wp,Iq.out];exact rC)
       clear rC nO az Jg
       go_wp2
       go_roundw
       case rel=>exact⟨k+1,by go_num,by omega,R7⟩
       case measure=>simp[intOf];omega)
     | (
      go_wp2_with (at_builtin;refine wpList_append_own _ rfl _ _ 64 rfl (w.heap.size+3) 4 i0 (.bool false) 1 1 underlying64 hi dv cP cG rfl (by decide) _ _ _ rfl (az.alloc _) ⟨w6.heap.size,0,none⟩ 1 1 [.bool false] rfl rfl ?_ ?_ ?_ ?_ ?_ ?_)
      ·intro j u hj
       match j,hj with
       | 0,hj=>simp at hj;subst hj;simp[Addr.add]
      ·intro u hu;simp at hu;subst hu;rfl
      ·unfold maxLen;omega
      ·omega
      ·simp;omega
      ·intro v' w7 rC nO _
       have Jg:Below (w.heap.size+3) w6 w7:=((Below.refl _ w6).alloc dc _).trans (EK nO (az.alloc _) (by simp;omega))
       have R7:iw w p q g (k+1) v' w7:=HR6.out.xD Jg (by rw[Wp,Iq.out];exact rC)
       clear rC nO az Jg
       go_wp2
       go_roundw
       case rel=>exact⟨k+1,by go_num,by omega,R7⟩
       case measure=>simp[intOf];omega)
 obtain rfl:k=256:=by omega
 obtain⟨x0,x1,x2,x3,x4,x5,x6,x7⟩:=bQ R.s2;obtain⟨a,cap,rfl⟩:=bP R.own;obtain⟨b,rfl,hb,hc⟩:=R.flags;go_wp2_with fail;refine (T8 g b 0 cap _ hb hc).mono ?_;rintro e w3 ⟨rfl,b3⟩;have s2:=R.s2.ab b3;have bp:=R.below.trans (b3.mono R.below.size);have mQ:=s2.lt;obtain⟨y0,y1,y2,y3,y4,y5,y6,y7⟩:=bQ s2;clear R b3 s2 hc x0 x1 x2 x3 x4 x5 x6 x7 r0 r1 r2 r3 r4 r5 r6 r7 q0 q1 q2 q3 q4 q5 q6 q7;go_wp2_with fail;exact bodyPost_ret (v:=(.agg #[.int .u64 (wd g 0),.int .u64 (wd g 1),.int .u64 (wd g 2),.int .u64 (wd g 3)])) (by simp[results,results146,go_sem,y0,y1,y2,y3]) rfl ⟨rfl,qA bp (by omega) _ _ _ _⟩
