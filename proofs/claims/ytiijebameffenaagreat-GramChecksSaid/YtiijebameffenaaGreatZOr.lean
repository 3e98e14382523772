import Derived.Test.YtiijebameffenaaGreatZNMath
import Derived.BigRegion
import Derived.LoopTactic
set_option linter.all false
namespace Go.Proofs.YtiijebameffenaaGreat
open Go.RowKit Go.Proofs.Tryz
def mixed(f:Bool->Bool->Bool)(p q:Nat->Bool)(i:Nat):Nat->Bool:=fun x=>if x<64*i then f (p x) (q x) else p x
theorem zjU(f:Bool->Bool->Bool)(p q:Nat->Bool):mixed f p q 0=p:=by funext x;simp[mixed]
theorem zjV(f:Bool->Bool->Bool)(p q:Nat->Bool)(k:Nat):wd (mixed f p q k) k=wd p k:=uH fun r _=>by simp only[mixed];rw[if_neg (by omega)]
theorem zjW(f:Bool->Bool->Bool)(p q:Nat->Bool)(k:Nat):wd (mixed f p q (k+1)) k=wd (fun x=>f (p x) (q x)) k:=uH fun r _=>by simp only[mixed];rw[if_pos (by omega)]
theorem xB(f:Bool->Bool->Bool)(p q:Nat->Bool)(k j:Nat)(h:j≠k):wd (mixed f p q (k+1)) j=wd (mixed f p q k) j:=uH fun r _=>by
 simp only[mixed]
 by_cases h1:64*j+r<64*k
 ·rw[if_pos h1,if_pos (by omega)]
 ·rw[if_neg h1,if_neg (by omega)]
theorem OV(f:Bool->Bool->Bool)(p q:Nat->Bool)(j:Nat)(hj:j<4):wd (mixed f p q 4) j=wd (fun x=>f (p x) (q x)) j:=uH fun r _=>by simp only[mixed];rw[if_pos (by omega)]
structure iJ (w:World)(m q:Nat->Bool)(wr:World):Prop where
 s0:St wr 146 w.heap.size #[.int .u64 (wd m 0),.int .u64 (wd m 1),.int .u64 (wd m 2),.int .u64 (wd m 3)]
 s1:St wr 146 (w.heap.size+1) #[.int .u64 (wd q 0),.int .u64 (wd q 1),.int .u64 (wd q 2),.int .u64 (wd q 3)]
 s2:St wr 146 (w.heap.size+1+1) #[.int .u64 0,.int .u64 0,.int .u64 0,.int .u64 0]
 below:ϐ w wr
theorem iJ.start(w:World)(p q:Nat->Bool):iJ w p q (((w.alloc (.cells #[.int .u64 (wd p 0),.int .u64 (wd p 1),.int .u64 (wd p 2),.int .u64 (wd p 3)] 146)).alloc (.cells #[.int .u64 (wd q 0),.int .u64 (wd q 1),.int .u64 (wd q 2),.int .u64 (wd q 3)] 146)).alloc (.cells #[.int .u64 0,.int .u64 0,.int .u64 0,.int .u64 0] 146)):=by
 refine⟨?_,?_,?_,(((Below.refl _ _).alloc (Nat.le_refl _) _).alloc (by simp) _).alloc (by simp;omega) _⟩
 ·exact ((St.new _ _ _).alloc _).alloc _
 ·have:=(St.new (w.alloc (.cells #[.int .u64 (wd p 0),.int .u64 (wd p 1),.int .u64 (wd p 2),.int .u64 (wd p 3)] 146)) 146 #[.int .u64 (wd q 0),.int .u64 (wd q 1),.int .u64 (wd q 2),.int .u64 (wd q 3)]).alloc (.cells #[.int .u64 0,.int .u64 0,.int .u64 0,.int .u64 0] 146);simpa using this
 have:=St.new ((w.alloc (.cells #[.int .u64 (wd p 0),.int .u64 (wd p 1),.int .u64 (wd p 2),.int .u64 (wd p 3)] 146)).alloc (.cells #[.int .u64 (wd q 0),.int .u64 (wd q 1),.int .u64 (wd q 2),.int .u64 (wd q 3)] 146)) 146 #[.int .u64 0,.int .u64 0,.int .u64 0,.int .u64 0];simpa using this
theorem iJ.step{w wr:World}{m q:Nat->Bool}(h:iJ w m q wr)(m':Nat->Bool)(i:Nat)(v:Int)(e:#[.int .u64 (wd m 0),.int .u64 (wd m 1),.int .u64 (wd m 2),.int .u64 (wd m 3)].setIfInBounds i (Value.int .u64 v)=#[.int .u64 (wd m' 0),.int .u64 (wd m' 1),.int .u64 (wd m' 2),.int .u64 (wd m' 3)]):
  iJ w m' q (wr.setCell ⟨w.heap.size,i,none⟩ (.int .u64 v)):=
 ⟨e ▸ h.s0.set i _,h.s1.gJ (by simp) _,h.s2.gJ (by simp;omega) _,h.below.setCell (by simp) _⟩
theorem iJ.drew{w wr:World}{m q:Nat->Bool}(h:iJ w m q wr):iJ w m q wr.drew:=⟨h.s0,h.s1,h.s2,h.below.drew⟩
theorem Pb(p q:Nat->Bool)(k:Nat):bits .or .u64 ((wd (mixed (fun a b=>a || b) p q k) k:Nat):Int) ((wd q k:Nat):Int)=((wd (mixed (fun a b=>a || b) p q (k+1)) k:Nat):Int):=by
 rw[zjV,zjW,zp9]
theorem Zm(p q:Nat->Bool)(w:World):
  Calls prog 207 #[(.agg #[.int .u64 (wd p 0),.int .u64 (wd p 1),.int .u64 (wd p 2),.int .u64 (wd p 3)]),(.agg #[.int .u64 (wd q 0),.int .u64 (wd q 1),.int .u64 (wd q 2),.int .u64 (wd q 3)])] w fun e w'=>e=.returned (.agg #[.int .u64 ((wd ((fun x=>(fun a b=>a || b) (p x) (q x))) 0:Nat):Int),.int .u64 ((wd ((fun x=>(fun a b=>a || b) (p x) (q x))) 1:Nat):Int),.int .u64 ((wd ((fun x=>(fun a b=>a || b) (p x) (q x))) 2:Nat):Int),.int .u64 ((wd ((fun x=>(fun a b=>a || b) (p x) (q x))) 3:Nat):Int)])/\ϐ w w':=by
 go_in;go_wp2;go_loopw [5,6] (fun _ i wr=>∃k:Nat,i=.int .i64 k/\k<=4/\iJ w (mixed (fun a b=>a || b) p q k) q wr) (fun _ i _=>4-(intOf i).toNat)
 ·exact⟨0,rfl,Nat.zero_le _,by rw[zjU];exact iJ.start w p q⟩
 obtain⟨k,rfl,hk,R⟩:=hrel;obtain⟨r0,r1,r2,r3,r4,r5,r6,r7⟩:=bZ R.s0;obtain⟨q0,q1,q2,q3,q4,q5,q6,q7⟩:=bZ R.s1;obtain⟨x0,x1,x2,x3,x4,x5,x6,x7⟩:=bZ R.s2;have hb:=R.below.size;rcases (by omega:k=0\/k=1\/k=2\/k=3\/k=4) with rfl|rfl|rfl|rfl|rfl
 ·go_wp2_with fail
  go_region
  go_wp2;go_roundw
  ·exact⟨0+1,rfl,by omega,(R.step (mixed (fun a b=>a || b) p q (0+1)) 0 (bits .or .u64 ((wd (mixed (fun a b=>a || b) p q 0) 0:Nat):Int) ((wd q 0:Nat):Int)) (by rw[Pb p q 0,xB _ p q 0 1 (by decide),xB _ p q 0 2 (by decide),xB _ p q 0 3 (by decide)];rfl)).drew⟩
  simp[intOf]
 ·go_wp2_with fail
  go_region
  go_wp2;go_roundw
  ·exact⟨1+1,rfl,by omega,(R.step (mixed (fun a b=>a || b) p q (1+1)) 1 (bits .or .u64 ((wd (mixed (fun a b=>a || b) p q 1) 1:Nat):Int) ((wd q 1:Nat):Int)) (by rw[Pb p q 1,xB _ p q 1 0 (by decide),xB _ p q 1 2 (by decide),xB _ p q 1 3 (by decide)];rfl)).drew⟩
  simp[intOf]
 ·go_wp2_with fail
  go_region
  go_wp2;go_roundw
  ·exact⟨2+1,rfl,by omega,(R.step (mixed (fun a b=>a || b) p q (2+1)) 2 (bits .or .u64 ((wd (mixed (fun a b=>a || b) p q 2) 2:Nat):Int) ((wd q 2:Nat):Int)) (by rw[Pb p q 2,xB _ p q 2 0 (by decide),xB _ p q 2 1 (by decide),xB _ p q 2 3 (by decide)];rfl)).drew⟩
  simp[intOf]
 ·go_wp2_with fail
  go_region
  go_wp2;go_roundw
  ·exact⟨3+1,rfl,by omega,(R.step (mixed (fun a b=>a || b) p q (3+1)) 3 (bits .or .u64 ((wd (mixed (fun a b=>a || b) p q 3) 3:Nat):Int) ((wd q 3:Nat):Int)) (by rw[Pb p q 3,xB _ p q 3 0 (by decide),xB _ p q 3 1 (by decide),xB _ p q 3 2 (by decide)];rfl)).drew⟩
  simp[intOf]
 have bg:=R.below;rw[OV _ _ _ 0 (by decide)] at r0;rw[OV _ _ _ 1 (by decide)] at r1;rw[OV _ _ _ 2 (by decide)] at r2;rw[OV _ _ _ 3 (by decide)] at r3;clear R;go_wp2_with fail;exact bodyPost_ret (v:=(.agg #[.int .u64 ((wd ((fun x=>(fun a b=>a || b) (p x) (q x))) 0:Nat):Int),.int .u64 ((wd ((fun x=>(fun a b=>a || b) (p x) (q x))) 1:Nat):Int),.int .u64 ((wd ((fun x=>(fun a b=>a || b) (p x) (q x))) 2:Nat):Int),.int .u64 ((wd ((fun x=>(fun a b=>a || b) (p x) (q x))) 3:Nat):Int)])) (by simp[results,results207,go_sem,x0,x1,x2,x3]) rfl ⟨rfl,td bg (by omega) _ _ _ _⟩
