import Derived.Test.YtiijebameffenaaGreatZFirst
import Derived.Laws.StructEq
set_option linter.all false
open Go.Lib (hid)
namespace Go.Proofs.YtiijebameffenaaGreat
open Go.RowKit Go.Proofs.Tryz
open Result (andThen andThen_ok)
theorem MT(w:World)(cs:Array Value)(i:Nat)(v:Value)(h:cs[i]?=some v):(part 144 cs i).run prog w=.ok v w:=by
 have hag:(isAgg 144).run prog w=.ok false w:=by kernel_rfl
 unfold part;simp[hag,h]
theorem zfF(d:Nat)(hw:∀(w:World) (a b:Int),(Op.equalIn d 144 (.int .u64 a) (.int .u64 b)).run prog w=.ok (a == b) w)(w:World)(a0 a1 a2 a3 b0 b1 b2 b3:Int):
  (Op.equalIn (d+1) 146 (.agg #[.int .u64 a0,.int .u64 a1,.int .u64 a2,.int .u64 a3]) (.agg #[.int .u64 b0,.int .u64 b1,.int .u64 b2,.int .u64 b3])).run prog w=.ok (a0 == b0 && (a1 == b1 && (a2 == b2 && a3 == b3))) w:=by
 have hu:prog.underlying 146=some (.array 4 144):=by kernel_rfl
 have cQ:∀w,(sizeOf 144).run prog w=.ok 1 w:=fun w=>by kernel_rfl
 simp only[Op.equalIn,Sem.run_bind,run_underlying hu,andThen_ok,cQ];simp only[Std.Legacy.Range.forIn_eq_forIn_range',Std.Legacy.Range.size,List.range'];have p0:∀(w:World) (c0 c1 c2 c3:Int),(part 144 #[.int .u64 c0,.int .u64 c1,.int .u64 c2,.int .u64 c3] (0*1)).run prog w=.ok (.int .u64 c0) w:=fun w c0 c1 c2 c3=>MT w _ _ _ rfl
 have p1:∀(w:World) (c0 c1 c2 c3:Int),(part 144 #[.int .u64 c0,.int .u64 c1,.int .u64 c2,.int .u64 c3] ((0+1)*1)).run prog w=.ok (.int .u64 c1) w:=fun w c0 c1 c2 c3=>MT w _ _ _ rfl
 have p2:∀(w:World) (c0 c1 c2 c3:Int),(part 144 #[.int .u64 c0,.int .u64 c1,.int .u64 c2,.int .u64 c3] ((0+1+1)*1)).run prog w=.ok (.int .u64 c2) w:=fun w c0 c1 c2 c3=>MT w _ _ _ rfl
 have p3:∀(w:World) (c0 c1 c2 c3:Int),(part 144 #[.int .u64 c0,.int .u64 c1,.int .u64 c2,.int .u64 c3] ((0+1+1+1)*1)).run prog w=.ok (.int .u64 c3) w:=fun w c0 c1 c2 c3=>MT w _ _ _ rfl
 simp only[List.forIn_cons,List.forIn_nil,Sem.run_bind,p0,hw,andThen_ok];cases h0:(a0 == b0)
 ·simp[andThen]
 cases h1:(a1 == b1)
 ·simp[andThen,p1,hw,h1]
 cases h2:(a2 == b2)
 ·simp[andThen,p1,p2,hw,h1,h2]
 cases h3:(a3 == b3)
 ·simp[andThen,p1,p2,p3,hw,h1,h2,h3]
 simp[andThen,p1,p2,p3,hw,h1,h2,h3]
theorem zeT(w:World)(a0 a1 a2 a3 b0 b1 b2 b3:Int):
  (Op.equalIn 10000 146 (.agg #[.int .u64 a0,.int .u64 a1,.int .u64 a2,.int .u64 a3]) (.agg #[.int .u64 b0,.int .u64 b1,.int .u64 b2,.int .u64 b3])).run prog w=.ok (a0 == b0 && (a1 == b1 && (a2 == b2 && a3 == b3))) w:=
 zfF 9999 (fun w a b=>run_equalIn_int w 9998 144 .u64 .u64 a b underlying144) w a0 a1 a2 a3 b0 b1 b2 b3
theorem Wl(p:Nat->Bool):(((wd p 0:Nat):Int) == 0 && (((wd p 1:Nat):Int) == 0 && (((wd p 2:Nat):Int) == 0 && ((wd p 3:Nat):Int) == 0)))=decide ((dg p 256).length=0):=by
 have h:=V3 p (fun _=>false);simp only[xD] at h;have e:(∀b,b<256->p b=false)↔(dg p 256).length=0:=by
  constructor
  ·intro h1;refine List.length_eq_zero_iff.2 (List.eq_nil_iff_forall_not_mem.2 fun x hx=>?_);have:=(MP p 256 x).1 hx;rw[h1 x this.1] at this;simp at this
  intro h1 b hb;have e:dg p 256=[]:=List.length_eq_zero_iff.1 h1;rcases hp:p b with _|_
  ·rfl
  have:=(MP p 256 b).2 ⟨hb,hp⟩;rw[e] at this;simp at this
 rw[e] at h;rw[Bool.eq_iff_iff];simp only[Bool.and_eq_true,beq_iff_eq,decide_eq_true_eq,<-h];omega
theorem zlD(p:Nat->Bool)(w:World):
  Calls prog 142 #[(.agg #[.int .u64 (wd p 0),.int .u64 (wd p 1),.int .u64 (wd p 2),.int .u64 (wd p 3)])] w fun e w'=>e=.returned (.bool (decide ((dg p 256).length=0)))/\ϐ w w':=by
 have heq:=zeT;have HS:=hid (Wl p);go_in;go_wp2;go_ret;exact⟨congrArg (fun b=>Ending.returned (.bool b)) HS.o,(Below.refl _ _).alloc (Nat.le_refl _) _⟩
def flip(p:Nat->Bool)(i:Nat):Nat->Bool:=fun x=>if x<64*i then !p x else p x
theorem zlE(p:Nat->Bool):flip p 0=p:=by funext x;simp[flip]
theorem zlF(p:Nat->Bool)(k:Nat):wd (flip p k) k=wd p k:=uH fun r _=>by simp only[flip];rw[if_neg (by omega)]
theorem zlG(p:Nat->Bool)(k:Nat):wd (flip p (k+1)) k=wd (fun x=>!p x) k:=uH fun r _=>by simp only[flip];rw[if_pos (by omega)]
theorem xM(p:Nat->Bool)(k j:Nat)(h:j≠k):wd (flip p (k+1)) j=wd (flip p k) j:=uH fun r _=>by
 simp only[flip]
 by_cases h1:64*j+r<64*k
 ·rw[if_pos h1,if_pos (by omega)]
 ·rw[if_neg h1,if_neg (by omega)]
theorem M8(p:Nat->Bool)(j:Nat)(hj:j<4):wd (flip p 4) j=wd (fun x=>!p x) j:=uH fun r _=>by simp only[flip];rw[if_pos (by omega)]
theorem MH(p:Nat->Bool)(k:Nat):bits .xor .u64 18446744073709551615 ((wd (flip p k) k:Nat):Int)=((wd (flip p (k+1)) k:Nat):Int):=by rw[zlF,zlG,znM]
structure oc (w:World)(m:Nat->Bool)(wr:World):Prop where
 s0:St wr 146 w.heap.size #[.int .u64 (wd m 0),.int .u64 (wd m 1),.int .u64 (wd m 2),.int .u64 (wd m 3)]
 s1:St wr 146 (w.heap.size+1) #[.int .u64 0,.int .u64 0,.int .u64 0,.int .u64 0]
 below:ϐ w wr
theorem oc.start(w:World)(p:Nat->Bool):oc w p ((w.alloc (.cells #[.int .u64 (wd p 0),.int .u64 (wd p 1),.int .u64 (wd p 2),.int .u64 (wd p 3)] 146)).alloc (.cells #[.int .u64 0,.int .u64 0,.int .u64 0,.int .u64 0] 146)):=by
 refine⟨(St.new _ _ _).alloc _,?_,((Below.refl _ _).alloc (Nat.le_refl _) _).alloc (by simp) _⟩;have:=St.new (w.alloc (.cells #[.int .u64 (wd p 0),.int .u64 (wd p 1),.int .u64 (wd p 2),.int .u64 (wd p 3)] 146)) 146 #[.int .u64 0,.int .u64 0,.int .u64 0,.int .u64 0];simpa using this
theorem oc.step{w wr:World}{m:Nat->Bool}(h:oc w m wr)(m':Nat->Bool)(i:Nat)(v:Int)(e:#[.int .u64 (wd m 0),.int .u64 (wd m 1),.int .u64 (wd m 2),.int .u64 (wd m 3)].setIfInBounds i (Value.int .u64 v)=#[.int .u64 (wd m' 0),.int .u64 (wd m' 1),.int .u64 (wd m' 2),.int .u64 (wd m' 3)]):
  oc w m' (wr.setCell ⟨w.heap.size,i,none⟩ (.int .u64 v)):=
 ⟨e ▸ h.s0.set i _,h.s1.gJ (by simp) _,h.below.setCell (by simp) _⟩
theorem zlH(p:Nat->Bool)(w:World):
  Calls prog 205 #[(.agg #[.int .u64 (wd p 0),.int .u64 (wd p 1),.int .u64 (wd p 2),.int .u64 (wd p 3)])] w fun e w'=>e=.returned (.agg #[.int .u64 ((wd ((fun x=>!p x)) 0:Nat):Int),.int .u64 ((wd ((fun x=>!p x)) 1:Nat):Int),.int .u64 ((wd ((fun x=>!p x)) 2:Nat):Int),.int .u64 ((wd ((fun x=>!p x)) 3:Nat):Int)])/\ϐ w w':=by
 go_in;go_wp2;go_loopw [3,4] (fun _ i wr=>∃k:Nat,i=.int .i64 k/\k<=4/\oc w (flip p k) wr) (fun _ i _=>4-(intOf i).toNat)
 ·exact⟨0,rfl,Nat.zero_le _,by rw[zlE];exact oc.start w p⟩
 obtain⟨k,rfl,hk,R⟩:=hrel;obtain⟨r0,r1,r2,r3,r4,r5,r6,r7⟩:=bZ R.s0;obtain⟨x0,x1,x2,x3,x4,x5,x6,x7⟩:=bZ R.s1;have hb:=R.below.size;rcases (by omega:k=0\/k=1\/k=2\/k=3\/k=4) with rfl|rfl|rfl|rfl|rfl
 ·go_wp2;go_roundw
  ·exact⟨0+1,rfl,by omega,R.step (flip p (0+1)) 0 (bits .xor .u64 18446744073709551615 ((wd (flip p 0) 0:Nat):Int)) (by rw[MH p 0,xM p 0 1 (by decide),xM p 0 2 (by decide),xM p 0 3 (by decide)];rfl)⟩
  simp[intOf]
 ·go_wp2;go_roundw
  ·exact⟨1+1,rfl,by omega,R.step (flip p (1+1)) 1 (bits .xor .u64 18446744073709551615 ((wd (flip p 1) 1:Nat):Int)) (by rw[MH p 1,xM p 1 0 (by decide),xM p 1 2 (by decide),xM p 1 3 (by decide)];rfl)⟩
  simp[intOf]
 ·go_wp2;go_roundw
  ·exact⟨2+1,rfl,by omega,R.step (flip p (2+1)) 2 (bits .xor .u64 18446744073709551615 ((wd (flip p 2) 2:Nat):Int)) (by rw[MH p 2,xM p 2 0 (by decide),xM p 2 1 (by decide),xM p 2 3 (by decide)];rfl)⟩
  simp[intOf]
 ·go_wp2;go_roundw
  ·exact⟨3+1,rfl,by omega,R.step (flip p (3+1)) 3 (bits .xor .u64 18446744073709551615 ((wd (flip p 3) 3:Nat):Int)) (by rw[MH p 3,xM p 3 0 (by decide),xM p 3 1 (by decide),xM p 3 2 (by decide)];rfl)⟩
  simp[intOf]
 have bg:=R.below;rw[M8 _ 0 (by decide)] at r0;rw[M8 _ 1 (by decide)] at r1;rw[M8 _ 2 (by decide)] at r2;rw[M8 _ 3 (by decide)] at r3;clear R;go_wp2_with fail;exact bodyPost_ret (v:=(.agg #[.int .u64 ((wd ((fun x=>!p x)) 0:Nat):Int),.int .u64 ((wd ((fun x=>!p x)) 1:Nat):Int),.int .u64 ((wd ((fun x=>!p x)) 2:Nat):Int),.int .u64 ((wd ((fun x=>!p x)) 3:Nat):Int)])) (by simp[results,results205,go_sem,x0,x1,x2,x3]) rfl ⟨rfl,td bg (by omega) _ _ _ _⟩
theorem znP(w:World):
  Calls prog 205 #[.agg #[.int .u64 0,.int .u64 0,.int .u64 0,.int .u64 0]] w fun e w'=>e=.returned (.agg #[.int .u64 ((wd ((fun _=>true)) 0:Nat):Int),.int .u64 ((wd ((fun _=>true)) 1:Nat):Int),.int .u64 ((wd ((fun _=>true)) 2:Nat):Int),.int .u64 ((wd ((fun _=>true)) 3:Nat):Int)])/\ϐ w w':=by
 have h:=zlH (fun _=>false) w;simp only[xD] at h;exact h
theorem znQ(w:World):
  Calls prog 194 #[] w fun e w'=>e=.returned (.agg #[.int .u64 ((wd ((fun _=>true)) 0:Nat):Int),.int .u64 ((wd ((fun _=>true)) 1:Nat):Int),.int .u64 ((wd ((fun _=>true)) 2:Nat):Int),.int .u64 ((wd ((fun _=>true)) 3:Nat):Int)])/\ϐ w w':=by
 go_in;go_wp2_with fail;refine (znP _).mono ?_;rintro e w1 ⟨rfl,b1⟩;have s1:=(St.new w 146 #[.int .u64 0,.int .u64 0,.int .u64 0,.int .u64 0]).below b1 (by simp);have hb:=((Below.refl _ w).alloc (Nat.le_refl _) (.cells #[.int .u64 0,.int .u64 0,.int .u64 0,.int .u64 0] 146)).trans (b1.mono (by simp));obtain⟨r0,r1,r2,r3,r4,r5,r6,r7⟩:=bZ s1;have hs:=s1.lt;clear b1 s1;go_wp2_with fail;exact bodyPost_ret (v:=(.agg #[.int .u64 ((wd ((fun _=>true)) 0:Nat):Int),.int .u64 ((wd ((fun _=>true)) 1:Nat):Int),.int .u64 ((wd ((fun _=>true)) 2:Nat):Int),.int .u64 ((wd ((fun _=>true)) 3:Nat):Int)])) (by simp[results,results194,go_sem,r0,r1,r2,r3]) rfl ⟨rfl,td hb (Nat.le_refl _) _ _ _ _⟩
