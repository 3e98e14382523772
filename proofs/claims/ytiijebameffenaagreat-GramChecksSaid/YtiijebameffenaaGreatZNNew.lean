import Derived.Test.YtiijebameffenaaGreatZDBase
import Derived.BigQuiet
import Derived.Deep.AppendLies
import Derived.Deep.OwnRows
import Derived.Deep.QuietTactic
import Derived.IntWalk
set_option linter.all false
set_option maxHeartbeats 1000000
set_option maxRecDepth 100000
open Go.Lib (hid)
namespace Go.Proofs.YtiijebameffenaaGreat
open Go.RowKit Go.Proofs.Tryz
open Nat (le_refl zero_add zero_le)
open List (ext_getElem? range replicate)
variable {B M c g k m n te ts:Nat}{S:Int}{a:Option Addr}{cs:Array Value}{f q:Nat->Bool}{t:TypeId}{v:Value}{vs:Nat->Value}{w w' w1 wr:World}{xs:Nat->List Value}
theorem WQ(a:Option Addr)(len cap:Nat)(z:Nat->Nat)(w:World)(hE:IF w a len z)(hlen:len<=9223372036854775806):
  Calls prog 198 #[.slice a len cap] w fun e w'=>e=.returned (.agg #[.int .u64 ((wd (fu z len) 0:Nat):Int),.int .u64 ((wd (fu z len) 1:Nat):Int),.int .u64 ((wd (fu z len) 2:Nat):Int),.int .u64 ((wd (fu z len) 3:Nat):Int)])/\ϐ w w':=by
 go_in;go_wp2;go_loopw [8] (fun i wr=>∃k:Nat,i=.int .i64 k/\k<=len/\gp w (fu z k) wr) (fun i _=>len-(intOf i).toNat)
 ·exact⟨0,rfl,zero_le _,gp.start w⟩
 obtain⟨k,rfl,hk,R⟩:=hrel;obtain⟨r0,r1,r2,r3,r4,r5,r6,r7⟩:=bZ R.s0;obtain⟨q0,q1,q2,q3,q4,q5,q6,q7⟩:=bZ R.s1;by_cases aq:k<len
 ·obtain⟨b,off,rfl,hb,hz⟩:=hE (by omega);obtain⟨dc,db⟩:=hz k aq;have hc:=(R.below.cell (p:=⟨b,off+k,none⟩) hb).trans dc;clear dc hz;go_wp2_with fail;refine (Wx _ _ db _).mono ?_;rintro e w1 ⟨rfl,b1⟩;have R1:=R.step b1 (ins (fu z k) (z k));have hs:=b1.size;have oY:=R.s1.lt;obtain⟨q0,q1,q2,q3,q4,q5,q6,q7⟩:=bZ (R.s1.ae b1);clear R b1 hc;go_wp2;go_roundw
  ·exact⟨k+1,by go_num,by omega,R1⟩
  simp[intOf];omega
 obtain rfl:k=len:=by omega
 go_wp2_with fail;exact bodyPost_ret (v:=(.agg #[.int .u64 ((wd (fu z k) 0:Nat):Int),.int .u64 ((wd (fu z k) 1:Nat):Int),.int .u64 ((wd (fu z k) 2:Nat):Int),.int .u64 ((wd (fu z k) 3:Nat):Int)])) (by simp[results,results198,go_sem,r0,r1,r2,r3]) rfl ⟨rfl,td R.below (le_refl _) _ _ _ _⟩
theorem gp.one(h:gp w q wr)(q':Nat->Bool)(i:Nat)(v:Value)(e:(#[.int .u64 (wd q 0),.int .u64 (wd q 1),.int .u64 (wd q 2),.int .u64 (wd q 3)]).setIfInBounds i v=#[.int .u64 (wd q' 0),.int .u64 (wd q' 1),.int .u64 (wd q' 2),.int .u64 (wd q' 3)]):
  gp w q' (wr.setCell ⟨w.heap.size+1,i,none⟩ v):=
 ⟨h.s0.gJ (by simp) _,e ▸ h.s1.set i _,h.below.setCell (by simp) _⟩
theorem Se(p:Nat->Bool)(b off cap:Nat)(w:World)(hb:b<w.heap.size)(hz:∀j,j<256->w.cell? ⟨b,off+j,none⟩=some (.bool (p j))):
  Calls prog 186 #[.slice (some ⟨b,off,none⟩) 256 cap] w fun e w'=>e=.returned (.agg #[.int .u64 (wd p 0),.int .u64 (wd p 1),.int .u64 (wd p 2),.int .u64 (wd p 3)])/\ϐ w w':=by
 go_in;go_wp2;go_loopw [4] (fun i wr=>∃k:Nat,i=.int .i64 k/\k<=256/\gp w (cv p k) wr) (fun i _=>256-(intOf i).toNat)
 ·exact⟨0,rfl,zero_le _,by rw[VQ];exact gp.start w⟩
 obtain⟨k,rfl,hk,R⟩:=hrel;obtain⟨r0,r1,r2,r3,r4,r5,r6,r7⟩:=bZ R.s0;obtain⟨q0,q1,q2,q3,q4,q5,q6,q7⟩:=bZ R.s1;by_cases aq:k<256
 ·have hc:=(R.below.cell (p:=⟨b,off+k,none⟩) hb).trans (hz k aq);rcases Ai:p k with _|_
  ·have HN:=hid (zlt p k Ai);rw[Ai] at hc;clear Ai hz;go_wp2;go_roundw
   ·exact⟨k+1,by go_num,by omega,by rw[HN.o];exact R⟩
   simp[intOf];omega
  have HN:=hid (Wv p k Ai);rw[Ai] at hc;clear Ai hz;rcases (by omega:k / 64=0\/k / 64=1\/k / 64=2\/k / 64=3) with h|h|h|h
  ·go_wp2_with fail;rw[Oa p k 0 h];have R1:=R.one (ins (cv p k) k) 0 (.int .u64 ((wd (ins (cv p k) k) 0:Nat):Int)) (by rw[nN (cv p k) k 1 (by omega),nN (cv p k) k 2 (by omega),nN (cv p k) k 3 (by omega)];rfl);go_roundw
   ·exact⟨k+1,by go_num,by omega,by rw[HN.o];exact R1⟩
   simp[intOf];omega
  ·go_wp2_with fail;rw[Oa p k 1 h];have R1:=R.one (ins (cv p k) k) 1 (.int .u64 ((wd (ins (cv p k) k) 1:Nat):Int)) (by rw[nN (cv p k) k 0 (by omega),nN (cv p k) k 2 (by omega),nN (cv p k) k 3 (by omega)];rfl);go_roundw
   ·exact⟨k+1,by go_num,by omega,by rw[HN.o];exact R1⟩
   simp[intOf];omega
  ·go_wp2_with fail;rw[Oa p k 2 h];have R1:=R.one (ins (cv p k) k) 2 (.int .u64 ((wd (ins (cv p k) k) 2:Nat):Int)) (by rw[nN (cv p k) k 0 (by omega),nN (cv p k) k 1 (by omega),nN (cv p k) k 3 (by omega)];rfl);go_roundw
   ·exact⟨k+1,by go_num,by omega,by rw[HN.o];exact R1⟩
   simp[intOf];omega
  go_wp2_with fail;rw[Oa p k 3 h];have R1:=R.one (ins (cv p k) k) 3 (.int .u64 ((wd (ins (cv p k) k) 3:Nat):Int)) (by rw[nN (cv p k) k 0 (by omega),nN (cv p k) k 1 (by omega),nN (cv p k) k 2 (by omega)];rfl);go_roundw
  ·exact⟨k+1,by go_num,by omega,by rw[HN.o];exact R1⟩
  simp[intOf];omega
 obtain rfl:k=256:=by omega
 have bg:=R.below;clear R;rw[Mk p 0 (by decide)] at q0;rw[Mk p 1 (by decide)] at q1;rw[Mk p 2 (by decide)] at q2;rw[Mk p 3 (by decide)] at q3;go_wp2_with fail;exact bodyPost_ret (v:=(.agg #[.int .u64 (wd p 0),.int .u64 (wd p 1),.int .u64 (wd p 2),.int .u64 (wd p 3)])) (by simp[results,results186,go_sem,r0,r1,r2,r3]) rfl ⟨rfl,td bg (le_refl _) _ _ _ _⟩
theorem Oi(x k:Nat):x / 2 ^ k / 2=x / 2 ^ (k+1):=by rw[Nat.div_div_eq_div_mul,Nat.pow_succ]
theorem SQ(p:Nat->Bool)(b:Nat)(hb:b<256)(w:World):
  Calls prog 108 #[(.agg #[.int .u64 (wd p 0),.int .u64 (wd p 1),.int .u64 (wd p 2),.int .u64 (wd p 3)]),.int .i64 b] w fun e w'=>e=.returned (.bool (p b))/\ϐ w w':=by
 have hq:b / 64=0\/b / 64=1\/b / 64=2\/b / 64=3:=by omega
 rcases hq with h|h|h|h
 ·go_in;go_wp2_with fail
  go_loop [5,6] (fun x i=>∃k y:Nat,k<=b % 64/\i=.int .i64 k/\x=.int .u64 y/\y<18446744073709551616/\Hid (y=wd p 0 / 2 ^ k)) (fun _ i=>b % 64-(intOf i).toNat)
  ·exact⟨0,wd p 0,zero_le _,rfl,rfl,uZ _ _,by simp[Hid]⟩
  obtain⟨k,y,hk,rfl,rfl,hy,HY⟩:=hrel;by_cases aq:k<b % 64
  ·have HN:Hid (y / 2=wd p 0 / 2 ^ (k+1)):=(by have:=HY.o;subst this;exact Oi _ _);have qw:y / 2<18446744073709551616:=(by omega);go_wp2_with fail;go_round
   ·exact⟨k+1,y / 2,by omega,by go_num,by simp,qw,HN⟩
   simp[intOf];omega
  obtain rfl:k=b % 64:=by omega
  have HZ:Hid (((y:Int) % 2 == 1)=p b):=by
   have h1:=HY.o;have h2:=IY p b 0 h;rw[<-h1] at h2;show ((y:Int) % 2 == 1)=p b;cases hp:p b
   ·simp[hp] at h2;simp;omega
   simp[hp] at h2;simp;omega
  clear HY;go_wp2_with fail;rw[HZ.o];go_ret;exact⟨rfl,(Below.refl _ _).alloc (le_refl _) _⟩
 ·go_in;go_wp2_with fail
  go_loop [5,6] (fun x i=>∃k y:Nat,k<=b % 64/\i=.int .i64 k/\x=.int .u64 y/\y<18446744073709551616/\Hid (y=wd p 1 / 2 ^ k)) (fun _ i=>b % 64-(intOf i).toNat)
  ·exact⟨0,wd p 1,zero_le _,rfl,rfl,uZ _ _,by simp[Hid]⟩
  obtain⟨k,y,hk,rfl,rfl,hy,HY⟩:=hrel;by_cases aq:k<b % 64
  ·have HN:Hid (y / 2=wd p 1 / 2 ^ (k+1)):=(by have:=HY.o;subst this;exact Oi _ _);have qw:y / 2<18446744073709551616:=(by omega);go_wp2_with fail;go_round
   ·exact⟨k+1,y / 2,by omega,by go_num,by simp,qw,HN⟩
   simp[intOf];omega
  obtain rfl:k=b % 64:=by omega
  have HZ:Hid (((y:Int) % 2 == 1)=p b):=by
   have h1:=HY.o;have h2:=IY p b 1 h;rw[<-h1] at h2;show ((y:Int) % 2 == 1)=p b;cases hp:p b
   ·simp[hp] at h2;simp;omega
   simp[hp] at h2;simp;omega
  clear HY;go_wp2_with fail;rw[HZ.o];go_ret;exact⟨rfl,(Below.refl _ _).alloc (le_refl _) _⟩
 ·go_in;go_wp2_with fail
  go_loop [5,6] (fun x i=>∃k y:Nat,k<=b % 64/\i=.int .i64 k/\x=.int .u64 y/\y<18446744073709551616/\Hid (y=wd p 2 / 2 ^ k)) (fun _ i=>b % 64-(intOf i).toNat)
  ·exact⟨0,wd p 2,zero_le _,rfl,rfl,uZ _ _,by simp[Hid]⟩
  obtain⟨k,y,hk,rfl,rfl,hy,HY⟩:=hrel;by_cases aq:k<b % 64
  ·have HN:Hid (y / 2=wd p 2 / 2 ^ (k+1)):=(by have:=HY.o;subst this;exact Oi _ _);have qw:y / 2<18446744073709551616:=(by omega);go_wp2_with fail;go_round
   ·exact⟨k+1,y / 2,by omega,by go_num,by simp,qw,HN⟩
   simp[intOf];omega
  obtain rfl:k=b % 64:=by omega
  have HZ:Hid (((y:Int) % 2 == 1)=p b):=by
   have h1:=HY.o;have h2:=IY p b 2 h;rw[<-h1] at h2;show ((y:Int) % 2 == 1)=p b;cases hp:p b
   ·simp[hp] at h2;simp;omega
   simp[hp] at h2;simp;omega
  clear HY;go_wp2_with fail;rw[HZ.o];go_ret;exact⟨rfl,(Below.refl _ _).alloc (le_refl _) _⟩
 go_in;go_wp2_with fail
 go_loop [5,6] (fun x i=>∃k y:Nat,k<=b % 64/\i=.int .i64 k/\x=.int .u64 y/\y<18446744073709551616/\Hid (y=wd p 3 / 2 ^ k)) (fun _ i=>b % 64-(intOf i).toNat)
 ·exact⟨0,wd p 3,zero_le _,rfl,rfl,uZ _ _,by simp[Hid]⟩
 obtain⟨k,y,hk,rfl,rfl,hy,HY⟩:=hrel;by_cases aq:k<b % 64
 ·have HN:Hid (y / 2=wd p 3 / 2 ^ (k+1)):=by have:=HY.o;subst this;exact Oi _ _
  have qw:y / 2<18446744073709551616:=by omega
  go_wp2_with fail;go_round
  ·exact⟨k+1,y / 2,by omega,by go_num,by simp,qw,HN⟩
  simp[intOf];omega
 obtain rfl:k=b % 64:=by omega
 have HZ:Hid (((y:Int) % 2 == 1)=p b):=by
  have h1:=HY.o;have h2:=IY p b 3 h;rw[<-h1] at h2;show ((y:Int) % 2 == 1)=p b;cases hp:p b
  ·simp[hp] at h2;simp;omega
  simp[hp] at h2;simp;omega
 clear HY;go_wp2_with fail;rw[HZ.o];go_ret;exact⟨rfl,(Below.refl _ _).alloc (le_refl _) _⟩
theorem kt:(prog.info? 4).map (fun i=>(i.zero,i.size,i.bytes))=some (some (.bool false),1,1):=by kernel_rfl
theorem Xo{W:World}(h:Below W.drew.heap.size W.drew w'):ϐ W w':=⟨h.os,h.tape,h.output,h.size,h.block⟩
def DQ(g:Nat->Bool)(k:Nat):List Value:=(range k).map fun i=>.bool (g i)
theorem ziG(g:Nat->Bool)(k:Nat):DQ g (k+1)=DQ g k++[.bool (g k)]:=by simp[DQ,List.range_succ]
theorem zqa(g:Nat->Bool)(k j:Nat)(h:j<k):(DQ g k)[j]?=some (.bool (g j)):=by simp[DQ,h]
structure iw (w:World)(p q g:Nat->Bool)(k:Nat)(v:Value)(wr:World):Prop where
 s0:St wr 146 w.heap.size #[.int .u64 (wd p 0),.int .u64 (wd p 1),.int .u64 (wd p 2),.int .u64 (wd p 3)]
 s1:St wr 146 (w.heap.size+1) #[.int .u64 (wd q 0),.int .u64 (wd q 1),.int .u64 (wd q 2),.int .u64 (wd q 3)]
 s2:St wr 146 (w.heap.size+1+1) #[.int .u64 0,.int .u64 0,.int .u64 0,.int .u64 0]
 own:wr.ownsRow (w.heap.size+3) 4 1 v k (DQ g k)
 below:ϐ w wr
 size:w.heap.size+3<=wr.heap.size
theorem iw.start(w:World)(p q g:Nat->Bool):iw w p q g 0 (.slice none 0 0) (((w.alloc (.cells #[.int .u64 (wd p 0),.int .u64 (wd p 1),.int .u64 (wd p 2),.int .u64 (wd p 3)] 146)).alloc (.cells #[.int .u64 (wd q 0),.int .u64 (wd q 1),.int .u64 (wd q 2),.int .u64 (wd q 3)] 146)).alloc (.cells #[.int .u64 0,.int .u64 0,.int .u64 0,.int .u64 0] 146)):=by
 refine⟨((St.new _ _ _).alloc _).alloc _,?_,?_,World.ownsRow_nil _ _ _ _,(((Below.refl _ _).alloc (le_refl _) _).alloc (by simp) _).alloc (by simp;omega) _,by simp⟩
 ·have:=(St.new (w.alloc (.cells #[.int .u64 (wd p 0),.int .u64 (wd p 1),.int .u64 (wd p 2),.int .u64 (wd p 3)] 146)) 146 #[.int .u64 (wd q 0),.int .u64 (wd q 1),.int .u64 (wd q 2),.int .u64 (wd q 3)]).alloc (.cells #[.int .u64 0,.int .u64 0,.int .u64 0,.int .u64 0] 146);simpa using this
 have:=St.new ((w.alloc (.cells #[.int .u64 (wd p 0),.int .u64 (wd p 1),.int .u64 (wd p 2),.int .u64 (wd p 3)] 146)).alloc (.cells #[.int .u64 (wd q 0),.int .u64 (wd q 1),.int .u64 (wd q 2),.int .u64 (wd q 3)] 146)) 146 #[.int .u64 0,.int .u64 0,.int .u64 0,.int .u64 0];simpa using this
theorem iw.ae{p g:Nat->Bool}(h:iw w p q g k v wr)(b:ϐ wr w1):iw w p q g k v w1:=
 ⟨h.s0.ae b,h.s1.ae b,h.s2.ae b,dE h.own b,h.below.trans (b.mono h.below.size),Nat.le_trans h.size b.size⟩
theorem iw.yw{p g:Nat->Bool}{v':Value}(h:iw w p q g k v wr)(b:Below (w.heap.size+3) wr w1)(ho:w1.ownsRow (w.heap.size+3) 4 1 v' (k+1) (DQ g (k+1))):iw w p q g (k+1) v' w1:=
 ⟨h.s0.below b (by omega),h.s1.below b (by omega),h.s2.below b (by omega),ho,h.below.trans (b.mono (by omega)),Nat.le_trans h.size b.size⟩
theorem iw.flags{p g:Nat->Bool}{cap:Nat}(h:iw w p q g 256 (.slice a 256 cap) wr):∃b,a=some ⟨b,0,none⟩/\b<wr.heap.size/\∀j,j<256->wr.cell? ⟨b,0+j,none⟩=some (.bool (g j)):=by
 obtain⟨b,rfl,_,hb,hc⟩:=fG h.own (by omega);exact⟨b,rfl,hb,fun j hj=>by rw[zero_add,(hc j (by omega)).1,zqa g 256 j hj]⟩
structure Eg where
 f:Int
 t:Int
 p:Nat->Bool
 b:Bool
def En.z(e:En):Eg:=⟨(e.f:Int),(e.t:Int),e.p,e.b⟩
def dJ(x:Eg):List Value:=(#[.int .i64 x.f,.int .i64 x.t,.int .u64 (wd x.p 0),.int .u64 (wd x.p 1),.int .u64 (wd x.p 2),.int .u64 (wd x.p 3),.bool x.b]).toList
def gd(l:List Eg):List Value:=l.flatMap dJ
theorem Wr(l:List Eg):(gd l).length=l.length*7:=by
 induction l with
 | nil=>rfl
 | cons x l ih=>simp[gd,dJ] at ih⊢;omega
theorem zjS(a b:List Eg):gd (a++b)=gd a++gd b:=by simp[gd]
theorem Vx(l:List Eg)(i:Nat)(h:i<l.length)(j:Nat)(hj:j<7):(gd l)[i*7+j]?=(dJ l[i])[j]?:=by
 induction l generalizing i with
 | nil=>simp at h
 | cons x l ih=>
  have hc:(dJ x).length=7:=by simp[dJ]
  show (dJ x++gd l)[i*7+j]?=_
  match i,h with
  | 0,_=>
   rw[Nat.zero_mul,zero_add,List.getElem?_append_left (by omega)];rfl
  | i+1,h=>
   rw[List.getElem?_append_right (by omega),hc,show (i+1)*7+j-7=i*7+j by omega,ih i (by simpa using h)];rfl
def lC(w:World)(a:Option Addr)(l:List Eg):Prop:=0<l.length->∃g off,a=some ⟨g,off,none⟩/\g<w.heap.size/\∀j,j<l.length*7->w.cell? ⟨g,off+j,none⟩=(gd l)[j]?
theorem lC.below{l:List Eg}(h:lC w a l)(k:ϐ w w'):lC w' a l:=by
 intro h0;obtain⟨g,off,rfl,hg,hc⟩:=h h0;have:=k.size;exact⟨g,off,rfl,by omega,fun j hj=>(k.cell (p:=⟨g,off+j,none⟩) hg).trans (hc j hj)⟩
def ZK(w:World)(g o:Nat)(x:Eg):Prop:=
 w.cell? ⟨g,o,none⟩=some (.int .i64 x.f)/\w.cell? ⟨g,o+1,none⟩=some (.int .i64 x.t)/\w.cell? ⟨g,o+2,none⟩=some (.int .u64 (wd x.p 0))/\w.cell? ⟨g,o+3,none⟩=some (.int .u64 (wd x.p 1))/\
  w.cell? ⟨g,o+4,none⟩=some (.int .u64 (wd x.p 2))/\w.cell? ⟨g,o+5,none⟩=some (.int .u64 (wd x.p 3))/\w.cell? ⟨g,o+6,none⟩=some (.bool x.b)
theorem lC.get{l:List Eg}(h:lC w a l)(k:Nat)(hk:k<l.length):
  ∃g off,a=some ⟨g,off,none⟩/\g<w.heap.size/\ZK w g (off+k*7) l[k]:=by
 obtain⟨g,off,rfl,hg,hc⟩:=h (by omega);refine⟨g,off,rfl,hg,?_,?_,?_,?_,?_,?_,?_⟩
 ·have:=Vx l k hk 0 (by omega);rw[hc _ (by omega)];exact this
 all_goals
  rw[Nat.add_assoc,hc _ (by omega),Vx l k hk _ (by omega)]
  rfl
theorem znN(w:World)(x:Eg):ZK (w.alloc (.cells #[.int .i64 x.f,.int .i64 x.t,.int .u64 (wd x.p 0),.int .u64 (wd x.p 1),.int .u64 (wd x.p 2),.int .u64 (wd x.p 3),.bool x.b] 186)) w.heap.size 0 x:=by
 have h:=St.new w 186 #[.int .i64 x.f,.int .i64 x.t,.int .u64 (wd x.p 0),.int .u64 (wd x.p 1),.int .u64 (wd x.p 2),.int .u64 (wd x.p 3),.bool x.b];refine⟨?_,?_,?_,?_,?_,?_,?_⟩ <;> (rw[cell_of_row _ _ _ _ _ _ h];rfl)
theorem St.eW{c0 c1 c2 c3:Value}(h:St w t g #[c0,c1,c2,c3]):w.cell? ⟨g,0,none⟩=some c0/\w.cell? ⟨g,1,none⟩=some c1/\w.cell? ⟨g,2,none⟩=some c2/\w.cell? ⟨g,3,none⟩=some c3:=by
 obtain⟨h0,h1,h2,h3,_⟩:=bZ h;exact⟨h0,h1,h2,h3⟩
theorem St.at_{t:Nat}(h:St w t g cs)(i:Nat):w.cell? ⟨g,i,none⟩=cs[i]?:=cell_of_row _ _ _ _ _ _ h
theorem St.bE{t:Nat}(h:St w t g cs)(i:Nat):w.frozen? ⟨g,i,none⟩=false:=frozen_of_row w g i _ _ h
def pN(w:World)(a:Option Addr)(n:Nat)(f:Nat->Bool):Prop:=0<n->∃g off,a=some ⟨g,off,none⟩/\g<w.heap.size/\∀j,j<n->w.cell? ⟨g,off+j,none⟩=some (.bool (f j))
theorem pN.below(h:pN w a n f)(k:ϐ w w'):pN w' a n f:=by
 intro h0;obtain⟨g,off,e,hg,hc⟩:=h h0;have:=k.size;exact⟨g,off,e,by omega,fun j hj=>(k.cell (p:=⟨g,off+j,none⟩) hg).trans (hc j hj)⟩
def jC(f:Nat->Bool)(n:Nat):List Value:=(range n).map fun j=>.bool (f j)
theorem ZQ(f:Nat->Bool)(n:Nat):jC f (n+1)=jC f n++[.bool (f n)]:=by simp[jC,List.range_succ]
theorem Ow(h:w.ownsRow B 4 1 (.slice a n c) n (jC f n)):pN w a n f:=by
 intro h0;obtain⟨g,e,_,hg,hc⟩:=fG h h0;exact⟨g,0,e,hg,fun j hj=>by rw[zero_add,(hc j (by omega)).1];simp[jC,hj]⟩
theorem xC{base e:Nat}{xs:List Value}(h:w.ownsRow base e 1 (.slice (some ⟨g,0,none⟩) n c) n xs)(j:Nat)(hj:j<n)(u:Value):(w.setCell ⟨g,j,none⟩ u).ownsRow base e 1 (.slice (some ⟨g,0,none⟩) n c) n (xs.set j u):=by
 refine⟨by rw[List.length_set];exact h.1,?_⟩;rcases h.2 with ⟨h1,_⟩|⟨g',cap,cur,h1,h2,h3,h4,h5,h6,h7⟩
 ·cases h1
 injection h1 with e1 _ e3;injection e1 with e1;injection e1 with e1;subst e1 e3;refine Or.inr ⟨g,c,cur.setIfInBounds j u,rfl,h2,heap_setCell_same w g j cur e u h3,h4,h5,by simpa using h6,?_⟩;rw[Array.toList_setIfInBounds,<-h7];rw[List.take_set]
theorem ziJ(f:Nat->Bool)(m n:Nat)(v:Bool):(jC f m).set n (.bool v)=jC (fun j=>if j=n then v else f j) m:=by
 apply ext_getElem?;intro i;rw[List.getElem?_set];by_cases hi:i<m
 ·by_cases e:n=i
  ·subst e;simp[jC,hi]
  have e':¬i=n:=fun h=>e h.symm
  simp only[jC,if_neg e,List.getElem?_map,List.getElem?_range hi,Option.map_some,if_neg e']
 by_cases e:n=i
 ·subst e;simp[jC,hi]
 simp[jC,e,List.getElem?_eq_none (by simp;omega:(range m).length<=i)]
theorem zgx{g:Nat->Bool}(h:∀j,j<m->f j=g j):jC f m=jC g m:=by
 unfold jC;exact List.map_congr_left (fun j hj=>by rw[h j (by simpa using hj)])
theorem rb{l:List Nat}(h:l.Nodup)(hm:∀n∈l,n<m):l.length<=m:=by
 have:=h.length_le_of_subset (l₂:=range m) (fun x hx=>by simpa using hm x hx);simpa using this
theorem zqb(N:Nat)(hN:N<=2147483647)(W:World):(Instr.makeSlice 129 (.int .i64 (N:Int)) (.int .i64 (N:Int))).run prog W=.ok (.slice (some ⟨W.heap.size,0,none⟩) N N) (W.alloc (.cells (madeCells #[.bool false] N) 4)):=by
 have:=run_make_row' (P:=prog) 129 4 (.bool false) 1 underlying129 kt rfl .i64 .i64 N (by omega) (by omega) W;simpa using this
theorem Fb(w:World)(base N:Nat)(e:TypeId)(z:Value)(hb:base<=w.heap.size)(hN:N<=maxLen):(w.alloc (.cells (madeCells #[z] N) e)).ownsRow base e 1 (.slice (some ⟨w.heap.size,0,none⟩) N N) N (replicate N z):=by
 have e1:(madeCells #[z] N).toList=replicate N z:=by
  apply ext_getElem?;intro i;by_cases hi:i<N
  ·simp[madeCells,hi,Nat.mod_one]
  simp[madeCells,hi]
 rw[<-e1];exact zG w base e 1 _ N (by simp[size_madeCells]) hb hN
theorem zqc(N:Nat):replicate N (.bool false)=jC (fun _=>false) N:=by
 induction N with
 | zero=>rfl
 | succ N ih=>rw[List.replicate_succ',ih,ZQ]
def qY(S s:Int):Bool:=decide (0<=s) && decide (s<S)
theorem zrs{s:Int}(h:¬0<=s):qY S s=false:=by simp[qY,h]
theorem zqd{s:Int}(h:0<=s):qY S s=decide (s<S):=by simp[qY,h]
theorem NK{s:Int}:qY S s=true↔0<=s/\s<S:=by simp[qY]
def Ax(S:Int)(e:Eg):Bool:=qY S e.f && qY S e.t
def xY(S:Int)(L:List Eg)(F T:Int):Bool:=L.all (Ax S) && (qY S F && qY S T)
theorem zhy(S F T:Int)(a:Option Addr)(n c:Nat)(s:Int)(w:World):
  Calls prog 146 #[.agg #[.int .i64 S,.slice a n c,.int .i64 F,.int .i64 T],.int .i64 s] w fun e w'=>e=.returned (.bool (qY S s))/\ϐ w w':=by
 by_cases h:0<=s
 ·have HZ:=hid (zqd (S:=S) h);go_in;go_wp2;go_ret;exact⟨by rw[HZ.o];rfl,(Below.refl _ _).alloc (le_refl _) _⟩
 have HZ:=hid (zrs (S:=S) h);go_in;go_wp2;go_ret;exact⟨by rw[HZ.o];rfl,(Below.refl _ _).alloc (le_refl _) _⟩
theorem Nj(S F T:Int)(a:Option Addr)(n c:Nat)(s:Int)(b:Bool)(h:qY S s=b)(w:World):
  Calls prog 146 #[.agg #[.int .i64 S,.slice a n c,.int .i64 F,.int .i64 T],.int .i64 s] w fun e w'=>e=.returned (.bool b)/\ϐ w w':=by
 subst h;exact zhy S F T a n c s w
theorem Wi(w:World)(S F T:Int)(a:Option Addr)(n c:Nat):St (w.alloc (.cells #[.int .i64 S,.slice a n c,.int .i64 F,.int .i64 T] 119)) 119 w.heap.size #[.int .i64 S,.slice a n c,.int .i64 F,.int .i64 T]:=St.new _ _ _
theorem zlz(S F T:Int)(a:Option Addr)(n c:Nat)(L:List Eg)(w:World)(hL:lC w a L)(hn:L.length=n)(dZ:n<=maxLen):
  Calls prog 116 #[.agg #[.int .i64 S,.slice a n c,.int .i64 F,.int .i64 T]] w fun e w'=>e=.returned (.bool (xY S L F T))/\ϐ w w':=by
 unfold maxLen at dZ;have HL:=ζ hL hn;have HW:=hid (Wi w S F T a n c);obtain⟨W0,tX⟩:=Ξ (w.alloc (.cells #[.int .i64 S,.slice a n c,.int .i64 F,.int .i64 T] 119))
 have nW:ϐ w W0:=by rw[<-tX];exact (Below.refl _ _).alloc (le_refl _) _
 have oY:W0.heap.size=w.heap.size+1:=by rw[<-tX];simp
 obtain⟨k0,k1,k2,k3⟩:=(HW.o).eW;rw[tX] at HW k0 k1 k2 k3;have HB:=ζ nW oY;have HE:=hid tX;clear hL hn nW oY tX;go_in;go_wp2_with fail;rw[HE.o];go_loopw [8] (fun i wr=>∃k:Nat,i=.int .i64 k/\k<=n/\Hid ((L.take k).all (Ax S)=true)/\ϐ W0 wr) (fun i _=>n-(intOf i).toNat)
 ·exact⟨0,rfl,zero_le _,rfl,Below.refl _ _⟩
 obtain⟨k,rfl,hk,HA,bg⟩:=hrel;have BQ:w.heap.size<W0.heap.size:=by rw[HB.o.2];omega
 have r0:=(bg.cell (p:=⟨w.heap.size,0,none⟩) BQ).trans k0;have r1:=(bg.cell (p:=⟨w.heap.size,1,none⟩) BQ).trans k1;have r2:=(bg.cell (p:=⟨w.heap.size,2,none⟩) BQ).trans k2;have r3:=(bg.cell (p:=⟨w.heap.size,3,none⟩) BQ).trans k3;have cQ:=bg.size;have Bc:w.heap.size<wr.heap.size:=by omega
 by_cases aq:k<n
 ·have hkl:k<L.length:=by rw[HL.o.2];exact aq
  obtain⟨g,off,rfl,hg,c0,c1,c2,c3,c4,c5,c6⟩:=(HL.o.1.below (HB.o.1.trans (bg.mono (by rw[HB.o.2];omega)))).get k hkl;have HS:Hid (∀b,Ax S L[k]=b->(L.take (k+1)).all (Ax S)=b):=by
   intro b hb;rw[List.take_succ_eq_append_getElem hkl,List.all_append,HA.o];simpa using hb
  have kF:Hid (Ax S L[k]=false->xY S L F T=false):=by
   intro hb;have h1:L.all (Ax S)=false:=List.all_eq_false.2 ⟨L[k],List.getElem_mem _,by rw[hb];decide⟩;simp[xY,h1]
  generalize L[k]=x at c0 c1 c2 c3 c4 c5 c6 HS kF;have hN:=znN wr x;obtain⟨b1,fT⟩:=Ξ (qY S x.f)
  obtain⟨b2,cH⟩:=Ξ (qY S x.t)
  have HX:Hid (Ax S x=(b1 && b2)):=by show _=_;unfold Ax;rw[fT,cH]
  have fP:=hid fT;have jA:=hid cH;clear fT cH hkl;obtain⟨W1,qa⟩:=Ξ (wr.alloc (.cells #[.int .i64 x.f,.int .i64 x.t,.int .u64 (wd x.p 0),.int .u64 (wd x.p 1),.int .u64 (wd x.p 2),.int .u64 (wd x.p 3),.bool x.b] 186))
  have my:W1.heap.size=wr.heap.size+1:=by rw[<-qa];simp
  have fT:ϐ wr W1:=by rw[<-qa];exact (Below.refl _ _).alloc (le_refl _) _
  rw[qa] at hN;obtain⟨d0,d1,d2,d3,d4,d5,d6⟩:=hN;have s0:=(fT.cell (p:=⟨w.heap.size,0,none⟩) (by show w.heap.size<_;omega)).trans r0;have s1:=(fT.cell (p:=⟨w.heap.size,1,none⟩) (by show w.heap.size<_;omega)).trans r1;have s2:=(fT.cell (p:=⟨w.heap.size,2,none⟩) (by show w.heap.size<_;omega)).trans r2;have s3:=(fT.cell (p:=⟨w.heap.size,3,none⟩) (by show w.heap.size<_;omega)).trans r3;have py:=ζ (bg.trans (fT.mono cQ)) my;have HW1:=hid qa;clear my fT qa;go_wp2_with fail;rw[HW1.o];refine (Nj S F T _ n c x.f b1 fP.o _).mono ?_;rintro e w2 ⟨rfl,v2⟩;have N4:=py.o.1.trans (v2.mono (by have:=py.o.2;omega));rcases b1 with _|_
  ·have HZ:Hid (xY S L F T=false):=kF.o (by rw[HX.o];rfl);clear d0 d1 d2 d3 d4 d5 d6 s0 s1 s2 s3 v2;have HH:=hid (HB.o.1.trans (N4.mono (by rw[HB.o.2];omega)));clear N4;go_wp2;go_ret;exact⟨by rw[HZ.o];rfl,HH.o⟩
  have U3:=py.o.2;have ID:w.heap.size<W1.heap.size:=by omega
  have ZM:wr.heap.size<W1.heap.size:=by omega
  have q0:=(v2.cell (p:=⟨w.heap.size,0,none⟩) ID).trans s0;have q1:=(v2.cell (p:=⟨w.heap.size,1,none⟩) ID).trans s1;have q2:=(v2.cell (p:=⟨w.heap.size,2,none⟩) ID).trans s2;have q3:=(v2.cell (p:=⟨w.heap.size,3,none⟩) ID).trans s3;have e1:=(v2.cell (p:=⟨wr.heap.size,1,none⟩) ZM).trans d1;clear d0 d1 d2 d3 d4 d5 d6 s0 s1 s2 s3 v2 ID ZM U3;have HH:=hid N4;clear N4;go_wp2_with fail;refine (Nj S F T _ n c x.t b2 jA.o _).mono ?_;rintro e w3 ⟨rfl,v3⟩;have O9:=hid (HH.o.trans (v3.mono HH.o.size));clear v3 q0 q1 q2 q3 e1;rcases b2 with _|_
  ·have HZ:Hid (xY S L F T=false):=kF.o (by rw[HX.o];rfl);go_wp2;go_ret;exact⟨by rw[HZ.o];rfl,HB.o.1.trans (O9.o.mono (by rw[HB.o.2];omega))⟩
  have HZ:Hid ((L.take (k+1)).all (Ax S)=true):=HS.o _ (by rw[HX.o];rfl);go_wp2;go_roundw
  ·exact⟨k+1,by go_num,by omega,HZ,O9.o⟩
  simp[intOf];omega
 obtain rfl:k=n:=by omega
 have HZ:Hid (xY S L F T=(qY S F && qY S T)):=by
  show _=_;have:=HA.o;rw[List.take_of_length_le (by rw[HL.o.2];exact le_refl _)] at this;simp[xY,this]
 obtain⟨b1,fT⟩:=Ξ (qY S F)
 obtain⟨b2,cH⟩:=Ξ (qY S T)
 have fP:=hid fT;have jA:=hid cH;have HX:Hid (xY S L F T=(b1 && b2)):=by show _=_;rw[HZ.o,fT,cH]
 have HH:=hid bg;clear fT cH HZ bg;go_wp2_with fail;refine (Nj S F T _ _ c F b1 fP.o _).mono ?_;rintro e w2 ⟨rfl,v2⟩;have Gi:=hid (HH.o.trans (v2.mono HH.o.size));rcases b1 with _|_
 ·clear v2 r0 r1 r2 r3;go_wp2;go_ret;exact⟨by rw[HX.o];rfl,HB.o.1.trans (Gi.o.mono (by rw[HB.o.2];omega))⟩
 have q0:=(v2.cell (p:=⟨w.heap.size,0,none⟩) Bc).trans r0;have q1:=(v2.cell (p:=⟨w.heap.size,1,none⟩) Bc).trans r1;have q2:=(v2.cell (p:=⟨w.heap.size,2,none⟩) Bc).trans r2;have q3:=(v2.cell (p:=⟨w.heap.size,3,none⟩) Bc).trans r3;clear v2 r0 r1 r2 r3;go_wp2_with fail;refine (Nj S F T _ _ c T b2 jA.o _).mono ?_;rintro e w3 ⟨rfl,v3⟩;have O9:=hid (Gi.o.trans (v3.mono Gi.o.size));clear v3 q0 q1 q2 q3;go_wp2;go_ret;exact⟨by rw[HX.o];rfl,HB.o.1.trans (O9.o.mono (by rw[HB.o.2];omega))⟩
def Vf(w:World)(g o:Nat)(x:En):Prop:=
 w.cell? ⟨g,o,none⟩=some (.int .i64 (x.f:Int))/\w.cell? ⟨g,o+1,none⟩=some (.int .i64 (x.t:Int))/\w.cell? ⟨g,o+2,none⟩=some (.int .u64 (wd x.p 0))/\w.cell? ⟨g,o+3,none⟩=some (.int .u64 (wd x.p 1))/\
  w.cell? ⟨g,o+4,none⟩=some (.int .u64 (wd x.p 2))/\w.cell? ⟨g,o+5,none⟩=some (.int .u64 (wd x.p 3))/\w.cell? ⟨g,o+6,none⟩=some (.bool x.b)
theorem lC.Qu{l:List En}(h:lC w a (l.map En.z))(k:Nat)(hk:k<l.length):
  ∃g off,a=some ⟨g,off,none⟩/\g<w.heap.size/\Vf w g (off+k*7) l[k]:=by
 obtain⟨g,off,h1,h2,h3⟩:=h.get k (by simpa using hk);rw[List.getElem_map] at h3;exact⟨g,off,h1,h2,h3⟩
open Go.Maps
def dv(l:List Nat):List Value:=l.map fun n=>.int .i64 ((n:Nat):Int)
theorem Ad(l:List Nat)(n:Nat):dv (l++[n])=dv l++[.int .i64 (n:Int)]:=by simp[dv]
theorem Ck(l:List Nat)(j:Nat)(h:j<l.length):(dv l)[j]?=some (.int .i64 ((l[j]:Nat):Int)):=by simp[dv,List.getElem?_eq_getElem h]
theorem E5:Keyed prog 3:=int_keyed underlying3
theorem OA(w:World):(zeroValue 3).run prog w=.ok (.int .i64 0) w:=by kernel_rfl
theorem aH:(prog.info? 3).map (fun i=>(i.zero,i.size,i.bytes))=some (some (.int .i64 0),1,8):=by kernel_rfl
theorem Ov(k:Nat)(hk:k<=9223372036854775807):keyOf prog 3 (.int .i64 (k:Int))=some (.int .i64 (k:Int)):=by
 have hw:(Lit.int .i64 (k:Int)).wf=true:=JD (by omega);unfold keyOf;simp[underlying3,mapKey,hw]
theorem Px{a b:Nat}(h:(Value.int .i64 (a:Int))=.int .i64 (b:Int)):a=b:=by
 injection h with _ h;exact Int.ofNat.inj h
theorem aJ.qm{k e:TypeId}{b:Nat}{Q:Value->Value->Prop}(h:aJ w k b n Q)(K:Keyed prog k)(ht:prog.underlying t=some (.map k e)){z:Value}(hz:(zeroValue e).run prog w=.ok z w)
  {key:Value}{kl:Lit}(fw:keyOf prog k key=some kl):
  ((Instr.lookup t (.map (some b)) key true).run prog w=.ok (.tuple #[z,.bool false]) w/\∀y,¬Q key y)\/∃v,Q key v/\(Instr.lookup t (.map (some b)) key true).run prog w=.ok (.tuple #[v,.bool true]) w:=by
 obtain⟨es,clock,hb,F,_,hq,eO⟩:=h;rcases Maps.fit_look true K ht hz hb F fw with ⟨cZ,jv,_⟩|⟨e0,y,hm,hk,cZ,_⟩
 ·refine Or.inl ⟨by simpa using cZ,fun y hy=>?_⟩;obtain⟨e1,h1,h2⟩:=eO _ _ hy;exact jv e1 h1 h2
 exact Or.inr ⟨e0.val,by rw[<-hk];exact hq e0 hm,by simpa using cZ⟩
def AV(nm:List Nat)(x y:Value):Prop:=∃k s:Nat,nm[k]?=some s/\x=.int .i64 ((s:Nat):Int)/\y=.int .i64 ((k:Nat):Int)
theorem fa:(prog.info? 43).map (fun i=>(i.zero,i.size,i.bytes))=some (some (.slice none 0 0),1,24):=by kernel_rfl
theorem Xv(N:Nat)(hN:N<=2147483647)(W:World):(Instr.makeSlice 99 (.int .i64 (N:Int)) (.int .i64 (N:Int))).run prog W=.ok (.slice (some ⟨W.heap.size,0,none⟩) N N) (W.alloc (.cells (madeCells #[.slice none 0 0] N) 43)):=by
 have:=run_make_row' (P:=prog) 99 43 (.slice none 0 0) 24 underlying99 fa rfl .i64 .i64 N (by omega) (by omega) W;simpa using this
def eQ(w:World)(B ts te sz g M:Nat)(vs:Nat->Value)(len:Nat->Nat)(xs:Nat->List Value):Prop:=
 St w ts g ((range M).map vs).toArray/\(∀i,i<M->w.ownsRow B te sz (vs i) (len i) (xs i))/\∀i j,i<M->j<M->i≠j->∀b,(vs i).ownBlock=some b->(vs j).ownBlock≠some b
theorem eQ.ae{sz:Nat}{len:Nat->Nat}(h:eQ w B ts te sz g M vs len xs)(k:ϐ w w'):eQ w' B ts te sz g M vs len xs:=
 ⟨h.1.ae k,fun i hi=>dE (h.2.1 i hi) k,h.2.2⟩
theorem eQ.cell{sz:Nat}{len:Nat->Nat}(h:eQ w B ts te sz g M vs len xs)(i:Nat)(hi:i<M):w.cell? ⟨g,i,none⟩=some (vs i)/\w.frozen? ⟨g,i,none⟩=false:=
 ⟨by rw[h.1.at_];simp[hi],h.1.bE i⟩
theorem eQ.congr{sz:Nat}{len yR:Nat->Nat}{wN:Nat->List Value}(h:eQ w B ts te sz g M vs len xs)(e:∀i,i<M->len i=yR i/\xs i=wN i):eQ w B ts te sz g M vs yR wN:=
 ⟨h.1,fun i hi=>by rw[<-(e i hi).1,<-(e i hi).2];exact h.2.1 i hi,h.2.2⟩
theorem eQ.made(w:World)(B ts te sz M:Nat):eQ (w.alloc (.cells (madeCells #[.slice none 0 0] M) ts)) B ts te sz w.heap.size M (fun _=>.slice none 0 0) (fun _=>0) (fun _=>[]):=by
 refine⟨?_,fun i _=>World.ownsRow_nil _ _ _ _,fun i j _ _ _ b h=>by simp[Value.ownBlock] at h⟩;have e1:madeCells #[.slice none 0 0] M=((range M).map (fun _=>Value.slice none 0 0)).toArray:=by
  apply Array.ext';apply ext_getElem?;intro i;by_cases hi:i<M
  ·simp[madeCells,hi,Nat.mod_one]
  simp[madeCells,hi]
 rw[<-e1];exact St.new _ _ _
theorem eQ.app{w w':World}{B ts te sz g M:Nat}{vs:Nat->Value}{len:Nat->Nat}{xs:Nat->List Value}(h:eQ w B ts te sz g M vs len xs)(ht:te≠ts){i:Nat}(hi:i<M){v':Value}{n':Nat}{ys:List Value}(ho:w'.ownsRow B te sz v' n' ys)(hg:w.grownBy w' (vs i).ownBlock)
  (fD:∀b,v'.ownBlock=some b->(vs i).ownBlock=some b\/w.heap.size<=b):eQ (w'.setCell ⟨g,i,none⟩ v') B ts te sz g M (fun j=>if j=i then v' else vs j) (fun j=>if j=i then n' else len j) (fun j=>if j=i then ys else xs j):=by
 have hs:=h.1.af (h.2.1 i hi) ht hg;have aq:∀j,j<M->∀b,(vs j).ownBlock=some b->b<w.heap.size:=fun j hj b e=>by
  obtain⟨c,fz,hc⟩:=qX (h.2.1 j hj) b e;exact (Array.getElem?_eq_some_iff.1 hc).1
 refine⟨?_,fun j hj=>?_,fun j k hj hk hjk b=>?_⟩
 ·have:=hs.set i v';have e:(((range M).map vs).toArray).setIfInBounds i v'=((range M).map (fun j=>if j=i then v' else vs j)).toArray:=by
   apply Array.ext';apply ext_getElem?;intro j;rw[Array.toList_setIfInBounds,List.getElem?_set];by_cases e:i=j
   ·subst e;simp[hi]
   have e':¬j=i:=(fun h=>e h.symm);simp only[if_neg e,List.getElem?_map];by_cases hj:j<M
   ·simp[hj,e']
   simp[hj]
  rw[e] at this;exact this
 ·by_cases e:j=i
  ·subst e;simp only[if_pos rfl];exact kz ho hs ht j v'
  simp only[if_neg e];refine kz (rS (h.2.1 j hj) hg (fun b e1 e2=>h.2.2 j i hj hi e b e1 e2.symm)) hs ht i v'
 by_cases e1:j=i
 ·subst e1;have e2:¬k=j:=fun e=>hjk e.symm
  simp only[if_pos rfl,if_neg e2];intro e3 e4;rcases fD b e3 with h1|h1
  ·exact h.2.2 j k hj hk hjk b h1 e4
  have:=aq k hk b e4;omega
 by_cases e2:k=i
 ·subst e2;simp only[if_pos rfl,if_neg e1];intro e3 e4;rcases fD b e4 with h1|h1
  ·exact h.2.2 j k hj hk hjk b e3 h1
  have:=aq j hj b e3;omega
 simp only[if_neg e1,if_neg e2];exact h.2.2 j k hj hk hjk b
def eE(L:List En)(i:Nat):List Nat:=(L.filter fun e=>e.b && e.f == i).map (·.t)
def dk(L:List En)(i:Nat):List En:=L.filter fun e=>!e.b && e.f == i
theorem WU(L:List En)(x:En)(i:Nat):eE (L++[x]) i=if x.b=true/\x.f=i then eE L i++[x.t] else eE L i:=by
 unfold eE;rw[List.filter_append,List.map_append];by_cases h:x.b=true/\x.f=i
 ·rw[if_pos h];simp[h.1,h.2]
 rw[if_neg h];by_cases hb:x.b=true
 ·have:¬x.f=i:=fun e=>h ⟨hb,e⟩
  simp[hb,this]
 simp[hb]
theorem EH(L:List En)(x:En)(i:Nat):dk (L++[x]) i=if x.b=false/\x.f=i then dk L i++[x] else dk L i:=by
 unfold dk;rw[List.filter_append];by_cases h:x.b=false/\x.f=i
 ·rw[if_pos h];simp[h.1,h.2]
 rw[if_neg h];by_cases hb:x.b=false
 ·have:¬x.f=i:=fun e=>h ⟨hb,e⟩
  simp[hb,this]
 simp[hb]
theorem ZX(L:List En)(i:Nat):(eE L i).length<=L.length:=by simp[eE];exact List.length_filter_le _ _
theorem ziL(L:List En)(i:Nat):(dk L i).length<=L.length:=List.length_filter_le _ _
theorem SN(L:List En)(i y:Nat):y∈eE L i↔∃e∈L,e.b=true/\e.f=i/\e.t=y:=by
 simp only[eE,List.mem_map,List.mem_filter,Bool.and_eq_true,beq_iff_eq];exact⟨fun ⟨e,⟨h1,h2,h3⟩,h4⟩=>⟨e,h1,h2,h3,h4⟩,fun ⟨e,h1,h2,h3,h4⟩=>⟨e,⟨h1,h2,h3⟩,h4⟩⟩
theorem Of(L:List En)(i:Nat)(e:En):e∈dk L i↔e∈L/\e.b=false/\e.f=i:=by
 simp[dk,List.mem_filter]
