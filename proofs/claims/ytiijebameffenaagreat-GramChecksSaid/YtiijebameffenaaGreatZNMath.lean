import Derived.Test.YtiijebameffenaaGreatZA
import Derived.Below
import Derived.Laws.Bits64b
import Derived.Laws.BitsAllLaws
import Derived.Laws.Rows
import Derived.Lib.Hide
import Derived.Outline
import Derived.RegionTactic
import Derived.Test.YtiijebameffenaaGreatChecked
import Derived.WalkKit
import Derived.WalkLawsBesides
import Derived.WalkSpells
set_option linter.all false
namespace Go.Proofs.YtiijebameffenaaGreat
open Go.Proofs.Tryz
open Nat (eq_of_testBit_eq le_refl mod_lt)
open IntKind (signed wrap)
variable {B N g j t y:Nat}{cs:Array Value}{nm:List Nat}{q:Nat->Bool}{w w':World}
theorem Zz{a b:Prop}(x:a)(y:b):a/\b:=⟨x,y⟩
theorem ζ {a b:Prop} (ha:a) (hb:b):Go.RowKit.Hid (a/\b):=Go.Lib.hid ⟨ha,hb⟩
theorem ξ {a b c:Prop} (ha:a) (hb:b) (hc:c):Go.RowKit.Hid (a/\b/\c):=Go.Lib.hid ⟨ha,hb,hc⟩
theorem ψ {a b c d:Prop} (ha:a) (hb:b) (hc:c) (hd:d):Go.RowKit.Hid (a/\b/\c/\d):=Go.Lib.hid ⟨ha,hb,hc,hd⟩
theorem φ {a b c d e:Prop} (ha:a) (hb:b) (hc:c) (hd:d) (he:e):Go.RowKit.Hid (a/\b/\c/\d/\e):=Go.Lib.hid ⟨ha,hb,hc,hd,he⟩
def lp(p:Nat->Bool)(j:Nat):Nat->Nat
 | 0=>0
 | n+1=>lp p j n+if p (64*j+n) then 2 ^ n else 0
def wd(p:Nat->Bool)(j:Nat):Nat:=lp p j 64
theorem Qs(p:Nat->Bool)(j n:Nat):lp p j n<2 ^ n:=by
 induction n with
 | zero=>simp[lp]
 | succ n ih=>unfold lp;rw[Nat.pow_succ];split <;> omega
theorem znJ(p:Nat->Bool)(j n k:Nat):(lp p j n).testBit k=(decide (k<n) && p (64*j+k)):=by
 induction n with
 | zero=>simp[lp]
 | succ n ih=>
  unfold lp;have hl:=Qs p j n;rcases Nat.lt_trichotomy k n with h|h|h
  ·have h1:k<n+1:=(by omega);split
   ·rw[Nat.add_comm,Nat.testBit_two_pow_add_gt h,ih];simp[h,h1]
   rw[Nat.add_zero,ih];simp[h,h1]
  ·subst h;split
   ·rename_i hp;rw[Nat.add_comm,Nat.testBit_two_pow_add_eq,ih];simp[hp]
   rename_i hp;rw[Nat.add_zero,ih];simp[hp]
  have h1:¬k<n+1:=by omega
  have h2:¬k<n:=by omega
  have hb:lp p j (n+1)<2 ^ k:=Nat.lt_of_lt_of_le (Qs p j (n+1)) (Nat.pow_le_pow_right (by decide) (by omega));unfold lp at hb;rw[Nat.testBit_lt_two_pow hb];simp[h1]
theorem uZ(p:Nat->Bool)(j:Nat):wd p j<18446744073709551616:=Qs p j 64
theorem vx(p:Nat->Bool)(j k:Nat):(wd p j).testBit k=(decide (k<64) && p (64*j+k)):=znJ p j 64 k
theorem uH{p:Nat->Bool}(h:∀k,k<64->p (64*j+k)=q (64*j+k)):wd p j=wd q j:=by
 refine eq_of_testBit_eq fun k=>?_
 rw[vx,vx];by_cases hk:k<64
 ·rw[h k hk]
 simp[hk]
theorem NN{p:Nat->Bool}(h:wd p j=wd q j)(k:Nat)(hk:k<64):p (64*j+k)=q (64*j+k):=by
 have h1:=congrArg (fun x=>Nat.testBit x k) h;simpa [vx,hk] using h1
theorem V3(p q:Nat->Bool):(wd p 0=wd q 0/\wd p 1=wd q 1/\wd p 2=wd q 2/\wd p 3=wd q 3)↔∀b,b<256->p b=q b:=by
 constructor
 ·rintro⟨h0,h1,h2,h3⟩ b hb;have hr:b % 64<64:=mod_lt _ (by decide);have hd:b=64*(b / 64)+b % 64:=(Nat.div_add_mod b 64).symm;have hq:b / 64=0\/b / 64=1\/b / 64=2\/b / 64=3:=by omega
  rw[hd];rcases hq with h|h|h|h <;> rw[h]
  ·exact NN h0 _ hr
  ·exact NN h1 _ hr
  ·exact NN h2 _ hr
  exact NN h3 _ hr
 intro h;exact⟨uH fun k hk=>h _ (by omega),uH fun k hk=>h _ (by omega),uH fun k hk=>h _ (by omega),uH fun k hk=>h _ (by omega)⟩
theorem Xk(p q:Nat->Bool)(j:Nat):wd p j ||| wd q j=wd (fun x=>p x || q x) j:=by
 refine eq_of_testBit_eq fun k=>?_
 rw[Nat.testBit_or,vx,vx,vx];cases decide (k<64) <;> simp
theorem zro(j r:Nat)(hr:r<64)(b:Nat)(hb:b=64*j+r):2 ^ r=wd (fun x=>x == b) j:=by
 refine eq_of_testBit_eq fun k=>?_
 rw[Nat.testBit_two_pow,vx];by_cases h:r=k
 ·subst h;subst hb;simp[hr]
 have h2:(64*j+k == b)=false:=by simp;omega
 simp[h,h2]
theorem xD(j:Nat):wd (fun _=>false) j=0:=by
 refine eq_of_testBit_eq fun k=>?_
 rw[vx];simp
theorem zp8(j:Nat):wd (fun _=>true) j=18446744073709551615:=by
 refine eq_of_testBit_eq fun k=>?_
 rw[vx,show 18446744073709551615=2 ^ 64-1 by decide,Nat.testBit_two_pow_sub_one];simp
def ins(p:Nat->Bool)(b:Nat):Nat->Bool:=fun x=>p x || x == b
theorem zrp(p:Nat->Bool)(b j:Nat)(h:b / 64=j):wd p j ||| 2 ^ (b % 64)=wd (ins p b) j:=by
 rw[zro j (b % 64) (mod_lt _ (by decide)) b (by omega),Xk];rfl
theorem nN(p:Nat->Bool)(b j:Nat)(h:b / 64≠j):wd (ins p b) j=wd p j:=by
 refine uH fun k hk=>?_
 have h2:(64*j+k == b)=false:=by simp;omega
 simp[ins,h2]
theorem znL(p:Nat->Bool)(b j n:Nat)(hp:p b=false)(h:b / 64=j):lp (ins p b) j n=lp p j n+if b % 64<n then 2 ^ (b % 64) else 0:=by
 induction n with
 | zero=>simp[lp]
 | succ n ih=>
  unfold lp;rw[ih];have e:ins p b (64*j+n)=(p (64*j+n) || (64*j+n == b)):=rfl;by_cases hn:b % 64=n
  ·have hb:64*j+n=b:=(by omega);have:¬b % 64<n:=(by omega);rw[e,hb,hp,if_neg this,if_pos (by omega:b % 64<n+1),<-hn];simp
  have hb:(64*j+n == b)=false:=by simp;omega
  rw[e,hb,Bool.or_false];by_cases hl:b % 64<n
  ·rw[if_pos hl,if_pos (by omega:b % 64<n+1)];omega
  rw[if_neg hl,if_neg (by omega:¬b % 64<n+1)];omega
theorem zrq(p:Nat->Bool)(b j:Nat)(hp:p b=false)(h:b / 64=j):wd p j+2 ^ (b % 64)=wd (ins p b) j:=by
 unfold wd;rw[znL p b j 64 hp h,if_pos (mod_lt _ (by decide))]
theorem IY(p:Nat->Bool)(b j:Nat)(h:b / 64=j):(wd p j / 2 ^ (b % 64)) % 2=if p b then 1 else 0:=by
 have h1:=vx p j (b % 64);rw[Nat.testBit_eq_decide_div_mod_eq,show 64*j+b % 64=b by omega] at h1;have hr:b % 64<64:=mod_lt _ (by decide);by_cases hp:p b
 ·simpa [hr,hp] using h1
 have:¬(wd p j / 2 ^ (b % 64)) % 2=1:=by simpa [hr,hp] using h1
 simp[hp];omega
theorem zp9(p q:Nat->Bool)(j:Nat):bits .or .u64 ((wd p j:Nat):Int) ((wd q j:Nat):Int)=((wd (fun x=>p x || q x) j:Nat):Int):=by
 rw[u64_or_nat _ _ (uZ p j) (uZ q j),Xk]
theorem znM(p:Nat->Bool)(j:Nat):bits .xor .u64 18446744073709551615 ((wd p j:Nat):Int)=((wd (fun x=>!p x) j:Nat):Int):=by
 rw[show (18446744073709551615:Int)=((18446744073709551615:Nat):Int) by rfl,u64_xor_nat _ _ (by decide) (uZ p j),<-zp8 j];congr 1;refine eq_of_testBit_eq fun k=>?_
 rw[Nat.testBit_xor,vx,vx,vx];cases decide (k<64) <;> simp
theorem Zk(r:Nat)(hr:r<64):IntKind.u64.wrap ((2:Int) ^ r)=((2 ^ r:Nat):Int):=by
 have h1:2 ^ r<2 ^ 64:=Nat.pow_lt_pow_right (by decide) hr;have h2:((2:Int) ^ r)=((2 ^ r:Nat):Int):=by simp
 rw[h2];simp only[wrap,IntKind.bits,signed];have h3:((2 ^ r:Nat):Int)<18446744073709551616:=by have:=h1;omega
 generalize hx:2 ^ r=x at h1 h3⊢;simp;omega
theorem MF(p:Nat->Bool)(b j:Nat)(h:b / 64=j):(bits .and .u64 (((wd p j:Nat):Int) / 2 ^ (b % 64)) 1 == 1)=p b:=by
 have h1:=IY p b j h;have h2:=uZ p j;have h3:((wd p j:Nat):Int) / 2 ^ (b % 64)=((wd p j / 2 ^ (b % 64):Nat):Int):=by simp
 have h4:wd p j / 2 ^ (b % 64)<=wd p j:=Nat.div_le_self _ _;rw[h3,show (1:Int)=((1:Nat):Int) by rfl,u64_and_nat _ _ (by omega) (by decide),Nat.and_one_is_mod,h1];cases p b <;> simp
theorem NI(p:Nat->Bool)(b j:Nat)(h:b / 64=j):bits .or .u64 ((wd p j:Nat):Int) (IntKind.u64.wrap (2 ^ (b % 64)))=((wd (ins p b) j:Nat):Int):=by
 have hr:b % 64<64:=mod_lt _ (by decide);have h1:2 ^ (b % 64)<2 ^ 64:=Nat.pow_lt_pow_right (by decide) hr;rw[Zk _ hr,u64_or_nat _ _ (uZ p j) h1,zrp p b j h]
def cv(p:Nat->Bool)(k:Nat):Nat->Bool:=fun x=>decide (x<k) && p x
theorem VQ(p:Nat->Bool):cv p 0=fun _=>false:=by funext x;simp[cv]
theorem Wv(p:Nat->Bool)(k:Nat)(h:p k=true):cv p (k+1)=ins (cv p k) k:=by
 funext x;rw[Bool.eq_iff_iff];simp only[cv,ins,Bool.or_eq_true,Bool.and_eq_true,decide_eq_true_eq,beq_iff_eq];constructor
 ·rintro⟨h1,h2⟩;by_cases e:x=k
  ·exact Or.inr e
  exact Or.inl ⟨by omega,h2⟩
 rintro (⟨h1,h2⟩|rfl)
 ·exact⟨by omega,h2⟩
 exact⟨by omega,h⟩
theorem zlt(p:Nat->Bool)(k:Nat)(h:p k=false):cv p (k+1)=cv p k:=by
 funext x;rw[Bool.eq_iff_iff];simp only[cv,Bool.and_eq_true,decide_eq_true_eq];constructor
 ·rintro⟨h1,h2⟩;refine⟨?_,h2⟩;rcases Nat.lt_or_ge x k with e|e
  ·exact e
  obtain rfl:x=k:=by omega
  rw[h] at h2;simp at h2
 rintro⟨h1,h2⟩;exact⟨by omega,h2⟩
theorem Mk(p:Nat->Bool)(j:Nat)(hj:j<4):wd (cv p 256) j=wd p j:=uH fun k hk=>by
 have:64*j+k<256:=by omega
 simp[cv,this]
theorem Oa(p:Nat->Bool)(k j:Nat)(h:k / 64=j):IntKind.u64.wrap (((wd (cv p k) j:Nat):Int)+IntKind.u64.wrap (2 ^ (k % 64)))=((wd (ins (cv p k) k) j:Nat):Int):=by
 have hr:k % 64<64:=mod_lt _ (by decide);have h1:=zrq (cv p k) k j (by simp[cv]) h;have h2:=uZ (ins (cv p k) k) j;rw[Zk _ hr,<-h1];rw[<-h1] at h2;simp only[wrap,IntKind.bits,signed];generalize wd (cv p k) j=x at h2⊢;generalize 2 ^ (k % 64)=y at h2⊢;simp;omega
open Go.RowKit
theorem Z7(p:Nat->Bool)(b:Nat)(hb:b<256)(w:World):
  Calls prog 171 #[(.agg #[.int .u64 (wd p 0),.int .u64 (wd p 1),.int .u64 (wd p 2),.int .u64 (wd p 3)]),.int .u8 b] w fun e w'=>e=.returned (.bool (p b))/\ϐ w w':=by
 have hq:b / 64=0\/b / 64=1\/b / 64=2\/b / 64=3:=by omega
 rcases hq with h|h|h|h
 ·go_in;go_wp2;rw[MF p b 0 h];go_ret;exact⟨rfl,(Below.refl _ _).alloc (le_refl _) _⟩
 ·go_in;go_wp2;rw[MF p b 1 h];go_ret;exact⟨rfl,(Below.refl _ _).alloc (le_refl _) _⟩
 ·go_in;go_wp2;rw[MF p b 2 h];go_ret;exact⟨rfl,(Below.refl _ _).alloc (le_refl _) _⟩
 go_in;go_wp2;rw[MF p b 3 h];go_ret;exact⟨rfl,(Below.refl _ _).alloc (le_refl _) _⟩
theorem Wx(p:Nat->Bool)(b:Nat)(hb:b<256)(w:World):
  Calls prog 209 #[(.agg #[.int .u64 (wd p 0),.int .u64 (wd p 1),.int .u64 (wd p 2),.int .u64 (wd p 3)]),.int .u8 b] w fun e w'=>e=.returned (.agg #[.int .u64 ((wd (ins p b) 0:Nat):Int),.int .u64 ((wd (ins p b) 1:Nat):Int),.int .u64 ((wd (ins p b) 2:Nat):Int),.int .u64 ((wd (ins p b) 3:Nat):Int)])/\ϐ w w':=by
 have hq:b / 64=0\/b / 64=1\/b / 64=2\/b / 64=3:=by omega
 rcases hq with h|h|h|h
 ·go_in;go_wp2;rw[NI p b 0 h,<-nN p b 1 (by omega),<-nN p b 2 (by omega),<-nN p b 3 (by omega)];exact bodyPost_ret (v:=(.agg #[.int .u64 ((wd (ins p b) 0:Nat):Int),.int .u64 ((wd (ins p b) 1:Nat):Int),.int .u64 ((wd (ins p b) 2:Nat):Int),.int .u64 ((wd (ins p b) 3:Nat):Int)])) (by simp[results,results209,go_sem]) rfl ⟨rfl,((Below.refl _ _).alloc (le_refl _) _).alloc (by simp) _⟩
 ·go_in;go_wp2;rw[NI p b 1 h,<-nN p b 0 (by omega),<-nN p b 2 (by omega),<-nN p b 3 (by omega)];exact bodyPost_ret (v:=(.agg #[.int .u64 ((wd (ins p b) 0:Nat):Int),.int .u64 ((wd (ins p b) 1:Nat):Int),.int .u64 ((wd (ins p b) 2:Nat):Int),.int .u64 ((wd (ins p b) 3:Nat):Int)])) (by simp[results,results209,go_sem]) rfl ⟨rfl,((Below.refl _ _).alloc (le_refl _) _).alloc (by simp) _⟩
 ·go_in;go_wp2;rw[NI p b 2 h,<-nN p b 0 (by omega),<-nN p b 1 (by omega),<-nN p b 3 (by omega)];exact bodyPost_ret (v:=(.agg #[.int .u64 ((wd (ins p b) 0:Nat):Int),.int .u64 ((wd (ins p b) 1:Nat):Int),.int .u64 ((wd (ins p b) 2:Nat):Int),.int .u64 ((wd (ins p b) 3:Nat):Int)])) (by simp[results,results209,go_sem]) rfl ⟨rfl,((Below.refl _ _).alloc (le_refl _) _).alloc (by simp) _⟩
 go_in;go_wp2;rw[NI p b 3 h,<-nN p b 0 (by omega),<-nN p b 1 (by omega),<-nN p b 2 (by omega)];exact bodyPost_ret (v:=(.agg #[.int .u64 ((wd (ins p b) 0:Nat):Int),.int .u64 ((wd (ins p b) 1:Nat):Int),.int .u64 ((wd (ins p b) 2:Nat):Int),.int .u64 ((wd (ins p b) 3:Nat):Int)])) (by simp[results,results209,go_sem]) rfl ⟨rfl,((Below.refl _ _).alloc (le_refl _) _).alloc (by simp) _⟩
def St(w:World)(t g:Nat)(cs:Array Value):Prop:=w.heap[g]?=some (.cells cs t (0,0))
theorem St.lt(h:St w t g cs):g<w.heap.size:=(Array.getElem?_eq_some_iff.1 h).1
theorem St.set(h:St w t g cs)(i:Nat)(u:Value):St (w.setCell ⟨g,i,none⟩ u) t g (cs.setIfInBounds i u):=heap_setCell_same w g i cs t u h
theorem St.gJ(h:St w t g cs){p:Addr}(hp:g≠p.block)(u:Value):St (w.setCell p u) t g cs:=(Below.heap_setCell w p u g hp).trans h
theorem St.below(h:St w t g cs)(k:Below B w w')(hg:g<B):St w' t g cs:=(k.block g hg).trans h
theorem St.ae(h:St w t g cs)(k:ϐ w w'):St w' t g cs:=h.below k h.lt
theorem St.drew(h:St w t g cs):St w.drew t g cs:=h
theorem St.pQ{c0 c1 c2 c3:Value}(h:St w t g #[c0,c1,c2,c3])(d0 d1 d2 d3:Value):
  St ((((w.setCell ⟨g,0,none⟩ d0).setCell ⟨g,1,none⟩ d1).setCell ⟨g,2,none⟩ d2).setCell ⟨g,3,none⟩ d3) t g #[d0,d1,d2,d3]:=by
 have:=(((h.set 0 d0).set 1 d1).set 2 d2).set 3 d3;simpa using this
theorem St.RU{g':Nat}(h:St w t g cs)(hn:g≠g')(d0 d1 d2 d3:Value):
  St ((((w.setCell ⟨g',0,none⟩ d0).setCell ⟨g',1,none⟩ d1).setCell ⟨g',2,none⟩ d2).setCell ⟨g',3,none⟩ d3) t g cs:=
 (((h.gJ (p:=⟨g',0,none⟩) hn d0).gJ (p:=⟨g',1,none⟩) hn d1).gJ (p:=⟨g',2,none⟩) hn d2).gJ (p:=⟨g',3,none⟩) hn d3
theorem td{w0:World}(h:Below B w0 w)(hg:B<=g)(d0 d1 d2 d3:Value):
  Below B w0 ((((w.setCell ⟨g,0,none⟩ d0).setCell ⟨g,1,none⟩ d1).setCell ⟨g,2,none⟩ d2).setCell ⟨g,3,none⟩ d3):=
 (((h.setCell (p:=⟨g,0,none⟩) hg d0).setCell (p:=⟨g,1,none⟩) hg d1).setCell (p:=⟨g,2,none⟩) hg d2).setCell (p:=⟨g,3,none⟩) hg d3
theorem St.new(w:World)(t:Nat)(cs:Array Value):St (w.alloc (.cells cs t)) t w.heap.size cs:=by
 show (w.heap.push _)[w.heap.size]?=_;rw[Array.getElem?_push,if_pos rfl]
theorem St.alloc(h:St w t g cs)(o:Obj):St (w.alloc o) t g cs:=(Below.heap_alloc w o g h.lt).trans h
theorem bZ{c0 c1 c2 c3:Value}{t:TypeId}(h:St w t g #[c0,c1,c2,c3]):
  w.cell? ⟨g,0,none⟩=some c0/\w.cell? ⟨g,1,none⟩=some c1/\w.cell? ⟨g,2,none⟩=some c2/\w.cell? ⟨g,3,none⟩=some c3/\
  w.frozen? ⟨g,0,none⟩=false/\w.frozen? ⟨g,1,none⟩=false/\w.frozen? ⟨g,2,none⟩=false/\w.frozen? ⟨g,3,none⟩=false:=by
 have h:w.heap[g]?=some (.cells #[c0,c1,c2,c3] t (0,0)):=h;refine⟨?_,?_,?_,?_,frozen_of_row w g 0 _ _ h,frozen_of_row w g 1 _ _ h,frozen_of_row w g 2 _ _ h,frozen_of_row w g 3 _ _ h⟩ <;> (rw[cell_of_row w g _ _ _ _ h];rfl)
theorem Xr(w:World)(g:Nat)(d0 d1 d2 d3:Value):((((w.setCell ⟨g,0,none⟩ d0).setCell ⟨g,1,none⟩ d1).setCell ⟨g,2,none⟩ d2).setCell ⟨g,3,none⟩ d3).heap.size=w.heap.size:=by simp[World.setCell]
def fu(z:Nat->Nat):Nat->Nat->Bool
 | 0=>fun _=>false
 | k+1=>ins (fu z k) (z k)
theorem SY(z:Nat->Nat)(k b:Nat):fu z k b=true↔∃j,j<k/\z j=b:=by
 induction k with
 | zero=>simp[fu]
 | succ k ih=>
  simp only[fu,ins,Bool.or_eq_true,ih,beq_iff_eq];constructor
  ·rintro (⟨j,hj,e⟩|e)
   ·exact⟨j,by omega,e⟩
   exact⟨k,by omega,e.symm⟩
  rintro⟨j,hj,e⟩;rcases Nat.lt_or_ge j k with h|h
  ·exact Or.inl ⟨j,h,e⟩
  obtain rfl:j=k:=by omega
  exact Or.inr e.symm
def IF(w:World)(a:Option Addr)(len:Nat)(z:Nat->Nat):Prop:=
 0<len->∃b off,a=some ⟨b,off,none⟩/\b<w.heap.size/\∀j,j<len->w.cell? ⟨b,off+j,none⟩=some (.int .u8 (z j))/\z j<256
structure gp (w:World)(q:Nat->Bool)(wr:World):Prop where
 s0:St wr 146 w.heap.size #[.int .u64 ((wd ((fun _=>false)) 0:Nat):Int),.int .u64 ((wd ((fun _=>false)) 1:Nat):Int),.int .u64 ((wd ((fun _=>false)) 2:Nat):Int),.int .u64 ((wd ((fun _=>false)) 3:Nat):Int)]
 s1:St wr 146 (w.heap.size+1) #[.int .u64 (wd q 0),.int .u64 (wd q 1),.int .u64 (wd q 2),.int .u64 (wd q 3)]
 below:ϐ w wr
theorem gp.start(w:World):gp w (fun _=>false) ((w.alloc (.cells #[.int .u64 0,.int .u64 0,.int .u64 0,.int .u64 0] 146)).alloc (.cells #[.int .u64 0,.int .u64 0,.int .u64 0,.int .u64 0] 146)):=by
 have e:∀j,((wd (fun _=>false) j:Nat):Int)=0:=fun j=>by rw[xD];rfl
 refine⟨?_,?_,((Below.refl _ _).alloc (le_refl _) _).alloc (by simp) _⟩ <;> simp only[e]
 ·exact (St.new _ _ _).alloc _
 have:=St.new (w.alloc (.cells #[.int .u64 0,.int .u64 0,.int .u64 0,.int .u64 0] 146)) 146 #[.int .u64 0,.int .u64 0,.int .u64 0,.int .u64 0];simpa using this
theorem gp.step{w wr w1:World}{q:Nat->Bool}(h:gp w q wr)(hb:ϐ wr w1)(q':Nat->Bool):
  gp w q' ((((w1.setCell ⟨w.heap.size+1,0,none⟩ (.int .u64 (wd q' 0))).setCell ⟨w.heap.size+1,1,none⟩ (.int .u64 (wd q' 1))).setCell ⟨w.heap.size+1,2,none⟩ (.int .u64 (wd q' 2))).setCell ⟨w.heap.size+1,3,none⟩ (.int .u64 (wd q' 3))):=
 have hs:=h.below.size
 ⟨(h.s0.ae hb).RU (by omega) _ _ _ _,(h.s1.ae hb).pQ _ _ _ _,td (h.below.trans (hb.mono hs)) (by omega) _ _ _ _⟩
structure En where
 f:Nat
 t:Nat
 p:Nat->Bool
 b:Bool
inductive FR (L:List En) (A:Nat->Prop):Nat->Prop
 | base {x:Nat}:A x->FR L A x
 | step {x y:Nat}(e:En):FR L A x->e∈L->e.b=true->e.f=x->e.t=y->FR L A y
def Mv(L:List En)(A:Nat->Prop)(c:Nat)(y:Nat):Prop:=∃e∈L,e.b=false/\e.p c=true/\A e.f/\e.t=y
def da(L:List En)(f:Nat)(z:Nat->Nat):Nat->Nat->Prop
 | 0=>FR L (fun x=>x=f)
 | k+1=>FR L (Mv L (da L f z k) (z k))
theorem FR.mono{L:List En}{A B:Nat->Prop}(h:∀x,A x->B x)(k:FR L A y):FR L B y:=by
 induction k with
 | base ha=>exact .base (h _ ha)
 | step e _ h1 h2 h3 h4 ih=>exact .step e ih h1 h2 h3 h4
theorem FR.congr{L:List En}{A B:Nat->Prop}(h:∀x,A x↔B x)(y:Nat):FR L A y↔FR L B y:=
 ⟨FR.mono fun x=>(h x).1,FR.mono fun x=>(h x).2⟩
theorem FR.within{L:List En}{A C:Nat->Prop}(h:∀x,A x->C x)(hc:∀e∈L,e.b=true->C e.f->C e.t)(k:FR L A y):C y:=by
 induction k with
 | base ha=>exact h _ ha
 | step e _ h1 h2 h3 h4 ih=>subst h3 h4;exact hc e h1 h2 ih
theorem FR.lt{L:List En}{A:Nat->Prop}(h:∀x,A x->x<N)(hL:∀e∈L,e.t<N)(k:FR L A y):y<N:=
 FR.within (C:=fun x=>x<N) h (fun e he _ _=>hL e he) k
theorem Mv.congr{L:List En}{A B:Nat->Prop}(h:∀x,A x↔B x)(c y:Nat):Mv L A c y↔Mv L B c y:=
 ⟨fun ⟨e,a,b,d,f,g⟩=>⟨e,a,b,d,(h _).1 f,g⟩,fun ⟨e,a,b,d,f,g⟩=>⟨e,a,b,d,(h _).2 f,g⟩⟩
theorem Mv.lt{L:List En}{A:Nat->Prop}(hL:∀e∈L,e.t<N){c:Nat}(k:Mv L A c y):y<N:=by
 obtain⟨e,h,_,_,_,rfl⟩:=k;exact hL e h
theorem da.lt{L:List En}{f N:Nat}{z:Nat->Nat}(hf:f<N)(hL:∀e∈L,e.t<N)(k:Nat){y:Nat}(h:da L f z k y):y<N:=by
 cases k with
 | zero=>exact FR.lt (fun x hx=>by omega) hL h
 | succ k=>exact FR.lt (fun x hx=>Mv.lt hL hx) hL h
def En.pC(nm:List Nat)(e:En):En:=⟨nm.getD e.f 0,nm.getD e.t 0,e.p,e.b⟩
def uN(nm:List Nat)(A' A:Nat->Prop):Prop:=(∀i,A' i->i<nm.length)/\∀x,A x↔∃i,A' i/\nm.getD i 0=x
theorem Uo(h:nm.Nodup){i:Nat}(hi:i<nm.length)(hj:j<nm.length)(e:nm.getD i 0=nm.getD j 0):i=j:=by
 rw[List.getD_eq_getElem?_getD,List.getD_eq_getElem?_getD,List.getElem?_eq_getElem hi,List.getElem?_eq_getElem hj] at e;simp only[Option.getD_some] at e;rcases Nat.lt_trichotomy i j with k|k|k
 ·exact absurd e (List.pairwise_iff_getElem.1 h i j hi hj k)
 ·exact k
 exact absurd e.symm (List.pairwise_iff_getElem.1 h j i hj hi k)
theorem uN.fr(hn:nm.Nodup){L':List En}(hL:∀e∈L',e.f<nm.length/\e.t<nm.length){A' A:Nat->Prop}(h:uN nm A' A):uN nm (FR L' A') (FR (L'.map (En.pC nm)) A):=by
 refine⟨fun i hi=>FR.lt h.1 (fun e he=>(hL e he).2) hi,fun x=>⟨fun k=>?_,?_⟩⟩
 ·induction k with
  | base ha=>obtain⟨i,h2,h3⟩:=(h.2 _).1 ha;exact⟨i,.base h2,h3⟩
  | step e _ h1 h2 h3 h4 ih=>
   obtain⟨e',tz,rfl⟩:=List.mem_map.1 h1;obtain⟨i,g2,g3⟩:=ih;have hb:=hL e' tz;have e1:e'.f=i:=Uo hn hb.1 (FR.lt h.1 (fun e he=>(hL e he).2) g2) (by rw[g3];exact h3);exact⟨e'.t,.step e' g2 tz h2 e1 rfl,h4⟩
 rintro⟨i,h2,rfl⟩
 induction h2 with
 | base ha=>exact .base ((h.2 _).2 ⟨_,ha,rfl⟩)
 | step e _ h1 h2 h3 h4 ih=>exact .step (e.pC nm) ih (List.mem_map.2 ⟨e,h1,rfl⟩) h2 (by rw[<-h3];rfl) (by rw[<-h4];rfl)
theorem uN.mv(hn:nm.Nodup){L':List En}(hL:∀e∈L',e.f<nm.length/\e.t<nm.length){A' A:Nat->Prop}(h:uN nm A' A)(c:Nat):uN nm (Mv L' A' c) (Mv (L'.map (En.pC nm)) A c):=by
 refine⟨fun i hi=>Mv.lt (fun e he=>(hL e he).2) hi,fun x=>⟨?_,?_⟩⟩
 ·rintro⟨e,h1,h2,h3,h4,rfl⟩;obtain⟨e',tz,rfl⟩:=List.mem_map.1 h1;obtain⟨i,g2,g3⟩:=(h.2 _).1 h4;have e1:e'.f=i:=Uo hn (hL e' tz).1 (h.1 _ g2) (by rw[g3];rfl);exact⟨e'.t,⟨e',tz,h2,h3,by rw[e1];exact g2,rfl⟩,rfl⟩
 rintro⟨i,⟨e,h1,h2,h3,h4,rfl⟩,rfl⟩;exact⟨e.pC nm,List.mem_map.2 ⟨e,h1,rfl⟩,h2,h3,(h.2 _).2 ⟨_,h4,rfl⟩,rfl⟩
theorem uN.run(hn:nm.Nodup){L':List En}(hL:∀e∈L',e.f<nm.length/\e.t<nm.length){f:Nat}(hf:f<nm.length)(z:Nat->Nat)(k:Nat):uN nm (da L' f z k) (da (L'.map (En.pC nm)) (nm.getD f 0) z k):=by
 induction k with
 | zero=>exact uN.fr hn hL ⟨fun i h=>by omega,fun x=>⟨fun h=>⟨f,rfl,h.symm⟩,fun ⟨i,h1,h2⟩=>by rw[<-h2,h1]⟩⟩
 | succ k ih=>exact uN.fr hn hL (uN.mv hn hL ih _)
def Sx(f:Nat->Bool)(N:Nat):Nat:=((List.range N).filter f).length
structure ZB (L:List En)(A:Nat->Prop)(N k:Nat)(f:Nat->Bool):Prop where
 lo:∀x,A x->f x=true
 hi:∀x,f x=true->FR L A x
 cn:k<=Sx f N
def zr4(f:Nat->Bool)(e:En):Prop:=¬(e.b=true/\f e.f=true/\f e.t=false)
