import Derived.Test.YtiijebameffenaaGreatZNMath
import Derived.ChangeMaps5
import Derived.ChangeOld
import Derived.ChangeSame
import Derived.Deep.DeepCutAuto
import Derived.Deep.Fields
import Derived.Deep.RegionHeld3
import Derived.Deep.RegionWith
import Derived.Deep.Slices
import Derived.DeepKeys4
import Derived.Laws.AppendOwn
import Derived.Laws.Cover3
import Derived.Lib.OwnKind
import Derived.Lib.Walk
import Derived.LoopTactic
import Derived.Maps.OwnOps
import Derived.Maps.OwnSet
import Derived.OpenShut
import Derived.OwnWalk
import Derived.ProofKit
import Derived.ShutString
import Derived.Test.YtiijebameffenaaGreatRows
set_option linter.all false
set_option maxHeartbeats 4000000
set_option maxRecDepth 100000
open Go.Lib (hid)
namespace Go.Proofs.YtiijebameffenaaGreat
open Go.RowKit Go.Proofs.Tryz
open Or (inl inr)
open Value (ownBlock)
open Nat (add_assoc le_refl)
open List (mem_append mem_singleton range reverse_append reverse_singleton)
variable {B N g g' n n' t t':Nat}{a w w':World}{bs:List Nat}{cs im:Array Value}{e k:TypeId}{ts:List TypeId}{v:Value}{xs:List Value}
theorem dE{base:Nat}{size:Nat}(h:w.ownsRow base e size v n xs)(k:Below w.heap.size w w'):w'.ownsRow base e size v n xs:=by
 obtain⟨h1,h2⟩:=h;refine⟨h1,?_⟩;rcases h2 with h2|⟨g,cap,cur,hv,hg,hh,r⟩
 ·exact inl h2
 refine inr ⟨g,cap,cur,hv,hg,?_,r⟩;rw[k.block g (Array.getElem?_eq_some_iff.1 hh).1];exact hh
theorem cy{base:Nat}{size:Nat}(h:w.ownsRow base e size v n xs):∃a cap,v=.slice a n cap:=by
 rcases h.2 with ⟨h1,h2⟩|⟨g,cap,cur,hv,_⟩
 ·subst h2;exact⟨_,_,h1⟩
 exact⟨_,_,hv⟩
theorem fG{base:Nat}{size:Nat}{a:Option Addr}{cap:Nat}(h:w.ownsRow base e size (.slice a n cap) n xs)(hn:0<n):∃g,a=some ⟨g,0,none⟩/\base<=g/\g<w.heap.size/\∀j,j<n*size->w.cell? ⟨g,j,none⟩=xs[j]?/\w.frozen? ⟨g,j,none⟩=false:=by
 have h0:=h;rcases h.2 with ⟨h1,h2⟩|⟨g,Ka,cur,hv,hg,hh,_⟩
 ·omega
 simp at hv;obtain⟨rfl,rfl⟩:=hv;exact⟨g,rfl,hg,(Array.getElem?_eq_some_iff.1 hh).1,fun j hj=>⟨h0.cellAt j hj,h0.frozenAt j⟩⟩
theorem jH{base B8:Nat}{size:Nat}(h:w.ownsRow B8 e size v n xs)(hb:base<=B8):w.ownsRow base e size v n xs:=by
 obtain⟨h1,h2⟩:=h;refine⟨h1,?_⟩;rcases h2 with h2|⟨g,cap,cur,hv,hg,r⟩
 ·exact inl h2
 exact inr ⟨g,cap,cur,hv,by omega,r⟩
theorem EE(h:w.grownBy w' v.ownBlock){base:Nat}{size:Nat}(ho:w.ownsRow base e size v n xs)(hb:base<=w.heap.size):Below base w w':=by
 refine⟨h.os,h.tape,h.output,h.size,fun k hk=>h.block k (by omega) fun e=>?_⟩;rcases ho.2 with ⟨rfl,_⟩|⟨g,cap,cur,rfl,hg,_⟩
 ·simp[ownBlock] at e
 simp[ownBlock] at e;omega
theorem al(w:World)(o:Obj):Below w.heap.size w (w.alloc o):=(Below.refl _ _).alloc (le_refl _) _
theorem kn:(prog.info? 5).map (fun i=>(i.zero,i.size,i.bytes))=some (some (.int .u8 0),1,1):=by kernel_rfl
def jx(l:List Nat):List Value:=l.map fun n=>.int .u8 ((n:Nat):Int)
theorem zna(l:List Nat)(n:Nat):jx (l++[n])=jx l++[.int .u8 (n:Int)]:=by simp[jx]
theorem zjw(l:List Nat):(jx l).length=l.length:=by simp[jx]
theorem Qv(l:List Nat)(j:Nat)(h:j<l.length):(jx l)[j]?=some (.int .u8 (l.getD j 0)):=by simp[jx,List.getElem?_eq_getElem h]
theorem own:ownKnob prog.godebug=none:=by kernel_rfl
theorem laidOut:laidOutB prog=true:=by kernel_rfl
def dg(p:Nat->Bool)(k:Nat):List Nat:=(range k).filter p
theorem zpF(p:Nat->Bool)(k:Nat)(h:p k=true):dg p (k+1)=dg p k++[k]:=by simp[dg,List.range_succ,List.filter_append,h]
theorem zq1(p:Nat->Bool)(k:Nat)(h:p k=false):dg p (k+1)=dg p k:=by simp[dg,List.range_succ,List.filter_append,h]
theorem Z5(p:Nat->Bool)(k:Nat):(dg p k).length<=k:=by
 have:=List.length_filter_le p (range k);simpa [dg] using this
theorem MP(p:Nat->Bool)(k x:Nat):x∈dg p k↔x<k/\p x=true:=by simp[dg]
structure Pc where
 k:Int
 p:Nat->Bool
def eD(p:Nat->Bool):Bool:=decide ((dg p 256).length=0)
def de(x:Pc):List Value:=.int .i64 x.k :: (#[.int .u64 (wd x.p 0),.int .u64 (wd x.p 1),.int .u64 (wd x.p 2),.int .u64 (wd x.p 3)]).toList
def fe(l:List Pc):List Value:=l.flatMap de
theorem Gp(l:List Pc):(fe l).length=l.length*5:=by
 induction l with
 | nil=>rfl
 | cons x l ih=>simp[fe,de] at ih⊢;omega
theorem Ic(a b:List Pc):fe (a++b)=fe a++fe b:=by simp[fe]
theorem JU(l:List Pc)(i:Nat)(h:i<l.length)(j:Nat)(hj:j<5):(fe l)[i*5+j]?=(de l[i])[j]?:=by
 induction l generalizing i with
 | nil=>simp at h
 | cons x l ih=>
  have hc:(de x).length=5:=by simp[de]
  show (de x++fe l)[i*5+j]?=_
  match i,h with
  | 0,_=>
   rw[Nat.zero_mul,Nat.zero_add,List.getElem?_append_left (by omega)];rfl
  | i+1,h=>
   rw[List.getElem?_append_right (by omega),hc,show (i+1)*5+j-5=i*5+j by omega,ih i (by simpa using h)];rfl
theorem zkO(l:List Pc)(i:Nat)(h:i<l.length):
  (fe l)[i*5]?=some (.int .i64 l[i].k)/\(fe l)[i*5+1]?=some (.int .u64 (wd l[i].p 0))/\(fe l)[i*5+2]?=some (.int .u64 (wd l[i].p 1))/\
  (fe l)[i*5+3]?=some (.int .u64 (wd l[i].p 2))/\(fe l)[i*5+4]?=some (.int .u64 (wd l[i].p 3)):=
 ⟨JU l i h 0 (by omega),JU l i h 1 (by omega),JU l i h 2 (by omega),JU l i h 3 (by omega),JU l i h 4 (by omega)⟩
def aG(k:Int):Int:=if k=0\/k=1 then 0 else if k=2\/k=3 then 2 else if k=4\/k=5\/k=6 then 1 else -1
theorem tO(k:Int):(aG k=0/\(k=0\/k=1))\/(aG k=2/\(k=2\/k=3))\/(aG k=1/\(k=4\/k=5\/k=6))\/(aG k=-1/\(k<0\/6<k)):=by
 unfold aG
 repeat' split
 all_goals omega
def jI(x:Pc):Bool:=eD x.p != (x.k == 1)
def lB(x:Pc)(n:Int):Bool:=decide (0<=aG x.k) && decide (aG x.k<=n) && jI x
def fJ:List Pc->Int->Option Int
 | [],n=>some n
 | x :: r,n=>if lB x n=true then fJ r (n+1-aG x.k) else none
def mc(l:List Pc):Nat:=if 400<l.length then 6 else if fJ l 0=some 1 then 0 else 5
inductive Rx where
 | leaf (x:Pc)
 | un (x:Pc) (a:Rx)
 | bin (x:Pc) (a b:Rx)
def Rx.flat:Rx->List Pc
 | .leaf x=>[x]
 | .un x a=>a.flat++[x]
 | .bin x a b=>a.flat++(b.flat++[x])
def Rx.wf:Rx->Prop
 | .leaf x=>aG x.k=0/\jI x=true
 | .un x a=>aG x.k=1/\jI x=true/\a.wf
 | .bin x a b=>aG x.k=2/\jI x=true/\a.wf/\b.wf
def Rx.top:Rx->Pc
 | .leaf x=>x
 | .un x _=>x
 | .bin x _ _=>x
theorem Rx.aZ(t:Rx):0<t.flat.length:=by cases t <;> simp[Rx.flat] <;> omega
theorem Rx.j7(t:Rx):t.flat[t.flat.length-1]?=some t.top:=by
 cases t <;> simp[Rx.flat,Rx.top]
def jb:List Pc->Int->Nat
 | [],_=>0
 | x :: r,m=>if m+(aG x.k-1)<=0 then r.length else jb r (m+(aG x.k-1))
def dp(l:List Pc)(at_:Nat):Nat:=jb (l.take (at_+1)).reverse 1
theorem Rn(t:Rx)(hw:t.wf)(s:List Pc)(m:Int)(hm:1<=m):jb (t.flat.reverse++s) m=if m=1 then s.length else jb s (m-1):=by
 induction t generalizing s m with
 | leaf x=>
  have e:=hw.1;simp only[Rx.flat,reverse_singleton,List.singleton_append,jb,e];by_cases h:m=1
  ·subst h;simp
  rw[if_neg (by omega),if_neg h];congr 1
 | un x a ih=>
  have e:=hw.1;simp only[Rx.flat,reverse_append,reverse_singleton,List.cons_append,List.nil_append,jb,e];rw[if_neg (by omega),show m+(1-1)=m by omega,ih hw.2.2 s m hm]
 | bin x a b iha ihb=>
  have e:=hw.1;simp only[Rx.flat,reverse_append,reverse_singleton,List.cons_append,List.nil_append,List.append_assoc,jb,e];rw[if_neg (by omega),ihb hw.2.2.2 _ _ (by omega),if_neg (by omega),show m+(2-1)-1=m by omega,iha hw.2.2.1 s m hm]
theorem Qa(u v:List Pc)(t:Rx)(hw:t.wf)(n:Nat)(hn:n+1=u.length+t.flat.length):dp (u++(t.flat++v)) n=u.length:=by
 unfold dp;rw[hn,<-List.append_assoc,List.take_append_of_le_length (by simp),List.take_of_length_le (by simp),reverse_append,Rn t hw _ 1 (by omega)];simp
def iq(w:World)(a:Option Addr)(l:List Pc):Prop:=0<l.length->∃g off,a=some ⟨g,off,none⟩/\g<w.heap.size/\∀j,j<l.length*5->w.cell? ⟨g,off+j,none⟩=(fe l)[j]?
theorem iq.below{a:Option Addr}{l:List Pc}(h:iq w a l)(k:Below w.heap.size w w'):iq w' a l:=by
 intro h0;obtain⟨g,off,rfl,hg,hc⟩:=h h0;have:=k.size;exact⟨g,off,rfl,by omega,fun j hj=>(k.cell (p:=⟨g,off+j,none⟩) hg).trans (hc j hj)⟩
theorem iq.get{a:Option Addr}{l:List Pc}(h:iq w a l)(k:Nat)(hk:k<l.length):
  ∃g off,a=some ⟨g,off,none⟩/\g<w.heap.size/\w.cell? ⟨g,off+k*5,none⟩=some (.int .i64 l[k].k)/\w.cell? ⟨g,off+k*5+1,none⟩=some (.int .u64 (wd l[k].p 0))/\w.cell? ⟨g,off+k*5+2,none⟩=some (.int .u64 (wd l[k].p 1))/\
  w.cell? ⟨g,off+k*5+3,none⟩=some (.int .u64 (wd l[k].p 2))/\w.cell? ⟨g,off+k*5+4,none⟩=some (.int .u64 (wd l[k].p 3)):=by
 obtain⟨g,off,rfl,hg,hc⟩:=h (by omega);obtain⟨c0,c1,c2,c3,c4⟩:=zkO l k hk;refine⟨g,off,rfl,hg,?_,?_,?_,?_,?_⟩
 ·rw[hc _ (by omega),c0]
 ·rw[add_assoc,hc _ (by omega),c1]
 ·rw[add_assoc,hc _ (by omega),c2]
 ·rw[add_assoc,hc _ (by omega),c3]
 rw[add_assoc,hc _ (by omega),c4]
theorem UR(k:Int)(w:World):
  Calls prog 141 #[.int .i64 k] w fun e w'=>e=.returned (.int .i64 (aG k))/\w=w':=by
 rcases tO k with ⟨e,rfl|rfl⟩|⟨e,rfl|rfl⟩|⟨e,rfl|rfl|rfl⟩|⟨e,h⟩
 all_goals
  have E:=hid e
 rotate_right
 ·have e0:(k == 0)=false:=by simp;omega
  have e1:(k == 1)=false:=by simp;omega
  have e2:(k == 2)=false:=by simp;omega
  have e3:(k == 3)=false:=by simp;omega
  have e4:(k == 4)=false:=by simp;omega
  have e5:(k == 5)=false:=by simp;omega
  have e6:(k == 6)=false:=by simp;omega
  clear e h;go_in;go_wp2;go_ret;exact⟨by rw[E.o];rfl,rfl⟩
 all_goals
  clear e
  go_in
  go_wp2
  go_ret
  exact⟨by rw[E.o];rfl,rfl⟩
theorem O7(k:Int)(w:World):
  Calls prog 136 #[.int .i64 k] w fun e w'=>e=.returned (.int .i64 (aG k))/\Below w.heap.size w w':=by
 rcases tO k with ⟨e,rfl|rfl⟩|⟨e,rfl|rfl⟩|⟨e,rfl|rfl|rfl⟩|⟨e,h|h⟩
 all_goals
  have E:=hid e
  clear e
  go_in
  go_wp2
  go_ret
  exact⟨by rw[E.o];rfl,(Below.refl _ _).alloc (le_refl _) _⟩
theorem ZP(l:List Pc)(k:Nat)(hk:k<l.length)(m:Int):jb (l.take (k+1)).reverse m=if m+(aG l[k].k-1)<=0 then k else jb (l.take k).reverse (m+(aG l[k].k-1)):=by
 rw[List.take_succ_eq_append_getElem hk,reverse_append];simp only[reverse_singleton,List.singleton_append,jb];congr 1;simp;omega
theorem zkP(l:List Pc)(a:Option Addr)(n cap:Nat)(w:World)(hL:iq w a l)(hn:l.length=n)(dZ:n<=1000000)(i:Nat)(hi:i<n):
  Calls prog 145 #[.slice a n cap,.int .i64 i] w fun e w'=>e=.returned (.int .i64 (dp l i))/\w=w':=by
 have HN:=hid hn;have HL:=hid hL;obtain⟨R,hR⟩:=Ξ (dp l i)
 rw[hR];have tM:Hid (jb (l.take (i+1)).reverse 1=R):=hR;have hd:decide (n<=i)=false:=by simp;omega
 clear hn hL hR;go_in;go_wp2;go_loopw [1,5] (fun v m wr=>∃(k:Nat) (z:Int),v=.int .i64 ((k:Int)-1)/\k<=i+1/\m=.int .i64 z/\1<=z/\z<=1+(n-k:Int)/\Hid (jb (l.take k).reverse z=R)/\w=wr) (fun v _ _=>(intOf v+1).toNat)
 ·exact⟨i+1,1,by go_num,le_refl _,rfl,by omega,by omega,tM,rfl⟩
 obtain⟨k,z,rfl,hk,rfl,dc,db,HG,rfl⟩:=hrel;rcases k with _|k
 ·have HZ:Hid (R=0):=by show _=_;rw[<-HG.o];simp[jb]
  go_wp2;go_ret;exact⟨by rw[HZ.o];rfl,rfl⟩
 have hkl:k<l.length:=by rw[HN.o];omega
 have uS:k<n:=by omega
 obtain⟨g,off,rfl,hg,c0,c1,c2,c3,c4⟩:=HL.o.get k hkl;have HS:=hid (ZP l k hkl z);generalize l[k]=x at c0 c1 c2 c3 c4 HS;obtain⟨t,ht⟩:=Ξ (aG x.k)
 have UJ:-1<=t/\t<=2:=by have:=tO x.k;omega
 have HT:=hid ht;clear ht hkl c1 c2 c3 c4;have e0:((k+1:Nat):Int)-1=(k:Int):=by omega
 rw[e0];go_wp2_with fail;refine (UR _ _).mono ?_;rintro e w1 ⟨rfl,rfl⟩;rw[HT.o];by_cases h1:z+(t-1)<=0
 ·have HZ:Hid (R=k):=by show _=_;rw[<-HG.o,HS.o,HT.o,if_pos h1]
  go_wp2;go_ret;exact⟨by rw[HZ.o];rfl,rfl⟩
 have HZ:Hid (jb (l.take k).reverse (z+(t-1))=R):=by show _=_;rw[<-HG.o,HS.o,HT.o,if_neg h1]
 go_wp2;go_roundw
 ·exact⟨k,z+(t-1),by go_num,by omega,by go_num,by omega,by omega,HZ,(by first|rfl|trivial)⟩
 simp[intOf]
theorem Rs(l:List Pc)(a:Option Addr)(n cap:Nat)(w:World)(hL:iq w a l)(hn:l.length=n)(dZ:n<=1000000)(hv:∀x∈l,0<=aG x.k)(i:Nat)(hi:i<n):
  Calls prog 137 #[.slice a n cap,.int .i64 i] w fun e w'=>e=.returned (.int .i64 (dp l i))/\Below w.heap.size w w':=by
 have HN:=hid hn;have HL:=hid hL;have HV:=hid hv;obtain⟨R,hR⟩:=Ξ (dp l i)
 rw[hR];have tM:Hid (jb (l.take (i+1)).reverse 1=R):=hR;clear hn hL hR hv;go_in;go_wp2;go_loopw [6,5] (fun v m wr=>∃(k:Nat) (z:Int),v=.int .i64 ((k:Int)-1)/\k<=i+1/\m=.int .i64 z/\1<=z/\z<=1+(n-k:Int)/\Hid (jb (l.take k).reverse z=R)/\Below w.heap.size w wr) (fun v _ _=>(intOf v+1).toNat)
 ·exact⟨i+1,1,by go_num,le_refl _,rfl,by omega,by omega,tM,Below.refl _ _⟩
 obtain⟨k,z,rfl,hk,rfl,dc,db,HG,bg⟩:=hrel;rcases k with _|k
 ·have HZ:Hid (R=0):=by show _=_;rw[<-HG.o];simp[jb]
  go_wp2;go_ret;exact⟨by rw[HZ.o];rfl,bg⟩
 have hkl:k<l.length:=by rw[HN.o];omega
 have uS:k<n:=by omega
 obtain⟨g,off,rfl,hg,c0,c1,c2,c3,c4⟩:=(HL.o.below bg).get k hkl;have HS:=hid (ZP l k hkl z);have ht0:=HV.o l[k] (List.getElem_mem hkl);generalize l[k]=x at c0 c1 c2 c3 c4 HS ht0;obtain⟨t,ht⟩:=Ξ (aG x.k)
 have UJ:0<=t/\t<=2:=by have:=tO x.k;omega
 have HT:=hid ht;clear ht hkl c1 c2 c3 c4 ht0;have e0:((k+1:Nat):Int)-1=(k:Int):=by omega
 rw[e0];go_wp2_with fail;refine (O7 _ _).mono ?_;rintro e w1 ⟨rfl,b1⟩;rw[HT.o];have fT:=bg.trans (b1.mono bg.size);by_cases h1:z-1+t=0
 ·have HZ:Hid (R=k):=by show _=_;rw[<-HG.o,HS.o,HT.o,if_pos (by omega)]
  have e1:(z-1+t == 0)=true:=by simpa using h1
  go_wp2;go_ret;exact⟨by rw[HZ.o];rfl,fT⟩
 have HZ:Hid (jb (l.take k).reverse (z+(t-1))=R):=by show _=_;rw[<-HG.o,HS.o,HT.o,if_neg (by omega)]
 have e1:(z-1+t == 0)=false:=by simpa using h1
 go_wp2;go_roundw
 ·exact⟨k,z+(t-1),by go_num,by omega,by go_num,by omega,by omega,HZ,fT⟩
 simp[intOf]
theorem AW:(prog.info? 110).map (fun i=>(i.zero,i.size,i.bytes))=some (some (.slice none 0 0),1,24):=by kernel_rfl
def PT(vs:List Value)(w:World)(e:Ending)(w':World):Prop:=∃a cap,e=.returned (.slice a vs.length cap)/\w'.ownsRow w.heap.size 110 1 (.slice a vs.length cap) vs.length vs/\Below w.heap.size w w'
theorem zG(w:World)(base:Nat)(e:TypeId)(size:Nat)(cs:Array Value)(n:Nat)(hn:cs.size=n*size)(hb:base<=w.heap.size)(hm:n<=maxLen):(w.alloc (.cells cs e)).ownsRow base e size (.slice (some ⟨w.heap.size,0,none⟩) n n) n cs.toList:=
 ⟨by simpa using hn,inr ⟨w.heap.size,n,cs,rfl,hb,St.new w e cs,le_refl _,hm,hn,by rw[<-hn];exact List.take_of_length_le (by simp)⟩⟩
theorem NZ(t:Rx)(hw:t.wf):∀x∈t.flat,0<=aG x.k:=by
 induction t with
 | leaf x=>intro y hy;simp[Rx.flat] at hy;subst hy;rw[hw.1];omega
 | un x a ih=>
  intro y hy;simp[Rx.flat] at hy;rcases hy with hy|rfl
  ·exact ih hw.2.2 y hy
  rw[hw.1];omega
 | bin x a b iha ihb=>
  intro y hy;simp[Rx.flat] at hy;rcases hy with hy|hy|rfl
  ·exact iha hw.2.2.1 y hy
  ·exact ihb hw.2.2.2 y hy
  rw[hw.1];omega
theorem zhk(x:Pc)(hx:aG x.k=0)(g off n cap:Nat)(w:World)(hL:iq w (some ⟨g,off,none⟩) [x])(hn:n=1):
  Calls prog 107 #[.slice (some ⟨g,off,none⟩) n cap] w (PT [] w):=by
 obtain⟨g',lF,e,hg,c0,-⟩:=hL.get 0 (by simp);simp at e;obtain⟨rfl,rfl⟩:=e;simp at c0;have HT:=hid hx;subst hn;clear hL hx;go_in;go_wp2_with fail;refine (O7 _ _).mono ?_;rintro e w1 ⟨rfl,b1⟩;rw[HT.o];go_wp2;go_loopw [4,5,6] (fun o e k wr=>o=.slice none 0 0/\e=.int .i64 0/\k=.int .i64 0/\wr=w1) (fun _ _ _ _=>0)
 ·exact⟨rfl,rfl,rfl,rfl⟩
 obtain⟨rfl,rfl,rfl,rfl⟩:=hrel;go_wp2;go_ret;exact⟨none,0,rfl,World.ownsRow_nil _ _ _ _,b1⟩
theorem zkQ(x:Pc)(s:Rx)(hs:s.wf)(hx:aG x.k=1)(g off n cap:Nat)(w:World)(hL:iq w (some ⟨g,off,none⟩) (s.flat++[x]))(m:Nat)(hm:s.flat.length=m)(hn:n=m+1)(dZ:n<=1000000)(dq:n<=cap/\cap<=maxLen):
  Calls prog 107 #[.slice (some ⟨g,off,none⟩) n cap] w (PT [.slice (some ⟨g,off,none⟩) m cap] w):=by
 have hlen:(s.flat++[x]).length=n:=by simp;omega
 obtain⟨g',lF,e,hg,c0,-⟩:=hL.get m (by simp;omega);simp at e;obtain⟨rfl,rfl⟩:=e;have ex:(s.flat++[x])[m]'(by simp;omega)=x:=by rw[List.getElem_append_right (by omega)];simp[hm]
 rw[ex] at c0;have jD:1<=m:=by have:=s.aZ;omega
 have cU:dp (s.flat++[x]) (m-1)=0:=by
  have:=Qa [] [x] s hs (m-1) (by simp;omega);simpa using this
 have hv:∀y∈s.flat++[x],0<=aG y.k:=by
  intro y hy;rcases List.mem_append.1 hy with hy|hy
  ·exact NZ s hs y hy
  simp at hy;subst hy;rw[hx];omega
 have HV:=hid hv;have AJ:=hid cU;have BX:=hid hlen;have HT:=hid hx;have HL:=hid hL;have en:(n:Int)-1=(m:Int):=by omega
 obtain⟨q,hq⟩:=Ξ (m-1)
 rw[hq] at AJ;have em:(m:Int)-1=(q:Int):=by omega
 have GO:q<n:=by omega
 have ly:m<n:=by omega
 unfold maxLen at dq;obtain⟨ie,gj⟩:=dq;have hmc:m<=cap:=by omega
 clear hL hx hv cU hlen ex hs hm hn hq;go_in;go_wp2_with fail;refine (O7 _ _).mono ?_;rintro e w1 ⟨rfl,b1⟩;rw[HT.o];have Er:=hid (HL.o.below b1);go_wp2;go_loopw [4,5,6] (fun o e k wr=>(o=.slice none 0 0/\e=.int .i64 m/\k=.int .i64 1/\wr=w1)\/(∃a c,o=.slice a 1 c/\e=.int .i64 0/\k=.int .i64 0/\Hid (wr.ownsRow w.heap.size 110 1 (.slice a 1 c) 1 [.slice (some ⟨g,off,none⟩) m cap])/\Below w.heap.size w wr)) (fun _ _ k _=>(intOf k).toNat)
 ·exact inl ⟨rfl,rfl,rfl,rfl⟩
 rcases hrel with ⟨rfl,rfl,rfl,rfl⟩|⟨a,c,rfl,rfl,rfl,HO,bg⟩
 ·go_wp2_with fail;refine (Rs _ _ n cap _ Er.o BX.o (by omega) HV.o q GO).mono ?_;rintro e w2 ⟨rfl,b2⟩;rw[AJ.o];go_wp2_with fail;have cH:=b1.trans (b2.mono b1.size);have hO:=zG w2 w.heap.size 110 1 #[.slice (some ⟨g,off,none⟩) m cap] 1 rfl cH.size (by unfold maxLen;omega);have HO:Hid _:=hO;go_roundw
  ·exact inr ⟨_,_,rfl,rfl,rfl,HO,cH.alloc cH.size _⟩
  simp[intOf]
 go_wp2;go_ret;exact⟨a,c,rfl,HO.o,bg⟩
theorem zjx(x:Pc)(s t:Rx)(hs:s.wf)(ht:t.wf)(hx:aG x.k=2)(g off n cap:Nat)(w:World)(hL:iq w (some ⟨g,off,none⟩) (s.flat++(t.flat++[x])))(ms mt:Nat)(nK:s.flat.length=ms)(hmt:t.flat.length=mt)(hn:n=ms+mt+1)(dZ:n<=1000000)(dq:n<=cap/\cap<=maxLen):
  Calls prog 107 #[.slice (some ⟨g,off,none⟩) n cap] w (PT [.slice (some ⟨g,off,none⟩) ms cap,.slice (some ⟨g,off+ms*5,none⟩) mt (cap-ms)] w):=by
 obtain⟨i0,hi,dP,dc,db⟩:=info_parts AW;have hlen:(s.flat++(t.flat++[x])).length=n:=by simp;omega
 obtain⟨m,hm⟩:=Ξ (ms+mt)
 obtain⟨g',lF,e,hg,c0,-⟩:=hL.get m (by simp;omega);simp at e;obtain⟨rfl,rfl⟩:=e;have ex:(s.flat++(t.flat++[x]))[m]'(by simp;omega)=x:=by
  rw[List.getElem_append_right (by omega),List.getElem_append_right (by omega)];simp
 rw[ex] at c0;have my:1<=ms:=by have:=s.aZ;omega
 have UJ:1<=mt:=by have:=t.aZ;omega
 have cU:dp (s.flat++(t.flat++[x])) (m-1)=ms:=by
  rw[Qa s.flat [x] t ht (m-1) (by omega),nK]
 have nG:dp (s.flat++(t.flat++[x])) (ms-1)=0:=by
  have:=Qa [] (t.flat++[x]) s hs (ms-1) (by simp;omega);simpa using this
 have hv:∀y∈s.flat++(t.flat++[x]),0<=aG y.k:=by
  intro y hy;simp only[mem_append,mem_singleton] at hy;rcases hy with hy|hy|rfl
  ·exact NZ s hs y hy
  ·exact NZ t ht y hy
  rw[hx];omega
 have HV:=hid hv;have AJ:=hid cU;have JB:=hid nG;have BX:=hid hlen;have HT:=hid hx;have HL:=hid hL;have VP:Hid (m-ms=mt):=by show _=_;omega
 have en:(n:Int)-1=(m:Int):=by omega
 obtain⟨q,hq⟩:=Ξ (m-1)
 rw[hq] at AJ;have em:(m:Int)-1=(q:Int):=by omega
 obtain⟨q2,hq2⟩:∃q,ms-1=q:=⟨_,rfl⟩
 rw[hq2] at JB;have em2:(ms:Int)-1=(q2:Int):=by omega
 have GO:q<n:=by omega
 have Pq:q2<n:=by omega
 have ly:m<n:=by omega
 have hmsm:ms<=m:=by omega
 unfold maxLen at dq;obtain⟨ie,gj⟩:=dq;have hmc:m<=cap:=by omega
 have hmsc:ms<=cap:=by omega
 clear hL hx hv cU nG hlen ex hs ht hm hn hq hq2 nK hmt;go_in;go_wp2_with fail;refine (O7 _ _).mono ?_;rintro e w1 ⟨rfl,b1⟩;rw[HT.o];have Er:=hid (HL.o.below b1);go_wp2;go_loopw [4,5,6] (fun o e k wr=>(o=.slice none 0 0/\e=.int .i64 m/\k=.int .i64 2/\wr=w1)\/(∃a c,o=.slice a 1 c/\e=.int .i64 ms/\k=.int .i64 1/\Hid (wr.ownsRow w.heap.size 110 1 (.slice a 1 c) 1 [.slice (some ⟨g,off+ms*5,none⟩) mt (cap-ms)])/\Below w.heap.size w wr)\/(∃a c,o=.slice a 2 c/\e=.int .i64 0/\k=.int .i64 0/\Hid (wr.ownsRow w.heap.size 110 1 (.slice a 2 c) 2 [.slice (some ⟨g,off,none⟩) ms cap,.slice (some ⟨g,off+ms*5,none⟩) mt (cap-ms)])/\Below w.heap.size w wr)) (fun _ _ k _=>(intOf k).toNat)
 ·exact inl ⟨rfl,rfl,rfl,rfl⟩
 rcases hrel with ⟨rfl,rfl,rfl,rfl⟩|⟨a,c,rfl,rfl,rfl,HO,bg⟩|⟨a,c,rfl,rfl,rfl,HO,bg⟩
 ·go_wp2_with fail;refine (Rs _ _ n cap _ Er.o BX.o (by omega) HV.o q GO).mono ?_;rintro e w2 ⟨rfl,b2⟩;rw[AJ.o];go_wp2_with fail;have cH:=b1.trans (b2.mono b1.size);have hO:=zG w2 w.heap.size 110 1 #[.slice (some ⟨g,off+ms*5,none⟩) mt (cap-ms)] 1 rfl cH.size (by unfold maxLen;omega);have HO:Hid _:=hO
  first|rw[VP.o]|skip
  go_roundw
  ·exact inr (inl ⟨_,_,rfl,rfl,rfl,(by first|exact HO|(rw[VP.o];exact HO)),cH.alloc cH.size _⟩)
  simp[intOf]
 ·have s9:=hid (HL.o.below bg);go_wp2_with fail;refine (Rs _ _ n cap _ s9.o BX.o (by omega) HV.o q2 Pq).mono ?_;rintro e w2 ⟨rfl,b2⟩;rw[JB.o];have cH:=bg.trans (b2.mono bg.size);have lz:=hid (dE HO.o b2);obtain⟨gb,rfl,hgb1,Ri,Lw⟩:=fG lz.o (by omega);have hO:=zG w2 w.heap.size 110 1 #[.slice (some ⟨g,off,none⟩) ms cap] 1 rfl cH.size (by unfold maxLen;omega);have dy:(w2.alloc (.cells #[.slice (some ⟨g,off,none⟩) ms cap] 110)).cell? ⟨gb,0,none⟩=some (.slice (some ⟨g,off+ms*5,none⟩) mt (cap-ms)):=by
   have h1:=(Lw 0 (by omega)).1;have:Below w2.heap.size w2 (w2.alloc (.cells #[.slice (some ⟨g,off,none⟩) ms cap] 110)):=(Below.refl _ _).alloc (le_refl _) _;rw[this.cell (p:=⟨gb,0,none⟩) Ri,h1];rfl
  have ow:=cH.size;go_wp2_with (at_builtin;refine wpList_append_own _ rfl _ _ 149 rfl w.heap.size 110 i0 (.slice none 0 0) 1 24 underlying149 hi dP dc db rfl (by decide) _ _ _ rfl hO ⟨gb,0,none⟩ 1 c [.slice (some ⟨g,off+ms*5,none⟩) mt (cap-ms)] rfl rfl ?c1 ?c2 ?c3 ?c4 ?c5 ?_)
  case c1=>
   intro j u hj
   match j,hj with
   | 0,hj=>simp at hj;subst hj;simpa [Addr.add] using dy
  case c2=>intro u hu;simp at hu;subst hu;rfl
  case c3=>unfold maxLen;omega
  case c4=>omega
  case c5=>simp;omega
  intro v' w5 ak aj _;have eB:Below w.heap.size w2 w5:=((Below.refl _ w2).alloc ow _).trans (EE aj hO (by simp;omega));obtain⟨a5,TF,rfl⟩:=cy ak;have nL:=cH.trans eB;have vb:=hid ak;clear ak aj eB dy hO Lw;go_wp2;go_roundw
  ·exact inr (inr ⟨a5,TF,rfl,rfl,rfl,vb,nL⟩)
  simp[intOf]
 go_wp2;go_ret;exact⟨a,c,rfl,HO.o,bg⟩
def Rx.kids:Rx->List (List Pc)
 | .leaf _=>[]
 | .un _ a=>[a.flat]
 | .bin _ a b=>[a.flat,b.flat]
open Go.Maps Go.WideElems Go.ChangeMaps Go.MapKept
def Kept(ts:List TypeId)(bs:List Nat)(w w':World):Prop:=
 ∀k o,w.heap[k]?=some o->(∀c e fz,o=.cells c e fz->e∉ts)->k∉bs->w'.heap[k]?=some o
theorem Kept.refl(ts:List TypeId)(bs:List Nat)(w:World):Kept ts bs w w:=fun _ _ h _ _=>h
theorem Kept.trans{b c:World}(h:Kept ts bs a b)(k:Kept ts bs b c):Kept ts bs a c:=
 fun i o hi ho hb=>k i o (h i o hi ho hb) ho hb
theorem Kept.mono{Zc:List TypeId}{bs':List Nat}{b:World}(h:Kept ts bs a b)(ht:∀t∈ts,t∈Zc)(hb:∀t∈bs,t∈bs'):Kept Zc bs' a b:=
 fun i o hi ho hn=>h i o hi (fun c e fz e0 hm=>ho c e fz e0 (ht e hm)) (fun hm=>hn (hb i hm))
theorem Kept.drew(h:Kept ts bs a w):Kept ts bs a w.drew:=h
theorem Kept.below(h:Kept ts bs a w)(k:Below w.heap.size w w'):Kept ts bs a w':=by
 intro i x hi hx hb;have h1:=h i x hi hx hb;exact (k.block i (Array.getElem?_eq_some_iff.1 h1).1).trans h1
theorem Kept.setCell(h:Kept ts bs a w)(p:Addr)(v:Value)(hp:p.block∈bs\/a.heap.size<=p.block\/∃c e fz,w.heap[p.block]?=some (.cells c e fz)/\e∈ts):Kept ts bs a (w.setCell p v):=by
 intro k x hk hx hb;have h1:=h k x hk hx hb;rw[Below.heap_setCell _ _ _ _ (fun e=>?_)]
 ·exact h1
 rcases hp with hp|hp|⟨c,e',fz,hc,he⟩
 ·exact hb (by rw[e];exact hp)
 ·have:=(Array.getElem?_eq_some_iff.1 hk).1;omega
 rw[<-e,h1] at hc;exact hx c e' fz (Option.some.inj hc) he
theorem Kept.grown{row:Option Nat}(h:Kept ts bs a w)(hg:w.grownBy w' row)
  (dC:∀g,row=some g->g∈bs\/a.heap.size<=g\/∃c e fz,w.heap[g]?=some (.cells c e fz)/\e∈ts):Kept ts bs a w':=by
 intro k x hk hx hb;have h1:=h k x hk hx hb;have aq:k<w.heap.size:=(Array.getElem?_eq_some_iff.1 h1).1;rw[hg.block k aq ?_]
 ·exact h1
 intro fS;rcases dC k fS.symm with hm|hm|⟨c,e',fz,hc,he⟩
 ·exact hb hm
 ·have:=(Array.getElem?_eq_some_iff.1 hk).1;omega
 rw[h1] at hc;exact hx c e' fz (Option.some.inj hc) he
theorem St.kept(h:St w t g cs)(k:Kept ts bs w w')(ht:t∉ts)(hg:g∉bs):St w' t g cs:=
 k g _ h (fun c e fz e0=>by injection e0 with _ e1;subst e1;exact ht) hg
theorem qX{size:Nat}(h:w.ownsRow B e size v n xs):∀g,v.ownBlock=some g->∃c fz,w.heap[g]?=some (.cells c e fz):=by
 intro g hg;rcases h.2 with ⟨rfl,_⟩|⟨g',cap,cur,rfl,_,BS,_⟩
 ·simp[ownBlock] at hg
 simp[ownBlock] at hg;subst hg;exact⟨cur,_,BS⟩
theorem gk{t:TypeId}{size:Nat}(h:w.ownsRow B t size v n xs)(k:Kept ts bs w w')(ht:t∉ts)(hg:∀g,v.ownBlock=some g->g∉bs):w'.ownsRow B t size v n xs:=by
 refine⟨h.1,?_⟩;rcases h.2 with h0|⟨g,cap,cur,rfl,hB,BS,r⟩
 ·exact inl h0
 exact inr ⟨g,cap,cur,rfl,hB,k g _ BS (fun c e fz e0=>by injection e0 with _ e1;subst e1;exact ht) (hg g (by simp[ownBlock])),r⟩
theorem St.ne(h:St w t g cs)(h':St w t' g' im)(ht:t≠t'):g≠g':=by
 intro e;subst e;have h1:w.heap[g]?=_:=h;have h2:w.heap[g]?=_:=h';rw[h1] at h2;injection h2 with h2;injection h2 with _ h2;exact ht h2
theorem eI{size:Nat}(h:w.ownsRow B t size v n xs)(h':St w t' g' im)(ht:t≠t'):∀g,v.ownBlock=some g->g≠g':=by
 intro g hg e;subst e;obtain⟨c,fz,hc⟩:=qX h g hg;have h2:w.heap[g]?=_:=h';rw[hc] at h2;injection h2 with h2;injection h2 with _ h2;exact ht h2
theorem kz{size:Nat}(h:w.ownsRow B t size v n xs)(h':St w t' g' im)(ht:t≠t')(i:Nat)(u:Value):(w.setCell ⟨g',i,none⟩ u).ownsRow B t size v n xs:=
 gk (ts:=[]) (bs:=[g']) h ((Kept.refl _ _ _).setCell _ _ (inl (by simp))) (by simp) (fun g hg=>by
  have:=eI h h' ht g hg
  simpa using this)
theorem St.gv(h:St w t g cs)(h':St w t' g' im)(ht:t≠t')(i:Nat)(u:Value):St (w.setCell ⟨g',i,none⟩ u) t g cs:=
 h.gJ (p:=⟨g',i,none⟩) (h.ne h' ht) u
def fY:Value->Option (DataW Value × List MemPlace):=fun v=>some (.held v,[])
def r9(w:World)(k:TypeId)(b n:Nat)(Q:Value->Value->Prop):Prop:=
 ∃es clock,w.heap[b]?=some (.map es clock)/\Fit prog k fY es clock/\es.size<=n/\∀e∈es.toList,Q e.key e.val
theorem r9.lt{b:Nat}{Q:Value->Value->Prop}(h:r9 w k b n Q):b<w.heap.size:=by
 obtain⟨es,clock,hb,_⟩:=h;exact (Array.getElem?_eq_some_iff.1 hb).1
theorem St.grown{row:Option Nat}(h:St w t g cs)(hg:w.grownBy w' row)(hn:some g≠row):St w' t g cs:=(hg.block g h.lt hn).trans h
theorem St.af{size:Nat}(h:St w t g cs)(ho:w.ownsRow B t' size v n xs)(ht:t'≠t)(hg:w.grownBy w' v.ownBlock):St w' t g cs:=
 h.grown hg (fun e=>eI ho h ht g e.symm rfl)
theorem rS{size:Nat}{row:Option Nat}(h:w.ownsRow B t size v n xs)(hg:w.grownBy w' row)(hn:∀g,v.ownBlock=some g->some g≠row):w'.ownsRow B t size v n xs:=by
 refine⟨h.1,?_⟩;rcases h.2 with h0|⟨g,cap,cur,rfl,hB,BS,r⟩
 ·exact inl h0
 exact inr ⟨g,cap,cur,rfl,hB,(hg.block g (Array.getElem?_eq_some_iff.1 BS).1 (hn g (by simp[ownBlock]))).trans BS,r⟩
theorem wE{size B' J1:Nat}{v':Value}{wN:List Value}(h:w.ownsRow B t size v n xs)(ho:w.ownsRow B' t' J1 v' n' wN)(ht:t'≠t)(hg:w.grownBy w' v'.ownBlock):w'.ownsRow B t size v n xs:=
 rS h hg (fun g e1 e2=>by
  obtain⟨c,fz,hc⟩:=qX h g e1
  obtain⟨c',XB,nH⟩:=qX ho g e2.symm
  rw[hc] at nH
  injection nH with nH
  injection nH with _ nH
  exact ht nH.symm)
theorem AD{size k b:Nat}{Q:Value->Value->Prop}(h:w.ownsRow B t size v n xs)(hm:r9 w k b N Q)(hg:w.grownBy w' (some b)):w'.ownsRow B t size v n xs:=
 rS h hg (fun g e1 e2=>by
  obtain⟨c,fz,hc⟩:=qX h g e1
  obtain⟨es,clock,hb,_⟩:=hm
  injection e2 with e2
  subst e2
  rw[hc] at hb
  cases hb)
theorem St.ey{k b:Nat}{Q:Value->Value->Prop}(h:St w t g cs)(hm:r9 w k b N Q)(hg:w.grownBy w' (some b)):St w' t g cs:=
 h.grown hg (fun e2=>by
  obtain⟨es,clock,hb,_⟩:=hm
  injection e2 with e2
  subst e2
  have h1:w.heap[g]?=_:=h
  rw[h1] at hb
  cases hb)
theorem ln{size:Nat}(ho:w.ownsRow B t size v n xs):∀g,v.ownBlock=some g->B<=g:=by
 intro g hg;rcases ho.2 with ⟨rfl,_⟩|⟨g',cap,cur,rfl,hB,_⟩
 ·simp[ownBlock] at hg
 simp[ownBlock] at hg;omega
theorem gu{size:Nat}(h:Below B a w)(ho:w.ownsRow B t size v n xs)(hB:B<=w.heap.size)(hg:w.grownBy w' v.ownBlock):Below B a w':=
 h.grown hg hB (ln ho)
def aJ(w:World)(k:TypeId)(b n:Nat)(Q:Value->Value->Prop):Prop:=
 ∃es clock,w.heap[b]?=some (.map es clock)/\Fit prog k fY es clock/\es.size<=n/\(∀e∈es.toList,Q e.key e.val)/\∀x y,Q x y->∃e∈es.toList,e.key=x
theorem aJ.of{b:Nat}{Q:Value->Value->Prop}(h:aJ w k b n Q):r9 w k b n Q:=by
 obtain⟨es,clock,h1,h2,h3,h4,_⟩:=h;exact⟨es,clock,h1,h2,h3,h4⟩
theorem aJ.made(w:World)(k:TypeId)(Q:Value->Value->Prop)(h0:∀x y,¬Q x y):aJ (w.alloc (.map #[] 0)) k w.heap.size 0 Q:=
 ⟨#[],0,(MapKept.heap_alloc w _).1,⟨by simp,stamped_empty 0,by simp⟩,le_refl _,by simp,fun x y h=>absurd h (h0 x y)⟩
theorem aJ.lt{b:Nat}{Q:Value->Value->Prop}(h:aJ w k b n Q):b<w.heap.size:=h.of.lt
theorem aJ.same{b:Nat}{Q:Value->Value->Prop}(h:aJ w k b n Q)(e:w'.heap[b]?=w.heap[b]?):aJ w' k b n Q:=by
 obtain⟨es,clock,hb,r⟩:=h;exact⟨es,clock,e.trans hb,r⟩
theorem aJ.kept{b:Nat}{Q:Value->Value->Prop}(h:aJ w k b n Q)(hk:Kept ts bs w w')(hb:b∉bs):aJ w' k b n Q:=by
 obtain⟨es,clock,px,r⟩:=h;exact⟨es,clock,hk b _ px (fun c e fz e0=>by cases e0) hb,r⟩
theorem aJ.more{b:Nat}{Q:Value->Value->Prop}(h:aJ w k b n Q)(hn:n<=n'):aJ w k b n' Q:=by
 obtain⟨es,clock,hb,F,hs,r⟩:=h;exact⟨es,clock,hb,F,Nat.le_trans hs hn,r⟩
theorem aJ.set{b i:Nat}{u:Value}{Q:Value->Value->Prop}(h:aJ w k b n Q)(h':St w t g cs):aJ (w.setCell ⟨g,i,none⟩ u) k b n Q:=by
 refine h.same (Below.heap_setCell _ _ _ _ ?_);intro e;obtain⟨es,clock,hb,_⟩:=h;have h2:w.heap[g]?=_:=h';rw[show b=g from e,h2] at hb;cases hb
theorem aJ.update{t:TypeId}{b:Nat}{Q Q':Value->Value->Prop}(h:aJ w k b n Q)(K:Keyed prog k)(ht:prog.underlying t=some (.map k e))(hn:n<maxLen)
  {key val:Value}{kl:Lit}(fw:keyOf prog k key=some kl) (kQ:∀y,¬Q key y) (hQ:∀x y,Q x y->Q' x y) (hv:Q' key val) (oj:∀x y,Q' x y->x≠key->∃y',Q x y'):
  ∃w',(Instr.mapUpdate t (.map (some b)) key val).run prog w=.ok () w'/\aJ w' k b (n+1) Q'/\w.grownBy w' (some b):=by
 obtain⟨es,clock,hb,F,hs,hq,eO⟩:=h;have jv:∀x∈es.toList,x.key≠key:=fun x hx e0=>kQ x.val (by rw[<-e0];exact hq x hx)
 obtain⟨F1,_,_⟩:=F.stay (R':=fY) (fun x hx z hz=>hz);have pS:WideElems.rd prog k fY ⟨key,val,clock⟩=some (kl,.held val):=by unfold WideElems.rd fY;rw[fw];rfl
 rcases K.find w fw es.toList F.keys with ⟨h1,h2⟩|⟨j,e0,h1,h2,h3⟩
 ·refine⟨setBlock w b (.map (es.push ⟨key,val,clock⟩) (clock+1)),?_,⟨es.push ⟨key,val,clock⟩,clock+1,heap_setBlock_same hb _,⟨by simp;omega,stamped_push F.stamped h2,?_⟩,by simp;omega,fun x hx=>?_,fun x y hx=>?_⟩,⟨rfl,rfl,rfl,by simp[setBlock],fun i _ hi=>heap_setBlock_other hb _ (fun e=>hi (by rw[e]))⟩⟩
  ·simp[Instr.mapUpdate,run_underlying ht,MapKept.run_getObj_map hb,K.check w false fw,h1,MapKept.run_setObj_map _ hb,Result.andThen,setBlock]
  ·intro x hx;simp only[Array.toList_push,mem_append,mem_singleton] at hx;rcases hx with hx|rfl
   ·exact F1.reads x hx
   exact⟨_,pS⟩
  ·simp only[Array.toList_push,mem_append,mem_singleton] at hx;rcases hx with hx|rfl
   ·exact hQ _ _ (hq x hx)
   exact hv
  by_cases e0:x=key
  ·exact⟨⟨key,val,clock⟩,by rw[Array.toList_push];exact List.mem_append_right _ (List.mem_singleton.2 rfl),e0.symm⟩
  obtain⟨y',hy⟩:=oj x y hx e0;obtain⟨e1,h4,h5⟩:=eO x y' hy;exact⟨e1,by rw[Array.toList_push];exact List.mem_append_left _ h4,h5⟩
 exact absurd h3 (jv e0 (List.mem_of_getElem? h2))
theorem aJ.af{size k b:Nat}{Q:Value->Value->Prop}(h:aJ w k b N Q)(ho:w.ownsRow B t' size v n xs)(hg:w.grownBy w' v.ownBlock):aJ w' k b N Q:=by
 refine h.same (hg.block b h.lt (fun e=>?_));obtain⟨c,fz,hc⟩:=qX ho b e.symm;obtain⟨es,clock,hb,_⟩:=h;rw[hc] at hb;cases hb
theorem zdA(w:World){ops:Array Oper}{rest:List Oper}{o:Oper}{a:Act}{Q:Exit->Act->World->Prop}
  (hg:o.guard=none) (m x v:Operand) (t:TypeId) (kv:o.op=Op.mapUpdate t m x v)
  (k e:TypeId) (K:Keyed prog k) (ht:prog.underlying t=some (.map k e)) (b n:Nat) (Q0 Q1:Value->Value->Prop)
  (hm:a.eval m=.map (some b)) (az:aJ w k b n Q0) (hn:n<maxLen) (key val:Value) (kl:Lit) (hx:a.eval x=key) (hv:a.eval v=val) (fw:keyOf prog k key=some kl)
  (kQ:∀y,¬Q0 key y) (hQ:∀x y,Q0 x y->Q1 x y) (BB:Q1 key val) (oj:∀x y,Q1 x y->x≠key->∃y',Q0 x y')
  (hK:∀w',aJ w' k b (n+1) Q1->w.grownBy w' (some b)->wpList prog ops Q rest (a.put o.dst undef) w'):
  wpList prog ops Q (o :: rest) a w:=by
 refine wpList_plain hg fun K' hK'=>?_
 obtain⟨w',cZ,r1,r2⟩:=az.update K ht hn fw kQ hQ BB oj;unfold Oper.wp;simp[execOp,kv,hm,hx,hv,cZ,Result.andThen];exact hK' _ _ (hK w' r1 r2)
theorem JD{n:Int}(h:-9223372036854775808<=n/\n<=9223372036854775807):(Lit.int .i64 n).wf=true:=by
 simp[Lit.wf,IntKind.min,IntKind.max,IntKind.bits,IntKind.signed];omega
theorem OU(n:Nat)(h:n<18446744073709551616):(Lit.int .u64 (n:Int)).wf=true:=by
 simp[Lit.wf,IntKind.min,IntKind.max,IntKind.bits,IntKind.signed];omega
