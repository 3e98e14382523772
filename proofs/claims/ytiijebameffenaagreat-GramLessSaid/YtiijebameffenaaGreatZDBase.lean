import Derived.Test.YtiijebameffenaaGreatZNMath
import Derived.ChangeMaps5
import Derived.ChangeOld
import Derived.ChangeSame
import Derived.Deep.DeepCutAuto
import Derived.Deep.Fields
import Derived.Deep.RegionHeld3
import Derived.Deep.RegionWith
import Derived.Deep.Slices
import Derived.DeepKeys4
import Derived.Laws.AppendOwn
import Derived.Laws.Cover3
import Derived.Lib.OwnKind
import Derived.Lib.Walk
import Derived.LoopTactic
import Derived.Maps.OwnOps
import Derived.Maps.OwnSet
import Derived.OpenShut
import Derived.OwnWalk
import Derived.ProofKit
import Derived.ShutString
import Derived.Test.YtiijebameffenaaGreatRows
set_option linter.all false
set_option maxHeartbeats 4000000
set_option maxRecDepth 100000
open Go.Lib (hid)
namespace Go.Proofs.YtiijebameffenaaGreat
open Go.RowKit Go.Proofs.Tryz
open Or (inl inr)
open Value (ownBlock)
open Nat (add_assoc le_refl)
variable {B N g g' n n' t t':Nat}{a w':World}{bs:List Nat}{e k:TypeId}{gd:Array Value}{ts:List TypeId}{v:Value}{xs:List Value}
theorem dp{w:World}{base:Nat}{size:Nat}(h:w.ownsRow base e size v n xs)(k:Below w.heap.size w w'):w'.ownsRow base e size v n xs:=by
 obtain⟨h1,h2⟩:=h;refine⟨h1,?_⟩;rcases h2 with h2|⟨g,cap,cur,hv,hg,hh,r⟩
 ·exact inl h2
 refine inr ⟨g,cap,cur,hv,hg,?_,r⟩;rw[k.block g (Array.getElem?_eq_some_iff.1 hh).1];exact hh
theorem bF{w:World}{base:Nat}{size:Nat}(h:w.ownsRow base e size v n xs):∃a cap,v=.slice a n cap:=by
 rcases h.2 with ⟨h1,h2⟩|⟨g,cap,cur,hv,_⟩
 ·subst h2;exact⟨_,_,h1⟩
 exact⟨_,_,hv⟩
theorem eR{w:World}{base:Nat}{size:Nat}{a:Option Addr}{cap:Nat}(h:w.ownsRow base e size (.slice a n cap) n xs)(hn:0<n):∃g,a=some ⟨g,0,none⟩/\base<=g/\g<w.heap.size/\∀j,j<n*size->w.cell? ⟨g,j,none⟩=xs[j]?/\w.frozen? ⟨g,j,none⟩=false:=by
 have h0:=h;rcases h.2 with ⟨h1,h2⟩|⟨g,PV,cur,hv,hg,hh,_⟩
 ·omega
 simp at hv;obtain⟨rfl,rfl⟩:=hv;exact⟨g,rfl,hg,(Array.getElem?_eq_some_iff.1 hh).1,fun j hj=>⟨h0.cellAt j hj,h0.frozenAt j⟩⟩
theorem jF{w:World}{base A5:Nat}{size:Nat}(h:w.ownsRow A5 e size v n xs)(hb:base<=A5):w.ownsRow base e size v n xs:=by
 obtain⟨h1,h2⟩:=h;refine⟨h1,?_⟩;rcases h2 with h2|⟨g,cap,cur,hv,hg,r⟩
 ·exact inl h2
 exact inr ⟨g,cap,cur,hv,by omega,r⟩
theorem Bz{w:World}(h:w.grownBy w' v.ownBlock){base:Nat}{size:Nat}(ho:w.ownsRow base e size v n xs)(hb:base<=w.heap.size):Below base w w':=by
 refine⟨h.os,h.tape,h.output,h.size,fun k hk=>h.block k (by omega) fun e=>?_⟩;rcases ho.2 with ⟨rfl,_⟩|⟨g,cap,cur,rfl,hg,_⟩
 ·simp[ownBlock] at e
 simp[ownBlock] at e;omega
theorem al(w:World)(o:Obj):Below w.heap.size w (w.alloc o):=(Below.refl _ _).alloc (le_refl _) _
theorem jB:(prog.info? 5).map (fun i=>(i.zero,i.size,i.bytes))=some (some (.int .u8 0),1,1):=by kernel_rfl
def ix(l:List Nat):List Value:=l.map fun n=>.int .u8 ((n:Nat):Int)
theorem zld(l:List Nat)(n:Nat):ix (l++[n])=ix l++[.int .u8 (n:Int)]:=by simp[ix]
theorem zhX(l:List Nat):(ix l).length=l.length:=by simp[ix]
theorem Oy(l:List Nat)(j:Nat)(h:j<l.length):(ix l)[j]?=some (.int .u8 ((l.getD j 0:Nat):Int)):=by simp[ix,List.getElem?_eq_getElem h]
open Go.ChangeShapes Go.WideShapes Go.ChangeAt Go.Deep
theorem own:ownKnob prog.godebug=none:=by kernel_rfl
theorem laidOut:laidOutB prog=true:=by kernel_rfl
def cm(p:Nat->Bool)(k:Nat):List Nat:=(List.range k).filter p
theorem Zn(p:Nat->Bool)(k:Nat)(h:p k=true):cm p (k+1)=cm p k++[k]:=by simp[cm,List.range_succ,List.filter_append,h]
theorem zoP(p:Nat->Bool)(k:Nat)(h:p k=false):cm p (k+1)=cm p k:=by simp[cm,List.range_succ,List.filter_append,h]
theorem Up(p:Nat->Bool)(k:Nat):(cm p k).length<=k:=by
 have:=List.length_filter_le p (List.range k);simpa [cm] using this
theorem KY(p:Nat->Bool)(k x:Nat):x∈cm p k↔x<k/\p x=true:=by simp[cm]
structure Pc where
 k:Int
 p:Nat->Bool
def en(p:Nat->Bool):Bool:=decide ((cm p 256).length=0)
def jz(x:Pc):List Value:=.int .i64 x.k :: (#[.int .u64 ((wd x.p 0:Nat):Int),.int .u64 ((wd x.p 1:Nat):Int),.int .u64 ((wd x.p 2:Nat):Int),.int .u64 ((wd x.p 3:Nat):Int)]).toList
def mZ(l:List Pc):List Value:=l.flatMap jz
theorem zhY(l:List Pc):(mZ l).length=l.length*5:=by
 induction l with
 | nil=>rfl
 | cons x l ih=>simp[mZ,jz] at ih⊢;omega
theorem zhZ(a b:List Pc):mZ (a++b)=mZ a++mZ b:=by simp[mZ]
theorem GO(l:List Pc)(i:Nat)(h:i<l.length)(j:Nat)(hj:j<5):(mZ l)[i*5+j]?=(jz l[i])[j]?:=by
 induction l generalizing i with
 | nil=>simp at h
 | cons x l ih=>
  have hc:(jz x).length=5:=by simp[jz]
  show (jz x++mZ l)[i*5+j]?=_
  match i,h with
  | 0,_=>
   rw[Nat.zero_mul,Nat.zero_add,List.getElem?_append_left (by omega)];rfl
  | i+1,h=>
   rw[List.getElem?_append_right (by omega),hc,show (i+1)*5+j-5=i*5+j by omega,ih i (by simpa using h)];rfl
theorem zi7(l:List Pc)(i:Nat)(h:i<l.length):
  (mZ l)[i*5]?=some (.int .i64 l[i].k)/\(mZ l)[i*5+1]?=some (.int .u64 ((wd l[i].p 0:Nat):Int))/\(mZ l)[i*5+2]?=some (.int .u64 ((wd l[i].p 1:Nat):Int))/\
  (mZ l)[i*5+3]?=some (.int .u64 ((wd l[i].p 2:Nat):Int))/\(mZ l)[i*5+4]?=some (.int .u64 ((wd l[i].p 3:Nat):Int)):=
 ⟨GO l i h 0 (by omega),GO l i h 1 (by omega),GO l i h 2 (by omega),GO l i h 3 (by omega),GO l i h 4 (by omega)⟩
def aO(k:Int):Int:=if k=0\/k=1 then 0 else if k=2\/k=3 then 2 else if k=4\/k=5\/k=6 then 1 else -1
theorem BH(k:Int):(aO k=0/\(k=0\/k=1))\/(aO k=2/\(k=2\/k=3))\/(aO k=1/\(k=4\/k=5\/k=6))\/(aO k=-1/\(k<0\/6<k)):=by
 unfold aO
 repeat' split
 all_goals omega
def iH(x:Pc):Bool:=en x.p != (x.k == 1)
def kC(x:Pc)(n:Int):Bool:=decide (0<=aO x.k) && decide (aO x.k<=n) && iH x
def eE:List Pc->Int->Option Int
 | [],n=>some n
 | x :: r,n=>if kC x n=true then eE r (n+1-aO x.k) else none
def ll(l:List Pc):Nat:=if 400<l.length then 6 else if eE l 0=some 1 then 0 else 5
inductive Rx where
 | leaf (x:Pc)
 | un (x:Pc) (a:Rx)
 | bin (x:Pc) (a b:Rx)
def Rx.flat:Rx->List Pc
 | .leaf x=>[x]
 | .un x a=>a.flat++[x]
 | .bin x a b=>a.flat++(b.flat++[x])
def Rx.wf:Rx->Prop
 | .leaf x=>aO x.k=0/\iH x=true
 | .un x a=>aO x.k=1/\iH x=true/\a.wf
 | .bin x a b=>aO x.k=2/\iH x=true/\a.wf/\b.wf
theorem Rx.ca(t:Rx):0<t.flat.length:=by cases t <;> simp[Rx.flat] <;> omega
def jO:List Pc->Int->Nat
 | [],_=>0
 | x :: r,m=>if m+(aO x.k-1)<=0 then r.length else jO r (m+(aO x.k-1))
def dL(l:List Pc)(at_:Nat):Nat:=jO (l.take (at_+1)).reverse 1
theorem SG(t:Rx)(hw:t.wf)(s:List Pc)(m:Int)(hm:1<=m):jO (t.flat.reverse++s) m=if m=1 then s.length else jO s (m-1):=by
 induction t generalizing s m with
 | leaf x=>
  have e:=hw.1;simp only[Rx.flat,List.reverse_singleton,List.singleton_append,jO,e];by_cases h:m=1
  ·subst h;simp
  rw[if_neg (by omega),if_neg h];congr 1
 | un x a ih=>
  have e:=hw.1;simp only[Rx.flat,List.reverse_append,List.reverse_singleton,List.cons_append,List.nil_append,jO,e];rw[if_neg (by omega),show m+(1-1)=m by omega,ih hw.2.2 s m hm]
 | bin x a b iha ihb=>
  have e:=hw.1;simp only[Rx.flat,List.reverse_append,List.reverse_singleton,List.cons_append,List.nil_append,List.append_assoc,jO,e];rw[if_neg (by omega),ihb hw.2.2.2 _ _ (by omega),if_neg (by omega),show m+(2-1)-1=m by omega,iha hw.2.2.1 s m hm]
def mE(w:World)(a:Option Addr)(l:List Pc):Prop:=0<l.length->∃g off,a=some ⟨g,off,none⟩/\g<w.heap.size/\∀j,j<l.length*5->w.cell? ⟨g,off+j,none⟩=(mZ l)[j]?
theorem mE.below{w:World}{a:Option Addr}{l:List Pc}(h:mE w a l)(k:Below w.heap.size w w'):mE w' a l:=by
 intro h0;obtain⟨g,off,rfl,hg,hc⟩:=h h0;have:=k.size;exact⟨g,off,rfl,by omega,fun j hj=>(k.cell (p:=⟨g,off+j,none⟩) hg).trans (hc j hj)⟩
theorem mE.get{w:World}{a:Option Addr}{l:List Pc}(h:mE w a l)(k:Nat)(hk:k<l.length):
  ∃g off,a=some ⟨g,off,none⟩/\g<w.heap.size/\w.cell? ⟨g,off+k*5,none⟩=some (.int .i64 l[k].k)/\w.cell? ⟨g,off+k*5+1,none⟩=some (.int .u64 ((wd l[k].p 0:Nat):Int))/\w.cell? ⟨g,off+k*5+2,none⟩=some (.int .u64 ((wd l[k].p 1:Nat):Int))/\
  w.cell? ⟨g,off+k*5+3,none⟩=some (.int .u64 ((wd l[k].p 2:Nat):Int))/\w.cell? ⟨g,off+k*5+4,none⟩=some (.int .u64 ((wd l[k].p 3:Nat):Int)):=by
 obtain⟨g,off,rfl,hg,hc⟩:=h (by omega);obtain⟨c0,c1,c2,c3,c4⟩:=zi7 l k hk;refine⟨g,off,rfl,hg,?_,?_,?_,?_,?_⟩
 ·rw[hc _ (by omega),c0]
 ·rw[add_assoc,hc _ (by omega),c1]
 ·rw[add_assoc,hc _ (by omega),c2]
 ·rw[add_assoc,hc _ (by omega),c3]
 rw[add_assoc,hc _ (by omega),c4]
theorem Rw(k:Int)(w:World):
  Calls prog 141 #[.int .i64 k] w fun e w'=>e=.returned (.int .i64 (aO k))/\w=w':=by
 rcases BH k with ⟨e,rfl|rfl⟩|⟨e,rfl|rfl⟩|⟨e,rfl|rfl|rfl⟩|⟨e,h⟩
 all_goals
  have E:=hid e
 rotate_right
 ·have e0:(k == 0)=false:=by simp;omega
  have e1:(k == 1)=false:=by simp;omega
  have e2:(k == 2)=false:=by simp;omega
  have e3:(k == 3)=false:=by simp;omega
  have e4:(k == 4)=false:=by simp;omega
  have e5:(k == 5)=false:=by simp;omega
  have e6:(k == 6)=false:=by simp;omega
  clear e h;go_enter func141,ntmps141;go_wp2;go_ret;exact⟨by rw[E.out];rfl,rfl⟩
 all_goals
  clear e
  go_enter func141,ntmps141
  go_wp2
  go_ret
  exact⟨by rw[E.out];rfl,rfl⟩
theorem zi8(l:List Pc)(k:Nat)(hk:k<l.length)(m:Int):jO (l.take (k+1)).reverse m=if m+(aO l[k].k-1)<=0 then k else jO (l.take k).reverse (m+(aO l[k].k-1)):=by
 rw[List.take_succ_eq_append_getElem hk,List.reverse_append];simp only[List.reverse_singleton,List.singleton_append,jO];congr 1;simp;omega
theorem zi9(l:List Pc)(a:Option Addr)(n cap:Nat)(w:World)(hL:mE w a l)(hn:l.length=n)(kF:n<=1000000)(i:Nat)(hi:i<n):
  Calls prog 145 #[.slice a n cap,.int .i64 i] w fun e w'=>e=.returned (.int .i64 ((dL l i:Nat):Int))/\w=w':=by
 have HN:=hid hn;have HL:=hid hL;obtain⟨R,hR⟩:∃R,dL l i=R:=⟨_,rfl⟩
 rw[hR];have tW:Hid (jO (l.take (i+1)).reverse 1=R):=hR;have hd:decide (n<=i)=false:=by simp;omega
 clear hn hL hR;go_enter func145,ntmps145;go_wp2;go_loopw [1,5] (fun v m wr=>∃(k:Nat) (z:Int),v=.int .i64 ((k:Int)-1)/\k<=i+1/\m=.int .i64 z/\1<=z/\z<=1+(n-k:Int)/\Hid (jO (l.take k).reverse z=R)/\w=wr) (fun v _ _=>(intOf v+1).toNat)
 ·exact⟨i+1,1,by go_num,le_refl _,rfl,by omega,by omega,tW,rfl⟩
 obtain⟨k,z,rfl,hk,rfl,db,cW,HG,rfl⟩:=hrel;rcases k with _|k
 ·have HZ:Hid (R=0):=by show _=_;rw[<-HG.out];simp[jO]
  go_wp2;go_ret;exact⟨by rw[HZ.out];rfl,rfl⟩
 have hkl:k<l.length:=by rw[HN.out];omega
 have rL:k<n:=by omega
 obtain⟨g,off,rfl,hg,c0,c1,c2,c3,c4⟩:=HL.out.get k hkl;have HS:=hid (zi8 l k hkl z);generalize l[k]=x at c0 c1 c2 c3 c4 HS;obtain⟨t,ht⟩:∃t,aO x.k=t:=⟨_,rfl⟩
 have ht1:-1<=t/\t<=2:=by have:=BH x.k;omega
 have HT:=hid ht;clear ht hkl c1 c2 c3 c4;have e0:((k+1:Nat):Int)-1=(k:Int):=by omega
 rw[e0];go_wp2_with fail;refine (Rw _ _).mono ?_;rintro e w1 ⟨rfl,rfl⟩;rw[HT.out];by_cases h1:z+(t-1)<=0
 ·have HZ:Hid (R=k):=by show _=_;rw[<-HG.out,HS.out,HT.out,if_pos h1]
  go_wp2;go_ret;exact⟨by rw[HZ.out];rfl,rfl⟩
 have HZ:Hid (jO (l.take k).reverse (z+(t-1))=R):=by show _=_;rw[<-HG.out,HS.out,HT.out,if_neg h1]
 go_wp2;go_roundw
 ·exact⟨k,z+(t-1),by go_num,by omega,by go_num,by omega,by omega,HZ,(by first|rfl|trivial)⟩
 simp[intOf]
theorem Bl(w:World)(base:Nat)(e:TypeId)(size:Nat)(cs:Array Value)(n:Nat)(hn:cs.size=n*size)(hb:base<=w.heap.size)(hm:n<=maxLen):(w.alloc (.cells cs e)).ownsRow base e size (.slice (some ⟨w.heap.size,0,none⟩) n n) n cs.toList:=
 ⟨by simpa using hn,inr ⟨w.heap.size,n,cs,rfl,hb,St.new w e cs,le_refl _,hm,hn,by rw[<-hn];exact List.take_of_length_le (by simp)⟩⟩
theorem zle(t:Rx)(hw:t.wf):∀x∈t.flat,0<=aO x.k:=by
 induction t with
 | leaf x=>intro y hy;simp[Rx.flat] at hy;subst hy;rw[hw.1];omega
 | un x a ih=>
  intro y hy;simp[Rx.flat] at hy;rcases hy with hy|rfl
  ·exact ih hw.2.2 y hy
  rw[hw.1];omega
 | bin x a b iha ihb=>
  intro y hy;simp[Rx.flat] at hy;rcases hy with hy|hy|rfl
  ·exact iha hw.2.2.1 y hy
  ·exact ihb hw.2.2.2 y hy
  rw[hw.1];omega
open Go.Maps Go.WideElems Go.ChangeMaps Go.MapKept
def Kept(ts:List TypeId)(bs:List Nat)(w w':World):Prop:=
 ∀k o,w.heap[k]?=some o->(∀c e fz,o=.cells c e fz->e∉ts)->k∉bs->w'.heap[k]?=some o
theorem Kept.refl(ts:List TypeId)(bs:List Nat)(w:World):Kept ts bs w w:=fun _ _ h _ _=>h
theorem Kept.trans{b c:World}(h:Kept ts bs a b)(k:Kept ts bs b c):Kept ts bs a c:=
 fun i o hi ho hb=>k i o (h i o hi ho hb) ho hb
theorem Kept.mono{WB:List TypeId}{bs':List Nat}{b:World}(h:Kept ts bs a b)(ht:∀t∈ts,t∈WB)(hb:∀t∈bs,t∈bs'):Kept WB bs' a b:=
 fun i o hi ho hn=>h i o hi (fun c e fz e0 hm=>ho c e fz e0 (ht e hm)) (fun hm=>hn (hb i hm))
theorem Kept.drew{w:World}(h:Kept ts bs a w):Kept ts bs a w.drew:=h
theorem Kept.below{w:World}(h:Kept ts bs a w)(k:Below w.heap.size w w'):Kept ts bs a w':=by
 intro i x hi hx hb;have h1:=h i x hi hx hb;exact (k.block i (Array.getElem?_eq_some_iff.1 h1).1).trans h1
theorem Kept.setCell{w:World}(h:Kept ts bs a w)(p:Addr)(v:Value)(hp:p.block∈bs\/a.heap.size<=p.block\/∃c e fz,w.heap[p.block]?=some (.cells c e fz)/\e∈ts):Kept ts bs a (w.setCell p v):=by
 intro k x hk hx hb;have h1:=h k x hk hx hb;rw[Below.heap_setCell _ _ _ _ (fun e=>?_)]
 ·exact h1
 rcases hp with hp|hp|⟨c,e',fz,hc,he⟩
 ·exact hb (by rw[e];exact hp)
 ·have:=(Array.getElem?_eq_some_iff.1 hk).1;omega
 rw[<-e,h1] at hc;exact hx c e' fz (Option.some.inj hc) he
theorem Kept.grown{w:World}{row:Option Nat}(h:Kept ts bs a w)(hg:w.grownBy w' row)
  (cY:∀g,row=some g->g∈bs\/a.heap.size<=g\/∃c e fz,w.heap[g]?=some (.cells c e fz)/\e∈ts):Kept ts bs a w':=by
 intro k x hk hx hb;have h1:=h k x hk hx hb;have aw:k<w.heap.size:=(Array.getElem?_eq_some_iff.1 h1).1;rw[hg.block k aw ?_]
 ·exact h1
 intro eO;rcases cY k eO.symm with hm|hm|⟨c,e',fz,hc,he⟩
 ·exact hb hm
 ·have:=(Array.getElem?_eq_some_iff.1 hk).1;omega
 rw[h1] at hc;exact hx c e' fz (Option.some.inj hc) he
theorem St.kept{w:World}{cs:Array Value}(h:St w t g cs)(k:Kept ts bs w w')(ht:t∉ts)(hg:g∉bs):St w' t g cs:=
 k g _ h (fun c e fz e0=>by injection e0 with _ e1;subst e1;exact ht) hg
theorem pS{w:World}{size:Nat}(h:w.ownsRow B e size v n xs):∀g,v.ownBlock=some g->∃c fz,w.heap[g]?=some (.cells c e fz):=by
 intro g hg;rcases h.2 with ⟨rfl,_⟩|⟨g',cap,cur,rfl,_,E9,_⟩
 ·simp[ownBlock] at hg
 simp[ownBlock] at hg;subst hg;exact⟨cur,_,E9⟩
theorem fy{w:World}{t:TypeId}{size:Nat}(h:w.ownsRow B t size v n xs)(k:Kept ts bs w w')(ht:t∉ts)(hg:∀g,v.ownBlock=some g->g∉bs):w'.ownsRow B t size v n xs:=by
 refine⟨h.1,?_⟩;rcases h.2 with h0|⟨g,cap,cur,rfl,hB,E9,r⟩
 ·exact inl h0
 exact inr ⟨g,cap,cur,rfl,hB,k g _ E9 (fun c e fz e0=>by injection e0 with _ e1;subst e1;exact ht) (hg g (by simp[ownBlock])),r⟩
theorem St.ne{w:World}{cs:Array Value}(h:St w t g cs)(h':St w t' g' gd)(ht:t≠t'):g≠g':=by
 intro e;subst e;have h1:w.heap[g]?=_:=h;have h2:w.heap[g]?=_:=h';rw[h1] at h2;injection h2 with h2;injection h2 with _ h2;exact ht h2
theorem dG{w:World}{size:Nat}(h:w.ownsRow B t size v n xs)(h':St w t' g' gd)(ht:t≠t'):∀g,v.ownBlock=some g->g≠g':=by
 intro g hg e;subst e;obtain⟨c,fz,hc⟩:=pS h g hg;have h2:w.heap[g]?=_:=h';rw[hc] at h2;injection h2 with h2;injection h2 with _ h2;exact ht h2
theorem jI{w:World}{size:Nat}(h:w.ownsRow B t size v n xs)(h':St w t' g' gd)(ht:t≠t')(i:Nat)(u:Value):(w.setCell ⟨g',i,none⟩ u).ownsRow B t size v n xs:=
 fy (ts:=[]) (bs:=[g']) h ((Kept.refl _ _ _).setCell _ _ (inl (by simp))) (by simp) (fun g hg=>by
  have:=dG h h' ht g hg
  simpa using this)
theorem St.fD{w:World}{cs:Array Value}(h:St w t g cs)(h':St w t' g' gd)(ht:t≠t')(i:Nat)(u:Value):St (w.setCell ⟨g',i,none⟩ u) t g cs:=
 h.eD (p:=⟨g',i,none⟩) (h.ne h' ht) u
def fe:Value->Option (DataW Value × List MemPlace):=fun v=>some (.held v,[])
def qy(w:World)(k:TypeId)(b n:Nat)(Q:Value->Value->Prop):Prop:=
 ∃es clock,w.heap[b]?=some (.map es clock)/\Fit prog k fe es clock/\es.size<=n/\∀e∈es.toList,Q e.key e.val
theorem qy.lt{w:World}{b:Nat}{Q:Value->Value->Prop}(h:qy w k b n Q):b<w.heap.size:=by
 obtain⟨es,clock,hb,_⟩:=h;exact (Array.getElem?_eq_some_iff.1 hb).1
theorem St.grown{w:World}{cs:Array Value}{row:Option Nat}(h:St w t g cs)(hg:w.grownBy w' row)(hn:some g≠row):St w' t g cs:=(hg.block g h.lt hn).trans h
theorem St.ag{w:World}{size:Nat}{cs:Array Value}(h:St w t g cs)(ho:w.ownsRow B t' size v n xs)(ht:t'≠t)(hg:w.grownBy w' v.ownBlock):St w' t g cs:=
 h.grown hg (fun e=>dG ho h ht g e.symm rfl)
theorem ri{w:World}{size:Nat}{row:Option Nat}(h:w.ownsRow B t size v n xs)(hg:w.grownBy w' row)(hn:∀g,v.ownBlock=some g->some g≠row):w'.ownsRow B t size v n xs:=by
 refine⟨h.1,?_⟩;rcases h.2 with h0|⟨g,cap,cur,rfl,hB,E9,r⟩
 ·exact inl h0
 exact inr ⟨g,cap,cur,rfl,hB,(hg.block g (Array.getElem?_eq_some_iff.1 E9).1 (hn g (by simp[ownBlock]))).trans E9,r⟩
theorem uO{w:World}{size B' F5:Nat}{v':Value}{ue:List Value}(h:w.ownsRow B t size v n xs)(ho:w.ownsRow B' t' F5 v' n' ue)(ht:t'≠t)(hg:w.grownBy w' v'.ownBlock):w'.ownsRow B t size v n xs:=
 ri h hg (fun g e1 e2=>by
  obtain⟨c,fz,hc⟩:=pS h g e1
  obtain⟨c',T6,nz⟩:=pS ho g e2.symm
  rw[hc] at nz
  injection nz with nz
  injection nz with _ nz
  exact ht nz.symm)
theorem yG{w:World}{size k b:Nat}{Q:Value->Value->Prop}(h:w.ownsRow B t size v n xs)(hm:qy w k b N Q)(hg:w.grownBy w' (some b)):w'.ownsRow B t size v n xs:=
 ri h hg (fun g e1 e2=>by
  obtain⟨c,fz,hc⟩:=pS h g e1
  obtain⟨es,clock,hb,_⟩:=hm
  injection e2 with e2
  subst e2
  rw[hc] at hb
  cases hb)
theorem St.dA{w:World}{k b:Nat}{cs:Array Value}{Q:Value->Value->Prop}(h:St w t g cs)(hm:qy w k b N Q)(hg:w.grownBy w' (some b)):St w' t g cs:=
 h.grown hg (fun e2=>by
  obtain⟨es,clock,hb,_⟩:=hm
  injection e2 with e2
  subst e2
  have h1:w.heap[g]?=_:=h
  rw[h1] at hb
  cases hb)
theorem km{w:World}{size:Nat}(ho:w.ownsRow B t size v n xs):∀g,v.ownBlock=some g->B<=g:=by
 intro g hg;rcases ho.2 with ⟨rfl,_⟩|⟨g',cap,cur,rfl,hB,_⟩
 ·simp[ownBlock] at hg
 simp[ownBlock] at hg;omega
theorem fH{w:World}{size:Nat}(h:Below B a w)(ho:w.ownsRow B t size v n xs)(hB:B<=w.heap.size)(hg:w.grownBy w' v.ownBlock):Below B a w':=
 h.grown hg hB (km ho)
def aD(w:World)(k:TypeId)(b n:Nat)(Q:Value->Value->Prop):Prop:=
 ∃es clock,w.heap[b]?=some (.map es clock)/\Fit prog k fe es clock/\es.size<=n/\(∀e∈es.toList,Q e.key e.val)/\∀x y,Q x y->∃e∈es.toList,e.key=x
theorem aD.of{w:World}{b:Nat}{Q:Value->Value->Prop}(h:aD w k b n Q):qy w k b n Q:=by
 obtain⟨es,clock,h1,h2,h3,h4,_⟩:=h;exact⟨es,clock,h1,h2,h3,h4⟩
theorem aD.made(w:World)(k:TypeId)(Q:Value->Value->Prop)(h0:∀x y,¬Q x y):aD (w.alloc (.map #[] 0)) k w.heap.size 0 Q:=
 ⟨#[],0,(MapKept.heap_alloc w _).1,⟨by simp,stamped_empty 0,by simp⟩,le_refl _,by simp,fun x y h=>absurd h (h0 x y)⟩
theorem aD.lt{w:World}{b:Nat}{Q:Value->Value->Prop}(h:aD w k b n Q):b<w.heap.size:=h.of.lt
theorem aD.same{w:World}{b:Nat}{Q:Value->Value->Prop}(h:aD w k b n Q)(e:w'.heap[b]?=w.heap[b]?):aD w' k b n Q:=by
 obtain⟨es,clock,hb,r⟩:=h;exact⟨es,clock,e.trans hb,r⟩
theorem aD.kept{w:World}{b:Nat}{Q:Value->Value->Prop}(h:aD w k b n Q)(hk:Kept ts bs w w')(hb:b∉bs):aD w' k b n Q:=by
 obtain⟨es,clock,tH,r⟩:=h;exact⟨es,clock,hk b _ tH (fun c e fz e0=>by cases e0) hb,r⟩
theorem aD.more{w:World}{b:Nat}{Q:Value->Value->Prop}(h:aD w k b n Q)(hn:n<=n'):aD w k b n' Q:=by
 obtain⟨es,clock,hb,F,hs,r⟩:=h;exact⟨es,clock,hb,F,Nat.le_trans hs hn,r⟩
theorem aD.set{w:World}{b i:Nat}{u:Value}{cs:Array Value}{Q:Value->Value->Prop}(h:aD w k b n Q)(h':St w t g cs):aD (w.setCell ⟨g,i,none⟩ u) k b n Q:=by
 refine h.same (Below.heap_setCell _ _ _ _ ?_);intro e;obtain⟨es,clock,hb,_⟩:=h;have h2:w.heap[g]?=_:=h';rw[show b=g from e,h2] at hb;cases hb
theorem aD.update{w:World}{t:TypeId}{b:Nat}{Q Q':Value->Value->Prop}(h:aD w k b n Q)(K:Keyed prog k)(ht:prog.underlying t=some (.map k e))(hn:n<maxLen)
  {key val:Value}{kl:Lit}(ek:keyOf prog k key=some kl) (gD:∀y,¬Q key y) (hQ:∀x y,Q x y->Q' x y) (hv:Q' key val) (ni:∀x y,Q' x y->x≠key->∃y',Q x y'):
  ∃w',(Instr.mapUpdate t (.map (some b)) key val).run prog w=.ok () w'/\aD w' k b (n+1) Q'/\w.grownBy w' (some b):=by
 obtain⟨es,clock,hb,F,hs,hq,dU⟩:=h;have iN:∀x∈es.toList,x.key≠key:=fun x hx e0=>gD x.val (by rw[<-e0];exact hq x hx)
 obtain⟨F1,_,_⟩:=F.stay (R':=fe) (fun x hx z hz=>hz);have EV:WideElems.rd prog k fe ⟨key,val,clock⟩=some (kl,.held val):=by unfold WideElems.rd fe;rw[ek];rfl
 rcases K.find w ek es.toList F.keys with ⟨h1,h2⟩|⟨j,e0,h1,h2,h3⟩
 ·refine⟨setBlock w b (.map (es.push ⟨key,val,clock⟩) (clock+1)),?_,⟨es.push ⟨key,val,clock⟩,clock+1,heap_setBlock_same hb _,⟨by simp;omega,stamped_push F.stamped h2,?_⟩,by simp;omega,fun x hx=>?_,fun x y hx=>?_⟩,⟨rfl,rfl,rfl,by simp[setBlock],fun i _ hi=>heap_setBlock_other hb _ (fun e=>hi (by rw[e]))⟩⟩
  ·simp[Instr.mapUpdate,run_underlying ht,MapKept.run_getObj_map hb,K.check w false ek,h1,MapKept.run_setObj_map _ hb,Result.andThen,setBlock]
  ·intro x hx;simp only[Array.toList_push,List.mem_append,List.mem_singleton] at hx;rcases hx with hx|rfl
   ·exact F1.reads x hx
   exact⟨_,EV⟩
  ·simp only[Array.toList_push,List.mem_append,List.mem_singleton] at hx;rcases hx with hx|rfl
   ·exact hQ _ _ (hq x hx)
   exact hv
  by_cases e0:x=key
  ·exact⟨⟨key,val,clock⟩,by rw[Array.toList_push];exact List.mem_append_right _ (List.mem_singleton.2 rfl),e0.symm⟩
  obtain⟨y',hy⟩:=ni x y hx e0;obtain⟨e1,h4,h5⟩:=dU x y' hy;exact⟨e1,by rw[Array.toList_push];exact List.mem_append_left _ h4,h5⟩
 exact absurd h3 (iN e0 (List.mem_of_getElem? h2))
theorem aD.ag{w:World}{size k b:Nat}{Q:Value->Value->Prop}(h:aD w k b N Q)(ho:w.ownsRow B t' size v n xs)(hg:w.grownBy w' v.ownBlock):aD w' k b N Q:=by
 refine h.same (hg.block b h.lt (fun e=>?_));obtain⟨c,fz,hc⟩:=pS ho b e.symm;obtain⟨es,clock,hb,_⟩:=h;rw[hc] at hb;cases hb
theorem zc8(w:World){ops:Array Oper}{rest:List Oper}{o:Oper}{a:Act}{Q:Exit->Act->World->Prop}
  (hg:o.guard=none) (m x v:Operand) (t:TypeId) (jG:o.op=Op.mapUpdate t m x v)
  (k e:TypeId) (K:Keyed prog k) (ht:prog.underlying t=some (.map k e)) (b n:Nat) (Q0 Q1:Value->Value->Prop)
  (hm:a.eval m=.map (some b)) (aX:aD w k b n Q0) (hn:n<maxLen) (key val:Value) (kl:Lit) (hx:a.eval x=key) (hv:a.eval v=val) (ek:keyOf prog k key=some kl)
  (gD:∀y,¬Q0 key y) (hQ:∀x y,Q0 x y->Q1 x y) (wQ:Q1 key val) (ni:∀x y,Q1 x y->x≠key->∃y',Q0 x y')
  (hK:∀w',aD w' k b (n+1) Q1->w.grownBy w' (some b)->wpList prog ops Q rest (a.put o.dst undef) w'):
  wpList prog ops Q (o :: rest) a w:=by
 refine wpList_plain hg fun K' hK'=>?_
 obtain⟨w',bU,r1,r2⟩:=aX.update K ht hn ek gD hQ wQ ni;unfold Oper.wp;simp[execOp,jG,hm,hx,hv,bU,Result.andThen];exact hK' _ _ (hK w' r1 r2)
theorem Jy{n:Int}(h:-9223372036854775808<=n/\n<=9223372036854775807):(Lit.int .i64 n).wf=true:=by
 simp[Lit.wf,IntKind.min,IntKind.max,IntKind.bits,IntKind.signed];omega
theorem JO(n:Nat)(h:n<18446744073709551616):(Lit.int .u64 (n:Int)).wf=true:=by
 simp[Lit.wf,IntKind.min,IntKind.max,IntKind.bits,IntKind.signed];omega
end Go.Proofs.YtiijebameffenaaGreat
