import Derived.Test.YtjehgdjlncofeaaGreatRows
import Derived.Test.YtjehgdjlncofeaaGreatZNMath
import Derived.ProofKit
import Derived.OpenShut
import Derived.ShutString
import Derived.ChangeOld
import Derived.ChangeMaps5
import Derived.Deep.Slices
import Derived.Deep.Fields
import Derived.ChangeSame
import Derived.LoopTactic
import Derived.Lib.Walk
import Derived.Deep.RegionWith
import Derived.Lib.OwnKind
import Derived.OwnWalk
import Derived.Laws.AppendOwn
import Derived.Deep.RegionHeld3
import Derived.Deep.DeepCutAuto
import Derived.Maps.OwnOps
import Derived.Maps.OwnSet
import Derived.DeepKeys4
import Derived.Laws.Cover3
set_option linter.unusedVariables false
set_option linter.unusedSimpArgs false
set_option maxHeartbeats 4000000
set_option maxRecDepth 100000
open Go.Lib (hid)
namespace Go.Proofs.YtjehgdjlncofeaaGreat
open Go.ChangeShapes Go.WideShapes Go.ChangeAt Go.RowKit Go.Deep
theorem own:ownKnob Tryz.prog.godebug=none:=by kernel_rfl
theorem laidOut:laidOutB Tryz.prog=true:=by kernel_rfl
theorem zab {w w':World}{base:Nat}{e:TypeId}{size:Nat}{v:Value}{n:Nat}{xs:List Value}(h:w.ownsRow base e size v n xs) (k:Below w.heap.size w w'):w'.ownsRow base e size v n xs:=by
 obtain⟨h1,h2⟩:=h
 refine⟨h1,?_⟩
 rcases h2 with h2|⟨g,cap,cur,hv,hg,hh,r⟩
 ·exact Or.inl h2
 ·refine Or.inr ⟨g,cap,cur,hv,hg,?_,r⟩
  rw[k.block g (Array.getElem?_eq_some_iff.1 hh).1]
  exact hh
theorem zaa {w:World}{base:Nat}{e:TypeId}{size:Nat}{v:Value}{n:Nat}{xs:List Value}(h:w.ownsRow base e size v n xs):∃a cap,v=.slice a n cap:=by
 rcases h.2 with ⟨h1,h2⟩|⟨g,cap,cur,hv,_⟩
 ·subst h2;exact⟨_,_,h1⟩
 ·exact⟨_,_,hv⟩
theorem zae {w:World}{base:Nat}{e:TypeId}{size:Nat}{a:Option Addr}{n cap:Nat}{xs:List Value}(h:w.ownsRow base e size (.slice a n cap) n xs) (hn:0<n):∃g,a=some ⟨g,0,none⟩/\base<=g/\g<w.heap.size/\∀j,j<n*size->w.cell? ⟨g,j,none⟩=xs[j]?/\w.frozen? ⟨g,j,none⟩=false:=by
 have h0:=h
 rcases h.2 with ⟨h1,h2⟩|⟨g,cap',cur,hv,hg,hh,_⟩
 ·omega
 ·simp at hv
  obtain⟨rfl,rfl⟩:=hv
  exact⟨g,rfl,hg,(Array.getElem?_eq_some_iff.1 hh).1,fun j hj=>⟨h0.cellAt j hj,h0.frozenAt j⟩⟩
theorem zag {w:World}{base base':Nat}{e:TypeId}{size:Nat}{v:Value}{n:Nat}{xs:List Value}(h:w.ownsRow base' e size v n xs) (hb:base<=base'):w.ownsRow base e size v n xs:=by
 obtain⟨h1,h2⟩:=h
 refine⟨h1,?_⟩
 rcases h2 with h2|⟨g,cap,cur,hv,hg,r⟩
 ·exact Or.inl h2
 ·exact Or.inr ⟨g,cap,cur,hv,by omega,r⟩
theorem zhX {w w':World}{v:Value}(h:w.grownBy w' v.ownBlock) {base:Nat}{e:TypeId}{size:Nat}{n:Nat}{xs:List Value}(ho:w.ownsRow base e size v n xs) (hb:base<=w.heap.size):Below base w w':=by
 refine⟨h.os,h.tape,h.output,h.size,fun k hk=>h.block k (by omega) fun e=>?_⟩
 rcases ho.2 with ⟨rfl,_⟩|⟨g,cap,cur,rfl,hg,_⟩
 ·simp[Value.ownBlock] at e
 ·simp[Value.ownBlock] at e;omega
theorem Tryz.info_u8:(Tryz.prog.info? 5).map (fun i=>(i.zero,i.size,i.bytes))=some (some (.int .u8 0),1,1):=by kernel_rfl
def u8s (l:List Nat):List Value:=l.map fun n=>.int .u8 ((n:Nat):Int)
theorem zkI (l:List Nat) (n:Nat):u8s (l++[n])=u8s l++[.int .u8 (n:Int)]:=by simp[u8s]
theorem zgc (l:List Nat) (j:Nat) (h:j<l.length):(u8s l)[j]?=some (.int .u8 ((l.getD j 0:Nat):Int)):=by simp[u8s,List.getElem?_eq_getElem h]
def lst (p:Nat->Bool) (k:Nat):List Nat:=(List.range k).filter p
theorem zmM (p:Nat->Bool) (k:Nat) (h:p k=true):lst p (k+1)=lst p k++[k]:=by simp[lst,List.range_succ,List.filter_append,h]
theorem znP (p:Nat->Bool) (k:Nat) (h:p k=false):lst p (k+1)=lst p k:=by simp[lst,List.range_succ,List.filter_append,h]
theorem zl9 (p:Nat->Bool) (k:Nat):(lst p k).length<=k:=by
 have:=List.length_filter_le p (List.range k)
 simpa [lst] using this
theorem zeA (p:Nat->Bool) (k x:Nat):x∈lst p k↔x<k/\p x=true:=by simp[lst]
structure Pc where
 k:Int
 p:Nat->Bool
def noneB (p:Nat->Bool):Bool:=decide ((lst p 256).length=0)
def pcCells (x:Pc):List Value:=.int .i64 x.k :: (#[.int .u64 ((wd x.p 0:Nat):Int),.int .u64 ((wd x.p 1:Nat):Int),.int .u64 ((wd x.p 2:Nat):Int),.int .u64 ((wd x.p 3:Nat):Int)]).toList
def pcs (l:List Pc):List Value:=l.flatMap pcCells
theorem zhY (l:List Pc):(pcs l).length=l.length*5:=by
 induction l with
 | nil=>rfl
 | cons x l ih=>simp[pcs,pcCells] at ih⊢;omega
theorem zhZ (a b:List Pc):pcs (a++b)=pcs a++pcs b:=by simp[pcs]
theorem zdn (l:List Pc) (i:Nat) (h:i<l.length) (j:Nat) (hj:j<5):(pcs l)[i*5+j]?=(pcCells l[i])[j]?:=by
 induction l generalizing i with
 | nil=>simp at h
 | cons x l ih=>
  have hc:(pcCells x).length=5:=by simp[pcCells]
  show (pcCells x++pcs l)[i*5+j]?=_
  match i,h with
  | 0,_=>
   rw[Nat.zero_mul,Nat.zero_add,List.getElem?_append_left (by omega)]
   rfl
  | i+1,h=>
   rw[List.getElem?_append_right (by omega),hc,show (i+1)*5+j-5=i*5+j by omega,ih i (by simpa using h)]
   rfl
theorem ziS (l:List Pc) (i:Nat) (h:i<l.length):
  (pcs l)[i*5]?=some (.int .i64 l[i].k)/\(pcs l)[i*5+1]?=some (.int .u64 ((wd l[i].p 0:Nat):Int))/\(pcs l)[i*5+2]?=some (.int .u64 ((wd l[i].p 1:Nat):Int))/\
  (pcs l)[i*5+3]?=some (.int .u64 ((wd l[i].p 2:Nat):Int))/\(pcs l)[i*5+4]?=some (.int .u64 ((wd l[i].p 3:Nat):Int)):=
 ⟨zdn l i h 0 (by omega),zdn l i h 1 (by omega),zdn l i h 2 (by omega),zdn l i h 3 (by omega),zdn l i h 4 (by omega)⟩
def takesZ (k:Int):Int:=if k=0\/k=1 then 0 else if k=2\/k=3 then 2 else if k=4\/k=5\/k=6 then 1 else -1
theorem zaQ (k:Int):(takesZ k=0/\(k=0\/k=1))\/(takesZ k=2/\(k=2\/k=3))\/(takesZ k=1/\(k=4\/k=5\/k=6))\/(takesZ k=-1/\(k<0\/6<k)):=by
 unfold takesZ
 repeat' split
 all_goals omega
def okSet (x:Pc):Bool:=noneB x.p != (x.k == 1)
def okPc (x:Pc) (n:Int):Bool:=decide (0<=takesZ x.k) && decide (takesZ x.k<=n) && okSet x
def chkGo:List Pc->Int->Option Int
 | [],n=>some n
 | x :: r,n=>if okPc x n=true then chkGo r (n+1-takesZ x.k) else none
def chkT (l:List Pc):Nat:=if 400<l.length then 6 else if chkGo l 0=some 1 then 0 else 5
inductive Rx where
 | leaf (x:Pc)
 | un (x:Pc) (a:Rx)
 | bin (x:Pc) (a b:Rx)
def Rx.flat:Rx->List Pc
 | .leaf x=>[x]
 | .un x a=>a.flat++[x]
 | .bin x a b=>a.flat++(b.flat++[x])
def Rx.wf:Rx->Prop
 | .leaf x=>takesZ x.k=0/\okSet x=true
 | .un x a=>takesZ x.k=1/\okSet x=true/\a.wf
 | .bin x a b=>takesZ x.k=2/\okSet x=true/\a.wf/\b.wf
theorem Rx.flat_pos (t:Rx):0<t.flat.length:=by cases t <;> simp[Rx.flat] <;> omega
def stGo:List Pc->Int->Nat
 | [],_=>0
 | x :: r,m=>if m+(takesZ x.k-1)<=0 then r.length else stGo r (m+(takesZ x.k-1))
def startT (l:List Pc) (at_:Nat):Nat:=stGo (l.take (at_+1)).reverse 1
theorem zfi (t:Rx) (hw:t.wf) (s:List Pc) (m:Int) (hm:1<=m):stGo (t.flat.reverse++s) m=if m=1 then s.length else stGo s (m-1):=by
 induction t generalizing s m with
 | leaf x=>
  have e:=hw.1
  simp only[Rx.flat,List.reverse_singleton,List.singleton_append,stGo,e]
  by_cases h:m=1
  ·subst h;simp
  ·rw[if_neg (by omega),if_neg h];congr 1
 | un x a ih=>
  have e:=hw.1
  simp only[Rx.flat,List.reverse_append,List.reverse_singleton,List.cons_append,List.nil_append,stGo,e]
  rw[if_neg (by omega),show m+(1-1)=m by omega,ih hw.2.2 s m hm]
 | bin x a b iha ihb=>
  have e:=hw.1
  simp only[Rx.flat,List.reverse_append,List.reverse_singleton,List.cons_append,List.nil_append,List.append_assoc,stGo,e]
  rw[if_neg (by omega),ihb hw.2.2.2 _ _ (by omega),if_neg (by omega),show m+(2-1)-1=m by omega,iha hw.2.2.1 s m hm]
def RxAt (w:World) (a:Option Addr) (l:List Pc):Prop:=0<l.length->∃g off,a=some ⟨g,off,none⟩/\g<w.heap.size/\∀j,j<l.length*5->w.cell? ⟨g,off+j,none⟩=(pcs l)[j]?
theorem RxAt.below {w w':World}{a:Option Addr}{l:List Pc}(h:RxAt w a l) (k:Below w.heap.size w w'):RxAt w' a l:=by
 intro h0
 obtain⟨g,off,rfl,hg,hc⟩:=h h0
 have:=k.size
 exact⟨g,off,rfl,by omega,fun j hj=>(k.cell (p:=⟨g,off+j,none⟩) hg).trans (hc j hj)⟩
theorem RxAt.get {w:World}{a:Option Addr}{l:List Pc}(h:RxAt w a l) (k:Nat) (hk:k<l.length):
  ∃g off,a=some ⟨g,off,none⟩/\g<w.heap.size/\w.cell? ⟨g,off+k*5,none⟩=some (.int .i64 l[k].k)/\w.cell? ⟨g,off+k*5+1,none⟩=some (.int .u64 ((wd l[k].p 0:Nat):Int))/\w.cell? ⟨g,off+k*5+2,none⟩=some (.int .u64 ((wd l[k].p 1:Nat):Int))/\
  w.cell? ⟨g,off+k*5+3,none⟩=some (.int .u64 ((wd l[k].p 2:Nat):Int))/\w.cell? ⟨g,off+k*5+4,none⟩=some (.int .u64 ((wd l[k].p 3:Nat):Int)):=by
 obtain⟨g,off,rfl,hg,hc⟩:=h (by omega)
 obtain⟨c0,c1,c2,c3,c4⟩:=ziS l k hk
 refine⟨g,off,rfl,hg,?_,?_,?_,?_,?_⟩
 ·rw[hc _ (by omega),c0]
 ·rw[Nat.add_assoc,hc _ (by omega),c1]
 ·rw[Nat.add_assoc,hc _ (by omega),c2]
 ·rw[Nat.add_assoc,hc _ (by omega),c3]
 ·rw[Nat.add_assoc,hc _ (by omega),c4]
theorem zdo (k:Int) (w:World):
  Calls Tryz.prog 133 #[.int .i64 k] w fun e w'=>e=.returned (.int .i64 (takesZ k))/\w=w':=by
 rcases zaQ k with ⟨e,rfl|rfl⟩|⟨e,rfl|rfl⟩|⟨e,rfl|rfl|rfl⟩|⟨e,h⟩
 all_goals
  have E:=hid e
 rotate_right
 ·have e0:(k == 0)=false:=by simp;omega
  have e1:(k == 1)=false:=by simp;omega
  have e2:(k == 2)=false:=by simp;omega
  have e3:(k == 3)=false:=by simp;omega
  have e4:(k == 4)=false:=by simp;omega
  have e5:(k == 5)=false:=by simp;omega
  have e6:(k == 6)=false:=by simp;omega
  clear e h
  go_enter Tryz.func133,Tryz.ntmps133
  go_wp2_with fail
  go_ret
  exact⟨by rw[E.out];rfl,rfl⟩
 all_goals
  clear e
  go_enter Tryz.func133,Tryz.ntmps133
  go_wp2_with fail
  go_ret
  exact⟨by rw[E.out];rfl,rfl⟩
theorem ziT (l:List Pc) (k:Nat) (hk:k<l.length) (m:Int):stGo (l.take (k+1)).reverse m=if m+(takesZ l[k].k-1)<=0 then k else stGo (l.take k).reverse (m+(takesZ l[k].k-1)):=by
 rw[List.take_succ_eq_append_getElem hk,List.reverse_append]
 simp only[List.reverse_singleton,List.singleton_append,stGo]
 congr 1
 simp;omega
theorem ziU (l:List Pc) (a:Option Addr) (n cap:Nat) (w:World) (hL:RxAt w a l) (hn:l.length=n) (hmax:n<=1000000) (i:Nat) (hi:i<n):
  Calls Tryz.prog 137 #[.slice a n cap,.int .i64 i] w fun e w'=>e=.returned (.int .i64 ((startT l i:Nat):Int))/\w=w':=by
 have HN:=hid hn
 have HL:=hid hL
 obtain⟨R,hR⟩:∃R,startT l i=R:=⟨_,rfl⟩
 rw[hR]
 have HG0:Hid (stGo (l.take (i+1)).reverse 1=R):=hR
 have hd:decide (n<=i)=false:=by simp;omega
 clear hn hL hR
 go_enter Tryz.func137,Tryz.ntmps137
 go_wp2_with fail
 go_loopw [1,5] (fun v m wr=>∃(k:Nat) (z:Int),v=.int .i64 ((k:Int)-1)/\k<=i+1/\m=.int .i64 z/\1<=z/\z<=1+(n-k:Int)/\Hid (stGo (l.take k).reverse z=R)/\w=wr) (fun v _ _=>(intOf v+1).toNat)
 case atStart=>exact⟨i+1,1,by go_num,Nat.le_refl _,rfl,by omega,by omega,HG0,rfl⟩
 case round=>
  obtain⟨k,z,rfl,hk,rfl,hz1,hz2,HG,rfl⟩:=hrel
  rcases k with _|k
  ·have HZ:Hid (R=0):=by show _=_;rw[<-HG.out];simp[stGo]
   go_wp2_with fail
   go_ret
   exact⟨by rw[HZ.out];rfl,rfl⟩
  ·have hkl:k<l.length:=by rw[HN.out];omega
   have hkn:k<n:=by omega
   obtain⟨g,off,rfl,hg,c0,c1,c2,c3,c4⟩:=HL.out.get k hkl
   have HS:=hid (ziT l k hkl z)
   generalize l[k]=x at c0 c1 c2 c3 c4 HS
   obtain⟨t,ht⟩:∃t,takesZ x.k=t:=⟨_,rfl⟩
   have ht1:-1<=t/\t<=2:=by have:=zaQ x.k;omega
   have HT:=hid ht
   clear ht hkl c1 c2 c3 c4
   have e0:((k+1:Nat):Int)-1=(k:Int):=by omega
   rw[e0]
   go_wp2_with fail
   refine (zdo _ _).mono ?_
   rintro e w1 ⟨rfl,rfl⟩
   rw[HT.out]
   by_cases h1:z+(t-1)<=0
   ·have HZ:Hid (R=k):=by show _=_;rw[<-HG.out,HS.out,HT.out,if_pos h1]
    go_wp2_with fail
    go_ret
    exact⟨by rw[HZ.out];rfl,rfl⟩
   ·have HZ:Hid (stGo (l.take k).reverse (z+(t-1))=R):=by show _=_;rw[<-HG.out,HS.out,HT.out,if_neg h1]
    go_wp2_with fail
    go_roundw
    case rel=>exact⟨k,z+(t-1),by go_num,by omega,by go_num,by omega,by omega,HZ,(by first|rfl|trivial)⟩
    case measure=>simp[intOf]
theorem zbM (w:World) (base:Nat) (e:TypeId) (size:Nat) (cs:Array Value) (n:Nat) (hn:cs.size=n*size) (hb:base<=w.heap.size) (hm:n<=maxLen):(w.alloc (.cells cs e)).ownsRow base e size (.slice (some ⟨w.heap.size,0,none⟩) n n) n cs.toList:=
 ⟨by simpa using hn,Or.inr ⟨w.heap.size,n,cs,rfl,hb,St.new w e cs,Nat.le_refl _,hm,hn,by rw[<-hn];exact List.take_of_length_le (by simp)⟩⟩
theorem zkJ (t:Rx) (hw:t.wf):∀x∈t.flat,0<=takesZ x.k:=by
 induction t with
 | leaf x=>intro y hy;simp[Rx.flat] at hy;subst hy;rw[hw.1];omega
 | un x a ih=>
  intro y hy
  simp[Rx.flat] at hy
  rcases hy with hy|rfl
  ·exact ih hw.2.2 y hy
  ·rw[hw.1];omega
 | bin x a b iha ihb=>
  intro y hy
  simp[Rx.flat] at hy
  rcases hy with hy|hy|rfl
  ·exact iha hw.2.2.1 y hy
  ·exact ihb hw.2.2.2 y hy
  ·rw[hw.1];omega
open Go.Maps Go.WideElems Go.ChangeMaps Go.MapKept
def Kept (ts:List TypeId) (bs:List Nat) (w w':World):Prop:=
 ∀k o,w.heap[k]?=some o->(∀c e fz,o=.cells c e fz->e∉ts)->k∉bs->w'.heap[k]?=some o
theorem Kept.refl (ts:List TypeId) (bs:List Nat) (w:World):Kept ts bs w w:=fun _ _ h _ _=>h
theorem Kept.trans {ts:List TypeId}{bs:List Nat}{a b c:World}(h:Kept ts bs a b) (k:Kept ts bs b c):Kept ts bs a c:=
 fun i o hi ho hb=>k i o (h i o hi ho hb) ho hb
theorem Kept.mono {ts ts':List TypeId}{bs bs':List Nat}{a b:World}(h:Kept ts bs a b) (ht:∀t∈ts,t∈ts') (hb:∀t∈bs,t∈bs'):Kept ts' bs' a b:=
 fun i o hi ho hn=>h i o hi (fun c e fz e0 hm=>ho c e fz e0 (ht e hm)) (fun hm=>hn (hb i hm))
theorem Kept.drew {ts:List TypeId}{bs:List Nat}{a w:World}(h:Kept ts bs a w):Kept ts bs a w.drew:=h
theorem Kept.below {ts:List TypeId}{bs:List Nat}{a w w':World}(h:Kept ts bs a w) (k:Below w.heap.size w w'):Kept ts bs a w':=by
 intro i x hi hx hb
 have h1:=h i x hi hx hb
 exact (k.block i (Array.getElem?_eq_some_iff.1 h1).1).trans h1
theorem Kept.setCell {ts:List TypeId}{bs:List Nat}{a w:World}(h:Kept ts bs a w) (p:Addr) (v:Value) (hp:p.block∈bs\/a.heap.size<=p.block\/∃c e fz,w.heap[p.block]?=some (.cells c e fz)/\e∈ts):Kept ts bs a (w.setCell p v):=by
 intro k x hk hx hb
 have h1:=h k x hk hx hb
 rw[Below.heap_setCell _ _ _ _ (fun e=>?_)]
 ·exact h1
 ·rcases hp with hp|hp|⟨c,e',fz,hc,he⟩
  ·exact hb (by rw[e];exact hp)
  ·have:=(Array.getElem?_eq_some_iff.1 hk).1;omega
  ·rw[<-e,h1] at hc
   exact hx c e' fz (Option.some.inj hc) he
theorem Kept.grown {ts:List TypeId}{bs:List Nat}{a w w':World}{row:Option Nat}(h:Kept ts bs a w) (hg:w.grownBy w' row)
  (hrow:∀g,row=some g->g∈bs\/a.heap.size<=g\/∃c e fz,w.heap[g]?=some (.cells c e fz)/\e∈ts):Kept ts bs a w':=by
 intro k x hk hx hb
 have h1:=h k x hk hx hb
 have hlt:k<w.heap.size:=(Array.getElem?_eq_some_iff.1 h1).1
 rw[hg.block k hlt ?_]
 ·exact h1
 ·intro hk2
  rcases hrow k hk2.symm with hm|hm|⟨c,e',fz,hc,he⟩
  ·exact hb hm
  ·have:=(Array.getElem?_eq_some_iff.1 hk).1;omega
  ·rw[h1] at hc
   exact hx c e' fz (Option.some.inj hc) he
theorem St.kept {w w':World}{t g:Nat}{cs:Array Value}{ts:List TypeId}{bs:List Nat}(h:St w t g cs) (k:Kept ts bs w w') (ht:t∉ts) (hg:g∉bs):St w' t g cs:=
 k g _ h (fun c e fz e0=>by injection e0 with _ e1;subst e1;exact ht) hg
theorem zaI {w:World}{B:Nat}{e:TypeId}{size:Nat}{v:Value}{n:Nat}{xs:List Value}(h:w.ownsRow B e size v n xs):∀g,v.ownBlock=some g->∃c fz,w.heap[g]?=some (.cells c e fz):=by
 intro g hg
 rcases h.2 with ⟨rfl,_⟩|⟨g',cap,cur,rfl,_,hgg,_⟩
 ·simp[Value.ownBlock] at hg
 ·simp[Value.ownBlock] at hg
  subst hg
  exact⟨cur,_,hgg⟩
theorem zal {w w':World}{B:Nat}{t:TypeId}{size:Nat}{v:Value}{n:Nat}{xs:List Value}{ts:List TypeId}{bs:List Nat}(h:w.ownsRow B t size v n xs) (k:Kept ts bs w w') (ht:t∉ts) (hg:∀g,v.ownBlock=some g->g∉bs):w'.ownsRow B t size v n xs:=by
 refine⟨h.1,?_⟩
 rcases h.2 with h0|⟨g,cap,cur,rfl,hB,hgg,r⟩
 ·exact Or.inl h0
 ·exact Or.inr ⟨g,cap,cur,rfl,hB,k g _ hgg (fun c e fz e0=>by injection e0 with _ e1;subst e1;exact ht) (hg g (by simp[Value.ownBlock])),r⟩
theorem St.ne {w:World}{t t' g g':Nat}{cs cs':Array Value}(h:St w t g cs) (h':St w t' g' cs') (ht:t≠t'):g≠g':=by
 intro e
 subst e
 have h1:w.heap[g]?=_:=h
 have h2:w.heap[g]?=_:=h'
 rw[h1] at h2
 injection h2 with h2
 injection h2 with _ h2
 exact ht h2
theorem zaq {w:World}{B:Nat}{t t' g':Nat}{size:Nat}{v:Value}{n:Nat}{xs:List Value}{cs':Array Value}(h:w.ownsRow B t size v n xs) (h':St w t' g' cs') (ht:t≠t'):∀g,v.ownBlock=some g->g≠g':=by
 intro g hg e
 subst e
 obtain⟨c,fz,hc⟩:=zaI h g hg
 have h2:w.heap[g]?=_:=h'
 rw[hc] at h2
 injection h2 with h2
 injection h2 with _ h2
 exact ht h2
theorem zau {w:World}{B:Nat}{t t' g':Nat}{size:Nat}{v:Value}{n:Nat}{xs:List Value}{cs':Array Value}(h:w.ownsRow B t size v n xs) (h':St w t' g' cs') (ht:t≠t') (i:Nat) (u:Value):(w.setCell ⟨g',i,none⟩ u).ownsRow B t size v n xs:=
 zal (ts:=[]) (bs:=[g']) h ((Kept.refl _ _ _).setCell _ _ (Or.inl (by simp))) (by simp) (fun g hg=>by
  have:=zaq h h' ht g hg
  simpa using this)
theorem St.set_far {w:World}{t t' g g':Nat}{cs cs':Array Value}(h:St w t g cs) (h':St w t' g' cs') (ht:t≠t') (i:Nat) (u:Value):St (w.setCell ⟨g',i,none⟩ u) t g cs:=
 h.far (p:=⟨g',i,none⟩) (h.ne h' ht) u
def anyR:Value->Option (DataW Value × List MemPlace):=fun v=>some (.held v,[])
def MapOf (w:World) (k:TypeId) (b n:Nat) (Q:Value->Value->Prop):Prop:=
 ∃es clock,w.heap[b]?=some (.map es clock)/\Fit Tryz.prog k anyR es clock/\es.size<=n/\∀e∈es.toList,Q e.key e.val
theorem MapOf.lt {w:World}{k:TypeId}{b n:Nat}{Q:Value->Value->Prop}(h:MapOf w k b n Q):b<w.heap.size:=by
 obtain⟨es,clock,hb,_⟩:=h
 exact (Array.getElem?_eq_some_iff.1 hb).1
theorem St.grown {w w':World}{t g:Nat}{cs:Array Value}{row:Option Nat}(h:St w t g cs) (hg:w.grownBy w' row) (hn:some g≠row):St w' t g cs:=(hg.block g h.lt hn).trans h
theorem St.grown_own {w w':World}{B t t' g size n:Nat}{cs:Array Value}{v:Value}{xs:List Value}(h:St w t g cs) (ho:w.ownsRow B t' size v n xs) (ht:t'≠t) (hg:w.grownBy w' v.ownBlock):St w' t g cs:=
 h.grown hg (fun e=>zaq ho h ht g e.symm rfl)
theorem zaG {w w':World}{B t size n:Nat}{v:Value}{xs:List Value}{row:Option Nat}(h:w.ownsRow B t size v n xs) (hg:w.grownBy w' row) (hn:∀g,v.ownBlock=some g->some g≠row):w'.ownsRow B t size v n xs:=by
 refine⟨h.1,?_⟩
 rcases h.2 with h0|⟨g,cap,cur,rfl,hB,hgg,r⟩
 ·exact Or.inl h0
 ·exact Or.inr ⟨g,cap,cur,rfl,hB,(hg.block g (Array.getElem?_eq_some_iff.1 hgg).1 (hn g (by simp[Value.ownBlock]))).trans hgg,r⟩
theorem zav {w w':World}{B t size n B' t' size' n':Nat}{v v':Value}{xs xs':List Value}(h:w.ownsRow B t size v n xs) (ho:w.ownsRow B' t' size' v' n' xs') (ht:t'≠t) (hg:w.grownBy w' v'.ownBlock):w'.ownsRow B t size v n xs:=
 zaG h hg (fun g e1 e2=>by
  obtain⟨c,fz,hc⟩:=zaI h g e1
  obtain⟨c',fz',hc'⟩:=zaI ho g e2.symm
  rw[hc] at hc'
  injection hc' with hc'
  injection hc' with _ hc'
  exact ht hc'.symm)
theorem zaB {w w':World}{B t size n k b N:Nat}{v:Value}{xs:List Value}{Q:Value->Value->Prop}(h:w.ownsRow B t size v n xs) (hm:MapOf w k b N Q) (hg:w.grownBy w' (some b)):w'.ownsRow B t size v n xs:=
 zaG h hg (fun g e1 e2=>by
  obtain⟨c,fz,hc⟩:=zaI h g e1
  obtain⟨es,clock,hb,_⟩:=hm
  injection e2 with e2
  subst e2
  rw[hc] at hb
  cases hb)
theorem St.grown_map {w w':World}{t g k b N:Nat}{cs:Array Value}{Q:Value->Value->Prop}(h:St w t g cs) (hm:MapOf w k b N Q) (hg:w.grownBy w' (some b)):St w' t g cs:=
 h.grown hg (fun e2=>by
  obtain⟨es,clock,hb,_⟩:=hm
  injection e2 with e2
  subst e2
  have h1:w.heap[g]?=_:=h
  rw[h1] at hb
  cases hb)
theorem Kept.grown_own {ts:List TypeId}{bs:List Nat}{a w w':World}{B t size n:Nat}{v:Value}{xs:List Value}(h:Kept ts bs a w) (ho:w.ownsRow B t size v n xs) (ht:t∈ts) (hg:w.grownBy w' v.ownBlock):Kept ts bs a w':=
 h.grown hg (fun g e=>by
  obtain⟨c,fz,hc⟩:=zaI ho g e
  exact Or.inr (Or.inr ⟨c,t,fz,hc,ht⟩))
theorem zas {w:World}{B t size n:Nat}{v:Value}{xs:List Value}(ho:w.ownsRow B t size v n xs):∀g,v.ownBlock=some g->B<=g:=by
 intro g hg
 rcases ho.2 with ⟨rfl,_⟩|⟨g',cap,cur,rfl,hB,_⟩
 ·simp[Value.ownBlock] at hg
 ·simp[Value.ownBlock] at hg
  omega
theorem zac {a w w':World}{B t size n:Nat}{v:Value}{xs:List Value}(h:Below B a w) (ho:w.ownsRow B t size v n xs) (hB:B<=w.heap.size) (hg:w.grownBy w' v.ownBlock):Below B a w':=
 h.grown hg hB (zas ho)
def MapEx (w:World) (k:TypeId) (b n:Nat) (Q:Value->Value->Prop):Prop:=
 ∃es clock,w.heap[b]?=some (.map es clock)/\Fit Tryz.prog k anyR es clock/\es.size<=n/\(∀e∈es.toList,Q e.key e.val)/\∀x y,Q x y->∃e∈es.toList,e.key=x
theorem MapEx.of {w:World}{k:TypeId}{b n:Nat}{Q:Value->Value->Prop}(h:MapEx w k b n Q):MapOf w k b n Q:=by
 obtain⟨es,clock,h1,h2,h3,h4,_⟩:=h
 exact⟨es,clock,h1,h2,h3,h4⟩
theorem MapEx.made (w:World) (k:TypeId) (Q:Value->Value->Prop) (h0:∀x y,¬Q x y):MapEx (w.alloc (.map #[] 0)) k w.heap.size 0 Q:=
 ⟨#[],0,(MapKept.heap_alloc w _).1,⟨by simp,stamped_empty 0,by simp⟩,Nat.le_refl _,by simp,fun x y h=>absurd h (h0 x y)⟩
theorem MapEx.lt {w:World}{k:TypeId}{b n:Nat}{Q:Value->Value->Prop}(h:MapEx w k b n Q):b<w.heap.size:=h.of.lt
theorem MapEx.same {w w':World}{k:TypeId}{b n:Nat}{Q:Value->Value->Prop}(h:MapEx w k b n Q) (e:w'.heap[b]?=w.heap[b]?):MapEx w' k b n Q:=by
 obtain⟨es,clock,hb,r⟩:=h
 exact⟨es,clock,e.trans hb,r⟩
theorem MapEx.kept {w w':World}{k:TypeId}{b n:Nat}{Q:Value->Value->Prop}{ts:List TypeId}{bs:List Nat}(h:MapEx w k b n Q) (hk:Kept ts bs w w') (hb:b∉bs):MapEx w' k b n Q:=by
 obtain⟨es,clock,hbb,r⟩:=h
 exact⟨es,clock,hk b _ hbb (fun c e fz e0=>by cases e0) hb,r⟩
theorem MapEx.more {w:World}{k:TypeId}{b n n':Nat}{Q:Value->Value->Prop}(h:MapEx w k b n Q) (hn:n<=n'):MapEx w k b n' Q:=by
 obtain⟨es,clock,hb,F,hs,r⟩:=h
 exact⟨es,clock,hb,F,Nat.le_trans hs hn,r⟩
theorem MapEx.set {w:World}{k:TypeId}{b n t g i:Nat}{u:Value}{cs:Array Value}{Q:Value->Value->Prop}(h:MapEx w k b n Q) (h':St w t g cs):MapEx (w.setCell ⟨g,i,none⟩ u) k b n Q:=by
 refine h.same (Below.heap_setCell _ _ _ _ ?_)
 intro e
 obtain⟨es,clock,hb,_⟩:=h
 have h2:w.heap[g]?=_:=h'
 rw[show b=g from e,h2] at hb
 cases hb
theorem MapEx.update {w:World}{k t e:TypeId}{b n:Nat}{Q Q':Value->Value->Prop}(h:MapEx w k b n Q) (K:Keyed Tryz.prog k) (ht:Tryz.prog.underlying t=some (.map k e)) (hn:n<maxLen)
  {key val:Value}{kl:Lit}(hkey:keyOf Tryz.prog k key=some kl) (hnew:∀y,¬Q key y) (hQ:∀x y,Q x y->Q' x y) (hv:Q' key val) (hback:∀x y,Q' x y->x≠key->∃y',Q x y'):
  ∃w',(Instr.mapUpdate t (.map (some b)) key val).run Tryz.prog w=.ok () w'/\MapEx w' k b (n+1) Q'/\w.grownBy w' (some b):=by
 obtain⟨es,clock,hb,F,hs,hq,hall⟩:=h
 have hno:∀x∈es.toList,x.key≠key:=fun x hx e0=>hnew x.val (by rw[<-e0];exact hq x hx)
 obtain⟨F1,_,_⟩:=F.stay (R':=anyR) (fun x hx z hz=>hz)
 have hrd:WideElems.rd Tryz.prog k anyR ⟨key,val,clock⟩=some (kl,.held val):=by unfold WideElems.rd anyR;rw[hkey];rfl
 rcases K.find w hkey es.toList F.keys with ⟨h1,h2⟩|⟨j,e0,h1,h2,h3⟩
 ·refine⟨setBlock w b (.map (es.push ⟨key,val,clock⟩) (clock+1)),?_,⟨es.push ⟨key,val,clock⟩,clock+1,heap_setBlock_same hb _,⟨by simp;omega,stamped_push F.stamped h2,?_⟩,by simp;omega,fun x hx=>?_,fun x y hx=>?_⟩,⟨rfl,rfl,rfl,by simp[setBlock],fun i _ hi=>heap_setBlock_other hb _ (fun e=>hi (by rw[e]))⟩⟩
  ·simp[Instr.mapUpdate,run_underlying ht,MapKept.run_getObj_map hb,K.check w false hkey,h1,MapKept.run_setObj_map _ hb,Result.andThen,setBlock]
  ·intro x hx
   simp only[Array.toList_push,List.mem_append,List.mem_singleton] at hx
   rcases hx with hx|rfl
   ·exact F1.reads x hx
   ·exact⟨_,hrd⟩
  ·simp only[Array.toList_push,List.mem_append,List.mem_singleton] at hx
   rcases hx with hx|rfl
   ·exact hQ _ _ (hq x hx)
   ·exact hv
  ·by_cases e0:x=key
   ·exact⟨⟨key,val,clock⟩,by rw[Array.toList_push];exact List.mem_append_right _ (List.mem_singleton.2 rfl),e0.symm⟩
   ·obtain⟨y',hy⟩:=hback x y hx e0
    obtain⟨e1,h4,h5⟩:=hall x y' hy
    exact⟨e1,by rw[Array.toList_push];exact List.mem_append_left _ h4,h5⟩
 ·exact absurd h3 (hno e0 (List.mem_of_getElem? h2))
theorem MapEx.grown_own {w w':World}{B t' size n k b N:Nat}{v:Value}{xs:List Value}{Q:Value->Value->Prop}(h:MapEx w k b N Q) (ho:w.ownsRow B t' size v n xs) (hg:w.grownBy w' v.ownBlock):MapEx w' k b N Q:=by
 refine h.same (hg.block b h.lt (fun e=>?_))
 obtain⟨c,fz,hc⟩:=zaI ho b e.symm
 obtain⟨es,clock,hb,_⟩:=h
 rw[hc] at hb
 cases hb
theorem zc0 (w:World) {ops:Array Oper}{rest:List Oper}{o:Oper}{a:Act}{Q:Exit->Act->World->Prop}
  (hg:o.guard=none) (m x v:Operand) (t:TypeId) (hop:o.op=Op.mapUpdate t m x v)
  (k e:TypeId) (K:Keyed Tryz.prog k) (ht:Tryz.prog.underlying t=some (.map k e)) (b n:Nat) (Q0 Q1:Value->Value->Prop)
  (hm:a.eval m=.map (some b)) (hown:MapEx w k b n Q0) (hn:n<maxLen) (key val:Value) (kl:Lit) (hx:a.eval x=key) (hv:a.eval v=val) (hkey:keyOf Tryz.prog k key=some kl)
  (hnew:∀y,¬Q0 key y) (hQ:∀x y,Q0 x y->Q1 x y) (hval:Q1 key val) (hback:∀x y,Q1 x y->x≠key->∃y',Q0 x y')
  (hK:∀w',MapEx w' k b (n+1) Q1->w.grownBy w' (some b)->wpList Tryz.prog ops Q rest (a.put o.dst undef) w'):
  wpList Tryz.prog ops Q (o :: rest) a w:=by
 refine wpList_plain hg fun K' hK'=>?_
 obtain⟨w',hrun,r1,r2⟩:=hown.update K ht hn hkey hnew hQ hval hback
 unfold Oper.wp
 simp[execOp,hop,hm,hx,hv,hrun,Result.andThen]
 exact hK' _ _ (hK w' r1 r2)
theorem wf64 {n:Int}(h:-9223372036854775808<=n/\n<=9223372036854775807):(Lit.int .i64 n).wf=true:=by
 simp[Lit.wf,IntKind.min,IntKind.max,IntKind.bits,IntKind.signed];omega
theorem zkK (n:Nat) (h:n<18446744073709551616):(Lit.int .u64 (n:Int)).wf=true:=by
 simp[Lit.wf,IntKind.min,IntKind.max,IntKind.bits,IntKind.signed];omega
end Go.Proofs.YtjehgdjlncofeaaGreat
