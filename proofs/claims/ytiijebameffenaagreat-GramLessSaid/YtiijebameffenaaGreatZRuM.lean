import Derived.Test.YtiijebameffenaaGreatZDBase
set_option linter.all false
namespace Go.Proofs.YtiijebameffenaaGreat
open Go.RowKit
def lb(w:World)(a:Option Addr)(n:Nat)(z:Nat->Int):Prop:=0<n->∃g off,a=some ⟨g,off,none⟩/\g<w.heap.size/\∀j,j<n->w.cell? ⟨g,off+j,none⟩=some (.int .i64 (z j))
theorem lb.below{w w':World}{a:Option Addr}{n:Nat}{z:Nat->Int}(h:lb w a n z)(k:Below w.heap.size w w'):lb w' a n z:=by
 intro h0;obtain⟨g,off,e,hg,hc⟩:=h h0;have:=k.size;exact⟨g,off,e,by omega,fun j hj=>(k.cell (p:=⟨g,off+j,none⟩) hg).trans (hc j hj)⟩
structure Ru where
 nm:ByteArray
 k:Int
 rx:ByteArray
def dI(t:Ru):List Value:=[.string t.nm,.int .i64 t.k,.string t.rx]
def yS(l:List Ru):List Value:=l.flatMap dI
theorem ziS(l:List Ru):(yS l).length=l.length*3:=by
 induction l with
 | nil=>rfl
 | cons x l ih=>simp[yS,dI] at ih⊢;omega
theorem OU(l:List Ru)(i:Nat)(h:i<l.length)(j:Nat)(hj:j<3):(yS l)[i*3+j]?=(dI l[i])[j]?:=by
 induction l generalizing i with
 | nil=>simp at h
 | cons x l ih=>
  have hc:(dI x).length=3:=by simp[dI]
  show (dI x++yS l)[i*3+j]?=_
  match i,h with
  | 0,_=>
   rw[Nat.zero_mul,Nat.zero_add,List.getElem?_append_left (by omega)];rfl
  | i+1,h=>
   rw[List.getElem?_append_right (by omega),hc,show (i+1)*3+j-3=i*3+j by omega,ih i (by simpa using h)];rfl
def ka(w:World)(a:Option Addr)(l:List Ru):Prop:=0<l.length->∃g off,a=some ⟨g,off,none⟩/\g<w.heap.size/\∀j,j<l.length*3->w.cell? ⟨g,off+j,none⟩=(yS l)[j]?
theorem ka.below{w w':World}{a:Option Addr}{l:List Ru}(h:ka w a l)(k:Below w.heap.size w w'):ka w' a l:=by
 intro h0;obtain⟨g,off,rfl,hg,hc⟩:=h h0;have:=k.size;exact⟨g,off,rfl,by omega,fun j hj=>(k.cell (p:=⟨g,off+j,none⟩) hg).trans (hc j hj)⟩
theorem ka.get{w:World}{a:Option Addr}{l:List Ru}(h:ka w a l)(k:Nat)(hk:k<l.length):
  ∃g off,a=some ⟨g,off,none⟩/\g<w.heap.size/\w.cell? ⟨g,off+k*3,none⟩=some (.string l[k].nm)/\w.cell? ⟨g,off+k*3+1,none⟩=some (.int .i64 l[k].k)/\w.cell? ⟨g,off+k*3+2,none⟩=some (.string l[k].rx):=by
 obtain⟨g,off,rfl,hg,hc⟩:=h (by omega);refine⟨g,off,rfl,hg,?_,?_,?_⟩
 ·have:=OU l k hk 0 (by omega);rw[hc _ (by omega)];exact this
 all_goals
  rw[Nat.add_assoc,hc _ (by omega),OU l k hk _ (by omega)]
  rfl
end Go.Proofs.YtiijebameffenaaGreat
