import Derived.Test.YtiijebameffenaaGreatZDBase
set_option linter.all false
namespace Go.Proofs.YtiijebameffenaaGreat
open Go.RowKit
variable {a:Option Addr}{w w':World}
def lT(w:World)(a:Option Addr)(n:Nat)(z:Nat->Int):Prop:=0<n->∃g off,a=some ⟨g,off,none⟩/\g<w.heap.size/\∀j,j<n->w.cell? ⟨g,off+j,none⟩=some (.int .i64 (z j))
theorem lT.below{n:Nat}{z:Nat->Int}(h:lT w a n z)(k:ϐ w w'):lT w' a n z:=by
 intro h0;obtain⟨g,off,e,hg,hc⟩:=h h0;have:=k.size;exact⟨g,off,e,by omega,fun j hj=>(k.cell (p:=⟨g,off+j,none⟩) hg).trans (hc j hj)⟩
structure Ru where
 nm:ByteArray
 k:Int
 rx:ByteArray
def eK(t:Ru):List Value:=[.string t.nm,.int .i64 t.k,.string t.rx]
def B5(l:List Ru):List Value:=l.flatMap eK
theorem zky(l:List Ru):(B5 l).length=l.length*3:=by
 induction l with
 | nil=>rfl
 | cons x l ih=>simp[B5,eK] at ih⊢;omega
theorem Rb(l:List Ru)(i:Nat)(h:i<l.length)(j:Nat)(hj:j<3):(B5 l)[i*3+j]?=(eK l[i])[j]?:=by
 induction l generalizing i with
 | nil=>simp at h
 | cons x l ih=>
  have hc:(eK x).length=3:=by simp[eK]
  show (eK x++B5 l)[i*3+j]?=_
  match i,h with
  | 0,_=>
   rw[Nat.zero_mul,Nat.zero_add,List.getElem?_append_left (by omega)];rfl
  | i+1,h=>
   rw[List.getElem?_append_right (by omega),hc,show (i+1)*3+j-3=i*3+j by omega,ih i (by simpa using h)];rfl
def jL(w:World)(a:Option Addr)(l:List Ru):Prop:=0<l.length->∃g off,a=some ⟨g,off,none⟩/\g<w.heap.size/\∀j,j<l.length*3->w.cell? ⟨g,off+j,none⟩=(B5 l)[j]?
theorem jL.below{l:List Ru}(h:jL w a l)(k:ϐ w w'):jL w' a l:=by
 intro h0;obtain⟨g,off,rfl,hg,hc⟩:=h h0;have:=k.size;exact⟨g,off,rfl,by omega,fun j hj=>(k.cell (p:=⟨g,off+j,none⟩) hg).trans (hc j hj)⟩
theorem jL.get{l:List Ru}(h:jL w a l)(k:Nat)(hk:k<l.length):
  ∃g off,a=some ⟨g,off,none⟩/\g<w.heap.size/\w.cell? ⟨g,off+k*3,none⟩=some (.string l[k].nm)/\w.cell? ⟨g,off+k*3+1,none⟩=some (.int .i64 l[k].k)/\w.cell? ⟨g,off+k*3+2,none⟩=some (.string l[k].rx):=by
 obtain⟨g,off,rfl,hg,hc⟩:=h (by omega);refine⟨g,off,rfl,hg,?_,?_,?_⟩
 ·have:=Rb l k hk 0 (by omega);rw[hc _ (by omega)];exact this
 all_goals
  rw[Nat.add_assoc,hc _ (by omega),Rb l k hk _ (by omega)]
  rfl
