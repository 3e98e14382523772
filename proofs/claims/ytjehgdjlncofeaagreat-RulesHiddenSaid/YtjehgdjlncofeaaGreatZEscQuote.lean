import Derived.Test.YtjehgdjlncofeaaGreatZClasses
set_option linter.unusedVariables false
set_option linter.unusedSimpArgs false
namespace Go.Proofs.YtjehgdjlncofeaaGreat
open Go.RowKit
def inB (s:ByteArray) (c:Nat):Bool:=s.data.toList.any fun x=>x.toNat == c
def isDig (c:Nat):Bool:=decide (48<=c) && decide (c<=57)
def isWord (c:Nat):Bool:=isDig c || (decide (97<=c) && decide (c<=122)) || (decide (65<=c) && decide (c<=90))
def isSpc (c:Nat):Bool:=c == 32 || c == 9 || c == 10 || c == 13
def classT (c:Nat):Nat:=if isSpc c then 1 else if isDig c then 2 else if isWord c || c == 95 then 3 else if 32<c/\c<127 then 4 else 0
def nameAt (i c:Nat):Bool:=classT c == 3 || (classT c == 2 && decide (i≠0))
def nameUp (s:ByteArray) (k:Nat):Bool:=(List.range k).all fun i=>nameAt i (s.data.toList.getD i 0).toNat
theorem zdp (s:ByteArray) (k:Nat) (h:k<s.size):nameUp s (k+1)=(nameUp s k && nameAt k s[k].toNat):=by
 unfold nameUp
 rw[List.range_succ,List.all_append]
 have e:s.data[k]?=some s[k]:=Array.getElem?_eq_getElem h
 simp[e]
theorem zdq (s:ByteArray) (k n:Nat) (h:k<=n) (hf:nameUp s k=false):nameUp s n=false:=by
 induction n with
 | zero=>
  have:k=0:=by omega
  subst this;exact hf
 | succ n ih=>
  by_cases e:k=n+1
  ·subst e;exact hf
  ·have:=ih (by omega)
   unfold nameUp at this⊢
   rw[List.range_succ,List.all_append,this];rfl
def nameT (s:ByteArray):Bool:=nameUp s s.size && decide (1<=s.size) && decide (s.size<=40)
end Go.Proofs.YtjehgdjlncofeaaGreat
