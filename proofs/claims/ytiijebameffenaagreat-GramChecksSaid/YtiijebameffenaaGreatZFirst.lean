import Derived.Test.YtiijebameffenaaGreatZDBase
import Derived.IntWalk
import Derived.Laws.Bits128
import Derived.Laws.BitsLemmas
import Derived.Laws.Unary
import Derived.Lib.TrailingZeros
set_option linter.all false
namespace Go.Proofs.YtiijebameffenaaGreat
open Go.RowKit
def sm(f:Nat->Nat):Nat->Nat
 | 0=>0
 | n+1=>sm f n+f n
def bt(p:Nat->Bool)(j:Nat)(i:Nat):Nat:=if i<64 then (if p (64*j+i) then 1 else 0) else 0
def least(p:Nat->Bool):Int:=match dg p 256 with|[]=>-1|x :: _=>(x:Int)
