import Derived.Test.YtkkhakmdjinenaaGreatZDBase
set_option linter.all false
set_option maxRecDepth 100000
namespace Go.Proofs.YtkkhakmdjinenaaGreat
open Go.RowKit
def kY(w:World)(a:Option Addr)(n:Nat)(z:Nat->Int):Prop:=0<n->∃g off,a=some ⟨g,off,none⟩/\g<w.heap.size/\∀j,j<n->w.cell? ⟨g,off+j,none⟩=some (.int .i64 (z j))
theorem kY.below{w w':World}{a:Option Addr}{n:Nat}{z:Nat->Int}(h:kY w a n z)(k:Below w.heap.size w w'):kY w' a n z:=by
 intro h0;obtain⟨g,off,e,hg,hc⟩:=h h0;have:=k.size;exact⟨g,off,e,by omega,fun j hj=>(k.cell (p:=⟨g,off+j,none⟩) hg).trans (hc j hj)⟩
theorem zne(b o j:Nat):(⟨b,o,none⟩:Addr).add j=⟨b,o+j,none⟩:=by unfold Addr.add;split <;> simp_all
