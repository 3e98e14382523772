import Derived.Test.YtjehgdjlncofeaaGreatZPBlk
set_option linter.unusedVariables false
set_option linter.unusedSimpArgs false
set_option maxHeartbeats 1000000
set_option maxRecDepth 100000
open Go.Lib (hid)
namespace Go.Proofs.YtjehgdjlncofeaaGreat
section
variable {C N r i k c : Nat}{t : Nat → Nat → Nat}{m : Nat → Int}{A : Nat → Nat → Bool}
end
open Go.RowKit Go.Maps Go.WideElems Go.ChangeMaps Go.MapKept
def mrk8 (D:Dd) (i:Int):Int:=if 0<=i/\i<(D.m:Int) then D.q i.toNat else -1
theorem zcS (D:Dd) (i:Int) (w:World) (hD:DM w D) (hm:D.m<=100000):
  Calls Tryz.prog 15 #[.agg D.cD,.int .i64 i] w fun e w'=>e=.returned (.int .i64 (mrk8 D i))/\Below w.heap.size w w':=by
 have HB:=hid (And.intro (DBx.new hD) (al w (.cells D.cD 39)))
 clear hD
 go_enter Tryz.func15,Tryz.ntmps15
 go_upto_region 1 with fail
 generalize w.alloc (.cells D.cD 39)=W0 at HB⊢
 obtain⟨b0,hb0⟩:∃b0,w.heap.size=b0:=⟨_,rfl⟩
 have Hb0:=hid hb0
 rw[hb0] at HB
 rw[hb0]
 clear hb0
 have HF:=hid (show Below w.heap.size w W0 by rw[Hb0.out];exact HB.out.2)
 have f2:=HB.out.1.f2
 by_cases h0:0<=i
 ·by_cases h1:i<(D.m:Int)
  ·obtain⟨k,rfl⟩:∃k:Nat,i=k:=⟨i.toNat,by omega⟩
   have hk:k<D.m:=by omega
   obtain⟨g,off,e,hg,hc⟩:=HB.out.1.dm.rM (by omega)
   have c1:=hc k hk
   rw[e] at f2
   have i1:¬((D.m:Int)<=(k:Int)):=by omega
   have i2:¬((k:Int)<0):=by omega
   have HZ:Hid (mrk8 D (k:Int)=D.q k):=by show _=_;unfold mrk8;rw[if_pos ⟨by omega,by omega⟩];simp
   clear hc e
   go_wp2_with fail
   go_ret
   exact⟨by rw[HZ.out];rfl,HF.out⟩
  ·have i1:(D.m:Int)<=i:=by omega
   have i2:¬(i<0):=by omega
   have HZ:Hid (mrk8 D i=-1):=by show _=_;unfold mrk8;rw[if_neg (by omega)]
   go_wp2_with fail
   go_ret
   exact⟨by rw[HZ.out];rfl,HF.out⟩
 ·have i1:i<0:=by omega
  have HZ:Hid (mrk8 D i=-1):=by show _=_;unfold mrk8;rw[if_neg (by omega)]
  go_wp2_with fail
  go_ret
  exact⟨by rw[HZ.out];rfl,HF.out⟩
section
variable {W0 w w' : World}{M N : Nat}{vO : Value}{gs : Nat → Nat}{A : Nat → Nat → Bool}
end
end Go.Proofs.YtjehgdjlncofeaaGreat
