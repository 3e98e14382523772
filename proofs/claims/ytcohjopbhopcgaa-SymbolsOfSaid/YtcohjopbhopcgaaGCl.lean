import Derived.Test.YtcohjopbhopcgaaMem
import Derived.Test.YtcohjopbhopcgaaShelf
namespace Go.Proofs.Ytcohjopbhopcgaa
open Go.RowKit

set_option maxHeartbeats 1000000 in
set_option maxRecDepth 100000 in
theorem scl16_any (s : ByteArray) (h : s.size ≤ 100000) (w : World) : Calls Try.prog 18 #[.string s] w fun e w' => e = .returned (.string s) ∧ Below w.heap.size w w' := by
  have HC := Lib.hid (Try.stringslite_Clone s w (by omega))
  go_enter Try.func18, Try.ntmps18
  go_wp2_with (go_at_call 23; refine HC.out.mono ?_; rintro e w2 ⟨rfl, b2⟩)
  go_ret
  exact ⟨rfl, b2⟩
end Go.Proofs.Ytcohjopbhopcgaa
