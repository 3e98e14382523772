import Derived.Test.YtcohjopbhopcgaaBase
import Derived.Test.YtcohjopbhopcgaaNumAt
namespace Go.Proofs.Ytcohjopbhopcgaa
open Go.ChangeShapes Go.WideShapes Go.ChangeAt Go.RowKit Go.Deep
set_option linter.unusedVariables false
set_option maxRecDepth 100000

theorem add_mid9 (b o j : Nat) : (⟨b, o, none⟩ : Addr).add j = ⟨b, o + j, none⟩ := by unfold Addr.add; split <;> simp_all

end Go.Proofs.Ytcohjopbhopcgaa
