import Derived.Test.YtohgbkajnhgnaaaZMCol
import Derived.Test.YtohgbkajnhgnaaaZPDvS
import Derived.Test.YtohgbkajnhgnaaaZTKeep
namespace Go.Proofs.Ytohgbkajnhgnaaa
set_option linter.unusedVariables false
set_option linter.unusedSimpArgs false

/-! ### From a state on, all texts have the same marks. -/
theorem markF_dead (D : Dd) : markF D (-1) = -1 := by unfold markF; rw [if_neg (by omega)]

/-! ### Two states of one automaton that no text tells apart. -/

/-! ### What is trimmed. -/

/-! ### What is put in order. -/
section
variable {D O : Dd} {C k : Nat} {l : List Nat}
end
end Go.Proofs.Ytohgbkajnhgnaaa

namespace Go.Proofs.Ytohgbkajnhgnaaa
set_option linter.unusedVariables false
set_option linter.unusedSimpArgs false


/-! ### One state for each block. -/
section
variable {O M : Dd} {C B : Nat} {f : Nat → Nat}
end

/-! ### One class for all that lead alike. -/
section
variable {M P : Dd} {C C' : Nat} {g : Nat → Nat}
end

/-! ### All states are reached. -/
end Go.Proofs.Ytohgbkajnhgnaaa

namespace Go.Proofs.Ytohgbkajnhgnaaa
set_option linter.unusedVariables false
set_option linter.unusedSimpArgs false

section
variable {X Y : Dd} {C D : Nat}

end
end Go.Proofs.Ytohgbkajnhgnaaa
