import Derived.Test.YtohgbkajnhgnaaaZMCol
import Derived.Test.YtohgbkajnhgnaaaZRefClass
import Derived.Test.YtohgbkajnhgnaaaZTTrim
import Derived.BigRegion
import Derived.BigQuiet
import Derived.Deep.QuietTactic
namespace Go.Proofs.Ytohgbkajnhgnaaa
open Go.RowKit Go.Maps Go.WideElems Go.ChangeMaps Go.MapKept
set_option linter.unusedVariables false
set_option linter.unusedSimpArgs false


section
variable {V : World} {B b : Nat} {bs : List Nat} {v : Nat → Value} {vS : Value} {P : Pt} {w : World}
end
end Go.Proofs.Ytohgbkajnhgnaaa

namespace Go.Proofs.Ytohgbkajnhgnaaa
open Go.RowKit Go.Maps Go.WideElems Go.ChangeMaps Go.MapKept
set_option linter.unusedVariables false
set_option linter.unusedSimpArgs false


end Go.Proofs.Ytohgbkajnhgnaaa

namespace Go.Proofs.Ytohgbkajnhgnaaa
open Go.RowKit Go.Maps Go.WideElems Go.ChangeMaps Go.MapKept
set_option linter.unusedVariables false
set_option linter.unusedSimpArgs false

section
variable {V : World} {B b : Nat} {bs : List Nat} {v : Nat → Value} {vS : Value} {P : Pt} {w : World}
end
end Go.Proofs.Ytohgbkajnhgnaaa
