import Derived.Test.YtohgbkajnhgnaaaZPDvS
import Derived.StillTailTactics
namespace Go.Proofs.Ytohgbkajnhgnaaa
open Go.RowKit Go.Maps Go.WideElems Go.ChangeMaps Go.MapKept
set_option linter.unusedVariables false
set_option linter.unusedSimpArgs false

section
variable {D : Dd} {C N B0 b gT cT q cS cd : Nat} {Wb wr : World} {pb T L8 : List Nat} {P : Pt} {v : Nat → Value} {vS : Value} {aS : Option Addr}
end
end Go.Proofs.Ytohgbkajnhgnaaa

namespace Go.Proofs.Ytohgbkajnhgnaaa
open Go.RowKit Go.Maps Go.WideElems Go.ChangeMaps Go.MapKept
set_option linter.unusedVariables false
set_option linter.unusedSimpArgs false


end Go.Proofs.Ytohgbkajnhgnaaa
