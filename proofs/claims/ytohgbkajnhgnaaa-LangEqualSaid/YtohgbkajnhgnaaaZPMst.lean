import Derived.Test.YtohgbkajnhgnaaaZMUniq
import Derived.Test.YtohgbkajnhgnaaaZPBlk
import Derived.Deep.RegionHeld
import Derived.Deep.RegionHeld3
import Derived.OrdersHeld
namespace Go.Proofs.Ytohgbkajnhgnaaa
open Go.RowKit Go.Maps Go.WideElems Go.ChangeMaps Go.MapKept
set_option linter.unusedVariables false
set_option linter.unusedSimpArgs false


end Go.Proofs.Ytohgbkajnhgnaaa

namespace Go.Proofs.Ytohgbkajnhgnaaa
open Go.RowKit Go.Maps Go.WideElems Go.ChangeMaps Go.MapKept
set_option linter.unusedVariables false
set_option linter.unusedSimpArgs false



end Go.Proofs.Ytohgbkajnhgnaaa
