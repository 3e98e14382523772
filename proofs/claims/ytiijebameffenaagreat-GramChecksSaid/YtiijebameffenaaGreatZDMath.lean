import Derived.Test.YtiijebameffenaaGreatZOr
import Derived.Test.YtiijebameffenaaGreatZQThom
import Derived.Deep.RegionHeld
import Derived.Deep.RegionLaw
import Derived.StillTailTactics
set_option linter.all false
set_option maxRecDepth 100000
namespace Go.Proofs.YtiijebameffenaaGreat
open Go.RowKit
variable {cs:Array Value}{g t:Nat}{w:World}
theorem St.cell(h:St w t g cs)(i:Nat):w.cell? ⟨g,i,none⟩=cs[i]?:=cell_of_row w g i cs t _ h
theorem St.FJ(h:St w t g cs)(i:Nat):w.frozen? ⟨g,i,none⟩=false:=frozen_of_row w g i cs t h
