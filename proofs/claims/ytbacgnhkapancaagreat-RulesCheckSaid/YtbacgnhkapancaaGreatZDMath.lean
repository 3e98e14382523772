import Derived.Test.YtbacgnhkapancaaGreatZOr
import Derived.Test.YtbacgnhkapancaaGreatZQThom
import Derived.Deep.RegionHeld
import Derived.Deep.RegionLaw
import Derived.StillTailTactics
set_option linter.all false
set_option maxRecDepth 100000
namespace Go.Proofs.YtbacgnhkapancaaGreat
open Go.RowKit Go.Maps Go.WideElems Go.ChangeMaps Go.MapKept
theorem St.cell{w:World}{t g:Nat}{cs:Array Value}(h:St w t g cs)(i:Nat):w.cell? ⟨g,i,none⟩=cs[i]?:=cell_of_row w g i cs t _ h
theorem St.Ci{w:World}{t g:Nat}{cs:Array Value}(h:St w t g cs)(i:Nat):w.frozen? ⟨g,i,none⟩=false:=frozen_of_row w g i cs t h
end Go.Proofs.YtbacgnhkapancaaGreat
