import Derived.Test.YthidhkaeebakjaaBits
import Derived.Test.YthidhkaeebakjaaChecked
import Derived.WalkKit
import Derived.WalkLawsBesides
import Derived.WalkSpells
import Derived.Outline
import Derived.Below
import Derived.Lib.Hide
namespace Go.Proofs.Ythidhkaeebakjaa
open Go.RowKit

end Go.Proofs.Ythidhkaeebakjaa
