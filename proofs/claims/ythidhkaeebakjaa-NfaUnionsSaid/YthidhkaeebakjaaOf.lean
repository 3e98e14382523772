import Derived.Test.YthidhkaeebakjaaSt
import Derived.LoopTactic
namespace Go.Proofs.Ythidhkaeebakjaa
open Go.RowKit

end Go.Proofs.Ythidhkaeebakjaa
