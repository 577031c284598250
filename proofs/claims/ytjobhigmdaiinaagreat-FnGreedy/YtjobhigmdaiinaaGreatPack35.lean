import Derived.Test.YtjobhigmdaiinaaGreatPack0
import Derived.Test.YtjobhigmdaiinaaGreatPack1
import Derived.Test.YtjobhigmdaiinaaGreatPack4
import Derived.Deep.LoopGhost
import Derived.BigQuiet
namespace Go.Proofs.YtjobhigmdaiinaaGreat
open Go.RowKit
end Go.Proofs.YtjobhigmdaiinaaGreat
