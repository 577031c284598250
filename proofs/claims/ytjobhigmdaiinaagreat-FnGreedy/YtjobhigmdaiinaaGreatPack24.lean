import Derived.Test.YtjobhigmdaiinaaGreatPack22
import Derived.Test.YtjobhigmdaiinaaGreatPack23
namespace Go.Proofs.YtjobhigmdaiinaaGreat
end Go.Proofs.YtjobhigmdaiinaaGreat
namespace Go.Proofs.YtjobhigmdaiinaaGreat
open Go.RowKit
end Go.Proofs.YtjobhigmdaiinaaGreat
