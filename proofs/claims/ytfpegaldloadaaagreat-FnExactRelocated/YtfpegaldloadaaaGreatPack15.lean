import Derived.Test.YtfpegaldloadaaaGreatPack0
import Derived.Test.YtfpegaldloadaaaGreatPack1
import Derived.Test.YtfpegaldloadaaaGreatPack5
import Derived.Deep.LoopGhost
import Derived.BigQuiet
namespace Go.Proofs.YtfpegaldloadaaaGreat
open Go.RowKit
end Go.Proofs.YtfpegaldloadaaaGreat
