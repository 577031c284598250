import Derived.Test.YtehfjfmfpdgibaaGreatDoorPack1
import Derived.Lib.UnsafeStr
import Derived.Lib.BufferWrite
import Derived.Lib.Strings
import Derived.Laws.MakeOwn
namespace Go.Proofs.YtehfjfmfpdgibaaGreatDoor
open Go.RowKit
end Go.Proofs.YtehfjfmfpdgibaaGreatDoor
