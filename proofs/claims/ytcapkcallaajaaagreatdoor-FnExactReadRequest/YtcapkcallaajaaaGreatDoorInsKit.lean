import Derived.Test.YtcapkcallaajaaaGreatDoorPack1
import Derived.Test.YtcapkcallaajaaaGreatDoorPack6
import Derived.Shelf.Spec.SlicesInsert
import Derived.Lib.AppendZerosOnto
import Derived.Laws.NewBlocks
import Derived.Deep.RegionLaw
namespace Go.Proofs.YtcapkcallaajaaaGreatDoor
open Go.RowKit Go.Lib
end Go.Proofs.YtcapkcallaajaaaGreatDoor
