import Derived.Test.YtehfjfmfpdgibaaGreatDoorPack1
import Derived.Shelf.SlicesE.Clone
import Derived.Shelf.SlicesE.Reverse
import Derived.Lib.OwnBridge
namespace Go.Proofs.YtehfjfmfpdgibaaGreatDoor
open Go.Shelf
def Tryz.lClone_ren : Go.Shelf.Ren := ⟨fun | 41 => 110 | n => n, fun | 4 => 4 | 22 => 44 | 23 => 2 | n => n, fun | n => n⟩
theorem Tryz.lClone : SlLaysE0.n41 Tryz.prog Tryz.lClone_ren := {
 mixed := by kernel_rfl
 f41 := ⟨Tryz.f110.name, by decide, Tryz.func110.trans (congrArg some (by kernel_rfl))⟩
 t4 := Tryz.underlying4
 a4 := Tryz.isAgg4
 z4 := Tryz.sizeOf4
 v4 := Tryz.zeroValue4
 t22 := Tryz.underlying44
 a22 := Tryz.isAgg44
 z22 := Tryz.sizeOf44
 v22 := Tryz.zeroValue44 }
end Go.Proofs.YtehfjfmfpdgibaaGreatDoor
