import Derived.Test.YtfpegaldloadaaaGreatPack1
import Derived.Shelf.SlicesE.Clone
import Derived.Shelf.SlicesE.Reverse
import Derived.Lib.OwnBridge
namespace Go.Proofs.YtfpegaldloadaaaGreat
open Go.Shelf
def Tryz.lClone_ren : Go.Shelf.Ren := ⟨fun | 41 => 77 | n => n, fun | 4 => 4 | 22 => 22 | 23 => 2 | n => n, fun | n => n⟩
theorem Tryz.lClone : SlLaysE0.n41 Tryz.prog Tryz.lClone_ren := {
 mixed := by kernel_rfl
 f41 := ⟨Tryz.f77.name, by decide, Tryz.func77.trans (congrArg some (by kernel_rfl))⟩
 t4 := Tryz.underlying4
 a4 := Tryz.isAgg4
 z4 := Tryz.sizeOf4
 v4 := Tryz.zeroValue4
 t22 := Tryz.underlying22
 a22 := Tryz.isAgg22
 z22 := Tryz.sizeOf22
 v22 := Tryz.zeroValue22 }
end Go.Proofs.YtfpegaldloadaaaGreat
