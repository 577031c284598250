import Derived.Test.YtjlhmkmhehcmkaaGreatPack1
import Derived.Shelf.SlicesE.Clone
import Derived.Shelf.SlicesE.Reverse
import Derived.Lib.OwnBridge
namespace Go.Proofs.YtjlhmkmhehcmkaaGreat
open Go.Shelf
def Tryz.lClone_ren : Go.Shelf.Ren := ⟨fun | 41 => 65 | n => n, fun | 4 => 4 | 22 => 22 | 23 => 2 | n => n, fun | n => n⟩
theorem Tryz.lClone : SlLaysE0.n41 Tryz.prog Tryz.lClone_ren := {
 mixed := by kernel_rfl
 f41 := ⟨Tryz.f65.name, by decide, Tryz.func65.trans (congrArg some (by kernel_rfl))⟩
 t4 := Tryz.underlying4
 a4 := Tryz.isAgg4
 z4 := Tryz.sizeOf4
 v4 := Tryz.zeroValue4
 t22 := Tryz.underlying22
 a22 := Tryz.isAgg22
 z22 := Tryz.sizeOf22
 v22 := Tryz.zeroValue22 }
def Tryz.lReverse_ren : Go.Shelf.Ren := ⟨fun | 35 => 143 | n => n, fun | 0 => 0 | 3 => 3 | 4 => 4 | 22 => 22 | 23 => 2 | n => n, fun | n => n⟩
theorem Tryz.lReverse : SlLaysE.n35 Tryz.prog Tryz.lReverse_ren := {
 mixed := by kernel_rfl
 f35 := ⟨Tryz.f143.name, by decide, Tryz.func143.trans (congrArg some (by kernel_rfl))⟩
 t0 := Tryz.underlying0
 a0 := Tryz.isAgg0
 z0 := Tryz.sizeOf0
 v0 := Tryz.zeroValue0
 t3 := Tryz.underlying3
 a3 := Tryz.isAgg3
 z3 := Tryz.sizeOf3
 v3 := Tryz.zeroValue3
 t4 := Tryz.underlying4
 a4 := Tryz.isAgg4
 z4 := Tryz.sizeOf4
 v4 := Tryz.zeroValue4
 t22 := Tryz.underlying22
 a22 := Tryz.isAgg22
 z22 := Tryz.sizeOf22
 v22 := Tryz.zeroValue22
 a23 := Tryz.isAgg2
 z23 := Tryz.sizeOf2 }
end Go.Proofs.YtjlhmkmhehcmkaaGreat