import Derived.Test.YtidhnmmhniiolaaDoorPack1
import Derived.Shelf.SlicesE.Clone
import Derived.Shelf.SlicesE.Reverse
import Derived.Lib.OwnBridge
namespace Go.Proofs.YtidhnmmhniiolaaDoor
open Go.Shelf
def Tryd.lClone_ren : Go.Shelf.Ren := ⟨fun | 41 => 18 | n => n, fun | 4 => 4 | 22 => 25 | 23 => 2 | n => n, fun | n => n⟩
theorem Tryd.lClone : SlLaysE0.n41 Tryd.prog Tryd.lClone_ren := {
  mixed := by kernel_rfl
  f41 := ⟨Tryd.f18.name, by decide, Tryd.func18.trans (congrArg some (by kernel_rfl))⟩
  t4 := Tryd.underlying4
  a4 := Tryd.isAgg4
  z4 := Tryd.sizeOf4
  v4 := Tryd.zeroValue4
  t22 := Tryd.underlying25
  a22 := Tryd.isAgg25
  z22 := Tryd.sizeOf25
  v22 := Tryd.zeroValue25 }
def Tryd.lReverse_ren : Go.Shelf.Ren := ⟨fun | 35 => 84 | n => n, fun | 0 => 0 | 3 => 3 | 4 => 4 | 22 => 25 | 23 => 2 | n => n, fun | n => n⟩
theorem Tryd.lReverse : SlLaysE.n35 Tryd.prog Tryd.lReverse_ren := {
  mixed := by kernel_rfl
  f35 := ⟨Tryd.f84.name, by decide, Tryd.func84.trans (congrArg some (by kernel_rfl))⟩
  t0 := Tryd.underlying0
  a0 := Tryd.isAgg0
  z0 := Tryd.sizeOf0
  v0 := Tryd.zeroValue0
  t3 := Tryd.underlying3
  a3 := Tryd.isAgg3
  z3 := Tryd.sizeOf3
  v3 := Tryd.zeroValue3
  t4 := Tryd.underlying4
  a4 := Tryd.isAgg4
  z4 := Tryd.sizeOf4
  v4 := Tryd.zeroValue4
  t22 := Tryd.underlying25
  a22 := Tryd.isAgg25
  z22 := Tryd.sizeOf25
  v22 := Tryd.zeroValue25
  a23 := Tryd.isAgg2
  z23 := Tryd.sizeOf2 }
end Go.Proofs.YtidhnmmhniiolaaDoor
