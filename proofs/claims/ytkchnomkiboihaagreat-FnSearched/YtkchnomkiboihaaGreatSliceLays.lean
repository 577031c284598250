import Derived.Test.YtkchnomkiboihaaGreatPack1
import Derived.Shelf.SlicesE.Clone
import Derived.Shelf.SlicesE.Reverse
import Derived.Lib.OwnBridge
namespace Go.Proofs.YtkchnomkiboihaaGreat
open Go.Shelf
open Q
def Tryz.lClone_ren:Go.Shelf.Ren:=⟨fun|41=>83|n=>n,fun|4=>4|22=>24|23=>2|n=>n,fun|n=>n⟩
theorem Tryz.lClone:SlLaysE0.n41 Tryz.prog Tryz.lClone_ren:={
 mixed:=by kernel_rfl
 f41:=⟨Tryz.f83.name,by decide,Tryz.func83.trans (congrArg some (by kernel_rfl))⟩
 t4:=Tryz.underlying4
 a4:=Tryz.isAgg4
 z4:=Tryz.sizeOf4
 v4:=Tryz.zeroValue4
 t22:=Tryz.underlying24
 a22:=Tryz.isAgg24
 z22:=Tryz.sizeOf24
 v22:=Tryz.zeroValue24}
