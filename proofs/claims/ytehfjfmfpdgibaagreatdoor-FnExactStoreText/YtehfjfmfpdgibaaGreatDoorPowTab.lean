import Derived.Test.YtehfjfmfpdgibaaGreatDoorPack16
import Derived.Test.YtehfjfmfpdgibaaGreatDoorPack20
import Derived.Test.YtehfjfmfpdgibaaGreatDoorCards
import Derived.Test.YtehfjfmfpdgibaaGreatDoorTie
import Derived.ProofKit
import Derived.OpenShut
import Derived.OpenVars
import Derived.Deep.DeepHandedRow
import Derived.Lib.LaidTab
import Derived.LaidSub
namespace Go.Proofs.YtehfjfmfpdgibaaGreatDoor
open Go.ChangeShapes Go.WideShapes Go.ChangeAt Go.RowKit
theorem gPow : Tryz.prog.globalNamed "internal/strconv.uint64pow10" = some 4 := by kernel_rfl
theorem gPowType : (Tryz.prog.globals[4]?).map (·.type) = some 263 := by kernel_rfl
theorem cellsPow : Tryz.prog.cellsOf 263 = 20 := by kernel_rfl
theorem cellsU64 : Tryz.prog.cellsOf 236 = 1 := by kernel_rfl
def litCells : DataW Unit -> Array Value
 | .agg l => (l.map fun | .lit (.int k z) => Value.int k z | _ => Value.bool false).toArray
 | _ => #[]
def putTab (h : Array Obj) (k : Nat) (cs : Array Value) : Array Obj := h.modify k fun
 | .cells _ t frozen => .cells cs t frozen
 | o => o
end Go.Proofs.YtehfjfmfpdgibaaGreatDoor
