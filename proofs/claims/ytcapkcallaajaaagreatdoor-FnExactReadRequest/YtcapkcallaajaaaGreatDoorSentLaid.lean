import Derived.Test.YtcapkcallaajaaaGreatDoorPack9
import Derived.Test.YtcapkcallaajaaaGreatDoorLiftOwn
import Derived.Test.YtcapkcallaajaaaGreatDoorCards
import Derived.Test.YtcapkcallaajaaaGreatDoorTie
import Derived.ProofKit
import Derived.OpenShut
import Derived.OpenVars
import Derived.Deep.DeepHandedRow
import Derived.LaidLaws
import Derived.Stop.LaidErr
namespace Go.Proofs.YtcapkcallaajaaaGreatDoor
open Go.ChangeShapes Go.WideShapes Go.ChangeAt Go.RowKit
theorem gSent : Tryz.prog.globalNamed "loop.example/g00265/impl.errForm" = some 0 := by kernel_rfl
theorem gSentType : (Tryz.prog.globals[0]?).map (·.type) = some 80 := by kernel_rfl
theorem sentStar : "*" ++ "errors.errorString" = "*errors.errorString" := by decide
theorem sentRow (u : TypeId) (h : Tryz.prog.typeName? 3 u = some "*errors.errorString") : u = 138 :=
 typeName_ptr_named (nm := "errors.errorString") (by rw [sentStar]; kernel_rfl) (by kernel_rfl) (by decide) u (by rw [sentStar]; exact h)
theorem sentCells : Tryz.prog.cellsOf 157 = 1 := by kernel_rfl
theorem sentCellsS : Tryz.prog.cellsOf 9 = 1 := by kernel_rfl
theorem ge_of {W : World} (h : laidMetH Tryz.prog [("loop.example/g00265/impl.errForm", Rows.laid_loop_example_g00265_impl_errForm)] W) : GE W := by
 have h2 : laidMet Tryz.prog [("loop.example/g00265/impl.errForm", Rows.laid_loop_example_g00265_impl_errForm)] W := h
 obtain ⟨a0, s0, hv0, hc0, hs0, hz0⟩ := laid_sentinel h2 gSent gSentType Tryz.underlying80 sentRow Tryz.underlying138 Tryz.underlying157 rfl rfl Tryz.underlying9 sentCells sentCellsS
 exact ⟨_, _, by simpa using World.var?_cell gSent hv0 0⟩
noncomputable def sentLow : Nat := (World.holding Tryz.prog default ⟨#[], #[], []⟩).heap.size
noncomputable def sentWorld (os : Os) : World :=
 let w0 := World.holding Tryz.prog os ⟨#[.cells #[.string ⟨#[116, 104, 101, 32, 114, 101, 113, 117, 101, 115, 116, 32, 105, 115, 32, 110, 111, 116, 32, 111, 102, 32, 105, 116, 115, 32, 102, 111, 114, 109]⟩] 157], #[], []⟩
 { w0 with heap := w0.heap.modify 0 fun
    | .cells _ t frozen => .cells #[.iface 138 (.pointer (some ⟨sentLow, 0, none⟩))] t frozen
    | o => o }
theorem varsSent : varsRowed Tryz.prog ["loop.example/g00265/impl.errForm"] = true := by kernel_rfl
end Go.Proofs.YtcapkcallaajaaaGreatDoor
