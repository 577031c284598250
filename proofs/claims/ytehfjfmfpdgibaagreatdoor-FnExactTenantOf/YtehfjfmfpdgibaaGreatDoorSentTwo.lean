import Derived.Test.YtehfjfmfpdgibaaGreatDoorPack15
import Derived.Test.YtehfjfmfpdgibaaGreatDoorPack16
import Derived.Test.YtehfjfmfpdgibaaGreatDoorCards
import Derived.Test.YtehfjfmfpdgibaaGreatDoorTie
import Derived.ProofKit
import Derived.OpenShut
import Derived.OpenVars
import Derived.Deep.DeepHandedRow
import Derived.LaidLaws
import Derived.Stop.LaidErr
namespace Go.Proofs.YtehfjfmfpdgibaaGreatDoor
open Go.ChangeShapes Go.WideShapes Go.ChangeAt Go.RowKit
theorem gSnap : Tryz.prog.globalNamed "loop.example/g00265/impl.errNoSnap" = some 2 := by kernel_rfl
theorem gVers : Tryz.prog.globalNamed "loop.example/g00265/impl.errNoVersion" = some 1 := by kernel_rfl
theorem gSnapType : (Tryz.prog.globals[2]?).map (·.type) = some 60 := by kernel_rfl
theorem gVersType : (Tryz.prog.globals[1]?).map (·.type) = some 60 := by kernel_rfl
theorem sentStar2 : "*" ++ "errors.errorString" = "*errors.errorString" := by decide
theorem sentRow2 (u : TypeId) (h : Tryz.prog.typeName? 3 u = some "*errors.errorString") : u = 292 :=
 typeName_ptr_named (nm := "errors.errorString") (by rw [sentStar2]; kernel_rfl) (by kernel_rfl) (by decide) u (by rw [sentStar2]; exact h)
theorem sentCells2 : Tryz.prog.cellsOf 308 = 1 := by kernel_rfl
theorem sentCellsS2 : Tryz.prog.cellsOf 9 = 1 := by kernel_rfl
theorem gs_of {W : World} (h : laidMetH Tryz.prog [("loop.example/g00265/impl.errNoSnap", Rows.laid_loop_example_g00265_impl_errNoSnap), ("loop.example/g00265/impl.errNoVersion", Rows.laid_loop_example_g00265_impl_errNoVersion)] W) : GS W := by
 have h2 : laidMet Tryz.prog [("loop.example/g00265/impl.errNoSnap", Rows.laid_loop_example_g00265_impl_errNoSnap), ("loop.example/g00265/impl.errNoVersion", Rows.laid_loop_example_g00265_impl_errNoVersion)] W := h
 obtain ⟨a0, s0, hv0, -⟩ := laid_sentinel h2 gSnap gSnapType Tryz.underlying60 sentRow2 Tryz.underlying292 Tryz.underlying308 rfl rfl Tryz.underlying9 sentCells2 sentCellsS2
 obtain ⟨a1, s1, hv1, -⟩ := laid_sentinel (laidMet.tail h2) gVers gVersType Tryz.underlying60 sentRow2 Tryz.underlying292 Tryz.underlying308 rfl rfl Tryz.underlying9 sentCells2 sentCellsS2
 exact ⟨⟨_, _, by simpa using World.var?_cell gSnap hv0 0⟩, ⟨_, _, by simpa using World.var?_cell gVers hv1 0⟩⟩
def litText : DataW Unit -> ByteArray
 | .iface _ (.ptr (.agg [.lit (.string s)])) => ⟨s.toArray⟩
 | _ => ⟨#[]⟩
def putSent (h : Array Obj) (k b : Nat) : Array Obj := h.modify k fun
 | .cells _ t frozen => .cells #[.iface 292 (.pointer (some ⟨b, 0, none⟩))] t frozen
 | o => o
end Go.Proofs.YtehfjfmfpdgibaaGreatDoor
