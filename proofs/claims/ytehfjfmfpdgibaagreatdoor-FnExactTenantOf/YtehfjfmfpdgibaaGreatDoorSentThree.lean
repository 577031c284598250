import Derived.Test.YtehfjfmfpdgibaaGreatDoorSentTwo
import Derived.Test.YtehfjfmfpdgibaaGreatDoorImplTenantOf
namespace Go.Proofs.YtehfjfmfpdgibaaGreatDoor
open Go.ChangeShapes Go.WideShapes Go.ChangeAt Go.RowKit
theorem gTena : Tryz.prog.globalNamed "loop.example/g00265/impl.errNoTenant" = some 0 := by kernel_rfl
theorem gTenaType : (Tryz.prog.globals[0]?).map (·.type) = some 60 := by kernel_rfl
theorem gs3_of {W : World} (h : laidMetH Tryz.prog [("loop.example/g00265/impl.errNoTenant", Rows.laid_loop_example_g00265_impl_errNoTenant), ("loop.example/g00265/impl.errNoSnap", Rows.laid_loop_example_g00265_impl_errNoSnap), ("loop.example/g00265/impl.errNoVersion", Rows.laid_loop_example_g00265_impl_errNoVersion)] W) : GS W /\ GSx 0 W := by
 have h2 : laidMet Tryz.prog [("loop.example/g00265/impl.errNoTenant", Rows.laid_loop_example_g00265_impl_errNoTenant), ("loop.example/g00265/impl.errNoSnap", Rows.laid_loop_example_g00265_impl_errNoSnap), ("loop.example/g00265/impl.errNoVersion", Rows.laid_loop_example_g00265_impl_errNoVersion)] W := h
 obtain ⟨a2, s2, hv2, -⟩ := laid_sentinel h2 gTena gTenaType Tryz.underlying60 sentRow2 Tryz.underlying292 Tryz.underlying308 rfl rfl Tryz.underlying9 sentCells2 sentCellsS2
 refine ⟨gs_of (laidMet.tail h2), _, _, by simpa using World.var?_cell gTena hv2 0⟩
noncomputable def sentLow3 : Nat := (World.holding Tryz.prog default ⟨#[], #[], []⟩).heap.size
noncomputable def sentWorld3 (os : Os) : World :=
 let w0 := World.holding Tryz.prog os ⟨#[.cells #[.string (litText Rows.laid_loop_example_g00265_impl_errNoSnap)] 308, .cells #[.string (litText Rows.laid_loop_example_g00265_impl_errNoVersion)] 308, .cells #[.string (litText Rows.laid_loop_example_g00265_impl_errNoTenant)] 308], #[], []⟩
 { w0 with heap := putSent (putSent (putSent w0.heap 2 sentLow3) 1 (sentLow3 + 1)) 0 (sentLow3 + 2) }
theorem varsSent3 : varsRowed Tryz.prog ["loop.example/g00265/impl.errNoSnap", "loop.example/g00265/impl.errNoVersion", "loop.example/g00265/impl.errNoTenant"] = true := by kernel_rfl
end Go.Proofs.YtehfjfmfpdgibaaGreatDoor
