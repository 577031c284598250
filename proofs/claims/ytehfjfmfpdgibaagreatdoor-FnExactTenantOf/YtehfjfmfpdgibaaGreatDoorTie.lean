/-
  DERIVED. GIVEN WITH THE SEED: THE PROGRAM's TIES (one call each: nine closed facts by the kernel) AND EACH ROW's TIE, after the 31st guide's Derived/Test/Toyas{Tie, Card}.lean. No idea stands in it: it is a product of the set-up. Laid BY PROGRAM, IN A SANDBOX (cutbox-door.mjs). By AI agents, Wed Nov 11 2026. No macro, syntax, notation, axiom, sorry.
-/
import Derived.Test.YtehfjfmfpdgibaaGreatDoorRows
import Derived.LaidByTextLater
import Derived.SevenTiedAt
import Derived.LaidSub
import Derived.LaidOnce
namespace Go.Proofs.YtehfjfmfpdgibaaGreatDoor
open Go
set_option maxRecDepth 100000
theorem seatTie1 : Tryz.prog.laidByTextLater [("math/bits.deBruijn32tab", Rows.laid_math_bits_deBruijn32tab), ("math/bits.deBruijn64tab", Rows.laid_math_bits_deBruijn64tab), ("internal/strconv.uint64pow10", Rows.laid_internal_strconv_uint64pow10), ("loop.example/g00265/impl.errNoTenant", Rows.laid_loop_example_g00265_impl_errNoTenant), ("loop.example/g00265/impl.errNoSnap", Rows.laid_loop_example_g00265_impl_errNoSnap), ("loop.example/g00265/impl.errNoVersion", Rows.laid_loop_example_g00265_impl_errNoVersion)] [.data, .data, .data, .sentinel, .sentinel, .sentinel] true :=
  Program.laidByTextLater_by_one 81 8 65 (by kernel_rfl) (by kernel_rfl) (by kernel_rfl) (by kernel_rfl) (by kernel_rfl) (by kernel_rfl) (fun _ _ => by kernel_rfl)
theorem noOwnUnsafe : Tryz.pinned.checked.prog.headLifts.contains "ownunsafe" = false := by kernel_rfl
theorem tie : Tryz.prog.laidByTextLater [("loop.example/g00265/impl.errNoSnap", Rows.laid_loop_example_g00265_impl_errNoSnap), ("loop.example/g00265/impl.errNoVersion", Rows.laid_loop_example_g00265_impl_errNoVersion)] [.sentinel, .sentinel] true :=
  Program.laidByTextLater.sub seatTie1 ["loop.example/g00265/impl.errNoSnap", "loop.example/g00265/impl.errNoVersion"] (by kernel_rfl) (by kernel_rfl)
theorem fnExactStoreOk_row_tie : Rows.fnExactStoreOkRow.laidByTextAt .later Tryz.pinned [.sentinel, .sentinel] true :=
  OpenClaim.laidByTextAt_later rfl rfl tie noOwnUnsafe
theorem fnExactReadStore_row_tie : Rows.fnExactReadStoreRow.laidByTextAt .later Tryz.pinned [.sentinel, .sentinel] true :=
  OpenClaim.laidByTextAt_later rfl rfl tie noOwnUnsafe
theorem tie2 : Tryz.prog.laidByTextLater [("loop.example/g00265/impl.errNoTenant", Rows.laid_loop_example_g00265_impl_errNoTenant), ("loop.example/g00265/impl.errNoSnap", Rows.laid_loop_example_g00265_impl_errNoSnap), ("loop.example/g00265/impl.errNoVersion", Rows.laid_loop_example_g00265_impl_errNoVersion)] [.sentinel, .sentinel, .sentinel] true :=
  Program.laidByTextLater.sub seatTie1 ["loop.example/g00265/impl.errNoTenant", "loop.example/g00265/impl.errNoSnap", "loop.example/g00265/impl.errNoVersion"] (by kernel_rfl) (by kernel_rfl)
theorem fnExactTenantOf_row_tie : Rows.fnExactTenantOfRow.laidByTextAt .later Tryz.pinned [.sentinel, .sentinel, .sentinel] true :=
  OpenClaim.laidByTextAt_later rfl rfl tie2 noOwnUnsafe
theorem fnExactPublishedOf_row_tie : Rows.fnExactPublishedOfRow.laidByTextAt .later Tryz.pinned [.sentinel, .sentinel, .sentinel] true :=
  OpenClaim.laidByTextAt_later rfl rfl tie2 noOwnUnsafe
theorem tie3 : Tryz.prog.laidByTextLater [("math/bits.deBruijn32tab", Rows.laid_math_bits_deBruijn32tab), ("math/bits.deBruijn64tab", Rows.laid_math_bits_deBruijn64tab), ("internal/strconv.uint64pow10", Rows.laid_internal_strconv_uint64pow10), ("loop.example/g00265/impl.errNoSnap", Rows.laid_loop_example_g00265_impl_errNoSnap), ("loop.example/g00265/impl.errNoVersion", Rows.laid_loop_example_g00265_impl_errNoVersion)] [.data, .data, .data, .sentinel, .sentinel] true :=
  Program.laidByTextLater.sub seatTie1 ["math/bits.deBruijn32tab", "math/bits.deBruijn64tab", "internal/strconv.uint64pow10", "loop.example/g00265/impl.errNoSnap", "loop.example/g00265/impl.errNoVersion"] (by kernel_rfl) (by kernel_rfl)
theorem fnExactStoreText_row_tie : Rows.fnExactStoreTextRow.laidByTextAt .later Tryz.pinned [.data, .data, .data, .sentinel, .sentinel] true :=
  OpenClaim.laidByTextAt_later rfl rfl tie3 noOwnUnsafe
theorem fnExactStoreOkUpto_row_tie : Rows.fnExactStoreOkUptoRow.laidByTextAt .later Tryz.pinned [.sentinel, .sentinel] true :=
  OpenClaim.laidByTextAt_later rfl rfl tie noOwnUnsafe
theorem fnExactTenantOfUpto_row_tie : Rows.fnExactTenantOfUptoRow.laidByTextAt .later Tryz.pinned [.sentinel, .sentinel, .sentinel] true :=
  OpenClaim.laidByTextAt_later rfl rfl tie2 noOwnUnsafe
theorem fnExactPublishedOfUpto_row_tie : Rows.fnExactPublishedOfUptoRow.laidByTextAt .later Tryz.pinned [.sentinel, .sentinel, .sentinel] true :=
  OpenClaim.laidByTextAt_later rfl rfl tie2 noOwnUnsafe
theorem fnExactStoreTextUpto_row_tie : Rows.fnExactStoreTextUptoRow.laidByTextAt .later Tryz.pinned [.data, .data, .data, .sentinel, .sentinel] true :=
  OpenClaim.laidByTextAt_later rfl rfl tie3 noOwnUnsafe
theorem fnExactReadStoreUpto_row_tie : Rows.fnExactReadStoreUptoRow.laidByTextAt .later Tryz.pinned [.sentinel, .sentinel] true :=
  OpenClaim.laidByTextAt_later rfl rfl tie noOwnUnsafe
end Go.Proofs.YtehfjfmfpdgibaaGreatDoor
