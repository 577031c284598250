import Derived.Test.YtenkeinigkahaaaDoorPack4
import Derived.Test.YtenkeinigkahaaaDoorPack5
import Derived.Test.YtenkeinigkahaaaDoorCards
import Derived.Test.YtenkeinigkahaaaDoorTie
import Derived.ProofKit
import Derived.OpenShut
import Derived.OpenVars
import Derived.Deep.DeepHandedRow
import Derived.Lib.LaidTab
namespace Go.Proofs.YtenkeinigkahaaaDoor
open Go.ChangeShapes Go.WideShapes Go.ChangeAt Go.RowKit

theorem gTab : Tryd.prog.globalNamed "loop.example/g00265/impl.crcHalves" = some 0 := by kernel_rfl
theorem gTabType : (Tryd.prog.globals[0]?).map (·.type) = some 48 := by kernel_rfl
theorem cellsTab : Tryd.prog.cellsOf 48 = 16 := by kernel_rfl
theorem cellsU4 : Tryd.prog.cellsOf 39 = 1 := by kernel_rfl
/-- What the row's list gives: the table's cells. -/
theorem tabW_of {W : World} (h : laidMetH Tryd.prog [("loop.example/g00265/impl.crcHalves", Rows.laid_loop_example_g00265_impl_crcHalves)] W) : TabW W := by
  have T : Lib.TabIs Tryd.prog W "loop.example/g00265/impl.crcHalves" .u32 [0, 498536548, 997073096, 651767980, 1994146192, 1802195444, 1303535960, 1342533948, 3988292384, 4027552580, 3604390888, 3412177804, 2607071920, 2262029012, 2685067896, 3183342108] :=
    Lib.tabIs_of_head (rest := []) gTab gTabType Tryd.underlying48 Tryd.underlying39 cellsU4 cellsTab h
  intro i hi
  have := T.cell gTab i (by simpa using hi)
  have he : ∀ i, i < 16 → ([0, 498536548, 997073096, 651767980, 1994146192, 1802195444, 1303535960, 1342533948, 3988292384, 4027552580, 3604390888, 3412177804, 2607071920, 2262029012, 2685067896, 3183342108] : List Int).getD i 0 = ((crcTab.getD i 0 : Nat) : Int) := by decide +kernel
  rw [← he i hi]
  exact this
/-- A world for the witness: the settled one, the table (block 0) as its initialiser lays it. -/
noncomputable def tabWorld (os : Os) : World :=
  { World.holding Tryd.prog os ⟨#[], #[], []⟩ with heap := (World.holding Tryd.prog os ⟨#[], #[], []⟩).heap.modify 0 fun
      | .cells _ t frozen => .cells #[.int .u32 0, .int .u32 498536548, .int .u32 997073096, .int .u32 651767980, .int .u32 1994146192, .int .u32 1802195444, .int .u32 1303535960, .int .u32 1342533948, .int .u32 3988292384, .int .u32 4027552580, .int .u32 3604390888, .int .u32 3412177804, .int .u32 2607071920, .int .u32 2262029012, .int .u32 2685067896, .int .u32 3183342108] t frozen
      | o => o }
theorem varsTab : varsRowed Tryd.prog ["loop.example/g00265/impl.crcHalves"] = true := by kernel_rfl

end Go.Proofs.YtenkeinigkahaaaDoor
