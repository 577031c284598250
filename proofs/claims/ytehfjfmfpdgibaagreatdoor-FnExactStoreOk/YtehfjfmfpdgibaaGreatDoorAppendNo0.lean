import Derived.Test.YtehfjfmfpdgibaaGreatDoorPack6
import Derived.Deep.AppendSrc
namespace Go.Proofs.YtehfjfmfpdgibaaGreatDoor
open Go.RowKit
theorem keepC {w1 X : World} {b o : Nat} {v : Value} (hc : w1.cell? ⟨b, o, none⟩ = some v) (hb : Below w1.heap.size w1 X) : X.cell? ⟨b, o, none⟩ = some v := by
 rw [hb.cell (p := ⟨b, o, none⟩) (block_lt_of_cell hc)]; exact hc
end Go.Proofs.YtehfjfmfpdgibaaGreatDoor
