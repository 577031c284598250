import Derived.Test.YtehfjfmfpdgibaaGreatDoorPack1
import Derived.Test.YtehfjfmfpdgibaaGreatDoorPack5
import Derived.Shelf.Spec.SlicesInsert
import Derived.Lib.AppendZerosOnto
import Derived.Laws.NewBlocks
import Derived.Deep.RegionLaw
namespace Go.Proofs.YtehfjfmfpdgibaaGreatDoor
open Go.RowKit Go.Lib
theorem own_anyV {w : World} {base k : Nat} {v : Value} {e : TypeId} {size : Nat} {xs : List Value} (h : w.ownsRow base e size v k xs) : ∃ ao co, v = .slice ao k co := by
 obtain ⟨_, ⟨h1, h2⟩ | ⟨g', cap, cur, h2, _⟩⟩ := h
 · exact ⟨none, 0, by rw [h1, h2]⟩
 · exact ⟨_, _, h2⟩
end Go.Proofs.YtehfjfmfpdgibaaGreatDoor
