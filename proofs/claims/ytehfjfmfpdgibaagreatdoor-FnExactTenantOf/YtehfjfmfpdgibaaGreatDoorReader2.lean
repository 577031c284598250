import Derived.Test.YtehfjfmfpdgibaaGreatDoorPack1
import Derived.Test.YtehfjfmfpdgibaaGreatDoorPack4
import Derived.Lib.ConvBytes
namespace Go.Proofs.YtehfjfmfpdgibaaGreatDoor
open Go.RowKit
def bt (s : List UInt8) (i : Nat) : UInt8 := s.getD i 0
theorem txt_idx (s : List UInt8) (i : Nat) (h : i < (txt s).size) : (txt s)[i]'h = bt s i := by
 have hl : i < s.length := by rw [txt_size] at h; exact h
 unfold bt
 rw [List.getD_eq_getElem?_getD, List.getElem?_eq_getElem hl]
 simp [txt]
 rfl
end Go.Proofs.YtehfjfmfpdgibaaGreatDoor
