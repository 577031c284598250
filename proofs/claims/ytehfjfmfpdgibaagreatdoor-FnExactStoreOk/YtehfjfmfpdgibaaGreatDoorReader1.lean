import Derived.Test.YtehfjfmfpdgibaaGreatDoorPack0
import Derived.Test.YtehfjfmfpdgibaaGreatDoorPack1
import Derived.Test.YtehfjfmfpdgibaaGreatDoorPack3
import Derived.Test.YtehfjfmfpdgibaaGreatDoorPack4
namespace Go.Proofs.YtehfjfmfpdgibaaGreatDoor
open Go.RowKit
theorem txt_drop (s : List UInt8) (k : Nat) : (txt s).extract k s.length = txt (s.drop k) := by
 apply ByteArray.ext
 simp [txt]
 exact List.take_of_length_le (by simp)
theorem txt_take (s : List UInt8) (k : Nat) : (txt s).extract 0 k = txt (s.take k) := by
 apply ByteArray.ext
 simp [txt]
end Go.Proofs.YtehfjfmfpdgibaaGreatDoor
