import Derived.Test.YtehfjfmfpdgibaaGreatDoorPack4
import Derived.Test.YtehfjfmfpdgibaaGreatDoorPack5
import Derived.Test.YtehfjfmfpdgibaaGreatDoorReader2
namespace Go.Proofs.YtehfjfmfpdgibaaGreatDoor
open Go.RowKit
theorem grown_ownR {w0 w1 w2 : World} {q : Nat} {row : Option Nat} (h : w0.grownBy w1 (some q)) (hg : w1.grownBy w2 row) (hr : ∀ g, row = some g -> w0.heap.size <= g) : w0.grownBy w2 (some q) :=
 ⟨hg.os.trans h.os, hg.tape.trans h.tape, hg.output.trans h.output, Nat.le_trans h.size hg.size, fun k hk hne => by
   rw [hg.block k (Nat.lt_of_lt_of_le hk h.size) (fun e => by have := hr k e.symm; omega)]
   exact h.block k hk hne⟩
end Go.Proofs.YtehfjfmfpdgibaaGreatDoor
