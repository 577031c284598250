import Derived.Test.YtjobhigmdaiinaaGreatPack1
import Derived.Test.YtjobhigmdaiinaaGreatPack3
import Derived.Test.YtjobhigmdaiinaaGreatPack4
import Derived.Test.YtjobhigmdaiinaaGreatPack22
import Derived.Test.YtjobhigmdaiinaaGreatWithRoute
import Derived.Test.YtjobhigmdaiinaaGreatPack37
import Derived.Test.YtjobhigmdaiinaaGreatPack38
import Derived.Test.YtjobhigmdaiinaaGreatInsOne
import Derived.Deep.RegionHeld3
namespace Go.Proofs.YtjobhigmdaiinaaGreat
open Go.RowKit
theorem keepL{w1 X:World}{b o:Nat}{v:Value}(hc:w1.cell? ⟨b,o,none⟩=some v)(hb:Below w1.heap.size w1 X):X.cell? ⟨b,o,none⟩=some v:=by
 rw[hb.cell (p:=⟨b,o,none⟩) (block_lt_of_cell hc)];exact hc
theorem z71{w:World}{base n size:Nat}{e:TypeId}{v:Value}{xs:List Value}(h:w.ownsRow base e size v n xs):∃a c,v=.slice a n c:=by
 rcases own_kinds h with⟨h1,h2⟩|⟨g9,c9,h1,_⟩
 ·exact⟨none,0,by rw[h1,h2]⟩
 ·exact⟨_,c9,h1⟩
end Go.Proofs.YtjobhigmdaiinaaGreat
