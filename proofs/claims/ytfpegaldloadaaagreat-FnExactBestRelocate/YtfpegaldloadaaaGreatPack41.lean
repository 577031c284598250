import Derived.Test.YtfpegaldloadaaaGreatPack2
import Derived.Test.YtfpegaldloadaaaGreatPack11
import Derived.Test.YtfpegaldloadaaaGreatPack13
import Derived.Test.YtfpegaldloadaaaGreatPack25
import Derived.Test.YtfpegaldloadaaaGreatPack29
namespace Go.Proofs.YtfpegaldloadaaaGreat
open Go.RowKit
def SpecOkN (w : World) (v : Int) (f : Bool) (T : List RT) (L : List Int) (e : Ending) (w' : World) : Prop := ∃ ra rn rc la ln lc S, e = .returned (.tuple #[.agg #[.slice ra rn rc, .slice la ln lc], .int .i64 v, .bool f]) /\ Below w.heap.size w w' /\ S.length = rn /\ L.length = ln /\ S.map RT.key = T.map RT.key /\ PO w' w.heap.size (.slice ra rn rc) S (.slice la ln lc) L
end Go.Proofs.YtfpegaldloadaaaGreat
