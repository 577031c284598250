import Derived.Test.YtjobhigmdaiinaaGreatPack0
import Derived.Test.YtjobhigmdaiinaaGreatPack1
import Derived.Test.YtjobhigmdaiinaaGreatPack4
import Derived.Test.YtjobhigmdaiinaaGreatSliceLays
namespace Go.Proofs.YtjobhigmdaiinaaGreat
open Go.RowKit Go.Sort Go.Lib
theorem z98(b off c:Nat)(ids:List Int)(w:World)(hI:za0 w (some ⟨b,off,none⟩) ids)(hl:ids.length<=1048576):
 Calls Tryz.prog 53 #[.slice (some ⟨b,off,none⟩) ids.length c] w fun e w'=>∃g cap,e=.returned (.slice (some ⟨g,0,none⟩) ids.length cap)/\Below w.heap.size w w'/\w'.ownsRow w.heap.size 2 1 (.slice (some ⟨g,0,none⟩) ids.length cap) ids.length (ids.map (Value.int .i64)):=by
 have hi:=yo3;cases hq:Tryz.prog.info? 2 with
 |none=>rw[hq]at hi;simp at hi
 |some i0=>
  rw[hq]at hi;simp only[Option.map_some,Option.some.injEq,Prod.mk.injEq]at hi;refine(AnyE.slices_Clone Tryz.lClone i0 (Value.int .i64 0) 1 8 hq hi.1 hi.2.1 hi.2.2 rfl (by omega) Tryz.sizeOf2 b off ids.length c (ids.map (Value.int .i64)) w (by simp) (by unfold maxLen;omega) (by omega) ?_ ?_).mono ?_
  ·intro j u hu
   have hj:j<ids.length:=by
    rcases Nat.lt_or_ge j ids.length with h'|h'
    ·exact h'
    ·simp[List.getElem?_eq_none (by simpa using h':(ids.map (Value.int .i64)).length<=j)]at hu
   obtain⟨b',off',e,hc⟩:=hI j hj;simp at e;obtain⟨rfl,rfl⟩:=e;rw[hc,<-hu];simp[List.getD,hj]
  ·intro u hu
   simp only[List.mem_map]at hu;obtain⟨x,_,rfl⟩:=hu;rfl
  ·rintro e w' ⟨v',rfl,ho,hne,hb⟩
   have ho':w'.ownsRow w.heap.size 2 1 v' ids.length (ids.map (Value.int .i64)):=ho;obtain⟨g,cap,rfl,_⟩:=holds_of_ownsRow (enc:=Value.int .i64) ho' hne;exact⟨g,cap,rfl,hb,ho'⟩
end Go.Proofs.YtjobhigmdaiinaaGreat
namespace Go.Proofs.YtjobhigmdaiinaaGreat
open Go.RowKit
def yp7(w:World)(ok:Bool)(ids':List Int)(e:Ending)(w':World):Prop:=
 Below w.heap.size w w'/\((ok=false/\e=.returned (.tuple #[.slice none 0 0,.bool false]))∨
  (ok=true/\∃g cap,e=.returned (.tuple #[.slice (some ⟨g,0,none⟩) ids'.length cap,.bool true])/\w'.ownsRow w.heap.size 2 1 (.slice (some ⟨g,0,none⟩) ids'.length cap) ids'.length (ids'.map (Value.int .i64))))
end Go.Proofs.YtjobhigmdaiinaaGreat
