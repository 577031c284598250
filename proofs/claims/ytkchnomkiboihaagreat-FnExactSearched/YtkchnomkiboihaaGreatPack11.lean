import Derived.Test.YtkchnomkiboihaaGreatPack5
import Derived.Test.YtkchnomkiboihaaGreatSliceLays
set_option linter.unusedSimpArgs false
namespace Go.Proofs.YtkchnomkiboihaaGreat
open Value renaming slice→za,int→zc
open IntKind renaming i64→zb
open Go.RowKit Go.Sort Go.Lib
open Q
theorem z93(b off c:Nat)(ids:List Int)(w:World)(hI:za3 w (some ⟨b,off,none⟩) ids)(hl:ids.length<=1048576):
 Calls Tryz.prog 83 #[za (some ⟨b,off,none⟩) ids.length c] w fun e w'=>∃g cap,e=.returned (za (some ⟨g,0,none⟩) ids.length cap)/\Below w.heap.size w w'/\w'.ownsRow w.heap.size 2 1 (za (some ⟨g,0,none⟩) ids.length cap) ids.length (ids.map (zc zb)):=by
 have hi:=yg9;cases hq:Tryz.prog.info? 2 with
 |none=>rw[hq]at hi;simp at hi
 |some i0=>
  rw[hq]at hi;simp only[yC,xV,Prod.mk.injEq]at hi;refine(AnyE.slices_Clone Tryz.lClone i0 (zc zb 0) 1 8 hq hi.1 hi.2.1 hi.2.2 rfl (by omega) Tryz.sizeOf2 b off ids.length c (ids.map (zc zb)) w (by simp) (by unfold maxLen;omega) (by omega) ?_ ?_).mono ?_
  ·intro j u hu
   have hj:j<ids.length:=by
    rcases qc j ids.length with h'|h'
    ·exact h'
    ·simp[yb (by simpa using h':(ids.map (zc zb)).length<=j)]at hu
   obtain⟨b',off',e,hc⟩:=hI j hj;simp at e;obtain⟨rfl,rfl⟩:=e;rw[hc,<-hu];simp[List.getD,hj]
  ·intro u hu
   simp only[yy]at hu;obtain⟨x,_,rfl⟩:=hu;rfl
  ·rintro e w' ⟨v',rfl,ho,hne,hb⟩
   have ho':w'.ownsRow w.heap.size 2 1 v' ids.length (ids.map (zc zb)):=ho;obtain⟨g,cap,rfl,_⟩:=holds_of_ownsRow (enc:=zc zb) ho' hne;exact⟨g,cap,rfl,hb,ho'⟩
end Go.Proofs.YtkchnomkiboihaaGreat
namespace Go.Proofs.YtkchnomkiboihaaGreat
open Value renaming slice→za
open Go.RowKit
open Q
def yD8(w:World)(ok:Bool)(ids':List Int)(e:Ending)(w':World):Prop:=
 Below w.heap.size w w'/\((ok=false/\e=.returned (.tuple #[za none 0 0,.bool false]))∨
  (ok=true/\∃g cap,e=.returned (.tuple #[za (some ⟨g,0,none⟩) ids'.length cap,.bool true])/\w'.ownsRow w.heap.size 2 1 (za (some ⟨g,0,none⟩) ids'.length cap) ids'.length (ids'.map (Value.int .i64))))
