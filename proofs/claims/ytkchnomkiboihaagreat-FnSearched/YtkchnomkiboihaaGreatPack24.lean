import Derived.Test.YtkchnomkiboihaaGreatPack4
import Derived.Test.YtkchnomkiboihaaGreatSliceLays
set_option linter.unusedSimpArgs false
namespace Go.Proofs.YtkchnomkiboihaaGreat
open Value renaming slice→za,int→ze
open IntKind renaming i64→zd
open Go.RowKit Go.Sort Go.Lib
open Q
theorem z73(b off c:Nat)(ids:List Int)(w:World)(hI:za3 w (some ⟨b,off,none⟩) ids)(hl:ids.length<=1048576):
 Calls Tryz.prog 83 #[za (some ⟨b,off,none⟩) ids.length c] w fun e w'=>∃g ac,e=.returned (za (some ⟨g,0,none⟩) ids.length ac)/\Below w.heap.size w w'/\w'.ownsRow w.heap.size 2 1 (za (some ⟨g,0,none⟩) ids.length ac) ids.length (ids.map (ze zd)):=by
 have hi:=yh7;cases hq:Tryz.prog.info? 2 with
 |none=>rw[hq]at hi;simp at hi
 |some i0=>
  rw[hq]at hi;simp only[yG,x7,qw]at hi;refine(AnyE.slices_Clone Tryz.lClone i0 (ze zd 0) 1 8 hq hi.1 hi.2.1 hi.2.2 rfl (by omega) Tryz.sizeOf2 b off ids.length c (ids.map (ze zd)) w (by simp) (by unfold maxLen;omega) (by omega) ?_ ?_).mono ?_
  ·intro j u hu
   have hj:j<ids.length:=by
    rcases qp j ids.length with h'|h'
    ·exact h'
    ·simp[yg (by simpa using h':(ids.map (ze zd)).length<=j)]at hu
   obtain⟨b',aR,e,hc⟩:=hI j hj;simp at e;obtain⟨rfl,rfl⟩:=e;rw[hc,<-hu];simp[List.getD,hj]
  ·intro u hu
   simp only[yF]at hu;obtain⟨x,_,rfl⟩:=hu;rfl
  ·rintro e w' ⟨v',rfl,ho,aq,hb⟩
   have De:w'.ownsRow w.heap.size 2 1 v' ids.length (ids.map (ze zd)):=ho;obtain⟨g,ac,rfl,_⟩:=holds_of_ownsRow (enc:=ze zd) De aq;exact⟨g,ac,rfl,hb,De⟩
end Go.Proofs.YtkchnomkiboihaaGreat
namespace Go.Proofs.YtkchnomkiboihaaGreat
open Value renaming slice→za
open Go.RowKit
open Q
def yC1(w:World)(ok:Bool)(aK:List Int)(e:Ending)(w':World):Prop:=
 Below w.heap.size w w'/\((ok=false/\e=.returned (.tuple #[za none 0 0,.bool false]))∨
  (ok=true/\∃g ac,e=.returned (.tuple #[za (some ⟨g,0,none⟩) aK.length ac,.bool true])/\w'.ownsRow w.heap.size 2 1 (za (some ⟨g,0,none⟩) aK.length ac) aK.length (aK.map (Value.int .i64))))
