import Derived.Test.YtkchnomkiboihaaGreatPack1
import Derived.Lib.SmallJoins
set_option linter.unusedSimpArgs false
namespace Go.Proofs.YtkchnomkiboihaaGreat
open Go.ChangeShapes Go.WideShapes Go.ChangeAt Go.RowKit Go.Joins
open Q
theorem Tryz.own:ownKnob Tryz.prog.godebug=none:=by kernel_rfl
theorem Tryz.laidOut:laidOutB Tryz.prog=true:=by kernel_rfl
theorem Tryz.cellsInt:Tryz.prog.cellsOf 2=1:=by kernel_rfl
theorem zW2{H:Type}{enc:TypeId×Value->H}{W:World}{fuel:Nat}{cs:List Value}{y:DataW H×List MemPlace}(h:DataW.trod enc Tryz.prog W 0 (fun _=>true) true fuel 24 cs=some y):
 ∃a len cap zs,cs=[.slice a len cap]/\zs.length=len/\len<=9223372036854775807/\za3 W a zs:=by
 rcases open_ints xi Tryz.underlying2 Tryz.cellsInt h with⟨hcs,_⟩|⟨x,l,c,zs,hcs,_,hl,hm,hz,_,hcell,_⟩
 ·exact⟨none,0,0,[],hcs,rfl,by omega,fun j hj=>by simp at hj⟩
 ·simp[maxLen]at hm
  have hzc:zs.length=c:=by simpa using hz
  have htl:(zs.take l).length=l:=by rw[zZ];omega
  refine⟨some x,l,c,zs.take l,hcs,htl,by omega,fun j hj=> ?_⟩;rw[htl]at hj;obtain⟨b,off,rfl,hc⟩:=ints_at hcell (by omega);refine⟨b,off,rfl,?_⟩;rw[hc j (by omega)];simp[List.getD,hj]
end Go.Proofs.YtkchnomkiboihaaGreat
namespace Go.Proofs.YtkchnomkiboihaaGreat
open Q
theorem Tryz.cellsMat:Tryz.prog.cellsOf 41=2:=by kernel_rfl
