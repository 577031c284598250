import Derived.Test.YtjobhigmdaiinaaGreatPack1
import Derived.ProofKit
import Derived.OpenShut
import Derived.ChangeOld
import Derived.Lib.SmallJoins
namespace Go.Proofs.YtjobhigmdaiinaaGreat
open Go.ChangeShapes Go.WideShapes Go.ChangeAt Go.RowKit Go.Joins
theorem Tryz.own:ownKnob Tryz.prog.godebug=none:=by kernel_rfl
theorem Tryz.laidOut:laidOutB Tryz.prog=true:=by kernel_rfl
theorem Tryz.cellsByte:Tryz.prog.cellsOf 5=1:=by kernel_rfl
theorem yu0{n:Int}(h:(Lit.int .u8 n).wf=true):0<=n/\n<256:=by
 simp[Lit.wf]at h;have e1:IntKind.u8.min=0:=by decide
 have e2:IntKind.u8.max=255:=by decide
 omega
theorem zT6{H:Type}{enc:TypeId×Value->H}{W:World}{fuel:Nat}{cs:List Value}{y:DataW H×List MemPlace}(h:DataW.trod enc Tryz.prog W 0 (fun _=>true) true fuel 22 cs=some y):
 ∃a len cap zs,cs=[.slice a len cap]/\zs.length=len/\len<=9223372036854775807/\zu4 W a zs:=by
 rcases open_ints Tryz.underlying22 Tryz.underlying5 Tryz.cellsByte h with⟨hcs,_⟩|⟨x,l,c,zs,hcs,_,hl,hm,hz,_,hcell,hwf⟩
 ·exact⟨none,0,0,[],hcs,rfl,by omega,fun j hj=>by simp at hj⟩
 ·simp[maxLen]at hm
  have hzc:zs.length=c:=by simpa using hz
  have htl:(zs.take l).length=l:=by rw[List.length_take];omega
  refine⟨some x,l,c,zs.take l,hcs,htl,by omega,fun j hj=> ?_⟩;rw[htl]at hj;obtain⟨b,off,rfl,hc⟩:=ints_at hcell (by omega);have hg:(zs.take l).getD j 0=zs.getD j 0:=by simp[List.getD,hj]
  rw[hg];exact⟨b,off,rfl,hc j (by omega),yu0 (hwf _ (by rw[List.getD_eq_getElem?_getD,List.getElem?_eq_getElem (show j<zs.length by omega)];simp))⟩
end Go.Proofs.YtjobhigmdaiinaaGreat
