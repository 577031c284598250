import Derived.Test.YtkchnomkiboihaaGreatPack1
import Derived.Lib.SmallJoins
set_option linter.unusedSimpArgs false
namespace Go.Proofs.YtkchnomkiboihaaGreat
open Go.ChangeShapes Go.WideShapes Go.ChangeAt Go.RowKit Go.Joins
open Q
theorem Tryz.own:ownKnob Tryz.prog.godebug=none:=by kernel_rfl
theorem Tryz.laidOut:laidOutB Tryz.prog=true:=by kernel_rfl
theorem Tryz.cellsByte:Tryz.prog.cellsOf 5=1:=by kernel_rfl
theorem yL2{n:Int}(h:(Lit.int .u8 n).wf=true):0<=n/\n<256:=by
 simp[Lit.wf]at h;have e1:IntKind.u8.min=0:=by decide
 have e2:IntKind.u8.max=255:=by decide
 omega
theorem yp6{H:Type}{enc:TypeId×Value->H}{W:World}{E8:Nat}{cs:List Value}{y:DataW H×List MemPlace}(h:DataW.trod enc Tryz.prog W 0 (fun _=>true) true E8 22 cs=some y):
 ∃a dH ac zs,cs=[.slice a dH ac]/\zs.length=dH/\dH<=9223372036854775807/\zO1 W a zs:=by
 rcases open_ints Tryz.underlying22 Tryz.underlying5 Tryz.cellsByte h with⟨aJ,_⟩|⟨x,l,c,zs,aJ,_,hl,hm,hz,_,b8,Cw⟩
 ·exact⟨none,0,0,[],aJ,rfl,by omega,fun j hj=>by simp at hj⟩
 ·simp[maxLen]at hm
  have r9:zs.length=c:=by simpa using hz
  have kE:(zs.take l).length=l:=by rw[yh];omega
  refine⟨some x,l,c,zs.take l,aJ,kE,by omega,fun j hj=> ?_⟩;rw[kE]at hj;obtain⟨b,off,rfl,hc⟩:=ints_at b8 (by omega);have hg:(zs.take l).getD j 0=zs.getD j 0:=by simp[List.getD,hj]
  rw[hg];exact⟨b,off,rfl,hc j (by omega),yL2 (Cw _ (by rw[zQ,zR (show j<zs.length by omega)];simp))⟩
