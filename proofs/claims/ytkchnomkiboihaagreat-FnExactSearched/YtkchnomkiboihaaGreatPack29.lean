import Derived.Test.YtkchnomkiboihaaGreatPack5
import Derived.Deep.AppendSrc
set_option linter.unusedSimpArgs false
namespace Go.Proofs.YtkchnomkiboihaaGreat
open Value renaming slice→za
open Proofs.Tryz renaming prog→ze
open Go renaming World→zg
open Region renaming wanted→zq
open Builtin renaming append_→zt,append→zv
open Callee renaming builtin→zu
open Go.RowKit
open Q
theorem z04(w:zg)(ty:TypeId)(g n c c2:Nat)(h:n<=c):(zt #[24,24] ty #[za (some ⟨g,0,none⟩) n c,za none 0 c2]).run ze w=.ok (za (some ⟨g,0,none⟩) n c) w:=by
 obtain⟨i0,hi,hz0,hz1,hz2⟩:=zs2;simp[zt,xA xi,sizeOf,typeInfo,hi,Builtin.lenOf,h,run_firstCells_none,storeCells]
theorem zE1{ops:Array Oper}{o:Oper}{a:Act}{w:zg}{K:Act->zg->Prop}{Q:Exit->Act->zg->Prop}{E:Prop}
 (hg:o.guard=none) (s x:Operand) (hop:o.op=Op.call {callee:=zu zv,args:=#[s,x],argTypes:=#[24,24]})
 (g n c c2:Nat) (hs:a.eval s=za (some ⟨g,0,none⟩) n c) (hx:a.eval x=za none 0 c2) (h:n<=c) (hK:∀w',w'=w->K (a.put o.dst (za (some ⟨g,0,none⟩) n c)) w'):
 if zq o (yielded ops a.tmps)=true then Oper.wp ze o a w K Q else E:=by
 have hw:zq o (yielded ops a.tmps)=true:=by simp[zq,hg]
 rw[zV hw];unfold Oper.wp;simp[execOp,hop,resolve,invoke,builtin,hs,hx,z04 w o.type g n c c2 h,Result.andThen];exact hK _ rfl
theorem zM5(w:zg){ops:Array Oper}{rest:List Oper}{o:Oper}{a:Act}{Q:Exit->Act->zg->Prop}
 (hg:o.guard=none) (s x:Operand) (hop:o.op=Op.call {callee:=zu zv,args:=#[s,x],argTypes:=#[24,24]})
 (g n c c2:Nat) (hs:a.eval s=za (some ⟨g,0,none⟩) n c) (hx:a.eval x=za none 0 c2) (h:n<=c)
 (hK:wpList ze ops Q rest (a.put o.dst (za (some ⟨g,0,none⟩) n c)) w):wpList ze ops Q (o::rest) a w:=
 z92 _ hg (zA6 s x _ _ _ hop hs hx (z04 w o.type g n c c2 h)) hK
