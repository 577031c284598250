import Derived.Test.YtjobhigmdaiinaaGreatPack4
import Derived.Deep.AppendSrc
namespace Go.Proofs.YtjobhigmdaiinaaGreat
open Go.RowKit
theorem z87(w:World)(ty:TypeId)(g n c c2:Nat)(h:n<=c):(Builtin.append_ #[24,24] ty #[.slice (some ⟨g,0,none⟩) n c,.slice none 0 c2]).run Tryz.prog w=.ok (.slice (some ⟨g,0,none⟩) n c) w:=by
 obtain⟨i0,hi,hz0,hz1,hz2⟩:=zn7;simp[Builtin.append_,run_underlying Tryz.underlying24,sizeOf,typeInfo,hi,Builtin.lenOf,h,run_firstCells_none,storeCells]
theorem zV0(w:World){ops:Array Oper}{rest:List Oper}{o:Oper}{a:Act}{Q:Exit->Act->World->Prop}
 (hg:o.guard=none) (s x:Operand) (hop:o.op=Op.call {callee:=Callee.builtin Builtin.append,args:=#[s,x],argTypes:=#[24,24]})
 (g n c c2:Nat) (hs:a.eval s=.slice (some ⟨g,0,none⟩) n c) (hx:a.eval x=.slice none 0 c2) (h:n<=c)
 (hK:wpList Tryz.prog ops Q rest (a.put o.dst (.slice (some ⟨g,0,none⟩) n c)) w):wpList Tryz.prog ops Q (o::rest) a w:=
 zs3 _ hg (zr7 s x _ _ _ hop hs hx (z87 w o.type g n c c2 h)) hK
end Go.Proofs.YtjobhigmdaiinaaGreat
