import Derived.Test.YtehfjfmfpdgibaaGreatDoorPack5
import Derived.Deep.AppendSrc
namespace Go.Proofs.YtehfjfmfpdgibaaGreatDoor
open Go.RowKit
theorem keepC {w1 X : World} {b o : Nat} {v : Value} (hc : w1.cell? ⟨b, o, none⟩ = some v) (hb : Below w1.heap.size w1 X) : X.cell? ⟨b, o, none⟩ = some v := by
 rw [hb.cell (p := ⟨b, o, none⟩) (block_lt_of_cell hc)]; exact hc
theorem run_append_no0 (w : World) (ty : TypeId) (g n c c2 : Nat) (h : n <= c) : (Builtin.append_ #[44, 44] ty #[.slice (some ⟨g, 0, none⟩) n c, .slice none 0 c2]).run Tryz.prog w = .ok (.slice (some ⟨g, 0, none⟩) n c) w := by
 obtain ⟨i0, hi, hz0, hz1, hz2⟩ := infoI8_parts
 simp [Builtin.append_, run_underlying Tryz.underlying44, sizeOf, typeInfo, hi, Builtin.lenOf, h, run_firstCells_none, storeCells]
theorem append_no1 (w : World) {ops : Array Oper} {rest : List Oper} {o : Oper} {a : Act} {Q : Exit -> Act -> World -> Prop}
 (hg : o.guard = none) (s x : Operand) (hop : o.op = Op.call { callee := Callee.builtin Builtin.append, args := #[s, x], argTypes := #[44, 44] })
 (g n c c2 : Nat) (hs : a.eval s = .slice (some ⟨g, 0, none⟩) n c) (hx : a.eval x = .slice none 0 c2) (h : n <= c)
 (hK : wpList Tryz.prog ops Q rest (a.put o.dst (.slice (some ⟨g, 0, none⟩) n c)) w) : wpList Tryz.prog ops Q (o :: rest) a w :=
 wpList_run _ hg (exec_append' s x _ _ _ hop hs hx (run_append_no0 w o.type g n c c2 h)) hK
end Go.Proofs.YtehfjfmfpdgibaaGreatDoor
