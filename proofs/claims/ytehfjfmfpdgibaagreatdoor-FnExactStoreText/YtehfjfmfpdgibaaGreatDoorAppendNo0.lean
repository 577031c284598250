import Derived.Test.YtehfjfmfpdgibaaGreatDoorPack6
import Derived.Deep.AppendSrc
namespace Go.Proofs.YtehfjfmfpdgibaaGreatDoor
open Go.RowKit
theorem own_shq {w : World} {base k n : Nat} {v : Value} {e : TypeId} {size : Nat} {xs : List Value} (h : w.ownsRow base e size v k xs) (hne : v ≠ .slice none 0 0) (hk : k = n) : ∃ g c, v = .slice (some ⟨g, 0, none⟩) n c := by
 subst hk
 obtain ⟨_, ⟨h1, _⟩ | ⟨g, cap, cur, h1, _⟩⟩ := h
 · exact absurd h1 hne
 · exact ⟨g, cap, h1⟩
theorem keepC {w1 X : World} {b o : Nat} {v : Value} (hc : w1.cell? ⟨b, o, none⟩ = some v) (hb : Below w1.heap.size w1 X) : X.cell? ⟨b, o, none⟩ = some v := by
 rw [hb.cell (p := ⟨b, o, none⟩) (block_lt_of_cell hc)]; exact hc
theorem run_append_no0 (w : World) (ty : TypeId) (g n c c2 : Nat) (h : n <= c) : (Builtin.append_ #[44, 44] ty #[.slice (some ⟨g, 0, none⟩) n c, .slice none 0 c2]).run Tryz.prog w = .ok (.slice (some ⟨g, 0, none⟩) n c) w := by
 obtain ⟨i0, hi, hz0, hz1, hz2⟩ := infoI8_parts
 simp [Builtin.append_, run_underlying Tryz.underlying44, sizeOf, typeInfo, hi, Builtin.lenOf, h, run_firstCells_none, storeCells]
theorem step_append_no0 {ops : Array Oper} {o : Oper} {a : Act} {w : World} {K : Act -> World -> Prop} {Q : Exit -> Act -> World -> Prop} {E : Prop}
 (hg : o.guard = none) (s x : Operand) (hop : o.op = Op.call { callee := Callee.builtin Builtin.append, args := #[s, x], argTypes := #[44, 44] })
 (g n c c2 : Nat) (hs : a.eval s = .slice (some ⟨g, 0, none⟩) n c) (hx : a.eval x = .slice none 0 c2) (h : n <= c) (hK : ∀ w', w' = w -> K (a.put o.dst (.slice (some ⟨g, 0, none⟩) n c)) w') :
 if Region.wanted o (yielded ops a.tmps) = true then Oper.wp Tryz.prog o a w K Q else E := by
 have hw : Region.wanted o (yielded ops a.tmps) = true := by simp [Region.wanted, hg]
 rw [if_pos hw]
 unfold Oper.wp
 simp [execOp, hop, resolve, invoke, builtin, hs, hx, run_append_no0 w o.type g n c c2 h, Result.andThen]
 exact hK _ rfl
end Go.Proofs.YtehfjfmfpdgibaaGreatDoor
