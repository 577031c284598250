import Derived.Test.YtaofpbmdloihgaaDoorPack8
import Derived.Test.YtaofpbmdloihgaaDoorSpecClosed
namespace Go.Proofs.YtaofpbmdloihgaaDoor
open Go.RowKit

theorem own_any {w : World} {base k : Nat} {v : Value} {e : TypeId} {size : Nat} {xs : List Value} (h : w.ownsRow base e size v k xs) : ∃ ao co, v = .slice ao k co := by
  obtain ⟨_, ⟨h1, h2⟩ | ⟨g, cap, cur, h2, _⟩⟩ := h
  · exact ⟨none, 0, by rw [h1, h2]⟩
  · exact ⟨_, cap, h2⟩
theorem cells6z {w : World} {k : Nat} {c0 c1 c2 c3 c4 c5 : Value} {T : TypeId} (r : w.heap[k]? = some (.cells #[c0, c1, c2, c3, c4, c5] T (0, 0))) :
    w.cell? ⟨k, 0, none⟩ = some c0 ∧ w.cell? ⟨k, 1, none⟩ = some c1 ∧ w.cell? ⟨k, 2, none⟩ = some c2 ∧ w.cell? ⟨k, 3, none⟩ = some c3 ∧ w.cell? ⟨k, 4, none⟩ = some c4 ∧ w.cell? ⟨k, 5, none⟩ = some c5 := by
  refine ⟨?_, ?_, ?_, ?_, ?_, ?_⟩
  · have := cell_of_row _ _ 0 _ _ _ r; simpa using this
  · have := cell_of_row _ _ 1 _ _ _ r; simpa using this
  · have := cell_of_row _ _ 2 _ _ _ r; simpa using this
  · have := cell_of_row _ _ 3 _ _ _ r; simpa using this
  · have := cell_of_row _ _ 4 _ _ _ r; simpa using this
  · have := cell_of_row _ _ 5 _ _ _ r; simpa using this
theorem keep6 {X : World} {k o kb : Nat} {v v0 v1 v2 v3 v4 v5 : Value} (h : X.cell? ⟨k, o, none⟩ = some v) (hne : k ≠ kb) : ((((((X.setCell ⟨kb, 0, none⟩ v0).setCell ⟨kb, 1, none⟩ v1).setCell ⟨kb, 2, none⟩ v2).setCell ⟨kb, 3, none⟩ v3).setCell ⟨kb, 4, none⟩ v4).setCell ⟨kb, 5, none⟩ v5).cell? ⟨k, o, none⟩ = some v :=
  keep_set2 (keep_set2 (keep_set2 (keep_set2 (keep_set2 (keep_set2 h hne) hne) hne) hne) hne) hne
theorem keep5 {X : World} {k o kb : Nat} {v v0 v1 v2 v3 v4 : Value} (h : X.cell? ⟨k, o, none⟩ = some v) (hne : k ≠ kb) : (((((X.setCell ⟨kb, 0, none⟩ v0).setCell ⟨kb, 1, none⟩ v1).setCell ⟨kb, 2, none⟩ v2).setCell ⟨kb, 3, none⟩ v3).setCell ⟨kb, 4, none⟩ v4).cell? ⟨k, o, none⟩ = some v :=
  keep_set2 (keep_set2 (keep_set2 (keep_set2 (keep_set2 h hne) hne) hne) hne) hne
theorem cells5z {w : World} {k : Nat} {c0 c1 c2 c3 c4 : Value} {T : TypeId} (r : w.heap[k]? = some (.cells #[c0, c1, c2, c3, c4] T (0, 0))) :
    w.cell? ⟨k, 0, none⟩ = some c0 ∧ w.cell? ⟨k, 1, none⟩ = some c1 ∧ w.cell? ⟨k, 2, none⟩ = some c2 ∧ w.cell? ⟨k, 3, none⟩ = some c3 ∧ w.cell? ⟨k, 4, none⟩ = some c4 := by
  refine ⟨?_, ?_, ?_, ?_, ?_⟩
  · have := cell_of_row _ _ 0 _ _ _ r; simpa using this
  · have := cell_of_row _ _ 1 _ _ _ r; simpa using this
  · have := cell_of_row _ _ 2 _ _ _ r; simpa using this
  · have := cell_of_row _ _ 3 _ _ _ r; simpa using this
  · have := cell_of_row _ _ 4 _ _ _ r; simpa using this
theorem row3_cell {W : World} {g : Nat} {x0 x1 x2 : Int} {T : TypeId} {y : Nat} (h : W.heap[g]? = some (.cells #[Value.int IntKind.i64 x0, Value.int IntKind.i64 x1, Value.int IntKind.i64 x2] T (0, 0))) (hy : y < 3) : W.cell? ⟨g, y, none⟩ = some (.int .i64 ([x0, x1, x2].getD y 0)) := by
  rw [cell_of_row _ _ y _ _ _ h]
  rcases (show y = 0 ∨ y = 1 ∨ y = 2 from by omega) with rfl | rfl | rfl <;> rfl
/-- A box that the call has made, which is none of the case's blocks. -/
def BoxAt (w W : World) (k g : Nat) (oo ov : Value) (kb : Nat) (cs : Array Value) (T : TypeId) : Prop := W.heap[kb]? = some (.cells cs T (0, 0)) ∧ w.heap.size + 1 ≤ kb ∧ kb ≠ k ∧ kb ≠ g ∧ oo.ownBlock ≠ some kb ∧ ov.ownBlock ≠ some kb
section
variable {w W W' w4 : World} {q : Nat} {a : Option Addr} {bs : List Int} {c k : Nat} {n : Int} {g zl cg : Nat} {zs : List Int} {oo oo' : Value} {ko : Nat} {O : List Int} {ov ov' : Value} {kv : Nat} {V : List Int} {fi : Int} {kb : Nat} {cs : Array Value} {T : TypeId}
theorem BoxAt.new (h : CD w W q a bs c k n g zl cg zs oo ko O ov kv V fi) (cs : Array Value) (T : TypeId) : BoxAt w (W.alloc (.cells cs T)) k g oo ov W.heap.size cs T := by
  have h1 := row_lt h.b1
  have h2 := h.glt
  exact ⟨heap_alloc_new _ _, h.size, by omega, by omega, fun e => by have := (h.o.lt _ e).2; omega, fun e => by have := (h.v.lt _ e).2; omega⟩
theorem BoxAt.new1 (h : CD w W q a bs c k n g zl cg zs oo ko O ov kv V fi) (o : Obj) (cs : Array Value) (T : TypeId) : BoxAt w ((W.alloc o).alloc (.cells cs T)) k g oo ov (W.heap.size + 1) cs T := by
  have h1 := BoxAt.new (h.below ((Below.refl _ _).alloc (Nat.le_refl _) o)) cs T
  rw [World.size_alloc] at h1
  exact h1
theorem BoxAt.below (h : BoxAt w W k g oo ov kb cs T) (hb : Below W.heap.size W W') : BoxAt w W' k g oo ov kb cs T := ⟨below_row hb (row_lt h.1) h.1, h.2⟩
theorem BoxAt.read (h : BoxAt w W k g oo ov kb cs T) (hq : q < w.heap.size) (hg : W.grownBy W' (some q)) : BoxAt w W' k g oo ov kb cs T := ⟨grown_row hg h.1 (fun e => by injection e with e; have := h.2.1; omega), h.2⟩
theorem BoxAt.set (h : BoxAt w W k g oo ov kb cs T) (i : Nat) (v : Value) : BoxAt w (W.setCell ⟨kb, i, none⟩ v) k g oo ov kb (cs.setIfInBounds i v) T := ⟨row_put v h.1, h.2⟩
theorem CD.box' (h : CD w W q a bs c k n g zl cg zs oo ko O ov kv V fi) (hb : BoxAt w W k g oo ov kb cs T) (i : Nat) (v : Value) : CD w (W.setCell ⟨kb, i, none⟩ v) q a bs c k n g zl cg zs oo ko O ov kv V fi :=
  h.aside (grown_set W kb i v) (fun b e => by injection e with e; subst e; exact hb.2)
theorem CD.boxes6 {c0 c1 c2 c3 c4 c5 : Value} (h : CD w W q a bs c k n g zl cg zs oo ko O ov kv V fi) (hb : BoxAt w W k g oo ov kb #[c0, c1, c2, c3, c4, c5] T) (v0 v1 v2 v3 v4 v5 : Value) :
    CD w ((((((W.setCell ⟨kb, 0, none⟩ v0).setCell ⟨kb, 1, none⟩ v1).setCell ⟨kb, 2, none⟩ v2).setCell ⟨kb, 3, none⟩ v3).setCell ⟨kb, 4, none⟩ v4).setCell ⟨kb, 5, none⟩ v5) q a bs c k n g zl cg zs oo ko O ov kv V fi ∧
    BoxAt w ((((((W.setCell ⟨kb, 0, none⟩ v0).setCell ⟨kb, 1, none⟩ v1).setCell ⟨kb, 2, none⟩ v2).setCell ⟨kb, 3, none⟩ v3).setCell ⟨kb, 4, none⟩ v4).setCell ⟨kb, 5, none⟩ v5) k g oo ov kb #[v0, v1, v2, v3, v4, v5] T := by
  have s0 := hb.set 0 v0
  have s1 := s0.set 1 v1
  have s2 := s1.set 2 v2
  have s3 := s2.set 3 v3
  have s4 := s3.set 4 v4
  have s5 := s4.set 5 v5
  exact ⟨(((((((h.box' hb 0 v0).box' s0 1 v1).box' s1 2 v2).box' s2 3 v3).box' s3 4 v4).box' s4 5 v5)), by simpa using s5⟩
theorem CD.boxes5 {c0 c1 c2 c3 c4 : Value} (h : CD w W q a bs c k n g zl cg zs oo ko O ov kv V fi) (hb : BoxAt w W k g oo ov kb #[c0, c1, c2, c3, c4] T) (v0 v1 v2 v3 v4 : Value) :
    CD w (((((W.setCell ⟨kb, 0, none⟩ v0).setCell ⟨kb, 1, none⟩ v1).setCell ⟨kb, 2, none⟩ v2).setCell ⟨kb, 3, none⟩ v3).setCell ⟨kb, 4, none⟩ v4) q a bs c k n g zl cg zs oo ko O ov kv V fi ∧
    BoxAt w (((((W.setCell ⟨kb, 0, none⟩ v0).setCell ⟨kb, 1, none⟩ v1).setCell ⟨kb, 2, none⟩ v2).setCell ⟨kb, 3, none⟩ v3).setCell ⟨kb, 4, none⟩ v4) k g oo ov kb #[v0, v1, v2, v3, v4] T := by
  have s0 := hb.set 0 v0
  have s1 := s0.set 1 v1
  have s2 := s1.set 2 v2
  have s3 := s2.set 3 v3
  have s4 := s3.set 4 v4
  exact ⟨((((((h.box' hb 0 v0).box' s0 1 v1).box' s1 2 v2).box' s2 3 v3).box' s3 4 v4)), by simpa using s4⟩
end

end Go.Proofs.YtaofpbmdloihgaaDoor
