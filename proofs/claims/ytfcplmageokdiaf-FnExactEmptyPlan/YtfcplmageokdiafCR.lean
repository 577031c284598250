import Derived.Test.YtfcplmageokdiafPlainRoute
import Derived.Test.YtfcplmageokdiafSpecOrd
import Derived.Test.YtfcplmageokdiafSpecVeh
import Derived.Test.YtfcplmageokdiafKin
namespace Go.Proofs.Ytfcplmageokdiaf
open Go.RowKit

theorem keep_set {W : World} {b o k i : Nat} {v x : Value} (h : W.cell? ⟨b, o, none⟩ = some x) (hne : b ≠ k) : (W.setCell ⟨k, i, none⟩ v).cell? ⟨b, o, none⟩ = some x := by
  rw [World.cell?_of_block (w := W) (heap_setCell_other W ⟨k, i, none⟩ b v hne)]; exact h
theorem row_set' {W : World} {g k i : Nat} {o : Obj} {v : Value} (h : W.heap[g]? = some o) (hne : g ≠ k) : (W.setCell ⟨k, i, none⟩ v).heap[g]? = some o := by
  rw [heap_setCell_other _ _ _ _ (by simpa using hne)]; exact h
theorem cells2 {w : World} {k : Nat} {c0 c1 : Value} {T : TypeId} (r : w.heap[k]? = some (.cells #[c0, c1] T (0, 0))) :
    w.cell? ⟨k, 0, none⟩ = some c0 ∧ w.cell? ⟨k, 1, none⟩ = some c1 := by
  refine ⟨?_, ?_⟩
  · rw [cell_of_row _ _ 0 _ _ _ r]; simp
  · rw [cell_of_row _ _ 1 _ _ _ r]; simp
/-- Six cells that were written one behind the other. -/
theorem row_set6 {W : World} {g : Nat} {z0 z1 z2 z3 z4 z5 o0 o1 o2 o3 o4 o5 : Value} {T : TypeId} (h : W.heap[g]? = some (.cells #[z0, z1, z2, z3, z4, z5] T (0, 0))) :
    ((((((W.setCell ⟨g, 0, none⟩ o0).setCell ⟨g, 1, none⟩ o1).setCell ⟨g, 2, none⟩ o2).setCell ⟨g, 3, none⟩ o3).setCell ⟨g, 4, none⟩ o4).setCell ⟨g, 5, none⟩ o5).heap[g]? = some (.cells #[o0, o1, o2, o3, o4, o5] T (0, 0)) :=
  heap_setCell_same _ _ _ _ _ _ (heap_setCell_same _ _ _ _ _ _ (heap_setCell_same _ _ _ _ _ _ (heap_setCell_same _ _ _ _ _ _ (heap_setCell_same _ _ _ _ _ _ (heap_setCell_same _ _ _ _ _ _ h)))))

theorem ints_cell {w : World} {b off : Nat} {zs : List Int} (h : IntsAt w (some ⟨b, off, none⟩) zs) {j : Nat} (hj : j < zs.length) {v : Int} (hv : zs.getD j 0 = v) : w.cell? ⟨b, off + j, none⟩ = some (.int .i64 v) := by
  obtain ⟨b', off', e, hc⟩ := h j hj
  simp at e
  obtain ⟨rfl, rfl⟩ := e
  rw [hc, hv]

/-- A case and a route in their boxes. -/
def CR (w W : World) (cs rs : Array Value) : Prop := Below w.heap.size w W ∧ W.heap[w.heap.size]? = some (.cells cs 39 (0, 0)) ∧ W.heap[w.heap.size + 1]? = some (.cells rs 83 (0, 0))
theorem CR.new (w : World) (cs rs : Array Value) : CR w ((w.alloc (.cells cs 39)).alloc (.cells rs 83)) cs rs :=
  ⟨((Below.refl _ _).alloc (Nat.le_refl _) _).alloc (by simp) _, heap_alloc2_old _ _ _, heap_alloc2_new _ _ _⟩
theorem CR.below {w W W' : World} {cs rs : Array Value} (h : CR w W cs rs) (hb : Below W.heap.size W W') : CR w W' cs rs :=
  ⟨h.1.trans (hb.mono h.1.size), below_row hb (row_lt h.2.1) h.2.1, below_row hb (row_lt h.2.2) h.2.2⟩
theorem CR.drew {w W : World} {cs rs : Array Value} (h : CR w W cs rs) : CR w W.drew cs rs := h.below (Below.refl _ _).drew
theorem CR.alloc {w W : World} {cs rs : Array Value} (h : CR w W cs rs) (o : Obj) : CR w (W.alloc o) cs rs := h.below ((Below.refl _ _).alloc (Nat.le_refl _) _)
theorem CR.set {w W : World} {cs rs : Array Value} (h : CR w W cs rs) {k i : Nat} {v : Value} (hk : w.heap.size + 1 < k) : CR w (W.setCell ⟨k, i, none⟩ v) cs rs :=
  ⟨h.1.setCell (by simp; omega) _, row_set' h.2.1 (by omega), row_set' h.2.2 (by omega)⟩
theorem CR.big {w W : World} {cs rs : Array Value} (h : CR w W cs rs) : w.heap.size + 1 < W.heap.size := row_lt h.2.2

end Go.Proofs.Ytfcplmageokdiaf
