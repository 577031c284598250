import Derived.Test.YtfcplmageokdiaeCases
import Derived.Test.YtfcplmageokdiaeSzRoute
import Derived.Test.YtfcplmageokdiaeToRoute
import Derived.Test.YtfcplmageokdiaeEqRoute
import Derived.Test.YtfcplmageokdiaeCR
namespace Go.Proofs.Ytfcplmageokdiae
open Go.RowKit

/-- A law's case and route in their boxes. -/
def LR (w W : World) (cs rs : Array Value) : Prop := Below w.heap.size w W ∧ W.heap[w.heap.size]? = some (.cells cs 28 (0, 0)) ∧ W.heap[w.heap.size + 1]? = some (.cells rs 30 (0, 0))
theorem LR.new (w : World) (cs rs : Array Value) : LR w ((w.alloc (.cells cs 28)).alloc (.cells rs 30)) cs rs :=
  ⟨((Below.refl _ _).alloc (Nat.le_refl _) _).alloc (by simp) _, heap_alloc2_old _ _ _, heap_alloc2_new _ _ _⟩
theorem LR.below {w W W' : World} {cs rs : Array Value} (h : LR w W cs rs) (hb : Below W.heap.size W W') : LR w W' cs rs :=
  ⟨h.1.trans (hb.mono h.1.size), below_row hb (row_lt h.2.1) h.2.1, below_row hb (row_lt h.2.2) h.2.2⟩
theorem LR.drew {w W : World} {cs rs : Array Value} (h : LR w W cs rs) : LR w W.drew cs rs := h.below (Below.refl _ _).drew
theorem LR.alloc {w W : World} {cs rs : Array Value} (h : LR w W cs rs) (o : Obj) : LR w (W.alloc o) cs rs := h.below ((Below.refl _ _).alloc (Nat.le_refl _) _)
theorem LR.b {w W : World} {cs rs : Array Value} (h : LR w W cs rs) : Below w.heap.size w W := h.1
theorem LR.cells {w W : World} {c0 c1 c2 c3 c4 r0 r1 : Value} (h : LR w W #[c0, c1, c2, c3, c4] #[r0, r1]) :
    W.cell? ⟨w.heap.size, 0, none⟩ = some c0 ∧ W.cell? ⟨w.heap.size, 1, none⟩ = some c1 ∧ W.cell? ⟨w.heap.size, 2, none⟩ = some c2 ∧ W.cell? ⟨w.heap.size, 3, none⟩ = some c3 ∧ W.cell? ⟨w.heap.size, 4, none⟩ = some c4 ∧ W.cell? ⟨w.heap.size + 1, 0, none⟩ = some r0 ∧ W.cell? ⟨w.heap.size + 1, 1, none⟩ = some r1 := by
  obtain ⟨h0, h1, h2, h3, h4⟩ := cells5 h.2.1
  obtain ⟨g0, g1⟩ := cells2 h.2.2
  exact ⟨h0, h1, h2, h3, h4, g0, g1⟩

end Go.Proofs.Ytfcplmageokdiae
