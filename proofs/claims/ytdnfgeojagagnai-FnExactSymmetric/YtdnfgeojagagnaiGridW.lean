import Derived.Test.YtdnfgeojagagnaiGrid
namespace Go.Proofs.Ytdnfgeojagagnai
open Go.RowKit

/-- The world behind 'g, ok := gridOf(m)': the boxed matrix, and the grid in a block of its own. -/
theorem grid_world {w w1 : World} {c0 c1 : Value} {T : TypeId} (gr : Array Value) (b1 : Below w.heap.size w w1) (r1 : w1.heap[w.heap.size]? = some (.cells #[c0, c1] T (0, 0))) :
    Below w.heap.size w (w1.alloc (.cells gr 62)) ∧ (w1.alloc (.cells gr 62)).heap[w.heap.size]? = some (.cells #[c0, c1] T (0, 0)) ∧
    (w1.alloc (.cells gr 62)).heap[w1.heap.size]? = some (.cells gr 62 (0, 0)) :=
  ⟨b1.alloc b1.size _, by rw [heap_alloc_old _ _ (row_lt r1)]; exact r1, heap_alloc_new _ _⟩

end Go.Proofs.Ytdnfgeojagagnai
