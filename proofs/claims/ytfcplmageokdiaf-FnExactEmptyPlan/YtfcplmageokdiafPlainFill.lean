import Derived.Test.YtfcplmageokdiafPlainCase
namespace Go.Proofs.Ytfcplmageokdiaf
open Go.RowKit

/-- The first m of zs, then noughts, N in all. -/
def fillTo (N : Nat) (zs : List Int) (m : Nat) : List Int := (List.range N).map fun j => if j < m then zs.getD j 0 else 0
theorem fillTo_length (N : Nat) (zs : List Int) (m : Nat) : (fillTo N zs m).length = N := by simp [fillTo]
theorem fillTo_step (N : Nat) (zs : List Int) (m : Nat) : (fillTo N zs m).set m (zs.getD m 0) = fillTo N zs (m + 1) := by
  apply List.ext_getElem
  · simp [fillTo]
  · intro j h1 h2
    by_cases e : m = j
    · subst e
      simp only [fillTo, List.getElem_set, List.getElem_map, List.getElem_range, if_true]
      rw [if_pos (by omega)]
    · simp only [fillTo, List.getElem_set, List.getElem_map, List.getElem_range, if_neg e]
      by_cases c : j < m
      · rw [if_pos c, if_pos (by omega)]
      · rw [if_neg c, if_neg (by omega)]
theorem fillTo_full (zs : List Int) : fillTo zs.length zs zs.length = zs := by
  apply List.ext_getElem
  · simp [fillTo]
  · intro j h1 h2
    simp only [fillTo, List.getElem_map, List.getElem_range]
    rw [if_pos h2]
    simp [List.getD, h2]
theorem fillTo_zero (N : Nat) (zs : List Int) : fillTo N zs 0 = List.replicate N 0 := by
  apply List.ext_getElem
  · simp [fillTo]
  · intro j h1 h2
    simp [fillTo]
/-- One cell of such a row is written. -/
theorem row_fill {w : World} {g N m : Nat} {zs : List Int} {T : TypeId} {v : Int} (h : w.heap[g]? = some (.cells (cellsOf (fillTo N zs m)) T (0, 0))) (hv : zs.getD m 0 = v) :
    (w.setCell ⟨g, m, none⟩ (.int .i64 v)).heap[g]? = some (.cells (cellsOf (fillTo N zs (m + 1))) T (0, 0)) := by
  rw [heap_setCell_same _ _ _ _ _ _ h, cellsOf_set, ← hv, fillTo_step]

end Go.Proofs.Ytfcplmageokdiaf
