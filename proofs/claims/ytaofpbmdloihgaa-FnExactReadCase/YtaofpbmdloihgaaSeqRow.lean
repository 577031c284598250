import Derived.Test.YtaofpbmdloihgaaPack6
import Derived.Test.YtaofpbmdloihgaaPack12
namespace Go.Proofs.Ytaofpbmdloihgaa
open Go.RowKit

/-- k, k + 1, .. -/
def seqL (k : Int) (n : Nat) : List Int := (List.range n).map (fun i : Nat => k + (i : Int))
theorem seqL_len (k : Int) (n : Nat) : (seqL k n).length = n := by simp [seqL]
theorem seqL_at {k : Int} {n j : Nat} (h : j < n) : (seqL k n)[j]? = some (k + (j : Int)) := by simp [seqL, h]
theorem own_row_of {w : World} {base size n rc g : Nat} {e : TypeId} {xs : List Value} (h : w.ownsRow base e size (.slice (some ⟨g, 0, none⟩) n rc) n xs) : ∃ cur, w.heap[g]? = some (.cells cur e (0, 0)) ∧ cur.size = rc * size ∧ n ≤ rc ∧ rc ≤ maxLen ∧ base ≤ g := by
  obtain ⟨_, ⟨h1, _⟩ | ⟨g', cap, cur, h2, h3, h4, h5, h6, h7, _⟩⟩ := h
  · cases h1
  · simp only [Value.slice.injEq, Option.some.injEq, Addr.mk.injEq, and_true, true_and] at h2
    obtain ⟨rfl, rfl⟩ := h2
    exact ⟨cur, h4, h7, h5, h6, h3⟩
/-- A row of the call's own whose cells are marked from K on. -/
theorem mark_row {w w' : World} {base size n c g : Nat} {K : Int} {T : TypeId} {cur : Array Value} {xs : List Value} (h : w.ownsRow base T size (.slice (some ⟨g, 0, none⟩) n c) n xs) (hrow : w.heap[g]? = some (.cells cur T (0, 0))) (hr : w'.heap[g]? = some (.cells (markA cur K (n * size)) T (0, 0))) : w'.ownsRow base T size (.slice (some ⟨g, 0, none⟩) n c) n ((seqL K (n * size)).map (Value.int .i64)) := by
  obtain ⟨cur2, k1, k2, k3, k4, k5⟩ := own_row_of h
  rw [hrow] at k1
  simp only [Option.some.injEq, Obj.cells.injEq, and_true] at k1
  subst k1
  have hle : n * size ≤ cur.size := by rw [k2]; exact Nat.mul_le_mul_right _ k3
  refine ownV_of_cells hr (by rw [markA_size, k2]) k3 k4 k5 (by rw [List.length_map, seqL_len]) (fun j hj => ?_)
  rw [cell_of_row _ _ j _ _ _ hr, markA_get cur K (n * size) hle j hj, List.getElem?_map, seqL_at hj]
  rfl

end Go.Proofs.Ytaofpbmdloihgaa
