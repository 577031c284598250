import Derived.Test.YtfcplmageokdiafCR
namespace Go.Proofs.Ytfcplmageokdiaf
open Go.RowKit

/-- The first m cells marked by k0, k0 + 1, .. -/
def markA (cur : Array Value) (k0 : Int) : Nat → Array Value
  | 0 => cur
  | m + 1 => (markA cur k0 m).setIfInBounds m (.int .i64 (k0 + (m : Nat)))
theorem markA_size (cur : Array Value) (k0 : Int) : ∀ m, (markA cur k0 m).size = cur.size
  | 0 => rfl
  | m + 1 => by simp [markA, markA_size cur k0 m]
theorem markA_get (cur : Array Value) (k0 : Int) : ∀ m, m ≤ cur.size → ∀ j, j < m → (markA cur k0 m)[j]? = some (.int .i64 (k0 + (j : Nat)))
  | 0, _, j, hj => by omega
  | m + 1, hm, j, hj => by
    unfold markA
    by_cases e : j = m
    · subst e
      rw [Array.getElem?_setIfInBounds_self_of_lt (by rw [markA_size]; omega)]
    · rw [Array.getElem?_setIfInBounds_ne (by omega)]
      exact markA_get cur k0 m (by omega) j (by omega)
theorem row_some {w : World} {g : Nat} {cur : Array Value} {T : TypeId} (h : w.heap[g]? = some (.cells cur T (0, 0))) {j : Nat} (hj : j < cur.size) : ∃ v, w.cell? ⟨g, j, none⟩ = some v := by
  rw [cell_of_row _ _ j _ _ _ h]
  exact ⟨cur[j], by simp [hj]⟩
theorem mark_step {w : World} {g m : Nat} {cur : Array Value} {T : TypeId} {k0 v : Int} (h : w.heap[g]? = some (.cells (markA cur k0 m) T (0, 0))) (hv : v = k0 + (m : Nat)) : (w.setCell ⟨g, m, none⟩ (.int .i64 v)).heap[g]? = some (.cells (markA cur k0 (m + 1)) T (0, 0)) := by
  rw [heap_setCell_same _ _ _ _ _ _ h, hv]
  rfl
theorem grown_set (W : World) (g i : Nat) (v : Value) : W.grownBy (W.setCell ⟨g, i, none⟩ v) (some g) :=
  ⟨rfl, rfl, rfl, by simp [World.setCell], fun b _ hne => heap_setCell_other W ⟨g, i, none⟩ b v (fun e => hne (by rw [e]))⟩
theorem grown_trans {w w1 w2 : World} {g : Nat} (h1 : w.grownBy w1 (some g)) (h2 : w1.grownBy w2 (some g)) : w.grownBy w2 (some g) :=
  ⟨h2.os.trans h1.os, h2.tape.trans h1.tape, h2.output.trans h1.output, Nat.le_trans h1.size h2.size, fun b hb hne => (h2.block b (Nat.lt_of_lt_of_le hb h1.size) hne).trans (h1.block b hb hne)⟩
theorem grown_refl (w : World) (g : Nat) : w.grownBy w (some g) := ⟨rfl, rfl, rfl, Nat.le_refl _, fun _ _ _ => rfl⟩

end Go.Proofs.Ytfcplmageokdiaf
