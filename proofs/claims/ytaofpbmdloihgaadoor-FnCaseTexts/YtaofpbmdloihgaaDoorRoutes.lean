import Derived.Test.YtaofpbmdloihgaaDoorPack1
import Derived.Laws.MakeOwn
namespace Go.Proofs.YtaofpbmdloihgaaDoor
open Go.RowKit

/-- A route in a slice: its vehicle, where its stops lie, the stops, their room. -/
structure RT where
  v : Int
  a : Option Addr
  ids : List Int
  c : Nat
def rt0 : RT := ⟨0, none, [], 0⟩
instance : Inhabited RT := ⟨rt0⟩
def RT.key (r : RT) : Int × List Int := (r.v, r.ids)
def rtCells (r : RT) : List Value := [.int .i64 r.v, .slice r.a r.ids.length r.c]
/-- The cells of routes. -/
def rowR (R : List RT) : List Value := R.flatMap rtCells
theorem rowR_nil : rowR [] = [] := rfl
theorem rowR_cons (r : RT) (R : List RT) : rowR (r :: R) = rtCells r ++ rowR R := by simp [rowR]
theorem rowR_app (R S : List RT) : rowR (R ++ S) = rowR R ++ rowR S := by simp [rowR]
theorem rowR_len (R : List RT) : (rowR R).length = R.length * 2 := by
  induction R with
  | nil => rfl
  | cons r R ih => rw [rowR_cons, List.length_append, ih]; simp [rtCells]; omega
theorem rowR_at : ∀ (R : List RT) (j : Nat), j < R.length → (rowR R)[j * 2]? = some (.int .i64 (R.getD j rt0).v) ∧ (rowR R)[j * 2 + 1]? = some (.slice (R.getD j rt0).a (R.getD j rt0).ids.length (R.getD j rt0).c)
  | [], j, h => by simp at h
  | r :: R, 0, _ => by rw [rowR_cons]; exact ⟨rfl, rfl⟩
  | r :: R, j + 1, h => by
    have ih := rowR_at R j (by simpa using h)
    rw [rowR_cons]
    have e1 : (j + 1) * 2 = j * 2 + 2 := by omega
    have e2 : (j + 1) * 2 + 1 = j * 2 + 1 + 2 := by omega
    rw [e2, e1]
    simpa [rtCells] using ih
theorem rowR_set : ∀ (R : List RT) (j : Nat) (r : RT), j < R.length → ((rowR R).set (j * 2) (.int .i64 r.v)).set (j * 2 + 1) (.slice r.a r.ids.length r.c) = rowR (R.set j r)
  | [], j, r, h => by simp at h
  | x :: R, 0, r, _ => by rw [List.set_cons_zero, rowR_cons, rowR_cons]; rfl
  | x :: R, j + 1, r, h => by
    have ih := rowR_set R j r (by simpa using h)
    rw [List.set_cons_succ, rowR_cons, rowR_cons, ← ih]
    have e1 : (j + 1) * 2 = j * 2 + 2 := by omega
    have e2 : (j + 1) * 2 + 1 = j * 2 + 1 + 2 := by omega
    rw [e2, e1]
    rfl
/-- A slice of routes. -/
def RoutesAt (w : World) (ra : Option Addr) (R : List RT) : Prop := ∀ j, j < R.length → ∃ b off, ra = some ⟨b, off, none⟩ ∧ w.cell? ⟨b, off + j * 2, none⟩ = some (.int .i64 (R.getD j rt0).v) ∧ w.cell? ⟨b, off + j * 2 + 1, none⟩ = some (.slice (R.getD j rt0).a (R.getD j rt0).ids.length (R.getD j rt0).c) ∧ IntsAt w (R.getD j rt0).a (R.getD j rt0).ids
theorem RoutesAt.below {w w' : World} {ra : Option Addr} {R : List RT} (h : RoutesAt w ra R) (hb : Below w.heap.size w w') : RoutesAt w' ra R := fun j hj => by
  obtain ⟨b, off, e, h1, h2, h3⟩ := h j hj
  exact ⟨b, off, e, (hb.cell (p := ⟨b, off + j * 2, none⟩) (block_lt_of_cell h1)).trans h1, (hb.cell (p := ⟨b, off + j * 2 + 1, none⟩) (block_lt_of_cell h2)).trans h2, h3.below hb⟩
theorem RoutesAt.of_row {w : World} {g : Nat} {T : TypeId} {R : List RT} (h : w.heap[g]? = some (.cells (rowR R).toArray T (0, 0))) (hi : ∀ r ∈ R, IntsAt w r.a r.ids) : RoutesAt w (some ⟨g, 0, none⟩) R := fun j hj => by
  obtain ⟨h1, h2⟩ := rowR_at R j hj
  refine ⟨g, 0, rfl, ?_, ?_, hi _ (by rw [List.getD_eq_getElem?_getD, List.getElem?_eq_getElem hj]; simp)⟩
  · rw [cell_of_row _ _ _ _ _ _ h, Nat.zero_add]; simpa using h1
  · rw [cell_of_row _ _ _ _ _ _ h, Nat.zero_add]; simpa using h2
/-- What the sizes of routes leave. -/
def szR (R : List RT) (left : Int) : Nat → Int
  | 0 => left
  | k + 1 => if szR R left k < 0 then -1 else if szR R left k < ((R.getD k rt0).ids.length : Int) then -1 else szR R left k - (R.getD k rt0).ids.length
theorem szR_le (R : List RT) (left : Int) (h : 0 ≤ left) : ∀ k, szR R left k ≤ left ∧ -1 ≤ szR R left k
  | 0 => ⟨Int.le_refl _, by simp [szR]; omega⟩
  | k + 1 => by
    have ih := szR_le R left h k
    simp only [szR]
    split
    · omega
    · split
      · omega
      · omega
theorem szR_ids (R : List RT) (left : Int) (h : 0 ≤ left) : ∀ k j, j < k → 0 ≤ szR R left k → ((R.getD j rt0).ids.length : Int) ≤ left
  | 0, j, hj, _ => by omega
  | k + 1, j, hj, hs => by
    have hle := szR_le R left h k
    simp only [szR] at hs
    by_cases c1 : szR R left k < 0
    · rw [if_pos c1] at hs; omega
    · rw [if_neg c1] at hs
      by_cases c2 : szR R left k < ((R.getD k rt0).ids.length : Int)
      · rw [if_pos c2] at hs; omega
      · by_cases e : j = k
        · subst e; omega
        · exact szR_ids R left h k j (by omega) (by omega)

end Go.Proofs.YtaofpbmdloihgaaDoor
