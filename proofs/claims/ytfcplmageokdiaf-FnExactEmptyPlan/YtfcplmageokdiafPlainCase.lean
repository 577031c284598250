import Derived.Test.YtfcplmageokdiafPlain
namespace Go.Proofs.Ytfcplmageokdiaf
open Go.RowKit

/-- The field f of the element i of a row of elements of 6 numbers. -/
def og6 (zs : List Int) (i f : Nat) : Int := zs.getD (i * 6 + f) 0
theorem row6_at {w : World} {b off : Nat} {zs : List Int} {n : Nat} (h : ∀ j, j < zs.length → w.cell? ⟨b, off + j, none⟩ = some (.int .i64 (zs.getD j 0))) (hl : zs.length = n * 6) (i : Nat) (hi : i < n) :
    w.cell? ⟨b, off + i * 6, none⟩ = some (.int .i64 (og6 zs i 0)) ∧ w.cell? ⟨b, off + i * 6 + 1, none⟩ = some (.int .i64 (og6 zs i 1)) ∧ w.cell? ⟨b, off + i * 6 + 2, none⟩ = some (.int .i64 (og6 zs i 2)) ∧ w.cell? ⟨b, off + i * 6 + 3, none⟩ = some (.int .i64 (og6 zs i 3)) ∧ w.cell? ⟨b, off + i * 6 + 4, none⟩ = some (.int .i64 (og6 zs i 4)) ∧ w.cell? ⟨b, off + i * 6 + 5, none⟩ = some (.int .i64 (og6 zs i 5)) := by
  have hb : i * 6 + 6 ≤ zs.length := by omega
  refine ⟨?_, ?_, ?_, ?_, ?_, ?_⟩
  · exact h (i * 6) (by omega)
  · rw [Nat.add_assoc]; exact h (i * 6 + 1) (by omega)
  · rw [Nat.add_assoc]; exact h (i * 6 + 2) (by omega)
  · rw [Nat.add_assoc]; exact h (i * 6 + 3) (by omega)
  · rw [Nat.add_assoc]; exact h (i * 6 + 4) (by omega)
  · rw [Nat.add_assoc]; exact h (i * 6 + 5) (by omega)

/-- The field f of the element i of a row of elements of 5 numbers. -/
def og5 (zs : List Int) (i f : Nat) : Int := zs.getD (i * 5 + f) 0
theorem row5_at {w : World} {b off : Nat} {zs : List Int} {n : Nat} (h : ∀ j, j < zs.length → w.cell? ⟨b, off + j, none⟩ = some (.int .i64 (zs.getD j 0))) (hl : zs.length = n * 5) (i : Nat) (hi : i < n) :
    w.cell? ⟨b, off + i * 5, none⟩ = some (.int .i64 (og5 zs i 0)) ∧ w.cell? ⟨b, off + i * 5 + 1, none⟩ = some (.int .i64 (og5 zs i 1)) ∧ w.cell? ⟨b, off + i * 5 + 2, none⟩ = some (.int .i64 (og5 zs i 2)) ∧ w.cell? ⟨b, off + i * 5 + 3, none⟩ = some (.int .i64 (og5 zs i 3)) ∧ w.cell? ⟨b, off + i * 5 + 4, none⟩ = some (.int .i64 (og5 zs i 4)) := by
  have hb : i * 5 + 5 ≤ zs.length := by omega
  refine ⟨?_, ?_, ?_, ?_, ?_⟩
  · exact h (i * 5) (by omega)
  · rw [Nat.add_assoc]; exact h (i * 5 + 1) (by omega)
  · rw [Nat.add_assoc]; exact h (i * 5 + 2) (by omega)
  · rw [Nat.add_assoc]; exact h (i * 5 + 3) (by omega)
  · rw [Nat.add_assoc]; exact h (i * 5 + 4) (by omega)

/-- The hours are right. -/
def hoursB (f t : Int) : Bool := inB f 0 1000000 && inB t f 1000000
theorem hoursB_mk {f t : Int} (h1 : 0 ≤ f) (h2 : f ≤ t) (h3 : t ≤ 1000000) : hoursB f t = true := by
  unfold hoursB; rw [inB_mk (by omega), inB_mk (by omega)]; rfl
theorem hoursB_not {f t : Int} (h : ¬ (0 ≤ f ∧ f ≤ t ∧ t ≤ 1000000)) : hoursB f t = false := by
  unfold hoursB
  cases h1 : inB f 0 1000000
  · rfl
  · cases h2 : inB t f 1000000
    · rfl
    · have := inB_true h1; have := inB_true h2; omega

/-- An order's fields but for its number, and all of them. -/
def ordIn (n o1 o2 o3 o4 o5 : Int) : Bool := inB o1 0 (n - 1) && inB o2 0 1000 && hoursB o3 o4 && inB o5 0 10000
def ordB (n o0 o1 o2 o3 o4 o5 : Int) : Bool := inB o0 1 1000000000 && ordIn n o1 o2 o3 o4 o5
/-- A vehicle's. -/
def vehIn (n o1 o2 o3 o4 : Int) : Bool := inB o1 0 (n - 1) && inB o2 0 1000 && hoursB o3 o4
def vehB (n o0 o1 o2 o3 o4 : Int) : Bool := inB o0 1 1000000000 && vehIn n o1 o2 o3 o4

/-- The first k are right, their numbers rise. -/
def ordsTo (n : Int) (zs : List Int) (k : Nat) : Prop := ∀ i, i < k → ordB n (og6 zs i 0) (og6 zs i 1) (og6 zs i 2) (og6 zs i 3) (og6 zs i 4) (og6 zs i 5) = true ∧ (0 < i → og6 zs (i - 1) 0 < og6 zs i 0)
def ordsB (n : Int) (zs : List Int) (k : Nat) : Bool := decide (k ≤ 12 ∧ ∀ i, i < k → ordB n (og6 zs i 0) (og6 zs i 1) (og6 zs i 2) (og6 zs i 3) (og6 zs i 4) (og6 zs i 5) = true ∧ (0 < i → og6 zs (i - 1) 0 < og6 zs i 0))
theorem ordsB_yes {n : Int} {zs : List Int} {k : Nat} (h : k ≤ 12) (ht : ordsTo n zs k) : ordsB n zs k = true := by
  unfold ordsB
  exact decide_eq_true ⟨h, ht⟩
theorem ordsB_true {n : Int} {zs : List Int} {k : Nat} (h : ordsB n zs k = true) : k ≤ 12 ∧ ordsTo n zs k := by
  unfold ordsB at h
  have := of_decide_eq_true h
  exact ⟨this.1, this.2⟩
theorem ordsB_many {n : Int} {zs : List Int} {k : Nat} (h : ¬ k ≤ 12) : ordsB n zs k = false := decide_eq_false fun x => h x.1
theorem ordsB_bad {n : Int} {zs : List Int} {m k : Nat} (hk : k < m) (h : ¬ (ordB n (og6 zs k 0) (og6 zs k 1) (og6 zs k 2) (og6 zs k 3) (og6 zs k 4) (og6 zs k 5) = true ∧ (0 < k → og6 zs (k - 1) 0 < og6 zs k 0))) : ordsB n zs m = false := decide_eq_false fun x => h (x.2 k hk)
theorem ordsTo_zero (n : Int) (zs : List Int) : ordsTo n zs 0 := fun i hi => by omega
theorem ordsTo_step {n : Int} {zs : List Int} {k : Nat} (h : ordsTo n zs k) (h1 : ordB n (og6 zs k 0) (og6 zs k 1) (og6 zs k 2) (og6 zs k 3) (og6 zs k 4) (og6 zs k 5) = true) (h2 : 0 < k → og6 zs (k - 1) 0 < og6 zs k 0) : ordsTo n zs (k + 1) := by
  intro i hi
  by_cases e : i = k
  · subst e; exact ⟨h1, h2⟩
  · exact h i (by omega)
/-- The number ahead of the element k, 0 ahead of the first. -/
def ordsLast (zs : List Int) : Nat → Int
  | 0 => 0
  | k + 1 => og6 zs k 0
theorem ordsLast_bd {n : Int} {zs : List Int} {k : Nat} (h : ordsTo n zs k) : 0 ≤ ordsLast zs k ∧ ordsLast zs k ≤ 1000000000 := by
  cases k with
  | zero => simp [ordsLast]
  | succ k =>
    have h1 := (h k (by omega)).1
    unfold ordB at h1
    rw [Bool.and_eq_true] at h1
    have := inB_true h1.1
    show 0 ≤ og6 zs k 0 ∧ og6 zs k 0 ≤ 1000000000
    omega
/-- 'the number is last + 1 .. MaxId, and the rest is right': as the program asks it. -/
theorem ords_id {n : Int} {zs : List Int} {k : Nat} (h : ordsTo n zs k) (h1 : inB (og6 zs k 0) (ordsLast zs k + 1) 1000000000 = true) (h2 : ordIn n (og6 zs k 1) (og6 zs k 2) (og6 zs k 3) (og6 zs k 4) (og6 zs k 5) = true) :
    ordB n (og6 zs k 0) (og6 zs k 1) (og6 zs k 2) (og6 zs k 3) (og6 zs k 4) (og6 zs k 5) = true ∧ (0 < k → og6 zs (k - 1) 0 < og6 zs k 0) := by
  have hb := ordsLast_bd h
  have hi := inB_true h1
  refine ⟨?_, fun hk => ?_⟩
  · unfold ordB; rw [inB_mk (by omega), h2]; rfl
  · obtain ⟨j, rfl⟩ : ∃ j, k = j + 1 := ⟨k - 1, by omega⟩
    simp only [ordsLast] at hi
    simp only [Nat.add_sub_cancel]
    omega
theorem ords_id_no {n : Int} {zs : List Int} {k : Nat} (h : ¬ (inB (og6 zs k 0) (ordsLast zs k + 1) 1000000000 = true ∧ ordIn n (og6 zs k 1) (og6 zs k 2) (og6 zs k 3) (og6 zs k 4) (og6 zs k 5) = true)) :
    ¬ (ordB n (og6 zs k 0) (og6 zs k 1) (og6 zs k 2) (og6 zs k 3) (og6 zs k 4) (og6 zs k 5) = true ∧ (0 < k → og6 zs (k - 1) 0 < og6 zs k 0)) := by
  rintro ⟨h1, h2⟩
  unfold ordB at h1
  rw [Bool.and_eq_true] at h1
  refine h ⟨inB_mk ?_, h1.2⟩
  have hi := inB_true h1.1
  cases k with
  | zero => simp only [ordsLast]; omega
  | succ j =>
    have := h2 (by omega)
    simp only [Nat.add_sub_cancel] at this
    simp only [ordsLast]
    omega

/-- The first k are right, their numbers rise. -/
def vehsTo (n : Int) (zs : List Int) (k : Nat) : Prop := ∀ i, i < k → vehB n (og5 zs i 0) (og5 zs i 1) (og5 zs i 2) (og5 zs i 3) (og5 zs i 4) = true ∧ (0 < i → og5 zs (i - 1) 0 < og5 zs i 0)
def vehsB (n : Int) (zs : List Int) (k : Nat) : Bool := decide (k ≤ 5 ∧ ∀ i, i < k → vehB n (og5 zs i 0) (og5 zs i 1) (og5 zs i 2) (og5 zs i 3) (og5 zs i 4) = true ∧ (0 < i → og5 zs (i - 1) 0 < og5 zs i 0))
theorem vehsB_yes {n : Int} {zs : List Int} {k : Nat} (h : k ≤ 5) (ht : vehsTo n zs k) : vehsB n zs k = true := by
  unfold vehsB
  exact decide_eq_true ⟨h, ht⟩
theorem vehsB_true {n : Int} {zs : List Int} {k : Nat} (h : vehsB n zs k = true) : k ≤ 5 ∧ vehsTo n zs k := by
  unfold vehsB at h
  have := of_decide_eq_true h
  exact ⟨this.1, this.2⟩
theorem vehsB_many {n : Int} {zs : List Int} {k : Nat} (h : ¬ k ≤ 5) : vehsB n zs k = false := decide_eq_false fun x => h x.1
theorem vehsB_bad {n : Int} {zs : List Int} {m k : Nat} (hk : k < m) (h : ¬ (vehB n (og5 zs k 0) (og5 zs k 1) (og5 zs k 2) (og5 zs k 3) (og5 zs k 4) = true ∧ (0 < k → og5 zs (k - 1) 0 < og5 zs k 0))) : vehsB n zs m = false := decide_eq_false fun x => h (x.2 k hk)
theorem vehsTo_zero (n : Int) (zs : List Int) : vehsTo n zs 0 := fun i hi => by omega
theorem vehsTo_step {n : Int} {zs : List Int} {k : Nat} (h : vehsTo n zs k) (h1 : vehB n (og5 zs k 0) (og5 zs k 1) (og5 zs k 2) (og5 zs k 3) (og5 zs k 4) = true) (h2 : 0 < k → og5 zs (k - 1) 0 < og5 zs k 0) : vehsTo n zs (k + 1) := by
  intro i hi
  by_cases e : i = k
  · subst e; exact ⟨h1, h2⟩
  · exact h i (by omega)
/-- The number ahead of the element k, 0 ahead of the first. -/
def vehsLast (zs : List Int) : Nat → Int
  | 0 => 0
  | k + 1 => og5 zs k 0
theorem vehsLast_bd {n : Int} {zs : List Int} {k : Nat} (h : vehsTo n zs k) : 0 ≤ vehsLast zs k ∧ vehsLast zs k ≤ 1000000000 := by
  cases k with
  | zero => simp [vehsLast]
  | succ k =>
    have h1 := (h k (by omega)).1
    unfold vehB at h1
    rw [Bool.and_eq_true] at h1
    have := inB_true h1.1
    show 0 ≤ og5 zs k 0 ∧ og5 zs k 0 ≤ 1000000000
    omega
/-- 'the number is last + 1 .. MaxId, and the rest is right': as the program asks it. -/
theorem vehs_id {n : Int} {zs : List Int} {k : Nat} (h : vehsTo n zs k) (h1 : inB (og5 zs k 0) (vehsLast zs k + 1) 1000000000 = true) (h2 : vehIn n (og5 zs k 1) (og5 zs k 2) (og5 zs k 3) (og5 zs k 4) = true) :
    vehB n (og5 zs k 0) (og5 zs k 1) (og5 zs k 2) (og5 zs k 3) (og5 zs k 4) = true ∧ (0 < k → og5 zs (k - 1) 0 < og5 zs k 0) := by
  have hb := vehsLast_bd h
  have hi := inB_true h1
  refine ⟨?_, fun hk => ?_⟩
  · unfold vehB; rw [inB_mk (by omega), h2]; rfl
  · obtain ⟨j, rfl⟩ : ∃ j, k = j + 1 := ⟨k - 1, by omega⟩
    simp only [vehsLast] at hi
    simp only [Nat.add_sub_cancel]
    omega
theorem vehs_id_no {n : Int} {zs : List Int} {k : Nat} (h : ¬ (inB (og5 zs k 0) (vehsLast zs k + 1) 1000000000 = true ∧ vehIn n (og5 zs k 1) (og5 zs k 2) (og5 zs k 3) (og5 zs k 4) = true)) :
    ¬ (vehB n (og5 zs k 0) (og5 zs k 1) (og5 zs k 2) (og5 zs k 3) (og5 zs k 4) = true ∧ (0 < k → og5 zs (k - 1) 0 < og5 zs k 0)) := by
  rintro ⟨h1, h2⟩
  unfold vehB at h1
  rw [Bool.and_eq_true] at h1
  refine h ⟨inB_mk ?_, h1.2⟩
  have hi := inB_true h1.1
  cases k with
  | zero => simp only [vehsLast]; omega
  | succ j =>
    have := h2 (by omega)
    simp only [Nat.add_sub_cancel] at this
    simp only [vehsLast]
    omega

/-- A case is right. -/
def caseB (n : Int) (zs os vs : List Int) (ko kv : Nat) (fine : Int) : Bool := matB n zs && ordsB n os ko && vehsB n vs kv && inB fine 0 1000000

/-- Behind a call, what is known of a box of five cells. -/
theorem box5 {w w1 : World} {c0 c1 c2 c3 c4 : Value} {T : TypeId} (hb : Below (w.alloc (.cells #[c0, c1, c2, c3, c4] T)).heap.size (w.alloc (.cells #[c0, c1, c2, c3, c4] T)) w1) :
    Below w.heap.size w w1 ∧ w1.heap[w.heap.size]? = some (.cells #[c0, c1, c2, c3, c4] T (0, 0)) :=
  ⟨((Below.refl _ _).alloc (Nat.le_refl _) _).trans (hb.mono (by simp)), below_row hb (by simp) (heap_alloc_new _ _)⟩
theorem box_more {w w1 w2 : World} {k : Nat} {o : Obj} (hb : Below w1.heap.size w1 w2) (hB : Below w.heap.size w w1) (hr : w1.heap[k]? = some o) :
    Below w.heap.size w w2 ∧ w2.heap[k]? = some o := ⟨hB.trans (hb.mono hB.size), below_row hb (row_lt hr) hr⟩
theorem cells5 {w : World} {k : Nat} {c0 c1 c2 c3 c4 : Value} {T : TypeId} (r : w.heap[k]? = some (.cells #[c0, c1, c2, c3, c4] T (0, 0))) :
    w.cell? ⟨k, 0, none⟩ = some c0 ∧ w.cell? ⟨k, 1, none⟩ = some c1 ∧ w.cell? ⟨k, 2, none⟩ = some c2 ∧ w.cell? ⟨k, 3, none⟩ = some c3 ∧ w.cell? ⟨k, 4, none⟩ = some c4 := by
  refine ⟨?_, ?_, ?_, ?_, ?_⟩
  · rw [cell_of_row _ _ 0 _ _ _ r]; simp
  · rw [cell_of_row _ _ 1 _ _ _ r]; simp
  · rw [cell_of_row _ _ 2 _ _ _ r]; simp
  · rw [cell_of_row _ _ 3 _ _ _ r]; simp
  · rw [cell_of_row _ _ 4 _ _ _ r]; simp
theorem cells6 {w : World} {k : Nat} {c0 c1 c2 c3 c4 c5 : Value} {T : TypeId} (r : w.heap[k]? = some (.cells #[c0, c1, c2, c3, c4, c5] T (0, 0))) :
    w.cell? ⟨k, 0, none⟩ = some c0 ∧ w.cell? ⟨k, 1, none⟩ = some c1 ∧ w.cell? ⟨k, 2, none⟩ = some c2 ∧ w.cell? ⟨k, 3, none⟩ = some c3 ∧ w.cell? ⟨k, 4, none⟩ = some c4 ∧ w.cell? ⟨k, 5, none⟩ = some c5 := by
  refine ⟨?_, ?_, ?_, ?_, ?_, ?_⟩
  · rw [cell_of_row _ _ 0 _ _ _ r]; simp
  · rw [cell_of_row _ _ 1 _ _ _ r]; simp
  · rw [cell_of_row _ _ 2 _ _ _ r]; simp
  · rw [cell_of_row _ _ 3 _ _ _ r]; simp
  · rw [cell_of_row _ _ 4 _ _ _ r]; simp
  · rw [cell_of_row _ _ 5 _ _ _ r]; simp

end Go.Proofs.Ytfcplmageokdiaf
