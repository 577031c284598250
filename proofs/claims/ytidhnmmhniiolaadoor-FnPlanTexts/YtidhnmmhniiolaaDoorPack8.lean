import Derived.Test.YtidhnmmhniiolaaDoorPack1
import Derived.Laws.MakeOwn
namespace Go.Proofs.YtidhnmmhniiolaaDoor
open Go.RowKit

/-- A route in a slice: its vehicle, where its stops lie, the stops, their room. -/
structure RT where
  v : Int
  a : Option Addr
  ids : List Int
  c : Nat
def rt0 : RT := ⟨0, none, [], 0⟩
instance : Inhabited RT := ⟨rt0⟩
def RT.key (r : RT) : Int × List Int := (r.v, r.ids)
def rtCells (r : RT) : List Value := [.int .i64 r.v, .slice r.a r.ids.length r.c]
/-- The cells of routes. -/
def rowR (R : List RT) : List Value := R.flatMap rtCells
theorem rowR_nil : rowR [] = [] := rfl
theorem rowR_cons (r : RT) (R : List RT) : rowR (r :: R) = rtCells r ++ rowR R := by simp [rowR]
theorem rowR_app (R S : List RT) : rowR (R ++ S) = rowR R ++ rowR S := by simp [rowR]
theorem rowR_len (R : List RT) : (rowR R).length = R.length * 2 := by
  induction R with
  | nil => rfl
  | cons r R ih => rw [rowR_cons, List.length_append, ih]; simp [rtCells]; omega
theorem rowR_at : ∀ (R : List RT) (j : Nat), j < R.length → (rowR R)[j * 2]? = some (.int .i64 (R.getD j rt0).v) ∧ (rowR R)[j * 2 + 1]? = some (.slice (R.getD j rt0).a (R.getD j rt0).ids.length (R.getD j rt0).c)
  | [], j, h => by simp at h
  | r :: R, 0, _ => by rw [rowR_cons]; exact ⟨rfl, rfl⟩
  | r :: R, j + 1, h => by
    have ih := rowR_at R j (by simpa using h)
    rw [rowR_cons]
    have e1 : (j + 1) * 2 = j * 2 + 2 := by omega
    have e2 : (j + 1) * 2 + 1 = j * 2 + 1 + 2 := by omega
    rw [e2, e1]
    simpa [rtCells] using ih
theorem rowR_set : ∀ (R : List RT) (j : Nat) (r : RT), j < R.length → ((rowR R).set (j * 2) (.int .i64 r.v)).set (j * 2 + 1) (.slice r.a r.ids.length r.c) = rowR (R.set j r)
  | [], j, r, h => by simp at h
  | x :: R, 0, r, _ => by rw [List.set_cons_zero, rowR_cons, rowR_cons]; rfl
  | x :: R, j + 1, r, h => by
    have ih := rowR_set R j r (by simpa using h)
    rw [List.set_cons_succ, rowR_cons, rowR_cons, ← ih]
    have e1 : (j + 1) * 2 = j * 2 + 2 := by omega
    have e2 : (j + 1) * 2 + 1 = j * 2 + 1 + 2 := by omega
    rw [e2, e1]
    rfl
/-- A slice of routes. -/
def RoutesAt (w : World) (ra : Option Addr) (R : List RT) : Prop := ∀ j, j < R.length → ∃ b off, ra = some ⟨b, off, none⟩ ∧ w.cell? ⟨b, off + j * 2, none⟩ = some (.int .i64 (R.getD j rt0).v) ∧ w.cell? ⟨b, off + j * 2 + 1, none⟩ = some (.slice (R.getD j rt0).a (R.getD j rt0).ids.length (R.getD j rt0).c) ∧ IntsAt w (R.getD j rt0).a (R.getD j rt0).ids
theorem RoutesAt.below {w w' : World} {ra : Option Addr} {R : List RT} (h : RoutesAt w ra R) (hb : Below w.heap.size w w') : RoutesAt w' ra R := fun j hj => by
  obtain ⟨b, off, e, h1, h2, h3⟩ := h j hj
  exact ⟨b, off, e, (hb.cell (p := ⟨b, off + j * 2, none⟩) (block_lt_of_cell h1)).trans h1, (hb.cell (p := ⟨b, off + j * 2 + 1, none⟩) (block_lt_of_cell h2)).trans h2, h3.below hb⟩
theorem RoutesAt.of_row {w : World} {g : Nat} {T : TypeId} {R : List RT} (h : w.heap[g]? = some (.cells (rowR R).toArray T (0, 0))) (hi : ∀ r ∈ R, IntsAt w r.a r.ids) : RoutesAt w (some ⟨g, 0, none⟩) R := fun j hj => by
  obtain ⟨h1, h2⟩ := rowR_at R j hj
  refine ⟨g, 0, rfl, ?_, ?_, hi _ (by rw [List.getD_eq_getElem?_getD, List.getElem?_eq_getElem hj]; simp)⟩
  · rw [cell_of_row _ _ _ _ _ _ h, Nat.zero_add]; simpa using h1
  · rw [cell_of_row _ _ _ _ _ _ h, Nat.zero_add]; simpa using h2
/-- What the sizes of routes leave. -/
def szR (R : List RT) (left : Int) : Nat → Int
  | 0 => left
  | k + 1 => if szR R left k < 0 then -1 else if szR R left k < ((R.getD k rt0).ids.length : Int) then -1 else szR R left k - (R.getD k rt0).ids.length
theorem szR_le (R : List RT) (left : Int) (h : 0 ≤ left) : ∀ k, szR R left k ≤ left ∧ -1 ≤ szR R left k
  | 0 => ⟨Int.le_refl _, by simp [szR]; omega⟩
  | k + 1 => by
    have ih := szR_le R left h k
    simp only [szR]
    split
    · omega
    · split
      · omega
      · omega
theorem szR_ids (R : List RT) (left : Int) (h : 0 ≤ left) : ∀ k j, j < k → 0 ≤ szR R left k → ((R.getD j rt0).ids.length : Int) ≤ left
  | 0, j, hj, _ => by omega
  | k + 1, j, hj, hs => by
    have hle := szR_le R left h k
    simp only [szR] at hs
    by_cases c1 : szR R left k < 0
    · rw [if_pos c1] at hs; omega
    · rw [if_neg c1] at hs
      by_cases c2 : szR R left k < ((R.getD k rt0).ids.length : Int)
      · rw [if_pos c2] at hs; omega
      · by_cases e : j = k
        · subst e; omega
        · exact szR_ids R left h k j (by omega) (by omega)

end Go.Proofs.YtidhnmmhniiolaaDoor

namespace Go.Proofs.YtidhnmmhniiolaaDoor
open Go.RowKit

/-- A step of l4Set: the routes so far, and whether the new one stands among them. -/
def setS (r : RT) (s : List RT × Bool) (x : RT) : List RT × Bool :=
  (s.1 ++ (if s.2 = false ∧ r.v ≤ x.v then [r] else []) ++ (if x.v = r.v then [] else [x]), s.2 || decide (r.v ≤ x.v))
def setTo (R : List RT) (r : RT) (k : Nat) : List RT × Bool := (R.take k).foldl (setS r) ([], false)
/-- A plan's routes with a vehicle's route in the place of its old one. -/
def setL (R : List RT) (r : RT) : List RT := if (setTo R r R.length).2 then (setTo R r R.length).1 else (setTo R r R.length).1 ++ [r]
theorem setTo_zero (R : List RT) (r : RT) : setTo R r 0 = ([], false) := rfl
theorem setTo_succ {R : List RT} {k : Nat} (r : RT) (hk : k < R.length) : setTo R r (k + 1) = setS r (setTo R r k) (R.getD k rt0) := by
  unfold setTo
  rw [List.take_succ_eq_append_getElem hk, List.foldl_append]
  simp [List.getD, hk]
theorem setTo_facts (R : List RT) (r : RT) : ∀ k, k ≤ R.length → (∀ x ∈ (setTo R r k).1, x ∈ R ∨ x = r) ∧ (setTo R r k).1.length ≤ k + (if (setTo R r k).2 then 1 else 0)
  | 0, _ => ⟨fun x hx => by simp [setTo_zero] at hx, by simp [setTo_zero]⟩
  | k + 1, h => by
    obtain ⟨h1, h2⟩ := setTo_facts R r k (by omega)
    have hk : k < R.length := by omega
    have hm : R.getD k rt0 ∈ R := by rw [List.getD_eq_getElem?_getD, List.getElem?_eq_getElem hk]; simp
    rw [setTo_succ r hk]
    unfold setS
    refine ⟨fun x hx => ?_, ?_⟩
    · simp only [List.mem_append] at hx
      rcases hx with (hx | hx) | hx
      · exact h1 x hx
      · split at hx
        · exact .inr (by simpa using hx)
        · cases hx
      · split at hx
        · cases hx
        · have : x = R.getD k rt0 := by simpa using hx
          rw [this]
          exact .inl hm
    · generalize R.getD k rt0 = x
      have hA : (if x.v = r.v then [] else [x]).length ≤ 1 := by split <;> simp
      simp only [List.length_append]
      generalize (if x.v = r.v then [] else [x]).length = y at *
      generalize setTo R r k = s at *
      obtain ⟨o, d⟩ := s
      simp only at h2 ⊢
      cases d
      · by_cases hv : r.v ≤ x.v <;> simp [hv] at h2 ⊢ <;> omega
      · simp at h2 ⊢
        omega
theorem setL_facts (R : List RT) (r : RT) : (∀ x ∈ setL R r, x ∈ R ∨ x = r) ∧ (setL R r).length ≤ R.length + 1 := by
  obtain ⟨h1, h2⟩ := setTo_facts R r R.length (Nat.le_refl _)
  unfold setL
  cases hd : (setTo R r R.length).2
  · rw [hd] at h2
    simp only [Bool.false_eq_true, if_false] at h2 ⊢
    refine ⟨fun x hx => ?_, by simp; omega⟩
    rcases List.mem_append.1 hx with hx | hx
    · exact h1 x hx
    · exact .inr (by simpa using hx)
  · rw [hd] at h2
    simp only [if_true] at h2 ⊢
    exact ⟨h1, h2⟩
/-- The five ways of a step. -/
theorem set_lt {r x : RT} {o : List RT} (h : x.v < r.v) : setS r (o, false) x = (o ++ [x], false) := by
  have h1 : ¬ r.v ≤ x.v := by omega
  have h2 : ¬ x.v = r.v := by omega
  simp [setS, h1, h2]
theorem set_eq {r x : RT} {o : List RT} (h : x.v = r.v) : setS r (o, false) x = (o ++ [r], true) := by simp [setS, h]
theorem set_gt {r x : RT} {o : List RT} (h : r.v < x.v) : setS r (o, false) x = (o ++ [r] ++ [x], true) := by
  have h1 : r.v ≤ x.v := by omega
  have h2 : ¬ x.v = r.v := by omega
  simp [setS, h1, h2]
theorem set_ne {r x : RT} {o : List RT} (h : x.v ≠ r.v) : setS r (o, true) x = (o ++ [x], true) := by simp [setS, h]
theorem set_same {r x : RT} {o : List RT} (h : x.v = r.v) : setS r (o, true) x = (o, true) := by simp [setS, h]

end Go.Proofs.YtidhnmmhniiolaaDoor

namespace Go.Proofs.YtidhnmmhniiolaaDoor
open Go.RowKit

theorem infoRt : (Tryd.prog.info? 49).map (fun i => (i.zero, i.size, i.bytes)) = some (some (.agg #[Value.int IntKind.i64 0, Value.slice none 0 0]), 2, 32) := by kernel_rfl
theorem rowR_zero (n : Nat) : rowR (List.replicate n rt0) = (List.replicate n [Value.int IntKind.i64 0, Value.slice none 0 0]).flatten := by
  induction n with
  | zero => rfl
  | succ n ih => rw [List.replicate_succ, rowR_cons, ih, List.replicate_succ, List.flatten_cons]; rfl
theorem made_rt (n : Nat) : madeCells (Value.agg #[Value.int IntKind.i64 0, Value.slice none 0 0]).cells (n * 2) = (rowR (List.replicate n rt0)).toArray := by
  apply Array.ext
  · simp [madeCells, rowR_len]
  · intro i h1 h2
    have hi : i < n * 2 := by simpa [madeCells] using h1
    obtain ⟨j, hj⟩ : ∃ j, j = i / 2 := ⟨_, rfl⟩
    have hjn : j < (List.replicate n rt0).length := by simp; omega
    obtain ⟨g1, g2⟩ := rowR_at (List.replicate n rt0) j hjn
    have hd : (List.replicate n rt0).getD j rt0 = rt0 := by simp only [List.getD_eq_getElem?_getD]; rw [List.getElem?_replicate]; split <;> rfl
    rw [hd] at g1 g2
    simp only [madeCells, Value.cells, Array.getElem_map, Array.getElem_range, List.getElem_toArray]
    rcases Nat.mod_two_eq_zero_or_one i with h | h
    · have e : i = j * 2 := by omega
      subst e
      have := List.getElem?_eq_some_iff.1 g1
      rw [this.2]
      show (#[Value.int IntKind.i64 0, Value.slice none 0 0])[(j * 2) % 2]! = _
      rw [h]
      rfl
    · have e : i = j * 2 + 1 := by omega
      subst e
      have := List.getElem?_eq_some_iff.1 g2
      rw [this.2]
      show (#[Value.int IntKind.i64 0, Value.slice none 0 0])[(j * 2 + 1) % 2]! = _
      rw [h]
      rfl
theorem make_rt (W : World) (len : Nat) (hlen : len ≤ 1048576) :
    (Instr.makeSlice 24 (.int .i64 len) (.int .i64 len)).run Tryd.prog W = .ok (.slice (some ⟨W.heap.size, 0, none⟩) len len) (W.alloc (.cells (rowR (List.replicate len rt0)).toArray 49)) := by
  have h := infoRt
  cases hq : Tryd.prog.info? 49 with
  | none => simp [hq] at h
  | some i =>
    simp [hq] at h
    obtain ⟨hz, hs, hb⟩ := h
    have := run_make (P := Tryd.prog) W 24 49 i (.agg #[Value.int IntKind.i64 0, Value.slice none 0 0]) Tryd.underlying24 hq hz .i64 .i64 len len (by omega) (by omega) (by rw [hb]; omega) (by omega)
    rw [this, hs]
    simp only [Int.toNat_natCast, made_rt]
/-- Routes of the same vehicles and stops, in new rows behind base. -/
def NewR (w : World) (base : Nat) (R S : List RT) : Prop := S.map RT.key = R.map RT.key ∧ ∀ s ∈ S, ∃ g, s.a = some ⟨g, 0, none⟩ ∧ base ≤ g ∧ s.c = s.ids.length ∧ w.heap[g]? = some (.cells (cellsOf s.ids) 2 (0, 0))
theorem NewR.below {w w' : World} {base : Nat} {R S : List RT} (h : NewR w base R S) (hb : Below w.heap.size w w') : NewR w' base R S :=
  ⟨h.1, fun s hs => by obtain ⟨g, h1, h2, h3, h4⟩ := h.2 s hs; exact ⟨g, h1, h2, h3, below_row hb (row_lt h4) h4⟩⟩
theorem NewR.ints {w : World} {base : Nat} {R S : List RT} (h : NewR w base R S) : ∀ s ∈ S, IntsAt w s.a s.ids := fun s hs => by
  obtain ⟨g, h1, _, _, h4⟩ := h.2 s hs
  rw [h1]
  exact IntsAt.of_row h4

theorem row_sets {W : World} {g k i : Nat} {o : Obj} {v : Value} (h : W.heap[g]? = some o) (hne : g ≠ k) : (W.setCell ⟨k, i, none⟩ v).heap[g]? = some o := by
  rw [heap_setCell_other _ _ _ _ (by simpa using hne)]; exact h
theorem NewR.set {w : World} {base k i : Nat} {v : Value} {R S : List RT} (h : NewR w base R S) (hk : k < base) : NewR (w.setCell ⟨k, i, none⟩ v) base R S :=
  ⟨h.1, fun s hs => by obtain ⟨g, h1, h2, h3, h4⟩ := h.2 s hs; exact ⟨g, h1, h2, h3, row_sets h4 (by omega)⟩⟩
theorem NewR.base {w : World} {base b0 : Nat} {R S : List RT} (h : NewR w base R S) (hb : b0 ≤ base) : NewR w b0 R S :=
  ⟨h.1, fun s hs => by obtain ⟨g, h1, h2, h3, h4⟩ := h.2 s hs; exact ⟨g, h1, by omega, h3, h4⟩⟩

end Go.Proofs.YtidhnmmhniiolaaDoor

namespace Go.Proofs.YtidhnmmhniiolaaDoor
open Go.RowKit

/-- No two rows of a plan are the same, but for those that are none. -/
def Apt (S : List RT) (la : Option Addr) : Prop := (la :: S.map RT.a).Pairwise (fun x y => x = none ∨ x ≠ y)
theorem Apt.keys {S T : List RT} {la : Option Addr} (h : Apt S la) (e : T.map RT.a = S.map RT.a) : Apt T la := by unfold Apt at h ⊢; rw [e]; exact h
theorem Apt.left {S : List RT} {la : Option Addr} (h : Apt S la) {t : RT} (ht : t ∈ S) : la = none ∨ la ≠ t.a := (List.pairwise_cons.1 h).1 t.a (List.mem_map_of_mem ht)
theorem Apt.head {P Q : List RT} {s t : RT} {la : Option Addr} (h : Apt (P ++ s :: Q) la) (ht : t ∈ P) : t.a = none ∨ t.a ≠ s.a := by
  have h1 := (List.pairwise_cons.1 h).2
  rw [List.map_append, List.map_cons] at h1
  exact (List.pairwise_append.1 h1).2.2 t.a (List.mem_map_of_mem ht) s.a (by simp)
theorem Apt.tail {P Q : List RT} {s t : RT} {la : Option Addr} (h : Apt (P ++ s :: Q) la) (ht : t ∈ Q) : s.a = none ∨ s.a ≠ t.a := by
  have h1 := (List.pairwise_cons.1 h).2
  rw [List.map_append, List.map_cons] at h1
  exact (List.pairwise_cons.1 (List.pairwise_append.1 h1).2.1).1 t.a (List.mem_map_of_mem ht)

end Go.Proofs.YtidhnmmhniiolaaDoor
