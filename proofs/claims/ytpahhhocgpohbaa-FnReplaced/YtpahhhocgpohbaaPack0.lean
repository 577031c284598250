import Derived.WalkKit
import Derived.WalkSpells
import Derived.Deep.WholeRow
namespace Go.Proofs.Ytpahhhocgpohbaa
open Go.RowKit

/-- An operation by its own run. -/
theorem wpList_run {P : Program} {ops : Array Oper} {rest : List Oper} {o : Oper} {a : Act} {w w' : World} {Q : Exit → Act → World → Prop} (v : Value) (hgd : o.guard = none)
    (hrun : (execOp a.eval o).run P w = .ok (.value v) w') (h : wpList P ops Q rest (a.put o.dst v) w') : wpList P ops Q (o :: rest) a w :=
  wpList_plain hgd fun _ hK => by unfold Oper.wp; rw [hrun]; exact hK _ _ h

theorem bcell {W w1 : World} (hb : Below W.heap.size W w1) : (∀ b o, b < W.heap.size → w1.cell? ⟨b, o, none⟩ = W.cell? ⟨b, o, none⟩) ∧ (∀ b o, b < W.heap.size → w1.frozen? ⟨b, o, none⟩ = W.frozen? ⟨b, o, none⟩) :=
  ⟨fun b o h => hb.cell (p := ⟨b, o, none⟩) h, fun b o h => hb.frozen (p := ⟨b, o, none⟩) h⟩

theorem take_snoc (zs : List Int) (k : Nat) (h : k < zs.length) : zs.take (k + 1) = zs.take k ++ [zs.getD k 0] := by
  rw [List.take_succ_eq_append_getElem h]; simp [List.getD, h]

theorem ret_bool {a b : Bool} (h : a = b) : Ending.returned (.bool a) = .returned (.bool b) := by rw [h]

theorem ret_int {k : IntKind} {a b : Int} (h : a = b) : Ending.returned (.int k a) = .returned (.int k b) := by rw [h]

/-- n is lo .. hi. -/
def inB (n lo hi : Int) : Bool := decide (lo ≤ n ∧ n ≤ hi)

theorem inB_mk {n lo hi : Int} (h : lo ≤ n ∧ n ≤ hi) : inB n lo hi = true := decide_eq_true h

theorem inB_not {n lo hi : Int} (h : ¬ (lo ≤ n ∧ n ≤ hi)) : inB n lo hi = false := decide_eq_false h

theorem inB_true {n lo hi : Int} (h : inB n lo hi = true) : lo ≤ n ∧ n ≤ hi := of_decide_eq_true h

theorem inB_false {n lo hi : Int} (h : inB n lo hi = false) : ¬ (lo ≤ n ∧ n ≤ hi) := of_decide_eq_false h

/-- The cells of a row of int64s. -/
def cellsOf (l : List Int) : Array Value := (l.map (Value.int .i64)).toArray

theorem cellsOf_size (l : List Int) : (cellsOf l).size = l.length := by simp [cellsOf]

theorem cellsOf_get (l : List Int) (i : Nat) (h : i < l.length) : (cellsOf l)[i]? = some (.int .i64 (l.getD i 0)) := by
  simp [cellsOf, List.getD, h]

theorem cellsOf_set (l : List Int) (i : Nat) (v : Int) : (cellsOf l).setIfInBounds i (.int .i64 v) = cellsOf (l.set i v) := by
  simp [cellsOf, List.map_set]

theorem cellsOf_one (l : List Int) : (cellsOf l).all (·.oneCell') = true := by
  simp [cellsOf, Value.oneCell']

theorem below_setRow {B : Nat} {a w : World} (h : Below B a w) {g : Nat} (hg : B ≤ g) (cs : Array Value) : Below B a (w.setRow g cs) :=
  h.trans ⟨rfl, rfl, rfl, by simp, fun k hk => setRow_other w g k cs (by omega)⟩

/-- The slice at 'a' holds the numbers zs. -/
def IntsAt (w : World) (a : Option Addr) (zs : List Int) : Prop :=
  ∀ j, j < zs.length → ∃ b off, a = some ⟨b, off, none⟩ ∧ w.cell? ⟨b, off + j, none⟩ = some (.int .i64 (zs.getD j 0))

theorem IntsAt.some {w : World} {a : Option Addr} {zs : List Int} (h : IntsAt w a zs) {j : Nat} (hj : j < zs.length) :
    ∃ b off, a = some ⟨b, off, none⟩ ∧ ∀ j, j < zs.length → w.cell? ⟨b, off + j, none⟩ = .some (.int .i64 (zs.getD j 0)) := by
  obtain ⟨b, off, e, _⟩ := h j hj
  refine ⟨b, off, e, fun k hk => ?_⟩
  obtain ⟨b', off', e', hc⟩ := h k hk
  rw [e] at e'
  simp at e'
  obtain ⟨rfl, rfl⟩ := e'
  exact hc

theorem IntsAt.below {w w' : World} {a : Option Addr} {zs : List Int} (h : IntsAt w a zs) (hb : Below w.heap.size w w') : IntsAt w' a zs := by
  intro j hj
  obtain ⟨b, off, e, hc⟩ := h j hj
  refine ⟨b, off, e, ?_⟩
  have hl := block_lt_of_cell hc
  rw [hb.cell (p := ⟨b, off + j, none⟩) hl]
  exact hc

theorem IntsAt.of_row {w : World} {g : Nat} {zs : List Int} {t : TypeId} (h : w.heap[g]? = .some (.cells (cellsOf zs) t (0, 0))) : IntsAt w (.some ⟨g, 0, none⟩) zs := by
  intro j hj
  refine ⟨g, 0, rfl, ?_⟩
  rw [Nat.zero_add, cell_of_row _ _ _ _ _ _ h, cellsOf_get _ _ hj]

/-- A matrix of n places with these times is right. -/
def matB (n : Int) (zs : List Int) : Bool :=
  decide (1 ≤ n ∧ n ≤ 16 ∧ (zs.length : Int) = n * n ∧ ∀ i, i < zs.length → 0 ≤ zs.getD i 0 ∧ zs.getD i 0 ≤ 10000 ∧ (i / n.toNat = i % n.toNat → zs.getD i 0 = 0))

theorem matB_true {n : Int} {zs : List Int} (h : matB n zs = true) : 1 ≤ n ∧ n ≤ 16 ∧ (zs.length : Int) = n * n ∧ ∀ i, i < zs.length → 0 ≤ zs.getD i 0 ∧ zs.getD i 0 ≤ 10000 ∧ (i / n.toNat = i % n.toNat → zs.getD i 0 = 0) :=
  of_decide_eq_true h

theorem matB_mk {n : Int} {zs : List Int} (h : 1 ≤ n ∧ n ≤ 16 ∧ (zs.length : Int) = n * n ∧ ∀ i, i < zs.length → 0 ≤ zs.getD i 0 ∧ zs.getD i 0 ≤ 10000 ∧ (i / n.toNat = i % n.toNat → zs.getD i 0 = 0)) : matB n zs = true :=
  decide_eq_true h

theorem matB_not {n : Int} {zs : List Int} (h : ¬ (1 ≤ n ∧ n ≤ 16 ∧ (zs.length : Int) = n * n ∧ ∀ i, i < zs.length → 0 ≤ zs.getD i 0 ∧ zs.getD i 0 ≤ 10000 ∧ (i / n.toNat = i % n.toNat → zs.getD i 0 = 0))) : matB n zs = false :=
  decide_eq_false h

/-- The grid of n places, filled up to the place (a, b). -/
def gridTo (n : Nat) (zs : List Int) (a b : Nat) : List Int :=
  (List.range 256).map fun k => if k / 16 < n ∧ k % 16 < n ∧ (k / 16 < a ∨ k / 16 = a ∧ k % 16 < b) then zs.getD (k / 16 * n + k % 16) 0 else 0

theorem gridTo_length (n : Nat) (zs : List Int) (a b : Nat) : (gridTo n zs a b).length = 256 := by simp [gridTo]

theorem gridTo_step (n : Nat) (zs : List Int) (a b : Nat) (ha : a < n) (hb : b < n) (hn : n ≤ 16) :
    (gridTo n zs a b).set (a * 16 + b) (zs.getD (a * n + b) 0) = gridTo n zs a (b + 1) := by
  apply List.ext_getElem
  · simp [gridTo]
  · intro k h1 h2
    have hk : k < 256 := by simpa [gridTo] using h2
    by_cases e : a * 16 + b = k
    · subst e
      have e1 : (a * 16 + b) / 16 = a := by omega
      have e2 : (a * 16 + b) % 16 = b := by omega
      simp only [gridTo, List.getElem_set, List.getElem_map, List.getElem_range, e1, e2, if_true]
      rw [if_pos ⟨ha, hb, Or.inr ⟨trivial, by omega⟩⟩]
    · simp only [gridTo, List.getElem_set, List.getElem_map, List.getElem_range, if_neg e]
      have : ¬ (k / 16 = a ∧ k % 16 = b) := by omega
      by_cases c : k / 16 < n ∧ k % 16 < n ∧ (k / 16 < a ∨ k / 16 = a ∧ k % 16 < b)
      · rw [if_pos c, if_pos ⟨c.1, c.2.1, by omega⟩]
      · rw [if_neg c, if_neg (by omega)]

theorem gridTo_row (n : Nat) (zs : List Int) (a : Nat) : gridTo n zs a n = gridTo n zs (a + 1) 0 := by
  unfold gridTo
  apply List.map_congr_left
  intro k _
  by_cases c : k / 16 < n ∧ k % 16 < n ∧ (k / 16 < a ∨ k / 16 = a ∧ k % 16 < n)
  · rw [if_pos c, if_pos (by omega)]
  · rw [if_neg c, if_neg (by omega)]

def zeros : List Int := (List.range 256).map fun _ => 0

theorem zeros_length : zeros.length = 256 := by simp [zeros]

theorem gridTo_zero (n : Nat) (zs : List Int) : gridTo n zs 0 0 = zeros := by
  unfold gridTo zeros
  apply List.map_congr_left
  intro k _
  rw [if_neg (by omega)]

/-- What gridOf makes of a matrix. -/
def gridRes (n : Int) (zs : List Int) : List Int := if matB n zs = true then gridTo n.toNat zs n.toNat 0 else zeros

theorem gridRes_true {n : Nat} {zs : List Int} (h : matB n zs = true) : gridRes n zs = gridTo n zs n 0 := by
  unfold gridRes; rw [if_pos h]; simp

theorem gridRes_false {n : Int} {zs : List Int} (h : matB n zs = false) : gridRes n zs = zeros := by
  unfold gridRes; rw [h]; simp

theorem gridRes_length (n : Int) (zs : List Int) : (gridRes n zs).length = 256 := by
  unfold gridRes; split
  · exact gridTo_length _ _ _ _
  · exact zeros_length

/-- All times up to the place (a, b) are right. -/
def okTo (n : Nat) (zs : List Int) (a b : Nat) : Prop :=
  ∀ i j, i < n → j < n → (i < a ∨ i = a ∧ j < b) → 0 ≤ zs.getD (i * n + j) 0 ∧ zs.getD (i * n + j) 0 ≤ 10000 ∧ (i = j → zs.getD (i * n + j) 0 = 0)

theorem okTo_zero (n : Nat) (zs : List Int) : okTo n zs 0 0 := by intro i j _ _ h; omega

theorem okTo_step {n : Nat} {zs : List Int} {a b : Nat} (h : okTo n zs a b) (h0 : 0 ≤ zs.getD (a * n + b) 0) (h1 : zs.getD (a * n + b) 0 ≤ 10000) (h2 : a = b → zs.getD (a * n + b) 0 = 0) : okTo n zs a (b + 1) := by
  intro i j hi hj hij
  by_cases e : i = a ∧ j = b
  · obtain ⟨rfl, rfl⟩ := e; exact ⟨h0, h1, h2⟩
  · exact h i j hi hj (by omega)

theorem okTo_row {n : Nat} {zs : List Int} {a : Nat} (h : okTo n zs a n) : okTo n zs (a + 1) 0 := by
  intro i j hi hj hij
  exact h i j hi hj (by omega)

theorem div_mod_at (n i j : Nat) (hj : j < n) : (i * n + j) / n = i ∧ (i * n + j) % n = j := by
  have hn : 0 < n := by omega
  constructor
  · rw [Nat.add_comm, Nat.add_mul_div_right _ _ hn, Nat.div_eq_of_lt hj, Nat.zero_add]
  · rw [Nat.add_comm, Nat.add_mul_mod_self_right, Nat.mod_eq_of_lt hj]

theorem at_div_mod (n k : Nat) (h : k < n * n) : k / n < n ∧ k % n < n ∧ k / n * n + k % n = k := by
  have hn : 0 < n := by rcases Nat.eq_zero_or_pos n with e | e; · subst e; simp at h
                        exact e
  exact ⟨(Nat.div_lt_iff_lt_mul hn).2 h, Nat.mod_lt _ hn, by rw [Nat.mul_comm]; exact Nat.div_add_mod k n⟩

theorem matB_of_okTo (n : Nat) (zs : List Int) (h1 : 1 ≤ n) (h2 : n ≤ 16) (hl : zs.length = n * n) (h : okTo n zs n 0) : matB n zs = true := by
  refine matB_mk ⟨by omega, by omega, by rw [hl]; simp, fun i hi => ?_⟩
  obtain ⟨a, b, c⟩ := at_div_mod n i (by omega)
  have := h (i / n) (i % n) a b (Or.inl a)
  rw [c] at this
  simpa using this

theorem matB_bad (n : Nat) (zs : List Int) (x y : Nat) (hx : x < n) (hy : y < n) (hl : zs.length = n * n) (h : ¬ (0 ≤ zs.getD (x * n + y) 0 ∧ zs.getD (x * n + y) 0 ≤ 10000 ∧ (x = y → zs.getD (x * n + y) 0 = 0))) : matB n zs = false := by
  refine matB_not fun ⟨_, _, _, hh⟩ => h ?_
  obtain ⟨e1, e2⟩ := div_mod_at n x y hy
  have hlt : x * n + y < zs.length := by
    rw [hl]
    have := Nat.mul_le_mul_right n (show x + 1 ≤ n by omega)
    rw [Nat.add_mul] at this
    omega
  have := hh (x * n + y) hlt
  simp only [Int.toNat_natCast, e1, e2] at this
  exact this

theorem mul_bd (a n : Nat) (h1 : a ≤ 16) (h2 : n ≤ 16) : a * n ≤ 256 := Nat.mul_le_mul h1 h2

theorem matB_all (n : Nat) (zs : List Int) (h1 : 1 ≤ n) (h2 : n ≤ 16) (hl : zs.length = n * n) (h : ∀ i, i < n * n → 0 ≤ zs.getD i 0 ∧ zs.getD i 0 ≤ 10000 ∧ (i / n = i % n → zs.getD i 0 = 0)) : matB n zs = true :=
  matB_mk ⟨by omega, by omega, by rw [hl]; simp, fun i hi => by rw [Int.toNat_natCast]; exact h i (by omega)⟩

theorem matB_at (n : Nat) (zs : List Int) (hl : zs.length = n * n) (k : Nat) (hk : k < n * n) (h : ¬ (0 ≤ zs.getD k 0 ∧ zs.getD k 0 ≤ 10000 ∧ (k / n = k % n → zs.getD k 0 = 0))) : matB n zs = false :=
  matB_not fun ⟨_, _, _, hh⟩ => h (by have := hh k (by omega); rwa [Int.toNat_natCast] at this)

theorem below_row {B : Nat} {W w1 : World} (hb : Below B W w1) {k : Nat} {o : Obj} (hk : k < B) (h : W.heap[k]? = some o) : w1.heap[k]? = some o := by
  rw [hb.block k hk]; exact h

theorem row_lt {W : World} {k : Nat} {o : Obj} (h : W.heap[k]? = some o) : k < W.heap.size := by
  by_cases hlt : k < W.heap.size
  · exact hlt
  · have hn : W.heap[k]? = none := by simp; omega
    rw [hn] at h; cases h

/-- Behind a call, what is known of a box of two cells that was made ahead of it. -/
theorem box2 {w w1 : World} {c0 c1 : Value} {T : TypeId} (hb : Below (w.alloc (.cells #[c0, c1] T)).heap.size (w.alloc (.cells #[c0, c1] T)) w1) :
    Below w.heap.size w w1 ∧ w1.heap[w.heap.size]? = some (.cells #[c0, c1] T (0, 0)) ∧ w1.cell? ⟨w.heap.size, 0, none⟩ = some c0 ∧ w1.cell? ⟨w.heap.size, 1, none⟩ = some c1 := by
  have r : w1.heap[w.heap.size]? = some (.cells #[c0, c1] T (0, 0)) := below_row hb (by simp) (heap_alloc_new _ _)
  refine ⟨((Below.refl _ _).alloc (Nat.le_refl _) _).trans (hb.mono (by simp)), r, ?_, ?_⟩
  · rw [cell_of_row _ _ 0 _ _ _ r]; simp
  · rw [cell_of_row _ _ 1 _ _ _ r]; simp

/-- And behind a further call. -/
theorem box2_more {w w1 w2 : World} {k : Nat} {c0 c1 : Value} {T : TypeId} (hb : Below w1.heap.size w1 w2) (hB : Below w.heap.size w w1) (hr : w1.heap[k]? = some (.cells #[c0, c1] T (0, 0))) :
    Below w.heap.size w w2 ∧ w2.heap[k]? = some (.cells #[c0, c1] T (0, 0)) ∧ w2.cell? ⟨k, 0, none⟩ = some c0 ∧ w2.cell? ⟨k, 1, none⟩ = some c1 := by
  have r : w2.heap[k]? = some (.cells #[c0, c1] T (0, 0)) := below_row hb (row_lt hr) hr
  refine ⟨hB.trans (hb.mono hB.size), r, ?_, ?_⟩
  · rw [cell_of_row _ _ 0 _ _ _ r]; simp
  · rw [cell_of_row _ _ 1 _ _ _ r]; simp

/-- What TimeOf answers. -/
def timeV (n : Int) (zs : List Int) (x y : Int) : Int :=
  if matB n zs = true ∧ inB x 0 (n - 1) = true ∧ inB y 0 (n - 1) = true then zs.getD (x.toNat * n.toNat + y.toNat) 0 else -1

theorem timeV_no {n : Int} {zs : List Int} {x y : Int} (h : ¬ (matB n zs = true ∧ inB x 0 (n - 1) = true ∧ inB y 0 (n - 1) = true)) : timeV n zs x y = -1 := by
  unfold timeV; rw [if_neg h]

theorem timeV_at {n x y : Nat} {zs : List Int} (h : matB n zs = true) (hx : x < n) (hy : y < n) : timeV n zs x y = zs.getD (x * n + y) 0 := by
  unfold timeV; rw [if_pos ⟨h, inB_mk (by omega), inB_mk (by omega)⟩]; simp

theorem gridTo_get (n : Nat) (zs : List Int) (x y : Nat) (hx : x < n) (hy : y < n) (hn : n ≤ 16) : (gridTo n zs n 0).getD (x * 16 + y) 0 = zs.getD (x * n + y) 0 := by
  have e1 : (x * 16 + y) / 16 = x := by omega
  have e2 : (x * 16 + y) % 16 = y := by omega
  have hk : x * 16 + y < 256 := by omega
  unfold gridTo
  rw [List.getD_eq_getElem?_getD, List.getElem?_map, List.getElem?_range hk]
  simp only [Option.map_some, Option.getD_some, e1, e2]
  rw [if_pos ⟨hx, hy, Or.inl hx⟩]

theorem grid_cell {W : World} {g n x y : Nat} {zs : List Int} {T : TypeId} (hg : W.heap[g]? = some (.cells (cellsOf (gridRes n zs)) T (0, 0))) (hm : matB n zs = true) (hx : x < n) (hy : y < n) (hn : n ≤ 16) :
    W.cell? ⟨g, x * 16 + y, none⟩ = some (.int .i64 (zs.getD (x * n + y) 0)) := by
  rw [cell_of_row _ _ _ _ _ _ hg, cellsOf_get _ _ (by rw [gridRes_length]; omega), gridRes_true hm, gridTo_get n zs x y hx hy hn]

/-- The times of the first k places of a path. -/
def pathTo (n : Nat) (zs ps : List Int) : Nat → Int
  | 0 => 0
  | k + 1 => pathTo n zs ps k + if k = 0 then 0 else zs.getD ((ps.getD (k - 1) 0).toNat * n + (ps.getD k 0).toNat) 0

def placesTo (n : Int) (ps : List Int) (k : Nat) : Prop := ∀ j, j < k → inB (ps.getD j 0) 0 (n - 1) = true

/-- What PathTime answers. -/
def pathV (n : Int) (zs ps : List Int) : Int :=
  if matB n zs = true ∧ ps.length ≤ 100 ∧ (∀ j, j < ps.length → inB (ps.getD j 0) 0 (n - 1) = true) then pathTo n.toNat zs ps ps.length else -1

theorem pathV_no {n : Int} {zs ps : List Int} (h : ¬ (matB n zs = true ∧ ps.length ≤ 100 ∧ (∀ j, j < ps.length → inB (ps.getD j 0) 0 (n - 1) = true))) : pathV n zs ps = -1 := by
  unfold pathV; rw [if_neg h]

theorem pathV_yes {n : Nat} {zs ps : List Int} (h1 : matB n zs = true) (h2 : ps.length ≤ 100) (h3 : placesTo n ps ps.length) : pathV n zs ps = pathTo n zs ps ps.length := by
  unfold pathV; rw [if_pos ⟨h1, h2, h3⟩]; simp

theorem mat_cell_bd {n : Nat} {zs : List Int} (hm : matB n zs = true) (x y : Nat) (hx : x < n) (hy : y < n) : 0 ≤ zs.getD (x * n + y) 0 ∧ zs.getD (x * n + y) 0 ≤ 10000 := by
  obtain ⟨h1, h2, hl, h⟩ := matB_true hm
  have hl' : zs.length = n * n := by rw [← Int.natCast_mul] at hl; omega
  have hxy : x * n + y < n * n := by
    have := Nat.mul_le_mul_right n (show x + 1 ≤ n by omega)
    rw [Nat.add_mul] at this
    omega
  have := h (x * n + y) (by omega)
  exact ⟨this.1, this.2.1⟩

theorem place_nat {n : Nat} {p : Int} (h : inB p 0 (n - 1) = true) : p = (p.toNat : Int) ∧ p.toNat < n := by
  have := inB_true h
  omega

theorem pathTo_bd {n : Nat} {zs ps : List Int} (hm : matB n zs = true) : ∀ k, placesTo n ps k → 0 ≤ pathTo n zs ps k ∧ pathTo n zs ps k ≤ 10000 * k
  | 0, _ => by simp [pathTo]
  | k + 1, h => by
    have ih := pathTo_bd (n := n) (zs := zs) (ps := ps) hm k (fun j hj => h j (by omega))
    unfold pathTo
    by_cases hk : k = 0
    · rw [if_pos hk]; omega
    · rw [if_neg hk]
      have p1 := place_nat (h (k - 1) (by omega))
      have p2 := place_nat (h k (by omega))
      have := mat_cell_bd hm _ _ p1.2 p2.2
      omega

theorem made_zero (n : Nat) : madeCells (Value.int .i64 0).cells (n * 1) = cellsOf (List.replicate n 0) := by
  apply Array.ext
  · simp [madeCells, cellsOf]
  · intro i h1 h2
    simp [madeCells, cellsOf, Value.cells, Nat.mod_one]

theorem copy_step (zs : List Int) (k : Nat) (h : k < zs.length) :
    (zs.take k ++ List.replicate (zs.length - k) 0).set k (zs.getD k 0) = zs.take (k + 1) ++ List.replicate (zs.length - (k + 1)) 0 := by
  have e : zs.length - k = (zs.length - (k + 1)) + 1 := by omega
  rw [e, List.replicate_succ, List.set_append_right _ _ (by simp; omega)]
  have hl : (zs.take k).length = k := by simp; omega
  have e2 : zs.getD k 0 = zs[k] := by simp [List.getD, h]
  rw [hl, Nat.sub_self, List.set_cons_zero, List.take_succ_eq_append_getElem h, e2, List.append_assoc]
  rfl

theorem ret_grid_eq {a b : List Int} {p q : Bool} (h : a = b) (k : p = q) : Ending.returned (.tuple #[.agg (cellsOf a), .bool p]) = Ending.returned (.tuple #[.agg (cellsOf b), .bool q]) := by rw [h, k]

/-- The time from x to y. -/
def tm (n : Nat) (zs : List Int) (x y : Nat) : Int := zs.getD (x * n + y) 0
theorem tm_def (n : Nat) (zs : List Int) (x y : Nat) : zs.getD (x * n + y) 0 = tm n zs x y := rfl
theorem tm_bd {n : Nat} {zs : List Int} (hm : matB n zs = true) (x y : Nat) (hx : x < n) (hy : y < n) : 0 ≤ tm n zs x y ∧ tm n zs x y ≤ 10000 := mat_cell_bd hm x y hx hy

end Go.Proofs.Ytpahhhocgpohbaa

namespace Go.Proofs.Ytpahhhocgpohbaa
open Go.RowKit

theorem str_ne {f t : ByteArray} (h : ¬ f = t) : (f.toList == t.toList) = false := by
  rw [ByteArray.toList_eq, ByteArray.toList_eq]
  apply beq_eq_false_iff_ne.2
  intro e
  exact h (ByteArray.ext (Array.toList_inj.1 e))
theorem str_eq {f t : ByteArray} (h : f = t) : (f.toList == t.toList) = true := by
  rw [h]
  exact beq_self_eq_true _

end Go.Proofs.Ytpahhhocgpohbaa

namespace Go.Proofs.Ytpahhhocgpohbaa
open Go.RowKit

/-- A file: its name, its data. -/
abbrev FI := ByteArray × ByteArray
def fi0 : FI := (⟨#[]⟩, ⟨#[]⟩)
/-- An op. -/
structure OP where
  k : Int
  n : ByteArray
  t : ByteArray
  d : ByteArray
def op0 : OP := ⟨0, ⟨#[]⟩, ⟨#[]⟩, ⟨#[]⟩⟩
def ltT (x y : ByteArray) : Bool := Op.bytesLess x.toList y.toList
theorem bl_irr : ∀ x : List UInt8, Op.bytesLess x x = false
  | [] => rfl
  | a :: x => by
    rw [Op.bytesLess, bl_irr x]
    simp
theorem bl_trans : ∀ x y z : List UInt8, Op.bytesLess x y = true → Op.bytesLess y z = true → Op.bytesLess x z = true
  | _, [], _, h, _ => by simp [Op.bytesLess] at h
  | _, _ :: _, [], _, h => by simp [Op.bytesLess] at h
  | [], _ :: _, _ :: _, _, _ => by simp [Op.bytesLess]
  | a :: x, b :: y, c :: z, h1, h2 => by
    simp only [Op.bytesLess, Bool.or_eq_true, Bool.and_eq_true, decide_eq_true_eq, beq_iff_eq] at h1 h2 ⊢
    rcases h1 with h1 | ⟨rfl, h1⟩
    · rcases h2 with h2 | ⟨rfl, _⟩
      · exact .inl (UInt8.lt_trans h1 h2)
      · exact .inl h1
    · rcases h2 with h2 | ⟨rfl, h2⟩
      · exact .inl h2
      · exact .inr ⟨rfl, bl_trans x y z h1 h2⟩
theorem bl_tri : ∀ x y : List UInt8, Op.bytesLess x y = false → Op.bytesLess y x = false → x = y
  | [], [], _, _ => rfl
  | [], _ :: _, h, _ => by simp [Op.bytesLess] at h
  | _ :: _, [], _, h => by simp [Op.bytesLess] at h
  | a :: x, b :: y, h1, h2 => by
    simp only [Op.bytesLess, Bool.or_eq_false_iff, decide_eq_false_iff_not, Bool.and_eq_false_iff] at h1 h2
    have e : a = b := by
      rcases Nat.lt_trichotomy a.toNat b.toNat with h | h | h
      · exact absurd (UInt8.lt_iff_toNat_lt.2 h) h1.1
      · exact UInt8.toNat_inj.1 h
      · exact absurd (UInt8.lt_iff_toNat_lt.2 h) h2.1
    subst e
    have e1 : Op.bytesLess x y = false := by
      rcases h1.2 with h | h
      · simp at h
      · exact h
    have e2 : Op.bytesLess y x = false := by
      rcases h2.2 with h | h
      · simp at h
      · exact h
    rw [bl_tri x y e1 e2]
theorem ltT_irr (x : ByteArray) : ltT x x = false := bl_irr _
theorem ltT_trans {x y z : ByteArray} (h1 : ltT x y = true) (h2 : ltT y z = true) : ltT x z = true := bl_trans _ _ _ h1 h2
theorem toL_inj {x y : ByteArray} (h : x.toList = y.toList) : x = y := by
  cases hq : decide (x = y)
  · have := str_ne (of_decide_eq_false hq)
    rw [h] at this
    simp at this
  · exact of_decide_eq_true hq
theorem ltT_tri {x y : ByteArray} (h1 : ltT x y = false) (h2 : ltT y x = false) : x = y := toL_inj (bl_tri _ _ h1 h2)
theorem ltT_asym {x y : ByteArray} (h : ltT x y = true) : ltT y x = false := by
  cases hq : ltT y x
  · rfl
  · have := ltT_trans h hq
    rw [ltT_irr] at this
    cases this
theorem ltT_ne {x y : ByteArray} (h : ltT x y = true) : x ≠ y := fun e => by
  rw [e, ltT_irr] at h
  cases h
/-- A name that a file can have. -/
def nmB (s : ByteArray) : Bool := decide (1 ≤ s.size ∧ s.size ≤ 100)
/-- The bytes of the first files. -/
def totTo (F : List FI) : Nat → Nat
  | 0 => 0
  | k + 1 => totTo F k + (F.getD k fi0).2.size
theorem totTo_mono (F : List FI) (k : Nat) : ∀ d, totTo F k ≤ totTo F (k + d)
  | 0 => Nat.le_refl _
  | d + 1 => Nat.le_trans (totTo_mono F k d) (by rw [← Nat.add_assoc]; simp [totTo])
theorem totTo_le (F : List FI) {k m : Nat} (h : k ≤ m) : totTo F k ≤ totTo F m := by
  have := totTo_mono F k (m - k)
  rwa [show k + (m - k) = m by omega] at this
/-- Whether the first files have names, and these rise. -/
def stpB (F : List FI) (k : Nat) : Bool := nmB (F.getD k fi0).1 && (decide (k = 0) || ltT (F.getD (k - 1) fi0).1 (F.getD k fi0).1)
def filTo (F : List FI) : Nat → Bool
  | 0 => true
  | k + 1 => filTo F k && stpB F k
theorem filTo_no (F : List FI) {k : Nat} (h : filTo F k = false) : ∀ d, filTo F (k + d) = false
  | 0 => h
  | d + 1 => by rw [← Nat.add_assoc, filTo, filTo_no F h d]; rfl
theorem filTo_le (F : List FI) {k m : Nat} (h : filTo F m = true) (hk : k ≤ m) : filTo F k = true := by
  cases hq : filTo F k
  · have := filTo_no F hq (m - k)
    rw [show k + (m - k) = m by omega, h] at this
    cases this
  · rfl
/-- Whether files are right. -/
def filB (F : List FI) : Bool := decide (F.length ≤ 60) && (filTo F F.length && decide (totTo F F.length ≤ 200000))
theorem filB_long {F : List FI} (h : 60 < F.length) : filB F = false := by
  unfold filB
  rw [decide_eq_false (by omega)]
  rfl
theorem filB_step {F : List FI} {k : Nat} (hk : k < F.length) (h : stpB F k = false) : filB F = false := by
  unfold filB
  have h1 : filTo F (k + 1) = false := by rw [filTo, h, Bool.and_false]
  have := filTo_no F h1 (F.length - (k + 1))
  rw [show k + 1 + (F.length - (k + 1)) = F.length by omega] at this
  rw [this, Bool.false_and, Bool.and_false]
theorem filB_tot {F : List FI} {k : Nat} (hk : k ≤ F.length) (h : 200000 < totTo F k) : filB F = false := by
  unfold filB
  have := totTo_le F hk
  rw [decide_eq_false (show ¬ totTo F F.length ≤ 200000 by omega), Bool.and_false, Bool.and_false]
theorem filB_end {F : List FI} (h0 : F.length ≤ 60) (h1 : filTo F F.length = true) : filB F = decide (totTo F F.length ≤ 200000) := by
  unfold filB
  rw [decide_eq_true h0, h1]
  rfl
theorem filB_true {F : List FI} : filB F = true ↔ F.length ≤ 60 ∧ filTo F F.length = true ∧ totTo F F.length ≤ 200000 := by
  unfold filB
  simp only [Bool.and_eq_true, decide_eq_true_eq]
/-- Names that rise. -/
def RisF (F : List FI) : Prop := F.Pairwise (fun x y => ltT x.1 y.1 = true)
theorem risF_of (F : List FI) (h : filTo F F.length = true) : RisF F := by
  have adj : ∀ j, j + 1 < F.length → ltT (F.getD j fi0).1 (F.getD (j + 1) fi0).1 = true := fun j hj => by
    have h1 := filTo_le F h (show j + 1 + 1 ≤ F.length by omega)
    rw [filTo, Bool.and_eq_true] at h1
    have h2 := h1.2
    unfold stpB at h2
    simp only [Bool.and_eq_true, Bool.or_eq_true, decide_eq_true_eq] at h2
    rcases h2.2 with h3 | h3
    · omega
    · simpa using h3
  have all : ∀ d i, i + d + 1 < F.length → ltT (F.getD i fi0).1 (F.getD (i + d + 1) fi0).1 = true := by
    intro d
    induction d with
    | zero => exact fun i hi => adj i hi
    | succ d ih => exact fun i hi => ltT_trans (ih i (by omega)) (adj (i + d + 1) (by omega))
  unfold RisF
  rw [List.pairwise_iff_getElem]
  intro i j hi hj hij
  have := all (j - i - 1) i (by omega)
  rw [show i + (j - i - 1) + 1 = j by omega] at this
  rw [List.getD_eq_getElem?_getD, List.getD_eq_getElem?_getD, List.getElem?_eq_getElem hi, List.getElem?_eq_getElem hj] at this
  exact this
/-- The place of a file; -1: there is none. -/
def atF (F : List FI) (n : ByteArray) : Int := match (List.range F.length).find? (fun i => decide ((F.getD i fi0).1 = n)) with
  | some i => i
  | none => -1
/-- A file's data; none: nothing. -/
def datF (F : List FI) (n : ByteArray) : ByteArray := ((F.find? (fun f => decide (f.1 = n))).map (·.2)).getD ⟨#[]⟩
def hasF (F : List FI) (n : ByteArray) : Bool := F.any (fun f => decide (f.1 = n))
def cutF (F : List FI) (n : ByteArray) : List FI := F.filter (fun f => !(decide (f.1 = n)))
def putF (F : List FI) (n d : ByteArray) : List FI := F.filter (fun f => ltT f.1 n) ++ ((n, d) : FI) :: F.filter (fun f => ltT n f.1)
/-- What an op makes of files. -/
def doF (F : List FI) (o : OP) : List FI :=
  if o.k = 1 then putF F o.n (datF F o.n ++ o.d) else if hasF F o.n then (if o.k = 2 then putF (cutF F o.n) o.t (datF F o.n) else cutF F o.n) else F
def okF (F : List FI) (o : OP) : Bool := decide (o.k = 1) || hasF F o.n
/-- Whether an op has its form. -/
def frmB (o : OP) : Bool := decide (1 ≤ o.k ∧ o.k ≤ 3) && (nmB o.n && (if o.k = 2 then nmB o.t && decide (o.d = ⟨#[]⟩) else decide (o.t = ⟨#[]⟩) && (decide (o.k = 1) || decide (o.d = ⟨#[]⟩))))
/-- The files behind the first ops: none where one is not right. -/
def runF (S : List FI) (O : List OP) : Nat → Option (List FI)
  | 0 => some S
  | k + 1 => match runF S O k with
    | none => none
    | some F => if okF F (O.getD k op0) && (frmB (O.getD k op0) && filB (doF F (O.getD k op0))) then some (doF F (O.getD k op0)) else none
theorem runF_no {S : List FI} {O : List OP} {k : Nat} (h : runF S O k = none) : ∀ d, runF S O (k + d) = none
  | 0 => h
  | d + 1 => by rw [← Nat.add_assoc, runF, runF_no h d]
/-- Whether a disk is right. -/
def dskB (L S : List FI) (O : List OP) : Bool := filB L && (filB S && (decide (O.length ≤ 200) && (match runF S O O.length with
  | none => false
  | some F => decide (F = L))))

end Go.Proofs.Ytpahhhocgpohbaa

namespace Go.Proofs.Ytpahhhocgpohbaa
open Go.RowKit

/-- The files that are put together, step by step. -/
def putS (F : List FI) (n d : ByteArray) : Nat → Bool × List FI
  | 0 => (false, [])
  | i + 1 =>
    let s := putS F n d i
    let f := F.getD i fi0
    let s1 := if !s.1 && !(ltT f.1 n) then (true, s.2 ++ [(n, d)]) else s
    (s1.1, if f.1 = n then s1.2 else s1.2 ++ [f])
theorem putS_a {F : List FI} {n d : ByteArray} {i : Nat} {b : Bool} {L : List FI} (h : putS F n d i = (b, L)) (hc : (!b && !(ltT (F.getD i fi0).1 n)) = true) (he : (F.getD i fi0).1 = n) : putS F n d (i + 1) = (true, L ++ [(n, d)]) := by
  simp only [putS, h]
  rw [hc, if_pos he]
  rfl
theorem putS_b {F : List FI} {n d : ByteArray} {i : Nat} {b : Bool} {L : List FI} (h : putS F n d i = (b, L)) (hc : (!b && !(ltT (F.getD i fi0).1 n)) = true) (he : (F.getD i fi0).1 ≠ n) : putS F n d (i + 1) = (true, L ++ [(n, d)] ++ [F.getD i fi0]) := by
  simp only [putS, h, hc, if_true, if_neg he]
theorem putS_c {F : List FI} {n d : ByteArray} {i : Nat} {b : Bool} {L : List FI} (h : putS F n d i = (b, L)) (hc : (!b && !(ltT (F.getD i fi0).1 n)) = false) (he : (F.getD i fi0).1 = n) : putS F n d (i + 1) = (b, L) := by
  simp only [putS, h]
  rw [hc, if_pos he]
  rfl
theorem putS_d {F : List FI} {n d : ByteArray} {i : Nat} {b : Bool} {L : List FI} (h : putS F n d i = (b, L)) (hc : (!b && !(ltT (F.getD i fi0).1 n)) = false) (he : (F.getD i fi0).1 ≠ n) : putS F n d (i + 1) = (b, L ++ [F.getD i fi0]) := by
  simp only [putS, h, hc, if_neg he]
  rfl
theorem putS_len (F : List FI) (n d : ByteArray) : ∀ i, (putS F n d i).2.length ≤ i + 1 ∧ ((putS F n d i).1 = false → (putS F n d i).2.length ≤ i)
  | 0 => by simp [putS]
  | i + 1 => by
    have ih := putS_len F n d i
    cases hq : putS F n d i with
    | mk b L =>
      rw [hq] at ih
      simp only at ih
      by_cases he : (F.getD i fi0).1 = n
      · cases hc : (!b && !(ltT (F.getD i fi0).1 n))
        · rw [putS_c hq hc he]; simp only; exact ⟨by omega, fun h => by have := ih.2 h; omega⟩
        · rw [putS_a hq hc he]
          have hb : b = false := by cases b; rfl; simp at hc
          have := ih.2 hb
          simp
          omega
      · cases hc : (!b && !(ltT (F.getD i fi0).1 n))
        · rw [putS_d hq hc he]
          simp
          exact ⟨by omega, fun h => by have := ih.2 h; omega⟩
        · rw [putS_b hq hc he]
          have hb : b = false := by cases b; rfl; simp at hc
          have := ih.2 hb
          simp
          omega
theorem take_snocF (F : List FI) (k : Nat) (h : k < F.length) : F.take (k + 1) = F.take k ++ [F.getD k fi0] := by
  rw [List.take_succ_eq_append_getElem h]; simp [List.getD, h]
theorem risF_take {F : List FI} (h : RisF F) {k : Nat} (hk : k < F.length) : ∀ f ∈ F.take k, ltT f.1 (F.getD k fi0).1 = true := by
  intro f hf
  have h1 : RisF (F.take (k + 1)) := List.Pairwise.sublist (List.take_sublist _ _) h
  unfold RisF at h1
  rw [take_snocF F k hk, List.pairwise_append] at h1
  exact h1.2.2 f hf _ (by simp)
theorem filter_nil_of {F : List FI} {p : FI → Bool} (h : ∀ f ∈ F, p f = false) : F.filter p = [] := by
  rw [List.filter_eq_nil_iff]
  intro f hf
  rw [h f hf]
  simp
theorem filter_all_of {F : List FI} {p : FI → Bool} (h : ∀ f ∈ F, p f = true) : F.filter p = F := List.filter_eq_self.2 h
/-- What is put together is: the files ahead of the name, the new one, those behind it. -/
theorem putS_is {F : List FI} (hr : RisF F) (n d : ByteArray) : ∀ i, i ≤ F.length → putS F n d i = ((F.take i).any (fun f => !(ltT f.1 n)), (F.take i).filter (fun f => ltT f.1 n) ++ ((if (F.take i).any (fun f => !(ltT f.1 n)) then [(n, d)] else []) ++ (F.take i).filter (fun f => ltT n f.1)))
  | 0, _ => by simp [putS]
  | i + 1, hi => by
    have ih := putS_is hr n d i (by omega)
    have hlt := risF_take hr (k := i) (by omega)
    rw [take_snocF F i (by omega), List.any_append, List.filter_append, List.filter_append]
    generalize hT : F.take i = T at *
    generalize hf : F.getD i fi0 = f at *
    cases h1 : ltT f.1 n
    · -- not ahead of the name
      by_cases he : f.1 = n
      · have hT1 : ∀ g ∈ T, ltT g.1 n = true := fun g hg => by rw [← he]; exact hlt g hg
        have ha : T.any (fun f => !(ltT f.1 n)) = false := by
          rw [List.any_eq_false]
          intro g hg
          rw [hT1 g hg]; simp
        rw [ha] at ih
        have h2 : ltT n f.1 = false := by rw [he, ltT_irr]
        rw [putS_a ih (by rw [hf, h1]; rfl) (by rw [hf]; exact he)]
        have hg0 : T.filter (fun f => ltT n f.1) = [] := filter_nil_of (fun g hg => ltT_asym (hT1 g hg))
        rw [ha, hg0]
        simp [h1, h2]
      · have h2 : ltT n f.1 = true := by
          cases hq : ltT n f.1
          · exact absurd (ltT_tri h1 hq) he
          · rfl
        cases ha : T.any (fun f => !(ltT f.1 n))
        · rw [ha] at ih
          have hT1 : ∀ g ∈ T, ltT g.1 n = true := fun g hg => by
            rw [List.any_eq_false] at ha
            have := ha g hg
            simpa using this
          have hg0 : T.filter (fun f => ltT n f.1) = [] := filter_nil_of (fun g hg => ltT_asym (hT1 g hg))
          rw [putS_b ih (by rw [hf, h1]; rfl) (by rw [hf]; exact he), hf, hg0]
          simp [h1, h2]
        · rw [ha] at ih
          rw [putS_d ih (by rfl) (by rw [hf]; exact he), hf]
          simp [h1, h2]
    · have hne := ltT_ne h1
      have hT1 : ∀ g ∈ T, ltT g.1 n = true := fun g hg => ltT_trans (hlt g hg) h1
      have ha : T.any (fun f => !(ltT f.1 n)) = false := by
        rw [List.any_eq_false]
        intro g hg
        rw [hT1 g hg]; simp
      have hg0 : T.filter (fun f => ltT n f.1) = [] := filter_nil_of (fun g hg => ltT_asym (hT1 g hg))
      have h2 := ltT_asym h1
      rw [ha] at ih
      rw [putS_d ih (by rw [hf, h1]; rfl) (by rw [hf]; exact hne), hf, ha, hg0]
      simp [h1, h2]
theorem putS_end {F : List FI} (hr : RisF F) (n d : ByteArray) : putF F n d = (if (putS F n d F.length).1 then (putS F n d F.length).2 else (putS F n d F.length).2 ++ [(n, d)]) := by
  rw [putS_is hr n d F.length (Nat.le_refl _), List.take_length]
  unfold putF
  simp only
  cases ha : F.any (fun f => !(ltT f.1 n))
  · have hg0 : F.filter (fun f => ltT n f.1) = [] := filter_nil_of (fun g hg => ltT_asym (by
      rw [List.any_eq_false] at ha
      have := ha g hg
      simpa using this))
    rw [hg0]
    simp
  · simp
theorem cutF_step (F : List FI) (n : ByteArray) (i : Nat) (hi : i < F.length) : cutF (F.take (i + 1)) n = cutF (F.take i) n ++ (if (F.getD i fi0).1 = n then [] else [F.getD i fi0]) := by
  unfold cutF
  rw [take_snocF F i hi, List.filter_append]
  congr 1
  generalize F.getD i fi0 = f
  by_cases h : f.1 = n
  · rw [if_pos h]; simp [h]
  · rw [if_neg h]; simp [h]
theorem cutF_len (F : List FI) (n : ByteArray) : (cutF F n).length ≤ F.length := List.length_filter_le _ _
theorem risF_cut {F : List FI} (h : RisF F) (n : ByteArray) : RisF (cutF F n) := List.Pairwise.filter _ h
theorem risF_put {F : List FI} (h : RisF F) (n d : ByteArray) : RisF (putF F n d) := by
  unfold putF RisF
  rw [List.pairwise_append, List.pairwise_cons]
  refine ⟨List.Pairwise.filter _ h, ⟨?_, List.Pairwise.filter _ h⟩, ?_⟩
  · intro f hf
    exact (List.mem_filter.1 hf).2
  · intro f hf g hg
    have h1 : ltT f.1 n = true := (List.mem_filter.1 hf).2
    rcases List.mem_cons.1 hg with rfl | hg
    · exact h1
    · exact ltT_trans h1 (List.mem_filter.1 hg).2
theorem risF_do {F : List FI} (h : RisF F) (o : OP) : RisF (doF F o) := by
  unfold doF
  split
  · exact risF_put h _ _
  · split
    · split
      · exact risF_put (risF_cut h _) _ _
      · exact risF_cut h _
    · exact h
/-- The bytes of files. -/
def totL (F : List FI) : Nat := (F.map (fun f => f.2.size)).sum
theorem totTo_take (F : List FI) : ∀ k, k ≤ F.length → totTo F k = totL (F.take k)
  | 0, _ => rfl
  | k + 1, h => by
    rw [totTo, totTo_take F k (by omega), take_snocF F k (by omega)]
    simp [totL]
theorem totTo_all (F : List FI) : totTo F F.length = totL F := by rw [totTo_take F _ (Nat.le_refl _), List.take_length]
theorem totL_app (F G : List FI) : totL (F ++ G) = totL F + totL G := by simp [totL]
theorem totL_cons (f : FI) (F : List FI) : totL (f :: F) = f.2.size + totL F := by simp [totL]
theorem totL_split (p q : FI → Bool) (hd : ∀ f, p f = true → q f = false) : ∀ F : List FI, totL (F.filter p) + totL (F.filter q) ≤ totL F
  | [] => by simp [totL]
  | f :: F => by
    have ih := totL_split p q hd F
    rw [totL_cons]
    cases hp : p f
    · cases hq : q f
      · rw [List.filter_cons_of_neg (by simp [hp]), List.filter_cons_of_neg (by simp [hq])]; omega
      · rw [List.filter_cons_of_neg (by simp [hp]), List.filter_cons_of_pos (by simp [hq]), totL_cons]; omega
    · have hq := hd f hp
      rw [List.filter_cons_of_pos (by simp [hp]), List.filter_cons_of_neg (by simp [hq]), totL_cons]; omega
theorem totL_put (F : List FI) (n d : ByteArray) : totL (putF F n d) ≤ totL F + d.size := by
  have h := totL_split (fun f => ltT f.1 n) (fun f => ltT n f.1) (fun f h => ltT_asym h) F
  have e : totL (putF F n d) = totL (F.filter (fun f => ltT f.1 n)) + (d.size + totL (F.filter (fun f => ltT n f.1))) := by
    unfold putF
    rw [totL_app, totL_cons]
  rw [e]
  omega
theorem totL_cut (F : List FI) (n : ByteArray) : totL (cutF F n) ≤ totL F := by
  have := totL_split (fun f => !(decide (f.1 = n))) (fun _ => false) (fun _ _ => rfl) F
  have h0 : totL (F.filter (fun _ => false)) = 0 := by rw [filter_nil_of (fun _ _ => rfl)]; rfl
  unfold cutF
  omega
theorem size_le_totL {F : List FI} {f : FI} (h : f ∈ F) : f.2.size ≤ totL F := by
  induction F with
  | nil => simp at h
  | cons g F ih =>
    rw [totL_cons]
    rcases List.mem_cons.1 h with rfl | h
    · omega
    · have := ih h; omega
theorem datF_le (F : List FI) (n : ByteArray) : (datF F n).size ≤ totL F := by
  unfold datF
  cases h : F.find? (fun f => decide (f.1 = n)) with
  | none => exact Nat.zero_le _
  | some f => exact size_le_totL (List.mem_of_find?_eq_some h)
theorem totL_do (F : List FI) (o : OP) : totL (doF F o) ≤ 2 * totL F + o.d.size := by
  have h1 := datF_le F o.n
  unfold doF
  split
  · have := totL_put F o.n (datF F o.n ++ o.d)
    rw [ByteArray.size_append] at this
    omega
  · split
    · split
      · have h2 := totL_put (cutF F o.n) o.t (datF F o.n)
        have h3 := totL_cut F o.n
        omega
      · have h3 := totL_cut F o.n
        omega
    · omega
theorem putF_len (F : List FI) (n d : ByteArray) : (putF F n d).length ≤ F.length + 1 := by
  have e : (putF F n d).length = (F.filter (fun f => ltT f.1 n)).length + ((F.filter (fun f => ltT n f.1)).length + 1) := by
    unfold putF
    rw [List.length_append, List.length_cons]
  rw [e]
  have h : ∀ G : List FI, (G.filter (fun f => ltT f.1 n)).length + (G.filter (fun f => ltT n f.1)).length ≤ G.length := by
    intro G
    induction G with
    | nil => simp
    | cons g G ih =>
      cases hp : ltT g.1 n
      · cases hq : ltT n g.1
        · rw [List.filter_cons_of_neg (by simp [hp]), List.filter_cons_of_neg (by simp [hq]), List.length_cons]; omega
        · rw [List.filter_cons_of_neg (by simp [hp]), List.filter_cons_of_pos (by simp [hq]), List.length_cons, List.length_cons]; omega
      · have hq := ltT_asym hp
        rw [List.filter_cons_of_pos (by simp [hp]), List.filter_cons_of_neg (by simp [hq]), List.length_cons, List.length_cons]; omega
  have := h F
  omega
theorem doF_len (F : List FI) (o : OP) : (doF F o).length ≤ F.length + 1 := by
  unfold doF
  split
  · exact putF_len _ _ _
  · split
    · split
      · have h1 := putF_len (cutF F o.n) o.t (datF F o.n)
        have h2 := cutF_len F o.n
        omega
      · have h2 := cutF_len F o.n
        omega
    · omega
/-- Every name is short. -/
def Shrt (F : List FI) : Prop := ∀ f ∈ F, f.1.size ≤ 1000000000
theorem shrt_put {F : List FI} (h : Shrt F) {n : ByteArray} (d : ByteArray) (hn : n.size ≤ 1000000000) : Shrt (putF F n d) := by
  intro f hf
  unfold putF at hf
  rcases List.mem_append.1 hf with hf | hf
  · exact h f (List.mem_filter.1 hf).1
  · rcases List.mem_cons.1 hf with rfl | hf
    · exact hn
    · exact h f (List.mem_filter.1 hf).1
theorem shrt_cut {F : List FI} (h : Shrt F) (n : ByteArray) : Shrt (cutF F n) := fun f hf => h f (List.mem_filter.1 hf).1
theorem shrt_do {F : List FI} (h : Shrt F) (o : OP) (h1 : o.n.size ≤ 1000000000) (h2 : o.t.size ≤ 1000000000) : Shrt (doF F o) := by
  unfold doF
  split
  · exact shrt_put h _ h1
  · split
    · split
      · exact shrt_put (shrt_cut h _) _ h2
      · exact shrt_cut h _
    · exact h
theorem shrt_at {F : List FI} (h : Shrt F) (j : Nat) (hj : j < F.length) : (F.getD j fi0).1.size ≤ 1000000000 := h _ (by rw [List.getD_eq_getElem?_getD, List.getElem?_eq_getElem hj]; simp)

end Go.Proofs.Ytpahhhocgpohbaa

namespace Go.Proofs.Ytpahhhocgpohbaa
open Go.RowKit

/-- A file that grows: its name, where its pieces lie, the pieces, their room, its size. -/
structure GR where
  n : ByteArray
  a : Option Addr
  ps : List ByteArray
  c : Nat
  sz : Int
def gr0 : GR := ⟨⟨#[]⟩, none, [], 0, 0⟩
/-- Pieces put together. -/
def jn (ps : List ByteArray) : ByteArray := ⟨((ps.map (fun p => p.data.toList)).flatten).toArray⟩
theorem jn_nil : jn [] = ⟨#[]⟩ := rfl
theorem jn_one (x : ByteArray) : jn [x] = x := by
  apply ByteArray.ext
  simp [jn]
theorem jn_app (ps : List ByteArray) (x : ByteArray) : jn (ps ++ [x]) = jn ps ++ x := by
  apply ByteArray.ext
  apply Array.toList_inj.1
  simp [jn]
def GR.key (g : GR) : FI := (g.n, jn g.ps)
def keysG (S : List GR) : List FI := S.map GR.key
def RisG (S : List GR) : Prop := S.Pairwise (fun x y => ltT x.n y.n = true)
theorem risG_keys {S : List GR} (h : RisF (keysG S)) : RisG S := by
  unfold RisF keysG at h
  rw [List.pairwise_map] at h
  exact h
theorem risG_iff {S : List GR} : RisG S ↔ RisF (keysG S) := ⟨fun h => by unfold RisF keysG; rw [List.pairwise_map]; exact h, risG_keys⟩
def cutG (S : List GR) (n : ByteArray) : List GR := S.filter (fun f => !(decide (f.n = n)))
def putG (S : List GR) (f : GR) : List GR := S.filter (fun g => ltT g.n f.n) ++ f :: S.filter (fun g => ltT f.n g.n)
theorem keys_cut (S : List GR) (n : ByteArray) : keysG (cutG S n) = cutF (keysG S) n := by
  unfold keysG cutG cutF
  rw [List.filter_map]
  rfl
theorem keys_put (S : List GR) (f : GR) : keysG (putG S f) = putF (keysG S) f.n (jn f.ps) := by
  unfold keysG putG putF
  rw [List.map_append, List.map_cons, List.filter_map, List.filter_map]
  rfl
theorem keys_len (S : List GR) : (keysG S).length = S.length := by simp [keysG]
/-- The place of a name. -/
structure AtG (S : List GR) (n : ByteArray) (k : Nat) : Prop where
  le : k ≤ S.length
  lo : ∀ j, j < k → ltT (S.getD j gr0).n n = true
  hi : ∀ j, k ≤ j → j < S.length → ltT (S.getD j gr0).n n = false
def fndG (S : List GR) (n : ByteArray) (k : Nat) : Bool := decide (k < S.length ∧ (S.getD k gr0).n = n)
theorem getD_mem {S : List GR} {j : Nat} (hj : j < S.length) : S.getD j gr0 ∈ S := by rw [List.getD_eq_getElem?_getD, List.getElem?_eq_getElem hj]; simp
theorem getD_elem {S : List GR} {j : Nat} (hj : j < S.length) : S.getD j gr0 = S[j] := by rw [List.getD_eq_getElem?_getD, List.getElem?_eq_getElem hj]; simp
theorem risG_lt {S : List GR} (h : RisG S) {i j : Nat} (hij : i < j) (hj : j < S.length) : ltT (S.getD i gr0).n (S.getD j gr0).n = true := by
  unfold RisG at h
  rw [List.pairwise_iff_getElem] at h
  rw [getD_elem (by omega : i < S.length), getD_elem hj]
  exact h i j (by omega) hj hij
theorem mem_take {S : List GR} {k : Nat} {f : GR} (h : f ∈ S.take k) : ∃ j, j < k ∧ j < S.length ∧ S.getD j gr0 = f := by
  obtain ⟨j, hj, e⟩ := List.getElem_of_mem h
  rw [List.length_take] at hj
  refine ⟨j, by omega, by omega, ?_⟩
  rw [getD_elem (by omega : j < S.length), ← e, List.getElem_take]
theorem mem_drop {S : List GR} {k : Nat} {f : GR} (h : f ∈ S.drop k) : ∃ j, k ≤ j ∧ j < S.length ∧ S.getD j gr0 = f := by
  obtain ⟨j, hj, e⟩ := List.getElem_of_mem h
  rw [List.length_drop] at hj
  refine ⟨k + j, by omega, by omega, ?_⟩
  rw [getD_elem (by omega : k + j < S.length), ← e, List.getElem_drop]
theorem parts3 {S : List GR} {k : Nat} (hk : k < S.length) : S = S.take k ++ S.getD k gr0 :: S.drop (k + 1) := by
  rw [getD_elem hk, List.getElem_cons_drop, List.take_append_drop]
/-- Where the file is there: without it. -/
theorem cut_found {S : List GR} (hr : RisG S) {n : ByteArray} {k : Nat} (hk : k < S.length) (he : (S.getD k gr0).n = n) : S.take k ++ S.drop (k + 1) = cutG S n := by
  have h1 : (S.take k).filter (fun f => !(decide (f.n = n))) = S.take k := List.filter_eq_self.2 (fun f hf => by
    obtain ⟨j, hj, hjl, e⟩ := mem_take hf
    have := ltT_ne (risG_lt hr hj hk)
    rw [e, he] at this
    simp [this])
  have h2 : (S.drop (k + 1)).filter (fun f => !(decide (f.n = n))) = S.drop (k + 1) := List.filter_eq_self.2 (fun f hf => by
    obtain ⟨j, hj, hjl, e⟩ := mem_drop hf
    have := ltT_ne (risG_lt hr (show k < j by omega) hjl)
    rw [e, he] at this
    rw [decide_eq_false (fun e2 : f.n = n => this e2.symm)]
    rfl)
  have e := parts3 hk
  conv => rhs; rw [e]
  unfold cutG
  rw [List.filter_append, h1, List.filter_cons_of_neg (by rw [decide_eq_true he]; simp), h2]
/-- Where it is not there: all. -/
theorem cut_lost {S : List GR} {n : ByteArray} {k : Nat} (h : AtG S n k) (hr : RisG S) (hf : fndG S n k = false) : cutG S n = S := by
  unfold cutG
  apply List.filter_eq_self.2
  intro f hm
  obtain ⟨j, hj, e⟩ := List.getElem_of_mem hm
  have e2 : S.getD j gr0 = f := by rw [getD_elem hj, e]
  have hne : f.n ≠ n := fun hn => by
    rcases Nat.lt_trichotomy j k with h1 | h1 | h1
    · have := h.lo j h1
      rw [e2, hn, ltT_irr] at this
      cases this
    · subst h1
      have : fndG S n j = true := decide_eq_true ⟨hj, by rw [e2]; exact hn⟩
      rw [this] at hf
      cases hf
    · have h2 := risG_lt hr h1 hj
      rw [e2, hn, h.hi k (Nat.le_refl _) (by omega)] at h2
      cases h2
  simp [hne]
/-- Where a file is put: the files ahead of its name, it, those behind. -/
theorem put_at {S : List GR} {f : GR} {k : Nat} (h : AtG (cutG S f.n) f.n k) : (cutG S f.n).take k ++ f :: (cutG S f.n).drop k = putG S f := by
  have hno : ∀ g ∈ cutG S f.n, g.n ≠ f.n := fun g hg => by
    have := (List.mem_filter.1 hg).2
    simpa using this
  have g1 : S.filter (fun g => ltT g.n f.n) = (cutG S f.n).filter (fun g => ltT g.n f.n) := by
    unfold cutG
    rw [List.filter_filter]
    apply List.filter_congr
    intro g _
    cases hq : ltT g.n f.n
    · rfl
    · have := ltT_ne hq
      simp [this]
  have g2 : S.filter (fun g => ltT f.n g.n) = (cutG S f.n).filter (fun g => ltT f.n g.n) := by
    unfold cutG
    rw [List.filter_filter]
    apply List.filter_congr
    intro g _
    cases hq : ltT f.n g.n
    · rfl
    · have := ltT_ne hq
      rw [decide_eq_false (fun e : g.n = f.n => this e.symm)]
      rfl
  unfold putG
  rw [g1, g2]
  generalize cutG S f.n = G at *
  have a1 : (G.take k).filter (fun g => ltT g.n f.n) = G.take k := List.filter_eq_self.2 (fun g hg => by
    obtain ⟨j, hj, hjl, e⟩ := mem_take hg
    have := h.lo j hj
    rw [e] at this
    exact this)
  have a2 : (G.drop k).filter (fun g => ltT g.n f.n) = [] := by
    rw [List.filter_eq_nil_iff]
    intro g hg
    obtain ⟨j, hj, hjl, e⟩ := mem_drop hg
    have := h.hi j hj hjl
    rw [e] at this
    rw [this]; simp
  have b1 : (G.take k).filter (fun g => ltT f.n g.n) = [] := by
    rw [List.filter_eq_nil_iff]
    intro g hg
    obtain ⟨j, hj, hjl, e⟩ := mem_take hg
    have := h.lo j hj
    rw [e] at this
    rw [ltT_asym this]; simp
  have b2 : (G.drop k).filter (fun g => ltT f.n g.n) = G.drop k := List.filter_eq_self.2 (fun g hg => by
    obtain ⟨j, hj, hjl, e⟩ := mem_drop hg
    have h1 := h.hi j hj hjl
    rw [e] at h1
    cases hq : ltT f.n g.n
    · exact absurd (ltT_tri h1 hq) (hno g (List.mem_of_mem_drop hg))
    · rfl)
  have e := List.take_append_drop k G
  conv => rhs; rw [← e]
  rw [List.filter_append, List.filter_append, a1, a2, b1, b2, List.append_nil, List.nil_append]
theorem risG_cut {S : List GR} (h : RisG S) (n : ByteArray) : RisG (cutG S n) := List.Pairwise.filter _ h
theorem risG_put {S : List GR} (h : RisG S) (f : GR) : RisG (putG S f) := by
  rw [risG_iff, keys_put]
  exact risF_put (risG_iff.1 h) _ _
theorem cutG_len (S : List GR) (n : ByteArray) : (cutG S n).length ≤ S.length := List.length_filter_le _ _
theorem putG_len (S : List GR) (f : GR) : (putG S f).length ≤ S.length + 1 := by
  have := putF_len (keysG S) f.n (jn f.ps)
  rw [← keys_put, keys_len, keys_len] at this
  exact this
theorem dat_found {S : List GR} {n : ByteArray} {k : Nat} (hr : RisG S) (hk : k < S.length) (he : (S.getD k gr0).n = n) : datF (keysG S) n = jn (S.getD k gr0).ps ∧ hasF (keysG S) n = true := by
  have e := parts3 hk
  have hno : ∀ f ∈ S.take k, f.n ≠ n := fun f hf => by
    obtain ⟨j, hj, hjl, e⟩ := mem_take hf
    have := ltT_ne (risG_lt hr hj hk)
    rwa [e, he] at this
  generalize S.getD k gr0 = g at *
  have h0 : (keysG (S.take k)).find? (fun f => decide (f.1 = n)) = none := by
    rw [List.find?_eq_none]
    intro f hf
    obtain ⟨g, hg, rfl⟩ := List.mem_map.1 hf
    rw [decide_eq_false (show ¬ g.key.1 = n from hno g hg)]
    simp
  have e2 : keysG S = keysG (S.take k) ++ g.key :: keysG (S.drop (k + 1)) := by
    conv => lhs; rw [e]
    simp [keysG]
  have hk1 : decide (g.key.1 = n) = true := decide_eq_true he
  constructor
  · unfold datF
    rw [e2, List.find?_append, h0, Option.none_or, List.find?_cons, hk1]
    rfl
  · unfold hasF
    rw [e2, List.any_append, List.any_cons, hk1, Bool.true_or, Bool.or_true]
theorem dat_lost {S : List GR} {n : ByteArray} (h : cutG S n = S) : datF (keysG S) n = ⟨#[]⟩ ∧ hasF (keysG S) n = false := by
  have hno : ∀ g ∈ S, g.n ≠ n := fun g hg => by
    rw [← h] at hg
    have := (List.mem_filter.1 hg).2
    simpa using this
  constructor
  · unfold datF
    rw [List.find?_eq_none.2]
    · rfl
    · intro f hf
      obtain ⟨g, hg, rfl⟩ := List.mem_map.1 hf
      rw [decide_eq_false (show ¬ g.key.1 = n from hno g hg)]
      simp
  · unfold hasF
    rw [List.any_eq_false]
    intro f hf
    obtain ⟨g, hg, rfl⟩ := List.mem_map.1 hf
    rw [decide_eq_false (show ¬ g.key.1 = n from hno g hg)]
    simp

end Go.Proofs.Ytpahhhocgpohbaa
