import Derived.WalkKit
import Derived.WalkSpells
import Derived.Deep.WholeRow
namespace Go.Proofs.Ytchdcifhccjheaa
open Go.RowKit

/-- An operation by its own run. -/
theorem wpList_run {P : Program} {ops : Array Oper} {rest : List Oper} {o : Oper} {a : Act} {w w' : World} {Q : Exit → Act → World → Prop} (v : Value) (hgd : o.guard = none)
    (hrun : (execOp a.eval o).run P w = .ok (.value v) w') (h : wpList P ops Q rest (a.put o.dst v) w') : wpList P ops Q (o :: rest) a w :=
  wpList_plain hgd fun _ hK => by unfold Oper.wp; rw [hrun]; exact hK _ _ h

theorem bcell {W w1 : World} (hb : Below W.heap.size W w1) : (∀ b o, b < W.heap.size → w1.cell? ⟨b, o, none⟩ = W.cell? ⟨b, o, none⟩) ∧ (∀ b o, b < W.heap.size → w1.frozen? ⟨b, o, none⟩ = W.frozen? ⟨b, o, none⟩) :=
  ⟨fun b o h => hb.cell (p := ⟨b, o, none⟩) h, fun b o h => hb.frozen (p := ⟨b, o, none⟩) h⟩

theorem take_snoc (zs : List Int) (k : Nat) (h : k < zs.length) : zs.take (k + 1) = zs.take k ++ [zs.getD k 0] := by
  rw [List.take_succ_eq_append_getElem h]; simp [List.getD, h]

theorem ret_bool {a b : Bool} (h : a = b) : Ending.returned (.bool a) = .returned (.bool b) := by rw [h]

theorem ret_int {k : IntKind} {a b : Int} (h : a = b) : Ending.returned (.int k a) = .returned (.int k b) := by rw [h]

/-- n is lo .. hi. -/
def inB (n lo hi : Int) : Bool := decide (lo ≤ n ∧ n ≤ hi)

theorem inB_mk {n lo hi : Int} (h : lo ≤ n ∧ n ≤ hi) : inB n lo hi = true := decide_eq_true h

theorem inB_not {n lo hi : Int} (h : ¬ (lo ≤ n ∧ n ≤ hi)) : inB n lo hi = false := decide_eq_false h

theorem inB_true {n lo hi : Int} (h : inB n lo hi = true) : lo ≤ n ∧ n ≤ hi := of_decide_eq_true h

theorem inB_false {n lo hi : Int} (h : inB n lo hi = false) : ¬ (lo ≤ n ∧ n ≤ hi) := of_decide_eq_false h

/-- The cells of a row of int64s. -/
def cellsOf (l : List Int) : Array Value := (l.map (Value.int .i64)).toArray

theorem cellsOf_size (l : List Int) : (cellsOf l).size = l.length := by simp [cellsOf]

theorem cellsOf_get (l : List Int) (i : Nat) (h : i < l.length) : (cellsOf l)[i]? = some (.int .i64 (l.getD i 0)) := by
  simp [cellsOf, List.getD, h]

theorem cellsOf_set (l : List Int) (i : Nat) (v : Int) : (cellsOf l).setIfInBounds i (.int .i64 v) = cellsOf (l.set i v) := by
  simp [cellsOf, List.map_set]

theorem cellsOf_one (l : List Int) : (cellsOf l).all (·.oneCell') = true := by
  simp [cellsOf, Value.oneCell']

theorem below_setRow {B : Nat} {a w : World} (h : Below B a w) {g : Nat} (hg : B ≤ g) (cs : Array Value) : Below B a (w.setRow g cs) :=
  h.trans ⟨rfl, rfl, rfl, by simp, fun k hk => setRow_other w g k cs (by omega)⟩

/-- The slice at 'a' holds the numbers zs. -/
def IntsAt (w : World) (a : Option Addr) (zs : List Int) : Prop :=
  ∀ j, j < zs.length → ∃ b off, a = some ⟨b, off, none⟩ ∧ w.cell? ⟨b, off + j, none⟩ = some (.int .i64 (zs.getD j 0))

theorem IntsAt.some {w : World} {a : Option Addr} {zs : List Int} (h : IntsAt w a zs) {j : Nat} (hj : j < zs.length) :
    ∃ b off, a = some ⟨b, off, none⟩ ∧ ∀ j, j < zs.length → w.cell? ⟨b, off + j, none⟩ = .some (.int .i64 (zs.getD j 0)) := by
  obtain ⟨b, off, e, _⟩ := h j hj
  refine ⟨b, off, e, fun k hk => ?_⟩
  obtain ⟨b', off', e', hc⟩ := h k hk
  rw [e] at e'
  simp at e'
  obtain ⟨rfl, rfl⟩ := e'
  exact hc

theorem IntsAt.below {w w' : World} {a : Option Addr} {zs : List Int} (h : IntsAt w a zs) (hb : Below w.heap.size w w') : IntsAt w' a zs := by
  intro j hj
  obtain ⟨b, off, e, hc⟩ := h j hj
  refine ⟨b, off, e, ?_⟩
  have hl := block_lt_of_cell hc
  rw [hb.cell (p := ⟨b, off + j, none⟩) hl]
  exact hc

theorem IntsAt.of_row {w : World} {g : Nat} {zs : List Int} {t : TypeId} (h : w.heap[g]? = .some (.cells (cellsOf zs) t (0, 0))) : IntsAt w (.some ⟨g, 0, none⟩) zs := by
  intro j hj
  refine ⟨g, 0, rfl, ?_⟩
  rw [Nat.zero_add, cell_of_row _ _ _ _ _ _ h, cellsOf_get _ _ hj]

/-- A matrix of n places with these times is right. -/
def matB (n : Int) (zs : List Int) : Bool :=
  decide (1 ≤ n ∧ n ≤ 16 ∧ (zs.length : Int) = n * n ∧ ∀ i, i < zs.length → 0 ≤ zs.getD i 0 ∧ zs.getD i 0 ≤ 10000 ∧ (i / n.toNat = i % n.toNat → zs.getD i 0 = 0))

theorem matB_true {n : Int} {zs : List Int} (h : matB n zs = true) : 1 ≤ n ∧ n ≤ 16 ∧ (zs.length : Int) = n * n ∧ ∀ i, i < zs.length → 0 ≤ zs.getD i 0 ∧ zs.getD i 0 ≤ 10000 ∧ (i / n.toNat = i % n.toNat → zs.getD i 0 = 0) :=
  of_decide_eq_true h

theorem matB_mk {n : Int} {zs : List Int} (h : 1 ≤ n ∧ n ≤ 16 ∧ (zs.length : Int) = n * n ∧ ∀ i, i < zs.length → 0 ≤ zs.getD i 0 ∧ zs.getD i 0 ≤ 10000 ∧ (i / n.toNat = i % n.toNat → zs.getD i 0 = 0)) : matB n zs = true :=
  decide_eq_true h

theorem matB_not {n : Int} {zs : List Int} (h : ¬ (1 ≤ n ∧ n ≤ 16 ∧ (zs.length : Int) = n * n ∧ ∀ i, i < zs.length → 0 ≤ zs.getD i 0 ∧ zs.getD i 0 ≤ 10000 ∧ (i / n.toNat = i % n.toNat → zs.getD i 0 = 0))) : matB n zs = false :=
  decide_eq_false h

/-- The grid of n places, filled up to the place (a, b). -/
def gridTo (n : Nat) (zs : List Int) (a b : Nat) : List Int :=
  (List.range 256).map fun k => if k / 16 < n ∧ k % 16 < n ∧ (k / 16 < a ∨ k / 16 = a ∧ k % 16 < b) then zs.getD (k / 16 * n + k % 16) 0 else 0

theorem gridTo_length (n : Nat) (zs : List Int) (a b : Nat) : (gridTo n zs a b).length = 256 := by simp [gridTo]

theorem gridTo_step (n : Nat) (zs : List Int) (a b : Nat) (ha : a < n) (hb : b < n) (hn : n ≤ 16) :
    (gridTo n zs a b).set (a * 16 + b) (zs.getD (a * n + b) 0) = gridTo n zs a (b + 1) := by
  apply List.ext_getElem
  · simp [gridTo]
  · intro k h1 h2
    have hk : k < 256 := by simpa [gridTo] using h2
    by_cases e : a * 16 + b = k
    · subst e
      have e1 : (a * 16 + b) / 16 = a := by omega
      have e2 : (a * 16 + b) % 16 = b := by omega
      simp only [gridTo, List.getElem_set, List.getElem_map, List.getElem_range, e1, e2, if_true]
      rw [if_pos ⟨ha, hb, Or.inr ⟨trivial, by omega⟩⟩]
    · simp only [gridTo, List.getElem_set, List.getElem_map, List.getElem_range, if_neg e]
      have : ¬ (k / 16 = a ∧ k % 16 = b) := by omega
      by_cases c : k / 16 < n ∧ k % 16 < n ∧ (k / 16 < a ∨ k / 16 = a ∧ k % 16 < b)
      · rw [if_pos c, if_pos ⟨c.1, c.2.1, by omega⟩]
      · rw [if_neg c, if_neg (by omega)]

theorem gridTo_row (n : Nat) (zs : List Int) (a : Nat) : gridTo n zs a n = gridTo n zs (a + 1) 0 := by
  unfold gridTo
  apply List.map_congr_left
  intro k _
  by_cases c : k / 16 < n ∧ k % 16 < n ∧ (k / 16 < a ∨ k / 16 = a ∧ k % 16 < n)
  · rw [if_pos c, if_pos (by omega)]
  · rw [if_neg c, if_neg (by omega)]

def zeros : List Int := (List.range 256).map fun _ => 0

theorem zeros_length : zeros.length = 256 := by simp [zeros]

theorem gridTo_zero (n : Nat) (zs : List Int) : gridTo n zs 0 0 = zeros := by
  unfold gridTo zeros
  apply List.map_congr_left
  intro k _
  rw [if_neg (by omega)]

/-- What gridOf makes of a matrix. -/
def gridRes (n : Int) (zs : List Int) : List Int := if matB n zs = true then gridTo n.toNat zs n.toNat 0 else zeros

theorem gridRes_true {n : Nat} {zs : List Int} (h : matB n zs = true) : gridRes n zs = gridTo n zs n 0 := by
  unfold gridRes; rw [if_pos h]; simp

theorem gridRes_false {n : Int} {zs : List Int} (h : matB n zs = false) : gridRes n zs = zeros := by
  unfold gridRes; rw [h]; simp

theorem gridRes_length (n : Int) (zs : List Int) : (gridRes n zs).length = 256 := by
  unfold gridRes; split
  · exact gridTo_length _ _ _ _
  · exact zeros_length

/-- All times up to the place (a, b) are right. -/
def okTo (n : Nat) (zs : List Int) (a b : Nat) : Prop :=
  ∀ i j, i < n → j < n → (i < a ∨ i = a ∧ j < b) → 0 ≤ zs.getD (i * n + j) 0 ∧ zs.getD (i * n + j) 0 ≤ 10000 ∧ (i = j → zs.getD (i * n + j) 0 = 0)

theorem okTo_zero (n : Nat) (zs : List Int) : okTo n zs 0 0 := by intro i j _ _ h; omega

theorem okTo_step {n : Nat} {zs : List Int} {a b : Nat} (h : okTo n zs a b) (h0 : 0 ≤ zs.getD (a * n + b) 0) (h1 : zs.getD (a * n + b) 0 ≤ 10000) (h2 : a = b → zs.getD (a * n + b) 0 = 0) : okTo n zs a (b + 1) := by
  intro i j hi hj hij
  by_cases e : i = a ∧ j = b
  · obtain ⟨rfl, rfl⟩ := e; exact ⟨h0, h1, h2⟩
  · exact h i j hi hj (by omega)

theorem okTo_row {n : Nat} {zs : List Int} {a : Nat} (h : okTo n zs a n) : okTo n zs (a + 1) 0 := by
  intro i j hi hj hij
  exact h i j hi hj (by omega)

theorem div_mod_at (n i j : Nat) (hj : j < n) : (i * n + j) / n = i ∧ (i * n + j) % n = j := by
  have hn : 0 < n := by omega
  constructor
  · rw [Nat.add_comm, Nat.add_mul_div_right _ _ hn, Nat.div_eq_of_lt hj, Nat.zero_add]
  · rw [Nat.add_comm, Nat.add_mul_mod_self_right, Nat.mod_eq_of_lt hj]

theorem at_div_mod (n k : Nat) (h : k < n * n) : k / n < n ∧ k % n < n ∧ k / n * n + k % n = k := by
  have hn : 0 < n := by rcases Nat.eq_zero_or_pos n with e | e; · subst e; simp at h
                        exact e
  exact ⟨(Nat.div_lt_iff_lt_mul hn).2 h, Nat.mod_lt _ hn, by rw [Nat.mul_comm]; exact Nat.div_add_mod k n⟩

theorem matB_of_okTo (n : Nat) (zs : List Int) (h1 : 1 ≤ n) (h2 : n ≤ 16) (hl : zs.length = n * n) (h : okTo n zs n 0) : matB n zs = true := by
  refine matB_mk ⟨by omega, by omega, by rw [hl]; simp, fun i hi => ?_⟩
  obtain ⟨a, b, c⟩ := at_div_mod n i (by omega)
  have := h (i / n) (i % n) a b (Or.inl a)
  rw [c] at this
  simpa using this

theorem matB_bad (n : Nat) (zs : List Int) (x y : Nat) (hx : x < n) (hy : y < n) (hl : zs.length = n * n) (h : ¬ (0 ≤ zs.getD (x * n + y) 0 ∧ zs.getD (x * n + y) 0 ≤ 10000 ∧ (x = y → zs.getD (x * n + y) 0 = 0))) : matB n zs = false := by
  refine matB_not fun ⟨_, _, _, hh⟩ => h ?_
  obtain ⟨e1, e2⟩ := div_mod_at n x y hy
  have hlt : x * n + y < zs.length := by
    rw [hl]
    have := Nat.mul_le_mul_right n (show x + 1 ≤ n by omega)
    rw [Nat.add_mul] at this
    omega
  have := hh (x * n + y) hlt
  simp only [Int.toNat_natCast, e1, e2] at this
  exact this

theorem mul_bd (a n : Nat) (h1 : a ≤ 16) (h2 : n ≤ 16) : a * n ≤ 256 := Nat.mul_le_mul h1 h2

theorem matB_all (n : Nat) (zs : List Int) (h1 : 1 ≤ n) (h2 : n ≤ 16) (hl : zs.length = n * n) (h : ∀ i, i < n * n → 0 ≤ zs.getD i 0 ∧ zs.getD i 0 ≤ 10000 ∧ (i / n = i % n → zs.getD i 0 = 0)) : matB n zs = true :=
  matB_mk ⟨by omega, by omega, by rw [hl]; simp, fun i hi => by rw [Int.toNat_natCast]; exact h i (by omega)⟩

theorem matB_at (n : Nat) (zs : List Int) (hl : zs.length = n * n) (k : Nat) (hk : k < n * n) (h : ¬ (0 ≤ zs.getD k 0 ∧ zs.getD k 0 ≤ 10000 ∧ (k / n = k % n → zs.getD k 0 = 0))) : matB n zs = false :=
  matB_not fun ⟨_, _, _, hh⟩ => h (by have := hh k (by omega); rwa [Int.toNat_natCast] at this)

theorem below_row {B : Nat} {W w1 : World} (hb : Below B W w1) {k : Nat} {o : Obj} (hk : k < B) (h : W.heap[k]? = some o) : w1.heap[k]? = some o := by
  rw [hb.block k hk]; exact h

theorem row_lt {W : World} {k : Nat} {o : Obj} (h : W.heap[k]? = some o) : k < W.heap.size := by
  by_cases hlt : k < W.heap.size
  · exact hlt
  · have hn : W.heap[k]? = none := by simp; omega
    rw [hn] at h; cases h

/-- Behind a call, what is known of a box of two cells that was made ahead of it. -/
theorem box2 {w w1 : World} {c0 c1 : Value} {T : TypeId} (hb : Below (w.alloc (.cells #[c0, c1] T)).heap.size (w.alloc (.cells #[c0, c1] T)) w1) :
    Below w.heap.size w w1 ∧ w1.heap[w.heap.size]? = some (.cells #[c0, c1] T (0, 0)) ∧ w1.cell? ⟨w.heap.size, 0, none⟩ = some c0 ∧ w1.cell? ⟨w.heap.size, 1, none⟩ = some c1 := by
  have r : w1.heap[w.heap.size]? = some (.cells #[c0, c1] T (0, 0)) := below_row hb (by simp) (heap_alloc_new _ _)
  refine ⟨((Below.refl _ _).alloc (Nat.le_refl _) _).trans (hb.mono (by simp)), r, ?_, ?_⟩
  · rw [cell_of_row _ _ 0 _ _ _ r]; simp
  · rw [cell_of_row _ _ 1 _ _ _ r]; simp

/-- And behind a further call. -/
theorem box2_more {w w1 w2 : World} {k : Nat} {c0 c1 : Value} {T : TypeId} (hb : Below w1.heap.size w1 w2) (hB : Below w.heap.size w w1) (hr : w1.heap[k]? = some (.cells #[c0, c1] T (0, 0))) :
    Below w.heap.size w w2 ∧ w2.heap[k]? = some (.cells #[c0, c1] T (0, 0)) ∧ w2.cell? ⟨k, 0, none⟩ = some c0 ∧ w2.cell? ⟨k, 1, none⟩ = some c1 := by
  have r : w2.heap[k]? = some (.cells #[c0, c1] T (0, 0)) := below_row hb (row_lt hr) hr
  refine ⟨hB.trans (hb.mono hB.size), r, ?_, ?_⟩
  · rw [cell_of_row _ _ 0 _ _ _ r]; simp
  · rw [cell_of_row _ _ 1 _ _ _ r]; simp

/-- What TimeOf answers. -/
def timeV (n : Int) (zs : List Int) (x y : Int) : Int :=
  if matB n zs = true ∧ inB x 0 (n - 1) = true ∧ inB y 0 (n - 1) = true then zs.getD (x.toNat * n.toNat + y.toNat) 0 else -1

theorem timeV_no {n : Int} {zs : List Int} {x y : Int} (h : ¬ (matB n zs = true ∧ inB x 0 (n - 1) = true ∧ inB y 0 (n - 1) = true)) : timeV n zs x y = -1 := by
  unfold timeV; rw [if_neg h]

theorem timeV_at {n x y : Nat} {zs : List Int} (h : matB n zs = true) (hx : x < n) (hy : y < n) : timeV n zs x y = zs.getD (x * n + y) 0 := by
  unfold timeV; rw [if_pos ⟨h, inB_mk (by omega), inB_mk (by omega)⟩]; simp

theorem gridTo_get (n : Nat) (zs : List Int) (x y : Nat) (hx : x < n) (hy : y < n) (hn : n ≤ 16) : (gridTo n zs n 0).getD (x * 16 + y) 0 = zs.getD (x * n + y) 0 := by
  have e1 : (x * 16 + y) / 16 = x := by omega
  have e2 : (x * 16 + y) % 16 = y := by omega
  have hk : x * 16 + y < 256 := by omega
  unfold gridTo
  rw [List.getD_eq_getElem?_getD, List.getElem?_map, List.getElem?_range hk]
  simp only [Option.map_some, Option.getD_some, e1, e2]
  rw [if_pos ⟨hx, hy, Or.inl hx⟩]

theorem grid_cell {W : World} {g n x y : Nat} {zs : List Int} {T : TypeId} (hg : W.heap[g]? = some (.cells (cellsOf (gridRes n zs)) T (0, 0))) (hm : matB n zs = true) (hx : x < n) (hy : y < n) (hn : n ≤ 16) :
    W.cell? ⟨g, x * 16 + y, none⟩ = some (.int .i64 (zs.getD (x * n + y) 0)) := by
  rw [cell_of_row _ _ _ _ _ _ hg, cellsOf_get _ _ (by rw [gridRes_length]; omega), gridRes_true hm, gridTo_get n zs x y hx hy hn]

/-- The times of the first k places of a path. -/
def pathTo (n : Nat) (zs ps : List Int) : Nat → Int
  | 0 => 0
  | k + 1 => pathTo n zs ps k + if k = 0 then 0 else zs.getD ((ps.getD (k - 1) 0).toNat * n + (ps.getD k 0).toNat) 0

def placesTo (n : Int) (ps : List Int) (k : Nat) : Prop := ∀ j, j < k → inB (ps.getD j 0) 0 (n - 1) = true

/-- What PathTime answers. -/
def pathV (n : Int) (zs ps : List Int) : Int :=
  if matB n zs = true ∧ ps.length ≤ 100 ∧ (∀ j, j < ps.length → inB (ps.getD j 0) 0 (n - 1) = true) then pathTo n.toNat zs ps ps.length else -1

theorem pathV_no {n : Int} {zs ps : List Int} (h : ¬ (matB n zs = true ∧ ps.length ≤ 100 ∧ (∀ j, j < ps.length → inB (ps.getD j 0) 0 (n - 1) = true))) : pathV n zs ps = -1 := by
  unfold pathV; rw [if_neg h]

theorem pathV_yes {n : Nat} {zs ps : List Int} (h1 : matB n zs = true) (h2 : ps.length ≤ 100) (h3 : placesTo n ps ps.length) : pathV n zs ps = pathTo n zs ps ps.length := by
  unfold pathV; rw [if_pos ⟨h1, h2, h3⟩]; simp

theorem mat_cell_bd {n : Nat} {zs : List Int} (hm : matB n zs = true) (x y : Nat) (hx : x < n) (hy : y < n) : 0 ≤ zs.getD (x * n + y) 0 ∧ zs.getD (x * n + y) 0 ≤ 10000 := by
  obtain ⟨h1, h2, hl, h⟩ := matB_true hm
  have hl' : zs.length = n * n := by rw [← Int.natCast_mul] at hl; omega
  have hxy : x * n + y < n * n := by
    have := Nat.mul_le_mul_right n (show x + 1 ≤ n by omega)
    rw [Nat.add_mul] at this
    omega
  have := h (x * n + y) (by omega)
  exact ⟨this.1, this.2.1⟩

theorem place_nat {n : Nat} {p : Int} (h : inB p 0 (n - 1) = true) : p = (p.toNat : Int) ∧ p.toNat < n := by
  have := inB_true h
  omega

theorem pathTo_bd {n : Nat} {zs ps : List Int} (hm : matB n zs = true) : ∀ k, placesTo n ps k → 0 ≤ pathTo n zs ps k ∧ pathTo n zs ps k ≤ 10000 * k
  | 0, _ => by simp [pathTo]
  | k + 1, h => by
    have ih := pathTo_bd (n := n) (zs := zs) (ps := ps) hm k (fun j hj => h j (by omega))
    unfold pathTo
    by_cases hk : k = 0
    · rw [if_pos hk]; omega
    · rw [if_neg hk]
      have p1 := place_nat (h (k - 1) (by omega))
      have p2 := place_nat (h k (by omega))
      have := mat_cell_bd hm _ _ p1.2 p2.2
      omega

theorem made_zero (n : Nat) : madeCells (Value.int .i64 0).cells (n * 1) = cellsOf (List.replicate n 0) := by
  apply Array.ext
  · simp [madeCells, cellsOf]
  · intro i h1 h2
    simp [madeCells, cellsOf, Value.cells, Nat.mod_one]

theorem copy_step (zs : List Int) (k : Nat) (h : k < zs.length) :
    (zs.take k ++ List.replicate (zs.length - k) 0).set k (zs.getD k 0) = zs.take (k + 1) ++ List.replicate (zs.length - (k + 1)) 0 := by
  have e : zs.length - k = (zs.length - (k + 1)) + 1 := by omega
  rw [e, List.replicate_succ, List.set_append_right _ _ (by simp; omega)]
  have hl : (zs.take k).length = k := by simp; omega
  have e2 : zs.getD k 0 = zs[k] := by simp [List.getD, h]
  rw [hl, Nat.sub_self, List.set_cons_zero, List.take_succ_eq_append_getElem h, e2, List.append_assoc]
  rfl

theorem ret_grid_eq {a b : List Int} {p q : Bool} (h : a = b) (k : p = q) : Ending.returned (.tuple #[.agg (cellsOf a), .bool p]) = Ending.returned (.tuple #[.agg (cellsOf b), .bool q]) := by rw [h, k]

/-- The time from x to y. -/
def tm (n : Nat) (zs : List Int) (x y : Nat) : Int := zs.getD (x * n + y) 0
theorem tm_def (n : Nat) (zs : List Int) (x y : Nat) : zs.getD (x * n + y) 0 = tm n zs x y := rfl
theorem tm_bd {n : Nat} {zs : List Int} (hm : matB n zs = true) (x y : Nat) (hx : x < n) (hy : y < n) : 0 ≤ tm n zs x y ∧ tm n zs x y ≤ 10000 := mat_cell_bd hm x y hx hy

end Go.Proofs.Ytchdcifhccjheaa

namespace Go.Proofs.Ytchdcifhccjheaa
open Go.RowKit

/-- One step of closing a matrix of n places. -/
def clo1 (n : Nat) (l : List Int) (k a b : Nat) : List Int := l.set (a * n + b) (min (tm n l a b) (tm n l a k + tm n l k b))
/-- The first m steps. -/
def cloTo (n : Nat) (zs : List Int) : Nat → List Int
  | 0 => zs
  | m + 1 => clo1 n (cloTo n zs m) (m / n / n) (m / n % n) (m % n)
theorem clo_split (n k a b : Nat) (ha : a < n) (hb : b < n) : ((k * n + a) * n + b) / n / n = k ∧ ((k * n + a) * n + b) / n % n = a ∧ ((k * n + a) * n + b) % n = b := by
  obtain ⟨h1, h2⟩ := div_mod_at n (k * n + a) b hb
  obtain ⟨h3, h4⟩ := div_mod_at n k a ha
  exact ⟨by rw [h1, h3], by rw [h1, h4], h2⟩
theorem cloTo_step (n : Nat) (zs : List Int) (k a b : Nat) (ha : a < n) (hb : b < n) :
    cloTo n zs ((k * n + a) * n + (b + 1)) = clo1 n (cloTo n zs ((k * n + a) * n + b)) k a b := by
  obtain ⟨h1, h2, h3⟩ := clo_split n k a b ha hb
  rw [← Nat.add_assoc, cloTo, h1, h2, h3]
theorem clo1_length (n : Nat) (l : List Int) (k a b : Nat) : (clo1 n l k a b).length = l.length := by simp [clo1]
theorem cloTo_length (n : Nat) (zs : List Int) : ∀ m, (cloTo n zs m).length = zs.length
  | 0 => rfl
  | m + 1 => by rw [cloTo, clo1_length, cloTo_length n zs m]
/-- All times are 0 .. 10000. -/
def okL (l : List Int) : Prop := ∀ i, 0 ≤ l.getD i 0 ∧ l.getD i 0 ≤ 10000
theorem okL_set {l : List Int} (h : okL l) {i : Nat} {v : Int} (h0 : 0 ≤ v) (h1 : v ≤ 10000) : okL (l.set i v) := by
  intro j
  have hj := h j
  rw [List.getD_eq_getElem?_getD] at hj ⊢
  rw [List.getElem?_set]
  split
  · split
    · simp; omega
    · simp
  · exact hj
theorem okL_clo1 {n : Nat} {l : List Int} (h : okL l) (k a b : Nat) : okL (clo1 n l k a b) := by
  have h1 := h (a * n + b)
  have h2 := h (a * n + k)
  have h3 := h (k * n + b)
  unfold clo1 tm
  refine okL_set h ?_ ?_
  · omega
  · omega
theorem okL_cloTo {n : Nat} {zs : List Int} (h : okL zs) : ∀ m, okL (cloTo n zs m)
  | 0 => h
  | m + 1 => okL_clo1 (okL_cloTo h m) _ _ _
theorem okL_of_mat {n : Int} {zs : List Int} (h : matB n zs = true) : okL zs := by
  intro i
  by_cases hi : i < zs.length
  · have := (matB_true h).2.2.2 i hi
    exact ⟨this.1, this.2.1⟩
  · rw [List.getD_eq_getElem?_getD, List.getElem?_eq_none (by omega)]; simp
theorem tm_okL {n : Nat} {l : List Int} (h : okL l) (x y : Nat) : 0 ≤ tm n l x y ∧ tm n l x y ≤ 10000 := h _
/-- The closed matrix. -/
def clo (n : Nat) (zs : List Int) : List Int := cloTo n zs (n * n * n)

theorem IntsAt.pre {w : World} {a : Option Addr} {l r : List Int} (h : IntsAt w a (l ++ r)) : IntsAt w a l := by
  intro j hj
  obtain ⟨b, off, e, hc⟩ := h j (by simp; omega)
  refine ⟨b, off, e, ?_⟩
  rw [hc, List.getD_eq_getElem?_getD, List.getElem?_append_left hj, ← List.getD_eq_getElem?_getD]

end Go.Proofs.Ytchdcifhccjheaa

namespace Go.Proofs.Ytchdcifhccjheaa

/-- No time up to (x, y, z) has a shorter way round. -/
def triTo (n : Nat) (zs : List Int) (x y z : Nat) : Prop := ∀ i j k, i < n → j < n → k < n → (i < x ∨ i = x ∧ (j < y ∨ j = y ∧ k < z)) → tm n zs i j ≤ tm n zs i k + tm n zs k j
/-- What Triangle answers. -/
def triB (n : Int) (zs : List Int) : Bool := decide (matB n zs = true ∧ ∀ i, i < n.toNat → ∀ j, j < n.toNat → ∀ k, k < n.toNat → tm n.toNat zs i j ≤ tm n.toNat zs i k + tm n.toNat zs k j)
theorem triB_no {n : Int} {zs : List Int} (h : matB n zs = false) : triB n zs = false := decide_eq_false fun k => by rw [h] at k; exact Bool.noConfusion k.1
theorem triB_yes {n : Nat} {zs : List Int} (h : matB n zs = true) (hs : triTo n zs n 0 0) : triB n zs = true :=
  decide_eq_true ⟨h, fun i hi j hj k hk => hs i j k (by simpa using hi) (by simpa using hj) (by simpa using hk) (Or.inl (by simpa using hi))⟩
theorem triB_bad {n : Nat} {zs : List Int} {x y z : Nat} (hx : x < n) (hy : y < n) (hz : z < n) (h : ¬ tm n zs x y ≤ tm n zs x z + tm n zs z y) : triB n zs = false :=
  decide_eq_false fun k => h (by have := k.2 x (by simpa using hx) y (by simpa using hy) z (by simpa using hz); simpa using this)
theorem triTo_zero (n : Nat) (zs : List Int) : triTo n zs 0 0 0 := fun i j k _ _ _ h => by omega
theorem triTo_step {n : Nat} {zs : List Int} {x y z : Nat} (h : triTo n zs x y z) (e : tm n zs x y ≤ tm n zs x z + tm n zs z y) : triTo n zs x y (z + 1) := by
  intro i j k hi hj hk hij
  by_cases c : i = x ∧ j = y ∧ k = z
  · obtain ⟨rfl, rfl, rfl⟩ := c; exact e
  · exact h i j k hi hj hk (by omega)
theorem triTo_col {n : Nat} {zs : List Int} {x y : Nat} (h : triTo n zs x y n) : triTo n zs x (y + 1) 0 := fun i j k hi hj hk hij => h i j k hi hj hk (by omega)
theorem triTo_row {n : Nat} {zs : List Int} {x : Nat} (h : triTo n zs x n 0) : triTo n zs (x + 1) 0 0 := fun i j k hi hj hk hij => h i j k hi hj hk (by omega)

end Go.Proofs.Ytchdcifhccjheaa

namespace Go.Proofs.Ytchdcifhccjheaa

/-- All pairs up to (x, y) are the same in both ways. -/
def symTo (n : Nat) (zs : List Int) (x y : Nat) : Prop := ∀ i j, j < i → (i < x ∨ i = x ∧ j < y) → tm n zs i j = tm n zs j i
/-- What Symmetric answers. -/
def symB (n : Int) (zs : List Int) : Bool := decide (matB n zs = true ∧ ∀ i, i < n.toNat → ∀ j, j < i → tm n.toNat zs i j = tm n.toNat zs j i)
theorem symB_no {n : Int} {zs : List Int} (h : matB n zs = false) : symB n zs = false := decide_eq_false fun k => by rw [h] at k; exact Bool.noConfusion k.1
theorem symB_yes {n : Nat} {zs : List Int} (h : matB n zs = true) (hs : symTo n zs n 0) : symB n zs = true :=
  decide_eq_true ⟨h, fun i hi j hj => hs i j hj (Or.inl (by simpa using hi))⟩
theorem symB_bad {n : Nat} {zs : List Int} {x y : Nat} (hx : x < n) (hy : y < x) (h : tm n zs x y ≠ tm n zs y x) : symB n zs = false :=
  decide_eq_false fun k => h (by have := k.2 x (by simpa using hx) y hy; simpa using this)
theorem symTo_zero (n : Nat) (zs : List Int) : symTo n zs 0 0 := fun i j _ h => by omega
theorem symTo_step {n : Nat} {zs : List Int} {x y : Nat} (h : symTo n zs x y) (e : tm n zs x y = tm n zs y x) : symTo n zs x (y + 1) := by
  intro i j hj hij
  by_cases c : i = x ∧ j = y
  · obtain ⟨rfl, rfl⟩ := c; exact e
  · exact h i j hj (by omega)
theorem symTo_row {n : Nat} {zs : List Int} {x : Nat} (h : symTo n zs x x) : symTo n zs (x + 1) 0 := fun i j hj hij => h i j hj (by omega)

end Go.Proofs.Ytchdcifhccjheaa

namespace Go.Proofs.Ytchdcifhccjheaa
open Go.RowKit

theorem place_inj {n a b x y : Nat} (hb : b < n) (hy : y < n) (h : a * n + b = x * n + y) : a = x ∧ b = y := by
  have h1 := div_mod_at n a b hb
  have h2 := div_mod_at n x y hy
  rw [h] at h1
  exact ⟨h1.1.symm.trans h2.1, h1.2.symm.trans h2.2⟩
theorem place_lt {n a b : Nat} (ha : a < n) (hb : b < n) : a * n + b < n * n := by
  have := Nat.mul_le_mul_right n (show a + 1 ≤ n by omega)
  rw [Nat.add_mul] at this
  omega
theorem tm_set {n : Nat} {l : List Int} {a b x y : Nat} {v : Int} (hl : l.length = n * n) (ha : a < n) (hb : b < n) (hy : y < n) : tm n (l.set (a * n + b) v) x y = if x = a ∧ y = b then v else tm n l x y := by
  unfold tm
  rw [List.getD_eq_getElem?_getD, List.getD_eq_getElem?_getD, List.getElem?_set]
  by_cases e : x = a ∧ y = b
  · rw [if_pos e, e.1, e.2, if_pos rfl, if_pos (by rw [hl]; exact place_lt ha hb)]
    rfl
  · rw [if_neg e, if_neg (fun h => e (by have := place_inj hb hy h; omega))]
/-- No time of a place to itself. -/
def zeroD (n : Nat) (l : List Int) : Prop := ∀ x, x < n → tm n l x x = 0
theorem zeroD_of_mat {n : Nat} {zs : List Int} (h : matB n zs = true) : zeroD n zs := by
  intro x hx
  obtain ⟨h1, h2, h3, h4⟩ := matB_true h
  rw [← Int.natCast_mul] at h3
  have h3' : zs.length = n * n := by omega
  have := h4 (x * n + x) (by rw [h3']; exact place_lt hx hx)
  rw [Int.toNat_natCast] at this
  exact this.2.2 (by rw [(div_mod_at n x x hx).1, (div_mod_at n x x hx).2])
theorem mat_of_zeroD {n : Nat} {zs : List Int} (h1 : 1 ≤ n) (h2 : n ≤ 16) (hl : zs.length = n * n) (ho : okL zs) (hz : zeroD n zs) : matB n zs = true := by
  refine matB_mk ⟨by omega, by omega, by rw [hl]; simp, fun i hi => ⟨(ho i).1, (ho i).2, fun e => ?_⟩⟩
  rw [Int.toNat_natCast] at e
  have hin : i / n < n := by rw [hl] at hi; exact Nat.div_lt_of_lt_mul hi
  have := hz (i / n) hin
  unfold tm at this
  have e2 : i / n * n + i / n = i := by
    have h := Nat.div_add_mod i n
    rw [← e, Nat.mul_comm] at h
    exact h
  rw [e2] at this
  exact this

/-- Round k of the closing, up to the place (a, b). -/
theorem round_at {n k : Nat} {zs D : List Int} (hl : zs.length = n * n) (hk : k < n) (hD : cloTo n zs ((k * n + 0) * n + 0) = D) (ho : okL D) (hz : zeroD n D) :
    ∀ a b, a < n → b ≤ n → (∀ x y, x < n → y < n → tm n (cloTo n zs ((k * n + a) * n + 0)) x y = if x < a then min (tm n D x y) (tm n D x k + tm n D k y) else tm n D x y) →
    ∀ x y, x < n → y < n → tm n (cloTo n zs ((k * n + a) * n + b)) x y = if x < a ∨ (x = a ∧ y < b) then min (tm n D x y) (tm n D x k + tm n D k y) else tm n D x y
  | a, 0, ha, _, h, x, y, hx, hy => by
    rw [h x y hx hy]
    by_cases c : x < a
    · rw [if_pos c, if_pos (Or.inl c)]
    · rw [if_neg c, if_neg (by omega)]
  | a, b + 1, ha, hb, h, x, y, hx, hy => by
    have ih := round_at hl hk hD ho hz a b ha (by omega) h
    have hL : (cloTo n zs ((k * n + a) * n + b)).length = n * n := by rw [cloTo_length]; exact hl
    rw [cloTo_step n zs k a b ha (by omega)]
    unfold clo1
    rw [tm_set hL ha (by omega) hy]
    have hkk := hz k hk
    have o1 := tm_okL (n := n) ho a k
    have o2 := tm_okL (n := n) ho k b
    by_cases e : x = a ∧ y = b
    · rw [if_pos e, if_pos (by omega), ih a b ha (by omega), ih a k ha hk, ih k b hk (by omega), e.1, e.2, if_neg (by omega)]
      have u1 : (if a < a ∨ a = a ∧ k < b then min (tm n D a k) (tm n D a k + tm n D k k) else tm n D a k) = tm n D a k := by split <;> omega
      have u2 : (if k < a ∨ k = a ∧ b < b then min (tm n D k b) (tm n D k k + tm n D k b) else tm n D k b) = tm n D k b := by split <;> omega
      rw [u1, u2]
    · rw [if_neg e, ih x y hx hy]
      by_cases c : x < a ∨ (x = a ∧ y < b)
      · rw [if_pos c, if_pos (by omega)]
      · rw [if_neg c, if_neg (by omega)]
theorem round_row {n k : Nat} {zs D : List Int} (hl : zs.length = n * n) (hk : k < n) (hD : cloTo n zs ((k * n + 0) * n + 0) = D) (ho : okL D) (hz : zeroD n D) :
    ∀ a, a ≤ n → ∀ x y, x < n → y < n → tm n (cloTo n zs ((k * n + a) * n + 0)) x y = if x < a then min (tm n D x y) (tm n D x k + tm n D k y) else tm n D x y
  | 0, _, x, y, hx, hy => by rw [hD, if_neg (by omega)]
  | a + 1, ha, x, y, hx, hy => by
    have e : (k * n + (a + 1)) * n + 0 = (k * n + a) * n + n := by rw [← Nat.add_assoc, Nat.add_mul (k * n + a) 1 n, Nat.one_mul, Nat.add_zero]
    rw [e, round_at hl hk hD ho hz a n (by omega) (Nat.le_refl _) (round_row hl hk hD ho hz a (by omega)) x y hx hy]
    by_cases c : x < a + 1
    · rw [if_pos c, if_pos (by omega)]
    · rw [if_neg c, if_neg (by omega)]
/-- Behind k rounds. -/
def rnd (n : Nat) (zs : List Int) (k : Nat) : List Int := cloTo n zs ((k * n + 0) * n + 0)
theorem rnd_zero (n : Nat) (zs : List Int) : rnd n zs 0 = zs := by simp [rnd, cloTo]
theorem rnd_all (n : Nat) (zs : List Int) : rnd n zs n = clo n zs := by simp [rnd, clo]
theorem rnd_okL {n : Nat} {zs : List Int} (h : okL zs) (k : Nat) : okL (rnd n zs k) := okL_cloTo h _
theorem rnd_length (n : Nat) (zs : List Int) (k : Nat) : (rnd n zs k).length = zs.length := cloTo_length _ _ _
theorem rnd_step {n k : Nat} {zs : List Int} (hl : zs.length = n * n) (hk : k < n) (ho : okL zs) (hz : zeroD n (rnd n zs k)) {x y : Nat} (hx : x < n) (hy : y < n) :
    tm n (rnd n zs (k + 1)) x y = min (tm n (rnd n zs k) x y) (tm n (rnd n zs k) x k + tm n (rnd n zs k) k y) := by
  have e : ((k + 1) * n + 0) * n + 0 = (k * n + n) * n + 0 := by rw [Nat.add_mul k 1 n, Nat.one_mul]; simp
  have := round_row hl hk (D := rnd n zs k) rfl (rnd_okL ho k) hz n (Nat.le_refl _) x y hx hy
  unfold rnd at this ⊢
  rw [e, this, if_pos hx]
theorem rnd_zeroD {n : Nat} {zs : List Int} (hl : zs.length = n * n) (ho : okL zs) (hz : zeroD n zs) : ∀ k, k ≤ n → zeroD n (rnd n zs k)
  | 0, _ => by rw [rnd_zero]; exact hz
  | k + 1, hk => fun x hx => by
    have ih := rnd_zeroD hl ho hz k (by omega)
    rw [rnd_step hl (by omega) ho ih hx hx]
    have h1 := ih x hx
    have h2 := tm_okL (n := n) (rnd_okL (n := n) ho k) x k
    have h3 := tm_okL (n := n) (rnd_okL (n := n) ho k) k x
    omega
theorem rnd_le {n : Nat} {zs : List Int} (hl : zs.length = n * n) (ho : okL zs) (hz : zeroD n zs) {x y : Nat} (hx : x < n) (hy : y < n) : ∀ k, k ≤ n → tm n (rnd n zs k) x y ≤ tm n zs x y
  | 0, _ => by rw [rnd_zero]; exact Int.le_refl _
  | k + 1, hk => by
    have ih := rnd_le hl ho hz hx hy k (by omega)
    rw [rnd_step hl (by omega) ho (rnd_zeroD hl ho hz k (by omega)) hx hy]
    omega
theorem rnd_tri {n : Nat} {zs : List Int} (hl : zs.length = n * n) (ho : okL zs) (hz : zeroD n zs) : ∀ k, k ≤ n → ∀ x y j, x < n → y < n → j < k → tm n (rnd n zs k) x y ≤ tm n (rnd n zs k) x j + tm n (rnd n zs k) j y
  | 0, _, _, _, _, _, _, h => by omega
  | k + 1, hk, x, y, j, hx, hy, hj => by
    have ih := rnd_tri hl ho hz k (by omega)
    have zk := rnd_zeroD hl ho hz k (by omega)
    have st := fun {x y} hx hy => rnd_step (x := x) (y := y) hl (show k < n by omega) ho zk hx hy
    rw [st hx hy, st hx (by omega), st (by omega) hy]
    have ok := fun x y => tm_okL (n := n) (rnd_okL (n := n) ho k) x y
    have o1 := ok x k
    have o2 := ok k y
    have zkk := zk k (by omega)
    by_cases e : j = k
    · subst e
      omega
    · have a1 := ih x y j hx hy (by omega)
      have a2 := ih k y j (by omega) hy (by omega)
      have a3 := ih x k j hx (by omega) (by omega)
      have o3 := ok k j
      have o4 := ok j k
      omega
theorem rnd_sym {n : Nat} {zs : List Int} (hl : zs.length = n * n) (ho : okL zs) (hz : zeroD n zs) (hs : ∀ x y, x < n → y < n → tm n zs x y = tm n zs y x) : ∀ k, k ≤ n → ∀ x y, x < n → y < n → tm n (rnd n zs k) x y = tm n (rnd n zs k) y x
  | 0, _, x, y, hx, hy => by rw [rnd_zero]; exact hs x y hx hy
  | k + 1, hk, x, y, hx, hy => by
    have ih := rnd_sym hl ho hz hs k (by omega)
    have zk := rnd_zeroD hl ho hz k (by omega)
    rw [rnd_step hl (by omega) ho zk hx hy, rnd_step hl (by omega) ho zk hy hx, ih x y hx hy, ih x k hx (by omega), ih k y (by omega) hy]
    omega

theorem mat_len {n : Nat} {zs : List Int} (h : matB n zs = true) : zs.length = n * n := by
  have := (matB_true h).2.2.1
  rw [← Int.natCast_mul] at this
  omega
theorem clo_length (n : Nat) (zs : List Int) : (clo n zs).length = zs.length := cloTo_length _ _ _
theorem clo_mat {n : Nat} {zs : List Int} (h : matB n zs = true) : matB n (clo n zs) = true := by
  obtain ⟨h1, h2, _⟩ := matB_true h
  refine mat_of_zeroD (by omega) (by omega) (by rw [clo_length]; exact mat_len h) (okL_cloTo (okL_of_mat h) _) ?_
  rw [← rnd_all]
  exact rnd_zeroD (mat_len h) (okL_of_mat h) (zeroD_of_mat h) n (Nat.le_refl _)
theorem clo_le_tm {n : Nat} {zs : List Int} (h : matB n zs = true) {x y : Nat} (hx : x < n) (hy : y < n) : tm n (clo n zs) x y ≤ tm n zs x y := by
  rw [← rnd_all]
  exact rnd_le (mat_len h) (okL_of_mat h) (zeroD_of_mat h) hx hy n (Nat.le_refl _)
theorem clo_le {n : Nat} {zs : List Int} (h : matB n zs = true) {i : Nat} (hi : i < zs.length) : (clo n zs).getD i 0 ≤ zs.getD i 0 := by
  obtain ⟨h1, h2, _⟩ := matB_true h
  rw [mat_len h] at hi
  have hx : i / n < n := Nat.div_lt_of_lt_mul hi
  have hy : i % n < n := Nat.mod_lt _ (by omega)
  have := clo_le_tm h hx hy
  unfold tm at this
  have e : i / n * n + i % n = i := by have := Nat.div_add_mod i n; rw [Nat.mul_comm] at this; exact this
  rw [e] at this
  exact this
theorem clo_tri {n : Nat} {zs : List Int} (h : matB n zs = true) : triB n (clo n zs) = true := by
  refine triB_yes (clo_mat h) fun i j k hi hj hk _ => ?_
  rw [← rnd_all]
  exact rnd_tri (mat_len h) (okL_of_mat h) (zeroD_of_mat h) n (Nat.le_refl _) i j k hi hj hk
theorem triB_tm {n : Nat} {zs : List Int} (h : triB n zs = true) {x y k : Nat} (hx : x < n) (hy : y < n) (hk : k < n) : tm n zs x y ≤ tm n zs x k + tm n zs k y := by
  have := (of_decide_eq_true h).2
  rw [Int.toNat_natCast] at this
  exact this x hx y hy k hk
theorem set_same (l : List Int) (i : Nat) : l.set i (l.getD i 0) = l := by
  apply List.ext_getElem
  · simp
  · intro j h1 h2
    rw [List.getElem_set]
    split
    · rename_i e
      subst e
      simp [List.getD, h2]
    · rfl
theorem cloTo_tri {n : Nat} {zs : List Int} (h : triB n zs = true) : ∀ m, m ≤ n * n * n → cloTo n zs m = zs
  | 0, _ => rfl
  | m + 1, hm => by
    rw [cloTo, cloTo_tri h m (by omega)]
    unfold clo1
    have h0 : 0 < n := by
      rcases Nat.eq_zero_or_pos n with e | e
      · subst e; simp at hm
      · exact e
    have hk : m / n / n < n := by
      refine Nat.div_lt_of_lt_mul (Nat.div_lt_of_lt_mul ?_)
      have : n * (n * n) = n * n * n := (Nat.mul_assoc n n n).symm
      omega
    have := triB_tm h (x := m / n % n) (y := m % n) (k := m / n / n) (Nat.mod_lt _ h0) (Nat.mod_lt _ h0) hk
    have e : min (tm n zs (m / n % n) (m % n)) (tm n zs (m / n % n) (m / n / n) + tm n zs (m / n / n) (m % n)) = zs.getD (m / n % n * n + m % n) 0 := by
      unfold tm at this ⊢
      omega
    rw [e]
    exact set_same _ _
theorem clo_same {n : Nat} {zs : List Int} (h : triB n zs = true) : clo n zs = zs := cloTo_tri h _ (Nat.le_refl _)
theorem clo_again {n : Nat} {zs : List Int} (h : matB n zs = true) : clo n (clo n zs) = clo n zs := clo_same (clo_tri h)
/-- A matrix has no shorter way round just where closing leaves it. -/
theorem tri_iff {n : Nat} {zs : List Int} (h : matB n zs = true) : triB n zs = decide (clo n zs = zs) := by
  by_cases e : clo n zs = zs
  · rw [decide_eq_true e]
    have := clo_tri h
    rw [e] at this
    exact this
  · rw [decide_eq_false e]
    cases hb : triB n zs
    · rfl
    · exact absurd (clo_same hb) e
theorem clo_sym {n : Nat} {zs : List Int} (h : matB n zs = true) (hs : symB n zs = true) : symB n (clo n zs) = true := by
  have h1 := (of_decide_eq_true hs).2
  rw [Int.toNat_natCast] at h1
  have h2 : ∀ x y, x < n → y < n → tm n zs x y = tm n zs y x := fun x y hx hy => by
    rcases Nat.lt_trichotomy x y with e | e | e
    · exact (h1 y hy x e).symm
    · rw [e]
    · exact h1 x hx y e
  refine symB_yes (clo_mat h) fun i j hj hi => ?_
  have hi' : i < n := by omega
  rw [← rnd_all]
  exact rnd_sym (mat_len h) (okL_of_mat h) (zeroD_of_mat h) h2 n (Nat.le_refl _) i j hi' (by omega)
/-- No path is shorter than the shortest time. -/
theorem clo_pathTo {n : Nat} {zs ps : List Int} (h : matB n zs = true) : ∀ m, placesTo n ps (m + 1) → tm n (clo n zs) (ps.getD 0 0).toNat (ps.getD m 0).toNat ≤ pathTo n zs ps (m + 1)
  | 0, hp => by
    have h0 := inB_true (hp 0 (by omega))
    have := zeroD_of_mat (clo_mat h) (ps.getD 0 0).toNat (by omega)
    rw [this]
    simp [pathTo]
  | m + 1, hp => by
    have ih := clo_pathTo (ps := ps) h m (fun j hj => hp j (by omega))
    have h0 := inB_true (hp 0 (by omega))
    have h1 := inB_true (hp m (by omega))
    have h2 := inB_true (hp (m + 1) (by omega))
    have t1 := triB_tm (clo_tri h) (x := (ps.getD 0 0).toNat) (y := (ps.getD (m + 1) 0).toNat) (k := (ps.getD m 0).toNat) (by omega) (by omega) (by omega)
    have t2 := clo_le_tm h (x := (ps.getD m 0).toNat) (y := (ps.getD (m + 1) 0).toNat) (by omega) (by omega)
    show _ ≤ pathTo n zs ps (m + 1) + _
    rw [if_neg (by omega)]
    simp only [Nat.add_sub_cancel]
    unfold tm at *
    omega
theorem clo_path {n : Nat} {zs ps : List Int} (h : matB n zs = true) (ht : 0 ≤ pathV n zs ps) (hl : 0 < ps.length) : timeV n (clo n zs) (ps.getD 0 0) (ps.getD (ps.length - 1) 0) ≤ pathV n zs ps := by
  by_cases hh : matB (n : Int) zs = true ∧ ps.length ≤ 100 ∧ (∀ j, j < ps.length → inB (ps.getD j 0) 0 ((n : Int) - 1) = true)
  · obtain ⟨h1, h2, h3⟩ := hh
    rw [pathV_yes h1 h2 h3]
    unfold timeV
    rw [if_pos ⟨clo_mat h, h3 0 hl, h3 _ (by omega)⟩]
    have := clo_pathTo (ps := ps) h (ps.length - 1) (by rw [Nat.sub_add_cancel hl]; exact h3)
    rw [Nat.sub_add_cancel hl] at this
    unfold tm at this
    simpa using this
  · rw [pathV_no hh] at ht
    omega

end Go.Proofs.Ytchdcifhccjheaa
