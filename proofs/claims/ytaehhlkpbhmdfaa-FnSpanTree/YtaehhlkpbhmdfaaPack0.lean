import Derived.WalkKit
import Derived.WalkSpells
import Derived.Deep.WholeRow
namespace Go.Proofs.Ytaehhlkpbhmdfaa
open Go.RowKit

/-- An operation by its own run. -/
theorem wpList_run {P : Program} {ops : Array Oper} {rest : List Oper} {o : Oper} {a : Act} {w w' : World} {Q : Exit → Act → World → Prop} (v : Value) (hgd : o.guard = none)
    (hrun : (execOp a.eval o).run P w = .ok (.value v) w') (h : wpList P ops Q rest (a.put o.dst v) w') : wpList P ops Q (o :: rest) a w :=
  wpList_plain hgd fun _ hK => by unfold Oper.wp; rw [hrun]; exact hK _ _ h

theorem bcell {W w1 : World} (hb : Below W.heap.size W w1) : (∀ b o, b < W.heap.size → w1.cell? ⟨b, o, none⟩ = W.cell? ⟨b, o, none⟩) ∧ (∀ b o, b < W.heap.size → w1.frozen? ⟨b, o, none⟩ = W.frozen? ⟨b, o, none⟩) :=
  ⟨fun b o h => hb.cell (p := ⟨b, o, none⟩) h, fun b o h => hb.frozen (p := ⟨b, o, none⟩) h⟩

theorem take_snoc (zs : List Int) (k : Nat) (h : k < zs.length) : zs.take (k + 1) = zs.take k ++ [zs.getD k 0] := by
  rw [List.take_succ_eq_append_getElem h]; simp [List.getD, h]

theorem ret_bool {a b : Bool} (h : a = b) : Ending.returned (.bool a) = .returned (.bool b) := by rw [h]

theorem ret_int {k : IntKind} {a b : Int} (h : a = b) : Ending.returned (.int k a) = .returned (.int k b) := by rw [h]

/-- n is lo .. hi. -/
def inB (n lo hi : Int) : Bool := decide (lo ≤ n ∧ n ≤ hi)

theorem inB_mk {n lo hi : Int} (h : lo ≤ n ∧ n ≤ hi) : inB n lo hi = true := decide_eq_true h

theorem inB_not {n lo hi : Int} (h : ¬ (lo ≤ n ∧ n ≤ hi)) : inB n lo hi = false := decide_eq_false h

theorem inB_true {n lo hi : Int} (h : inB n lo hi = true) : lo ≤ n ∧ n ≤ hi := of_decide_eq_true h

theorem inB_false {n lo hi : Int} (h : inB n lo hi = false) : ¬ (lo ≤ n ∧ n ≤ hi) := of_decide_eq_false h

/-- The cells of a row of int64s. -/
def cellsOf (l : List Int) : Array Value := (l.map (Value.int .i64)).toArray

theorem cellsOf_size (l : List Int) : (cellsOf l).size = l.length := by simp [cellsOf]

theorem cellsOf_get (l : List Int) (i : Nat) (h : i < l.length) : (cellsOf l)[i]? = some (.int .i64 (l.getD i 0)) := by
  simp [cellsOf, List.getD, h]

theorem cellsOf_set (l : List Int) (i : Nat) (v : Int) : (cellsOf l).setIfInBounds i (.int .i64 v) = cellsOf (l.set i v) := by
  simp [cellsOf, List.map_set]

theorem cellsOf_one (l : List Int) : (cellsOf l).all (·.oneCell') = true := by
  simp [cellsOf, Value.oneCell']

theorem below_setRow {B : Nat} {a w : World} (h : Below B a w) {g : Nat} (hg : B ≤ g) (cs : Array Value) : Below B a (w.setRow g cs) :=
  h.trans ⟨rfl, rfl, rfl, by simp, fun k hk => setRow_other w g k cs (by omega)⟩

/-- The slice at 'a' holds the numbers zs. -/
def IntsAt (w : World) (a : Option Addr) (zs : List Int) : Prop :=
  ∀ j, j < zs.length → ∃ b off, a = some ⟨b, off, none⟩ ∧ w.cell? ⟨b, off + j, none⟩ = some (.int .i64 (zs.getD j 0))

theorem IntsAt.some {w : World} {a : Option Addr} {zs : List Int} (h : IntsAt w a zs) {j : Nat} (hj : j < zs.length) :
    ∃ b off, a = some ⟨b, off, none⟩ ∧ ∀ j, j < zs.length → w.cell? ⟨b, off + j, none⟩ = .some (.int .i64 (zs.getD j 0)) := by
  obtain ⟨b, off, e, _⟩ := h j hj
  refine ⟨b, off, e, fun k hk => ?_⟩
  obtain ⟨b', off', e', hc⟩ := h k hk
  rw [e] at e'
  simp at e'
  obtain ⟨rfl, rfl⟩ := e'
  exact hc

theorem IntsAt.below {w w' : World} {a : Option Addr} {zs : List Int} (h : IntsAt w a zs) (hb : Below w.heap.size w w') : IntsAt w' a zs := by
  intro j hj
  obtain ⟨b, off, e, hc⟩ := h j hj
  refine ⟨b, off, e, ?_⟩
  have hl := block_lt_of_cell hc
  rw [hb.cell (p := ⟨b, off + j, none⟩) hl]
  exact hc

theorem IntsAt.of_row {w : World} {g : Nat} {zs : List Int} {t : TypeId} (h : w.heap[g]? = .some (.cells (cellsOf zs) t (0, 0))) : IntsAt w (.some ⟨g, 0, none⟩) zs := by
  intro j hj
  refine ⟨g, 0, rfl, ?_⟩
  rw [Nat.zero_add, cell_of_row _ _ _ _ _ _ h, cellsOf_get _ _ hj]

/-- A matrix of n places with these times is right. -/
def matB (n : Int) (zs : List Int) : Bool :=
  decide (1 ≤ n ∧ n ≤ 16 ∧ (zs.length : Int) = n * n ∧ ∀ i, i < zs.length → 0 ≤ zs.getD i 0 ∧ zs.getD i 0 ≤ 10000 ∧ (i / n.toNat = i % n.toNat → zs.getD i 0 = 0))

theorem matB_true {n : Int} {zs : List Int} (h : matB n zs = true) : 1 ≤ n ∧ n ≤ 16 ∧ (zs.length : Int) = n * n ∧ ∀ i, i < zs.length → 0 ≤ zs.getD i 0 ∧ zs.getD i 0 ≤ 10000 ∧ (i / n.toNat = i % n.toNat → zs.getD i 0 = 0) :=
  of_decide_eq_true h

theorem matB_mk {n : Int} {zs : List Int} (h : 1 ≤ n ∧ n ≤ 16 ∧ (zs.length : Int) = n * n ∧ ∀ i, i < zs.length → 0 ≤ zs.getD i 0 ∧ zs.getD i 0 ≤ 10000 ∧ (i / n.toNat = i % n.toNat → zs.getD i 0 = 0)) : matB n zs = true :=
  decide_eq_true h

theorem matB_not {n : Int} {zs : List Int} (h : ¬ (1 ≤ n ∧ n ≤ 16 ∧ (zs.length : Int) = n * n ∧ ∀ i, i < zs.length → 0 ≤ zs.getD i 0 ∧ zs.getD i 0 ≤ 10000 ∧ (i / n.toNat = i % n.toNat → zs.getD i 0 = 0))) : matB n zs = false :=
  decide_eq_false h

/-- The grid of n places, filled up to the place (a, b). -/
def gridTo (n : Nat) (zs : List Int) (a b : Nat) : List Int :=
  (List.range 256).map fun k => if k / 16 < n ∧ k % 16 < n ∧ (k / 16 < a ∨ k / 16 = a ∧ k % 16 < b) then zs.getD (k / 16 * n + k % 16) 0 else 0

theorem gridTo_length (n : Nat) (zs : List Int) (a b : Nat) : (gridTo n zs a b).length = 256 := by simp [gridTo]

theorem gridTo_step (n : Nat) (zs : List Int) (a b : Nat) (ha : a < n) (hb : b < n) (hn : n ≤ 16) :
    (gridTo n zs a b).set (a * 16 + b) (zs.getD (a * n + b) 0) = gridTo n zs a (b + 1) := by
  apply List.ext_getElem
  · simp [gridTo]
  · intro k h1 h2
    have hk : k < 256 := by simpa [gridTo] using h2
    by_cases e : a * 16 + b = k
    · subst e
      have e1 : (a * 16 + b) / 16 = a := by omega
      have e2 : (a * 16 + b) % 16 = b := by omega
      simp only [gridTo, List.getElem_set, List.getElem_map, List.getElem_range, e1, e2, if_true]
      rw [if_pos ⟨ha, hb, Or.inr ⟨trivial, by omega⟩⟩]
    · simp only [gridTo, List.getElem_set, List.getElem_map, List.getElem_range, if_neg e]
      have : ¬ (k / 16 = a ∧ k % 16 = b) := by omega
      by_cases c : k / 16 < n ∧ k % 16 < n ∧ (k / 16 < a ∨ k / 16 = a ∧ k % 16 < b)
      · rw [if_pos c, if_pos ⟨c.1, c.2.1, by omega⟩]
      · rw [if_neg c, if_neg (by omega)]

theorem gridTo_row (n : Nat) (zs : List Int) (a : Nat) : gridTo n zs a n = gridTo n zs (a + 1) 0 := by
  unfold gridTo
  apply List.map_congr_left
  intro k _
  by_cases c : k / 16 < n ∧ k % 16 < n ∧ (k / 16 < a ∨ k / 16 = a ∧ k % 16 < n)
  · rw [if_pos c, if_pos (by omega)]
  · rw [if_neg c, if_neg (by omega)]

def zeros : List Int := (List.range 256).map fun _ => 0

theorem zeros_length : zeros.length = 256 := by simp [zeros]

theorem gridTo_zero (n : Nat) (zs : List Int) : gridTo n zs 0 0 = zeros := by
  unfold gridTo zeros
  apply List.map_congr_left
  intro k _
  rw [if_neg (by omega)]

/-- What gridOf makes of a matrix. -/
def gridRes (n : Int) (zs : List Int) : List Int := if matB n zs = true then gridTo n.toNat zs n.toNat 0 else zeros

theorem gridRes_true {n : Nat} {zs : List Int} (h : matB n zs = true) : gridRes n zs = gridTo n zs n 0 := by
  unfold gridRes; rw [if_pos h]; simp

theorem gridRes_false {n : Int} {zs : List Int} (h : matB n zs = false) : gridRes n zs = zeros := by
  unfold gridRes; rw [h]; simp

theorem gridRes_length (n : Int) (zs : List Int) : (gridRes n zs).length = 256 := by
  unfold gridRes; split
  · exact gridTo_length _ _ _ _
  · exact zeros_length

/-- All times up to the place (a, b) are right. -/
def okTo (n : Nat) (zs : List Int) (a b : Nat) : Prop :=
  ∀ i j, i < n → j < n → (i < a ∨ i = a ∧ j < b) → 0 ≤ zs.getD (i * n + j) 0 ∧ zs.getD (i * n + j) 0 ≤ 10000 ∧ (i = j → zs.getD (i * n + j) 0 = 0)

theorem okTo_zero (n : Nat) (zs : List Int) : okTo n zs 0 0 := by intro i j _ _ h; omega

theorem okTo_step {n : Nat} {zs : List Int} {a b : Nat} (h : okTo n zs a b) (h0 : 0 ≤ zs.getD (a * n + b) 0) (h1 : zs.getD (a * n + b) 0 ≤ 10000) (h2 : a = b → zs.getD (a * n + b) 0 = 0) : okTo n zs a (b + 1) := by
  intro i j hi hj hij
  by_cases e : i = a ∧ j = b
  · obtain ⟨rfl, rfl⟩ := e; exact ⟨h0, h1, h2⟩
  · exact h i j hi hj (by omega)

theorem okTo_row {n : Nat} {zs : List Int} {a : Nat} (h : okTo n zs a n) : okTo n zs (a + 1) 0 := by
  intro i j hi hj hij
  exact h i j hi hj (by omega)

theorem div_mod_at (n i j : Nat) (hj : j < n) : (i * n + j) / n = i ∧ (i * n + j) % n = j := by
  have hn : 0 < n := by omega
  constructor
  · rw [Nat.add_comm, Nat.add_mul_div_right _ _ hn, Nat.div_eq_of_lt hj, Nat.zero_add]
  · rw [Nat.add_comm, Nat.add_mul_mod_self_right, Nat.mod_eq_of_lt hj]

theorem at_div_mod (n k : Nat) (h : k < n * n) : k / n < n ∧ k % n < n ∧ k / n * n + k % n = k := by
  have hn : 0 < n := by rcases Nat.eq_zero_or_pos n with e | e; · subst e; simp at h
                        exact e
  exact ⟨(Nat.div_lt_iff_lt_mul hn).2 h, Nat.mod_lt _ hn, by rw [Nat.mul_comm]; exact Nat.div_add_mod k n⟩

theorem matB_of_okTo (n : Nat) (zs : List Int) (h1 : 1 ≤ n) (h2 : n ≤ 16) (hl : zs.length = n * n) (h : okTo n zs n 0) : matB n zs = true := by
  refine matB_mk ⟨by omega, by omega, by rw [hl]; simp, fun i hi => ?_⟩
  obtain ⟨a, b, c⟩ := at_div_mod n i (by omega)
  have := h (i / n) (i % n) a b (Or.inl a)
  rw [c] at this
  simpa using this

theorem matB_bad (n : Nat) (zs : List Int) (x y : Nat) (hx : x < n) (hy : y < n) (hl : zs.length = n * n) (h : ¬ (0 ≤ zs.getD (x * n + y) 0 ∧ zs.getD (x * n + y) 0 ≤ 10000 ∧ (x = y → zs.getD (x * n + y) 0 = 0))) : matB n zs = false := by
  refine matB_not fun ⟨_, _, _, hh⟩ => h ?_
  obtain ⟨e1, e2⟩ := div_mod_at n x y hy
  have hlt : x * n + y < zs.length := by
    rw [hl]
    have := Nat.mul_le_mul_right n (show x + 1 ≤ n by omega)
    rw [Nat.add_mul] at this
    omega
  have := hh (x * n + y) hlt
  simp only [Int.toNat_natCast, e1, e2] at this
  exact this

theorem mul_bd (a n : Nat) (h1 : a ≤ 16) (h2 : n ≤ 16) : a * n ≤ 256 := Nat.mul_le_mul h1 h2

theorem matB_all (n : Nat) (zs : List Int) (h1 : 1 ≤ n) (h2 : n ≤ 16) (hl : zs.length = n * n) (h : ∀ i, i < n * n → 0 ≤ zs.getD i 0 ∧ zs.getD i 0 ≤ 10000 ∧ (i / n = i % n → zs.getD i 0 = 0)) : matB n zs = true :=
  matB_mk ⟨by omega, by omega, by rw [hl]; simp, fun i hi => by rw [Int.toNat_natCast]; exact h i (by omega)⟩

theorem matB_at (n : Nat) (zs : List Int) (hl : zs.length = n * n) (k : Nat) (hk : k < n * n) (h : ¬ (0 ≤ zs.getD k 0 ∧ zs.getD k 0 ≤ 10000 ∧ (k / n = k % n → zs.getD k 0 = 0))) : matB n zs = false :=
  matB_not fun ⟨_, _, _, hh⟩ => h (by have := hh k (by omega); rwa [Int.toNat_natCast] at this)

theorem below_row {B : Nat} {W w1 : World} (hb : Below B W w1) {k : Nat} {o : Obj} (hk : k < B) (h : W.heap[k]? = some o) : w1.heap[k]? = some o := by
  rw [hb.block k hk]; exact h

theorem row_lt {W : World} {k : Nat} {o : Obj} (h : W.heap[k]? = some o) : k < W.heap.size := by
  by_cases hlt : k < W.heap.size
  · exact hlt
  · have hn : W.heap[k]? = none := by simp; omega
    rw [hn] at h; cases h

/-- Behind a call, what is known of a box of two cells that was made ahead of it. -/
theorem box2 {w w1 : World} {c0 c1 : Value} {T : TypeId} (hb : Below (w.alloc (.cells #[c0, c1] T)).heap.size (w.alloc (.cells #[c0, c1] T)) w1) :
    Below w.heap.size w w1 ∧ w1.heap[w.heap.size]? = some (.cells #[c0, c1] T (0, 0)) ∧ w1.cell? ⟨w.heap.size, 0, none⟩ = some c0 ∧ w1.cell? ⟨w.heap.size, 1, none⟩ = some c1 := by
  have r : w1.heap[w.heap.size]? = some (.cells #[c0, c1] T (0, 0)) := below_row hb (by simp) (heap_alloc_new _ _)
  refine ⟨((Below.refl _ _).alloc (Nat.le_refl _) _).trans (hb.mono (by simp)), r, ?_, ?_⟩
  · rw [cell_of_row _ _ 0 _ _ _ r]; simp
  · rw [cell_of_row _ _ 1 _ _ _ r]; simp

/-- And behind a further call. -/
theorem box2_more {w w1 w2 : World} {k : Nat} {c0 c1 : Value} {T : TypeId} (hb : Below w1.heap.size w1 w2) (hB : Below w.heap.size w w1) (hr : w1.heap[k]? = some (.cells #[c0, c1] T (0, 0))) :
    Below w.heap.size w w2 ∧ w2.heap[k]? = some (.cells #[c0, c1] T (0, 0)) ∧ w2.cell? ⟨k, 0, none⟩ = some c0 ∧ w2.cell? ⟨k, 1, none⟩ = some c1 := by
  have r : w2.heap[k]? = some (.cells #[c0, c1] T (0, 0)) := below_row hb (row_lt hr) hr
  refine ⟨hB.trans (hb.mono hB.size), r, ?_, ?_⟩
  · rw [cell_of_row _ _ 0 _ _ _ r]; simp
  · rw [cell_of_row _ _ 1 _ _ _ r]; simp

/-- What TimeOf answers. -/
def timeV (n : Int) (zs : List Int) (x y : Int) : Int :=
  if matB n zs = true ∧ inB x 0 (n - 1) = true ∧ inB y 0 (n - 1) = true then zs.getD (x.toNat * n.toNat + y.toNat) 0 else -1

theorem timeV_no {n : Int} {zs : List Int} {x y : Int} (h : ¬ (matB n zs = true ∧ inB x 0 (n - 1) = true ∧ inB y 0 (n - 1) = true)) : timeV n zs x y = -1 := by
  unfold timeV; rw [if_neg h]

theorem timeV_at {n x y : Nat} {zs : List Int} (h : matB n zs = true) (hx : x < n) (hy : y < n) : timeV n zs x y = zs.getD (x * n + y) 0 := by
  unfold timeV; rw [if_pos ⟨h, inB_mk (by omega), inB_mk (by omega)⟩]; simp

theorem gridTo_get (n : Nat) (zs : List Int) (x y : Nat) (hx : x < n) (hy : y < n) (hn : n ≤ 16) : (gridTo n zs n 0).getD (x * 16 + y) 0 = zs.getD (x * n + y) 0 := by
  have e1 : (x * 16 + y) / 16 = x := by omega
  have e2 : (x * 16 + y) % 16 = y := by omega
  have hk : x * 16 + y < 256 := by omega
  unfold gridTo
  rw [List.getD_eq_getElem?_getD, List.getElem?_map, List.getElem?_range hk]
  simp only [Option.map_some, Option.getD_some, e1, e2]
  rw [if_pos ⟨hx, hy, Or.inl hx⟩]

theorem grid_cell {W : World} {g n x y : Nat} {zs : List Int} {T : TypeId} (hg : W.heap[g]? = some (.cells (cellsOf (gridRes n zs)) T (0, 0))) (hm : matB n zs = true) (hx : x < n) (hy : y < n) (hn : n ≤ 16) :
    W.cell? ⟨g, x * 16 + y, none⟩ = some (.int .i64 (zs.getD (x * n + y) 0)) := by
  rw [cell_of_row _ _ _ _ _ _ hg, cellsOf_get _ _ (by rw [gridRes_length]; omega), gridRes_true hm, gridTo_get n zs x y hx hy hn]

/-- The times of the first k places of a path. -/
def pathTo (n : Nat) (zs ps : List Int) : Nat → Int
  | 0 => 0
  | k + 1 => pathTo n zs ps k + if k = 0 then 0 else zs.getD ((ps.getD (k - 1) 0).toNat * n + (ps.getD k 0).toNat) 0

def placesTo (n : Int) (ps : List Int) (k : Nat) : Prop := ∀ j, j < k → inB (ps.getD j 0) 0 (n - 1) = true

/-- What PathTime answers. -/
def pathV (n : Int) (zs ps : List Int) : Int :=
  if matB n zs = true ∧ ps.length ≤ 100 ∧ (∀ j, j < ps.length → inB (ps.getD j 0) 0 (n - 1) = true) then pathTo n.toNat zs ps ps.length else -1

theorem pathV_no {n : Int} {zs ps : List Int} (h : ¬ (matB n zs = true ∧ ps.length ≤ 100 ∧ (∀ j, j < ps.length → inB (ps.getD j 0) 0 (n - 1) = true))) : pathV n zs ps = -1 := by
  unfold pathV; rw [if_neg h]

theorem pathV_yes {n : Nat} {zs ps : List Int} (h1 : matB n zs = true) (h2 : ps.length ≤ 100) (h3 : placesTo n ps ps.length) : pathV n zs ps = pathTo n zs ps ps.length := by
  unfold pathV; rw [if_pos ⟨h1, h2, h3⟩]; simp

theorem mat_cell_bd {n : Nat} {zs : List Int} (hm : matB n zs = true) (x y : Nat) (hx : x < n) (hy : y < n) : 0 ≤ zs.getD (x * n + y) 0 ∧ zs.getD (x * n + y) 0 ≤ 10000 := by
  obtain ⟨h1, h2, hl, h⟩ := matB_true hm
  have hl' : zs.length = n * n := by rw [← Int.natCast_mul] at hl; omega
  have hxy : x * n + y < n * n := by
    have := Nat.mul_le_mul_right n (show x + 1 ≤ n by omega)
    rw [Nat.add_mul] at this
    omega
  have := h (x * n + y) (by omega)
  exact ⟨this.1, this.2.1⟩

theorem place_nat {n : Nat} {p : Int} (h : inB p 0 (n - 1) = true) : p = (p.toNat : Int) ∧ p.toNat < n := by
  have := inB_true h
  omega

theorem pathTo_bd {n : Nat} {zs ps : List Int} (hm : matB n zs = true) : ∀ k, placesTo n ps k → 0 ≤ pathTo n zs ps k ∧ pathTo n zs ps k ≤ 10000 * k
  | 0, _ => by simp [pathTo]
  | k + 1, h => by
    have ih := pathTo_bd (n := n) (zs := zs) (ps := ps) hm k (fun j hj => h j (by omega))
    unfold pathTo
    by_cases hk : k = 0
    · rw [if_pos hk]; omega
    · rw [if_neg hk]
      have p1 := place_nat (h (k - 1) (by omega))
      have p2 := place_nat (h k (by omega))
      have := mat_cell_bd hm _ _ p1.2 p2.2
      omega

theorem made_zero (n : Nat) : madeCells (Value.int .i64 0).cells (n * 1) = cellsOf (List.replicate n 0) := by
  apply Array.ext
  · simp [madeCells, cellsOf]
  · intro i h1 h2
    simp [madeCells, cellsOf, Value.cells, Nat.mod_one]

theorem copy_step (zs : List Int) (k : Nat) (h : k < zs.length) :
    (zs.take k ++ List.replicate (zs.length - k) 0).set k (zs.getD k 0) = zs.take (k + 1) ++ List.replicate (zs.length - (k + 1)) 0 := by
  have e : zs.length - k = (zs.length - (k + 1)) + 1 := by omega
  rw [e, List.replicate_succ, List.set_append_right _ _ (by simp; omega)]
  have hl : (zs.take k).length = k := by simp; omega
  have e2 : zs.getD k 0 = zs[k] := by simp [List.getD, h]
  rw [hl, Nat.sub_self, List.set_cons_zero, List.take_succ_eq_append_getElem h, e2, List.append_assoc]
  rfl

theorem ret_grid_eq {a b : List Int} {p q : Bool} (h : a = b) (k : p = q) : Ending.returned (.tuple #[.agg (cellsOf a), .bool p]) = Ending.returned (.tuple #[.agg (cellsOf b), .bool q]) := by rw [h, k]

/-- The time from x to y. -/
def tm (n : Nat) (zs : List Int) (x y : Nat) : Int := zs.getD (x * n + y) 0
theorem tm_def (n : Nat) (zs : List Int) (x y : Nat) : zs.getD (x * n + y) 0 = tm n zs x y := rfl
theorem tm_bd {n : Nat} {zs : List Int} (hm : matB n zs = true) (x y : Nat) (hx : x < n) (hy : y < n) : 0 ≤ tm n zs x y ∧ tm n zs x y ≤ 10000 := mat_cell_bd hm x y hx hy

end Go.Proofs.Ytaehhlkpbhmdfaa

namespace Go.Proofs.Ytaehhlkpbhmdfaa
open Go.RowKit

/-- The field f of the element i of a row of elements of 6 numbers. -/
def og6 (zs : List Int) (i f : Nat) : Int := zs.getD (i * 6 + f) 0
theorem row6_at {w : World} {b off : Nat} {zs : List Int} {n : Nat} (h : ∀ j, j < zs.length → w.cell? ⟨b, off + j, none⟩ = some (.int .i64 (zs.getD j 0))) (hl : zs.length = n * 6) (i : Nat) (hi : i < n) :
    w.cell? ⟨b, off + i * 6, none⟩ = some (.int .i64 (og6 zs i 0)) ∧ w.cell? ⟨b, off + i * 6 + 1, none⟩ = some (.int .i64 (og6 zs i 1)) ∧ w.cell? ⟨b, off + i * 6 + 2, none⟩ = some (.int .i64 (og6 zs i 2)) ∧ w.cell? ⟨b, off + i * 6 + 3, none⟩ = some (.int .i64 (og6 zs i 3)) ∧ w.cell? ⟨b, off + i * 6 + 4, none⟩ = some (.int .i64 (og6 zs i 4)) ∧ w.cell? ⟨b, off + i * 6 + 5, none⟩ = some (.int .i64 (og6 zs i 5)) := by
  have hb : i * 6 + 6 ≤ zs.length := by omega
  refine ⟨?_, ?_, ?_, ?_, ?_, ?_⟩
  · exact h (i * 6) (by omega)
  · rw [Nat.add_assoc]; exact h (i * 6 + 1) (by omega)
  · rw [Nat.add_assoc]; exact h (i * 6 + 2) (by omega)
  · rw [Nat.add_assoc]; exact h (i * 6 + 3) (by omega)
  · rw [Nat.add_assoc]; exact h (i * 6 + 4) (by omega)
  · rw [Nat.add_assoc]; exact h (i * 6 + 5) (by omega)

/-- The field f of the element i of a row of elements of 5 numbers. -/
def og5 (zs : List Int) (i f : Nat) : Int := zs.getD (i * 5 + f) 0
theorem row5_at {w : World} {b off : Nat} {zs : List Int} {n : Nat} (h : ∀ j, j < zs.length → w.cell? ⟨b, off + j, none⟩ = some (.int .i64 (zs.getD j 0))) (hl : zs.length = n * 5) (i : Nat) (hi : i < n) :
    w.cell? ⟨b, off + i * 5, none⟩ = some (.int .i64 (og5 zs i 0)) ∧ w.cell? ⟨b, off + i * 5 + 1, none⟩ = some (.int .i64 (og5 zs i 1)) ∧ w.cell? ⟨b, off + i * 5 + 2, none⟩ = some (.int .i64 (og5 zs i 2)) ∧ w.cell? ⟨b, off + i * 5 + 3, none⟩ = some (.int .i64 (og5 zs i 3)) ∧ w.cell? ⟨b, off + i * 5 + 4, none⟩ = some (.int .i64 (og5 zs i 4)) := by
  have hb : i * 5 + 5 ≤ zs.length := by omega
  refine ⟨?_, ?_, ?_, ?_, ?_⟩
  · exact h (i * 5) (by omega)
  · rw [Nat.add_assoc]; exact h (i * 5 + 1) (by omega)
  · rw [Nat.add_assoc]; exact h (i * 5 + 2) (by omega)
  · rw [Nat.add_assoc]; exact h (i * 5 + 3) (by omega)
  · rw [Nat.add_assoc]; exact h (i * 5 + 4) (by omega)

/-- The hours are right. -/
def hoursB (f t : Int) : Bool := inB f 0 1000000 && inB t f 1000000
theorem hoursB_mk {f t : Int} (h1 : 0 ≤ f) (h2 : f ≤ t) (h3 : t ≤ 1000000) : hoursB f t = true := by
  unfold hoursB; rw [inB_mk (by omega), inB_mk (by omega)]; rfl
theorem hoursB_not {f t : Int} (h : ¬ (0 ≤ f ∧ f ≤ t ∧ t ≤ 1000000)) : hoursB f t = false := by
  unfold hoursB
  cases h1 : inB f 0 1000000
  · rfl
  · cases h2 : inB t f 1000000
    · rfl
    · have := inB_true h1; have := inB_true h2; omega

/-- An order's fields but for its number, and all of them. -/
def ordIn (n o1 o2 o3 o4 o5 : Int) : Bool := inB o1 0 (n - 1) && inB o2 0 1000 && hoursB o3 o4 && inB o5 0 10000
def ordB (n o0 o1 o2 o3 o4 o5 : Int) : Bool := inB o0 1 1000000000 && ordIn n o1 o2 o3 o4 o5
/-- A vehicle's. -/
def vehIn (n o1 o2 o3 o4 : Int) : Bool := inB o1 0 (n - 1) && inB o2 0 1000 && hoursB o3 o4
def vehB (n o0 o1 o2 o3 o4 : Int) : Bool := inB o0 1 1000000000 && vehIn n o1 o2 o3 o4

/-- The first k are right, their numbers rise. -/
def ordsTo (n : Int) (zs : List Int) (k : Nat) : Prop := ∀ i, i < k → ordB n (og6 zs i 0) (og6 zs i 1) (og6 zs i 2) (og6 zs i 3) (og6 zs i 4) (og6 zs i 5) = true ∧ (0 < i → og6 zs (i - 1) 0 < og6 zs i 0)
def ordsB (n : Int) (zs : List Int) (k : Nat) : Bool := decide (k ≤ 12 ∧ ∀ i, i < k → ordB n (og6 zs i 0) (og6 zs i 1) (og6 zs i 2) (og6 zs i 3) (og6 zs i 4) (og6 zs i 5) = true ∧ (0 < i → og6 zs (i - 1) 0 < og6 zs i 0))
theorem ordsB_yes {n : Int} {zs : List Int} {k : Nat} (h : k ≤ 12) (ht : ordsTo n zs k) : ordsB n zs k = true := by
  unfold ordsB
  exact decide_eq_true ⟨h, ht⟩
theorem ordsB_true {n : Int} {zs : List Int} {k : Nat} (h : ordsB n zs k = true) : k ≤ 12 ∧ ordsTo n zs k := by
  unfold ordsB at h
  have := of_decide_eq_true h
  exact ⟨this.1, this.2⟩
theorem ordsB_many {n : Int} {zs : List Int} {k : Nat} (h : ¬ k ≤ 12) : ordsB n zs k = false := decide_eq_false fun x => h x.1
theorem ordsB_bad {n : Int} {zs : List Int} {m k : Nat} (hk : k < m) (h : ¬ (ordB n (og6 zs k 0) (og6 zs k 1) (og6 zs k 2) (og6 zs k 3) (og6 zs k 4) (og6 zs k 5) = true ∧ (0 < k → og6 zs (k - 1) 0 < og6 zs k 0))) : ordsB n zs m = false := decide_eq_false fun x => h (x.2 k hk)
theorem ordsTo_zero (n : Int) (zs : List Int) : ordsTo n zs 0 := fun i hi => by omega
theorem ordsTo_step {n : Int} {zs : List Int} {k : Nat} (h : ordsTo n zs k) (h1 : ordB n (og6 zs k 0) (og6 zs k 1) (og6 zs k 2) (og6 zs k 3) (og6 zs k 4) (og6 zs k 5) = true) (h2 : 0 < k → og6 zs (k - 1) 0 < og6 zs k 0) : ordsTo n zs (k + 1) := by
  intro i hi
  by_cases e : i = k
  · subst e; exact ⟨h1, h2⟩
  · exact h i (by omega)
/-- The number ahead of the element k, 0 ahead of the first. -/
def ordsLast (zs : List Int) : Nat → Int
  | 0 => 0
  | k + 1 => og6 zs k 0
theorem ordsLast_bd {n : Int} {zs : List Int} {k : Nat} (h : ordsTo n zs k) : 0 ≤ ordsLast zs k ∧ ordsLast zs k ≤ 1000000000 := by
  cases k with
  | zero => simp [ordsLast]
  | succ k =>
    have h1 := (h k (by omega)).1
    unfold ordB at h1
    rw [Bool.and_eq_true] at h1
    have := inB_true h1.1
    show 0 ≤ og6 zs k 0 ∧ og6 zs k 0 ≤ 1000000000
    omega
/-- 'the number is last + 1 .. MaxId, and the rest is right': as the program asks it. -/
theorem ords_id {n : Int} {zs : List Int} {k : Nat} (h : ordsTo n zs k) (h1 : inB (og6 zs k 0) (ordsLast zs k + 1) 1000000000 = true) (h2 : ordIn n (og6 zs k 1) (og6 zs k 2) (og6 zs k 3) (og6 zs k 4) (og6 zs k 5) = true) :
    ordB n (og6 zs k 0) (og6 zs k 1) (og6 zs k 2) (og6 zs k 3) (og6 zs k 4) (og6 zs k 5) = true ∧ (0 < k → og6 zs (k - 1) 0 < og6 zs k 0) := by
  have hb := ordsLast_bd h
  have hi := inB_true h1
  refine ⟨?_, fun hk => ?_⟩
  · unfold ordB; rw [inB_mk (by omega), h2]; rfl
  · obtain ⟨j, rfl⟩ : ∃ j, k = j + 1 := ⟨k - 1, by omega⟩
    simp only [ordsLast] at hi
    simp only [Nat.add_sub_cancel]
    omega
theorem ords_id_no {n : Int} {zs : List Int} {k : Nat} (h : ¬ (inB (og6 zs k 0) (ordsLast zs k + 1) 1000000000 = true ∧ ordIn n (og6 zs k 1) (og6 zs k 2) (og6 zs k 3) (og6 zs k 4) (og6 zs k 5) = true)) :
    ¬ (ordB n (og6 zs k 0) (og6 zs k 1) (og6 zs k 2) (og6 zs k 3) (og6 zs k 4) (og6 zs k 5) = true ∧ (0 < k → og6 zs (k - 1) 0 < og6 zs k 0)) := by
  rintro ⟨h1, h2⟩
  unfold ordB at h1
  rw [Bool.and_eq_true] at h1
  refine h ⟨inB_mk ?_, h1.2⟩
  have hi := inB_true h1.1
  cases k with
  | zero => simp only [ordsLast]; omega
  | succ j =>
    have := h2 (by omega)
    simp only [Nat.add_sub_cancel] at this
    simp only [ordsLast]
    omega

/-- The first k are right, their numbers rise. -/
def vehsTo (n : Int) (zs : List Int) (k : Nat) : Prop := ∀ i, i < k → vehB n (og5 zs i 0) (og5 zs i 1) (og5 zs i 2) (og5 zs i 3) (og5 zs i 4) = true ∧ (0 < i → og5 zs (i - 1) 0 < og5 zs i 0)
def vehsB (n : Int) (zs : List Int) (k : Nat) : Bool := decide (k ≤ 5 ∧ ∀ i, i < k → vehB n (og5 zs i 0) (og5 zs i 1) (og5 zs i 2) (og5 zs i 3) (og5 zs i 4) = true ∧ (0 < i → og5 zs (i - 1) 0 < og5 zs i 0))
theorem vehsB_yes {n : Int} {zs : List Int} {k : Nat} (h : k ≤ 5) (ht : vehsTo n zs k) : vehsB n zs k = true := by
  unfold vehsB
  exact decide_eq_true ⟨h, ht⟩
theorem vehsB_true {n : Int} {zs : List Int} {k : Nat} (h : vehsB n zs k = true) : k ≤ 5 ∧ vehsTo n zs k := by
  unfold vehsB at h
  have := of_decide_eq_true h
  exact ⟨this.1, this.2⟩
theorem vehsB_many {n : Int} {zs : List Int} {k : Nat} (h : ¬ k ≤ 5) : vehsB n zs k = false := decide_eq_false fun x => h x.1
theorem vehsB_bad {n : Int} {zs : List Int} {m k : Nat} (hk : k < m) (h : ¬ (vehB n (og5 zs k 0) (og5 zs k 1) (og5 zs k 2) (og5 zs k 3) (og5 zs k 4) = true ∧ (0 < k → og5 zs (k - 1) 0 < og5 zs k 0))) : vehsB n zs m = false := decide_eq_false fun x => h (x.2 k hk)
theorem vehsTo_zero (n : Int) (zs : List Int) : vehsTo n zs 0 := fun i hi => by omega
theorem vehsTo_step {n : Int} {zs : List Int} {k : Nat} (h : vehsTo n zs k) (h1 : vehB n (og5 zs k 0) (og5 zs k 1) (og5 zs k 2) (og5 zs k 3) (og5 zs k 4) = true) (h2 : 0 < k → og5 zs (k - 1) 0 < og5 zs k 0) : vehsTo n zs (k + 1) := by
  intro i hi
  by_cases e : i = k
  · subst e; exact ⟨h1, h2⟩
  · exact h i (by omega)
/-- The number ahead of the element k, 0 ahead of the first. -/
def vehsLast (zs : List Int) : Nat → Int
  | 0 => 0
  | k + 1 => og5 zs k 0
theorem vehsLast_bd {n : Int} {zs : List Int} {k : Nat} (h : vehsTo n zs k) : 0 ≤ vehsLast zs k ∧ vehsLast zs k ≤ 1000000000 := by
  cases k with
  | zero => simp [vehsLast]
  | succ k =>
    have h1 := (h k (by omega)).1
    unfold vehB at h1
    rw [Bool.and_eq_true] at h1
    have := inB_true h1.1
    show 0 ≤ og5 zs k 0 ∧ og5 zs k 0 ≤ 1000000000
    omega
/-- 'the number is last + 1 .. MaxId, and the rest is right': as the program asks it. -/
theorem vehs_id {n : Int} {zs : List Int} {k : Nat} (h : vehsTo n zs k) (h1 : inB (og5 zs k 0) (vehsLast zs k + 1) 1000000000 = true) (h2 : vehIn n (og5 zs k 1) (og5 zs k 2) (og5 zs k 3) (og5 zs k 4) = true) :
    vehB n (og5 zs k 0) (og5 zs k 1) (og5 zs k 2) (og5 zs k 3) (og5 zs k 4) = true ∧ (0 < k → og5 zs (k - 1) 0 < og5 zs k 0) := by
  have hb := vehsLast_bd h
  have hi := inB_true h1
  refine ⟨?_, fun hk => ?_⟩
  · unfold vehB; rw [inB_mk (by omega), h2]; rfl
  · obtain ⟨j, rfl⟩ : ∃ j, k = j + 1 := ⟨k - 1, by omega⟩
    simp only [vehsLast] at hi
    simp only [Nat.add_sub_cancel]
    omega
theorem vehs_id_no {n : Int} {zs : List Int} {k : Nat} (h : ¬ (inB (og5 zs k 0) (vehsLast zs k + 1) 1000000000 = true ∧ vehIn n (og5 zs k 1) (og5 zs k 2) (og5 zs k 3) (og5 zs k 4) = true)) :
    ¬ (vehB n (og5 zs k 0) (og5 zs k 1) (og5 zs k 2) (og5 zs k 3) (og5 zs k 4) = true ∧ (0 < k → og5 zs (k - 1) 0 < og5 zs k 0)) := by
  rintro ⟨h1, h2⟩
  unfold vehB at h1
  rw [Bool.and_eq_true] at h1
  refine h ⟨inB_mk ?_, h1.2⟩
  have hi := inB_true h1.1
  cases k with
  | zero => simp only [vehsLast]; omega
  | succ j =>
    have := h2 (by omega)
    simp only [Nat.add_sub_cancel] at this
    simp only [vehsLast]
    omega

/-- A case is right. -/
def caseB (n : Int) (zs os vs : List Int) (ko kv : Nat) (fine : Int) : Bool := matB n zs && ordsB n os ko && vehsB n vs kv && inB fine 0 1000000

/-- Behind a call, what is known of a box of five cells. -/
theorem box5 {w w1 : World} {c0 c1 c2 c3 c4 : Value} {T : TypeId} (hb : Below (w.alloc (.cells #[c0, c1, c2, c3, c4] T)).heap.size (w.alloc (.cells #[c0, c1, c2, c3, c4] T)) w1) :
    Below w.heap.size w w1 ∧ w1.heap[w.heap.size]? = some (.cells #[c0, c1, c2, c3, c4] T (0, 0)) :=
  ⟨((Below.refl _ _).alloc (Nat.le_refl _) _).trans (hb.mono (by simp)), below_row hb (by simp) (heap_alloc_new _ _)⟩
theorem box_more {w w1 w2 : World} {k : Nat} {o : Obj} (hb : Below w1.heap.size w1 w2) (hB : Below w.heap.size w w1) (hr : w1.heap[k]? = some o) :
    Below w.heap.size w w2 ∧ w2.heap[k]? = some o := ⟨hB.trans (hb.mono hB.size), below_row hb (row_lt hr) hr⟩
theorem cells5 {w : World} {k : Nat} {c0 c1 c2 c3 c4 : Value} {T : TypeId} (r : w.heap[k]? = some (.cells #[c0, c1, c2, c3, c4] T (0, 0))) :
    w.cell? ⟨k, 0, none⟩ = some c0 ∧ w.cell? ⟨k, 1, none⟩ = some c1 ∧ w.cell? ⟨k, 2, none⟩ = some c2 ∧ w.cell? ⟨k, 3, none⟩ = some c3 ∧ w.cell? ⟨k, 4, none⟩ = some c4 := by
  refine ⟨?_, ?_, ?_, ?_, ?_⟩
  · rw [cell_of_row _ _ 0 _ _ _ r]; simp
  · rw [cell_of_row _ _ 1 _ _ _ r]; simp
  · rw [cell_of_row _ _ 2 _ _ _ r]; simp
  · rw [cell_of_row _ _ 3 _ _ _ r]; simp
  · rw [cell_of_row _ _ 4 _ _ _ r]; simp
theorem cells6 {w : World} {k : Nat} {c0 c1 c2 c3 c4 c5 : Value} {T : TypeId} (r : w.heap[k]? = some (.cells #[c0, c1, c2, c3, c4, c5] T (0, 0))) :
    w.cell? ⟨k, 0, none⟩ = some c0 ∧ w.cell? ⟨k, 1, none⟩ = some c1 ∧ w.cell? ⟨k, 2, none⟩ = some c2 ∧ w.cell? ⟨k, 3, none⟩ = some c3 ∧ w.cell? ⟨k, 4, none⟩ = some c4 ∧ w.cell? ⟨k, 5, none⟩ = some c5 := by
  refine ⟨?_, ?_, ?_, ?_, ?_, ?_⟩
  · rw [cell_of_row _ _ 0 _ _ _ r]; simp
  · rw [cell_of_row _ _ 1 _ _ _ r]; simp
  · rw [cell_of_row _ _ 2 _ _ _ r]; simp
  · rw [cell_of_row _ _ 3 _ _ _ r]; simp
  · rw [cell_of_row _ _ 4 _ _ _ r]; simp
  · rw [cell_of_row _ _ 5 _ _ _ r]; simp

end Go.Proofs.Ytaehhlkpbhmdfaa

namespace Go.Proofs.Ytaehhlkpbhmdfaa
open Go.RowKit

/-- The first m of zs, then noughts, N in all. -/
def fillTo (N : Nat) (zs : List Int) (m : Nat) : List Int := (List.range N).map fun j => if j < m then zs.getD j 0 else 0
theorem fillTo_length (N : Nat) (zs : List Int) (m : Nat) : (fillTo N zs m).length = N := by simp [fillTo]
theorem fillTo_step (N : Nat) (zs : List Int) (m : Nat) : (fillTo N zs m).set m (zs.getD m 0) = fillTo N zs (m + 1) := by
  apply List.ext_getElem
  · simp [fillTo]
  · intro j h1 h2
    by_cases e : m = j
    · subst e
      simp only [fillTo, List.getElem_set, List.getElem_map, List.getElem_range, if_true]
      rw [if_pos (by omega)]
    · simp only [fillTo, List.getElem_set, List.getElem_map, List.getElem_range, if_neg e]
      by_cases c : j < m
      · rw [if_pos c, if_pos (by omega)]
      · rw [if_neg c, if_neg (by omega)]
theorem fillTo_full (zs : List Int) : fillTo zs.length zs zs.length = zs := by
  apply List.ext_getElem
  · simp [fillTo]
  · intro j h1 h2
    simp only [fillTo, List.getElem_map, List.getElem_range]
    rw [if_pos h2]
    simp [List.getD, h2]
theorem fillTo_zero (N : Nat) (zs : List Int) : fillTo N zs 0 = List.replicate N 0 := by
  apply List.ext_getElem
  · simp [fillTo]
  · intro j h1 h2
    simp [fillTo]
/-- One cell of such a row is written. -/
theorem row_fill {w : World} {g N m : Nat} {zs : List Int} {T : TypeId} {v : Int} (h : w.heap[g]? = some (.cells (cellsOf (fillTo N zs m)) T (0, 0))) (hv : zs.getD m 0 = v) :
    (w.setCell ⟨g, m, none⟩ (.int .i64 v)).heap[g]? = some (.cells (cellsOf (fillTo N zs (m + 1))) T (0, 0)) := by
  rw [heap_setCell_same _ _ _ _ _ _ h, cellsOf_set, ← hv, fillTo_step]

end Go.Proofs.Ytaehhlkpbhmdfaa

namespace Go.Proofs.Ytaehhlkpbhmdfaa
open Go.RowKit

/-- The field f of the element i of a row of elements of 3 numbers. -/
def og3 (zs : List Int) (i f : Nat) : Int := zs.getD (i * 3 + f) 0
theorem row3_at {w : World} {b off : Nat} {zs : List Int} {n : Nat} (h : ∀ j, j < zs.length → w.cell? ⟨b, off + j, none⟩ = some (.int .i64 (zs.getD j 0))) (hl : zs.length = n * 3) (i : Nat) (hi : i < n) :
    w.cell? ⟨b, off + i * 3, none⟩ = some (.int .i64 (og3 zs i 0)) ∧ w.cell? ⟨b, off + i * 3 + 1, none⟩ = some (.int .i64 (og3 zs i 1)) ∧ w.cell? ⟨b, off + i * 3 + 2, none⟩ = some (.int .i64 (og3 zs i 2)) := by
  have hb : i * 3 + 3 ≤ zs.length := by omega
  refine ⟨?_, ?_, ?_⟩
  · exact h (i * 3) (by omega)
  · rw [Nat.add_assoc]; exact h (i * 3 + 1) (by omega)
  · rw [Nat.add_assoc]; exact h (i * 3 + 2) (by omega)

theorem box3 {w w1 : World} {c0 c1 c2 : Value} {T : TypeId} (hb : Below (w.alloc (.cells #[c0, c1, c2] T)).heap.size (w.alloc (.cells #[c0, c1, c2] T)) w1) :
    Below w.heap.size w w1 ∧ w1.heap[w.heap.size]? = some (.cells #[c0, c1, c2] T (0, 0)) :=
  ⟨((Below.refl _ _).alloc (Nat.le_refl _) _).trans (hb.mono (by simp)), below_row hb (by simp) (heap_alloc_new _ _)⟩
theorem cells3 {w : World} {k : Nat} {c0 c1 c2 : Value} {T : TypeId} (r : w.heap[k]? = some (.cells #[c0, c1, c2] T (0, 0))) :
    w.cell? ⟨k, 0, none⟩ = some c0 ∧ w.cell? ⟨k, 1, none⟩ = some c1 ∧ w.cell? ⟨k, 2, none⟩ = some c2 := by
  refine ⟨?_, ?_, ?_⟩
  · rw [cell_of_row _ _ 0 _ _ _ r]; simp
  · rw [cell_of_row _ _ 1 _ _ _ r]; simp
  · rw [cell_of_row _ _ 2 _ _ _ r]; simp

end Go.Proofs.Ytaehhlkpbhmdfaa

namespace Go.Proofs.Ytaehhlkpbhmdfaa

/-- All pairs up to (x, y) are the same in both ways. -/
def symTo (n : Nat) (zs : List Int) (x y : Nat) : Prop := ∀ i j, j < i → (i < x ∨ i = x ∧ j < y) → tm n zs i j = tm n zs j i
/-- What Symmetric answers. -/
def symB (n : Int) (zs : List Int) : Bool := decide (matB n zs = true ∧ ∀ i, i < n.toNat → ∀ j, j < i → tm n.toNat zs i j = tm n.toNat zs j i)
theorem symB_no {n : Int} {zs : List Int} (h : matB n zs = false) : symB n zs = false := decide_eq_false fun k => by rw [h] at k; exact Bool.noConfusion k.1
theorem symB_yes {n : Nat} {zs : List Int} (h : matB n zs = true) (hs : symTo n zs n 0) : symB n zs = true :=
  decide_eq_true ⟨h, fun i hi j hj => hs i j hj (Or.inl (by simpa using hi))⟩
theorem symB_bad {n : Nat} {zs : List Int} {x y : Nat} (hx : x < n) (hy : y < x) (h : tm n zs x y ≠ tm n zs y x) : symB n zs = false :=
  decide_eq_false fun k => h (by have := k.2 x (by simpa using hx) y hy; simpa using this)
theorem symTo_zero (n : Nat) (zs : List Int) : symTo n zs 0 0 := fun i j _ h => by omega
theorem symTo_step {n : Nat} {zs : List Int} {x y : Nat} (h : symTo n zs x y) (e : tm n zs x y = tm n zs y x) : symTo n zs x (y + 1) := by
  intro i j hj hij
  by_cases c : i = x ∧ j = y
  · obtain ⟨rfl, rfl⟩ := c; exact e
  · exact h i j hj (by omega)
theorem symTo_row {n : Nat} {zs : List Int} {x : Nat} (h : symTo n zs x x) : symTo n zs (x + 1) 0 := fun i j hj hij => h i j hj (by omega)

end Go.Proofs.Ytaehhlkpbhmdfaa

namespace Go.Proofs.Ytaehhlkpbhmdfaa

/-- The place of the first element of 6 numbers whose first one is id. -/
def fnd6 (zs : List Int) (n : Nat) (id : Int) : Option Nat := (List.range n).find? fun i => og6 zs i 0 == id
/-- Whether there is one; its fields, 0 without one. -/
def fnd6T (zs : List Int) (n : Nat) (id : Int) : Bool := (fnd6 zs n id).isSome
def fnd6F (zs : List Int) (n : Nat) (id : Int) (f : Nat) : Int := match fnd6 zs n id with
  | some i => og6 zs i f
  | none => 0
theorem fnd6_at {zs : List Int} {n : Nat} {id : Int} {i : Nat} (hi : i < n) (h : og6 zs i 0 = id) (hno : ∀ j, j < i → og6 zs j 0 ≠ id) : fnd6 zs n id = some i := by
  unfold fnd6
  rw [List.find?_range_eq_some]
  exact ⟨by simp [h], by simpa using hi, fun j hj => by simpa using hno j hj⟩
theorem fnd6_none {zs : List Int} {n : Nat} {id : Int} (hno : ∀ j, j < n → og6 zs j 0 ≠ id) : fnd6 zs n id = none := by
  unfold fnd6
  rw [List.find?_eq_none]
  intro j hj
  have := hno j (by simpa using hj)
  simpa using this
theorem fnd6F_at {zs : List Int} {n : Nat} {id : Int} {i : Nat} (h : fnd6 zs n id = some i) (f : Nat) : fnd6F zs n id f = og6 zs i f := by unfold fnd6F; rw [h]
theorem fnd6F_none {zs : List Int} {n : Nat} {id : Int} (h : fnd6 zs n id = none) (f : Nat) : fnd6F zs n id f = 0 := by unfold fnd6F; rw [h]
theorem fnd6T_at {zs : List Int} {n : Nat} {id : Int} {i : Nat} (h : fnd6 zs n id = some i) : fnd6T zs n id = true := by unfold fnd6T; rw [h]; rfl
theorem fnd6T_none {zs : List Int} {n : Nat} {id : Int} (h : fnd6 zs n id = none) : fnd6T zs n id = false := by unfold fnd6T; rw [h]; rfl
/-- .. of a case that may not be right. -/
def got6T (c : Bool) (zs : List Int) (n : Nat) (id : Int) : Bool := c && fnd6T zs n id
def got6F (c : Bool) (zs : List Int) (n : Nat) (id : Int) (f : Nat) : Int := if c = true then fnd6F zs n id f else 0

/-- The place of the first element of 5 numbers whose first one is id. -/
def fnd5 (zs : List Int) (n : Nat) (id : Int) : Option Nat := (List.range n).find? fun i => og5 zs i 0 == id
/-- Whether there is one; its fields, 0 without one. -/
def fnd5T (zs : List Int) (n : Nat) (id : Int) : Bool := (fnd5 zs n id).isSome
def fnd5F (zs : List Int) (n : Nat) (id : Int) (f : Nat) : Int := match fnd5 zs n id with
  | some i => og5 zs i f
  | none => 0
theorem fnd5_at {zs : List Int} {n : Nat} {id : Int} {i : Nat} (hi : i < n) (h : og5 zs i 0 = id) (hno : ∀ j, j < i → og5 zs j 0 ≠ id) : fnd5 zs n id = some i := by
  unfold fnd5
  rw [List.find?_range_eq_some]
  exact ⟨by simp [h], by simpa using hi, fun j hj => by simpa using hno j hj⟩
theorem fnd5_none {zs : List Int} {n : Nat} {id : Int} (hno : ∀ j, j < n → og5 zs j 0 ≠ id) : fnd5 zs n id = none := by
  unfold fnd5
  rw [List.find?_eq_none]
  intro j hj
  have := hno j (by simpa using hj)
  simpa using this
theorem fnd5F_at {zs : List Int} {n : Nat} {id : Int} {i : Nat} (h : fnd5 zs n id = some i) (f : Nat) : fnd5F zs n id f = og5 zs i f := by unfold fnd5F; rw [h]
theorem fnd5F_none {zs : List Int} {n : Nat} {id : Int} (h : fnd5 zs n id = none) (f : Nat) : fnd5F zs n id f = 0 := by unfold fnd5F; rw [h]
theorem fnd5T_at {zs : List Int} {n : Nat} {id : Int} {i : Nat} (h : fnd5 zs n id = some i) : fnd5T zs n id = true := by unfold fnd5T; rw [h]; rfl
theorem fnd5T_none {zs : List Int} {n : Nat} {id : Int} (h : fnd5 zs n id = none) : fnd5T zs n id = false := by unfold fnd5T; rw [h]; rfl
/-- .. of a case that may not be right. -/
def got5T (c : Bool) (zs : List Int) (n : Nat) (id : Int) : Bool := c && fnd5T zs n id
def got5F (c : Bool) (zs : List Int) (n : Nat) (id : Int) (f : Nat) : Int := if c = true then fnd5F zs n id f else 0

end Go.Proofs.Ytaehhlkpbhmdfaa

namespace Go.Proofs.Ytaehhlkpbhmdfaa
open Go.RowKit

/-- The loads of the first k of these orders. -/
def loadTo (os : List Int) (ko : Nat) (ids : List Int) : Nat → Int
  | 0 => 0
  | k + 1 => loadTo os ko ids k + fnd6F os ko (ids.getD k 0) 2
def thereTo (os : List Int) (ko : Nat) (ids : List Int) (k : Nat) : Prop := ∀ j, j < k → fnd6T os ko (ids.getD j 0) = true
/-- What LoadOf answers. -/
def loadV (c : Bool) (os : List Int) (ko : Nat) (ids : List Int) : Int :=
  if c = true ∧ ids.length ≤ 12 ∧ (∀ j, j < ids.length → fnd6T os ko (ids.getD j 0) = true) then loadTo os ko ids ids.length else -1
theorem loadV_no {c : Bool} {os : List Int} {ko : Nat} {ids : List Int} (h : ¬ (c = true ∧ ids.length ≤ 12 ∧ (∀ j, j < ids.length → fnd6T os ko (ids.getD j 0) = true))) : loadV c os ko ids = -1 := by
  unfold loadV; rw [if_neg h]
theorem loadV_yes {c : Bool} {os : List Int} {ko : Nat} {ids : List Int} (h1 : c = true) (h2 : ids.length ≤ 12) (h3 : thereTo os ko ids ids.length) : loadV c os ko ids = loadTo os ko ids ids.length := by
  unfold loadV; rw [if_pos ⟨h1, h2, h3⟩]
theorem fnd6F_load {n : Int} {os : List Int} {ko : Nat} (h : ordsB n os ko = true) (id : Int) : 0 ≤ fnd6F os ko id 2 ∧ fnd6F os ko id 2 ≤ 1000 := by
  unfold fnd6F
  cases hf : fnd6 os ko id with
  | none => simp
  | some i =>
    have hi : i < ko := by
      unfold fnd6 at hf
      rw [List.find?_range_eq_some] at hf
      have := hf.2.1
      simpa using this
    have := ((ordsB_true h).2 i hi).1
    unfold ordB ordIn at this
    simp only [Bool.and_eq_true] at this
    have := inB_true this.2.1.1.2
    simpa using this
theorem caseB_ords {n : Int} {zs os vs : List Int} {ko kv : Nat} {fine : Int} (h : caseB n zs os vs ko kv fine = true) : ordsB n os ko = true := by
  unfold caseB at h
  simp only [Bool.and_eq_true] at h
  exact h.1.1.2
theorem loadTo_bd {n : Int} {os : List Int} {ko : Nat} (h : ordsB n os ko = true) (ids : List Int) : ∀ k, 0 ≤ loadTo os ko ids k ∧ loadTo os ko ids k ≤ 1000 * k
  | 0 => by simp [loadTo]
  | k + 1 => by
    have ih := loadTo_bd h ids k
    have := fnd6F_load h (ids.getD k 0)
    unfold loadTo
    omega

end Go.Proofs.Ytaehhlkpbhmdfaa

namespace Go.Proofs.Ytaehhlkpbhmdfaa
open Go.RowKit

/-- Whether id stands among the first k. -/
def hasTo (ids : List Int) (k : Nat) (id : Int) : Bool := (List.range k).any fun j => ids.getD j 0 == id
theorem hasTo_yes {ids : List Int} {k j : Nat} {id : Int} (hj : j < k) (h : ids.getD j 0 = id) : hasTo ids k id = true := by
  unfold hasTo
  rw [List.any_eq_true]
  exact ⟨j, by simpa using hj, by rw [h]; simp⟩
theorem hasTo_no {ids : List Int} {k : Nat} {id : Int} (h : ∀ j, j < k → ids.getD j 0 ≠ id) : hasTo ids k id = false := by
  unfold hasTo
  rw [List.any_eq_false]
  intro j hj
  have := h j (by simpa using hj)
  simpa using this

/-- The stop k is an order, and stands nowhere ahead. -/
def stopB (os : List Int) (ko : Nat) (ids : List Int) (k : Nat) : Bool := fnd6T os ko (ids.getD k 0) && !hasTo ids k (ids.getD k 0)
def stopsTo (os : List Int) (ko : Nat) (ids : List Int) (k : Nat) : Prop := ∀ j, j < k → stopB os ko ids j = true
def stopsB (os : List Int) (ko : Nat) (ids : List Int) : Bool := decide (ids.length ≤ 12 ∧ ∀ j, j < ids.length → stopB os ko ids j = true)
theorem stopsB_yes {os : List Int} {ko : Nat} {ids : List Int} (h : ids.length ≤ 12) (ht : stopsTo os ko ids ids.length) : stopsB os ko ids = true := by
  unfold stopsB
  exact decide_eq_true ⟨h, ht⟩
theorem stopsB_true {os : List Int} {ko : Nat} {ids : List Int} (h : stopsB os ko ids = true) : ids.length ≤ 12 ∧ stopsTo os ko ids ids.length := by
  unfold stopsB at h
  have := of_decide_eq_true h
  exact ⟨this.1, this.2⟩
theorem stopsB_many {os : List Int} {ko : Nat} {ids : List Int} (h : ¬ ids.length ≤ 12) : stopsB os ko ids = false := decide_eq_false fun x => h x.1
theorem stopsB_bad {os : List Int} {ko : Nat} {ids : List Int} {k : Nat} (hk : k < ids.length) (h : stopB os ko ids k = false) : stopsB os ko ids = false := decide_eq_false fun x => by
  have := x.2 k hk
  rw [h] at this
  cases this
theorem stopsTo_zero (os : List Int) (ko : Nat) (ids : List Int) : stopsTo os ko ids 0 := fun j hj => by omega
theorem stopsTo_step {os : List Int} {ko : Nat} {ids : List Int} {k : Nat} (h : stopsTo os ko ids k) (h1 : stopB os ko ids k = true) : stopsTo os ko ids (k + 1) := by
  intro j hj
  by_cases e : j = k
  · rw [e]; exact h1
  · exact h j (by omega)
theorem stopB_mk {os : List Int} {ko : Nat} {ids : List Int} {k : Nat} {id : Int} (hid : ids.getD k 0 = id) {a b : Bool} (h1 : fnd6T os ko id = a) (h2 : hasTo ids k id = b) : stopB os ko ids k = (a && !b) := by
  unfold stopB
  rw [hid, h1, h2]

/-- What of a route is wrong, but for its times. -/
def formV (c : Bool) (vs os : List Int) (kv ko : Nat) (veh : Int) (ids : List Int) : Int :=
  if c = false then 1 else if fnd5T vs kv veh = false then 2 else if stopsB os ko ids = false then 3 else if fnd5F vs kv veh 2 < loadTo os ko ids ids.length then 4 else 0
theorem formV_1 {c : Bool} {vs os : List Int} {kv ko : Nat} {veh : Int} {ids : List Int} (h : c = false) : formV c vs os kv ko veh ids = 1 := by
  unfold formV; rw [if_pos h]
theorem formV_2 {c : Bool} {vs os : List Int} {kv ko : Nat} {veh : Int} {ids : List Int} (h : c = true) (h2 : fnd5T vs kv veh = false) : formV c vs os kv ko veh ids = 2 := by
  unfold formV; rw [if_neg (by simp [h]), if_pos h2]
theorem formV_3 {c : Bool} {vs os : List Int} {kv ko : Nat} {veh : Int} {ids : List Int} (h : c = true) (h2 : fnd5T vs kv veh = true) (h3 : stopsB os ko ids = false) : formV c vs os kv ko veh ids = 3 := by
  unfold formV; rw [if_neg (by simp [h]), if_neg (by simp [h2]), if_pos h3]
theorem formV_4 {c : Bool} {vs os : List Int} {kv ko : Nat} {veh : Int} {ids : List Int} (h : c = true) (h2 : fnd5T vs kv veh = true) (h3 : stopsB os ko ids = true) (h4 : fnd5F vs kv veh 2 < loadTo os ko ids ids.length) : formV c vs os kv ko veh ids = 4 := by
  unfold formV; rw [if_neg (by simp [h]), if_neg (by simp [h2]), if_neg (by simp [h3]), if_pos h4]
theorem formV_0 {c : Bool} {vs os : List Int} {kv ko : Nat} {veh : Int} {ids : List Int} (h : c = true) (h2 : fnd5T vs kv veh = true) (h3 : stopsB os ko ids = true) (h4 : ¬ fnd5F vs kv veh 2 < loadTo os ko ids ids.length) : formV c vs os kv ko veh ids = 0 := by
  unfold formV; rw [if_neg (by simp [h]), if_neg (by simp [h2]), if_neg (by simp [h3]), if_neg h4]
theorem formV_zero {c : Bool} {vs os : List Int} {kv ko : Nat} {veh : Int} {ids : List Int} (h : formV c vs os kv ko veh ids = 0) : c = true ∧ fnd5T vs kv veh = true ∧ stopsB os ko ids = true := by
  unfold formV at h
  by_cases c1 : c = false
  · rw [if_pos c1] at h; omega
  · rw [if_neg c1] at h
    by_cases c2 : fnd5T vs kv veh = false
    · rw [if_pos c2] at h; omega
    · rw [if_neg c2] at h
      by_cases c3 : stopsB os ko ids = false
      · rw [if_pos c3] at h; omega
      · exact ⟨by simpa using c1, by simpa using c2, by simpa using c3⟩
theorem formV_bd (c : Bool) (vs os : List Int) (kv ko : Nat) (veh : Int) (ids : List Int) : 0 ≤ formV c vs os kv ko veh ids ∧ formV c vs os kv ko veh ids ≤ 4 := by
  unfold formV
  split
  · omega
  · split
    · omega
    · split
      · omega
      · split <;> omega

/-- The orders of a route, six numbers each. -/
def rosOf (os : List Int) (ko : Nat) (ids : List Int) : List Int := (List.range (ids.length * 6)).map fun j => fnd6F os ko (ids.getD (j / 6) 0) (j % 6)
theorem rosOf_length (os : List Int) (ko : Nat) (ids : List Int) : (rosOf os ko ids).length = ids.length * 6 := by simp [rosOf]
theorem rosOf_at (os : List Int) (ko : Nat) (ids : List Int) {k f : Nat} (hk : k < ids.length) (hf : f < 6) : og6 (rosOf os ko ids) k f = fnd6F os ko (ids.getD k 0) f := by
  unfold og6 rosOf
  have hj : k * 6 + f < ids.length * 6 := by omega
  have e1 : (k * 6 + f) / 6 = k := by omega
  have e2 : (k * 6 + f) % 6 = f := by omega
  rw [List.getD, List.getElem?_map, List.getElem?_range hj]
  simp only [Option.map_some, Option.getD_some, e1, e2]

/-- The orders of a right case are within the limits, those that are not there, too. -/
theorem fnd6F_bd {n : Int} {os : List Int} {ko : Nat} (h : ordsB n os ko = true) (hn : 1 ≤ n) (id : Int) :
    (0 ≤ fnd6F os ko id 1 ∧ fnd6F os ko id 1 < n) ∧ (0 ≤ fnd6F os ko id 2 ∧ fnd6F os ko id 2 ≤ 1000) ∧ (0 ≤ fnd6F os ko id 3 ∧ fnd6F os ko id 3 ≤ 1000000) ∧ (0 ≤ fnd6F os ko id 4 ∧ fnd6F os ko id 4 ≤ 1000000) ∧ (0 ≤ fnd6F os ko id 5 ∧ fnd6F os ko id 5 ≤ 10000) := by
  unfold fnd6F
  cases hf : fnd6 os ko id with
  | none => simp; omega
  | some i =>
    have hi : i < ko := by
      unfold fnd6 at hf
      rw [List.find?_range_eq_some] at hf
      have := hf.2.1
      simpa using this
    have := ((ordsB_true h).2 i hi).1
    unfold ordB ordIn hoursB at this
    simp only [Bool.and_eq_true] at this
    obtain ⟨_, ⟨⟨h1, h2⟩, h3, h4⟩, h5⟩ := this
    have h1 := inB_true h1
    have h2 := inB_true h2
    have h3 := inB_true h3
    have h4 := inB_true h4
    have h5 := inB_true h5
    simp only []
    omega
theorem fnd5F_bd {n : Int} {vs : List Int} {kv : Nat} (h : vehsB n vs kv = true) (hn : 1 ≤ n) (id : Int) :
    (0 ≤ fnd5F vs kv id 1 ∧ fnd5F vs kv id 1 < n) ∧ (0 ≤ fnd5F vs kv id 2 ∧ fnd5F vs kv id 2 ≤ 1000) ∧ (0 ≤ fnd5F vs kv id 3 ∧ fnd5F vs kv id 3 ≤ 1000000) ∧ (0 ≤ fnd5F vs kv id 4 ∧ fnd5F vs kv id 4 ≤ 1000000) := by
  unfold fnd5F
  cases hf : fnd5 vs kv id with
  | none => simp; omega
  | some i =>
    have hi : i < kv := by
      unfold fnd5 at hf
      rw [List.find?_range_eq_some] at hf
      have := hf.2.1
      simpa using this
    have := ((vehsB_true h).2 i hi).1
    unfold vehB vehIn hoursB at this
    simp only [Bool.and_eq_true] at this
    obtain ⟨_, ⟨h1, h2⟩, h3, h4⟩ := this
    have h1 := inB_true h1
    have h2 := inB_true h2
    have h3 := inB_true h3
    have h4 := inB_true h4
    simp only []
    omega
theorem caseB_parts {n : Int} {zs os vs : List Int} {ko kv : Nat} {fine : Int} (h : caseB n zs os vs ko kv fine = true) : matB n zs = true ∧ ordsB n os ko = true ∧ vehsB n vs kv = true ∧ 1 ≤ n ∧ 0 ≤ fine ∧ fine ≤ 1000000 := by
  unfold caseB at h
  simp only [Bool.and_eq_true] at h
  exact ⟨h.1.1.1, h.1.1.2, h.1.2, (matB_true h.1.1.1).1, inB_true h.2⟩

/-- A time by the numbers of its places. -/
def tmI (n : Int) (zs : List Int) (x y : Int) : Int := zs.getD (x.toNat * n.toNat + y.toNat) 0
theorem tmI_bd {n : Int} {zs : List Int} (h : matB n zs = true) (x y : Int) : 0 ≤ tmI n zs x y ∧ tmI n zs x y ≤ 10000 := by
  unfold tmI
  by_cases hl : x.toNat * n.toNat + y.toNat < zs.length
  · have := (matB_true h).2.2.2 _ hl
    exact ⟨this.1, this.2.1⟩
  · rw [List.getD, List.getElem?_eq_none (by omega)]
    simp

/-- The place behind the first k stops. -/
def plc (ros : List Int) (home : Int) : Nat → Int
  | 0 => home
  | k + 1 => og6 ros k 1
/-- The orders' fields are within the limits. -/
def RosBd (n : Int) (ros : List Int) (m : Nat) : Prop := ∀ k, k < m → (0 ≤ og6 ros k 1 ∧ og6 ros k 1 < n) ∧ (0 ≤ og6 ros k 2 ∧ og6 ros k 2 ≤ 1000) ∧ (0 ≤ og6 ros k 3 ∧ og6 ros k 3 ≤ 1000000) ∧ (0 ≤ og6 ros k 4 ∧ og6 ros k 4 ≤ 1000000) ∧ (0 ≤ og6 ros k 5 ∧ og6 ros k 5 ≤ 10000)
theorem rosBd_of {n : Int} {os : List Int} {ko : Nat} (h : ordsB n os ko = true) (hn : 1 ≤ n) (ids : List Int) : RosBd n (rosOf os ko ids) ids.length := by
  intro k hk
  rw [rosOf_at os ko ids hk (by omega), rosOf_at os ko ids hk (by omega), rosOf_at os ko ids hk (by omega), rosOf_at os ko ids hk (by omega), rosOf_at os ko ids hk (by omega)]
  exact fnd6F_bd h hn _
theorem plc_bd {n : Int} {ros : List Int} {m : Nat} (h : RosBd n ros m) {home : Int} (h0 : 0 ≤ home) (h1 : home < n) : ∀ k, k ≤ m → 0 ≤ plc ros home k ∧ plc ros home k < n
  | 0, _ => ⟨h0, h1⟩
  | k + 1, hk => (h k (by omega)).1

/-- When the vehicle is free behind the first k stops, at these starts. -/
def freeK (ros starts : List Int) (frm : Int) : Nat → Int
  | 0 => frm
  | k + 1 => starts.getD k 0 + og6 ros k 5
def keptAt (n : Int) (zs ros starts : List Int) (home frm : Int) (k : Nat) : Bool :=
  inB (starts.getD k 0) (max (og6 ros k 3) (freeK ros starts frm k + tmI n zs (plc ros home k) (og6 ros k 1))) (og6 ros k 4)
def keptTo (n : Int) (zs ros starts : List Int) (home frm : Int) (m : Nat) : Prop := ∀ k, k < m → keptAt n zs ros starts home frm k = true
/-- Whether these are starts with which a loaded route can be driven. -/
def keptB (n : Int) (zs ros : List Int) (m : Nat) (starts : List Int) (home frm to : Int) : Bool :=
  decide ((∀ k, k < m → keptAt n zs ros starts home frm k = true) ∧ freeK ros starts frm m + tmI n zs (plc ros home m) home ≤ to)
theorem keptB_bad {n : Int} {zs ros : List Int} {m : Nat} {starts : List Int} {home frm to : Int} {k : Nat} (hk : k < m) (h : keptAt n zs ros starts home frm k = false) : keptB n zs ros m starts home frm to = false :=
  decide_eq_false fun x => by
    have := x.1 k hk
    rw [h] at this
    cases this
theorem keptB_end {n : Int} {zs ros : List Int} {m : Nat} {starts : List Int} {home frm to : Int} (h : keptTo n zs ros starts home frm m) : keptB n zs ros m starts home frm to = decide (freeK ros starts frm m + tmI n zs (plc ros home m) home ≤ to) := by
  unfold keptB
  rw [decide_eq_decide]
  exact ⟨fun x => x.2, fun x => ⟨h, x⟩⟩
theorem keptTo_step {n : Int} {zs ros starts : List Int} {home frm : Int} {k : Nat} (h : keptTo n zs ros starts home frm k) (h1 : keptAt n zs ros starts home frm k = true) : keptTo n zs ros starts home frm (k + 1) := by
  intro j hj
  by_cases e : j = k
  · rw [e]; exact h1
  · exact h j (by omega)
theorem freeK_zero (ros starts : List Int) (frm : Int) : freeK ros starts frm 0 = frm := rfl
theorem freeK_succ (ros starts : List Int) (frm : Int) (k : Nat) : freeK ros starts frm (k + 1) = starts.getD k 0 + og6 ros k 5 := rfl
theorem freeK_bd {n : Int} {zs ros starts : List Int} {m : Nat} {home frm : Int} (h : RosBd n ros m) (hf : 0 ≤ frm ∧ frm ≤ 1000000) : ∀ k, k ≤ m → keptTo n zs ros starts home frm k → 0 ≤ freeK ros starts frm k ∧ freeK ros starts frm k ≤ 1010000
  | 0, _, _ => by simp only [freeK]; omega
  | k + 1, hk, ht => by
    have h1 := inB_true (ht k (by omega))
    have h2 := h k (by omega)
    simp only [freeK]
    have : og6 ros k 3 ≤ max (og6 ros k 3) (freeK ros starts frm k + tmI n zs (plc ros home k) (og6 ros k 1)) := by omega
    omega

/-- What Keeps answers. -/
def keepsV (c : Bool) (n : Int) (zs os vs : List Int) (ko kv : Nat) (veh : Int) (ids starts : List Int) : Bool :=
  if formV c vs os kv ko veh ids = 0 ∧ starts.length = ids.length then keptB n zs (rosOf os ko ids) ids.length starts (fnd5F vs kv veh 1) (fnd5F vs kv veh 3) (fnd5F vs kv veh 4) else false
theorem keepsV_no {c : Bool} {n : Int} {zs os vs : List Int} {ko kv : Nat} {veh : Int} {ids starts : List Int} (h : ¬ (formV c vs os kv ko veh ids = 0 ∧ starts.length = ids.length)) : keepsV c n zs os vs ko kv veh ids starts = false := by
  unfold keepsV; rw [if_neg h]
theorem keepsV_yes {c : Bool} {n : Int} {zs os vs : List Int} {ko kv : Nat} {veh : Int} {ids starts : List Int} (h1 : formV c vs os kv ko veh ids = 0) (h2 : starts.length = ids.length) : keepsV c n zs os vs ko kv veh ids starts = keptB n zs (rosOf os ko ids) ids.length starts (fnd5F vs kv veh 1) (fnd5F vs kv veh 3) (fnd5F vs kv veh 4) := by
  unfold keepsV; rw [if_pos ⟨h1, h2⟩]

end Go.Proofs.Ytaehhlkpbhmdfaa

namespace Go.Proofs.Ytaehhlkpbhmdfaa
open Go.RowKit

/-- The times of the first k edges, together. -/
def treeTo (es : List Int) : Nat → Int
  | 0 => 0
  | k + 1 => treeTo es k + og3 es k 2
def timesTo (es : List Int) (k : Nat) : Prop := ∀ j, j < k → inB (og3 es j 2) 0 10000 = true
/-- What TreeTime answers, of n edges. -/
def treeV (es : List Int) (n : Nat) : Int := if n ≤ 16 ∧ (∀ j, j < n → inB (og3 es j 2) 0 10000 = true) then treeTo es n else -1
theorem treeV_many {es : List Int} {n : Nat} (h : 16 < n) : treeV es n = -1 := by
  unfold treeV; rw [if_neg fun x => by omega]
theorem treeV_bad {es : List Int} {n k : Nat} (hk : k < n) (h : inB (og3 es k 2) 0 10000 = false) : treeV es n = -1 := by
  unfold treeV; rw [if_neg fun x => by have := x.2 k hk; rw [h] at this; cases this]
theorem treeV_yes {es : List Int} {n : Nat} (h : n ≤ 16) (ht : timesTo es n) : treeV es n = treeTo es n := by
  unfold treeV; rw [if_pos ⟨h, ht⟩]
theorem timesTo_step {es : List Int} {k : Nat} (h : timesTo es k) (hk : inB (og3 es k 2) 0 10000 = true) : timesTo es (k + 1) := by
  intro j hj
  by_cases e : j = k
  · rw [e]; exact hk
  · exact h j (by omega)
theorem treeTo_bd {es : List Int} : ∀ k, timesTo es k → 0 ≤ treeTo es k ∧ treeTo es k ≤ 10000 * k
  | 0, _ => by simp [treeTo]
  | k + 1, h => by
    have ih := treeTo_bd (es := es) k (fun j hj => h j (by omega))
    have := inB_true (h k (by omega))
    unfold treeTo
    omega

end Go.Proofs.Ytaehhlkpbhmdfaa

namespace Go.Proofs.Ytaehhlkpbhmdfaa
open Go.RowKit

/-- How many rows of k things there are. -/
def fac : Nat → Int
  | 0 => 1
  | k + 1 => fac k * ((k : Int) + 1)
/-- What Count answers. -/
def countV (n : Int) : Int := if inB n 0 6 = true then fac n.toNat else -1
theorem countV_no {n : Int} (h : inB n 0 6 = false) : countV n = -1 := by unfold countV; rw [h]; simp
theorem countV_yes {n : Nat} (h : n ≤ 6) : countV n = fac n := by unfold countV; rw [inB_mk (by omega)]; simp
theorem fac_bd : ∀ k, k ≤ 6 → 1 ≤ fac k ∧ fac k ≤ 720 := by decide
theorem fac_step {k : Nat} (h : k + 1 ≤ 6) : 1 ≤ fac k ∧ fac k ≤ 720 ∧ fac k * ((k : Int) + 1) = fac (k + 1) ∧ 1 ≤ fac (k + 1) ∧ fac (k + 1) ≤ 720 :=
  ⟨(fac_bd k (by omega)).1, (fac_bd k (by omega)).2, rfl, (fac_bd (k + 1) h).1, (fac_bd (k + 1) h).2⟩
/-- As the model has it: the product of 2 .. k. -/
def fac2 (k : Nat) : Int := fac (k - 1)

end Go.Proofs.Ytaehhlkpbhmdfaa

namespace Go.Proofs.Ytaehhlkpbhmdfaa
open Go.RowKit

def facN : Nat → Nat
  | 0 => 1
  | k + 1 => facN k * (k + 1)
theorem fac_nat : ∀ k, fac k = (facN k : Int)
  | 0 => rfl
  | k + 1 => by unfold fac facN; rw [fac_nat k]; simp
theorem facN_pos : ∀ k, 0 < facN k
  | 0 => by decide
  | k + 1 => Nat.mul_pos (facN_pos k) (by omega)
theorem facN_bd : ∀ k, k ≤ 6 → facN k ≤ 720 := by decide

/-- The row with the number n of d things. -/
def unr {α : Type} : Nat → List α → Nat → List α
  | 0, _, _ => []
  | d + 1, l, n => match l[n / facN d]? with
    | some x => x :: unr d (l.eraseIdx (n / facN d)) (n % facN d)
    | none => []
theorem unr_some {α : Type} {d : Nat} {l : List α} {n : Nat} {x : α} (h : l[n / facN d]? = some x) : unr (d + 1) l n = x :: unr d (l.eraseIdx (n / facN d)) (n % facN d) := by
  show (match l[n / facN d]? with | some x => x :: unr d (l.eraseIdx (n / facN d)) (n % facN d) | none => []) = _
  rw [h]
theorem map_erase {α β : Type} (f : α → β) : ∀ (l : List α) (k : Nat), (l.eraseIdx k).map f = (l.map f).eraseIdx k
  | [], k => by simp
  | a :: l, 0 => by simp
  | a :: l, k + 1 => by simp [map_erase f l k]
theorem unr_map {α β : Type} (f : α → β) : ∀ (d : Nat) (l : List α) (n : Nat), (unr d l n).map f = unr d (l.map f) n
  | 0, _, _ => rfl
  | d + 1, l, n => by
    cases h : l[n / facN d]? with
    | none =>
      have h2 : (l.map f)[n / facN d]? = none := by rw [List.getElem?_map, h]; rfl
      unfold unr
      rw [h, h2]
      rfl
    | some x =>
      have h2 : (l.map f)[n / facN d]? = some (f x) := by rw [List.getElem?_map, h]; rfl
      rw [unr_some h, unr_some h2, List.map_cons, unr_map f d, map_erase]
theorem unr_length {α : Type} : ∀ (d : Nat) (l : List α) (n : Nat), l.length = d → n < facN d → (unr d l n).length = d
  | 0, _, _, _, _ => rfl
  | d + 1, l, n, hl, hn => by
    have hk : n / facN d < d + 1 := by
      rw [Nat.div_lt_iff_lt_mul (facN_pos d), Nat.mul_comm]; exact hn
    have h : l[n / facN d]? = some (l[n / facN d]'(by omega)) := List.getElem?_eq_getElem _
    rw [unr_some h, List.length_cons, unr_length d _ _ (by rw [List.length_eraseIdx_of_lt (by omega)]; omega) (Nat.mod_lt _ (facN_pos d))]
theorem unr_mem {α : Type} : ∀ (d : Nat) (l : List α) (n : Nat) (x : α), x ∈ unr d l n → x ∈ l
  | 0, _, _, _, h => by cases h
  | d + 1, l, n, x, h => by
    cases h2 : l[n / facN d]? with
    | none => unfold unr at h; rw [h2] at h; cases h
    | some y =>
      rw [unr_some h2] at h
      rcases List.mem_cons.1 h with rfl | h
      · exact List.mem_of_getElem? h2
      · exact List.mem_of_mem_eraseIdx (unr_mem d _ _ x h)

/-- Blocks of one length, one behind the other. -/
theorem flat_at {α β : Type} {f : α → List β} {B : Nat} (hB : 0 < B) : ∀ (l : List α), (∀ x ∈ l, (f x).length = B) → ∀ n, (l.flatMap f)[n]? = (l[n / B]?).bind fun x => (f x)[n % B]?
  | [], _, n => by simp
  | x :: l, h, n => by
    have hx := h x (by simp)
    have ih := flat_at hB l (fun y hy => h y (by simp [hy]))
    rw [List.flatMap_cons]
    by_cases hn : n < B
    · rw [List.getElem?_append_left (by omega), Nat.div_eq_of_lt hn, Nat.mod_eq_of_lt hn]
      rfl
    · obtain ⟨m, rfl⟩ : ∃ m, n = m + B := ⟨n - B, by omega⟩
      rw [List.getElem?_append_right (by omega), hx, Nat.add_sub_cancel, ih m, Nat.add_div_right m hB, Nat.add_mod_right]
      rfl
theorem flat_length {α β : Type} {f : α → List β} {B : Nat} : ∀ (l : List α), (∀ x ∈ l, (f x).length = B) → (l.flatMap f).length = l.length * B
  | [], _ => by simp
  | x :: l, h => by
    rw [List.flatMap_cons, List.length_append, h x (by simp), flat_length l (fun y hy => h y (by simp [hy])), List.length_cons, Nat.add_mul]
    omega

/-- The places that are free. -/
def av (c : Nat) (pre : List Nat) : List Nat := (List.range c).filter fun p => decide (p ∉ pre)
theorem av_nil (c : Nat) : av c [] = List.range c := by simp [av]
theorem av_nodup (c : Nat) (pre : List Nat) : (av c pre).Nodup := List.nodup_range.filter _
theorem filter_ne : ∀ (l : List Nat) (k p : Nat), l.Nodup → l[k]? = some p → l.filter (fun x => decide (x ≠ p)) = l.eraseIdx k
  | [], k, p, _, h => by simp at h
  | a :: l, 0, p, hd, h => by
    have e : a = p := by simpa using h
    subst e
    have ha : a ∉ l := (List.nodup_cons.1 hd).1
    rw [List.filter_cons_of_neg (by simp), List.eraseIdx_cons_zero]
    rw [List.filter_eq_self]
    intro x hx
    simp only [decide_eq_true_eq]
    exact fun e => ha (e ▸ hx)
  | a :: l, k + 1, p, hd, h => by
    have h' : l[k]? = some p := by simpa using h
    have hp : p ∈ l := List.mem_of_getElem? h'
    have hne : a ≠ p := fun e => (List.nodup_cons.1 hd).1 (e ▸ hp)
    rw [List.filter_cons_of_pos (by simpa using hne), List.eraseIdx_cons_succ, filter_ne l k p (List.nodup_cons.1 hd).2 h']
theorem av_add (c : Nat) (pre : List Nat) (k p : Nat) (h : (av c pre)[k]? = some p) : av c (pre ++ [p]) = (av c pre).eraseIdx k := by
  rw [← filter_ne _ k p (av_nodup c pre) h]
  unfold av
  rw [List.filter_filter]
  apply List.filter_congr
  intro x _
  by_cases h1 : x ∈ pre <;> by_cases h2 : x = p <;> simp [h1, h2]
theorem av_mem {c : Nat} {pre : List Nat} {p : Nat} (hp : p < c) (hn : p ∉ pre) : ∃ k : Nat, (av c pre)[k]? = some p := by
  have : p ∈ av c pre := by simp [av, hp, hn]
  obtain ⟨k, hk, e⟩ := List.getElem_of_mem this
  exact ⟨k, by rw [List.getElem?_eq_getElem hk, e]⟩
theorem av_len {c : Nat} {pre : List Nat} {p d : Nat} (hp : p < c) (hn : p ∉ pre) (h : (av c pre).length = d + 1) : (av c (pre ++ [p])).length = d := by
  obtain ⟨k, hk⟩ := av_mem hp hn
  rw [av_add c pre k p hk, List.length_eraseIdx_of_lt (List.getElem?_eq_some_iff.1 hk).1, h]
  rfl

/-- All rows that begin so, in their order. -/
def gen (c : Nat) : Nat → List Nat → List (List Nat)
  | 0, pre => [pre]
  | d + 1, pre => (List.range c).flatMap fun p => if p ∈ pre then [] else gen c d (pre ++ [p])
/-- Those with the first q places at the next one. -/
def genTo (c d : Nat) (pre : List Nat) (q : Nat) : List (List Nat) := (List.range q).flatMap fun p => if p ∈ pre then [] else gen c d (pre ++ [p])
theorem genTo_zero (c d : Nat) (pre : List Nat) : genTo c d pre 0 = [] := rfl
theorem genTo_all (c d : Nat) (pre : List Nat) : genTo c d pre c = gen c (d + 1) pre := rfl
theorem genTo_in {c d : Nat} {pre : List Nat} {q : Nat} (h : q ∈ pre) : genTo c d pre (q + 1) = genTo c d pre q := by
  unfold genTo
  rw [List.range_succ, List.flatMap_append]
  simp [h]
theorem genTo_out {c d : Nat} {pre : List Nat} {q : Nat} (h : q ∉ pre) : genTo c d pre (q + 1) = genTo c d pre q ++ gen c d (pre ++ [q]) := by
  unfold genTo
  rw [List.range_succ, List.flatMap_append]
  simp [h]
theorem flat_filter {α β : Type} (P : α → Prop) [DecidablePred P] (f : α → List β) : ∀ l : List α, (l.flatMap fun p => if P p then [] else f p) = (l.filter fun p => decide (¬ P p)).flatMap f
  | [] => rfl
  | x :: l => by
    rw [List.flatMap_cons, flat_filter P f l]
    by_cases h : P x
    · rw [if_pos h, List.filter_cons_of_neg (by simpa using h)]; rfl
    · rw [if_neg h, List.filter_cons_of_pos (by simpa using h), List.flatMap_cons]
theorem gen_all (c : Nat) : ∀ (d : Nat) (pre : List Nat), (av c pre).length = d → (gen c d pre).length = facN d ∧ ∀ n, n < facN d → (gen c d pre)[n]? = some (pre ++ unr d (av c pre) n)
  | 0, pre, _ => ⟨rfl, fun n hn => by
    have : n = 0 := by simpa [facN] using hn
    subst this
    simp [gen, unr]⟩
  | d + 1, pre, h => by
    have e : gen c (d + 1) pre = (av c pre).flatMap fun p => gen c d (pre ++ [p]) := flat_filter (fun p => p ∈ pre) _ _
    have hB : ∀ p ∈ av c pre, (gen c d (pre ++ [p])).length = facN d := fun p hp => by
      have hp' : p < c ∧ p ∉ pre := by simpa [av] using hp
      exact (gen_all c d (pre ++ [p]) (av_len hp'.1 hp'.2 h)).1
    refine ⟨?_, fun n hn => ?_⟩
    · rw [e, flat_length _ hB, h, Nat.mul_comm]; rfl
    · have hk : n / facN d < d + 1 := by rw [Nat.div_lt_iff_lt_mul (facN_pos d), Nat.mul_comm]; exact hn
      obtain ⟨p, hp⟩ : ∃ p, (av c pre)[n / facN d]? = some p := ⟨_, List.getElem?_eq_getElem (by omega)⟩
      have hp' : p < c ∧ p ∉ pre := by simpa [av] using List.mem_of_getElem? hp
      rw [e, flat_at (facN_pos d) _ hB n, hp]
      show (gen c d (pre ++ [p]))[n % facN d]? = _
      rw [(gen_all c d (pre ++ [p]) (av_len hp'.1 hp'.2 h)).2 _ (Nat.mod_lt _ (facN_pos d)), av_add c pre _ p hp, unr_some hp]
      simp
theorem genTo_length_le {c d : Nat} {pre : List Nat} (h : (av c pre).length = d + 1) : ∀ q, q ≤ c → (genTo c d pre q).length ≤ facN (d + 1) := by
  have hall := (gen_all c (d + 1) pre h).1
  have mono : ∀ j q, q + j ≤ c → (genTo c d pre q).length ≤ (genTo c d pre (q + j)).length := by
    intro j
    induction j with
    | zero => intro q _; exact Nat.le_refl _
    | succ j ih =>
      intro q hq
      refine Nat.le_trans (ih q (by omega)) ?_
      rw [show q + (j + 1) = q + j + 1 by omega]
      by_cases hm : q + j ∈ pre
      · rw [genTo_in hm]; exact Nat.le_refl _
      · rw [genTo_out hm, List.length_append]; omega
  intro q hq
  have := mono (c - q) q (by omega)
  rw [show q + (c - q) = c by omega, genTo_all, hall] at this
  exact this

/-- A row with noughts behind it. -/
def padL (pre : List Nat) : List Int := (List.range 6).map fun i => if i < pre.length then ((pre.getD i 0 : Nat) : Int) else 0
theorem padL_length (pre : List Nat) : (padL pre).length = 6 := by simp [padL]
theorem padL_get (pre : List Nat) (i : Nat) (h : i < pre.length) (h6 : i < 6) : (padL pre).getD i 0 = ((pre.getD i 0 : Nat) : Int) := by
  unfold padL
  rw [List.getD_eq_getElem?_getD, List.getElem?_map, List.getElem?_range h6]
  simp only [Option.map_some, Option.getD_some, if_pos h]
theorem padL_set (pre : List Nat) (p : Nat) (x : Int) : ((padL pre).set pre.length x).set pre.length (p : Int) = padL (pre ++ [p]) := by
  rw [List.set_set]
  apply List.ext_getElem
  · simp [padL]
  · intro i h1 h2
    have h6 : i < 6 := by simpa [padL] using h2
    by_cases e : pre.length = i
    · subst e
      simp [padL]
    · simp only [padL, List.getElem_set, List.getElem_map, List.getElem_range, if_neg e]
      by_cases c : i < pre.length
      · rw [if_pos c, if_pos (by simp; omega)]
        simp [List.getD, List.getElem?_append_left c]
      · rw [if_neg c, if_neg (by simp; omega)]
theorem padL_set0 (pre : List Nat) : (padL pre).set pre.length 0 = padL pre := by
  apply List.ext_getElem
  · simp [padL]
  · intro i h1 h2
    by_cases e : pre.length = i
    · subst e
      simp [padL]
    · simp only [List.getElem_set, if_neg e]
theorem pad_has (pre : List Nat) (p : Nat) (x : Int) (h : pre.length < 6) : hasTo ((padL pre).set pre.length x) pre.length (p : Int) = decide (p ∈ pre) := by
  have hg : ∀ j, j < pre.length → ((padL pre).set pre.length x).getD j 0 = ((pre.getD j 0 : Nat) : Int) := fun j hj => by
    rw [← padL_get pre j hj (by omega), List.getD_eq_getElem?_getD, List.getD_eq_getElem?_getD, List.getElem?_set_ne (by omega)]
  by_cases hm : p ∈ pre
  · obtain ⟨j, hj, e⟩ := List.getElem_of_mem hm
    rw [hasTo_yes hj (by rw [hg j hj, List.getD_eq_getElem?_getD, List.getElem?_eq_getElem hj, e]; rfl)]
    simp [hm]
  · rw [hasTo_no (fun j hj => by
      rw [hg j hj, List.getD_eq_getElem?_getD, List.getElem?_eq_getElem hj]
      intro e
      have e' : pre[j] = p := by simp at e; omega
      exact hm (e' ▸ List.getElem_mem hj))]
    simp [hm]
/-- Rows, one behind the other. -/
def flatR (rows : List (List Nat)) : List Int := rows.flatMap padL
theorem flatR_length (rows : List (List Nat)) : (flatR rows).length = rows.length * 6 := flat_length rows (fun x _ => padL_length x)
theorem flatR_append (r s : List (List Nat)) : flatR (r ++ s) = flatR r ++ flatR s := by simp [flatR]
theorem flatR_one (p : List Nat) : flatR [p] = padL p := by simp [flatR]
theorem flatR_at {rows : List (List Nat)} {n j : Nat} {p : List Nat} (h : rows[n]? = some p) (hj : j < 6) : (flatR rows).getD (n * 6 + j) 0 = (padL p).getD j 0 := by
  unfold flatR
  rw [List.getD_eq_getElem?_getD, flat_at (by omega) rows (fun x _ => padL_length x), show (n * 6 + j) / 6 = n by omega, show (n * 6 + j) % 6 = j by omega, h]
  rfl
/-- The row n of c places. -/
def rowN (c n : Nat) : List Nat := unr c (List.range c) n
theorem gen_at {c n : Nat} (hn : n < facN c) : (gen c c [])[n]? = some (rowN c n) := by
  have := (gen_all c c [] (by rw [av_nil]; simp)).2 n hn
  rwa [av_nil, List.nil_append] at this
theorem gen_len (c : Nat) : (gen c c []).length = facN c := (gen_all c c [] (by rw [av_nil]; simp)).1
theorem rowN_length {c n : Nat} (hn : n < facN c) : (rowN c n).length = c := unr_length c _ n (by simp) hn
theorem rowN_lt {c n x : Nat} (h : x ∈ rowN c n) : x < c := by simpa using unr_mem c _ n x h
/-- What stands at a row's places. -/
theorem rowN_of (zs : List Int) (n : Nat) : (rowN zs.length n).map (fun p => zs.getD p 0) = unr zs.length zs n := by
  unfold rowN
  rw [unr_map]
  congr 1
  apply List.ext_getElem
  · simp
  · intro i h1 h2
    simp [List.getD, show i < zs.length by simpa using h2]
/-- What Permuted answers. -/
def permT (zs : List Int) (n : Int) : Bool := inB n 0 (countV zs.length - 1)
def permV (zs : List Int) (n : Int) : List Int := if permT zs n = true then unr zs.length zs n.toNat else []
theorem permT_nat {zs : List Int} {n : Int} (h : permT zs n = true) : ∃ m : Nat, n = m ∧ zs.length ≤ 6 ∧ m < facN zs.length ∧ permV zs n = unr zs.length zs m := by
  have hb := inB_true h
  obtain ⟨m, rfl⟩ := Int.eq_ofNat_of_zero_le hb.1
  by_cases h6 : zs.length ≤ 6
  · rw [countV_yes h6, fac_nat] at hb
    exact ⟨m, rfl, h6, by omega, by unfold permV; rw [if_pos h]; simp⟩
  · rw [countV_no (inB_not (by omega))] at hb
    omega
theorem permV_no {zs : List Int} {n : Int} (h : permT zs n = false) : permV zs n = [] := by unfold permV; rw [h]; simp

end Go.Proofs.Ytaehhlkpbhmdfaa

namespace Go.Proofs.Ytaehhlkpbhmdfaa
open Go.RowKit

/-- How many of 0 .. n - 1 have it. -/
def cnt (P : Nat → Bool) : Nat → Nat
  | 0 => 0
  | n + 1 => cnt P n + if P n = true then 1 else 0
theorem cnt_congr {P Q : Nat → Bool} : ∀ n, (∀ x, x < n → P x = Q x) → cnt P n = cnt Q n
  | 0, _ => rfl
  | n + 1, h => by
    unfold cnt
    rw [cnt_congr n (fun x hx => h x (by omega)), h n (by omega)]
theorem cnt_drop {P Q : Nat → Bool} {b : Nat} : ∀ n, b < n → P b = true → Q b = false → (∀ x, x < n → x ≠ b → Q x = P x) → cnt Q n + 1 = cnt P n
  | 0, hb, _, _, _ => by omega
  | n + 1, hb, hp, hq, h => by
    unfold cnt
    by_cases e : b = n
    · subst e
      rw [cnt_congr (P := Q) (Q := P) b (fun x hx => h x (by omega) (by omega)), hp, hq]
      simp
    · have ih := cnt_drop n (by omega) hp hq (fun x hx hne => h x (by omega) hne)
      rw [h n (by omega) (fun x => e x.symm)]
      omega
theorem cnt_le (P : Nat → Bool) : ∀ n, cnt P n ≤ n
  | 0 => Nat.le_refl _
  | n + 1 => by unfold cnt; have := cnt_le P n; split <;> omega
theorem cnt_none {P : Nat → Bool} : ∀ n, (∀ x, x < n → P x = false) → cnt P n = 0
  | 0, _ => rfl
  | n + 1, h => by unfold cnt; rw [cnt_none n (fun x hx => h x (by omega)), h n (by omega)]; simp
theorem cnt_all {P : Nat → Bool} : ∀ n, (∀ x, x < n → P x = true) → cnt P n = n
  | 0, _ => rfl
  | n + 1, h => by unfold cnt; rw [cnt_all n (fun x hx => h x (by omega)), h n (by omega)]; simp
theorem cnt_one {P : Nat → Bool} {r : Nat} (n : Nat) (h : ∀ x, x < n → P x = true → x = r) : cnt P n ≤ 1 := by
  by_cases hr : r < n
  · cases hp : P r
    · rw [cnt_none n (fun x hx => by
        cases hx' : P x
        · rfl
        · rw [h x hx hx', hp] at hx'; cases hx')]
      omega
    · have := cnt_drop (P := P) (Q := fun _ => false) (b := r) n hr hp rfl (fun x hx hne => by
        cases hx' : P x
        · rfl
        · exact absurd (h x hx hx') hne)
      rw [cnt_none n (fun _ _ => rfl)] at this
      omega
  · rw [cnt_none n (fun x hx => by
      cases hx' : P x
      · rfl
      · exact absurd (h x hx hx') (by omega))]
    omega
theorem cnt_two {P : Nat → Bool} {x y : Nat} (n : Nat) (hx : x < n) (hy : y < n) (hne : x ≠ y) (px : P x = true) (py : P y = true) : 2 ≤ cnt P n := by
  have h1 := cnt_drop (P := P) (Q := fun z => P z && decide (z ≠ x)) (b := x) n hx px (by simp) (fun z _ hz => by simp [hz])
  have h2 := cnt_drop (P := fun z => P z && decide (z ≠ x)) (Q := fun z => P z && decide (z ≠ x) && decide (z ≠ y)) (b := y) n hy (by simp [py]; exact fun e => hne e.symm) (by simp) (fun z _ hz => by simp [hz])
  omega

/-- The groups behind the first k edges. -/
def grp (A B : Nat → Nat) : Nat → Nat → Nat
  | 0, p => p
  | k + 1, p => if grp A B k p = grp A B k (B k) then grp A B k (A k) else grp A B k p
/-- The edge k joins two groups. -/
def joins (A B : Nat → Nat) (k : Nat) : Prop := grp A B k (A k) ≠ grp A B k (B k)
theorem grp_lt {A B : Nat → Nat} {n m : Nat} (hA : ∀ k, k < m → A k < n) : ∀ k, k ≤ m → ∀ p, p < n → grp A B k p < n
  | 0, _, p, hp => hp
  | k + 1, hk, p, hp => by
    unfold grp
    split
    · exact grp_lt hA k (by omega) _ (hA k (by omega))
    · exact grp_lt hA k (by omega) p hp
theorem grp_root {A B : Nat → Nat} : ∀ k p, grp A B k (grp A B k p) = grp A B k p
  | 0, p => rfl
  | k + 1, p => by
    have ih := grp_root (A := A) (B := B) k
    have e : ∀ q, grp A B (k + 1) q = if grp A B k q = grp A B k (B k) then grp A B k (A k) else grp A B k q := fun q => rfl
    rw [e p]
    by_cases h : grp A B k p = grp A B k (B k)
    · rw [if_pos h, e, ih]
      split
      · rfl
      · rfl
    · rw [if_neg h, e, ih, if_neg h]
/-- How many groups there are behind the first k edges. -/
def groups (A B : Nat → Nat) (n k : Nat) : Nat := cnt (fun p => decide (grp A B k p = p)) n
theorem groups_zero (A B : Nat → Nat) (n : Nat) : groups A B n 0 = n := cnt_all n (fun x _ => by simp [grp])
theorem groups_join {A B : Nat → Nat} {n m k : Nat} (hA : ∀ k, k < m → A k < n) (hB : ∀ k, k < m → B k < n) (hk : k < m) (h : joins A B k) : groups A B n (k + 1) + 1 = groups A B n k := by
  have rt := grp_root (A := A) (B := B) k
  have e : ∀ q, grp A B (k + 1) q = if grp A B k q = grp A B k (B k) then grp A B k (A k) else grp A B k q := fun q => rfl
  unfold joins at h
  refine cnt_drop (b := grp A B k (B k)) n (grp_lt hA k (by omega) _ (hB k hk)) (by simp [rt]) ?_ ?_
  · simp only [decide_eq_false_iff_not]
    rw [e, rt, if_pos rfl]
    exact h
  · intro x hx hne
    apply decide_eq_decide.2
    rw [e]
    by_cases hx' : grp A B k x = grp A B k (B k)
    · rw [if_pos hx']
      constructor
      · intro h2
        rw [← h2, rt] at hx'
        exact absurd hx' h
      · intro h2
        rw [h2] at hx'
        exact absurd hx' hne
    · rw [if_neg hx']
theorem groups_keep {A B : Nat → Nat} {n k : Nat} (h : ¬ joins A B k) : groups A B n (k + 1) = groups A B n k := by
  refine cnt_congr n fun x _ => ?_
  have : grp A B (k + 1) x = grp A B k x := by
    unfold joins at h
    have h' : grp A B k (A k) = grp A B k (B k) := Decidable.not_not.1 h
    show (if grp A B k x = grp A B k (B k) then grp A B k (A k) else grp A B k x) = _
    split
    · rename_i e; rw [e, h']
    · rfl
  simp only [this]
theorem groups_all {A B : Nat → Nat} {n m : Nat} (hA : ∀ k, k < m → A k < n) (hB : ∀ k, k < m → B k < n) (h : ∀ k, k < m → joins A B k) : ∀ k, k ≤ m → groups A B n k + k = n
  | 0, _ => by rw [groups_zero]; omega
  | k + 1, hk => by
    have := groups_all hA hB h k (by omega)
    have := groups_join hA hB (show k < m by omega) (h k (by omega))
    omega
theorem groups_ge {A B : Nat → Nat} {n m : Nat} (hA : ∀ k, k < m → A k < n) (hB : ∀ k, k < m → B k < n) : ∀ k, k ≤ m → n ≤ groups A B n k + k
  | 0, _ => by rw [groups_zero]; omega
  | k + 1, hk => by
    have ih := groups_ge hA hB k (by omega)
    by_cases h : joins A B k
    · have := groups_join hA hB (show k < m by omega) h
      omega
    · rw [groups_keep h]; omega
theorem groups_gt {A B : Nat → Nat} {n m j : Nat} (hA : ∀ k, k < m → A k < n) (hB : ∀ k, k < m → B k < n) (hj : ¬ joins A B j) : ∀ k, k ≤ m → j < k → n + 1 ≤ groups A B n k + k
  | 0, _, h => by omega
  | k + 1, hk, hjk => by
    by_cases e : j = k
    · subst e
      have := groups_ge hA hB j (by omega)
      rw [groups_keep hj]; omega
    · have ih := groups_gt hA hB hj k (by omega) (by omega)
      by_cases h : joins A B k
      · have := groups_join hA hB (show k < m by omega) h
        omega
      · rw [groups_keep h]; omega
/-- A set that has both ends of each edge, or none. -/
def shut (A B : Nat → Nat) (m : Nat) (T : Nat → Prop) : Prop := ∀ k, k < m → (T (A k) ↔ T (B k))
theorem shut_grp {A B : Nat → Nat} {m : Nat} {T : Nat → Prop} (h : shut A B m T) : ∀ k, k ≤ m → ∀ p, (T (grp A B k p) ↔ T p)
  | 0, _, p => Iff.rfl
  | k + 1, hk, p => by
    have ih := shut_grp h k (by omega)
    show T (if grp A B k p = grp A B k (B k) then grp A B k (A k) else grp A B k p) ↔ T p
    split
    · rename_i e
      rw [ih (A k), h k (by omega), ← ih (B k), ← e, ih p]
    · exact ih p
theorem grp_same {A B : Nat → Nat} : ∀ m k, k < m → grp A B m (A k) = grp A B m (B k)
  | 0, k, h => by omega
  | m + 1, k, h => by
    have e : ∀ q, grp A B (m + 1) q = if grp A B m q = grp A B m (B m) then grp A B m (A m) else grp A B m q := fun q => rfl
    by_cases hk : k = m
    · subst hk
      rw [e, e, if_pos rfl]
      split <;> rfl
    · rw [e, e, grp_same m k (by omega)]
/-- All edges join: then a shut set with 0 has all places. -/
theorem shut_all {A B : Nat → Nat} {n : Nat} (hn : 0 < n) (hA : ∀ k, k < n - 1 → A k < n) (hB : ∀ k, k < n - 1 → B k < n) (h : ∀ k, k < n - 1 → joins A B k) {T : Nat → Prop} (hT : shut A B (n - 1) T) (h0 : T 0) {p : Nat} (hp : p < n) : T p := by
  have h1 : groups A B n (n - 1) = 1 := by have := groups_all hA hB h (n - 1) (Nat.le_refl _); omega
  have key : grp A B (n - 1) p = grp A B (n - 1) 0 := by
    apply Decidable.byContradiction
    intro hne
    have := cnt_two (P := fun p => decide (grp A B (n - 1) p = p)) n (grp_lt hA (n - 1) (Nat.le_refl _) p hp) (grp_lt hA (n - 1) (Nat.le_refl _) 0 hn) hne (by simp [grp_root]) (by simp [grp_root])
    unfold groups at h1
    omega
  rw [← shut_grp hT (n - 1) (Nat.le_refl _) p, key, shut_grp hT (n - 1) (Nat.le_refl _) 0]
  exact h0
/-- One edge doesn't: then there is a shut set with 0 that has not all places. -/
theorem shut_some {A B : Nat → Nat} {n j : Nat} (hA : ∀ k, k < n - 1 → A k < n) (hB : ∀ k, k < n - 1 → B k < n) (hj : j < n - 1) (h : ¬ joins A B j) :
    ∃ T : Nat → Prop, shut A B (n - 1) T ∧ T 0 ∧ ∃ p, p < n ∧ ¬ T p := by
  refine ⟨fun p => grp A B (n - 1) p = grp A B (n - 1) 0, fun k hk => by show grp A B (n - 1) (A k) = _ ↔ grp A B (n - 1) (B k) = _; rw [grp_same (n - 1) k hk], rfl, ?_⟩
  apply Classical.byContradiction
  intro hno
  have hall : ∀ p, p < n → grp A B (n - 1) p = grp A B (n - 1) 0 := fun p hp => Classical.byContradiction fun x => hno ⟨p, hp, x⟩
  have h2 := groups_gt hA hB h (n - 1) (Nat.le_refl _) hj
  have h1 : groups A B n (n - 1) ≤ 1 := cnt_one (r := grp A B (n - 1) 0) n fun x hx px => by
    simp only [decide_eq_true_eq] at px
    rw [← hall x hx]; exact px.symm
  omega

/-- Unlike numbers below n: no more than n; and n of them only where all are there. -/
theorem nodup_len : ∀ (n : Nat) (l : List Nat), l.Nodup → (∀ x ∈ l, x < n) → l.length ≤ n := by
  intro n
  induction n with
  | zero =>
    intro l _ h
    cases l with
    | nil => simp
    | cons a l => have := h a (by simp); omega
  | succ n ih =>
    intro l hd h
    by_cases hn : n ∈ l
    · have h1 := ih (l.erase n) (hd.erase n) (fun x hx => by
        have := h x (List.mem_of_mem_erase hx)
        have hne : x ≠ n := fun e => by subst e; exact hd.not_mem_erase hx
        omega)
      rw [List.length_erase_of_mem hn] at h1
      omega
    · have := ih l hd (fun x hx => by
        have := h x hx
        have hne : x ≠ n := fun e => hn (e ▸ hx)
        omega)
      omega
theorem nodup_miss {n p : Nat} {l : List Nat} (hd : l.Nodup) (h : ∀ x ∈ l, x < n) (hp : p < n) (hm : p ∉ l) : l.length < n := by
  have := nodup_len n (p :: l) (List.nodup_cons.2 ⟨hm, hd⟩) (by
    intro x hx
    rcases List.mem_cons.1 hx with rfl | hx
    · exact hp
    · exact h x hx)
  rw [List.length_cons] at this
  omega
theorem nodup_full {n : Nat} {l : List Nat} (hd : l.Nodup) (h : ∀ x ∈ l, x < n) (hall : ∀ p, p < n → p ∈ l) : l.length = n := by
  have h1 := nodup_len n l hd h
  apply Nat.le_antisymm h1
  have := (List.nodup_range (n := n)).length_le_of_subset (l₂ := l) (fun x hx => hall x (by simpa using hx))
  simpa using this

/-- The ends of the edge k, as places. -/
def endA (es : List Int) (k : Nat) : Nat := (og3 es k 0).toNat
def endB (es : List Int) (k : Nat) : Nat := (og3 es k 1).toNat
/-- The first k edges are of the n places and join groups. -/
def spanTo (n : Int) (es : List Int) (k : Nat) : Prop := ∀ j, j < k → inB (og3 es j 0) 0 (n - 1) = true ∧ inB (og3 es j 1) 0 (n - 1) = true ∧ grp (endA es) (endB es) j (endA es j) ≠ grp (endA es) (endB es) j (endB es j)
/-- What Spans answers, of m edges. -/
def spanB (n : Int) (es : List Int) (m : Nat) : Bool := decide (1 ≤ n ∧ n ≤ 16 ∧ (m : Int) = n - 1 ∧ ∀ j, j < m → inB (og3 es j 0) 0 (n - 1) = true ∧ inB (og3 es j 1) 0 (n - 1) = true ∧ grp (endA es) (endB es) j (endA es j) ≠ grp (endA es) (endB es) j (endB es j))
theorem spanB_out {n : Int} {es : List Int} {m : Nat} (h : ¬ (1 ≤ n ∧ n ≤ 16 ∧ (m : Int) = n - 1)) : spanB n es m = false := decide_eq_false fun x => h ⟨x.1, x.2.1, x.2.2.1⟩
theorem spanB_bad {n : Int} {es : List Int} {m k : Nat} (hk : k < m) (h : ¬ (inB (og3 es k 0) 0 (n - 1) = true ∧ inB (og3 es k 1) 0 (n - 1) = true ∧ grp (endA es) (endB es) k (endA es k) ≠ grp (endA es) (endB es) k (endB es k))) : spanB n es m = false :=
  decide_eq_false fun x => h (x.2.2.2 k hk)
theorem spanB_yes {n : Int} {es : List Int} {m : Nat} (h1 : 1 ≤ n) (h2 : n ≤ 16) (h3 : (m : Int) = n - 1) (h : spanTo n es m) : spanB n es m = true := by
  unfold spanB
  exact decide_eq_true ⟨h1, h2, h3, h⟩
theorem spanB_true {n : Int} {es : List Int} {m : Nat} (h : spanB n es m = true) : spanTo n es m := by
  unfold spanB at h
  exact (of_decide_eq_true h).2.2.2

end Go.Proofs.Ytaehhlkpbhmdfaa

namespace Go.Proofs.Ytaehhlkpbhmdfaa
open Go.RowKit

/-- One step of closing a matrix of n places. -/
def clo1 (n : Nat) (l : List Int) (k a b : Nat) : List Int := l.set (a * n + b) (min (tm n l a b) (tm n l a k + tm n l k b))
/-- The first m steps. -/
def cloTo (n : Nat) (zs : List Int) : Nat → List Int
  | 0 => zs
  | m + 1 => clo1 n (cloTo n zs m) (m / n / n) (m / n % n) (m % n)
theorem clo_split (n k a b : Nat) (ha : a < n) (hb : b < n) : ((k * n + a) * n + b) / n / n = k ∧ ((k * n + a) * n + b) / n % n = a ∧ ((k * n + a) * n + b) % n = b := by
  obtain ⟨h1, h2⟩ := div_mod_at n (k * n + a) b hb
  obtain ⟨h3, h4⟩ := div_mod_at n k a ha
  exact ⟨by rw [h1, h3], by rw [h1, h4], h2⟩
theorem cloTo_step (n : Nat) (zs : List Int) (k a b : Nat) (ha : a < n) (hb : b < n) :
    cloTo n zs ((k * n + a) * n + (b + 1)) = clo1 n (cloTo n zs ((k * n + a) * n + b)) k a b := by
  obtain ⟨h1, h2, h3⟩ := clo_split n k a b ha hb
  rw [← Nat.add_assoc, cloTo, h1, h2, h3]
theorem clo1_length (n : Nat) (l : List Int) (k a b : Nat) : (clo1 n l k a b).length = l.length := by simp [clo1]
theorem cloTo_length (n : Nat) (zs : List Int) : ∀ m, (cloTo n zs m).length = zs.length
  | 0 => rfl
  | m + 1 => by rw [cloTo, clo1_length, cloTo_length n zs m]
/-- All times are 0 .. 10000. -/
def okL (l : List Int) : Prop := ∀ i, 0 ≤ l.getD i 0 ∧ l.getD i 0 ≤ 10000
theorem okL_set {l : List Int} (h : okL l) {i : Nat} {v : Int} (h0 : 0 ≤ v) (h1 : v ≤ 10000) : okL (l.set i v) := by
  intro j
  have hj := h j
  rw [List.getD_eq_getElem?_getD] at hj ⊢
  rw [List.getElem?_set]
  split
  · split
    · simp; omega
    · simp
  · exact hj
theorem okL_clo1 {n : Nat} {l : List Int} (h : okL l) (k a b : Nat) : okL (clo1 n l k a b) := by
  have h1 := h (a * n + b)
  have h2 := h (a * n + k)
  have h3 := h (k * n + b)
  unfold clo1 tm
  refine okL_set h ?_ ?_
  · omega
  · omega
theorem okL_cloTo {n : Nat} {zs : List Int} (h : okL zs) : ∀ m, okL (cloTo n zs m)
  | 0 => h
  | m + 1 => okL_clo1 (okL_cloTo h m) _ _ _
theorem okL_of_mat {n : Int} {zs : List Int} (h : matB n zs = true) : okL zs := by
  intro i
  by_cases hi : i < zs.length
  · have := (matB_true h).2.2.2 i hi
    exact ⟨this.1, this.2.1⟩
  · rw [List.getD_eq_getElem?_getD, List.getElem?_eq_none (by omega)]; simp
theorem tm_okL {n : Nat} {l : List Int} (h : okL l) (x y : Nat) : 0 ≤ tm n l x y ∧ tm n l x y ≤ 10000 := h _
/-- The closed matrix. -/
def clo (n : Nat) (zs : List Int) : List Int := cloTo n zs (n * n * n)

theorem IntsAt.pre {w : World} {a : Option Addr} {l r : List Int} (h : IntsAt w a (l ++ r)) : IntsAt w a l := by
  intro j hj
  obtain ⟨b, off, e, hc⟩ := h j (by simp; omega)
  refine ⟨b, off, e, ?_⟩
  rw [hc, List.getD_eq_getElem?_getD, List.getElem?_append_left hj, ← List.getD_eq_getElem?_getD]

end Go.Proofs.Ytaehhlkpbhmdfaa
