import Derived.WalkKit
import Derived.WalkSpells
import Derived.Deep.WholeRow
namespace Go.Proofs.YtenkeinigkahaaaDoor
open Go.RowKit

/-- An operation by its own run. -/
theorem wpList_run {P : Program} {ops : Array Oper} {rest : List Oper} {o : Oper} {a : Act} {w w' : World} {Q : Exit → Act → World → Prop} (v : Value) (hgd : o.guard = none)
    (hrun : (execOp a.eval o).run P w = .ok (.value v) w') (h : wpList P ops Q rest (a.put o.dst v) w') : wpList P ops Q (o :: rest) a w :=
  wpList_plain hgd fun _ hK => by unfold Oper.wp; rw [hrun]; exact hK _ _ h

theorem bcell {W w1 : World} (hb : Below W.heap.size W w1) : (∀ b o, b < W.heap.size → w1.cell? ⟨b, o, none⟩ = W.cell? ⟨b, o, none⟩) ∧ (∀ b o, b < W.heap.size → w1.frozen? ⟨b, o, none⟩ = W.frozen? ⟨b, o, none⟩) :=
  ⟨fun b o h => hb.cell (p := ⟨b, o, none⟩) h, fun b o h => hb.frozen (p := ⟨b, o, none⟩) h⟩

theorem take_snoc (zs : List Int) (k : Nat) (h : k < zs.length) : zs.take (k + 1) = zs.take k ++ [zs.getD k 0] := by
  rw [List.take_succ_eq_append_getElem h]; simp [List.getD, h]

theorem ret_bool {a b : Bool} (h : a = b) : Ending.returned (.bool a) = .returned (.bool b) := by rw [h]

theorem ret_int {k : IntKind} {a b : Int} (h : a = b) : Ending.returned (.int k a) = .returned (.int k b) := by rw [h]

/-- n is lo .. hi. -/
def inB (n lo hi : Int) : Bool := decide (lo ≤ n ∧ n ≤ hi)

theorem inB_mk {n lo hi : Int} (h : lo ≤ n ∧ n ≤ hi) : inB n lo hi = true := decide_eq_true h

theorem inB_not {n lo hi : Int} (h : ¬ (lo ≤ n ∧ n ≤ hi)) : inB n lo hi = false := decide_eq_false h

theorem inB_true {n lo hi : Int} (h : inB n lo hi = true) : lo ≤ n ∧ n ≤ hi := of_decide_eq_true h

theorem inB_false {n lo hi : Int} (h : inB n lo hi = false) : ¬ (lo ≤ n ∧ n ≤ hi) := of_decide_eq_false h

/-- The cells of a row of int64s. -/
def cellsOf (l : List Int) : Array Value := (l.map (Value.int .i64)).toArray

theorem cellsOf_size (l : List Int) : (cellsOf l).size = l.length := by simp [cellsOf]

theorem cellsOf_get (l : List Int) (i : Nat) (h : i < l.length) : (cellsOf l)[i]? = some (.int .i64 (l.getD i 0)) := by
  simp [cellsOf, List.getD, h]

theorem cellsOf_set (l : List Int) (i : Nat) (v : Int) : (cellsOf l).setIfInBounds i (.int .i64 v) = cellsOf (l.set i v) := by
  simp [cellsOf, List.map_set]

theorem cellsOf_one (l : List Int) : (cellsOf l).all (·.oneCell') = true := by
  simp [cellsOf, Value.oneCell']

theorem below_setRow {B : Nat} {a w : World} (h : Below B a w) {g : Nat} (hg : B ≤ g) (cs : Array Value) : Below B a (w.setRow g cs) :=
  h.trans ⟨rfl, rfl, rfl, by simp, fun k hk => setRow_other w g k cs (by omega)⟩

/-- The slice at 'a' holds the numbers zs. -/
def IntsAt (w : World) (a : Option Addr) (zs : List Int) : Prop :=
  ∀ j, j < zs.length → ∃ b off, a = some ⟨b, off, none⟩ ∧ w.cell? ⟨b, off + j, none⟩ = some (.int .i64 (zs.getD j 0))

theorem IntsAt.some {w : World} {a : Option Addr} {zs : List Int} (h : IntsAt w a zs) {j : Nat} (hj : j < zs.length) :
    ∃ b off, a = some ⟨b, off, none⟩ ∧ ∀ j, j < zs.length → w.cell? ⟨b, off + j, none⟩ = .some (.int .i64 (zs.getD j 0)) := by
  obtain ⟨b, off, e, _⟩ := h j hj
  refine ⟨b, off, e, fun k hk => ?_⟩
  obtain ⟨b', off', e', hc⟩ := h k hk
  rw [e] at e'
  simp at e'
  obtain ⟨rfl, rfl⟩ := e'
  exact hc

theorem IntsAt.below {w w' : World} {a : Option Addr} {zs : List Int} (h : IntsAt w a zs) (hb : Below w.heap.size w w') : IntsAt w' a zs := by
  intro j hj
  obtain ⟨b, off, e, hc⟩ := h j hj
  refine ⟨b, off, e, ?_⟩
  have hl := block_lt_of_cell hc
  rw [hb.cell (p := ⟨b, off + j, none⟩) hl]
  exact hc

theorem IntsAt.of_row {w : World} {g : Nat} {zs : List Int} {t : TypeId} (h : w.heap[g]? = .some (.cells (cellsOf zs) t (0, 0))) : IntsAt w (.some ⟨g, 0, none⟩) zs := by
  intro j hj
  refine ⟨g, 0, rfl, ?_⟩
  rw [Nat.zero_add, cell_of_row _ _ _ _ _ _ h, cellsOf_get _ _ hj]

/-- A matrix of n places with these times is right. -/
def matB (n : Int) (zs : List Int) : Bool :=
  decide (1 ≤ n ∧ n ≤ 16 ∧ (zs.length : Int) = n * n ∧ ∀ i, i < zs.length → 0 ≤ zs.getD i 0 ∧ zs.getD i 0 ≤ 10000 ∧ (i / n.toNat = i % n.toNat → zs.getD i 0 = 0))

theorem matB_true {n : Int} {zs : List Int} (h : matB n zs = true) : 1 ≤ n ∧ n ≤ 16 ∧ (zs.length : Int) = n * n ∧ ∀ i, i < zs.length → 0 ≤ zs.getD i 0 ∧ zs.getD i 0 ≤ 10000 ∧ (i / n.toNat = i % n.toNat → zs.getD i 0 = 0) :=
  of_decide_eq_true h

theorem matB_mk {n : Int} {zs : List Int} (h : 1 ≤ n ∧ n ≤ 16 ∧ (zs.length : Int) = n * n ∧ ∀ i, i < zs.length → 0 ≤ zs.getD i 0 ∧ zs.getD i 0 ≤ 10000 ∧ (i / n.toNat = i % n.toNat → zs.getD i 0 = 0)) : matB n zs = true :=
  decide_eq_true h

theorem matB_not {n : Int} {zs : List Int} (h : ¬ (1 ≤ n ∧ n ≤ 16 ∧ (zs.length : Int) = n * n ∧ ∀ i, i < zs.length → 0 ≤ zs.getD i 0 ∧ zs.getD i 0 ≤ 10000 ∧ (i / n.toNat = i % n.toNat → zs.getD i 0 = 0))) : matB n zs = false :=
  decide_eq_false h

/-- The grid of n places, filled up to the place (a, b). -/
def gridTo (n : Nat) (zs : List Int) (a b : Nat) : List Int :=
  (List.range 256).map fun k => if k / 16 < n ∧ k % 16 < n ∧ (k / 16 < a ∨ k / 16 = a ∧ k % 16 < b) then zs.getD (k / 16 * n + k % 16) 0 else 0

theorem gridTo_length (n : Nat) (zs : List Int) (a b : Nat) : (gridTo n zs a b).length = 256 := by simp [gridTo]

theorem gridTo_step (n : Nat) (zs : List Int) (a b : Nat) (ha : a < n) (hb : b < n) (hn : n ≤ 16) :
    (gridTo n zs a b).set (a * 16 + b) (zs.getD (a * n + b) 0) = gridTo n zs a (b + 1) := by
  apply List.ext_getElem
  · simp [gridTo]
  · intro k h1 h2
    have hk : k < 256 := by simpa [gridTo] using h2
    by_cases e : a * 16 + b = k
    · subst e
      have e1 : (a * 16 + b) / 16 = a := by omega
      have e2 : (a * 16 + b) % 16 = b := by omega
      simp only [gridTo, List.getElem_set, List.getElem_map, List.getElem_range, e1, e2, if_true]
      rw [if_pos ⟨ha, hb, Or.inr ⟨trivial, by omega⟩⟩]
    · simp only [gridTo, List.getElem_set, List.getElem_map, List.getElem_range, if_neg e]
      have : ¬ (k / 16 = a ∧ k % 16 = b) := by omega
      by_cases c : k / 16 < n ∧ k % 16 < n ∧ (k / 16 < a ∨ k / 16 = a ∧ k % 16 < b)
      · rw [if_pos c, if_pos ⟨c.1, c.2.1, by omega⟩]
      · rw [if_neg c, if_neg (by omega)]

theorem gridTo_row (n : Nat) (zs : List Int) (a : Nat) : gridTo n zs a n = gridTo n zs (a + 1) 0 := by
  unfold gridTo
  apply List.map_congr_left
  intro k _
  by_cases c : k / 16 < n ∧ k % 16 < n ∧ (k / 16 < a ∨ k / 16 = a ∧ k % 16 < n)
  · rw [if_pos c, if_pos (by omega)]
  · rw [if_neg c, if_neg (by omega)]

def zeros : List Int := (List.range 256).map fun _ => 0

theorem zeros_length : zeros.length = 256 := by simp [zeros]

theorem gridTo_zero (n : Nat) (zs : List Int) : gridTo n zs 0 0 = zeros := by
  unfold gridTo zeros
  apply List.map_congr_left
  intro k _
  rw [if_neg (by omega)]

/-- What gridOf makes of a matrix. -/
def gridRes (n : Int) (zs : List Int) : List Int := if matB n zs = true then gridTo n.toNat zs n.toNat 0 else zeros

theorem gridRes_true {n : Nat} {zs : List Int} (h : matB n zs = true) : gridRes n zs = gridTo n zs n 0 := by
  unfold gridRes; rw [if_pos h]; simp

theorem gridRes_false {n : Int} {zs : List Int} (h : matB n zs = false) : gridRes n zs = zeros := by
  unfold gridRes; rw [h]; simp

theorem gridRes_length (n : Int) (zs : List Int) : (gridRes n zs).length = 256 := by
  unfold gridRes; split
  · exact gridTo_length _ _ _ _
  · exact zeros_length

/-- All times up to the place (a, b) are right. -/
def okTo (n : Nat) (zs : List Int) (a b : Nat) : Prop :=
  ∀ i j, i < n → j < n → (i < a ∨ i = a ∧ j < b) → 0 ≤ zs.getD (i * n + j) 0 ∧ zs.getD (i * n + j) 0 ≤ 10000 ∧ (i = j → zs.getD (i * n + j) 0 = 0)

theorem okTo_zero (n : Nat) (zs : List Int) : okTo n zs 0 0 := by intro i j _ _ h; omega

theorem okTo_step {n : Nat} {zs : List Int} {a b : Nat} (h : okTo n zs a b) (h0 : 0 ≤ zs.getD (a * n + b) 0) (h1 : zs.getD (a * n + b) 0 ≤ 10000) (h2 : a = b → zs.getD (a * n + b) 0 = 0) : okTo n zs a (b + 1) := by
  intro i j hi hj hij
  by_cases e : i = a ∧ j = b
  · obtain ⟨rfl, rfl⟩ := e; exact ⟨h0, h1, h2⟩
  · exact h i j hi hj (by omega)

theorem okTo_row {n : Nat} {zs : List Int} {a : Nat} (h : okTo n zs a n) : okTo n zs (a + 1) 0 := by
  intro i j hi hj hij
  exact h i j hi hj (by omega)

theorem div_mod_at (n i j : Nat) (hj : j < n) : (i * n + j) / n = i ∧ (i * n + j) % n = j := by
  have hn : 0 < n := by omega
  constructor
  · rw [Nat.add_comm, Nat.add_mul_div_right _ _ hn, Nat.div_eq_of_lt hj, Nat.zero_add]
  · rw [Nat.add_comm, Nat.add_mul_mod_self_right, Nat.mod_eq_of_lt hj]

theorem at_div_mod (n k : Nat) (h : k < n * n) : k / n < n ∧ k % n < n ∧ k / n * n + k % n = k := by
  have hn : 0 < n := by rcases Nat.eq_zero_or_pos n with e | e; · subst e; simp at h
                        exact e
  exact ⟨(Nat.div_lt_iff_lt_mul hn).2 h, Nat.mod_lt _ hn, by rw [Nat.mul_comm]; exact Nat.div_add_mod k n⟩

theorem matB_of_okTo (n : Nat) (zs : List Int) (h1 : 1 ≤ n) (h2 : n ≤ 16) (hl : zs.length = n * n) (h : okTo n zs n 0) : matB n zs = true := by
  refine matB_mk ⟨by omega, by omega, by rw [hl]; simp, fun i hi => ?_⟩
  obtain ⟨a, b, c⟩ := at_div_mod n i (by omega)
  have := h (i / n) (i % n) a b (Or.inl a)
  rw [c] at this
  simpa using this

theorem matB_bad (n : Nat) (zs : List Int) (x y : Nat) (hx : x < n) (hy : y < n) (hl : zs.length = n * n) (h : ¬ (0 ≤ zs.getD (x * n + y) 0 ∧ zs.getD (x * n + y) 0 ≤ 10000 ∧ (x = y → zs.getD (x * n + y) 0 = 0))) : matB n zs = false := by
  refine matB_not fun ⟨_, _, _, hh⟩ => h ?_
  obtain ⟨e1, e2⟩ := div_mod_at n x y hy
  have hlt : x * n + y < zs.length := by
    rw [hl]
    have := Nat.mul_le_mul_right n (show x + 1 ≤ n by omega)
    rw [Nat.add_mul] at this
    omega
  have := hh (x * n + y) hlt
  simp only [Int.toNat_natCast, e1, e2] at this
  exact this

theorem mul_bd (a n : Nat) (h1 : a ≤ 16) (h2 : n ≤ 16) : a * n ≤ 256 := Nat.mul_le_mul h1 h2

theorem matB_all (n : Nat) (zs : List Int) (h1 : 1 ≤ n) (h2 : n ≤ 16) (hl : zs.length = n * n) (h : ∀ i, i < n * n → 0 ≤ zs.getD i 0 ∧ zs.getD i 0 ≤ 10000 ∧ (i / n = i % n → zs.getD i 0 = 0)) : matB n zs = true :=
  matB_mk ⟨by omega, by omega, by rw [hl]; simp, fun i hi => by rw [Int.toNat_natCast]; exact h i (by omega)⟩

theorem matB_at (n : Nat) (zs : List Int) (hl : zs.length = n * n) (k : Nat) (hk : k < n * n) (h : ¬ (0 ≤ zs.getD k 0 ∧ zs.getD k 0 ≤ 10000 ∧ (k / n = k % n → zs.getD k 0 = 0))) : matB n zs = false :=
  matB_not fun ⟨_, _, _, hh⟩ => h (by have := hh k (by omega); rwa [Int.toNat_natCast] at this)

theorem below_row {B : Nat} {W w1 : World} (hb : Below B W w1) {k : Nat} {o : Obj} (hk : k < B) (h : W.heap[k]? = some o) : w1.heap[k]? = some o := by
  rw [hb.block k hk]; exact h

theorem row_lt {W : World} {k : Nat} {o : Obj} (h : W.heap[k]? = some o) : k < W.heap.size := by
  by_cases hlt : k < W.heap.size
  · exact hlt
  · have hn : W.heap[k]? = none := by simp; omega
    rw [hn] at h; cases h

/-- Behind a call, what is known of a box of two cells that was made ahead of it. -/
theorem box2 {w w1 : World} {c0 c1 : Value} {T : TypeId} (hb : Below (w.alloc (.cells #[c0, c1] T)).heap.size (w.alloc (.cells #[c0, c1] T)) w1) :
    Below w.heap.size w w1 ∧ w1.heap[w.heap.size]? = some (.cells #[c0, c1] T (0, 0)) ∧ w1.cell? ⟨w.heap.size, 0, none⟩ = some c0 ∧ w1.cell? ⟨w.heap.size, 1, none⟩ = some c1 := by
  have r : w1.heap[w.heap.size]? = some (.cells #[c0, c1] T (0, 0)) := below_row hb (by simp) (heap_alloc_new _ _)
  refine ⟨((Below.refl _ _).alloc (Nat.le_refl _) _).trans (hb.mono (by simp)), r, ?_, ?_⟩
  · rw [cell_of_row _ _ 0 _ _ _ r]; simp
  · rw [cell_of_row _ _ 1 _ _ _ r]; simp

/-- And behind a further call. -/
theorem box2_more {w w1 w2 : World} {k : Nat} {c0 c1 : Value} {T : TypeId} (hb : Below w1.heap.size w1 w2) (hB : Below w.heap.size w w1) (hr : w1.heap[k]? = some (.cells #[c0, c1] T (0, 0))) :
    Below w.heap.size w w2 ∧ w2.heap[k]? = some (.cells #[c0, c1] T (0, 0)) ∧ w2.cell? ⟨k, 0, none⟩ = some c0 ∧ w2.cell? ⟨k, 1, none⟩ = some c1 := by
  have r : w2.heap[k]? = some (.cells #[c0, c1] T (0, 0)) := below_row hb (row_lt hr) hr
  refine ⟨hB.trans (hb.mono hB.size), r, ?_, ?_⟩
  · rw [cell_of_row _ _ 0 _ _ _ r]; simp
  · rw [cell_of_row _ _ 1 _ _ _ r]; simp

/-- What TimeOf answers. -/
def timeV (n : Int) (zs : List Int) (x y : Int) : Int :=
  if matB n zs = true ∧ inB x 0 (n - 1) = true ∧ inB y 0 (n - 1) = true then zs.getD (x.toNat * n.toNat + y.toNat) 0 else -1

theorem timeV_no {n : Int} {zs : List Int} {x y : Int} (h : ¬ (matB n zs = true ∧ inB x 0 (n - 1) = true ∧ inB y 0 (n - 1) = true)) : timeV n zs x y = -1 := by
  unfold timeV; rw [if_neg h]

theorem timeV_at {n x y : Nat} {zs : List Int} (h : matB n zs = true) (hx : x < n) (hy : y < n) : timeV n zs x y = zs.getD (x * n + y) 0 := by
  unfold timeV; rw [if_pos ⟨h, inB_mk (by omega), inB_mk (by omega)⟩]; simp

theorem gridTo_get (n : Nat) (zs : List Int) (x y : Nat) (hx : x < n) (hy : y < n) (hn : n ≤ 16) : (gridTo n zs n 0).getD (x * 16 + y) 0 = zs.getD (x * n + y) 0 := by
  have e1 : (x * 16 + y) / 16 = x := by omega
  have e2 : (x * 16 + y) % 16 = y := by omega
  have hk : x * 16 + y < 256 := by omega
  unfold gridTo
  rw [List.getD_eq_getElem?_getD, List.getElem?_map, List.getElem?_range hk]
  simp only [Option.map_some, Option.getD_some, e1, e2]
  rw [if_pos ⟨hx, hy, Or.inl hx⟩]

theorem grid_cell {W : World} {g n x y : Nat} {zs : List Int} {T : TypeId} (hg : W.heap[g]? = some (.cells (cellsOf (gridRes n zs)) T (0, 0))) (hm : matB n zs = true) (hx : x < n) (hy : y < n) (hn : n ≤ 16) :
    W.cell? ⟨g, x * 16 + y, none⟩ = some (.int .i64 (zs.getD (x * n + y) 0)) := by
  rw [cell_of_row _ _ _ _ _ _ hg, cellsOf_get _ _ (by rw [gridRes_length]; omega), gridRes_true hm, gridTo_get n zs x y hx hy hn]

/-- The times of the first k places of a path. -/
def pathTo (n : Nat) (zs ps : List Int) : Nat → Int
  | 0 => 0
  | k + 1 => pathTo n zs ps k + if k = 0 then 0 else zs.getD ((ps.getD (k - 1) 0).toNat * n + (ps.getD k 0).toNat) 0

def placesTo (n : Int) (ps : List Int) (k : Nat) : Prop := ∀ j, j < k → inB (ps.getD j 0) 0 (n - 1) = true

/-- What PathTime answers. -/
def pathV (n : Int) (zs ps : List Int) : Int :=
  if matB n zs = true ∧ ps.length ≤ 100 ∧ (∀ j, j < ps.length → inB (ps.getD j 0) 0 (n - 1) = true) then pathTo n.toNat zs ps ps.length else -1

theorem pathV_no {n : Int} {zs ps : List Int} (h : ¬ (matB n zs = true ∧ ps.length ≤ 100 ∧ (∀ j, j < ps.length → inB (ps.getD j 0) 0 (n - 1) = true))) : pathV n zs ps = -1 := by
  unfold pathV; rw [if_neg h]

theorem pathV_yes {n : Nat} {zs ps : List Int} (h1 : matB n zs = true) (h2 : ps.length ≤ 100) (h3 : placesTo n ps ps.length) : pathV n zs ps = pathTo n zs ps ps.length := by
  unfold pathV; rw [if_pos ⟨h1, h2, h3⟩]; simp

theorem mat_cell_bd {n : Nat} {zs : List Int} (hm : matB n zs = true) (x y : Nat) (hx : x < n) (hy : y < n) : 0 ≤ zs.getD (x * n + y) 0 ∧ zs.getD (x * n + y) 0 ≤ 10000 := by
  obtain ⟨h1, h2, hl, h⟩ := matB_true hm
  have hl' : zs.length = n * n := by rw [← Int.natCast_mul] at hl; omega
  have hxy : x * n + y < n * n := by
    have := Nat.mul_le_mul_right n (show x + 1 ≤ n by omega)
    rw [Nat.add_mul] at this
    omega
  have := h (x * n + y) (by omega)
  exact ⟨this.1, this.2.1⟩

theorem place_nat {n : Nat} {p : Int} (h : inB p 0 (n - 1) = true) : p = (p.toNat : Int) ∧ p.toNat < n := by
  have := inB_true h
  omega

theorem pathTo_bd {n : Nat} {zs ps : List Int} (hm : matB n zs = true) : ∀ k, placesTo n ps k → 0 ≤ pathTo n zs ps k ∧ pathTo n zs ps k ≤ 10000 * k
  | 0, _ => by simp [pathTo]
  | k + 1, h => by
    have ih := pathTo_bd (n := n) (zs := zs) (ps := ps) hm k (fun j hj => h j (by omega))
    unfold pathTo
    by_cases hk : k = 0
    · rw [if_pos hk]; omega
    · rw [if_neg hk]
      have p1 := place_nat (h (k - 1) (by omega))
      have p2 := place_nat (h k (by omega))
      have := mat_cell_bd hm _ _ p1.2 p2.2
      omega

theorem made_zero (n : Nat) : madeCells (Value.int .i64 0).cells (n * 1) = cellsOf (List.replicate n 0) := by
  apply Array.ext
  · simp [madeCells, cellsOf]
  · intro i h1 h2
    simp [madeCells, cellsOf, Value.cells, Nat.mod_one]

theorem copy_step (zs : List Int) (k : Nat) (h : k < zs.length) :
    (zs.take k ++ List.replicate (zs.length - k) 0).set k (zs.getD k 0) = zs.take (k + 1) ++ List.replicate (zs.length - (k + 1)) 0 := by
  have e : zs.length - k = (zs.length - (k + 1)) + 1 := by omega
  rw [e, List.replicate_succ, List.set_append_right _ _ (by simp; omega)]
  have hl : (zs.take k).length = k := by simp; omega
  have e2 : zs.getD k 0 = zs[k] := by simp [List.getD, h]
  rw [hl, Nat.sub_self, List.set_cons_zero, List.take_succ_eq_append_getElem h, e2, List.append_assoc]
  rfl

theorem ret_grid_eq {a b : List Int} {p q : Bool} (h : a = b) (k : p = q) : Ending.returned (.tuple #[.agg (cellsOf a), .bool p]) = Ending.returned (.tuple #[.agg (cellsOf b), .bool q]) := by rw [h, k]

/-- The time from x to y. -/
def tm (n : Nat) (zs : List Int) (x y : Nat) : Int := zs.getD (x * n + y) 0
theorem tm_def (n : Nat) (zs : List Int) (x y : Nat) : zs.getD (x * n + y) 0 = tm n zs x y := rfl
theorem tm_bd {n : Nat} {zs : List Int} (hm : matB n zs = true) (x y : Nat) (hx : x < n) (hy : y < n) : 0 ≤ tm n zs x y ∧ tm n zs x y ≤ 10000 := mat_cell_bd hm x y hx hy

end Go.Proofs.YtenkeinigkahaaaDoor
