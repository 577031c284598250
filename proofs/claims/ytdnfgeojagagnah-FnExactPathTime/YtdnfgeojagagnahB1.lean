import Derived.WalkKit
import Derived.WalkSpells
import Derived.Deep.WholeRow
namespace Go.Proofs.Ytdnfgeojagagnah
open Go.RowKit

/-- An operation by its own run. -/
theorem wpList_run {P : Program} {ops : Array Oper} {rest : List Oper} {o : Oper} {a : Act} {w w' : World} {Q : Exit → Act → World → Prop} (v : Value) (hgd : o.guard = none)
    (hrun : (execOp a.eval o).run P w = .ok (.value v) w') (h : wpList P ops Q rest (a.put o.dst v) w') : wpList P ops Q (o :: rest) a w :=
  wpList_plain hgd fun _ hK => by unfold Oper.wp; rw [hrun]; exact hK _ _ h

theorem bcell {W w1 : World} (hb : Below W.heap.size W w1) : (∀ b o, b < W.heap.size → w1.cell? ⟨b, o, none⟩ = W.cell? ⟨b, o, none⟩) ∧ (∀ b o, b < W.heap.size → w1.frozen? ⟨b, o, none⟩ = W.frozen? ⟨b, o, none⟩) :=
  ⟨fun b o h => hb.cell (p := ⟨b, o, none⟩) h, fun b o h => hb.frozen (p := ⟨b, o, none⟩) h⟩

theorem take_snoc (zs : List Int) (k : Nat) (h : k < zs.length) : zs.take (k + 1) = zs.take k ++ [zs.getD k 0] := by
  rw [List.take_succ_eq_append_getElem h]; simp [List.getD, h]
theorem ret_bool {a b : Bool} (h : a = b) : Ending.returned (.bool a) = .returned (.bool b) := by rw [h]
theorem ret_int {k : IntKind} {a b : Int} (h : a = b) : Ending.returned (.int k a) = .returned (.int k b) := by rw [h]

/-- n is lo .. hi. -/
def inB (n lo hi : Int) : Bool := decide (lo ≤ n ∧ n ≤ hi)
theorem inB_mk {n lo hi : Int} (h : lo ≤ n ∧ n ≤ hi) : inB n lo hi = true := decide_eq_true h
theorem inB_not {n lo hi : Int} (h : ¬ (lo ≤ n ∧ n ≤ hi)) : inB n lo hi = false := decide_eq_false h
theorem inB_true {n lo hi : Int} (h : inB n lo hi = true) : lo ≤ n ∧ n ≤ hi := of_decide_eq_true h
theorem inB_false {n lo hi : Int} (h : inB n lo hi = false) : ¬ (lo ≤ n ∧ n ≤ hi) := of_decide_eq_false h

/-- The cells of a row of int64s. -/
def cellsOf (l : List Int) : Array Value := (l.map (Value.int .i64)).toArray

theorem cellsOf_size (l : List Int) : (cellsOf l).size = l.length := by simp [cellsOf]
theorem cellsOf_get (l : List Int) (i : Nat) (h : i < l.length) : (cellsOf l)[i]? = some (.int .i64 (l.getD i 0)) := by
  simp [cellsOf, List.getD, h]
theorem cellsOf_set (l : List Int) (i : Nat) (v : Int) : (cellsOf l).setIfInBounds i (.int .i64 v) = cellsOf (l.set i v) := by
  simp [cellsOf, List.map_set]

theorem cellsOf_one (l : List Int) : (cellsOf l).all (·.oneCell') = true := by
  simp [cellsOf, Value.oneCell']

theorem below_setRow {B : Nat} {a w : World} (h : Below B a w) {g : Nat} (hg : B ≤ g) (cs : Array Value) : Below B a (w.setRow g cs) :=
  h.trans ⟨rfl, rfl, rfl, by simp, fun k hk => setRow_other w g k cs (by omega)⟩

/-- The slice at 'a' holds the numbers zs. -/
def IntsAt (w : World) (a : Option Addr) (zs : List Int) : Prop :=
  ∀ j, j < zs.length → ∃ b off, a = some ⟨b, off, none⟩ ∧ w.cell? ⟨b, off + j, none⟩ = some (.int .i64 (zs.getD j 0))

theorem IntsAt.some {w : World} {a : Option Addr} {zs : List Int} (h : IntsAt w a zs) {j : Nat} (hj : j < zs.length) :
    ∃ b off, a = some ⟨b, off, none⟩ ∧ ∀ j, j < zs.length → w.cell? ⟨b, off + j, none⟩ = .some (.int .i64 (zs.getD j 0)) := by
  obtain ⟨b, off, e, _⟩ := h j hj
  refine ⟨b, off, e, fun k hk => ?_⟩
  obtain ⟨b', off', e', hc⟩ := h k hk
  rw [e] at e'
  simp at e'
  obtain ⟨rfl, rfl⟩ := e'
  exact hc

theorem IntsAt.below {w w' : World} {a : Option Addr} {zs : List Int} (h : IntsAt w a zs) (hb : Below w.heap.size w w') : IntsAt w' a zs := by
  intro j hj
  obtain ⟨b, off, e, hc⟩ := h j hj
  refine ⟨b, off, e, ?_⟩
  have hl := block_lt_of_cell hc
  rw [hb.cell (p := ⟨b, off + j, none⟩) hl]
  exact hc

theorem IntsAt.of_row {w : World} {g : Nat} {zs : List Int} {t : TypeId} (h : w.heap[g]? = .some (.cells (cellsOf zs) t (0, 0))) : IntsAt w (.some ⟨g, 0, none⟩) zs := by
  intro j hj
  refine ⟨g, 0, rfl, ?_⟩
  rw [Nat.zero_add, cell_of_row _ _ _ _ _ _ h, cellsOf_get _ _ hj]

/-- A matrix of n places with these times is right. -/
def matB (n : Int) (zs : List Int) : Bool :=
  decide (1 ≤ n ∧ n ≤ 16 ∧ (zs.length : Int) = n * n ∧ ∀ i, i < zs.length → 0 ≤ zs.getD i 0 ∧ zs.getD i 0 ≤ 10000 ∧ (i / n.toNat = i % n.toNat → zs.getD i 0 = 0))

theorem matB_true {n : Int} {zs : List Int} (h : matB n zs = true) : 1 ≤ n ∧ n ≤ 16 ∧ (zs.length : Int) = n * n ∧ ∀ i, i < zs.length → 0 ≤ zs.getD i 0 ∧ zs.getD i 0 ≤ 10000 ∧ (i / n.toNat = i % n.toNat → zs.getD i 0 = 0) :=
  of_decide_eq_true h
theorem matB_mk {n : Int} {zs : List Int} (h : 1 ≤ n ∧ n ≤ 16 ∧ (zs.length : Int) = n * n ∧ ∀ i, i < zs.length → 0 ≤ zs.getD i 0 ∧ zs.getD i 0 ≤ 10000 ∧ (i / n.toNat = i % n.toNat → zs.getD i 0 = 0)) : matB n zs = true :=
  decide_eq_true h
theorem matB_not {n : Int} {zs : List Int} (h : ¬ (1 ≤ n ∧ n ≤ 16 ∧ (zs.length : Int) = n * n ∧ ∀ i, i < zs.length → 0 ≤ zs.getD i 0 ∧ zs.getD i 0 ≤ 10000 ∧ (i / n.toNat = i % n.toNat → zs.getD i 0 = 0))) : matB n zs = false :=
  decide_eq_false h

/-- The grid of n places, filled up to the place (a, b). -/
def gridTo (n : Nat) (zs : List Int) (a b : Nat) : List Int :=
  (List.range 256).map fun k => if k / 16 < n ∧ k % 16 < n ∧ (k / 16 < a ∨ k / 16 = a ∧ k % 16 < b) then zs.getD (k / 16 * n + k % 16) 0 else 0
theorem gridTo_length (n : Nat) (zs : List Int) (a b : Nat) : (gridTo n zs a b).length = 256 := by simp [gridTo]

theorem gridTo_step (n : Nat) (zs : List Int) (a b : Nat) (ha : a < n) (hb : b < n) (hn : n ≤ 16) :
    (gridTo n zs a b).set (a * 16 + b) (zs.getD (a * n + b) 0) = gridTo n zs a (b + 1) := by
  apply List.ext_getElem
  · simp [gridTo]
  · intro k h1 h2
    have hk : k < 256 := by simpa [gridTo] using h2
    by_cases e : a * 16 + b = k
    · subst e
      have e1 : (a * 16 + b) / 16 = a := by omega
      have e2 : (a * 16 + b) % 16 = b := by omega
      simp only [gridTo, List.getElem_set, List.getElem_map, List.getElem_range, e1, e2, if_true]
      rw [if_pos ⟨ha, hb, Or.inr ⟨trivial, by omega⟩⟩]
    · simp only [gridTo, List.getElem_set, List.getElem_map, List.getElem_range, if_neg e]
      have : ¬ (k / 16 = a ∧ k % 16 = b) := by omega
      by_cases c : k / 16 < n ∧ k % 16 < n ∧ (k / 16 < a ∨ k / 16 = a ∧ k % 16 < b)
      · rw [if_pos c, if_pos ⟨c.1, c.2.1, by omega⟩]
      · rw [if_neg c, if_neg (by omega)]

theorem gridTo_row (n : Nat) (zs : List Int) (a : Nat) : gridTo n zs a n = gridTo n zs (a + 1) 0 := by
  unfold gridTo
  apply List.map_congr_left
  intro k _
  by_cases c : k / 16 < n ∧ k % 16 < n ∧ (k / 16 < a ∨ k / 16 = a ∧ k % 16 < n)
  · rw [if_pos c, if_pos (by omega)]
  · rw [if_neg c, if_neg (by omega)]

def zeros : List Int := (List.range 256).map fun _ => 0
theorem zeros_length : zeros.length = 256 := by simp [zeros]
theorem gridTo_zero (n : Nat) (zs : List Int) : gridTo n zs 0 0 = zeros := by
  unfold gridTo zeros
  apply List.map_congr_left
  intro k _
  rw [if_neg (by omega)]

/-- What gridOf makes of a matrix. -/
def gridRes (n : Int) (zs : List Int) : List Int := if matB n zs = true then gridTo n.toNat zs n.toNat 0 else zeros
theorem gridRes_true {n : Nat} {zs : List Int} (h : matB n zs = true) : gridRes n zs = gridTo n zs n 0 := by
  unfold gridRes; rw [if_pos h]; simp
theorem gridRes_false {n : Int} {zs : List Int} (h : matB n zs = false) : gridRes n zs = zeros := by
  unfold gridRes; rw [h]; simp
theorem gridRes_length (n : Int) (zs : List Int) : (gridRes n zs).length = 256 := by
  unfold gridRes; split
  · exact gridTo_length _ _ _ _
  · exact zeros_length

/-- All times up to the place (a, b) are right. -/
def okTo (n : Nat) (zs : List Int) (a b : Nat) : Prop :=
  ∀ i j, i < n → j < n → (i < a ∨ i = a ∧ j < b) → 0 ≤ zs.getD (i * n + j) 0 ∧ zs.getD (i * n + j) 0 ≤ 10000 ∧ (i = j → zs.getD (i * n + j) 0 = 0)
theorem okTo_zero (n : Nat) (zs : List Int) : okTo n zs 0 0 := by intro i j _ _ h; omega
theorem okTo_step {n : Nat} {zs : List Int} {a b : Nat} (h : okTo n zs a b) (h0 : 0 ≤ zs.getD (a * n + b) 0) (h1 : zs.getD (a * n + b) 0 ≤ 10000) (h2 : a = b → zs.getD (a * n + b) 0 = 0) : okTo n zs a (b + 1) := by
  intro i j hi hj hij
  by_cases e : i = a ∧ j = b
  · obtain ⟨rfl, rfl⟩ := e; exact ⟨h0, h1, h2⟩
  · exact h i j hi hj (by omega)
theorem okTo_row {n : Nat} {zs : List Int} {a : Nat} (h : okTo n zs a n) : okTo n zs (a + 1) 0 := by
  intro i j hi hj hij
  exact h i j hi hj (by omega)
theorem div_mod_at (n i j : Nat) (hj : j < n) : (i * n + j) / n = i ∧ (i * n + j) % n = j := by
  have hn : 0 < n := by omega
  constructor
  · rw [Nat.add_comm, Nat.add_mul_div_right _ _ hn, Nat.div_eq_of_lt hj, Nat.zero_add]
  · rw [Nat.add_comm, Nat.add_mul_mod_self_right, Nat.mod_eq_of_lt hj]
theorem at_div_mod (n k : Nat) (h : k < n * n) : k / n < n ∧ k % n < n ∧ k / n * n + k % n = k := by
  have hn : 0 < n := by rcases Nat.eq_zero_or_pos n with e | e; · subst e; simp at h
                        exact e
  exact ⟨(Nat.div_lt_iff_lt_mul hn).2 h, Nat.mod_lt _ hn, by rw [Nat.mul_comm]; exact Nat.div_add_mod k n⟩
theorem matB_of_okTo (n : Nat) (zs : List Int) (h1 : 1 ≤ n) (h2 : n ≤ 16) (hl : zs.length = n * n) (h : okTo n zs n 0) : matB n zs = true := by
  refine matB_mk ⟨by omega, by omega, by rw [hl]; simp, fun i hi => ?_⟩
  obtain ⟨a, b, c⟩ := at_div_mod n i (by omega)
  have := h (i / n) (i % n) a b (Or.inl a)
  rw [c] at this
  simpa using this
theorem matB_bad (n : Nat) (zs : List Int) (x y : Nat) (hx : x < n) (hy : y < n) (hl : zs.length = n * n) (h : ¬ (0 ≤ zs.getD (x * n + y) 0 ∧ zs.getD (x * n + y) 0 ≤ 10000 ∧ (x = y → zs.getD (x * n + y) 0 = 0))) : matB n zs = false := by
  refine matB_not fun ⟨_, _, _, hh⟩ => h ?_
  obtain ⟨e1, e2⟩ := div_mod_at n x y hy
  have hlt : x * n + y < zs.length := by
    rw [hl]
    have := Nat.mul_le_mul_right n (show x + 1 ≤ n by omega)
    rw [Nat.add_mul] at this
    omega
  have := hh (x * n + y) hlt
  simp only [Int.toNat_natCast, e1, e2] at this
  exact this

end Go.Proofs.Ytdnfgeojagagnah
