import Derived.WalkKit
import Derived.WalkSpells
import Derived.Deep.WholeRow
namespace Go.Proofs.YtmehgihjpefpmaaGreat
open Go.RowKit
theorem nmd {α : Sort _} (x : α) : ∃ v, Hid (x = v) := ⟨x, rfl⟩
theorem wpList_run {P : Program} {ops : Array Oper} {rest : List Oper} {o : Oper} {a : Act} {w w' : World} {Q : Exit -> Act -> World -> Prop} (v : Value) (hgd : o.guard = none)
 (hrun : (execOp a.eval o).run P w = .ok (.value v) w') (h : wpList P ops Q rest (a.put o.dst v) w') : wpList P ops Q (o :: rest) a w :=
 wpList_plain hgd fun _ hK => by unfold Oper.wp; rw [hrun]; exact hK _ _ h
theorem take_snoc (zs : List Int) (k : Nat) (h : k < zs.length) : zs.take (k + 1) = zs.take k ++ [zs.getD k 0] := by
 rw [List.take_succ_eq_append_getElem h]; simp [List.getD, h]
theorem ret_bool {a b : Bool} (h : a = b) : Ending.returned (.bool a) = .returned (.bool b) := by rw [h]
theorem ret_int {k : IntKind} {a b : Int} (h : a = b) : Ending.returned (.int k a) = .returned (.int k b) := by rw [h]
def inB (n lo hi : Int) : Bool := decide (lo <= n /\ n <= hi)
theorem inB_mk {n lo hi : Int} (h : lo <= n /\ n <= hi) : inB n lo hi = true := decide_eq_true h
theorem inB_not {n lo hi : Int} (h : ¬ (lo <= n /\ n <= hi)) : inB n lo hi = false := decide_eq_false h
theorem inB_true {n lo hi : Int} (h : inB n lo hi = true) : lo <= n /\ n <= hi := of_decide_eq_true h
def cellsOf (l : List Int) : Array Value := (l.map (Value.int .i64)).toArray
theorem cellsOf_size (l : List Int) : (cellsOf l).size = l.length := by simp [cellsOf]
theorem cellsOf_get (l : List Int) (i : Nat) (h : i < l.length) : (cellsOf l)[i]? = some (.int .i64 (l.getD i 0)) := by
 simp [cellsOf, List.getD, h]
theorem cellsOf_set (l : List Int) (i : Nat) (v : Int) : (cellsOf l).setIfInBounds i (.int .i64 v) = cellsOf (l.set i v) := by
 simp [cellsOf, List.map_set]
theorem cellsOf_one (l : List Int) : (cellsOf l).all (·.oneCell') = true := by
 simp [cellsOf, Value.oneCell']
theorem below_setRow {B : Nat} {a w : World} (h : Below B a w) {g : Nat} (hg : B <= g) (cs : Array Value) : Below B a (w.setRow g cs) :=
 h.trans ⟨rfl, rfl, rfl, by simp, fun k hk => setRow_other w g k cs (by omega)⟩
def IntsAt (w : World) (a : Option Addr) (zs : List Int) : Prop :=
 ∀ j, j < zs.length -> ∃ b off, a = some ⟨b, off, none⟩ /\ w.cell? ⟨b, off + j, none⟩ = some (.int .i64 (zs.getD j 0))
theorem IntsAt.some {w : World} {a : Option Addr} {zs : List Int} (h : IntsAt w a zs) {j : Nat} (hj : j < zs.length) :
 ∃ b off, a = some ⟨b, off, none⟩ /\ ∀ j, j < zs.length -> w.cell? ⟨b, off + j, none⟩ = .some (.int .i64 (zs.getD j 0)) := by
 obtain ⟨b, off, e, _⟩ := h j hj
 refine ⟨b, off, e, fun k hk => ?_⟩
 obtain ⟨b', off', e', hc⟩ := h k hk
 rw [e] at e'
 simp at e'
 obtain ⟨rfl, rfl⟩ := e'
 exact hc
theorem IntsAt.below {w w' : World} {a : Option Addr} {zs : List Int} (h : IntsAt w a zs) (hb : Below w.heap.size w w') : IntsAt w' a zs := by
 intro j hj
 obtain ⟨b, off, e, hc⟩ := h j hj
 refine ⟨b, off, e, ?_⟩
 have hl := block_lt_of_cell hc
 rw [hb.cell (p := ⟨b, off + j, none⟩) hl]
 exact hc
theorem IntsAt.of_row {w : World} {g : Nat} {zs : List Int} {t : TypeId} (h : w.heap[g]? = .some (.cells (cellsOf zs) t (0, 0))) : IntsAt w (.some ⟨g, 0, none⟩) zs := by
 intro j hj
 refine ⟨g, 0, rfl, ?_⟩
 rw [Nat.zero_add, cell_of_row _ _ _ _ _ _ h, cellsOf_get _ _ hj]
def matB (n : Int) (zs : List Int) : Bool :=
 decide (1 <= n /\ n <= 16 /\ (zs.length : Int) = n * n /\ ∀ i, i < zs.length -> 0 <= zs.getD i 0 /\ zs.getD i 0 <= 10000 /\ (i / n.toNat = i % n.toNat -> zs.getD i 0 = 0))
theorem matB_true {n : Int} {zs : List Int} (h : matB n zs = true) : 1 <= n /\ n <= 16 /\ (zs.length : Int) = n * n /\ ∀ i, i < zs.length -> 0 <= zs.getD i 0 /\ zs.getD i 0 <= 10000 /\ (i / n.toNat = i % n.toNat -> zs.getD i 0 = 0) :=
 of_decide_eq_true h
theorem matB_mk {n : Int} {zs : List Int} (h : 1 <= n /\ n <= 16 /\ (zs.length : Int) = n * n /\ ∀ i, i < zs.length -> 0 <= zs.getD i 0 /\ zs.getD i 0 <= 10000 /\ (i / n.toNat = i % n.toNat -> zs.getD i 0 = 0)) : matB n zs = true :=
 decide_eq_true h
theorem matB_not {n : Int} {zs : List Int} (h : ¬ (1 <= n /\ n <= 16 /\ (zs.length : Int) = n * n /\ ∀ i, i < zs.length -> 0 <= zs.getD i 0 /\ zs.getD i 0 <= 10000 /\ (i / n.toNat = i % n.toNat -> zs.getD i 0 = 0))) : matB n zs = false :=
 decide_eq_false h
def gridTo (n : Nat) (zs : List Int) (a b : Nat) : List Int :=
 (List.range 256).map fun k => if k / 16 < n /\ k % 16 < n /\ (k / 16 < a ∨ k / 16 = a /\ k % 16 < b) then zs.getD (k / 16 * n + k % 16) 0 else 0
theorem gridTo_length (n : Nat) (zs : List Int) (a b : Nat) : (gridTo n zs a b).length = 256 := by simp [gridTo]
theorem gridTo_step (n : Nat) (zs : List Int) (a b : Nat) (ha : a < n) (hb : b < n) (hn : n <= 16) :
 (gridTo n zs a b).set (a * 16 + b) (zs.getD (a * n + b) 0) = gridTo n zs a (b + 1) := by
 apply List.ext_getElem
 · simp [gridTo]
 · intro k h1 h2
   have hk := by simpa [gridTo] using h2
   by_cases e : a * 16 + b = k
   · subst e
     have e1 : (a * 16 + b) / 16 = a := by omega
     have e2 : (a * 16 + b) % 16 = b := by omega
     simp only [gridTo, List.getElem_set, List.getElem_map, List.getElem_range, e1, e2, if_true]
     rw [if_pos ⟨ha, hb, Or.inr ⟨trivial, by omega⟩⟩]
   · simp only [gridTo, List.getElem_set, List.getElem_map, List.getElem_range, if_neg e]
     have : ¬ (k / 16 = a /\ k % 16 = b) := by omega
     by_cases c : k / 16 < n /\ k % 16 < n /\ (k / 16 < a ∨ k / 16 = a /\ k % 16 < b)
     · rw [if_pos c, if_pos ⟨c.1, c.2.1, by omega⟩]
     · rw [if_neg c, if_neg (by omega)]
theorem gridTo_row (n : Nat) (zs : List Int) (a : Nat) : gridTo n zs a n = gridTo n zs (a + 1) 0 := by
 unfold gridTo
 apply List.map_congr_left
 intro k _
 by_cases c : k / 16 < n /\ k % 16 < n /\ (k / 16 < a ∨ k / 16 = a /\ k % 16 < n)
 · rw [if_pos c, if_pos (by omega)]
 · rw [if_neg c, if_neg (by omega)]
def zeros : List Int := (List.range 256).map fun _ => 0
theorem zeros_length : zeros.length = 256 := by simp [zeros]
theorem gridTo_zero (n : Nat) (zs : List Int) : gridTo n zs 0 0 = zeros := by
 unfold gridTo zeros
 apply List.map_congr_left
 intro k _
 rw [if_neg (by omega)]
def gridRes (n : Int) (zs : List Int) : List Int := if matB n zs = true then gridTo n.toNat zs n.toNat 0 else zeros
theorem gridRes_true {n : Nat} {zs : List Int} (h : matB n zs = true) : gridRes n zs = gridTo n zs n 0 := by
 unfold gridRes; rw [if_pos h]; simp
theorem gridRes_false {n : Int} {zs : List Int} (h : matB n zs = false) : gridRes n zs = zeros := by
 unfold gridRes; rw [h]; simp
theorem gridRes_length (n : Int) (zs : List Int) : (gridRes n zs).length = 256 := by
 unfold gridRes; split
 · exact gridTo_length _ _ _ _
 · exact zeros_length
def okTo (n : Nat) (zs : List Int) (a b : Nat) : Prop :=
 ∀ i j, i < n -> j < n -> (i < a ∨ i = a /\ j < b) -> 0 <= zs.getD (i * n + j) 0 /\ zs.getD (i * n + j) 0 <= 10000 /\ (i = j -> zs.getD (i * n + j) 0 = 0)
theorem okTo_zero (n : Nat) (zs : List Int) : okTo n zs 0 0 := by intro i j _ _ h; omega
theorem okTo_step {n : Nat} {zs : List Int} {a b : Nat} (h : okTo n zs a b) (h0 : 0 <= zs.getD (a * n + b) 0) (h1 : zs.getD (a * n + b) 0 <= 10000) (h2 : a = b -> zs.getD (a * n + b) 0 = 0) : okTo n zs a (b + 1) := by
 intro i j hi hj hij
 by_cases e : i = a /\ j = b
 · obtain ⟨rfl, rfl⟩ := e; exact ⟨h0, h1, h2⟩
 · exact h i j hi hj (by omega)
theorem okTo_row {n : Nat} {zs : List Int} {a : Nat} (h : okTo n zs a n) : okTo n zs (a + 1) 0 := by
 intro i j hi hj hij
 exact h i j hi hj (by omega)
theorem div_mod_at (n i j : Nat) (hj : j < n) : (i * n + j) / n = i /\ (i * n + j) % n = j := by
 have hn : 0 < n := by omega
 constructor
 · rw [Nat.add_comm, Nat.add_mul_div_right _ _ hn, Nat.div_eq_of_lt hj, Nat.zero_add]
 · rw [Nat.add_comm, Nat.add_mul_mod_self_right, Nat.mod_eq_of_lt hj]
theorem at_div_mod (n k : Nat) (h : k < n * n) : k / n < n /\ k % n < n /\ k / n * n + k % n = k := by
 have hn : 0 < n := by rcases Nat.eq_zero_or_pos n with e | e; · subst e; simp at h
                       exact e
 exact ⟨(Nat.div_lt_iff_lt_mul hn).2 h, Nat.mod_lt _ hn, by rw [Nat.mul_comm]; exact Nat.div_add_mod k n⟩
theorem matB_of_okTo (n : Nat) (zs : List Int) (h1 : 1 <= n) (h2 : n <= 16) (hl : zs.length = n * n) (h : okTo n zs n 0) : matB n zs = true := by
 refine matB_mk ⟨by omega, by omega, by rw [hl]; simp, fun i hi => ?_⟩
 obtain ⟨a, b, c⟩ := at_div_mod n i (by omega)
 have := h (i / n) (i % n) a b (Or.inl a)
 rw [c] at this
 simpa using this
theorem matB_bad (n : Nat) (zs : List Int) (x y : Nat) (hx : x < n) (hy : y < n) (hl : zs.length = n * n) (h : ¬ (0 <= zs.getD (x * n + y) 0 /\ zs.getD (x * n + y) 0 <= 10000 /\ (x = y -> zs.getD (x * n + y) 0 = 0))) : matB n zs = false := by
 refine matB_not fun ⟨_, _, _, hh⟩ => h ?_
 obtain ⟨e1, e2⟩ := div_mod_at n x y hy
 have hlt : x * n + y < zs.length := by
  rw [hl]
  have := Nat.mul_le_mul_right n (show x + 1 <= n by omega)
  rw [Nat.add_mul] at this
  omega
 have := hh (x * n + y) hlt
 simp only [Int.toNat_natCast, e1, e2] at this
 exact this
theorem mul_bd (a n : Nat) (h1 : a <= 16) (h2 : n <= 16) : a * n <= 256 := Nat.mul_le_mul h1 h2
theorem matB_all (n : Nat) (zs : List Int) (h1 : 1 <= n) (h2 : n <= 16) (hl : zs.length = n * n) (h : ∀ i, i < n * n -> 0 <= zs.getD i 0 /\ zs.getD i 0 <= 10000 /\ (i / n = i % n -> zs.getD i 0 = 0)) : matB n zs = true :=
 matB_mk ⟨by omega, by omega, by rw [hl]; simp, fun i hi => by rw [Int.toNat_natCast]; exact h i (by omega)⟩
theorem matB_at (n : Nat) (zs : List Int) (hl : zs.length = n * n) (k : Nat) (hk : k < n * n) (h : ¬ (0 <= zs.getD k 0 /\ zs.getD k 0 <= 10000 /\ (k / n = k % n -> zs.getD k 0 = 0))) : matB n zs = false :=
 matB_not fun ⟨_, _, _, hh⟩ => h (by have := hh k (by omega); rwa [Int.toNat_natCast] at this)
theorem below_row {B : Nat} {W w1 : World} (hb : Below B W w1) {k : Nat} {o : Obj} (hk : k < B) (h : W.heap[k]? = some o) : w1.heap[k]? = some o := by
 rw [hb.block k hk]; exact h
theorem row_lt {W : World} {k : Nat} {o : Obj} (h : W.heap[k]? = some o) : k < W.heap.size := by
 by_cases hlt : k < W.heap.size
 · exact hlt
 · have hn : W.heap[k]? = none := by simp; omega
   rw [hn] at h; cases h
theorem box2_more {w w1 w2 : World} {k : Nat} {c0 c1 : Value} {T : TypeId} (hb : Below w1.heap.size w1 w2) (hB : Below w.heap.size w w1) (hr : w1.heap[k]? = some (.cells #[c0, c1] T (0, 0))) :
 Below w.heap.size w w2 /\ w2.heap[k]? = some (.cells #[c0, c1] T (0, 0)) /\ w2.cell? ⟨k, 0, none⟩ = some c0 /\ w2.cell? ⟨k, 1, none⟩ = some c1 := by
 have r := below_row hb (row_lt hr) hr
 refine ⟨hB.trans (hb.mono hB.size), r, ?_, ?_⟩
 · rw [cell_of_row _ _ 0 _ _ _ r]; simp
 · rw [cell_of_row _ _ 1 _ _ _ r]; simp
theorem ret_grid_eq {a b : List Int} {p q : Bool} (h : a = b) (k : p = q) : Ending.returned (.tuple #[.agg (cellsOf a), .bool p]) = Ending.returned (.tuple #[.agg (cellsOf b), .bool q]) := by rw [h, k]
def tm (n : Nat) (zs : List Int) (x y : Nat) : Int := zs.getD (x * n + y) 0
def og6 (zs : List Int) (i f : Nat) : Int := zs.getD (i * 6 + f) 0
theorem row6_at {w : World} {b off : Nat} {zs : List Int} {n : Nat} (h : ∀ j, j < zs.length -> w.cell? ⟨b, off + j, none⟩ = some (.int .i64 (zs.getD j 0))) (hl : zs.length = n * 6) (i : Nat) (hi : i < n) :
 w.cell? ⟨b, off + i * 6, none⟩ = some (.int .i64 (og6 zs i 0)) /\ w.cell? ⟨b, off + i * 6 + 1, none⟩ = some (.int .i64 (og6 zs i 1)) /\ w.cell? ⟨b, off + i * 6 + 2, none⟩ = some (.int .i64 (og6 zs i 2)) /\ w.cell? ⟨b, off + i * 6 + 3, none⟩ = some (.int .i64 (og6 zs i 3)) /\ w.cell? ⟨b, off + i * 6 + 4, none⟩ = some (.int .i64 (og6 zs i 4)) /\ w.cell? ⟨b, off + i * 6 + 5, none⟩ = some (.int .i64 (og6 zs i 5)) := by
 have hb : i * 6 + 6 <= zs.length := by omega
 refine ⟨?_, ?_, ?_, ?_, ?_, ?_⟩
 · exact h (i * 6) (by omega)
 · rw [Nat.add_assoc]; exact h (i * 6 + 1) (by omega)
 · rw [Nat.add_assoc]; exact h (i * 6 + 2) (by omega)
 · rw [Nat.add_assoc]; exact h (i * 6 + 3) (by omega)
 · rw [Nat.add_assoc]; exact h (i * 6 + 4) (by omega)
 · rw [Nat.add_assoc]; exact h (i * 6 + 5) (by omega)
def og5 (zs : List Int) (i f : Nat) : Int := zs.getD (i * 5 + f) 0
theorem row5_at {w : World} {b off : Nat} {zs : List Int} {n : Nat} (h : ∀ j, j < zs.length -> w.cell? ⟨b, off + j, none⟩ = some (.int .i64 (zs.getD j 0))) (hl : zs.length = n * 5) (i : Nat) (hi : i < n) :
 w.cell? ⟨b, off + i * 5, none⟩ = some (.int .i64 (og5 zs i 0)) /\ w.cell? ⟨b, off + i * 5 + 1, none⟩ = some (.int .i64 (og5 zs i 1)) /\ w.cell? ⟨b, off + i * 5 + 2, none⟩ = some (.int .i64 (og5 zs i 2)) /\ w.cell? ⟨b, off + i * 5 + 3, none⟩ = some (.int .i64 (og5 zs i 3)) /\ w.cell? ⟨b, off + i * 5 + 4, none⟩ = some (.int .i64 (og5 zs i 4)) := by
 have hb : i * 5 + 5 <= zs.length := by omega
 refine ⟨?_, ?_, ?_, ?_, ?_⟩
 · exact h (i * 5) (by omega)
 · rw [Nat.add_assoc]; exact h (i * 5 + 1) (by omega)
 · rw [Nat.add_assoc]; exact h (i * 5 + 2) (by omega)
 · rw [Nat.add_assoc]; exact h (i * 5 + 3) (by omega)
 · rw [Nat.add_assoc]; exact h (i * 5 + 4) (by omega)
def hoursB (f t : Int) : Bool := inB f 0 1000000 && inB t f 1000000
theorem hoursB_mk {f t : Int} (h1 : 0 <= f) (h2 : f <= t) (h3 : t <= 1000000) : hoursB f t = true := by
 unfold hoursB; rw [inB_mk (by omega), inB_mk (by omega)]; rfl
theorem hoursB_not {f t : Int} (h : ¬ (0 <= f /\ f <= t /\ t <= 1000000)) : hoursB f t = false := by
 unfold hoursB
 cases h1 : inB f 0 1000000
 · rfl
 · cases h2 : inB t f 1000000
   · rfl
   · have := inB_true h1; have := inB_true h2; omega
def ordIn (n o1 o2 o3 o4 o5 : Int) : Bool := inB o1 0 (n - 1) && inB o2 0 1000 && hoursB o3 o4 && inB o5 0 10000
def ordB (n o0 o1 o2 o3 o4 o5 : Int) : Bool := inB o0 1 1000000000 && ordIn n o1 o2 o3 o4 o5
def vehIn (n o1 o2 o3 o4 : Int) : Bool := inB o1 0 (n - 1) && inB o2 0 1000 && hoursB o3 o4
def vehB (n o0 o1 o2 o3 o4 : Int) : Bool := inB o0 1 1000000000 && vehIn n o1 o2 o3 o4
def ordsTo (n : Int) (zs : List Int) (k : Nat) : Prop := ∀ i, i < k -> ordB n (og6 zs i 0) (og6 zs i 1) (og6 zs i 2) (og6 zs i 3) (og6 zs i 4) (og6 zs i 5) = true /\ (0 < i -> og6 zs (i - 1) 0 < og6 zs i 0)
def ordsB (n : Int) (zs : List Int) (k : Nat) : Bool := decide (k <= 12 /\ ∀ i, i < k -> ordB n (og6 zs i 0) (og6 zs i 1) (og6 zs i 2) (og6 zs i 3) (og6 zs i 4) (og6 zs i 5) = true /\ (0 < i -> og6 zs (i - 1) 0 < og6 zs i 0))
theorem ordsB_yes {n : Int} {zs : List Int} {k : Nat} (h : k <= 12) (ht : ordsTo n zs k) : ordsB n zs k = true := by
 unfold ordsB
 exact decide_eq_true ⟨h, ht⟩
theorem ordsB_true {n : Int} {zs : List Int} {k : Nat} (h : ordsB n zs k = true) : k <= 12 /\ ordsTo n zs k := by
 unfold ordsB at h
 have := of_decide_eq_true h
 exact ⟨this.1, this.2⟩
theorem ordsB_many {n : Int} {zs : List Int} {k : Nat} (h : ¬ k <= 12) : ordsB n zs k = false := decide_eq_false fun x => h x.1
theorem ordsB_bad {n : Int} {zs : List Int} {m k : Nat} (hk : k < m) (h : ¬ (ordB n (og6 zs k 0) (og6 zs k 1) (og6 zs k 2) (og6 zs k 3) (og6 zs k 4) (og6 zs k 5) = true /\ (0 < k -> og6 zs (k - 1) 0 < og6 zs k 0))) : ordsB n zs m = false := decide_eq_false fun x => h (x.2 k hk)
theorem ordsTo_zero (n : Int) (zs : List Int) : ordsTo n zs 0 := fun i hi => by omega
theorem ordsTo_step {n : Int} {zs : List Int} {k : Nat} (h : ordsTo n zs k) (h1 : ordB n (og6 zs k 0) (og6 zs k 1) (og6 zs k 2) (og6 zs k 3) (og6 zs k 4) (og6 zs k 5) = true) (h2 : 0 < k -> og6 zs (k - 1) 0 < og6 zs k 0) : ordsTo n zs (k + 1) := by
 intro i hi
 by_cases e : i = k
 · subst e; exact ⟨h1, h2⟩
 · exact h i (by omega)
def ordsLast (zs : List Int) : Nat -> Int
 | 0 => 0
 | k + 1 => og6 zs k 0
theorem ordsLast_bd {n : Int} {zs : List Int} {k : Nat} (h : ordsTo n zs k) : 0 <= ordsLast zs k /\ ordsLast zs k <= 1000000000 := by
 cases k with
 | zero => simp [ordsLast]
 | succ k =>
   have h1 := (h k (by omega)).1
   unfold ordB at h1
   rw [Bool.and_eq_true] at h1
   have := inB_true h1.1
   show 0 <= og6 zs k 0 /\ og6 zs k 0 <= 1000000000
   omega
theorem ords_id {n : Int} {zs : List Int} {k : Nat} (h : ordsTo n zs k) (h1 : inB (og6 zs k 0) (ordsLast zs k + 1) 1000000000 = true) (h2 : ordIn n (og6 zs k 1) (og6 zs k 2) (og6 zs k 3) (og6 zs k 4) (og6 zs k 5) = true) :
 ordB n (og6 zs k 0) (og6 zs k 1) (og6 zs k 2) (og6 zs k 3) (og6 zs k 4) (og6 zs k 5) = true /\ (0 < k -> og6 zs (k - 1) 0 < og6 zs k 0) := by
 have hb := ordsLast_bd h
 have hi := inB_true h1
 refine ⟨?_, fun hk => ?_⟩
 · unfold ordB; rw [inB_mk (by omega), h2]; rfl
 · obtain ⟨j, rfl⟩ : ∃ j, k = j + 1 := ⟨k - 1, by omega⟩
   simp only [ordsLast] at hi
   simp only [Nat.add_sub_cancel]
   omega
theorem ords_id_no {n : Int} {zs : List Int} {k : Nat} (h : ¬ (inB (og6 zs k 0) (ordsLast zs k + 1) 1000000000 = true /\ ordIn n (og6 zs k 1) (og6 zs k 2) (og6 zs k 3) (og6 zs k 4) (og6 zs k 5) = true)) :
 ¬ (ordB n (og6 zs k 0) (og6 zs k 1) (og6 zs k 2) (og6 zs k 3) (og6 zs k 4) (og6 zs k 5) = true /\ (0 < k -> og6 zs (k - 1) 0 < og6 zs k 0)) := by
 rintro ⟨h1, h2⟩
 unfold ordB at h1
 rw [Bool.and_eq_true] at h1
 refine h ⟨inB_mk ?_, h1.2⟩
 have hi := inB_true h1.1
 cases k with
 | zero => simp only [ordsLast]; omega
 | succ j =>
   have := h2 (by omega)
   simp only [Nat.add_sub_cancel] at this
   simp only [ordsLast]
   omega
def vehsTo (n : Int) (zs : List Int) (k : Nat) : Prop := ∀ i, i < k -> vehB n (og5 zs i 0) (og5 zs i 1) (og5 zs i 2) (og5 zs i 3) (og5 zs i 4) = true /\ (0 < i -> og5 zs (i - 1) 0 < og5 zs i 0)
def vehsB (n : Int) (zs : List Int) (k : Nat) : Bool := decide (k <= 5 /\ ∀ i, i < k -> vehB n (og5 zs i 0) (og5 zs i 1) (og5 zs i 2) (og5 zs i 3) (og5 zs i 4) = true /\ (0 < i -> og5 zs (i - 1) 0 < og5 zs i 0))
theorem vehsB_yes {n : Int} {zs : List Int} {k : Nat} (h : k <= 5) (ht : vehsTo n zs k) : vehsB n zs k = true := by
 unfold vehsB
 exact decide_eq_true ⟨h, ht⟩
theorem vehsB_true {n : Int} {zs : List Int} {k : Nat} (h : vehsB n zs k = true) : k <= 5 /\ vehsTo n zs k := by
 unfold vehsB at h
 have := of_decide_eq_true h
 exact ⟨this.1, this.2⟩
theorem vehsB_many {n : Int} {zs : List Int} {k : Nat} (h : ¬ k <= 5) : vehsB n zs k = false := decide_eq_false fun x => h x.1
theorem vehsB_bad {n : Int} {zs : List Int} {m k : Nat} (hk : k < m) (h : ¬ (vehB n (og5 zs k 0) (og5 zs k 1) (og5 zs k 2) (og5 zs k 3) (og5 zs k 4) = true /\ (0 < k -> og5 zs (k - 1) 0 < og5 zs k 0))) : vehsB n zs m = false := decide_eq_false fun x => h (x.2 k hk)
theorem vehsTo_zero (n : Int) (zs : List Int) : vehsTo n zs 0 := fun i hi => by omega
theorem vehsTo_step {n : Int} {zs : List Int} {k : Nat} (h : vehsTo n zs k) (h1 : vehB n (og5 zs k 0) (og5 zs k 1) (og5 zs k 2) (og5 zs k 3) (og5 zs k 4) = true) (h2 : 0 < k -> og5 zs (k - 1) 0 < og5 zs k 0) : vehsTo n zs (k + 1) := by
 intro i hi
 by_cases e : i = k
 · subst e; exact ⟨h1, h2⟩
 · exact h i (by omega)
def vehsLast (zs : List Int) : Nat -> Int
 | 0 => 0
 | k + 1 => og5 zs k 0
theorem vehsLast_bd {n : Int} {zs : List Int} {k : Nat} (h : vehsTo n zs k) : 0 <= vehsLast zs k /\ vehsLast zs k <= 1000000000 := by
 cases k with
 | zero => simp [vehsLast]
 | succ k =>
   have h1 := (h k (by omega)).1
   unfold vehB at h1
   rw [Bool.and_eq_true] at h1
   have := inB_true h1.1
   show 0 <= og5 zs k 0 /\ og5 zs k 0 <= 1000000000
   omega
theorem vehs_id {n : Int} {zs : List Int} {k : Nat} (h : vehsTo n zs k) (h1 : inB (og5 zs k 0) (vehsLast zs k + 1) 1000000000 = true) (h2 : vehIn n (og5 zs k 1) (og5 zs k 2) (og5 zs k 3) (og5 zs k 4) = true) :
 vehB n (og5 zs k 0) (og5 zs k 1) (og5 zs k 2) (og5 zs k 3) (og5 zs k 4) = true /\ (0 < k -> og5 zs (k - 1) 0 < og5 zs k 0) := by
 have hb := vehsLast_bd h
 have hi := inB_true h1
 refine ⟨?_, fun hk => ?_⟩
 · unfold vehB; rw [inB_mk (by omega), h2]; rfl
 · obtain ⟨j, rfl⟩ : ∃ j, k = j + 1 := ⟨k - 1, by omega⟩
   simp only [vehsLast] at hi
   simp only [Nat.add_sub_cancel]
   omega
theorem vehs_id_no {n : Int} {zs : List Int} {k : Nat} (h : ¬ (inB (og5 zs k 0) (vehsLast zs k + 1) 1000000000 = true /\ vehIn n (og5 zs k 1) (og5 zs k 2) (og5 zs k 3) (og5 zs k 4) = true)) :
 ¬ (vehB n (og5 zs k 0) (og5 zs k 1) (og5 zs k 2) (og5 zs k 3) (og5 zs k 4) = true /\ (0 < k -> og5 zs (k - 1) 0 < og5 zs k 0)) := by
 rintro ⟨h1, h2⟩
 unfold vehB at h1
 rw [Bool.and_eq_true] at h1
 refine h ⟨inB_mk ?_, h1.2⟩
 have hi := inB_true h1.1
 cases k with
 | zero => simp only [vehsLast]; omega
 | succ j =>
   have := h2 (by omega)
   simp only [Nat.add_sub_cancel] at this
   simp only [vehsLast]
   omega
def caseB (n : Int) (zs os vs : List Int) (ko kv : Nat) (fine : Int) : Bool := matB n zs && ordsB n os ko && vehsB n vs kv && inB fine 0 1000000
theorem box5 {w w1 : World} {c0 c1 c2 c3 c4 : Value} {T : TypeId} (hb : Below (w.alloc (.cells #[c0, c1, c2, c3, c4] T)).heap.size (w.alloc (.cells #[c0, c1, c2, c3, c4] T)) w1) :
 Below w.heap.size w w1 /\ w1.heap[w.heap.size]? = some (.cells #[c0, c1, c2, c3, c4] T (0, 0)) :=
 ⟨((Below.refl _ _).alloc (Nat.le_refl _) _).trans (hb.mono (by simp)), below_row hb (by simp) (heap_alloc_new _ _)⟩
theorem box_more {w w1 w2 : World} {k : Nat} {o : Obj} (hb : Below w1.heap.size w1 w2) (hB : Below w.heap.size w w1) (hr : w1.heap[k]? = some o) :
 Below w.heap.size w w2 /\ w2.heap[k]? = some o := ⟨hB.trans (hb.mono hB.size), below_row hb (row_lt hr) hr⟩
theorem cells5 {w : World} {k : Nat} {c0 c1 c2 c3 c4 : Value} {T : TypeId} (r : w.heap[k]? = some (.cells #[c0, c1, c2, c3, c4] T (0, 0))) :
 w.cell? ⟨k, 0, none⟩ = some c0 /\ w.cell? ⟨k, 1, none⟩ = some c1 /\ w.cell? ⟨k, 2, none⟩ = some c2 /\ w.cell? ⟨k, 3, none⟩ = some c3 /\ w.cell? ⟨k, 4, none⟩ = some c4 := by
 refine ⟨?_, ?_, ?_, ?_, ?_⟩
 · rw [cell_of_row _ _ 0 _ _ _ r]; simp
 · rw [cell_of_row _ _ 1 _ _ _ r]; simp
 · rw [cell_of_row _ _ 2 _ _ _ r]; simp
 · rw [cell_of_row _ _ 3 _ _ _ r]; simp
 · rw [cell_of_row _ _ 4 _ _ _ r]; simp
theorem cells6 {w : World} {k : Nat} {c0 c1 c2 c3 c4 c5 : Value} {T : TypeId} (r : w.heap[k]? = some (.cells #[c0, c1, c2, c3, c4, c5] T (0, 0))) :
 w.cell? ⟨k, 0, none⟩ = some c0 /\ w.cell? ⟨k, 1, none⟩ = some c1 /\ w.cell? ⟨k, 2, none⟩ = some c2 /\ w.cell? ⟨k, 3, none⟩ = some c3 /\ w.cell? ⟨k, 4, none⟩ = some c4 /\ w.cell? ⟨k, 5, none⟩ = some c5 := by
 refine ⟨?_, ?_, ?_, ?_, ?_, ?_⟩
 · rw [cell_of_row _ _ 0 _ _ _ r]; simp
 · rw [cell_of_row _ _ 1 _ _ _ r]; simp
 · rw [cell_of_row _ _ 2 _ _ _ r]; simp
 · rw [cell_of_row _ _ 3 _ _ _ r]; simp
 · rw [cell_of_row _ _ 4 _ _ _ r]; simp
 · rw [cell_of_row _ _ 5 _ _ _ r]; simp
end Go.Proofs.YtmehgihjpefpmaaGreat

namespace Go.Proofs.YtmehgihjpefpmaaGreat
def fnd6 (zs : List Int) (n : Nat) (id : Int) : Option Nat := (List.range n).find? fun i => og6 zs i 0 == id
def fnd6T (zs : List Int) (n : Nat) (id : Int) : Bool := (fnd6 zs n id).isSome
def fnd6F (zs : List Int) (n : Nat) (id : Int) (f : Nat) : Int := match fnd6 zs n id with
 | some i => og6 zs i f
 | none => 0
theorem fnd6_at {zs : List Int} {n : Nat} {id : Int} {i : Nat} (hi : i < n) (h : og6 zs i 0 = id) (hno : ∀ j, j < i -> og6 zs j 0 ≠ id) : fnd6 zs n id = some i := by
 unfold fnd6
 rw [List.find?_range_eq_some]
 exact ⟨by simp [h], by simpa using hi, fun j hj => by simpa using hno j hj⟩
theorem fnd6_none {zs : List Int} {n : Nat} {id : Int} (hno : ∀ j, j < n -> og6 zs j 0 ≠ id) : fnd6 zs n id = none := by
 unfold fnd6
 rw [List.find?_eq_none]
 intro j hj
 have := hno j (by simpa using hj)
 simpa using this
theorem fnd6F_at {zs : List Int} {n : Nat} {id : Int} {i : Nat} (h : fnd6 zs n id = some i) (f : Nat) : fnd6F zs n id f = og6 zs i f := by unfold fnd6F; rw [h]
theorem fnd6F_none {zs : List Int} {n : Nat} {id : Int} (h : fnd6 zs n id = none) (f : Nat) : fnd6F zs n id f = 0 := by unfold fnd6F; rw [h]
theorem fnd6T_at {zs : List Int} {n : Nat} {id : Int} {i : Nat} (h : fnd6 zs n id = some i) : fnd6T zs n id = true := by unfold fnd6T; rw [h]; rfl
theorem fnd6T_none {zs : List Int} {n : Nat} {id : Int} (h : fnd6 zs n id = none) : fnd6T zs n id = false := by unfold fnd6T; rw [h]; rfl
def fnd5 (zs : List Int) (n : Nat) (id : Int) : Option Nat := (List.range n).find? fun i => og5 zs i 0 == id
def fnd5T (zs : List Int) (n : Nat) (id : Int) : Bool := (fnd5 zs n id).isSome
def fnd5F (zs : List Int) (n : Nat) (id : Int) (f : Nat) : Int := match fnd5 zs n id with
 | some i => og5 zs i f
 | none => 0
theorem fnd5_at {zs : List Int} {n : Nat} {id : Int} {i : Nat} (hi : i < n) (h : og5 zs i 0 = id) (hno : ∀ j, j < i -> og5 zs j 0 ≠ id) : fnd5 zs n id = some i := by
 unfold fnd5
 rw [List.find?_range_eq_some]
 exact ⟨by simp [h], by simpa using hi, fun j hj => by simpa using hno j hj⟩
theorem fnd5_none {zs : List Int} {n : Nat} {id : Int} (hno : ∀ j, j < n -> og5 zs j 0 ≠ id) : fnd5 zs n id = none := by
 unfold fnd5
 rw [List.find?_eq_none]
 intro j hj
 have := hno j (by simpa using hj)
 simpa using this
theorem fnd5F_at {zs : List Int} {n : Nat} {id : Int} {i : Nat} (h : fnd5 zs n id = some i) (f : Nat) : fnd5F zs n id f = og5 zs i f := by unfold fnd5F; rw [h]
theorem fnd5F_none {zs : List Int} {n : Nat} {id : Int} (h : fnd5 zs n id = none) (f : Nat) : fnd5F zs n id f = 0 := by unfold fnd5F; rw [h]
theorem fnd5T_at {zs : List Int} {n : Nat} {id : Int} {i : Nat} (h : fnd5 zs n id = some i) : fnd5T zs n id = true := by unfold fnd5T; rw [h]; rfl
theorem fnd5T_none {zs : List Int} {n : Nat} {id : Int} (h : fnd5 zs n id = none) : fnd5T zs n id = false := by unfold fnd5T; rw [h]; rfl
end Go.Proofs.YtmehgihjpefpmaaGreat

namespace Go.Proofs.YtmehgihjpefpmaaGreat
open Go.RowKit
def loadTo (os : List Int) (ko : Nat) (ids : List Int) : Nat -> Int
 | 0 => 0
 | k + 1 => loadTo os ko ids k + fnd6F os ko (ids.getD k 0) 2
theorem fnd6F_load {n : Int} {os : List Int} {ko : Nat} (h : ordsB n os ko = true) (id : Int) : 0 <= fnd6F os ko id 2 /\ fnd6F os ko id 2 <= 1000 := by
 unfold fnd6F
 cases hf : fnd6 os ko id with
 | none => simp
 | some i =>
   have hi : i < ko := by
    unfold fnd6 at hf
    rw [List.find?_range_eq_some] at hf
    have := hf.2.1
    simpa using this
   have := ((ordsB_true h).2 i hi).1
   unfold ordB ordIn at this
   simp only [Bool.and_eq_true] at this
   have := inB_true this.2.1.1.2
   simpa using this
theorem caseB_ords {n : Int} {zs os vs : List Int} {ko kv : Nat} {fine : Int} (h : caseB n zs os vs ko kv fine = true) : ordsB n os ko = true := by
 unfold caseB at h
 simp only [Bool.and_eq_true] at h
 exact h.1.1.2
theorem loadTo_bd {n : Int} {os : List Int} {ko : Nat} (h : ordsB n os ko = true) (ids : List Int) : ∀ k, 0 <= loadTo os ko ids k /\ loadTo os ko ids k <= 1000 * k
 | 0 => by simp [loadTo]
 | k + 1 => by
   have ih := loadTo_bd h ids k
   have := fnd6F_load h (ids.getD k 0)
   unfold loadTo
   omega
def hasTo (ids : List Int) (k : Nat) (id : Int) : Bool := (List.range k).any fun j => ids.getD j 0 == id
theorem hasTo_yes {ids : List Int} {k j : Nat} {id : Int} (hj : j < k) (h : ids.getD j 0 = id) : hasTo ids k id = true := by
 unfold hasTo
 rw [List.any_eq_true]
 exact ⟨j, by simpa using hj, by rw [h]; simp⟩
theorem hasTo_no {ids : List Int} {k : Nat} {id : Int} (h : ∀ j, j < k -> ids.getD j 0 ≠ id) : hasTo ids k id = false := by
 unfold hasTo
 rw [List.any_eq_false]
 intro j hj
 have := h j (by simpa using hj)
 simpa using this
def stopB (os : List Int) (ko : Nat) (ids : List Int) (k : Nat) : Bool := fnd6T os ko (ids.getD k 0) && !hasTo ids k (ids.getD k 0)
def stopsTo (os : List Int) (ko : Nat) (ids : List Int) (k : Nat) : Prop := ∀ j, j < k -> stopB os ko ids j = true
def stopsB (os : List Int) (ko : Nat) (ids : List Int) : Bool := decide (ids.length <= 12 /\ ∀ j, j < ids.length -> stopB os ko ids j = true)
theorem stopsB_yes {os : List Int} {ko : Nat} {ids : List Int} (h : ids.length <= 12) (ht : stopsTo os ko ids ids.length) : stopsB os ko ids = true := by
 unfold stopsB
 exact decide_eq_true ⟨h, ht⟩
theorem stopsB_true {os : List Int} {ko : Nat} {ids : List Int} (h : stopsB os ko ids = true) : ids.length <= 12 /\ stopsTo os ko ids ids.length := by
 unfold stopsB at h
 have := of_decide_eq_true h
 exact ⟨this.1, this.2⟩
theorem stopsB_many {os : List Int} {ko : Nat} {ids : List Int} (h : ¬ ids.length <= 12) : stopsB os ko ids = false := decide_eq_false fun x => h x.1
theorem stopsB_bad {os : List Int} {ko : Nat} {ids : List Int} {k : Nat} (hk : k < ids.length) (h : stopB os ko ids k = false) : stopsB os ko ids = false := decide_eq_false fun x => by
 have := x.2 k hk
 rw [h] at this
 cases this
theorem stopsTo_zero (os : List Int) (ko : Nat) (ids : List Int) : stopsTo os ko ids 0 := fun j hj => by omega
theorem stopsTo_step {os : List Int} {ko : Nat} {ids : List Int} {k : Nat} (h : stopsTo os ko ids k) (h1 : stopB os ko ids k = true) : stopsTo os ko ids (k + 1) := by
 intro j hj
 by_cases e : j = k
 · rw [e]; exact h1
 · exact h j (by omega)
theorem stopB_mk {os : List Int} {ko : Nat} {ids : List Int} {k : Nat} {id : Int} (hid : ids.getD k 0 = id) {a b : Bool} (h1 : fnd6T os ko id = a) (h2 : hasTo ids k id = b) : stopB os ko ids k = (a && !b) := by
 unfold stopB
 rw [hid, h1, h2]
def formV (c : Bool) (vs os : List Int) (kv ko : Nat) (veh : Int) (ids : List Int) : Int :=
 if c = false then 1 else if fnd5T vs kv veh = false then 2 else if stopsB os ko ids = false then 3 else if fnd5F vs kv veh 2 < loadTo os ko ids ids.length then 4 else 0
theorem formV_1 {c : Bool} {vs os : List Int} {kv ko : Nat} {veh : Int} {ids : List Int} (h : c = false) : formV c vs os kv ko veh ids = 1 := by
 unfold formV; rw [if_pos h]
theorem formV_2 {c : Bool} {vs os : List Int} {kv ko : Nat} {veh : Int} {ids : List Int} (h : c = true) (h2 : fnd5T vs kv veh = false) : formV c vs os kv ko veh ids = 2 := by
 unfold formV; rw [if_neg (by simp [h]), if_pos h2]
theorem formV_3 {c : Bool} {vs os : List Int} {kv ko : Nat} {veh : Int} {ids : List Int} (h : c = true) (h2 : fnd5T vs kv veh = true) (h3 : stopsB os ko ids = false) : formV c vs os kv ko veh ids = 3 := by
 unfold formV; rw [if_neg (by simp [h]), if_neg (by simp [h2]), if_pos h3]
theorem formV_4 {c : Bool} {vs os : List Int} {kv ko : Nat} {veh : Int} {ids : List Int} (h : c = true) (h2 : fnd5T vs kv veh = true) (h3 : stopsB os ko ids = true) (h4 : fnd5F vs kv veh 2 < loadTo os ko ids ids.length) : formV c vs os kv ko veh ids = 4 := by
 unfold formV; rw [if_neg (by simp [h]), if_neg (by simp [h2]), if_neg (by simp [h3]), if_pos h4]
theorem formV_0 {c : Bool} {vs os : List Int} {kv ko : Nat} {veh : Int} {ids : List Int} (h : c = true) (h2 : fnd5T vs kv veh = true) (h3 : stopsB os ko ids = true) (h4 : ¬ fnd5F vs kv veh 2 < loadTo os ko ids ids.length) : formV c vs os kv ko veh ids = 0 := by
 unfold formV; rw [if_neg (by simp [h]), if_neg (by simp [h2]), if_neg (by simp [h3]), if_neg h4]
theorem formV_zero {c : Bool} {vs os : List Int} {kv ko : Nat} {veh : Int} {ids : List Int} (h : formV c vs os kv ko veh ids = 0) : c = true /\ fnd5T vs kv veh = true /\ stopsB os ko ids = true := by
 unfold formV at h
 by_cases c1 : c = false
 · rw [if_pos c1] at h; omega
 · rw [if_neg c1] at h
   by_cases c2 : fnd5T vs kv veh = false
   · rw [if_pos c2] at h; omega
   · rw [if_neg c2] at h
     by_cases c3 : stopsB os ko ids = false
     · rw [if_pos c3] at h; omega
     · exact ⟨by simpa using c1, by simpa using c2, by simpa using c3⟩
def rosOf (os : List Int) (ko : Nat) (ids : List Int) : List Int := (List.range (ids.length * 6)).map fun j => fnd6F os ko (ids.getD (j / 6) 0) (j % 6)
theorem rosOf_length (os : List Int) (ko : Nat) (ids : List Int) : (rosOf os ko ids).length = ids.length * 6 := by simp [rosOf]
theorem rosOf_at (os : List Int) (ko : Nat) (ids : List Int) {k f : Nat} (hk : k < ids.length) (hf : f < 6) : og6 (rosOf os ko ids) k f = fnd6F os ko (ids.getD k 0) f := by
 unfold og6 rosOf
 have hj : k * 6 + f < ids.length * 6 := by omega
 have e1 : (k * 6 + f) / 6 = k := by omega
 have e2 : (k * 6 + f) % 6 = f := by omega
 rw [List.getD, List.getElem?_map, List.getElem?_range hj]
 simp only [Option.map_some, Option.getD_some, e1, e2]
theorem fnd6F_bd {n : Int} {os : List Int} {ko : Nat} (h : ordsB n os ko = true) (hn : 1 <= n) (id : Int) :
 (0 <= fnd6F os ko id 1 /\ fnd6F os ko id 1 < n) /\ (0 <= fnd6F os ko id 2 /\ fnd6F os ko id 2 <= 1000) /\ (0 <= fnd6F os ko id 3 /\ fnd6F os ko id 3 <= 1000000) /\ (0 <= fnd6F os ko id 4 /\ fnd6F os ko id 4 <= 1000000) /\ (0 <= fnd6F os ko id 5 /\ fnd6F os ko id 5 <= 10000) := by
 unfold fnd6F
 cases hf : fnd6 os ko id with
 | none => simp; omega
 | some i =>
   have hi : i < ko := by
    unfold fnd6 at hf
    rw [List.find?_range_eq_some] at hf
    have := hf.2.1
    simpa using this
   have := ((ordsB_true h).2 i hi).1
   unfold ordB ordIn hoursB at this
   simp only [Bool.and_eq_true] at this
   obtain ⟨_, ⟨⟨h1, h2⟩, h3, h4⟩, h5⟩ := this
   have h1 := inB_true h1
   have h2 := inB_true h2
   have h3 := inB_true h3
   have h4 := inB_true h4
   have h5 := inB_true h5
   simp only []
   omega
theorem fnd5F_bd {n : Int} {vs : List Int} {kv : Nat} (h : vehsB n vs kv = true) (hn : 1 <= n) (id : Int) :
 (0 <= fnd5F vs kv id 1 /\ fnd5F vs kv id 1 < n) /\ (0 <= fnd5F vs kv id 2 /\ fnd5F vs kv id 2 <= 1000) /\ (0 <= fnd5F vs kv id 3 /\ fnd5F vs kv id 3 <= 1000000) /\ (0 <= fnd5F vs kv id 4 /\ fnd5F vs kv id 4 <= 1000000) := by
 unfold fnd5F
 cases hf : fnd5 vs kv id with
 | none => simp; omega
 | some i =>
   have hi : i < kv := by
    unfold fnd5 at hf
    rw [List.find?_range_eq_some] at hf
    have := hf.2.1
    simpa using this
   have := ((vehsB_true h).2 i hi).1
   unfold vehB vehIn hoursB at this
   simp only [Bool.and_eq_true] at this
   obtain ⟨_, ⟨h1, h2⟩, h3, h4⟩ := this
   have h1 := inB_true h1
   have h2 := inB_true h2
   have h3 := inB_true h3
   have h4 := inB_true h4
   simp only []
   omega
theorem caseB_parts {n : Int} {zs os vs : List Int} {ko kv : Nat} {fine : Int} (h : caseB n zs os vs ko kv fine = true) : matB n zs = true /\ ordsB n os ko = true /\ vehsB n vs kv = true /\ 1 <= n /\ 0 <= fine /\ fine <= 1000000 := by
 unfold caseB at h
 simp only [Bool.and_eq_true] at h
 exact ⟨h.1.1.1, h.1.1.2, h.1.2, (matB_true h.1.1.1).1, inB_true h.2⟩
def tmI (n : Int) (zs : List Int) (x y : Int) : Int := zs.getD (x.toNat * n.toNat + y.toNat) 0
theorem tmI_bd {n : Int} {zs : List Int} (h : matB n zs = true) (x y : Int) : 0 <= tmI n zs x y /\ tmI n zs x y <= 10000 := by
 unfold tmI
 by_cases hl : x.toNat * n.toNat + y.toNat < zs.length
 · have := (matB_true h).2.2.2 _ hl
   exact ⟨this.1, this.2.1⟩
 · rw [List.getD, List.getElem?_eq_none (by omega)]
   simp
def plc (ros : List Int) (home : Int) : Nat -> Int
 | 0 => home
 | k + 1 => og6 ros k 1
def RosBd (n : Int) (ros : List Int) (m : Nat) : Prop := ∀ k, k < m -> (0 <= og6 ros k 1 /\ og6 ros k 1 < n) /\ (0 <= og6 ros k 2 /\ og6 ros k 2 <= 1000) /\ (0 <= og6 ros k 3 /\ og6 ros k 3 <= 1000000) /\ (0 <= og6 ros k 4 /\ og6 ros k 4 <= 1000000) /\ (0 <= og6 ros k 5 /\ og6 ros k 5 <= 10000)
theorem rosBd_of {n : Int} {os : List Int} {ko : Nat} (h : ordsB n os ko = true) (hn : 1 <= n) (ids : List Int) : RosBd n (rosOf os ko ids) ids.length := by
 intro k hk
 rw [rosOf_at os ko ids hk (by omega), rosOf_at os ko ids hk (by omega), rosOf_at os ko ids hk (by omega), rosOf_at os ko ids hk (by omega), rosOf_at os ko ids hk (by omega)]
 exact fnd6F_bd h hn _
theorem plc_bd {n : Int} {ros : List Int} {m : Nat} (h : RosBd n ros m) {home : Int} (h0 : 0 <= home) (h1 : home < n) : ∀ k, k <= m -> 0 <= plc ros home k /\ plc ros home k < n
 | 0, _ => ⟨h0, h1⟩
 | k + 1, hk => (h k (by omega)).1
def nowT (n : Int) (zs ros : List Int) (home frm : Int) : Nat -> Int
 | 0 => frm
 | k + 1 => max (nowT n zs ros home frm k + tmI n zs (plc ros home k) (og6 ros k 1)) (og6 ros k 3) + og6 ros k 5
def arrV (n : Int) (zs ros : List Int) (home frm : Int) (k : Nat) : Int := nowT n zs ros home frm k + tmI n zs (plc ros home k) (og6 ros k 1)
def startV (n : Int) (zs ros : List Int) (home frm : Int) (k : Nat) : Int := max (arrV n zs ros home frm k) (og6 ros k 3)
theorem nowT_succ (n : Int) (zs ros : List Int) (home frm : Int) (k : Nat) : nowT n zs ros home frm (k + 1) = startV n zs ros home frm k + og6 ros k 5 := rfl
def homeV (n : Int) (zs ros : List Int) (m : Nat) (home frm : Int) : Int := nowT n zs ros home frm m + tmI n zs (plc ros home m) home
theorem nowT_bd {n : Int} {zs ros : List Int} {m : Nat} {home frm : Int} (hz : matB n zs = true) (h : RosBd n ros m) (hf : 0 <= frm /\ frm <= 1000000) : ∀ k, k <= m -> 0 <= nowT n zs ros home frm k /\ nowT n zs ros home frm k <= 1000000 + 20000 * k
 | 0, _ => by simp only [nowT]; omega
 | k + 1, hk => by
   have ih := nowT_bd (home := home) hz h hf k (by omega)
   have h1 := tmI_bd hz (plc ros home k) (og6 ros k 1)
   have h2 := h k (by omega)
   simp only [nowT]
   omega
def timelyTo (n : Int) (zs ros : List Int) (home frm : Int) (k : Nat) : Prop := ∀ j, j < k -> startV n zs ros home frm j <= og6 ros j 4
theorem timelyTo_step {n : Int} {zs ros : List Int} {home frm : Int} {k : Nat} (h : timelyTo n zs ros home frm k) (h1 : startV n zs ros home frm k <= og6 ros k 4) : timelyTo n zs ros home frm (k + 1) := by
 intro j hj
 by_cases e : j = k
 · rw [e]; exact h1
 · exact h j (by omega)
def hoursV (n : Int) (zs ros : List Int) (m : Nat) (home frm to : Int) : Int :=
 if ∀ j, j < m -> startV n zs ros home frm j <= og6 ros j 4 then (if to < homeV n zs ros m home frm then 6 else 0) else 5
theorem hoursV_late {n : Int} {zs ros : List Int} {m : Nat} {home frm to : Int} {k : Nat} (hk : k < m) (h : og6 ros k 4 < startV n zs ros home frm k) : hoursV n zs ros m home frm to = 5 := by
 unfold hoursV
 rw [if_neg (fun x => by have := x k hk; omega)]
theorem hoursV_home {n : Int} {zs ros : List Int} {m : Nat} {home frm to : Int} (h : timelyTo n zs ros home frm m) (h2 : to < homeV n zs ros m home frm) : hoursV n zs ros m home frm to = 6 := by
 have h : ∀ j, j < m -> startV n zs ros home frm j <= og6 ros j 4 := h
 unfold hoursV
 rw [if_pos h, if_pos h2]
theorem hoursV_ok {n : Int} {zs ros : List Int} {m : Nat} {home frm to : Int} (h : timelyTo n zs ros home frm m) (h2 : ¬ to < homeV n zs ros m home frm) : hoursV n zs ros m home frm to = 0 := by
 have h : ∀ j, j < m -> startV n zs ros home frm j <= og6 ros j 4 := h
 unfold hoursV
 rw [if_pos h, if_neg h2]
def codeV (c : Bool) (n : Int) (zs os vs : List Int) (ko kv : Nat) (veh : Int) (ids : List Int) : Int :=
 if formV c vs os kv ko veh ids = 0 then hoursV n zs (rosOf os ko ids) ids.length (fnd5F vs kv veh 1) (fnd5F vs kv veh 3) (fnd5F vs kv veh 4) else formV c vs os kv ko veh ids
theorem codeV_form {c : Bool} {n : Int} {zs os vs : List Int} {ko kv : Nat} {veh : Int} {ids : List Int} (h : formV c vs os kv ko veh ids ≠ 0) : codeV c n zs os vs ko kv veh ids = formV c vs os kv ko veh ids := by
 unfold codeV; rw [if_neg h]
theorem codeV_hours {c : Bool} {n : Int} {zs os vs : List Int} {ko kv : Nat} {veh : Int} {ids : List Int} (h : formV c vs os kv ko veh ids = 0) : codeV c n zs os vs ko kv veh ids = hoursV n zs (rosOf os ko ids) ids.length (fnd5F vs kv veh 1) (fnd5F vs kv veh 3) (fnd5F vs kv veh 4) := by
 unfold codeV; rw [if_pos h]
theorem codeV_zero {c : Bool} {n : Int} {zs os vs : List Int} {ko kv : Nat} {veh : Int} {ids : List Int} (h : codeV c n zs os vs ko kv veh ids = 0) : formV c vs os kv ko veh ids = 0 /\ hoursV n zs (rosOf os ko ids) ids.length (fnd5F vs kv veh 1) (fnd5F vs kv veh 3) (fnd5F vs kv veh 4) = 0 := by
 by_cases h1 : formV c vs os kv ko veh ids = 0
 · exact ⟨h1, by rw [codeV_hours h1] at h; exact h⟩
 · exact absurd (by rw [codeV_form h1] at h; exact h) h1
def costTo (n : Int) (zs ros : List Int) (home : Int) : Nat -> Int
 | 0 => 0
 | k + 1 => costTo n zs ros home k + tmI n zs (plc ros home k) (og6 ros k 1)
theorem costTo_bd {n : Int} {zs ros : List Int} {home : Int} (hz : matB n zs = true) : ∀ k : Nat, 0 <= costTo n zs ros home k /\ costTo n zs ros home k <= 10000 * k
 | 0 => by simp only [costTo]; omega
 | k + 1 => by
   have ih := costTo_bd (ros := ros) (home := home) hz k
   have h1 := tmI_bd hz (plc ros home k) (og6 ros k 1)
   simp only [costTo]
   omega
def rideV (n : Int) (zs ros : List Int) (m : Nat) (home : Int) : Int := costTo n zs ros home m + tmI n zs (plc ros home m) home
def remL (ids : List Int) (i : Nat) : List Int := ids.take i ++ ids.drop (i + 1)
def insL (ids : List Int) (i : Nat) (id : Int) : List Int := ids.take i ++ id :: ids.drop i
theorem remL_length {ids : List Int} {i : Nat} (h : i < ids.length) : (remL ids i).length = ids.length - 1 := by
 simp [remL]; omega
theorem insL_length {ids : List Int} {i : Nat} (id : Int) (h : i <= ids.length) : (insL ids i id).length = ids.length + 1 := by
 simp [insL]; omega
def rcV (n : Int) (zs os vs : List Int) (ko kv : Nat) (veh : Int) (ids : List Int) : Int :=
 if codeV true n zs os vs ko kv veh ids = 0 then rideV n zs (rosOf os ko ids) ids.length (fnd5F vs kv veh 1) else 0
theorem rcV_no {n : Int} {zs os vs : List Int} {ko kv : Nat} {veh : Int} {ids : List Int} (h : codeV true n zs os vs ko kv veh ids ≠ 0) : rcV n zs os vs ko kv veh ids = 0 := by
 unfold rcV; rw [if_neg h]
theorem rcV_yes {n : Int} {zs os vs : List Int} {ko kv : Nat} {veh : Int} {ids : List Int} (h : codeV true n zs os vs ko kv veh ids = 0) : rcV n zs os vs ko kv veh ids = rideV n zs (rosOf os ko ids) ids.length (fnd5F vs kv veh 1) := by
 unfold rcV; rw [if_pos h]
theorem code12 {c : Bool} {n : Int} {zs os vs : List Int} {ko kv : Nat} {veh : Int} {ids : List Int} (h : codeV c n zs os vs ko kv veh ids = 0) : ids.length <= 12 :=
 (stopsB_true (formV_zero (codeV_zero h).1).2.2).1
theorem code_case {c : Bool} {n : Int} {zs os vs : List Int} {ko kv : Nat} {veh : Int} {ids : List Int} (h : codeV c n zs os vs ko kv veh ids = 0) : c = true :=
 (formV_zero (codeV_zero h).1).1
theorem rideV_bd {n : Int} {zs : List Int} (hz : matB n zs = true) (ros : List Int) (m : Nat) (hm : m <= 12) (home : Int) : 0 <= rideV n zs ros m home /\ rideV n zs ros m home <= 130000 := by
 have h1 := costTo_bd (ros := ros) (home := home) hz m
 have h2 := tmI_bd hz (plc ros home m) home
 unfold rideV
 omega
def chB (c : Bool) (n : Int) (zs os vs : List Int) (ko kv : Nat) (veh : Int) (ids : List Int) (ok : Bool) (ids' : List Int) : Bool :=
 decide (codeV c n zs os vs ko kv veh ids = 0) && (ok && decide (codeV c n zs os vs ko kv veh ids' = 0))
def chI (ch : Bool) (v : Int) : Int := if ch then v else 0
def chL (ch : Bool) (ids' : List Int) : List Int := if ch then ids' else []
def chD (ch : Bool) (n : Int) (zs os vs : List Int) (ko kv : Nat) (veh : Int) (ids ids' : List Int) : Int :=
 if ch then rcV n zs os vs ko kv veh ids' - rcV n zs os vs ko kv veh ids else 0
theorem chB_no1 {c : Bool} {n : Int} {zs os vs : List Int} {ko kv : Nat} {veh : Int} {ids : List Int} (h : codeV c n zs os vs ko kv veh ids ≠ 0) (ok : Bool) (ids' : List Int) : chB c n zs os vs ko kv veh ids ok ids' = false := by
 unfold chB; rw [decide_eq_false h]; rfl
theorem chB_no2 {c : Bool} {n : Int} {zs os vs : List Int} {ko kv : Nat} {veh : Int} {ids : List Int} {ok : Bool} (h : ok = false) (ids' : List Int) : chB c n zs os vs ko kv veh ids ok ids' = false := by
 unfold chB; rw [h]; simp
theorem chB_no3 {c : Bool} {n : Int} {zs os vs : List Int} {ko kv : Nat} {veh : Int} {ids ids' : List Int} (ok : Bool) (h : codeV c n zs os vs ko kv veh ids' ≠ 0) : chB c n zs os vs ko kv veh ids ok ids' = false := by
 unfold chB; rw [decide_eq_false h]; simp
theorem chB_yes {c : Bool} {n : Int} {zs os vs : List Int} {ko kv : Nat} {veh : Int} {ids ids' : List Int} {ok : Bool} (h : codeV c n zs os vs ko kv veh ids = 0) (ho : ok = true) (h' : codeV c n zs os vs ko kv veh ids' = 0) : chB c n zs os vs ko kv veh ids ok ids' = true := by
 unfold chB; rw [decide_eq_true h, ho, decide_eq_true h']; rfl
def clo1 (n : Nat) (l : List Int) (k a b : Nat) : List Int := l.set (a * n + b) (min (tm n l a b) (tm n l a k + tm n l k b))
def cloTo (n : Nat) (zs : List Int) : Nat -> List Int
 | 0 => zs
 | m + 1 => clo1 n (cloTo n zs m) (m / n / n) (m / n % n) (m % n)
theorem clo_split (n k a b : Nat) (ha : a < n) (hb : b < n) : ((k * n + a) * n + b) / n / n = k /\ ((k * n + a) * n + b) / n % n = a /\ ((k * n + a) * n + b) % n = b := by
 obtain ⟨h1, h2⟩ := div_mod_at n (k * n + a) b hb
 obtain ⟨h3, h4⟩ := div_mod_at n k a ha
 exact ⟨by rw [h1, h3], by rw [h1, h4], h2⟩
theorem cloTo_step (n : Nat) (zs : List Int) (k a b : Nat) (ha : a < n) (hb : b < n) :
 cloTo n zs ((k * n + a) * n + (b + 1)) = clo1 n (cloTo n zs ((k * n + a) * n + b)) k a b := by
 obtain ⟨h1, h2, h3⟩ := clo_split n k a b ha hb
 rw [<- Nat.add_assoc, cloTo, h1, h2, h3]
theorem clo1_length (n : Nat) (l : List Int) (k a b : Nat) : (clo1 n l k a b).length = l.length := by simp [clo1]
theorem cloTo_length (n : Nat) (zs : List Int) : ∀ m, (cloTo n zs m).length = zs.length
 | 0 => rfl
 | m + 1 => by rw [cloTo, clo1_length, cloTo_length n zs m]
def okL (l : List Int) : Prop := ∀ i, 0 <= l.getD i 0 /\ l.getD i 0 <= 10000
theorem okL_set {l : List Int} (h : okL l) {i : Nat} {v : Int} (h0 : 0 <= v) (h1 : v <= 10000) : okL (l.set i v) := by
 intro j
 have hj := h j
 rw [List.getD_eq_getElem?_getD] at hj ⊢
 rw [List.getElem?_set]
 split
 · split
   · simp; omega
   · simp
 · exact hj
theorem okL_clo1 {n : Nat} {l : List Int} (h : okL l) (k a b : Nat) : okL (clo1 n l k a b) := by
 have h1 := h (a * n + b)
 have h2 := h (a * n + k)
 have h3 := h (k * n + b)
 unfold clo1 tm
 refine okL_set h ?_ ?_
 · omega
 · omega
theorem okL_cloTo {n : Nat} {zs : List Int} (h : okL zs) : ∀ m, okL (cloTo n zs m)
 | 0 => h
 | m + 1 => okL_clo1 (okL_cloTo h m) _ _ _
theorem okL_of_mat {n : Int} {zs : List Int} (h : matB n zs = true) : okL zs := by
 intro i
 by_cases hi : i < zs.length
 · have := (matB_true h).2.2.2 i hi
   exact ⟨this.1, this.2.1⟩
 · rw [List.getD_eq_getElem?_getD, List.getElem?_eq_none (by omega)]; simp
theorem tm_okL {n : Nat} {l : List Int} (h : okL l) (x y : Nat) : 0 <= tm n l x y /\ tm n l x y <= 10000 := h _
def clo (n : Nat) (zs : List Int) : List Int := cloTo n zs (n * n * n)
theorem IntsAt.pre {w : World} {a : Option Addr} {l r : List Int} (h : IntsAt w a (l ++ r)) : IntsAt w a l := by
 intro j hj
 obtain ⟨b, off, e, hc⟩ := h j (by simp; omega)
 refine ⟨b, off, e, ?_⟩
 rw [hc, List.getD_eq_getElem?_getD, List.getElem?_append_left hj, <- List.getD_eq_getElem?_getD]
def putS : List Int -> Int -> List Int
 | [], x => [x]
 | y :: l, x => if y < x then y :: putS l x else x :: y :: l
def srtS (l : List Int) : List Int := l.foldl putS []
theorem srtS_snoc (l : List Int) (x : Int) : srtS (l ++ [x]) = putS (srtS l) x := by simp [srtS, List.foldl_append]
theorem putS_len : ∀ (l : List Int) (x : Int), (putS l x).length = l.length + 1
 | [], x => rfl
 | y :: l, x => by
   unfold putS
   split
   · rw [List.length_cons, putS_len l x, List.length_cons]
   · simp
theorem fold_len : ∀ (l acc : List Int), (l.foldl putS acc).length = acc.length + l.length
 | [], acc => rfl
 | x :: l, acc => by rw [List.foldl_cons, fold_len l, putS_len, List.length_cons]; omega
theorem srtS_len (l : List Int) : (srtS l).length = l.length := by
 unfold srtS
 rw [fold_len]
 simp
theorem putS_mem : ∀ (l : List Int) (x y : Int), y ∈ putS l x ↔ y = x ∨ y ∈ l
 | [], x, y => by simp [putS]
 | z :: l, x, y => by
   unfold putS
   split
   · rw [List.mem_cons, putS_mem l x y, List.mem_cons]
     constructor
     · rintro (h | h | h)
       · exact .inr (.inl h)
       · exact .inl h
       · exact .inr (.inr h)
     · rintro (h | h | h)
       · exact .inr (.inl h)
       · exact .inl h
       · exact .inr (.inr h)
   · simp
theorem fold_mem : ∀ (l acc : List Int) (y : Int), y ∈ l.foldl putS acc ↔ y ∈ acc ∨ y ∈ l
 | [], acc, y => by simp
 | x :: l, acc, y => by
   rw [List.foldl_cons, fold_mem l, putS_mem, List.mem_cons]
   constructor
   · rintro ((h | h) | h)
     · exact .inr (.inl h)
     · exact .inl h
     · exact .inr (.inr h)
   · rintro (h | h | h)
     · exact .inl (.inr h)
     · exact .inl (.inl h)
     · exact .inr h
theorem srtS_mem (l : List Int) (y : Int) : y ∈ srtS l ↔ y ∈ l := by
 unfold srtS
 rw [fold_mem]
 simp
theorem putS_is : ∀ (l : List Int) (x : Int) (k : Nat), k <= l.length -> (∀ j, j < k -> l.getD j 0 < x) -> (k < l.length -> ¬ l.getD k 0 < x) -> insL l k x = putS l x
 | [], x, k, hk, _, _ => by
   have : k = 0 := by simpa using hk
   subst this
   rfl
 | y :: l, x, 0, _, _, h2 => by
   have : ¬ y < x := by simpa using h2 (by simp)
   unfold putS insL
   rw [if_neg this]
   rfl
 | y :: l, x, k + 1, hk, h1, h2 => by
   have hy : y < x := by simpa using h1 0 (by omega)
   unfold putS
   rw [if_pos hy, <- putS_is l x k (by simpa using hk) (fun j hj => by simpa using h1 (j + 1) (by omega)) (fun h => by simpa using h2 (by simpa using h))]
   rfl
theorem putS_pair : ∀ (l : List Int) (x : Int), l.Pairwise (· < ·) -> x ∉ l -> (putS l x).Pairwise (· < ·)
 | [], x, _, _ => by simp [putS]
 | y :: l, x, h, hx => by
   rw [List.pairwise_cons] at h
   unfold putS
   split
   · rename_i hy
     rw [List.pairwise_cons]
     refine ⟨fun a ha => ?_, putS_pair l x h.2 (fun e => hx (List.mem_cons_of_mem _ e))⟩
     rcases (putS_mem l x a).1 ha with e | e
     · rw [e]; exact hy
     · exact h.1 a e
   · rename_i hy
     have hne : x ≠ y := fun e => hx (by rw [e]; exact List.mem_cons_self ..)
     rw [List.pairwise_cons]
     refine ⟨fun a ha => ?_, List.pairwise_cons.2 h⟩
     rcases List.mem_cons.1 ha with e | e
     · rw [e]; omega
     · have := h.1 a e
       omega
theorem fold_pair : ∀ (l acc : List Int), acc.Pairwise (· < ·) -> l.Nodup -> (∀ x ∈ l, x ∉ acc) -> (l.foldl putS acc).Pairwise (· < ·)
 | [], acc, h, _, _ => h
 | x :: l, acc, h, hn, hd => by
   rw [List.foldl_cons]
   rw [List.nodup_cons] at hn
   refine fold_pair l _ (putS_pair acc x h (hd x (List.mem_cons_self ..))) hn.2 (fun y hy e => ?_)
   rcases (putS_mem acc x y).1 e with e | e
   · rw [e] at hy; exact hn.1 hy
   · exact hd y (List.mem_cons_of_mem _ hy) e
theorem srtS_pair {l : List Int} (h : l.Nodup) : (srtS l).Pairwise (· < ·) := fold_pair l [] List.Pairwise.nil h (fun x _ => by simp)
theorem pair_lt {l : List Int} (h : l.Pairwise (· < ·)) {i j : Nat} (hi : i < j) (hj : j < l.length) : l.getD i 0 < l.getD j 0 := by
 have := List.pairwise_iff_getElem.1 h i j (by omega) hj hi
 rw [List.getD_eq_getElem?_getD, List.getD_eq_getElem?_getD, List.getElem?_eq_getElem hj, List.getElem?_eq_getElem (show i < l.length by omega)]
 exact this
theorem ins_swap {P D : List Int} {x : Int} {j : Nat} (hj : j < P.length) : ((insL P (j + 1) x ++ D).set (j + 1) (P.getD j 0)).set j x = insL P j x ++ D := by
 have hd : P.drop j = P.getD j 0 :: P.drop (j + 1) := by
  rw [List.drop_eq_getElem_cons hj, List.getD_eq_getElem?_getD, List.getElem?_eq_getElem hj]
  rfl
 have ht : P.take (j + 1) = P.take j ++ [P.getD j 0] := by
  rw [List.take_add_one, List.getD_eq_getElem?_getD, List.getElem?_eq_getElem hj]
  rfl
 have hl : (P.take j).length = j := by rw [List.length_take]; omega
 unfold insL
 rw [hd, ht]
 simp only [List.append_assoc, List.cons_append, List.nil_append]
 rw [List.set_append_right _ _ (by rw [hl]; omega), hl, show j + 1 - j = 1 by omega, List.set_append_right _ _ (by rw [hl]; omega), hl, Nat.sub_self]
 rfl
theorem ins_at {P D : List Int} {x : Int} {j : Nat} (hj : j <= P.length) : (insL P j x ++ D).getD j 0 = x := by
 have hl : (P.take j).length = j := by rw [List.length_take]; omega
 unfold insL
 rw [List.append_assoc, List.getD_eq_getElem?_getD, List.getElem?_append_right (by omega), hl, Nat.sub_self]
 rfl
theorem ins_ahead {P D : List Int} {x : Int} {j : Nat} (hj : j < P.length) : (insL P (j + 1) x ++ D).getD j 0 = P.getD j 0 := by
 unfold insL
 rw [List.append_assoc, List.getD_eq_getElem?_getD, List.getElem?_append_left (by rw [List.length_take]; omega), List.getElem?_take, if_pos (by omega), List.getD_eq_getElem?_getD]
theorem ins_done {P : List Int} {x : Int} {j : Nat} (hp : P.Pairwise (· < ·)) (hx : x ∉ P) (hj : j <= P.length) (h1 : ∀ q, j <= q -> q < P.length -> x < P.getD q 0) (h2 : 0 < j -> ¬ x < P.getD (j - 1) 0) : insL P j x = putS P x := by
 refine putS_is P x j hj (fun q hq => ?_) (fun h => by have := h1 j (Nat.le_refl _) h; omega)
 have h3 := h2 (by omega)
 have hm : P.getD (j - 1) 0 ∈ P := by rw [List.getD_eq_getElem?_getD, List.getElem?_eq_getElem (show j - 1 < P.length by omega)]; simp
 have hne : P.getD (j - 1) 0 ≠ x := fun e => hx (e ▸ hm)
 by_cases e : q = j - 1
 · rw [e]; omega
 · have := pair_lt hp (i := q) (j := j - 1) (by omega) (by omega)
   omega
theorem srt_one (l : List Int) : srtS (l.take 1) ++ l.drop 1 = l := by
 cases l with
 | nil => rfl
 | cons x l => rfl
theorem srt_next {l : List Int} {i : Nat} (h : i < l.length) : srtS (l.take (i + 1)) = putS (srtS (l.take i)) (l.getD i 0) := by
 rw [List.take_add_one, List.getElem?_eq_getElem h, List.getD_eq_getElem?_getD, List.getElem?_eq_getElem h]
 exact srtS_snoc _ _
theorem drop_next {l : List Int} {i : Nat} (h : i < l.length) : l.drop i = l.getD i 0 :: l.drop (i + 1) := by
 rw [List.drop_eq_getElem_cons h, List.getD_eq_getElem?_getD, List.getElem?_eq_getElem h]
 rfl
theorem ins_last (P : List Int) (x : Int) : insL P P.length x = P ++ [x] := by
 unfold insL
 rw [List.take_length, List.drop_length]
theorem take_notin {l : List Int} {i : Nat} (hn : l.Nodup) (h : i < l.length) : l.getD i 0 ∉ l.take i := by
 have : (l.take (i + 1)).Nodup := hn.sublist (List.take_sublist _ _)
 rw [List.take_add_one, List.getElem?_eq_getElem h] at this
 have h2 := List.nodup_append.1 this
 rw [List.getD_eq_getElem?_getD, List.getElem?_eq_getElem h]
 intro e
 exact h2.2.2 _ e _ (by simp) rfl
end Go.Proofs.YtmehgihjpefpmaaGreat

namespace Go.Proofs.YtmehgihjpefpmaaGreat
end Go.Proofs.YtmehgihjpefpmaaGreat

namespace Go.Proofs.YtmehgihjpefpmaaGreat
open Go.RowKit
def av (c : Nat) (pre : List Nat) : List Nat := (List.range c).filter fun p => decide (p ∉ pre)
end Go.Proofs.YtmehgihjpefpmaaGreat

namespace Go.Proofs.YtmehgihjpefpmaaGreat
def cutP (l : List Int) (v : Int) : List Int := l.filter fun x => x != v
theorem cutP_not {l : List Int} {v : Int} (h : v ∉ l) : cutP l v = l := by
 unfold cutP
 rw [List.filter_eq_self]
 intro a ha
 have : a ≠ v := fun e => h (e ▸ ha)
 simpa using this
theorem cutP_rem {l : List Int} (h : l.Nodup) : ∀ {i : Nat}, i < l.length -> cutP l (l.getD i 0) = remL l i := by
 induction l with
 | nil => intro i hi; simp at hi
 | cons a l ih =>
   intro i hi
   rw [List.nodup_cons] at h
   cases i with
   | zero =>
     show cutP (a :: l) a = _
     have e : cutP (a :: l) a = cutP l a := by simp [cutP]
     rw [e, cutP_not h.1]
     simp [remL]
   | succ i =>
     have hi' : i < l.length := by simpa using hi
     have e1 : (a :: l).getD (i + 1) 0 = l.getD i 0 := rfl
     have hne : a ≠ l.getD i 0 := by
      intro e
      apply h.1
      rw [e, List.getD_eq_getElem?_getD, List.getElem?_eq_getElem hi']
      simp
     have e2 : cutP (a :: l) (l.getD i 0) = a :: cutP l (l.getD i 0) := by
      unfold cutP
      rw [List.filter_cons_of_pos (by simpa using hne)]
     rw [e1, e2, ih h.2 hi']
     simp [remL]
theorem cutP_take_succ (l : List Int) (v : Int) (k : Nat) (h : k < l.length) : cutP (l.take (k + 1)) v = if l.getD k 0 = v then cutP (l.take k) v else cutP (l.take k) v ++ [l.getD k 0] := by
 have e : l.take (k + 1) = l.take k ++ [l.getD k 0] := by
  rw [List.take_add_one, List.getD_eq_getElem?_getD, List.getElem?_eq_getElem h]; rfl
 rw [e]
 unfold cutP
 rw [List.filter_append]
 by_cases hv : l.getD k 0 = v
 · rw [if_pos hv, hv]; simp
 · rw [if_neg hv]
   congr 1
   rw [List.filter_cons_of_pos (by simpa using hv)]; rfl
theorem cutP_le (l : List Int) (v : Int) : (cutP l v).length <= l.length := List.length_filter_le _ _
end Go.Proofs.YtmehgihjpefpmaaGreat
