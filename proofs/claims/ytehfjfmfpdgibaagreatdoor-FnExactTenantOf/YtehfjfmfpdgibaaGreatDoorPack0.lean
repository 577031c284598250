import Derived.WalkKit
import Derived.WalkSpells
import Derived.Deep.WholeRow
namespace Go.Proofs.YtehfjfmfpdgibaaGreatDoor
open Go.RowKit
theorem nmd {α : Sort _} (x : α) : ∃ v, Hid (x = v) := ⟨x, rfl⟩
theorem wpList_run {P : Program} {ops : Array Oper} {rest : List Oper} {o : Oper} {a : Act} {w w' : World} {Q : Exit -> Act -> World -> Prop} (v : Value) (hgd : o.guard = none)
 (hrun : (execOp a.eval o).run P w = .ok (.value v) w') (h : wpList P ops Q rest (a.put o.dst v) w') : wpList P ops Q (o :: rest) a w :=
 wpList_plain hgd fun _ hK => by unfold Oper.wp; rw [hrun]; exact hK _ _ h
theorem bcell {W w1 : World} (hb : Below W.heap.size W w1) : (∀ b o, b < W.heap.size -> w1.cell? ⟨b, o, none⟩ = W.cell? ⟨b, o, none⟩) /\ (∀ b o, b < W.heap.size -> w1.frozen? ⟨b, o, none⟩ = W.frozen? ⟨b, o, none⟩) :=
 ⟨fun b o h => hb.cell (p := ⟨b, o, none⟩) h, fun b o h => hb.frozen (p := ⟨b, o, none⟩) h⟩
theorem take_snoc (zs : List Int) (k : Nat) (h : k < zs.length) : zs.take (k + 1) = zs.take k ++ [zs.getD k 0] := by
 rw [List.take_succ_eq_append_getElem h]; simp [List.getD, h]
theorem ret_bool {a b : Bool} (h : a = b) : Ending.returned (.bool a) = .returned (.bool b) := by rw [h]
theorem ret_int {k : IntKind} {a b : Int} (h : a = b) : Ending.returned (.int k a) = .returned (.int k b) := by rw [h]
def inB (n lo hi : Int) : Bool := decide (lo <= n /\ n <= hi)
theorem inB_mk {n lo hi : Int} (h : lo <= n /\ n <= hi) : inB n lo hi = true := decide_eq_true h
theorem inB_not {n lo hi : Int} (h : ¬ (lo <= n /\ n <= hi)) : inB n lo hi = false := decide_eq_false h
theorem inB_true {n lo hi : Int} (h : inB n lo hi = true) : lo <= n /\ n <= hi := of_decide_eq_true h
def cellsOf (l : List Int) : Array Value := (l.map (Value.int .i64)).toArray
theorem cellsOf_size (l : List Int) : (cellsOf l).size = l.length := by simp [cellsOf]
theorem cellsOf_get (l : List Int) (i : Nat) (h : i < l.length) : (cellsOf l)[i]? = some (.int .i64 (l.getD i 0)) := by
 simp [cellsOf, List.getD, h]
theorem cellsOf_set (l : List Int) (i : Nat) (v : Int) : (cellsOf l).setIfInBounds i (.int .i64 v) = cellsOf (l.set i v) := by
 simp [cellsOf, List.map_set]
theorem cellsOf_one (l : List Int) : (cellsOf l).all (·.oneCell') = true := by
 simp [cellsOf, Value.oneCell']
theorem below_setRow {B : Nat} {a w : World} (h : Below B a w) {g : Nat} (hg : B <= g) (cs : Array Value) : Below B a (w.setRow g cs) :=
 h.trans ⟨rfl, rfl, rfl, by simp, fun k hk => setRow_other w g k cs (by omega)⟩
def IntsAt (w : World) (a : Option Addr) (zs : List Int) : Prop :=
 ∀ j, j < zs.length -> ∃ b off, a = some ⟨b, off, none⟩ /\ w.cell? ⟨b, off + j, none⟩ = some (.int .i64 (zs.getD j 0))
theorem IntsAt.some {w : World} {a : Option Addr} {zs : List Int} (h : IntsAt w a zs) {j : Nat} (hj : j < zs.length) :
 ∃ b off, a = some ⟨b, off, none⟩ /\ ∀ j, j < zs.length -> w.cell? ⟨b, off + j, none⟩ = .some (.int .i64 (zs.getD j 0)) := by
 obtain ⟨b, off, e, _⟩ := h j hj
 refine ⟨b, off, e, fun k hk => ?_⟩
 obtain ⟨b', off', e', hc⟩ := h k hk
 rw [e] at e'
 simp at e'
 obtain ⟨rfl, rfl⟩ := e'
 exact hc
theorem IntsAt.below {w w' : World} {a : Option Addr} {zs : List Int} (h : IntsAt w a zs) (hb : Below w.heap.size w w') : IntsAt w' a zs := by
 intro j hj
 obtain ⟨b, off, e, hc⟩ := h j hj
 refine ⟨b, off, e, ?_⟩
 have hl := block_lt_of_cell hc
 rw [hb.cell (p := ⟨b, off + j, none⟩) hl]
 exact hc
theorem IntsAt.of_row {w : World} {g : Nat} {zs : List Int} {t : TypeId} (h : w.heap[g]? = .some (.cells (cellsOf zs) t (0, 0))) : IntsAt w (.some ⟨g, 0, none⟩) zs := by
 intro j hj
 refine ⟨g, 0, rfl, ?_⟩
 rw [Nat.zero_add, cell_of_row _ _ _ _ _ _ h, cellsOf_get _ _ hj]
def matB (n : Int) (zs : List Int) : Bool :=
 decide (1 <= n /\ n <= 16 /\ (zs.length : Int) = n * n /\ ∀ i, i < zs.length -> 0 <= zs.getD i 0 /\ zs.getD i 0 <= 10000 /\ (i / n.toNat = i % n.toNat -> zs.getD i 0 = 0))
theorem matB_true {n : Int} {zs : List Int} (h : matB n zs = true) : 1 <= n /\ n <= 16 /\ (zs.length : Int) = n * n /\ ∀ i, i < zs.length -> 0 <= zs.getD i 0 /\ zs.getD i 0 <= 10000 /\ (i / n.toNat = i % n.toNat -> zs.getD i 0 = 0) :=
 of_decide_eq_true h
theorem matB_mk {n : Int} {zs : List Int} (h : 1 <= n /\ n <= 16 /\ (zs.length : Int) = n * n /\ ∀ i, i < zs.length -> 0 <= zs.getD i 0 /\ zs.getD i 0 <= 10000 /\ (i / n.toNat = i % n.toNat -> zs.getD i 0 = 0)) : matB n zs = true :=
 decide_eq_true h
theorem matB_not {n : Int} {zs : List Int} (h : ¬ (1 <= n /\ n <= 16 /\ (zs.length : Int) = n * n /\ ∀ i, i < zs.length -> 0 <= zs.getD i 0 /\ zs.getD i 0 <= 10000 /\ (i / n.toNat = i % n.toNat -> zs.getD i 0 = 0))) : matB n zs = false :=
 decide_eq_false h
def gridTo (n : Nat) (zs : List Int) (a b : Nat) : List Int :=
 (List.range 256).map fun k => if k / 16 < n /\ k % 16 < n /\ (k / 16 < a ∨ k / 16 = a /\ k % 16 < b) then zs.getD (k / 16 * n + k % 16) 0 else 0
theorem gridTo_length (n : Nat) (zs : List Int) (a b : Nat) : (gridTo n zs a b).length = 256 := by simp [gridTo]
theorem gridTo_step (n : Nat) (zs : List Int) (a b : Nat) (ha : a < n) (hb : b < n) (hn : n <= 16) :
 (gridTo n zs a b).set (a * 16 + b) (zs.getD (a * n + b) 0) = gridTo n zs a (b + 1) := by
 apply List.ext_getElem
 · simp [gridTo]
 · intro k h1 h2
   have hk := by simpa [gridTo] using h2
   by_cases e : a * 16 + b = k
   · subst e
     have e1 : (a * 16 + b) / 16 = a := by omega
     have e2 : (a * 16 + b) % 16 = b := by omega
     simp only [gridTo, List.getElem_set, List.getElem_map, List.getElem_range, e1, e2, if_true]
     rw [if_pos ⟨ha, hb, Or.inr ⟨trivial, by omega⟩⟩]
   · simp only [gridTo, List.getElem_set, List.getElem_map, List.getElem_range, if_neg e]
     have : ¬ (k / 16 = a /\ k % 16 = b) := by omega
     by_cases c : k / 16 < n /\ k % 16 < n /\ (k / 16 < a ∨ k / 16 = a /\ k % 16 < b)
     · rw [if_pos c, if_pos ⟨c.1, c.2.1, by omega⟩]
     · rw [if_neg c, if_neg (by omega)]
theorem gridTo_row (n : Nat) (zs : List Int) (a : Nat) : gridTo n zs a n = gridTo n zs (a + 1) 0 := by
 unfold gridTo
 apply List.map_congr_left
 intro k _
 by_cases c : k / 16 < n /\ k % 16 < n /\ (k / 16 < a ∨ k / 16 = a /\ k % 16 < n)
 · rw [if_pos c, if_pos (by omega)]
 · rw [if_neg c, if_neg (by omega)]
def zeros : List Int := (List.range 256).map fun _ => 0
theorem zeros_length : zeros.length = 256 := by simp [zeros]
theorem gridTo_zero (n : Nat) (zs : List Int) : gridTo n zs 0 0 = zeros := by
 unfold gridTo zeros
 apply List.map_congr_left
 intro k _
 rw [if_neg (by omega)]
def gridRes (n : Int) (zs : List Int) : List Int := if matB n zs = true then gridTo n.toNat zs n.toNat 0 else zeros
theorem gridRes_true {n : Nat} {zs : List Int} (h : matB n zs = true) : gridRes n zs = gridTo n zs n 0 := by
 unfold gridRes; rw [if_pos h]; simp
theorem gridRes_false {n : Int} {zs : List Int} (h : matB n zs = false) : gridRes n zs = zeros := by
 unfold gridRes; rw [h]; simp
theorem gridRes_length (n : Int) (zs : List Int) : (gridRes n zs).length = 256 := by
 unfold gridRes; split
 · exact gridTo_length _ _ _ _
 · exact zeros_length
def okTo (n : Nat) (zs : List Int) (a b : Nat) : Prop :=
 ∀ i j, i < n -> j < n -> (i < a ∨ i = a /\ j < b) -> 0 <= zs.getD (i * n + j) 0 /\ zs.getD (i * n + j) 0 <= 10000 /\ (i = j -> zs.getD (i * n + j) 0 = 0)
theorem okTo_zero (n : Nat) (zs : List Int) : okTo n zs 0 0 := by intro i j _ _ h; omega
theorem okTo_step {n : Nat} {zs : List Int} {a b : Nat} (h : okTo n zs a b) (h0 : 0 <= zs.getD (a * n + b) 0) (h1 : zs.getD (a * n + b) 0 <= 10000) (h2 : a = b -> zs.getD (a * n + b) 0 = 0) : okTo n zs a (b + 1) := by
 intro i j hi hj hij
 by_cases e : i = a /\ j = b
 · obtain ⟨rfl, rfl⟩ := e; exact ⟨h0, h1, h2⟩
 · exact h i j hi hj (by omega)
theorem okTo_row {n : Nat} {zs : List Int} {a : Nat} (h : okTo n zs a n) : okTo n zs (a + 1) 0 := by
 intro i j hi hj hij
 exact h i j hi hj (by omega)
theorem div_mod_at (n i j : Nat) (hj : j < n) : (i * n + j) / n = i /\ (i * n + j) % n = j := by
 have hn : 0 < n := by omega
 constructor
 · rw [Nat.add_comm, Nat.add_mul_div_right _ _ hn, Nat.div_eq_of_lt hj, Nat.zero_add]
 · rw [Nat.add_comm, Nat.add_mul_mod_self_right, Nat.mod_eq_of_lt hj]
theorem at_div_mod (n k : Nat) (h : k < n * n) : k / n < n /\ k % n < n /\ k / n * n + k % n = k := by
 have hn : 0 < n := by rcases Nat.eq_zero_or_pos n with e | e; · subst e; simp at h
                       exact e
 exact ⟨(Nat.div_lt_iff_lt_mul hn).2 h, Nat.mod_lt _ hn, by rw [Nat.mul_comm]; exact Nat.div_add_mod k n⟩
theorem matB_of_okTo (n : Nat) (zs : List Int) (h1 : 1 <= n) (h2 : n <= 16) (hl : zs.length = n * n) (h : okTo n zs n 0) : matB n zs = true := by
 refine matB_mk ⟨by omega, by omega, by rw [hl]; simp, fun i hi => ?_⟩
 obtain ⟨a, b, c⟩ := at_div_mod n i (by omega)
 have := h (i / n) (i % n) a b (Or.inl a)
 rw [c] at this
 simpa using this
theorem matB_bad (n : Nat) (zs : List Int) (x y : Nat) (hx : x < n) (hy : y < n) (hl : zs.length = n * n) (h : ¬ (0 <= zs.getD (x * n + y) 0 /\ zs.getD (x * n + y) 0 <= 10000 /\ (x = y -> zs.getD (x * n + y) 0 = 0))) : matB n zs = false := by
 refine matB_not fun ⟨_, _, _, hh⟩ => h ?_
 obtain ⟨e1, e2⟩ := div_mod_at n x y hy
 have hlt : x * n + y < zs.length := by
  rw [hl]
  have := Nat.mul_le_mul_right n (show x + 1 <= n by omega)
  rw [Nat.add_mul] at this
  omega
 have := hh (x * n + y) hlt
 simp only [Int.toNat_natCast, e1, e2] at this
 exact this
theorem mul_bd (a n : Nat) (h1 : a <= 16) (h2 : n <= 16) : a * n <= 256 := Nat.mul_le_mul h1 h2
theorem matB_all (n : Nat) (zs : List Int) (h1 : 1 <= n) (h2 : n <= 16) (hl : zs.length = n * n) (h : ∀ i, i < n * n -> 0 <= zs.getD i 0 /\ zs.getD i 0 <= 10000 /\ (i / n = i % n -> zs.getD i 0 = 0)) : matB n zs = true :=
 matB_mk ⟨by omega, by omega, by rw [hl]; simp, fun i hi => by rw [Int.toNat_natCast]; exact h i (by omega)⟩
theorem matB_at (n : Nat) (zs : List Int) (hl : zs.length = n * n) (k : Nat) (hk : k < n * n) (h : ¬ (0 <= zs.getD k 0 /\ zs.getD k 0 <= 10000 /\ (k / n = k % n -> zs.getD k 0 = 0))) : matB n zs = false :=
 matB_not fun ⟨_, _, _, hh⟩ => h (by have := hh k (by omega); rwa [Int.toNat_natCast] at this)
theorem below_row {B : Nat} {W w1 : World} (hb : Below B W w1) {k : Nat} {o : Obj} (hk : k < B) (h : W.heap[k]? = some o) : w1.heap[k]? = some o := by
 rw [hb.block k hk]; exact h
theorem row_lt {W : World} {k : Nat} {o : Obj} (h : W.heap[k]? = some o) : k < W.heap.size := by
 by_cases hlt : k < W.heap.size
 · exact hlt
 · have hn : W.heap[k]? = none := by simp; omega
   rw [hn] at h; cases h
theorem made_zero (n : Nat) : madeCells (Value.int .i64 0).cells (n * 1) = cellsOf (List.replicate n 0) := by
 apply Array.ext
 · simp [madeCells, cellsOf]
 · intro i h1 h2
   simp [madeCells, cellsOf, Value.cells, Nat.mod_one]
theorem copy_step (zs : List Int) (k : Nat) (h : k < zs.length) :
 (zs.take k ++ List.replicate (zs.length - k) 0).set k (zs.getD k 0) = zs.take (k + 1) ++ List.replicate (zs.length - (k + 1)) 0 := by
 have e : zs.length - k = (zs.length - (k + 1)) + 1 := by omega
 rw [e, List.replicate_succ, List.set_append_right _ _ (by simp; omega)]
 have hl : (zs.take k).length = k := by simp; omega
 have e2 : zs.getD k 0 = zs[k] := by simp [List.getD, h]
 rw [hl, Nat.sub_self, List.set_cons_zero, List.take_succ_eq_append_getElem h, e2, List.append_assoc]
 rfl
theorem ret_grid_eq {a b : List Int} {p q : Bool} (h : a = b) (k : p = q) : Ending.returned (.tuple #[.agg (cellsOf a), .bool p]) = Ending.returned (.tuple #[.agg (cellsOf b), .bool q]) := by rw [h, k]
def tm (n : Nat) (zs : List Int) (x y : Nat) : Int := zs.getD (x * n + y) 0
def og6 (zs : List Int) (i f : Nat) : Int := zs.getD (i * 6 + f) 0
theorem row6_at {w : World} {b off : Nat} {zs : List Int} {n : Nat} (h : ∀ j, j < zs.length -> w.cell? ⟨b, off + j, none⟩ = some (.int .i64 (zs.getD j 0))) (hl : zs.length = n * 6) (i : Nat) (hi : i < n) :
 w.cell? ⟨b, off + i * 6, none⟩ = some (.int .i64 (og6 zs i 0)) /\ w.cell? ⟨b, off + i * 6 + 1, none⟩ = some (.int .i64 (og6 zs i 1)) /\ w.cell? ⟨b, off + i * 6 + 2, none⟩ = some (.int .i64 (og6 zs i 2)) /\ w.cell? ⟨b, off + i * 6 + 3, none⟩ = some (.int .i64 (og6 zs i 3)) /\ w.cell? ⟨b, off + i * 6 + 4, none⟩ = some (.int .i64 (og6 zs i 4)) /\ w.cell? ⟨b, off + i * 6 + 5, none⟩ = some (.int .i64 (og6 zs i 5)) := by
 have hb : i * 6 + 6 <= zs.length := by omega
 refine ⟨?_, ?_, ?_, ?_, ?_, ?_⟩
 · exact h (i * 6) (by omega)
 · rw [Nat.add_assoc]; exact h (i * 6 + 1) (by omega)
 · rw [Nat.add_assoc]; exact h (i * 6 + 2) (by omega)
 · rw [Nat.add_assoc]; exact h (i * 6 + 3) (by omega)
 · rw [Nat.add_assoc]; exact h (i * 6 + 4) (by omega)
 · rw [Nat.add_assoc]; exact h (i * 6 + 5) (by omega)
def og5 (zs : List Int) (i f : Nat) : Int := zs.getD (i * 5 + f) 0
theorem row5_at {w : World} {b off : Nat} {zs : List Int} {n : Nat} (h : ∀ j, j < zs.length -> w.cell? ⟨b, off + j, none⟩ = some (.int .i64 (zs.getD j 0))) (hl : zs.length = n * 5) (i : Nat) (hi : i < n) :
 w.cell? ⟨b, off + i * 5, none⟩ = some (.int .i64 (og5 zs i 0)) /\ w.cell? ⟨b, off + i * 5 + 1, none⟩ = some (.int .i64 (og5 zs i 1)) /\ w.cell? ⟨b, off + i * 5 + 2, none⟩ = some (.int .i64 (og5 zs i 2)) /\ w.cell? ⟨b, off + i * 5 + 3, none⟩ = some (.int .i64 (og5 zs i 3)) /\ w.cell? ⟨b, off + i * 5 + 4, none⟩ = some (.int .i64 (og5 zs i 4)) := by
 have hb : i * 5 + 5 <= zs.length := by omega
 refine ⟨?_, ?_, ?_, ?_, ?_⟩
 · exact h (i * 5) (by omega)
 · rw [Nat.add_assoc]; exact h (i * 5 + 1) (by omega)
 · rw [Nat.add_assoc]; exact h (i * 5 + 2) (by omega)
 · rw [Nat.add_assoc]; exact h (i * 5 + 3) (by omega)
 · rw [Nat.add_assoc]; exact h (i * 5 + 4) (by omega)
def hoursB (f t : Int) : Bool := inB f 0 1000000 && inB t f 1000000
theorem hoursB_mk {f t : Int} (h1 : 0 <= f) (h2 : f <= t) (h3 : t <= 1000000) : hoursB f t = true := by
 unfold hoursB; rw [inB_mk (by omega), inB_mk (by omega)]; rfl
theorem hoursB_not {f t : Int} (h : ¬ (0 <= f /\ f <= t /\ t <= 1000000)) : hoursB f t = false := by
 unfold hoursB
 cases h1 : inB f 0 1000000
 · rfl
 · cases h2 : inB t f 1000000
   · rfl
   · have := inB_true h1; have := inB_true h2; omega
def ordIn (n o1 o2 o3 o4 o5 : Int) : Bool := inB o1 0 (n - 1) && inB o2 0 1000 && hoursB o3 o4 && inB o5 0 10000
def ordB (n o0 o1 o2 o3 o4 o5 : Int) : Bool := inB o0 1 1000000000 && ordIn n o1 o2 o3 o4 o5
def vehIn (n o1 o2 o3 o4 : Int) : Bool := inB o1 0 (n - 1) && inB o2 0 1000 && hoursB o3 o4
def vehB (n o0 o1 o2 o3 o4 : Int) : Bool := inB o0 1 1000000000 && vehIn n o1 o2 o3 o4
def ordsTo (n : Int) (zs : List Int) (k : Nat) : Prop := ∀ i, i < k -> ordB n (og6 zs i 0) (og6 zs i 1) (og6 zs i 2) (og6 zs i 3) (og6 zs i 4) (og6 zs i 5) = true /\ (0 < i -> og6 zs (i - 1) 0 < og6 zs i 0)
def ordsB (n : Int) (zs : List Int) (k : Nat) : Bool := decide (k <= 12 /\ ∀ i, i < k -> ordB n (og6 zs i 0) (og6 zs i 1) (og6 zs i 2) (og6 zs i 3) (og6 zs i 4) (og6 zs i 5) = true /\ (0 < i -> og6 zs (i - 1) 0 < og6 zs i 0))
theorem ordsB_yes {n : Int} {zs : List Int} {k : Nat} (h : k <= 12) (ht : ordsTo n zs k) : ordsB n zs k = true := by
 unfold ordsB
 exact decide_eq_true ⟨h, ht⟩
theorem ordsB_true {n : Int} {zs : List Int} {k : Nat} (h : ordsB n zs k = true) : k <= 12 /\ ordsTo n zs k := by
 unfold ordsB at h
 have := of_decide_eq_true h
 exact ⟨this.1, this.2⟩
theorem ordsB_many {n : Int} {zs : List Int} {k : Nat} (h : ¬ k <= 12) : ordsB n zs k = false := decide_eq_false fun x => h x.1
theorem ordsB_bad {n : Int} {zs : List Int} {m k : Nat} (hk : k < m) (h : ¬ (ordB n (og6 zs k 0) (og6 zs k 1) (og6 zs k 2) (og6 zs k 3) (og6 zs k 4) (og6 zs k 5) = true /\ (0 < k -> og6 zs (k - 1) 0 < og6 zs k 0))) : ordsB n zs m = false := decide_eq_false fun x => h (x.2 k hk)
theorem ordsTo_zero (n : Int) (zs : List Int) : ordsTo n zs 0 := fun i hi => by omega
theorem ordsTo_step {n : Int} {zs : List Int} {k : Nat} (h : ordsTo n zs k) (h1 : ordB n (og6 zs k 0) (og6 zs k 1) (og6 zs k 2) (og6 zs k 3) (og6 zs k 4) (og6 zs k 5) = true) (h2 : 0 < k -> og6 zs (k - 1) 0 < og6 zs k 0) : ordsTo n zs (k + 1) := by
 intro i hi
 by_cases e : i = k
 · subst e; exact ⟨h1, h2⟩
 · exact h i (by omega)
def ordsLast (zs : List Int) : Nat -> Int
 | 0 => 0
 | k + 1 => og6 zs k 0
theorem ordsLast_bd {n : Int} {zs : List Int} {k : Nat} (h : ordsTo n zs k) : 0 <= ordsLast zs k /\ ordsLast zs k <= 1000000000 := by
 cases k with
 | zero => simp [ordsLast]
 | succ k =>
   have h1 := (h k (by omega)).1
   unfold ordB at h1
   rw [Bool.and_eq_true] at h1
   have := inB_true h1.1
   show 0 <= og6 zs k 0 /\ og6 zs k 0 <= 1000000000
   omega
theorem ords_id {n : Int} {zs : List Int} {k : Nat} (h : ordsTo n zs k) (h1 : inB (og6 zs k 0) (ordsLast zs k + 1) 1000000000 = true) (h2 : ordIn n (og6 zs k 1) (og6 zs k 2) (og6 zs k 3) (og6 zs k 4) (og6 zs k 5) = true) :
 ordB n (og6 zs k 0) (og6 zs k 1) (og6 zs k 2) (og6 zs k 3) (og6 zs k 4) (og6 zs k 5) = true /\ (0 < k -> og6 zs (k - 1) 0 < og6 zs k 0) := by
 have hb := ordsLast_bd h
 have hi := inB_true h1
 refine ⟨?_, fun hk => ?_⟩
 · unfold ordB; rw [inB_mk (by omega), h2]; rfl
 · obtain ⟨j, rfl⟩ : ∃ j, k = j + 1 := ⟨k - 1, by omega⟩
   simp only [ordsLast] at hi
   simp only [Nat.add_sub_cancel]
   omega
theorem ords_id_no {n : Int} {zs : List Int} {k : Nat} (h : ¬ (inB (og6 zs k 0) (ordsLast zs k + 1) 1000000000 = true /\ ordIn n (og6 zs k 1) (og6 zs k 2) (og6 zs k 3) (og6 zs k 4) (og6 zs k 5) = true)) :
 ¬ (ordB n (og6 zs k 0) (og6 zs k 1) (og6 zs k 2) (og6 zs k 3) (og6 zs k 4) (og6 zs k 5) = true /\ (0 < k -> og6 zs (k - 1) 0 < og6 zs k 0)) := by
 rintro ⟨h1, h2⟩
 unfold ordB at h1
 rw [Bool.and_eq_true] at h1
 refine h ⟨inB_mk ?_, h1.2⟩
 have hi := inB_true h1.1
 cases k with
 | zero => simp only [ordsLast]; omega
 | succ j =>
   have := h2 (by omega)
   simp only [Nat.add_sub_cancel] at this
   simp only [ordsLast]
   omega
def vehsTo (n : Int) (zs : List Int) (k : Nat) : Prop := ∀ i, i < k -> vehB n (og5 zs i 0) (og5 zs i 1) (og5 zs i 2) (og5 zs i 3) (og5 zs i 4) = true /\ (0 < i -> og5 zs (i - 1) 0 < og5 zs i 0)
def vehsB (n : Int) (zs : List Int) (k : Nat) : Bool := decide (k <= 5 /\ ∀ i, i < k -> vehB n (og5 zs i 0) (og5 zs i 1) (og5 zs i 2) (og5 zs i 3) (og5 zs i 4) = true /\ (0 < i -> og5 zs (i - 1) 0 < og5 zs i 0))
theorem vehsB_yes {n : Int} {zs : List Int} {k : Nat} (h : k <= 5) (ht : vehsTo n zs k) : vehsB n zs k = true := by
 unfold vehsB
 exact decide_eq_true ⟨h, ht⟩
theorem vehsB_true {n : Int} {zs : List Int} {k : Nat} (h : vehsB n zs k = true) : k <= 5 /\ vehsTo n zs k := by
 unfold vehsB at h
 have := of_decide_eq_true h
 exact ⟨this.1, this.2⟩
theorem vehsB_many {n : Int} {zs : List Int} {k : Nat} (h : ¬ k <= 5) : vehsB n zs k = false := decide_eq_false fun x => h x.1
theorem vehsB_bad {n : Int} {zs : List Int} {m k : Nat} (hk : k < m) (h : ¬ (vehB n (og5 zs k 0) (og5 zs k 1) (og5 zs k 2) (og5 zs k 3) (og5 zs k 4) = true /\ (0 < k -> og5 zs (k - 1) 0 < og5 zs k 0))) : vehsB n zs m = false := decide_eq_false fun x => h (x.2 k hk)
theorem vehsTo_zero (n : Int) (zs : List Int) : vehsTo n zs 0 := fun i hi => by omega
theorem vehsTo_step {n : Int} {zs : List Int} {k : Nat} (h : vehsTo n zs k) (h1 : vehB n (og5 zs k 0) (og5 zs k 1) (og5 zs k 2) (og5 zs k 3) (og5 zs k 4) = true) (h2 : 0 < k -> og5 zs (k - 1) 0 < og5 zs k 0) : vehsTo n zs (k + 1) := by
 intro i hi
 by_cases e : i = k
 · subst e; exact ⟨h1, h2⟩
 · exact h i (by omega)
def vehsLast (zs : List Int) : Nat -> Int
 | 0 => 0
 | k + 1 => og5 zs k 0
theorem vehsLast_bd {n : Int} {zs : List Int} {k : Nat} (h : vehsTo n zs k) : 0 <= vehsLast zs k /\ vehsLast zs k <= 1000000000 := by
 cases k with
 | zero => simp [vehsLast]
 | succ k =>
   have h1 := (h k (by omega)).1
   unfold vehB at h1
   rw [Bool.and_eq_true] at h1
   have := inB_true h1.1
   show 0 <= og5 zs k 0 /\ og5 zs k 0 <= 1000000000
   omega
theorem vehs_id {n : Int} {zs : List Int} {k : Nat} (h : vehsTo n zs k) (h1 : inB (og5 zs k 0) (vehsLast zs k + 1) 1000000000 = true) (h2 : vehIn n (og5 zs k 1) (og5 zs k 2) (og5 zs k 3) (og5 zs k 4) = true) :
 vehB n (og5 zs k 0) (og5 zs k 1) (og5 zs k 2) (og5 zs k 3) (og5 zs k 4) = true /\ (0 < k -> og5 zs (k - 1) 0 < og5 zs k 0) := by
 have hb := vehsLast_bd h
 have hi := inB_true h1
 refine ⟨?_, fun hk => ?_⟩
 · unfold vehB; rw [inB_mk (by omega), h2]; rfl
 · obtain ⟨j, rfl⟩ : ∃ j, k = j + 1 := ⟨k - 1, by omega⟩
   simp only [vehsLast] at hi
   simp only [Nat.add_sub_cancel]
   omega
theorem vehs_id_no {n : Int} {zs : List Int} {k : Nat} (h : ¬ (inB (og5 zs k 0) (vehsLast zs k + 1) 1000000000 = true /\ vehIn n (og5 zs k 1) (og5 zs k 2) (og5 zs k 3) (og5 zs k 4) = true)) :
 ¬ (vehB n (og5 zs k 0) (og5 zs k 1) (og5 zs k 2) (og5 zs k 3) (og5 zs k 4) = true /\ (0 < k -> og5 zs (k - 1) 0 < og5 zs k 0)) := by
 rintro ⟨h1, h2⟩
 unfold vehB at h1
 rw [Bool.and_eq_true] at h1
 refine h ⟨inB_mk ?_, h1.2⟩
 have hi := inB_true h1.1
 cases k with
 | zero => simp only [vehsLast]; omega
 | succ j =>
   have := h2 (by omega)
   simp only [Nat.add_sub_cancel] at this
   simp only [vehsLast]
   omega
def caseB (n : Int) (zs os vs : List Int) (ko kv : Nat) (fine : Int) : Bool := matB n zs && ordsB n os ko && vehsB n vs kv && inB fine 0 1000000
theorem box5 {w w1 : World} {c0 c1 c2 c3 c4 : Value} {T : TypeId} (hb : Below (w.alloc (.cells #[c0, c1, c2, c3, c4] T)).heap.size (w.alloc (.cells #[c0, c1, c2, c3, c4] T)) w1) :
 Below w.heap.size w w1 /\ w1.heap[w.heap.size]? = some (.cells #[c0, c1, c2, c3, c4] T (0, 0)) :=
 ⟨((Below.refl _ _).alloc (Nat.le_refl _) _).trans (hb.mono (by simp)), below_row hb (by simp) (heap_alloc_new _ _)⟩
theorem box_more {w w1 w2 : World} {k : Nat} {o : Obj} (hb : Below w1.heap.size w1 w2) (hB : Below w.heap.size w w1) (hr : w1.heap[k]? = some o) :
 Below w.heap.size w w2 /\ w2.heap[k]? = some o := ⟨hB.trans (hb.mono hB.size), below_row hb (row_lt hr) hr⟩
theorem cells5 {w : World} {k : Nat} {c0 c1 c2 c3 c4 : Value} {T : TypeId} (r : w.heap[k]? = some (.cells #[c0, c1, c2, c3, c4] T (0, 0))) :
 w.cell? ⟨k, 0, none⟩ = some c0 /\ w.cell? ⟨k, 1, none⟩ = some c1 /\ w.cell? ⟨k, 2, none⟩ = some c2 /\ w.cell? ⟨k, 3, none⟩ = some c3 /\ w.cell? ⟨k, 4, none⟩ = some c4 := by
 refine ⟨?_, ?_, ?_, ?_, ?_⟩
 · rw [cell_of_row _ _ 0 _ _ _ r]; simp
 · rw [cell_of_row _ _ 1 _ _ _ r]; simp
 · rw [cell_of_row _ _ 2 _ _ _ r]; simp
 · rw [cell_of_row _ _ 3 _ _ _ r]; simp
 · rw [cell_of_row _ _ 4 _ _ _ r]; simp
theorem cells6 {w : World} {k : Nat} {c0 c1 c2 c3 c4 c5 : Value} {T : TypeId} (r : w.heap[k]? = some (.cells #[c0, c1, c2, c3, c4, c5] T (0, 0))) :
 w.cell? ⟨k, 0, none⟩ = some c0 /\ w.cell? ⟨k, 1, none⟩ = some c1 /\ w.cell? ⟨k, 2, none⟩ = some c2 /\ w.cell? ⟨k, 3, none⟩ = some c3 /\ w.cell? ⟨k, 4, none⟩ = some c4 /\ w.cell? ⟨k, 5, none⟩ = some c5 := by
 refine ⟨?_, ?_, ?_, ?_, ?_, ?_⟩
 · rw [cell_of_row _ _ 0 _ _ _ r]; simp
 · rw [cell_of_row _ _ 1 _ _ _ r]; simp
 · rw [cell_of_row _ _ 2 _ _ _ r]; simp
 · rw [cell_of_row _ _ 3 _ _ _ r]; simp
 · rw [cell_of_row _ _ 4 _ _ _ r]; simp
 · rw [cell_of_row _ _ 5 _ _ _ r]; simp
end Go.Proofs.YtehfjfmfpdgibaaGreatDoor

namespace Go.Proofs.YtehfjfmfpdgibaaGreatDoor
def fnd6 (zs : List Int) (n : Nat) (id : Int) : Option Nat := (List.range n).find? fun i => og6 zs i 0 == id
def fnd6T (zs : List Int) (n : Nat) (id : Int) : Bool := (fnd6 zs n id).isSome
def fnd6F (zs : List Int) (n : Nat) (id : Int) (f : Nat) : Int := match fnd6 zs n id with
 | some i => og6 zs i f
 | none => 0
theorem fnd6_at {zs : List Int} {n : Nat} {id : Int} {i : Nat} (hi : i < n) (h : og6 zs i 0 = id) (hno : ∀ j, j < i -> og6 zs j 0 ≠ id) : fnd6 zs n id = some i := by
 unfold fnd6
 rw [List.find?_range_eq_some]
 exact ⟨by simp [h], by simpa using hi, fun j hj => by simpa using hno j hj⟩
theorem fnd6_none {zs : List Int} {n : Nat} {id : Int} (hno : ∀ j, j < n -> og6 zs j 0 ≠ id) : fnd6 zs n id = none := by
 unfold fnd6
 rw [List.find?_eq_none]
 intro j hj
 have := hno j (by simpa using hj)
 simpa using this
theorem fnd6F_at {zs : List Int} {n : Nat} {id : Int} {i : Nat} (h : fnd6 zs n id = some i) (f : Nat) : fnd6F zs n id f = og6 zs i f := by unfold fnd6F; rw [h]
theorem fnd6F_none {zs : List Int} {n : Nat} {id : Int} (h : fnd6 zs n id = none) (f : Nat) : fnd6F zs n id f = 0 := by unfold fnd6F; rw [h]
theorem fnd6T_at {zs : List Int} {n : Nat} {id : Int} {i : Nat} (h : fnd6 zs n id = some i) : fnd6T zs n id = true := by unfold fnd6T; rw [h]; rfl
theorem fnd6T_none {zs : List Int} {n : Nat} {id : Int} (h : fnd6 zs n id = none) : fnd6T zs n id = false := by unfold fnd6T; rw [h]; rfl
def fnd5 (zs : List Int) (n : Nat) (id : Int) : Option Nat := (List.range n).find? fun i => og5 zs i 0 == id
def fnd5T (zs : List Int) (n : Nat) (id : Int) : Bool := (fnd5 zs n id).isSome
def fnd5F (zs : List Int) (n : Nat) (id : Int) (f : Nat) : Int := match fnd5 zs n id with
 | some i => og5 zs i f
 | none => 0
theorem fnd5_at {zs : List Int} {n : Nat} {id : Int} {i : Nat} (hi : i < n) (h : og5 zs i 0 = id) (hno : ∀ j, j < i -> og5 zs j 0 ≠ id) : fnd5 zs n id = some i := by
 unfold fnd5
 rw [List.find?_range_eq_some]
 exact ⟨by simp [h], by simpa using hi, fun j hj => by simpa using hno j hj⟩
theorem fnd5_none {zs : List Int} {n : Nat} {id : Int} (hno : ∀ j, j < n -> og5 zs j 0 ≠ id) : fnd5 zs n id = none := by
 unfold fnd5
 rw [List.find?_eq_none]
 intro j hj
 have := hno j (by simpa using hj)
 simpa using this
theorem fnd5F_at {zs : List Int} {n : Nat} {id : Int} {i : Nat} (h : fnd5 zs n id = some i) (f : Nat) : fnd5F zs n id f = og5 zs i f := by unfold fnd5F; rw [h]
theorem fnd5F_none {zs : List Int} {n : Nat} {id : Int} (h : fnd5 zs n id = none) (f : Nat) : fnd5F zs n id f = 0 := by unfold fnd5F; rw [h]
theorem fnd5T_at {zs : List Int} {n : Nat} {id : Int} {i : Nat} (h : fnd5 zs n id = some i) : fnd5T zs n id = true := by unfold fnd5T; rw [h]; rfl
theorem fnd5T_none {zs : List Int} {n : Nat} {id : Int} (h : fnd5 zs n id = none) : fnd5T zs n id = false := by unfold fnd5T; rw [h]; rfl
end Go.Proofs.YtehfjfmfpdgibaaGreatDoor

namespace Go.Proofs.YtehfjfmfpdgibaaGreatDoor
open Go.RowKit
def loadTo (os : List Int) (ko : Nat) (ids : List Int) : Nat -> Int
 | 0 => 0
 | k + 1 => loadTo os ko ids k + fnd6F os ko (ids.getD k 0) 2
theorem fnd6F_load {n : Int} {os : List Int} {ko : Nat} (h : ordsB n os ko = true) (id : Int) : 0 <= fnd6F os ko id 2 /\ fnd6F os ko id 2 <= 1000 := by
 unfold fnd6F
 cases hf : fnd6 os ko id with
 | none => simp
 | some i =>
   have hi : i < ko := by
    unfold fnd6 at hf
    rw [List.find?_range_eq_some] at hf
    have := hf.2.1
    simpa using this
   have := ((ordsB_true h).2 i hi).1
   unfold ordB ordIn at this
   simp only [Bool.and_eq_true] at this
   have := inB_true this.2.1.1.2
   simpa using this
theorem caseB_ords {n : Int} {zs os vs : List Int} {ko kv : Nat} {fine : Int} (h : caseB n zs os vs ko kv fine = true) : ordsB n os ko = true := by
 unfold caseB at h
 simp only [Bool.and_eq_true] at h
 exact h.1.1.2
theorem loadTo_bd {n : Int} {os : List Int} {ko : Nat} (h : ordsB n os ko = true) (ids : List Int) : ∀ k, 0 <= loadTo os ko ids k /\ loadTo os ko ids k <= 1000 * k
 | 0 => by simp [loadTo]
 | k + 1 => by
   have ih := loadTo_bd h ids k
   have := fnd6F_load h (ids.getD k 0)
   unfold loadTo
   omega
def hasTo (ids : List Int) (k : Nat) (id : Int) : Bool := (List.range k).any fun j => ids.getD j 0 == id
theorem hasTo_yes {ids : List Int} {k j : Nat} {id : Int} (hj : j < k) (h : ids.getD j 0 = id) : hasTo ids k id = true := by
 unfold hasTo
 rw [List.any_eq_true]
 exact ⟨j, by simpa using hj, by rw [h]; simp⟩
theorem hasTo_no {ids : List Int} {k : Nat} {id : Int} (h : ∀ j, j < k -> ids.getD j 0 ≠ id) : hasTo ids k id = false := by
 unfold hasTo
 rw [List.any_eq_false]
 intro j hj
 have := h j (by simpa using hj)
 simpa using this
def stopB (os : List Int) (ko : Nat) (ids : List Int) (k : Nat) : Bool := fnd6T os ko (ids.getD k 0) && !hasTo ids k (ids.getD k 0)
def stopsTo (os : List Int) (ko : Nat) (ids : List Int) (k : Nat) : Prop := ∀ j, j < k -> stopB os ko ids j = true
def stopsB (os : List Int) (ko : Nat) (ids : List Int) : Bool := decide (ids.length <= 12 /\ ∀ j, j < ids.length -> stopB os ko ids j = true)
theorem stopsB_yes {os : List Int} {ko : Nat} {ids : List Int} (h : ids.length <= 12) (ht : stopsTo os ko ids ids.length) : stopsB os ko ids = true := by
 unfold stopsB
 exact decide_eq_true ⟨h, ht⟩
theorem stopsB_true {os : List Int} {ko : Nat} {ids : List Int} (h : stopsB os ko ids = true) : ids.length <= 12 /\ stopsTo os ko ids ids.length := by
 unfold stopsB at h
 have := of_decide_eq_true h
 exact ⟨this.1, this.2⟩
theorem stopsB_many {os : List Int} {ko : Nat} {ids : List Int} (h : ¬ ids.length <= 12) : stopsB os ko ids = false := decide_eq_false fun x => h x.1
theorem stopsB_bad {os : List Int} {ko : Nat} {ids : List Int} {k : Nat} (hk : k < ids.length) (h : stopB os ko ids k = false) : stopsB os ko ids = false := decide_eq_false fun x => by
 have := x.2 k hk
 rw [h] at this
 cases this
theorem stopsTo_zero (os : List Int) (ko : Nat) (ids : List Int) : stopsTo os ko ids 0 := fun j hj => by omega
theorem stopsTo_step {os : List Int} {ko : Nat} {ids : List Int} {k : Nat} (h : stopsTo os ko ids k) (h1 : stopB os ko ids k = true) : stopsTo os ko ids (k + 1) := by
 intro j hj
 by_cases e : j = k
 · rw [e]; exact h1
 · exact h j (by omega)
theorem stopB_mk {os : List Int} {ko : Nat} {ids : List Int} {k : Nat} {id : Int} (hid : ids.getD k 0 = id) {a b : Bool} (h1 : fnd6T os ko id = a) (h2 : hasTo ids k id = b) : stopB os ko ids k = (a && !b) := by
 unfold stopB
 rw [hid, h1, h2]
def formV (c : Bool) (vs os : List Int) (kv ko : Nat) (veh : Int) (ids : List Int) : Int :=
 if c = false then 1 else if fnd5T vs kv veh = false then 2 else if stopsB os ko ids = false then 3 else if fnd5F vs kv veh 2 < loadTo os ko ids ids.length then 4 else 0
theorem formV_1 {c : Bool} {vs os : List Int} {kv ko : Nat} {veh : Int} {ids : List Int} (h : c = false) : formV c vs os kv ko veh ids = 1 := by
 unfold formV; rw [if_pos h]
theorem formV_2 {c : Bool} {vs os : List Int} {kv ko : Nat} {veh : Int} {ids : List Int} (h : c = true) (h2 : fnd5T vs kv veh = false) : formV c vs os kv ko veh ids = 2 := by
 unfold formV; rw [if_neg (by simp [h]), if_pos h2]
theorem formV_3 {c : Bool} {vs os : List Int} {kv ko : Nat} {veh : Int} {ids : List Int} (h : c = true) (h2 : fnd5T vs kv veh = true) (h3 : stopsB os ko ids = false) : formV c vs os kv ko veh ids = 3 := by
 unfold formV; rw [if_neg (by simp [h]), if_neg (by simp [h2]), if_pos h3]
theorem formV_4 {c : Bool} {vs os : List Int} {kv ko : Nat} {veh : Int} {ids : List Int} (h : c = true) (h2 : fnd5T vs kv veh = true) (h3 : stopsB os ko ids = true) (h4 : fnd5F vs kv veh 2 < loadTo os ko ids ids.length) : formV c vs os kv ko veh ids = 4 := by
 unfold formV; rw [if_neg (by simp [h]), if_neg (by simp [h2]), if_neg (by simp [h3]), if_pos h4]
theorem formV_0 {c : Bool} {vs os : List Int} {kv ko : Nat} {veh : Int} {ids : List Int} (h : c = true) (h2 : fnd5T vs kv veh = true) (h3 : stopsB os ko ids = true) (h4 : ¬ fnd5F vs kv veh 2 < loadTo os ko ids ids.length) : formV c vs os kv ko veh ids = 0 := by
 unfold formV; rw [if_neg (by simp [h]), if_neg (by simp [h2]), if_neg (by simp [h3]), if_neg h4]
theorem formV_zero {c : Bool} {vs os : List Int} {kv ko : Nat} {veh : Int} {ids : List Int} (h : formV c vs os kv ko veh ids = 0) : c = true /\ fnd5T vs kv veh = true /\ stopsB os ko ids = true := by
 unfold formV at h
 by_cases c1 : c = false
 · rw [if_pos c1] at h; omega
 · rw [if_neg c1] at h
   by_cases c2 : fnd5T vs kv veh = false
   · rw [if_pos c2] at h; omega
   · rw [if_neg c2] at h
     by_cases c3 : stopsB os ko ids = false
     · rw [if_pos c3] at h; omega
     · exact ⟨by simpa using c1, by simpa using c2, by simpa using c3⟩
def rosOf (os : List Int) (ko : Nat) (ids : List Int) : List Int := (List.range (ids.length * 6)).map fun j => fnd6F os ko (ids.getD (j / 6) 0) (j % 6)
theorem rosOf_length (os : List Int) (ko : Nat) (ids : List Int) : (rosOf os ko ids).length = ids.length * 6 := by simp [rosOf]
theorem rosOf_at (os : List Int) (ko : Nat) (ids : List Int) {k f : Nat} (hk : k < ids.length) (hf : f < 6) : og6 (rosOf os ko ids) k f = fnd6F os ko (ids.getD k 0) f := by
 unfold og6 rosOf
 have hj : k * 6 + f < ids.length * 6 := by omega
 have e1 : (k * 6 + f) / 6 = k := by omega
 have e2 : (k * 6 + f) % 6 = f := by omega
 rw [List.getD, List.getElem?_map, List.getElem?_range hj]
 simp only [Option.map_some, Option.getD_some, e1, e2]
theorem fnd6F_bd {n : Int} {os : List Int} {ko : Nat} (h : ordsB n os ko = true) (hn : 1 <= n) (id : Int) :
 (0 <= fnd6F os ko id 1 /\ fnd6F os ko id 1 < n) /\ (0 <= fnd6F os ko id 2 /\ fnd6F os ko id 2 <= 1000) /\ (0 <= fnd6F os ko id 3 /\ fnd6F os ko id 3 <= 1000000) /\ (0 <= fnd6F os ko id 4 /\ fnd6F os ko id 4 <= 1000000) /\ (0 <= fnd6F os ko id 5 /\ fnd6F os ko id 5 <= 10000) := by
 unfold fnd6F
 cases hf : fnd6 os ko id with
 | none => simp; omega
 | some i =>
   have hi : i < ko := by
    unfold fnd6 at hf
    rw [List.find?_range_eq_some] at hf
    have := hf.2.1
    simpa using this
   have := ((ordsB_true h).2 i hi).1
   unfold ordB ordIn hoursB at this
   simp only [Bool.and_eq_true] at this
   obtain ⟨_, ⟨⟨h1, h2⟩, h3, h4⟩, h5⟩ := this
   have h1 := inB_true h1
   have h2 := inB_true h2
   have h3 := inB_true h3
   have h4 := inB_true h4
   have h5 := inB_true h5
   simp only []
   omega
theorem fnd5F_bd {n : Int} {vs : List Int} {kv : Nat} (h : vehsB n vs kv = true) (hn : 1 <= n) (id : Int) :
 (0 <= fnd5F vs kv id 1 /\ fnd5F vs kv id 1 < n) /\ (0 <= fnd5F vs kv id 2 /\ fnd5F vs kv id 2 <= 1000) /\ (0 <= fnd5F vs kv id 3 /\ fnd5F vs kv id 3 <= 1000000) /\ (0 <= fnd5F vs kv id 4 /\ fnd5F vs kv id 4 <= 1000000) := by
 unfold fnd5F
 cases hf : fnd5 vs kv id with
 | none => simp; omega
 | some i =>
   have hi : i < kv := by
    unfold fnd5 at hf
    rw [List.find?_range_eq_some] at hf
    have := hf.2.1
    simpa using this
   have := ((vehsB_true h).2 i hi).1
   unfold vehB vehIn hoursB at this
   simp only [Bool.and_eq_true] at this
   obtain ⟨_, ⟨h1, h2⟩, h3, h4⟩ := this
   have h1 := inB_true h1
   have h2 := inB_true h2
   have h3 := inB_true h3
   have h4 := inB_true h4
   simp only []
   omega
theorem caseB_parts {n : Int} {zs os vs : List Int} {ko kv : Nat} {fine : Int} (h : caseB n zs os vs ko kv fine = true) : matB n zs = true /\ ordsB n os ko = true /\ vehsB n vs kv = true /\ 1 <= n /\ 0 <= fine /\ fine <= 1000000 := by
 unfold caseB at h
 simp only [Bool.and_eq_true] at h
 exact ⟨h.1.1.1, h.1.1.2, h.1.2, (matB_true h.1.1.1).1, inB_true h.2⟩
def tmI (n : Int) (zs : List Int) (x y : Int) : Int := zs.getD (x.toNat * n.toNat + y.toNat) 0
theorem tmI_bd {n : Int} {zs : List Int} (h : matB n zs = true) (x y : Int) : 0 <= tmI n zs x y /\ tmI n zs x y <= 10000 := by
 unfold tmI
 by_cases hl : x.toNat * n.toNat + y.toNat < zs.length
 · have := (matB_true h).2.2.2 _ hl
   exact ⟨this.1, this.2.1⟩
 · rw [List.getD, List.getElem?_eq_none (by omega)]
   simp
def plc (ros : List Int) (home : Int) : Nat -> Int
 | 0 => home
 | k + 1 => og6 ros k 1
def RosBd (n : Int) (ros : List Int) (m : Nat) : Prop := ∀ k, k < m -> (0 <= og6 ros k 1 /\ og6 ros k 1 < n) /\ (0 <= og6 ros k 2 /\ og6 ros k 2 <= 1000) /\ (0 <= og6 ros k 3 /\ og6 ros k 3 <= 1000000) /\ (0 <= og6 ros k 4 /\ og6 ros k 4 <= 1000000) /\ (0 <= og6 ros k 5 /\ og6 ros k 5 <= 10000)
theorem rosBd_of {n : Int} {os : List Int} {ko : Nat} (h : ordsB n os ko = true) (hn : 1 <= n) (ids : List Int) : RosBd n (rosOf os ko ids) ids.length := by
 intro k hk
 rw [rosOf_at os ko ids hk (by omega), rosOf_at os ko ids hk (by omega), rosOf_at os ko ids hk (by omega), rosOf_at os ko ids hk (by omega), rosOf_at os ko ids hk (by omega)]
 exact fnd6F_bd h hn _
theorem plc_bd {n : Int} {ros : List Int} {m : Nat} (h : RosBd n ros m) {home : Int} (h0 : 0 <= home) (h1 : home < n) : ∀ k, k <= m -> 0 <= plc ros home k /\ plc ros home k < n
 | 0, _ => ⟨h0, h1⟩
 | k + 1, hk => (h k (by omega)).1
def nowT (n : Int) (zs ros : List Int) (home frm : Int) : Nat -> Int
 | 0 => frm
 | k + 1 => max (nowT n zs ros home frm k + tmI n zs (plc ros home k) (og6 ros k 1)) (og6 ros k 3) + og6 ros k 5
def arrV (n : Int) (zs ros : List Int) (home frm : Int) (k : Nat) : Int := nowT n zs ros home frm k + tmI n zs (plc ros home k) (og6 ros k 1)
def startV (n : Int) (zs ros : List Int) (home frm : Int) (k : Nat) : Int := max (arrV n zs ros home frm k) (og6 ros k 3)
theorem nowT_succ (n : Int) (zs ros : List Int) (home frm : Int) (k : Nat) : nowT n zs ros home frm (k + 1) = startV n zs ros home frm k + og6 ros k 5 := rfl
def homeV (n : Int) (zs ros : List Int) (m : Nat) (home frm : Int) : Int := nowT n zs ros home frm m + tmI n zs (plc ros home m) home
theorem nowT_bd {n : Int} {zs ros : List Int} {m : Nat} {home frm : Int} (hz : matB n zs = true) (h : RosBd n ros m) (hf : 0 <= frm /\ frm <= 1000000) : ∀ k, k <= m -> 0 <= nowT n zs ros home frm k /\ nowT n zs ros home frm k <= 1000000 + 20000 * k
 | 0, _ => by simp only [nowT]; omega
 | k + 1, hk => by
   have ih := nowT_bd (home := home) hz h hf k (by omega)
   have h1 := tmI_bd hz (plc ros home k) (og6 ros k 1)
   have h2 := h k (by omega)
   simp only [nowT]
   omega
def timelyTo (n : Int) (zs ros : List Int) (home frm : Int) (k : Nat) : Prop := ∀ j, j < k -> startV n zs ros home frm j <= og6 ros j 4
theorem timelyTo_step {n : Int} {zs ros : List Int} {home frm : Int} {k : Nat} (h : timelyTo n zs ros home frm k) (h1 : startV n zs ros home frm k <= og6 ros k 4) : timelyTo n zs ros home frm (k + 1) := by
 intro j hj
 by_cases e : j = k
 · rw [e]; exact h1
 · exact h j (by omega)
def hoursV (n : Int) (zs ros : List Int) (m : Nat) (home frm to : Int) : Int :=
 if ∀ j, j < m -> startV n zs ros home frm j <= og6 ros j 4 then (if to < homeV n zs ros m home frm then 6 else 0) else 5
theorem hoursV_late {n : Int} {zs ros : List Int} {m : Nat} {home frm to : Int} {k : Nat} (hk : k < m) (h : og6 ros k 4 < startV n zs ros home frm k) : hoursV n zs ros m home frm to = 5 := by
 unfold hoursV
 rw [if_neg (fun x => by have := x k hk; omega)]
theorem hoursV_home {n : Int} {zs ros : List Int} {m : Nat} {home frm to : Int} (h : timelyTo n zs ros home frm m) (h2 : to < homeV n zs ros m home frm) : hoursV n zs ros m home frm to = 6 := by
 have h : ∀ j, j < m -> startV n zs ros home frm j <= og6 ros j 4 := h
 unfold hoursV
 rw [if_pos h, if_pos h2]
theorem hoursV_ok {n : Int} {zs ros : List Int} {m : Nat} {home frm to : Int} (h : timelyTo n zs ros home frm m) (h2 : ¬ to < homeV n zs ros m home frm) : hoursV n zs ros m home frm to = 0 := by
 have h : ∀ j, j < m -> startV n zs ros home frm j <= og6 ros j 4 := h
 unfold hoursV
 rw [if_pos h, if_neg h2]
def codeV (c : Bool) (n : Int) (zs os vs : List Int) (ko kv : Nat) (veh : Int) (ids : List Int) : Int :=
 if formV c vs os kv ko veh ids = 0 then hoursV n zs (rosOf os ko ids) ids.length (fnd5F vs kv veh 1) (fnd5F vs kv veh 3) (fnd5F vs kv veh 4) else formV c vs os kv ko veh ids
theorem codeV_form {c : Bool} {n : Int} {zs os vs : List Int} {ko kv : Nat} {veh : Int} {ids : List Int} (h : formV c vs os kv ko veh ids ≠ 0) : codeV c n zs os vs ko kv veh ids = formV c vs os kv ko veh ids := by
 unfold codeV; rw [if_neg h]
theorem codeV_hours {c : Bool} {n : Int} {zs os vs : List Int} {ko kv : Nat} {veh : Int} {ids : List Int} (h : formV c vs os kv ko veh ids = 0) : codeV c n zs os vs ko kv veh ids = hoursV n zs (rosOf os ko ids) ids.length (fnd5F vs kv veh 1) (fnd5F vs kv veh 3) (fnd5F vs kv veh 4) := by
 unfold codeV; rw [if_pos h]
theorem codeV_zero {c : Bool} {n : Int} {zs os vs : List Int} {ko kv : Nat} {veh : Int} {ids : List Int} (h : codeV c n zs os vs ko kv veh ids = 0) : formV c vs os kv ko veh ids = 0 /\ hoursV n zs (rosOf os ko ids) ids.length (fnd5F vs kv veh 1) (fnd5F vs kv veh 3) (fnd5F vs kv veh 4) = 0 := by
 by_cases h1 : formV c vs os kv ko veh ids = 0
 · exact ⟨h1, by rw [codeV_hours h1] at h; exact h⟩
 · exact absurd (by rw [codeV_form h1] at h; exact h) h1
theorem str_ne {f t : ByteArray} (h : ¬ f = t) : (f.toList == t.toList) = false := by
 rw [ByteArray.toList_eq, ByteArray.toList_eq]
 apply beq_eq_false_iff_ne.2
 intro e
 exact h (ByteArray.ext (Array.toList_inj.1 e))
theorem str_eq {f t : ByteArray} (h : f = t) : (f.toList == t.toList) = true := by
 rw [h]
 exact beq_self_eq_true _
def ltT (x y : ByteArray) : Bool := Op.bytesLess x.toList y.toList
theorem bl_irr : ∀ x : List UInt8, Op.bytesLess x x = false
 | [] => rfl
 | a :: x => by
   rw [Op.bytesLess, bl_irr x]
   simp
theorem bl_trans : ∀ x y z : List UInt8, Op.bytesLess x y = true -> Op.bytesLess y z = true -> Op.bytesLess x z = true
 | _, [], _, h, _ => by simp [Op.bytesLess] at h
 | _, _ :: _, [], _, h => by simp [Op.bytesLess] at h
 | [], _ :: _, _ :: _, _, _ => by simp [Op.bytesLess]
 | a :: x, b :: y, c :: z, h1, h2 => by
   simp only [Op.bytesLess, Bool.or_eq_true, Bool.and_eq_true, decide_eq_true_eq, beq_iff_eq] at h1 h2 ⊢
   rcases h1 with h1 | ⟨rfl, h1⟩
   · rcases h2 with h2 | ⟨rfl, _⟩
     · exact .inl (UInt8.lt_trans h1 h2)
     · exact .inl h1
   · rcases h2 with h2 | ⟨rfl, h2⟩
     · exact .inl h2
     · exact .inr ⟨rfl, bl_trans x y z h1 h2⟩
theorem bl_tri : ∀ x y : List UInt8, Op.bytesLess x y = false -> Op.bytesLess y x = false -> x = y
 | [], [], _, _ => rfl
 | [], _ :: _, h, _ => by simp [Op.bytesLess] at h
 | _ :: _, [], _, h => by simp [Op.bytesLess] at h
 | a :: x, b :: y, h1, h2 => by
   simp only [Op.bytesLess, Bool.or_eq_false_iff, decide_eq_false_iff_not, Bool.and_eq_false_iff] at h1 h2
   have e : a = b := by
    rcases Nat.lt_trichotomy a.toNat b.toNat with h | h | h
    · exact absurd (UInt8.lt_iff_toNat_lt.2 h) h1.1
    · exact UInt8.toNat_inj.1 h
    · exact absurd (UInt8.lt_iff_toNat_lt.2 h) h2.1
   subst e
   have e1 : Op.bytesLess x y = false := by
    rcases h1.2 with h | h
    · simp at h
    · exact h
   have e2 : Op.bytesLess y x = false := by
    rcases h2.2 with h | h
    · simp at h
    · exact h
   rw [bl_tri x y e1 e2]
theorem ltT_irr (x : ByteArray) : ltT x x = false := bl_irr _
theorem ltT_trans {x y z : ByteArray} (h1 : ltT x y = true) (h2 : ltT y z = true) : ltT x z = true := bl_trans _ _ _ h1 h2
theorem toL_inj {x y : ByteArray} (h : x.toList = y.toList) : x = y := by
 cases hq : decide (x = y)
 · have := str_ne (of_decide_eq_false hq)
   rw [h] at this
   simp at this
 · exact of_decide_eq_true hq
theorem ltT_tri {x y : ByteArray} (h1 : ltT x y = false) (h2 : ltT y x = false) : x = y := toL_inj (bl_tri _ _ h1 h2)
theorem ltT_asym {x y : ByteArray} (h : ltT x y = true) : ltT y x = false := by
 cases hq : ltT y x
 · rfl
 · have := ltT_trans h hq
   rw [ltT_irr] at this
   cases this
theorem ltT_ne {x y : ByteArray} (h : ltT x y = true) : x ≠ y := fun e => by
 rw [e, ltT_irr] at h
 cases h
def fillTo (N : Nat) (zs : List Int) (m : Nat) : List Int := (List.range N).map fun j => if j < m then zs.getD j 0 else 0
theorem fillTo_length (N : Nat) (zs : List Int) (m : Nat) : (fillTo N zs m).length = N := by simp [fillTo]
theorem fillTo_step (N : Nat) (zs : List Int) (m : Nat) : (fillTo N zs m).set m (zs.getD m 0) = fillTo N zs (m + 1) := by
 apply List.ext_getElem
 · simp [fillTo]
 · intro j h1 h2
   by_cases e : m = j
   · subst e
     simp only [fillTo, List.getElem_set, List.getElem_map, List.getElem_range, if_true]
     rw [if_pos (by omega)]
   · simp only [fillTo, List.getElem_set, List.getElem_map, List.getElem_range, if_neg e]
     by_cases c : j < m
     · rw [if_pos c, if_pos (by omega)]
     · rw [if_neg c, if_neg (by omega)]
theorem fillTo_full (zs : List Int) : fillTo zs.length zs zs.length = zs := by
 apply List.ext_getElem
 · simp [fillTo]
 · intro j h1 h2
   simp only [fillTo, List.getElem_map, List.getElem_range]
   rw [if_pos h2]
   simp [List.getD, h2]
theorem fillTo_zero (N : Nat) (zs : List Int) : fillTo N zs 0 = List.replicate N 0 := by
 apply List.ext_getElem
 · simp [fillTo]
 · intro j h1 h2
   simp [fillTo]
theorem row_fill {w : World} {g N m : Nat} {zs : List Int} {T : TypeId} {v : Int} (h : w.heap[g]? = some (.cells (cellsOf (fillTo N zs m)) T (0, 0))) (hv : zs.getD m 0 = v) :
 (w.setCell ⟨g, m, none⟩ (.int .i64 v)).heap[g]? = some (.cells (cellsOf (fillTo N zs (m + 1))) T (0, 0)) := by
 rw [heap_setCell_same _ _ _ _ _ _ h, cellsOf_set, <- hv, fillTo_step]
theorem code12 {c : Bool} {n : Int} {zs os vs : List Int} {ko kv : Nat} {veh : Int} {ids : List Int} (h : codeV c n zs os vs ko kv veh ids = 0) : ids.length <= 12 :=
 (stopsB_true (formV_zero (codeV_zero h).1).2.2).1
end Go.Proofs.YtehfjfmfpdgibaaGreatDoor
