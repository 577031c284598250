import Derived.WalkKit
import Derived.WalkSpells
import Derived.Deep.WholeRow
namespace Go.Proofs.YtcapkcallaajaaaGreatDoor
open Go.RowKit
theorem nmd {α : Sort _} (x : α) : ∃ v, Hid (x = v) := ⟨x, rfl⟩
theorem wpList_run {P : Program} {ops : Array Oper} {rest : List Oper} {o : Oper} {a : Act} {w w' : World} {Q : Exit -> Act -> World -> Prop} (v : Value) (hgd : o.guard = none)
 (hrun : (execOp a.eval o).run P w = .ok (.value v) w') (h : wpList P ops Q rest (a.put o.dst v) w') : wpList P ops Q (o :: rest) a w :=
 wpList_plain hgd fun _ hK => by unfold Oper.wp; rw [hrun]; exact hK _ _ h
theorem take_snoc (zs : List Int) (k : Nat) (h : k < zs.length) : zs.take (k + 1) = zs.take k ++ [zs.getD k 0] := by
 rw [List.take_succ_eq_append_getElem h]; simp [List.getD, h]
theorem ret_bool {a b : Bool} (h : a = b) : Ending.returned (.bool a) = .returned (.bool b) := by rw [h]
theorem ret_int {k : IntKind} {a b : Int} (h : a = b) : Ending.returned (.int k a) = .returned (.int k b) := by rw [h]
def inB (n lo hi : Int) : Bool := decide (lo <= n /\ n <= hi)
theorem inB_mk {n lo hi : Int} (h : lo <= n /\ n <= hi) : inB n lo hi = true := decide_eq_true h
theorem inB_not {n lo hi : Int} (h : ¬ (lo <= n /\ n <= hi)) : inB n lo hi = false := decide_eq_false h
theorem inB_true {n lo hi : Int} (h : inB n lo hi = true) : lo <= n /\ n <= hi := of_decide_eq_true h
def cellsOf (l : List Int) : Array Value := (l.map (Value.int .i64)).toArray
theorem cellsOf_size (l : List Int) : (cellsOf l).size = l.length := by simp [cellsOf]
theorem cellsOf_get (l : List Int) (i : Nat) (h : i < l.length) : (cellsOf l)[i]? = some (.int .i64 (l.getD i 0)) := by
 simp [cellsOf, List.getD, h]
theorem cellsOf_set (l : List Int) (i : Nat) (v : Int) : (cellsOf l).setIfInBounds i (.int .i64 v) = cellsOf (l.set i v) := by
 simp [cellsOf, List.map_set]
theorem cellsOf_one (l : List Int) : (cellsOf l).all (·.oneCell') = true := by
 simp [cellsOf, Value.oneCell']
theorem below_setRow {B : Nat} {a w : World} (h : Below B a w) {g : Nat} (hg : B <= g) (cs : Array Value) : Below B a (w.setRow g cs) :=
 h.trans ⟨rfl, rfl, rfl, by simp, fun k hk => setRow_other w g k cs (by omega)⟩
def IntsAt (w : World) (a : Option Addr) (zs : List Int) : Prop :=
 ∀ j, j < zs.length -> ∃ b off, a = some ⟨b, off, none⟩ /\ w.cell? ⟨b, off + j, none⟩ = some (.int .i64 (zs.getD j 0))
theorem IntsAt.some {w : World} {a : Option Addr} {zs : List Int} (h : IntsAt w a zs) {j : Nat} (hj : j < zs.length) :
 ∃ b off, a = some ⟨b, off, none⟩ /\ ∀ j, j < zs.length -> w.cell? ⟨b, off + j, none⟩ = .some (.int .i64 (zs.getD j 0)) := by
 obtain ⟨b, off, e, _⟩ := h j hj
 refine ⟨b, off, e, fun k hk => ?_⟩
 obtain ⟨b', off', e', hc⟩ := h k hk
 rw [e] at e'
 simp at e'
 obtain ⟨rfl, rfl⟩ := e'
 exact hc
theorem IntsAt.below {w w' : World} {a : Option Addr} {zs : List Int} (h : IntsAt w a zs) (hb : Below w.heap.size w w') : IntsAt w' a zs := by
 intro j hj
 obtain ⟨b, off, e, hc⟩ := h j hj
 refine ⟨b, off, e, ?_⟩
 have hl := block_lt_of_cell hc
 rw [hb.cell (p := ⟨b, off + j, none⟩) hl]
 exact hc
theorem IntsAt.of_row {w : World} {g : Nat} {zs : List Int} {t : TypeId} (h : w.heap[g]? = .some (.cells (cellsOf zs) t (0, 0))) : IntsAt w (.some ⟨g, 0, none⟩) zs := by
 intro j hj
 refine ⟨g, 0, rfl, ?_⟩
 rw [Nat.zero_add, cell_of_row _ _ _ _ _ _ h, cellsOf_get _ _ hj]
def matB (n : Int) (zs : List Int) : Bool :=
 decide (1 <= n /\ n <= 16 /\ (zs.length : Int) = n * n /\ ∀ i, i < zs.length -> 0 <= zs.getD i 0 /\ zs.getD i 0 <= 10000 /\ (i / n.toNat = i % n.toNat -> zs.getD i 0 = 0))
theorem matB_true {n : Int} {zs : List Int} (h : matB n zs = true) : 1 <= n /\ n <= 16 /\ (zs.length : Int) = n * n /\ ∀ i, i < zs.length -> 0 <= zs.getD i 0 /\ zs.getD i 0 <= 10000 /\ (i / n.toNat = i % n.toNat -> zs.getD i 0 = 0) :=
 of_decide_eq_true h
theorem matB_mk {n : Int} {zs : List Int} (h : 1 <= n /\ n <= 16 /\ (zs.length : Int) = n * n /\ ∀ i, i < zs.length -> 0 <= zs.getD i 0 /\ zs.getD i 0 <= 10000 /\ (i / n.toNat = i % n.toNat -> zs.getD i 0 = 0)) : matB n zs = true :=
 decide_eq_true h
theorem matB_not {n : Int} {zs : List Int} (h : ¬ (1 <= n /\ n <= 16 /\ (zs.length : Int) = n * n /\ ∀ i, i < zs.length -> 0 <= zs.getD i 0 /\ zs.getD i 0 <= 10000 /\ (i / n.toNat = i % n.toNat -> zs.getD i 0 = 0))) : matB n zs = false :=
 decide_eq_false h
def gridTo (n : Nat) (zs : List Int) (a b : Nat) : List Int :=
 (List.range 256).map fun k => if k / 16 < n /\ k % 16 < n /\ (k / 16 < a ∨ k / 16 = a /\ k % 16 < b) then zs.getD (k / 16 * n + k % 16) 0 else 0
theorem gridTo_length (n : Nat) (zs : List Int) (a b : Nat) : (gridTo n zs a b).length = 256 := by simp [gridTo]
theorem gridTo_step (n : Nat) (zs : List Int) (a b : Nat) (ha : a < n) (hb : b < n) (hn : n <= 16) :
 (gridTo n zs a b).set (a * 16 + b) (zs.getD (a * n + b) 0) = gridTo n zs a (b + 1) := by
 apply List.ext_getElem
 · simp [gridTo]
 · intro k h1 h2
   have hk := by simpa [gridTo] using h2
   by_cases e : a * 16 + b = k
   · subst e
     have e1 : (a * 16 + b) / 16 = a := by omega
     have e2 : (a * 16 + b) % 16 = b := by omega
     simp only [gridTo, List.getElem_set, List.getElem_map, List.getElem_range, e1, e2, if_true]
     rw [if_pos ⟨ha, hb, Or.inr ⟨trivial, by omega⟩⟩]
   · simp only [gridTo, List.getElem_set, List.getElem_map, List.getElem_range, if_neg e]
     have : ¬ (k / 16 = a /\ k % 16 = b) := by omega
     by_cases c : k / 16 < n /\ k % 16 < n /\ (k / 16 < a ∨ k / 16 = a /\ k % 16 < b)
     · rw [if_pos c, if_pos ⟨c.1, c.2.1, by omega⟩]
     · rw [if_neg c, if_neg (by omega)]
theorem gridTo_row (n : Nat) (zs : List Int) (a : Nat) : gridTo n zs a n = gridTo n zs (a + 1) 0 := by
 unfold gridTo
 apply List.map_congr_left
 intro k _
 by_cases c : k / 16 < n /\ k % 16 < n /\ (k / 16 < a ∨ k / 16 = a /\ k % 16 < n)
 · rw [if_pos c, if_pos (by omega)]
 · rw [if_neg c, if_neg (by omega)]
def zeros : List Int := (List.range 256).map fun _ => 0
theorem zeros_length : zeros.length = 256 := by simp [zeros]
theorem gridTo_zero (n : Nat) (zs : List Int) : gridTo n zs 0 0 = zeros := by
 unfold gridTo zeros
 apply List.map_congr_left
 intro k _
 rw [if_neg (by omega)]
def gridRes (n : Int) (zs : List Int) : List Int := if matB n zs = true then gridTo n.toNat zs n.toNat 0 else zeros
theorem gridRes_true {n : Nat} {zs : List Int} (h : matB n zs = true) : gridRes n zs = gridTo n zs n 0 := by
 unfold gridRes; rw [if_pos h]; simp
theorem gridRes_false {n : Int} {zs : List Int} (h : matB n zs = false) : gridRes n zs = zeros := by
 unfold gridRes; rw [h]; simp
theorem gridRes_length (n : Int) (zs : List Int) : (gridRes n zs).length = 256 := by
 unfold gridRes; split
 · exact gridTo_length _ _ _ _
 · exact zeros_length
def okTo (n : Nat) (zs : List Int) (a b : Nat) : Prop :=
 ∀ i j, i < n -> j < n -> (i < a ∨ i = a /\ j < b) -> 0 <= zs.getD (i * n + j) 0 /\ zs.getD (i * n + j) 0 <= 10000 /\ (i = j -> zs.getD (i * n + j) 0 = 0)
theorem okTo_zero (n : Nat) (zs : List Int) : okTo n zs 0 0 := by intro i j _ _ h; omega
theorem okTo_step {n : Nat} {zs : List Int} {a b : Nat} (h : okTo n zs a b) (h0 : 0 <= zs.getD (a * n + b) 0) (h1 : zs.getD (a * n + b) 0 <= 10000) (h2 : a = b -> zs.getD (a * n + b) 0 = 0) : okTo n zs a (b + 1) := by
 intro i j hi hj hij
 by_cases e : i = a /\ j = b
 · obtain ⟨rfl, rfl⟩ := e; exact ⟨h0, h1, h2⟩
 · exact h i j hi hj (by omega)
theorem okTo_row {n : Nat} {zs : List Int} {a : Nat} (h : okTo n zs a n) : okTo n zs (a + 1) 0 := by
 intro i j hi hj hij
 exact h i j hi hj (by omega)
theorem div_mod_at (n i j : Nat) (hj : j < n) : (i * n + j) / n = i /\ (i * n + j) % n = j := by
 have hn : 0 < n := by omega
 constructor
 · rw [Nat.add_comm, Nat.add_mul_div_right _ _ hn, Nat.div_eq_of_lt hj, Nat.zero_add]
 · rw [Nat.add_comm, Nat.add_mul_mod_self_right, Nat.mod_eq_of_lt hj]
theorem at_div_mod (n k : Nat) (h : k < n * n) : k / n < n /\ k % n < n /\ k / n * n + k % n = k := by
 have hn : 0 < n := by rcases Nat.eq_zero_or_pos n with e | e; · subst e; simp at h
                       exact e
 exact ⟨(Nat.div_lt_iff_lt_mul hn).2 h, Nat.mod_lt _ hn, by rw [Nat.mul_comm]; exact Nat.div_add_mod k n⟩
theorem matB_of_okTo (n : Nat) (zs : List Int) (h1 : 1 <= n) (h2 : n <= 16) (hl : zs.length = n * n) (h : okTo n zs n 0) : matB n zs = true := by
 refine matB_mk ⟨by omega, by omega, by rw [hl]; simp, fun i hi => ?_⟩
 obtain ⟨a, b, c⟩ := at_div_mod n i (by omega)
 have := h (i / n) (i % n) a b (Or.inl a)
 rw [c] at this
 simpa using this
theorem matB_bad (n : Nat) (zs : List Int) (x y : Nat) (hx : x < n) (hy : y < n) (hl : zs.length = n * n) (h : ¬ (0 <= zs.getD (x * n + y) 0 /\ zs.getD (x * n + y) 0 <= 10000 /\ (x = y -> zs.getD (x * n + y) 0 = 0))) : matB n zs = false := by
 refine matB_not fun ⟨_, _, _, hh⟩ => h ?_
 obtain ⟨e1, e2⟩ := div_mod_at n x y hy
 have hlt : x * n + y < zs.length := by
  rw [hl]
  have := Nat.mul_le_mul_right n (show x + 1 <= n by omega)
  rw [Nat.add_mul] at this
  omega
 have := hh (x * n + y) hlt
 simp only [Int.toNat_natCast, e1, e2] at this
 exact this
theorem mul_bd (a n : Nat) (h1 : a <= 16) (h2 : n <= 16) : a * n <= 256 := Nat.mul_le_mul h1 h2
theorem matB_all (n : Nat) (zs : List Int) (h1 : 1 <= n) (h2 : n <= 16) (hl : zs.length = n * n) (h : ∀ i, i < n * n -> 0 <= zs.getD i 0 /\ zs.getD i 0 <= 10000 /\ (i / n = i % n -> zs.getD i 0 = 0)) : matB n zs = true :=
 matB_mk ⟨by omega, by omega, by rw [hl]; simp, fun i hi => by rw [Int.toNat_natCast]; exact h i (by omega)⟩
theorem matB_at (n : Nat) (zs : List Int) (hl : zs.length = n * n) (k : Nat) (hk : k < n * n) (h : ¬ (0 <= zs.getD k 0 /\ zs.getD k 0 <= 10000 /\ (k / n = k % n -> zs.getD k 0 = 0))) : matB n zs = false :=
 matB_not fun ⟨_, _, _, hh⟩ => h (by have := hh k (by omega); rwa [Int.toNat_natCast] at this)
theorem below_row {B : Nat} {W w1 : World} (hb : Below B W w1) {k : Nat} {o : Obj} (hk : k < B) (h : W.heap[k]? = some o) : w1.heap[k]? = some o := by
 rw [hb.block k hk]; exact h
theorem row_lt {W : World} {k : Nat} {o : Obj} (h : W.heap[k]? = some o) : k < W.heap.size := by
 by_cases hlt : k < W.heap.size
 · exact hlt
 · have hn : W.heap[k]? = none := by simp; omega
   rw [hn] at h; cases h
theorem ret_grid_eq {a b : List Int} {p q : Bool} (h : a = b) (k : p = q) : Ending.returned (.tuple #[.agg (cellsOf a), .bool p]) = Ending.returned (.tuple #[.agg (cellsOf b), .bool q]) := by rw [h, k]
theorem str_ne {f t : ByteArray} (h : ¬ f = t) : (f.toList == t.toList) = false := by
 rw [ByteArray.toList_eq, ByteArray.toList_eq]
 apply beq_eq_false_iff_ne.2
 intro e
 exact h (ByteArray.ext (Array.toList_inj.1 e))
theorem str_eq {f t : ByteArray} (h : f = t) : (f.toList == t.toList) = true := by
 rw [h]
 exact beq_self_eq_true _
def og6 (zs : List Int) (i f : Nat) : Int := zs.getD (i * 6 + f) 0
theorem row6_at {w : World} {b off : Nat} {zs : List Int} {n : Nat} (h : ∀ j, j < zs.length -> w.cell? ⟨b, off + j, none⟩ = some (.int .i64 (zs.getD j 0))) (hl : zs.length = n * 6) (i : Nat) (hi : i < n) :
 w.cell? ⟨b, off + i * 6, none⟩ = some (.int .i64 (og6 zs i 0)) /\ w.cell? ⟨b, off + i * 6 + 1, none⟩ = some (.int .i64 (og6 zs i 1)) /\ w.cell? ⟨b, off + i * 6 + 2, none⟩ = some (.int .i64 (og6 zs i 2)) /\ w.cell? ⟨b, off + i * 6 + 3, none⟩ = some (.int .i64 (og6 zs i 3)) /\ w.cell? ⟨b, off + i * 6 + 4, none⟩ = some (.int .i64 (og6 zs i 4)) /\ w.cell? ⟨b, off + i * 6 + 5, none⟩ = some (.int .i64 (og6 zs i 5)) := by
 have hb : i * 6 + 6 <= zs.length := by omega
 refine ⟨?_, ?_, ?_, ?_, ?_, ?_⟩
 · exact h (i * 6) (by omega)
 · rw [Nat.add_assoc]; exact h (i * 6 + 1) (by omega)
 · rw [Nat.add_assoc]; exact h (i * 6 + 2) (by omega)
 · rw [Nat.add_assoc]; exact h (i * 6 + 3) (by omega)
 · rw [Nat.add_assoc]; exact h (i * 6 + 4) (by omega)
 · rw [Nat.add_assoc]; exact h (i * 6 + 5) (by omega)
def og5 (zs : List Int) (i f : Nat) : Int := zs.getD (i * 5 + f) 0
theorem row5_at {w : World} {b off : Nat} {zs : List Int} {n : Nat} (h : ∀ j, j < zs.length -> w.cell? ⟨b, off + j, none⟩ = some (.int .i64 (zs.getD j 0))) (hl : zs.length = n * 5) (i : Nat) (hi : i < n) :
 w.cell? ⟨b, off + i * 5, none⟩ = some (.int .i64 (og5 zs i 0)) /\ w.cell? ⟨b, off + i * 5 + 1, none⟩ = some (.int .i64 (og5 zs i 1)) /\ w.cell? ⟨b, off + i * 5 + 2, none⟩ = some (.int .i64 (og5 zs i 2)) /\ w.cell? ⟨b, off + i * 5 + 3, none⟩ = some (.int .i64 (og5 zs i 3)) /\ w.cell? ⟨b, off + i * 5 + 4, none⟩ = some (.int .i64 (og5 zs i 4)) := by
 have hb : i * 5 + 5 <= zs.length := by omega
 refine ⟨?_, ?_, ?_, ?_, ?_⟩
 · exact h (i * 5) (by omega)
 · rw [Nat.add_assoc]; exact h (i * 5 + 1) (by omega)
 · rw [Nat.add_assoc]; exact h (i * 5 + 2) (by omega)
 · rw [Nat.add_assoc]; exact h (i * 5 + 3) (by omega)
 · rw [Nat.add_assoc]; exact h (i * 5 + 4) (by omega)
def hoursB (f t : Int) : Bool := inB f 0 1000000 && inB t f 1000000
theorem hoursB_mk {f t : Int} (h1 : 0 <= f) (h2 : f <= t) (h3 : t <= 1000000) : hoursB f t = true := by
 unfold hoursB; rw [inB_mk (by omega), inB_mk (by omega)]; rfl
theorem hoursB_not {f t : Int} (h : ¬ (0 <= f /\ f <= t /\ t <= 1000000)) : hoursB f t = false := by
 unfold hoursB
 cases h1 : inB f 0 1000000
 · rfl
 · cases h2 : inB t f 1000000
   · rfl
   · have := inB_true h1; have := inB_true h2; omega
def ordIn (n o1 o2 o3 o4 o5 : Int) : Bool := inB o1 0 (n - 1) && inB o2 0 1000 && hoursB o3 o4 && inB o5 0 10000
def ordB (n o0 o1 o2 o3 o4 o5 : Int) : Bool := inB o0 1 1000000000 && ordIn n o1 o2 o3 o4 o5
def vehIn (n o1 o2 o3 o4 : Int) : Bool := inB o1 0 (n - 1) && inB o2 0 1000 && hoursB o3 o4
def vehB (n o0 o1 o2 o3 o4 : Int) : Bool := inB o0 1 1000000000 && vehIn n o1 o2 o3 o4
def ordsTo (n : Int) (zs : List Int) (k : Nat) : Prop := ∀ i, i < k -> ordB n (og6 zs i 0) (og6 zs i 1) (og6 zs i 2) (og6 zs i 3) (og6 zs i 4) (og6 zs i 5) = true /\ (0 < i -> og6 zs (i - 1) 0 < og6 zs i 0)
def ordsB (n : Int) (zs : List Int) (k : Nat) : Bool := decide (k <= 12 /\ ∀ i, i < k -> ordB n (og6 zs i 0) (og6 zs i 1) (og6 zs i 2) (og6 zs i 3) (og6 zs i 4) (og6 zs i 5) = true /\ (0 < i -> og6 zs (i - 1) 0 < og6 zs i 0))
theorem ordsB_yes {n : Int} {zs : List Int} {k : Nat} (h : k <= 12) (ht : ordsTo n zs k) : ordsB n zs k = true := by
 unfold ordsB
 exact decide_eq_true ⟨h, ht⟩
theorem ordsB_true {n : Int} {zs : List Int} {k : Nat} (h : ordsB n zs k = true) : k <= 12 /\ ordsTo n zs k := by
 unfold ordsB at h
 have := of_decide_eq_true h
 exact ⟨this.1, this.2⟩
theorem ordsB_many {n : Int} {zs : List Int} {k : Nat} (h : ¬ k <= 12) : ordsB n zs k = false := decide_eq_false fun x => h x.1
theorem ordsB_bad {n : Int} {zs : List Int} {m k : Nat} (hk : k < m) (h : ¬ (ordB n (og6 zs k 0) (og6 zs k 1) (og6 zs k 2) (og6 zs k 3) (og6 zs k 4) (og6 zs k 5) = true /\ (0 < k -> og6 zs (k - 1) 0 < og6 zs k 0))) : ordsB n zs m = false := decide_eq_false fun x => h (x.2 k hk)
theorem ordsTo_zero (n : Int) (zs : List Int) : ordsTo n zs 0 := fun i hi => by omega
theorem ordsTo_step {n : Int} {zs : List Int} {k : Nat} (h : ordsTo n zs k) (h1 : ordB n (og6 zs k 0) (og6 zs k 1) (og6 zs k 2) (og6 zs k 3) (og6 zs k 4) (og6 zs k 5) = true) (h2 : 0 < k -> og6 zs (k - 1) 0 < og6 zs k 0) : ordsTo n zs (k + 1) := by
 intro i hi
 by_cases e : i = k
 · subst e; exact ⟨h1, h2⟩
 · exact h i (by omega)
def ordsLast (zs : List Int) : Nat -> Int
 | 0 => 0
 | k + 1 => og6 zs k 0
theorem ordsLast_bd {n : Int} {zs : List Int} {k : Nat} (h : ordsTo n zs k) : 0 <= ordsLast zs k /\ ordsLast zs k <= 1000000000 := by
 cases k with
 | zero => simp [ordsLast]
 | succ k =>
   have h1 := (h k (by omega)).1
   unfold ordB at h1
   rw [Bool.and_eq_true] at h1
   have := inB_true h1.1
   show 0 <= og6 zs k 0 /\ og6 zs k 0 <= 1000000000
   omega
theorem ords_id {n : Int} {zs : List Int} {k : Nat} (h : ordsTo n zs k) (h1 : inB (og6 zs k 0) (ordsLast zs k + 1) 1000000000 = true) (h2 : ordIn n (og6 zs k 1) (og6 zs k 2) (og6 zs k 3) (og6 zs k 4) (og6 zs k 5) = true) :
 ordB n (og6 zs k 0) (og6 zs k 1) (og6 zs k 2) (og6 zs k 3) (og6 zs k 4) (og6 zs k 5) = true /\ (0 < k -> og6 zs (k - 1) 0 < og6 zs k 0) := by
 have hb := ordsLast_bd h
 have hi := inB_true h1
 refine ⟨?_, fun hk => ?_⟩
 · unfold ordB; rw [inB_mk (by omega), h2]; rfl
 · obtain ⟨j, rfl⟩ : ∃ j, k = j + 1 := ⟨k - 1, by omega⟩
   simp only [ordsLast] at hi
   simp only [Nat.add_sub_cancel]
   omega
theorem ords_id_no {n : Int} {zs : List Int} {k : Nat} (h : ¬ (inB (og6 zs k 0) (ordsLast zs k + 1) 1000000000 = true /\ ordIn n (og6 zs k 1) (og6 zs k 2) (og6 zs k 3) (og6 zs k 4) (og6 zs k 5) = true)) :
 ¬ (ordB n (og6 zs k 0) (og6 zs k 1) (og6 zs k 2) (og6 zs k 3) (og6 zs k 4) (og6 zs k 5) = true /\ (0 < k -> og6 zs (k - 1) 0 < og6 zs k 0)) := by
 rintro ⟨h1, h2⟩
 unfold ordB at h1
 rw [Bool.and_eq_true] at h1
 refine h ⟨inB_mk ?_, h1.2⟩
 have hi := inB_true h1.1
 cases k with
 | zero => simp only [ordsLast]; omega
 | succ j =>
   have := h2 (by omega)
   simp only [Nat.add_sub_cancel] at this
   simp only [ordsLast]
   omega
def vehsTo (n : Int) (zs : List Int) (k : Nat) : Prop := ∀ i, i < k -> vehB n (og5 zs i 0) (og5 zs i 1) (og5 zs i 2) (og5 zs i 3) (og5 zs i 4) = true /\ (0 < i -> og5 zs (i - 1) 0 < og5 zs i 0)
def vehsB (n : Int) (zs : List Int) (k : Nat) : Bool := decide (k <= 5 /\ ∀ i, i < k -> vehB n (og5 zs i 0) (og5 zs i 1) (og5 zs i 2) (og5 zs i 3) (og5 zs i 4) = true /\ (0 < i -> og5 zs (i - 1) 0 < og5 zs i 0))
theorem vehsB_yes {n : Int} {zs : List Int} {k : Nat} (h : k <= 5) (ht : vehsTo n zs k) : vehsB n zs k = true := by
 unfold vehsB
 exact decide_eq_true ⟨h, ht⟩
theorem vehsB_true {n : Int} {zs : List Int} {k : Nat} (h : vehsB n zs k = true) : k <= 5 /\ vehsTo n zs k := by
 unfold vehsB at h
 have := of_decide_eq_true h
 exact ⟨this.1, this.2⟩
theorem vehsB_many {n : Int} {zs : List Int} {k : Nat} (h : ¬ k <= 5) : vehsB n zs k = false := decide_eq_false fun x => h x.1
theorem vehsB_bad {n : Int} {zs : List Int} {m k : Nat} (hk : k < m) (h : ¬ (vehB n (og5 zs k 0) (og5 zs k 1) (og5 zs k 2) (og5 zs k 3) (og5 zs k 4) = true /\ (0 < k -> og5 zs (k - 1) 0 < og5 zs k 0))) : vehsB n zs m = false := decide_eq_false fun x => h (x.2 k hk)
theorem vehsTo_zero (n : Int) (zs : List Int) : vehsTo n zs 0 := fun i hi => by omega
theorem vehsTo_step {n : Int} {zs : List Int} {k : Nat} (h : vehsTo n zs k) (h1 : vehB n (og5 zs k 0) (og5 zs k 1) (og5 zs k 2) (og5 zs k 3) (og5 zs k 4) = true) (h2 : 0 < k -> og5 zs (k - 1) 0 < og5 zs k 0) : vehsTo n zs (k + 1) := by
 intro i hi
 by_cases e : i = k
 · subst e; exact ⟨h1, h2⟩
 · exact h i (by omega)
def vehsLast (zs : List Int) : Nat -> Int
 | 0 => 0
 | k + 1 => og5 zs k 0
theorem vehsLast_bd {n : Int} {zs : List Int} {k : Nat} (h : vehsTo n zs k) : 0 <= vehsLast zs k /\ vehsLast zs k <= 1000000000 := by
 cases k with
 | zero => simp [vehsLast]
 | succ k =>
   have h1 := (h k (by omega)).1
   unfold vehB at h1
   rw [Bool.and_eq_true] at h1
   have := inB_true h1.1
   show 0 <= og5 zs k 0 /\ og5 zs k 0 <= 1000000000
   omega
theorem vehs_id {n : Int} {zs : List Int} {k : Nat} (h : vehsTo n zs k) (h1 : inB (og5 zs k 0) (vehsLast zs k + 1) 1000000000 = true) (h2 : vehIn n (og5 zs k 1) (og5 zs k 2) (og5 zs k 3) (og5 zs k 4) = true) :
 vehB n (og5 zs k 0) (og5 zs k 1) (og5 zs k 2) (og5 zs k 3) (og5 zs k 4) = true /\ (0 < k -> og5 zs (k - 1) 0 < og5 zs k 0) := by
 have hb := vehsLast_bd h
 have hi := inB_true h1
 refine ⟨?_, fun hk => ?_⟩
 · unfold vehB; rw [inB_mk (by omega), h2]; rfl
 · obtain ⟨j, rfl⟩ : ∃ j, k = j + 1 := ⟨k - 1, by omega⟩
   simp only [vehsLast] at hi
   simp only [Nat.add_sub_cancel]
   omega
theorem vehs_id_no {n : Int} {zs : List Int} {k : Nat} (h : ¬ (inB (og5 zs k 0) (vehsLast zs k + 1) 1000000000 = true /\ vehIn n (og5 zs k 1) (og5 zs k 2) (og5 zs k 3) (og5 zs k 4) = true)) :
 ¬ (vehB n (og5 zs k 0) (og5 zs k 1) (og5 zs k 2) (og5 zs k 3) (og5 zs k 4) = true /\ (0 < k -> og5 zs (k - 1) 0 < og5 zs k 0)) := by
 rintro ⟨h1, h2⟩
 unfold vehB at h1
 rw [Bool.and_eq_true] at h1
 refine h ⟨inB_mk ?_, h1.2⟩
 have hi := inB_true h1.1
 cases k with
 | zero => simp only [vehsLast]; omega
 | succ j =>
   have := h2 (by omega)
   simp only [Nat.add_sub_cancel] at this
   simp only [vehsLast]
   omega
def caseB (n : Int) (zs os vs : List Int) (ko kv : Nat) (fine : Int) : Bool := matB n zs && ordsB n os ko && vehsB n vs kv && inB fine 0 1000000
theorem box5 {w w1 : World} {c0 c1 c2 c3 c4 : Value} {T : TypeId} (hb : Below (w.alloc (.cells #[c0, c1, c2, c3, c4] T)).heap.size (w.alloc (.cells #[c0, c1, c2, c3, c4] T)) w1) :
 Below w.heap.size w w1 /\ w1.heap[w.heap.size]? = some (.cells #[c0, c1, c2, c3, c4] T (0, 0)) :=
 ⟨((Below.refl _ _).alloc (Nat.le_refl _) _).trans (hb.mono (by simp)), below_row hb (by simp) (heap_alloc_new _ _)⟩
theorem box_more {w w1 w2 : World} {k : Nat} {o : Obj} (hb : Below w1.heap.size w1 w2) (hB : Below w.heap.size w w1) (hr : w1.heap[k]? = some o) :
 Below w.heap.size w w2 /\ w2.heap[k]? = some o := ⟨hB.trans (hb.mono hB.size), below_row hb (row_lt hr) hr⟩
theorem cells5 {w : World} {k : Nat} {c0 c1 c2 c3 c4 : Value} {T : TypeId} (r : w.heap[k]? = some (.cells #[c0, c1, c2, c3, c4] T (0, 0))) :
 w.cell? ⟨k, 0, none⟩ = some c0 /\ w.cell? ⟨k, 1, none⟩ = some c1 /\ w.cell? ⟨k, 2, none⟩ = some c2 /\ w.cell? ⟨k, 3, none⟩ = some c3 /\ w.cell? ⟨k, 4, none⟩ = some c4 := by
 refine ⟨?_, ?_, ?_, ?_, ?_⟩
 · rw [cell_of_row _ _ 0 _ _ _ r]; simp
 · rw [cell_of_row _ _ 1 _ _ _ r]; simp
 · rw [cell_of_row _ _ 2 _ _ _ r]; simp
 · rw [cell_of_row _ _ 3 _ _ _ r]; simp
 · rw [cell_of_row _ _ 4 _ _ _ r]; simp
theorem cells6 {w : World} {k : Nat} {c0 c1 c2 c3 c4 c5 : Value} {T : TypeId} (r : w.heap[k]? = some (.cells #[c0, c1, c2, c3, c4, c5] T (0, 0))) :
 w.cell? ⟨k, 0, none⟩ = some c0 /\ w.cell? ⟨k, 1, none⟩ = some c1 /\ w.cell? ⟨k, 2, none⟩ = some c2 /\ w.cell? ⟨k, 3, none⟩ = some c3 /\ w.cell? ⟨k, 4, none⟩ = some c4 /\ w.cell? ⟨k, 5, none⟩ = some c5 := by
 refine ⟨?_, ?_, ?_, ?_, ?_, ?_⟩
 · rw [cell_of_row _ _ 0 _ _ _ r]; simp
 · rw [cell_of_row _ _ 1 _ _ _ r]; simp
 · rw [cell_of_row _ _ 2 _ _ _ r]; simp
 · rw [cell_of_row _ _ 3 _ _ _ r]; simp
 · rw [cell_of_row _ _ 4 _ _ _ r]; simp
 · rw [cell_of_row _ _ 5 _ _ _ r]; simp
end Go.Proofs.YtcapkcallaajaaaGreatDoor

namespace Go.Proofs.YtcapkcallaajaaaGreatDoor
end Go.Proofs.YtcapkcallaajaaaGreatDoor

namespace Go.Proofs.YtcapkcallaajaaaGreatDoor
open Go.RowKit
theorem caseB_parts {n : Int} {zs os vs : List Int} {ko kv : Nat} {fine : Int} (h : caseB n zs os vs ko kv fine = true) : matB n zs = true /\ ordsB n os ko = true /\ vehsB n vs kv = true /\ 1 <= n /\ 0 <= fine /\ fine <= 1000000 := by
 unfold caseB at h
 simp only [Bool.and_eq_true] at h
 exact ⟨h.1.1.1, h.1.1.2, h.1.2, (matB_true h.1.1.1).1, inB_true h.2⟩
end Go.Proofs.YtcapkcallaajaaaGreatDoor
