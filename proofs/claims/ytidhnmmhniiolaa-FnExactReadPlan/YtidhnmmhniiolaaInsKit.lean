import Derived.Test.YtidhnmmhniiolaaPack1
import Derived.Test.YtidhnmmhniiolaaPack6
import Derived.Shelf.Spec.SlicesInsert
import Derived.Lib.AppendZerosOnto
import Derived.Laws.NewBlocks
import Derived.Deep.RegionLaw
namespace Go.Proofs.Ytidhnmmhniiolaa
open Go.RowKit Go.Lib

theorem rowV_setCells (g : Nat) (T : TypeId) : ∀ (vs : List Value) (o : Nat) (w : World) (cur : Array Value), w.heap[g]? = some (.cells cur T (0, 0)) → ∃ cur', (w.setCells g o vs).heap[g]? = some (.cells cur' T (0, 0)) ∧ cur'.size = cur.size
  | [], _, _, cur, h => ⟨cur, h, rfl⟩
  | v :: r, o, w, cur, h => by
    obtain ⟨cur', h1, h2⟩ := rowV_setCells g T r (o + 1) (w.setCell ⟨g, o, none⟩ v) _ (heap_setCell_same w g o cur T v h)
    exact ⟨cur', h1, by rw [h2, Array.size_setIfInBounds]⟩
theorem belowV_setCells {base g : Nat} (hb : base ≤ g) : ∀ (vs : List Value) (o : Nat) {w w' : World}, Below base w w' → Below base w (w'.setCells g o vs)
  | [], _, _, _, h => h
  | _ :: r, o, _, _, h => belowV_setCells hb r (o + 1) (h.setCell hb _)
/-- What is read in a row of the call's own is owned. -/
theorem ownV_of_cells {W : World} {base g cap n size : Nat} {E : TypeId} {cur : Array Value} {xs : List Value} (hr : W.heap[g]? = some (.cells cur E (0, 0))) (hsz : cur.size = cap * size) (hn : n ≤ cap) (hm : cap ≤ maxLen) (hb : base ≤ g) (hx : xs.length = n * size) (hc : ∀ j, j < n * size → W.cell? ⟨g, j, none⟩ = xs[j]?) : W.ownsRow base E size (.slice (some ⟨g, 0, none⟩) n cap) n xs := by
  refine ⟨hx, .inr ⟨g, cap, cur, rfl, hb, hr, hn, hm, hsz, ?_⟩⟩
  apply List.ext_getElem?
  intro j
  rw [List.getElem?_take]
  by_cases hj : j < n * size
  · have h1 := hc j hj
    rw [cell_of_row _ _ _ _ _ _ hr] at h1
    rw [if_pos hj, Array.getElem?_toList, h1]
  · rw [if_neg hj, List.getElem?_eq_none (by omega)]
/-- A row with others put in. -/
def insV (xs : List Value) (p : Nat) (ys : List Value) : List Value := xs.take p ++ (ys ++ xs.drop p)
theorem insV_length {xs ys : List Value} {p : Nat} (hp : p ≤ xs.length) : (insV xs p ys).length = xs.length + ys.length := by
  unfold insV
  rw [List.length_append, List.length_append, List.length_take, List.length_drop]
  omega
theorem insV_at {xs ys : List Value} {p q : Nat} (hq : ys.length = q) (hp : p ≤ xs.length) (j : Nat) : (insV xs p ys)[j]? = if j < p then xs[j]? else if j < p + q then ys[j - p]? else xs[j - q]? := by
  unfold insV
  by_cases h1 : j < p
  · rw [if_pos h1, List.getElem?_append_left (by rw [List.length_take]; omega), List.getElem?_take, if_pos h1]
  · rw [if_neg h1, List.getElem?_append_right (by rw [List.length_take]; omega), List.length_take, Nat.min_eq_left hp]
    by_cases h2 : j < p + q
    · rw [if_pos h2, List.getElem?_append_left (by omega)]
    · rw [if_neg h2, List.getElem?_append_right (by omega), List.getElem?_drop, hq, show p + (j - p - q) = j - q from by omega]
theorem insV_end {xs ys : List Value} {p : Nat} (h : xs.length = p) : insV xs p ys = xs ++ ys := by
  unfold insV
  rw [← h, List.take_length, List.drop_length, List.append_nil]
/-- 'copy' at any size of an element: all is read before anything is written. -/
theorem run_copyV {P : Program} (w : World) (dT sT ty elem : TypeId) (b o dLen dCap : Nat) (a : Addr) (sLen sCap size : Nat) (cs : List Value)
    (hu : P.underlying dT = some (.slice elem)) (hs : (P.info? elem).map (·.size) = some size) (hn : cs.length = Nat.min sLen dLen * size)
    (hsrc : ∀ j v, cs[j]? = some v → w.cell? (a.add j) = some v) (hc : ∀ j, j < cs.length → (w.cell? ⟨b, o + j, none⟩).isSome = true) (hf : ∀ j, j < cs.length → w.frozen? ⟨b, o + j, none⟩ = false) (h1 : ∀ v ∈ cs, v.oneCell' = true) :
    (Builtin.copy_ #[dT, sT] ty #[.slice (some ⟨b, o, none⟩) dLen dCap, .slice (some a) sLen sCap]).run P w = .ok (goInt (Nat.min sLen dLen)) (w.setCells b o cs) := by
  have hl := run_loadCells_list (P := P) w a cs hsrc
  have hst := run_storeCells_cells (P := P) b o cs 0 w (by simpa using hc) (by simpa using hf) h1
  cases hq : P.info? elem with
  | none => simp [hq] at hs
  | some i =>
    have hi : i.size = size := by simpa [hq] using hs
    simp [Builtin.copy_, run_underlying hu, Builtin.lenOf, Builtin.firstCells, sizeOf, typeInfo, hq, hi, ← hn, hl, hst]
/-- 'clear' at any size of an element. -/
theorem run_clearV {P : Program} (w : World) (t e ty : TypeId) (z : Value) (ht : P.underlying t = some (.slice e)) (hv : ∀ w, (zeroValue e).run P w = .ok z w) (b o n c : Nat) (hn : 0 < n) (cs : List Value) (hcs : (Builtin.zeroCells z.cells n).toList = cs) (h1 : ∀ v ∈ cs, v.oneCell' = true)
    (hc : ∀ j, j < cs.length → (w.cell? ⟨b, o + j, none⟩).isSome = true) (hf : ∀ j, j < cs.length → w.frozen? ⟨b, o + j, none⟩ = false) :
    (Builtin.clear_ #[t] ty #[.slice (some ⟨b, o, none⟩) n c]).run P w = .ok (.tuple #[]) (w.setCells b o cs) := by
  have hst := run_storeCells_cells (P := P) b o cs 0 w (by simpa using hc) (by simpa using hf) h1
  simp only [Nat.add_zero] at hst
  obtain ⟨m, rfl⟩ : ∃ m, n = m + 1 := ⟨n - 1, by omega⟩
  simp [Builtin.clear_, run_underlying ht, hv, hcs, hst]
theorem step_append_runV {P : Program} {ops : Array Oper} {o : Oper} {a : Act} {w : World} {K : Act → World → Prop} {Q : Exit → Act → World → Prop} {E : Prop}
    (hg : o.guard = none) (d x : Operand) (dT sT : TypeId) (hop : o.op = Op.call { callee := Callee.builtin Builtin.append, args := #[d, x], argTypes := #[dT, sT] })
    (v u : Value) (hd : a.eval d = v) (hx : a.eval x = u) {v' : Value} {w' : World} (hr : (Builtin.append_ #[dT, sT] o.type #[v, u]).run P w = .ok v' w') (hK : K (a.put o.dst v') w') :
    if Region.wanted o (yielded ops a.tmps) = true then Oper.wp P o a w K Q else E := by
  have hw : Region.wanted o (yielded ops a.tmps) = true := by simp [Region.wanted, hg]
  rw [if_pos hw]
  unfold Oper.wp
  simp [execOp, hop, resolve, invoke, builtin, hd, hx, hr, Result.andThen]
  exact hK
theorem own_anyV {w : World} {base k : Nat} {v : Value} {e : TypeId} {size : Nat} {xs : List Value} (h : w.ownsRow base e size v k xs) : ∃ ao co, v = .slice ao k co := by
  obtain ⟨_, ⟨h1, h2⟩ | ⟨g', cap, cur, h2, _⟩⟩ := h
  · exact ⟨none, 0, by rw [h1, h2]⟩
  · exact ⟨_, _, h2⟩
theorem zeroCells_size (z : Array Value) (n : Nat) : (Builtin.zeroCells z n).size = n * z.size := by simp [Builtin.zeroCells]

theorem heapV_setCells (g : Nat) : ∀ (vs : List Value) (o : Nat) (w w' : World), w.heap = w'.heap → (w.setCells g o vs).heap = (w'.setCells g o vs).heap
  | [], _, _, _, h => h
  | v :: r, o, w, w', h => heapV_setCells g r (o + 1) (w.setCell ⟨g, o, none⟩ v) (w'.setCell ⟨g, o, none⟩ v) (by unfold World.setCell; rw [h])
theorem drewV_setCells (g : Nat) (vs : List Value) (o : Nat) (w : World) (y : Addr) : ((w.drew.setCells g o vs).drew).cell? y = (w.drew.setCells g o vs).cell? y ∧ ((w.drew.setCells g o vs).drew).frozen? y = (w.drew.setCells g o vs).frozen? y := ⟨rfl, rfl⟩

end Go.Proofs.Ytidhnmmhniiolaa
