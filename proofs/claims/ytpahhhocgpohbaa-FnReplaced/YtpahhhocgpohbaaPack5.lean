import Derived.Test.YtpahhhocgpohbaaPack1
import Derived.Test.YtpahhhocgpohbaaPack2
import Derived.Shelf.Spec.SlicesInsert
import Derived.Lib.AppendZerosOnto
import Derived.Laws.NewBlocks
import Derived.Deep.RegionLaw
namespace Go.Proofs.Ytpahhhocgpohbaa
open Go.RowKit Go.Lib

theorem rowV_setCells (g : Nat) (T : TypeId) : ∀ (vs : List Value) (o : Nat) (w : World) (cur : Array Value), w.heap[g]? = some (.cells cur T (0, 0)) → ∃ cur', (w.setCells g o vs).heap[g]? = some (.cells cur' T (0, 0)) ∧ cur'.size = cur.size
  | [], _, _, cur, h => ⟨cur, h, rfl⟩
  | v :: r, o, w, cur, h => by
    obtain ⟨cur', h1, h2⟩ := rowV_setCells g T r (o + 1) (w.setCell ⟨g, o, none⟩ v) _ (heap_setCell_same w g o cur T v h)
    exact ⟨cur', h1, by rw [h2, Array.size_setIfInBounds]⟩
theorem belowV_setCells {base g : Nat} (hb : base ≤ g) : ∀ (vs : List Value) (o : Nat) {w w' : World}, Below base w w' → Below base w (w'.setCells g o vs)
  | [], _, _, _, h => h
  | _ :: r, o, _, _, h => belowV_setCells hb r (o + 1) (h.setCell hb _)
/-- What is read in a row of the call's own is owned. -/
theorem ownV_of_cells {W : World} {base g cap n size : Nat} {E : TypeId} {cur : Array Value} {xs : List Value} (hr : W.heap[g]? = some (.cells cur E (0, 0))) (hsz : cur.size = cap * size) (hn : n ≤ cap) (hm : cap ≤ maxLen) (hb : base ≤ g) (hx : xs.length = n * size) (hc : ∀ j, j < n * size → W.cell? ⟨g, j, none⟩ = xs[j]?) : W.ownsRow base E size (.slice (some ⟨g, 0, none⟩) n cap) n xs := by
  refine ⟨hx, .inr ⟨g, cap, cur, rfl, hb, hr, hn, hm, hsz, ?_⟩⟩
  apply List.ext_getElem?
  intro j
  rw [List.getElem?_take]
  by_cases hj : j < n * size
  · have h1 := hc j hj
    rw [cell_of_row _ _ _ _ _ _ hr] at h1
    rw [if_pos hj, Array.getElem?_toList, h1]
  · rw [if_neg hj, List.getElem?_eq_none (by omega)]
/-- A row with others put in. -/
def insV (xs : List Value) (p : Nat) (ys : List Value) : List Value := xs.take p ++ (ys ++ xs.drop p)
theorem insV_length {xs ys : List Value} {p : Nat} (hp : p ≤ xs.length) : (insV xs p ys).length = xs.length + ys.length := by
  unfold insV
  rw [List.length_append, List.length_append, List.length_take, List.length_drop]
  omega
theorem insV_at {xs ys : List Value} {p q : Nat} (hq : ys.length = q) (hp : p ≤ xs.length) (j : Nat) : (insV xs p ys)[j]? = if j < p then xs[j]? else if j < p + q then ys[j - p]? else xs[j - q]? := by
  unfold insV
  by_cases h1 : j < p
  · rw [if_pos h1, List.getElem?_append_left (by rw [List.length_take]; omega), List.getElem?_take, if_pos h1]
  · rw [if_neg h1, List.getElem?_append_right (by rw [List.length_take]; omega), List.length_take, Nat.min_eq_left hp]
    by_cases h2 : j < p + q
    · rw [if_pos h2, List.getElem?_append_left (by omega)]
    · rw [if_neg h2, List.getElem?_append_right (by omega), List.getElem?_drop, hq, show p + (j - p - q) = j - q from by omega]
theorem insV_end {xs ys : List Value} {p : Nat} (h : xs.length = p) : insV xs p ys = xs ++ ys := by
  unfold insV
  rw [← h, List.take_length, List.drop_length, List.append_nil]
/-- 'copy' at any size of an element: all is read before anything is written. -/
theorem run_copyV {P : Program} (w : World) (dT sT ty elem : TypeId) (b o dLen dCap : Nat) (a : Addr) (sLen sCap size : Nat) (cs : List Value)
    (hu : P.underlying dT = some (.slice elem)) (hs : (P.info? elem).map (·.size) = some size) (hn : cs.length = Nat.min sLen dLen * size)
    (hsrc : ∀ j v, cs[j]? = some v → w.cell? (a.add j) = some v) (hc : ∀ j, j < cs.length → (w.cell? ⟨b, o + j, none⟩).isSome = true) (hf : ∀ j, j < cs.length → w.frozen? ⟨b, o + j, none⟩ = false) (h1 : ∀ v ∈ cs, v.oneCell' = true) :
    (Builtin.copy_ #[dT, sT] ty #[.slice (some ⟨b, o, none⟩) dLen dCap, .slice (some a) sLen sCap]).run P w = .ok (goInt (Nat.min sLen dLen)) (w.setCells b o cs) := by
  have hl := run_loadCells_list (P := P) w a cs hsrc
  have hst := run_storeCells_cells (P := P) b o cs 0 w (by simpa using hc) (by simpa using hf) h1
  cases hq : P.info? elem with
  | none => simp [hq] at hs
  | some i =>
    have hi : i.size = size := by simpa [hq] using hs
    simp [Builtin.copy_, run_underlying hu, Builtin.lenOf, Builtin.firstCells, sizeOf, typeInfo, hq, hi, ← hn, hl, hst]
/-- 'clear' at any size of an element. -/
theorem run_clearV {P : Program} (w : World) (t e ty : TypeId) (z : Value) (ht : P.underlying t = some (.slice e)) (hv : ∀ w, (zeroValue e).run P w = .ok z w) (b o n c : Nat) (hn : 0 < n) (cs : List Value) (hcs : (Builtin.zeroCells z.cells n).toList = cs) (h1 : ∀ v ∈ cs, v.oneCell' = true)
    (hc : ∀ j, j < cs.length → (w.cell? ⟨b, o + j, none⟩).isSome = true) (hf : ∀ j, j < cs.length → w.frozen? ⟨b, o + j, none⟩ = false) :
    (Builtin.clear_ #[t] ty #[.slice (some ⟨b, o, none⟩) n c]).run P w = .ok (.tuple #[]) (w.setCells b o cs) := by
  have hst := run_storeCells_cells (P := P) b o cs 0 w (by simpa using hc) (by simpa using hf) h1
  simp only [Nat.add_zero] at hst
  obtain ⟨m, rfl⟩ : ∃ m, n = m + 1 := ⟨n - 1, by omega⟩
  simp [Builtin.clear_, run_underlying ht, hv, hcs, hst]
theorem step_append_runV {P : Program} {ops : Array Oper} {o : Oper} {a : Act} {w : World} {K : Act → World → Prop} {Q : Exit → Act → World → Prop} {E : Prop}
    (hg : o.guard = none) (d x : Operand) (dT sT : TypeId) (hop : o.op = Op.call { callee := Callee.builtin Builtin.append, args := #[d, x], argTypes := #[dT, sT] })
    (v u : Value) (hd : a.eval d = v) (hx : a.eval x = u) {v' : Value} {w' : World} (hr : (Builtin.append_ #[dT, sT] o.type #[v, u]).run P w = .ok v' w') (hK : K (a.put o.dst v') w') :
    if Region.wanted o (yielded ops a.tmps) = true then Oper.wp P o a w K Q else E := by
  have hw : Region.wanted o (yielded ops a.tmps) = true := by simp [Region.wanted, hg]
  rw [if_pos hw]
  unfold Oper.wp
  simp [execOp, hop, resolve, invoke, builtin, hd, hx, hr, Result.andThen]
  exact hK
theorem own_anyV {w : World} {base k : Nat} {v : Value} {e : TypeId} {size : Nat} {xs : List Value} (h : w.ownsRow base e size v k xs) : ∃ ao co, v = .slice ao k co := by
  obtain ⟨_, ⟨h1, h2⟩ | ⟨g', cap, cur, h2, _⟩⟩ := h
  · exact ⟨none, 0, by rw [h1, h2]⟩
  · exact ⟨_, _, h2⟩
theorem zeroCells_size (z : Array Value) (n : Nat) : (Builtin.zeroCells z n).size = n * z.size := by simp [Builtin.zeroCells]

theorem heapV_setCells (g : Nat) : ∀ (vs : List Value) (o : Nat) (w w' : World), w.heap = w'.heap → (w.setCells g o vs).heap = (w'.setCells g o vs).heap
  | [], _, _, _, h => h
  | v :: r, o, w, w', h => heapV_setCells g r (o + 1) (w.setCell ⟨g, o, none⟩ v) (w'.setCell ⟨g, o, none⟩ v) (by unfold World.setCell; rw [h])
theorem drewV_setCells (g : Nat) (vs : List Value) (o : Nat) (w : World) (y : Addr) : ((w.drew.setCells g o vs).drew).cell? y = (w.drew.setCells g o vs).cell? y ∧ ((w.drew.setCells g o vs).drew).frozen? y = (w.drew.setCells g o vs).frozen? y := ⟨rfl, rfl⟩

end Go.Proofs.Ytpahhhocgpohbaa

namespace Go.Proofs.Ytpahhhocgpohbaa
open Go.RowKit Go.Lib

theorem grownV_same {w : World} {row : Option Nat} {g : Nat} (hg : row = some g ∨ w.heap.size ≤ g) : ∀ (vs : List Value) (o : Nat) {w' : World}, w.grownBy w' row → w.grownBy (w'.setCells g o vs) row
  | [], _, _, h => h
  | v :: r, o, w', h => grownV_same hg r (o + 1) (w' := w'.setCell ⟨g, o, none⟩ v) ⟨h.os, h.tape, h.output, Nat.le_trans h.size (by simp [World.setCell]), fun b hb hne => (heap_setCell_other w' ⟨g, o, none⟩ b v (fun e => by
      have e : b = g := e
      rcases hg with hg | hg
      · exact hne (by rw [e, hg])
      · omega)).trans (h.block b hb hne)⟩
theorem grownV_refl (w : World) (row : Option Nat) : w.grownBy w row := ⟨rfl, rfl, rfl, Nat.le_refl _, fun _ _ _ => rfl⟩
theorem grownV_drew {w w' : World} {row : Option Nat} (h : w.grownBy w' row) : w.grownBy w'.drew row := ⟨h.os, h.tape, h.output, h.size, h.block⟩
theorem grownV_of_drew {w w' : World} {row : Option Nat} (h : w.drew.grownBy w' row) : w.grownBy w' row := ⟨h.os, h.tape, h.output, h.size, h.block⟩
theorem grownV_alloc {w w' : World} {row : Option Nat} (h : w.grownBy w' row) (o : Obj) : w.grownBy (w'.alloc o) row := by
  have := World.grownBy_alloc w' o row
  exact ⟨this.os.trans h.os, this.tape.trans h.tape, this.output.trans h.output, Nat.le_trans h.size this.size, fun k hk hne => (this.block k (Nat.lt_of_lt_of_le hk h.size) hne).trans (h.block k hk hne)⟩
theorem grownV_trans {w w1 w2 : World} {row : Option Nat} (h : w.grownBy w1 row) (k : w1.grownBy w2 row) : w.grownBy w2 row :=
  ⟨k.os.trans h.os, k.tape.trans h.tape, k.output.trans h.output, Nat.le_trans h.size k.size, fun b hb hne => (k.block b (Nat.lt_of_lt_of_le hb h.size) hne).trans (h.block b hb hne)⟩
theorem grownV_below {w w1 w2 : World} {row : Option Nat} (h : w.grownBy w1 row) (hb : Below w1.heap.size w1 w2) : w.grownBy w2 row :=
  ⟨hb.os.trans h.os, hb.tape.trans h.tape, hb.output.trans h.output, Nat.le_trans h.size hb.size, fun j hj hne => (hb.block j (Nat.lt_of_lt_of_le hj h.size)).trans (h.block j hj hne)⟩

end Go.Proofs.Ytpahhhocgpohbaa

namespace Go.Proofs.Ytpahhhocgpohbaa
open Go.RowKit Go.Lib

theorem infG : (Try.prog.info? 90).map (fun i => (i.zero, i.size, i.bytes)) = some (some (.agg #[.string ⟨#[]⟩, .slice none 0 0, .int .i64 0]), 3, 48) := by kernel_rfl
theorem sizeG (w : World) : (Go.sizeOf 90).run Try.prog w = .ok 3 w := by
  obtain ⟨i0, hi, _, hz1, _⟩ := inf_parts infG
  simp [Go.sizeOf, typeInfo, hi, hz1]
theorem sizeG' : (Try.prog.info? 90).map (·.size) = some 3 := by
  obtain ⟨i0, hi, _, hz1, _⟩ := inf_parts infG
  rw [hi]
  simp [hz1]
theorem overlapsG (w : World) (vb g o lb cb : Nat) (xs cur : Array Value) (hne : vb ≠ g) (hv : w.heap[vb]? = some (.cells xs 90 (0, 0))) (hg : w.heap[g]? = some (.cells cur 90 (0, 0))) (hc : cur.size ≠ 0) :
    (callFunc 100 #[.slice (some ⟨vb, 0, none⟩) 1 1, .slice (some ⟨g, o, none⟩) lb cb]).run Try.prog w = .ok (.value (.bool false)) w := by
  rw [run_callFunc_extern Try.func100 (by kernel_rfl) (by kernel_rfl) (by kernel_rfl) (e := Extern.SlicesOverlaps.overlaps #[86, 86] #[4]) (by kernel_rfl),
    Lib.run_overlaps_apart w 86 4 90 Try.underlying86 3 sizeG ⟨vb, 0, none⟩ ⟨g, o, none⟩ 1 1 lb cb hne 90 90 xs.size cur.size (by unfold World.shape?; rw [hv]) (by unfold World.shape?; rw [hg]) hc (frozen_of_row _ _ 0 _ _ hv) (frozen_of_row _ _ xs.size _ _ hv)]
  rfl

set_option maxHeartbeats 4000000 in
set_option maxRecDepth 100000 in
/-- slices.Insert of one element, there being room behind the last: in place. -/
theorem roomG (g c i vb base n : Nat) (xs ys : List Value) (w : World) (hx : xs.length = n * 3) (hy : ys.length = 3) (hx1 : ∀ v ∈ xs, v.oneCell' = true) (hy1 : ∀ v ∈ ys, v.oneCell' = true) (ho : w.ownsRow base 90 3 (.slice (some ⟨g, 0, none⟩) n c) n xs) (hv : w.heap[vb]? = some (.cells ys.toArray 90 (0, 0))) (hvb : vb ≠ g) (hi : i < n) (hroom : n + 1 ≤ c) (hl : n ≤ 1000) :
    Calls Try.prog 96 #[.slice (some ⟨g, 0, none⟩) n c, .int .i64 i, .slice (some ⟨vb, 0, none⟩) 1 1] w fun e w' => ∃ sl', e = .returned sl' ∧ w.grownBy w' (some g) ∧ w'.ownsRow base 90 3 sl' (n + 1) (insV xs (i * 3) ys) := by
  obtain ⟨hlen, ⟨h0, _⟩ | ⟨g', cap, cur, h2, hbg, hrow, hnc, hcm, hcs, htk⟩⟩ := id ho
  · cases h0
  simp at h2
  obtain ⟨rfl, rfl⟩ := h2
  have hcell : ∀ j, j < n * 3 → w.cell? ⟨g, j, none⟩ = xs[j]? := fun j hj => by
    have h9 : xs[j]? = some xs[j] := List.getElem?_eq_getElem (by omega)
    rw [h9]
    exact (own_cellV ho h9).1
  have hsp : ∀ j, j < c * 3 → (w.cell? ⟨g, j, none⟩).isSome = true := fun j hj => by
    rw [cell_of_row _ _ _ _ _ _ hrow, Array.getElem?_eq_getElem (by omega)]; rfl
  have hfz : ∀ j, w.frozen? ⟨g, j, none⟩ = false := fun j => frozen_of_row _ _ j _ _ hrow
  have hvs : ∀ j, w.cell? ⟨vb, j, none⟩ = ys[j]? := fun j => by rw [cell_of_row _ _ _ _ _ _ hv]; simp
  have hc63 : c ≤ 9223372036854775807 := by unfold maxLen at hcm; omega
  have hov := fun o lb cb => overlapsG w vb g o lb cb _ cur hvb hv hrow (by omega)
  obtain ⟨D, HD⟩ : ∃ D : List Value, Hid (xs.drop (i * 3) = D) := ⟨_, rfl⟩
  have hdl : D.length = n * 3 - i * 3 := by rw [← HD.out, List.length_drop, hx]
  have hD : ∀ j, D[j]? = xs[i * 3 + j]? := fun j => by rw [← HD.out, List.getElem?_drop]
  have hD1 : ∀ v ∈ D, v.oneCell' = true := fun v hv9 => by
    rw [← HD.out] at hv9
    exact hx1 v (List.mem_of_mem_drop hv9)
  have hm1 : Nat.min (n + 1 - i) (n - i) = n - i := by simp only [Nat.min_def]; split <;> omega
  have hcp1 : ∀ ty dc sc, (Builtin.copy_ #[86, 86] ty #[.slice (some ⟨g, (i + 1) * 3, none⟩) (n - i) dc, .slice (some ⟨g, i * 3, none⟩) (n + 1 - i) sc]).run Try.prog w.drew = .ok (goInt ((n - i : Nat) : Int)) (w.drew.setCells g ((i + 1) * 3) D) := fun ty dc sc => by
    have := run_copyV (P := Try.prog) w.drew 86 86 ty 90 g ((i + 1) * 3) (n - i) dc ⟨g, i * 3, none⟩ (n + 1 - i) sc 3 D Try.underlying86 sizeG' (by rw [hm1, hdl]; omega)
      (fun j v hj => by
        have hj9 : j < D.length := by
          rcases Nat.lt_or_ge j D.length with h | h
          · exact h
          · rw [List.getElem?_eq_none h] at hj; cases hj
        rw [Addr.add_lit, ← hj, hD]
        exact hcell (i * 3 + j) (by omega))
      (fun j hj => hsp _ (by omega)) (fun j _ => hfz _) hD1
    rw [hm1] at this
    exact this
  obtain ⟨W1, hW1⟩ : ∃ W1, W1 = w.drew.setCells g ((i + 1) * 3) D := ⟨_, rfl⟩
  have hsp1 : ∀ k, k < c * 3 → (W1.cell? ⟨g, k, none⟩).isSome = true := fun k hk => by
    rw [hW1]
    exact isSome_setCells g D ((i + 1) * 3) w.drew (fun j hj => hsp _ (by omega)) k (hsp k hk)
  have hm2 : Nat.min 1 (n + 1 - i) = 1 := by simp only [Nat.min_def]; split <;> omega
  have hcp2 : ∀ (W : World), (∀ y, W.cell? y = W1.cell? y) → (∀ y, W.frozen? y = W1.frozen? y) → ∀ ty dc, (Builtin.copy_ #[86, 86] ty #[.slice (some ⟨g, i * 3, none⟩) (n + 1 - i) dc, .slice (some ⟨vb, 0, none⟩) 1 1]).run Try.prog W = .ok (goInt 1) (W.setCells g (i * 3) ys) := fun W hWc hWf ty dc => by
    have := run_copyV (P := Try.prog) W 86 86 ty 90 g (i * 3) (n + 1 - i) dc ⟨vb, 0, none⟩ 1 1 3 ys Try.underlying86 sizeG' (by rw [hm2, hy])
      (fun j v hj => by
        rw [Addr.add_lit, hWc, hW1, World.cell?_setCells_out g _ _ _ _ (fun h _ => absurd h hvb), ← hj, Nat.zero_add]
        exact hvs j)
      (fun j hj => by rw [hWc]; exact hsp1 _ (by omega)) (fun j _ => by rw [hWf, hW1, World.frozen?_setCells]; exact hfz _) hy1
    rw [hm2] at this
    exact this
  have FIN : Hid (w.grownBy (W1.setCells g (i * 3) ys) (some g) ∧ (W1.setCells g (i * 3) ys).ownsRow base 90 3 (.slice (some ⟨g, 0, none⟩) (n + 1) c) (n + 1) (insV xs (i * 3) ys)) := by
    refine ⟨?_, ?_⟩
    · rw [hW1]
      exact grownV_same (.inl rfl) _ _ (grownV_same (.inl rfl) _ _ (grownV_drew (grownV_refl w _)))
    · obtain ⟨cur1, hr1, hs1⟩ := rowV_setCells g 90 D ((i + 1) * 3) w.drew cur hrow
      obtain ⟨cur2, hr2, hs2⟩ := rowV_setCells g 90 ys (i * 3) _ cur1 hr1
      rw [← hW1] at hr2
      refine ownV_of_cells hr2 (by rw [hs2, hs1, hcs]) hroom hcm hbg (by rw [insV_length (by omega)]; omega) (fun j hj => ?_)
      rw [insV_at hy (by omega)]
      by_cases h1 : j < i * 3
      · rw [if_pos h1, World.cell?_setCells_out g _ _ _ _ (fun _ _ => by simp; omega), hW1, World.cell?_setCells_out g _ _ _ _ (fun _ _ => by simp; omega)]
        exact hcell j (by omega)
      · rw [if_neg h1]
        by_cases h2 : j < i * 3 + 3
        · rw [if_pos h2]
          have := World.cell?_setCells_in g ys (i * 3) W1 (fun j hj => hsp1 _ (by omega)) (j - i * 3) (by omega)
          rw [show i * 3 + (j - i * 3) = j from by omega] at this
          rw [this, List.getElem?_eq_getElem (by omega)]
        · rw [if_neg h2, World.cell?_setCells_out g _ _ _ _ (fun _ _ => by simp; omega), hW1]
          have h3 := World.cell?_setCells_in g D ((i + 1) * 3) w.drew (fun j hj => hsp _ (by omega)) (j - (i + 1) * 3) (by omega)
          rw [show (i + 1) * 3 + (j - (i + 1) * 3) = j from by omega] at h3
          rw [h3, ← List.getElem?_eq_getElem (by omega), hD, show i * 3 + (j - (i + 1) * 3) = j - 3 from by omega]
  rw [← hW1] at hcp1
  rw [hW1] at FIN
  have mixed : Try.prog.follows .mixedOrders = true := by kernel_rfl
  have hz2 : ¬ ((i : Int) = (n : Int)) := by omega
  have hw1 : IntKind.i64.wrap ((i : Int) + 1) = (i : Int) + 1 := by rw [IntKind.wrap_i64]; omega
  have hw2 : IntKind.i64.wrap ((n : Int) + 1) = (n : Int) + 1 := by rw [IntKind.wrap_i64]; omega
  have hb1 : (0 : Int) ≤ (i : Int) + 1 := by omega
  have hin : i ≤ n := by omega
  have htn : ((i : Int) + 1).toNat = i + 1 := by omega
  have htn2 : ((n : Int) + 1).toNat = n + 1 := by omega
  have hb2 : ¬ (c = i + 1) := by omega
  have hb3 : (i : Int) ≤ (n : Int) + 1 := by omega
  have hb4 : ¬ (c = i) := by omega
  have hb5 : ¬ ((c : Int) < (n : Int) + 1) := by omega
  have hb6 : (n : Int) + 1 ≤ (c : Int) := by omega
  clear ho hlen htk hcell hsp hfz hvs hsp1 hD hD1 hrow hv hcm hcs hnc hx hx1 hy1 hdl hm1 hm2
  go_enter Try.func96, Try.ntmps96
  go_wp2_with (simp only [hov])
  go_region_law (refine step_copy_runI rfl _ _ 86 86 rfl _ _ (by simp [Act.eval, Act.put]) (by simp [Act.eval, Act.put]) (hcp1 _ _ _) ?_)
  all_goals
    go_wp2_with (at_builtin; refine wpList_copy_runI _ rfl _ _ 86 86 rfl _ _ rfl rfl (hcp2 _ (fun _ => rfl) (fun _ => rfl) _ _) ?_)
    go_ret
    exact ⟨_, rfl, FIN.out⟩

set_option maxHeartbeats 4000000 in
set_option maxRecDepth 100000 in
/-- .. there being no room: a new row. -/
theorem growG (g c i vb base n : Nat) (xs ys : List Value) (w : World) (hx : xs.length = n * 3) (hy : ys.length = 3) (hx1 : ∀ v ∈ xs, v.oneCell' = true) (hy1 : ∀ v ∈ ys, v.oneCell' = true) (ho : w.ownsRow base 90 3 (.slice (some ⟨g, 0, none⟩) n c) n xs) (hbw : base ≤ w.heap.size) (hv : w.heap[vb]? = some (.cells ys.toArray 90 (0, 0))) (hi : i < n) (hroom : c < n + 1) (hl : n ≤ 1000) :
    Calls Try.prog 96 #[.slice (some ⟨g, 0, none⟩) n c, .int .i64 i, .slice (some ⟨vb, 0, none⟩) 1 1] w fun e w' => ∃ sl', e = .returned sl' ∧ w.grownBy w' (some g) ∧ w'.ownsRow base 90 3 sl' (n + 1) (insV xs (i * 3) ys) := by
  obtain ⟨hlen, ⟨h0, _⟩ | ⟨g', cap, cur, h2, hbg, hrow, hnc, hcm, hcs, htk⟩⟩ := id ho
  · cases h0
  simp at h2
  obtain ⟨rfl, rfl⟩ := h2
  have hcn : c = n := by omega
  subst hcn
  have hcell : ∀ j, j < c * 3 → w.cell? ⟨g, j, none⟩ = xs[j]? := fun j hj => by
    have h9 : xs[j]? = some xs[j] := List.getElem?_eq_getElem (by omega)
    rw [h9]
    exact (own_cellV ho h9).1
  have hvs : ∀ j, w.cell? ⟨vb, j, none⟩ = ys[j]? := fun j => by rw [cell_of_row _ _ _ _ _ _ hv]; simp
  have hgw : g < w.heap.size := row_lt hrow
  have hvw : vb < w.heap.size := row_lt hv
  obtain ⟨i0, hi0, hz0, hz1, hz2⟩ := inf_parts infG
  obtain ⟨A, HA⟩ : ∃ A : List Value, Hid (xs.take (i * 3) = A) := ⟨_, rfl⟩
  have hal : A.length = i * 3 := by rw [← HA.out, List.length_take, hx]; omega
  have hAj : ∀ j, j < i * 3 → A[j]? = xs[j]? := fun j hj => by rw [← HA.out, List.getElem?_take, if_pos hj]
  obtain ⟨D, HD⟩ : ∃ D : List Value, Hid (xs.drop (i * 3) = D) := ⟨_, rfl⟩
  have hdl : D.length = c * 3 - i * 3 := by rw [← HD.out, List.length_drop, hx]
  have hD : ∀ j, D[j]? = xs[i * 3 + j]? := fun j => by rw [← HD.out, List.getElem?_drop]
  have hD1 : ∀ v ∈ D, v.oneCell' = true := fun v hv9 => by
    rw [← HD.out] at hv9
    exact hx1 v (List.mem_of_mem_drop hv9)
  have hold : (Builtin.firstCells i0.size i (.slice (some ⟨g, 0, none⟩) i c)).run Try.prog w.drew = .ok A.toArray w.drew := by
    rw [hz1]
    exact run_firstCells_some w.drew 3 i ⟨g, 0, none⟩ i c A hal (fun j v hj => by
      have hj9 : j < i * 3 := by
        rcases Nat.lt_or_ge j (i * 3) with h | h
        · exact h
        · rw [List.getElem?_eq_none (by omega)] at hj; cases hj
      rw [hAj j hj9] at hj
      rw [Addr.add_lit, Nat.zero_add, ← hj]
      exact hcell j (by omega))
  have hik : i + (c + 1 - i) = c + 1 := by omega
  obtain ⟨G, hG⟩ : ∃ G, G = grownCap w (c + 1) c 90 := ⟨_, rfl⟩
  obtain ⟨ROW, hROW⟩ : ∃ ROW : Array Value, ROW = A.toArray ++ Builtin.zeroCells (Value.cells (.agg #[.string ⟨#[]⟩, .slice none 0 0, .int .i64 0])) (c + 1 - i) ++ Builtin.zeroCells (Value.cells (.agg #[.string ⟨#[]⟩, .slice none 0 0, .int .i64 0])) (G - (c + 1)) := ⟨_, rfl⟩
  have hrz : ∀ ty, (Builtin.append_ #[86, 3] ty #[.slice (some ⟨g, 0, none⟩) i c, .int .i64 ((c : Int) + 1 - (i : Int))]).run Try.prog w = .ok (.slice (some ⟨w.heap.size, 0, none⟩) (c + 1) G) (w.drew.alloc (.cells ROW 90)) := fun ty => by
    have h := Lib.run_append_grow_zeros w 86 3 ty 90 i0 _ .i64 .i64 Try.underlying86 Try.underlying3 hi0 hz0 (some ⟨g, 0, none⟩) i c A hold (c + 1 - i) (by omega) (by omega) (by omega) (by omega) (by rw [hz2]; omega) (by rw [hz2, hik]; exact growslice_fits hroom (by omega))
    rw [hik, ← hG, ← hROW] at h
    rw [show (c : Int) + 1 - (i : Int) = ((c + 1 - i : Nat) : Int) from by omega]
    exact h
  have hGn : c + 1 ≤ G := by rw [hG]; exact grownCap_ge w _ _ _
  have hGm : G ≤ maxLen := by rw [hG]; exact grownCap_le_maxLen w (c + 1) c 90 (by unfold maxLen; omega)
  have hG63 : G ≤ 9223372036854775807 := by unfold maxLen at hGm; omega
  have hRl : ROW.size = G * 3 := by
    rw [hROW]
    have hzc : (Value.cells (.agg #[.string ⟨#[]⟩, .slice none 0 0, .int .i64 0])).size = 3 := by simp [Value.cells]
    rw [Array.size_append, Array.size_append, zeroCells_size, zeroCells_size, hzc]
    simp [hal]
    omega
  obtain ⟨W1, hW1⟩ : ∃ W1, W1 = w.drew.alloc (.cells ROW 90) := ⟨_, rfl⟩
  have hN0 : W1.heap[w.heap.size]? = some (.cells ROW 90 (0, 0)) := by rw [hW1]; exact heap_alloc_new w.drew _
  have hN : ∀ j, j < G * 3 → (W1.cell? ⟨w.heap.size, j, none⟩).isSome = true := fun j hj => by
    rw [cell_of_row _ _ _ _ _ _ hN0, Array.getElem?_eq_getElem (by omega)]; rfl
  have hNf : ∀ j, W1.frozen? ⟨w.heap.size, j, none⟩ = false := fun j => frozen_of_row _ _ j _ _ hN0
  have hB1 : Below w.heap.size w W1 := by rw [hW1]; exact (Below.refl _ _).drew.alloc (Nat.le_refl _) _
  have hA1 : ∀ j, j < i * 3 → W1.cell? ⟨w.heap.size, j, none⟩ = xs[j]? := fun j hj => by
    rw [cell_of_row _ _ _ _ _ _ hN0, hROW, Array.append_assoc, Array.getElem?_append_left (by simp; omega)]
    have h9 := hAj j hj
    simpa using h9
  have hm2 : Nat.min 1 (c + 1 - i) = 1 := by simp only [Nat.min_def]; split <;> omega
  have hcpA : ∀ (W : World), (∀ y, W.cell? y = W1.cell? y) → (∀ y, W.frozen? y = W1.frozen? y) → ∀ ty dc, (Builtin.copy_ #[86, 86] ty #[.slice (some ⟨w.heap.size, i * 3, none⟩) (c + 1 - i) dc, .slice (some ⟨vb, 0, none⟩) 1 1]).run Try.prog W = .ok (goInt 1) (W.setCells w.heap.size (i * 3) ys) := fun W hWc hWf ty dc => by
    have := run_copyV (P := Try.prog) W 86 86 ty 90 w.heap.size (i * 3) (c + 1 - i) dc ⟨vb, 0, none⟩ 1 1 3 ys Try.underlying86 sizeG' (by rw [hm2, hy])
      (fun j v hj => by
        rw [Addr.add_lit, hWc, Nat.zero_add, ← hj]
        exact (hB1.cell (p := ⟨vb, j, none⟩) hvw).trans (hvs j))
      (fun j hj => by rw [hWc]; exact hN _ (by omega)) (fun j _ => by rw [hWf]; exact hNf _) hy1
    rw [hm2] at this
    exact this
  obtain ⟨W2, hW2⟩ : ∃ W2, W2 = W1.setCells w.heap.size (i * 3) ys := ⟨_, rfl⟩
  have hN2 : ∀ j, j < G * 3 → (W2.cell? ⟨w.heap.size, j, none⟩).isSome = true := fun j hj => by
    rw [hW2]
    exact isSome_setCells w.heap.size ys (i * 3) W1 (fun k hk => hN _ (by omega)) j (hN j hj)
  have hm1 : Nat.min (c - i) (c - i) = c - i := by simp only [Nat.min_def]; split <;> omega
  have hcpB : ∀ (W : World), (∀ y, W.cell? y = W2.cell? y) → (∀ y, W.frozen? y = W2.frozen? y) → ∀ ty dc sc, (Builtin.copy_ #[86, 86] ty #[.slice (some ⟨w.heap.size, (i + 1) * 3, none⟩) (c - i) dc, .slice (some ⟨g, i * 3, none⟩) (c - i) sc]).run Try.prog W = .ok (goInt ((c - i : Nat) : Int)) (W.setCells w.heap.size ((i + 1) * 3) D) := fun W hWc hWf ty dc sc => by
    have := run_copyV (P := Try.prog) W 86 86 ty 90 w.heap.size ((i + 1) * 3) (c - i) dc ⟨g, i * 3, none⟩ (c - i) sc 3 D Try.underlying86 sizeG' (by rw [hm1, hdl]; omega)
      (fun j v hj => by
        have hj9 : j < D.length := by
          rcases Nat.lt_or_ge j D.length with h | h
          · exact h
          · rw [List.getElem?_eq_none h] at hj; cases hj
        rw [Addr.add_lit, hWc, hW2, World.cell?_setCells_out _ _ _ _ _ (fun h _ => absurd h (by show g ≠ _; omega)), ← hj, hD]
        exact (hB1.cell (p := ⟨g, i * 3 + j, none⟩) hgw).trans (hcell (i * 3 + j) (by omega)))
      (fun j hj => by rw [hWc]; exact hN2 _ (by omega)) (fun j _ => by rw [hWf, hW2, World.frozen?_setCells]; exact hNf _) hD1
    rw [hm1] at this
    exact this
  have FIN : Hid (∀ W : World, (∀ y, W.cell? y = W2.cell? y) → W.heap = W2.heap → w.grownBy W (some g) → w.grownBy (W.setCells w.heap.size ((i + 1) * 3) D) (some g) ∧ (W.setCells w.heap.size ((i + 1) * 3) D).ownsRow base 90 3 (.slice (some ⟨w.heap.size, 0, none⟩) (c + 1) G) (c + 1) (insV xs (i * 3) ys)) := fun W hWc hWh hWb => by
    refine ⟨grownV_same (.inr (Nat.le_refl _)) _ _ hWb, ?_⟩
    obtain ⟨cur1, hr1, hs1⟩ := rowV_setCells w.heap.size 90 ys (i * 3) W1 ROW hN0
    rw [← hW2, ← hWh] at hr1
    obtain ⟨cur2, hr2, hs2⟩ := rowV_setCells w.heap.size 90 D ((i + 1) * 3) W cur1 hr1
    refine ownV_of_cells hr2 (by rw [hs2, hs1, hRl]) hGn hGm hbw (by rw [insV_length (by omega)]; omega) (fun j hj => ?_)
    rw [insV_at hy (by omega)]
    by_cases h1 : j < i * 3
    · rw [if_pos h1, World.cell?_setCells_out _ _ _ _ _ (fun _ _ => by simp; omega), hWc, hW2, World.cell?_setCells_out _ _ _ _ _ (fun _ _ => by simp; omega)]
      exact hA1 j (by omega)
    · rw [if_neg h1]
      by_cases h2 : j < i * 3 + 3
      · rw [if_pos h2, World.cell?_setCells_out _ _ _ _ _ (fun _ _ => by simp; omega), hWc, hW2]
        have := World.cell?_setCells_in w.heap.size ys (i * 3) W1 (fun j hj => hN _ (by omega)) (j - i * 3) (by omega)
        rw [show i * 3 + (j - i * 3) = j from by omega] at this
        rw [this, List.getElem?_eq_getElem (by omega)]
      · rw [if_neg h2]
        have h3 := World.cell?_setCells_in w.heap.size D ((i + 1) * 3) W (fun j hj => by rw [hWc]; exact hN2 _ (by omega)) (j - (i + 1) * 3) (by omega)
        rw [show (i + 1) * 3 + (j - (i + 1) * 3) = j from by omega] at h3
        rw [h3, ← List.getElem?_eq_getElem (by omega), hD, show i * 3 + (j - (i + 1) * 3) = j - 3 from by omega]
  have mixed : Try.prog.follows .mixedOrders = true := by kernel_rfl
  have hq2 : ¬ ((i : Int) = (c : Int)) := by omega
  have hw1 : IntKind.i64.wrap ((i : Int) + 1) = (i : Int) + 1 := by rw [IntKind.wrap_i64]; omega
  have hw2 : IntKind.i64.wrap ((c : Int) + 1) = (c : Int) + 1 := by rw [IntKind.wrap_i64]; omega
  have hw3 : IntKind.i64.wrap ((c : Int) + 1 - (i : Int)) = (c : Int) + 1 - (i : Int) := by rw [IntKind.wrap_i64]; omega
  have hb1 : (0 : Int) ≤ (i : Int) + 1 := by omega
  have hin : i ≤ c := by omega
  have htn : ((i : Int) + 1).toNat = i + 1 := by omega
  have hb3 : (i : Int) ≤ (c : Int) + 1 := by omega
  have hb5 : (c : Int) < (c : Int) + 1 := by omega
  have hGi : ¬ (G = i) := by omega
  have hGim : ¬ (G = i + 1) := by omega
  have hci : ¬ (c = i) := by omega
  clear ho hlen htk hcell hvs hD hD1 hrow hv hcm hcs hnc hAj hal hold hik hROW hG hRl hN hNf hN0 hA1 hN2 hB1 hi0 hz0 hz1 hz2 hdl hx hx1 hy1 hm1 hm2
  subst hW1
  subst hW2
  have hE1 : ∀ y, ((w.alloc (.cells ROW 90)).drew).cell? y = (w.drew.alloc (.cells ROW 90)).cell? y := fun _ => rfl
  have hE2 : ∀ y, ((w.alloc (.cells ROW 90)).drew).frozen? y = (w.drew.alloc (.cells ROW 90)).frozen? y := fun _ => rfl
  have hF1 : ∀ y, (((w.alloc (.cells ROW 90)).drew.setCells w.heap.size (i * 3) ys).drew).cell? y = ((w.drew.alloc (.cells ROW 90)).setCells w.heap.size (i * 3) ys).cell? y := fun y => (drewV_setCells w.heap.size ys (i * 3) (w.alloc (.cells ROW 90)) y).1
  have hF2 : ∀ y, (((w.alloc (.cells ROW 90)).drew.setCells w.heap.size (i * 3) ys).drew).frozen? y = ((w.drew.alloc (.cells ROW 90)).setCells w.heap.size (i * 3) ys).frozen? y := fun y => (drewV_setCells w.heap.size ys (i * 3) (w.alloc (.cells ROW 90)) y).2
  have FIN2 : Hid (w.grownBy ((((w.alloc (.cells ROW 90)).drew.setCells w.heap.size (i * 3) ys).drew).setCells w.heap.size ((i + 1) * 3) D) (some g) ∧ ((((w.alloc (.cells ROW 90)).drew.setCells w.heap.size (i * 3) ys).drew).setCells w.heap.size ((i + 1) * 3) D).ownsRow base 90 3 (.slice (some ⟨w.heap.size, 0, none⟩) (c + 1) G) (c + 1) (insV xs (i * 3) ys)) :=
    FIN.out _ hF1 (heapV_setCells w.heap.size ys (i * 3) _ _ rfl) (grownV_drew (grownV_same (.inr (Nat.le_refl _)) _ _ (grownV_drew (grownV_alloc (grownV_refl w _) _))))
  have hcA := fun ty dc => hcpA _ hE1 hE2 ty dc
  have hcB := fun ty dc sc => hcpB _ hF1 hF2 ty dc sc
  clear hcpA hcpB FIN hE1 hE2 hF1 hF2
  go_enter Try.func96, Try.ntmps96
  go_wp2_with (first
    | (at_builtin; refine Lib.wpList_append_run _ rfl _ _ _ _ rfl _ _ rfl rfl _ _ (hrz _) ?_)
    | (at_builtin; refine wpList_copy_runI _ rfl _ _ 86 86 rfl _ _ rfl rfl (hcA _ _) ?_))
  go_region_law (refine step_copy_runI rfl _ _ 86 86 rfl _ _ (by simp [Act.eval, Act.put]) (by simp [Act.eval, Act.put]) (hcB _ _ _) ?_)
  all_goals
    go_wp2
    go_ret
    exact ⟨_, rfl, FIN2.out⟩

set_option maxHeartbeats 2000000 in
set_option maxRecDepth 10000 in
/-- slices.Insert of one element behind the last. -/
theorem endG (sl : Value) (vb base n : Nat) (xs ys : List Value) (w : World) (hx : xs.length = n * 3) (hy : ys.length = 3) (hy1 : ∀ v ∈ ys, v.oneCell' = true) (ho : w.ownsRow base 90 3 sl n xs) (hbw : base ≤ w.heap.size) (hv : w.heap[vb]? = some (.cells ys.toArray 90 (0, 0))) (hl : n ≤ 1000) :
    Calls Try.prog 96 #[sl, .int .i64 n, .slice (some ⟨vb, 0, none⟩) 1 1] w fun e w' => ∃ sl', e = .returned sl' ∧ w.grownBy w' sl.ownBlock ∧ w'.ownsRow base 90 3 sl' (n + 1) (insV xs (n * 3) ys) := by
  have HO : Hid (w.ownsRow base 90 3 sl n xs) := ho
  have HV : Hid (∀ j u, ys[j]? = some u → w.cell? ⟨vb, 0 + j, none⟩ = some u) := fun j u hj => by rw [cell_of_row _ _ _ _ _ _ hv, Nat.zero_add]; simpa using hj
  rw [insV_end hx]
  rcases own_kinds ho with ⟨rfl, h0⟩ | ⟨g, c, rfl, -, -⟩
  · subst h0
    clear ho hv
    go_enter Try.func96, Try.ntmps96
    go_wp2_with (
      at_builtin
      refine append_vals Try.underlying86 infG rfl (by omega) _ rfl _ _ rfl base _ 0 xs rfl HO.out vb 0 1 1 ys rfl (by omega) HV.out hy1 (by omega) (by omega) hbw ?_
      intro v' w4 hown hg hz9 hnl
      have O4 : Hid (w4.ownsRow base 90 3 v' (0 + 1) (xs ++ ys)) := hown
      have B4 : Hid (w.grownBy w4 _) := hg
      clear hown hg hnl hz9)
    go_ret
    exact ⟨_, rfl, B4.out, O4.out⟩
  · have hnc : n ≤ c ∧ c ≤ 9223372036854775807 := by
      obtain ⟨_, ⟨h1, _⟩ | ⟨g', cap, cur, h3, _, _, h4, h5, _⟩⟩ := ho
      · cases h1
      · simp at h3
        obtain ⟨rfl, rfl⟩ := h3
        unfold maxLen at h5
        omega
    obtain ⟨hnc1, hnc2⟩ := hnc
    have hin : n ≤ n := Nat.le_refl _
    clear ho hv
    by_cases hcn : c = n
    · subst hcn
      go_enter Try.func96, Try.ntmps96
      go_wp2_with (
        at_builtin
        refine append_vals Try.underlying86 infG rfl (by omega) _ rfl _ _ rfl base _ c xs rfl HO.out vb 0 1 1 ys rfl (by omega) HV.out hy1 (by omega) (by omega) hbw ?_
        intro v' w4 hown hg hz9 hnl
        have O4 : Hid (w4.ownsRow base 90 3 v' (c + 1) (xs ++ ys)) := hown
        have B4 : Hid (w.grownBy w4 _) := hg
        clear hown hg hnl hz9)
      go_ret
      exact ⟨_, rfl, B4.out, O4.out⟩
    · go_enter Try.func96, Try.ntmps96
      go_wp2_with (
        at_builtin
        refine append_vals Try.underlying86 infG rfl (by omega) _ rfl _ _ rfl base _ n xs rfl HO.out vb 0 1 1 ys rfl (by omega) HV.out hy1 (by omega) (by omega) hbw ?_
        intro v' w4 hown hg hz9 hnl
        have O4 : Hid (w4.ownsRow base 90 3 v' (n + 1) (xs ++ ys)) := hown
        have B4 : Hid (w.grownBy w4 _) := hg
        clear hown hg hnl hz9)
      go_ret
      exact ⟨_, rfl, B4.out, O4.out⟩

/-- slices.Insert of one element. -/
theorem insertG (sl : Value) (i vb base n : Nat) (xs ys : List Value) (w : World) (hx : xs.length = n * 3) (hy : ys.length = 3) (hx1 : ∀ v ∈ xs, v.oneCell' = true) (hy1 : ∀ v ∈ ys, v.oneCell' = true) (ho : w.ownsRow base 90 3 sl n xs) (hbw : base ≤ w.heap.size) (hv : w.heap[vb]? = some (.cells ys.toArray 90 (0, 0))) (hvb : sl.ownBlock ≠ some vb) (hi : i ≤ n) (hl : n ≤ 1000) :
    Calls Try.prog 96 #[sl, .int .i64 i, .slice (some ⟨vb, 0, none⟩) 1 1] w fun e w' => ∃ sl', e = .returned sl' ∧ w.grownBy w' sl.ownBlock ∧ w'.ownsRow base 90 3 sl' (n + 1) (insV xs (i * 3) ys) := by
  by_cases he : i = n
  · subst he
    exact endG sl vb base i xs ys w hx hy hy1 ho hbw hv hl
  · rcases own_kinds ho with ⟨rfl, h0⟩ | ⟨g, c, rfl, -, -⟩
    · omega
    · have hvg : vb ≠ g := fun e => hvb (by rw [e]; rfl)
      by_cases hr : n + 1 ≤ c
      · exact roomG g c i vb base n xs ys w hx hy hx1 hy1 ho hv hvg (by omega) hr hl
      · exact growG g c i vb base n xs ys w hx hy hx1 hy1 ho hbw hv (by omega) (by omega) hl

end Go.Proofs.Ytpahhhocgpohbaa

namespace Go.Proofs.Ytpahhhocgpohbaa
open Go.RowKit Go.Lib

theorem infO : (Try.prog.info? 36).map (fun i => (i.zero, i.size, i.bytes)) = some (some (.agg #[.int .i64 0, .string ⟨#[]⟩, .string ⟨#[]⟩, .string ⟨#[]⟩]), 4, 56) := by kernel_rfl
theorem sizeO (w : World) : (Go.sizeOf 36).run Try.prog w = .ok 4 w := by
  obtain ⟨i0, hi, _, hz1, _⟩ := inf_parts infO
  simp [Go.sizeOf, typeInfo, hi, hz1]
theorem sizeO' : (Try.prog.info? 36).map (·.size) = some 4 := by
  obtain ⟨i0, hi, _, hz1, _⟩ := inf_parts infO
  rw [hi]
  simp [hz1]
theorem overlapsO (w : World) (vb g o lb cb : Nat) (xs cur : Array Value) (hne : vb ≠ g) (hv : w.heap[vb]? = some (.cells xs 36 (0, 0))) (hg : w.heap[g]? = some (.cells cur 36 (0, 0))) (hc : cur.size ≠ 0) :
    (callFunc 64 #[.slice (some ⟨vb, 0, none⟩) 1 1, .slice (some ⟨g, o, none⟩) lb cb]).run Try.prog w = .ok (.value (.bool false)) w := by
  rw [run_callFunc_extern Try.func64 (by kernel_rfl) (by kernel_rfl) (by kernel_rfl) (e := Extern.SlicesOverlaps.overlaps #[25, 25] #[4]) (by kernel_rfl),
    Lib.run_overlaps_apart w 25 4 36 Try.underlying25 4 sizeO ⟨vb, 0, none⟩ ⟨g, o, none⟩ 1 1 lb cb hne 36 36 xs.size cur.size (by unfold World.shape?; rw [hv]) (by unfold World.shape?; rw [hg]) hc (frozen_of_row _ _ 0 _ _ hv) (frozen_of_row _ _ xs.size _ _ hv)]
  rfl

set_option maxHeartbeats 4000000 in
set_option maxRecDepth 100000 in
/-- slices.Insert of one element, there being room behind the last: in place. -/
theorem roomO (g c i vb base n : Nat) (xs ys : List Value) (w : World) (hx : xs.length = n * 4) (hy : ys.length = 4) (hx1 : ∀ v ∈ xs, v.oneCell' = true) (hy1 : ∀ v ∈ ys, v.oneCell' = true) (ho : w.ownsRow base 36 4 (.slice (some ⟨g, 0, none⟩) n c) n xs) (hv : w.heap[vb]? = some (.cells ys.toArray 36 (0, 0))) (hvb : vb ≠ g) (hi : i < n) (hroom : n + 1 ≤ c) (hl : n ≤ 1000) :
    Calls Try.prog 60 #[.slice (some ⟨g, 0, none⟩) n c, .int .i64 i, .slice (some ⟨vb, 0, none⟩) 1 1] w fun e w' => ∃ sl', e = .returned sl' ∧ w.grownBy w' (some g) ∧ w'.ownsRow base 36 4 sl' (n + 1) (insV xs (i * 4) ys) := by
  obtain ⟨hlen, ⟨h0, _⟩ | ⟨g', cap, cur, h2, hbg, hrow, hnc, hcm, hcs, htk⟩⟩ := id ho
  · cases h0
  simp at h2
  obtain ⟨rfl, rfl⟩ := h2
  have hcell : ∀ j, j < n * 4 → w.cell? ⟨g, j, none⟩ = xs[j]? := fun j hj => by
    have h9 : xs[j]? = some xs[j] := List.getElem?_eq_getElem (by omega)
    rw [h9]
    exact (own_cellV ho h9).1
  have hsp : ∀ j, j < c * 4 → (w.cell? ⟨g, j, none⟩).isSome = true := fun j hj => by
    rw [cell_of_row _ _ _ _ _ _ hrow, Array.getElem?_eq_getElem (by omega)]; rfl
  have hfz : ∀ j, w.frozen? ⟨g, j, none⟩ = false := fun j => frozen_of_row _ _ j _ _ hrow
  have hvs : ∀ j, w.cell? ⟨vb, j, none⟩ = ys[j]? := fun j => by rw [cell_of_row _ _ _ _ _ _ hv]; simp
  have hc63 : c ≤ 9223372036854775807 := by unfold maxLen at hcm; omega
  have hov := fun o lb cb => overlapsO w vb g o lb cb _ cur hvb hv hrow (by omega)
  obtain ⟨D, HD⟩ : ∃ D : List Value, Hid (xs.drop (i * 4) = D) := ⟨_, rfl⟩
  have hdl : D.length = n * 4 - i * 4 := by rw [← HD.out, List.length_drop, hx]
  have hD : ∀ j, D[j]? = xs[i * 4 + j]? := fun j => by rw [← HD.out, List.getElem?_drop]
  have hD1 : ∀ v ∈ D, v.oneCell' = true := fun v hv9 => by
    rw [← HD.out] at hv9
    exact hx1 v (List.mem_of_mem_drop hv9)
  have hm1 : Nat.min (n + 1 - i) (n - i) = n - i := by simp only [Nat.min_def]; split <;> omega
  have hcp1 : ∀ ty dc sc, (Builtin.copy_ #[25, 25] ty #[.slice (some ⟨g, (i + 1) * 4, none⟩) (n - i) dc, .slice (some ⟨g, i * 4, none⟩) (n + 1 - i) sc]).run Try.prog w.drew = .ok (goInt ((n - i : Nat) : Int)) (w.drew.setCells g ((i + 1) * 4) D) := fun ty dc sc => by
    have := run_copyV (P := Try.prog) w.drew 25 25 ty 36 g ((i + 1) * 4) (n - i) dc ⟨g, i * 4, none⟩ (n + 1 - i) sc 4 D Try.underlying25 sizeO' (by rw [hm1, hdl]; omega)
      (fun j v hj => by
        have hj9 : j < D.length := by
          rcases Nat.lt_or_ge j D.length with h | h
          · exact h
          · rw [List.getElem?_eq_none h] at hj; cases hj
        rw [Addr.add_lit, ← hj, hD]
        exact hcell (i * 4 + j) (by omega))
      (fun j hj => hsp _ (by omega)) (fun j _ => hfz _) hD1
    rw [hm1] at this
    exact this
  obtain ⟨W1, hW1⟩ : ∃ W1, W1 = w.drew.setCells g ((i + 1) * 4) D := ⟨_, rfl⟩
  have hsp1 : ∀ k, k < c * 4 → (W1.cell? ⟨g, k, none⟩).isSome = true := fun k hk => by
    rw [hW1]
    exact isSome_setCells g D ((i + 1) * 4) w.drew (fun j hj => hsp _ (by omega)) k (hsp k hk)
  have hm2 : Nat.min 1 (n + 1 - i) = 1 := by simp only [Nat.min_def]; split <;> omega
  have hcp2 : ∀ (W : World), (∀ y, W.cell? y = W1.cell? y) → (∀ y, W.frozen? y = W1.frozen? y) → ∀ ty dc, (Builtin.copy_ #[25, 25] ty #[.slice (some ⟨g, i * 4, none⟩) (n + 1 - i) dc, .slice (some ⟨vb, 0, none⟩) 1 1]).run Try.prog W = .ok (goInt 1) (W.setCells g (i * 4) ys) := fun W hWc hWf ty dc => by
    have := run_copyV (P := Try.prog) W 25 25 ty 36 g (i * 4) (n + 1 - i) dc ⟨vb, 0, none⟩ 1 1 4 ys Try.underlying25 sizeO' (by rw [hm2, hy])
      (fun j v hj => by
        rw [Addr.add_lit, hWc, hW1, World.cell?_setCells_out g _ _ _ _ (fun h _ => absurd h hvb), ← hj, Nat.zero_add]
        exact hvs j)
      (fun j hj => by rw [hWc]; exact hsp1 _ (by omega)) (fun j _ => by rw [hWf, hW1, World.frozen?_setCells]; exact hfz _) hy1
    rw [hm2] at this
    exact this
  have FIN : Hid (w.grownBy (W1.setCells g (i * 4) ys) (some g) ∧ (W1.setCells g (i * 4) ys).ownsRow base 36 4 (.slice (some ⟨g, 0, none⟩) (n + 1) c) (n + 1) (insV xs (i * 4) ys)) := by
    refine ⟨?_, ?_⟩
    · rw [hW1]
      exact grownV_same (.inl rfl) _ _ (grownV_same (.inl rfl) _ _ (grownV_drew (grownV_refl w _)))
    · obtain ⟨cur1, hr1, hs1⟩ := rowV_setCells g 36 D ((i + 1) * 4) w.drew cur hrow
      obtain ⟨cur2, hr2, hs2⟩ := rowV_setCells g 36 ys (i * 4) _ cur1 hr1
      rw [← hW1] at hr2
      refine ownV_of_cells hr2 (by rw [hs2, hs1, hcs]) hroom hcm hbg (by rw [insV_length (by omega)]; omega) (fun j hj => ?_)
      rw [insV_at hy (by omega)]
      by_cases h1 : j < i * 4
      · rw [if_pos h1, World.cell?_setCells_out g _ _ _ _ (fun _ _ => by simp; omega), hW1, World.cell?_setCells_out g _ _ _ _ (fun _ _ => by simp; omega)]
        exact hcell j (by omega)
      · rw [if_neg h1]
        by_cases h2 : j < i * 4 + 4
        · rw [if_pos h2]
          have := World.cell?_setCells_in g ys (i * 4) W1 (fun j hj => hsp1 _ (by omega)) (j - i * 4) (by omega)
          rw [show i * 4 + (j - i * 4) = j from by omega] at this
          rw [this, List.getElem?_eq_getElem (by omega)]
        · rw [if_neg h2, World.cell?_setCells_out g _ _ _ _ (fun _ _ => by simp; omega), hW1]
          have h3 := World.cell?_setCells_in g D ((i + 1) * 4) w.drew (fun j hj => hsp _ (by omega)) (j - (i + 1) * 4) (by omega)
          rw [show (i + 1) * 4 + (j - (i + 1) * 4) = j from by omega] at h3
          rw [h3, ← List.getElem?_eq_getElem (by omega), hD, show i * 4 + (j - (i + 1) * 4) = j - 4 from by omega]
  rw [← hW1] at hcp1
  rw [hW1] at FIN
  have mixed : Try.prog.follows .mixedOrders = true := by kernel_rfl
  have hz2 : ¬ ((i : Int) = (n : Int)) := by omega
  have hw1 : IntKind.i64.wrap ((i : Int) + 1) = (i : Int) + 1 := by rw [IntKind.wrap_i64]; omega
  have hw2 : IntKind.i64.wrap ((n : Int) + 1) = (n : Int) + 1 := by rw [IntKind.wrap_i64]; omega
  have hb1 : (0 : Int) ≤ (i : Int) + 1 := by omega
  have hin : i ≤ n := by omega
  have htn : ((i : Int) + 1).toNat = i + 1 := by omega
  have htn2 : ((n : Int) + 1).toNat = n + 1 := by omega
  have hb2 : ¬ (c = i + 1) := by omega
  have hb3 : (i : Int) ≤ (n : Int) + 1 := by omega
  have hb4 : ¬ (c = i) := by omega
  have hb5 : ¬ ((c : Int) < (n : Int) + 1) := by omega
  have hb6 : (n : Int) + 1 ≤ (c : Int) := by omega
  clear ho hlen htk hcell hsp hfz hvs hsp1 hD hD1 hrow hv hcm hcs hnc hx hx1 hy1 hdl hm1 hm2
  go_enter Try.func60, Try.ntmps60
  go_wp2_with (simp only [hov])
  go_region_law (refine step_copy_runI rfl _ _ 25 25 rfl _ _ (by simp [Act.eval, Act.put]) (by simp [Act.eval, Act.put]) (hcp1 _ _ _) ?_)
  all_goals
    go_wp2_with (at_builtin; refine wpList_copy_runI _ rfl _ _ 25 25 rfl _ _ rfl rfl (hcp2 _ (fun _ => rfl) (fun _ => rfl) _ _) ?_)
    go_ret
    exact ⟨_, rfl, FIN.out⟩

set_option maxHeartbeats 4000000 in
set_option maxRecDepth 100000 in
/-- .. there being no room: a new row. -/
theorem growO (g c i vb base n : Nat) (xs ys : List Value) (w : World) (hx : xs.length = n * 4) (hy : ys.length = 4) (hx1 : ∀ v ∈ xs, v.oneCell' = true) (hy1 : ∀ v ∈ ys, v.oneCell' = true) (ho : w.ownsRow base 36 4 (.slice (some ⟨g, 0, none⟩) n c) n xs) (hbw : base ≤ w.heap.size) (hv : w.heap[vb]? = some (.cells ys.toArray 36 (0, 0))) (hi : i < n) (hroom : c < n + 1) (hl : n ≤ 1000) :
    Calls Try.prog 60 #[.slice (some ⟨g, 0, none⟩) n c, .int .i64 i, .slice (some ⟨vb, 0, none⟩) 1 1] w fun e w' => ∃ sl', e = .returned sl' ∧ w.grownBy w' (some g) ∧ w'.ownsRow base 36 4 sl' (n + 1) (insV xs (i * 4) ys) := by
  obtain ⟨hlen, ⟨h0, _⟩ | ⟨g', cap, cur, h2, hbg, hrow, hnc, hcm, hcs, htk⟩⟩ := id ho
  · cases h0
  simp at h2
  obtain ⟨rfl, rfl⟩ := h2
  have hcn : c = n := by omega
  subst hcn
  have hcell : ∀ j, j < c * 4 → w.cell? ⟨g, j, none⟩ = xs[j]? := fun j hj => by
    have h9 : xs[j]? = some xs[j] := List.getElem?_eq_getElem (by omega)
    rw [h9]
    exact (own_cellV ho h9).1
  have hvs : ∀ j, w.cell? ⟨vb, j, none⟩ = ys[j]? := fun j => by rw [cell_of_row _ _ _ _ _ _ hv]; simp
  have hgw : g < w.heap.size := row_lt hrow
  have hvw : vb < w.heap.size := row_lt hv
  obtain ⟨i0, hi0, hz0, hz1, hz2⟩ := inf_parts infO
  obtain ⟨A, HA⟩ : ∃ A : List Value, Hid (xs.take (i * 4) = A) := ⟨_, rfl⟩
  have hal : A.length = i * 4 := by rw [← HA.out, List.length_take, hx]; omega
  have hAj : ∀ j, j < i * 4 → A[j]? = xs[j]? := fun j hj => by rw [← HA.out, List.getElem?_take, if_pos hj]
  obtain ⟨D, HD⟩ : ∃ D : List Value, Hid (xs.drop (i * 4) = D) := ⟨_, rfl⟩
  have hdl : D.length = c * 4 - i * 4 := by rw [← HD.out, List.length_drop, hx]
  have hD : ∀ j, D[j]? = xs[i * 4 + j]? := fun j => by rw [← HD.out, List.getElem?_drop]
  have hD1 : ∀ v ∈ D, v.oneCell' = true := fun v hv9 => by
    rw [← HD.out] at hv9
    exact hx1 v (List.mem_of_mem_drop hv9)
  have hold : (Builtin.firstCells i0.size i (.slice (some ⟨g, 0, none⟩) i c)).run Try.prog w.drew = .ok A.toArray w.drew := by
    rw [hz1]
    exact run_firstCells_some w.drew 4 i ⟨g, 0, none⟩ i c A hal (fun j v hj => by
      have hj9 : j < i * 4 := by
        rcases Nat.lt_or_ge j (i * 4) with h | h
        · exact h
        · rw [List.getElem?_eq_none (by omega)] at hj; cases hj
      rw [hAj j hj9] at hj
      rw [Addr.add_lit, Nat.zero_add, ← hj]
      exact hcell j (by omega))
  have hik : i + (c + 1 - i) = c + 1 := by omega
  obtain ⟨G, hG⟩ : ∃ G, G = grownCap w (c + 1) c 36 := ⟨_, rfl⟩
  obtain ⟨ROW, hROW⟩ : ∃ ROW : Array Value, ROW = A.toArray ++ Builtin.zeroCells (Value.cells (.agg #[.int .i64 0, .string ⟨#[]⟩, .string ⟨#[]⟩, .string ⟨#[]⟩])) (c + 1 - i) ++ Builtin.zeroCells (Value.cells (.agg #[.int .i64 0, .string ⟨#[]⟩, .string ⟨#[]⟩, .string ⟨#[]⟩])) (G - (c + 1)) := ⟨_, rfl⟩
  have hrz : ∀ ty, (Builtin.append_ #[25, 3] ty #[.slice (some ⟨g, 0, none⟩) i c, .int .i64 ((c : Int) + 1 - (i : Int))]).run Try.prog w = .ok (.slice (some ⟨w.heap.size, 0, none⟩) (c + 1) G) (w.drew.alloc (.cells ROW 36)) := fun ty => by
    have h := Lib.run_append_grow_zeros w 25 3 ty 36 i0 _ .i64 .i64 Try.underlying25 Try.underlying3 hi0 hz0 (some ⟨g, 0, none⟩) i c A hold (c + 1 - i) (by omega) (by omega) (by omega) (by omega) (by rw [hz2]; omega) (by rw [hz2, hik]; exact growslice_fits hroom (by omega))
    rw [hik, ← hG, ← hROW] at h
    rw [show (c : Int) + 1 - (i : Int) = ((c + 1 - i : Nat) : Int) from by omega]
    exact h
  have hGn : c + 1 ≤ G := by rw [hG]; exact grownCap_ge w _ _ _
  have hGm : G ≤ maxLen := by rw [hG]; exact grownCap_le_maxLen w (c + 1) c 36 (by unfold maxLen; omega)
  have hG63 : G ≤ 9223372036854775807 := by unfold maxLen at hGm; omega
  have hRl : ROW.size = G * 4 := by
    rw [hROW]
    have hzc : (Value.cells (.agg #[.int .i64 0, .string ⟨#[]⟩, .string ⟨#[]⟩, .string ⟨#[]⟩])).size = 4 := by simp [Value.cells]
    rw [Array.size_append, Array.size_append, zeroCells_size, zeroCells_size, hzc]
    simp [hal]
    omega
  obtain ⟨W1, hW1⟩ : ∃ W1, W1 = w.drew.alloc (.cells ROW 36) := ⟨_, rfl⟩
  have hN0 : W1.heap[w.heap.size]? = some (.cells ROW 36 (0, 0)) := by rw [hW1]; exact heap_alloc_new w.drew _
  have hN : ∀ j, j < G * 4 → (W1.cell? ⟨w.heap.size, j, none⟩).isSome = true := fun j hj => by
    rw [cell_of_row _ _ _ _ _ _ hN0, Array.getElem?_eq_getElem (by omega)]; rfl
  have hNf : ∀ j, W1.frozen? ⟨w.heap.size, j, none⟩ = false := fun j => frozen_of_row _ _ j _ _ hN0
  have hB1 : Below w.heap.size w W1 := by rw [hW1]; exact (Below.refl _ _).drew.alloc (Nat.le_refl _) _
  have hA1 : ∀ j, j < i * 4 → W1.cell? ⟨w.heap.size, j, none⟩ = xs[j]? := fun j hj => by
    rw [cell_of_row _ _ _ _ _ _ hN0, hROW, Array.append_assoc, Array.getElem?_append_left (by simp; omega)]
    have h9 := hAj j hj
    simpa using h9
  have hm2 : Nat.min 1 (c + 1 - i) = 1 := by simp only [Nat.min_def]; split <;> omega
  have hcpA : ∀ (W : World), (∀ y, W.cell? y = W1.cell? y) → (∀ y, W.frozen? y = W1.frozen? y) → ∀ ty dc, (Builtin.copy_ #[25, 25] ty #[.slice (some ⟨w.heap.size, i * 4, none⟩) (c + 1 - i) dc, .slice (some ⟨vb, 0, none⟩) 1 1]).run Try.prog W = .ok (goInt 1) (W.setCells w.heap.size (i * 4) ys) := fun W hWc hWf ty dc => by
    have := run_copyV (P := Try.prog) W 25 25 ty 36 w.heap.size (i * 4) (c + 1 - i) dc ⟨vb, 0, none⟩ 1 1 4 ys Try.underlying25 sizeO' (by rw [hm2, hy])
      (fun j v hj => by
        rw [Addr.add_lit, hWc, Nat.zero_add, ← hj]
        exact (hB1.cell (p := ⟨vb, j, none⟩) hvw).trans (hvs j))
      (fun j hj => by rw [hWc]; exact hN _ (by omega)) (fun j _ => by rw [hWf]; exact hNf _) hy1
    rw [hm2] at this
    exact this
  obtain ⟨W2, hW2⟩ : ∃ W2, W2 = W1.setCells w.heap.size (i * 4) ys := ⟨_, rfl⟩
  have hN2 : ∀ j, j < G * 4 → (W2.cell? ⟨w.heap.size, j, none⟩).isSome = true := fun j hj => by
    rw [hW2]
    exact isSome_setCells w.heap.size ys (i * 4) W1 (fun k hk => hN _ (by omega)) j (hN j hj)
  have hm1 : Nat.min (c - i) (c - i) = c - i := by simp only [Nat.min_def]; split <;> omega
  have hcpB : ∀ (W : World), (∀ y, W.cell? y = W2.cell? y) → (∀ y, W.frozen? y = W2.frozen? y) → ∀ ty dc sc, (Builtin.copy_ #[25, 25] ty #[.slice (some ⟨w.heap.size, (i + 1) * 4, none⟩) (c - i) dc, .slice (some ⟨g, i * 4, none⟩) (c - i) sc]).run Try.prog W = .ok (goInt ((c - i : Nat) : Int)) (W.setCells w.heap.size ((i + 1) * 4) D) := fun W hWc hWf ty dc sc => by
    have := run_copyV (P := Try.prog) W 25 25 ty 36 w.heap.size ((i + 1) * 4) (c - i) dc ⟨g, i * 4, none⟩ (c - i) sc 4 D Try.underlying25 sizeO' (by rw [hm1, hdl]; omega)
      (fun j v hj => by
        have hj9 : j < D.length := by
          rcases Nat.lt_or_ge j D.length with h | h
          · exact h
          · rw [List.getElem?_eq_none h] at hj; cases hj
        rw [Addr.add_lit, hWc, hW2, World.cell?_setCells_out _ _ _ _ _ (fun h _ => absurd h (by show g ≠ _; omega)), ← hj, hD]
        exact (hB1.cell (p := ⟨g, i * 4 + j, none⟩) hgw).trans (hcell (i * 4 + j) (by omega)))
      (fun j hj => by rw [hWc]; exact hN2 _ (by omega)) (fun j _ => by rw [hWf, hW2, World.frozen?_setCells]; exact hNf _) hD1
    rw [hm1] at this
    exact this
  have FIN : Hid (∀ W : World, (∀ y, W.cell? y = W2.cell? y) → W.heap = W2.heap → w.grownBy W (some g) → w.grownBy (W.setCells w.heap.size ((i + 1) * 4) D) (some g) ∧ (W.setCells w.heap.size ((i + 1) * 4) D).ownsRow base 36 4 (.slice (some ⟨w.heap.size, 0, none⟩) (c + 1) G) (c + 1) (insV xs (i * 4) ys)) := fun W hWc hWh hWb => by
    refine ⟨grownV_same (.inr (Nat.le_refl _)) _ _ hWb, ?_⟩
    obtain ⟨cur1, hr1, hs1⟩ := rowV_setCells w.heap.size 36 ys (i * 4) W1 ROW hN0
    rw [← hW2, ← hWh] at hr1
    obtain ⟨cur2, hr2, hs2⟩ := rowV_setCells w.heap.size 36 D ((i + 1) * 4) W cur1 hr1
    refine ownV_of_cells hr2 (by rw [hs2, hs1, hRl]) hGn hGm hbw (by rw [insV_length (by omega)]; omega) (fun j hj => ?_)
    rw [insV_at hy (by omega)]
    by_cases h1 : j < i * 4
    · rw [if_pos h1, World.cell?_setCells_out _ _ _ _ _ (fun _ _ => by simp; omega), hWc, hW2, World.cell?_setCells_out _ _ _ _ _ (fun _ _ => by simp; omega)]
      exact hA1 j (by omega)
    · rw [if_neg h1]
      by_cases h2 : j < i * 4 + 4
      · rw [if_pos h2, World.cell?_setCells_out _ _ _ _ _ (fun _ _ => by simp; omega), hWc, hW2]
        have := World.cell?_setCells_in w.heap.size ys (i * 4) W1 (fun j hj => hN _ (by omega)) (j - i * 4) (by omega)
        rw [show i * 4 + (j - i * 4) = j from by omega] at this
        rw [this, List.getElem?_eq_getElem (by omega)]
      · rw [if_neg h2]
        have h3 := World.cell?_setCells_in w.heap.size D ((i + 1) * 4) W (fun j hj => by rw [hWc]; exact hN2 _ (by omega)) (j - (i + 1) * 4) (by omega)
        rw [show (i + 1) * 4 + (j - (i + 1) * 4) = j from by omega] at h3
        rw [h3, ← List.getElem?_eq_getElem (by omega), hD, show i * 4 + (j - (i + 1) * 4) = j - 4 from by omega]
  have mixed : Try.prog.follows .mixedOrders = true := by kernel_rfl
  have hq2 : ¬ ((i : Int) = (c : Int)) := by omega
  have hw1 : IntKind.i64.wrap ((i : Int) + 1) = (i : Int) + 1 := by rw [IntKind.wrap_i64]; omega
  have hw2 : IntKind.i64.wrap ((c : Int) + 1) = (c : Int) + 1 := by rw [IntKind.wrap_i64]; omega
  have hw3 : IntKind.i64.wrap ((c : Int) + 1 - (i : Int)) = (c : Int) + 1 - (i : Int) := by rw [IntKind.wrap_i64]; omega
  have hb1 : (0 : Int) ≤ (i : Int) + 1 := by omega
  have hin : i ≤ c := by omega
  have htn : ((i : Int) + 1).toNat = i + 1 := by omega
  have hb3 : (i : Int) ≤ (c : Int) + 1 := by omega
  have hb5 : (c : Int) < (c : Int) + 1 := by omega
  have hGi : ¬ (G = i) := by omega
  have hGim : ¬ (G = i + 1) := by omega
  have hci : ¬ (c = i) := by omega
  clear ho hlen htk hcell hvs hD hD1 hrow hv hcm hcs hnc hAj hal hold hik hROW hG hRl hN hNf hN0 hA1 hN2 hB1 hi0 hz0 hz1 hz2 hdl hx hx1 hy1 hm1 hm2
  subst hW1
  subst hW2
  have hE1 : ∀ y, ((w.alloc (.cells ROW 36)).drew).cell? y = (w.drew.alloc (.cells ROW 36)).cell? y := fun _ => rfl
  have hE2 : ∀ y, ((w.alloc (.cells ROW 36)).drew).frozen? y = (w.drew.alloc (.cells ROW 36)).frozen? y := fun _ => rfl
  have hF1 : ∀ y, (((w.alloc (.cells ROW 36)).drew.setCells w.heap.size (i * 4) ys).drew).cell? y = ((w.drew.alloc (.cells ROW 36)).setCells w.heap.size (i * 4) ys).cell? y := fun y => (drewV_setCells w.heap.size ys (i * 4) (w.alloc (.cells ROW 36)) y).1
  have hF2 : ∀ y, (((w.alloc (.cells ROW 36)).drew.setCells w.heap.size (i * 4) ys).drew).frozen? y = ((w.drew.alloc (.cells ROW 36)).setCells w.heap.size (i * 4) ys).frozen? y := fun y => (drewV_setCells w.heap.size ys (i * 4) (w.alloc (.cells ROW 36)) y).2
  have FIN2 : Hid (w.grownBy ((((w.alloc (.cells ROW 36)).drew.setCells w.heap.size (i * 4) ys).drew).setCells w.heap.size ((i + 1) * 4) D) (some g) ∧ ((((w.alloc (.cells ROW 36)).drew.setCells w.heap.size (i * 4) ys).drew).setCells w.heap.size ((i + 1) * 4) D).ownsRow base 36 4 (.slice (some ⟨w.heap.size, 0, none⟩) (c + 1) G) (c + 1) (insV xs (i * 4) ys)) :=
    FIN.out _ hF1 (heapV_setCells w.heap.size ys (i * 4) _ _ rfl) (grownV_drew (grownV_same (.inr (Nat.le_refl _)) _ _ (grownV_drew (grownV_alloc (grownV_refl w _) _))))
  have hcA := fun ty dc => hcpA _ hE1 hE2 ty dc
  have hcB := fun ty dc sc => hcpB _ hF1 hF2 ty dc sc
  clear hcpA hcpB FIN hE1 hE2 hF1 hF2
  go_enter Try.func60, Try.ntmps60
  go_wp2_with (first
    | (at_builtin; refine Lib.wpList_append_run _ rfl _ _ _ _ rfl _ _ rfl rfl _ _ (hrz _) ?_)
    | (at_builtin; refine wpList_copy_runI _ rfl _ _ 25 25 rfl _ _ rfl rfl (hcA _ _) ?_))
  go_region_law (refine step_copy_runI rfl _ _ 25 25 rfl _ _ (by simp [Act.eval, Act.put]) (by simp [Act.eval, Act.put]) (hcB _ _ _) ?_)
  all_goals
    go_wp2
    go_ret
    exact ⟨_, rfl, FIN2.out⟩

set_option maxHeartbeats 2000000 in
set_option maxRecDepth 10000 in
/-- slices.Insert of one element behind the last. -/
theorem endO (sl : Value) (vb base n : Nat) (xs ys : List Value) (w : World) (hx : xs.length = n * 4) (hy : ys.length = 4) (hy1 : ∀ v ∈ ys, v.oneCell' = true) (ho : w.ownsRow base 36 4 sl n xs) (hbw : base ≤ w.heap.size) (hv : w.heap[vb]? = some (.cells ys.toArray 36 (0, 0))) (hl : n ≤ 1000) :
    Calls Try.prog 60 #[sl, .int .i64 n, .slice (some ⟨vb, 0, none⟩) 1 1] w fun e w' => ∃ sl', e = .returned sl' ∧ w.grownBy w' sl.ownBlock ∧ w'.ownsRow base 36 4 sl' (n + 1) (insV xs (n * 4) ys) := by
  have HO : Hid (w.ownsRow base 36 4 sl n xs) := ho
  have HV : Hid (∀ j u, ys[j]? = some u → w.cell? ⟨vb, 0 + j, none⟩ = some u) := fun j u hj => by rw [cell_of_row _ _ _ _ _ _ hv, Nat.zero_add]; simpa using hj
  rw [insV_end hx]
  rcases own_kinds ho with ⟨rfl, h0⟩ | ⟨g, c, rfl, -, -⟩
  · subst h0
    clear ho hv
    go_enter Try.func60, Try.ntmps60
    go_wp2_with (
      at_builtin
      refine append_vals Try.underlying25 infO rfl (by omega) _ rfl _ _ rfl base _ 0 xs rfl HO.out vb 0 1 1 ys rfl (by omega) HV.out hy1 (by omega) (by omega) hbw ?_
      intro v' w4 hown hg hz9 hnl
      have O4 : Hid (w4.ownsRow base 36 4 v' (0 + 1) (xs ++ ys)) := hown
      have B4 : Hid (w.grownBy w4 _) := hg
      clear hown hg hnl hz9)
    go_ret
    exact ⟨_, rfl, B4.out, O4.out⟩
  · have hnc : n ≤ c ∧ c ≤ 9223372036854775807 := by
      obtain ⟨_, ⟨h1, _⟩ | ⟨g', cap, cur, h3, _, _, h4, h5, _⟩⟩ := ho
      · cases h1
      · simp at h3
        obtain ⟨rfl, rfl⟩ := h3
        unfold maxLen at h5
        omega
    obtain ⟨hnc1, hnc2⟩ := hnc
    have hin : n ≤ n := Nat.le_refl _
    clear ho hv
    by_cases hcn : c = n
    · subst hcn
      go_enter Try.func60, Try.ntmps60
      go_wp2_with (
        at_builtin
        refine append_vals Try.underlying25 infO rfl (by omega) _ rfl _ _ rfl base _ c xs rfl HO.out vb 0 1 1 ys rfl (by omega) HV.out hy1 (by omega) (by omega) hbw ?_
        intro v' w4 hown hg hz9 hnl
        have O4 : Hid (w4.ownsRow base 36 4 v' (c + 1) (xs ++ ys)) := hown
        have B4 : Hid (w.grownBy w4 _) := hg
        clear hown hg hnl hz9)
      go_ret
      exact ⟨_, rfl, B4.out, O4.out⟩
    · go_enter Try.func60, Try.ntmps60
      go_wp2_with (
        at_builtin
        refine append_vals Try.underlying25 infO rfl (by omega) _ rfl _ _ rfl base _ n xs rfl HO.out vb 0 1 1 ys rfl (by omega) HV.out hy1 (by omega) (by omega) hbw ?_
        intro v' w4 hown hg hz9 hnl
        have O4 : Hid (w4.ownsRow base 36 4 v' (n + 1) (xs ++ ys)) := hown
        have B4 : Hid (w.grownBy w4 _) := hg
        clear hown hg hnl hz9)
      go_ret
      exact ⟨_, rfl, B4.out, O4.out⟩

/-- slices.Insert of one element. -/
theorem insertO (sl : Value) (i vb base n : Nat) (xs ys : List Value) (w : World) (hx : xs.length = n * 4) (hy : ys.length = 4) (hx1 : ∀ v ∈ xs, v.oneCell' = true) (hy1 : ∀ v ∈ ys, v.oneCell' = true) (ho : w.ownsRow base 36 4 sl n xs) (hbw : base ≤ w.heap.size) (hv : w.heap[vb]? = some (.cells ys.toArray 36 (0, 0))) (hvb : sl.ownBlock ≠ some vb) (hi : i ≤ n) (hl : n ≤ 1000) :
    Calls Try.prog 60 #[sl, .int .i64 i, .slice (some ⟨vb, 0, none⟩) 1 1] w fun e w' => ∃ sl', e = .returned sl' ∧ w.grownBy w' sl.ownBlock ∧ w'.ownsRow base 36 4 sl' (n + 1) (insV xs (i * 4) ys) := by
  by_cases he : i = n
  · subst he
    exact endO sl vb base i xs ys w hx hy hy1 ho hbw hv hl
  · rcases own_kinds ho with ⟨rfl, h0⟩ | ⟨g, c, rfl, -, -⟩
    · omega
    · have hvg : vb ≠ g := fun e => hvb (by rw [e]; rfl)
      by_cases hr : n + 1 ≤ c
      · exact roomO g c i vb base n xs ys w hx hy hx1 hy1 ho hv hvg (by omega) hr hl
      · exact growO g c i vb base n xs ys w hx hy hx1 hy1 ho hbw hv (by omega) (by omega) hl

end Go.Proofs.Ytpahhhocgpohbaa
