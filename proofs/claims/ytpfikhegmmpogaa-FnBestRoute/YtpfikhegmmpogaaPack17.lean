import Derived.Test.YtpfikhegmmpogaaPack0
import Derived.Test.YtpfikhegmmpogaaPack2
import Derived.Test.YtpfikhegmmpogaaPack13
import Derived.Test.YtpfikhegmmpogaaSpecSched
import Derived.Test.YtpfikhegmmpogaaPack16
namespace Go.Proofs.Ytpfikhegmmpogaa
open Go.RowKit

/-- A case, a route and the route that is answered, in their boxes. -/
def CRR (w W : World) (cs rs ts : Array Value) : Prop := CR w W cs rs ∧ W.heap[w.heap.size + 2]? = some (.cells ts 34 (0, 0))
theorem CRR.new (w : World) (cs rs ts : Array Value) : CRR w (((w.alloc (.cells cs 30)).alloc (.cells rs 34)).alloc (.cells ts 34)) cs rs ts :=
  ⟨(CR.new w cs rs).alloc _, by have := heap_alloc_new ((w.alloc (.cells cs 30)).alloc (.cells rs 34)) (.cells ts 34); simpa using this⟩
theorem CRR.below {w W W' : World} {cs rs ts : Array Value} (h : CRR w W cs rs ts) (hb : Below W.heap.size W W') : CRR w W' cs rs ts :=
  ⟨h.1.below hb, below_row hb (row_lt h.2) h.2⟩
theorem CRR.b {w W : World} {cs rs ts : Array Value} (h : CRR w W cs rs ts) : Below w.heap.size w W := h.1.1
theorem CRR.alloc {w W : World} {cs rs ts : Array Value} (h : CRR w W cs rs ts) (o : Obj) : CRR w (W.alloc o) cs rs ts := h.below ((Below.refl _ _).alloc (Nat.le_refl _) _)
theorem CRR.big {w W : World} {cs rs ts : Array Value} (h : CRR w W cs rs ts) : w.heap.size + 2 < W.heap.size := row_lt h.2

theorem CRR.set {w W : World} {cs rs ts : Array Value} (h : CRR w W cs rs ts) (u1 u2 : Value) : CR w ((W.setCell ⟨w.heap.size + 1 + 1, 0, none⟩ u1).setCell ⟨w.heap.size + 1 + 1, 1, none⟩ u2) cs rs := (h.1.set (by omega)).set (by omega)
theorem cr7 {w W : World} {c0 c1 c2 c3 c4 r0 r1 : Value} (h : CR w W #[c0, c1, c2, c3, c4] #[r0, r1]) :
    W.cell? ⟨w.heap.size, 0, none⟩ = some c0 ∧ W.cell? ⟨w.heap.size, 1, none⟩ = some c1 ∧ W.cell? ⟨w.heap.size, 2, none⟩ = some c2 ∧ W.cell? ⟨w.heap.size, 3, none⟩ = some c3 ∧ W.cell? ⟨w.heap.size, 4, none⟩ = some c4 ∧ W.cell? ⟨w.heap.size + 1, 0, none⟩ = some r0 ∧ W.cell? ⟨w.heap.size + 1, 1, none⟩ = some r1 := by
  obtain ⟨k0, k1, k2, k3, k4⟩ := cells5 h.2.1
  obtain ⟨k5, k6⟩ := cells2 h.2.2
  exact ⟨k0, k1, k2, k3, k4, k5, k6⟩

theorem owns_set2 {w : World} {base k b : Nat} {v u1 u2 : Value} {e : TypeId} {size : Nat} {xs : List Value} (h : w.ownsRow base e size v k xs) (hb : b < base) : ((w.setCell ⟨b, 0, none⟩ u1).setCell ⟨b, 1, none⟩ u2).ownsRow base e size v k xs := ownsRow_setCell_below (ownsRow_setCell_below h hb u1) hb u2

end Go.Proofs.Ytpfikhegmmpogaa

namespace Go.Proofs.Ytpfikhegmmpogaa
open Go.RowKit

theorem CRR.grown {w W W' : World} {cs rs ts : Array Value} {row : Option Nat} (h : CRR w W cs rs ts) (hg : W.grownBy W' row) (hlt : ∀ g, row = some g → w.heap.size + 2 < g) : CRR w W' cs rs ts :=
  ⟨⟨h.1.1.grown hg h.1.1.size (fun k e => by have := hlt k e; omega), (hg.block _ (row_lt h.1.2.1) (fun e => by have := hlt _ e.symm; omega)).trans h.1.2.1, (hg.block _ (row_lt h.1.2.2) (fun e => by have := hlt _ e.symm; omega)).trans h.1.2.2⟩, (hg.block _ (row_lt h.2) (fun e => by have := hlt _ e.symm; omega)).trans h.2⟩
theorem CRR.put {w W : World} {cs rs ts : Array Value} (h : CRR w W cs rs ts) {k i : Nat} {v : Value} (hk : w.heap.size + 2 < k) : CRR w (W.setCell ⟨k, i, none⟩ v) cs rs ts :=
  ⟨h.1.set (by omega), row_set' h.2 (by omega)⟩
theorem CRR.drew {w W : World} {cs rs ts : Array Value} (h : CRR w W cs rs ts) : CRR w W.drew cs rs ts := h.below (Below.refl _ _).drew

/-- A case, a route, the answer's box, and the box at ko of a new route whose stops are of the call's own (blocks from B on). -/
def OX (w W : World) (B ko : Nat) (cs rs ts : Array Value) (veh : Int) (sl : Value) (ys : List Int) : Prop :=
  CRR w W cs rs ts ∧ W.heap[ko]? = some (.cells #[.int .i64 veh, sl] 34 (0, 0)) ∧ B ≤ ko ∧ w.heap.size + 2 < B ∧ W.ownsRow B 2 1 sl ys.length (ys.map (Value.int .i64))
theorem OX.c {w W : World} {B ko : Nat} {cs rs ts : Array Value} {veh : Int} {sl : Value} {ys : List Int} (h : OX w W B ko cs rs ts veh sl ys) : CRR w W cs rs ts := h.1
theorem OX.b {w W : World} {B ko : Nat} {cs rs ts : Array Value} {veh : Int} {sl : Value} {ys : List Int} (h : OX w W B ko cs rs ts veh sl ys) : Below w.heap.size w W := h.1.1.1
theorem OX.o {w W : World} {B ko : Nat} {cs rs ts : Array Value} {veh : Int} {sl : Value} {ys : List Int} (h : OX w W B ko cs rs ts veh sl ys) : W.ownsRow B 2 1 sl ys.length (ys.map (Value.int .i64)) := h.2.2.2.2
theorem OX.below {w W W' : World} {B ko : Nat} {cs rs ts : Array Value} {veh : Int} {sl : Value} {ys : List Int} (h : OX w W B ko cs rs ts veh sl ys) (hb : Below W.heap.size W W') : OX w W' B ko cs rs ts veh sl ys :=
  ⟨h.1.below hb, below_row hb (row_lt h.2.1) h.2.1, h.2.2.1, h.2.2.2.1, owns_below h.2.2.2.2 hb⟩
theorem OX.drew {w W : World} {B ko : Nat} {cs rs ts : Array Value} {veh : Int} {sl : Value} {ys : List Int} (h : OX w W B ko cs rs ts veh sl ys) : OX w W.drew B ko cs rs ts veh sl ys := h.below (Below.refl _ _).drew
theorem own_ne {w : World} {base k ko : Nat} {v : Value} {size : Nat} {xs : List Value} {cs : Array Value} (h : w.ownsRow base 2 size v k xs) (hk : w.heap[ko]? = some (.cells cs 34 (0, 0))) : v.ownBlock ≠ some ko := by
  intro e
  obtain ⟨_, ⟨rfl, _⟩ | ⟨g, cap, cur, rfl, _, h4, _⟩⟩ := h
  · cases e
  · have : g = ko := by simpa [Value.ownBlock] using e
    subst this
    rw [h4] at hk
    simp at hk
/-- The append, done. -/
theorem OX.grow {w W W' : World} {B ko : Nat} {cs rs ts : Array Value} {veh : Int} {sl sl' : Value} {ys ys' : List Int} (h : OX w W B ko cs rs ts veh sl ys) (hg : W.grownBy W' sl.ownBlock) (ho : W'.ownsRow B 2 1 sl' ys'.length (ys'.map (Value.int .i64))) :
    OX w ((W'.setCell ⟨ko, 1, none⟩ sl')) B ko cs rs ts veh sl' ys' := by
  have hk : W'.heap[ko]? = some (.cells #[.int .i64 veh, sl] 34 (0, 0)) := (hg.block _ (row_lt h.2.1) (fun e => own_ne h.2.2.2.2 h.2.1 e.symm)).trans h.2.1
  refine ⟨(h.1.grown hg (fun g e => ?_)).put ?_, ?_, h.2.2.1, h.2.2.2.1, ?_⟩
  · have := (h.2.2.2.2.lt g e).1; have := h.2.2.2.1; omega
  · have := h.2.2.1; have := h.2.2.2.1; omega
  · have := heap_setCell_same W' ko 1 _ _ sl' hk
    simpa using this
  · exact ownsRow_setCell_other ho (own_ne ho hk) sl'
theorem own0a (w1 : World) : ((w1.alloc (.cells #[] 2)).drew).ownsRow w1.heap.size 2 1 (.slice (some ⟨w1.heap.size, 0, none⟩) 0 0) 0 (([] : List Int).map (Value.int .i64)) :=
  owns_below (World.ownsRow_made w1 #[] 0 (Nat.le_refl _) (by unfold maxLen; omega) (by simp)) (Below.refl _ _).drew
theorem own0b (w1 : World) (o : Obj) : (((w1.alloc (.cells #[] 2)).alloc o).drew).ownsRow w1.heap.size 2 1 (.slice (some ⟨w1.heap.size, 0, none⟩) 0 0) 0 (([] : List Int).map (Value.int .i64)) :=
  owns_below (World.ownsRow_made w1 #[] 0 (Nat.le_refl _) (by unfold maxLen; omega) (by simp)) ((Below.refl _ _).alloc (Nat.le_refl _) _).drew
theorem own0c (w1 : World) (o : Obj) : (((w1.alloc o).alloc (.cells #[] 2)).drew).ownsRow w1.heap.size 2 1 (.slice (some ⟨w1.heap.size + 1, 0, none⟩) 0 0) 0 (([] : List Int).map (Value.int .i64)) := by
  have := owns_below (World.ownsRow_made (base := w1.heap.size) (e := 2) (size := 1) (w1.alloc o) #[] 0 (by simp) (by unfold maxLen; omega) (by simp)) (Below.refl _ _).drew
  simpa using this
theorem alloc_size (w1 : World) (o : Obj) : (w1.alloc o).heap.size = w1.heap.size + 1 := by simp
theorem OX.newa {w w1 w' : World} {cs rs ts : Array Value} {veh : Int} {sl : Value} {ys : List Int} {o : Obj} (h : CRR w w1 cs rs ts) (hg : ((w1.alloc o).drew).grownBy w' (some w1.heap.size)) (ho : w'.ownsRow w1.heap.size 2 1 sl ys.length (ys.map (Value.int .i64))) :
    OX w (w'.alloc (.cells #[.int .i64 veh, sl] 34)) w1.heap.size w'.heap.size cs rs ts veh sl ys :=
  ⟨(((h.alloc o).drew).grown hg (fun g e => by cases e; exact h.big)).alloc _, heap_alloc_new _ _, by have := hg.size; have e := alloc_size w1 o; have : (w1.alloc o).drew.heap.size = w1.heap.size + 1 := e; omega, h.big, ho.alloc _⟩
theorem OX.newb {w w1 w' : World} {cs rs ts : Array Value} {veh : Int} {sl z0 z1 : Value} {ys : List Int} {o : Obj} (h : CRR w w1 cs rs ts) (hg : (((w1.alloc o).alloc (.cells #[z0, z1] 34)).drew).grownBy w' (some w1.heap.size)) (ho : w'.ownsRow w1.heap.size 2 1 sl ys.length (ys.map (Value.int .i64))) :
    OX w ((w'.setCell ⟨w1.heap.size + 1, 0, none⟩ (.int .i64 veh)).setCell ⟨w1.heap.size + 1, 1, none⟩ sl) w1.heap.size (w1.heap.size + 1) cs rs ts veh sl ys := by
  have hk0 : (((w1.alloc o).alloc (.cells #[z0, z1] 34)).drew).heap[w1.heap.size + 1]? = some (.cells #[z0, z1] 34 (0, 0)) := by
    have := heap_alloc_new (w1.alloc o) (.cells #[z0, z1] 34)
    rw [alloc_size] at this
    exact this
  have hk : w'.heap[w1.heap.size + 1]? = some (.cells #[z0, z1] 34 (0, 0)) := (hg.block _ (row_lt hk0) (fun e => by simp at e)).trans hk0
  have hb := h.big
  have s1 := heap_setCell_same w' (w1.heap.size + 1) 0 _ _ (.int .i64 veh) hk
  have s2 := heap_setCell_same _ (w1.heap.size + 1) 1 _ _ sl s1
  refine ⟨((((h.alloc o).alloc _).drew.grown hg (fun g e => by cases e; exact hb)).put (by omega)).put (by omega), by simpa using s2, by omega, hb, ?_⟩
  exact ownsRow_setCell_other (ownsRow_setCell_other ho (own_ne ho hk) _) (own_ne ho hk) _
theorem OX.newc {w w1 w' : World} {cs rs ts : Array Value} {veh : Int} {sl z0 z1 : Value} {ys : List Int} {o : Obj} (h : CRR w w1 cs rs ts) (hg : (((w1.alloc (.cells #[z0, z1] 34)).alloc o).drew).grownBy w' (some (w1.heap.size + 1))) (ho : w'.ownsRow w1.heap.size 2 1 sl ys.length (ys.map (Value.int .i64))) :
    OX w ((w'.setCell ⟨w1.heap.size, 0, none⟩ (.int .i64 veh)).setCell ⟨w1.heap.size, 1, none⟩ sl) w1.heap.size w1.heap.size cs rs ts veh sl ys := by
  have hk0 : (((w1.alloc (.cells #[z0, z1] 34)).alloc o).drew).heap[w1.heap.size]? = some (.cells #[z0, z1] 34 (0, 0)) := heap_alloc2_old _ _ _
  have hk : w'.heap[w1.heap.size]? = some (.cells #[z0, z1] 34 (0, 0)) := (hg.block _ (row_lt hk0) (fun e => by simp at e)).trans hk0
  have hb := h.big
  have s1 := heap_setCell_same w' w1.heap.size 0 _ _ (.int .i64 veh) hk
  have s2 := heap_setCell_same _ w1.heap.size 1 _ _ sl s1
  refine ⟨((((h.alloc _).alloc o).drew.grown hg (fun g e => by cases e; omega)).put (by omega)).put (by omega), by simpa using s2, by omega, hb, ?_⟩
  exact ownsRow_setCell_other (ownsRow_setCell_other ho (own_ne ho hk) _) (own_ne ho hk) _

theorem rowb {w1 w2 : World} {o : Obj} {cs : Array Value} {T : TypeId} (hg : (((w1.alloc o).alloc (.cells cs T)).drew).grownBy w2 (some w1.heap.size)) : w2.heap[w1.heap.size + 1]? = some (.cells cs T (0, 0)) := by
  have hk0 : (((w1.alloc o).alloc (.cells cs T)).drew).heap[w1.heap.size + 1]? = some (.cells cs T (0, 0)) := by
    have := heap_alloc_new (w1.alloc o) (.cells cs T)
    rw [alloc_size] at this
    exact this
  exact (hg.block _ (row_lt hk0) (fun e => by simp at e)).trans hk0
theorem rowc {w1 w2 : World} {o : Obj} {cs : Array Value} {T : TypeId} (hg : (((w1.alloc (.cells cs T)).alloc o).drew).grownBy w2 (some (w1.heap.size + 1))) : w2.heap[w1.heap.size]? = some (.cells cs T (0, 0)) := by
  have hk0 : (((w1.alloc (.cells cs T)).alloc o).drew).heap[w1.heap.size]? = some (.cells cs T (0, 0)) := heap_alloc2_old _ _ _
  exact (hg.block _ (row_lt hk0) (fun e => by simp at e)).trans hk0
theorem own_len {w : World} {base n : Nat} {v : Value} {e : TypeId} {xs : List Int} (h : w.ownsRow base e 1 v (0 + n) (([] ++ xs).map (Value.int .i64))) (hl : xs.length = n) : w.ownsRow base e 1 v xs.length (xs.map (Value.int .i64)) := by
  rw [Nat.zero_add] at h
  rw [hl]
  exact h
theorem own_len2 {w : World} {base n m : Nat} {v : Value} {e : TypeId} {xs ys : List Int} (h : w.ownsRow base e 1 v (n + m) ((xs ++ ys).map (Value.int .i64))) (hx : xs.length = n) (hy : ys.length = m) : w.ownsRow base e 1 v (xs ++ ys).length ((xs ++ ys).map (Value.int .i64)) := by
  rw [List.length_append, hx, hy]
  exact h
theorem own_k {w : World} {base n : Nat} {v : Value} {e : TypeId} {xs : List Int} (h : w.ownsRow base e 1 v xs.length (xs.map (Value.int .i64))) (hl : xs.length = n) : w.ownsRow base e 1 v n (xs.map (Value.int .i64)) := by
  rw [← hl]
  exact h
theorem own_bd {w : World} {base k g c : Nat} {e : TypeId} {size : Nat} {xs : List Value} (h : w.ownsRow base e size (.slice (some ⟨g, 0, none⟩) k c) k xs) : k ≤ c ∧ k ≤ 9223372036854775807 := by
  obtain ⟨_, ⟨h1, _⟩ | ⟨g', cap, cur, h2, _, _, h5, h6, _⟩⟩ := h
  · cases h1
  · simp at h2
    obtain ⟨rfl, rfl⟩ := h2
    unfold maxLen at h6
    exact ⟨h5, by omega⟩
theorem rc_of {c : Bool} {n : Int} {zs os vs : List Int} {ko kv : Nat} {veh : Int} {ids : List Int} (h : codeV c n zs os vs ko kv veh ids = 0) : rcV n zs os vs ko kv veh ids = rideV n zs (rosOf os ko ids) ids.length (fnd5F vs kv veh 1) := by
  have hc := code_case h
  rw [hc] at h
  exact rcV_yes h
theorem chD_yes {ch c : Bool} {n : Int} {zs os vs : List Int} {ko kv : Nat} {veh : Int} {ids ids' : List Int} (h : ch = true) (h1 : codeV c n zs os vs ko kv veh ids = 0) (h2 : codeV c n zs os vs ko kv veh ids' = 0) :
    chD ch n zs os vs ko kv veh ids ids' = rideV n zs (rosOf os ko ids') ids'.length (fnd5F vs kv veh 1) - rideV n zs (rosOf os ko ids) ids.length (fnd5F vs kv veh 1) := by
  subst h
  unfold chD
  rw [if_pos rfl, rc_of h1, rc_of h2]
theorem keepB {w1 X : World} {b o : Nat} {v : Value} (hc : w1.cell? ⟨b, o, none⟩ = some v) (hb : Below w1.heap.size w1 X) : X.cell? ⟨b, o, none⟩ = some v := by
  rw [hb.cell (p := ⟨b, o, none⟩) (block_lt_of_cell hc)]; exact hc
theorem ints_take {W : World} {a : Option Addr} {ids : List Int} (h : IntsAt W a ids) (i : Nat) : IntsAt W a (ids.take i) := by
  intro j hj
  simp at hj
  obtain ⟨b, off, e, hc⟩ := h j (by omega)
  refine ⟨b, off, e, hc.trans ?_⟩
  simp only [List.getD, List.getElem?_take]
  rw [if_pos (by omega)]
theorem ints_drop {W : World} {b off : Nat} {ids : List Int} (h : IntsAt W (some ⟨b, off, none⟩) ids) (i : Nat) : IntsAt W (some ⟨b, off + i, none⟩) (ids.drop i) := by
  intro j hj
  simp at hj
  obtain ⟨b', off', e, hc⟩ := h (i + j) (by omega)
  simp at e
  obtain ⟨rfl, rfl⟩ := e
  refine ⟨b, off + i, rfl, ?_⟩
  rw [Nat.add_assoc, hc]
  simp [List.getD, List.getElem?_drop]
theorem ints_cut {W : World} {b off : Nat} {ids : List Int} (h : IntsAt W (some ⟨b, off, none⟩) ids) (i c2 : Nat) (hc : ids.length ≤ c2) : IntsAt W (if c2 = i then some ⟨b, off, none⟩ else some ⟨b, off + i, none⟩) (ids.drop i) := by
  by_cases e : c2 = i
  · rw [if_pos e, List.drop_eq_nil_of_le (by omega)]
    intro j hj
    simp at hj
  · rw [if_neg e]
    exact ints_drop h i
theorem cut_some (b off i c2 : Nat) : ∃ b' off', (if c2 = i then some (⟨b, off, none⟩ : Addr) else some ⟨b, off + i, none⟩) = some ⟨b', off', none⟩ := by
  split
  · exact ⟨_, _, rfl⟩
  · exact ⟨_, _, rfl⟩
theorem OX.keep {w W W' : World} {B ko : Nat} {cs ts : Array Value} {r0 r1 : Value} {veh : Int} {sl : Value} {ys : List Int} (h : OX w W B ko cs #[r0, r1] ts veh sl ys) (hg : W.grownBy W' sl.ownBlock) :
    W'.cell? ⟨w.heap.size + 1, 1, none⟩ = some r1 ∧ W'.cell? ⟨ko, 1, none⟩ = some sl ∧ (∀ i, W'.frozen? ⟨ko, i, none⟩ = false) := by
  have hk : W'.heap[ko]? = some (.cells #[.int .i64 veh, sl] 34 (0, 0)) := (hg.block _ (row_lt h.2.1) (fun e => own_ne h.2.2.2.2 h.2.1 e.symm)).trans h.2.1
  have hc := (h.1.grown hg (fun g e => by have := (h.2.2.2.2.lt g e).1; have := h.2.2.2.1; omega)).1.2.2
  exact ⟨(cells2 hc).2, (cells2 hk).2, fun i => frozen_of_row _ _ i _ _ hk⟩
theorem OX.size {w W : World} {B ko : Nat} {cs rs ts : Array Value} {veh : Int} {sl : Value} {ys : List Int} (h : OX w W B ko cs rs ts veh sl ys) : B ≤ W.heap.size := by
  have := h.2.2.1
  have := row_lt h.2.1
  omega
theorem ox9 {w W : World} {B ko : Nat} {c0 c1 c2 c3 c4 r0 r1 : Value} {ts : Array Value} {veh : Int} {sl : Value} {ys : List Int} (h : OX w W B ko #[c0, c1, c2, c3, c4] #[r0, r1] ts veh sl ys) :
    W.cell? ⟨w.heap.size, 0, none⟩ = some c0 ∧ W.cell? ⟨w.heap.size, 1, none⟩ = some c1 ∧ W.cell? ⟨w.heap.size, 2, none⟩ = some c2 ∧ W.cell? ⟨w.heap.size, 3, none⟩ = some c3 ∧ W.cell? ⟨w.heap.size, 4, none⟩ = some c4 ∧ W.cell? ⟨w.heap.size + 1, 0, none⟩ = some r0 ∧ W.cell? ⟨w.heap.size + 1, 1, none⟩ = some r1 ∧ W.cell? ⟨ko, 0, none⟩ = some (.int .i64 veh) ∧ W.cell? ⟨ko, 1, none⟩ = some sl := by
  obtain ⟨k0, k1, k2, k3, k4⟩ := cells5 h.1.1.2.1
  obtain ⟨k5, k6⟩ := cells2 h.1.1.2.2
  obtain ⟨k7, k8⟩ := cells2 h.2.1
  exact ⟨k0, k1, k2, k3, k4, k5, k6, k7, k8⟩
theorem ox9s {w W : World} {B ko : Nat} {c0 c1 c2 c3 c4 r0 r1 : Value} {ts : Array Value} {veh : Int} {sl : Value} {ys : List Int} (h : OX w W B ko #[c0, c1, c2, c3, c4] #[r0, r1] ts veh sl ys) (u1 u2 : Value) :
    (fun X : World => X.cell? ⟨w.heap.size, 0, none⟩ = some c0 ∧ X.cell? ⟨w.heap.size, 1, none⟩ = some c1 ∧ X.cell? ⟨w.heap.size, 2, none⟩ = some c2 ∧ X.cell? ⟨w.heap.size, 3, none⟩ = some c3 ∧ X.cell? ⟨w.heap.size, 4, none⟩ = some c4 ∧ X.cell? ⟨w.heap.size + 1, 0, none⟩ = some r0 ∧ X.cell? ⟨w.heap.size + 1, 1, none⟩ = some r1 ∧ X.cell? ⟨ko, 0, none⟩ = some (.int .i64 veh) ∧ X.cell? ⟨ko, 1, none⟩ = some sl) ((W.setCell ⟨w.heap.size + 1 + 1, 0, none⟩ u1).setCell ⟨w.heap.size + 1 + 1, 1, none⟩ u2) := by
  have hc := h.1.set u1 u2
  obtain ⟨k0, k1, k2, k3, k4, k5, k6⟩ := cr7 hc
  obtain ⟨k7, k8⟩ := cells2 h.2.1
  have hne : ko ≠ w.heap.size + 1 + 1 := by have := h.2.2.1; have := h.2.2.2.1; omega
  exact ⟨k0, k1, k2, k3, k4, k5, k6, keep_set (keep_set k7 hne) hne, keep_set (keep_set k8 hne) hne⟩
theorem own_sh {w : World} {base k n : Nat} {v : Value} {e : TypeId} {size : Nat} {xs : List Value} (h : w.ownsRow base e size v k xs) (hne : v ≠ .slice none 0 0) (hk : k = n) : ∃ g c, v = .slice (some ⟨g, 0, none⟩) n c := by
  subst hk
  rcases own_shape h with h1 | h1
  · exact absurd h1 hne
  · exact h1
theorem grown_keep2 {w W w2 : World} {row : Option Nat} {cs ts : Array Value} {r0 r1 : Value} (hg : W.grownBy w2 row) (h : CRR w W cs #[r0, r1] ts) (hr : ∀ g, row = some g → w.heap.size + 2 < g) : w2.cell? ⟨w.heap.size + 1, 0, none⟩ = some r0 ∧ w2.cell? ⟨w.heap.size + 1, 1, none⟩ = some r1 := cells2 (h.grown hg hr).1.2.2

end Go.Proofs.Ytpfikhegmmpogaa

namespace Go.Proofs.Ytpfikhegmmpogaa
open Go.RowKit

/-- What Polished answers. -/
def PolOk (w : World) (ok : Bool) (veh : Int) (xs : List Int) (e : Ending) (w' : World) : Prop :=
  Below w.heap.size w w' ∧ ∃ ad c, e = .returned (.tuple #[.agg #[.int .i64 (chI ok veh), .slice ad xs.length c], .bool ok]) ∧ w'.ownsRow w.heap.size 2 1 (.slice ad xs.length c) xs.length (xs.map (Value.int .i64))
theorem polN_len {n : Int} {zs os vs : List Int} {ko kv : Nat} {veh : Int} : ∀ (k : Nat) (ids : List Int), (polN n zs os vs ko kv veh k ids).length = ids.length
  | 0, ids => rfl
  | k + 1, ids => by
    simp only [polN]
    split
    · rename_i h
      rw [polN_len k]
      have := turnB_true (bt_made h).2.1
      exact revL_length (by omega) (by omega)
    · rfl
theorem pol_le {c : Bool} {n : Int} {zs os vs : List Int} {ko kv : Nat} {veh : Int} {ids : List Int} : (chL (decide (codeV c n zs os vs ko kv veh ids = 0)) (polV n zs os vs ko kv veh ids)).length ≤ 12 := by
  by_cases h : codeV c n zs os vs ko kv veh ids = 0
  · rw [decide_eq_true h]
    show (polV n zs os vs ko kv veh ids).length ≤ 12
    unfold polV
    rw [polN_len]
    exact code12 h
  · rw [decide_eq_false h]
    simp [chL]
/-- Another route, of the call's own, in the box. -/
theorem OX.turn {w W : World} {B ko : Nat} {cs rs ts : Array Value} {veh : Int} {sl sl' : Value} {ys ys' : List Int} (h : OX w W B ko cs rs ts veh sl ys) (ho : W.ownsRow B 2 1 sl' ys'.length (ys'.map (Value.int .i64))) :
    OX w ((W.setCell ⟨ko, 0, none⟩ (.int .i64 veh)).setCell ⟨ko, 1, none⟩ sl') B ko cs rs ts veh sl' ys' := by
  have hB := h.2.2.2.1
  have hk := h.2.2.1
  have s1 := heap_setCell_same W ko 0 _ _ (Value.int .i64 veh) h.2.1
  have s2 := heap_setCell_same _ ko 1 _ _ sl' s1
  refine ⟨(h.1.put (by omega)).put (by omega), by simpa using s2, hk, hB, ?_⟩
  exact ownsRow_setCell_other (ownsRow_setCell_other ho (own_ne ho h.2.1) _) (own_ne ho h.2.1) _

end Go.Proofs.Ytpfikhegmmpogaa

namespace Go.Proofs.Ytpfikhegmmpogaa
open Go.RowKit

/-- The stops behind the first m stores of the turn. -/
def revTo (ids : List Int) (i j : Nat) : Nat → List Int
  | 0 => ids
  | m + 1 => (revTo ids i j m).set (i + m) (ids.getD (i + j - (i + m)) 0)
theorem revTo_length (ids : List Int) (i j : Nat) : ∀ m, (revTo ids i j m).length = ids.length
  | 0 => rfl
  | m + 1 => by simp [revTo, revTo_length ids i j m]
theorem revTo_get (ids : List Int) (i j : Nat) : ∀ m, i + m ≤ ids.length → ∀ p, (revTo ids i j m)[p]? = if i ≤ p ∧ p < i + m then some (ids.getD (i + j - p) 0) else ids[p]?
  | 0, _, p => by rw [if_neg (by omega)]; rfl
  | m + 1, h, p => by
    simp only [revTo]
    rw [List.getElem?_set, revTo_length, revTo_get ids i j m (by omega) p]
    by_cases e : i + m = p
    · subst e
      rw [if_pos rfl, if_pos (by omega), if_pos (by omega)]
    · rw [if_neg e]
      by_cases c : i ≤ p ∧ p < i + m
      · rw [if_pos c, if_pos (by omega)]
      · rw [if_neg c, if_neg (by omega)]
theorem revTo_all {ids : List Int} {i j : Nat} (hi : i ≤ j) (hj : j < ids.length) : revTo ids i j (j + 1 - i) = revL ids i j := by
  apply List.ext_getElem?
  intro p
  rw [revTo_get ids i j _ (by omega) p]
  unfold revL
  by_cases c1 : p < i
  · rw [if_neg (by omega), List.append_assoc, List.getElem?_append_left (by simp; omega), List.getElem?_take, if_pos c1]
  · by_cases c2 : p ≤ j
    · rw [if_pos (by omega), List.append_assoc, List.getElem?_append_right (by simp; omega), List.getElem?_append_left (by simp; omega)]
      have e1 : p - (List.take i ids).length = p - i := by simp; omega
      rw [e1, List.getElem?_reverse (by simp; omega), List.getElem?_take, if_pos (by simp; omega), List.getElem?_drop]
      have e2 : i + (((ids.drop i).take (j + 1 - i)).length - 1 - (p - i)) = i + j - p := by simp; omega
      rw [e2, List.getD, List.getElem?_eq_getElem (by omega)]
      simp
    · rw [if_neg (by omega), List.getElem?_append_right (by simp; omega), List.getElem?_drop]
      congr 1
      simp
      omega
theorem OX.put {w W : World} {B ko g n c k : Nat} {cs rs ts : Array Value} {veh : Int} {ys : List Int} (v : Int) (h : OX w W B ko cs rs ts veh (.slice (some ⟨g, 0, none⟩) n c) ys) (hn : ys.length = n) (hk : k < n) : OX w (W.setCell ⟨g, k, none⟩ (.int .i64 v)) B ko cs rs ts veh (.slice (some ⟨g, 0, none⟩) n c) (ys.set k v) := by
  have hg : B ≤ g := (h.2.2.2.2.lt g rfl).1
  have hB := h.2.2.2.1
  refine ⟨h.1.put (by omega), row_set' h.2.1 (fun e => own_ne h.2.2.2.2 h.2.1 (by rw [e]; rfl)), h.2.2.1, hB, ?_⟩
  have := h.2.2.2.2
  rw [hn] at this
  rw [List.length_set, hn]
  exact own_put v this hk
theorem ox_cell {w W : World} {B ko g n c k : Nat} {cs rs ts : Array Value} {veh : Int} {ys : List Int} (h : OX w W B ko cs rs ts veh (.slice (some ⟨g, 0, none⟩) n c) ys) (hk : k < ys.length) : W.cell? ⟨g, k, none⟩ = some (.int .i64 (ys.getD k 0)) ∧ W.frozen? ⟨g, k, none⟩ = false := by
  have hn : n = ys.length := by
    obtain ⟨_, ⟨h1, _⟩ | ⟨g', cap, cur, h2, _⟩⟩ := h.2.2.2.2
    · cases h1
    · simp at h2
      exact h2.2.1
  subst hn
  refine ⟨?_, ?_⟩
  · have := ints_cell (owns_ints h.2.2.2.2) hk rfl
    rw [Nat.zero_add] at this
    exact this
  · obtain ⟨_, ⟨h1, _⟩ | ⟨g', cap, cur, h2, _, h4, _⟩⟩ := h.2.2.2.2
    · cases h1
    · simp at h2
      obtain ⟨rfl, rfl⟩ := h2
      exact frozen_of_row _ _ _ _ _ h4

end Go.Proofs.Ytpfikhegmmpogaa

namespace Go.Proofs.Ytpfikhegmmpogaa
open Go.RowKit

theorem revL_get {ids : List Int} {i j : Nat} (hi : i ≤ j) (hj : j < ids.length) (p : Nat) : (revL ids i j)[p]? = if i ≤ p ∧ p ≤ j then ids[i + j - p]? else ids[p]? := by
  rw [← revTo_all hi hj, revTo_get ids i j _ (by omega) p]
  by_cases c : i ≤ p ∧ p ≤ j
  · rw [if_pos (by omega), if_pos c, List.getD, List.getElem?_eq_getElem (by omega)]
    rfl
  · rw [if_neg (by omega), if_neg c]
/-- Stops that are turned round twice are as they were. -/
theorem revL_twice {ids : List Int} {i j : Nat} (hi : i ≤ j) (hj : j < ids.length) : revL (revL ids i j) i j = ids := by
  apply List.ext_getElem?
  intro p
  have hl := revL_length hi hj
  rw [revL_get hi (by rw [hl]; exact hj)]
  by_cases c : i ≤ p ∧ p ≤ j
  · rw [if_pos c, revL_get hi hj, if_pos (by omega)]
    congr 1
    omega
  · rw [if_neg c, revL_get hi hj, if_neg c]
theorem revL_at {ids : List Int} {i j : Nat} (hi : i ≤ j) (hj : j < ids.length) : (revL ids i j).getD i 0 = ids.getD j 0 := by
  rw [List.getD_eq_getElem?_getD, List.getD_eq_getElem?_getD, revL_get hi hj, if_pos (by omega), show i + j - i = j by omega]
/-- A turn that can be made can be made back, at the cost that is told. -/
theorem turn_back {n : Int} {zs os vs : List Int} {ko kv : Nat} {veh : Int} {ids : List Int} {i j : Nat} {ok : Bool} (hi : i ≤ j) (hj : j < ids.length) (h : chB true n zs os vs ko kv veh ids ok (revL ids i j) = true) :
    chB true n zs os vs ko kv veh (revL ids i j) ok (revL (revL ids i j) i j) = true ∧ chD true n zs os vs ko kv veh (revL ids i j) (revL (revL ids i j) i j) = - chD true n zs os vs ko kv veh ids (revL ids i j) := by
  obtain ⟨h1, h2, h3⟩ := chB_true h
  rw [revL_twice hi hj]
  refine ⟨chB_yes h3 h2 h1, ?_⟩
  unfold chD
  rw [if_pos rfl, if_pos rfl]
  omega

end Go.Proofs.Ytpfikhegmmpogaa

namespace Go.Proofs.Ytpfikhegmmpogaa
open Go.RowKit

theorem bstep_le (ok : Nat → Nat → Bool) (dl : Nat → Nat → Int) (s : BS) (p : Nat × Nat) : (bstep ok dl s p).v ≤ s.v := by
  unfold bstep
  split
  · rename_i h
    exact Int.le_of_lt h.2
  · exact Int.le_refl _
theorem bfold_le (ok : Nat → Nat → Bool) (dl : Nat → Nat → Int) : ∀ (l : List (Nat × Nat)) (s : BS), (l.foldl (bstep ok dl) s).v ≤ s.v
  | [], s => Int.le_refl _
  | p :: l, s => by
    rw [List.foldl_cons]
    exact Int.le_trans (bfold_le ok dl l _) (bstep_le ok dl s p)
/-- The best is the least of all that can be made. -/
theorem bst_least {ok : Nat → Nat → Bool} {dl : Nat → Nat → Int} (l : List (Nat × Nat)) (i j : Nat) (hp : (i, j) ∈ l) (hok : ok i j = true) : (bst ok dl l).v ≤ dl i j := by
  unfold bst
  suffices hs : ∀ s : BS, (l.foldl (bstep ok dl) s).v ≤ dl i j from hs bs0
  induction l with
  | nil => cases hp
  | cons q l ih =>
    intro s
    rw [List.foldl_cons]
    rcases List.mem_cons.1 hp with h | h
    · subst h
      refine Int.le_trans (bfold_le ok dl l _) ?_
      unfold bstep
      split
      · exact Int.le_refl _
      · rename_i hn
        show s.v ≤ dl i j
        by_cases hd : dl i j < s.v
        · exact absurd ⟨hok, hd⟩ hn
        · omega
    · exact ih h _
theorem prs_in (n i j : Nat) (h1 : i < j) (h2 : j < n) : ∀ m, i < m → (i, j) ∈ prsTo n m
  | 0, h => by omega
  | m + 1, h => by
    unfold prsTo
    by_cases e : i = m
    · subst e
      refine List.mem_append_right _ (List.mem_map.2 ⟨j - (i + 1), List.mem_range.2 (by omega), ?_⟩)
      rw [show i + 1 + (j - (i + 1)) = j by omega]
    · exact List.mem_append_left _ (prs_in n i j h1 h2 m (by omega))
theorem bt_least {c : Bool} {n : Int} {zs os vs : List Int} {ko kv : Nat} {veh : Int} {ids : List Int} (h12 : ids.length ≤ 12) {i j : Nat} (h1 : i < j) (h2 : j < ids.length) (hok : trB c n zs os vs ko kv veh ids i j = true) : (btV c n zs os vs ko kv veh ids).v ≤ trD c n zs os vs ko kv veh ids i j := by
  unfold btV
  refine bst_least _ i j ?_ hok
  rw [show min ids.length 12 = ids.length by omega]
  exact prs_in _ i j h1 h2 _ (by omega)
theorem revL_mem {ids : List Int} {i j : Nat} (hi : i ≤ j) (hj : j < ids.length) {x : Int} (h : x ∈ ids) : x ∈ revL ids i j := by
  obtain ⟨p, hp⟩ := List.getElem?_of_mem h
  by_cases c : i ≤ p ∧ p ≤ j
  · have := revL_get hi hj (i + j - p)
    rw [if_pos (by omega), show i + j - (i + j - p) = p by omega, hp] at this
    exact List.mem_of_getElem? this
  · have := revL_get hi hj p
    rw [if_neg c, hp] at this
    exact List.mem_of_getElem? this
theorem polN_end {n : Int} {zs os vs : List Int} {ko kv : Nat} {veh : Int} (hz : matB n zs = true) : ∀ (k : Nat) (ids : List Int), rcV n zs os vs ko kv veh ids ≤ k → (btV true n zs os vs ko kv veh (polN n zs os vs ko kv veh k ids)).f = false
  | 0, ids, h => bt_free hz h
  | k + 1, ids, h => by
    cases hf : (btV true n zs os vs ko kv veh ids).f
    · rw [polN_stop hf]; exact hf
    · rw [polN_succ k hf]
      have h1 := (bt_made hf).2.2.2
      have h2 := (bt_v hz).2.2.2 hf
      exact polN_end hz k _ (by omega)
theorem polN_facts {n : Int} {zs os vs : List Int} {ko kv : Nat} {veh : Int} (hz : matB n zs = true) : ∀ (k : Nat) (ids : List Int), codeV true n zs os vs ko kv veh ids = 0 → codeV true n zs os vs ko kv veh (polN n zs os vs ko kv veh k ids) = 0 ∧ rcV n zs os vs ko kv veh (polN n zs os vs ko kv veh k ids) ≤ rcV n zs os vs ko kv veh ids ∧ ∀ x ∈ ids, x ∈ polN n zs os vs ko kv veh k ids
  | 0, ids, h => ⟨h, Int.le_refl _, fun _ h => h⟩
  | k + 1, ids, h => by
    cases hf : (btV true n zs os vs ko kv veh ids).f
    · rw [polN_stop hf]; exact ⟨h, Int.le_refl _, fun _ h => h⟩
    · rw [polN_succ k hf]
      obtain ⟨a1, a2, _, a4⟩ := bt_made hf
      have h2 := (bt_v hz).2.2.2 hf
      have ht := turnB_true a2
      obtain ⟨b1, b2, b3⟩ := polN_facts hz k _ a1
      exact ⟨b1, by omega, fun x hx => b3 x (revL_mem (by omega) (by omega) hx)⟩
/-- What is known of a polished route. -/
theorem pol_all {n : Int} {zs os vs : List Int} {ko kv : Nat} {veh : Int} (hz : matB n zs = true) (ids : List Int) (h : codeV true n zs os vs ko kv veh ids = 0) :
    (btV true n zs os vs ko kv veh (polV n zs os vs ko kv veh ids)).f = false ∧ codeV true n zs os vs ko kv veh (polV n zs os vs ko kv veh ids) = 0 ∧ rcV n zs os vs ko kv veh (polV n zs os vs ko kv veh ids) ≤ rcV n zs os vs ko kv veh ids ∧ (polV n zs os vs ko kv veh ids).length = ids.length ∧ ∀ x ∈ ids, x ∈ polV n zs os vs ko kv veh ids := by
  obtain ⟨b1, b2, b3⟩ := polN_facts hz 130000 ids h
  exact ⟨polN_end hz 130000 ids (rcV_bd hz os vs ko kv veh ids).2, b1, b2, polN_len _ _, b3⟩

end Go.Proofs.Ytpfikhegmmpogaa

namespace Go.Proofs.Ytpfikhegmmpogaa
open Go.RowKit

set_option maxHeartbeats 2000000 in
theorem changed_turn (n fine veh : Int) (a ao av bi : Option Addr) (cap ko co kv cv c2 : Nat) (zs os vs ids : List Int) (w : World) (hA : IntsAt w a zs) (hO : IntsAt w ao os) (hV : IntsAt w av vs) (hI : IntsAt w bi ids) (hlo : os.length = ko * 6) (hlv : vs.length = kv * 5) (hko : ko ≤ 9223372036854775807) (hkv : kv ≤ 9223372036854775807) (hli : ids.length ≤ 9223372036854775807) (hc2 : ids.length ≤ c2) (hcB : caseB n zs os vs ko kv fine = true) (p : Nat) (ok : Bool) (ids' : List Int)
    (hhow : ∀ W, Below w.heap.size w W → ids.length ≤ 12 → Calls Try.prog 125 #[.slice bi ids.length c2, .pointer (some ⟨p, 0, none⟩)] W (HowOk W ok ids')) (ch : Bool) (hch : chB true n zs os vs ko kv veh ids ok ids' = ch) (D : Int) (hD : chD ch n zs os vs ko kv veh ids ids' = D) (xs : List Int) (hxs : chL ch ids' = xs) :
    Calls Try.prog 106 #[.agg #[.int .i64 n, .slice a zs.length cap, .slice ao ko co, .slice av kv cv, .int .i64 fine], .agg #[.int .i64 veh, .slice bi ids.length c2], .func (.func 125) #[] #[.pointer (some ⟨p, 0, none⟩)]] w (ChgOk w ch veh D xs) := by
  have HA : Hid (IntsAt w a zs) := hA
  have HO : Hid (IntsAt w ao os) := hO
  have HV : Hid (IntsAt w av vs) := hV
  have HI : Hid (IntsAt w bi ids) := hI
  have HLO : Hid _ := hlo
  have HLV : Hid _ := hlv
  clear hA hO hV hI hlo hlv
  have HC : Hid (caseB n zs os vs ko kv fine = true) := hcB
  have HCh : Hid (chB true n zs os vs ko kv veh ids ok ids' = ch) := hch
  have HD : Hid (chD ch n zs os vs ko kv veh ids ids' = D) := hD
  have HXs : Hid (chL ch ids' = xs) := hxs
  have HW : Hid (∀ W, Below w.heap.size w W → ids.length ≤ 12 → Calls Try.prog 125 #[.slice bi ids.length c2, .pointer (some ⟨p, 0, none⟩)] W (HowOk W ok ids')) := hhow
  clear hcB hch hD hxs hhow
  have C0 : Hid (CRR w (((w.alloc (.cells #[Value.int IntKind.i64 n, Value.slice a zs.length cap, Value.slice ao ko co, Value.slice av kv cv, Value.int IntKind.i64 fine] 30)).alloc (.cells #[Value.int IntKind.i64 veh, Value.slice bi ids.length c2] 34)).alloc (.cells #[Value.int IntKind.i64 0, Value.slice none 0 0] 34)) _ _ _) := CRR.new w _ _ _
  obtain ⟨o1, HO1⟩ : ∃ t, Hid (decide (codeV true n zs os vs ko kv veh ids = 0) = t) := ⟨_, rfl⟩
  obtain ⟨q1, HQ1⟩ : ∃ t, Hid (rcV n zs os vs ko kv veh ids = t) := ⟨_, rfl⟩
  obtain ⟨o2, HO2⟩ : ∃ t, Hid (decide (codeV true n zs os vs ko kv veh ids' = 0) = t) := ⟨_, rfl⟩
  obtain ⟨q2, HQ2⟩ : ∃ t, Hid (rcV n zs os vs ko kv veh ids' = t) := ⟨_, rfl⟩
  have hq1 := rcV_bd (caseB_parts HC.out).1 os vs ko kv veh ids
  have hq2 := rcV_bd (caseB_parts HC.out).1 os vs ko kv veh ids'
  rw [HQ1.out] at hq1
  rw [HQ2.out] at hq2
  go_enter Try.func106, Try.ntmps106
  obtain ⟨c0, c1, c2', c3, c4⟩ := cells5 C0.out.1.2.1
  obtain ⟨d0, d1⟩ := cells2 C0.out.1.2.2
  go_wp2_with fail
  clear c0 c1 c2' c3 c4 d0 d1
  refine (routeCost_any n fine veh a ao av bi cap ko co kv cv c2 zs os vs ids _ (HA.out.below C0.out.b) (HO.out.below C0.out.b) (HV.out.below C0.out.b) (HI.out.below C0.out.b) HLO.out HLV.out hko hkv hli hc2 HC.out o1 HO1.out q1 HQ1.out).mono ?_
  rintro e w1 ⟨rfl, hb⟩
  have C1 : Hid (CRR w w1 _ _ _) := C0.out.below hb
  clear hb C0
  cases o1
  · have HCH : Hid (ch = false) := HCh.out.symm.trans (chB_no1 (of_decide_eq_false HO1.out) _ _)
    have HX : Hid (xs = []) := HXs.out.symm.trans (by rw [HCH.out]; rfl)
    have HDD : Hid (D = 0) := HD.out.symm.trans (by rw [HCH.out]; rfl)
    obtain ⟨t0, t1⟩ := cells2 C1.out.2
    have tf := fun i => frozen_of_row _ _ i _ _ C1.out.2
    go_wp2
    refine bodyPost_ret (v := .tuple #[.agg #[Value.int IntKind.i64 0, Value.slice none 0 0], .int .i64 0, .bool false]) (by simp [results, Try.results106, go_sem, t0, t1]) rfl ⟨?_, none, 0, ?_, ?_⟩
    · repeat (first | with_reducible exact C1.out.b | refine Below.setCell ?_ (by simp <;> omega) _)
    · rw [HCH.out, HDD.out, HX.out]; rfl
    · rw [HX.out]; exact World.ownsRow_nil _ _ _ _
  · have hz1 : codeV true n zs os vs ko kv veh ids = 0 := of_decide_eq_true HO1.out
    have HZ1 : Hid (codeV true n zs os vs ko kv veh ids = 0) := hz1
    clear hz1
    have h12 := code12 HZ1.out
    obtain ⟨d0, d1⟩ := cells2 C1.out.1.2.2
    go_wp2_with fail
    clear d0 d1
    refine (HW.out w1 C1.out.b h12).mono ?_
    rintro e w2 ⟨hb, ⟨rfl, rfl⟩ | ⟨rfl, g, cg, rfl, ho⟩⟩
    · have C2 : Hid (CRR w w2 _ _ _) := C1.out.below hb
      clear hb C1
      have HCH : Hid (ch = false) := HCh.out.symm.trans (chB_no2 rfl _)
      have HX : Hid (xs = []) := HXs.out.symm.trans (by rw [HCH.out]; rfl)
      have HDD : Hid (D = 0) := HD.out.symm.trans (by rw [HCH.out]; rfl)
      obtain ⟨t0, t1⟩ := cells2 C2.out.2
      have tf := fun i => frozen_of_row _ _ i _ _ C2.out.2
      go_wp2
      refine bodyPost_ret (v := .tuple #[.agg #[Value.int IntKind.i64 0, Value.slice none 0 0], .int .i64 0, .bool false]) (by simp [results, Try.results106, go_sem, t0, t1]) rfl ⟨?_, none, 0, ?_, ?_⟩
      · repeat (first | with_reducible exact C2.out.b | refine Below.setCell ?_ (by simp <;> omega) _)
      · rw [HCH.out, HDD.out, HX.out]; rfl
      · rw [HX.out]; exact World.ownsRow_nil _ _ _ _
    · have C2 : Hid (CRR w w2 _ _ _) := C1.out.below hb
      have LG : Hid (w.heap.size + 2 < w1.heap.size) := C1.out.big
      have O2 : Hid (w2.ownsRow w1.heap.size 2 1 _ ids'.length _) := ho
      obtain ⟨_, _, e1, hlg, _, hcg, _, _⟩ := Go.Lib.holds_of_ownsRow (enc := Value.int .i64) ho (by simp)
      simp at e1
      obtain ⟨rfl, rfl⟩ := e1
      have HG : Hid (w1.heap.size ≤ g) := hlg
      have hli' : ids'.length ≤ 9223372036854775807 := by
        have := (Go.Lib.holds_of_ownsRow (enc := Value.int .i64) ho (by simp))
        obtain ⟨_, _, e1, _, _, h1, h2, _⟩ := this
        simp at e1
        obtain ⟨rfl, rfl⟩ := e1
        unfold maxLen at h2
        omega
      clear hb ho C1 hlg
      have C3 : Hid (CRR w (w2.alloc (Obj.cells #[Value.int IntKind.i64 veh, Value.slice (some ⟨g, 0, none⟩) ids'.length cg] 34)) _ _ _) := C2.out.alloc _
      have N3 : Hid ((w2.alloc (Obj.cells #[Value.int IntKind.i64 veh, Value.slice (some ⟨g, 0, none⟩) ids'.length cg] 34)).heap[w2.heap.size]? = _) := heap_alloc_new _ _
      have O3 : Hid ((w2.alloc (Obj.cells #[Value.int IntKind.i64 veh, Value.slice (some ⟨g, 0, none⟩) ids'.length cg] 34)).ownsRow w1.heap.size 2 1 _ ids'.length _) := O2.out.alloc _
      obtain ⟨d0, d1⟩ := cells2 C2.out.1.2.2
      obtain ⟨c0, c1, c2', c3, c4⟩ := cells5 C3.out.1.2.1
      obtain ⟨n0, n1⟩ := cells2 N3.out
      clear O2
      go_wp2_with fail
      clear d0 d1 c0 c1 c2' c3 c4 n0 n1
      refine (routeCost_any n fine veh a ao av (some ⟨g, 0, none⟩) cap ko co kv cv cg zs os vs ids' _ (HA.out.below C3.out.b) (HO.out.below C3.out.b) (HV.out.below C3.out.b) (owns_ints O3.out) HLO.out HLV.out hko hkv hli' hcg HC.out o2 HO2.out q2 HQ2.out).mono ?_
      rintro e w3 ⟨rfl, hb⟩
      have C4 : Hid (CRR w w3 _ _ _) := C3.out.below hb
      have N4 : Hid (w3.heap[w2.heap.size]? = _) := below_row hb (row_lt N3.out) N3.out
      have O4 : Hid (w3.ownsRow w1.heap.size 2 1 _ ids'.length _) := owns_below O3.out hb
      clear hb C2 C3 N3 O3
      cases o2
      · have HCH : Hid (ch = false) := HCh.out.symm.trans (chB_no3 _ (of_decide_eq_false HO2.out))
        have HX : Hid (xs = []) := HXs.out.symm.trans (by rw [HCH.out]; rfl)
        have HDD : Hid (D = 0) := HD.out.symm.trans (by rw [HCH.out]; rfl)
        obtain ⟨t0, t1⟩ := cells2 C4.out.2
        have tf := fun i => frozen_of_row _ _ i _ _ C4.out.2
        go_wp2
        refine bodyPost_ret (v := .tuple #[.agg #[Value.int IntKind.i64 0, Value.slice none 0 0], .int .i64 0, .bool false]) (by simp [results, Try.results106, go_sem, t0, t1]) rfl ⟨?_, none, 0, ?_, ?_⟩
        · repeat (first | with_reducible exact C4.out.b | refine Below.setCell ?_ (by simp <;> omega) _)
        · rw [HCH.out, HDD.out, HX.out]; rfl
        · rw [HX.out]; exact World.ownsRow_nil _ _ _ _
      · have HCH : Hid (ch = true) := HCh.out.symm.trans (chB_yes HZ1.out rfl (of_decide_eq_true HO2.out))
        have HX : Hid (xs = ids') := HXs.out.symm.trans (by rw [HCH.out]; rfl)
        have HDD : Hid (D = q2 - q1) := HD.out.symm.trans (by rw [HCH.out, ← HQ1.out, ← HQ2.out]; rfl)
        obtain ⟨t0, t1⟩ := cells2 C4.out.2
        obtain ⟨n0, n1⟩ := cells2 N4.out
        have tf := fun i => frozen_of_row _ _ i _ _ C4.out.2
        go_wp2
        refine bodyPost_ret (v := .tuple #[.agg #[.int .i64 veh, .slice (some ⟨g, 0, none⟩) ids'.length cg], .int .i64 (q2 - q1), .bool true]) (by simp [results, Try.results106, go_sem, t0, t1]) rfl ⟨?_, some ⟨g, 0, none⟩, cg, ?_, ?_⟩
        · repeat (first | with_reducible exact C4.out.b | refine Below.setCell ?_ (by simp <;> omega) _)
        · rw [HCH.out, HDD.out, HX.out]; rfl
        · rw [HX.out]; exact owns_base (owns_set (owns_set O4.out LG.out) LG.out) (by have := LG.out; omega)

end Go.Proofs.Ytpfikhegmmpogaa
