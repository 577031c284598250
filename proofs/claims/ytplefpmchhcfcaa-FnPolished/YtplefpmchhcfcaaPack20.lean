import Derived.Test.YtplefpmchhcfcaaPack0
import Derived.Test.YtplefpmchhcfcaaPack2
import Derived.Test.YtplefpmchhcfcaaSpecSched
import Derived.Test.YtplefpmchhcfcaaPack18
import Derived.Test.YtplefpmchhcfcaaPack19
namespace Go.Proofs.Ytplefpmchhcfcaa
open Go.RowKit

/-- A case, a route and the route that is answered, in their boxes. -/
def CRR (w W : World) (cs rs ts : Array Value) : Prop := CR w W cs rs ∧ W.heap[w.heap.size + 2]? = some (.cells ts 32 (0, 0))
theorem CRR.new (w : World) (cs rs ts : Array Value) : CRR w (((w.alloc (.cells cs 30)).alloc (.cells rs 32)).alloc (.cells ts 32)) cs rs ts :=
  ⟨(CR.new w cs rs).alloc _, by have := heap_alloc_new ((w.alloc (.cells cs 30)).alloc (.cells rs 32)) (.cells ts 32); simpa using this⟩
theorem CRR.below {w W W' : World} {cs rs ts : Array Value} (h : CRR w W cs rs ts) (hb : Below W.heap.size W W') : CRR w W' cs rs ts :=
  ⟨h.1.below hb, below_row hb (row_lt h.2) h.2⟩
theorem CRR.b {w W : World} {cs rs ts : Array Value} (h : CRR w W cs rs ts) : Below w.heap.size w W := h.1.1
theorem CRR.alloc {w W : World} {cs rs ts : Array Value} (h : CRR w W cs rs ts) (o : Obj) : CRR w (W.alloc o) cs rs ts := h.below ((Below.refl _ _).alloc (Nat.le_refl _) _)
theorem CRR.big {w W : World} {cs rs ts : Array Value} (h : CRR w W cs rs ts) : w.heap.size + 2 < W.heap.size := row_lt h.2

theorem CRR.set {w W : World} {cs rs ts : Array Value} (h : CRR w W cs rs ts) (u1 u2 : Value) : CR w ((W.setCell ⟨w.heap.size + 1 + 1, 0, none⟩ u1).setCell ⟨w.heap.size + 1 + 1, 1, none⟩ u2) cs rs := (h.1.set (by omega)).set (by omega)
theorem cr7 {w W : World} {c0 c1 c2 c3 c4 r0 r1 : Value} (h : CR w W #[c0, c1, c2, c3, c4] #[r0, r1]) :
    W.cell? ⟨w.heap.size, 0, none⟩ = some c0 ∧ W.cell? ⟨w.heap.size, 1, none⟩ = some c1 ∧ W.cell? ⟨w.heap.size, 2, none⟩ = some c2 ∧ W.cell? ⟨w.heap.size, 3, none⟩ = some c3 ∧ W.cell? ⟨w.heap.size, 4, none⟩ = some c4 ∧ W.cell? ⟨w.heap.size + 1, 0, none⟩ = some r0 ∧ W.cell? ⟨w.heap.size + 1, 1, none⟩ = some r1 := by
  obtain ⟨k0, k1, k2, k3, k4⟩ := cells5 h.2.1
  obtain ⟨k5, k6⟩ := cells2 h.2.2
  exact ⟨k0, k1, k2, k3, k4, k5, k6⟩

/-- The answer of a change: a route that owns its stops, how much more, whether. -/
def ChgOk (w : World) (ch : Bool) (veh D : Int) (xs : List Int) (e : Ending) (w' : World) : Prop :=
  Below w.heap.size w w' ∧ ∃ ad c, e = .returned (.tuple #[.agg #[.int .i64 (chI ch veh), .slice ad xs.length c], .int .i64 D, .bool ch]) ∧ w'.ownsRow w.heap.size 2 1 (.slice ad xs.length c) xs.length (xs.map (Value.int .i64))
theorem owns_set2 {w : World} {base k b : Nat} {v u1 u2 : Value} {e : TypeId} {size : Nat} {xs : List Value} (h : w.ownsRow base e size v k xs) (hb : b < base) : ((w.setCell ⟨b, 0, none⟩ u1).setCell ⟨b, 1, none⟩ u2).ownsRow base e size v k xs := ownsRow_setCell_below (ownsRow_setCell_below h hb u1) hb u2

end Go.Proofs.Ytplefpmchhcfcaa

namespace Go.Proofs.Ytplefpmchhcfcaa
open Go.RowKit

theorem CRR.grown {w W W' : World} {cs rs ts : Array Value} {row : Option Nat} (h : CRR w W cs rs ts) (hg : W.grownBy W' row) (hlt : ∀ g, row = some g → w.heap.size + 2 < g) : CRR w W' cs rs ts :=
  ⟨⟨h.1.1.grown hg h.1.1.size (fun k e => by have := hlt k e; omega), (hg.block _ (row_lt h.1.2.1) (fun e => by have := hlt _ e.symm; omega)).trans h.1.2.1, (hg.block _ (row_lt h.1.2.2) (fun e => by have := hlt _ e.symm; omega)).trans h.1.2.2⟩, (hg.block _ (row_lt h.2) (fun e => by have := hlt _ e.symm; omega)).trans h.2⟩
theorem CRR.put {w W : World} {cs rs ts : Array Value} (h : CRR w W cs rs ts) {k i : Nat} {v : Value} (hk : w.heap.size + 2 < k) : CRR w (W.setCell ⟨k, i, none⟩ v) cs rs ts :=
  ⟨h.1.set (by omega), row_set' h.2 (by omega)⟩
theorem CRR.drew {w W : World} {cs rs ts : Array Value} (h : CRR w W cs rs ts) : CRR w W.drew cs rs ts := h.below (Below.refl _ _).drew

/-- A case, a route, the answer's box, and the box at ko of a new route whose stops are of the call's own (blocks from B on). -/
def OX (w W : World) (B ko : Nat) (cs rs ts : Array Value) (veh : Int) (sl : Value) (ys : List Int) : Prop :=
  CRR w W cs rs ts ∧ W.heap[ko]? = some (.cells #[.int .i64 veh, sl] 32 (0, 0)) ∧ B ≤ ko ∧ w.heap.size + 2 < B ∧ W.ownsRow B 2 1 sl ys.length (ys.map (Value.int .i64))
theorem OX.c {w W : World} {B ko : Nat} {cs rs ts : Array Value} {veh : Int} {sl : Value} {ys : List Int} (h : OX w W B ko cs rs ts veh sl ys) : CRR w W cs rs ts := h.1
theorem OX.b {w W : World} {B ko : Nat} {cs rs ts : Array Value} {veh : Int} {sl : Value} {ys : List Int} (h : OX w W B ko cs rs ts veh sl ys) : Below w.heap.size w W := h.1.1.1
theorem OX.o {w W : World} {B ko : Nat} {cs rs ts : Array Value} {veh : Int} {sl : Value} {ys : List Int} (h : OX w W B ko cs rs ts veh sl ys) : W.ownsRow B 2 1 sl ys.length (ys.map (Value.int .i64)) := h.2.2.2.2
theorem OX.below {w W W' : World} {B ko : Nat} {cs rs ts : Array Value} {veh : Int} {sl : Value} {ys : List Int} (h : OX w W B ko cs rs ts veh sl ys) (hb : Below W.heap.size W W') : OX w W' B ko cs rs ts veh sl ys :=
  ⟨h.1.below hb, below_row hb (row_lt h.2.1) h.2.1, h.2.2.1, h.2.2.2.1, owns_below h.2.2.2.2 hb⟩
theorem OX.drew {w W : World} {B ko : Nat} {cs rs ts : Array Value} {veh : Int} {sl : Value} {ys : List Int} (h : OX w W B ko cs rs ts veh sl ys) : OX w W.drew B ko cs rs ts veh sl ys := h.below (Below.refl _ _).drew
theorem own_ne {w : World} {base k ko : Nat} {v : Value} {size : Nat} {xs : List Value} {cs : Array Value} (h : w.ownsRow base 2 size v k xs) (hk : w.heap[ko]? = some (.cells cs 32 (0, 0))) : v.ownBlock ≠ some ko := by
  intro e
  obtain ⟨_, ⟨rfl, _⟩ | ⟨g, cap, cur, rfl, _, h4, _⟩⟩ := h
  · cases e
  · have : g = ko := by simpa [Value.ownBlock] using e
    subst this
    rw [h4] at hk
    simp at hk
/-- The append, done. -/
theorem OX.grow {w W W' : World} {B ko : Nat} {cs rs ts : Array Value} {veh : Int} {sl sl' : Value} {ys ys' : List Int} (h : OX w W B ko cs rs ts veh sl ys) (hg : W.grownBy W' sl.ownBlock) (ho : W'.ownsRow B 2 1 sl' ys'.length (ys'.map (Value.int .i64))) :
    OX w ((W'.setCell ⟨ko, 1, none⟩ sl')) B ko cs rs ts veh sl' ys' := by
  have hk : W'.heap[ko]? = some (.cells #[.int .i64 veh, sl] 32 (0, 0)) := (hg.block _ (row_lt h.2.1) (fun e => own_ne h.2.2.2.2 h.2.1 e.symm)).trans h.2.1
  refine ⟨(h.1.grown hg (fun g e => ?_)).put ?_, ?_, h.2.2.1, h.2.2.2.1, ?_⟩
  · have := (h.2.2.2.2.lt g e).1; have := h.2.2.2.1; omega
  · have := h.2.2.1; have := h.2.2.2.1; omega
  · have := heap_setCell_same W' ko 1 _ _ sl' hk
    simpa using this
  · exact ownsRow_setCell_other ho (own_ne ho hk) sl'
theorem own0a (w1 : World) : ((w1.alloc (.cells #[] 2)).drew).ownsRow w1.heap.size 2 1 (.slice (some ⟨w1.heap.size, 0, none⟩) 0 0) 0 (([] : List Int).map (Value.int .i64)) :=
  owns_below (World.ownsRow_made w1 #[] 0 (Nat.le_refl _) (by unfold maxLen; omega) (by simp)) (Below.refl _ _).drew
theorem own0b (w1 : World) (o : Obj) : (((w1.alloc (.cells #[] 2)).alloc o).drew).ownsRow w1.heap.size 2 1 (.slice (some ⟨w1.heap.size, 0, none⟩) 0 0) 0 (([] : List Int).map (Value.int .i64)) :=
  owns_below (World.ownsRow_made w1 #[] 0 (Nat.le_refl _) (by unfold maxLen; omega) (by simp)) ((Below.refl _ _).alloc (Nat.le_refl _) _).drew
theorem own0c (w1 : World) (o : Obj) : (((w1.alloc o).alloc (.cells #[] 2)).drew).ownsRow w1.heap.size 2 1 (.slice (some ⟨w1.heap.size + 1, 0, none⟩) 0 0) 0 (([] : List Int).map (Value.int .i64)) := by
  have := owns_below (World.ownsRow_made (base := w1.heap.size) (e := 2) (size := 1) (w1.alloc o) #[] 0 (by simp) (by unfold maxLen; omega) (by simp)) (Below.refl _ _).drew
  simpa using this
theorem alloc_size (w1 : World) (o : Obj) : (w1.alloc o).heap.size = w1.heap.size + 1 := by simp
theorem OX.newa {w w1 w' : World} {cs rs ts : Array Value} {veh : Int} {sl : Value} {ys : List Int} {o : Obj} (h : CRR w w1 cs rs ts) (hg : ((w1.alloc o).drew).grownBy w' (some w1.heap.size)) (ho : w'.ownsRow w1.heap.size 2 1 sl ys.length (ys.map (Value.int .i64))) :
    OX w (w'.alloc (.cells #[.int .i64 veh, sl] 32)) w1.heap.size w'.heap.size cs rs ts veh sl ys :=
  ⟨(((h.alloc o).drew).grown hg (fun g e => by cases e; exact h.big)).alloc _, heap_alloc_new _ _, by have := hg.size; have e := alloc_size w1 o; have : (w1.alloc o).drew.heap.size = w1.heap.size + 1 := e; omega, h.big, ho.alloc _⟩
theorem OX.newb {w w1 w' : World} {cs rs ts : Array Value} {veh : Int} {sl z0 z1 : Value} {ys : List Int} {o : Obj} (h : CRR w w1 cs rs ts) (hg : (((w1.alloc o).alloc (.cells #[z0, z1] 32)).drew).grownBy w' (some w1.heap.size)) (ho : w'.ownsRow w1.heap.size 2 1 sl ys.length (ys.map (Value.int .i64))) :
    OX w ((w'.setCell ⟨w1.heap.size + 1, 0, none⟩ (.int .i64 veh)).setCell ⟨w1.heap.size + 1, 1, none⟩ sl) w1.heap.size (w1.heap.size + 1) cs rs ts veh sl ys := by
  have hk0 : (((w1.alloc o).alloc (.cells #[z0, z1] 32)).drew).heap[w1.heap.size + 1]? = some (.cells #[z0, z1] 32 (0, 0)) := by
    have := heap_alloc_new (w1.alloc o) (.cells #[z0, z1] 32)
    rw [alloc_size] at this
    exact this
  have hk : w'.heap[w1.heap.size + 1]? = some (.cells #[z0, z1] 32 (0, 0)) := (hg.block _ (row_lt hk0) (fun e => by simp at e)).trans hk0
  have hb := h.big
  have s1 := heap_setCell_same w' (w1.heap.size + 1) 0 _ _ (.int .i64 veh) hk
  have s2 := heap_setCell_same _ (w1.heap.size + 1) 1 _ _ sl s1
  refine ⟨((((h.alloc o).alloc _).drew.grown hg (fun g e => by cases e; exact hb)).put (by omega)).put (by omega), by simpa using s2, by omega, hb, ?_⟩
  exact ownsRow_setCell_other (ownsRow_setCell_other ho (own_ne ho hk) _) (own_ne ho hk) _
theorem OX.newc {w w1 w' : World} {cs rs ts : Array Value} {veh : Int} {sl z0 z1 : Value} {ys : List Int} {o : Obj} (h : CRR w w1 cs rs ts) (hg : (((w1.alloc (.cells #[z0, z1] 32)).alloc o).drew).grownBy w' (some (w1.heap.size + 1))) (ho : w'.ownsRow w1.heap.size 2 1 sl ys.length (ys.map (Value.int .i64))) :
    OX w ((w'.setCell ⟨w1.heap.size, 0, none⟩ (.int .i64 veh)).setCell ⟨w1.heap.size, 1, none⟩ sl) w1.heap.size w1.heap.size cs rs ts veh sl ys := by
  have hk0 : (((w1.alloc (.cells #[z0, z1] 32)).alloc o).drew).heap[w1.heap.size]? = some (.cells #[z0, z1] 32 (0, 0)) := heap_alloc2_old _ _ _
  have hk : w'.heap[w1.heap.size]? = some (.cells #[z0, z1] 32 (0, 0)) := (hg.block _ (row_lt hk0) (fun e => by simp at e)).trans hk0
  have hb := h.big
  have s1 := heap_setCell_same w' w1.heap.size 0 _ _ (.int .i64 veh) hk
  have s2 := heap_setCell_same _ w1.heap.size 1 _ _ sl s1
  refine ⟨((((h.alloc _).alloc o).drew.grown hg (fun g e => by cases e; omega)).put (by omega)).put (by omega), by simpa using s2, by omega, hb, ?_⟩
  exact ownsRow_setCell_other (ownsRow_setCell_other ho (own_ne ho hk) _) (own_ne ho hk) _

theorem rowb {w1 w2 : World} {o : Obj} {cs : Array Value} {T : TypeId} (hg : (((w1.alloc o).alloc (.cells cs T)).drew).grownBy w2 (some w1.heap.size)) : w2.heap[w1.heap.size + 1]? = some (.cells cs T (0, 0)) := by
  have hk0 : (((w1.alloc o).alloc (.cells cs T)).drew).heap[w1.heap.size + 1]? = some (.cells cs T (0, 0)) := by
    have := heap_alloc_new (w1.alloc o) (.cells cs T)
    rw [alloc_size] at this
    exact this
  exact (hg.block _ (row_lt hk0) (fun e => by simp at e)).trans hk0
theorem rowc {w1 w2 : World} {o : Obj} {cs : Array Value} {T : TypeId} (hg : (((w1.alloc (.cells cs T)).alloc o).drew).grownBy w2 (some (w1.heap.size + 1))) : w2.heap[w1.heap.size]? = some (.cells cs T (0, 0)) := by
  have hk0 : (((w1.alloc (.cells cs T)).alloc o).drew).heap[w1.heap.size]? = some (.cells cs T (0, 0)) := heap_alloc2_old _ _ _
  exact (hg.block _ (row_lt hk0) (fun e => by simp at e)).trans hk0
theorem own_len {w : World} {base n : Nat} {v : Value} {e : TypeId} {xs : List Int} (h : w.ownsRow base e 1 v (0 + n) (([] ++ xs).map (Value.int .i64))) (hl : xs.length = n) : w.ownsRow base e 1 v xs.length (xs.map (Value.int .i64)) := by
  rw [Nat.zero_add] at h
  rw [hl]
  exact h
theorem own_len2 {w : World} {base n m : Nat} {v : Value} {e : TypeId} {xs ys : List Int} (h : w.ownsRow base e 1 v (n + m) ((xs ++ ys).map (Value.int .i64))) (hx : xs.length = n) (hy : ys.length = m) : w.ownsRow base e 1 v (xs ++ ys).length ((xs ++ ys).map (Value.int .i64)) := by
  rw [List.length_append, hx, hy]
  exact h
theorem own_k {w : World} {base n : Nat} {v : Value} {e : TypeId} {xs : List Int} (h : w.ownsRow base e 1 v xs.length (xs.map (Value.int .i64))) (hl : xs.length = n) : w.ownsRow base e 1 v n (xs.map (Value.int .i64)) := by
  rw [← hl]
  exact h
theorem own_bd {w : World} {base k g c : Nat} {e : TypeId} {size : Nat} {xs : List Value} (h : w.ownsRow base e size (.slice (some ⟨g, 0, none⟩) k c) k xs) : k ≤ c ∧ k ≤ 9223372036854775807 := by
  obtain ⟨_, ⟨h1, _⟩ | ⟨g', cap, cur, h2, _, _, h5, h6, _⟩⟩ := h
  · cases h1
  · simp at h2
    obtain ⟨rfl, rfl⟩ := h2
    unfold maxLen at h6
    exact ⟨h5, by omega⟩
theorem rc_of {c : Bool} {n : Int} {zs os vs : List Int} {ko kv : Nat} {veh : Int} {ids : List Int} (h : codeV c n zs os vs ko kv veh ids = 0) : rcV n zs os vs ko kv veh ids = rideV n zs (rosOf os ko ids) ids.length (fnd5F vs kv veh 1) := by
  have hc := code_case h
  rw [hc] at h
  exact rcV_yes h
theorem chD_yes {ch c : Bool} {n : Int} {zs os vs : List Int} {ko kv : Nat} {veh : Int} {ids ids' : List Int} (h : ch = true) (h1 : codeV c n zs os vs ko kv veh ids = 0) (h2 : codeV c n zs os vs ko kv veh ids' = 0) :
    chD ch n zs os vs ko kv veh ids ids' = rideV n zs (rosOf os ko ids') ids'.length (fnd5F vs kv veh 1) - rideV n zs (rosOf os ko ids) ids.length (fnd5F vs kv veh 1) := by
  subst h
  unfold chD
  rw [if_pos rfl, rc_of h1, rc_of h2]
theorem keepB {w1 X : World} {b o : Nat} {v : Value} (hc : w1.cell? ⟨b, o, none⟩ = some v) (hb : Below w1.heap.size w1 X) : X.cell? ⟨b, o, none⟩ = some v := by
  rw [hb.cell (p := ⟨b, o, none⟩) (block_lt_of_cell hc)]; exact hc
theorem ints_take {W : World} {a : Option Addr} {ids : List Int} (h : IntsAt W a ids) (i : Nat) : IntsAt W a (ids.take i) := by
  intro j hj
  simp at hj
  obtain ⟨b, off, e, hc⟩ := h j (by omega)
  refine ⟨b, off, e, hc.trans ?_⟩
  simp only [List.getD, List.getElem?_take]
  rw [if_pos (by omega)]
theorem ints_drop {W : World} {b off : Nat} {ids : List Int} (h : IntsAt W (some ⟨b, off, none⟩) ids) (i : Nat) : IntsAt W (some ⟨b, off + i, none⟩) (ids.drop i) := by
  intro j hj
  simp at hj
  obtain ⟨b', off', e, hc⟩ := h (i + j) (by omega)
  simp at e
  obtain ⟨rfl, rfl⟩ := e
  refine ⟨b, off + i, rfl, ?_⟩
  rw [Nat.add_assoc, hc]
  simp [List.getD, List.getElem?_drop]
theorem ints_cut {W : World} {b off : Nat} {ids : List Int} (h : IntsAt W (some ⟨b, off, none⟩) ids) (i c2 : Nat) (hc : ids.length ≤ c2) : IntsAt W (if c2 = i then some ⟨b, off, none⟩ else some ⟨b, off + i, none⟩) (ids.drop i) := by
  by_cases e : c2 = i
  · rw [if_pos e, List.drop_eq_nil_of_le (by omega)]
    intro j hj
    simp at hj
  · rw [if_neg e]
    exact ints_drop h i
theorem cut_some (b off i c2 : Nat) : ∃ b' off', (if c2 = i then some (⟨b, off, none⟩ : Addr) else some ⟨b, off + i, none⟩) = some ⟨b', off', none⟩ := by
  split
  · exact ⟨_, _, rfl⟩
  · exact ⟨_, _, rfl⟩
theorem OX.keep {w W W' : World} {B ko : Nat} {cs ts : Array Value} {r0 r1 : Value} {veh : Int} {sl : Value} {ys : List Int} (h : OX w W B ko cs #[r0, r1] ts veh sl ys) (hg : W.grownBy W' sl.ownBlock) :
    W'.cell? ⟨w.heap.size + 1, 1, none⟩ = some r1 ∧ W'.cell? ⟨ko, 1, none⟩ = some sl ∧ (∀ i, W'.frozen? ⟨ko, i, none⟩ = false) := by
  have hk : W'.heap[ko]? = some (.cells #[.int .i64 veh, sl] 32 (0, 0)) := (hg.block _ (row_lt h.2.1) (fun e => own_ne h.2.2.2.2 h.2.1 e.symm)).trans h.2.1
  have hc := (h.1.grown hg (fun g e => by have := (h.2.2.2.2.lt g e).1; have := h.2.2.2.1; omega)).1.2.2
  exact ⟨(cells2 hc).2, (cells2 hk).2, fun i => frozen_of_row _ _ i _ _ hk⟩
theorem OX.size {w W : World} {B ko : Nat} {cs rs ts : Array Value} {veh : Int} {sl : Value} {ys : List Int} (h : OX w W B ko cs rs ts veh sl ys) : B ≤ W.heap.size := by
  have := h.2.2.1
  have := row_lt h.2.1
  omega
theorem ox9 {w W : World} {B ko : Nat} {c0 c1 c2 c3 c4 r0 r1 : Value} {ts : Array Value} {veh : Int} {sl : Value} {ys : List Int} (h : OX w W B ko #[c0, c1, c2, c3, c4] #[r0, r1] ts veh sl ys) :
    W.cell? ⟨w.heap.size, 0, none⟩ = some c0 ∧ W.cell? ⟨w.heap.size, 1, none⟩ = some c1 ∧ W.cell? ⟨w.heap.size, 2, none⟩ = some c2 ∧ W.cell? ⟨w.heap.size, 3, none⟩ = some c3 ∧ W.cell? ⟨w.heap.size, 4, none⟩ = some c4 ∧ W.cell? ⟨w.heap.size + 1, 0, none⟩ = some r0 ∧ W.cell? ⟨w.heap.size + 1, 1, none⟩ = some r1 ∧ W.cell? ⟨ko, 0, none⟩ = some (.int .i64 veh) ∧ W.cell? ⟨ko, 1, none⟩ = some sl := by
  obtain ⟨k0, k1, k2, k3, k4⟩ := cells5 h.1.1.2.1
  obtain ⟨k5, k6⟩ := cells2 h.1.1.2.2
  obtain ⟨k7, k8⟩ := cells2 h.2.1
  exact ⟨k0, k1, k2, k3, k4, k5, k6, k7, k8⟩
theorem ox9s {w W : World} {B ko : Nat} {c0 c1 c2 c3 c4 r0 r1 : Value} {ts : Array Value} {veh : Int} {sl : Value} {ys : List Int} (h : OX w W B ko #[c0, c1, c2, c3, c4] #[r0, r1] ts veh sl ys) (u1 u2 : Value) :
    (fun X : World => X.cell? ⟨w.heap.size, 0, none⟩ = some c0 ∧ X.cell? ⟨w.heap.size, 1, none⟩ = some c1 ∧ X.cell? ⟨w.heap.size, 2, none⟩ = some c2 ∧ X.cell? ⟨w.heap.size, 3, none⟩ = some c3 ∧ X.cell? ⟨w.heap.size, 4, none⟩ = some c4 ∧ X.cell? ⟨w.heap.size + 1, 0, none⟩ = some r0 ∧ X.cell? ⟨w.heap.size + 1, 1, none⟩ = some r1 ∧ X.cell? ⟨ko, 0, none⟩ = some (.int .i64 veh) ∧ X.cell? ⟨ko, 1, none⟩ = some sl) ((W.setCell ⟨w.heap.size + 1 + 1, 0, none⟩ u1).setCell ⟨w.heap.size + 1 + 1, 1, none⟩ u2) := by
  have hc := h.1.set u1 u2
  obtain ⟨k0, k1, k2, k3, k4, k5, k6⟩ := cr7 hc
  obtain ⟨k7, k8⟩ := cells2 h.2.1
  have hne : ko ≠ w.heap.size + 1 + 1 := by have := h.2.2.1; have := h.2.2.2.1; omega
  exact ⟨k0, k1, k2, k3, k4, k5, k6, keep_set (keep_set k7 hne) hne, keep_set (keep_set k8 hne) hne⟩
theorem own_sh {w : World} {base k n : Nat} {v : Value} {e : TypeId} {size : Nat} {xs : List Value} (h : w.ownsRow base e size v k xs) (hne : v ≠ .slice none 0 0) (hk : k = n) : ∃ g c, v = .slice (some ⟨g, 0, none⟩) n c := by
  subst hk
  rcases own_shape h with h1 | h1
  · exact absurd h1 hne
  · exact h1
theorem grown_keep2 {w W w2 : World} {row : Option Nat} {cs ts : Array Value} {r0 r1 : Value} (hg : W.grownBy w2 row) (h : CRR w W cs #[r0, r1] ts) (hr : ∀ g, row = some g → w.heap.size + 2 < g) : w2.cell? ⟨w.heap.size + 1, 0, none⟩ = some r0 ∧ w2.cell? ⟨w.heap.size + 1, 1, none⟩ = some r1 := cells2 (h.grown hg hr).1.2.2

end Go.Proofs.Ytplefpmchhcfcaa

namespace Go.Proofs.Ytplefpmchhcfcaa
open Go.RowKit

/-- What Polished answers. -/
def PolOk (w : World) (ok : Bool) (veh : Int) (xs : List Int) (e : Ending) (w' : World) : Prop :=
  Below w.heap.size w w' ∧ ∃ ad c, e = .returned (.tuple #[.agg #[.int .i64 (chI ok veh), .slice ad xs.length c], .bool ok]) ∧ w'.ownsRow w.heap.size 2 1 (.slice ad xs.length c) xs.length (xs.map (Value.int .i64))
theorem polN_len {n : Int} {zs os vs : List Int} {ko kv : Nat} {veh : Int} : ∀ (k : Nat) (ids : List Int), (polN n zs os vs ko kv veh k ids).length = ids.length
  | 0, ids => rfl
  | k + 1, ids => by
    simp only [polN]
    split
    · rename_i h
      rw [polN_len k]
      have := turnB_true (bt_made h).2.1
      exact revL_length (by omega) (by omega)
    · rfl
theorem pol_le {c : Bool} {n : Int} {zs os vs : List Int} {ko kv : Nat} {veh : Int} {ids : List Int} : (chL (decide (codeV c n zs os vs ko kv veh ids = 0)) (polV n zs os vs ko kv veh ids)).length ≤ 12 := by
  by_cases h : codeV c n zs os vs ko kv veh ids = 0
  · rw [decide_eq_true h]
    show (polV n zs os vs ko kv veh ids).length ≤ 12
    unfold polV
    rw [polN_len]
    exact code12 h
  · rw [decide_eq_false h]
    simp [chL]
/-- Another route, of the call's own, in the box. -/
theorem OX.turn {w W : World} {B ko : Nat} {cs rs ts : Array Value} {veh : Int} {sl sl' : Value} {ys ys' : List Int} (h : OX w W B ko cs rs ts veh sl ys) (ho : W.ownsRow B 2 1 sl' ys'.length (ys'.map (Value.int .i64))) :
    OX w ((W.setCell ⟨ko, 0, none⟩ (.int .i64 veh)).setCell ⟨ko, 1, none⟩ sl') B ko cs rs ts veh sl' ys' := by
  have hB := h.2.2.2.1
  have hk := h.2.2.1
  have s1 := heap_setCell_same W ko 0 _ _ (Value.int .i64 veh) h.2.1
  have s2 := heap_setCell_same _ ko 1 _ _ sl' s1
  refine ⟨(h.1.put (by omega)).put (by omega), by simpa using s2, hk, hB, ?_⟩
  exact ownsRow_setCell_other (ownsRow_setCell_other ho (own_ne ho h.2.1) _) (own_ne ho h.2.1) _

end Go.Proofs.Ytplefpmchhcfcaa

namespace Go.Proofs.Ytplefpmchhcfcaa
open Go.RowKit

/-- The stops behind the first m stores of the turn. -/
def revTo (ids : List Int) (i j : Nat) : Nat → List Int
  | 0 => ids
  | m + 1 => (revTo ids i j m).set (i + m) (ids.getD (i + j - (i + m)) 0)
theorem revTo_length (ids : List Int) (i j : Nat) : ∀ m, (revTo ids i j m).length = ids.length
  | 0 => rfl
  | m + 1 => by simp [revTo, revTo_length ids i j m]
theorem revTo_get (ids : List Int) (i j : Nat) : ∀ m, i + m ≤ ids.length → ∀ p, (revTo ids i j m)[p]? = if i ≤ p ∧ p < i + m then some (ids.getD (i + j - p) 0) else ids[p]?
  | 0, _, p => by rw [if_neg (by omega)]; rfl
  | m + 1, h, p => by
    simp only [revTo]
    rw [List.getElem?_set, revTo_length, revTo_get ids i j m (by omega) p]
    by_cases e : i + m = p
    · subst e
      rw [if_pos rfl, if_pos (by omega), if_pos (by omega)]
    · rw [if_neg e]
      by_cases c : i ≤ p ∧ p < i + m
      · rw [if_pos c, if_pos (by omega)]
      · rw [if_neg c, if_neg (by omega)]
theorem revTo_all {ids : List Int} {i j : Nat} (hi : i ≤ j) (hj : j < ids.length) : revTo ids i j (j + 1 - i) = revL ids i j := by
  apply List.ext_getElem?
  intro p
  rw [revTo_get ids i j _ (by omega) p]
  unfold revL
  by_cases c1 : p < i
  · rw [if_neg (by omega), List.append_assoc, List.getElem?_append_left (by simp; omega), List.getElem?_take, if_pos c1]
  · by_cases c2 : p ≤ j
    · rw [if_pos (by omega), List.append_assoc, List.getElem?_append_right (by simp; omega), List.getElem?_append_left (by simp; omega)]
      have e1 : p - (List.take i ids).length = p - i := by simp; omega
      rw [e1, List.getElem?_reverse (by simp; omega), List.getElem?_take, if_pos (by simp; omega), List.getElem?_drop]
      have e2 : i + (((ids.drop i).take (j + 1 - i)).length - 1 - (p - i)) = i + j - p := by simp; omega
      rw [e2, List.getD, List.getElem?_eq_getElem (by omega)]
      simp
    · rw [if_neg (by omega), List.getElem?_append_right (by simp; omega), List.getElem?_drop]
      congr 1
      simp
      omega
theorem OX.put {w W : World} {B ko g n c k : Nat} {cs rs ts : Array Value} {veh : Int} {ys : List Int} (v : Int) (h : OX w W B ko cs rs ts veh (.slice (some ⟨g, 0, none⟩) n c) ys) (hn : ys.length = n) (hk : k < n) : OX w (W.setCell ⟨g, k, none⟩ (.int .i64 v)) B ko cs rs ts veh (.slice (some ⟨g, 0, none⟩) n c) (ys.set k v) := by
  have hg : B ≤ g := (h.2.2.2.2.lt g rfl).1
  have hB := h.2.2.2.1
  refine ⟨h.1.put (by omega), row_set' h.2.1 (fun e => own_ne h.2.2.2.2 h.2.1 (by rw [e]; rfl)), h.2.2.1, hB, ?_⟩
  have := h.2.2.2.2
  rw [hn] at this
  rw [List.length_set, hn]
  exact own_put v this hk
theorem ox_cell {w W : World} {B ko g n c k : Nat} {cs rs ts : Array Value} {veh : Int} {ys : List Int} (h : OX w W B ko cs rs ts veh (.slice (some ⟨g, 0, none⟩) n c) ys) (hk : k < ys.length) : W.cell? ⟨g, k, none⟩ = some (.int .i64 (ys.getD k 0)) ∧ W.frozen? ⟨g, k, none⟩ = false := by
  have hn : n = ys.length := by
    obtain ⟨_, ⟨h1, _⟩ | ⟨g', cap, cur, h2, _⟩⟩ := h.2.2.2.2
    · cases h1
    · simp at h2
      exact h2.2.1
  subst hn
  refine ⟨?_, ?_⟩
  · have := ints_cell (owns_ints h.2.2.2.2) hk rfl
    rw [Nat.zero_add] at this
    exact this
  · obtain ⟨_, ⟨h1, _⟩ | ⟨g', cap, cur, h2, _, h4, _⟩⟩ := h.2.2.2.2
    · cases h1
    · simp at h2
      obtain ⟨rfl, rfl⟩ := h2
      exact frozen_of_row _ _ _ _ _ h4

end Go.Proofs.Ytplefpmchhcfcaa

namespace Go.Proofs.Ytplefpmchhcfcaa
open Go.RowKit

theorem revL_get {ids : List Int} {i j : Nat} (hi : i ≤ j) (hj : j < ids.length) (p : Nat) : (revL ids i j)[p]? = if i ≤ p ∧ p ≤ j then ids[i + j - p]? else ids[p]? := by
  rw [← revTo_all hi hj, revTo_get ids i j _ (by omega) p]
  by_cases c : i ≤ p ∧ p ≤ j
  · rw [if_pos (by omega), if_pos c, List.getD, List.getElem?_eq_getElem (by omega)]
    rfl
  · rw [if_neg (by omega), if_neg c]
/-- Stops that are turned round twice are as they were. -/
theorem revL_twice {ids : List Int} {i j : Nat} (hi : i ≤ j) (hj : j < ids.length) : revL (revL ids i j) i j = ids := by
  apply List.ext_getElem?
  intro p
  have hl := revL_length hi hj
  rw [revL_get hi (by rw [hl]; exact hj)]
  by_cases c : i ≤ p ∧ p ≤ j
  · rw [if_pos c, revL_get hi hj, if_pos (by omega)]
    congr 1
    omega
  · rw [if_neg c, revL_get hi hj, if_neg c]
theorem revL_at {ids : List Int} {i j : Nat} (hi : i ≤ j) (hj : j < ids.length) : (revL ids i j).getD i 0 = ids.getD j 0 := by
  rw [List.getD_eq_getElem?_getD, List.getD_eq_getElem?_getD, revL_get hi hj, if_pos (by omega), show i + j - i = j by omega]
/-- A turn that can be made can be made back, at the cost that is told. -/
theorem turn_back {n : Int} {zs os vs : List Int} {ko kv : Nat} {veh : Int} {ids : List Int} {i j : Nat} {ok : Bool} (hi : i ≤ j) (hj : j < ids.length) (h : chB true n zs os vs ko kv veh ids ok (revL ids i j) = true) :
    chB true n zs os vs ko kv veh (revL ids i j) ok (revL (revL ids i j) i j) = true ∧ chD true n zs os vs ko kv veh (revL ids i j) (revL (revL ids i j) i j) = - chD true n zs os vs ko kv veh ids (revL ids i j) := by
  obtain ⟨h1, h2, h3⟩ := chB_true h
  rw [revL_twice hi hj]
  refine ⟨chB_yes h3 h2 h1, ?_⟩
  unfold chD
  rw [if_pos rfl, if_pos rfl]
  omega

end Go.Proofs.Ytplefpmchhcfcaa

namespace Go.Proofs.Ytplefpmchhcfcaa
open Go.RowKit

theorem bstep_le (ok : Nat → Nat → Bool) (dl : Nat → Nat → Int) (s : BS) (p : Nat × Nat) : (bstep ok dl s p).v ≤ s.v := by
  unfold bstep
  split
  · rename_i h
    exact Int.le_of_lt h.2
  · exact Int.le_refl _
theorem bfold_le (ok : Nat → Nat → Bool) (dl : Nat → Nat → Int) : ∀ (l : List (Nat × Nat)) (s : BS), (l.foldl (bstep ok dl) s).v ≤ s.v
  | [], s => Int.le_refl _
  | p :: l, s => by
    rw [List.foldl_cons]
    exact Int.le_trans (bfold_le ok dl l _) (bstep_le ok dl s p)
/-- The best is the least of all that can be made. -/
theorem bst_least {ok : Nat → Nat → Bool} {dl : Nat → Nat → Int} (l : List (Nat × Nat)) (i j : Nat) (hp : (i, j) ∈ l) (hok : ok i j = true) : (bst ok dl l).v ≤ dl i j := by
  unfold bst
  suffices hs : ∀ s : BS, (l.foldl (bstep ok dl) s).v ≤ dl i j from hs bs0
  induction l with
  | nil => cases hp
  | cons q l ih =>
    intro s
    rw [List.foldl_cons]
    rcases List.mem_cons.1 hp with h | h
    · subst h
      refine Int.le_trans (bfold_le ok dl l _) ?_
      unfold bstep
      split
      · exact Int.le_refl _
      · rename_i hn
        show s.v ≤ dl i j
        by_cases hd : dl i j < s.v
        · exact absurd ⟨hok, hd⟩ hn
        · omega
    · exact ih h _
theorem prs_in (n i j : Nat) (h1 : i < j) (h2 : j < n) : ∀ m, i < m → (i, j) ∈ prsTo n m
  | 0, h => by omega
  | m + 1, h => by
    unfold prsTo
    by_cases e : i = m
    · subst e
      refine List.mem_append_right _ (List.mem_map.2 ⟨j - (i + 1), List.mem_range.2 (by omega), ?_⟩)
      rw [show i + 1 + (j - (i + 1)) = j by omega]
    · exact List.mem_append_left _ (prs_in n i j h1 h2 m (by omega))
theorem bt_least {c : Bool} {n : Int} {zs os vs : List Int} {ko kv : Nat} {veh : Int} {ids : List Int} (h12 : ids.length ≤ 12) {i j : Nat} (h1 : i < j) (h2 : j < ids.length) (hok : trB c n zs os vs ko kv veh ids i j = true) : (btV c n zs os vs ko kv veh ids).v ≤ trD c n zs os vs ko kv veh ids i j := by
  unfold btV
  refine bst_least _ i j ?_ hok
  rw [show min ids.length 12 = ids.length by omega]
  exact prs_in _ i j h1 h2 _ (by omega)
theorem revL_mem {ids : List Int} {i j : Nat} (hi : i ≤ j) (hj : j < ids.length) {x : Int} (h : x ∈ ids) : x ∈ revL ids i j := by
  obtain ⟨p, hp⟩ := List.getElem?_of_mem h
  by_cases c : i ≤ p ∧ p ≤ j
  · have := revL_get hi hj (i + j - p)
    rw [if_pos (by omega), show i + j - (i + j - p) = p by omega, hp] at this
    exact List.mem_of_getElem? this
  · have := revL_get hi hj p
    rw [if_neg c, hp] at this
    exact List.mem_of_getElem? this
theorem polN_end {n : Int} {zs os vs : List Int} {ko kv : Nat} {veh : Int} (hz : matB n zs = true) : ∀ (k : Nat) (ids : List Int), rcV n zs os vs ko kv veh ids ≤ k → (btV true n zs os vs ko kv veh (polN n zs os vs ko kv veh k ids)).f = false
  | 0, ids, h => bt_free hz h
  | k + 1, ids, h => by
    cases hf : (btV true n zs os vs ko kv veh ids).f
    · rw [polN_stop hf]; exact hf
    · rw [polN_succ k hf]
      have h1 := (bt_made hf).2.2.2
      have h2 := (bt_v hz).2.2.2 hf
      exact polN_end hz k _ (by omega)
theorem polN_facts {n : Int} {zs os vs : List Int} {ko kv : Nat} {veh : Int} (hz : matB n zs = true) : ∀ (k : Nat) (ids : List Int), codeV true n zs os vs ko kv veh ids = 0 → codeV true n zs os vs ko kv veh (polN n zs os vs ko kv veh k ids) = 0 ∧ rcV n zs os vs ko kv veh (polN n zs os vs ko kv veh k ids) ≤ rcV n zs os vs ko kv veh ids ∧ ∀ x ∈ ids, x ∈ polN n zs os vs ko kv veh k ids
  | 0, ids, h => ⟨h, Int.le_refl _, fun _ h => h⟩
  | k + 1, ids, h => by
    cases hf : (btV true n zs os vs ko kv veh ids).f
    · rw [polN_stop hf]; exact ⟨h, Int.le_refl _, fun _ h => h⟩
    · rw [polN_succ k hf]
      obtain ⟨a1, a2, _, a4⟩ := bt_made hf
      have h2 := (bt_v hz).2.2.2 hf
      have ht := turnB_true a2
      obtain ⟨b1, b2, b3⟩ := polN_facts hz k _ a1
      exact ⟨b1, by omega, fun x hx => b3 x (revL_mem (by omega) (by omega) hx)⟩
/-- What is known of a polished route. -/
theorem pol_all {n : Int} {zs os vs : List Int} {ko kv : Nat} {veh : Int} (hz : matB n zs = true) (ids : List Int) (h : codeV true n zs os vs ko kv veh ids = 0) :
    (btV true n zs os vs ko kv veh (polV n zs os vs ko kv veh ids)).f = false ∧ codeV true n zs os vs ko kv veh (polV n zs os vs ko kv veh ids) = 0 ∧ rcV n zs os vs ko kv veh (polV n zs os vs ko kv veh ids) ≤ rcV n zs os vs ko kv veh ids ∧ (polV n zs os vs ko kv veh ids).length = ids.length ∧ ∀ x ∈ ids, x ∈ polV n zs os vs ko kv veh ids := by
  obtain ⟨b1, b2, b3⟩ := polN_facts hz 130000 ids h
  exact ⟨polN_end hz 130000 ids (rcV_bd hz os vs ko kv veh ids).2, b1, b2, polN_len _ _, b3⟩

end Go.Proofs.Ytplefpmchhcfcaa

namespace Go.Proofs.Ytplefpmchhcfcaa
open Go.RowKit

set_option maxHeartbeats 2000000 in
theorem changed_turn (n fine veh : Int) (a ao av bi : Option Addr) (cap ko co kv cv c2 : Nat) (zs os vs ids : List Int) (w : World) (hA : IntsAt w a zs) (hO : IntsAt w ao os) (hV : IntsAt w av vs) (hI : IntsAt w bi ids) (hlo : os.length = ko * 6) (hlv : vs.length = kv * 5) (hko : ko ≤ 9223372036854775807) (hkv : kv ≤ 9223372036854775807) (hli : ids.length ≤ 9223372036854775807) (hc2 : ids.length ≤ c2) (hcB : caseB n zs os vs ko kv fine = true) (p : Nat) (ok : Bool) (ids' : List Int)
    (hhow : ∀ W, Below w.heap.size w W → ids.length ≤ 12 → Calls Try.prog 79 #[.slice bi ids.length c2, .pointer (some ⟨p, 0, none⟩)] W (HowOk W ok ids')) (ch : Bool) (hch : chB true n zs os vs ko kv veh ids ok ids' = ch) (D : Int) (hD : chD ch n zs os vs ko kv veh ids ids' = D) (xs : List Int) (hxs : chL ch ids' = xs) :
    Calls Try.prog 44 #[.agg #[.int .i64 n, .slice a zs.length cap, .slice ao ko co, .slice av kv cv, .int .i64 fine], .agg #[.int .i64 veh, .slice bi ids.length c2], .func (.func 79) #[] #[.pointer (some ⟨p, 0, none⟩)]] w (ChgOk w ch veh D xs) := by
  have HA : Hid (IntsAt w a zs) := hA
  have HO : Hid (IntsAt w ao os) := hO
  have HV : Hid (IntsAt w av vs) := hV
  have HI : Hid (IntsAt w bi ids) := hI
  have HLO : Hid _ := hlo
  have HLV : Hid _ := hlv
  clear hA hO hV hI hlo hlv
  have HC : Hid (caseB n zs os vs ko kv fine = true) := hcB
  have HCh : Hid (chB true n zs os vs ko kv veh ids ok ids' = ch) := hch
  have HD : Hid (chD ch n zs os vs ko kv veh ids ids' = D) := hD
  have HXs : Hid (chL ch ids' = xs) := hxs
  have HW : Hid (∀ W, Below w.heap.size w W → ids.length ≤ 12 → Calls Try.prog 79 #[.slice bi ids.length c2, .pointer (some ⟨p, 0, none⟩)] W (HowOk W ok ids')) := hhow
  clear hcB hch hD hxs hhow
  have C0 : Hid (CRR w (((w.alloc (.cells #[Value.int IntKind.i64 n, Value.slice a zs.length cap, Value.slice ao ko co, Value.slice av kv cv, Value.int IntKind.i64 fine] 30)).alloc (.cells #[Value.int IntKind.i64 veh, Value.slice bi ids.length c2] 32)).alloc (.cells #[Value.int IntKind.i64 0, Value.slice none 0 0] 32)) _ _ _) := CRR.new w _ _ _
  obtain ⟨o1, HO1⟩ : ∃ t, Hid (decide (codeV true n zs os vs ko kv veh ids = 0) = t) := ⟨_, rfl⟩
  obtain ⟨q1, HQ1⟩ : ∃ t, Hid (rcV n zs os vs ko kv veh ids = t) := ⟨_, rfl⟩
  obtain ⟨o2, HO2⟩ : ∃ t, Hid (decide (codeV true n zs os vs ko kv veh ids' = 0) = t) := ⟨_, rfl⟩
  obtain ⟨q2, HQ2⟩ : ∃ t, Hid (rcV n zs os vs ko kv veh ids' = t) := ⟨_, rfl⟩
  have hq1 := rcV_bd (caseB_parts HC.out).1 os vs ko kv veh ids
  have hq2 := rcV_bd (caseB_parts HC.out).1 os vs ko kv veh ids'
  rw [HQ1.out] at hq1
  rw [HQ2.out] at hq2
  go_enter Try.func44, Try.ntmps44
  obtain ⟨c0, c1, c2', c3, c4⟩ := cells5 C0.out.1.2.1
  obtain ⟨d0, d1⟩ := cells2 C0.out.1.2.2
  go_wp2_with fail
  clear c0 c1 c2' c3 c4 d0 d1
  refine (routeCost_any n fine veh a ao av bi cap ko co kv cv c2 zs os vs ids _ (HA.out.below C0.out.b) (HO.out.below C0.out.b) (HV.out.below C0.out.b) (HI.out.below C0.out.b) HLO.out HLV.out hko hkv hli hc2 HC.out o1 HO1.out q1 HQ1.out).mono ?_
  rintro e w1 ⟨rfl, hb⟩
  have C1 : Hid (CRR w w1 _ _ _) := C0.out.below hb
  clear hb C0
  cases o1
  · have HCH : Hid (ch = false) := HCh.out.symm.trans (chB_no1 (of_decide_eq_false HO1.out) _ _)
    have HX : Hid (xs = []) := HXs.out.symm.trans (by rw [HCH.out]; rfl)
    have HDD : Hid (D = 0) := HD.out.symm.trans (by rw [HCH.out]; rfl)
    obtain ⟨t0, t1⟩ := cells2 C1.out.2
    have tf := fun i => frozen_of_row _ _ i _ _ C1.out.2
    go_wp2
    refine bodyPost_ret (v := .tuple #[.agg #[Value.int IntKind.i64 0, Value.slice none 0 0], .int .i64 0, .bool false]) (by simp [results, Try.results44, go_sem, t0, t1]) rfl ⟨?_, none, 0, ?_, ?_⟩
    · repeat (first | with_reducible exact C1.out.b | refine Below.setCell ?_ (by simp <;> omega) _)
    · rw [HCH.out, HDD.out, HX.out]; rfl
    · rw [HX.out]; exact World.ownsRow_nil _ _ _ _
  · have hz1 : codeV true n zs os vs ko kv veh ids = 0 := of_decide_eq_true HO1.out
    have HZ1 : Hid (codeV true n zs os vs ko kv veh ids = 0) := hz1
    clear hz1
    have h12 := code12 HZ1.out
    obtain ⟨d0, d1⟩ := cells2 C1.out.1.2.2
    go_wp2_with fail
    clear d0 d1
    refine (HW.out w1 C1.out.b h12).mono ?_
    rintro e w2 ⟨hb, ⟨rfl, rfl⟩ | ⟨rfl, g, cg, rfl, ho⟩⟩
    · have C2 : Hid (CRR w w2 _ _ _) := C1.out.below hb
      clear hb C1
      have HCH : Hid (ch = false) := HCh.out.symm.trans (chB_no2 rfl _)
      have HX : Hid (xs = []) := HXs.out.symm.trans (by rw [HCH.out]; rfl)
      have HDD : Hid (D = 0) := HD.out.symm.trans (by rw [HCH.out]; rfl)
      obtain ⟨t0, t1⟩ := cells2 C2.out.2
      have tf := fun i => frozen_of_row _ _ i _ _ C2.out.2
      go_wp2
      refine bodyPost_ret (v := .tuple #[.agg #[Value.int IntKind.i64 0, Value.slice none 0 0], .int .i64 0, .bool false]) (by simp [results, Try.results44, go_sem, t0, t1]) rfl ⟨?_, none, 0, ?_, ?_⟩
      · repeat (first | with_reducible exact C2.out.b | refine Below.setCell ?_ (by simp <;> omega) _)
      · rw [HCH.out, HDD.out, HX.out]; rfl
      · rw [HX.out]; exact World.ownsRow_nil _ _ _ _
    · have C2 : Hid (CRR w w2 _ _ _) := C1.out.below hb
      have LG : Hid (w.heap.size + 2 < w1.heap.size) := C1.out.big
      have O2 : Hid (w2.ownsRow w1.heap.size 2 1 _ ids'.length _) := ho
      obtain ⟨_, _, e1, hlg, _, hcg, _, _⟩ := Go.Lib.holds_of_ownsRow (enc := Value.int .i64) ho (by simp)
      simp at e1
      obtain ⟨rfl, rfl⟩ := e1
      have HG : Hid (w1.heap.size ≤ g) := hlg
      have hli' : ids'.length ≤ 9223372036854775807 := by
        have := (Go.Lib.holds_of_ownsRow (enc := Value.int .i64) ho (by simp))
        obtain ⟨_, _, e1, _, _, h1, h2, _⟩ := this
        simp at e1
        obtain ⟨rfl, rfl⟩ := e1
        unfold maxLen at h2
        omega
      clear hb ho C1 hlg
      have C3 : Hid (CRR w (w2.alloc (Obj.cells #[Value.int IntKind.i64 veh, Value.slice (some ⟨g, 0, none⟩) ids'.length cg] 32)) _ _ _) := C2.out.alloc _
      have N3 : Hid ((w2.alloc (Obj.cells #[Value.int IntKind.i64 veh, Value.slice (some ⟨g, 0, none⟩) ids'.length cg] 32)).heap[w2.heap.size]? = _) := heap_alloc_new _ _
      have O3 : Hid ((w2.alloc (Obj.cells #[Value.int IntKind.i64 veh, Value.slice (some ⟨g, 0, none⟩) ids'.length cg] 32)).ownsRow w1.heap.size 2 1 _ ids'.length _) := O2.out.alloc _
      obtain ⟨d0, d1⟩ := cells2 C2.out.1.2.2
      obtain ⟨c0, c1, c2', c3, c4⟩ := cells5 C3.out.1.2.1
      obtain ⟨n0, n1⟩ := cells2 N3.out
      clear O2
      go_wp2_with fail
      clear d0 d1 c0 c1 c2' c3 c4 n0 n1
      refine (routeCost_any n fine veh a ao av (some ⟨g, 0, none⟩) cap ko co kv cv cg zs os vs ids' _ (HA.out.below C3.out.b) (HO.out.below C3.out.b) (HV.out.below C3.out.b) (owns_ints O3.out) HLO.out HLV.out hko hkv hli' hcg HC.out o2 HO2.out q2 HQ2.out).mono ?_
      rintro e w3 ⟨rfl, hb⟩
      have C4 : Hid (CRR w w3 _ _ _) := C3.out.below hb
      have N4 : Hid (w3.heap[w2.heap.size]? = _) := below_row hb (row_lt N3.out) N3.out
      have O4 : Hid (w3.ownsRow w1.heap.size 2 1 _ ids'.length _) := owns_below O3.out hb
      clear hb C2 C3 N3 O3
      cases o2
      · have HCH : Hid (ch = false) := HCh.out.symm.trans (chB_no3 _ (of_decide_eq_false HO2.out))
        have HX : Hid (xs = []) := HXs.out.symm.trans (by rw [HCH.out]; rfl)
        have HDD : Hid (D = 0) := HD.out.symm.trans (by rw [HCH.out]; rfl)
        obtain ⟨t0, t1⟩ := cells2 C4.out.2
        have tf := fun i => frozen_of_row _ _ i _ _ C4.out.2
        go_wp2
        refine bodyPost_ret (v := .tuple #[.agg #[Value.int IntKind.i64 0, Value.slice none 0 0], .int .i64 0, .bool false]) (by simp [results, Try.results44, go_sem, t0, t1]) rfl ⟨?_, none, 0, ?_, ?_⟩
        · repeat (first | with_reducible exact C4.out.b | refine Below.setCell ?_ (by simp <;> omega) _)
        · rw [HCH.out, HDD.out, HX.out]; rfl
        · rw [HX.out]; exact World.ownsRow_nil _ _ _ _
      · have HCH : Hid (ch = true) := HCh.out.symm.trans (chB_yes HZ1.out rfl (of_decide_eq_true HO2.out))
        have HX : Hid (xs = ids') := HXs.out.symm.trans (by rw [HCH.out]; rfl)
        have HDD : Hid (D = q2 - q1) := HD.out.symm.trans (by rw [HCH.out, ← HQ1.out, ← HQ2.out]; rfl)
        obtain ⟨t0, t1⟩ := cells2 C4.out.2
        obtain ⟨n0, n1⟩ := cells2 N4.out
        have tf := fun i => frozen_of_row _ _ i _ _ C4.out.2
        go_wp2
        refine bodyPost_ret (v := .tuple #[.agg #[.int .i64 veh, .slice (some ⟨g, 0, none⟩) ids'.length cg], .int .i64 (q2 - q1), .bool true]) (by simp [results, Try.results44, go_sem, t0, t1]) rfl ⟨?_, some ⟨g, 0, none⟩, cg, ?_, ?_⟩
        · repeat (first | with_reducible exact C4.out.b | refine Below.setCell ?_ (by simp <;> omega) _)
        · rw [HCH.out, HDD.out, HX.out]; rfl
        · rw [HX.out]; exact owns_base (owns_set (owns_set O4.out LG.out) LG.out) (by have := LG.out; omega)

set_option maxHeartbeats 2000000 in
theorem checked_turn (n fine veh : Int) (a ao av bi : Option Addr) (cap ko co kv cv c2 : Nat) (zs os vs ids : List Int) (w : World) (hA : IntsAt w a zs) (hO : IntsAt w ao os) (hV : IntsAt w av vs) (hI : IntsAt w bi ids) (hlo : os.length = ko * 6) (hlv : vs.length = kv * 5) (hko : ko ≤ 9223372036854775807) (hkv : kv ≤ 9223372036854775807) (hli : ids.length ≤ 9223372036854775807) (hc2 : ids.length ≤ c2) (p : Nat) (ok : Bool) (ids' : List Int)
    (hhow : ∀ W, Below w.heap.size w W → ids.length ≤ 12 → Calls Try.prog 79 #[.slice bi ids.length c2, .pointer (some ⟨p, 0, none⟩)] W (HowOk W ok ids')) (ch : Bool) (hch : chB (caseB n zs os vs ko kv fine) n zs os vs ko kv veh ids ok ids' = ch) (D : Int) (hD : chD ch n zs os vs ko kv veh ids ids' = D) (xs : List Int) (hxs : chL ch ids' = xs) :
    Calls Try.prog 32 #[.agg #[.int .i64 n, .slice a zs.length cap, .slice ao ko co, .slice av kv cv, .int .i64 fine], .agg #[.int .i64 veh, .slice bi ids.length c2], .func (.func 79) #[] #[.pointer (some ⟨p, 0, none⟩)]] w (ChgOk w ch veh D xs) := by
  have HA : Hid (IntsAt w a zs) := hA
  have HO : Hid (IntsAt w ao os) := hO
  have HV : Hid (IntsAt w av vs) := hV
  have HI : Hid (IntsAt w bi ids) := hI
  have HLO : Hid _ := hlo
  have HLV : Hid _ := hlv
  clear hA hO hV hI hlo hlv
  have HCh : Hid (chB (caseB n zs os vs ko kv fine) n zs os vs ko kv veh ids ok ids' = ch) := hch
  have HD : Hid (chD ch n zs os vs ko kv veh ids ids' = D) := hD
  have HXs : Hid (chL ch ids' = xs) := hxs
  have HW : Hid (∀ W, Below w.heap.size w W → ids.length ≤ 12 → Calls Try.prog 79 #[.slice bi ids.length c2, .pointer (some ⟨p, 0, none⟩)] W (HowOk W ok ids')) := hhow
  clear hch hD hxs hhow
  have C0 : Hid (CRR w (((w.alloc (.cells #[Value.int IntKind.i64 n, Value.slice a zs.length cap, Value.slice ao ko co, Value.slice av kv cv, Value.int IntKind.i64 fine] 30)).alloc (.cells #[Value.int IntKind.i64 veh, Value.slice bi ids.length c2] 32)).alloc (.cells #[Value.int IntKind.i64 0, Value.slice none 0 0] 32)) _ _ _) := CRR.new w _ _ _
  go_enter Try.func32, Try.ntmps32
  obtain ⟨c0, c1, c2', c3, c4⟩ := cells5 C0.out.1.2.1
  go_wp2_with fail
  clear c0 c1 c2' c3 c4
  refine (implCase_any n fine a ao av cap ko co kv cv zs os vs _ (HA.out.below C0.out.b) (HO.out.below C0.out.b) (HV.out.below C0.out.b) HLO.out HLV.out hko hkv).mono ?_
  rintro e w1 ⟨rfl, hb⟩
  have C1 : Hid (CRR w w1 _ _ _) := C0.out.below hb
  clear hb C0
  cases hc : caseB n zs os vs ko kv fine
  · have hfv : formV (caseB n zs os vs ko kv fine) vs os kv ko veh ids = 1 := formV_1 hc
    have HCH : Hid (ch = false) := HCh.out.symm.trans (chB_no1 (by rw [codeV_form (by rw [hfv]; decide), hfv]; decide) _ _)
    have HX : Hid (xs = []) := HXs.out.symm.trans (by rw [HCH.out]; rfl)
    have HDD : Hid (D = 0) := HD.out.symm.trans (by rw [HCH.out]; rfl)
    clear hfv hc
    obtain ⟨t0, t1⟩ := cells2 C1.out.2
    have tf := fun i => frozen_of_row _ _ i _ _ C1.out.2
    go_wp2
    refine bodyPost_ret (v := .tuple #[.agg #[Value.int IntKind.i64 0, Value.slice none 0 0], .int .i64 0, .bool false]) (by simp [results, Try.results32, go_sem, t0, t1]) rfl ⟨?_, none, 0, ?_, ?_⟩
    · repeat (first | with_reducible exact C1.out.b | refine Below.setCell ?_ (by simp <;> omega) _)
    · rw [HCH.out, HDD.out, HX.out]; rfl
    · rw [HX.out]; exact World.ownsRow_nil _ _ _ _
  · have HC : Hid (caseB n zs os vs ko kv fine = true) := hc
    have HCh' : Hid (chB true n zs os vs ko kv veh ids ok ids' = ch) := by
      have := HCh.out
      rw [hc] at this
      exact this
    have LG : Hid (w.heap.size + 2 < w1.heap.size) := C1.out.big
    clear hc
    obtain ⟨c0, c1, c2', c3, c4⟩ := cells5 C1.out.1.2.1
    obtain ⟨d0, d1⟩ := cells2 C1.out.1.2.2
    go_wp2_with fail
    clear c0 c1 c2' c3 c4 d0 d1
    refine (changed_turn n fine veh a ao av bi cap ko co kv cv c2 zs os vs ids _ (HA.out.below C1.out.b) (HO.out.below C1.out.b) (HV.out.below C1.out.b) (HI.out.below C1.out.b) HLO.out HLV.out hko hkv hli hc2 HC.out _ ok ids' (fun W hW => HW.out W (C1.out.b.trans (hW.mono C1.out.b.size))) ch HCh'.out D HD.out xs HXs.out).mono ?_
    rintro e w2 ⟨hb, ad, cg, rfl, ho⟩
    have C2 : Hid (CRR w w2 _ _ _) := C1.out.below hb
    have O2 : Hid (w2.ownsRow w1.heap.size 2 1 (.slice ad xs.length cg) xs.length _) := ho
    clear hb ho C1
    obtain ⟨vv, HVV⟩ : ∃ t, Hid (chI ch veh = t) := ⟨_, rfl⟩
    rw [HVV.out]
    obtain ⟨t0, t1⟩ := cells2 C2.out.2
    have tf := fun i => frozen_of_row _ _ i _ _ C2.out.2
    go_wp2
    refine bodyPost_ret (v := .tuple #[.agg #[.int .i64 vv, .slice ad xs.length cg], .int .i64 D, .bool ch]) (by simp [results, Try.results32, go_sem, t0, t1]) rfl ⟨?_, ad, cg, ?_, ?_⟩
    · repeat (first | with_reducible exact C2.out.b | refine Below.setCell ?_ (by simp <;> omega) _)
    · rw [HVV.out]
    · exact owns_base (owns_set (owns_set O2.out LG.out) LG.out) (by have := LG.out; omega)

end Go.Proofs.Ytplefpmchhcfcaa

namespace Go.Proofs.Ytplefpmchhcfcaa
open Go.RowKit

theorem turning_any (x y : Int) (w : World) :
    Calls Try.prog 53 #[.agg #[.int .i64 x, .int .i64 y]] w fun e w' => ∃ p, w.heap.size ≤ p ∧ e = .returned (.func (.func 79) #[] #[.pointer (some ⟨p, 0, none⟩)]) ∧ Below w.heap.size w w' ∧ w'.cell? ⟨p, 0, none⟩ = some (.int .i64 x) ∧ w'.cell? ⟨p, 1, none⟩ = some (.int .i64 y) := by
  have hmf : ∀ (fn : Fn) (first cap : Array Value) (w : World), (Instr.makeFunc fn first cap).run Try.prog w = .ok (.func fn first cap) w := fun _ _ _ _ => rfl
  go_enter Try.func53, Try.ntmps53
  go_wp2
  go_ret
  refine ⟨w.heap.size, Nat.le_refl _, rfl, (Below.refl _ _).alloc (Nat.le_refl _) _, ?_⟩
  first
    | exact cell_of_row _ _ _ _ _ _ (heap_alloc_new _ _)
    | exact cells2 (heap_alloc_new _ _)

set_option maxHeartbeats 2000000 in
theorem implTwoOpt_any (n fine veh : Int) (a ao av bi : Option Addr) (cap ko co kv cv c2 : Nat) (zs os vs ids : List Int) (w : World) (hA : IntsAt w a zs) (hO : IntsAt w ao os) (hV : IntsAt w av vs) (hI : IntsAt w bi ids) (hlo : os.length = ko * 6) (hlv : vs.length = kv * 5) (hko : ko ≤ 9223372036854775807) (hkv : kv ≤ 9223372036854775807) (hli : ids.length ≤ 9223372036854775807) (hc2 : ids.length ≤ c2) (x y : Int) (ch : Bool) (hch : chB (caseB n zs os vs ko kv fine) n zs os vs ko kv veh ids (turnB x y ids.length) (revL ids x.toNat y.toNat) = ch) (D : Int) (hD : chD ch n zs os vs ko kv veh ids (revL ids x.toNat y.toNat) = D) (xs : List Int) (hxs : chL ch (revL ids x.toNat y.toNat) = xs) :
    Calls Try.prog 25 #[.agg #[.int .i64 n, .slice a zs.length cap, .slice ao ko co, .slice av kv cv, .int .i64 fine], .agg #[.int .i64 veh, .slice bi ids.length c2], .int .i64 x, .int .i64 y] w (ChgOk w ch veh D xs) := by
  have HA : Hid (IntsAt w a zs) := hA
  have HO : Hid (IntsAt w ao os) := hO
  have HV : Hid (IntsAt w av vs) := hV
  have HI : Hid (IntsAt w bi ids) := hI
  have HLO : Hid _ := hlo
  have HLV : Hid _ := hlv
  clear hA hO hV hI hlo hlv
  have HCh : Hid (chB (caseB n zs os vs ko kv fine) n zs os vs ko kv veh ids (turnB x y ids.length) (revL ids x.toNat y.toNat) = ch) := hch
  have HD : Hid (chD ch n zs os vs ko kv veh ids (revL ids x.toNat y.toNat) = D) := hD
  have HXs : Hid (chL ch (revL ids x.toNat y.toNat) = xs) := hxs
  clear hch hD hxs
  have C0 : Hid (CRR w (((w.alloc (.cells #[Value.int IntKind.i64 n, Value.slice a zs.length cap, Value.slice ao ko co, Value.slice av kv cv, Value.int IntKind.i64 fine] 30)).alloc (.cells #[Value.int IntKind.i64 veh, Value.slice bi ids.length c2] 32)).alloc (.cells #[Value.int IntKind.i64 0, Value.slice none 0 0] 32)) _ _ _) := CRR.new w _ _ _
  obtain ⟨vv, HVV⟩ : ∃ t, Hid (chI ch veh = t) := ⟨_, rfl⟩
  go_enter Try.func25, Try.ntmps25
  go_wp2_with fail
  generalize ((w.alloc (.cells #[Value.int IntKind.i64 n, Value.slice a zs.length cap, Value.slice ao ko co, Value.slice av kv cv, Value.int IntKind.i64 fine] 30)).alloc (.cells #[Value.int IntKind.i64 veh, Value.slice bi ids.length c2] 32)).alloc (.cells #[Value.int IntKind.i64 0, Value.slice none 0 0] 32) = W0 at *
  obtain ⟨c0, c1, c2', c3, c4⟩ := cells5 C0.out.1.2.1
  obtain ⟨d0, d1⟩ := cells2 C0.out.1.2.2
  obtain ⟨t0, t1⟩ := cells2 C0.out.2
  have tf := fun i => frozen_of_row _ _ i _ _ C0.out.2
  go_region_held3 (fun W => W.cell? ⟨w.heap.size, 0, none⟩ = some (.int .i64 n) ∧ W.cell? ⟨w.heap.size, 1, none⟩ = some (.slice a zs.length cap) ∧ W.cell? ⟨w.heap.size, 2, none⟩ = some (.slice ao ko co) ∧ W.cell? ⟨w.heap.size, 3, none⟩ = some (.slice av kv cv) ∧ W.cell? ⟨w.heap.size, 4, none⟩ = some (.int .i64 fine) ∧ W.cell? ⟨w.heap.size + 1, 0, none⟩ = some (.int .i64 veh) ∧ W.cell? ⟨w.heap.size + 1, 1, none⟩ = some (.slice bi ids.length c2)) (first | with_reducible exact kS | with_reducible exact cr7 (CRR.set C2.out _ _) | go_keep) ((first
    | (go_at_call 53
       with_reducible refine (turning_any x y W0.drew).mono ?_
       rintro e w1 ⟨p, hp, rfl, hb, hc, hc1⟩
       have hb0 := (Below.refl W0.heap.size W0).drew.trans (hb.mono (Nat.le_refl _))
       have C1 : Hid (CRR w w1 _ _ _) := C0.out.below hb0
       have P1 : Hid (w1.cell? ⟨p, 0, none⟩ = some (.int .i64 x) ∧ w1.cell? ⟨p, 1, none⟩ = some (.int .i64 y)) := ⟨hc, hc1⟩
       obtain ⟨k0, k1, k2, k3, k4⟩ := cells5 C1.out.1.2.1
       obtain ⟨k5, k6⟩ := cells2 C1.out.1.2.2
       have kS := And.intro k0 (And.intro k1 (And.intro k2 (And.intro k3 (And.intro k4 (And.intro k5 k6)))))
       clear hb hb0 k0 k1 k2 k3 k4 k5 k6)
    | (go_at_call 32
       with_reducible refine (checked_turn n fine veh a ao av bi cap ko co kv cv c2 zs os vs ids w1 (HA.out.below C1.out.b) (HO.out.below C1.out.b) (HV.out.below C1.out.b) (HI.out.below C1.out.b) HLO.out HLV.out hko hkv hli hc2 p _ _ (fun W hW h12 => turnRound_any p x y bi c2 ids W ((hW.cell (p := ⟨p, 0, none⟩) (block_lt_of_cell P1.out.1)).trans P1.out.1) ((hW.cell (p := ⟨p, 1, none⟩) (block_lt_of_cell P1.out.2)).trans P1.out.2) (HI.out.below (C1.out.b.trans (hW.mono C1.out.b.size))) h12) ch HCh.out D HD.out xs HXs.out).mono ?_
       rintro e w2 ⟨hb, ad, cg, rfl, ho⟩
       rw [HVV.out]
       have C2 : Hid (CRR w w2 _ _ _) := C1.out.below hb
       have O2 : Hid (w2.ownsRow w1.heap.size 2 1 (.slice ad xs.length cg) xs.length _) := ho
       obtain ⟨k0, k1, k2, k3, k4⟩ := cells5 C2.out.1.2.1
       obtain ⟨k5, k6⟩ := cells2 C2.out.1.2.2
       have kS := And.intro k0 (And.intro k1 (And.intro k2 (And.intro k3 (And.intro k4 (And.intro k5 k6)))))
       obtain ⟨u0, u1⟩ := cells2 C2.out.2
       have uf := fun i => frozen_of_row _ _ i _ _ C2.out.2
       clear hb ho k0 k1 k2 k3 k4 k5 k6)))
  all_goals
    clear kS c0 c1 c2' c3 c4 d0 d1 t0 t1 tf
    have LG : Hid (w.heap.size + 2 < w1.heap.size) := C1.out.big
    go_wp2
    refine bodyPost_ret (v := .tuple #[.agg #[.int .i64 vv, .slice ad xs.length cg], .int .i64 D, .bool ch]) (by simp [results, Try.results25, go_sem, u0, u1]) rfl ⟨?_, ad, cg, ?_, ?_⟩
    · repeat (first | with_reducible exact C2.out.b | refine Below.setCell ?_ (by simp <;> omega) _)
    · rw [HVV.out]
    · exact owns_base (owns_set (owns_set O2.out LG.out) LG.out) (by have := LG.out; omega)

end Go.Proofs.Ytplefpmchhcfcaa

namespace Go.Proofs.Ytplefpmchhcfcaa
open Go.RowKit

/-- A case at pc, a route, a turn and the answer's route, in their boxes. -/
def RTR (w W : World) (pc : Nat) (cs rs ts zs : Array Value) : Prop := Below w.heap.size w W ∧ W.heap[pc]? = some (.cells cs 30 (0, 0)) ∧ pc < w.heap.size ∧ W.heap[w.heap.size]? = some (.cells rs 32 (0, 0)) ∧ W.heap[w.heap.size + 1]? = some (.cells ts 83 (0, 0)) ∧ W.heap[w.heap.size + 2]? = some (.cells zs 32 (0, 0))
theorem RTR.below {w W W' : World} {pc : Nat} {cs rs ts zs : Array Value} (h : RTR w W pc cs rs ts zs) (hb : Below W.heap.size W W') : RTR w W' pc cs rs ts zs :=
  ⟨h.1.trans (hb.mono h.1.size), below_row hb (row_lt h.2.1) h.2.1, h.2.2.1, below_row hb (row_lt h.2.2.2.1) h.2.2.2.1, below_row hb (row_lt h.2.2.2.2.1) h.2.2.2.2.1, below_row hb (row_lt h.2.2.2.2.2) h.2.2.2.2.2⟩
theorem RTR.b {w W : World} {pc : Nat} {cs rs ts zs : Array Value} (h : RTR w W pc cs rs ts zs) : Below w.heap.size w W := h.1
theorem RTR.z {w W : World} {pc : Nat} {cs rs ts zs : Array Value} (h : RTR w W pc cs rs ts zs) : W.heap[w.heap.size + 2]? = some (.cells zs 32 (0, 0)) := h.2.2.2.2.2
theorem RTR.big {w W : World} {pc : Nat} {cs rs ts zs : Array Value} (h : RTR w W pc cs rs ts zs) : w.heap.size + 2 < W.heap.size := row_lt h.z
theorem RTR.new (w : World) (pc : Nat) (cs rs ts zs : Array Value) (h : w.heap[pc]? = some (.cells cs 30 (0, 0))) : RTR w (((w.alloc (.cells rs 32)).alloc (.cells ts 83)).alloc (.cells zs 32)) pc cs rs ts zs := by
  have hb : Below w.heap.size w (((w.alloc (.cells rs 32)).alloc (.cells ts 83)).alloc (.cells zs 32)) := (((Below.refl _ _).alloc (Nat.le_refl _) _).alloc (by simp) _).alloc (by simp; omega) _
  refine ⟨hb, below_row hb (row_lt h) h, row_lt h, ?_, ?_, ?_⟩
  · exact (heap_alloc_old _ _ (by simp; omega)).trans (heap_alloc2_old _ _ _)
  · exact (heap_alloc_old _ _ (by simp)).trans (heap_alloc2_new _ _ _)
  · have := heap_alloc_new ((w.alloc (.cells rs 32)).alloc (.cells ts 83)) (.cells zs 32)
    simpa using this
theorem rtr9 {w W : World} {pc : Nat} {c0 c1 c2 c3 c4 r0 r1 x0 x1 : Value} {zs : Array Value} (h : RTR w W pc #[c0, c1, c2, c3, c4] #[r0, r1] #[x0, x1] zs) :
    W.cell? ⟨pc, 0, none⟩ = some c0 ∧ W.cell? ⟨pc, 1, none⟩ = some c1 ∧ W.cell? ⟨pc, 2, none⟩ = some c2 ∧ W.cell? ⟨pc, 3, none⟩ = some c3 ∧ W.cell? ⟨pc, 4, none⟩ = some c4 ∧ W.cell? ⟨w.heap.size, 0, none⟩ = some r0 ∧ W.cell? ⟨w.heap.size, 1, none⟩ = some r1 ∧ W.cell? ⟨w.heap.size + 1, 0, none⟩ = some x0 ∧ W.cell? ⟨w.heap.size + 1, 1, none⟩ = some x1 := by
  obtain ⟨k0, k1, k2, k3, k4⟩ := cells5 h.2.1
  obtain ⟨k5, k6⟩ := cells2 h.2.2.2.1
  obtain ⟨k7, k8⟩ := cells2 h.2.2.2.2.1
  exact ⟨k0, k1, k2, k3, k4, k5, k6, k7, k8⟩
theorem rtr9s {w W : World} {pc : Nat} {c0 c1 c2 c3 c4 r0 r1 x0 x1 : Value} {zs : Array Value} (h : RTR w W pc #[c0, c1, c2, c3, c4] #[r0, r1] #[x0, x1] zs) (u1 u2 : Value) :
    (fun X : World => X.cell? ⟨pc, 0, none⟩ = some c0 ∧ X.cell? ⟨pc, 1, none⟩ = some c1 ∧ X.cell? ⟨pc, 2, none⟩ = some c2 ∧ X.cell? ⟨pc, 3, none⟩ = some c3 ∧ X.cell? ⟨pc, 4, none⟩ = some c4 ∧ X.cell? ⟨w.heap.size, 0, none⟩ = some r0 ∧ X.cell? ⟨w.heap.size, 1, none⟩ = some r1 ∧ X.cell? ⟨w.heap.size + 1, 0, none⟩ = some x0 ∧ X.cell? ⟨w.heap.size + 1, 1, none⟩ = some x1) ((W.setCell ⟨w.heap.size + 1 + 1, 0, none⟩ u1).setCell ⟨w.heap.size + 1 + 1, 1, none⟩ u2) := by
  obtain ⟨k0, k1, k2, k3, k4, k5, k6, k7, k8⟩ := rtr9 h
  have hp : pc ≠ w.heap.size + 1 + 1 := by have := h.2.2.1; omega
  have h1 : w.heap.size ≠ w.heap.size + 1 + 1 := by omega
  have h2 : w.heap.size + 1 ≠ w.heap.size + 1 + 1 := by omega
  exact ⟨keep_set (keep_set k0 hp) hp, keep_set (keep_set k1 hp) hp, keep_set (keep_set k2 hp) hp, keep_set (keep_set k3 hp) hp, keep_set (keep_set k4 hp) hp, keep_set (keep_set k5 h1) h1, keep_set (keep_set k6 h1) h1, keep_set (keep_set k7 h2) h2, keep_set (keep_set k8 h2) h2⟩

set_option maxHeartbeats 2000000 in
theorem turns1_any (n fine veh : Int) (a ao av bi : Option Addr) (cap ko co kv cv c2 : Nat) (zs os vs ids : List Int) (w : World) (hA : IntsAt w a zs) (hO : IntsAt w ao os) (hV : IntsAt w av vs) (hI : IntsAt w bi ids) (hlo : os.length = ko * 6) (hlv : vs.length = kv * 5) (hko : ko ≤ 9223372036854775807) (hkv : kv ≤ 9223372036854775807) (hli : ids.length ≤ 9223372036854775807) (hc2 : ids.length ≤ c2) (hcB : caseB n zs os vs ko kv fine = true) (pc : Nat) (hpc : w.heap[pc]? = some (.cells #[Value.int IntKind.i64 n, Value.slice a zs.length cap, Value.slice ao ko co, Value.slice av kv cv, Value.int IntKind.i64 fine] 30 (0, 0))) (x y : Int) (ch : Bool) (hch : chB true n zs os vs ko kv veh ids (turnB x y ids.length) (revL ids x.toNat y.toNat) = ch) (D : Int) (hD : chD ch n zs os vs ko kv veh ids (revL ids x.toNat y.toNat) = D) (xs : List Int) (hxs : chL ch (revL ids x.toNat y.toNat) = xs) :
    Calls Try.prog 74 #[.agg #[.int .i64 veh, .slice bi ids.length c2], .agg #[.int .i64 x, .int .i64 y], .pointer (some ⟨pc, 0, none⟩)] w (ChgOk w ch veh D xs) := by
  have HA : Hid (IntsAt w a zs) := hA
  have HO : Hid (IntsAt w ao os) := hO
  have HV : Hid (IntsAt w av vs) := hV
  have HI : Hid (IntsAt w bi ids) := hI
  have HLO : Hid _ := hlo
  have HLV : Hid _ := hlv
  clear hA hO hV hI hlo hlv
  have HC : Hid (caseB n zs os vs ko kv fine = true) := hcB
  have HCh : Hid (chB true n zs os vs ko kv veh ids (turnB x y ids.length) (revL ids x.toNat y.toNat) = ch) := hch
  have HD : Hid (chD ch n zs os vs ko kv veh ids (revL ids x.toNat y.toNat) = D) := hD
  have HXs : Hid (chL ch (revL ids x.toNat y.toNat) = xs) := hxs
  clear hcB hch hD hxs
  have C0 : Hid (RTR w (((w.alloc (.cells #[Value.int IntKind.i64 veh, Value.slice bi ids.length c2] 32)).alloc (.cells #[Value.int IntKind.i64 x, Value.int IntKind.i64 y] 83)).alloc (.cells #[Value.int IntKind.i64 0, Value.slice none 0 0] 32)) pc #[Value.int IntKind.i64 n, Value.slice a zs.length cap, Value.slice ao ko co, Value.slice av kv cv, Value.int IntKind.i64 fine] #[Value.int IntKind.i64 veh, Value.slice bi ids.length c2] #[Value.int IntKind.i64 x, Value.int IntKind.i64 y] #[Value.int IntKind.i64 0, Value.slice none 0 0]) := RTR.new w pc _ _ _ _ hpc
  clear hpc
  obtain ⟨vv, HVV⟩ : ∃ t, Hid (chI ch veh = t) := ⟨_, rfl⟩
  go_enter Try.func74, Try.ntmps74
  go_wp2_with fail
  generalize (((w.alloc (.cells #[Value.int IntKind.i64 veh, Value.slice bi ids.length c2] 32)).alloc (.cells #[Value.int IntKind.i64 x, Value.int IntKind.i64 y] 83)).alloc (.cells #[Value.int IntKind.i64 0, Value.slice none 0 0] 32)) = W0 at *
  have k9 := rtr9 (C0.out.below (Below.refl _ _).drew)
  have kS := k9
  go_region_held3 (fun W => W.cell? ⟨pc, 0, none⟩ = some (.int .i64 n) ∧ W.cell? ⟨pc, 1, none⟩ = some (.slice a zs.length cap) ∧ W.cell? ⟨pc, 2, none⟩ = some (.slice ao ko co) ∧ W.cell? ⟨pc, 3, none⟩ = some (.slice av kv cv) ∧ W.cell? ⟨pc, 4, none⟩ = some (.int .i64 fine) ∧ W.cell? ⟨w.heap.size, 0, none⟩ = some (.int .i64 veh) ∧ W.cell? ⟨w.heap.size, 1, none⟩ = some (.slice bi ids.length c2) ∧ W.cell? ⟨w.heap.size + 1, 0, none⟩ = some (.int .i64 x) ∧ W.cell? ⟨w.heap.size + 1, 1, none⟩ = some (.int .i64 y)) (first | with_reducible exact kS | with_reducible exact rtr9s C2.out _ _ | go_keep) ((first
    | (go_at_call 53
       with_reducible refine (turning_any x y W0.drew).mono ?_
       rintro e w1 ⟨p, hp, rfl, hb, hc, hc1⟩
       have hb0 := (Below.refl W0.heap.size W0).drew.trans (hb.mono (Nat.le_refl _))
       have C1 : Hid (RTR w w1 pc _ _ _ _) := C0.out.below hb0
       have P1 : Hid (w1.cell? ⟨p, 0, none⟩ = some (.int .i64 x) ∧ w1.cell? ⟨p, 1, none⟩ = some (.int .i64 y)) := ⟨hc, hc1⟩
       have kS := rtr9 C1.out
       clear hb hb0)
    | (go_at_call 44
       with_reducible refine (changed_turn n fine veh a ao av bi cap ko co kv cv c2 zs os vs ids w1 (HA.out.below C1.out.b) (HO.out.below C1.out.b) (HV.out.below C1.out.b) (HI.out.below C1.out.b) HLO.out HLV.out hko hkv hli hc2 HC.out p _ _ (fun W hW h12 => turnRound_any p x y bi c2 ids W ((hW.cell (p := ⟨p, 0, none⟩) (block_lt_of_cell P1.out.1)).trans P1.out.1) ((hW.cell (p := ⟨p, 1, none⟩) (block_lt_of_cell P1.out.2)).trans P1.out.2) (HI.out.below (C1.out.b.trans (hW.mono C1.out.b.size))) h12) ch HCh.out D HD.out xs HXs.out).mono ?_
       rintro e w2 ⟨hb, ad, cg, rfl, ho⟩
       rw [HVV.out]
       have C2 : Hid (RTR w w2 pc _ _ _ _) := C1.out.below hb
       have O2 : Hid (w2.ownsRow w1.heap.size 2 1 (.slice ad xs.length cg) xs.length _) := ho
       have kS := rtr9 C2.out
       obtain ⟨u0, u1⟩ := cells2 C2.out.z
       have uf := fun i => frozen_of_row _ _ i _ _ C2.out.z
       clear hb ho)))
  all_goals
    clear kS k9
    have LG : Hid (w.heap.size + 2 < w1.heap.size) := C1.out.big
    go_wp2
    refine bodyPost_ret (v := .tuple #[.agg #[.int .i64 vv, .slice ad xs.length cg], .int .i64 D, .bool ch]) (by simp [results, Try.results74, go_sem, u0, u1]) rfl ⟨?_, ad, cg, ?_, ?_⟩
    · repeat (first | with_reducible exact C2.out.b | refine Below.setCell ?_ (by simp <;> omega) _)
    · rw [HVV.out]
    · exact owns_base (owns_set (owns_set O2.out LG.out) LG.out) (by have := LG.out; omega)

end Go.Proofs.Ytplefpmchhcfcaa

namespace Go.Proofs.Ytplefpmchhcfcaa
open Go.RowKit

set_option maxHeartbeats 2000000 in
theorem bestOne_any (n fine veh : Int) (a ao av bi : Option Addr) (cap ko co kv cv c2 : Nat) (zs os vs ids : List Int) (w : World) (hA : IntsAt w a zs) (hO : IntsAt w ao os) (hV : IntsAt w av vs) (hI : IntsAt w bi ids) (hlo : os.length = ko * 6) (hlv : vs.length = kv * 5) (hko : ko ≤ 9223372036854775807) (hkv : kv ≤ 9223372036854775807) (hli : ids.length ≤ 9223372036854775807) (hc2 : ids.length ≤ c2) (hcB : caseB n zs os vs ko kv fine = true) (pc pm pt : Nat) (hpc : w.heap[pc]? = some (.cells #[Value.int IntKind.i64 n, Value.slice a zs.length cap, Value.slice ao ko co, Value.slice av kv cv, Value.int IntKind.i64 fine] 30 (0, 0))) (hpm : w.heap[pm]? = some (.cells #[Value.func (.func 73) #[] #[], Value.func (.func 74) #[] #[.pointer (some ⟨pc, 0, none⟩)]] 79 (0, 0))) (hpt : w.heap[pt]? = some (.cells #[Value.int IntKind.i64 veh, Value.slice bi ids.length c2] 32 (0, 0))) (i j : Nat) :
    Calls Try.prog 76 #[.agg #[.int .i64 (i : Int), .int .i64 (j : Int)], .pointer (some ⟨pm, 0, none⟩), .pointer (some ⟨pt, 0, none⟩)] w fun e w' => e = .returned (.tuple #[.int .i64 (trD true n zs os vs ko kv veh ids i j), .bool (trB true n zs os vs ko kv veh ids i j && decide (trD true n zs os vs ko kv veh ids i j < 0))]) ∧ Below w.heap.size w w' := by
  have HA : Hid (IntsAt w a zs) := hA
  have HO : Hid (IntsAt w ao os) := hO
  have HV : Hid (IntsAt w av vs) := hV
  have HI : Hid (IntsAt w bi ids) := hI
  have HLO : Hid _ := hlo
  have HLV : Hid _ := hlv
  clear hA hO hV hI hlo hlv
  have HC : Hid (caseB n zs os vs ko kv fine = true) := hcB
  clear hcB
  have B0 : Hid (Below w.heap.size w (w.alloc (.cells #[Value.int IntKind.i64 i, Value.int IntKind.i64 j] 83))) := (Below.refl _ _).alloc (Nat.le_refl _) _
  have N0 : Hid ((w.alloc (.cells #[Value.int IntKind.i64 i, Value.int IntKind.i64 j] 83)).heap[w.heap.size]? = some (.cells #[Value.int IntKind.i64 i, Value.int IntKind.i64 j] 83 (0, 0))) := heap_alloc_new _ _
  have PC : Hid ((w.alloc (.cells #[Value.int IntKind.i64 i, Value.int IntKind.i64 j] 83)).heap[pc]? = some (.cells #[Value.int IntKind.i64 n, Value.slice a zs.length cap, Value.slice ao ko co, Value.slice av kv cv, Value.int IntKind.i64 fine] 30 (0, 0))) := below_row B0.out (row_lt hpc) hpc
  have hpm1 := below_row B0.out (row_lt hpm) hpm
  have hpt1 := below_row B0.out (row_lt hpt) hpt
  clear hpc hpm hpt
  obtain ⟨ch, HCH⟩ : ∃ t, Hid (trB true n zs os vs ko kv veh ids i j = t) := ⟨_, rfl⟩
  obtain ⟨D, HDD⟩ : ∃ t, Hid (trD true n zs os vs ko kv veh ids i j = t) := ⟨_, rfl⟩
  obtain ⟨xs, HXX⟩ : ∃ t, Hid (chL ch (revL ids i j) = t) := ⟨_, rfl⟩
  rw [HCH.out, HDD.out]
  go_enter Try.func76, Try.ntmps76
  obtain ⟨m0, m1⟩ := cells2 hpm1
  obtain ⟨r0, r1⟩ := cells2 hpt1
  obtain ⟨n0, n1⟩ := cells2 N0.out
  go_wp2_with fail
  clear m0 m1 r0 r1 n0 n1
  refine (turns1_any n fine veh a ao av bi cap ko co kv cv c2 zs os vs ids _ (HA.out.below B0.out) (HO.out.below B0.out) (HV.out.below B0.out) (HI.out.below B0.out) HLO.out HLV.out hko hkv hli hc2 HC.out pc PC.out (i : Int) (j : Int) ch HCH.out D (by rw [← HDD.out, ← HCH.out]; rfl) xs HXX.out).mono ?_
  rintro e w2 ⟨hb, ad, c, rfl, _⟩
  obtain ⟨vv, HVV⟩ : ∃ t, Hid (chI ch veh = t) := ⟨_, rfl⟩
  rw [HVV.out]
  have B2 : Hid (Below w.heap.size w (w2.alloc (.cells #[Value.int IntKind.i64 vv, Value.slice ad xs.length c] 32))) := (B0.out.trans (hb.mono B0.out.size)).alloc (Nat.le_trans B0.out.size hb.size) _
  clear hb hpm1 hpt1
  cases ch
  · go_wp2
    go_ret2
    exact ⟨rfl, B2.out⟩
  · go_wp2
    go_ret2
    exact ⟨by simp, B2.out⟩

/-- The moves' box, the route's box, the answer's box. -/
def MB (w W : World) (ms rs : Array Value) : Prop := Below w.heap.size w W ∧ W.heap[w.heap.size]? = some (.cells ms 79 (0, 0)) ∧ W.heap[w.heap.size + 1]? = some (.cells rs 32 (0, 0)) ∧ W.heap[w.heap.size + 2]? = some (.cells #[Value.int IntKind.i64 0, Value.int IntKind.i64 0] 83 (0, 0))
theorem MB.new (w : World) (ms rs : Array Value) : MB w (((w.alloc (.cells ms 79)).alloc (.cells rs 32)).alloc (.cells #[Value.int IntKind.i64 0, Value.int IntKind.i64 0] 83)) ms rs := by
  refine ⟨(((Below.refl _ _).alloc (Nat.le_refl _) _).alloc (by simp) _).alloc (by simp; omega) _, ?_, ?_, ?_⟩
  · exact (heap_alloc_old _ _ (by simp; omega)).trans (heap_alloc2_old _ _ _)
  · exact (heap_alloc_old _ _ (by simp)).trans (heap_alloc2_new _ _ _)
  · have := heap_alloc_new ((w.alloc (.cells ms 79)).alloc (.cells rs 32)) (.cells #[Value.int IntKind.i64 0, Value.int IntKind.i64 0] 83)
    simpa using this
theorem MB.below {w W W' : World} {ms rs : Array Value} (h : MB w W ms rs) (hb : Below W.heap.size W W') : MB w W' ms rs := ⟨h.1.trans (hb.mono h.1.size), below_row hb (row_lt h.2.1) h.2.1, below_row hb (row_lt h.2.2.1) h.2.2.1, below_row hb (row_lt h.2.2.2) h.2.2.2⟩
theorem MB.b {w W : World} {ms rs : Array Value} (h : MB w W ms rs) : Below w.heap.size w W := h.1
theorem own_flat {w : World} {base n : Nat} {e : TypeId} {sl : Value} {ps : List (Nat × Nat)} (h : w.ownsRow base e 2 sl n ((flatP ps).map (Value.int .i64))) : ∃ ad c, sl = .slice ad n c ∧ IntsAt w ad (flatP ps) := by
  obtain ⟨h1, ⟨rfl, h2⟩ | ⟨g, cap, cur, rfl, h3, h4, h5⟩⟩ := id h
  · subst h2
    have hl : (flatP ps).length = 0 := by simpa using h1
    exact ⟨none, 0, rfl, fun j hj => by omega⟩
  · exact ⟨_, _, rfl, owns_ints h⟩

set_option maxHeartbeats 2000000 in
theorem best_any (n fine veh : Int) (a ao av bi : Option Addr) (cap ko co kv cv c2 : Nat) (zs os vs ids : List Int) (w : World) (hA : IntsAt w a zs) (hO : IntsAt w ao os) (hV : IntsAt w av vs) (hI : IntsAt w bi ids) (hlo : os.length = ko * 6) (hlv : vs.length = kv * 5) (hko : ko ≤ 9223372036854775807) (hkv : kv ≤ 9223372036854775807) (hli : ids.length ≤ 9223372036854775807) (hc2 : ids.length ≤ c2) (hcB : caseB n zs os vs ko kv fine = true) (h12 : ids.length ≤ 12) (pc : Nat) (hpc : w.heap[pc]? = some (.cells #[Value.int IntKind.i64 n, Value.slice a zs.length cap, Value.slice ao ko co, Value.slice av kv cv, Value.int IntKind.i64 fine] 30 (0, 0))) (s0 : BS) (hs0 : bst (trB true n zs os vs ko kv veh ids) (trD true n zs os vs ko kv veh ids) (prsTo ids.length ids.length) = s0) :
    Calls Try.prog 51 #[.agg #[Value.func (.func 73) #[] #[], Value.func (.func 74) #[] #[.pointer (some ⟨pc, 0, none⟩)]], .agg #[.int .i64 veh, .slice bi ids.length c2]] w fun e w' => e = .returned (.tuple #[.agg #[.int .i64 (s0.i : Int), .int .i64 (s0.j : Int)], .int .i64 s0.v, .bool s0.f]) ∧ Below w.heap.size w w' := by
  have HA : Hid (IntsAt w a zs) := hA
  have HO : Hid (IntsAt w ao os) := hO
  have HV : Hid (IntsAt w av vs) := hV
  have HI : Hid (IntsAt w bi ids) := hI
  have HLO : Hid _ := hlo
  have HLV : Hid _ := hlv
  clear hA hO hV hI hlo hlv
  have HC : Hid (caseB n zs os vs ko kv fine = true) := hcB
  have HS0 : Hid (bst (trB true n zs os vs ko kv veh ids) (trD true n zs os vs ko kv veh ids) (prsTo ids.length ids.length) = s0) := hs0
  clear hcB hs0
  have hmf : ∀ (fn : Fn) (first cap : Array Value) (w : World), (Instr.makeFunc fn first cap).run Try.prog w = .ok (.func fn first cap) w := fun _ _ _ _ => rfl
  have C0 : Hid (MB w (((w.alloc (.cells #[Value.func (.func 73) #[] #[], Value.func (.func 74) #[] #[.pointer (some ⟨pc, 0, none⟩)]] 79)).alloc (.cells #[Value.int IntKind.i64 veh, Value.slice bi ids.length c2] 32)).alloc (.cells #[Value.int IntKind.i64 0, Value.int IntKind.i64 0] 83)) #[Value.func (.func 73) #[] #[], Value.func (.func 74) #[] #[.pointer (some ⟨pc, 0, none⟩)]] #[Value.int IntKind.i64 veh, Value.slice bi ids.length c2]) := MB.new w _ _
  have PC : Hid (w.heap[pc]? = _) := hpc
  clear hpc
  go_enter Try.func51, Try.ntmps51
  obtain ⟨m0, m1⟩ := cells2 C0.out.2.1
  obtain ⟨r0, r1⟩ := cells2 C0.out.2.2.1
  go_wp2_with fail
  clear m0 m1 r0 r1
  refine (turnsOf_any veh bi c2 ids.length _ h12).mono ?_
  rintro e w1 ⟨sl, rfl, hb, ho⟩
  obtain ⟨ad, c, rfl, hflat⟩ := own_flat ho
  have C1 : Hid (MB w w1 #[Value.func (.func 73) #[] #[], Value.func (.func 74) #[] #[.pointer (some ⟨pc, 0, none⟩)]] #[Value.int IntKind.i64 veh, Value.slice bi ids.length c2]) := C0.out.below hb
  have FL : Hid (IntsAt w1 ad (flatP (prsTo ids.length ids.length))) := hflat
  clear hb ho hflat C0
  have hlen : (prsTo ids.length ids.length).length ≤ 1000 := by
    have h := prsTo_len ids.length ids.length
    have h2 : ids.length * ids.length ≤ 12 * 12 := Nat.mul_le_mul h12 h12
    omega
  go_wp2_with fail
  refine (leastTurn_any ad c w.heap.size (w.heap.size + 1) (prsTo ids.length ids.length) (trB true n zs os vs ko kv veh ids) (trD true n zs os vs ko kv veh ids) w1 FL.out hlen (fun W i j hW => ?_) (fun i j => (trD_bd (caseB_parts HC.out).1 os vs ko kv veh ids i j).1) s0 HS0.out).mono ?_
  · have hB := C1.out.b.trans (hW.mono C1.out.b.size)
    exact bestOne_any n fine veh a ao av bi cap ko co kv cv c2 zs os vs ids W (HA.out.below hB) (HO.out.below hB) (HV.out.below hB) (HI.out.below hB) HLO.out HLV.out hko hkv hli hc2 HC.out pc w.heap.size (w.heap.size + 1) (below_row hB (row_lt PC.out) PC.out) (below_row hW (row_lt C1.out.2.1) C1.out.2.1) (below_row hW (row_lt C1.out.2.2.1) C1.out.2.2.1) i j
  rintro e w2 ⟨rfl, hb⟩
  have C2 : Hid (MB w w2 #[Value.func (.func 73) #[] #[], Value.func (.func 74) #[] #[.pointer (some ⟨pc, 0, none⟩)]] #[Value.int IntKind.i64 veh, Value.slice bi ids.length c2]) := C1.out.below hb
  clear hb C1 FL
  obtain ⟨sf, si, sj, sv⟩ := s0
  simp only
  obtain ⟨t0, t1⟩ := cells2 C2.out.2.2.2
  have tf := fun i => frozen_of_row _ _ i _ _ C2.out.2.2.2
  go_wp2
  refine bodyPost_ret (v := .tuple #[.agg #[.int .i64 si, .int .i64 sj], .int .i64 sv, .bool sf]) (by simp [results, Try.results51, go_sem, t0, t1]) rfl ⟨rfl, ?_⟩
  repeat (first | with_reducible exact C2.out.b | refine Below.setCell ?_ (by simp <;> omega) _)

end Go.Proofs.Ytplefpmchhcfcaa
