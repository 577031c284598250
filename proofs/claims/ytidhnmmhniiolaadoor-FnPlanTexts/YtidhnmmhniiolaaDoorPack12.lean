import Derived.Test.YtidhnmmhniiolaaDoorPack9
import Derived.Test.YtidhnmmhniiolaaDoorSpecSched
namespace Go.Proofs.YtidhnmmhniiolaaDoor
open Go.RowKit

theorem CRR.grown {w W W' : World} {cs rs ts : Array Value} {row : Option Nat} (h : CRR w W cs rs ts) (hg : W.grownBy W' row) (hlt : ∀ g, row = some g → w.heap.size + 2 < g) : CRR w W' cs rs ts :=
  ⟨⟨h.1.1.grown hg h.1.1.size (fun k e => by have := hlt k e; omega), (hg.block _ (row_lt h.1.2.1) (fun e => by have := hlt _ e.symm; omega)).trans h.1.2.1, (hg.block _ (row_lt h.1.2.2) (fun e => by have := hlt _ e.symm; omega)).trans h.1.2.2⟩, (hg.block _ (row_lt h.2) (fun e => by have := hlt _ e.symm; omega)).trans h.2⟩
theorem CRR.put {w W : World} {cs rs ts : Array Value} (h : CRR w W cs rs ts) {k i : Nat} {v : Value} (hk : w.heap.size + 2 < k) : CRR w (W.setCell ⟨k, i, none⟩ v) cs rs ts :=
  ⟨h.1.set (by omega), row_set' h.2 (by omega)⟩
theorem CRR.drew {w W : World} {cs rs ts : Array Value} (h : CRR w W cs rs ts) : CRR w W.drew cs rs ts := h.below (Below.refl _ _).drew

/-- A case, a route, the answer's box, and the box at ko of a new route whose stops are of the call's own (blocks from B on). -/
def OX (w W : World) (B ko : Nat) (cs rs ts : Array Value) (veh : Int) (sl : Value) (ys : List Int) : Prop :=
  CRR w W cs rs ts ∧ W.heap[ko]? = some (.cells #[.int .i64 veh, sl] 49 (0, 0)) ∧ B ≤ ko ∧ w.heap.size + 2 < B ∧ W.ownsRow B 2 1 sl ys.length (ys.map (Value.int .i64))
theorem OX.c {w W : World} {B ko : Nat} {cs rs ts : Array Value} {veh : Int} {sl : Value} {ys : List Int} (h : OX w W B ko cs rs ts veh sl ys) : CRR w W cs rs ts := h.1
theorem OX.b {w W : World} {B ko : Nat} {cs rs ts : Array Value} {veh : Int} {sl : Value} {ys : List Int} (h : OX w W B ko cs rs ts veh sl ys) : Below w.heap.size w W := h.1.1.1
theorem OX.o {w W : World} {B ko : Nat} {cs rs ts : Array Value} {veh : Int} {sl : Value} {ys : List Int} (h : OX w W B ko cs rs ts veh sl ys) : W.ownsRow B 2 1 sl ys.length (ys.map (Value.int .i64)) := h.2.2.2.2
theorem OX.below {w W W' : World} {B ko : Nat} {cs rs ts : Array Value} {veh : Int} {sl : Value} {ys : List Int} (h : OX w W B ko cs rs ts veh sl ys) (hb : Below W.heap.size W W') : OX w W' B ko cs rs ts veh sl ys :=
  ⟨h.1.below hb, below_row hb (row_lt h.2.1) h.2.1, h.2.2.1, h.2.2.2.1, owns_below h.2.2.2.2 hb⟩
theorem OX.drew {w W : World} {B ko : Nat} {cs rs ts : Array Value} {veh : Int} {sl : Value} {ys : List Int} (h : OX w W B ko cs rs ts veh sl ys) : OX w W.drew B ko cs rs ts veh sl ys := h.below (Below.refl _ _).drew
theorem own_ne {w : World} {base k ko : Nat} {v : Value} {size : Nat} {xs : List Value} {cs : Array Value} (h : w.ownsRow base 2 size v k xs) (hk : w.heap[ko]? = some (.cells cs 49 (0, 0))) : v.ownBlock ≠ some ko := by
  intro e
  obtain ⟨_, ⟨rfl, _⟩ | ⟨g, cap, cur, rfl, _, h4, _⟩⟩ := h
  · cases e
  · have : g = ko := by simpa [Value.ownBlock] using e
    subst this
    rw [h4] at hk
    simp at hk
/-- The append, done. -/
theorem OX.grow {w W W' : World} {B ko : Nat} {cs rs ts : Array Value} {veh : Int} {sl sl' : Value} {ys ys' : List Int} (h : OX w W B ko cs rs ts veh sl ys) (hg : W.grownBy W' sl.ownBlock) (ho : W'.ownsRow B 2 1 sl' ys'.length (ys'.map (Value.int .i64))) :
    OX w ((W'.setCell ⟨ko, 1, none⟩ sl')) B ko cs rs ts veh sl' ys' := by
  have hk : W'.heap[ko]? = some (.cells #[.int .i64 veh, sl] 49 (0, 0)) := (hg.block _ (row_lt h.2.1) (fun e => own_ne h.2.2.2.2 h.2.1 e.symm)).trans h.2.1
  refine ⟨(h.1.grown hg (fun g e => ?_)).put ?_, ?_, h.2.2.1, h.2.2.2.1, ?_⟩
  · have := (h.2.2.2.2.lt g e).1; have := h.2.2.2.1; omega
  · have := h.2.2.1; have := h.2.2.2.1; omega
  · have := heap_setCell_same W' ko 1 _ _ sl' hk
    simpa using this
  · exact ownsRow_setCell_other ho (own_ne ho hk) sl'
theorem own0a (w1 : World) : ((w1.alloc (.cells #[] 2)).drew).ownsRow w1.heap.size 2 1 (.slice (some ⟨w1.heap.size, 0, none⟩) 0 0) 0 (([] : List Int).map (Value.int .i64)) :=
  owns_below (World.ownsRow_made w1 #[] 0 (Nat.le_refl _) (by unfold maxLen; omega) (by simp)) (Below.refl _ _).drew
theorem own0b (w1 : World) (o : Obj) : (((w1.alloc (.cells #[] 2)).alloc o).drew).ownsRow w1.heap.size 2 1 (.slice (some ⟨w1.heap.size, 0, none⟩) 0 0) 0 (([] : List Int).map (Value.int .i64)) :=
  owns_below (World.ownsRow_made w1 #[] 0 (Nat.le_refl _) (by unfold maxLen; omega) (by simp)) ((Below.refl _ _).alloc (Nat.le_refl _) _).drew
theorem own0c (w1 : World) (o : Obj) : (((w1.alloc o).alloc (.cells #[] 2)).drew).ownsRow w1.heap.size 2 1 (.slice (some ⟨w1.heap.size + 1, 0, none⟩) 0 0) 0 (([] : List Int).map (Value.int .i64)) := by
  have := owns_below (World.ownsRow_made (base := w1.heap.size) (e := 2) (size := 1) (w1.alloc o) #[] 0 (by simp) (by unfold maxLen; omega) (by simp)) (Below.refl _ _).drew
  simpa using this
theorem alloc_size (w1 : World) (o : Obj) : (w1.alloc o).heap.size = w1.heap.size + 1 := by simp
theorem OX.newa {w w1 w' : World} {cs rs ts : Array Value} {veh : Int} {sl : Value} {ys : List Int} {o : Obj} (h : CRR w w1 cs rs ts) (hg : ((w1.alloc o).drew).grownBy w' (some w1.heap.size)) (ho : w'.ownsRow w1.heap.size 2 1 sl ys.length (ys.map (Value.int .i64))) :
    OX w (w'.alloc (.cells #[.int .i64 veh, sl] 49)) w1.heap.size w'.heap.size cs rs ts veh sl ys :=
  ⟨(((h.alloc o).drew).grown hg (fun g e => by cases e; exact h.big)).alloc _, heap_alloc_new _ _, by have := hg.size; have e := alloc_size w1 o; have : (w1.alloc o).drew.heap.size = w1.heap.size + 1 := e; omega, h.big, ho.alloc _⟩
theorem OX.newb {w w1 w' : World} {cs rs ts : Array Value} {veh : Int} {sl z0 z1 : Value} {ys : List Int} {o : Obj} (h : CRR w w1 cs rs ts) (hg : (((w1.alloc o).alloc (.cells #[z0, z1] 49)).drew).grownBy w' (some w1.heap.size)) (ho : w'.ownsRow w1.heap.size 2 1 sl ys.length (ys.map (Value.int .i64))) :
    OX w ((w'.setCell ⟨w1.heap.size + 1, 0, none⟩ (.int .i64 veh)).setCell ⟨w1.heap.size + 1, 1, none⟩ sl) w1.heap.size (w1.heap.size + 1) cs rs ts veh sl ys := by
  have hk0 : (((w1.alloc o).alloc (.cells #[z0, z1] 49)).drew).heap[w1.heap.size + 1]? = some (.cells #[z0, z1] 49 (0, 0)) := by
    have := heap_alloc_new (w1.alloc o) (.cells #[z0, z1] 49)
    rw [alloc_size] at this
    exact this
  have hk : w'.heap[w1.heap.size + 1]? = some (.cells #[z0, z1] 49 (0, 0)) := (hg.block _ (row_lt hk0) (fun e => by simp at e)).trans hk0
  have hb := h.big
  have s1 := heap_setCell_same w' (w1.heap.size + 1) 0 _ _ (.int .i64 veh) hk
  have s2 := heap_setCell_same _ (w1.heap.size + 1) 1 _ _ sl s1
  refine ⟨((((h.alloc o).alloc _).drew.grown hg (fun g e => by cases e; exact hb)).put (by omega)).put (by omega), by simpa using s2, by omega, hb, ?_⟩
  exact ownsRow_setCell_other (ownsRow_setCell_other ho (own_ne ho hk) _) (own_ne ho hk) _
theorem OX.newc {w w1 w' : World} {cs rs ts : Array Value} {veh : Int} {sl z0 z1 : Value} {ys : List Int} {o : Obj} (h : CRR w w1 cs rs ts) (hg : (((w1.alloc (.cells #[z0, z1] 49)).alloc o).drew).grownBy w' (some (w1.heap.size + 1))) (ho : w'.ownsRow w1.heap.size 2 1 sl ys.length (ys.map (Value.int .i64))) :
    OX w ((w'.setCell ⟨w1.heap.size, 0, none⟩ (.int .i64 veh)).setCell ⟨w1.heap.size, 1, none⟩ sl) w1.heap.size w1.heap.size cs rs ts veh sl ys := by
  have hk0 : (((w1.alloc (.cells #[z0, z1] 49)).alloc o).drew).heap[w1.heap.size]? = some (.cells #[z0, z1] 49 (0, 0)) := heap_alloc2_old _ _ _
  have hk : w'.heap[w1.heap.size]? = some (.cells #[z0, z1] 49 (0, 0)) := (hg.block _ (row_lt hk0) (fun e => by simp at e)).trans hk0
  have hb := h.big
  have s1 := heap_setCell_same w' w1.heap.size 0 _ _ (.int .i64 veh) hk
  have s2 := heap_setCell_same _ w1.heap.size 1 _ _ sl s1
  refine ⟨((((h.alloc _).alloc o).drew.grown hg (fun g e => by cases e; omega)).put (by omega)).put (by omega), by simpa using s2, by omega, hb, ?_⟩
  exact ownsRow_setCell_other (ownsRow_setCell_other ho (own_ne ho hk) _) (own_ne ho hk) _

theorem rowb {w1 w2 : World} {o : Obj} {cs : Array Value} {T : TypeId} (hg : (((w1.alloc o).alloc (.cells cs T)).drew).grownBy w2 (some w1.heap.size)) : w2.heap[w1.heap.size + 1]? = some (.cells cs T (0, 0)) := by
  have hk0 : (((w1.alloc o).alloc (.cells cs T)).drew).heap[w1.heap.size + 1]? = some (.cells cs T (0, 0)) := by
    have := heap_alloc_new (w1.alloc o) (.cells cs T)
    rw [alloc_size] at this
    exact this
  exact (hg.block _ (row_lt hk0) (fun e => by simp at e)).trans hk0
theorem rowc {w1 w2 : World} {o : Obj} {cs : Array Value} {T : TypeId} (hg : (((w1.alloc (.cells cs T)).alloc o).drew).grownBy w2 (some (w1.heap.size + 1))) : w2.heap[w1.heap.size]? = some (.cells cs T (0, 0)) := by
  have hk0 : (((w1.alloc (.cells cs T)).alloc o).drew).heap[w1.heap.size]? = some (.cells cs T (0, 0)) := heap_alloc2_old _ _ _
  exact (hg.block _ (row_lt hk0) (fun e => by simp at e)).trans hk0
theorem own_len {w : World} {base n : Nat} {v : Value} {e : TypeId} {xs : List Int} (h : w.ownsRow base e 1 v (0 + n) (([] ++ xs).map (Value.int .i64))) (hl : xs.length = n) : w.ownsRow base e 1 v xs.length (xs.map (Value.int .i64)) := by
  rw [Nat.zero_add] at h
  rw [hl]
  exact h
theorem own_len2 {w : World} {base n m : Nat} {v : Value} {e : TypeId} {xs ys : List Int} (h : w.ownsRow base e 1 v (n + m) ((xs ++ ys).map (Value.int .i64))) (hx : xs.length = n) (hy : ys.length = m) : w.ownsRow base e 1 v (xs ++ ys).length ((xs ++ ys).map (Value.int .i64)) := by
  rw [List.length_append, hx, hy]
  exact h
theorem own_k {w : World} {base n : Nat} {v : Value} {e : TypeId} {xs : List Int} (h : w.ownsRow base e 1 v xs.length (xs.map (Value.int .i64))) (hl : xs.length = n) : w.ownsRow base e 1 v n (xs.map (Value.int .i64)) := by
  rw [← hl]
  exact h
theorem own_bd {w : World} {base k g c : Nat} {e : TypeId} {size : Nat} {xs : List Value} (h : w.ownsRow base e size (.slice (some ⟨g, 0, none⟩) k c) k xs) : k ≤ c ∧ k ≤ 9223372036854775807 := by
  obtain ⟨_, ⟨h1, _⟩ | ⟨g', cap, cur, h2, _, _, h5, h6, _⟩⟩ := h
  · cases h1
  · simp at h2
    obtain ⟨rfl, rfl⟩ := h2
    unfold maxLen at h6
    exact ⟨h5, by omega⟩
theorem rc_of {c : Bool} {n : Int} {zs os vs : List Int} {ko kv : Nat} {veh : Int} {ids : List Int} (h : codeV c n zs os vs ko kv veh ids = 0) : rcV n zs os vs ko kv veh ids = rideV n zs (rosOf os ko ids) ids.length (fnd5F vs kv veh 1) := by
  have hc := code_case h
  rw [hc] at h
  exact rcV_yes h
theorem chD_yes {ch c : Bool} {n : Int} {zs os vs : List Int} {ko kv : Nat} {veh : Int} {ids ids' : List Int} (h : ch = true) (h1 : codeV c n zs os vs ko kv veh ids = 0) (h2 : codeV c n zs os vs ko kv veh ids' = 0) :
    chD ch n zs os vs ko kv veh ids ids' = rideV n zs (rosOf os ko ids') ids'.length (fnd5F vs kv veh 1) - rideV n zs (rosOf os ko ids) ids.length (fnd5F vs kv veh 1) := by
  subst h
  unfold chD
  rw [if_pos rfl, rc_of h1, rc_of h2]
theorem keepB {w1 X : World} {b o : Nat} {v : Value} (hc : w1.cell? ⟨b, o, none⟩ = some v) (hb : Below w1.heap.size w1 X) : X.cell? ⟨b, o, none⟩ = some v := by
  rw [hb.cell (p := ⟨b, o, none⟩) (block_lt_of_cell hc)]; exact hc
theorem ints_take {W : World} {a : Option Addr} {ids : List Int} (h : IntsAt W a ids) (i : Nat) : IntsAt W a (ids.take i) := by
  intro j hj
  simp at hj
  obtain ⟨b, off, e, hc⟩ := h j (by omega)
  refine ⟨b, off, e, hc.trans ?_⟩
  simp only [List.getD, List.getElem?_take]
  rw [if_pos (by omega)]
theorem ints_drop {W : World} {b off : Nat} {ids : List Int} (h : IntsAt W (some ⟨b, off, none⟩) ids) (i : Nat) : IntsAt W (some ⟨b, off + i, none⟩) (ids.drop i) := by
  intro j hj
  simp at hj
  obtain ⟨b', off', e, hc⟩ := h (i + j) (by omega)
  simp at e
  obtain ⟨rfl, rfl⟩ := e
  refine ⟨b, off + i, rfl, ?_⟩
  rw [Nat.add_assoc, hc]
  simp [List.getD, List.getElem?_drop]
theorem ints_cut {W : World} {b off : Nat} {ids : List Int} (h : IntsAt W (some ⟨b, off, none⟩) ids) (i c2 : Nat) (hc : ids.length ≤ c2) : IntsAt W (if c2 = i then some ⟨b, off, none⟩ else some ⟨b, off + i, none⟩) (ids.drop i) := by
  by_cases e : c2 = i
  · rw [if_pos e, List.drop_eq_nil_of_le (by omega)]
    intro j hj
    simp at hj
  · rw [if_neg e]
    exact ints_drop h i
theorem cut_some (b off i c2 : Nat) : ∃ b' off', (if c2 = i then some (⟨b, off, none⟩ : Addr) else some ⟨b, off + i, none⟩) = some ⟨b', off', none⟩ := by
  split
  · exact ⟨_, _, rfl⟩
  · exact ⟨_, _, rfl⟩
theorem OX.keep {w W W' : World} {B ko : Nat} {cs ts : Array Value} {r0 r1 : Value} {veh : Int} {sl : Value} {ys : List Int} (h : OX w W B ko cs #[r0, r1] ts veh sl ys) (hg : W.grownBy W' sl.ownBlock) :
    W'.cell? ⟨w.heap.size + 1, 1, none⟩ = some r1 ∧ W'.cell? ⟨ko, 1, none⟩ = some sl ∧ (∀ i, W'.frozen? ⟨ko, i, none⟩ = false) := by
  have hk : W'.heap[ko]? = some (.cells #[.int .i64 veh, sl] 49 (0, 0)) := (hg.block _ (row_lt h.2.1) (fun e => own_ne h.2.2.2.2 h.2.1 e.symm)).trans h.2.1
  have hc := (h.1.grown hg (fun g e => by have := (h.2.2.2.2.lt g e).1; have := h.2.2.2.1; omega)).1.2.2
  exact ⟨(cells2 hc).2, (cells2 hk).2, fun i => frozen_of_row _ _ i _ _ hk⟩
theorem OX.size {w W : World} {B ko : Nat} {cs rs ts : Array Value} {veh : Int} {sl : Value} {ys : List Int} (h : OX w W B ko cs rs ts veh sl ys) : B ≤ W.heap.size := by
  have := h.2.2.1
  have := row_lt h.2.1
  omega
theorem ox9 {w W : World} {B ko : Nat} {c0 c1 c2 c3 c4 r0 r1 : Value} {ts : Array Value} {veh : Int} {sl : Value} {ys : List Int} (h : OX w W B ko #[c0, c1, c2, c3, c4] #[r0, r1] ts veh sl ys) :
    W.cell? ⟨w.heap.size, 0, none⟩ = some c0 ∧ W.cell? ⟨w.heap.size, 1, none⟩ = some c1 ∧ W.cell? ⟨w.heap.size, 2, none⟩ = some c2 ∧ W.cell? ⟨w.heap.size, 3, none⟩ = some c3 ∧ W.cell? ⟨w.heap.size, 4, none⟩ = some c4 ∧ W.cell? ⟨w.heap.size + 1, 0, none⟩ = some r0 ∧ W.cell? ⟨w.heap.size + 1, 1, none⟩ = some r1 ∧ W.cell? ⟨ko, 0, none⟩ = some (.int .i64 veh) ∧ W.cell? ⟨ko, 1, none⟩ = some sl := by
  obtain ⟨k0, k1, k2, k3, k4⟩ := cells5 h.1.1.2.1
  obtain ⟨k5, k6⟩ := cells2 h.1.1.2.2
  obtain ⟨k7, k8⟩ := cells2 h.2.1
  exact ⟨k0, k1, k2, k3, k4, k5, k6, k7, k8⟩
theorem ox9s {w W : World} {B ko : Nat} {c0 c1 c2 c3 c4 r0 r1 : Value} {ts : Array Value} {veh : Int} {sl : Value} {ys : List Int} (h : OX w W B ko #[c0, c1, c2, c3, c4] #[r0, r1] ts veh sl ys) (u1 u2 : Value) :
    (fun X : World => X.cell? ⟨w.heap.size, 0, none⟩ = some c0 ∧ X.cell? ⟨w.heap.size, 1, none⟩ = some c1 ∧ X.cell? ⟨w.heap.size, 2, none⟩ = some c2 ∧ X.cell? ⟨w.heap.size, 3, none⟩ = some c3 ∧ X.cell? ⟨w.heap.size, 4, none⟩ = some c4 ∧ X.cell? ⟨w.heap.size + 1, 0, none⟩ = some r0 ∧ X.cell? ⟨w.heap.size + 1, 1, none⟩ = some r1 ∧ X.cell? ⟨ko, 0, none⟩ = some (.int .i64 veh) ∧ X.cell? ⟨ko, 1, none⟩ = some sl) ((W.setCell ⟨w.heap.size + 1 + 1, 0, none⟩ u1).setCell ⟨w.heap.size + 1 + 1, 1, none⟩ u2) := by
  have hc := h.1.set u1 u2
  obtain ⟨k0, k1, k2, k3, k4, k5, k6⟩ := cr7 hc
  obtain ⟨k7, k8⟩ := cells2 h.2.1
  have hne : ko ≠ w.heap.size + 1 + 1 := by have := h.2.2.1; have := h.2.2.2.1; omega
  exact ⟨k0, k1, k2, k3, k4, k5, k6, keep_set (keep_set k7 hne) hne, keep_set (keep_set k8 hne) hne⟩
theorem own_sh {w : World} {base k n : Nat} {v : Value} {e : TypeId} {size : Nat} {xs : List Value} (h : w.ownsRow base e size v k xs) (hne : v ≠ .slice none 0 0) (hk : k = n) : ∃ g c, v = .slice (some ⟨g, 0, none⟩) n c := by
  subst hk
  rcases own_shape h with h1 | h1
  · exact absurd h1 hne
  · exact h1
theorem grown_keep2 {w W w2 : World} {row : Option Nat} {cs ts : Array Value} {r0 r1 : Value} (hg : W.grownBy w2 row) (h : CRR w W cs #[r0, r1] ts) (hr : ∀ g, row = some g → w.heap.size + 2 < g) : w2.cell? ⟨w.heap.size + 1, 0, none⟩ = some r0 ∧ w2.cell? ⟨w.heap.size + 1, 1, none⟩ = some r1 := cells2 (h.grown hg hr).1.2.2

end Go.Proofs.YtidhnmmhniiolaaDoor

namespace Go.Proofs.YtidhnmmhniiolaaDoor
open Go.RowKit

set_option maxHeartbeats 1000000 in
theorem l3Ok_any (n fine veh : Int) (a ao av bi : Option Addr) (cap ko co kv cv c2 : Nat) (zs os vs ids : List Int) (w : World) (hA : IntsAt w a zs) (hO : IntsAt w ao os) (hV : IntsAt w av vs) (hI : IntsAt w bi ids) (hlo : os.length = ko * 6) (hlv : vs.length = kv * 5) (hko : ko ≤ 9223372036854775807) (hkv : kv ≤ 9223372036854775807) (hli : ids.length ≤ 9223372036854775807) (hc2 : ids.length ≤ c2) (v : Bool) (hv : decide (codeV (caseB n zs os vs ko kv fine) n zs os vs ko kv veh ids = 0) = v) :
    Calls Tryd.prog 59 #[.agg #[.int .i64 n, .slice a zs.length cap, .slice ao ko co, .slice av kv cv, .int .i64 fine], .agg #[.int .i64 veh, .slice bi ids.length c2]] w fun e w' => e = .returned (.bool v) ∧ Below w.heap.size w w' := by
  have HA : Hid (IntsAt w a zs) := hA
  have HO : Hid (IntsAt w ao os) := hO
  have HV : Hid (IntsAt w av vs) := hV
  have HI : Hid (IntsAt w bi ids) := hI
  have HLO : Hid _ := hlo
  have HLV : Hid _ := hlv
  clear hA hO hV hI hlo hlv
  have HVV : Hid (decide (codeV (caseB n zs os vs ko kv fine) n zs os vs ko kv veh ids = 0) = v) := hv
  clear hv
  have HC0 : Hid (CR w ((w.alloc (.cells #[Value.int IntKind.i64 n, Value.slice a zs.length cap, Value.slice ao ko co, Value.slice av kv cv, Value.int IntKind.i64 fine] 42)).alloc (.cells #[Value.int IntKind.i64 veh, Value.slice bi ids.length c2] 49)) _ _) := CR.new w _ _
  go_enter Tryd.func59, Tryd.ntmps59
  obtain ⟨c0, c1, c2', c3, c4⟩ := cells5 HC0.out.2.1
  obtain ⟨d0, d1⟩ := cells2 HC0.out.2.2
  go_wp2_with fail
  clear c0 c1 c2' c3 c4 d0 d1
  refine (specSchedule_any n fine veh a ao av bi cap ko co kv cv c2 zs os vs ids _ (HA.out.below HC0.out.1) (HO.out.below HC0.out.1) (HV.out.below HC0.out.1) (HI.out.below HC0.out.1) HLO.out HLV.out hko hkv hli hc2).mono ?_
  rintro e w2 ⟨hb, ⟨hf, rfl⟩ | ⟨hf, g, c, _, rfl, _⟩⟩
  · have HB2 : Hid (Below w.heap.size w w2) := HC0.out.1.trans (hb.mono HC0.out.1.size)
    have HVF : Hid (v = false) := HVV.out.symm.trans (decide_eq_false hf)
    generalize codeV (caseB n zs os vs ko kv fine) n zs os vs ko kv veh ids = r at *
    have hfb : (r == 0) = false := by simp [hf]
    clear hb hf HC0 HVV
    go_wp2
    go_ret
    exact ⟨ret_bool HVF.out.symm, HB2.out⟩
  · have HB2 : Hid (Below w.heap.size w w2) := HC0.out.1.trans (hb.mono HC0.out.1.size)
    have HVF : Hid (v = true) := HVV.out.symm.trans (decide_eq_true hf)
    clear hb hf HC0 HVV
    generalize homeV n zs (rosOf os ko ids) ids.length (fnd5F vs kv veh 1) (fnd5F vs kv veh 3) = hm
    go_wp2
    go_ret
    exact ⟨ret_bool HVF.out.symm, HB2.out⟩

end Go.Proofs.YtidhnmmhniiolaaDoor

namespace Go.Proofs.YtidhnmmhniiolaaDoor
open Go.RowKit

set_option maxHeartbeats 1000000 in
theorem l3Cost_any (n fine veh : Int) (a ao av bi : Option Addr) (cap ko co kv cv c2 : Nat) (zs os vs ids : List Int) (w : World) (hA : IntsAt w a zs) (hO : IntsAt w ao os) (hV : IntsAt w av vs) (hI : IntsAt w bi ids) (hlo : os.length = ko * 6) (hlv : vs.length = kv * 5) (hko : ko ≤ 9223372036854775807) (hkv : kv ≤ 9223372036854775807) (hli : ids.length ≤ 9223372036854775807) (hcode : codeV (caseB n zs os vs ko kv fine) n zs os vs ko kv veh ids = 0) :
    Calls Tryd.prog 60 #[.agg #[.int .i64 n, .slice a zs.length cap, .slice ao ko co, .slice av kv cv, .int .i64 fine], .agg #[.int .i64 veh, .slice bi ids.length c2]] w fun e w' => e = .returned (.int .i64 (rideV n zs (rosOf os ko ids) ids.length (fnd5F vs kv veh 1))) ∧ Below w.heap.size w w' := by
  have HA : Hid (IntsAt w a zs) := hA
  have HO : Hid (IntsAt w ao os) := hO
  have HV : Hid (IntsAt w av vs) := hV
  have HI : Hid (IntsAt w bi ids) := hI
  have HLO : Hid _ := hlo
  have HLV : Hid _ := hlv
  clear hA hO hV hI hlo hlv
  have HC0 : Hid (CR w ((w.alloc (.cells #[Value.int IntKind.i64 n, Value.slice a zs.length cap, Value.slice ao ko co, Value.slice av kv cv, Value.int IntKind.i64 fine] 42)).alloc (.cells #[Value.int IntKind.i64 veh, Value.slice bi ids.length c2] 49)) _ _) := CR.new w _ _
  obtain ⟨hcb, _, hstB⟩ := formV_zero (codeV_zero hcode).1
  obtain ⟨hmat, hords, hvehs, hn1, _⟩ := caseB_parts hcb
  have hvb := fnd5F_bd hvehs hn1 veh
  have HMAT : Hid (matB n zs = true) := hmat
  have HOB : Hid (ordsB n os ko = true) := hords
  have HN1 : Hid (1 ≤ n) := hn1
  have h12 := (stopsB_true hstB).1
  clear hmat hords hvehs hn1 hcb hstB hcode
  obtain ⟨r, HV1⟩ : ∃ r, Hid (rideV n zs (rosOf os ko ids) ids.length (fnd5F vs kv veh 1) = r) := ⟨_, rfl⟩
  rw [HV1.out]
  go_enter Tryd.func60, Tryd.ntmps60
  obtain ⟨c0, c1, c2', c3, c4⟩ := cells5 HC0.out.2.1
  obtain ⟨d0, d1⟩ := cells2 HC0.out.2.2
  go_wp2_with fail
  clear c0 c1 c2' c3 c4 d0 d1
  refine (l2Car_any n fine veh a ao av _ cap ko co kv cv vs _ (HV.out.below HC0.out.1) HLV.out hkv).mono ?_
  rintro e w2 ⟨rfl, hb⟩
  obtain ⟨v0, G0⟩ : ∃ t, Hid (fnd5F vs kv veh 0 = t) := ⟨_, rfl⟩
  obtain ⟨v1, G1⟩ : ∃ t, Hid (fnd5F vs kv veh 1 = t) := ⟨_, rfl⟩
  obtain ⟨v2, G2⟩ : ∃ t, Hid (fnd5F vs kv veh 2 = t) := ⟨_, rfl⟩
  obtain ⟨v3, G3⟩ : ∃ t, Hid (fnd5F vs kv veh 3 = t) := ⟨_, rfl⟩
  obtain ⟨v4, G4⟩ : ∃ t, Hid (fnd5F vs kv veh 4 = t) := ⟨_, rfl⟩
  rw [G1.out, G2.out, G3.out, G4.out] at hvb
  rw [G1.out] at HV1
  rw [G0.out, G1.out, G2.out, G3.out, G4.out]
  generalize fnd5T vs kv veh = tv
  have HX1 : Hid (0 ≤ v1 ∧ v1 < n) := hvb.1
  clear hvb
  have C3 : Hid (CR w (w2.alloc (Obj.cells #[Value.int IntKind.i64 v0, Value.int IntKind.i64 v1, Value.int IntKind.i64 v2, Value.int IntKind.i64 v3, Value.int IntKind.i64 v4] 71)) _ _) := CR.alloc (HC0.out.below hb) _
  have RV3 : Hid ((w2.alloc (Obj.cells #[Value.int IntKind.i64 v0, Value.int IntKind.i64 v1, Value.int IntKind.i64 v2, Value.int IntKind.i64 v3, Value.int IntKind.i64 v4] 71)).heap[w2.heap.size]? = _) := heap_alloc_new _ _
  clear hb HC0
  obtain ⟨q0, q1, q2, q3, q4⟩ := cells5 RV3.out
  go_wp2_with fail
  clear q0 q1 q2 q3 q4
  generalize w2.alloc (Obj.cells #[Value.int IntKind.i64 v0, Value.int IntKind.i64 v1, Value.int IntKind.i64 v2, Value.int IntKind.i64 v3, Value.int IntKind.i64 v4] 71) = W2 at *
  generalize w2.heap.size = gv at *
  have HBD : Hid (RosBd n (rosOf os ko ids) ids.length) := rosBd_of HOB.out HN1.out ids
  go_loopw [7, 8, 9] (fun pl sm t wr => ∃ k : Nat, k ≤ ids.length ∧ t = .int .i64 k ∧ pl = .int .i64 (plc (rosOf os ko ids) v1 k) ∧ sm = .int .i64 (costTo n zs (rosOf os ko ids) v1 k) ∧ CR w wr #[Value.int IntKind.i64 n, Value.slice a zs.length cap, Value.slice ao ko co, Value.slice av kv cv, Value.int IntKind.i64 fine] #[Value.int IntKind.i64 veh, Value.slice bi ids.length c2] ∧ wr.heap[gv]? = some (.cells #[Value.int IntKind.i64 v0, Value.int IntKind.i64 v1, Value.int IntKind.i64 v2, Value.int IntKind.i64 v3, Value.int IntKind.i64 v4] 71 (0, 0))) (fun _ _ t _ => ids.length - (intOf t).toNat)
  case atStart => exact ⟨0, Nat.zero_le _, rfl, rfl, rfl, C3.out, RV3.out⟩
  case round =>
    clear C3 RV3
    obtain ⟨k, hk, rfl, rfl, rfl, hb, hrv⟩ := hrel
    have hpl := plc_bd HBD.out HX1.out.1 HX1.out.2 k hk
    have hcb := costTo_bd (ros := (rosOf os ko ids)) (home := v1) HMAT.out k
    have HB : Hid (CR w wr _ _) := hb
    have HRV : Hid (wr.heap[gv]? = _) := hrv
    obtain ⟨c0, c1, c2', c3, c4⟩ := cells5 hb.2.1
    obtain ⟨d0, d1⟩ := cells2 hb.2.2
    obtain ⟨p, HPL⟩ : ∃ t, Hid (plc (rosOf os ko ids) v1 k = t) := ⟨_, rfl⟩
    obtain ⟨f, HFR⟩ : ∃ t, Hid (costTo n zs (rosOf os ko ids) v1 k = t) := ⟨_, rfl⟩
    rw [HPL.out] at hpl
    rw [HFR.out] at hcb
    rw [HPL.out, HFR.out]
    have HPB : Hid (0 ≤ p ∧ p < n) := hpl
    clear hb hrv hpl
    by_cases hlt : k < ids.length
    · obtain ⟨b, off, rfl, hcs⟩ := IntsAt.some (IntsAt.below HI.out HB.out.1) hlt
      have ct := hcs k hlt
      clear hcs
      obtain ⟨id, HID⟩ : ∃ i, Hid (ids.getD k 0 = i) := ⟨_, rfl⟩
      rw [HID.out] at ct
      have HO1 := (fnd6F_bd HOB.out HN1.out id).1
      obtain ⟨o0, H0⟩ : ∃ t, Hid (fnd6F os ko id 0 = t) := ⟨_, rfl⟩
      obtain ⟨o1, H1⟩ : ∃ t, Hid (fnd6F os ko id 1 = t) := ⟨_, rfl⟩
      obtain ⟨o2, H2⟩ : ∃ t, Hid (fnd6F os ko id 2 = t) := ⟨_, rfl⟩
      obtain ⟨o3, H3⟩ : ∃ t, Hid (fnd6F os ko id 3 = t) := ⟨_, rfl⟩
      obtain ⟨o4, H4⟩ : ∃ t, Hid (fnd6F os ko id 4 = t) := ⟨_, rfl⟩
      obtain ⟨o5, H5⟩ : ∃ t, Hid (fnd6F os ko id 5 = t) := ⟨_, rfl⟩
      rw [H1.out] at HO1
      have HO1 : Hid (0 ≤ o1 ∧ o1 < n) := HO1
      obtain ⟨d, HD⟩ : ∃ t, Hid (tmI n zs p o1 = t) := ⟨_, rfl⟩
      have hdb := tmI_bd HMAT.out p o1
      rw [HD.out] at hdb
      have K1 : Hid (og6 (rosOf os ko ids) k 1 = o1) := (rosOf_at os ko ids hlt (by omega)).trans (by rw [HID.out]; exact H1.out)
      have HNX : Hid (costTo n zs (rosOf os ko ids) v1 (k + 1) = f + d) := by
        show _ = _
        simp only [costTo]
        rw [HFR.out, HPL.out, K1.out, HD.out]
      obtain ⟨tt, HTT⟩ : ∃ t, Hid (fnd6T os ko id = t) := ⟨_, rfl⟩
      go_wp2_with fail
      have HCT : Hid (wr.cell? ⟨b, off + k, none⟩ = _) := ct
      have HCA : Hid ((wr.alloc (Obj.cells #[Value.int IntKind.i64 0, Value.int IntKind.i64 0, Value.int IntKind.i64 0, Value.int IntKind.i64 0, Value.int IntKind.i64 0, Value.int IntKind.i64 0] 80)).cell? ⟨b, off + k, none⟩ = _) := (((Below.refl wr.heap.size wr).alloc (Nat.le_refl _) _).cell (p := ⟨b, off + k, none⟩) (block_lt_of_cell ct)).trans ct
      have HVA : Hid ((wr.alloc (Obj.cells #[Value.int IntKind.i64 0, Value.int IntKind.i64 0, Value.int IntKind.i64 0, Value.int IntKind.i64 0, Value.int IntKind.i64 0, Value.int IntKind.i64 0] 80)).heap[gv]? = _) := (heap_alloc_old _ _ (row_lt HRV.out)).trans HRV.out
      have hlb := block_lt_of_cell ct
      simp at hlb
      have hlw := row_lt HB.out.2.1
      have hlr := row_lt HB.out.2.2
      go_region_held3 (fun W => W.cell? ⟨w.heap.size, 0, none⟩ = some (.int .i64 n) ∧ W.cell? ⟨w.heap.size, 1, none⟩ = some (.slice a zs.length cap) ∧ W.cell? ⟨w.heap.size, 2, none⟩ = some (.slice ao ko co) ∧ W.cell? ⟨w.heap.size, 3, none⟩ = some (.slice av kv cv) ∧ W.cell? ⟨w.heap.size, 4, none⟩ = some (.int .i64 fine) ∧ W.cell? ⟨w.heap.size + 1, 1, none⟩ = some (.slice (some ⟨b, off, none⟩) ids.length c2) ∧ W.cell? ⟨b, off + k, none⟩ = some (.int .i64 id)) (first | with_reducible exact kS | with_reducible exact ⟨(keep_set (keep_set (keep_set (keep_set (keep_set (keep_set kS.1 (Nat.ne_of_lt hlw)) (Nat.ne_of_lt hlw)) (Nat.ne_of_lt hlw)) (Nat.ne_of_lt hlw)) (Nat.ne_of_lt hlw)) (Nat.ne_of_lt hlw)), (keep_set (keep_set (keep_set (keep_set (keep_set (keep_set kS.2.1 (Nat.ne_of_lt hlw)) (Nat.ne_of_lt hlw)) (Nat.ne_of_lt hlw)) (Nat.ne_of_lt hlw)) (Nat.ne_of_lt hlw)) (Nat.ne_of_lt hlw)), (keep_set (keep_set (keep_set (keep_set (keep_set (keep_set kS.2.2.1 (Nat.ne_of_lt hlw)) (Nat.ne_of_lt hlw)) (Nat.ne_of_lt hlw)) (Nat.ne_of_lt hlw)) (Nat.ne_of_lt hlw)) (Nat.ne_of_lt hlw)), (keep_set (keep_set (keep_set (keep_set (keep_set (keep_set kS.2.2.2.1 (Nat.ne_of_lt hlw)) (Nat.ne_of_lt hlw)) (Nat.ne_of_lt hlw)) (Nat.ne_of_lt hlw)) (Nat.ne_of_lt hlw)) (Nat.ne_of_lt hlw)), (keep_set (keep_set (keep_set (keep_set (keep_set (keep_set kS.2.2.2.2.1 (Nat.ne_of_lt hlw)) (Nat.ne_of_lt hlw)) (Nat.ne_of_lt hlw)) (Nat.ne_of_lt hlw)) (Nat.ne_of_lt hlw)) (Nat.ne_of_lt hlw)), (keep_set (keep_set (keep_set (keep_set (keep_set (keep_set kS.2.2.2.2.2.1 (Nat.ne_of_lt hlr)) (Nat.ne_of_lt hlr)) (Nat.ne_of_lt hlr)) (Nat.ne_of_lt hlr)) (Nat.ne_of_lt hlr)) (Nat.ne_of_lt hlr)), (keep_set (keep_set (keep_set (keep_set (keep_set (keep_set kS.2.2.2.2.2.2 (Nat.ne_of_lt hlb)) (Nat.ne_of_lt hlb)) (Nat.ne_of_lt hlb)) (Nat.ne_of_lt hlb)) (Nat.ne_of_lt hlb)) (Nat.ne_of_lt hlb))⟩ | go_keep) ((first
        | (go_at_call 77
           with_reducible refine (l2At_any n fine id a ao av _ cap ko co kv cv os wr.drew ?_ HLO.out hko).mono ?_
           · exact HO.out.below HB.out.1.drew
           rintro e w2 ⟨rfl, hb2⟩
           rw [H0.out, H1.out, H2.out, H3.out, H4.out, H5.out, HTT.out]
           have hcr2 := CR.below (CR.drew HB.out) hb2
           obtain ⟨k0, k1, k2, k3, k4⟩ := cells5 hcr2.2.1
           have k5 := (cells2 hcr2.2.2).2
           have k6 := (hb2.cell (p := ⟨b, off + k, none⟩) (block_lt_of_cell HCT.out)).trans HCT.out
           have kS := And.intro k0 (And.intro k1 (And.intro k2 (And.intro k3 (And.intro k4 (And.intro k5 k6)))))
           have CR2 : Hid (CR w w2 _ _) := hcr2
           have RV2 : Hid (w2.heap[gv]? = _) := below_row hb2 (row_lt HRV.out) HRV.out
           clear hb2 hcr2 k0 k1 k2 k3 k4 k5 k6)
        | (go_at_call 77
           with_reducible refine (l2At_any n fine id a ao av _ cap ko co kv cv os (wr.alloc (Obj.cells #[Value.int IntKind.i64 0, Value.int IntKind.i64 0, Value.int IntKind.i64 0, Value.int IntKind.i64 0, Value.int IntKind.i64 0, Value.int IntKind.i64 0] 80)).drew ?_ HLO.out hko).mono ?_
           · exact HO.out.below (CR.alloc HB.out (Obj.cells #[Value.int IntKind.i64 0, Value.int IntKind.i64 0, Value.int IntKind.i64 0, Value.int IntKind.i64 0, Value.int IntKind.i64 0, Value.int IntKind.i64 0] 80)).1.drew
           rintro e w2 ⟨rfl, hb2⟩
           rw [H0.out, H1.out, H2.out, H3.out, H4.out, H5.out, HTT.out]
           have hcr2 := CR.below (CR.drew (CR.alloc HB.out (Obj.cells #[Value.int IntKind.i64 0, Value.int IntKind.i64 0, Value.int IntKind.i64 0, Value.int IntKind.i64 0, Value.int IntKind.i64 0, Value.int IntKind.i64 0] 80))) hb2
           obtain ⟨k0, k1, k2, k3, k4⟩ := cells5 hcr2.2.1
           have k5 := (cells2 hcr2.2.2).2
           have k6 := (hb2.cell (p := ⟨b, off + k, none⟩) (block_lt_of_cell HCA.out)).trans HCA.out
           have kS := And.intro k0 (And.intro k1 (And.intro k2 (And.intro k3 (And.intro k4 (And.intro k5 k6)))))
           have CR2 : Hid (CR w w2 _ _) := hcr2
           have RV2 : Hid (w2.heap[gv]? = _) := below_row hb2 (row_lt HVA.out) HVA.out
           obtain ⟨z0, z1, z2, z3, z4, z5⟩ := cells6 (below_row hb2 (k := wr.heap.size) (by simp) (heap_alloc_new wr (Obj.cells #[Value.int IntKind.i64 0, Value.int IntKind.i64 0, Value.int IntKind.i64 0, Value.int IntKind.i64 0, Value.int IntKind.i64 0, Value.int IntKind.i64 0] 80)))
           have zf := fun i => frozen_of_row _ _ i _ _ (below_row hb2 (k := wr.heap.size) (by simp) (heap_alloc_new wr (Obj.cells #[Value.int IntKind.i64 0, Value.int IntKind.i64 0, Value.int IntKind.i64 0, Value.int IntKind.i64 0, Value.int IntKind.i64 0, Value.int IntKind.i64 0] 80)))
           have RO2 : Hid (w2.heap[wr.heap.size]? = _) := below_row hb2 (k := wr.heap.size) (by simp) (heap_alloc_new wr (Obj.cells #[Value.int IntKind.i64 0, Value.int IntKind.i64 0, Value.int IntKind.i64 0, Value.int IntKind.i64 0, Value.int IntKind.i64 0, Value.int IntKind.i64 0] 80))
           clear hb2 hcr2 k0 k1 k2 k3 k4 k5 k6)))
      all_goals (first
        | (have CRW : Hid (CR w (World.setCell (World.setCell (World.setCell (World.setCell (World.setCell (World.setCell w2 ⟨wr.heap.size, 0, none⟩ (Value.int IntKind.i64 o0)) ⟨wr.heap.size, 1, none⟩ (Value.int IntKind.i64 o1)) ⟨wr.heap.size, 2, none⟩ (Value.int IntKind.i64 o2)) ⟨wr.heap.size, 3, none⟩ (Value.int IntKind.i64 o3)) ⟨wr.heap.size, 4, none⟩ (Value.int IntKind.i64 o4)) ⟨wr.heap.size, 5, none⟩ (Value.int IntKind.i64 o5)) _ _) := CR.set (CR.set (CR.set (CR.set (CR.set (CR.set CR2.out HB.out.big) HB.out.big) HB.out.big) HB.out.big) HB.out.big) HB.out.big
           have RVW : Hid ((World.setCell (World.setCell (World.setCell (World.setCell (World.setCell (World.setCell w2 ⟨wr.heap.size, 0, none⟩ (Value.int IntKind.i64 o0)) ⟨wr.heap.size, 1, none⟩ (Value.int IntKind.i64 o1)) ⟨wr.heap.size, 2, none⟩ (Value.int IntKind.i64 o2)) ⟨wr.heap.size, 3, none⟩ (Value.int IntKind.i64 o3)) ⟨wr.heap.size, 4, none⟩ (Value.int IntKind.i64 o4)) ⟨wr.heap.size, 5, none⟩ (Value.int IntKind.i64 o5)).heap[gv]? = _) := row_set' (row_set' (row_set' (row_set' (row_set' (row_set' RV2.out (Nat.ne_of_lt (row_lt HRV.out))) (Nat.ne_of_lt (row_lt HRV.out))) (Nat.ne_of_lt (row_lt HRV.out))) (Nat.ne_of_lt (row_lt HRV.out))) (Nat.ne_of_lt (row_lt HRV.out))) (Nat.ne_of_lt (row_lt HRV.out))
           have ROW : Hid ((World.setCell (World.setCell (World.setCell (World.setCell (World.setCell (World.setCell w2 ⟨wr.heap.size, 0, none⟩ (Value.int IntKind.i64 o0)) ⟨wr.heap.size, 1, none⟩ (Value.int IntKind.i64 o1)) ⟨wr.heap.size, 2, none⟩ (Value.int IntKind.i64 o2)) ⟨wr.heap.size, 3, none⟩ (Value.int IntKind.i64 o3)) ⟨wr.heap.size, 4, none⟩ (Value.int IntKind.i64 o4)) ⟨wr.heap.size, 5, none⟩ (Value.int IntKind.i64 o5)).heap[wr.heap.size]? = _) := row_set6 RO2.out
           clear kS CR2 RV2 RO2 HCT HCA HVA ct z0 z1 z2 z3 z4 z5 zf
           generalize (World.setCell (World.setCell (World.setCell (World.setCell (World.setCell (World.setCell w2 ⟨wr.heap.size, 0, none⟩ (Value.int IntKind.i64 o0)) ⟨wr.heap.size, 1, none⟩ (Value.int IntKind.i64 o1)) ⟨wr.heap.size, 2, none⟩ (Value.int IntKind.i64 o2)) ⟨wr.heap.size, 3, none⟩ (Value.int IntKind.i64 o3)) ⟨wr.heap.size, 4, none⟩ (Value.int IntKind.i64 o4)) ⟨wr.heap.size, 5, none⟩ (Value.int IntKind.i64 o5)) = W at *
           generalize wr.heap.size = g at *)
        | (have CRW : Hid (CR w (w2.alloc (Obj.cells #[Value.int IntKind.i64 o0, Value.int IntKind.i64 o1, Value.int IntKind.i64 o2, Value.int IntKind.i64 o3, Value.int IntKind.i64 o4, Value.int IntKind.i64 o5] 80)) _ _) := CR.alloc CR2.out _
           have RVW : Hid ((w2.alloc (Obj.cells #[Value.int IntKind.i64 o0, Value.int IntKind.i64 o1, Value.int IntKind.i64 o2, Value.int IntKind.i64 o3, Value.int IntKind.i64 o4, Value.int IntKind.i64 o5] 80)).heap[gv]? = _) := (heap_alloc_old _ _ (row_lt RV2.out)).trans RV2.out
           have ROW : Hid ((w2.alloc (Obj.cells #[Value.int IntKind.i64 o0, Value.int IntKind.i64 o1, Value.int IntKind.i64 o2, Value.int IntKind.i64 o3, Value.int IntKind.i64 o4, Value.int IntKind.i64 o5] 80)).heap[w2.heap.size]? = _) := heap_alloc_new _ _
           clear kS CR2 RV2 HCT HCA HVA ct
           generalize w2.alloc (Obj.cells #[Value.int IntKind.i64 o0, Value.int IntKind.i64 o1, Value.int IntKind.i64 o2, Value.int IntKind.i64 o3, Value.int IntKind.i64 o4, Value.int IntKind.i64 o5] 80) = W at *
           generalize w2.heap.size = g at *))
      all_goals
        clear c0 c1 c2' c3 c4 d0 d1 hlw hlr hlb HTT
        generalize tt = tt'
        obtain ⟨c0, c1, c2', c3, c4⟩ := cells5 CRW.out.2.1
        obtain ⟨p0, p1, p2, p3, p4, p5⟩ := cells6 ROW.out
        go_wp2_with fail
        clear c0 c1 c2' c3 c4 p0 p1 p2 p3 p4 p5
        refine (l1Time_is' n p o1 _ _ zs _ d HD.out HMAT.out HPB.out HO1.out (HA.out.below CRW.out.1)).mono ?_
        rintro e W3 ⟨rfl, hb3⟩
        have CR3 : Hid (CR w W3 _ _) := CRW.out.below hb3
        have RV3 : Hid (W3.heap[gv]? = _) := below_row hb3 (row_lt RVW.out) RVW.out
        have RO3 : Hid (W3.heap[g]? = _) := below_row hb3 (row_lt ROW.out) ROW.out
        clear hb3 CRW RVW ROW
        obtain ⟨p0, p1, p2, p3, p4, p5⟩ := cells6 RO3.out
        go_wp2
        go_roundw
        case rel => exact ⟨k + 1, by omega, by go_num, by rw [← K1.out]; rfl, by rw [HNX.out], CR3.out, RV3.out⟩
        case measure => simp [intOf]; omega
    · have hkl : k = ids.length := by omega
      obtain ⟨q0, q1, q2, q3, q4⟩ := cells5 HRV.out
      have HE : Hid (r = f + tmI n zs p v1) := by
        have := HV1.out
        unfold rideV at this
        rw [← hkl, HFR.out, HPL.out] at this
        exact this.symm
      clear hkl
      obtain ⟨d, HD⟩ : ∃ t, Hid (tmI n zs p v1 = t) := ⟨_, rfl⟩
      have hdb := tmI_bd HMAT.out p v1
      rw [HD.out] at hdb HE
      go_wp2_with fail
      refine (l1Time_is' n p v1 _ _ zs _ d HD.out HMAT.out HPB.out HX1.out (HA.out.below HB.out.1)).mono ?_
      rintro e W3 ⟨rfl, hb3⟩
      have HB3 : Hid (Below w.heap.size w W3) := HB.out.1.trans (hb3.mono HB.out.1.size)
      clear hb3
      go_wp2
      go_ret
      exact ⟨ret_int HE.out.symm, HB3.out⟩

end Go.Proofs.YtidhnmmhniiolaaDoor
