import Derived.Test.YtjlhmkmhehcmkaaGreatPack1
import Derived.Test.YtjlhmkmhehcmkaaGreatPack4
import Derived.Test.YtjlhmkmhehcmkaaGreatPack6
import Derived.Test.YtjlhmkmhehcmkaaGreatImplPlan
import Derived.Test.YtjlhmkmhehcmkaaGreatPack11
namespace Go.Proofs.YtjlhmkmhehcmkaaGreat
open Go.RowKit
theorem append_int20 (w : World) {ops : Array Oper} {rest : List Oper} {o : Oper} {a : Act} {Q : Exit -> Act -> World -> Prop}
   (hg : o.guard = none) (s x : Operand) (hop : o.op = Op.call { callee := Callee.builtin Builtin.append, args := #[s, x], argTypes := #[22, 22] })
   (base : Nat) (v : Value) (k : Nat) (xs : List Value) (hs : a.eval s = v) (hown : w.ownsRow base 2 1 v k xs) (ad : Addr) (c : Nat) (x0 : Value) (hx : a.eval x = .slice (some ad) 1 c)
   (hc : w.cell? ad = some x0) (h1c : x0.oneCell' = true) (b1 : k <= 1048576) (hb : base <= w.heap.size)
   (hK : ∀ v' w', w'.ownsRow base 2 1 v' (k + 1) (xs ++ [x0]) -> w.grownBy w' v.ownBlock -> wpList Tryz.prog ops Q rest (a.put o.dst v') w') :
   wpList Tryz.prog ops Q (o :: rest) a w := by
 obtain ⟨i0, hi, hz0, hz1, hz2⟩ := info_parts Tryz.info2
 exact wpList_append_own w hg s x _ hop base _ i0 _ 1 8 Tryz.underlying22 hi hz0 hz1 hz2 rfl (by decide) v k xs hs hown ad 1 c [x0] hx rfl (one_cell hc) (by simpa using h1c) (by unfold maxLen; omega) (by omega) hb (fun v' w' h1 h2 _ => hK v' w' h1 h2)
theorem own_other {w : World} {base size n k : Nat} {e T : TypeId} {v : Value} {xs : List Value} {cs : Array Value} {q : Nat × Nat} (h : w.ownsRow base e size v n xs) (hr : w.heap[k]? = some (.cells cs T q)) (hT : T ≠ e) : some k ≠ v.ownBlock := fun he => by
 rcases h.2 with ⟨rfl, _⟩ | ⟨g, c, cur, rfl, _, hg, _⟩
 · cases he
 · simp [Value.ownBlock] at he
   rw [<- he, hr] at hg
   simp at hg
   exact hT hg.2.1
theorem CP.grow {w W W' : World} {cs ps : Array Value} {base size n : Nat} {v : Value} {xs : List Value} (h : CP w W cs ps) (ho : W.ownsRow base 2 size v n xs) (hb : w.heap.size <= base) (hg : W.grownBy W' v.ownBlock) : CP w W' cs ps := by
 refine ⟨h.1.grown hg h.1.size (fun j e => ?_), grown_row hg h.2.1 (own_other ho h.2.1 (by decide)), grown_row hg h.2.2 (own_other ho h.2.2 (by decide))⟩
 rcases ho.2 with ⟨rfl, _⟩ | ⟨g, c, cur, rfl, hl, _⟩
 · cases e
 · simp [Value.ownBlock] at e
   omega
theorem CP.alloc {w W : World} {cs ps : Array Value} (h : CP w W cs ps) (o : Obj) : CP w (W.alloc o) cs ps := h.below ((Below.refl _ _).alloc (Nat.le_refl _) _)
theorem CP.drew {w W : World} {cs ps : Array Value} (h : CP w W cs ps) : CP w W.drew cs ps := h.below (Below.refl _ _).drew
theorem CP.big {w W : World} {cs ps : Array Value} (h : CP w W cs ps) : w.heap.size + 1 < W.heap.size := row_lt h.2.2
theorem CP.set {w W : World} {cs ps : Array Value} (h : CP w W cs ps) {k i : Nat} {v : Value} (hk : w.heap.size + 1 < k) : CP w (W.setCell ⟨k, i, none⟩ v) cs ps :=
 ⟨h.1.setCell (by simp; omega) _, by rw [heap_setCell_other _ _ _ _ (by simp; omega)]; exact h.2.1, by rw [heap_setCell_other _ _ _ _ (by simp; omega)]; exact h.2.2⟩
theorem own_begin (w1 : World) : (w1.alloc (.cells #[] 2)).ownsRow w1.heap.size 2 1 (.slice (some ⟨w1.heap.size, 0, none⟩) 0 0) 0 (([] : List Int).map (Value.int .i64)) :=
 ⟨rfl, .inr ⟨w1.heap.size, 0, #[], rfl, Nat.le_refl _, heap_alloc_new _ _, Nat.le_refl _, by unfold maxLen; omega, rfl, rfl⟩⟩
def Tw (tw : Bool) (l : List Int) : Prop := tw = true ↔ ¬ l.Nodup
theorem Tw.nil : Tw false [] := by simp [Tw]
theorem Tw.step {tw : Bool} {l : List Int} (h : Tw tw l) (x : Int) : Tw (tw || decide (x ∈ l)) (l ++ [x]) := by
 unfold Tw at *
 rw [nodup_snoc]
 cases tw
 · have : l.Nodup := by
     by_cases hn : l.Nodup
     · exact hn
     · exact absurd (h.2 hn) (by simp)
   simp [this]
 · have := h.1 rfl
   simp [this]
def TwL (tw : Bool) (fl L : List Int) (j : Nat) : Prop := tw = true ↔ ¬ (fl.Nodup /\ ∀ i, i < j -> L.getD i 0 ∉ fl)
theorem TwL.start {tw : Bool} {fl : List Int} (h : Tw tw fl) (L : List Int) : TwL tw fl L 0 := by
 unfold TwL
 unfold Tw at h
 rw [h]
 constructor
 · intro h1 h2; exact h1 h2.1
 · intro h1 h2; exact h1 ⟨h2, fun i hi => by omega⟩
theorem TwL.step {tw : Bool} {fl L : List Int} {j : Nat} (h : TwL tw fl L j) : TwL (tw || decide (L.getD j 0 ∈ fl)) fl L (j + 1) := by
 unfold TwL at *
 cases tw
 · have h0 : fl.Nodup /\ ∀ i, i < j -> L.getD i 0 ∉ fl := by
     by_cases hn : fl.Nodup /\ ∀ i, i < j -> L.getD i 0 ∉ fl
     · exact hn
     · exact absurd (h.2 hn) (by simp)
   by_cases hm : L.getD j 0 ∈ fl
   · rw [decide_eq_true hm]
     exact ⟨fun _ hx => hx.2 j (by omega) hm, fun _ => rfl⟩
   · rw [decide_eq_false hm]
     refine ⟨fun h => (by cases h), fun hx => absurd ⟨h0.1, fun i hi => ?_⟩ hx⟩
     by_cases e : i = j
     · rw [e]; exact hm
     · exact h0.2 i (by omega)
 · have := h.1 rfl
   exact ⟨fun _ hx => this ⟨hx.1, fun i hi => hx.2 i (by omega)⟩, fun _ => rfl⟩
theorem TwL.done {tw : Bool} {fl L : List Int} (h : TwL tw fl L L.length) : tw = true ↔ ¬ Once fl L := by
 unfold TwL at h
 rw [h]
 unfold Once
 constructor
 · intro h1 h2
   exact h1 ⟨h2.1, fun i hi => h2.2 _ (by rw [List.getD_eq_getElem?_getD, List.getElem?_eq_getElem hi]; simp)⟩
 · intro h1 h2
   refine h1 ⟨h2.1, fun x hx => ?_⟩
   obtain ⟨j, hj, e⟩ := List.getElem_of_mem hx
   have := h2.2 j hj
   rw [List.getD_eq_getElem?_getD, List.getElem?_eq_getElem hj] at this
   rw [<- e]
   exact this
end Go.Proofs.YtjlhmkmhehcmkaaGreat