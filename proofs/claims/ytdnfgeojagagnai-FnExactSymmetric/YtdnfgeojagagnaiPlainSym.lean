import Derived.Test.YtdnfgeojagagnaiPlain
namespace Go.Proofs.Ytdnfgeojagagnai

/-- All pairs up to (x, y) are the same in both ways. -/
def symTo (n : Nat) (zs : List Int) (x y : Nat) : Prop := ∀ i j, j < i → (i < x ∨ i = x ∧ j < y) → tm n zs i j = tm n zs j i
/-- What Symmetric answers. -/
def symB (n : Int) (zs : List Int) : Bool := decide (matB n zs = true ∧ ∀ i, i < n.toNat → ∀ j, j < i → tm n.toNat zs i j = tm n.toNat zs j i)
theorem symB_no {n : Int} {zs : List Int} (h : matB n zs = false) : symB n zs = false := decide_eq_false fun k => by rw [h] at k; exact Bool.noConfusion k.1
theorem symB_yes {n : Nat} {zs : List Int} (h : matB n zs = true) (hs : symTo n zs n 0) : symB n zs = true :=
  decide_eq_true ⟨h, fun i hi j hj => hs i j hj (Or.inl (by simpa using hi))⟩
theorem symB_bad {n : Nat} {zs : List Int} {x y : Nat} (hx : x < n) (hy : y < x) (h : tm n zs x y ≠ tm n zs y x) : symB n zs = false :=
  decide_eq_false fun k => h (by have := k.2 x (by simpa using hx) y hy; simpa using this)
theorem symTo_zero (n : Nat) (zs : List Int) : symTo n zs 0 0 := fun i j _ h => by omega
theorem symTo_step {n : Nat} {zs : List Int} {x y : Nat} (h : symTo n zs x y) (e : tm n zs x y = tm n zs y x) : symTo n zs x (y + 1) := by
  intro i j hj hij
  by_cases c : i = x ∧ j = y
  · obtain ⟨rfl, rfl⟩ := c; exact e
  · exact h i j hj (by omega)
theorem symTo_row {n : Nat} {zs : List Int} {x : Nat} (h : symTo n zs x x) : symTo n zs (x + 1) 0 := fun i j hj hij => h i j hj (by omega)

end Go.Proofs.Ytdnfgeojagagnai
