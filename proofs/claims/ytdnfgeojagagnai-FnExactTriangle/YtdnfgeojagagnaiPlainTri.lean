import Derived.Test.YtdnfgeojagagnaiPlain
namespace Go.Proofs.Ytdnfgeojagagnai

/-- No time up to (x, y, z) has a shorter way round. -/
def triTo (n : Nat) (zs : List Int) (x y z : Nat) : Prop := ∀ i j k, i < n → j < n → k < n → (i < x ∨ i = x ∧ (j < y ∨ j = y ∧ k < z)) → tm n zs i j ≤ tm n zs i k + tm n zs k j
/-- What Triangle answers. -/
def triB (n : Int) (zs : List Int) : Bool := decide (matB n zs = true ∧ ∀ i, i < n.toNat → ∀ j, j < n.toNat → ∀ k, k < n.toNat → tm n.toNat zs i j ≤ tm n.toNat zs i k + tm n.toNat zs k j)
theorem triB_no {n : Int} {zs : List Int} (h : matB n zs = false) : triB n zs = false := decide_eq_false fun k => by rw [h] at k; exact Bool.noConfusion k.1
theorem triB_yes {n : Nat} {zs : List Int} (h : matB n zs = true) (hs : triTo n zs n 0 0) : triB n zs = true :=
  decide_eq_true ⟨h, fun i hi j hj k hk => hs i j k (by simpa using hi) (by simpa using hj) (by simpa using hk) (Or.inl (by simpa using hi))⟩
theorem triB_bad {n : Nat} {zs : List Int} {x y z : Nat} (hx : x < n) (hy : y < n) (hz : z < n) (h : ¬ tm n zs x y ≤ tm n zs x z + tm n zs z y) : triB n zs = false :=
  decide_eq_false fun k => h (by have := k.2 x (by simpa using hx) y (by simpa using hy) z (by simpa using hz); simpa using this)
theorem triTo_zero (n : Nat) (zs : List Int) : triTo n zs 0 0 0 := fun i j k _ _ _ h => by omega
theorem triTo_step {n : Nat} {zs : List Int} {x y z : Nat} (h : triTo n zs x y z) (e : tm n zs x y ≤ tm n zs x z + tm n zs z y) : triTo n zs x y (z + 1) := by
  intro i j k hi hj hk hij
  by_cases c : i = x ∧ j = y ∧ k = z
  · obtain ⟨rfl, rfl, rfl⟩ := c; exact e
  · exact h i j k hi hj hk (by omega)
theorem triTo_col {n : Nat} {zs : List Int} {x y : Nat} (h : triTo n zs x y n) : triTo n zs x (y + 1) 0 := fun i j k hi hj hk hij => h i j k hi hj hk (by omega)
theorem triTo_row {n : Nat} {zs : List Int} {x : Nat} (h : triTo n zs x n 0) : triTo n zs (x + 1) 0 0 := fun i j k hi hj hk hij => h i j k hi hj hk (by omega)

end Go.Proofs.Ytdnfgeojagagnai
