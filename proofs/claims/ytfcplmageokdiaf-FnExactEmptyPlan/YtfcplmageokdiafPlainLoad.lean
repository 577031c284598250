import Derived.Test.YtfcplmageokdiafPlainFind
namespace Go.Proofs.Ytfcplmageokdiaf
open Go.RowKit

/-- The loads of the first k of these orders. -/
def loadTo (os : List Int) (ko : Nat) (ids : List Int) : Nat → Int
  | 0 => 0
  | k + 1 => loadTo os ko ids k + fnd6F os ko (ids.getD k 0) 2
def thereTo (os : List Int) (ko : Nat) (ids : List Int) (k : Nat) : Prop := ∀ j, j < k → fnd6T os ko (ids.getD j 0) = true
/-- What LoadOf answers. -/
def loadV (c : Bool) (os : List Int) (ko : Nat) (ids : List Int) : Int :=
  if c = true ∧ ids.length ≤ 12 ∧ (∀ j, j < ids.length → fnd6T os ko (ids.getD j 0) = true) then loadTo os ko ids ids.length else -1
theorem loadV_no {c : Bool} {os : List Int} {ko : Nat} {ids : List Int} (h : ¬ (c = true ∧ ids.length ≤ 12 ∧ (∀ j, j < ids.length → fnd6T os ko (ids.getD j 0) = true))) : loadV c os ko ids = -1 := by
  unfold loadV; rw [if_neg h]
theorem loadV_yes {c : Bool} {os : List Int} {ko : Nat} {ids : List Int} (h1 : c = true) (h2 : ids.length ≤ 12) (h3 : thereTo os ko ids ids.length) : loadV c os ko ids = loadTo os ko ids ids.length := by
  unfold loadV; rw [if_pos ⟨h1, h2, h3⟩]
theorem fnd6F_load {n : Int} {os : List Int} {ko : Nat} (h : ordsB n os ko = true) (id : Int) : 0 ≤ fnd6F os ko id 2 ∧ fnd6F os ko id 2 ≤ 1000 := by
  unfold fnd6F
  cases hf : fnd6 os ko id with
  | none => simp
  | some i =>
    have hi : i < ko := by
      unfold fnd6 at hf
      rw [List.find?_range_eq_some] at hf
      have := hf.2.1
      simpa using this
    have := ((ordsB_true h).2 i hi).1
    unfold ordB ordIn at this
    simp only [Bool.and_eq_true] at this
    have := inB_true this.2.1.1.2
    simpa using this
theorem caseB_ords {n : Int} {zs os vs : List Int} {ko kv : Nat} {fine : Int} (h : caseB n zs os vs ko kv fine = true) : ordsB n os ko = true := by
  unfold caseB at h
  simp only [Bool.and_eq_true] at h
  exact h.1.1.2
theorem loadTo_bd {n : Int} {os : List Int} {ko : Nat} (h : ordsB n os ko = true) (ids : List Int) : ∀ k, 0 ≤ loadTo os ko ids k ∧ loadTo os ko ids k ≤ 1000 * k
  | 0 => by simp [loadTo]
  | k + 1 => by
    have ih := loadTo_bd h ids k
    have := fnd6F_load h (ids.getD k 0)
    unfold loadTo
    omega

end Go.Proofs.Ytfcplmageokdiaf
