import Derived.Test.YtfcplmageokdiafPlainCase
namespace Go.Proofs.Ytfcplmageokdiaf

/-- The place of the first element of 6 numbers whose first one is id. -/
def fnd6 (zs : List Int) (n : Nat) (id : Int) : Option Nat := (List.range n).find? fun i => og6 zs i 0 == id
/-- Whether there is one; its fields, 0 without one. -/
def fnd6T (zs : List Int) (n : Nat) (id : Int) : Bool := (fnd6 zs n id).isSome
def fnd6F (zs : List Int) (n : Nat) (id : Int) (f : Nat) : Int := match fnd6 zs n id with
  | some i => og6 zs i f
  | none => 0
theorem fnd6_at {zs : List Int} {n : Nat} {id : Int} {i : Nat} (hi : i < n) (h : og6 zs i 0 = id) (hno : ∀ j, j < i → og6 zs j 0 ≠ id) : fnd6 zs n id = some i := by
  unfold fnd6
  rw [List.find?_range_eq_some]
  exact ⟨by simp [h], by simpa using hi, fun j hj => by simpa using hno j hj⟩
theorem fnd6_none {zs : List Int} {n : Nat} {id : Int} (hno : ∀ j, j < n → og6 zs j 0 ≠ id) : fnd6 zs n id = none := by
  unfold fnd6
  rw [List.find?_eq_none]
  intro j hj
  have := hno j (by simpa using hj)
  simpa using this
theorem fnd6F_at {zs : List Int} {n : Nat} {id : Int} {i : Nat} (h : fnd6 zs n id = some i) (f : Nat) : fnd6F zs n id f = og6 zs i f := by unfold fnd6F; rw [h]
theorem fnd6F_none {zs : List Int} {n : Nat} {id : Int} (h : fnd6 zs n id = none) (f : Nat) : fnd6F zs n id f = 0 := by unfold fnd6F; rw [h]
theorem fnd6T_at {zs : List Int} {n : Nat} {id : Int} {i : Nat} (h : fnd6 zs n id = some i) : fnd6T zs n id = true := by unfold fnd6T; rw [h]; rfl
theorem fnd6T_none {zs : List Int} {n : Nat} {id : Int} (h : fnd6 zs n id = none) : fnd6T zs n id = false := by unfold fnd6T; rw [h]; rfl
/-- .. of a case that may not be right. -/
def got6T (c : Bool) (zs : List Int) (n : Nat) (id : Int) : Bool := c && fnd6T zs n id
def got6F (c : Bool) (zs : List Int) (n : Nat) (id : Int) (f : Nat) : Int := if c = true then fnd6F zs n id f else 0

/-- The place of the first element of 5 numbers whose first one is id. -/
def fnd5 (zs : List Int) (n : Nat) (id : Int) : Option Nat := (List.range n).find? fun i => og5 zs i 0 == id
/-- Whether there is one; its fields, 0 without one. -/
def fnd5T (zs : List Int) (n : Nat) (id : Int) : Bool := (fnd5 zs n id).isSome
def fnd5F (zs : List Int) (n : Nat) (id : Int) (f : Nat) : Int := match fnd5 zs n id with
  | some i => og5 zs i f
  | none => 0
theorem fnd5_at {zs : List Int} {n : Nat} {id : Int} {i : Nat} (hi : i < n) (h : og5 zs i 0 = id) (hno : ∀ j, j < i → og5 zs j 0 ≠ id) : fnd5 zs n id = some i := by
  unfold fnd5
  rw [List.find?_range_eq_some]
  exact ⟨by simp [h], by simpa using hi, fun j hj => by simpa using hno j hj⟩
theorem fnd5_none {zs : List Int} {n : Nat} {id : Int} (hno : ∀ j, j < n → og5 zs j 0 ≠ id) : fnd5 zs n id = none := by
  unfold fnd5
  rw [List.find?_eq_none]
  intro j hj
  have := hno j (by simpa using hj)
  simpa using this
theorem fnd5F_at {zs : List Int} {n : Nat} {id : Int} {i : Nat} (h : fnd5 zs n id = some i) (f : Nat) : fnd5F zs n id f = og5 zs i f := by unfold fnd5F; rw [h]
theorem fnd5F_none {zs : List Int} {n : Nat} {id : Int} (h : fnd5 zs n id = none) (f : Nat) : fnd5F zs n id f = 0 := by unfold fnd5F; rw [h]
theorem fnd5T_at {zs : List Int} {n : Nat} {id : Int} {i : Nat} (h : fnd5 zs n id = some i) : fnd5T zs n id = true := by unfold fnd5T; rw [h]; rfl
theorem fnd5T_none {zs : List Int} {n : Nat} {id : Int} (h : fnd5 zs n id = none) : fnd5T zs n id = false := by unfold fnd5T; rw [h]; rfl
/-- .. of a case that may not be right. -/
def got5T (c : Bool) (zs : List Int) (n : Nat) (id : Int) : Bool := c && fnd5T zs n id
def got5F (c : Bool) (zs : List Int) (n : Nat) (id : Int) (f : Nat) : Int := if c = true then fnd5F zs n id f else 0

end Go.Proofs.Ytfcplmageokdiaf
