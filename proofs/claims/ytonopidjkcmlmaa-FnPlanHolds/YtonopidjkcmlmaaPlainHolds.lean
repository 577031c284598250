import Derived.Test.YtonopidjkcmlmaaPack2
import Derived.Test.YtonopidjkcmlmaaPack6
namespace Go.Proofs.Ytonopidjkcmlmaa
open Go.RowKit

/-- As many unlike numbers as there are: each is among them. -/
theorem mem_of_full : ∀ {A B : List Int}, A.Nodup → (∀ x ∈ A, x ∈ B) → B.length ≤ A.length → ∀ y ∈ B, y ∈ A
  | [], B, _, _, hl, y, hy => by
    have : B = [] := List.length_eq_zero_iff.1 (by simpa using hl)
    rw [this] at hy
    cases hy
  | a :: A, B, hA, hs, hl, y, hy => by
    obtain ⟨h1, h2⟩ := List.nodup_cons.1 hA
    by_cases e : y = a
    · rw [e]; exact List.mem_cons_self
    · have haB : a ∈ B := hs a List.mem_cons_self
      have hlen : (B.erase a).length = B.length - 1 := List.length_erase_of_mem haB
      refine List.mem_cons_of_mem _ (mem_of_full (B := B.erase a) h2 (fun x hx => ?_) ?_ y ((List.mem_erase_of_ne e).2 hy))
      · exact (List.mem_erase_of_ne (fun e2 => h1 (by rw [← e2]; exact hx))).2 (hs x (List.mem_cons_of_mem _ hx))
      · simp only [List.length_cons] at hl
        omega
/-- In how many of the first k routes a number stands. -/
def manyTo (R : List RT) (id : Int) : Nat → Int
  | 0 => 0
  | k + 1 => manyTo R id k + (if id ∈ (R.getD k rt0).ids then 1 else 0)
theorem manyTo_once {R : List RT} (id : Int) : ∀ k, k ≤ R.length → (allTo R k).Nodup → manyTo R id k = if id ∈ allTo R k then 1 else 0
  | 0, _, _ => by simp [manyTo, allTo_zero]
  | k + 1, hk, hn => by
    rw [allTo_succ (by omega)] at hn ⊢
    obtain ⟨h1, _, h3⟩ := List.nodup_append.1 hn
    have ih := manyTo_once id k (by omega) h1
    unfold manyTo
    rw [ih]
    by_cases ha : id ∈ allTo R k
    · have hb : id ∉ (R.getD k rt0).ids := fun hb => h3 id ha id hb rfl
      rw [if_pos ha, if_neg hb, if_pos (List.mem_append.2 (.inl ha))]
      rfl
    · rw [if_neg ha]
      by_cases hb : id ∈ (R.getD k rt0).ids
      · rw [if_pos hb, if_pos (List.mem_append.2 (.inr hb))]
        rfl
      · rw [if_neg hb, if_neg (fun h => (List.mem_append.1 h).elim ha hb)]
        rfl
theorem manyTo_bd (R : List RT) (id : Int) : ∀ k, 0 ≤ manyTo R id k ∧ manyTo R id k ≤ k
  | 0 => by simp [manyTo]
  | k + 1 => by
    have := manyTo_bd R id k
    unfold manyTo
    split <;> omega
theorem allTo_mem {R : List RT} {x : Int} : ∀ k, k ≤ R.length → (x ∈ allTo R k ↔ ∃ j, j < k ∧ x ∈ (R.getD j rt0).ids)
  | 0, _ => by simp [allTo_zero]
  | k + 1, hk => by
    rw [allTo_succ (by omega), List.mem_append, allTo_mem k (by omega)]
    constructor
    · rintro (⟨j, h1, h2⟩ | h)
      · exact ⟨j, by omega, h2⟩
      · exact ⟨k, by omega, h⟩
    · rintro ⟨j, h1, h2⟩
      by_cases e : j = k
      · rw [e] at h2; exact .inr h2
      · exact .inl ⟨j, by omega, h2⟩
/-- Numbers that rise are unlike. -/
theorem rise_nodup : ∀ {L : List Int}, (∀ j, j + 1 < L.length → L.getD j 0 < L.getD (j + 1) 0) → L.Nodup ∧ ∀ x ∈ L, L.getD 0 0 ≤ x
  | [], _ => ⟨List.nodup_nil, fun x hx => by cases hx⟩
  | a :: L, h => by
    have ih := rise_nodup (L := L) (fun j hj => by
      have := h (j + 1) (by simp; omega)
      simpa using this)
    have h0 : ∀ x ∈ L, a < x := fun x hx => by
      have hl : 0 < L.length := List.length_pos_of_mem hx
      have h1 := h 0 (by simp; omega)
      have h2 := ih.2 x hx
      simp only [List.getD_cons_zero, Nat.zero_add, List.getD_cons_succ] at h1
      omega
    refine ⟨List.nodup_cons.2 ⟨fun hm => by have := h0 a hm; omega, ih.1⟩, fun x hx => ?_⟩
    rcases List.mem_cons.1 hx with e | hx
    · rw [e]; simp
    · have := h0 x hx
      simp
      omega

theorem fnd6_ids {os : List Int} {ko : Nat} {id : Int} (h : fnd6T os ko id = true) : id ∈ idsL os ko := by
  unfold fnd6T at h
  cases hf : fnd6 os ko id with
  | none => rw [hf] at h; cases h
  | some i =>
    unfold fnd6 at hf
    have h1 := List.find?_some hf
    have h2 : i < ko := by simpa using List.mem_of_find?_eq_some hf
    simp at h1
    unfold idsL
    exact List.mem_map.2 ⟨i, List.mem_range.2 h2, h1⟩
theorem getD_of_mem {l : List Int} {x : Int} (h : x ∈ l) : ∃ j, j < l.length ∧ l.getD j 0 = x := by
  obtain ⟨j, hj, e⟩ := List.getElem_of_mem h
  exact ⟨j, hj, by rw [List.getD_eq_getElem?_getD, List.getElem?_eq_getElem hj]; simpa using e⟩
/-- In a plan that holds every order stands in one route or is left, not both, not twice. -/
theorem holds_all {n : Int} {zs os vs : List Int} {ko kv : Nat} {fine : Int} {R : List RT} {L : List Int} (h : planV n zs os vs ko kv fine R L = 0) : ∀ id ∈ idsL os ko, manyTo R id R.length + (if id ∈ L then 1 else 0) = 1 ∧ (id ∈ allTo R R.length ↔ id ∉ L) := by
  obtain ⟨_, hr, ho, hl, hc⟩ := planV_zero h
  have hLn : L.Nodup := (rise_nodup (fun j hj => by
    have := (hl (j + 1) hj).2 (by omega)
    simpa using this)).1
  have hA : (allTo R R.length ++ L).Nodup := List.nodup_append.2 ⟨ho.1, hLn, fun a ha b hb e => ho.2 b hb (by rw [← e]; exact ha)⟩
  have hsub : ∀ x ∈ allTo R R.length ++ L, x ∈ idsL os ko := fun x hx => by
    rcases List.mem_append.1 hx with hx | hx
    · obtain ⟨j, hj, hm⟩ := (allTo_mem R.length (Nat.le_refl _)).1 hx
      obtain ⟨i, hi, e⟩ := getD_of_mem hm
      have := (stopsB_true (formV_zero (codeV_zero (hr j hj).2.2).1).2.2).2 i hi
      rw [← e]
      unfold stopB at this
      simp only [Bool.and_eq_true] at this
      exact fnd6_ids this.1
    · obtain ⟨j, hj, e⟩ := getD_of_mem hx
      rw [← e]
      exact fnd6_ids (hl j hj).1
  have hfull := mem_of_full hA hsub (by rw [idsL_length, List.length_append]; omega)
  intro id hid
  rw [manyTo_once id _ (Nat.le_refl _) ho.1]
  by_cases hb : id ∈ L
  · have ha : id ∉ allTo R R.length := ho.2 id hb
    rw [if_neg ha, if_pos hb]
    exact ⟨rfl, ⟨fun h => absurd h ha, fun h => absurd hb h⟩⟩
  · have ha : id ∈ allTo R R.length := (List.mem_append.1 (hfull id hid)).elim (fun h => h) (fun h => absurd h hb)
    rw [if_pos ha, if_neg hb]
    exact ⟨rfl, ⟨fun _ => hb, fun _ => ha⟩⟩

/-- The empty plan of a right case holds. -/
theorem empty_holds {n : Int} {zs os vs : List Int} {ko kv : Nat} {fine : Int} (h : caseB n zs os vs ko kv fine = true) : planV n zs os vs ko kv fine [] (idsL os ko) = 0 := by
  have ht := (ordsB_true (caseB_parts h).2.1).2
  have hg : ∀ j, j < ko → (idsL os ko).getD j 0 = og6 os j 0 := fun j hj => by
    unfold idsL
    rw [List.getD_eq_getElem?_getD, List.getElem?_map, List.getElem?_range hj]
    rfl
  refine planV_0 h (fun j hj => by simp at hj) ⟨by simp [allTo], fun x _ => by simp [allTo]⟩ (fun j hj => ?_) (by simp [allTo, idsL_length])
  rw [idsL_length] at hj
  rw [hg j hj]
  refine ⟨?_, fun h0 => ?_⟩
  · have hx : ∃ i, fnd6 os ko (og6 os j 0) = some i := by
      cases hf : fnd6 os ko (og6 os j 0) with
      | some i => exact ⟨i, rfl⟩
      | none =>
        unfold fnd6 at hf
        rw [List.find?_eq_none] at hf
        have := hf j (List.mem_range.2 hj)
        simp at this
    obtain ⟨i, hi⟩ := hx
    exact fnd6T_at hi
  · rw [hg (j - 1) (by omega)]
    exact (ht j hj).2 h0

end Go.Proofs.Ytonopidjkcmlmaa
