import Derived.Test.YtfcplmageokdiafPlainLoad
namespace Go.Proofs.Ytfcplmageokdiaf
open Go.RowKit

/-- Whether id stands among the first k. -/
def hasTo (ids : List Int) (k : Nat) (id : Int) : Bool := (List.range k).any fun j => ids.getD j 0 == id
theorem hasTo_yes {ids : List Int} {k j : Nat} {id : Int} (hj : j < k) (h : ids.getD j 0 = id) : hasTo ids k id = true := by
  unfold hasTo
  rw [List.any_eq_true]
  exact ⟨j, by simpa using hj, by rw [h]; simp⟩
theorem hasTo_no {ids : List Int} {k : Nat} {id : Int} (h : ∀ j, j < k → ids.getD j 0 ≠ id) : hasTo ids k id = false := by
  unfold hasTo
  rw [List.any_eq_false]
  intro j hj
  have := h j (by simpa using hj)
  simpa using this

/-- The stop k is an order, and stands nowhere ahead. -/
def stopB (os : List Int) (ko : Nat) (ids : List Int) (k : Nat) : Bool := fnd6T os ko (ids.getD k 0) && !hasTo ids k (ids.getD k 0)
def stopsTo (os : List Int) (ko : Nat) (ids : List Int) (k : Nat) : Prop := ∀ j, j < k → stopB os ko ids j = true
def stopsB (os : List Int) (ko : Nat) (ids : List Int) : Bool := decide (ids.length ≤ 12 ∧ ∀ j, j < ids.length → stopB os ko ids j = true)
theorem stopsB_yes {os : List Int} {ko : Nat} {ids : List Int} (h : ids.length ≤ 12) (ht : stopsTo os ko ids ids.length) : stopsB os ko ids = true := by
  unfold stopsB
  exact decide_eq_true ⟨h, ht⟩
theorem stopsB_true {os : List Int} {ko : Nat} {ids : List Int} (h : stopsB os ko ids = true) : ids.length ≤ 12 ∧ stopsTo os ko ids ids.length := by
  unfold stopsB at h
  have := of_decide_eq_true h
  exact ⟨this.1, this.2⟩
theorem stopsB_many {os : List Int} {ko : Nat} {ids : List Int} (h : ¬ ids.length ≤ 12) : stopsB os ko ids = false := decide_eq_false fun x => h x.1
theorem stopsB_bad {os : List Int} {ko : Nat} {ids : List Int} {k : Nat} (hk : k < ids.length) (h : stopB os ko ids k = false) : stopsB os ko ids = false := decide_eq_false fun x => by
  have := x.2 k hk
  rw [h] at this
  cases this
theorem stopsTo_zero (os : List Int) (ko : Nat) (ids : List Int) : stopsTo os ko ids 0 := fun j hj => by omega
theorem stopsTo_step {os : List Int} {ko : Nat} {ids : List Int} {k : Nat} (h : stopsTo os ko ids k) (h1 : stopB os ko ids k = true) : stopsTo os ko ids (k + 1) := by
  intro j hj
  by_cases e : j = k
  · rw [e]; exact h1
  · exact h j (by omega)
theorem stopB_mk {os : List Int} {ko : Nat} {ids : List Int} {k : Nat} {id : Int} (hid : ids.getD k 0 = id) {a b : Bool} (h1 : fnd6T os ko id = a) (h2 : hasTo ids k id = b) : stopB os ko ids k = (a && !b) := by
  unfold stopB
  rw [hid, h1, h2]

/-- What of a route is wrong, but for its times. -/
def formV (c : Bool) (vs os : List Int) (kv ko : Nat) (veh : Int) (ids : List Int) : Int :=
  if c = false then 1 else if fnd5T vs kv veh = false then 2 else if stopsB os ko ids = false then 3 else if fnd5F vs kv veh 2 < loadTo os ko ids ids.length then 4 else 0
theorem formV_1 {c : Bool} {vs os : List Int} {kv ko : Nat} {veh : Int} {ids : List Int} (h : c = false) : formV c vs os kv ko veh ids = 1 := by
  unfold formV; rw [if_pos h]
theorem formV_2 {c : Bool} {vs os : List Int} {kv ko : Nat} {veh : Int} {ids : List Int} (h : c = true) (h2 : fnd5T vs kv veh = false) : formV c vs os kv ko veh ids = 2 := by
  unfold formV; rw [if_neg (by simp [h]), if_pos h2]
theorem formV_3 {c : Bool} {vs os : List Int} {kv ko : Nat} {veh : Int} {ids : List Int} (h : c = true) (h2 : fnd5T vs kv veh = true) (h3 : stopsB os ko ids = false) : formV c vs os kv ko veh ids = 3 := by
  unfold formV; rw [if_neg (by simp [h]), if_neg (by simp [h2]), if_pos h3]
theorem formV_4 {c : Bool} {vs os : List Int} {kv ko : Nat} {veh : Int} {ids : List Int} (h : c = true) (h2 : fnd5T vs kv veh = true) (h3 : stopsB os ko ids = true) (h4 : fnd5F vs kv veh 2 < loadTo os ko ids ids.length) : formV c vs os kv ko veh ids = 4 := by
  unfold formV; rw [if_neg (by simp [h]), if_neg (by simp [h2]), if_neg (by simp [h3]), if_pos h4]
theorem formV_0 {c : Bool} {vs os : List Int} {kv ko : Nat} {veh : Int} {ids : List Int} (h : c = true) (h2 : fnd5T vs kv veh = true) (h3 : stopsB os ko ids = true) (h4 : ¬ fnd5F vs kv veh 2 < loadTo os ko ids ids.length) : formV c vs os kv ko veh ids = 0 := by
  unfold formV; rw [if_neg (by simp [h]), if_neg (by simp [h2]), if_neg (by simp [h3]), if_neg h4]
theorem formV_zero {c : Bool} {vs os : List Int} {kv ko : Nat} {veh : Int} {ids : List Int} (h : formV c vs os kv ko veh ids = 0) : c = true ∧ fnd5T vs kv veh = true ∧ stopsB os ko ids = true := by
  unfold formV at h
  by_cases c1 : c = false
  · rw [if_pos c1] at h; omega
  · rw [if_neg c1] at h
    by_cases c2 : fnd5T vs kv veh = false
    · rw [if_pos c2] at h; omega
    · rw [if_neg c2] at h
      by_cases c3 : stopsB os ko ids = false
      · rw [if_pos c3] at h; omega
      · exact ⟨by simpa using c1, by simpa using c2, by simpa using c3⟩
theorem formV_bd (c : Bool) (vs os : List Int) (kv ko : Nat) (veh : Int) (ids : List Int) : 0 ≤ formV c vs os kv ko veh ids ∧ formV c vs os kv ko veh ids ≤ 4 := by
  unfold formV
  split
  · omega
  · split
    · omega
    · split
      · omega
      · split <;> omega

/-- The orders of a route, six numbers each. -/
def rosOf (os : List Int) (ko : Nat) (ids : List Int) : List Int := (List.range (ids.length * 6)).map fun j => fnd6F os ko (ids.getD (j / 6) 0) (j % 6)
theorem rosOf_length (os : List Int) (ko : Nat) (ids : List Int) : (rosOf os ko ids).length = ids.length * 6 := by simp [rosOf]
theorem rosOf_at (os : List Int) (ko : Nat) (ids : List Int) {k f : Nat} (hk : k < ids.length) (hf : f < 6) : og6 (rosOf os ko ids) k f = fnd6F os ko (ids.getD k 0) f := by
  unfold og6 rosOf
  have hj : k * 6 + f < ids.length * 6 := by omega
  have e1 : (k * 6 + f) / 6 = k := by omega
  have e2 : (k * 6 + f) % 6 = f := by omega
  rw [List.getD, List.getElem?_map, List.getElem?_range hj]
  simp only [Option.map_some, Option.getD_some, e1, e2]

/-- The orders of a right case are within the limits, those that are not there, too. -/
theorem fnd6F_bd {n : Int} {os : List Int} {ko : Nat} (h : ordsB n os ko = true) (hn : 1 ≤ n) (id : Int) :
    (0 ≤ fnd6F os ko id 1 ∧ fnd6F os ko id 1 < n) ∧ (0 ≤ fnd6F os ko id 2 ∧ fnd6F os ko id 2 ≤ 1000) ∧ (0 ≤ fnd6F os ko id 3 ∧ fnd6F os ko id 3 ≤ 1000000) ∧ (0 ≤ fnd6F os ko id 4 ∧ fnd6F os ko id 4 ≤ 1000000) ∧ (0 ≤ fnd6F os ko id 5 ∧ fnd6F os ko id 5 ≤ 10000) := by
  unfold fnd6F
  cases hf : fnd6 os ko id with
  | none => simp; omega
  | some i =>
    have hi : i < ko := by
      unfold fnd6 at hf
      rw [List.find?_range_eq_some] at hf
      have := hf.2.1
      simpa using this
    have := ((ordsB_true h).2 i hi).1
    unfold ordB ordIn hoursB at this
    simp only [Bool.and_eq_true] at this
    obtain ⟨_, ⟨⟨h1, h2⟩, h3, h4⟩, h5⟩ := this
    have h1 := inB_true h1
    have h2 := inB_true h2
    have h3 := inB_true h3
    have h4 := inB_true h4
    have h5 := inB_true h5
    simp only []
    omega
theorem fnd5F_bd {n : Int} {vs : List Int} {kv : Nat} (h : vehsB n vs kv = true) (hn : 1 ≤ n) (id : Int) :
    (0 ≤ fnd5F vs kv id 1 ∧ fnd5F vs kv id 1 < n) ∧ (0 ≤ fnd5F vs kv id 2 ∧ fnd5F vs kv id 2 ≤ 1000) ∧ (0 ≤ fnd5F vs kv id 3 ∧ fnd5F vs kv id 3 ≤ 1000000) ∧ (0 ≤ fnd5F vs kv id 4 ∧ fnd5F vs kv id 4 ≤ 1000000) := by
  unfold fnd5F
  cases hf : fnd5 vs kv id with
  | none => simp; omega
  | some i =>
    have hi : i < kv := by
      unfold fnd5 at hf
      rw [List.find?_range_eq_some] at hf
      have := hf.2.1
      simpa using this
    have := ((vehsB_true h).2 i hi).1
    unfold vehB vehIn hoursB at this
    simp only [Bool.and_eq_true] at this
    obtain ⟨_, ⟨h1, h2⟩, h3, h4⟩ := this
    have h1 := inB_true h1
    have h2 := inB_true h2
    have h3 := inB_true h3
    have h4 := inB_true h4
    simp only []
    omega
theorem caseB_parts {n : Int} {zs os vs : List Int} {ko kv : Nat} {fine : Int} (h : caseB n zs os vs ko kv fine = true) : matB n zs = true ∧ ordsB n os ko = true ∧ vehsB n vs kv = true ∧ 1 ≤ n ∧ 0 ≤ fine ∧ fine ≤ 1000000 := by
  unfold caseB at h
  simp only [Bool.and_eq_true] at h
  exact ⟨h.1.1.1, h.1.1.2, h.1.2, (matB_true h.1.1.1).1, inB_true h.2⟩

/-- A time by the numbers of its places. -/
def tmI (n : Int) (zs : List Int) (x y : Int) : Int := zs.getD (x.toNat * n.toNat + y.toNat) 0
theorem tmI_bd {n : Int} {zs : List Int} (h : matB n zs = true) (x y : Int) : 0 ≤ tmI n zs x y ∧ tmI n zs x y ≤ 10000 := by
  unfold tmI
  by_cases hl : x.toNat * n.toNat + y.toNat < zs.length
  · have := (matB_true h).2.2.2 _ hl
    exact ⟨this.1, this.2.1⟩
  · rw [List.getD, List.getElem?_eq_none (by omega)]
    simp

/-- The place behind the first k stops. -/
def plc (ros : List Int) (home : Int) : Nat → Int
  | 0 => home
  | k + 1 => og6 ros k 1
/-- The orders' fields are within the limits. -/
def RosBd (n : Int) (ros : List Int) (m : Nat) : Prop := ∀ k, k < m → (0 ≤ og6 ros k 1 ∧ og6 ros k 1 < n) ∧ (0 ≤ og6 ros k 2 ∧ og6 ros k 2 ≤ 1000) ∧ (0 ≤ og6 ros k 3 ∧ og6 ros k 3 ≤ 1000000) ∧ (0 ≤ og6 ros k 4 ∧ og6 ros k 4 ≤ 1000000) ∧ (0 ≤ og6 ros k 5 ∧ og6 ros k 5 ≤ 10000)
theorem rosBd_of {n : Int} {os : List Int} {ko : Nat} (h : ordsB n os ko = true) (hn : 1 ≤ n) (ids : List Int) : RosBd n (rosOf os ko ids) ids.length := by
  intro k hk
  rw [rosOf_at os ko ids hk (by omega), rosOf_at os ko ids hk (by omega), rosOf_at os ko ids hk (by omega), rosOf_at os ko ids hk (by omega), rosOf_at os ko ids hk (by omega)]
  exact fnd6F_bd h hn _
theorem plc_bd {n : Int} {ros : List Int} {m : Nat} (h : RosBd n ros m) {home : Int} (h0 : 0 ≤ home) (h1 : home < n) : ∀ k, k ≤ m → 0 ≤ plc ros home k ∧ plc ros home k < n
  | 0, _ => ⟨h0, h1⟩
  | k + 1, hk => (h k (by omega)).1

/-- When the vehicle is free behind the first k stops, at these starts. -/
def freeK (ros starts : List Int) (frm : Int) : Nat → Int
  | 0 => frm
  | k + 1 => starts.getD k 0 + og6 ros k 5
def keptAt (n : Int) (zs ros starts : List Int) (home frm : Int) (k : Nat) : Bool :=
  inB (starts.getD k 0) (max (og6 ros k 3) (freeK ros starts frm k + tmI n zs (plc ros home k) (og6 ros k 1))) (og6 ros k 4)
def keptTo (n : Int) (zs ros starts : List Int) (home frm : Int) (m : Nat) : Prop := ∀ k, k < m → keptAt n zs ros starts home frm k = true
/-- Whether these are starts with which a loaded route can be driven. -/
def keptB (n : Int) (zs ros : List Int) (m : Nat) (starts : List Int) (home frm to : Int) : Bool :=
  decide ((∀ k, k < m → keptAt n zs ros starts home frm k = true) ∧ freeK ros starts frm m + tmI n zs (plc ros home m) home ≤ to)
theorem keptB_bad {n : Int} {zs ros : List Int} {m : Nat} {starts : List Int} {home frm to : Int} {k : Nat} (hk : k < m) (h : keptAt n zs ros starts home frm k = false) : keptB n zs ros m starts home frm to = false :=
  decide_eq_false fun x => by
    have := x.1 k hk
    rw [h] at this
    cases this
theorem keptB_end {n : Int} {zs ros : List Int} {m : Nat} {starts : List Int} {home frm to : Int} (h : keptTo n zs ros starts home frm m) : keptB n zs ros m starts home frm to = decide (freeK ros starts frm m + tmI n zs (plc ros home m) home ≤ to) := by
  unfold keptB
  rw [decide_eq_decide]
  exact ⟨fun x => x.2, fun x => ⟨h, x⟩⟩
theorem keptTo_step {n : Int} {zs ros starts : List Int} {home frm : Int} {k : Nat} (h : keptTo n zs ros starts home frm k) (h1 : keptAt n zs ros starts home frm k = true) : keptTo n zs ros starts home frm (k + 1) := by
  intro j hj
  by_cases e : j = k
  · rw [e]; exact h1
  · exact h j (by omega)
theorem freeK_zero (ros starts : List Int) (frm : Int) : freeK ros starts frm 0 = frm := rfl
theorem freeK_succ (ros starts : List Int) (frm : Int) (k : Nat) : freeK ros starts frm (k + 1) = starts.getD k 0 + og6 ros k 5 := rfl
theorem freeK_bd {n : Int} {zs ros starts : List Int} {m : Nat} {home frm : Int} (h : RosBd n ros m) (hf : 0 ≤ frm ∧ frm ≤ 1000000) : ∀ k, k ≤ m → keptTo n zs ros starts home frm k → 0 ≤ freeK ros starts frm k ∧ freeK ros starts frm k ≤ 1010000
  | 0, _, _ => by simp only [freeK]; omega
  | k + 1, hk, ht => by
    have h1 := inB_true (ht k (by omega))
    have h2 := h k (by omega)
    simp only [freeK]
    have : og6 ros k 3 ≤ max (og6 ros k 3) (freeK ros starts frm k + tmI n zs (plc ros home k) (og6 ros k 1)) := by omega
    omega

/-- What Keeps answers. -/
def keepsV (c : Bool) (n : Int) (zs os vs : List Int) (ko kv : Nat) (veh : Int) (ids starts : List Int) : Bool :=
  if formV c vs os kv ko veh ids = 0 ∧ starts.length = ids.length then keptB n zs (rosOf os ko ids) ids.length starts (fnd5F vs kv veh 1) (fnd5F vs kv veh 3) (fnd5F vs kv veh 4) else false
theorem keepsV_no {c : Bool} {n : Int} {zs os vs : List Int} {ko kv : Nat} {veh : Int} {ids starts : List Int} (h : ¬ (formV c vs os kv ko veh ids = 0 ∧ starts.length = ids.length)) : keepsV c n zs os vs ko kv veh ids starts = false := by
  unfold keepsV; rw [if_neg h]
theorem keepsV_yes {c : Bool} {n : Int} {zs os vs : List Int} {ko kv : Nat} {veh : Int} {ids starts : List Int} (h1 : formV c vs os kv ko veh ids = 0) (h2 : starts.length = ids.length) : keepsV c n zs os vs ko kv veh ids starts = keptB n zs (rosOf os ko ids) ids.length starts (fnd5F vs kv veh 1) (fnd5F vs kv veh 3) (fnd5F vs kv veh 4) := by
  unfold keepsV; rw [if_pos ⟨h1, h2⟩]

end Go.Proofs.Ytfcplmageokdiaf
