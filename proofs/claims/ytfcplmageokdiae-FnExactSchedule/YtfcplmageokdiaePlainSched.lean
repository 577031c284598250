import Derived.Test.YtfcplmageokdiaePlainRoute
namespace Go.Proofs.Ytfcplmageokdiae
open Go.RowKit

/-- When the vehicle is free behind the first k stops. -/
def nowT (n : Int) (zs ros : List Int) (home frm : Int) : Nat → Int
  | 0 => frm
  | k + 1 => max (nowT n zs ros home frm k + tmI n zs (plc ros home k) (og6 ros k 1)) (og6 ros k 3) + og6 ros k 5
/-- When it arrives at the stop k, and when it starts there. -/
def arrV (n : Int) (zs ros : List Int) (home frm : Int) (k : Nat) : Int := nowT n zs ros home frm k + tmI n zs (plc ros home k) (og6 ros k 1)
def startV (n : Int) (zs ros : List Int) (home frm : Int) (k : Nat) : Int := max (arrV n zs ros home frm k) (og6 ros k 3)
theorem nowT_succ (n : Int) (zs ros : List Int) (home frm : Int) (k : Nat) : nowT n zs ros home frm (k + 1) = startV n zs ros home frm k + og6 ros k 5 := rfl
/-- When it is home behind m stops. -/
def homeV (n : Int) (zs ros : List Int) (m : Nat) (home frm : Int) : Int := nowT n zs ros home frm m + tmI n zs (plc ros home m) home
theorem nowT_bd {n : Int} {zs ros : List Int} {m : Nat} {home frm : Int} (hz : matB n zs = true) (h : RosBd n ros m) (hf : 0 ≤ frm ∧ frm ≤ 1000000) : ∀ k, k ≤ m → 0 ≤ nowT n zs ros home frm k ∧ nowT n zs ros home frm k ≤ 1000000 + 20000 * k
  | 0, _ => by simp only [nowT]; omega
  | k + 1, hk => by
    have ih := nowT_bd (home := home) hz h hf k (by omega)
    have h1 := tmI_bd hz (plc ros home k) (og6 ros k 1)
    have h2 := h k (by omega)
    simp only [nowT]
    omega
theorem arrV_bd {n : Int} {zs ros : List Int} {m : Nat} {home frm : Int} (hz : matB n zs = true) (h : RosBd n ros m) (hf : 0 ≤ frm ∧ frm ≤ 1000000) (hm : m ≤ 12) {k : Nat} (hk : k < m) : 0 ≤ arrV n zs ros home frm k ∧ arrV n zs ros home frm k ≤ 2000000 ∧ arrV n zs ros home frm k ≤ startV n zs ros home frm k ∧ startV n zs ros home frm k ≤ 2000000 := by
  have h0 := nowT_bd (home := home) hz h hf k (by omega)
  have h1 := tmI_bd hz (plc ros home k) (og6 ros k 1)
  have h2 := h k hk
  unfold startV arrV
  omega
/-- None of the first k stops is late. -/
def timelyTo (n : Int) (zs ros : List Int) (home frm : Int) (k : Nat) : Prop := ∀ j, j < k → startV n zs ros home frm j ≤ og6 ros j 4
theorem timelyTo_step {n : Int} {zs ros : List Int} {home frm : Int} {k : Nat} (h : timelyTo n zs ros home frm k) (h1 : startV n zs ros home frm k ≤ og6 ros k 4) : timelyTo n zs ros home frm (k + 1) := by
  intro j hj
  by_cases e : j = k
  · rw [e]; exact h1
  · exact h j (by omega)
/-- What of the hours is wrong. -/
def hoursV (n : Int) (zs ros : List Int) (m : Nat) (home frm to : Int) : Int :=
  if ∀ j, j < m → startV n zs ros home frm j ≤ og6 ros j 4 then (if to < homeV n zs ros m home frm then 6 else 0) else 5
theorem hoursV_late {n : Int} {zs ros : List Int} {m : Nat} {home frm to : Int} {k : Nat} (hk : k < m) (h : og6 ros k 4 < startV n zs ros home frm k) : hoursV n zs ros m home frm to = 5 := by
  unfold hoursV
  rw [if_neg (fun x => by have := x k hk; omega)]
theorem hoursV_home {n : Int} {zs ros : List Int} {m : Nat} {home frm to : Int} (h : timelyTo n zs ros home frm m) (h2 : to < homeV n zs ros m home frm) : hoursV n zs ros m home frm to = 6 := by
  have h : ∀ j, j < m → startV n zs ros home frm j ≤ og6 ros j 4 := h
  unfold hoursV
  rw [if_pos h, if_pos h2]
theorem hoursV_ok {n : Int} {zs ros : List Int} {m : Nat} {home frm to : Int} (h : timelyTo n zs ros home frm m) (h2 : ¬ to < homeV n zs ros m home frm) : hoursV n zs ros m home frm to = 0 := by
  have h : ∀ j, j < m → startV n zs ros home frm j ≤ og6 ros j 4 := h
  unfold hoursV
  rw [if_pos h, if_neg h2]
theorem hoursV_zero {n : Int} {zs ros : List Int} {m : Nat} {home frm to : Int} (h : hoursV n zs ros m home frm to = 0) : timelyTo n zs ros home frm m ∧ homeV n zs ros m home frm ≤ to := by
  unfold hoursV at h
  by_cases c1 : ∀ j, j < m → startV n zs ros home frm j ≤ og6 ros j 4
  · rw [if_pos c1] at h
    by_cases c2 : to < homeV n zs ros m home frm
    · rw [if_pos c2] at h; omega
    · exact ⟨c1, by omega⟩
  · rw [if_neg c1] at h; omega
/-- Schedule's code. -/
def codeV (c : Bool) (n : Int) (zs os vs : List Int) (ko kv : Nat) (veh : Int) (ids : List Int) : Int :=
  if formV c vs os kv ko veh ids = 0 then hoursV n zs (rosOf os ko ids) ids.length (fnd5F vs kv veh 1) (fnd5F vs kv veh 3) (fnd5F vs kv veh 4) else formV c vs os kv ko veh ids
theorem codeV_form {c : Bool} {n : Int} {zs os vs : List Int} {ko kv : Nat} {veh : Int} {ids : List Int} (h : formV c vs os kv ko veh ids ≠ 0) : codeV c n zs os vs ko kv veh ids = formV c vs os kv ko veh ids := by
  unfold codeV; rw [if_neg h]
theorem codeV_hours {c : Bool} {n : Int} {zs os vs : List Int} {ko kv : Nat} {veh : Int} {ids : List Int} (h : formV c vs os kv ko veh ids = 0) : codeV c n zs os vs ko kv veh ids = hoursV n zs (rosOf os ko ids) ids.length (fnd5F vs kv veh 1) (fnd5F vs kv veh 3) (fnd5F vs kv veh 4) := by
  unfold codeV; rw [if_pos h]
theorem codeV_zero {c : Bool} {n : Int} {zs os vs : List Int} {ko kv : Nat} {veh : Int} {ids : List Int} (h : codeV c n zs os vs ko kv veh ids = 0) : formV c vs os kv ko veh ids = 0 ∧ hoursV n zs (rosOf os ko ids) ids.length (fnd5F vs kv veh 1) (fnd5F vs kv veh 3) (fnd5F vs kv veh 4) = 0 := by
  by_cases h1 : formV c vs os kv ko veh ids = 0
  · exact ⟨h1, by rw [codeV_hours h1] at h; exact h⟩
  · exact absurd (by rw [codeV_form h1] at h; exact h) h1

/-- The times that the first k drives take; what CostOf answers. -/
def costTo (n : Int) (zs ros : List Int) (home : Int) : Nat → Int
  | 0 => 0
  | k + 1 => costTo n zs ros home k + tmI n zs (plc ros home k) (og6 ros k 1)
theorem costTo_bd {n : Int} {zs ros : List Int} {home : Int} (hz : matB n zs = true) : ∀ k : Nat, 0 ≤ costTo n zs ros home k ∧ costTo n zs ros home k ≤ 10000 * k
  | 0 => by simp only [costTo]; omega
  | k + 1 => by
    have ih := costTo_bd (ros := ros) (home := home) hz k
    have h1 := tmI_bd hz (plc ros home k) (og6 ros k 1)
    simp only [costTo]
    omega
def rideV (n : Int) (zs ros : List Int) (m : Nat) (home : Int) : Int := costTo n zs ros home m + tmI n zs (plc ros home m) home
def costV (c : Bool) (n : Int) (zs os vs : List Int) (ko kv : Nat) (veh : Int) (ids : List Int) : Int :=
  if codeV c n zs os vs ko kv veh ids = 0 then rideV n zs (rosOf os ko ids) ids.length (fnd5F vs kv veh 1) else -1
theorem costV_no {c : Bool} {n : Int} {zs os vs : List Int} {ko kv : Nat} {veh : Int} {ids : List Int} (h : codeV c n zs os vs ko kv veh ids ≠ 0) : costV c n zs os vs ko kv veh ids = -1 := by
  unfold costV; rw [if_neg h]
theorem costV_yes {c : Bool} {n : Int} {zs os vs : List Int} {ko kv : Nat} {veh : Int} {ids : List Int} (h : codeV c n zs os vs ko kv veh ids = 0) : costV c n zs os vs ko kv veh ids = rideV n zs (rosOf os ko ids) ids.length (fnd5F vs kv veh 1) := by
  unfold costV; rw [if_pos h]
/-- The waiting at the first k stops; what WaitOf answers. -/
def waitTo (n : Int) (zs ros : List Int) (home frm : Int) : Nat → Int
  | 0 => 0
  | k + 1 => waitTo n zs ros home frm k + (startV n zs ros home frm k - arrV n zs ros home frm k)
def waitV (c : Bool) (n : Int) (zs os vs : List Int) (ko kv : Nat) (veh : Int) (ids : List Int) : Int :=
  if codeV c n zs os vs ko kv veh ids = 0 then waitTo n zs (rosOf os ko ids) (fnd5F vs kv veh 1) (fnd5F vs kv veh 3) ids.length else -1
theorem waitV_no {c : Bool} {n : Int} {zs os vs : List Int} {ko kv : Nat} {veh : Int} {ids : List Int} (h : codeV c n zs os vs ko kv veh ids ≠ 0) : waitV c n zs os vs ko kv veh ids = -1 := by
  unfold waitV; rw [if_neg h]
theorem waitV_yes {c : Bool} {n : Int} {zs os vs : List Int} {ko kv : Nat} {veh : Int} {ids : List Int} (h : codeV c n zs os vs ko kv veh ids = 0) : waitV c n zs os vs ko kv veh ids = waitTo n zs (rosOf os ko ids) (fnd5F vs kv veh 1) (fnd5F vs kv veh 3) ids.length := by
  unfold waitV; rw [if_pos h]

end Go.Proofs.Ytfcplmageokdiae
