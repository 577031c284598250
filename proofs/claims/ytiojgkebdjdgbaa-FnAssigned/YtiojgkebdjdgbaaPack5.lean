import Derived.Test.YtiojgkebdjdgbaaPack0
namespace Go.Proofs.Ytiojgkebdjdgbaa
open Go.RowKit

/-- When the vehicle is free behind the first k stops. -/
def nowT (n : Int) (zs ros : List Int) (home frm : Int) : Nat → Int
  | 0 => frm
  | k + 1 => max (nowT n zs ros home frm k + tmI n zs (plc ros home k) (og6 ros k 1)) (og6 ros k 3) + og6 ros k 5
/-- When it arrives at the stop k, and when it starts there. -/
def arrV (n : Int) (zs ros : List Int) (home frm : Int) (k : Nat) : Int := nowT n zs ros home frm k + tmI n zs (plc ros home k) (og6 ros k 1)
def startV (n : Int) (zs ros : List Int) (home frm : Int) (k : Nat) : Int := max (arrV n zs ros home frm k) (og6 ros k 3)
theorem nowT_succ (n : Int) (zs ros : List Int) (home frm : Int) (k : Nat) : nowT n zs ros home frm (k + 1) = startV n zs ros home frm k + og6 ros k 5 := rfl
/-- When it is home behind m stops. -/
def homeV (n : Int) (zs ros : List Int) (m : Nat) (home frm : Int) : Int := nowT n zs ros home frm m + tmI n zs (plc ros home m) home
theorem nowT_bd {n : Int} {zs ros : List Int} {m : Nat} {home frm : Int} (hz : matB n zs = true) (h : RosBd n ros m) (hf : 0 ≤ frm ∧ frm ≤ 1000000) : ∀ k, k ≤ m → 0 ≤ nowT n zs ros home frm k ∧ nowT n zs ros home frm k ≤ 1000000 + 20000 * k
  | 0, _ => by simp only [nowT]; omega
  | k + 1, hk => by
    have ih := nowT_bd (home := home) hz h hf k (by omega)
    have h1 := tmI_bd hz (plc ros home k) (og6 ros k 1)
    have h2 := h k (by omega)
    simp only [nowT]
    omega
theorem arrV_bd {n : Int} {zs ros : List Int} {m : Nat} {home frm : Int} (hz : matB n zs = true) (h : RosBd n ros m) (hf : 0 ≤ frm ∧ frm ≤ 1000000) (hm : m ≤ 12) {k : Nat} (hk : k < m) : 0 ≤ arrV n zs ros home frm k ∧ arrV n zs ros home frm k ≤ 2000000 ∧ arrV n zs ros home frm k ≤ startV n zs ros home frm k ∧ startV n zs ros home frm k ≤ 2000000 := by
  have h0 := nowT_bd (home := home) hz h hf k (by omega)
  have h1 := tmI_bd hz (plc ros home k) (og6 ros k 1)
  have h2 := h k hk
  unfold startV arrV
  omega
/-- None of the first k stops is late. -/
def timelyTo (n : Int) (zs ros : List Int) (home frm : Int) (k : Nat) : Prop := ∀ j, j < k → startV n zs ros home frm j ≤ og6 ros j 4
theorem timelyTo_step {n : Int} {zs ros : List Int} {home frm : Int} {k : Nat} (h : timelyTo n zs ros home frm k) (h1 : startV n zs ros home frm k ≤ og6 ros k 4) : timelyTo n zs ros home frm (k + 1) := by
  intro j hj
  by_cases e : j = k
  · rw [e]; exact h1
  · exact h j (by omega)
/-- What of the hours is wrong. -/
def hoursV (n : Int) (zs ros : List Int) (m : Nat) (home frm to : Int) : Int :=
  if ∀ j, j < m → startV n zs ros home frm j ≤ og6 ros j 4 then (if to < homeV n zs ros m home frm then 6 else 0) else 5
theorem hoursV_late {n : Int} {zs ros : List Int} {m : Nat} {home frm to : Int} {k : Nat} (hk : k < m) (h : og6 ros k 4 < startV n zs ros home frm k) : hoursV n zs ros m home frm to = 5 := by
  unfold hoursV
  rw [if_neg (fun x => by have := x k hk; omega)]
theorem hoursV_home {n : Int} {zs ros : List Int} {m : Nat} {home frm to : Int} (h : timelyTo n zs ros home frm m) (h2 : to < homeV n zs ros m home frm) : hoursV n zs ros m home frm to = 6 := by
  have h : ∀ j, j < m → startV n zs ros home frm j ≤ og6 ros j 4 := h
  unfold hoursV
  rw [if_pos h, if_pos h2]
theorem hoursV_ok {n : Int} {zs ros : List Int} {m : Nat} {home frm to : Int} (h : timelyTo n zs ros home frm m) (h2 : ¬ to < homeV n zs ros m home frm) : hoursV n zs ros m home frm to = 0 := by
  have h : ∀ j, j < m → startV n zs ros home frm j ≤ og6 ros j 4 := h
  unfold hoursV
  rw [if_pos h, if_neg h2]
theorem hoursV_zero {n : Int} {zs ros : List Int} {m : Nat} {home frm to : Int} (h : hoursV n zs ros m home frm to = 0) : timelyTo n zs ros home frm m ∧ homeV n zs ros m home frm ≤ to := by
  unfold hoursV at h
  by_cases c1 : ∀ j, j < m → startV n zs ros home frm j ≤ og6 ros j 4
  · rw [if_pos c1] at h
    by_cases c2 : to < homeV n zs ros m home frm
    · rw [if_pos c2] at h; omega
    · exact ⟨c1, by omega⟩
  · rw [if_neg c1] at h; omega
/-- Schedule's code. -/
def codeV (c : Bool) (n : Int) (zs os vs : List Int) (ko kv : Nat) (veh : Int) (ids : List Int) : Int :=
  if formV c vs os kv ko veh ids = 0 then hoursV n zs (rosOf os ko ids) ids.length (fnd5F vs kv veh 1) (fnd5F vs kv veh 3) (fnd5F vs kv veh 4) else formV c vs os kv ko veh ids
theorem codeV_form {c : Bool} {n : Int} {zs os vs : List Int} {ko kv : Nat} {veh : Int} {ids : List Int} (h : formV c vs os kv ko veh ids ≠ 0) : codeV c n zs os vs ko kv veh ids = formV c vs os kv ko veh ids := by
  unfold codeV; rw [if_neg h]
theorem codeV_hours {c : Bool} {n : Int} {zs os vs : List Int} {ko kv : Nat} {veh : Int} {ids : List Int} (h : formV c vs os kv ko veh ids = 0) : codeV c n zs os vs ko kv veh ids = hoursV n zs (rosOf os ko ids) ids.length (fnd5F vs kv veh 1) (fnd5F vs kv veh 3) (fnd5F vs kv veh 4) := by
  unfold codeV; rw [if_pos h]
theorem codeV_zero {c : Bool} {n : Int} {zs os vs : List Int} {ko kv : Nat} {veh : Int} {ids : List Int} (h : codeV c n zs os vs ko kv veh ids = 0) : formV c vs os kv ko veh ids = 0 ∧ hoursV n zs (rosOf os ko ids) ids.length (fnd5F vs kv veh 1) (fnd5F vs kv veh 3) (fnd5F vs kv veh 4) = 0 := by
  by_cases h1 : formV c vs os kv ko veh ids = 0
  · exact ⟨h1, by rw [codeV_hours h1] at h; exact h⟩
  · exact absurd (by rw [codeV_form h1] at h; exact h) h1

/-- The times that the first k drives take; what CostOf answers. -/
def costTo (n : Int) (zs ros : List Int) (home : Int) : Nat → Int
  | 0 => 0
  | k + 1 => costTo n zs ros home k + tmI n zs (plc ros home k) (og6 ros k 1)
theorem costTo_bd {n : Int} {zs ros : List Int} {home : Int} (hz : matB n zs = true) : ∀ k : Nat, 0 ≤ costTo n zs ros home k ∧ costTo n zs ros home k ≤ 10000 * k
  | 0 => by simp only [costTo]; omega
  | k + 1 => by
    have ih := costTo_bd (ros := ros) (home := home) hz k
    have h1 := tmI_bd hz (plc ros home k) (og6 ros k 1)
    simp only [costTo]
    omega
def rideV (n : Int) (zs ros : List Int) (m : Nat) (home : Int) : Int := costTo n zs ros home m + tmI n zs (plc ros home m) home
def costV (c : Bool) (n : Int) (zs os vs : List Int) (ko kv : Nat) (veh : Int) (ids : List Int) : Int :=
  if codeV c n zs os vs ko kv veh ids = 0 then rideV n zs (rosOf os ko ids) ids.length (fnd5F vs kv veh 1) else -1
theorem costV_no {c : Bool} {n : Int} {zs os vs : List Int} {ko kv : Nat} {veh : Int} {ids : List Int} (h : codeV c n zs os vs ko kv veh ids ≠ 0) : costV c n zs os vs ko kv veh ids = -1 := by
  unfold costV; rw [if_neg h]
theorem costV_yes {c : Bool} {n : Int} {zs os vs : List Int} {ko kv : Nat} {veh : Int} {ids : List Int} (h : codeV c n zs os vs ko kv veh ids = 0) : costV c n zs os vs ko kv veh ids = rideV n zs (rosOf os ko ids) ids.length (fnd5F vs kv veh 1) := by
  unfold costV; rw [if_pos h]
/-- The waiting at the first k stops; what WaitOf answers. -/
def waitTo (n : Int) (zs ros : List Int) (home frm : Int) : Nat → Int
  | 0 => 0
  | k + 1 => waitTo n zs ros home frm k + (startV n zs ros home frm k - arrV n zs ros home frm k)
def waitV (c : Bool) (n : Int) (zs os vs : List Int) (ko kv : Nat) (veh : Int) (ids : List Int) : Int :=
  if codeV c n zs os vs ko kv veh ids = 0 then waitTo n zs (rosOf os ko ids) (fnd5F vs kv veh 1) (fnd5F vs kv veh 3) ids.length else -1
theorem waitV_no {c : Bool} {n : Int} {zs os vs : List Int} {ko kv : Nat} {veh : Int} {ids : List Int} (h : codeV c n zs os vs ko kv veh ids ≠ 0) : waitV c n zs os vs ko kv veh ids = -1 := by
  unfold waitV; rw [if_neg h]
theorem waitV_yes {c : Bool} {n : Int} {zs os vs : List Int} {ko kv : Nat} {veh : Int} {ids : List Int} (h : codeV c n zs os vs ko kv veh ids = 0) : waitV c n zs os vs ko kv veh ids = waitTo n zs (rosOf os ko ids) (fnd5F vs kv veh 1) (fnd5F vs kv veh 3) ids.length := by
  unfold waitV; rw [if_pos h]

end Go.Proofs.Ytiojgkebdjdgbaa

namespace Go.Proofs.Ytiojgkebdjdgbaa
open Go.RowKit

/-- The stops without the one at i; with id put in at i; with those from i to j turned round. -/
def remL (ids : List Int) (i : Nat) : List Int := ids.take i ++ ids.drop (i + 1)
def insL (ids : List Int) (i : Nat) (id : Int) : List Int := ids.take i ++ id :: ids.drop i
def revL (ids : List Int) (i j : Nat) : List Int := ids.take i ++ ((ids.drop i).take (j + 1 - i)).reverse ++ ids.drop (j + 1)
theorem remL_length {ids : List Int} {i : Nat} (h : i < ids.length) : (remL ids i).length = ids.length - 1 := by
  simp [remL]; omega
theorem insL_length {ids : List Int} {i : Nat} (id : Int) (h : i ≤ ids.length) : (insL ids i id).length = ids.length + 1 := by
  simp [insL]; omega
theorem revL_length {ids : List Int} {i j : Nat} (hi : i ≤ j) (h : j < ids.length) : (revL ids i j).length = ids.length := by
  simp [revL]; omega

/-- What a route costs, 0 where it has a code. -/
def rcV (n : Int) (zs os vs : List Int) (ko kv : Nat) (veh : Int) (ids : List Int) : Int :=
  if codeV true n zs os vs ko kv veh ids = 0 then rideV n zs (rosOf os ko ids) ids.length (fnd5F vs kv veh 1) else 0
theorem rcV_no {n : Int} {zs os vs : List Int} {ko kv : Nat} {veh : Int} {ids : List Int} (h : codeV true n zs os vs ko kv veh ids ≠ 0) : rcV n zs os vs ko kv veh ids = 0 := by
  unfold rcV; rw [if_neg h]
theorem rcV_yes {n : Int} {zs os vs : List Int} {ko kv : Nat} {veh : Int} {ids : List Int} (h : codeV true n zs os vs ko kv veh ids = 0) : rcV n zs os vs ko kv veh ids = rideV n zs (rosOf os ko ids) ids.length (fnd5F vs kv veh 1) := by
  unfold rcV; rw [if_pos h]
theorem code12 {c : Bool} {n : Int} {zs os vs : List Int} {ko kv : Nat} {veh : Int} {ids : List Int} (h : codeV c n zs os vs ko kv veh ids = 0) : ids.length ≤ 12 :=
  (stopsB_true (formV_zero (codeV_zero h).1).2.2).1
theorem code_case {c : Bool} {n : Int} {zs os vs : List Int} {ko kv : Nat} {veh : Int} {ids : List Int} (h : codeV c n zs os vs ko kv veh ids = 0) : c = true :=
  (formV_zero (codeV_zero h).1).1
theorem rideV_bd {n : Int} {zs : List Int} (hz : matB n zs = true) (ros : List Int) (m : Nat) (hm : m ≤ 12) (home : Int) : 0 ≤ rideV n zs ros m home ∧ rideV n zs ros m home ≤ 130000 := by
  have h1 := costTo_bd (ros := ros) (home := home) hz m
  have h2 := tmI_bd hz (plc ros home m) home
  unfold rideV
  omega
theorem rcV_bd {n : Int} {zs : List Int} (hz : matB n zs = true) (os vs : List Int) (ko kv : Nat) (veh : Int) (ids : List Int) : 0 ≤ rcV n zs os vs ko kv veh ids ∧ rcV n zs os vs ko kv veh ids ≤ 130000 := by
  by_cases h : codeV true n zs os vs ko kv veh ids = 0
  · rw [rcV_yes h]
    exact rideV_bd hz _ _ (code12 h) _
  · rw [rcV_no h]; omega

/-- Whether a change of a route can be made: both routes can be driven, and the place is one. -/
def chB (c : Bool) (n : Int) (zs os vs : List Int) (ko kv : Nat) (veh : Int) (ids : List Int) (ok : Bool) (ids' : List Int) : Bool :=
  decide (codeV c n zs os vs ko kv veh ids = 0) && (ok && decide (codeV c n zs os vs ko kv veh ids' = 0))
/-- Its answer: the vehicle, the stops, how much more it costs. -/
def chI (ch : Bool) (v : Int) : Int := if ch then v else 0
def chL (ch : Bool) (ids' : List Int) : List Int := if ch then ids' else []
def chD (ch : Bool) (n : Int) (zs os vs : List Int) (ko kv : Nat) (veh : Int) (ids ids' : List Int) : Int :=
  if ch then rcV n zs os vs ko kv veh ids' - rcV n zs os vs ko kv veh ids else 0
theorem chB_no1 {c : Bool} {n : Int} {zs os vs : List Int} {ko kv : Nat} {veh : Int} {ids : List Int} (h : codeV c n zs os vs ko kv veh ids ≠ 0) (ok : Bool) (ids' : List Int) : chB c n zs os vs ko kv veh ids ok ids' = false := by
  unfold chB; rw [decide_eq_false h]; rfl
theorem chB_no2 {c : Bool} {n : Int} {zs os vs : List Int} {ko kv : Nat} {veh : Int} {ids : List Int} {ok : Bool} (h : ok = false) (ids' : List Int) : chB c n zs os vs ko kv veh ids ok ids' = false := by
  unfold chB; rw [h]; simp
theorem chB_no3 {c : Bool} {n : Int} {zs os vs : List Int} {ko kv : Nat} {veh : Int} {ids ids' : List Int} (ok : Bool) (h : codeV c n zs os vs ko kv veh ids' ≠ 0) : chB c n zs os vs ko kv veh ids ok ids' = false := by
  unfold chB; rw [decide_eq_false h]; simp
theorem chB_yes {c : Bool} {n : Int} {zs os vs : List Int} {ko kv : Nat} {veh : Int} {ids ids' : List Int} {ok : Bool} (h : codeV c n zs os vs ko kv veh ids = 0) (ho : ok = true) (h' : codeV c n zs os vs ko kv veh ids' = 0) : chB c n zs os vs ko kv veh ids ok ids' = true := by
  unfold chB; rw [decide_eq_true h, ho, decide_eq_true h']; rfl
theorem chB_true {c : Bool} {n : Int} {zs os vs : List Int} {ko kv : Nat} {veh : Int} {ids ids' : List Int} {ok : Bool} (h : chB c n zs os vs ko kv veh ids ok ids' = true) : codeV c n zs os vs ko kv veh ids = 0 ∧ ok = true ∧ codeV c n zs os vs ko kv veh ids' = 0 := by
  unfold chB at h
  simp only [Bool.and_eq_true, decide_eq_true_eq] at h
  exact ⟨h.1, h.2.1, h.2.2⟩
theorem chL_le {c : Bool} {n : Int} {zs os vs : List Int} {ko kv : Nat} {veh : Int} {ids ids' : List Int} {ok : Bool} : (chL (chB c n zs os vs ko kv veh ids ok ids') ids').length ≤ 12 := by
  cases h : chB c n zs os vs ko kv veh ids ok ids'
  · simp [chL]
  · exact code12 (chB_true h).2.2

end Go.Proofs.Ytiojgkebdjdgbaa

namespace Go.Proofs.Ytiojgkebdjdgbaa

/-- The list without v. -/
def cutL (l : List Int) (v : Int) : List Int := l.filter fun x => x != v
theorem cutL_not {l : List Int} {v : Int} (h : v ∉ l) : cutL l v = l := by
  unfold cutL
  rw [List.filter_eq_self]
  intro a ha
  have : a ≠ v := fun e => h (e ▸ ha)
  simpa using this
theorem cutL_rem {l : List Int} (h : l.Nodup) : ∀ {i : Nat}, i < l.length → cutL l (l.getD i 0) = remL l i := by
  induction l with
  | nil => intro i hi; simp at hi
  | cons a l ih =>
    intro i hi
    rw [List.nodup_cons] at h
    cases i with
    | zero =>
      show cutL (a :: l) a = _
      have e : cutL (a :: l) a = cutL l a := by simp [cutL]
      rw [e, cutL_not h.1]
      simp [remL]
    | succ i =>
      have hi' : i < l.length := by simpa using hi
      have e1 : (a :: l).getD (i + 1) 0 = l.getD i 0 := rfl
      have hne : a ≠ l.getD i 0 := by
        intro e
        apply h.1
        rw [e, List.getD_eq_getElem?_getD, List.getElem?_eq_getElem hi']
        simp
      have e2 : cutL (a :: l) (l.getD i 0) = a :: cutL l (l.getD i 0) := by
        unfold cutL
        rw [List.filter_cons_of_pos (by simpa using hne)]
      rw [e1, e2, ih h.2 hi']
      simp [remL]
theorem cutL_take_succ (l : List Int) (v : Int) (k : Nat) (h : k < l.length) : cutL (l.take (k + 1)) v = if l.getD k 0 = v then cutL (l.take k) v else cutL (l.take k) v ++ [l.getD k 0] := by
  have e : l.take (k + 1) = l.take k ++ [l.getD k 0] := by
    rw [List.take_add_one, List.getD_eq_getElem?_getD, List.getElem?_eq_getElem h]; rfl
  rw [e]
  unfold cutL
  rw [List.filter_append]
  by_cases hv : l.getD k 0 = v
  · rw [if_pos hv, hv]; simp
  · rw [if_neg hv]
    congr 1
    rw [List.filter_cons_of_pos (by simpa using hv)]; rfl
theorem cutL_le (l : List Int) (v : Int) : (cutL l v).length ≤ l.length := List.length_filter_le _ _
theorem remL_nodup {l : List Int} (h : l.Nodup) (i : Nat) : (remL l i).Nodup := by
  have : (remL l i).Sublist l := by
    unfold remL
    rw [← List.eraseIdx_eq_take_drop_succ]
    exact List.eraseIdx_sublist l i
  exact h.sublist this
theorem allL_nodup (c : Nat) : (allL c).Nodup := by
  unfold allL
  exact (List.pairwise_map.2 (List.nodup_range.imp fun h => by omega))

/-- Where the next one is picked of m things. -/
def pkAt (s : Int) (m : Nat) : Nat := (s / 65536 % (m : Int)).toNat
theorem pkAt_lt {s : Int} {m : Nat} (h : 0 < m) : pkAt s m < m := by
  have h1 := Int.emod_lt_of_pos (s / 65536) (show (0 : Int) < m by omega)
  have h2 := Int.emod_nonneg (s / 65536) (show (m : Int) ≠ 0 by omega)
  unfold pkAt
  omega
theorem pkAt_is {s : Int} {m : Nat} (h : 0 < m) : s / 65536 % (m : Int) = (pkAt s m : Nat) := by
  have h2 := Int.emod_nonneg (s / 65536) (show (m : Int) ≠ 0 by omega)
  unfold pkAt
  omega
/-- k picks of the list: what is picked, and the last seed. -/
def pkL : Nat → List Int → Int → List Int × Int
  | 0, _, s => ([], s)
  | k + 1, L, s => (L.getD (pkAt (randV s) L.length) 0 :: (pkL k (remL L (pkAt (randV s) L.length)) (randV s)).1, (pkL k (remL L (pkAt (randV s) L.length)) (randV s)).2)
theorem pkL_length (k : Nat) : ∀ L s, (pkL k L s).1.length = k := by
  induction k with
  | zero => intro L s; rfl
  | succ k ih => intro L s; simp [pkL, ih]

def pickB (s n k : Int) : Bool := inB n 0 64 && inB k 0 n && inB s 0 2147483647
def pickV (s n k : Int) : List Int := bif pickB s n k then (pkL k.toNat (allL n.toNat) s).1 else []
def pickS (s n k : Int) : Int := bif pickB s n k then (pkL k.toNat (allL n.toNat) s).2 else -1
theorem pick_no {s n k : Int} (h : pickB s n k = false) : pickV s n k = [] ∧ pickS s n k = -1 := by unfold pickV pickS; rw [h]; exact ⟨rfl, rfl⟩
theorem pick_yes {s : Int} {n k : Nat} (h : pickB s n k = true) : pickV s n k = (pkL k (allL n) s).1 ∧ pickS s n k = (pkL k (allL n) s).2 := by unfold pickV pickS; rw [h]; exact ⟨rfl, rfl⟩
theorem pickB_nat {s n k : Int} (h : pickB s n k = true) : ∃ n' k' : Nat, n = n' ∧ k = k' ∧ n' ≤ 64 ∧ k' ≤ n' ∧ 0 ≤ s ∧ s ≤ 2147483647 := by
  unfold pickB at h
  simp only [Bool.and_eq_true] at h
  have h1 := inB_true h.1.1
  have h2 := inB_true h.1.2
  have h3 := inB_true h.2
  exact ⟨n.toNat, k.toNat, by omega, by omega, by omega, by omega, by omega, by omega⟩
theorem pickV_length (s n k : Int) : (pickV s n k).length ≤ 64 := by
  cases h : pickB s n k
  · rw [(pick_no h).1]; simp
  · obtain ⟨n', k', rfl, rfl, h1, h2, _⟩ := pickB_nat h
    rw [(pick_yes h).1, pkL_length]
    omega

end Go.Proofs.Ytiojgkebdjdgbaa

namespace Go.Proofs.Ytiojgkebdjdgbaa

theorem getD_mem {L : List Int} {i : Nat} (h : i < L.length) : L.getD i 0 ∈ L := by
  rw [List.getD_eq_getElem?_getD, List.getElem?_eq_getElem h]; simp
theorem remL_sub {L : List Int} {i : Nat} {x : Int} (h : x ∈ remL L i) : x ∈ L := by
  unfold remL at h
  rcases List.mem_append.1 h with h | h
  · exact List.mem_of_mem_take h
  · exact List.mem_of_mem_drop h
theorem pkL_mem (k : Nat) : ∀ (L : List Int) (s : Int), k ≤ L.length → ∀ x ∈ (pkL k L s).1, x ∈ L := by
  induction k with
  | zero => intro L s _ x hx; simp [pkL] at hx
  | succ k ih =>
    intro L s hk x hx
    have hat : pkAt (randV s) L.length < L.length := pkAt_lt (by omega)
    simp only [pkL, List.mem_cons] at hx
    rcases hx with rfl | hx
    · exact getD_mem hat
    · exact remL_sub (ih _ _ (by rw [remL_length hat]; omega) x hx)
theorem pkL_nodup (k : Nat) : ∀ (L : List Int) (s : Int), L.Nodup → k ≤ L.length → (pkL k L s).1.Nodup := by
  induction k with
  | zero => intro L s _ _; simp [pkL]
  | succ k ih =>
    intro L s hn hk
    have hat : pkAt (randV s) L.length < L.length := pkAt_lt (by omega)
    have hr : k ≤ (remL L (pkAt (randV s) L.length)).length := by rw [remL_length hat]; omega
    simp only [pkL, List.nodup_cons]
    refine ⟨fun h => ?_, ih _ _ (remL_nodup hn _) hr⟩
    have h2 := pkL_mem k _ _ hr _ h
    rw [← cutL_rem hn hat] at h2
    unfold cutL at h2
    simp at h2
theorem pkL_take (k : Nat) : ∀ (j : Nat) (L : List Int) (s : Int), j ≤ k → (pkL j L s).1 = (pkL k L s).1.take j := by
  induction k with
  | zero =>
    intro j L s hj
    have : j = 0 := by omega
    subst this
    rfl
  | succ k ih =>
    intro j L s hj
    cases j with
    | zero => rfl
    | succ j => simp only [pkL, List.take_succ_cons]; rw [ih j _ _ (by omega)]
theorem pkL_seed (k : Nat) : ∀ (L : List Int) (s : Int), 0 ≤ s → 0 ≤ (pkL k L s).2 := by
  induction k with
  | zero => intro L s h; exact h
  | succ k ih => intro L s _; exact ih _ _ (inB_true (randV_in s)).1

theorem mem_allL {N : Nat} {x : Int} (h : x ∈ allL N) : ∃ y : Nat, y < N ∧ (y : Int) = x := by
  unfold allL at h
  simp only [List.mem_map, List.mem_range] at h
  exact h
/-- What is picked. -/
theorem pick_facts {s : Int} {N K : Nat} (h : pickB s N K = true) : K ≤ N ∧ N ≤ 64 ∧ (pickV s N K).length = K ∧ 0 ≤ pickS s N K ∧ (∀ i, i < K → 0 ≤ (pickV s N K).getD i 0 ∧ (pickV s N K).getD i 0 < N ∧ hasTo (pickV s N K) i ((pickV s N K).getD i 0) = false) ∧ pickV s N ((K / 2 : Nat) : Int) = (pickV s N K).take (K / 2) ∧ pickB s N ((K / 2 : Nat) : Int) = true := by
  obtain ⟨N', K', e1, e2, h1, h2, h3, h4⟩ := pickB_nat h
  have : N = N' := by omega
  subst this
  have : K = K' := by omega
  subst this
  have hb2 : pickB s N ((K / 2 : Nat) : Int) = true := by
    unfold pickB
    rw [inB_mk (show (0 : Int) ≤ N ∧ (N : Int) ≤ 64 by omega), inB_mk (show (0 : Int) ≤ ((K / 2 : Nat) : Int) ∧ ((K / 2 : Nat) : Int) ≤ N by omega), inB_mk (show 0 ≤ s ∧ s ≤ 2147483647 by omega)]
    rfl
  rw [(pick_yes h).1, (pick_yes h).2, (pick_yes hb2).1]
  have hl : (pkL K (allL N) s).1.length = K := pkL_length K _ _
  have hm := pkL_mem K (allL N) s (by rw [allL_length]; exact h2)
  have hn := pkL_nodup K (allL N) s (allL_nodup N) (by rw [allL_length]; exact h2)
  refine ⟨h2, h1, hl, pkL_seed _ _ _ h3, ?_, pkL_take K (K / 2) _ _ (by omega), hb2⟩
  intro i hi
  have hx := hm _ (getD_mem (i := i) (by rw [hl]; exact hi))
  obtain ⟨y, hy, e⟩ := mem_allL hx
  clear hx
  refine ⟨by omega, by omega, hasTo_no fun j hj e2 => ?_⟩
  have hi' : i < (pkL K (allL N) s).1.length := by omega
  have hj' : j < (pkL K (allL N) s).1.length := by omega
  rw [List.getD_eq_getElem?_getD, List.getD_eq_getElem?_getD, List.getElem?_eq_getElem hi', List.getElem?_eq_getElem hj'] at e2
  simp only [Option.getD_some] at e2
  exact List.pairwise_iff_getElem.1 hn j i hj' hi' hj e2

end Go.Proofs.Ytiojgkebdjdgbaa
