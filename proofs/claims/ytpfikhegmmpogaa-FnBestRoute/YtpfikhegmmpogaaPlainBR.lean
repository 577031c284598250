import Derived.Test.YtpfikhegmmpogaaPack1
import Derived.Test.YtpfikhegmmpogaaPack17
import Derived.Test.YtpfikhegmmpogaaPack18
import Derived.Test.YtpfikhegmmpogaaPack19
namespace Go.Proofs.Ytpfikhegmmpogaa
open Go.RowKit

theorem code_nodup {c : Bool} {n : Int} {zs os vs : List Int} {ko kv : Nat} {veh : Int} {ids : List Int} (h : codeV c n zs os vs ko kv veh ids = 0) : ids.Nodup := by
  have hs := (stopsB_true (formV_zero (codeV_zero h).1).2.2).2
  refine List.pairwise_iff_getElem.2 fun i j hi hj hij e => ?_
  have hb := hs j hj
  unfold stopB at hb
  simp only [Bool.and_eq_true, Bool.not_eq_true'] at hb
  have hy := hasTo_yes (ids := ids) (k := j) (j := i) (id := ids.getD j 0) hij (by
    rw [List.getD_eq_getElem?_getD, List.getD_eq_getElem?_getD, List.getElem?_eq_getElem hi, List.getElem?_eq_getElem hj]
    exact e)
  rw [hb.2] at hy
  cases hy
theorem revL_mem' {ids : List Int} {i j : Nat} (hi : i ≤ j) (hj : j < ids.length) {x : Int} (h : x ∈ revL ids i j) : x ∈ ids := by
  obtain ⟨p, hp⟩ := List.getElem?_of_mem h
  have := revL_get hi hj p
  rw [hp] at this
  split at this
  · exact List.mem_of_getElem? this.symm
  · exact List.mem_of_getElem? this.symm
theorem polN_mem' {n : Int} {zs os vs : List Int} {ko kv : Nat} {veh : Int} : ∀ (k : Nat) (ids : List Int) (x : Int), x ∈ polN n zs os vs ko kv veh k ids → x ∈ ids
  | 0, ids, x, h => h
  | k + 1, ids, x, h => by
    cases hf : (btV true n zs os vs ko kv veh ids).f
    · rw [polN_stop hf] at h; exact h
    · rw [polN_succ k hf] at h
      have ht := turnB_true (bt_made hf).2.1
      exact revL_mem' (by omega) (by omega) (polN_mem' k _ x h)
/-- A polished route is one of the rows. -/
theorem pol_row {n : Int} {zs os vs : List Int} {ko kv : Nat} {veh : Int} (hz : matB n zs = true) (ids : List Int) (h : codeV true n zs os vs ko kv veh ids = 0) : ∃ k, k < facN ids.length ∧ unr ids.length ids k = polV n zs os vs ko kv veh ids := by
  obtain ⟨_, h2, _, h4, _⟩ := pol_all hz ids h
  exact unr_all_of ids.length ids _ rfl h4 (code_nodup h2) (fun y hy => polN_mem' _ _ _ hy)
theorem code_none {c : Bool} {n : Int} {zs os vs : List Int} {ko kv : Nat} {fine : Int} (hc : caseB n zs os vs ko kv fine = c) (ids : List Int) : codeV c n zs os vs ko kv 0 ids ≠ 0 := fun h => by
  have h1 := code_case h
  subst h1
  have := veh_pos hc h
  omega

end Go.Proofs.Ytpfikhegmmpogaa
