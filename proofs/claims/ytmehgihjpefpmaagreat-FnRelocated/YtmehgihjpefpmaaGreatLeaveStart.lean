import Derived.Test.YtmehgihjpefpmaaGreatPack23
import Derived.Test.YtmehgihjpefpmaaGreatPack29
namespace Go.Proofs.YtmehgihjpefpmaaGreat
open Go.RowKit
theorem flat_ge : ∀ (R : List RT), (∀ r ∈ R, r.ids ≠ []) -> R.length <= (R.flatMap RT.ids).length
 | [], _ => by simp
 | r :: R, h => by
   have h1 := List.length_pos_iff.2 (h r (List.mem_cons_self ..))
   have h2 := flat_ge R (fun x hx => h x (List.mem_cons_of_mem _ hx))
   rw [List.flatMap_cons, List.length_append, List.length_cons]
   omega
theorem flat_one : ∀ (R : List RT) (r : RT), r ∈ R -> r.ids.length <= (R.flatMap RT.ids).length
 | x :: R, r, h => by
   rw [List.flatMap_cons, List.length_append]
   rcases List.mem_cons.1 h with e | h
   · subst e; omega
   · have := flat_one R r h
     omega
theorem left_lt {os : List Int} {ko : Nat} {L : List Int} (h : LeftOk os ko L L.length) : ∀ (d i : Nat), i + d + 1 < L.length -> L.getD i 0 < L.getD (i + d + 1) 0
 | 0, i, hi => (h (i + 1) hi).2 (by omega)
 | d + 1, i, hi => Int.lt_trans (left_lt h d i (by omega)) ((h (i + d + 1 + 1) hi).2 (by omega))
theorem left_pair {os : List Int} {ko : Nat} {L : List Int} (h : LeftOk os ko L L.length) : L.Pairwise (· < ·) := by
 rw [List.pairwise_iff_getElem]
 intro i j hi hj hij
 have := left_lt h (j - i - 1) i (by omega)
 rw [show i + (j - i - 1) + 1 = j by omega] at this
 simpa [List.getD_eq_getElem?_getD, List.getElem?_eq_getElem hi, List.getElem?_eq_getElem hj] using this
theorem lv_start {n : Int} {zs os vs : List Int} {ko kv : Nat} {fine : Int} {R : List RT} {L S P : List Int} (h : planV n zs os vs ko kv fine R L = 0) (hS : srtS (allTo R R.length) = S) (hp : ∀ i, i < P.length -> 0 <= P.getD i 0 /\ P.getD i 0 < S.length) : LvI S P L.length 0 R L := by
 obtain ⟨h1, h2, h3, h4, h5⟩ := planV_zero h
 obtain ⟨s1, s2, s3⟩ := serv_small h
 have hne : ∀ r ∈ R, r.ids ≠ [] := fun r hr => by
  obtain ⟨j, hj, e⟩ := mem_getD hr
  rw [<- e]; exact s3 j hj
 have hfl := allTo_flat R
 refine ⟨fun j j1 j2 => (h2 j j2).1 j1, hne, s2, fun r hr => ?_, ?_, left_pair h4, rfl, fun j _ hj => ?_, fun x hx hm => h3.2 x hm hx⟩
 · have := flat_one R r hr
   rw [<- hfl] at this
   omega
 · have := flat_ge R hne
   rw [<- hfl] at this
   omega
 · have hb := hp j hj
   have : pkd S P j ∈ S := getD_memL S _ (by omega)
   rw [<- hS] at this
   rw [<- srtS_mem]
   rw [hS] at this ⊢
   exact this
end Go.Proofs.YtmehgihjpefpmaaGreat
