import Derived.Test.YtcljhgildbcdmaaGreatPack2
import Derived.Test.YtcljhgildbcdmaaGreatPack17
import Derived.Test.YtcljhgildbcdmaaGreatPack18
namespace Go.Proofs.YtcljhgildbcdmaaGreat
open Go.RowKit
def wrL (R : List RT) (r : RT) : List RT := R.filter (fun x => decide (x.v < r.v)) ++ ((if r.ids = [] then [] else [r]) ++ R.filter (fun x => decide (r.v < x.v)))
theorem getD_mem {R : List RT} {j : Nat} (h : j < R.length) : R.getD j rt0 ∈ R := by rw [List.getD_eq_getElem?_getD, List.getElem?_eq_getElem h]; simp
theorem mem_getD {R : List RT} {x : RT} (h : x ∈ R) : ∃ j, j < R.length /\ R.getD j rt0 = x := by
 obtain ⟨j, hj, e⟩ := List.getElem_of_mem h
 exact ⟨j, hj, by rw [List.getD_eq_getElem?_getD, List.getElem?_eq_getElem hj, e]; rfl⟩
theorem mem_take {R : List RT} {x : RT} {k : Nat} (h : x ∈ R.take k) : ∃ j, j < k /\ j < R.length /\ R.getD j rt0 = x := by
 obtain ⟨j, hj, e⟩ := List.getElem_of_mem h
 rw [List.length_take] at hj
 rw [List.getElem_take] at e
 exact ⟨j, by omega, by omega, by rw [List.getD_eq_getElem?_getD, List.getElem?_eq_getElem (by omega), e]; rfl⟩
theorem mem_drop {R : List RT} {x : RT} {k : Nat} (h : x ∈ R.drop k) : ∃ j, k <= j /\ j < R.length /\ R.getD j rt0 = x := by
 obtain ⟨j, hj, e⟩ := List.getElem_of_mem h
 rw [List.length_drop] at hj
 rw [List.getElem_drop] at e
 exact ⟨k + j, by omega, by omega, by rw [List.getD_eq_getElem?_getD, List.getElem?_eq_getElem (by omega), e]; rfl⟩
theorem filter_lo {R : List RT} {veh : Int} {k : Nat} (h : AtOf R veh k) : R.filter (fun x => decide (x.v < veh)) = R.take k := by
 conv => lhs; rw [<- List.take_append_drop k R]
 rw [List.filter_append, List.filter_eq_self.2 (fun x hx => ?_), List.filter_eq_nil_iff.2 (fun x hx => ?_), List.append_nil]
 rotate_left 1
 · obtain ⟨j, h1, _, rfl⟩ := mem_take hx
   exact decide_eq_true (h.lo j h1)
 · obtain ⟨j, h1, h2, rfl⟩ := mem_drop hx
   have := h.hi j h1 h2
   intro h9
   have h10 := of_decide_eq_true h9
   omega
def fndN (R : List RT) (veh : Int) (k : Nat) : Nat := if fndR R veh k = true then 1 else 0
theorem filter_hi {R : List RT} {veh : Int} {k : Nat} (hS : Rises R) (h : AtOf R veh k) : R.filter (fun x => decide (veh < x.v)) = R.drop (k + fndN R veh k) := by
 conv => lhs; rw [<- List.take_append_drop (k + fndN R veh k) R]
 rw [List.filter_append, List.filter_eq_nil_iff.2 (fun x hx => ?_), List.filter_eq_self.2 (fun x hx => ?_), List.nil_append]
 rotate_left 1
 · obtain ⟨j, h1, h2, rfl⟩ := mem_take hx
   unfold fndN at h1
   by_cases hj : j < k
   · have := h.lo j hj
     intro h9
     have h10 := of_decide_eq_true h9
     omega
   · by_cases hf : fndR R veh k = true
     · rw [if_pos hf] at h1
       have := (of_decide_eq_true hf).2
       rw [show j = k by omega, this]
       simp
     · rw [if_neg hf] at h1; omega
 · obtain ⟨j, h1, h2, rfl⟩ := mem_drop hx
   refine decide_eq_true ?_
   unfold fndN at h1
   by_cases hf : fndR R veh k = true
   · rw [if_pos hf] at h1
     have h3 := (of_decide_eq_true hf).2
     have h4 := hS.lt (j - k - 1) k (by omega)
     rw [show k + (j - k - 1) + 1 = j by omega] at h4
     omega
   · rw [if_neg hf] at h1
     have h3 := h.hi j (by omega) h2
     by_cases e : j = k
     · have : ¬ ((R.getD j rt0).v = veh) := fun e2 => hf (decide_eq_true ⟨by omega, by rw [<- e]; exact e2⟩)
       omega
     · have h4 := hS.lt (j - k - 1) k (by omega)
       rw [show k + (j - k - 1) + 1 = j by omega] at h4
       have h5 := h.hi k (Nat.le_refl _) (by omega)
       omega
theorem wrL_at {R : List RT} {r : RT} {k : Nat} (hS : Rises R) (h : AtOf R r.v k) : wrL R r = R.take k ++ ((if r.ids = [] then [] else [r]) ++ R.drop (k + fndN R r.v k)) := by
 unfold wrL
 rw [filter_lo h, filter_hi hS h]
theorem rowR_take (R : List RT) (k : Nat) : (rowR R).take (k * 2) = rowR (R.take k) := by
 by_cases h : k <= R.length
 · conv => lhs; rw [<- List.take_append_drop k R, rowR_app]
   rw [List.take_left' (by rw [rowR_len, List.length_take]; omega)]
 · rw [List.take_of_length_le (by rw [rowR_len]; omega), List.take_of_length_le (by omega)]
theorem rowR_drop (R : List RT) (k : Nat) : (rowR R).drop (k * 2) = rowR (R.drop k) := by
 by_cases h : k <= R.length
 · conv => lhs; rw [<- List.take_append_drop k R, rowR_app]
   rw [List.drop_left' (by rw [rowR_len, List.length_take]; omega)]
 · rw [List.drop_of_length_le (by rw [rowR_len]; omega), List.drop_of_length_le (by omega)]
   rfl
theorem wrL_mem {R : List RT} {r x : RT} (h : x ∈ wrL R r) : x ∈ R ∨ x = r := by
 unfold wrL at h
 rcases List.mem_append.1 h with h | h
 · exact .inl (List.mem_filter.1 h).1
 · rcases List.mem_append.1 h with h | h
   · by_cases e : r.ids = []
     · rw [if_pos e] at h; cases h
     · rw [if_neg e] at h; exact .inr (List.mem_singleton.1 h)
   · exact .inl (List.mem_filter.1 h).1
end Go.Proofs.YtcljhgildbcdmaaGreat