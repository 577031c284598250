import Derived.Test.YtmehgihjpefpmaaGreatPack1
import Derived.Test.YtmehgihjpefpmaaGreatPack5
import Derived.Test.YtmehgihjpefpmaaGreatPack7
import Derived.Test.YtmehgihjpefpmaaGreatPack24
import Derived.Test.YtmehgihjpefpmaaGreatPack25
namespace Go.Proofs.YtmehgihjpefpmaaGreat
open Go.RowKit
theorem routes_of_own {w : World} {base n rc : Nat} {ra : Option Addr} {S : List RT} (h : w.ownsRow base 40 2 (.slice ra n rc) n (rowR S)) (hi : ∀ s ∈ S, IntsAt w s.a s.ids) : RoutesAt w ra S := fun j hj => by
 have hl := h.1
 rw [rowR_len] at hl
 rcases own_kinds h with ⟨e, h0⟩ | ⟨g, c, e, _, _⟩
 · omega
 · simp only [Value.slice.injEq, true_and] at e
   obtain ⟨rfl, rfl⟩ := e
   obtain ⟨r1, r2⟩ := rowR_at S j hj
   refine ⟨g, 0, rfl, ?_, ?_, hi _ (getD_mem hj)⟩
   · rw [Nat.zero_add]; exact (own_cellV h r1).1
   · rw [Nat.zero_add]; exact (own_cellV h r2).1
theorem own_box_ty {w : World} {base size n k i : Nat} {v u : Value} {xs : List Value} {cs : Array Value} (h : w.ownsRow base 2 size v n xs) (hr : w.heap[k]? = some (.cells cs 40 (0, 0))) : (w.setCell ⟨k, i, none⟩ u).ownsRow base 2 size v n xs := own_box_of h hr (by decide)
theorem own_ints_at {w : World} {base n sc : Nat} {sa : Option Addr} {l : List Int} (h : w.ownsRow base 2 1 (.slice sa n sc) n (l.map (Value.int .i64))) : IntsAt w sa l := fun j hj => by
 rcases own_kinds h with ⟨e, h0⟩ | ⟨g, c, e, _, _⟩
 · have := h.1
   rw [List.length_map, h0] at this
   omega
 · simp only [Value.slice.injEq, true_and] at e
   obtain ⟨rfl, rfl⟩ := e
   refine ⟨g, 0, rfl, ?_⟩
   rw [Nat.zero_add]
   exact (own_cellV h (by rw [List.getElem?_map, List.getD_eq_getElem?_getD, List.getElem?_eq_getElem hj]; rfl)).1
theorem po_l {w : World} {base m lc : Nat} {la : Option Addr} {S : List RT} {rs : Value} {L : List Int} (h : PO w base rs S (.slice la m lc) L) (hm : L.length = m) : IntsAt w la L := by
 have hl := h.l
 rw [hm] at hl
 exact own_ints_at hl
theorem po_at {w : World} {base n rc : Nat} {ra : Option Addr} {S : List RT} {ls : Value} {L : List Int} (h : PO w base (.slice ra n rc) S ls L) (hn : S.length = n) : RoutesAt w ra S := by
 have hr := h.r
 rw [hn] at hr
 exact routes_of_own hr (fun s hs => (h.ints s hs).1)
theorem ints_ownL {w : World} {base n c : Nat} {a : Option Addr} {l : List Int} (h : w.ownsRow base 2 1 (.slice a n c) n (l.map (Value.int .i64))) : IntsAt w a l := fun j hj => by
 rcases own_kinds h with ⟨_, h2⟩ | ⟨g, c', h2, _⟩
 · have := h.1
   rw [List.length_map] at this
   omega
 · simp only [Value.slice.injEq, true_and] at h2
   obtain ⟨rfl, rfl⟩ := h2
   refine ⟨g, 0, rfl, ?_⟩
   rw [Nat.zero_add]
   refine (own_cellV h ?_).1
   rw [List.getElem?_map, List.getElem?_eq_getElem hj, List.getD_eq_getElem?_getD, List.getElem?_eq_getElem hj]
   rfl
end Go.Proofs.YtmehgihjpefpmaaGreat
