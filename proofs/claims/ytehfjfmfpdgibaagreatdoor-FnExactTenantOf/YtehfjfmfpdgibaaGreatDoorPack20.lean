import Derived.Test.YtehfjfmfpdgibaaGreatDoorPack1
import Derived.Test.YtehfjfmfpdgibaaGreatDoorPack2
import Derived.Test.YtehfjfmfpdgibaaGreatDoorPack5
namespace Go.Proofs.YtehfjfmfpdgibaaGreatDoor
open Go.RowKit
structure PO (w : World) (base : Nat) (rs : Value) (S : List RT) (ls : Value) (L : List Int) : Prop where
 r : w.ownsRow base 134 2 rs S.length (rowR S)
 s : ∀ s ∈ S, w.ownsRow base 2 1 (.slice s.a s.ids.length s.c) s.ids.length (s.ids.map (Value.int .i64))
 l : w.ownsRow base 2 1 ls L.length (L.map (Value.int .i64))
theorem PO.below {w w' : World} {base : Nat} {rs ls : Value} {S : List RT} {L : List Int} (h : PO w base rs S ls L) (hb : Below w.heap.size w w') : PO w' base rs S ls L :=
 ⟨owns_below h.r hb, fun s hs => owns_below (h.s s hs) hb, owns_below h.l hb⟩
theorem PO.base {w : World} {base b0 : Nat} {rs ls : Value} {S : List RT} {L : List Int} (h : PO w base rs S ls L) (hb : b0 <= base) : PO w b0 rs S ls L :=
 ⟨owns_base h.r hb, fun s hs => owns_base (h.s s hs) hb, owns_base h.l hb⟩
theorem PO.set {w : World} {base b i : Nat} {rs ls u : Value} {S : List RT} {L : List Int} (h : PO w base rs S ls L) (hb : b < base) : PO (w.setCell ⟨b, i, none⟩ u) base rs S ls L :=
 ⟨owns_set h.r hb, fun s hs => owns_set (h.s s hs) hb, owns_set h.l hb⟩
theorem own_grown {w w' : World} {base size n q : Nat} {e : TypeId} {v : Value} {xs : List Value} (h : w.ownsRow base e size v n xs) (hg : w.grownBy w' (some q)) (hq : v.ownBlock ≠ some q) : w'.ownsRow base e size v n xs := by
 obtain ⟨h1, h2 | ⟨g, cap, cur, h2, h3, h4, h5⟩⟩ := h
 · exact ⟨h1, .inl h2⟩
 · refine ⟨h1, .inr ⟨g, cap, cur, h2, h3, grown_row hg h4 (fun e => hq ?_), h5⟩⟩
   rw [h2]
   exact e
theorem own_not {w : World} {base size n q : Nat} {e : TypeId} {v : Value} {xs : List Value} (h : w.ownsRow base e size v n xs) (hq : q < base ∨ w.heap.size <= q) : v.ownBlock ≠ some q := fun e => by
 have := h.lt q e
 omega
theorem PO.rv {w : World} {base : Nat} {rs ls : Value} {S : List RT} {L : List Int} (h : PO w base rs S ls L) : (rs = .slice none 0 0 /\ S.length = 0) ∨ ∃ g c, rs = .slice (some ⟨g, 0, none⟩) S.length c /\ base <= g /\ g < w.heap.size := own_kinds h.r
theorem PO.ints {w : World} {base : Nat} {rs ls : Value} {S : List RT} {L : List Int} (h : PO w base rs S ls L) : ∀ s ∈ S, IntsAt w s.a s.ids /\ s.ids.length <= s.c := fun s hs => by
 have ho := h.s s hs
 have hoc := ho
 obtain ⟨a', c', e, _, hi⟩ := owns_at1 ho
 have e2 : s.a = a' := by injection e
 refine ⟨by rw [e2]; exact hi, ?_⟩
 obtain ⟨_, ⟨h1, h2⟩ | ⟨g', cap, cur, h2, _, _, h3, _⟩⟩ := hoc
 · omega
 · injection h2 with _ _ e3
   omega
theorem PO.at {w : World} {base rc : Nat} {ra : Option Addr} {ls : Value} {S : List RT} {L : List Int} (h : PO w base (.slice ra S.length rc) S ls L) : RoutesAt w ra S := fun j hj => by
 rcases h.rv with ⟨_, h0⟩ | ⟨g, c, e, _, _⟩
 · omega
 · simp only [Value.slice.injEq] at e
   obtain ⟨rfl, _, rfl⟩ := e
   obtain ⟨q1, q2⟩ := rowR_at S j hj
   have c1 := (own_cellV h.r q1).1
   have c2 := (own_cellV h.r q2).1
   have hm : S.getD j rt0 ∈ S := by rw [List.getD_eq_getElem?_getD, List.getElem?_eq_getElem hj]; simp
   exact ⟨g, 0, rfl, by rw [Nat.zero_add]; exact c1, by rw [Nat.zero_add]; exact c2, (h.ints _ hm).1⟩
theorem own_typ {w : World} {base size n k : Nat} {e T : TypeId} {v : Value} {xs : List Value} {cs : Array Value} (h : w.ownsRow base e size v n xs) (hr : w.heap[k]? = some (.cells cs T (0, 0))) (hT : T ≠ e) : v.ownBlock ≠ some k := fun he => by
 rcases h.2 with ⟨rfl, _⟩ | ⟨g, c, cur, rfl, _, hg, _⟩
 · cases he
 · simp [Value.ownBlock] at he
   rw [he, hr] at hg
   simp at hg
   exact hT hg.2
theorem own_box_of {w : World} {base size n k i : Nat} {e T : TypeId} {v u : Value} {xs : List Value} {cs : Array Value} (h : w.ownsRow base e size v n xs) (hr : w.heap[k]? = some (.cells cs T (0, 0))) (hT : T ≠ e) : (w.setCell ⟨k, i, none⟩ u).ownsRow base e size v n xs := own_grown h (grown_set w k i u) (own_typ h hr hT)
end Go.Proofs.YtehfjfmfpdgibaaGreatDoor
