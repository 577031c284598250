import Derived.Test.YtehfjfmfpdgibaaGreatDoorPack1
import Derived.Test.YtehfjfmfpdgibaaGreatDoorPack4
import Derived.Test.YtehfjfmfpdgibaaGreatDoorPack5
import Derived.Test.YtehfjfmfpdgibaaGreatDoorPack12
import Derived.Test.YtehfjfmfpdgibaaGreatDoorPack23
import Derived.Deep.RegionHeld3
namespace Go.Proofs.YtehfjfmfpdgibaaGreatDoor
open Go.RowKit
theorem own_intsC {w : World} {base size n c : Nat} {e : TypeId} {a : Option Addr} {l : List Int} (h : w.ownsRow base e size (.slice a n c) n (l.map (Value.int .i64))) : IntsAt w a l := fun j hj => by
 rcases h.2 with ⟨e1, e2⟩ | ⟨g, cap, cur, e1, _⟩
 · have := h.1
   rw [e2, List.length_map] at this
   omega
 · simp only [Value.slice.injEq] at e1
   obtain ⟨rfl, -, -⟩ := e1
   have h9 := h.cells (g := g) rfl j (.int .i64 (l.getD j 0)) (by
    rw [List.getElem?_map, List.getElem?_eq_getElem hj, List.getD_eq_getElem?_getD, List.getElem?_eq_getElem hj]
    rfl)
   rw [add_plain] at h9
   exact ⟨g, 0, rfl, h9⟩
structure CX (w W : World) (q : Nat) (rest : List UInt8) (kb : Nat) (n f : Int) (zl ol vl : Value) (zs : List Int) (Y Z : List (List Int)) : Prop where
 g : w.grownBy W (some q)
 r : RX W q rest
 z : W.heap[w.heap.size]? = some (.cells #[.int .i64 0, .slice none 0 0, .slice none 0 0, .slice none 0 0, .int .i64 0] 78 (0, 0))
 p : W.heap[kb]? = some (.cells #[.int .i64 n, zl, ol, vl, .int .i64 f] 78 (0, 0))
 kk : w.heap.size < kb
 oz : W.ownsRow (w.heap.size + 1) 2 1 zl zs.length (zs.map (Value.int .i64))
 oo : W.ownsRow (w.heap.size + 1) 146 6 ol Y.length (Y.flatten.map (Value.int .i64))
 ov : W.ownsRow (w.heap.size + 1) 137 5 vl Z.length (Z.flatten.map (Value.int .i64))
theorem CX.below {w W W' : World} {q : Nat} {rest : List UInt8} {kb : Nat} {n f : Int} {zl ol vl : Value} {zs : List Int} {Y Z : List (List Int)} (h : CX w W q rest kb n f zl ol vl zs Y Z) (hb : Below W.heap.size W W') : CX w W' q rest kb n f zl ol vl zs Y Z :=
 ⟨grown_ownR h.g (⟨hb.os, hb.tape, hb.output, hb.size, fun j hj _ => hb.block j hj⟩ : W.grownBy W' none) (fun _ e => by cases e), below_row hb (row_lt h.r) h.r, below_row hb (row_lt h.z) h.z, below_row hb (row_lt h.p) h.p, h.kk, owns_below h.oz hb, owns_below h.oo hb, owns_below h.ov hb⟩
end Go.Proofs.YtehfjfmfpdgibaaGreatDoor
