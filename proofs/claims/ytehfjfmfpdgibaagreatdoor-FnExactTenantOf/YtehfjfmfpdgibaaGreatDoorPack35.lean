import Derived.Test.YtehfjfmfpdgibaaGreatDoorPack1
import Derived.Test.YtehfjfmfpdgibaaGreatDoorPack4
import Derived.Test.YtehfjfmfpdgibaaGreatDoorPack5
import Derived.Test.YtehfjfmfpdgibaaGreatDoorPack12
import Derived.Test.YtehfjfmfpdgibaaGreatDoorPack23
import Derived.Deep.RegionHeld3
namespace Go.Proofs.YtehfjfmfpdgibaaGreatDoor
open Go.RowKit
theorem own_intsC {w : World} {base size n c : Nat} {e : TypeId} {a : Option Addr} {l : List Int} (h : w.ownsRow base e size (.slice a n c) n (l.map (Value.int .i64))) : IntsAt w a l := fun j hj => by
 rcases h.2 with ⟨e1, e2⟩ | ⟨g, cap, cur, e1, _⟩
 · have := h.1
   rw [e2, List.length_map] at this
   omega
 · simp only [Value.slice.injEq] at e1
   obtain ⟨rfl, -, -⟩ := e1
   have h9 := h.cells (g := g) rfl j (.int .i64 (l.getD j 0)) (by
    rw [List.getElem?_map, List.getElem?_eq_getElem hj, List.getD_eq_getElem?_getD, List.getElem?_eq_getElem hj]
    rfl)
   rw [add_plain] at h9
   exact ⟨g, 0, rfl, h9⟩
structure CX (w W : World) (q : Nat) (rest : List UInt8) (kb : Nat) (n f : Int) (zl ol vl : Value) (zs : List Int) (Y Z : List (List Int)) : Prop where
 g : w.grownBy W (some q)
 r : RX W q rest
 z : W.heap[w.heap.size]? = some (.cells #[.int .i64 0, .slice none 0 0, .slice none 0 0, .slice none 0 0, .int .i64 0] 78 (0, 0))
 p : W.heap[kb]? = some (.cells #[.int .i64 n, zl, ol, vl, .int .i64 f] 78 (0, 0))
 kk : w.heap.size < kb
 oz : W.ownsRow (w.heap.size + 1) 2 1 zl zs.length (zs.map (Value.int .i64))
 oo : W.ownsRow (w.heap.size + 1) 146 6 ol Y.length (Y.flatten.map (Value.int .i64))
 ov : W.ownsRow (w.heap.size + 1) 137 5 vl Z.length (Z.flatten.map (Value.int .i64))
theorem CX.below {w W W' : World} {q : Nat} {rest : List UInt8} {kb : Nat} {n f : Int} {zl ol vl : Value} {zs : List Int} {Y Z : List (List Int)} (h : CX w W q rest kb n f zl ol vl zs Y Z) (hb : Below W.heap.size W W') : CX w W' q rest kb n f zl ol vl zs Y Z :=
 ⟨grown_ownR h.g (⟨hb.os, hb.tape, hb.output, hb.size, fun j hj _ => hb.block j hj⟩ : W.grownBy W' none) (fun _ e => by cases e), below_row hb (row_lt h.r) h.r, below_row hb (row_lt h.z) h.z, below_row hb (row_lt h.p) h.p, h.kk, owns_below h.oz hb, owns_below h.oo hb, owns_below h.ov hb⟩
theorem markZ_own (a : Option Addr) (n c base : Nat) (K : Int) (xs : List Value) (w : World) (h : w.ownsRow base 2 1 (.slice a n c) n xs) (h0 : 0 <= K) (h1 : K <= 1000000000000) (hn : n <= 10000000) :
 Calls Tryz.prog 54 #[.slice a n c, .int .i64 K] w fun e w' => e = .returned (.int .i64 (K + ((n : Nat) : Int))) /\ GrownBut (fun b => (Value.slice a n c).ownBlock = some b) w w' /\ w'.ownsRow base 2 1 (.slice a n c) n ((seqL K (n * 1)).map (Value.int .i64)) := by
 rcases own_kinds h with ⟨e, hz⟩ | ⟨g, c', e, _, _⟩
 · subst hz
   have hx : xs = [] := List.length_eq_zero_iff.1 (by have := h.1; simpa using this)
   subst hx
   refine (markInt64S_nil a c K _).mono ?_
   rintro e w' ⟨rfl, rfl⟩
   exact ⟨by simp, GrownBut.of_below (Below.refl _ _), by simpa [seqL] using h⟩
 · simp only [Value.slice.injEq, true_and] at e
   obtain ⟨rfl, rfl⟩ := e
   obtain ⟨cur, k1, k2, k3, k4, k5⟩ := own_row_of h
   refine (markInt64S_any g n c K cur _ _ k1 (by omega) h0 h1 hn).mono ?_
   rintro e w' ⟨rfl, hg, hr⟩
   exact ⟨rfl, GrownBut.of_grown hg rfl, mark_row h k1 (by simpa using hr)⟩
theorem heldZ_own (a : Option Addr) (n c base : Nat) (K : Int) (w : World) (h : w.ownsRow base 2 1 (.slice a n c) n ((seqL K (n * 1)).map (Value.int .i64))) (h0 : 0 <= K) (h1 : K <= 1000000000000) (hn : n <= 10000000) :
 Calls Tryz.prog 56 #[.slice a n c, .int .i64 K] w fun e w' => e = .returned (.int .i64 (K + ((n : Nat) : Int))) /\ w' = w := by
 rcases own_kinds h with ⟨e, hz⟩ | ⟨g, c', e, _, _⟩
 · subst hz
   refine (heldInt64S_nil a c K _).mono ?_
   rintro e w' ⟨rfl, rfl⟩
   exact ⟨by simp, rfl⟩
 · simp only [Value.slice.injEq, true_and] at e
   obtain ⟨rfl, rfl⟩ := e
   exact heldInt64S_any g n c K w (fun j hj => (own_cellV h (by rw [List.getElem?_map, seqL_at (by omega)]; rfl)).1) h0 h1 hn
theorem markO_own (a : Option Addr) (n c base : Nat) (K : Int) (xs : List Value) (w : World) (h : w.ownsRow base 146 6 (.slice a n c) n xs) (h0 : 0 <= K) (h1 : K <= 1000000000000) (hn : n <= 10000000) :
 Calls Tryz.prog 94 #[.slice a n c, .int .i64 K] w fun e w' => e = .returned (.int .i64 (K + ((n * 6 : Nat) : Int))) /\ GrownBut (fun b => (Value.slice a n c).ownBlock = some b) w w' /\ w'.ownsRow base 146 6 (.slice a n c) n ((seqL K (n * 6)).map (Value.int .i64)) := by
 rcases own_kinds h with ⟨e, hz⟩ | ⟨g, c', e, _, _⟩
 · subst hz
   have hx : xs = [] := List.length_eq_zero_iff.1 (by have := h.1; simpa using this)
   subst hx
   refine (markOrderS_nil a c K _).mono ?_
   rintro e w' ⟨rfl, rfl⟩
   exact ⟨by simp, GrownBut.of_below (Below.refl _ _), by simpa [seqL] using h⟩
 · simp only [Value.slice.injEq, true_and] at e
   obtain ⟨rfl, rfl⟩ := e
   obtain ⟨cur, k1, k2, k3, k4, k5⟩ := own_row_of h
   refine (markOrderS_any g n c K cur _ _ k1 (by omega) h0 h1 hn).mono ?_
   rintro e w' ⟨rfl, hg, hr⟩
   exact ⟨rfl, GrownBut.of_grown hg rfl, mark_row h k1 (by simpa using hr)⟩
theorem heldO_own (a : Option Addr) (n c base : Nat) (K : Int) (w : World) (h : w.ownsRow base 146 6 (.slice a n c) n ((seqL K (n * 6)).map (Value.int .i64))) (h0 : 0 <= K) (h1 : K <= 1000000000000) (hn : n <= 10000000) :
 Calls Tryz.prog 96 #[.slice a n c, .int .i64 K] w fun e w' => e = .returned (.int .i64 (K + ((n * 6 : Nat) : Int))) /\ w' = w := by
 rcases own_kinds h with ⟨e, hz⟩ | ⟨g, c', e, _, _⟩
 · subst hz
   refine (heldOrderS_nil a c K _).mono ?_
   rintro e w' ⟨rfl, rfl⟩
   exact ⟨by simp, rfl⟩
 · simp only [Value.slice.injEq, true_and] at e
   obtain ⟨rfl, rfl⟩ := e
   exact heldOrderS_any g n c K w (fun j hj => (own_cellV h (by rw [List.getElem?_map, seqL_at (by omega)]; rfl)).1) h0 h1 hn
theorem markV_own (a : Option Addr) (n c base : Nat) (K : Int) (xs : List Value) (w : World) (h : w.ownsRow base 137 5 (.slice a n c) n xs) (h0 : 0 <= K) (h1 : K <= 1000000000000) (hn : n <= 10000000) :
 Calls Tryz.prog 95 #[.slice a n c, .int .i64 K] w fun e w' => e = .returned (.int .i64 (K + ((n * 5 : Nat) : Int))) /\ GrownBut (fun b => (Value.slice a n c).ownBlock = some b) w w' /\ w'.ownsRow base 137 5 (.slice a n c) n ((seqL K (n * 5)).map (Value.int .i64)) := by
 rcases own_kinds h with ⟨e, hz⟩ | ⟨g, c', e, _, _⟩
 · subst hz
   have hx : xs = [] := List.length_eq_zero_iff.1 (by have := h.1; simpa using this)
   subst hx
   refine (markVehicleS_nil a c K _).mono ?_
   rintro e w' ⟨rfl, rfl⟩
   exact ⟨by simp, GrownBut.of_below (Below.refl _ _), by simpa [seqL] using h⟩
 · simp only [Value.slice.injEq, true_and] at e
   obtain ⟨rfl, rfl⟩ := e
   obtain ⟨cur, k1, k2, k3, k4, k5⟩ := own_row_of h
   refine (markVehicleS_any g n c K cur _ _ k1 (by omega) h0 h1 hn).mono ?_
   rintro e w' ⟨rfl, hg, hr⟩
   exact ⟨rfl, GrownBut.of_grown hg rfl, mark_row h k1 (by simpa using hr)⟩
theorem heldV_own (a : Option Addr) (n c base : Nat) (K : Int) (w : World) (h : w.ownsRow base 137 5 (.slice a n c) n ((seqL K (n * 5)).map (Value.int .i64))) (h0 : 0 <= K) (h1 : K <= 1000000000000) (hn : n <= 10000000) :
 Calls Tryz.prog 97 #[.slice a n c, .int .i64 K] w fun e w' => e = .returned (.int .i64 (K + ((n * 5 : Nat) : Int))) /\ w' = w := by
 rcases own_kinds h with ⟨e, hz⟩ | ⟨g, c', e, _, _⟩
 · subst hz
   refine (heldVehicleS_nil a c K _).mono ?_
   rintro e w' ⟨rfl, rfl⟩
   exact ⟨by simp, rfl⟩
 · simp only [Value.slice.injEq, true_and] at e
   obtain ⟨rfl, rfl⟩ := e
   exact heldVehicleS_any g n c K w (fun j hj => (own_cellV h (by rw [List.getElem?_map, seqL_at (by omega)]; rfl)).1) h0 h1 hn
end Go.Proofs.YtehfjfmfpdgibaaGreatDoor
