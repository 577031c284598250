import Derived.Test.YtplefpmchhcfcaaPack1
import Derived.Test.YtplefpmchhcfcaaDrawFine
import Derived.Test.YtplefpmchhcfcaaDrawCase
import Derived.Deep.CutRange
namespace Go.Proofs.Ytplefpmchhcfcaa
open Go.RowKit

/-- Inside the draw of a case and a route: the reader, the results' cells, the case in its box, its rows. -/
structure SD (w W : World) (q k : Nat) (a : Option Addr) (bs : List Int) (c : Nat) (cs : Array Value) (g go gv : Nat) (zs O V : List Int) (rc rr : Array Value) : Prop where
  b : Below w.heap.size w W
  r : ∃ p, RD W q a bs c p
  h : w.heap.size + 1 < q ∧ (k ≠ q ∧ w.heap.size + 1 < k) ∧ (g ≠ q ∧ w.heap.size + 1 < g) ∧ (go ≠ q ∧ w.heap.size + 1 < go) ∧ (gv ≠ q ∧ w.heap.size + 1 < gv)
  cd : ∀ j, j < bs.length → ∃ b off, a = some ⟨b, off, none⟩ ∧ b < w.heap.size
  b0 : W.heap[w.heap.size]? = some (.cells rc 30 (0, 0))
  b2 : W.heap[w.heap.size + 1]? = some (.cells rr 32 (0, 0))
  b1 : W.heap[k]? = some (.cells cs 30 (0, 0))
  iz : IntsAt W (some ⟨g, 0, none⟩) zs
  io : IntsAt W (some ⟨go, 0, none⟩) O
  iv : IntsAt W (some ⟨gv, 0, none⟩) V
section
variable {w W W' : World} {q k : Nat} {a : Option Addr} {bs : List Int} {c : Nat} {cs : Array Value} {g go gv : Nat} {zs O V : List Int} {rc rr : Array Value}
theorem SD.size (h : SD w W q k a bs c cs g go gv zs O V rc rr) : w.heap.size + 2 ≤ W.heap.size := row_lt h.b2
theorem SD.read {p : Nat} (h : SD w W q k a bs c cs g go gv zs O V rc rr) (hr : RD W' q a bs c p) (hg : W.grownBy W' (some q)) : SD w W' q k a bs c cs g go gv zs O V rc rr := by
  obtain ⟨h1, ⟨h2, h3⟩, ⟨h4, h5⟩, ⟨h6, h7⟩, ⟨h8, h9⟩⟩ := h.h
  exact ⟨grown_below h.b (by omega) hg, ⟨p, hr⟩, h.h, h.cd, grown_row hg h.b0 (fun e => by injection e with e; omega), grown_row hg h.b2 (fun e => by injection e with e; omega), grown_row hg h.b1 (fun e => by injection e with e; omega), ints_other h.iz hg h4, ints_other h.io hg h6, ints_other h.iv hg h8⟩
theorem SD.below (h : SD w W q k a bs c cs g go gv zs O V rc rr) (hb : Below W.heap.size W W') : SD w W' q k a bs c cs g go gv zs O V rc rr := by
  obtain ⟨p, hr⟩ := h.r
  exact ⟨h.b.trans (hb.mono h.b.size), ⟨p, hr.below hb⟩, h.h, h.cd, below_row hb (row_lt h.b0) h.b0, below_row hb (row_lt h.b2) h.b2, below_row hb (row_lt h.b1) h.b1, h.iz.below hb, h.io.below hb, h.iv.below hb⟩
theorem RD.aside {p s : Nat} (h : RD W q a bs c p) (hcd : ∀ j, j < bs.length → ∃ b off, a = some ⟨b, off, none⟩ ∧ b < w.heap.size) (hg : W.grownBy W' (some s)) (hs : w.heap.size ≤ s) (hq : q ≠ s) : RD W' q a bs c p := by
  refine ⟨grown_row hg h.1 (fun e => by injection e with e; omega), h.2.1, fun j hj => ?_, h.2.2.2⟩
  obtain ⟨b, off, e, hne, hc, hv⟩ := h.2.2.1 j hj
  obtain ⟨b', off', e', hb'⟩ := hcd j hj
  have eb : b = b' := by rw [e] at e'; simp at e'; exact e'.1
  exact ⟨b, off, e, hne, hg.cell hc (fun e2 => by have e3 : b = s := by injection e2
                                                  omega), hv⟩
/-- A block of the results is written. -/
theorem SD.aside {s : Nat} {rc' rr' : Array Value} (h : SD w W q k a bs c cs g go gv zs O V rc rr) (hg : W.grownBy W' (some s)) (hs : s = w.heap.size ∨ s = w.heap.size + 1) (b0 : W'.heap[w.heap.size]? = some (.cells rc' 30 (0, 0))) (b2 : W'.heap[w.heap.size + 1]? = some (.cells rr' 32 (0, 0))) : SD w W' q k a bs c cs g go gv zs O V rc' rr' := by
  obtain ⟨h1, ⟨h2, h3⟩, ⟨h4, h5⟩, ⟨h6, h7⟩, ⟨h8, h9⟩⟩ := h.h
  obtain ⟨p, hr⟩ := h.r
  exact ⟨grown_below h.b (by omega) hg, ⟨p, hr.aside h.cd hg (by omega) (by omega)⟩, h.h, h.cd, b0, b2, grown_row hg h.b1 (fun e => by injection e with e; omega), ints_other h.iz hg (by omega), ints_other h.io hg (by omega), ints_other h.iv hg (by omega)⟩
end
theorem SD.setC {w W : World} {q k : Nat} {a : Option Addr} {bs : List Int} {c : Nat} {n fi : Int} {g zl cg go ko co gv kv cv : Nat} {zs O V : List Int} {z0 z1 z2 z3 z4 : Value} {rr : Array Value} (h : SD w W q k a bs c #[.int .i64 n, .slice (some ⟨g, 0, none⟩) zl cg, .slice (some ⟨go, 0, none⟩) ko co, .slice (some ⟨gv, 0, none⟩) kv cv, .int .i64 fi] g go gv zs O V #[z0, z1, z2, z3, z4] rr) : SD w (((((W.setCell ⟨w.heap.size, 0, none⟩ (.int .i64 n)).setCell ⟨w.heap.size, 1, none⟩ (.slice (some ⟨g, 0, none⟩) zl cg)).setCell ⟨w.heap.size, 2, none⟩ (.slice (some ⟨go, 0, none⟩) ko co)).setCell ⟨w.heap.size, 3, none⟩ (.slice (some ⟨gv, 0, none⟩) kv cv)).setCell ⟨w.heap.size, 4, none⟩ (.int .i64 fi)) q k a bs c #[.int .i64 n, .slice (some ⟨g, 0, none⟩) zl cg, .slice (some ⟨go, 0, none⟩) ko co, .slice (some ⟨gv, 0, none⟩) kv cv, .int .i64 fi] g go gv zs O V #[.int .i64 n, .slice (some ⟨g, 0, none⟩) zl cg, .slice (some ⟨go, 0, none⟩) ko co, .slice (some ⟨gv, 0, none⟩) kv cv, .int .i64 fi] rr := by
  have hs : W.grownBy (((((W.setCell ⟨w.heap.size, 0, none⟩ (.int .i64 n)).setCell ⟨w.heap.size, 1, none⟩ (.slice (some ⟨g, 0, none⟩) zl cg)).setCell ⟨w.heap.size, 2, none⟩ (.slice (some ⟨go, 0, none⟩) ko co)).setCell ⟨w.heap.size, 3, none⟩ (.slice (some ⟨gv, 0, none⟩) kv cv)).setCell ⟨w.heap.size, 4, none⟩ (.int .i64 fi)) (some w.heap.size) := grown_trans (grown_trans (grown_trans (grown_trans (grown_set _ _ _ _) (grown_set _ _ _ _)) (grown_set _ _ _ _)) (grown_set _ _ _ _)) (grown_set _ _ _ _)
  refine h.aside hs (.inl rfl) ?_ (grown_row hs h.b2 (fun e => by injection e with e; omega))
  have := row_put (i := 4) (.int .i64 fi) (row_put (i := 3) (.slice (some ⟨gv, 0, none⟩) kv cv) (row_put (i := 2) (.slice (some ⟨go, 0, none⟩) ko co) (row_put (i := 1) (.slice (some ⟨g, 0, none⟩) zl cg) (row_put (i := 0) (.int .i64 n) h.b0))))
  simpa using this
theorem SD.setR {w W : World} {q k : Nat} {a : Option Addr} {bs : List Int} {c : Nat} {cs : Array Value} {g go gv : Nat} {zs O V : List Int} {rc : Array Value} {z0 z1 : Value} (veh : Int) (sl : Value) (h : SD w W q k a bs c cs g go gv zs O V rc #[z0, z1]) : SD w ((W.setCell ⟨w.heap.size + 1, 0, none⟩ (.int .i64 veh)).setCell ⟨w.heap.size + 1, 1, none⟩ sl) q k a bs c cs g go gv zs O V rc #[.int .i64 veh, sl] := by
  have hs : W.grownBy ((W.setCell ⟨w.heap.size + 1, 0, none⟩ (.int .i64 veh)).setCell ⟨w.heap.size + 1, 1, none⟩ sl) (some (w.heap.size + 1)) := grown_trans (grown_set _ _ _ _) (grown_set _ _ _ _)
  refine h.aside hs (.inr rfl) (grown_row hs h.b0 (fun e => by injection e with e; omega)) ?_
  have := row_put (i := 1) sl (row_put (i := 0) (.int .i64 veh) h.b2)
  simpa using this
theorem SD.keep {w W : World} {q k : Nat} {a : Option Addr} {bs : List Int} {c : Nat} {n fi : Int} {g zl cg go ko co gv kv cv : Nat} {zs O V : List Int} {rc rr : Array Value} (h : SD w W q k a bs c #[.int .i64 n, .slice (some ⟨g, 0, none⟩) zl cg, .slice (some ⟨go, 0, none⟩) ko co, .slice (some ⟨gv, 0, none⟩) kv cv, .int .i64 fi] g go gv zs O V rc rr) : W.cell? ⟨k, 0, none⟩ = some (.int .i64 n) ∧ W.cell? ⟨k, 1, none⟩ = some (.slice (some ⟨g, 0, none⟩) zl cg) ∧ W.cell? ⟨k, 2, none⟩ = some (.slice (some ⟨go, 0, none⟩) ko co) ∧ W.cell? ⟨k, 3, none⟩ = some (.slice (some ⟨gv, 0, none⟩) kv cv) ∧ W.cell? ⟨k, 4, none⟩ = some (.int .i64 fi) := cells5z h.b1
/-- The stops of the drawn route, in a block of the call's own. -/
def StopsAt (w W : World) (ao : Option Addr) (m co2 : Nat) (L : List Int) : Prop := L.length = m ∧ m ≤ 4 ∧ m ≤ co2 ∧ IntsAt W ao L ∧ ∀ b, (Value.slice ao 0 0).ownBlock = some b → w.heap.size + 2 ≤ b
theorem StopsAt.of_own {w W : World} {B : Nat} {ao : Option Addr} {m co2 : Nat} {L : List Int} (h : W.ownsRow B 2 1 (.slice ao m co2) m (L.map (Value.int .i64))) (hL : L.length = m) (h4 : L.length ≤ 4) (hB : w.heap.size + 2 ≤ B) : StopsAt w W ao m co2 L := by
  refine ⟨hL, by omega, ?_, ?_, fun b e => ?_⟩
  · obtain ⟨_, ⟨h1, h2⟩ | ⟨g', cap, cur, h2, _, _, h3, _⟩⟩ := h
    · omega
    · injection h2 with _ _ e3
      omega
  · obtain ⟨a', c', e, _, hi⟩ := owns_at1 h
    have e2 : ao = a' := by injection e
    rw [e2]; exact hi
  · have : (Value.slice ao m co2).ownBlock = some b := by rw [show (Value.slice ao m co2).ownBlock = (Value.slice ao 0 0).ownBlock from by cases ao <;> rfl]; exact e
    have := (h.lt b this).1
    omega
theorem StopsAt.grown {w W W' : World} {ao : Option Addr} {m co2 s : Nat} {L : List Int} (h : StopsAt w W ao m co2 L) (hg : W.grownBy W' (some s)) (hs : s ≤ w.heap.size + 1) : StopsAt w W' ao m co2 L := by
  obtain ⟨h1, h2, h3, h4, h5⟩ := h
  refine ⟨h1, h2, h3, fun j hj => ?_, h5⟩
  obtain ⟨b, off, rfl, hc⟩ := h4 j hj
  exact ⟨b, off, rfl, hg.cell hc (fun e => by have e3 : b = s := by injection e
                                              have := h5 b rfl
                                              omega)⟩
theorem StopsAt.setC {w W : World} {ao : Option Addr} {m co2 : Nat} {L : List Int} {v0 v1 v2 v3 v4 : Value} (h : StopsAt w W ao m co2 L) : StopsAt w (((((W.setCell ⟨w.heap.size, 0, none⟩ v0).setCell ⟨w.heap.size, 1, none⟩ v1).setCell ⟨w.heap.size, 2, none⟩ v2).setCell ⟨w.heap.size, 3, none⟩ v3).setCell ⟨w.heap.size, 4, none⟩ v4) ao m co2 L :=
  h.grown (grown_trans (grown_trans (grown_trans (grown_trans (grown_set _ _ _ _) (grown_set _ _ _ _)) (grown_set _ _ _ _)) (grown_set _ _ _ _)) (grown_set _ _ _ _)) (by omega)
theorem StopsAt.setR {w W : World} {ao : Option Addr} {m co2 : Nat} {L : List Int} {v0 v1 : Value} (h : StopsAt w W ao m co2 L) : StopsAt w ((W.setCell ⟨w.heap.size + 1, 0, none⟩ v0).setCell ⟨w.heap.size + 1, 1, none⟩ v1) ao m co2 L :=
  h.grown (grown_trans (grown_set _ _ _ _) (grown_set _ _ _ _)) (by omega)

end Go.Proofs.Ytplefpmchhcfcaa

namespace Go.Proofs.Ytplefpmchhcfcaa
open Go.RowKit

/-- As SD, with the drawn route in a box of its own. -/
structure XD (w W : World) (q k kx : Nat) (a : Option Addr) (bs : List Int) (c : Nat) (n fi veh : Int) (g zl cg go ko co gv kv cv : Nat) (zs O V : List Int) (ao : Option Addr) (m co2 : Nat) (L : List Int) (rc rr : Array Value) : Prop where
  s : SD w W q k a bs c #[.int .i64 n, .slice (some ⟨g, 0, none⟩) zl cg, .slice (some ⟨go, 0, none⟩) ko co, .slice (some ⟨gv, 0, none⟩) kv cv, .int .i64 fi] g go gv zs O V rc rr
  x : W.heap[kx]? = some (.cells #[.int .i64 veh, .slice ao m co2] 32 (0, 0))
  hx : w.heap.size + 1 < kx ∧ kx ≠ q
  l : L.length = m ∧ m ≤ 4 ∧ m ≤ co2
  il : IntsAt W ao L
  ol : ∀ b, (Value.slice ao 0 0).ownBlock = some b → w.heap.size + 2 ≤ b ∧ b ≠ q
section
variable {w W W' : World} {q k kx : Nat} {a : Option Addr} {bs : List Int} {c : Nat} {n fi veh : Int} {g zl cg go ko co gv kv cv : Nat} {zs O V : List Int} {ao : Option Addr} {m co2 : Nat} {L : List Int} {rc rr : Array Value}
theorem XD.read {p : Nat} (h : XD w W q k kx a bs c n fi veh g zl cg go ko co gv kv cv zs O V ao m co2 L rc rr) (hr : RD W' q a bs c p) (hg : W.grownBy W' (some q)) : XD w W' q k kx a bs c n fi veh g zl cg go ko co gv kv cv zs O V ao m co2 L rc rr := by
  refine ⟨h.s.read hr hg, grown_row hg h.x (fun e => h.hx.2 (by injection e)), h.hx, h.l, fun j hj => ?_, h.ol⟩
  obtain ⟨b, off, rfl, hc⟩ := h.il j hj
  exact ⟨b, off, rfl, hg.cell hc (fun e => absurd (Option.some.inj e) (h.ol b rfl).2)⟩
theorem XD.below (h : XD w W q k kx a bs c n fi veh g zl cg go ko co gv kv cv zs O V ao m co2 L rc rr) (hb : Below W.heap.size W W') : XD w W' q k kx a bs c n fi veh g zl cg go ko co gv kv cv zs O V ao m co2 L rc rr :=
  ⟨h.s.below hb, below_row hb (row_lt h.x) h.x, h.hx, h.l, h.il.below hb, h.ol⟩
theorem XD.aside {s : Nat} {rc' rr' : Array Value} (h : XD w W q k kx a bs c n fi veh g zl cg go ko co gv kv cv zs O V ao m co2 L rc rr) (hs : s = w.heap.size ∨ s = w.heap.size + 1) (hg : W.grownBy W' (some s)) (hS : SD w W' q k a bs c #[.int .i64 n, .slice (some ⟨g, 0, none⟩) zl cg, .slice (some ⟨go, 0, none⟩) ko co, .slice (some ⟨gv, 0, none⟩) kv cv, .int .i64 fi] g go gv zs O V rc' rr') : XD w W' q k kx a bs c n fi veh g zl cg go ko co gv kv cv zs O V ao m co2 L rc' rr' := by
  have h1 := h.hx.1
  refine ⟨hS, grown_row hg h.x (fun e => by injection e with e; omega), h.hx, h.l, fun j hj => ?_, h.ol⟩
  obtain ⟨b, off, rfl, hc⟩ := h.il j hj
  have hb := (h.ol b rfl).1
  exact ⟨b, off, rfl, hg.cell hc (fun e => absurd (Option.some.inj e) (by show b ≠ _; omega))⟩
theorem XD.setC {z0 z1 z2 z3 z4 : Value} (h : XD w W q k kx a bs c n fi veh g zl cg go ko co gv kv cv zs O V ao m co2 L #[z0, z1, z2, z3, z4] rr) : XD w (((((W.setCell ⟨w.heap.size, 0, none⟩ (.int .i64 n)).setCell ⟨w.heap.size, 1, none⟩ (.slice (some ⟨g, 0, none⟩) zl cg)).setCell ⟨w.heap.size, 2, none⟩ (.slice (some ⟨go, 0, none⟩) ko co)).setCell ⟨w.heap.size, 3, none⟩ (.slice (some ⟨gv, 0, none⟩) kv cv)).setCell ⟨w.heap.size, 4, none⟩ (.int .i64 fi)) q k kx a bs c n fi veh g zl cg go ko co gv kv cv zs O V ao m co2 L #[.int .i64 n, .slice (some ⟨g, 0, none⟩) zl cg, .slice (some ⟨go, 0, none⟩) ko co, .slice (some ⟨gv, 0, none⟩) kv cv, .int .i64 fi] rr :=
  h.aside (.inl rfl) (grown_trans (grown_trans (grown_trans (grown_trans (grown_set _ _ _ _) (grown_set _ _ _ _)) (grown_set _ _ _ _)) (grown_set _ _ _ _)) (grown_set _ _ _ _)) h.s.setC
theorem XD.setR {z0 z1 : Value} (h : XD w W q k kx a bs c n fi veh g zl cg go ko co gv kv cv zs O V ao m co2 L rc #[z0, z1]) : XD w ((W.setCell ⟨w.heap.size + 1, 0, none⟩ (.int .i64 veh)).setCell ⟨w.heap.size + 1, 1, none⟩ (.slice ao m co2)) q k kx a bs c n fi veh g zl cg go ko co gv kv cv zs O V ao m co2 L rc #[.int .i64 veh, .slice ao m co2] :=
  h.aside (.inr rfl) (grown_trans (grown_set _ _ _ _) (grown_set _ _ _ _)) (h.s.setR veh (.slice ao m co2))
theorem XD.keep (h : XD w W q k kx a bs c n fi veh g zl cg go ko co gv kv cv zs O V ao m co2 L rc rr) : W.cell? ⟨k, 0, none⟩ = some (.int .i64 n) ∧ W.cell? ⟨k, 1, none⟩ = some (.slice (some ⟨g, 0, none⟩) zl cg) ∧ W.cell? ⟨k, 2, none⟩ = some (.slice (some ⟨go, 0, none⟩) ko co) ∧ W.cell? ⟨k, 3, none⟩ = some (.slice (some ⟨gv, 0, none⟩) kv cv) ∧ W.cell? ⟨k, 4, none⟩ = some (.int .i64 fi) ∧ W.cell? ⟨kx, 0, none⟩ = some (.int .i64 veh) ∧ W.cell? ⟨kx, 1, none⟩ = some (.slice ao m co2) := by
  obtain ⟨d0, d1, d2, d3, d4⟩ := cells5z h.s.b1
  obtain ⟨e0, e1⟩ := cells2 h.x
  exact ⟨d0, d1, d2, d3, d4, e0, e1⟩
end

end Go.Proofs.Ytplefpmchhcfcaa

namespace Go.Proofs.Ytplefpmchhcfcaa
open Go.RowKit

/-- A drawn case, a route and an order, told to their caller. -/
def BpTold (w : World) (e : Ending) (w' : World) : Prop := ∃ (n : Int) (g zl cg go ko co gv kv cv : Nat) (zs O V L : List Int) (fi veh : Int) (ao : Option Addr) (m co2 : Nat) (i : Int),
  e = .returned (.tuple #[.agg #[.int .i64 n, .slice (some ⟨g, 0, none⟩) zl cg, .slice (some ⟨go, 0, none⟩) ko co, .slice (some ⟨gv, 0, none⟩) kv cv, .int .i64 fi], .agg #[.int .i64 veh, .slice ao m co2], .int .i64 i]) ∧ (zs.length = zl ∧ O.length = ko * 6 ∧ V.length = kv * 5 ∧ 1 ≤ ko ∧ ko ≤ 6 ∧ 1 ≤ kv ∧ kv ≤ 3) ∧ (L.length = m ∧ m ≤ 4 ∧ m ≤ co2) ∧ ((ao = none ∧ L = [] ∧ co2 = 0) ∨ ∃ g, ao = some ⟨g, 0, none⟩) ∧
  Below w.heap.size w w' ∧ IntsAt w' (some ⟨g, 0, none⟩) zs ∧ IntsAt w' (some ⟨go, 0, none⟩) O ∧ IntsAt w' (some ⟨gv, 0, none⟩) V ∧ IntsAt w' ao L
theorem XD.doneB {w W : World} {q k kx : Nat} {a : Option Addr} {bs : List Int} {c : Nat} {n fi veh : Int} {g zl cg go ko co gv kv cv : Nat} {zs O V : List Int} {ao : Option Addr} {m co2 : Nat} {L : List Int} (h : XD w W q k kx a bs c n fi veh g zl cg go ko co gv kv cv zs O V ao m co2 L #[.int .i64 n, .slice (some ⟨g, 0, none⟩) zl cg, .slice (some ⟨go, 0, none⟩) ko co, .slice (some ⟨gv, 0, none⟩) kv cv, .int .i64 fi] #[.int .i64 veh, .slice ao m co2]) (hls : zs.length = zl ∧ O.length = ko * 6 ∧ V.length = kv * 5 ∧ 1 ≤ ko ∧ ko ≤ 6 ∧ 1 ≤ kv ∧ kv ≤ 3) (i : Int) (hbi : ((ao = none ∧ L = [] ∧ co2 = 0) ∨ ∃ g, ao = some ⟨g, 0, none⟩)) (A : Act) (h2 : A.tmps.getD 2 undef = .pointer (some ⟨w.heap.size, 0, none⟩)) (h3 : A.tmps.getD 3 undef = .pointer (some ⟨w.heap.size + 1, 0, none⟩)) (h4 : A.tmps.getD 4 undef = .int .i64 i) (hds : A.defers = []) :
    bodyPost Try.prog Try.f17 (BpTold w) Exit.ret A W := by
  refine bodyPost_ret (v := .tuple #[.agg #[.int .i64 n, .slice (some ⟨g, 0, none⟩) zl cg, .slice (some ⟨go, 0, none⟩) ko co, .slice (some ⟨gv, 0, none⟩) kv cv, .int .i64 fi], .agg #[.int .i64 veh, .slice ao m co2], .int .i64 i]) ?_ hds ⟨n, g, zl, cg, go, ko, co, gv, kv, cv, zs, O, V, L, fi, veh, ao, m, co2, i, rfl, hls, h.l, hbi, h.s.b, h.s.iz, h.s.io, h.s.iv, h.il⟩
  have r1 := run_loadVar_row (P := Try.prog) W w.heap.size 30 30 #[.int .i64 n, .slice (some ⟨g, 0, none⟩) zl cg, .slice (some ⟨go, 0, none⟩) ko co, .slice (some ⟨gv, 0, none⟩) kv cv, .int .i64 fi] (0, 0) _ h.s.b0 Try.underlying30 rfl sizeCase5
  have r2 := run_loadVar_row (P := Try.prog) W (w.heap.size + 1) 32 32 #[.int .i64 veh, .slice ao m co2] (0, 0) _ h.s.b2 Try.underlying32 rfl sizeRoute2
  have h2' : A.tmps[2]?.getD undef = .pointer (some ⟨w.heap.size, 0, none⟩) := by simpa using h2
  have h3' : A.tmps[3]?.getD undef = .pointer (some ⟨w.heap.size + 1, 0, none⟩) := by simpa using h3
  have h4' : A.tmps[4]?.getD undef = .int .i64 i := by simpa using h4
  simp [results, Try.results17, h2', h3', h4', asAddr, r1, r2]

set_option maxRecDepth 10000 in
set_option maxHeartbeats 40000000 in
theorem drawBest_any (a : Option Addr) (c : Nat) (bs : List Int) (w : World) (h : CodeAt w a bs) (hl : bs.length ≤ 1048576) :
    Calls Try.prog 17 #[.slice a bs.length c] w (BpTold w) := by
  have H : Hid (CodeAt w a bs) := h
  clear h
  have BA : Hid (Below w.heap.size w ((w.alloc (.cells #[.int .i64 0, .slice none 0 0, .slice none 0 0, .slice none 0 0, .int .i64 0] 30)).alloc (.cells #[.int .i64 0, .slice none 0 0] 32))) := ((Below.refl _ _).alloc (Nat.le_refl _) _).alloc (by simp) _
  have GA : Hid (((w.alloc (.cells #[.int .i64 0, .slice none 0 0, .slice none 0 0, .slice none 0 0, .int .i64 0] 30)).alloc (.cells #[.int .i64 0, .slice none 0 0] 32)).heap[w.heap.size]? = some (.cells #[.int .i64 0, .slice none 0 0, .slice none 0 0, .slice none 0 0, .int .i64 0] 30 (0, 0))) := heap_alloc2_old _ _ _
  have GB : Hid (((w.alloc (.cells #[.int .i64 0, .slice none 0 0, .slice none 0 0, .slice none 0 0, .int .i64 0] 30)).alloc (.cells #[.int .i64 0, .slice none 0 0] 32)).heap[w.heap.size + 1]? = some (.cells #[.int .i64 0, .slice none 0 0] 32 (0, 0))) := heap_alloc2_new _ _ _
  have CA : Hid (CodeAt ((w.alloc (.cells #[.int .i64 0, .slice none 0 0, .slice none 0 0, .slice none 0 0, .int .i64 0] 30)).alloc (.cells #[.int .i64 0, .slice none 0 0] 32)) a bs) := by
    intro j hj
    obtain ⟨b, off, e, hc, hv⟩ := H.out j hj
    exact ⟨b, off, e, (BA.out.cell (p := ⟨b, off + j, none⟩) (block_lt_of_cell hc)).trans hc, hv⟩
  go_enter Try.func17, Try.ntmps17
  go_wp2_with fail
  generalize (w.alloc (.cells #[.int .i64 0, .slice none 0 0, .slice none 0 0, .slice none 0 0, .int .i64 0] 30)).alloc (.cells #[.int .i64 0, .slice none 0 0] 32) = W0 at *
  refine (l1Open_any a c bs W0 CA.out hl).mono ?_
  rintro e w1 ⟨rfl, hb, hr⟩
  obtain ⟨q, HQ⟩ : ∃ q, Hid (W0.heap.size = q) := ⟨_, rfl⟩
  have hw0 : w.heap.size + 1 < W0.heap.size := row_lt GB.out
  have HQL : Hid (w.heap.size + 1 < q) := by show _ < _; rw [← HQ.out]; exact hw0
  have B1 : Hid (Below w.heap.size w w1) := BA.out.trans (hb.mono BA.out.size)
  have G1 : Hid (w1.heap[w.heap.size]? = some (.cells #[.int .i64 0, .slice none 0 0, .slice none 0 0, .slice none 0 0, .int .i64 0] 30 (0, 0))) := below_row hb (row_lt GA.out) GA.out
  have G2 : Hid (w1.heap[w.heap.size + 1]? = some (.cells #[.int .i64 0, .slice none 0 0] 32 (0, 0))) := below_row hb (row_lt GB.out) GB.out
  have R1 : Hid (RD w1 q a bs c 0) := by have := hr; rw [HQ.out] at this; exact this
  clear hb hr hw0
  rw [HQ.out]
  go_wp2_with fail
  refine (case1_any q 0 c 6 a bs w1 R1.out (by omega) (by omega)).mono ?_
  rintro e w3 ⟨n, g, zl, cg, go, ko, co, gv, kv, cv, zs, O, V, fi, rfl, hls, hg, ⟨p3, hr⟩, iz, io, iv, hgs⟩
  have HLS : Hid (zs.length = zl ∧ O.length = ko * 6 ∧ V.length = kv * 5 ∧ 1 ≤ ko ∧ ko ≤ 6 ∧ 1 ≤ kv ∧ kv ≤ 3) := hls
  have hko : ko ≤ 6 := hls.2.2.2.2.1
  have hkv : kv ≤ 3 := hls.2.2.2.2.2.2
  have hk1 : 1 ≤ ko := hls.2.2.2.1
  have hv1 : 1 ≤ kv := hls.2.2.2.2.2.1
  have S3 : Hid (SD w (w3.alloc (.cells #[.int .i64 n, .slice (some ⟨g, 0, none⟩) zl cg, .slice (some ⟨go, 0, none⟩) ko co, .slice (some ⟨gv, 0, none⟩) kv cv, .int .i64 fi] 30)) q w3.heap.size a bs c #[.int .i64 n, .slice (some ⟨g, 0, none⟩) zl cg, .slice (some ⟨go, 0, none⟩) ko co, .slice (some ⟨gv, 0, none⟩) kv cv, .int .i64 fi] g go gv zs O V #[.int .i64 0, .slice none 0 0, .slice none 0 0, .slice none 0 0, .int .i64 0] #[.int .i64 0, .slice none 0 0]) := by
    have hA : Below w3.heap.size w3 (w3.alloc (.cells #[.int .i64 n, .slice (some ⟨g, 0, none⟩) zl cg, .slice (some ⟨go, 0, none⟩) ko co, .slice (some ⟨gv, 0, none⟩) kv cv, .int .i64 fi] 30)) := (Below.refl _ _).alloc (Nat.le_refl _) _
    have hwq := HQL.out
    have hq1 : q < w1.heap.size := row_lt R1.out.1
    have b3 : Below w.heap.size w w3 := grown_below B1.out (by omega) hg
    have g3 := grown_row hg G1.out (fun e => by injection e with e; omega)
    have g4 := grown_row hg G2.out (fun e => by injection e with e; omega)
    have hq3 : q < w3.heap.size := row_lt hr.1
    obtain ⟨hs1, hs2, hs3, -⟩ := hgs
    refine ⟨b3.alloc b3.size _, ⟨p3, hr.below hA⟩, ⟨hwq, ⟨by omega, by have := row_lt g4; omega⟩, ⟨by omega, by omega⟩, ⟨by omega, by omega⟩, ⟨by omega, by omega⟩⟩, fun j hj => ?_, below_row hA (row_lt g3) g3, below_row hA (row_lt g4) g4, heap_alloc_new _ _, iz.below hA, io.below hA, iv.below hA⟩
    obtain ⟨b, off, e, hc, _⟩ := H.out j hj
    exact ⟨b, off, e, block_lt_of_cell hc⟩
  have R3 : Hid (RD (w3.alloc (.cells #[.int .i64 n, .slice (some ⟨g, 0, none⟩) zl cg, .slice (some ⟨go, 0, none⟩) ko co, .slice (some ⟨gv, 0, none⟩) kv cv, .int .i64 fi] 30)) q a bs c p3) := hr.below ((Below.refl _ _).alloc (Nat.le_refl _) _)
  clear hr hg iz io iv hgs hls B1 G1 G2 R1 BA GA GB CA
  obtain ⟨c0, c1, c2', c3, c4⟩ := cells5z S3.out.b1
  go_wp2_with fail
  obtain ⟨k, HKk⟩ : ∃ v, Hid (w3.heap.size = v) := ⟨_, rfl⟩
  rw [HKk.out] at S3 c0 c1 c2' c3 c4 ⊢
  generalize w3.alloc (.cells #[.int .i64 n, .slice (some ⟨g, 0, none⟩) zl cg, .slice (some ⟨go, 0, none⟩) ko co, .slice (some ⟨gv, 0, none⟩) kv cv, .int .i64 fi] 30) = W3 at *
  have FNE : Hid (∀ W p', RD W q a bs c p' → SD w W q k a bs c #[.int .i64 n, .slice (some ⟨g, 0, none⟩) zl cg, .slice (some ⟨go, 0, none⟩) ko co, .slice (some ⟨gv, 0, none⟩) kv cv, .int .i64 fi] g go gv zs O V #[.int .i64 0, .slice none 0 0, .slice none 0 0, .slice none 0 0, .int .i64 0] #[.int .i64 0, .slice none 0 0] → Calls Try.prog 28 #[.pointer (some ⟨q, 0, none⟩), .agg #[.int .i64 n, .slice (some ⟨g, 0, none⟩) zl cg, .slice (some ⟨go, 0, none⟩) ko co, .slice (some ⟨gv, 0, none⟩) kv cv, .int .i64 fi], .int .i64 0] W (RouteDraw W q a bs c)) := fun W p' hr hS =>
    fine_at q p' c 0 0 rfl n fi g zl cg go ko co gv kv cv zs O V a bs W hr hS.iz hS.io hS.iv hS.h.2.2.1.1 hS.h.2.2.2.1.1 hS.h.2.2.2.2.1 HLS.out.1 HLS.out.2.1 HLS.out.2.2.1 hk1 (by omega) hv1 (by omega)
  refine (FNE.out _ _ R3.out S3.out).mono ?_
  rintro e w4 ⟨veh, sl, L, rfl, hL, hg, ⟨p4, hr⟩, ho⟩
  obtain ⟨ao, co2, e⟩ := own_any ho
  subst e
  have HBI : Hid ((ao = none ∧ L = [] ∧ co2 = 0) ∨ ∃ g, ao = some ⟨g, 0, none⟩) := by
    obtain ⟨_, ⟨h1, h2⟩ | ⟨g', cap, cur, h2, _⟩⟩ := ho
    · injection h1 with e3 _ e5
      exact .inl ⟨e3, List.eq_nil_of_length_eq_zero h2, e5⟩
    · injection h2 with e3 _ _
      exact .inr ⟨_, e3⟩
  obtain ⟨m, HM⟩ : ∃ m, Hid (L.length = m) := ⟨_, rfl⟩
  have X4 : Hid (XD w (w4.alloc (.cells #[.int .i64 veh, .slice ao m co2] 32)) q k w4.heap.size a bs c n fi veh g zl cg go ko co gv kv cv zs O V ao m co2 L #[.int .i64 0, .slice none 0 0, .slice none 0 0, .slice none 0 0, .int .i64 0] #[.int .i64 0, .slice none 0 0]) := by
    have ha : Below w4.heap.size w4 (w4.alloc (.cells #[.int .i64 veh, .slice ao m co2] 32)) := (Below.refl _ _).alloc (Nat.le_refl _) _
    have hst := StopsAt.of_own (w := w) (by rw [HM.out] at ho; exact ho) HM.out hL S3.out.size
    have hS4 := S3.out.read hr hg
    have hq3 : q < W3.heap.size := row_lt R3.out.1
    have hq4 : q < w4.heap.size := row_lt hr.1
    refine ⟨hS4.below ha, heap_alloc_new _ _, ⟨by have := hS4.size; omega, by omega⟩, ⟨hst.1, hst.2.1, hst.2.2.1⟩, hst.2.2.2.1.below ha, fun b e => ?_⟩
    have e2 : (Value.slice ao L.length co2).ownBlock = some b := by rw [show (Value.slice ao L.length co2).ownBlock = (Value.slice ao 0 0).ownBlock from by cases ao <;> rfl]; exact e
    have := (ho.lt b e2).1
    have := S3.out.size
    omega
  rw [HM.out]
  have R4 : Hid (RD (w4.alloc (.cells #[.int .i64 veh, .slice ao m co2] 32)) q a bs c p4) := hr.below ((Below.refl _ _).alloc (Nat.le_refl _) _)
  rw [HM.out] at hL
  clear hg hr ho S3 R3 c0 c1 c2' c3 c4
  obtain ⟨m0, m1⟩ := cells2 X4.out.x
  obtain ⟨d0, d1, d2, d3, d4⟩ := cells5z X4.out.s.b1
  go_wp2_with fail
  generalize w4.alloc (.cells #[.int .i64 veh, .slice ao m co2] 32) = W4 at *
  obtain ⟨kx, HKX⟩ : ∃ v, Hid (w4.heap.size = v) := ⟨_, rfl⟩
  rw [HKX.out] at X4 m0 m1 ⊢
  clear m0 m1 d0 d1 d2 d3 d4
  have hkoI : (ko : Int) ≤ 65536 := by omega
  refine (below_any q p4 c ko a bs W4 R4.out hkoI).mono ?_
  rintro e w5 ⟨y5, p5, rfl, hy0, hy1, hr, hg⟩
  have X5 : Hid (XD w w5 q k kx a bs c n fi veh g zl cg go ko co gv kv cv zs O V ao m co2 L #[.int .i64 0, .slice none 0 0, .slice none 0 0, .slice none 0 0, .int .i64 0] #[.int .i64 0, .slice none 0 0]) := X4.out.read hr hg
  have R5 : Hid (RD w5 q a bs c p5) := hr
  clear hr hg X4 R4
  have hm4 : m ≤ 4 := X5.out.l.2.1
  have hy6 : y5 ≤ 65536 := by have : max (ko : Int) 1 ≤ 6 := by omega
                              omega
  clear hy1
  go_wp2_with fail
  generalize wrap64 (1 + y5) = id5 at *
  clear hy0 hy6
  go_loopw [8, 9] (fun tid ti wr => ∃ (i p : Nat) (y : Int), i ≤ 4 ∧ tid = .int .i64 y ∧ ti = .int .i64 i ∧ RD wr q a bs c p ∧ XD w wr q k kx a bs c n fi veh g zl cg go ko co gv kv cv zs O V ao m co2 L #[.int .i64 0, .slice none 0 0, .slice none 0 0, .slice none 0 0, .int .i64 0] #[.int .i64 0, .slice none 0 0]) (fun _ t _ => 4 - (intOf t).toNat)
  case atStart => exact ⟨0, p5, _, by omega, rfl, rfl, R5.out, X5.out⟩
  case round =>
    clear X5 R5
    obtain ⟨i, p6, y, hi, rfl, rfl, hr, hx⟩ := hrel
    have X6 : Hid (XD w wr q k kx a bs c n fi veh g zl cg go ko co gv kv cv zs O V ao m co2 L #[.int .i64 0, .slice none 0 0, .slice none 0 0, .slice none 0 0, .int .i64 0] #[.int .i64 0, .slice none 0 0]) := hx
    have R6 : Hid (RD wr q a bs c p6) := hr
    clear hx hr
    obtain ⟨m0, m1⟩ := cells2 X6.out.x
    by_cases hlt : i < 4
    · have h1 : (i : Int) < 4 := by omega
      have hwr : IntKind.i64.wrap ((i : Int) + 1) = ((i + 1 : Nat) : Int) := by rw [IntWalk.i64_in _ (by omega)]; omega
      obtain ⟨hb, HHB⟩ : ∃ v, Hid (hasTo L m y = v) := ⟨_, rfl⟩
      have L3H : Hid (Calls Try.prog 30 #[.slice ao m co2, .int .i64 y] wr fun e w' => e = .returned (.bool hb) ∧ w' = wr) := by
        have := l3Has_any ao m co2 y L wr X6.out.il (by rw [X6.out.l.1]; exact Nat.le_refl _) (by omega)
        rw [HHB.out] at this
        exact this
      go_wp2_with fail
      refine L3H.out.mono ?_
      rintro e w7 ⟨rfl, rfl⟩
      clear L3H HHB m0 m1
      cases hb
      · go_wp2_with fail
        refine wp_region_held_drew (S := fun W => W.cell? ⟨k, 0, none⟩ = some (.int .i64 n) ∧ W.cell? ⟨k, 1, none⟩ = some (.slice (some ⟨g, 0, none⟩) zl cg) ∧ W.cell? ⟨k, 2, none⟩ = some (.slice (some ⟨go, 0, none⟩) ko co) ∧ W.cell? ⟨k, 3, none⟩ = some (.slice (some ⟨gv, 0, none⟩) kv cv) ∧ W.cell? ⟨k, 4, none⟩ = some (.int .i64 fi) ∧ W.cell? ⟨kx, 0, none⟩ = some (.int .i64 veh) ∧ W.cell? ⟨kx, 1, none⟩ = some (.slice ao m co2)) (by kernel_rfl) ?_ (fun hHeld => ?_)
        · exact XD.keep (X6.out.below (Below.refl _ _).drew)
        refine wpAnyH_take (i := 0) (v := ?_) rfl (by kernel_rfl) (by kernel_rfl) (by kernel_rfl) (fun _ _ _ h => h) (Or.inl ⟨by kernel_rfl, ?_⟩) hHeld ?_
        rotate_left 1
        · intro w hSw
          (try dsimp only at hSw)
          (try go_split_ands)
          go_simp
          all_goals (first | done | with_reducible rfl)
        change wpAnyH _ _ _ _ _ _ _ (Act.put _ (some 39) _) _
        simp only [Act.put, List.setIfInBounds_toArray, List.set_cons_zero, List.set_cons_succ]
        refine wpAnyH_take (i := 1) (v := ?_) rfl (by kernel_rfl) (by kernel_rfl) (by kernel_rfl) (fun _ _ _ h => h) (Or.inl ⟨by kernel_rfl, ?_⟩) hHeld ?_
        rotate_left 1
        · intro w hSw
          (try dsimp only at hSw)
          (try go_split_ands)
          go_simp
          all_goals (first | done | with_reducible rfl)
        change wpAnyH _ _ _ _ _ _ _ (Act.put _ (some 40) _) _
        simp only [Act.put, List.setIfInBounds_toArray, List.set_cons_zero, List.set_cons_succ]
        refine wpAnyH_take (i := 2) (v := ?_) rfl (by kernel_rfl) (by kernel_rfl) (by kernel_rfl) (fun _ _ _ h => h) (Or.inl ⟨by kernel_rfl, ?_⟩) hHeld ?_
        rotate_left 1
        · intro w hSw
          (try dsimp only at hSw)
          (try go_split_ands)
          go_simp
          all_goals (first | done | with_reducible rfl)
        change wpAnyH _ _ _ _ _ _ _ (Act.put _ (some 41) _) _
        simp only [Act.put, List.setIfInBounds_toArray, List.set_cons_zero, List.set_cons_succ]
        refine wpAnyH_ready (rs := [3]) (by kernel_rfl) (by simp) ?_
        refine AllReadyH.cons rfl (fun K hK => ?_) AllReadyH.nil
        obtain ⟨q0, q1, q2, q3, q4⟩ := cells5z (X6.out).s.b0
        have qf := fun i => frozen_of_row _ _ i _ _ (X6.out).s.b0
        go_simp
        clear q0 q1 q2 q3 q4 qf
        refine hK.out _ _ ?_ (fun hHeld => ?_)
        · exact XD.keep ((X6.out.setC).below (Below.refl _ _).drew)
        clear hK K
        (try simp only [Act.put])
        refine wpAnyH_ready (rs := [4]) (by kernel_rfl) (by simp) ?_
        refine AllReadyH.cons rfl (fun K hK => ?_) AllReadyH.nil
        obtain ⟨q0, q1⟩ := cells2 (X6.out.setC).s.b2
        have qf := fun i => frozen_of_row _ _ i _ _ (X6.out.setC).s.b2
        go_simp
        clear q0 q1 qf
        refine hK.out _ _ ?_ (fun hHeld => ?_)
        · exact XD.keep ((X6.out.setC.setR).below (Below.refl _ _).drew)
        clear hK K
        (try simp only [Act.put])
        refine wpAnyH_take (i := 5) (v := ?_) rfl (by kernel_rfl) (by kernel_rfl) (by kernel_rfl) (fun _ _ _ h => h) (Or.inl ⟨by kernel_rfl, ?_⟩) hHeld ?_
        rotate_left 1
        · intro w hSw
          (try dsimp only at hSw)
          (try go_split_ands)
          go_simp
          all_goals (first | done | with_reducible rfl)
        change wpAnyH _ _ _ _ _ _ _ (Act.put _ (some 4) _) _
        simp only [Act.put, List.setIfInBounds_toArray, List.set_cons_zero, List.set_cons_succ]
        refine wpAnyH_done (by kernel_rfl) ?_ _
        go_wp2
        exact XD.doneB ((X6.out.setC.setR).below (Below.refl _ _).drew) HLS.out _ HBI.out _ (by rfl) (by rfl) (by rfl) (by rfl)
      · obtain ⟨d0, d1, d2, d3, d4⟩ := cells5z X6.out.s.b1
        go_wp2_with fail
        clear d0 d1 d2 d3 d4
        refine (below_any q p6 c ko a bs w7 R6.out hkoI).mono ?_
        rintro e w8 ⟨y8, p8, rfl, hy0, hy1, hr, hg⟩
        have X8 : Hid (XD w w8 q k kx a bs c n fi veh g zl cg go ko co gv kv cv zs O V ao m co2 L #[.int .i64 0, .slice none 0 0, .slice none 0 0, .slice none 0 0, .int .i64 0] #[.int .i64 0, .slice none 0 0]) := X6.out.read hr hg
        have R8 : Hid (RD w8 q a bs c p8) := hr
        clear hr hg X6 R6
        have hy6 : y8 ≤ 65536 := by have : max (ko : Int) 1 ≤ 6 := by omega
                                    omega
        clear hy1
        go_wp2
        go_roundw
        case rel => exact ⟨i + 1, p8, _, by omega, rfl, by first | rfl | go_num, R8.out, X8.out⟩
        case measure => simp [intOf]; omega
    · have h1 : ¬ ((i : Int) < 4) := by omega
      clear m0 m1
      have hw7 : wr = wr := rfl
      clear hw7
      go_wp2_with fail
      refine wp_region_held_drew (S := fun W => W.cell? ⟨k, 0, none⟩ = some (.int .i64 n) ∧ W.cell? ⟨k, 1, none⟩ = some (.slice (some ⟨g, 0, none⟩) zl cg) ∧ W.cell? ⟨k, 2, none⟩ = some (.slice (some ⟨go, 0, none⟩) ko co) ∧ W.cell? ⟨k, 3, none⟩ = some (.slice (some ⟨gv, 0, none⟩) kv cv) ∧ W.cell? ⟨k, 4, none⟩ = some (.int .i64 fi) ∧ W.cell? ⟨kx, 0, none⟩ = some (.int .i64 veh) ∧ W.cell? ⟨kx, 1, none⟩ = some (.slice ao m co2)) (by kernel_rfl) ?_ (fun hHeld => ?_)
      · exact XD.keep (X6.out.below (Below.refl _ _).drew)
      refine wpAnyH_take (i := 0) (v := ?_) rfl (by kernel_rfl) (by kernel_rfl) (by kernel_rfl) (fun _ _ _ h => h) (Or.inl ⟨by kernel_rfl, ?_⟩) hHeld ?_
      rotate_left 1
      · intro w hSw
        (try dsimp only at hSw)
        (try go_split_ands)
        go_simp
        all_goals (first | done | with_reducible rfl)
      change wpAnyH _ _ _ _ _ _ _ (Act.put _ (some 39) _) _
      simp only [Act.put, List.setIfInBounds_toArray, List.set_cons_zero, List.set_cons_succ]
      refine wpAnyH_take (i := 1) (v := ?_) rfl (by kernel_rfl) (by kernel_rfl) (by kernel_rfl) (fun _ _ _ h => h) (Or.inl ⟨by kernel_rfl, ?_⟩) hHeld ?_
      rotate_left 1
      · intro w hSw
        (try dsimp only at hSw)
        (try go_split_ands)
        go_simp
        all_goals (first | done | with_reducible rfl)
      change wpAnyH _ _ _ _ _ _ _ (Act.put _ (some 40) _) _
      simp only [Act.put, List.setIfInBounds_toArray, List.set_cons_zero, List.set_cons_succ]
      refine wpAnyH_take (i := 2) (v := ?_) rfl (by kernel_rfl) (by kernel_rfl) (by kernel_rfl) (fun _ _ _ h => h) (Or.inl ⟨by kernel_rfl, ?_⟩) hHeld ?_
      rotate_left 1
      · intro w hSw
        (try dsimp only at hSw)
        (try go_split_ands)
        go_simp
        all_goals (first | done | with_reducible rfl)
      change wpAnyH _ _ _ _ _ _ _ (Act.put _ (some 41) _) _
      simp only [Act.put, List.setIfInBounds_toArray, List.set_cons_zero, List.set_cons_succ]
      refine wpAnyH_ready (rs := [3]) (by kernel_rfl) (by simp) ?_
      refine AllReadyH.cons rfl (fun K hK => ?_) AllReadyH.nil
      obtain ⟨q0, q1, q2, q3, q4⟩ := cells5z (X6.out).s.b0
      have qf := fun i => frozen_of_row _ _ i _ _ (X6.out).s.b0
      go_simp
      clear q0 q1 q2 q3 q4 qf
      refine hK.out _ _ ?_ (fun hHeld => ?_)
      · exact XD.keep ((X6.out.setC).below (Below.refl _ _).drew)
      clear hK K
      (try simp only [Act.put])
      refine wpAnyH_ready (rs := [4]) (by kernel_rfl) (by simp) ?_
      refine AllReadyH.cons rfl (fun K hK => ?_) AllReadyH.nil
      obtain ⟨q0, q1⟩ := cells2 (X6.out.setC).s.b2
      have qf := fun i => frozen_of_row _ _ i _ _ (X6.out.setC).s.b2
      go_simp
      clear q0 q1 qf
      refine hK.out _ _ ?_ (fun hHeld => ?_)
      · exact XD.keep ((X6.out.setC.setR).below (Below.refl _ _).drew)
      clear hK K
      (try simp only [Act.put])
      refine wpAnyH_take (i := 5) (v := ?_) rfl (by kernel_rfl) (by kernel_rfl) (by kernel_rfl) (fun _ _ _ h => h) (Or.inl ⟨by kernel_rfl, ?_⟩) hHeld ?_
      rotate_left 1
      · intro w hSw
        (try dsimp only at hSw)
        (try go_split_ands)
        go_simp
        all_goals (first | done | with_reducible rfl)
      change wpAnyH _ _ _ _ _ _ _ (Act.put _ (some 4) _) _
      simp only [Act.put, List.setIfInBounds_toArray, List.set_cons_zero, List.set_cons_succ]
      refine wpAnyH_done (by kernel_rfl) ?_ _
      go_wp2
      exact XD.doneB ((X6.out.setC.setR).below (Below.refl _ _).drew) HLS.out _ HBI.out _ (by rfl) (by rfl) (by rfl) (by rfl)

end Go.Proofs.Ytplefpmchhcfcaa
