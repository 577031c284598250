import Derived.Test.YtplefpmchhcfcaaDrawFine
import Derived.Test.YtplefpmchhcfcaaDrawCase
namespace Go.Proofs.Ytplefpmchhcfcaa
open Go.RowKit

/-- Inside the draw of a case and a route: the reader, the results' cells, the case in its box, its rows. -/
structure SD (w W : World) (q k : Nat) (a : Option Addr) (bs : List Int) (c : Nat) (cs : Array Value) (g go gv : Nat) (zs O V : List Int) (rc rr : Array Value) : Prop where
  b : Below w.heap.size w W
  r : ∃ p, RD W q a bs c p
  h : w.heap.size + 1 < q ∧ (k ≠ q ∧ w.heap.size + 1 < k) ∧ (g ≠ q ∧ w.heap.size + 1 < g) ∧ (go ≠ q ∧ w.heap.size + 1 < go) ∧ (gv ≠ q ∧ w.heap.size + 1 < gv)
  cd : ∀ j, j < bs.length → ∃ b off, a = some ⟨b, off, none⟩ ∧ b < w.heap.size
  b0 : W.heap[w.heap.size]? = some (.cells rc 30 (0, 0))
  b2 : W.heap[w.heap.size + 1]? = some (.cells rr 32 (0, 0))
  b1 : W.heap[k]? = some (.cells cs 30 (0, 0))
  iz : IntsAt W (some ⟨g, 0, none⟩) zs
  io : IntsAt W (some ⟨go, 0, none⟩) O
  iv : IntsAt W (some ⟨gv, 0, none⟩) V
section
variable {w W W' : World} {q k : Nat} {a : Option Addr} {bs : List Int} {c : Nat} {cs : Array Value} {g go gv : Nat} {zs O V : List Int} {rc rr : Array Value}
theorem SD.size (h : SD w W q k a bs c cs g go gv zs O V rc rr) : w.heap.size + 2 ≤ W.heap.size := row_lt h.b2
theorem SD.read {p : Nat} (h : SD w W q k a bs c cs g go gv zs O V rc rr) (hr : RD W' q a bs c p) (hg : W.grownBy W' (some q)) : SD w W' q k a bs c cs g go gv zs O V rc rr := by
  obtain ⟨h1, ⟨h2, h3⟩, ⟨h4, h5⟩, ⟨h6, h7⟩, ⟨h8, h9⟩⟩ := h.h
  exact ⟨grown_below h.b (by omega) hg, ⟨p, hr⟩, h.h, h.cd, grown_row hg h.b0 (fun e => by injection e with e; omega), grown_row hg h.b2 (fun e => by injection e with e; omega), grown_row hg h.b1 (fun e => by injection e with e; omega), ints_other h.iz hg h4, ints_other h.io hg h6, ints_other h.iv hg h8⟩
theorem SD.below (h : SD w W q k a bs c cs g go gv zs O V rc rr) (hb : Below W.heap.size W W') : SD w W' q k a bs c cs g go gv zs O V rc rr := by
  obtain ⟨p, hr⟩ := h.r
  exact ⟨h.b.trans (hb.mono h.b.size), ⟨p, hr.below hb⟩, h.h, h.cd, below_row hb (row_lt h.b0) h.b0, below_row hb (row_lt h.b2) h.b2, below_row hb (row_lt h.b1) h.b1, h.iz.below hb, h.io.below hb, h.iv.below hb⟩
theorem RD.aside {p s : Nat} (h : RD W q a bs c p) (hcd : ∀ j, j < bs.length → ∃ b off, a = some ⟨b, off, none⟩ ∧ b < w.heap.size) (hg : W.grownBy W' (some s)) (hs : w.heap.size ≤ s) (hq : q ≠ s) : RD W' q a bs c p := by
  refine ⟨grown_row hg h.1 (fun e => by injection e with e; omega), h.2.1, fun j hj => ?_, h.2.2.2⟩
  obtain ⟨b, off, e, hne, hc, hv⟩ := h.2.2.1 j hj
  obtain ⟨b', off', e', hb'⟩ := hcd j hj
  have eb : b = b' := by rw [e] at e'; simp at e'; exact e'.1
  exact ⟨b, off, e, hne, hg.cell hc (fun e2 => by have e3 : b = s := by injection e2
                                                  omega), hv⟩
/-- A block of the results is written. -/
theorem SD.aside {s : Nat} {rc' rr' : Array Value} (h : SD w W q k a bs c cs g go gv zs O V rc rr) (hg : W.grownBy W' (some s)) (hs : s = w.heap.size ∨ s = w.heap.size + 1) (b0 : W'.heap[w.heap.size]? = some (.cells rc' 30 (0, 0))) (b2 : W'.heap[w.heap.size + 1]? = some (.cells rr' 32 (0, 0))) : SD w W' q k a bs c cs g go gv zs O V rc' rr' := by
  obtain ⟨h1, ⟨h2, h3⟩, ⟨h4, h5⟩, ⟨h6, h7⟩, ⟨h8, h9⟩⟩ := h.h
  obtain ⟨p, hr⟩ := h.r
  exact ⟨grown_below h.b (by omega) hg, ⟨p, hr.aside h.cd hg (by omega) (by omega)⟩, h.h, h.cd, b0, b2, grown_row hg h.b1 (fun e => by injection e with e; omega), ints_other h.iz hg (by omega), ints_other h.io hg (by omega), ints_other h.iv hg (by omega)⟩
end
theorem SD.setC {w W : World} {q k : Nat} {a : Option Addr} {bs : List Int} {c : Nat} {n fi : Int} {g zl cg go ko co gv kv cv : Nat} {zs O V : List Int} {z0 z1 z2 z3 z4 : Value} {rr : Array Value} (h : SD w W q k a bs c #[.int .i64 n, .slice (some ⟨g, 0, none⟩) zl cg, .slice (some ⟨go, 0, none⟩) ko co, .slice (some ⟨gv, 0, none⟩) kv cv, .int .i64 fi] g go gv zs O V #[z0, z1, z2, z3, z4] rr) : SD w (((((W.setCell ⟨w.heap.size, 0, none⟩ (.int .i64 n)).setCell ⟨w.heap.size, 1, none⟩ (.slice (some ⟨g, 0, none⟩) zl cg)).setCell ⟨w.heap.size, 2, none⟩ (.slice (some ⟨go, 0, none⟩) ko co)).setCell ⟨w.heap.size, 3, none⟩ (.slice (some ⟨gv, 0, none⟩) kv cv)).setCell ⟨w.heap.size, 4, none⟩ (.int .i64 fi)) q k a bs c #[.int .i64 n, .slice (some ⟨g, 0, none⟩) zl cg, .slice (some ⟨go, 0, none⟩) ko co, .slice (some ⟨gv, 0, none⟩) kv cv, .int .i64 fi] g go gv zs O V #[.int .i64 n, .slice (some ⟨g, 0, none⟩) zl cg, .slice (some ⟨go, 0, none⟩) ko co, .slice (some ⟨gv, 0, none⟩) kv cv, .int .i64 fi] rr := by
  have hs : W.grownBy (((((W.setCell ⟨w.heap.size, 0, none⟩ (.int .i64 n)).setCell ⟨w.heap.size, 1, none⟩ (.slice (some ⟨g, 0, none⟩) zl cg)).setCell ⟨w.heap.size, 2, none⟩ (.slice (some ⟨go, 0, none⟩) ko co)).setCell ⟨w.heap.size, 3, none⟩ (.slice (some ⟨gv, 0, none⟩) kv cv)).setCell ⟨w.heap.size, 4, none⟩ (.int .i64 fi)) (some w.heap.size) := grown_trans (grown_trans (grown_trans (grown_trans (grown_set _ _ _ _) (grown_set _ _ _ _)) (grown_set _ _ _ _)) (grown_set _ _ _ _)) (grown_set _ _ _ _)
  refine h.aside hs (.inl rfl) ?_ (grown_row hs h.b2 (fun e => by injection e with e; omega))
  have := row_put (i := 4) (.int .i64 fi) (row_put (i := 3) (.slice (some ⟨gv, 0, none⟩) kv cv) (row_put (i := 2) (.slice (some ⟨go, 0, none⟩) ko co) (row_put (i := 1) (.slice (some ⟨g, 0, none⟩) zl cg) (row_put (i := 0) (.int .i64 n) h.b0))))
  simpa using this
theorem SD.setR {w W : World} {q k : Nat} {a : Option Addr} {bs : List Int} {c : Nat} {cs : Array Value} {g go gv : Nat} {zs O V : List Int} {rc : Array Value} {z0 z1 : Value} (veh : Int) (sl : Value) (h : SD w W q k a bs c cs g go gv zs O V rc #[z0, z1]) : SD w ((W.setCell ⟨w.heap.size + 1, 0, none⟩ (.int .i64 veh)).setCell ⟨w.heap.size + 1, 1, none⟩ sl) q k a bs c cs g go gv zs O V rc #[.int .i64 veh, sl] := by
  have hs : W.grownBy ((W.setCell ⟨w.heap.size + 1, 0, none⟩ (.int .i64 veh)).setCell ⟨w.heap.size + 1, 1, none⟩ sl) (some (w.heap.size + 1)) := grown_trans (grown_set _ _ _ _) (grown_set _ _ _ _)
  refine h.aside hs (.inr rfl) (grown_row hs h.b0 (fun e => by injection e with e; omega)) ?_
  have := row_put (i := 1) sl (row_put (i := 0) (.int .i64 veh) h.b2)
  simpa using this
theorem SD.keep {w W : World} {q k : Nat} {a : Option Addr} {bs : List Int} {c : Nat} {n fi : Int} {g zl cg go ko co gv kv cv : Nat} {zs O V : List Int} {rc rr : Array Value} (h : SD w W q k a bs c #[.int .i64 n, .slice (some ⟨g, 0, none⟩) zl cg, .slice (some ⟨go, 0, none⟩) ko co, .slice (some ⟨gv, 0, none⟩) kv cv, .int .i64 fi] g go gv zs O V rc rr) : W.cell? ⟨k, 0, none⟩ = some (.int .i64 n) ∧ W.cell? ⟨k, 1, none⟩ = some (.slice (some ⟨g, 0, none⟩) zl cg) ∧ W.cell? ⟨k, 2, none⟩ = some (.slice (some ⟨go, 0, none⟩) ko co) ∧ W.cell? ⟨k, 3, none⟩ = some (.slice (some ⟨gv, 0, none⟩) kv cv) ∧ W.cell? ⟨k, 4, none⟩ = some (.int .i64 fi) := cells5z h.b1
/-- The stops of the drawn route, in a block of the call's own. -/
def StopsAt (w W : World) (ao : Option Addr) (m co2 : Nat) (L : List Int) : Prop := L.length = m ∧ m ≤ 4 ∧ m ≤ co2 ∧ IntsAt W ao L ∧ ∀ b, (Value.slice ao 0 0).ownBlock = some b → w.heap.size + 2 ≤ b
theorem StopsAt.of_own {w W : World} {B : Nat} {ao : Option Addr} {m co2 : Nat} {L : List Int} (h : W.ownsRow B 2 1 (.slice ao m co2) m (L.map (Value.int .i64))) (hL : L.length = m) (h4 : L.length ≤ 4) (hB : w.heap.size + 2 ≤ B) : StopsAt w W ao m co2 L := by
  refine ⟨hL, by omega, ?_, ?_, fun b e => ?_⟩
  · obtain ⟨_, ⟨h1, h2⟩ | ⟨g', cap, cur, h2, _, _, h3, _⟩⟩ := h
    · omega
    · injection h2 with _ _ e3
      omega
  · obtain ⟨a', c', e, _, hi⟩ := owns_at1 h
    have e2 : ao = a' := by injection e
    rw [e2]; exact hi
  · have : (Value.slice ao m co2).ownBlock = some b := by rw [show (Value.slice ao m co2).ownBlock = (Value.slice ao 0 0).ownBlock from by cases ao <;> rfl]; exact e
    have := (h.lt b this).1
    omega
theorem StopsAt.grown {w W W' : World} {ao : Option Addr} {m co2 s : Nat} {L : List Int} (h : StopsAt w W ao m co2 L) (hg : W.grownBy W' (some s)) (hs : s ≤ w.heap.size + 1) : StopsAt w W' ao m co2 L := by
  obtain ⟨h1, h2, h3, h4, h5⟩ := h
  refine ⟨h1, h2, h3, fun j hj => ?_, h5⟩
  obtain ⟨b, off, rfl, hc⟩ := h4 j hj
  exact ⟨b, off, rfl, hg.cell hc (fun e => by have e3 : b = s := by injection e
                                              have := h5 b rfl
                                              omega)⟩
theorem StopsAt.setC {w W : World} {ao : Option Addr} {m co2 : Nat} {L : List Int} {v0 v1 v2 v3 v4 : Value} (h : StopsAt w W ao m co2 L) : StopsAt w (((((W.setCell ⟨w.heap.size, 0, none⟩ v0).setCell ⟨w.heap.size, 1, none⟩ v1).setCell ⟨w.heap.size, 2, none⟩ v2).setCell ⟨w.heap.size, 3, none⟩ v3).setCell ⟨w.heap.size, 4, none⟩ v4) ao m co2 L :=
  h.grown (grown_trans (grown_trans (grown_trans (grown_trans (grown_set _ _ _ _) (grown_set _ _ _ _)) (grown_set _ _ _ _)) (grown_set _ _ _ _)) (grown_set _ _ _ _)) (by omega)
theorem StopsAt.setR {w W : World} {ao : Option Addr} {m co2 : Nat} {L : List Int} {v0 v1 : Value} (h : StopsAt w W ao m co2 L) : StopsAt w ((W.setCell ⟨w.heap.size + 1, 0, none⟩ v0).setCell ⟨w.heap.size + 1, 1, none⟩ v1) ao m co2 L :=
  h.grown (grown_trans (grown_set _ _ _ _) (grown_set _ _ _ _)) (by omega)

end Go.Proofs.Ytplefpmchhcfcaa

namespace Go.Proofs.Ytplefpmchhcfcaa
open Go.RowKit

/-- As SD, with the drawn route in a box of its own. -/
structure XD (w W : World) (q k kx : Nat) (a : Option Addr) (bs : List Int) (c : Nat) (n fi veh : Int) (g zl cg go ko co gv kv cv : Nat) (zs O V : List Int) (ao : Option Addr) (m co2 : Nat) (L : List Int) (rc rr : Array Value) : Prop where
  s : SD w W q k a bs c #[.int .i64 n, .slice (some ⟨g, 0, none⟩) zl cg, .slice (some ⟨go, 0, none⟩) ko co, .slice (some ⟨gv, 0, none⟩) kv cv, .int .i64 fi] g go gv zs O V rc rr
  x : W.heap[kx]? = some (.cells #[.int .i64 veh, .slice ao m co2] 32 (0, 0))
  hx : w.heap.size + 1 < kx ∧ kx ≠ q
  l : L.length = m ∧ m ≤ 4 ∧ m ≤ co2
  il : IntsAt W ao L
  ol : ∀ b, (Value.slice ao 0 0).ownBlock = some b → w.heap.size + 2 ≤ b ∧ b ≠ q
section
variable {w W W' : World} {q k kx : Nat} {a : Option Addr} {bs : List Int} {c : Nat} {n fi veh : Int} {g zl cg go ko co gv kv cv : Nat} {zs O V : List Int} {ao : Option Addr} {m co2 : Nat} {L : List Int} {rc rr : Array Value}
theorem XD.read {p : Nat} (h : XD w W q k kx a bs c n fi veh g zl cg go ko co gv kv cv zs O V ao m co2 L rc rr) (hr : RD W' q a bs c p) (hg : W.grownBy W' (some q)) : XD w W' q k kx a bs c n fi veh g zl cg go ko co gv kv cv zs O V ao m co2 L rc rr := by
  refine ⟨h.s.read hr hg, grown_row hg h.x (fun e => h.hx.2 (by injection e)), h.hx, h.l, fun j hj => ?_, h.ol⟩
  obtain ⟨b, off, rfl, hc⟩ := h.il j hj
  exact ⟨b, off, rfl, hg.cell hc (fun e => absurd (Option.some.inj e) (h.ol b rfl).2)⟩
theorem XD.below (h : XD w W q k kx a bs c n fi veh g zl cg go ko co gv kv cv zs O V ao m co2 L rc rr) (hb : Below W.heap.size W W') : XD w W' q k kx a bs c n fi veh g zl cg go ko co gv kv cv zs O V ao m co2 L rc rr :=
  ⟨h.s.below hb, below_row hb (row_lt h.x) h.x, h.hx, h.l, h.il.below hb, h.ol⟩
theorem XD.aside {s : Nat} {rc' rr' : Array Value} (h : XD w W q k kx a bs c n fi veh g zl cg go ko co gv kv cv zs O V ao m co2 L rc rr) (hs : s = w.heap.size ∨ s = w.heap.size + 1) (hg : W.grownBy W' (some s)) (hS : SD w W' q k a bs c #[.int .i64 n, .slice (some ⟨g, 0, none⟩) zl cg, .slice (some ⟨go, 0, none⟩) ko co, .slice (some ⟨gv, 0, none⟩) kv cv, .int .i64 fi] g go gv zs O V rc' rr') : XD w W' q k kx a bs c n fi veh g zl cg go ko co gv kv cv zs O V ao m co2 L rc' rr' := by
  have h1 := h.hx.1
  refine ⟨hS, grown_row hg h.x (fun e => by injection e with e; omega), h.hx, h.l, fun j hj => ?_, h.ol⟩
  obtain ⟨b, off, rfl, hc⟩ := h.il j hj
  have hb := (h.ol b rfl).1
  exact ⟨b, off, rfl, hg.cell hc (fun e => absurd (Option.some.inj e) (by show b ≠ _; omega))⟩
theorem XD.setC {z0 z1 z2 z3 z4 : Value} (h : XD w W q k kx a bs c n fi veh g zl cg go ko co gv kv cv zs O V ao m co2 L #[z0, z1, z2, z3, z4] rr) : XD w (((((W.setCell ⟨w.heap.size, 0, none⟩ (.int .i64 n)).setCell ⟨w.heap.size, 1, none⟩ (.slice (some ⟨g, 0, none⟩) zl cg)).setCell ⟨w.heap.size, 2, none⟩ (.slice (some ⟨go, 0, none⟩) ko co)).setCell ⟨w.heap.size, 3, none⟩ (.slice (some ⟨gv, 0, none⟩) kv cv)).setCell ⟨w.heap.size, 4, none⟩ (.int .i64 fi)) q k kx a bs c n fi veh g zl cg go ko co gv kv cv zs O V ao m co2 L #[.int .i64 n, .slice (some ⟨g, 0, none⟩) zl cg, .slice (some ⟨go, 0, none⟩) ko co, .slice (some ⟨gv, 0, none⟩) kv cv, .int .i64 fi] rr :=
  h.aside (.inl rfl) (grown_trans (grown_trans (grown_trans (grown_trans (grown_set _ _ _ _) (grown_set _ _ _ _)) (grown_set _ _ _ _)) (grown_set _ _ _ _)) (grown_set _ _ _ _)) h.s.setC
theorem XD.setR {z0 z1 : Value} (h : XD w W q k kx a bs c n fi veh g zl cg go ko co gv kv cv zs O V ao m co2 L rc #[z0, z1]) : XD w ((W.setCell ⟨w.heap.size + 1, 0, none⟩ (.int .i64 veh)).setCell ⟨w.heap.size + 1, 1, none⟩ (.slice ao m co2)) q k kx a bs c n fi veh g zl cg go ko co gv kv cv zs O V ao m co2 L rc #[.int .i64 veh, .slice ao m co2] :=
  h.aside (.inr rfl) (grown_trans (grown_set _ _ _ _) (grown_set _ _ _ _)) (h.s.setR veh (.slice ao m co2))
theorem XD.keep (h : XD w W q k kx a bs c n fi veh g zl cg go ko co gv kv cv zs O V ao m co2 L rc rr) : W.cell? ⟨k, 0, none⟩ = some (.int .i64 n) ∧ W.cell? ⟨k, 1, none⟩ = some (.slice (some ⟨g, 0, none⟩) zl cg) ∧ W.cell? ⟨k, 2, none⟩ = some (.slice (some ⟨go, 0, none⟩) ko co) ∧ W.cell? ⟨k, 3, none⟩ = some (.slice (some ⟨gv, 0, none⟩) kv cv) ∧ W.cell? ⟨k, 4, none⟩ = some (.int .i64 fi) ∧ W.cell? ⟨kx, 0, none⟩ = some (.int .i64 veh) ∧ W.cell? ⟨kx, 1, none⟩ = some (.slice ao m co2) := by
  obtain ⟨d0, d1, d2, d3, d4⟩ := cells5z h.s.b1
  obtain ⟨e0, e1⟩ := cells2 h.x
  exact ⟨d0, d1, d2, d3, d4, e0, e1⟩
end

end Go.Proofs.Ytplefpmchhcfcaa
