import Derived.Test.YtplefpmchhcfcaaDrawFine
import Derived.Test.YtplefpmchhcfcaaDrawCase
namespace Go.Proofs.Ytplefpmchhcfcaa
open Go.RowKit

/-- Inside the draw of a case and a route: the reader, the results' cells, the case in its box, its rows. -/
structure SD (w W : World) (q k : Nat) (a : Option Addr) (bs : List Int) (c : Nat) (cs : Array Value) (g go gv : Nat) (zs O V : List Int) (rc rr : Array Value) : Prop where
  b : Below w.heap.size w W
  r : ∃ p, RD W q a bs c p
  h : w.heap.size + 1 < q ∧ (k ≠ q ∧ w.heap.size + 1 < k) ∧ (g ≠ q ∧ w.heap.size + 1 < g) ∧ (go ≠ q ∧ w.heap.size + 1 < go) ∧ (gv ≠ q ∧ w.heap.size + 1 < gv)
  cd : ∀ j, j < bs.length → ∃ b off, a = some ⟨b, off, none⟩ ∧ b < w.heap.size
  b0 : W.heap[w.heap.size]? = some (.cells rc 30 (0, 0))
  b2 : W.heap[w.heap.size + 1]? = some (.cells rr 32 (0, 0))
  b1 : W.heap[k]? = some (.cells cs 30 (0, 0))
  iz : IntsAt W (some ⟨g, 0, none⟩) zs
  io : IntsAt W (some ⟨go, 0, none⟩) O
  iv : IntsAt W (some ⟨gv, 0, none⟩) V
section
variable {w W W' : World} {q k : Nat} {a : Option Addr} {bs : List Int} {c : Nat} {cs : Array Value} {g go gv : Nat} {zs O V : List Int} {rc rr : Array Value}
theorem SD.size (h : SD w W q k a bs c cs g go gv zs O V rc rr) : w.heap.size + 2 ≤ W.heap.size := row_lt h.b2
theorem SD.read {p : Nat} (h : SD w W q k a bs c cs g go gv zs O V rc rr) (hr : RD W' q a bs c p) (hg : W.grownBy W' (some q)) : SD w W' q k a bs c cs g go gv zs O V rc rr := by
  obtain ⟨h1, ⟨h2, h3⟩, ⟨h4, h5⟩, ⟨h6, h7⟩, ⟨h8, h9⟩⟩ := h.h
  exact ⟨grown_below h.b (by omega) hg, ⟨p, hr⟩, h.h, h.cd, grown_row hg h.b0 (fun e => by injection e with e; omega), grown_row hg h.b2 (fun e => by injection e with e; omega), grown_row hg h.b1 (fun e => by injection e with e; omega), ints_other h.iz hg h4, ints_other h.io hg h6, ints_other h.iv hg h8⟩
theorem SD.below (h : SD w W q k a bs c cs g go gv zs O V rc rr) (hb : Below W.heap.size W W') : SD w W' q k a bs c cs g go gv zs O V rc rr := by
  obtain ⟨p, hr⟩ := h.r
  exact ⟨h.b.trans (hb.mono h.b.size), ⟨p, hr.below hb⟩, h.h, h.cd, below_row hb (row_lt h.b0) h.b0, below_row hb (row_lt h.b2) h.b2, below_row hb (row_lt h.b1) h.b1, h.iz.below hb, h.io.below hb, h.iv.below hb⟩
theorem RD.aside {p s : Nat} (h : RD W q a bs c p) (hcd : ∀ j, j < bs.length → ∃ b off, a = some ⟨b, off, none⟩ ∧ b < w.heap.size) (hg : W.grownBy W' (some s)) (hs : w.heap.size ≤ s) (hq : q ≠ s) : RD W' q a bs c p := by
  refine ⟨grown_row hg h.1 (fun e => by injection e with e; omega), h.2.1, fun j hj => ?_, h.2.2.2⟩
  obtain ⟨b, off, e, hne, hc, hv⟩ := h.2.2.1 j hj
  obtain ⟨b', off', e', hb'⟩ := hcd j hj
  have eb : b = b' := by rw [e] at e'; simp at e'; exact e'.1
  exact ⟨b, off, e, hne, hg.cell hc (fun e2 => by have e3 : b = s := by injection e2
                                                  omega), hv⟩
/-- A block of the results is written. -/
theorem SD.aside {s : Nat} {rc' rr' : Array Value} (h : SD w W q k a bs c cs g go gv zs O V rc rr) (hg : W.grownBy W' (some s)) (hs : s = w.heap.size ∨ s = w.heap.size + 1) (b0 : W'.heap[w.heap.size]? = some (.cells rc' 30 (0, 0))) (b2 : W'.heap[w.heap.size + 1]? = some (.cells rr' 32 (0, 0))) : SD w W' q k a bs c cs g go gv zs O V rc' rr' := by
  obtain ⟨h1, ⟨h2, h3⟩, ⟨h4, h5⟩, ⟨h6, h7⟩, ⟨h8, h9⟩⟩ := h.h
  obtain ⟨p, hr⟩ := h.r
  exact ⟨grown_below h.b (by omega) hg, ⟨p, hr.aside h.cd hg (by omega) (by omega)⟩, h.h, h.cd, b0, b2, grown_row hg h.b1 (fun e => by injection e with e; omega), ints_other h.iz hg (by omega), ints_other h.io hg (by omega), ints_other h.iv hg (by omega)⟩
end
theorem SD.setC {w W : World} {q k : Nat} {a : Option Addr} {bs : List Int} {c : Nat} {n fi : Int} {g zl cg go ko co gv kv cv : Nat} {zs O V : List Int} {z0 z1 z2 z3 z4 : Value} {rr : Array Value} (h : SD w W q k a bs c #[.int .i64 n, .slice (some ⟨g, 0, none⟩) zl cg, .slice (some ⟨go, 0, none⟩) ko co, .slice (some ⟨gv, 0, none⟩) kv cv, .int .i64 fi] g go gv zs O V #[z0, z1, z2, z3, z4] rr) : SD w (((((W.setCell ⟨w.heap.size, 0, none⟩ (.int .i64 n)).setCell ⟨w.heap.size, 1, none⟩ (.slice (some ⟨g, 0, none⟩) zl cg)).setCell ⟨w.heap.size, 2, none⟩ (.slice (some ⟨go, 0, none⟩) ko co)).setCell ⟨w.heap.size, 3, none⟩ (.slice (some ⟨gv, 0, none⟩) kv cv)).setCell ⟨w.heap.size, 4, none⟩ (.int .i64 fi)) q k a bs c #[.int .i64 n, .slice (some ⟨g, 0, none⟩) zl cg, .slice (some ⟨go, 0, none⟩) ko co, .slice (some ⟨gv, 0, none⟩) kv cv, .int .i64 fi] g go gv zs O V #[.int .i64 n, .slice (some ⟨g, 0, none⟩) zl cg, .slice (some ⟨go, 0, none⟩) ko co, .slice (some ⟨gv, 0, none⟩) kv cv, .int .i64 fi] rr := by
  have hs : W.grownBy (((((W.setCell ⟨w.heap.size, 0, none⟩ (.int .i64 n)).setCell ⟨w.heap.size, 1, none⟩ (.slice (some ⟨g, 0, none⟩) zl cg)).setCell ⟨w.heap.size, 2, none⟩ (.slice (some ⟨go, 0, none⟩) ko co)).setCell ⟨w.heap.size, 3, none⟩ (.slice (some ⟨gv, 0, none⟩) kv cv)).setCell ⟨w.heap.size, 4, none⟩ (.int .i64 fi)) (some w.heap.size) := grown_trans (grown_trans (grown_trans (grown_trans (grown_set _ _ _ _) (grown_set _ _ _ _)) (grown_set _ _ _ _)) (grown_set _ _ _ _)) (grown_set _ _ _ _)
  refine h.aside hs (.inl rfl) ?_ (grown_row hs h.b2 (fun e => by injection e with e; omega))
  have := row_put (i := 4) (.int .i64 fi) (row_put (i := 3) (.slice (some ⟨gv, 0, none⟩) kv cv) (row_put (i := 2) (.slice (some ⟨go, 0, none⟩) ko co) (row_put (i := 1) (.slice (some ⟨g, 0, none⟩) zl cg) (row_put (i := 0) (.int .i64 n) h.b0))))
  simpa using this
theorem SD.setR {w W : World} {q k : Nat} {a : Option Addr} {bs : List Int} {c : Nat} {cs : Array Value} {g go gv : Nat} {zs O V : List Int} {rc : Array Value} {z0 z1 : Value} (veh : Int) (sl : Value) (h : SD w W q k a bs c cs g go gv zs O V rc #[z0, z1]) : SD w ((W.setCell ⟨w.heap.size + 1, 0, none⟩ (.int .i64 veh)).setCell ⟨w.heap.size + 1, 1, none⟩ sl) q k a bs c cs g go gv zs O V rc #[.int .i64 veh, sl] := by
  have hs : W.grownBy ((W.setCell ⟨w.heap.size + 1, 0, none⟩ (.int .i64 veh)).setCell ⟨w.heap.size + 1, 1, none⟩ sl) (some (w.heap.size + 1)) := grown_trans (grown_set _ _ _ _) (grown_set _ _ _ _)
  refine h.aside hs (.inr rfl) (grown_row hs h.b0 (fun e => by injection e with e; omega)) ?_
  have := row_put (i := 1) sl (row_put (i := 0) (.int .i64 veh) h.b2)
  simpa using this
theorem SD.keep {w W : World} {q k : Nat} {a : Option Addr} {bs : List Int} {c : Nat} {n fi : Int} {g zl cg go ko co gv kv cv : Nat} {zs O V : List Int} {rc rr : Array Value} (h : SD w W q k a bs c #[.int .i64 n, .slice (some ⟨g, 0, none⟩) zl cg, .slice (some ⟨go, 0, none⟩) ko co, .slice (some ⟨gv, 0, none⟩) kv cv, .int .i64 fi] g go gv zs O V rc rr) : W.cell? ⟨k, 0, none⟩ = some (.int .i64 n) ∧ W.cell? ⟨k, 1, none⟩ = some (.slice (some ⟨g, 0, none⟩) zl cg) ∧ W.cell? ⟨k, 2, none⟩ = some (.slice (some ⟨go, 0, none⟩) ko co) ∧ W.cell? ⟨k, 3, none⟩ = some (.slice (some ⟨gv, 0, none⟩) kv cv) ∧ W.cell? ⟨k, 4, none⟩ = some (.int .i64 fi) := cells5z h.b1
/-- The stops of the drawn route, in a block of the call's own. -/
def StopsAt (w W : World) (ao : Option Addr) (m co2 : Nat) (L : List Int) : Prop := L.length = m ∧ m ≤ 4 ∧ m ≤ co2 ∧ IntsAt W ao L ∧ ∀ b, (Value.slice ao 0 0).ownBlock = some b → w.heap.size + 2 ≤ b
theorem StopsAt.of_own {w W : World} {B : Nat} {ao : Option Addr} {m co2 : Nat} {L : List Int} (h : W.ownsRow B 2 1 (.slice ao m co2) m (L.map (Value.int .i64))) (hL : L.length = m) (h4 : L.length ≤ 4) (hB : w.heap.size + 2 ≤ B) : StopsAt w W ao m co2 L := by
  refine ⟨hL, by omega, ?_, ?_, fun b e => ?_⟩
  · obtain ⟨_, ⟨h1, h2⟩ | ⟨g', cap, cur, h2, _, _, h3, _⟩⟩ := h
    · omega
    · injection h2 with _ _ e3
      omega
  · obtain ⟨a', c', e, _, hi⟩ := owns_at1 h
    have e2 : ao = a' := by injection e
    rw [e2]; exact hi
  · have : (Value.slice ao m co2).ownBlock = some b := by rw [show (Value.slice ao m co2).ownBlock = (Value.slice ao 0 0).ownBlock from by cases ao <;> rfl]; exact e
    have := (h.lt b this).1
    omega
theorem StopsAt.grown {w W W' : World} {ao : Option Addr} {m co2 s : Nat} {L : List Int} (h : StopsAt w W ao m co2 L) (hg : W.grownBy W' (some s)) (hs : s ≤ w.heap.size + 1) : StopsAt w W' ao m co2 L := by
  obtain ⟨h1, h2, h3, h4, h5⟩ := h
  refine ⟨h1, h2, h3, fun j hj => ?_, h5⟩
  obtain ⟨b, off, rfl, hc⟩ := h4 j hj
  exact ⟨b, off, rfl, hg.cell hc (fun e => by have e3 : b = s := by injection e
                                              have := h5 b rfl
                                              omega)⟩
theorem StopsAt.setC {w W : World} {ao : Option Addr} {m co2 : Nat} {L : List Int} {v0 v1 v2 v3 v4 : Value} (h : StopsAt w W ao m co2 L) : StopsAt w (((((W.setCell ⟨w.heap.size, 0, none⟩ v0).setCell ⟨w.heap.size, 1, none⟩ v1).setCell ⟨w.heap.size, 2, none⟩ v2).setCell ⟨w.heap.size, 3, none⟩ v3).setCell ⟨w.heap.size, 4, none⟩ v4) ao m co2 L :=
  h.grown (grown_trans (grown_trans (grown_trans (grown_trans (grown_set _ _ _ _) (grown_set _ _ _ _)) (grown_set _ _ _ _)) (grown_set _ _ _ _)) (grown_set _ _ _ _)) (by omega)
theorem StopsAt.setR {w W : World} {ao : Option Addr} {m co2 : Nat} {L : List Int} {v0 v1 : Value} (h : StopsAt w W ao m co2 L) : StopsAt w ((W.setCell ⟨w.heap.size + 1, 0, none⟩ v0).setCell ⟨w.heap.size + 1, 1, none⟩ v1) ao m co2 L :=
  h.grown (grown_trans (grown_set _ _ _ _) (grown_set _ _ _ _)) (by omega)

end Go.Proofs.Ytplefpmchhcfcaa

namespace Go.Proofs.Ytplefpmchhcfcaa
open Go.RowKit

/-- A drawn case and a route, told to their caller. -/
def SchedTold (w : World) (e : Ending) (w' : World) : Prop := ∃ (n : Int) (g zl cg go ko co gv kv cv : Nat) (zs O V L : List Int) (fi veh : Int) (ao : Option Addr) (m co2 : Nat),
  e = .returned (.tuple #[.agg #[.int .i64 n, .slice (some ⟨g, 0, none⟩) zl cg, .slice (some ⟨go, 0, none⟩) ko co, .slice (some ⟨gv, 0, none⟩) kv cv, .int .i64 fi], .agg #[.int .i64 veh, .slice ao m co2]]) ∧ (zs.length = zl ∧ O.length = ko * 6 ∧ V.length = kv * 5 ∧ 1 ≤ ko ∧ ko ≤ 5 ∧ 1 ≤ kv ∧ kv ≤ 3) ∧ (L.length = m ∧ m ≤ 4 ∧ m ≤ co2) ∧
  Below w.heap.size w w' ∧ IntsAt w' (some ⟨g, 0, none⟩) zs ∧ IntsAt w' (some ⟨go, 0, none⟩) O ∧ IntsAt w' (some ⟨gv, 0, none⟩) V ∧ IntsAt w' ao L ∧ (w.heap.size ≤ g ∧ w.heap.size ≤ go ∧ w.heap.size ≤ gv ∧ ∀ b, (Value.slice ao 0 0).ownBlock = some b → w.heap.size ≤ b)
theorem SD.done {w W : World} {q k : Nat} {a : Option Addr} {bs : List Int} {c : Nat} {n fi : Int} {g zl cg go ko co gv kv cv : Nat} {zs O V L : List Int} {veh : Int} {ao : Option Addr} {m co2 : Nat} (h : SD w W q k a bs c #[.int .i64 n, .slice (some ⟨g, 0, none⟩) zl cg, .slice (some ⟨go, 0, none⟩) ko co, .slice (some ⟨gv, 0, none⟩) kv cv, .int .i64 fi] g go gv zs O V #[.int .i64 n, .slice (some ⟨g, 0, none⟩) zl cg, .slice (some ⟨go, 0, none⟩) ko co, .slice (some ⟨gv, 0, none⟩) kv cv, .int .i64 fi] #[.int .i64 veh, .slice ao m co2])
    (hls : zs.length = zl ∧ O.length = ko * 6 ∧ V.length = kv * 5 ∧ 1 ≤ ko ∧ ko ≤ 5 ∧ 1 ≤ kv ∧ kv ≤ 3) (hst : StopsAt w W ao m co2 L) (A : Act) (h2 : A.tmps.getD 2 undef = .pointer (some ⟨w.heap.size, 0, none⟩)) (h3 : A.tmps.getD 3 undef = .pointer (some ⟨w.heap.size + 1, 0, none⟩)) (hds : A.defers = []) :
    bodyPost Try.prog Try.f45 (SchedTold w) Exit.ret A W := by
  obtain ⟨l1, l2, l3, l4, l5⟩ := hst
  refine bodyPost_ret (v := .tuple #[.agg #[.int .i64 n, .slice (some ⟨g, 0, none⟩) zl cg, .slice (some ⟨go, 0, none⟩) ko co, .slice (some ⟨gv, 0, none⟩) kv cv, .int .i64 fi], .agg #[.int .i64 veh, .slice ao m co2]]) ?_ hds ⟨n, g, zl, cg, go, ko, co, gv, kv, cv, zs, O, V, L, fi, veh, ao, m, co2, rfl, hls, ⟨l1, l2, l3⟩, h.b, h.iz, h.io, h.iv, l4, ⟨by have := h.h.2.2.1.2; omega, by have := h.h.2.2.2.1.2; omega, by have := h.h.2.2.2.2.2; omega, fun b e => by have := l5 b e; omega⟩⟩
  have r1 := run_loadVar_row (P := Try.prog) W w.heap.size 30 30 #[.int .i64 n, .slice (some ⟨g, 0, none⟩) zl cg, .slice (some ⟨go, 0, none⟩) ko co, .slice (some ⟨gv, 0, none⟩) kv cv, .int .i64 fi] (0, 0) _ h.b0 Try.underlying30 rfl sizeCase5
  have r2 := run_loadVar_row (P := Try.prog) W (w.heap.size + 1) 32 32 #[.int .i64 veh, .slice ao m co2] (0, 0) _ h.b2 Try.underlying32 rfl sizeRoute2
  have h2' : A.tmps[2]?.getD undef = .pointer (some ⟨w.heap.size, 0, none⟩) := by simpa using h2
  have h3' : A.tmps[3]?.getD undef = .pointer (some ⟨w.heap.size + 1, 0, none⟩) := by simpa using h3
  simp [results, Try.results45, h2', h3', asAddr, r1, r2]

set_option maxRecDepth 10000 in
set_option maxHeartbeats 4000000 in
theorem drawSched_any (a : Option Addr) (c : Nat) (bs : List Int) (w : World) (h : CodeAt w a bs) (hl : bs.length ≤ 1048576) :
    Calls Try.prog 45 #[.slice a bs.length c] w (SchedTold w) := by
  have H : Hid (CodeAt w a bs) := h
  clear h
  have BA : Hid (Below w.heap.size w ((w.alloc (.cells #[.int .i64 0, .slice none 0 0, .slice none 0 0, .slice none 0 0, .int .i64 0] 30)).alloc (.cells #[.int .i64 0, .slice none 0 0] 32))) := ((Below.refl _ _).alloc (Nat.le_refl _) _).alloc (by simp) _
  have GA : Hid (((w.alloc (.cells #[.int .i64 0, .slice none 0 0, .slice none 0 0, .slice none 0 0, .int .i64 0] 30)).alloc (.cells #[.int .i64 0, .slice none 0 0] 32)).heap[w.heap.size]? = some (.cells #[.int .i64 0, .slice none 0 0, .slice none 0 0, .slice none 0 0, .int .i64 0] 30 (0, 0))) := heap_alloc2_old _ _ _
  have GB : Hid (((w.alloc (.cells #[.int .i64 0, .slice none 0 0, .slice none 0 0, .slice none 0 0, .int .i64 0] 30)).alloc (.cells #[.int .i64 0, .slice none 0 0] 32)).heap[w.heap.size + 1]? = some (.cells #[.int .i64 0, .slice none 0 0] 32 (0, 0))) := heap_alloc2_new _ _ _
  have CA : Hid (CodeAt ((w.alloc (.cells #[.int .i64 0, .slice none 0 0, .slice none 0 0, .slice none 0 0, .int .i64 0] 30)).alloc (.cells #[.int .i64 0, .slice none 0 0] 32)) a bs) := by
    intro j hj
    obtain ⟨b, off, e, hc, hv⟩ := H.out j hj
    exact ⟨b, off, e, (BA.out.cell (p := ⟨b, off + j, none⟩) (block_lt_of_cell hc)).trans hc, hv⟩
  go_enter Try.func45, Try.ntmps45
  go_wp2_with fail
  generalize (w.alloc (.cells #[.int .i64 0, .slice none 0 0, .slice none 0 0, .slice none 0 0, .int .i64 0] 30)).alloc (.cells #[.int .i64 0, .slice none 0 0] 32) = W0 at *
  refine (l1Open_any a c bs W0 CA.out hl).mono ?_
  rintro e w1 ⟨rfl, hb, hr⟩
  obtain ⟨q, HQ⟩ : ∃ q, Hid (W0.heap.size = q) := ⟨_, rfl⟩
  have hw0 : w.heap.size + 1 < W0.heap.size := row_lt GB.out
  have HQL : Hid (w.heap.size + 1 < q) := by show _ < _; rw [← HQ.out]; exact hw0
  have B1 : Hid (Below w.heap.size w w1) := BA.out.trans (hb.mono BA.out.size)
  have G1 : Hid (w1.heap[w.heap.size]? = some (.cells #[.int .i64 0, .slice none 0 0, .slice none 0 0, .slice none 0 0, .int .i64 0] 30 (0, 0))) := below_row hb (row_lt GA.out) GA.out
  have G2 : Hid (w1.heap[w.heap.size + 1]? = some (.cells #[.int .i64 0, .slice none 0 0] 32 (0, 0))) := below_row hb (row_lt GB.out) GB.out
  have R1 : Hid (RD w1 q a bs c 0) := by have := hr; rw [HQ.out] at this; exact this
  clear hb hr hw0
  rw [HQ.out]
  go_wp2_with fail
  refine (case1_any q 0 c 5 a bs w1 R1.out (by omega) (by omega)).mono ?_
  rintro e w3 ⟨n, g, zl, cg, go, ko, co, gv, kv, cv, zs, O, V, fi, rfl, hls, hg, ⟨p3, hr⟩, iz, io, iv, hgs⟩
  have HLS : Hid (zs.length = zl ∧ O.length = ko * 6 ∧ V.length = kv * 5 ∧ 1 ≤ ko ∧ ko ≤ 5 ∧ 1 ≤ kv ∧ kv ≤ 3) := hls
  have hko : ko ≤ 5 := hls.2.2.2.2.1
  have hkv : kv ≤ 3 := hls.2.2.2.2.2.2
  have S3 : Hid (SD w (w3.alloc (.cells #[.int .i64 n, .slice (some ⟨g, 0, none⟩) zl cg, .slice (some ⟨go, 0, none⟩) ko co, .slice (some ⟨gv, 0, none⟩) kv cv, .int .i64 fi] 30)) q w3.heap.size a bs c #[.int .i64 n, .slice (some ⟨g, 0, none⟩) zl cg, .slice (some ⟨go, 0, none⟩) ko co, .slice (some ⟨gv, 0, none⟩) kv cv, .int .i64 fi] g go gv zs O V #[.int .i64 0, .slice none 0 0, .slice none 0 0, .slice none 0 0, .int .i64 0] #[.int .i64 0, .slice none 0 0]) := by
    have hA : Below w3.heap.size w3 (w3.alloc (.cells #[.int .i64 n, .slice (some ⟨g, 0, none⟩) zl cg, .slice (some ⟨go, 0, none⟩) ko co, .slice (some ⟨gv, 0, none⟩) kv cv, .int .i64 fi] 30)) := (Below.refl _ _).alloc (Nat.le_refl _) _
    have hwq := HQL.out
    have hq1 : q < w1.heap.size := row_lt R1.out.1
    have b3 : Below w.heap.size w w3 := grown_below B1.out (by omega) hg
    have g3 := grown_row hg G1.out (fun e => by injection e with e; omega)
    have g4 := grown_row hg G2.out (fun e => by injection e with e; omega)
    have hq3 : q < w3.heap.size := row_lt hr.1
    obtain ⟨hs1, hs2, hs3, -⟩ := hgs
    refine ⟨b3.alloc b3.size _, ⟨p3, hr.below hA⟩, ⟨hwq, ⟨by omega, by have := row_lt g4; omega⟩, ⟨by omega, by omega⟩, ⟨by omega, by omega⟩, ⟨by omega, by omega⟩⟩, fun j hj => ?_, below_row hA (row_lt g3) g3, below_row hA (row_lt g4) g4, heap_alloc_new _ _, iz.below hA, io.below hA, iv.below hA⟩
    obtain ⟨b, off, e, hc, _⟩ := H.out j hj
    exact ⟨b, off, e, block_lt_of_cell hc⟩
  have R3 : Hid (RD (w3.alloc (.cells #[.int .i64 n, .slice (some ⟨g, 0, none⟩) zl cg, .slice (some ⟨go, 0, none⟩) ko co, .slice (some ⟨gv, 0, none⟩) kv cv, .int .i64 fi] 30)) q a bs c p3) := hr.below ((Below.refl _ _).alloc (Nat.le_refl _) _)
  clear hr hg iz io iv hgs hls B1 G1 G2 R1 BA GA GB CA
  go_wp2_with fail
  obtain ⟨k, HKk⟩ : ∃ v, Hid (w3.heap.size = v) := ⟨_, rfl⟩
  rw [HKk.out] at S3 ⊢
  generalize w3.alloc (.cells #[.int .i64 n, .slice (some ⟨g, 0, none⟩) zl cg, .slice (some ⟨go, 0, none⟩) ko co, .slice (some ⟨gv, 0, none⟩) kv cv, .int .i64 fi] 30) = W3 at *
  refine (once_any q p3 c 2 a bs W3 R3.out (by omega) (by omega)).mono ?_
  rintro e w4 ⟨b, p4, rfl, hr, hg⟩
  have S4 : Hid (SD w w4 q k a bs c #[.int .i64 n, .slice (some ⟨g, 0, none⟩) zl cg, .slice (some ⟨go, 0, none⟩) ko co, .slice (some ⟨gv, 0, none⟩) kv cv, .int .i64 fi] g go gv zs O V #[.int .i64 0, .slice none 0 0, .slice none 0 0, .slice none 0 0, .int .i64 0] #[.int .i64 0, .slice none 0 0]) := S3.out.read hr hg
  have R4 : Hid (RD w4 q a bs c p4) := hr
  have R4c : Hid (RD (((((w4.setCell ⟨w.heap.size, 0, none⟩ (.int .i64 n)).setCell ⟨w.heap.size, 1, none⟩ (.slice (some ⟨g, 0, none⟩) zl cg)).setCell ⟨w.heap.size, 2, none⟩ (.slice (some ⟨go, 0, none⟩) ko co)).setCell ⟨w.heap.size, 3, none⟩ (.slice (some ⟨gv, 0, none⟩) kv cv)).setCell ⟨w.heap.size, 4, none⟩ (.int .i64 fi)) q a bs c p4) := by
    have h4 := S4.out.h.1
    exact RD.aside hr S4.out.cd (grown_trans (grown_trans (grown_trans (grown_trans (grown_set _ _ _ _) (grown_set _ _ _ _)) (grown_set _ _ _ _)) (grown_set _ _ _ _)) (grown_set _ _ _ _)) (Nat.le_refl _) (by omega)
  clear hr hg S3 R3
  cases b
  · skip
    have kS := (SD.keep (S4.out.below (Below.refl _ _).drew))
    have k1 := (SD.keep (S4.out.setC.below (Below.refl _ _).drew))
    obtain ⟨z0, z1, z2, z3, z4⟩ := cells5z S4.out.b0
    have zf := fun i => frozen_of_row _ _ i _ _ S4.out.b0
    go_wp2_with fail
    go_region_held3 (fun W => W.cell? ⟨k, 0, none⟩ = some (.int .i64 n) ∧ W.cell? ⟨k, 1, none⟩ = some (.slice (some ⟨g, 0, none⟩) zl cg) ∧ W.cell? ⟨k, 2, none⟩ = some (.slice (some ⟨go, 0, none⟩) ko co) ∧ W.cell? ⟨k, 3, none⟩ = some (.slice (some ⟨gv, 0, none⟩) kv cv) ∧ W.cell? ⟨k, 4, none⟩ = some (.int .i64 fi)) (first | with_reducible exact kS | with_reducible exact k1 | with_reducible exact k6 | with_reducible exact k7 | with_reducible exact k8 | with_reducible exact k9 | go_keep) ((first
      | (go_at_call 57
         with_reducible refine (route_any q p4 c n fi g zl cg go ko co gv kv cv O V a bs w4.drew (R4.out.below (Below.refl _ _).drew) (S4.out.below (Below.refl _ _).drew).io (S4.out.below (Below.refl _ _).drew).iv (S4.out.below (Below.refl _ _).drew).h.2.2.2.1.1 (S4.out.below (Below.refl _ _).drew).h.2.2.2.2.1 HLS.out.2.1 HLS.out.2.2.1 HLS.out.2.2.2.1 (by omega) HLS.out.2.2.2.2.2.1 (by omega)).mono ?_
         rintro e w5 ⟨veh, sl, L, rfl, hL, hg, ⟨p5, hr⟩, ho⟩
         obtain ⟨ao, co2, e⟩ := own_any ho
         subst e
         obtain ⟨m, HM⟩ : ∃ m, Hid (L.length = m) := ⟨_, rfl⟩
         rw [HM.out]
         have T5 : Hid (SD w w5 q k a bs c #[.int .i64 n, .slice (some ⟨g, 0, none⟩) zl cg, .slice (some ⟨go, 0, none⟩) ko co, .slice (some ⟨gv, 0, none⟩) kv cv, .int .i64 fi] g go gv zs O V #[.int .i64 0, .slice none 0 0, .slice none 0 0, .slice none 0 0, .int .i64 0] #[.int .i64 0, .slice none 0 0] ∧ StopsAt w w5 ao m co2 L) := ⟨(S4.out.below (Below.refl _ _).drew).read hr hg, StopsAt.of_own (by rw [HM.out] at ho; exact ho) HM.out hL S4.out.size⟩
         have kS := SD.keep T5.out.1
         have k6 := SD.keep T5.out.1.setC
         have k7 := SD.keep (T5.out.1.setR veh (.slice ao m co2))
         have k8 := SD.keep (T5.out.1.setC.setR veh (.slice ao m co2))
         have k9 := SD.keep (T5.out.1.setR veh (.slice ao m co2)).setC
         obtain ⟨y0, y1, y2, y3, y4⟩ := cells5z T5.out.1.b0
         have yf := fun i => frozen_of_row _ _ i _ _ T5.out.1.b0
         obtain ⟨x0, x1⟩ := cells2 T5.out.1.b2
         have xf := fun i => frozen_of_row _ _ i _ _ T5.out.1.b2
         clear hL hg hr ho)
      | (go_at_call 57
         with_reducible refine (route_any q p4 c n fi g zl cg go ko co gv kv cv O V a bs (((((w4.setCell ⟨w.heap.size, 0, none⟩ (.int .i64 n)).setCell ⟨w.heap.size, 1, none⟩ (.slice (some ⟨g, 0, none⟩) zl cg)).setCell ⟨w.heap.size, 2, none⟩ (.slice (some ⟨go, 0, none⟩) ko co)).setCell ⟨w.heap.size, 3, none⟩ (.slice (some ⟨gv, 0, none⟩) kv cv)).setCell ⟨w.heap.size, 4, none⟩ (.int .i64 fi)).drew (R4c.out.below (Below.refl _ _).drew) (S4.out.setC.below (Below.refl _ _).drew).io (S4.out.setC.below (Below.refl _ _).drew).iv (S4.out.setC.below (Below.refl _ _).drew).h.2.2.2.1.1 (S4.out.setC.below (Below.refl _ _).drew).h.2.2.2.2.1 HLS.out.2.1 HLS.out.2.2.1 HLS.out.2.2.2.1 (by omega) HLS.out.2.2.2.2.2.1 (by omega)).mono ?_
         rintro e w5 ⟨veh, sl, L, rfl, hL, hg, ⟨p5, hr⟩, ho⟩
         obtain ⟨ao, co2, e⟩ := own_any ho
         subst e
         obtain ⟨m, HM⟩ : ∃ m, Hid (L.length = m) := ⟨_, rfl⟩
         rw [HM.out]
         have T6 : Hid (SD w w5 q k a bs c #[.int .i64 n, .slice (some ⟨g, 0, none⟩) zl cg, .slice (some ⟨go, 0, none⟩) ko co, .slice (some ⟨gv, 0, none⟩) kv cv, .int .i64 fi] g go gv zs O V #[.int .i64 n, .slice (some ⟨g, 0, none⟩) zl cg, .slice (some ⟨go, 0, none⟩) ko co, .slice (some ⟨gv, 0, none⟩) kv cv, .int .i64 fi] #[.int .i64 0, .slice none 0 0] ∧ StopsAt w w5 ao m co2 L) := ⟨(S4.out.setC.below (Below.refl _ _).drew).read hr hg, StopsAt.of_own (by rw [HM.out] at ho; exact ho) HM.out hL S4.out.setC.size⟩
         have kS := SD.keep T6.out.1
         have k7 := SD.keep (T6.out.1.setR veh (.slice ao m co2))
         obtain ⟨x0, x1⟩ := cells2 T6.out.1.b2
         have xf := fun i => frozen_of_row _ _ i _ _ T6.out.1.b2
         clear hL hg hr ho)))
    all_goals
      go_wp2
      first
        | exact SD.done (T5.out.1.setC.setR veh (.slice ao m co2)) HLS.out (T5.out.2.setC.setR) _ (by rfl) (by rfl) (by rfl)
        | exact SD.done (T5.out.1.setR veh (.slice ao m co2)).setC HLS.out (T5.out.2.setR.setC) _ (by rfl) (by rfl) (by rfl)
        | exact SD.done (T6.out.1.setR veh (.slice ao m co2)) HLS.out T6.out.2.setR _ (by rfl) (by rfl) (by rfl)
  · skip
    have kS := (SD.keep (S4.out.below (Below.refl _ _).drew))
    have k1 := (SD.keep (S4.out.setC.below (Below.refl _ _).drew))
    obtain ⟨z0, z1, z2, z3, z4⟩ := cells5z S4.out.b0
    have zf := fun i => frozen_of_row _ _ i _ _ S4.out.b0
    go_wp2_with fail
    go_region_held3 (fun W => W.cell? ⟨k, 0, none⟩ = some (.int .i64 n) ∧ W.cell? ⟨k, 1, none⟩ = some (.slice (some ⟨g, 0, none⟩) zl cg) ∧ W.cell? ⟨k, 2, none⟩ = some (.slice (some ⟨go, 0, none⟩) ko co) ∧ W.cell? ⟨k, 3, none⟩ = some (.slice (some ⟨gv, 0, none⟩) kv cv) ∧ W.cell? ⟨k, 4, none⟩ = some (.int .i64 fi)) (first | with_reducible exact kS | with_reducible exact k1 | with_reducible exact k6 | with_reducible exact k7 | with_reducible exact k8 | with_reducible exact k9 | go_keep) ((first
      | (go_at_call 28
         with_reducible refine (fine_at q p4 c 1 1 rfl n fi g zl cg go ko co gv kv cv zs O V a bs w4.drew (R4.out.below (Below.refl _ _).drew) (S4.out.below (Below.refl _ _).drew).iz (S4.out.below (Below.refl _ _).drew).io (S4.out.below (Below.refl _ _).drew).iv (S4.out.below (Below.refl _ _).drew).h.2.2.1.1 (S4.out.below (Below.refl _ _).drew).h.2.2.2.1.1 (S4.out.below (Below.refl _ _).drew).h.2.2.2.2.1 HLS.out.1 HLS.out.2.1 HLS.out.2.2.1 HLS.out.2.2.2.1 (by omega) HLS.out.2.2.2.2.2.1 (by omega)).mono ?_
         rintro e w5 ⟨veh, sl, L, rfl, hL, hg, ⟨p5, hr⟩, ho⟩
         obtain ⟨ao, co2, e⟩ := own_any ho
         subst e
         obtain ⟨m, HM⟩ : ∃ m, Hid (L.length = m) := ⟨_, rfl⟩
         rw [HM.out]
         have T5 : Hid (SD w w5 q k a bs c #[.int .i64 n, .slice (some ⟨g, 0, none⟩) zl cg, .slice (some ⟨go, 0, none⟩) ko co, .slice (some ⟨gv, 0, none⟩) kv cv, .int .i64 fi] g go gv zs O V #[.int .i64 0, .slice none 0 0, .slice none 0 0, .slice none 0 0, .int .i64 0] #[.int .i64 0, .slice none 0 0] ∧ StopsAt w w5 ao m co2 L) := ⟨(S4.out.below (Below.refl _ _).drew).read hr hg, StopsAt.of_own (by rw [HM.out] at ho; exact ho) HM.out hL S4.out.size⟩
         have kS := SD.keep T5.out.1
         have k6 := SD.keep T5.out.1.setC
         have k7 := SD.keep (T5.out.1.setR veh (.slice ao m co2))
         have k8 := SD.keep (T5.out.1.setC.setR veh (.slice ao m co2))
         have k9 := SD.keep (T5.out.1.setR veh (.slice ao m co2)).setC
         obtain ⟨y0, y1, y2, y3, y4⟩ := cells5z T5.out.1.b0
         have yf := fun i => frozen_of_row _ _ i _ _ T5.out.1.b0
         obtain ⟨x0, x1⟩ := cells2 T5.out.1.b2
         have xf := fun i => frozen_of_row _ _ i _ _ T5.out.1.b2
         clear hL hg hr ho)
      | (go_at_call 28
         with_reducible refine (fine_at q p4 c 1 1 rfl n fi g zl cg go ko co gv kv cv zs O V a bs (((((w4.setCell ⟨w.heap.size, 0, none⟩ (.int .i64 n)).setCell ⟨w.heap.size, 1, none⟩ (.slice (some ⟨g, 0, none⟩) zl cg)).setCell ⟨w.heap.size, 2, none⟩ (.slice (some ⟨go, 0, none⟩) ko co)).setCell ⟨w.heap.size, 3, none⟩ (.slice (some ⟨gv, 0, none⟩) kv cv)).setCell ⟨w.heap.size, 4, none⟩ (.int .i64 fi)).drew (R4c.out.below (Below.refl _ _).drew) (S4.out.setC.below (Below.refl _ _).drew).iz (S4.out.setC.below (Below.refl _ _).drew).io (S4.out.setC.below (Below.refl _ _).drew).iv (S4.out.setC.below (Below.refl _ _).drew).h.2.2.1.1 (S4.out.setC.below (Below.refl _ _).drew).h.2.2.2.1.1 (S4.out.setC.below (Below.refl _ _).drew).h.2.2.2.2.1 HLS.out.1 HLS.out.2.1 HLS.out.2.2.1 HLS.out.2.2.2.1 (by omega) HLS.out.2.2.2.2.2.1 (by omega)).mono ?_
         rintro e w5 ⟨veh, sl, L, rfl, hL, hg, ⟨p5, hr⟩, ho⟩
         obtain ⟨ao, co2, e⟩ := own_any ho
         subst e
         obtain ⟨m, HM⟩ : ∃ m, Hid (L.length = m) := ⟨_, rfl⟩
         rw [HM.out]
         have T6 : Hid (SD w w5 q k a bs c #[.int .i64 n, .slice (some ⟨g, 0, none⟩) zl cg, .slice (some ⟨go, 0, none⟩) ko co, .slice (some ⟨gv, 0, none⟩) kv cv, .int .i64 fi] g go gv zs O V #[.int .i64 n, .slice (some ⟨g, 0, none⟩) zl cg, .slice (some ⟨go, 0, none⟩) ko co, .slice (some ⟨gv, 0, none⟩) kv cv, .int .i64 fi] #[.int .i64 0, .slice none 0 0] ∧ StopsAt w w5 ao m co2 L) := ⟨(S4.out.setC.below (Below.refl _ _).drew).read hr hg, StopsAt.of_own (by rw [HM.out] at ho; exact ho) HM.out hL S4.out.setC.size⟩
         have kS := SD.keep T6.out.1
         have k7 := SD.keep (T6.out.1.setR veh (.slice ao m co2))
         obtain ⟨x0, x1⟩ := cells2 T6.out.1.b2
         have xf := fun i => frozen_of_row _ _ i _ _ T6.out.1.b2
         clear hL hg hr ho)))
    all_goals
      go_wp2
      first
        | exact SD.done (T5.out.1.setC.setR veh (.slice ao m co2)) HLS.out (T5.out.2.setC.setR) _ (by rfl) (by rfl) (by rfl)
        | exact SD.done (T5.out.1.setR veh (.slice ao m co2)).setC HLS.out (T5.out.2.setR.setC) _ (by rfl) (by rfl) (by rfl)
        | exact SD.done (T6.out.1.setR veh (.slice ao m co2)) HLS.out T6.out.2.setR _ (by rfl) (by rfl) (by rfl)

end Go.Proofs.Ytplefpmchhcfcaa

namespace Go.Proofs.Ytplefpmchhcfcaa
open Go.RowKit

/-- The stops of the drawn route: nil, or at the start of a block. -/
def AdrOk (ao : Option Addr) (m co2 : Nat) : Prop := (ao = none ∧ m = 0 ∧ co2 = 0) ∨ ∃ g, ao = some ⟨g, 0, none⟩
def StopsAtA (w W : World) (ao : Option Addr) (m co2 : Nat) (L : List Int) : Prop := StopsAt w W ao m co2 L ∧ AdrOk ao m co2
theorem StopsAtA.of_own {w W : World} {B : Nat} {ao : Option Addr} {m co2 : Nat} {L : List Int} (h : W.ownsRow B 2 1 (.slice ao m co2) m (L.map (Value.int .i64))) (hL : L.length = m) (h4 : L.length ≤ 4) (hB : w.heap.size + 2 ≤ B) : StopsAtA w W ao m co2 L := by
  refine ⟨StopsAt.of_own h hL h4 hB, ?_⟩
  rcases own_shape h with e | ⟨g, c, e⟩
  · simp only [Value.slice.injEq] at e
    exact .inl e
  · simp only [Value.slice.injEq] at e
    exact .inr ⟨g, e.1⟩
theorem StopsAtA.setC {w W : World} {ao : Option Addr} {m co2 : Nat} {L : List Int} {v0 v1 v2 v3 v4 : Value} (h : StopsAtA w W ao m co2 L) : StopsAtA w (((((W.setCell ⟨w.heap.size, 0, none⟩ v0).setCell ⟨w.heap.size, 1, none⟩ v1).setCell ⟨w.heap.size, 2, none⟩ v2).setCell ⟨w.heap.size, 3, none⟩ v3).setCell ⟨w.heap.size, 4, none⟩ v4) ao m co2 L := ⟨h.1.setC, h.2⟩
theorem StopsAtA.setR {w W : World} {ao : Option Addr} {m co2 : Nat} {L : List Int} {v0 v1 : Value} (h : StopsAtA w W ao m co2 L) : StopsAtA w ((W.setCell ⟨w.heap.size + 1, 0, none⟩ v0).setCell ⟨w.heap.size + 1, 1, none⟩ v1) ao m co2 L := ⟨h.1.setR, h.2⟩

end Go.Proofs.Ytplefpmchhcfcaa

namespace Go.Proofs.Ytplefpmchhcfcaa
open Go.RowKit

/-- A drawn case and a route, told to their caller. -/
def SchedToldA (w : World) (e : Ending) (w' : World) : Prop := ∃ (n : Int) (g zl cg go ko co gv kv cv : Nat) (zs O V L : List Int) (fi veh : Int) (ao : Option Addr) (m co2 : Nat),
  e = .returned (.tuple #[.agg #[.int .i64 n, .slice (some ⟨g, 0, none⟩) zl cg, .slice (some ⟨go, 0, none⟩) ko co, .slice (some ⟨gv, 0, none⟩) kv cv, .int .i64 fi], .agg #[.int .i64 veh, .slice ao m co2]]) ∧ (zs.length = zl ∧ O.length = ko * 6 ∧ V.length = kv * 5 ∧ 1 ≤ ko ∧ ko ≤ 5 ∧ 1 ≤ kv ∧ kv ≤ 3) ∧ (L.length = m ∧ m ≤ 4 ∧ m ≤ co2 ∧ AdrOk ao m co2) ∧
  Below w.heap.size w w' ∧ IntsAt w' (some ⟨g, 0, none⟩) zs ∧ IntsAt w' (some ⟨go, 0, none⟩) O ∧ IntsAt w' (some ⟨gv, 0, none⟩) V ∧ IntsAt w' ao L ∧ (w.heap.size ≤ g ∧ w.heap.size ≤ go ∧ w.heap.size ≤ gv ∧ ∀ b, (Value.slice ao 0 0).ownBlock = some b → w.heap.size ≤ b)
theorem SD.doneA {w W : World} {q k : Nat} {a : Option Addr} {bs : List Int} {c : Nat} {n fi : Int} {g zl cg go ko co gv kv cv : Nat} {zs O V L : List Int} {veh : Int} {ao : Option Addr} {m co2 : Nat} (h : SD w W q k a bs c #[.int .i64 n, .slice (some ⟨g, 0, none⟩) zl cg, .slice (some ⟨go, 0, none⟩) ko co, .slice (some ⟨gv, 0, none⟩) kv cv, .int .i64 fi] g go gv zs O V #[.int .i64 n, .slice (some ⟨g, 0, none⟩) zl cg, .slice (some ⟨go, 0, none⟩) ko co, .slice (some ⟨gv, 0, none⟩) kv cv, .int .i64 fi] #[.int .i64 veh, .slice ao m co2])
    (hls : zs.length = zl ∧ O.length = ko * 6 ∧ V.length = kv * 5 ∧ 1 ≤ ko ∧ ko ≤ 5 ∧ 1 ≤ kv ∧ kv ≤ 3) (hst : StopsAtA w W ao m co2 L) (A : Act) (h2 : A.tmps.getD 2 undef = .pointer (some ⟨w.heap.size, 0, none⟩)) (h3 : A.tmps.getD 3 undef = .pointer (some ⟨w.heap.size + 1, 0, none⟩)) (hds : A.defers = []) :
    bodyPost Try.prog Try.f45 (SchedToldA w) Exit.ret A W := by
  obtain ⟨⟨l1, l2, l3, l4, l5⟩, l6⟩ := hst
  refine bodyPost_ret (v := .tuple #[.agg #[.int .i64 n, .slice (some ⟨g, 0, none⟩) zl cg, .slice (some ⟨go, 0, none⟩) ko co, .slice (some ⟨gv, 0, none⟩) kv cv, .int .i64 fi], .agg #[.int .i64 veh, .slice ao m co2]]) ?_ hds ⟨n, g, zl, cg, go, ko, co, gv, kv, cv, zs, O, V, L, fi, veh, ao, m, co2, rfl, hls, ⟨l1, l2, l3, l6⟩, h.b, h.iz, h.io, h.iv, l4, ⟨by have := h.h.2.2.1.2; omega, by have := h.h.2.2.2.1.2; omega, by have := h.h.2.2.2.2.2; omega, fun b e => by have := l5 b e; omega⟩⟩
  have r1 := run_loadVar_row (P := Try.prog) W w.heap.size 30 30 #[.int .i64 n, .slice (some ⟨g, 0, none⟩) zl cg, .slice (some ⟨go, 0, none⟩) ko co, .slice (some ⟨gv, 0, none⟩) kv cv, .int .i64 fi] (0, 0) _ h.b0 Try.underlying30 rfl sizeCase5
  have r2 := run_loadVar_row (P := Try.prog) W (w.heap.size + 1) 32 32 #[.int .i64 veh, .slice ao m co2] (0, 0) _ h.b2 Try.underlying32 rfl sizeRoute2
  have h2' : A.tmps[2]?.getD undef = .pointer (some ⟨w.heap.size, 0, none⟩) := by simpa using h2
  have h3' : A.tmps[3]?.getD undef = .pointer (some ⟨w.heap.size + 1, 0, none⟩) := by simpa using h3
  simp [results, Try.results45, h2', h3', asAddr, r1, r2]

set_option maxRecDepth 10000 in
set_option maxHeartbeats 4000000 in
theorem drawSchedA_any (a : Option Addr) (c : Nat) (bs : List Int) (w : World) (h : CodeAt w a bs) (hl : bs.length ≤ 1048576) :
    Calls Try.prog 45 #[.slice a bs.length c] w (SchedToldA w) := by
  have H : Hid (CodeAt w a bs) := h
  clear h
  have BA : Hid (Below w.heap.size w ((w.alloc (.cells #[.int .i64 0, .slice none 0 0, .slice none 0 0, .slice none 0 0, .int .i64 0] 30)).alloc (.cells #[.int .i64 0, .slice none 0 0] 32))) := ((Below.refl _ _).alloc (Nat.le_refl _) _).alloc (by simp) _
  have GA : Hid (((w.alloc (.cells #[.int .i64 0, .slice none 0 0, .slice none 0 0, .slice none 0 0, .int .i64 0] 30)).alloc (.cells #[.int .i64 0, .slice none 0 0] 32)).heap[w.heap.size]? = some (.cells #[.int .i64 0, .slice none 0 0, .slice none 0 0, .slice none 0 0, .int .i64 0] 30 (0, 0))) := heap_alloc2_old _ _ _
  have GB : Hid (((w.alloc (.cells #[.int .i64 0, .slice none 0 0, .slice none 0 0, .slice none 0 0, .int .i64 0] 30)).alloc (.cells #[.int .i64 0, .slice none 0 0] 32)).heap[w.heap.size + 1]? = some (.cells #[.int .i64 0, .slice none 0 0] 32 (0, 0))) := heap_alloc2_new _ _ _
  have CA : Hid (CodeAt ((w.alloc (.cells #[.int .i64 0, .slice none 0 0, .slice none 0 0, .slice none 0 0, .int .i64 0] 30)).alloc (.cells #[.int .i64 0, .slice none 0 0] 32)) a bs) := by
    intro j hj
    obtain ⟨b, off, e, hc, hv⟩ := H.out j hj
    exact ⟨b, off, e, (BA.out.cell (p := ⟨b, off + j, none⟩) (block_lt_of_cell hc)).trans hc, hv⟩
  go_enter Try.func45, Try.ntmps45
  go_wp2_with fail
  generalize (w.alloc (.cells #[.int .i64 0, .slice none 0 0, .slice none 0 0, .slice none 0 0, .int .i64 0] 30)).alloc (.cells #[.int .i64 0, .slice none 0 0] 32) = W0 at *
  refine (l1Open_any a c bs W0 CA.out hl).mono ?_
  rintro e w1 ⟨rfl, hb, hr⟩
  obtain ⟨q, HQ⟩ : ∃ q, Hid (W0.heap.size = q) := ⟨_, rfl⟩
  have hw0 : w.heap.size + 1 < W0.heap.size := row_lt GB.out
  have HQL : Hid (w.heap.size + 1 < q) := by show _ < _; rw [← HQ.out]; exact hw0
  have B1 : Hid (Below w.heap.size w w1) := BA.out.trans (hb.mono BA.out.size)
  have G1 : Hid (w1.heap[w.heap.size]? = some (.cells #[.int .i64 0, .slice none 0 0, .slice none 0 0, .slice none 0 0, .int .i64 0] 30 (0, 0))) := below_row hb (row_lt GA.out) GA.out
  have G2 : Hid (w1.heap[w.heap.size + 1]? = some (.cells #[.int .i64 0, .slice none 0 0] 32 (0, 0))) := below_row hb (row_lt GB.out) GB.out
  have R1 : Hid (RD w1 q a bs c 0) := by have := hr; rw [HQ.out] at this; exact this
  clear hb hr hw0
  rw [HQ.out]
  go_wp2_with fail
  refine (case1_any q 0 c 5 a bs w1 R1.out (by omega) (by omega)).mono ?_
  rintro e w3 ⟨n, g, zl, cg, go, ko, co, gv, kv, cv, zs, O, V, fi, rfl, hls, hg, ⟨p3, hr⟩, iz, io, iv, hgs⟩
  have HLS : Hid (zs.length = zl ∧ O.length = ko * 6 ∧ V.length = kv * 5 ∧ 1 ≤ ko ∧ ko ≤ 5 ∧ 1 ≤ kv ∧ kv ≤ 3) := hls
  have hko : ko ≤ 5 := hls.2.2.2.2.1
  have hkv : kv ≤ 3 := hls.2.2.2.2.2.2
  have S3 : Hid (SD w (w3.alloc (.cells #[.int .i64 n, .slice (some ⟨g, 0, none⟩) zl cg, .slice (some ⟨go, 0, none⟩) ko co, .slice (some ⟨gv, 0, none⟩) kv cv, .int .i64 fi] 30)) q w3.heap.size a bs c #[.int .i64 n, .slice (some ⟨g, 0, none⟩) zl cg, .slice (some ⟨go, 0, none⟩) ko co, .slice (some ⟨gv, 0, none⟩) kv cv, .int .i64 fi] g go gv zs O V #[.int .i64 0, .slice none 0 0, .slice none 0 0, .slice none 0 0, .int .i64 0] #[.int .i64 0, .slice none 0 0]) := by
    have hA : Below w3.heap.size w3 (w3.alloc (.cells #[.int .i64 n, .slice (some ⟨g, 0, none⟩) zl cg, .slice (some ⟨go, 0, none⟩) ko co, .slice (some ⟨gv, 0, none⟩) kv cv, .int .i64 fi] 30)) := (Below.refl _ _).alloc (Nat.le_refl _) _
    have hwq := HQL.out
    have hq1 : q < w1.heap.size := row_lt R1.out.1
    have b3 : Below w.heap.size w w3 := grown_below B1.out (by omega) hg
    have g3 := grown_row hg G1.out (fun e => by injection e with e; omega)
    have g4 := grown_row hg G2.out (fun e => by injection e with e; omega)
    have hq3 : q < w3.heap.size := row_lt hr.1
    obtain ⟨hs1, hs2, hs3, -⟩ := hgs
    refine ⟨b3.alloc b3.size _, ⟨p3, hr.below hA⟩, ⟨hwq, ⟨by omega, by have := row_lt g4; omega⟩, ⟨by omega, by omega⟩, ⟨by omega, by omega⟩, ⟨by omega, by omega⟩⟩, fun j hj => ?_, below_row hA (row_lt g3) g3, below_row hA (row_lt g4) g4, heap_alloc_new _ _, iz.below hA, io.below hA, iv.below hA⟩
    obtain ⟨b, off, e, hc, _⟩ := H.out j hj
    exact ⟨b, off, e, block_lt_of_cell hc⟩
  have R3 : Hid (RD (w3.alloc (.cells #[.int .i64 n, .slice (some ⟨g, 0, none⟩) zl cg, .slice (some ⟨go, 0, none⟩) ko co, .slice (some ⟨gv, 0, none⟩) kv cv, .int .i64 fi] 30)) q a bs c p3) := hr.below ((Below.refl _ _).alloc (Nat.le_refl _) _)
  clear hr hg iz io iv hgs hls B1 G1 G2 R1 BA GA GB CA
  go_wp2_with fail
  obtain ⟨k, HKk⟩ : ∃ v, Hid (w3.heap.size = v) := ⟨_, rfl⟩
  rw [HKk.out] at S3 ⊢
  generalize w3.alloc (.cells #[.int .i64 n, .slice (some ⟨g, 0, none⟩) zl cg, .slice (some ⟨go, 0, none⟩) ko co, .slice (some ⟨gv, 0, none⟩) kv cv, .int .i64 fi] 30) = W3 at *
  refine (once_any q p3 c 2 a bs W3 R3.out (by omega) (by omega)).mono ?_
  rintro e w4 ⟨b, p4, rfl, hr, hg⟩
  have S4 : Hid (SD w w4 q k a bs c #[.int .i64 n, .slice (some ⟨g, 0, none⟩) zl cg, .slice (some ⟨go, 0, none⟩) ko co, .slice (some ⟨gv, 0, none⟩) kv cv, .int .i64 fi] g go gv zs O V #[.int .i64 0, .slice none 0 0, .slice none 0 0, .slice none 0 0, .int .i64 0] #[.int .i64 0, .slice none 0 0]) := S3.out.read hr hg
  have R4 : Hid (RD w4 q a bs c p4) := hr
  have R4c : Hid (RD (((((w4.setCell ⟨w.heap.size, 0, none⟩ (.int .i64 n)).setCell ⟨w.heap.size, 1, none⟩ (.slice (some ⟨g, 0, none⟩) zl cg)).setCell ⟨w.heap.size, 2, none⟩ (.slice (some ⟨go, 0, none⟩) ko co)).setCell ⟨w.heap.size, 3, none⟩ (.slice (some ⟨gv, 0, none⟩) kv cv)).setCell ⟨w.heap.size, 4, none⟩ (.int .i64 fi)) q a bs c p4) := by
    have h4 := S4.out.h.1
    exact RD.aside hr S4.out.cd (grown_trans (grown_trans (grown_trans (grown_trans (grown_set _ _ _ _) (grown_set _ _ _ _)) (grown_set _ _ _ _)) (grown_set _ _ _ _)) (grown_set _ _ _ _)) (Nat.le_refl _) (by omega)
  clear hr hg S3 R3
  cases b
  · skip
    have kS := (SD.keep (S4.out.below (Below.refl _ _).drew))
    have k1 := (SD.keep (S4.out.setC.below (Below.refl _ _).drew))
    obtain ⟨z0, z1, z2, z3, z4⟩ := cells5z S4.out.b0
    have zf := fun i => frozen_of_row _ _ i _ _ S4.out.b0
    go_wp2_with fail
    go_region_held3 (fun W => W.cell? ⟨k, 0, none⟩ = some (.int .i64 n) ∧ W.cell? ⟨k, 1, none⟩ = some (.slice (some ⟨g, 0, none⟩) zl cg) ∧ W.cell? ⟨k, 2, none⟩ = some (.slice (some ⟨go, 0, none⟩) ko co) ∧ W.cell? ⟨k, 3, none⟩ = some (.slice (some ⟨gv, 0, none⟩) kv cv) ∧ W.cell? ⟨k, 4, none⟩ = some (.int .i64 fi)) (first | with_reducible exact kS | with_reducible exact k1 | with_reducible exact k6 | with_reducible exact k7 | with_reducible exact k8 | with_reducible exact k9 | go_keep) ((first
      | (go_at_call 57
         with_reducible refine (route_any q p4 c n fi g zl cg go ko co gv kv cv O V a bs w4.drew (R4.out.below (Below.refl _ _).drew) (S4.out.below (Below.refl _ _).drew).io (S4.out.below (Below.refl _ _).drew).iv (S4.out.below (Below.refl _ _).drew).h.2.2.2.1.1 (S4.out.below (Below.refl _ _).drew).h.2.2.2.2.1 HLS.out.2.1 HLS.out.2.2.1 HLS.out.2.2.2.1 (by omega) HLS.out.2.2.2.2.2.1 (by omega)).mono ?_
         rintro e w5 ⟨veh, sl, L, rfl, hL, hg, ⟨p5, hr⟩, ho⟩
         obtain ⟨ao, co2, e⟩ := own_any ho
         subst e
         obtain ⟨m, HM⟩ : ∃ m, Hid (L.length = m) := ⟨_, rfl⟩
         rw [HM.out]
         have T5 : Hid (SD w w5 q k a bs c #[.int .i64 n, .slice (some ⟨g, 0, none⟩) zl cg, .slice (some ⟨go, 0, none⟩) ko co, .slice (some ⟨gv, 0, none⟩) kv cv, .int .i64 fi] g go gv zs O V #[.int .i64 0, .slice none 0 0, .slice none 0 0, .slice none 0 0, .int .i64 0] #[.int .i64 0, .slice none 0 0] ∧ StopsAtA w w5 ao m co2 L) := ⟨(S4.out.below (Below.refl _ _).drew).read hr hg, StopsAtA.of_own (by rw [HM.out] at ho; exact ho) HM.out hL S4.out.size⟩
         have kS := SD.keep T5.out.1
         have k6 := SD.keep T5.out.1.setC
         have k7 := SD.keep (T5.out.1.setR veh (.slice ao m co2))
         have k8 := SD.keep (T5.out.1.setC.setR veh (.slice ao m co2))
         have k9 := SD.keep (T5.out.1.setR veh (.slice ao m co2)).setC
         obtain ⟨y0, y1, y2, y3, y4⟩ := cells5z T5.out.1.b0
         have yf := fun i => frozen_of_row _ _ i _ _ T5.out.1.b0
         obtain ⟨x0, x1⟩ := cells2 T5.out.1.b2
         have xf := fun i => frozen_of_row _ _ i _ _ T5.out.1.b2
         clear hL hg hr ho)
      | (go_at_call 57
         with_reducible refine (route_any q p4 c n fi g zl cg go ko co gv kv cv O V a bs (((((w4.setCell ⟨w.heap.size, 0, none⟩ (.int .i64 n)).setCell ⟨w.heap.size, 1, none⟩ (.slice (some ⟨g, 0, none⟩) zl cg)).setCell ⟨w.heap.size, 2, none⟩ (.slice (some ⟨go, 0, none⟩) ko co)).setCell ⟨w.heap.size, 3, none⟩ (.slice (some ⟨gv, 0, none⟩) kv cv)).setCell ⟨w.heap.size, 4, none⟩ (.int .i64 fi)).drew (R4c.out.below (Below.refl _ _).drew) (S4.out.setC.below (Below.refl _ _).drew).io (S4.out.setC.below (Below.refl _ _).drew).iv (S4.out.setC.below (Below.refl _ _).drew).h.2.2.2.1.1 (S4.out.setC.below (Below.refl _ _).drew).h.2.2.2.2.1 HLS.out.2.1 HLS.out.2.2.1 HLS.out.2.2.2.1 (by omega) HLS.out.2.2.2.2.2.1 (by omega)).mono ?_
         rintro e w5 ⟨veh, sl, L, rfl, hL, hg, ⟨p5, hr⟩, ho⟩
         obtain ⟨ao, co2, e⟩ := own_any ho
         subst e
         obtain ⟨m, HM⟩ : ∃ m, Hid (L.length = m) := ⟨_, rfl⟩
         rw [HM.out]
         have T6 : Hid (SD w w5 q k a bs c #[.int .i64 n, .slice (some ⟨g, 0, none⟩) zl cg, .slice (some ⟨go, 0, none⟩) ko co, .slice (some ⟨gv, 0, none⟩) kv cv, .int .i64 fi] g go gv zs O V #[.int .i64 n, .slice (some ⟨g, 0, none⟩) zl cg, .slice (some ⟨go, 0, none⟩) ko co, .slice (some ⟨gv, 0, none⟩) kv cv, .int .i64 fi] #[.int .i64 0, .slice none 0 0] ∧ StopsAtA w w5 ao m co2 L) := ⟨(S4.out.setC.below (Below.refl _ _).drew).read hr hg, StopsAtA.of_own (by rw [HM.out] at ho; exact ho) HM.out hL S4.out.setC.size⟩
         have kS := SD.keep T6.out.1
         have k7 := SD.keep (T6.out.1.setR veh (.slice ao m co2))
         obtain ⟨x0, x1⟩ := cells2 T6.out.1.b2
         have xf := fun i => frozen_of_row _ _ i _ _ T6.out.1.b2
         clear hL hg hr ho)))
    all_goals
      go_wp2
      first
        | exact SD.doneA (T5.out.1.setC.setR veh (.slice ao m co2)) HLS.out (T5.out.2.setC.setR) _ (by rfl) (by rfl) (by rfl)
        | exact SD.doneA (T5.out.1.setR veh (.slice ao m co2)).setC HLS.out (T5.out.2.setR.setC) _ (by rfl) (by rfl) (by rfl)
        | exact SD.doneA (T6.out.1.setR veh (.slice ao m co2)) HLS.out T6.out.2.setR _ (by rfl) (by rfl) (by rfl)
  · skip
    have kS := (SD.keep (S4.out.below (Below.refl _ _).drew))
    have k1 := (SD.keep (S4.out.setC.below (Below.refl _ _).drew))
    obtain ⟨z0, z1, z2, z3, z4⟩ := cells5z S4.out.b0
    have zf := fun i => frozen_of_row _ _ i _ _ S4.out.b0
    go_wp2_with fail
    go_region_held3 (fun W => W.cell? ⟨k, 0, none⟩ = some (.int .i64 n) ∧ W.cell? ⟨k, 1, none⟩ = some (.slice (some ⟨g, 0, none⟩) zl cg) ∧ W.cell? ⟨k, 2, none⟩ = some (.slice (some ⟨go, 0, none⟩) ko co) ∧ W.cell? ⟨k, 3, none⟩ = some (.slice (some ⟨gv, 0, none⟩) kv cv) ∧ W.cell? ⟨k, 4, none⟩ = some (.int .i64 fi)) (first | with_reducible exact kS | with_reducible exact k1 | with_reducible exact k6 | with_reducible exact k7 | with_reducible exact k8 | with_reducible exact k9 | go_keep) ((first
      | (go_at_call 28
         with_reducible refine (fine_at q p4 c 1 1 rfl n fi g zl cg go ko co gv kv cv zs O V a bs w4.drew (R4.out.below (Below.refl _ _).drew) (S4.out.below (Below.refl _ _).drew).iz (S4.out.below (Below.refl _ _).drew).io (S4.out.below (Below.refl _ _).drew).iv (S4.out.below (Below.refl _ _).drew).h.2.2.1.1 (S4.out.below (Below.refl _ _).drew).h.2.2.2.1.1 (S4.out.below (Below.refl _ _).drew).h.2.2.2.2.1 HLS.out.1 HLS.out.2.1 HLS.out.2.2.1 HLS.out.2.2.2.1 (by omega) HLS.out.2.2.2.2.2.1 (by omega)).mono ?_
         rintro e w5 ⟨veh, sl, L, rfl, hL, hg, ⟨p5, hr⟩, ho⟩
         obtain ⟨ao, co2, e⟩ := own_any ho
         subst e
         obtain ⟨m, HM⟩ : ∃ m, Hid (L.length = m) := ⟨_, rfl⟩
         rw [HM.out]
         have T5 : Hid (SD w w5 q k a bs c #[.int .i64 n, .slice (some ⟨g, 0, none⟩) zl cg, .slice (some ⟨go, 0, none⟩) ko co, .slice (some ⟨gv, 0, none⟩) kv cv, .int .i64 fi] g go gv zs O V #[.int .i64 0, .slice none 0 0, .slice none 0 0, .slice none 0 0, .int .i64 0] #[.int .i64 0, .slice none 0 0] ∧ StopsAtA w w5 ao m co2 L) := ⟨(S4.out.below (Below.refl _ _).drew).read hr hg, StopsAtA.of_own (by rw [HM.out] at ho; exact ho) HM.out hL S4.out.size⟩
         have kS := SD.keep T5.out.1
         have k6 := SD.keep T5.out.1.setC
         have k7 := SD.keep (T5.out.1.setR veh (.slice ao m co2))
         have k8 := SD.keep (T5.out.1.setC.setR veh (.slice ao m co2))
         have k9 := SD.keep (T5.out.1.setR veh (.slice ao m co2)).setC
         obtain ⟨y0, y1, y2, y3, y4⟩ := cells5z T5.out.1.b0
         have yf := fun i => frozen_of_row _ _ i _ _ T5.out.1.b0
         obtain ⟨x0, x1⟩ := cells2 T5.out.1.b2
         have xf := fun i => frozen_of_row _ _ i _ _ T5.out.1.b2
         clear hL hg hr ho)
      | (go_at_call 28
         with_reducible refine (fine_at q p4 c 1 1 rfl n fi g zl cg go ko co gv kv cv zs O V a bs (((((w4.setCell ⟨w.heap.size, 0, none⟩ (.int .i64 n)).setCell ⟨w.heap.size, 1, none⟩ (.slice (some ⟨g, 0, none⟩) zl cg)).setCell ⟨w.heap.size, 2, none⟩ (.slice (some ⟨go, 0, none⟩) ko co)).setCell ⟨w.heap.size, 3, none⟩ (.slice (some ⟨gv, 0, none⟩) kv cv)).setCell ⟨w.heap.size, 4, none⟩ (.int .i64 fi)).drew (R4c.out.below (Below.refl _ _).drew) (S4.out.setC.below (Below.refl _ _).drew).iz (S4.out.setC.below (Below.refl _ _).drew).io (S4.out.setC.below (Below.refl _ _).drew).iv (S4.out.setC.below (Below.refl _ _).drew).h.2.2.1.1 (S4.out.setC.below (Below.refl _ _).drew).h.2.2.2.1.1 (S4.out.setC.below (Below.refl _ _).drew).h.2.2.2.2.1 HLS.out.1 HLS.out.2.1 HLS.out.2.2.1 HLS.out.2.2.2.1 (by omega) HLS.out.2.2.2.2.2.1 (by omega)).mono ?_
         rintro e w5 ⟨veh, sl, L, rfl, hL, hg, ⟨p5, hr⟩, ho⟩
         obtain ⟨ao, co2, e⟩ := own_any ho
         subst e
         obtain ⟨m, HM⟩ : ∃ m, Hid (L.length = m) := ⟨_, rfl⟩
         rw [HM.out]
         have T6 : Hid (SD w w5 q k a bs c #[.int .i64 n, .slice (some ⟨g, 0, none⟩) zl cg, .slice (some ⟨go, 0, none⟩) ko co, .slice (some ⟨gv, 0, none⟩) kv cv, .int .i64 fi] g go gv zs O V #[.int .i64 n, .slice (some ⟨g, 0, none⟩) zl cg, .slice (some ⟨go, 0, none⟩) ko co, .slice (some ⟨gv, 0, none⟩) kv cv, .int .i64 fi] #[.int .i64 0, .slice none 0 0] ∧ StopsAtA w w5 ao m co2 L) := ⟨(S4.out.setC.below (Below.refl _ _).drew).read hr hg, StopsAtA.of_own (by rw [HM.out] at ho; exact ho) HM.out hL S4.out.setC.size⟩
         have kS := SD.keep T6.out.1
         have k7 := SD.keep (T6.out.1.setR veh (.slice ao m co2))
         obtain ⟨x0, x1⟩ := cells2 T6.out.1.b2
         have xf := fun i => frozen_of_row _ _ i _ _ T6.out.1.b2
         clear hL hg hr ho)))
    all_goals
      go_wp2
      first
        | exact SD.doneA (T5.out.1.setC.setR veh (.slice ao m co2)) HLS.out (T5.out.2.setC.setR) _ (by rfl) (by rfl) (by rfl)
        | exact SD.doneA (T5.out.1.setR veh (.slice ao m co2)).setC HLS.out (T5.out.2.setR.setC) _ (by rfl) (by rfl) (by rfl)
        | exact SD.doneA (T6.out.1.setR veh (.slice ao m co2)) HLS.out T6.out.2.setR _ (by rfl) (by rfl) (by rfl)

end Go.Proofs.Ytplefpmchhcfcaa

namespace Go.Proofs.Ytplefpmchhcfcaa
open Go.RowKit

set_option maxRecDepth 10000 in
set_option maxHeartbeats 1000000 in
theorem drawPolished_any (a : Option Addr) (c : Nat) (bs : List Int) (w : World) (h : CodeAt w a bs) (hl : bs.length ≤ 1048576) :
    Calls Try.prog 20 #[.slice a bs.length c] w (SchedToldA w) := by
  have H : Hid (CodeAt w a bs) := h
  clear h
  have BA : Hid (Below w.heap.size w ((w.alloc (.cells #[.int .i64 0, .slice none 0 0, .slice none 0 0, .slice none 0 0, .int .i64 0] 30)).alloc (.cells #[.int .i64 0, .slice none 0 0] 32))) := ((Below.refl _ _).alloc (Nat.le_refl _) _).alloc (by simp) _
  have GA : Hid (((w.alloc (.cells #[.int .i64 0, .slice none 0 0, .slice none 0 0, .slice none 0 0, .int .i64 0] 30)).alloc (.cells #[.int .i64 0, .slice none 0 0] 32)).heap[w.heap.size]? = some (.cells #[.int .i64 0, .slice none 0 0, .slice none 0 0, .slice none 0 0, .int .i64 0] 30 (0, 0))) := heap_alloc2_old _ _ _
  have GB : Hid (((w.alloc (.cells #[.int .i64 0, .slice none 0 0, .slice none 0 0, .slice none 0 0, .int .i64 0] 30)).alloc (.cells #[.int .i64 0, .slice none 0 0] 32)).heap[w.heap.size + 1]? = some (.cells #[.int .i64 0, .slice none 0 0] 32 (0, 0))) := heap_alloc2_new _ _ _
  have CA : Hid (CodeAt ((w.alloc (.cells #[.int .i64 0, .slice none 0 0, .slice none 0 0, .slice none 0 0, .int .i64 0] 30)).alloc (.cells #[.int .i64 0, .slice none 0 0] 32)) a bs) := by
    intro j hj
    obtain ⟨b, off, e, hc, hv⟩ := H.out j hj
    exact ⟨b, off, e, (BA.out.cell (p := ⟨b, off + j, none⟩) (block_lt_of_cell hc)).trans hc, hv⟩
  go_enter Try.func20, Try.ntmps20
  go_wp2_with fail
  generalize (w.alloc (.cells #[.int .i64 0, .slice none 0 0, .slice none 0 0, .slice none 0 0, .int .i64 0] 30)).alloc (.cells #[.int .i64 0, .slice none 0 0] 32) = W0 at *
  refine (drawSchedA_any a c bs W0 CA.out hl).mono ?_
  rintro e w1 ⟨n, g, zl, cg, go, ko, co, gv, kv, cv, zs, O, V, L, fi, veh, ao, m, co2, rfl, hls, hms, hb, iz, io, iv, il, ⟨h1, h2, h3, h4⟩⟩
  have g0 := below_row hb (row_lt GA.out) GA.out
  have g1 := below_row hb (row_lt GB.out) GB.out
  have hW0 : w.heap.size + 1 < W0.heap.size := row_lt GB.out
  have s5 : w1.grownBy (((((w1.setCell ⟨w.heap.size, 0, none⟩ (.int .i64 n)).setCell ⟨w.heap.size, 1, none⟩ (.slice (some ⟨g, 0, none⟩) zl cg)).setCell ⟨w.heap.size, 2, none⟩ (.slice (some ⟨go, 0, none⟩) ko co)).setCell ⟨w.heap.size, 3, none⟩ (.slice (some ⟨gv, 0, none⟩) kv cv)).setCell ⟨w.heap.size, 4, none⟩ (.int .i64 fi)) (some w.heap.size) := grown_trans (grown_trans (grown_trans (grown_trans (grown_set _ _ _ _) (grown_set _ _ _ _)) (grown_set _ _ _ _)) (grown_set _ _ _ _)) (grown_set _ _ _ _)
  have s7 : (((((w1.setCell ⟨w.heap.size, 0, none⟩ (.int .i64 n)).setCell ⟨w.heap.size, 1, none⟩ (.slice (some ⟨g, 0, none⟩) zl cg)).setCell ⟨w.heap.size, 2, none⟩ (.slice (some ⟨go, 0, none⟩) ko co)).setCell ⟨w.heap.size, 3, none⟩ (.slice (some ⟨gv, 0, none⟩) kv cv)).setCell ⟨w.heap.size, 4, none⟩ (.int .i64 fi)).grownBy (((((((w1.setCell ⟨w.heap.size, 0, none⟩ (.int .i64 n)).setCell ⟨w.heap.size, 1, none⟩ (.slice (some ⟨g, 0, none⟩) zl cg)).setCell ⟨w.heap.size, 2, none⟩ (.slice (some ⟨go, 0, none⟩) ko co)).setCell ⟨w.heap.size, 3, none⟩ (.slice (some ⟨gv, 0, none⟩) kv cv)).setCell ⟨w.heap.size, 4, none⟩ (.int .i64 fi)).setCell ⟨w.heap.size + 1, 0, none⟩ (.int .i64 veh)).setCell ⟨w.heap.size + 1, 1, none⟩ (.slice ao m co2)) (some (w.heap.size + 1)) := grown_trans (grown_set _ _ _ _) (grown_set _ _ _ _)
  have r0 : (((((w1.setCell ⟨w.heap.size, 0, none⟩ (.int .i64 n)).setCell ⟨w.heap.size, 1, none⟩ (.slice (some ⟨g, 0, none⟩) zl cg)).setCell ⟨w.heap.size, 2, none⟩ (.slice (some ⟨go, 0, none⟩) ko co)).setCell ⟨w.heap.size, 3, none⟩ (.slice (some ⟨gv, 0, none⟩) kv cv)).setCell ⟨w.heap.size, 4, none⟩ (.int .i64 fi)).heap[w.heap.size]? = some (.cells #[.int .i64 n, .slice (some ⟨g, 0, none⟩) zl cg, .slice (some ⟨go, 0, none⟩) ko co, .slice (some ⟨gv, 0, none⟩) kv cv, .int .i64 fi] 30 (0, 0)) := by
    have := row_put (i := 4) (.int .i64 fi) (row_put (i := 3) (.slice (some ⟨gv, 0, none⟩) kv cv) (row_put (i := 2) (.slice (some ⟨go, 0, none⟩) ko co) (row_put (i := 1) (.slice (some ⟨g, 0, none⟩) zl cg) (row_put (i := 0) (.int .i64 n) g0))))
    simpa using this
  have R0 : Hid ((((((((w1.setCell ⟨w.heap.size, 0, none⟩ (.int .i64 n)).setCell ⟨w.heap.size, 1, none⟩ (.slice (some ⟨g, 0, none⟩) zl cg)).setCell ⟨w.heap.size, 2, none⟩ (.slice (some ⟨go, 0, none⟩) ko co)).setCell ⟨w.heap.size, 3, none⟩ (.slice (some ⟨gv, 0, none⟩) kv cv)).setCell ⟨w.heap.size, 4, none⟩ (.int .i64 fi)).setCell ⟨w.heap.size + 1, 0, none⟩ (.int .i64 veh)).setCell ⟨w.heap.size + 1, 1, none⟩ (.slice ao m co2)).heap[w.heap.size]? = some (.cells #[.int .i64 n, .slice (some ⟨g, 0, none⟩) zl cg, .slice (some ⟨go, 0, none⟩) ko co, .slice (some ⟨gv, 0, none⟩) kv cv, .int .i64 fi] 30 (0, 0))) := grown_row s7 r0 (fun e => by injection e with e; omega)
  have R1 : Hid ((((((((w1.setCell ⟨w.heap.size, 0, none⟩ (.int .i64 n)).setCell ⟨w.heap.size, 1, none⟩ (.slice (some ⟨g, 0, none⟩) zl cg)).setCell ⟨w.heap.size, 2, none⟩ (.slice (some ⟨go, 0, none⟩) ko co)).setCell ⟨w.heap.size, 3, none⟩ (.slice (some ⟨gv, 0, none⟩) kv cv)).setCell ⟨w.heap.size, 4, none⟩ (.int .i64 fi)).setCell ⟨w.heap.size + 1, 0, none⟩ (.int .i64 veh)).setCell ⟨w.heap.size + 1, 1, none⟩ (.slice ao m co2)).heap[w.heap.size + 1]? = some (.cells #[.int .i64 veh, .slice ao m co2] 32 (0, 0))) := by
    have := row_put (i := 1) (.slice ao m co2) (row_put (i := 0) (.int .i64 veh) (grown_row s5 g1 (fun e => by injection e with e; omega)))
    show _ = _
    simpa using this
  have TOLD : Hid (SchedToldA w (.returned (.tuple #[.agg #[.int .i64 n, .slice (some ⟨g, 0, none⟩) zl cg, .slice (some ⟨go, 0, none⟩) ko co, .slice (some ⟨gv, 0, none⟩) kv cv, .int .i64 fi], .agg #[.int .i64 veh, .slice ao m co2]])) (((((((w1.setCell ⟨w.heap.size, 0, none⟩ (.int .i64 n)).setCell ⟨w.heap.size, 1, none⟩ (.slice (some ⟨g, 0, none⟩) zl cg)).setCell ⟨w.heap.size, 2, none⟩ (.slice (some ⟨go, 0, none⟩) ko co)).setCell ⟨w.heap.size, 3, none⟩ (.slice (some ⟨gv, 0, none⟩) kv cv)).setCell ⟨w.heap.size, 4, none⟩ (.int .i64 fi)).setCell ⟨w.heap.size + 1, 0, none⟩ (.int .i64 veh)).setCell ⟨w.heap.size + 1, 1, none⟩ (.slice ao m co2))) := by
    have bb : Below w.heap.size w w1 := BA.out.trans (hb.mono BA.out.size)
    have li : IntsAt (((((((w1.setCell ⟨w.heap.size, 0, none⟩ (.int .i64 n)).setCell ⟨w.heap.size, 1, none⟩ (.slice (some ⟨g, 0, none⟩) zl cg)).setCell ⟨w.heap.size, 2, none⟩ (.slice (some ⟨go, 0, none⟩) ko co)).setCell ⟨w.heap.size, 3, none⟩ (.slice (some ⟨gv, 0, none⟩) kv cv)).setCell ⟨w.heap.size, 4, none⟩ (.int .i64 fi)).setCell ⟨w.heap.size + 1, 0, none⟩ (.int .i64 veh)).setCell ⟨w.heap.size + 1, 1, none⟩ (.slice ao m co2)) ao L := fun j hj => by
      obtain ⟨b, off, rfl, hc⟩ := il j hj
      have hb4 := h4 b rfl
      exact ⟨b, off, rfl, s7.cell (s5.cell hc (fun e => absurd (Option.some.inj e) (by show b ≠ _; omega))) (fun e => absurd (Option.some.inj e) (by show b ≠ _; omega))⟩
    exact ⟨n, g, zl, cg, go, ko, co, gv, kv, cv, zs, O, V, L, fi, veh, ao, m, co2, rfl, hls, hms, grown_below (grown_below bb (Nat.le_refl _) s5) (by omega) s7, ints_row (ints_row iz s5 (fun e => by injection e with e; omega)) s7 (fun e => by injection e with e; omega), ints_row (ints_row io s5 (fun e => by injection e with e; omega)) s7 (fun e => by injection e with e; omega), ints_row (ints_row iv s5 (fun e => by injection e with e; omega)) s7 (fun e => by injection e with e; omega), li, ⟨by omega, by omega, by omega, fun b e => by have := h4 b e; omega⟩⟩
  obtain ⟨y0, y1, y2, y3, y4⟩ := cells5z g0
  have yf := fun i => frozen_of_row _ _ i _ _ g0
  obtain ⟨x0, x1⟩ := cells2 g1
  have xf := fun i => frozen_of_row _ _ i _ _ g1
  clear hls hms hb iz io iv il h1 h2 h3 h4 g0 g1 s5 s7 r0 hW0
  go_wp2
  refine bodyPost_ret (v := .tuple #[.agg #[.int .i64 n, .slice (some ⟨g, 0, none⟩) zl cg, .slice (some ⟨go, 0, none⟩) ko co, .slice (some ⟨gv, 0, none⟩) kv cv, .int .i64 fi], .agg #[.int .i64 veh, .slice ao m co2]]) ?_ rfl TOLD.out
  have r1 := run_loadVar_row (P := Try.prog) _ w.heap.size 30 30 #[.int .i64 n, .slice (some ⟨g, 0, none⟩) zl cg, .slice (some ⟨go, 0, none⟩) ko co, .slice (some ⟨gv, 0, none⟩) kv cv, .int .i64 fi] (0, 0) _ R0.out Try.underlying30 rfl sizeCase5
  have r2 := run_loadVar_row (P := Try.prog) _ (w.heap.size + 1) 32 32 #[.int .i64 veh, .slice ao m co2] (0, 0) _ R1.out Try.underlying32 rfl sizeRoute2
  simp [results, Try.results20, asAddr, r1, r2]

end Go.Proofs.Ytplefpmchhcfcaa
