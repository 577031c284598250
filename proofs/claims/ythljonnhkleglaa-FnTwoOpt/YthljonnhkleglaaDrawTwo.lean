import Derived.Test.YthljonnhkleglaaDrawSched
import Derived.Deep.CutRange
namespace Go.Proofs.Ythljonnhkleglaa
open Go.RowKit

/-- As SD, with the drawn route in a box of its own. -/
structure XD (w W : World) (q k kx : Nat) (a : Option Addr) (bs : List Int) (c : Nat) (n fi veh : Int) (g zl cg go ko co gv kv cv : Nat) (zs O V : List Int) (ao : Option Addr) (m co2 : Nat) (L : List Int) (rc rr : Array Value) : Prop where
  s : SD w W q k a bs c #[.int .i64 n, .slice (some ⟨g, 0, none⟩) zl cg, .slice (some ⟨go, 0, none⟩) ko co, .slice (some ⟨gv, 0, none⟩) kv cv, .int .i64 fi] g go gv zs O V rc rr
  x : W.heap[kx]? = some (.cells #[.int .i64 veh, .slice ao m co2] 44 (0, 0))
  hx : w.heap.size + 1 < kx ∧ kx ≠ q
  l : L.length = m ∧ m ≤ 4 ∧ m ≤ co2
  il : IntsAt W ao L
  ol : ∀ b, (Value.slice ao 0 0).ownBlock = some b → w.heap.size + 2 ≤ b ∧ b ≠ q
section
variable {w W W' : World} {q k kx : Nat} {a : Option Addr} {bs : List Int} {c : Nat} {n fi veh : Int} {g zl cg go ko co gv kv cv : Nat} {zs O V : List Int} {ao : Option Addr} {m co2 : Nat} {L : List Int} {rc rr : Array Value}
theorem XD.read {p : Nat} (h : XD w W q k kx a bs c n fi veh g zl cg go ko co gv kv cv zs O V ao m co2 L rc rr) (hr : RD W' q a bs c p) (hg : W.grownBy W' (some q)) : XD w W' q k kx a bs c n fi veh g zl cg go ko co gv kv cv zs O V ao m co2 L rc rr := by
  refine ⟨h.s.read hr hg, grown_row hg h.x (fun e => h.hx.2 (by injection e)), h.hx, h.l, fun j hj => ?_, h.ol⟩
  obtain ⟨b, off, rfl, hc⟩ := h.il j hj
  exact ⟨b, off, rfl, hg.cell hc (fun e => absurd (Option.some.inj e) (h.ol b rfl).2)⟩
theorem XD.below (h : XD w W q k kx a bs c n fi veh g zl cg go ko co gv kv cv zs O V ao m co2 L rc rr) (hb : Below W.heap.size W W') : XD w W' q k kx a bs c n fi veh g zl cg go ko co gv kv cv zs O V ao m co2 L rc rr :=
  ⟨h.s.below hb, below_row hb (row_lt h.x) h.x, h.hx, h.l, h.il.below hb, h.ol⟩
theorem XD.aside {s : Nat} {rc' rr' : Array Value} (h : XD w W q k kx a bs c n fi veh g zl cg go ko co gv kv cv zs O V ao m co2 L rc rr) (hs : s = w.heap.size ∨ s = w.heap.size + 1) (hg : W.grownBy W' (some s)) (hS : SD w W' q k a bs c #[.int .i64 n, .slice (some ⟨g, 0, none⟩) zl cg, .slice (some ⟨go, 0, none⟩) ko co, .slice (some ⟨gv, 0, none⟩) kv cv, .int .i64 fi] g go gv zs O V rc' rr') : XD w W' q k kx a bs c n fi veh g zl cg go ko co gv kv cv zs O V ao m co2 L rc' rr' := by
  have h1 := h.hx.1
  refine ⟨hS, grown_row hg h.x (fun e => by injection e with e; omega), h.hx, h.l, fun j hj => ?_, h.ol⟩
  obtain ⟨b, off, rfl, hc⟩ := h.il j hj
  have hb := (h.ol b rfl).1
  exact ⟨b, off, rfl, hg.cell hc (fun e => absurd (Option.some.inj e) (by show b ≠ _; omega))⟩
theorem XD.setC {z0 z1 z2 z3 z4 : Value} (h : XD w W q k kx a bs c n fi veh g zl cg go ko co gv kv cv zs O V ao m co2 L #[z0, z1, z2, z3, z4] rr) : XD w (((((W.setCell ⟨w.heap.size, 0, none⟩ (.int .i64 n)).setCell ⟨w.heap.size, 1, none⟩ (.slice (some ⟨g, 0, none⟩) zl cg)).setCell ⟨w.heap.size, 2, none⟩ (.slice (some ⟨go, 0, none⟩) ko co)).setCell ⟨w.heap.size, 3, none⟩ (.slice (some ⟨gv, 0, none⟩) kv cv)).setCell ⟨w.heap.size, 4, none⟩ (.int .i64 fi)) q k kx a bs c n fi veh g zl cg go ko co gv kv cv zs O V ao m co2 L #[.int .i64 n, .slice (some ⟨g, 0, none⟩) zl cg, .slice (some ⟨go, 0, none⟩) ko co, .slice (some ⟨gv, 0, none⟩) kv cv, .int .i64 fi] rr :=
  h.aside (.inl rfl) (grown_trans (grown_trans (grown_trans (grown_trans (grown_set _ _ _ _) (grown_set _ _ _ _)) (grown_set _ _ _ _)) (grown_set _ _ _ _)) (grown_set _ _ _ _)) h.s.setC
theorem XD.setR {z0 z1 : Value} (h : XD w W q k kx a bs c n fi veh g zl cg go ko co gv kv cv zs O V ao m co2 L rc #[z0, z1]) : XD w ((W.setCell ⟨w.heap.size + 1, 0, none⟩ (.int .i64 veh)).setCell ⟨w.heap.size + 1, 1, none⟩ (.slice ao m co2)) q k kx a bs c n fi veh g zl cg go ko co gv kv cv zs O V ao m co2 L rc #[.int .i64 veh, .slice ao m co2] :=
  h.aside (.inr rfl) (grown_trans (grown_set _ _ _ _) (grown_set _ _ _ _)) (h.s.setR veh (.slice ao m co2))
theorem XD.keep (h : XD w W q k kx a bs c n fi veh g zl cg go ko co gv kv cv zs O V ao m co2 L rc rr) : W.cell? ⟨k, 0, none⟩ = some (.int .i64 n) ∧ W.cell? ⟨k, 1, none⟩ = some (.slice (some ⟨g, 0, none⟩) zl cg) ∧ W.cell? ⟨k, 2, none⟩ = some (.slice (some ⟨go, 0, none⟩) ko co) ∧ W.cell? ⟨k, 3, none⟩ = some (.slice (some ⟨gv, 0, none⟩) kv cv) ∧ W.cell? ⟨k, 4, none⟩ = some (.int .i64 fi) ∧ W.cell? ⟨kx, 0, none⟩ = some (.int .i64 veh) ∧ W.cell? ⟨kx, 1, none⟩ = some (.slice ao m co2) := by
  obtain ⟨d0, d1, d2, d3, d4⟩ := cells5z h.s.b1
  obtain ⟨e0, e1⟩ := cells2 h.x
  exact ⟨d0, d1, d2, d3, d4, e0, e1⟩
end

/-- A drawn case, a route and two numbers, told to their caller. -/
def TwoTold (w : World) (e : Ending) (w' : World) : Prop := ∃ (n : Int) (g zl cg go ko co gv kv cv : Nat) (zs O V L : List Int) (fi veh : Int) (ao : Option Addr) (m co2 : Nat) (i j : Int),
  e = .returned (.tuple #[.agg #[.int .i64 n, .slice (some ⟨g, 0, none⟩) zl cg, .slice (some ⟨go, 0, none⟩) ko co, .slice (some ⟨gv, 0, none⟩) kv cv, .int .i64 fi], .agg #[.int .i64 veh, .slice ao m co2], .int .i64 i, .int .i64 j]) ∧ (zs.length = zl ∧ O.length = ko * 6 ∧ V.length = kv * 5 ∧ 1 ≤ ko ∧ ko ≤ 6 ∧ 1 ≤ kv ∧ kv ≤ 3) ∧ (L.length = m ∧ m ≤ 4 ∧ m ≤ co2) ∧
  Below w.heap.size w w' ∧ IntsAt w' (some ⟨g, 0, none⟩) zs ∧ IntsAt w' (some ⟨go, 0, none⟩) O ∧ IntsAt w' (some ⟨gv, 0, none⟩) V ∧ IntsAt w' ao L
theorem XD.done {w W : World} {q k kx : Nat} {a : Option Addr} {bs : List Int} {c : Nat} {n fi veh : Int} {g zl cg go ko co gv kv cv : Nat} {zs O V : List Int} {ao : Option Addr} {m co2 : Nat} {L : List Int} (h : XD w W q k kx a bs c n fi veh g zl cg go ko co gv kv cv zs O V ao m co2 L #[.int .i64 n, .slice (some ⟨g, 0, none⟩) zl cg, .slice (some ⟨go, 0, none⟩) ko co, .slice (some ⟨gv, 0, none⟩) kv cv, .int .i64 fi] #[.int .i64 veh, .slice ao m co2]) (hls : zs.length = zl ∧ O.length = ko * 6 ∧ V.length = kv * 5 ∧ 1 ≤ ko ∧ ko ≤ 6 ∧ 1 ≤ kv ∧ kv ≤ 3) (i j : Int) (A : Act) (h2 : A.tmps.getD 2 undef = .pointer (some ⟨w.heap.size, 0, none⟩)) (h3 : A.tmps.getD 3 undef = .pointer (some ⟨w.heap.size + 1, 0, none⟩)) (h4 : A.tmps.getD 4 undef = .int .i64 i) (h5 : A.tmps.getD 5 undef = .int .i64 j) (hds : A.defers = []) :
    bodyPost Try.prog Try.f27 (TwoTold w) Exit.ret A W := by
  refine bodyPost_ret (v := .tuple #[.agg #[.int .i64 n, .slice (some ⟨g, 0, none⟩) zl cg, .slice (some ⟨go, 0, none⟩) ko co, .slice (some ⟨gv, 0, none⟩) kv cv, .int .i64 fi], .agg #[.int .i64 veh, .slice ao m co2], .int .i64 i, .int .i64 j]) ?_ hds ⟨n, g, zl, cg, go, ko, co, gv, kv, cv, zs, O, V, L, fi, veh, ao, m, co2, i, j, rfl, hls, h.l, h.s.b, h.s.iz, h.s.io, h.s.iv, h.il⟩
  have r1 := run_loadVar_row (P := Try.prog) W w.heap.size 30 30 #[.int .i64 n, .slice (some ⟨g, 0, none⟩) zl cg, .slice (some ⟨go, 0, none⟩) ko co, .slice (some ⟨gv, 0, none⟩) kv cv, .int .i64 fi] (0, 0) _ h.s.b0 Try.underlying30 rfl sizeCase5
  have r2 := run_loadVar_row (P := Try.prog) W (w.heap.size + 1) 44 44 #[.int .i64 veh, .slice ao m co2] (0, 0) _ h.s.b2 Try.underlying44 rfl sizeRoute2
  have h2' : A.tmps[2]?.getD undef = .pointer (some ⟨w.heap.size, 0, none⟩) := by simpa using h2
  have h3' : A.tmps[3]?.getD undef = .pointer (some ⟨w.heap.size + 1, 0, none⟩) := by simpa using h3
  have h4' : A.tmps[4]?.getD undef = .int .i64 i := by simpa using h4
  have h5' : A.tmps[5]?.getD undef = .int .i64 j := by simpa using h5
  simp [results, Try.results27, h2', h3', h4', h5', asAddr, r1, r2]

set_option maxRecDepth 10000 in
set_option maxHeartbeats 40000000 in
theorem drawTwo_any (a : Option Addr) (c : Nat) (bs : List Int) (w : World) (h : CodeAt w a bs) (hl : bs.length ≤ 1048576) :
    Calls Try.prog 27 #[.slice a bs.length c] w (TwoTold w) := by
  have H : Hid (CodeAt w a bs) := h
  clear h
  have BA : Hid (Below w.heap.size w ((w.alloc (.cells #[.int .i64 0, .slice none 0 0, .slice none 0 0, .slice none 0 0, .int .i64 0] 30)).alloc (.cells #[.int .i64 0, .slice none 0 0] 44))) := ((Below.refl _ _).alloc (Nat.le_refl _) _).alloc (by simp) _
  have GA : Hid (((w.alloc (.cells #[.int .i64 0, .slice none 0 0, .slice none 0 0, .slice none 0 0, .int .i64 0] 30)).alloc (.cells #[.int .i64 0, .slice none 0 0] 44)).heap[w.heap.size]? = some (.cells #[.int .i64 0, .slice none 0 0, .slice none 0 0, .slice none 0 0, .int .i64 0] 30 (0, 0))) := heap_alloc2_old _ _ _
  have GB : Hid (((w.alloc (.cells #[.int .i64 0, .slice none 0 0, .slice none 0 0, .slice none 0 0, .int .i64 0] 30)).alloc (.cells #[.int .i64 0, .slice none 0 0] 44)).heap[w.heap.size + 1]? = some (.cells #[.int .i64 0, .slice none 0 0] 44 (0, 0))) := heap_alloc2_new _ _ _
  have CA : Hid (CodeAt ((w.alloc (.cells #[.int .i64 0, .slice none 0 0, .slice none 0 0, .slice none 0 0, .int .i64 0] 30)).alloc (.cells #[.int .i64 0, .slice none 0 0] 44)) a bs) := by
    intro j hj
    obtain ⟨b, off, e, hc, hv⟩ := H.out j hj
    exact ⟨b, off, e, (BA.out.cell (p := ⟨b, off + j, none⟩) (block_lt_of_cell hc)).trans hc, hv⟩
  go_enter Try.func27, Try.ntmps27
  go_wp2_with fail
  generalize (w.alloc (.cells #[.int .i64 0, .slice none 0 0, .slice none 0 0, .slice none 0 0, .int .i64 0] 30)).alloc (.cells #[.int .i64 0, .slice none 0 0] 44) = W0 at *
  refine (l1Open_any a c bs W0 CA.out hl).mono ?_
  rintro e w1 ⟨rfl, hb, hr⟩
  obtain ⟨q, HQ⟩ : ∃ q, Hid (W0.heap.size = q) := ⟨_, rfl⟩
  have hw0 : w.heap.size + 1 < W0.heap.size := row_lt GB.out
  have HQL : Hid (w.heap.size + 1 < q) := by show _ < _; rw [← HQ.out]; exact hw0
  have B1 : Hid (Below w.heap.size w w1) := BA.out.trans (hb.mono BA.out.size)
  have G1 : Hid (w1.heap[w.heap.size]? = some (.cells #[.int .i64 0, .slice none 0 0, .slice none 0 0, .slice none 0 0, .int .i64 0] 30 (0, 0))) := below_row hb (row_lt GA.out) GA.out
  have G2 : Hid (w1.heap[w.heap.size + 1]? = some (.cells #[.int .i64 0, .slice none 0 0] 44 (0, 0))) := below_row hb (row_lt GB.out) GB.out
  have R1 : Hid (RD w1 q a bs c 0) := by have := hr; rw [HQ.out] at this; exact this
  clear hb hr hw0
  rw [HQ.out]
  go_wp2_with fail
  refine (case1_any q 0 c 6 a bs w1 R1.out (by omega) (by omega)).mono ?_
  rintro e w3 ⟨n, g, zl, cg, go, ko, co, gv, kv, cv, zs, O, V, fi, rfl, hls, hg, ⟨p3, hr⟩, iz, io, iv, hgs⟩
  have HLS : Hid (zs.length = zl ∧ O.length = ko * 6 ∧ V.length = kv * 5 ∧ 1 ≤ ko ∧ ko ≤ 6 ∧ 1 ≤ kv ∧ kv ≤ 3) := hls
  have hko : ko ≤ 6 := hls.2.2.2.2.1
  have hkv : kv ≤ 3 := hls.2.2.2.2.2.2
  have hk1 : 1 ≤ ko := hls.2.2.2.1
  have hv1 : 1 ≤ kv := hls.2.2.2.2.2.1
  have S3 : Hid (SD w (w3.alloc (.cells #[.int .i64 n, .slice (some ⟨g, 0, none⟩) zl cg, .slice (some ⟨go, 0, none⟩) ko co, .slice (some ⟨gv, 0, none⟩) kv cv, .int .i64 fi] 30)) q w3.heap.size a bs c #[.int .i64 n, .slice (some ⟨g, 0, none⟩) zl cg, .slice (some ⟨go, 0, none⟩) ko co, .slice (some ⟨gv, 0, none⟩) kv cv, .int .i64 fi] g go gv zs O V #[.int .i64 0, .slice none 0 0, .slice none 0 0, .slice none 0 0, .int .i64 0] #[.int .i64 0, .slice none 0 0]) := by
    have hA : Below w3.heap.size w3 (w3.alloc (.cells #[.int .i64 n, .slice (some ⟨g, 0, none⟩) zl cg, .slice (some ⟨go, 0, none⟩) ko co, .slice (some ⟨gv, 0, none⟩) kv cv, .int .i64 fi] 30)) := (Below.refl _ _).alloc (Nat.le_refl _) _
    have hwq := HQL.out
    have hq1 : q < w1.heap.size := row_lt R1.out.1
    have b3 : Below w.heap.size w w3 := grown_below B1.out (by omega) hg
    have g3 := grown_row hg G1.out (fun e => by injection e with e; omega)
    have g4 := grown_row hg G2.out (fun e => by injection e with e; omega)
    have hq3 : q < w3.heap.size := row_lt hr.1
    obtain ⟨hs1, hs2, hs3, -⟩ := hgs
    refine ⟨b3.alloc b3.size _, ⟨p3, hr.below hA⟩, ⟨hwq, ⟨by omega, by have := row_lt g4; omega⟩, ⟨by omega, by omega⟩, ⟨by omega, by omega⟩, ⟨by omega, by omega⟩⟩, fun j hj => ?_, below_row hA (row_lt g3) g3, below_row hA (row_lt g4) g4, heap_alloc_new _ _, iz.below hA, io.below hA, iv.below hA⟩
    obtain ⟨b, off, e, hc, _⟩ := H.out j hj
    exact ⟨b, off, e, block_lt_of_cell hc⟩
  have R3 : Hid (RD (w3.alloc (.cells #[.int .i64 n, .slice (some ⟨g, 0, none⟩) zl cg, .slice (some ⟨go, 0, none⟩) ko co, .slice (some ⟨gv, 0, none⟩) kv cv, .int .i64 fi] 30)) q a bs c p3) := hr.below ((Below.refl _ _).alloc (Nat.le_refl _) _)
  clear hr hg iz io iv hgs hls B1 G1 G2 R1 BA GA GB CA
  obtain ⟨c0, c1, c2', c3, c4⟩ := cells5z S3.out.b1
  go_wp2_with fail
  obtain ⟨k, HKk⟩ : ∃ v, Hid (w3.heap.size = v) := ⟨_, rfl⟩
  rw [HKk.out] at S3 c0 c1 c2' c3 c4 ⊢
  generalize w3.alloc (.cells #[.int .i64 n, .slice (some ⟨g, 0, none⟩) zl cg, .slice (some ⟨go, 0, none⟩) ko co, .slice (some ⟨gv, 0, none⟩) kv cv, .int .i64 fi] 30) = W3 at *
  have FNE : Hid (∀ W p', RD W q a bs c p' → SD w W q k a bs c #[.int .i64 n, .slice (some ⟨g, 0, none⟩) zl cg, .slice (some ⟨go, 0, none⟩) ko co, .slice (some ⟨gv, 0, none⟩) kv cv, .int .i64 fi] g go gv zs O V #[.int .i64 0, .slice none 0 0, .slice none 0 0, .slice none 0 0, .int .i64 0] #[.int .i64 0, .slice none 0 0] → Calls Try.prog 53 #[.pointer (some ⟨q, 0, none⟩), .agg #[.int .i64 n, .slice (some ⟨g, 0, none⟩) zl cg, .slice (some ⟨go, 0, none⟩) ko co, .slice (some ⟨gv, 0, none⟩) kv cv, .int .i64 fi], .int .i64 2] W (RouteDraw W q a bs c)) := fun W p' hr hS =>
    fine_at q p' c 2 2 rfl n fi g zl cg go ko co gv kv cv zs O V a bs W hr hS.iz hS.io hS.iv hS.h.2.2.1.1 hS.h.2.2.2.1.1 hS.h.2.2.2.2.1 HLS.out.1 HLS.out.2.1 HLS.out.2.2.1 hk1 (by omega) hv1 (by omega)
  refine (FNE.out _ _ R3.out S3.out).mono ?_
  rintro e w4 ⟨veh, sl, L, rfl, hL, hg, ⟨p4, hr⟩, ho⟩
  obtain ⟨ao, co2, e⟩ := own_any ho
  subst e
  obtain ⟨m, HM⟩ : ∃ m, Hid (L.length = m) := ⟨_, rfl⟩
  have X4 : Hid (XD w (w4.alloc (.cells #[.int .i64 veh, .slice ao m co2] 44)) q k w4.heap.size a bs c n fi veh g zl cg go ko co gv kv cv zs O V ao m co2 L #[.int .i64 0, .slice none 0 0, .slice none 0 0, .slice none 0 0, .int .i64 0] #[.int .i64 0, .slice none 0 0]) := by
    have ha : Below w4.heap.size w4 (w4.alloc (.cells #[.int .i64 veh, .slice ao m co2] 44)) := (Below.refl _ _).alloc (Nat.le_refl _) _
    have hst := StopsAt.of_own (w := w) (by rw [HM.out] at ho; exact ho) HM.out hL S3.out.size
    have hS4 := S3.out.read hr hg
    have hq3 : q < W3.heap.size := row_lt R3.out.1
    have hq4 : q < w4.heap.size := row_lt hr.1
    refine ⟨hS4.below ha, heap_alloc_new _ _, ⟨by have := hS4.size; omega, by omega⟩, ⟨hst.1, hst.2.1, hst.2.2.1⟩, hst.2.2.2.1.below ha, fun b e => ?_⟩
    have e2 : (Value.slice ao L.length co2).ownBlock = some b := by rw [show (Value.slice ao L.length co2).ownBlock = (Value.slice ao 0 0).ownBlock from by cases ao <;> rfl]; exact e
    have := (ho.lt b e2).1
    have := S3.out.size
    omega
  rw [HM.out]
  have R4 : Hid (RD (w4.alloc (.cells #[.int .i64 veh, .slice ao m co2] 44)) q a bs c p4) := hr.below ((Below.refl _ _).alloc (Nat.le_refl _) _)
  rw [HM.out] at hL
  clear hg hr ho S3 R3 c0 c1 c2' c3 c4
  obtain ⟨m0, m1⟩ := cells2 X4.out.x
  go_upto_region 4 with fail
  generalize w4.alloc (.cells #[.int .i64 veh, .slice ao m co2] 44) = W4 at *
  obtain ⟨kx, HKX⟩ : ∃ v, Hid (w4.heap.size = v) := ⟨_, rfl⟩
  rw [HKX.out] at X4 m0 m1 ⊢
  go_cut [9] from 17 to 47 (fun s9 wx => ∃ (i : Int) (p : Nat), s9 = .int .i64 i ∧ RD wx q a bs c p ∧ (0 ≤ i ∧ i ≤ 4) ∧ XD w wx q k kx a bs c n fi veh g zl cg go ko co gv kv cv zs O V ao m co2 L #[.int .i64 0, .slice none 0 0, .slice none 0 0, .slice none 0 0, .int .i64 0] #[.int .i64 0, .slice none 0 0])
  case first =>
    have hwm : wrap64 ((m : Int) - 1) = (m : Int) - 1 := IntWalk.wrap64_in _ (by omega)
    have hwm2 : IntKind.i64.wrap ((m : Int) - 1) = (m : Int) - 1 := by rw [IntKind.wrap_i64]; omega
    by_cases hx : (1 : Int) < (m : Int) - 1
    · go_wp2_with fail
      refine (below_any q p4 c ((m : Int) - 1) a bs _ R4.out (by omega)).mono ?_
      rintro e w5 ⟨y5, p5, rfl, hy0, hy1, hr, hg⟩
      have X5 : Hid (XD w w5 q k kx a bs c n fi veh g zl cg go ko co gv kv cv zs O V ao m co2 L #[.int .i64 0, .slice none 0 0, .slice none 0 0, .slice none 0 0, .int .i64 0] #[.int .i64 0, .slice none 0 0]) := X4.out.read hr hg
      have HR5 : Hid (RD w5 q a bs c p5) := hr
      clear hr hg
      go_wp2_with fail
      go_meet
      exact ⟨_, _, rfl, HR5.out, ⟨by omega, by omega⟩, X5.out⟩
    · have hxd : decide ((1 : Int) < (m : Int) - 1) = false := decide_eq_false hx
      go_wp2_with fail
      refine (below_any q p4 c 1 a bs _ R4.out (by omega)).mono ?_
      rintro e w5 ⟨y5, p5, rfl, hy0, hy1, hr, hg⟩
      have X5 : Hid (XD w w5 q k kx a bs c n fi veh g zl cg go ko co gv kv cv zs O V ao m co2 L #[.int .i64 0, .slice none 0 0, .slice none 0 0, .slice none 0 0, .int .i64 0] #[.int .i64 0, .slice none 0 0]) := X4.out.read hr hg
      have HR5 : Hid (RD w5 q a bs c p5) := hr
      clear hr hg
      go_wp2_with fail
      go_meet
      exact ⟨_, _, rfl, HR5.out, ⟨by omega, by omega⟩, X5.out⟩
  case rest =>
    clear X4 R4 m0 m1
    obtain ⟨i, p4, rfl, hr4, ⟨hi0, hi4⟩, hX4⟩ := hcut
    have X4 : Hid (XD w wc q k kx a bs c n fi veh g zl cg go ko co gv kv cv zs O V ao m co2 L #[.int .i64 0, .slice none 0 0, .slice none 0 0, .slice none 0 0, .int .i64 0] #[.int .i64 0, .slice none 0 0]) := hX4
    have R4 : Hid (RD wc q a bs c p4) := hr4
    clear hr4 hX4
    go_wp2_with fail
    refine (once_any q p4 c 8 a bs wc R4.out (by omega) (by omega)).mono ?_
    rintro e w5 ⟨b, p5, rfl, hr, hg⟩
    have X5 : Hid (XD w w5 q k kx a bs c n fi veh g zl cg go ko co gv kv cv zs O V ao m co2 L #[.int .i64 0, .slice none 0 0, .slice none 0 0, .slice none 0 0, .int .i64 0] #[.int .i64 0, .slice none 0 0]) := X4.out.read hr hg
    have R5 : Hid (RD w5 q a bs c p5) := hr
    have hq5 := X5.out.s.h.1
    have RC : Hid (RD (((((w5.setCell ⟨w.heap.size, 0, none⟩ (.int .i64 n)).setCell ⟨w.heap.size, 1, none⟩ (.slice (some ⟨g, 0, none⟩) zl cg)).setCell ⟨w.heap.size, 2, none⟩ (.slice (some ⟨go, 0, none⟩) ko co)).setCell ⟨w.heap.size, 3, none⟩ (.slice (some ⟨gv, 0, none⟩) kv cv)).setCell ⟨w.heap.size, 4, none⟩ (.int .i64 fi)) q a bs c p5) := RD.aside hr X5.out.s.cd (grown_trans (grown_trans (grown_trans (grown_trans (grown_set _ _ _ _) (grown_set _ _ _ _)) (grown_set _ _ _ _)) (grown_set _ _ _ _)) (grown_set _ _ _ _)) (Nat.le_refl _) (by omega)
    have RR : Hid (RD ((w5.setCell ⟨w.heap.size + 1, 0, none⟩ (.int .i64 veh)).setCell ⟨w.heap.size + 1, 1, none⟩ (.slice ao m co2)) q a bs c p5) := RD.aside hr X5.out.s.cd (grown_trans (grown_set _ _ _ _) (grown_set _ _ _ _)) (by omega) (by omega)
    have RCR : Hid (RD (((((((w5.setCell ⟨w.heap.size, 0, none⟩ (.int .i64 n)).setCell ⟨w.heap.size, 1, none⟩ (.slice (some ⟨g, 0, none⟩) zl cg)).setCell ⟨w.heap.size, 2, none⟩ (.slice (some ⟨go, 0, none⟩) ko co)).setCell ⟨w.heap.size, 3, none⟩ (.slice (some ⟨gv, 0, none⟩) kv cv)).setCell ⟨w.heap.size, 4, none⟩ (.int .i64 fi)).setCell ⟨w.heap.size + 1, 0, none⟩ (.int .i64 veh)).setCell ⟨w.heap.size + 1, 1, none⟩ (.slice ao m co2)) q a bs c p5) := RD.aside RC.out X5.out.s.cd (grown_trans (grown_set _ _ _ _) (grown_set _ _ _ _)) (by omega) (by omega)
    have RRC : Hid (RD (((((((w5.setCell ⟨w.heap.size + 1, 0, none⟩ (.int .i64 veh)).setCell ⟨w.heap.size + 1, 1, none⟩ (.slice ao m co2)).setCell ⟨w.heap.size, 0, none⟩ (.int .i64 n)).setCell ⟨w.heap.size, 1, none⟩ (.slice (some ⟨g, 0, none⟩) zl cg)).setCell ⟨w.heap.size, 2, none⟩ (.slice (some ⟨go, 0, none⟩) ko co)).setCell ⟨w.heap.size, 3, none⟩ (.slice (some ⟨gv, 0, none⟩) kv cv)).setCell ⟨w.heap.size, 4, none⟩ (.int .i64 fi)) q a bs c p5) := RD.aside RR.out X5.out.s.cd (grown_trans (grown_trans (grown_trans (grown_trans (grown_set _ _ _ _) (grown_set _ _ _ _)) (grown_set _ _ _ _)) (grown_set _ _ _ _)) (grown_set _ _ _ _)) (Nat.le_refl _) (by omega)
    clear hr hg hq5 X4 R4
    cases b
    · have hwm : wrap64 ((m : Int) - 1) = (m : Int) - 1 := IntWalk.wrap64_in _ (by omega)
      have hwm2 : IntKind.i64.wrap ((m : Int) - 1) = (m : Int) - 1 := by rw [IntKind.wrap_i64]; omega
      have hws : wrap64 ((m : Int) - 1 - i) = (m : Int) - 1 - i := IntWalk.wrap64_in _ (by omega)
      have hws2 : IntKind.i64.wrap ((m : Int) - 1 - i) = (m : Int) - 1 - i := by rw [IntKind.wrap_i64]; omega
      obtain ⟨mx, HMX, hmx1, hmx2⟩ : ∃ mx : Int, Hid ((if (1 : Int) < (m : Int) - 1 - i then (m : Int) - 1 - i else 1) = mx) ∧ 1 ≤ mx ∧ mx ≤ 4 := ⟨_, rfl, by split <;> omega, by split <;> omega⟩
      go_wp2_with fail
      refine wp_region_held_drew (S := fun W => W.cell? ⟨k, 0, none⟩ = some (.int .i64 n) ∧ W.cell? ⟨k, 1, none⟩ = some (.slice (some ⟨g, 0, none⟩) zl cg) ∧ W.cell? ⟨k, 2, none⟩ = some (.slice (some ⟨go, 0, none⟩) ko co) ∧ W.cell? ⟨k, 3, none⟩ = some (.slice (some ⟨gv, 0, none⟩) kv cv) ∧ W.cell? ⟨k, 4, none⟩ = some (.int .i64 fi) ∧ W.cell? ⟨kx, 0, none⟩ = some (.int .i64 veh) ∧ W.cell? ⟨kx, 1, none⟩ = some (.slice ao m co2)) (by kernel_rfl) ?_ (fun hHeld => ?_)
      · exact XD.keep (X5.out.below (Below.refl _ _).drew)
      refine wpAnyH_take (i := 0) (v := ?_) rfl (by kernel_rfl) (by kernel_rfl) (by kernel_rfl) (fun _ _ _ h => h) (Or.inl ⟨by rfl, ?_⟩) hHeld ?_
      rotate_left 1
      · intro w hSw
        (try dsimp only at hSw)
        (try go_split_ands)
        go_simp
        all_goals (first | done | with_reducible rfl)
      (try simp only [Act.put])
      refine wpAnyH_take (i := 1) (v := ?_) rfl (by kernel_rfl) (by kernel_rfl) (by kernel_rfl) (fun _ _ _ h => h) (Or.inl ⟨by rfl, ?_⟩) hHeld ?_
      rotate_left 1
      · intro w hSw
        (try dsimp only at hSw)
        (try go_split_ands)
        go_simp
        all_goals (first | done | with_reducible rfl)
      (try simp only [Act.put])
      refine wpAnyH_take (i := 2) (v := ?_) rfl (by kernel_rfl) (by kernel_rfl) (by kernel_rfl) (fun _ _ _ h => h) (Or.inl ⟨by rfl, ?_⟩) hHeld ?_
      rotate_left 1
      · intro w hSw
        (try dsimp only at hSw)
        (try go_split_ands)
        go_simp
        all_goals (first | done | with_reducible rfl)
      (try simp only [Act.put])
      refine wpAnyH_take (i := 3) (v := ?_) rfl (by kernel_rfl) (by kernel_rfl) (by kernel_rfl) (fun _ _ _ h => h) (Or.inl ⟨by rfl, ?_⟩) hHeld ?_
      rotate_left 1
      · intro w hSw
        (try dsimp only at hSw)
        (try go_split_ands)
        go_simp
        all_goals (first | done | with_reducible rfl)
      (try simp only [Act.put])
      refine wpAnyH_take (i := 4) (v := ?_) rfl (by kernel_rfl) (by kernel_rfl) (by kernel_rfl) (fun _ _ _ h => h) (Or.inl ⟨by rfl, ?_⟩) hHeld ?_
      rotate_left 1
      · intro w hSw
        (try dsimp only at hSw)
        (try go_split_ands)
        go_simp
        all_goals (first | done | with_reducible rfl)
      (try simp only [Act.put])
      refine wpAnyH_take (i := 5) (v := ?_) rfl (by kernel_rfl) (by kernel_rfl) (by kernel_rfl) (fun _ _ _ h => h) (Or.inl ⟨by rfl, ?_⟩) hHeld ?_
      rotate_left 1
      · intro w hSw
        (try dsimp only at hSw)
        (try go_split_ands)
        go_simp
        all_goals (first | done | with_reducible rfl)
      (try simp only [Act.put])
      refine wpAnyH_take (i := 6) (v := ?_) rfl (by kernel_rfl) (by kernel_rfl) (by kernel_rfl) (fun _ _ _ h => h) (Or.inl ⟨by rfl, ?_⟩) hHeld ?_
      rotate_left 1
      · intro w hSw
        (try dsimp only at hSw)
        (try go_split_ands)
        go_simp
        all_goals (first | done | with_reducible rfl)
      (try simp only [Act.put])
      refine wpAnyH_take (i := 7) (v := ?_) rfl (by kernel_rfl) (by kernel_rfl) (by kernel_rfl) (fun _ _ _ h => h) (Or.inl ⟨by rfl, ?_⟩) hHeld ?_
      rotate_left 1
      · intro w hSw
        (try dsimp only at hSw)
        (try go_split_ands)
        go_simp
        all_goals (first | done | with_reducible rfl)
      (try simp only [Act.put])
      refine wpAnyH_take (i := 8) (v := ?_) rfl (by kernel_rfl) (by kernel_rfl) (by kernel_rfl) (fun _ _ _ h => h) (Or.inl ⟨by rfl, ?_⟩) hHeld ?_
      rotate_left 1
      · intro w hSw
        (try dsimp only at hSw)
        (try go_split_ands)
        go_simp
        all_goals (first | done | with_reducible rfl)
      (try simp only [Act.put])
      refine wpAnyH_take (i := 9) (v := ?_) rfl (by kernel_rfl) (by kernel_rfl) (by kernel_rfl) (fun _ _ _ h => h) (Or.inl ⟨by rfl, ?_⟩) hHeld ?_
      rotate_left 1
      · intro w hSw
        (try dsimp only at hSw)
        (try go_split_ands)
        go_simp
        all_goals (first | done | with_reducible rfl)
      (try simp only [Act.put])
      refine wpAnyH_take (i := 10) (v := ?_) rfl (by kernel_rfl) (by kernel_rfl) (by kernel_rfl) (fun _ _ _ h => h) (Or.inl ⟨by rfl, ?_⟩) hHeld ?_
      rotate_left 1
      · intro w hSw
        (try dsimp only at hSw)
        (try go_split_ands)
        go_simp
        all_goals (first | done | with_reducible rfl)
      (try simp only [Act.put])
      refine wpAnyH_take (i := 11) (v := ?_) rfl (by kernel_rfl) (by kernel_rfl) (by kernel_rfl) (fun _ _ _ h => h) (Or.inl ⟨by rfl, ?_⟩) hHeld ?_
      rotate_left 1
      · intro w hSw
        (try dsimp only at hSw)
        (try go_split_ands)
        go_simp
        all_goals (first | done | with_reducible rfl)
      (try simp only [Act.put])
      refine wpAnyH_take (i := 12) (v := .int .i64 mx) rfl (by kernel_rfl) (by kernel_rfl) (by kernel_rfl) (fun _ _ _ h => h) (Or.inl ⟨by rfl, ?_⟩) hHeld ?_
      · intro w hSw
        (try dsimp only at hSw)
        (try go_split_ands)
        have hmx := HMX.out
        clear HMX hmx1 hmx2
        by_cases hx : (1 : Int) < (m : Int) - 1 - i
        · rw [if_pos hx] at hmx
          subst hmx
          go_simp
          all_goals (first | done | with_reducible rfl)
        · rw [if_neg hx] at hmx
          have hxd : decide ((1 : Int) < (m : Int) - 1 - i) = false := decide_eq_false hx
          subst hmx
          go_simp
          all_goals (first | done | with_reducible rfl | simp [hx])
      (try simp only [Act.put])
      refine wpAnyH_ready (rs := [13]) (by kernel_rfl) (by simp) ?_
      refine AllReadyH.cons rfl (fun K hK => ?_) AllReadyH.nil
      go_simp
      refine (below_any q p5 c mx a bs w5.drew (R5.out.below (Below.refl _ _).drew) (by omega)).mono ?_
      rintro e w6 ⟨y6, p6, rfl, -, -, hr, hg⟩
      have T6 : Hid (XD w w6 q k kx a bs c n fi veh g zl cg go ko co gv kv cv zs O V ao m co2 L #[.int .i64 0, .slice none 0 0, .slice none 0 0, .slice none 0 0, .int .i64 0] #[.int .i64 0, .slice none 0 0]) := (X5.out.below (Below.refl _ _).drew).read hr hg
      clear hr hg
      (try go_wp2_with fail)
      refine hK.out _ _ ?_ (fun hHeld => ?_)
      · exact XD.keep T6.out
      clear hK K
      (try simp only [Act.put])
      refine wpAnyH_take (i := 14) (v := ?_) rfl (by kernel_rfl) (by kernel_rfl) (by kernel_rfl) (fun _ _ _ h => h) (Or.inl ⟨by rfl, ?_⟩) hHeld ?_
      rotate_left 1
      · intro w hSw
        (try dsimp only at hSw)
        (try go_split_ands)
        go_simp
        all_goals (first | done | with_reducible rfl)
      (try simp only [Act.put])
      refine wpAnyH_ready (rs := [15]) (by kernel_rfl) (by simp) ?_
      refine AllReadyH.cons rfl (fun K hK => ?_) AllReadyH.nil
      obtain ⟨q0, q1, q2, q3, q4⟩ := cells5z (T6.out).s.b0
      have qf := fun i => frozen_of_row _ _ i _ _ (T6.out).s.b0
      go_simp
      clear q0 q1 q2 q3 q4 qf
      refine hK.out _ _ ?_ (fun hHeld => ?_)
      · exact XD.keep (T6.out.setC)
      clear hK K
      (try simp only [Act.put])
      refine wpAnyH_ready (rs := [16]) (by kernel_rfl) (by simp) ?_
      refine AllReadyH.cons rfl (fun K hK => ?_) AllReadyH.nil
      obtain ⟨q0, q1⟩ := cells2 (T6.out.setC).s.b2
      have qf := fun i => frozen_of_row _ _ i _ _ (T6.out.setC).s.b2
      go_simp
      clear q0 q1 qf
      refine hK.out _ _ ?_ (fun hHeld => ?_)
      · exact XD.keep (T6.out.setC.setR)
      clear hK K
      (try simp only [Act.put])
      refine wpAnyH_take (i := 17) (v := ?_) rfl (by kernel_rfl) (by kernel_rfl) (by kernel_rfl) (fun _ _ _ h => h) (Or.inl ⟨by rfl, ?_⟩) hHeld ?_
      rotate_left 1
      · intro w hSw
        (try dsimp only at hSw)
        (try go_split_ands)
        go_simp
        all_goals (first | done | with_reducible rfl)
      change wpAnyH _ _ _ _ _ _ _ (Act.put _ (some 4) _) _
      simp only [Act.put]
      refine wpAnyH_take (i := 18) (v := ?_) rfl (by kernel_rfl) (by kernel_rfl) (by kernel_rfl) (fun _ _ _ h => h) (Or.inl ⟨by rfl, ?_⟩) hHeld ?_
      rotate_left 1
      · intro w hSw
        (try dsimp only at hSw)
        (try go_split_ands)
        go_simp
        all_goals (first | done | with_reducible rfl)
      change wpAnyH _ _ _ _ _ _ _ (Act.put _ (some 5) _) _
      simp only [Act.put]
      refine wpAnyH_done (by kernel_rfl) ?_ _
      go_wp2
      exact XD.done (T6.out.setC.setR) HLS.out _ _ _ (by rfl) (by rfl) (by rfl) (by rfl) (by rfl)
    · skip
      have kS := XD.keep (X5.out.below (Below.refl _ _).drew)
      have k1 := XD.keep (X5.out.setC.below (Below.refl _ _).drew)
      have k2 := XD.keep (X5.out.setR.below (Below.refl _ _).drew)
      have k3 := XD.keep (X5.out.setC.setR.below (Below.refl _ _).drew)
      have k4 := XD.keep (X5.out.setR.setC.below (Below.refl _ _).drew)
      obtain ⟨z0, z1, z2, z3, z4⟩ := cells5z X5.out.s.b0
      have zf := fun i => frozen_of_row _ _ i _ _ X5.out.s.b0
      obtain ⟨r0, r1⟩ := cells2 X5.out.s.b2
      have rf := fun i => frozen_of_row _ _ i _ _ X5.out.s.b2
      go_wp2_with fail
      go_region_held3 (fun W => W.cell? ⟨k, 0, none⟩ = some (.int .i64 n) ∧ W.cell? ⟨k, 1, none⟩ = some (.slice (some ⟨g, 0, none⟩) zl cg) ∧ W.cell? ⟨k, 2, none⟩ = some (.slice (some ⟨go, 0, none⟩) ko co) ∧ W.cell? ⟨k, 3, none⟩ = some (.slice (some ⟨gv, 0, none⟩) kv cv) ∧ W.cell? ⟨k, 4, none⟩ = some (.int .i64 fi) ∧ W.cell? ⟨kx, 0, none⟩ = some (.int .i64 veh) ∧ W.cell? ⟨kx, 1, none⟩ = some (.slice ao m co2)) (first | with_reducible exact kS | with_reducible exact k1 | with_reducible exact k2 | with_reducible exact k3 | with_reducible exact k4 | with_reducible exact k6 | with_reducible exact k7 | with_reducible exact k8 | with_reducible exact k9 | go_keep) ((first
        | (go_at_call 32
           with_reducible refine (below_any q p5 c 4 a bs w5.drew (R5.out.below (Below.refl _ _).drew) (by omega)).mono ?_
           rintro e w6 ⟨y6, p6, rfl, -, -, hr, hg⟩
           have T0 : Hid (XD w w6 q k kx a bs c n fi veh g zl cg go ko co gv kv cv zs O V ao m co2 L #[.int .i64 0, .slice none 0 0, .slice none 0 0, .slice none 0 0, .int .i64 0] #[.int .i64 0, .slice none 0 0]) := (X5.out.below (Below.refl _ _).drew).read hr hg
           have kS := XD.keep T0.out
           have k6 := XD.keep T0.out.setC
           have k7 := XD.keep T0.out.setR
           have k8 := XD.keep T0.out.setC.setR
           have k9 := XD.keep T0.out.setR.setC
           obtain ⟨y0, y1, y2, y3, y4⟩ := cells5z T0.out.s.b0
           have yf := fun i => frozen_of_row _ _ i _ _ T0.out.s.b0
           obtain ⟨v0, v1⟩ := cells2 T0.out.s.b2
           have vf := fun i => frozen_of_row _ _ i _ _ T0.out.s.b2
           clear hr hg)
        | (go_at_call 32
           with_reducible refine (below_any q p5 c 4 a bs (((((w5.setCell ⟨w.heap.size, 0, none⟩ (.int .i64 n)).setCell ⟨w.heap.size, 1, none⟩ (.slice (some ⟨g, 0, none⟩) zl cg)).setCell ⟨w.heap.size, 2, none⟩ (.slice (some ⟨go, 0, none⟩) ko co)).setCell ⟨w.heap.size, 3, none⟩ (.slice (some ⟨gv, 0, none⟩) kv cv)).setCell ⟨w.heap.size, 4, none⟩ (.int .i64 fi)).drew (RC.out.below (Below.refl _ _).drew) (by omega)).mono ?_
           rintro e w6 ⟨y6, p6, rfl, -, -, hr, hg⟩
           have T1 : Hid (XD w w6 q k kx a bs c n fi veh g zl cg go ko co gv kv cv zs O V ao m co2 L #[.int .i64 n, .slice (some ⟨g, 0, none⟩) zl cg, .slice (some ⟨go, 0, none⟩) ko co, .slice (some ⟨gv, 0, none⟩) kv cv, .int .i64 fi] #[.int .i64 0, .slice none 0 0]) := (X5.out.setC.below (Below.refl _ _).drew).read hr hg
           have kS := XD.keep T1.out
           have k6 := XD.keep T1.out.setR
           obtain ⟨y0, y1, y2, y3, y4⟩ := cells5z T1.out.s.b0
           have yf := fun i => frozen_of_row _ _ i _ _ T1.out.s.b0
           obtain ⟨v0, v1⟩ := cells2 T1.out.s.b2
           have vf := fun i => frozen_of_row _ _ i _ _ T1.out.s.b2
           clear hr hg)
        | (go_at_call 32
           with_reducible refine (below_any q p5 c 4 a bs ((w5.setCell ⟨w.heap.size + 1, 0, none⟩ (.int .i64 veh)).setCell ⟨w.heap.size + 1, 1, none⟩ (.slice ao m co2)).drew (RR.out.below (Below.refl _ _).drew) (by omega)).mono ?_
           rintro e w6 ⟨y6, p6, rfl, -, -, hr, hg⟩
           have T2 : Hid (XD w w6 q k kx a bs c n fi veh g zl cg go ko co gv kv cv zs O V ao m co2 L #[.int .i64 0, .slice none 0 0, .slice none 0 0, .slice none 0 0, .int .i64 0] #[.int .i64 veh, .slice ao m co2]) := (X5.out.setR.below (Below.refl _ _).drew).read hr hg
           have kS := XD.keep T2.out
           have k6 := XD.keep T2.out.setC
           obtain ⟨y0, y1, y2, y3, y4⟩ := cells5z T2.out.s.b0
           have yf := fun i => frozen_of_row _ _ i _ _ T2.out.s.b0
           obtain ⟨v0, v1⟩ := cells2 T2.out.s.b2
           have vf := fun i => frozen_of_row _ _ i _ _ T2.out.s.b2
           clear hr hg)
        | (go_at_call 32
           with_reducible refine (below_any q p5 c 4 a bs (((((((w5.setCell ⟨w.heap.size, 0, none⟩ (.int .i64 n)).setCell ⟨w.heap.size, 1, none⟩ (.slice (some ⟨g, 0, none⟩) zl cg)).setCell ⟨w.heap.size, 2, none⟩ (.slice (some ⟨go, 0, none⟩) ko co)).setCell ⟨w.heap.size, 3, none⟩ (.slice (some ⟨gv, 0, none⟩) kv cv)).setCell ⟨w.heap.size, 4, none⟩ (.int .i64 fi)).setCell ⟨w.heap.size + 1, 0, none⟩ (.int .i64 veh)).setCell ⟨w.heap.size + 1, 1, none⟩ (.slice ao m co2)).drew (RCR.out.below (Below.refl _ _).drew) (by omega)).mono ?_
           rintro e w6 ⟨y6, p6, rfl, -, -, hr, hg⟩
           have T3 : Hid (XD w w6 q k kx a bs c n fi veh g zl cg go ko co gv kv cv zs O V ao m co2 L #[.int .i64 n, .slice (some ⟨g, 0, none⟩) zl cg, .slice (some ⟨go, 0, none⟩) ko co, .slice (some ⟨gv, 0, none⟩) kv cv, .int .i64 fi] #[.int .i64 veh, .slice ao m co2]) := (X5.out.setC.setR.below (Below.refl _ _).drew).read hr hg
           have kS := XD.keep T3.out
           obtain ⟨y0, y1, y2, y3, y4⟩ := cells5z T3.out.s.b0
           have yf := fun i => frozen_of_row _ _ i _ _ T3.out.s.b0
           obtain ⟨v0, v1⟩ := cells2 T3.out.s.b2
           have vf := fun i => frozen_of_row _ _ i _ _ T3.out.s.b2
           clear hr hg)
        | (go_at_call 32
           with_reducible refine (below_any q p5 c 4 a bs (((((((w5.setCell ⟨w.heap.size + 1, 0, none⟩ (.int .i64 veh)).setCell ⟨w.heap.size + 1, 1, none⟩ (.slice ao m co2)).setCell ⟨w.heap.size, 0, none⟩ (.int .i64 n)).setCell ⟨w.heap.size, 1, none⟩ (.slice (some ⟨g, 0, none⟩) zl cg)).setCell ⟨w.heap.size, 2, none⟩ (.slice (some ⟨go, 0, none⟩) ko co)).setCell ⟨w.heap.size, 3, none⟩ (.slice (some ⟨gv, 0, none⟩) kv cv)).setCell ⟨w.heap.size, 4, none⟩ (.int .i64 fi)).drew (RRC.out.below (Below.refl _ _).drew) (by omega)).mono ?_
           rintro e w6 ⟨y6, p6, rfl, -, -, hr, hg⟩
           have T3 : Hid (XD w w6 q k kx a bs c n fi veh g zl cg go ko co gv kv cv zs O V ao m co2 L #[.int .i64 n, .slice (some ⟨g, 0, none⟩) zl cg, .slice (some ⟨go, 0, none⟩) ko co, .slice (some ⟨gv, 0, none⟩) kv cv, .int .i64 fi] #[.int .i64 veh, .slice ao m co2]) := (X5.out.setR.setC.below (Below.refl _ _).drew).read hr hg
           have kS := XD.keep T3.out
           obtain ⟨y0, y1, y2, y3, y4⟩ := cells5z T3.out.s.b0
           have yf := fun i => frozen_of_row _ _ i _ _ T3.out.s.b0
           obtain ⟨v0, v1⟩ := cells2 T3.out.s.b2
           have vf := fun i => frozen_of_row _ _ i _ _ T3.out.s.b2
           clear hr hg)))
      all_goals
        go_wp2
        first
          | exact XD.done T0.out.setC.setR HLS.out _ _ _ (by rfl) (by rfl) (by rfl) (by rfl) (by rfl)
          | exact XD.done T0.out.setR.setC HLS.out _ _ _ (by rfl) (by rfl) (by rfl) (by rfl) (by rfl)
          | exact XD.done T1.out.setR HLS.out _ _ _ (by rfl) (by rfl) (by rfl) (by rfl) (by rfl)
          | exact XD.done T2.out.setC HLS.out _ _ _ (by rfl) (by rfl) (by rfl) (by rfl) (by rfl)
          | exact XD.done T3.out HLS.out _ _ _ (by rfl) (by rfl) (by rfl) (by rfl) (by rfl)

end Go.Proofs.Ythljonnhkleglaa
