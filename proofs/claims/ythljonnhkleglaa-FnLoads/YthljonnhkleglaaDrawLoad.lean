import Derived.Test.YthljonnhkleglaaPack7
import Derived.Test.YthljonnhkleglaaDrawCase
namespace Go.Proofs.Ythljonnhkleglaa
open Go.RowKit

/-- Inside the draw of a case and a list: the result's cells, the reader, the case in its box, its rows, the list. -/
structure LD (w w4 W : World) (q k : Nat) (a : Option Addr) (bs : List Int) (c : Nat) (cs : Array Value) (g go gv : Nat) (zs O V : List Int) (ov : Value) (L : List Int) : Prop where
  cl : CL w4 W q a bs c ov L
  b : Below w.heap.size w W
  h : w.heap.size < q ∧ (k < w4.heap.size ∧ k ≠ q ∧ w.heap.size < k) ∧ (g < w4.heap.size ∧ g ≠ q ∧ w.heap.size < g) ∧ (go < w4.heap.size ∧ go ≠ q ∧ w.heap.size < go) ∧ (gv < w4.heap.size ∧ gv ≠ q ∧ w.heap.size < gv)
  b0 : W.heap[w.heap.size]? = some (.cells #[.int .i64 0, .slice none 0 0, .slice none 0 0, .slice none 0 0, .int .i64 0] 30 (0, 0))
  b1 : W.heap[k]? = some (.cells cs 30 (0, 0))
  iz : IntsAt W (some ⟨g, 0, none⟩) zs
  io : IntsAt W (some ⟨go, 0, none⟩) O
  iv : IntsAt W (some ⟨gv, 0, none⟩) V
section
variable {w w4 W W' w5 : World} {q k : Nat} {a : Option Addr} {bs : List Int} {c g go gv : Nat} {cs : Array Value} {zs O V : List Int} {ov ov' : Value} {L : List Int}
theorem LD.read {p : Nat} (h : LD w w4 W q k a bs c cs g go gv zs O V ov L) (hr : RD W' q a bs c p) (hg : W.grownBy W' (some q)) : LD w w4 W' q k a bs c cs g go gv zs O V ov L := by
  obtain ⟨h1, ⟨h2, h3, h4⟩, ⟨h5, h6, h7⟩, ⟨h8, h9, h10⟩, ⟨h11, h12, h13⟩⟩ := h.h
  exact ⟨h.cl.read hr hg, grown_below h.b (by omega) hg, h.h, grown_row hg h.b0 (fun e => by injection e with e; omega), grown_row hg h.b1 (fun e => by injection e with e; omega), ints_other h.iz hg h6, ints_other h.io hg h9, ints_other h.iv hg h12⟩
theorem LD.put {x : Int} {o : Obj} (h : LD w w4 W q k a bs c cs g go gv zs O V ov L) (hown : w5.ownsRow w4.heap.size 2 1 ov' (L.length + 1) ((L ++ [x]).map (Value.int .i64))) (hg : (W.alloc o).grownBy w5 ov.ownBlock) (hn : ov' = .slice none 0 0 ↔ ov = .slice none 0 0 ∧ 1 = 0) : LD w w4 w5 q k a bs c cs g go gv zs O V ov' (L ++ [x]) := by
  obtain ⟨h1, ⟨h2, h3, h4⟩, ⟨h5, h6, h7⟩, ⟨h8, h9, h10⟩, ⟨h11, h12, h13⟩⟩ := h.h
  have hlt : ∀ r, ov.ownBlock = some r → w4.heap.size ≤ r := fun r e => (h.cl.o.lt r e).1
  have ha : Below W.heap.size W (W.alloc o) := (Below.refl _ _).alloc (Nat.le_refl _) _
  have hb : Below w.heap.size w (W.alloc o) := h.b.alloc h.b.size _
  exact ⟨h.cl.put hown hg hn, hb.grown hg hb.size (fun r e => by have := hlt r e; omega), h.h, grown_row hg (below_row ha (row_lt h.b0) h.b0) (fun e => by have := hlt _ e.symm; omega), grown_row hg (below_row ha (row_lt h.b1) h.b1) (fun e => by have := hlt _ e.symm; omega), ints_row (h.iz.below ha) hg (fun e => by have := hlt _ e.symm; omega), ints_row (h.io.below ha) hg (fun e => by have := hlt _ e.symm; omega), ints_row (h.iv.below ha) hg (fun e => by have := hlt _ e.symm; omega)⟩
end

theorem io_lt {W : World} {g : Nat} {xs : List Int} (h : IntsAt W (some ⟨g, 0, none⟩) xs) (h0 : 0 < xs.length) : g < W.heap.size := by
  obtain ⟨b, off, e, hc⟩ := h 0 h0
  simp at e
  obtain ⟨rfl, rfl⟩ := e
  exact block_lt_of_cell hc
/-- A drawn case and a list of numbers, told to their caller. -/
def LoadTold (w : World) (e : Ending) (w' : World) : Prop := ∃ (n : Int) (g zl cg go ko co gv kv cv g2 c2 : Nat) (zs O V L : List Int) (fi : Int),
  e = .returned (.tuple #[.agg #[.int .i64 n, .slice (some ⟨g, 0, none⟩) zl cg, .slice (some ⟨go, 0, none⟩) ko co, .slice (some ⟨gv, 0, none⟩) kv cv, .int .i64 fi], .slice (some ⟨g2, 0, none⟩) L.length c2]) ∧ (zs.length = zl ∧ O.length = ko * 6 ∧ V.length = kv * 5 ∧ 1 ≤ ko ∧ ko ≤ 5 ∧ 1 ≤ kv ∧ kv ≤ 3) ∧ (L.length ≤ 8 ∧ L.length ≤ c2) ∧
  Below w.heap.size w w' ∧ IntsAt w' (some ⟨g, 0, none⟩) zs ∧ IntsAt w' (some ⟨go, 0, none⟩) O ∧ IntsAt w' (some ⟨gv, 0, none⟩) V ∧ IntsAt w' (some ⟨g2, 0, none⟩) L

set_option maxRecDepth 10000 in
set_option maxHeartbeats 4000000 in
theorem drawLoad_any (a : Option Addr) (c : Nat) (bs : List Int) (w : World) (h : CodeAt w a bs) (hl : bs.length ≤ 1048576) :
    Calls Try.prog 8 #[.slice a bs.length c] w (LoadTold w) := by
  have H : Hid (CodeAt w a bs) := h
  clear h
  have BA : Hid (Below w.heap.size w (w.alloc (.cells #[.int .i64 0, .slice none 0 0, .slice none 0 0, .slice none 0 0, .int .i64 0] 30))) := (Below.refl _ _).alloc (Nat.le_refl _) _
  have GA : Hid ((w.alloc (.cells #[.int .i64 0, .slice none 0 0, .slice none 0 0, .slice none 0 0, .int .i64 0] 30)).heap[w.heap.size]? = some (.cells #[.int .i64 0, .slice none 0 0, .slice none 0 0, .slice none 0 0, .int .i64 0] 30 (0, 0))) := heap_alloc_new _ _
  have CA : Hid (CodeAt (w.alloc (.cells #[.int .i64 0, .slice none 0 0, .slice none 0 0, .slice none 0 0, .int .i64 0] 30)) a bs) := by
    intro j hj
    obtain ⟨b, off, e, hc, hv⟩ := H.out j hj
    exact ⟨b, off, e, (BA.out.cell (p := ⟨b, off + j, none⟩) (block_lt_of_cell hc)).trans hc, hv⟩
  go_enter Try.func8, Try.ntmps8
  go_wp2_with fail
  generalize w.alloc (.cells #[.int .i64 0, .slice none 0 0, .slice none 0 0, .slice none 0 0, .int .i64 0] 30) = W0 at *
  refine (l1Open_any a c bs W0 CA.out hl).mono ?_
  rintro e w1 ⟨rfl, hb, hr⟩
  obtain ⟨q, HQ⟩ : ∃ q, Hid (W0.heap.size = q) := ⟨_, rfl⟩
  have hw0 : w.heap.size < W0.heap.size := row_lt GA.out
  have HQL : Hid (w.heap.size < q) := by show _ < _; rw [← HQ.out]; exact hw0
  have B1 : Hid (Below w.heap.size w w1) := BA.out.trans (hb.mono BA.out.size)
  have G1 : Hid (w1.heap[w.heap.size]? = some (.cells #[.int .i64 0, .slice none 0 0, .slice none 0 0, .slice none 0 0, .int .i64 0] 30 (0, 0))) := below_row hb (row_lt GA.out) GA.out
  have R1 : Hid (RD w1 q a bs c 0) := by have := hr; rw [HQ.out] at this; exact this
  clear hb hr hw0
  rw [HQ.out]
  go_wp2_with fail
  refine (case1_any q 0 c 5 a bs w1 R1.out (by omega) (by omega)).mono ?_
  rintro e w3 ⟨n, g, zl, cg, go, ko, co, gv, kv, cv, zs, O, V, fi, rfl, hls, hg, ⟨p3, hr⟩, iz, io, iv, hgs⟩
  have HLS : Hid (zs.length = zl ∧ O.length = ko * 6 ∧ V.length = kv * 5 ∧ 1 ≤ ko ∧ ko ≤ 5 ∧ 1 ≤ kv ∧ kv ≤ 3) := hls
  have hko : ko ≤ 5 := hls.2.2.2.2.1
  have LD0 : Hid (LD w (w3.alloc (.cells #[.int .i64 n, .slice (some ⟨g, 0, none⟩) zl cg, .slice (some ⟨go, 0, none⟩) ko co, .slice (some ⟨gv, 0, none⟩) kv cv, .int .i64 fi] 30)) ((w3.alloc (.cells #[.int .i64 n, .slice (some ⟨g, 0, none⟩) zl cg, .slice (some ⟨go, 0, none⟩) ko co, .slice (some ⟨gv, 0, none⟩) kv cv, .int .i64 fi] 30)).alloc (.cells #[] 2)) q w3.heap.size a bs c #[.int .i64 n, .slice (some ⟨g, 0, none⟩) zl cg, .slice (some ⟨go, 0, none⟩) ko co, .slice (some ⟨gv, 0, none⟩) kv cv, .int .i64 fi] g go gv zs O V (.slice (some ⟨w3.heap.size + 1, 0, none⟩) 0 0) []) := by
    have hA : Below w3.heap.size w3 (w3.alloc (.cells #[.int .i64 n, .slice (some ⟨g, 0, none⟩) zl cg, .slice (some ⟨go, 0, none⟩) ko co, .slice (some ⟨gv, 0, none⟩) kv cv, .int .i64 fi] 30)) := (Below.refl _ _).alloc (Nat.le_refl _) _
    have hB : Below (w3.alloc (.cells #[.int .i64 n, .slice (some ⟨g, 0, none⟩) zl cg, .slice (some ⟨go, 0, none⟩) ko co, .slice (some ⟨gv, 0, none⟩) kv cv, .int .i64 fi] 30)).heap.size (w3.alloc (.cells #[.int .i64 n, .slice (some ⟨g, 0, none⟩) zl cg, .slice (some ⟨go, 0, none⟩) ko co, .slice (some ⟨gv, 0, none⟩) kv cv, .int .i64 fi] 30)) ((w3.alloc (.cells #[.int .i64 n, .slice (some ⟨g, 0, none⟩) zl cg, .slice (some ⟨go, 0, none⟩) ko co, .slice (some ⟨gv, 0, none⟩) kv cv, .int .i64 fi] 30)).alloc (.cells #[] 2)) := (Below.refl _ _).alloc (Nat.le_refl _) _
    have b3 : Below w.heap.size w w3 := grown_below B1.out (by have := HQL.out; omega) hg
    have g3 : w3.heap[w.heap.size]? = some (.cells #[.int .i64 0, .slice none 0 0, .slice none 0 0, .slice none 0 0, .int .i64 0] 30 (0, 0)) := grown_row hg G1.out (fun e => by injection e with e; have := HQL.out; omega)
    have hq3 : q < w3.heap.size := row_lt hr.1
    have hq1 : q < w1.heap.size := row_lt R1.out.1
    have hwq := HQL.out
    have lz := io_lt iz hgs.2.2.2
    obtain ⟨hs1, hs2, hs3, -⟩ := hgs
    have lo := io_lt io (by have := hls.2.1; omega)
    have lv := io_lt iv (by have := hls.2.2.1; omega)
    have hnew := CL.new (hr.below hA)
    have e1 : (w3.alloc (.cells #[.int .i64 n, .slice (some ⟨g, 0, none⟩) zl cg, .slice (some ⟨go, 0, none⟩) ko co, .slice (some ⟨gv, 0, none⟩) kv cv, .int .i64 fi] 30)).heap.size = w3.heap.size + 1 := by simp
    rw [e1] at hnew
    have hAB := hA.trans (hB.mono (by rw [e1]; omega))
    exact ⟨hnew, (b3.alloc b3.size _).alloc (by simp; have := b3.size; omega) _, ⟨hwq, ⟨by rw [e1]; omega, by omega, by omega⟩, ⟨by rw [e1]; omega, by omega, by omega⟩, ⟨by rw [e1]; omega, by omega, by omega⟩, ⟨by rw [e1]; omega, by omega, by omega⟩⟩, below_row hB (by rw [e1]; omega) (below_row hA (row_lt g3) g3), below_row hB (by rw [e1]; omega) (heap_alloc_new _ _), iz.below hAB, io.below hAB, iv.below hAB⟩
  clear hr hg iz io iv hgs hls B1 G1 R1
  go_wp2_with fail
  obtain ⟨k, HKk⟩ : ∃ v, Hid (w3.heap.size = v) := ⟨_, rfl⟩
  rw [HKk.out] at LD0 ⊢
  generalize w3.alloc (.cells #[.int .i64 n, .slice (some ⟨g, 0, none⟩) zl cg, .slice (some ⟨go, 0, none⟩) ko co, .slice (some ⟨gv, 0, none⟩) kv cv, .int .i64 fi] 30) = W4 at *
  generalize W4.alloc (.cells #[] 2) = W5 at *
  obtain ⟨p5, hr5⟩ := LD0.out.cl.r
  refine (below_any q p5 c 5 a bs W5 hr5 (by omega)).mono ?_
  rintro e w6 ⟨y, p6, rfl, hy0, hy1, hr, hg⟩
  have D1 : Hid (LD w W4 w6 q k a bs c #[.int .i64 n, .slice (some ⟨g, 0, none⟩) zl cg, .slice (some ⟨go, 0, none⟩) ko co, .slice (some ⟨gv, 0, none⟩) kv cv, .int .i64 fi] g go gv zs O V (.slice (some ⟨k + 1, 0, none⟩) 0 0) []) := LD0.out.read hr hg
  obtain ⟨y, rfl⟩ := Int.eq_ofNat_of_zero_le hy0
  have hy : y ≤ 4 := by omega
  clear hr hg LD0 hr5 hy0 hy1 BA GA CA
  have KEY : Hid (∀ (W : World) (L : List Int) (g2 c2 m : Nat), L.length = m → m ≤ 8 → LD w W4 W q k a bs c #[.int .i64 n, .slice (some ⟨g, 0, none⟩) zl cg, .slice (some ⟨go, 0, none⟩) ko co, .slice (some ⟨gv, 0, none⟩) kv cv, .int .i64 fi] g go gv zs O V (.slice (some ⟨g2, 0, none⟩) m c2) L → ∀ A : Act, A.tmps.getD 2 undef = .pointer (some ⟨w.heap.size, 0, none⟩) → A.tmps.getD 3 undef = .slice (some ⟨g2, 0, none⟩) m c2 → A.defers = [] → bodyPost Try.prog Try.f8 (LoadTold w) Exit.ret A (((((W.setCell ⟨w.heap.size, 0, none⟩ (.int .i64 n)).setCell ⟨w.heap.size, 1, none⟩ (.slice (some ⟨g, 0, none⟩) zl cg)).setCell ⟨w.heap.size, 2, none⟩ (.slice (some ⟨go, 0, none⟩) ko co)).setCell ⟨w.heap.size, 3, none⟩ (.slice (some ⟨gv, 0, none⟩) kv cv)).setCell ⟨w.heap.size, 4, none⟩ (.int .i64 fi))) := by
    intro W L g2 c2 m hL hm hP A h2 h3 hds
    obtain ⟨h1, ⟨h2', h3', h4⟩, ⟨h5, h6, h7⟩, ⟨h8, h9, h10⟩, ⟨h11, h12, h13⟩⟩ := hP.h
    have hrow : (((((W.setCell ⟨w.heap.size, 0, none⟩ (.int .i64 n)).setCell ⟨w.heap.size, 1, none⟩ (.slice (some ⟨g, 0, none⟩) zl cg)).setCell ⟨w.heap.size, 2, none⟩ (.slice (some ⟨go, 0, none⟩) ko co)).setCell ⟨w.heap.size, 3, none⟩ (.slice (some ⟨gv, 0, none⟩) kv cv)).setCell ⟨w.heap.size, 4, none⟩ (.int .i64 fi)).heap[w.heap.size]? = some (.cells #[.int .i64 n, .slice (some ⟨g, 0, none⟩) zl cg, .slice (some ⟨go, 0, none⟩) ko co, .slice (some ⟨gv, 0, none⟩) kv cv, .int .i64 fi] 30 (0, 0)) := by
      have := row_put (i := 4) (.int .i64 fi) (row_put (i := 3) (.slice (some ⟨gv, 0, none⟩) kv cv) (row_put (i := 2) (.slice (some ⟨go, 0, none⟩) ko co) (row_put (i := 1) (.slice (some ⟨g, 0, none⟩) zl cg) (row_put (i := 0) (.int .i64 n) hP.b0))))
      simpa using this
    have hs : W.grownBy (((((W.setCell ⟨w.heap.size, 0, none⟩ (.int .i64 n)).setCell ⟨w.heap.size, 1, none⟩ (.slice (some ⟨g, 0, none⟩) zl cg)).setCell ⟨w.heap.size, 2, none⟩ (.slice (some ⟨go, 0, none⟩) ko co)).setCell ⟨w.heap.size, 3, none⟩ (.slice (some ⟨gv, 0, none⟩) kv cv)).setCell ⟨w.heap.size, 4, none⟩ (.int .i64 fi)) (some w.heap.size) :=
      grown_trans (grown_trans (grown_trans (grown_trans (grown_set _ _ _ _) (grown_set _ _ _ _)) (grown_set _ _ _ _)) (grown_set _ _ _ _)) (grown_set _ _ _ _)
    have ho := hP.cl.o
    have hgo : W4.heap.size ≤ g2 := (ho.lt g2 rfl).1
    have io : IntsAt W (some ⟨g2, 0, none⟩) L := by rw [hL] at ho; exact owns_ints ho
    have hcap : m ≤ c2 := by rw [hL] at ho; exact own_cap ho
    refine bodyPost_ret (v := .tuple #[.agg #[.int .i64 n, .slice (some ⟨g, 0, none⟩) zl cg, .slice (some ⟨go, 0, none⟩) ko co, .slice (some ⟨gv, 0, none⟩) kv cv, .int .i64 fi], .slice (some ⟨g2, 0, none⟩) m c2]) ?_ hds ⟨n, g, zl, cg, go, ko, co, gv, kv, cv, g2, c2, zs, O, V, L, fi, by rw [hL], HLS.out, ⟨by omega, by omega⟩, grown_below hP.b (Nat.le_refl _) hs, ints_row hP.iz hs (fun e => by injection e with e; omega), ints_row hP.io hs (fun e => by injection e with e; omega), ints_row hP.iv hs (fun e => by injection e with e; omega), ints_row io hs (fun e => by injection e with e; omega)⟩
    rw [results_cell_tmp Try.results8, h2, h3]
    simp only [asAddr, Sem.run_pure, Result.andThen_ok, run_loadVar_row _ w.heap.size 30 30 #[.int .i64 n, .slice (some ⟨g, 0, none⟩) zl cg, .slice (some ⟨go, 0, none⟩) ko co, .slice (some ⟨gv, 0, none⟩) kv cv, .int .i64 fi] (0, 0) _ hrow Try.underlying30 rfl sizeCase5]
  go_wp2_with fail
  go_loopw [6, 7] (fun ov t wr => ∃ (i : Nat) (L : List Int), L.length + i ≤ 4 ∧ t = .int .i64 i ∧ LD w W4 wr q k a bs c #[.int .i64 n, .slice (some ⟨g, 0, none⟩) zl cg, .slice (some ⟨go, 0, none⟩) ko co, .slice (some ⟨gv, 0, none⟩) kv cv, .int .i64 fi] g go gv zs O V ov L) (fun _ t _ => (intOf t).toNat)
  case atStart => exact ⟨y, [], by simpa using hy, rfl, D1.out⟩
  case round =>
    clear D1
    obtain ⟨i, L, hL, rfl, hd⟩ := hrel
    have D2 : Hid (LD w W4 wr q k a bs c #[.int .i64 n, .slice (some ⟨g, 0, none⟩) zl cg, .slice (some ⟨go, 0, none⟩) ko co, .slice (some ⟨gv, 0, none⟩) kv cv, .int .i64 fi] g go gv zs O V u6 L) := hd
    obtain ⟨g2, c2, rfl⟩ := hd.cl.so
    obtain ⟨p2, hr2⟩ := hd.cl.r
    have R2 : Hid (RD wr q a bs c p2) := hr2
    obtain ⟨c0, c1, c2', c3, c4⟩ := cells5z hd.b1
    clear hd hr2
    obtain ⟨m, HM⟩ : ∃ m, Hid (L.length = m) := ⟨_, rfl⟩
    rw [HM.out] at hL D2 ⊢
    by_cases hi : 0 < i
    · go_wp2_with (first
        | (go_at_call 32
           refine (below_any q p2 c ko a bs wr R2.out (by omega)).mono ?_
           rintro e w3 ⟨y3, p3, rfl, hy0, hy1, hr, hg⟩
           obtain ⟨y4, HY4⟩ : ∃ x, IntKind.i64.wrap (1 + y3) = x := ⟨_, rfl⟩
           have HY4' : wrap64 (1 + y3) = y4 := by rw [← HY4, IntKind.wrap_i64]; unfold wrap64; rfl
           have D3 : Hid (LD w W4 w3 q k a bs c #[.int .i64 n, .slice (some ⟨g, 0, none⟩) zl cg, .slice (some ⟨go, 0, none⟩) ko co, .slice (some ⟨gv, 0, none⟩) kv cv, .int .i64 fi] g go gv zs O V (.slice (some ⟨g2, 0, none⟩) m c2) L) := D2.out.read hr hg
           clear hr hg)
        | (at_builtin
           refine append_many _ rfl (.tmp 19) (.tmp 26) rfl W4.heap.size _ m L rfl (by have := D3.out.cl.o; rw [HM.out] at this; exact this.alloc _) w3.heap.size 0 1 1 [y4] rfl rfl (ints_new1 w3 y4) (by omega) (by omega) (Nat.le_trans D3.out.cl.g.size (by simp)) ?_
           intro v' w4 hown hg hbk hnl
           have D4 : Hid (LD w W4 w4 q k a bs c #[.int .i64 n, .slice (some ⟨g, 0, none⟩) zl cg, .slice (some ⟨go, 0, none⟩) ko co, .slice (some ⟨gv, 0, none⟩) kv cv, .int .i64 fi] g go gv zs O V v' (L ++ [y4])) := D3.out.put (by rw [HM.out]; exact hown) hg hnl
           clear hown hg hbk hnl))
      go_roundw
      case rel => exact ⟨i - 1, L ++ [y4], by rw [List.length_append, HM.out]; simp; omega, by first | rfl | go_num, D4.out⟩
      case measure => simp [intOf]; omega
    · have hi0 : i = 0 := by omega
      subst hi0
      go_wp2_with fail
      refine (once_any q p2 c 12 a bs wr R2.out (by omega) (by omega)).mono ?_
      rintro e w3 ⟨v, p3, rfl, hr, hg⟩
      have D3 : Hid (LD w W4 w3 q k a bs c #[.int .i64 n, .slice (some ⟨g, 0, none⟩) zl cg, .slice (some ⟨go, 0, none⟩) ko co, .slice (some ⟨gv, 0, none⟩) kv cv, .int .i64 fi] g go gv zs O V (.slice (some ⟨g2, 0, none⟩) m c2) L) := D2.out.read hr hg
      have R3 : Hid (RD w3 q a bs c p3) := hr
      clear hr hg D2 R2 c0 c1 c2' c3 c4
      obtain ⟨c0, c1, c2', c3, c4⟩ := cells5z D3.out.b1
      cases v
      · obtain ⟨d0, d1, d2, d3, d4⟩ := cells5z D3.out.b0
        have f0 := fun k => frozen_of_row _ _ k _ _ D3.out.b0
        go_wp2
        exact KEY.out w3 L g2 c2 m HM.out (by omega) D3.out _ (by rfl) (by rfl) (by rfl)
      · go_wp2_with (first
          | (go_at_call 34
             refine (off_any q p3 c 1 5 a bs w3 R3.out (by omega) (by omega) (by omega) (by omega)).mono ?_
             rintro e w4 ⟨y4, p4, rfl, hy0, hy1, hr, hg⟩
             have D4 : Hid (LD w W4 w4 q k a bs c #[.int .i64 n, .slice (some ⟨g, 0, none⟩) zl cg, .slice (some ⟨go, 0, none⟩) ko co, .slice (some ⟨gv, 0, none⟩) kv cv, .int .i64 fi] g go gv zs O V (.slice (some ⟨g2, 0, none⟩) m c2) L) := D3.out.read hr hg
             clear hr hg)
          | (at_builtin
             refine append_many _ rfl (.tmp 30) (.tmp 33) rfl W4.heap.size _ m L rfl (by have := D4.out.cl.o; rw [HM.out] at this; exact this.alloc _) w4.heap.size 0 1 1 [y4] rfl rfl (ints_new1 w4 y4) (by omega) (by omega) (Nat.le_trans D4.out.cl.g.size (by simp)) ?_
             intro v' w5 hown hg hbk hnl
             have hD5 : LD w W4 w5 q k a bs c #[.int .i64 n, .slice (some ⟨g, 0, none⟩) zl cg, .slice (some ⟨go, 0, none⟩) ko co, .slice (some ⟨gv, 0, none⟩) kv cv, .int .i64 fi] g go gv zs O V v' (L ++ [y4]) := D4.out.put (by rw [HM.out]; exact hown) hg hnl
             have hl5 : (L ++ [y4]).length = m + 1 := by rw [List.length_append, HM.out]; rfl
             obtain ⟨g5, c5, hv5⟩ := hD5.cl.so
             rw [hl5] at hv5
             subst hv5
             have HL5 : Hid ((L ++ [y4]).length = m + 1) := hl5
             have D5 : Hid (LD w W4 w5 q k a bs c #[.int .i64 n, .slice (some ⟨g, 0, none⟩) zl cg, .slice (some ⟨go, 0, none⟩) ko co, .slice (some ⟨gv, 0, none⟩) kv cv, .int .i64 fi] g go gv zs O V (.slice (some ⟨g5, 0, none⟩) (m + 1) c5) (L ++ [y4])) := hD5
             obtain ⟨k0, k1, k2, k3, k4⟩ := cells5z hD5.b1
             obtain ⟨d0, d1, d2, d3, d4⟩ := cells5z hD5.b0
             have f0 := fun k => frozen_of_row _ _ k _ _ hD5.b0
             clear hown hg hbk hnl hD5 hl5))
        exact KEY.out w5 (L ++ [y4]) g5 c5 (m + 1) HL5.out (by omega) D5.out _ (by rfl) (by rfl) (by rfl)

end Go.Proofs.Ythljonnhkleglaa
