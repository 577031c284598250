import Derived.Test.YtchdcifhccjheaaDrawMatrix
namespace Go.Proofs.Ytchdcifhccjheaa
open Go.RowKit

theorem ints_other {W W' : World} {g q : Nat} {xs : List Int} (h : IntsAt W (some ⟨g, 0, none⟩) xs) (hg : W.grownBy W' (some q)) (hne : g ≠ q) : IntsAt W' (some ⟨g, 0, none⟩) xs := by
  intro j hj
  obtain ⟨b, off, e, hc⟩ := h j hj
  simp at e
  obtain ⟨rfl, rfl⟩ := e
  exact ⟨g, 0, rfl, hg.cell hc (fun e => by injection e with e; exact hne e)⟩

end Go.Proofs.Ytchdcifhccjheaa

namespace Go.Proofs.Ytchdcifhccjheaa
open Go.RowKit

/-- A drawn matrix and a path, told to their caller. -/
def PathTold (w : World) (e : Ending) (w' : World) : Prop := ∃ (n g cg g2 c2 : Nat) (zs ps : List Int), e = .returned (.tuple #[.agg #[.int .i64 n, .slice (some ⟨g, 0, none⟩) zs.length cg], .slice (some ⟨g2, 0, none⟩) ps.length c2]) ∧ n ≤ 9 ∧ zs.length = n * n ∧ ps.length ≤ 8 ∧ ps.length ≤ c2 ∧ Below w.heap.size w w' ∧ IntsAt w' (some ⟨g, 0, none⟩) zs ∧ IntsAt w' (some ⟨g2, 0, none⟩) ps

/-- Inside the draw of a path: the result's cells, the reader, the matrix' box and times, the path. -/
structure PD (w w4 W : World) (q k : Nat) (a : Option Addr) (bs : List Int) (c n g zl cg : Nat) (zs : List Int) (ov : Value) (O : List Int) : Prop where
  cl : CL w4 W q a bs c ov O
  b : Below w.heap.size w W
  h : w.heap.size < q ∧ k < w4.heap.size ∧ g < w4.heap.size ∧ k ≠ q ∧ g ≠ q ∧ w.heap.size ≠ g ∧ w.heap.size < k
  b0 : W.heap[w.heap.size]? = some (.cells #[.int .i64 0, .slice none 0 0] 26 (0, 0))
  b1 : W.heap[k]? = some (.cells #[.int .i64 n, .slice (some ⟨g, 0, none⟩) zl cg] 26 (0, 0))
  i : IntsAt W (some ⟨g, 0, none⟩) zs
theorem PD.read {w w4 W W' : World} {q k : Nat} {a : Option Addr} {bs : List Int} {c n g zl cg p : Nat} {zs : List Int} {ov : Value} {O : List Int} (h : PD w w4 W q k a bs c n g zl cg zs ov O) (hr : RD W' q a bs c p) (hg : W.grownBy W' (some q)) : PD w w4 W' q k a bs c n g zl cg zs ov O := by
  obtain ⟨h1, h2, h3, h4, h5, h6, h7⟩ := h.h
  exact ⟨h.cl.read hr hg, grown_below h.b (by omega) hg, h.h, grown_row hg h.b0 (fun e => by injection e with e; omega), grown_row hg h.b1 (fun e => by injection e with e; omega), ints_other h.i hg h5⟩
theorem PD.put {w w4 W w5 : World} {q k : Nat} {a : Option Addr} {bs : List Int} {c n g zl cg : Nat} {zs : List Int} {ov ov' : Value} {O : List Int} {x : Int} {o : Obj} (h : PD w w4 W q k a bs c n g zl cg zs ov O) (hown : w5.ownsRow w4.heap.size 2 1 ov' (O.length + 1) ((O ++ [x]).map (Value.int .i64))) (hg : (W.alloc o).grownBy w5 ov.ownBlock) (hn : ov' = .slice none 0 0 ↔ ov = .slice none 0 0 ∧ 1 = 0) : PD w w4 w5 q k a bs c n g zl cg zs ov' (O ++ [x]) := by
  obtain ⟨h1, h2, h3, h4, h5, h6, h7⟩ := h.h
  have hlt : ∀ r, ov.ownBlock = some r → w4.heap.size ≤ r := fun r e => (h.cl.o.lt r e).1
  have ha : Below W.heap.size W (W.alloc o) := (Below.refl _ _).alloc (Nat.le_refl _) _
  have hb : Below w.heap.size w (W.alloc o) := h.b.alloc h.b.size _
  refine ⟨h.cl.put hown hg hn, hb.grown hg hb.size (fun r e => by have := hlt r e; omega), h.h, grown_row hg (below_row ha (row_lt h.b0) h.b0) (fun e => by have := hlt _ e.symm; omega), grown_row hg (below_row ha (row_lt h.b1) h.b1) (fun e => by have := hlt _ e.symm; omega), ?_⟩
  intro j hj
  obtain ⟨b, off, e, hc⟩ := (h.i.below ha) j hj
  simp at e
  obtain ⟨rfl, rfl⟩ := e
  exact ⟨g, 0, rfl, hg.cell hc (fun e => by have h9 : w4.heap.size ≤ g := hlt g e.symm; omega)⟩

set_option maxRecDepth 10000 in
set_option maxHeartbeats 4000000 in
theorem drawPath_any (a : Option Addr) (c : Nat) (bs : List Int) (w : World) (h : CodeAt w a bs) (hl : bs.length ≤ 1048576) :
    Calls Try.prog 6 #[.slice a bs.length c] w (PathTold w) := by
  have H : Hid (CodeAt w a bs) := h
  clear h
  have BA : Hid (Below w.heap.size w (w.alloc (.cells #[.int .i64 0, .slice none 0 0] 26))) := (Below.refl _ _).alloc (Nat.le_refl _) _
  have GA : Hid ((w.alloc (.cells #[.int .i64 0, .slice none 0 0] 26)).heap[w.heap.size]? = some (.cells #[.int .i64 0, .slice none 0 0] 26 (0, 0))) := heap_alloc_new _ _
  have CA : Hid (CodeAt (w.alloc (.cells #[.int .i64 0, .slice none 0 0] 26)) a bs) := by
    intro j hj
    obtain ⟨b, off, e, hc, hv⟩ := H.out j hj
    exact ⟨b, off, e, (BA.out.cell (p := ⟨b, off + j, none⟩) (block_lt_of_cell hc)).trans hc, hv⟩
  go_enter Try.func6, Try.ntmps6
  go_wp2_with fail
  generalize w.alloc (.cells #[.int .i64 0, .slice none 0 0] 26) = W0 at *
  refine (l1Open_any a c bs W0 CA.out hl).mono ?_
  rintro e w1 ⟨rfl, hb, hr⟩
  obtain ⟨q, HQ⟩ : ∃ q, Hid (W0.heap.size = q) := ⟨_, rfl⟩
  have hw0 : w.heap.size < W0.heap.size := row_lt GA.out
  have HQL : Hid (w.heap.size < q) := by show _ < _; rw [← HQ.out]; exact hw0
  have B1 : Hid (Below w.heap.size w w1) := BA.out.trans (hb.mono BA.out.size)
  have G1 : Hid (w1.heap[w.heap.size]? = some (.cells #[.int .i64 0, .slice none 0 0] 26 (0, 0))) := below_row hb (row_lt GA.out) GA.out
  have R1 : Hid (RD w1 q a bs c 0) := by have := hr; rw [HQ.out] at this; exact this
  clear hb hr hw0
  rw [HQ.out]
  go_wp2_with fail
  refine (below_any q 0 c 4 a bs w1 R1.out (by omega)).mono ?_
  rintro e w2 ⟨x, p2, rfl, hx0, hx1, hr, hg⟩
  obtain ⟨x, rfl⟩ := Int.eq_ofNat_of_zero_le hx0
  obtain ⟨n, HN⟩ : ∃ n, Hid (x + 2 = n) := ⟨_, rfl⟩
  have hn1 : 1 ≤ n := by have := HN.out; omega
  have hn9 : n ≤ 9 := by have := HN.out; omega
  have hxn : 2 + (x : Int) = (n : Nat) := by have := HN.out; omega
  have hxw : wrap64 (2 + (x : Int)) = (n : Nat) := by rw [hxn]; unfold wrap64; omega
  have R2 : Hid (RD w2 q a bs c p2) := hr
  have B2 : Hid (Below w.heap.size w w2) := grown_below B1.out (by have := HQL.out; omega) hg
  have G2 : Hid (w2.heap[w.heap.size]? = some (.cells #[.int .i64 0, .slice none 0 0] 26 (0, 0))) := grown_row hg G1.out (fun e => by injection e with e; have := HQL.out; omega)
  clear hr hg B1 R1 G1 hx0 hx1
  go_wp2_with fail
  refine (matrix_any q p2 c n a bs w2 R2.out hn1 hn9).mono ?_
  rintro e w3 ⟨g, cg, zs, rfl, hzl, hzc, hgl, hg, ⟨p3, hr⟩, hrow⟩
  have HZL : Hid (zs.length = n * n) := hzl
  obtain ⟨zl, HZ⟩ : ∃ v, Hid (zs.length = v) := ⟨_, rfl⟩
  rw [HZ.out]
  have PD0 : Hid (PD w (w3.alloc (.cells #[.int .i64 n, .slice (some ⟨g, 0, none⟩) zl cg] 26)) ((w3.alloc (.cells #[.int .i64 n, .slice (some ⟨g, 0, none⟩) zl cg] 26)).alloc (.cells #[] 2)) q w3.heap.size a bs c n g zl cg zs (.slice (some ⟨w3.heap.size + 1, 0, none⟩) 0 0) []) := by
    have hA : Below w3.heap.size w3 (w3.alloc (.cells #[.int .i64 n, .slice (some ⟨g, 0, none⟩) zl cg] 26)) := (Below.refl _ _).alloc (Nat.le_refl _) _
    have hB : Below (w3.alloc (.cells #[.int .i64 n, .slice (some ⟨g, 0, none⟩) zl cg] 26)).heap.size (w3.alloc (.cells #[.int .i64 n, .slice (some ⟨g, 0, none⟩) zl cg] 26)) ((w3.alloc (.cells #[.int .i64 n, .slice (some ⟨g, 0, none⟩) zl cg] 26)).alloc (.cells #[] 2)) := (Below.refl _ _).alloc (Nat.le_refl _) _
    have b3 : Below w.heap.size w w3 := grown_below B2.out (by have := HQL.out; omega) hg
    have g3 : w3.heap[w.heap.size]? = some (.cells #[.int .i64 0, .slice none 0 0] 26 (0, 0)) := grown_row hg G2.out (fun e => by injection e with e; have := HQL.out; omega)
    have hq3 : q < w3.heap.size := row_lt hr.1
    obtain ⟨cur, hc1, hc2⟩ := hrow
    have hgl3 : g < w3.heap.size := row_lt hc1
    have hgq : q < w2.heap.size := row_lt R2.out.1
    have hwq := HQL.out
    have hnew := CL.new (hr.below hA)
    have e1 : (w3.alloc (.cells #[.int .i64 n, .slice (some ⟨g, 0, none⟩) zl cg] 26)).heap.size = w3.heap.size + 1 := by simp
    rw [e1] at hnew
    refine ⟨hnew, (b3.alloc b3.size _).alloc (by simp; have := b3.size; omega) _, ⟨hwq, by rw [e1]; omega, by rw [e1]; omega, by omega, by omega, by omega, by omega⟩, below_row hB (by rw [e1]; omega) (below_row hA (row_lt g3) g3), below_row hB (by rw [e1]; omega) (heap_alloc_new _ _), ?_⟩
    exact (RowAt.ints ⟨cur, hc1, hc2⟩).below (hA.trans (hB.mono (by rw [e1]; omega)))
  clear hr hg hrow hzc hgl B2 R2 G2 hzl
  go_wp2_with fail
  obtain ⟨k, HKk⟩ : ∃ v, Hid (w3.heap.size = v) := ⟨_, rfl⟩
  rw [HKk.out] at PD0 ⊢
  generalize w3.alloc (.cells #[.int .i64 n, .slice (some ⟨g, 0, none⟩) zl cg] 26) = W4 at *
  generalize W4.alloc (.cells #[] 2) = W5 at *
  obtain ⟨p5, hr5⟩ := PD0.out.cl.r
  refine (below_any q p5 c 7 a bs W5 hr5 (by omega)).mono ?_
  rintro e w6 ⟨y, p6, rfl, hy0, hy1, hr, hg⟩
  have D1 : Hid (PD w W4 w6 q k a bs c n g zl cg zs (.slice (some ⟨k + 1, 0, none⟩) 0 0) []) := PD0.out.read hr hg
  obtain ⟨y, rfl⟩ := Int.eq_ofNat_of_zero_le hy0
  have hy : y ≤ 6 := by omega
  clear hr hg PD0 hr5 hy0 hy1 hxn hxw BA GA CA
  have KEY : Hid (∀ (W : World) (O : List Int) (go co m : Nat), O.length = m → m ≤ 8 → PD w W4 W q k a bs c n g zl cg zs (.slice (some ⟨go, 0, none⟩) m co) O → ∀ A : Act, A.tmps.getD 2 undef = .pointer (some ⟨w.heap.size, 0, none⟩) → A.tmps.getD 3 undef = .slice (some ⟨go, 0, none⟩) m co → A.defers = [] → bodyPost Try.prog Try.f6 (PathTold w) Exit.ret A ((W.setCell ⟨w.heap.size, 0, none⟩ (.int .i64 n)).setCell ⟨w.heap.size, 1, none⟩ (.slice (some ⟨g, 0, none⟩) zl cg))) := by
    intro W O go co m hO hm hP A h2 h3 hds
    obtain ⟨q1, q2, q3, q4, q5, q6, q7⟩ := hP.h
    have g1 := grown_set W w.heap.size 0 (.int .i64 n)
    have g2 := grown_set (W.setCell ⟨w.heap.size, 0, none⟩ (.int .i64 n)) w.heap.size 1 (.slice (some ⟨g, 0, none⟩) zl cg)
    have hrow : ((W.setCell ⟨w.heap.size, 0, none⟩ (.int .i64 n)).setCell ⟨w.heap.size, 1, none⟩ (.slice (some ⟨g, 0, none⟩) zl cg)).heap[w.heap.size]? = some (.cells #[.int .i64 n, .slice (some ⟨g, 0, none⟩) zl cg] 26 (0, 0)) := by
      have := heap_setCell_same _ w.heap.size 1 _ _ (.slice (some ⟨g, 0, none⟩) zl cg) (heap_setCell_same W w.heap.size 0 _ _ (.int .i64 n) hP.b0)
      simpa using this
    have ho := hP.cl.o
    have hgo : W4.heap.size ≤ go := (ho.lt go rfl).1
    have hgw : go ≠ w.heap.size := by omega
    have io : IntsAt W (some ⟨go, 0, none⟩) O := by rw [hO] at ho; exact owns_ints ho
    have hcap : m ≤ co := by rw [hO] at ho; exact own_cap ho
    refine bodyPost_ret (v := .tuple #[.agg #[.int .i64 n, .slice (some ⟨g, 0, none⟩) zl cg], .slice (some ⟨go, 0, none⟩) m co]) ?_ hds ⟨n, g, cg, go, co, zs, O, by rw [HZ.out, hO], hn9, HZL.out, by omega, by omega, grown_below (grown_below hP.b (Nat.le_refl _) g1) (Nat.le_refl _) g2, ints_other (ints_other hP.i g1 (fun e => q6 e.symm)) g2 (fun e => q6 e.symm), ints_other (ints_other io g1 hgw) g2 hgw⟩
    rw [results_cell_tmp Try.results6, h2, h3]
    simp only [asAddr, Sem.run_pure, Result.andThen_ok, run_loadVar_row _ w.heap.size 26 26 #[.int .i64 n, .slice (some ⟨g, 0, none⟩) zl cg] (0, 0) _ hrow Try.underlying26 rfl sizeMat2]
  go_wp2_with fail
  go_loopw [6, 7] (fun ov t wr => ∃ (i : Nat) (O : List Int), O.length + i ≤ 6 ∧ t = .int .i64 i ∧ PD w W4 wr q k a bs c n g zl cg zs ov O) (fun _ t _ => (intOf t).toNat)
  case atStart => exact ⟨y, [], by simpa using hy, rfl, D1.out⟩
  case round =>
    clear D1
    obtain ⟨i, O, hO, rfl, hd⟩ := hrel
    have D2 : Hid (PD w W4 wr q k a bs c n g zl cg zs u6 O) := hd
    obtain ⟨go, co, rfl⟩ := hd.cl.so
    obtain ⟨p2, hr2⟩ := hd.cl.r
    have R2 : Hid (RD wr q a bs c p2) := hr2
    obtain ⟨c0, c1⟩ := cells2 hd.b1
    clear hd hr2
    obtain ⟨m, HM⟩ : ∃ m, Hid (O.length = m) := ⟨_, rfl⟩
    rw [HM.out] at hO D2 ⊢
    by_cases hi : 0 < i
    · go_wp2_with (first
        | (go_at_call 23
           refine (below_any q p2 c n a bs wr R2.out (by omega)).mono ?_
           rintro e w3 ⟨y3, p3, rfl, hy0, hy1, hr, hg⟩
           have D3 : Hid (PD w W4 w3 q k a bs c n g zl cg zs (.slice (some ⟨go, 0, none⟩) m co) O) := D2.out.read hr hg
           clear hr hg)
        | (at_builtin
           refine append_many _ rfl (.tmp 22) (.tmp 27) rfl W4.heap.size _ m O rfl (by have := D3.out.cl.o; rw [HM.out] at this; exact this.alloc _) w3.heap.size 0 1 1 [y3] rfl rfl (ints_new1 w3 y3) (by omega) (by omega) (Nat.le_trans D3.out.cl.g.size (by simp)) ?_
           intro v' w4 hown hg hbk hnl
           have D4 : Hid (PD w W4 w4 q k a bs c n g zl cg zs v' (O ++ [y3])) := D3.out.put (by rw [HM.out]; exact hown) hg hnl
           clear hown hg hbk hnl))
      go_roundw
      case rel => exact ⟨i - 1, O ++ [y3], by rw [List.length_append, HM.out]; simp; omega, by first | rfl | go_num, D4.out⟩
      case measure => simp [intOf]; omega
    · have hi0 : i = 0 := by omega
      subst hi0
      go_wp2_with fail
      refine (once_any q p2 c 20 a bs wr R2.out (by omega) (by omega)).mono ?_
      rintro e w3 ⟨v, p3, rfl, hr, hg⟩
      have D3 : Hid (PD w W4 w3 q k a bs c n g zl cg zs (.slice (some ⟨go, 0, none⟩) m co) O) := D2.out.read hr hg
      have R3 : Hid (RD w3 q a bs c p3) := hr
      clear hr hg D2 R2 c0 c1
      obtain ⟨c0, c1⟩ := cells2 D3.out.b1
      cases v
      · obtain ⟨d0, d1⟩ := cells2 D3.out.b0
        have f0 := fun k => frozen_of_row _ _ k _ _ D3.out.b0
        go_wp2
        exact KEY.out w3 O go co m HM.out (by omega) D3.out _ (by rfl) (by rfl) (by rfl)
      · go_wp2_with (first
          | (go_at_call 25
             refine (off_any q p3 c 0 _ a bs w3 R3.out (by omega) (by omega) (by omega) (by omega)).mono ?_
             rintro e w4 ⟨y4, p4, rfl, hy0, hy1, hr, hg⟩
             have D4 : Hid (PD w W4 w4 q k a bs c n g zl cg zs (.slice (some ⟨go, 0, none⟩) m co) O) := D3.out.read hr hg
             clear hr hg)
          | (at_builtin
             refine append_many _ rfl (.tmp 31) (.tmp 37) rfl W4.heap.size _ m O rfl (by have := D4.out.cl.o; rw [HM.out] at this; exact this.alloc _) w4.heap.size 0 1 1 [y4] rfl rfl (ints_new1 w4 y4) (by omega) (by omega) (Nat.le_trans D4.out.cl.g.size (by simp)) ?_
             intro v' w5 hown hg hbk hnl
             have hD5 : PD w W4 w5 q k a bs c n g zl cg zs v' (O ++ [y4]) := D4.out.put (by rw [HM.out]; exact hown) hg hnl
             have hl5 : (O ++ [y4]).length = m + 1 := by rw [List.length_append, HM.out]; rfl
             obtain ⟨g5, c5, hv5⟩ := hD5.cl.so
             rw [hl5] at hv5
             subst hv5
             have HL5 : Hid ((O ++ [y4]).length = m + 1) := hl5
             have D5 : Hid (PD w W4 w5 q k a bs c n g zl cg zs (.slice (some ⟨g5, 0, none⟩) (m + 1) c5) (O ++ [y4])) := hD5
             obtain ⟨k0, k1⟩ := cells2 hD5.b1
             obtain ⟨d0, d1⟩ := cells2 hD5.b0
             have f0 := fun k => frozen_of_row _ _ k _ _ hD5.b0
             clear hown hg hbk hnl hD5 hl5))
        exact KEY.out w5 (O ++ [y4]) g5 c5 (m + 1) HL5.out (by omega) D5.out _ (by rfl) (by rfl) (by rfl)

end Go.Proofs.Ytchdcifhccjheaa
