import Derived.Test.YtaehhlkpbhmdfaaPack1
import Derived.Test.YtaehhlkpbhmdfaaPack7
import Derived.Test.YtaehhlkpbhmdfaaKinTail
import Derived.Test.YtaehhlkpbhmdfaaDrawMatrix
namespace Go.Proofs.Ytaehhlkpbhmdfaa
open Go.RowKit

theorem ints_other {W W' : World} {g q : Nat} {xs : List Int} (h : IntsAt W (some ⟨g, 0, none⟩) xs) (hg : W.grownBy W' (some q)) (hne : g ≠ q) : IntsAt W' (some ⟨g, 0, none⟩) xs := by
  intro j hj
  obtain ⟨b, off, e, hc⟩ := h j hj
  simp at e
  obtain ⟨rfl, rfl⟩ := e
  exact ⟨g, 0, rfl, hg.cell hc (fun e => by injection e with e; exact hne e)⟩

end Go.Proofs.Ytaehhlkpbhmdfaa

namespace Go.Proofs.Ytaehhlkpbhmdfaa
open Go.RowKit

/-- While a matrix is made even. -/
structure EV (w W : World) (q : Nat) (a : Option Addr) (bs : List Int) (c n g m cg mb : Nat) (O : List Int) : Prop where
  gr : w.grownBy W (some q)
  r0 : ∃ p, RD w q a bs c p
  r : ∃ p, RD W q a bs c p
  b0 : W.heap[w.heap.size]? = some (.cells #[.int .i64 0, .slice none 0 0] 26 (0, 0))
  b1 : W.heap[mb]? = some (.cells #[.int .i64 n, .slice (some ⟨g, 0, none⟩) m cg] 26 (0, 0))
  hl : w.heap.size < mb ∧ w.heap.size < g ∧ O.length = m ∧ m ≤ cg
  o : RowAt W g O
theorem EV.qlt {w W : World} {q : Nat} {a : Option Addr} {bs : List Int} {c n g m cg mb : Nat} {O : List Int} (h : EV w W q a bs c n g m cg mb O) : q < w.heap.size := by obtain ⟨p0, h0⟩ := h.r0; exact row_lt h0.1
theorem EV.gmb {w W : World} {q : Nat} {a : Option Addr} {bs : List Int} {c n g m cg mb : Nat} {O : List Int} (h : EV w W q a bs c n g m cg mb O) : g ≠ mb := by
  obtain ⟨cur, h1, _⟩ := h.o
  exact fun e => by rw [e, h.b1] at h1; injection h1 with h1; injection h1 with _ h2; exact absurd h2 (by decide)
theorem EV.read {w W : World} {q : Nat} {a : Option Addr} {bs : List Int} {c n g m cg mb : Nat} {O : List Int} {W' : World} {p : Nat} (h : EV w W q a bs c n g m cg mb O) (hr : RD W' q a bs c p) (hg : W.grownBy W' (some q)) : EV w W' q a bs c n g m cg mb O := by
  have hl := h.qlt
  have := h.hl
  exact ⟨grown_trans h.gr hg, h.r0, ⟨p, hr⟩, grown_row hg h.b0 (fun e => by injection e with e; omega), grown_row hg h.b1 (fun e => by injection e with e; omega), h.hl, h.o.other hg (fun e => by injection e with e; omega)⟩
theorem EV.below {w W : World} {q : Nat} {a : Option Addr} {bs : List Int} {c n g m cg mb : Nat} {O : List Int} {W' : World} (h : EV w W q a bs c n g m cg mb O) (hb : Below W.heap.size W W') : EV w W' q a bs c n g m cg mb O := by
  obtain ⟨p, hr⟩ := h.r
  exact ⟨⟨hb.os.trans h.gr.os, hb.tape.trans h.gr.tape, hb.output.trans h.gr.output, Nat.le_trans h.gr.size hb.size, fun j hj hne => (hb.block j (Nat.lt_of_lt_of_le hj h.gr.size)).trans (h.gr.block j hj hne)⟩, h.r0, ⟨p, hr.below hb⟩, below_row hb (row_lt h.b0) h.b0, below_row hb (row_lt h.b1) h.b1, h.hl, h.o.below hb⟩
theorem EV.set {w W : World} {q : Nat} {a : Option Addr} {bs : List Int} {c n g m cg mb : Nat} {O : List Int} (h : EV w W q a bs c n g m cg mb O) (j : Nat) (v : Int) : EV w (W.setCell ⟨g, j, none⟩ (.int .i64 v)) q a bs c n g m cg mb (O.set j v) := by
  obtain ⟨p, hr⟩ := h.r
  obtain ⟨p0, hr0⟩ := h.r0
  have h1 := h.hl
  have hsl : ∀ k, some g = some k → w.heap.size ≤ k := fun k e => by injection e with e; omega
  have hs := grown_set W g j (.int .i64 v)
  exact ⟨grown_own h.gr hs hsl, h.r0, ⟨p, RD.kept2 hr0 hr hs hsl⟩, grown_row hs h.b0 (fun e => by injection e with e; omega), grown_row hs h.b1 (fun e => by injection e with e; exact h.gmb e.symm), ⟨h1.1, h1.2.1, by rw [List.length_set]; exact h1.2.2.1, h1.2.2.2⟩, h.o.set j v⟩
/-- What the draw of an even matrix answers. -/
def EvenOk (w : World) (q : Nat) (a : Option Addr) (bs : List Int) (c : Nat) (e : Ending) (w' : World) : Prop := ∃ (n g cg : Nat) (zs : List Int), e = .returned (.agg #[.int .i64 n, .slice (some ⟨g, 0, none⟩) zs.length cg]) ∧ 1 ≤ n ∧ n ≤ 6 ∧ zs.length = n * n ∧ w.heap.size ≤ g ∧ w.grownBy w' (some q) ∧ (∃ p, RD w' q a bs c p) ∧ RowAt w' g zs

set_option maxRecDepth 10000 in
set_option maxHeartbeats 4000000 in
theorem even_any (q p c : Nat) (a : Option Addr) (bs : List Int) (w : World) (h : RD w q a bs c p) :
    Calls Try.prog 28 #[.pointer (some ⟨q, 0, none⟩)] w (EvenOk w q a bs c) := by
  have H : Hid (RD w q a bs c p) := h
  have BA : Hid (Below w.heap.size w (w.alloc (.cells #[.int .i64 0, .slice none 0 0] 26))) := (Below.refl _ _).alloc (Nat.le_refl _) _
  have R0 : Hid (RD (w.alloc (.cells #[.int .i64 0, .slice none 0 0] 26)) q a bs c p) := h.below BA.out
  have G0 : Hid ((w.alloc (.cells #[.int .i64 0, .slice none 0 0] 26)).heap[w.heap.size]? = some (.cells #[.int .i64 0, .slice none 0 0] 26 (0, 0))) := heap_alloc_new _ _
  have GR0 : Hid (w.grownBy (w.alloc (.cells #[.int .i64 0, .slice none 0 0] 26)) (some q)) := grown_alloc _ _ _
  have HQ : Hid (q < w.heap.size) := row_lt h.1
  clear h
  go_enter Try.func28, Try.ntmps28
  go_wp2_with fail
  generalize w.alloc (.cells #[.int .i64 0, .slice none 0 0] 26) = W0 at *
  refine (below_any q p c 6 a bs W0 R0.out (by omega)).mono ?_
  rintro e w2 ⟨x, p2, rfl, hx0, hx1, hr, hg⟩
  obtain ⟨x, rfl⟩ := Int.eq_ofNat_of_zero_le hx0
  obtain ⟨n, HN⟩ : ∃ n, Hid (x + 1 = n) := ⟨_, rfl⟩
  have hn1 : 1 ≤ n := by have := HN.out; omega
  have hn6 : n ≤ 6 := by have := HN.out; omega
  have hxn : 1 + (x : Int) = (n : Nat) := by have := HN.out; omega
  have hxw : wrap64 (1 + (x : Int)) = (n : Nat) := by rw [hxn]; unfold wrap64; omega
  have hxw2 : IntKind.i64.wrap (1 + (x : Int)) = (n : Nat) := by rw [hxn, IntKind.wrap_i64]; omega
  have R2 : Hid (RD w2 q a bs c p2) := hr
  have GR2 : Hid (w.grownBy w2 (some q)) := grown_trans GR0.out hg
  have G2 : Hid (w2.heap[w.heap.size]? = some (.cells #[.int .i64 0, .slice none 0 0] 26 (0, 0))) := grown_row hg G0.out (fun e => by injection e with e; have := HQ.out; omega)
  clear hr hg hx0 hx1 BA R0 G0 GR0
  go_wp2_with fail
  clear hxn hxw hxw2
  refine (matrix_any q p2 c n a bs w2 R2.out hn1 (by omega)).mono ?_
  rintro e w3 ⟨g, cg, zs, rfl, hzl, hzc, hgl, hg, ⟨p3, hr⟩, hrow⟩
  obtain ⟨zl, HZ⟩ : ∃ v, Hid (zs.length = v) := ⟨_, rfl⟩
  have HZN : Hid (zl = n * n) := HZ.out.symm.trans hzl
  rw [HZ.out] at hzc ⊢
  have E3 : Hid (EV w (w3.alloc (.cells #[.int .i64 n, .slice (some ⟨g, 0, none⟩) zl cg] 26)) q a bs c n g zl cg w3.heap.size zs) := by
    have g3 := grown_row hg G2.out (fun e => by injection e with e; have := HQ.out; omega)
    have ha : Below w3.heap.size w3 (w3.alloc (.cells #[.int .i64 n, .slice (some ⟨g, 0, none⟩) zl cg] 26)) := (Below.refl _ _).alloc (Nat.le_refl _) _
    have gr3 := grown_trans GR2.out hg
    exact ⟨grown_own gr3 ⟨rfl, rfl, rfl, by simp, fun k hk _ => heap_alloc_old _ _ hk⟩ (row := none) (fun g e => by cases e), ⟨p, H.out⟩, ⟨p3, hr.below ha⟩, below_row ha (row_lt g3) g3, heap_alloc_new _ _, ⟨row_lt g3, by have := row_lt G2.out; omega, HZ.out, hzc⟩, hrow.below ha⟩
  clear hr hg hrow hzc hgl R2 GR2 G2 hzl
  go_wp2_with fail
  generalize w3.alloc (.cells #[.int .i64 n, .slice (some ⟨g, 0, none⟩) zl cg] 26) = W3 at *
  generalize w3.heap.size = mb at *
  go_loopw [4] (fun t4 wr => ∃ (k : Nat) (O : List Int), t4 = .int .i64 k ∧ k ≤ n ∧ EV w wr q a bs c n g zl cg mb O) (fun t4 _ => n - (intOf t4).toNat)
  case atStart => exact ⟨0, zs, rfl, Nat.zero_le _, E3.out⟩
  case round =>
    clear E3
    obtain ⟨k, O, rfl, hk, hE⟩ := hrel
    have EW : Hid (EV w wr q a bs c n g zl cg mb O) := hE
    clear hE
    obtain ⟨c0, c1⟩ := cells2 EW.out.b1
    by_cases hkn : k < n
    · have hknI : (k : Int) < (n : Int) := by omega
      go_wp2_with fail
      clear c0 c1
      go_loopw [5] (fun t5 wr => ∃ (j : Nat) (O : List Int), t5 = .int .i64 j ∧ j ≤ k ∧ EV w wr q a bs c n g zl cg mb O) (fun t5 _ => k - (intOf t5).toNat)
      case atStart => exact ⟨0, O, rfl, Nat.zero_le _, EW.out⟩
      case round =>
        clear EW
        obtain ⟨j, O, rfl, hj, hE⟩ := hrel
        have EW : Hid (EV w wr q a bs c n g zl cg mb O) := hE
        clear hE
        by_cases hjk : j < k
        · have hjkI : (j : Int) < (k : Int) := by omega
          obtain ⟨c0, c1⟩ := cells2 EW.out.b1
          have HOL : Hid (O.length = zl) := EW.out.hl.2.2.1
          obtain ⟨jn, HJN⟩ : ∃ v, Hid (j * n = v) := ⟨_, rfl⟩
          obtain ⟨ix, HIX⟩ : ∃ v, Hid (jn + k = v) := ⟨_, rfl⟩
          have hjn36 : jn ≤ 36 := by rw [← HJN.out]; exact Nat.le_trans (Nat.mul_le_mul (show j ≤ 6 by omega) hn6) (by omega)
          have hix42 : ix ≤ 42 := by have := HIX.out; omega
          have hixz : ix < zl := by
            have h1 := HJN.out
            have h2 := HIX.out
            have h3 := HZN.out
            have h4 : (j + 1) * n ≤ n * n := Nat.mul_le_mul_right n (by omega)
            rw [Nat.add_mul, Nat.one_mul] at h4
            omega
          have hw1 : IntKind.i64.wrap ((j : Int) * (n : Int)) = (jn : Int) := by
            rw [show (j : Int) * (n : Int) = (jn : Int) by rw [← HJN.out]; exact (Int.natCast_mul j n).symm, IntKind.wrap_i64]; omega
          have hw2 : IntKind.i64.wrap ((jn : Int) + (k : Int)) = (ix : Int) := by
            rw [show (jn : Int) + (k : Int) = (ix : Int) by have := HIX.out; omega, IntKind.wrap_i64]; omega
          have hw3 : wrap64 ((j : Int) * (n : Int)) = (jn : Int) := by
            rw [show (j : Int) * (n : Int) = (jn : Int) by rw [← HJN.out]; exact (Int.natCast_mul j n).symm]; unfold wrap64; omega
          have hw4 : wrap64 ((jn : Int) + (k : Int)) = (ix : Int) := by
            rw [show (jn : Int) + (k : Int) = (ix : Int) by have := HIX.out; omega]; unfold wrap64; omega
          have hixI : (ix : Int) < (zl : Int) := by omega
          have hix0 : (0 : Int) ≤ (ix : Int) := by omega
          have CTM : Hid (∀ (s : Kin wr), Calls Try.prog 33 #[.agg #[.int .i64 n, .slice (some ⟨g, 0, none⟩) zl cg], .int .i64 k, .int .i64 j] s.w fun e w' => e = .returned (.int .i64 (O.getD (k * n + j) 0)) ∧ Below s.w.heap.size s.w w') := fun s => l1Time_any n k j (some ⟨g, 0, none⟩) zl cg O s.w (by omega) hkn (by omega) (by rw [HOL.out]; exact HZN.out) HZN.out (EW.out.o.below s.below).ints
          obtain ⟨v, HV⟩ : ∃ v, Hid (O.getD (k * n + j) 0 = v) := ⟨_, rfl⟩
          rw [HV.out] at CTM
          have e0 := fun s : Kin wr => s.cell c0
          have e1 := fun s : Kin wr => s.cell c1
          have hkin := Kin.there wr
          go_wp2_with fail
          refine wp_region_kin_tail 13 (by kernel_rfl) (by kernel_rfl) ?_
          simp only [List.take_succ_cons, List.take_zero, List.drop_succ_cons, List.drop_zero]
          repeat (go_big_quiet_step ((go_at_call 33; exact Kin.call (CTM.out _))))
          refine wpQuiet_nil ?_
          rintro _ ⟨s, rfl⟩
          have EX : Hid (EV w s.w q a bs c n g zl cg mb O) := EW.out.below s.below
          clear e0 e1 hkin CTM EW c0 c1 hw1 hw2 hw3 hw4
          generalize s.w = w5 at *
          have fz := EX.out.o.frozen
          obtain ⟨b9, off9, e9, hc9⟩ := EX.out.o.ints ix (by rw [HOL.out]; exact hixz)
          simp only [Option.some.injEq, Addr.mk.injEq, and_true] at e9
          obtain ⟨rfl, rfl⟩ := e9
          rw [Nat.zero_add] at hc9
          have EY : Hid (EV w (w5.setCell ⟨g, ix, none⟩ (.int .i64 v)) q a bs c n g zl cg mb (O.set ix v)) := EX.out.set ix v
          clear EX
          go_wp2
          first
            | exact ⟨⟨j + 1, O.set ix v, by go_num, by omega, EY.out⟩, by simp [intOf]; omega⟩
            | (go_roundw
               case rel => exact ⟨j + 1, O.set ix v, by go_num, by omega, EY.out⟩
               case measure => simp [intOf]; omega)
        · have hje : j = k := by omega
          subst hje
          have hnl : ¬ ((j : Int) < (j : Int)) := by omega
          clear hjk
          go_wp2_with fail
          go_roundw
          case rel => exact ⟨j + 1, O, by go_num, by omega, EW.out⟩
          case measure => simp [intOf]; omega
    · have hke : k = n := by omega
      subst hke
      have hnl : ¬ ((k : Int) < (k : Int)) := by omega
      clear hkn
      obtain ⟨p4, hr4⟩ := EW.out.r
      have CO := once_any q p4 c 12 a bs wr hr4 (by omega) (by omega)
      clear hr4
      go_wp2_with fail
      clear c0 c1
      refine CO.mono ?_
      rintro e w6 ⟨bo, p6, rfl, hr6, hg6⟩
      have E6 : Hid (EV w w6 q a bs c k g zl cg mb O) := EW.out.read hr6 hg6
      have R6 : Hid (RD w6 q a bs c p6) := hr6
      clear hr6 hg6 EW CO
      cases bo
      · obtain ⟨c0, c1⟩ := cells2 E6.out.b1
        obtain ⟨z0, z1⟩ := cells2 E6.out.b0
        have zf := fun i => frozen_of_row _ _ i _ _ E6.out.b0
        have ROW : Hid (((w6.setCell ⟨w.heap.size, 0, none⟩ (.int .i64 k)).setCell ⟨w.heap.size, 1, none⟩ (.slice (some ⟨g, 0, none⟩) zl cg)).heap[w.heap.size]? = some (.cells #[.int .i64 k, .slice (some ⟨g, 0, none⟩) zl cg] 26 (0, 0))) := by
          have := heap_setCell_same _ w.heap.size 1 _ _ (.slice (some ⟨g, 0, none⟩) zl cg) (heap_setCell_same w6 w.heap.size 0 _ _ (.int .i64 k) E6.out.b0)
          show _ = _
          simpa using this
        have TOLD : Hid (EvenOk w q a bs c (.returned (.agg #[.int .i64 k, .slice (some ⟨g, 0, none⟩) zl cg])) ((w6.setCell ⟨w.heap.size, 0, none⟩ (.int .i64 k)).setCell ⟨w.heap.size, 1, none⟩ (.slice (some ⟨g, 0, none⟩) zl cg))) := by
          have hs : w6.grownBy ((w6.setCell ⟨w.heap.size, 0, none⟩ (.int .i64 k)).setCell ⟨w.heap.size, 1, none⟩ (.slice (some ⟨g, 0, none⟩) zl cg)) (some w.heap.size) := grown_trans (grown_set _ _ _ _) (grown_set _ _ _ _)
          have hsl : ∀ b, some w.heap.size = some b → w.heap.size ≤ b := fun b e => by injection e with e; omega
          have h1 := E6.out.hl
          exact ⟨k, g, cg, O, by rw [h1.2.2.1], hn1, hn6, by rw [h1.2.2.1]; exact HZN.out, by omega, grown_own E6.out.gr hs hsl, ⟨p6, RD.kept2 H.out R6.out hs hsl⟩, E6.out.o.other hs (fun e => by injection e with e; omega)⟩
        clear E6 R6
        go_wp2
        exact bodyPost_ret (v := .agg #[.int .i64 k, .slice (some ⟨g, 0, none⟩) zl cg]) (results_cell_row Try.results28 _ _ w.heap.size 26 _ (0, 0) _ (by rfl) ROW.out Try.underlying26 rfl sizeMat2) (by rfl) TOLD.out
      · have CM := matrix_any q p6 c 3 a bs w6 R6.out (by omega) (by omega)
        go_wp2_with fail
        refine CM.mono ?_
        rintro e w7 ⟨g7, cg7, zs7, rfl, hzl7, hzc7, hgl7, hg7, ⟨p7, hr7⟩, hrow7⟩
        have G7 : Hid (w7.heap[w.heap.size]? = some (.cells #[.int .i64 0, .slice none 0 0] 26 (0, 0))) := grown_row hg7 E6.out.b0 (fun e => by injection e with e; have := HQ.out; omega)
        obtain ⟨zl7, HZ7⟩ : ∃ v, Hid (zs7.length = v) := ⟨_, rfl⟩
        rw [HZ7.out] at hzl7 ⊢
        have ROW : Hid (((w7.setCell ⟨w.heap.size, 0, none⟩ (.int .i64 3)).setCell ⟨w.heap.size, 1, none⟩ (.slice (some ⟨g7, 0, none⟩) zl7 cg7)).heap[w.heap.size]? = some (.cells #[.int .i64 3, .slice (some ⟨g7, 0, none⟩) zl7 cg7] 26 (0, 0))) := by
          have := heap_setCell_same _ w.heap.size 1 _ _ (.slice (some ⟨g7, 0, none⟩) zl7 cg7) (heap_setCell_same w7 w.heap.size 0 _ _ (.int .i64 3) G7.out)
          show _ = _
          simpa using this
        have TOLD : Hid (EvenOk w q a bs c (.returned (.agg #[.int .i64 3, .slice (some ⟨g7, 0, none⟩) zl7 cg7])) ((w7.setCell ⟨w.heap.size, 0, none⟩ (.int .i64 3)).setCell ⟨w.heap.size, 1, none⟩ (.slice (some ⟨g7, 0, none⟩) zl7 cg7))) := by
          have hs : w7.grownBy ((w7.setCell ⟨w.heap.size, 0, none⟩ (.int .i64 3)).setCell ⟨w.heap.size, 1, none⟩ (.slice (some ⟨g7, 0, none⟩) zl7 cg7)) (some w.heap.size) := grown_trans (grown_set _ _ _ _) (grown_set _ _ _ _)
          have hsl : ∀ b, some w.heap.size = some b → w.heap.size ≤ b := fun b e => by injection e with e; omega
          have h9 := row_lt E6.out.b0
          exact ⟨3, g7, cg7, zs7, by rw [HZ7.out]; rfl, by omega, by omega, by rw [HZ7.out]; exact hzl7, by omega, grown_own (grown_trans E6.out.gr hg7) hs hsl, ⟨p7, RD.kept2 H.out hr7 hs hsl⟩, hrow7.other hs (fun e => by injection e with e; omega)⟩
        obtain ⟨z0, z1⟩ := cells2 G7.out
        have zf := fun i => frozen_of_row _ _ i _ _ G7.out
        clear E6 R6 CM hzl7 hzc7 hgl7 hg7 hr7 hrow7
        go_wp2
        exact bodyPost_ret (v := .agg #[.int .i64 3, .slice (some ⟨g7, 0, none⟩) zl7 cg7]) (results_cell_row Try.results28 _ _ w.heap.size 26 _ (0, 0) _ (by rfl) ROW.out Try.underlying26 rfl sizeMat2) (by rfl) TOLD.out

/-- A drawn even matrix, told to its caller. -/
def EvenTold (w : World) (e : Ending) (w' : World) : Prop := ∃ (n g cg : Nat) (zs : List Int), e = .returned (.agg #[.int .i64 n, .slice (some ⟨g, 0, none⟩) zs.length cg]) ∧ 1 ≤ n ∧ n ≤ 6 ∧ zs.length = n * n ∧ Below w.heap.size w w' ∧ IntsAt w' (some ⟨g, 0, none⟩) zs

set_option maxHeartbeats 1000000 in
theorem drawSpan_any (a : Option Addr) (c : Nat) (bs : List Int) (w : World) (h : CodeAt w a bs) (hl : bs.length ≤ 1048576) :
    Calls Try.prog 7 #[.slice a bs.length c] w (EvenTold w) := by
  have H : Hid (CodeAt w a bs) := h
  clear h
  have BA : Hid (Below w.heap.size w (w.alloc (.cells #[.int .i64 0, .slice none 0 0] 26))) := (Below.refl _ _).alloc (Nat.le_refl _) _
  have GA : Hid ((w.alloc (.cells #[.int .i64 0, .slice none 0 0] 26)).heap[w.heap.size]? = some (.cells #[.int .i64 0, .slice none 0 0] 26 (0, 0))) := heap_alloc_new _ _
  have CA : Hid (CodeAt (w.alloc (.cells #[.int .i64 0, .slice none 0 0] 26)) a bs) := by
    intro j hj
    obtain ⟨b, off, e, hc, hv⟩ := H.out j hj
    exact ⟨b, off, e, (BA.out.cell (p := ⟨b, off + j, none⟩) (block_lt_of_cell hc)).trans hc, hv⟩
  go_enter Try.func7, Try.ntmps7
  go_wp2_with fail
  generalize w.alloc (.cells #[.int .i64 0, .slice none 0 0] 26) = W0 at *
  refine (l1Open_any a c bs W0 CA.out hl).mono ?_
  rintro e w1 ⟨rfl, hb, hr⟩
  obtain ⟨q, HQ⟩ : ∃ q, Hid (W0.heap.size = q) := ⟨_, rfl⟩
  have hw0 : w.heap.size < W0.heap.size := row_lt GA.out
  have HQL : Hid (w.heap.size < q) := by show _ < _; rw [← HQ.out]; exact hw0
  have B1 : Hid (Below w.heap.size w w1) := BA.out.trans (hb.mono BA.out.size)
  have G1 : Hid (w1.heap[w.heap.size]? = some (.cells #[.int .i64 0, .slice none 0 0] 26 (0, 0))) := below_row hb (row_lt GA.out) GA.out
  have R1 : Hid (RD w1 q a bs c 0) := by have := hr; rw [HQ.out] at this; exact this
  clear hb hr hw0
  rw [HQ.out]
  go_wp2_with fail
  refine (even_any q 0 c a bs w1 R1.out).mono ?_
  rintro e w3 ⟨n, g, cg, zs, rfl, hn1, hn6, hzl, hgl, hg, -, hrow⟩
  have B3 : Hid (Below w.heap.size w w3) := grown_below B1.out (by have := HQL.out; omega) hg
  have G3 : Hid (w3.heap[w.heap.size]? = some (.cells #[.int .i64 0, .slice none 0 0] 26 (0, 0))) := grown_row hg G1.out (fun e => by injection e with e; have := HQL.out; omega)
  have hne : w.heap.size ≠ g := fun e => by have := row_lt G1.out; omega
  have I3 : Hid (IntsAt w3 (some ⟨g, 0, none⟩) zs) := hrow.ints
  have HZL : Hid (zs.length = n * n) := hzl
  obtain ⟨zl, HZ⟩ : ∃ v, Hid (zs.length = v) := ⟨_, rfl⟩
  rw [HZ.out]
  clear hg hrow hgl B1 R1 G1 hzl
  obtain ⟨c0, c1⟩ := cells2 G3.out
  have f0 := fun k => frozen_of_row _ _ k _ _ G3.out
  have ROW : Hid (((w3.setCell ⟨w.heap.size, 0, none⟩ (.int .i64 n)).setCell ⟨w.heap.size, 1, none⟩ (.slice (some ⟨g, 0, none⟩) zl cg)).heap[w.heap.size]? = some (.cells #[.int .i64 n, .slice (some ⟨g, 0, none⟩) zl cg] 26 (0, 0))) := by
    have := heap_setCell_same _ w.heap.size 1 _ _ (.slice (some ⟨g, 0, none⟩) zl cg) (heap_setCell_same w3 w.heap.size 0 _ _ (.int .i64 n) G3.out)
    show _ = _
    simpa using this
  have g1 := grown_set w3 w.heap.size 0 (.int .i64 n)
  have g2 := grown_set (w3.setCell ⟨w.heap.size, 0, none⟩ (.int .i64 n)) w.heap.size 1 (.slice (some ⟨g, 0, none⟩) zl cg)
  have B4 : Hid (Below w.heap.size w ((w3.setCell ⟨w.heap.size, 0, none⟩ (.int .i64 n)).setCell ⟨w.heap.size, 1, none⟩ (.slice (some ⟨g, 0, none⟩) zl cg))) := grown_below (grown_below B3.out (Nat.le_refl _) g1) (Nat.le_refl _) g2
  have I4 : Hid (IntsAt ((w3.setCell ⟨w.heap.size, 0, none⟩ (.int .i64 n)).setCell ⟨w.heap.size, 1, none⟩ (.slice (some ⟨g, 0, none⟩) zl cg)) (some ⟨g, 0, none⟩) zs) := ints_other (ints_other I3.out g1 (fun e => hne e.symm)) g2 (fun e => hne e.symm)
  clear g1 g2
  go_wp2
  refine bodyPost_ret (v := .agg #[.int .i64 n, .slice (some ⟨g, 0, none⟩) zl cg]) (results_cell_row Try.results7 _ _ w.heap.size 26 _ (0, 0) _ (by rfl) ROW.out Try.underlying26 rfl sizeMat2) (by rfl) ⟨n, g, cg, zs, by rw [HZ.out], hn1, hn6, HZL.out, B4.out, I4.out⟩

end Go.Proofs.Ytaehhlkpbhmdfaa
