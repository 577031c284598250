import Derived.Test.YtpahhhocgpohbaaPack16
import Derived.Test.YtpahhhocgpohbaaPack17
import Derived.Test.YtpahhhocgpohbaaSync12
namespace Go.Proofs.Ytpahhhocgpohbaa
open Go.RowKit

theorem heap_alloc3_new (w : World) (A B C : Obj) : (((w.alloc A).alloc B).alloc C).heap[w.heap.size + 2]? = some C := by
  have := heap_alloc_new ((w.alloc A).alloc B) C
  simpa using this
theorem heap_alloc3_mid (w : World) (A B C : Obj) : (((w.alloc A).alloc B).alloc C).heap[w.heap.size + 1]? = some B :=
  (heap_alloc_old _ _ ((Array.getElem?_eq_some_iff.1 (heap_alloc2_new w A B)).1)).trans (heap_alloc2_new w A B)
theorem heap_alloc3_old (w : World) (A B C : Obj) : (((w.alloc A).alloc B).alloc C).heap[w.heap.size]? = some A :=
  (heap_alloc_old _ _ ((Array.getElem?_eq_some_iff.1 (heap_alloc2_old w A B)).1)).trans (heap_alloc2_old w A B)
/-- An answer's box, wherever it lies, is written last. -/
theorem boxedAt {w W : World} {q : Nat} {lv sv ov x y z : Value} {L S : List FI} {O : List OP} {cs : Array Value} (hq : w.heap.size ≤ q) (b : Below w.heap.size w W) (h : DA W w.heap.size lv sv ov L S O) (hr : W.heap[q]? = some (.cells cs 27 (0, 0))) :
    Below w.heap.size w (((W.setCell ⟨q, 0, none⟩ x).setCell ⟨q, 1, none⟩ y).setCell ⟨q, 2, none⟩ z) ∧ DA (((W.setCell ⟨q, 0, none⟩ x).setCell ⟨q, 1, none⟩ y).setCell ⟨q, 2, none⟩ z) w.heap.size lv sv ov L S O := by
  have r2 := heap_setCell_same _ q 0 _ _ x hr
  have r3 := heap_setCell_same _ q 1 _ _ y r2
  refine ⟨((b.setCell hq _).setCell hq _).setCell hq _, ⟨⟨?_, ?_, ?_⟩, h.ap⟩⟩
  · exact own_setT (own_setT (own_setT h.d.l hr (by decide)) r2 (by decide)) r3 (by decide)
  · exact own_setT (own_setT (own_setT h.d.s hr (by decide)) r2 (by decide)) r3 (by decide)
  · exact own_setT (own_setT (own_setT h.d.o hr (by decide)) r2 (by decide)) r3 (by decide)


theorem four_row (W : World) (T : TypeId) (x y z u : Value) (g : Nat) (hg : W.heap.size = g) : ∀ j v, [x, y, z, u][j]? = some v → (W.alloc (.cells #[x, y, z, u] T)).cell? ⟨g, 0 + j, none⟩ = some v := by
  subst hg
  intro j v hv
  match j, hv with
  | 0, hv =>
    simp at hv
    subst hv
    rw [cell_of_row _ _ _ _ _ _ (heap_alloc_new _ _)]
    rfl
  | 1, hv =>
    simp at hv
    subst hv
    rw [cell_of_row _ _ _ _ _ _ (heap_alloc_new _ _)]
    rfl
  | 2, hv =>
    simp at hv
    subst hv
    rw [cell_of_row _ _ _ _ _ _ (heap_alloc_new _ _)]
    rfl
  | 3, hv =>
    simp at hv
    subst hv
    rw [cell_of_row _ _ _ _ _ _ (heap_alloc_new _ _)]
    rfl
  | j + 4, hv => simp at hv

set_option maxHeartbeats 8000000 in
set_option maxRecDepth 20000 in
theorem l12Act_any (la sa oa : Option Addr) (lc sc oc ln sn on x1 x3 : Nat) (kd : Int) (L S : List FI) (O : List OP) (o : OP) (w : World) (hD : DAt w la sa oa L S O) (hLn : L.length = ln) (hSn : S.length = sn) (hOn : O.length = on) (hfl : filB L = true) (bs : sn ≤ 1048576) (bo : on ≤ 1048576)
    (z1 : o.n.size ≤ 2000000) (z2 : o.t.size ≤ 2000000) (z3 : o.d.size ≤ 1048576) (hk : actK L O o = kd) (hx1 : (actL L O o).length = x1) (hx3 : (actO L O o).length = x3) :
    Calls Try.prog 35 #[.agg #[.slice la ln lc, .slice sa sn sc, .slice oa on oc], .agg #[.int .i64 o.k, .string o.n, .string o.t, .string o.d]] w fun e w' => ∃ a1 c1 a2 c2 a3 c3, e = .returned (.tuple #[.agg #[.slice a1 x1 c1, .slice a2 sn c2, .slice a3 x3 c3], .int .i64 kd]) ∧ Below w.heap.size w w' ∧ DA w' w.heap.size (.slice a1 x1 c1) (.slice a2 sn c2) (.slice a3 x3 c3) (actL L O o) S (actO L O o) := by
  obtain ⟨hd1, hd2, hd3, hd4, hd5⟩ := do_ok hfl z1 z2 z3
  have bl : ln ≤ 60 := by rw [← hLn]; exact (filB_true.1 hfl).1
  have B0 : Hid (Below w.heap.size w (((w.alloc (.cells #[.slice la ln lc, .slice sa sn sc, .slice oa on oc] 27)).alloc (.cells #[.int .i64 o.k, .string o.n, .string o.t, .string o.d] 36)).alloc (.cells #[.slice none 0 0, .slice none 0 0, .slice none 0 0] 27))) := (((Below.refl _ _).alloc (Nat.le_refl _) _).alloc (by simp) _).alloc (by simp; omega) _
  have RA0 : Hid ((((w.alloc (.cells #[.slice la ln lc, .slice sa sn sc, .slice oa on oc] 27)).alloc (.cells #[.int .i64 o.k, .string o.n, .string o.t, .string o.d] 36)).alloc (.cells #[.slice none 0 0, .slice none 0 0, .slice none 0 0] 27)).heap[w.heap.size]? = some (.cells #[.slice la ln lc, .slice sa sn sc, .slice oa on oc] 27 (0, 0))) := heap_alloc3_old _ _ _ _
  have RP0 : Hid ((((w.alloc (.cells #[.slice la ln lc, .slice sa sn sc, .slice oa on oc] 27)).alloc (.cells #[.int .i64 o.k, .string o.n, .string o.t, .string o.d] 36)).alloc (.cells #[.slice none 0 0, .slice none 0 0, .slice none 0 0] 27)).heap[w.heap.size + 1]? = some (.cells #[.int .i64 o.k, .string o.n, .string o.t, .string o.d] 36 (0, 0))) := heap_alloc3_mid _ _ _ _
  have RB0 : Hid ((((w.alloc (.cells #[.slice la ln lc, .slice sa sn sc, .slice oa on oc] 27)).alloc (.cells #[.int .i64 o.k, .string o.n, .string o.t, .string o.d] 36)).alloc (.cells #[.slice none 0 0, .slice none 0 0, .slice none 0 0] 27)).heap[w.heap.size + 2]? = some (.cells #[.slice none 0 0, .slice none 0 0, .slice none 0 0] 27 (0, 0))) := heap_alloc3_new _ _ _ _
  have HD0 : Hid (DAt w la sa oa L S O) := hD
  have HLN : Hid (L.length = ln) := hLn
  have HSN : Hid (S.length = sn) := hSn
  have HON : Hid (O.length = on) := hOn
  obtain ⟨dn, HDN⟩ : ∃ n, Hid ((doF L o).length = n) := ⟨_, rfl⟩
  rw [HDN.out] at hd1
  have FM : Hid (∀ W : World, ∀ b, frmB o = b → Calls Try.prog 26 #[.agg #[.int .i64 o.k, .string o.n, .string o.t, .string o.d]] W fun e w' => e = .returned (.bool b) ∧ Below W.heap.size W w') := fun W b hb => by rw [← hb]; exact l12Form_any o W (by omega) (by omega)
  have DO : Hid (∀ W : World, Below w.heap.size w W → ∀ b, okF L o = b → Calls Try.prog 25 #[.slice la ln lc, .agg #[.int .i64 o.k, .string o.n, .string o.t, .string o.d]] W fun e w' => ∃ a c, e = .returned (.tuple #[.slice a dn c, .bool b]) ∧ Below W.heap.size W w' ∧ w'.ownsRow W.heap.size 55 2 (.slice a dn c) dn (rowF (doF L o))) := fun W hW b hb => by
    have := l12Do_any la lc L o W (HD0.out.l.below hW) (by rw [HLN.out]; omega) hd4 (by omega) (by omega)
    rw [HLN.out, HDN.out, hb] at this
    refine this.mono ?_
    rintro e w' ⟨v, rfl, h1, h2⟩
    obtain ⟨a, c, rfl⟩ := own_anyV h2
    exact ⟨a, c, rfl, h1, h2⟩
  have FI : Hid (∀ (W : World) a c B, W.ownsRow B 55 2 (.slice a dn c) dn (rowF (doF L o)) → ∀ b, filB (doF L o) = b → Calls Try.prog 24 #[.slice a dn c] W fun e w' => e = .returned (.bool b) ∧ Below W.heap.size W w') := fun W a c B h b hb => by
    obtain ⟨a', c', e, hf⟩ := own_files h HDN.out
    injection e with e1 _ e2
    subst e1 e2
    have := l12Files_any a c (doF L o) W hf (by rw [HDN.out]; omega) (by rw [totTo_all]; omega) (fun j hj => shrt_at hd3 j hj)
    rw [HDN.out, hb] at this
    exact this
  have CP : Hid (∀ W : World, Below w.heap.size w W → Calls Try.prog 41 #[.agg #[.slice la ln lc, .slice sa sn sc, .slice oa on oc]] W fun e w' => ∃ a1 c1 a2 c2 a3 c3, e = .returned (.agg #[.slice a1 ln c1, .slice a2 sn c2, .slice a3 on c3]) ∧ Below W.heap.size W w' ∧ DA w' W.heap.size (.slice a1 ln c1) (.slice a2 sn c2) (.slice a3 on c3) L S O) := fun W hW => l12Copy_any la sa oa lc sc oc ln sn on L S O W (HD0.out.below hW) HLN.out HSN.out HON.out (by omega) bs bo
  clear hD hLn hSn hOn hfl hd2 hd3 hd4 hd5
  obtain ⟨a0, a1, a2⟩ := cells3 RA0.out
  obtain ⟨p0, p1, p2, p3⟩ := cells4 RP0.out
  rcases act_cases L O o with ⟨hf, e1, e2, e3⟩ | ⟨hf, ho, e1, e2, e3⟩ | ⟨hf, ho, h200, e1, e2, e3⟩ | ⟨hf, ho, h200, hfd, e1, e2, e3⟩ | ⟨hf, ho, h200, hfd, e1, e2, e3⟩
  · rw [e1] at hk
    rw [e2] at hx1 ⊢
    rw [e3] at hx3 ⊢
    have hx1 : ln = x1 := HLN.out.symm.trans hx1
    have hx3 : on = x3 := HON.out.symm.trans hx3
    subst hx1 hx3 hk
    clear e1 e2 e3
    go_enter Try.func35, Try.ntmps35
    go_wp2_with fail
    refine (FM.out _ _ hf).mono ?_
    rintro e w1 ⟨rfl, hb1⟩
    have B1 : Hid (Below w.heap.size w w1) := B0.out.trans (hb1.mono B0.out.size)
    have RA1 : Hid (w1.heap[w.heap.size]? = some (.cells #[.slice la ln lc, .slice sa sn sc, .slice oa on oc] 27 (0, 0))) := below_row hb1 (row_lt RA0.out) RA0.out
    have RP1 : Hid (w1.heap[w.heap.size + 1]? = some (.cells #[.int .i64 o.k, .string o.n, .string o.t, .string o.d] 36 (0, 0))) := below_row hb1 (row_lt RP0.out) RP0.out
    have RB1 : Hid (w1.heap[w.heap.size + 2]? = some (.cells #[.slice none 0 0, .slice none 0 0, .slice none 0 0] 27 (0, 0))) := below_row hb1 (row_lt RB0.out) RB0.out
    clear B0 RA0 RP0 RB0
    clear hb1 a0 a1 a2 p0 p1 p2 p3
    obtain ⟨zra1_0, zra1_1, zra1_2⟩ := cells3 RA1.out
    go_wp2_with fail
    refine (CP.out w1 B1.out).mono ?_
    rintro e w9 ⟨a1, c1, a2, c2, a3, c3, rfl, hb9, hd9⟩
    have HS9 := B1.out.size
    have B9 : Hid (Below w.heap.size w w9) := B1.out.trans (hb9.mono B1.out.size)
    have RA9 : Hid (w9.heap[w.heap.size]? = some (.cells #[.slice la ln lc, .slice sa sn sc, .slice oa on oc] 27 (0, 0))) := below_row hb9 (row_lt RA1.out) RA1.out
    have RP9 : Hid (w9.heap[w.heap.size + 1]? = some (.cells #[.int .i64 o.k, .string o.n, .string o.t, .string o.d] 36 (0, 0))) := below_row hb9 (row_lt RP1.out) RP1.out
    have RB9 : Hid (w9.heap[w.heap.size + 2]? = some (.cells #[.slice none 0 0, .slice none 0 0, .slice none 0 0] 27 (0, 0))) := below_row hb9 (row_lt RB1.out) RB1.out
    clear B1 RA1 RP1 RB1
    have FN : Hid (∀ x y z, Below w.heap.size w (((w9.setCell ⟨w.heap.size + 2, 0, none⟩ x).setCell ⟨w.heap.size + 2, 1, none⟩ y).setCell ⟨w.heap.size + 2, 2, none⟩ z) ∧ DA (((w9.setCell ⟨w.heap.size + 2, 0, none⟩ x).setCell ⟨w.heap.size + 2, 1, none⟩ y).setCell ⟨w.heap.size + 2, 2, none⟩ z) w.heap.size (.slice a1 ln c1) (.slice a2 sn c2) (.slice a3 on c3) L S O) := fun x y z => boxedAt (by omega) B9.out (hd9.bse HS9) RB9.out
    clear zra1_0 zra1_1 zra1_2
    clear hb9 hd9
    obtain ⟨zrb9_0, zrb9_1, zrb9_2⟩ := cells3 RB9.out
    have rf := fun i => frozen_of_row _ _ i _ _ RB9.out
    go_wp2
    refine bodyPost_ret (v := .tuple #[.agg #[.slice a1 ln c1, .slice a2 sn c2, .slice a3 on c3], .int .i64 2]) (by simp [results, Try.results35, go_sem, zrb9_0, zrb9_1, zrb9_2]) rfl ⟨_, _, _, _, _, _, rfl, (FN.out _ _ _).1, (FN.out _ _ _).2⟩
  · rw [e1] at hk
    rw [e2] at hx1 ⊢
    rw [e3] at hx3 ⊢
    have hx1 : ln = x1 := HLN.out.symm.trans hx1
    have hx3 : on = x3 := HON.out.symm.trans hx3
    subst hx1 hx3 hk
    clear e1 e2 e3
    go_enter Try.func35, Try.ntmps35
    go_wp2_with fail
    refine (FM.out _ _ hf).mono ?_
    rintro e w1 ⟨rfl, hb1⟩
    have B1 : Hid (Below w.heap.size w w1) := B0.out.trans (hb1.mono B0.out.size)
    have RA1 : Hid (w1.heap[w.heap.size]? = some (.cells #[.slice la ln lc, .slice sa sn sc, .slice oa on oc] 27 (0, 0))) := below_row hb1 (row_lt RA0.out) RA0.out
    have RP1 : Hid (w1.heap[w.heap.size + 1]? = some (.cells #[.int .i64 o.k, .string o.n, .string o.t, .string o.d] 36 (0, 0))) := below_row hb1 (row_lt RP0.out) RP0.out
    have RB1 : Hid (w1.heap[w.heap.size + 2]? = some (.cells #[.slice none 0 0, .slice none 0 0, .slice none 0 0] 27 (0, 0))) := below_row hb1 (row_lt RB0.out) RB0.out
    clear B0 RA0 RP0 RB0
    clear hb1 a0 a1 a2 p0 p1 p2 p3
    obtain ⟨zra1_0, zra1_1, zra1_2⟩ := cells3 RA1.out
    obtain ⟨zrp1_0, zrp1_1, zrp1_2, zrp1_3⟩ := cells4 RP1.out
    go_wp2_with fail
    refine (DO.out w1 B1.out _ ho).mono ?_
    rintro e w2 ⟨na, nc, rfl, hb2, hn2⟩
    have NL : Hid (w1.heap.size ≤ w2.heap.size ∧ w.heap.size ≤ w1.heap.size) := ⟨hb2.size, B1.out.size⟩
    have B2 : Hid (Below w.heap.size w w2) := B1.out.trans (hb2.mono B1.out.size)
    have RA2 : Hid (w2.heap[w.heap.size]? = some (.cells #[.slice la ln lc, .slice sa sn sc, .slice oa on oc] 27 (0, 0))) := below_row hb2 (row_lt RA1.out) RA1.out
    have RP2 : Hid (w2.heap[w.heap.size + 1]? = some (.cells #[.int .i64 o.k, .string o.n, .string o.t, .string o.d] 36 (0, 0))) := below_row hb2 (row_lt RP1.out) RP1.out
    have RB2 : Hid (w2.heap[w.heap.size + 2]? = some (.cells #[.slice none 0 0, .slice none 0 0, .slice none 0 0] 27 (0, 0))) := below_row hb2 (row_lt RB1.out) RB1.out
    clear B1 RA1 RP1 RB1
    have N2 : Hid (w2.ownsRow w1.heap.size 55 2 (.slice na dn nc) dn (rowF (doF L o))) := hn2
    clear zra1_0 zra1_1 zra1_2 zrp1_0 zrp1_1 zrp1_2 zrp1_3
    clear hb2 hn2
    obtain ⟨zra2_0, zra2_1, zra2_2⟩ := cells3 RA2.out
    go_wp2_with fail
    refine (CP.out w2 B2.out).mono ?_
    rintro e w9 ⟨a1, c1, a2, c2, a3, c3, rfl, hb9, hd9⟩
    have HS9 := B2.out.size
    have B9 : Hid (Below w.heap.size w w9) := B2.out.trans (hb9.mono B2.out.size)
    have RA9 : Hid (w9.heap[w.heap.size]? = some (.cells #[.slice la ln lc, .slice sa sn sc, .slice oa on oc] 27 (0, 0))) := below_row hb9 (row_lt RA2.out) RA2.out
    have RP9 : Hid (w9.heap[w.heap.size + 1]? = some (.cells #[.int .i64 o.k, .string o.n, .string o.t, .string o.d] 36 (0, 0))) := below_row hb9 (row_lt RP2.out) RP2.out
    have RB9 : Hid (w9.heap[w.heap.size + 2]? = some (.cells #[.slice none 0 0, .slice none 0 0, .slice none 0 0] 27 (0, 0))) := below_row hb9 (row_lt RB2.out) RB2.out
    clear B2 RA2 RP2 RB2
    have FN : Hid (∀ x y z, Below w.heap.size w (((w9.setCell ⟨w.heap.size + 2, 0, none⟩ x).setCell ⟨w.heap.size + 2, 1, none⟩ y).setCell ⟨w.heap.size + 2, 2, none⟩ z) ∧ DA (((w9.setCell ⟨w.heap.size + 2, 0, none⟩ x).setCell ⟨w.heap.size + 2, 1, none⟩ y).setCell ⟨w.heap.size + 2, 2, none⟩ z) w.heap.size (.slice a1 ln c1) (.slice a2 sn c2) (.slice a3 on c3) L S O) := fun x y z => boxedAt (by omega) B9.out (hd9.bse HS9) RB9.out
    clear zra2_0 zra2_1 zra2_2
    clear hb9 hd9
    obtain ⟨zrb9_0, zrb9_1, zrb9_2⟩ := cells3 RB9.out
    have rf := fun i => frozen_of_row _ _ i _ _ RB9.out
    go_wp2
    refine bodyPost_ret (v := .tuple #[.agg #[.slice a1 ln c1, .slice a2 sn c2, .slice a3 on c3], .int .i64 3]) (by simp [results, Try.results35, go_sem, zrb9_0, zrb9_1, zrb9_2]) rfl ⟨_, _, _, _, _, _, rfl, (FN.out _ _ _).1, (FN.out _ _ _).2⟩
  · rw [e1] at hk
    rw [e2] at hx1 ⊢
    rw [e3] at hx3 ⊢
    have hx1 : ln = x1 := HLN.out.symm.trans hx1
    have hx3 : on = x3 := HON.out.symm.trans hx3
    subst hx1 hx3 hk
    clear e1 e2 e3
    have h200 : on = 200 := by rw [← HON.out]; exact h200
    have h2i : ((on : Int) == 200) = true := by simp; omega
    clear h200
    go_enter Try.func35, Try.ntmps35
    go_wp2_with fail
    refine (FM.out _ _ hf).mono ?_
    rintro e w1 ⟨rfl, hb1⟩
    have B1 : Hid (Below w.heap.size w w1) := B0.out.trans (hb1.mono B0.out.size)
    have RA1 : Hid (w1.heap[w.heap.size]? = some (.cells #[.slice la ln lc, .slice sa sn sc, .slice oa on oc] 27 (0, 0))) := below_row hb1 (row_lt RA0.out) RA0.out
    have RP1 : Hid (w1.heap[w.heap.size + 1]? = some (.cells #[.int .i64 o.k, .string o.n, .string o.t, .string o.d] 36 (0, 0))) := below_row hb1 (row_lt RP0.out) RP0.out
    have RB1 : Hid (w1.heap[w.heap.size + 2]? = some (.cells #[.slice none 0 0, .slice none 0 0, .slice none 0 0] 27 (0, 0))) := below_row hb1 (row_lt RB0.out) RB0.out
    clear B0 RA0 RP0 RB0
    clear hb1 a0 a1 a2 p0 p1 p2 p3
    obtain ⟨zra1_0, zra1_1, zra1_2⟩ := cells3 RA1.out
    obtain ⟨zrp1_0, zrp1_1, zrp1_2, zrp1_3⟩ := cells4 RP1.out
    go_wp2_with fail
    refine (DO.out w1 B1.out _ ho).mono ?_
    rintro e w2 ⟨na, nc, rfl, hb2, hn2⟩
    have NL : Hid (w1.heap.size ≤ w2.heap.size ∧ w.heap.size ≤ w1.heap.size) := ⟨hb2.size, B1.out.size⟩
    have B2 : Hid (Below w.heap.size w w2) := B1.out.trans (hb2.mono B1.out.size)
    have RA2 : Hid (w2.heap[w.heap.size]? = some (.cells #[.slice la ln lc, .slice sa sn sc, .slice oa on oc] 27 (0, 0))) := below_row hb2 (row_lt RA1.out) RA1.out
    have RP2 : Hid (w2.heap[w.heap.size + 1]? = some (.cells #[.int .i64 o.k, .string o.n, .string o.t, .string o.d] 36 (0, 0))) := below_row hb2 (row_lt RP1.out) RP1.out
    have RB2 : Hid (w2.heap[w.heap.size + 2]? = some (.cells #[.slice none 0 0, .slice none 0 0, .slice none 0 0] 27 (0, 0))) := below_row hb2 (row_lt RB1.out) RB1.out
    clear B1 RA1 RP1 RB1
    have N2 : Hid (w2.ownsRow w1.heap.size 55 2 (.slice na dn nc) dn (rowF (doF L o))) := hn2
    clear zra1_0 zra1_1 zra1_2 zrp1_0 zrp1_1 zrp1_2 zrp1_3
    clear hb2 hn2
    obtain ⟨zra2_0, zra2_1, zra2_2⟩ := cells3 RA2.out
    go_wp2_with fail
    refine (CP.out w2 B2.out).mono ?_
    rintro e w9 ⟨a1, c1, a2, c2, a3, c3, rfl, hb9, hd9⟩
    have HS9 := B2.out.size
    have B9 : Hid (Below w.heap.size w w9) := B2.out.trans (hb9.mono B2.out.size)
    have RA9 : Hid (w9.heap[w.heap.size]? = some (.cells #[.slice la ln lc, .slice sa sn sc, .slice oa on oc] 27 (0, 0))) := below_row hb9 (row_lt RA2.out) RA2.out
    have RP9 : Hid (w9.heap[w.heap.size + 1]? = some (.cells #[.int .i64 o.k, .string o.n, .string o.t, .string o.d] 36 (0, 0))) := below_row hb9 (row_lt RP2.out) RP2.out
    have RB9 : Hid (w9.heap[w.heap.size + 2]? = some (.cells #[.slice none 0 0, .slice none 0 0, .slice none 0 0] 27 (0, 0))) := below_row hb9 (row_lt RB2.out) RB2.out
    clear B2 RA2 RP2 RB2
    have FN : Hid (∀ x y z, Below w.heap.size w (((w9.setCell ⟨w.heap.size + 2, 0, none⟩ x).setCell ⟨w.heap.size + 2, 1, none⟩ y).setCell ⟨w.heap.size + 2, 2, none⟩ z) ∧ DA (((w9.setCell ⟨w.heap.size + 2, 0, none⟩ x).setCell ⟨w.heap.size + 2, 1, none⟩ y).setCell ⟨w.heap.size + 2, 2, none⟩ z) w.heap.size (.slice a1 ln c1) (.slice a2 sn c2) (.slice a3 on c3) L S O) := fun x y z => boxedAt (by omega) B9.out (hd9.bse HS9) RB9.out
    clear zra2_0 zra2_1 zra2_2
    clear hb9 hd9
    obtain ⟨zrb9_0, zrb9_1, zrb9_2⟩ := cells3 RB9.out
    have rf := fun i => frozen_of_row _ _ i _ _ RB9.out
    go_wp2
    refine bodyPost_ret (v := .tuple #[.agg #[.slice a1 ln c1, .slice a2 sn c2, .slice a3 on c3], .int .i64 4]) (by simp [results, Try.results35, go_sem, zrb9_0, zrb9_1, zrb9_2]) rfl ⟨_, _, _, _, _, _, rfl, (FN.out _ _ _).1, (FN.out _ _ _).2⟩
  · rw [e1] at hk
    rw [e2] at hx1 ⊢
    rw [e3] at hx3 ⊢
    have hx1 : ln = x1 := HLN.out.symm.trans hx1
    have hx3 : on = x3 := HON.out.symm.trans hx3
    subst hx1 hx3 hk
    clear e1 e2 e3
    have h200 : ¬ (on = 200) := by rw [← HON.out]; exact h200
    have h2i : ((on : Int) == 200) = false := by simp; omega
    have h2j : ¬ ((on : Int) = 200) := by omega
    go_enter Try.func35, Try.ntmps35
    go_wp2_with fail
    refine (FM.out _ _ hf).mono ?_
    rintro e w1 ⟨rfl, hb1⟩
    have B1 : Hid (Below w.heap.size w w1) := B0.out.trans (hb1.mono B0.out.size)
    have RA1 : Hid (w1.heap[w.heap.size]? = some (.cells #[.slice la ln lc, .slice sa sn sc, .slice oa on oc] 27 (0, 0))) := below_row hb1 (row_lt RA0.out) RA0.out
    have RP1 : Hid (w1.heap[w.heap.size + 1]? = some (.cells #[.int .i64 o.k, .string o.n, .string o.t, .string o.d] 36 (0, 0))) := below_row hb1 (row_lt RP0.out) RP0.out
    have RB1 : Hid (w1.heap[w.heap.size + 2]? = some (.cells #[.slice none 0 0, .slice none 0 0, .slice none 0 0] 27 (0, 0))) := below_row hb1 (row_lt RB0.out) RB0.out
    clear B0 RA0 RP0 RB0
    clear hb1 a0 a1 a2 p0 p1 p2 p3
    obtain ⟨zra1_0, zra1_1, zra1_2⟩ := cells3 RA1.out
    obtain ⟨zrp1_0, zrp1_1, zrp1_2, zrp1_3⟩ := cells4 RP1.out
    go_wp2_with fail
    refine (DO.out w1 B1.out _ ho).mono ?_
    rintro e w2 ⟨na, nc, rfl, hb2, hn2⟩
    have NL : Hid (w1.heap.size ≤ w2.heap.size ∧ w.heap.size ≤ w1.heap.size) := ⟨hb2.size, B1.out.size⟩
    have B2 : Hid (Below w.heap.size w w2) := B1.out.trans (hb2.mono B1.out.size)
    have RA2 : Hid (w2.heap[w.heap.size]? = some (.cells #[.slice la ln lc, .slice sa sn sc, .slice oa on oc] 27 (0, 0))) := below_row hb2 (row_lt RA1.out) RA1.out
    have RP2 : Hid (w2.heap[w.heap.size + 1]? = some (.cells #[.int .i64 o.k, .string o.n, .string o.t, .string o.d] 36 (0, 0))) := below_row hb2 (row_lt RP1.out) RP1.out
    have RB2 : Hid (w2.heap[w.heap.size + 2]? = some (.cells #[.slice none 0 0, .slice none 0 0, .slice none 0 0] 27 (0, 0))) := below_row hb2 (row_lt RB1.out) RB1.out
    clear B1 RA1 RP1 RB1
    have N2 : Hid (w2.ownsRow w1.heap.size 55 2 (.slice na dn nc) dn (rowF (doF L o))) := hn2
    clear zra1_0 zra1_1 zra1_2 zrp1_0 zrp1_1 zrp1_2 zrp1_3
    clear hb2 hn2
    obtain ⟨zra2_0, zra2_1, zra2_2⟩ := cells3 RA2.out
    go_wp2_with fail
    refine (FI.out w2 _ _ _ N2.out _ hfd).mono ?_
    rintro e w3 ⟨rfl, hb3⟩
    have B3 : Hid (Below w.heap.size w w3) := B2.out.trans (hb3.mono B2.out.size)
    have RA3 : Hid (w3.heap[w.heap.size]? = some (.cells #[.slice la ln lc, .slice sa sn sc, .slice oa on oc] 27 (0, 0))) := below_row hb3 (row_lt RA2.out) RA2.out
    have RP3 : Hid (w3.heap[w.heap.size + 1]? = some (.cells #[.int .i64 o.k, .string o.n, .string o.t, .string o.d] 36 (0, 0))) := below_row hb3 (row_lt RP2.out) RP2.out
    have RB3 : Hid (w3.heap[w.heap.size + 2]? = some (.cells #[.slice none 0 0, .slice none 0 0, .slice none 0 0] 27 (0, 0))) := below_row hb3 (row_lt RB2.out) RB2.out
    have N3 : Hid (w3.ownsRow w1.heap.size 55 2 (.slice na dn nc) dn (rowF (doF L o))) := own_blw N2.out hb3
    clear B2 RA2 RP2 RB2 N2
    clear zra2_0 zra2_1 zra2_2
    clear hb3
    obtain ⟨zra3_0, zra3_1, zra3_2⟩ := cells3 RA3.out
    go_wp2_with fail
    refine (CP.out w3 B3.out).mono ?_
    rintro e w9 ⟨a1, c1, a2, c2, a3, c3, rfl, hb9, hd9⟩
    have HS9 := B3.out.size
    have B9 : Hid (Below w.heap.size w w9) := B3.out.trans (hb9.mono B3.out.size)
    have RA9 : Hid (w9.heap[w.heap.size]? = some (.cells #[.slice la ln lc, .slice sa sn sc, .slice oa on oc] 27 (0, 0))) := below_row hb9 (row_lt RA3.out) RA3.out
    have RP9 : Hid (w9.heap[w.heap.size + 1]? = some (.cells #[.int .i64 o.k, .string o.n, .string o.t, .string o.d] 36 (0, 0))) := below_row hb9 (row_lt RP3.out) RP3.out
    have RB9 : Hid (w9.heap[w.heap.size + 2]? = some (.cells #[.slice none 0 0, .slice none 0 0, .slice none 0 0] 27 (0, 0))) := below_row hb9 (row_lt RB3.out) RB3.out
    clear B3 RA3 RP3 RB3
    have FN : Hid (∀ x y z, Below w.heap.size w (((w9.setCell ⟨w.heap.size + 2, 0, none⟩ x).setCell ⟨w.heap.size + 2, 1, none⟩ y).setCell ⟨w.heap.size + 2, 2, none⟩ z) ∧ DA (((w9.setCell ⟨w.heap.size + 2, 0, none⟩ x).setCell ⟨w.heap.size + 2, 1, none⟩ y).setCell ⟨w.heap.size + 2, 2, none⟩ z) w.heap.size (.slice a1 ln c1) (.slice a2 sn c2) (.slice a3 on c3) L S O) := fun x y z => boxedAt (by omega) B9.out (hd9.bse HS9) RB9.out
    clear zra3_0 zra3_1 zra3_2
    clear hb9 hd9
    obtain ⟨zrb9_0, zrb9_1, zrb9_2⟩ := cells3 RB9.out
    have rf := fun i => frozen_of_row _ _ i _ _ RB9.out
    go_wp2
    refine bodyPost_ret (v := .tuple #[.agg #[.slice a1 ln c1, .slice a2 sn c2, .slice a3 on c3], .int .i64 4]) (by simp [results, Try.results35, go_sem, zrb9_0, zrb9_1, zrb9_2]) rfl ⟨_, _, _, _, _, _, rfl, (FN.out _ _ _).1, (FN.out _ _ _).2⟩
  · rw [e1] at hk
    rw [e2] at hx1 ⊢
    rw [e3] at hx3 ⊢
    have hx1 : dn = x1 := HDN.out.symm.trans hx1
    have hx3 : on + 1 = x3 := by rw [← hx3, List.length_append, HON.out]; rfl
    subst hx1 hx3 hk
    clear e1 e2 e3
    have h200 : ¬ (on = 200) := by rw [← HON.out]; exact h200
    have h2i : ((on : Int) == 200) = false := by simp; omega
    have h2j : ¬ ((on : Int) = 200) := by omega
    go_enter Try.func35, Try.ntmps35
    go_wp2_with fail
    refine (FM.out _ _ hf).mono ?_
    rintro e w1 ⟨rfl, hb1⟩
    have B1 : Hid (Below w.heap.size w w1) := B0.out.trans (hb1.mono B0.out.size)
    have RA1 : Hid (w1.heap[w.heap.size]? = some (.cells #[.slice la ln lc, .slice sa sn sc, .slice oa on oc] 27 (0, 0))) := below_row hb1 (row_lt RA0.out) RA0.out
    have RP1 : Hid (w1.heap[w.heap.size + 1]? = some (.cells #[.int .i64 o.k, .string o.n, .string o.t, .string o.d] 36 (0, 0))) := below_row hb1 (row_lt RP0.out) RP0.out
    have RB1 : Hid (w1.heap[w.heap.size + 2]? = some (.cells #[.slice none 0 0, .slice none 0 0, .slice none 0 0] 27 (0, 0))) := below_row hb1 (row_lt RB0.out) RB0.out
    clear B0 RA0 RP0 RB0
    clear hb1 a0 a1 a2 p0 p1 p2 p3
    obtain ⟨zra1_0, zra1_1, zra1_2⟩ := cells3 RA1.out
    obtain ⟨zrp1_0, zrp1_1, zrp1_2, zrp1_3⟩ := cells4 RP1.out
    go_wp2_with fail
    refine (DO.out w1 B1.out _ ho).mono ?_
    rintro e w2 ⟨na, nc, rfl, hb2, hn2⟩
    have NL : Hid (w1.heap.size ≤ w2.heap.size ∧ w.heap.size ≤ w1.heap.size) := ⟨hb2.size, B1.out.size⟩
    have B2 : Hid (Below w.heap.size w w2) := B1.out.trans (hb2.mono B1.out.size)
    have RA2 : Hid (w2.heap[w.heap.size]? = some (.cells #[.slice la ln lc, .slice sa sn sc, .slice oa on oc] 27 (0, 0))) := below_row hb2 (row_lt RA1.out) RA1.out
    have RP2 : Hid (w2.heap[w.heap.size + 1]? = some (.cells #[.int .i64 o.k, .string o.n, .string o.t, .string o.d] 36 (0, 0))) := below_row hb2 (row_lt RP1.out) RP1.out
    have RB2 : Hid (w2.heap[w.heap.size + 2]? = some (.cells #[.slice none 0 0, .slice none 0 0, .slice none 0 0] 27 (0, 0))) := below_row hb2 (row_lt RB1.out) RB1.out
    clear B1 RA1 RP1 RB1
    have N2 : Hid (w2.ownsRow w1.heap.size 55 2 (.slice na dn nc) dn (rowF (doF L o))) := hn2
    clear zra1_0 zra1_1 zra1_2 zrp1_0 zrp1_1 zrp1_2 zrp1_3
    clear hb2 hn2
    obtain ⟨zra2_0, zra2_1, zra2_2⟩ := cells3 RA2.out
    go_wp2_with fail
    refine (FI.out w2 _ _ _ N2.out _ hfd).mono ?_
    rintro e w3 ⟨rfl, hb3⟩
    have LN : Hid (∀ k, (Value.slice na dn nc).ownBlock = some k → k < w3.heap.size) := fun k h => Nat.lt_of_lt_of_le (N2.out.lt k h).2 hb3.size
    have B3 : Hid (Below w.heap.size w w3) := B2.out.trans (hb3.mono B2.out.size)
    have RA3 : Hid (w3.heap[w.heap.size]? = some (.cells #[.slice la ln lc, .slice sa sn sc, .slice oa on oc] 27 (0, 0))) := below_row hb3 (row_lt RA2.out) RA2.out
    have RP3 : Hid (w3.heap[w.heap.size + 1]? = some (.cells #[.int .i64 o.k, .string o.n, .string o.t, .string o.d] 36 (0, 0))) := below_row hb3 (row_lt RP2.out) RP2.out
    have RB3 : Hid (w3.heap[w.heap.size + 2]? = some (.cells #[.slice none 0 0, .slice none 0 0, .slice none 0 0] 27 (0, 0))) := below_row hb3 (row_lt RB2.out) RB2.out
    have N3 : Hid (w3.ownsRow w1.heap.size 55 2 (.slice na dn nc) dn (rowF (doF L o))) := own_blw N2.out hb3
    clear B2 RA2 RP2 RB2 N2
    clear zra2_0 zra2_1 zra2_2
    clear hb3
    obtain ⟨zra3_0, zra3_1, zra3_2⟩ := cells3 RA3.out
    go_wp2_with fail
    refine (CP.out w3 B3.out).mono ?_
    rintro e w4 ⟨a1, c1, a2, c2, a3, c3, rfl, hb4, hd4⟩
    have HB4 : Hid (w3.heap.size ≤ w4.heap.size) := hb4.size
    have LB : Hid (w.heap.size ≤ w3.heap.size) := B3.out.size
    have B4 : Hid (Below w.heap.size w w4) := B3.out.trans (hb4.mono B3.out.size)
    have RA4 : Hid (w4.heap[w.heap.size]? = some (.cells #[.slice la ln lc, .slice sa sn sc, .slice oa on oc] 27 (0, 0))) := below_row hb4 (row_lt RA3.out) RA3.out
    have RP4 : Hid (w4.heap[w.heap.size + 1]? = some (.cells #[.int .i64 o.k, .string o.n, .string o.t, .string o.d] 36 (0, 0))) := below_row hb4 (row_lt RP3.out) RP3.out
    have RB4 : Hid (w4.heap[w.heap.size + 2]? = some (.cells #[.slice none 0 0, .slice none 0 0, .slice none 0 0] 27 (0, 0))) := below_row hb4 (row_lt RB3.out) RB3.out
    have N4 : Hid (w4.ownsRow w1.heap.size 55 2 (.slice na dn nc) dn (rowF (doF L o))) := own_blw N3.out hb4
    clear B3 RA3 RP3 RB3 N3
    have C4 : Hid (DA w4 w3.heap.size (.slice a1 ln c1) (.slice a2 sn c2) (.slice a3 on c3) L S O) := hd4
    clear zra3_0 zra3_1 zra3_2
    clear hb4 hd4
    have RB4x : Hid (w4.heap[w.heap.size + 2]? = some (.cells #[.slice none 0 0, .slice none 0 0, .slice none 0 0] 27 (0, 0))) := RB4.out
    have LB4 : Hid (w3.heap.size ≤ w4.heap.size) := by show _ ≤ _; exact HB4.out
    have E0 : Below w4.heap.size w4 (w4.alloc (.cells #[.slice a1 ln c1, .slice a2 sn c2, .slice a3 on c3] 27)) := (Below.refl _ _).alloc (Nat.le_refl _) _
    have Q0 : (w4.alloc (.cells #[.slice a1 ln c1, .slice a2 sn c2, .slice a3 on c3] 27)).heap[w4.heap.size]? = some (.cells #[.slice a1 ln c1, .slice a2 sn c2, .slice a3 on c3] 27 (0, 0)) := heap_alloc_new _ _
    have E1 : Below w4.heap.size w4 (w4.alloc (.cells #[.slice na dn nc, .slice a2 sn c2, .slice a3 on c3] 27)) := (Below.refl _ _).alloc (Nat.le_refl _) _
    have Q1 : (w4.alloc (.cells #[.slice na dn nc, .slice a2 sn c2, .slice a3 on c3] 27)).heap[w4.heap.size]? = some (.cells #[.slice na dn nc, .slice a2 sn c2, .slice a3 on c3] 27 (0, 0)) := heap_alloc_new _ _
    have E2 : Below w4.heap.size w4 ((w4.alloc (.cells #[.slice na dn nc, .slice a2 sn c2, .slice a3 on c3] 27)).alloc (.cells #[.int .i64 o.k, .string o.n, .string o.t, .string o.d] 36)) := E1.alloc E1.size _
    have Q2 : Hid (((w4.alloc (.cells #[.slice na dn nc, .slice a2 sn c2, .slice a3 on c3] 27)).alloc (.cells #[.int .i64 o.k, .string o.n, .string o.t, .string o.d] 36)).heap[w4.heap.size]? = some (.cells #[.slice na dn nc, .slice a2 sn c2, .slice a3 on c3] 27 (0, 0))) := (heap_alloc_old _ _ (row_lt Q1)).trans Q1
    obtain ⟨g0, g1, g2⟩ := cells3 Q0
    have gf := fun i => frozen_of_row _ _ i _ _ Q0
    obtain ⟨j0, j1, j2⟩ := cells3 Q1
    have PC := cells4 (below_row E1 (row_lt RP4.out) RP4.out)
    obtain ⟨t0, t1, t2, t3⟩ := PC
    have HQ5 : Hid ((w4.alloc (.cells #[.slice na dn nc, .slice a2 sn c2, .slice a3 on c3] 27)).heap.size = w4.heap.size + 1) := by show _ = _; simp
    have B5 : Hid (Below w.heap.size w ((w4.alloc (.cells #[.slice na dn nc, .slice a2 sn c2, .slice a3 on c3] 27)).alloc (.cells #[.int .i64 o.k, .string o.n, .string o.t, .string o.d] 36))) := B4.out.trans (E2.mono B4.out.size)
    have RA5 : Hid (((w4.alloc (.cells #[.slice na dn nc, .slice a2 sn c2, .slice a3 on c3] 27)).alloc (.cells #[.int .i64 o.k, .string o.n, .string o.t, .string o.d] 36)).heap[w.heap.size]? = some (.cells #[.slice la ln lc, .slice sa sn sc, .slice oa on oc] 27 (0, 0))) := below_row E2 (row_lt RA4.out) RA4.out
    have RP5 : Hid (((w4.alloc (.cells #[.slice na dn nc, .slice a2 sn c2, .slice a3 on c3] 27)).alloc (.cells #[.int .i64 o.k, .string o.n, .string o.t, .string o.d] 36)).heap[w.heap.size + 1]? = some (.cells #[.int .i64 o.k, .string o.n, .string o.t, .string o.d] 36 (0, 0))) := below_row E2 (row_lt RP4.out) RP4.out
    have RB5 : Hid (((w4.alloc (.cells #[.slice na dn nc, .slice a2 sn c2, .slice a3 on c3] 27)).alloc (.cells #[.int .i64 o.k, .string o.n, .string o.t, .string o.d] 36)).heap[w.heap.size + 2]? = some (.cells #[.slice none 0 0, .slice none 0 0, .slice none 0 0] 27 (0, 0))) := below_row E2 (row_lt RB4.out) RB4.out
    have N5 : Hid (((w4.alloc (.cells #[.slice na dn nc, .slice a2 sn c2, .slice a3 on c3] 27)).alloc (.cells #[.int .i64 o.k, .string o.n, .string o.t, .string o.d] 36)).ownsRow w1.heap.size 55 2 (.slice na dn nc) dn (rowF (doF L o))) := own_blw N4.out E2
    have C5 : Hid (DA ((w4.alloc (.cells #[.slice na dn nc, .slice a2 sn c2, .slice a3 on c3] 27)).alloc (.cells #[.int .i64 o.k, .string o.n, .string o.t, .string o.d] 36)) w3.heap.size (.slice a1 ln c1) (.slice a2 sn c2) (.slice a3 on c3) L S O) := C4.out.below E2
    clear B4 RA4 RP4 RB4 N4 C4
    have B5s : Hid (w4.heap.size ≤ ((w4.alloc (.cells #[.slice na dn nc, .slice a2 sn c2, .slice a3 on c3] 27)).alloc (.cells #[.int .i64 o.k, .string o.n, .string o.t, .string o.d] 36)).heap.size) := E2.size
    have OW : Hid (((w4.alloc (.cells #[.slice na dn nc, .slice a2 sn c2, .slice a3 on c3] 27)).alloc (.cells #[.int .i64 o.k, .string o.n, .string o.t, .string o.d] 36)).ownsRow w3.heap.size 36 4 (.slice a3 on c3) on (rowO O)) := by have := C5.out.d.o; rw [HON.out] at this; exact this
    have FN : Hid (∀ (V3 : World) ao co, ((w4.alloc (.cells #[.slice na dn nc, .slice a2 sn c2, .slice a3 on c3] 27)).alloc (.cells #[.int .i64 o.k, .string o.n, .string o.t, .string o.d] 36)).grownBy V3 (Value.slice a3 on c3).ownBlock → V3.ownsRow w3.heap.size 36 4 (.slice ao (on + 1) co) (on + 1) (rowO O ++ [.int .i64 o.k, .string o.n, .string o.t, .string o.d]) →
        V3.heap[w4.heap.size]? = some (.cells #[.slice na dn nc, .slice a2 sn c2, .slice a3 on c3] 27 (0, 0)) ∧ (V3.setCell ⟨w4.heap.size, 2, none⟩ (.slice ao (on + 1) co)).heap[w4.heap.size]? = some (.cells #[.slice na dn nc, .slice a2 sn c2, .slice ao (on + 1) co] 27 (0, 0)) ∧ (V3.setCell ⟨w4.heap.size, 2, none⟩ (.slice ao (on + 1) co)).heap[w.heap.size + 2]? = some (.cells #[.slice none 0 0, .slice none 0 0, .slice none 0 0] 27 (0, 0)) ∧
        ∀ x y z, Below w.heap.size w ((((V3.setCell ⟨w4.heap.size, 2, none⟩ (.slice ao (on + 1) co)).setCell ⟨w.heap.size + 2, 0, none⟩ x).setCell ⟨w.heap.size + 2, 1, none⟩ y).setCell ⟨w.heap.size + 2, 2, none⟩ z) ∧ DA ((((V3.setCell ⟨w4.heap.size, 2, none⟩ (.slice ao (on + 1) co)).setCell ⟨w.heap.size + 2, 0, none⟩ x).setCell ⟨w.heap.size + 2, 1, none⟩ y).setCell ⟨w.heap.size + 2, 2, none⟩ z) w.heap.size (.slice na dn nc) (.slice a2 sn c2) (.slice ao (on + 1) co) (doF L o) S (O ++ [o])) := by
      intro V3 ao co hg hown
      have oC := C5.out.d.o
      have q3 := (hg.block _ (row_lt Q2.out) (own_otherT oC Q2.out (by decide))).trans Q2.out
      have r3 := (hg.block _ (row_lt RB5.out) (own_otherT oC RB5.out (by decide))).trans RB5.out
      have q4 := heap_setCell_same _ w4.heap.size 2 _ _ (.slice ao (on + 1) co) q3
      have hne : w.heap.size + 2 ≠ w4.heap.size := by have := row_lt RB4x.out; omega
      have r4 : (V3.setCell ⟨w4.heap.size, 2, none⟩ (.slice ao (on + 1) co)).heap[w.heap.size + 2]? = some (.cells #[.slice none 0 0, .slice none 0 0, .slice none 0 0] 27 (0, 0)) := (heap_setCell_other _ _ _ _ hne).trans r3
      refine ⟨q3, q4, r4, fun x y z => boxedAt (by omega) ?_ ⟨⟨?_, ?_, ?_⟩, ?_⟩ r4⟩
      · refine Below.setCell ?_ (by have := row_lt RB4x.out; show w.heap.size ≤ w4.heap.size; omega) _
        refine B5.out.trans ?_
        exact ⟨hg.os, hg.tape, hg.output, hg.size, fun k hk => hg.block k (Nat.lt_of_lt_of_le hk B5.out.size) (fun e => by have := (oC.lt k e.symm).1; have := LB.out; omega)⟩
      · rw [HDN.out]
        exact own_setT (own_bse (own_grownT N5.out hg (fun k h1 h2 => by have := LN.out k h1; have := (oC.lt k h2).1; omega)) (NL.out.2)) q3 (by decide)
      · exact own_setT (own_bse (own_grownT C5.out.d.s hg (fun k h1 h2 => own_apartT C5.out.d.s oC (by decide) k h1 h2)) LB.out) q3 (by decide)
      · rw [rowO_snoc, List.length_append, HON.out]
        exact own_setT (own_bse hown LB.out) q3 (by decide)
      · intro k h1 h2
        have := LN.out k h1
        have := (C5.out.d.s.lt k h2).1
        omega
    clear E0 E1 E2 Q0 Q1
    go_wp2_with (first
      | (at_builtin
         refine append_vals Try.underlying25 infO56 rfl (by decide) _ rfl _ _ rfl w3.heap.size (.slice a3 on c3) on (rowO O) rfl OW.out (w4.heap.size + 1) 0 1 1 [.int .i64 o.k, .string o.n, .string o.t, .string o.d] rfl rfl (four_row _ _ _ _ _ _ _ HQ5.out) (by simp [Value.oneCell']) (by omega) (by omega) (Nat.le_trans LB4.out B5s.out) ?_
         intro v' V3 hown hg hbk hnl
         obtain ⟨ao, co, rfl⟩ := own_anyV hown
         obtain ⟨q3, q4, r4, hfin⟩ := FN.out V3 ao co hg hown
         have FX : Hid (∀ x y z, Below w.heap.size w ((((V3.setCell ⟨w4.heap.size, 2, none⟩ (.slice ao (on + 1) co)).setCell ⟨w.heap.size + 2, 0, none⟩ x).setCell ⟨w.heap.size + 2, 1, none⟩ y).setCell ⟨w.heap.size + 2, 2, none⟩ z) ∧ DA ((((V3.setCell ⟨w4.heap.size, 2, none⟩ (.slice ao (on + 1) co)).setCell ⟨w.heap.size + 2, 0, none⟩ x).setCell ⟨w.heap.size + 2, 1, none⟩ y).setCell ⟨w.heap.size + 2, 2, none⟩ z) w.heap.size (.slice na dn nc) (.slice a2 sn c2) (.slice ao (on + 1) co) (doF L o) S (O ++ [o])) := hfin
         obtain ⟨m0, m1, m2⟩ := cells3 q3
         have mf := fun i => frozen_of_row _ _ i _ _ q3
         obtain ⟨n0, n1, n2⟩ := cells3 q4
         obtain ⟨r0, r1, r2⟩ := cells3 r4
         have rf := fun i => frozen_of_row _ _ i _ _ r4
         clear hown hg hbk hnl q3 q4 r4 hfin))
    refine bodyPost_ret (v := .tuple #[.agg #[.slice na dn nc, .slice a2 sn c2, .slice ao (on + 1) co], .int .i64 0]) (by simp [results, Try.results35, go_sem, r0, r1, r2]) rfl ⟨_, _, _, _, _, _, rfl, (FX.out _ _ _).1, (FX.out _ _ _).2⟩

end Go.Proofs.Ytpahhhocgpohbaa
