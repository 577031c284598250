import Derived.Test.YtpahhhocgpohbaaPack18
import Derived.Test.YtpahhhocgpohbaaAppendFull
import Derived.Test.YtpahhhocgpohbaaSpecAct12
namespace Go.Proofs.Ytpahhhocgpohbaa
open Go.RowKit

/-- The box of an answer that shares is written last. -/
theorem DAt.boxed {w W : World} {q : Nat} {x y z : Value} {la sa oa : Option Addr} {L S : List FI} {O : List OP} (hq : w.heap.size ≤ q) (b : Below w.heap.size w W) (h : ∀ V, Below w.heap.size w V → DAt V la sa oa L S O) :
    Below w.heap.size w (((W.setCell ⟨q, 0, none⟩ x).setCell ⟨q, 1, none⟩ y).setCell ⟨q, 2, none⟩ z) ∧ DAt (((W.setCell ⟨q, 0, none⟩ x).setCell ⟨q, 1, none⟩ y).setCell ⟨q, 2, none⟩ z) la sa oa L S O := by
  have hb := ((b.setCell (p := ⟨q, 0, none⟩) hq x).setCell (p := ⟨q, 1, none⟩) hq y).setCell (p := ⟨q, 2, none⟩) hq z
  exact ⟨hb, h _ hb⟩
theorem own_capF {w : World} {base k e size n c : Nat} {ao : Option Addr} {xs : List Value} (h : w.ownsRow base e size (.slice ao n c) k xs) : n ≤ c ∧ (ao = none → n = 0 ∧ c = 0) := by
  obtain ⟨_, ⟨h1, h2⟩ | ⟨g, cap, cur, h2, _, _, h3, _⟩⟩ := h
  · injection h1 with e1 e2 e3
    subst e1 e2 e3
    exact ⟨Nat.le_refl _, fun _ => ⟨rfl, rfl⟩⟩
  · injection h2 with e1 e2 e3
    subst e1 e2 e3
    exact ⟨h3, fun h => by cases h⟩

theorem four_at {W : World} {T : TypeId} {x y z u : Value} {g : Nat} (h : W.heap[g]? = some (.cells #[x, y, z, u] T (0, 0))) : ∀ j v, [x, y, z, u][j]? = some v → W.cell? ⟨g, 0 + j, none⟩ = some v := by
  intro j v hv
  match j, hv with
  | 0, hv | 1, hv | 2, hv | 3, hv =>
    simp at hv
    subst hv
    rw [cell_of_row _ _ _ _ _ _ h]
    rfl
  | j + 4, hv => simp at hv

set_option maxHeartbeats 8000000 in
set_option maxRecDepth 20000 in
theorem withDone_any (la sa oa : Option Addr) (lc sc oc ln sn on x1 x3 : Nat) (kd : Int) (L S : List FI) (O : List OP) (o : OP) (w : World) (hD : DAt w la sa oa L S O) (hLn : L.length = ln) (_hSn : S.length = sn) (hOn : O.length = on) (hoc : on ≤ oc) (hon : oa = none → on = 0 ∧ oc = 0) (hfl : filB L = true) (_bs : sn ≤ 1048576) (bo : on ≤ 1048576)
    (z1 : o.n.size ≤ 2000000) (z2 : o.t.size ≤ 2000000) (z3 : o.d.size ≤ 1048576) (hk : actK L O o = kd) (hx1 : (actL L O o).length = x1) (hx3 : (actO L O o).length = x3) :
    Calls Try.prog 34 #[.agg #[.slice la ln lc, .slice sa sn sc, .slice oa on oc], .agg #[.int .i64 o.k, .string o.n, .string o.t, .string o.d]] w fun e w' => ∃ a1 c1 a3 c3, e = .returned (.tuple #[.agg #[.slice a1 x1 c1, .slice sa sn sc, .slice a3 x3 c3], .int .i64 kd]) ∧ Below w.heap.size w w' ∧ DAt w' a1 sa a3 (actL L O o) S (actO L O o) ∧ x3 ≤ c3 ∧ (a3 = none → x3 = 0 ∧ c3 = 0) := by
  obtain ⟨hd1, hd2, hd3, hd4, hd5⟩ := do_ok hfl z1 z2 z3
  have bl : ln ≤ 60 := by rw [← hLn]; exact (filB_true.1 hfl).1
  have B0 : Hid (Below w.heap.size w (((w.alloc (.cells #[.slice la ln lc, .slice sa sn sc, .slice oa on oc] 27)).alloc (.cells #[.int .i64 o.k, .string o.n, .string o.t, .string o.d] 36)).alloc (.cells #[.slice none 0 0, .slice none 0 0, .slice none 0 0] 27))) := (((Below.refl _ _).alloc (Nat.le_refl _) _).alloc (by simp) _).alloc (by simp; omega) _
  have RA0 : Hid ((((w.alloc (.cells #[.slice la ln lc, .slice sa sn sc, .slice oa on oc] 27)).alloc (.cells #[.int .i64 o.k, .string o.n, .string o.t, .string o.d] 36)).alloc (.cells #[.slice none 0 0, .slice none 0 0, .slice none 0 0] 27)).heap[w.heap.size]? = some (.cells #[.slice la ln lc, .slice sa sn sc, .slice oa on oc] 27 (0, 0))) := heap_alloc3_old _ _ _ _
  have RP0 : Hid ((((w.alloc (.cells #[.slice la ln lc, .slice sa sn sc, .slice oa on oc] 27)).alloc (.cells #[.int .i64 o.k, .string o.n, .string o.t, .string o.d] 36)).alloc (.cells #[.slice none 0 0, .slice none 0 0, .slice none 0 0] 27)).heap[w.heap.size + 1]? = some (.cells #[.int .i64 o.k, .string o.n, .string o.t, .string o.d] 36 (0, 0))) := heap_alloc3_mid _ _ _ _
  have RB0 : Hid ((((w.alloc (.cells #[.slice la ln lc, .slice sa sn sc, .slice oa on oc] 27)).alloc (.cells #[.int .i64 o.k, .string o.n, .string o.t, .string o.d] 36)).alloc (.cells #[.slice none 0 0, .slice none 0 0, .slice none 0 0] 27)).heap[w.heap.size + 2]? = some (.cells #[.slice none 0 0, .slice none 0 0, .slice none 0 0] 27 (0, 0))) := heap_alloc3_new _ _ _ _
  have HD0 : Hid (DAt w la sa oa L S O) := hD
  have HLN : Hid (L.length = ln) := hLn
  have HON : Hid (O.length = on) := hOn
  have HOC : Hid (on ≤ oc ∧ (oa = none → on = 0 ∧ oc = 0)) := ⟨hoc, hon⟩
  obtain ⟨dn, HDN⟩ : ∃ n, Hid ((doF L o).length = n) := ⟨_, rfl⟩
  have HDO : Hid (∀ (W : World) b, frmB o = b → Calls Try.prog 46 #[.agg #[.int .i64 o.k, .string o.n, .string o.t, .string o.d]] W fun e w' => ∃ v, e = .returned (.tuple #[v, .bool b]) ∧ (b = true → v = deedV o) ∧ Below W.heap.size W w') := fun W b hb => by
    rw [← hb]
    exact deedOf_any o W
  have SO : Hid (∀ W : World, Below w.heap.size w W → Calls Try.prog 45 #[.slice la ln lc] W fun e w' => ∃ fv T, e = .returned (.pointer (some ⟨W.heap.size, 0, none⟩)) ∧ Below W.heap.size W w' ∧ SH w' W.heap.size W.heap.size fv T ∧ keysG T = L ∧ ∀ g ∈ T, g.ps.length ≤ 1) := fun W hW => by
    have := shelfOf_any la lc L W (HD0.out.l.below hW) (by rw [HLN.out]; omega)
    rw [HLN.out] at this
    exact this
  have FT : Hid (frmB o = true → ∀ (W : World) base s fv T, SH W base s fv T → keysG T = doF L o → ∀ b, filB (doF L o) = b → Calls Try.prog 47 #[.pointer (some ⟨s, 0, none⟩)] W fun e w' => e = .returned (.bool b) ∧ Below W.heap.size W w') := fun hf W base s fv T h1 h2 b hb => by
    have := fits_any s base fv T W h1 (by rw [← keys_len, h2]; omega) (by rw [h2]; omega)
    rw [← keys_len T, h2, ← fit_do hfl hf, hb] at this
    exact this
  have LI : Hid (∀ (W : World) base s fv T, SH W base s fv T → keysG T = doF L o → (∀ g ∈ T, g.ps.length ≤ 2) → Calls Try.prog 49 #[.pointer (some ⟨s, 0, none⟩)] W fun e w' => ∃ ao co, e = .returned (.slice ao dn co) ∧ Below W.heap.size W w' ∧ w'.ownsRow W.heap.size 55 2 (.slice ao dn co) dn (rowF (doF L o))) := fun W base s fv T h1 h2 h3 => by
    have := list_any s base fv T W h1 (by rw [← keys_len, h2]; omega) (by rw [h2]; omega) (fun g hg => by have := h3 g hg; omega)
    rw [← keys_len T, h2, HDN.out] at this
    refine this.mono ?_
    rintro e w' ⟨v, rfl, h4, h5⟩
    obtain ⟨a, c, rfl⟩ := own_anyV h5
    exact ⟨a, c, rfl, h4, h5⟩
  have HR : Hid (RisF L ∧ totL L ≤ 200000 ∧ L.length ≤ 60) := ⟨hd4, hd5, by rw [hLn]; exact bl⟩
  rw [HDN.out] at hd1
  clear hD hLn hOn hoc hon hfl hd2 hd3 hd4 hd5
  obtain ⟨a0, a1, a2⟩ := cells3 RA0.out
  obtain ⟨p0, p1, p2, p3⟩ := cells4 RP0.out
  rcases act_cases L O o with ⟨hf, e1, e2, e3⟩ | ⟨hf, ho, e1, e2, e3⟩ | ⟨hf, ho, h200, e1, e2, e3⟩ | ⟨hf, ho, h200, hfd, e1, e2, e3⟩ | ⟨hf, ho, h200, hfd, e1, e2, e3⟩
  · rw [e1] at hk
    rw [e2] at hx1 ⊢
    rw [e3] at hx3 ⊢
    have hx1 : ln = x1 := HLN.out.symm.trans hx1
    have hx3 : on = x3 := HON.out.symm.trans hx3
    subst hx1 hx3 hk
    clear e1 e2 e3
    go_enter Try.func34, Try.ntmps34
    go_wp2_with fail
    refine (HDO.out _ _ hf).mono ?_
    rintro e w1 ⟨v, rfl, hv, hb1⟩
    have B1 : Hid (Below w.heap.size w w1) := B0.out.trans (hb1.mono B0.out.size)
    have RA1 : Hid (w1.heap[w.heap.size]? = some (.cells #[.slice la ln lc, .slice sa sn sc, .slice oa on oc] 27 (0, 0))) := below_row hb1 (row_lt RA0.out) RA0.out
    have RP1 : Hid (w1.heap[w.heap.size + 1]? = some (.cells #[.int .i64 o.k, .string o.n, .string o.t, .string o.d] 36 (0, 0))) := below_row hb1 (row_lt RP0.out) RP0.out
    have RB1 : Hid (w1.heap[w.heap.size + 2]? = some (.cells #[.slice none 0 0, .slice none 0 0, .slice none 0 0] 27 (0, 0))) := below_row hb1 (row_lt RB0.out) RB0.out
    clear B0 RA0 RP0 RB0
    clear hb1 a0 a1 a2 p0 p1 p2 p3
    clear hv
    obtain ⟨zra1_0, zra1_1, zra1_2⟩ := cells3 RA1.out
    obtain ⟨zrb1_0, zrb1_1, zrb1_2⟩ := cells3 RB1.out
    have rf := fun i => frozen_of_row _ _ i _ _ RB1.out
    have FN : Hid (∀ x y z, Below w.heap.size w (((w1.setCell ⟨w.heap.size + 2, 0, none⟩ x).setCell ⟨w.heap.size + 2, 1, none⟩ y).setCell ⟨w.heap.size + 2, 2, none⟩ z) ∧ DAt (((w1.setCell ⟨w.heap.size + 2, 0, none⟩ x).setCell ⟨w.heap.size + 2, 1, none⟩ y).setCell ⟨w.heap.size + 2, 2, none⟩ z) la sa oa L S O) := fun x y z => DAt.boxed (by omega) B1.out (fun V hV => HD0.out.below hV)
    go_wp2
    refine bodyPost_ret (v := .tuple #[.agg #[.slice la ln lc, .slice sa sn sc, .slice oa on oc], .int .i64 2]) (by simp [results, Try.results34, go_sem, zrb1_0, zrb1_1, zrb1_2]) rfl ⟨_, _, _, _, rfl, (FN.out _ _ _).1, (FN.out _ _ _).2, HOC.out.1, HOC.out.2⟩
  · rw [e1] at hk
    rw [e2] at hx1 ⊢
    rw [e3] at hx3 ⊢
    have hx1 : ln = x1 := HLN.out.symm.trans hx1
    have hx3 : on = x3 := HON.out.symm.trans hx3
    subst hx1 hx3 hk
    clear e1 e2 e3
    go_enter Try.func34, Try.ntmps34
    go_wp2_with fail
    refine (HDO.out _ _ hf).mono ?_
    rintro e w1 ⟨v, rfl, hv, hb1⟩
    have B1 : Hid (Below w.heap.size w w1) := B0.out.trans (hb1.mono B0.out.size)
    have RA1 : Hid (w1.heap[w.heap.size]? = some (.cells #[.slice la ln lc, .slice sa sn sc, .slice oa on oc] 27 (0, 0))) := below_row hb1 (row_lt RA0.out) RA0.out
    have RP1 : Hid (w1.heap[w.heap.size + 1]? = some (.cells #[.int .i64 o.k, .string o.n, .string o.t, .string o.d] 36 (0, 0))) := below_row hb1 (row_lt RP0.out) RP0.out
    have RB1 : Hid (w1.heap[w.heap.size + 2]? = some (.cells #[.slice none 0 0, .slice none 0 0, .slice none 0 0] 27 (0, 0))) := below_row hb1 (row_lt RB0.out) RB0.out
    clear B0 RA0 RP0 RB0
    clear hb1 a0 a1 a2 p0 p1 p2 p3
    replace hv := hv rfl
    obtain ⟨T, dv, fF, fM, hdv, hm1, hm2, hm3, hm4, hF, hM⟩ := deed_uni o hf z3
    rw [hdv] at hv
    subst hv
    have FF : Hid (∀ (s base : Nat) (fv : Value) (S : List GR) (w : World), SH w base s fv S → S.length ≤ 500 → RisG S → Calls Try.prog fF #[dv, .pointer (some ⟨s, 0, none⟩)] w fun e w' => e = .returned (.bool (okF (keysG S) o)) ∧ Below w.heap.size w w') := hF
    have MM : Hid (∀ (s base N : Nat) (fv : Value) (S : List GR) (w : World), SH w base s fv S → base ≤ w.heap.size → S.length ≤ 500 → RisG S → (∀ g ∈ S, g.ps.length ≤ N) → N ≤ 1000000 → totL (keysG S) ≤ 1000000000 → okF (keysG S) o = true → Calls Try.prog fM #[dv, .pointer (some ⟨s, 0, none⟩)] w fun e w' => e = .returned (.tuple #[]) ∧ MadeOn w w' base s (doF (keysG S) o) (N + 1)) := hM
    clear hF hM hdv
    obtain ⟨zra1_0, zra1_1, zra1_2⟩ := cells3 RA1.out
    have B1x : Hid (Below w.heap.size w w1) := B1.out
    go_wp2_with fail
    refine (SO.out w1 B1.out).mono ?_
    rintro e w2 ⟨fv, T0, rfl, hb2, hs2, hk2, hl2⟩
    have B2 : Hid (Below w.heap.size w w2) := B1.out.trans (hb2.mono B1.out.size)
    have RA2 : Hid (w2.heap[w.heap.size]? = some (.cells #[.slice la ln lc, .slice sa sn sc, .slice oa on oc] 27 (0, 0))) := below_row hb2 (row_lt RA1.out) RA1.out
    have RP2 : Hid (w2.heap[w.heap.size + 1]? = some (.cells #[.int .i64 o.k, .string o.n, .string o.t, .string o.d] 36 (0, 0))) := below_row hb2 (row_lt RP1.out) RP1.out
    have RB2 : Hid (w2.heap[w.heap.size + 2]? = some (.cells #[.slice none 0 0, .slice none 0 0, .slice none 0 0] 27 (0, 0))) := below_row hb2 (row_lt RB1.out) RB1.out
    clear B1 RA1 RP1 RB1
    have H2 : Hid (SH w2 w1.heap.size w1.heap.size fv T0) := hs2
    have KT : Hid (keysG T0 = L ∧ (∀ g ∈ T0, g.ps.length ≤ 1) ∧ T0.length ≤ 60 ∧ RisG T0 ∧ w1.heap.size ≤ w2.heap.size ∧ w.heap.size ≤ w1.heap.size) := ⟨hk2, hl2, by rw [← keys_len, hk2]; exact HR.out.2.2, risG_iff.2 (by rw [hk2]; exact HR.out.1), hb2.size, B1x.out.size⟩
    clear hb2 hs2 hk2 hl2
    clear zra1_0 zra1_1 zra1_2
    go_wp2_with fail
    refine (FF.out _ _ fv T0 w2 H2.out (by have := KT.out.2.2.1; omega) KT.out.2.2.2.1).mono ?_
    rintro e w3 ⟨rfl, hb3⟩
    rw [KT.out.1, ho]
    have S23 : Hid (w2.heap.size ≤ w3.heap.size) := hb3.size
    have B3 : Hid (Below w.heap.size w w3) := B2.out.trans (hb3.mono B2.out.size)
    have RA3 : Hid (w3.heap[w.heap.size]? = some (.cells #[.slice la ln lc, .slice sa sn sc, .slice oa on oc] 27 (0, 0))) := below_row hb3 (row_lt RA2.out) RA2.out
    have RP3 : Hid (w3.heap[w.heap.size + 1]? = some (.cells #[.int .i64 o.k, .string o.n, .string o.t, .string o.d] 36 (0, 0))) := below_row hb3 (row_lt RP2.out) RP2.out
    have RB3 : Hid (w3.heap[w.heap.size + 2]? = some (.cells #[.slice none 0 0, .slice none 0 0, .slice none 0 0] 27 (0, 0))) := below_row hb3 (row_lt RB2.out) RB2.out
    have H3 : Hid (SH w3 w1.heap.size w1.heap.size fv T0) := H2.out.below hb3
    clear B2 RA2 RP2 RB2 H2
    clear hb3
    obtain ⟨zra3_0, zra3_1, zra3_2⟩ := cells3 RA3.out
    obtain ⟨zrb3_0, zrb3_1, zrb3_2⟩ := cells3 RB3.out
    have rf := fun i => frozen_of_row _ _ i _ _ RB3.out
    have FN : Hid (∀ x y z, Below w.heap.size w (((w3.setCell ⟨w.heap.size + 2, 0, none⟩ x).setCell ⟨w.heap.size + 2, 1, none⟩ y).setCell ⟨w.heap.size + 2, 2, none⟩ z) ∧ DAt (((w3.setCell ⟨w.heap.size + 2, 0, none⟩ x).setCell ⟨w.heap.size + 2, 1, none⟩ y).setCell ⟨w.heap.size + 2, 2, none⟩ z) la sa oa L S O) := fun x y z => DAt.boxed (by omega) B3.out (fun V hV => HD0.out.below hV)
    go_wp2
    refine bodyPost_ret (v := .tuple #[.agg #[.slice la ln lc, .slice sa sn sc, .slice oa on oc], .int .i64 3]) (by simp [results, Try.results34, go_sem, zrb3_0, zrb3_1, zrb3_2]) rfl ⟨_, _, _, _, rfl, (FN.out _ _ _).1, (FN.out _ _ _).2, HOC.out.1, HOC.out.2⟩
  · rw [e1] at hk
    rw [e2] at hx1 ⊢
    rw [e3] at hx3 ⊢
    have hx1 : ln = x1 := HLN.out.symm.trans hx1
    have hx3 : on = x3 := HON.out.symm.trans hx3
    subst hx1 hx3 hk
    clear e1 e2 e3
    have h200 : on = 200 := by rw [← HON.out]; exact h200
    have h2i : ((on : Int) == 200) = true := by simp; omega
    clear h200
    go_enter Try.func34, Try.ntmps34
    go_wp2_with fail
    refine (HDO.out _ _ hf).mono ?_
    rintro e w1 ⟨v, rfl, hv, hb1⟩
    have B1 : Hid (Below w.heap.size w w1) := B0.out.trans (hb1.mono B0.out.size)
    have RA1 : Hid (w1.heap[w.heap.size]? = some (.cells #[.slice la ln lc, .slice sa sn sc, .slice oa on oc] 27 (0, 0))) := below_row hb1 (row_lt RA0.out) RA0.out
    have RP1 : Hid (w1.heap[w.heap.size + 1]? = some (.cells #[.int .i64 o.k, .string o.n, .string o.t, .string o.d] 36 (0, 0))) := below_row hb1 (row_lt RP0.out) RP0.out
    have RB1 : Hid (w1.heap[w.heap.size + 2]? = some (.cells #[.slice none 0 0, .slice none 0 0, .slice none 0 0] 27 (0, 0))) := below_row hb1 (row_lt RB0.out) RB0.out
    clear B0 RA0 RP0 RB0
    clear hb1 a0 a1 a2 p0 p1 p2 p3
    replace hv := hv rfl
    obtain ⟨T, dv, fF, fM, hdv, hm1, hm2, hm3, hm4, hF, hM⟩ := deed_uni o hf z3
    rw [hdv] at hv
    subst hv
    have FF : Hid (∀ (s base : Nat) (fv : Value) (S : List GR) (w : World), SH w base s fv S → S.length ≤ 500 → RisG S → Calls Try.prog fF #[dv, .pointer (some ⟨s, 0, none⟩)] w fun e w' => e = .returned (.bool (okF (keysG S) o)) ∧ Below w.heap.size w w') := hF
    have MM : Hid (∀ (s base N : Nat) (fv : Value) (S : List GR) (w : World), SH w base s fv S → base ≤ w.heap.size → S.length ≤ 500 → RisG S → (∀ g ∈ S, g.ps.length ≤ N) → N ≤ 1000000 → totL (keysG S) ≤ 1000000000 → okF (keysG S) o = true → Calls Try.prog fM #[dv, .pointer (some ⟨s, 0, none⟩)] w fun e w' => e = .returned (.tuple #[]) ∧ MadeOn w w' base s (doF (keysG S) o) (N + 1)) := hM
    clear hF hM hdv
    obtain ⟨zra1_0, zra1_1, zra1_2⟩ := cells3 RA1.out
    have B1x : Hid (Below w.heap.size w w1) := B1.out
    have RB1x : Hid (w1.heap[w.heap.size + 2]? = some (.cells #[.slice none 0 0, .slice none 0 0, .slice none 0 0] 27 (0, 0))) := RB1.out
    have RP1x : Hid (w1.heap[w.heap.size + 1]? = some (.cells #[.int .i64 o.k, .string o.n, .string o.t, .string o.d] 36 (0, 0))) := RP1.out
    have RA1x : Hid (w1.heap[w.heap.size]? = some (.cells #[.slice la ln lc, .slice sa sn sc, .slice oa on oc] 27 (0, 0))) := RA1.out
    go_wp2_with fail
    refine (SO.out w1 B1.out).mono ?_
    rintro e w2 ⟨fv, T0, rfl, hb2, hs2, hk2, hl2⟩
    have B2 : Hid (Below w.heap.size w w2) := B1.out.trans (hb2.mono B1.out.size)
    have RA2 : Hid (w2.heap[w.heap.size]? = some (.cells #[.slice la ln lc, .slice sa sn sc, .slice oa on oc] 27 (0, 0))) := below_row hb2 (row_lt RA1.out) RA1.out
    have RP2 : Hid (w2.heap[w.heap.size + 1]? = some (.cells #[.int .i64 o.k, .string o.n, .string o.t, .string o.d] 36 (0, 0))) := below_row hb2 (row_lt RP1.out) RP1.out
    have RB2 : Hid (w2.heap[w.heap.size + 2]? = some (.cells #[.slice none 0 0, .slice none 0 0, .slice none 0 0] 27 (0, 0))) := below_row hb2 (row_lt RB1.out) RB1.out
    clear B1 RA1 RP1 RB1
    have H2 : Hid (SH w2 w1.heap.size w1.heap.size fv T0) := hs2
    have KT : Hid (keysG T0 = L ∧ (∀ g ∈ T0, g.ps.length ≤ 1) ∧ T0.length ≤ 60 ∧ RisG T0 ∧ w1.heap.size ≤ w2.heap.size ∧ w.heap.size ≤ w1.heap.size) := ⟨hk2, hl2, by rw [← keys_len, hk2]; exact HR.out.2.2, risG_iff.2 (by rw [hk2]; exact HR.out.1), hb2.size, B1x.out.size⟩
    clear hb2 hs2 hk2 hl2
    clear zra1_0 zra1_1 zra1_2
    go_wp2_with fail
    refine (FF.out _ _ fv T0 w2 H2.out (by have := KT.out.2.2.1; omega) KT.out.2.2.2.1).mono ?_
    rintro e w3 ⟨rfl, hb3⟩
    rw [KT.out.1, ho]
    have S23 : Hid (w2.heap.size ≤ w3.heap.size) := hb3.size
    have B3 : Hid (Below w.heap.size w w3) := B2.out.trans (hb3.mono B2.out.size)
    have RA3 : Hid (w3.heap[w.heap.size]? = some (.cells #[.slice la ln lc, .slice sa sn sc, .slice oa on oc] 27 (0, 0))) := below_row hb3 (row_lt RA2.out) RA2.out
    have RP3 : Hid (w3.heap[w.heap.size + 1]? = some (.cells #[.int .i64 o.k, .string o.n, .string o.t, .string o.d] 36 (0, 0))) := below_row hb3 (row_lt RP2.out) RP2.out
    have RB3 : Hid (w3.heap[w.heap.size + 2]? = some (.cells #[.slice none 0 0, .slice none 0 0, .slice none 0 0] 27 (0, 0))) := below_row hb3 (row_lt RB2.out) RB2.out
    have H3 : Hid (SH w3 w1.heap.size w1.heap.size fv T0) := H2.out.below hb3
    clear B2 RA2 RP2 RB2 H2
    clear hb3
    go_wp2_with fail
    refine (MM.out _ _ 1 fv T0 w3 H3.out (Nat.le_trans KT.out.2.2.2.2.1 S23.out) (by have := KT.out.2.2.1; omega) KT.out.2.2.2.1 KT.out.2.1 (by omega) (by rw [KT.out.1]; have := HR.out.2.1; omega) (by rw [KT.out.1]; exact ho)).mono ?_
    rintro e w4 ⟨rfl, fv4, T4, hb4, hs4, hk4, hl4⟩
    rw [KT.out.1] at hk4
    have B4 : Hid (Below w.heap.size w w4) := B3.out.trans (hb4.mono KT.out.2.2.2.2.2)
    have RA4 : Hid (w4.heap[w.heap.size]? = some (.cells #[.slice la ln lc, .slice sa sn sc, .slice oa on oc] 27 (0, 0))) := (hb4.block _ (row_lt RA1x.out)).trans RA3.out
    have RP4 : Hid (w4.heap[w.heap.size + 1]? = some (.cells #[.int .i64 o.k, .string o.n, .string o.t, .string o.d] 36 (0, 0))) := (hb4.block _ (row_lt RP1x.out)).trans RP3.out
    have RB4 : Hid (w4.heap[w.heap.size + 2]? = some (.cells #[.slice none 0 0, .slice none 0 0, .slice none 0 0] 27 (0, 0))) := (hb4.block _ (row_lt RB1x.out)).trans RB3.out
    have H4 : Hid (SH w4 w1.heap.size w1.heap.size fv4 T4) := hs4
    have K4 : Hid (keysG T4 = doF L o ∧ ∀ g ∈ T4, g.ps.length ≤ 2) := ⟨hk4, hl4⟩
    clear B3 RA3 RP3 RB3 H3 hb4 hs4 hk4 hl4
    obtain ⟨zra4_0, zra4_1, zra4_2⟩ := cells3 RA4.out
    obtain ⟨zrb4_0, zrb4_1, zrb4_2⟩ := cells3 RB4.out
    have rf := fun i => frozen_of_row _ _ i _ _ RB4.out
    have FN : Hid (∀ x y z, Below w.heap.size w (((w4.setCell ⟨w.heap.size + 2, 0, none⟩ x).setCell ⟨w.heap.size + 2, 1, none⟩ y).setCell ⟨w.heap.size + 2, 2, none⟩ z) ∧ DAt (((w4.setCell ⟨w.heap.size + 2, 0, none⟩ x).setCell ⟨w.heap.size + 2, 1, none⟩ y).setCell ⟨w.heap.size + 2, 2, none⟩ z) la sa oa L S O) := fun x y z => DAt.boxed (by omega) B4.out (fun V hV => HD0.out.below hV)
    go_wp2
    refine bodyPost_ret (v := .tuple #[.agg #[.slice la ln lc, .slice sa sn sc, .slice oa on oc], .int .i64 4]) (by simp [results, Try.results34, go_sem, zrb4_0, zrb4_1, zrb4_2]) rfl ⟨_, _, _, _, rfl, (FN.out _ _ _).1, (FN.out _ _ _).2, HOC.out.1, HOC.out.2⟩
  · rw [e1] at hk
    rw [e2] at hx1 ⊢
    rw [e3] at hx3 ⊢
    have hx1 : ln = x1 := HLN.out.symm.trans hx1
    have hx3 : on = x3 := HON.out.symm.trans hx3
    subst hx1 hx3 hk
    clear e1 e2 e3
    have h200 : ¬ (on = 200) := by rw [← HON.out]; exact h200
    have h2i : ((on : Int) == 200) = false := by simp; omega
    have h2j : ¬ ((on : Int) = 200) := by omega
    go_enter Try.func34, Try.ntmps34
    go_wp2_with fail
    refine (HDO.out _ _ hf).mono ?_
    rintro e w1 ⟨v, rfl, hv, hb1⟩
    have B1 : Hid (Below w.heap.size w w1) := B0.out.trans (hb1.mono B0.out.size)
    have RA1 : Hid (w1.heap[w.heap.size]? = some (.cells #[.slice la ln lc, .slice sa sn sc, .slice oa on oc] 27 (0, 0))) := below_row hb1 (row_lt RA0.out) RA0.out
    have RP1 : Hid (w1.heap[w.heap.size + 1]? = some (.cells #[.int .i64 o.k, .string o.n, .string o.t, .string o.d] 36 (0, 0))) := below_row hb1 (row_lt RP0.out) RP0.out
    have RB1 : Hid (w1.heap[w.heap.size + 2]? = some (.cells #[.slice none 0 0, .slice none 0 0, .slice none 0 0] 27 (0, 0))) := below_row hb1 (row_lt RB0.out) RB0.out
    clear B0 RA0 RP0 RB0
    clear hb1 a0 a1 a2 p0 p1 p2 p3
    replace hv := hv rfl
    obtain ⟨T, dv, fF, fM, hdv, hm1, hm2, hm3, hm4, hF, hM⟩ := deed_uni o hf z3
    rw [hdv] at hv
    subst hv
    have FF : Hid (∀ (s base : Nat) (fv : Value) (S : List GR) (w : World), SH w base s fv S → S.length ≤ 500 → RisG S → Calls Try.prog fF #[dv, .pointer (some ⟨s, 0, none⟩)] w fun e w' => e = .returned (.bool (okF (keysG S) o)) ∧ Below w.heap.size w w') := hF
    have MM : Hid (∀ (s base N : Nat) (fv : Value) (S : List GR) (w : World), SH w base s fv S → base ≤ w.heap.size → S.length ≤ 500 → RisG S → (∀ g ∈ S, g.ps.length ≤ N) → N ≤ 1000000 → totL (keysG S) ≤ 1000000000 → okF (keysG S) o = true → Calls Try.prog fM #[dv, .pointer (some ⟨s, 0, none⟩)] w fun e w' => e = .returned (.tuple #[]) ∧ MadeOn w w' base s (doF (keysG S) o) (N + 1)) := hM
    clear hF hM hdv
    obtain ⟨zra1_0, zra1_1, zra1_2⟩ := cells3 RA1.out
    have B1x : Hid (Below w.heap.size w w1) := B1.out
    have RB1x : Hid (w1.heap[w.heap.size + 2]? = some (.cells #[.slice none 0 0, .slice none 0 0, .slice none 0 0] 27 (0, 0))) := RB1.out
    have RP1x : Hid (w1.heap[w.heap.size + 1]? = some (.cells #[.int .i64 o.k, .string o.n, .string o.t, .string o.d] 36 (0, 0))) := RP1.out
    have RA1x : Hid (w1.heap[w.heap.size]? = some (.cells #[.slice la ln lc, .slice sa sn sc, .slice oa on oc] 27 (0, 0))) := RA1.out
    go_wp2_with fail
    refine (SO.out w1 B1.out).mono ?_
    rintro e w2 ⟨fv, T0, rfl, hb2, hs2, hk2, hl2⟩
    have B2 : Hid (Below w.heap.size w w2) := B1.out.trans (hb2.mono B1.out.size)
    have RA2 : Hid (w2.heap[w.heap.size]? = some (.cells #[.slice la ln lc, .slice sa sn sc, .slice oa on oc] 27 (0, 0))) := below_row hb2 (row_lt RA1.out) RA1.out
    have RP2 : Hid (w2.heap[w.heap.size + 1]? = some (.cells #[.int .i64 o.k, .string o.n, .string o.t, .string o.d] 36 (0, 0))) := below_row hb2 (row_lt RP1.out) RP1.out
    have RB2 : Hid (w2.heap[w.heap.size + 2]? = some (.cells #[.slice none 0 0, .slice none 0 0, .slice none 0 0] 27 (0, 0))) := below_row hb2 (row_lt RB1.out) RB1.out
    clear B1 RA1 RP1 RB1
    have H2 : Hid (SH w2 w1.heap.size w1.heap.size fv T0) := hs2
    have KT : Hid (keysG T0 = L ∧ (∀ g ∈ T0, g.ps.length ≤ 1) ∧ T0.length ≤ 60 ∧ RisG T0 ∧ w1.heap.size ≤ w2.heap.size ∧ w.heap.size ≤ w1.heap.size) := ⟨hk2, hl2, by rw [← keys_len, hk2]; exact HR.out.2.2, risG_iff.2 (by rw [hk2]; exact HR.out.1), hb2.size, B1x.out.size⟩
    clear hb2 hs2 hk2 hl2
    clear zra1_0 zra1_1 zra1_2
    go_wp2_with fail
    refine (FF.out _ _ fv T0 w2 H2.out (by have := KT.out.2.2.1; omega) KT.out.2.2.2.1).mono ?_
    rintro e w3 ⟨rfl, hb3⟩
    rw [KT.out.1, ho]
    have S23 : Hid (w2.heap.size ≤ w3.heap.size) := hb3.size
    have B3 : Hid (Below w.heap.size w w3) := B2.out.trans (hb3.mono B2.out.size)
    have RA3 : Hid (w3.heap[w.heap.size]? = some (.cells #[.slice la ln lc, .slice sa sn sc, .slice oa on oc] 27 (0, 0))) := below_row hb3 (row_lt RA2.out) RA2.out
    have RP3 : Hid (w3.heap[w.heap.size + 1]? = some (.cells #[.int .i64 o.k, .string o.n, .string o.t, .string o.d] 36 (0, 0))) := below_row hb3 (row_lt RP2.out) RP2.out
    have RB3 : Hid (w3.heap[w.heap.size + 2]? = some (.cells #[.slice none 0 0, .slice none 0 0, .slice none 0 0] 27 (0, 0))) := below_row hb3 (row_lt RB2.out) RB2.out
    have H3 : Hid (SH w3 w1.heap.size w1.heap.size fv T0) := H2.out.below hb3
    clear B2 RA2 RP2 RB2 H2
    clear hb3
    go_wp2_with fail
    refine (MM.out _ _ 1 fv T0 w3 H3.out (Nat.le_trans KT.out.2.2.2.2.1 S23.out) (by have := KT.out.2.2.1; omega) KT.out.2.2.2.1 KT.out.2.1 (by omega) (by rw [KT.out.1]; have := HR.out.2.1; omega) (by rw [KT.out.1]; exact ho)).mono ?_
    rintro e w4 ⟨rfl, fv4, T4, hb4, hs4, hk4, hl4⟩
    rw [KT.out.1] at hk4
    have B4 : Hid (Below w.heap.size w w4) := B3.out.trans (hb4.mono KT.out.2.2.2.2.2)
    have RA4 : Hid (w4.heap[w.heap.size]? = some (.cells #[.slice la ln lc, .slice sa sn sc, .slice oa on oc] 27 (0, 0))) := (hb4.block _ (row_lt RA1x.out)).trans RA3.out
    have RP4 : Hid (w4.heap[w.heap.size + 1]? = some (.cells #[.int .i64 o.k, .string o.n, .string o.t, .string o.d] 36 (0, 0))) := (hb4.block _ (row_lt RP1x.out)).trans RP3.out
    have RB4 : Hid (w4.heap[w.heap.size + 2]? = some (.cells #[.slice none 0 0, .slice none 0 0, .slice none 0 0] 27 (0, 0))) := (hb4.block _ (row_lt RB1x.out)).trans RB3.out
    have H4 : Hid (SH w4 w1.heap.size w1.heap.size fv4 T4) := hs4
    have K4 : Hid (keysG T4 = doF L o ∧ ∀ g ∈ T4, g.ps.length ≤ 2) := ⟨hk4, hl4⟩
    clear B3 RA3 RP3 RB3 H3 hb4 hs4 hk4 hl4
    obtain ⟨zra4_0, zra4_1, zra4_2⟩ := cells3 RA4.out
    go_wp2_with fail
    refine (FT.out hf w4 _ _ fv4 T4 H4.out K4.out.1 _ hfd).mono ?_
    rintro e w5 ⟨rfl, hb5⟩
    have B5 : Hid (Below w.heap.size w w5) := B4.out.trans (hb5.mono B4.out.size)
    have RA5 : Hid (w5.heap[w.heap.size]? = some (.cells #[.slice la ln lc, .slice sa sn sc, .slice oa on oc] 27 (0, 0))) := below_row hb5 (row_lt RA4.out) RA4.out
    have RP5 : Hid (w5.heap[w.heap.size + 1]? = some (.cells #[.int .i64 o.k, .string o.n, .string o.t, .string o.d] 36 (0, 0))) := below_row hb5 (row_lt RP4.out) RP4.out
    have RB5 : Hid (w5.heap[w.heap.size + 2]? = some (.cells #[.slice none 0 0, .slice none 0 0, .slice none 0 0] 27 (0, 0))) := below_row hb5 (row_lt RB4.out) RB4.out
    have H5 : Hid (SH w5 w1.heap.size w1.heap.size fv4 T4) := H4.out.below hb5
    clear B4 RA4 RP4 RB4 H4
    clear zra4_0 zra4_1 zra4_2
    clear hb5
    obtain ⟨zra5_0, zra5_1, zra5_2⟩ := cells3 RA5.out
    obtain ⟨zrb5_0, zrb5_1, zrb5_2⟩ := cells3 RB5.out
    have rf := fun i => frozen_of_row _ _ i _ _ RB5.out
    have FN : Hid (∀ x y z, Below w.heap.size w (((w5.setCell ⟨w.heap.size + 2, 0, none⟩ x).setCell ⟨w.heap.size + 2, 1, none⟩ y).setCell ⟨w.heap.size + 2, 2, none⟩ z) ∧ DAt (((w5.setCell ⟨w.heap.size + 2, 0, none⟩ x).setCell ⟨w.heap.size + 2, 1, none⟩ y).setCell ⟨w.heap.size + 2, 2, none⟩ z) la sa oa L S O) := fun x y z => DAt.boxed (by omega) B5.out (fun V hV => HD0.out.below hV)
    go_wp2
    refine bodyPost_ret (v := .tuple #[.agg #[.slice la ln lc, .slice sa sn sc, .slice oa on oc], .int .i64 4]) (by simp [results, Try.results34, go_sem, zrb5_0, zrb5_1, zrb5_2]) rfl ⟨_, _, _, _, rfl, (FN.out _ _ _).1, (FN.out _ _ _).2, HOC.out.1, HOC.out.2⟩
  · rw [e1] at hk
    rw [e2] at hx1 ⊢
    rw [e3] at hx3 ⊢
    have hx1 : dn = x1 := HDN.out.symm.trans hx1
    have hx3 : on + 1 = x3 := by rw [← hx3, List.length_append, HON.out]; rfl
    subst hx1 hx3 hk
    clear e1 e2 e3
    have h200 : ¬ (on = 200) := by rw [← HON.out]; exact h200
    have h2i : ((on : Int) == 200) = false := by simp; omega
    have h2j : ¬ ((on : Int) = 200) := by omega
    go_enter Try.func34, Try.ntmps34
    go_wp2_with fail
    refine (HDO.out _ _ hf).mono ?_
    rintro e w1 ⟨v, rfl, hv, hb1⟩
    have B1 : Hid (Below w.heap.size w w1) := B0.out.trans (hb1.mono B0.out.size)
    have RA1 : Hid (w1.heap[w.heap.size]? = some (.cells #[.slice la ln lc, .slice sa sn sc, .slice oa on oc] 27 (0, 0))) := below_row hb1 (row_lt RA0.out) RA0.out
    have RP1 : Hid (w1.heap[w.heap.size + 1]? = some (.cells #[.int .i64 o.k, .string o.n, .string o.t, .string o.d] 36 (0, 0))) := below_row hb1 (row_lt RP0.out) RP0.out
    have RB1 : Hid (w1.heap[w.heap.size + 2]? = some (.cells #[.slice none 0 0, .slice none 0 0, .slice none 0 0] 27 (0, 0))) := below_row hb1 (row_lt RB0.out) RB0.out
    clear B0 RA0 RP0 RB0
    clear hb1 a0 a1 a2 p0 p1 p2 p3
    replace hv := hv rfl
    obtain ⟨T, dv, fF, fM, hdv, hm1, hm2, hm3, hm4, hF, hM⟩ := deed_uni o hf z3
    rw [hdv] at hv
    subst hv
    have FF : Hid (∀ (s base : Nat) (fv : Value) (S : List GR) (w : World), SH w base s fv S → S.length ≤ 500 → RisG S → Calls Try.prog fF #[dv, .pointer (some ⟨s, 0, none⟩)] w fun e w' => e = .returned (.bool (okF (keysG S) o)) ∧ Below w.heap.size w w') := hF
    have MM : Hid (∀ (s base N : Nat) (fv : Value) (S : List GR) (w : World), SH w base s fv S → base ≤ w.heap.size → S.length ≤ 500 → RisG S → (∀ g ∈ S, g.ps.length ≤ N) → N ≤ 1000000 → totL (keysG S) ≤ 1000000000 → okF (keysG S) o = true → Calls Try.prog fM #[dv, .pointer (some ⟨s, 0, none⟩)] w fun e w' => e = .returned (.tuple #[]) ∧ MadeOn w w' base s (doF (keysG S) o) (N + 1)) := hM
    clear hF hM hdv
    obtain ⟨zra1_0, zra1_1, zra1_2⟩ := cells3 RA1.out
    have B1x : Hid (Below w.heap.size w w1) := B1.out
    have RB1x : Hid (w1.heap[w.heap.size + 2]? = some (.cells #[.slice none 0 0, .slice none 0 0, .slice none 0 0] 27 (0, 0))) := RB1.out
    have RP1x : Hid (w1.heap[w.heap.size + 1]? = some (.cells #[.int .i64 o.k, .string o.n, .string o.t, .string o.d] 36 (0, 0))) := RP1.out
    have RA1x : Hid (w1.heap[w.heap.size]? = some (.cells #[.slice la ln lc, .slice sa sn sc, .slice oa on oc] 27 (0, 0))) := RA1.out
    go_wp2_with fail
    refine (SO.out w1 B1.out).mono ?_
    rintro e w2 ⟨fv, T0, rfl, hb2, hs2, hk2, hl2⟩
    have B2 : Hid (Below w.heap.size w w2) := B1.out.trans (hb2.mono B1.out.size)
    have RA2 : Hid (w2.heap[w.heap.size]? = some (.cells #[.slice la ln lc, .slice sa sn sc, .slice oa on oc] 27 (0, 0))) := below_row hb2 (row_lt RA1.out) RA1.out
    have RP2 : Hid (w2.heap[w.heap.size + 1]? = some (.cells #[.int .i64 o.k, .string o.n, .string o.t, .string o.d] 36 (0, 0))) := below_row hb2 (row_lt RP1.out) RP1.out
    have RB2 : Hid (w2.heap[w.heap.size + 2]? = some (.cells #[.slice none 0 0, .slice none 0 0, .slice none 0 0] 27 (0, 0))) := below_row hb2 (row_lt RB1.out) RB1.out
    clear B1 RA1 RP1 RB1
    have H2 : Hid (SH w2 w1.heap.size w1.heap.size fv T0) := hs2
    have KT : Hid (keysG T0 = L ∧ (∀ g ∈ T0, g.ps.length ≤ 1) ∧ T0.length ≤ 60 ∧ RisG T0 ∧ w1.heap.size ≤ w2.heap.size ∧ w.heap.size ≤ w1.heap.size) := ⟨hk2, hl2, by rw [← keys_len, hk2]; exact HR.out.2.2, risG_iff.2 (by rw [hk2]; exact HR.out.1), hb2.size, B1x.out.size⟩
    clear hb2 hs2 hk2 hl2
    clear zra1_0 zra1_1 zra1_2
    go_wp2_with fail
    refine (FF.out _ _ fv T0 w2 H2.out (by have := KT.out.2.2.1; omega) KT.out.2.2.2.1).mono ?_
    rintro e w3 ⟨rfl, hb3⟩
    rw [KT.out.1, ho]
    have S23 : Hid (w2.heap.size ≤ w3.heap.size) := hb3.size
    have B3 : Hid (Below w.heap.size w w3) := B2.out.trans (hb3.mono B2.out.size)
    have RA3 : Hid (w3.heap[w.heap.size]? = some (.cells #[.slice la ln lc, .slice sa sn sc, .slice oa on oc] 27 (0, 0))) := below_row hb3 (row_lt RA2.out) RA2.out
    have RP3 : Hid (w3.heap[w.heap.size + 1]? = some (.cells #[.int .i64 o.k, .string o.n, .string o.t, .string o.d] 36 (0, 0))) := below_row hb3 (row_lt RP2.out) RP2.out
    have RB3 : Hid (w3.heap[w.heap.size + 2]? = some (.cells #[.slice none 0 0, .slice none 0 0, .slice none 0 0] 27 (0, 0))) := below_row hb3 (row_lt RB2.out) RB2.out
    have H3 : Hid (SH w3 w1.heap.size w1.heap.size fv T0) := H2.out.below hb3
    clear B2 RA2 RP2 RB2 H2
    clear hb3
    go_wp2_with fail
    refine (MM.out _ _ 1 fv T0 w3 H3.out (Nat.le_trans KT.out.2.2.2.2.1 S23.out) (by have := KT.out.2.2.1; omega) KT.out.2.2.2.1 KT.out.2.1 (by omega) (by rw [KT.out.1]; have := HR.out.2.1; omega) (by rw [KT.out.1]; exact ho)).mono ?_
    rintro e w4 ⟨rfl, fv4, T4, hb4, hs4, hk4, hl4⟩
    rw [KT.out.1] at hk4
    have B4 : Hid (Below w.heap.size w w4) := B3.out.trans (hb4.mono KT.out.2.2.2.2.2)
    have RA4 : Hid (w4.heap[w.heap.size]? = some (.cells #[.slice la ln lc, .slice sa sn sc, .slice oa on oc] 27 (0, 0))) := (hb4.block _ (row_lt RA1x.out)).trans RA3.out
    have RP4 : Hid (w4.heap[w.heap.size + 1]? = some (.cells #[.int .i64 o.k, .string o.n, .string o.t, .string o.d] 36 (0, 0))) := (hb4.block _ (row_lt RP1x.out)).trans RP3.out
    have RB4 : Hid (w4.heap[w.heap.size + 2]? = some (.cells #[.slice none 0 0, .slice none 0 0, .slice none 0 0] 27 (0, 0))) := (hb4.block _ (row_lt RB1x.out)).trans RB3.out
    have H4 : Hid (SH w4 w1.heap.size w1.heap.size fv4 T4) := hs4
    have K4 : Hid (keysG T4 = doF L o ∧ ∀ g ∈ T4, g.ps.length ≤ 2) := ⟨hk4, hl4⟩
    clear B3 RA3 RP3 RB3 H3 hb4 hs4 hk4 hl4
    obtain ⟨zra4_0, zra4_1, zra4_2⟩ := cells3 RA4.out
    go_wp2_with fail
    refine (FT.out hf w4 _ _ fv4 T4 H4.out K4.out.1 _ hfd).mono ?_
    rintro e w5 ⟨rfl, hb5⟩
    have B5 : Hid (Below w.heap.size w w5) := B4.out.trans (hb5.mono B4.out.size)
    have RA5 : Hid (w5.heap[w.heap.size]? = some (.cells #[.slice la ln lc, .slice sa sn sc, .slice oa on oc] 27 (0, 0))) := below_row hb5 (row_lt RA4.out) RA4.out
    have RP5 : Hid (w5.heap[w.heap.size + 1]? = some (.cells #[.int .i64 o.k, .string o.n, .string o.t, .string o.d] 36 (0, 0))) := below_row hb5 (row_lt RP4.out) RP4.out
    have RB5 : Hid (w5.heap[w.heap.size + 2]? = some (.cells #[.slice none 0 0, .slice none 0 0, .slice none 0 0] 27 (0, 0))) := below_row hb5 (row_lt RB4.out) RB4.out
    have H5 : Hid (SH w5 w1.heap.size w1.heap.size fv4 T4) := H4.out.below hb5
    clear B4 RA4 RP4 RB4 H4
    clear zra4_0 zra4_1 zra4_2
    clear hb5
    obtain ⟨zra5_0, zra5_1, zra5_2⟩ := cells3 RA5.out
    obtain ⟨zrp5_0, zrp5_1, zrp5_2, zrp5_3⟩ := cells4 RP5.out
    go_wp2_with fail
    clear zra5_0 zra5_1 zra5_2 zrp5_0 zrp5_1 zrp5_2 zrp5_3
    have HSS : Hid (∀ W, Below w5.heap.size w5 W → (fun W => W.cell? ⟨w.heap.size, 0, none⟩ = some (.slice la ln lc) ∧ W.cell? ⟨w.heap.size, 1, none⟩ = some (.slice sa sn sc) ∧ W.cell? ⟨w.heap.size, 2, none⟩ = some (.slice oa on oc) ∧ W.cell? ⟨w.heap.size + 1, 0, none⟩ = some (.int .i64 o.k) ∧ W.cell? ⟨w.heap.size + 1, 1, none⟩ = some (.string o.n) ∧ W.cell? ⟨w.heap.size + 1, 2, none⟩ = some (.string o.t) ∧ W.cell? ⟨w.heap.size + 1, 3, none⟩ = some (.string o.d)) W) := fun W hW => by
      obtain ⟨s1, s2, s3⟩ := cells3 (below_row hW (row_lt RA5.out) RA5.out)
      exact ⟨s1, s2, s3, cells4 (below_row hW (row_lt RP5.out) RP5.out)⟩
    have HRB : Hid (∀ W, Below w5.heap.size w5 W → W.heap[w.heap.size + 2]? = some (.cells #[.slice none 0 0, .slice none 0 0, .slice none 0 0] 27 (0, 0))) := fun W hW => below_row hW (row_lt RB5.out) RB5.out
    have HSK : Hid (∀ W, Below w5.heap.size w5 W → ∀ x y z, (fun W => W.cell? ⟨w.heap.size, 0, none⟩ = some (.slice la ln lc) ∧ W.cell? ⟨w.heap.size, 1, none⟩ = some (.slice sa sn sc) ∧ W.cell? ⟨w.heap.size, 2, none⟩ = some (.slice oa on oc) ∧ W.cell? ⟨w.heap.size + 1, 0, none⟩ = some (.int .i64 o.k) ∧ W.cell? ⟨w.heap.size + 1, 1, none⟩ = some (.string o.n) ∧ W.cell? ⟨w.heap.size + 1, 2, none⟩ = some (.string o.t) ∧ W.cell? ⟨w.heap.size + 1, 3, none⟩ = some (.string o.d)) (((W.setCell ⟨w.heap.size + 2, 0, none⟩ x).setCell ⟨w.heap.size + 2, 1, none⟩ y).setCell ⟨w.heap.size + 2, 2, none⟩ z)) := fun W hW x y z => by
      obtain ⟨s1, s2, s3, s4, s5, s6, s7⟩ := HSS.out W hW
      have hne : w.heap.size ≠ w.heap.size + 2 := by omega
      have hnf : w.heap.size + 1 ≠ w.heap.size + 2 := by omega
      exact ⟨keep_setT (keep_setT (keep_setT s1 hne) hne) hne, keep_setT (keep_setT (keep_setT s2 hne) hne) hne, keep_setT (keep_setT (keep_setT s3 hne) hne) hne, keep_setT (keep_setT (keep_setT s4 hnf) hnf) hnf, keep_setT (keep_setT (keep_setT s5 hnf) hnf) hnf, keep_setT (keep_setT (keep_setT s6 hnf) hnf) hnf, keep_setT (keep_setT (keep_setT s7 hnf) hnf) hnf⟩
    have FO : Hid (∀ W, Below w5.heap.size w5 W → ∀ j u, (rowO O)[j]? = some u → ∃ b off, oa = some ⟨b, off, none⟩ ∧ W.cell? ⟨b, off + j, none⟩ = some u) := fun W hW => ((HD0.out.o.below B5.out).below hW).cells
    have hof : (rowO O).length = on * 4 := by rw [rowO_len, HON.out]
    have FIN : Hid (∀ (V : World) ao co a3 c3, Below w5.heap.size w5 V → V.ownsRow w5.heap.size 55 2 (.slice ao dn co) dn (rowF (doF L o)) → V.ownsRow w5.heap.size 36 4 (.slice a3 (on + 1) c3) (on + 1) (rowO O ++ [.int .i64 o.k, .string o.n, .string o.t, .string o.d]) → ∀ x y z, Below w.heap.size w (((V.setCell ⟨w.heap.size + 2, 0, none⟩ x).setCell ⟨w.heap.size + 2, 1, none⟩ y).setCell ⟨w.heap.size + 2, 2, none⟩ z) ∧ DAt (((V.setCell ⟨w.heap.size + 2, 0, none⟩ x).setCell ⟨w.heap.size + 2, 1, none⟩ y).setCell ⟨w.heap.size + 2, 2, none⟩ z) ao sa a3 (doF L o) S (O ++ [o])) := by
      intro V ao co a3 c3 hV h1 h2 x y z
      have r1 := HRB.out V hV
      have r2 := heap_setCell_same _ (w.heap.size + 2) 0 _ _ x r1
      have r3 := heap_setCell_same _ (w.heap.size + 2) 1 _ _ y r2
      have b := B5.out.trans (hV.mono B5.out.size)
      have bb := ((b.setCell (p := ⟨w.heap.size + 2, 0, none⟩) (by show w.heap.size ≤ w.heap.size + 2; omega) x).setCell (p := ⟨w.heap.size + 2, 1, none⟩) (by show w.heap.size ≤ w.heap.size + 2; omega) y).setCell (p := ⟨w.heap.size + 2, 2, none⟩) (by show w.heap.size ≤ w.heap.size + 2; omega) z
      have o1 := own_setT (u := z) (i := 2) (own_setT (u := y) (i := 1) (own_setT (u := x) (i := 0) h1 r1 (by decide)) r2 (by decide)) r3 (by decide)
      have o2 := own_setT (u := z) (i := 2) (own_setT (u := y) (i := 1) (own_setT (u := x) (i := 0) h2 r1 (by decide)) r2 (by decide)) r3 (by decide)
      rw [← rowO_snoc] at o2
      obtain ⟨a', c', e, f1⟩ := own_files o1 HDN.out
      injection e with e1 _ _
      obtain ⟨a'', c'', e, f2⟩ := own_ops o2 (by rw [List.length_append, HON.out]; rfl)
      injection e with e2 _ _
      rw [e1, e2]
      exact ⟨bb, ⟨f1, HD0.out.s.below bb, f2⟩⟩
    have CS : Hid (Below w5.heap.size w5 w5.drew) := (Below.refl _ _).drew
    clear RA5 RP5 RB5
    refine wp_region_held_drew (S := (fun W => W.cell? ⟨w.heap.size, 0, none⟩ = some (.slice la ln lc) ∧ W.cell? ⟨w.heap.size, 1, none⟩ = some (.slice sa sn sc) ∧ W.cell? ⟨w.heap.size, 2, none⟩ = some (.slice oa on oc) ∧ W.cell? ⟨w.heap.size + 1, 0, none⟩ = some (.int .i64 o.k) ∧ W.cell? ⟨w.heap.size + 1, 1, none⟩ = some (.string o.n) ∧ W.cell? ⟨w.heap.size + 1, 2, none⟩ = some (.string o.t) ∧ W.cell? ⟨w.heap.size + 1, 3, none⟩ = some (.string o.d))) (by kernel_rfl) ?_ (fun hHeld => ?_)
    · exact HSS.out _ CS.out
    generalize w5.drew = WD at *
    refine wpAnyH_take (i := 0) (v := ?_) rfl (by kernel_rfl) (by kernel_rfl) (by kernel_rfl) (fun _ _ _ h => h) (Or.inl ⟨by kernel_rfl, ?_⟩) hHeld ?_
    rotate_left 1; focus (intro w hSw; (try dsimp only at hSw); (try go_split_ands); go_simp; all_goals (first | done | with_reducible rfl))
    change wpAnyH _ _ _ _ _ _ _ (Act.put _ (some 38) _) _; simp only [Act.put, List.setIfInBounds_toArray, List.set_cons_zero, List.set_cons_succ]
    refine wpAnyH_take (i := 2) (v := ?_) rfl (by kernel_rfl) (by kernel_rfl) (by kernel_rfl) (fun _ _ _ h => h) (Or.inl ⟨by kernel_rfl, ?_⟩) hHeld ?_
    rotate_left 1; focus (intro w hSw; (try dsimp only at hSw); (try go_split_ands); go_simp; all_goals (first | done | with_reducible rfl))
    change wpAnyH _ _ _ _ _ _ _ (Act.put _ (some 40) _) _; simp only [Act.put, List.setIfInBounds_toArray, List.set_cons_zero, List.set_cons_succ]
    refine wpAnyH_take (i := 3) (v := ?_) rfl (by kernel_rfl) (by kernel_rfl) (by kernel_rfl) (fun _ _ _ h => h) (Or.inl ⟨by kernel_rfl, ?_⟩) hHeld ?_
    rotate_left 1; focus (intro w hSw; (try dsimp only at hSw); (try go_split_ands); go_simp; all_goals (first | done | with_reducible rfl))
    change wpAnyH _ _ _ _ _ _ _ (Act.put _ (some 41) _) _; simp only [Act.put, List.setIfInBounds_toArray, List.set_cons_zero, List.set_cons_succ]
    refine wpAnyH_take (i := 4) (v := ?_) rfl (by kernel_rfl) (by kernel_rfl) (by kernel_rfl) (fun _ _ _ h => h) (Or.inl ⟨by kernel_rfl, ?_⟩) hHeld ?_
    rotate_left 1; focus (intro w hSw; (try dsimp only at hSw); (try go_split_ands); go_simp; all_goals (first | done | with_reducible rfl))
    change wpAnyH _ _ _ _ _ _ _ (Act.put _ (some 42) _) _; simp only [Act.put, List.setIfInBounds_toArray, List.set_cons_zero, List.set_cons_succ]
    refine wpAnyH_take (i := 5) (v := ?_) rfl (by kernel_rfl) (by kernel_rfl) (by kernel_rfl) (fun _ _ _ h => h) (Or.inl ⟨by kernel_rfl, ?_⟩) hHeld ?_
    rotate_left 1; focus (intro w hSw; (try dsimp only at hSw); (try go_split_ands); go_simp; all_goals (first | done | with_reducible rfl))
    change wpAnyH _ _ _ _ _ _ _ (Act.put _ (some 43) _) _; simp only [Act.put, List.setIfInBounds_toArray, List.set_cons_zero, List.set_cons_succ]
    refine wpAnyH_take (i := 7) (v := ?_) rfl (by kernel_rfl) (by kernel_rfl) (by kernel_rfl) (fun _ _ _ h => h) (Or.inl ⟨by kernel_rfl, ?_⟩) hHeld ?_
    rotate_left 1; focus (intro w hSw; (try dsimp only at hSw); (try go_split_ands); go_simp; all_goals (first | done | with_reducible rfl))
    change wpAnyH _ _ _ _ _ _ _ (Act.put _ (some 45) _) _; simp only [Act.put, List.setIfInBounds_toArray, List.set_cons_zero, List.set_cons_succ]
    refine wpAnyH_ready (rs := [1, 8]) (by kernel_rfl) (by simp) ?_
    refine AllReadyH.cons rfl (fun K hK => ?_) ?_
    · skip
      (try simp only [Act.put, List.setIfInBounds_toArray])
      go_simp
      refine (LI.out WD _ _ fv4 T4 (H5.out.below CS.out) K4.out.1 K4.out.2).mono ?_
      rintro e V1 ⟨ao, co, rfl, hb, ho1⟩
      have C1 : Hid (Below w5.heap.size w5 V1) := CS.out.trans (hb.mono CS.out.size)
      have L1 : Hid (V1.ownsRow w5.heap.size 55 2 (.slice ao dn co) dn (rowF (doF L o))) := own_bse ho1 CS.out.size
      clear hb ho1
      (try go_wp2_with fail)
      refine hK.out _ _ ?_ (fun hHeld => ?_)
      · exact HSS.out _ C1.out
      clear hK K
      refine wpAnyH_ready (rs := [6, 8]) (by kernel_rfl) (by simp) ?_
      refine AllReadyH.cons rfl (fun K hK => ?_) ?_
      · skip
        (try simp only [Act.put, List.setIfInBounds_toArray])
        go_simp
        refine (clipOps_any oa on oc _ HOC.out.1 HOC.out.2).mono ?_
        rintro e V2 ⟨rfl, rfl⟩
        (try go_wp2_with fail)
        refine hK.out _ _ ?_ (fun hHeld => ?_)
        · exact HSS.out _ C1.out
        clear hK K
        refine wpAnyH_ready (rs := [8]) (by kernel_rfl) (by simp) ?_
        refine AllReadyH.cons rfl (fun K hK => ?_) AllReadyH.nil
        have hb : Below V2.heap.size V2 (V2.alloc (.cells #[.int .i64 o.k, .string o.n, .string o.t, .string o.d] 36)) := (Below.refl _ _).alloc (Nat.le_refl _) _
        have L3 : Hid ((V2.alloc (.cells #[.int .i64 o.k, .string o.n, .string o.t, .string o.d] 36)).ownsRow w5.heap.size 55 2 (.slice ao dn co) dn (rowF (doF L o))) := own_blw L1.out hb
        have C3 : Hid (Below w5.heap.size w5 (V2.alloc (.cells #[.int .i64 o.k, .string o.n, .string o.t, .string o.d] 36))) := C1.out.trans (hb.mono C1.out.size)
        have GX : Hid ((V2.alloc (.cells #[.int .i64 o.k, .string o.n, .string o.t, .string o.d] 36)).heap[V2.heap.size]? = some (.cells #[.int .i64 o.k, .string o.n, .string o.t, .string o.d] 36 (0, 0))) := heap_alloc_new _ _
        clear hb
        (try simp only [Act.put, List.setIfInBounds_toArray])
        go_simp
        refine hK.out _ _ ?_ (fun hHeld => ?_)
        · exact HSS.out _ C3.out
        clear hK K
        obtain ⟨gg, HG⟩ : ∃ g, Hid (V2.heap.size = g) := ⟨_, rfl⟩
        rw [HG.out] at GX ⊢
        generalize (V2.alloc (.cells #[.int .i64 o.k, .string o.n, .string o.t, .string o.d] 36)) = V3 at *
        clear HG
        refine wpAnyH_ready (rs := [9]) (by kernel_rfl) (by simp) ?_
        refine AllReadyH.cons rfl (fun K hK => ?_) AllReadyH.nil
        refine step_append_full Try.underlying25 infO56 (by rfl) (by decide) rfl (.tmp 44) (.tmp 46) rfl oa on (rowO O) rfl (fun h => (HOC.out.2 h).1) hof (FO.out _ C3.out) gg 1 1 [.int .i64 o.k, .string o.n, .string o.t, .string o.d] rfl (by decide) rfl (four_at GX.out) (by simp [Value.oneCell']) (by omega) (by omega) ?_
        intro v4 V4 hown hg
        have hb := grown_none hg
        obtain ⟨a3, c3, rfl⟩ := own_anyV hown
        have L4 : Hid (V4.ownsRow w5.heap.size 55 2 (.slice ao dn co) dn (rowF (doF L o))) := own_blw L3.out hb
        have C4 : Hid (Below w5.heap.size w5 V4) := C3.out.trans (hb.mono C3.out.size)
        have OW : Hid (V4.ownsRow w5.heap.size 36 4 (.slice a3 (on + 1) c3) (on + 1) (rowO O ++ [.int .i64 o.k, .string o.n, .string o.t, .string o.d])) := own_bse hown C3.out.size
        clear hb hg hown
        refine hK.out _ _ ?_ (fun hHeld => ?_)
        · exact HSS.out _ C4.out
        clear hK K
        change wpAnyH _ _ _ _ _ _ _ (Act.put _ (some 47) _) _
        simp only [Act.put, List.setIfInBounds_toArray, List.set_cons_zero, List.set_cons_succ]
        refine wpAnyH_take (i := 10) (v := ?_) rfl (by kernel_rfl) (by kernel_rfl) (by kernel_rfl) (fun _ _ _ h => h) (Or.inl ⟨by kernel_rfl, ?_⟩) hHeld ?_
        rotate_left 1; focus (intro w hSw; (try dsimp only at hSw); (try go_split_ands); go_simp; all_goals (first | done | with_reducible rfl))
        change wpAnyH _ _ _ _ _ _ _ (Act.put _ (some 48) _) _; simp only [Act.put, List.setIfInBounds_toArray, List.set_cons_zero, List.set_cons_succ]
        refine wpAnyH_ready (rs := [11]) (by kernel_rfl) (by simp) ?_
        refine AllReadyH.cons rfl (fun K hK => ?_) AllReadyH.nil
        obtain ⟨r0, r1, r2⟩ := cells3 (HRB.out _ C4.out)
        have rf := fun i => frozen_of_row _ _ i _ _ (HRB.out _ C4.out)
        go_simp
        refine hK.out _ _ ?_ (fun hHeld => ?_)
        · exact HSK.out _ C4.out _ _ _
        clear hK K
        refine wpAnyH_take (i := 12) (v := ?_) rfl (by kernel_rfl) (by kernel_rfl) (by kernel_rfl) (fun _ _ _ h => h) (Or.inl ⟨by kernel_rfl, ?_⟩) hHeld ?_
        rotate_left 1; focus (intro w hSw; (try dsimp only at hSw); (try go_split_ands); go_simp; all_goals (first | done | with_reducible rfl))
        change wpAnyH _ _ _ _ _ _ _ (Act.put _ (some 5) _) _; simp only [Act.put, List.setIfInBounds_toArray, List.set_cons_zero, List.set_cons_succ]
        refine wpAnyH_done (by kernel_rfl) ?_ _
        clear hHeld
        obtain ⟨r0, r1, r2⟩ := cells3 (HRB.out _ C4.out)
        have DN := fun x y z => FIN.out _ ao co a3 c3 C4.out L4.out OW.out x y z
        have OC := own_capF OW.out
        go_wp2
        refine bodyPost_ret (v := .tuple #[.agg #[.slice ao dn co, .slice sa sn sc, .slice a3 (on + 1) c3], .int .i64 0]) (by simp [results, Try.results34, go_sem, r0, r1, r2]) rfl ⟨_, _, _, _, rfl, (DN _ _ _).1, (DN _ _ _).2, OC.1, OC.2⟩
      refine AllReadyH.cons rfl (fun K hK => ?_) AllReadyH.nil
      have hb : Below V1.heap.size V1 (V1.alloc (.cells #[.int .i64 o.k, .string o.n, .string o.t, .string o.d] 36)) := (Below.refl _ _).alloc (Nat.le_refl _) _
      have L2 : Hid ((V1.alloc (.cells #[.int .i64 o.k, .string o.n, .string o.t, .string o.d] 36)).ownsRow w5.heap.size 55 2 (.slice ao dn co) dn (rowF (doF L o))) := own_blw L1.out hb
      have C2 : Hid (Below w5.heap.size w5 (V1.alloc (.cells #[.int .i64 o.k, .string o.n, .string o.t, .string o.d] 36))) := C1.out.trans (hb.mono C1.out.size)
      have GX : Hid ((V1.alloc (.cells #[.int .i64 o.k, .string o.n, .string o.t, .string o.d] 36)).heap[V1.heap.size]? = some (.cells #[.int .i64 o.k, .string o.n, .string o.t, .string o.d] 36 (0, 0))) := heap_alloc_new _ _
      clear hb
      (try simp only [Act.put, List.setIfInBounds_toArray])
      go_simp
      refine hK.out _ _ ?_ (fun hHeld => ?_)
      · exact HSS.out _ C2.out
      clear hK K
      obtain ⟨gg, HG⟩ : ∃ g, Hid (V1.heap.size = g) := ⟨_, rfl⟩
      rw [HG.out] at GX ⊢
      generalize (V1.alloc (.cells #[.int .i64 o.k, .string o.n, .string o.t, .string o.d] 36)) = V2 at *
      clear HG
      refine wpAnyH_ready (rs := [6]) (by kernel_rfl) (by simp) ?_
      refine AllReadyH.cons rfl (fun K hK => ?_) AllReadyH.nil
      (try simp only [Act.put, List.setIfInBounds_toArray])
      go_simp
      refine (clipOps_any oa on oc _ HOC.out.1 HOC.out.2).mono ?_
      rintro e V3 ⟨rfl, rfl⟩
      (try go_wp2_with fail)
      refine hK.out _ _ ?_ (fun hHeld => ?_)
      · exact HSS.out _ C2.out
      clear hK K
      refine wpAnyH_ready (rs := [9]) (by kernel_rfl) (by simp) ?_
      refine AllReadyH.cons rfl (fun K hK => ?_) AllReadyH.nil
      refine step_append_full Try.underlying25 infO56 (by rfl) (by decide) rfl (.tmp 44) (.tmp 46) rfl oa on (rowO O) rfl (fun h => (HOC.out.2 h).1) hof (FO.out _ C2.out) gg 1 1 [.int .i64 o.k, .string o.n, .string o.t, .string o.d] rfl (by decide) rfl (four_at GX.out) (by simp [Value.oneCell']) (by omega) (by omega) ?_
      intro v4 V4 hown hg
      have hb := grown_none hg
      obtain ⟨a3, c3, rfl⟩ := own_anyV hown
      have L4 : Hid (V4.ownsRow w5.heap.size 55 2 (.slice ao dn co) dn (rowF (doF L o))) := own_blw L2.out hb
      have C4 : Hid (Below w5.heap.size w5 V4) := C2.out.trans (hb.mono C2.out.size)
      have OW : Hid (V4.ownsRow w5.heap.size 36 4 (.slice a3 (on + 1) c3) (on + 1) (rowO O ++ [.int .i64 o.k, .string o.n, .string o.t, .string o.d])) := own_bse hown C2.out.size
      clear hb hg hown
      refine hK.out _ _ ?_ (fun hHeld => ?_)
      · exact HSS.out _ C4.out
      clear hK K
      change wpAnyH _ _ _ _ _ _ _ (Act.put _ (some 47) _) _
      simp only [Act.put, List.setIfInBounds_toArray, List.set_cons_zero, List.set_cons_succ]
      refine wpAnyH_take (i := 10) (v := ?_) rfl (by kernel_rfl) (by kernel_rfl) (by kernel_rfl) (fun _ _ _ h => h) (Or.inl ⟨by kernel_rfl, ?_⟩) hHeld ?_
      rotate_left 1; focus (intro w hSw; (try dsimp only at hSw); (try go_split_ands); go_simp; all_goals (first | done | with_reducible rfl))
      change wpAnyH _ _ _ _ _ _ _ (Act.put _ (some 48) _) _; simp only [Act.put, List.setIfInBounds_toArray, List.set_cons_zero, List.set_cons_succ]
      refine wpAnyH_ready (rs := [11]) (by kernel_rfl) (by simp) ?_
      refine AllReadyH.cons rfl (fun K hK => ?_) AllReadyH.nil
      obtain ⟨r0, r1, r2⟩ := cells3 (HRB.out _ C4.out)
      have rf := fun i => frozen_of_row _ _ i _ _ (HRB.out _ C4.out)
      go_simp
      refine hK.out _ _ ?_ (fun hHeld => ?_)
      · exact HSK.out _ C4.out _ _ _
      clear hK K
      refine wpAnyH_take (i := 12) (v := ?_) rfl (by kernel_rfl) (by kernel_rfl) (by kernel_rfl) (fun _ _ _ h => h) (Or.inl ⟨by kernel_rfl, ?_⟩) hHeld ?_
      rotate_left 1; focus (intro w hSw; (try dsimp only at hSw); (try go_split_ands); go_simp; all_goals (first | done | with_reducible rfl))
      change wpAnyH _ _ _ _ _ _ _ (Act.put _ (some 5) _) _; simp only [Act.put, List.setIfInBounds_toArray, List.set_cons_zero, List.set_cons_succ]
      refine wpAnyH_done (by kernel_rfl) ?_ _
      clear hHeld
      obtain ⟨r0, r1, r2⟩ := cells3 (HRB.out _ C4.out)
      have DN := fun x y z => FIN.out _ ao co a3 c3 C4.out L4.out OW.out x y z
      have OC := own_capF OW.out
      go_wp2
      refine bodyPost_ret (v := .tuple #[.agg #[.slice ao dn co, .slice sa sn sc, .slice a3 (on + 1) c3], .int .i64 0]) (by simp [results, Try.results34, go_sem, r0, r1, r2]) rfl ⟨_, _, _, _, rfl, (DN _ _ _).1, (DN _ _ _).2, OC.1, OC.2⟩
    refine AllReadyH.cons rfl (fun K hK => ?_) AllReadyH.nil
    have hb : Below WD.heap.size WD (WD.alloc (.cells #[.int .i64 o.k, .string o.n, .string o.t, .string o.d] 36)) := (Below.refl _ _).alloc (Nat.le_refl _) _
    have C1 : Hid (Below w5.heap.size w5 (WD.alloc (.cells #[.int .i64 o.k, .string o.n, .string o.t, .string o.d] 36))) := CS.out.trans (hb.mono CS.out.size)
    have GX : Hid ((WD.alloc (.cells #[.int .i64 o.k, .string o.n, .string o.t, .string o.d] 36)).heap[WD.heap.size]? = some (.cells #[.int .i64 o.k, .string o.n, .string o.t, .string o.d] 36 (0, 0))) := heap_alloc_new _ _
    clear hb
    (try simp only [Act.put, List.setIfInBounds_toArray])
    go_simp
    refine hK.out _ _ ?_ (fun hHeld => ?_)
    · exact HSS.out _ C1.out
    clear hK K
    obtain ⟨gg, HG⟩ : ∃ g, Hid (WD.heap.size = g) := ⟨_, rfl⟩
    rw [HG.out] at GX ⊢
    generalize (WD.alloc (.cells #[.int .i64 o.k, .string o.n, .string o.t, .string o.d] 36)) = V1 at *
    clear HG
    refine wpAnyH_ready (rs := [1]) (by kernel_rfl) (by simp) ?_
    refine AllReadyH.cons rfl (fun K hK => ?_) AllReadyH.nil
    (try simp only [Act.put, List.setIfInBounds_toArray])
    go_simp
    refine (LI.out V1 _ _ fv4 T4 (H5.out.below C1.out) K4.out.1 K4.out.2).mono ?_
    rintro e V2 ⟨ao, co, rfl, hb, ho1⟩
    have G2 : Hid (V2.heap[gg]? = some (.cells #[.int .i64 o.k, .string o.n, .string o.t, .string o.d] 36 (0, 0))) := below_row hb (row_lt GX.out) GX.out
    have C2 : Hid (Below w5.heap.size w5 V2) := C1.out.trans (hb.mono C1.out.size)
    have L2 : Hid (V2.ownsRow w5.heap.size 55 2 (.slice ao dn co) dn (rowF (doF L o))) := own_bse ho1 C1.out.size
    clear hb ho1
    (try go_wp2_with fail)
    refine hK.out _ _ ?_ (fun hHeld => ?_)
    · exact HSS.out _ C2.out
    clear hK K
    refine wpAnyH_ready (rs := [6]) (by kernel_rfl) (by simp) ?_
    refine AllReadyH.cons rfl (fun K hK => ?_) AllReadyH.nil
    (try simp only [Act.put, List.setIfInBounds_toArray])
    go_simp
    refine (clipOps_any oa on oc _ HOC.out.1 HOC.out.2).mono ?_
    rintro e V3 ⟨rfl, rfl⟩
    (try go_wp2_with fail)
    refine hK.out _ _ ?_ (fun hHeld => ?_)
    · exact HSS.out _ C2.out
    clear hK K
    refine wpAnyH_ready (rs := [9]) (by kernel_rfl) (by simp) ?_
    refine AllReadyH.cons rfl (fun K hK => ?_) AllReadyH.nil
    refine step_append_full Try.underlying25 infO56 (by rfl) (by decide) rfl (.tmp 44) (.tmp 46) rfl oa on (rowO O) rfl (fun h => (HOC.out.2 h).1) hof (FO.out _ C2.out) gg 1 1 [.int .i64 o.k, .string o.n, .string o.t, .string o.d] rfl (by decide) rfl (four_at G2.out) (by simp [Value.oneCell']) (by omega) (by omega) ?_
    intro v4 V4 hown hg
    have hb := grown_none hg
    obtain ⟨a3, c3, rfl⟩ := own_anyV hown
    have L4 : Hid (V4.ownsRow w5.heap.size 55 2 (.slice ao dn co) dn (rowF (doF L o))) := own_blw L2.out hb
    have C4 : Hid (Below w5.heap.size w5 V4) := C2.out.trans (hb.mono C2.out.size)
    have OW : Hid (V4.ownsRow w5.heap.size 36 4 (.slice a3 (on + 1) c3) (on + 1) (rowO O ++ [.int .i64 o.k, .string o.n, .string o.t, .string o.d])) := own_bse hown C2.out.size
    clear hb hg hown
    refine hK.out _ _ ?_ (fun hHeld => ?_)
    · exact HSS.out _ C4.out
    clear hK K
    change wpAnyH _ _ _ _ _ _ _ (Act.put _ (some 47) _) _
    simp only [Act.put, List.setIfInBounds_toArray, List.set_cons_zero, List.set_cons_succ]
    refine wpAnyH_take (i := 10) (v := ?_) rfl (by kernel_rfl) (by kernel_rfl) (by kernel_rfl) (fun _ _ _ h => h) (Or.inl ⟨by kernel_rfl, ?_⟩) hHeld ?_
    rotate_left 1; focus (intro w hSw; (try dsimp only at hSw); (try go_split_ands); go_simp; all_goals (first | done | with_reducible rfl))
    change wpAnyH _ _ _ _ _ _ _ (Act.put _ (some 48) _) _; simp only [Act.put, List.setIfInBounds_toArray, List.set_cons_zero, List.set_cons_succ]
    refine wpAnyH_ready (rs := [11]) (by kernel_rfl) (by simp) ?_
    refine AllReadyH.cons rfl (fun K hK => ?_) AllReadyH.nil
    obtain ⟨r0, r1, r2⟩ := cells3 (HRB.out _ C4.out)
    have rf := fun i => frozen_of_row _ _ i _ _ (HRB.out _ C4.out)
    go_simp
    refine hK.out _ _ ?_ (fun hHeld => ?_)
    · exact HSK.out _ C4.out _ _ _
    clear hK K
    refine wpAnyH_take (i := 12) (v := ?_) rfl (by kernel_rfl) (by kernel_rfl) (by kernel_rfl) (fun _ _ _ h => h) (Or.inl ⟨by kernel_rfl, ?_⟩) hHeld ?_
    rotate_left 1; focus (intro w hSw; (try dsimp only at hSw); (try go_split_ands); go_simp; all_goals (first | done | with_reducible rfl))
    change wpAnyH _ _ _ _ _ _ _ (Act.put _ (some 5) _) _; simp only [Act.put, List.setIfInBounds_toArray, List.set_cons_zero, List.set_cons_succ]
    refine wpAnyH_done (by kernel_rfl) ?_ _
    clear hHeld
    obtain ⟨r0, r1, r2⟩ := cells3 (HRB.out _ C4.out)
    have DN := fun x y z => FIN.out _ ao co a3 c3 C4.out L4.out OW.out x y z
    have OC := own_capF OW.out
    go_wp2
    refine bodyPost_ret (v := .tuple #[.agg #[.slice ao dn co, .slice sa sn sc, .slice a3 (on + 1) c3], .int .i64 0]) (by simp [results, Try.results34, go_sem, r0, r1, r2]) rfl ⟨_, _, _, _, rfl, (DN _ _ _).1, (DN _ _ _).2, OC.1, OC.2⟩

end Go.Proofs.Ytpahhhocgpohbaa
