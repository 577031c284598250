import Derived.Test.YtpahhhocgpohbaaPack28
namespace Go.Proofs.Ytpahhhocgpohbaa
open Go.RowKit

theorem op_row {W : World} {b : Nat} {T : TypeId} {z0 z1 z2 z3 k n t d : Value} (h : W.heap[b]? = some (.cells #[z0, z1, z2, z3] T (0, 0))) : ((((W.setCell ⟨b, 0, none⟩ k).setCell ⟨b, 1, none⟩ n).setCell ⟨b, 2, none⟩ t).setCell ⟨b, 3, none⟩ d).heap[b]? = some (.cells #[k, n, t, d] T (0, 0)) := dop_row h
/-- What spec.DrawDo answers. -/
def DoOk (w : World) (e : Ending) (w' : World) : Prop :=
  ∃ (la sa oa : Option Addr) (ln sn on lc sc oc : Nat) (L S : List FI) (O : List OP) (k : Int) (n t d : ByteArray), e = .returned (.tuple #[.agg #[.slice la ln lc, .slice sa sn sc, .slice oa on oc], .agg #[.int .i64 k, .string n, .string t, .string d]]) ∧ DAt w' la sa oa L S O ∧ DskOk L S O ∧ (L.length = ln ∧ S.length = sn ∧ O.length = on) ∧ (on ≤ oc ∧ (oa = none → on = 0 ∧ oc = 0)) ∧ (n.size ≤ 8 ∧ t.size ≤ 4 ∧ d.size ≤ 3) ∧ Below w.heap.size w w'

theorem do_dok {L S : List FI} {O : List OP} {o : OP} (h : DskOk L S O) (hk : dK L S O o = 0) (h1 : o.n.size ≤ 1048576) (h2 : o.t.size ≤ 1048576) (h3 : o.d.size ≤ 1048576) : DskOk (dL L S O o) (dS L S O) (dO L S O o) := by
  cases hd : dskB L S O
  · unfold dK at hk
    rw [hd] at hk
    simp at hk
  · obtain ⟨e1, e2, e3, e4⟩ := do_right o hd
    rw [e2, e3, e4]
    exact dok_act h hd (e1 ▸ hk) h1 h2 h3
theorem do_fin {w W : World} {q i5 c ln sn on lc sc oc : Nat} {a la sa oa : Option Addr} {bs : List Int} {L S : List FI} {O : List OP} {k : Int} {n t d : ByteArray} {z0 z1 z2 z3 : Value} (h : DW w W q i5 a bs c la sa oa ln sn on lc sc oc L S O) (_h3 : W.heap[w.heap.size + 1]? = some (.cells #[z0, z1, z2, z3] 36 (0, 0))) (hs : n.size ≤ 8 ∧ t.size ≤ 4 ∧ d.size ≤ 3) : DoOk w (.returned (.tuple #[.agg #[.slice la ln lc, .slice sa sn sc, .slice oa on oc], .agg #[.int .i64 k, .string n, .string t, .string d]])) (((((((W.setCell ⟨w.heap.size, 0, none⟩ (.slice la ln lc)).setCell ⟨w.heap.size, 1, none⟩ (.slice sa sn sc)).setCell ⟨w.heap.size, 2, none⟩ (.slice oa on oc)).setCell ⟨w.heap.size + 1, 0, none⟩ (.int .i64 k)).setCell ⟨w.heap.size + 1, 1, none⟩ (.string n)).setCell ⟨w.heap.size + 1, 2, none⟩ (.string t)).setCell ⟨w.heap.size + 1, 3, none⟩ (.string d)).drew := by
  have o1 : Off3 (w.heap.size + 1) la sa oa L S O := off3_new h.nw (by omega)
  have d1 : DAt (((((((W.setCell ⟨w.heap.size, 0, none⟩ (.slice la ln lc)).setCell ⟨w.heap.size, 1, none⟩ (.slice sa sn sc)).setCell ⟨w.heap.size, 2, none⟩ (.slice oa on oc)).setCell ⟨w.heap.size + 1, 0, none⟩ (.int .i64 k)).setCell ⟨w.heap.size + 1, 1, none⟩ (.string n)).setCell ⟨w.heap.size + 1, 2, none⟩ (.string t)).setCell ⟨w.heap.size + 1, 3, none⟩ (.string d)).drew la sa oa L S O := (((((h.da.box3 h.r2).off (i := 0) (v := .int .i64 k) o1).off (i := 1) (v := .string n) o1).off (i := 2) (v := .string t) o1).off (i := 3) (v := .string d) o1).below (Below.refl _ _).drew
  exact ⟨la, sa, oa, ln, sn, on, lc, sc, oc, L, S, O, k, n, t, d, rfl, d1, h.ok, h.ln, h.cp, hs, ((((((((h.b.setCell (Nat.le_refl _) _).setCell (Nat.le_refl _) _).setCell (Nat.le_refl _) _).setCell (by show _ ≤ w.heap.size + 1; omega) _).setCell (by show _ ≤ w.heap.size + 1; omega) _).setCell (by show _ ≤ w.heap.size + 1; omega) _).setCell (by show _ ≤ w.heap.size + 1; omega) _)).drew⟩
theorem do_row2 {w W : World} {T U : TypeId} {v0 v1 v2 z0 z1 z2 z3 x y z k n t d : Value} (h2 : W.heap[w.heap.size]? = some (.cells #[v0, v1, v2] T (0, 0))) (h3 : W.heap[w.heap.size + 1]? = some (.cells #[z0, z1, z2, z3] U (0, 0))) : (((((((W.setCell ⟨w.heap.size, 0, none⟩ x).setCell ⟨w.heap.size, 1, none⟩ y).setCell ⟨w.heap.size, 2, none⟩ z).setCell ⟨w.heap.size + 1, 0, none⟩ k).setCell ⟨w.heap.size + 1, 1, none⟩ n).setCell ⟨w.heap.size + 1, 2, none⟩ t).setCell ⟨w.heap.size + 1, 3, none⟩ d).cell? ⟨w.heap.size, 0, none⟩ = some x ∧ (((((((W.setCell ⟨w.heap.size, 0, none⟩ x).setCell ⟨w.heap.size, 1, none⟩ y).setCell ⟨w.heap.size, 2, none⟩ z).setCell ⟨w.heap.size + 1, 0, none⟩ k).setCell ⟨w.heap.size + 1, 1, none⟩ n).setCell ⟨w.heap.size + 1, 2, none⟩ t).setCell ⟨w.heap.size + 1, 3, none⟩ d).cell? ⟨w.heap.size, 1, none⟩ = some y ∧ (((((((W.setCell ⟨w.heap.size, 0, none⟩ x).setCell ⟨w.heap.size, 1, none⟩ y).setCell ⟨w.heap.size, 2, none⟩ z).setCell ⟨w.heap.size + 1, 0, none⟩ k).setCell ⟨w.heap.size + 1, 1, none⟩ n).setCell ⟨w.heap.size + 1, 2, none⟩ t).setCell ⟨w.heap.size + 1, 3, none⟩ d).cell? ⟨w.heap.size, 2, none⟩ = some z ∧ (((((((W.setCell ⟨w.heap.size, 0, none⟩ x).setCell ⟨w.heap.size, 1, none⟩ y).setCell ⟨w.heap.size, 2, none⟩ z).setCell ⟨w.heap.size + 1, 0, none⟩ k).setCell ⟨w.heap.size + 1, 1, none⟩ n).setCell ⟨w.heap.size + 1, 2, none⟩ t).setCell ⟨w.heap.size + 1, 3, none⟩ d).cell? ⟨w.heap.size + 1, 0, none⟩ = some k ∧ (((((((W.setCell ⟨w.heap.size, 0, none⟩ x).setCell ⟨w.heap.size, 1, none⟩ y).setCell ⟨w.heap.size, 2, none⟩ z).setCell ⟨w.heap.size + 1, 0, none⟩ k).setCell ⟨w.heap.size + 1, 1, none⟩ n).setCell ⟨w.heap.size + 1, 2, none⟩ t).setCell ⟨w.heap.size + 1, 3, none⟩ d).cell? ⟨w.heap.size + 1, 1, none⟩ = some n ∧ (((((((W.setCell ⟨w.heap.size, 0, none⟩ x).setCell ⟨w.heap.size, 1, none⟩ y).setCell ⟨w.heap.size, 2, none⟩ z).setCell ⟨w.heap.size + 1, 0, none⟩ k).setCell ⟨w.heap.size + 1, 1, none⟩ n).setCell ⟨w.heap.size + 1, 2, none⟩ t).setCell ⟨w.heap.size + 1, 3, none⟩ d).cell? ⟨w.heap.size + 1, 2, none⟩ = some t ∧ (((((((W.setCell ⟨w.heap.size, 0, none⟩ x).setCell ⟨w.heap.size, 1, none⟩ y).setCell ⟨w.heap.size, 2, none⟩ z).setCell ⟨w.heap.size + 1, 0, none⟩ k).setCell ⟨w.heap.size + 1, 1, none⟩ n).setCell ⟨w.heap.size + 1, 2, none⟩ t).setCell ⟨w.heap.size + 1, 3, none⟩ d).cell? ⟨w.heap.size + 1, 3, none⟩ = some d := by
  have hne : w.heap.size ≠ w.heap.size + 1 := by omega
  have hne2 : w.heap.size + 1 ≠ w.heap.size := by omega
  have r2 := boxW (u := x) (v := y) (x := z) h2
  have r3 := (heap_setCell_other _ ⟨w.heap.size, 2, none⟩ _ z hne2).trans ((heap_setCell_other _ ⟨w.heap.size, 1, none⟩ _ y hne2).trans ((heap_setCell_other _ ⟨w.heap.size, 0, none⟩ _ x hne2).trans h3))
  have r4 := op_row (k := k) (n := n) (t := t) (d := d) r3
  have r5 := (heap_setCell_other _ ⟨w.heap.size + 1, 3, none⟩ _ d hne).trans ((heap_setCell_other _ ⟨w.heap.size + 1, 2, none⟩ _ t hne).trans ((heap_setCell_other _ ⟨w.heap.size + 1, 1, none⟩ _ n hne).trans ((heap_setCell_other _ ⟨w.heap.size + 1, 0, none⟩ _ k hne).trans r2)))
  obtain ⟨c0, c1, c2⟩ := cells3 r5
  obtain ⟨e0, e1, e2, e3⟩ := cells4 r4
  exact ⟨c0, c1, c2, e0, e1, e2, e3⟩

set_option maxHeartbeats 8000000 in
set_option maxRecDepth 20000 in
theorem drawDo_any (a : Option Addr) (c : Nat) (bs : List Int) (w : World) (h : CodeAt w a bs) (hl : bs.length ≤ 1048576) :
    Calls Try.prog 13 #[.slice a bs.length c] w (DoOk w) := by
  have HCA : Hid (CodeAt w a bs) := h
  have hb0 : Below w.heap.size w ((w.alloc (.cells #[.slice none 0 0, .slice none 0 0, .slice none 0 0] 27)).alloc (.cells #[.int .i64 0, .string ⟨#[]⟩, .string ⟨#[]⟩, .string ⟨#[]⟩] 36)) := ((Below.refl _ _).alloc (Nat.le_refl _) _).alloc (by simp) _
  have B0 : Hid (Below w.heap.size w ((w.alloc (.cells #[.slice none 0 0, .slice none 0 0, .slice none 0 0] 27)).alloc (.cells #[.int .i64 0, .string ⟨#[]⟩, .string ⟨#[]⟩, .string ⟨#[]⟩] 36))) := hb0
  have R20 : Hid (((w.alloc (.cells #[.slice none 0 0, .slice none 0 0, .slice none 0 0] 27)).alloc (.cells #[.int .i64 0, .string ⟨#[]⟩, .string ⟨#[]⟩, .string ⟨#[]⟩] 36)).heap[w.heap.size]? = some (.cells #[.slice none 0 0, .slice none 0 0, .slice none 0 0] 27 (0, 0))) := heap_alloc2_old _ _ _
  have R30 : Hid (((w.alloc (.cells #[.slice none 0 0, .slice none 0 0, .slice none 0 0] 27)).alloc (.cells #[.int .i64 0, .string ⟨#[]⟩, .string ⟨#[]⟩, .string ⟨#[]⟩] 36)).heap[w.heap.size + 1]? = some (.cells #[.int .i64 0, .string ⟨#[]⟩, .string ⟨#[]⟩, .string ⟨#[]⟩] 36 (0, 0))) := heap_alloc2_new _ _ _
  have H0 : Hid (CodeAt ((w.alloc (.cells #[.slice none 0 0, .slice none 0 0, .slice none 0 0] 27)).alloc (.cells #[.int .i64 0, .string ⟨#[]⟩, .string ⟨#[]⟩, .string ⟨#[]⟩] 36)) a bs) := fun j hj => by
    obtain ⟨b, off, e, hc, hv⟩ := h j hj
    exact ⟨b, off, e, (hb0.cell (p := ⟨b, off + j, none⟩) (block_lt_of_cell hc)).trans hc, hv⟩
  clear hb0 h
  go_enter Try.func13, Try.ntmps13
  go_wp2_with fail
  generalize ((w.alloc (.cells #[.slice none 0 0, .slice none 0 0, .slice none 0 0] 27)).alloc (.cells #[.int .i64 0, .string ⟨#[]⟩, .string ⟨#[]⟩, .string ⟨#[]⟩] 36)) = W0 at *
  refine (l1Open_any a c bs W0 H0.out hl).mono ?_
  rintro e w1 ⟨rfl, hb, hr⟩
  have B1 : Hid (Below w.heap.size w w1) := B0.out.trans (hb.mono B0.out.size)
  have R21 : Hid (w1.heap[w.heap.size]? = some (.cells #[.slice none 0 0, .slice none 0 0, .slice none 0 0] 27 (0, 0))) := below_row hb (row_lt R20.out) R20.out
  have R31 : Hid (w1.heap[w.heap.size + 1]? = some (.cells #[.int .i64 0, .string ⟨#[]⟩, .string ⟨#[]⟩, .string ⟨#[]⟩] 36 (0, 0))) := below_row hb (row_lt R30.out) R30.out
  have R1 : Hid (RD w1 W0.heap.size a bs c 0) := hr
  have HQ : Hid (w.heap.size + 1 < W0.heap.size) := row_lt R30.out
  have HS1 : Hid (w.heap.size + 2 ≤ w1.heap.size) := by have := row_lt R31.out; show _ ≤ _; omega
  clear hb hr R20 R30 H0 B0
  generalize W0.heap.size = q at *
  go_wp2_with fail
  refine (disk_any q 0 c a bs w1 R1.out).mono ?_
  rintro e w2 ⟨la, sa, oa, ln, sn, on, lc, sc, oc, p, L, S, O, rfl, hd, hk, hn, hc, hnw, hr, hg⟩
  have hqn : w.heap.size ≠ q := by have := HQ.out; omega
  have hqn1 : w.heap.size + 1 ≠ q := by have := HQ.out; omega
  have B2 : Hid (Below w.heap.size w w2) := grown_below B1.out (by have := HQ.out; omega) hg
  have R22 : Hid (w2.heap[w.heap.size]? = some (.cells #[.slice none 0 0, .slice none 0 0, .slice none 0 0] 27 (0, 0))) := row_gq R21.out (row_lt R21.out) hg hqn
  have R32 : Hid (w2.heap[w.heap.size + 1]? = some (.cells #[.int .i64 0, .string ⟨#[]⟩, .string ⟨#[]⟩, .string ⟨#[]⟩] 36 (0, 0))) := row_gq R31.out (row_lt R31.out) hg hqn1
  have HS2 : Hid (w.heap.size + 2 ≤ w2.heap.size) := Nat.le_trans HS1.out hg.size
  have D3 : Hid (DW w (w2.alloc (.cells #[.slice la ln lc, .slice sa sn sc, .slice oa on oc] 27)) q w2.heap.size a bs c la sa oa ln sn on lc sc oc L S O) := by
    have hb : Below w2.heap.size w2 (w2.alloc (.cells #[.slice la ln lc, .slice sa sn sc, .slice oa on oc] 27)) := (Below.refl _ _).alloc (Nat.le_refl _) _
    exact ⟨HCA.out, ⟨p, hr.below hb⟩, B2.out.trans (hb.mono B2.out.size), by have := HQ.out; omega, HS2.out, below_row hb (row_lt R22.out) R22.out, heap_alloc_new _ _, hd.below hb, hk, hn, hc, ⟨fun b off e => Nat.le_trans HS1.out (hnw.1 b off e), fun b off e => Nat.le_trans HS1.out (hnw.2.1 b off e), fun b off e => Nat.le_trans HS1.out (hnw.2.2 b off e)⟩⟩
  have R33 : Hid ((w2.alloc (.cells #[.slice la ln lc, .slice sa sn sc, .slice oa on oc] 27)).heap[w.heap.size + 1]? = some (.cells #[.int .i64 0, .string ⟨#[]⟩, .string ⟨#[]⟩, .string ⟨#[]⟩] 36 (0, 0))) := below_row ((Below.refl _ _).alloc (Nat.le_refl _) _) (row_lt R32.out) R32.out
  clear hd hk hn hc hnw hr hg R1 B1 R21 R31 B2 R22 R32 HS1 hqn hqn1
  go_wp2_with fail
  obtain ⟨i5, HI5⟩ : ∃ i, Hid (w2.heap.size = i) := ⟨_, rfl⟩
  rw [HI5.out] at D3 ⊢
  generalize (w2.alloc (.cells #[.slice la ln lc, .slice sa sn sc, .slice oa on oc] 27)) = w3 at *
  clear HI5 HS2
  obtain ⟨p3, hr3⟩ := D3.out.rd
  refine (dop_any q p3 c a bs w3 hr3).mono ?_
  rintro e w4 ⟨k, n, t, d, p4, rfl, hsz, hr, hg⟩
  have HSZ : Hid (n.size ≤ 8 ∧ t.size ≤ 4 ∧ d.size ≤ 3) := hsz
  have D4 : Hid (DW w w4 q i5 a bs c la sa oa ln sn on lc sc oc L S O) := D3.out.read hr hg
  have R34 : Hid (w4.heap[w.heap.size + 1]? = some (.cells #[.int .i64 0, .string ⟨#[]⟩, .string ⟨#[]⟩, .string ⟨#[]⟩] 36 (0, 0))) := row_gq R33.out (row_lt R33.out) hg (by have := HQ.out; omega)
  have hb5 : Below w4.heap.size w4 (w4.alloc (.cells #[.int .i64 k, .string n, .string t, .string d] 36)) := (Below.refl _ _).alloc (Nat.le_refl _) _
  have D5 : Hid (DW w (w4.alloc (.cells #[.int .i64 k, .string n, .string t, .string d] 36)) q i5 a bs c la sa oa ln sn on lc sc oc L S O) := D4.out.below hb5
  have R35 : Hid ((w4.alloc (.cells #[.int .i64 k, .string n, .string t, .string d] 36)).heap[w.heap.size + 1]? = some (.cells #[.int .i64 0, .string ⟨#[]⟩, .string ⟨#[]⟩, .string ⟨#[]⟩] 36 (0, 0))) := below_row hb5 (row_lt R34.out) R34.out
  have R65 : Hid ((w4.alloc (.cells #[.int .i64 k, .string n, .string t, .string d] 36)).heap[w4.heap.size]? = some (.cells #[.int .i64 k, .string n, .string t, .string d] 36 (0, 0))) := heap_alloc_new _ _
  have HI6 : Hid (w.heap.size + 2 ≤ w4.heap.size) := by have := row_lt R34.out; show _ ≤ _; omega
  have OF6 : Hid (Off3 w4.heap.size la sa oa L S O) := D4.out.da.offAt (Nat.le_refl _)
  clear hr hg hb5 hr3 D3 R33 D4 R34 hsz
  go_wp2_with fail
  obtain ⟨i6, HI6'⟩ : ∃ i, Hid (w4.heap.size = i) := ⟨_, rfl⟩
  rw [HI6'.out] at R65 HI6 OF6 ⊢
  generalize (w4.alloc (.cells #[.int .i64 k, .string n, .string t, .string d] 36)) = w5 at *
  clear HI6'
  obtain ⟨p5, hr5⟩ := D5.out.rd
  refine (below_any q p5 c 20 a bs w5 hr5 (by omega)).mono ?_
  rintro e w6 ⟨v, p6, rfl, hv0, hv1, hr, hg⟩
  have D6 : Hid (DW w w6 q i5 a bs c la sa oa ln sn on lc sc oc L S O) := D5.out.read hr hg
  have R36 : Hid (w6.heap[w.heap.size + 1]? = some (.cells #[.int .i64 0, .string ⟨#[]⟩, .string ⟨#[]⟩, .string ⟨#[]⟩] 36 (0, 0))) := row_gq R35.out (row_lt R35.out) hg (by have := HQ.out; omega)
  have R66 : Hid (w6.heap[i6]? = some (.cells #[.int .i64 k, .string n, .string t, .string d] 36 (0, 0))) := row_gq R65.out (row_lt R65.out) hg (row_ne_q hr5 R65.out (by decide))
  clear hr hg hr5 D5 R35 R65 hv0 hv1
  by_cases hv0 : v = 0
  · subst hv0
    obtain ⟨p7, hr7⟩ := D6.out.rd
    go_wp2_with fail
    refine (off_any q p7 c 1 3 a bs w6 hr7 (by omega) (by omega) (by omega) (by omega)).mono ?_
    rintro e w7 ⟨k2, p8, rfl, hk0, hk1, hr, hg⟩
    have D7 : Hid (DW w w7 q i5 a bs c la sa oa ln sn on lc sc oc L S O) := D6.out.read hr hg
    have R37 : Hid (w7.heap[w.heap.size + 1]? = some (.cells #[.int .i64 0, .string ⟨#[]⟩, .string ⟨#[]⟩, .string ⟨#[]⟩] 36 (0, 0))) := row_gq R36.out (row_lt R36.out) hg (by have := HQ.out; omega)
    have R67 : Hid (w7.heap[i6]? = some (.cells #[.int .i64 k, .string n, .string t, .string d] 36 (0, 0))) := row_gq R66.out (row_lt R66.out) hg (row_ne_q hr7 R66.out (by decide))
    clear hr hg hr7 D6 R36 R66
    obtain ⟨u0, u1, u2, u3⟩ := cells4 R67.out
    have uf := fun i => frozen_of_row _ _ i _ _ R67.out
    have D8 : Hid (DW w (w7.setCell ⟨i6, 0, none⟩ (.int .i64 k2)) q i5 a bs c la sa oa ln sn on lc sc oc L S O) := D7.out.off R67.out (by have := HI6.out; omega) OF6.out
    have R38 : Hid ((w7.setCell ⟨i6, 0, none⟩ (.int .i64 k2)).heap[w.heap.size + 1]? = some (.cells #[.int .i64 0, .string ⟨#[]⟩, .string ⟨#[]⟩, .string ⟨#[]⟩] 36 (0, 0))) := (heap_setCell_other _ _ _ _ (by have := HI6.out; show w.heap.size + 1 ≠ i6; omega)).trans R37.out
    have R68 : Hid ((w7.setCell ⟨i6, 0, none⟩ (.int .i64 k2)).heap[i6]? = some (.cells #[.int .i64 k2, .string n, .string t, .string d] 36 (0, 0))) := by show _ = _; have := heap_setCell_same w7 i6 0 _ _ (.int .i64 k2) R67.out; simpa using this
    go_upto_region 18 with fail
    clear u0 u1 u2 u3 uf D7 R37 R67
    generalize w7.setCell ⟨i6, 0, none⟩ (.int .i64 k2) = w8 at *
    obtain ⟨g0, g1, g2⟩ := cells3 D8.out.r5
    obtain ⟨y0, y1, y2⟩ := cells3 D8.out.r2
    have yf := fun i => frozen_of_row _ _ i _ _ D8.out.r2
    obtain ⟨x0, x1, x2, x3⟩ := cells4 R38.out
    have xf := fun i => frozen_of_row _ _ i _ _ R38.out
    obtain ⟨u0, u1, u2, u3⟩ := cells4 R68.out
    have FE : Hid (DoOk w (.returned (.tuple #[.agg #[.slice la ln lc, .slice sa sn sc, .slice oa on oc], .agg #[.int .i64 k2, .string n, .string t, .string d]])) (((((((w8.setCell ⟨w.heap.size, 0, none⟩ (.slice la ln lc)).setCell ⟨w.heap.size, 1, none⟩ (.slice sa sn sc)).setCell ⟨w.heap.size, 2, none⟩ (.slice oa on oc)).setCell ⟨w.heap.size + 1, 0, none⟩ (.int .i64 k2)).setCell ⟨w.heap.size + 1, 1, none⟩ (.string n)).setCell ⟨w.heap.size + 1, 2, none⟩ (.string t)).setCell ⟨w.heap.size + 1, 3, none⟩ (.string d)).drew) := do_fin D8.out R38.out HSZ.out
    have RZ1 := do_row2 (k := .int .i64 k2) (n := .string n) (t := .string t) (d := .string d) D8.out.r2 R38.out (x := .slice la ln lc) (y := .slice sa sn sc) (z := .slice oa on oc)
    obtain ⟨q0, q1, q2, q3, q4, q5, q6⟩ := RZ1
    go_upto_region 18 with fail
    have hn1 : ¬ i6 = w.heap.size := by have := HI6.out; omega
    have hn2 : ¬ w.heap.size = i6 := by have := HI6.out; omega
    have hn3 : ¬ i6 = w.heap.size + 1 := by have := HI6.out; omega
    have hn4 : ¬ w.heap.size + 1 = i6 := by have := HI6.out; omega
    go_region
    all_goals (
      go_wp2
      refine bodyPost_ret (v := .tuple #[.agg #[.slice la ln lc, .slice sa sn sc, .slice oa on oc], .agg #[.int .i64 k2, .string n, .string t, .string d]]) (by simp [results, Try.results13, go_sem, q0, q1, q2, q3, q4, q5, q6]) rfl FE.out)
  have hv0b : (v == 0) = false := by simp [hv0]
  by_cases hv1 : v = 1
  · subst hv1
    obtain ⟨u0, u1, u2, u3⟩ := cells4 R66.out
    have uf := fun i => frozen_of_row _ _ i _ _ R66.out
    have D8 : Hid (DW w (w6.setCell ⟨i6, 1, none⟩ (.string ⟨#[]⟩)) q i5 a bs c la sa oa ln sn on lc sc oc L S O) := D6.out.off R66.out (by have := HI6.out; omega) OF6.out
    have R38 : Hid ((w6.setCell ⟨i6, 1, none⟩ (.string ⟨#[]⟩)).heap[w.heap.size + 1]? = some (.cells #[.int .i64 0, .string ⟨#[]⟩, .string ⟨#[]⟩, .string ⟨#[]⟩] 36 (0, 0))) := (heap_setCell_other _ _ _ _ (by have := HI6.out; show w.heap.size + 1 ≠ i6; omega)).trans R36.out
    have R68 : Hid ((w6.setCell ⟨i6, 1, none⟩ (.string ⟨#[]⟩)).heap[i6]? = some (.cells #[.int .i64 k, .string ⟨#[]⟩, .string t, .string d] 36 (0, 0))) := by show _ = _; have := heap_setCell_same w6 i6 1 _ _ (.string ⟨#[]⟩) R66.out; simpa using this
    go_upto_region 18 with fail
    clear u0 u1 u2 u3 uf D6 R36 R66
    generalize (w6.setCell ⟨i6, 1, none⟩ (.string ⟨#[]⟩)) = w8 at *
    obtain ⟨g0, g1, g2⟩ := cells3 D8.out.r5
    obtain ⟨y0, y1, y2⟩ := cells3 D8.out.r2
    have yf := fun i => frozen_of_row _ _ i _ _ D8.out.r2
    obtain ⟨x0, x1, x2, x3⟩ := cells4 R38.out
    have xf := fun i => frozen_of_row _ _ i _ _ R38.out
    obtain ⟨u0, u1, u2, u3⟩ := cells4 R68.out
    have FE : Hid (DoOk w (.returned (.tuple #[.agg #[.slice la ln lc, .slice sa sn sc, .slice oa on oc], .agg #[.int .i64 k, .string ⟨#[]⟩, .string t, .string d]])) (((((((w8.setCell ⟨w.heap.size, 0, none⟩ (.slice la ln lc)).setCell ⟨w.heap.size, 1, none⟩ (.slice sa sn sc)).setCell ⟨w.heap.size, 2, none⟩ (.slice oa on oc)).setCell ⟨w.heap.size + 1, 0, none⟩ (.int .i64 k)).setCell ⟨w.heap.size + 1, 1, none⟩ (.string ⟨#[]⟩)).setCell ⟨w.heap.size + 1, 2, none⟩ (.string t)).setCell ⟨w.heap.size + 1, 3, none⟩ (.string d)).drew) := do_fin D8.out R38.out ⟨by decide, HSZ.out.2.1, HSZ.out.2.2⟩
    have RZ1 := do_row2 (k := .int .i64 k) (n := .string ⟨#[]⟩) (t := .string t) (d := .string d) D8.out.r2 R38.out (x := .slice la ln lc) (y := .slice sa sn sc) (z := .slice oa on oc)
    obtain ⟨q0, q1, q2, q3, q4, q5, q6⟩ := RZ1
    go_upto_region 18 with fail
    have hn1 : ¬ i6 = w.heap.size := by have := HI6.out; omega
    have hn2 : ¬ w.heap.size = i6 := by have := HI6.out; omega
    have hn3 : ¬ i6 = w.heap.size + 1 := by have := HI6.out; omega
    have hn4 : ¬ w.heap.size + 1 = i6 := by have := HI6.out; omega
    go_region
    all_goals (
      go_wp2
      refine bodyPost_ret (v := .tuple #[.agg #[.slice la ln lc, .slice sa sn sc, .slice oa on oc], .agg #[.int .i64 k, .string ⟨#[]⟩, .string t, .string d]]) (by simp [results, Try.results13, go_sem, q0, q1, q2, q3, q4, q5, q6]) rfl FE.out)
  have hv1b : (v == 1) = false := by simp [hv1]
  by_cases hv2 : v = 2
  · subst hv2
    obtain ⟨u0, u1, u2, u3⟩ := cells4 R66.out
    have uf := fun i => frozen_of_row _ _ i _ _ R66.out
    have D8 : Hid (DW w (w6.setCell ⟨i6, 2, none⟩ (.string ⟨#[120]⟩)) q i5 a bs c la sa oa ln sn on lc sc oc L S O) := D6.out.off R66.out (by have := HI6.out; omega) OF6.out
    have R38 : Hid ((w6.setCell ⟨i6, 2, none⟩ (.string ⟨#[120]⟩)).heap[w.heap.size + 1]? = some (.cells #[.int .i64 0, .string ⟨#[]⟩, .string ⟨#[]⟩, .string ⟨#[]⟩] 36 (0, 0))) := (heap_setCell_other _ _ _ _ (by have := HI6.out; show w.heap.size + 1 ≠ i6; omega)).trans R36.out
    have R68 : Hid ((w6.setCell ⟨i6, 2, none⟩ (.string ⟨#[120]⟩)).heap[i6]? = some (.cells #[.int .i64 k, .string n, .string ⟨#[120]⟩, .string d] 36 (0, 0))) := by show _ = _; have := heap_setCell_same w6 i6 2 _ _ (.string ⟨#[120]⟩) R66.out; simpa using this
    go_upto_region 18 with fail
    clear u0 u1 u2 u3 uf D6 R36 R66
    generalize (w6.setCell ⟨i6, 2, none⟩ (.string ⟨#[120]⟩)) = w8 at *
    obtain ⟨g0, g1, g2⟩ := cells3 D8.out.r5
    obtain ⟨y0, y1, y2⟩ := cells3 D8.out.r2
    have yf := fun i => frozen_of_row _ _ i _ _ D8.out.r2
    obtain ⟨x0, x1, x2, x3⟩ := cells4 R38.out
    have xf := fun i => frozen_of_row _ _ i _ _ R38.out
    obtain ⟨u0, u1, u2, u3⟩ := cells4 R68.out
    have FE : Hid (DoOk w (.returned (.tuple #[.agg #[.slice la ln lc, .slice sa sn sc, .slice oa on oc], .agg #[.int .i64 k, .string n, .string ⟨#[120]⟩, .string d]])) (((((((w8.setCell ⟨w.heap.size, 0, none⟩ (.slice la ln lc)).setCell ⟨w.heap.size, 1, none⟩ (.slice sa sn sc)).setCell ⟨w.heap.size, 2, none⟩ (.slice oa on oc)).setCell ⟨w.heap.size + 1, 0, none⟩ (.int .i64 k)).setCell ⟨w.heap.size + 1, 1, none⟩ (.string n)).setCell ⟨w.heap.size + 1, 2, none⟩ (.string ⟨#[120]⟩)).setCell ⟨w.heap.size + 1, 3, none⟩ (.string d)).drew) := do_fin D8.out R38.out ⟨HSZ.out.1, by decide, HSZ.out.2.2⟩
    have RZ1 := do_row2 (k := .int .i64 k) (n := .string n) (t := .string ⟨#[120]⟩) (d := .string d) D8.out.r2 R38.out (x := .slice la ln lc) (y := .slice sa sn sc) (z := .slice oa on oc)
    obtain ⟨q0, q1, q2, q3, q4, q5, q6⟩ := RZ1
    go_upto_region 18 with fail
    have hn1 : ¬ i6 = w.heap.size := by have := HI6.out; omega
    have hn2 : ¬ w.heap.size = i6 := by have := HI6.out; omega
    have hn3 : ¬ i6 = w.heap.size + 1 := by have := HI6.out; omega
    have hn4 : ¬ w.heap.size + 1 = i6 := by have := HI6.out; omega
    go_region
    all_goals (
      go_wp2
      refine bodyPost_ret (v := .tuple #[.agg #[.slice la ln lc, .slice sa sn sc, .slice oa on oc], .agg #[.int .i64 k, .string n, .string ⟨#[120]⟩, .string d]]) (by simp [results, Try.results13, go_sem, q0, q1, q2, q3, q4, q5, q6]) rfl FE.out)
  have hv2b : (v == 2) = false := by simp [hv2]
  by_cases hv3 : v = 3
  · subst hv3
    clear OF6
    go_wp2_with fail
    go_loopw [7] (fun t7 wr => ∃ (i : Nat) (la sa oa : Option Addr) (ln sn on lc sc oc : Nat) (L S : List FI) (O : List OP), i ≤ 200 ∧ t7 = .int .i64 i ∧ DW w wr q i5 a bs c la sa oa ln sn on lc sc oc L S O ∧ wr.heap[w.heap.size + 1]? = some (.cells #[.int .i64 0, .string ⟨#[]⟩, .string ⟨#[]⟩, .string ⟨#[]⟩] 36 (0, 0)) ∧ wr.heap[i6]? = some (.cells #[.int .i64 k, .string n, .string t, .string d] 36 (0, 0))) (fun t7 _ => 200 - (intOf t7).toNat)
    case atStart => exact ⟨0, la, sa, oa, ln, sn, on, lc, sc, oc, L, S, O, Nat.zero_le _, rfl, D6.out, R36.out, R66.out⟩
    case round =>
      clear D6 R36 R66
      obtain ⟨i, la, sa, oa, ln, sn, on, lc, sc, oc, L, S, O, hi, rfl, hdw, hr3, hr6⟩ := hrel
      have D7 : Hid (DW w wr q i5 a bs c la sa oa ln sn on lc sc oc L S O) := hdw
      have R37 : Hid (wr.heap[w.heap.size + 1]? = some (.cells #[.int .i64 0, .string ⟨#[]⟩, .string ⟨#[]⟩, .string ⟨#[]⟩] 36 (0, 0))) := hr3
      have R67 : Hid (wr.heap[i6]? = some (.cells #[.int .i64 k, .string n, .string t, .string d] 36 (0, 0))) := hr6
      clear hdw hr3 hr6
      by_cases hlt : i < 200
      · have hlt' : (i : Int) < 200 := by omega
        have hdl : decide (i < 200) = true := decide_eq_true hlt
        obtain ⟨p7, hr7⟩ := D7.out.rd
        have RR : Hid (RD wr.drew q a bs c p7) := hr7.below (Below.refl _ _).drew
        go_upto_region 13 with fail
        have kS := cells3 (below_row (Below.refl _ _).drew (row_lt D7.out.r5) D7.out.r5)
        go_region_held3 (fun W => W.cell? ⟨i5, 0, none⟩ = some (.slice la ln lc) ∧ W.cell? ⟨i5, 1, none⟩ = some (.slice sa sn sc) ∧ W.cell? ⟨i5, 2, none⟩ = some (.slice oa on oc)) (first | with_reducible exact kS | go_keep) ((first
          | (go_at_call 32
             with_reducible refine (below_any q p7 c 2 a bs _ RR.out (by omega)).mono ?_
             rintro e w8 ⟨v2, p8, rfl, hv0, hv1, hr, hg⟩
             have D8 : Hid (DW w w8 q i5 a bs c la sa oa ln sn on lc sc oc L S O) := (D7.out.below (Below.refl _ _).drew).read hr hg
             have R38 : Hid (w8.heap[w.heap.size + 1]? = some (.cells #[.int .i64 0, .string ⟨#[]⟩, .string ⟨#[]⟩, .string ⟨#[]⟩] 36 (0, 0))) := row_gq (below_row (Below.refl _ _).drew (row_lt R37.out) R37.out) (row_lt R37.out) hg (by have := HQ.out; omega)
             have R68 : Hid (w8.heap[i6]? = some (.cells #[.int .i64 k, .string n, .string t, .string d] 36 (0, 0))) := row_gq (below_row (Below.refl _ _).drew (row_lt R67.out) R67.out) (row_lt R67.out) hg (row_ne_q RR.out (below_row (Below.refl _ _).drew (row_lt R67.out) R67.out) (by decide))
             have kS := cells3 D8.out.r5
             have hw8 : IntKind.i64.wrap (199 + v2) = 199 + v2 := IntWalk.i64_in _ (by omega)
             have hw9 : wrap64 (199 + v2) = 199 + v2 := by unfold wrap64; omega
             clear hr hg)))
        clear RR hr7
        generalize decide ((on : Int) < 199 + v2) = bb
        rcases Bool.eq_false_or_eq_true bb with hon | hon
        · subst hon
          have HDO : Hid (Calls Try.prog 15 #[.agg #[.slice la ln lc, .slice sa sn sc, .slice oa on oc], .agg #[.int .i64 1, .string ⟨#[98]⟩, .string ⟨#[]⟩, .string ⟨#[]⟩]] w8 fun e w' => ∃ x1 x2 x3 a1 c1 a2 c2 a3 c3, e = .returned (.tuple #[.agg #[.slice a1 x1 c1, .slice a2 x2 c2, .slice a3 x3 c3], .int .i64 (dK L S O ⟨1, ⟨#[98]⟩, ⟨#[]⟩, ⟨#[]⟩⟩)]) ∧ ((dL L S O ⟨1, ⟨#[98]⟩, ⟨#[]⟩, ⟨#[]⟩⟩).length = x1 ∧ (dS L S O).length = x2 ∧ (dO L S O ⟨1, ⟨#[98]⟩, ⟨#[]⟩, ⟨#[]⟩⟩).length = x3) ∧ Below w8.heap.size w8 w' ∧ DA w' w8.heap.size (.slice a1 x1 c1) (.slice a2 x2 c2) (.slice a3 x3 c3) (dL L S O ⟨1, ⟨#[98]⟩, ⟨#[]⟩, ⟨#[]⟩⟩) (dS L S O) (dO L S O ⟨1, ⟨#[98]⟩, ⟨#[]⟩, ⟨#[]⟩⟩)) := by
            have h := specDo_any la sa oa lc sc oc ln sn on _ _ _ _ L S O ⟨1, ⟨#[98]⟩, ⟨#[]⟩, ⟨#[]⟩⟩ w8 D8.out.da D8.out.ok D8.out.ln.1 D8.out.ln.2.1 D8.out.ln.2.2 (by decide) (by decide) (by decide) rfl rfl rfl rfl
            exact h.mono fun e w' ⟨a1, c1, a2, c2, a3, c3, r1, r2, r3⟩ => ⟨_, _, _, a1, c1, a2, c2, a3, c3, r1, ⟨rfl, rfl, rfl⟩, r2, r3⟩
          have HOK : Hid (dK L S O ⟨1, ⟨#[98]⟩, ⟨#[]⟩, ⟨#[]⟩⟩ = 0 → DskOk (dL L S O ⟨1, ⟨#[98]⟩, ⟨#[]⟩, ⟨#[]⟩⟩) (dS L S O) (dO L S O ⟨1, ⟨#[98]⟩, ⟨#[]⟩, ⟨#[]⟩⟩)) := fun h => do_dok D8.out.ok h (by decide) (by decide) (by decide)
          generalize dK L S O ⟨1, ⟨#[98]⟩, ⟨#[]⟩, ⟨#[]⟩⟩ = kd at *
          generalize dL L S O ⟨1, ⟨#[98]⟩, ⟨#[]⟩, ⟨#[]⟩⟩ = XL at *
          generalize dS L S O = XS at *
          generalize dO L S O ⟨1, ⟨#[98]⟩, ⟨#[]⟩, ⟨#[]⟩⟩ = XO at *
          obtain ⟨f0, f1, f2⟩ := kS
          go_wp2_with fail
          refine HDO.out.mono ?_
          rintro e w9 ⟨x1, x2, x3, a1, c1, a2, c2, a3, c3, rfl, hxs, hb, hda⟩
          have HS8 : Hid (w.heap.size + 2 ≤ w8.heap.size) := by have := row_lt R38.out; show _ ≤ _; omega
          have hb2 : Below w9.heap.size w9 (w9.alloc (.cells #[.slice a1 x1 c1, .slice a2 x2 c2, .slice a3 x3 c3] 27)) := (Below.refl _ _).alloc (Nat.le_refl _) _
          have D9 : Hid (DW w (w9.alloc (.cells #[.slice a1 x1 c1, .slice a2 x2 c2, .slice a3 x3 c3] 27)) q i5 a bs c la sa oa ln sn on lc sc oc L S O) := (D8.out.below hb).below hb2
          have R39 : Hid ((w9.alloc (.cells #[.slice a1 x1 c1, .slice a2 x2 c2, .slice a3 x3 c3] 27)).heap[w.heap.size + 1]? = some (.cells #[.int .i64 0, .string ⟨#[]⟩, .string ⟨#[]⟩, .string ⟨#[]⟩] 36 (0, 0))) := below_row hb2 (row_lt (below_row hb (row_lt R38.out) R38.out)) (below_row hb (row_lt R38.out) R38.out)
          have R69 : Hid ((w9.alloc (.cells #[.slice a1 x1 c1, .slice a2 x2 c2, .slice a3 x3 c3] 27)).heap[i6]? = some (.cells #[.int .i64 k, .string n, .string t, .string d] 36 (0, 0))) := below_row hb2 (row_lt (below_row hb (row_lt R68.out) R68.out)) (below_row hb (row_lt R68.out) R68.out)
          have A9 : Hid (DA (w9.alloc (.cells #[.slice a1 x1 c1, .slice a2 x2 c2, .slice a3 x3 c3] 27)) w8.heap.size (.slice a1 x1 c1) (.slice a2 x2 c2) (.slice a3 x3 c3) XL XS XO) := hda.below hb2
          have R89 : Hid ((w9.alloc (.cells #[.slice a1 x1 c1, .slice a2 x2 c2, .slice a3 x3 c3] 27)).heap[w9.heap.size]? = some (.cells #[.slice a1 x1 c1, .slice a2 x2 c2, .slice a3 x3 c3] 27 (0, 0))) := heap_alloc_new _ _
          have HXS : Hid (XL.length = x1 ∧ XS.length = x2 ∧ XO.length = x3) := hxs
          obtain ⟨z0, z1, z2⟩ := cells3 R89.out
          obtain ⟨y0, y1, y2⟩ := cells3 D9.out.r5
          have yf := fun i => frozen_of_row _ _ i _ _ D9.out.r5
          clear hb hda hb2 hxs D8 R38 R68 f0 f1 f2
          by_cases hkd : kd = 0
          · subst hkd
            have D10 : Hid (DW w ((((w9.alloc (.cells #[.slice a1 x1 c1, .slice a2 x2 c2, .slice a3 x3 c3] 27)).setCell ⟨i5, 0, none⟩ (.slice a1 x1 c1)).setCell ⟨i5, 1, none⟩ (.slice a2 x2 c2)).setCell ⟨i5, 2, none⟩ (.slice a3 x3 c3)) q i5 a bs c a1 a2 a3 x1 x2 x3 c1 c2 c3 XL XS XO) := D9.out.store A9.out HS8.out (HOK.out rfl) HXS.out
            have hi5 : w.heap.size + 1 ≠ i5 := by have := D9.out.i0; omega
            have h65 : i6 ≠ i5 := fun e => by
              have h1 := R69.out
              rw [e, D9.out.r5] at h1
              injection h1 with h1
              injection h1 with _ t _
              exact absurd t (by decide)
            have R310 : Hid (((((w9.alloc (.cells #[.slice a1 x1 c1, .slice a2 x2 c2, .slice a3 x3 c3] 27)).setCell ⟨i5, 0, none⟩ (.slice a1 x1 c1)).setCell ⟨i5, 1, none⟩ (.slice a2 x2 c2)).setCell ⟨i5, 2, none⟩ (.slice a3 x3 c3)).heap[w.heap.size + 1]? = some (.cells #[.int .i64 0, .string ⟨#[]⟩, .string ⟨#[]⟩, .string ⟨#[]⟩] 36 (0, 0))) := (heap_setCell_other _ _ _ _ hi5).trans ((heap_setCell_other _ _ _ _ hi5).trans ((heap_setCell_other _ _ _ _ hi5).trans R39.out))
            have R610 : Hid (((((w9.alloc (.cells #[.slice a1 x1 c1, .slice a2 x2 c2, .slice a3 x3 c3] 27)).setCell ⟨i5, 0, none⟩ (.slice a1 x1 c1)).setCell ⟨i5, 1, none⟩ (.slice a2 x2 c2)).setCell ⟨i5, 2, none⟩ (.slice a3 x3 c3)).heap[i6]? = some (.cells #[.int .i64 k, .string n, .string t, .string d] 36 (0, 0))) := (heap_setCell_other _ _ _ _ h65).trans ((heap_setCell_other _ _ _ _ h65).trans ((heap_setCell_other _ _ _ _ h65).trans R69.out))
            go_wp2_with fail
            go_roundw
            case rel => exact ⟨i + 1, a1, a2, a3, x1, x2, x3, c1, c2, c3, XL, XS, XO, by omega, by first | rfl | go_num, D10.out, R310.out, R610.out⟩
            case measure => simp [intOf]; omega
          have hkb : (kd == 0) = false := by simp [hkd]
          clear y0 y1 y2 yf z0 z1 z2
          go_wp2_with fail
          go_roundw
          case rel => exact ⟨i + 1, la, sa, oa, ln, sn, on, lc, sc, oc, L, S, O, by omega, by first | rfl | go_num, D9.out, R39.out, R69.out⟩
          case measure => simp [intOf]; omega
        subst hon
        clear kS hw8 hw9 hv0 hv1 hlt hlt' hdl D7 R37 R67
        obtain ⟨g0, g1, g2⟩ := cells3 D8.out.r5
        obtain ⟨y0, y1, y2⟩ := cells3 D8.out.r2
        have yf := fun i => frozen_of_row _ _ i _ _ D8.out.r2
        obtain ⟨x0, x1, x2, x3⟩ := cells4 R38.out
        have xf := fun i => frozen_of_row _ _ i _ _ R38.out
        obtain ⟨u0, u1, u2, u3⟩ := cells4 R68.out
        have FE : Hid (DoOk w (.returned (.tuple #[.agg #[.slice la ln lc, .slice sa sn sc, .slice oa on oc], .agg #[.int .i64 k, .string n, .string t, .string d]])) (((((((w8.setCell ⟨w.heap.size, 0, none⟩ (.slice la ln lc)).setCell ⟨w.heap.size, 1, none⟩ (.slice sa sn sc)).setCell ⟨w.heap.size, 2, none⟩ (.slice oa on oc)).setCell ⟨w.heap.size + 1, 0, none⟩ (.int .i64 k)).setCell ⟨w.heap.size + 1, 1, none⟩ (.string n)).setCell ⟨w.heap.size + 1, 2, none⟩ (.string t)).setCell ⟨w.heap.size + 1, 3, none⟩ (.string d)).drew) := do_fin D8.out R38.out HSZ.out
        have RZ1 := do_row2 (k := .int .i64 k) (n := .string n) (t := .string t) (d := .string d) D8.out.r2 R38.out (x := .slice la ln lc) (y := .slice sa sn sc) (z := .slice oa on oc)
        obtain ⟨q0, q1, q2, q3, q4, q5, q6⟩ := RZ1
        go_upto_region 18 with fail
        have hn1 : ¬ i6 = w.heap.size := by have := HI6.out; omega
        have hn2 : ¬ w.heap.size = i6 := by have := HI6.out; omega
        have hn3 : ¬ i6 = w.heap.size + 1 := by have := HI6.out; omega
        have hn4 : ¬ w.heap.size + 1 = i6 := by have := HI6.out; omega
        go_region
        all_goals (
          go_wp2
          refine bodyPost_ret (v := .tuple #[.agg #[.slice la ln lc, .slice sa sn sc, .slice oa on oc], .agg #[.int .i64 k, .string n, .string t, .string d]]) (by simp [results, Try.results13, go_sem, q0, q1, q2, q3, q4, q5, q6]) rfl FE.out)
      have hlt' : ¬ (i : Int) < 200 := by omega
      have hdl : decide (i < 200) = false := decide_eq_false hlt
      go_upto_region 13 with fail
      go_quiet (fail)
      have D8 : Hid (DW w (wr.drewN nq) q i5 a bs c la sa oa ln sn on lc sc oc L S O) := D7.out.below (below_drewN (Below.refl _ _) nq)
      have R38 : Hid ((wr.drewN nq).heap[w.heap.size + 1]? = some (.cells #[.int .i64 0, .string ⟨#[]⟩, .string ⟨#[]⟩, .string ⟨#[]⟩] 36 (0, 0))) := below_row (below_drewN (Below.refl _ _) nq) (row_lt R37.out) R37.out
      have R68 : Hid ((wr.drewN nq).heap[i6]? = some (.cells #[.int .i64 k, .string n, .string t, .string d] 36 (0, 0))) := below_row (below_drewN (Below.refl _ _) nq) (row_lt R67.out) R67.out
      clear D7 R37 R67
      generalize wr.drewN nq = w8 at *
      obtain ⟨g0, g1, g2⟩ := cells3 D8.out.r5
      obtain ⟨y0, y1, y2⟩ := cells3 D8.out.r2
      have yf := fun i => frozen_of_row _ _ i _ _ D8.out.r2
      obtain ⟨x0, x1, x2, x3⟩ := cells4 R38.out
      have xf := fun i => frozen_of_row _ _ i _ _ R38.out
      obtain ⟨u0, u1, u2, u3⟩ := cells4 R68.out
      have FE : Hid (DoOk w (.returned (.tuple #[.agg #[.slice la ln lc, .slice sa sn sc, .slice oa on oc], .agg #[.int .i64 k, .string n, .string t, .string d]])) (((((((w8.setCell ⟨w.heap.size, 0, none⟩ (.slice la ln lc)).setCell ⟨w.heap.size, 1, none⟩ (.slice sa sn sc)).setCell ⟨w.heap.size, 2, none⟩ (.slice oa on oc)).setCell ⟨w.heap.size + 1, 0, none⟩ (.int .i64 k)).setCell ⟨w.heap.size + 1, 1, none⟩ (.string n)).setCell ⟨w.heap.size + 1, 2, none⟩ (.string t)).setCell ⟨w.heap.size + 1, 3, none⟩ (.string d)).drew) := do_fin D8.out R38.out HSZ.out
      have RZ1 := do_row2 (k := .int .i64 k) (n := .string n) (t := .string t) (d := .string d) D8.out.r2 R38.out (x := .slice la ln lc) (y := .slice sa sn sc) (z := .slice oa on oc)
      obtain ⟨q0, q1, q2, q3, q4, q5, q6⟩ := RZ1
      go_upto_region 18 with fail
      have hn1 : ¬ i6 = w.heap.size := by have := HI6.out; omega
      have hn2 : ¬ w.heap.size = i6 := by have := HI6.out; omega
      have hn3 : ¬ i6 = w.heap.size + 1 := by have := HI6.out; omega
      have hn4 : ¬ w.heap.size + 1 = i6 := by have := HI6.out; omega
      go_region
      all_goals (
        go_wp2
        refine bodyPost_ret (v := .tuple #[.agg #[.slice la ln lc, .slice sa sn sc, .slice oa on oc], .agg #[.int .i64 k, .string n, .string t, .string d]]) (by simp [results, Try.results13, go_sem, q0, q1, q2, q3, q4, q5, q6]) rfl FE.out)
  have hv3b : (v == 3) = false := by simp [hv3]
  obtain ⟨g0, g1, g2⟩ := cells3 D6.out.r5
  obtain ⟨y0, y1, y2⟩ := cells3 D6.out.r2
  have yf := fun i => frozen_of_row _ _ i _ _ D6.out.r2
  obtain ⟨x0, x1, x2, x3⟩ := cells4 R36.out
  have xf := fun i => frozen_of_row _ _ i _ _ R36.out
  obtain ⟨u0, u1, u2, u3⟩ := cells4 R66.out
  have FE : Hid (DoOk w (.returned (.tuple #[.agg #[.slice la ln lc, .slice sa sn sc, .slice oa on oc], .agg #[.int .i64 k, .string n, .string t, .string d]])) (((((((w6.setCell ⟨w.heap.size, 0, none⟩ (.slice la ln lc)).setCell ⟨w.heap.size, 1, none⟩ (.slice sa sn sc)).setCell ⟨w.heap.size, 2, none⟩ (.slice oa on oc)).setCell ⟨w.heap.size + 1, 0, none⟩ (.int .i64 k)).setCell ⟨w.heap.size + 1, 1, none⟩ (.string n)).setCell ⟨w.heap.size + 1, 2, none⟩ (.string t)).setCell ⟨w.heap.size + 1, 3, none⟩ (.string d)).drew) := do_fin D6.out R36.out HSZ.out
  have RZ1 := do_row2 (k := .int .i64 k) (n := .string n) (t := .string t) (d := .string d) D6.out.r2 R36.out (x := .slice la ln lc) (y := .slice sa sn sc) (z := .slice oa on oc)
  obtain ⟨q0, q1, q2, q3, q4, q5, q6⟩ := RZ1
  go_upto_region 18 with fail
  have hn1 : ¬ i6 = w.heap.size := by have := HI6.out; omega
  have hn2 : ¬ w.heap.size = i6 := by have := HI6.out; omega
  have hn3 : ¬ i6 = w.heap.size + 1 := by have := HI6.out; omega
  have hn4 : ¬ w.heap.size + 1 = i6 := by have := HI6.out; omega
  go_region
  all_goals (
    go_wp2
    refine bodyPost_ret (v := .tuple #[.agg #[.slice la ln lc, .slice sa sn sc, .slice oa on oc], .agg #[.int .i64 k, .string n, .string t, .string d]]) (by simp [results, Try.results13, go_sem, q0, q1, q2, q3, q4, q5, q6]) rfl FE.out)

end Go.Proofs.Ytpahhhocgpohbaa
