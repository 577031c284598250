import Derived.Test.YtonopidjkcmlmaaPack3
import Derived.Test.YtonopidjkcmlmaaPack5
import Derived.Test.YtonopidjkcmlmaaPack6
import Derived.Test.YtonopidjkcmlmaaPack18
import Derived.Test.YtonopidjkcmlmaaDrawPlan
import Derived.Test.YtonopidjkcmlmaaDrawCase
namespace Go.Proofs.Ytonopidjkcmlmaa
open Go.RowKit

theorem ids_range {n fi : Int} {zs O V : List Int} {ko kv : Nat} (h : caseB n zs O V ko kv fi = true) : ∀ x ∈ idsL O ko, -9223372036854775808 ≤ x ∧ x < 9223372036854775808 := fun x hx => by
  unfold caseB at h
  simp only [Bool.and_eq_true] at h
  obtain ⟨_, ht⟩ := ordsB_true h.1.1.2
  unfold idsL at hx
  obtain ⟨i, hi, rfl⟩ := List.mem_map.1 hx
  have := (ht i (List.mem_range.1 hi)).1
  unfold ordB inB at this
  simp only [Bool.and_eq_true, decide_eq_true_eq] at this
  omega
/-- What the draw of a case and a plan tells. -/
def PlanTold (w : World) (e : Ending) (w' : World) : Prop := ∃ (n : Int) (g zl cg go ko co gv kv cv : Nat) (zs O V : List Int) (fi : Int) (rs ls : Value) (R : List RT) (L : List Int),
  e = .returned (.tuple #[.agg #[.int .i64 n, .slice (some ⟨g, 0, none⟩) zl cg, .slice (some ⟨go, 0, none⟩) ko co, .slice (some ⟨gv, 0, none⟩) kv cv, .int .i64 fi], .agg #[rs, ls]]) ∧ (zs.length = zl ∧ O.length = ko * 6 ∧ V.length = kv * 5 ∧ 1 ≤ ko ∧ ko ≤ 5 ∧ 1 ≤ kv ∧ kv ≤ 3) ∧ (R.length ≤ 10 ∧ (∀ r ∈ R, r.ids.length ≤ 9) ∧ L.length ≤ 13 ∧ (∀ x ∈ L, -9223372036854775808 ≤ x ∧ x < 9223372036854775808)) ∧
  Below w.heap.size w w' ∧ IntsAt w' (some ⟨g, 0, none⟩) zs ∧ IntsAt w' (some ⟨go, 0, none⟩) O ∧ IntsAt w' (some ⟨gv, 0, none⟩) V ∧ (w.heap.size ≤ g ∧ w.heap.size ≤ go ∧ w.heap.size ≤ gv) ∧ PO w' w.heap.size rs R ls L

set_option maxRecDepth 10000 in
set_option maxHeartbeats 4000000 in
theorem drawPlanCost_any (a : Option Addr) (c : Nat) (bs : List Int) (w : World) (h : CodeAt w a bs) (hl : bs.length ≤ 1048576) :
    Calls Try.prog 18 #[.slice a bs.length c] w (PlanTold w) := by
  have H : Hid (CodeAt w a bs) := h
  clear h
  have BA : Hid (Below w.heap.size w ((w.alloc (.cells #[.int .i64 0, .slice none 0 0, .slice none 0 0, .slice none 0 0, .int .i64 0] 30)).alloc (.cells #[.slice none 0 0, .slice none 0 0] 33))) := ((Below.refl _ _).alloc (Nat.le_refl _) _).alloc (by simp) _
  have GA : Hid (((w.alloc (.cells #[.int .i64 0, .slice none 0 0, .slice none 0 0, .slice none 0 0, .int .i64 0] 30)).alloc (.cells #[.slice none 0 0, .slice none 0 0] 33)).heap[w.heap.size]? = some (.cells #[.int .i64 0, .slice none 0 0, .slice none 0 0, .slice none 0 0, .int .i64 0] 30 (0, 0))) := heap_alloc2_old _ _ _
  have GB : Hid (((w.alloc (.cells #[.int .i64 0, .slice none 0 0, .slice none 0 0, .slice none 0 0, .int .i64 0] 30)).alloc (.cells #[.slice none 0 0, .slice none 0 0] 33)).heap[w.heap.size + 1]? = some (.cells #[.slice none 0 0, .slice none 0 0] 33 (0, 0))) := heap_alloc2_new _ _ _
  have CA : Hid (CodeAt ((w.alloc (.cells #[.int .i64 0, .slice none 0 0, .slice none 0 0, .slice none 0 0, .int .i64 0] 30)).alloc (.cells #[.slice none 0 0, .slice none 0 0] 33)) a bs) := by
    intro j hj
    obtain ⟨b, off, e, hc, hv⟩ := H.out j hj
    exact ⟨b, off, e, (BA.out.cell (p := ⟨b, off + j, none⟩) (block_lt_of_cell hc)).trans hc, hv⟩
  go_enter Try.func18, Try.ntmps18
  go_wp2_with fail
  generalize (w.alloc (.cells #[.int .i64 0, .slice none 0 0, .slice none 0 0, .slice none 0 0, .int .i64 0] 30)).alloc (.cells #[.slice none 0 0, .slice none 0 0] 33) = W0 at *
  refine (l1Open_any a c bs W0 CA.out hl).mono ?_
  rintro e w1 ⟨rfl, hb, hr⟩
  obtain ⟨q, HQ⟩ : ∃ q, Hid (W0.heap.size = q) := ⟨_, rfl⟩
  have hw0 : w.heap.size + 1 < W0.heap.size := row_lt GB.out
  have HQL : Hid (w.heap.size + 1 < q) := by show _ < _; rw [← HQ.out]; exact hw0
  have B1 : Hid (Below w.heap.size w w1) := BA.out.trans (hb.mono BA.out.size)
  have G1 : Hid (w1.heap[w.heap.size]? = some (.cells #[.int .i64 0, .slice none 0 0, .slice none 0 0, .slice none 0 0, .int .i64 0] 30 (0, 0))) := below_row hb (row_lt GA.out) GA.out
  have G2 : Hid (w1.heap[w.heap.size + 1]? = some (.cells #[.slice none 0 0, .slice none 0 0] 33 (0, 0))) := below_row hb (row_lt GB.out) GB.out
  have R1 : Hid (RD w1 q a bs c 0) := by have := hr; rw [HQ.out] at this; exact this
  clear hb hr hw0
  rw [HQ.out]
  go_wp2_with fail
  refine (case1_any q 0 c 5 a bs w1 R1.out (by omega) (by omega)).mono ?_
  rintro e w3 ⟨n, g, zl, cg, go, ko, co, gv, kv, cv, zs, O, V, fi, rfl, hls, hg, ⟨p3, hr⟩, iz, io, iv, hgs⟩
  have HLS : Hid (zs.length = zl ∧ O.length = ko * 6 ∧ V.length = kv * 5 ∧ 1 ≤ ko ∧ ko ≤ 5 ∧ 1 ≤ kv ∧ kv ≤ 3) := hls
  obtain ⟨-, -, -, hk1, hk5, hv1, hv3⟩ := hls
  have hA : Below w3.heap.size w3 (w3.alloc (.cells #[.int .i64 n, .slice (some ⟨g, 0, none⟩) zl cg, .slice (some ⟨go, 0, none⟩) ko co, .slice (some ⟨gv, 0, none⟩) kv cv, .int .i64 fi] 30)) := (Below.refl _ _).alloc (Nat.le_refl _) _
  have hwq := HQL.out
  have hq1 : q < w1.heap.size := row_lt R1.out.1
  have b3 : Below w.heap.size w w3 := grown_below B1.out (by omega) hg
  have B3 : Hid (Below w.heap.size w (w3.alloc (.cells #[.int .i64 n, .slice (some ⟨g, 0, none⟩) zl cg, .slice (some ⟨go, 0, none⟩) ko co, .slice (some ⟨gv, 0, none⟩) kv cv, .int .i64 fi] 30))) := b3.trans (hA.mono b3.size)
  have g3 := grown_row hg G1.out (fun e => by injection e with e; omega)
  have g4 := grown_row hg G2.out (fun e => by injection e with e; omega)
  have G3 : Hid ((w3.alloc (.cells #[.int .i64 n, .slice (some ⟨g, 0, none⟩) zl cg, .slice (some ⟨go, 0, none⟩) ko co, .slice (some ⟨gv, 0, none⟩) kv cv, .int .i64 fi] 30)).heap[w.heap.size]? = some (.cells #[.int .i64 0, .slice none 0 0, .slice none 0 0, .slice none 0 0, .int .i64 0] 30 (0, 0))) := below_row hA (row_lt g3) g3
  have G4 : Hid ((w3.alloc (.cells #[.int .i64 n, .slice (some ⟨g, 0, none⟩) zl cg, .slice (some ⟨go, 0, none⟩) ko co, .slice (some ⟨gv, 0, none⟩) kv cv, .int .i64 fi] 30)).heap[w.heap.size + 1]? = some (.cells #[.slice none 0 0, .slice none 0 0] 33 (0, 0))) := below_row hA (row_lt g4) g4
  have K3 : Hid ((w3.alloc (.cells #[.int .i64 n, .slice (some ⟨g, 0, none⟩) zl cg, .slice (some ⟨go, 0, none⟩) ko co, .slice (some ⟨gv, 0, none⟩) kv cv, .int .i64 fi] 30)).heap[w3.heap.size]? = some (.cells #[.int .i64 n, .slice (some ⟨g, 0, none⟩) zl cg, .slice (some ⟨go, 0, none⟩) ko co, .slice (some ⟨gv, 0, none⟩) kv cv, .int .i64 fi] 30 (0, 0))) := heap_alloc_new _ _
  have HKQ : Hid (w.heap.size + 1 < w3.heap.size ∧ w3.heap.size ≠ q) := ⟨row_lt g4, by have := row_lt hr.1; omega⟩
  have R3 : Hid (RD (w3.alloc (.cells #[.int .i64 n, .slice (some ⟨g, 0, none⟩) zl cg, .slice (some ⟨go, 0, none⟩) ko co, .slice (some ⟨gv, 0, none⟩) kv cv, .int .i64 fi] 30)) q a bs c p3) := hr.below hA
  have IZ : Hid (IntsAt (w3.alloc (.cells #[.int .i64 n, .slice (some ⟨g, 0, none⟩) zl cg, .slice (some ⟨go, 0, none⟩) ko co, .slice (some ⟨gv, 0, none⟩) kv cv, .int .i64 fi] 30)) (some ⟨g, 0, none⟩) zs ∧ g ≠ q ∧ w.heap.size + 1 < g) := ⟨iz.below hA, by have := hgs.1; omega, by have := hgs.1; omega⟩
  have IO : Hid (IntsAt (w3.alloc (.cells #[.int .i64 n, .slice (some ⟨g, 0, none⟩) zl cg, .slice (some ⟨go, 0, none⟩) ko co, .slice (some ⟨gv, 0, none⟩) kv cv, .int .i64 fi] 30)) (some ⟨go, 0, none⟩) O ∧ go ≠ q ∧ w.heap.size + 1 < go) := ⟨io.below hA, by have := hgs.2.1; omega, by have := hgs.2.1; omega⟩
  have IV : Hid (IntsAt (w3.alloc (.cells #[.int .i64 n, .slice (some ⟨g, 0, none⟩) zl cg, .slice (some ⟨go, 0, none⟩) ko co, .slice (some ⟨gv, 0, none⟩) kv cv, .int .i64 fi] 30)) (some ⟨gv, 0, none⟩) V ∧ gv ≠ q ∧ w.heap.size + 1 < gv) := ⟨iv.below hA, by have := hgs.2.2.1; omega, by have := hgs.2.2.1; omega⟩
  clear hr hg iz io iv hgs B1 G1 G2 R1 BA GA GB CA hA hwq hq1 b3 g3 g4
  go_wp2_with fail
  obtain ⟨kc, HKC⟩ : ∃ v, Hid (w3.heap.size = v) := ⟨_, rfl⟩
  rw [HKC.out] at K3 HKQ ⊢
  generalize (w3.alloc (.cells #[.int .i64 n, .slice (some ⟨g, 0, none⟩) zl cg, .slice (some ⟨go, 0, none⟩) ko co, .slice (some ⟨gv, 0, none⟩) kv cv, .int .i64 fi] 30)) = W3 at *
  have kS := cells5z (below_row (Below.refl _ _).drew (row_lt K3.out) K3.out)
  refine wp_region_held_drew (S := (fun W => W.cell? ⟨kc, 0, none⟩ = some (.int .i64 n) ∧ W.cell? ⟨kc, 1, none⟩ = some (.slice (some ⟨g, 0, none⟩) zl cg) ∧ W.cell? ⟨kc, 2, none⟩ = some (.slice (some ⟨go, 0, none⟩) ko co) ∧ W.cell? ⟨kc, 3, none⟩ = some (.slice (some ⟨gv, 0, none⟩) kv cv) ∧ W.cell? ⟨kc, 4, none⟩ = some (.int .i64 fi))) (by kernel_rfl) ?_ (fun hHeld => ?_)
  · exact kS
  have hD : Below W3.heap.size W3 W3.drew := (Below.refl _ _).drew
  have R5 : Hid (RD W3.drew q a bs c p3) := R3.out.below hD
  have I5 : Hid (IntsAt W3.drew (some ⟨g, 0, none⟩) zs ∧ IntsAt W3.drew (some ⟨go, 0, none⟩) O ∧ IntsAt W3.drew (some ⟨gv, 0, none⟩) V) := ⟨IZ.out.1.below hD, IO.out.1.below hD, IV.out.1.below hD⟩
  have B4 : Hid (Below w.heap.size w W3.drew) := B3.out.trans (hD.mono B3.out.size)
  have GX : Hid (W3.drew.heap[w.heap.size]? = some (.cells #[.int .i64 0, .slice none 0 0, .slice none 0 0, .slice none 0 0, .int .i64 0] 30 (0, 0))) := below_row hD (row_lt G3.out) G3.out
  have GY : Hid (W3.drew.heap[w.heap.size + 1]? = some (.cells #[.slice none 0 0, .slice none 0 0] 33 (0, 0))) := below_row hD (row_lt G4.out) G4.out
  have KX : Hid (W3.drew.heap[kc]? = some (.cells #[.int .i64 n, .slice (some ⟨g, 0, none⟩) zl cg, .slice (some ⟨go, 0, none⟩) ko co, .slice (some ⟨gv, 0, none⟩) kv cv, .int .i64 fi] 30 (0, 0))) := below_row hD (row_lt K3.out) K3.out
  clear hD kS
  generalize W3.drew = W4 at *
  refine wpAnyH_take (i := 0) (v := ?_) rfl (by kernel_rfl) (by kernel_rfl) (by kernel_rfl) (fun _ _ _ h => h) (Or.inl ⟨by kernel_rfl, ?_⟩) hHeld ?_
  rotate_left 1
  · intro w hSw
    (try dsimp only at hSw)
    (try go_split_ands)
    go_simp
    all_goals (first | done | with_reducible rfl)
  change wpAnyH _ _ _ _ _ _ _ (Act.put _ (some 10) _) _
  simp only [Act.put, List.setIfInBounds_toArray, List.set_cons_zero, List.set_cons_succ]
  refine wpAnyH_take (i := 1) (v := ?_) rfl (by kernel_rfl) (by kernel_rfl) (by kernel_rfl) (fun _ _ _ h => h) (Or.inl ⟨by kernel_rfl, ?_⟩) hHeld ?_
  rotate_left 1
  · intro w hSw
    (try dsimp only at hSw)
    (try go_split_ands)
    go_simp
    all_goals (first | done | with_reducible rfl)
  change wpAnyH _ _ _ _ _ _ _ (Act.put _ (some 11) _) _
  simp only [Act.put, List.setIfInBounds_toArray, List.set_cons_zero, List.set_cons_succ]
  refine wpAnyH_take (i := 2) (v := ?_) rfl (by kernel_rfl) (by kernel_rfl) (by kernel_rfl) (fun _ _ _ h => h) (Or.inl ⟨by kernel_rfl, ?_⟩) hHeld ?_
  rotate_left 1
  · intro w hSw
    (try dsimp only at hSw)
    (try go_split_ands)
    go_simp
    all_goals (first | done | with_reducible rfl)
  change wpAnyH _ _ _ _ _ _ _ (Act.put _ (some 12) _) _
  simp only [Act.put, List.setIfInBounds_toArray, List.set_cons_zero, List.set_cons_succ]
  refine wpAnyH_ready (rs := [3]) (by kernel_rfl) (by simp) ?_
  refine AllReadyH.cons rfl (fun K hK => ?_) AllReadyH.nil
  go_simp
  refine (plan_any (fun _ => True) q p3 c n fi g zl cg go ko co gv kv cv zs O V a bs _ R5.out I5.out.1 I5.out.2.1 I5.out.2.2 IZ.out.2.1 IO.out.2.1 IV.out.2.1 HLS.out.1 HLS.out.2.1 HLS.out.2.2.1 (by omega) (by omega) (by omega) (by omega) ids_range (fun _ _ => trivial) (fun _ _ _ => trivial)).mono ?_
  rintro e w5 ⟨rs, ls, R, L, rfl, hR1, hR2, hL1, hL2, hg5, ⟨p5, hr5⟩, ho5, -⟩
  obtain ⟨ra, rc, e⟩ := own_any ho5.r
  subst e
  obtain ⟨la, lc, e⟩ := own_any ho5.l
  subst e
  have HRL : Hid (R.length ≤ 10 ∧ (∀ r ∈ R, r.ids.length ≤ 9) ∧ L.length ≤ 13 ∧ (∀ x ∈ L, -9223372036854775808 ≤ x ∧ x < 9223372036854775808)) := ⟨hR1, hR2, hL1, hL2⟩
  have HQ5 := HQL.out
  have B5 : Hid (Below w.heap.size w w5) := grown_below B4.out (by omega) hg5
  have G5 : Hid (w5.heap[w.heap.size]? = some (.cells #[.int .i64 0, .slice none 0 0, .slice none 0 0, .slice none 0 0, .int .i64 0] 30 (0, 0))) := grown_row hg5 GX.out (fun e => by injection e with e; omega)
  have G6 : Hid (w5.heap[w.heap.size + 1]? = some (.cells #[.slice none 0 0, .slice none 0 0] 33 (0, 0))) := grown_row hg5 GY.out (fun e => by injection e with e; omega)
  have K5 : Hid (w5.heap[kc]? = some (.cells #[.int .i64 n, .slice (some ⟨g, 0, none⟩) zl cg, .slice (some ⟨go, 0, none⟩) ko co, .slice (some ⟨gv, 0, none⟩) kv cv, .int .i64 fi] 30 (0, 0))) := grown_row hg5 KX.out (fun e => HKQ.out.2 (by injection e))
  have J5 : Hid (IntsAt w5 (some ⟨g, 0, none⟩) zs ∧ IntsAt w5 (some ⟨go, 0, none⟩) O ∧ IntsAt w5 (some ⟨gv, 0, none⟩) V) := ⟨ints_other I5.out.1 hg5 IZ.out.2.1, ints_other I5.out.2.1 hg5 IO.out.2.1, ints_other I5.out.2.2 hg5 IV.out.2.1⟩
  have P5 : Hid (PO w5 (w.heap.size + 2) (.slice ra R.length rc) R (.slice la L.length lc) L) := ho5.base (by have := row_lt GY.out; omega)
  obtain ⟨nr, HNR⟩ : ∃ v, Hid (R.length = v) := ⟨_, rfl⟩
  obtain ⟨m, HM⟩ : ∃ v, Hid (L.length = v) := ⟨_, rfl⟩
  rw [HNR.out, HM.out] at P5 ⊢
  clear hR1 hR2 hL1 hL2 hg5 hr5 ho5 HQ5
  (try go_wp2_with fail)
  refine hK.out _ _ ?_ (fun hHeld => ?_)
  · exact cells5z K5.out
  clear hK K
  (try simp only [Act.put, List.setIfInBounds_toArray, List.set_cons_zero, List.set_cons_succ])
  refine wpAnyH_ready (rs := [4]) (by kernel_rfl) (by simp) ?_
  refine AllReadyH.cons rfl (fun K hK => ?_) AllReadyH.nil
  obtain ⟨y0, y1, y2, y3, y4⟩ := cells5z G5.out
  have yf := fun i => frozen_of_row _ _ i _ _ G5.out
  have s5 : w5.grownBy (((((w5.setCell ⟨w.heap.size, 0, none⟩ (.int .i64 n)).setCell ⟨w.heap.size, 1, none⟩ (.slice (some ⟨g, 0, none⟩) zl cg)).setCell ⟨w.heap.size, 2, none⟩ (.slice (some ⟨go, 0, none⟩) ko co)).setCell ⟨w.heap.size, 3, none⟩ (.slice (some ⟨gv, 0, none⟩) kv cv)).setCell ⟨w.heap.size, 4, none⟩ (.int .i64 fi)) (some w.heap.size) := grown_trans (grown_trans (grown_trans (grown_trans (grown_set _ _ _ _) (grown_set _ _ _ _)) (grown_set _ _ _ _)) (grown_set _ _ _ _)) (grown_set _ _ _ _)
  have T0 : Hid ((((((w5.setCell ⟨w.heap.size, 0, none⟩ (.int .i64 n)).setCell ⟨w.heap.size, 1, none⟩ (.slice (some ⟨g, 0, none⟩) zl cg)).setCell ⟨w.heap.size, 2, none⟩ (.slice (some ⟨go, 0, none⟩) ko co)).setCell ⟨w.heap.size, 3, none⟩ (.slice (some ⟨gv, 0, none⟩) kv cv)).setCell ⟨w.heap.size, 4, none⟩ (.int .i64 fi)).heap[w.heap.size]? = some (.cells #[.int .i64 n, .slice (some ⟨g, 0, none⟩) zl cg, .slice (some ⟨go, 0, none⟩) ko co, .slice (some ⟨gv, 0, none⟩) kv cv, .int .i64 fi] 30 (0, 0))) := by
    have := row_put (i := 4) (.int .i64 fi) (row_put (i := 3) (.slice (some ⟨gv, 0, none⟩) kv cv) (row_put (i := 2) (.slice (some ⟨go, 0, none⟩) ko co) (row_put (i := 1) (.slice (some ⟨g, 0, none⟩) zl cg) (row_put (i := 0) (.int .i64 n) G5.out))))
    show _ = _
    simpa using this
  have T1 : Hid ((((((w5.setCell ⟨w.heap.size, 0, none⟩ (.int .i64 n)).setCell ⟨w.heap.size, 1, none⟩ (.slice (some ⟨g, 0, none⟩) zl cg)).setCell ⟨w.heap.size, 2, none⟩ (.slice (some ⟨go, 0, none⟩) ko co)).setCell ⟨w.heap.size, 3, none⟩ (.slice (some ⟨gv, 0, none⟩) kv cv)).setCell ⟨w.heap.size, 4, none⟩ (.int .i64 fi)).heap[w.heap.size + 1]? = some (.cells #[.slice none 0 0, .slice none 0 0] 33 (0, 0))) := grown_row s5 G6.out (fun e => by injection e with e; omega)
  have TK : Hid ((((((w5.setCell ⟨w.heap.size, 0, none⟩ (.int .i64 n)).setCell ⟨w.heap.size, 1, none⟩ (.slice (some ⟨g, 0, none⟩) zl cg)).setCell ⟨w.heap.size, 2, none⟩ (.slice (some ⟨go, 0, none⟩) ko co)).setCell ⟨w.heap.size, 3, none⟩ (.slice (some ⟨gv, 0, none⟩) kv cv)).setCell ⟨w.heap.size, 4, none⟩ (.int .i64 fi)).heap[kc]? = some (.cells #[.int .i64 n, .slice (some ⟨g, 0, none⟩) zl cg, .slice (some ⟨go, 0, none⟩) ko co, .slice (some ⟨gv, 0, none⟩) kv cv, .int .i64 fi] 30 (0, 0))) := grown_row s5 K5.out (fun e => by injection e with e; have := HKQ.out.1; omega)
  have TB : Hid (Below w.heap.size w (((((w5.setCell ⟨w.heap.size, 0, none⟩ (.int .i64 n)).setCell ⟨w.heap.size, 1, none⟩ (.slice (some ⟨g, 0, none⟩) zl cg)).setCell ⟨w.heap.size, 2, none⟩ (.slice (some ⟨go, 0, none⟩) ko co)).setCell ⟨w.heap.size, 3, none⟩ (.slice (some ⟨gv, 0, none⟩) kv cv)).setCell ⟨w.heap.size, 4, none⟩ (.int .i64 fi))) := grown_below B5.out (Nat.le_refl _) s5
  have TP : Hid (PO (((((w5.setCell ⟨w.heap.size, 0, none⟩ (.int .i64 n)).setCell ⟨w.heap.size, 1, none⟩ (.slice (some ⟨g, 0, none⟩) zl cg)).setCell ⟨w.heap.size, 2, none⟩ (.slice (some ⟨go, 0, none⟩) ko co)).setCell ⟨w.heap.size, 3, none⟩ (.slice (some ⟨gv, 0, none⟩) kv cv)).setCell ⟨w.heap.size, 4, none⟩ (.int .i64 fi)) (w.heap.size + 2) (.slice ra nr rc) R (.slice la m lc) L) := P5.out.other s5 (.inl (by omega))
  have TI : Hid (IntsAt (((((w5.setCell ⟨w.heap.size, 0, none⟩ (.int .i64 n)).setCell ⟨w.heap.size, 1, none⟩ (.slice (some ⟨g, 0, none⟩) zl cg)).setCell ⟨w.heap.size, 2, none⟩ (.slice (some ⟨go, 0, none⟩) ko co)).setCell ⟨w.heap.size, 3, none⟩ (.slice (some ⟨gv, 0, none⟩) kv cv)).setCell ⟨w.heap.size, 4, none⟩ (.int .i64 fi)) (some ⟨g, 0, none⟩) zs ∧ IntsAt (((((w5.setCell ⟨w.heap.size, 0, none⟩ (.int .i64 n)).setCell ⟨w.heap.size, 1, none⟩ (.slice (some ⟨g, 0, none⟩) zl cg)).setCell ⟨w.heap.size, 2, none⟩ (.slice (some ⟨go, 0, none⟩) ko co)).setCell ⟨w.heap.size, 3, none⟩ (.slice (some ⟨gv, 0, none⟩) kv cv)).setCell ⟨w.heap.size, 4, none⟩ (.int .i64 fi)) (some ⟨go, 0, none⟩) O ∧ IntsAt (((((w5.setCell ⟨w.heap.size, 0, none⟩ (.int .i64 n)).setCell ⟨w.heap.size, 1, none⟩ (.slice (some ⟨g, 0, none⟩) zl cg)).setCell ⟨w.heap.size, 2, none⟩ (.slice (some ⟨go, 0, none⟩) ko co)).setCell ⟨w.heap.size, 3, none⟩ (.slice (some ⟨gv, 0, none⟩) kv cv)).setCell ⟨w.heap.size, 4, none⟩ (.int .i64 fi)) (some ⟨gv, 0, none⟩) V) := ⟨ints_other J5.out.1 s5 (by have := IZ.out.2.2; omega), ints_other J5.out.2.1 s5 (by have := IO.out.2.2; omega), ints_other J5.out.2.2 s5 (by have := IV.out.2.2; omega)⟩
  clear s5
  go_simp
  refine hK.out _ _ ?_ (fun hHeld => ?_)
  · exact cells5z TK.out
  clear hK K
  generalize (((((w5.setCell ⟨w.heap.size, 0, none⟩ (.int .i64 n)).setCell ⟨w.heap.size, 1, none⟩ (.slice (some ⟨g, 0, none⟩) zl cg)).setCell ⟨w.heap.size, 2, none⟩ (.slice (some ⟨go, 0, none⟩) ko co)).setCell ⟨w.heap.size, 3, none⟩ (.slice (some ⟨gv, 0, none⟩) kv cv)).setCell ⟨w.heap.size, 4, none⟩ (.int .i64 fi)) = Wt at *
  clear y0 y1 y2 y3 y4 yf
  refine wpAnyH_ready (rs := [5]) (by kernel_rfl) (by simp) ?_
  refine AllReadyH.cons rfl (fun K hK => ?_) AllReadyH.nil
  obtain ⟨y0, y1⟩ := cells2 T1.out
  have yf := fun i => frozen_of_row _ _ i _ _ T1.out
  have s7 : Wt.grownBy ((Wt.setCell ⟨w.heap.size + 1, 0, none⟩ (.slice ra nr rc)).setCell ⟨w.heap.size + 1, 1, none⟩ (.slice la m lc)) (some (w.heap.size + 1)) := grown_trans (grown_set _ _ _ _) (grown_set _ _ _ _)
  have U0 : Hid (((Wt.setCell ⟨w.heap.size + 1, 0, none⟩ (.slice ra nr rc)).setCell ⟨w.heap.size + 1, 1, none⟩ (.slice la m lc)).heap[w.heap.size]? = some (.cells #[.int .i64 n, .slice (some ⟨g, 0, none⟩) zl cg, .slice (some ⟨go, 0, none⟩) ko co, .slice (some ⟨gv, 0, none⟩) kv cv, .int .i64 fi] 30 (0, 0))) := grown_row s7 T0.out (fun e => by injection e with e; omega)
  have U1 : Hid (((Wt.setCell ⟨w.heap.size + 1, 0, none⟩ (.slice ra nr rc)).setCell ⟨w.heap.size + 1, 1, none⟩ (.slice la m lc)).heap[w.heap.size + 1]? = some (.cells #[.slice ra nr rc, .slice la m lc] 33 (0, 0))) := by
    have := row_put (i := 1) (.slice la m lc) (row_put (i := 0) (.slice ra nr rc) T1.out)
    show _ = _
    simpa using this
  have UK : Hid (((Wt.setCell ⟨w.heap.size + 1, 0, none⟩ (.slice ra nr rc)).setCell ⟨w.heap.size + 1, 1, none⟩ (.slice la m lc)).heap[kc]? = some (.cells #[.int .i64 n, .slice (some ⟨g, 0, none⟩) zl cg, .slice (some ⟨go, 0, none⟩) ko co, .slice (some ⟨gv, 0, none⟩) kv cv, .int .i64 fi] 30 (0, 0))) := grown_row s7 TK.out (fun e => by injection e with e; have := HKQ.out.1; omega)
  have TOLD : Hid (PlanTold w (.returned (.tuple #[.agg #[.int .i64 n, .slice (some ⟨g, 0, none⟩) zl cg, .slice (some ⟨go, 0, none⟩) ko co, .slice (some ⟨gv, 0, none⟩) kv cv, .int .i64 fi], .agg #[.slice ra nr rc, .slice la m lc]])) ((Wt.setCell ⟨w.heap.size + 1, 0, none⟩ (.slice ra nr rc)).setCell ⟨w.heap.size + 1, 1, none⟩ (.slice la m lc))) := ⟨n, g, zl, cg, go, ko, co, gv, kv, cv, zs, O, V, fi, _, _, R, L, rfl, HLS.out, HRL.out, grown_below TB.out (by omega) s7, ints_other TI.out.1 s7 (by have := IZ.out.2.2; omega), ints_other TI.out.2.1 s7 (by have := IO.out.2.2; omega), ints_other TI.out.2.2 s7 (by have := IV.out.2.2; omega), ⟨by have := IZ.out.2.2; omega, by have := IO.out.2.2; omega, by have := IV.out.2.2; omega⟩, (TP.out.other s7 (.inl (by omega))).base (by omega)⟩
  clear s7
  go_simp
  refine hK.out _ _ ?_ (fun hHeld => ?_)
  · exact cells5z UK.out
  clear hK K
  generalize ((Wt.setCell ⟨w.heap.size + 1, 0, none⟩ (.slice ra nr rc)).setCell ⟨w.heap.size + 1, 1, none⟩ (.slice la m lc)) = Wu at *
  refine wpAnyH_done (by kernel_rfl) ?_ _
  clear y0 y1 yf
  go_wp2
  refine bodyPost_ret (v := .tuple #[.agg #[.int .i64 n, .slice (some ⟨g, 0, none⟩) zl cg, .slice (some ⟨go, 0, none⟩) ko co, .slice (some ⟨gv, 0, none⟩) kv cv, .int .i64 fi], .agg #[.slice ra nr rc, .slice la m lc]]) ?_ rfl TOLD.out
  have r1 := run_loadVar_row (P := Try.prog) _ w.heap.size 30 30 #[.int .i64 n, .slice (some ⟨g, 0, none⟩) zl cg, .slice (some ⟨go, 0, none⟩) ko co, .slice (some ⟨gv, 0, none⟩) kv cv, .int .i64 fi] (0, 0) _ U0.out Try.underlying30 rfl sizeCase5
  have r2 := run_loadVar_row (P := Try.prog) _ (w.heap.size + 1) 33 33 #[.slice ra nr rc, .slice la m lc] (0, 0) _ U1.out Try.underlying33 rfl sizePlan2
  simp [results, Try.results18, asAddr, r1, r2]

end Go.Proofs.Ytonopidjkcmlmaa

namespace Go.Proofs.Ytonopidjkcmlmaa
open Go.RowKit

/-- Inside DrawPlanCode, behind the plan: the result's boxes, the case's, the plan's, their rows. -/
structure DC (w W : World) (rc rp cs : Array Value) (kc kp g go gv base : Nat) (zs O V : List Int) (rs ls : Value) (R : List RT) (L : List Int) : Prop where
  b : Below w.heap.size w W
  b0 : W.heap[w.heap.size]? = some (.cells rc 30 (0, 0))
  b1 : W.heap[w.heap.size + 1]? = some (.cells rp 33 (0, 0))
  bc : W.heap[kc]? = some (.cells cs 30 (0, 0))
  bp : W.heap[kp]? = some (.cells #[rs, ls] 33 (0, 0))
  hk : w.heap.size + 1 < kc ∧ w.heap.size + 1 < kp
  iz : IntsAt W (some ⟨g, 0, none⟩) zs ∧ w.heap.size + 1 < g
  io : IntsAt W (some ⟨go, 0, none⟩) O ∧ w.heap.size + 1 < go
  iv : IntsAt W (some ⟨gv, 0, none⟩) V ∧ w.heap.size + 1 < gv
  hb : w.heap.size + 2 ≤ base
  po : PO W base rs R ls L
section
variable {w W W' : World} {rc rp cs : Array Value} {kc kp g go gv base q : Nat} {zs O V : List Int} {rs ls ls' : Value} {R : List RT} {L L' : List Int}
theorem DC.below (h : DC w W rc rp cs kc kp g go gv base zs O V rs ls R L) (hb : Below W.heap.size W W') : DC w W' rc rp cs kc kp g go gv base zs O V rs ls R L :=
  ⟨h.b.trans (hb.mono h.b.size), below_row hb (row_lt h.b0) h.b0, below_row hb (row_lt h.b1) h.b1, below_row hb (row_lt h.bc) h.bc, below_row hb (row_lt h.bp) h.bp, h.hk, ⟨h.iz.1.below hb, h.iz.2⟩, ⟨h.io.1.below hb, h.io.2⟩, ⟨h.iv.1.below hb, h.iv.2⟩, h.hb, h.po.below hb⟩
/-- The reader has read: its block lies apart from all. -/
theorem DC.read (h : DC w W rc rp cs kc kp g go gv base zs O V rs ls R L) (hg : W.grownBy W' (some q)) (hq : w.heap.size + 1 < q) (h1 : kc ≠ q) (h2 : kp ≠ q) (h3 : g ≠ q ∧ go ≠ q ∧ gv ≠ q) (h4 : q < base) : DC w W' rc rp cs kc kp g go gv base zs O V rs ls R L :=
  ⟨grown_below h.b (by omega) hg, grown_row hg h.b0 (fun e => by injection e with e; omega), grown_row hg h.b1 (fun e => by injection e with e; omega), grown_row hg h.bc (fun e => h1 (by injection e)), grown_row hg h.bp (fun e => h2 (by injection e)), h.hk, ⟨ints_other h.iz.1 hg h3.1, h.iz.2⟩, ⟨ints_other h.io.1 hg h3.2.1, h.io.2⟩, ⟨ints_other h.iv.1 hg h3.2.2, h.iv.2⟩, h.hb, h.po.other hg (.inl h4)⟩
theorem DC.put0 {rc' : Array Value} (h : DC w W rc rp cs kc kp g go gv base zs O V rs ls R L) (hs : W.grownBy W' (some w.heap.size)) (hr : W'.heap[w.heap.size]? = some (.cells rc' 30 (0, 0))) : DC w W' rc' rp cs kc kp g go gv base zs O V rs ls R L := by
  obtain ⟨h1, h2⟩ := h.hk
  have h3 := h.iz.2
  have h4 := h.io.2
  have h5 := h.iv.2
  have h6 := h.hb
  exact ⟨grown_below h.b (Nat.le_refl _) hs, hr, grown_row hs h.b1 (fun e => by injection e with e; omega), grown_row hs h.bc (fun e => by injection e with e; omega), grown_row hs h.bp (fun e => by injection e with e; omega), h.hk, ⟨ints_other h.iz.1 hs (by omega), h3⟩, ⟨ints_other h.io.1 hs (by omega), h4⟩, ⟨ints_other h.iv.1 hs (by omega), h5⟩, h6, h.po.other hs (.inl (by omega))⟩
theorem DC.put1 {rp' : Array Value} (h : DC w W rc rp cs kc kp g go gv base zs O V rs ls R L) (hs : W.grownBy W' (some (w.heap.size + 1))) (hr : W'.heap[w.heap.size + 1]? = some (.cells rp' 33 (0, 0))) : DC w W' rc rp' cs kc kp g go gv base zs O V rs ls R L := by
  obtain ⟨h1, h2⟩ := h.hk
  have h3 := h.iz.2
  have h4 := h.io.2
  have h5 := h.iv.2
  have h6 := h.hb
  exact ⟨grown_below h.b (by omega) hs, grown_row hs h.b0 (fun e => by injection e with e; omega), hr, grown_row hs h.bc (fun e => by injection e with e; omega), grown_row hs h.bp (fun e => by injection e with e; omega), h.hk, ⟨ints_other h.iz.1 hs (by omega), h3⟩, ⟨ints_other h.io.1 hs (by omega), h4⟩, ⟨ints_other h.iv.1 hs (by omega), h5⟩, h6, h.po.other hs (.inl (by omega))⟩
/-- What is left is told anew. -/
theorem DC.putL (h : DC w W rc rp cs kc kp g go gv base zs O V rs ls R L) (hne : kc ≠ kp ∧ g ≠ kp ∧ go ≠ kp ∧ gv ≠ kp) (hl : W.ownsRow base 2 1 ls' L'.length (L'.map (Value.int .i64))) : DC w (W.setCell ⟨kp, 1, none⟩ ls') rc rp cs kc kp g go gv base zs O V rs ls' R L' := by
  obtain ⟨h1, h2⟩ := h.hk
  have hs := grown_set W kp 1 ls'
  refine ⟨grown_below h.b (by omega) hs, grown_row hs h.b0 (fun e => by injection e with e; omega), grown_row hs h.b1 (fun e => by injection e with e; omega), grown_row hs h.bc (fun e => hne.1 (by injection e)), ?_, h.hk, ⟨ints_other h.iz.1 hs hne.2.1, h.iz.2⟩, ⟨ints_other h.io.1 hs hne.2.2.1, h.io.2⟩, ⟨ints_other h.iv.1 hs hne.2.2.2, h.iv.2⟩, h.hb, (PO.box (ls := ls') (L := L') ⟨h.po.r, h.po.s, hl⟩ h.bp)⟩
  have := row_put (i := 1) ls' h.bp
  simpa using this
end

end Go.Proofs.Ytonopidjkcmlmaa
