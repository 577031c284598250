import Derived.Test.YtonopidjkcmlmaaPack1
import Derived.Test.YtonopidjkcmlmaaPack4
import Derived.Test.YtonopidjkcmlmaaPlanCodeBox
namespace Go.Proofs.Ytonopidjkcmlmaa
open Go.RowKit

/-- What DrawPlanCode tells: as PlanTold; what is left are numbers of 64 bits where the case holds. -/
def CodeTold (w : World) (e : Ending) (w' : World) : Prop := ∃ (n : Int) (g zl cg go ko co gv kv cv : Nat) (zs O V : List Int) (fi : Int) (rs ls : Value) (R : List RT) (L : List Int),
  e = .returned (.tuple #[.agg #[.int .i64 n, .slice (some ⟨g, 0, none⟩) zl cg, .slice (some ⟨go, 0, none⟩) ko co, .slice (some ⟨gv, 0, none⟩) kv cv, .int .i64 fi], .agg #[rs, ls]]) ∧ (zs.length = zl ∧ O.length = ko * 6 ∧ V.length = kv * 5 ∧ 1 ≤ ko ∧ ko ≤ 5 ∧ 1 ≤ kv ∧ kv ≤ 3) ∧ (R.length ≤ 10 ∧ (∀ r ∈ R, r.ids.length ≤ 9) ∧ L.length ≤ 14 ∧ (caseB n zs O V ko kv fi = true → ∀ x ∈ L, -9223372036854775808 ≤ x ∧ x < 9223372036854775808)) ∧
  Below w.heap.size w w' ∧ IntsAt w' (some ⟨g, 0, none⟩) zs ∧ IntsAt w' (some ⟨go, 0, none⟩) O ∧ IntsAt w' (some ⟨gv, 0, none⟩) V ∧ (w.heap.size ≤ g ∧ w.heap.size ≤ go ∧ w.heap.size ≤ gv) ∧ PO w' w.heap.size rs R ls L

set_option maxRecDepth 10000 in
set_option maxHeartbeats 4000000 in
theorem drawPlanCode_any (a : Option Addr) (c : Nat) (bs : List Int) (w : World) (h : CodeAt w a bs) (hl : bs.length ≤ 1048576) :
    Calls Try.prog 8 #[.slice a bs.length c] w (CodeTold w) := by
  have H : Hid (CodeAt w a bs) := h
  clear h
  have BA : Hid (Below w.heap.size w ((w.alloc (.cells #[.int .i64 0, .slice none 0 0, .slice none 0 0, .slice none 0 0, .int .i64 0] 30)).alloc (.cells #[.slice none 0 0, .slice none 0 0] 33))) := ((Below.refl _ _).alloc (Nat.le_refl _) _).alloc (by simp) _
  have GA : Hid (((w.alloc (.cells #[.int .i64 0, .slice none 0 0, .slice none 0 0, .slice none 0 0, .int .i64 0] 30)).alloc (.cells #[.slice none 0 0, .slice none 0 0] 33)).heap[w.heap.size]? = some (.cells #[.int .i64 0, .slice none 0 0, .slice none 0 0, .slice none 0 0, .int .i64 0] 30 (0, 0))) := heap_alloc2_old _ _ _
  have GB : Hid (((w.alloc (.cells #[.int .i64 0, .slice none 0 0, .slice none 0 0, .slice none 0 0, .int .i64 0] 30)).alloc (.cells #[.slice none 0 0, .slice none 0 0] 33)).heap[w.heap.size + 1]? = some (.cells #[.slice none 0 0, .slice none 0 0] 33 (0, 0))) := heap_alloc2_new _ _ _
  have CA : Hid (CodeAt ((w.alloc (.cells #[.int .i64 0, .slice none 0 0, .slice none 0 0, .slice none 0 0, .int .i64 0] 30)).alloc (.cells #[.slice none 0 0, .slice none 0 0] 33)) a bs) := by
    intro j hj
    obtain ⟨b, off, e, hc, hv⟩ := H.out j hj
    exact ⟨b, off, e, (BA.out.cell (p := ⟨b, off + j, none⟩) (block_lt_of_cell hc)).trans hc, hv⟩
  go_enter Try.func8, Try.ntmps8
  go_wp2_with fail
  generalize (w.alloc (.cells #[.int .i64 0, .slice none 0 0, .slice none 0 0, .slice none 0 0, .int .i64 0] 30)).alloc (.cells #[.slice none 0 0, .slice none 0 0] 33) = W0 at *
  refine (l1Open_any a c bs W0 CA.out hl).mono ?_
  rintro e w1 ⟨rfl, hb, hr⟩
  obtain ⟨q, HQ⟩ : ∃ q, Hid (W0.heap.size = q) := ⟨_, rfl⟩
  have hw0 : w.heap.size + 1 < W0.heap.size := row_lt GB.out
  have HQL : Hid (w.heap.size + 1 < q) := by show _ < _; rw [← HQ.out]; exact hw0
  have B1 : Hid (Below w.heap.size w w1) := BA.out.trans (hb.mono BA.out.size)
  have G1 : Hid (w1.heap[w.heap.size]? = some (.cells #[.int .i64 0, .slice none 0 0, .slice none 0 0, .slice none 0 0, .int .i64 0] 30 (0, 0))) := below_row hb (row_lt GA.out) GA.out
  have G2 : Hid (w1.heap[w.heap.size + 1]? = some (.cells #[.slice none 0 0, .slice none 0 0] 33 (0, 0))) := below_row hb (row_lt GB.out) GB.out
  have R1 : Hid (RD w1 q a bs c 0) := by have := hr; rw [HQ.out] at this; exact this
  clear hb hr hw0
  rw [HQ.out]
  go_wp2_with fail
  refine (case1_any q 0 c 5 a bs w1 R1.out (by omega) (by omega)).mono ?_
  rintro e w3 ⟨n, g, zl, cg, go, ko, co, gv, kv, cv, zs, O, V, fi, rfl, hls, hg, ⟨p3, hr⟩, iz, io, iv, hgs⟩
  have HLS : Hid (zs.length = zl ∧ O.length = ko * 6 ∧ V.length = kv * 5 ∧ 1 ≤ ko ∧ ko ≤ 5 ∧ 1 ≤ kv ∧ kv ≤ 3) := hls
  obtain ⟨-, -, -, hk1, hk5, hv1, hv3⟩ := hls
  have hA : Below w3.heap.size w3 (w3.alloc (.cells #[.int .i64 n, .slice (some ⟨g, 0, none⟩) zl cg, .slice (some ⟨go, 0, none⟩) ko co, .slice (some ⟨gv, 0, none⟩) kv cv, .int .i64 fi] 30)) := (Below.refl _ _).alloc (Nat.le_refl _) _
  have hwq := HQL.out
  have hq1 : q < w1.heap.size := row_lt R1.out.1
  have b3 : Below w.heap.size w w3 := grown_below B1.out (by omega) hg
  have B3 : Hid (Below w.heap.size w (w3.alloc (.cells #[.int .i64 n, .slice (some ⟨g, 0, none⟩) zl cg, .slice (some ⟨go, 0, none⟩) ko co, .slice (some ⟨gv, 0, none⟩) kv cv, .int .i64 fi] 30))) := b3.trans (hA.mono b3.size)
  have g3 := grown_row hg G1.out (fun e => by injection e with e; omega)
  have g4 := grown_row hg G2.out (fun e => by injection e with e; omega)
  have G3 : Hid ((w3.alloc (.cells #[.int .i64 n, .slice (some ⟨g, 0, none⟩) zl cg, .slice (some ⟨go, 0, none⟩) ko co, .slice (some ⟨gv, 0, none⟩) kv cv, .int .i64 fi] 30)).heap[w.heap.size]? = some (.cells #[.int .i64 0, .slice none 0 0, .slice none 0 0, .slice none 0 0, .int .i64 0] 30 (0, 0))) := below_row hA (row_lt g3) g3
  have G4 : Hid ((w3.alloc (.cells #[.int .i64 n, .slice (some ⟨g, 0, none⟩) zl cg, .slice (some ⟨go, 0, none⟩) ko co, .slice (some ⟨gv, 0, none⟩) kv cv, .int .i64 fi] 30)).heap[w.heap.size + 1]? = some (.cells #[.slice none 0 0, .slice none 0 0] 33 (0, 0))) := below_row hA (row_lt g4) g4
  have K3 : Hid ((w3.alloc (.cells #[.int .i64 n, .slice (some ⟨g, 0, none⟩) zl cg, .slice (some ⟨go, 0, none⟩) ko co, .slice (some ⟨gv, 0, none⟩) kv cv, .int .i64 fi] 30)).heap[w3.heap.size]? = some (.cells #[.int .i64 n, .slice (some ⟨g, 0, none⟩) zl cg, .slice (some ⟨go, 0, none⟩) ko co, .slice (some ⟨gv, 0, none⟩) kv cv, .int .i64 fi] 30 (0, 0))) := heap_alloc_new _ _
  have HKQ : Hid (w.heap.size + 1 < w3.heap.size ∧ w3.heap.size ≠ q) := ⟨row_lt g4, by have := row_lt hr.1; omega⟩
  have R3 : Hid (RD (w3.alloc (.cells #[.int .i64 n, .slice (some ⟨g, 0, none⟩) zl cg, .slice (some ⟨go, 0, none⟩) ko co, .slice (some ⟨gv, 0, none⟩) kv cv, .int .i64 fi] 30)) q a bs c p3) := hr.below hA
  have IZ : Hid (IntsAt (w3.alloc (.cells #[.int .i64 n, .slice (some ⟨g, 0, none⟩) zl cg, .slice (some ⟨go, 0, none⟩) ko co, .slice (some ⟨gv, 0, none⟩) kv cv, .int .i64 fi] 30)) (some ⟨g, 0, none⟩) zs ∧ g ≠ q ∧ w.heap.size + 1 < g) := ⟨iz.below hA, by have := hgs.1; omega, by have := hgs.1; omega⟩
  have IO : Hid (IntsAt (w3.alloc (.cells #[.int .i64 n, .slice (some ⟨g, 0, none⟩) zl cg, .slice (some ⟨go, 0, none⟩) ko co, .slice (some ⟨gv, 0, none⟩) kv cv, .int .i64 fi] 30)) (some ⟨go, 0, none⟩) O ∧ go ≠ q ∧ w.heap.size + 1 < go) := ⟨io.below hA, by have := hgs.2.1; omega, by have := hgs.2.1; omega⟩
  have IV : Hid (IntsAt (w3.alloc (.cells #[.int .i64 n, .slice (some ⟨g, 0, none⟩) zl cg, .slice (some ⟨go, 0, none⟩) ko co, .slice (some ⟨gv, 0, none⟩) kv cv, .int .i64 fi] 30)) (some ⟨gv, 0, none⟩) V ∧ gv ≠ q ∧ w.heap.size + 1 < gv) := ⟨iv.below hA, by have := hgs.2.2.1; omega, by have := hgs.2.2.1; omega⟩
  have HZP : Hid (0 < zs.length) := hgs.2.2.2
  clear hr hg iz io iv hgs B1 G1 G2 R1 BA GA GB CA hA hwq hq1 b3 g3 g4
  go_wp2_with fail
  obtain ⟨kc, HKC⟩ : ∃ v, Hid (w3.heap.size = v) := ⟨_, rfl⟩
  rw [HKC.out] at K3 HKQ ⊢
  generalize (w3.alloc (.cells #[.int .i64 n, .slice (some ⟨g, 0, none⟩) zl cg, .slice (some ⟨go, 0, none⟩) ko co, .slice (some ⟨gv, 0, none⟩) kv cv, .int .i64 fi] 30)) = W3 at *
  obtain ⟨c0, c1, c2, c3, c4⟩ := cells5z K3.out
  go_wp2_with fail
  refine (plan_any (fun x => caseB n zs O V ko kv fi = true → -9223372036854775808 ≤ x ∧ x < 9223372036854775808) q p3 c n fi g zl cg go ko co gv kv cv zs O V a bs _ R3.out IZ.out.1 IO.out.1 IV.out.1 IZ.out.2.1 IO.out.2.1 IV.out.2.1 HLS.out.1 HLS.out.2.1 HLS.out.2.2.1 (by omega) (by omega) (by omega) (by omega) ids_range (fun y hy hc => ids_range hc _ (by unfold idsL; exact List.mem_map.2 ⟨y, List.mem_range.2 hy, rfl⟩)) (fun x h1 h2 _ => ⟨h1, h2⟩)).mono ?_
  rintro e w5 ⟨rs, ls, R, L, rfl, hR1, hR2, hL1, hL2, hg5, ⟨p5, hr5⟩, ho5, hp5⟩
  obtain ⟨ra, rc, e⟩ := own_any ho5.r
  subst e
  obtain ⟨la, lc, e⟩ := own_any ho5.l
  subst e
  have HRL : Hid (R.length ≤ 10 ∧ (∀ r ∈ R, r.ids.length ≤ 9) ∧ L.length ≤ 13 ∧ (∀ x ∈ L, -9223372036854775808 ≤ x ∧ x < 9223372036854775808)) := ⟨hR1, hR2, hL1, hL2⟩
  have HRP : Hid (∀ r ∈ R, ∀ z ∈ r.ids, caseB n zs O V ko kv fi = true → -9223372036854775808 ≤ z ∧ z < 9223372036854775808) := hp5
  have hq3 : q < W3.heap.size := row_lt R3.out.1
  have hb3 : w.heap.size + 2 ≤ W3.heap.size := row_lt G4.out
  obtain ⟨base, HBA⟩ : ∃ v, Hid (W3.heap.size = v) := ⟨_, rfl⟩
  rw [HBA.out] at hq3 hb3 ho5
  have hwq := HQL.out
  have hk5 : kc < base := by rw [← HBA.out]; exact row_lt K3.out
  have HGB : Hid (g < base ∧ go < base ∧ gv < base) := by
    have hz1 : 0 < zs.length := HZP.out
    refine ⟨?_, ?_, ?_⟩
    · obtain ⟨b, off, e, hc⟩ := IZ.out.1 0 hz1
      simp only [Option.some.injEq, Addr.mk.injEq, and_true] at e
      rw [← HBA.out, e.1]; exact block_lt_of_cell hc
    · obtain ⟨b, off, e, hc⟩ := IO.out.1 0 (by have := HLS.out.2.1; omega)
      simp only [Option.some.injEq, Addr.mk.injEq, and_true] at e
      rw [← HBA.out, e.1]; exact block_lt_of_cell hc
    · obtain ⟨b, off, e, hc⟩ := IV.out.1 0 (by have := HLS.out.2.2.1; omega)
      simp only [Option.some.injEq, Addr.mk.injEq, and_true] at e
      rw [← HBA.out, e.1]; exact block_lt_of_cell hc
  have hs5 : base ≤ w5.heap.size := by rw [← HBA.out]; exact hg5.size
  obtain ⟨nr, HNR⟩ : ∃ v, Hid (R.length = v) := ⟨_, rfl⟩
  obtain ⟨m, HM⟩ : ∃ v, Hid (L.length = v) := ⟨_, rfl⟩
  rw [HNR.out, HM.out] at ho5 ⊢
  obtain ⟨kp, HKP⟩ : ∃ v, Hid (w5.heap.size = v) := ⟨_, rfl⟩
  have D5 : Hid (DC w (w5.alloc (.cells #[(.slice ra nr rc), (.slice la m lc)] 33)) #[.int .i64 0, .slice none 0 0, .slice none 0 0, .slice none 0 0, .int .i64 0] #[.slice none 0 0, .slice none 0 0] #[.int .i64 n, .slice (some ⟨g, 0, none⟩) zl cg, .slice (some ⟨go, 0, none⟩) ko co, .slice (some ⟨gv, 0, none⟩) kv cv, .int .i64 fi] kc kp g go gv base zs O V (.slice ra nr rc) (.slice la m lc) R L) := by
    have ha : Below w5.heap.size w5 (w5.alloc (.cells #[(.slice ra nr rc), (.slice la m lc)] 33)) := (Below.refl _ _).alloc (Nat.le_refl _) _
    have b5 : Below w.heap.size w w5 := grown_below B3.out (by omega) hg5
    have e0 := grown_row hg5 G3.out (fun e => by injection e with e; omega)
    have e1 := grown_row hg5 G4.out (fun e => by injection e with e; omega)
    have e2 := grown_row hg5 K3.out (fun e => HKQ.out.2 (by injection e))
    refine ⟨b5.trans (ha.mono b5.size), below_row ha (row_lt e0) e0, below_row ha (row_lt e1) e1, below_row ha (row_lt e2) e2, by rw [← HKP.out]; exact heap_alloc_new _ _, ⟨HKQ.out.1, by rw [← HKP.out]; omega⟩, ⟨(ints_other IZ.out.1 hg5 IZ.out.2.1).below ha, IZ.out.2.2⟩, ⟨(ints_other IO.out.1 hg5 IO.out.2.1).below ha, IO.out.2.2⟩, ⟨(ints_other IV.out.1 hg5 IV.out.2.1).below ha, IV.out.2.2⟩, hb3, ho5.below ha⟩
  have R5 : Hid (RD (w5.alloc (.cells #[(.slice ra nr rc), (.slice la m lc)] 33)) q a bs c p5) := hr5.below ((Below.refl _ _).alloc (Nat.le_refl _) _)
  have hkp : base ≤ kp := by rw [← HKP.out]; exact hs5
  clear hR1 hR2 hL1 hL2 hg5 hr5 ho5 hp5 hs5 B3 G3 G4 K3 R3 c0 c1 c2 c3 c4
  go_wp2_with fail
  rw [HKP.out]
  generalize w5.alloc (.cells #[(.slice ra nr rc), (.slice la m lc)] 33) = W5 at *
  refine (once_any q p5 c 6 a bs W5 R5.out (by omega) (by omega)).mono ?_
  rintro e w6 ⟨bb, p6, rfl, hr, hg⟩
  have D6 : Hid (DC w w6 #[.int .i64 0, .slice none 0 0, .slice none 0 0, .slice none 0 0, .int .i64 0] #[.slice none 0 0, .slice none 0 0] #[.int .i64 n, .slice (some ⟨g, 0, none⟩) zl cg, .slice (some ⟨go, 0, none⟩) ko co, .slice (some ⟨gv, 0, none⟩) kv cv, .int .i64 fi] kc kp g go gv base zs O V (.slice ra nr rc) (.slice la m lc) R L) := D5.out.read hg hwq HKQ.out.2 (by omega) ⟨IZ.out.2.1, IO.out.2.1, IV.out.2.1⟩ hq3
  clear hr hg D5 R5
  obtain ⟨t0, t1⟩ := cells2 D6.out.bp
  cases bb
  · skip
    have kS := And.intro (cells5z (D6.out.below (Below.refl _ _).drew).bc) (cells2 (D6.out.below (Below.refl _ _).drew).bp)
    go_wp2_with fail
    refine wp_region_held_drew (S := (fun W => (W.cell? ⟨kc, 0, none⟩ = some (.int .i64 n) ∧ W.cell? ⟨kc, 1, none⟩ = some (.slice (some ⟨g, 0, none⟩) zl cg) ∧ W.cell? ⟨kc, 2, none⟩ = some (.slice (some ⟨go, 0, none⟩) ko co) ∧ W.cell? ⟨kc, 3, none⟩ = some (.slice (some ⟨gv, 0, none⟩) kv cv) ∧ W.cell? ⟨kc, 4, none⟩ = some (.int .i64 fi)) ∧ W.cell? ⟨kp, 0, none⟩ = some (.slice ra nr rc) ∧ W.cell? ⟨kp, 1, none⟩ = some (.slice la m lc))) (by kernel_rfl) ?_ (fun hHeld => ?_)
    · exact kS
    have E1 : Hid (DC w w6.drew #[.int .i64 0, .slice none 0 0, .slice none 0 0, .slice none 0 0, .int .i64 0] #[.slice none 0 0, .slice none 0 0] #[.int .i64 n, .slice (some ⟨g, 0, none⟩) zl cg, .slice (some ⟨go, 0, none⟩) ko co, .slice (some ⟨gv, 0, none⟩) kv cv, .int .i64 fi] kc kp g go gv base zs O V (.slice ra nr rc) (.slice la m lc) R L) := D6.out.below (Below.refl _ _).drew
    clear D6 kS
    generalize w6.drew = V1 at *
    refine wpAnyH_take (i := 0) (v := ?_) rfl (by kernel_rfl) (by kernel_rfl) (by kernel_rfl) (fun _ _ _ h => h) (Or.inl ⟨by kernel_rfl, ?_⟩) hHeld ?_
    rotate_left 1
    · intro w hSw
      (try dsimp only at hSw)
      (try go_split_ands)
      go_simp
      all_goals (first | done | with_reducible rfl)
    change wpAnyH _ _ _ _ _ _ _ (Act.put _ (some 42) _) _
    simp only [Act.put, List.setIfInBounds_toArray, List.set_cons_zero, List.set_cons_succ]
    refine wpAnyH_take (i := 1) (v := ?_) rfl (by kernel_rfl) (by kernel_rfl) (by kernel_rfl) (fun _ _ _ h => h) (Or.inl ⟨by kernel_rfl, ?_⟩) hHeld ?_
    rotate_left 1
    · intro w hSw
      (try dsimp only at hSw)
      (try go_split_ands)
      go_simp
      all_goals (first | done | with_reducible rfl)
    change wpAnyH _ _ _ _ _ _ _ (Act.put _ (some 43) _) _
    simp only [Act.put, List.setIfInBounds_toArray, List.set_cons_zero, List.set_cons_succ]
    refine wpAnyH_ready (rs := [2]) (by kernel_rfl) (by simp) ?_
    refine AllReadyH.cons rfl (fun K hK => ?_) AllReadyH.nil
    obtain ⟨y0, y1, y2, y3, y4⟩ := cells5z E1.out.b0
    have yf := fun i => frozen_of_row _ _ i _ _ E1.out.b0
    have E2 : Hid (DC w (((((V1.setCell ⟨w.heap.size, 0, none⟩ (.int .i64 n)).setCell ⟨w.heap.size, 1, none⟩ (.slice (some ⟨g, 0, none⟩) zl cg)).setCell ⟨w.heap.size, 2, none⟩ (.slice (some ⟨go, 0, none⟩) ko co)).setCell ⟨w.heap.size, 3, none⟩ (.slice (some ⟨gv, 0, none⟩) kv cv)).setCell ⟨w.heap.size, 4, none⟩ (.int .i64 fi)) #[.int .i64 n, .slice (some ⟨g, 0, none⟩) zl cg, .slice (some ⟨go, 0, none⟩) ko co, .slice (some ⟨gv, 0, none⟩) kv cv, .int .i64 fi] #[.slice none 0 0, .slice none 0 0] #[.int .i64 n, .slice (some ⟨g, 0, none⟩) zl cg, .slice (some ⟨go, 0, none⟩) ko co, .slice (some ⟨gv, 0, none⟩) kv cv, .int .i64 fi] kc kp g go gv base zs O V (.slice ra nr rc) (.slice la m lc) R L) := E1.out.put0 (grown_trans (grown_trans (grown_trans (grown_trans (grown_set _ _ _ _) (grown_set _ _ _ _)) (grown_set _ _ _ _)) (grown_set _ _ _ _)) (grown_set _ _ _ _)) (by
      have := row_put (i := 4) (.int .i64 fi) (row_put (i := 3) (.slice (some ⟨gv, 0, none⟩) kv cv) (row_put (i := 2) (.slice (some ⟨go, 0, none⟩) ko co) (row_put (i := 1) (.slice (some ⟨g, 0, none⟩) zl cg) (row_put (i := 0) (.int .i64 n) E1.out.b0))))
      simpa using this)
    go_simp
    refine hK.out _ _ ?_ (fun hHeld => ?_)
    · exact ⟨cells5z E2.out.bc, cells2 E2.out.bp⟩
    clear hK K
    generalize (((((V1.setCell ⟨w.heap.size, 0, none⟩ (.int .i64 n)).setCell ⟨w.heap.size, 1, none⟩ (.slice (some ⟨g, 0, none⟩) zl cg)).setCell ⟨w.heap.size, 2, none⟩ (.slice (some ⟨go, 0, none⟩) ko co)).setCell ⟨w.heap.size, 3, none⟩ (.slice (some ⟨gv, 0, none⟩) kv cv)).setCell ⟨w.heap.size, 4, none⟩ (.int .i64 fi)) = V2 at *
    clear y0 y1 y2 y3 y4 yf
    refine wpAnyH_ready (rs := [3]) (by kernel_rfl) (by simp) ?_
    refine AllReadyH.cons rfl (fun K hK => ?_) AllReadyH.nil
    obtain ⟨y0, y1⟩ := cells2 E2.out.b1
    have yf := fun i => frozen_of_row _ _ i _ _ E2.out.b1
    have E3 : Hid (DC w ((V2.setCell ⟨w.heap.size + 1, 0, none⟩ (.slice ra nr rc)).setCell ⟨w.heap.size + 1, 1, none⟩ (.slice la m lc)) #[.int .i64 n, .slice (some ⟨g, 0, none⟩) zl cg, .slice (some ⟨go, 0, none⟩) ko co, .slice (some ⟨gv, 0, none⟩) kv cv, .int .i64 fi] #[(.slice ra nr rc), (.slice la m lc)] #[.int .i64 n, .slice (some ⟨g, 0, none⟩) zl cg, .slice (some ⟨go, 0, none⟩) ko co, .slice (some ⟨gv, 0, none⟩) kv cv, .int .i64 fi] kc kp g go gv base zs O V (.slice ra nr rc) (.slice la m lc) R L) := E2.out.put1 (grown_trans (grown_set _ _ _ _) (grown_set _ _ _ _)) (by
      have := row_put (i := 1) (.slice la m lc) (row_put (i := 0) (.slice ra nr rc) E2.out.b1)
      simpa using this)
    go_simp
    refine hK.out _ _ ?_ (fun hHeld => ?_)
    · exact ⟨cells5z E3.out.bc, cells2 E3.out.bp⟩
    clear hK K
    generalize ((V2.setCell ⟨w.heap.size + 1, 0, none⟩ (.slice ra nr rc)).setCell ⟨w.heap.size + 1, 1, none⟩ (.slice la m lc)) = V3 at *
    clear y0 y1 yf
    refine wpAnyH_done (by kernel_rfl) ?_ _
    go_wp2
    have TOLD : CodeTold w (.returned (.tuple #[.agg #[.int .i64 n, .slice (some ⟨g, 0, none⟩) zl cg, .slice (some ⟨go, 0, none⟩) ko co, .slice (some ⟨gv, 0, none⟩) kv cv, .int .i64 fi], .agg #[(.slice ra nr rc), (.slice la m lc)]])) V3 := ⟨n, g, zl, cg, go, ko, co, gv, kv, cv, zs, O, V, fi, _, _, R, L, rfl, HLS.out, ⟨HRL.out.1, HRL.out.2.1, by have := HRL.out.2.2.1; omega, fun _ => HRL.out.2.2.2⟩, E3.out.b, E3.out.iz.1, E3.out.io.1, E3.out.iv.1, ⟨by have := E3.out.iz.2; omega, by have := E3.out.io.2; omega, by have := E3.out.iv.2; omega⟩, E3.out.po.base (by omega)⟩
    refine bodyPost_ret (v := .tuple #[.agg #[.int .i64 n, .slice (some ⟨g, 0, none⟩) zl cg, .slice (some ⟨go, 0, none⟩) ko co, .slice (some ⟨gv, 0, none⟩) kv cv, .int .i64 fi], .agg #[(.slice ra nr rc), (.slice la m lc)]]) ?_ rfl TOLD
    have r1 := run_loadVar_row (P := Try.prog) _ w.heap.size 30 30 #[.int .i64 n, .slice (some ⟨g, 0, none⟩) zl cg, .slice (some ⟨go, 0, none⟩) ko co, .slice (some ⟨gv, 0, none⟩) kv cv, .int .i64 fi] (0, 0) _ E3.out.b0 Try.underlying30 rfl sizeCase5
    have r2 := run_loadVar_row (P := Try.prog) _ (w.heap.size + 1) 33 33 #[(.slice ra nr rc), (.slice la m lc)] (0, 0) _ E3.out.b1 Try.underlying33 rfl sizePlan2
    simp [results, Try.results8, asAddr, r1, r2]
  · by_cases hn0 : 0 < nr
    · have hnI : (0 : Int) < (nr : Int) := by omega
      obtain ⟨b, off, e, r1, r2, i3⟩ := (show RoutesAt w6 ra R by have hpo := D6.out.po; rw [← HNR.out] at hpo; exact hpo.at) 0 (by rw [HNR.out]; exact hn0)
      have hmem : R.getD 0 rt0 ∈ R := by rw [List.getD_eq_getElem?_getD, List.getElem?_eq_getElem (by rw [HNR.out]; exact hn0)]; simp
      have HXP : Hid (∀ z ∈ (R.getD 0 rt0).ids, caseB n zs O V ko kv fi = true → -9223372036854775808 ≤ z ∧ z < 9223372036854775808) := HRP.out _ hmem
      have hx9 := HRL.out.2.1 _ hmem
      have HOX : Hid (w6.ownsRow base 2 1 (.slice (R.getD 0 rt0).a (R.getD 0 rt0).ids.length (R.getD 0 rt0).c) (R.getD 0 rt0).ids.length ((R.getD 0 rt0).ids.map (Value.int .i64))) := D6.out.po.s _ hmem
      subst e
      generalize R.getD 0 rt0 = x at *
      obtain ⟨xv, xa, xids, xc⟩ := x
      simp only [Nat.zero_mul, Nat.add_zero] at r1 r2 i3 HXP hx9 HOX
      clear hmem
      by_cases hx0 : 0 < xids.length
      · obtain ⟨gx, e⟩ : ∃ gx, xa = some ⟨gx, 0, none⟩ := by
          rcases own_kinds HOX.out with ⟨_, e0⟩ | ⟨gx, c', e, _, _⟩
          · omega
          · simp only [Value.slice.injEq] at e; exact ⟨gx, e.1⟩
        subst e
        obtain ⟨_, _, e, i4⟩ := i3 0 hx0
        simp only [Option.some.injEq, Addr.mk.injEq, and_true] at e
        obtain ⟨rfl, rfl⟩ := e
        have hmx : xids.getD 0 0 ∈ xids := by rw [List.getD_eq_getElem?_getD, List.getElem?_eq_getElem hx0]; simp
        have HXW : Hid (caseB n zs O V ko kv fi = true → -9223372036854775808 ≤ xids.getD 0 0 ∧ xids.getD 0 0 < 9223372036854775808) := HXP.out _ hmx
        generalize xids.getD 0 0 = sx at *
        obtain ⟨xl, HXL⟩ : ∃ v, Hid (xids.length = v) := ⟨_, rfl⟩
        rw [HXL.out] at r2 hx0 hx9
        simp only [Nat.add_zero] at i4
        have hxI : (0 : Int) < (xl : Int) := by omega
        have HBK : Hid (b ≠ kp ∧ gx ≠ kp) := ⟨fun e => own_typ D6.out.po.r D6.out.bp (by decide) (by simp [Value.ownBlock, e]), fun e => own_typ HOX.out D6.out.bp (by decide) (by simp [Value.ownBlock, e])⟩
        clear i3 hmx HOX HXP
        have PUT : Hid (∀ W, IntsAt W la L → Calls Try.prog 32 #[.slice la m lc, .int .i64 sx] W fun e w' => ∃ (g9 c9 : Nat) (L9 : List Int), e = .returned (.slice (some ⟨g9, 0, none⟩) (m + 1) c9) ∧ Below W.heap.size W w' ∧ w'.ownsRow W.heap.size 2 1 (.slice (some ⟨g9, 0, none⟩) (m + 1) c9) (m + 1) (L9.map (Value.int .i64)) ∧ L9.length = m + 1 ∧ ∀ z ∈ L9, z ∈ L ∨ z = sx) := fun W hW => by
          have hol := D6.out.po.l
          rw [HM.out] at hol
          obtain ⟨_, ⟨h2, h3⟩ | ⟨g', cap, cur, h2, _, _, h3, _⟩⟩ := hol
          · simp only [Value.slice.injEq] at h2
            obtain ⟨rfl, rfl, rfl⟩ := h2
            refine (l4Put_nil sx W).mono ?_
            rintro e w' ⟨g9, c9, rfl, hb, ho⟩
            exact ⟨g9, c9, [sx], rfl, hb, ho, rfl, fun z hz9 => .inr (by simpa using hz9)⟩
          · simp only [Value.slice.injEq] at h2
            obtain ⟨rfl, _, rfl⟩ := h2
            have C := l4Put_any g' 0 lc L sx W hW (by have := HRL.out.2.2.1; omega) (by rw [HM.out]; exact h3)
            rw [HM.out] at C
            refine C.mono ?_
            rintro e w' ⟨g9, c9, rfl, hb, ho⟩
            exact ⟨g9, c9, putS L sx, rfl, hb, ho, by rw [putS_len, HM.out], fun z hz9 => ((putS_mem L sx z).1 hz9).symm⟩
        have kS := And.intro ((cells2 (D6.out.below (Below.refl _ _).drew).bp).1) (And.intro (keepB r2 (Below.refl w6.heap.size w6).drew) (keepB i4 (Below.refl w6.heap.size w6).drew))
        go_wp2_with fail
        refine wp_region_held_drew (S := (fun W => W.cell? ⟨kp, 0, none⟩ = some (.slice (some ⟨b, off, none⟩) nr rc) ∧ W.cell? ⟨b, off + 1, none⟩ = some (.slice (some ⟨gx, 0, none⟩) xl xc) ∧ W.cell? ⟨gx, 0, none⟩ = some (.int .i64 sx))) (by kernel_rfl) ?_ (fun hHeld => ?_)
        · exact kS
        have F1 : Hid (DC w w6.drew #[.int .i64 0, .slice none 0 0, .slice none 0 0, .slice none 0 0, .int .i64 0] #[.slice none 0 0, .slice none 0 0] #[.int .i64 n, .slice (some ⟨g, 0, none⟩) zl cg, .slice (some ⟨go, 0, none⟩) ko co, .slice (some ⟨gv, 0, none⟩) kv cv, .int .i64 fi] kc kp g go gv base zs O V (.slice (some ⟨b, off, none⟩) nr rc) (.slice la m lc) R L) := D6.out.below (Below.refl _ _).drew
        clear D6 kS t0 t1 r1 r2 i4
        generalize w6.drew = U1 at *
        refine wpAnyH_take (i := 0) (v := ?_) rfl (by kernel_rfl) (by kernel_rfl) (by kernel_rfl) (fun _ _ _ h => h) (Or.inl ⟨by kernel_rfl, ?_⟩) hHeld ?_
        rotate_left 1
        · intro w hSw
          (try dsimp only at hSw)
          (try go_split_ands)
          go_simp
          all_goals (first | done | with_reducible rfl)
        change wpAnyH _ _ _ _ _ _ _ (Act.put _ (some 31) _) _
        simp only [Act.put, List.setIfInBounds_toArray, List.set_cons_zero, List.set_cons_succ]
        refine wpAnyH_take (i := 2) (v := ?_) rfl (by kernel_rfl) (by kernel_rfl) (by kernel_rfl) (fun _ _ _ h => h) (Or.inl ⟨by kernel_rfl, ?_⟩) hHeld ?_
        rotate_left 1
        · intro w hSw
          (try dsimp only at hSw)
          (try go_split_ands)
          go_simp
          all_goals (first | done | with_reducible rfl)
        change wpAnyH _ _ _ _ _ _ _ (Act.put _ (some 33) _) _
        simp only [Act.put, List.setIfInBounds_toArray, List.set_cons_zero, List.set_cons_succ]
        refine wpAnyH_take (i := 3) (v := ?_) rfl (by kernel_rfl) (by kernel_rfl) (by kernel_rfl) (fun _ _ _ h => h) (Or.inl ⟨by kernel_rfl, ?_⟩) hHeld ?_
        rotate_left 1
        · intro w hSw
          (try dsimp only at hSw)
          (try go_split_ands)
          go_simp
          all_goals (first | done | with_reducible rfl)
        change wpAnyH _ _ _ _ _ _ _ (Act.put _ (some 34) _) _
        simp only [Act.put, List.setIfInBounds_toArray, List.set_cons_zero, List.set_cons_succ]
        refine wpAnyH_take (i := 4) (v := ?_) rfl (by kernel_rfl) (by kernel_rfl) (by kernel_rfl) (fun _ _ _ h => h) (Or.inl ⟨by kernel_rfl, ?_⟩) hHeld ?_
        rotate_left 1
        · intro w hSw
          (try dsimp only at hSw)
          (try go_split_ands)
          go_simp
          all_goals (first | done | with_reducible rfl)
        change wpAnyH _ _ _ _ _ _ _ (Act.put _ (some 35) _) _
        simp only [Act.put, List.setIfInBounds_toArray, List.set_cons_zero, List.set_cons_succ]
        refine wpAnyH_take (i := 5) (v := ?_) rfl (by kernel_rfl) (by kernel_rfl) (by kernel_rfl) (fun _ _ _ h => h) (Or.inl ⟨by kernel_rfl, ?_⟩) hHeld ?_
        rotate_left 1
        · intro w hSw
          (try dsimp only at hSw)
          (try go_split_ands)
          go_simp
          all_goals (first | done | with_reducible rfl)
        change wpAnyH _ _ _ _ _ _ _ (Act.put _ (some 36) _) _
        simp only [Act.put, List.setIfInBounds_toArray, List.set_cons_zero, List.set_cons_succ]
        refine wpAnyH_take (i := 6) (v := ?_) rfl (by kernel_rfl) (by kernel_rfl) (by kernel_rfl) (fun _ _ _ h => h) (Or.inl ⟨by kernel_rfl, ?_⟩) hHeld ?_
        rotate_left 1
        · intro w hSw
          (try dsimp only at hSw)
          (try go_split_ands)
          go_simp
          all_goals (first | done | with_reducible rfl)
        change wpAnyH _ _ _ _ _ _ _ (Act.put _ (some 37) _) _
        simp only [Act.put, List.setIfInBounds_toArray, List.set_cons_zero, List.set_cons_succ]
        refine wpAnyH_take (i := 7) (v := ?_) rfl (by kernel_rfl) (by kernel_rfl) (by kernel_rfl) (fun _ _ _ h => h) (Or.inl ⟨by kernel_rfl, ?_⟩) hHeld ?_
        rotate_left 1
        · intro w hSw
          (try dsimp only at hSw)
          (try go_split_ands)
          go_simp
          all_goals (first | done | with_reducible rfl)
        change wpAnyH _ _ _ _ _ _ _ (Act.put _ (some 38) _) _
        simp only [Act.put, List.setIfInBounds_toArray, List.set_cons_zero, List.set_cons_succ]
        refine wpAnyH_take (i := 8) (v := ?_) rfl (by kernel_rfl) (by kernel_rfl) (by kernel_rfl) (fun _ _ _ h => h) (Or.inl ⟨by kernel_rfl, ?_⟩) hHeld ?_
        rotate_left 1
        · intro w hSw
          (try dsimp only at hSw)
          (try go_split_ands)
          go_simp
          all_goals (first | done | with_reducible rfl)
        change wpAnyH _ _ _ _ _ _ _ (Act.put _ (some 39) _) _
        simp only [Act.put, List.setIfInBounds_toArray, List.set_cons_zero, List.set_cons_succ]
        refine wpAnyH_ready (rs := [1]) (by kernel_rfl) (by simp) ?_
        refine AllReadyH.cons rfl (fun K hK => ?_) AllReadyH.nil
        obtain ⟨y0, y1⟩ := cells2 F1.out.bp
        go_simp
        refine hK.out _ _ ?_ (fun hHeld => ?_)
        · exact hHeld
        clear hK K
        clear y0 y1
        refine wpAnyH_ready (rs := [9]) (by kernel_rfl) (by simp) ?_
        refine AllReadyH.cons rfl (fun K hK => ?_) AllReadyH.nil
        obtain ⟨h51, h52, h53⟩ := hHeld
        go_simp
        refine (PUT.out U1 (by obtain ⟨a', c', e, hi⟩ := F1.out.po.lv; have e2 : la = a' := (by injection e); rw [e2]; exact hi)).mono ?_
        rintro e w9 ⟨g9, c9, L9, rfl, hb9, ho9, hl9, hm9⟩
        have F2 : Hid (DC w w9 #[.int .i64 0, .slice none 0 0, .slice none 0 0, .slice none 0 0, .int .i64 0] #[.slice none 0 0, .slice none 0 0] #[.int .i64 n, .slice (some ⟨g, 0, none⟩) zl cg, .slice (some ⟨go, 0, none⟩) ko co, .slice (some ⟨gv, 0, none⟩) kv cv, .int .i64 fi] kc kp g go gv base zs O V (.slice (some ⟨b, off, none⟩) nr rc) (.slice la m lc) R L) := F1.out.below hb9
        have F3 : Hid (DC w (w9.setCell ⟨kp, 1, none⟩ (.slice (some ⟨g9, 0, none⟩) (m + 1) c9)) #[.int .i64 0, .slice none 0 0, .slice none 0 0, .slice none 0 0, .int .i64 0] #[.slice none 0 0, .slice none 0 0] #[.int .i64 n, .slice (some ⟨g, 0, none⟩) zl cg, .slice (some ⟨go, 0, none⟩) ko co, .slice (some ⟨gv, 0, none⟩) kv cv, .int .i64 fi] kc kp g go gv base zs O V (.slice (some ⟨b, off, none⟩) nr rc) (.slice (some ⟨g9, 0, none⟩) (m + 1) c9) R L9) := F2.out.putL ⟨by omega, by have := HGB.out; omega, by have := HGB.out; omega, by have := HGB.out; omega⟩ (by rw [hl9]; exact owns_base ho9 (by have := row_lt F1.out.bp; omega))
        have HL9 : Hid (L9.length = m + 1 ∧ ∀ z ∈ L9, z ∈ L ∨ z = sx) := ⟨hl9, hm9⟩
        have k9 := And.intro (cells2 F2.out.bp).1 (And.intro (keepB h52 hb9) (keepB h53 hb9))
        obtain ⟨x4, y4⟩ := cells2 F2.out.bp
        have xf := fun i => frozen_of_row _ _ i _ _ F2.out.bp
        clear hb9 ho9 hl9 hm9
        (try go_wp2_with fail)
        refine hK.out _ _ ?_ (fun hHeld => ?_)
        · exact k9
        clear hK K
        (try simp only [Act.put, List.setIfInBounds_toArray, List.set_cons_zero, List.set_cons_succ])
        refine wpAnyH_take (i := 10) (v := ?_) rfl (by kernel_rfl) (by kernel_rfl) (by kernel_rfl) (fun _ _ _ h => h) (Or.inl ⟨by kernel_rfl, ?_⟩) hHeld ?_
        rotate_left 1
        · intro w hSw
          (try dsimp only at hSw)
          (try go_split_ands)
          go_simp
          all_goals (first | done | with_reducible rfl)
        change wpAnyH _ _ _ _ _ _ _ (Act.put _ (some 41) _) _
        simp only [Act.put, List.setIfInBounds_toArray, List.set_cons_zero, List.set_cons_succ]
        refine wpAnyH_ready (rs := [11]) (by kernel_rfl) (by simp) ?_
        refine AllReadyH.cons rfl (fun K hK => ?_) AllReadyH.nil
        have hnb : b ≠ kp ∧ gx ≠ kp := HBK.out
        go_simp
        refine hK.out _ _ ?_ (fun hHeld => ?_)
        · exact ⟨(cells2 F3.out.bp).1, (World.cell?_setCell_far _ _ _ _ (fun e => hnb.1 e.symm)).trans k9.2.1, (World.cell?_setCell_far _ _ _ _ (fun e => hnb.2 e.symm)).trans k9.2.2⟩
        clear hK K
        generalize w9.setCell ⟨kp, 1, none⟩ (.slice (some ⟨g9, 0, none⟩) (m + 1) c9) = U3 at *
        clear x4 y4 xf k9 h51 h52 h53 F1 F2
        refine wpAnyH_done (by kernel_rfl) ?_ _
        have kS := And.intro (cells5z (F3.out.below (Below.refl _ _).drew).bc) (cells2 (F3.out.below (Below.refl _ _).drew).bp)
        go_wp2_with fail
        refine wp_region_held_drew (S := (fun W => (W.cell? ⟨kc, 0, none⟩ = some (.int .i64 n) ∧ W.cell? ⟨kc, 1, none⟩ = some (.slice (some ⟨g, 0, none⟩) zl cg) ∧ W.cell? ⟨kc, 2, none⟩ = some (.slice (some ⟨go, 0, none⟩) ko co) ∧ W.cell? ⟨kc, 3, none⟩ = some (.slice (some ⟨gv, 0, none⟩) kv cv) ∧ W.cell? ⟨kc, 4, none⟩ = some (.int .i64 fi)) ∧ W.cell? ⟨kp, 0, none⟩ = some (.slice (some ⟨b, off, none⟩) nr rc) ∧ W.cell? ⟨kp, 1, none⟩ = some (.slice (some ⟨g9, 0, none⟩) (m + 1) c9))) (by kernel_rfl) ?_ (fun hHeld => ?_)
        · exact kS
        have E1 : Hid (DC w U3.drew #[.int .i64 0, .slice none 0 0, .slice none 0 0, .slice none 0 0, .int .i64 0] #[.slice none 0 0, .slice none 0 0] #[.int .i64 n, .slice (some ⟨g, 0, none⟩) zl cg, .slice (some ⟨go, 0, none⟩) ko co, .slice (some ⟨gv, 0, none⟩) kv cv, .int .i64 fi] kc kp g go gv base zs O V (.slice (some ⟨b, off, none⟩) nr rc) (.slice (some ⟨g9, 0, none⟩) (m + 1) c9) R L9) := F3.out.below (Below.refl _ _).drew
        clear F3 kS
        generalize U3.drew = V1 at *
        refine wpAnyH_take (i := 0) (v := ?_) rfl (by kernel_rfl) (by kernel_rfl) (by kernel_rfl) (fun _ _ _ h => h) (Or.inl ⟨by kernel_rfl, ?_⟩) hHeld ?_
        rotate_left 1
        · intro w hSw
          (try dsimp only at hSw)
          (try go_split_ands)
          go_simp
          all_goals (first | done | with_reducible rfl)
        change wpAnyH _ _ _ _ _ _ _ (Act.put _ (some 42) _) _
        simp only [Act.put, List.setIfInBounds_toArray, List.set_cons_zero, List.set_cons_succ]
        refine wpAnyH_take (i := 1) (v := ?_) rfl (by kernel_rfl) (by kernel_rfl) (by kernel_rfl) (fun _ _ _ h => h) (Or.inl ⟨by kernel_rfl, ?_⟩) hHeld ?_
        rotate_left 1
        · intro w hSw
          (try dsimp only at hSw)
          (try go_split_ands)
          go_simp
          all_goals (first | done | with_reducible rfl)
        change wpAnyH _ _ _ _ _ _ _ (Act.put _ (some 43) _) _
        simp only [Act.put, List.setIfInBounds_toArray, List.set_cons_zero, List.set_cons_succ]
        refine wpAnyH_ready (rs := [2]) (by kernel_rfl) (by simp) ?_
        refine AllReadyH.cons rfl (fun K hK => ?_) AllReadyH.nil
        obtain ⟨y0, y1, y2, y3, y4⟩ := cells5z E1.out.b0
        have yf := fun i => frozen_of_row _ _ i _ _ E1.out.b0
        have E2 : Hid (DC w (((((V1.setCell ⟨w.heap.size, 0, none⟩ (.int .i64 n)).setCell ⟨w.heap.size, 1, none⟩ (.slice (some ⟨g, 0, none⟩) zl cg)).setCell ⟨w.heap.size, 2, none⟩ (.slice (some ⟨go, 0, none⟩) ko co)).setCell ⟨w.heap.size, 3, none⟩ (.slice (some ⟨gv, 0, none⟩) kv cv)).setCell ⟨w.heap.size, 4, none⟩ (.int .i64 fi)) #[.int .i64 n, .slice (some ⟨g, 0, none⟩) zl cg, .slice (some ⟨go, 0, none⟩) ko co, .slice (some ⟨gv, 0, none⟩) kv cv, .int .i64 fi] #[.slice none 0 0, .slice none 0 0] #[.int .i64 n, .slice (some ⟨g, 0, none⟩) zl cg, .slice (some ⟨go, 0, none⟩) ko co, .slice (some ⟨gv, 0, none⟩) kv cv, .int .i64 fi] kc kp g go gv base zs O V (.slice (some ⟨b, off, none⟩) nr rc) (.slice (some ⟨g9, 0, none⟩) (m + 1) c9) R L9) := E1.out.put0 (grown_trans (grown_trans (grown_trans (grown_trans (grown_set _ _ _ _) (grown_set _ _ _ _)) (grown_set _ _ _ _)) (grown_set _ _ _ _)) (grown_set _ _ _ _)) (by
          have := row_put (i := 4) (.int .i64 fi) (row_put (i := 3) (.slice (some ⟨gv, 0, none⟩) kv cv) (row_put (i := 2) (.slice (some ⟨go, 0, none⟩) ko co) (row_put (i := 1) (.slice (some ⟨g, 0, none⟩) zl cg) (row_put (i := 0) (.int .i64 n) E1.out.b0))))
          simpa using this)
        go_simp
        refine hK.out _ _ ?_ (fun hHeld => ?_)
        · exact ⟨cells5z E2.out.bc, cells2 E2.out.bp⟩
        clear hK K
        generalize (((((V1.setCell ⟨w.heap.size, 0, none⟩ (.int .i64 n)).setCell ⟨w.heap.size, 1, none⟩ (.slice (some ⟨g, 0, none⟩) zl cg)).setCell ⟨w.heap.size, 2, none⟩ (.slice (some ⟨go, 0, none⟩) ko co)).setCell ⟨w.heap.size, 3, none⟩ (.slice (some ⟨gv, 0, none⟩) kv cv)).setCell ⟨w.heap.size, 4, none⟩ (.int .i64 fi)) = V2 at *
        clear y0 y1 y2 y3 y4 yf
        refine wpAnyH_ready (rs := [3]) (by kernel_rfl) (by simp) ?_
        refine AllReadyH.cons rfl (fun K hK => ?_) AllReadyH.nil
        obtain ⟨y0, y1⟩ := cells2 E2.out.b1
        have yf := fun i => frozen_of_row _ _ i _ _ E2.out.b1
        have E3 : Hid (DC w ((V2.setCell ⟨w.heap.size + 1, 0, none⟩ (.slice (some ⟨b, off, none⟩) nr rc)).setCell ⟨w.heap.size + 1, 1, none⟩ (.slice (some ⟨g9, 0, none⟩) (m + 1) c9)) #[.int .i64 n, .slice (some ⟨g, 0, none⟩) zl cg, .slice (some ⟨go, 0, none⟩) ko co, .slice (some ⟨gv, 0, none⟩) kv cv, .int .i64 fi] #[(.slice (some ⟨b, off, none⟩) nr rc), (.slice (some ⟨g9, 0, none⟩) (m + 1) c9)] #[.int .i64 n, .slice (some ⟨g, 0, none⟩) zl cg, .slice (some ⟨go, 0, none⟩) ko co, .slice (some ⟨gv, 0, none⟩) kv cv, .int .i64 fi] kc kp g go gv base zs O V (.slice (some ⟨b, off, none⟩) nr rc) (.slice (some ⟨g9, 0, none⟩) (m + 1) c9) R L9) := E2.out.put1 (grown_trans (grown_set _ _ _ _) (grown_set _ _ _ _)) (by
          have := row_put (i := 1) (.slice (some ⟨g9, 0, none⟩) (m + 1) c9) (row_put (i := 0) (.slice (some ⟨b, off, none⟩) nr rc) E2.out.b1)
          simpa using this)
        go_simp
        refine hK.out _ _ ?_ (fun hHeld => ?_)
        · exact ⟨cells5z E3.out.bc, cells2 E3.out.bp⟩
        clear hK K
        generalize ((V2.setCell ⟨w.heap.size + 1, 0, none⟩ (.slice (some ⟨b, off, none⟩) nr rc)).setCell ⟨w.heap.size + 1, 1, none⟩ (.slice (some ⟨g9, 0, none⟩) (m + 1) c9)) = V3 at *
        clear y0 y1 yf
        refine wpAnyH_done (by kernel_rfl) ?_ _
        go_wp2
        have TOLD : CodeTold w (.returned (.tuple #[.agg #[.int .i64 n, .slice (some ⟨g, 0, none⟩) zl cg, .slice (some ⟨go, 0, none⟩) ko co, .slice (some ⟨gv, 0, none⟩) kv cv, .int .i64 fi], .agg #[(.slice (some ⟨b, off, none⟩) nr rc), (.slice (some ⟨g9, 0, none⟩) (m + 1) c9)]])) V3 := ⟨n, g, zl, cg, go, ko, co, gv, kv, cv, zs, O, V, fi, _, _, R, L9, rfl, HLS.out, ⟨HRL.out.1, HRL.out.2.1, by have := HL9.out.1; have := HRL.out.2.2.1; rw [HM.out] at this; omega, fun hc z hz9 => (HL9.out.2 z hz9).elim (fun h => HRL.out.2.2.2 z h) (fun h => by rw [h]; exact HXW.out hc)⟩, E3.out.b, E3.out.iz.1, E3.out.io.1, E3.out.iv.1, ⟨by have := E3.out.iz.2; omega, by have := E3.out.io.2; omega, by have := E3.out.iv.2; omega⟩, E3.out.po.base (by omega)⟩
        refine bodyPost_ret (v := .tuple #[.agg #[.int .i64 n, .slice (some ⟨g, 0, none⟩) zl cg, .slice (some ⟨go, 0, none⟩) ko co, .slice (some ⟨gv, 0, none⟩) kv cv, .int .i64 fi], .agg #[(.slice (some ⟨b, off, none⟩) nr rc), (.slice (some ⟨g9, 0, none⟩) (m + 1) c9)]]) ?_ rfl TOLD
        have r1 := run_loadVar_row (P := Try.prog) _ w.heap.size 30 30 #[.int .i64 n, .slice (some ⟨g, 0, none⟩) zl cg, .slice (some ⟨go, 0, none⟩) ko co, .slice (some ⟨gv, 0, none⟩) kv cv, .int .i64 fi] (0, 0) _ E3.out.b0 Try.underlying30 rfl sizeCase5
        have r2 := run_loadVar_row (P := Try.prog) _ (w.heap.size + 1) 33 33 #[(.slice (some ⟨b, off, none⟩) nr rc), (.slice (some ⟨g9, 0, none⟩) (m + 1) c9)] (0, 0) _ E3.out.b1 Try.underlying33 rfl sizePlan2
        simp [results, Try.results8, asAddr, r1, r2]
      · have hx00 : xids.length = 0 := by omega
        have hxe : xids = [] := List.length_eq_zero_iff.1 hx00
        subst hxe
        simp only [List.length_nil] at r2
        clear hx0 hx00 hx9 HXP HOX i3
        have kS := And.intro (cells5z (D6.out.below (Below.refl _ _).drew).bc) (cells2 (D6.out.below (Below.refl _ _).drew).bp)
        go_wp2_with fail
        refine wp_region_held_drew (S := (fun W => (W.cell? ⟨kc, 0, none⟩ = some (.int .i64 n) ∧ W.cell? ⟨kc, 1, none⟩ = some (.slice (some ⟨g, 0, none⟩) zl cg) ∧ W.cell? ⟨kc, 2, none⟩ = some (.slice (some ⟨go, 0, none⟩) ko co) ∧ W.cell? ⟨kc, 3, none⟩ = some (.slice (some ⟨gv, 0, none⟩) kv cv) ∧ W.cell? ⟨kc, 4, none⟩ = some (.int .i64 fi)) ∧ W.cell? ⟨kp, 0, none⟩ = some (.slice (some ⟨b, off, none⟩) nr rc) ∧ W.cell? ⟨kp, 1, none⟩ = some (.slice la m lc))) (by kernel_rfl) ?_ (fun hHeld => ?_)
        · exact kS
        have E1 : Hid (DC w w6.drew #[.int .i64 0, .slice none 0 0, .slice none 0 0, .slice none 0 0, .int .i64 0] #[.slice none 0 0, .slice none 0 0] #[.int .i64 n, .slice (some ⟨g, 0, none⟩) zl cg, .slice (some ⟨go, 0, none⟩) ko co, .slice (some ⟨gv, 0, none⟩) kv cv, .int .i64 fi] kc kp g go gv base zs O V (.slice (some ⟨b, off, none⟩) nr rc) (.slice la m lc) R L) := D6.out.below (Below.refl _ _).drew
        clear D6 kS
        generalize w6.drew = V1 at *
        refine wpAnyH_take (i := 0) (v := ?_) rfl (by kernel_rfl) (by kernel_rfl) (by kernel_rfl) (fun _ _ _ h => h) (Or.inl ⟨by kernel_rfl, ?_⟩) hHeld ?_
        rotate_left 1
        · intro w hSw
          (try dsimp only at hSw)
          (try go_split_ands)
          go_simp
          all_goals (first | done | with_reducible rfl)
        change wpAnyH _ _ _ _ _ _ _ (Act.put _ (some 42) _) _
        simp only [Act.put, List.setIfInBounds_toArray, List.set_cons_zero, List.set_cons_succ]
        refine wpAnyH_take (i := 1) (v := ?_) rfl (by kernel_rfl) (by kernel_rfl) (by kernel_rfl) (fun _ _ _ h => h) (Or.inl ⟨by kernel_rfl, ?_⟩) hHeld ?_
        rotate_left 1
        · intro w hSw
          (try dsimp only at hSw)
          (try go_split_ands)
          go_simp
          all_goals (first | done | with_reducible rfl)
        change wpAnyH _ _ _ _ _ _ _ (Act.put _ (some 43) _) _
        simp only [Act.put, List.setIfInBounds_toArray, List.set_cons_zero, List.set_cons_succ]
        refine wpAnyH_ready (rs := [2]) (by kernel_rfl) (by simp) ?_
        refine AllReadyH.cons rfl (fun K hK => ?_) AllReadyH.nil
        obtain ⟨y0, y1, y2, y3, y4⟩ := cells5z E1.out.b0
        have yf := fun i => frozen_of_row _ _ i _ _ E1.out.b0
        have E2 : Hid (DC w (((((V1.setCell ⟨w.heap.size, 0, none⟩ (.int .i64 n)).setCell ⟨w.heap.size, 1, none⟩ (.slice (some ⟨g, 0, none⟩) zl cg)).setCell ⟨w.heap.size, 2, none⟩ (.slice (some ⟨go, 0, none⟩) ko co)).setCell ⟨w.heap.size, 3, none⟩ (.slice (some ⟨gv, 0, none⟩) kv cv)).setCell ⟨w.heap.size, 4, none⟩ (.int .i64 fi)) #[.int .i64 n, .slice (some ⟨g, 0, none⟩) zl cg, .slice (some ⟨go, 0, none⟩) ko co, .slice (some ⟨gv, 0, none⟩) kv cv, .int .i64 fi] #[.slice none 0 0, .slice none 0 0] #[.int .i64 n, .slice (some ⟨g, 0, none⟩) zl cg, .slice (some ⟨go, 0, none⟩) ko co, .slice (some ⟨gv, 0, none⟩) kv cv, .int .i64 fi] kc kp g go gv base zs O V (.slice (some ⟨b, off, none⟩) nr rc) (.slice la m lc) R L) := E1.out.put0 (grown_trans (grown_trans (grown_trans (grown_trans (grown_set _ _ _ _) (grown_set _ _ _ _)) (grown_set _ _ _ _)) (grown_set _ _ _ _)) (grown_set _ _ _ _)) (by
          have := row_put (i := 4) (.int .i64 fi) (row_put (i := 3) (.slice (some ⟨gv, 0, none⟩) kv cv) (row_put (i := 2) (.slice (some ⟨go, 0, none⟩) ko co) (row_put (i := 1) (.slice (some ⟨g, 0, none⟩) zl cg) (row_put (i := 0) (.int .i64 n) E1.out.b0))))
          simpa using this)
        go_simp
        refine hK.out _ _ ?_ (fun hHeld => ?_)
        · exact ⟨cells5z E2.out.bc, cells2 E2.out.bp⟩
        clear hK K
        generalize (((((V1.setCell ⟨w.heap.size, 0, none⟩ (.int .i64 n)).setCell ⟨w.heap.size, 1, none⟩ (.slice (some ⟨g, 0, none⟩) zl cg)).setCell ⟨w.heap.size, 2, none⟩ (.slice (some ⟨go, 0, none⟩) ko co)).setCell ⟨w.heap.size, 3, none⟩ (.slice (some ⟨gv, 0, none⟩) kv cv)).setCell ⟨w.heap.size, 4, none⟩ (.int .i64 fi)) = V2 at *
        clear y0 y1 y2 y3 y4 yf
        refine wpAnyH_ready (rs := [3]) (by kernel_rfl) (by simp) ?_
        refine AllReadyH.cons rfl (fun K hK => ?_) AllReadyH.nil
        obtain ⟨y0, y1⟩ := cells2 E2.out.b1
        have yf := fun i => frozen_of_row _ _ i _ _ E2.out.b1
        have E3 : Hid (DC w ((V2.setCell ⟨w.heap.size + 1, 0, none⟩ (.slice (some ⟨b, off, none⟩) nr rc)).setCell ⟨w.heap.size + 1, 1, none⟩ (.slice la m lc)) #[.int .i64 n, .slice (some ⟨g, 0, none⟩) zl cg, .slice (some ⟨go, 0, none⟩) ko co, .slice (some ⟨gv, 0, none⟩) kv cv, .int .i64 fi] #[(.slice (some ⟨b, off, none⟩) nr rc), (.slice la m lc)] #[.int .i64 n, .slice (some ⟨g, 0, none⟩) zl cg, .slice (some ⟨go, 0, none⟩) ko co, .slice (some ⟨gv, 0, none⟩) kv cv, .int .i64 fi] kc kp g go gv base zs O V (.slice (some ⟨b, off, none⟩) nr rc) (.slice la m lc) R L) := E2.out.put1 (grown_trans (grown_set _ _ _ _) (grown_set _ _ _ _)) (by
          have := row_put (i := 1) (.slice la m lc) (row_put (i := 0) (.slice (some ⟨b, off, none⟩) nr rc) E2.out.b1)
          simpa using this)
        go_simp
        refine hK.out _ _ ?_ (fun hHeld => ?_)
        · exact ⟨cells5z E3.out.bc, cells2 E3.out.bp⟩
        clear hK K
        generalize ((V2.setCell ⟨w.heap.size + 1, 0, none⟩ (.slice (some ⟨b, off, none⟩) nr rc)).setCell ⟨w.heap.size + 1, 1, none⟩ (.slice la m lc)) = V3 at *
        clear y0 y1 yf
        refine wpAnyH_done (by kernel_rfl) ?_ _
        go_wp2
        have TOLD : CodeTold w (.returned (.tuple #[.agg #[.int .i64 n, .slice (some ⟨g, 0, none⟩) zl cg, .slice (some ⟨go, 0, none⟩) ko co, .slice (some ⟨gv, 0, none⟩) kv cv, .int .i64 fi], .agg #[(.slice (some ⟨b, off, none⟩) nr rc), (.slice la m lc)]])) V3 := ⟨n, g, zl, cg, go, ko, co, gv, kv, cv, zs, O, V, fi, _, _, R, L, rfl, HLS.out, ⟨HRL.out.1, HRL.out.2.1, by have := HRL.out.2.2.1; omega, fun _ => HRL.out.2.2.2⟩, E3.out.b, E3.out.iz.1, E3.out.io.1, E3.out.iv.1, ⟨by have := E3.out.iz.2; omega, by have := E3.out.io.2; omega, by have := E3.out.iv.2; omega⟩, E3.out.po.base (by omega)⟩
        refine bodyPost_ret (v := .tuple #[.agg #[.int .i64 n, .slice (some ⟨g, 0, none⟩) zl cg, .slice (some ⟨go, 0, none⟩) ko co, .slice (some ⟨gv, 0, none⟩) kv cv, .int .i64 fi], .agg #[(.slice (some ⟨b, off, none⟩) nr rc), (.slice la m lc)]]) ?_ rfl TOLD
        have r1 := run_loadVar_row (P := Try.prog) _ w.heap.size 30 30 #[.int .i64 n, .slice (some ⟨g, 0, none⟩) zl cg, .slice (some ⟨go, 0, none⟩) ko co, .slice (some ⟨gv, 0, none⟩) kv cv, .int .i64 fi] (0, 0) _ E3.out.b0 Try.underlying30 rfl sizeCase5
        have r2 := run_loadVar_row (P := Try.prog) _ (w.heap.size + 1) 33 33 #[(.slice (some ⟨b, off, none⟩) nr rc), (.slice la m lc)] (0, 0) _ E3.out.b1 Try.underlying33 rfl sizePlan2
        simp [results, Try.results8, asAddr, r1, r2]
    · have hn00 : nr = 0 := by omega
      have hnI : ¬ ((0 : Int) < (nr : Int)) := by omega
      clear hn0 hn00
      have kS := And.intro (cells5z (D6.out.below (Below.refl _ _).drew).bc) (cells2 (D6.out.below (Below.refl _ _).drew).bp)
      go_wp2_with fail
      refine wp_region_held_drew (S := (fun W => (W.cell? ⟨kc, 0, none⟩ = some (.int .i64 n) ∧ W.cell? ⟨kc, 1, none⟩ = some (.slice (some ⟨g, 0, none⟩) zl cg) ∧ W.cell? ⟨kc, 2, none⟩ = some (.slice (some ⟨go, 0, none⟩) ko co) ∧ W.cell? ⟨kc, 3, none⟩ = some (.slice (some ⟨gv, 0, none⟩) kv cv) ∧ W.cell? ⟨kc, 4, none⟩ = some (.int .i64 fi)) ∧ W.cell? ⟨kp, 0, none⟩ = some (.slice ra nr rc) ∧ W.cell? ⟨kp, 1, none⟩ = some (.slice la m lc))) (by kernel_rfl) ?_ (fun hHeld => ?_)
      · exact kS
      have E1 : Hid (DC w w6.drew #[.int .i64 0, .slice none 0 0, .slice none 0 0, .slice none 0 0, .int .i64 0] #[.slice none 0 0, .slice none 0 0] #[.int .i64 n, .slice (some ⟨g, 0, none⟩) zl cg, .slice (some ⟨go, 0, none⟩) ko co, .slice (some ⟨gv, 0, none⟩) kv cv, .int .i64 fi] kc kp g go gv base zs O V (.slice ra nr rc) (.slice la m lc) R L) := D6.out.below (Below.refl _ _).drew
      clear D6 kS
      generalize w6.drew = V1 at *
      refine wpAnyH_take (i := 0) (v := ?_) rfl (by kernel_rfl) (by kernel_rfl) (by kernel_rfl) (fun _ _ _ h => h) (Or.inl ⟨by kernel_rfl, ?_⟩) hHeld ?_
      rotate_left 1
      · intro w hSw
        (try dsimp only at hSw)
        (try go_split_ands)
        go_simp
        all_goals (first | done | with_reducible rfl)
      change wpAnyH _ _ _ _ _ _ _ (Act.put _ (some 42) _) _
      simp only [Act.put, List.setIfInBounds_toArray, List.set_cons_zero, List.set_cons_succ]
      refine wpAnyH_take (i := 1) (v := ?_) rfl (by kernel_rfl) (by kernel_rfl) (by kernel_rfl) (fun _ _ _ h => h) (Or.inl ⟨by kernel_rfl, ?_⟩) hHeld ?_
      rotate_left 1
      · intro w hSw
        (try dsimp only at hSw)
        (try go_split_ands)
        go_simp
        all_goals (first | done | with_reducible rfl)
      change wpAnyH _ _ _ _ _ _ _ (Act.put _ (some 43) _) _
      simp only [Act.put, List.setIfInBounds_toArray, List.set_cons_zero, List.set_cons_succ]
      refine wpAnyH_ready (rs := [2]) (by kernel_rfl) (by simp) ?_
      refine AllReadyH.cons rfl (fun K hK => ?_) AllReadyH.nil
      obtain ⟨y0, y1, y2, y3, y4⟩ := cells5z E1.out.b0
      have yf := fun i => frozen_of_row _ _ i _ _ E1.out.b0
      have E2 : Hid (DC w (((((V1.setCell ⟨w.heap.size, 0, none⟩ (.int .i64 n)).setCell ⟨w.heap.size, 1, none⟩ (.slice (some ⟨g, 0, none⟩) zl cg)).setCell ⟨w.heap.size, 2, none⟩ (.slice (some ⟨go, 0, none⟩) ko co)).setCell ⟨w.heap.size, 3, none⟩ (.slice (some ⟨gv, 0, none⟩) kv cv)).setCell ⟨w.heap.size, 4, none⟩ (.int .i64 fi)) #[.int .i64 n, .slice (some ⟨g, 0, none⟩) zl cg, .slice (some ⟨go, 0, none⟩) ko co, .slice (some ⟨gv, 0, none⟩) kv cv, .int .i64 fi] #[.slice none 0 0, .slice none 0 0] #[.int .i64 n, .slice (some ⟨g, 0, none⟩) zl cg, .slice (some ⟨go, 0, none⟩) ko co, .slice (some ⟨gv, 0, none⟩) kv cv, .int .i64 fi] kc kp g go gv base zs O V (.slice ra nr rc) (.slice la m lc) R L) := E1.out.put0 (grown_trans (grown_trans (grown_trans (grown_trans (grown_set _ _ _ _) (grown_set _ _ _ _)) (grown_set _ _ _ _)) (grown_set _ _ _ _)) (grown_set _ _ _ _)) (by
        have := row_put (i := 4) (.int .i64 fi) (row_put (i := 3) (.slice (some ⟨gv, 0, none⟩) kv cv) (row_put (i := 2) (.slice (some ⟨go, 0, none⟩) ko co) (row_put (i := 1) (.slice (some ⟨g, 0, none⟩) zl cg) (row_put (i := 0) (.int .i64 n) E1.out.b0))))
        simpa using this)
      go_simp
      refine hK.out _ _ ?_ (fun hHeld => ?_)
      · exact ⟨cells5z E2.out.bc, cells2 E2.out.bp⟩
      clear hK K
      generalize (((((V1.setCell ⟨w.heap.size, 0, none⟩ (.int .i64 n)).setCell ⟨w.heap.size, 1, none⟩ (.slice (some ⟨g, 0, none⟩) zl cg)).setCell ⟨w.heap.size, 2, none⟩ (.slice (some ⟨go, 0, none⟩) ko co)).setCell ⟨w.heap.size, 3, none⟩ (.slice (some ⟨gv, 0, none⟩) kv cv)).setCell ⟨w.heap.size, 4, none⟩ (.int .i64 fi)) = V2 at *
      clear y0 y1 y2 y3 y4 yf
      refine wpAnyH_ready (rs := [3]) (by kernel_rfl) (by simp) ?_
      refine AllReadyH.cons rfl (fun K hK => ?_) AllReadyH.nil
      obtain ⟨y0, y1⟩ := cells2 E2.out.b1
      have yf := fun i => frozen_of_row _ _ i _ _ E2.out.b1
      have E3 : Hid (DC w ((V2.setCell ⟨w.heap.size + 1, 0, none⟩ (.slice ra nr rc)).setCell ⟨w.heap.size + 1, 1, none⟩ (.slice la m lc)) #[.int .i64 n, .slice (some ⟨g, 0, none⟩) zl cg, .slice (some ⟨go, 0, none⟩) ko co, .slice (some ⟨gv, 0, none⟩) kv cv, .int .i64 fi] #[(.slice ra nr rc), (.slice la m lc)] #[.int .i64 n, .slice (some ⟨g, 0, none⟩) zl cg, .slice (some ⟨go, 0, none⟩) ko co, .slice (some ⟨gv, 0, none⟩) kv cv, .int .i64 fi] kc kp g go gv base zs O V (.slice ra nr rc) (.slice la m lc) R L) := E2.out.put1 (grown_trans (grown_set _ _ _ _) (grown_set _ _ _ _)) (by
        have := row_put (i := 1) (.slice la m lc) (row_put (i := 0) (.slice ra nr rc) E2.out.b1)
        simpa using this)
      go_simp
      refine hK.out _ _ ?_ (fun hHeld => ?_)
      · exact ⟨cells5z E3.out.bc, cells2 E3.out.bp⟩
      clear hK K
      generalize ((V2.setCell ⟨w.heap.size + 1, 0, none⟩ (.slice ra nr rc)).setCell ⟨w.heap.size + 1, 1, none⟩ (.slice la m lc)) = V3 at *
      clear y0 y1 yf
      refine wpAnyH_done (by kernel_rfl) ?_ _
      go_wp2
      have TOLD : CodeTold w (.returned (.tuple #[.agg #[.int .i64 n, .slice (some ⟨g, 0, none⟩) zl cg, .slice (some ⟨go, 0, none⟩) ko co, .slice (some ⟨gv, 0, none⟩) kv cv, .int .i64 fi], .agg #[(.slice ra nr rc), (.slice la m lc)]])) V3 := ⟨n, g, zl, cg, go, ko, co, gv, kv, cv, zs, O, V, fi, _, _, R, L, rfl, HLS.out, ⟨HRL.out.1, HRL.out.2.1, by have := HRL.out.2.2.1; omega, fun _ => HRL.out.2.2.2⟩, E3.out.b, E3.out.iz.1, E3.out.io.1, E3.out.iv.1, ⟨by have := E3.out.iz.2; omega, by have := E3.out.io.2; omega, by have := E3.out.iv.2; omega⟩, E3.out.po.base (by omega)⟩
      refine bodyPost_ret (v := .tuple #[.agg #[.int .i64 n, .slice (some ⟨g, 0, none⟩) zl cg, .slice (some ⟨go, 0, none⟩) ko co, .slice (some ⟨gv, 0, none⟩) kv cv, .int .i64 fi], .agg #[(.slice ra nr rc), (.slice la m lc)]]) ?_ rfl TOLD
      have r1 := run_loadVar_row (P := Try.prog) _ w.heap.size 30 30 #[.int .i64 n, .slice (some ⟨g, 0, none⟩) zl cg, .slice (some ⟨go, 0, none⟩) ko co, .slice (some ⟨gv, 0, none⟩) kv cv, .int .i64 fi] (0, 0) _ E3.out.b0 Try.underlying30 rfl sizeCase5
      have r2 := run_loadVar_row (P := Try.prog) _ (w.heap.size + 1) 33 33 #[(.slice ra nr rc), (.slice la m lc)] (0, 0) _ E3.out.b1 Try.underlying33 rfl sizePlan2
      simp [results, Try.results8, asAddr, r1, r2]

end Go.Proofs.Ytonopidjkcmlmaa
