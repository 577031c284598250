import Derived.Test.YtpfikhegmmpogaaPack2
import Derived.Test.YtpfikhegmmpogaaDrawRoute
import Derived.Test.YtpfikhegmmpogaaDrawCase
namespace Go.Proofs.Ytpfikhegmmpogaa
open Go.RowKit

theorem type_no {w : World} {g k : Nat} {c1 c2 : Array Value} {T1 T2 : TypeId} (h1 : w.heap[g]? = some (.cells c1 T1 (0, 0))) (h2 : w.heap[k]? = some (.cells c2 T2 (0, 0))) (hT : T1 ≠ T2) : g ≠ k := by
  intro e
  rw [e, h2] at h1
  cases h1
  exact hT rfl
/-- A drawn case, a vehicle and a list, told to their caller. -/
def BRTold (w : World) (e : Ending) (w' : World) : Prop := ∃ (n : Int) (g zl cg go ko co gv kv cv : Nat) (zs O V L : List Int) (fi veh : Int) (ao : Option Addr) (m co2 : Nat),
  e = .returned (.tuple #[.agg #[.int .i64 n, .slice (some ⟨g, 0, none⟩) zl cg, .slice (some ⟨go, 0, none⟩) ko co, .slice (some ⟨gv, 0, none⟩) kv cv, .int .i64 fi], .int .i64 veh, .slice ao m co2]) ∧ (zs.length = zl ∧ O.length = ko * 6 ∧ V.length = kv * 5 ∧ 1 ≤ ko ∧ ko ≤ 5 ∧ 1 ≤ kv ∧ kv ≤ 3) ∧ (L.length = m ∧ m ≤ 4 ∧ m ≤ co2 ∧ AdrOk ao m co2) ∧
  Below w.heap.size w w' ∧ IntsAt w' (some ⟨g, 0, none⟩) zs ∧ IntsAt w' (some ⟨go, 0, none⟩) O ∧ IntsAt w' (some ⟨gv, 0, none⟩) V ∧ IntsAt w' ao L

set_option maxRecDepth 10000 in
set_option maxHeartbeats 4000000 in
theorem drawBestRoute_any (a : Option Addr) (c : Nat) (bs : List Int) (w : World) (h : CodeAt w a bs) (hl : bs.length ≤ 1048576) :
    Calls Try.prog 9 #[.slice a bs.length c] w (BRTold w) := by
  have H : Hid (CodeAt w a bs) := h
  clear h
  have BA : Hid (Below w.heap.size w (w.alloc (.cells #[.int .i64 0, .slice none 0 0, .slice none 0 0, .slice none 0 0, .int .i64 0] 30))) := (Below.refl _ _).alloc (Nat.le_refl _) _
  have GA : Hid ((w.alloc (.cells #[.int .i64 0, .slice none 0 0, .slice none 0 0, .slice none 0 0, .int .i64 0] 30)).heap[w.heap.size]? = some (.cells #[.int .i64 0, .slice none 0 0, .slice none 0 0, .slice none 0 0, .int .i64 0] 30 (0, 0))) := heap_alloc_new _ _
  have CA : Hid (CodeAt (w.alloc (.cells #[.int .i64 0, .slice none 0 0, .slice none 0 0, .slice none 0 0, .int .i64 0] 30)) a bs) := by
    intro j hj
    obtain ⟨b, off, e, hc, hv⟩ := H.out j hj
    exact ⟨b, off, e, (BA.out.cell (p := ⟨b, off + j, none⟩) (block_lt_of_cell hc)).trans hc, hv⟩
  go_enter Try.func9, Try.ntmps9
  go_wp2_with fail
  generalize w.alloc (.cells #[.int .i64 0, .slice none 0 0, .slice none 0 0, .slice none 0 0, .int .i64 0] 30) = W0 at *
  refine (l1Open_any a c bs W0 CA.out hl).mono ?_
  rintro e w1 ⟨rfl, hb, hr⟩
  obtain ⟨q, HQ⟩ : ∃ q, Hid (W0.heap.size = q) := ⟨_, rfl⟩
  have hw0 : w.heap.size < W0.heap.size := row_lt GA.out
  have HQL : Hid (w.heap.size < q) := by show _ < _; rw [← HQ.out]; exact hw0
  have B1 : Hid (Below w.heap.size w w1) := BA.out.trans (hb.mono BA.out.size)
  have G1 : Hid (w1.heap[w.heap.size]? = some (.cells #[.int .i64 0, .slice none 0 0, .slice none 0 0, .slice none 0 0, .int .i64 0] 30 (0, 0))) := below_row hb (row_lt GA.out) GA.out
  have R1 : Hid (RD w1 q a bs c 0) := by have := hr; rw [HQ.out] at this; exact this
  clear hb hr hw0 BA GA CA
  rw [HQ.out]
  go_wp2_with fail
  refine (case1_any q 0 c 5 a bs w1 R1.out (by omega) (by omega)).mono ?_
  rintro e w3 ⟨n, g, zl, cg, go, ko, co, gv, kv, cv, zs, O, V, fi, rfl, hls, hg, ⟨p3, hr⟩, iz, io, iv, ⟨hs1, hs2, hs3, -⟩⟩
  have HLS : Hid (zs.length = zl ∧ O.length = ko * 6 ∧ V.length = kv * 5 ∧ 1 ≤ ko ∧ ko ≤ 5 ∧ 1 ≤ kv ∧ kv ≤ 3) := hls
  have hko : ko ≤ 5 := hls.2.2.2.2.1
  have hkv : kv ≤ 3 := hls.2.2.2.2.2.2
  have hq1 : q < w1.heap.size := row_lt R1.out.1
  have hA3 : Below w3.heap.size w3 (w3.alloc (.cells #[.int .i64 n, .slice (some ⟨g, 0, none⟩) zl cg, .slice (some ⟨go, 0, none⟩) ko co, .slice (some ⟨gv, 0, none⟩) kv cv, .int .i64 fi] 30)) := (Below.refl _ _).alloc (Nat.le_refl _) _
  have B3 : Hid (Below w.heap.size w (w3.alloc (.cells #[.int .i64 n, .slice (some ⟨g, 0, none⟩) zl cg, .slice (some ⟨go, 0, none⟩) ko co, .slice (some ⟨gv, 0, none⟩) kv cv, .int .i64 fi] 30))) := by
    have hql := HQL.out
    have b3 : Below w.heap.size w w3 := grown_below B1.out (by omega) hg
    exact b3.alloc b3.size _
  have G3 : Hid ((w3.alloc (.cells #[.int .i64 n, .slice (some ⟨g, 0, none⟩) zl cg, .slice (some ⟨go, 0, none⟩) ko co, .slice (some ⟨gv, 0, none⟩) kv cv, .int .i64 fi] 30)).heap[w.heap.size]? = some (.cells #[.int .i64 0, .slice none 0 0, .slice none 0 0, .slice none 0 0, .int .i64 0] 30 (0, 0))) := by
    have hql := HQL.out
    have := grown_row hg G1.out (fun e => by injection e with e; omega)
    exact below_row hA3 (row_lt this) this
  have K3 : Hid ((w3.alloc (.cells #[.int .i64 n, .slice (some ⟨g, 0, none⟩) zl cg, .slice (some ⟨go, 0, none⟩) ko co, .slice (some ⟨gv, 0, none⟩) kv cv, .int .i64 fi] 30)).heap[w3.heap.size]? = some (.cells #[.int .i64 n, .slice (some ⟨g, 0, none⟩) zl cg, .slice (some ⟨go, 0, none⟩) ko co, .slice (some ⟨gv, 0, none⟩) kv cv, .int .i64 fi] 30 (0, 0))) := heap_alloc_new _ _
  have R3 : Hid (RD (w3.alloc (.cells #[.int .i64 n, .slice (some ⟨g, 0, none⟩) zl cg, .slice (some ⟨go, 0, none⟩) ko co, .slice (some ⟨gv, 0, none⟩) kv cv, .int .i64 fi] 30)) q a bs c p3) := hr.below hA3
  have I3 : Hid (IntsAt (w3.alloc (.cells #[.int .i64 n, .slice (some ⟨g, 0, none⟩) zl cg, .slice (some ⟨go, 0, none⟩) ko co, .slice (some ⟨gv, 0, none⟩) kv cv, .int .i64 fi] 30)) (some ⟨g, 0, none⟩) zs ∧ IntsAt (w3.alloc (.cells #[.int .i64 n, .slice (some ⟨g, 0, none⟩) zl cg, .slice (some ⟨go, 0, none⟩) ko co, .slice (some ⟨gv, 0, none⟩) kv cv, .int .i64 fi] 30)) (some ⟨go, 0, none⟩) O ∧ IntsAt (w3.alloc (.cells #[.int .i64 n, .slice (some ⟨g, 0, none⟩) zl cg, .slice (some ⟨go, 0, none⟩) ko co, .slice (some ⟨gv, 0, none⟩) kv cv, .int .i64 fi] 30)) (some ⟨gv, 0, none⟩) V) := ⟨iz.below hA3, io.below hA3, iv.below hA3⟩
  have H3 : Hid ((g ≠ q ∧ go ≠ q ∧ gv ≠ q ∧ w3.heap.size ≠ q) ∧ (w.heap.size < g ∧ w.heap.size < go ∧ w.heap.size < gv ∧ w.heap.size < w3.heap.size)) := by
    have hql := HQL.out
    have hsz := hg.size
    exact ⟨⟨by omega, by omega, by omega, by omega⟩, by omega, by omega, by omega, by omega⟩
  clear hr hg iz io iv hls hs1 hs2 hs3 hq1 hA3 B1 G1 R1
  obtain ⟨c0, c1, c2, c3, c4⟩ := cells5z K3.out
  go_wp2_with fail
  clear c0 c1 c2 c3 c4
  generalize w3.alloc (.cells #[.int .i64 n, .slice (some ⟨g, 0, none⟩) zl cg, .slice (some ⟨go, 0, none⟩) ko co, .slice (some ⟨gv, 0, none⟩) kv cv, .int .i64 fi] 30) = W3 at *
  generalize w3.heap.size = k at *
  refine (route_any q p3 c n fi g zl cg go ko co gv kv cv O V a bs W3 R3.out I3.out.2.1 I3.out.2.2 H3.out.1.2.1 H3.out.1.2.2.1 HLS.out.2.1 HLS.out.2.2.1 HLS.out.2.2.2.1 (by omega) HLS.out.2.2.2.2.2.1 (by omega)).mono ?_
  rintro e w5 ⟨veh, sl, L, rfl, hL, hg, -, ho⟩
  obtain ⟨ao, co2, e⟩ := own_any ho
  subst e
  obtain ⟨m, HM⟩ : ∃ m, Hid (L.length = m) := ⟨_, rfl⟩
  rw [HM.out] at hL ho ⊢
  have hA5 : Below w5.heap.size w5 (w5.alloc (.cells #[.int .i64 veh, .slice ao m co2] 34)) := (Below.refl _ _).alloc (Nat.le_refl _) _
  have HAD : Hid (AdrOk ao m co2) := AdrOk.of_own ho
  have hql := HQL.out
  have h3 := H3.out
  have B5 : Hid (Below w.heap.size w (w5.alloc (.cells #[.int .i64 veh, .slice ao m co2] 34))) := by
    have b5 : Below w.heap.size w w5 := grown_below B3.out (by omega) hg
    exact b5.alloc b5.size _
  have G5 : Hid ((w5.alloc (.cells #[.int .i64 veh, .slice ao m co2] 34)).heap[w.heap.size]? = some (.cells #[.int .i64 0, .slice none 0 0, .slice none 0 0, .slice none 0 0, .int .i64 0] 30 (0, 0))) := by
    have := grown_row hg G3.out (fun e => by injection e with e; omega)
    exact below_row hA5 (row_lt this) this
  have K5 : Hid ((w5.alloc (.cells #[.int .i64 veh, .slice ao m co2] 34)).heap[k]? = some (.cells #[.int .i64 n, .slice (some ⟨g, 0, none⟩) zl cg, .slice (some ⟨go, 0, none⟩) ko co, .slice (some ⟨gv, 0, none⟩) kv cv, .int .i64 fi] 30 (0, 0))) := by
    have := grown_row hg K3.out (fun e => by injection e with e; omega)
    exact below_row hA5 (row_lt this) this
  have V5 : Hid ((w5.alloc (.cells #[.int .i64 veh, .slice ao m co2] 34)).heap[w5.heap.size]? = some (.cells #[.int .i64 veh, .slice ao m co2] 34 (0, 0))) := heap_alloc_new _ _
  have I5 : Hid (IntsAt (w5.alloc (.cells #[.int .i64 veh, .slice ao m co2] 34)) (some ⟨g, 0, none⟩) zs ∧ IntsAt (w5.alloc (.cells #[.int .i64 veh, .slice ao m co2] 34)) (some ⟨go, 0, none⟩) O ∧ IntsAt (w5.alloc (.cells #[.int .i64 veh, .slice ao m co2] 34)) (some ⟨gv, 0, none⟩) V) := ⟨(ints_other I3.out.1 hg h3.1.1).below hA5, (ints_other I3.out.2.1 hg h3.1.2.1).below hA5, (ints_other I3.out.2.2 hg h3.1.2.2.1).below hA5⟩
  have L5 : Hid (IntsAt (w5.alloc (.cells #[.int .i64 veh, .slice ao m co2] 34)) ao L ∧ m ≤ co2 ∧ ∀ b off, ao = some ⟨b, off, none⟩ → w.heap.size < b) := by
    have hoc := ho
    obtain ⟨a', c', e, _, hi⟩ := owns_at1 ho
    have e2 : ao = a' := by injection e
    have hi' : IntsAt w5 ao L := by rw [e2]; exact hi
    refine ⟨hi'.below hA5, ?_, fun b off e => ?_⟩
    · obtain ⟨_, ⟨h1, h2⟩ | ⟨g', cap, cur, h2, _, _, h3, _⟩⟩ := hoc
      · omega
      · injection h2 with _ _ e3
        omega
    · have := (ho.lt b (by rw [e]; rfl)).1
      have hk := row_lt K3.out
      omega
  clear ho hg hA5 R3 I3 B3 G3 K3 hql h3
  go_wp2_with fail
  generalize w5.alloc (.cells #[.int .i64 veh, .slice ao m co2] 34) = W5 at *
  generalize w5.heap.size = kr at *
  obtain ⟨c0, c1, c2, c3, c4⟩ := cells5z K5.out
  obtain ⟨d0, d1⟩ := cells2 V5.out
  obtain ⟨y0, y1, y2, y3, y4⟩ := cells5z G5.out
  have yf := fun i => frozen_of_row _ _ i _ _ G5.out
  have hne1 : k ≠ w.heap.size := by have := H3.out; omega
  have hne2 : kr ≠ w.heap.size := fun e => type_no V5.out G5.out (by decide) e
  have s5 : W5.grownBy (((((W5.setCell ⟨w.heap.size, 0, none⟩ (.int .i64 n)).setCell ⟨w.heap.size, 1, none⟩ (.slice (some ⟨g, 0, none⟩) zl cg)).setCell ⟨w.heap.size, 2, none⟩ (.slice (some ⟨go, 0, none⟩) ko co)).setCell ⟨w.heap.size, 3, none⟩ (.slice (some ⟨gv, 0, none⟩) kv cv)).setCell ⟨w.heap.size, 4, none⟩ (.int .i64 fi)) (some w.heap.size) := grown_trans (grown_trans (grown_trans (grown_trans (grown_set _ _ _ _) (grown_set _ _ _ _)) (grown_set _ _ _ _)) (grown_set _ _ _ _)) (grown_set _ _ _ _)
  have r0 : (((((W5.setCell ⟨w.heap.size, 0, none⟩ (.int .i64 n)).setCell ⟨w.heap.size, 1, none⟩ (.slice (some ⟨g, 0, none⟩) zl cg)).setCell ⟨w.heap.size, 2, none⟩ (.slice (some ⟨go, 0, none⟩) ko co)).setCell ⟨w.heap.size, 3, none⟩ (.slice (some ⟨gv, 0, none⟩) kv cv)).setCell ⟨w.heap.size, 4, none⟩ (.int .i64 fi)).heap[w.heap.size]? = some (.cells #[.int .i64 n, .slice (some ⟨g, 0, none⟩) zl cg, .slice (some ⟨go, 0, none⟩) ko co, .slice (some ⟨gv, 0, none⟩) kv cv, .int .i64 fi] 30 (0, 0)) := by
    have := row_put (i := 4) (.int .i64 fi) (row_put (i := 3) (.slice (some ⟨gv, 0, none⟩) kv cv) (row_put (i := 2) (.slice (some ⟨go, 0, none⟩) ko co) (row_put (i := 1) (.slice (some ⟨g, 0, none⟩) zl cg) (row_put (i := 0) (.int .i64 n) G5.out))))
    simpa using this
  have TOLD : Hid (BRTold w (.returned (.tuple #[.agg #[.int .i64 n, .slice (some ⟨g, 0, none⟩) zl cg, .slice (some ⟨go, 0, none⟩) ko co, .slice (some ⟨gv, 0, none⟩) kv cv, .int .i64 fi], .int .i64 veh, .slice ao m co2])) (((((W5.setCell ⟨w.heap.size, 0, none⟩ (.int .i64 n)).setCell ⟨w.heap.size, 1, none⟩ (.slice (some ⟨g, 0, none⟩) zl cg)).setCell ⟨w.heap.size, 2, none⟩ (.slice (some ⟨go, 0, none⟩) ko co)).setCell ⟨w.heap.size, 3, none⟩ (.slice (some ⟨gv, 0, none⟩) kv cv)).setCell ⟨w.heap.size, 4, none⟩ (.int .i64 fi)).drew) := by
    have h3 := H3.out
    have li : IntsAt (((((W5.setCell ⟨w.heap.size, 0, none⟩ (.int .i64 n)).setCell ⟨w.heap.size, 1, none⟩ (.slice (some ⟨g, 0, none⟩) zl cg)).setCell ⟨w.heap.size, 2, none⟩ (.slice (some ⟨go, 0, none⟩) ko co)).setCell ⟨w.heap.size, 3, none⟩ (.slice (some ⟨gv, 0, none⟩) kv cv)).setCell ⟨w.heap.size, 4, none⟩ (.int .i64 fi)) ao L := fun j hj => by
      obtain ⟨b, off, rfl, hc⟩ := L5.out.1 j hj
      have hb4 := L5.out.2.2 b off rfl
      exact ⟨b, off, rfl, s5.cell hc (fun e => absurd (Option.some.inj e) (by show b ≠ _; omega))⟩
    have hd : Below (((((W5.setCell ⟨w.heap.size, 0, none⟩ (.int .i64 n)).setCell ⟨w.heap.size, 1, none⟩ (.slice (some ⟨g, 0, none⟩) zl cg)).setCell ⟨w.heap.size, 2, none⟩ (.slice (some ⟨go, 0, none⟩) ko co)).setCell ⟨w.heap.size, 3, none⟩ (.slice (some ⟨gv, 0, none⟩) kv cv)).setCell ⟨w.heap.size, 4, none⟩ (.int .i64 fi)).heap.size (((((W5.setCell ⟨w.heap.size, 0, none⟩ (.int .i64 n)).setCell ⟨w.heap.size, 1, none⟩ (.slice (some ⟨g, 0, none⟩) zl cg)).setCell ⟨w.heap.size, 2, none⟩ (.slice (some ⟨go, 0, none⟩) ko co)).setCell ⟨w.heap.size, 3, none⟩ (.slice (some ⟨gv, 0, none⟩) kv cv)).setCell ⟨w.heap.size, 4, none⟩ (.int .i64 fi)) (((((W5.setCell ⟨w.heap.size, 0, none⟩ (.int .i64 n)).setCell ⟨w.heap.size, 1, none⟩ (.slice (some ⟨g, 0, none⟩) zl cg)).setCell ⟨w.heap.size, 2, none⟩ (.slice (some ⟨go, 0, none⟩) ko co)).setCell ⟨w.heap.size, 3, none⟩ (.slice (some ⟨gv, 0, none⟩) kv cv)).setCell ⟨w.heap.size, 4, none⟩ (.int .i64 fi)).drew := (Below.refl _ _).drew
    exact ⟨n, g, zl, cg, go, ko, co, gv, kv, cv, zs, O, V, L, fi, veh, ao, m, co2, rfl, HLS.out, ⟨HM.out, hL, L5.out.2.1, HAD.out⟩, (grown_below B5.out (Nat.le_refl _) s5).drew, (ints_row I5.out.1 s5 (fun e => by injection e with e; omega)).below hd, (ints_row I5.out.2.1 s5 (fun e => by injection e with e; omega)).below hd, (ints_row I5.out.2.2 s5 (fun e => by injection e with e; omega)).below hd, li.below hd⟩
  have R0 : Hid ((((((W5.setCell ⟨w.heap.size, 0, none⟩ (.int .i64 n)).setCell ⟨w.heap.size, 1, none⟩ (.slice (some ⟨g, 0, none⟩) zl cg)).setCell ⟨w.heap.size, 2, none⟩ (.slice (some ⟨go, 0, none⟩) ko co)).setCell ⟨w.heap.size, 3, none⟩ (.slice (some ⟨gv, 0, none⟩) kv cv)).setCell ⟨w.heap.size, 4, none⟩ (.int .i64 fi)).drew.heap[w.heap.size]? = some (.cells #[.int .i64 n, .slice (some ⟨g, 0, none⟩) zl cg, .slice (some ⟨go, 0, none⟩) ko co, .slice (some ⟨gv, 0, none⟩) kv cv, .int .i64 fi] 30 (0, 0))) := below_row (Below.refl _ _).drew (row_lt r0) r0
  clear s5 r0
  go_region
  go_wp2
  refine bodyPost_ret (v := .tuple #[.agg #[.int .i64 n, .slice (some ⟨g, 0, none⟩) zl cg, .slice (some ⟨go, 0, none⟩) ko co, .slice (some ⟨gv, 0, none⟩) kv cv, .int .i64 fi], .int .i64 veh, .slice ao m co2]) ?_ rfl TOLD.out
  have r1 := run_loadVar_row (P := Try.prog) _ w.heap.size 30 30 #[.int .i64 n, .slice (some ⟨g, 0, none⟩) zl cg, .slice (some ⟨go, 0, none⟩) ko co, .slice (some ⟨gv, 0, none⟩) kv cv, .int .i64 fi] (0, 0) _ R0.out Try.underlying30 rfl sizeCase5
  simp [results, Try.results9, asAddr, r1]

end Go.Proofs.Ytpfikhegmmpogaa
