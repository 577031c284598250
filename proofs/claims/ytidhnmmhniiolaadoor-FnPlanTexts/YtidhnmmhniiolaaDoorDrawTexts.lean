import Derived.Test.YtidhnmmhniiolaaDoorPack9
import Derived.Test.YtidhnmmhniiolaaDoorDrawPlan
import Derived.Test.YtidhnmmhniiolaaDoorPack27
import Derived.Test.YtidhnmmhniiolaaDoorDrawCase
import Derived.Test.YtidhnmmhniiolaaDoorPlanTx
namespace Go.Proofs.YtidhnmmhniiolaaDoor
open Go.RowKit

set_option maxHeartbeats 4000000 in
theorem drawPlanText_any (a : Option Addr) (c : Nat) (bs : List Int) (w : World) (h : CodeAt w a bs) (hl : bs.length ≤ 1048576) :
    Calls Tryd.prog 5 #[.slice a bs.length c] w (PlanTold2 w) := by
  have H : Hid (CodeAt w a bs) := h
  clear h
  have BA : Hid (Below w.heap.size w (w.alloc (.cells #[.slice none 0 0, .slice none 0 0] 27))) := (Below.refl _ _).alloc (Nat.le_refl _) _
  have GA : Hid ((w.alloc (.cells #[.slice none 0 0, .slice none 0 0] 27)).heap[w.heap.size]? = some (.cells #[.slice none 0 0, .slice none 0 0] 27 (0, 0))) := heap_alloc_new _ _
  have CA : Hid (CodeAt (w.alloc (.cells #[.slice none 0 0, .slice none 0 0] 27)) a bs) := by
    intro j hj
    obtain ⟨b, off, e, hc, hv⟩ := H.out j hj
    exact ⟨b, off, e, (BA.out.cell (p := ⟨b, off + j, none⟩) (block_lt_of_cell hc)).trans hc, hv⟩
  go_enter Tryd.func5, Tryd.ntmps5
  go_wp2_with fail
  generalize (w.alloc (.cells #[.slice none 0 0, .slice none 0 0] 27)) = W0 at *
  refine (l1Open_any a c bs W0 CA.out hl).mono ?_
  rintro e w1 ⟨rfl, hb, hr⟩
  obtain ⟨q, HQ⟩ : ∃ q, Hid (W0.heap.size = q) := ⟨_, rfl⟩
  have HQL : Hid (w.heap.size < q) := by show _ < _; rw [← HQ.out]; exact row_lt GA.out
  have B1 : Hid (Below w.heap.size w w1) := BA.out.trans (hb.mono BA.out.size)
  have G1 : Hid (w1.heap[w.heap.size]? = some (.cells #[.slice none 0 0, .slice none 0 0] 27 (0, 0))) := below_row hb (row_lt GA.out) GA.out
  have R1 : Hid (RD w1 q a bs c 0) := by have := hr; rw [HQ.out] at this; exact this
  clear hb hr
  rw [HQ.out]
  go_wp2_with fail
  refine (case1_any q 0 c 6 a bs w1 R1.out (by omega) (by omega)).mono ?_
  rintro e w3 ⟨n, g, zl, cg, go, ko, co, gv, kv, cv, zs, O, V, fi, rfl, hls, hg, ⟨p3, hr⟩, iz, io, iv, hgs⟩
  have HLS : Hid (zs.length = zl ∧ O.length = ko * 6 ∧ V.length = kv * 5 ∧ 1 ≤ ko ∧ ko ≤ 6 ∧ 1 ≤ kv ∧ kv ≤ 3) := hls
  obtain ⟨-, -, -, hk1, hk5, hv1, hv3⟩ := hls
  have hwq := HQL.out
  have hq1 : q < w1.heap.size := row_lt R1.out.1
  have B3 : Hid (Below w.heap.size w w3) := grown_below B1.out (by omega) hg
  have G3 : Hid (w3.heap[w.heap.size]? = some (.cells #[.slice none 0 0, .slice none 0 0] 27 (0, 0))) := grown_row hg G1.out (fun e => by injection e with e; omega)
  have R3 : Hid (RD w3 q a bs c p3) := hr
  have IZ : Hid (IntsAt w3 (some ⟨g, 0, none⟩) zs ∧ g ≠ q) := ⟨iz, by have := hgs.1; omega⟩
  have IO : Hid (IntsAt w3 (some ⟨go, 0, none⟩) O ∧ go ≠ q) := ⟨io, by have := hgs.2.1; omega⟩
  have IV : Hid (IntsAt w3 (some ⟨gv, 0, none⟩) V ∧ gv ≠ q) := ⟨iv, by have := hgs.2.2.1; omega⟩
  clear hr hg iz io iv hgs B1 G1 R1 BA GA CA hq1
  go_wp2_with fail
  refine (plan_any (fun _ => True) q p3 c n fi g zl cg go ko co gv kv cv zs O V a bs _ R3.out IZ.out.1 IO.out.1 IV.out.1 IZ.out.2 IO.out.2 IV.out.2 HLS.out.1 HLS.out.2.1 HLS.out.2.2.1 (by omega) (by omega) (by omega) (by omega) ids_range (fun _ _ => trivial) (fun _ _ _ => trivial)).mono ?_
  rintro e w5 ⟨rs, ls, R, L, rfl, hR1, hR2, hL1, hL2, hg5, ⟨p5, hr5⟩, ho5, -⟩
  obtain ⟨ra, rc, e⟩ := own_any ho5.r
  subst e
  obtain ⟨la, lc, e⟩ := own_any ho5.l
  subst e
  have HRL : Hid (∀ r ∈ R, r.ids.length ≤ 9) := hR2
  obtain ⟨nr, HNR⟩ : ∃ v, Hid (R.length = v) := ⟨_, rfl⟩
  obtain ⟨m, HM⟩ : ∃ v, Hid (L.length = v) := ⟨_, rfl⟩
  rw [HNR.out] at hR1
  rw [HM.out] at hL1
  have P5 : Hid (PL w5 (w.heap.size + 1) ra rc la lc nr m R L) := by
    rw [HNR.out, HM.out] at ho5
    exact ⟨ho5.base (by have := row_lt G3.out; omega), HNR.out, HM.out⟩
  rw [HNR.out, HM.out]
  have hq3 : q < w3.heap.size := row_lt R3.out.1
  have B5 : Hid (Below w.heap.size w w5) := grown_below B3.out (by omega) hg5
  have G5 : Hid (w5.heap[w.heap.size]? = some (.cells #[.slice none 0 0, .slice none 0 0] 27 (0, 0))) := grown_row hg5 G3.out (fun e => by injection e with e; omega)
  clear hR2 hL2 hg5 hr5 ho5 B3 G3 R3 IZ IO IV hq3
  have B6 : Hid (Below w.heap.size w ((w5.setCell ⟨w.heap.size, 0, none⟩ (.slice ra nr rc)).setCell ⟨w.heap.size, 1, none⟩ (.slice la m lc))) := Below.setCell (Below.setCell B5.out (by simp) _) (by simp) _
  have P6 : Hid (PL ((w5.setCell ⟨w.heap.size, 0, none⟩ (.slice ra nr rc)).setCell ⟨w.heap.size, 1, none⟩ (.slice la m lc)) (w.heap.size + 1) ra rc la lc nr m R L) := ⟨(P5.out.1.set (by omega)).set (by omega), P5.out.2⟩
  have G6 : Hid (((w5.setCell ⟨w.heap.size, 0, none⟩ (.slice ra nr rc)).setCell ⟨w.heap.size, 1, none⟩ (.slice la m lc)).heap[w.heap.size]? = some (.cells #[.slice ra nr rc, .slice la m lc] 27 (0, 0))) := by
    show _ = _
    have := row_put (i := 1) (.slice la m lc) (row_put (i := 0) (.slice ra nr rc) G5.out)
    simpa using this
  obtain ⟨y0, y1⟩ := cells2 G5.out
  have yf := fun i => frozen_of_row _ _ i _ _ G5.out
  go_wp2
  clear y0 y1 yf
  generalize ((w5.setCell ⟨w.heap.size, 0, none⟩ (.slice ra nr rc)).setCell ⟨w.heap.size, 1, none⟩ (.slice la m lc)) = W6 at *
  have TOLD : PlanTold2 w (.returned (.agg #[.slice ra nr rc, .slice la m lc])) W6 := ⟨ra, la, rc, lc, nr, m, R, L, rfl, hR1, HRL.out, hL1, B6.out, ⟨P6.out.1.base (by omega), P6.out.2⟩⟩
  refine bodyPost_ret (v := .agg #[.slice ra nr rc, .slice la m lc]) ?_ rfl TOLD
  have r1 := run_loadVar_row (P := Tryd.prog) _ w.heap.size 27 27 #[.slice ra nr rc, .slice la m lc] (0, 0) _ G6.out Tryd.underlying27 rfl sizePlan2
  simp [results, Tryd.results5, asAddr, r1]

set_option maxHeartbeats 4000000 in
theorem drawReadPlan_any (a : Option Addr) (c : Nat) (bs : List Int) (w : World) (h : CodeAt w a bs) (hl : bs.length ≤ 1048576) :
    Calls Tryd.prog 10 #[.slice a bs.length c] w fun e w' => ∃ s : List UInt8, e = .returned (.string (txt s)) ∧ s.length ≤ 2002 ∧ Below w.heap.size w w' := by
  have H : Hid (CodeAt w a bs) := h
  clear h
  go_enter Tryd.func10, Tryd.ntmps10
  go_wp2_with fail
  refine (l1Open_any a c bs w H.out hl).mono ?_
  rintro e w1 ⟨rfl, hb, hr⟩
  obtain ⟨q, HQ⟩ : ∃ q, Hid (w.heap.size = q) := ⟨_, rfl⟩
  have B1 : Hid (Below w.heap.size w w1) := hb
  have R1 : Hid (RD w1 q a bs c 0) := by have := hr; rw [HQ.out] at this; exact this
  clear hb hr
  have hwq : w.heap.size ≤ q := by rw [HQ.out]; exact Nat.le_refl _
  rw [HQ.out]
  go_wp2_with fail
  refine (case1_any q 0 c 6 a bs w1 R1.out (by omega) (by omega)).mono ?_
  rintro e w3 ⟨n, g, zl, cg, go, ko, co, gv, kv, cv, zs, O, V, fi, rfl, hls, hg, ⟨p3, hr⟩, iz, io, iv, hgs⟩
  have HLS : Hid (zs.length = zl ∧ O.length = ko * 6 ∧ V.length = kv * 5 ∧ 1 ≤ ko ∧ ko ≤ 6 ∧ 1 ≤ kv ∧ kv ≤ 3) := hls
  obtain ⟨-, -, -, hk1, hk5, hv1, hv3⟩ := hls
  have hq1 : q < w1.heap.size := row_lt R1.out.1
  have B3 : Hid (Below w.heap.size w w3) := grown_below B1.out (by omega) hg
  have R3 : Hid (RD w3 q a bs c p3) := hr
  have IZ : Hid (IntsAt w3 (some ⟨g, 0, none⟩) zs ∧ g ≠ q) := ⟨iz, by have := hgs.1; omega⟩
  have IO : Hid (IntsAt w3 (some ⟨go, 0, none⟩) O ∧ go ≠ q) := ⟨io, by have := hgs.2.1; omega⟩
  have IV : Hid (IntsAt w3 (some ⟨gv, 0, none⟩) V ∧ gv ≠ q) := ⟨iv, by have := hgs.2.2.1; omega⟩
  clear hr hg iz io iv hgs B1 R1 hq1
  go_wp2_with fail
  refine (plan_any (fun _ => True) q p3 c n fi g zl cg go ko co gv kv cv zs O V a bs _ R3.out IZ.out.1 IO.out.1 IV.out.1 IZ.out.2 IO.out.2 IV.out.2 HLS.out.1 HLS.out.2.1 HLS.out.2.2.1 (by omega) (by omega) (by omega) (by omega) ids_range (fun _ _ => trivial) (fun _ _ _ => trivial)).mono ?_
  rintro e w5 ⟨rs, ls, R, L, rfl, hR1, hR2, hL1, hL2, hg5, ⟨p5, hr5⟩, ho5, -⟩
  obtain ⟨ra, rc, e⟩ := own_any ho5.r
  subst e
  obtain ⟨la, lc, e⟩ := own_any ho5.l
  subst e
  have HRL : Hid (∀ r ∈ R, r.ids.length ≤ 9) := hR2
  obtain ⟨nr, HNR⟩ : ∃ v, Hid (R.length = v) := ⟨_, rfl⟩
  obtain ⟨m, HM⟩ : ∃ v, Hid (L.length = v) := ⟨_, rfl⟩
  rw [HNR.out] at hR1
  rw [HM.out] at hL1
  have P5 : Hid (PL w5 w3.heap.size ra rc la lc nr m R L) := by
    rw [HNR.out, HM.out] at ho5
    exact ⟨ho5, HNR.out, HM.out⟩
  rw [HNR.out, HM.out]
  have hq3 : q < w3.heap.size := row_lt R3.out.1
  have B5 : Hid (Below w.heap.size w w5) := grown_below B3.out (by omega) hg5
  have R5 : Hid (RD w5 q a bs c p5) := hr5
  clear hR2 hL2 hg5 hr5 ho5 B3 R3 IZ IO IV hq3
  go_wp2_with fail
  refine (specTextPL P5.out (by omega) (by omega) (fun r hr => by have := HRL.out r hr; omega)).mono ?_
  rintro e w6 ⟨rfl, hb6⟩
  have B6 : Hid (Below w.heap.size w w6) := B5.out.trans (hb6.mono B5.out.size)
  have R6 : Hid (RD w6 q a bs c p5) := R5.out.below hb6
  have hsz : (txt (plTx R L)).size ≤ 2000 := by rw [txt_size]; exact plTx_len R L
  clear hb6 B5 R5
  generalize txt (plTx R L) = s at *
  go_wp2_with fail
  refine (hurt_any q p5 c a bs s 2000 w6 R6.out hsz (by omega)).mono ?_
  rintro e w7 ⟨t, p7, rfl, ht, -, hg7⟩
  have hq6 : q < w6.heap.size := row_lt R6.out.1
  have B7 : Hid (Below w.heap.size w w7) := grown_below B6.out (by omega) hg7
  have HT : Hid (t.size ≤ 2000 + 2) := ht
  clear ht hg7 B6 R6
  go_wp2
  go_ret
  refine ⟨t.data.toList, ?_, by have := HT.out; simpa using this, B7.out⟩
  unfold txt
  simp

end Go.Proofs.YtidhnmmhniiolaaDoor
