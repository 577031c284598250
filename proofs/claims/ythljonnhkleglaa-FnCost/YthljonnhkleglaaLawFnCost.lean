import Derived.Test.YthljonnhkleglaaPack0
import Derived.Test.YthljonnhkleglaaPack11
import Derived.Test.YthljonnhkleglaaPack14
import Derived.Test.YthljonnhkleglaaPack15
import Derived.Test.YthljonnhkleglaaPack17
import Derived.Test.YthljonnhkleglaaPack18
import Derived.Deep.CutRange
namespace Go.Proofs.Ythljonnhkleglaa
open Go.RowKit

set_option maxHeartbeats 400000 in
theorem lawFnCost_big (a : Option Addr) (c len : Nat) (w : World) (hl : len ≤ 9223372036854775807) (h : 1048576 < len) :
    Calls Try.prog 4 #[.slice a len c] w fun e w' => e = .returned (.bool true) ∧ Below w.heap.size w w' := by
  have hd : decide (1048576 < len) = true := decide_eq_true h
  go_enter Try.func4, Try.ntmps4
  go_wp2_with (go_at_call 7; refine (big_any a c len w hl).mono ?_; rintro e w1 ⟨rfl, hw1⟩; subst w1; rw [hd])
  go_ret
  exact ⟨rfl, Below.refl _ _⟩

/-- Inside the law: the case and the route in their boxes, their rows. -/
structure KC (w W : World) (k kr : Nat) (cs rs : Array Value) (g go gv : Nat) (zs O V : List Int) (ao : Option Addr) (L : List Int) : Prop where
  b : Below w.heap.size w W
  b1 : W.heap[k]? = some (.cells cs 30 (0, 0))
  b2 : W.heap[kr]? = some (.cells rs 44 (0, 0))
  iz : IntsAt W (some ⟨g, 0, none⟩) zs
  io : IntsAt W (some ⟨go, 0, none⟩) O
  iv : IntsAt W (some ⟨gv, 0, none⟩) V
  il : IntsAt W ao L
theorem KC.below {w W W' : World} {k kr : Nat} {cs rs : Array Value} {g go gv : Nat} {zs O V : List Int} {ao : Option Addr} {L : List Int} (h : KC w W k kr cs rs g go gv zs O V ao L) (hb : Below W.heap.size W W') : KC w W' k kr cs rs g go gv zs O V ao L :=
  ⟨h.b.trans (hb.mono h.b.size), below_row hb (row_lt h.b1) h.b1, below_row hb (row_lt h.b2) h.b2, h.iz.below hb, h.io.below hb, h.iv.below hb, h.il.below hb⟩

theorem KC.keep {w W : World} {k kr : Nat} {n fi veh : Int} {zl cg ko co kv cv m co2 sb so : Nat} {g go gv : Nat} {zs O V L : List Int} (h : KC w W k kr #[.int .i64 n, .slice (some ⟨g, 0, none⟩) zl cg, .slice (some ⟨go, 0, none⟩) ko co, .slice (some ⟨gv, 0, none⟩) kv cv, .int .i64 fi] #[.int .i64 veh, .slice (some ⟨sb, so, none⟩) m co2] g go gv zs O V (some ⟨sb, so, none⟩) L) {i : Nat} {id : Int} (hi : i < L.length) (hid : L.getD i 0 = id) : W.cell? ⟨k, 0, none⟩ = some (.int .i64 n) ∧ W.cell? ⟨k, 1, none⟩ = some (.slice (some ⟨g, 0, none⟩) zl cg) ∧ W.cell? ⟨k, 2, none⟩ = some (.slice (some ⟨go, 0, none⟩) ko co) ∧ W.cell? ⟨k, 3, none⟩ = some (.slice (some ⟨gv, 0, none⟩) kv cv) ∧ W.cell? ⟨k, 4, none⟩ = some (.int .i64 fi) ∧ W.cell? ⟨kr, 1, none⟩ = some (.slice (some ⟨sb, so, none⟩) m co2) ∧ W.cell? ⟨sb, so + i, none⟩ = some (.int .i64 id) := by
  obtain ⟨d0, d1, d2, d3, d4⟩ := cells5z h.b1
  obtain ⟨e0, e1⟩ := cells2 h.b2
  obtain ⟨_, _, e, hc⟩ := h.il i hi
  simp at e
  obtain ⟨rfl, rfl⟩ := e
  rw [hid] at hc
  exact ⟨d0, d1, d2, d3, d4, e1, hc⟩

set_option maxRecDepth 10000 in
set_option maxHeartbeats 8000000 in
theorem lawFnCost (a : Option Addr) (ca : Nat) (bs : List Int) (w : World) (hA : CodeAt w a bs) (hl : bs.length ≤ 1048576) :
    Calls Try.prog 4 #[.slice a bs.length ca] w fun e w' => e = .returned (.bool true) ∧ Below w.heap.size w w' := by
  have HA : Hid (CodeAt w a bs) := hA
  clear hA
  have hd : decide (1048576 < bs.length) = false := decide_eq_false (by omega)
  go_enter Try.func4, Try.ntmps4
  go_wp2_with fail
  refine (big_any a ca bs.length w (by omega)).mono ?_
  rintro e w1 ⟨rfl, hw1⟩
  subst w1
  rw [hd]
  clear hd
  go_wp2_with fail
  refine (drawCost_any a ca bs w HA.out hl).mono ?_
  rintro e w1 ⟨n, g, zl, cg, go, ko, co, gv, kv, cv, zs, O, V, L, fi, veh, ao, m, co2, rfl, ⟨hz, hO, hV, hko1, hko5, hkv1, hkv3⟩, ⟨hm, hm4, hmc⟩, hb, iz, io, iv, il, -⟩
  obtain ⟨N, HLb⟩ : ∃ v, Hid (bs.length = v) := ⟨_, rfl⟩
  rw [HLb.out] at hl ⊢
  have HM : Hid (L.length = m) := hm
  have HZ : Hid (zs.length = zl) := hz
  have HO : Hid (O.length = ko * 6) := hO
  have HV : Hid (V.length = kv * 5) := hV
  have K1 : Hid (KC w ((w1.alloc (.cells #[.int .i64 n, .slice (some ⟨g, 0, none⟩) zl cg, .slice (some ⟨go, 0, none⟩) ko co, .slice (some ⟨gv, 0, none⟩) kv cv, .int .i64 fi] 30)).alloc (.cells #[.int .i64 veh, .slice ao m co2] 44)) w1.heap.size (w1.heap.size + 1) #[.int .i64 n, .slice (some ⟨g, 0, none⟩) zl cg, .slice (some ⟨go, 0, none⟩) ko co, .slice (some ⟨gv, 0, none⟩) kv cv, .int .i64 fi] #[.int .i64 veh, .slice ao m co2] g go gv zs O V ao L) := by
    have ha : Below w1.heap.size w1 ((w1.alloc (.cells #[.int .i64 n, .slice (some ⟨g, 0, none⟩) zl cg, .slice (some ⟨go, 0, none⟩) ko co, .slice (some ⟨gv, 0, none⟩) kv cv, .int .i64 fi] 30)).alloc (.cells #[.int .i64 veh, .slice ao m co2] 44)) := ((Below.refl _ _).alloc (Nat.le_refl _) _).alloc (by simp) _
    exact ⟨hb.trans (ha.mono hb.size), heap_alloc2_old _ _ _, heap_alloc2_new _ _ _, iz.below ha, io.below ha, iv.below ha, il.below ha⟩
  clear hz hO hV hm hb iz io iv il
  obtain ⟨cb, HCB⟩ : ∃ v, Hid (caseB n zs O V ko kv fi = v) := ⟨_, rfl⟩
  obtain ⟨v, HVV⟩ : ∃ x, Hid (costV cb n zs O V ko kv veh L = x) := ⟨_, rfl⟩
  obtain ⟨u, HUU⟩ : ∃ x, Hid (waitV cb n zs O V ko kv veh L = x) := ⟨_, rfl⟩
  have ICO : Hid (∀ W k kr, KC w W k kr #[.int .i64 n, .slice (some ⟨g, 0, none⟩) zl cg, .slice (some ⟨go, 0, none⟩) ko co, .slice (some ⟨gv, 0, none⟩) kv cv, .int .i64 fi] #[.int .i64 veh, .slice ao m co2] g go gv zs O V ao L → Calls Try.prog 15 #[.agg #[.int .i64 n, .slice (some ⟨g, 0, none⟩) zl cg, .slice (some ⟨go, 0, none⟩) ko co, .slice (some ⟨gv, 0, none⟩) kv cv, .int .i64 fi], .agg #[.int .i64 veh, .slice ao m co2]] W fun e w' => e = .returned (.int .i64 v) ∧ Below W.heap.size W w') := fun W k kr h => by
    have := implCost_any n fi veh (some ⟨g, 0, none⟩) (some ⟨go, 0, none⟩) (some ⟨gv, 0, none⟩) ao cg ko co kv cv co2 zs O V L W h.iz h.io h.iv h.il HO.out HV.out (by omega) (by omega) (by rw [HM.out]; omega) (by rw [HM.out]; exact hmc)
    rw [HZ.out, HM.out, HCB.out, HVV.out] at this
    exact this
  have SCO : Hid (∀ W k kr, KC w W k kr #[.int .i64 n, .slice (some ⟨g, 0, none⟩) zl cg, .slice (some ⟨go, 0, none⟩) ko co, .slice (some ⟨gv, 0, none⟩) kv cv, .int .i64 fi] #[.int .i64 veh, .slice ao m co2] g go gv zs O V ao L → Calls Try.prog 17 #[.agg #[.int .i64 n, .slice (some ⟨g, 0, none⟩) zl cg, .slice (some ⟨go, 0, none⟩) ko co, .slice (some ⟨gv, 0, none⟩) kv cv, .int .i64 fi], .agg #[.int .i64 veh, .slice ao m co2]] W fun e w' => e = .returned (.int .i64 v) ∧ Below W.heap.size W w') := fun W k kr h => by
    have := specCost_any n fi veh (some ⟨g, 0, none⟩) (some ⟨go, 0, none⟩) (some ⟨gv, 0, none⟩) ao cg ko co kv cv co2 zs O V L W h.iz h.io h.iv h.il HO.out HV.out (by omega) (by omega) (by rw [HM.out]; omega) (by rw [HM.out]; exact hmc)
    rw [HZ.out, HM.out, HCB.out, HVV.out] at this
    exact this
  have IWA : Hid (∀ W k kr, KC w W k kr #[.int .i64 n, .slice (some ⟨g, 0, none⟩) zl cg, .slice (some ⟨go, 0, none⟩) ko co, .slice (some ⟨gv, 0, none⟩) kv cv, .int .i64 fi] #[.int .i64 veh, .slice ao m co2] g go gv zs O V ao L → Calls Try.prog 16 #[.agg #[.int .i64 n, .slice (some ⟨g, 0, none⟩) zl cg, .slice (some ⟨go, 0, none⟩) ko co, .slice (some ⟨gv, 0, none⟩) kv cv, .int .i64 fi], .agg #[.int .i64 veh, .slice ao m co2]] W fun e w' => e = .returned (.int .i64 u) ∧ Below W.heap.size W w') := fun W k kr h => by
    have := implWait_any n fi veh (some ⟨g, 0, none⟩) (some ⟨go, 0, none⟩) (some ⟨gv, 0, none⟩) ao cg ko co kv cv co2 zs O V L W h.iz h.io h.iv h.il HO.out HV.out (by omega) (by omega) (by rw [HM.out]; omega) (by rw [HM.out]; exact hmc)
    rw [HZ.out, HM.out, HCB.out, HUU.out] at this
    exact this
  have SWA : Hid (∀ W k kr, KC w W k kr #[.int .i64 n, .slice (some ⟨g, 0, none⟩) zl cg, .slice (some ⟨go, 0, none⟩) ko co, .slice (some ⟨gv, 0, none⟩) kv cv, .int .i64 fi] #[.int .i64 veh, .slice ao m co2] g go gv zs O V ao L → Calls Try.prog 18 #[.agg #[.int .i64 n, .slice (some ⟨g, 0, none⟩) zl cg, .slice (some ⟨go, 0, none⟩) ko co, .slice (some ⟨gv, 0, none⟩) kv cv, .int .i64 fi], .agg #[.int .i64 veh, .slice ao m co2]] W fun e w' => e = .returned (.int .i64 u) ∧ Below W.heap.size W w') := fun W k kr h => by
    have := specWait_any n fi veh (some ⟨g, 0, none⟩) (some ⟨go, 0, none⟩) (some ⟨gv, 0, none⟩) ao cg ko co kv cv co2 zs O V L W h.iz h.io h.iv h.il HO.out HV.out (by omega) (by omega) (by rw [HM.out]; omega) (by rw [HM.out]; exact hmc)
    rw [HZ.out, HM.out, HCB.out, HUU.out] at this
    exact this
  have hvv : (v != v) = false := by simp
  have hve : (v == v) = true := by simp
  have huu : (u != u) = false := by simp
  have hue : (u == u) = true := by simp
  obtain ⟨d0, d1, d2, d3, d4⟩ := cells5z K1.out.b1
  obtain ⟨e0, e1⟩ := cells2 K1.out.b2
  go_wp2_with fail
  generalize (w1.alloc (.cells #[.int .i64 n, .slice (some ⟨g, 0, none⟩) zl cg, .slice (some ⟨go, 0, none⟩) ko co, .slice (some ⟨gv, 0, none⟩) kv cv, .int .i64 fi] 30)).alloc (.cells #[.int .i64 veh, .slice ao m co2] 44) = W1 at *
  obtain ⟨k, HK⟩ : ∃ v, Hid (w1.heap.size = v) := ⟨_, rfl⟩
  rw [HK.out] at K1 d0 d1 d2 d3 d4 e0 e1 ⊢
  obtain ⟨kr, HKR⟩ : ∃ v, Hid (k + 1 = v) := ⟨_, rfl⟩
  rw [HKR.out] at K1 e0 e1 ⊢
  refine (ICO.out _ _ _ K1.out).mono ?_
  rintro e w2 ⟨rfl, hb⟩
  have K2 : Hid (KC w w2 k kr #[.int .i64 n, .slice (some ⟨g, 0, none⟩) zl cg, .slice (some ⟨go, 0, none⟩) ko co, .slice (some ⟨gv, 0, none⟩) kv cv, .int .i64 fi] #[.int .i64 veh, .slice ao m co2] g go gv zs O V ao L) := K1.out.below hb
  clear hb K1 d0 d1 d2 d3 d4 e0 e1
  obtain ⟨d0, d1, d2, d3, d4⟩ := cells5z K2.out.b1
  obtain ⟨e0, e1⟩ := cells2 K2.out.b2
  go_wp2_with fail
  refine (IWA.out _ _ _ K2.out).mono ?_
  rintro e w3 ⟨rfl, hb⟩
  have K3 : Hid (KC w w3 k kr #[.int .i64 n, .slice (some ⟨g, 0, none⟩) zl cg, .slice (some ⟨go, 0, none⟩) ko co, .slice (some ⟨gv, 0, none⟩) kv cv, .int .i64 fi] #[.int .i64 veh, .slice ao m co2] g go gv zs O V ao L) := K2.out.below hb
  clear hb K2 d0 d1 d2 d3 d4 e0 e1
  obtain ⟨d0, d1, d2, d3, d4⟩ := cells5z K3.out.b1
  obtain ⟨e0, e1⟩ := cells2 K3.out.b2
  go_wp2_with fail
  refine (SCO.out _ _ _ K3.out).mono ?_
  rintro e w4 ⟨rfl, hb⟩
  have K4 : Hid (KC w w4 k kr #[.int .i64 n, .slice (some ⟨g, 0, none⟩) zl cg, .slice (some ⟨go, 0, none⟩) ko co, .slice (some ⟨gv, 0, none⟩) kv cv, .int .i64 fi] #[.int .i64 veh, .slice ao m co2] g go gv zs O V ao L) := K3.out.below hb
  clear hb K3 d0 d1 d2 d3 d4 e0 e1
  obtain ⟨d0, d1, d2, d3, d4⟩ := cells5z K4.out.b1
  obtain ⟨e0, e1⟩ := cells2 K4.out.b2
  go_wp2_with fail
  refine (SWA.out _ _ _ K4.out).mono ?_
  rintro e w5 ⟨rfl, hb⟩
  have K5 : Hid (KC w w5 k kr #[.int .i64 n, .slice (some ⟨g, 0, none⟩) zl cg, .slice (some ⟨go, 0, none⟩) ko co, .slice (some ⟨gv, 0, none⟩) kv cv, .int .i64 fi] #[.int .i64 veh, .slice ao m co2] g go gv zs O V ao L) := K4.out.below hb
  clear hb K4 d0 d1 d2 d3 d4 e0 e1
  obtain ⟨d0, d1, d2, d3, d4⟩ := cells5z K5.out.b1
  obtain ⟨e0, e1⟩ := cells2 K5.out.b2
  by_cases hneg : v < 0
  · go_wp2_with fail
    refine (SCO.out _ _ _ K5.out).mono ?_
    rintro e w6 ⟨rfl, hb⟩
    have K6 : Hid (KC w w6 k kr #[.int .i64 n, .slice (some ⟨g, 0, none⟩) zl cg, .slice (some ⟨go, 0, none⟩) ko co, .slice (some ⟨gv, 0, none⟩) kv cv, .int .i64 fi] #[.int .i64 veh, .slice ao m co2] g go gv zs O V ao L) := K5.out.below hb
    clear hb K5 d0 d1 d2 d3 d4 e0 e1
    obtain ⟨d0, d1, d2, d3, d4⟩ := cells5z K6.out.b1
    obtain ⟨e0, e1⟩ := cells2 K6.out.b2
    go_wp2_with fail
    refine (SWA.out _ _ _ K6.out).mono ?_
    rintro e w7 ⟨rfl, hb⟩
    have K7 : Hid (KC w w7 k kr #[.int .i64 n, .slice (some ⟨g, 0, none⟩) zl cg, .slice (some ⟨go, 0, none⟩) ko co, .slice (some ⟨gv, 0, none⟩) kv cv, .int .i64 fi] #[.int .i64 veh, .slice ao m co2] g go gv zs O V ao L) := K6.out.below hb
    clear hb K6 d0 d1 d2 d3 d4 e0 e1
    go_wp2
    go_ret
    exact ⟨by first | rfl | simp, K7.out.b⟩
  · have hng : decide (v < 0) = false := decide_eq_false hneg
    have hcode : codeV cb n zs O V ko kv veh L = 0 := by
      have h1 := HVV.out
      by_cases hc : codeV cb n zs O V ko kv veh L = 0
      · exact hc
      · rw [costV_no hc] at h1
        omega
    have hcbt : cb = true := (formV_zero (codeV_zero hcode).1).1
    subst hcbt
    have HCO : Hid (codeV true n zs O V ko kv veh L = 0) := hcode
    have HMB : Hid (matB n zs = true) := by
      have h := HCB.out
      unfold caseB at h
      simp only [Bool.and_eq_true] at h
      exact h.1.1.1
    have hn1 : 1 ≤ n := (matB_true HMB.out).1
    obtain ⟨ros, HROS⟩ : ∃ r, Hid (rosOf O ko L = r) := ⟨_, rfl⟩
    obtain ⟨hm0, HHM⟩ : ∃ x, Hid (fnd5F V kv veh 1 = x) := ⟨_, rfl⟩
    obtain ⟨fr, HFR⟩ : ∃ x, Hid (fnd5F V kv veh 3 = x) := ⟨_, rfl⟩
    have hvb := fnd5F_bd (caseB_vehs HCB.out) hn1 veh
    rw [HHM.out, HFR.out] at hvb
    have HRB : Hid (RosBd n ros m) := by have := rosBd_of (caseB_ords HCB.out) hn1 L; rw [HROS.out, HM.out] at this; exact this
    have HVR : Hid (v = rideV n zs ros m hm0) := by show v = _; rw [← HVV.out, costV_yes HCO.out, HROS.out, HHM.out, HM.out]
    have HUW : Hid (u = waitTo n zs ros hm0 fr m) := by show u = _; rw [← HUU.out, waitV_yes HCO.out, HROS.out, HHM.out, HFR.out, HM.out]
    have HOG : Hid (∀ i f, i < m → f < 6 → fnd6F O ko (L.getD i 0) f = og6 ros i f) := fun i f hi hf => by rw [← HROS.out]; exact (rosOf_at O ko L (by rw [HM.out]; exact hi) hf).symm
    clear hneg hcode
    have IVE : Hid (∀ W, KC w W k kr #[.int .i64 n, .slice (some ⟨g, 0, none⟩) zl cg, .slice (some ⟨go, 0, none⟩) ko co, .slice (some ⟨gv, 0, none⟩) kv cv, .int .i64 fi] #[.int .i64 veh, .slice ao m co2] g go gv zs O V ao L → Calls Try.prog 13 #[.agg #[.int .i64 n, .slice (some ⟨g, 0, none⟩) zl cg, .slice (some ⟨go, 0, none⟩) ko co, .slice (some ⟨gv, 0, none⟩) kv cv, .int .i64 fi], .int .i64 veh] W fun e w' => (∃ x0 x2 x4 t, e = .returned (.tuple #[.agg #[.int .i64 x0, .int .i64 hm0, .int .i64 x2, .int .i64 fr, .int .i64 x4], .bool t])) ∧ Below W.heap.size W w') := fun W h => by
      have := implVehOf_any n fi veh (some ⟨g, 0, none⟩) (some ⟨go, 0, none⟩) (some ⟨gv, 0, none⟩) cg ko co kv cv zs O V W h.iz h.io h.iv HO.out HV.out (by omega) (by omega)
      rw [HZ.out, HCB.out] at this
      have g1 : got5F true V kv veh 1 = hm0 := by unfold got5F; rw [if_pos rfl]; exact HHM.out
      have g3 : got5F true V kv veh 3 = fr := by unfold got5F; rw [if_pos rfl]; exact HFR.out
      rw [g1, g3] at this
      exact this.mono fun e w' h => ⟨⟨_, _, _, _, h.1⟩, h.2⟩
    clear SCO SWA ICO IWA
    go_wp2_with fail
    refine (IVE.out _ K5.out).mono ?_
    rintro e w6 ⟨⟨x0, x2, x4, tv, rfl⟩, hb⟩
    have K6 : Hid (KC w w6 k kr #[.int .i64 n, .slice (some ⟨g, 0, none⟩) zl cg, .slice (some ⟨go, 0, none⟩) ko co, .slice (some ⟨gv, 0, none⟩) kv cv, .int .i64 fi] #[.int .i64 veh, .slice ao m co2] g go gv zs O V ao L) := K5.out.below hb
    clear hb K5 d0 d1 d2 d3 d4 e0 e1 IVE
    have K7 : Hid (KC w (w6.alloc (Obj.cells #[Value.int IntKind.i64 x0, Value.int IntKind.i64 hm0, Value.int IntKind.i64 x2, Value.int IntKind.i64 fr, Value.int IntKind.i64 x4] 40)) k kr #[.int .i64 n, .slice (some ⟨g, 0, none⟩) zl cg, .slice (some ⟨go, 0, none⟩) ko co, .slice (some ⟨gv, 0, none⟩) kv cv, .int .i64 fi] #[.int .i64 veh, .slice ao m co2] g go gv zs O V ao L ∧ (w6.alloc (Obj.cells #[Value.int IntKind.i64 x0, Value.int IntKind.i64 hm0, Value.int IntKind.i64 x2, Value.int IntKind.i64 fr, Value.int IntKind.i64 x4] 40)).heap[w6.heap.size]? = some (.cells #[Value.int IntKind.i64 x0, Value.int IntKind.i64 hm0, Value.int IntKind.i64 x2, Value.int IntKind.i64 fr, Value.int IntKind.i64 x4] 40 (0, 0))) := ⟨K6.out.below ((Below.refl _ _).alloc (Nat.le_refl _) _), heap_alloc_new _ _⟩
    clear K6
    go_upto_region 9 with fail
    generalize w6.alloc (Obj.cells #[Value.int IntKind.i64 x0, Value.int IntKind.i64 hm0, Value.int IntKind.i64 x2, Value.int IntKind.i64 fr, Value.int IntKind.i64 x4] 40) = W7 at *
    obtain ⟨k7, HK7⟩ : ∃ v, Hid (w6.heap.size = v) := ⟨_, rfl⟩
    rw [HK7.out] at K7 ⊢
    obtain ⟨y0, y1, y2, y3, y4⟩ := cells5z K7.out.2
    have O8 : Hid (Below W7.heap.size W7 (W7.alloc (Obj.cells #[Value.int IntKind.i64 hm0] 2)) ∧ (W7.alloc (Obj.cells #[Value.int IntKind.i64 hm0] 2)).ownsRow W7.heap.size 2 1 (.slice (some ⟨W7.heap.size, 0, none⟩) 1 1) 1 ((pthL ros hm0 0).map (Value.int .i64))) := ⟨(Below.refl _ _).alloc (Nat.le_refl _) _, ⟨by simp [pthL], .inr ⟨W7.heap.size, 1, #[.int .i64 hm0], rfl, Nat.le_refl _, heap_alloc_new _ _, Nat.le_refl _, by unfold maxLen; omega, by simp, by simp [pthL]⟩⟩⟩
    go_wp2_with fail
    clear y0 y1 y2 y3 y4
    generalize W7.alloc (Obj.cells #[Value.int IntKind.i64 hm0] 2) = W8 at *
    go_loopw [9, 10, 11] (fun sl sv t wr => ∃ i : Nat, i ≤ m ∧ t = .int .i64 i ∧ sv = .int .i64 (serveTo ros i) ∧ Below W7.heap.size W7 wr ∧ wr.ownsRow W7.heap.size 2 1 sl (i + 1) ((pthL ros hm0 i).map (Value.int .i64))) (fun _ _ t _ => m - (intOf t).toNat)
    case atStart => exact ⟨0, Nat.zero_le _, rfl, rfl, O8.out.1, O8.out.2⟩
    case round =>
      clear O8
      obtain ⟨i, hi, rfl, rfl, hbw, how⟩ := hrel
      obtain ⟨gp, cp, e, -⟩ := own_some how
      subst e
      have HBW : Hid (Below W7.heap.size W7 wr) := hbw
      have HOW : Hid (wr.ownsRow W7.heap.size 2 1 (.slice (some ⟨gp, 0, none⟩) (i + 1) cp) (i + 1) ((pthL ros hm0 i).map (Value.int .i64))) := how
      have KR : Hid (KC w wr k kr #[.int .i64 n, .slice (some ⟨g, 0, none⟩) zl cg, .slice (some ⟨go, 0, none⟩) ko co, .slice (some ⟨gv, 0, none⟩) kv cv, .int .i64 fi] #[.int .i64 veh, .slice ao m co2] g go gv zs O V ao L) := K7.out.1.below hbw
      clear hbw how
      obtain ⟨d0, d1, d2, d3, d4⟩ := cells5z KR.out.b1
      obtain ⟨e0, e1⟩ := cells2 KR.out.b2
      obtain ⟨sv0, HSV0⟩ : ∃ x, Hid (serveTo ros i = x) := ⟨_, rfl⟩
      have hsb := serveTo_bd HRB.out i hi
      rw [HSV0.out] at hsb ⊢
      by_cases hlt : i < m
      · obtain ⟨sb, so, e, hcs⟩ := KR.out.il.some (j := i) (by rw [HM.out]; exact hlt)
        have hid := hcs i (by rw [HM.out]; exact hlt)
        clear hcs
        obtain ⟨id, HID⟩ : ∃ x, Hid (L.getD i 0 = x) := ⟨_, rfl⟩
        rw [HID.out] at hid
        have hltI : (i : Int) < (m : Int) := by omega
        obtain ⟨x1, HX1⟩ : ∃ x, Hid (og6 ros i 1 = x) := ⟨_, rfl⟩
        obtain ⟨x5, HX5⟩ : ∃ x, Hid (og6 ros i 5 = x) := ⟨_, rfl⟩
        have IOO : Hid (∀ W, KC w W k kr #[.int .i64 n, .slice (some ⟨g, 0, none⟩) zl cg, .slice (some ⟨go, 0, none⟩) ko co, .slice (some ⟨gv, 0, none⟩) kv cv, .int .i64 fi] #[.int .i64 veh, .slice ao m co2] g go gv zs O V ao L → Calls Try.prog 12 #[.agg #[.int .i64 n, .slice (some ⟨g, 0, none⟩) zl cg, .slice (some ⟨go, 0, none⟩) ko co, .slice (some ⟨gv, 0, none⟩) kv cv, .int .i64 fi], .int .i64 id] W fun e w' => (∃ t, e = .returned (.tuple #[.agg #[.int .i64 (fnd6F O ko id 0), .int .i64 x1, .int .i64 (fnd6F O ko id 2), .int .i64 (fnd6F O ko id 3), .int .i64 (fnd6F O ko id 4), .int .i64 x5], .bool t])) ∧ Below W.heap.size W w') := fun W h => by
          have := implOrdOf_any n fi id (some ⟨g, 0, none⟩) (some ⟨go, 0, none⟩) (some ⟨gv, 0, none⟩) cg ko co kv cv zs O V W h.iz h.io h.iv HO.out HV.out (by omega) (by omega)
          rw [HZ.out, HCB.out] at this
          have gf : ∀ f, got6F true O ko id f = fnd6F O ko id f := fun f => by unfold got6F; rw [if_pos rfl]
          simp only [gf] at this
          have q1 := HOG.out i 1 hlt (by omega)
          have q5 := HOG.out i 5 hlt (by omega)
          rw [HID.out] at q1 q5
          rw [HX1.out] at q1
          rw [HX5.out] at q5
          rw [q1, q5] at this
          exact this.mono fun e w' h => ⟨⟨_, h.1⟩, h.2⟩
        obtain ⟨x0, HX0⟩ : ∃ x, Hid (fnd6F O ko id 0 = x) := ⟨_, rfl⟩
        obtain ⟨x2, HX2⟩ : ∃ x, Hid (fnd6F O ko id 2 = x) := ⟨_, rfl⟩
        obtain ⟨x3, HX3⟩ : ∃ x, Hid (fnd6F O ko id 3 = x) := ⟨_, rfl⟩
        obtain ⟨x4, HX4⟩ : ∃ x, Hid (fnd6F O ko id 4 = x) := ⟨_, rfl⟩
        rw [HX0.out, HX2.out, HX3.out, HX4.out] at IOO
        subst e
        go_upto_region 14 with fail
        go_cut [12, 13] from 68 to 93 (fun s12 s13 wx => ∃ kb : Nat, s12 = .pointer (some ⟨kb, 0, none⟩) ∧ (∃ t, s13 = .bool t) ∧ Below wr.heap.size wr wx ∧ wx.heap[kb]? = some (.cells #[Value.int IntKind.i64 x0, Value.int IntKind.i64 x1, Value.int IntKind.i64 x2, Value.int IntKind.i64 x3, Value.int IntKind.i64 x4, Value.int IntKind.i64 x5] 36 (0, 0)))
        case first =>
          have HIL : Hid (i < L.length) := by show _ < _; rw [HM.out]; exact hlt
          have kS := KC.keep (KR.out.below (Below.refl _ _).drew) HIL.out HID.out
          have k0 := KC.keep (KR.out.below ((Below.refl _ _).alloc (Nat.le_refl _) (Obj.cells #[Value.int IntKind.i64 0, Value.int IntKind.i64 0, Value.int IntKind.i64 0, Value.int IntKind.i64 0, Value.int IntKind.i64 0, Value.int IntKind.i64 0] 36)).drew) HIL.out HID.out
          clear d0 d1 d2 d3 d4 e0 e1 hid
          go_region_held3 (fun W => W.cell? ⟨k, 0, none⟩ = some (.int .i64 n) ∧ W.cell? ⟨k, 1, none⟩ = some (.slice (some ⟨g, 0, none⟩) zl cg) ∧ W.cell? ⟨k, 2, none⟩ = some (.slice (some ⟨go, 0, none⟩) ko co) ∧ W.cell? ⟨k, 3, none⟩ = some (.slice (some ⟨gv, 0, none⟩) kv cv) ∧ W.cell? ⟨k, 4, none⟩ = some (.int .i64 fi) ∧ W.cell? ⟨kr, 1, none⟩ = some (.slice (some ⟨sb, so, none⟩) m co2) ∧ W.cell? ⟨sb, so + i, none⟩ = some (.int .i64 id)) (first | with_reducible exact kS | with_reducible exact k0 | with_reducible exact kB | with_reducible exact kA | with_reducible exact kT | go_keep) ((first
            | (go_at_call 12
               with_reducible refine (IOO.out wr.drew (KR.out.below (Below.refl _ _).drew)).mono ?_
               rintro e wa ⟨⟨t, rfl⟩, hb⟩
               have HBA : Hid (Below wr.heap.size wr wa) := ((Below.refl wr.heap.size wr).drew).trans (hb.mono (Nat.le_refl _))
               have kS := KC.keep (KR.out.below HBA.out) HIL.out HID.out
               have kB := KC.keep (KR.out.below (HBA.out.alloc HBA.out.size (Obj.cells #[Value.int IntKind.i64 0, Value.int IntKind.i64 0, Value.int IntKind.i64 0, Value.int IntKind.i64 0, Value.int IntKind.i64 0, Value.int IntKind.i64 0] 36))) HIL.out HID.out
               have kA := KC.keep (KR.out.below (HBA.out.alloc HBA.out.size (Obj.cells #[Value.int IntKind.i64 x0, Value.int IntKind.i64 x1, Value.int IntKind.i64 x2, Value.int IntKind.i64 x3, Value.int IntKind.i64 x4, Value.int IntKind.i64 x5] 36))) HIL.out HID.out
               clear hb)
            | (go_at_call 12
               with_reducible refine (IOO.out (wr.alloc (Obj.cells #[Value.int IntKind.i64 0, Value.int IntKind.i64 0, Value.int IntKind.i64 0, Value.int IntKind.i64 0, Value.int IntKind.i64 0, Value.int IntKind.i64 0] 36)).drew (KR.out.below ((Below.refl _ _).alloc (Nat.le_refl _) _).drew)).mono ?_
               rintro e wa ⟨⟨t, rfl⟩, hb⟩
               have hbx : wa.heap[wr.heap.size]? = some (.cells #[Value.int IntKind.i64 0, Value.int IntKind.i64 0, Value.int IntKind.i64 0, Value.int IntKind.i64 0, Value.int IntKind.i64 0, Value.int IntKind.i64 0] 36 (0, 0)) := below_row hb (by simp) (heap_alloc_new _ _)
               obtain ⟨z0, z1, z2, z3, z4, z5⟩ := cells6z hbx
               have zf := fun i => frozen_of_row _ _ i _ _ hbx
               have hwa : Below wr.heap.size wr wa := (((Below.refl wr.heap.size wr).alloc (Nat.le_refl _) (Obj.cells #[Value.int IntKind.i64 0, Value.int IntKind.i64 0, Value.int IntKind.i64 0, Value.int IntKind.i64 0, Value.int IntKind.i64 0, Value.int IntKind.i64 0] 36)).drew).trans (hb.mono (by simp))
               have HB6 : Hid (Below wr.heap.size wr ((((((wa.setCell ⟨wr.heap.size, 0, none⟩ (.int .i64 x0)).setCell ⟨wr.heap.size, 1, none⟩ (.int .i64 x1)).setCell ⟨wr.heap.size, 2, none⟩ (.int .i64 x2)).setCell ⟨wr.heap.size, 3, none⟩ (.int .i64 x3)).setCell ⟨wr.heap.size, 4, none⟩ (.int .i64 x4)).setCell ⟨wr.heap.size, 5, none⟩ (.int .i64 x5))) := ((((((hwa.setCell (by simp) _).setCell (by simp) _).setCell (by simp) _).setCell (by simp) _).setCell (by simp) _).setCell (by simp) _)
               have HR6 : Hid (((((((wa.setCell ⟨wr.heap.size, 0, none⟩ (.int .i64 x0)).setCell ⟨wr.heap.size, 1, none⟩ (.int .i64 x1)).setCell ⟨wr.heap.size, 2, none⟩ (.int .i64 x2)).setCell ⟨wr.heap.size, 3, none⟩ (.int .i64 x3)).setCell ⟨wr.heap.size, 4, none⟩ (.int .i64 x4)).setCell ⟨wr.heap.size, 5, none⟩ (.int .i64 x5)).heap[wr.heap.size]? = some (.cells #[Value.int IntKind.i64 x0, Value.int IntKind.i64 x1, Value.int IntKind.i64 x2, Value.int IntKind.i64 x3, Value.int IntKind.i64 x4, Value.int IntKind.i64 x5] 36 (0, 0))) := by
                 have := row_put (i := 5) (.int .i64 x5) (row_put (i := 4) (.int .i64 x4) (row_put (i := 3) (.int .i64 x3) (row_put (i := 2) (.int .i64 x2) (row_put (i := 1) (.int .i64 x1) (row_put (i := 0) (.int .i64 x0) hbx)))))
                 show _ = _
                 simpa using this
               have kS := KC.keep (KR.out.below hwa) HIL.out HID.out
               have kT := KC.keep (KR.out.below HB6.out) HIL.out HID.out
               clear hb hbx hwa)))
          all_goals (try go_wp2_with fail)
          all_goals go_meet
          all_goals first
            | with_reducible exact ⟨_, rfl, ⟨_, rfl⟩, HB6.out, HR6.out⟩
            | with_reducible exact ⟨_, rfl, ⟨_, rfl⟩, HBA.out.alloc HBA.out.size _, heap_alloc_new _ _⟩
        case rest =>
          clear d0 d1 d2 d3 d4 e0 e1 hid IOO
          obtain ⟨kb, rfl, ⟨t13, rfl⟩, hbx, hx⟩ := hcut
          have HBX : Hid (Below wr.heap.size wr wc) := hbx
          obtain ⟨o0, o1, o2, o3, o4, o5⟩ := cells6z hx
          have HXR : Hid (wc.heap[kb]? = some (.cells #[Value.int IntKind.i64 x0, Value.int IntKind.i64 x1, Value.int IntKind.i64 x2, Value.int IntKind.i64 x3, Value.int IntKind.i64 x4, Value.int IntKind.i64 x5] 36 (0, 0))) := hx
          have HO9 : Hid (wc.ownsRow W7.heap.size 2 1 (.slice (some ⟨gp, 0, none⟩) (i + 1) cp) (i + 1) ((pthL ros hm0 i).map (Value.int .i64))) := owns_below HOW.out hbx
          have HS9 : Hid (W7.heap.size ≤ wc.heap.size) := Nat.le_trans HBW.out.size hbx.size
          have HGK : Hid (gp ≠ kb) := by
            intro e9
            obtain ⟨_, ⟨h9, _⟩ | ⟨g9, cap9, cur9, h9, _, h9r, _⟩⟩ := HO9.out
            · cases h9
            · injection h9 with h9a
              injection h9a with h9b
              injection h9b with h9c
              rw [← h9c, e9, hx] at h9r
              injection h9r with h9r
              injection h9r with _ h9t
              exact absurd h9t (by decide)
          clear hbx hx
          have hw5 : wrap64 (sv0 + x5) = sv0 + x5 := by
            have hr5 := (HRB.out i hlt)
            rw [HX5.out] at hr5
            exact IntWalk.wrap64_in _ (by omega)
          have hw6 : IntKind.i64.wrap (sv0 + x5) = sv0 + x5 := by
            have hr5 := (HRB.out i hlt)
            rw [HX5.out] at hr5
            rw [IntKind.wrap_i64]; omega
          go_wp2_with (
            at_builtin
            refine append_many _ rfl _ _ rfl W7.heap.size _ (i + 1) (pthL ros hm0 i) rfl (HO9.out.alloc _) wc.heap.size 0 1 1 [x1] rfl rfl (ints_new1 wc x1) (by omega) (by omega) (Nat.le_trans HS9.out (by simp)) ?_
            intro v' w9 hown hg _ hnl
            have hBC : Below wr.heap.size wr (wc.alloc (Obj.cells #[Value.int IntKind.i64 x1] 2)) := HBX.out.alloc HBX.out.size _
            have HB9 : Hid (Below W7.heap.size W7 w9) := (HBW.out.trans (hBC.mono HBW.out.size)).grown hg (Nat.le_trans HS9.out (by simp)) (fun r e => (HO9.out.lt r e).1)
            have HO10 : Hid (w9.ownsRow W7.heap.size 2 1 v' (i + 1 + 1) ((pthL ros hm0 (i + 1)).map (Value.int .i64))) := by show World.ownsRow _ _ _ _ _ _ _; rw [pthL, HX1.out]; exact hown
            have hrow9 := grown_row hg (below_row ((Below.refl wc.heap.size wc).alloc (Nat.le_refl _) _) (row_lt HXR.out) HXR.out) (fun e => HGK.out (by injection e with e; exact e.symm))
            obtain ⟨q0, q1, q2, q3, q4, q5⟩ := cells6z hrow9
            clear hown hg hnl hBC hrow9)
          go_roundw
          case rel => exact ⟨i + 1, by omega, by first | rfl | go_num, by show Value.int .i64 _ = _; rw [serveTo, HSV0.out, HX5.out], HB9.out, HO10.out⟩
          case measure => simp [intOf]; omega
      · have him : i = m := by omega
        subst him
        clear hlt hi
        obtain ⟨hmv, HHV⟩ : ∃ x, Hid (homeV n zs ros i hm0 fr = x) := ⟨_, rfl⟩
        have ISC : Hid (∀ W, KC w W k kr #[.int .i64 n, .slice (some ⟨g, 0, none⟩) zl cg, .slice (some ⟨go, 0, none⟩) ko co, .slice (some ⟨gv, 0, none⟩) kv cv, .int .i64 fi] #[.int .i64 veh, .slice ao i co2] g go gv zs O V ao L → Calls Try.prog 19 #[.agg #[.int .i64 n, .slice (some ⟨g, 0, none⟩) zl cg, .slice (some ⟨go, 0, none⟩) ko co, .slice (some ⟨gv, 0, none⟩) kv cv, .int .i64 fi], .agg #[.int .i64 veh, .slice ao i co2]] W fun e w' => (∃ sl, e = .returned (.tuple #[sl, .int .i64 hmv, .int .i64 0])) ∧ Below W.heap.size W w') := fun W h => by
          have := implSchedule_any n fi veh (some ⟨g, 0, none⟩) (some ⟨go, 0, none⟩) (some ⟨gv, 0, none⟩) ao cg ko co kv cv co2 zs O V L W h.iz h.io h.iv h.il HO.out HV.out (by omega) (by omega) (by rw [HM.out]; omega) (by rw [HM.out]; exact hmc)
          rw [HZ.out, HM.out, HCB.out] at this
          refine this.mono ?_
          rintro e w' ⟨hb, ⟨hc, _⟩ | ⟨_, sl, rfl, _⟩⟩
          · exact absurd HCO.out hc
          · exact ⟨⟨sl, by rw [HROS.out, HHM.out, HFR.out, HHV.out]⟩, hb⟩
        go_wp2_with fail
        refine (ISC.out _ KR.out).mono ?_
        rintro e w10 ⟨⟨sl9, rfl⟩, hb⟩
        have HB10 : Hid (Below W7.heap.size W7 w10) := HBW.out.trans (hb.mono HBW.out.size)
        have HO10 : Hid (w10.ownsRow W7.heap.size 2 1 (.slice (some ⟨gp, 0, none⟩) (i + 1) cp) (i + 1) ((pthL ros hm0 i).map (Value.int .i64))) := owns_below HOW.out hb
        clear hb d0 d1 d2 d3 d4 e0 e1 ISC HBW HOW
        have KS : Hid (∀ W, Below W7.heap.size W7 W → W.cell? ⟨k, 0, none⟩ = some (.int .i64 n) ∧ W.cell? ⟨k, 1, none⟩ = some (.slice (some ⟨g, 0, none⟩) zl cg) ∧ W.cell? ⟨k7, 1, none⟩ = some (.int .i64 hm0) ∧ W.cell? ⟨k7, 3, none⟩ = some (.int .i64 fr)) := fun W hB => by
          obtain ⟨d0, d1, -, -, -⟩ := cells5z (K7.out.1.below hB).b1
          obtain ⟨-, y1, -, y3, -⟩ := cells5z (below_row hB (row_lt K7.out.2) K7.out.2)
          exact ⟨d0, d1, y1, y3⟩
        have IPA : Hid (∀ W gq cq, Below W7.heap.size W7 W → IntsAt W (some ⟨gq, 0, none⟩) (pthL ros hm0 i ++ [hm0]) → Calls Try.prog 20 #[.agg #[.int .i64 n, .slice (some ⟨g, 0, none⟩) zl cg], .slice (some ⟨gq, 0, none⟩) (i + 1 + 1) cq] W fun e w' => e = .returned (.int .i64 v) ∧ Below W.heap.size W w') := fun W gq cq hB hI => by
          have hlen : (pthL ros hm0 i ++ [hm0]).length = i + 1 + 1 := by rw [List.length_append, pthL_length]; rfl
          have := implPath_any n (some ⟨g, 0, none⟩) (some ⟨gq, 0, none⟩) cg cq zs (pthL ros hm0 i ++ [hm0]) W (K7.out.1.below hB).iz hI (by rw [hlen]; omega)
          rw [HZ.out, hlen, path_ride HMB.out HRB.out hvb.1.1 hvb.1.2 (by omega), ← HVR.out] at this
          exact this
        have hpar : hmv - fr = v + u + sv0 := by
          have h9 := home_parts n zs ros i hm0 fr
          rw [HHV.out, ← HVR.out, ← HUW.out, HSV0.out] at h9
          exact h9
        have hu0 : 0 ≤ u := by have h9 := waitTo_nonneg n zs ros hm0 fr i; rw [← HUW.out] at h9; exact h9
        have hv0 : 0 ≤ v := by
          have h9 := of_decide_eq_false hng
          omega
        have hhm : hmv ≤ 1000000 := by
          have h9 := (hoursV_zero (codeV_zero HCO.out).2).2
          rw [HROS.out, HHM.out, HFR.out, HM.out, HHV.out] at h9
          have h8 := (fnd5F_bd (caseB_vehs HCB.out) hn1 veh).2.2.2.2
          omega
        obtain ⟨dd, HDD⟩ : ∃ x, Hid (v + u + sv0 = x) := ⟨_, rfl⟩
        have hd0 := HDD.out
        have w1a : wrap64 (hmv - fr) = dd := by rw [hpar, hd0]; exact IntWalk.wrap64_in _ (by omega)
        have w1b : IntKind.i64.wrap (hmv - fr) = dd := by rw [hpar, hd0, IntKind.wrap_i64]; omega
        have w2a : wrap64 (v + u) = v + u := IntWalk.wrap64_in _ (by omega)
        have w2b : IntKind.i64.wrap (v + u) = v + u := by rw [IntKind.wrap_i64]; omega
        have w3a : wrap64 (v + u + sv0) = dd := by rw [hd0]; exact IntWalk.wrap64_in _ (by omega)
        have w3b : IntKind.i64.wrap (v + u + sv0) = dd := by rw [hd0, IntKind.wrap_i64]; omega
        have hdd : (dd == dd) = true := by simp
        clear hpar hd0 hhm hv0
        have kS := KS.out _ (HB10.out.drew)
        have kB := KS.out _ ((HB10.out.alloc HB10.out.size (Obj.cells #[Value.int IntKind.i64 hm0] 2)).drew)
        have HS10 : Hid (W7.heap.size ≤ w10.heap.size) := HB10.out.size
        go_wp2_with fail
        go_region_held3 (fun W => W.cell? ⟨k, 0, none⟩ = some (.int .i64 n) ∧ W.cell? ⟨k, 1, none⟩ = some (.slice (some ⟨g, 0, none⟩) zl cg) ∧ W.cell? ⟨k7, 1, none⟩ = some (.int .i64 hm0) ∧ W.cell? ⟨k7, 3, none⟩ = some (.int .i64 fr)) (first | with_reducible exact kS | with_reducible exact kB | go_keep) ((first
          | (refine step_append_ints rfl (.tmp 103) (.tmp 106) rfl W7.heap.size (.slice (some ⟨gp, 0, none⟩) (i + 1) cp) (pthL ros hm0 i) (i + 1) rfl (owns_below HO10.out ((Below.refl _ _).alloc (Nat.le_refl _) _).drew) w10.heap.size 0 1 1 [hm0] rfl rfl ((ints_new1 w10 hm0).below (Below.refl _ _).drew) (by omega) (by omega) (Nat.le_trans HS10.out (by simp)) ?_
             intro v' w11 hown hg hnl
             obtain ⟨g11, c11, e11, -⟩ := own_some hown
             subst e11
             have HB11 : Hid (Below W7.heap.size W7 w11) := ((HB10.out.alloc HB10.out.size (Obj.cells #[Value.int IntKind.i64 hm0] 2)).drew).grown hg (Nat.le_trans HS10.out (by simp)) (fun r e => (HO10.out.lt r e).1)
             have HI11 : Hid (IntsAt w11 (some ⟨g11, 0, none⟩) (pthL ros hm0 i ++ [hm0])) := owns_ints hown
             have kS := KS.out _ HB11.out
             clear hown hg hnl)
          | (go_at_call 20
             with_reducible refine (IPA.out w11 g11 c11 HB11.out HI11.out).mono ?_
             rintro e w12 ⟨rfl, hb⟩
             have HB12 : Hid (Below W7.heap.size W7 w12) := HB11.out.trans (hb.mono HB11.out.size)
             have kS := KS.out _ HB12.out
             clear hb)))
        all_goals
          go_wp2
          go_ret
          exact ⟨by first | rfl | simp, K7.out.1.b.trans (HB12.out.mono K7.out.1.b.size)⟩

theorem lawFnCost_all (a : Option Addr) (c : Nat) (bs : List Int) (w : World) (hA : CodeAt w a bs) (hl : bs.length ≤ 9223372036854775807) :
    Calls Try.prog 4 #[.slice a bs.length c] w fun e w' => e = .returned (.bool true) ∧ Below w.heap.size w w' := by
  by_cases h : bs.length ≤ 1048576
  · exact lawFnCost a c bs w hA h
  · exact lawFnCost_big a c _ w hl (by omega)

end Go.Proofs.Ythljonnhkleglaa
