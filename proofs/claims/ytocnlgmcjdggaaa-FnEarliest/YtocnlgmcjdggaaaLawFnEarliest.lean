import Derived.Test.YtocnlgmcjdggaaaPack0
import Derived.Test.YtocnlgmcjdggaaaPack2
import Derived.Test.YtocnlgmcjdggaaaPack11
import Derived.Test.YtocnlgmcjdggaaaDrawSched
import Derived.Test.YtocnlgmcjdggaaaPack15
import Derived.Test.YtocnlgmcjdggaaaPack16
import Derived.Test.YtocnlgmcjdggaaaImplSched
import Derived.Deep.CutRange
namespace Go.Proofs.Ytocnlgmcjdggaaa
open Go.RowKit

set_option maxRecDepth 10000 in
set_option maxHeartbeats 400000 in
theorem lawFnEarliest_big (a : Option Addr) (c len : Nat) (w : World) (hl : len ≤ 9223372036854775807) (h : 1048576 < len) :
    Calls Try.prog 3 #[.slice a len c] w fun e w' => e = .returned (.bool true) ∧ Below w.heap.size w w' := by
  have hd : decide (1048576 < len) = true := decide_eq_true h
  go_enter Try.func3, Try.ntmps3
  go_wp2_with (go_at_call 7; refine (big_any a c len w hl).mono ?_; rintro e w1 ⟨rfl, hw1⟩; subst w1; rw [hd])
  go_ret
  exact ⟨rfl, Below.refl _ _⟩

theorem timeV_I {n : Int} {zs : List Int} (hm : matB n zs = true) {x y : Int} (hx : 0 ≤ x ∧ x < n) (hy : 0 ≤ y ∧ y < n) : timeV n zs x y = tmI n zs x y := by
  unfold timeV tmI
  rw [if_pos ⟨hm, inB_mk (by omega), inB_mk (by omega)⟩]
theorem owns_at4 {w : World} {base m : Nat} {e : TypeId} {sl : Value} {xs : List Int} (h : w.ownsRow base e 4 sl m (xs.map (Value.int .i64))) (hx : xs.length = m * 4) : ∃ a c, sl = .slice a m c ∧ IntsAt w a xs := by
  rcases own_shape h with rfl | ⟨g, c, rfl⟩
  · have hm : m = 0 := by
      obtain ⟨_, ⟨_, h2⟩ | ⟨_, _, _, h3, _⟩⟩ := h
      · exact h2
      · cases h3
    subst hm
    exact ⟨none, 0, rfl, fun j hj => by omega⟩
  · exact ⟨_, c, rfl, owns_ints h⟩
theorem KC.keepI {w W : World} {k kr : Nat} {n fi veh : Int} {zl cg ko co kv cv m co2 sb so : Nat} {g go gv : Nat} {zs O V L : List Int} (h : KC w W k kr #[.int .i64 n, .slice (some ⟨g, 0, none⟩) zl cg, .slice (some ⟨go, 0, none⟩) ko co, .slice (some ⟨gv, 0, none⟩) kv cv, .int .i64 fi] #[.int .i64 veh, .slice (some ⟨sb, so, none⟩) m co2] g go gv zs O V (some ⟨sb, so, none⟩) L) {i : Nat} {id : Int} (hi : i < L.length) (hid : L.getD i 0 = id) : W.cell? ⟨k, 0, none⟩ = some (.int .i64 n) ∧ W.cell? ⟨k, 1, none⟩ = some (.slice (some ⟨g, 0, none⟩) zl cg) ∧ W.cell? ⟨k, 2, none⟩ = some (.slice (some ⟨go, 0, none⟩) ko co) ∧ W.cell? ⟨k, 3, none⟩ = some (.slice (some ⟨gv, 0, none⟩) kv cv) ∧ W.cell? ⟨k, 4, none⟩ = some (.int .i64 fi) ∧ W.cell? ⟨kr, 1, none⟩ = some (.slice (some ⟨sb, so, none⟩) m co2) ∧ W.cell? ⟨sb, so + i, none⟩ = some (.int .i64 id) := by
  obtain ⟨d0, d1, d2, d3, d4⟩ := cells5z h.b1
  obtain ⟨e0, e1⟩ := cells2 h.b2
  obtain ⟨_, _, e, hc⟩ := h.il i hi
  simp at e
  obtain ⟨rfl, rfl⟩ := e
  rw [hid] at hc
  exact ⟨d0, d1, d2, d3, d4, e1, hc⟩

set_option maxRecDepth 10000 in
set_option maxHeartbeats 8000000 in
theorem lawFnEarliest (a : Option Addr) (ca : Nat) (bs : List Int) (w : World) (hA : CodeAt w a bs) (hl : bs.length ≤ 1048576) :
    Calls Try.prog 3 #[.slice a bs.length ca] w fun e w' => e = .returned (.bool true) ∧ Below w.heap.size w w' := by
  have HA : Hid (CodeAt w a bs) := hA
  clear hA
  have hd : decide (1048576 < bs.length) = false := decide_eq_false (by omega)
  go_enter Try.func3, Try.ntmps3
  go_wp2_with fail
  refine (big_any a ca bs.length w (by omega)).mono ?_
  rintro e w1 ⟨rfl, hw1⟩
  subst w1
  rw [hd]
  clear hd
  go_wp2_with fail
  refine (drawSched_any a ca bs w HA.out hl).mono ?_
  rintro e w1 ⟨n, g, zl, cg, go, ko, co, gv, kv, cv, zs, O, V, L, fi, veh, ao, m, co2, rfl, ⟨hz, hO, hV, hko1, hko5, hkv1, hkv3⟩, ⟨hm, hm4, hmc⟩, hb, iz, io, iv, il, -⟩
  obtain ⟨N, HLb⟩ : ∃ v, Hid (bs.length = v) := ⟨_, rfl⟩
  rw [HLb.out] at hl ⊢
  have HM : Hid (L.length = m) := hm
  have HZ : Hid (zs.length = zl) := hz
  have HO : Hid (O.length = ko * 6) := hO
  have HV : Hid (V.length = kv * 5) := hV
  have K1 : Hid (KC w ((w1.alloc (.cells #[.int .i64 n, .slice (some ⟨g, 0, none⟩) zl cg, .slice (some ⟨go, 0, none⟩) ko co, .slice (some ⟨gv, 0, none⟩) kv cv, .int .i64 fi] 30)).alloc (.cells #[.int .i64 veh, .slice ao m co2] 32)) w1.heap.size (w1.heap.size + 1) #[.int .i64 n, .slice (some ⟨g, 0, none⟩) zl cg, .slice (some ⟨go, 0, none⟩) ko co, .slice (some ⟨gv, 0, none⟩) kv cv, .int .i64 fi] #[.int .i64 veh, .slice ao m co2] g go gv zs O V ao L) := by
    have ha : Below w1.heap.size w1 ((w1.alloc (.cells #[.int .i64 n, .slice (some ⟨g, 0, none⟩) zl cg, .slice (some ⟨go, 0, none⟩) ko co, .slice (some ⟨gv, 0, none⟩) kv cv, .int .i64 fi] 30)).alloc (.cells #[.int .i64 veh, .slice ao m co2] 32)) := ((Below.refl _ _).alloc (Nat.le_refl _) _).alloc (by simp) _
    exact ⟨hb.trans (ha.mono hb.size), heap_alloc2_old _ _ _, heap_alloc2_new _ _ _, iz.below ha, io.below ha, iv.below ha, il.below ha⟩
  clear hz hO hV hm hb iz io iv il
  obtain ⟨cb, HCB⟩ : ∃ v, Hid (caseB n zs O V ko kv fi = v) := ⟨_, rfl⟩
  obtain ⟨cd, HCD⟩ : ∃ x, Hid (codeV cb n zs O V ko kv veh L = x) := ⟨_, rfl⟩
  have ISC : Hid (∀ W k kr, KC w W k kr #[.int .i64 n, .slice (some ⟨g, 0, none⟩) zl cg, .slice (some ⟨go, 0, none⟩) ko co, .slice (some ⟨gv, 0, none⟩) kv cv, .int .i64 fi] #[.int .i64 veh, .slice ao m co2] g go gv zs O V ao L → Calls Try.prog 9 #[.agg #[.int .i64 n, .slice (some ⟨g, 0, none⟩) zl cg, .slice (some ⟨go, 0, none⟩) ko co, .slice (some ⟨gv, 0, none⟩) kv cv, .int .i64 fi], .agg #[.int .i64 veh, .slice ao m co2]] W fun e w' => Below W.heap.size W w' ∧ ((cd ≠ 0 ∧ e = .returned (.tuple #[.slice none 0 0, .int .i64 0, .int .i64 cd])) ∨ (cd = 0 ∧ ∃ sl, e = .returned (.tuple #[sl, .int .i64 (homeV n zs (rosOf O ko L) m (fnd5F V kv veh 1) (fnd5F V kv veh 3)), .int .i64 0]) ∧ w'.ownsRow W.heap.size 47 4 sl m ((visL n zs (rosOf O ko L) (fnd5F V kv veh 1) (fnd5F V kv veh 3) m).map (Value.int .i64))))) := fun W k kr h => by
    have := implSchedule_any n fi veh (some ⟨g, 0, none⟩) (some ⟨go, 0, none⟩) (some ⟨gv, 0, none⟩) ao cg ko co kv cv co2 zs O V L W h.iz h.io h.iv h.il HO.out HV.out (by omega) (by omega) (by rw [HM.out]; omega) (by rw [HM.out]; exact hmc)
    rw [HZ.out, HM.out, HCB.out, HCD.out] at this
    exact this
  have SSC : Hid (∀ W k kr, KC w W k kr #[.int .i64 n, .slice (some ⟨g, 0, none⟩) zl cg, .slice (some ⟨go, 0, none⟩) ko co, .slice (some ⟨gv, 0, none⟩) kv cv, .int .i64 fi] #[.int .i64 veh, .slice ao m co2] g go gv zs O V ao L → Calls Try.prog 10 #[.agg #[.int .i64 n, .slice (some ⟨g, 0, none⟩) zl cg, .slice (some ⟨go, 0, none⟩) ko co, .slice (some ⟨gv, 0, none⟩) kv cv, .int .i64 fi], .agg #[.int .i64 veh, .slice ao m co2]] W fun e w' => Below W.heap.size W w' ∧ ((cd ≠ 0 ∧ e = .returned (.tuple #[.slice none 0 0, .int .i64 0, .int .i64 cd])) ∨ (cd = 0 ∧ ∃ g c, W.heap.size ≤ g ∧ e = .returned (.tuple #[.slice (some ⟨g, 0, none⟩) m c, .int .i64 (homeV n zs (rosOf O ko L) m (fnd5F V kv veh 1) (fnd5F V kv veh 3)), .int .i64 0]) ∧ IntsAt w' (some ⟨g, 0, none⟩) (visL n zs (rosOf O ko L) (fnd5F V kv veh 1) (fnd5F V kv veh 3) m)))) := fun W k kr h => by
    have := specSchedule_any n fi veh (some ⟨g, 0, none⟩) (some ⟨go, 0, none⟩) (some ⟨gv, 0, none⟩) ao cg ko co kv cv co2 zs O V L W h.iz h.io h.iv h.il HO.out HV.out (by omega) (by omega) (by rw [HM.out]; omega) (by rw [HM.out]; exact hmc)
    rw [HZ.out, HM.out, HCB.out, HCD.out] at this
    exact this
  obtain ⟨d0, d1, d2, d3, d4⟩ := cells5z K1.out.b1
  obtain ⟨e0, e1⟩ := cells2 K1.out.b2
  go_wp2_with fail
  generalize (w1.alloc (.cells #[.int .i64 n, .slice (some ⟨g, 0, none⟩) zl cg, .slice (some ⟨go, 0, none⟩) ko co, .slice (some ⟨gv, 0, none⟩) kv cv, .int .i64 fi] 30)).alloc (.cells #[.int .i64 veh, .slice ao m co2] 32) = W1 at *
  obtain ⟨k, HK⟩ : ∃ v, Hid (w1.heap.size = v) := ⟨_, rfl⟩
  rw [HK.out] at K1 d0 d1 d2 d3 d4 e0 e1 ⊢
  obtain ⟨kr, HKR⟩ : ∃ v, Hid (k + 1 = v) := ⟨_, rfl⟩
  rw [HKR.out] at K1 e0 e1 ⊢
  refine (ISC.out _ _ _ K1.out).mono ?_
  rintro e w2 ⟨hb, ⟨hc0, rfl⟩ | ⟨hc0, sl, rfl, how⟩⟩
  · have K2 : Hid (KC w w2 k kr #[.int .i64 n, .slice (some ⟨g, 0, none⟩) zl cg, .slice (some ⟨go, 0, none⟩) ko co, .slice (some ⟨gv, 0, none⟩) kv cv, .int .i64 fi] #[.int .i64 veh, .slice ao m co2] g go gv zs O V ao L) := K1.out.below hb
    clear hb K1 d0 d1 d2 d3 d4 e0 e1
    obtain ⟨d0, d1, d2, d3, d4⟩ := cells5z K2.out.b1
    obtain ⟨e0, e1⟩ := cells2 K2.out.b2
    have hcn : (cd != cd) = false := by simp
    have hce : (cd == cd) = true := by simp
    have hcz : (cd != 0) = true := by simp [hc0]
    go_wp2_with fail
    refine (SSC.out _ _ _ K2.out).mono ?_
    rintro e w3 ⟨hb, ⟨hc1, rfl⟩ | ⟨hc1, _⟩⟩
    · have K3 : Hid (KC w w3 k kr #[.int .i64 n, .slice (some ⟨g, 0, none⟩) zl cg, .slice (some ⟨go, 0, none⟩) ko co, .slice (some ⟨gv, 0, none⟩) kv cv, .int .i64 fi] #[.int .i64 veh, .slice ao m co2] g go gv zs O V ao L) := K2.out.below hb
      clear hb K2 d0 d1 d2 d3 d4 e0 e1
      go_wp2
      go_ret
      exact ⟨by first | rfl | simp, K3.out.b⟩
    · exact absurd hc1 hc0
  · have HCO : Hid (codeV cb n zs O V ko kv veh L = 0) := HCD.out.trans hc0
    clear HCD
    subst hc0
    have hcbt : cb = true := (formV_zero (codeV_zero HCO.out).1).1
    subst hcbt
    have HMB : Hid (matB n zs = true) := by
      have h := HCB.out
      unfold caseB at h
      simp only [Bool.and_eq_true] at h
      exact h.1.1.1
    have hn1 : 1 ≤ n := (matB_true HMB.out).1
    have HKE : Hid (keepsV true n zs O V ko kv veh L (strL (visL n zs (rosOf O ko L) (fnd5F V kv veh 1) (fnd5F V kv veh 3) m) m) = true) := by
      have := early_keeps HCO.out
      rw [HM.out] at this
      exact this
    have HLR := load_room HCO.out
    have HHO := (hoursV_zero (codeV_zero HCO.out).2)
    rw [HM.out] at HHO
    obtain ⟨ros, HROS⟩ : ∃ r, Hid (rosOf O ko L = r) := ⟨_, rfl⟩
    obtain ⟨hm0, HHM⟩ : ∃ x, Hid (fnd5F V kv veh 1 = x) := ⟨_, rfl⟩
    obtain ⟨rm, HRM⟩ : ∃ x, Hid (fnd5F V kv veh 2 = x) := ⟨_, rfl⟩
    obtain ⟨fr, HFR⟩ : ∃ x, Hid (fnd5F V kv veh 3 = x) := ⟨_, rfl⟩
    obtain ⟨tz, HTO⟩ : ∃ x, Hid (fnd5F V kv veh 4 = x) := ⟨_, rfl⟩
    obtain ⟨ld, HLD⟩ : ∃ x, Hid (loadV true O ko L = x) := ⟨_, rfl⟩
    rw [HROS.out, HHM.out, HFR.out] at how
    rw [HROS.out, HHM.out, HFR.out, HTO.out] at HHO
    rw [HROS.out, HHM.out, HFR.out] at HKE SSC ⊢
    rw [HLD.out, HRM.out] at HLR
    have hvb := fnd5F_bd (caseB_vehs HCB.out) hn1 veh
    rw [HHM.out, HFR.out, HTO.out] at hvb
    obtain ⟨hmv, HHV⟩ : ∃ x, Hid (homeV n zs ros m hm0 fr = x) := ⟨_, rfl⟩
    rw [HHV.out] at HHO SSC ⊢
    have HRB : Hid (RosBd n ros m) := by have := rosBd_of (caseB_ords HCB.out) hn1 L; rw [HROS.out, HM.out] at this; exact this
    have HTL : Hid (timelyTo n zs ros hm0 fr m) := HHO.1
    have hhv : hmv ≤ tz := HHO.2
    have HNB : Hid (∀ k, k ≤ m → _) := fun k hk => nowT_bd (home := hm0) HMB.out HRB.out ⟨hvb.2.2.1.1, hvb.2.2.1.2⟩ k hk
    have HPB : Hid (∀ k, k ≤ m → _) := fun k hk => plc_bd HRB.out hvb.1.1 hvb.1.2 k hk
    have HOG : Hid (∀ i f, i < m → f < 6 → fnd6F O ko (L.getD i 0) f = og6 ros i f) := fun i f hi hf => by rw [← HROS.out]; exact (rosOf_at O ko L (by rw [HM.out]; exact hi) hf).symm
    clear HHO
    obtain ⟨av, cav, e, hvis⟩ := owns_at4 how (visL_length _ _ _ _ _ _)
    subst e
    obtain ⟨vis, HVI⟩ : ∃ x, Hid (visL n zs ros hm0 fr m = x) := ⟨_, rfl⟩
    rw [HVI.out] at HKE SSC hvis
    have HVL : Hid (vis.length = m * 4) := by show _ = _; rw [← HVI.out, visL_length]
    have K2 : Hid (KC w w2 k kr #[.int .i64 n, .slice (some ⟨g, 0, none⟩) zl cg, .slice (some ⟨go, 0, none⟩) ko co, .slice (some ⟨gv, 0, none⟩) kv cv, .int .i64 fi] #[.int .i64 veh, .slice ao m co2] g go gv zs O V ao L) := K1.out.below hb
    have I2 : Hid (IntsAt w2 av vis) := hvis
    clear hb K1 d0 d1 d2 d3 d4 e0 e1 how hvis
    obtain ⟨d0, d1, d2, d3, d4⟩ := cells5z K2.out.b1
    obtain ⟨e0, e1⟩ := cells2 K2.out.b2
    go_wp2_with fail
    refine (SSC.out _ _ _ K2.out).mono ?_
    rintro e w3 ⟨hb, ⟨hc1, rfl⟩ | ⟨-, gs, cgs, -, rfl, -⟩⟩
    · exact absurd rfl hc1
    have K3 : Hid (KC w w3 k kr #[.int .i64 n, .slice (some ⟨g, 0, none⟩) zl cg, .slice (some ⟨go, 0, none⟩) ko co, .slice (some ⟨gv, 0, none⟩) kv cv, .int .i64 fi] #[.int .i64 veh, .slice ao m co2] g go gv zs O V ao L) := K2.out.below hb
    have I3 : Hid (IntsAt w3 av vis) := I2.out.below hb
    clear hb K2 I2 d0 d1 d2 d3 d4 e0 e1
    obtain ⟨d0, d1, d2, d3, d4⟩ := cells5z K3.out.b1
    obtain ⟨e0, e1⟩ := cells2 K3.out.b2
    have hvn : (hmv != hmv) = false := by simp
    have hve : (hmv == hmv) = true := by simp
    have IVE : Hid (∀ W, KC w W k kr #[.int .i64 n, .slice (some ⟨g, 0, none⟩) zl cg, .slice (some ⟨go, 0, none⟩) ko co, .slice (some ⟨gv, 0, none⟩) kv cv, .int .i64 fi] #[.int .i64 veh, .slice ao m co2] g go gv zs O V ao L → Calls Try.prog 11 #[.agg #[.int .i64 n, .slice (some ⟨g, 0, none⟩) zl cg, .slice (some ⟨go, 0, none⟩) ko co, .slice (some ⟨gv, 0, none⟩) kv cv, .int .i64 fi], .int .i64 veh] W fun e w' => (∃ x0 t, e = .returned (.tuple #[.agg #[.int .i64 x0, .int .i64 hm0, .int .i64 rm, .int .i64 fr, .int .i64 tz], .bool t])) ∧ Below W.heap.size W w') := fun W h => by
      have := implVehOf_any n fi veh (some ⟨g, 0, none⟩) (some ⟨go, 0, none⟩) (some ⟨gv, 0, none⟩) cg ko co kv cv zs O V W h.iz h.io h.iv HO.out HV.out (by omega) (by omega)
      rw [HZ.out, HCB.out] at this
      have gf : ∀ f, got5F true V kv veh f = fnd5F V kv veh f := fun f => by unfold got5F; rw [if_pos rfl]
      rw [gf 1, gf 2, gf 3, gf 4, HHM.out, HRM.out, HFR.out, HTO.out] at this
      exact this.mono fun e w' h => ⟨⟨_, _, h.1⟩, h.2⟩
    clear SSC ISC
    go_wp2_with fail
    refine (IVE.out _ K3.out).mono ?_
    rintro e w6 ⟨⟨x0, tv, rfl⟩, hb⟩
    have K6 : Hid (KC w w6 k kr #[.int .i64 n, .slice (some ⟨g, 0, none⟩) zl cg, .slice (some ⟨go, 0, none⟩) ko co, .slice (some ⟨gv, 0, none⟩) kv cv, .int .i64 fi] #[.int .i64 veh, .slice ao m co2] g go gv zs O V ao L) := K3.out.below hb
    have I6 : Hid (IntsAt w6 av vis) := I3.out.below hb
    clear hb K3 I3 d0 d1 d2 d3 d4 e0 e1 IVE
    have K7 : Hid (KC w (w6.alloc (Obj.cells #[Value.int IntKind.i64 x0, Value.int IntKind.i64 hm0, Value.int IntKind.i64 rm, Value.int IntKind.i64 fr, Value.int IntKind.i64 tz] 39)) k kr #[.int .i64 n, .slice (some ⟨g, 0, none⟩) zl cg, .slice (some ⟨go, 0, none⟩) ko co, .slice (some ⟨gv, 0, none⟩) kv cv, .int .i64 fi] #[.int .i64 veh, .slice ao m co2] g go gv zs O V ao L ∧ (w6.alloc (Obj.cells #[Value.int IntKind.i64 x0, Value.int IntKind.i64 hm0, Value.int IntKind.i64 rm, Value.int IntKind.i64 fr, Value.int IntKind.i64 tz] 39)).heap[w6.heap.size]? = some (.cells #[Value.int IntKind.i64 x0, Value.int IntKind.i64 hm0, Value.int IntKind.i64 rm, Value.int IntKind.i64 fr, Value.int IntKind.i64 tz] 39 (0, 0))) := ⟨K6.out.below ((Below.refl _ _).alloc (Nat.le_refl _) _), heap_alloc_new _ _⟩
    have I7 : Hid (IntsAt (w6.alloc (Obj.cells #[Value.int IntKind.i64 x0, Value.int IntKind.i64 hm0, Value.int IntKind.i64 rm, Value.int IntKind.i64 fr, Value.int IntKind.i64 tz] 39)) av vis) := I6.out.below ((Below.refl _ _).alloc (Nat.le_refl _) _)
    clear K6 I6
    go_upto_region 9 with fail
    generalize w6.alloc (Obj.cells #[Value.int IntKind.i64 x0, Value.int IntKind.i64 hm0, Value.int IntKind.i64 rm, Value.int IntKind.i64 fr, Value.int IntKind.i64 tz] 39) = W7 at *
    obtain ⟨k7, HK7⟩ : ∃ v, Hid (w6.heap.size = v) := ⟨_, rfl⟩
    rw [HK7.out] at K7 ⊢
    obtain ⟨y0, y1, y2, y3, y4⟩ := cells5z K7.out.2
    go_wp2_with fail
    clear y0 y1 y2 y3 y4
    have TIM : Hid (∀ (W : World) (x y : Int), (0 ≤ x ∧ x < n) → (0 ≤ y ∧ y < n) → KC w W k kr #[.int .i64 n, .slice (some ⟨g, 0, none⟩) zl cg, .slice (some ⟨go, 0, none⟩) ko co, .slice (some ⟨gv, 0, none⟩) kv cv, .int .i64 fi] #[.int .i64 veh, .slice ao m co2] g go gv zs O V ao L → Calls Try.prog 13 #[.agg #[.int .i64 n, .slice (some ⟨g, 0, none⟩) zl cg], .int .i64 x, .int .i64 y] W fun e w' => e = .returned (.int .i64 (tmI n zs x y)) ∧ Below W.heap.size W w') := fun W x y hx hy h => by
      have := implTime_any n x y (some ⟨g, 0, none⟩) cg zs W h.iz
      rw [HZ.out, timeV_I HMB.out hx hy] at this
      exact this
    go_loopw [13, 14, 15] (fun tt pp t wr => ∃ i : Nat, i ≤ m ∧ t = .int .i64 i ∧ tt = .int .i64 (nowT n zs ros hm0 fr i) ∧ pp = .int .i64 (plc ros hm0 i) ∧ Below W7.heap.size W7 wr) (fun _ _ t _ => m - (intOf t).toNat)
    case atStart => exact ⟨0, Nat.zero_le _, rfl, rfl, rfl, Below.refl _ _⟩
    case round =>
      obtain ⟨i, hi, rfl, rfl, rfl, hbw⟩ := hrel
      have HBW : Hid (Below W7.heap.size W7 wr) := hbw
      have KR : Hid (KC w wr k kr #[.int .i64 n, .slice (some ⟨g, 0, none⟩) zl cg, .slice (some ⟨go, 0, none⟩) ko co, .slice (some ⟨gv, 0, none⟩) kv cv, .int .i64 fi] #[.int .i64 veh, .slice ao m co2] g go gv zs O V ao L) := K7.out.1.below hbw
      have IR : Hid (IntsAt wr av vis) := I7.out.below hbw
      clear hbw
      have hnb := HNB.out i hi
      have HPI : Hid (0 ≤ plc ros hm0 i ∧ plc ros hm0 i < n) := HPB.out i hi
      obtain ⟨nw, HNW⟩ : ∃ x, Hid (nowT n zs ros hm0 fr i = x) := ⟨_, rfl⟩
      obtain ⟨pl, HPL⟩ : ∃ x, Hid (plc ros hm0 i = x) := ⟨_, rfl⟩
      rw [HNW.out] at hnb
      rw [HPL.out] at HPI
      rw [HNW.out, HPL.out]
      obtain ⟨d0, d1, d2, d3, d4⟩ := cells5z KR.out.b1
      obtain ⟨e0, e1⟩ := cells2 KR.out.b2
      by_cases hlt : i < m
      · obtain ⟨sb, so, e, hcs⟩ := KR.out.il.some (j := i) (by rw [HM.out]; exact hlt)
        have hid := hcs i (by rw [HM.out]; exact hlt)
        clear hcs
        obtain ⟨id, HID⟩ : ∃ x, Hid (L.getD i 0 = x) := ⟨_, rfl⟩
        rw [HID.out] at hid
        obtain ⟨vb, vo, ev, hcv⟩ := IR.out.some (j := i * 4) (by rw [HVL.out]; omega)
        have HVC : Hid (∀ f, f < 4 → wr.cell? ⟨vb, vo + i * 4 + f, none⟩ = some (.int .i64 (visF n zs ros hm0 fr i f))) := fun f hf => by
          have h9 := hcv (i * 4 + f) (by rw [HVL.out]; omega)
          rw [← HVI.out, visL_at n zs ros hm0 fr hlt hf] at h9
          rw [show vo + i * 4 + f = vo + (i * 4 + f) from by omega]
          exact h9
        clear hcv
        subst ev
        obtain ⟨x1, HX1⟩ : ∃ x, Hid (og6 ros i 1 = x) := ⟨_, rfl⟩
        have IOO : Hid (∀ W, KC w W k kr #[.int .i64 n, .slice (some ⟨g, 0, none⟩) zl cg, .slice (some ⟨go, 0, none⟩) ko co, .slice (some ⟨gv, 0, none⟩) kv cv, .int .i64 fi] #[.int .i64 veh, .slice ao m co2] g go gv zs O V ao L → Calls Try.prog 12 #[.agg #[.int .i64 n, .slice (some ⟨g, 0, none⟩) zl cg, .slice (some ⟨go, 0, none⟩) ko co, .slice (some ⟨gv, 0, none⟩) kv cv, .int .i64 fi], .int .i64 id] W fun e w' => (∃ t, e = .returned (.tuple #[.agg #[.int .i64 (og6 ros i 0), .int .i64 (og6 ros i 1), .int .i64 (og6 ros i 2), .int .i64 (og6 ros i 3), .int .i64 (og6 ros i 4), .int .i64 (og6 ros i 5)], .bool t])) ∧ Below W.heap.size W w') := fun W h => by
          have := implOrdOf_any n fi id (some ⟨g, 0, none⟩) (some ⟨go, 0, none⟩) (some ⟨gv, 0, none⟩) cg ko co kv cv zs O V W h.iz h.io h.iv HO.out HV.out (by omega) (by omega)
          rw [HZ.out, HCB.out] at this
          have gf : ∀ f, f < 6 → got6F true O ko id f = og6 ros i f := fun f hf => by unfold got6F; rw [if_pos rfl, ← HID.out]; exact HOG.out i f hlt hf
          rw [gf 0 (by omega), gf 1 (by omega), gf 2 (by omega), gf 3 (by omega), gf 4 (by omega), gf 5 (by omega)] at this
          exact this.mono fun e w' h => ⟨⟨_, h.1⟩, h.2⟩
        have hrb := HRB.out i hlt
        have hst := HTL.out i hlt
        have c0 := HVC.out 0 (by omega)
        have c1 := HVC.out 1 (by omega)
        have c2 := HVC.out 2 (by omega)
        have c3 := HVC.out 3 (by omega)
        simp only [visF, if_false, if_true, Nat.reduceEqDiff, Nat.add_zero] at c0 c1 c2 c3
        clear HVC
        have HD1 : Hid (0 ≤ x1 ∧ x1 < n) := by have := hrb.1; rw [HX1.out] at this; exact this
        obtain ⟨dd, HDD⟩ : ∃ x, Hid (tmI n zs pl x1 = x) := ⟨_, rfl⟩
        have hdb := tmI_bd HMB.out pl x1
        rw [HDD.out] at hdb
        have HARV : Hid (arrV n zs ros hm0 fr i = nw + dd) := by
          show _ = _
          unfold arrV
          rw [HNW.out, HPL.out, HX1.out, HDD.out]
        have HNX : Hid (nowT n zs ros hm0 fr (i + 1) = startV n zs ros hm0 fr i + og6 ros i 5) := nowT_succ _ _ _ _ _ _
        have HSTV : Hid (startV n zs ros hm0 fr i = max (nw + dd) (og6 ros i 3)) := by
          show _ = _
          unfold startV
          rw [HARV.out]
        have HPN : Hid (plc ros hm0 (i + 1) = x1) := by show _ = _; rw [plc]; exact HX1.out
        obtain ⟨x0, HX0⟩ : ∃ x, Hid (og6 ros i 0 = x) := ⟨_, rfl⟩
        obtain ⟨x2, HX2⟩ : ∃ x, Hid (og6 ros i 2 = x) := ⟨_, rfl⟩
        obtain ⟨x3, HX3⟩ : ∃ x, Hid (og6 ros i 3 = x) := ⟨_, rfl⟩
        obtain ⟨x4, HX4⟩ : ∃ x, Hid (og6 ros i 4 = x) := ⟨_, rfl⟩
        obtain ⟨x5, HX5⟩ : ∃ x, Hid (og6 ros i 5 = x) := ⟨_, rfl⟩
        obtain ⟨mx, HMX⟩ : ∃ x, Hid (startV n zs ros hm0 fr i = x) := ⟨_, rfl⟩
        obtain ⟨ar, HAR⟩ : ∃ x, Hid (arrV n zs ros hm0 fr i = x) := ⟨_, rfl⟩
        obtain ⟨lv, HLV⟩ : ∃ x, Hid (nowT n zs ros hm0 fr (i + 1) = x) := ⟨_, rfl⟩
        rw [HX0.out, HX1.out, HX2.out, HX3.out, HX4.out, HX5.out] at IOO
        rw [HX3.out, HX4.out, HX5.out] at hrb
        rw [HX0.out] at c0
        rw [HAR.out] at c1 HARV
        rw [HMX.out] at c2 HSTV HNX hst
        rw [HLV.out] at c3 HNX
        rw [HX3.out] at HSTV
        rw [HX4.out] at hst
        rw [HX5.out] at HNX
        have hrb3 := hrb.2.2
        clear hrb
        have e := e
        subst e
        have HC0 : Hid (wr.cell? ⟨vb, vo + i * 4, none⟩ = some (.int .i64 x0) ∧ wr.cell? ⟨vb, vo + i * 4 + 1, none⟩ = some (.int .i64 ar) ∧ wr.cell? ⟨vb, vo + i * 4 + 2, none⟩ = some (.int .i64 mx) ∧ wr.cell? ⟨vb, vo + i * 4 + 3, none⟩ = some (.int .i64 lv)) := ⟨c0, c1, c2, c3⟩
        clear c0 c1 c2 c3
        go_upto_region 14 with fail
        go_cut [16, 17] from 89 to 177 (fun s12 s13 wx => ∃ kb : Nat, s12 = .pointer (some ⟨kb, 0, none⟩) ∧ (∃ t, s13 = .bool t) ∧ Below wr.heap.size wr wx ∧ wx.heap[kb]? = some (.cells #[Value.int IntKind.i64 x0, Value.int IntKind.i64 x1, Value.int IntKind.i64 x2, Value.int IntKind.i64 x3, Value.int IntKind.i64 x4, Value.int IntKind.i64 x5] 43 (0, 0)))
        case first =>
          have HIL : Hid (i < L.length) := by show _ < _; rw [HM.out]; exact hlt
          have kS := KC.keepI (KR.out.below (Below.refl _ _).drew) HIL.out HID.out
          have k0 := KC.keepI (KR.out.below ((Below.refl _ _).alloc (Nat.le_refl _) (Obj.cells #[Value.int IntKind.i64 0, Value.int IntKind.i64 0, Value.int IntKind.i64 0, Value.int IntKind.i64 0, Value.int IntKind.i64 0, Value.int IntKind.i64 0] 43)).drew) HIL.out HID.out
          clear d0 d1 d2 d3 d4 e0 e1 hid
          go_region_held3 (fun W => W.cell? ⟨k, 0, none⟩ = some (.int .i64 n) ∧ W.cell? ⟨k, 1, none⟩ = some (.slice (some ⟨g, 0, none⟩) zl cg) ∧ W.cell? ⟨k, 2, none⟩ = some (.slice (some ⟨go, 0, none⟩) ko co) ∧ W.cell? ⟨k, 3, none⟩ = some (.slice (some ⟨gv, 0, none⟩) kv cv) ∧ W.cell? ⟨k, 4, none⟩ = some (.int .i64 fi) ∧ W.cell? ⟨kr, 1, none⟩ = some (.slice (some ⟨sb, so, none⟩) m co2) ∧ W.cell? ⟨sb, so + i, none⟩ = some (.int .i64 id)) (first | with_reducible exact kS | with_reducible exact k0 | with_reducible exact kB | with_reducible exact kA | with_reducible exact kT | go_keep) ((first
            | (go_at_call 12
               with_reducible refine (IOO.out wr.drew (KR.out.below (Below.refl _ _).drew)).mono ?_
               rintro e wa ⟨⟨t, rfl⟩, hb⟩
               have HBA : Hid (Below wr.heap.size wr wa) := ((Below.refl wr.heap.size wr).drew).trans (hb.mono (Nat.le_refl _))
               have kS := KC.keepI (KR.out.below HBA.out) HIL.out HID.out
               have kB := KC.keepI (KR.out.below (HBA.out.alloc HBA.out.size (Obj.cells #[Value.int IntKind.i64 0, Value.int IntKind.i64 0, Value.int IntKind.i64 0, Value.int IntKind.i64 0, Value.int IntKind.i64 0, Value.int IntKind.i64 0] 43))) HIL.out HID.out
               have kA := KC.keepI (KR.out.below (HBA.out.alloc HBA.out.size (Obj.cells #[Value.int IntKind.i64 x0, Value.int IntKind.i64 x1, Value.int IntKind.i64 x2, Value.int IntKind.i64 x3, Value.int IntKind.i64 x4, Value.int IntKind.i64 x5] 43))) HIL.out HID.out
               clear hb)
            | (go_at_call 12
               with_reducible refine (IOO.out (wr.alloc (Obj.cells #[Value.int IntKind.i64 0, Value.int IntKind.i64 0, Value.int IntKind.i64 0, Value.int IntKind.i64 0, Value.int IntKind.i64 0, Value.int IntKind.i64 0] 43)).drew (KR.out.below ((Below.refl _ _).alloc (Nat.le_refl _) _).drew)).mono ?_
               rintro e wa ⟨⟨t, rfl⟩, hb⟩
               have hbx : wa.heap[wr.heap.size]? = some (.cells #[Value.int IntKind.i64 0, Value.int IntKind.i64 0, Value.int IntKind.i64 0, Value.int IntKind.i64 0, Value.int IntKind.i64 0, Value.int IntKind.i64 0] 43 (0, 0)) := below_row hb (by simp) (heap_alloc_new _ _)
               obtain ⟨z0, z1, z2, z3, z4, z5⟩ := cells6z hbx
               have zf := fun i => frozen_of_row _ _ i _ _ hbx
               have hwa : Below wr.heap.size wr wa := (((Below.refl wr.heap.size wr).alloc (Nat.le_refl _) (Obj.cells #[Value.int IntKind.i64 0, Value.int IntKind.i64 0, Value.int IntKind.i64 0, Value.int IntKind.i64 0, Value.int IntKind.i64 0, Value.int IntKind.i64 0] 43)).drew).trans (hb.mono (by simp))
               have HB6 : Hid (Below wr.heap.size wr ((((((wa.setCell ⟨wr.heap.size, 0, none⟩ (.int .i64 x0)).setCell ⟨wr.heap.size, 1, none⟩ (.int .i64 x1)).setCell ⟨wr.heap.size, 2, none⟩ (.int .i64 x2)).setCell ⟨wr.heap.size, 3, none⟩ (.int .i64 x3)).setCell ⟨wr.heap.size, 4, none⟩ (.int .i64 x4)).setCell ⟨wr.heap.size, 5, none⟩ (.int .i64 x5))) := ((((((hwa.setCell (by simp) _).setCell (by simp) _).setCell (by simp) _).setCell (by simp) _).setCell (by simp) _).setCell (by simp) _)
               have HR6 : Hid (((((((wa.setCell ⟨wr.heap.size, 0, none⟩ (.int .i64 x0)).setCell ⟨wr.heap.size, 1, none⟩ (.int .i64 x1)).setCell ⟨wr.heap.size, 2, none⟩ (.int .i64 x2)).setCell ⟨wr.heap.size, 3, none⟩ (.int .i64 x3)).setCell ⟨wr.heap.size, 4, none⟩ (.int .i64 x4)).setCell ⟨wr.heap.size, 5, none⟩ (.int .i64 x5)).heap[wr.heap.size]? = some (.cells #[Value.int IntKind.i64 x0, Value.int IntKind.i64 x1, Value.int IntKind.i64 x2, Value.int IntKind.i64 x3, Value.int IntKind.i64 x4, Value.int IntKind.i64 x5] 43 (0, 0))) := by
                 have := row_put (i := 5) (.int .i64 x5) (row_put (i := 4) (.int .i64 x4) (row_put (i := 3) (.int .i64 x3) (row_put (i := 2) (.int .i64 x2) (row_put (i := 1) (.int .i64 x1) (row_put (i := 0) (.int .i64 x0) hbx)))))
                 show _ = _
                 simpa using this
               have kS := KC.keepI (KR.out.below hwa) HIL.out HID.out
               have kT := KC.keepI (KR.out.below HB6.out) HIL.out HID.out
               clear hb hbx hwa)))
          all_goals (try go_wp2_with fail)
          all_goals go_meet
          all_goals first
            | with_reducible exact ⟨_, rfl, ⟨_, rfl⟩, HB6.out, HR6.out⟩
            | with_reducible exact ⟨_, rfl, ⟨_, rfl⟩, HBA.out.alloc HBA.out.size _, heap_alloc_new _ _⟩
        case rest =>
          clear d0 d1 d2 d3 d4 e0 e1 hid IOO
          obtain ⟨kb, rfl, ⟨t13, rfl⟩, hbx, hx⟩ := hcut
          have HBX : Hid (Below wr.heap.size wr wc) := hbx
          have KX : Hid (KC w wc k kr #[.int .i64 n, .slice (some ⟨g, 0, none⟩) zl cg, .slice (some ⟨go, 0, none⟩) ko co, .slice (some ⟨gv, 0, none⟩) kv cv, .int .i64 fi] #[.int .i64 veh, .slice (some ⟨sb, so, none⟩) m co2] g go gv zs O V (some ⟨sb, so, none⟩) L) := KR.out.below hbx
          obtain ⟨o0, o1, o2, o3, o4, o5⟩ := cells6z hx
          obtain ⟨d0, d1, d2, d3, d4⟩ := cells5z KX.out.b1
          obtain ⟨v0, v1, v2, v3⟩ := HC0.out
          have v0 := (hbx.cell (p := ⟨vb, vo + i * 4, none⟩) (block_lt_of_cell v0)).trans v0
          have v1 := (hbx.cell (p := ⟨vb, vo + i * 4 + 1, none⟩) (block_lt_of_cell v1)).trans v1
          have v2 := (hbx.cell (p := ⟨vb, vo + i * 4 + 2, none⟩) (block_lt_of_cell v2)).trans v2
          have v3 := (hbx.cell (p := ⟨vb, vo + i * 4 + 3, none⟩) (block_lt_of_cell v3)).trans v3
          have HXR : Hid (wc.heap[kb]? = some (.cells #[Value.int IntKind.i64 x0, Value.int IntKind.i64 x1, Value.int IntKind.i64 x2, Value.int IntKind.i64 x3, Value.int IntKind.i64 x4, Value.int IntKind.i64 x5] 43 (0, 0))) := hx
          clear hbx hx
          have hor : (nw + dd < x3 ∧ mx = x3) ∨ (x3 ≤ nw + dd ∧ mx = nw + dd) := by
            have := HSTV.out
            omega
          have har := HARV.out
          have hlv := HNX.out
          have w1a : wrap64 (nw + dd) = ar := by rw [← har]; exact IntWalk.wrap64_in _ (by omega)
          have w1b : IntKind.i64.wrap (nw + dd) = ar := by rw [← har, IntKind.wrap_i64]; omega
          have w2a : wrap64 (mx + x5) = lv := by rw [← hlv]; exact IntWalk.wrap64_in _ (by omega)
          have w2b : IntKind.i64.wrap (mx + x5) = lv := by rw [← hlv, IntKind.wrap_i64]; omega
          have hxx : (x0 != x0) = false := by simp
          have haa : (ar != ar) = false := by simp
          have hmm : (mx != mx) = false := by simp
          have hll : (lv != lv) = false := by simp
          have hgt : decide (x4 < mx) = false := decide_eq_false (by omega)
          have HC : ∀ s : Kin wc, Calls Try.prog 13 #[.agg #[.int .i64 n, .slice (some ⟨g, 0, none⟩) zl cg], .int .i64 pl, .int .i64 x1] s.w fun e w' => e = .returned (.int .i64 dd) ∧ Below s.w.heap.size s.w w' := fun s => by
            have := TIM.out s.w pl x1 HPI.out HD1.out (KX.out.below s.below)
            rw [HDD.out] at this
            exact this
          rw [← har] at hor
          have hmv9 : (ar < x3 ∧ mx = x3) ∨ (¬ ar < x3 ∧ mx = ar) := by omega
          clear hor har hlv
          rcases hmv9 with ⟨hmx, e9⟩ | ⟨hmx, e9⟩
          all_goals
            subst e9
            go_wp2_with fail
            have q0 := fun s : Kin wc => s.cell o0
            have q1 := fun s : Kin wc => s.cell o1
            have q3 := fun s : Kin wc => s.cell o3
            have q4 := fun s : Kin wc => s.cell o4
            have q5 := fun s : Kin wc => s.cell o5
            have p0 := fun s : Kin wc => s.cell d0
            have p1 := fun s : Kin wc => s.cell d1
            have u0 := fun s : Kin wc => s.cell v0
            have u1 := fun s : Kin wc => s.cell v1
            have u2 := fun s : Kin wc => s.cell v2
            have u3 := fun s : Kin wc => s.cell v3
            have hkin := Kin.there wc
            refine wp_region_kin (by kernel_rfl) (by kernel_rfl) ?_
            repeat (go_big_quiet_step ((go_at_call 13; exact Kin.call (HC _))))
            refine wpQuiet_nil ?_
            rintro _ ⟨s, rfl⟩
            have HB9 : Hid (Below W7.heap.size W7 s.w) := (HBW.out.trans (HBX.out.mono HBW.out.size)).trans (s.below.mono (HBW.out.trans (HBX.out.mono HBW.out.size)).size)
            have o1 := s.cell o1
            have v3 := s.cell v3
            clear q0 q1 q3 q4 q5 p0 p1 u0 u1 u2 u3 hkin HC
            generalize s.w = W9 at *
            go_wp2
            go_roundw
            case rel => exact ⟨i + 1, by omega, by first | rfl | go_num, by rw [HLV.out], by rw [HPN.out], HB9.out⟩
            case measure => simp [intOf]; omega
      · have him : i = m := by omega
        subst him
        clear hlt hi
        clear d0 d1 d2 d3 d4 e0 e1 HNB HPB
        obtain ⟨d2, HD2⟩ : ∃ x, Hid (tmI n zs pl hm0 = x) := ⟨_, rfl⟩
        have hd2b := tmI_bd HMB.out pl hm0
        rw [HD2.out] at hd2b
        have HHH : Hid (0 ≤ hm0 ∧ hm0 < n) := hvb.1
        have hhe : hmv = nw + d2 := by
          rw [← HHV.out]
          unfold homeV
          rw [HNW.out, HPL.out, HD2.out]
        have w1a : wrap64 (nw + d2) = hmv := by rw [hhe]; exact IntWalk.wrap64_in _ (by omega)
        have w1b : IntKind.i64.wrap (nw + d2) = hmv := by rw [hhe, IntKind.wrap_i64]; omega
        have hle : decide (hmv ≤ tz) = true := decide_eq_true hhv
        have hlr : decide (ld ≤ rm) = true := decide_eq_true HLR
        clear hhe HLR
        have KS : Hid (∀ W, Below W7.heap.size W7 W → W.cell? ⟨k, 0, none⟩ = some (.int .i64 n) ∧ W.cell? ⟨k, 1, none⟩ = some (.slice (some ⟨g, 0, none⟩) zl cg) ∧ W.cell? ⟨k, 2, none⟩ = some (.slice (some ⟨go, 0, none⟩) ko co) ∧ W.cell? ⟨k, 3, none⟩ = some (.slice (some ⟨gv, 0, none⟩) kv cv) ∧ W.cell? ⟨k, 4, none⟩ = some (.int .i64 fi) ∧ W.cell? ⟨kr, 0, none⟩ = some (.int .i64 veh) ∧ W.cell? ⟨kr, 1, none⟩ = some (.slice ao i co2) ∧ W.cell? ⟨k7, 1, none⟩ = some (.int .i64 hm0) ∧ W.cell? ⟨k7, 2, none⟩ = some (.int .i64 rm) ∧ W.cell? ⟨k7, 4, none⟩ = some (.int .i64 tz)) := fun W hB => by
          obtain ⟨d0, d1, d2, d3, d4⟩ := cells5z (K7.out.1.below hB).b1
          obtain ⟨e0, e1⟩ := cells2 (K7.out.1.below hB).b2
          obtain ⟨-, y1, y2, -, y4⟩ := cells5z (below_row hB (row_lt K7.out.2) K7.out.2)
          exact ⟨d0, d1, d2, d3, d4, e0, e1, y1, y2, y4⟩
        have ITI : Hid (∀ W, Below W7.heap.size W7 W → Calls Try.prog 13 #[.agg #[.int .i64 n, .slice (some ⟨g, 0, none⟩) zl cg], .int .i64 pl, .int .i64 hm0] W fun e w' => e = .returned (.int .i64 d2) ∧ Below W.heap.size W w') := fun W hB => by
          have := TIM.out W pl hm0 HPI.out HHH.out (K7.out.1.below hB)
          rw [HD2.out] at this
          exact this
        have IST : Hid (∀ W, Below W7.heap.size W7 W → Calls Try.prog 15 #[.slice av i cav] W fun e w' => ∃ g cg, e = .returned (.slice (some ⟨g, 0, none⟩) i cg) ∧ Below W.heap.size W w' ∧ IntsAt w' (some ⟨g, 0, none⟩) (strL vis i)) := fun W hB => by
          refine (startsOf_any av cav i vis W (I7.out.below hB) HVL.out (by omega)).mono ?_
          rintro e w' ⟨g9, c9, rfl, hb9, ho9⟩
          exact ⟨g9, c9, rfl, hb9, owns_ints ho9⟩
        have IKE : Hid (∀ W gq cq, Below W7.heap.size W7 W → IntsAt W (some ⟨gq, 0, none⟩) (strL vis i) → Calls Try.prog 14 #[.agg #[.int .i64 n, .slice (some ⟨g, 0, none⟩) zl cg, .slice (some ⟨go, 0, none⟩) ko co, .slice (some ⟨gv, 0, none⟩) kv cv, .int .i64 fi], .agg #[.int .i64 veh, .slice ao i co2], .slice (some ⟨gq, 0, none⟩) i cq] W fun e w' => e = .returned (.bool true) ∧ Below W.heap.size W w') := fun W gq cq hB hI => by
          have h := K7.out.1.below hB
          have := implKeeps_any n fi veh (some ⟨g, 0, none⟩) (some ⟨go, 0, none⟩) (some ⟨gv, 0, none⟩) ao cg ko co kv cv co2 (some ⟨gq, 0, none⟩) cq zs O V L (strL vis i) W h.iz h.io h.iv h.il HO.out HV.out (by omega) (by omega) (by rw [HM.out]; omega) (by rw [HM.out]; exact hmc) hI
          rw [HZ.out, HM.out, strL_length, HCB.out, HKE.out] at this
          exact this
        have ILO : Hid (∀ W, Below W7.heap.size W7 W → Calls Try.prog 16 #[.agg #[.int .i64 n, .slice (some ⟨g, 0, none⟩) zl cg, .slice (some ⟨go, 0, none⟩) ko co, .slice (some ⟨gv, 0, none⟩) kv cv, .int .i64 fi], .slice ao i co2] W fun e w' => e = .returned (.int .i64 ld) ∧ Below W.heap.size W w') := fun W hB => by
          have h := K7.out.1.below hB
          have := implLoad_any n fi (some ⟨g, 0, none⟩) (some ⟨go, 0, none⟩) (some ⟨gv, 0, none⟩) ao cg ko co kv cv co2 zs O V L W h.iz h.io h.iv h.il HO.out HV.out (by omega) (by omega) (by rw [HM.out]; omega)
          rw [HZ.out, HM.out, HCB.out, HLD.out] at this
          exact this
        have kS := KS.out _ (HBW.out.drew)
        clear TIM KR IR HNW HPL
        go_wp2_with fail
        go_region_held3 (fun W => W.cell? ⟨k, 0, none⟩ = some (.int .i64 n) ∧ W.cell? ⟨k, 1, none⟩ = some (.slice (some ⟨g, 0, none⟩) zl cg) ∧ W.cell? ⟨k, 2, none⟩ = some (.slice (some ⟨go, 0, none⟩) ko co) ∧ W.cell? ⟨k, 3, none⟩ = some (.slice (some ⟨gv, 0, none⟩) kv cv) ∧ W.cell? ⟨k, 4, none⟩ = some (.int .i64 fi) ∧ W.cell? ⟨kr, 0, none⟩ = some (.int .i64 veh) ∧ W.cell? ⟨kr, 1, none⟩ = some (.slice ao i co2) ∧ W.cell? ⟨k7, 1, none⟩ = some (.int .i64 hm0) ∧ W.cell? ⟨k7, 2, none⟩ = some (.int .i64 rm) ∧ W.cell? ⟨k7, 4, none⟩ = some (.int .i64 tz)) (first | with_reducible exact kS | go_keep) ((first
          | (go_at_call 13
             with_reducible refine (ITI.out wr.drew HBW.out.drew).mono ?_
             rintro e wa ⟨rfl, hb⟩
             have HBA : Hid (Below W7.heap.size W7 wa) := HBW.out.drew.trans (hb.mono HBW.out.drew.size)
             have kS := KS.out _ HBA.out
             clear hb)
          | (go_at_call 15
             with_reducible refine (IST.out wa HBA.out).mono ?_
             rintro e wb ⟨gq, cq, rfl, hb, hi9⟩
             have HBB : Hid (Below W7.heap.size W7 wb) := HBA.out.trans (hb.mono HBA.out.size)
             have HIB : Hid (IntsAt wb (some ⟨gq, 0, none⟩) (strL vis i)) := hi9
             have kS := KS.out _ HBB.out
             clear hb hi9)
          | (go_at_call 14
             with_reducible refine (IKE.out wb gq cq HBB.out HIB.out).mono ?_
             rintro e wd ⟨rfl, hb⟩
             have HBD : Hid (Below W7.heap.size W7 wd) := HBB.out.trans (hb.mono HBB.out.size)
             have kS := KS.out _ HBD.out
             clear hb)
          | (go_at_call 16
             with_reducible refine (ILO.out wd HBD.out).mono ?_
             rintro e we ⟨rfl, hb⟩
             have HBE : Hid (Below W7.heap.size W7 we) := HBD.out.trans (hb.mono HBD.out.size)
             have kS := KS.out _ HBE.out
             clear hb)))
        all_goals
          go_wp2
          go_ret
          exact ⟨by first | rfl | simp, K7.out.1.b.trans (HBE.out.mono K7.out.1.b.size)⟩

theorem lawFnEarliest_all (a : Option Addr) (c : Nat) (bs : List Int) (w : World) (hA : CodeAt w a bs) (hl : bs.length ≤ 9223372036854775807) :
    Calls Try.prog 3 #[.slice a bs.length c] w fun e w' => e = .returned (.bool true) ∧ Below w.heap.size w w' := by
  by_cases h : bs.length ≤ 1048576
  · exact lawFnEarliest a c bs w hA h
  · exact lawFnEarliest_big a c _ w hl (by omega)

end Go.Proofs.Ytocnlgmcjdggaaa
