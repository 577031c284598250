import Derived.Test.YtocnlgmcjdggaaaPack0
import Derived.Test.YtocnlgmcjdggaaaPack2
import Derived.Test.YtocnlgmcjdggaaaPack15
import Derived.Test.YtocnlgmcjdggaaaPack16
import Derived.Test.YtocnlgmcjdggaaaDrawKeeps
import Derived.Test.YtocnlgmcjdggaaaPack20
import Derived.Test.YtocnlgmcjdggaaaImplLatest
import Derived.Deep.CutRange
namespace Go.Proofs.Ytocnlgmcjdggaaa
open Go.RowKit

set_option maxRecDepth 10000 in
set_option maxHeartbeats 400000 in
theorem lawFnBetween_big (a : Option Addr) (c len : Nat) (w : World) (hl : len ≤ 9223372036854775807) (h : 1048576 < len) :
    Calls Try.prog 4 #[.slice a len c] w fun e w' => e = .returned (.bool true) ∧ Below w.heap.size w w' := by
  have hd : decide (1048576 < len) = true := decide_eq_true h
  go_enter Try.func4, Try.ntmps4
  go_wp2_with (go_at_call 7; refine (big_any a c len w hl).mono ?_; rintro e w1 ⟨rfl, hw1⟩; subst w1; rw [hd])
  go_ret
  exact ⟨rfl, Below.refl _ _⟩

/-- Whatever starts keep all hours lie between the earliest and the latest ones, and the route can be driven. -/
theorem keeps_between {c : Bool} {n : Int} {zs os vs : List Int} {ko kv : Nat} {veh : Int} {ids starts : List Int} (h : keepsV c n zs os vs ko kv veh ids starts = true) : codeV c n zs os vs ko kv veh ids = 0 ∧ starts.length = ids.length ∧ ∀ i, i < ids.length → startV n zs (rosOf os ko ids) (fnd5F vs kv veh 1) (fnd5F vs kv veh 3) i ≤ starts.getD i 0 ∧ starts.getD i 0 ≤ latT n zs (rosOf os ko ids) ids.length (fnd5F vs kv veh 1) (fnd5F vs kv veh 4) (ids.length - i) := by
  by_cases h1 : formV c vs os kv ko veh ids = 0 ∧ starts.length = ids.length
  · rw [keepsV_yes h1.1 h1.2] at h
    refine ⟨?_, h1.2, fun i hi => ⟨(kept_early h ids.length (Nat.le_refl _)).2 i hi, ?_⟩⟩
    · rw [codeV_hours h1.1]
      exact kept_hours h
    · have h9 := (kept_late h (ids.length - i) (by omega)).2 (by omega)
      rw [show ids.length - (ids.length - i) = i from by omega] at h9
      exact h9
  · rw [keepsV_no h1] at h
    cases h
theorem owns_at4b {w : World} {base m : Nat} {e : TypeId} {sl : Value} {xs : List Int} (h : w.ownsRow base e 4 sl m (xs.map (Value.int .i64))) (hx : xs.length = m * 4) : ∃ a c, sl = .slice a m c ∧ IntsAt w a xs := by
  rcases own_shape h with rfl | ⟨g, c, rfl⟩
  · have hm : m = 0 := by
      obtain ⟨_, ⟨_, h2⟩ | ⟨_, _, _, h3, _⟩⟩ := h
      · exact h2
      · cases h3
    subst hm
    exact ⟨none, 0, rfl, fun j hj => by omega⟩
  · exact ⟨_, c, rfl, owns_ints h⟩

set_option maxRecDepth 10000 in
set_option maxHeartbeats 8000000 in
theorem lawFnBetween (a : Option Addr) (ca : Nat) (bs : List Int) (w : World) (hA : CodeAt w a bs) (hl : bs.length ≤ 1048576) :
    Calls Try.prog 4 #[.slice a bs.length ca] w fun e w' => e = .returned (.bool true) ∧ Below w.heap.size w w' := by
  have HA : Hid (CodeAt w a bs) := hA
  clear hA
  have hd : decide (1048576 < bs.length) = false := decide_eq_false (by omega)
  go_enter Try.func4, Try.ntmps4
  go_wp2_with fail
  refine (big_any a ca bs.length w (by omega)).mono ?_
  rintro e w1 ⟨rfl, hw1⟩
  subst w1
  rw [hd]
  clear hd
  go_wp2_with fail
  refine (drawKeeps_any a ca bs w HA.out hl).mono ?_
  rintro e w1 ⟨n, g, zl, cg, go, ko, co, gv, kv, cv, zs, O, V, L, fi, veh, ao, m, co2, gs, ks, cs, S, rfl, ⟨hz, hO, hV, hko1, hko5, hkv1, hkv3⟩, ⟨hm, hm4, hmc⟩, ⟨hS, hks⟩, hb, iz, io, iv, il, is⟩
  obtain ⟨N, HLb⟩ : ∃ v, Hid (bs.length = v) := ⟨_, rfl⟩
  rw [HLb.out] at hl ⊢
  have HM : Hid (L.length = m) := hm
  have HZ : Hid (zs.length = zl) := hz
  have HO : Hid (O.length = ko * 6) := hO
  have HV : Hid (V.length = kv * 5) := hV
  have HSS : Hid (S.length = ks) := hS
  have ha : Below w1.heap.size w1 ((w1.alloc (.cells #[.int .i64 n, .slice (some ⟨g, 0, none⟩) zl cg, .slice (some ⟨go, 0, none⟩) ko co, .slice (some ⟨gv, 0, none⟩) kv cv, .int .i64 fi] 30)).alloc (.cells #[.int .i64 veh, .slice ao m co2] 32)) := ((Below.refl _ _).alloc (Nat.le_refl _) _).alloc (by simp) _
  have K1 : Hid (KC w ((w1.alloc (.cells #[.int .i64 n, .slice (some ⟨g, 0, none⟩) zl cg, .slice (some ⟨go, 0, none⟩) ko co, .slice (some ⟨gv, 0, none⟩) kv cv, .int .i64 fi] 30)).alloc (.cells #[.int .i64 veh, .slice ao m co2] 32)) w1.heap.size (w1.heap.size + 1) #[.int .i64 n, .slice (some ⟨g, 0, none⟩) zl cg, .slice (some ⟨go, 0, none⟩) ko co, .slice (some ⟨gv, 0, none⟩) kv cv, .int .i64 fi] #[.int .i64 veh, .slice ao m co2] g go gv zs O V ao L) := ⟨hb.trans (ha.mono hb.size), heap_alloc2_old _ _ _, heap_alloc2_new _ _ _, iz.below ha, io.below ha, iv.below ha, il.below ha⟩
  have I1 : Hid (IntsAt ((w1.alloc (.cells #[.int .i64 n, .slice (some ⟨g, 0, none⟩) zl cg, .slice (some ⟨go, 0, none⟩) ko co, .slice (some ⟨gv, 0, none⟩) kv cv, .int .i64 fi] 30)).alloc (.cells #[.int .i64 veh, .slice ao m co2] 32)) (some ⟨gs, 0, none⟩) S) := is.below ha
  clear hz hO hV hm hb iz io iv il hS is ha
  obtain ⟨cb, HCB⟩ : ∃ v, Hid (caseB n zs O V ko kv fi = v) := ⟨_, rfl⟩
  obtain ⟨v, HVV⟩ : ∃ x, Hid (keepsV cb n zs O V ko kv veh L S = x) := ⟨_, rfl⟩
  have IKE : Hid (∀ W k kr, KC w W k kr #[.int .i64 n, .slice (some ⟨g, 0, none⟩) zl cg, .slice (some ⟨go, 0, none⟩) ko co, .slice (some ⟨gv, 0, none⟩) kv cv, .int .i64 fi] #[.int .i64 veh, .slice ao m co2] g go gv zs O V ao L → IntsAt W (some ⟨gs, 0, none⟩) S → Calls Try.prog 14 #[.agg #[.int .i64 n, .slice (some ⟨g, 0, none⟩) zl cg, .slice (some ⟨go, 0, none⟩) ko co, .slice (some ⟨gv, 0, none⟩) kv cv, .int .i64 fi], .agg #[.int .i64 veh, .slice ao m co2], .slice (some ⟨gs, 0, none⟩) ks cs] W fun e w' => e = .returned (.bool v) ∧ Below W.heap.size W w') := fun W k kr h hI => by
    have := implKeeps_any n fi veh (some ⟨g, 0, none⟩) (some ⟨go, 0, none⟩) (some ⟨gv, 0, none⟩) ao cg ko co kv cv co2 (some ⟨gs, 0, none⟩) cs zs O V L S W h.iz h.io h.iv h.il HO.out HV.out (by omega) (by omega) (by rw [HM.out]; omega) (by rw [HM.out]; exact hmc) hI
    rw [HZ.out, HM.out, HSS.out, HCB.out, HVV.out] at this
    exact this
  have SKE : Hid (∀ W k kr, KC w W k kr #[.int .i64 n, .slice (some ⟨g, 0, none⟩) zl cg, .slice (some ⟨go, 0, none⟩) ko co, .slice (some ⟨gv, 0, none⟩) kv cv, .int .i64 fi] #[.int .i64 veh, .slice ao m co2] g go gv zs O V ao L → IntsAt W (some ⟨gs, 0, none⟩) S → Calls Try.prog 18 #[.agg #[.int .i64 n, .slice (some ⟨g, 0, none⟩) zl cg, .slice (some ⟨go, 0, none⟩) ko co, .slice (some ⟨gv, 0, none⟩) kv cv, .int .i64 fi], .agg #[.int .i64 veh, .slice ao m co2], .slice (some ⟨gs, 0, none⟩) ks cs] W fun e w' => e = .returned (.bool v) ∧ Below W.heap.size W w') := fun W k kr h hI => by
    have := specKeeps_any n fi veh (some ⟨g, 0, none⟩) (some ⟨go, 0, none⟩) (some ⟨gv, 0, none⟩) ao cg ko co kv cv co2 (some ⟨gs, 0, none⟩) cs zs O V L S W h.iz h.io h.iv h.il HO.out HV.out (by omega) (by omega) (by rw [HM.out]; omega) (by rw [HM.out]; exact hmc) hI
    rw [HZ.out, HM.out, HSS.out, HCB.out, HVV.out] at this
    exact this
  obtain ⟨d0, d1, d2, d3, d4⟩ := cells5z K1.out.b1
  obtain ⟨e0, e1⟩ := cells2 K1.out.b2
  go_wp2_with fail
  generalize (w1.alloc (.cells #[.int .i64 n, .slice (some ⟨g, 0, none⟩) zl cg, .slice (some ⟨go, 0, none⟩) ko co, .slice (some ⟨gv, 0, none⟩) kv cv, .int .i64 fi] 30)).alloc (.cells #[.int .i64 veh, .slice ao m co2] 32) = W1 at *
  obtain ⟨k, HK⟩ : ∃ v, Hid (w1.heap.size = v) := ⟨_, rfl⟩
  rw [HK.out] at K1 d0 d1 d2 d3 d4 e0 e1 ⊢
  obtain ⟨kr, HKR⟩ : ∃ v, Hid (k + 1 = v) := ⟨_, rfl⟩
  rw [HKR.out] at K1 e0 e1 ⊢
  refine (IKE.out _ _ _ K1.out I1.out).mono ?_
  rintro e w2 ⟨rfl, hb⟩
  have K2 : Hid (KC w w2 k kr #[.int .i64 n, .slice (some ⟨g, 0, none⟩) zl cg, .slice (some ⟨go, 0, none⟩) ko co, .slice (some ⟨gv, 0, none⟩) kv cv, .int .i64 fi] #[.int .i64 veh, .slice ao m co2] g go gv zs O V ao L) := K1.out.below hb
  have I2 : Hid (IntsAt w2 (some ⟨gs, 0, none⟩) S) := I1.out.below hb
  clear hb K1 I1 d0 d1 d2 d3 d4 e0 e1
  obtain ⟨d0, d1, d2, d3, d4⟩ := cells5z K2.out.b1
  obtain ⟨e0, e1⟩ := cells2 K2.out.b2
  go_wp2_with fail
  refine (SKE.out _ _ _ K2.out I2.out).mono ?_
  rintro e w3 ⟨rfl, hb⟩
  have K3 : Hid (KC w w3 k kr #[.int .i64 n, .slice (some ⟨g, 0, none⟩) zl cg, .slice (some ⟨go, 0, none⟩) ko co, .slice (some ⟨gv, 0, none⟩) kv cv, .int .i64 fi] #[.int .i64 veh, .slice ao m co2] g go gv zs O V ao L) := K2.out.below hb
  have I3 : Hid (IntsAt w3 (some ⟨gs, 0, none⟩) S) := I2.out.below hb
  clear hb K2 I2 d0 d1 d2 d3 d4 e0 e1
  obtain ⟨d0, d1, d2, d3, d4⟩ := cells5z K3.out.b1
  obtain ⟨e0, e1⟩ := cells2 K3.out.b2
  cases v
  · go_wp2_with fail
    refine (SKE.out _ _ _ K3.out I3.out).mono ?_
    rintro e w4 ⟨rfl, hb⟩
    have K4 : Hid (KC w w4 k kr #[.int .i64 n, .slice (some ⟨g, 0, none⟩) zl cg, .slice (some ⟨go, 0, none⟩) ko co, .slice (some ⟨gv, 0, none⟩) kv cv, .int .i64 fi] #[.int .i64 veh, .slice ao m co2] g go gv zs O V ao L) := K3.out.below hb
    clear hb K3 I3 d0 d1 d2 d3 d4 e0 e1
    go_wp2
    go_ret
    exact ⟨by first | rfl | simp, K4.out.b⟩
  · obtain ⟨hcode, hlen, hbt⟩ := keeps_between HVV.out
    have hcbt : cb = true := (formV_zero (codeV_zero hcode).1).1
    subst hcbt
    rw [HM.out, HSS.out] at hlen
    rw [HM.out] at hbt
    subst hlen
    obtain ⟨ros, HROS⟩ : ∃ r, Hid (rosOf O ko L = r) := ⟨_, rfl⟩
    obtain ⟨hm0, HHM⟩ : ∃ x, Hid (fnd5F V kv veh 1 = x) := ⟨_, rfl⟩
    obtain ⟨fr, HFR⟩ : ∃ x, Hid (fnd5F V kv veh 3 = x) := ⟨_, rfl⟩
    obtain ⟨tz, HTO⟩ : ∃ x, Hid (fnd5F V kv veh 4 = x) := ⟨_, rfl⟩
    rw [HROS.out, HHM.out, HFR.out, HTO.out] at hbt
    have HBT : Hid (∀ i, i < ks → startV n zs ros hm0 fr i ≤ S.getD i 0 ∧ S.getD i 0 ≤ latT n zs ros ks hm0 tz (ks - i)) := hbt
    have ISC : Hid (∀ W, KC w W k kr #[.int .i64 n, .slice (some ⟨g, 0, none⟩) zl cg, .slice (some ⟨go, 0, none⟩) ko co, .slice (some ⟨gv, 0, none⟩) kv cv, .int .i64 fi] #[.int .i64 veh, .slice ao ks co2] g go gv zs O V ao L → Calls Try.prog 9 #[.agg #[.int .i64 n, .slice (some ⟨g, 0, none⟩) zl cg, .slice (some ⟨go, 0, none⟩) ko co, .slice (some ⟨gv, 0, none⟩) kv cv, .int .i64 fi], .agg #[.int .i64 veh, .slice ao ks co2]] W fun e w' => Below W.heap.size W w' ∧ ∃ av c h, e = .returned (.tuple #[.slice av ks c, .int .i64 h, .int .i64 0]) ∧ IntsAt w' av (visL n zs ros hm0 fr ks)) := fun W h => by
      have := implSchedule_any n fi veh (some ⟨g, 0, none⟩) (some ⟨go, 0, none⟩) (some ⟨gv, 0, none⟩) ao cg ko co kv cv co2 zs O V L W h.iz h.io h.iv h.il HO.out HV.out (by omega) (by omega) (by rw [HM.out]; omega) (by rw [HM.out]; exact hmc)
      rw [HZ.out, HM.out, HCB.out, HROS.out, HHM.out, HFR.out] at this
      refine this.mono ?_
      rintro e w' ⟨hb, ⟨hc, _⟩ | ⟨_, sl, rfl, ho⟩⟩
      · exact absurd hcode hc
      · obtain ⟨av, c9, e9, hi9⟩ := owns_at4b ho (visL_length _ _ _ _ _ _)
        subst e9
        exact ⟨hb, _, _, _, rfl, hi9⟩
    have ILA : Hid (∀ W, KC w W k kr #[.int .i64 n, .slice (some ⟨g, 0, none⟩) zl cg, .slice (some ⟨go, 0, none⟩) ko co, .slice (some ⟨gv, 0, none⟩) kv cv, .int .i64 fi] #[.int .i64 veh, .slice ao ks co2] g go gv zs O V ao L → Calls Try.prog 19 #[.agg #[.int .i64 n, .slice (some ⟨g, 0, none⟩) zl cg, .slice (some ⟨go, 0, none⟩) ko co, .slice (some ⟨gv, 0, none⟩) kv cv, .int .i64 fi], .agg #[.int .i64 veh, .slice ao ks co2]] W fun e w' => Below W.heap.size W w' ∧ ∃ gl h, e = .returned (.tuple #[.slice (some ⟨gl, 0, none⟩) ks ks, .int .i64 h]) ∧ IntsAt w' (some ⟨gl, 0, none⟩) (latL n zs ros ks hm0 tz)) := fun W h => by
      have := implLatest_any n fi veh (some ⟨g, 0, none⟩) (some ⟨go, 0, none⟩) (some ⟨gv, 0, none⟩) ao cg ko co kv cv co2 zs O V L W h.iz h.io h.iv h.il HO.out HV.out (by omega) (by omega) (by rw [HM.out]; omega) (by rw [HM.out]; exact hmc)
      rw [HZ.out, HM.out, HCB.out, HROS.out, HHM.out, HTO.out] at this
      refine this.mono ?_
      rintro e w' ⟨hb, ⟨hc, _⟩ | ⟨_, gl, rfl, ho⟩⟩
      · exact absurd hcode hc
      · exact ⟨hb, _, _, rfl, owns_ints ho⟩
    clear hbt hcode IKE SKE
    go_wp2_with fail
    refine (ISC.out _ K3.out).mono ?_
    rintro e w4 ⟨hb, av, cav, h9, rfl, hvi⟩
    have K4 : Hid (KC w w4 k kr #[.int .i64 n, .slice (some ⟨g, 0, none⟩) zl cg, .slice (some ⟨go, 0, none⟩) ko co, .slice (some ⟨gv, 0, none⟩) kv cv, .int .i64 fi] #[.int .i64 veh, .slice ao ks co2] g go gv zs O V ao L) := K3.out.below hb
    have I4 : Hid (IntsAt w4 (some ⟨gs, 0, none⟩) S ∧ IntsAt w4 av (visL n zs ros hm0 fr ks)) := ⟨I3.out.below hb, hvi⟩
    clear hb hvi K3 I3 d0 d1 d2 d3 d4 e0 e1 ISC
    obtain ⟨d0, d1, d2, d3, d4⟩ := cells5z K4.out.b1
    obtain ⟨e0, e1⟩ := cells2 K4.out.b2
    go_wp2_with fail
    refine (ILA.out _ K4.out).mono ?_
    rintro e w5 ⟨hb, gl, h8, rfl, hla⟩
    have B5 : Hid (Below w.heap.size w w5) := K4.out.b.trans (hb.mono K4.out.b.size)
    have I5 : Hid (IntsAt w5 (some ⟨gs, 0, none⟩) S ∧ IntsAt w5 av (visL n zs ros hm0 fr ks) ∧ IntsAt w5 (some ⟨gl, 0, none⟩) (latL n zs ros ks hm0 tz)) := ⟨I4.out.1.below hb, I4.out.2.below hb, hla⟩
    clear hb hla K4 I4 d0 d1 d2 d3 d4 e0 e1 ILA
    go_wp2_with fail
    go_loopw [12] (fun t wr => ∃ i : Nat, i ≤ ks ∧ t = .int .i64 i ∧ Below w5.heap.size w5 wr) (fun t _ => ks - (intOf t).toNat)
    case atStart => exact ⟨0, Nat.zero_le _, rfl, Below.refl _ _⟩
    case round =>
      obtain ⟨i, hi, rfl, hb⟩ := hrel
      have HB : Hid (Below w5.heap.size w5 wr) := hb
      clear hb
      by_cases hlt : i < ks
      · obtain ⟨hb1, hb2⟩ := HBT.out i hlt
        have c1 := ints_cell (I5.out.1.below HB.out) (j := i) (by rw [HSS.out]; exact hlt) rfl
        have c3 := ints_cell (I5.out.2.2.below HB.out) (j := i) (by rw [latL_length]; exact hlt) (latL_at n zs ros hm0 tz hlt)
        obtain ⟨vb, vo, ev, hcv⟩ := (I5.out.2.1.below HB.out).some (j := i * 4 + 2) (by rw [visL_length]; omega)
        have c2 := hcv (i * 4 + 2) (by rw [visL_length]; omega)
        rw [visL_at n zs ros hm0 fr hlt (by omega)] at c2
        simp only [visF, if_false, if_true, Nat.reduceEqDiff] at c2
        rw [show vo + (i * 4 + 2) = vo + i * 4 + 2 from by omega] at c2
        simp only [Nat.zero_add] at c1 c3
        clear hcv
        subst ev
        obtain ⟨s, HS⟩ : ∃ x, Hid (S.getD i 0 = x) := ⟨_, rfl⟩
        obtain ⟨st, HST⟩ : ∃ x, Hid (startV n zs ros hm0 fr i = x) := ⟨_, rfl⟩
        obtain ⟨lt, HLT⟩ : ∃ x, Hid (latT n zs ros ks hm0 tz (ks - i) = x) := ⟨_, rfl⟩
        rw [HS.out, HST.out] at hb1
        rw [HS.out, HLT.out] at hb2
        rw [HS.out] at c1
        rw [HST.out] at c2
        rw [HLT.out] at c3
        have hd1 : decide (s < st) = false := decide_eq_false (by omega)
        have hd2 : decide (lt < s) = false := decide_eq_false (by omega)
        go_wp2_with fail
        have q1 := fun x : Kin wr => x.cell c1
        have q2 := fun x : Kin wr => x.cell c2
        have q3 := fun x : Kin wr => x.cell c3
        have hkin := Kin.there wr
        refine wp_region_kin (by kernel_rfl) (by kernel_rfl) ?_
        repeat (go_big_quiet_step (fail))
        refine wpQuiet_nil ?_
        rintro _ ⟨s9, rfl⟩
        have HB9 : Hid (Below w5.heap.size w5 s9.w) := HB.out.trans (s9.below.mono HB.out.size)
        clear q1 q2 q3 hkin c1 c2 c3
        generalize s9.w = W9 at *
        go_wp2
        go_roundw
        case rel => exact ⟨i + 1, by omega, by first | rfl | go_num, HB9.out⟩
        case measure => simp [intOf]; omega
      · have him : i = ks := by omega
        subst him
        go_wp2
        go_ret
        exact ⟨by first | rfl | simp, B5.out.trans (HB.out.mono B5.out.size)⟩

theorem lawFnBetween_all (a : Option Addr) (c : Nat) (bs : List Int) (w : World) (hA : CodeAt w a bs) (hl : bs.length ≤ 9223372036854775807) :
    Calls Try.prog 4 #[.slice a bs.length c] w fun e w' => e = .returned (.bool true) ∧ Below w.heap.size w w' := by
  by_cases h : bs.length ≤ 1048576
  · exact lawFnBetween a c bs w hA h
  · exact lawFnBetween_big a c _ w hl (by omega)

end Go.Proofs.Ytocnlgmcjdggaaa
