import Derived.Test.YtfcplmageokdiaeSpecForm
import Derived.Test.YtfcplmageokdiaeTourKeeps
import Derived.Test.YtfcplmageokdiaeL1In
namespace Go.Proofs.Ytfcplmageokdiae
open Go.RowKit

theorem l1In_is (n lo hi : Int) (w : World) (v : Bool) (hv : inB n lo hi = v) :
    Calls Try.prog 65 #[.int .i64 n, .int .i64 lo, .int .i64 hi] w fun e w' => e = .returned (.bool v) ∧ w' = w := hv ▸ l1In_any n lo hi w
theorem l1Time_is (n x y : Int) (a : Option Addr) (cap : Nat) (zs : List Int) (w : World) (d : Int) (hd : tmI n zs x y = d) (hm : matB n zs = true) (hx : 0 ≤ x ∧ x < n) (hy : 0 ≤ y ∧ y < n) (hA : IntsAt w a zs) :
    Calls Try.prog 46 #[.agg #[.int .i64 n, .slice a zs.length cap], .int .i64 x, .int .i64 y] w fun e w' => e = .returned (.int .i64 d) ∧ Below w.heap.size w w' := hd ▸ l1Time_I n x y a cap zs w hm hx hy hA
theorem inB_max {s a b c : Int} {t : Bool} (h : inB s a c = t) (hb : ¬ s < b) : inB s (max a b) c = t := by
  rw [← h]
  unfold inB
  rw [decide_eq_decide]
  omega
theorem inB_max_lt {s a b c : Int} (hb : s < b) : inB s (max a b) c = false := inB_not (by omega)
theorem inB_max_no {s a b c : Int} (h : inB s a c = false) : inB s (max a b) c = false := inB_not (by have := inB_false h; omega)

set_option maxHeartbeats 1000000 in
theorem specKeeps_any (n fine veh : Int) (a ao av bi : Option Addr) (cap ko co kv cv c2 : Nat) (bs : Option Addr) (cs : Nat) (zs os vs ids starts : List Int) (w : World) (hA : IntsAt w a zs) (hO : IntsAt w ao os) (hV : IntsAt w av vs) (hI : IntsAt w bi ids) (hlo : os.length = ko * 6) (hlv : vs.length = kv * 5) (hko : ko ≤ 9223372036854775807) (hkv : kv ≤ 9223372036854775807) (hli : ids.length ≤ 9223372036854775807) (hc2 : ids.length ≤ c2) (hS : IntsAt w bs starts) :
    Calls Try.prog 31 #[.agg #[.int .i64 n, .slice a zs.length cap, .slice ao ko co, .slice av kv cv, .int .i64 fine], .agg #[.int .i64 veh, .slice bi ids.length c2], .slice bs starts.length cs] w fun e w' => e = .returned (.bool (keepsV (caseB n zs os vs ko kv fine) n zs os vs ko kv veh ids starts)) ∧ Below w.heap.size w w' := by
  have HA : Hid (IntsAt w a zs) := hA
  have HO : Hid (IntsAt w ao os) := hO
  have HV : Hid (IntsAt w av vs) := hV
  have HI : Hid (IntsAt w bi ids) := hI
  have HLO : Hid _ := hlo
  have HLV : Hid _ := hlv
  clear hA hO hV hI hlo hlv
  have HS : Hid (IntsAt w bs starts) := hS
  clear hS
  have HC0 : Hid (CR w ((w.alloc (.cells #[Value.int IntKind.i64 n, Value.slice a zs.length cap, Value.slice ao ko co, Value.slice av kv cv, Value.int IntKind.i64 fine] 40)).alloc (.cells #[Value.int IntKind.i64 veh, Value.slice bi ids.length c2] 42)) _ _) := CR.new w _ _
  obtain ⟨r, HR⟩ : ∃ r, Hid (keepsV (caseB n zs os vs ko kv fine) n zs os vs ko kv veh ids starts = r) := ⟨_, rfl⟩
  rw [HR.out]
  go_enter Try.func31, Try.ntmps31
  obtain ⟨c0, c1, c2', c3, c4⟩ := cells5 HC0.out.2.1
  obtain ⟨d0, d1⟩ := cells2 HC0.out.2.2
  go_wp2_with fail
  clear c0 c1 c2' c3 c4 d0 d1
  refine (l3Form_any n fine veh a ao av bi cap ko co kv cv c2 zs os vs ids _ (HA.out.below HC0.out.1) (HO.out.below HC0.out.1) (HV.out.below HC0.out.1) (HI.out.below HC0.out.1) HLO.out HLV.out hko hkv hli hc2).mono ?_
  rintro e w1 ⟨rfl, hb⟩
  have C1 : Hid (CR w w1 _ _) := HC0.out.below hb
  clear hb HC0
  obtain ⟨c0, c1, c2', c3, c4⟩ := cells5 C1.out.2.1
  obtain ⟨d0, d1⟩ := cells2 C1.out.2.2
  obtain ⟨fv, HFV⟩ : ∃ t, Hid (formV (caseB n zs os vs ko kv fine) vs os kv ko veh ids = t) := ⟨_, rfl⟩
  rw [HFV.out]
  by_cases hfv : fv = 0
  · subst hfv
    by_cases hsl : starts.length = ids.length
    · obtain ⟨hcb, _, hstB⟩ := formV_zero HFV.out
      obtain ⟨hmat, hords, hvehs, hn1, _⟩ := caseB_parts hcb
      have HSL : Hid (starts.length = ids.length) := hsl
      have HV1 : Hid (keptB n zs (rosOf os ko ids) ids.length starts (fnd5F vs kv veh 1) (fnd5F vs kv veh 3) (fnd5F vs kv veh 4) = r) := (keepsV_yes HFV.out hsl).symm.trans HR.out
      have hslI : (starts.length : Int) = (ids.length : Int) := by omega
      have heb : ((starts.length : Int) != (ids.length : Int)) = false := by simp [hslI]
      have hvb := fnd5F_bd hvehs hn1 veh
      have HMAT : Hid (matB n zs = true) := hmat
      have HOB : Hid (ordsB n os ko = true) := hords
      have HN1 : Hid (1 ≤ n) := hn1
      have h12 := (stopsB_true hstB).1
      clear hmat hords hvehs hn1 hslI hsl hcb hstB
      go_wp2_with fail
      clear c0 c1 c2' c3 c4 d0 d1 heb
      refine (l2Car_any n fine veh a ao av _ cap ko co kv cv vs _ (HV.out.below C1.out.1) HLV.out hkv).mono ?_
      rintro e w2 ⟨rfl, hb⟩
      obtain ⟨v0, G0⟩ : ∃ t, Hid (fnd5F vs kv veh 0 = t) := ⟨_, rfl⟩
      obtain ⟨v1, G1⟩ : ∃ t, Hid (fnd5F vs kv veh 1 = t) := ⟨_, rfl⟩
      obtain ⟨v2, G2⟩ : ∃ t, Hid (fnd5F vs kv veh 2 = t) := ⟨_, rfl⟩
      obtain ⟨v3, G3⟩ : ∃ t, Hid (fnd5F vs kv veh 3 = t) := ⟨_, rfl⟩
      obtain ⟨v4, G4⟩ : ∃ t, Hid (fnd5F vs kv veh 4 = t) := ⟨_, rfl⟩
      rw [G1.out, G2.out, G3.out, G4.out] at hvb
      rw [G1.out, G3.out, G4.out] at HV1
      rw [G0.out, G1.out, G2.out, G3.out, G4.out]
      obtain ⟨tv, _⟩ : ∃ t, Hid (fnd5T vs kv veh = t) := ⟨_, rfl⟩
      generalize fnd5T vs kv veh = tv
      have HX1 : Hid (0 ≤ v1 ∧ v1 < n) := hvb.1
      have HX3 : Hid (0 ≤ v3 ∧ v3 ≤ 1000000) := hvb.2.2.1
      clear hvb
      have C3 : Hid (CR w (w2.alloc (Obj.cells #[Value.int IntKind.i64 v0, Value.int IntKind.i64 v1, Value.int IntKind.i64 v2, Value.int IntKind.i64 v3, Value.int IntKind.i64 v4] 74)) _ _) := CR.alloc (C1.out.below hb) _
      have RV3 : Hid ((w2.alloc (Obj.cells #[Value.int IntKind.i64 v0, Value.int IntKind.i64 v1, Value.int IntKind.i64 v2, Value.int IntKind.i64 v3, Value.int IntKind.i64 v4] 74)).heap[w2.heap.size]? = _) := heap_alloc_new _ _
      clear hb C1
      obtain ⟨q0, q1, q2, q3, q4⟩ := cells5 RV3.out
      go_wp2_with fail
      clear q0 q1 q2 q3 q4
      generalize w2.alloc (Obj.cells #[Value.int IntKind.i64 v0, Value.int IntKind.i64 v1, Value.int IntKind.i64 v2, Value.int IntKind.i64 v3, Value.int IntKind.i64 v4] 74) = W2 at *
      generalize w2.heap.size = gv at *
      have HBD : Hid (RosBd n (rosOf os ko ids) ids.length) := rosBd_of HOB.out HN1.out ids
      go_loopw [9, 10, 11] (fun fr pl t wr => ∃ k : Nat, k ≤ ids.length ∧ t = .int .i64 k ∧ pl = .int .i64 (plc (rosOf os ko ids) v1 k) ∧ fr = .int .i64 (freeK (rosOf os ko ids) starts v3 k) ∧ keptTo n zs (rosOf os ko ids) starts v1 v3 k ∧ CR w wr #[Value.int IntKind.i64 n, Value.slice a zs.length cap, Value.slice ao ko co, Value.slice av kv cv, Value.int IntKind.i64 fine] #[Value.int IntKind.i64 veh, Value.slice bi ids.length c2] ∧ wr.heap[gv]? = some (.cells #[Value.int IntKind.i64 v0, Value.int IntKind.i64 v1, Value.int IntKind.i64 v2, Value.int IntKind.i64 v3, Value.int IntKind.i64 v4] 74 (0, 0))) (fun _ _ t _ => ids.length - (intOf t).toNat)
      case atStart => exact ⟨0, Nat.zero_le _, rfl, rfl, rfl, fun j hj => by omega, C3.out, RV3.out⟩
      case round =>
        clear C3 RV3
        obtain ⟨k, hk, rfl, rfl, rfl, hkt, hb, hrv⟩ := hrel
        have hpl := plc_bd HBD.out HX1.out.1 HX1.out.2 k hk
        have hfr := freeK_bd HBD.out HX3.out k hk hkt
        have HKT : Hid (keptTo n zs (rosOf os ko ids) starts v1 v3 k) := hkt
        have HB : Hid (CR w wr _ _) := hb
        have HRV : Hid (wr.heap[gv]? = _) := hrv
        obtain ⟨c0, c1, c2', c3, c4⟩ := cells5 hb.2.1
        obtain ⟨d0, d1⟩ := cells2 hb.2.2
        obtain ⟨p, HPL⟩ : ∃ t, Hid (plc (rosOf os ko ids) v1 k = t) := ⟨_, rfl⟩
        obtain ⟨f, HFR⟩ : ∃ t, Hid (freeK (rosOf os ko ids) starts v3 k = t) := ⟨_, rfl⟩
        rw [HPL.out] at hpl
        rw [HFR.out] at hfr
        rw [HPL.out, HFR.out]
        have HPB : Hid (0 ≤ p ∧ p < n) := hpl
        clear hkt hb hrv hpl
        by_cases hlt : k < ids.length
        · obtain ⟨b, off, rfl, hcs⟩ := IntsAt.some (IntsAt.below HI.out HB.out.1) hlt
          have ct := hcs k hlt
          clear hcs
          have hlts : k < starts.length := by have := HSL.out; omega
          obtain ⟨bb, boff, rfl, hcs⟩ := IntsAt.some (IntsAt.below HS.out HB.out.1) hlts
          clear hcs
          obtain ⟨id, HID⟩ : ∃ i, Hid (ids.getD k 0 = i) := ⟨_, rfl⟩
          obtain ⟨st, HST⟩ : ∃ t, Hid (starts.getD k 0 = t) := ⟨_, rfl⟩
          rw [HID.out] at ct
          obtain ⟨h1b, h2b, h3b, h4b, h5b⟩ := fnd6F_bd HOB.out HN1.out id
          obtain ⟨o0, H0⟩ : ∃ t, Hid (fnd6F os ko id 0 = t) := ⟨_, rfl⟩
          obtain ⟨o1, H1⟩ : ∃ t, Hid (fnd6F os ko id 1 = t) := ⟨_, rfl⟩
          obtain ⟨o2, H2⟩ : ∃ t, Hid (fnd6F os ko id 2 = t) := ⟨_, rfl⟩
          obtain ⟨o3, H3⟩ : ∃ t, Hid (fnd6F os ko id 3 = t) := ⟨_, rfl⟩
          obtain ⟨o4, H4⟩ : ∃ t, Hid (fnd6F os ko id 4 = t) := ⟨_, rfl⟩
          obtain ⟨o5, H5⟩ : ∃ t, Hid (fnd6F os ko id 5 = t) := ⟨_, rfl⟩
          rw [H1.out] at h1b
          rw [H3.out] at h3b
          rw [H4.out] at h4b
          rw [H5.out] at h5b
          have HO1 : Hid (0 ≤ o1 ∧ o1 < n) := h1b
          clear h1b h2b
          obtain ⟨d, HD⟩ : ∃ t, Hid (tmI n zs p o1 = t) := ⟨_, rfl⟩
          have hdb := tmI_bd HMAT.out p o1
          rw [HD.out] at hdb
          have K1 : Hid (og6 (rosOf os ko ids) k 1 = o1) := (rosOf_at os ko ids hlt (by omega)).trans (by rw [HID.out]; exact H1.out)
          have HNX : Hid (freeK (rosOf os ko ids) starts v3 (k + 1) = st + o5) := by
            show _ = _
            rw [freeK_succ, HST.out, rosOf_at os ko ids hlt (by omega), HID.out, H5.out]
          have HKA : Hid (keptAt n zs (rosOf os ko ids) starts v1 v3 k = inB st (max o3 (f + d)) o4) := keptAt_mk HST.out HFR.out HPL.out K1.out ((rosOf_at os ko ids hlt (by omega)).trans (by rw [HID.out]; exact H3.out)) ((rosOf_at os ko ids hlt (by omega)).trans (by rw [HID.out]; exact H4.out)) HD.out
          obtain ⟨tt, HTT⟩ : ∃ t, Hid (fnd6T os ko id = t) := ⟨_, rfl⟩
          go_wp2_with fail
          have HCT : Hid (wr.cell? ⟨b, off + k, none⟩ = _) := ct
          have HCA : Hid ((wr.alloc (Obj.cells #[Value.int IntKind.i64 0, Value.int IntKind.i64 0, Value.int IntKind.i64 0, Value.int IntKind.i64 0, Value.int IntKind.i64 0, Value.int IntKind.i64 0] 78)).cell? ⟨b, off + k, none⟩ = _) := (((Below.refl wr.heap.size wr).alloc (Nat.le_refl _) _).cell (p := ⟨b, off + k, none⟩) (block_lt_of_cell ct)).trans ct
          have HVA : Hid ((wr.alloc (Obj.cells #[Value.int IntKind.i64 0, Value.int IntKind.i64 0, Value.int IntKind.i64 0, Value.int IntKind.i64 0, Value.int IntKind.i64 0, Value.int IntKind.i64 0] 78)).heap[gv]? = _) := (heap_alloc_old _ _ (row_lt HRV.out)).trans HRV.out
          have hlb := block_lt_of_cell ct
          simp at hlb
          have hlw := row_lt HB.out.2.1
          have hlr := row_lt HB.out.2.2
          go_region_held3 (fun W => W.cell? ⟨w.heap.size, 0, none⟩ = some (.int .i64 n) ∧ W.cell? ⟨w.heap.size, 1, none⟩ = some (.slice a zs.length cap) ∧ W.cell? ⟨w.heap.size, 2, none⟩ = some (.slice ao ko co) ∧ W.cell? ⟨w.heap.size, 3, none⟩ = some (.slice av kv cv) ∧ W.cell? ⟨w.heap.size, 4, none⟩ = some (.int .i64 fine) ∧ W.cell? ⟨w.heap.size + 1, 1, none⟩ = some (.slice (some ⟨b, off, none⟩) ids.length c2) ∧ W.cell? ⟨b, off + k, none⟩ = some (.int .i64 id)) (first | with_reducible exact kS | with_reducible exact ⟨(keep_set (keep_set (keep_set (keep_set (keep_set (keep_set kS.1 (Nat.ne_of_lt hlw)) (Nat.ne_of_lt hlw)) (Nat.ne_of_lt hlw)) (Nat.ne_of_lt hlw)) (Nat.ne_of_lt hlw)) (Nat.ne_of_lt hlw)), (keep_set (keep_set (keep_set (keep_set (keep_set (keep_set kS.2.1 (Nat.ne_of_lt hlw)) (Nat.ne_of_lt hlw)) (Nat.ne_of_lt hlw)) (Nat.ne_of_lt hlw)) (Nat.ne_of_lt hlw)) (Nat.ne_of_lt hlw)), (keep_set (keep_set (keep_set (keep_set (keep_set (keep_set kS.2.2.1 (Nat.ne_of_lt hlw)) (Nat.ne_of_lt hlw)) (Nat.ne_of_lt hlw)) (Nat.ne_of_lt hlw)) (Nat.ne_of_lt hlw)) (Nat.ne_of_lt hlw)), (keep_set (keep_set (keep_set (keep_set (keep_set (keep_set kS.2.2.2.1 (Nat.ne_of_lt hlw)) (Nat.ne_of_lt hlw)) (Nat.ne_of_lt hlw)) (Nat.ne_of_lt hlw)) (Nat.ne_of_lt hlw)) (Nat.ne_of_lt hlw)), (keep_set (keep_set (keep_set (keep_set (keep_set (keep_set kS.2.2.2.2.1 (Nat.ne_of_lt hlw)) (Nat.ne_of_lt hlw)) (Nat.ne_of_lt hlw)) (Nat.ne_of_lt hlw)) (Nat.ne_of_lt hlw)) (Nat.ne_of_lt hlw)), (keep_set (keep_set (keep_set (keep_set (keep_set (keep_set kS.2.2.2.2.2.1 (Nat.ne_of_lt hlr)) (Nat.ne_of_lt hlr)) (Nat.ne_of_lt hlr)) (Nat.ne_of_lt hlr)) (Nat.ne_of_lt hlr)) (Nat.ne_of_lt hlr)), (keep_set (keep_set (keep_set (keep_set (keep_set (keep_set kS.2.2.2.2.2.2 (Nat.ne_of_lt hlb)) (Nat.ne_of_lt hlb)) (Nat.ne_of_lt hlb)) (Nat.ne_of_lt hlb)) (Nat.ne_of_lt hlb)) (Nat.ne_of_lt hlb))⟩ | go_keep) ((first
            | (go_at_call 45
               with_reducible refine (l2At_any n fine id a ao av _ cap ko co kv cv os wr.drew ?_ HLO.out hko).mono ?_
               · exact HO.out.below HB.out.1.drew
               rintro e w2 ⟨rfl, hb2⟩
               rw [H0.out, H1.out, H2.out, H3.out, H4.out, H5.out, HTT.out]
               have hcr2 := CR.below (CR.drew HB.out) hb2
               obtain ⟨k0, k1, k2, k3, k4⟩ := cells5 hcr2.2.1
               have k5 := (cells2 hcr2.2.2).2
               have k6 := (hb2.cell (p := ⟨b, off + k, none⟩) (block_lt_of_cell HCT.out)).trans HCT.out
               have kS := And.intro k0 (And.intro k1 (And.intro k2 (And.intro k3 (And.intro k4 (And.intro k5 k6)))))
               have CR2 : Hid (CR w w2 _ _) := hcr2
               have RV2 : Hid (w2.heap[gv]? = _) := below_row hb2 (row_lt HRV.out) HRV.out
               clear hb2 hcr2 k0 k1 k2 k3 k4 k5 k6)
            | (go_at_call 45
               with_reducible refine (l2At_any n fine id a ao av _ cap ko co kv cv os (wr.alloc (Obj.cells #[Value.int IntKind.i64 0, Value.int IntKind.i64 0, Value.int IntKind.i64 0, Value.int IntKind.i64 0, Value.int IntKind.i64 0, Value.int IntKind.i64 0] 78)).drew ?_ HLO.out hko).mono ?_
               · exact HO.out.below (CR.alloc HB.out (Obj.cells #[Value.int IntKind.i64 0, Value.int IntKind.i64 0, Value.int IntKind.i64 0, Value.int IntKind.i64 0, Value.int IntKind.i64 0, Value.int IntKind.i64 0] 78)).1.drew
               rintro e w2 ⟨rfl, hb2⟩
               rw [H0.out, H1.out, H2.out, H3.out, H4.out, H5.out, HTT.out]
               have hcr2 := CR.below (CR.drew (CR.alloc HB.out (Obj.cells #[Value.int IntKind.i64 0, Value.int IntKind.i64 0, Value.int IntKind.i64 0, Value.int IntKind.i64 0, Value.int IntKind.i64 0, Value.int IntKind.i64 0] 78))) hb2
               obtain ⟨k0, k1, k2, k3, k4⟩ := cells5 hcr2.2.1
               have k5 := (cells2 hcr2.2.2).2
               have k6 := (hb2.cell (p := ⟨b, off + k, none⟩) (block_lt_of_cell HCA.out)).trans HCA.out
               have kS := And.intro k0 (And.intro k1 (And.intro k2 (And.intro k3 (And.intro k4 (And.intro k5 k6)))))
               have CR2 : Hid (CR w w2 _ _) := hcr2
               have RV2 : Hid (w2.heap[gv]? = _) := below_row hb2 (row_lt HVA.out) HVA.out
               obtain ⟨z0, z1, z2, z3, z4, z5⟩ := cells6 (below_row hb2 (k := wr.heap.size) (by simp) (heap_alloc_new wr (Obj.cells #[Value.int IntKind.i64 0, Value.int IntKind.i64 0, Value.int IntKind.i64 0, Value.int IntKind.i64 0, Value.int IntKind.i64 0, Value.int IntKind.i64 0] 78)))
               have zf := fun i => frozen_of_row _ _ i _ _ (below_row hb2 (k := wr.heap.size) (by simp) (heap_alloc_new wr (Obj.cells #[Value.int IntKind.i64 0, Value.int IntKind.i64 0, Value.int IntKind.i64 0, Value.int IntKind.i64 0, Value.int IntKind.i64 0, Value.int IntKind.i64 0] 78)))
               have RO2 : Hid (w2.heap[wr.heap.size]? = _) := below_row hb2 (k := wr.heap.size) (by simp) (heap_alloc_new wr (Obj.cells #[Value.int IntKind.i64 0, Value.int IntKind.i64 0, Value.int IntKind.i64 0, Value.int IntKind.i64 0, Value.int IntKind.i64 0, Value.int IntKind.i64 0] 78))
               clear hb2 hcr2 k0 k1 k2 k3 k4 k5 k6)))
          all_goals (first
            | (have CRW : Hid (CR w (World.setCell (World.setCell (World.setCell (World.setCell (World.setCell (World.setCell w2 ⟨wr.heap.size, 0, none⟩ (Value.int IntKind.i64 o0)) ⟨wr.heap.size, 1, none⟩ (Value.int IntKind.i64 o1)) ⟨wr.heap.size, 2, none⟩ (Value.int IntKind.i64 o2)) ⟨wr.heap.size, 3, none⟩ (Value.int IntKind.i64 o3)) ⟨wr.heap.size, 4, none⟩ (Value.int IntKind.i64 o4)) ⟨wr.heap.size, 5, none⟩ (Value.int IntKind.i64 o5)) _ _) := CR.set (CR.set (CR.set (CR.set (CR.set (CR.set CR2.out HB.out.big) HB.out.big) HB.out.big) HB.out.big) HB.out.big) HB.out.big
               have RVW : Hid ((World.setCell (World.setCell (World.setCell (World.setCell (World.setCell (World.setCell w2 ⟨wr.heap.size, 0, none⟩ (Value.int IntKind.i64 o0)) ⟨wr.heap.size, 1, none⟩ (Value.int IntKind.i64 o1)) ⟨wr.heap.size, 2, none⟩ (Value.int IntKind.i64 o2)) ⟨wr.heap.size, 3, none⟩ (Value.int IntKind.i64 o3)) ⟨wr.heap.size, 4, none⟩ (Value.int IntKind.i64 o4)) ⟨wr.heap.size, 5, none⟩ (Value.int IntKind.i64 o5)).heap[gv]? = _) := row_set' (row_set' (row_set' (row_set' (row_set' (row_set' RV2.out (Nat.ne_of_lt (row_lt HRV.out))) (Nat.ne_of_lt (row_lt HRV.out))) (Nat.ne_of_lt (row_lt HRV.out))) (Nat.ne_of_lt (row_lt HRV.out))) (Nat.ne_of_lt (row_lt HRV.out))) (Nat.ne_of_lt (row_lt HRV.out))
               have ROW : Hid ((World.setCell (World.setCell (World.setCell (World.setCell (World.setCell (World.setCell w2 ⟨wr.heap.size, 0, none⟩ (Value.int IntKind.i64 o0)) ⟨wr.heap.size, 1, none⟩ (Value.int IntKind.i64 o1)) ⟨wr.heap.size, 2, none⟩ (Value.int IntKind.i64 o2)) ⟨wr.heap.size, 3, none⟩ (Value.int IntKind.i64 o3)) ⟨wr.heap.size, 4, none⟩ (Value.int IntKind.i64 o4)) ⟨wr.heap.size, 5, none⟩ (Value.int IntKind.i64 o5)).heap[wr.heap.size]? = _) := row_set6 RO2.out
               clear kS CR2 RV2 RO2 HCT HCA HVA ct z0 z1 z2 z3 z4 z5 zf
               generalize (World.setCell (World.setCell (World.setCell (World.setCell (World.setCell (World.setCell w2 ⟨wr.heap.size, 0, none⟩ (Value.int IntKind.i64 o0)) ⟨wr.heap.size, 1, none⟩ (Value.int IntKind.i64 o1)) ⟨wr.heap.size, 2, none⟩ (Value.int IntKind.i64 o2)) ⟨wr.heap.size, 3, none⟩ (Value.int IntKind.i64 o3)) ⟨wr.heap.size, 4, none⟩ (Value.int IntKind.i64 o4)) ⟨wr.heap.size, 5, none⟩ (Value.int IntKind.i64 o5)) = W at *
               generalize wr.heap.size = g at *)
            | (have CRW : Hid (CR w (w2.alloc (Obj.cells #[Value.int IntKind.i64 o0, Value.int IntKind.i64 o1, Value.int IntKind.i64 o2, Value.int IntKind.i64 o3, Value.int IntKind.i64 o4, Value.int IntKind.i64 o5] 78)) _ _) := CR.alloc CR2.out _
               have RVW : Hid ((w2.alloc (Obj.cells #[Value.int IntKind.i64 o0, Value.int IntKind.i64 o1, Value.int IntKind.i64 o2, Value.int IntKind.i64 o3, Value.int IntKind.i64 o4, Value.int IntKind.i64 o5] 78)).heap[gv]? = _) := (heap_alloc_old _ _ (row_lt RV2.out)).trans RV2.out
               have ROW : Hid ((w2.alloc (Obj.cells #[Value.int IntKind.i64 o0, Value.int IntKind.i64 o1, Value.int IntKind.i64 o2, Value.int IntKind.i64 o3, Value.int IntKind.i64 o4, Value.int IntKind.i64 o5] 78)).heap[w2.heap.size]? = _) := heap_alloc_new _ _
               clear kS CR2 RV2 HCT HCA HVA ct
               generalize w2.alloc (Obj.cells #[Value.int IntKind.i64 o0, Value.int IntKind.i64 o1, Value.int IntKind.i64 o2, Value.int IntKind.i64 o3, Value.int IntKind.i64 o4, Value.int IntKind.i64 o5] 78) = W at *
               generalize w2.heap.size = g at *))
          all_goals
            clear c0 c1 c2' c3 c4 d0 d1 hlw hlr hlb HTT
            generalize tt = tt'
            obtain ⟨c0, c1, c2', c3, c4⟩ := cells5 CRW.out.2.1
            have ctW := ints_cell (HS.out.below CRW.out.1) hlts HST.out
            obtain ⟨p0, p1, p2, p3, p4, p5⟩ := cells6 ROW.out
            have e0 := fun s : Kin W => s.cell c0
            have e1 := fun s : Kin W => s.cell c1
            have e2 := fun s : Kin W => s.cell ctW
            have e3 := fun s : Kin W => s.cell p1
            have e4 := fun s : Kin W => s.cell p3
            have e5 := fun s : Kin W => s.cell p4
            have e6 := fun s : Kin W => s.cell p5
            obtain ⟨bo, HBO⟩ : ∃ t, Hid (inB st o3 o4 = t) := ⟨_, rfl⟩
            by_cases hcase : bo = true ∧ ¬ st < f + d
            · obtain ⟨rfl, hge⟩ := hcase
              have HK1 : Hid (keptTo n zs (rosOf os ko ids) starts v1 v3 (k + 1)) := keptTo_step HKT.out (HKA.out.trans (inB_max HBO.out hge))
              have hst : o3 ≤ st ∧ st ≤ o4 := inB_true HBO.out
              have hge' : f + d ≤ st := by omega
              clear hge
              go_wp2_with fail
              have hkin := Kin.there W
              refine wp_region_kin (by kernel_rfl) (by kernel_rfl) ?_
              repeat (go_big_quiet_step ((first
                | (go_at_call 65; exact Kin.call_same (l1In_is st o3 o4 _ true HBO.out))
                | (go_at_call 46; exact Kin.call (l1Time_is n p o1 _ _ zs _ d HD.out HMAT.out HPB.out HO1.out ((HA.out.below CRW.out.1).below (Kin.below _)))))))
              refine wpQuiet_nil ?_
              rintro _ ⟨s, rfl⟩
              have CR2 : Hid (CR w s.w _ _) := CRW.out.below s.below
              have RV2 : Hid (s.w.heap[gv]? = _) := below_row s.below (row_lt RVW.out) RVW.out
              have RO2 : Hid (s.w.heap[g]? = _) := below_row s.below (row_lt ROW.out) ROW.out
              have ct2 := s.cell ctW
              clear c0 c1 c2' c3 c4 ctW p0 p1 p2 p3 p4 p5 e0 e1 e2 e3 e4 e5 e6 hkin CRW RVW ROW
              generalize s.w = W3 at *
              obtain ⟨p0, p1, p2, p3, p4, p5⟩ := cells6 RO2.out
              go_wp2_with fail
              have e0 := fun s : Kin W3 => s.cell ct2
              have e1 := fun s : Kin W3 => s.cell p1
              have e2 := fun s : Kin W3 => s.cell p5
              have hkin := Kin.there W3
              refine wp_region_kin (by kernel_rfl) (by kernel_rfl) ?_
              repeat (go_big_quiet_step ((fail)))
              refine wpQuiet_nil ?_
              rintro _ ⟨s2, rfl⟩
              have CR4 : Hid (CR w s2.w _ _) := CR2.out.below s2.below
              have RV4 : Hid (s2.w.heap[gv]? = _) := below_row s2.below (row_lt RV2.out) RV2.out
              have p1' := s2.cell p1
              clear p0 p1 p2 p3 p4 p5 e0 e1 e2 hkin ct2 CR2 RV2 RO2
              generalize s2.w = W4 at *
              go_wp2
              go_roundw
              case rel => exact ⟨k + 1, by omega, by go_num, by rw [← K1.out]; rfl, by rw [HNX.out], HK1.out, CR4.out, RV4.out⟩
              case measure => simp [intOf]; omega
            · have HN : Hid (r = false) := by
                refine HV1.out.symm.trans (keptB_bad hlt (HKA.out.trans ?_))
                cases bo
                · exact inB_max_no HBO.out
                · exact inB_max_lt (by have : ¬ ¬ st < f + d := fun h => hcase ⟨rfl, h⟩; omega)
              cases bo
              · clear hcase
                go_wp2_with fail
                have hkin := Kin.there W
                refine wp_region_kin (by kernel_rfl) (by kernel_rfl) ?_
                repeat (go_big_quiet_step ((first
                  | (go_at_call 65; exact Kin.call_same (l1In_is st o3 o4 _ false HBO.out)))))
                refine wpQuiet_nil ?_
                rintro _ ⟨s, rfl⟩
                have CR2 : Hid (CR w s.w _ _) := CRW.out.below s.below
                clear e0 e1 e2 e3 e4 e5 e6 hkin
                generalize s.w = W3 at *
                go_wp2
                go_ret
                exact ⟨ret_bool HN.out.symm, CR2.out.1⟩
              · have hge : st < f + d := by
                  have : ¬ ¬ st < f + d := fun h => hcase ⟨rfl, h⟩
                  omega
                clear hcase
                go_wp2_with fail
                have hkin := Kin.there W
                refine wp_region_kin (by kernel_rfl) (by kernel_rfl) ?_
                repeat (go_big_quiet_step ((first
                  | (go_at_call 65; exact Kin.call_same (l1In_is st o3 o4 _ true HBO.out))
                  | (go_at_call 46; exact Kin.call (l1Time_is n p o1 _ _ zs _ d HD.out HMAT.out HPB.out HO1.out ((HA.out.below CRW.out.1).below (Kin.below _)))))))
                refine wpQuiet_nil ?_
                rintro _ ⟨s, rfl⟩
                have CR2 : Hid (CR w s.w _ _) := CRW.out.below s.below
                clear e0 e1 e2 e3 e4 e5 e6 hkin
                generalize s.w = W3 at *
                go_wp2
                go_ret
                exact ⟨ret_bool HN.out.symm, CR2.out.1⟩
        · have hkl : k = ids.length := by omega
          have hns : starts.length ≤ k := by have := HSL.out; omega
          obtain ⟨q0, q1, q2, q3, q4⟩ := cells5 HRV.out
          have HE : Hid (r = decide (f + tmI n zs p v1 ≤ v4)) := by
            have := keptB_end (to := v4) (hkl ▸ HKT.out : keptTo n zs (rosOf os ko ids) starts v1 v3 ids.length)
            rw [HV1.out] at this
            rw [← hkl, HFR.out, HPL.out] at this
            exact this
          clear hkl
          obtain ⟨d, HD⟩ : ∃ t, Hid (tmI n zs p v1 = t) := ⟨_, rfl⟩
          have hdb := tmI_bd HMAT.out p v1
          rw [HD.out] at hdb HE
          go_wp2_with fail
          have e0 := fun s : Kin wr => s.cell c0
          have e1 := fun s : Kin wr => s.cell c1
          have e2 := fun s : Kin wr => s.cell q1
          have e3 := fun s : Kin wr => s.cell q4
          have hkin := Kin.there wr
          refine wp_region_kin (by kernel_rfl) (by kernel_rfl) ?_
          repeat (go_big_quiet_step ((first
            | (go_at_call 46; exact Kin.call (l1Time_is n p v1 _ _ zs _ d HD.out HMAT.out HPB.out HX1.out ((HA.out.below HB.out.1).below (Kin.below _)))))))
          refine wpQuiet_nil ?_
          rintro _ ⟨s, rfl⟩
          have CR2 : Hid (CR w s.w _ _) := HB.out.below s.below
          clear e0 e1 e2 e3 hkin
          generalize s.w = W3 at *
          go_wp2
          go_ret
          exact ⟨ret_bool HE.out.symm, CR2.out.1⟩
    · have HV1 : Hid (r = false) := HR.out.symm.trans (keepsV_no (fun x => hsl x.2))
      have hslI : ¬ ((starts.length : Int) = (ids.length : Int)) := by omega
      have heb : ((starts.length : Int) != (ids.length : Int)) = true := by simp [hslI]
      clear hsl hslI
      go_wp2
      go_ret
      exact ⟨ret_bool HV1.out.symm, C1.out.1⟩
  · have HV1 : Hid (r = false) := HR.out.symm.trans (keepsV_no (fun x => hfv (HFV.out.symm.trans x.1)))
    have heb : (fv != 0) = true := by simp [hfv]
    clear hfv
    go_wp2
    go_ret
    exact ⟨ret_bool HV1.out.symm, C1.out.1⟩

end Go.Proofs.Ytfcplmageokdiae
