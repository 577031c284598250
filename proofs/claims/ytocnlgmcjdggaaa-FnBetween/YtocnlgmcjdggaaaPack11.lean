import Derived.Test.YtocnlgmcjdggaaaPack0
import Derived.Test.YtocnlgmcjdggaaaSpecSched
namespace Go.Proofs.Ytocnlgmcjdggaaa
open Go.RowKit

set_option maxHeartbeats 1000000 in
theorem l3Ok_any (n fine veh : Int) (a ao av bi : Option Addr) (cap ko co kv cv c2 : Nat) (zs os vs ids : List Int) (w : World) (hA : IntsAt w a zs) (hO : IntsAt w ao os) (hV : IntsAt w av vs) (hI : IntsAt w bi ids) (hlo : os.length = ko * 6) (hlv : vs.length = kv * 5) (hko : ko ≤ 9223372036854775807) (hkv : kv ≤ 9223372036854775807) (hli : ids.length ≤ 9223372036854775807) (hc2 : ids.length ≤ c2) (v : Bool) (hv : decide (codeV (caseB n zs os vs ko kv fine) n zs os vs ko kv veh ids = 0) = v) :
    Calls Try.prog 55 #[.agg #[.int .i64 n, .slice a zs.length cap, .slice ao ko co, .slice av kv cv, .int .i64 fine], .agg #[.int .i64 veh, .slice bi ids.length c2]] w fun e w' => e = .returned (.bool v) ∧ Below w.heap.size w w' := by
  have HA : Hid (IntsAt w a zs) := hA
  have HO : Hid (IntsAt w ao os) := hO
  have HV : Hid (IntsAt w av vs) := hV
  have HI : Hid (IntsAt w bi ids) := hI
  have HLO : Hid _ := hlo
  have HLV : Hid _ := hlv
  clear hA hO hV hI hlo hlv
  have HVV : Hid (decide (codeV (caseB n zs os vs ko kv fine) n zs os vs ko kv veh ids = 0) = v) := hv
  clear hv
  have HC0 : Hid (CR w ((w.alloc (.cells #[Value.int IntKind.i64 n, Value.slice a zs.length cap, Value.slice ao ko co, Value.slice av kv cv, Value.int IntKind.i64 fine] 30)).alloc (.cells #[Value.int IntKind.i64 veh, Value.slice bi ids.length c2] 32)) _ _) := CR.new w _ _
  go_enter Try.func55, Try.ntmps55
  obtain ⟨c0, c1, c2', c3, c4⟩ := cells5 HC0.out.2.1
  obtain ⟨d0, d1⟩ := cells2 HC0.out.2.2
  go_wp2_with fail
  clear c0 c1 c2' c3 c4 d0 d1
  refine (specSchedule_any n fine veh a ao av bi cap ko co kv cv c2 zs os vs ids _ (HA.out.below HC0.out.1) (HO.out.below HC0.out.1) (HV.out.below HC0.out.1) (HI.out.below HC0.out.1) HLO.out HLV.out hko hkv hli hc2).mono ?_
  rintro e w2 ⟨hb, ⟨hf, rfl⟩ | ⟨hf, g, c, _, rfl, _⟩⟩
  · have HB2 : Hid (Below w.heap.size w w2) := HC0.out.1.trans (hb.mono HC0.out.1.size)
    have HVF : Hid (v = false) := HVV.out.symm.trans (decide_eq_false hf)
    generalize codeV (caseB n zs os vs ko kv fine) n zs os vs ko kv veh ids = r at *
    have hfb : (r == 0) = false := by simp [hf]
    clear hb hf HC0 HVV
    go_wp2
    go_ret
    exact ⟨ret_bool HVF.out.symm, HB2.out⟩
  · have HB2 : Hid (Below w.heap.size w w2) := HC0.out.1.trans (hb.mono HC0.out.1.size)
    have HVF : Hid (v = true) := HVV.out.symm.trans (decide_eq_true hf)
    clear hb hf HC0 HVV
    generalize homeV n zs (rosOf os ko ids) ids.length (fnd5F vs kv veh 1) (fnd5F vs kv veh 3) = hm
    go_wp2
    go_ret
    exact ⟨ret_bool HVF.out.symm, HB2.out⟩

set_option maxHeartbeats 1000000 in
theorem l3Cost_any (n fine veh : Int) (a ao av bi : Option Addr) (cap ko co kv cv c2 : Nat) (zs os vs ids : List Int) (w : World) (hA : IntsAt w a zs) (hO : IntsAt w ao os) (hV : IntsAt w av vs) (hI : IntsAt w bi ids) (hlo : os.length = ko * 6) (hlv : vs.length = kv * 5) (hko : ko ≤ 9223372036854775807) (hkv : kv ≤ 9223372036854775807) (hli : ids.length ≤ 9223372036854775807) (hcode : codeV (caseB n zs os vs ko kv fine) n zs os vs ko kv veh ids = 0) :
    Calls Try.prog 83 #[.agg #[.int .i64 n, .slice a zs.length cap, .slice ao ko co, .slice av kv cv, .int .i64 fine], .agg #[.int .i64 veh, .slice bi ids.length c2]] w fun e w' => e = .returned (.int .i64 (rideV n zs (rosOf os ko ids) ids.length (fnd5F vs kv veh 1))) ∧ Below w.heap.size w w' := by
  have HA : Hid (IntsAt w a zs) := hA
  have HO : Hid (IntsAt w ao os) := hO
  have HV : Hid (IntsAt w av vs) := hV
  have HI : Hid (IntsAt w bi ids) := hI
  have HLO : Hid _ := hlo
  have HLV : Hid _ := hlv
  clear hA hO hV hI hlo hlv
  have HC0 : Hid (CR w ((w.alloc (.cells #[Value.int IntKind.i64 n, Value.slice a zs.length cap, Value.slice ao ko co, Value.slice av kv cv, Value.int IntKind.i64 fine] 30)).alloc (.cells #[Value.int IntKind.i64 veh, Value.slice bi ids.length c2] 32)) _ _) := CR.new w _ _
  obtain ⟨hcb, _, hstB⟩ := formV_zero (codeV_zero hcode).1
  obtain ⟨hmat, hords, hvehs, hn1, _⟩ := caseB_parts hcb
  have hvb := fnd5F_bd hvehs hn1 veh
  have HMAT : Hid (matB n zs = true) := hmat
  have HOB : Hid (ordsB n os ko = true) := hords
  have HN1 : Hid (1 ≤ n) := hn1
  have h12 := (stopsB_true hstB).1
  clear hmat hords hvehs hn1 hcb hstB hcode
  obtain ⟨r, HV1⟩ : ∃ r, Hid (rideV n zs (rosOf os ko ids) ids.length (fnd5F vs kv veh 1) = r) := ⟨_, rfl⟩
  rw [HV1.out]
  go_enter Try.func83, Try.ntmps83
  obtain ⟨c0, c1, c2', c3, c4⟩ := cells5 HC0.out.2.1
  obtain ⟨d0, d1⟩ := cells2 HC0.out.2.2
  go_wp2_with fail
  clear c0 c1 c2' c3 c4 d0 d1
  refine (l2Car_any n fine veh a ao av _ cap ko co kv cv vs _ (HV.out.below HC0.out.1) HLV.out hkv).mono ?_
  rintro e w2 ⟨rfl, hb⟩
  obtain ⟨v0, G0⟩ : ∃ t, Hid (fnd5F vs kv veh 0 = t) := ⟨_, rfl⟩
  obtain ⟨v1, G1⟩ : ∃ t, Hid (fnd5F vs kv veh 1 = t) := ⟨_, rfl⟩
  obtain ⟨v2, G2⟩ : ∃ t, Hid (fnd5F vs kv veh 2 = t) := ⟨_, rfl⟩
  obtain ⟨v3, G3⟩ : ∃ t, Hid (fnd5F vs kv veh 3 = t) := ⟨_, rfl⟩
  obtain ⟨v4, G4⟩ : ∃ t, Hid (fnd5F vs kv veh 4 = t) := ⟨_, rfl⟩
  rw [G1.out, G2.out, G3.out, G4.out] at hvb
  rw [G1.out] at HV1
  rw [G0.out, G1.out, G2.out, G3.out, G4.out]
  generalize fnd5T vs kv veh = tv
  have HX1 : Hid (0 ≤ v1 ∧ v1 < n) := hvb.1
  clear hvb
  have C3 : Hid (CR w (w2.alloc (Obj.cells #[Value.int IntKind.i64 v0, Value.int IntKind.i64 v1, Value.int IntKind.i64 v2, Value.int IntKind.i64 v3, Value.int IntKind.i64 v4] 39)) _ _) := CR.alloc (HC0.out.below hb) _
  have RV3 : Hid ((w2.alloc (Obj.cells #[Value.int IntKind.i64 v0, Value.int IntKind.i64 v1, Value.int IntKind.i64 v2, Value.int IntKind.i64 v3, Value.int IntKind.i64 v4] 39)).heap[w2.heap.size]? = _) := heap_alloc_new _ _
  clear hb HC0
  obtain ⟨q0, q1, q2, q3, q4⟩ := cells5 RV3.out
  go_wp2_with fail
  clear q0 q1 q2 q3 q4
  generalize w2.alloc (Obj.cells #[Value.int IntKind.i64 v0, Value.int IntKind.i64 v1, Value.int IntKind.i64 v2, Value.int IntKind.i64 v3, Value.int IntKind.i64 v4] 39) = W2 at *
  generalize w2.heap.size = gv at *
  have HBD : Hid (RosBd n (rosOf os ko ids) ids.length) := rosBd_of HOB.out HN1.out ids
  go_loopw [7, 8, 9] (fun pl sm t wr => ∃ k : Nat, k ≤ ids.length ∧ t = .int .i64 k ∧ pl = .int .i64 (plc (rosOf os ko ids) v1 k) ∧ sm = .int .i64 (costTo n zs (rosOf os ko ids) v1 k) ∧ CR w wr #[Value.int IntKind.i64 n, Value.slice a zs.length cap, Value.slice ao ko co, Value.slice av kv cv, Value.int IntKind.i64 fine] #[Value.int IntKind.i64 veh, Value.slice bi ids.length c2] ∧ wr.heap[gv]? = some (.cells #[Value.int IntKind.i64 v0, Value.int IntKind.i64 v1, Value.int IntKind.i64 v2, Value.int IntKind.i64 v3, Value.int IntKind.i64 v4] 39 (0, 0))) (fun _ _ t _ => ids.length - (intOf t).toNat)
  case atStart => exact ⟨0, Nat.zero_le _, rfl, rfl, rfl, C3.out, RV3.out⟩
  case round =>
    clear C3 RV3
    obtain ⟨k, hk, rfl, rfl, rfl, hb, hrv⟩ := hrel
    have hpl := plc_bd HBD.out HX1.out.1 HX1.out.2 k hk
    have hcb := costTo_bd (ros := (rosOf os ko ids)) (home := v1) HMAT.out k
    have HB : Hid (CR w wr _ _) := hb
    have HRV : Hid (wr.heap[gv]? = _) := hrv
    obtain ⟨c0, c1, c2', c3, c4⟩ := cells5 hb.2.1
    obtain ⟨d0, d1⟩ := cells2 hb.2.2
    obtain ⟨p, HPL⟩ : ∃ t, Hid (plc (rosOf os ko ids) v1 k = t) := ⟨_, rfl⟩
    obtain ⟨f, HFR⟩ : ∃ t, Hid (costTo n zs (rosOf os ko ids) v1 k = t) := ⟨_, rfl⟩
    rw [HPL.out] at hpl
    rw [HFR.out] at hcb
    rw [HPL.out, HFR.out]
    have HPB : Hid (0 ≤ p ∧ p < n) := hpl
    clear hb hrv hpl
    by_cases hlt : k < ids.length
    · obtain ⟨b, off, rfl, hcs⟩ := IntsAt.some (IntsAt.below HI.out HB.out.1) hlt
      have ct := hcs k hlt
      clear hcs
      obtain ⟨id, HID⟩ : ∃ i, Hid (ids.getD k 0 = i) := ⟨_, rfl⟩
      rw [HID.out] at ct
      have HO1 := (fnd6F_bd HOB.out HN1.out id).1
      obtain ⟨o0, H0⟩ : ∃ t, Hid (fnd6F os ko id 0 = t) := ⟨_, rfl⟩
      obtain ⟨o1, H1⟩ : ∃ t, Hid (fnd6F os ko id 1 = t) := ⟨_, rfl⟩
      obtain ⟨o2, H2⟩ : ∃ t, Hid (fnd6F os ko id 2 = t) := ⟨_, rfl⟩
      obtain ⟨o3, H3⟩ : ∃ t, Hid (fnd6F os ko id 3 = t) := ⟨_, rfl⟩
      obtain ⟨o4, H4⟩ : ∃ t, Hid (fnd6F os ko id 4 = t) := ⟨_, rfl⟩
      obtain ⟨o5, H5⟩ : ∃ t, Hid (fnd6F os ko id 5 = t) := ⟨_, rfl⟩
      rw [H1.out] at HO1
      have HO1 : Hid (0 ≤ o1 ∧ o1 < n) := HO1
      obtain ⟨d, HD⟩ : ∃ t, Hid (tmI n zs p o1 = t) := ⟨_, rfl⟩
      have hdb := tmI_bd HMAT.out p o1
      rw [HD.out] at hdb
      have K1 : Hid (og6 (rosOf os ko ids) k 1 = o1) := (rosOf_at os ko ids hlt (by omega)).trans (by rw [HID.out]; exact H1.out)
      have HNX : Hid (costTo n zs (rosOf os ko ids) v1 (k + 1) = f + d) := by
        show _ = _
        simp only [costTo]
        rw [HFR.out, HPL.out, K1.out, HD.out]
      obtain ⟨tt, HTT⟩ : ∃ t, Hid (fnd6T os ko id = t) := ⟨_, rfl⟩
      go_wp2_with fail
      have HCT : Hid (wr.cell? ⟨b, off + k, none⟩ = _) := ct
      have HCA : Hid ((wr.alloc (Obj.cells #[Value.int IntKind.i64 0, Value.int IntKind.i64 0, Value.int IntKind.i64 0, Value.int IntKind.i64 0, Value.int IntKind.i64 0, Value.int IntKind.i64 0] 43)).cell? ⟨b, off + k, none⟩ = _) := (((Below.refl wr.heap.size wr).alloc (Nat.le_refl _) _).cell (p := ⟨b, off + k, none⟩) (block_lt_of_cell ct)).trans ct
      have HVA : Hid ((wr.alloc (Obj.cells #[Value.int IntKind.i64 0, Value.int IntKind.i64 0, Value.int IntKind.i64 0, Value.int IntKind.i64 0, Value.int IntKind.i64 0, Value.int IntKind.i64 0] 43)).heap[gv]? = _) := (heap_alloc_old _ _ (row_lt HRV.out)).trans HRV.out
      have hlb := block_lt_of_cell ct
      simp at hlb
      have hlw := row_lt HB.out.2.1
      have hlr := row_lt HB.out.2.2
      go_region_held3 (fun W => W.cell? ⟨w.heap.size, 0, none⟩ = some (.int .i64 n) ∧ W.cell? ⟨w.heap.size, 1, none⟩ = some (.slice a zs.length cap) ∧ W.cell? ⟨w.heap.size, 2, none⟩ = some (.slice ao ko co) ∧ W.cell? ⟨w.heap.size, 3, none⟩ = some (.slice av kv cv) ∧ W.cell? ⟨w.heap.size, 4, none⟩ = some (.int .i64 fine) ∧ W.cell? ⟨w.heap.size + 1, 1, none⟩ = some (.slice (some ⟨b, off, none⟩) ids.length c2) ∧ W.cell? ⟨b, off + k, none⟩ = some (.int .i64 id)) (first | with_reducible exact kS | with_reducible exact ⟨(keep_set (keep_set (keep_set (keep_set (keep_set (keep_set kS.1 (Nat.ne_of_lt hlw)) (Nat.ne_of_lt hlw)) (Nat.ne_of_lt hlw)) (Nat.ne_of_lt hlw)) (Nat.ne_of_lt hlw)) (Nat.ne_of_lt hlw)), (keep_set (keep_set (keep_set (keep_set (keep_set (keep_set kS.2.1 (Nat.ne_of_lt hlw)) (Nat.ne_of_lt hlw)) (Nat.ne_of_lt hlw)) (Nat.ne_of_lt hlw)) (Nat.ne_of_lt hlw)) (Nat.ne_of_lt hlw)), (keep_set (keep_set (keep_set (keep_set (keep_set (keep_set kS.2.2.1 (Nat.ne_of_lt hlw)) (Nat.ne_of_lt hlw)) (Nat.ne_of_lt hlw)) (Nat.ne_of_lt hlw)) (Nat.ne_of_lt hlw)) (Nat.ne_of_lt hlw)), (keep_set (keep_set (keep_set (keep_set (keep_set (keep_set kS.2.2.2.1 (Nat.ne_of_lt hlw)) (Nat.ne_of_lt hlw)) (Nat.ne_of_lt hlw)) (Nat.ne_of_lt hlw)) (Nat.ne_of_lt hlw)) (Nat.ne_of_lt hlw)), (keep_set (keep_set (keep_set (keep_set (keep_set (keep_set kS.2.2.2.2.1 (Nat.ne_of_lt hlw)) (Nat.ne_of_lt hlw)) (Nat.ne_of_lt hlw)) (Nat.ne_of_lt hlw)) (Nat.ne_of_lt hlw)) (Nat.ne_of_lt hlw)), (keep_set (keep_set (keep_set (keep_set (keep_set (keep_set kS.2.2.2.2.2.1 (Nat.ne_of_lt hlr)) (Nat.ne_of_lt hlr)) (Nat.ne_of_lt hlr)) (Nat.ne_of_lt hlr)) (Nat.ne_of_lt hlr)) (Nat.ne_of_lt hlr)), (keep_set (keep_set (keep_set (keep_set (keep_set (keep_set kS.2.2.2.2.2.2 (Nat.ne_of_lt hlb)) (Nat.ne_of_lt hlb)) (Nat.ne_of_lt hlb)) (Nat.ne_of_lt hlb)) (Nat.ne_of_lt hlb)) (Nat.ne_of_lt hlb))⟩ | go_keep) ((first
        | (go_at_call 42
           with_reducible refine (l2At_any n fine id a ao av _ cap ko co kv cv os wr.drew ?_ HLO.out hko).mono ?_
           · exact HO.out.below HB.out.1.drew
           rintro e w2 ⟨rfl, hb2⟩
           rw [H0.out, H1.out, H2.out, H3.out, H4.out, H5.out, HTT.out]
           have hcr2 := CR.below (CR.drew HB.out) hb2
           obtain ⟨k0, k1, k2, k3, k4⟩ := cells5 hcr2.2.1
           have k5 := (cells2 hcr2.2.2).2
           have k6 := (hb2.cell (p := ⟨b, off + k, none⟩) (block_lt_of_cell HCT.out)).trans HCT.out
           have kS := And.intro k0 (And.intro k1 (And.intro k2 (And.intro k3 (And.intro k4 (And.intro k5 k6)))))
           have CR2 : Hid (CR w w2 _ _) := hcr2
           have RV2 : Hid (w2.heap[gv]? = _) := below_row hb2 (row_lt HRV.out) HRV.out
           clear hb2 hcr2 k0 k1 k2 k3 k4 k5 k6)
        | (go_at_call 42
           with_reducible refine (l2At_any n fine id a ao av _ cap ko co kv cv os (wr.alloc (Obj.cells #[Value.int IntKind.i64 0, Value.int IntKind.i64 0, Value.int IntKind.i64 0, Value.int IntKind.i64 0, Value.int IntKind.i64 0, Value.int IntKind.i64 0] 43)).drew ?_ HLO.out hko).mono ?_
           · exact HO.out.below (CR.alloc HB.out (Obj.cells #[Value.int IntKind.i64 0, Value.int IntKind.i64 0, Value.int IntKind.i64 0, Value.int IntKind.i64 0, Value.int IntKind.i64 0, Value.int IntKind.i64 0] 43)).1.drew
           rintro e w2 ⟨rfl, hb2⟩
           rw [H0.out, H1.out, H2.out, H3.out, H4.out, H5.out, HTT.out]
           have hcr2 := CR.below (CR.drew (CR.alloc HB.out (Obj.cells #[Value.int IntKind.i64 0, Value.int IntKind.i64 0, Value.int IntKind.i64 0, Value.int IntKind.i64 0, Value.int IntKind.i64 0, Value.int IntKind.i64 0] 43))) hb2
           obtain ⟨k0, k1, k2, k3, k4⟩ := cells5 hcr2.2.1
           have k5 := (cells2 hcr2.2.2).2
           have k6 := (hb2.cell (p := ⟨b, off + k, none⟩) (block_lt_of_cell HCA.out)).trans HCA.out
           have kS := And.intro k0 (And.intro k1 (And.intro k2 (And.intro k3 (And.intro k4 (And.intro k5 k6)))))
           have CR2 : Hid (CR w w2 _ _) := hcr2
           have RV2 : Hid (w2.heap[gv]? = _) := below_row hb2 (row_lt HVA.out) HVA.out
           obtain ⟨z0, z1, z2, z3, z4, z5⟩ := cells6 (below_row hb2 (k := wr.heap.size) (by simp) (heap_alloc_new wr (Obj.cells #[Value.int IntKind.i64 0, Value.int IntKind.i64 0, Value.int IntKind.i64 0, Value.int IntKind.i64 0, Value.int IntKind.i64 0, Value.int IntKind.i64 0] 43)))
           have zf := fun i => frozen_of_row _ _ i _ _ (below_row hb2 (k := wr.heap.size) (by simp) (heap_alloc_new wr (Obj.cells #[Value.int IntKind.i64 0, Value.int IntKind.i64 0, Value.int IntKind.i64 0, Value.int IntKind.i64 0, Value.int IntKind.i64 0, Value.int IntKind.i64 0] 43)))
           have RO2 : Hid (w2.heap[wr.heap.size]? = _) := below_row hb2 (k := wr.heap.size) (by simp) (heap_alloc_new wr (Obj.cells #[Value.int IntKind.i64 0, Value.int IntKind.i64 0, Value.int IntKind.i64 0, Value.int IntKind.i64 0, Value.int IntKind.i64 0, Value.int IntKind.i64 0] 43))
           clear hb2 hcr2 k0 k1 k2 k3 k4 k5 k6)))
      all_goals (first
        | (have CRW : Hid (CR w (World.setCell (World.setCell (World.setCell (World.setCell (World.setCell (World.setCell w2 ⟨wr.heap.size, 0, none⟩ (Value.int IntKind.i64 o0)) ⟨wr.heap.size, 1, none⟩ (Value.int IntKind.i64 o1)) ⟨wr.heap.size, 2, none⟩ (Value.int IntKind.i64 o2)) ⟨wr.heap.size, 3, none⟩ (Value.int IntKind.i64 o3)) ⟨wr.heap.size, 4, none⟩ (Value.int IntKind.i64 o4)) ⟨wr.heap.size, 5, none⟩ (Value.int IntKind.i64 o5)) _ _) := CR.set (CR.set (CR.set (CR.set (CR.set (CR.set CR2.out HB.out.big) HB.out.big) HB.out.big) HB.out.big) HB.out.big) HB.out.big
           have RVW : Hid ((World.setCell (World.setCell (World.setCell (World.setCell (World.setCell (World.setCell w2 ⟨wr.heap.size, 0, none⟩ (Value.int IntKind.i64 o0)) ⟨wr.heap.size, 1, none⟩ (Value.int IntKind.i64 o1)) ⟨wr.heap.size, 2, none⟩ (Value.int IntKind.i64 o2)) ⟨wr.heap.size, 3, none⟩ (Value.int IntKind.i64 o3)) ⟨wr.heap.size, 4, none⟩ (Value.int IntKind.i64 o4)) ⟨wr.heap.size, 5, none⟩ (Value.int IntKind.i64 o5)).heap[gv]? = _) := row_set' (row_set' (row_set' (row_set' (row_set' (row_set' RV2.out (Nat.ne_of_lt (row_lt HRV.out))) (Nat.ne_of_lt (row_lt HRV.out))) (Nat.ne_of_lt (row_lt HRV.out))) (Nat.ne_of_lt (row_lt HRV.out))) (Nat.ne_of_lt (row_lt HRV.out))) (Nat.ne_of_lt (row_lt HRV.out))
           have ROW : Hid ((World.setCell (World.setCell (World.setCell (World.setCell (World.setCell (World.setCell w2 ⟨wr.heap.size, 0, none⟩ (Value.int IntKind.i64 o0)) ⟨wr.heap.size, 1, none⟩ (Value.int IntKind.i64 o1)) ⟨wr.heap.size, 2, none⟩ (Value.int IntKind.i64 o2)) ⟨wr.heap.size, 3, none⟩ (Value.int IntKind.i64 o3)) ⟨wr.heap.size, 4, none⟩ (Value.int IntKind.i64 o4)) ⟨wr.heap.size, 5, none⟩ (Value.int IntKind.i64 o5)).heap[wr.heap.size]? = _) := row_set6 RO2.out
           clear kS CR2 RV2 RO2 HCT HCA HVA ct z0 z1 z2 z3 z4 z5 zf
           generalize (World.setCell (World.setCell (World.setCell (World.setCell (World.setCell (World.setCell w2 ⟨wr.heap.size, 0, none⟩ (Value.int IntKind.i64 o0)) ⟨wr.heap.size, 1, none⟩ (Value.int IntKind.i64 o1)) ⟨wr.heap.size, 2, none⟩ (Value.int IntKind.i64 o2)) ⟨wr.heap.size, 3, none⟩ (Value.int IntKind.i64 o3)) ⟨wr.heap.size, 4, none⟩ (Value.int IntKind.i64 o4)) ⟨wr.heap.size, 5, none⟩ (Value.int IntKind.i64 o5)) = W at *
           generalize wr.heap.size = g at *)
        | (have CRW : Hid (CR w (w2.alloc (Obj.cells #[Value.int IntKind.i64 o0, Value.int IntKind.i64 o1, Value.int IntKind.i64 o2, Value.int IntKind.i64 o3, Value.int IntKind.i64 o4, Value.int IntKind.i64 o5] 43)) _ _) := CR.alloc CR2.out _
           have RVW : Hid ((w2.alloc (Obj.cells #[Value.int IntKind.i64 o0, Value.int IntKind.i64 o1, Value.int IntKind.i64 o2, Value.int IntKind.i64 o3, Value.int IntKind.i64 o4, Value.int IntKind.i64 o5] 43)).heap[gv]? = _) := (heap_alloc_old _ _ (row_lt RV2.out)).trans RV2.out
           have ROW : Hid ((w2.alloc (Obj.cells #[Value.int IntKind.i64 o0, Value.int IntKind.i64 o1, Value.int IntKind.i64 o2, Value.int IntKind.i64 o3, Value.int IntKind.i64 o4, Value.int IntKind.i64 o5] 43)).heap[w2.heap.size]? = _) := heap_alloc_new _ _
           clear kS CR2 RV2 HCT HCA HVA ct
           generalize w2.alloc (Obj.cells #[Value.int IntKind.i64 o0, Value.int IntKind.i64 o1, Value.int IntKind.i64 o2, Value.int IntKind.i64 o3, Value.int IntKind.i64 o4, Value.int IntKind.i64 o5] 43) = W at *
           generalize w2.heap.size = g at *))
      all_goals
        clear c0 c1 c2' c3 c4 d0 d1 hlw hlr hlb HTT
        generalize tt = tt'
        obtain ⟨c0, c1, c2', c3, c4⟩ := cells5 CRW.out.2.1
        obtain ⟨p0, p1, p2, p3, p4, p5⟩ := cells6 ROW.out
        go_wp2_with fail
        clear c0 c1 c2' c3 c4 p0 p1 p2 p3 p4 p5
        refine (l1Time_is' n p o1 _ _ zs _ d HD.out HMAT.out HPB.out HO1.out (HA.out.below CRW.out.1)).mono ?_
        rintro e W3 ⟨rfl, hb3⟩
        have CR3 : Hid (CR w W3 _ _) := CRW.out.below hb3
        have RV3 : Hid (W3.heap[gv]? = _) := below_row hb3 (row_lt RVW.out) RVW.out
        have RO3 : Hid (W3.heap[g]? = _) := below_row hb3 (row_lt ROW.out) ROW.out
        clear hb3 CRW RVW ROW
        obtain ⟨p0, p1, p2, p3, p4, p5⟩ := cells6 RO3.out
        go_wp2
        go_roundw
        case rel => exact ⟨k + 1, by omega, by go_num, by rw [← K1.out]; rfl, by rw [HNX.out], CR3.out, RV3.out⟩
        case measure => simp [intOf]; omega
    · have hkl : k = ids.length := by omega
      obtain ⟨q0, q1, q2, q3, q4⟩ := cells5 HRV.out
      have HE : Hid (r = f + tmI n zs p v1) := by
        have := HV1.out
        unfold rideV at this
        rw [← hkl, HFR.out, HPL.out] at this
        exact this.symm
      clear hkl
      obtain ⟨d, HD⟩ : ∃ t, Hid (tmI n zs p v1 = t) := ⟨_, rfl⟩
      have hdb := tmI_bd HMAT.out p v1
      rw [HD.out] at hdb HE
      go_wp2_with fail
      refine (l1Time_is' n p v1 _ _ zs _ d HD.out HMAT.out HPB.out HX1.out (HA.out.below HB.out.1)).mono ?_
      rintro e W3 ⟨rfl, hb3⟩
      have HB3 : Hid (Below w.heap.size w W3) := HB.out.1.trans (hb3.mono HB.out.1.size)
      clear hb3
      go_wp2
      go_ret
      exact ⟨ret_int HE.out.symm, HB3.out⟩

end Go.Proofs.Ytocnlgmcjdggaaa

namespace Go.Proofs.Ytocnlgmcjdggaaa
open Go.RowKit

/-- The starts of these visits. -/
def strL (vs : List Int) (k : Nat) : List Int := (List.range k).map fun i => vs.getD (i * 4 + 2) 0
theorem strL_length (vs : List Int) (k : Nat) : (strL vs k).length = k := by simp [strL]
theorem strL_zero (vs : List Int) : strL vs 0 = [] := rfl
theorem strL_succ (vs : List Int) (k : Nat) : strL vs (k + 1) = strL vs k ++ [vs.getD (k * 4 + 2) 0] := by
  unfold strL
  rw [List.range_succ, List.map_append]
  rfl
theorem strL_at (vs : List Int) {k i : Nat} (h : i < k) : (strL vs k).getD i 0 = vs.getD (i * 4 + 2) 0 := by
  unfold strL
  rw [List.getD, List.getElem?_map, List.getElem?_range h]
  rfl
theorem visL_start (n : Int) (zs ros : List Int) (home frm : Int) {m k : Nat} (hk : k < m) : (strL (visL n zs ros home frm m) m).getD k 0 = startV n zs ros home frm k := by
  rw [strL_at _ hk, visL_at n zs ros home frm hk (by omega)]
  simp [visF]
theorem freeK_early (n : Int) (zs ros : List Int) (home frm : Int) {m : Nat} : ∀ k, k ≤ m → freeK ros (strL (visL n zs ros home frm m) m) frm k = nowT n zs ros home frm k
  | 0, _ => rfl
  | k + 1, hk => by rw [freeK_succ, visL_start n zs ros home frm (by omega), nowT_succ]
/-- The earliest starts keep all hours. -/
theorem early_kept {n : Int} {zs ros : List Int} {m : Nat} {home frm to : Int} (h : hoursV n zs ros m home frm to = 0) : keptB n zs ros m (strL (visL n zs ros home frm m) m) home frm to = true := by
  obtain ⟨h1, h2⟩ := hoursV_zero h
  refine decide_eq_true ⟨fun k hk => ?_, ?_⟩
  · unfold keptAt
    rw [visL_start n zs ros home frm hk, freeK_early n zs ros home frm k (by omega)]
    have h3 := h1 k hk
    refine inB_mk ⟨?_, h3⟩
    unfold startV arrV
    omega
  · rw [freeK_early n zs ros home frm m (Nat.le_refl _)]
    exact h2
theorem early_keeps {n : Int} {zs os vs : List Int} {ko kv : Nat} {veh : Int} {ids : List Int} (h : codeV true n zs os vs ko kv veh ids = 0) : keepsV true n zs os vs ko kv veh ids (strL (visL n zs (rosOf os ko ids) (fnd5F vs kv veh 1) (fnd5F vs kv veh 3) ids.length) ids.length) = true := by
  obtain ⟨h1, h2⟩ := codeV_zero h
  rw [keepsV_yes h1 (strL_length _ _)]
  exact early_kept h2
/-- The load of a route that can be driven is no more than the room. -/
theorem load_room {n : Int} {zs os vs : List Int} {ko kv : Nat} {veh : Int} {ids : List Int} (h : codeV true n zs os vs ko kv veh ids = 0) : loadV true os ko ids ≤ fnd5F vs kv veh 2 := by
  obtain ⟨h1, h2⟩ := codeV_zero h
  obtain ⟨_, h4, h3⟩ := formV_zero h1
  obtain ⟨h12, ht⟩ := stopsB_true h3
  have hth : thereTo os ko ids ids.length := fun j hj => by
    have := ht j hj
    unfold stopB at this
    simp only [Bool.and_eq_true] at this
    exact this.1
  rw [loadV_yes rfl h12 hth]
  by_cases hc : fnd5F vs kv veh 2 < loadTo os ko ids ids.length
  · rw [formV_4 rfl h4 h3 hc] at h1
    omega
  · omega

end Go.Proofs.Ytocnlgmcjdggaaa

namespace Go.Proofs.Ytocnlgmcjdggaaa
open Go.RowKit

/-- The place behind the last but j stops, on the way back. -/
def nextP (ros : List Int) (m : Nat) (home : Int) : Nat → Int
  | 0 => home
  | j + 1 => og6 ros (m - 1 - j) 1
/-- The latest start at the last but j stops; by then the vehicle must be home where j is 0. -/
def latT (n : Int) (zs ros : List Int) (m : Nat) (home to : Int) : Nat → Int
  | 0 => to
  | j + 1 => min (og6 ros (m - 1 - j) 4) (latT n zs ros m home to j - tmI n zs (og6 ros (m - 1 - j) 1) (nextP ros m home j) - og6 ros (m - 1 - j) 5)
/-- The latest starts, and when the vehicle may leave home at the latest. -/
def latL (n : Int) (zs ros : List Int) (m : Nat) (home to : Int) : List Int := (List.range m).map fun i => latT n zs ros m home to (m - i)
def leaveV (n : Int) (zs ros : List Int) (m : Nat) (home to : Int) : Int := latT n zs ros m home to m - tmI n zs home (nextP ros m home m)
theorem latL_length (n : Int) (zs ros : List Int) (m : Nat) (home to : Int) : (latL n zs ros m home to).length = m := by simp [latL]
theorem latL_at (n : Int) (zs ros : List Int) {m i : Nat} (home to : Int) (hi : i < m) : (latL n zs ros m home to).getD i 0 = latT n zs ros m home to (m - i) := by
  unfold latL
  rw [List.getD, List.getElem?_map, List.getElem?_range hi]
  rfl
theorem latT_succ (n : Int) (zs ros : List Int) (m : Nat) (home to : Int) (j : Nat) : latT n zs ros m home to (j + 1) = min (og6 ros (m - 1 - j) 4) (latT n zs ros m home to j - tmI n zs (og6 ros (m - 1 - j) 1) (nextP ros m home j) - og6 ros (m - 1 - j) 5) := rfl
theorem nextP_succ (ros : List Int) (m : Nat) (home : Int) (j : Nat) : nextP ros m home (j + 1) = og6 ros (m - 1 - j) 1 := rfl
theorem nextP_bd {n : Int} {ros : List Int} {m : Nat} (h : RosBd n ros m) {home : Int} (h0 : 0 ≤ home ∧ home < n) : ∀ j, j ≤ m → 0 ≤ nextP ros m home j ∧ nextP ros m home j < n
  | 0, _ => h0
  | j + 1, hj => (h (m - 1 - j) (by omega)).1
theorem latT_bd {n : Int} {zs ros : List Int} {m : Nat} {home to : Int} (hz : matB n zs = true) (h : RosBd n ros m) (ht : 0 ≤ to ∧ to ≤ 1000000) : ∀ j, j ≤ m → -20000 * (j : Int) ≤ latT n zs ros m home to j ∧ latT n zs ros m home to j ≤ 1000000
  | 0, _ => by simp only [latT]; omega
  | j + 1, hj => by
    have ih := latT_bd (home := home) hz h ht j (by omega)
    have h1 := tmI_bd hz (og6 ros (m - 1 - j) 1) (nextP ros m home j)
    have h2 := h (m - 1 - j) (by omega)
    simp only [latT]
    omega

/-- Whatever starts keep all hours are no earlier than the earliest. -/
theorem kept_early {n : Int} {zs ros : List Int} {m : Nat} {starts : List Int} {home frm to : Int} (h : keptB n zs ros m starts home frm to = true) : ∀ k, k ≤ m → nowT n zs ros home frm k ≤ freeK ros starts frm k ∧ ∀ i, i < k → startV n zs ros home frm i ≤ starts.getD i 0 := by
  obtain ⟨h1, h2⟩ := of_decide_eq_true h
  intro k
  induction k with
  | zero => intro _; exact ⟨Int.le_refl _, fun i hi => by omega⟩
  | succ k ih =>
    intro hk
    obtain ⟨ih1, ih2⟩ := ih (by omega)
    have h3 := h1 k (by omega)
    unfold keptAt at h3
    have h3 := inB_true h3
    have h4 : startV n zs ros home frm k ≤ starts.getD k 0 := by
      unfold startV arrV
      omega
    refine ⟨?_, fun i hi => ?_⟩
    · rw [nowT_succ, freeK_succ]
      omega
    · by_cases e : i = k
      · rw [e]; exact h4
      · exact ih2 i (by omega)
/-- .. and no later than the latest. -/
theorem kept_late {n : Int} {zs ros : List Int} {m : Nat} {starts : List Int} {home frm to : Int} (h : keptB n zs ros m starts home frm to = true) : ∀ j, j ≤ m → freeK ros starts frm (m - j) + tmI n zs (plc ros home (m - j)) (nextP ros m home j) ≤ latT n zs ros m home to j ∧ (1 ≤ j → starts.getD (m - j) 0 ≤ latT n zs ros m home to j) := by
  obtain ⟨h1, h2⟩ := of_decide_eq_true h
  intro j
  induction j with
  | zero => intro _; exact ⟨h2, fun h => by omega⟩
  | succ j ih =>
    intro hj
    obtain ⟨ih1, _⟩ := ih (by omega)
    have e1 : m - j = (m - 1 - j) + 1 := by omega
    have e2 : m - (j + 1) = m - 1 - j := by omega
    rw [e1, freeK_succ] at ih1
    have e3 : plc ros home (m - 1 - j + 1) = og6 ros (m - 1 - j) 1 := rfl
    rw [e3] at ih1
    have h3 := h1 (m - 1 - j) (by omega)
    unfold keptAt at h3
    have h3 := inB_true h3
    have h4 : starts.getD (m - 1 - j) 0 ≤ latT n zs ros m home to (j + 1) := by
      rw [latT_succ]
      omega
    rw [e2, nextP_succ]
    exact ⟨by omega, fun _ => h4⟩
/-- Where there are such, the route can be driven. -/
theorem kept_hours {n : Int} {zs ros : List Int} {m : Nat} {starts : List Int} {home frm to : Int} (h : keptB n zs ros m starts home frm to = true) : hoursV n zs ros m home frm to = 0 := by
  obtain ⟨h1, h2⟩ := of_decide_eq_true h
  obtain ⟨h3, h4⟩ := kept_early h m (Nat.le_refl _)
  refine hoursV_ok (fun i hi => ?_) ?_
  · have h5 := h1 i hi
    unfold keptAt at h5
    have h5 := inB_true h5
    have := h4 i hi
    omega
  · unfold homeV
    omega
/-- The latest starts keep all hours; the vehicle may leave then, no earlier than it begins. -/
theorem late_kept {n : Int} {zs ros : List Int} {m : Nat} {home frm to : Int} (h : hoursV n zs ros m home frm to = 0) : keptB n zs ros m (latL n zs ros m home to) home frm to = true ∧ frm ≤ leaveV n zs ros m home to := by
  have he := early_kept h
  obtain ⟨hh1, hh2⟩ := hoursV_zero h
  have hl := kept_late he
  have hb : ∀ k, k < m → startV n zs ros home frm k ≤ latT n zs ros m home to (m - k) := fun k hk => by
    have h9 := (hl (m - k) (by omega)).2 (by omega)
    rw [show m - (m - k) = k from by omega, visL_start n zs ros home frm hk] at h9
    exact h9
  refine ⟨decide_eq_true ⟨fun k hk => ?_, ?_⟩, ?_⟩
  · unfold keptAt
    rw [latL_at n zs ros home to hk]
    have hs := hb k hk
    have h3 : og6 ros k 3 ≤ startV n zs ros home frm k := by unfold startV; omega
    have h4 : latT n zs ros m home to (m - k) ≤ og6 ros k 4 := by
      rw [show m - k = (m - 1 - k) + 1 from by omega, latT_succ, show m - 1 - (m - 1 - k) = k from by omega]
      omega
    refine inB_mk ⟨?_, h4⟩
    have h5 : freeK ros (latL n zs ros m home to) frm k + tmI n zs (plc ros home k) (og6 ros k 1) ≤ latT n zs ros m home to (m - k) := by
      cases k with
      | zero =>
        have : arrV n zs ros home frm 0 ≤ startV n zs ros home frm 0 := by unfold startV; omega
        unfold arrV at this
        simp only [nowT] at this
        rw [freeK_zero]
        omega
      | succ i =>
        rw [freeK_succ, latL_at n zs ros home to (by omega)]
        have e1 : m - i = (m - 1 - i) + 1 := by omega
        have e2 : m - 1 - (m - 1 - i) = i := by omega
        have e3 : m - 1 - i = (m - 1 - (i + 1)) + 1 := by omega
        have e4 : m - (i + 1) = m - 1 - i := by omega
        have e5 : nextP ros m home (m - 1 - i) = og6 ros (i + 1) 1 := by
          rw [e3, nextP_succ]
          rw [show m - 1 - (m - 1 - (i + 1)) = i + 1 from by omega]
        have e6 : plc ros home (i + 1) = og6 ros i 1 := rfl
        rw [e4, e6]
        have h6 := latT_succ n zs ros m home to (m - 1 - i)
        rw [← e1, e2, e5] at h6
        omega
    omega
  · have h9 := (hl 0 (by omega)).1
    cases m with
    | zero =>
      rw [freeK_zero]
      unfold homeV at hh2
      simp only [nowT] at hh2
      exact hh2
    | succ i =>
      rw [freeK_succ, latL_at n zs ros home to (by omega)]
      have h6 := latT_succ n zs ros (i + 1) home to 0
      rw [show i + 1 - i = 0 + 1 from by omega, h6]
      have e6 : plc ros home (i + 1) = og6 ros i 1 := rfl
      rw [e6, show i + 1 - 1 - 0 = i from by omega]
      simp only [latT, nextP]
      omega
  · have h9 := (hl m (by omega)).1
    rw [Nat.sub_self, freeK_zero] at h9
    have e6 : plc ros home 0 = home := rfl
    rw [e6] at h9
    unfold leaveV
    omega

end Go.Proofs.Ytocnlgmcjdggaaa
