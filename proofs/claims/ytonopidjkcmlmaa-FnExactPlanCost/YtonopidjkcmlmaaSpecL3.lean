import Derived.Test.YtonopidjkcmlmaaSpecSched
namespace Go.Proofs.Ytonopidjkcmlmaa
open Go.RowKit

set_option maxHeartbeats 1000000 in
theorem l3Ok_any (n fine veh : Int) (a ao av bi : Option Addr) (cap ko co kv cv c2 : Nat) (zs os vs ids : List Int) (w : World) (hA : IntsAt w a zs) (hO : IntsAt w ao os) (hV : IntsAt w av vs) (hI : IntsAt w bi ids) (hlo : os.length = ko * 6) (hlv : vs.length = kv * 5) (hko : ko ≤ 9223372036854775807) (hkv : kv ≤ 9223372036854775807) (hli : ids.length ≤ 9223372036854775807) (hc2 : ids.length ≤ c2) (v : Bool) (hv : decide (codeV (caseB n zs os vs ko kv fine) n zs os vs ko kv veh ids = 0) = v) :
    Calls Try.prog 36 #[.agg #[.int .i64 n, .slice a zs.length cap, .slice ao ko co, .slice av kv cv, .int .i64 fine], .agg #[.int .i64 veh, .slice bi ids.length c2]] w fun e w' => e = .returned (.bool v) ∧ Below w.heap.size w w' := by
  have HA : Hid (IntsAt w a zs) := hA
  have HO : Hid (IntsAt w ao os) := hO
  have HV : Hid (IntsAt w av vs) := hV
  have HI : Hid (IntsAt w bi ids) := hI
  have HLO : Hid _ := hlo
  have HLV : Hid _ := hlv
  clear hA hO hV hI hlo hlv
  have HVV : Hid (decide (codeV (caseB n zs os vs ko kv fine) n zs os vs ko kv veh ids = 0) = v) := hv
  clear hv
  have HC0 : Hid (CR w ((w.alloc (.cells #[Value.int IntKind.i64 n, Value.slice a zs.length cap, Value.slice ao ko co, Value.slice av kv cv, Value.int IntKind.i64 fine] 30)).alloc (.cells #[Value.int IntKind.i64 veh, Value.slice bi ids.length c2] 46)) _ _) := CR.new w _ _
  go_enter Try.func36, Try.ntmps36
  obtain ⟨c0, c1, c2', c3, c4⟩ := cells5 HC0.out.2.1
  obtain ⟨d0, d1⟩ := cells2 HC0.out.2.2
  go_wp2_with fail
  clear c0 c1 c2' c3 c4 d0 d1
  refine (specSchedule_any n fine veh a ao av bi cap ko co kv cv c2 zs os vs ids _ (HA.out.below HC0.out.1) (HO.out.below HC0.out.1) (HV.out.below HC0.out.1) (HI.out.below HC0.out.1) HLO.out HLV.out hko hkv hli hc2).mono ?_
  rintro e w2 ⟨hb, ⟨hf, rfl⟩ | ⟨hf, g, c, _, rfl, _⟩⟩
  · have HB2 : Hid (Below w.heap.size w w2) := HC0.out.1.trans (hb.mono HC0.out.1.size)
    have HVF : Hid (v = false) := HVV.out.symm.trans (decide_eq_false hf)
    generalize codeV (caseB n zs os vs ko kv fine) n zs os vs ko kv veh ids = r at *
    have hfb : (r == 0) = false := by simp [hf]
    clear hb hf HC0 HVV
    go_wp2
    go_ret
    exact ⟨ret_bool HVF.out.symm, HB2.out⟩
  · have HB2 : Hid (Below w.heap.size w w2) := HC0.out.1.trans (hb.mono HC0.out.1.size)
    have HVF : Hid (v = true) := HVV.out.symm.trans (decide_eq_true hf)
    clear hb hf HC0 HVV
    generalize homeV n zs (rosOf os ko ids) ids.length (fnd5F vs kv veh 1) (fnd5F vs kv veh 3) = hm
    go_wp2
    go_ret
    exact ⟨ret_bool HVF.out.symm, HB2.out⟩

set_option maxHeartbeats 1000000 in
theorem l3Cost_any (n fine veh : Int) (a ao av bi : Option Addr) (cap ko co kv cv c2 : Nat) (zs os vs ids : List Int) (w : World) (hA : IntsAt w a zs) (hO : IntsAt w ao os) (hV : IntsAt w av vs) (hI : IntsAt w bi ids) (hlo : os.length = ko * 6) (hlv : vs.length = kv * 5) (hko : ko ≤ 9223372036854775807) (hkv : kv ≤ 9223372036854775807) (hli : ids.length ≤ 9223372036854775807) (hcode : codeV (caseB n zs os vs ko kv fine) n zs os vs ko kv veh ids = 0) :
    Calls Try.prog 85 #[.agg #[.int .i64 n, .slice a zs.length cap, .slice ao ko co, .slice av kv cv, .int .i64 fine], .agg #[.int .i64 veh, .slice bi ids.length c2]] w fun e w' => e = .returned (.int .i64 (rideV n zs (rosOf os ko ids) ids.length (fnd5F vs kv veh 1))) ∧ Below w.heap.size w w' := by
  have HA : Hid (IntsAt w a zs) := hA
  have HO : Hid (IntsAt w ao os) := hO
  have HV : Hid (IntsAt w av vs) := hV
  have HI : Hid (IntsAt w bi ids) := hI
  have HLO : Hid _ := hlo
  have HLV : Hid _ := hlv
  clear hA hO hV hI hlo hlv
  have HC0 : Hid (CR w ((w.alloc (.cells #[Value.int IntKind.i64 n, Value.slice a zs.length cap, Value.slice ao ko co, Value.slice av kv cv, Value.int IntKind.i64 fine] 30)).alloc (.cells #[Value.int IntKind.i64 veh, Value.slice bi ids.length c2] 46)) _ _) := CR.new w _ _
  obtain ⟨hcb, _, hstB⟩ := formV_zero (codeV_zero hcode).1
  obtain ⟨hmat, hords, hvehs, hn1, _⟩ := caseB_parts hcb
  have hvb := fnd5F_bd hvehs hn1 veh
  have HMAT : Hid (matB n zs = true) := hmat
  have HOB : Hid (ordsB n os ko = true) := hords
  have HN1 : Hid (1 ≤ n) := hn1
  have h12 := (stopsB_true hstB).1
  clear hmat hords hvehs hn1 hcb hstB hcode
  obtain ⟨r, HV1⟩ : ∃ r, Hid (rideV n zs (rosOf os ko ids) ids.length (fnd5F vs kv veh 1) = r) := ⟨_, rfl⟩
  rw [HV1.out]
  go_enter Try.func85, Try.ntmps85
  obtain ⟨c0, c1, c2', c3, c4⟩ := cells5 HC0.out.2.1
  obtain ⟨d0, d1⟩ := cells2 HC0.out.2.2
  go_wp2_with fail
  clear c0 c1 c2' c3 c4 d0 d1
  refine (l2Car_any n fine veh a ao av _ cap ko co kv cv vs _ (HV.out.below HC0.out.1) HLV.out hkv).mono ?_
  rintro e w2 ⟨rfl, hb⟩
  obtain ⟨v0, G0⟩ : ∃ t, Hid (fnd5F vs kv veh 0 = t) := ⟨_, rfl⟩
  obtain ⟨v1, G1⟩ : ∃ t, Hid (fnd5F vs kv veh 1 = t) := ⟨_, rfl⟩
  obtain ⟨v2, G2⟩ : ∃ t, Hid (fnd5F vs kv veh 2 = t) := ⟨_, rfl⟩
  obtain ⟨v3, G3⟩ : ∃ t, Hid (fnd5F vs kv veh 3 = t) := ⟨_, rfl⟩
  obtain ⟨v4, G4⟩ : ∃ t, Hid (fnd5F vs kv veh 4 = t) := ⟨_, rfl⟩
  rw [G1.out, G2.out, G3.out, G4.out] at hvb
  rw [G1.out] at HV1
  rw [G0.out, G1.out, G2.out, G3.out, G4.out]
  generalize fnd5T vs kv veh = tv
  have HX1 : Hid (0 ≤ v1 ∧ v1 < n) := hvb.1
  clear hvb
  have C3 : Hid (CR w (w2.alloc (Obj.cells #[Value.int IntKind.i64 v0, Value.int IntKind.i64 v1, Value.int IntKind.i64 v2, Value.int IntKind.i64 v3, Value.int IntKind.i64 v4] 78)) _ _) := CR.alloc (HC0.out.below hb) _
  have RV3 : Hid ((w2.alloc (Obj.cells #[Value.int IntKind.i64 v0, Value.int IntKind.i64 v1, Value.int IntKind.i64 v2, Value.int IntKind.i64 v3, Value.int IntKind.i64 v4] 78)).heap[w2.heap.size]? = _) := heap_alloc_new _ _
  clear hb HC0
  obtain ⟨q0, q1, q2, q3, q4⟩ := cells5 RV3.out
  go_wp2_with fail
  clear q0 q1 q2 q3 q4
  generalize w2.alloc (Obj.cells #[Value.int IntKind.i64 v0, Value.int IntKind.i64 v1, Value.int IntKind.i64 v2, Value.int IntKind.i64 v3, Value.int IntKind.i64 v4] 78) = W2 at *
  generalize w2.heap.size = gv at *
  have HBD : Hid (RosBd n (rosOf os ko ids) ids.length) := rosBd_of HOB.out HN1.out ids
  go_loopw [7, 8, 9] (fun pl sm t wr => ∃ k : Nat, k ≤ ids.length ∧ t = .int .i64 k ∧ pl = .int .i64 (plc (rosOf os ko ids) v1 k) ∧ sm = .int .i64 (costTo n zs (rosOf os ko ids) v1 k) ∧ CR w wr #[Value.int IntKind.i64 n, Value.slice a zs.length cap, Value.slice ao ko co, Value.slice av kv cv, Value.int IntKind.i64 fine] #[Value.int IntKind.i64 veh, Value.slice bi ids.length c2] ∧ wr.heap[gv]? = some (.cells #[Value.int IntKind.i64 v0, Value.int IntKind.i64 v1, Value.int IntKind.i64 v2, Value.int IntKind.i64 v3, Value.int IntKind.i64 v4] 78 (0, 0))) (fun _ _ t _ => ids.length - (intOf t).toNat)
  case atStart => exact ⟨0, Nat.zero_le _, rfl, rfl, rfl, C3.out, RV3.out⟩
  case round =>
    clear C3 RV3
    obtain ⟨k, hk, rfl, rfl, rfl, hb, hrv⟩ := hrel
    have hpl := plc_bd HBD.out HX1.out.1 HX1.out.2 k hk
    have hcb := costTo_bd (ros := (rosOf os ko ids)) (home := v1) HMAT.out k
    have HB : Hid (CR w wr _ _) := hb
    have HRV : Hid (wr.heap[gv]? = _) := hrv
    obtain ⟨c0, c1, c2', c3, c4⟩ := cells5 hb.2.1
    obtain ⟨d0, d1⟩ := cells2 hb.2.2
    obtain ⟨p, HPL⟩ : ∃ t, Hid (plc (rosOf os ko ids) v1 k = t) := ⟨_, rfl⟩
    obtain ⟨f, HFR⟩ : ∃ t, Hid (costTo n zs (rosOf os ko ids) v1 k = t) := ⟨_, rfl⟩
    rw [HPL.out] at hpl
    rw [HFR.out] at hcb
    rw [HPL.out, HFR.out]
    have HPB : Hid (0 ≤ p ∧ p < n) := hpl
    clear hb hrv hpl
    by_cases hlt : k < ids.length
    · obtain ⟨b, off, rfl, hcs⟩ := IntsAt.some (IntsAt.below HI.out HB.out.1) hlt
      have ct := hcs k hlt
      clear hcs
      obtain ⟨id, HID⟩ : ∃ i, Hid (ids.getD k 0 = i) := ⟨_, rfl⟩
      rw [HID.out] at ct
      have HO1 := (fnd6F_bd HOB.out HN1.out id).1
      obtain ⟨o0, H0⟩ : ∃ t, Hid (fnd6F os ko id 0 = t) := ⟨_, rfl⟩
      obtain ⟨o1, H1⟩ : ∃ t, Hid (fnd6F os ko id 1 = t) := ⟨_, rfl⟩
      obtain ⟨o2, H2⟩ : ∃ t, Hid (fnd6F os ko id 2 = t) := ⟨_, rfl⟩
      obtain ⟨o3, H3⟩ : ∃ t, Hid (fnd6F os ko id 3 = t) := ⟨_, rfl⟩
      obtain ⟨o4, H4⟩ : ∃ t, Hid (fnd6F os ko id 4 = t) := ⟨_, rfl⟩
      obtain ⟨o5, H5⟩ : ∃ t, Hid (fnd6F os ko id 5 = t) := ⟨_, rfl⟩
      rw [H1.out] at HO1
      have HO1 : Hid (0 ≤ o1 ∧ o1 < n) := HO1
      obtain ⟨d, HD⟩ : ∃ t, Hid (tmI n zs p o1 = t) := ⟨_, rfl⟩
      have hdb := tmI_bd HMAT.out p o1
      rw [HD.out] at hdb
      have K1 : Hid (og6 (rosOf os ko ids) k 1 = o1) := (rosOf_at os ko ids hlt (by omega)).trans (by rw [HID.out]; exact H1.out)
      have HNX : Hid (costTo n zs (rosOf os ko ids) v1 (k + 1) = f + d) := by
        show _ = _
        simp only [costTo]
        rw [HFR.out, HPL.out, K1.out, HD.out]
      obtain ⟨tt, HTT⟩ : ∃ t, Hid (fnd6T os ko id = t) := ⟨_, rfl⟩
      go_wp2_with fail
      have HCT : Hid (wr.cell? ⟨b, off + k, none⟩ = _) := ct
      have HCA : Hid ((wr.alloc (Obj.cells #[Value.int IntKind.i64 0, Value.int IntKind.i64 0, Value.int IntKind.i64 0, Value.int IntKind.i64 0, Value.int IntKind.i64 0, Value.int IntKind.i64 0] 43)).cell? ⟨b, off + k, none⟩ = _) := (((Below.refl wr.heap.size wr).alloc (Nat.le_refl _) _).cell (p := ⟨b, off + k, none⟩) (block_lt_of_cell ct)).trans ct
      have HVA : Hid ((wr.alloc (Obj.cells #[Value.int IntKind.i64 0, Value.int IntKind.i64 0, Value.int IntKind.i64 0, Value.int IntKind.i64 0, Value.int IntKind.i64 0, Value.int IntKind.i64 0] 43)).heap[gv]? = _) := (heap_alloc_old _ _ (row_lt HRV.out)).trans HRV.out
      have hlb := block_lt_of_cell ct
      simp at hlb
      have hlw := row_lt HB.out.2.1
      have hlr := row_lt HB.out.2.2
      go_region_held3 (fun W => W.cell? ⟨w.heap.size, 0, none⟩ = some (.int .i64 n) ∧ W.cell? ⟨w.heap.size, 1, none⟩ = some (.slice a zs.length cap) ∧ W.cell? ⟨w.heap.size, 2, none⟩ = some (.slice ao ko co) ∧ W.cell? ⟨w.heap.size, 3, none⟩ = some (.slice av kv cv) ∧ W.cell? ⟨w.heap.size, 4, none⟩ = some (.int .i64 fine) ∧ W.cell? ⟨w.heap.size + 1, 1, none⟩ = some (.slice (some ⟨b, off, none⟩) ids.length c2) ∧ W.cell? ⟨b, off + k, none⟩ = some (.int .i64 id)) (first | with_reducible exact kS | with_reducible exact ⟨(keep_set (keep_set (keep_set (keep_set (keep_set (keep_set kS.1 (Nat.ne_of_lt hlw)) (Nat.ne_of_lt hlw)) (Nat.ne_of_lt hlw)) (Nat.ne_of_lt hlw)) (Nat.ne_of_lt hlw)) (Nat.ne_of_lt hlw)), (keep_set (keep_set (keep_set (keep_set (keep_set (keep_set kS.2.1 (Nat.ne_of_lt hlw)) (Nat.ne_of_lt hlw)) (Nat.ne_of_lt hlw)) (Nat.ne_of_lt hlw)) (Nat.ne_of_lt hlw)) (Nat.ne_of_lt hlw)), (keep_set (keep_set (keep_set (keep_set (keep_set (keep_set kS.2.2.1 (Nat.ne_of_lt hlw)) (Nat.ne_of_lt hlw)) (Nat.ne_of_lt hlw)) (Nat.ne_of_lt hlw)) (Nat.ne_of_lt hlw)) (Nat.ne_of_lt hlw)), (keep_set (keep_set (keep_set (keep_set (keep_set (keep_set kS.2.2.2.1 (Nat.ne_of_lt hlw)) (Nat.ne_of_lt hlw)) (Nat.ne_of_lt hlw)) (Nat.ne_of_lt hlw)) (Nat.ne_of_lt hlw)) (Nat.ne_of_lt hlw)), (keep_set (keep_set (keep_set (keep_set (keep_set (keep_set kS.2.2.2.2.1 (Nat.ne_of_lt hlw)) (Nat.ne_of_lt hlw)) (Nat.ne_of_lt hlw)) (Nat.ne_of_lt hlw)) (Nat.ne_of_lt hlw)) (Nat.ne_of_lt hlw)), (keep_set (keep_set (keep_set (keep_set (keep_set (keep_set kS.2.2.2.2.2.1 (Nat.ne_of_lt hlr)) (Nat.ne_of_lt hlr)) (Nat.ne_of_lt hlr)) (Nat.ne_of_lt hlr)) (Nat.ne_of_lt hlr)) (Nat.ne_of_lt hlr)), (keep_set (keep_set (keep_set (keep_set (keep_set (keep_set kS.2.2.2.2.2.2 (Nat.ne_of_lt hlb)) (Nat.ne_of_lt hlb)) (Nat.ne_of_lt hlb)) (Nat.ne_of_lt hlb)) (Nat.ne_of_lt hlb)) (Nat.ne_of_lt hlb))⟩ | go_keep) ((first
        | (go_at_call 38
           with_reducible refine (l2At_any n fine id a ao av _ cap ko co kv cv os wr.drew ?_ HLO.out hko).mono ?_
           · exact HO.out.below HB.out.1.drew
           rintro e w2 ⟨rfl, hb2⟩
           rw [H0.out, H1.out, H2.out, H3.out, H4.out, H5.out, HTT.out]
           have hcr2 := CR.below (CR.drew HB.out) hb2
           obtain ⟨k0, k1, k2, k3, k4⟩ := cells5 hcr2.2.1
           have k5 := (cells2 hcr2.2.2).2
           have k6 := (hb2.cell (p := ⟨b, off + k, none⟩) (block_lt_of_cell HCT.out)).trans HCT.out
           have kS := And.intro k0 (And.intro k1 (And.intro k2 (And.intro k3 (And.intro k4 (And.intro k5 k6)))))
           have CR2 : Hid (CR w w2 _ _) := hcr2
           have RV2 : Hid (w2.heap[gv]? = _) := below_row hb2 (row_lt HRV.out) HRV.out
           clear hb2 hcr2 k0 k1 k2 k3 k4 k5 k6)
        | (go_at_call 38
           with_reducible refine (l2At_any n fine id a ao av _ cap ko co kv cv os (wr.alloc (Obj.cells #[Value.int IntKind.i64 0, Value.int IntKind.i64 0, Value.int IntKind.i64 0, Value.int IntKind.i64 0, Value.int IntKind.i64 0, Value.int IntKind.i64 0] 43)).drew ?_ HLO.out hko).mono ?_
           · exact HO.out.below (CR.alloc HB.out (Obj.cells #[Value.int IntKind.i64 0, Value.int IntKind.i64 0, Value.int IntKind.i64 0, Value.int IntKind.i64 0, Value.int IntKind.i64 0, Value.int IntKind.i64 0] 43)).1.drew
           rintro e w2 ⟨rfl, hb2⟩
           rw [H0.out, H1.out, H2.out, H3.out, H4.out, H5.out, HTT.out]
           have hcr2 := CR.below (CR.drew (CR.alloc HB.out (Obj.cells #[Value.int IntKind.i64 0, Value.int IntKind.i64 0, Value.int IntKind.i64 0, Value.int IntKind.i64 0, Value.int IntKind.i64 0, Value.int IntKind.i64 0] 43))) hb2
           obtain ⟨k0, k1, k2, k3, k4⟩ := cells5 hcr2.2.1
           have k5 := (cells2 hcr2.2.2).2
           have k6 := (hb2.cell (p := ⟨b, off + k, none⟩) (block_lt_of_cell HCA.out)).trans HCA.out
           have kS := And.intro k0 (And.intro k1 (And.intro k2 (And.intro k3 (And.intro k4 (And.intro k5 k6)))))
           have CR2 : Hid (CR w w2 _ _) := hcr2
           have RV2 : Hid (w2.heap[gv]? = _) := below_row hb2 (row_lt HVA.out) HVA.out
           obtain ⟨z0, z1, z2, z3, z4, z5⟩ := cells6 (below_row hb2 (k := wr.heap.size) (by simp) (heap_alloc_new wr (Obj.cells #[Value.int IntKind.i64 0, Value.int IntKind.i64 0, Value.int IntKind.i64 0, Value.int IntKind.i64 0, Value.int IntKind.i64 0, Value.int IntKind.i64 0] 43)))
           have zf := fun i => frozen_of_row _ _ i _ _ (below_row hb2 (k := wr.heap.size) (by simp) (heap_alloc_new wr (Obj.cells #[Value.int IntKind.i64 0, Value.int IntKind.i64 0, Value.int IntKind.i64 0, Value.int IntKind.i64 0, Value.int IntKind.i64 0, Value.int IntKind.i64 0] 43)))
           have RO2 : Hid (w2.heap[wr.heap.size]? = _) := below_row hb2 (k := wr.heap.size) (by simp) (heap_alloc_new wr (Obj.cells #[Value.int IntKind.i64 0, Value.int IntKind.i64 0, Value.int IntKind.i64 0, Value.int IntKind.i64 0, Value.int IntKind.i64 0, Value.int IntKind.i64 0] 43))
           clear hb2 hcr2 k0 k1 k2 k3 k4 k5 k6)))
      all_goals (first
        | (have CRW : Hid (CR w (World.setCell (World.setCell (World.setCell (World.setCell (World.setCell (World.setCell w2 ⟨wr.heap.size, 0, none⟩ (Value.int IntKind.i64 o0)) ⟨wr.heap.size, 1, none⟩ (Value.int IntKind.i64 o1)) ⟨wr.heap.size, 2, none⟩ (Value.int IntKind.i64 o2)) ⟨wr.heap.size, 3, none⟩ (Value.int IntKind.i64 o3)) ⟨wr.heap.size, 4, none⟩ (Value.int IntKind.i64 o4)) ⟨wr.heap.size, 5, none⟩ (Value.int IntKind.i64 o5)) _ _) := CR.set (CR.set (CR.set (CR.set (CR.set (CR.set CR2.out HB.out.big) HB.out.big) HB.out.big) HB.out.big) HB.out.big) HB.out.big
           have RVW : Hid ((World.setCell (World.setCell (World.setCell (World.setCell (World.setCell (World.setCell w2 ⟨wr.heap.size, 0, none⟩ (Value.int IntKind.i64 o0)) ⟨wr.heap.size, 1, none⟩ (Value.int IntKind.i64 o1)) ⟨wr.heap.size, 2, none⟩ (Value.int IntKind.i64 o2)) ⟨wr.heap.size, 3, none⟩ (Value.int IntKind.i64 o3)) ⟨wr.heap.size, 4, none⟩ (Value.int IntKind.i64 o4)) ⟨wr.heap.size, 5, none⟩ (Value.int IntKind.i64 o5)).heap[gv]? = _) := row_set' (row_set' (row_set' (row_set' (row_set' (row_set' RV2.out (Nat.ne_of_lt (row_lt HRV.out))) (Nat.ne_of_lt (row_lt HRV.out))) (Nat.ne_of_lt (row_lt HRV.out))) (Nat.ne_of_lt (row_lt HRV.out))) (Nat.ne_of_lt (row_lt HRV.out))) (Nat.ne_of_lt (row_lt HRV.out))
           have ROW : Hid ((World.setCell (World.setCell (World.setCell (World.setCell (World.setCell (World.setCell w2 ⟨wr.heap.size, 0, none⟩ (Value.int IntKind.i64 o0)) ⟨wr.heap.size, 1, none⟩ (Value.int IntKind.i64 o1)) ⟨wr.heap.size, 2, none⟩ (Value.int IntKind.i64 o2)) ⟨wr.heap.size, 3, none⟩ (Value.int IntKind.i64 o3)) ⟨wr.heap.size, 4, none⟩ (Value.int IntKind.i64 o4)) ⟨wr.heap.size, 5, none⟩ (Value.int IntKind.i64 o5)).heap[wr.heap.size]? = _) := row_set6 RO2.out
           clear kS CR2 RV2 RO2 HCT HCA HVA ct z0 z1 z2 z3 z4 z5 zf
           generalize (World.setCell (World.setCell (World.setCell (World.setCell (World.setCell (World.setCell w2 ⟨wr.heap.size, 0, none⟩ (Value.int IntKind.i64 o0)) ⟨wr.heap.size, 1, none⟩ (Value.int IntKind.i64 o1)) ⟨wr.heap.size, 2, none⟩ (Value.int IntKind.i64 o2)) ⟨wr.heap.size, 3, none⟩ (Value.int IntKind.i64 o3)) ⟨wr.heap.size, 4, none⟩ (Value.int IntKind.i64 o4)) ⟨wr.heap.size, 5, none⟩ (Value.int IntKind.i64 o5)) = W at *
           generalize wr.heap.size = g at *)
        | (have CRW : Hid (CR w (w2.alloc (Obj.cells #[Value.int IntKind.i64 o0, Value.int IntKind.i64 o1, Value.int IntKind.i64 o2, Value.int IntKind.i64 o3, Value.int IntKind.i64 o4, Value.int IntKind.i64 o5] 43)) _ _) := CR.alloc CR2.out _
           have RVW : Hid ((w2.alloc (Obj.cells #[Value.int IntKind.i64 o0, Value.int IntKind.i64 o1, Value.int IntKind.i64 o2, Value.int IntKind.i64 o3, Value.int IntKind.i64 o4, Value.int IntKind.i64 o5] 43)).heap[gv]? = _) := (heap_alloc_old _ _ (row_lt RV2.out)).trans RV2.out
           have ROW : Hid ((w2.alloc (Obj.cells #[Value.int IntKind.i64 o0, Value.int IntKind.i64 o1, Value.int IntKind.i64 o2, Value.int IntKind.i64 o3, Value.int IntKind.i64 o4, Value.int IntKind.i64 o5] 43)).heap[w2.heap.size]? = _) := heap_alloc_new _ _
           clear kS CR2 RV2 HCT HCA HVA ct
           generalize w2.alloc (Obj.cells #[Value.int IntKind.i64 o0, Value.int IntKind.i64 o1, Value.int IntKind.i64 o2, Value.int IntKind.i64 o3, Value.int IntKind.i64 o4, Value.int IntKind.i64 o5] 43) = W at *
           generalize w2.heap.size = g at *))
      all_goals
        clear c0 c1 c2' c3 c4 d0 d1 hlw hlr hlb HTT
        generalize tt = tt'
        obtain ⟨c0, c1, c2', c3, c4⟩ := cells5 CRW.out.2.1
        obtain ⟨p0, p1, p2, p3, p4, p5⟩ := cells6 ROW.out
        go_wp2_with fail
        clear c0 c1 c2' c3 c4 p0 p1 p2 p3 p4 p5
        refine (l1Time_is' n p o1 _ _ zs _ d HD.out HMAT.out HPB.out HO1.out (HA.out.below CRW.out.1)).mono ?_
        rintro e W3 ⟨rfl, hb3⟩
        have CR3 : Hid (CR w W3 _ _) := CRW.out.below hb3
        have RV3 : Hid (W3.heap[gv]? = _) := below_row hb3 (row_lt RVW.out) RVW.out
        have RO3 : Hid (W3.heap[g]? = _) := below_row hb3 (row_lt ROW.out) ROW.out
        clear hb3 CRW RVW ROW
        obtain ⟨p0, p1, p2, p3, p4, p5⟩ := cells6 RO3.out
        go_wp2
        go_roundw
        case rel => exact ⟨k + 1, by omega, by go_num, by rw [← K1.out]; rfl, by rw [HNX.out], CR3.out, RV3.out⟩
        case measure => simp [intOf]; omega
    · have hkl : k = ids.length := by omega
      obtain ⟨q0, q1, q2, q3, q4⟩ := cells5 HRV.out
      have HE : Hid (r = f + tmI n zs p v1) := by
        have := HV1.out
        unfold rideV at this
        rw [← hkl, HFR.out, HPL.out] at this
        exact this.symm
      clear hkl
      obtain ⟨d, HD⟩ : ∃ t, Hid (tmI n zs p v1 = t) := ⟨_, rfl⟩
      have hdb := tmI_bd HMAT.out p v1
      rw [HD.out] at hdb HE
      go_wp2_with fail
      refine (l1Time_is' n p v1 _ _ zs _ d HD.out HMAT.out HPB.out HX1.out (HA.out.below HB.out.1)).mono ?_
      rintro e W3 ⟨rfl, hb3⟩
      have HB3 : Hid (Below w.heap.size w W3) := HB.out.1.trans (hb3.mono HB.out.1.size)
      clear hb3
      go_wp2
      go_ret
      exact ⟨ret_int HE.out.symm, HB3.out⟩

end Go.Proofs.Ytonopidjkcmlmaa
