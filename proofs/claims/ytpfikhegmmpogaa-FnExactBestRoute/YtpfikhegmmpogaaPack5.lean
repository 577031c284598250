import Derived.Test.YtpfikhegmmpogaaPack1
import Derived.Test.YtpfikhegmmpogaaPack2
import Derived.Test.YtpfikhegmmpogaaPack3
import Derived.Test.YtpfikhegmmpogaaSpecSched
namespace Go.Proofs.Ytpfikhegmmpogaa
open Go.RowKit

set_option maxHeartbeats 1000000 in
theorem l3Ok_any (n fine veh : Int) (a ao av bi : Option Addr) (cap ko co kv cv c2 : Nat) (zs os vs ids : List Int) (w : World) (hA : IntsAt w a zs) (hO : IntsAt w ao os) (hV : IntsAt w av vs) (hI : IntsAt w bi ids) (hlo : os.length = ko * 6) (hlv : vs.length = kv * 5) (hko : ko ≤ 9223372036854775807) (hkv : kv ≤ 9223372036854775807) (hli : ids.length ≤ 9223372036854775807) (hc2 : ids.length ≤ c2) (v : Bool) (hv : decide (codeV (caseB n zs os vs ko kv fine) n zs os vs ko kv veh ids = 0) = v) :
    Calls Try.prog 58 #[.agg #[.int .i64 n, .slice a zs.length cap, .slice ao ko co, .slice av kv cv, .int .i64 fine], .agg #[.int .i64 veh, .slice bi ids.length c2]] w fun e w' => e = .returned (.bool v) ∧ Below w.heap.size w w' := by
  have HA : Hid (IntsAt w a zs) := hA
  have HO : Hid (IntsAt w ao os) := hO
  have HV : Hid (IntsAt w av vs) := hV
  have HI : Hid (IntsAt w bi ids) := hI
  have HLO : Hid _ := hlo
  have HLV : Hid _ := hlv
  clear hA hO hV hI hlo hlv
  have HVV : Hid (decide (codeV (caseB n zs os vs ko kv fine) n zs os vs ko kv veh ids = 0) = v) := hv
  clear hv
  have HC0 : Hid (CR w ((w.alloc (.cells #[Value.int IntKind.i64 n, Value.slice a zs.length cap, Value.slice ao ko co, Value.slice av kv cv, Value.int IntKind.i64 fine] 30)).alloc (.cells #[Value.int IntKind.i64 veh, Value.slice bi ids.length c2] 34)) _ _) := CR.new w _ _
  go_enter Try.func58, Try.ntmps58
  obtain ⟨c0, c1, c2', c3, c4⟩ := cells5 HC0.out.2.1
  obtain ⟨d0, d1⟩ := cells2 HC0.out.2.2
  go_wp2_with fail
  clear c0 c1 c2' c3 c4 d0 d1
  refine (specSchedule_any n fine veh a ao av bi cap ko co kv cv c2 zs os vs ids _ (HA.out.below HC0.out.1) (HO.out.below HC0.out.1) (HV.out.below HC0.out.1) (HI.out.below HC0.out.1) HLO.out HLV.out hko hkv hli hc2).mono ?_
  rintro e w2 ⟨hb, ⟨hf, rfl⟩ | ⟨hf, g, c, _, rfl, _⟩⟩
  · have HB2 : Hid (Below w.heap.size w w2) := HC0.out.1.trans (hb.mono HC0.out.1.size)
    have HVF : Hid (v = false) := HVV.out.symm.trans (decide_eq_false hf)
    generalize codeV (caseB n zs os vs ko kv fine) n zs os vs ko kv veh ids = r at *
    have hfb : (r == 0) = false := by simp [hf]
    clear hb hf HC0 HVV
    go_wp2
    go_ret
    exact ⟨ret_bool HVF.out.symm, HB2.out⟩
  · have HB2 : Hid (Below w.heap.size w w2) := HC0.out.1.trans (hb.mono HC0.out.1.size)
    have HVF : Hid (v = true) := HVV.out.symm.trans (decide_eq_true hf)
    clear hb hf HC0 HVV
    generalize homeV n zs (rosOf os ko ids) ids.length (fnd5F vs kv veh 1) (fnd5F vs kv veh 3) = hm
    go_wp2
    go_ret
    exact ⟨ret_bool HVF.out.symm, HB2.out⟩

end Go.Proofs.Ytpfikhegmmpogaa

namespace Go.Proofs.Ytpfikhegmmpogaa
open Go.RowKit

set_option maxHeartbeats 1000000 in
theorem l3Cost_any (n fine veh : Int) (a ao av bi : Option Addr) (cap ko co kv cv c2 : Nat) (zs os vs ids : List Int) (w : World) (hA : IntsAt w a zs) (hO : IntsAt w ao os) (hV : IntsAt w av vs) (hI : IntsAt w bi ids) (hlo : os.length = ko * 6) (hlv : vs.length = kv * 5) (hko : ko ≤ 9223372036854775807) (hkv : kv ≤ 9223372036854775807) (hli : ids.length ≤ 9223372036854775807) (hcode : codeV (caseB n zs os vs ko kv fine) n zs os vs ko kv veh ids = 0) :
    Calls Try.prog 59 #[.agg #[.int .i64 n, .slice a zs.length cap, .slice ao ko co, .slice av kv cv, .int .i64 fine], .agg #[.int .i64 veh, .slice bi ids.length c2]] w fun e w' => e = .returned (.int .i64 (rideV n zs (rosOf os ko ids) ids.length (fnd5F vs kv veh 1))) ∧ Below w.heap.size w w' := by
  have HA : Hid (IntsAt w a zs) := hA
  have HO : Hid (IntsAt w ao os) := hO
  have HV : Hid (IntsAt w av vs) := hV
  have HI : Hid (IntsAt w bi ids) := hI
  have HLO : Hid _ := hlo
  have HLV : Hid _ := hlv
  clear hA hO hV hI hlo hlv
  have HC0 : Hid (CR w ((w.alloc (.cells #[Value.int IntKind.i64 n, Value.slice a zs.length cap, Value.slice ao ko co, Value.slice av kv cv, Value.int IntKind.i64 fine] 30)).alloc (.cells #[Value.int IntKind.i64 veh, Value.slice bi ids.length c2] 34)) _ _) := CR.new w _ _
  obtain ⟨hcb, _, hstB⟩ := formV_zero (codeV_zero hcode).1
  obtain ⟨hmat, hords, hvehs, hn1, _⟩ := caseB_parts hcb
  have hvb := fnd5F_bd hvehs hn1 veh
  have HMAT : Hid (matB n zs = true) := hmat
  have HOB : Hid (ordsB n os ko = true) := hords
  have HN1 : Hid (1 ≤ n) := hn1
  have h12 := (stopsB_true hstB).1
  clear hmat hords hvehs hn1 hcb hstB hcode
  obtain ⟨r, HV1⟩ : ∃ r, Hid (rideV n zs (rosOf os ko ids) ids.length (fnd5F vs kv veh 1) = r) := ⟨_, rfl⟩
  rw [HV1.out]
  go_enter Try.func59, Try.ntmps59
  obtain ⟨c0, c1, c2', c3, c4⟩ := cells5 HC0.out.2.1
  obtain ⟨d0, d1⟩ := cells2 HC0.out.2.2
  go_wp2_with fail
  clear c0 c1 c2' c3 c4 d0 d1
  refine (l2Car_any n fine veh a ao av _ cap ko co kv cv vs _ (HV.out.below HC0.out.1) HLV.out hkv).mono ?_
  rintro e w2 ⟨rfl, hb⟩
  obtain ⟨v0, G0⟩ : ∃ t, Hid (fnd5F vs kv veh 0 = t) := ⟨_, rfl⟩
  obtain ⟨v1, G1⟩ : ∃ t, Hid (fnd5F vs kv veh 1 = t) := ⟨_, rfl⟩
  obtain ⟨v2, G2⟩ : ∃ t, Hid (fnd5F vs kv veh 2 = t) := ⟨_, rfl⟩
  obtain ⟨v3, G3⟩ : ∃ t, Hid (fnd5F vs kv veh 3 = t) := ⟨_, rfl⟩
  obtain ⟨v4, G4⟩ : ∃ t, Hid (fnd5F vs kv veh 4 = t) := ⟨_, rfl⟩
  rw [G1.out, G2.out, G3.out, G4.out] at hvb
  rw [G1.out] at HV1
  rw [G0.out, G1.out, G2.out, G3.out, G4.out]
  generalize fnd5T vs kv veh = tv
  have HX1 : Hid (0 ≤ v1 ∧ v1 < n) := hvb.1
  clear hvb
  have C3 : Hid (CR w (w2.alloc (Obj.cells #[Value.int IntKind.i64 v0, Value.int IntKind.i64 v1, Value.int IntKind.i64 v2, Value.int IntKind.i64 v3, Value.int IntKind.i64 v4] 95)) _ _) := CR.alloc (HC0.out.below hb) _
  have RV3 : Hid ((w2.alloc (Obj.cells #[Value.int IntKind.i64 v0, Value.int IntKind.i64 v1, Value.int IntKind.i64 v2, Value.int IntKind.i64 v3, Value.int IntKind.i64 v4] 95)).heap[w2.heap.size]? = _) := heap_alloc_new _ _
  clear hb HC0
  obtain ⟨q0, q1, q2, q3, q4⟩ := cells5 RV3.out
  go_wp2_with fail
  clear q0 q1 q2 q3 q4
  generalize w2.alloc (Obj.cells #[Value.int IntKind.i64 v0, Value.int IntKind.i64 v1, Value.int IntKind.i64 v2, Value.int IntKind.i64 v3, Value.int IntKind.i64 v4] 95) = W2 at *
  generalize w2.heap.size = gv at *
  have HBD : Hid (RosBd n (rosOf os ko ids) ids.length) := rosBd_of HOB.out HN1.out ids
  go_loopw [7, 8, 9] (fun pl sm t wr => ∃ k : Nat, k ≤ ids.length ∧ t = .int .i64 k ∧ pl = .int .i64 (plc (rosOf os ko ids) v1 k) ∧ sm = .int .i64 (costTo n zs (rosOf os ko ids) v1 k) ∧ CR w wr #[Value.int IntKind.i64 n, Value.slice a zs.length cap, Value.slice ao ko co, Value.slice av kv cv, Value.int IntKind.i64 fine] #[Value.int IntKind.i64 veh, Value.slice bi ids.length c2] ∧ wr.heap[gv]? = some (.cells #[Value.int IntKind.i64 v0, Value.int IntKind.i64 v1, Value.int IntKind.i64 v2, Value.int IntKind.i64 v3, Value.int IntKind.i64 v4] 95 (0, 0))) (fun _ _ t _ => ids.length - (intOf t).toNat)
  case atStart => exact ⟨0, Nat.zero_le _, rfl, rfl, rfl, C3.out, RV3.out⟩
  case round =>
    clear C3 RV3
    obtain ⟨k, hk, rfl, rfl, rfl, hb, hrv⟩ := hrel
    have hpl := plc_bd HBD.out HX1.out.1 HX1.out.2 k hk
    have hcb := costTo_bd (ros := (rosOf os ko ids)) (home := v1) HMAT.out k
    have HB : Hid (CR w wr _ _) := hb
    have HRV : Hid (wr.heap[gv]? = _) := hrv
    obtain ⟨c0, c1, c2', c3, c4⟩ := cells5 hb.2.1
    obtain ⟨d0, d1⟩ := cells2 hb.2.2
    obtain ⟨p, HPL⟩ : ∃ t, Hid (plc (rosOf os ko ids) v1 k = t) := ⟨_, rfl⟩
    obtain ⟨f, HFR⟩ : ∃ t, Hid (costTo n zs (rosOf os ko ids) v1 k = t) := ⟨_, rfl⟩
    rw [HPL.out] at hpl
    rw [HFR.out] at hcb
    rw [HPL.out, HFR.out]
    have HPB : Hid (0 ≤ p ∧ p < n) := hpl
    clear hb hrv hpl
    by_cases hlt : k < ids.length
    · obtain ⟨b, off, rfl, hcs⟩ := IntsAt.some (IntsAt.below HI.out HB.out.1) hlt
      have ct := hcs k hlt
      clear hcs
      obtain ⟨id, HID⟩ : ∃ i, Hid (ids.getD k 0 = i) := ⟨_, rfl⟩
      rw [HID.out] at ct
      have HO1 := (fnd6F_bd HOB.out HN1.out id).1
      obtain ⟨o0, H0⟩ : ∃ t, Hid (fnd6F os ko id 0 = t) := ⟨_, rfl⟩
      obtain ⟨o1, H1⟩ : ∃ t, Hid (fnd6F os ko id 1 = t) := ⟨_, rfl⟩
      obtain ⟨o2, H2⟩ : ∃ t, Hid (fnd6F os ko id 2 = t) := ⟨_, rfl⟩
      obtain ⟨o3, H3⟩ : ∃ t, Hid (fnd6F os ko id 3 = t) := ⟨_, rfl⟩
      obtain ⟨o4, H4⟩ : ∃ t, Hid (fnd6F os ko id 4 = t) := ⟨_, rfl⟩
      obtain ⟨o5, H5⟩ : ∃ t, Hid (fnd6F os ko id 5 = t) := ⟨_, rfl⟩
      rw [H1.out] at HO1
      have HO1 : Hid (0 ≤ o1 ∧ o1 < n) := HO1
      obtain ⟨d, HD⟩ : ∃ t, Hid (tmI n zs p o1 = t) := ⟨_, rfl⟩
      have hdb := tmI_bd HMAT.out p o1
      rw [HD.out] at hdb
      have K1 : Hid (og6 (rosOf os ko ids) k 1 = o1) := (rosOf_at os ko ids hlt (by omega)).trans (by rw [HID.out]; exact H1.out)
      have HNX : Hid (costTo n zs (rosOf os ko ids) v1 (k + 1) = f + d) := by
        show _ = _
        simp only [costTo]
        rw [HFR.out, HPL.out, K1.out, HD.out]
      obtain ⟨tt, HTT⟩ : ∃ t, Hid (fnd6T os ko id = t) := ⟨_, rfl⟩
      go_wp2_with fail
      have HCT : Hid (wr.cell? ⟨b, off + k, none⟩ = _) := ct
      have HCA : Hid ((wr.alloc (Obj.cells #[Value.int IntKind.i64 0, Value.int IntKind.i64 0, Value.int IntKind.i64 0, Value.int IntKind.i64 0, Value.int IntKind.i64 0, Value.int IntKind.i64 0] 149)).cell? ⟨b, off + k, none⟩ = _) := (((Below.refl wr.heap.size wr).alloc (Nat.le_refl _) _).cell (p := ⟨b, off + k, none⟩) (block_lt_of_cell ct)).trans ct
      have HVA : Hid ((wr.alloc (Obj.cells #[Value.int IntKind.i64 0, Value.int IntKind.i64 0, Value.int IntKind.i64 0, Value.int IntKind.i64 0, Value.int IntKind.i64 0, Value.int IntKind.i64 0] 149)).heap[gv]? = _) := (heap_alloc_old _ _ (row_lt HRV.out)).trans HRV.out
      have hlb := block_lt_of_cell ct
      simp at hlb
      have hlw := row_lt HB.out.2.1
      have hlr := row_lt HB.out.2.2
      go_region_held3 (fun W => W.cell? ⟨w.heap.size, 0, none⟩ = some (.int .i64 n) ∧ W.cell? ⟨w.heap.size, 1, none⟩ = some (.slice a zs.length cap) ∧ W.cell? ⟨w.heap.size, 2, none⟩ = some (.slice ao ko co) ∧ W.cell? ⟨w.heap.size, 3, none⟩ = some (.slice av kv cv) ∧ W.cell? ⟨w.heap.size, 4, none⟩ = some (.int .i64 fine) ∧ W.cell? ⟨w.heap.size + 1, 1, none⟩ = some (.slice (some ⟨b, off, none⟩) ids.length c2) ∧ W.cell? ⟨b, off + k, none⟩ = some (.int .i64 id)) (first | with_reducible exact kS | with_reducible exact ⟨(keep_set (keep_set (keep_set (keep_set (keep_set (keep_set kS.1 (Nat.ne_of_lt hlw)) (Nat.ne_of_lt hlw)) (Nat.ne_of_lt hlw)) (Nat.ne_of_lt hlw)) (Nat.ne_of_lt hlw)) (Nat.ne_of_lt hlw)), (keep_set (keep_set (keep_set (keep_set (keep_set (keep_set kS.2.1 (Nat.ne_of_lt hlw)) (Nat.ne_of_lt hlw)) (Nat.ne_of_lt hlw)) (Nat.ne_of_lt hlw)) (Nat.ne_of_lt hlw)) (Nat.ne_of_lt hlw)), (keep_set (keep_set (keep_set (keep_set (keep_set (keep_set kS.2.2.1 (Nat.ne_of_lt hlw)) (Nat.ne_of_lt hlw)) (Nat.ne_of_lt hlw)) (Nat.ne_of_lt hlw)) (Nat.ne_of_lt hlw)) (Nat.ne_of_lt hlw)), (keep_set (keep_set (keep_set (keep_set (keep_set (keep_set kS.2.2.2.1 (Nat.ne_of_lt hlw)) (Nat.ne_of_lt hlw)) (Nat.ne_of_lt hlw)) (Nat.ne_of_lt hlw)) (Nat.ne_of_lt hlw)) (Nat.ne_of_lt hlw)), (keep_set (keep_set (keep_set (keep_set (keep_set (keep_set kS.2.2.2.2.1 (Nat.ne_of_lt hlw)) (Nat.ne_of_lt hlw)) (Nat.ne_of_lt hlw)) (Nat.ne_of_lt hlw)) (Nat.ne_of_lt hlw)) (Nat.ne_of_lt hlw)), (keep_set (keep_set (keep_set (keep_set (keep_set (keep_set kS.2.2.2.2.2.1 (Nat.ne_of_lt hlr)) (Nat.ne_of_lt hlr)) (Nat.ne_of_lt hlr)) (Nat.ne_of_lt hlr)) (Nat.ne_of_lt hlr)) (Nat.ne_of_lt hlr)), (keep_set (keep_set (keep_set (keep_set (keep_set (keep_set kS.2.2.2.2.2.2 (Nat.ne_of_lt hlb)) (Nat.ne_of_lt hlb)) (Nat.ne_of_lt hlb)) (Nat.ne_of_lt hlb)) (Nat.ne_of_lt hlb)) (Nat.ne_of_lt hlb))⟩ | go_keep) ((first
        | (go_at_call 102
           with_reducible refine (l2At_any n fine id a ao av _ cap ko co kv cv os wr.drew ?_ HLO.out hko).mono ?_
           · exact HO.out.below HB.out.1.drew
           rintro e w2 ⟨rfl, hb2⟩
           rw [H0.out, H1.out, H2.out, H3.out, H4.out, H5.out, HTT.out]
           have hcr2 := CR.below (CR.drew HB.out) hb2
           obtain ⟨k0, k1, k2, k3, k4⟩ := cells5 hcr2.2.1
           have k5 := (cells2 hcr2.2.2).2
           have k6 := (hb2.cell (p := ⟨b, off + k, none⟩) (block_lt_of_cell HCT.out)).trans HCT.out
           have kS := And.intro k0 (And.intro k1 (And.intro k2 (And.intro k3 (And.intro k4 (And.intro k5 k6)))))
           have CR2 : Hid (CR w w2 _ _) := hcr2
           have RV2 : Hid (w2.heap[gv]? = _) := below_row hb2 (row_lt HRV.out) HRV.out
           clear hb2 hcr2 k0 k1 k2 k3 k4 k5 k6)
        | (go_at_call 102
           with_reducible refine (l2At_any n fine id a ao av _ cap ko co kv cv os (wr.alloc (Obj.cells #[Value.int IntKind.i64 0, Value.int IntKind.i64 0, Value.int IntKind.i64 0, Value.int IntKind.i64 0, Value.int IntKind.i64 0, Value.int IntKind.i64 0] 149)).drew ?_ HLO.out hko).mono ?_
           · exact HO.out.below (CR.alloc HB.out (Obj.cells #[Value.int IntKind.i64 0, Value.int IntKind.i64 0, Value.int IntKind.i64 0, Value.int IntKind.i64 0, Value.int IntKind.i64 0, Value.int IntKind.i64 0] 149)).1.drew
           rintro e w2 ⟨rfl, hb2⟩
           rw [H0.out, H1.out, H2.out, H3.out, H4.out, H5.out, HTT.out]
           have hcr2 := CR.below (CR.drew (CR.alloc HB.out (Obj.cells #[Value.int IntKind.i64 0, Value.int IntKind.i64 0, Value.int IntKind.i64 0, Value.int IntKind.i64 0, Value.int IntKind.i64 0, Value.int IntKind.i64 0] 149))) hb2
           obtain ⟨k0, k1, k2, k3, k4⟩ := cells5 hcr2.2.1
           have k5 := (cells2 hcr2.2.2).2
           have k6 := (hb2.cell (p := ⟨b, off + k, none⟩) (block_lt_of_cell HCA.out)).trans HCA.out
           have kS := And.intro k0 (And.intro k1 (And.intro k2 (And.intro k3 (And.intro k4 (And.intro k5 k6)))))
           have CR2 : Hid (CR w w2 _ _) := hcr2
           have RV2 : Hid (w2.heap[gv]? = _) := below_row hb2 (row_lt HVA.out) HVA.out
           obtain ⟨z0, z1, z2, z3, z4, z5⟩ := cells6 (below_row hb2 (k := wr.heap.size) (by simp) (heap_alloc_new wr (Obj.cells #[Value.int IntKind.i64 0, Value.int IntKind.i64 0, Value.int IntKind.i64 0, Value.int IntKind.i64 0, Value.int IntKind.i64 0, Value.int IntKind.i64 0] 149)))
           have zf := fun i => frozen_of_row _ _ i _ _ (below_row hb2 (k := wr.heap.size) (by simp) (heap_alloc_new wr (Obj.cells #[Value.int IntKind.i64 0, Value.int IntKind.i64 0, Value.int IntKind.i64 0, Value.int IntKind.i64 0, Value.int IntKind.i64 0, Value.int IntKind.i64 0] 149)))
           have RO2 : Hid (w2.heap[wr.heap.size]? = _) := below_row hb2 (k := wr.heap.size) (by simp) (heap_alloc_new wr (Obj.cells #[Value.int IntKind.i64 0, Value.int IntKind.i64 0, Value.int IntKind.i64 0, Value.int IntKind.i64 0, Value.int IntKind.i64 0, Value.int IntKind.i64 0] 149))
           clear hb2 hcr2 k0 k1 k2 k3 k4 k5 k6)))
      all_goals (first
        | (have CRW : Hid (CR w (World.setCell (World.setCell (World.setCell (World.setCell (World.setCell (World.setCell w2 ⟨wr.heap.size, 0, none⟩ (Value.int IntKind.i64 o0)) ⟨wr.heap.size, 1, none⟩ (Value.int IntKind.i64 o1)) ⟨wr.heap.size, 2, none⟩ (Value.int IntKind.i64 o2)) ⟨wr.heap.size, 3, none⟩ (Value.int IntKind.i64 o3)) ⟨wr.heap.size, 4, none⟩ (Value.int IntKind.i64 o4)) ⟨wr.heap.size, 5, none⟩ (Value.int IntKind.i64 o5)) _ _) := CR.set (CR.set (CR.set (CR.set (CR.set (CR.set CR2.out HB.out.big) HB.out.big) HB.out.big) HB.out.big) HB.out.big) HB.out.big
           have RVW : Hid ((World.setCell (World.setCell (World.setCell (World.setCell (World.setCell (World.setCell w2 ⟨wr.heap.size, 0, none⟩ (Value.int IntKind.i64 o0)) ⟨wr.heap.size, 1, none⟩ (Value.int IntKind.i64 o1)) ⟨wr.heap.size, 2, none⟩ (Value.int IntKind.i64 o2)) ⟨wr.heap.size, 3, none⟩ (Value.int IntKind.i64 o3)) ⟨wr.heap.size, 4, none⟩ (Value.int IntKind.i64 o4)) ⟨wr.heap.size, 5, none⟩ (Value.int IntKind.i64 o5)).heap[gv]? = _) := row_set' (row_set' (row_set' (row_set' (row_set' (row_set' RV2.out (Nat.ne_of_lt (row_lt HRV.out))) (Nat.ne_of_lt (row_lt HRV.out))) (Nat.ne_of_lt (row_lt HRV.out))) (Nat.ne_of_lt (row_lt HRV.out))) (Nat.ne_of_lt (row_lt HRV.out))) (Nat.ne_of_lt (row_lt HRV.out))
           have ROW : Hid ((World.setCell (World.setCell (World.setCell (World.setCell (World.setCell (World.setCell w2 ⟨wr.heap.size, 0, none⟩ (Value.int IntKind.i64 o0)) ⟨wr.heap.size, 1, none⟩ (Value.int IntKind.i64 o1)) ⟨wr.heap.size, 2, none⟩ (Value.int IntKind.i64 o2)) ⟨wr.heap.size, 3, none⟩ (Value.int IntKind.i64 o3)) ⟨wr.heap.size, 4, none⟩ (Value.int IntKind.i64 o4)) ⟨wr.heap.size, 5, none⟩ (Value.int IntKind.i64 o5)).heap[wr.heap.size]? = _) := row_set6 RO2.out
           clear kS CR2 RV2 RO2 HCT HCA HVA ct z0 z1 z2 z3 z4 z5 zf
           generalize (World.setCell (World.setCell (World.setCell (World.setCell (World.setCell (World.setCell w2 ⟨wr.heap.size, 0, none⟩ (Value.int IntKind.i64 o0)) ⟨wr.heap.size, 1, none⟩ (Value.int IntKind.i64 o1)) ⟨wr.heap.size, 2, none⟩ (Value.int IntKind.i64 o2)) ⟨wr.heap.size, 3, none⟩ (Value.int IntKind.i64 o3)) ⟨wr.heap.size, 4, none⟩ (Value.int IntKind.i64 o4)) ⟨wr.heap.size, 5, none⟩ (Value.int IntKind.i64 o5)) = W at *
           generalize wr.heap.size = g at *)
        | (have CRW : Hid (CR w (w2.alloc (Obj.cells #[Value.int IntKind.i64 o0, Value.int IntKind.i64 o1, Value.int IntKind.i64 o2, Value.int IntKind.i64 o3, Value.int IntKind.i64 o4, Value.int IntKind.i64 o5] 149)) _ _) := CR.alloc CR2.out _
           have RVW : Hid ((w2.alloc (Obj.cells #[Value.int IntKind.i64 o0, Value.int IntKind.i64 o1, Value.int IntKind.i64 o2, Value.int IntKind.i64 o3, Value.int IntKind.i64 o4, Value.int IntKind.i64 o5] 149)).heap[gv]? = _) := (heap_alloc_old _ _ (row_lt RV2.out)).trans RV2.out
           have ROW : Hid ((w2.alloc (Obj.cells #[Value.int IntKind.i64 o0, Value.int IntKind.i64 o1, Value.int IntKind.i64 o2, Value.int IntKind.i64 o3, Value.int IntKind.i64 o4, Value.int IntKind.i64 o5] 149)).heap[w2.heap.size]? = _) := heap_alloc_new _ _
           clear kS CR2 RV2 HCT HCA HVA ct
           generalize w2.alloc (Obj.cells #[Value.int IntKind.i64 o0, Value.int IntKind.i64 o1, Value.int IntKind.i64 o2, Value.int IntKind.i64 o3, Value.int IntKind.i64 o4, Value.int IntKind.i64 o5] 149) = W at *
           generalize w2.heap.size = g at *))
      all_goals
        clear c0 c1 c2' c3 c4 d0 d1 hlw hlr hlb HTT
        generalize tt = tt'
        obtain ⟨c0, c1, c2', c3, c4⟩ := cells5 CRW.out.2.1
        obtain ⟨p0, p1, p2, p3, p4, p5⟩ := cells6 ROW.out
        go_wp2_with fail
        clear c0 c1 c2' c3 c4 p0 p1 p2 p3 p4 p5
        refine (l1Time_is' n p o1 _ _ zs _ d HD.out HMAT.out HPB.out HO1.out (HA.out.below CRW.out.1)).mono ?_
        rintro e W3 ⟨rfl, hb3⟩
        have CR3 : Hid (CR w W3 _ _) := CRW.out.below hb3
        have RV3 : Hid (W3.heap[gv]? = _) := below_row hb3 (row_lt RVW.out) RVW.out
        have RO3 : Hid (W3.heap[g]? = _) := below_row hb3 (row_lt ROW.out) ROW.out
        clear hb3 CRW RVW ROW
        obtain ⟨p0, p1, p2, p3, p4, p5⟩ := cells6 RO3.out
        go_wp2
        go_roundw
        case rel => exact ⟨k + 1, by omega, by go_num, by rw [← K1.out]; rfl, by rw [HNX.out], CR3.out, RV3.out⟩
        case measure => simp [intOf]; omega
    · have hkl : k = ids.length := by omega
      obtain ⟨q0, q1, q2, q3, q4⟩ := cells5 HRV.out
      have HE : Hid (r = f + tmI n zs p v1) := by
        have := HV1.out
        unfold rideV at this
        rw [← hkl, HFR.out, HPL.out] at this
        exact this.symm
      clear hkl
      obtain ⟨d, HD⟩ : ∃ t, Hid (tmI n zs p v1 = t) := ⟨_, rfl⟩
      have hdb := tmI_bd HMAT.out p v1
      rw [HD.out] at hdb HE
      go_wp2_with fail
      refine (l1Time_is' n p v1 _ _ zs _ d HD.out HMAT.out HPB.out HX1.out (HA.out.below HB.out.1)).mono ?_
      rintro e W3 ⟨rfl, hb3⟩
      have HB3 : Hid (Below w.heap.size w W3) := HB.out.1.trans (hb3.mono HB.out.1.size)
      clear hb3
      go_wp2
      go_ret
      exact ⟨ret_int HE.out.symm, HB3.out⟩

end Go.Proofs.Ytpfikhegmmpogaa

namespace Go.Proofs.Ytpfikhegmmpogaa
open Go.RowKit

/-- spec.BestRoute's boxes: the case, the answer, the best route so far, which owns its stops. -/
structure SB (w W : World) (cs : Array Value) (veh : Int) (m : Nat) (ids : List Int) (s : PS) : Prop where
  b : Below w.heap.size w W
  c : W.heap[w.heap.size]? = some (.cells cs 30 (0, 0))
  t : W.heap[w.heap.size + 1]? = some (.cells #[Value.int IntKind.i64 0, Value.slice none 0 0] 34 (0, 0))
  o : ∃ ad cc, W.heap[w.heap.size + 1 + 1]? = some (.cells #[.int .i64 (chI s.f veh), .slice ad (chL s.f (unr m ids s.i)).length cc] 34 (0, 0)) ∧ W.ownsRow (w.heap.size + 1 + 1 + 1) 2 1 (.slice ad (chL s.f (unr m ids s.i)).length cc) (chL s.f (unr m ids s.i)).length ((chL s.f (unr m ids s.i)).map (Value.int .i64))
theorem SB.below {w W W' : World} {cs : Array Value} {veh : Int} {m : Nat} {ids : List Int} {s : PS} (h : SB w W cs veh m ids s) (hb : Below W.heap.size W W') : SB w W' cs veh m ids s := by
  obtain ⟨ad, cc, h1, h2⟩ := h.o
  exact ⟨h.b.trans (hb.mono h.b.size), below_row hb (row_lt h.c) h.c, below_row hb (row_lt h.t) h.t, ad, cc, below_row hb (row_lt h1) h1, owns_below h2 hb⟩
theorem SB.size {w W : World} {cs : Array Value} {veh : Int} {m : Nat} {ids : List Int} {s : PS} (h : SB w W cs veh m ids s) : w.heap.size + 1 + 1 + 1 ≤ W.heap.size := by
  obtain ⟨_, _, h1, _⟩ := h.o
  exact row_lt h1
theorem SB.new (w : World) (cs : Array Value) (veh : Int) (m : Nat) (ids : List Int) : SB w (((w.alloc (.cells cs 30)).alloc (.cells #[Value.int IntKind.i64 0, Value.slice none 0 0] 34)).alloc (.cells #[Value.int IntKind.i64 0, Value.slice none 0 0] 34)) cs veh m ids ps0 := by
  have b2 : Below (w.heap.size + 1 + 1) ((w.alloc (.cells cs 30)).alloc (.cells #[Value.int IntKind.i64 0, Value.slice none 0 0] 34)) (((w.alloc (.cells cs 30)).alloc (.cells #[Value.int IntKind.i64 0, Value.slice none 0 0] 34)).alloc (.cells #[Value.int IntKind.i64 0, Value.slice none 0 0] 34)) := (Below.refl _ _).alloc (by simp) _
  refine ⟨(((Below.refl _ _).alloc (Nat.le_refl _) _).alloc (by simp) _).alloc (by simp; omega) _, (b2.block _ (by omega)).trans (heap_alloc2_old _ _ _), (b2.block _ (by omega)).trans (heap_alloc2_new _ _ _), none, 0, ?_, World.ownsRow_nil _ _ _ _⟩
  have := heap_alloc_new ((w.alloc (.cells cs 30)).alloc (.cells #[Value.int IntKind.i64 0, Value.slice none 0 0] 34)) (.cells #[Value.int IntKind.i64 0, Value.slice none 0 0] 34)
  show _ = some (Obj.cells #[Value.int IntKind.i64 0, Value.slice none 0 0] 34 (0, 0))
  simpa using this
/-- Another one is the best. -/
theorem SB.put {w W : World} {cs : Array Value} {veh : Int} {m : Nat} {ids : List Int} {s : PS} (h : SB w W cs veh m ids s) (k : Nat) (D : Int) (ad : Option Addr) (cc : Nat) (ho : W.ownsRow (w.heap.size + 1 + 1 + 1) 2 1 (.slice ad (unr m ids k).length cc) (unr m ids k).length ((unr m ids k).map (Value.int .i64))) :
    SB w ((W.setCell ⟨w.heap.size + 1 + 1, 0, none⟩ (.int .i64 veh)).setCell ⟨w.heap.size + 1 + 1, 1, none⟩ (.slice ad (unr m ids k).length cc)) cs veh m ids ⟨true, k, D⟩ := by
  obtain ⟨ad0, cc0, h1, h2⟩ := h.o
  refine ⟨(h.b.setCell (by simp; omega) _).setCell (by simp; omega) _, ?_, ?_, ad, cc, ?_, owns_set (owns_set ho (by omega)) (by omega)⟩
  · rw [heap_setCell_other _ _ _ _ (by simp; omega), heap_setCell_other _ _ _ _ (by simp; omega)]; exact h.c
  · rw [heap_setCell_other _ _ _ _ (by simp), heap_setCell_other _ _ _ _ (by simp)]; exact h.t
  · have s1 := heap_setCell_same W (w.heap.size + 1 + 1) 0 _ _ (Value.int .i64 veh) h1
    have s2 := heap_setCell_same _ (w.heap.size + 1 + 1) 1 _ _ (Value.slice ad (unr m ids k).length cc) s1
    simpa [chI, chL] using s2

set_option maxHeartbeats 4000000 in
theorem specBestRoute_any (n fine veh : Int) (a ao av bi : Option Addr) (cap ko co kv cv c2 : Nat) (zs os vs ids : List Int) (w : World) (hA : IntsAt w a zs) (hO : IntsAt w ao os) (hV : IntsAt w av vs) (hlo : os.length = ko * 6) (hlv : vs.length = kv * 5) (hko : ko ≤ 9223372036854775807) (hkv : kv ≤ 9223372036854775807) (hli : ids.length ≤ 9223372036854775807) (hpm : ∀ W (k : Nat), Below w.heap.size w W → k < facN ids.length ∧ ids.length ≤ 6 → Calls Try.prog 57 #[.slice bi ids.length c2, .int .i64 (k : Int)] W fun e w' => ∃ sl, e = .returned (.tuple #[sl, .bool true]) ∧ Below W.heap.size W w' ∧ w'.ownsRow W.heap.size 2 1 sl (unr ids.length ids k).length ((unr ids.length ids k).map (Value.int .i64))) (s0 : PS) (hs0 : brV (caseB n zs os vs ko kv fine) n zs os vs ko kv veh ids = s0) (xs : List Int) (hxs : chL s0.f (unr ids.length ids s0.i) = xs) :
    Calls Try.prog 11 #[.agg #[.int .i64 n, .slice a zs.length cap, .slice ao ko co, .slice av kv cv, .int .i64 fine], .int .i64 veh, .slice bi ids.length c2] w (ChgOk w s0.f veh s0.v xs) := by
  have HA : Hid (IntsAt w a zs) := hA
  have HO : Hid (IntsAt w ao os) := hO
  have HV : Hid (IntsAt w av vs) := hV
  have HLO : Hid (os.length = ko * 6) := hlo
  have HLV : Hid (vs.length = kv * 5) := hlv
  have HS0 : Hid (brV (caseB n zs os vs ko kv fine) n zs os vs ko kv veh ids = s0) := hs0
  have HXS : Hid (chL s0.f (unr ids.length ids s0.i) = xs) := hxs
  have HPM : Hid (∀ W (k : Nat), Below w.heap.size w W → k < facN ids.length ∧ ids.length ≤ 6 → Calls Try.prog 57 #[.slice bi ids.length c2, .int .i64 (k : Int)] W fun e w' => ∃ sl, e = .returned (.tuple #[sl, .bool true]) ∧ Below W.heap.size W w' ∧ w'.ownsRow W.heap.size 2 1 sl (unr ids.length ids k).length ((unr ids.length ids k).map (Value.int .i64))) := hpm
  clear hpm hA hO hV hlo hlv hs0 hxs
  obtain ⟨m, HM⟩ : ∃ m, Hid (ids.length = m) := ⟨_, rfl⟩
  rw [HM.out] at hli HPM HXS ⊢
  obtain ⟨cb, HCB⟩ : ∃ v, Hid (caseB n zs os vs ko kv fine = v) := ⟨_, rfl⟩
  obtain ⟨F, HF⟩ : ∃ F, Hid (brN ids = F) := ⟨_, rfl⟩
  have hF7 : F ≤ 720 := by rw [← HF.out]; exact brN_bd ids
  have HCT : Hid (∀ k : Nat, ((k : Int) < countV m ↔ k < F)) := fun k => by
    rw [← HF.out]
    by_cases h6 : m ≤ 6
    · rw [countV_yes h6, fac_nat, brN_yes (by rw [HM.out]; exact h6), HM.out]
      omega
    · rw [brN_no (by rw [HM.out]; exact h6), countV_no (inB_not (by omega))]
      omega
  have HF6 : Hid (∀ k, k < F → k < facN m ∧ m ≤ 6) := fun k hk => by
    by_cases h6 : m ≤ 6
    · have := HF.out
      rw [brN_yes (by rw [HM.out]; exact h6), HM.out] at this
      exact ⟨by omega, h6⟩
    · have := HF.out
      rw [brN_no (by rw [HM.out]; exact h6)] at this
      omega
  obtain ⟨cv0, HCV⟩ : ∃ v, Hid (countV m = v) := ⟨_, rfl⟩
  rw [HCV.out] at HCT
  have HPS : Hid (pst (brB cb n zs os vs ko kv veh ids) (brC n zs os vs ko kv veh ids) F = s0) := by
    show _ = _
    have := HS0.out
    unfold brV at this
    rw [HCB.out, HF.out] at this
    exact this
  clear HS0
  have C0 : Hid (SB w (((w.alloc (.cells #[.int .i64 n, .slice a zs.length cap, .slice ao ko co, .slice av kv cv, .int .i64 fine] 30)).alloc (.cells #[Value.int IntKind.i64 0, Value.slice none 0 0] 34)).alloc (.cells #[Value.int IntKind.i64 0, Value.slice none 0 0] 34)) #[.int .i64 n, .slice a zs.length cap, .slice ao ko co, .slice av kv cv, .int .i64 fine] veh m ids ps0) := SB.new w _ _ _ _
  go_enter Try.func11, Try.ntmps11
  go_wp2_with fail
  go_loopw [10, 11, 12] (fun tc tf t wr => ∃ k : Nat, k ≤ F ∧ t = .int .i64 k ∧ tc = .int .i64 (pst (brB cb n zs os vs ko kv veh ids) (brC n zs os vs ko kv veh ids) k).v ∧ tf = .bool (pst (brB cb n zs os vs ko kv veh ids) (brC n zs os vs ko kv veh ids) k).f ∧ SB w wr #[.int .i64 n, .slice a zs.length cap, .slice ao ko co, .slice av kv cv, .int .i64 fine] veh m ids (pst (brB cb n zs os vs ko kv veh ids) (brC n zs os vs ko kv veh ids) k)) (fun _ _ t _ => F - (intOf t).toNat)
  case atStart => exact ⟨0, Nat.zero_le _, rfl, rfl, rfl, C0.out⟩
  case round =>
    clear C0
    obtain ⟨k, hk, rfl, rfl, rfl, hC⟩ := hrel
    have HNX : Hid (pst (brB cb n zs os vs ko kv veh ids) (brC n zs os vs ko kv veh ids) (k + 1) = pstep (brB cb n zs os vs ko kv veh ids) (brC n zs os vs ko kv veh ids) (pst (brB cb n zs os vs ko kv veh ids) (brC n zs os vs ko kv veh ids) k) k) := rfl
    obtain ⟨s, HS⟩ : ∃ t, Hid (pst (brB cb n zs os vs ko kv veh ids) (brC n zs os vs ko kv veh ids) k = t) := ⟨_, rfl⟩
    rw [HS.out] at HNX hC ⊢
    have C1 : Hid (SB w wr #[.int .i64 n, .slice a zs.length cap, .slice ao ko co, .slice av kv cv, .int .i64 fine] veh m ids s) := hC
    clear hC
    have hct := HCT.out k
    by_cases hlt : k < F
    · have hcl : (k : Int) < cv0 := hct.2 hlt
      obtain ⟨hkm, hm6⟩ := HF6.out k hlt
      obtain ⟨sf, si, sv⟩ := s
      simp only at HNX ⊢
      obtain ⟨L, HL⟩ : ∃ L, Hid (unr m ids k = L) := ⟨_, rfl⟩
      have HLL : Hid (L.length = m) := by show _ = _; rw [← HL.out]; exact unr_length m ids k HM.out hkm
      obtain ⟨D, HD⟩ : ∃ D, Hid (brC n zs os vs ko kv veh ids k = D) := ⟨_, rfl⟩
      obtain ⟨o, HOO⟩ : ∃ o, Hid (brB cb n zs os vs ko kv veh ids k = o) := ⟨_, rfl⟩
      have HKO : Hid (decide (codeV (caseB n zs os vs ko kv fine) n zs os vs ko kv veh L = 0) = o) := by
        show _ = _
        rw [HCB.out, ← HL.out, ← HM.out]
        exact HOO.out
      have HKC : Hid (o = true → rideV n zs (rosOf os ko L) L.length (fnd5F vs kv veh 1) = D) := fun h => by
        have hc : codeV (caseB n zs os vs ko kv fine) n zs os vs ko kv veh L = 0 := of_decide_eq_true (HKO.out.trans h)
        rw [← rc_of' hc, ← HD.out, ← HL.out, ← HM.out]
        rfl
      have HP : Hid (∀ W, Below w.heap.size w W → Calls Try.prog 57 #[.slice bi m c2, .int .i64 (k : Int)] W fun e w' => ∃ sl, e = .returned (.tuple #[sl, .bool true]) ∧ Below W.heap.size W w' ∧ w'.ownsRow W.heap.size 2 1 sl m (L.map (Value.int .i64))) := fun W hb => by
        have := HPM.out W k hb ⟨hkm, hm6⟩
        rw [HL.out, HLL.out] at this
        exact this
      go_wp2_with (first | (go_at_call 28; refine (specCount_any _ _).mono ?_; rintro e w' ⟨rfl, hw'⟩; subst w'; rw [HCV.out]))
      refine (HP.out _ C1.out.b).mono ?_
      rintro e w2 ⟨sl, rfl, hb, ho⟩
      obtain ⟨ad, cc, e2⟩ := own_any4 ho
      subst e2
      have CI := own_at_cap4 ho
      have C2 : Hid (SB w (w2.alloc (.cells #[.int .i64 veh, .slice ad m cc] 34)) #[.int .i64 n, .slice a zs.length cap, .slice ao ko co, .slice av kv cv, .int .i64 fine] veh m ids ⟨sf, si, sv⟩) := (C1.out.below hb).below ((Below.refl _ _).alloc (Nat.le_refl _) _)
      have R2 : Hid ((w2.alloc (.cells #[.int .i64 veh, .slice ad m cc] 34)).heap[w2.heap.size]? = some (.cells #[.int .i64 veh, .slice ad m cc] 34 (0, 0))) := heap_alloc_new _ _
      have O2 : Hid ((w2.alloc (.cells #[.int .i64 veh, .slice ad m cc] 34)).ownsRow (w.heap.size + 1 + 1 + 1) 2 1 (.slice ad m cc) m (L.map (Value.int .i64))) := (owns_base ho C1.out.size).alloc _
      have I2 : Hid (IntsAt (w2.alloc (.cells #[.int .i64 veh, .slice ad m cc] 34)) ad L) := CI.1.below ((Below.refl _ _).alloc (Nat.le_refl _) _)
      have hmc := CI.2
      clear hb ho CI C1
      obtain ⟨c0, c1, c2', c3, c4⟩ := cells5 C2.out.c
      obtain ⟨d0, d1⟩ := cells2 R2.out
      go_wp2_with fail
      clear c0 c1 c2' c3 c4 d0 d1
      generalize w2.alloc (.cells #[.int .i64 veh, .slice ad m cc] 34) = W2 at *
      obtain ⟨pr, HPR⟩ : ∃ v, Hid (w2.heap.size = v) := ⟨_, rfl⟩
      rw [HPR.out] at R2 ⊢
      have HOKC : Hid (Calls Try.prog 58 #[.agg #[.int .i64 n, .slice a zs.length cap, .slice ao ko co, .slice av kv cv, .int .i64 fine], .agg #[.int .i64 veh, .slice ad m cc]] W2 fun e w' => e = .returned (.bool o) ∧ Below W2.heap.size W2 w') := by
        have := l3Ok_any n fine veh a ao av ad cap ko co kv cv cc zs os vs L W2 (HA.out.below C2.out.b) (HO.out.below C2.out.b) (HV.out.below C2.out.b) I2.out HLO.out HLV.out hko hkv (by rw [HLL.out]; exact hli) (by rw [HLL.out]; exact hmc) o HKO.out
        rw [HLL.out] at this
        exact this
      refine HOKC.out.mono ?_
      rintro e w3 ⟨rfl, hb⟩
      have C3 : Hid (SB w w3 #[.int .i64 n, .slice a zs.length cap, .slice ao ko co, .slice av kv cv, .int .i64 fine] veh m ids ⟨sf, si, sv⟩) := C2.out.below hb
      have R3 : Hid (w3.heap[pr]? = some (.cells #[.int .i64 veh, .slice ad m cc] 34 (0, 0))) := below_row hb (row_lt R2.out) R2.out
      have O3 : Hid (w3.ownsRow (w.heap.size + 1 + 1 + 1) 2 1 (.slice ad m cc) m (L.map (Value.int .i64))) := owns_below O2.out hb
      have I3 : Hid (IntsAt w3 ad L) := I2.out.below hb
      clear hb C2 R2 O2 I2 HOKC HP
      cases o
      · have HNS : Hid (pst (brB cb n zs os vs ko kv veh ids) (brC n zs os vs ko kv veh ids) (k + 1) = ⟨sf, si, sv⟩) := HNX.out.trans (pstep_no1 HOO.out)
        go_wp2
        first
          | exact ⟨⟨k + 1, by omega, by first | rfl | go_num, by rw [HNS.out], by rw [HNS.out], by rw [HNS.out]; exact C3.out⟩, by simp [intOf]; omega⟩
          | (go_roundw
             case rel => exact ⟨k + 1, by omega, by first | rfl | go_num, by rw [HNS.out], by rw [HNS.out], by rw [HNS.out]; exact C3.out⟩
             case measure => simp [intOf]; omega)
      · have hcode : codeV (caseB n zs os vs ko kv fine) n zs os vs ko kv veh L = 0 := of_decide_eq_true HKO.out
        have HCS : Hid (∀ W, Below w.heap.size w W → IntsAt W ad L → Calls Try.prog 59 #[.agg #[.int .i64 n, .slice a zs.length cap, .slice ao ko co, .slice av kv cv, .int .i64 fine], .agg #[.int .i64 veh, .slice ad m cc]] W fun e w' => e = .returned (.int .i64 D) ∧ Below W.heap.size W w') := fun W hb hI => by
          have := l3Cost_any n fine veh a ao av ad cap ko co kv cv cc zs os vs L W (HA.out.below hb) (HO.out.below hb) (HV.out.below hb) hI HLO.out HLV.out hko hkv (by rw [HLL.out]; exact hli) hcode
          rw [HKC.out rfl, HLL.out] at this
          exact this
        clear hcode
        obtain ⟨c0, c1, c2', c3, c4⟩ := cells5 C3.out.c
        obtain ⟨d0, d1⟩ := cells2 R3.out
        go_wp2_with fail
        clear c0 c1 c2' c3 c4 d0 d1
        refine (HCS.out _ C3.out.b I3.out).mono ?_
        rintro e w4 ⟨rfl, hb⟩
        have C4 : Hid (SB w w4 #[.int .i64 n, .slice a zs.length cap, .slice ao ko co, .slice av kv cv, .int .i64 fine] veh m ids ⟨sf, si, sv⟩) := C3.out.below hb
        have R4 : Hid (w4.heap[pr]? = some (.cells #[.int .i64 veh, .slice ad m cc] 34 (0, 0))) := below_row hb (row_lt R3.out) R3.out
        have O4 : Hid (w4.ownsRow (w.heap.size + 1 + 1 + 1) 2 1 (.slice ad (unr m ids k).length cc) (unr m ids k).length ((unr m ids k).map (Value.int .i64))) := by
          rw [HL.out, HLL.out]
          exact owns_below O3.out hb
        have P4 : Hid (SB w ((w4.setCell ⟨w.heap.size + 1 + 1, 0, none⟩ (.int .i64 veh)).setCell ⟨w.heap.size + 1 + 1, 1, none⟩ (.slice ad m cc)) #[.int .i64 n, .slice a zs.length cap, .slice ao ko co, .slice av kv cv, .int .i64 fine] veh m ids ⟨true, k, D⟩) := by
          have := C4.out.put k D ad cc O4.out
          rw [HL.out, HLL.out] at this
          exact this
        clear hb C3 R3 O3 I3 HCS
        obtain ⟨d0, d1⟩ := cells2 R4.out
        obtain ⟨ad0, cc0, h1, -⟩ := C4.out.o
        obtain ⟨b0, b1⟩ := cells2 h1
        have bf := fun i => frozen_of_row _ _ i _ _ h1
        clear h1
        cases sf
        · have HNS : Hid (pst (brB cb n zs os vs ko kv veh ids) (brC n zs os vs ko kv veh ids) (k + 1) = ⟨true, k, D⟩) := HNX.out.trans (by rw [← HD.out]; exact pstep_new HOO.out rfl)
          go_wp2
          first
            | exact ⟨⟨k + 1, by omega, by first | rfl | go_num, by rw [HNS.out], by rw [HNS.out], by rw [HNS.out]; exact P4.out⟩, by simp [intOf]; omega⟩
            | (go_roundw
               case rel => exact ⟨k + 1, by omega, by first | rfl | go_num, by rw [HNS.out], by rw [HNS.out], by rw [HNS.out]; exact P4.out⟩
               case measure => simp [intOf]; omega)
        · by_cases hdv : D < sv
          · have HNS : Hid (pst (brB cb n zs os vs ko kv veh ids) (brC n zs os vs ko kv veh ids) (k + 1) = ⟨true, k, D⟩) := HNX.out.trans (by rw [← HD.out]; exact pstep_yes HOO.out (by rw [HD.out]; exact hdv))
            go_wp2
            first
              | exact ⟨⟨k + 1, by omega, by first | rfl | go_num, by rw [HNS.out], by rw [HNS.out], by rw [HNS.out]; exact P4.out⟩, by simp [intOf]; omega⟩
              | (go_roundw
                 case rel => exact ⟨k + 1, by omega, by first | rfl | go_num, by rw [HNS.out], by rw [HNS.out], by rw [HNS.out]; exact P4.out⟩
                 case measure => simp [intOf]; omega)
          · have HNS : Hid (pst (brB cb n zs os vs ko kv veh ids) (brC n zs os vs ko kv veh ids) (k + 1) = ⟨true, si, sv⟩) := HNX.out.trans (pstep_no2 rfl (by rw [HD.out]; exact hdv))
            go_wp2
            first
              | exact ⟨⟨k + 1, by omega, by first | rfl | go_num, by rw [HNS.out], by rw [HNS.out], by rw [HNS.out]; exact C4.out⟩, by simp [intOf]; omega⟩
              | (go_roundw
                 case rel => exact ⟨k + 1, by omega, by first | rfl | go_num, by rw [HNS.out], by rw [HNS.out], by rw [HNS.out]; exact C4.out⟩
                 case measure => simp [intOf]; omega)
    · have hcl : ¬ ((k : Int) < cv0) := fun h => hlt (hct.1 h)
      have hke : k = F := by omega
      have HE : Hid (s = s0) := by show s = s0; rw [← HS.out, hke]; exact HPS.out
      rw [HE.out] at C1 ⊢
      clear hke HE HS HNX
      obtain ⟨ad, cc, h1, h2⟩ := C1.out.o
      rw [HXS.out] at h1 h2
      obtain ⟨sf, si, sv⟩ := s0
      simp only at h1 h2 ⊢
      have O2 : Hid (wr.ownsRow (w.heap.size + 1 + 1 + 1) 2 1 (.slice ad xs.length cc) xs.length (xs.map (Value.int .i64))) := h2
      obtain ⟨ci, HCI⟩ : ∃ v, Hid (chI sf veh = v) := ⟨_, rfl⟩
      rw [HCI.out] at h1
      obtain ⟨b0, b1⟩ := cells2 h1
      obtain ⟨t0, t1⟩ := cells2 C1.out.t
      have tf := fun i => frozen_of_row _ _ i _ _ C1.out.t
      clear h1 h2
      go_wp2_with (first | (go_at_call 28; refine (specCount_any _ _).mono ?_; rintro e w' ⟨rfl, hw'⟩; subst w'; rw [HCV.out]))
      refine bodyPost_ret (v := .tuple #[.agg #[.int .i64 ci, .slice ad xs.length cc], .int .i64 sv, .bool sf]) (by simp [results, Try.results11, go_sem, t0, t1]) rfl ⟨?_, ad, cc, by rw [HCI.out], ?_⟩
      · repeat (first | with_reducible exact C1.out.b | refine Below.setCell ?_ (by simp <;> omega) _)
      · exact owns_base (owns_set (owns_set O2.out (by omega)) (by omega)) (by omega)

end Go.Proofs.Ytpfikhegmmpogaa

namespace Go.Proofs.Ytpfikhegmmpogaa
open Go.RowKit

/-- The first m cells marked by k0, k0 + 1, .. -/
def markA (cur : Array Value) (k0 : Int) : Nat → Array Value
  | 0 => cur
  | m + 1 => (markA cur k0 m).setIfInBounds m (.int .i64 (k0 + (m : Nat)))
theorem markA_size (cur : Array Value) (k0 : Int) : ∀ m, (markA cur k0 m).size = cur.size
  | 0 => rfl
  | m + 1 => by simp [markA, markA_size cur k0 m]
theorem markA_get (cur : Array Value) (k0 : Int) : ∀ m, m ≤ cur.size → ∀ j, j < m → (markA cur k0 m)[j]? = some (.int .i64 (k0 + (j : Nat)))
  | 0, _, j, hj => by omega
  | m + 1, hm, j, hj => by
    unfold markA
    by_cases e : j = m
    · subst e
      rw [Array.getElem?_setIfInBounds_self_of_lt (by rw [markA_size]; omega)]
    · rw [Array.getElem?_setIfInBounds_ne (by omega)]
      exact markA_get cur k0 m (by omega) j (by omega)
theorem row_some {w : World} {g : Nat} {cur : Array Value} {T : TypeId} (h : w.heap[g]? = some (.cells cur T (0, 0))) {j : Nat} (hj : j < cur.size) : ∃ v, w.cell? ⟨g, j, none⟩ = some v := by
  rw [cell_of_row _ _ j _ _ _ h]
  exact ⟨cur[j], by simp [hj]⟩
theorem mark_step {w : World} {g m : Nat} {cur : Array Value} {T : TypeId} {k0 v : Int} (h : w.heap[g]? = some (.cells (markA cur k0 m) T (0, 0))) (hv : v = k0 + (m : Nat)) : (w.setCell ⟨g, m, none⟩ (.int .i64 v)).heap[g]? = some (.cells (markA cur k0 (m + 1)) T (0, 0)) := by
  rw [heap_setCell_same _ _ _ _ _ _ h, hv]
  rfl
end Go.Proofs.Ytpfikhegmmpogaa

namespace Go.Proofs.Ytpfikhegmmpogaa
open Go.RowKit

set_option maxHeartbeats 1000000 in
theorem markInt64S_any (g n cap : Nat) (k0 : Int) (cur : Array Value) (T : TypeId) (w : World) (hrow0 : w.heap[g]? = some (.cells cur T (0, 0))) (hn : n ≤ cur.size) (h0 : 0 ≤ k0) (h1 : k0 ≤ 1000000000000) (hn1 : n ≤ 10000000) :
    Calls Try.prog 37 #[.slice (some ⟨g, 0, none⟩) n cap, .int .i64 k0] w fun e w' => e = .returned (.int .i64 (k0 + ((n : Nat) : Int))) ∧ w.grownBy w' (some g) ∧ w'.heap[g]? = some (.cells (markA cur k0 (n)) T (0, 0)) := by
  have HR0 : Hid (w.heap[g]? = some (.cells cur T (0, 0))) := hrow0
  clear hrow0
  go_enter Try.func37, Try.ntmps37
  go_wp2_with fail
  go_loopw [1, 5] (fun kk t wr => ∃ k : Nat, k ≤ n ∧ t = .int .i64 k ∧ kk = .int .i64 (k0 + ((k : Nat) : Int)) ∧ w.grownBy wr (some g) ∧ wr.heap[g]? = some (.cells (markA cur k0 (k)) T (0, 0))) (fun _ t _ => n - (intOf t).toNat)
  case atStart => exact ⟨0, Nat.zero_le _, rfl, by simp, grown_refl _ _, HR0.out⟩
  case round =>
    obtain ⟨k, hk, rfl, rfl, hg, hrow⟩ := hrel
    have HG : Hid (w.grownBy wr (some g)) := hg
    clear hg
    obtain ⟨K, HK⟩ : ∃ t, Hid (k0 + ((k : Nat) : Int) = t) := ⟨_, rfl⟩
    have hkb : 0 ≤ K ∧ K ≤ 1000100000000 := by
      have := HK.out
      omega
    rw [HK.out]
    by_cases hlt : k < n
    · have fz := fun i => frozen_of_row _ _ i _ _ hrow
      obtain ⟨z0, y0⟩ := row_some hrow (j := k) (by rw [markA_size]; omega)
      have HROW : Hid ((World.heap (World.setCell wr ⟨g, k, none⟩ (Value.int IntKind.i64 K)))[g]? = some (.cells (markA cur k0 ((k + 1))) T (0, 0))) := by
        show _ = _
        exact (mark_step hrow (by have := HK.out; omega))
      have HGR : Hid (w.grownBy (World.setCell wr ⟨g, k, none⟩ (Value.int IntKind.i64 K)) (some g)) := (grown_trans HG.out (grown_set _ _ _ _))
      have HK1 : Hid (k0 + (((k + 1) : Nat) : Int) = K + 1) := by
        show _ = _
        have := HK.out
        omega
      clear hrow
      go_wp2
      go_roundw
      case rel => exact ⟨k + 1, by omega, by go_num, by first | (rw [HK1.out]; go_num) | rw [HK1.out], HGR.out, HROW.out⟩
      case measure => simp [intOf]; omega
    · have hkl : k = n := by omega
      subst hkl
      have HROW : Hid (wr.heap[g]? = _) := hrow
      clear hrow
      go_wp2
      go_ret
      exact ⟨ret_int HK.out.symm, HG.out, HROW.out⟩

set_option maxHeartbeats 400000 in
theorem markInt64S_nil (a : Option Addr) (cap : Nat) (k0 : Int) (w : World) :
    Calls Try.prog 37 #[.slice a 0 cap, .int .i64 k0] w fun e w' => e = .returned (.int .i64 k0) ∧ w' = w := by
  go_enter Try.func37, Try.ntmps37
  go_wp2_with fail
  go_loop [1, 5] (fun kk t => t = .int .i64 0 ∧ kk = .int .i64 k0) (fun _ _ => 0)
  case atStart => exact ⟨rfl, rfl⟩
  case round =>
    obtain ⟨rfl, rfl⟩ := hrel
    go_wp2
    go_ret
    exact ⟨rfl, rfl⟩

end Go.Proofs.Ytpfikhegmmpogaa

namespace Go.Proofs.Ytpfikhegmmpogaa
end Go.Proofs.Ytpfikhegmmpogaa

namespace Go.Proofs.Ytpfikhegmmpogaa
open Go.RowKit

set_option maxHeartbeats 1000000 in
theorem markOrderS_any (g n cap : Nat) (k0 : Int) (cur : Array Value) (T : TypeId) (w : World) (hrow0 : w.heap[g]? = some (.cells cur T (0, 0))) (hn : n * 6 ≤ cur.size) (h0 : 0 ≤ k0) (h1 : k0 ≤ 1000000000000) (hn1 : n ≤ 10000000) :
    Calls Try.prog 86 #[.slice (some ⟨g, 0, none⟩) n cap, .int .i64 k0] w fun e w' => e = .returned (.int .i64 (k0 + ((n * 6 : Nat) : Int))) ∧ w.grownBy w' (some g) ∧ w'.heap[g]? = some (.cells (markA cur k0 (n * 6)) T (0, 0)) := by
  have HR0 : Hid (w.heap[g]? = some (.cells cur T (0, 0))) := hrow0
  clear hrow0
  go_enter Try.func86, Try.ntmps86
  go_wp2_with fail
  go_loopw [1, 5] (fun kk t wr => ∃ k : Nat, k ≤ n ∧ t = .int .i64 k ∧ kk = .int .i64 (k0 + ((k * 6 : Nat) : Int)) ∧ w.grownBy wr (some g) ∧ wr.heap[g]? = some (.cells (markA cur k0 (k * 6)) T (0, 0))) (fun _ t _ => n - (intOf t).toNat)
  case atStart => exact ⟨0, Nat.zero_le _, rfl, by simp, grown_refl _ _, HR0.out⟩
  case round =>
    obtain ⟨k, hk, rfl, rfl, hg, hrow⟩ := hrel
    have HG : Hid (w.grownBy wr (some g)) := hg
    clear hg
    obtain ⟨K, HK⟩ : ∃ t, Hid (k0 + ((k * 6 : Nat) : Int) = t) := ⟨_, rfl⟩
    have hkb : 0 ≤ K ∧ K ≤ 1000100000000 := by
      have := HK.out
      omega
    rw [HK.out]
    by_cases hlt : k < n
    · have fz := fun i => frozen_of_row _ _ i _ _ hrow
      obtain ⟨z0, y0⟩ := row_some hrow (j := k * 6) (by rw [markA_size]; omega)
      obtain ⟨z1, y1⟩ := row_some hrow (j := k * 6 + 1) (by rw [markA_size]; omega)
      obtain ⟨z2, y2⟩ := row_some hrow (j := k * 6 + 2) (by rw [markA_size]; omega)
      obtain ⟨z3, y3⟩ := row_some hrow (j := k * 6 + 3) (by rw [markA_size]; omega)
      obtain ⟨z4, y4⟩ := row_some hrow (j := k * 6 + 4) (by rw [markA_size]; omega)
      obtain ⟨z5, y5⟩ := row_some hrow (j := k * 6 + 5) (by rw [markA_size]; omega)
      have HROW : Hid ((World.heap (World.setCell (World.setCell (World.setCell (World.setCell (World.setCell (World.setCell wr ⟨g, k * 6, none⟩ (Value.int IntKind.i64 K)) ⟨g, k * 6 + 1, none⟩ (Value.int IntKind.i64 (K + 1))) ⟨g, k * 6 + 2, none⟩ (Value.int IntKind.i64 (K + 1 + 1))) ⟨g, k * 6 + 3, none⟩ (Value.int IntKind.i64 (K + 1 + 1 + 1))) ⟨g, k * 6 + 4, none⟩ (Value.int IntKind.i64 (K + 1 + 1 + 1 + 1))) ⟨g, k * 6 + 5, none⟩ (Value.int IntKind.i64 (K + 1 + 1 + 1 + 1 + 1))))[g]? = some (.cells (markA cur k0 (((k + 1) * 6))) T (0, 0))) := by
        show _ = _
        rw [show (k + 1) * 6 = k * 6 + 1 + 1 + 1 + 1 + 1 + 1 by omega]
        exact (mark_step (mark_step (mark_step (mark_step (mark_step (mark_step hrow (by have := HK.out; omega)) (by have := HK.out; omega)) (by have := HK.out; omega)) (by have := HK.out; omega)) (by have := HK.out; omega)) (by have := HK.out; omega))
      have HGR : Hid (w.grownBy (World.setCell (World.setCell (World.setCell (World.setCell (World.setCell (World.setCell wr ⟨g, k * 6, none⟩ (Value.int IntKind.i64 K)) ⟨g, k * 6 + 1, none⟩ (Value.int IntKind.i64 (K + 1))) ⟨g, k * 6 + 2, none⟩ (Value.int IntKind.i64 (K + 1 + 1))) ⟨g, k * 6 + 3, none⟩ (Value.int IntKind.i64 (K + 1 + 1 + 1))) ⟨g, k * 6 + 4, none⟩ (Value.int IntKind.i64 (K + 1 + 1 + 1 + 1))) ⟨g, k * 6 + 5, none⟩ (Value.int IntKind.i64 (K + 1 + 1 + 1 + 1 + 1))) (some g)) := (grown_trans (grown_trans (grown_trans (grown_trans (grown_trans (grown_trans HG.out (grown_set _ _ _ _)) (grown_set _ _ _ _)) (grown_set _ _ _ _)) (grown_set _ _ _ _)) (grown_set _ _ _ _)) (grown_set _ _ _ _))
      have HK1 : Hid (k0 + ((((k + 1) * 6) : Nat) : Int) = K + 6) := by
        show _ = _
        have := HK.out
        omega
      clear hrow
      go_wp2
      go_roundw
      case rel => exact ⟨k + 1, by omega, by go_num, by first | (rw [HK1.out]; go_num) | rw [HK1.out], HGR.out, HROW.out⟩
      case measure => simp [intOf]; omega
    · have hkl : k = n := by omega
      subst hkl
      have HROW : Hid (wr.heap[g]? = _) := hrow
      clear hrow
      go_wp2
      go_ret
      exact ⟨ret_int HK.out.symm, HG.out, HROW.out⟩

set_option maxHeartbeats 400000 in
theorem markOrderS_nil (a : Option Addr) (cap : Nat) (k0 : Int) (w : World) :
    Calls Try.prog 86 #[.slice a 0 cap, .int .i64 k0] w fun e w' => e = .returned (.int .i64 k0) ∧ w' = w := by
  go_enter Try.func86, Try.ntmps86
  go_wp2_with fail
  go_loop [1, 5] (fun kk t => t = .int .i64 0 ∧ kk = .int .i64 k0) (fun _ _ => 0)
  case atStart => exact ⟨rfl, rfl⟩
  case round =>
    obtain ⟨rfl, rfl⟩ := hrel
    go_wp2
    go_ret
    exact ⟨rfl, rfl⟩

end Go.Proofs.Ytpfikhegmmpogaa

namespace Go.Proofs.Ytpfikhegmmpogaa
open Go.RowKit

set_option maxHeartbeats 1000000 in
theorem markVehicleS_any (g n cap : Nat) (k0 : Int) (cur : Array Value) (T : TypeId) (w : World) (hrow0 : w.heap[g]? = some (.cells cur T (0, 0))) (hn : n * 5 ≤ cur.size) (h0 : 0 ≤ k0) (h1 : k0 ≤ 1000000000000) (hn1 : n ≤ 10000000) :
    Calls Try.prog 87 #[.slice (some ⟨g, 0, none⟩) n cap, .int .i64 k0] w fun e w' => e = .returned (.int .i64 (k0 + ((n * 5 : Nat) : Int))) ∧ w.grownBy w' (some g) ∧ w'.heap[g]? = some (.cells (markA cur k0 (n * 5)) T (0, 0)) := by
  have HR0 : Hid (w.heap[g]? = some (.cells cur T (0, 0))) := hrow0
  clear hrow0
  go_enter Try.func87, Try.ntmps87
  go_wp2_with fail
  go_loopw [1, 5] (fun kk t wr => ∃ k : Nat, k ≤ n ∧ t = .int .i64 k ∧ kk = .int .i64 (k0 + ((k * 5 : Nat) : Int)) ∧ w.grownBy wr (some g) ∧ wr.heap[g]? = some (.cells (markA cur k0 (k * 5)) T (0, 0))) (fun _ t _ => n - (intOf t).toNat)
  case atStart => exact ⟨0, Nat.zero_le _, rfl, by simp, grown_refl _ _, HR0.out⟩
  case round =>
    obtain ⟨k, hk, rfl, rfl, hg, hrow⟩ := hrel
    have HG : Hid (w.grownBy wr (some g)) := hg
    clear hg
    obtain ⟨K, HK⟩ : ∃ t, Hid (k0 + ((k * 5 : Nat) : Int) = t) := ⟨_, rfl⟩
    have hkb : 0 ≤ K ∧ K ≤ 1000100000000 := by
      have := HK.out
      omega
    rw [HK.out]
    by_cases hlt : k < n
    · have fz := fun i => frozen_of_row _ _ i _ _ hrow
      obtain ⟨z0, y0⟩ := row_some hrow (j := k * 5) (by rw [markA_size]; omega)
      obtain ⟨z1, y1⟩ := row_some hrow (j := k * 5 + 1) (by rw [markA_size]; omega)
      obtain ⟨z2, y2⟩ := row_some hrow (j := k * 5 + 2) (by rw [markA_size]; omega)
      obtain ⟨z3, y3⟩ := row_some hrow (j := k * 5 + 3) (by rw [markA_size]; omega)
      obtain ⟨z4, y4⟩ := row_some hrow (j := k * 5 + 4) (by rw [markA_size]; omega)
      have HROW : Hid ((World.heap (World.setCell (World.setCell (World.setCell (World.setCell (World.setCell wr ⟨g, k * 5, none⟩ (Value.int IntKind.i64 K)) ⟨g, k * 5 + 1, none⟩ (Value.int IntKind.i64 (K + 1))) ⟨g, k * 5 + 2, none⟩ (Value.int IntKind.i64 (K + 1 + 1))) ⟨g, k * 5 + 3, none⟩ (Value.int IntKind.i64 (K + 1 + 1 + 1))) ⟨g, k * 5 + 4, none⟩ (Value.int IntKind.i64 (K + 1 + 1 + 1 + 1))))[g]? = some (.cells (markA cur k0 (((k + 1) * 5))) T (0, 0))) := by
        show _ = _
        rw [show (k + 1) * 5 = k * 5 + 1 + 1 + 1 + 1 + 1 by omega]
        exact (mark_step (mark_step (mark_step (mark_step (mark_step hrow (by have := HK.out; omega)) (by have := HK.out; omega)) (by have := HK.out; omega)) (by have := HK.out; omega)) (by have := HK.out; omega))
      have HGR : Hid (w.grownBy (World.setCell (World.setCell (World.setCell (World.setCell (World.setCell wr ⟨g, k * 5, none⟩ (Value.int IntKind.i64 K)) ⟨g, k * 5 + 1, none⟩ (Value.int IntKind.i64 (K + 1))) ⟨g, k * 5 + 2, none⟩ (Value.int IntKind.i64 (K + 1 + 1))) ⟨g, k * 5 + 3, none⟩ (Value.int IntKind.i64 (K + 1 + 1 + 1))) ⟨g, k * 5 + 4, none⟩ (Value.int IntKind.i64 (K + 1 + 1 + 1 + 1))) (some g)) := (grown_trans (grown_trans (grown_trans (grown_trans (grown_trans HG.out (grown_set _ _ _ _)) (grown_set _ _ _ _)) (grown_set _ _ _ _)) (grown_set _ _ _ _)) (grown_set _ _ _ _))
      have HK1 : Hid (k0 + ((((k + 1) * 5) : Nat) : Int) = K + 5) := by
        show _ = _
        have := HK.out
        omega
      clear hrow
      go_wp2
      go_roundw
      case rel => exact ⟨k + 1, by omega, by go_num, by first | (rw [HK1.out]; go_num) | rw [HK1.out], HGR.out, HROW.out⟩
      case measure => simp [intOf]; omega
    · have hkl : k = n := by omega
      subst hkl
      have HROW : Hid (wr.heap[g]? = _) := hrow
      clear hrow
      go_wp2
      go_ret
      exact ⟨ret_int HK.out.symm, HG.out, HROW.out⟩

set_option maxHeartbeats 400000 in
theorem markVehicleS_nil (a : Option Addr) (cap : Nat) (k0 : Int) (w : World) :
    Calls Try.prog 87 #[.slice a 0 cap, .int .i64 k0] w fun e w' => e = .returned (.int .i64 k0) ∧ w' = w := by
  go_enter Try.func87, Try.ntmps87
  go_wp2_with fail
  go_loop [1, 5] (fun kk t => t = .int .i64 0 ∧ kk = .int .i64 k0) (fun _ _ => 0)
  case atStart => exact ⟨rfl, rfl⟩
  case round =>
    obtain ⟨rfl, rfl⟩ := hrel
    go_wp2
    go_ret
    exact ⟨rfl, rfl⟩

end Go.Proofs.Ytpfikhegmmpogaa

namespace Go.Proofs.Ytpfikhegmmpogaa
open Go.RowKit

set_option maxHeartbeats 1000000 in
theorem heldInt64S_any (g n cap : Nat) (k0 : Int) (w : World) (hc : ∀ j, j < n → w.cell? ⟨g, j, none⟩ = some (.int .i64 (k0 + (j : Nat)))) (h0 : 0 ≤ k0) (h1 : k0 ≤ 1000000000000) (hn1 : n ≤ 10000000) :
    Calls Try.prog 88 #[.slice (some ⟨g, 0, none⟩) n cap, .int .i64 k0] w fun e w' => e = .returned (.int .i64 (k0 + ((n : Nat) : Int))) ∧ w' = w := by
  have HC : Hid (∀ j, j < n → w.cell? ⟨g, j, none⟩ = some (.int .i64 (k0 + (j : Nat)))) := hc
  clear hc
  go_enter Try.func88, Try.ntmps88
  go_wp2_with fail
  go_loop [1, 5] (fun kk t => ∃ k : Nat, k ≤ n ∧ t = .int .i64 k ∧ kk = .int .i64 (k0 + ((k : Nat) : Int))) (fun _ t => n - (intOf t).toNat)
  case atStart => exact ⟨0, Nat.zero_le _, rfl, by simp⟩
  case round =>
    obtain ⟨k, hk, rfl, rfl⟩ := hrel
    obtain ⟨K, HK⟩ : ∃ t, Hid (k0 + ((k : Nat) : Int) = t) := ⟨_, rfl⟩
    have hkb : 0 ≤ K ∧ K ≤ 1000100000000 := by
      have := HK.out
      omega
    rw [HK.out]
    by_cases hlt : k < n
    · have HK1 : Hid (k0 + (((k + 1) : Nat) : Int) = K + 1) := by
        show _ = _
        have := HK.out
        omega
      have y0 := HC.out (k) (by omega)
      rw [show k0 + (((k : Nat)) : Int) = K by have := HK.out; omega] at y0
      go_wp2
      go_round
      case rel => exact ⟨k + 1, by omega, by go_num, by first | (rw [HK1.out]; go_num) | rw [HK1.out]⟩
      case measure => simp [intOf]; omega
    · have hkl : k = n := by omega
      subst hkl
      go_wp2
      go_ret
      exact ⟨ret_int HK.out.symm, rfl⟩

set_option maxHeartbeats 400000 in
theorem heldInt64S_nil (a : Option Addr) (cap : Nat) (k0 : Int) (w : World) :
    Calls Try.prog 88 #[.slice a 0 cap, .int .i64 k0] w fun e w' => e = .returned (.int .i64 k0) ∧ w' = w := by
  go_enter Try.func88, Try.ntmps88
  go_wp2_with fail
  go_loop [1, 5] (fun kk t => t = .int .i64 0 ∧ kk = .int .i64 k0) (fun _ _ => 0)
  case atStart => exact ⟨rfl, rfl⟩
  case round =>
    obtain ⟨rfl, rfl⟩ := hrel
    go_wp2
    go_ret
    exact ⟨rfl, rfl⟩

end Go.Proofs.Ytpfikhegmmpogaa

namespace Go.Proofs.Ytpfikhegmmpogaa
open Go.RowKit

/-- A slice of numbers that was marked from 1 on. -/
def Marked1 (W : World) (ad : Option Addr) (K : Nat) : Prop := K = 0 ∨ ∃ g, ad = some ⟨g, 0, none⟩ ∧ g < W.heap.size ∧ ∀ j, j < K → W.cell? ⟨g, j, none⟩ = some (.int .i64 (1 + (j : Nat)))
theorem Marked1.below {W W' : World} {ad : Option Addr} {K : Nat} (h : Marked1 W ad K) (hb : Below W.heap.size W W') : Marked1 W' ad K := by
  rcases h with h | ⟨g, h1, h2, h3⟩
  · exact .inl h
  · exact .inr ⟨g, h1, Nat.lt_of_lt_of_le h2 hb.size, fun j hj => (hb.cell (p := ⟨g, j, none⟩) h2).trans (h3 j hj)⟩
theorem heldI_u (ad : Option Addr) (K c : Nat) (w : World) (hm : Marked1 w ad K) (hK : K ≤ 1000) :
    Calls Try.prog 88 #[.slice ad K c, .int .i64 1] w fun e w' => e = .returned (.int .i64 (1 + (K : Int))) ∧ w' = w := by
  rcases hm with rfl | ⟨g, rfl, _, hc⟩
  · exact (heldInt64S_nil ad c 1 w).mono fun e w' ⟨h1, h2⟩ => ⟨h1, h2⟩
  · exact heldInt64S_any g K c 1 w hc (by omega) (by omega) (by omega)


theorem markI_o (ad : Option Addr) (K c base : Nat) (xs : List Int) (w : World) (ho : w.ownsRow base 2 1 (.slice ad K c) K (xs.map (Value.int .i64))) (hK : K ≤ 1000) :
    Calls Try.prog 37 #[.slice ad K c, .int .i64 1] w fun e w' => e = .returned (.int .i64 (1 + (K : Int))) ∧ w.grownBy w' (Value.slice ad K c).ownBlock ∧ Marked1 w' ad K := by
  obtain ⟨h1, ⟨h2, rfl⟩ | ⟨g, cap, cur, h2, h3, h4, h5, _, h7, _⟩⟩ := ho
  · refine (markInt64S_nil ad c 1 w).mono ?_
    rintro e w' ⟨rfl, rfl⟩
    exact ⟨rfl, ⟨rfl, rfl, rfl, Nat.le_refl _, fun _ _ _ => rfl⟩, .inl rfl⟩
  · simp only [Value.slice.injEq] at h2
    obtain ⟨rfl, _, rfl⟩ := h2
    have hsz : K ≤ cur.size := by rw [h7]; omega
    refine (markInt64S_any g K c 1 cur _ w h4 hsz (by omega) (by omega) (by omega)).mono ?_
    rintro e w' ⟨rfl, hg, hr⟩
    refine ⟨rfl, hg, .inr ⟨g, rfl, row_lt hr, fun j hj => ?_⟩⟩
    rw [cell_of_row _ _ j _ _ _ hr]
    exact markA_get cur 1 K hsz j hj
theorem ints_grown {W W' : World} {a : Option Addr} {xs : List Int} {row : Option Nat} (h : IntsAt W a xs) (hg : W.grownBy W' row) (hne : ∀ b, (Value.slice a 0 0).ownBlock = some b → some b ≠ row) : IntsAt W' a xs := by
  intro j hj
  obtain ⟨b, off, rfl, hc⟩ := h j hj
  exact ⟨b, off, rfl, hg.cell hc (hne b rfl)⟩
theorem own_block_any (a : Option Addr) (n c n' c' : Nat) : (Value.slice a n c).ownBlock = (Value.slice a n' c').ownBlock := by cases a <;> rfl

end Go.Proofs.Ytpfikhegmmpogaa
