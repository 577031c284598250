import Derived.Test.YtdbdmlabfbmjfaaGreatPack0
import Derived.Test.YtdbdmlabfbmjfaaGreatPack1
import Derived.Test.YtdbdmlabfbmjfaaGreatPack4
namespace Go.Proofs.YtdbdmlabfbmjfaaGreat
open Go.RowKit
set_option maxHeartbeats 1000000 in
theorem l3Cost_any (n fine veh : Int) (a ao av bi : Option Addr) (cap ko co kv cv c2 : Nat) (zs os vs ids : List Int) (w : World) (hA : IntsAt w a zs) (hO : IntsAt w ao os) (hV : IntsAt w av vs) (hI : IntsAt w bi ids) (hlo : os.length = ko * 6) (hlv : vs.length = kv * 5) (hko : ko <= 9223372036854775807) (hkv : kv <= 9223372036854775807) (hli : ids.length <= 9223372036854775807) (hcode : codeV (caseB n zs os vs ko kv fine) n zs os vs ko kv veh ids = 0) :
   Calls Tryz.prog 63 #[.agg #[.int .i64 n, .slice a zs.length cap, .slice ao ko co, .slice av kv cv, .int .i64 fine], .agg #[.int .i64 veh, .slice bi ids.length c2]] w fun e w' => e = .returned (.int .i64 (rideV n zs (rosOf os ko ids) ids.length (fnd5F vs kv veh 1))) /\ Below w.heap.size w w' := by
 have HA : Hid (IntsAt w a zs) := hA
 have HO : Hid (IntsAt w ao os) := hO
 have HV : Hid (IntsAt w av vs) := hV
 have HI : Hid (IntsAt w bi ids) := hI
 have HLO : Hid _ := hlo
 have HLV : Hid _ := hlv
 clear hA hO hV hI hlo hlv
 have HC0 : Hid (CR w ((w.alloc (.cells #[Value.int .i64 n, Value.slice a zs.length cap, Value.slice ao ko co, Value.slice av kv cv, Value.int .i64 fine] 30)).alloc (.cells #[Value.int .i64 veh, Value.slice bi ids.length c2] 57)) _ _) := CR.new w _ _
 obtain ⟨hcb, _, hstB⟩ := formV_zero (codeV_zero hcode).1
 obtain ⟨hmat, hords, hvehs, hn1, _⟩ := caseB_parts hcb
 have hvb := fnd5F_bd hvehs hn1 veh
 have HMAT : Hid (matB n zs = true) := hmat
 have HOB : Hid (ordsB n os ko = true) := hords
 have HN1 : Hid (1 <= n) := hn1
 have h12 := (stopsB_true hstB).1
 clear hmat hords hvehs hn1 hcb hstB hcode
 obtain ⟨r, HV1⟩ : ∃ r, Hid (rideV n zs (rosOf os ko ids) ids.length (fnd5F vs kv veh 1) = r) := ⟨_, rfl⟩
 rw [HV1.out]
 go_enter Tryz.func63, Tryz.ntmps63
 obtain ⟨c0, c1, c2', c3, c4⟩ := cells5 HC0.out.2.1
 obtain ⟨d0, d1⟩ := cells2 HC0.out.2.2
 go_wp2_with fail
 clear c0 c1 c2' c3 c4 d0 d1
 refine (l2Car_any n fine veh a ao av _ cap ko co kv cv vs _ (HV.out.below HC0.out.1) HLV.out hkv).mono ?_
 rintro e w2 ⟨rfl, hb⟩
 obtain ⟨v0, G0⟩ : ∃ t, Hid (fnd5F vs kv veh 0 = t) := ⟨_, rfl⟩
 obtain ⟨v1, G1⟩ : ∃ t, Hid (fnd5F vs kv veh 1 = t) := ⟨_, rfl⟩
 obtain ⟨v2, G2⟩ : ∃ t, Hid (fnd5F vs kv veh 2 = t) := ⟨_, rfl⟩
 obtain ⟨v3, G3⟩ : ∃ t, Hid (fnd5F vs kv veh 3 = t) := ⟨_, rfl⟩
 obtain ⟨v4, G4⟩ : ∃ t, Hid (fnd5F vs kv veh 4 = t) := ⟨_, rfl⟩
 rw [G1.out, G2.out, G3.out, G4.out] at hvb
 rw [G1.out] at HV1
 rw [G0.out, G1.out, G2.out, G3.out, G4.out]
 generalize fnd5T vs kv veh = tv
 have HX1 : Hid (0 <= v1 /\ v1 < n) := hvb.1
 clear hvb
 have C3 : Hid (CR w (w2.alloc (Obj.cells #[Value.int .i64 v0, Value.int .i64 v1, Value.int .i64 v2, Value.int .i64 v3, Value.int .i64 v4] 72)) _ _) := CR.alloc (HC0.out.below hb) _
 have RV3 : Hid ((w2.alloc (Obj.cells #[Value.int .i64 v0, Value.int .i64 v1, Value.int .i64 v2, Value.int .i64 v3, Value.int .i64 v4] 72)).heap[w2.heap.size]? = _) := heap_alloc_new _ _
 clear hb HC0
 obtain ⟨q0, q1, q2, q3, q4⟩ := cells5 RV3.out
 go_wp2_with fail
 clear q0 q1 q2 q3 q4
 generalize w2.alloc (Obj.cells #[Value.int .i64 v0, Value.int .i64 v1, Value.int .i64 v2, Value.int .i64 v3, Value.int .i64 v4] 72) = W2 at *
 generalize w2.heap.size = gv at *
 have HBD : Hid (RosBd n (rosOf os ko ids) ids.length) := rosBd_of HOB.out HN1.out ids
 go_loopw [7, 8, 9] (fun pl sm t wr => ∃ k : Nat, k <= ids.length /\ t = .int .i64 k /\ pl = .int .i64 (plc (rosOf os ko ids) v1 k) /\ sm = .int .i64 (costTo n zs (rosOf os ko ids) v1 k) /\ CR w wr #[Value.int .i64 n, Value.slice a zs.length cap, Value.slice ao ko co, Value.slice av kv cv, Value.int .i64 fine] #[Value.int .i64 veh, Value.slice bi ids.length c2] /\ wr.heap[gv]? = some (.cells #[Value.int .i64 v0, Value.int .i64 v1, Value.int .i64 v2, Value.int .i64 v3, Value.int .i64 v4] 72 (0, 0))) (fun _ _ t _ => ids.length - (intOf t).toNat)
 case atStart => exact ⟨0, Nat.zero_le _, rfl, rfl, rfl, C3.out, RV3.out⟩
 case round =>
   clear C3 RV3
   obtain ⟨k, hk, rfl, rfl, rfl, hb, hrv⟩ := hrel
   have hpl := plc_bd HBD.out HX1.out.1 HX1.out.2 k hk
   have hcb := costTo_bd (ros := (rosOf os ko ids)) (home := v1) HMAT.out k
   have HB : Hid (CR w wr _ _) := hb
   have HRV : Hid (wr.heap[gv]? = _) := hrv
   obtain ⟨c0, c1, c2', c3, c4⟩ := cells5 hb.2.1
   obtain ⟨d0, d1⟩ := cells2 hb.2.2
   obtain ⟨p, HPL⟩ : ∃ t, Hid (plc (rosOf os ko ids) v1 k = t) := ⟨_, rfl⟩
   obtain ⟨f, HFR⟩ : ∃ t, Hid (costTo n zs (rosOf os ko ids) v1 k = t) := ⟨_, rfl⟩
   rw [HPL.out] at hpl
   rw [HFR.out] at hcb
   rw [HPL.out, HFR.out]
   have HPB : Hid (0 <= p /\ p < n) := hpl
   clear hb hrv hpl
   by_cases hlt : k < ids.length
   · obtain ⟨b, off, rfl, hcs⟩ := IntsAt.some (IntsAt.below HI.out HB.out.1) hlt
     have ct := hcs k hlt
     clear hcs
     obtain ⟨id, HID⟩ : ∃ i, Hid (ids.getD k 0 = i) := ⟨_, rfl⟩
     rw [HID.out] at ct
     have HO1 := (fnd6F_bd HOB.out HN1.out id).1
     obtain ⟨o0, H0⟩ : ∃ t, Hid (fnd6F os ko id 0 = t) := ⟨_, rfl⟩
     obtain ⟨o1, H1⟩ : ∃ t, Hid (fnd6F os ko id 1 = t) := ⟨_, rfl⟩
     obtain ⟨o2, H2⟩ : ∃ t, Hid (fnd6F os ko id 2 = t) := ⟨_, rfl⟩
     obtain ⟨o3, H3⟩ : ∃ t, Hid (fnd6F os ko id 3 = t) := ⟨_, rfl⟩
     obtain ⟨o4, H4⟩ : ∃ t, Hid (fnd6F os ko id 4 = t) := ⟨_, rfl⟩
     obtain ⟨o5, H5⟩ : ∃ t, Hid (fnd6F os ko id 5 = t) := ⟨_, rfl⟩
     rw [H1.out] at HO1
     have HO1 : Hid (0 <= o1 /\ o1 < n) := HO1
     obtain ⟨d, HD⟩ : ∃ t, Hid (tmI n zs p o1 = t) := ⟨_, rfl⟩
     have hdb := tmI_bd HMAT.out p o1
     rw [HD.out] at hdb
     have K1 : Hid (og6 (rosOf os ko ids) k 1 = o1) := (rosOf_at os ko ids hlt (by omega)).trans (by rw [HID.out]; exact H1.out)
     have HNX : Hid (costTo n zs (rosOf os ko ids) v1 (k + 1) = f + d) := by
       show _ = _
       simp only [costTo]
       rw [HFR.out, HPL.out, K1.out, HD.out]
     obtain ⟨tt, HTT⟩ : ∃ t, Hid (fnd6T os ko id = t) := ⟨_, rfl⟩
     go_wp2_with fail
     have HCT : Hid (wr.cell? ⟨b, off + k, none⟩ = _) := ct
     have HCA : Hid ((wr.alloc (Obj.cells #[Value.int .i64 0, Value.int .i64 0, Value.int .i64 0, Value.int .i64 0, Value.int .i64 0, Value.int .i64 0] 68)).cell? ⟨b, off + k, none⟩ = _) := (((Below.refl wr.heap.size wr).alloc (Nat.le_refl _) _).cell (p := ⟨b, off + k, none⟩) (block_lt_of_cell ct)).trans ct
     have HVA : Hid ((wr.alloc (Obj.cells #[Value.int .i64 0, Value.int .i64 0, Value.int .i64 0, Value.int .i64 0, Value.int .i64 0, Value.int .i64 0] 68)).heap[gv]? = _) := (heap_alloc_old _ _ (row_lt HRV.out)).trans HRV.out
     have hlb := block_lt_of_cell ct
     simp at hlb
     have hlw := row_lt HB.out.2.1
     have hlr := row_lt HB.out.2.2
     go_region_held3 (fun W => W.cell? ⟨w.heap.size, 0, none⟩ = some (.int .i64 n) /\ W.cell? ⟨w.heap.size, 1, none⟩ = some (.slice a zs.length cap) /\ W.cell? ⟨w.heap.size, 2, none⟩ = some (.slice ao ko co) /\ W.cell? ⟨w.heap.size, 3, none⟩ = some (.slice av kv cv) /\ W.cell? ⟨w.heap.size, 4, none⟩ = some (.int .i64 fine) /\ W.cell? ⟨w.heap.size + 1, 1, none⟩ = some (.slice (some ⟨b, off, none⟩) ids.length c2) /\ W.cell? ⟨b, off + k, none⟩ = some (.int .i64 id)) (first | with_reducible exact kS | with_reducible exact ⟨(keep_set (keep_set (keep_set (keep_set (keep_set (keep_set kS.1 (Nat.ne_of_lt hlw)) (Nat.ne_of_lt hlw)) (Nat.ne_of_lt hlw)) (Nat.ne_of_lt hlw)) (Nat.ne_of_lt hlw)) (Nat.ne_of_lt hlw)), (keep_set (keep_set (keep_set (keep_set (keep_set (keep_set kS.2.1 (Nat.ne_of_lt hlw)) (Nat.ne_of_lt hlw)) (Nat.ne_of_lt hlw)) (Nat.ne_of_lt hlw)) (Nat.ne_of_lt hlw)) (Nat.ne_of_lt hlw)), (keep_set (keep_set (keep_set (keep_set (keep_set (keep_set kS.2.2.1 (Nat.ne_of_lt hlw)) (Nat.ne_of_lt hlw)) (Nat.ne_of_lt hlw)) (Nat.ne_of_lt hlw)) (Nat.ne_of_lt hlw)) (Nat.ne_of_lt hlw)), (keep_set (keep_set (keep_set (keep_set (keep_set (keep_set kS.2.2.2.1 (Nat.ne_of_lt hlw)) (Nat.ne_of_lt hlw)) (Nat.ne_of_lt hlw)) (Nat.ne_of_lt hlw)) (Nat.ne_of_lt hlw)) (Nat.ne_of_lt hlw)), (keep_set (keep_set (keep_set (keep_set (keep_set (keep_set kS.2.2.2.2.1 (Nat.ne_of_lt hlw)) (Nat.ne_of_lt hlw)) (Nat.ne_of_lt hlw)) (Nat.ne_of_lt hlw)) (Nat.ne_of_lt hlw)) (Nat.ne_of_lt hlw)), (keep_set (keep_set (keep_set (keep_set (keep_set (keep_set kS.2.2.2.2.2.1 (Nat.ne_of_lt hlr)) (Nat.ne_of_lt hlr)) (Nat.ne_of_lt hlr)) (Nat.ne_of_lt hlr)) (Nat.ne_of_lt hlr)) (Nat.ne_of_lt hlr)), (keep_set (keep_set (keep_set (keep_set (keep_set (keep_set kS.2.2.2.2.2.2 (Nat.ne_of_lt hlb)) (Nat.ne_of_lt hlb)) (Nat.ne_of_lt hlb)) (Nat.ne_of_lt hlb)) (Nat.ne_of_lt hlb)) (Nat.ne_of_lt hlb))⟩ | go_keep) ((first
       | (go_at_call 51
          with_reducible refine (l2At_any n fine id a ao av _ cap ko co kv cv os wr.drew ?_ HLO.out hko).mono ?_
          · exact HO.out.below HB.out.1.drew
          rintro e w2 ⟨rfl, hb2⟩
          rw [H0.out, H1.out, H2.out, H3.out, H4.out, H5.out, HTT.out]
          have hcr2 := CR.below (CR.drew HB.out) hb2
          obtain ⟨k0, k1, k2, k3, k4⟩ := cells5 hcr2.2.1
          have k5 := (cells2 hcr2.2.2).2
          have k6 := (hb2.cell (p := ⟨b, off + k, none⟩) (block_lt_of_cell HCT.out)).trans HCT.out
          have kS := And.intro k0 (And.intro k1 (And.intro k2 (And.intro k3 (And.intro k4 (And.intro k5 k6)))))
          have CR2 : Hid (CR w w2 _ _) := hcr2
          have RV2 : Hid (w2.heap[gv]? = _) := below_row hb2 (row_lt HRV.out) HRV.out
          clear hb2 hcr2 k0 k1 k2 k3 k4 k5 k6)
       | (go_at_call 51
          with_reducible refine (l2At_any n fine id a ao av _ cap ko co kv cv os (wr.alloc (Obj.cells #[Value.int .i64 0, Value.int .i64 0, Value.int .i64 0, Value.int .i64 0, Value.int .i64 0, Value.int .i64 0] 68)).drew ?_ HLO.out hko).mono ?_
          · exact HO.out.below (CR.alloc HB.out (Obj.cells #[Value.int .i64 0, Value.int .i64 0, Value.int .i64 0, Value.int .i64 0, Value.int .i64 0, Value.int .i64 0] 68)).1.drew
          rintro e w2 ⟨rfl, hb2⟩
          rw [H0.out, H1.out, H2.out, H3.out, H4.out, H5.out, HTT.out]
          have hcr2 := CR.below (CR.drew (CR.alloc HB.out (Obj.cells #[Value.int .i64 0, Value.int .i64 0, Value.int .i64 0, Value.int .i64 0, Value.int .i64 0, Value.int .i64 0] 68))) hb2
          obtain ⟨k0, k1, k2, k3, k4⟩ := cells5 hcr2.2.1
          have k5 := (cells2 hcr2.2.2).2
          have k6 := (hb2.cell (p := ⟨b, off + k, none⟩) (block_lt_of_cell HCA.out)).trans HCA.out
          have kS := And.intro k0 (And.intro k1 (And.intro k2 (And.intro k3 (And.intro k4 (And.intro k5 k6)))))
          have CR2 : Hid (CR w w2 _ _) := hcr2
          have RV2 : Hid (w2.heap[gv]? = _) := below_row hb2 (row_lt HVA.out) HVA.out
          obtain ⟨z0, z1, z2, z3, z4, z5⟩ := cells6 (below_row hb2 (k := wr.heap.size) (by simp) (heap_alloc_new wr (Obj.cells #[Value.int .i64 0, Value.int .i64 0, Value.int .i64 0, Value.int .i64 0, Value.int .i64 0, Value.int .i64 0] 68)))
          have zf := fun i => frozen_of_row _ _ i _ _ (below_row hb2 (k := wr.heap.size) (by simp) (heap_alloc_new wr (Obj.cells #[Value.int .i64 0, Value.int .i64 0, Value.int .i64 0, Value.int .i64 0, Value.int .i64 0, Value.int .i64 0] 68)))
          have RO2 : Hid (w2.heap[wr.heap.size]? = _) := below_row hb2 (k := wr.heap.size) (by simp) (heap_alloc_new wr (Obj.cells #[Value.int .i64 0, Value.int .i64 0, Value.int .i64 0, Value.int .i64 0, Value.int .i64 0, Value.int .i64 0] 68))
          clear hb2 hcr2 k0 k1 k2 k3 k4 k5 k6)))
     all_goals (first
       | (have CRW : Hid (CR w (World.setCell (World.setCell (World.setCell (World.setCell (World.setCell (World.setCell w2 ⟨wr.heap.size, 0, none⟩ (Value.int .i64 o0)) ⟨wr.heap.size, 1, none⟩ (Value.int .i64 o1)) ⟨wr.heap.size, 2, none⟩ (Value.int .i64 o2)) ⟨wr.heap.size, 3, none⟩ (Value.int .i64 o3)) ⟨wr.heap.size, 4, none⟩ (Value.int .i64 o4)) ⟨wr.heap.size, 5, none⟩ (Value.int .i64 o5)) _ _) := CR.set (CR.set (CR.set (CR.set (CR.set (CR.set CR2.out HB.out.big) HB.out.big) HB.out.big) HB.out.big) HB.out.big) HB.out.big
          have RVW : Hid ((World.setCell (World.setCell (World.setCell (World.setCell (World.setCell (World.setCell w2 ⟨wr.heap.size, 0, none⟩ (Value.int .i64 o0)) ⟨wr.heap.size, 1, none⟩ (Value.int .i64 o1)) ⟨wr.heap.size, 2, none⟩ (Value.int .i64 o2)) ⟨wr.heap.size, 3, none⟩ (Value.int .i64 o3)) ⟨wr.heap.size, 4, none⟩ (Value.int .i64 o4)) ⟨wr.heap.size, 5, none⟩ (Value.int .i64 o5)).heap[gv]? = _) := row_set' (row_set' (row_set' (row_set' (row_set' (row_set' RV2.out (Nat.ne_of_lt (row_lt HRV.out))) (Nat.ne_of_lt (row_lt HRV.out))) (Nat.ne_of_lt (row_lt HRV.out))) (Nat.ne_of_lt (row_lt HRV.out))) (Nat.ne_of_lt (row_lt HRV.out))) (Nat.ne_of_lt (row_lt HRV.out))
          have ROW : Hid ((World.setCell (World.setCell (World.setCell (World.setCell (World.setCell (World.setCell w2 ⟨wr.heap.size, 0, none⟩ (Value.int .i64 o0)) ⟨wr.heap.size, 1, none⟩ (Value.int .i64 o1)) ⟨wr.heap.size, 2, none⟩ (Value.int .i64 o2)) ⟨wr.heap.size, 3, none⟩ (Value.int .i64 o3)) ⟨wr.heap.size, 4, none⟩ (Value.int .i64 o4)) ⟨wr.heap.size, 5, none⟩ (Value.int .i64 o5)).heap[wr.heap.size]? = _) := row_set6 RO2.out
          clear kS CR2 RV2 RO2 HCT HCA HVA ct z0 z1 z2 z3 z4 z5 zf
          generalize (World.setCell (World.setCell (World.setCell (World.setCell (World.setCell (World.setCell w2 ⟨wr.heap.size, 0, none⟩ (Value.int .i64 o0)) ⟨wr.heap.size, 1, none⟩ (Value.int .i64 o1)) ⟨wr.heap.size, 2, none⟩ (Value.int .i64 o2)) ⟨wr.heap.size, 3, none⟩ (Value.int .i64 o3)) ⟨wr.heap.size, 4, none⟩ (Value.int .i64 o4)) ⟨wr.heap.size, 5, none⟩ (Value.int .i64 o5)) = W at *
          generalize wr.heap.size = g at *)
       | (have CRW : Hid (CR w (w2.alloc (Obj.cells #[Value.int .i64 o0, Value.int .i64 o1, Value.int .i64 o2, Value.int .i64 o3, Value.int .i64 o4, Value.int .i64 o5] 68)) _ _) := CR.alloc CR2.out _
          have RVW : Hid ((w2.alloc (Obj.cells #[Value.int .i64 o0, Value.int .i64 o1, Value.int .i64 o2, Value.int .i64 o3, Value.int .i64 o4, Value.int .i64 o5] 68)).heap[gv]? = _) := (heap_alloc_old _ _ (row_lt RV2.out)).trans RV2.out
          have ROW : Hid ((w2.alloc (Obj.cells #[Value.int .i64 o0, Value.int .i64 o1, Value.int .i64 o2, Value.int .i64 o3, Value.int .i64 o4, Value.int .i64 o5] 68)).heap[w2.heap.size]? = _) := heap_alloc_new _ _
          clear kS CR2 RV2 HCT HCA HVA ct
          generalize w2.alloc (Obj.cells #[Value.int .i64 o0, Value.int .i64 o1, Value.int .i64 o2, Value.int .i64 o3, Value.int .i64 o4, Value.int .i64 o5] 68) = W at *
          generalize w2.heap.size = g at *))
     all_goals
       clear c0 c1 c2' c3 c4 d0 d1 hlw hlr hlb HTT
       generalize tt = tt'
       obtain ⟨c0, c1, c2', c3, c4⟩ := cells5 CRW.out.2.1
       obtain ⟨p0, p1, p2, p3, p4, p5⟩ := cells6 ROW.out
       go_wp2_with fail
       clear c0 c1 c2' c3 c4 p0 p1 p2 p3 p4 p5
       refine (l1Time_is' n p o1 _ _ zs _ d HD.out HMAT.out HPB.out HO1.out (HA.out.below CRW.out.1)).mono ?_
       rintro e W3 ⟨rfl, hb3⟩
       have CR3 : Hid (CR w W3 _ _) := CRW.out.below hb3
       have RV3 : Hid (W3.heap[gv]? = _) := below_row hb3 (row_lt RVW.out) RVW.out
       have RO3 : Hid (W3.heap[g]? = _) := below_row hb3 (row_lt ROW.out) ROW.out
       clear hb3 CRW RVW ROW
       obtain ⟨p0, p1, p2, p3, p4, p5⟩ := cells6 RO3.out
       go_wp2
       go_roundw
       case rel => exact ⟨k + 1, by omega, by go_num, by rw [<- K1.out]; rfl, by rw [HNX.out], CR3.out, RV3.out⟩
       case measure => simp [intOf]; omega
   · have hkl : k = ids.length := by omega
     obtain ⟨q0, q1, q2, q3, q4⟩ := cells5 HRV.out
     have HE : Hid (r = f + tmI n zs p v1) := by
       have := HV1.out
       unfold rideV at this
       rw [<- hkl, HFR.out, HPL.out] at this
       exact this.symm
     clear hkl
     obtain ⟨d, HD⟩ : ∃ t, Hid (tmI n zs p v1 = t) := ⟨_, rfl⟩
     have hdb := tmI_bd HMAT.out p v1
     rw [HD.out] at hdb HE
     go_wp2_with fail
     refine (l1Time_is' n p v1 _ _ zs _ d HD.out HMAT.out HPB.out HX1.out (HA.out.below HB.out.1)).mono ?_
     rintro e W3 ⟨rfl, hb3⟩
     have HB3 : Hid (Below w.heap.size w W3) := HB.out.1.trans (hb3.mono HB.out.1.size)
     clear hb3
     go_wp2
     go_ret
     exact ⟨ret_int HE.out.symm, HB3.out⟩
def CRT (w W : World) (cs rs ts : Array Value) : Prop := CR w W cs rs /\ W.heap[w.heap.size + 2]? = some (.cells ts 124 (0, 0))
theorem CRT.new (w : World) (cs rs ts : Array Value) : CRT w (((w.alloc (.cells cs 30)).alloc (.cells rs 57)).alloc (.cells ts 124)) cs rs ts := by
 refine ⟨(CR.new w cs rs).alloc _, ?_⟩
 have := heap_alloc_new ((w.alloc (.cells cs 30)).alloc (.cells rs 57)) (.cells ts 124)
 simpa using this
theorem CRT.below {w W W' : World} {cs rs ts : Array Value} (h : CRT w W cs rs ts) (hb : Below W.heap.size W W') : CRT w W' cs rs ts :=
 ⟨h.1.below hb, below_row hb (row_lt h.2) h.2⟩
theorem CRT.b {w W : World} {cs rs ts : Array Value} (h : CRT w W cs rs ts) : Below w.heap.size w W := h.1.1
theorem CRT.alloc {w W : World} {cs rs ts : Array Value} (h : CRT w W cs rs ts) (o : Obj) : CRT w (W.alloc o) cs rs ts := h.below ((Below.refl _ _).alloc (Nat.le_refl _) _)
set_option maxHeartbeats 1000000 in
theorem loadedTour_any (n fine veh : Int) (a ao av bi : Option Addr) (cap ko co kv cv c2 : Nat) (zs os vs ids : List Int) (w : World) (hA : IntsAt w a zs) (hO : IntsAt w ao os) (hV : IntsAt w av vs) (hI : IntsAt w bi ids) (hlo : os.length = ko * 6) (hlv : vs.length = kv * 5) (hko : ko <= 9223372036854775807) (hkv : kv <= 9223372036854775807) (hli : ids.length <= 9223372036854775807) (hc2 : ids.length <= c2) (hcB : caseB n zs os vs ko kv fine = true) :
   Calls Tryz.prog 110 #[.agg #[.int .i64 n, .slice a zs.length cap, .slice ao ko co, .slice av kv cv, .int .i64 fine], .agg #[.int .i64 veh, .slice bi ids.length c2]] w fun e w' => Below w.heap.size w w' /\ ((formV true vs os kv ko veh ids ≠ 0 /\ e = .returned (.tuple #[.agg #[Value.int .i64 0, Value.slice none 0 0, Value.int .i64 0, Value.int .i64 0, Value.int .i64 0, Value.int .i64 0, Value.int .i64 0, Value.slice none 0 0], .int .i64 (formV true vs os kv ko veh ids)])) ∨ (formV true vs os kv ko veh ids = 0 /\ ∃ g, w.heap.size <= g /\ e = .returned (.tuple #[.agg #[.int .i64 n, .slice a zs.length cap, .int .i64 (fnd5F vs kv veh 0), .int .i64 (fnd5F vs kv veh 1), .int .i64 (fnd5F vs kv veh 2), .int .i64 (fnd5F vs kv veh 3), .int .i64 (fnd5F vs kv veh 4), .slice (some ⟨g, 0, none⟩) ids.length ids.length], .int .i64 0]) /\ IntsAt w' (some ⟨g, 0, none⟩) (rosOf os ko ids))) := by
 have HA : Hid (IntsAt w a zs) := hA
 have HO : Hid (IntsAt w ao os) := hO
 have HV : Hid (IntsAt w av vs) := hV
 have HI : Hid (IntsAt w bi ids) := hI
 have HLO : Hid _ := hlo
 have HLV : Hid _ := hlv
 clear hA hO hV hI hlo hlv
 have HC : Hid (caseB n zs os vs ko kv fine = true) := hcB
 clear hcB
 have HC0 : Hid (CRT w (((w.alloc (.cells #[Value.int .i64 n, Value.slice a zs.length cap, Value.slice ao ko co, Value.slice av kv cv, Value.int .i64 fine] 30)).alloc (.cells #[Value.int .i64 veh, Value.slice bi ids.length c2] 57)).alloc (.cells #[Value.int .i64 0, Value.slice none 0 0, Value.int .i64 0, Value.int .i64 0, Value.int .i64 0, Value.int .i64 0, Value.int .i64 0, Value.slice none 0 0] 124)) _ _ _) := CRT.new w _ _ _
 obtain ⟨r, HR⟩ : ∃ r, Hid (formV true vs os kv ko veh ids = r) := ⟨_, rfl⟩
 rw [HR.out]
 go_enter Tryz.func110, Tryz.ntmps110
 obtain ⟨c0, c1, c2', c3, c4⟩ := cells5 HC0.out.1.2.1
 obtain ⟨d0, d1⟩ := cells2 HC0.out.1.2.2
 go_wp2_with fail
 clear c0 c1 c2' c3 c4 d0 d1
 refine (findVehicle_any n fine veh a ao av _ cap ko co kv cv vs _ (HV.out.below HC0.out.1.1) HLV.out hkv).mono ?_
 rintro e w2 ⟨rfl, hb⟩
 obtain ⟨v0, G0⟩ : ∃ t, Hid (fnd5F vs kv veh 0 = t) := ⟨_, rfl⟩
 obtain ⟨v1, G1⟩ : ∃ t, Hid (fnd5F vs kv veh 1 = t) := ⟨_, rfl⟩
 obtain ⟨v2, G2⟩ : ∃ t, Hid (fnd5F vs kv veh 2 = t) := ⟨_, rfl⟩
 obtain ⟨v3, G3⟩ : ∃ t, Hid (fnd5F vs kv veh 3 = t) := ⟨_, rfl⟩
 obtain ⟨v4, G4⟩ : ∃ t, Hid (fnd5F vs kv veh 4 = t) := ⟨_, rfl⟩
 rw [G0.out, G1.out, G2.out, G3.out, G4.out]
 have C2 : Hid (CRT w (w2.alloc (Obj.cells #[Value.int .i64 v0, Value.int .i64 v1, Value.int .i64 v2, Value.int .i64 v3, Value.int .i64 v4] 72)) _ _ _) := (HC0.out.below hb).alloc _
 have RV2 : Hid ((w2.alloc (Obj.cells #[Value.int .i64 v0, Value.int .i64 v1, Value.int .i64 v2, Value.int .i64 v3, Value.int .i64 v4] 72)).heap[w2.heap.size]? = _) := heap_alloc_new _ _
 clear hb HC0
 obtain ⟨t0, t1, t2, t3, t4, t5, t6, t7⟩ := cells8 C2.out.2
 have tf := fun i => frozen_of_row _ _ i _ _ C2.out.2
 cases ht : fnd5T vs kv veh
 · have HV1 : Hid (r = 2) := HR.out.symm.trans (formV_2 rfl ht)
   go_wp2
   refine bodyPost_ret (v := .tuple #[.agg #[Value.int .i64 0, Value.slice none 0 0, Value.int .i64 0, Value.int .i64 0, Value.int .i64 0, Value.int .i64 0, Value.int .i64 0, Value.slice none 0 0], .int .i64 2]) (by simp [results, Tryz.results110, go_sem, t0, t1, t2, t3, t4, t5, t6, t7]) rfl ⟨?_, .inl ⟨by rw [HV1.out]; decide, by rw [HV1.out]⟩⟩
   repeat (first | with_reducible exact C2.out.b | refine Below.setCell ?_ (by simp <;> omega) _)
 · have HT5 : Hid _ := ht
   clear ht
   obtain ⟨c0, c1, c2', c3, c4⟩ := cells5 C2.out.1.2.1
   obtain ⟨d0, d1⟩ := cells2 C2.out.1.2.2
   go_wp2_with fail
   clear c0 c1 c2' c3 c4 d0 d1 t0 t1 t2 t3 t4 t5 t6 t7 tf
   generalize w2.alloc (Obj.cells #[Value.int .i64 v0, Value.int .i64 v1, Value.int .i64 v2, Value.int .i64 v3, Value.int .i64 v4] 72) = W2 at *
   generalize w2.heap.size = gv at *
   refine (stopsOf_any n fine a ao av bi cap ko co kv cv c2 zs os ids W2 (HO.out.below C2.out.1.1) (HI.out.below C2.out.1.1) HLO.out hko hli hc2).mono ?_
   rintro e w3 ⟨hb, ⟨hst, rfl⟩ | ⟨hst, rfl, hros⟩⟩
   · have C3 : Hid (CRT w w3 _ _ _) := C2.out.below hb
     have HV1 : Hid (r = 3) := HR.out.symm.trans (formV_3 rfl HT5.out hst)
     obtain ⟨t0, t1, t2, t3, t4, t5, t6, t7⟩ := cells8 C3.out.2
     have tf := fun i => frozen_of_row _ _ i _ _ C3.out.2
     clear hb hst
     go_wp2
     refine bodyPost_ret (v := .tuple #[.agg #[Value.int .i64 0, Value.slice none 0 0, Value.int .i64 0, Value.int .i64 0, Value.int .i64 0, Value.int .i64 0, Value.int .i64 0, Value.slice none 0 0], .int .i64 3]) (by simp [results, Tryz.results110, go_sem, t0, t1, t2, t3, t4, t5, t6, t7]) rfl ⟨?_, .inl ⟨by rw [HV1.out]; decide, by rw [HV1.out]⟩⟩
     repeat (first | with_reducible exact C3.out.b | refine Below.setCell ?_ (by simp <;> omega) _)
   · have HST : Hid (stopsB os ko ids = true) := hst
     have C3 : Hid (CRT w w3 _ _ _) := C2.out.below hb
     have RV3 : Hid (w3.heap[gv]? = _) := below_row hb (row_lt RV2.out) RV2.out
     have HROS : Hid (IntsAt w3 (some ⟨W2.heap.size + 1, 0, none⟩) (rosOf os ko ids)) := hros
     have HGR : Hid (w.heap.size + 2 < W2.heap.size + 1) := Nat.lt_succ_of_lt (row_lt C2.out.2)
     clear hb hst hros C2 RV2
     generalize W2.heap.size + 1 = gr at *
     obtain ⟨q0, q1, q2, q3, q4⟩ := cells5 RV3.out
     obtain ⟨hmat, hords, hvehs, hn1, _⟩ := caseB_parts HC.out
     have hroom := (fnd5F_bd hvehs hn1 veh).2.1
     rw [G2.out] at hroom
     have HOB : Hid (ordsB n os ko = true) := hords
     have HN1 : Hid (1 <= n) := hn1
     clear hmat hords hvehs hn1
     have h12 := (stopsB_true HST.out).1
     go_wp2_with fail
     clear q0 q1 q2 q3 q4
     go_loopw [9, 36] (fun rm t wr => ∃ k : Nat, k <= ids.length /\ t = .int .i64 k /\ rm = .int .i64 (v2 - loadTo os ko ids k) /\ CRT w wr #[Value.int .i64 n, Value.slice a zs.length cap, Value.slice ao ko co, Value.slice av kv cv, Value.int .i64 fine] #[Value.int .i64 veh, Value.slice bi ids.length c2] #[Value.int .i64 0, Value.slice none 0 0, Value.int .i64 0, Value.int .i64 0, Value.int .i64 0, Value.int .i64 0, Value.int .i64 0, Value.slice none 0 0] /\ wr.heap[gv]? = some (.cells #[Value.int .i64 v0, Value.int .i64 v1, Value.int .i64 v2, Value.int .i64 v3, Value.int .i64 v4] 72 (0, 0)) /\ IntsAt wr (some ⟨gr, 0, none⟩) (rosOf os ko ids)) (fun _ t _ => ids.length - (intOf t).toNat)
     case atStart => exact ⟨0, Nat.zero_le _, rfl, by simp [loadTo], C3.out, RV3.out, HROS.out⟩
     case round =>
       clear C3 RV3 HROS
       obtain ⟨k, hk, rfl, rfl, hb, hrv, hros⟩ := hrel
       have hbd := loadTo_bd HOB.out ids k
       have HB : Hid (CRT w wr _ _ _) := hb
       have HRV : Hid (wr.heap[gv]? = _) := hrv
       have HROS : Hid (IntsAt wr (some ⟨gr, 0, none⟩) (rosOf os ko ids)) := hros
       obtain ⟨s0, HS0⟩ : ∃ s, Hid (loadTo os ko ids k = s) := ⟨_, rfl⟩
       rw [HS0.out] at hbd ⊢
       clear hb hrv hros
       by_cases hlt : k < ids.length
       · obtain ⟨b', off', e, hcs⟩ := IntsAt.some HROS.out (j := k * 6) (by rw [rosOf_length]; omega)
         simp at e
         obtain ⟨rfl, rfl⟩ := e
         obtain ⟨r0, r1, r2, r3, r4, r5⟩ := row6_at hcs (rosOf_length os ko ids) k hlt
         clear hcs
         simp only [Nat.zero_add] at r0 r1 r2 r3 r4 r5
         obtain ⟨id, HID⟩ : ∃ i, Hid (ids.getD k 0 = i) := ⟨_, rfl⟩
         rw [rosOf_at os ko ids hlt (by omega), HID.out] at r0 r1 r2 r3 r4 r5
         have hl2 := fnd6F_load HOB.out id
         obtain ⟨o0, H0⟩ : ∃ t, Hid (fnd6F os ko id 0 = t) := ⟨_, rfl⟩
         obtain ⟨o1, H1⟩ : ∃ t, Hid (fnd6F os ko id 1 = t) := ⟨_, rfl⟩
         obtain ⟨o2, H2⟩ : ∃ t, Hid (fnd6F os ko id 2 = t) := ⟨_, rfl⟩
         obtain ⟨o3, H3⟩ : ∃ t, Hid (fnd6F os ko id 3 = t) := ⟨_, rfl⟩
         obtain ⟨o4, H4⟩ : ∃ t, Hid (fnd6F os ko id 4 = t) := ⟨_, rfl⟩
         obtain ⟨o5, H5⟩ : ∃ t, Hid (fnd6F os ko id 5 = t) := ⟨_, rfl⟩
         rw [H2.out] at hl2
         rw [H0.out] at r0
         rw [H1.out] at r1
         rw [H2.out] at r2
         rw [H3.out] at r3
         rw [H4.out] at r4
         rw [H5.out] at r5
         have HL1 : Hid (loadTo os ko ids (k + 1) = s0 + o2) := by
           show _ = _
           unfold loadTo
           rw [HS0.out, HID.out, H2.out]
         go_wp2
         exact ⟨⟨k + 1, by omega, by go_num, by rw [HL1.out]; go_num, HB.out.alloc _, (heap_alloc_old _ _ (row_lt HRV.out)).trans HRV.out, HROS.out.below ((Below.refl _ _).alloc (Nat.le_refl _) _)⟩, by simp [intOf]; omega⟩
       · have hkl : k = ids.length := by omega
         have HS0' : Hid (loadTo os ko ids ids.length = s0) := hkl ▸ HS0.out
         obtain ⟨t0, t1, t2, t3, t4, t5, t6, t7⟩ := cells8 HB.out.2
         have tf := fun i => frozen_of_row _ _ i _ _ HB.out.2
         clear hkl
         by_cases hroom2 : v2 < s0
         · have HV1 : Hid (r = 4) := HR.out.symm.trans (formV_4 rfl HT5.out HST.out (by rw [HS0'.out, G2.out]; exact hroom2))
           go_wp2
           refine bodyPost_ret (v := .tuple #[.agg #[Value.int .i64 0, Value.slice none 0 0, Value.int .i64 0, Value.int .i64 0, Value.int .i64 0, Value.int .i64 0, Value.int .i64 0, Value.slice none 0 0], .int .i64 4]) (by simp [results, Tryz.results110, go_sem, t0, t1, t2, t3, t4, t5, t6, t7]) rfl ⟨?_, .inl ⟨by rw [HV1.out]; decide, by rw [HV1.out]⟩⟩
           repeat (first | with_reducible exact HB.out.b | refine Below.setCell ?_ (by simp <;> omega) _)
         · have HV1 : Hid (r = 0) := HR.out.symm.trans (formV_0 rfl HT5.out HST.out (by rw [HS0'.out, G2.out]; exact hroom2))
           obtain ⟨q0, q1, q2, q3, q4⟩ := cells5 HRV.out
           obtain ⟨c0, c1, c2', c3, c4⟩ := cells5 HB.out.1.2.1
           go_wp2
           refine bodyPost_ret (v := .tuple #[.agg #[.int .i64 n, .slice a zs.length cap, .int .i64 v0, .int .i64 v1, .int .i64 v2, .int .i64 v3, .int .i64 v4, .slice (some ⟨gr, 0, none⟩) ids.length ids.length], .int .i64 0]) (by simp [results, Tryz.results110, go_sem, t0, t1, t2, t3, t4, t5, t6, t7]) rfl ⟨?_, .inr ⟨HV1.out, gr, by have := HGR.out; omega, ?_, ?_⟩⟩
           · repeat (first | with_reducible exact HB.out.b | refine Below.setCell ?_ (by simp <;> omega) _)
           · rw [G0.out, G1.out, G2.out, G3.out, G4.out]
           · repeat (first | with_reducible exact HROS.out | with_reducible refine ints_set ?_ (by have := HGR.out; omega))
theorem drive_is (n x y : Int) (v0 v1 v2 v3 v4 : Int) (a ar : Option Addr) (cap kr cr : Nat) (zs : List Int) (w : World) (d : Int) (hd : tmI n zs x y = d) (hm : matB n zs = true) (hx : 0 <= x /\ x < n) (hy : 0 <= y /\ y < n) (hA : IntsAt w a zs) :
   Calls Tryz.prog 134 #[.agg #[.int .i64 n, .slice a zs.length cap, .int .i64 v0, .int .i64 v1, .int .i64 v2, .int .i64 v3, .int .i64 v4, .slice ar kr cr], .int .i64 x, .int .i64 y] w fun e w' => e = .returned (.int .i64 d) /\ Below w.heap.size w w' := hd ▸ drive_I n x y v0 v1 v2 v3 v4 a ar cap kr cr zs w hm hx hy hA
theorem own_new0 (W : World) : (W.alloc (.cells #[] 2)).ownsRow W.heap.size 2 1 (.slice (some ⟨W.heap.size, 0, none⟩) 0 0) ([] : List Int).length (([] : List Int).map (Value.int .i64)) := World.ownsRow_made W #[] 0 (Nat.le_refl _) (by unfold maxLen; omega) (by simp)
set_option maxHeartbeats 1000000 in
theorem l4CutP_any (b off c : Nat) (L : List Int) (v : Int) (w : World) (hA : IntsAt w (some ⟨b, off, none⟩) L) (hl : L.length <= 1000) :
   Calls Tryz.prog 28 #[.slice (some ⟨b, off, none⟩) L.length c, .int .i64 v] w fun e w' => ∃ g cg, e = .returned (.slice (some ⟨g, 0, none⟩) (cutP L v).length cg) /\ Below w.heap.size w w' /\ w'.ownsRow w.heap.size 2 1 (.slice (some ⟨g, 0, none⟩) (cutP L v).length cg) (cutP L v).length ((cutP L v).map (Value.int .i64)) := by
 have HA : Hid (IntsAt w (some ⟨b, off, none⟩) L) := hA
 clear hA
 obtain ⟨n, HN⟩ : ∃ n, Hid (L.length = n) := ⟨_, rfl⟩
 obtain ⟨R, HR⟩ : ∃ R, Hid (cutP L v = R) := ⟨_, rfl⟩
 rw [HN.out] at hl ⊢
 rw [HR.out]
 have OB : Hid (Below w.heap.size w (w.alloc (.cells #[] 2))) := (Below.refl _ _).alloc (Nat.le_refl _) _
 go_enter Tryz.func28, Tryz.ntmps28
 go_wp2_with fail
 go_loopw [5, 6] (fun av t wr => ∃ k : Nat, k <= n /\ t = .int .i64 k /\ wr.ownsRow w.heap.size 2 1 av (cutP (L.take k) v).length ((cutP (L.take k) v).map (Value.int .i64)) /\ Below w.heap.size w wr /\ av ≠ .slice none 0 0) (fun _ t _ => n - (intOf t).toNat)
 case atStart => exact ⟨0, Nat.zero_le _, rfl, own_new0 w, OB.out, by simp⟩
 case round =>
   clear OB
   obtain ⟨k, hk, rfl, ho, hb, hn⟩ := hrel
   have hcl : (cutP (L.take k) v).length <= 1000 := Nat.le_trans (cutP_le _ _) (by rw [List.length_take]; omega)
   obtain ⟨C, HC⟩ : ∃ C, Hid (cutP (L.take k) v = C) := ⟨_, rfl⟩
   rw [HC.out] at ho hcl
   obtain ⟨g, cg, rfl⟩ := own_sm ho hn
   obtain ⟨m, HM⟩ : ∃ n, Hid (C.length = n) := ⟨_, rfl⟩
   rw [HM.out] at ho hcl ⊢
   have O1 : Hid (wr.ownsRow w.heap.size 2 1 (.slice (some ⟨g, 0, none⟩) m cg) m (C.map (Value.int .i64))) := ho
   have B1 : Hid (Below w.heap.size w wr) := hb
   clear ho hb hn
   by_cases hlt : k < n
   · have hs := cutP_take_succ L v k (by rw [HN.out]; exact hlt)
     have cx : wr.cell? ⟨b, off + k, none⟩ = some (.int .i64 (L.getD k 0)) := by
       obtain ⟨_, _, e, h⟩ := (HA.out.below B1.out) k (by rw [HN.out]; exact hlt)
       simp at e
       obtain ⟨rfl, rfl⟩ := e
       exact h
     obtain ⟨x, HX⟩ : ∃ f, Hid (L.getD k 0 = f) := ⟨_, rfl⟩
     rw [HX.out] at cx hs
     rw [HC.out] at hs
     by_cases hxv : x = v
     · rw [if_pos hxv] at hs
       have HS : Hid (cutP (L.take (k + 1)) v = C) := hs
       clear hs
       go_wp2
       go_roundw
       case rel => exact ⟨k + 1, by omega, by first | rfl | go_num, by rw [HS.out, HM.out]; exact O1.out, B1.out, by simp⟩
       case measure => simp [intOf]; omega
     · rw [if_neg hxv] at hs
       have HS : Hid (cutP (L.take (k + 1)) v = C ++ [x]) := hs
       clear hs
       have BA : Hid (Below w.heap.size w (wr.alloc (.cells #[.int .i64 x] 2))) := B1.out.alloc B1.out.size _
       go_wp2_with (
         at_builtin
         refine append_many _ rfl _ _ rfl w.heap.size _ m C rfl (O1.out.alloc _) wr.heap.size 0 1 1 [x] rfl rfl (ints_new1 wr x) (by omega) (by omega) (Nat.le_trans B1.out.size (by simp)) ?_
         intro v' w4 hown hg _ hnl
         have O4 : Hid (w4.ownsRow w.heap.size 2 1 v' (m + 1) ((C ++ [x]).map (Value.int .i64))) := hown
         have B4 : Hid (Below w.heap.size w w4) := BA.out.grown hg BA.out.size (fun k e => (O1.out.lt k e).1)
         have N4 : Hid (v' ≠ .slice none 0 0) := not_nil hnl ⟨_, _, _, rfl⟩
         clear hown hg hnl)
       go_roundw
       case rel => exact ⟨k + 1, by omega, by first | rfl | go_num, by rw [HS.out, List.length_append, HM.out]; exact O4.out, B4.out, N4.out⟩
       case measure => simp [intOf]; omega
   · have hkn : k = n := by omega
     have HE : Hid (C = R) := by
       have := HC.out
       rw [hkn, <- HN.out, List.take_length, HR.out] at this
       exact this.symm
     have HRM : Hid (R.length = m) := by show _ = _; rw [<- HE.out]; exact HM.out
     rw [HE.out] at O1
     go_wp2
     go_ret
     refine ⟨g, cg, by rw [HRM.out]; rfl, B1.out, by rw [HRM.out]; exact O1.out⟩
theorem PW.cut {w W w4 : World} {lv ov : Value} {L O C : List Int} {g c : Nat} (h : PW w W w.heap.size lv ov L O) (hb : Below W.heap.size W w4) (ho : w4.ownsRow W.heap.size 2 1 (.slice (some ⟨g, 0, none⟩) C.length c) C.length (C.map (Value.int .i64))) : PW w w4 w.heap.size (.slice (some ⟨g, 0, none⟩) C.length c) ov C O := by
 refine ⟨h.b.trans (hb.mono h.b.size), ⟨Nat.le_refl _, Nat.le_trans h.hB.2 hb.size⟩, owns_base ho h.hB.2, owns_below h.o hb, ?_, ⟨g, c, rfl⟩, h.so⟩
 intro e
 have h1 := (ho.lt g rfl).1
 have h2 := (h.o.lt g (by rw [<- e]; rfl)).2
 omega
theorem PW.lput {w W w4 : World} {B : Nat} {lv ov lv' : Value} {L O : List Int} {x : Int} {o : Obj} (h : PW w W B lv ov L O) (hown : w4.ownsRow B 2 1 lv' (L.length + 1) ((L ++ [x]).map (Value.int .i64))) (hg : (W.alloc o).grownBy w4 lv.ownBlock) (hbk : lv'.ownBlock = lv.ownBlock ∨ lv'.ownBlock = some (W.alloc o).heap.size) (hn : lv' = .slice none 0 0 ↔ lv = .slice none 0 0 /\ 1 = 0) : PW w w4 B lv' ov (L ++ [x]) O := by
 have hA : Below w.heap.size w (W.alloc o) := h.b.alloc h.b.size _
 have hlt : ∀ g, ov.ownBlock = some g -> g < W.heap.size := fun g e => (h.o.lt g e).2
 refine ⟨hA.grown hg hA.size (fun k e => by have := (h.l.lt k e).1; have := h.hB.1; omega), ⟨h.hB.1, Nat.le_trans h.hB.2 (Nat.le_trans (by simp) hg.size)⟩, ?_, (h.o.alloc o).kept hg (.inr h.ne.symm), ?_, ?_, h.so⟩
 · rw [List.length_append]; exact hown
 · rcases hbk with e | e
   · rw [e]; exact h.ne
   · rw [e]
     intro e2
     have := hlt _ e2.symm
     simp at this
     omega
 · rw [List.length_append]
   obtain ⟨g, c, e⟩ := h.sl
   exact own_sm hown (not_nil hn ⟨g, _, c, e⟩)
theorem pick_step {K i : Nat} {L : List Int} {s : Int} (h : i < K) : pkL (K - i) L s = (L.getD (pkAt (randV s) L.length) 0 :: (pkL (K - (i + 1)) (remL L (pkAt (randV s) L.length)) (randV s)).1, (pkL (K - (i + 1)) (remL L (pkAt (randV s) L.length)) (randV s)).2) := by
 rw [show K - i = (K - (i + 1)) + 1 by omega]
 rfl
theorem pick_nums (s : Int) {D : Nat} (h : 0 < D) : ∃ S : Nat, randV s = S /\ S <= 2147483647 /\ (S : Int) / 65536 % (D : Int) = (pkAt (randV s) D : Nat) /\ pkAt (randV s) D < D := by
 have h1 := inB_true (randV_in s)
 refine ⟨(randV s).toNat, by omega, by omega, ?_, pkAt_lt h⟩
 rw [<- pkAt_is h]
 congr 2
 omega
theorem PW.new2 {w W : World} {lv ov : Value} {L : List Int} (ho : W.ownsRow w.heap.size 2 1 lv L.length (L.map (Value.int .i64))) (hb : Below w.heap.size w W) (hn : lv ≠ .slice none 0 0) (hx : W.ownsRow w.heap.size 2 1 ov 0 (([] : List Int).map (Value.int .i64))) (hm : ov ≠ .slice none 0 0) (hne : lv.ownBlock ≠ ov.ownBlock) : PW w W w.heap.size lv ov L [] :=
 ⟨hb, ⟨Nat.le_refl _, hb.size⟩, ho, hx, hne, own_sm ho hn, own_sm hx hm⟩
set_option maxHeartbeats 2000000 in
theorem specPicked_any (s n k : Int) (w : World) :
   Calls Tryz.prog 24 #[.int .i64 s, .int .i64 n, .int .i64 k] w fun e w' => ∃ sl, e = .returned (.tuple #[sl, .int .i64 (pickS s n k)]) /\ Below w.heap.size w w' /\ w'.ownsRow w.heap.size 2 1 sl (pickV s n k).length ((pickV s n k).map (Value.int .i64)) := by
 have OB : Hid (Below w.heap.size w (w.alloc (.cells #[] 2))) := (Below.refl _ _).alloc (Nat.le_refl _) _
 have ON : Hid ((w.alloc (.cells #[] 2)).ownsRow w.heap.size 2 1 (.slice (some ⟨w.heap.size, 0, none⟩) 0 0) 0 (([] : List Int).map (Value.int .i64))) := own_new0 w
 obtain ⟨R, HR⟩ : ∃ v, Hid (pickV s n k = v) := ⟨_, rfl⟩
 obtain ⟨V, HV⟩ : ∃ v, Hid (pickS s n k = v) := ⟨_, rfl⟩
 rw [HR.out, HV.out]
 cases hp : pickB s n k
 · have HE : Hid (R = [] /\ V = -1) := by
     have := pick_no hp
     rw [HR.out, HV.out] at this
     exact this
   unfold pickB at hp
   rcases Bool.eq_false_or_eq_true (inB n 0 64) with h1 | h1 <;> rcases Bool.eq_false_or_eq_true (inB k 0 n) with h2 | h2 <;> rcases Bool.eq_false_or_eq_true (inB s 0 2147483647) with h3 | h3
   · rw [h1, h2, h3] at hp; simp at hp
   all_goals
     clear hp
     go_enter Tryz.func24, Tryz.ntmps24
     go_wp2_with (go_at_call 22; refine (l1In_any _ _ _ _).mono ?_; rintro e w' ⟨rfl, hw'⟩; subst w'; first | rw [h1] | rw [h2] | rw [h3])
     refine bodyPost_ret (v := .tuple #[.slice (some ⟨w.heap.size, 0, none⟩) 0 0, .int .i64 (-1)]) (by simp [results, Tryz.results24, go_sem]) rfl ⟨_, by rw [HE.out.2], OB.out, by rw [HE.out.1]; exact ON.out⟩
 · obtain ⟨N, K, rfl, rfl, hN, hK, hs0, hs1⟩ := pickB_nat hp
   obtain ⟨e1, e2⟩ := pick_yes hp
   have HR1 : Hid ((pkL K (allL N) s).1 = R /\ (pkL K (allL N) s).2 = V) := ⟨e1.symm.trans HR.out, e2.symm.trans HV.out⟩
   have h1 : inB (N : Int) 0 64 = true := inB_mk (by omega)
   have h2 : inB (K : Int) 0 N = true := inB_mk (by omega)
   have h3 : inB s 0 2147483647 = true := inB_mk (by omega)
   clear e1 e2 hp HR HV
   have O2 : Hid (((w.alloc (.cells #[] 2)).alloc (.cells #[] 2)).ownsRow w.heap.size 2 1 (.slice (some ⟨w.heap.size + 1, 0, none⟩) 0 0) 0 (([] : List Int).map (Value.int .i64))) := by
     have := owns_base (own_new0 (w.alloc (.cells #[] 2))) OB.out.size
     rw [show (w.alloc (.cells #[] 2)).heap.size = w.heap.size + 1 by simp] at this
     exact this
   have X2 : Hid (((w.alloc (.cells #[] 2)).alloc (.cells #[] 2)).ownsRow w.heap.size 2 1 (.slice (some ⟨w.heap.size, 0, none⟩) 0 0) 0 (([] : List Int).map (Value.int .i64))) := ON.out.alloc _
   have B2 : Hid (Below w.heap.size w ((w.alloc (.cells #[] 2)).alloc (.cells #[] 2))) := OB.out.alloc OB.out.size _
   go_enter Tryz.func24, Tryz.ntmps24
   go_wp2_with (go_at_call 22; refine (l1In_any _ _ _ _).mono ?_; rintro e w' ⟨rfl, hw'⟩; subst w'; first | rw [h1] | rw [h2] | rw [h3])
   clear OB ON h1 h2 h3
   go_loopw [9, 10] (fun av t wr => ∃ i : Nat, i <= N /\ t = .int .i64 i /\ PW w wr w.heap.size av (.slice (some ⟨w.heap.size, 0, none⟩) 0 0) (allL i) []) (fun _ t _ => N - (intOf t).toNat)
   case atStart => exact ⟨0, Nat.zero_le _, rfl, PW.new2 O2.out B2.out (by simp) X2.out (by simp) (by simp [Value.ownBlock])⟩
   case round =>
     clear O2 X2 B2
     obtain ⟨i, hi, rfl, hpw⟩ := hrel
     obtain ⟨gl, cl, rfl⟩ := hpw.sl
     rw [allL_length] at hpw ⊢
     have P1 : Hid (PW w wr w.heap.size (.slice (some ⟨gl, 0, none⟩) i cl) (.slice (some ⟨w.heap.size, 0, none⟩) 0 0) (allL i) []) := hpw
     clear hpw
     by_cases hlt : i < N
     · go_wp2_with (
         at_builtin
         refine append_many _ rfl _ _ rfl w.heap.size _ i (allL i) rfl (by have := P1.out.l; rw [allL_length] at this; exact this.alloc _) wr.heap.size 0 1 1 [(i : Int)] rfl rfl (ints_new1 wr i) (by omega) (by omega) (Nat.le_trans P1.out.hB.2 (by simp)) ?_
         intro v' w4 hown hg hbk hnl
         have P4 : Hid (PW w w4 w.heap.size v' (.slice (some ⟨w.heap.size, 0, none⟩) 0 0) (allL (i + 1)) []) := by
           show PW _ _ _ _ _ _ _
           rw [allL_succ]
           exact P1.out.lput (by rw [allL_length]; exact hown) hg hbk hnl
         clear hown hg hbk hnl)
       go_roundw
       case rel => exact ⟨i + 1, by omega, by first | rfl | go_num, P4.out⟩
       case measure => simp [intOf]; omega
     · have hiN : i = N := by omega
       rw [hiN] at P1 ⊢
       clear hi hlt hiN
       go_wp2_with fail
       go_loopw [0, 8, 9, 11] (fun sv ov lv t wr => ∃ (i : Nat) (s : Int) (L O : List Int), i <= K /\ L.length = N - i /\ L.Nodup /\ t = .int .i64 i /\ sv = .int .i64 s /\ O.length = i /\ PW w wr w.heap.size lv ov L O /\ O ++ (pkL (K - i) L s).1 = R /\ (pkL (K - i) L s).2 = V /\ 0 <= s /\ s <= 2147483647) (fun _ _ _ t _ => K - (intOf t).toNat)
       case atStart => exact ⟨0, s, allL N, [], Nat.zero_le _, by rw [allL_length]; rfl, allL_nodup N, rfl, rfl, rfl, P1.out, HR1.out.1, HR1.out.2, hs0, hs1⟩
       case round =>
         clear P1
         obtain ⟨i, s, L, O, hi, hl, hnd, rfl, rfl, ho, hpw, hres, hseed, hs0, hs1⟩ := hrel
         obtain ⟨gl, cl, rfl⟩ := hpw.sl
         obtain ⟨go, co, rfl⟩ := hpw.so
         have P1 : Hid (PW w wr w.heap.size (.slice (some ⟨gl, 0, none⟩) L.length cl) (.slice (some ⟨go, 0, none⟩) O.length co) L O) := hpw
         have HL : Hid (L.length = N - i) := hl
         have HO : Hid (O.length = i) := ho
         have HND : Hid L.Nodup := hnd
         have HRS : Hid (O ++ (pkL (K - i) L s).1 = R /\ (pkL (K - i) L s).2 = V) := ⟨hres, hseed⟩
         clear hpw hl ho hnd hres hseed
         rw [HO.out] at P1 ⊢
         by_cases hlt : i < K
         · have hD : 0 < L.length := by rw [HL.out]; omega
           have hDb : L.length <= 64 := by rw [HL.out]; omega
           obtain ⟨S, hS, hSb, hat, hatl⟩ := pick_nums s hD
           have hst := pick_step (L := L) (s := s) hlt
           obtain ⟨D, HD⟩ : ∃ D, Hid (L.length = D) := ⟨_, rfl⟩
           rw [HD.out] at hD hDb hat hatl hst P1 ⊢
           obtain ⟨p, HP⟩ : ∃ p, Hid (pkAt (randV s) D = p) := ⟨_, rfl⟩
           rw [HP.out] at hat hatl hst
           have HS : Hid (randV s = S) := hS
           rw [HS.out] at hst
           have HRS2 : Hid ((O ++ [L.getD p 0]) ++ (pkL (K - (i + 1)) (remL L p) S).1 = R /\ (pkL (K - (i + 1)) (remL L p) S).2 = V) := by
             have h := HRS.out
             rw [hst] at h
             refine ⟨?_, h.2⟩
             rw [<- h.1, List.append_assoc]; rfl
           have cx : wr.cell? ⟨gl, p, none⟩ = some (.int .i64 (L.getD p 0)) := by
             obtain ⟨_, _, e, h⟩ := owns_ints' P1.out.l HD.out p (by rw [HD.out]; exact hatl)
             simp at e
             obtain ⟨rfl, rfl⟩ := e
             rw [Nat.zero_add] at h
             exact h
           have HCUT : Hid (cutP L (L.getD p 0) = remL L p) := cutP_rem HND.out (by rw [HD.out]; exact hatl)
           have HRL : Hid ((remL L p).length = D - 1) := by show _ = _; rw [remL_length (by rw [HD.out]; exact hatl), HD.out]
           have HRN : Hid (remL L p).Nodup := remL_nodup HND.out p
           obtain ⟨x, HX⟩ : ∃ f, Hid (L.getD p 0 = f) := ⟨_, rfl⟩
           rw [HX.out] at cx HRS2 HCUT
           have hpD : (p : Int) < (D : Int) := by omega
           clear hst hS hs0 hs1 HRS
           have hib : i <= 64 := by omega
           go_wp2_with (first
             | (go_at_call 52; refine (specRand_any _ _).mono ?_; rintro e w' ⟨rfl, hw'⟩; subst w'; rw [HS.out])
             | (at_builtin
                refine append_many _ rfl (.tmp 51) (.tmp 56) rfl w.heap.size _ i O rfl (by have := P1.out.o; rw [HO.out] at this; exact this.alloc _) wr.heap.size 0 1 1 [x] rfl rfl (ints_new1 wr x) (by omega) (by omega) (Nat.le_trans P1.out.hB.2 (by simp)) ?_
                intro ov' w4 hown hg hbk hnl
                have P4 : Hid (PW w w4 w.heap.size (.slice (some ⟨gl, 0, none⟩) D cl) ov' L (O ++ [x])) := P1.out.put (by rw [HO.out]; exact hown) hg hbk hnl
                have I4 : Hid (IntsAt w4 (some ⟨gl, 0, none⟩) L) := owns_ints' P4.out.l HD.out
                have c4 : w4.cell? ⟨gl, p, none⟩ = some (.int .i64 x) := by
                  obtain ⟨_, _, e, h⟩ := I4.out p (by rw [HD.out]; exact hatl)
                  simp at e
                  obtain ⟨rfl, rfl⟩ := e
                  rw [Nat.zero_add] at h
                  rw [h, HX.out]
                clear hown hg hbk hnl)
             | (go_at_call 28
                have hcut := l4CutP_any gl 0 cl L x w4 I4.out (by rw [HD.out]; omega)
                rw [HD.out, HCUT.out] at hcut
                refine hcut.mono ?_
                rintro e w5 ⟨g5, c5, rfl, hb5, ho5⟩
                have P5 : Hid (PW w w5 w.heap.size (.slice (some ⟨g5, 0, none⟩) (remL L p).length c5) ov' (remL L p) (O ++ [x])) := P4.out.cut hb5 ho5
                clear hcut hb5 ho5))
           go_roundw
           case rel => exact ⟨i + 1, S, remL L p, O ++ [x], by omega, by rw [HRL.out, <- HD.out, HL.out]; omega, HRN.out, by first | rfl | go_num, rfl, by rw [List.length_append, HO.out]; rfl, P5.out, HRS2.out.1, HRS2.out.2, by omega, by omega⟩
           case measure => simp [intOf]; omega
         · have hiK : K - i = 0 := by omega
           have HE : Hid (O = R /\ s = V) := by
             have h := HRS.out
             rw [hiK] at h
             refine ⟨?_, h.2⟩
             rw [<- h.1]
             exact (List.append_nil _).symm
           have HOR : Hid (wr.ownsRow w.heap.size 2 1 (.slice (some ⟨go, 0, none⟩) i co) R.length (R.map (Value.int .i64))) := by
             have := P1.out.o
             rw [HE.out.1] at this
             exact this
           have HB : Hid (Below w.heap.size w wr) := P1.out.b
           obtain ⟨D, HD⟩ : ∃ D, Hid (L.length = D) := ⟨_, rfl⟩
           rw [HD.out, HE.out.2]
           go_wp2
           refine bodyPost_ret (v := .tuple #[.slice (some ⟨go, 0, none⟩) i co, .int .i64 V]) (by simp [results, Tryz.results24, go_sem]) rfl ⟨_, rfl, HB.out, HOR.out⟩
theorem put_parts (L : List Int) (k : Nat) (x : Int) : L.take k ++ [x] ++ L.drop k = insL L k x := by
 unfold insL
 rw [List.append_assoc]
 rfl
set_option maxHeartbeats 2000000 in
theorem l4Put_any (b off c : Nat) (L : List Int) (x : Int) (w : World) (hA : IntsAt w (some ⟨b, off, none⟩) L) (hl : L.length <= 100) (hc : L.length <= c) :
   Calls Tryz.prog 29 #[.slice (some ⟨b, off, none⟩) L.length c, .int .i64 x] w fun e w' => ∃ g cc, e = .returned (.slice (some ⟨g, 0, none⟩) (L.length + 1) cc) /\ Below w.heap.size w w' /\ w'.ownsRow w.heap.size 2 1 (.slice (some ⟨g, 0, none⟩) (L.length + 1) cc) (L.length + 1) ((putS L x).map (Value.int .i64)) := by
 have HA : Hid (IntsAt w (some ⟨b, off, none⟩) L) := hA
 clear hA
 obtain ⟨m, HM⟩ : ∃ m, Hid (L.length = m) := ⟨_, rfl⟩
 rw [HM.out] at hl hc ⊢
 have B1 : Hid (Below w.heap.size w (w.alloc (.cells #[] 2))) := (Below.refl _ _).alloc (Nat.le_refl _) _
 go_enter Tryz.func29, Tryz.ntmps29
 go_wp2_with fail
 go_loop [5] (fun t => ∃ k : Nat, k <= m /\ t = .int .i64 k /\ ∀ j, j < k -> L.getD j 0 < x) (fun t => m - (intOf t).toNat)
 case atStart => exact ⟨0, Nat.zero_le _, rfl, fun j hj => by omega⟩
 case round =>
   obtain ⟨k, hk, rfl, hj⟩ := hrel
   have HJ : Hid (∀ j, j < k -> L.getD j 0 < x) := hj
   clear hj
   by_cases hcont : k < m /\ L.getD k 0 < x
   · obtain ⟨hlt, hx⟩ := hcont
     have hltI : (k : Int) < (m : Int) := by omega
     obtain ⟨_, _, e, c1⟩ := HA.out k (by rw [HM.out]; exact hlt)
     simp only [Option.some.injEq, Addr.mk.injEq, and_true] at e
     obtain ⟨rfl, rfl⟩ := e
     have HJ2 : Hid (∀ j, j < k + 1 -> L.getD j 0 < x) := fun j hj => by
       by_cases e : j = k
       · rw [e]; exact hx
       · exact HJ.out j (by omega)
     obtain ⟨y, HY⟩ : ∃ y, Hid (L.getD k 0 = y) := ⟨_, rfl⟩
     rw [HY.out] at c1 hx
     go_wp2
     go_round
     case rel => exact ⟨k + 1, by omega, by go_num, HJ2.out⟩
     case measure => simp [intOf]; omega
   · have HE : Hid (L.take k ++ [x] ++ L.drop k = putS L x) := by
       show _ = _
       rw [put_parts]
       exact putS_is L x k (by rw [HM.out]; exact hk) HJ.out (fun h h2 => hcont ⟨by rw [<- HM.out]; exact h, h2⟩)
     have cx : ∀ y, L.getD k 0 = y -> k < m -> w.cell? ⟨b, off + k, none⟩ = some (.int .i64 y) := fun y hy hlt => by
       obtain ⟨_, _, e, c1⟩ := HA.out k (by rw [HM.out]; exact hlt)
       simp only [Option.some.injEq, Addr.mk.injEq, and_true] at e
       obtain ⟨rfl, rfl⟩ := e
       rw [<- hy]; exact c1
     obtain ⟨y, HY⟩ : ∃ y, Hid (L.getD k 0 = y) := ⟨_, rfl⟩
     have cy := cx y HY.out
     rw [HY.out] at hcont
     have HC : Hid (¬ (k < m /\ y < x)) := hcont
     clear cx hcont
     by_cases hlt : k < m
     all_goals
       first
         | (have hltI : (k : Int) < (m : Int) := by omega
            have c1 := cy hlt
            have hyx : ¬ y < x := fun h => HC.out ⟨hlt, h⟩)
         | have hltI : ¬ ((k : Int) < (m : Int)) := by omega
       clear cy
       have hkc : k <= c := by omega
       go_wp2_with (first
         | (at_builtin
            refine append_many _ rfl (.tmp 21) (.tmp 24) rfl w.heap.size _ 0 [] rfl (World.ownsRow_made w #[] 0 (Nat.le_refl _) (by unfold maxLen; omega) (by simp)) b off k c (L.take k) rfl (by rw [List.length_take, HM.out]; omega) (ints_take' (HA.out.below B1.out) k) (by omega) (by omega) (by simp) ?_
            intro v2 w2 hown hg hbk hnl
            have B2 : Hid (Below w.heap.size w w2) := B1.out.grown hg B1.out.size (fun k e => own_at e)
            rw [Nat.zero_add, List.nil_append] at hown
            obtain ⟨g2, c2, rfl⟩ := own_sm hown (not_nil hnl ⟨_, _, _, rfl⟩)
            have O2 : Hid (w2.ownsRow w.heap.size 2 1 (.slice (some ⟨g2, 0, none⟩) k c2) k ((L.take k).map (Value.int .i64))) := hown
            have B3 : Hid (Below w.heap.size w (w2.alloc (.cells #[.int .i64 x] 2))) := B2.out.alloc B2.out.size _
            clear hown hg hbk hnl)
         | (at_builtin
            refine append_many _ rfl (.tmp 26) (.tmp 28) rfl w.heap.size _ k (L.take k) rfl (O2.out.alloc _) w2.heap.size 0 1 1 [x] rfl rfl (ints_new1 w2 x) (by omega) (by omega) B3.out.size ?_
            intro v4 w4 hown hg hbk hnl
            have hbg := (O2.out.lt g2 rfl).1
            have B4 : Hid (Below w.heap.size w w4) := B3.out.grown hg B3.out.size (fun k e => Nat.le_trans hbg (own_at e))
            obtain ⟨g4, c4, rfl⟩ := own_sm hown (not_nil hnl ⟨_, _, _, rfl⟩)
            have O4 : Hid (w4.ownsRow w.heap.size 2 1 (.slice (some ⟨g4, 0, none⟩) (k + 1) c4) (k + 1) ((L.take k ++ [x]).map (Value.int .i64))) := hown
            clear hown hg hbk hnl hbg)
         | (at_builtin
            refine append_more _ rfl (.tmp 30) (.tmp 33) rfl w.heap.size _ (k + 1) (L.take k ++ [x]) rfl O4.out _ (m - k) _ (L.drop k) rfl (by first | exact ⟨_, _, rfl⟩ | exact cut_some' b off k c) (by rw [List.length_drop, HM.out]) (by first | exact ints_drop' (HA.out.below B4.out) k | exact ints_cut' (HA.out.below B4.out) k c (by rw [HM.out]; exact hc)) (by omega) (by omega) B4.out.size ?_
            intro v5 w5 hown hg hbk hnl
            have hbg := (O4.out.lt g4 rfl).1
            have B5 : Hid (Below w.heap.size w w5) := B4.out.grown hg B4.out.size (fun k e => Nat.le_trans hbg (own_at e))
            rw [show k + 1 + (m - k) = m + 1 by omega, HE.out] at hown
            obtain ⟨g5, c5, rfl⟩ := own_sm hown (not_nil hnl ⟨_, _, _, rfl⟩)
            have O5 : Hid (w5.ownsRow w.heap.size 2 1 (.slice (some ⟨g5, 0, none⟩) (m + 1) c5) (m + 1) ((putS L x).map (Value.int .i64))) := hown
            clear hown hg hbk hnl hbg))
       all_goals
         go_ret
         exact ⟨g5, c5, rfl, B5.out, O5.out⟩
end Go.Proofs.YtdbdmlabfbmjfaaGreat
