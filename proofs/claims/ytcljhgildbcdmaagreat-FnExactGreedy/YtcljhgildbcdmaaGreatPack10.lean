import Derived.Test.YtcljhgildbcdmaaGreatPack1
import Derived.Test.YtcljhgildbcdmaaGreatPack5
namespace Go.Proofs.YtcljhgildbcdmaaGreat
open Go.RowKit
set_option maxHeartbeats 1000000 in
theorem l3Form_any (n fine veh : Int) (a ao av bi : Option Addr) (cap ko co kv cv c2 : Nat) (zs os vs ids : List Int) (w : World) (hA : IntsAt w a zs) (hO : IntsAt w ao os) (hV : IntsAt w av vs) (hI : IntsAt w bi ids) (hlo : os.length = ko * 6) (hlv : vs.length = kv * 5) (hko : ko <= 9223372036854775807) (hkv : kv <= 9223372036854775807) (hli : ids.length <= 9223372036854775807) (hc2 : ids.length <= c2) :
   Calls Tryz.prog 130 #[.agg #[.int .i64 n, .slice a zs.length cap, .slice ao ko co, .slice av kv cv, .int .i64 fine], .agg #[.int .i64 veh, .slice bi ids.length c2]] w fun e w' => e = .returned (.int .i64 (formV (caseB n zs os vs ko kv fine) vs os kv ko veh ids)) /\ Below w.heap.size w w' := by
 have HA : Hid (IntsAt w a zs) := hA
 have HO : Hid (IntsAt w ao os) := hO
 have HV : Hid (IntsAt w av vs) := hV
 have HI : Hid (IntsAt w bi ids) := hI
 have HLO : Hid _ := hlo
 have HLV : Hid _ := hlv
 clear hA hO hV hI hlo hlv
 have HC0 : Hid (CR w ((w.alloc (.cells #[Value.int .i64 n, Value.slice a zs.length cap, Value.slice ao ko co, Value.slice av kv cv, Value.int .i64 fine] 43)).alloc (.cells #[Value.int .i64 veh, Value.slice bi ids.length c2] 102)) _ _) := CR.new w _ _
 obtain ⟨r, HR⟩ : ∃ r, Hid (formV (caseB n zs os vs ko kv fine) vs os kv ko veh ids = r) := ⟨_, rfl⟩
 rw [HR.out]
 go_enter Tryz.func130, Tryz.ntmps130
 go_wp2_with fail
 refine (specCase_any n fine a ao av cap ko co kv cv zs os vs _ (HA.out.below HC0.out.1) (HO.out.below HC0.out.1) (HV.out.below HC0.out.1) HLO.out HLV.out hko hkv).mono ?_
 rintro e w1 ⟨rfl, hb⟩
 have C1 : Hid (CR w w1 _ _) := HC0.out.below hb
 clear hb HC0
 cases hc : caseB n zs os vs ko kv fine
 · have HV1 : Hid (r = 1) := HR.out.symm.trans (formV_1 hc)
   go_wp2
   go_ret
   exact ⟨ret_int HV1.out.symm, C1.out.1⟩
 · have HC : Hid _ := hc
   clear hc
   obtain ⟨c0, c1, c2', c3, c4⟩ := cells5 C1.out.2.1
   obtain ⟨d0, d1⟩ := cells2 C1.out.2.2
   go_wp2_with fail
   refine (l2Car_any n fine veh a ao av _ cap ko co kv cv vs _ (HV.out.below C1.out.1) HLV.out hkv).mono ?_
   rintro e w2 ⟨rfl, hb⟩
   obtain ⟨v0, G0⟩ : ∃ t, Hid (fnd5F vs kv veh 0 = t) := ⟨_, rfl⟩
   obtain ⟨v1, G1⟩ : ∃ t, Hid (fnd5F vs kv veh 1 = t) := ⟨_, rfl⟩
   obtain ⟨v2, G2⟩ : ∃ t, Hid (fnd5F vs kv veh 2 = t) := ⟨_, rfl⟩
   obtain ⟨v3, G3⟩ : ∃ t, Hid (fnd5F vs kv veh 3 = t) := ⟨_, rfl⟩
   obtain ⟨v4, G4⟩ : ∃ t, Hid (fnd5F vs kv veh 4 = t) := ⟨_, rfl⟩
   rw [G0.out, G1.out, G2.out, G3.out, G4.out]
   have C2 : Hid (CR w w2 _ _) := C1.out.below hb
   clear hb C1 c0 c1 c2' c3 c4 d0 d1
   cases ht : fnd5T vs kv veh
   · have HV1 : Hid (r = 2) := HR.out.symm.trans (formV_2 HC.out ht)
     go_wp2
     go_ret
     exact ⟨ret_int HV1.out.symm, (CR.alloc C2.out _).1⟩
   · have HT5 : Hid _ := ht
     clear ht
     have C3 : Hid (CR w (w2.alloc (Obj.cells #[Value.int .i64 v0, Value.int .i64 v1, Value.int .i64 v2, Value.int .i64 v3, Value.int .i64 v4] 88)) _ _) := CR.alloc C2.out _
     have RV3 : Hid ((w2.alloc (Obj.cells #[Value.int .i64 v0, Value.int .i64 v1, Value.int .i64 v2, Value.int .i64 v3, Value.int .i64 v4] 88)).heap[w2.heap.size]? = _) := heap_alloc_new _ _
     obtain ⟨c0, c1, c2', c3, c4⟩ := cells5 C3.out.2.1
     obtain ⟨d0, d1⟩ := cells2 C3.out.2.2
     clear C2
     by_cases h12 : ids.length <= 12
     · go_wp2_with fail
       clear c0 c1 c2' c3 c4 d0 d1
       generalize w2.alloc (Obj.cells #[Value.int .i64 v0, Value.int .i64 v1, Value.int .i64 v2, Value.int .i64 v3, Value.int .i64 v4] 88) = W2 at *
       generalize w2.heap.size = gv at *
       have HOB : Hid (ordsB n os ko = true) := caseB_ords HC.out
       go_loopw [7, 8] (fun sm t wr => ∃ k : Nat, k <= ids.length /\ t = .int .i64 k /\ sm = .int .i64 (loadTo os ko ids k) /\ stopsTo os ko ids k /\ CR w wr #[Value.int .i64 n, Value.slice a zs.length cap, Value.slice ao ko co, Value.slice av kv cv, Value.int .i64 fine] #[Value.int .i64 veh, Value.slice bi ids.length c2] /\ wr.heap[gv]? = some (.cells #[Value.int .i64 v0, Value.int .i64 v1, Value.int .i64 v2, Value.int .i64 v3, Value.int .i64 v4] 88 (0, 0))) (fun _ t _ => ids.length - (intOf t).toNat)
       case atStart => exact ⟨0, Nat.zero_le _, rfl, rfl, stopsTo_zero _ _ _, C3.out, RV3.out⟩
       case round =>
         clear C3 RV3
         obtain ⟨k, hk, rfl, rfl, hth, hb, hrv⟩ := hrel
         have hbd := loadTo_bd HOB.out ids k
         have HT : Hid (stopsTo os ko ids k) := hth
         have HB : Hid (CR w wr _ _) := hb
         have HRV : Hid (wr.heap[gv]? = _) := hrv
         obtain ⟨c0, c1, c2', c3, c4⟩ := cells5 hb.2.1
         obtain ⟨d0, d1⟩ := cells2 hb.2.2
         obtain ⟨s0, HS0⟩ : ∃ s, Hid (loadTo os ko ids k = s) := ⟨_, rfl⟩
         rw [HS0.out] at hbd ⊢
         clear hth hb hrv
         by_cases hlt : k < ids.length
         · obtain ⟨b, off, rfl, hcs⟩ := IntsAt.some (IntsAt.below HI.out HB.out.1) hlt
           have ct := hcs k hlt
           clear hcs
           obtain ⟨id, HID⟩ : ∃ i, Hid (ids.getD k 0 = i) := ⟨_, rfl⟩
           rw [HID.out] at ct
           have hl2 := fnd6F_load HOB.out id
           obtain ⟨o0, H0⟩ : ∃ t, Hid (fnd6F os ko id 0 = t) := ⟨_, rfl⟩
           obtain ⟨o1, H1⟩ : ∃ t, Hid (fnd6F os ko id 1 = t) := ⟨_, rfl⟩
           obtain ⟨o2, H2⟩ : ∃ t, Hid (fnd6F os ko id 2 = t) := ⟨_, rfl⟩
           obtain ⟨o3, H3⟩ : ∃ t, Hid (fnd6F os ko id 3 = t) := ⟨_, rfl⟩
           obtain ⟨o4, H4⟩ : ∃ t, Hid (fnd6F os ko id 4 = t) := ⟨_, rfl⟩
           obtain ⟨o5, H5⟩ : ∃ t, Hid (fnd6F os ko id 5 = t) := ⟨_, rfl⟩
           rw [H2.out] at hl2
           have HL1 : Hid (loadTo os ko ids (k + 1) = s0 + o2) := by
             show _ = _
             unfold loadTo
             rw [HS0.out, HID.out, H2.out]
           obtain ⟨tt, HTT⟩ : ∃ t, Hid (fnd6T os ko id = t) := ⟨_, rfl⟩
           go_wp2_with fail
           have HCT : Hid (wr.cell? ⟨b, off + k, none⟩ = _) := ct
           have HCA : Hid ((wr.alloc (Obj.cells #[Value.int .i64 0, Value.int .i64 0, Value.int .i64 0, Value.int .i64 0, Value.int .i64 0, Value.int .i64 0] 105)).cell? ⟨b, off + k, none⟩ = _) := (((Below.refl wr.heap.size wr).alloc (Nat.le_refl _) _).cell (p := ⟨b, off + k, none⟩) (block_lt_of_cell ct)).trans ct
           have HVA : Hid ((wr.alloc (Obj.cells #[Value.int .i64 0, Value.int .i64 0, Value.int .i64 0, Value.int .i64 0, Value.int .i64 0, Value.int .i64 0] 105)).heap[gv]? = _) := (heap_alloc_old _ _ (row_lt HRV.out)).trans HRV.out
           have hlb := block_lt_of_cell ct
           simp at hlb
           have hlw := row_lt HB.out.2.1
           have hlr := row_lt HB.out.2.2
           go_region_held3 (fun W => W.cell? ⟨w.heap.size, 0, none⟩ = some (.int .i64 n) /\ W.cell? ⟨w.heap.size, 1, none⟩ = some (.slice a zs.length cap) /\ W.cell? ⟨w.heap.size, 2, none⟩ = some (.slice ao ko co) /\ W.cell? ⟨w.heap.size, 3, none⟩ = some (.slice av kv cv) /\ W.cell? ⟨w.heap.size, 4, none⟩ = some (.int .i64 fine) /\ W.cell? ⟨w.heap.size + 1, 1, none⟩ = some (.slice (some ⟨b, off, none⟩) ids.length c2) /\ W.cell? ⟨b, off + k, none⟩ = some (.int .i64 id)) (first | with_reducible exact kS | with_reducible exact ⟨(keep_set (keep_set (keep_set (keep_set (keep_set (keep_set kS.1 (Nat.ne_of_lt hlw)) (Nat.ne_of_lt hlw)) (Nat.ne_of_lt hlw)) (Nat.ne_of_lt hlw)) (Nat.ne_of_lt hlw)) (Nat.ne_of_lt hlw)), (keep_set (keep_set (keep_set (keep_set (keep_set (keep_set kS.2.1 (Nat.ne_of_lt hlw)) (Nat.ne_of_lt hlw)) (Nat.ne_of_lt hlw)) (Nat.ne_of_lt hlw)) (Nat.ne_of_lt hlw)) (Nat.ne_of_lt hlw)), (keep_set (keep_set (keep_set (keep_set (keep_set (keep_set kS.2.2.1 (Nat.ne_of_lt hlw)) (Nat.ne_of_lt hlw)) (Nat.ne_of_lt hlw)) (Nat.ne_of_lt hlw)) (Nat.ne_of_lt hlw)) (Nat.ne_of_lt hlw)), (keep_set (keep_set (keep_set (keep_set (keep_set (keep_set kS.2.2.2.1 (Nat.ne_of_lt hlw)) (Nat.ne_of_lt hlw)) (Nat.ne_of_lt hlw)) (Nat.ne_of_lt hlw)) (Nat.ne_of_lt hlw)) (Nat.ne_of_lt hlw)), (keep_set (keep_set (keep_set (keep_set (keep_set (keep_set kS.2.2.2.2.1 (Nat.ne_of_lt hlw)) (Nat.ne_of_lt hlw)) (Nat.ne_of_lt hlw)) (Nat.ne_of_lt hlw)) (Nat.ne_of_lt hlw)) (Nat.ne_of_lt hlw)), (keep_set (keep_set (keep_set (keep_set (keep_set (keep_set kS.2.2.2.2.2.1 (Nat.ne_of_lt hlr)) (Nat.ne_of_lt hlr)) (Nat.ne_of_lt hlr)) (Nat.ne_of_lt hlr)) (Nat.ne_of_lt hlr)) (Nat.ne_of_lt hlr)), (keep_set (keep_set (keep_set (keep_set (keep_set (keep_set kS.2.2.2.2.2.2 (Nat.ne_of_lt hlb)) (Nat.ne_of_lt hlb)) (Nat.ne_of_lt hlb)) (Nat.ne_of_lt hlb)) (Nat.ne_of_lt hlb)) (Nat.ne_of_lt hlb))⟩ | go_keep) ((first
             | (go_at_call 70
                with_reducible refine (l2At_any n fine id a ao av _ cap ko co kv cv os wr.drew ?_ HLO.out hko).mono ?_
                · exact HO.out.below HB.out.1.drew
                rintro e w2 ⟨rfl, hb2⟩
                rw [H0.out, H1.out, H2.out, H3.out, H4.out, H5.out, HTT.out]
                have hcr2 := CR.below (CR.drew HB.out) hb2
                obtain ⟨k0, k1, k2, k3, k4⟩ := cells5 hcr2.2.1
                have k5 := (cells2 hcr2.2.2).2
                have k6 := (hb2.cell (p := ⟨b, off + k, none⟩) (block_lt_of_cell HCT.out)).trans HCT.out
                have kS := And.intro k0 (And.intro k1 (And.intro k2 (And.intro k3 (And.intro k4 (And.intro k5 k6)))))
                have CR2 : Hid (CR w w2 _ _) := hcr2
                have RV2 : Hid (w2.heap[gv]? = _) := below_row hb2 (row_lt HRV.out) HRV.out
                clear hb2 hcr2 k0 k1 k2 k3 k4 k5 k6)
             | (go_at_call 70
                with_reducible refine (l2At_any n fine id a ao av _ cap ko co kv cv os (wr.alloc (Obj.cells #[Value.int .i64 0, Value.int .i64 0, Value.int .i64 0, Value.int .i64 0, Value.int .i64 0, Value.int .i64 0] 105)).drew ?_ HLO.out hko).mono ?_
                · exact HO.out.below (CR.alloc HB.out (Obj.cells #[Value.int .i64 0, Value.int .i64 0, Value.int .i64 0, Value.int .i64 0, Value.int .i64 0, Value.int .i64 0] 105)).1.drew
                rintro e w2 ⟨rfl, hb2⟩
                rw [H0.out, H1.out, H2.out, H3.out, H4.out, H5.out, HTT.out]
                have hcr2 := CR.below (CR.drew (CR.alloc HB.out (Obj.cells #[Value.int .i64 0, Value.int .i64 0, Value.int .i64 0, Value.int .i64 0, Value.int .i64 0, Value.int .i64 0] 105))) hb2
                obtain ⟨k0, k1, k2, k3, k4⟩ := cells5 hcr2.2.1
                have k5 := (cells2 hcr2.2.2).2
                have k6 := (hb2.cell (p := ⟨b, off + k, none⟩) (block_lt_of_cell HCA.out)).trans HCA.out
                have kS := And.intro k0 (And.intro k1 (And.intro k2 (And.intro k3 (And.intro k4 (And.intro k5 k6)))))
                have CR2 : Hid (CR w w2 _ _) := hcr2
                have RV2 : Hid (w2.heap[gv]? = _) := below_row hb2 (row_lt HVA.out) HVA.out
                obtain ⟨z0, z1, z2, z3, z4, z5⟩ := cells6 (below_row hb2 (k := wr.heap.size) (by simp) (heap_alloc_new wr (Obj.cells #[Value.int .i64 0, Value.int .i64 0, Value.int .i64 0, Value.int .i64 0, Value.int .i64 0, Value.int .i64 0] 105)))
                have zf := fun i => frozen_of_row _ _ i _ _ (below_row hb2 (k := wr.heap.size) (by simp) (heap_alloc_new wr (Obj.cells #[Value.int .i64 0, Value.int .i64 0, Value.int .i64 0, Value.int .i64 0, Value.int .i64 0, Value.int .i64 0] 105)))
                have RO2 : Hid (w2.heap[wr.heap.size]? = _) := below_row hb2 (k := wr.heap.size) (by simp) (heap_alloc_new wr (Obj.cells #[Value.int .i64 0, Value.int .i64 0, Value.int .i64 0, Value.int .i64 0, Value.int .i64 0, Value.int .i64 0] 105))
                clear hb2 hcr2 k0 k1 k2 k3 k4 k5 k6)))
           all_goals (first
             | (have CRW : Hid (CR w (World.setCell (World.setCell (World.setCell (World.setCell (World.setCell (World.setCell w2 ⟨wr.heap.size, 0, none⟩ (Value.int .i64 o0)) ⟨wr.heap.size, 1, none⟩ (Value.int .i64 o1)) ⟨wr.heap.size, 2, none⟩ (Value.int .i64 o2)) ⟨wr.heap.size, 3, none⟩ (Value.int .i64 o3)) ⟨wr.heap.size, 4, none⟩ (Value.int .i64 o4)) ⟨wr.heap.size, 5, none⟩ (Value.int .i64 o5)) _ _) := CR.set (CR.set (CR.set (CR.set (CR.set (CR.set CR2.out HB.out.big) HB.out.big) HB.out.big) HB.out.big) HB.out.big) HB.out.big
                have RVW : Hid ((World.setCell (World.setCell (World.setCell (World.setCell (World.setCell (World.setCell w2 ⟨wr.heap.size, 0, none⟩ (Value.int .i64 o0)) ⟨wr.heap.size, 1, none⟩ (Value.int .i64 o1)) ⟨wr.heap.size, 2, none⟩ (Value.int .i64 o2)) ⟨wr.heap.size, 3, none⟩ (Value.int .i64 o3)) ⟨wr.heap.size, 4, none⟩ (Value.int .i64 o4)) ⟨wr.heap.size, 5, none⟩ (Value.int .i64 o5)).heap[gv]? = _) := row_set' (row_set' (row_set' (row_set' (row_set' (row_set' RV2.out (Nat.ne_of_lt (row_lt HRV.out))) (Nat.ne_of_lt (row_lt HRV.out))) (Nat.ne_of_lt (row_lt HRV.out))) (Nat.ne_of_lt (row_lt HRV.out))) (Nat.ne_of_lt (row_lt HRV.out))) (Nat.ne_of_lt (row_lt HRV.out))
                have ROW : Hid ((World.setCell (World.setCell (World.setCell (World.setCell (World.setCell (World.setCell w2 ⟨wr.heap.size, 0, none⟩ (Value.int .i64 o0)) ⟨wr.heap.size, 1, none⟩ (Value.int .i64 o1)) ⟨wr.heap.size, 2, none⟩ (Value.int .i64 o2)) ⟨wr.heap.size, 3, none⟩ (Value.int .i64 o3)) ⟨wr.heap.size, 4, none⟩ (Value.int .i64 o4)) ⟨wr.heap.size, 5, none⟩ (Value.int .i64 o5)).heap[wr.heap.size]? = _) := row_set6 RO2.out
                clear kS CR2 RV2 RO2 HCT HCA HVA ct z0 z1 z2 z3 z4 z5 zf
                generalize (World.setCell (World.setCell (World.setCell (World.setCell (World.setCell (World.setCell w2 ⟨wr.heap.size, 0, none⟩ (Value.int .i64 o0)) ⟨wr.heap.size, 1, none⟩ (Value.int .i64 o1)) ⟨wr.heap.size, 2, none⟩ (Value.int .i64 o2)) ⟨wr.heap.size, 3, none⟩ (Value.int .i64 o3)) ⟨wr.heap.size, 4, none⟩ (Value.int .i64 o4)) ⟨wr.heap.size, 5, none⟩ (Value.int .i64 o5)) = W at *
                generalize wr.heap.size = g at *)
             | (have CRW : Hid (CR w (w2.alloc (Obj.cells #[Value.int .i64 o0, Value.int .i64 o1, Value.int .i64 o2, Value.int .i64 o3, Value.int .i64 o4, Value.int .i64 o5] 105)) _ _) := CR.alloc CR2.out _
                have RVW : Hid ((w2.alloc (Obj.cells #[Value.int .i64 o0, Value.int .i64 o1, Value.int .i64 o2, Value.int .i64 o3, Value.int .i64 o4, Value.int .i64 o5] 105)).heap[gv]? = _) := (heap_alloc_old _ _ (row_lt RV2.out)).trans RV2.out
                have ROW : Hid ((w2.alloc (Obj.cells #[Value.int .i64 o0, Value.int .i64 o1, Value.int .i64 o2, Value.int .i64 o3, Value.int .i64 o4, Value.int .i64 o5] 105)).heap[w2.heap.size]? = _) := heap_alloc_new _ _
                clear kS CR2 RV2 HCT HCA HVA ct
                generalize w2.alloc (Obj.cells #[Value.int .i64 o0, Value.int .i64 o1, Value.int .i64 o2, Value.int .i64 o3, Value.int .i64 o4, Value.int .i64 o5] 105) = W at *
                generalize w2.heap.size = g at *))
           all_goals
             clear c0 c1 c2' c3 c4 d0 d1 hlw hlr hlb
             have hkc : k <= c2 := by omega
             have q1 := (cells2 CRW.out.2.2).2
             have ctW := ints_cell (HI.out.below CRW.out.1) hlt HID.out
             have t0 := fun s : Kin W => s.cell q1
             have t1 := fun s : Kin W => s.cell ctW
             cases tt
             · have HV1 : Hid (r = 3) := HR.out.symm.trans (formV_3 HC.out HT5.out (stopsB_bad hlt (stopB_mk HID.out HTT.out rfl)))
               go_wp2_with fail
               have hkin := Kin.there W
               refine wp_region_kin (by kernel_rfl) (by kernel_rfl) ?_
               repeat (go_big_quiet_step ((fail)))
               refine wpQuiet_nil ?_
               rintro _ ⟨s, rfl⟩
               have HS2 : Hid (CR w s.w _ _) := CRW.out.below s.below
               generalize s.w = w3 at *
               go_wp2
               go_ret
               exact ⟨ret_int HV1.out.symm, HS2.out.1⟩
             · obtain ⟨hh, HH⟩ : ∃ t, Hid (hasTo ids k id = t) := ⟨_, rfl⟩
               cases hh
               · have HS1 : Hid (stopsTo os ko ids (k + 1)) := stopsTo_step HT.out (stopB_mk HID.out HTT.out HH.out)
                 go_wp2_with fail
                 have hkin := Kin.there W
                 refine wp_region_kin (by kernel_rfl) (by kernel_rfl) ?_
                 repeat (go_big_quiet_step ((go_at_call 56; exact Kin.call_same (l3Has_is _ k _ id ids _ false HH.out ((HI.out.below CRW.out.1).below (Kin.below _)) hk (by omega)))))
                 refine wpQuiet_nil ?_
                 rintro _ ⟨s, rfl⟩
                 have HS2 : Hid (CR w s.w _ _) := CRW.out.below s.below
                 have HRV2 : Hid (s.w.heap[gv]? = _) := below_row s.below (row_lt RVW.out) RVW.out
                 obtain ⟨p0, p1, p2, p3, p4, p5⟩ := cells6 (below_row s.below (row_lt ROW.out) ROW.out)
                 clear q1 ctW t0 t1 CRW RVW ROW
                 generalize s.w = w3 at *
                 go_wp2
                 exact ⟨⟨k + 1, by omega, by go_num, by rw [HL1.out], HS1.out, HS2.out, HRV2.out⟩, by simp [intOf]; omega⟩
               · have HV1 : Hid (r = 3) := HR.out.symm.trans (formV_3 HC.out HT5.out (stopsB_bad hlt (stopB_mk HID.out HTT.out HH.out)))
                 go_wp2_with fail
                 have hkin := Kin.there W
                 refine wp_region_kin (by kernel_rfl) (by kernel_rfl) ?_
                 repeat (go_big_quiet_step ((go_at_call 56; exact Kin.call_same (l3Has_is _ k _ id ids _ true HH.out ((HI.out.below CRW.out.1).below (Kin.below _)) hk (by omega)))))
                 refine wpQuiet_nil ?_
                 rintro _ ⟨s, rfl⟩
                 have HS2 : Hid (CR w s.w _ _) := CRW.out.below s.below
                 generalize s.w = w3 at *
                 go_wp2
                 go_ret
                 exact ⟨ret_int HV1.out.symm, HS2.out.1⟩
         · have hkl : k = ids.length := by omega
           have HSB : Hid (stopsB os ko ids = true) := stopsB_yes h12 (hkl ▸ HT.out)
           have HS0' : Hid (loadTo os ko ids ids.length = s0) := hkl ▸ HS0.out
           obtain ⟨q0, q1, q2, q3, q4⟩ := cells5 HRV.out
           clear hkl
           by_cases hroom : v2 < s0
           · have HV1 : Hid (r = 4) := HR.out.symm.trans (formV_4 HC.out HT5.out HSB.out (by rw [HS0'.out, G2.out]; exact hroom))
             go_wp2
             go_ret
             exact ⟨ret_int HV1.out.symm, HB.out.1⟩
           · have HV1 : Hid (r = 0) := HR.out.symm.trans (formV_0 HC.out HT5.out HSB.out (by rw [HS0'.out, G2.out]; exact hroom))
             go_wp2
             go_ret
             exact ⟨ret_int HV1.out.symm, HB.out.1⟩
     · have HV1 : Hid (r = 3) := HR.out.symm.trans (formV_3 HC.out HT5.out (stopsB_many h12))
       go_wp2
       go_ret
       exact ⟨ret_int HV1.out.symm, C3.out.1⟩
end Go.Proofs.YtcljhgildbcdmaaGreat
namespace Go.Proofs.YtcljhgildbcdmaaGreat
open Go.RowKit
theorem append_blk {P : Program} (w : World) (base : Nat) (t ty e : TypeId) (i : TypeInfo) (z : Value) (size bytes : Nat) (ht : P.underlying t = some (.slice e)) (hi : P.info? e = some i) (hz : i.zero = some z)
   (hsize : i.size = size) (hby : i.bytes = bytes) (v : Value) (n : Nat) (xs : List Value) (hown : w.ownsRow base e size v n xs)
   (a : Addr) (m c : Nat) (news : List Value) (hl : news.length = m * size) (hnews : ∀ j u, news[j]? = some u -> w.cell? (a.add j) = some u) (h1 : ∀ u ∈ news, u.oneCell' = true)
   (h63 : n + m <= maxLen) (hbytes : (n + m) * bytes <= 140737488355328) {v' : Value} {w' : World} (hrun : (Builtin.append_ #[t, t] ty #[v, .slice (some a) m c]).run P w = .ok v' w') : v'.ownBlock = v.ownBlock ∨ v'.ownBlock = some w.heap.size := by
 subst hsize
 subst hby
 have hsmall : n + m <= 9223372036854775807 := by simp only [maxLen] at h63; omega
 rcases hown.2 with ⟨rfl, rfl⟩ | ⟨g, cap, cur, rfl, hbg, hg, hnc, hcm, hcs, htake⟩
 · by_cases hm : m = 0
   · subst hm
     have hn : news = [] := List.eq_nil_of_length_eq_zero (by simpa using hl)
     subst hn
     simp [Builtin.append_, run_underlying ht, sizeOf, typeInfo, hi, Builtin.lenOf, Builtin.firstCells, loadCells, loadCellsFrom] at hrun
     rw [<- hrun.1]
     exact .inl rfl
   · have hr := run_append_nil (P := P) w t ty e i z ht hi hz a m c news hl hnews (by omega) (by omega) (by have hb := hbytes; simp only [Nat.zero_add] at hb; omega)
     rw [hr] at hrun
     injection hrun with e1 e2
     rw [<- e1]
     exact .inr rfl
 · by_cases hroom : n + m <= cap
   · have hfit : n * i.size + news.length <= cur.size := by rw [hl, hcs, <- Nat.add_mul]; exact Nat.mul_le_mul_right _ hroom
     have hr := run_append_room (P := P) w t ty e i ht hi g n cap cur hg a m c news hl hnews h1 hroom hfit
     rw [hr] at hrun
     injection hrun with e1 e2
     rw [<- e1]
     exact .inl rfl
   · have holds : ∀ j u, xs[j]? = some u -> w.cell? ((⟨g, 0, none⟩ : Addr).add j) = some u := hown.cells (g := g) rfl
     have hr := run_append_grow (P := P) w t ty e i z ht hi hz ⟨g, 0, none⟩ n cap xs hown.1 holds a m c news hl hnews (by omega) (by omega) (growslice_fits (by omega) hbytes)
     rw [hr] at hrun
     injection hrun with e1 e2
     rw [<- e1]
     exact .inr rfl
theorem exec_app {P : Program} {o : Oper} {a : Act} {w w' : World} {v : Value} (s x : Operand) (t : TypeId) (vs vx : Value) (ho : o.op = .call { callee := .builtin .append, args := #[s, x], argTypes := #[t, t] })
   (hs : a.eval s = vs) (hx : a.eval x = vx) (hr : (Builtin.append_ #[t, t] o.type #[vs, vx]).run P w = .ok v w') : (execOp a.eval o).run P w = .ok (.value v) w' := by
 unfold execOp
 simp only [ho, resolve, invoke, builtin, Sem.run_bind, Sem.run_pure, Result.andThen_ok, List.map_toArray, List.map_cons, List.map_nil, hs, hx, hr]
end Go.Proofs.YtcljhgildbcdmaaGreat
namespace Go.Proofs.YtcljhgildbcdmaaGreat
open Go.RowKit
theorem own_putV {w : World} {base n g c k size m : Nat} {e : TypeId} {xs : List Value} (v : Value) (h : w.ownsRow base e size (.slice (some ⟨g, 0, none⟩) m c) n xs) : (w.setCell ⟨g, k, none⟩ v).ownsRow base e size (.slice (some ⟨g, 0, none⟩) m c) n (xs.set k v) := by
 obtain ⟨h0, ⟨h1, _⟩ | ⟨g', cap, cur, h2, h3, h4, h5, h6, h7, h8⟩⟩ := h
 · cases h1
 · simp at h2
   obtain ⟨rfl, rfl, rfl⟩ := h2
   refine ⟨by simpa using h0, .inr ⟨g, c, cur.setIfInBounds k v, rfl, h3, heap_setCell_same w g k cur e _ h4, h5, h6, by simpa using h7, ?_⟩⟩
   rw [Array.toList_setIfInBounds, List.take_set, h8]
theorem own_cellV {w : World} {base n g c k size m : Nat} {e : TypeId} {xs : List Value} {x : Value} (h : w.ownsRow base e size (.slice (some ⟨g, 0, none⟩) m c) n xs) (hk : xs[k]? = some x) : w.cell? ⟨g, k, none⟩ = some x /\ w.frozen? ⟨g, k, none⟩ = false := by
 refine ⟨?_, ?_⟩
 · have := h.cells (g := g) rfl k x hk
   have hadd : (⟨g, 0, none⟩ : Addr).add k = ⟨g, k, none⟩ := by unfold Addr.add; split <;> simp_all
   rw [hadd] at this
   exact this
 · obtain ⟨h0, ⟨h1, _⟩ | ⟨g', cap, cur, h2, h3, h4, h5⟩⟩ := h
   · cases h1
   · simp at h2
     obtain ⟨rfl, rfl, rfl⟩ := h2
     exact frozen_of_row _ _ k _ _ h4
theorem own_kinds {w : World} {base n size : Nat} {e : TypeId} {v : Value} {xs : List Value} (h : w.ownsRow base e size v n xs) : (v = .slice none 0 0 /\ n = 0) ∨ ∃ g c, v = .slice (some ⟨g, 0, none⟩) n c /\ base <= g /\ g < w.heap.size := by
 obtain ⟨_, ⟨h1, h2⟩ | ⟨g, cap, cur, h2, h3, h4, _⟩⟩ := h
 · exact .inl ⟨h1, h2⟩
 · exact .inr ⟨g, cap, h2, h3, row_lt h4⟩
end Go.Proofs.YtcljhgildbcdmaaGreat
namespace Go.Proofs.YtcljhgildbcdmaaGreat
open Go.RowKit
structure PS where
 f : Bool
 i : Nat
 v : Int
def ps0 : PS := ⟨false, 0, 0⟩
def pstep (ok : Nat -> Bool) (dl : Nat -> Int) (s : PS) (k : Nat) : PS := if ok k = true /\ (s.f = false ∨ dl k < s.v) then ⟨true, k, dl k⟩ else s
def pst (ok : Nat -> Bool) (dl : Nat -> Int) : Nat -> PS
 | 0 => ps0
 | k + 1 => pstep ok dl (pst ok dl k) k
theorem pst_succ (ok : Nat -> Bool) (dl : Nat -> Int) (k : Nat) : pst ok dl (k + 1) = pstep ok dl (pst ok dl k) k := rfl
theorem pstep_new {ok : Nat -> Bool} {dl : Nat -> Int} {s : PS} {k : Nat} (h1 : ok k = true) (h2 : s.f = false) : pstep ok dl s k = ⟨true, k, dl k⟩ := if_pos ⟨h1, .inl h2⟩
theorem pstep_yes {ok : Nat -> Bool} {dl : Nat -> Int} {s : PS} {k : Nat} (h1 : ok k = true) (h2 : dl k < s.v) : pstep ok dl s k = ⟨true, k, dl k⟩ := if_pos ⟨h1, .inr h2⟩
theorem pstep_no1 {ok : Nat -> Bool} {dl : Nat -> Int} {s : PS} {k : Nat} (h1 : ok k = false) : pstep ok dl s k = s := if_neg fun h => by have := h.1; rw [h1] at this; cases this
theorem pstep_no2 {ok : Nat -> Bool} {dl : Nat -> Int} {s : PS} {k : Nat} (h1 : s.f = true) (h2 : ¬ dl k < s.v) : pstep ok dl s k = s := if_neg fun h => by
 rcases h.2 with h | h
 · rw [h1] at h; cases h
 · exact h2 h
theorem pst_none {ok : Nat -> Bool} {dl : Nat -> Int} (h : ∀ k, ok k = false) : ∀ m, pst ok dl m = ps0
 | 0 => rfl
 | m + 1 => by rw [pst_succ, pst_none h m, pstep_no1 (h m)]
theorem pst_made {ok : Nat -> Bool} {dl : Nat -> Int} : ∀ m, (pst ok dl m).f = true -> ok (pst ok dl m).i = true /\ dl (pst ok dl m).i = (pst ok dl m).v /\ (pst ok dl m).i < m
 | 0 => fun h => by cases h
 | m + 1 => fun h => by
   rw [pst_succ] at h ⊢
   unfold pstep at h ⊢
   split
   · rename_i hc
     exact ⟨hc.1, rfl, Nat.lt_succ_self m⟩
   · rename_i hc
     rw [if_neg hc] at h
     obtain ⟨h1, h2, h3⟩ := pst_made m h
     exact ⟨h1, h2, by omega⟩
theorem pst_zero {ok : Nat -> Bool} {dl : Nat -> Int} : ∀ m, (pst ok dl m).f = false -> pst ok dl m = ps0
 | 0 => fun _ => rfl
 | m + 1 => fun h => by
   rw [pst_succ] at h ⊢
   unfold pstep at h ⊢
   split
   · rename_i hc
     rw [if_pos hc] at h
     cases h
   · rename_i hc
     rw [if_neg hc] at h
     exact pst_zero m h
theorem pst_least {ok : Nat -> Bool} {dl : Nat -> Int} : ∀ m k, k < m -> ok k = true -> (pst ok dl m).f = true /\ ((pst ok dl m).v < dl k ∨ ((pst ok dl m).v = dl k /\ (pst ok dl m).i <= k))
 | 0, k, h, _ => by omega
 | m + 1, k, h, hk => by
   rw [pst_succ]
   unfold pstep
   by_cases e : k = m
   · subst e
     split
     · exact ⟨rfl, .inr ⟨rfl, Nat.le_refl _⟩⟩
     · rename_i hc
       have hf : (pst ok dl k).f = true := by
         cases hf : (pst ok dl k).f
         · exact absurd ⟨hk, .inl hf⟩ hc
         · rfl
       have hv : ¬ dl k < (pst ok dl k).v := fun x => hc ⟨hk, .inr x⟩
       have hi := (pst_made k hf).2.2
       exact ⟨hf, by omega⟩
   · obtain ⟨h1, h2⟩ := pst_least (ok := ok) (dl := dl) m k (by omega) hk
     split
     · rename_i hc
       have hv : dl m < (pst ok dl m).v := by
         rcases hc.2 with x | x
         · rw [h1] at x; cases x
         · exact x
       exact ⟨rfl, .inl (by show dl m < _; omega)⟩
     · exact ⟨h1, h2⟩
end Go.Proofs.YtcljhgildbcdmaaGreat