import Derived.Test.YtfpegaldloadaaaGreatPack2
import Derived.Test.YtfpegaldloadaaaGreatPack3
import Derived.Test.YtfpegaldloadaaaGreatPack11
import Derived.Test.YtfpegaldloadaaaGreatPack14
import Derived.Test.YtfpegaldloadaaaGreatDescAt
import Derived.Deep.RegionHeld3
import Derived.Deep.CutRange
namespace Go.Proofs.YtfpegaldloadaaaGreat
open Go.RowKit
set_option maxRecDepth 10000 in
set_option maxHeartbeats 8000000 in
theorem lawDescended (n fine st9 : Int) (a ao av ra la : Option Addr) (cap ko co kv cv rc lc : Nat) (zs os vs L : List Int) (R : List RT) (w : World) (hA : IntsAt w a zs) (hO : IntsAt w ao os) (hV : IntsAt w av vs) (hR : RoutesAt w ra R) (hL : IntsAt w la L) (hlo : os.length = ko * 6) (hlv : vs.length = kv * 5) (hlt : zs.length <= 9223372036854775807) (hko : ko <= 9223372036854775807) (hkv : kv <= 9223372036854775807) (hRn : R.length <= 9223372036854775807) (hRi : ∀ r ∈ R, r.ids.length <= 9223372036854775807) (hLn : L.length <= 9223372036854775807) (hwl : ∀ x ∈ L, (Lit.int .i64 x).wf = true) :
   Calls Tryz.prog 5 #[.agg #[Value.int .i64 n, Value.slice a zs.length cap, Value.slice ao ko co, Value.slice av kv cv, Value.int .i64 fine], .agg #[Value.slice ra R.length rc, Value.slice la L.length lc], .int .i64 st9] w fun e w' => e = .returned (.bool true) /\ Below w.heap.size w w' := by
 have HA : Hid (IntsAt w a zs) := hA
 have HO : Hid (IntsAt w ao os) := hO
 have HV : Hid (IntsAt w av vs) := hV
 have HRT : Hid (RoutesAt w ra R) := hR
 have HL : Hid (IntsAt w la L) := hL
 have HLO : Hid _ := hlo
 have HLV : Hid _ := hlv
 have HWL : Hid (∀ x ∈ L, (Lit.int .i64 x).wf = true) := hwl
 have HRI : Hid (∀ r ∈ R, r.ids.length <= 9223372036854775807) := hRi
 clear hA hO hV hR hL hlo hlv hwl hRi
 have B0 : Hid (LPB w ((w.alloc (.cells #[Value.int .i64 n, Value.slice a zs.length cap, Value.slice ao ko co, Value.slice av kv cv, Value.int .i64 fine] 28)).alloc (.cells #[Value.slice ra R.length rc, Value.slice la L.length lc] 31)) _ _) := LPB.new w _ _
 by_cases hc : ¬ (zs.length + ko + kv <= 1048576)
 · have HS : Hid (szV 1048576 zs.length ko kv = -1) := szV_neg hc
   go_enter Tryz.func5, Tryz.ntmps5
   obtain ⟨e0, e1, e2, e3, e4, e5, e6⟩ := B0.out.cells
   go_wp2_with fail
   clear e0 e1 e2 e3 e4 e5 e6
   refine (szCase_any n fine 1048576 a ao av zs.length cap ko co kv cv _ (by omega) (by omega) hlt hko hkv).mono ?_
   rintro e w1 ⟨rfl, hb⟩
   rw [HS.out]
   have B1 : Hid (LPB w w1 _ _) := B0.out.below hb
   clear hb B0
   go_wp2
   go_ret
   exact ⟨rfl, B1.out.1⟩
 have hc := Decidable.not_not.1 hc
 have HSZ : Hid (szV 1048576 zs.length ko kv = 1048576 - zs.length - ko - kv) := szV_pos (by omega)
 obtain ⟨l1, HL1⟩ : ∃ l : Int, Hid ((1048576 - zs.length - ko - kv : Int) = l) := ⟨_, rfl⟩
 have hl1 : 0 <= l1 /\ l1 <= 1048576 := by have := HL1.out; omega
 rw [HL1.out] at HSZ
 have hs1 : zs.length <= 1048576 := by omega
 have hs2 : ko <= 1048576 := by omega
 have hs3 : kv <= 1048576 := by omega
 obtain ⟨x, HX⟩ : ∃ x, Hid (szPl R L.length l1 = x) := ⟨_, rfl⟩
 have HSM : Hid (0 <= x -> R.length <= 1048576 /\ (∀ r ∈ R, r.ids.length <= 1048576) /\ L.length <= 1048576 /\ (allTo R R.length).length <= 1048576) := fun h => szPl_small hl1.1 hl1.2 (by rw [HX.out]; exact h)
 have hbd := dc_bd st9 n fine zs os vs ko kv R L
 obtain ⟨GF, HGF⟩ : ∃ v, Hid (dcN st9 n fine zs os vs ko kv R L = v) := ⟨_, rfl⟩
 obtain ⟨GR, HGR⟩ : ∃ v, Hid (dcR st9 n fine zs os vs ko kv R L = v) := ⟨_, rfl⟩
 obtain ⟨GL, HGL⟩ : ∃ v, Hid (dcL st9 n fine zs os vs ko kv R L = v) := ⟨_, rfl⟩
 rw [HGR.out, HGL.out] at hbd
 obtain ⟨hb1, hb2, hb3⟩ := hbd
 have HBI : Hid (∀ r ∈ GR, r.ids ≠ [] /\ r.ids.length <= 12) := hb1
 obtain ⟨nR, HNR⟩ : ∃ v, Hid (GR.length = v) := ⟨_, rfl⟩
 obtain ⟨nL, HNL⟩ : ∃ v, Hid (GL.length = v) := ⟨_, rfl⟩
 rw [HNR.out] at hb2
 rw [HNL.out] at hb3
 clear hb1
 clear hc
 obtain ⟨hl10, hl11⟩ := hl1
 go_enter Tryz.func5, Tryz.ntmps5
 obtain ⟨e0, e1, e2, e3, e4, e5, e6⟩ := B0.out.cells
 go_wp2_with fail
 clear e0 e1 e2 e3 e4 e5 e6
 refine (szCase_any n fine 1048576 a ao av zs.length cap ko co kv cv _ (by omega) (by omega) (by omega) (by omega) (by omega)).mono ?_
 rintro e w1 ⟨rfl, hb⟩
 rw [HSZ.out]
 have B1 : Hid (LPB w w1 _ _) := B0.out.below hb
 clear hb B0
 obtain ⟨e0, e1, e2, e3, e4, e5, e6⟩ := B1.out.cells
 go_wp2_with fail
 clear e0 e1 e2 e3 e4 e5 e6
 refine (szPlan_any ra la rc L.length lc R l1 _ (HRT.out.below B1.out.b) hl10 hl11 hRn hLn HRI.out).mono ?_
 rintro e w2 ⟨rfl, hb⟩
 rw [HX.out]
 have B2 : Hid (LPB w w2 _ _) := B1.out.below hb
 clear hb B1
 by_cases hx : x < 0
 · go_wp2
   go_ret
   exact ⟨rfl, B2.out.1⟩
 obtain ⟨hs4, hs5, hs6, hs7⟩ := HSM.out (by omega)
 have HS5 : Hid (∀ r ∈ R, r.ids.length <= 1048576) := hs5
 have HS7 : Hid ((allTo R R.length).length <= 1048576) := hs7
 clear HSM hs5 hs7
 obtain ⟨e0, e1, e2, e3, e4, e5, e6⟩ := B2.out.cells
 go_upto_region 8 with fail
 clear e0 e1 e2 e3 e4 e5 e6
 go_cut [8, 9] from 29 to 37 (fun s8 s9 wx => ∃ (kw : Nat) (wra wla : Option Addr) (wrc wlc : Nat) (SW : List RT), s8 = .pointer (some ⟨kw, 0, none⟩) /\ s9 = .int .i64 GF /\ LPB w wx #[Value.int .i64 n, Value.slice a zs.length cap, Value.slice ao ko co, Value.slice av kv cv, Value.int .i64 fine] #[Value.slice ra R.length rc, Value.slice la L.length lc] /\ wx.heap[kw]? = some (.cells #[.slice wra nR wrc, .slice wla nL wlc] 36 (0, 0)) /\ PO wx w.heap.size (.slice wra nR wrc) SW (.slice wla nL wlc) GL /\ SW.length = nR /\ SW.map RT.key = GR.map RT.key)
 case first =>
   go_wp2_with fail
   refine wp_region_held_drew (S := (fun W => W.cell? ⟨w.heap.size, 0, none⟩ = some (.int .i64 n) /\ W.cell? ⟨w.heap.size, 1, none⟩ = some (.slice a zs.length cap) /\ W.cell? ⟨w.heap.size, 2, none⟩ = some (.slice ao ko co) /\ W.cell? ⟨w.heap.size, 3, none⟩ = some (.slice av kv cv) /\ W.cell? ⟨w.heap.size, 4, none⟩ = some (.int .i64 fine) /\ W.cell? ⟨w.heap.size + 1, 0, none⟩ = some (.slice ra R.length rc) /\ W.cell? ⟨w.heap.size + 1, 1, none⟩ = some (.slice la L.length lc))) (by kernel_rfl) ?_ (fun hHeld => ?_)
   · exact lp7 (B2.out.drew)
   have B_d : Hid (LPB w w2.drew _ _) := B2.out.below ((Below.refl w2.heap.size w2).drew)
   generalize w2.drew = wd at *
   refine tkH 0 hHeld ?_
   refine tkH 2 hHeld ?_
   refine tkH 4 hHeld ?_
   refine wpAnyH_ready (rs := [1, 9]) (by kernel_rfl) (by simp) ?_
   refine AllReadyH.cons rfl (fun K hK => ?_) ?_
   · skip
     go_simp
     refine (toCase_any n fine a ao av cap ko co kv cv zs os vs wd (HA.out.below (B_d.out).b) (HO.out.below (B_d.out).b) (HV.out.below (B_d.out).b) HLO.out HLV.out hs1 hs2 hs3).mono ?_
     rintro e w3 ⟨g3, go3, gv3, _, _, _, rfl, hb, hg⟩
     have B_w3 : Hid (LPB w w3 _ _) := B_d.out.below hb
     have C_w3 : Hid (CaseAt w3 g3 go3 gv3 zs os vs) := hg
     clear hb hg
     (try go_wp2_with fail)
     refine hK.out _ _ ?_ (fun hHeld => ?_)
     · exact lp7 (B_w3.out)
     clear hK K
     (try simp only [Act.put, List.setIfInBounds_toArray, List.set_cons_zero, List.set_cons_succ])
     refine wpAnyH_ready (rs := [3, 9]) (by kernel_rfl) (by simp) ?_
     refine AllReadyH.cons rfl (fun K hK => ?_) ?_
     · skip
       go_simp
       refine (toPlan_at ra la rc lc R L w3 (HRT.out.below (B_w3.out).b) (HL.out.below (B_w3.out).b) hs4 HS5.out hs6).mono ?_
       rintro e w4 ⟨gr4, gl4, S4, rfl, hb, hg⟩
       have B_w4 : Hid (LPB w w4 _ _) := B_w3.out.below hb
       have C_w4 : Hid (CaseAt w4 g3 go3 gv3 zs os vs) := C_w3.out.below hb
       have P_w4 : Hid (PlanAt w4 gr4 gl4 S4 R L) := hg
       clear hb hg
       (try go_wp2_with fail)
       refine hK.out _ _ ?_ (fun hHeld => ?_)
       · exact lp7 (B_w4.out)
       clear hK K
       (try simp only [Act.put, List.setIfInBounds_toArray, List.set_cons_zero, List.set_cons_succ])
       refine wpAnyH_ready (rs := [5, 9]) (by kernel_rfl) (by simp) ?_
       refine AllReadyH.cons rfl (fun K hK => ?_) ?_
       · skip
         go_simp
         have IG := specDescended_at st9 n fine _ _ _ zs.length ko ko kv kv gr4 gl4 zs os vs L S4 R w4 C_w4.out.t C_w4.out.o C_w4.out.v P_w4.out HLO.out HLV.out (by omega) (by omega) hs4 HS5.out hs6 HS7.out
         rw [HGF.out, HGR.out, HGL.out] at IG
         refine IG.mono ?_
         rintro e w5 ⟨wra, wrn, wrc, wla, wln, wlc, SW, rfl, hb, hsl, hll9, hk9, hpo⟩
         have B_w5 : Hid (LPB w w5 _ _) := B_w4.out.below hb
         have HSWN : Hid (SW.length = wrn) := hsl
         have HSWL : Hid (GL.length = wln) := hll9
         have HSWK : Hid (SW.map RT.key = GR.map RT.key) := hk9
         have R_w5 : Hid (PO w5 w.heap.size (.slice wra wrn wrc) SW (.slice wla wln wlc) GL) := hpo.base (B_w4.out).b.size
         clear hsl hll9 hk9 hpo
         clear hb IG
         (try go_wp2_with fail)
         refine hK.out _ _ ?_ (fun hHeld => ?_)
         · exact lp7 (B_w5.out)
         clear hK K
         (try simp only [Act.put, List.setIfInBounds_toArray, List.set_cons_zero, List.set_cons_succ])
         refine tkH 6 hHeld ?_
         refine tkH 7 hHeld ?_
         refine tkH 8 hHeld ?_
         refine wpAnyH_ready (rs := [9]) (by kernel_rfl) (by simp) ?_
         refine AllReadyH.cons rfl (fun K hK => ?_) AllReadyH.nil
         have B_z : Hid (LPB w (w5.alloc (.cells #[.slice none 0 0, .slice none 0 0] 36)) _ _) := B_w5.out.below ((Below.refl w5.heap.size w5).alloc (Nat.le_refl _) (.cells #[.slice none 0 0, .slice none 0 0] 36))
         have R_z : Hid (PO (w5.alloc (.cells #[.slice none 0 0, .slice none 0 0] 36)) w.heap.size (.slice wra wrn wrc) SW (.slice wla wln wlc) GL) := R_w5.out.below ((Below.refl w5.heap.size w5).alloc (Nat.le_refl _) (.cells #[.slice none 0 0, .slice none 0 0] 36))
         have VZ0 : Hid ((w5.alloc (.cells #[.slice none 0 0, .slice none 0 0] 36)).heap[w5.heap.size]? = some (.cells #[.slice none 0 0, .slice none 0 0] 36 (0, 0))) := heap_alloc_new _ _
         have HZL : Hid (w.heap.size + 2 <= w5.heap.size) := row_lt (B_w5.out).2.2
         go_simp
         refine hK.out _ _ ?_ (fun hHeld => ?_)
         · exact lp7 (B_z.out)
         clear hK K
         (try simp only [Act.put, List.setIfInBounds_toArray, List.set_cons_zero, List.set_cons_succ])
         obtain ⟨kw, HKZ⟩ : ∃ v, Hid (w5.heap.size = v) := ⟨_, rfl⟩
         rw [HKZ.out] at VZ0 HZL ⊢
         generalize (w5.alloc (.cells #[.slice none 0 0, .slice none 0 0] 36)) = wz at *
         obtain ⟨z0, z1⟩ := cells2 VZ0.out
         have zf := fun i => frozen_of_row _ _ i _ _ VZ0.out
         refine wpAnyH_ready (rs := [10]) (by kernel_rfl) (by simp) ?_
         refine AllReadyH.cons rfl (fun K hK => ?_) AllReadyH.nil
         have s1 := heap_setCell_same wz kw 0 _ _ (Value.slice wra wrn wrc) VZ0.out
         have V6 : Hid (((wz.setCell ⟨kw, 0, none⟩ (.slice wra wrn wrc)).setCell ⟨kw, 1, none⟩ (.slice wla wln wlc)).heap[kw]? = some (.cells #[.slice wra wrn wrc, .slice wla wln wlc] 36 (0, 0))) := by
           have s2 := heap_setCell_same _ kw 1 _ _ (Value.slice wla wln wlc) s1
           simp at s2
           exact s2
         have B6 : Hid (LPB w ((wz.setCell ⟨kw, 0, none⟩ (.slice wra wrn wrc)).setCell ⟨kw, 1, none⟩ (.slice wla wln wlc)) _ _) := ⟨((B_z.out).b.setCell (by have := HZL.out; simp; omega) _).setCell (by have := HZL.out; simp; omega) _, row_set' (row_set' (B_z.out).2.1 (by have := HZL.out; omega)) (by have := HZL.out; omega), row_set' (row_set' (B_z.out).2.2 (by have := HZL.out; omega)) (by have := HZL.out; omega)⟩
         have P6 : Hid (PO ((wz.setCell ⟨kw, 0, none⟩ (.slice wra wrn wrc)).setCell ⟨kw, 1, none⟩ (.slice wla wln wlc)) w.heap.size (.slice wra wrn wrc) SW (.slice wla wln wlc) GL) := (R_z.out.box VZ0.out).box s1
         clear s1
         go_simp
         refine hK.out _ _ ?_ (fun hHeld => ?_)
         · exact lp7 B6.out
         clear hK K
         generalize ((wz.setCell ⟨kw, 0, none⟩ (.slice wra wrn wrc)).setCell ⟨kw, 1, none⟩ (.slice wla wln wlc)) = w6 at *
         refine tkH 11 hHeld ?_
         refine wpAnyH_done (by kernel_rfl) ?_ _
         clear hHeld
         have e1 : nR = wrn := by rw [<- HSWN.out, <- HNR.out]; have := congrArg List.length HSWK.out; simpa using this.symm
         have e2 : nL = wln := HNL.out.symm.trans HSWL.out
         subst e1 e2
         (try go_wp2_with fail)
         go_meet
         exact ⟨kw, wra, wla, wrc, wlc, SW, rfl, rfl, B6.out, V6.out, P6.out, HSWN.out, HSWK.out⟩
       refine AllReadyH.cons rfl (fun K hK => ?_) AllReadyH.nil
       have B_z : Hid (LPB w (w4.alloc (.cells #[.slice none 0 0, .slice none 0 0] 36)) _ _) := B_w4.out.below ((Below.refl w4.heap.size w4).alloc (Nat.le_refl _) (.cells #[.slice none 0 0, .slice none 0 0] 36))
       have C_z : Hid (CaseAt (w4.alloc (.cells #[.slice none 0 0, .slice none 0 0] 36)) g3 go3 gv3 zs os vs) := C_w4.out.below ((Below.refl w4.heap.size w4).alloc (Nat.le_refl _) (.cells #[.slice none 0 0, .slice none 0 0] 36))
       have P_z : Hid (PlanAt (w4.alloc (.cells #[.slice none 0 0, .slice none 0 0] 36)) gr4 gl4 S4 R L) := P_w4.out.below ((Below.refl w4.heap.size w4).alloc (Nat.le_refl _) (.cells #[.slice none 0 0, .slice none 0 0] 36))
       have VZ0 : Hid ((w4.alloc (.cells #[.slice none 0 0, .slice none 0 0] 36)).heap[w4.heap.size]? = some (.cells #[.slice none 0 0, .slice none 0 0] 36 (0, 0))) := heap_alloc_new _ _
       have HZL : Hid (w.heap.size + 2 <= w4.heap.size) := row_lt (B_w4.out).2.2
       go_simp
       refine hK.out _ _ ?_ (fun hHeld => ?_)
       · exact lp7 (B_z.out)
       clear hK K
       (try simp only [Act.put, List.setIfInBounds_toArray, List.set_cons_zero, List.set_cons_succ])
       obtain ⟨kw, HKZ⟩ : ∃ v, Hid (w4.heap.size = v) := ⟨_, rfl⟩
       rw [HKZ.out] at VZ0 HZL ⊢
       generalize (w4.alloc (.cells #[.slice none 0 0, .slice none 0 0] 36)) = wz at *
       obtain ⟨z0, z1⟩ := cells2 VZ0.out
       have zf := fun i => frozen_of_row _ _ i _ _ VZ0.out
       refine wpAnyH_ready (rs := [5]) (by kernel_rfl) (by simp) ?_
       refine AllReadyH.cons rfl (fun K hK => ?_) AllReadyH.nil
       go_simp
       have IG := specDescended_at st9 n fine _ _ _ zs.length ko ko kv kv gr4 gl4 zs os vs L S4 R wz C_z.out.t C_z.out.o C_z.out.v P_z.out HLO.out HLV.out (by omega) (by omega) hs4 HS5.out hs6 HS7.out
       rw [HGF.out, HGR.out, HGL.out] at IG
       refine IG.mono ?_
       rintro e w5 ⟨wra, wrn, wrc, wla, wln, wlc, SW, rfl, hb, hsl, hll9, hk9, hpo⟩
       have B_w5 : Hid (LPB w w5 _ _) := B_z.out.below hb
       have VZ_w5 : Hid (w5.heap[kw]? = some (.cells #[.slice none 0 0, .slice none 0 0] 36 (0, 0))) := below_row hb (row_lt VZ0.out) VZ0.out
       obtain ⟨z0, z1⟩ := cells2 VZ_w5.out
       have zf := fun i => frozen_of_row _ _ i _ _ VZ_w5.out
       have HSWN : Hid (SW.length = wrn) := hsl
       have HSWL : Hid (GL.length = wln) := hll9
       have HSWK : Hid (SW.map RT.key = GR.map RT.key) := hk9
       have R_w5 : Hid (PO w5 w.heap.size (.slice wra wrn wrc) SW (.slice wla wln wlc) GL) := hpo.base (B_z.out).b.size
       clear hsl hll9 hk9 hpo
       clear hb IG
       (try go_wp2_with fail)
       refine hK.out _ _ ?_ (fun hHeld => ?_)
       · exact lp7 (B_w5.out)
       clear hK K
       (try simp only [Act.put, List.setIfInBounds_toArray, List.set_cons_zero, List.set_cons_succ])
       refine tkH 6 hHeld ?_
       refine tkH 7 hHeld ?_
       refine tkH 8 hHeld ?_
       refine wpAnyH_ready (rs := [10]) (by kernel_rfl) (by simp) ?_
       refine AllReadyH.cons rfl (fun K hK => ?_) AllReadyH.nil
       have s1 := heap_setCell_same w5 kw 0 _ _ (Value.slice wra wrn wrc) VZ_w5.out
       have V6 : Hid (((w5.setCell ⟨kw, 0, none⟩ (.slice wra wrn wrc)).setCell ⟨kw, 1, none⟩ (.slice wla wln wlc)).heap[kw]? = some (.cells #[.slice wra wrn wrc, .slice wla wln wlc] 36 (0, 0))) := by
         have s2 := heap_setCell_same _ kw 1 _ _ (Value.slice wla wln wlc) s1
         simp at s2
         exact s2
       have B6 : Hid (LPB w ((w5.setCell ⟨kw, 0, none⟩ (.slice wra wrn wrc)).setCell ⟨kw, 1, none⟩ (.slice wla wln wlc)) _ _) := ⟨((B_w5.out).b.setCell (by have := HZL.out; simp; omega) _).setCell (by have := HZL.out; simp; omega) _, row_set' (row_set' (B_w5.out).2.1 (by have := HZL.out; omega)) (by have := HZL.out; omega), row_set' (row_set' (B_w5.out).2.2 (by have := HZL.out; omega)) (by have := HZL.out; omega)⟩
       have P6 : Hid (PO ((w5.setCell ⟨kw, 0, none⟩ (.slice wra wrn wrc)).setCell ⟨kw, 1, none⟩ (.slice wla wln wlc)) w.heap.size (.slice wra wrn wrc) SW (.slice wla wln wlc) GL) := (R_w5.out.box VZ_w5.out).box s1
       clear s1
       go_simp
       refine hK.out _ _ ?_ (fun hHeld => ?_)
       · exact lp7 B6.out
       clear hK K
       generalize ((w5.setCell ⟨kw, 0, none⟩ (.slice wra wrn wrc)).setCell ⟨kw, 1, none⟩ (.slice wla wln wlc)) = w6 at *
       refine tkH 11 hHeld ?_
       refine wpAnyH_done (by kernel_rfl) ?_ _
       clear hHeld
       have e1 : nR = wrn := by rw [<- HSWN.out, <- HNR.out]; have := congrArg List.length HSWK.out; simpa using this.symm
       have e2 : nL = wln := HNL.out.symm.trans HSWL.out
       subst e1 e2
       (try go_wp2_with fail)
       go_meet
       exact ⟨kw, wra, wla, wrc, wlc, SW, rfl, rfl, B6.out, V6.out, P6.out, HSWN.out, HSWK.out⟩
     refine AllReadyH.cons rfl (fun K hK => ?_) AllReadyH.nil
     have B_z : Hid (LPB w (w3.alloc (.cells #[.slice none 0 0, .slice none 0 0] 36)) _ _) := B_w3.out.below ((Below.refl w3.heap.size w3).alloc (Nat.le_refl _) (.cells #[.slice none 0 0, .slice none 0 0] 36))
     have C_z : Hid (CaseAt (w3.alloc (.cells #[.slice none 0 0, .slice none 0 0] 36)) g3 go3 gv3 zs os vs) := C_w3.out.below ((Below.refl w3.heap.size w3).alloc (Nat.le_refl _) (.cells #[.slice none 0 0, .slice none 0 0] 36))
     have VZ0 : Hid ((w3.alloc (.cells #[.slice none 0 0, .slice none 0 0] 36)).heap[w3.heap.size]? = some (.cells #[.slice none 0 0, .slice none 0 0] 36 (0, 0))) := heap_alloc_new _ _
     have HZL : Hid (w.heap.size + 2 <= w3.heap.size) := row_lt (B_w3.out).2.2
     go_simp
     refine hK.out _ _ ?_ (fun hHeld => ?_)
     · exact lp7 (B_z.out)
     clear hK K
     (try simp only [Act.put, List.setIfInBounds_toArray, List.set_cons_zero, List.set_cons_succ])
     obtain ⟨kw, HKZ⟩ : ∃ v, Hid (w3.heap.size = v) := ⟨_, rfl⟩
     rw [HKZ.out] at VZ0 HZL ⊢
     generalize (w3.alloc (.cells #[.slice none 0 0, .slice none 0 0] 36)) = wz at *
     obtain ⟨z0, z1⟩ := cells2 VZ0.out
     have zf := fun i => frozen_of_row _ _ i _ _ VZ0.out
     refine wpAnyH_ready (rs := [3]) (by kernel_rfl) (by simp) ?_
     refine AllReadyH.cons rfl (fun K hK => ?_) AllReadyH.nil
     go_simp
     refine (toPlan_at ra la rc lc R L wz (HRT.out.below (B_z.out).b) (HL.out.below (B_z.out).b) hs4 HS5.out hs6).mono ?_
     rintro e w4 ⟨gr4, gl4, S4, rfl, hb, hg⟩
     have B_w4 : Hid (LPB w w4 _ _) := B_z.out.below hb
     have C_w4 : Hid (CaseAt w4 g3 go3 gv3 zs os vs) := C_z.out.below hb
     have VZ_w4 : Hid (w4.heap[kw]? = some (.cells #[.slice none 0 0, .slice none 0 0] 36 (0, 0))) := below_row hb (row_lt VZ0.out) VZ0.out
     obtain ⟨z0, z1⟩ := cells2 VZ_w4.out
     have zf := fun i => frozen_of_row _ _ i _ _ VZ_w4.out
     have P_w4 : Hid (PlanAt w4 gr4 gl4 S4 R L) := hg
     clear hb hg
     (try go_wp2_with fail)
     refine hK.out _ _ ?_ (fun hHeld => ?_)
     · exact lp7 (B_w4.out)
     clear hK K
     (try simp only [Act.put, List.setIfInBounds_toArray, List.set_cons_zero, List.set_cons_succ])
     refine wpAnyH_ready (rs := [5]) (by kernel_rfl) (by simp) ?_
     refine AllReadyH.cons rfl (fun K hK => ?_) AllReadyH.nil
     go_simp
     have IG := specDescended_at st9 n fine _ _ _ zs.length ko ko kv kv gr4 gl4 zs os vs L S4 R w4 C_w4.out.t C_w4.out.o C_w4.out.v P_w4.out HLO.out HLV.out (by omega) (by omega) hs4 HS5.out hs6 HS7.out
     rw [HGF.out, HGR.out, HGL.out] at IG
     refine IG.mono ?_
     rintro e w5 ⟨wra, wrn, wrc, wla, wln, wlc, SW, rfl, hb, hsl, hll9, hk9, hpo⟩
     have B_w5 : Hid (LPB w w5 _ _) := B_w4.out.below hb
     have VZ_w5 : Hid (w5.heap[kw]? = some (.cells #[.slice none 0 0, .slice none 0 0] 36 (0, 0))) := below_row hb (row_lt VZ_w4.out) VZ_w4.out
     obtain ⟨z0, z1⟩ := cells2 VZ_w5.out
     have zf := fun i => frozen_of_row _ _ i _ _ VZ_w5.out
     have HSWN : Hid (SW.length = wrn) := hsl
     have HSWL : Hid (GL.length = wln) := hll9
     have HSWK : Hid (SW.map RT.key = GR.map RT.key) := hk9
     have R_w5 : Hid (PO w5 w.heap.size (.slice wra wrn wrc) SW (.slice wla wln wlc) GL) := hpo.base (B_w4.out).b.size
     clear hsl hll9 hk9 hpo
     clear hb IG
     (try go_wp2_with fail)
     refine hK.out _ _ ?_ (fun hHeld => ?_)
     · exact lp7 (B_w5.out)
     clear hK K
     (try simp only [Act.put, List.setIfInBounds_toArray, List.set_cons_zero, List.set_cons_succ])
     refine tkH 6 hHeld ?_
     refine tkH 7 hHeld ?_
     refine tkH 8 hHeld ?_
     refine wpAnyH_ready (rs := [10]) (by kernel_rfl) (by simp) ?_
     refine AllReadyH.cons rfl (fun K hK => ?_) AllReadyH.nil
     have s1 := heap_setCell_same w5 kw 0 _ _ (Value.slice wra wrn wrc) VZ_w5.out
     have V6 : Hid (((w5.setCell ⟨kw, 0, none⟩ (.slice wra wrn wrc)).setCell ⟨kw, 1, none⟩ (.slice wla wln wlc)).heap[kw]? = some (.cells #[.slice wra wrn wrc, .slice wla wln wlc] 36 (0, 0))) := by
       have s2 := heap_setCell_same _ kw 1 _ _ (Value.slice wla wln wlc) s1
       simp at s2
       exact s2
     have B6 : Hid (LPB w ((w5.setCell ⟨kw, 0, none⟩ (.slice wra wrn wrc)).setCell ⟨kw, 1, none⟩ (.slice wla wln wlc)) _ _) := ⟨((B_w5.out).b.setCell (by have := HZL.out; simp; omega) _).setCell (by have := HZL.out; simp; omega) _, row_set' (row_set' (B_w5.out).2.1 (by have := HZL.out; omega)) (by have := HZL.out; omega), row_set' (row_set' (B_w5.out).2.2 (by have := HZL.out; omega)) (by have := HZL.out; omega)⟩
     have P6 : Hid (PO ((w5.setCell ⟨kw, 0, none⟩ (.slice wra wrn wrc)).setCell ⟨kw, 1, none⟩ (.slice wla wln wlc)) w.heap.size (.slice wra wrn wrc) SW (.slice wla wln wlc) GL) := (R_w5.out.box VZ_w5.out).box s1
     clear s1
     go_simp
     refine hK.out _ _ ?_ (fun hHeld => ?_)
     · exact lp7 B6.out
     clear hK K
     generalize ((w5.setCell ⟨kw, 0, none⟩ (.slice wra wrn wrc)).setCell ⟨kw, 1, none⟩ (.slice wla wln wlc)) = w6 at *
     refine tkH 11 hHeld ?_
     refine wpAnyH_done (by kernel_rfl) ?_ _
     clear hHeld
     have e1 : nR = wrn := by rw [<- HSWN.out, <- HNR.out]; have := congrArg List.length HSWK.out; simpa using this.symm
     have e2 : nL = wln := HNL.out.symm.trans HSWL.out
     subst e1 e2
     (try go_wp2_with fail)
     go_meet
     exact ⟨kw, wra, wla, wrc, wlc, SW, rfl, rfl, B6.out, V6.out, P6.out, HSWN.out, HSWK.out⟩
   refine AllReadyH.cons rfl (fun K hK => ?_) AllReadyH.nil
   have B_z : Hid (LPB w (wd.alloc (.cells #[.slice none 0 0, .slice none 0 0] 36)) _ _) := B_d.out.below ((Below.refl wd.heap.size wd).alloc (Nat.le_refl _) (.cells #[.slice none 0 0, .slice none 0 0] 36))
   have VZ0 : Hid ((wd.alloc (.cells #[.slice none 0 0, .slice none 0 0] 36)).heap[wd.heap.size]? = some (.cells #[.slice none 0 0, .slice none 0 0] 36 (0, 0))) := heap_alloc_new _ _
   have HZL : Hid (w.heap.size + 2 <= wd.heap.size) := row_lt (B_d.out).2.2
   go_simp
   refine hK.out _ _ ?_ (fun hHeld => ?_)
   · exact lp7 (B_z.out)
   clear hK K
   (try simp only [Act.put, List.setIfInBounds_toArray, List.set_cons_zero, List.set_cons_succ])
   obtain ⟨kw, HKZ⟩ : ∃ v, Hid (wd.heap.size = v) := ⟨_, rfl⟩
   rw [HKZ.out] at VZ0 HZL ⊢
   generalize (wd.alloc (.cells #[.slice none 0 0, .slice none 0 0] 36)) = wz at *
   obtain ⟨z0, z1⟩ := cells2 VZ0.out
   have zf := fun i => frozen_of_row _ _ i _ _ VZ0.out
   refine wpAnyH_ready (rs := [1]) (by kernel_rfl) (by simp) ?_
   refine AllReadyH.cons rfl (fun K hK => ?_) AllReadyH.nil
   go_simp
   refine (toCase_any n fine a ao av cap ko co kv cv zs os vs wz (HA.out.below (B_z.out).b) (HO.out.below (B_z.out).b) (HV.out.below (B_z.out).b) HLO.out HLV.out hs1 hs2 hs3).mono ?_
   rintro e w3 ⟨g3, go3, gv3, _, _, _, rfl, hb, hg⟩
   have B_w3 : Hid (LPB w w3 _ _) := B_z.out.below hb
   have VZ_w3 : Hid (w3.heap[kw]? = some (.cells #[.slice none 0 0, .slice none 0 0] 36 (0, 0))) := below_row hb (row_lt VZ0.out) VZ0.out
   obtain ⟨z0, z1⟩ := cells2 VZ_w3.out
   have zf := fun i => frozen_of_row _ _ i _ _ VZ_w3.out
   have C_w3 : Hid (CaseAt w3 g3 go3 gv3 zs os vs) := hg
   clear hb hg
   (try go_wp2_with fail)
   refine hK.out _ _ ?_ (fun hHeld => ?_)
   · exact lp7 (B_w3.out)
   clear hK K
   (try simp only [Act.put, List.setIfInBounds_toArray, List.set_cons_zero, List.set_cons_succ])
   refine wpAnyH_ready (rs := [3]) (by kernel_rfl) (by simp) ?_
   refine AllReadyH.cons rfl (fun K hK => ?_) AllReadyH.nil
   go_simp
   refine (toPlan_at ra la rc lc R L w3 (HRT.out.below (B_w3.out).b) (HL.out.below (B_w3.out).b) hs4 HS5.out hs6).mono ?_
   rintro e w4 ⟨gr4, gl4, S4, rfl, hb, hg⟩
   have B_w4 : Hid (LPB w w4 _ _) := B_w3.out.below hb
   have C_w4 : Hid (CaseAt w4 g3 go3 gv3 zs os vs) := C_w3.out.below hb
   have VZ_w4 : Hid (w4.heap[kw]? = some (.cells #[.slice none 0 0, .slice none 0 0] 36 (0, 0))) := below_row hb (row_lt VZ_w3.out) VZ_w3.out
   obtain ⟨z0, z1⟩ := cells2 VZ_w4.out
   have zf := fun i => frozen_of_row _ _ i _ _ VZ_w4.out
   have P_w4 : Hid (PlanAt w4 gr4 gl4 S4 R L) := hg
   clear hb hg
   (try go_wp2_with fail)
   refine hK.out _ _ ?_ (fun hHeld => ?_)
   · exact lp7 (B_w4.out)
   clear hK K
   (try simp only [Act.put, List.setIfInBounds_toArray, List.set_cons_zero, List.set_cons_succ])
   refine wpAnyH_ready (rs := [5]) (by kernel_rfl) (by simp) ?_
   refine AllReadyH.cons rfl (fun K hK => ?_) AllReadyH.nil
   go_simp
   have IG := specDescended_at st9 n fine _ _ _ zs.length ko ko kv kv gr4 gl4 zs os vs L S4 R w4 C_w4.out.t C_w4.out.o C_w4.out.v P_w4.out HLO.out HLV.out (by omega) (by omega) hs4 HS5.out hs6 HS7.out
   rw [HGF.out, HGR.out, HGL.out] at IG
   refine IG.mono ?_
   rintro e w5 ⟨wra, wrn, wrc, wla, wln, wlc, SW, rfl, hb, hsl, hll9, hk9, hpo⟩
   have B_w5 : Hid (LPB w w5 _ _) := B_w4.out.below hb
   have VZ_w5 : Hid (w5.heap[kw]? = some (.cells #[.slice none 0 0, .slice none 0 0] 36 (0, 0))) := below_row hb (row_lt VZ_w4.out) VZ_w4.out
   obtain ⟨z0, z1⟩ := cells2 VZ_w5.out
   have zf := fun i => frozen_of_row _ _ i _ _ VZ_w5.out
   have HSWN : Hid (SW.length = wrn) := hsl
   have HSWL : Hid (GL.length = wln) := hll9
   have HSWK : Hid (SW.map RT.key = GR.map RT.key) := hk9
   have R_w5 : Hid (PO w5 w.heap.size (.slice wra wrn wrc) SW (.slice wla wln wlc) GL) := hpo.base (B_w4.out).b.size
   clear hsl hll9 hk9 hpo
   clear hb IG
   (try go_wp2_with fail)
   refine hK.out _ _ ?_ (fun hHeld => ?_)
   · exact lp7 (B_w5.out)
   clear hK K
   (try simp only [Act.put, List.setIfInBounds_toArray, List.set_cons_zero, List.set_cons_succ])
   refine tkH 6 hHeld ?_
   refine tkH 7 hHeld ?_
   refine tkH 8 hHeld ?_
   refine wpAnyH_ready (rs := [10]) (by kernel_rfl) (by simp) ?_
   refine AllReadyH.cons rfl (fun K hK => ?_) AllReadyH.nil
   have s1 := heap_setCell_same w5 kw 0 _ _ (Value.slice wra wrn wrc) VZ_w5.out
   have V6 : Hid (((w5.setCell ⟨kw, 0, none⟩ (.slice wra wrn wrc)).setCell ⟨kw, 1, none⟩ (.slice wla wln wlc)).heap[kw]? = some (.cells #[.slice wra wrn wrc, .slice wla wln wlc] 36 (0, 0))) := by
     have s2 := heap_setCell_same _ kw 1 _ _ (Value.slice wla wln wlc) s1
     simp at s2
     exact s2
   have B6 : Hid (LPB w ((w5.setCell ⟨kw, 0, none⟩ (.slice wra wrn wrc)).setCell ⟨kw, 1, none⟩ (.slice wla wln wlc)) _ _) := ⟨((B_w5.out).b.setCell (by have := HZL.out; simp; omega) _).setCell (by have := HZL.out; simp; omega) _, row_set' (row_set' (B_w5.out).2.1 (by have := HZL.out; omega)) (by have := HZL.out; omega), row_set' (row_set' (B_w5.out).2.2 (by have := HZL.out; omega)) (by have := HZL.out; omega)⟩
   have P6 : Hid (PO ((w5.setCell ⟨kw, 0, none⟩ (.slice wra wrn wrc)).setCell ⟨kw, 1, none⟩ (.slice wla wln wlc)) w.heap.size (.slice wra wrn wrc) SW (.slice wla wln wlc) GL) := (R_w5.out.box VZ_w5.out).box s1
   clear s1
   go_simp
   refine hK.out _ _ ?_ (fun hHeld => ?_)
   · exact lp7 B6.out
   clear hK K
   generalize ((w5.setCell ⟨kw, 0, none⟩ (.slice wra wrn wrc)).setCell ⟨kw, 1, none⟩ (.slice wla wln wlc)) = w6 at *
   refine tkH 11 hHeld ?_
   refine wpAnyH_done (by kernel_rfl) ?_ _
   clear hHeld
   have e1 : nR = wrn := by rw [<- HSWN.out, <- HNR.out]; have := congrArg List.length HSWK.out; simpa using this.symm
   have e2 : nL = wln := HNL.out.symm.trans HSWL.out
   subst e1 e2
   (try go_wp2_with fail)
   go_meet
   exact ⟨kw, wra, wla, wrc, wlc, SW, rfl, rfl, B6.out, V6.out, P6.out, HSWN.out, HSWK.out⟩
 case rest =>
   obtain ⟨kw, wra, wla, wrc, wlc, SW, rfl, rfl, hB, hV, hP, hN, hKy⟩ := hcut
   obtain ⟨w6, hw6⟩ : ∃ v, v = wc := ⟨_, rfl⟩
   subst hw6
   have B6 : Hid (LPB w w6 _ _) := hB
   have V6 : Hid (w6.heap[kw]? = some (.cells #[.slice wra nR wrc, .slice wla nL wlc] 36 (0, 0))) := hV
   have P6 : Hid (PO w6 w.heap.size (.slice wra nR wrc) SW (.slice wla nL wlc) GL) := hP
   have HSWN : Hid (SW.length = nR) := hN
   have HSWK : Hid (SW.map RT.key = GR.map RT.key) := hKy
   clear hB hV hP hN hKy B2
   obtain ⟨e0, e1, e2, e3, e4, e5, e6⟩ := B6.out.cells
   go_wp2_with fail
   clear e0 e1 e2 e3 e4 e5 e6
   refine (toCase_any n fine a ao av cap ko co kv cv zs os vs _ (HA.out.below B6.out.b) (HO.out.below B6.out.b) (HV.out.below B6.out.b) HLO.out HLV.out hs1 hs2 hs3).mono ?_
   rintro e w7 ⟨g7, go7, gv7, hl1, hl2, hl3, rfl, hb, hg⟩
   have L7 : Hid (w6.heap.size <= g7 /\ w6.heap.size <= go7 /\ w6.heap.size <= gv7) := ⟨hl1, hl2, hl3⟩
   have Z7 : Hid (Below w6.heap.size w6 (w7.alloc (Obj.cells #[Value.int .i64 n, Value.slice (some ⟨g7, 0, none⟩) zs.length zs.length, Value.slice (some ⟨go7, 0, none⟩) ko ko, Value.slice (some ⟨gv7, 0, none⟩) kv kv, Value.int .i64 fine] 43))) := hb.alloc hb.size _
   have X7 : Hid ((w7.alloc (Obj.cells #[Value.int .i64 n, Value.slice (some ⟨g7, 0, none⟩) zs.length zs.length, Value.slice (some ⟨go7, 0, none⟩) ko ko, Value.slice (some ⟨gv7, 0, none⟩) kv kv, Value.int .i64 fine] 43)).heap[w7.heap.size]? = _) := heap_alloc_new _ _
   have C7 : Hid (CaseAt (w7.alloc (Obj.cells #[Value.int .i64 n, Value.slice (some ⟨g7, 0, none⟩) zs.length zs.length, Value.slice (some ⟨go7, 0, none⟩) ko ko, Value.slice (some ⟨gv7, 0, none⟩) kv kv, Value.int .i64 fine] 43)) g7 go7 gv7 zs os vs) := hg.below ((Below.refl _ _).alloc (Nat.le_refl _) _)
   have B7 : Hid (LPB w (w7.alloc (Obj.cells #[Value.int .i64 n, Value.slice (some ⟨g7, 0, none⟩) zs.length zs.length, Value.slice (some ⟨go7, 0, none⟩) ko ko, Value.slice (some ⟨gv7, 0, none⟩) kv kv, Value.int .i64 fine] 43)) _ _) := B6.out.below Z7.out
   clear hb hg hl1 hl2 hl3
   obtain ⟨e0, e1, e2, e3, e4, e5, e6⟩ := B7.out.cells
   go_wp2_with fail
   clear e0 e1 e2 e3 e4 e5 e6
   generalize w7.alloc (Obj.cells #[Value.int .i64 n, Value.slice (some ⟨g7, 0, none⟩) zs.length zs.length, Value.slice (some ⟨go7, 0, none⟩) ko ko, Value.slice (some ⟨gv7, 0, none⟩) kv kv, Value.int .i64 fine] 43) = W7 at *
   generalize w7.heap.size = bx at *
   refine (toPlan_any ra la rc lc R L W7 (HRT.out.below B7.out.b) (HL.out.below B7.out.b) hs4 HS5.out hs6).mono ?_
   rintro e w8 ⟨gr8, gl8, S8, rfl, hb, hlg, hgl, h5, h6, h7⟩
   have Z9 : Hid (Below w6.heap.size w6 (w8.alloc (Obj.cells #[Value.slice (some ⟨gr8, 0, none⟩) R.length R.length, Value.slice (some ⟨gl8, 0, none⟩) L.length L.length] 36))) := (Z7.out.trans (hb.mono Z7.out.size)).alloc (Nat.le_trans Z7.out.size hb.size) _
   have X9 : Hid ((w8.alloc (Obj.cells #[Value.slice (some ⟨gr8, 0, none⟩) R.length R.length, Value.slice (some ⟨gl8, 0, none⟩) L.length L.length] 36)).heap[bx]? = _) := (heap_alloc_old _ _ (row_lt (below_row hb (row_lt X7.out) X7.out))).trans (below_row hb (row_lt X7.out) X7.out)
   have Y9 : Hid ((w8.alloc (Obj.cells #[Value.slice (some ⟨gr8, 0, none⟩) R.length R.length, Value.slice (some ⟨gl8, 0, none⟩) L.length L.length] 36)).heap[w8.heap.size]? = _) := heap_alloc_new _ _
   have C9 : Hid (CaseAt (w8.alloc (Obj.cells #[Value.slice (some ⟨gr8, 0, none⟩) R.length R.length, Value.slice (some ⟨gl8, 0, none⟩) L.length L.length] 36)) g7 go7 gv7 zs os vs) := (C7.out.below hb).below ((Below.refl _ _).alloc (Nat.le_refl _) _)
   have P9 : Hid (PlanAt (w8.alloc (Obj.cells #[Value.slice (some ⟨gr8, 0, none⟩) R.length R.length, Value.slice (some ⟨gl8, 0, none⟩) L.length L.length] 36)) gr8 gl8 S8 R L) := PlanAt.below (w := w8) ⟨h5, h6, h7⟩ ((Below.refl _ _).alloc (Nat.le_refl _) _)
   have U8 : Hid (w6.heap.size <= gr8 /\ gr8 < gl8) := ⟨Nat.le_trans Z7.out.size hlg, hgl⟩
   have U7 : Hid (g7 < gr8 /\ go7 < gr8 /\ gv7 < gr8) := ⟨Nat.lt_of_lt_of_le (row_lt C7.out.1) hlg, Nat.lt_of_lt_of_le (row_lt C7.out.2.1) hlg, Nat.lt_of_lt_of_le (row_lt C7.out.2.2) hlg⟩
   clear hb hlg hgl h5 h6 h7 B7 X7 C7 Z7
   obtain ⟨x0, x1, x2, x3, x4⟩ := cells5 X9.out
   obtain ⟨y0, y1⟩ := cells2 Y9.out
   go_wp2_with fail
   clear x0 x1 x2 x3 x4 y0 y1
   generalize w8.alloc (Obj.cells #[Value.slice (some ⟨gr8, 0, none⟩) R.length R.length, Value.slice (some ⟨gl8, 0, none⟩) L.length L.length] 36) = w9 at *
   generalize w8.heap.size = by8 at *
   have U9 : Hid (gr8 < w9.heap.size /\ gl8 < w9.heap.size /\ g7 < w9.heap.size /\ go7 < w9.heap.size /\ gv7 < w9.heap.size /\ w6.heap.size <= w9.heap.size) := ⟨row_lt P9.out.1, row_lt P9.out.2.2, row_lt C9.out.1, row_lt C9.out.2.1, row_lt C9.out.2.2, Z9.out.size⟩
   have PS : Hid (∀ s ∈ S8, ∀ b, s.a = some ⟨b, 0, none⟩ -> w6.heap.size <= b /\ b < w9.heap.size) := fun s hs b e => by
     obtain ⟨g', e1, e2, _, e4⟩ := P9.out.2.1.2 s hs
     rw [e1] at e
     simp only [Option.some.injEq, Addr.mk.injEq, and_true] at e
     have h8 := U8.out
     have h9 := row_lt e4
     omega
   have IG := implDescended_at st9 n fine _ _ _ zs.length ko ko kv kv gr8 gl8 zs os vs L S8 R w9 C9.out.t C9.out.o C9.out.v P9.out HLO.out HLV.out (by omega) (by omega) hs4 HS5.out hs6 HS7.out HWL.out
   rw [HGF.out, HGR.out, HGL.out] at IG
   refine IG.mono ?_
   rintro e w10 ⟨gra, grn, grc, gla, gln, glc, SG, rfl, hb, hsl, hll9, hk9, hpo, hap⟩
   have e1 : grn = nR := by rw [<- hsl, <- HNR.out]; have := congrArg List.length hk9; simpa using this
   have e2 : gln = nL := by rw [<- hll9]; exact HNL.out
   subst e1 e2
   have HSGN : Hid (SG.length = grn) := hsl
   have HSGK : Hid (SG.map RT.key = GR.map RT.key) := hk9
   have HSGA : Hid (Apart SG gla) := hap
   have hA : Below w10.heap.size w10 (w10.alloc (.cells #[.slice gra grn grc, .slice gla gln glc] 36)) := (Below.refl _ _).alloc (Nat.le_refl _) _
   have SZ10 : Hid (w9.heap.size <= w10.heap.size) := hb.size
   have HTP : Hid ((∀ g, gra = some ⟨g, 0, none⟩ -> g < w10.heap.size) /\ (∀ a ∈ SG.map RT.a, ∀ g, a = some ⟨g, 0, none⟩ -> g < w10.heap.size) /\ (∀ g, gla = some ⟨g, 0, none⟩ -> g < w10.heap.size)) := ⟨fun g e => (hpo.r.lt g (by rw [e]; rfl)).2, fun a ha g e => by
     obtain ⟨s, hs, e2⟩ := List.mem_map.1 ha
     exact ((hpo.s s hs).lt g (by rw [e2, e]; rfl)).2, fun g e => (hpo.l.lt g (by rw [e]; rfl)).2⟩
   have hbA := hb.trans (hA.mono hb.size)
   have Z10 : Hid (Below w6.heap.size w6 (w10.alloc (.cells #[.slice gra grn grc, .slice gla gln glc] 36))) := Z9.out.trans (Below.mono hbA Z9.out.size)
   have X10 : Hid ((w10.alloc (.cells #[.slice gra grn grc, .slice gla gln glc] 36)).heap[bx]? = _) := below_row hbA (row_lt X9.out) X9.out
   have Y10 : Hid ((w10.alloc (.cells #[.slice gra grn grc, .slice gla gln glc] 36)).heap[by8]? = _) := below_row hbA (row_lt Y9.out) Y9.out
   have C10 : Hid (CaseAt (w10.alloc (.cells #[.slice gra grn grc, .slice gla gln glc] 36)) g7 go7 gv7 zs os vs) := C9.out.below hbA
   have P10 : Hid (PlanAt (w10.alloc (.cells #[.slice gra grn grc, .slice gla gln glc] 36)) gr8 gl8 S8 R L) := P9.out.below hbA
   have O10x : PO (w10.alloc (.cells #[.slice gra grn grc, .slice gla gln glc] 36)) w9.heap.size (.slice gra grn grc) SG (.slice gla gln glc) GL := hpo.below hA
   have KG10 : Hid ((w10.alloc (.cells #[.slice gra grn grc, .slice gla gln glc] 36)).heap[w10.heap.size]? = some (.cells #[.slice gra grn grc, .slice gla gln glc] 36 (0, 0))) := heap_alloc_new _ _
   have VW10 : Hid ((w10.alloc (.cells #[.slice gra grn grc, .slice gla gln glc] 36)).heap[kw]? = some (.cells #[.slice wra grn wrc, .slice wla gln wlc] 36 (0, 0))) := below_row Z10.out (row_lt V6.out) V6.out
   clear hb hbA hpo hap hsl hll9 hk9 IG hA Z9 X9 Y9 C9 P9
   generalize w9.heap.size = b9 at *
   have O10 : Hid (PO (w10.alloc (.cells #[.slice gra grn grc, .slice gla gln glc] 36)) b9 (.slice gra grn grc) SG (.slice gla gln glc) GL) := O10x
   clear O10x
   obtain ⟨k0, k1⟩ := cells2 KG10.out
   obtain ⟨v0, v1⟩ := cells2 VW10.out
   go_wp2_with fail
   clear k0 k1 v0 v1 VW10
   generalize w10.alloc (.cells #[.slice gra grn grc, .slice gla gln glc] 36) = wA at *
   obtain ⟨kg, HKG⟩ : ∃ v, Hid (w10.heap.size = v) := ⟨_, rfl⟩
   rw [HKG.out] at SZ10 HTP KG10 ⊢
   have W10 : Hid (PO wA w.heap.size (.slice wra grn wrc) SW (.slice wla gln wlc) GL) := P6.out.below Z10.out
   have EQ1 := eqPlan_same gra wra gla wla grc wrc grn glc wlc SG SW GL wA (po_at O10.out HSGN.out) (po_at W10.out HSWN.out) (HSWK.out.trans HSGK.out.symm) HSGN.out (by omega) (fun r hr => by have := (key_in HSGK.out HBI.out r hr).2; omega) (po_l O10.out HNL.out) (po_l W10.out HNL.out) (by rw [HNL.out]; omega)
   rw [HNL.out] at EQ1
   refine EQ1.mono ?_
   rintro e w11 ⟨rfl, hb⟩
   have hff : (GF != GF) = false := by simp
   have SZ11 : Hid (b9 <= w11.heap.size) := Nat.le_trans (Nat.le_trans SZ10.out (Nat.le_of_lt (row_lt KG10.out))) (Below.size hb)
   have Z11 : Hid (Below w6.heap.size w6 w11) := Z10.out.trans (Below.mono hb Z10.out.size)
   have X11 : Hid (w11.heap[bx]? = _) := below_row hb (row_lt X10.out) X10.out
   have Y11 : Hid (w11.heap[by8]? = _) := below_row hb (row_lt Y10.out) Y10.out
   have C11 : Hid (CaseAt w11 g7 go7 gv7 zs os vs) := C10.out.below hb
   have P11 : Hid (PlanAt w11 gr8 gl8 S8 R L) := P10.out.below hb
   have O11 : Hid (PO w11 b9 (.slice gra grn grc) SG (.slice gla gln glc) GL) := O10.out.below hb
   have KG11 : Hid (w11.heap[kg]? = some (.cells #[.slice gra grn grc, .slice gla gln glc] 36 (0, 0))) := below_row hb (row_lt KG10.out) KG10.out
   clear hb EQ1 W10 Z10 X10 Y10 C10 P10 O10 KG10
   have B11 : Hid (LPB w w11 _ _) := B6.out.below Z11.out
   have HB9K : Hid (b9 <= kg) := SZ10.out
   obtain ⟨e0, e1, e2, e3, e4, e5, e6⟩ := B11.out.cells
   obtain ⟨x0, x1, x2, x3, x4⟩ := cells5 X11.out
   go_wp2_with fail
   go_region_held3 (fun W => (W.cell? ⟨w.heap.size, 0, none⟩ = some (.int .i64 n) /\ W.cell? ⟨w.heap.size, 1, none⟩ = some (.slice a zs.length cap) /\ W.cell? ⟨w.heap.size, 2, none⟩ = some (.slice ao ko co) /\ W.cell? ⟨w.heap.size, 3, none⟩ = some (.slice av kv cv) /\ W.cell? ⟨w.heap.size, 4, none⟩ = some (.int .i64 fine) /\ W.cell? ⟨w.heap.size + 1, 0, none⟩ = some (.slice ra R.length rc) /\ W.cell? ⟨w.heap.size + 1, 1, none⟩ = some (.slice la L.length lc)) /\ W.cell? ⟨bx, 0, none⟩ = some (.int .i64 n) /\ W.cell? ⟨bx, 1, none⟩ = some (.slice (some ⟨g7, 0, none⟩) zs.length zs.length) /\ W.cell? ⟨bx, 2, none⟩ = some (.slice (some ⟨go7, 0, none⟩) ko ko) /\ W.cell? ⟨bx, 3, none⟩ = some (.slice (some ⟨gv7, 0, none⟩) kv kv) /\ W.cell? ⟨bx, 4, none⟩ = some (.int .i64 fine)) (first | with_reducible exact kS | go_keep) ((first
   | (go_at_call 9
      with_reducible refine (toCase_any n fine a ao av cap ko co kv cv zs os vs w11.drew (HA.out.below B11.out.drew.b) (HO.out.below B11.out.drew.b) (HV.out.below B11.out.drew.b) HLO.out HLV.out hs1 hs2 hs3).mono ?_
      rintro e w12 ⟨g12, go12, gv12, _, _, _, rfl, hb', hg⟩
      have hb := (Below.refl w11.heap.size w11).drew.trans (hb'.mono (Nat.le_refl _))
      have SZ12 : Hid (b9 <= w12.heap.size) := Nat.le_trans SZ11.out (Below.size hb)
      have Z12 : Hid (Below w6.heap.size w6 w12) := Z11.out.trans (Below.mono hb Z11.out.size)
      have X12 : Hid (w12.heap[bx]? = _) := below_row hb (row_lt X11.out) X11.out
      have Y12 : Hid (w12.heap[by8]? = _) := below_row hb (row_lt Y11.out) Y11.out
      have C12 : Hid (CaseAt w12 g7 go7 gv7 zs os vs) := C11.out.below hb
      have P12 : Hid (PlanAt w12 gr8 gl8 S8 R L) := P11.out.below hb
      have O12 : Hid (PO w12 b9 (.slice gra grn grc) SG (.slice gla gln glc) GL) := O11.out.below hb
      have KG12 : Hid (w12.heap[kg]? = some (.cells #[.slice gra grn grc, .slice gla gln glc] 36 (0, 0))) := below_row hb (row_lt KG11.out) KG11.out
      have D12 : Hid (CaseAt w12 g12 go12 gv12 zs os vs) := hg
      have kS := And.intro (lp7 (B6.out.below Z12.out)) (cells5 X12.out)
      clear hb hb' hg)
   | (go_at_call 13
      with_reducible refine (eqCase_same n fine _ _ _ _ _ _ _ _ _ _ _ _ _ _ zs os vs w12 C12.out.t C12.out.o C12.out.v D12.out.t D12.out.o D12.out.v HLO.out HLV.out (by omega) (by omega) (by omega)).mono ?_
      rintro e w13 ⟨rfl, hb⟩
      have SZ13 : Hid (b9 <= w13.heap.size) := Nat.le_trans SZ12.out (Below.size hb)
      have Z13 : Hid (Below w6.heap.size w6 w13) := Z12.out.trans (Below.mono hb Z12.out.size)
      have X13 : Hid (w13.heap[bx]? = _) := below_row hb (row_lt X12.out) X12.out
      have Y13 : Hid (w13.heap[by8]? = _) := below_row hb (row_lt Y12.out) Y12.out
      have C13 : Hid (CaseAt w13 g7 go7 gv7 zs os vs) := C12.out.below hb
      have P13 : Hid (PlanAt w13 gr8 gl8 S8 R L) := P12.out.below hb
      have O13 : Hid (PO w13 b9 (.slice gra grn grc) SG (.slice gla gln glc) GL) := O12.out.below hb
      have KG13 : Hid (w13.heap[kg]? = some (.cells #[.slice gra grn grc, .slice gla gln glc] 36 (0, 0))) := below_row hb (row_lt KG12.out) KG12.out
      have kS := And.intro (lp7 (B6.out.below Z13.out)) (cells5 X13.out)
      clear hb)))
   all_goals
     clear e0 e1 e2 e3 e4 e5 e6 x0 x1 x2 x3 x4 kS B11 D12
     clear Z11 X11 Y11 C11 P11 O11 KG11
     clear Z12 X12 Y12 C12 P12 O12 KG12
     have B13 : Hid (LPB w w13 _ _) := B6.out.below Z13.out
     obtain ⟨e0, e1, e2, e3, e4, e5, e6⟩ := B13.out.cells
     obtain ⟨y0, y1⟩ := cells2 Y13.out
     go_wp2_with fail
     go_region_held3 (fun W => (W.cell? ⟨w.heap.size, 0, none⟩ = some (.int .i64 n) /\ W.cell? ⟨w.heap.size, 1, none⟩ = some (.slice a zs.length cap) /\ W.cell? ⟨w.heap.size, 2, none⟩ = some (.slice ao ko co) /\ W.cell? ⟨w.heap.size, 3, none⟩ = some (.slice av kv cv) /\ W.cell? ⟨w.heap.size, 4, none⟩ = some (.int .i64 fine) /\ W.cell? ⟨w.heap.size + 1, 0, none⟩ = some (.slice ra R.length rc) /\ W.cell? ⟨w.heap.size + 1, 1, none⟩ = some (.slice la L.length lc)) /\ W.cell? ⟨by8, 0, none⟩ = some (.slice (some ⟨gr8, 0, none⟩) R.length R.length) /\ W.cell? ⟨by8, 1, none⟩ = some (.slice (some ⟨gl8, 0, none⟩) L.length L.length)) (first | with_reducible exact kS | go_keep) ((first
     | (go_at_call 10
        with_reducible refine (toPlan_at ra la rc lc R L w13.drew (HRT.out.below B13.out.drew.b) (HL.out.below B13.out.drew.b) hs4 HS5.out hs6).mono ?_
        rintro e w14 ⟨gr14, gl14, S14, rfl, hb', hg⟩
        have hb := (Below.refl w13.heap.size w13).drew.trans (hb'.mono (Nat.le_refl _))
        have SZ14 : Hid (b9 <= w14.heap.size) := Nat.le_trans SZ13.out (Below.size hb)
        have Z14 : Hid (Below w6.heap.size w6 w14) := Z13.out.trans (Below.mono hb Z13.out.size)
        have X14 : Hid (w14.heap[bx]? = _) := below_row hb (row_lt X13.out) X13.out
        have Y14 : Hid (w14.heap[by8]? = _) := below_row hb (row_lt Y13.out) Y13.out
        have C14 : Hid (CaseAt w14 g7 go7 gv7 zs os vs) := C13.out.below hb
        have P14 : Hid (PlanAt w14 gr8 gl8 S8 R L) := P13.out.below hb
        have O14 : Hid (PO w14 b9 (.slice gra grn grc) SG (.slice gla gln glc) GL) := O13.out.below hb
        have KG14 : Hid (w14.heap[kg]? = some (.cells #[.slice gra grn grc, .slice gla gln glc] 36 (0, 0))) := below_row hb (row_lt KG13.out) KG13.out
        have Q14 : Hid (PlanAt w14 gr14 gl14 S14 R L) := hg
        have kS := And.intro (lp7 (B6.out.below Z14.out)) (cells2 Y14.out)
        clear hb hb' hg)
     | (go_at_call 12
        with_reducible refine (eqPlan_at gr8 gl8 gr14 gl14 S8 S14 R L w14 P14.out Q14.out hs4 HS5.out hs6).mono ?_
        rintro e w15 ⟨rfl, hb⟩
        have SZ15 : Hid (b9 <= w15.heap.size) := Nat.le_trans SZ14.out (Below.size hb)
        have Z15 : Hid (Below w6.heap.size w6 w15) := Z14.out.trans (Below.mono hb Z14.out.size)
        have X15 : Hid (w15.heap[bx]? = _) := below_row hb (row_lt X14.out) X14.out
        have Y15 : Hid (w15.heap[by8]? = _) := below_row hb (row_lt Y14.out) Y14.out
        have C15 : Hid (CaseAt w15 g7 go7 gv7 zs os vs) := C14.out.below hb
        have P15 : Hid (PlanAt w15 gr8 gl8 S8 R L) := P14.out.below hb
        have O15 : Hid (PO w15 b9 (.slice gra grn grc) SG (.slice gla gln glc) GL) := O14.out.below hb
        have KG15 : Hid (w15.heap[kg]? = some (.cells #[.slice gra grn grc, .slice gla gln glc] 36 (0, 0))) := below_row hb (row_lt KG14.out) KG14.out
        have kS := And.intro (lp7 (B6.out.below Z15.out)) (cells2 Y15.out)
        clear hb)))
     all_goals
       clear e0 e1 e2 e3 e4 e5 e6 y0 y1 kS B13 Q14
       clear Z13 X13 Y13 C13 P13 O13 KG13
       clear Z14 X14 Y14 C14 P14 O14 KG14
       have N1 : Hid (¬ (by8 = g7 ∨ by8 = go7 ∨ by8 = gv7)) := fun h => by
         rcases h with h | h | h
         · exact type_ne Y15.out C15.out.1 (by decide) h
         · exact type_ne Y15.out C15.out.2.1 (by decide) h
         · exact type_ne Y15.out C15.out.2.2 (by decide) h
       have N2 : Hid (∀ W', GrownBut (fun b => b = g7 ∨ b = go7 ∨ b = gv7) w15 W' -> PlanAt W' gr8 gl8 S8 R L) := fun W' hG => by
         have h9 := L7.out
         refine ⟨hG.row P15.out.1 (fun h => ?_), ⟨P15.out.2.1.1, fun s hs => ?_⟩, hG.row P15.out.2.2 (fun h => ?_)⟩
         · rcases h with h | h | h
           · exact type_ne P15.out.1 C15.out.1 (by decide) h
           · exact type_ne P15.out.1 C15.out.2.1 (by decide) h
           · exact type_ne P15.out.1 C15.out.2.2 (by decide) h
         · obtain ⟨g', e1, e2, e3, e4⟩ := P15.out.2.1.2 s hs
           refine ⟨g', e1, e2, e3, hG.row e4 (fun h => ?_)⟩
           have h8 := U7.out
           rcases h with h | h | h <;> omega
         · have h8 := U7.out
           have h7 := U8.out
           rcases h with h | h | h <;> omega
       obtain ⟨x0, x1, x2, x3, x4⟩ := cells5 X15.out
       go_wp2_with fail
       clear x0 x1 x2 x3 x4
       refine (markCase_any n fine g7 go7 gv7 _ ko _ kv _ zs os vs w15 C15.out HLO.out HLV.out hs1 hs2 hs3).mono ?_
       rintro e w16 ⟨kk, rfl, hk1, hk2, hg⟩
       have Z16 : Hid (Below w6.heap.size w6 w16) := Z15.out.trans (hg.below Z15.out.size (fun b h => by have h9 := L7.out; rcases h with h | h | h <;> omega))
       have Y16 : Hid (w16.heap[by8]? = _) := hg.row Y15.out N1.out
       have P16 : Hid (PlanAt w16 gr8 gl8 S8 R L) := N2.out _ hg
       have O16 : Hid (PO w16 b9 (.slice gra grn grc) SG (.slice gla gln glc) GL) := O15.out.but hg (fun b h => by have h9 := U9.out; rcases h with h | h | h <;> omega)
       have KG16 : Hid (w16.heap[kg]? = some (.cells #[.slice gra grn grc, .slice gla gln glc] 36 (0, 0))) := hg.row KG15.out (fun h => by have h9 := HB9K.out; have h8 := U9.out; rcases h with h | h | h <;> omega)
       have H16 : Hid (b9 <= w16.heap.size) := Nat.le_trans SZ15.out hg.size
       clear hg N1 N2
       clear Z15 X15 Y15 C15 P15 O15 KG15
       obtain ⟨y0, y1⟩ := cells2 Y16.out
       go_wp2_with fail
       clear y0 y1
       refine (markPlan_any gr8 gl8 w6.heap.size b9 kk S8 R L w16 P16.out PS.out (by have h9 := U9.out; have h8 := U8.out; omega) (by have h9 := U9.out; have h8 := U8.out; omega) hk1 (by omega) hs4 hs6 HS7.out H16.out).mono ?_
       rintro e w17 ⟨kq, rfl, hkq, hg⟩
       have Z17 : Hid (Below w6.heap.size w6 w17) := Z16.out.trans (hg.below Z16.out.size (fun b h => h.1))
       have O17 : Hid (PO w17 b9 (.slice gra grn grc) SG (.slice gla gln glc) GL) := O16.out.but hg (fun b h => h.2)
       have KG17 : Hid (w17.heap[kg]? = some (.cells #[.slice gra grn grc, .slice gla gln glc] 36 (0, 0))) := hg.row KG16.out (fun h => by have h9 := HB9K.out; have h8 := U9.out; omega)
       clear hg Z16 Y16 P16 O16 KG16
       have SWP : Hid (PO w17 w.heap.size (.slice wra grn wrc) SW (.slice wla gln wlc) GL) := P6.out.below Z17.out
       have VW17 : Hid (w17.heap[kw]? = some (.cells #[.slice wra grn wrc, .slice wla gln wlc] 36 (0, 0))) := below_row Z17.out (row_lt V6.out) V6.out
       have EQ2 := eqPlan_same gra wra gla wla grc wrc grn glc wlc SG SW GL w17 (po_at O17.out HSGN.out) (po_at SWP.out HSWN.out) (HSWK.out.trans HSGK.out.symm) HSGN.out (by omega) (fun r hr => by have := (key_in HSGK.out HBI.out r hr).2; omega) (po_l O17.out HNL.out) (po_l SWP.out HNL.out) (by rw [HNL.out]; omega)
       rw [HNL.out] at EQ2
       obtain ⟨k0, k1⟩ := cells2 KG17.out
       obtain ⟨v0, v1⟩ := cells2 VW17.out
       have hkn : ¬ kq < 0 := by omega
       go_wp2_with fail
       refine EQ2.mono ?_
       rintro e w18 ⟨rfl, hb⟩
       have Z18 : Hid (Below w6.heap.size w6 w18) := Z17.out.trans (Below.mono hb Z17.out.size)
       have O18 : Hid (PO w18 b9 (.slice gra grn grc) SG (.slice gla gln glc) GL) := O17.out.below hb
       have KG18 : Hid (w18.heap[kg]? = some (.cells #[.slice gra grn grc, .slice gla gln glc] 36 (0, 0))) := below_row hb (row_lt KG17.out) KG17.out
       clear hb EQ2 SWP VW17 k0 k1 v0 v1 Z17 O17 KG17
       obtain ⟨k0, k1⟩ := cells2 KG18.out
       have MK := markPlan_own gra gla grn grc gln glc b9 1 SG GL w18 O18.out HSGN.out HNL.out HSGA.out.apt (by omega) (by omega) (fun s hs => by have := (key_in HSGK.out HBI.out s hs).2; omega) (by omega) (by omega) kg (Nat.le_of_lt (row_lt KG18.out)) HTP.out.1 HTP.out.2.1 HTP.out.2.2
       have hmk := mkK_bd SG 1 (fun s hs => by have := (key_in HSGK.out HBI.out s hs).2; omega)
       rw [HSGN.out] at hmk
       have HHP : Hid (∀ W, PO W b9 (.slice gra grn grc) (mkS SG 1) (.slice gla gln glc) (seqL (mkK SG 1) gln) -> Calls Tryz.prog 16 #[.agg #[.slice gra grn grc, .slice gla gln glc], .int .i64 1] W fun e w' => e = .returned (.int .i64 (mkK SG 1 + (gln : Int))) /\ Below W.heap.size W w') := fun W hW => heldPlan_own gra gla grn grc gln glc b9 1 SG W hW HSGN.out (by omega) (by omega) (fun s hs => by have := (key_in HSGK.out HBI.out s hs).2; omega) (by omega) (by omega)
       obtain ⟨gm, HGM⟩ : ∃ q, Hid (mkK SG 1 + (gln : Int) = q) := ⟨_, rfl⟩
       have hgm : ¬ gm < 0 := by have := HGM.out; omega
       have hgg : (gm != gm) = false := by simp
       rw [HGM.out] at MK HHP
       clear hmk
       go_wp2_with fail
       refine MK.mono ?_
       rintro e w19 ⟨rfl, hG, hm⟩
       have M19 : Hid (PO w19 b9 (.slice gra grn grc) (mkS SG 1) (.slice gla gln glc) (seqL (mkK SG 1) gln)) := hm
       have Z19 : Hid (Below w6.heap.size w6 w19) := Z18.out.trans (hG.below Z18.out.size (fun b h => by have := h.1; have := U9.out; omega))
       have KG19 : Hid (w19.heap[kg]? = some (.cells #[.slice gra grn grc, .slice gla gln glc] 36 (0, 0))) := hG.row KG18.out (fun h => by omega)
       clear hG hm MK Z18 O18 KG18 k0 k1
       obtain ⟨k0, k1⟩ := cells2 KG19.out
       go_wp2_with fail
       refine (HHP.out w19 M19.out).mono ?_
       rintro e w20 ⟨rfl, hb⟩
       have M : Hid (PO w20 b9 (.slice gra grn grc) (mkS SG 1) (.slice gla gln glc) (seqL (mkK SG 1) gln)) := M19.out.below hb
       have Z : Hid (Below w6.heap.size w6 w20) := Z19.out.trans (Below.mono hb Z19.out.size)
       have KG : Hid (w20.heap[kg]? = some (.cells #[.slice gra grn grc, .slice gla gln glc] 36 (0, 0))) := below_row hb (row_lt KG19.out) KG19.out
       clear hb M19 Z19 KG19 k0 k1
       go_upto_region 31 with fail
       go_cut [17, 18] from 98 to 106 (fun s17 s18 wx => ∃ (kh : Nat) (hra hla : Option Addr) (hrc hlc : Nat) (SH : List RT), s17 = .pointer (some ⟨kh, 0, none⟩) /\ s18 = .int .i64 GF /\ Below w6.heap.size w6 wx /\ PO wx b9 (.slice gra grn grc) (mkS SG 1) (.slice gla gln glc) (seqL (mkK SG 1) gln) /\ wx.heap[kg]? = some (.cells #[.slice gra grn grc, .slice gla gln glc] 36 (0, 0)) /\ wx.heap[kh]? = some (.cells #[.slice hra grn hrc, .slice hla gln hlc] 36 (0, 0)) /\ PO wx w.heap.size (.slice hra grn hrc) SH (.slice hla gln hlc) GL /\ SH.length = grn /\ SH.map RT.key = GR.map RT.key)
       case first =>
         have Z_i := Z
         go_wp2_with fail
         refine wp_region_held_drew (S := (fun W => W.cell? ⟨w.heap.size, 0, none⟩ = some (.int .i64 n) /\ W.cell? ⟨w.heap.size, 1, none⟩ = some (.slice a zs.length cap) /\ W.cell? ⟨w.heap.size, 2, none⟩ = some (.slice ao ko co) /\ W.cell? ⟨w.heap.size, 3, none⟩ = some (.slice av kv cv) /\ W.cell? ⟨w.heap.size, 4, none⟩ = some (.int .i64 fine) /\ W.cell? ⟨w.heap.size + 1, 0, none⟩ = some (.slice ra R.length rc) /\ W.cell? ⟨w.heap.size + 1, 1, none⟩ = some (.slice la L.length lc))) (by kernel_rfl) ?_ (fun hHeld => ?_)
         · exact lp7 ((B6.out.below Z.out).drew)
         have Z_d : Hid (Below w6.heap.size w6 w20.drew) := Z.out.trans (Below.mono ((Below.refl w20.heap.size w20).drew) Z.out.size)
         have M_d : Hid (PO w20.drew b9 (.slice gra grn grc) (mkS SG 1) (.slice gla gln glc) (seqL (mkK SG 1) gln)) := M.out.below ((Below.refl w20.heap.size w20).drew)
         have KG_d : Hid (w20.drew.heap[kg]? = some (.cells #[.slice gra grn grc, .slice gla gln glc] 36 (0, 0))) := below_row ((Below.refl w20.heap.size w20).drew) (row_lt KG.out) KG.out
         generalize w20.drew = wd at *
         refine tkH 0 hHeld ?_
         refine tkH 2 hHeld ?_
         refine tkH 4 hHeld ?_
         refine wpAnyH_ready (rs := [1, 9]) (by kernel_rfl) (by simp) ?_
         refine AllReadyH.cons rfl (fun K hK => ?_) ?_
         · skip
           go_simp
           refine (toCase_any n fine a ao av cap ko co kv cv zs os vs wd (HA.out.below (B6.out.below Z_d.out).b) (HO.out.below (B6.out.below Z_d.out).b) (HV.out.below (B6.out.below Z_d.out).b) HLO.out HLV.out hs1 hs2 hs3).mono ?_
           rintro e w3 ⟨g3, go3, gv3, _, _, _, rfl, hb, hg⟩
           have Z_w3 : Hid (Below w6.heap.size w6 w3) := Z_d.out.trans (Below.mono hb Z_d.out.size)
           have M_w3 : Hid (PO w3 b9 (.slice gra grn grc) (mkS SG 1) (.slice gla gln glc) (seqL (mkK SG 1) gln)) := M_d.out.below hb
           have KG_w3 : Hid (w3.heap[kg]? = some (.cells #[.slice gra grn grc, .slice gla gln glc] 36 (0, 0))) := below_row hb (row_lt KG_d.out) KG_d.out
           have C_w3 : Hid (CaseAt w3 g3 go3 gv3 zs os vs) := hg
           clear hb hg
           (try go_wp2_with fail)
           refine hK.out _ _ ?_ (fun hHeld => ?_)
           · exact lp7 (B6.out.below Z_w3.out)
           clear hK K
           (try simp only [Act.put, List.setIfInBounds_toArray, List.set_cons_zero, List.set_cons_succ])
           refine wpAnyH_ready (rs := [3, 9]) (by kernel_rfl) (by simp) ?_
           refine AllReadyH.cons rfl (fun K hK => ?_) ?_
           · skip
             go_simp
             refine (toPlan_at ra la rc lc R L w3 (HRT.out.below (B6.out.below Z_w3.out).b) (HL.out.below (B6.out.below Z_w3.out).b) hs4 HS5.out hs6).mono ?_
             rintro e w4 ⟨gr4, gl4, S4, rfl, hb, hg⟩
             have Z_w4 : Hid (Below w6.heap.size w6 w4) := Z_w3.out.trans (Below.mono hb Z_w3.out.size)
             have M_w4 : Hid (PO w4 b9 (.slice gra grn grc) (mkS SG 1) (.slice gla gln glc) (seqL (mkK SG 1) gln)) := M_w3.out.below hb
             have KG_w4 : Hid (w4.heap[kg]? = some (.cells #[.slice gra grn grc, .slice gla gln glc] 36 (0, 0))) := below_row hb (row_lt KG_w3.out) KG_w3.out
             have C_w4 : Hid (CaseAt w4 g3 go3 gv3 zs os vs) := C_w3.out.below hb
             have P_w4 : Hid (PlanAt w4 gr4 gl4 S4 R L) := hg
             clear hb hg
             (try go_wp2_with fail)
             refine hK.out _ _ ?_ (fun hHeld => ?_)
             · exact lp7 (B6.out.below Z_w4.out)
             clear hK K
             (try simp only [Act.put, List.setIfInBounds_toArray, List.set_cons_zero, List.set_cons_succ])
             refine wpAnyH_ready (rs := [5, 9]) (by kernel_rfl) (by simp) ?_
             refine AllReadyH.cons rfl (fun K hK => ?_) ?_
             · skip
               go_simp
               have IG := implDescended_at st9 n fine _ _ _ zs.length ko ko kv kv gr4 gl4 zs os vs L S4 R w4 C_w4.out.t C_w4.out.o C_w4.out.v P_w4.out HLO.out HLV.out (by omega) (by omega) hs4 HS5.out hs6 HS7.out HWL.out
               rw [HGF.out, HGR.out, HGL.out] at IG
               refine IG.mono ?_
               rintro e w5 ⟨hra, hrn, hrc, hla, hln, hlc, SH, rfl, hb, hsl, hll9, hk9, hpo, hap⟩
               have Z_w5 : Hid (Below w6.heap.size w6 w5) := Z_w4.out.trans (Below.mono hb Z_w4.out.size)
               have M_w5 : Hid (PO w5 b9 (.slice gra grn grc) (mkS SG 1) (.slice gla gln glc) (seqL (mkK SG 1) gln)) := M_w4.out.below hb
               have KG_w5 : Hid (w5.heap[kg]? = some (.cells #[.slice gra grn grc, .slice gla gln glc] 36 (0, 0))) := below_row hb (row_lt KG_w4.out) KG_w4.out
               have e1 : grn = hrn := by rw [<- hsl, <- HNR.out]; have := congrArg List.length hk9; simpa using this.symm
               have e2 : gln = hln := by rw [<- hll9]; exact HNL.out.symm
               subst e1 e2
               have HSHN : Hid (SH.length = grn) := hsl
               have HSHK : Hid (SH.map RT.key = GR.map RT.key) := hk9
               have R_w5 : Hid (PO w5 w.heap.size (.slice hra grn hrc) SH (.slice hla gln hlc) GL) := hpo.base (B6.out.below Z_w4.out).b.size
               clear hsl hll9 hk9 hpo hap
               clear hb IG
               (try go_wp2_with fail)
               refine hK.out _ _ ?_ (fun hHeld => ?_)
               · exact lp7 (B6.out.below Z_w5.out)
               clear hK K
               (try simp only [Act.put, List.setIfInBounds_toArray, List.set_cons_zero, List.set_cons_succ])
               refine tkH 6 hHeld ?_
               refine tkH 7 hHeld ?_
               refine tkH 8 hHeld ?_
               refine wpAnyH_ready (rs := [9]) (by kernel_rfl) (by simp) ?_
               refine AllReadyH.cons rfl (fun K hK => ?_) AllReadyH.nil
               have Z_z : Hid (Below w6.heap.size w6 (w5.alloc (.cells #[.slice none 0 0, .slice none 0 0] 36))) := Z_w5.out.trans (Below.mono ((Below.refl w5.heap.size w5).alloc (Nat.le_refl _) (.cells #[.slice none 0 0, .slice none 0 0] 36)) Z_w5.out.size)
               have M_z : Hid (PO (w5.alloc (.cells #[.slice none 0 0, .slice none 0 0] 36)) b9 (.slice gra grn grc) (mkS SG 1) (.slice gla gln glc) (seqL (mkK SG 1) gln)) := M_w5.out.below ((Below.refl w5.heap.size w5).alloc (Nat.le_refl _) (.cells #[.slice none 0 0, .slice none 0 0] 36))
               have KG_z : Hid ((w5.alloc (.cells #[.slice none 0 0, .slice none 0 0] 36)).heap[kg]? = some (.cells #[.slice gra grn grc, .slice gla gln glc] 36 (0, 0))) := below_row ((Below.refl w5.heap.size w5).alloc (Nat.le_refl _) (.cells #[.slice none 0 0, .slice none 0 0] 36)) (row_lt KG_w5.out) KG_w5.out
               have R_z : Hid (PO (w5.alloc (.cells #[.slice none 0 0, .slice none 0 0] 36)) w.heap.size (.slice hra grn hrc) SH (.slice hla gln hlc) GL) := R_w5.out.below ((Below.refl w5.heap.size w5).alloc (Nat.le_refl _) (.cells #[.slice none 0 0, .slice none 0 0] 36))
               have VZ0 : Hid ((w5.alloc (.cells #[.slice none 0 0, .slice none 0 0] 36)).heap[w5.heap.size]? = some (.cells #[.slice none 0 0, .slice none 0 0] 36 (0, 0))) := heap_alloc_new _ _
               have HZL : Hid (w.heap.size + 2 <= w5.heap.size) := row_lt (B6.out.below Z_w5.out).2.2
               have HZM : Hid (w6.heap.size <= w5.heap.size /\ kg < w5.heap.size) := ⟨Z_w5.out.size, row_lt KG_w5.out⟩
               go_simp
               refine hK.out _ _ ?_ (fun hHeld => ?_)
               · exact lp7 (B6.out.below Z_z.out)
               clear hK K
               (try simp only [Act.put, List.setIfInBounds_toArray, List.set_cons_zero, List.set_cons_succ])
               obtain ⟨kh, HKZ⟩ : ∃ v, Hid (w5.heap.size = v) := ⟨_, rfl⟩
               rw [HKZ.out] at VZ0 HZL HZM ⊢
               generalize (w5.alloc (.cells #[.slice none 0 0, .slice none 0 0] 36)) = wz at *
               obtain ⟨z0, z1⟩ := cells2 VZ0.out
               have zf := fun i => frozen_of_row _ _ i _ _ VZ0.out
               refine wpAnyH_ready (rs := [10]) (by kernel_rfl) (by simp) ?_
               refine AllReadyH.cons rfl (fun K hK => ?_) AllReadyH.nil
               have s1 := heap_setCell_same wz kh 0 _ _ (Value.slice hra grn hrc) VZ0.out
               have V31 : Hid (((wz.setCell ⟨kh, 0, none⟩ (.slice hra grn hrc)).setCell ⟨kh, 1, none⟩ (.slice hla gln hlc)).heap[kh]? = some (.cells #[.slice hra grn hrc, .slice hla gln hlc] 36 (0, 0))) := by
                 have s2 := heap_setCell_same _ kh 1 _ _ (Value.slice hla gln hlc) s1
                 simp at s2
                 exact s2
               have B31 : Hid (LPB w ((wz.setCell ⟨kh, 0, none⟩ (.slice hra grn hrc)).setCell ⟨kh, 1, none⟩ (.slice hla gln hlc)) _ _) := ⟨((B6.out.below Z_z.out).b.setCell (by have := HZL.out; simp; omega) _).setCell (by have := HZL.out; simp; omega) _, row_set' (row_set' (B6.out.below Z_z.out).2.1 (by have := HZL.out; omega)) (by have := HZL.out; omega), row_set' (row_set' (B6.out.below Z_z.out).2.2 (by have := HZL.out; omega)) (by have := HZL.out; omega)⟩
               have Z31 : Hid (Below w6.heap.size w6 ((wz.setCell ⟨kh, 0, none⟩ (.slice hra grn hrc)).setCell ⟨kh, 1, none⟩ (.slice hla gln hlc))) := (Z_z.out.setCell HZM.out.1 _).setCell HZM.out.1 _
               have M31 : Hid (PO ((wz.setCell ⟨kh, 0, none⟩ (.slice hra grn hrc)).setCell ⟨kh, 1, none⟩ (.slice hla gln hlc)) b9 (.slice gra grn grc) (mkS SG 1) (.slice gla gln glc) (seqL (mkK SG 1) gln)) := (M_z.out.box VZ0.out).box s1
               have KG31 : Hid (((wz.setCell ⟨kh, 0, none⟩ (.slice hra grn hrc)).setCell ⟨kh, 1, none⟩ (.slice hla gln hlc)).heap[kg]? = some (.cells #[.slice gra grn grc, .slice gla gln glc] 36 (0, 0))) := row_set' (row_set' KG_z.out (by have := HZM.out.2; omega)) (by have := HZM.out.2; omega)
               have H31 : Hid (PO ((wz.setCell ⟨kh, 0, none⟩ (.slice hra grn hrc)).setCell ⟨kh, 1, none⟩ (.slice hla gln hlc)) w.heap.size (.slice hra grn hrc) SH (.slice hla gln hlc) GL) := (R_z.out.box VZ0.out).box s1
               clear s1
               go_simp
               refine hK.out _ _ ?_ (fun hHeld => ?_)
               · exact lp7 B31.out
               clear hK K
               generalize ((wz.setCell ⟨kh, 0, none⟩ (.slice hra grn hrc)).setCell ⟨kh, 1, none⟩ (.slice hla gln hlc)) = w31 at *
               refine tkH 11 hHeld ?_
               refine wpAnyH_done (by kernel_rfl) ?_ _
               clear hHeld
               (try go_wp2_with fail)
               go_meet
               exact ⟨kh, hra, hla, hrc, hlc, SH, rfl, rfl, Z31.out, M31.out, KG31.out, V31.out, H31.out, HSHN.out, HSHK.out⟩
             refine AllReadyH.cons rfl (fun K hK => ?_) AllReadyH.nil
             have Z_z : Hid (Below w6.heap.size w6 (w4.alloc (.cells #[.slice none 0 0, .slice none 0 0] 36))) := Z_w4.out.trans (Below.mono ((Below.refl w4.heap.size w4).alloc (Nat.le_refl _) (.cells #[.slice none 0 0, .slice none 0 0] 36)) Z_w4.out.size)
             have M_z : Hid (PO (w4.alloc (.cells #[.slice none 0 0, .slice none 0 0] 36)) b9 (.slice gra grn grc) (mkS SG 1) (.slice gla gln glc) (seqL (mkK SG 1) gln)) := M_w4.out.below ((Below.refl w4.heap.size w4).alloc (Nat.le_refl _) (.cells #[.slice none 0 0, .slice none 0 0] 36))
             have KG_z : Hid ((w4.alloc (.cells #[.slice none 0 0, .slice none 0 0] 36)).heap[kg]? = some (.cells #[.slice gra grn grc, .slice gla gln glc] 36 (0, 0))) := below_row ((Below.refl w4.heap.size w4).alloc (Nat.le_refl _) (.cells #[.slice none 0 0, .slice none 0 0] 36)) (row_lt KG_w4.out) KG_w4.out
             have C_z : Hid (CaseAt (w4.alloc (.cells #[.slice none 0 0, .slice none 0 0] 36)) g3 go3 gv3 zs os vs) := C_w4.out.below ((Below.refl w4.heap.size w4).alloc (Nat.le_refl _) (.cells #[.slice none 0 0, .slice none 0 0] 36))
             have P_z : Hid (PlanAt (w4.alloc (.cells #[.slice none 0 0, .slice none 0 0] 36)) gr4 gl4 S4 R L) := P_w4.out.below ((Below.refl w4.heap.size w4).alloc (Nat.le_refl _) (.cells #[.slice none 0 0, .slice none 0 0] 36))
             have VZ0 : Hid ((w4.alloc (.cells #[.slice none 0 0, .slice none 0 0] 36)).heap[w4.heap.size]? = some (.cells #[.slice none 0 0, .slice none 0 0] 36 (0, 0))) := heap_alloc_new _ _
             have HZL : Hid (w.heap.size + 2 <= w4.heap.size) := row_lt (B6.out.below Z_w4.out).2.2
             have HZM : Hid (w6.heap.size <= w4.heap.size /\ kg < w4.heap.size) := ⟨Z_w4.out.size, row_lt KG_w4.out⟩
             go_simp
             refine hK.out _ _ ?_ (fun hHeld => ?_)
             · exact lp7 (B6.out.below Z_z.out)
             clear hK K
             (try simp only [Act.put, List.setIfInBounds_toArray, List.set_cons_zero, List.set_cons_succ])
             obtain ⟨kh, HKZ⟩ : ∃ v, Hid (w4.heap.size = v) := ⟨_, rfl⟩
             rw [HKZ.out] at VZ0 HZL HZM ⊢
             generalize (w4.alloc (.cells #[.slice none 0 0, .slice none 0 0] 36)) = wz at *
             obtain ⟨z0, z1⟩ := cells2 VZ0.out
             have zf := fun i => frozen_of_row _ _ i _ _ VZ0.out
             refine wpAnyH_ready (rs := [5]) (by kernel_rfl) (by simp) ?_
             refine AllReadyH.cons rfl (fun K hK => ?_) AllReadyH.nil
             go_simp
             have IG := implDescended_at st9 n fine _ _ _ zs.length ko ko kv kv gr4 gl4 zs os vs L S4 R wz C_z.out.t C_z.out.o C_z.out.v P_z.out HLO.out HLV.out (by omega) (by omega) hs4 HS5.out hs6 HS7.out HWL.out
             rw [HGF.out, HGR.out, HGL.out] at IG
             refine IG.mono ?_
             rintro e w5 ⟨hra, hrn, hrc, hla, hln, hlc, SH, rfl, hb, hsl, hll9, hk9, hpo, hap⟩
             have Z_w5 : Hid (Below w6.heap.size w6 w5) := Z_z.out.trans (Below.mono hb Z_z.out.size)
             have M_w5 : Hid (PO w5 b9 (.slice gra grn grc) (mkS SG 1) (.slice gla gln glc) (seqL (mkK SG 1) gln)) := M_z.out.below hb
             have KG_w5 : Hid (w5.heap[kg]? = some (.cells #[.slice gra grn grc, .slice gla gln glc] 36 (0, 0))) := below_row hb (row_lt KG_z.out) KG_z.out
             have VZ_w5 : Hid (w5.heap[kh]? = some (.cells #[.slice none 0 0, .slice none 0 0] 36 (0, 0))) := below_row hb (row_lt VZ0.out) VZ0.out
             obtain ⟨z0, z1⟩ := cells2 VZ_w5.out
             have zf := fun i => frozen_of_row _ _ i _ _ VZ_w5.out
             have e1 : grn = hrn := by rw [<- hsl, <- HNR.out]; have := congrArg List.length hk9; simpa using this.symm
             have e2 : gln = hln := by rw [<- hll9]; exact HNL.out.symm
             subst e1 e2
             have HSHN : Hid (SH.length = grn) := hsl
             have HSHK : Hid (SH.map RT.key = GR.map RT.key) := hk9
             have R_w5 : Hid (PO w5 w.heap.size (.slice hra grn hrc) SH (.slice hla gln hlc) GL) := hpo.base (B6.out.below Z_z.out).b.size
             clear hsl hll9 hk9 hpo hap
             clear hb IG
             (try go_wp2_with fail)
             refine hK.out _ _ ?_ (fun hHeld => ?_)
             · exact lp7 (B6.out.below Z_w5.out)
             clear hK K
             (try simp only [Act.put, List.setIfInBounds_toArray, List.set_cons_zero, List.set_cons_succ])
             refine tkH 6 hHeld ?_
             refine tkH 7 hHeld ?_
             refine tkH 8 hHeld ?_
             refine wpAnyH_ready (rs := [10]) (by kernel_rfl) (by simp) ?_
             refine AllReadyH.cons rfl (fun K hK => ?_) AllReadyH.nil
             have s1 := heap_setCell_same w5 kh 0 _ _ (Value.slice hra grn hrc) VZ_w5.out
             have V31 : Hid (((w5.setCell ⟨kh, 0, none⟩ (.slice hra grn hrc)).setCell ⟨kh, 1, none⟩ (.slice hla gln hlc)).heap[kh]? = some (.cells #[.slice hra grn hrc, .slice hla gln hlc] 36 (0, 0))) := by
               have s2 := heap_setCell_same _ kh 1 _ _ (Value.slice hla gln hlc) s1
               simp at s2
               exact s2
             have B31 : Hid (LPB w ((w5.setCell ⟨kh, 0, none⟩ (.slice hra grn hrc)).setCell ⟨kh, 1, none⟩ (.slice hla gln hlc)) _ _) := ⟨((B6.out.below Z_w5.out).b.setCell (by have := HZL.out; simp; omega) _).setCell (by have := HZL.out; simp; omega) _, row_set' (row_set' (B6.out.below Z_w5.out).2.1 (by have := HZL.out; omega)) (by have := HZL.out; omega), row_set' (row_set' (B6.out.below Z_w5.out).2.2 (by have := HZL.out; omega)) (by have := HZL.out; omega)⟩
             have Z31 : Hid (Below w6.heap.size w6 ((w5.setCell ⟨kh, 0, none⟩ (.slice hra grn hrc)).setCell ⟨kh, 1, none⟩ (.slice hla gln hlc))) := (Z_w5.out.setCell HZM.out.1 _).setCell HZM.out.1 _
             have M31 : Hid (PO ((w5.setCell ⟨kh, 0, none⟩ (.slice hra grn hrc)).setCell ⟨kh, 1, none⟩ (.slice hla gln hlc)) b9 (.slice gra grn grc) (mkS SG 1) (.slice gla gln glc) (seqL (mkK SG 1) gln)) := (M_w5.out.box VZ_w5.out).box s1
             have KG31 : Hid (((w5.setCell ⟨kh, 0, none⟩ (.slice hra grn hrc)).setCell ⟨kh, 1, none⟩ (.slice hla gln hlc)).heap[kg]? = some (.cells #[.slice gra grn grc, .slice gla gln glc] 36 (0, 0))) := row_set' (row_set' KG_w5.out (by have := HZM.out.2; omega)) (by have := HZM.out.2; omega)
             have H31 : Hid (PO ((w5.setCell ⟨kh, 0, none⟩ (.slice hra grn hrc)).setCell ⟨kh, 1, none⟩ (.slice hla gln hlc)) w.heap.size (.slice hra grn hrc) SH (.slice hla gln hlc) GL) := (R_w5.out.box VZ_w5.out).box s1
             clear s1
             go_simp
             refine hK.out _ _ ?_ (fun hHeld => ?_)
             · exact lp7 B31.out
             clear hK K
             generalize ((w5.setCell ⟨kh, 0, none⟩ (.slice hra grn hrc)).setCell ⟨kh, 1, none⟩ (.slice hla gln hlc)) = w31 at *
             refine tkH 11 hHeld ?_
             refine wpAnyH_done (by kernel_rfl) ?_ _
             clear hHeld
             (try go_wp2_with fail)
             go_meet
             exact ⟨kh, hra, hla, hrc, hlc, SH, rfl, rfl, Z31.out, M31.out, KG31.out, V31.out, H31.out, HSHN.out, HSHK.out⟩
           refine AllReadyH.cons rfl (fun K hK => ?_) AllReadyH.nil
           have Z_z : Hid (Below w6.heap.size w6 (w3.alloc (.cells #[.slice none 0 0, .slice none 0 0] 36))) := Z_w3.out.trans (Below.mono ((Below.refl w3.heap.size w3).alloc (Nat.le_refl _) (.cells #[.slice none 0 0, .slice none 0 0] 36)) Z_w3.out.size)
           have M_z : Hid (PO (w3.alloc (.cells #[.slice none 0 0, .slice none 0 0] 36)) b9 (.slice gra grn grc) (mkS SG 1) (.slice gla gln glc) (seqL (mkK SG 1) gln)) := M_w3.out.below ((Below.refl w3.heap.size w3).alloc (Nat.le_refl _) (.cells #[.slice none 0 0, .slice none 0 0] 36))
           have KG_z : Hid ((w3.alloc (.cells #[.slice none 0 0, .slice none 0 0] 36)).heap[kg]? = some (.cells #[.slice gra grn grc, .slice gla gln glc] 36 (0, 0))) := below_row ((Below.refl w3.heap.size w3).alloc (Nat.le_refl _) (.cells #[.slice none 0 0, .slice none 0 0] 36)) (row_lt KG_w3.out) KG_w3.out
           have C_z : Hid (CaseAt (w3.alloc (.cells #[.slice none 0 0, .slice none 0 0] 36)) g3 go3 gv3 zs os vs) := C_w3.out.below ((Below.refl w3.heap.size w3).alloc (Nat.le_refl _) (.cells #[.slice none 0 0, .slice none 0 0] 36))
           have VZ0 : Hid ((w3.alloc (.cells #[.slice none 0 0, .slice none 0 0] 36)).heap[w3.heap.size]? = some (.cells #[.slice none 0 0, .slice none 0 0] 36 (0, 0))) := heap_alloc_new _ _
           have HZL : Hid (w.heap.size + 2 <= w3.heap.size) := row_lt (B6.out.below Z_w3.out).2.2
           have HZM : Hid (w6.heap.size <= w3.heap.size /\ kg < w3.heap.size) := ⟨Z_w3.out.size, row_lt KG_w3.out⟩
           go_simp
           refine hK.out _ _ ?_ (fun hHeld => ?_)
           · exact lp7 (B6.out.below Z_z.out)
           clear hK K
           (try simp only [Act.put, List.setIfInBounds_toArray, List.set_cons_zero, List.set_cons_succ])
           obtain ⟨kh, HKZ⟩ : ∃ v, Hid (w3.heap.size = v) := ⟨_, rfl⟩
           rw [HKZ.out] at VZ0 HZL HZM ⊢
           generalize (w3.alloc (.cells #[.slice none 0 0, .slice none 0 0] 36)) = wz at *
           obtain ⟨z0, z1⟩ := cells2 VZ0.out
           have zf := fun i => frozen_of_row _ _ i _ _ VZ0.out
           refine wpAnyH_ready (rs := [3]) (by kernel_rfl) (by simp) ?_
           refine AllReadyH.cons rfl (fun K hK => ?_) AllReadyH.nil
           go_simp
           refine (toPlan_at ra la rc lc R L wz (HRT.out.below (B6.out.below Z_z.out).b) (HL.out.below (B6.out.below Z_z.out).b) hs4 HS5.out hs6).mono ?_
           rintro e w4 ⟨gr4, gl4, S4, rfl, hb, hg⟩
           have Z_w4 : Hid (Below w6.heap.size w6 w4) := Z_z.out.trans (Below.mono hb Z_z.out.size)
           have M_w4 : Hid (PO w4 b9 (.slice gra grn grc) (mkS SG 1) (.slice gla gln glc) (seqL (mkK SG 1) gln)) := M_z.out.below hb
           have KG_w4 : Hid (w4.heap[kg]? = some (.cells #[.slice gra grn grc, .slice gla gln glc] 36 (0, 0))) := below_row hb (row_lt KG_z.out) KG_z.out
           have C_w4 : Hid (CaseAt w4 g3 go3 gv3 zs os vs) := C_z.out.below hb
           have VZ_w4 : Hid (w4.heap[kh]? = some (.cells #[.slice none 0 0, .slice none 0 0] 36 (0, 0))) := below_row hb (row_lt VZ0.out) VZ0.out
           obtain ⟨z0, z1⟩ := cells2 VZ_w4.out
           have zf := fun i => frozen_of_row _ _ i _ _ VZ_w4.out
           have P_w4 : Hid (PlanAt w4 gr4 gl4 S4 R L) := hg
           clear hb hg
           (try go_wp2_with fail)
           refine hK.out _ _ ?_ (fun hHeld => ?_)
           · exact lp7 (B6.out.below Z_w4.out)
           clear hK K
           (try simp only [Act.put, List.setIfInBounds_toArray, List.set_cons_zero, List.set_cons_succ])
           refine wpAnyH_ready (rs := [5]) (by kernel_rfl) (by simp) ?_
           refine AllReadyH.cons rfl (fun K hK => ?_) AllReadyH.nil
           go_simp
           have IG := implDescended_at st9 n fine _ _ _ zs.length ko ko kv kv gr4 gl4 zs os vs L S4 R w4 C_w4.out.t C_w4.out.o C_w4.out.v P_w4.out HLO.out HLV.out (by omega) (by omega) hs4 HS5.out hs6 HS7.out HWL.out
           rw [HGF.out, HGR.out, HGL.out] at IG
           refine IG.mono ?_
           rintro e w5 ⟨hra, hrn, hrc, hla, hln, hlc, SH, rfl, hb, hsl, hll9, hk9, hpo, hap⟩
           have Z_w5 : Hid (Below w6.heap.size w6 w5) := Z_w4.out.trans (Below.mono hb Z_w4.out.size)
           have M_w5 : Hid (PO w5 b9 (.slice gra grn grc) (mkS SG 1) (.slice gla gln glc) (seqL (mkK SG 1) gln)) := M_w4.out.below hb
           have KG_w5 : Hid (w5.heap[kg]? = some (.cells #[.slice gra grn grc, .slice gla gln glc] 36 (0, 0))) := below_row hb (row_lt KG_w4.out) KG_w4.out
           have VZ_w5 : Hid (w5.heap[kh]? = some (.cells #[.slice none 0 0, .slice none 0 0] 36 (0, 0))) := below_row hb (row_lt VZ_w4.out) VZ_w4.out
           obtain ⟨z0, z1⟩ := cells2 VZ_w5.out
           have zf := fun i => frozen_of_row _ _ i _ _ VZ_w5.out
           have e1 : grn = hrn := by rw [<- hsl, <- HNR.out]; have := congrArg List.length hk9; simpa using this.symm
           have e2 : gln = hln := by rw [<- hll9]; exact HNL.out.symm
           subst e1 e2
           have HSHN : Hid (SH.length = grn) := hsl
           have HSHK : Hid (SH.map RT.key = GR.map RT.key) := hk9
           have R_w5 : Hid (PO w5 w.heap.size (.slice hra grn hrc) SH (.slice hla gln hlc) GL) := hpo.base (B6.out.below Z_w4.out).b.size
           clear hsl hll9 hk9 hpo hap
           clear hb IG
           (try go_wp2_with fail)
           refine hK.out _ _ ?_ (fun hHeld => ?_)
           · exact lp7 (B6.out.below Z_w5.out)
           clear hK K
           (try simp only [Act.put, List.setIfInBounds_toArray, List.set_cons_zero, List.set_cons_succ])
           refine tkH 6 hHeld ?_
           refine tkH 7 hHeld ?_
           refine tkH 8 hHeld ?_
           refine wpAnyH_ready (rs := [10]) (by kernel_rfl) (by simp) ?_
           refine AllReadyH.cons rfl (fun K hK => ?_) AllReadyH.nil
           have s1 := heap_setCell_same w5 kh 0 _ _ (Value.slice hra grn hrc) VZ_w5.out
           have V31 : Hid (((w5.setCell ⟨kh, 0, none⟩ (.slice hra grn hrc)).setCell ⟨kh, 1, none⟩ (.slice hla gln hlc)).heap[kh]? = some (.cells #[.slice hra grn hrc, .slice hla gln hlc] 36 (0, 0))) := by
             have s2 := heap_setCell_same _ kh 1 _ _ (Value.slice hla gln hlc) s1
             simp at s2
             exact s2
           have B31 : Hid (LPB w ((w5.setCell ⟨kh, 0, none⟩ (.slice hra grn hrc)).setCell ⟨kh, 1, none⟩ (.slice hla gln hlc)) _ _) := ⟨((B6.out.below Z_w5.out).b.setCell (by have := HZL.out; simp; omega) _).setCell (by have := HZL.out; simp; omega) _, row_set' (row_set' (B6.out.below Z_w5.out).2.1 (by have := HZL.out; omega)) (by have := HZL.out; omega), row_set' (row_set' (B6.out.below Z_w5.out).2.2 (by have := HZL.out; omega)) (by have := HZL.out; omega)⟩
           have Z31 : Hid (Below w6.heap.size w6 ((w5.setCell ⟨kh, 0, none⟩ (.slice hra grn hrc)).setCell ⟨kh, 1, none⟩ (.slice hla gln hlc))) := (Z_w5.out.setCell HZM.out.1 _).setCell HZM.out.1 _
           have M31 : Hid (PO ((w5.setCell ⟨kh, 0, none⟩ (.slice hra grn hrc)).setCell ⟨kh, 1, none⟩ (.slice hla gln hlc)) b9 (.slice gra grn grc) (mkS SG 1) (.slice gla gln glc) (seqL (mkK SG 1) gln)) := (M_w5.out.box VZ_w5.out).box s1
           have KG31 : Hid (((w5.setCell ⟨kh, 0, none⟩ (.slice hra grn hrc)).setCell ⟨kh, 1, none⟩ (.slice hla gln hlc)).heap[kg]? = some (.cells #[.slice gra grn grc, .slice gla gln glc] 36 (0, 0))) := row_set' (row_set' KG_w5.out (by have := HZM.out.2; omega)) (by have := HZM.out.2; omega)
           have H31 : Hid (PO ((w5.setCell ⟨kh, 0, none⟩ (.slice hra grn hrc)).setCell ⟨kh, 1, none⟩ (.slice hla gln hlc)) w.heap.size (.slice hra grn hrc) SH (.slice hla gln hlc) GL) := (R_w5.out.box VZ_w5.out).box s1
           clear s1
           go_simp
           refine hK.out _ _ ?_ (fun hHeld => ?_)
           · exact lp7 B31.out
           clear hK K
           generalize ((w5.setCell ⟨kh, 0, none⟩ (.slice hra grn hrc)).setCell ⟨kh, 1, none⟩ (.slice hla gln hlc)) = w31 at *
           refine tkH 11 hHeld ?_
           refine wpAnyH_done (by kernel_rfl) ?_ _
           clear hHeld
           (try go_wp2_with fail)
           go_meet
           exact ⟨kh, hra, hla, hrc, hlc, SH, rfl, rfl, Z31.out, M31.out, KG31.out, V31.out, H31.out, HSHN.out, HSHK.out⟩
         refine AllReadyH.cons rfl (fun K hK => ?_) AllReadyH.nil
         have Z_z : Hid (Below w6.heap.size w6 (wd.alloc (.cells #[.slice none 0 0, .slice none 0 0] 36))) := Z_d.out.trans (Below.mono ((Below.refl wd.heap.size wd).alloc (Nat.le_refl _) (.cells #[.slice none 0 0, .slice none 0 0] 36)) Z_d.out.size)
         have M_z : Hid (PO (wd.alloc (.cells #[.slice none 0 0, .slice none 0 0] 36)) b9 (.slice gra grn grc) (mkS SG 1) (.slice gla gln glc) (seqL (mkK SG 1) gln)) := M_d.out.below ((Below.refl wd.heap.size wd).alloc (Nat.le_refl _) (.cells #[.slice none 0 0, .slice none 0 0] 36))
         have KG_z : Hid ((wd.alloc (.cells #[.slice none 0 0, .slice none 0 0] 36)).heap[kg]? = some (.cells #[.slice gra grn grc, .slice gla gln glc] 36 (0, 0))) := below_row ((Below.refl wd.heap.size wd).alloc (Nat.le_refl _) (.cells #[.slice none 0 0, .slice none 0 0] 36)) (row_lt KG_d.out) KG_d.out
         have VZ0 : Hid ((wd.alloc (.cells #[.slice none 0 0, .slice none 0 0] 36)).heap[wd.heap.size]? = some (.cells #[.slice none 0 0, .slice none 0 0] 36 (0, 0))) := heap_alloc_new _ _
         have HZL : Hid (w.heap.size + 2 <= wd.heap.size) := row_lt (B6.out.below Z_d.out).2.2
         have HZM : Hid (w6.heap.size <= wd.heap.size /\ kg < wd.heap.size) := ⟨Z_d.out.size, row_lt KG_d.out⟩
         go_simp
         refine hK.out _ _ ?_ (fun hHeld => ?_)
         · exact lp7 (B6.out.below Z_z.out)
         clear hK K
         (try simp only [Act.put, List.setIfInBounds_toArray, List.set_cons_zero, List.set_cons_succ])
         obtain ⟨kh, HKZ⟩ : ∃ v, Hid (wd.heap.size = v) := ⟨_, rfl⟩
         rw [HKZ.out] at VZ0 HZL HZM ⊢
         generalize (wd.alloc (.cells #[.slice none 0 0, .slice none 0 0] 36)) = wz at *
         obtain ⟨z0, z1⟩ := cells2 VZ0.out
         have zf := fun i => frozen_of_row _ _ i _ _ VZ0.out
         refine wpAnyH_ready (rs := [1]) (by kernel_rfl) (by simp) ?_
         refine AllReadyH.cons rfl (fun K hK => ?_) AllReadyH.nil
         go_simp
         refine (toCase_any n fine a ao av cap ko co kv cv zs os vs wz (HA.out.below (B6.out.below Z_z.out).b) (HO.out.below (B6.out.below Z_z.out).b) (HV.out.below (B6.out.below Z_z.out).b) HLO.out HLV.out hs1 hs2 hs3).mono ?_
         rintro e w3 ⟨g3, go3, gv3, _, _, _, rfl, hb, hg⟩
         have Z_w3 : Hid (Below w6.heap.size w6 w3) := Z_z.out.trans (Below.mono hb Z_z.out.size)
         have M_w3 : Hid (PO w3 b9 (.slice gra grn grc) (mkS SG 1) (.slice gla gln glc) (seqL (mkK SG 1) gln)) := M_z.out.below hb
         have KG_w3 : Hid (w3.heap[kg]? = some (.cells #[.slice gra grn grc, .slice gla gln glc] 36 (0, 0))) := below_row hb (row_lt KG_z.out) KG_z.out
         have VZ_w3 : Hid (w3.heap[kh]? = some (.cells #[.slice none 0 0, .slice none 0 0] 36 (0, 0))) := below_row hb (row_lt VZ0.out) VZ0.out
         obtain ⟨z0, z1⟩ := cells2 VZ_w3.out
         have zf := fun i => frozen_of_row _ _ i _ _ VZ_w3.out
         have C_w3 : Hid (CaseAt w3 g3 go3 gv3 zs os vs) := hg
         clear hb hg
         (try go_wp2_with fail)
         refine hK.out _ _ ?_ (fun hHeld => ?_)
         · exact lp7 (B6.out.below Z_w3.out)
         clear hK K
         (try simp only [Act.put, List.setIfInBounds_toArray, List.set_cons_zero, List.set_cons_succ])
         refine wpAnyH_ready (rs := [3]) (by kernel_rfl) (by simp) ?_
         refine AllReadyH.cons rfl (fun K hK => ?_) AllReadyH.nil
         go_simp
         refine (toPlan_at ra la rc lc R L w3 (HRT.out.below (B6.out.below Z_w3.out).b) (HL.out.below (B6.out.below Z_w3.out).b) hs4 HS5.out hs6).mono ?_
         rintro e w4 ⟨gr4, gl4, S4, rfl, hb, hg⟩
         have Z_w4 : Hid (Below w6.heap.size w6 w4) := Z_w3.out.trans (Below.mono hb Z_w3.out.size)
         have M_w4 : Hid (PO w4 b9 (.slice gra grn grc) (mkS SG 1) (.slice gla gln glc) (seqL (mkK SG 1) gln)) := M_w3.out.below hb
         have KG_w4 : Hid (w4.heap[kg]? = some (.cells #[.slice gra grn grc, .slice gla gln glc] 36 (0, 0))) := below_row hb (row_lt KG_w3.out) KG_w3.out
         have C_w4 : Hid (CaseAt w4 g3 go3 gv3 zs os vs) := C_w3.out.below hb
         have VZ_w4 : Hid (w4.heap[kh]? = some (.cells #[.slice none 0 0, .slice none 0 0] 36 (0, 0))) := below_row hb (row_lt VZ_w3.out) VZ_w3.out
         obtain ⟨z0, z1⟩ := cells2 VZ_w4.out
         have zf := fun i => frozen_of_row _ _ i _ _ VZ_w4.out
         have P_w4 : Hid (PlanAt w4 gr4 gl4 S4 R L) := hg
         clear hb hg
         (try go_wp2_with fail)
         refine hK.out _ _ ?_ (fun hHeld => ?_)
         · exact lp7 (B6.out.below Z_w4.out)
         clear hK K
         (try simp only [Act.put, List.setIfInBounds_toArray, List.set_cons_zero, List.set_cons_succ])
         refine wpAnyH_ready (rs := [5]) (by kernel_rfl) (by simp) ?_
         refine AllReadyH.cons rfl (fun K hK => ?_) AllReadyH.nil
         go_simp
         have IG := implDescended_at st9 n fine _ _ _ zs.length ko ko kv kv gr4 gl4 zs os vs L S4 R w4 C_w4.out.t C_w4.out.o C_w4.out.v P_w4.out HLO.out HLV.out (by omega) (by omega) hs4 HS5.out hs6 HS7.out HWL.out
         rw [HGF.out, HGR.out, HGL.out] at IG
         refine IG.mono ?_
         rintro e w5 ⟨hra, hrn, hrc, hla, hln, hlc, SH, rfl, hb, hsl, hll9, hk9, hpo, hap⟩
         have Z_w5 : Hid (Below w6.heap.size w6 w5) := Z_w4.out.trans (Below.mono hb Z_w4.out.size)
         have M_w5 : Hid (PO w5 b9 (.slice gra grn grc) (mkS SG 1) (.slice gla gln glc) (seqL (mkK SG 1) gln)) := M_w4.out.below hb
         have KG_w5 : Hid (w5.heap[kg]? = some (.cells #[.slice gra grn grc, .slice gla gln glc] 36 (0, 0))) := below_row hb (row_lt KG_w4.out) KG_w4.out
         have VZ_w5 : Hid (w5.heap[kh]? = some (.cells #[.slice none 0 0, .slice none 0 0] 36 (0, 0))) := below_row hb (row_lt VZ_w4.out) VZ_w4.out
         obtain ⟨z0, z1⟩ := cells2 VZ_w5.out
         have zf := fun i => frozen_of_row _ _ i _ _ VZ_w5.out
         have e1 : grn = hrn := by rw [<- hsl, <- HNR.out]; have := congrArg List.length hk9; simpa using this.symm
         have e2 : gln = hln := by rw [<- hll9]; exact HNL.out.symm
         subst e1 e2
         have HSHN : Hid (SH.length = grn) := hsl
         have HSHK : Hid (SH.map RT.key = GR.map RT.key) := hk9
         have R_w5 : Hid (PO w5 w.heap.size (.slice hra grn hrc) SH (.slice hla gln hlc) GL) := hpo.base (B6.out.below Z_w4.out).b.size
         clear hsl hll9 hk9 hpo hap
         clear hb IG
         (try go_wp2_with fail)
         refine hK.out _ _ ?_ (fun hHeld => ?_)
         · exact lp7 (B6.out.below Z_w5.out)
         clear hK K
         (try simp only [Act.put, List.setIfInBounds_toArray, List.set_cons_zero, List.set_cons_succ])
         refine tkH 6 hHeld ?_
         refine tkH 7 hHeld ?_
         refine tkH 8 hHeld ?_
         refine wpAnyH_ready (rs := [10]) (by kernel_rfl) (by simp) ?_
         refine AllReadyH.cons rfl (fun K hK => ?_) AllReadyH.nil
         have s1 := heap_setCell_same w5 kh 0 _ _ (Value.slice hra grn hrc) VZ_w5.out
         have V31 : Hid (((w5.setCell ⟨kh, 0, none⟩ (.slice hra grn hrc)).setCell ⟨kh, 1, none⟩ (.slice hla gln hlc)).heap[kh]? = some (.cells #[.slice hra grn hrc, .slice hla gln hlc] 36 (0, 0))) := by
           have s2 := heap_setCell_same _ kh 1 _ _ (Value.slice hla gln hlc) s1
           simp at s2
           exact s2
         have B31 : Hid (LPB w ((w5.setCell ⟨kh, 0, none⟩ (.slice hra grn hrc)).setCell ⟨kh, 1, none⟩ (.slice hla gln hlc)) _ _) := ⟨((B6.out.below Z_w5.out).b.setCell (by have := HZL.out; simp; omega) _).setCell (by have := HZL.out; simp; omega) _, row_set' (row_set' (B6.out.below Z_w5.out).2.1 (by have := HZL.out; omega)) (by have := HZL.out; omega), row_set' (row_set' (B6.out.below Z_w5.out).2.2 (by have := HZL.out; omega)) (by have := HZL.out; omega)⟩
         have Z31 : Hid (Below w6.heap.size w6 ((w5.setCell ⟨kh, 0, none⟩ (.slice hra grn hrc)).setCell ⟨kh, 1, none⟩ (.slice hla gln hlc))) := (Z_w5.out.setCell HZM.out.1 _).setCell HZM.out.1 _
         have M31 : Hid (PO ((w5.setCell ⟨kh, 0, none⟩ (.slice hra grn hrc)).setCell ⟨kh, 1, none⟩ (.slice hla gln hlc)) b9 (.slice gra grn grc) (mkS SG 1) (.slice gla gln glc) (seqL (mkK SG 1) gln)) := (M_w5.out.box VZ_w5.out).box s1
         have KG31 : Hid (((w5.setCell ⟨kh, 0, none⟩ (.slice hra grn hrc)).setCell ⟨kh, 1, none⟩ (.slice hla gln hlc)).heap[kg]? = some (.cells #[.slice gra grn grc, .slice gla gln glc] 36 (0, 0))) := row_set' (row_set' KG_w5.out (by have := HZM.out.2; omega)) (by have := HZM.out.2; omega)
         have H31 : Hid (PO ((w5.setCell ⟨kh, 0, none⟩ (.slice hra grn hrc)).setCell ⟨kh, 1, none⟩ (.slice hla gln hlc)) w.heap.size (.slice hra grn hrc) SH (.slice hla gln hlc) GL) := (R_w5.out.box VZ_w5.out).box s1
         clear s1
         go_simp
         refine hK.out _ _ ?_ (fun hHeld => ?_)
         · exact lp7 B31.out
         clear hK K
         generalize ((w5.setCell ⟨kh, 0, none⟩ (.slice hra grn hrc)).setCell ⟨kh, 1, none⟩ (.slice hla gln hlc)) = w31 at *
         refine tkH 11 hHeld ?_
         refine wpAnyH_done (by kernel_rfl) ?_ _
         clear hHeld
         (try go_wp2_with fail)
         go_meet
         exact ⟨kh, hra, hla, hrc, hlc, SH, rfl, rfl, Z31.out, M31.out, KG31.out, V31.out, H31.out, HSHN.out, HSHK.out⟩
       case rest =>
         obtain ⟨kh, hra, hla, hrc, hlc, SH, rfl, rfl, hZ, hM, hK, hV, hH, hN, hKy⟩ := hcut
         have Z31 : Hid (Below w6.heap.size w6 wc) := hZ
         have M31 : Hid (PO wc b9 (.slice gra grn grc) (mkS SG 1) (.slice gla gln glc) (seqL (mkK SG 1) gln)) := hM
         have KG31 : Hid (wc.heap[kg]? = some (.cells #[.slice gra grn grc, .slice gla gln glc] 36 (0, 0))) := hK
         have V31 : Hid (wc.heap[kh]? = some (.cells #[.slice hra grn hrc, .slice hla gln hlc] 36 (0, 0))) := hV
         have H31 : Hid (PO wc w.heap.size (.slice hra grn hrc) SH (.slice hla gln hlc) GL) := hH
         have HSHN : Hid (SH.length = grn) := hN
         have HSHK : Hid (SH.map RT.key = GR.map RT.key) := hKy
         clear hZ hM hK hV hH hN hKy Z M KG
         have VW31 : Hid (wc.heap[kw]? = some (.cells #[.slice wra grn wrc, .slice wla gln wlc] 36 (0, 0))) := below_row Z31.out (row_lt V6.out) V6.out
         have W31 : Hid (PO wc w.heap.size (.slice wra grn wrc) SW (.slice wla gln wlc) GL) := P6.out.below Z31.out
         have EQ3 := eqPlan_same hra wra hla wla hrc wrc grn hlc wlc SH SW GL wc (po_at H31.out HSHN.out) (po_at W31.out HSWN.out) (HSWK.out.trans HSHK.out.symm) HSHN.out (by omega) (fun r hr => by have := (key_in HSHK.out HBI.out r hr).2; omega) (po_l H31.out HNL.out) (po_l W31.out HNL.out) (by rw [HNL.out]; omega)
         rw [HNL.out] at EQ3
         obtain ⟨k0, k1⟩ := cells2 V31.out
         obtain ⟨v0, v1⟩ := cells2 VW31.out
         go_wp2_with fail
         refine EQ3.mono ?_
         rintro e w32 ⟨rfl, hb⟩
         have M32 : Hid (PO w32 b9 (.slice gra grn grc) (mkS SG 1) (.slice gla gln glc) (seqL (mkK SG 1) gln)) := M31.out.below hb
         have Z32 : Hid (Below w6.heap.size w6 w32) := Z31.out.trans (Below.mono hb Z31.out.size)
         have KG32 : Hid (w32.heap[kg]? = some (.cells #[.slice gra grn grc, .slice gla gln glc] 36 (0, 0))) := below_row hb (row_lt KG31.out) KG31.out
         clear hb EQ3 W31 VW31 k0 k1 v0 v1 M31 Z31 KG31 H31 V31
         obtain ⟨k0, k1⟩ := cells2 KG32.out
         go_wp2_with fail
         refine (HHP.out w32 M32.out).mono ?_
         rintro e w33 ⟨rfl, hb⟩
         have B33 : Hid (Below w.heap.size w w33) := (B6.out.below (Z32.out.trans (Below.mono hb Z32.out.size))).b
         clear hb
         go_wp2
         go_ret
         exact ⟨rfl, B33.out⟩
end Go.Proofs.YtfpegaldloadaaaGreat
