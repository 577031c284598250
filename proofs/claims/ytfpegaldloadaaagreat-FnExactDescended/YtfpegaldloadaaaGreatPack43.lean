import Derived.Test.YtfpegaldloadaaaGreatPack2
import Derived.Test.YtfpegaldloadaaaGreatPack3
import Derived.Test.YtfpegaldloadaaaGreatPack9
import Derived.Test.YtfpegaldloadaaaGreatPack11
import Derived.Test.YtfpegaldloadaaaGreatPack29
import Derived.Test.YtfpegaldloadaaaGreatPack30
import Derived.Test.YtfpegaldloadaaaGreatPack33
import Derived.Test.YtfpegaldloadaaaGreatPack35
import Derived.Test.YtfpegaldloadaaaGreatPack41
import Derived.Deep.RegionHeld3
import Derived.Deep.CutRange
namespace Go.Proofs.YtfpegaldloadaaaGreat
open Go.RowKit
def SpecOkM (w : World) (v : Int) (f : Bool) (T : List RT) (L : List Int) (e : Ending) (w' : World) : Prop := ∃ ra rn rc la ln lc S, e = .returned (.tuple #[.agg #[.slice ra rn rc, .slice la ln lc], .int .i64 v, .bool f]) /\ Below w.heap.size w w' /\ S.length = rn /\ L.length = ln /\ S.map RT.key = T.map RT.key /\ PO w' w.heap.size (.slice ra rn rc) S (.slice la ln lc) L /\ (f = true -> ∃ g, la = some ⟨g, 0, none⟩)
set_option maxRecDepth 10000 in
set_option maxHeartbeats 4000000 in
theorem specRelocM_any (id tv pl n fine : Int) (a ao av ra : Option Addr) (zl cap ko co kv cv nr rc bl ol ln lc : Nat) (zs os vs L : List Int) (R : List RT) (w : World) (hA : IntsAt w a zs) (hO : IntsAt w ao os) (hV : IntsAt w av vs) (hlz : zs.length = zl) (hlo : os.length = ko * 6) (hlv : vs.length = kv * 5) (hko : ko <= 9223372036854775807) (hkv : kv <= 9223372036854775807) (hP : PlanIs w ra (some ⟨bl, ol, none⟩) nr ln R L) (hn : nr <= 1048576) (hi : ∀ r ∈ R, r.ids.length <= 1048576) (hll : ln <= 1048576) (hal : (allTo R R.length).length <= 1048576) :
   Calls Tryz.prog 8 #[.agg #[.int .i64 n, .slice a zl cap, .slice ao ko co, .slice av kv cv, .int .i64 fine], .agg #[.slice ra nr rc, .slice (some ⟨bl, ol, none⟩) ln lc], .int .i64 id, .int .i64 tv, .int .i64 pl] w (SpecOkM w (rqD id tv pl n fine zs os vs ko kv R L) (rqB id tv pl n fine zs os vs ko kv R L) (rqR id tv pl n fine zs os vs ko kv R L) (rqL id tv pl n fine zs os vs ko kv R L)) := by
 have HA : Hid (IntsAt w a zs) := hA
 have HO : Hid (IntsAt w ao os) := hO
 have HV : Hid (IntsAt w av vs) := hV
 have HLZ : Hid (zs.length = zl) := hlz
 have HLO : Hid (os.length = ko * 6) := hlo
 have HLV : Hid (vs.length = kv * 5) := hlv
 have HP : Hid (PlanIs w ra (some ⟨bl, ol, none⟩) nr ln R L) := hP
 have HN : Hid (R.length = nr) := hP.1
 have HM : Hid (L.length = ln) := hP.2.1
 have HI : Hid (∀ r ∈ R, r.ids.length <= 1048576) := hi
 clear hA hO hV hlz hlo hlv hP hi
 obtain ⟨pv, HPV⟩ : ∃ v, Hid (planV n zs os vs ko kv fine R L = v) := ⟨_, rfl⟩
 have HNO : Hid (rqB id tv pl n fine zs os vs ko kv R L = false -> rqD id tv pl n fine zs os vs ko kv R L = 0 /\ rqB id tv pl n fine zs os vs ko kv R L = false /\ rqR id tv pl n fine zs os vs ko kv R L = [] /\ rqL id tv pl n fine zs os vs ko kv R L = []) := fun h => by
   unfold rqD rqR rqL
   rw [h]
   exact ⟨rfl, rfl, rfl, rfl⟩
 have HYE : Hid (rqB id tv pl n fine zs os vs ko kv R L = true -> rqD id tv pl n fine zs os vs ko kv R L = costR n zs os vs ko kv (rlN R id tv pl.toNat) (fine * L.length) (rlN R id tv pl.toNat).length - costR n zs os vs ko kv R (fine * L.length) R.length /\ rqR id tv pl n fine zs os vs ko kv R L = rlN R id tv pl.toNat /\ rqL id tv pl n fine zs os vs ko kv R L = L) := fun h => by
   unfold rqD rqR rqL
   rw [h]
   exact ⟨rfl, rfl, rfl⟩
 have HBE : Hid (rqB id tv pl n fine zs os vs ko kv R L = (decide (pv = 0) && (decide (id ∈ allTo R R.length) && (inB pl 0 ((rtOf (lvR R id) tv).ids.length : Int) && decide (planV n zs os vs ko kv fine (rlN R id tv pl.toNat) L = 0))))) := by
   show _ = _
   unfold rqB
   rw [HPV.out]
 obtain ⟨GD, HGD⟩ : ∃ v, Hid (rqD id tv pl n fine zs os vs ko kv R L = v) := ⟨_, rfl⟩
 obtain ⟨GB, HGB⟩ : ∃ v, Hid (rqB id tv pl n fine zs os vs ko kv R L = v) := ⟨_, rfl⟩
 obtain ⟨GR, HGR⟩ : ∃ v, Hid (rqR id tv pl n fine zs os vs ko kv R L = v) := ⟨_, rfl⟩
 obtain ⟨GL, HGL⟩ : ∃ v, Hid (rqL id tv pl n fine zs os vs ko kv R L = v) := ⟨_, rfl⟩
 rw [HGD.out, HGB.out, HGR.out, HGL.out] at HNO HYE
 rw [HGB.out] at HBE
 rw [HGD.out, HGB.out, HGR.out, HGL.out]
 clear HGD HGB HGR HGL
 have Q0 : Hid (GQ w (((w.alloc (.cells #[.int .i64 n, .slice a zl cap, .slice ao ko co, .slice av kv cv, .int .i64 fine] 43)).alloc (.cells #[.slice ra nr rc, .slice (some ⟨bl, ol, none⟩) ln lc] 36)).alloc (.cells #[.slice none 0 0, .slice none 0 0] 36)) #[.int .i64 n, .slice a zl cap, .slice ao ko co, .slice av kv cv, .int .i64 fine] #[.slice ra nr rc, .slice (some ⟨bl, ol, none⟩) ln lc]) := by
   refine ⟨(((Below.refl _ _).alloc (Nat.le_refl _) _).alloc (by simp) _).alloc (by simp; omega) _, ?_, ?_, ?_⟩
   · exact (heap_alloc_old _ _ (by simp; omega)).trans (heap_alloc2_old _ _ _)
   · exact (heap_alloc_old _ _ (by simp)).trans (heap_alloc2_new _ _ _)
   · have := heap_alloc_new ((w.alloc (.cells #[.int .i64 n, .slice a zl cap, .slice ao ko co, .slice av kv cv, .int .i64 fine] 43)).alloc (.cells #[.slice ra nr rc, .slice (some ⟨bl, ol, none⟩) ln lc] 36)) (.cells #[.slice none 0 0, .slice none 0 0] 36)
     simpa using this
 have PCA : Hid (∀ W, Below w.heap.size w W -> Calls Tryz.prog 26 #[.agg #[.int .i64 n, .slice a zl cap, .slice ao ko co, .slice av kv cv, .int .i64 fine], .agg #[.slice ra nr rc, .slice (some ⟨bl, ol, none⟩) ln lc]] W fun e w' => e = .returned (.int .i64 pv) /\ Below W.heap.size W w') := fun W hW => by
   have PC := specPlan_any n fine a ao av ra (some ⟨bl, ol, none⟩) cap ko co kv cv rc lc zs os vs L R W (HA.out.below hW) (HO.out.below hW) (HV.out.below hW) (HP.out.2.2.1.below hW) (HP.out.2.2.2.1.below hW) HLO.out HLV.out hko hkv (by rw [HN.out]; exact hn) HI.out HP.out.2.2.2.2.2.2 (by rw [HM.out]; exact hll) hal
   rw [HN.out, HM.out, HLZ.out, HPV.out] at PC
   exact PC
 obtain ⟨c0, c1, c2, c3, c4⟩ := cells5 Q0.out.c
 obtain ⟨p0, p1⟩ := cells2 Q0.out.p
 go_enter Tryz.func8, Tryz.ntmps8
 go_wp2_with fail
 generalize ((w.alloc (.cells #[.int .i64 n, .slice a zl cap, .slice ao ko co, .slice av kv cv, .int .i64 fine] 43)).alloc (.cells #[.slice ra nr rc, .slice (some ⟨bl, ol, none⟩) ln lc] 36)).alloc (.cells #[.slice none 0 0, .slice none 0 0] 36) = W0 at *
 refine (PCA.out W0 Q0.out.b).mono ?_
 rintro e w1 ⟨rfl, hb⟩
 have Q1 : Hid (GQ w w1 #[.int .i64 n, .slice a zl cap, .slice ao ko co, .slice av kv cv, .int .i64 fine] #[.slice ra nr rc, .slice (some ⟨bl, ol, none⟩) ln lc]) := Q0.out.below hb
 clear hb c0 c1 c2 c3 c4 p0 p1 Q0
 by_cases hpv : pv = 0
 rotate_left
 · have hpn : (pv != 0) = true := by simp [hpv]
   obtain ⟨g1, g2, g3, g4⟩ := HNO.out (by rw [HBE.out, decide_eq_false hpv, Bool.false_and])
   subst g1 g2 g3 g4
   obtain ⟨a0, a1⟩ := cells2 Q1.out.o
   have af := fun i => frozen_of_row _ _ i _ _ Q1.out.o
   have BE := Q1.out.b
   clear HNO HYE HBE
   go_wp2
   refine bodyPost_ret (v := .tuple #[.agg #[.slice none 0 0, .slice none 0 0], .int .i64 0, .bool false]) (by simp [results, Tryz.results8, go_sem, a0, a1]) rfl ?_
   show SpecOkM _ _ _ _ _ _ _
   exact ⟨none, 0, 0, none, 0, 0, [], rfl, (BE.setCell (by simp <;> omega) _).setCell (by simp <;> omega) _, rfl, rfl, rfl, ⟨World.ownsRow_nil _ _ _ _, (fun s hs => by cases hs), World.ownsRow_nil _ _ _ _⟩, (fun h => by cases h)⟩
 · have hpn : (pv != 0) = false := by simp [hpv]
   have HPL : Hid (planV n zs os vs ko kv fine R L = 0) := HPV.out.trans hpv
   have hps := plan_small HPL.out
   rw [decide_eq_true hpv, Bool.true_and] at HBE
   have SV := specServed_opt n fine a ao av ra (some ⟨bl, ol, none⟩) cap ko co kv cv rc lc zs os vs L R w1 (HP.out.2.2.1.below Q1.out.b) (by rw [HN.out]; exact hn) HP.out.2.2.2.2.2.2 pv HPV.out (fun X hX => by rw [HLZ.out, HN.out, HM.out]; exact PCA.out X (Q1.out.b.trans (hX.mono Q1.out.b.size)))
   have hsv : servV n zs os vs ko kv fine R L = srtS (allTo R R.length) := by unfold servV; rw [if_pos HPL.out]
   obtain ⟨X, HX⟩ : ∃ v, Hid (srtS (allTo R R.length) = v) := ⟨_, rfl⟩
   obtain ⟨xl, HXL⟩ : ∃ v, Hid (X.length = v) := ⟨_, rfl⟩
   rw [hsv, HX.out, HXL.out, HLZ.out, HN.out, HM.out] at SV
   have hx12 : xl <= 12 := by rw [<- HXL.out, <- HX.out, srtS_len]; exact (serv_small HPL.out).1
   clear hsv
   obtain ⟨c0, c1, c2, c3, c4⟩ := cells5 Q1.out.c
   obtain ⟨p0, p1⟩ := cells2 Q1.out.p
   go_wp2_with fail
   refine SV.mono ?_
   rintro e w2 ⟨sl, rfl, hb, ho⟩
   obtain ⟨sa, sc, hsl⟩ := own_formL ho
   subst hsl
   have Q2 : Hid (GQ w w2 #[.int .i64 n, .slice a zl cap, .slice ao ko co, .slice av kv cv, .int .i64 fine] #[.slice ra nr rc, .slice (some ⟨bl, ol, none⟩) ln lc]) := Q1.out.below hb
   have LH := l3Has_any sa xl sc id X w2 (ints_ownL ho) (by rw [HXL.out]; exact Nat.le_refl _) (by omega)
   have hhm := hasTo_mem X id
   rw [HXL.out] at hhm
   rw [hhm] at LH
   clear hb ho SV c0 c1 c2 c3 c4 p0 p1 Q1 hhm
   by_cases hid : id ∈ allTo R R.length
   rotate_left
   · have hX9 : id ∉ X := by rw [<- HX.out, srtS_mem]; exact hid
     rw [decide_eq_false hX9] at LH
     obtain ⟨g1, g2, g3, g4⟩ := HNO.out (by rw [HBE.out, decide_eq_false hid, Bool.false_and])
     subst g1 g2 g3 g4
     obtain ⟨a0, a1⟩ := cells2 Q2.out.o
     have af := fun i => frozen_of_row _ _ i _ _ Q2.out.o
     have BE := Q2.out.b
     clear HNO HYE HBE
     go_wp2_with (go_at_call 27; refine LH.mono ?_; rintro e w' ⟨rfl, hw'⟩; subst w')
     refine bodyPost_ret (v := .tuple #[.agg #[.slice none 0 0, .slice none 0 0], .int .i64 0, .bool false]) (by simp [results, Tryz.results8, go_sem, a0, a1]) rfl ?_
     show SpecOkM _ _ _ _ _ _ _
     exact ⟨none, 0, 0, none, 0, 0, [], rfl, (BE.setCell (by simp <;> omega) _).setCell (by simp <;> omega) _, rfl, rfl, rfl, ⟨World.ownsRow_nil _ _ _ _, (fun s hs => by cases hs), World.ownsRow_nil _ _ _ _⟩, (fun h => by cases h)⟩
   · have hX9 : id ∈ X := by rw [<- HX.out, srtS_mem]; exact hid
     rw [decide_eq_true hX9] at LH
     rw [decide_eq_true hid, Bool.true_and] at HBE
     obtain ⟨k, hk, hin, -⟩ := first_route hid
     have MV := l6Move_any id tv pl n fine a ao av ra zl cap ko co kv cv nr rc bl ol ln lc zs os vs L R w2 (HA.out.below Q2.out.b) (HO.out.below Q2.out.b) (HV.out.below Q2.out.b) HLZ.out HLO.out HLV.out hko hkv (HP.out.below Q2.out.b) HPL.out k hk hin
     clear hX9 hk hin hid HX
     obtain ⟨c0, c1, c2, c3, c4⟩ := cells5 Q2.out.c
     obtain ⟨p0, p1⟩ := cells2 Q2.out.p
     go_wp2_with (go_at_call 27; refine LH.mono ?_; rintro e w' ⟨rfl, hw'⟩; subst w')
     refine MV.mono ?_
     rintro e w3 ⟨hb, ⟨hib, rfl⟩ | ⟨hib, ra3, n3, rc3, gl3, lc3, S3, rfl, hn3, hk3, ho3⟩⟩
     · rw [hib, Bool.false_and] at HBE
       have QA : Hid (GQ w (w3.alloc (.cells #[.slice none 0 0, .slice none 0 0] 36)) #[.int .i64 n, .slice a zl cap, .slice ao ko co, .slice av kv cv, .int .i64 fine] #[.slice ra nr rc, .slice (some ⟨bl, ol, none⟩) ln lc]) := (Q2.out.below hb).below ((Below.refl _ _).alloc (Nat.le_refl _) _)
       clear hb MV LH hib c0 c1 c2 c3 c4 p0 p1
       obtain ⟨g1, g2, g3, g4⟩ := HNO.out (by rw [HBE.out])
       subst g1 g2 g3 g4
       obtain ⟨a0, a1⟩ := cells2 QA.out.o
       have af := fun i => frozen_of_row _ _ i _ _ QA.out.o
       have BE := QA.out.b
       clear HNO HYE HBE
       go_wp2
       refine bodyPost_ret (v := .tuple #[.agg #[.slice none 0 0, .slice none 0 0], .int .i64 0, .bool false]) (by simp [results, Tryz.results8, go_sem, a0, a1]) rfl ?_
       show SpecOkM _ _ _ _ _ _ _
       exact ⟨none, 0, 0, none, 0, 0, [], rfl, (BE.setCell (by simp <;> omega) _).setCell (by simp <;> omega) _, rfl, rfl, rfl, ⟨World.ownsRow_nil _ _ _ _, (fun s hs => by cases hs), World.ownsRow_nil _ _ _ _⟩, (fun h => by cases h)⟩
     · rw [hib, Bool.true_and] at HBE
       rw [HM.out] at ho3 ⊢
       have Q3 : Hid (GQ w w3 #[.int .i64 n, .slice a zl cap, .slice ao ko co, .slice av kv cv, .int .i64 fine] #[.slice ra nr rc, .slice (some ⟨bl, ol, none⟩) ln lc]) := Q2.out.below hb
       have HN3 : Hid (S3.length = n3) := hn3
       have HK3 : Hid (S3.map RT.key = (rlN R id tv pl.toNat).map RT.key) := hk3
       have hA : Below w3.heap.size w3 (w3.alloc (.cells #[.slice ra3 n3 rc3, .slice (some ⟨gl3, 0, none⟩) ln lc3] 36)) := (Below.refl _ _).alloc (Nat.le_refl _) _
       have Q4 : Hid (GQ w (w3.alloc (.cells #[.slice ra3 n3 rc3, .slice (some ⟨gl3, 0, none⟩) ln lc3] 36)) #[.int .i64 n, .slice a zl cap, .slice ao ko co, .slice av kv cv, .int .i64 fine] #[.slice ra nr rc, .slice (some ⟨bl, ol, none⟩) ln lc]) := Q3.out.below hA
       have B4 : Hid ((w3.alloc (.cells #[.slice ra3 n3 rc3, .slice (some ⟨gl3, 0, none⟩) ln lc3] 36)).heap[w3.heap.size]? = some (.cells #[.slice ra3 n3 rc3, .slice (some ⟨gl3, 0, none⟩) ln lc3] 36 (0, 0))) := heap_alloc_new _ _
       have O4 : Hid (PO (w3.alloc (.cells #[.slice ra3 n3 rc3, .slice (some ⟨gl3, 0, none⟩) ln lc3] 36)) (w.heap.size + 3) (.slice ra3 n3 rc3) S3 (.slice (some ⟨gl3, 0, none⟩) ln lc3) L) := (ho3.base Q2.out.size).below hA
       have HKO : Hid (w.heap.size + 3 <= w3.heap.size) := Q3.out.size
       clear hA hb hn3 hk3 ho3 MV LH hib c0 c1 c2 c3 c4 p0 p1 Q2 Q3
       by_cases hw : planV n zs os vs ko kv fine (rlN R id tv pl.toNat) L = 0
       rotate_left
       · rw [decide_eq_false hw] at HBE
         rw [decide_eq_false hw]
         obtain ⟨g1, g2, g3, g4⟩ := HNO.out (by rw [HBE.out])
         subst g1 g2 g3 g4
         obtain ⟨a0, a1⟩ := cells2 Q4.out.o
         have af := fun i => frozen_of_row _ _ i _ _ Q4.out.o
         have BE := Q4.out.b
         clear HNO HYE HBE
         go_wp2
         refine bodyPost_ret (v := .tuple #[.agg #[.slice none 0 0, .slice none 0 0], .int .i64 0, .bool false]) (by simp [results, Tryz.results8, go_sem, a0, a1]) rfl ?_
         show SpecOkM _ _ _ _ _ _ _
         exact ⟨none, 0, 0, none, 0, 0, [], rfl, (BE.setCell (by simp <;> omega) _).setCell (by simp <;> omega) _, rfl, rfl, rfl, ⟨World.ownsRow_nil _ _ _ _, (fun s hs => by cases hs), World.ownsRow_nil _ _ _ _⟩, (fun h => by cases h)⟩
       · rw [decide_eq_true hw] at HBE
         rw [decide_eq_true hw]
         obtain ⟨y1, y2, y3⟩ := HYE.out HBE.out
         have hps2 := plan_small hw
         have bd1 := costR_bd (planV_zero HPL.out).1 (planV_zero HPL.out).2.1 (fine * L.length) R.length (Nat.le_refl _)
         have bd2 := costR_bd (planV_zero hw).1 (planV_zero hw).2.1 (fine * L.length) (rlN R id tv pl.toNat).length (Nat.le_refl _)
         have LC1 : Hid (∀ W, Below w.heap.size w W -> _) := fun W hW => l4Cost_any n fine a ao av ra (some ⟨bl, ol, none⟩) cap ko co kv cv rc lc zs os vs L R W (HA.out.below hW) (HO.out.below hW) (HV.out.below hW) (HP.out.2.2.1.below hW) HLO.out HLV.out hko hkv HPL.out
         have LC2 : Hid (∀ W, Below w.heap.size w W -> PO W (w.heap.size + 3) (.slice ra3 n3 rc3) S3 (.slice (some ⟨gl3, 0, none⟩) ln lc3) L -> Calls Tryz.prog 30 #[.agg #[.int .i64 n, .slice a zl cap, .slice ao ko co, .slice av kv cv, .int .i64 fine], .agg #[.slice ra3 n3 rc3, .slice (some ⟨gl3, 0, none⟩) ln lc3]] W fun e w' => e = .returned (.int .i64 (costR n zs os vs ko kv (rlN R id tv pl.toNat) (fine * L.length) (rlN R id tv pl.toNat).length)) /\ Below W.heap.size W w') := fun W hW hO => by
           have h9 := l4Cost_any n fine a ao av ra3 (some ⟨gl3, 0, none⟩) cap ko co kv cv rc3 lc3 zs os vs L S3 W (HA.out.below hW) (HO.out.below hW) (HV.out.below hW) (po_at hO HN3.out) HLO.out HLV.out hko hkv ((planV_key L HK3.out).trans hw)
           rw [costR_key HK3.out, HLZ.out] at h9
           have e9 : S3.length = (rlN R id tv pl.toNat).length := key_len HK3.out
           rw [e9] at h9
           rw [HN3.out] at e9
           rw [<- e9, HM.out] at h9
           rw [<- e9, HM.out]
           exact h9
         rw [HLZ.out, HN.out, HM.out] at LC1
         rw [HM.out] at y1 bd1 bd2 LC2
         rw [HN.out] at y1 bd1
         obtain ⟨d1, HD1⟩ : ∃ v, Hid (costR n zs os vs ko kv R (fine * (ln : Int)) nr = v) := ⟨_, rfl⟩
         obtain ⟨d2, HD2⟩ : ∃ v, Hid (costR n zs os vs ko kv (rlN R id tv pl.toNat) (fine * (ln : Int)) (rlN R id tv pl.toNat).length = v) := ⟨_, rfl⟩
         rw [HD1.out] at y1 bd1 LC1
         rw [HD2.out] at y1 bd2 LC2
         have hz := hps2.2.2
         rw [HM.out] at hz
         have hrl : (rlN R id tv pl.toNat).length <= 12 := hps2.1
         have hb1 : 0 <= d1 /\ d1 <= 20000000 := by have h1 := hps.1; rw [HN.out] at h1; omega
         have hb2 : 0 <= d2 /\ d2 <= 20000000 := by omega
         have hwr : IntKind.i64.wrap (d2 - d1) = d2 - d1 := IntWalk.i64_in _ (by omega)
         obtain ⟨hb11, hb12⟩ := hb1
         obtain ⟨hb21, hb22⟩ := hb2
         have HKG : Hid (S3.map RT.key = GR.map RT.key) := by show _ = _; rw [y2]; exact HK3.out
         have HBT := HBE.out
         have HGD : Hid (d2 - d1 = GD) := y1.symm
         clear y1 y2 bd1 bd2 hz hrl hps2 hw HYE HNO HBE
         subst HBT
         subst y3
         go_wp2_with fail
         generalize w3.alloc (.cells #[.slice ra3 n3 rc3, .slice (some ⟨gl3, 0, none⟩) ln lc3] 36) = W4 at *
         obtain ⟨kq, HKQ⟩ : ∃ v, Hid (w3.heap.size = v) := ⟨_, rfl⟩
         rw [HKQ.out] at B4 HKO ⊢
         refine wp_region_held_drew (S := (fun W => (W.cell? ⟨w.heap.size, 0, none⟩ = some (.int .i64 n) /\ W.cell? ⟨w.heap.size, 1, none⟩ = some (.slice a zl cap) /\ W.cell? ⟨w.heap.size, 2, none⟩ = some (.slice ao ko co) /\ W.cell? ⟨w.heap.size, 3, none⟩ = some (.slice av kv cv) /\ W.cell? ⟨w.heap.size, 4, none⟩ = some (.int .i64 fine)) /\ (W.cell? ⟨w.heap.size + 1, 0, none⟩ = some (.slice ra nr rc) /\ W.cell? ⟨w.heap.size + 1, 1, none⟩ = some (.slice (some ⟨bl, ol, none⟩) ln lc)) /\ W.cell? ⟨kq, 0, none⟩ = some (.slice ra3 n3 rc3) /\ W.cell? ⟨kq, 1, none⟩ = some (.slice (some ⟨gl3, 0, none⟩) ln lc3))) (by kernel_rfl) ?_ (fun hHeld => ?_)
         · exact ⟨cells5 (Q4.out.below (Below.refl _ _).drew).c, cells2 (Q4.out.below (Below.refl _ _).drew).p, cells2 (below_row (Below.refl _ _).drew (row_lt B4.out) B4.out)⟩
         have QD : Hid (GQ w W4.drew #[.int .i64 n, .slice a zl cap, .slice ao ko co, .slice av kv cv, .int .i64 fine] #[.slice ra nr rc, .slice (some ⟨bl, ol, none⟩) ln lc]) := Q4.out.below (Below.refl _ _).drew
         have BD : Hid (W4.drew.heap[kq]? = some (.cells #[.slice ra3 n3 rc3, .slice (some ⟨gl3, 0, none⟩) ln lc3] 36 (0, 0))) := below_row (Below.refl _ _).drew (row_lt B4.out) B4.out
         have OD : Hid (PO W4.drew (w.heap.size + 3) (.slice ra3 n3 rc3) S3 (.slice (some ⟨gl3, 0, none⟩) ln lc3) GL) := O4.out.below (Below.refl _ _).drew
         clear Q4 B4 O4
         generalize W4.drew = wd at *
         refine tkH 0 hHeld ?_
         refine tkH 1 hHeld ?_
         refine tkH 2 hHeld ?_
         refine tkH 4 hHeld ?_
         refine tkH 5 hHeld ?_
         refine wpAnyH_ready (rs := [3]) (by kernel_rfl) (by simp) ?_
         refine AllReadyH.cons rfl (fun K hK => ?_) AllReadyH.nil
         go_simp
         refine (LC2.out wd QD.out.b OD.out).mono ?_
         rintro e w5 ⟨rfl, hb⟩
         have Q5 : Hid (GQ w w5 #[.int .i64 n, .slice a zl cap, .slice ao ko co, .slice av kv cv, .int .i64 fine] #[.slice ra nr rc, .slice (some ⟨bl, ol, none⟩) ln lc]) := QD.out.below hb
         have B5 : Hid (w5.heap[kq]? = some (.cells #[.slice ra3 n3 rc3, .slice (some ⟨gl3, 0, none⟩) ln lc3] 36 (0, 0))) := below_row hb (row_lt BD.out) BD.out
         have O5 : Hid (PO w5 (w.heap.size + 3) (.slice ra3 n3 rc3) S3 (.slice (some ⟨gl3, 0, none⟩) ln lc3) GL) := OD.out.below hb
         clear hb
         (try go_wp2_with fail)
         refine hK.out _ _ ?_ (fun hHeld => ?_)
         · exact ⟨cells5 Q5.out.c, cells2 Q5.out.p, cells2 B5.out⟩
         clear hK K
         (try simp only [Act.put, List.setIfInBounds_toArray, List.set_cons_zero, List.set_cons_succ])
         refine wpAnyH_ready (rs := [6]) (by kernel_rfl) (by simp) ?_
         refine AllReadyH.cons rfl (fun K hK => ?_) AllReadyH.nil
         go_simp
         refine (LC1.out w5 Q5.out.b).mono ?_
         rintro e w6 ⟨rfl, hb⟩
         have Q6 : Hid (GQ w w6 #[.int .i64 n, .slice a zl cap, .slice ao ko co, .slice av kv cv, .int .i64 fine] #[.slice ra nr rc, .slice (some ⟨bl, ol, none⟩) ln lc]) := Q5.out.below hb
         have B6 : Hid (w6.heap[kq]? = some (.cells #[.slice ra3 n3 rc3, .slice (some ⟨gl3, 0, none⟩) ln lc3] 36 (0, 0))) := below_row hb (row_lt B5.out) B5.out
         have O6 : Hid (PO w6 (w.heap.size + 3) (.slice ra3 n3 rc3) S3 (.slice (some ⟨gl3, 0, none⟩) ln lc3) GL) := O5.out.below hb
         clear hb
         (try go_wp2_with fail)
         refine hK.out _ _ ?_ (fun hHeld => ?_)
         · exact ⟨cells5 Q6.out.c, cells2 Q6.out.p, cells2 B6.out⟩
         clear hK K
         (try simp only [Act.put, List.setIfInBounds_toArray, List.set_cons_zero, List.set_cons_succ])
         refine tkH 7 hHeld ?_
         refine wpAnyH_ready (rs := [8]) (by kernel_rfl) (by simp) ?_
         refine AllReadyH.cons rfl (fun K hK => ?_) AllReadyH.nil
         obtain ⟨a0, a1⟩ := cells2 Q6.out.o
         have af := fun i => frozen_of_row _ _ i _ _ Q6.out.o
         have s1 := heap_setCell_same w6 (w.heap.size + 2) 0 _ _ (Value.slice ra3 n3 rc3) Q6.out.o
         have P7 : Hid (PO ((w6.setCell ⟨w.heap.size + 2, 0, none⟩ (.slice ra3 n3 rc3)).setCell ⟨w.heap.size + 2, 1, none⟩ (.slice (some ⟨gl3, 0, none⟩) ln lc3)) (w.heap.size + 3) (.slice ra3 n3 rc3) S3 (.slice (some ⟨gl3, 0, none⟩) ln lc3) GL) := (O6.out.box Q6.out.o).box s1
         simp only [List.setIfInBounds_toArray, List.set_cons_zero] at s1
         have s2 := heap_setCell_same _ (w.heap.size + 2) 1 _ _ (Value.slice (some ⟨gl3, 0, none⟩) ln lc3) s1
         simp only [List.setIfInBounds_toArray, List.set_cons_zero, List.set_cons_succ] at s2
         have A7 : Hid (((w6.setCell ⟨w.heap.size + 2, 0, none⟩ (.slice ra3 n3 rc3)).setCell ⟨w.heap.size + 2, 1, none⟩ (.slice (some ⟨gl3, 0, none⟩) ln lc3)).heap[w.heap.size + 2]? = some (.cells #[.slice ra3 n3 rc3, .slice (some ⟨gl3, 0, none⟩) ln lc3] 36 (0, 0))) := s2
         have C7 : Hid (((w6.setCell ⟨w.heap.size + 2, 0, none⟩ (.slice ra3 n3 rc3)).setCell ⟨w.heap.size + 2, 1, none⟩ (.slice (some ⟨gl3, 0, none⟩) ln lc3)).heap[w.heap.size]? = some (.cells #[.int .i64 n, .slice a zl cap, .slice ao ko co, .slice av kv cv, .int .i64 fine] 43 (0, 0))) := row_set' (row_set' Q6.out.c (by omega)) (by omega)
         have D7 : Hid (((w6.setCell ⟨w.heap.size + 2, 0, none⟩ (.slice ra3 n3 rc3)).setCell ⟨w.heap.size + 2, 1, none⟩ (.slice (some ⟨gl3, 0, none⟩) ln lc3)).heap[w.heap.size + 1]? = some (.cells #[.slice ra nr rc, .slice (some ⟨bl, ol, none⟩) ln lc] 36 (0, 0))) := row_set' (row_set' Q6.out.p (by omega)) (by omega)
         have K7 : Hid (((w6.setCell ⟨w.heap.size + 2, 0, none⟩ (.slice ra3 n3 rc3)).setCell ⟨w.heap.size + 2, 1, none⟩ (.slice (some ⟨gl3, 0, none⟩) ln lc3)).heap[kq]? = some (.cells #[.slice ra3 n3 rc3, .slice (some ⟨gl3, 0, none⟩) ln lc3] 36 (0, 0))) := row_set' (row_set' B6.out (by have := HKO.out; omega)) (by have := HKO.out; omega)
         have B7 : Hid (Below w.heap.size w ((w6.setCell ⟨w.heap.size + 2, 0, none⟩ (.slice ra3 n3 rc3)).setCell ⟨w.heap.size + 2, 1, none⟩ (.slice (some ⟨gl3, 0, none⟩) ln lc3))) := (Q6.out.b.setCell (by simp) _).setCell (by simp) _
         clear s1 s2
         go_simp
         refine hK.out _ _ ?_ (fun hHeld => ?_)
         · exact ⟨cells5 C7.out, cells2 D7.out, cells2 K7.out⟩
         clear hK K
         clear a0 a1 af
         generalize ((w6.setCell ⟨w.heap.size + 2, 0, none⟩ (.slice ra3 n3 rc3)).setCell ⟨w.heap.size + 2, 1, none⟩ (.slice (some ⟨gl3, 0, none⟩) ln lc3)) = W7 at *
         refine tkH 9 hHeld ?_
         refine tkH 10 hHeld ?_
         refine wpAnyH_done (by kernel_rfl) ?_ _
         clear hHeld
         obtain ⟨a0, a1⟩ := cells2 A7.out
         go_wp2
         refine bodyPost_ret (v := .tuple #[.agg #[.slice ra3 n3 rc3, .slice (some ⟨gl3, 0, none⟩) ln lc3], .int .i64 (d2 - d1), .bool true]) (by simp [results, Tryz.results8, go_sem, a0, a1]) rfl ?_
         show SpecOkM _ _ _ _ _ _ _
         rw [<- HGD.out]
         exact ⟨ra3, n3, rc3, _, ln, lc3, S3, rfl, B7.out, HN3.out, HM.out, HKG.out, P7.out.base (by omega), fun _ => ⟨gl3, rfl⟩⟩
theorem specRelocated_any (id tv pl n fine : Int) (a ao av ra : Option Addr) (zl cap ko co kv cv nr rc bl ol ln lc : Nat) (zs os vs L : List Int) (R : List RT) (w : World) (hA : IntsAt w a zs) (hO : IntsAt w ao os) (hV : IntsAt w av vs) (hlz : zs.length = zl) (hlo : os.length = ko * 6) (hlv : vs.length = kv * 5) (hko : ko <= 9223372036854775807) (hkv : kv <= 9223372036854775807) (hP : PlanIs w ra (some ⟨bl, ol, none⟩) nr ln R L) (hn : nr <= 1048576) (hi : ∀ r ∈ R, r.ids.length <= 1048576) (hll : ln <= 1048576) (hal : (allTo R R.length).length <= 1048576) :
   Calls Tryz.prog 8 #[.agg #[.int .i64 n, .slice a zl cap, .slice ao ko co, .slice av kv cv, .int .i64 fine], .agg #[.slice ra nr rc, .slice (some ⟨bl, ol, none⟩) ln lc], .int .i64 id, .int .i64 tv, .int .i64 pl] w (SpecOkN w (rqD id tv pl n fine zs os vs ko kv R L) (rqB id tv pl n fine zs os vs ko kv R L) (rqR id tv pl n fine zs os vs ko kv R L) (rqL id tv pl n fine zs os vs ko kv R L)) :=
 (specRelocM_any id tv pl n fine a ao av ra zl cap ko co kv cv nr rc bl ol ln lc zs os vs L R w hA hO hV hlz hlo hlv hko hkv hP hn hi hll hal).mono (fun _ _ h => by
   obtain ⟨ra2, rn2, rc2, la2, ln2, lc2, S, h1, h2, h3, h4, h5, h6, _⟩ := h
   exact ⟨ra2, rn2, rc2, la2, ln2, lc2, S, h1, h2, h3, h4, h5, h6⟩)
theorem br_cells {w W : World} {n fine id veh : Int} {a ao av ra la : Option Addr} {zl cap ko co kv cv nr rc ln lc bi oi bv ov i k : Nat} (h : BCP w W #[.int .i64 n, .slice a zl cap, .slice ao ko co, .slice av kv cv, .int .i64 fine] #[.slice ra nr rc, .slice la ln lc]) (h1 : W.cell? ⟨bi, oi + i, none⟩ = some (.int .i64 id)) (h2 : W.cell? ⟨bv, ov + k * 5, none⟩ = some (.int .i64 veh)) : W.cell? ⟨w.heap.size, 0, none⟩ = some (.int .i64 n) /\ W.cell? ⟨w.heap.size, 1, none⟩ = some (.slice a zl cap) /\ W.cell? ⟨w.heap.size, 2, none⟩ = some (.slice ao ko co) /\ W.cell? ⟨w.heap.size, 3, none⟩ = some (.slice av kv cv) /\ W.cell? ⟨w.heap.size, 4, none⟩ = some (.int .i64 fine) /\ W.cell? ⟨w.heap.size + 1, 0, none⟩ = some (.slice ra nr rc) /\ W.cell? ⟨w.heap.size + 1, 1, none⟩ = some (.slice la ln lc) /\ W.cell? ⟨bi, oi + i, none⟩ = some (.int .i64 id) /\ W.cell? ⟨bv, ov + k * 5, none⟩ = some (.int .i64 veh) := by
 obtain ⟨c0, c1, c2, c3, c4⟩ := cells5 h.c
 obtain ⟨p0, p1⟩ := cells2 h.p
 exact ⟨c0, c1, c2, c3, c4, p0, p1, h1, h2⟩
set_option maxRecDepth 10000 in
set_option maxHeartbeats 8000000 in
theorem specBestRel_any (n fine : Int) (a ao av ra la : Option Addr) (zl cap ko co kv cv nr rc ln lc : Nat) (zs os vs L : List Int) (R : List RT) (w : World) (hA : IntsAt w a zs) (hO : IntsAt w ao os) (hV : IntsAt w av vs) (hlz : zs.length = zl) (hlo : os.length = ko * 6) (hlv : vs.length = kv * 5) (hko : ko <= 9223372036854775807) (hkv : kv <= 9223372036854775807) (hP : PlanIs w ra la nr ln R L) (hn : nr <= 1048576) (hi : ∀ r ∈ R, r.ids.length <= 1048576) (hll : ln <= 1048576) (hal : (allTo R R.length).length <= 1048576)
   (hrel : ∀ W id tv pl, Below w.heap.size w W -> Calls Tryz.prog 8 #[.agg #[.int .i64 n, .slice a zl cap, .slice ao ko co, .slice av kv cv, .int .i64 fine], .agg #[.slice ra nr rc, .slice la ln lc], .int .i64 id, .int .i64 tv, .int .i64 pl] W (SpecOkN W (rqD id tv pl n fine zs os vs ko kv R L) (rqB id tv pl n fine zs os vs ko kv R L) (rqR id tv pl n fine zs os vs ko kv R L) (rqL id tv pl n fine zs os vs ko kv R L))) (q0 : QS) (hq : brQ n fine zs os vs ko kv R L = q0) :
   Calls Tryz.prog 17 #[.agg #[.int .i64 n, .slice a zl cap, .slice ao ko co, .slice av kv cv, .int .i64 fine], .agg #[.slice ra nr rc, .slice la ln lc]] w fun e w' => e = .returned (.tuple #[.int .i64 q0.s.1, .int .i64 q0.s.2.1, .int .i64 (q0.s.2.2 : Int), .int .i64 q0.v]) /\ Below w.heap.size w w' := by
 have HA : Hid (IntsAt w a zs) := hA
 have HO : Hid (IntsAt w ao os) := hO
 have HV : Hid (IntsAt w av vs) := hV
 have HLZ : Hid (zs.length = zl) := hlz
 have HLO : Hid (os.length = ko * 6) := hlo
 have HLV : Hid (vs.length = kv * 5) := hlv
 have HP : Hid (PlanIs w ra la nr ln R L) := hP
 have HN : Hid (R.length = nr) := hP.1
 have HM : Hid (L.length = ln) := hP.2.1
 have HREL : Hid (∀ W id tv pl, Below w.heap.size w W -> Calls Tryz.prog 8 #[.agg #[.int .i64 n, .slice a zl cap, .slice ao ko co, .slice av kv cv, .int .i64 fine], .agg #[.slice ra nr rc, .slice la ln lc], .int .i64 id, .int .i64 tv, .int .i64 pl] W (SpecOkN W (rqD id tv pl n fine zs os vs ko kv R L) (rqB id tv pl n fine zs os vs ko kv R L) (rqR id tv pl n fine zs os vs ko kv R L) (rqL id tv pl n fine zs os vs ko kv R L))) := hrel
 obtain ⟨pv, HPV⟩ : ∃ v, Hid (planV n zs os vs ko kv fine R L = v) := ⟨_, rfl⟩
 have Q0 : Hid (BCP w ((w.alloc (.cells #[.int .i64 n, .slice a zl cap, .slice ao ko co, .slice av kv cv, .int .i64 fine] 43)).alloc (.cells #[.slice ra nr rc, .slice la ln lc] 36)) #[.int .i64 n, .slice a zl cap, .slice ao ko co, .slice av kv cv, .int .i64 fine] #[.slice ra nr rc, .slice la ln lc]) := BCP.new _ _ _
 have SV := specServed_opt n fine a ao av ra la cap ko co kv cv rc lc zs os vs L R ((w.alloc (.cells #[.int .i64 n, .slice a zl cap, .slice ao ko co, .slice av kv cv, .int .i64 fine] 43)).alloc (.cells #[.slice ra nr rc, .slice la ln lc] 36)) (HP.out.2.2.1.below Q0.out.b) (by rw [HN.out]; exact hn) HP.out.2.2.2.2.2.2 pv HPV.out (fun X hX => by
   have hW := Q0.out.b.trans (hX.mono Q0.out.b.size)
   have PC := specPlan_any n fine a ao av ra la cap ko co kv cv rc lc zs os vs L R X (HA.out.below hW) (HO.out.below hW) (HV.out.below hW) (HP.out.2.2.1.below hW) (HP.out.2.2.2.1.below hW) HLO.out HLV.out hko hkv (by rw [HN.out]; exact hn) hi HP.out.2.2.2.2.2.2 (by rw [HM.out]; exact hll) hal
   rw [HPV.out] at PC
   exact PC)
 have hm12 := servV_len n zs os vs ko kv fine R L
 have hbs := brQ_spec n fine zs os vs ko kv R L
 rw [hq] at hbs
 obtain ⟨X, HX⟩ : ∃ v, Hid (servV n zs os vs ko kv fine R L = v) := ⟨_, rfl⟩
 obtain ⟨m, HXM⟩ : ∃ v, Hid (X.length = v) := ⟨_, rfl⟩
 rw [HX.out, HXM.out] at hbs hm12
 rw [HX.out, HXM.out, HLZ.out, HN.out, HM.out] at SV
 have YES : Hid (∀ (l : List Spot) (id veh : Int) (pl : Nat) (s : QS), qst (mvB n fine zs os vs ko kv R L) (mvD n fine zs os vs ko kv R L) l = s -> rqB id veh (pl : Int) n fine zs os vs ko kv R L = true -> rqD id veh (pl : Int) n fine zs os vs ko kv R L < s.v -> qst (mvB n fine zs os vs ko kv R L) (mvD n fine zs os vs ko kv R L) (l ++ [(id, veh, pl)]) = ⟨true, (id, veh, pl), rqD id veh (pl : Int) n fine zs os vs ko kv R L⟩) := fun l id veh pl s h1 h2 h3 => mv_yes h1 h2 h3
 have NO : Hid (∀ (l : List Spot) (id veh : Int) (pl : Nat) (s : QS), qst (mvB n fine zs os vs ko kv R L) (mvD n fine zs os vs ko kv R L) l = s -> rqB id veh (pl : Int) n fine zs os vs ko kv R L = false ∨ ¬ rqD id veh (pl : Int) n fine zs os vs ko kv R L < s.v -> qst (mvB n fine zs os vs ko kv R L) (mvD n fine zs os vs ko kv R L) (l ++ [(id, veh, pl)]) = s) := fun l id veh pl s h1 h2 => mv_no h1 h2
 have HZ0 : Hid (qst (mvB n fine zs os vs ko kv R L) (mvD n fine zs os vs ko kv R L) [] = qs0) := rfl
 obtain ⟨q, HQ⟩ : ∃ v, Hid (qst (mvB n fine zs os vs ko kv R L) (mvD n fine zs os vs ko kv R L) = v) := ⟨_, rfl⟩
 rw [HQ.out] at YES NO HZ0 hbs
 have HEND : Hid (q (sq3 vs kv X m) = q0) := hbs
 clear hA hO hV hlz hlo hlv hP hrel HPV hi hal hq hbs HQ
 obtain ⟨c0, c1, c2, c3, c4⟩ := cells5 Q0.out.c
 obtain ⟨p0, p1⟩ := cells2 Q0.out.p
 go_enter Tryz.func17, Tryz.ntmps17
 go_wp2_with fail
 generalize (w.alloc (.cells #[.int .i64 n, .slice a zl cap, .slice ao ko co, .slice av kv cv, .int .i64 fine] 43)).alloc (.cells #[.slice ra nr rc, .slice la ln lc] 36) = W0 at *
 refine SV.mono ?_
 rintro e w1 ⟨sl, rfl, hb, ho⟩
 obtain ⟨sa, sc, e, hsl, hIX⟩ := owns_at1 ho
 subst e
 rw [HXM.out]
 have Q1 : Hid (BCP w w1 #[.int .i64 n, .slice a zl cap, .slice ao ko co, .slice av kv cv, .int .i64 fine] #[.slice ra nr rc, .slice la ln lc]) := Q0.out.below hb
 have IX : Hid (IntsAt w1 sa X) := hIX
 clear hb ho hsl hIX SV Q0 c0 c1 c2 c3 c4 p0 p1 HX
 go_wp2_with fail
 go_loopw [9, 10, 11, 12, 13] (fun t9 t10 t11 t12 t wr => ∃ i : Nat, i <= m /\ t = .int .i64 i /\ t9 = .int .i64 (q (sq3 vs kv X i)).s.1 /\ t10 = .int .i64 (q (sq3 vs kv X i)).s.2.1 /\ t11 = .int .i64 ((q (sq3 vs kv X i)).s.2.2 : Int) /\ t12 = .int .i64 (q (sq3 vs kv X i)).v /\ BCP w wr #[.int .i64 n, .slice a zl cap, .slice ao ko co, .slice av kv cv, .int .i64 fine] #[.slice ra nr rc, .slice la ln lc] /\ Below w1.heap.size w1 wr) (fun _ _ _ _ t _ => m - (intOf t).toNat)
 case atStart => exact ⟨0, Nat.zero_le _, rfl, by show _ = Value.int .i64 (q []).s.1; rw [HZ0.out]; rfl, by show _ = Value.int .i64 (q []).s.2.1; rw [HZ0.out]; rfl, by show _ = Value.int .i64 ((q []).s.2.2 : Int); rw [HZ0.out]; rfl, by show _ = Value.int .i64 (q []).v; rw [HZ0.out]; rfl, Q1.out, Below.refl _ _⟩
 case round =>
   clear HZ0
   obtain ⟨i, hi, rfl, rfl, rfl, rfl, rfl, hC, hBw⟩ := hrel
   have C1 : Hid (BCP w wr #[.int .i64 n, .slice a zl cap, .slice ao ko co, .slice av kv cv, .int .i64 fine] #[.slice ra nr rc, .slice la ln lc]) := hC
   have W1 : Hid (Below w1.heap.size w1 wr) := hBw
   clear hC hBw
   by_cases hlt : i < m
   · have h1 : (i : Int) < (m : Int) := by omega
     have hwi : IntKind.i64.wrap ((i : Int) + 1) = ((i + 1 : Nat) : Int) := by rw [IntWalk.i64_in _ (by omega)]; omega
     obtain ⟨id, HID⟩ : ∃ v, Hid (X.getD i 0 = v) := ⟨_, rfl⟩
     obtain ⟨l1, HL1⟩ : ∃ v, Hid (sq3 vs kv X i = v) := ⟨_, rfl⟩
     have HNX : Hid (sq3 vs kv X (i + 1) = l1 ++ sq2 vs id kv) := by rw [<- HL1.out, <- HID.out]; rfl
     rw [HL1.out]
     clear HL1
     go_wp2_with fail
     go_loopw [9, 10, 11, 12, 14] (fun t9 t10 t11 t12 t wr => ∃ k : Nat, k <= kv /\ t = .int .i64 k /\ t9 = .int .i64 (q (l1 ++ sq2 vs id k)).s.1 /\ t10 = .int .i64 (q (l1 ++ sq2 vs id k)).s.2.1 /\ t11 = .int .i64 ((q (l1 ++ sq2 vs id k)).s.2.2 : Int) /\ t12 = .int .i64 (q (l1 ++ sq2 vs id k)).v /\ BCP w wr #[.int .i64 n, .slice a zl cap, .slice ao ko co, .slice av kv cv, .int .i64 fine] #[.slice ra nr rc, .slice la ln lc] /\ Below w1.heap.size w1 wr) (fun _ _ _ _ t _ => kv - (intOf t).toNat)
     case atStart => exact ⟨0, Nat.zero_le _, rfl, by show _ = Value.int .i64 (q (l1 ++ [])).s.1; rw [List.append_nil], by show _ = Value.int .i64 (q (l1 ++ [])).s.2.1; rw [List.append_nil], by show _ = Value.int .i64 ((q (l1 ++ [])).s.2.2 : Int); rw [List.append_nil], by show _ = Value.int .i64 (q (l1 ++ [])).v; rw [List.append_nil], C1.out, W1.out⟩
     case round =>
       clear C1 W1
       obtain ⟨k, hk, rfl, rfl, rfl, rfl, rfl, hC, hBw⟩ := hrel
       have C2 : Hid (BCP w wr #[.int .i64 n, .slice a zl cap, .slice ao ko co, .slice av kv cv, .int .i64 fine] #[.slice ra nr rc, .slice la ln lc]) := hC
       have W2 : Hid (Below w1.heap.size w1 wr) := hBw
       clear hC hBw
       obtain ⟨c0, c1, c2, c3, c4⟩ := cells5 C2.out.c
       by_cases hlk : k < kv
       · have h2 : (k : Int) < (kv : Int) := by omega
         have hwk : IntKind.i64.wrap ((k : Int) + 1) = ((k + 1 : Nat) : Int) := by rw [IntWalk.i64_in _ (by omega)]; omega
         obtain ⟨veh, HVE⟩ : ∃ v, Hid (vs.getD (k * 5) 0 = v) := ⟨_, rfl⟩
         obtain ⟨l2, HL2⟩ : ∃ v, Hid (l1 ++ sq2 vs id k = v) := ⟨_, rfl⟩
         have HNK : Hid (l1 ++ sq2 vs id (k + 1) = l2 ++ sp1 id veh 13) := by
           show l1 ++ (sq2 vs id k ++ sp1 id (vs.getD (k * 5) 0) 13) = _
           rw [<- HL2.out, HVE.out, List.append_assoc]
         rw [HL2.out]
         clear HL2
         go_wp2_with fail
         clear c0 c1 c2 c3 c4
         go_loopw [9, 10, 11, 12, 15] (fun t9 t10 t11 t12 t wr => ∃ p : Nat, p <= 13 /\ t = .int .i64 p /\ t9 = .int .i64 (q (l2 ++ sp1 id veh p)).s.1 /\ t10 = .int .i64 (q (l2 ++ sp1 id veh p)).s.2.1 /\ t11 = .int .i64 ((q (l2 ++ sp1 id veh p)).s.2.2 : Int) /\ t12 = .int .i64 (q (l2 ++ sp1 id veh p)).v /\ BCP w wr #[.int .i64 n, .slice a zl cap, .slice ao ko co, .slice av kv cv, .int .i64 fine] #[.slice ra nr rc, .slice la ln lc] /\ Below w1.heap.size w1 wr) (fun _ _ _ _ t _ => 13 - (intOf t).toNat)
         case atStart => exact ⟨0, Nat.zero_le _, rfl, by show _ = Value.int .i64 (q (l2 ++ [])).s.1; rw [List.append_nil], by show _ = Value.int .i64 (q (l2 ++ [])).s.2.1; rw [List.append_nil], by show _ = Value.int .i64 ((q (l2 ++ [])).s.2.2 : Int); rw [List.append_nil], by show _ = Value.int .i64 (q (l2 ++ [])).v; rw [List.append_nil], C2.out, W2.out⟩
         case round =>
           clear C2 W2
           obtain ⟨p, hp, rfl, rfl, rfl, rfl, rfl, hC, hBw⟩ := hrel
           have C3 : Hid (BCP w wr #[.int .i64 n, .slice a zl cap, .slice ao ko co, .slice av kv cv, .int .i64 fine] #[.slice ra nr rc, .slice la ln lc]) := hC
           have W3 : Hid (Below w1.heap.size w1 wr) := hBw
           clear hC hBw
           by_cases hlp : p < 13
           · have h3 : (p : Int) <= 12 := by omega
             have hwp : IntKind.i64.wrap ((p : Int) + 1) = ((p + 1 : Nat) : Int) := by rw [IntWalk.i64_in _ (by omega)]; omega
             obtain ⟨s, HS⟩ : ∃ v, Hid (q (l2 ++ sp1 id veh p) = v) := ⟨_, rfl⟩
             have HSN : Hid (l2 ++ sp1 id veh (p + 1) = (l2 ++ sp1 id veh p) ++ [(id, veh, p)]) := by
               show _ = _
               rw [sp1_succ, List.append_assoc]
             obtain ⟨ch, HCH⟩ : ∃ v, Hid (rqB id veh (p : Int) n fine zs os vs ko kv R L = v) := ⟨_, rfl⟩
             obtain ⟨dd, HDD⟩ : ∃ v, Hid (rqD id veh (p : Int) n fine zs os vs ko kv R L = v) := ⟨_, rfl⟩
             have YS := YES.out (l2 ++ sp1 id veh p) id veh p s HS.out
             have NS := NO.out (l2 ++ sp1 id veh p) id veh p s HS.out
             rw [<- HSN.out, HCH.out, HDD.out] at YS NS
             have HYS : Hid (ch = true -> dd < s.v -> q (l2 ++ sp1 id veh (p + 1)) = ⟨true, (id, veh, p), dd⟩) := YS
             have HNS : Hid (ch = false ∨ ¬ dd < s.v -> q (l2 ++ sp1 id veh (p + 1)) = s) := fun h => NS (by simpa using h)
             clear YS NS
             rw [HS.out]
             clear HS HSN
             obtain ⟨bi, oi, e, ic⟩ := (IX.out.below W3.out) i (by rw [HXM.out]; exact hlt)
             subst e
             obtain ⟨bv, ov, e, vc⟩ := (HV.out.below C3.out.b) (k * 5) (by rw [HLV.out]; omega)
             subst e
             rw [HID.out] at ic
             rw [HVE.out] at vc
             have IC : Hid (wr.cell? ⟨bi, oi + i, none⟩ = some (.int .i64 id)) := ic
             have VC : Hid (wr.cell? ⟨bv, ov + k * 5, none⟩ = some (.int .i64 veh)) := vc
             have HBI : Hid (bi < wr.heap.size) := block_lt_of_cell ic
             have HBV : Hid (bv < wr.heap.size) := block_lt_of_cell vc
             clear ic vc
             obtain ⟨sf, ⟨s1, s2, s3⟩, sv⟩ := s
             simp only at HYS HNS ⊢
             go_upto_region 15 with fail
             go_cut [16, 17, 18] from 39 to 56 (fun s16 s17 s18 wx => s17 = .int .i64 dd /\ s18 = .bool ch /\ BCP w wx #[.int .i64 n, .slice a zl cap, .slice ao ko co, .slice (some ⟨bv, ov, none⟩) kv cv, .int .i64 fine] #[.slice ra nr rc, .slice la ln lc] /\ Below wr.heap.size wr wx)
             case first =>
               go_wp2_with fail
               refine wp_region_held_drew (S := (fun W => W.cell? ⟨w.heap.size, 0, none⟩ = some (.int .i64 n) /\ W.cell? ⟨w.heap.size, 1, none⟩ = some (.slice a zl cap) /\ W.cell? ⟨w.heap.size, 2, none⟩ = some (.slice ao ko co) /\ W.cell? ⟨w.heap.size, 3, none⟩ = some (.slice (some ⟨bv, ov, none⟩) kv cv) /\ W.cell? ⟨w.heap.size, 4, none⟩ = some (.int .i64 fine) /\ W.cell? ⟨w.heap.size + 1, 0, none⟩ = some (.slice ra nr rc) /\ W.cell? ⟨w.heap.size + 1, 1, none⟩ = some (.slice la ln lc) /\ W.cell? ⟨bi, oi + i, none⟩ = some (.int .i64 id) /\ W.cell? ⟨bv, ov + k * 5, none⟩ = some (.int .i64 veh))) (by kernel_rfl) ?_ (fun hHeld => ?_)
               · exact br_cells (C3.out.below (Below.refl _ _).drew) (keepL IC.out (Below.refl _ _).drew) (keepL VC.out (Below.refl _ _).drew)
               have G_d : Hid (BCP w wr.drew #[.int .i64 n, .slice a zl cap, .slice ao ko co, .slice (some ⟨bv, ov, none⟩) kv cv, .int .i64 fine] #[.slice ra nr rc, .slice la ln lc]) := C3.out.below (Below.refl _ _).drew
               have IC_d : Hid (wr.drew.cell? ⟨bi, oi + i, none⟩ = some (.int .i64 id)) := keepL IC.out (Below.refl _ _).drew
               have VC_d : Hid (wr.drew.cell? ⟨bv, ov + k * 5, none⟩ = some (.int .i64 veh)) := keepL VC.out (Below.refl _ _).drew
               have B_d : Hid (Below wr.heap.size wr wr.drew) := (Below.refl _ _).drew
               generalize wr.drew = wd at *
               refine tkH 0 hHeld ?_
               refine tkH 1 hHeld ?_
               refine tkH 2 hHeld ?_
               refine tkH 3 hHeld ?_
               refine tkH 4 hHeld ?_
               refine tkH 5 hHeld ?_
               refine tkH 6 hHeld ?_
               refine tkH 7 hHeld ?_
               refine tkH 8 hHeld ?_
               refine tkH 9 hHeld ?_
               refine tkH 10 hHeld ?_
               refine tkH 11 hHeld ?_
               refine tkH 12 hHeld ?_
               refine wpAnyH_ready (rs := [13, 18]) (by kernel_rfl) (by simp) ?_
               refine AllReadyH.cons rfl (fun K hK => ?_) ?_
               · skip
                 go_simp
                 refine (HREL.out wd id veh (p : Int) G_d.out.b).mono ?_
                 rw [HCH.out, HDD.out]
                 rintro e w3 ⟨ra2, n2, rc2, la2, l2, lc2, R2, rfl, hb, -⟩
                 have G_w3 : Hid (BCP w w3 #[.int .i64 n, .slice a zl cap, .slice ao ko co, .slice (some ⟨bv, ov, none⟩) kv cv, .int .i64 fine] #[.slice ra nr rc, .slice la ln lc]) := G_d.out.below hb
                 have IC_w3 : Hid (w3.cell? ⟨bi, oi + i, none⟩ = some (.int .i64 id)) := keepL IC_d.out hb
                 have VC_w3 : Hid (w3.cell? ⟨bv, ov + k * 5, none⟩ = some (.int .i64 veh)) := keepL VC_d.out hb
                 have B_w3 : Hid (Below wr.heap.size wr w3) := B_d.out.trans (hb.mono B_d.out.size)
                 clear hb
                 (try go_wp2_with fail)
                 refine hK.out _ _ ?_ (fun hHeld => ?_)
                 · exact br_cells G_w3.out IC_w3.out VC_w3.out
                 clear hK K
                 (try simp only [Act.put, List.setIfInBounds_toArray, List.set_cons_zero, List.set_cons_succ])
                 refine tkH 14 hHeld ?_
                 refine tkH 15 hHeld ?_
                 refine tkH 16 hHeld ?_
                 refine tkH 17 hHeld ?_
                 refine wpAnyH_ready (rs := [18]) (by kernel_rfl) (by simp) ?_
                 refine AllReadyH.cons rfl (fun K hK => ?_) AllReadyH.nil
                 have G_z : Hid (BCP w (w3.alloc (.cells #[.slice none 0 0, .slice none 0 0] 36)) #[.int .i64 n, .slice a zl cap, .slice ao ko co, .slice (some ⟨bv, ov, none⟩) kv cv, .int .i64 fine] #[.slice ra nr rc, .slice la ln lc]) := G_w3.out.below ((Below.refl w3.heap.size w3).alloc (Nat.le_refl _) (.cells #[.slice none 0 0, .slice none 0 0] 36))
                 have IC_z : Hid (World.cell? (w3.alloc (.cells #[.slice none 0 0, .slice none 0 0] 36)) ⟨bi, oi + i, none⟩ = some (.int .i64 id)) := keepL IC_w3.out ((Below.refl w3.heap.size w3).alloc (Nat.le_refl _) (.cells #[.slice none 0 0, .slice none 0 0] 36))
                 have VC_z : Hid (World.cell? (w3.alloc (.cells #[.slice none 0 0, .slice none 0 0] 36)) ⟨bv, ov + k * 5, none⟩ = some (.int .i64 veh)) := keepL VC_w3.out ((Below.refl w3.heap.size w3).alloc (Nat.le_refl _) (.cells #[.slice none 0 0, .slice none 0 0] 36))
                 have B_z : Hid (Below wr.heap.size wr (w3.alloc (.cells #[.slice none 0 0, .slice none 0 0] 36))) := B_w3.out.trans (((Below.refl w3.heap.size w3).alloc (Nat.le_refl _) (.cells #[.slice none 0 0, .slice none 0 0] 36)).mono B_w3.out.size)
                 have VZ0 : Hid ((w3.alloc (.cells #[.slice none 0 0, .slice none 0 0] 36)).heap[w3.heap.size]? = some (.cells #[.slice none 0 0, .slice none 0 0] 36 (0, 0))) := heap_alloc_new _ _
                 have HZL : Hid (w.heap.size + 2 <= w3.heap.size) := G_w3.out.size
                 have HZR : Hid (wr.heap.size <= w3.heap.size) := B_w3.out.size
                 go_simp
                 refine hK.out _ _ ?_ (fun hHeld => ?_)
                 · exact br_cells G_z.out IC_z.out VC_z.out
                 clear hK K
                 (try simp only [Act.put, List.setIfInBounds_toArray, List.set_cons_zero, List.set_cons_succ])
                 obtain ⟨kz, HKZ⟩ : ∃ v, Hid (w3.heap.size = v) := ⟨_, rfl⟩
                 rw [HKZ.out] at VZ0 HZL HZR ⊢
                 generalize (w3.alloc (.cells #[.slice none 0 0, .slice none 0 0] 36)) = wz at *
                 obtain ⟨z0, z1⟩ := cells2 VZ0.out
                 have zf := fun i => frozen_of_row _ _ i _ _ VZ0.out
                 refine wpAnyH_ready (rs := [19]) (by kernel_rfl) (by simp) ?_
                 refine AllReadyH.cons rfl (fun K hK => ?_) AllReadyH.nil
                 have G5 : Hid (BCP w ((wz.setCell ⟨kz, 0, none⟩ (.slice ra2 n2 rc2)).setCell ⟨kz, 1, none⟩ (.slice la2 l2 lc2)) #[.int .i64 n, .slice a zl cap, .slice ao ko co, .slice (some ⟨bv, ov, none⟩) kv cv, .int .i64 fine] #[.slice ra nr rc, .slice la ln lc]) := (G_z.out.set HZL.out).set HZL.out
                 have IC5 : Hid (World.cell? ((wz.setCell ⟨kz, 0, none⟩ (.slice ra2 n2 rc2)).setCell ⟨kz, 1, none⟩ (.slice la2 l2 lc2)) ⟨bi, oi + i, none⟩ = some (.int .i64 id)) := keep_set (keep_set IC_z.out (by have := HZR.out; have := HBI.out; omega)) (by have := HZR.out; have := HBI.out; omega)
                 have VC5 : Hid (World.cell? ((wz.setCell ⟨kz, 0, none⟩ (.slice ra2 n2 rc2)).setCell ⟨kz, 1, none⟩ (.slice la2 l2 lc2)) ⟨bv, ov + k * 5, none⟩ = some (.int .i64 veh)) := keep_set (keep_set VC_z.out (by have := HZR.out; have := HBV.out; omega)) (by have := HZR.out; have := HBV.out; omega)
                 have B5 : Hid (Below wr.heap.size wr ((wz.setCell ⟨kz, 0, none⟩ (.slice ra2 n2 rc2)).setCell ⟨kz, 1, none⟩ (.slice la2 l2 lc2))) := (B_z.out.setCell (by have := HZR.out; simp; omega) _).setCell (by have := HZR.out; simp; omega) _
                 go_simp
                 refine hK.out _ _ ?_ (fun hHeld => ?_)
                 · exact br_cells G5.out IC5.out VC5.out
                 clear hK K
                 generalize ((wz.setCell ⟨kz, 0, none⟩ (.slice ra2 n2 rc2)).setCell ⟨kz, 1, none⟩ (.slice la2 l2 lc2)) = w6 at *
                 refine tkH 20 hHeld ?_
                 refine tkH 21 hHeld ?_
                 refine wpAnyH_done (by kernel_rfl) ?_ _
                 clear hHeld
                 (try go_wp2_with fail)
                 go_meet
                 exact ⟨rfl, rfl, G5.out, B5.out⟩
               refine AllReadyH.cons rfl (fun K hK => ?_) AllReadyH.nil
               have G_z : Hid (BCP w (wd.alloc (.cells #[.slice none 0 0, .slice none 0 0] 36)) #[.int .i64 n, .slice a zl cap, .slice ao ko co, .slice (some ⟨bv, ov, none⟩) kv cv, .int .i64 fine] #[.slice ra nr rc, .slice la ln lc]) := G_d.out.below ((Below.refl wd.heap.size wd).alloc (Nat.le_refl _) (.cells #[.slice none 0 0, .slice none 0 0] 36))
               have IC_z : Hid (World.cell? (wd.alloc (.cells #[.slice none 0 0, .slice none 0 0] 36)) ⟨bi, oi + i, none⟩ = some (.int .i64 id)) := keepL IC_d.out ((Below.refl wd.heap.size wd).alloc (Nat.le_refl _) (.cells #[.slice none 0 0, .slice none 0 0] 36))
               have VC_z : Hid (World.cell? (wd.alloc (.cells #[.slice none 0 0, .slice none 0 0] 36)) ⟨bv, ov + k * 5, none⟩ = some (.int .i64 veh)) := keepL VC_d.out ((Below.refl wd.heap.size wd).alloc (Nat.le_refl _) (.cells #[.slice none 0 0, .slice none 0 0] 36))
               have B_z : Hid (Below wr.heap.size wr (wd.alloc (.cells #[.slice none 0 0, .slice none 0 0] 36))) := B_d.out.trans (((Below.refl wd.heap.size wd).alloc (Nat.le_refl _) (.cells #[.slice none 0 0, .slice none 0 0] 36)).mono B_d.out.size)
               have VZ0 : Hid ((wd.alloc (.cells #[.slice none 0 0, .slice none 0 0] 36)).heap[wd.heap.size]? = some (.cells #[.slice none 0 0, .slice none 0 0] 36 (0, 0))) := heap_alloc_new _ _
               have HZL : Hid (w.heap.size + 2 <= wd.heap.size) := G_d.out.size
               have HZR : Hid (wr.heap.size <= wd.heap.size) := B_d.out.size
               go_simp
               refine hK.out _ _ ?_ (fun hHeld => ?_)
               · exact br_cells G_z.out IC_z.out VC_z.out
               clear hK K
               (try simp only [Act.put, List.setIfInBounds_toArray, List.set_cons_zero, List.set_cons_succ])
               obtain ⟨kz, HKZ⟩ : ∃ v, Hid (wd.heap.size = v) := ⟨_, rfl⟩
               rw [HKZ.out] at VZ0 HZL HZR ⊢
               generalize (wd.alloc (.cells #[.slice none 0 0, .slice none 0 0] 36)) = wz at *
               obtain ⟨z0, z1⟩ := cells2 VZ0.out
               have zf := fun i => frozen_of_row _ _ i _ _ VZ0.out
               refine wpAnyH_ready (rs := [13]) (by kernel_rfl) (by simp) ?_
               refine AllReadyH.cons rfl (fun K hK => ?_) AllReadyH.nil
               go_simp
               refine (HREL.out wz id veh (p : Int) G_z.out.b).mono ?_
               rw [HCH.out, HDD.out]
               rintro e w3 ⟨ra2, n2, rc2, la2, l2, lc2, R2, rfl, hb, -⟩
               have G_w3 : Hid (BCP w w3 #[.int .i64 n, .slice a zl cap, .slice ao ko co, .slice (some ⟨bv, ov, none⟩) kv cv, .int .i64 fine] #[.slice ra nr rc, .slice la ln lc]) := G_z.out.below hb
               have IC_w3 : Hid (w3.cell? ⟨bi, oi + i, none⟩ = some (.int .i64 id)) := keepL IC_z.out hb
               have VC_w3 : Hid (w3.cell? ⟨bv, ov + k * 5, none⟩ = some (.int .i64 veh)) := keepL VC_z.out hb
               have B_w3 : Hid (Below wr.heap.size wr w3) := B_z.out.trans (hb.mono B_z.out.size)
               have VZ_w3 : Hid (w3.heap[kz]? = some (.cells #[.slice none 0 0, .slice none 0 0] 36 (0, 0))) := below_row hb (row_lt VZ0.out) VZ0.out
               obtain ⟨z0, z1⟩ := cells2 VZ_w3.out
               have zf := fun i => frozen_of_row _ _ i _ _ VZ_w3.out
               clear hb
               (try go_wp2_with fail)
               refine hK.out _ _ ?_ (fun hHeld => ?_)
               · exact br_cells G_w3.out IC_w3.out VC_w3.out
               clear hK K
               (try simp only [Act.put, List.setIfInBounds_toArray, List.set_cons_zero, List.set_cons_succ])
               refine tkH 14 hHeld ?_
               refine tkH 15 hHeld ?_
               refine tkH 16 hHeld ?_
               refine tkH 17 hHeld ?_
               refine wpAnyH_ready (rs := [19]) (by kernel_rfl) (by simp) ?_
               refine AllReadyH.cons rfl (fun K hK => ?_) AllReadyH.nil
               have G5 : Hid (BCP w ((w3.setCell ⟨kz, 0, none⟩ (.slice ra2 n2 rc2)).setCell ⟨kz, 1, none⟩ (.slice la2 l2 lc2)) #[.int .i64 n, .slice a zl cap, .slice ao ko co, .slice (some ⟨bv, ov, none⟩) kv cv, .int .i64 fine] #[.slice ra nr rc, .slice la ln lc]) := (G_w3.out.set HZL.out).set HZL.out
               have IC5 : Hid (World.cell? ((w3.setCell ⟨kz, 0, none⟩ (.slice ra2 n2 rc2)).setCell ⟨kz, 1, none⟩ (.slice la2 l2 lc2)) ⟨bi, oi + i, none⟩ = some (.int .i64 id)) := keep_set (keep_set IC_w3.out (by have := HZR.out; have := HBI.out; omega)) (by have := HZR.out; have := HBI.out; omega)
               have VC5 : Hid (World.cell? ((w3.setCell ⟨kz, 0, none⟩ (.slice ra2 n2 rc2)).setCell ⟨kz, 1, none⟩ (.slice la2 l2 lc2)) ⟨bv, ov + k * 5, none⟩ = some (.int .i64 veh)) := keep_set (keep_set VC_w3.out (by have := HZR.out; have := HBV.out; omega)) (by have := HZR.out; have := HBV.out; omega)
               have B5 : Hid (Below wr.heap.size wr ((w3.setCell ⟨kz, 0, none⟩ (.slice ra2 n2 rc2)).setCell ⟨kz, 1, none⟩ (.slice la2 l2 lc2))) := (B_w3.out.setCell (by have := HZR.out; simp; omega) _).setCell (by have := HZR.out; simp; omega) _
               go_simp
               refine hK.out _ _ ?_ (fun hHeld => ?_)
               · exact br_cells G5.out IC5.out VC5.out
               clear hK K
               generalize ((w3.setCell ⟨kz, 0, none⟩ (.slice ra2 n2 rc2)).setCell ⟨kz, 1, none⟩ (.slice la2 l2 lc2)) = w6 at *
               refine tkH 20 hHeld ?_
               refine tkH 21 hHeld ?_
               refine wpAnyH_done (by kernel_rfl) ?_ _
               clear hHeld
               (try go_wp2_with fail)
               go_meet
               exact ⟨rfl, rfl, G5.out, B5.out⟩
             case rest =>
               obtain ⟨rfl, rfl, hQ, hBx⟩ := hcut
               have C4 : Hid (BCP w wc #[.int .i64 n, .slice a zl cap, .slice ao ko co, .slice (some ⟨bv, ov, none⟩) kv cv, .int .i64 fine] #[.slice ra nr rc, .slice la ln lc]) := hQ
               have W4 : Hid (Below w1.heap.size w1 wc) := W3.out.trans (hBx.mono W3.out.size)
               have ic := keepL IC.out hBx
               have vc := keepL VC.out hBx
               clear hQ hBx W3 C3 IC VC HBI HBV
               obtain ⟨c0, c1, c2, c3, c4⟩ := cells5 C4.out.c
               cases ch
               · have HN9 := HNS.out (.inl rfl)
                 have HN8 : Hid _ := HN9
                 clear HN9 HNS HYS
                 go_wp2
                 go_roundw
                 case rel => exact ⟨p + 1, by omega, by first | rfl | go_num, by rw [HN8.out], by rw [HN8.out], by rw [HN8.out], by rw [HN8.out], C4.out, W4.out⟩
                 case measure => simp [intOf]; omega
               · by_cases hdv : dd < sv
                 · have HN9 := HYS.out rfl hdv
                   have HN8 : Hid _ := HN9
                   clear HN9 HNS HYS
                   go_wp2
                   go_roundw
                   case rel => exact ⟨p + 1, by omega, by first | rfl | go_num, by rw [HN8.out], by rw [HN8.out], by rw [HN8.out], by rw [HN8.out], C4.out, W4.out⟩
                   case measure => simp [intOf]; omega
                 · have HN9 := HNS.out (.inr hdv)
                   have HN8 : Hid _ := HN9
                   clear HN9 HNS HYS
                   go_wp2
                   go_roundw
                   case rel => exact ⟨p + 1, by omega, by first | rfl | go_num, by rw [HN8.out], by rw [HN8.out], by rw [HN8.out], by rw [HN8.out], C4.out, W4.out⟩
                   case measure => simp [intOf]; omega
           · have hpe : p = 13 := by omega
             subst hpe
             rw [<- HNK.out]
             obtain ⟨s, HS⟩ : ∃ v, Hid (q (l1 ++ sq2 vs id (k + 1)) = v) := ⟨_, rfl⟩
             rw [HS.out]
             go_wp2
             go_roundw
             case rel => exact ⟨k + 1, by omega, by first | rfl | go_num, by rw [HS.out], by rw [HS.out], by rw [HS.out], by rw [HS.out], C3.out, W3.out⟩
             case measure => simp [intOf]; omega
       · have hke : k = kv := by omega
         subst hke
         have h2 : ¬ ((k : Int) < (k : Int)) := by omega
         rw [<- HNX.out]
         obtain ⟨s, HS⟩ : ∃ v, Hid (q (sq3 vs k X (i + 1)) = v) := ⟨_, rfl⟩
         rw [HS.out]
         go_wp2
         go_roundw
         case rel => exact ⟨i + 1, by omega, by first | rfl | go_num, by rw [HS.out], by rw [HS.out], by rw [HS.out], by rw [HS.out], C2.out, W2.out⟩
         case measure => simp [intOf]; omega
   · have hie : i = m := by omega
     subst hie
     have h1 : ¬ ((i : Int) < (i : Int)) := by omega
     rw [HEND.out]
     clear YES NO HEND
     obtain ⟨sf, ⟨s1, s2, s3⟩, sv⟩ := q0
     simp only
     go_wp2
     refine bodyPost_ret (v := .tuple #[.int .i64 s1, .int .i64 s2, .int .i64 (s3 : Int), .int .i64 sv]) (by simp [results, Tryz.results17, go_sem]) rfl ?_
     exact ⟨rfl, C1.out.b⟩
theorem po_is {w : World} {base n rc m lc : Nat} {ra la : Option Addr} {S : List RT} {L : List Int} (h : PO w base (.slice ra n rc) S (.slice la m lc) L) (hn : S.length = n) (hm : L.length = m) : PlanIs w ra la n m S L := by
 have hr := h.r
 have hl := h.l
 rw [hn] at hr
 rw [hm] at hl
 exact ⟨hn, hm, po_at h hn, po_l h hm, own_adr hr, own_adr hl, fun r hr => own_capS (h.s r hr)⟩
theorem PO.box2 {w : World} {base k : Nat} {rs ls u v : Value} {S : List RT} {L : List Int} {cs : Array Value} (h : PO w base rs S ls L) (hk : w.heap[k]? = some (.cells cs 36 (0, 0))) : PO ((w.setCell ⟨k, 0, none⟩ u).setCell ⟨k, 1, none⟩ v) base rs S ls L := (h.box hk).box (heap_setCell_same w k 0 _ _ u hk)
set_option maxRecDepth 10000 in
set_option maxHeartbeats 4000000 in
theorem specDescended_any (st n fine : Int) (a ao av ra la : Option Addr) (zl cap ko co kv cv nr rc ln lc : Nat) (zs os vs L : List Int) (R : List RT) (w : World) (hA : IntsAt w a zs) (hO : IntsAt w ao os) (hV : IntsAt w av vs) (hlz : zs.length = zl) (hlo : os.length = ko * 6) (hlv : vs.length = kv * 5) (hko : ko <= 9223372036854775807) (hkv : kv <= 9223372036854775807) (hP : PlanIs w ra la nr ln R L) (hn : nr <= 1048576) (hi : ∀ r ∈ R, r.ids.length <= 1048576) (hll : ln <= 1048576) (hal : (allTo R R.length).length <= 1048576) :
   Calls Tryz.prog 19 #[.agg #[.int .i64 n, .slice a zl cap, .slice ao ko co, .slice av kv cv, .int .i64 fine], .agg #[.slice ra nr rc, .slice la ln lc], .int .i64 st] w (SpecOkI w (dcN st n fine zs os vs ko kv R L) (dcR st n fine zs os vs ko kv R L) (dcL st n fine zs os vs ko kv R L)) := by
 have HA : Hid (IntsAt w a zs) := hA
 have HO : Hid (IntsAt w ao os) := hO
 have HV : Hid (IntsAt w av vs) := hV
 have HLZ : Hid (zs.length = zl) := hlz
 have HLO : Hid (os.length = ko * 6) := hlo
 have HLV : Hid (vs.length = kv * 5) := hlv
 have HP : Hid (PlanIs w ra la nr ln R L) := hP
 have HN : Hid (R.length = nr) := hP.1
 have HM : Hid (L.length = ln) := hP.2.1
 have HI : Hid (∀ r ∈ R, r.ids.length <= 1048576) := hi
 clear hA hO hV hlz hlo hlv hP hi
 obtain ⟨pv, HPV⟩ : ∃ v, Hid (planV n zs os vs ko kv fine R L = v) := ⟨_, rfl⟩
 obtain ⟨k1, HK1⟩ : ∃ v, Hid (inB st 0 60 = v) := ⟨_, rfl⟩
 have HDB : Hid (dcB st n fine zs os vs ko kv R L = (decide (pv = 0) && k1)) := by show _ = _; unfold dcB; rw [HPV.out, HK1.out]
 have HNO : Hid (dcB st n fine zs os vs ko kv R L = false -> dcN st n fine zs os vs ko kv R L = -1 /\ dcR st n fine zs os vs ko kv R L = [] /\ dcL st n fine zs os vs ko kv R L = []) := fun h => by
   unfold dcN dcR dcL
   rw [h]
   exact ⟨rfl, rfl, rfl⟩
 have HYE : Hid (dcB st n fine zs os vs ko kv R L = true -> dcN st n fine zs os vs ko kv R L = (dsC n fine zs os vs ko kv L st.toNat R : Int) /\ dcR st n fine zs os vs ko kv R L = dsR n fine zs os vs ko kv L st.toNat R /\ dcL st n fine zs os vs ko kv R L = L) := fun h => by
   unfold dcN dcR dcL
   rw [h]
   exact ⟨rfl, rfl, rfl⟩
 obtain ⟨GN, HGN⟩ : ∃ v, Hid (dcN st n fine zs os vs ko kv R L = v) := ⟨_, rfl⟩
 obtain ⟨GR, HGR⟩ : ∃ v, Hid (dcR st n fine zs os vs ko kv R L = v) := ⟨_, rfl⟩
 obtain ⟨GL, HGL⟩ : ∃ v, Hid (dcL st n fine zs os vs ko kv R L = v) := ⟨_, rfl⟩
 rw [HGN.out, HGR.out, HGL.out] at HNO HYE
 rw [HGN.out, HGR.out, HGL.out]
 clear HGN HGR HGL
 have Q0 : Hid (GQ w (((w.alloc (.cells #[.int .i64 n, .slice a zl cap, .slice ao ko co, .slice av kv cv, .int .i64 fine] 43)).alloc (.cells #[.slice ra nr rc, .slice la ln lc] 36)).alloc (.cells #[.slice none 0 0, .slice none 0 0] 36)) #[.int .i64 n, .slice a zl cap, .slice ao ko co, .slice av kv cv, .int .i64 fine] #[.slice ra nr rc, .slice la ln lc]) := by
   refine ⟨(((Below.refl _ _).alloc (Nat.le_refl _) _).alloc (by simp) _).alloc (by simp; omega) _, ?_, ?_, ?_⟩
   · exact (heap_alloc_old _ _ (by simp; omega)).trans (heap_alloc2_old _ _ _)
   · exact (heap_alloc_old _ _ (by simp)).trans (heap_alloc2_new _ _ _)
   · have := heap_alloc_new ((w.alloc (.cells #[.int .i64 n, .slice a zl cap, .slice ao ko co, .slice av kv cv, .int .i64 fine] 43)).alloc (.cells #[.slice ra nr rc, .slice la ln lc] 36)) (.cells #[.slice none 0 0, .slice none 0 0] 36)
     simpa using this
 have PCA : Hid (∀ W, Below w.heap.size w W -> Calls Tryz.prog 26 #[.agg #[.int .i64 n, .slice a zl cap, .slice ao ko co, .slice av kv cv, .int .i64 fine], .agg #[.slice ra nr rc, .slice la ln lc]] W fun e w' => e = .returned (.int .i64 pv) /\ Below W.heap.size W w') := fun W hW => by
   have PC := specPlan_any n fine a ao av ra la cap ko co kv cv rc lc zs os vs L R W (HA.out.below hW) (HO.out.below hW) (HV.out.below hW) (HP.out.2.2.1.below hW) (HP.out.2.2.2.1.below hW) HLO.out HLV.out hko hkv (by rw [HN.out]; exact hn) HI.out HP.out.2.2.2.2.2.2 (by rw [HM.out]; exact hll) hal
   rw [HN.out, HM.out, HLZ.out, HPV.out] at PC
   exact PC
 obtain ⟨c0, c1, c2, c3, c4⟩ := cells5 Q0.out.c
 obtain ⟨p0, p1⟩ := cells2 Q0.out.p
 go_enter Tryz.func19, Tryz.ntmps19
 go_wp2_with fail
 generalize ((w.alloc (.cells #[.int .i64 n, .slice a zl cap, .slice ao ko co, .slice av kv cv, .int .i64 fine] 43)).alloc (.cells #[.slice ra nr rc, .slice la ln lc] 36)).alloc (.cells #[.slice none 0 0, .slice none 0 0] 36) = W0 at *
 refine (PCA.out W0 Q0.out.b).mono ?_
 rintro e w1 ⟨rfl, hb⟩
 have Q1 : Hid (GQ w w1 #[.int .i64 n, .slice a zl cap, .slice ao ko co, .slice av kv cv, .int .i64 fine] #[.slice ra nr rc, .slice la ln lc]) := Q0.out.below hb
 clear hb PCA c0 c1 c2 c3 c4 p0 p1 Q0
 by_cases hpv : pv = 0
 rotate_left
 · have hpn : (pv != 0) = true := by simp [hpv]
   obtain ⟨a0, a1⟩ := cells2 Q1.out.o
   have af := fun i => frozen_of_row _ _ i _ _ Q1.out.o
   have B5 : Hid (Below w.heap.size w ((w1.setCell ⟨w.heap.size + 2, 0, none⟩ (.slice none 0 0)).setCell ⟨w.heap.size + 2, 1, none⟩ (.slice none 0 0))) := (Q1.out.b.setCell (by simp) _).setCell (by simp) _
   rw [decide_eq_false hpv, Bool.false_and] at HDB
   obtain ⟨g1, g2, g3⟩ := HNO.out (by rw [HDB.out]; try rfl)
   subst g1 g2 g3
   clear HNO HYE
   go_wp2_with (go_at_call 53; refine (l1In_any _ _ _ _).mono ?_; rintro e w' ⟨rfl, hw'⟩; subst w'; rw [HK1.out])
   refine bodyPost_ret (v := .tuple #[.agg #[.slice none 0 0, .slice none 0 0], .int .i64 (-1)]) (by simp [results, Tryz.results19, go_sem, a0, a1]) rfl ?_
   show SpecOkI _ _ _ _ _ _
   exact ⟨none, 0, 0, none, 0, 0, [], rfl, B5.out, rfl, rfl, rfl, ⟨World.ownsRow_nil _ _ _ _, (fun s hs => by cases hs), World.ownsRow_nil _ _ _ _⟩⟩
 have HPL : Hid (planV n zs os vs ko kv fine R L = 0) := HPV.out.trans hpv
 subst hpv
 rw [decide_eq_true rfl, Bool.true_and] at HDB
 clear HPV
 cases k1
 · obtain ⟨a0, a1⟩ := cells2 Q1.out.o
   have af := fun i => frozen_of_row _ _ i _ _ Q1.out.o
   have B5 : Hid (Below w.heap.size w ((w1.setCell ⟨w.heap.size + 2, 0, none⟩ (.slice none 0 0)).setCell ⟨w.heap.size + 2, 1, none⟩ (.slice none 0 0))) := (Q1.out.b.setCell (by simp) _).setCell (by simp) _
   obtain ⟨g1, g2, g3⟩ := HNO.out (by rw [HDB.out]; try rfl)
   subst g1 g2 g3
   clear HNO HYE
   go_wp2_with (go_at_call 53; refine (l1In_any _ _ _ _).mono ?_; rintro e w' ⟨rfl, hw'⟩; subst w'; rw [HK1.out])
   refine bodyPost_ret (v := .tuple #[.agg #[.slice none 0 0, .slice none 0 0], .int .i64 (-1)]) (by simp [results, Tryz.results19, go_sem, a0, a1]) rfl ?_
   show SpecOkI _ _ _ _ _ _
   exact ⟨none, 0, 0, none, 0, 0, [], rfl, B5.out, rfl, rfl, rfl, ⟨World.ownsRow_nil _ _ _ _, (fun s hs => by cases hs), World.ownsRow_nil _ _ _ _⟩⟩
 obtain ⟨y1, y2, y3⟩ := HYE.out HDB.out
 subst y3
 have hin := inB_true HK1.out
 obtain ⟨N, hN⟩ : ∃ N : Nat, st = (N : Int) := ⟨st.toNat, by omega⟩
 subst hN
 rw [Int.toNat_natCast] at y1 y2
 have hN60 : N <= 60 := by omega
 obtain ⟨cnt, HC⟩ : ∃ v, Hid (dsC n fine zs os vs ko kv GL N R = v) := ⟨_, rfl⟩
 rw [HC.out] at y1
 subst y1
 have HT : Hid (dsR n fine zs os vs ko kv GL N R = GR) := y2.symm
 clear HYE HNO HDB y2 hin
 have hps := plan_small HPL.out
 have hok := (rts_iff.1 (planV_zero HPL.out).2.1).2
 have CC := l4Copy_opt ra la rc lc R GL w1 (HP.out.2.2.1.below Q1.out.b) (HP.out.2.2.2.1.below Q1.out.b) (HP.out.2.2.2.2.2.1.imp (fun h => ⟨h.1, HP.out.2.1.trans h.2⟩) id) (by omega) (fun r hr => ⟨(hok r hr).1, by have := code12 (hok r hr).2; omega⟩) (by omega)
 rw [HN.out, HM.out] at CC
 obtain ⟨p0, p1⟩ := cells2 Q1.out.p
 clear hps hok
 go_wp2_with (go_at_call 53; refine (l1In_any _ _ _ _).mono ?_; rintro e w' ⟨rfl, hw'⟩; subst w'; rw [HK1.out])
 refine CC.mono ?_
 rintro e w2 ⟨ra0, rc0, gl0, lc0, S0, rfl, hb, hk0, ho0⟩
 rw [HN.out, HM.out] at ho0
 rw [HN.out, HM.out]
 have hA : Below w2.heap.size w2 (w2.alloc (.cells #[.slice ra0 nr rc0, .slice (some ⟨gl0, 0, none⟩) ln lc0] 36)) := (Below.refl _ _).alloc (Nat.le_refl _) _
 have Q2 : Hid (GQ w (w2.alloc (.cells #[.slice ra0 nr rc0, .slice (some ⟨gl0, 0, none⟩) ln lc0] 36)) #[.int .i64 n, .slice a zl cap, .slice ao ko co, .slice av kv cv, .int .i64 fine] #[.slice ra nr rc, .slice la ln lc]) := (Q1.out.below hb).below hA
 have B2 : Hid ((w2.alloc (.cells #[.slice ra0 nr rc0, .slice (some ⟨gl0, 0, none⟩) ln lc0] 36)).heap[w2.heap.size]? = some (.cells #[.slice ra0 nr rc0, .slice (some ⟨gl0, 0, none⟩) ln lc0] 36 (0, 0))) := heap_alloc_new _ _
 have O2 : Hid (PO (w2.alloc (.cells #[.slice ra0 nr rc0, .slice (some ⟨gl0, 0, none⟩) ln lc0] 36)) (w.heap.size + 3) (.slice ra0 nr rc0) S0 (.slice (some ⟨gl0, 0, none⟩) ln lc0) GL) := (ho0.base (by have := Q1.out.size; omega)).below hA
 have HKO : Hid (w.heap.size + 3 <= w2.heap.size) := (Q1.out.below hb).size
 have HK0 : Hid (S0.map RT.key = R.map RT.key) := hk0
 clear hA hb hk0 ho0 CC p0 p1 Q1 HK1
 go_wp2_with fail
 generalize w2.alloc (.cells #[.slice ra0 nr rc0, .slice (some ⟨gl0, 0, none⟩) ln lc0] 36) = W2 at *
 obtain ⟨kq, HKQ⟩ : ∃ v, Hid (w2.heap.size = v) := ⟨_, rfl⟩
 rw [HKQ.out] at B2 HKO ⊢
 go_loopw [9] (fun t wr => ∃ (k : Nat) (cur : List RT) (ra1 : Option Addr) (n1 rc1 gl1 l1 lc1 : Nat), k <= N /\ t = .int .i64 k /\ GQ w wr #[.int .i64 n, .slice a zl cap, .slice ao ko co, .slice av kv cv, .int .i64 fine] #[.slice ra nr rc, .slice la ln lc] /\ wr.heap[kq]? = some (.cells #[.slice ra1 n1 rc1, .slice (some ⟨gl1, 0, none⟩) l1 lc1] 36 (0, 0)) /\ PO wr (w.heap.size + 3) (.slice ra1 n1 rc1) cur (.slice (some ⟨gl1, 0, none⟩) l1 lc1) GL /\ (cur.length = n1 /\ GL.length = l1) /\ planV n zs os vs ko kv fine cur GL = 0 /\ (dsR n fine zs os vs ko kv GL (N - k) cur).map RT.key = GR.map RT.key /\ dsC n fine zs os vs ko kv GL (N - k) cur + k = cnt) (fun t _ => 100 - (intOf t).toNat)
 case atStart =>
   exact ⟨0, S0, ra0, nr, rc0, gl0, ln, lc0, by omega, rfl, Q2.out, B2.out, O2.out, ⟨(key_len HK0.out).trans HN.out, HM.out⟩, by rw [planV_key GL HK0.out]; exact HPL.out, by rw [Nat.sub_zero, dsR_key N HK0.out, HT.out], by rw [Nat.sub_zero, dsC_key N HK0.out, HC.out]; omega⟩
 case round =>
   clear Q2 B2 O2 HP HPL HT HC HK0 HKQ
   obtain ⟨k, cur, ra1, n1, rc1, gl1, l1, lc1, hk, rfl, hQ, hB, hO, hNL, hpv, hkr, hkc⟩ := hrel
   have Q3 : Hid (GQ w wr #[.int .i64 n, .slice a zl cap, .slice ao ko co, .slice av kv cv, .int .i64 fine] #[.slice ra nr rc, .slice la ln lc]) := hQ
   have B3 : Hid (wr.heap[kq]? = some (.cells #[.slice ra1 n1 rc1, .slice (some ⟨gl1, 0, none⟩) l1 lc1] 36 (0, 0))) := hB
   have O3 : Hid (PO wr (w.heap.size + 3) (.slice ra1 n1 rc1) cur (.slice (some ⟨gl1, 0, none⟩) l1 lc1) GL) := hO
   have NL : Hid (cur.length = n1 /\ GL.length = l1) := hNL
   have PV : Hid (planV n zs os vs ko kv fine cur GL = 0) := hpv
   have KR : Hid ((dsR n fine zs os vs ko kv GL (N - k) cur).map RT.key = GR.map RT.key) := hkr
   have KC : Hid (dsC n fine zs os vs ko kv GL (N - k) cur + k = cnt) := hkc
   clear hQ hB hO hNL hpv hkr hkc
   by_cases hlt : k < N
   · have hlt' : (k : Int) < (N : Int) := by omega
     have hwk : IntKind.i64.wrap ((k : Int) + 1) = ((k + 1 : Nat) : Int) := by rw [IntWalk.i64_in _ (by omega)]; omega
     have hps := plan_small PV.out
     have hss := serv_small PV.out
     have hok := (rts_iff.1 (planV_zero PV.out).2.1).2
     have RM0 : ∀ W id tv pl, Below w.heap.size w W -> PO W (w.heap.size + 3) (.slice ra1 n1 rc1) cur (.slice (some ⟨gl1, 0, none⟩) l1 lc1) GL -> _ := fun W id tv pl hW hO => specRelocM_any id tv pl n fine a ao av ra1 zl cap ko co kv cv n1 rc1 gl1 0 l1 lc1 zs os vs GL cur W (HA.out.below hW) (HO.out.below hW) (HV.out.below hW) HLZ.out HLO.out HLV.out hko hkv (po_is hO NL.out.1 NL.out.2) (by have := NL.out.1; omega) (fun r hr => by have := code12 (hok r hr).2; omega) (by have := NL.out.2; omega) (by omega)
     have RN0 : ∀ W id tv pl, Below w.heap.size w W -> PO W (w.heap.size + 3) (.slice ra1 n1 rc1) cur (.slice (some ⟨gl1, 0, none⟩) l1 lc1) GL -> _ := fun W id tv pl hW hO => specRelocated_any id tv pl n fine a ao av ra1 zl cap ko co kv cv n1 rc1 gl1 0 l1 lc1 zs os vs GL cur W (HA.out.below hW) (HO.out.below hW) (HV.out.below hW) HLZ.out HLO.out HLV.out hko hkv (po_is hO NL.out.1 NL.out.2) (by have := NL.out.1; omega) (fun r hr => by have := code12 (hok r hr).2; omega) (by have := NL.out.2; omega) (by omega)
     have RM : Hid _ := RM0
     obtain ⟨q, HQ⟩ : ∃ t, Hid (brQ n fine zs os vs ko kv cur GL = t) := ⟨_, rfl⟩
     have BR := specBestRel_any n fine a ao av ra1 (some ⟨gl1, 0, none⟩) zl cap ko co kv cv n1 rc1 l1 lc1 zs os vs GL cur wr (HA.out.below Q3.out.b) (HO.out.below Q3.out.b) (HV.out.below Q3.out.b) HLZ.out HLO.out HLV.out hko hkv (po_is O3.out NL.out.1 NL.out.2) (by have := NL.out.1; omega) (fun r hr => by have := code12 (hok r hr).2; omega) (by have := NL.out.2; omega) (by omega) (fun W id tv pl hW => RN0 W id tv pl (Q3.out.b.trans (hW.mono Q3.out.b.size)) (O3.out.below hW)) q HQ.out
     have hv0 := br_v0 HQ.out
     clear RM0 RN0 hps hss hok
     obtain ⟨c0, c1, c2, c3, c4⟩ := cells5 Q3.out.c
     obtain ⟨z0, z1⟩ := cells2 B3.out
     go_wp2_with fail
     clear c0 c1 c2 c3 c4 z0 z1
     refine BR.mono ?_
     rintro e w4 ⟨rfl, hb⟩
     obtain ⟨sf, ⟨s1, s2, s3⟩, sv⟩ := q
     dsimp only at hv0 ⊢
     have Q4 : Hid (GQ w w4 #[.int .i64 n, .slice a zl cap, .slice ao ko co, .slice av kv cv, .int .i64 fine] #[.slice ra nr rc, .slice la ln lc]) := Q3.out.below hb
     have B4 : Hid (w4.heap[kq]? = some (.cells #[.slice ra1 n1 rc1, .slice (some ⟨gl1, 0, none⟩) l1 lc1] 36 (0, 0))) := below_row hb (row_lt B3.out) B3.out
     have O4 : Hid (PO w4 (w.heap.size + 3) (.slice ra1 n1 rc1) cur (.slice (some ⟨gl1, 0, none⟩) l1 lc1) GL) := O3.out.below hb
     clear hb BR Q3 B3 O3
     cases sf
     · have hsv : sv = 0 := hv0.1 rfl
       subst hsv
       have hst : (brQ n fine zs os vs ko kv cur GL).f = false := by rw [HQ.out]
       have e1 := KR.out
       have e2 := KC.out
       rw [(ds_stop hst (N - k)).1] at e1
       rw [(ds_stop hst (N - k)).2, Nat.zero_add] at e2
       subst e2
       have E1 : Hid (cur.map RT.key = GR.map RT.key) := e1
       clear hst e1 KR KC HQ hv0 RM
       obtain ⟨z0, z1⟩ := cells2 B4.out
       obtain ⟨a0, a1⟩ := cells2 Q4.out.o
       have af := fun i => frozen_of_row _ _ i _ _ Q4.out.o
       have s1 := heap_setCell_same w4 (w.heap.size + 2) 0 _ _ (Value.slice ra1 n1 rc1) Q4.out.o
       have P9 : Hid (PO ((w4.setCell ⟨w.heap.size + 2, 0, none⟩ (.slice ra1 n1 rc1)).setCell ⟨w.heap.size + 2, 1, none⟩ (.slice (some ⟨gl1, 0, none⟩) l1 lc1)) (w.heap.size + 3) (.slice ra1 n1 rc1) cur (.slice (some ⟨gl1, 0, none⟩) l1 lc1) GL) := (O4.out.box Q4.out.o).box s1
       have B9 : Hid (Below w.heap.size w ((w4.setCell ⟨w.heap.size + 2, 0, none⟩ (.slice ra1 n1 rc1)).setCell ⟨w.heap.size + 2, 1, none⟩ (.slice (some ⟨gl1, 0, none⟩) l1 lc1))) := (Q4.out.b.setCell (by simp) _).setCell (by simp) _
       clear s1
       go_wp2
       refine bodyPost_ret (v := .tuple #[.agg #[.slice ra1 n1 rc1, .slice (some ⟨gl1, 0, none⟩) l1 lc1], .int .i64 (k : Int)]) (by simp [results, Tryz.results19, go_sem, a0, a1]) rfl ?_
       show SpecOkI _ _ _ _ _ _
       exact ⟨ra1, n1, rc1, _, l1, lc1, cur, rfl, B9.out, NL.out.1, NL.out.2, E1.out, P9.out.base (by omega)⟩
     · have hsv : sv < 0 := hv0.2 rfl
       have hsn : (sv == 0) = false := by simp; omega
       have hst : (brQ n fine zs os vs ko kv cur GL).f = true := by rw [HQ.out]
       obtain ⟨b1, b2, b3, b4⟩ := br_made HQ.out rfl
       have hnk : N - k = (N - (k + 1)) + 1 := by omega
       have e1 := KR.out
       have e2 := KC.out
       rw [hnk, (ds_step hst _).1] at e1
       rw [hnk, (ds_step hst _).2] at e2
       have E1 : Hid ((dsR n fine zs os vs ko kv GL (N - (k + 1)) (dsN n fine zs os vs ko kv GL cur)).map RT.key = GR.map RT.key) := e1
       have E2 : Hid (dsC n fine zs os vs ko kv GL (N - (k + 1)) (dsN n fine zs os vs ko kv GL cur) + 1 + k = cnt) := e2
       dsimp only at b1 b2 b3
       have RL := RM.out w4 s1 s2 (s3 : Int) Q4.out.b O4.out
       rw [b1, b2, b3] at RL
       have X4 : Hid (planV n zs os vs ko kv fine (dsN n fine zs os vs ko kv GL cur) GL = 0) := b4
       obtain ⟨RD, HRD⟩ : ∃ v, Hid (rqD s1 s2 (s3 : Int) n fine zs os vs ko kv cur GL = v) := ⟨_, rfl⟩
       rw [HRD.out] at RL
       obtain ⟨nx, HNX⟩ : ∃ v, Hid (dsN n fine zs os vs ko kv GL cur = v) := ⟨_, rfl⟩
       rw [HNX.out] at RL E1 E2 X4
       clear hst e1 e2 b1 b2 b3 b4 KR KC HQ HRD HNX hnk hv0 RM
       obtain ⟨c0, c1, c2, c3, c4⟩ := cells5 Q4.out.c
       obtain ⟨z0, z1⟩ := cells2 B4.out
       go_wp2_with fail
       clear c0 c1 c2 c3 c4 z0 z1
       refine RL.mono ?_
       rintro e w5 ⟨ra2, n2, rc2, la2, l2, lc2, S2, rfl, hb, hn2, hl2, hk2, ho2, hg2⟩
       obtain ⟨gl2, rfl⟩ := hg2 rfl
       have Q5 : Hid (GQ w w5 #[.int .i64 n, .slice a zl cap, .slice ao ko co, .slice av kv cv, .int .i64 fine] #[.slice ra nr rc, .slice la ln lc]) := Q4.out.below hb
       have B5 : Hid (w5.heap[kq]? = some (.cells #[.slice ra1 n1 rc1, .slice (some ⟨gl1, 0, none⟩) l1 lc1] 36 (0, 0))) := below_row hb (row_lt B4.out) B4.out
       have O5 : Hid (PO w5 (w.heap.size + 3) (.slice ra2 n2 rc2) S2 (.slice (some ⟨gl2, 0, none⟩) l2 lc2) GL) := ho2.base (by have := Q4.out.size; omega)
       have O6 : Hid (PO ((w5.setCell ⟨kq, 0, none⟩ (.slice ra2 n2 rc2)).setCell ⟨kq, 1, none⟩ (.slice (some ⟨gl2, 0, none⟩) l2 lc2)) (w.heap.size + 3) (.slice ra2 n2 rc2) S2 (.slice (some ⟨gl2, 0, none⟩) l2 lc2) GL) := O5.out.box2 B5.out
       have Q6 : Hid (GQ w ((w5.setCell ⟨kq, 0, none⟩ (.slice ra2 n2 rc2)).setCell ⟨kq, 1, none⟩ (.slice (some ⟨gl2, 0, none⟩) l2 lc2)) #[.int .i64 n, .slice a zl cap, .slice ao ko co, .slice av kv cv, .int .i64 fine] #[.slice ra nr rc, .slice la ln lc]) := (Q5.out.set HKO.out).set HKO.out
       have B6 : Hid (((w5.setCell ⟨kq, 0, none⟩ (.slice ra2 n2 rc2)).setCell ⟨kq, 1, none⟩ (.slice (some ⟨gl2, 0, none⟩) l2 lc2)).heap[kq]? = some (.cells #[.slice ra2 n2 rc2, .slice (some ⟨gl2, 0, none⟩) l2 lc2] 36 (0, 0))) := by
         have s1 := heap_setCell_same w5 kq 0 _ _ (Value.slice ra2 n2 rc2) B5.out
         have s2 := heap_setCell_same _ kq 1 _ _ (Value.slice (some ⟨gl2, 0, none⟩) l2 lc2) s1
         simp only [List.setIfInBounds_toArray, List.set_cons_zero, List.set_cons_succ] at s2
         exact s2
       have HK2 : Hid (S2.map RT.key = nx.map RT.key) := hk2
       have NL2 : Hid (S2.length = n2 /\ GL.length = l2) := ⟨hn2, hl2⟩
       clear hb hn2 hl2 hk2 ho2 hg2 RL Q4 B4 O4 O5
       obtain ⟨z0, z1⟩ := cells2 B5.out
       have zf := fun i => frozen_of_row _ _ i _ _ B5.out
       go_wp2
       go_roundw
       case rel =>
         exact ⟨k + 1, S2, ra2, n2, rc2, gl2, l2, lc2, by omega, by first | rfl | go_num, Q6.out, B6.out, O6.out, NL2.out, by rw [planV_key GL HK2.out]; exact X4.out, (dsR_key _ HK2.out).trans E1.out, by rw [dsC_key _ HK2.out]; have := E2.out; omega⟩
       case measure => simp [intOf]; omega
   · have hke : k = N := by omega
     subst hke
     have e1 := KR.out
     have e2 := KC.out
     rw [Nat.sub_self] at e1 e2
     have e3 : k = cnt := by simpa [dsC] using e2
     subst e3
     have E1 : Hid (cur.map RT.key = GR.map RT.key) := e1
     clear e1 e2 KR KC
     obtain ⟨z0, z1⟩ := cells2 B3.out
     obtain ⟨a0, a1⟩ := cells2 Q3.out.o
     have af := fun i => frozen_of_row _ _ i _ _ Q3.out.o
     have s1 := heap_setCell_same wr (w.heap.size + 2) 0 _ _ (Value.slice ra1 n1 rc1) Q3.out.o
     have P9 : Hid (PO ((wr.setCell ⟨w.heap.size + 2, 0, none⟩ (.slice ra1 n1 rc1)).setCell ⟨w.heap.size + 2, 1, none⟩ (.slice (some ⟨gl1, 0, none⟩) l1 lc1)) (w.heap.size + 3) (.slice ra1 n1 rc1) cur (.slice (some ⟨gl1, 0, none⟩) l1 lc1) GL) := (O3.out.box Q3.out.o).box s1
     have B9 : Hid (Below w.heap.size w ((wr.setCell ⟨w.heap.size + 2, 0, none⟩ (.slice ra1 n1 rc1)).setCell ⟨w.heap.size + 2, 1, none⟩ (.slice (some ⟨gl1, 0, none⟩) l1 lc1))) := (Q3.out.b.setCell (by simp) _).setCell (by simp) _
     clear s1
     go_wp2
     refine bodyPost_ret (v := .tuple #[.agg #[.slice ra1 n1 rc1, .slice (some ⟨gl1, 0, none⟩) l1 lc1], .int .i64 (k : Int)]) (by simp [results, Tryz.results19, go_sem, a0, a1]) rfl ?_
     show SpecOkI _ _ _ _ _ _
     exact ⟨ra1, n1, rc1, _, l1, lc1, cur, rfl, B9.out, NL.out.1, NL.out.2, E1.out, P9.out.base (by omega)⟩
end Go.Proofs.YtfpegaldloadaaaGreat
