import Derived.Test.YtfpegaldloadaaaGreatPack2
import Derived.Test.YtfpegaldloadaaaGreatImplPlan
import Derived.Test.YtfpegaldloadaaaGreatPack11
import Derived.Test.YtfpegaldloadaaaGreatPack33
import Derived.Test.YtfpegaldloadaaaGreatPack35
import Derived.Test.YtfpegaldloadaaaGreatRelocPlan
import Derived.Test.YtfpegaldloadaaaGreatPack38
namespace Go.Proofs.YtfpegaldloadaaaGreat
open Go.RowKit
set_option maxRecDepth 10000 in
set_option maxHeartbeats 4000000 in
theorem implRelocated_any (id tv pl n fine : Int) (a ao av ra la : Option Addr) (zl cap ko co kv cv nr rc ln lc : Nat) (zs os vs L : List Int) (R : List RT) (w : World) (hA : IntsAt w a zs) (hO : IntsAt w ao os) (hV : IntsAt w av vs) (hlz : zs.length = zl) (hlo : os.length = ko * 6) (hlv : vs.length = kv * 5) (hko : ko <= 9223372036854775807) (hkv : kv <= 9223372036854775807) (hP : PlanIs w ra la nr ln R L) (hn : nr <= 1048576) (hi : ∀ r ∈ R, r.ids.length <= 1048576) (hll : ln <= 1048576) (hal : (allTo R R.length).length <= 1048576) (hwl : ∀ x ∈ L, (Lit.int .i64 x).wf = true) :
   Calls Tryz.prog 11 #[.agg #[.int .i64 n, .slice a zl cap, .slice ao ko co, .slice av kv cv, .int .i64 fine], .agg #[.slice ra nr rc, .slice la ln lc], .int .i64 id, .int .i64 tv, .int .i64 pl] w (OwnOkN w (rqD id tv pl n fine zs os vs ko kv R L) (rqB id tv pl n fine zs os vs ko kv R L) (rqR id tv pl n fine zs os vs ko kv R L) (rqL id tv pl n fine zs os vs ko kv R L)) := by
 have HA : Hid (IntsAt w a zs) := hA
 have HO : Hid (IntsAt w ao os) := hO
 have HV : Hid (IntsAt w av vs) := hV
 have HLZ : Hid (zs.length = zl) := hlz
 have HLO : Hid (os.length = ko * 6) := hlo
 have HLV : Hid (vs.length = kv * 5) := hlv
 have HP : Hid (PlanIs w ra la nr ln R L) := hP
 have HN : Hid (R.length = nr) := hP.1
 have HM : Hid (L.length = ln) := hP.2.1
 have HI : Hid (∀ r ∈ R, r.ids.length <= 1048576) := hi
 clear hA hO hV hlz hlo hlv hP hi
 obtain ⟨pv, HPV⟩ : ∃ v, Hid (planV n zs os vs ko kv fine R L = v) := ⟨_, rfl⟩
 have HNO : Hid (pv ≠ 0 -> rqD id tv pl n fine zs os vs ko kv R L = 0 /\ rqB id tv pl n fine zs os vs ko kv R L = false /\ rqR id tv pl n fine zs os vs ko kv R L = [] /\ rqL id tv pl n fine zs os vs ko kv R L = []) := fun h => by
   have hb : rqB id tv pl n fine zs os vs ko kv R L = false := by unfold rqB; rw [HPV.out, decide_eq_false h, Bool.false_and]
   unfold rqD rqR rqL
   rw [hb]
   exact ⟨rfl, rfl, rfl, rfl⟩
 have HBD := rq_bd id tv pl n fine zs os vs ko kv R L
 have RL0 : pv = 0 -> ∀ W, Below w.heap.size w W -> _ := fun h W hW => relocated_any id tv pl n fine a ao av ra la zl cap ko co kv cv nr rc ln lc zs os vs L R W (HA.out.below hW) (HO.out.below hW) (HV.out.below hW) HLZ.out HLO.out HLV.out hko hkv (HP.out.below hW) (HPV.out.trans h)
 obtain ⟨GN, HGN⟩ : ∃ v, Hid (rqD id tv pl n fine zs os vs ko kv R L = v) := ⟨_, rfl⟩
 obtain ⟨GF, HGF⟩ : ∃ v, Hid (rqB id tv pl n fine zs os vs ko kv R L = v) := ⟨_, rfl⟩
 obtain ⟨GR, HGR⟩ : ∃ v, Hid (rqR id tv pl n fine zs os vs ko kv R L = v) := ⟨_, rfl⟩
 obtain ⟨GL, HGL⟩ : ∃ v, Hid (rqL id tv pl n fine zs os vs ko kv R L = v) := ⟨_, rfl⟩
 rw [HGR.out, HGL.out] at HBD
 have HGI : Hid ((∀ r ∈ GR, r.ids ≠ [] /\ r.ids.length <= 12) /\ GR.length <= 500 /\ GL.length <= 500) := HBD
 rw [HGN.out, HGF.out, HGR.out, HGL.out] at HNO
 rw [HGN.out, HGF.out, HGR.out, HGL.out] at RL0
 rw [HGN.out, HGF.out, HGR.out, HGL.out]
 have RL : Hid _ := RL0
 clear HBD HGN HGF HGR HGL RL0
 have Q0 : Hid (GQ w (((w.alloc (.cells #[.int .i64 n, .slice a zl cap, .slice ao ko co, .slice av kv cv, .int .i64 fine] 43)).alloc (.cells #[.slice ra nr rc, .slice la ln lc] 36)).alloc (.cells #[.slice none 0 0, .slice none 0 0] 36)) #[.int .i64 n, .slice a zl cap, .slice ao ko co, .slice av kv cv, .int .i64 fine] #[.slice ra nr rc, .slice la ln lc]) := by
   refine ⟨(((Below.refl _ _).alloc (Nat.le_refl _) _).alloc (by simp) _).alloc (by simp; omega) _, ?_, ?_, ?_⟩
   · exact (heap_alloc_old _ _ (by simp; omega)).trans (heap_alloc2_old _ _ _)
   · exact (heap_alloc_old _ _ (by simp)).trans (heap_alloc2_new _ _ _)
   · have := heap_alloc_new ((w.alloc (.cells #[.int .i64 n, .slice a zl cap, .slice ao ko co, .slice av kv cv, .int .i64 fine] 43)).alloc (.cells #[.slice ra nr rc, .slice la ln lc] 36)) (.cells #[.slice none 0 0, .slice none 0 0] 36)
     simpa using this
 have PC := implPlan_any n fine a ao av ra la cap ko co kv cv rc lc zs os vs L R (((w.alloc (.cells #[.int .i64 n, .slice a zl cap, .slice ao ko co, .slice av kv cv, .int .i64 fine] 43)).alloc (.cells #[.slice ra nr rc, .slice la ln lc] 36)).alloc (.cells #[.slice none 0 0, .slice none 0 0] 36)) (HA.out.below Q0.out.b) (HO.out.below Q0.out.b) (HV.out.below Q0.out.b) (HP.out.2.2.1.below Q0.out.b) (HP.out.2.2.2.1.below Q0.out.b) HLO.out HLV.out hko hkv (by rw [HN.out]; exact hn) HI.out HP.out.2.2.2.2.2.2 (by rw [HM.out]; exact hll) hal hwl
 rw [HN.out, HM.out, HLZ.out, HPV.out] at PC
 obtain ⟨c0, c1, c2, c3, c4⟩ := cells5 Q0.out.c
 obtain ⟨p0, p1⟩ := cells2 Q0.out.p
 go_enter Tryz.func11, Tryz.ntmps11
 go_wp2_with fail
 generalize ((w.alloc (.cells #[.int .i64 n, .slice a zl cap, .slice ao ko co, .slice av kv cv, .int .i64 fine] 43)).alloc (.cells #[.slice ra nr rc, .slice la ln lc] 36)).alloc (.cells #[.slice none 0 0, .slice none 0 0] 36) = W0 at *
 refine PC.mono ?_
 rintro e w1 ⟨rfl, hb⟩
 have Q1 : Hid (GQ w w1 #[.int .i64 n, .slice a zl cap, .slice ao ko co, .slice av kv cv, .int .i64 fine] #[.slice ra nr rc, .slice la ln lc]) := Q0.out.below hb
 clear hb PC c0 c1 c2 c3 c4 p0 p1 Q0 HPV
 by_cases hpv : pv = 0
 · have RLW := RL.out hpv w1 Q1.out.b
   subst hpv
   clear HNO RL
   obtain ⟨c0, c1, c2, c3, c4⟩ := cells5 Q1.out.c
   obtain ⟨p0, p1⟩ := cells2 Q1.out.p
   go_wp2_with fail
   refine RLW.mono ?_
   rintro e w2 ⟨ra2, n2, rc2, la2, l2, lc2, R2, rfl, hb, h1, h2, h3, h4, h5, h6⟩
   have hA : Below w2.heap.size w2 (w2.alloc (.cells #[.slice ra2 n2 rc2, .slice la2 l2 lc2] 36)) := (Below.refl _ _).alloc (Nat.le_refl _) _
   have Q3 : Hid (GQ w (w2.alloc (.cells #[.slice ra2 n2 rc2, .slice la2 l2 lc2] 36)) #[.int .i64 n, .slice a zl cap, .slice ao ko co, .slice av kv cv, .int .i64 fine] #[.slice ra nr rc, .slice la ln lc]) := (Q1.out.below hb).below hA
   have Z3 : Hid ((w2.alloc (.cells #[.slice ra2 n2 rc2, .slice la2 l2 lc2] 36)).heap[w2.heap.size]? = some (.cells #[.slice ra2 n2 rc2, .slice la2 l2 lc2] 36 (0, 0))) := heap_alloc_new _ _
   have hk9 : R2.length = GR.length := by have := congrArg List.length h5; simpa using this
   have CC := copyOfPlan_any ra2 la2 rc2 lc2 R2 GL (w2.alloc (.cells #[.slice ra2 n2 rc2, .slice la2 l2 lc2] 36)) (h1.below hA) (h3.below hA) h6 (by have := HGI.out.2.1; omega) (fun r hr => key_in h5 HGI.out.1 r hr) HGI.out.2.2
   rw [h2, h4] at CC
   have HK2 : Hid (R2.map RT.key = GR.map RT.key) := h5
   have HN2 : Hid (R2.length = n2) := h2
   have HL2 : Hid (GL.length = l2) := h4
   clear h1 h2 h3 h4 h5 h6 Q1 RLW hk9 hb hA c0 c1 c2 c3 c4 p0 p1
   obtain ⟨z0, z1⟩ := cells2 Z3.out
   go_wp2_with fail
   generalize w2.alloc (.cells #[.slice ra2 n2 rc2, .slice la2 l2 lc2] 36) = w3 at *
   refine CC.mono ?_
   rintro e w4 ⟨ra4, rc4, la4, lc4, S4, rfl, hb, hk4, hpo, hap⟩
   rw [HN2.out, HL2.out] at hpo
   rw [HN2.out, HL2.out]
   have Q4 : Hid (GQ w w4 #[.int .i64 n, .slice a zl cap, .slice ao ko co, .slice av kv cv, .int .i64 fine] #[.slice ra nr rc, .slice la ln lc]) := Q3.out.below hb
   have P4 : Hid (PO w4 (w.heap.size + 3) (.slice ra4 n2 rc4) S4 (.slice la4 l2 lc4) GL) := hpo.base (by have := Q3.out.size; omega)
   have HK4 : Hid (S4.map RT.key = GR.map RT.key) := hk4.trans HK2.out
   have HSL : Hid (S4.length = n2) := by have := congrArg List.length hk4; simp only [List.length_map] at this; exact this.trans HN2.out
   have HAP : Hid (Apart S4 la4) := hap
   clear hb hpo hk4 hap CC z0 z1 Z3 Q3
   obtain ⟨a0, a1⟩ := cells2 Q4.out.o
   have af := fun i => frozen_of_row _ _ i _ _ Q4.out.o
   have s1 := heap_setCell_same w4 (w.heap.size + 2) 0 _ _ (Value.slice ra4 n2 rc4) Q4.out.o
   have P5 : Hid (PO ((w4.setCell ⟨w.heap.size + 2, 0, none⟩ (.slice ra4 n2 rc4)).setCell ⟨w.heap.size + 2, 1, none⟩ (.slice la4 l2 lc4)) (w.heap.size + 3) (.slice ra4 n2 rc4) S4 (.slice la4 l2 lc4) GL) := (P4.out.box Q4.out.o).box s1
   have B5 : Hid (Below w.heap.size w ((w4.setCell ⟨w.heap.size + 2, 0, none⟩ (.slice ra4 n2 rc4)).setCell ⟨w.heap.size + 2, 1, none⟩ (.slice la4 l2 lc4))) := (Q4.out.b.setCell (by simp) _).setCell (by simp) _
   clear s1
   go_wp2
   refine bodyPost_ret (v := .tuple #[.agg #[.slice ra4 n2 rc4, .slice la4 l2 lc4], .int .i64 GN, .bool GF]) (by simp [results, Tryz.results11, go_sem, a0, a1]) rfl ?_
   show OwnOkN _ _ _ _ _ _ _
   exact ⟨ra4, n2, rc4, la4, l2, lc4, S4, rfl, B5.out, HSL.out, HL2.out, HK4.out, P5.out.base (by omega), HAP.out⟩
 · have hpn : (pv != 0) = true := by simp [hpv]
   obtain ⟨a0, a1⟩ := cells2 Q1.out.o
   have af := fun i => frozen_of_row _ _ i _ _ Q1.out.o
   have B5 : Hid (Below w.heap.size w ((w1.setCell ⟨w.heap.size + 2, 0, none⟩ (.slice none 0 0)).setCell ⟨w.heap.size + 2, 1, none⟩ (.slice none 0 0))) := (Q1.out.b.setCell (by simp) _).setCell (by simp) _
   obtain ⟨g1, g2, g3, g4⟩ := HNO.out hpv
   subst g1 g2 g3 g4
   clear HNO RL
   go_wp2
   refine bodyPost_ret (v := .tuple #[.agg #[.slice none 0 0, .slice none 0 0], .int .i64 0, .bool false]) (by simp [results, Tryz.results11, go_sem, a0, a1]) rfl ?_
   show OwnOkN _ _ _ _ _ _ _
   exact ⟨none, 0, 0, none, 0, 0, [], rfl, B5.out, rfl, rfl, rfl, ⟨World.ownsRow_nil _ _ _ _, (fun s hs => by cases hs), World.ownsRow_nil _ _ _ _⟩, Apart.nil _⟩
set_option maxRecDepth 10000 in
set_option maxHeartbeats 4000000 in
theorem specRelocated_any (id tv pl n fine : Int) (a ao av ra : Option Addr) (zl cap ko co kv cv nr rc bl ol ln lc : Nat) (zs os vs L : List Int) (R : List RT) (w : World) (hA : IntsAt w a zs) (hO : IntsAt w ao os) (hV : IntsAt w av vs) (hlz : zs.length = zl) (hlo : os.length = ko * 6) (hlv : vs.length = kv * 5) (hko : ko <= 9223372036854775807) (hkv : kv <= 9223372036854775807) (hP : PlanIs w ra (some ⟨bl, ol, none⟩) nr ln R L) (hn : nr <= 1048576) (hi : ∀ r ∈ R, r.ids.length <= 1048576) (hll : ln <= 1048576) (hal : (allTo R R.length).length <= 1048576) :
   Calls Tryz.prog 8 #[.agg #[.int .i64 n, .slice a zl cap, .slice ao ko co, .slice av kv cv, .int .i64 fine], .agg #[.slice ra nr rc, .slice (some ⟨bl, ol, none⟩) ln lc], .int .i64 id, .int .i64 tv, .int .i64 pl] w (SpecOkN w (rqD id tv pl n fine zs os vs ko kv R L) (rqB id tv pl n fine zs os vs ko kv R L) (rqR id tv pl n fine zs os vs ko kv R L) (rqL id tv pl n fine zs os vs ko kv R L)) := by
 have HA : Hid (IntsAt w a zs) := hA
 have HO : Hid (IntsAt w ao os) := hO
 have HV : Hid (IntsAt w av vs) := hV
 have HLZ : Hid (zs.length = zl) := hlz
 have HLO : Hid (os.length = ko * 6) := hlo
 have HLV : Hid (vs.length = kv * 5) := hlv
 have HP : Hid (PlanIs w ra (some ⟨bl, ol, none⟩) nr ln R L) := hP
 have HN : Hid (R.length = nr) := hP.1
 have HM : Hid (L.length = ln) := hP.2.1
 have HI : Hid (∀ r ∈ R, r.ids.length <= 1048576) := hi
 clear hA hO hV hlz hlo hlv hP hi
 obtain ⟨pv, HPV⟩ : ∃ v, Hid (planV n zs os vs ko kv fine R L = v) := ⟨_, rfl⟩
 have HNO : Hid (rqB id tv pl n fine zs os vs ko kv R L = false -> rqD id tv pl n fine zs os vs ko kv R L = 0 /\ rqB id tv pl n fine zs os vs ko kv R L = false /\ rqR id tv pl n fine zs os vs ko kv R L = [] /\ rqL id tv pl n fine zs os vs ko kv R L = []) := fun h => by
   unfold rqD rqR rqL
   rw [h]
   exact ⟨rfl, rfl, rfl, rfl⟩
 have HYE : Hid (rqB id tv pl n fine zs os vs ko kv R L = true -> rqD id tv pl n fine zs os vs ko kv R L = costR n zs os vs ko kv (rlN R id tv pl.toNat) (fine * L.length) (rlN R id tv pl.toNat).length - costR n zs os vs ko kv R (fine * L.length) R.length /\ rqR id tv pl n fine zs os vs ko kv R L = rlN R id tv pl.toNat /\ rqL id tv pl n fine zs os vs ko kv R L = L) := fun h => by
   unfold rqD rqR rqL
   rw [h]
   exact ⟨rfl, rfl, rfl⟩
 have HBE : Hid (rqB id tv pl n fine zs os vs ko kv R L = (decide (pv = 0) && (decide (id ∈ allTo R R.length) && (inB pl 0 ((rtOf (lvR R id) tv).ids.length : Int) && decide (planV n zs os vs ko kv fine (rlN R id tv pl.toNat) L = 0))))) := by
   show _ = _
   unfold rqB
   rw [HPV.out]
 obtain ⟨GD, HGD⟩ : ∃ v, Hid (rqD id tv pl n fine zs os vs ko kv R L = v) := ⟨_, rfl⟩
 obtain ⟨GB, HGB⟩ : ∃ v, Hid (rqB id tv pl n fine zs os vs ko kv R L = v) := ⟨_, rfl⟩
 obtain ⟨GR, HGR⟩ : ∃ v, Hid (rqR id tv pl n fine zs os vs ko kv R L = v) := ⟨_, rfl⟩
 obtain ⟨GL, HGL⟩ : ∃ v, Hid (rqL id tv pl n fine zs os vs ko kv R L = v) := ⟨_, rfl⟩
 rw [HGD.out, HGB.out, HGR.out, HGL.out] at HNO HYE
 rw [HGB.out] at HBE
 rw [HGD.out, HGB.out, HGR.out, HGL.out]
 clear HGD HGB HGR HGL
 have Q0 : Hid (GQ w (((w.alloc (.cells #[.int .i64 n, .slice a zl cap, .slice ao ko co, .slice av kv cv, .int .i64 fine] 43)).alloc (.cells #[.slice ra nr rc, .slice (some ⟨bl, ol, none⟩) ln lc] 36)).alloc (.cells #[.slice none 0 0, .slice none 0 0] 36)) #[.int .i64 n, .slice a zl cap, .slice ao ko co, .slice av kv cv, .int .i64 fine] #[.slice ra nr rc, .slice (some ⟨bl, ol, none⟩) ln lc]) := by
   refine ⟨(((Below.refl _ _).alloc (Nat.le_refl _) _).alloc (by simp) _).alloc (by simp; omega) _, ?_, ?_, ?_⟩
   · exact (heap_alloc_old _ _ (by simp; omega)).trans (heap_alloc2_old _ _ _)
   · exact (heap_alloc_old _ _ (by simp)).trans (heap_alloc2_new _ _ _)
   · have := heap_alloc_new ((w.alloc (.cells #[.int .i64 n, .slice a zl cap, .slice ao ko co, .slice av kv cv, .int .i64 fine] 43)).alloc (.cells #[.slice ra nr rc, .slice (some ⟨bl, ol, none⟩) ln lc] 36)) (.cells #[.slice none 0 0, .slice none 0 0] 36)
     simpa using this
 have PCA : Hid (∀ W, Below w.heap.size w W -> Calls Tryz.prog 26 #[.agg #[.int .i64 n, .slice a zl cap, .slice ao ko co, .slice av kv cv, .int .i64 fine], .agg #[.slice ra nr rc, .slice (some ⟨bl, ol, none⟩) ln lc]] W fun e w' => e = .returned (.int .i64 pv) /\ Below W.heap.size W w') := fun W hW => by
   have PC := specPlan_any n fine a ao av ra (some ⟨bl, ol, none⟩) cap ko co kv cv rc lc zs os vs L R W (HA.out.below hW) (HO.out.below hW) (HV.out.below hW) (HP.out.2.2.1.below hW) (HP.out.2.2.2.1.below hW) HLO.out HLV.out hko hkv (by rw [HN.out]; exact hn) HI.out HP.out.2.2.2.2.2.2 (by rw [HM.out]; exact hll) hal
   rw [HN.out, HM.out, HLZ.out, HPV.out] at PC
   exact PC
 obtain ⟨c0, c1, c2, c3, c4⟩ := cells5 Q0.out.c
 obtain ⟨p0, p1⟩ := cells2 Q0.out.p
 go_enter Tryz.func8, Tryz.ntmps8
 go_wp2_with fail
 generalize ((w.alloc (.cells #[.int .i64 n, .slice a zl cap, .slice ao ko co, .slice av kv cv, .int .i64 fine] 43)).alloc (.cells #[.slice ra nr rc, .slice (some ⟨bl, ol, none⟩) ln lc] 36)).alloc (.cells #[.slice none 0 0, .slice none 0 0] 36) = W0 at *
 refine (PCA.out W0 Q0.out.b).mono ?_
 rintro e w1 ⟨rfl, hb⟩
 have Q1 : Hid (GQ w w1 #[.int .i64 n, .slice a zl cap, .slice ao ko co, .slice av kv cv, .int .i64 fine] #[.slice ra nr rc, .slice (some ⟨bl, ol, none⟩) ln lc]) := Q0.out.below hb
 clear hb c0 c1 c2 c3 c4 p0 p1 Q0
 by_cases hpv : pv = 0
 rotate_left
 · have hpn : (pv != 0) = true := by simp [hpv]
   obtain ⟨g1, g2, g3, g4⟩ := HNO.out (by rw [HBE.out, decide_eq_false hpv, Bool.false_and])
   subst g1 g2 g3 g4
   obtain ⟨a0, a1⟩ := cells2 Q1.out.o
   have af := fun i => frozen_of_row _ _ i _ _ Q1.out.o
   have BE := Q1.out.b
   clear HNO HYE HBE
   go_wp2
   refine bodyPost_ret (v := .tuple #[.agg #[.slice none 0 0, .slice none 0 0], .int .i64 0, .bool false]) (by simp [results, Tryz.results8, go_sem, a0, a1]) rfl ?_
   show SpecOkN _ _ _ _ _ _ _
   exact ⟨none, 0, 0, none, 0, 0, [], rfl, (BE.setCell (by simp <;> omega) _).setCell (by simp <;> omega) _, rfl, rfl, rfl, ⟨World.ownsRow_nil _ _ _ _, (fun s hs => by cases hs), World.ownsRow_nil _ _ _ _⟩⟩
 · have hpn : (pv != 0) = false := by simp [hpv]
   have HPL : Hid (planV n zs os vs ko kv fine R L = 0) := HPV.out.trans hpv
   have hps := plan_small HPL.out
   rw [decide_eq_true hpv, Bool.true_and] at HBE
   have SV := specServed_opt n fine a ao av ra (some ⟨bl, ol, none⟩) cap ko co kv cv rc lc zs os vs L R w1 (HP.out.2.2.1.below Q1.out.b) (by rw [HN.out]; exact hn) HP.out.2.2.2.2.2.2 pv HPV.out (fun X hX => by rw [HLZ.out, HN.out, HM.out]; exact PCA.out X (Q1.out.b.trans (hX.mono Q1.out.b.size)))
   have hsv : servV n zs os vs ko kv fine R L = srtS (allTo R R.length) := by unfold servV; rw [if_pos HPL.out]
   obtain ⟨X, HX⟩ : ∃ v, Hid (srtS (allTo R R.length) = v) := ⟨_, rfl⟩
   obtain ⟨xl, HXL⟩ : ∃ v, Hid (X.length = v) := ⟨_, rfl⟩
   rw [hsv, HX.out, HXL.out, HLZ.out, HN.out, HM.out] at SV
   have hx12 : xl <= 12 := by rw [<- HXL.out, <- HX.out, srtS_len]; exact (serv_small HPL.out).1
   clear hsv
   obtain ⟨c0, c1, c2, c3, c4⟩ := cells5 Q1.out.c
   obtain ⟨p0, p1⟩ := cells2 Q1.out.p
   go_wp2_with fail
   refine SV.mono ?_
   rintro e w2 ⟨sl, rfl, hb, ho⟩
   obtain ⟨sa, sc, hsl⟩ := own_formL ho
   subst hsl
   have Q2 : Hid (GQ w w2 #[.int .i64 n, .slice a zl cap, .slice ao ko co, .slice av kv cv, .int .i64 fine] #[.slice ra nr rc, .slice (some ⟨bl, ol, none⟩) ln lc]) := Q1.out.below hb
   have LH := l3Has_any sa xl sc id X w2 (ints_ownL ho) (by rw [HXL.out]; exact Nat.le_refl _) (by omega)
   have hhm := hasTo_mem X id
   rw [HXL.out] at hhm
   rw [hhm] at LH
   clear hb ho SV c0 c1 c2 c3 c4 p0 p1 Q1 hhm
   by_cases hid : id ∈ allTo R R.length
   rotate_left
   · have hX9 : id ∉ X := by rw [<- HX.out, srtS_mem]; exact hid
     rw [decide_eq_false hX9] at LH
     obtain ⟨g1, g2, g3, g4⟩ := HNO.out (by rw [HBE.out, decide_eq_false hid, Bool.false_and])
     subst g1 g2 g3 g4
     obtain ⟨a0, a1⟩ := cells2 Q2.out.o
     have af := fun i => frozen_of_row _ _ i _ _ Q2.out.o
     have BE := Q2.out.b
     clear HNO HYE HBE
     go_wp2_with (go_at_call 27; refine LH.mono ?_; rintro e w' ⟨rfl, hw'⟩; subst w')
     refine bodyPost_ret (v := .tuple #[.agg #[.slice none 0 0, .slice none 0 0], .int .i64 0, .bool false]) (by simp [results, Tryz.results8, go_sem, a0, a1]) rfl ?_
     show SpecOkN _ _ _ _ _ _ _
     exact ⟨none, 0, 0, none, 0, 0, [], rfl, (BE.setCell (by simp <;> omega) _).setCell (by simp <;> omega) _, rfl, rfl, rfl, ⟨World.ownsRow_nil _ _ _ _, (fun s hs => by cases hs), World.ownsRow_nil _ _ _ _⟩⟩
   · have hX9 : id ∈ X := by rw [<- HX.out, srtS_mem]; exact hid
     rw [decide_eq_true hX9] at LH
     rw [decide_eq_true hid, Bool.true_and] at HBE
     obtain ⟨k, hk, hin, -⟩ := first_route hid
     have MV := l6Move_any id tv pl n fine a ao av ra zl cap ko co kv cv nr rc bl ol ln lc zs os vs L R w2 (HA.out.below Q2.out.b) (HO.out.below Q2.out.b) (HV.out.below Q2.out.b) HLZ.out HLO.out HLV.out hko hkv (HP.out.below Q2.out.b) HPL.out k hk hin
     clear hX9 hk hin hid HX
     obtain ⟨c0, c1, c2, c3, c4⟩ := cells5 Q2.out.c
     obtain ⟨p0, p1⟩ := cells2 Q2.out.p
     go_wp2_with (go_at_call 27; refine LH.mono ?_; rintro e w' ⟨rfl, hw'⟩; subst w')
     refine MV.mono ?_
     rintro e w3 ⟨hb, ⟨hib, rfl⟩ | ⟨hib, ra3, n3, rc3, gl3, lc3, S3, rfl, hn3, hk3, ho3⟩⟩
     · rw [hib, Bool.false_and] at HBE
       have QA : Hid (GQ w (w3.alloc (.cells #[.slice none 0 0, .slice none 0 0] 36)) #[.int .i64 n, .slice a zl cap, .slice ao ko co, .slice av kv cv, .int .i64 fine] #[.slice ra nr rc, .slice (some ⟨bl, ol, none⟩) ln lc]) := (Q2.out.below hb).below ((Below.refl _ _).alloc (Nat.le_refl _) _)
       clear hb MV LH hib c0 c1 c2 c3 c4 p0 p1
       obtain ⟨g1, g2, g3, g4⟩ := HNO.out (by rw [HBE.out])
       subst g1 g2 g3 g4
       obtain ⟨a0, a1⟩ := cells2 QA.out.o
       have af := fun i => frozen_of_row _ _ i _ _ QA.out.o
       have BE := QA.out.b
       clear HNO HYE HBE
       go_wp2
       refine bodyPost_ret (v := .tuple #[.agg #[.slice none 0 0, .slice none 0 0], .int .i64 0, .bool false]) (by simp [results, Tryz.results8, go_sem, a0, a1]) rfl ?_
       show SpecOkN _ _ _ _ _ _ _
       exact ⟨none, 0, 0, none, 0, 0, [], rfl, (BE.setCell (by simp <;> omega) _).setCell (by simp <;> omega) _, rfl, rfl, rfl, ⟨World.ownsRow_nil _ _ _ _, (fun s hs => by cases hs), World.ownsRow_nil _ _ _ _⟩⟩
     · rw [hib, Bool.true_and] at HBE
       rw [HM.out] at ho3 ⊢
       have Q3 : Hid (GQ w w3 #[.int .i64 n, .slice a zl cap, .slice ao ko co, .slice av kv cv, .int .i64 fine] #[.slice ra nr rc, .slice (some ⟨bl, ol, none⟩) ln lc]) := Q2.out.below hb
       have HN3 : Hid (S3.length = n3) := hn3
       have HK3 : Hid (S3.map RT.key = (rlN R id tv pl.toNat).map RT.key) := hk3
       have hA : Below w3.heap.size w3 (w3.alloc (.cells #[.slice ra3 n3 rc3, .slice (some ⟨gl3, 0, none⟩) ln lc3] 36)) := (Below.refl _ _).alloc (Nat.le_refl _) _
       have Q4 : Hid (GQ w (w3.alloc (.cells #[.slice ra3 n3 rc3, .slice (some ⟨gl3, 0, none⟩) ln lc3] 36)) #[.int .i64 n, .slice a zl cap, .slice ao ko co, .slice av kv cv, .int .i64 fine] #[.slice ra nr rc, .slice (some ⟨bl, ol, none⟩) ln lc]) := Q3.out.below hA
       have B4 : Hid ((w3.alloc (.cells #[.slice ra3 n3 rc3, .slice (some ⟨gl3, 0, none⟩) ln lc3] 36)).heap[w3.heap.size]? = some (.cells #[.slice ra3 n3 rc3, .slice (some ⟨gl3, 0, none⟩) ln lc3] 36 (0, 0))) := heap_alloc_new _ _
       have O4 : Hid (PO (w3.alloc (.cells #[.slice ra3 n3 rc3, .slice (some ⟨gl3, 0, none⟩) ln lc3] 36)) (w.heap.size + 3) (.slice ra3 n3 rc3) S3 (.slice (some ⟨gl3, 0, none⟩) ln lc3) L) := (ho3.base Q2.out.size).below hA
       have HKO : Hid (w.heap.size + 3 <= w3.heap.size) := Q3.out.size
       clear hA hb hn3 hk3 ho3 MV LH hib c0 c1 c2 c3 c4 p0 p1 Q2 Q3
       by_cases hw : planV n zs os vs ko kv fine (rlN R id tv pl.toNat) L = 0
       rotate_left
       · rw [decide_eq_false hw] at HBE
         rw [decide_eq_false hw]
         obtain ⟨g1, g2, g3, g4⟩ := HNO.out (by rw [HBE.out])
         subst g1 g2 g3 g4
         obtain ⟨a0, a1⟩ := cells2 Q4.out.o
         have af := fun i => frozen_of_row _ _ i _ _ Q4.out.o
         have BE := Q4.out.b
         clear HNO HYE HBE
         go_wp2
         refine bodyPost_ret (v := .tuple #[.agg #[.slice none 0 0, .slice none 0 0], .int .i64 0, .bool false]) (by simp [results, Tryz.results8, go_sem, a0, a1]) rfl ?_
         show SpecOkN _ _ _ _ _ _ _
         exact ⟨none, 0, 0, none, 0, 0, [], rfl, (BE.setCell (by simp <;> omega) _).setCell (by simp <;> omega) _, rfl, rfl, rfl, ⟨World.ownsRow_nil _ _ _ _, (fun s hs => by cases hs), World.ownsRow_nil _ _ _ _⟩⟩
       · rw [decide_eq_true hw] at HBE
         rw [decide_eq_true hw]
         obtain ⟨y1, y2, y3⟩ := HYE.out HBE.out
         have hps2 := plan_small hw
         have bd1 := costR_bd (planV_zero HPL.out).1 (planV_zero HPL.out).2.1 (fine * L.length) R.length (Nat.le_refl _)
         have bd2 := costR_bd (planV_zero hw).1 (planV_zero hw).2.1 (fine * L.length) (rlN R id tv pl.toNat).length (Nat.le_refl _)
         have LC1 : Hid (∀ W, Below w.heap.size w W -> _) := fun W hW => l4Cost_any n fine a ao av ra (some ⟨bl, ol, none⟩) cap ko co kv cv rc lc zs os vs L R W (HA.out.below hW) (HO.out.below hW) (HV.out.below hW) (HP.out.2.2.1.below hW) HLO.out HLV.out hko hkv HPL.out
         have LC2 : Hid (∀ W, Below w.heap.size w W -> PO W (w.heap.size + 3) (.slice ra3 n3 rc3) S3 (.slice (some ⟨gl3, 0, none⟩) ln lc3) L -> Calls Tryz.prog 30 #[.agg #[.int .i64 n, .slice a zl cap, .slice ao ko co, .slice av kv cv, .int .i64 fine], .agg #[.slice ra3 n3 rc3, .slice (some ⟨gl3, 0, none⟩) ln lc3]] W fun e w' => e = .returned (.int .i64 (costR n zs os vs ko kv (rlN R id tv pl.toNat) (fine * L.length) (rlN R id tv pl.toNat).length)) /\ Below W.heap.size W w') := fun W hW hO => by
           have h9 := l4Cost_any n fine a ao av ra3 (some ⟨gl3, 0, none⟩) cap ko co kv cv rc3 lc3 zs os vs L S3 W (HA.out.below hW) (HO.out.below hW) (HV.out.below hW) (po_at hO HN3.out) HLO.out HLV.out hko hkv ((planV_key L HK3.out).trans hw)
           rw [costR_key HK3.out, HLZ.out] at h9
           have e9 : S3.length = (rlN R id tv pl.toNat).length := key_len HK3.out
           rw [e9] at h9
           rw [HN3.out] at e9
           rw [<- e9, HM.out] at h9
           rw [<- e9, HM.out]
           exact h9
         rw [HLZ.out, HN.out, HM.out] at LC1
         rw [HM.out] at y1 bd1 bd2 LC2
         rw [HN.out] at y1 bd1
         obtain ⟨d1, HD1⟩ : ∃ v, Hid (costR n zs os vs ko kv R (fine * (ln : Int)) nr = v) := ⟨_, rfl⟩
         obtain ⟨d2, HD2⟩ : ∃ v, Hid (costR n zs os vs ko kv (rlN R id tv pl.toNat) (fine * (ln : Int)) (rlN R id tv pl.toNat).length = v) := ⟨_, rfl⟩
         rw [HD1.out] at y1 bd1 LC1
         rw [HD2.out] at y1 bd2 LC2
         have hz := hps2.2.2
         rw [HM.out] at hz
         have hrl : (rlN R id tv pl.toNat).length <= 12 := hps2.1
         have hb1 : 0 <= d1 /\ d1 <= 20000000 := by have h1 := hps.1; rw [HN.out] at h1; omega
         have hb2 : 0 <= d2 /\ d2 <= 20000000 := by omega
         have hwr : IntKind.i64.wrap (d2 - d1) = d2 - d1 := IntWalk.i64_in _ (by omega)
         obtain ⟨hb11, hb12⟩ := hb1
         obtain ⟨hb21, hb22⟩ := hb2
         have HKG : Hid (S3.map RT.key = GR.map RT.key) := by show _ = _; rw [y2]; exact HK3.out
         have HBT := HBE.out
         have HGD : Hid (d2 - d1 = GD) := y1.symm
         clear y1 y2 bd1 bd2 hz hrl hps2 hw HYE HNO HBE
         subst HBT
         subst y3
         go_wp2_with fail
         generalize w3.alloc (.cells #[.slice ra3 n3 rc3, .slice (some ⟨gl3, 0, none⟩) ln lc3] 36) = W4 at *
         obtain ⟨kq, HKQ⟩ : ∃ v, Hid (w3.heap.size = v) := ⟨_, rfl⟩
         rw [HKQ.out] at B4 HKO ⊢
         refine wp_region_held_drew (S := (fun W => (W.cell? ⟨w.heap.size, 0, none⟩ = some (.int .i64 n) /\ W.cell? ⟨w.heap.size, 1, none⟩ = some (.slice a zl cap) /\ W.cell? ⟨w.heap.size, 2, none⟩ = some (.slice ao ko co) /\ W.cell? ⟨w.heap.size, 3, none⟩ = some (.slice av kv cv) /\ W.cell? ⟨w.heap.size, 4, none⟩ = some (.int .i64 fine)) /\ (W.cell? ⟨w.heap.size + 1, 0, none⟩ = some (.slice ra nr rc) /\ W.cell? ⟨w.heap.size + 1, 1, none⟩ = some (.slice (some ⟨bl, ol, none⟩) ln lc)) /\ W.cell? ⟨kq, 0, none⟩ = some (.slice ra3 n3 rc3) /\ W.cell? ⟨kq, 1, none⟩ = some (.slice (some ⟨gl3, 0, none⟩) ln lc3))) (by kernel_rfl) ?_ (fun hHeld => ?_)
         · exact ⟨cells5 (Q4.out.below (Below.refl _ _).drew).c, cells2 (Q4.out.below (Below.refl _ _).drew).p, cells2 (below_row (Below.refl _ _).drew (row_lt B4.out) B4.out)⟩
         have QD : Hid (GQ w W4.drew #[.int .i64 n, .slice a zl cap, .slice ao ko co, .slice av kv cv, .int .i64 fine] #[.slice ra nr rc, .slice (some ⟨bl, ol, none⟩) ln lc]) := Q4.out.below (Below.refl _ _).drew
         have BD : Hid (W4.drew.heap[kq]? = some (.cells #[.slice ra3 n3 rc3, .slice (some ⟨gl3, 0, none⟩) ln lc3] 36 (0, 0))) := below_row (Below.refl _ _).drew (row_lt B4.out) B4.out
         have OD : Hid (PO W4.drew (w.heap.size + 3) (.slice ra3 n3 rc3) S3 (.slice (some ⟨gl3, 0, none⟩) ln lc3) GL) := O4.out.below (Below.refl _ _).drew
         clear Q4 B4 O4
         generalize W4.drew = wd at *
         refine tkH 0 hHeld ?_
         refine tkH 1 hHeld ?_
         refine tkH 2 hHeld ?_
         refine tkH 4 hHeld ?_
         refine tkH 5 hHeld ?_
         refine wpAnyH_ready (rs := [3]) (by kernel_rfl) (by simp) ?_
         refine AllReadyH.cons rfl (fun K hK => ?_) AllReadyH.nil
         go_simp
         refine (LC2.out wd QD.out.b OD.out).mono ?_
         rintro e w5 ⟨rfl, hb⟩
         have Q5 : Hid (GQ w w5 #[.int .i64 n, .slice a zl cap, .slice ao ko co, .slice av kv cv, .int .i64 fine] #[.slice ra nr rc, .slice (some ⟨bl, ol, none⟩) ln lc]) := QD.out.below hb
         have B5 : Hid (w5.heap[kq]? = some (.cells #[.slice ra3 n3 rc3, .slice (some ⟨gl3, 0, none⟩) ln lc3] 36 (0, 0))) := below_row hb (row_lt BD.out) BD.out
         have O5 : Hid (PO w5 (w.heap.size + 3) (.slice ra3 n3 rc3) S3 (.slice (some ⟨gl3, 0, none⟩) ln lc3) GL) := OD.out.below hb
         clear hb
         (try go_wp2_with fail)
         refine hK.out _ _ ?_ (fun hHeld => ?_)
         · exact ⟨cells5 Q5.out.c, cells2 Q5.out.p, cells2 B5.out⟩
         clear hK K
         (try simp only [Act.put, List.setIfInBounds_toArray, List.set_cons_zero, List.set_cons_succ])
         refine wpAnyH_ready (rs := [6]) (by kernel_rfl) (by simp) ?_
         refine AllReadyH.cons rfl (fun K hK => ?_) AllReadyH.nil
         go_simp
         refine (LC1.out w5 Q5.out.b).mono ?_
         rintro e w6 ⟨rfl, hb⟩
         have Q6 : Hid (GQ w w6 #[.int .i64 n, .slice a zl cap, .slice ao ko co, .slice av kv cv, .int .i64 fine] #[.slice ra nr rc, .slice (some ⟨bl, ol, none⟩) ln lc]) := Q5.out.below hb
         have B6 : Hid (w6.heap[kq]? = some (.cells #[.slice ra3 n3 rc3, .slice (some ⟨gl3, 0, none⟩) ln lc3] 36 (0, 0))) := below_row hb (row_lt B5.out) B5.out
         have O6 : Hid (PO w6 (w.heap.size + 3) (.slice ra3 n3 rc3) S3 (.slice (some ⟨gl3, 0, none⟩) ln lc3) GL) := O5.out.below hb
         clear hb
         (try go_wp2_with fail)
         refine hK.out _ _ ?_ (fun hHeld => ?_)
         · exact ⟨cells5 Q6.out.c, cells2 Q6.out.p, cells2 B6.out⟩
         clear hK K
         (try simp only [Act.put, List.setIfInBounds_toArray, List.set_cons_zero, List.set_cons_succ])
         refine tkH 7 hHeld ?_
         refine wpAnyH_ready (rs := [8]) (by kernel_rfl) (by simp) ?_
         refine AllReadyH.cons rfl (fun K hK => ?_) AllReadyH.nil
         obtain ⟨a0, a1⟩ := cells2 Q6.out.o
         have af := fun i => frozen_of_row _ _ i _ _ Q6.out.o
         have s1 := heap_setCell_same w6 (w.heap.size + 2) 0 _ _ (Value.slice ra3 n3 rc3) Q6.out.o
         have P7 : Hid (PO ((w6.setCell ⟨w.heap.size + 2, 0, none⟩ (.slice ra3 n3 rc3)).setCell ⟨w.heap.size + 2, 1, none⟩ (.slice (some ⟨gl3, 0, none⟩) ln lc3)) (w.heap.size + 3) (.slice ra3 n3 rc3) S3 (.slice (some ⟨gl3, 0, none⟩) ln lc3) GL) := (O6.out.box Q6.out.o).box s1
         simp only [List.setIfInBounds_toArray, List.set_cons_zero] at s1
         have s2 := heap_setCell_same _ (w.heap.size + 2) 1 _ _ (Value.slice (some ⟨gl3, 0, none⟩) ln lc3) s1
         simp only [List.setIfInBounds_toArray, List.set_cons_zero, List.set_cons_succ] at s2
         have A7 : Hid (((w6.setCell ⟨w.heap.size + 2, 0, none⟩ (.slice ra3 n3 rc3)).setCell ⟨w.heap.size + 2, 1, none⟩ (.slice (some ⟨gl3, 0, none⟩) ln lc3)).heap[w.heap.size + 2]? = some (.cells #[.slice ra3 n3 rc3, .slice (some ⟨gl3, 0, none⟩) ln lc3] 36 (0, 0))) := s2
         have C7 : Hid (((w6.setCell ⟨w.heap.size + 2, 0, none⟩ (.slice ra3 n3 rc3)).setCell ⟨w.heap.size + 2, 1, none⟩ (.slice (some ⟨gl3, 0, none⟩) ln lc3)).heap[w.heap.size]? = some (.cells #[.int .i64 n, .slice a zl cap, .slice ao ko co, .slice av kv cv, .int .i64 fine] 43 (0, 0))) := row_set' (row_set' Q6.out.c (by omega)) (by omega)
         have D7 : Hid (((w6.setCell ⟨w.heap.size + 2, 0, none⟩ (.slice ra3 n3 rc3)).setCell ⟨w.heap.size + 2, 1, none⟩ (.slice (some ⟨gl3, 0, none⟩) ln lc3)).heap[w.heap.size + 1]? = some (.cells #[.slice ra nr rc, .slice (some ⟨bl, ol, none⟩) ln lc] 36 (0, 0))) := row_set' (row_set' Q6.out.p (by omega)) (by omega)
         have K7 : Hid (((w6.setCell ⟨w.heap.size + 2, 0, none⟩ (.slice ra3 n3 rc3)).setCell ⟨w.heap.size + 2, 1, none⟩ (.slice (some ⟨gl3, 0, none⟩) ln lc3)).heap[kq]? = some (.cells #[.slice ra3 n3 rc3, .slice (some ⟨gl3, 0, none⟩) ln lc3] 36 (0, 0))) := row_set' (row_set' B6.out (by have := HKO.out; omega)) (by have := HKO.out; omega)
         have B7 : Hid (Below w.heap.size w ((w6.setCell ⟨w.heap.size + 2, 0, none⟩ (.slice ra3 n3 rc3)).setCell ⟨w.heap.size + 2, 1, none⟩ (.slice (some ⟨gl3, 0, none⟩) ln lc3))) := (Q6.out.b.setCell (by simp) _).setCell (by simp) _
         clear s1 s2
         go_simp
         refine hK.out _ _ ?_ (fun hHeld => ?_)
         · exact ⟨cells5 C7.out, cells2 D7.out, cells2 K7.out⟩
         clear hK K
         clear a0 a1 af
         generalize ((w6.setCell ⟨w.heap.size + 2, 0, none⟩ (.slice ra3 n3 rc3)).setCell ⟨w.heap.size + 2, 1, none⟩ (.slice (some ⟨gl3, 0, none⟩) ln lc3)) = W7 at *
         refine tkH 9 hHeld ?_
         refine tkH 10 hHeld ?_
         refine wpAnyH_done (by kernel_rfl) ?_ _
         clear hHeld
         obtain ⟨a0, a1⟩ := cells2 A7.out
         go_wp2
         refine bodyPost_ret (v := .tuple #[.agg #[.slice ra3 n3 rc3, .slice (some ⟨gl3, 0, none⟩) ln lc3], .int .i64 (d2 - d1), .bool true]) (by simp [results, Tryz.results8, go_sem, a0, a1]) rfl ?_
         show SpecOkN _ _ _ _ _ _ _
         rw [<- HGD.out]
         exact ⟨ra3, n3, rc3, _, ln, lc3, S3, rfl, B7.out, HN3.out, HM.out, HKG.out, P7.out.base (by omega)⟩
theorem implRelocated_at (id tv pl n fine : Int) (a ao av : Option Addr) (cap ko co kv cv g gl : Nat) (zs os vs L : List Int) (S R : List RT) (w : World) (hA : IntsAt w a zs) (hO : IntsAt w ao os) (hV : IntsAt w av vs) (hP : PlanAt w g gl S R L) (hlo : os.length = ko * 6) (hlv : vs.length = kv * 5) (hko : ko <= 9223372036854775807) (hkv : kv <= 9223372036854775807) (hn : R.length <= 1048576) (hi : ∀ r ∈ R, r.ids.length <= 1048576) (hll : L.length <= 1048576) (hal : (allTo R R.length).length <= 1048576) (hwl : ∀ x ∈ L, (Lit.int .i64 x).wf = true) :
   Calls Tryz.prog 11 #[.agg #[.int .i64 n, .slice a zs.length cap, .slice ao ko co, .slice av kv cv, .int .i64 fine], .agg #[.slice (some ⟨g, 0, none⟩) R.length R.length, .slice (some ⟨gl, 0, none⟩) L.length L.length], .int .i64 id, .int .i64 tv, .int .i64 pl] w (OwnOkN w (rqD id tv pl n fine zs os vs ko kv R L) (rqB id tv pl n fine zs os vs ko kv R L) (rqR id tv pl n fine zs os vs ko kv R L) (rqL id tv pl n fine zs os vs ko kv R L)) := by
 have := implRelocated_any id tv pl n fine a ao av _ _ zs.length cap ko co kv cv R.length R.length L.length L.length zs os vs L S w hA hO hV rfl hlo hlv hko hkv hP.is hn (key_ids hP.k hi) hll (by rw [allTo_key hP.k, key_len hP.k]; exact hal) hwl
 rw [rqB_key _ _ _ _ _ _ _ _ _ _ L hP.k, rqL_key _ _ _ _ _ _ _ _ _ _ L hP.k, rqD_key _ _ _ _ _ _ _ _ _ _ L hP.k] at this
 refine this.mono ?_
 rintro e w' ⟨ra, rn, rc, la, ln, lc, T, h1, h2, h3, h4, h5, h6, h7⟩
 exact ⟨ra, rn, rc, la, ln, lc, T, h1, h2, h3, h4, h5.trans (rqR_key _ _ _ _ _ _ _ _ _ _ L hP.k), h6, h7⟩
theorem specRelocated_at (id tv pl n fine : Int) (a ao av : Option Addr) (cap ko co kv cv g gl : Nat) (zs os vs L : List Int) (S R : List RT) (w : World) (hA : IntsAt w a zs) (hO : IntsAt w ao os) (hV : IntsAt w av vs) (hP : PlanAt w g gl S R L) (hlo : os.length = ko * 6) (hlv : vs.length = kv * 5) (hko : ko <= 9223372036854775807) (hkv : kv <= 9223372036854775807) (hn : R.length <= 1048576) (hi : ∀ r ∈ R, r.ids.length <= 1048576) (hll : L.length <= 1048576) (hal : (allTo R R.length).length <= 1048576) :
   Calls Tryz.prog 8 #[.agg #[.int .i64 n, .slice a zs.length cap, .slice ao ko co, .slice av kv cv, .int .i64 fine], .agg #[.slice (some ⟨g, 0, none⟩) R.length R.length, .slice (some ⟨gl, 0, none⟩) L.length L.length], .int .i64 id, .int .i64 tv, .int .i64 pl] w (SpecOkN w (rqD id tv pl n fine zs os vs ko kv R L) (rqB id tv pl n fine zs os vs ko kv R L) (rqR id tv pl n fine zs os vs ko kv R L) (rqL id tv pl n fine zs os vs ko kv R L)) := by
 have := specRelocated_any id tv pl n fine a ao av _ zs.length cap ko co kv cv R.length R.length gl 0 L.length L.length zs os vs L S w hA hO hV rfl hlo hlv hko hkv hP.is hn (key_ids hP.k hi) hll (by rw [allTo_key hP.k, key_len hP.k]; exact hal)
 rw [rqB_key _ _ _ _ _ _ _ _ _ _ L hP.k, rqL_key _ _ _ _ _ _ _ _ _ _ L hP.k, rqD_key _ _ _ _ _ _ _ _ _ _ L hP.k] at this
 refine this.mono ?_
 rintro e w' ⟨ra, rn, rc, la, ln, lc, T, h1, h2, h3, h4, h5, h6⟩
 exact ⟨ra, rn, rc, la, ln, lc, T, h1, h2, h3, h4, h5.trans (rqR_key _ _ _ _ _ _ _ _ _ _ L hP.k), h6⟩
end Go.Proofs.YtfpegaldloadaaaGreat
