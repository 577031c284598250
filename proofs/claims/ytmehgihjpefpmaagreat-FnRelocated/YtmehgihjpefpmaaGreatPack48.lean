import Derived.Test.YtmehgihjpefpmaaGreatPack2
import Derived.Test.YtmehgihjpefpmaaGreatPack21
import Derived.Test.YtmehgihjpefpmaaGreatPack23
import Derived.Test.YtmehgihjpefpmaaGreatPack44
import Derived.Test.YtmehgihjpefpmaaGreatRelocPlan
import Derived.Test.YtmehgihjpefpmaaGreatPack47
namespace Go.Proofs.YtmehgihjpefpmaaGreat
open Go.RowKit
set_option maxRecDepth 10000 in
set_option maxHeartbeats 4000000 in
theorem implRelocated_any (id tv pl n fine : Int) (a ao av ra la : Option Addr) (zl cap ko co kv cv nr rc ln lc : Nat) (zs os vs L : List Int) (R : List RT) (w : World) (hA : IntsAt w a zs) (hO : IntsAt w ao os) (hV : IntsAt w av vs) (hlz : zs.length = zl) (hlo : os.length = ko * 6) (hlv : vs.length = kv * 5) (hko : ko <= 9223372036854775807) (hkv : kv <= 9223372036854775807) (hP : PlanIs w ra la nr ln R L) (hn : nr <= 1048576) (hi : ∀ r ∈ R, r.ids.length <= 1048576) (hll : ln <= 1048576) (hal : (allTo R R.length).length <= 1048576) (hwl : ∀ x ∈ L, (Lit.int .i64 x).wf = true) :
 Calls Tryz.prog 7 #[.agg #[.int .i64 n, .slice a zl cap, .slice ao ko co, .slice av kv cv, .int .i64 fine], .agg #[.slice ra nr rc, .slice la ln lc], .int .i64 id, .int .i64 tv, .int .i64 pl] w (OwnOkN w (rqD id tv pl n fine zs os vs ko kv R L) (rqB id tv pl n fine zs os vs ko kv R L) (rqR id tv pl n fine zs os vs ko kv R L) (rqL id tv pl n fine zs os vs ko kv R L)) := by
 have HA : Hid (IntsAt w a zs) := hA
 have HO : Hid (IntsAt w ao os) := hO
 have HV : Hid (IntsAt w av vs) := hV
 have HLZ : Hid _ := hlz
 have HLO : Hid _ := hlo
 have HLV : Hid _ := hlv
 have HP : Hid (PlanIs w ra la nr ln R L) := hP
 have HN : Hid _ := hP.1
 have HM : Hid _ := hP.2.1
 have HI : Hid _ := hi
 clear hA hO hV hlz hlo hlv hP hi
 obtain ⟨pv, HPV⟩ := nmd (planV n zs os vs ko kv fine R L)
 have HNO : Hid (pv ≠ 0 -> rqD id tv pl n fine zs os vs ko kv R L = 0 /\ rqB id tv pl n fine zs os vs ko kv R L = false /\ rqR id tv pl n fine zs os vs ko kv R L = [] /\ rqL id tv pl n fine zs os vs ko kv R L = []) := fun h => by
  have hb : rqB id tv pl n fine zs os vs ko kv R L = false := by unfold rqB; rw [HPV.out, decide_eq_false h, Bool.false_and]
  unfold rqD rqR rqL
  rw [hb]
  exact ⟨rfl, rfl, rfl, rfl⟩
 have HBD := rq_bd id tv pl n fine zs os vs ko kv R L
 have RL0 : pv = 0 -> ∀ W, Below w.heap.size w W -> _ := fun h W hW => relocated_any id tv pl n fine a ao av ra la zl cap ko co kv cv nr rc ln lc zs os vs L R W (HA.below hW) (HO.below hW) (HV.below hW) HLZ.out HLO.out HLV.out hko hkv (HP.below hW) (HPV.trans h)
 obtain ⟨GN, HGN⟩ := nmd (rqD id tv pl n fine zs os vs ko kv R L)
 obtain ⟨GF, HGF⟩ := nmd (rqB id tv pl n fine zs os vs ko kv R L)
 obtain ⟨GR, HGR⟩ := nmd (rqR id tv pl n fine zs os vs ko kv R L)
 obtain ⟨GL, HGL⟩ := nmd (rqL id tv pl n fine zs os vs ko kv R L)
 rw [HGR.out, HGL.out] at HBD
 have HGI : Hid _ := HBD
 rw [HGN.out, HGF.out, HGR.out, HGL.out] at HNO
 rw [HGN.out, HGF.out, HGR.out, HGL.out] at RL0
 rw [HGN.out, HGF.out, HGR.out, HGL.out]
 have RL : Hid _ := RL0
 clear HBD HGN HGF HGR HGL RL0
 have Q0 : Hid (GQ w (((w.alloc (.cells #[.int .i64 n, .slice a zl cap, .slice ao ko co, .slice av kv cv, .int .i64 fine] 30)).alloc (.cells #[.slice ra nr rc, .slice la ln lc] 33)).alloc (.cells #[.slice none 0 0, .slice none 0 0] 33)) #[.int .i64 n, .slice a zl cap, .slice ao ko co, .slice av kv cv, .int .i64 fine] #[.slice ra nr rc, .slice la ln lc]) := by
  refine ⟨(((Below.refl _ _).alloc (Nat.le_refl _) _).alloc (by simp) _).alloc (by simp; omega) _, ?_, ?_, ?_⟩
  · exact (heap_alloc_old _ _ (by simp; omega)).trans (heap_alloc2_old _ _ _)
  · exact (heap_alloc_old _ _ (by simp)).trans (heap_alloc2_new _ _ _)
  · have := heap_alloc_new ((w.alloc (.cells #[.int .i64 n, .slice a zl cap, .slice ao ko co, .slice av kv cv, .int .i64 fine] 30)).alloc (.cells #[.slice ra nr rc, .slice la ln lc] 33)) (.cells #[.slice none 0 0, .slice none 0 0] 33)
    simpa using this
 have PC := implPlan_any n fine a ao av ra la cap ko co kv cv rc lc zs os vs L R (((w.alloc (.cells #[.int .i64 n, .slice a zl cap, .slice ao ko co, .slice av kv cv, .int .i64 fine] 30)).alloc (.cells #[.slice ra nr rc, .slice la ln lc] 33)).alloc (.cells #[.slice none 0 0, .slice none 0 0] 33)) (HA.below Q0.b) (HO.below Q0.b) (HV.below Q0.b) (HP.2.2.1.below Q0.b) (HP.2.2.2.1.below Q0.b) HLO.out HLV.out hko hkv (by rw [HN.out]; exact hn) HI.out HP.2.2.2.2.2.2 (by rw [HM.out]; exact hll) hal hwl
 rw [HN.out, HM.out, HLZ.out, HPV.out] at PC
 obtain ⟨c0, c1, c2, c3, c4⟩ := cells5 Q0.c
 obtain ⟨p0, p1⟩ := cells2 Q0.p
 go_enter Tryz.func7, Tryz.ntmps7
 go_wp2_with fail
 generalize ((w.alloc (.cells #[.int .i64 n, .slice a zl cap, .slice ao ko co, .slice av kv cv, .int .i64 fine] 30)).alloc (.cells #[.slice ra nr rc, .slice la ln lc] 33)).alloc (.cells #[.slice none 0 0, .slice none 0 0] 33) = W0 at *
 refine PC.mono ?_
 rintro e w1 ⟨rfl, hb⟩
 have Q1 : Hid _ := Q0.below hb
 clear hb PC c0 c1 c2 c3 c4 p0 p1 Q0 HPV
 by_cases hpv : pv = 0
 · have RLW := RL.out hpv w1 Q1.b
   subst hpv
   clear HNO RL
   obtain ⟨c0, c1, c2, c3, c4⟩ := cells5 Q1.c
   obtain ⟨p0, p1⟩ := cells2 Q1.p
   go_wp2_with fail
   refine RLW.mono ?_
   rintro e w2 ⟨ra2, n2, rc2, la2, l2, lc2, R2, rfl, hb, h1, h2, h3, h4, h5, h6⟩
   have hA : Below w2.heap.size w2 (w2.alloc (.cells #[.slice ra2 n2 rc2, .slice la2 l2 lc2] 33)) := (Below.refl _ _).alloc (Nat.le_refl _) _
   have Q3 : Hid _ := (Q1.below hb).below hA
   have Z3 : Hid ((w2.alloc (.cells #[.slice ra2 n2 rc2, .slice la2 l2 lc2] 33)).heap[w2.heap.size]? = some (.cells #[.slice ra2 n2 rc2, .slice la2 l2 lc2] 33 (0, 0))) := heap_alloc_new _ _
   have hk9 : R2.length = GR.length := by have := congrArg List.length h5; simpa using this
   have CC := copyOfPlan_any ra2 la2 rc2 lc2 R2 GL (w2.alloc (.cells #[.slice ra2 n2 rc2, .slice la2 l2 lc2] 33)) (h1.below hA) (h3.below hA) h6 (by have := HGI.2.1; omega) (fun r hr => key_in h5 HGI.1 r hr) HGI.2.2
   rw [h2, h4] at CC
   have HK2 : Hid _ := h5
   have HN2 : Hid _ := h2
   have HL2 : Hid _ := h4
   clear h1 h2 h3 h4 h5 h6 Q1 RLW hk9 hb hA c0 c1 c2 c3 c4 p0 p1
   obtain ⟨z0, z1⟩ := cells2 Z3.out
   go_wp2_with fail
   generalize w2.alloc (.cells #[.slice ra2 n2 rc2, .slice la2 l2 lc2] 33) = w3 at *
   refine CC.mono ?_
   rintro e w4 ⟨ra4, rc4, la4, lc4, S4, rfl, hb, hk4, hpo, hap⟩
   rw [HN2.out, HL2.out] at hpo
   rw [HN2.out, HL2.out]
   have Q4 : Hid _ := Q3.below hb
   have P4 : Hid (PO w4 (w.heap.size + 3) (.slice ra4 n2 rc4) S4 (.slice la4 l2 lc4) GL) := hpo.base (by have := Q3.size; omega)
   have HK4 : Hid _ := hk4.trans HK2.out
   have HSL : Hid (S4.length = n2) := by have := congrArg List.length hk4; simp only [List.length_map] at this; exact this.trans HN2.out
   have HAP : Hid (Apart S4 la4) := hap
   clear hb hpo hk4 hap CC z0 z1 Z3 Q3
   obtain ⟨a0, a1⟩ := cells2 Q4.o
   have af := fun i => frozen_of_row _ _ i _ _ Q4.o
   have s1 := heap_setCell_same w4 (w.heap.size + 2) 0 _ _ (Value.slice ra4 n2 rc4) Q4.o
   have P5 : Hid (PO ((w4.setCell ⟨w.heap.size + 2, 0, none⟩ (.slice ra4 n2 rc4)).setCell ⟨w.heap.size + 2, 1, none⟩ (.slice la4 l2 lc4)) (w.heap.size + 3) (.slice ra4 n2 rc4) S4 (.slice la4 l2 lc4) GL) := (P4.box Q4.o).box s1
   have B5 : Hid (Below w.heap.size w ((w4.setCell ⟨w.heap.size + 2, 0, none⟩ (.slice ra4 n2 rc4)).setCell ⟨w.heap.size + 2, 1, none⟩ (.slice la4 l2 lc4))) := (Q4.b.setCell (by simp) _).setCell (by simp) _
   clear s1
   go_wp2
   refine bodyPost_ret (v := .tuple #[.agg #[.slice ra4 n2 rc4, .slice la4 l2 lc4], .int .i64 GN, .bool GF]) (by simp [results, Tryz.results7, go_sem, a0, a1]) rfl ?_
   show OwnOkN _ _ _ _ _ _ _
   exact ⟨ra4, n2, rc4, la4, l2, lc4, S4, rfl, B5.out, HSL.out, HL2.out, HK4.out, P5.base (by omega), HAP.out⟩
 · have hpn : (pv != 0) = true := by simp [hpv]
   obtain ⟨a0, a1⟩ := cells2 Q1.o
   have af := fun i => frozen_of_row _ _ i _ _ Q1.o
   have B5 : Hid (Below w.heap.size w ((w1.setCell ⟨w.heap.size + 2, 0, none⟩ (.slice none 0 0)).setCell ⟨w.heap.size + 2, 1, none⟩ (.slice none 0 0))) := (Q1.b.setCell (by simp) _).setCell (by simp) _
   obtain ⟨g1, g2, g3, g4⟩ := HNO.out hpv
   subst g1 g2 g3 g4
   clear HNO RL
   go_wp2
   refine bodyPost_ret (v := .tuple #[.agg #[.slice none 0 0, .slice none 0 0], .int .i64 0, .bool false]) (by simp [results, Tryz.results7, go_sem, a0, a1]) rfl ?_
   show OwnOkN _ _ _ _ _ _ _
   exact ⟨none, 0, 0, none, 0, 0, [], rfl, B5.out, rfl, rfl, rfl, ⟨World.ownsRow_nil _ _ _ _, (fun s hs => by cases hs), World.ownsRow_nil _ _ _ _⟩, Apart.nil _⟩
def SpecOkM (w : World) (v : Int) (f : Bool) (T : List RT) (L : List Int) (e : Ending) (w' : World) : Prop := ∃ ra rn rc la ln lc S, e = .returned (.tuple #[.agg #[.slice ra rn rc, .slice la ln lc], .int .i64 v, .bool f]) /\ Below w.heap.size w w' /\ S.length = rn /\ L.length = ln /\ S.map RT.key = T.map RT.key /\ PO w' w.heap.size (.slice ra rn rc) S (.slice la ln lc) L /\ (f = true -> ∃ g, la = some ⟨g, 0, none⟩)
set_option maxRecDepth 10000 in
set_option maxHeartbeats 4000000 in
theorem specRelocL_any (id tv pl n fine : Int) (a ao av ra la : Option Addr) (zl cap ko co kv cv nr rc ln lc : Nat) (zs os vs L : List Int) (R : List RT) (w : World) (hA : IntsAt w a zs) (hO : IntsAt w ao os) (hV : IntsAt w av vs) (hlz : zs.length = zl) (hlo : os.length = ko * 6) (hlv : vs.length = kv * 5) (hko : ko <= 9223372036854775807) (hkv : kv <= 9223372036854775807) (hP : PlanIs w ra la nr ln R L) (hn : nr <= 1048576) (hi : ∀ r ∈ R, r.ids.length <= 1048576) (hll : ln <= 1048576) (hal : (allTo R R.length).length <= 1048576) (hla : planV n zs os vs ko kv fine R L = 0 -> ∃ bl ol, la = some ⟨bl, ol, none⟩) :
 Calls Tryz.prog 8 #[.agg #[.int .i64 n, .slice a zl cap, .slice ao ko co, .slice av kv cv, .int .i64 fine], .agg #[.slice ra nr rc, .slice la ln lc], .int .i64 id, .int .i64 tv, .int .i64 pl] w (SpecOkM w (rqD id tv pl n fine zs os vs ko kv R L) (rqB id tv pl n fine zs os vs ko kv R L) (rqR id tv pl n fine zs os vs ko kv R L) (rqL id tv pl n fine zs os vs ko kv R L)) := by
 have HA : Hid (IntsAt w a zs) := hA
 have HLX : Hid _ := hla
 have HO : Hid (IntsAt w ao os) := hO
 have HV : Hid (IntsAt w av vs) := hV
 have HLZ : Hid _ := hlz
 have HLO : Hid _ := hlo
 have HLV : Hid _ := hlv
 have HP : Hid (PlanIs w ra la nr ln R L) := hP
 have HN : Hid _ := hP.1
 have HM : Hid _ := hP.2.1
 have HI : Hid _ := hi
 clear hA hO hV hlz hlo hlv hP hi hla
 obtain ⟨pv, HPV⟩ := nmd (planV n zs os vs ko kv fine R L)
 have HNO : Hid (rqB id tv pl n fine zs os vs ko kv R L = false -> rqD id tv pl n fine zs os vs ko kv R L = 0 /\ rqB id tv pl n fine zs os vs ko kv R L = false /\ rqR id tv pl n fine zs os vs ko kv R L = [] /\ rqL id tv pl n fine zs os vs ko kv R L = []) := fun h => by
  unfold rqD rqR rqL
  rw [h]
  exact ⟨rfl, rfl, rfl, rfl⟩
 have HYE : Hid (rqB id tv pl n fine zs os vs ko kv R L = true -> rqD id tv pl n fine zs os vs ko kv R L = costR n zs os vs ko kv (rlN R id tv pl.toNat) (fine * L.length) (rlN R id tv pl.toNat).length - costR n zs os vs ko kv R (fine * L.length) R.length /\ rqR id tv pl n fine zs os vs ko kv R L = rlN R id tv pl.toNat /\ rqL id tv pl n fine zs os vs ko kv R L = L) := fun h => by
  unfold rqD rqR rqL
  rw [h]
  exact ⟨rfl, rfl, rfl⟩
 have HBE : Hid (rqB id tv pl n fine zs os vs ko kv R L = (decide (pv = 0) && (decide (id ∈ allTo R R.length) && (inB pl 0 ((rtOf (lvR R id) tv).ids.length : Int) && decide (planV n zs os vs ko kv fine (rlN R id tv pl.toNat) L = 0))))) := by
  show _ = _
  unfold rqB
  rw [HPV.out]
 obtain ⟨GD, HGD⟩ := nmd (rqD id tv pl n fine zs os vs ko kv R L)
 obtain ⟨GB, HGB⟩ := nmd (rqB id tv pl n fine zs os vs ko kv R L)
 obtain ⟨GR, HGR⟩ := nmd (rqR id tv pl n fine zs os vs ko kv R L)
 obtain ⟨GL, HGL⟩ := nmd (rqL id tv pl n fine zs os vs ko kv R L)
 rw [HGD.out, HGB.out, HGR.out, HGL.out] at HNO HYE
 rw [HGB.out] at HBE
 rw [HGD.out, HGB.out, HGR.out, HGL.out]
 clear HGD HGB HGR HGL
 have Q0 : Hid (GQ w (((w.alloc (.cells #[.int .i64 n, .slice a zl cap, .slice ao ko co, .slice av kv cv, .int .i64 fine] 30)).alloc (.cells #[.slice ra nr rc, .slice la ln lc] 33)).alloc (.cells #[.slice none 0 0, .slice none 0 0] 33)) #[.int .i64 n, .slice a zl cap, .slice ao ko co, .slice av kv cv, .int .i64 fine] #[.slice ra nr rc, .slice la ln lc]) := by
  refine ⟨(((Below.refl _ _).alloc (Nat.le_refl _) _).alloc (by simp) _).alloc (by simp; omega) _, ?_, ?_, ?_⟩
  · exact (heap_alloc_old _ _ (by simp; omega)).trans (heap_alloc2_old _ _ _)
  · exact (heap_alloc_old _ _ (by simp)).trans (heap_alloc2_new _ _ _)
  · have := heap_alloc_new ((w.alloc (.cells #[.int .i64 n, .slice a zl cap, .slice ao ko co, .slice av kv cv, .int .i64 fine] 30)).alloc (.cells #[.slice ra nr rc, .slice la ln lc] 33)) (.cells #[.slice none 0 0, .slice none 0 0] 33)
    simpa using this
 have PCA : Hid (∀ W, Below w.heap.size w W -> Calls Tryz.prog 26 #[.agg #[.int .i64 n, .slice a zl cap, .slice ao ko co, .slice av kv cv, .int .i64 fine], .agg #[.slice ra nr rc, .slice la ln lc]] W fun e w' => e = .returned (.int .i64 pv) /\ Below W.heap.size W w') := fun W hW => by
  have PC := specPlan_any n fine a ao av ra la cap ko co kv cv rc lc zs os vs L R W (HA.below hW) (HO.below hW) (HV.below hW) (HP.2.2.1.below hW) (HP.2.2.2.1.below hW) HLO.out HLV.out hko hkv (by rw [HN.out]; exact hn) HI.out HP.2.2.2.2.2.2 (by rw [HM.out]; exact hll) hal
  rw [HN.out, HM.out, HLZ.out, HPV.out] at PC
  exact PC
 obtain ⟨c0, c1, c2, c3, c4⟩ := cells5 Q0.c
 obtain ⟨p0, p1⟩ := cells2 Q0.p
 go_enter Tryz.func8, Tryz.ntmps8
 go_wp2_with fail
 generalize ((w.alloc (.cells #[.int .i64 n, .slice a zl cap, .slice ao ko co, .slice av kv cv, .int .i64 fine] 30)).alloc (.cells #[.slice ra nr rc, .slice la ln lc] 33)).alloc (.cells #[.slice none 0 0, .slice none 0 0] 33) = W0 at *
 refine (PCA.out W0 Q0.b).mono ?_
 rintro e w1 ⟨rfl, hb⟩
 have Q1 : Hid _ := Q0.below hb
 clear hb c0 c1 c2 c3 c4 p0 p1 Q0
 by_cases hpv : pv = 0
 rotate_left
 · have hpn : (pv != 0) = true := by simp [hpv]
   obtain ⟨g1, g2, g3, g4⟩ := HNO.out (by rw [HBE.out, decide_eq_false hpv, Bool.false_and])
   subst g1 g2 g3 g4
   obtain ⟨a0, a1⟩ := cells2 Q1.o
   have af := fun i => frozen_of_row _ _ i _ _ Q1.o
   have BE := Q1.b
   clear HNO HYE HBE
   go_wp2
   refine bodyPost_ret (v := .tuple #[.agg #[.slice none 0 0, .slice none 0 0], .int .i64 0, .bool false]) (by simp [results, Tryz.results8, go_sem, a0, a1]) rfl ?_
   show SpecOkM _ _ _ _ _ _ _
   exact ⟨none, 0, 0, none, 0, 0, [], rfl, (BE.setCell (by simp <;> omega) _).setCell (by simp <;> omega) _, rfl, rfl, rfl, ⟨World.ownsRow_nil _ _ _ _, (fun s hs => by cases hs), World.ownsRow_nil _ _ _ _⟩, (fun h => by cases h)⟩
 · have hpn : (pv != 0) = false := by simp [hpv]
   have HPL : Hid _ := HPV.trans hpv
   obtain ⟨bl, ol, ela⟩ := HLX.out HPL.out
   subst ela
   have hps := plan_small HPL.out
   rw [decide_eq_true hpv, Bool.true_and] at HBE
   have SV := specServed_opt n fine a ao av ra (some ⟨bl, ol, none⟩) cap ko co kv cv rc lc zs os vs L R w1 (HP.2.2.1.below Q1.b) (by rw [HN.out]; exact hn) HP.2.2.2.2.2.2 pv HPV.out (fun X hX => by rw [HLZ.out, HN.out, HM.out]; exact PCA.out X (Q1.b.trans (hX.mono Q1.b.size)))
   have hsv : servV n zs os vs ko kv fine R L = srtS (allTo R R.length) := by unfold servV; rw [if_pos HPL.out]
   obtain ⟨X, HX⟩ := nmd (srtS (allTo R R.length))
   obtain ⟨xl, HXL⟩ := nmd X.length
   rw [hsv, HX.out, HXL.out, HLZ.out, HN.out, HM.out] at SV
   have hx12 : xl <= 12 := by rw [<- HXL.out, <- HX.out, srtS_len]; exact (serv_small HPL.out).1
   clear hsv
   obtain ⟨c0, c1, c2, c3, c4⟩ := cells5 Q1.c
   obtain ⟨p0, p1⟩ := cells2 Q1.p
   go_wp2_with fail
   refine SV.mono ?_
   rintro e w2 ⟨sl, rfl, hb, ho⟩
   obtain ⟨sa, sc, hsl⟩ := own_formL ho
   subst hsl
   have Q2 : Hid _ := Q1.below hb
   have LH := l3Has_any sa xl sc id X w2 (ints_ownL ho) (by rw [HXL.out]; exact Nat.le_refl _) (by omega)
   have hhm := hasTo_mem X id
   rw [HXL.out] at hhm
   rw [hhm] at LH
   clear hb ho SV c0 c1 c2 c3 c4 p0 p1 Q1 hhm
   by_cases hid : id ∈ allTo R R.length
   rotate_left
   · have hX9 : id ∉ X := by rw [<- HX.out, srtS_mem]; exact hid
     rw [decide_eq_false hX9] at LH
     obtain ⟨g1, g2, g3, g4⟩ := HNO.out (by rw [HBE.out, decide_eq_false hid, Bool.false_and])
     subst g1 g2 g3 g4
     obtain ⟨a0, a1⟩ := cells2 Q2.o
     have af := fun i => frozen_of_row _ _ i _ _ Q2.o
     have BE := Q2.b
     clear HNO HYE HBE
     go_wp2_with (go_at_call 27; refine LH.mono ?_; rintro e w' ⟨rfl, hw'⟩; subst w')
     refine bodyPost_ret (v := .tuple #[.agg #[.slice none 0 0, .slice none 0 0], .int .i64 0, .bool false]) (by simp [results, Tryz.results8, go_sem, a0, a1]) rfl ?_
     show SpecOkM _ _ _ _ _ _ _
     exact ⟨none, 0, 0, none, 0, 0, [], rfl, (BE.setCell (by simp <;> omega) _).setCell (by simp <;> omega) _, rfl, rfl, rfl, ⟨World.ownsRow_nil _ _ _ _, (fun s hs => by cases hs), World.ownsRow_nil _ _ _ _⟩, (fun h => by cases h)⟩
   · have hX9 : id ∈ X := by rw [<- HX.out, srtS_mem]; exact hid
     rw [decide_eq_true hX9] at LH
     rw [decide_eq_true hid, Bool.true_and] at HBE
     obtain ⟨k, hk, hin, -⟩ := first_route hid
     have MV := l6Move_any id tv pl n fine a ao av ra zl cap ko co kv cv nr rc bl ol ln lc zs os vs L R w2 (HA.below Q2.b) (HO.below Q2.b) (HV.below Q2.b) HLZ.out HLO.out HLV.out hko hkv (HP.below Q2.b) HPL.out k hk hin
     clear hX9 hk hin hid HX
     obtain ⟨c0, c1, c2, c3, c4⟩ := cells5 Q2.c
     obtain ⟨p0, p1⟩ := cells2 Q2.p
     go_wp2_with (go_at_call 27; refine LH.mono ?_; rintro e w' ⟨rfl, hw'⟩; subst w')
     refine MV.mono ?_
     rintro e w3 ⟨hb, ⟨hib, rfl⟩ | ⟨hib, ra3, n3, rc3, gl3, lc3, S3, rfl, hn3, hk3, ho3⟩⟩
     · rw [hib, Bool.false_and] at HBE
       have QA : Hid (GQ w (w3.alloc (.cells #[.slice none 0 0, .slice none 0 0] 33)) #[.int .i64 n, .slice a zl cap, .slice ao ko co, .slice av kv cv, .int .i64 fine] #[.slice ra nr rc, .slice (some ⟨bl, ol, none⟩) ln lc]) := (Q2.below hb).below ((Below.refl _ _).alloc (Nat.le_refl _) _)
       clear hb MV LH hib c0 c1 c2 c3 c4 p0 p1
       obtain ⟨g1, g2, g3, g4⟩ := HNO.out (by rw [HBE.out])
       subst g1 g2 g3 g4
       obtain ⟨a0, a1⟩ := cells2 QA.o
       have af := fun i => frozen_of_row _ _ i _ _ QA.o
       have BE := QA.b
       clear HNO HYE HBE
       go_wp2
       refine bodyPost_ret (v := .tuple #[.agg #[.slice none 0 0, .slice none 0 0], .int .i64 0, .bool false]) (by simp [results, Tryz.results8, go_sem, a0, a1]) rfl ?_
       show SpecOkM _ _ _ _ _ _ _
       exact ⟨none, 0, 0, none, 0, 0, [], rfl, (BE.setCell (by simp <;> omega) _).setCell (by simp <;> omega) _, rfl, rfl, rfl, ⟨World.ownsRow_nil _ _ _ _, (fun s hs => by cases hs), World.ownsRow_nil _ _ _ _⟩, (fun h => by cases h)⟩
     · rw [hib, Bool.true_and] at HBE
       rw [HM.out] at ho3 ⊢
       have Q3 : Hid _ := Q2.below hb
       have HN3 : Hid _ := hn3
       have HK3 : Hid _ := hk3
       have hA : Below w3.heap.size w3 (w3.alloc (.cells #[.slice ra3 n3 rc3, .slice (some ⟨gl3, 0, none⟩) ln lc3] 33)) := (Below.refl _ _).alloc (Nat.le_refl _) _
       have Q4 : Hid _ := Q3.below hA
       have B4 : Hid ((w3.alloc (.cells #[.slice ra3 n3 rc3, .slice (some ⟨gl3, 0, none⟩) ln lc3] 33)).heap[w3.heap.size]? = some (.cells #[.slice ra3 n3 rc3, .slice (some ⟨gl3, 0, none⟩) ln lc3] 33 (0, 0))) := heap_alloc_new _ _
       have O4 : Hid _ := (ho3.base Q2.size).below hA
       have HKO : Hid _ := Q3.size
       clear hA hb hn3 hk3 ho3 MV LH hib c0 c1 c2 c3 c4 p0 p1 Q2 Q3
       by_cases hw : planV n zs os vs ko kv fine (rlN R id tv pl.toNat) L = 0
       rotate_left
       · rw [decide_eq_false hw] at HBE
         rw [decide_eq_false hw]
         obtain ⟨g1, g2, g3, g4⟩ := HNO.out (by rw [HBE.out])
         subst g1 g2 g3 g4
         obtain ⟨a0, a1⟩ := cells2 Q4.o
         have af := fun i => frozen_of_row _ _ i _ _ Q4.o
         have BE := Q4.b
         clear HNO HYE HBE
         go_wp2
         refine bodyPost_ret (v := .tuple #[.agg #[.slice none 0 0, .slice none 0 0], .int .i64 0, .bool false]) (by simp [results, Tryz.results8, go_sem, a0, a1]) rfl ?_
         show SpecOkM _ _ _ _ _ _ _
         exact ⟨none, 0, 0, none, 0, 0, [], rfl, (BE.setCell (by simp <;> omega) _).setCell (by simp <;> omega) _, rfl, rfl, rfl, ⟨World.ownsRow_nil _ _ _ _, (fun s hs => by cases hs), World.ownsRow_nil _ _ _ _⟩, (fun h => by cases h)⟩
       · rw [decide_eq_true hw] at HBE
         rw [decide_eq_true hw]
         obtain ⟨y1, y2, y3⟩ := HYE.out HBE.out
         have hps2 := plan_small hw
         have bd1 := costR_bd (planV_zero HPL.out).1 (planV_zero HPL.out).2.1 (fine * L.length) R.length (Nat.le_refl _)
         have bd2 := costR_bd (planV_zero hw).1 (planV_zero hw).2.1 (fine * L.length) (rlN R id tv pl.toNat).length (Nat.le_refl _)
         have LC1 : Hid (∀ W, Below w.heap.size w W -> _) := fun W hW => l4Cost_any n fine a ao av ra (some ⟨bl, ol, none⟩) cap ko co kv cv rc lc zs os vs L R W (HA.below hW) (HO.below hW) (HV.below hW) (HP.2.2.1.below hW) HLO.out HLV.out hko hkv HPL.out
         have LC2 : Hid (∀ W, Below w.heap.size w W -> PO W (w.heap.size + 3) (.slice ra3 n3 rc3) S3 (.slice (some ⟨gl3, 0, none⟩) ln lc3) L -> Calls Tryz.prog 29 #[.agg #[.int .i64 n, .slice a zl cap, .slice ao ko co, .slice av kv cv, .int .i64 fine], .agg #[.slice ra3 n3 rc3, .slice (some ⟨gl3, 0, none⟩) ln lc3]] W fun e w' => e = .returned (.int .i64 (costR n zs os vs ko kv (rlN R id tv pl.toNat) (fine * L.length) (rlN R id tv pl.toNat).length)) /\ Below W.heap.size W w') := fun W hW hO => by
          have h9 := l4Cost_any n fine a ao av ra3 (some ⟨gl3, 0, none⟩) cap ko co kv cv rc3 lc3 zs os vs L S3 W (HA.below hW) (HO.below hW) (HV.below hW) (po_at hO HN3.out) HLO.out HLV.out hko hkv ((planV_key L HK3.out).trans hw)
          rw [costR_key HK3.out, HLZ.out] at h9
          have e9 := key_len HK3.out
          rw [e9] at h9
          rw [HN3.out] at e9
          rw [<- e9, HM.out] at h9
          rw [<- e9, HM.out]
          exact h9
         rw [HLZ.out, HN.out, HM.out] at LC1
         rw [HM.out] at y1 bd1 bd2 LC2
         rw [HN.out] at y1 bd1
         obtain ⟨d1, HD1⟩ := nmd (costR n zs os vs ko kv R (fine * (ln : Int)) nr)
         obtain ⟨d2, HD2⟩ := nmd (costR n zs os vs ko kv (rlN R id tv pl.toNat) (fine * (ln : Int)) (rlN R id tv pl.toNat).length)
         rw [HD1.out] at y1 bd1 LC1
         rw [HD2.out] at y1 bd2 LC2
         have hz := hps2.2.2
         rw [HM.out] at hz
         have hrl := hps2.1
         have hb1 : 0 <= d1 /\ d1 <= 20000000 := by have h1 := hps.1; rw [HN.out] at h1; omega
         have hb2 : 0 <= d2 /\ d2 <= 20000000 := by omega
         have hwr : IntKind.i64.wrap (d2 - d1) = d2 - d1 := IntWalk.i64_in _ (by omega)
         obtain ⟨hb11, hb12⟩ := hb1
         obtain ⟨hb21, hb22⟩ := hb2
         have HKG : Hid (S3.map RT.key = GR.map RT.key) := by show _ = _; rw [y2]; exact HK3.out
         have HBT := HBE.out
         have HGD : Hid (d2 - d1 = GD) := y1.symm
         clear y1 y2 bd1 bd2 hz hrl hps2 hw HYE HNO HBE
         subst HBT
         subst y3
         go_wp2_with fail
         generalize w3.alloc (.cells #[.slice ra3 n3 rc3, .slice (some ⟨gl3, 0, none⟩) ln lc3] 33) = W4 at *
         obtain ⟨kq, HKQ⟩ := nmd w3.heap.size
         rw [HKQ.out] at B4 HKO ⊢
         refine wp_region_held_drew (S := (fun W => (W.cell? ⟨w.heap.size, 0, none⟩ = some (.int .i64 n) /\ W.cell? ⟨w.heap.size, 1, none⟩ = some (.slice a zl cap) /\ W.cell? ⟨w.heap.size, 2, none⟩ = some (.slice ao ko co) /\ W.cell? ⟨w.heap.size, 3, none⟩ = some (.slice av kv cv) /\ W.cell? ⟨w.heap.size, 4, none⟩ = some (.int .i64 fine)) /\ (W.cell? ⟨w.heap.size + 1, 0, none⟩ = some (.slice ra nr rc) /\ W.cell? ⟨w.heap.size + 1, 1, none⟩ = some (.slice (some ⟨bl, ol, none⟩) ln lc)) /\ W.cell? ⟨kq, 0, none⟩ = some (.slice ra3 n3 rc3) /\ W.cell? ⟨kq, 1, none⟩ = some (.slice (some ⟨gl3, 0, none⟩) ln lc3))) (by kernel_rfl) ?_ (fun hHeld => ?_)
         · exact ⟨cells5 (Q4.below (Below.refl _ _).drew).c, cells2 (Q4.below (Below.refl _ _).drew).p, cells2 (below_row (Below.refl _ _).drew (row_lt B4.out) B4.out)⟩
         have QD : Hid _ := Q4.below (Below.refl _ _).drew
         have BD : Hid _ := below_row (Below.refl _ _).drew (row_lt B4.out) B4.out
         have OD : Hid _ := O4.below (Below.refl _ _).drew
         clear Q4 B4 O4
         generalize W4.drew = wd at *
         refine tkH 0 hHeld ?_
         refine tkH 1 hHeld ?_
         refine tkH 2 hHeld ?_
         refine tkH 4 hHeld ?_
         refine tkH 5 hHeld ?_
         refine wpAnyH_ready (rs := [3]) (by kernel_rfl) (by simp) ?_
         refine AllReadyH.cons rfl (fun K hK => ?_) AllReadyH.nil
         go_simp
         refine (LC2.out wd QD.b OD.out).mono ?_
         rintro e w5 ⟨rfl, hb⟩
         have Q5 : Hid _ := QD.below hb
         have B5 : Hid _ := below_row hb (row_lt BD.out) BD.out
         have O5 : Hid _ := OD.below hb
         clear hb
         (try go_wp2_with fail)
         refine hK.out _ _ ?_ (fun hHeld => ?_)
         · exact ⟨cells5 Q5.c, cells2 Q5.p, cells2 B5.out⟩
         clear hK K
         (try simp only [Act.put, List.setIfInBounds_toArray, List.set_cons_zero, List.set_cons_succ])
         refine wpAnyH_ready (rs := [6]) (by kernel_rfl) (by simp) ?_
         refine AllReadyH.cons rfl (fun K hK => ?_) AllReadyH.nil
         go_simp
         refine (LC1.out w5 Q5.b).mono ?_
         rintro e w6 ⟨rfl, hb⟩
         have Q6 : Hid _ := Q5.below hb
         have B6 : Hid _ := below_row hb (row_lt B5.out) B5.out
         have O6 : Hid _ := O5.below hb
         clear hb
         (try go_wp2_with fail)
         refine hK.out _ _ ?_ (fun hHeld => ?_)
         · exact ⟨cells5 Q6.c, cells2 Q6.p, cells2 B6.out⟩
         clear hK K
         (try simp only [Act.put, List.setIfInBounds_toArray, List.set_cons_zero, List.set_cons_succ])
         refine tkH 7 hHeld ?_
         refine wpAnyH_ready (rs := [8]) (by kernel_rfl) (by simp) ?_
         refine AllReadyH.cons rfl (fun K hK => ?_) AllReadyH.nil
         obtain ⟨a0, a1⟩ := cells2 Q6.o
         have af := fun i => frozen_of_row _ _ i _ _ Q6.o
         have s1 := heap_setCell_same w6 (w.heap.size + 2) 0 _ _ (Value.slice ra3 n3 rc3) Q6.o
         have P7 : Hid (PO ((w6.setCell ⟨w.heap.size + 2, 0, none⟩ (.slice ra3 n3 rc3)).setCell ⟨w.heap.size + 2, 1, none⟩ (.slice (some ⟨gl3, 0, none⟩) ln lc3)) (w.heap.size + 3) (.slice ra3 n3 rc3) S3 (.slice (some ⟨gl3, 0, none⟩) ln lc3) GL) := (O6.box Q6.o).box s1
         simp only [List.setIfInBounds_toArray, List.set_cons_zero] at s1
         have s2 := heap_setCell_same _ (w.heap.size + 2) 1 _ _ (Value.slice (some ⟨gl3, 0, none⟩) ln lc3) s1
         simp only [List.setIfInBounds_toArray, List.set_cons_zero, List.set_cons_succ] at s2
         have A7 : Hid _ := s2
         have C7 : Hid (((w6.setCell ⟨w.heap.size + 2, 0, none⟩ (.slice ra3 n3 rc3)).setCell ⟨w.heap.size + 2, 1, none⟩ (.slice (some ⟨gl3, 0, none⟩) ln lc3)).heap[w.heap.size]? = some (.cells #[.int .i64 n, .slice a zl cap, .slice ao ko co, .slice av kv cv, .int .i64 fine] 30 (0, 0))) := row_set' (row_set' Q6.c (by omega)) (by omega)
         have D7 : Hid (((w6.setCell ⟨w.heap.size + 2, 0, none⟩ (.slice ra3 n3 rc3)).setCell ⟨w.heap.size + 2, 1, none⟩ (.slice (some ⟨gl3, 0, none⟩) ln lc3)).heap[w.heap.size + 1]? = some (.cells #[.slice ra nr rc, .slice (some ⟨bl, ol, none⟩) ln lc] 33 (0, 0))) := row_set' (row_set' Q6.p (by omega)) (by omega)
         have K7 : Hid (((w6.setCell ⟨w.heap.size + 2, 0, none⟩ (.slice ra3 n3 rc3)).setCell ⟨w.heap.size + 2, 1, none⟩ (.slice (some ⟨gl3, 0, none⟩) ln lc3)).heap[kq]? = some (.cells #[.slice ra3 n3 rc3, .slice (some ⟨gl3, 0, none⟩) ln lc3] 33 (0, 0))) := row_set' (row_set' B6.out (by have := HKO.out; omega)) (by have := HKO.out; omega)
         have B7 : Hid (Below w.heap.size w ((w6.setCell ⟨w.heap.size + 2, 0, none⟩ (.slice ra3 n3 rc3)).setCell ⟨w.heap.size + 2, 1, none⟩ (.slice (some ⟨gl3, 0, none⟩) ln lc3))) := (Q6.b.setCell (by simp) _).setCell (by simp) _
         clear s1 s2
         go_simp
         refine hK.out _ _ ?_ (fun hHeld => ?_)
         · exact ⟨cells5 C7.out, cells2 D7.out, cells2 K7.out⟩
         clear hK K
         clear a0 a1 af
         generalize ((w6.setCell ⟨w.heap.size + 2, 0, none⟩ (.slice ra3 n3 rc3)).setCell ⟨w.heap.size + 2, 1, none⟩ (.slice (some ⟨gl3, 0, none⟩) ln lc3)) = W7 at *
         refine tkH 9 hHeld ?_
         refine tkH 10 hHeld ?_
         refine wpAnyH_done (by kernel_rfl) ?_ _
         clear hHeld
         obtain ⟨a0, a1⟩ := cells2 A7.out
         go_wp2
         refine bodyPost_ret (v := .tuple #[.agg #[.slice ra3 n3 rc3, .slice (some ⟨gl3, 0, none⟩) ln lc3], .int .i64 (d2 - d1), .bool true]) (by simp [results, Tryz.results8, go_sem, a0, a1]) rfl ?_
         show SpecOkM _ _ _ _ _ _ _
         rw [<- HGD.out]
         exact ⟨ra3, n3, rc3, _, ln, lc3, S3, rfl, B7.out, HN3.out, HM.out, HKG.out, P7.base (by omega), fun _ => ⟨gl3, rfl⟩⟩
theorem specRelocated_opt (id tv pl n fine : Int) (a ao av ra la : Option Addr) (zl cap ko co kv cv nr rc ln lc : Nat) (zs os vs L : List Int) (R : List RT) (w : World) (hA : IntsAt w a zs) (hO : IntsAt w ao os) (hV : IntsAt w av vs) (hlz : zs.length = zl) (hlo : os.length = ko * 6) (hlv : vs.length = kv * 5) (hko : ko <= 9223372036854775807) (hkv : kv <= 9223372036854775807) (hP : PlanIs w ra la nr ln R L) (hn : nr <= 1048576) (hi : ∀ r ∈ R, r.ids.length <= 1048576) (hll : ln <= 1048576) (hal : (allTo R R.length).length <= 1048576) (hla : planV n zs os vs ko kv fine R L = 0 -> ∃ bl ol, la = some ⟨bl, ol, none⟩) :
 Calls Tryz.prog 8 #[.agg #[.int .i64 n, .slice a zl cap, .slice ao ko co, .slice av kv cv, .int .i64 fine], .agg #[.slice ra nr rc, .slice la ln lc], .int .i64 id, .int .i64 tv, .int .i64 pl] w (SpecOkN w (rqD id tv pl n fine zs os vs ko kv R L) (rqB id tv pl n fine zs os vs ko kv R L) (rqR id tv pl n fine zs os vs ko kv R L) (rqL id tv pl n fine zs os vs ko kv R L)) :=
 (specRelocL_any id tv pl n fine a ao av ra la zl cap ko co kv cv nr rc ln lc zs os vs L R w hA hO hV hlz hlo hlv hko hkv hP hn hi hll hal hla).mono (fun _ _ h => by
   obtain ⟨ra2, rn2, rc2, la2, ln2, lc2, S, h1, h2, h3, h4, h5, h6, _⟩ := h
   exact ⟨ra2, rn2, rc2, la2, ln2, lc2, S, h1, h2, h3, h4, h5, h6⟩)
end Go.Proofs.YtmehgihjpefpmaaGreat
