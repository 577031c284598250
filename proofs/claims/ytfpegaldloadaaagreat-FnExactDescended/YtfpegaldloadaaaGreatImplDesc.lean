import Derived.Test.YtfpegaldloadaaaGreatPack1
import Derived.Test.YtfpegaldloadaaaGreatPack2
import Derived.Test.YtfpegaldloadaaaGreatPack3
import Derived.Test.YtfpegaldloadaaaGreatImplPlan
import Derived.Test.YtfpegaldloadaaaGreatPack40
import Derived.Test.YtfpegaldloadaaaGreatPack41
import Derived.Deep.RegionHeld3
import Derived.Deep.CutRange
namespace Go.Proofs.YtfpegaldloadaaaGreat
open Go.RowKit
set_option maxRecDepth 10000 in
set_option maxHeartbeats 4000000 in
theorem implDescended_any (st n fine : Int) (a ao av ra la : Option Addr) (zl cap ko co kv cv nr rc ln lc : Nat) (zs os vs L : List Int) (R : List RT) (w : World) (hA : IntsAt w a zs) (hO : IntsAt w ao os) (hV : IntsAt w av vs) (hlz : zs.length = zl) (hlo : os.length = ko * 6) (hlv : vs.length = kv * 5) (hko : ko <= 9223372036854775807) (hkv : kv <= 9223372036854775807) (hP : PlanIs w ra la nr ln R L) (hn : nr <= 1048576) (hi : ∀ r ∈ R, r.ids.length <= 1048576) (hll : ln <= 1048576) (hal : (allTo R R.length).length <= 1048576) (hwl : ∀ x ∈ L, (Lit.int .i64 x).wf = true) :
   Calls Tryz.prog 20 #[.agg #[.int .i64 n, .slice a zl cap, .slice ao ko co, .slice av kv cv, .int .i64 fine], .agg #[.slice ra nr rc, .slice la ln lc], .int .i64 st] w (OwnOkI w (dcN st n fine zs os vs ko kv R L) (dcR st n fine zs os vs ko kv R L) (dcL st n fine zs os vs ko kv R L)) := by
 have HA : Hid (IntsAt w a zs) := hA
 have HO : Hid (IntsAt w ao os) := hO
 have HV : Hid (IntsAt w av vs) := hV
 have HLZ : Hid (zs.length = zl) := hlz
 have HLO : Hid (os.length = ko * 6) := hlo
 have HLV : Hid (vs.length = kv * 5) := hlv
 have HP : Hid (PlanIs w ra la nr ln R L) := hP
 have HN : Hid (R.length = nr) := hP.1
 have HM : Hid (L.length = ln) := hP.2.1
 have HI : Hid (∀ r ∈ R, r.ids.length <= 1048576) := hi
 clear hA hO hV hlz hlo hlv hP hi
 obtain ⟨pv, HPV⟩ : ∃ v, Hid (planV n zs os vs ko kv fine R L = v) := ⟨_, rfl⟩
 obtain ⟨k1, HK1⟩ : ∃ v, Hid (inB st 0 60 = v) := ⟨_, rfl⟩
 have HDB : Hid (dcB st n fine zs os vs ko kv R L = (decide (pv = 0) && k1)) := by show _ = _; unfold dcB; rw [HPV.out, HK1.out]
 have HNO : Hid (dcB st n fine zs os vs ko kv R L = false -> dcN st n fine zs os vs ko kv R L = -1 /\ dcR st n fine zs os vs ko kv R L = [] /\ dcL st n fine zs os vs ko kv R L = []) := fun h => by
   unfold dcN dcR dcL
   rw [h]
   exact ⟨rfl, rfl, rfl⟩
 have HBD := dc_bd st n fine zs os vs ko kv R L
 have DI0 : dcB st n fine zs os vs ko kv R L = true -> ∀ W (pc : Nat), Below w.heap.size w W -> W.heap[pc]? = some (.cells #[.int .i64 n, .slice a zl cap, .slice ao ko co, .slice av kv cv, .int .i64 fine] 43 (0, 0)) -> Calls Tryz.prog 56 #[.agg #[Value.func (.func 82) #[] #[.pointer (some ⟨pc, 0, none⟩)], Value.func (.func 85) #[] #[.pointer (some ⟨pc, 0, none⟩)]], .agg #[.slice ra nr rc, .slice la ln lc], .int .i64 st] W (DescPl W (dcN st n fine zs os vs ko kv R L) (dcR st n fine zs os vs ko kv R L) (dcL st n fine zs os vs ko kv R L)) := fun hB W pc hW h1 => by
   have hB2 := hB
   unfold dcB at hB2
   rw [Bool.and_eq_true, decide_eq_true_eq] at hB2
   have hin := inB_true hB2.2
   have := descMove_any n fine a ao av ra la zl cap ko co kv cv nr rc ln lc pc zs os vs L R W (HA.out.below hW) (HO.out.below hW) (HV.out.below hW) HLZ.out HLO.out HLV.out (HP.out.below hW) hB2.1 h1 hko hkv st.toNat (by omega)
   rw [show ((st.toNat : Nat) : Int) = st by omega] at this
   unfold dcN dcR dcL
   rw [hB]
   exact this
 obtain ⟨GN, HGN⟩ : ∃ v, Hid (dcN st n fine zs os vs ko kv R L = v) := ⟨_, rfl⟩
 obtain ⟨GR, HGR⟩ : ∃ v, Hid (dcR st n fine zs os vs ko kv R L = v) := ⟨_, rfl⟩
 obtain ⟨GL, HGL⟩ : ∃ v, Hid (dcL st n fine zs os vs ko kv R L = v) := ⟨_, rfl⟩
 rw [HGR.out, HGL.out] at HBD
 have HGI : Hid ((∀ r ∈ GR, r.ids ≠ [] /\ r.ids.length <= 12) /\ GR.length <= 500 /\ GL.length <= 500) := HBD
 rw [HGN.out, HGR.out, HGL.out] at DI0
 rw [HGN.out, HGR.out, HGL.out] at HNO
 rw [HGN.out, HGR.out, HGL.out]
 have DI : Hid _ := DI0
 clear HBD HGN HGR HGL DI0
 have Q0 : Hid (GQ w (((w.alloc (.cells #[.int .i64 n, .slice a zl cap, .slice ao ko co, .slice av kv cv, .int .i64 fine] 43)).alloc (.cells #[.slice ra nr rc, .slice la ln lc] 36)).alloc (.cells #[.slice none 0 0, .slice none 0 0] 36)) #[.int .i64 n, .slice a zl cap, .slice ao ko co, .slice av kv cv, .int .i64 fine] #[.slice ra nr rc, .slice la ln lc]) := by
   refine ⟨(((Below.refl _ _).alloc (Nat.le_refl _) _).alloc (by simp) _).alloc (by simp; omega) _, ?_, ?_, ?_⟩
   · exact (heap_alloc_old _ _ (by simp; omega)).trans (heap_alloc2_old _ _ _)
   · exact (heap_alloc_old _ _ (by simp)).trans (heap_alloc2_new _ _ _)
   · have := heap_alloc_new ((w.alloc (.cells #[.int .i64 n, .slice a zl cap, .slice ao ko co, .slice av kv cv, .int .i64 fine] 43)).alloc (.cells #[.slice ra nr rc, .slice la ln lc] 36)) (.cells #[.slice none 0 0, .slice none 0 0] 36)
     simpa using this
 have PC := implPlan_any n fine a ao av ra la cap ko co kv cv rc lc zs os vs L R (((w.alloc (.cells #[.int .i64 n, .slice a zl cap, .slice ao ko co, .slice av kv cv, .int .i64 fine] 43)).alloc (.cells #[.slice ra nr rc, .slice la ln lc] 36)).alloc (.cells #[.slice none 0 0, .slice none 0 0] 36)) (HA.out.below Q0.out.b) (HO.out.below Q0.out.b) (HV.out.below Q0.out.b) (HP.out.2.2.1.below Q0.out.b) (HP.out.2.2.2.1.below Q0.out.b) HLO.out HLV.out hko hkv (by rw [HN.out]; exact hn) HI.out HP.out.2.2.2.2.2.2 (by rw [HM.out]; exact hll) hal hwl
 rw [HN.out, HM.out, HLZ.out, HPV.out] at PC
 obtain ⟨c0, c1, c2, c3, c4⟩ := cells5 Q0.out.c
 obtain ⟨p0, p1⟩ := cells2 Q0.out.p
 go_enter Tryz.func20, Tryz.ntmps20
 go_wp2_with fail
 generalize ((w.alloc (.cells #[.int .i64 n, .slice a zl cap, .slice ao ko co, .slice av kv cv, .int .i64 fine] 43)).alloc (.cells #[.slice ra nr rc, .slice la ln lc] 36)).alloc (.cells #[.slice none 0 0, .slice none 0 0] 36) = W0 at *
 refine PC.mono ?_
 rintro e w1 ⟨rfl, hb⟩
 have Q1 : Hid (GQ w w1 #[.int .i64 n, .slice a zl cap, .slice ao ko co, .slice av kv cv, .int .i64 fine] #[.slice ra nr rc, .slice la ln lc]) := Q0.out.below hb
 clear hb PC c0 c1 c2 c3 c4 p0 p1 Q0 HPV
 obtain ⟨a0, a1⟩ := cells2 Q1.out.o
 have af := fun i => frozen_of_row _ _ i _ _ Q1.out.o
 by_cases hpv : pv = 0
 · subst hpv
   rw [decide_eq_true rfl, Bool.true_and] at HDB
   cases k1
   · have B5 : Hid (Below w.heap.size w ((w1.setCell ⟨w.heap.size + 2, 0, none⟩ (.slice none 0 0)).setCell ⟨w.heap.size + 2, 1, none⟩ (.slice none 0 0))) := (Q1.out.b.setCell (by simp) _).setCell (by simp) _
     obtain ⟨g1, g2, g3⟩ := HNO.out (by rw [HDB.out]; try rfl)
     subst g1 g2 g3
     clear HNO DI
     go_wp2_with (go_at_call 55; refine (within_any _ _ _ _).mono ?_; rintro e w' ⟨rfl, hw'⟩; subst w'; rw [HK1.out])
     refine bodyPost_ret (v := .tuple #[.agg #[.slice none 0 0, .slice none 0 0], .int .i64 (-1)]) (by simp [results, Tryz.results20, go_sem, a0, a1]) rfl ?_
     show OwnOkI _ _ _ _ _ _
     exact ⟨none, 0, 0, none, 0, 0, [], rfl, B5.out, rfl, rfl, rfl, ⟨World.ownsRow_nil _ _ _ _, (fun s hs => by cases hs), World.ownsRow_nil _ _ _ _⟩, Apart.nil _⟩
   · clear HNO
     have DI2 := DI.out HDB.out
     have DJ : Hid _ := DI2
     clear DI DI2 HDB a0 a1 af
     go_upto_region 3 with (go_at_call 55; refine (within_any _ _ _ _).mono ?_; rintro e w' ⟨rfl, hw'⟩; subst w'; rw [HK1.out])
     go_cut [8, 9] from 20 to 27 (fun s8 s9 wx => ∃ (kz : Nat) (ra2 : Option Addr) (n2 rc2 : Nat) (la2 : Option Addr) (l2 lc2 : Nat) (R2 : List RT), s8 = .pointer (some ⟨kz, 0, none⟩) /\ s9 = .int .i64 GN /\ GQ w wx #[.int .i64 n, .slice a zl cap, .slice ao ko co, .slice av kv cv, .int .i64 fine] #[.slice ra nr rc, .slice la ln lc] /\ wx.heap[kz]? = some (.cells #[.slice ra2 n2 rc2, .slice la2 l2 lc2] 36 (0, 0)) /\ PlanIs wx ra2 la2 n2 l2 R2 GL /\ R2.map RT.key = GR.map RT.key)
     case first =>
       go_wp2_with fail
       refine wp_region_held_drew (S := (fun W => (W.cell? ⟨w.heap.size, 0, none⟩ = some (.int .i64 n) /\ W.cell? ⟨w.heap.size, 1, none⟩ = some (.slice a zl cap) /\ W.cell? ⟨w.heap.size, 2, none⟩ = some (.slice ao ko co) /\ W.cell? ⟨w.heap.size, 3, none⟩ = some (.slice av kv cv) /\ W.cell? ⟨w.heap.size, 4, none⟩ = some (.int .i64 fine)) /\ W.cell? ⟨w.heap.size + 1, 0, none⟩ = some (.slice ra nr rc) /\ W.cell? ⟨w.heap.size + 1, 1, none⟩ = some (.slice la ln lc))) (by kernel_rfl) ?_ (fun hHeld => ?_)
       · exact ⟨cells5 (Q1.out.below (Below.refl _ _).drew).c, cells2 (Q1.out.below (Below.refl _ _).drew).p⟩
       have G_d : Hid (GQ w w1.drew #[.int .i64 n, .slice a zl cap, .slice ao ko co, .slice av kv cv, .int .i64 fine] #[.slice ra nr rc, .slice la ln lc]) := Q1.out.below (Below.refl _ _).drew
       generalize w1.drew = wd at *
       refine tkH 0 hHeld ?_
       refine tkH 2 hHeld ?_
       refine tkH 3 hHeld ?_
       refine wpAnyH_ready (rs := [1, 8]) (by kernel_rfl) (by simp) ?_
       refine AllReadyH.cons rfl (fun K hK => ?_) ?_
       · skip
         go_simp
         refine (relocations_any _ wd n fine a ao av cap ko co kv cv zl rfl).mono ?_
         rintro e w2 ⟨pc, rfl, hb, hk2⟩
         have G_w2 : Hid (GQ w w2 #[.int .i64 n, .slice a zl cap, .slice ao ko co, .slice av kv cv, .int .i64 fine] #[.slice ra nr rc, .slice la ln lc]) := G_d.out.below hb
         have CB_w2 : Hid (w2.heap[pc]? = some (.cells #[.int .i64 n, .slice a zl cap, .slice ao ko co, .slice av kv cv, .int .i64 fine] 43 (0, 0))) := hk2
         clear hb hk2
         (try go_wp2_with fail)
         refine hK.out _ _ ?_ (fun hHeld => ?_)
         · exact ⟨cells5 G_w2.out.c, cells2 G_w2.out.p⟩
         clear hK K
         (try simp only [Act.put, List.setIfInBounds_toArray, List.set_cons_zero, List.set_cons_succ])
         refine wpAnyH_ready (rs := [4, 8]) (by kernel_rfl) (by simp) ?_
         refine AllReadyH.cons rfl (fun K hK => ?_) ?_
         · skip
           go_simp
           refine (DJ.out w2 pc G_w2.out.b CB_w2.out).mono ?_
           rintro e w5 ⟨ra2, n2, rc2, la2, l2, lc2, R2, rfl, hb, h5, hpi⟩
           have G_w5 : Hid (GQ w w5 #[.int .i64 n, .slice a zl cap, .slice ao ko co, .slice av kv cv, .int .i64 fine] #[.slice ra nr rc, .slice la ln lc]) := G_w2.out.below hb
           have HP_w5 : Hid (PlanIs w5 ra2 la2 n2 l2 R2 GL) := hpi
           have HX : Hid (R2.map RT.key = GR.map RT.key) := h5
           clear hb h5 hpi
           (try go_wp2_with fail)
           refine hK.out _ _ ?_ (fun hHeld => ?_)
           · exact ⟨cells5 G_w5.out.c, cells2 G_w5.out.p⟩
           clear hK K
           (try simp only [Act.put, List.setIfInBounds_toArray, List.set_cons_zero, List.set_cons_succ])
           refine tkH 5 hHeld ?_
           refine tkH 6 hHeld ?_
           refine tkH 7 hHeld ?_
           refine wpAnyH_ready (rs := [8]) (by kernel_rfl) (by simp) ?_
           refine AllReadyH.cons rfl (fun K hK => ?_) AllReadyH.nil
           have G_z : Hid (GQ w (w5.alloc (.cells #[.slice none 0 0, .slice none 0 0] 36)) #[.int .i64 n, .slice a zl cap, .slice ao ko co, .slice av kv cv, .int .i64 fine] #[.slice ra nr rc, .slice la ln lc]) := G_w5.out.below ((Below.refl w5.heap.size w5).alloc (Nat.le_refl _) (.cells #[.slice none 0 0, .slice none 0 0] 36))
           have VZ0 : Hid ((w5.alloc (.cells #[.slice none 0 0, .slice none 0 0] 36)).heap[w5.heap.size]? = some (.cells #[.slice none 0 0, .slice none 0 0] 36 (0, 0))) := heap_alloc_new _ _
           have HZL : Hid (w.heap.size + 3 <= w5.heap.size) := G_w5.out.size
           have HP_z : Hid (PlanIs (w5.alloc (.cells #[.slice none 0 0, .slice none 0 0] 36)) ra2 la2 n2 l2 R2 GL) := HP_w5.out.below ((Below.refl w5.heap.size w5).alloc (Nat.le_refl _) (.cells #[.slice none 0 0, .slice none 0 0] 36))
           go_simp
           refine hK.out _ _ ?_ (fun hHeld => ?_)
           · exact ⟨cells5 G_z.out.c, cells2 G_z.out.p⟩
           clear hK K
           (try simp only [Act.put, List.setIfInBounds_toArray, List.set_cons_zero, List.set_cons_succ])
           obtain ⟨kz, HKZ⟩ : ∃ v, Hid (w5.heap.size = v) := ⟨_, rfl⟩
           rw [HKZ.out] at VZ0 HZL ⊢
           generalize (w5.alloc (.cells #[.slice none 0 0, .slice none 0 0] 36)) = wz at *
           obtain ⟨z0, z1⟩ := cells2 VZ0.out
           have zf := fun i => frozen_of_row _ _ i _ _ VZ0.out
           refine wpAnyH_ready (rs := [9]) (by kernel_rfl) (by simp) ?_
           refine AllReadyH.cons rfl (fun K hK => ?_) AllReadyH.nil
           have V5 : Hid (((wz.setCell ⟨kz, 0, none⟩ (.slice ra2 n2 rc2)).setCell ⟨kz, 1, none⟩ (.slice la2 l2 lc2)).heap[kz]? = some (.cells #[.slice ra2 n2 rc2, .slice la2 l2 lc2] 36 (0, 0))) := box_put2 VZ0.out
           have G5 : Hid (GQ w ((wz.setCell ⟨kz, 0, none⟩ (.slice ra2 n2 rc2)).setCell ⟨kz, 1, none⟩ (.slice la2 l2 lc2)) #[.int .i64 n, .slice a zl cap, .slice ao ko co, .slice av kv cv, .int .i64 fine] #[.slice ra nr rc, .slice la ln lc]) := (G_z.out.set HZL.out).set HZL.out
           have P5 : Hid (PlanIs ((wz.setCell ⟨kz, 0, none⟩ (.slice ra2 n2 rc2)).setCell ⟨kz, 1, none⟩ (.slice la2 l2 lc2)) ra2 la2 n2 l2 R2 GL) := planIs_box2 HP_z.out VZ0.out
           go_simp
           refine hK.out _ _ ?_ (fun hHeld => ?_)
           · exact ⟨cells5 G5.out.c, cells2 G5.out.p⟩
           clear hK K
           generalize ((wz.setCell ⟨kz, 0, none⟩ (.slice ra2 n2 rc2)).setCell ⟨kz, 1, none⟩ (.slice la2 l2 lc2)) = w6 at *
           refine tkH 10 hHeld ?_
           refine wpAnyH_done (by kernel_rfl) ?_ _
           clear hHeld
           (try go_wp2_with fail)
           go_meet
           exact ⟨kz, ra2, n2, rc2, la2, l2, lc2, R2, rfl, rfl, G5.out, V5.out, P5.out, HX.out⟩
         refine AllReadyH.cons rfl (fun K hK => ?_) AllReadyH.nil
         have G_z : Hid (GQ w (w2.alloc (.cells #[.slice none 0 0, .slice none 0 0] 36)) #[.int .i64 n, .slice a zl cap, .slice ao ko co, .slice av kv cv, .int .i64 fine] #[.slice ra nr rc, .slice la ln lc]) := G_w2.out.below ((Below.refl w2.heap.size w2).alloc (Nat.le_refl _) (.cells #[.slice none 0 0, .slice none 0 0] 36))
         have VZ0 : Hid ((w2.alloc (.cells #[.slice none 0 0, .slice none 0 0] 36)).heap[w2.heap.size]? = some (.cells #[.slice none 0 0, .slice none 0 0] 36 (0, 0))) := heap_alloc_new _ _
         have HZL : Hid (w.heap.size + 3 <= w2.heap.size) := G_w2.out.size
         have CB_z : Hid ((w2.alloc (.cells #[.slice none 0 0, .slice none 0 0] 36)).heap[pc]? = some (.cells #[.int .i64 n, .slice a zl cap, .slice ao ko co, .slice av kv cv, .int .i64 fine] 43 (0, 0))) := below_row ((Below.refl w2.heap.size w2).alloc (Nat.le_refl _) (.cells #[.slice none 0 0, .slice none 0 0] 36)) (row_lt CB_w2.out) CB_w2.out
         go_simp
         refine hK.out _ _ ?_ (fun hHeld => ?_)
         · exact ⟨cells5 G_z.out.c, cells2 G_z.out.p⟩
         clear hK K
         (try simp only [Act.put, List.setIfInBounds_toArray, List.set_cons_zero, List.set_cons_succ])
         obtain ⟨kz, HKZ⟩ : ∃ v, Hid (w2.heap.size = v) := ⟨_, rfl⟩
         rw [HKZ.out] at VZ0 HZL ⊢
         generalize (w2.alloc (.cells #[.slice none 0 0, .slice none 0 0] 36)) = wz at *
         obtain ⟨z0, z1⟩ := cells2 VZ0.out
         have zf := fun i => frozen_of_row _ _ i _ _ VZ0.out
         refine wpAnyH_ready (rs := [4]) (by kernel_rfl) (by simp) ?_
         refine AllReadyH.cons rfl (fun K hK => ?_) AllReadyH.nil
         go_simp
         refine (DJ.out wz pc G_z.out.b CB_z.out).mono ?_
         rintro e w5 ⟨ra2, n2, rc2, la2, l2, lc2, R2, rfl, hb, h5, hpi⟩
         have G_w5 : Hid (GQ w w5 #[.int .i64 n, .slice a zl cap, .slice ao ko co, .slice av kv cv, .int .i64 fine] #[.slice ra nr rc, .slice la ln lc]) := G_z.out.below hb
         have HP_w5 : Hid (PlanIs w5 ra2 la2 n2 l2 R2 GL) := hpi
         have HX : Hid (R2.map RT.key = GR.map RT.key) := h5
         have VZ_w5 : Hid (w5.heap[kz]? = some (.cells #[.slice none 0 0, .slice none 0 0] 36 (0, 0))) := below_row hb (row_lt VZ0.out) VZ0.out
         obtain ⟨z0, z1⟩ := cells2 VZ_w5.out
         have zf := fun i => frozen_of_row _ _ i _ _ VZ_w5.out
         clear hb h5 hpi
         (try go_wp2_with fail)
         refine hK.out _ _ ?_ (fun hHeld => ?_)
         · exact ⟨cells5 G_w5.out.c, cells2 G_w5.out.p⟩
         clear hK K
         (try simp only [Act.put, List.setIfInBounds_toArray, List.set_cons_zero, List.set_cons_succ])
         refine tkH 5 hHeld ?_
         refine tkH 6 hHeld ?_
         refine tkH 7 hHeld ?_
         refine wpAnyH_ready (rs := [9]) (by kernel_rfl) (by simp) ?_
         refine AllReadyH.cons rfl (fun K hK => ?_) AllReadyH.nil
         have V5 : Hid (((w5.setCell ⟨kz, 0, none⟩ (.slice ra2 n2 rc2)).setCell ⟨kz, 1, none⟩ (.slice la2 l2 lc2)).heap[kz]? = some (.cells #[.slice ra2 n2 rc2, .slice la2 l2 lc2] 36 (0, 0))) := box_put2 VZ_w5.out
         have G5 : Hid (GQ w ((w5.setCell ⟨kz, 0, none⟩ (.slice ra2 n2 rc2)).setCell ⟨kz, 1, none⟩ (.slice la2 l2 lc2)) #[.int .i64 n, .slice a zl cap, .slice ao ko co, .slice av kv cv, .int .i64 fine] #[.slice ra nr rc, .slice la ln lc]) := (G_w5.out.set HZL.out).set HZL.out
         have P5 : Hid (PlanIs ((w5.setCell ⟨kz, 0, none⟩ (.slice ra2 n2 rc2)).setCell ⟨kz, 1, none⟩ (.slice la2 l2 lc2)) ra2 la2 n2 l2 R2 GL) := planIs_box2 HP_w5.out VZ_w5.out
         go_simp
         refine hK.out _ _ ?_ (fun hHeld => ?_)
         · exact ⟨cells5 G5.out.c, cells2 G5.out.p⟩
         clear hK K
         generalize ((w5.setCell ⟨kz, 0, none⟩ (.slice ra2 n2 rc2)).setCell ⟨kz, 1, none⟩ (.slice la2 l2 lc2)) = w6 at *
         refine tkH 10 hHeld ?_
         refine wpAnyH_done (by kernel_rfl) ?_ _
         clear hHeld
         (try go_wp2_with fail)
         go_meet
         exact ⟨kz, ra2, n2, rc2, la2, l2, lc2, R2, rfl, rfl, G5.out, V5.out, P5.out, HX.out⟩
       refine AllReadyH.cons rfl (fun K hK => ?_) AllReadyH.nil
       have G_z : Hid (GQ w (wd.alloc (.cells #[.slice none 0 0, .slice none 0 0] 36)) #[.int .i64 n, .slice a zl cap, .slice ao ko co, .slice av kv cv, .int .i64 fine] #[.slice ra nr rc, .slice la ln lc]) := G_d.out.below ((Below.refl wd.heap.size wd).alloc (Nat.le_refl _) (.cells #[.slice none 0 0, .slice none 0 0] 36))
       have VZ0 : Hid ((wd.alloc (.cells #[.slice none 0 0, .slice none 0 0] 36)).heap[wd.heap.size]? = some (.cells #[.slice none 0 0, .slice none 0 0] 36 (0, 0))) := heap_alloc_new _ _
       have HZL : Hid (w.heap.size + 3 <= wd.heap.size) := G_d.out.size
       go_simp
       refine hK.out _ _ ?_ (fun hHeld => ?_)
       · exact ⟨cells5 G_z.out.c, cells2 G_z.out.p⟩
       clear hK K
       (try simp only [Act.put, List.setIfInBounds_toArray, List.set_cons_zero, List.set_cons_succ])
       obtain ⟨kz, HKZ⟩ : ∃ v, Hid (wd.heap.size = v) := ⟨_, rfl⟩
       rw [HKZ.out] at VZ0 HZL ⊢
       generalize (wd.alloc (.cells #[.slice none 0 0, .slice none 0 0] 36)) = wz at *
       obtain ⟨z0, z1⟩ := cells2 VZ0.out
       have zf := fun i => frozen_of_row _ _ i _ _ VZ0.out
       refine wpAnyH_ready (rs := [1]) (by kernel_rfl) (by simp) ?_
       refine AllReadyH.cons rfl (fun K hK => ?_) AllReadyH.nil
       go_simp
       refine (relocations_any _ wz n fine a ao av cap ko co kv cv zl rfl).mono ?_
       rintro e w2 ⟨pc, rfl, hb, hk2⟩
       have G_w2 : Hid (GQ w w2 #[.int .i64 n, .slice a zl cap, .slice ao ko co, .slice av kv cv, .int .i64 fine] #[.slice ra nr rc, .slice la ln lc]) := G_z.out.below hb
       have CB_w2 : Hid (w2.heap[pc]? = some (.cells #[.int .i64 n, .slice a zl cap, .slice ao ko co, .slice av kv cv, .int .i64 fine] 43 (0, 0))) := hk2
       have VZ_w2 : Hid (w2.heap[kz]? = some (.cells #[.slice none 0 0, .slice none 0 0] 36 (0, 0))) := below_row hb (row_lt VZ0.out) VZ0.out
       obtain ⟨z0, z1⟩ := cells2 VZ_w2.out
       have zf := fun i => frozen_of_row _ _ i _ _ VZ_w2.out
       clear hb hk2
       (try go_wp2_with fail)
       refine hK.out _ _ ?_ (fun hHeld => ?_)
       · exact ⟨cells5 G_w2.out.c, cells2 G_w2.out.p⟩
       clear hK K
       (try simp only [Act.put, List.setIfInBounds_toArray, List.set_cons_zero, List.set_cons_succ])
       refine wpAnyH_ready (rs := [4]) (by kernel_rfl) (by simp) ?_
       refine AllReadyH.cons rfl (fun K hK => ?_) AllReadyH.nil
       go_simp
       refine (DJ.out w2 pc G_w2.out.b CB_w2.out).mono ?_
       rintro e w5 ⟨ra2, n2, rc2, la2, l2, lc2, R2, rfl, hb, h5, hpi⟩
       have G_w5 : Hid (GQ w w5 #[.int .i64 n, .slice a zl cap, .slice ao ko co, .slice av kv cv, .int .i64 fine] #[.slice ra nr rc, .slice la ln lc]) := G_w2.out.below hb
       have HP_w5 : Hid (PlanIs w5 ra2 la2 n2 l2 R2 GL) := hpi
       have HX : Hid (R2.map RT.key = GR.map RT.key) := h5
       have VZ_w5 : Hid (w5.heap[kz]? = some (.cells #[.slice none 0 0, .slice none 0 0] 36 (0, 0))) := below_row hb (row_lt VZ_w2.out) VZ_w2.out
       obtain ⟨z0, z1⟩ := cells2 VZ_w5.out
       have zf := fun i => frozen_of_row _ _ i _ _ VZ_w5.out
       clear hb h5 hpi
       (try go_wp2_with fail)
       refine hK.out _ _ ?_ (fun hHeld => ?_)
       · exact ⟨cells5 G_w5.out.c, cells2 G_w5.out.p⟩
       clear hK K
       (try simp only [Act.put, List.setIfInBounds_toArray, List.set_cons_zero, List.set_cons_succ])
       refine tkH 5 hHeld ?_
       refine tkH 6 hHeld ?_
       refine tkH 7 hHeld ?_
       refine wpAnyH_ready (rs := [9]) (by kernel_rfl) (by simp) ?_
       refine AllReadyH.cons rfl (fun K hK => ?_) AllReadyH.nil
       have V5 : Hid (((w5.setCell ⟨kz, 0, none⟩ (.slice ra2 n2 rc2)).setCell ⟨kz, 1, none⟩ (.slice la2 l2 lc2)).heap[kz]? = some (.cells #[.slice ra2 n2 rc2, .slice la2 l2 lc2] 36 (0, 0))) := box_put2 VZ_w5.out
       have G5 : Hid (GQ w ((w5.setCell ⟨kz, 0, none⟩ (.slice ra2 n2 rc2)).setCell ⟨kz, 1, none⟩ (.slice la2 l2 lc2)) #[.int .i64 n, .slice a zl cap, .slice ao ko co, .slice av kv cv, .int .i64 fine] #[.slice ra nr rc, .slice la ln lc]) := (G_w5.out.set HZL.out).set HZL.out
       have P5 : Hid (PlanIs ((w5.setCell ⟨kz, 0, none⟩ (.slice ra2 n2 rc2)).setCell ⟨kz, 1, none⟩ (.slice la2 l2 lc2)) ra2 la2 n2 l2 R2 GL) := planIs_box2 HP_w5.out VZ_w5.out
       go_simp
       refine hK.out _ _ ?_ (fun hHeld => ?_)
       · exact ⟨cells5 G5.out.c, cells2 G5.out.p⟩
       clear hK K
       generalize ((w5.setCell ⟨kz, 0, none⟩ (.slice ra2 n2 rc2)).setCell ⟨kz, 1, none⟩ (.slice la2 l2 lc2)) = w6 at *
       refine tkH 10 hHeld ?_
       refine wpAnyH_done (by kernel_rfl) ?_ _
       clear hHeld
       (try go_wp2_with fail)
       go_meet
       exact ⟨kz, ra2, n2, rc2, la2, l2, lc2, R2, rfl, rfl, G5.out, V5.out, P5.out, HX.out⟩
     case rest =>
       obtain ⟨kz, ra2, n2, rc2, la2, l2, lc2, R2, rfl, rfl, hQ, hz, hpi, h5⟩ := hcut
       have Q3 : Hid (GQ w wc #[.int .i64 n, .slice a zl cap, .slice ao ko co, .slice av kv cv, .int .i64 fine] #[.slice ra nr rc, .slice la ln lc]) := hQ
       have Z3 : Hid (wc.heap[kz]? = some (.cells #[.slice ra2 n2 rc2, .slice la2 l2 lc2] 36 (0, 0))) := hz
       have hk9 : R2.length = GR.length := by have := congrArg List.length h5; simpa using this
       have CC := copyOfPlan_any ra2 la2 rc2 lc2 R2 GL wc hpi.2.2.1 hpi.2.2.2.1 (hpi.2.2.2.2.2.1.imp (fun h => ⟨h.1, hpi.2.1.trans h.2⟩) id) (by have := HGI.out.2.1; omega) (fun r hr => key_in h5 HGI.out.1 r hr) HGI.out.2.2
       have HN2 : Hid (R2.length = n2) := hpi.1
       have HL2 : Hid (GL.length = l2) := hpi.2.1
       rw [HN2.out, HL2.out] at CC
       have HK2 : Hid (R2.map RT.key = GR.map RT.key) := h5
       clear hQ hz hpi h5 Q1 DJ hk9
       obtain ⟨z0, z1⟩ := cells2 Z3.out
       go_wp2_with fail
       refine CC.mono ?_
       rintro e w4 ⟨ra4, rc4, la4, lc4, S4, rfl, hb, hk4, hpo, hap⟩
       rw [HN2.out, HL2.out] at hpo
       rw [HN2.out, HL2.out]
       have Q4 : Hid (GQ w w4 #[.int .i64 n, .slice a zl cap, .slice ao ko co, .slice av kv cv, .int .i64 fine] #[.slice ra nr rc, .slice la ln lc]) := Q3.out.below hb
       have P4 : Hid (PO w4 (w.heap.size + 3) (.slice ra4 n2 rc4) S4 (.slice la4 l2 lc4) GL) := hpo.base (by have := Q3.out.size; omega)
       have HK4 : Hid (S4.map RT.key = GR.map RT.key) := hk4.trans HK2.out
       have HSL : Hid (S4.length = n2) := by have := congrArg List.length hk4; simp only [List.length_map] at this; exact this.trans HN2.out
       have HAP : Hid (Apart S4 la4) := hap
       clear hb hpo hk4 hap CC z0 z1 Z3 Q3
       obtain ⟨a0, a1⟩ := cells2 Q4.out.o
       have af := fun i => frozen_of_row _ _ i _ _ Q4.out.o
       have s1 := heap_setCell_same w4 (w.heap.size + 2) 0 _ _ (Value.slice ra4 n2 rc4) Q4.out.o
       have P5 : Hid (PO ((w4.setCell ⟨w.heap.size + 2, 0, none⟩ (.slice ra4 n2 rc4)).setCell ⟨w.heap.size + 2, 1, none⟩ (.slice la4 l2 lc4)) (w.heap.size + 3) (.slice ra4 n2 rc4) S4 (.slice la4 l2 lc4) GL) := (P4.out.box Q4.out.o).box s1
       have B5 : Hid (Below w.heap.size w ((w4.setCell ⟨w.heap.size + 2, 0, none⟩ (.slice ra4 n2 rc4)).setCell ⟨w.heap.size + 2, 1, none⟩ (.slice la4 l2 lc4))) := (Q4.out.b.setCell (by simp) _).setCell (by simp) _
       clear s1
       go_wp2
       refine bodyPost_ret (v := .tuple #[.agg #[.slice ra4 n2 rc4, .slice la4 l2 lc4], .int .i64 GN]) (by simp [results, Tryz.results20, go_sem, a0, a1]) rfl ?_
       show OwnOkI _ _ _ _ _ _
       exact ⟨ra4, n2, rc4, la4, l2, lc4, S4, rfl, B5.out, HSL.out, HL2.out, HK4.out, P5.out.base (by omega), HAP.out⟩
 · have hpn : (pv != 0) = true := by simp [hpv]
   have B5 : Hid (Below w.heap.size w ((w1.setCell ⟨w.heap.size + 2, 0, none⟩ (.slice none 0 0)).setCell ⟨w.heap.size + 2, 1, none⟩ (.slice none 0 0))) := (Q1.out.b.setCell (by simp) _).setCell (by simp) _
   rw [decide_eq_false hpv, Bool.false_and] at HDB
   obtain ⟨g1, g2, g3⟩ := HNO.out (by rw [HDB.out]; try rfl)
   subst g1 g2 g3
   clear HNO DI
   go_wp2_with (go_at_call 55; refine (within_any _ _ _ _).mono ?_; rintro e w' ⟨rfl, hw'⟩; subst w'; rw [HK1.out])
   refine bodyPost_ret (v := .tuple #[.agg #[.slice none 0 0, .slice none 0 0], .int .i64 (-1)]) (by simp [results, Tryz.results20, go_sem, a0, a1]) rfl ?_
   show OwnOkI _ _ _ _ _ _
   exact ⟨none, 0, 0, none, 0, 0, [], rfl, B5.out, rfl, rfl, rfl, ⟨World.ownsRow_nil _ _ _ _, (fun s hs => by cases hs), World.ownsRow_nil _ _ _ _⟩, Apart.nil _⟩
end Go.Proofs.YtfpegaldloadaaaGreat
