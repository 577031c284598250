import Derived.Test.YtdbdmlabfbmjfaaGreatPack1
import Derived.Test.YtdbdmlabfbmjfaaGreatPack2
import Derived.Test.YtdbdmlabfbmjfaaGreatPack3
import Derived.Test.YtdbdmlabfbmjfaaGreatPack15
import Derived.Test.YtdbdmlabfbmjfaaGreatDrawDest
import Derived.Test.YtdbdmlabfbmjfaaGreatPack37
import Derived.Test.YtdbdmlabfbmjfaaGreatPack40
import Derived.Test.YtdbdmlabfbmjfaaGreatPack41
import Derived.Test.YtdbdmlabfbmjfaaGreatPack43
import Derived.Test.YtdbdmlabfbmjfaaGreatPack45
import Derived.Test.YtdbdmlabfbmjfaaGreatImplCopy
import Derived.Deep.RegionHeld3
import Derived.Deep.CutRange
import Derived.BigQuiet
namespace Go.Proofs.YtdbdmlabfbmjfaaGreat
open Go.RowKit
theorem gq_cells {w W : World} {n fine : Int} {a ao av ra la : Option Addr} {zl cap ko co kv cv nr rc ln lc : Nat} (h : GQ w W #[.int .i64 n, .slice a zl cap, .slice ao ko co, .slice av kv cv, .int .i64 fine] #[.slice ra nr rc, .slice la ln lc]) : W.cell? ⟨w.heap.size, 0, none⟩ = some (.int .i64 n) /\ W.cell? ⟨w.heap.size, 1, none⟩ = some (.slice a zl cap) /\ W.cell? ⟨w.heap.size, 2, none⟩ = some (.slice ao ko co) /\ W.cell? ⟨w.heap.size, 3, none⟩ = some (.slice av kv cv) /\ W.cell? ⟨w.heap.size, 4, none⟩ = some (.int .i64 fine) /\ W.cell? ⟨w.heap.size + 1, 0, none⟩ = some (.slice ra nr rc) /\ W.cell? ⟨w.heap.size + 1, 1, none⟩ = some (.slice la ln lc) := by
 obtain ⟨c0, c1, c2, c3, c4⟩ := cells5 h.c
 obtain ⟨p0, p1⟩ := cells2 h.p
 exact ⟨c0, c1, c2, c3, c4, p0, p1⟩
def OwnOkN (w : World) (v : Int) (f : Bool) (T : List RT) (L : List Int) (e : Ending) (w' : World) : Prop := ∃ ra rn rc la ln lc S, e = .returned (.tuple #[.agg #[.slice ra rn rc, .slice la ln lc], .int .i64 v, .bool f]) /\ Below w.heap.size w w' /\ S.length = rn /\ L.length = ln /\ S.map RT.key = T.map RT.key /\ PO w' w.heap.size (.slice ra rn rc) S (.slice la ln lc) L /\ Apart S la
set_option maxRecDepth 10000 in
set_option maxHeartbeats 4000000 in
theorem implDestroyed_any (sd kk n fine : Int) (a ao av ra la : Option Addr) (zl cap ko co kv cv nr rc ln lc : Nat) (zs os vs L : List Int) (R : List RT) (w : World) (hA : IntsAt w a zs) (hO : IntsAt w ao os) (hV : IntsAt w av vs) (hlz : zs.length = zl) (hlo : os.length = ko * 6) (hlv : vs.length = kv * 5) (hko : ko <= 9223372036854775807) (hkv : kv <= 9223372036854775807) (hP : PlanIs w ra la nr ln R L) (hn : nr <= 1048576) (hi : ∀ r ∈ R, r.ids.length <= 1048576) (hll : ln <= 1048576) (hal : (allTo R R.length).length <= 1048576) (hwl : ∀ x ∈ L, (Lit.int .i64 x).wf = true) :
   Calls Tryz.prog 6 #[.agg #[.int .i64 n, .slice a zl cap, .slice ao ko co, .slice av kv cv, .int .i64 fine], .agg #[.slice ra nr rc, .slice la ln lc], .int .i64 sd, .int .i64 kk] w (OwnOkN w (deN sd kk n fine zs os vs ko kv R L) (deF sd kk n fine zs os vs ko kv R L) (deR sd kk n fine zs os vs ko kv R L) (deL sd kk n fine zs os vs ko kv R L)) := by
 have HA : Hid (IntsAt w a zs) := hA
 have HO : Hid (IntsAt w ao os) := hO
 have HV : Hid (IntsAt w av vs) := hV
 have HLZ : Hid (zs.length = zl) := hlz
 have HLO : Hid (os.length = ko * 6) := hlo
 have HLV : Hid (vs.length = kv * 5) := hlv
 have HP : Hid (PlanIs w ra la nr ln R L) := hP
 have HN : Hid (R.length = nr) := hP.1
 have HM : Hid (L.length = ln) := hP.2.1
 have HI : Hid (∀ r ∈ R, r.ids.length <= 1048576) := hi
 clear hA hO hV hlz hlo hlv hP hi
 obtain ⟨pv, HPV⟩ : ∃ v, Hid (planV n zs os vs ko kv fine R L = v) := ⟨_, rfl⟩
 obtain ⟨k1, HK1⟩ : ∃ v, Hid (inB kk 0 12 = v) := ⟨_, rfl⟩
 obtain ⟨s1, HS1⟩ : ∃ v, Hid (inB sd 0 2147483647 = v) := ⟨_, rfl⟩
 have HDB : Hid (deB sd kk n fine zs os vs ko kv R L = (decide (pv = 0) && (k1 && s1))) := by show _ = _; unfold deB; rw [HPV.out, HK1.out, HS1.out]
 have HNO : Hid (deB sd kk n fine zs os vs ko kv R L = false -> deN sd kk n fine zs os vs ko kv R L = -1 /\ deF sd kk n fine zs os vs ko kv R L = false /\ deR sd kk n fine zs os vs ko kv R L = [] /\ deL sd kk n fine zs os vs ko kv R L = []) := fun h => by
   unfold deN deF deR deL
   rw [h]
   exact ⟨rfl, rfl, rfl, rfl⟩
 have HBD := de_bd sd kk n fine zs os vs ko kv R L
 obtain ⟨GN, HGN⟩ : ∃ v, Hid (deN sd kk n fine zs os vs ko kv R L = v) := ⟨_, rfl⟩
 obtain ⟨GF, HGF⟩ : ∃ v, Hid (deF sd kk n fine zs os vs ko kv R L = v) := ⟨_, rfl⟩
 obtain ⟨GR, HGR⟩ : ∃ v, Hid (deR sd kk n fine zs os vs ko kv R L = v) := ⟨_, rfl⟩
 obtain ⟨GL, HGL⟩ : ∃ v, Hid (deL sd kk n fine zs os vs ko kv R L = v) := ⟨_, rfl⟩
 rw [HGR.out, HGL.out] at HBD
 have HGI : Hid ((∀ r ∈ GR, r.ids ≠ [] /\ r.ids.length <= 12) /\ GR.length <= 500 /\ GL.length <= 500) := HBD
 have DI : Hid (deB sd kk n fine zs os vs ko kv R L = true -> ∀ W (kb cb : Nat), Below w.heap.size w W -> W.cell? ⟨kb, 0, none⟩ = some (.int .i64 kk) -> W.heap[cb]? = some (.cells #[.int .i64 n, .slice a zl cap, .slice ao ko co, .slice av kv cv, .int .i64 fine] 30 (0, 0)) -> Calls Tryz.prog 44 #[.agg #[.slice ra nr rc, .slice la ln lc], .int .i64 sd, .pointer (some ⟨kb, 0, none⟩), .pointer (some ⟨cb, 0, none⟩)] W (DestIs W GN GF GR GL)) := fun hB W kb cb hW h1 h2 => by
   have := destroying_is sd kk n fine a ao av ra la zl cap ko co kv cv nr rc ln lc kb cb zs os vs L R W (HA.out.below hW) (HO.out.below hW) (HV.out.below hW) HLZ.out HLO.out HLV.out hko hkv (HP.out.below hW) hB h1 h2
   rw [HGN.out, HGF.out, HGR.out, HGL.out] at this
   exact this
 rw [HGN.out, HGF.out, HGR.out, HGL.out] at HNO
 rw [HGN.out, HGF.out, HGR.out, HGL.out]
 clear HBD HGN HGF HGR HGL
 have Q0 : Hid (GQ w (((w.alloc (.cells #[.int .i64 n, .slice a zl cap, .slice ao ko co, .slice av kv cv, .int .i64 fine] 30)).alloc (.cells #[.slice ra nr rc, .slice la ln lc] 33)).alloc (.cells #[.slice none 0 0, .slice none 0 0] 33)) #[.int .i64 n, .slice a zl cap, .slice ao ko co, .slice av kv cv, .int .i64 fine] #[.slice ra nr rc, .slice la ln lc]) := by
   refine ⟨(((Below.refl _ _).alloc (Nat.le_refl _) _).alloc (by simp) _).alloc (by simp; omega) _, ?_, ?_, ?_⟩
   · exact (heap_alloc_old _ _ (by simp; omega)).trans (heap_alloc2_old _ _ _)
   · exact (heap_alloc_old _ _ (by simp)).trans (heap_alloc2_new _ _ _)
   · have := heap_alloc_new ((w.alloc (.cells #[.int .i64 n, .slice a zl cap, .slice ao ko co, .slice av kv cv, .int .i64 fine] 30)).alloc (.cells #[.slice ra nr rc, .slice la ln lc] 33)) (.cells #[.slice none 0 0, .slice none 0 0] 33)
     simpa using this
 have PC := implPlan_any n fine a ao av ra la cap ko co kv cv rc lc zs os vs L R (((w.alloc (.cells #[.int .i64 n, .slice a zl cap, .slice ao ko co, .slice av kv cv, .int .i64 fine] 30)).alloc (.cells #[.slice ra nr rc, .slice la ln lc] 33)).alloc (.cells #[.slice none 0 0, .slice none 0 0] 33)) (HA.out.below Q0.out.b) (HO.out.below Q0.out.b) (HV.out.below Q0.out.b) (HP.out.2.2.1.below Q0.out.b) (HP.out.2.2.2.1.below Q0.out.b) HLO.out HLV.out hko hkv (by rw [HN.out]; exact hn) HI.out HP.out.2.2.2.2.2.2 (by rw [HM.out]; exact hll) hal hwl
 rw [HN.out, HM.out, HLZ.out, HPV.out] at PC
 obtain ⟨c0, c1, c2, c3, c4⟩ := cells5 Q0.out.c
 obtain ⟨p0, p1⟩ := cells2 Q0.out.p
 go_enter Tryz.func6, Tryz.ntmps6
 go_wp2_with fail
 generalize ((w.alloc (.cells #[.int .i64 n, .slice a zl cap, .slice ao ko co, .slice av kv cv, .int .i64 fine] 30)).alloc (.cells #[.slice ra nr rc, .slice la ln lc] 33)).alloc (.cells #[.slice none 0 0, .slice none 0 0] 33) = W0 at *
 refine PC.mono ?_
 rintro e w1 ⟨rfl, hb⟩
 have Q1 : Hid (GQ w w1 #[.int .i64 n, .slice a zl cap, .slice ao ko co, .slice av kv cv, .int .i64 fine] #[.slice ra nr rc, .slice la ln lc]) := Q0.out.below hb
 clear hb PC c0 c1 c2 c3 c4 p0 p1 Q0 HPV
 obtain ⟨a0, a1⟩ := cells2 Q1.out.o
 have af := fun i => frozen_of_row _ _ i _ _ Q1.out.o
 by_cases hpv : pv = 0
 · subst hpv
   rw [decide_eq_true rfl, Bool.true_and] at HDB
   cases k1
   · have B5 : Hid (Below w.heap.size w ((w1.setCell ⟨w.heap.size + 2, 0, none⟩ (.slice none 0 0)).setCell ⟨w.heap.size + 2, 1, none⟩ (.slice none 0 0))) := (Q1.out.b.setCell (by simp) _).setCell (by simp) _
     obtain ⟨g1, g2, g3, g4⟩ := HNO.out (by rw [HDB.out]; try rfl)
     subst g1 g2 g3 g4
     clear HNO DI
     go_wp2_with (first | (go_at_call 17; refine (within_any _ _ _ _).mono ?_; rintro e w' ⟨rfl, hw'⟩; subst w'; rw [HK1.out]) | (go_at_call 18; refine (isSeed_any _ _).mono ?_; rintro e w' ⟨rfl, hw'⟩; subst w'; rw [HS1.out]))
     refine bodyPost_ret (v := .tuple #[.agg #[.slice none 0 0, .slice none 0 0], .int .i64 (-1), .bool false]) (by simp [results, Tryz.results6, go_sem, a0, a1]) rfl ?_
     show OwnOkN _ _ _ _ _ _ _
     exact ⟨none, 0, 0, none, 0, 0, [], rfl, B5.out, rfl, rfl, rfl, ⟨World.ownsRow_nil _ _ _ _, (fun s hs => by cases hs), World.ownsRow_nil _ _ _ _⟩, Apart.nil _⟩
   · cases s1
     · have B5 : Hid (Below w.heap.size w ((w1.setCell ⟨w.heap.size + 2, 0, none⟩ (.slice none 0 0)).setCell ⟨w.heap.size + 2, 1, none⟩ (.slice none 0 0))) := (Q1.out.b.setCell (by simp) _).setCell (by simp) _
       obtain ⟨g1, g2, g3, g4⟩ := HNO.out (by rw [HDB.out]; try rfl)
       subst g1 g2 g3 g4
       clear HNO DI
       go_wp2_with (first | (go_at_call 17; refine (within_any _ _ _ _).mono ?_; rintro e w' ⟨rfl, hw'⟩; subst w'; rw [HK1.out]) | (go_at_call 18; refine (isSeed_any _ _).mono ?_; rintro e w' ⟨rfl, hw'⟩; subst w'; rw [HS1.out]))
       refine bodyPost_ret (v := .tuple #[.agg #[.slice none 0 0, .slice none 0 0], .int .i64 (-1), .bool false]) (by simp [results, Tryz.results6, go_sem, a0, a1]) rfl ?_
       show OwnOkN _ _ _ _ _ _ _
       exact ⟨none, 0, 0, none, 0, 0, [], rfl, B5.out, rfl, rfl, rfl, ⟨World.ownsRow_nil _ _ _ _, (fun s hs => by cases hs), World.ownsRow_nil _ _ _ _⟩, Apart.nil _⟩
     · clear HNO
       have DI2 := DI.out HDB.out
       have DJ : Hid _ := DI2
       clear DI DI2 HDB a0 a1 af
       go_upto_region 3 with (first | (go_at_call 17; refine (within_any _ _ _ _).mono ?_; rintro e w' ⟨rfl, hw'⟩; subst w'; rw [HK1.out]) | (go_at_call 18; refine (isSeed_any _ _).mono ?_; rintro e w' ⟨rfl, hw'⟩; subst w'; rw [HS1.out]))
       go_cut [11, 12, 13] from 29 to 38 (fun s11 s12 s13 wx => ∃ (kz : Nat) (ra2 : Option Addr) (n2 rc2 : Nat) (la2 : Option Addr) (l2 lc2 : Nat) (R2 : List RT), s11 = .pointer (some ⟨kz, 0, none⟩) /\ s12 = .int .i64 GN /\ s13 = .bool GF /\ GQ w wx #[.int .i64 n, .slice a zl cap, .slice ao ko co, .slice av kv cv, .int .i64 fine] #[.slice ra nr rc, .slice la ln lc] /\ wx.heap[kz]? = some (.cells #[.slice ra2 n2 rc2, .slice la2 l2 lc2] 33 (0, 0)) /\ RoutesAt wx ra2 R2 /\ R2.length = n2 /\ IntsAt wx la2 GL /\ GL.length = l2 /\ R2.map RT.key = GR.map RT.key /\ ((la2 = none /\ GL.length = 0) ∨ ∃ b off, la2 = some ⟨b, off, none⟩))
       case first =>
         go_wp2_with fail
         refine wp_region_held_drew (S := (fun W => W.cell? ⟨w.heap.size, 0, none⟩ = some (.int .i64 n) /\ W.cell? ⟨w.heap.size, 1, none⟩ = some (.slice a zl cap) /\ W.cell? ⟨w.heap.size, 2, none⟩ = some (.slice ao ko co) /\ W.cell? ⟨w.heap.size, 3, none⟩ = some (.slice av kv cv) /\ W.cell? ⟨w.heap.size, 4, none⟩ = some (.int .i64 fine) /\ W.cell? ⟨w.heap.size + 1, 0, none⟩ = some (.slice ra nr rc) /\ W.cell? ⟨w.heap.size + 1, 1, none⟩ = some (.slice la ln lc))) (by kernel_rfl) ?_ (fun hHeld => ?_)
         · exact gq_cells (Q1.out.below (Below.refl _ _).drew)
         have G_d : Hid (GQ w w1.drew #[.int .i64 n, .slice a zl cap, .slice ao ko co, .slice av kv cv, .int .i64 fine] #[.slice ra nr rc, .slice la ln lc]) := Q1.out.below (Below.refl _ _).drew
         generalize w1.drew = wd at *
         refine tkH 0 hHeld ?_
         refine tkH 1 hHeld ?_
         refine tkH 3 hHeld ?_
         refine tkH 4 hHeld ?_
         refine wpAnyH_ready (rs := [2, 10]) (by kernel_rfl) (by simp) ?_
         refine AllReadyH.cons rfl (fun K hK => ?_) ?_
         · skip
           go_simp
           refine (destroyF_any n fine kk a ao av zl cap ko co kv cv wd).mono ?_
           rintro e w2 ⟨kb, cb, rfl, hb, hk1, hk2⟩
           have G_w2 : Hid (GQ w w2 #[.int .i64 n, .slice a zl cap, .slice ao ko co, .slice av kv cv, .int .i64 fine] #[.slice ra nr rc, .slice la ln lc]) := G_d.out.below hb
           have KB_w2 : Hid (w2.cell? ⟨kb, 0, none⟩ = some (.int .i64 kk)) := hk1
           have CB_w2 : Hid (w2.heap[cb]? = some (.cells #[.int .i64 n, .slice a zl cap, .slice ao ko co, .slice av kv cv, .int .i64 fine] 30 (0, 0))) := hk2
           clear hb hk1 hk2
           (try go_wp2_with fail)
           refine hK.out _ _ ?_ (fun hHeld => ?_)
           · exact gq_cells G_w2.out
           clear hK K
           (try simp only [Act.put, List.setIfInBounds_toArray, List.set_cons_zero, List.set_cons_succ])
           refine wpAnyH_ready (rs := [5, 10]) (by kernel_rfl) (by simp) ?_
           refine AllReadyH.cons rfl (fun K hK => ?_) ?_
           · skip
             go_simp
             refine (DJ.out w2 kb cb G_w2.out.b KB_w2.out CB_w2.out).mono ?_
             rintro e w5 ⟨ra2, n2, rc2, la2, l2, lc2, R2, rfl, hb, h1, h2, h3, h4, h5, h6⟩
             have G_w5 : Hid (GQ w w5 #[.int .i64 n, .slice a zl cap, .slice ao ko co, .slice av kv cv, .int .i64 fine] #[.slice ra nr rc, .slice la ln lc]) := G_w2.out.below hb
             have HR_w5 : Hid (RoutesAt w5 ra2 R2) := h1
             have HL_w5 : Hid (IntsAt w5 la2 GL) := h3
             have HX : Hid (R2.length = n2 /\ GL.length = l2 /\ R2.map RT.key = GR.map RT.key /\ ((la2 = none /\ GL.length = 0) ∨ ∃ b off, la2 = some ⟨b, off, none⟩)) := ⟨h2, h4, h5, h6⟩
             clear hb h1 h2 h3 h4 h5 h6
             (try go_wp2_with fail)
             refine hK.out _ _ ?_ (fun hHeld => ?_)
             · exact gq_cells G_w5.out
             clear hK K
             (try simp only [Act.put, List.setIfInBounds_toArray, List.set_cons_zero, List.set_cons_succ])
             refine tkH 6 hHeld ?_
             refine tkH 7 hHeld ?_
             refine tkH 8 hHeld ?_
             refine tkH 9 hHeld ?_
             refine wpAnyH_ready (rs := [10]) (by kernel_rfl) (by simp) ?_
             refine AllReadyH.cons rfl (fun K hK => ?_) AllReadyH.nil
             have G_z : Hid (GQ w (w5.alloc (.cells #[.slice none 0 0, .slice none 0 0] 33)) #[.int .i64 n, .slice a zl cap, .slice ao ko co, .slice av kv cv, .int .i64 fine] #[.slice ra nr rc, .slice la ln lc]) := G_w5.out.below ((Below.refl w5.heap.size w5).alloc (Nat.le_refl _) (.cells #[.slice none 0 0, .slice none 0 0] 33))
             have VZ0 : Hid ((w5.alloc (.cells #[.slice none 0 0, .slice none 0 0] 33)).heap[w5.heap.size]? = some (.cells #[.slice none 0 0, .slice none 0 0] 33 (0, 0))) := heap_alloc_new _ _
             have HZL : Hid (w.heap.size + 3 <= w5.heap.size) := G_w5.out.size
             have HR_z : Hid (RoutesAt (w5.alloc (.cells #[.slice none 0 0, .slice none 0 0] 33)) ra2 R2) := HR_w5.out.below ((Below.refl w5.heap.size w5).alloc (Nat.le_refl _) (.cells #[.slice none 0 0, .slice none 0 0] 33))
             have HL_z : Hid (IntsAt (w5.alloc (.cells #[.slice none 0 0, .slice none 0 0] 33)) la2 GL) := HL_w5.out.below ((Below.refl w5.heap.size w5).alloc (Nat.le_refl _) (.cells #[.slice none 0 0, .slice none 0 0] 33))
             go_simp
             refine hK.out _ _ ?_ (fun hHeld => ?_)
             · exact gq_cells G_z.out
             clear hK K
             (try simp only [Act.put, List.setIfInBounds_toArray, List.set_cons_zero, List.set_cons_succ])
             obtain ⟨kz, HKZ⟩ : ∃ v, Hid (w5.heap.size = v) := ⟨_, rfl⟩
             rw [HKZ.out] at VZ0 HZL ⊢
             generalize (w5.alloc (.cells #[.slice none 0 0, .slice none 0 0] 33)) = wz at *
             obtain ⟨z0, z1⟩ := cells2 VZ0.out
             have zf := fun i => frozen_of_row _ _ i _ _ VZ0.out
             refine wpAnyH_ready (rs := [11]) (by kernel_rfl) (by simp) ?_
             refine AllReadyH.cons rfl (fun K hK => ?_) AllReadyH.nil
             have s1 := heap_setCell_same wz kz 0 _ _ (Value.slice ra2 n2 rc2) VZ0.out
             simp only [List.setIfInBounds_toArray, List.set_cons_zero] at s1
             have V5 : Hid (((wz.setCell ⟨kz, 0, none⟩ (.slice ra2 n2 rc2)).setCell ⟨kz, 1, none⟩ (.slice la2 l2 lc2)).heap[kz]? = some (.cells #[.slice ra2 n2 rc2, .slice la2 l2 lc2] 33 (0, 0))) := by
               have s2 := heap_setCell_same _ kz 1 _ _ (Value.slice la2 l2 lc2) s1
               simp at s2
               exact s2
             have G5 : Hid (GQ w ((wz.setCell ⟨kz, 0, none⟩ (.slice ra2 n2 rc2)).setCell ⟨kz, 1, none⟩ (.slice la2 l2 lc2)) #[.int .i64 n, .slice a zl cap, .slice ao ko co, .slice av kv cv, .int .i64 fine] #[.slice ra nr rc, .slice la ln lc]) := (G_z.out.set HZL.out).set HZL.out
             have R5 : Hid (RoutesAt ((wz.setCell ⟨kz, 0, none⟩ (.slice ra2 n2 rc2)).setCell ⟨kz, 1, none⟩ (.slice la2 l2 lc2)) ra2 R2) := routes_boxL (routes_boxL HR_z.out VZ0.out 0 _) s1 1 _
             have L5 : Hid (IntsAt ((wz.setCell ⟨kz, 0, none⟩ (.slice ra2 n2 rc2)).setCell ⟨kz, 1, none⟩ (.slice la2 l2 lc2)) la2 GL) := ints_boxL (ints_boxL HL_z.out VZ0.out 0 _) s1 1 _
             clear s1
             go_simp
             refine hK.out _ _ ?_ (fun hHeld => ?_)
             · exact gq_cells G5.out
             clear hK K
             generalize ((wz.setCell ⟨kz, 0, none⟩ (.slice ra2 n2 rc2)).setCell ⟨kz, 1, none⟩ (.slice la2 l2 lc2)) = w6 at *
             refine tkH 12 hHeld ?_
             refine tkH 13 hHeld ?_
             refine wpAnyH_done (by kernel_rfl) ?_ _
             clear hHeld
             (try go_wp2_with fail)
             go_meet
             exact ⟨kz, ra2, n2, rc2, la2, l2, lc2, R2, rfl, rfl, rfl, G5.out, V5.out, R5.out, HX.out.1, L5.out, HX.out.2.1, HX.out.2.2.1, HX.out.2.2.2⟩
           refine AllReadyH.cons rfl (fun K hK => ?_) AllReadyH.nil
           have G_z : Hid (GQ w (w2.alloc (.cells #[.slice none 0 0, .slice none 0 0] 33)) #[.int .i64 n, .slice a zl cap, .slice ao ko co, .slice av kv cv, .int .i64 fine] #[.slice ra nr rc, .slice la ln lc]) := G_w2.out.below ((Below.refl w2.heap.size w2).alloc (Nat.le_refl _) (.cells #[.slice none 0 0, .slice none 0 0] 33))
           have VZ0 : Hid ((w2.alloc (.cells #[.slice none 0 0, .slice none 0 0] 33)).heap[w2.heap.size]? = some (.cells #[.slice none 0 0, .slice none 0 0] 33 (0, 0))) := heap_alloc_new _ _
           have HZL : Hid (w.heap.size + 3 <= w2.heap.size) := G_w2.out.size
           have KB_z : Hid (World.cell? (w2.alloc (.cells #[.slice none 0 0, .slice none 0 0] 33)) ⟨kb, 0, none⟩ = some (.int .i64 kk)) := keepL KB_w2.out ((Below.refl w2.heap.size w2).alloc (Nat.le_refl _) (.cells #[.slice none 0 0, .slice none 0 0] 33))
           have CB_z : Hid ((w2.alloc (.cells #[.slice none 0 0, .slice none 0 0] 33)).heap[cb]? = some (.cells #[.int .i64 n, .slice a zl cap, .slice ao ko co, .slice av kv cv, .int .i64 fine] 30 (0, 0))) := below_row ((Below.refl w2.heap.size w2).alloc (Nat.le_refl _) (.cells #[.slice none 0 0, .slice none 0 0] 33)) (row_lt CB_w2.out) CB_w2.out
           go_simp
           refine hK.out _ _ ?_ (fun hHeld => ?_)
           · exact gq_cells G_z.out
           clear hK K
           (try simp only [Act.put, List.setIfInBounds_toArray, List.set_cons_zero, List.set_cons_succ])
           obtain ⟨kz, HKZ⟩ : ∃ v, Hid (w2.heap.size = v) := ⟨_, rfl⟩
           rw [HKZ.out] at VZ0 HZL ⊢
           generalize (w2.alloc (.cells #[.slice none 0 0, .slice none 0 0] 33)) = wz at *
           obtain ⟨z0, z1⟩ := cells2 VZ0.out
           have zf := fun i => frozen_of_row _ _ i _ _ VZ0.out
           refine wpAnyH_ready (rs := [5]) (by kernel_rfl) (by simp) ?_
           refine AllReadyH.cons rfl (fun K hK => ?_) AllReadyH.nil
           go_simp
           refine (DJ.out wz kb cb G_z.out.b KB_z.out CB_z.out).mono ?_
           rintro e w5 ⟨ra2, n2, rc2, la2, l2, lc2, R2, rfl, hb, h1, h2, h3, h4, h5, h6⟩
           have G_w5 : Hid (GQ w w5 #[.int .i64 n, .slice a zl cap, .slice ao ko co, .slice av kv cv, .int .i64 fine] #[.slice ra nr rc, .slice la ln lc]) := G_z.out.below hb
           have HR_w5 : Hid (RoutesAt w5 ra2 R2) := h1
           have HL_w5 : Hid (IntsAt w5 la2 GL) := h3
           have HX : Hid (R2.length = n2 /\ GL.length = l2 /\ R2.map RT.key = GR.map RT.key /\ ((la2 = none /\ GL.length = 0) ∨ ∃ b off, la2 = some ⟨b, off, none⟩)) := ⟨h2, h4, h5, h6⟩
           have VZ_w5 : Hid (w5.heap[kz]? = some (.cells #[.slice none 0 0, .slice none 0 0] 33 (0, 0))) := below_row hb (row_lt VZ0.out) VZ0.out
           obtain ⟨z0, z1⟩ := cells2 VZ_w5.out
           have zf := fun i => frozen_of_row _ _ i _ _ VZ_w5.out
           clear hb h1 h2 h3 h4 h5 h6
           (try go_wp2_with fail)
           refine hK.out _ _ ?_ (fun hHeld => ?_)
           · exact gq_cells G_w5.out
           clear hK K
           (try simp only [Act.put, List.setIfInBounds_toArray, List.set_cons_zero, List.set_cons_succ])
           refine tkH 6 hHeld ?_
           refine tkH 7 hHeld ?_
           refine tkH 8 hHeld ?_
           refine tkH 9 hHeld ?_
           refine wpAnyH_ready (rs := [11]) (by kernel_rfl) (by simp) ?_
           refine AllReadyH.cons rfl (fun K hK => ?_) AllReadyH.nil
           have s1 := heap_setCell_same w5 kz 0 _ _ (Value.slice ra2 n2 rc2) VZ_w5.out
           simp only [List.setIfInBounds_toArray, List.set_cons_zero] at s1
           have V5 : Hid (((w5.setCell ⟨kz, 0, none⟩ (.slice ra2 n2 rc2)).setCell ⟨kz, 1, none⟩ (.slice la2 l2 lc2)).heap[kz]? = some (.cells #[.slice ra2 n2 rc2, .slice la2 l2 lc2] 33 (0, 0))) := by
             have s2 := heap_setCell_same _ kz 1 _ _ (Value.slice la2 l2 lc2) s1
             simp at s2
             exact s2
           have G5 : Hid (GQ w ((w5.setCell ⟨kz, 0, none⟩ (.slice ra2 n2 rc2)).setCell ⟨kz, 1, none⟩ (.slice la2 l2 lc2)) #[.int .i64 n, .slice a zl cap, .slice ao ko co, .slice av kv cv, .int .i64 fine] #[.slice ra nr rc, .slice la ln lc]) := (G_w5.out.set HZL.out).set HZL.out
           have R5 : Hid (RoutesAt ((w5.setCell ⟨kz, 0, none⟩ (.slice ra2 n2 rc2)).setCell ⟨kz, 1, none⟩ (.slice la2 l2 lc2)) ra2 R2) := routes_boxL (routes_boxL HR_w5.out VZ_w5.out 0 _) s1 1 _
           have L5 : Hid (IntsAt ((w5.setCell ⟨kz, 0, none⟩ (.slice ra2 n2 rc2)).setCell ⟨kz, 1, none⟩ (.slice la2 l2 lc2)) la2 GL) := ints_boxL (ints_boxL HL_w5.out VZ_w5.out 0 _) s1 1 _
           clear s1
           go_simp
           refine hK.out _ _ ?_ (fun hHeld => ?_)
           · exact gq_cells G5.out
           clear hK K
           generalize ((w5.setCell ⟨kz, 0, none⟩ (.slice ra2 n2 rc2)).setCell ⟨kz, 1, none⟩ (.slice la2 l2 lc2)) = w6 at *
           refine tkH 12 hHeld ?_
           refine tkH 13 hHeld ?_
           refine wpAnyH_done (by kernel_rfl) ?_ _
           clear hHeld
           (try go_wp2_with fail)
           go_meet
           exact ⟨kz, ra2, n2, rc2, la2, l2, lc2, R2, rfl, rfl, rfl, G5.out, V5.out, R5.out, HX.out.1, L5.out, HX.out.2.1, HX.out.2.2.1, HX.out.2.2.2⟩
         refine AllReadyH.cons rfl (fun K hK => ?_) AllReadyH.nil
         have G_z : Hid (GQ w (wd.alloc (.cells #[.slice none 0 0, .slice none 0 0] 33)) #[.int .i64 n, .slice a zl cap, .slice ao ko co, .slice av kv cv, .int .i64 fine] #[.slice ra nr rc, .slice la ln lc]) := G_d.out.below ((Below.refl wd.heap.size wd).alloc (Nat.le_refl _) (.cells #[.slice none 0 0, .slice none 0 0] 33))
         have VZ0 : Hid ((wd.alloc (.cells #[.slice none 0 0, .slice none 0 0] 33)).heap[wd.heap.size]? = some (.cells #[.slice none 0 0, .slice none 0 0] 33 (0, 0))) := heap_alloc_new _ _
         have HZL : Hid (w.heap.size + 3 <= wd.heap.size) := G_d.out.size
         go_simp
         refine hK.out _ _ ?_ (fun hHeld => ?_)
         · exact gq_cells G_z.out
         clear hK K
         (try simp only [Act.put, List.setIfInBounds_toArray, List.set_cons_zero, List.set_cons_succ])
         obtain ⟨kz, HKZ⟩ : ∃ v, Hid (wd.heap.size = v) := ⟨_, rfl⟩
         rw [HKZ.out] at VZ0 HZL ⊢
         generalize (wd.alloc (.cells #[.slice none 0 0, .slice none 0 0] 33)) = wz at *
         obtain ⟨z0, z1⟩ := cells2 VZ0.out
         have zf := fun i => frozen_of_row _ _ i _ _ VZ0.out
         refine wpAnyH_ready (rs := [2]) (by kernel_rfl) (by simp) ?_
         refine AllReadyH.cons rfl (fun K hK => ?_) AllReadyH.nil
         go_simp
         refine (destroyF_any n fine kk a ao av zl cap ko co kv cv wz).mono ?_
         rintro e w2 ⟨kb, cb, rfl, hb, hk1, hk2⟩
         have G_w2 : Hid (GQ w w2 #[.int .i64 n, .slice a zl cap, .slice ao ko co, .slice av kv cv, .int .i64 fine] #[.slice ra nr rc, .slice la ln lc]) := G_z.out.below hb
         have KB_w2 : Hid (w2.cell? ⟨kb, 0, none⟩ = some (.int .i64 kk)) := hk1
         have CB_w2 : Hid (w2.heap[cb]? = some (.cells #[.int .i64 n, .slice a zl cap, .slice ao ko co, .slice av kv cv, .int .i64 fine] 30 (0, 0))) := hk2
         have VZ_w2 : Hid (w2.heap[kz]? = some (.cells #[.slice none 0 0, .slice none 0 0] 33 (0, 0))) := below_row hb (row_lt VZ0.out) VZ0.out
         obtain ⟨z0, z1⟩ := cells2 VZ_w2.out
         have zf := fun i => frozen_of_row _ _ i _ _ VZ_w2.out
         clear hb hk1 hk2
         (try go_wp2_with fail)
         refine hK.out _ _ ?_ (fun hHeld => ?_)
         · exact gq_cells G_w2.out
         clear hK K
         (try simp only [Act.put, List.setIfInBounds_toArray, List.set_cons_zero, List.set_cons_succ])
         refine wpAnyH_ready (rs := [5]) (by kernel_rfl) (by simp) ?_
         refine AllReadyH.cons rfl (fun K hK => ?_) AllReadyH.nil
         go_simp
         refine (DJ.out w2 kb cb G_w2.out.b KB_w2.out CB_w2.out).mono ?_
         rintro e w5 ⟨ra2, n2, rc2, la2, l2, lc2, R2, rfl, hb, h1, h2, h3, h4, h5, h6⟩
         have G_w5 : Hid (GQ w w5 #[.int .i64 n, .slice a zl cap, .slice ao ko co, .slice av kv cv, .int .i64 fine] #[.slice ra nr rc, .slice la ln lc]) := G_w2.out.below hb
         have HR_w5 : Hid (RoutesAt w5 ra2 R2) := h1
         have HL_w5 : Hid (IntsAt w5 la2 GL) := h3
         have HX : Hid (R2.length = n2 /\ GL.length = l2 /\ R2.map RT.key = GR.map RT.key /\ ((la2 = none /\ GL.length = 0) ∨ ∃ b off, la2 = some ⟨b, off, none⟩)) := ⟨h2, h4, h5, h6⟩
         have VZ_w5 : Hid (w5.heap[kz]? = some (.cells #[.slice none 0 0, .slice none 0 0] 33 (0, 0))) := below_row hb (row_lt VZ_w2.out) VZ_w2.out
         obtain ⟨z0, z1⟩ := cells2 VZ_w5.out
         have zf := fun i => frozen_of_row _ _ i _ _ VZ_w5.out
         clear hb h1 h2 h3 h4 h5 h6
         (try go_wp2_with fail)
         refine hK.out _ _ ?_ (fun hHeld => ?_)
         · exact gq_cells G_w5.out
         clear hK K
         (try simp only [Act.put, List.setIfInBounds_toArray, List.set_cons_zero, List.set_cons_succ])
         refine tkH 6 hHeld ?_
         refine tkH 7 hHeld ?_
         refine tkH 8 hHeld ?_
         refine tkH 9 hHeld ?_
         refine wpAnyH_ready (rs := [11]) (by kernel_rfl) (by simp) ?_
         refine AllReadyH.cons rfl (fun K hK => ?_) AllReadyH.nil
         have s1 := heap_setCell_same w5 kz 0 _ _ (Value.slice ra2 n2 rc2) VZ_w5.out
         simp only [List.setIfInBounds_toArray, List.set_cons_zero] at s1
         have V5 : Hid (((w5.setCell ⟨kz, 0, none⟩ (.slice ra2 n2 rc2)).setCell ⟨kz, 1, none⟩ (.slice la2 l2 lc2)).heap[kz]? = some (.cells #[.slice ra2 n2 rc2, .slice la2 l2 lc2] 33 (0, 0))) := by
           have s2 := heap_setCell_same _ kz 1 _ _ (Value.slice la2 l2 lc2) s1
           simp at s2
           exact s2
         have G5 : Hid (GQ w ((w5.setCell ⟨kz, 0, none⟩ (.slice ra2 n2 rc2)).setCell ⟨kz, 1, none⟩ (.slice la2 l2 lc2)) #[.int .i64 n, .slice a zl cap, .slice ao ko co, .slice av kv cv, .int .i64 fine] #[.slice ra nr rc, .slice la ln lc]) := (G_w5.out.set HZL.out).set HZL.out
         have R5 : Hid (RoutesAt ((w5.setCell ⟨kz, 0, none⟩ (.slice ra2 n2 rc2)).setCell ⟨kz, 1, none⟩ (.slice la2 l2 lc2)) ra2 R2) := routes_boxL (routes_boxL HR_w5.out VZ_w5.out 0 _) s1 1 _
         have L5 : Hid (IntsAt ((w5.setCell ⟨kz, 0, none⟩ (.slice ra2 n2 rc2)).setCell ⟨kz, 1, none⟩ (.slice la2 l2 lc2)) la2 GL) := ints_boxL (ints_boxL HL_w5.out VZ_w5.out 0 _) s1 1 _
         clear s1
         go_simp
         refine hK.out _ _ ?_ (fun hHeld => ?_)
         · exact gq_cells G5.out
         clear hK K
         generalize ((w5.setCell ⟨kz, 0, none⟩ (.slice ra2 n2 rc2)).setCell ⟨kz, 1, none⟩ (.slice la2 l2 lc2)) = w6 at *
         refine tkH 12 hHeld ?_
         refine tkH 13 hHeld ?_
         refine wpAnyH_done (by kernel_rfl) ?_ _
         clear hHeld
         (try go_wp2_with fail)
         go_meet
         exact ⟨kz, ra2, n2, rc2, la2, l2, lc2, R2, rfl, rfl, rfl, G5.out, V5.out, R5.out, HX.out.1, L5.out, HX.out.2.1, HX.out.2.2.1, HX.out.2.2.2⟩
       case rest =>
         obtain ⟨kz, ra2, n2, rc2, la2, l2, lc2, R2, rfl, rfl, rfl, hQ, hz, h1, h2, h3, h4, h5, h6⟩ := hcut
         have Q3 : Hid (GQ w wc #[.int .i64 n, .slice a zl cap, .slice ao ko co, .slice av kv cv, .int .i64 fine] #[.slice ra nr rc, .slice la ln lc]) := hQ
         have Z3 : Hid (wc.heap[kz]? = some (.cells #[.slice ra2 n2 rc2, .slice la2 l2 lc2] 33 (0, 0))) := hz
         have hk9 : R2.length = GR.length := by have := congrArg List.length h5; simpa using this
         have CC := copyOfPlan_any ra2 la2 rc2 lc2 R2 GL wc h1 h3 h6 (by have := HGI.out.2.1; omega) (fun r hr => key_in h5 HGI.out.1 r hr) HGI.out.2.2
         rw [h2, h4] at CC
         have HK2 : Hid (R2.map RT.key = GR.map RT.key) := h5
         have HN2 : Hid (R2.length = n2) := h2
         have HL2 : Hid (GL.length = l2) := h4
         clear hQ hz h1 h2 h3 h4 h5 h6 Q1 DJ hk9
         obtain ⟨z0, z1⟩ := cells2 Z3.out
         go_wp2_with fail
         refine CC.mono ?_
         rintro e w4 ⟨ra4, rc4, la4, lc4, S4, rfl, hb, hk4, hpo, hap⟩
         rw [HN2.out, HL2.out] at hpo
         rw [HN2.out, HL2.out]
         have Q4 : Hid (GQ w w4 #[.int .i64 n, .slice a zl cap, .slice ao ko co, .slice av kv cv, .int .i64 fine] #[.slice ra nr rc, .slice la ln lc]) := Q3.out.below hb
         have P4 : Hid (PO w4 (w.heap.size + 3) (.slice ra4 n2 rc4) S4 (.slice la4 l2 lc4) GL) := hpo.base (by have := Q3.out.size; omega)
         have HK4 : Hid (S4.map RT.key = GR.map RT.key) := hk4.trans HK2.out
         have HSL : Hid (S4.length = n2) := by have := congrArg List.length hk4; simp only [List.length_map] at this; exact this.trans HN2.out
         have HAP : Hid (Apart S4 la4) := hap
         clear hb hpo hk4 hap CC z0 z1 Z3 Q3
         obtain ⟨a0, a1⟩ := cells2 Q4.out.o
         have af := fun i => frozen_of_row _ _ i _ _ Q4.out.o
         have s1 := heap_setCell_same w4 (w.heap.size + 2) 0 _ _ (Value.slice ra4 n2 rc4) Q4.out.o
         have P5 : Hid (PO ((w4.setCell ⟨w.heap.size + 2, 0, none⟩ (.slice ra4 n2 rc4)).setCell ⟨w.heap.size + 2, 1, none⟩ (.slice la4 l2 lc4)) (w.heap.size + 3) (.slice ra4 n2 rc4) S4 (.slice la4 l2 lc4) GL) := (P4.out.box Q4.out.o).box s1
         have B5 : Hid (Below w.heap.size w ((w4.setCell ⟨w.heap.size + 2, 0, none⟩ (.slice ra4 n2 rc4)).setCell ⟨w.heap.size + 2, 1, none⟩ (.slice la4 l2 lc4))) := (Q4.out.b.setCell (by simp) _).setCell (by simp) _
         clear s1
         go_wp2
         refine bodyPost_ret (v := .tuple #[.agg #[.slice ra4 n2 rc4, .slice la4 l2 lc4], .int .i64 GN, .bool GF]) (by simp [results, Tryz.results6, go_sem, a0, a1]) rfl ?_
         show OwnOkN _ _ _ _ _ _ _
         exact ⟨ra4, n2, rc4, la4, l2, lc4, S4, rfl, B5.out, HSL.out, HL2.out, HK4.out, P5.out.base (by omega), HAP.out⟩
 · have hpn : (pv != 0) = true := by simp [hpv]
   have B5 : Hid (Below w.heap.size w ((w1.setCell ⟨w.heap.size + 2, 0, none⟩ (.slice none 0 0)).setCell ⟨w.heap.size + 2, 1, none⟩ (.slice none 0 0))) := (Q1.out.b.setCell (by simp) _).setCell (by simp) _
   rw [decide_eq_false hpv, Bool.false_and] at HDB
   obtain ⟨g1, g2, g3, g4⟩ := HNO.out (by rw [HDB.out]; try rfl)
   subst g1 g2 g3 g4
   clear HNO DI
   go_wp2_with (first | (go_at_call 17; refine (within_any _ _ _ _).mono ?_; rintro e w' ⟨rfl, hw'⟩; subst w'; rw [HK1.out]) | (go_at_call 18; refine (isSeed_any _ _).mono ?_; rintro e w' ⟨rfl, hw'⟩; subst w'; rw [HS1.out]))
   refine bodyPost_ret (v := .tuple #[.agg #[.slice none 0 0, .slice none 0 0], .int .i64 (-1), .bool false]) (by simp [results, Tryz.results6, go_sem, a0, a1]) rfl ?_
   show OwnOkN _ _ _ _ _ _ _
   exact ⟨none, 0, 0, none, 0, 0, [], rfl, B5.out, rfl, rfl, rfl, ⟨World.ownsRow_nil _ _ _ _, (fun s hs => by cases hs), World.ownsRow_nil _ _ _ _⟩, Apart.nil _⟩
set_option maxHeartbeats 400000 in
theorem lawFnDestroyed_big (a : Option Addr) (c len : Nat) (w : World) (hl : len <= 9223372036854775807) (h : 1048576 < len) :
   Calls Tryz.prog 3 #[.slice a len c] w fun e w' => e = .returned (.bool true) /\ Below w.heap.size w w' := by
 have hd : decide (1048576 < len) = true := decide_eq_true h
 go_enter Tryz.func3, Tryz.ntmps3
 go_wp2_with (go_at_call 4; refine (big_any a c len w hl).mono ?_; rintro e w1 ⟨rfl, hw1⟩; subst w1; rw [hd])
 go_ret
 exact ⟨rfl, Below.refl _ _⟩
theorem wf_range {L : List Int} (h : ∀ x ∈ L, -9223372036854775808 <= x /\ x < 9223372036854775808) : ∀ x ∈ L, (Lit.int .i64 x).wf = true := fun x hx => by
 have := h x hx
 show (decide (IntKind.i64.min <= x) && decide (x <= IntKind.i64.max)) = true
 have h1 : IntKind.i64.min = -9223372036854775808 := by decide
 have h2 : IntKind.i64.max = 9223372036854775807 := by decide
 rw [h1, h2]
 simp
 omega
set_option maxRecDepth 10000 in
set_option maxHeartbeats 4000000 in
theorem lawFnDestroyed_small (a : Option Addr) (ca : Nat) (bs : List Int) (w : World) (hA : CodeAt w a bs) (hl : bs.length <= 1048576) :
   Calls Tryz.prog 3 #[.slice a bs.length ca] w fun e w' => e = .returned (.bool true) /\ Below w.heap.size w w' := by
 have HA : Hid (CodeAt w a bs) := hA
 clear hA
 have hd : decide (1048576 < bs.length) = false := decide_eq_false (by omega)
 go_enter Tryz.func3, Tryz.ntmps3
 go_wp2_with fail
 refine (big_any a ca bs.length w (by omega)).mono ?_
 rintro e w1 ⟨rfl, hw1⟩
 subst w1
 rw [hd]
 clear hd
 go_wp2_with fail
 refine (drawDest_any a ca bs w HA.out hl).mono ?_
 rintro e w1 ⟨n, g, zl, cg, go, ko, co, gv, kv, cv, zs, O, V, fi, rs, ls, R, L, sd, kk, rfl, ⟨hz, hO, hV, hko1, hko5, hkv1, hkv3⟩, ⟨hR10, hR9, hL14, hLw⟩, hb, iz, io, iv, hpo⟩
 obtain ⟨N, HLb⟩ : ∃ v, Hid (bs.length = v) := ⟨_, rfl⟩
 rw [HLb.out] at hl ⊢
 have hka := own_kinds hpo.r
 have hkb := own_kinds hpo.l
 obtain ⟨ra, rc, e⟩ := own_any hpo.r
 subst e
 obtain ⟨la, lc, e⟩ := own_any hpo.l
 subst e
 have HZ : Hid (zs.length = zl) := hz
 have HO : Hid (O.length = ko * 6) := hO
 have HV : Hid (V.length = kv * 5) := hV
 have HRC : Hid (∀ r ∈ R, r.ids.length <= r.c) := fun r hr => (hpo.ints r hr).2
 have HRI : Hid (∀ r ∈ R, r.ids.length <= 9) := hR9
 have HAL : Hid ((allTo R R.length).length <= 1048576) := Nat.le_trans (allTo_bd hR9 _ (Nat.le_refl _)) (by omega)
 have HLW : Hid (∀ x ∈ L, (Lit.int .i64 x).wf = true) := wf_range hLw
 have RA : RoutesAt w1 ra R := hpo.at
 have LA : IntsAt w1 la L := by
   obtain ⟨a', c', e, hi⟩ := hpo.lv
   have e2 : la = a' := by injection e
   rw [e2]; exact hi
 obtain ⟨nr, HNR⟩ : ∃ v, Hid (R.length = v) := ⟨_, rfl⟩
 obtain ⟨m, HM⟩ : ∃ v, Hid (L.length = v) := ⟨_, rfl⟩
 rw [HNR.out] at hR10 hka ⊢
 rw [HM.out] at hL14 hkb ⊢
 have HFR : Hid ((ra = none /\ nr = 0) ∨ ∃ b off, ra = some ⟨b, off, none⟩) := by
   rcases hka with ⟨h1, h2⟩ | ⟨b, c2, h1, _⟩
   · exact .inl ⟨by injection h1, h2⟩
   · exact .inr ⟨b, 0, by injection h1⟩
 have HFL : Hid ((la = none /\ m = 0) ∨ ∃ b off, la = some ⟨b, off, none⟩) := by
   rcases hkb with ⟨h1, h2⟩ | ⟨b, c2, h1, _⟩
   · exact .inl ⟨by injection h1, h2⟩
   · exact .inr ⟨b, 0, by injection h1⟩
 have K1 : Hid (LP w ((w1.alloc (.cells #[.int .i64 n, .slice (some ⟨g, 0, none⟩) zl cg, .slice (some ⟨go, 0, none⟩) ko co, .slice (some ⟨gv, 0, none⟩) kv cv, .int .i64 fi] 30)).alloc (.cells #[.slice ra nr rc, .slice la m lc] 33)) w1.heap.size (w1.heap.size + 1) #[.int .i64 n, .slice (some ⟨g, 0, none⟩) zl cg, .slice (some ⟨go, 0, none⟩) ko co, .slice (some ⟨gv, 0, none⟩) kv cv, .int .i64 fi] ra nr rc la m lc g go gv zs O V R L) := by
   have ha : Below w1.heap.size w1 ((w1.alloc (.cells #[.int .i64 n, .slice (some ⟨g, 0, none⟩) zl cg, .slice (some ⟨go, 0, none⟩) ko co, .slice (some ⟨gv, 0, none⟩) kv cv, .int .i64 fi] 30)).alloc (.cells #[.slice ra nr rc, .slice la m lc] 33)) := ((Below.refl _ _).alloc (Nat.le_refl _) _).alloc (by simp) _
   exact ⟨hb.trans (ha.mono hb.size), heap_alloc2_old _ _ _, heap_alloc2_new _ _ _, iz.below ha, io.below ha, iv.below ha, RA.below ha, LA.below ha⟩
 clear hz hO hV hb iz io iv hpo hR9 hLw RA LA hka hkb
 have hbd := de_bd sd kk n fi zs O V ko kv R L
 have HYE : Hid (deB sd kk n fi zs O V ko kv R L = true -> _) := fun h => de_parts h
 have HLA : Hid (deB sd kk n fi zs O V ko kv R L = true -> 0 <= deN sd kk n fi zs O V ko kv R L) := fun h => de_last h
 have HNO : Hid (deB sd kk n fi zs O V ko kv R L = false -> deN sd kk n fi zs O V ko kv R L = -1) := fun h => by unfold deN; rw [h]; rfl
 have HHE : Hid (deB sd kk n fi zs O V ko kv R L = true -> planV n zs O V ko kv fi R L = 0 /\ (((srtS (allTo R R.length)).length : Int) - (srtS (allTo (deQ sd kk R L).1 (deQ sd kk R L).1.length)).length = min kk ((srtS (allTo R R.length)).length : Int) /\ (∀ x ∈ srtS (allTo (deQ sd kk R L).1 (deQ sd kk R L).1.length), x ∈ srtS (allTo R R.length)) /\ (srtS (allTo R R.length)).length <= 12) /\ ∀ x ∈ (deQ sd kk R L).2, (Lit.int .i64 x).wf = true) := fun h => by
   obtain ⟨h1, h2, h3⟩ := deB_true h
   exact ⟨h1, de_held h1 h2 h3, (de_facts h1 h2 h3).w⟩
 have HDW : Hid (deW sd kk n fi zs O V ko kv R L = planV n zs O V ko kv fi (deQ sd kk R L).1 (deQ sd kk R L).2) := rfl
 obtain ⟨DB, HDB⟩ : ∃ v, Hid (deB sd kk n fi zs O V ko kv R L = v) := ⟨_, rfl⟩
 obtain ⟨GN, HGN⟩ : ∃ v, Hid (deN sd kk n fi zs O V ko kv R L = v) := ⟨_, rfl⟩
 obtain ⟨GF, HGF⟩ : ∃ v, Hid (deF sd kk n fi zs O V ko kv R L = v) := ⟨_, rfl⟩
 obtain ⟨GR, HGR⟩ : ∃ v, Hid (deR sd kk n fi zs O V ko kv R L = v) := ⟨_, rfl⟩
 obtain ⟨GL, HGL⟩ : ∃ v, Hid (deL sd kk n fi zs O V ko kv R L = v) := ⟨_, rfl⟩
 have IDE : Hid (∀ W k kp, LP w W k kp #[.int .i64 n, .slice (some ⟨g, 0, none⟩) zl cg, .slice (some ⟨go, 0, none⟩) ko co, .slice (some ⟨gv, 0, none⟩) kv cv, .int .i64 fi] ra nr rc la m lc g go gv zs O V R L -> Calls Tryz.prog 6 #[.agg #[.int .i64 n, .slice (some ⟨g, 0, none⟩) zl cg, .slice (some ⟨go, 0, none⟩) ko co, .slice (some ⟨gv, 0, none⟩) kv cv, .int .i64 fi], .agg #[.slice ra nr rc, .slice la m lc], .int .i64 sd, .int .i64 kk] W (OwnOkN W GN GF GR GL)) := fun W k kp h => by
   have := implDestroyed_any sd kk n fi _ _ _ ra la zl cg ko co kv cv nr rc m lc zs O V L R W h.iz h.io h.iv HZ.out HO.out HV.out (by omega) (by omega) ⟨HNR.out, HM.out, h.r, h.l, HFR.out, HFL.out, HRC.out⟩ (by omega) (fun r hr => by have := HRI.out r hr; omega) (by omega) HAL.out HLW.out
   rw [HGN.out, HGF.out, HGR.out, HGL.out] at this
   exact this
 have SDE : Hid (∀ W k kp, LP w W k kp #[.int .i64 n, .slice (some ⟨g, 0, none⟩) zl cg, .slice (some ⟨go, 0, none⟩) ko co, .slice (some ⟨gv, 0, none⟩) kv cv, .int .i64 fi] ra nr rc la m lc g go gv zs O V R L -> Calls Tryz.prog 7 #[.agg #[.int .i64 n, .slice (some ⟨g, 0, none⟩) zl cg, .slice (some ⟨go, 0, none⟩) ko co, .slice (some ⟨gv, 0, none⟩) kv cv, .int .i64 fi], .agg #[.slice ra nr rc, .slice la m lc], .int .i64 sd, .int .i64 kk] W (SpecOkN W GN GF GR GL)) := fun W k kp h => by
   have := specDestroyed_any sd kk n fi _ _ _ ra la zl cg ko co kv cv nr rc m lc zs O V L R W h.iz h.io h.iv HZ.out HO.out HV.out (by omega) (by omega) ⟨HNR.out, HM.out, h.r, h.l, HFR.out, HFL.out, HRC.out⟩ (by omega) (fun r hr => by have := HRI.out r hr; omega) (by omega) HAL.out
   rw [HGN.out, HGF.out, HGR.out, HGL.out] at this
   exact this
 have IPG : Hid (∀ (ra2 la2 : Option Addr) (rc2 lc2 : Nat) (R2 : List RT) (L2 : List Int) W k kp, LP w W k kp #[.int .i64 n, .slice (some ⟨g, 0, none⟩) zl cg, .slice (some ⟨go, 0, none⟩) ko co, .slice (some ⟨gv, 0, none⟩) kv cv, .int .i64 fi] ra nr rc la m lc g go gv zs O V R L -> RoutesAt W ra2 R2 -> IntsAt W la2 L2 -> R2.length <= 500 -> (∀ r ∈ R2, r.ids.length <= 12 /\ r.ids.length <= r.c) -> L2.length <= 500 -> (∀ x ∈ L2, (Lit.int .i64 x).wf = true) -> Calls Tryz.prog 11 #[.agg #[.int .i64 n, .slice (some ⟨g, 0, none⟩) zl cg, .slice (some ⟨go, 0, none⟩) ko co, .slice (some ⟨gv, 0, none⟩) kv cv, .int .i64 fi], .agg #[.slice ra2 R2.length rc2, .slice la2 L2.length lc2]] W fun e w' => e = .returned (.int .i64 (planV n zs O V ko kv fi R2 L2)) /\ Below W.heap.size W w') := fun ra2 la2 rc2 lc2 R2 L2 W k kp h h1 h2 h3 h4 h5 h6 => by
   have h9 := allTo_bd (fun r hr => (h4 r hr).1) R2.length (Nat.le_refl _)
   have := implPlan_any n fi _ _ _ ra2 la2 cg ko co kv cv rc2 lc2 zs O V L2 R2 W h.iz h.io h.iv h1 h2 HO.out HV.out (by omega) (by omega) (by omega) (fun r hr => by have := (h4 r hr).1; omega) (fun r hr => (h4 r hr).2) (by omega) (by omega) h6
   rw [HZ.out] at this
   exact this
 have ISG : Hid (∀ (ra2 la2 : Option Addr) (rc2 lc2 : Nat) (R2 : List RT) (L2 : List Int) W k kp, LP w W k kp #[.int .i64 n, .slice (some ⟨g, 0, none⟩) zl cg, .slice (some ⟨go, 0, none⟩) ko co, .slice (some ⟨gv, 0, none⟩) kv cv, .int .i64 fi] ra nr rc la m lc g go gv zs O V R L -> RoutesAt W ra2 R2 -> IntsAt W la2 L2 -> R2.length <= 500 -> (∀ r ∈ R2, r.ids.length <= 12 /\ r.ids.length <= r.c) -> L2.length <= 500 -> (∀ x ∈ L2, (Lit.int .i64 x).wf = true) -> Calls Tryz.prog 9 #[.agg #[.int .i64 n, .slice (some ⟨g, 0, none⟩) zl cg, .slice (some ⟨go, 0, none⟩) ko co, .slice (some ⟨gv, 0, none⟩) kv cv, .int .i64 fi], .agg #[.slice ra2 R2.length rc2, .slice la2 L2.length lc2]] W fun e w' => ∃ sl, e = .returned sl /\ Below W.heap.size W w' /\ w'.ownsRow W.heap.size 2 1 sl (servV n zs O V ko kv fi R2 L2).length ((servV n zs O V ko kv fi R2 L2).map (Value.int .i64))) := fun ra2 la2 rc2 lc2 R2 L2 W k kp h h1 h2 h3 h4 h5 h6 => by
   have := implServed_any n fi (some ⟨g, 0, none⟩) (some ⟨go, 0, none⟩) (some ⟨gv, 0, none⟩) ra2 la2 cg ko co kv cv rc2 lc2 zs O V L2 R2 W h1 (by omega) _ rfl (fun W' hb' => by
     rw [HZ.out]
     exact IPG.out ra2 la2 rc2 lc2 R2 L2 W' k kp (h.below hb') (h1.below hb') (h2.below hb') h3 h4 h5 h6)
   rw [HZ.out] at this
   exact this
 rw [HGR.out, HGL.out] at hbd
 rw [HDB.out, HGN.out, HGF.out, HGR.out, HGL.out] at HYE
 rw [HDB.out, HGN.out] at HLA HNO
 rw [HDB.out] at HHE
 clear HGN HGF HGR HGL HDB
 have HBD : Hid ((∀ r ∈ GR, r.ids ≠ [] /\ r.ids.length <= 12) /\ GR.length <= 500 /\ GL.length <= 500) := hbd
 clear hbd
 obtain ⟨d0, d1, d2, d3, d4⟩ := cells5z K1.out.b1
 obtain ⟨p0, p1⟩ := cells2 K1.out.b2
 go_wp2_with fail
 generalize (w1.alloc (.cells #[.int .i64 n, .slice (some ⟨g, 0, none⟩) zl cg, .slice (some ⟨go, 0, none⟩) ko co, .slice (some ⟨gv, 0, none⟩) kv cv, .int .i64 fi] 30)).alloc (.cells #[.slice ra nr rc, .slice la m lc] 33) = W1 at *
 obtain ⟨k, HK⟩ : ∃ v, Hid (w1.heap.size = v) := ⟨_, rfl⟩
 obtain ⟨kp, HKP⟩ : ∃ v, Hid (w1.heap.size + 1 = v) := ⟨_, rfl⟩
 rw [HKP.out] at K1 p0 p1 ⊢
 rw [HK.out] at K1 d0 d1 d2 d3 d4 ⊢
 refine (IDE.out _ _ _ K1.out).mono ?_
 rintro e w2 ⟨gra, gn, grc, gla, gl9, glc, SG, rfl, hb, hsn, hln, hky, hpo, -⟩
 have HSGN : Hid (SG.length = gn) := hsn
 have HGLN : Hid (GL.length = gl9) := hln
 have HSGK : Hid (SG.map RT.key = GR.map RT.key) := hky
 have HSGC : Hid (∀ r ∈ SG, r.ids.length <= 12 /\ r.ids.length <= r.c) := fun r hr => ⟨(key_in hky HBD.out.1 r hr).2, (hpo.ints r hr).2⟩
 have hgn : gn <= 500 := by have h1 := HBD.out.2.1; have h2 := congrArg List.length hky; simp only [List.length_map] at h2; omega
 have hgl : gl9 <= 500 := by have h1 := HBD.out.2.2; omega
 have hA : Below w2.heap.size w2 (w2.alloc (.cells #[.slice gra gn grc, .slice gla gl9 glc] 33)) := (Below.refl _ _).alloc (Nat.le_refl _) _
 have K3 : Hid (LP w (w2.alloc (.cells #[.slice gra gn grc, .slice gla gl9 glc] 33)) k kp #[.int .i64 n, .slice (some ⟨g, 0, none⟩) zl cg, .slice (some ⟨go, 0, none⟩) ko co, .slice (some ⟨gv, 0, none⟩) kv cv, .int .i64 fi] ra nr rc la m lc g go gv zs O V R L) := (K1.out.below hb).below hA
 have Q3 : Hid ((w2.alloc (.cells #[.slice gra gn grc, .slice gla gl9 glc] 33)).heap[w2.heap.size]? = some (.cells #[.slice gra gn grc, .slice gla gl9 glc] 33 (0, 0)) /\ RoutesAt (w2.alloc (.cells #[.slice gra gn grc, .slice gla gl9 glc] 33)) gra SG /\ IntsAt (w2.alloc (.cells #[.slice gra gn grc, .slice gla gl9 glc] 33)) gla GL) := ⟨heap_alloc_new _ _, (po_at hpo hsn).below hA, (po_l hpo hln).below hA⟩
 clear hb hsn hln hky hpo hA K1 d0 d1 d2 d3 d4 p0 p1 IDE
 obtain ⟨d0, d1, d2, d3, d4⟩ := cells5z K3.out.b1
 obtain ⟨p0, p1⟩ := cells2 K3.out.b2
 go_wp2_with fail
 generalize w2.alloc (.cells #[.slice gra gn grc, .slice gla gl9 glc] 33) = W3 at *
 obtain ⟨kq, HKQ⟩ : ∃ v, Hid (w2.heap.size = v) := ⟨_, rfl⟩
 rw [HKQ.out] at Q3 ⊢
 refine (SDE.out _ _ _ K3.out).mono ?_
 rintro e w4 ⟨wra, wn, wrc, wla, wl9, wlc, SW, rfl, hb, hsn, hln, hky, hpo⟩
 have e1 : gn = wn := by rw [<- HSGN.out, <- hsn]; have := congrArg List.length (HSGK.out.trans hky.symm); simpa using this
 have e2 : gl9 = wl9 := HGLN.out.symm.trans hln
 subst e1 e2
 have HSWK : Hid (SW.map RT.key = SG.map RT.key) := hky.trans HSGK.out.symm
 have hA : Below w4.heap.size w4 (w4.alloc (.cells #[.slice wra gn wrc, .slice wla gl9 wlc] 33)) := (Below.refl _ _).alloc (Nat.le_refl _) _
 have hbA := hb.trans (hA.mono hb.size)
 have K5 : Hid (LP w (w4.alloc (.cells #[.slice wra gn wrc, .slice wla gl9 wlc] 33)) k kp #[.int .i64 n, .slice (some ⟨g, 0, none⟩) zl cg, .slice (some ⟨go, 0, none⟩) ko co, .slice (some ⟨gv, 0, none⟩) kv cv, .int .i64 fi] ra nr rc la m lc g go gv zs O V R L) := K3.out.below hbA
 have Q5 : Hid ((w4.alloc (.cells #[.slice wra gn wrc, .slice wla gl9 wlc] 33)).heap[kq]? = some (.cells #[.slice gra gn grc, .slice gla gl9 glc] 33 (0, 0)) /\ RoutesAt (w4.alloc (.cells #[.slice wra gn wrc, .slice wla gl9 wlc] 33)) gra SG /\ IntsAt (w4.alloc (.cells #[.slice wra gn wrc, .slice wla gl9 wlc] 33)) gla GL) := ⟨below_row hbA (row_lt Q3.out.1) Q3.out.1, Q3.out.2.1.below hbA, Q3.out.2.2.below hbA⟩
 have X5 : Hid ((w4.alloc (.cells #[.slice wra gn wrc, .slice wla gl9 wlc] 33)).heap[w4.heap.size]? = some (.cells #[.slice wra gn wrc, .slice wla gl9 wlc] 33 (0, 0)) /\ RoutesAt (w4.alloc (.cells #[.slice wra gn wrc, .slice wla gl9 wlc] 33)) wra SW /\ IntsAt (w4.alloc (.cells #[.slice wra gn wrc, .slice wla gl9 wlc] 33)) wla GL) := ⟨heap_alloc_new _ _, (po_at hpo hsn).below hA, (po_l hpo hln).below hA⟩
 clear hb hsn hln hky hpo hA hbA K3 Q3 d0 d1 d2 d3 d4 p0 p1 SDE
 have SAM : Hid (∀ W, RoutesAt W gra SG -> RoutesAt W wra SW -> IntsAt W gla GL -> IntsAt W wla GL -> Calls Tryz.prog 8 #[.agg #[.slice gra gn grc, .slice gla gl9 glc], .agg #[.slice wra gn wrc, .slice wla gl9 wlc]] W fun e w' => e = .returned (.bool true) /\ Below W.heap.size W w') := fun W h1 h2 h3 h4 => samePlan_same gra wra gla wla grc wrc gn glc wlc gl9 SG SW GL W h1 h2 HSWK.out HSGN.out (by omega) (fun r hr => by have := (HSGC.out r hr).1; omega) h3 h4 HGLN.out (by omega)
 obtain ⟨q0, q1⟩ := cells2 Q5.out.1
 obtain ⟨x0, x1⟩ := cells2 X5.out.1
 have hff : (GF != GF) = false := by simp
 have hfe : (GF == GF) = true := by simp
 have hnn : (GN != GN) = false := by simp
 have hne : (GN == GN) = true := by simp
 go_wp2_with fail
 generalize w4.alloc (.cells #[.slice wra gn wrc, .slice wla gl9 wlc] 33) = W5 at *
 obtain ⟨kw, HKW⟩ : ∃ v, Hid (w4.heap.size = v) := ⟨_, rfl⟩
 rw [HKW.out] at X5 ⊢
 refine (SAM.out W5 Q5.out.2.1 X5.out.2.1 Q5.out.2.2 X5.out.2.2).mono ?_
 rintro e w6 ⟨rfl, hb⟩
 have K6 : Hid (LP w w6 k kp #[.int .i64 n, .slice (some ⟨g, 0, none⟩) zl cg, .slice (some ⟨go, 0, none⟩) ko co, .slice (some ⟨gv, 0, none⟩) kv cv, .int .i64 fi] ra nr rc la m lc g go gv zs O V R L) := K5.out.below hb
 have Q6 : Hid (w6.heap[kq]? = some (.cells #[.slice gra gn grc, .slice gla gl9 glc] 33 (0, 0)) /\ RoutesAt w6 gra SG /\ IntsAt w6 gla GL) := ⟨below_row hb (row_lt Q5.out.1) Q5.out.1, Q5.out.2.1.below hb, Q5.out.2.2.below hb⟩
 have X6 : Hid (w6.heap[kw]? = some (.cells #[.slice wra gn wrc, .slice wla gl9 wlc] 33 (0, 0)) /\ RoutesAt w6 wra SW /\ IntsAt w6 wla GL) := ⟨below_row hb (row_lt X5.out.1) X5.out.1, X5.out.2.1.below hb, X5.out.2.2.below hb⟩
 clear hb K5 Q5 X5 q0 q1 x0 x1
 obtain ⟨q0, q1⟩ := cells2 Q6.out.1
 cases DB
 · have hgn0 : GN = -1 := HNO.out rfl
   subst hgn0
   obtain ⟨x0, x1⟩ := cells2 X6.out.1
   go_wp2_with fail
   refine (SAM.out w6 Q6.out.2.1 X6.out.2.1 Q6.out.2.2 X6.out.2.2).mono ?_
   rintro e w7 ⟨rfl, hb⟩
   have K7 : Hid (LP w w7 k kp #[.int .i64 n, .slice (some ⟨g, 0, none⟩) zl cg, .slice (some ⟨go, 0, none⟩) ko co, .slice (some ⟨gv, 0, none⟩) kv cv, .int .i64 fi] ra nr rc la m lc g go gv zs O V R L) := K6.out.below hb
   clear hb
   go_wp2
   go_ret
   exact ⟨by first | rfl | simp, K7.out.b⟩
 · have hg0 : ¬ GN < 0 := by have := HLA.out rfl; omega
   obtain ⟨-, hy1, hy2⟩ := HYE.out rfl
   obtain ⟨hpv, hhe, hwf⟩ := HHE.out rfl
   obtain ⟨d0, d1, d2, d3, d4⟩ := cells5z K6.out.b1
   obtain ⟨p0, p1⟩ := cells2 K6.out.b2
   by_cases hw : deW sd kk n fi zs O V ko kv R L = 0
   · obtain ⟨rfl, hg2, hg3⟩ := hy1 hw
     have HQK : Hid (SG.map RT.key = (deQ sd kk R L).1.map RT.key) := by show _ = _; rw [HSGK.out, hg2]
     have HQL : Hid (GL = (deQ sd kk R L).2) := hg3
     have HPV : Hid (planV n zs O V ko kv fi R L = 0) := hpv
     have HPW : Hid (planV n zs O V ko kv fi SG GL = 0) := by show _ = _; rw [planV_key GL HQK.out, HQL.out, <- HDW.out]; exact hw
     have HGW : Hid (∀ x ∈ GL, (Lit.int .i64 x).wf = true) := by show ∀ x ∈ GL, _; rw [HQL.out]; exact hwf
     obtain ⟨JX, HJX⟩ : ∃ v, Hid (servV n zs O V ko kv fi R L = v) := ⟨_, rfl⟩
     obtain ⟨TX, HTX⟩ : ∃ v, Hid (servV n zs O V ko kv fi SG GL = v) := ⟨_, rfl⟩
     have hj : srtS (allTo R R.length) = JX := by rw [<- HJX.out]; unfold servV; rw [if_pos HPV.out]
     have ht : srtS (allTo (deQ sd kk R L).1 (deQ sd kk R L).1.length) = TX := by rw [<- HTX.out]; unfold servV; rw [if_pos HPW.out, allTo_flat, allTo_flat, key_flat HQK.out]
     rw [hj, ht] at hhe
     obtain ⟨hh1, hh2, hh3⟩ := hhe
     have HSUB : Hid (∀ x ∈ TX, x ∈ JX) := hh2
     obtain ⟨jn, HJN⟩ : ∃ v, Hid (JX.length = v) := ⟨_, rfl⟩
     obtain ⟨tn, HTN⟩ : ∃ v, Hid (TX.length = v) := ⟨_, rfl⟩
     rw [HJN.out, HTN.out] at hh1
     rw [HJN.out] at hh3
     clear hw hy1 hy2 hg2 hg3 hpv hwf hj ht hh2 HYE HHE HLA HNO
     have ISE := ISG.out ra la rc lc R L w6 k kp K6.out K6.out.r K6.out.l (by have := HNR.out; omega) (fun r hr => ⟨by have := HRI.out r hr; omega, HRC.out r hr⟩) (by have := HM.out; omega) HLW.out
     rw [HNR.out, HM.out, HJX.out, HJN.out] at ISE
     go_wp2_with fail
     refine ISE.mono ?_
     rintro e w7 ⟨sl, rfl, hb, ho⟩
     obtain ⟨ja, jc, e⟩ := own_any ho
     subst e
     have J7 : Hid (IntsAt w7 ja JX) := ints_ownL ho
     have K7 : Hid (LP w w7 k kp #[.int .i64 n, .slice (some ⟨g, 0, none⟩) zl cg, .slice (some ⟨go, 0, none⟩) ko co, .slice (some ⟨gv, 0, none⟩) kv cv, .int .i64 fi] ra nr rc la m lc g go gv zs O V R L) := K6.out.below hb
     have Q7 : Hid (w7.heap[kq]? = some (.cells #[.slice gra gn grc, .slice gla gl9 glc] 33 (0, 0)) /\ RoutesAt w7 gra SG /\ IntsAt w7 gla GL) := ⟨below_row hb (row_lt Q6.out.1) Q6.out.1, Q6.out.2.1.below hb, Q6.out.2.2.below hb⟩
     clear hb ho ISE K6 Q6 X6 SAM d0 d1 d2 d3 d4 p0 p1 q0 q1
     obtain ⟨d0, d1, d2, d3, d4⟩ := cells5z K7.out.b1
     obtain ⟨q0, q1⟩ := cells2 Q7.out.1
     have ISE := ISG.out gra gla grc glc SG GL w7 k kp K7.out Q7.out.2.1 Q7.out.2.2 (by have := HSGN.out; omega) HSGC.out (by have := HGLN.out; omega) HGW.out
     rw [HSGN.out, HGLN.out, HTX.out, HTN.out] at ISE
     go_wp2_with fail
     refine ISE.mono ?_
     rintro e w8 ⟨sl, rfl, hb, ho⟩
     obtain ⟨ta, tc, e⟩ := own_any ho
     subst e
     have T8 : Hid (IntsAt w8 ta TX) := ints_ownL ho
     have K8 : Hid (LP w w8 k kp #[.int .i64 n, .slice (some ⟨g, 0, none⟩) zl cg, .slice (some ⟨go, 0, none⟩) ko co, .slice (some ⟨gv, 0, none⟩) kv cv, .int .i64 fi] ra nr rc la m lc g go gv zs O V R L) := K7.out.below hb
     have Q8 : Hid (w8.heap[kq]? = some (.cells #[.slice gra gn grc, .slice gla gl9 glc] 33 (0, 0)) /\ RoutesAt w8 gra SG /\ IntsAt w8 gla GL) := ⟨below_row hb (row_lt Q7.out.1) Q7.out.1, Q7.out.2.1.below hb, Q7.out.2.2.below hb⟩
     have J8 : Hid (IntsAt w8 ja JX) := J7.out.below hb
     clear hb ho ISE K7 Q7 J7 d0 d1 d2 d3 d4 q0 q1
     have htn : tn <= 12 := by rw [<- HTN.out, <- HTX.out]; exact servV_len ..
     go_wp2_with fail
     go_loop [15] (fun t => ∃ i : Nat, i <= tn /\ t = .int .i64 i) (fun t => tn - (intOf t).toNat)
     case atStart => exact ⟨0, Nat.zero_le _, rfl⟩
     case round =>
       obtain ⟨i, hi, rfl⟩ := hrel
       by_cases hlt : i < tn
       · have hltI : (i : Int) < (tn : Int) := by omega
         obtain ⟨b, off, e, hc⟩ := T8.out i (by rw [HTN.out]; exact hlt)
         subst e
         have hm : TX.getD i 0 ∈ JX := HSUB.out _ (getD_memL _ _ (by rw [HTN.out]; exact hlt))
         have HAS := lawsHas_any ja jn jc (TX.getD i 0) JX w8 J8.out (by rw [HJN.out]; exact Nat.le_refl _) (by omega)
         have hq := hasTo_mem JX (TX.getD i 0)
         rw [HJN.out, decide_eq_true hm] at hq
         rw [hq] at HAS
         clear hq hm
         generalize TX.getD i 0 = y at *
         go_wp2_with (go_at_call 10; refine HAS.mono ?_; rintro e w' ⟨rfl, hw'⟩; subst w')
         go_round
         case rel => exact ⟨i + 1, by omega, by first | rfl | go_num⟩
         case measure => simp [intOf]; omega
       · have hltI : ¬ ((i : Int) < (tn : Int)) := by omega
         obtain ⟨d0, d1, d2, d3, d4⟩ := cells5z K8.out.b1
         obtain ⟨q0, q1⟩ := cells2 Q8.out.1
         have IPE := IPG.out gra gla grc glc SG GL w8 k kp K8.out Q8.out.2.1 Q8.out.2.2 (by have := HSGN.out; omega) HSGC.out (by have := HGLN.out; omega) HGW.out
         rw [HSGN.out, HGLN.out, HPW.out] at IPE
         go_wp2_with fail
         refine IPE.mono ?_
         rintro e w9 ⟨rfl, hb⟩
         have K9 : Hid (LP w w9 k kp #[.int .i64 n, .slice (some ⟨g, 0, none⟩) zl cg, .slice (some ⟨go, 0, none⟩) ko co, .slice (some ⟨gv, 0, none⟩) kv cv, .int .i64 fi] ra nr rc la m lc g go gv zs O V R L) := K8.out.below hb
         clear hb IPE
         have hsub : ((jn : Int) - tn == min kk (jn : Int)) = true := by rw [hh1]; simp
         go_wp2
         go_ret
         exact ⟨by first | rfl | simp, K9.out.b⟩
   · obtain ⟨rfl, rfl, rfl⟩ := hy2 hw
     have hnr : gn = nr := by rw [<- HSGN.out, <- HNR.out]; have := congrArg List.length HSGK.out; simpa using this
     have hml : gl9 = m := HGLN.out.symm.trans HM.out
     subst hnr hml
     have SAP := samePlan_same gra ra gla la grc rc gn glc lc gl9 SG GR GL w6 Q6.out.2.1 K6.out.r HSGK.out.symm HSGN.out (by omega) (fun r hr => by have := (HSGC.out r hr).1; omega) Q6.out.2.2 K6.out.l HGLN.out (by omega)
     clear hw hy1 hy2 hhe hwf hpv
     go_wp2_with fail
     refine SAP.mono ?_
     rintro e w7 ⟨rfl, hb⟩
     have B7 : Hid (Below w.heap.size w w7) := K6.out.b.trans (hb.mono K6.out.b.size)
     clear hb
     go_wp2
     go_ret
     exact ⟨by first | rfl | simp, B7.out⟩
theorem lawFnDestroyed (a : Option Addr) (c : Nat) (bs : List Int) (w : World) (hA : CodeAt w a bs) (hl : bs.length <= 9223372036854775807) :
   Calls Tryz.prog 3 #[.slice a bs.length c] w fun e w' => e = .returned (.bool true) /\ Below w.heap.size w w' := by
 by_cases h : bs.length <= 1048576
 · exact lawFnDestroyed_small a c bs w hA h
 · exact lawFnDestroyed_big a c bs.length w hl (by omega)
end Go.Proofs.YtdbdmlabfbmjfaaGreat
