import Derived.Test.YtfpegaldloadaaaGreatPack2
import Derived.Test.YtfpegaldloadaaaGreatPack12
import Derived.Test.YtfpegaldloadaaaGreatPack33
import Derived.Test.YtfpegaldloadaaaGreatPack35
import Derived.Test.YtfpegaldloadaaaGreatRelocPlan
import Derived.Test.YtfpegaldloadaaaGreatSpotsFor
import Derived.Laws.EntriesVeiled
import Derived.Deep.RegionHeld3
namespace Go.Proofs.YtfpegaldloadaaaGreat
open Go.RowKit
set_option maxHeartbeats 1000000 in
theorem relocations_any (cs : Array Value) (w : World) (n fine : Int) (a ao av : Option Addr) (cap ko co kv cv lz : Nat) (hcs : cs = #[.int .i64 n, .slice a lz cap, .slice ao ko co, .slice av kv cv, .int .i64 fine]) :
   Calls Tryz.prog 51 #[.agg cs] w fun e w' => ∃ pc, e = .returned (.agg #[Value.func (.func 82) #[] #[.pointer (some ⟨pc, 0, none⟩)], Value.func (.func 85) #[] #[.pointer (some ⟨pc, 0, none⟩)]]) /\ Below w.heap.size w w' /\ w'.heap[pc]? = some (.cells cs 43 (0, 0)) := by
 subst hcs
 have hmf : ∀ (fn : Fn) (first cap : Array Value) (w : World), (Instr.makeFunc fn first cap).run Tryz.prog w = .ok (.func fn first cap) w := fun _ _ _ _ => rfl
 go_enter Tryz.func51, Tryz.ntmps51
 go_wp2
 have q : ∀ (cs : Array Value), ((w.alloc (.cells cs 43)).alloc (.cells #[Value.func (.func 82) #[] #[.pointer (some ⟨w.heap.size, 0, none⟩)], Value.func (.func 85) #[] #[.pointer (some ⟨w.heap.size, 0, none⟩)]] 91)).heap[w.heap.size + 1]? = some (.cells #[Value.func (.func 82) #[] #[.pointer (some ⟨w.heap.size, 0, none⟩)], Value.func (.func 85) #[] #[.pointer (some ⟨w.heap.size, 0, none⟩)]] 91 (0, 0)) := fun cs => heap_alloc2_new _ _ _
 obtain ⟨q0, q1⟩ := cells2 (q #[Value.int .i64 n, Value.slice a lz cap, Value.slice ao ko co, Value.slice av kv cv, Value.int .i64 fine])
 refine bodyPost_ret (v := .agg #[Value.func (.func 82) #[] #[.pointer (some ⟨w.heap.size, 0, none⟩)], Value.func (.func 85) #[] #[.pointer (some ⟨w.heap.size, 0, none⟩)]]) (by simp [results, Tryz.results51, go_sem, q0, q1]) rfl ⟨w.heap.size, rfl, ((Below.refl _ _).alloc (Nat.le_refl _) _).alloc (by simp) _, heap_alloc2_old _ _ _⟩
structure RZ (w W : World) (ps ss : Array Value) : Prop where
 b : Below w.heap.size w W
 p : W.heap[w.heap.size]? = some (.cells ps 36 (0, 0))
 s : W.heap[w.heap.size + 1]? = some (.cells ss 74 (0, 0))
 o : W.heap[w.heap.size + 2]? = some (.cells #[.slice none 0 0, .slice none 0 0] 36 (0, 0))
theorem RZ.below {w W W' : World} {ps ss : Array Value} (h : RZ w W ps ss) (hb : Below W.heap.size W W') : RZ w W' ps ss :=
 ⟨h.b.trans (hb.mono h.b.size), below_row hb (row_lt h.p) h.p, below_row hb (row_lt h.s) h.s, below_row hb (row_lt h.o) h.o⟩
theorem RZ.new (w : World) (ps ss : Array Value) : RZ w (((w.alloc (.cells ps 36)).alloc (.cells ss 74)).alloc (.cells #[.slice none 0 0, .slice none 0 0] 36)) ps ss := by
 refine ⟨(((Below.refl _ _).alloc (Nat.le_refl _) _).alloc (by simp) _).alloc (by simp <;> omega) _, ?_, ?_, ?_⟩
 · exact (heap_alloc_old _ _ (by simp <;> omega)).trans (heap_alloc2_old _ _ _)
 · exact (heap_alloc_old _ _ (by simp)).trans (heap_alloc2_new _ _ _)
 · have := heap_alloc_new ((w.alloc (.cells ps 36)).alloc (.cells ss 74)) (.cells #[.slice none 0 0, .slice none 0 0] 36)
   simpa using this
set_option maxRecDepth 10000 in
set_option maxHeartbeats 2000000 in
theorem relocMade_pl (id tv pl n fine : Int) (a ao av ra la : Option Addr) (zl cap ko co kv cv nr rc ln lc pc : Nat) (zs os vs L : List Int) (R : List RT) (w : World) (hA : IntsAt w a zs) (hO : IntsAt w ao os) (hV : IntsAt w av vs) (hlz : zs.length = zl) (hlo : os.length = ko * 6) (hlv : vs.length = kv * 5) (hko : ko <= 9223372036854775807) (hkv : kv <= 9223372036854775807) (hP : PlanIs w ra la nr ln R L) (hpl : planV n zs os vs ko kv fine R L = 0) (hpc : w.heap[pc]? = some (.cells #[.int .i64 n, .slice a zl cap, .slice ao ko co, .slice av kv cv, .int .i64 fine] 43 (0, 0))) :
   Calls Tryz.prog 85 #[.agg #[.slice ra nr rc, .slice la ln lc], .agg #[.int .i64 id, .int .i64 tv, .int .i64 pl], .pointer (some ⟨pc, 0, none⟩)] w (RelPl w (rqD id tv pl n fine zs os vs ko kv R L) (rqB id tv pl n fine zs os vs ko kv R L) (rqR id tv pl n fine zs os vs ko kv R L) (rqL id tv pl n fine zs os vs ko kv R L)) := by
 have Q0 : Hid (RZ w (((w.alloc (.cells #[.slice ra nr rc, .slice la ln lc] 36)).alloc (.cells #[.int .i64 id, .int .i64 tv, .int .i64 pl] 74)).alloc (.cells #[.slice none 0 0, .slice none 0 0] 36)) #[.slice ra nr rc, .slice la ln lc] #[.int .i64 id, .int .i64 tv, .int .i64 pl]) := RZ.new _ _ _
 have RL := relocated_pl id tv pl n fine a ao av ra la zl cap ko co kv cv nr rc ln lc zs os vs L R _ (hA.below Q0.out.b) (hO.below Q0.out.b) (hV.below Q0.out.b) hlz hlo hlv hko hkv (hP.below Q0.out.b) hpl
 have hpc1 := below_row Q0.out.b (row_lt hpc) hpc
 obtain ⟨GD, HGD⟩ : ∃ v, Hid (rqD id tv pl n fine zs os vs ko kv R L = v) := ⟨_, rfl⟩
 obtain ⟨GB, HGB⟩ : ∃ v, Hid (rqB id tv pl n fine zs os vs ko kv R L = v) := ⟨_, rfl⟩
 obtain ⟨GR, HGR⟩ : ∃ v, Hid (rqR id tv pl n fine zs os vs ko kv R L = v) := ⟨_, rfl⟩
 obtain ⟨GL, HGL⟩ : ∃ v, Hid (rqL id tv pl n fine zs os vs ko kv R L = v) := ⟨_, rfl⟩
 rw [HGD.out, HGB.out, HGR.out, HGL.out] at RL
 rw [HGD.out, HGB.out, HGR.out, HGL.out]
 clear hA hO hV hlz hlo hlv hP hpl hpc HGD HGB HGR HGL
 go_enter Tryz.func85, Tryz.ntmps85
 obtain ⟨c0, c1, c2, c3, c4⟩ := cells5 hpc1
 obtain ⟨p0, p1⟩ := cells2 Q0.out.p
 obtain ⟨s0, s1, s2⟩ := cells3s Q0.out.s
 go_wp2_with fail
 generalize ((w.alloc (.cells #[.slice ra nr rc, .slice la ln lc] 36)).alloc (.cells #[.int .i64 id, .int .i64 tv, .int .i64 pl] 74)).alloc (.cells #[.slice none 0 0, .slice none 0 0] 36) = W0 at *
 refine RL.mono ?_
 rintro e w1 ⟨ra2, n2, rc2, la2, l2, lc2, R2, rfl, hb, h5, h2, h4, h1, h3, h6⟩
 have Q1 : Hid (RZ w w1 #[.slice ra nr rc, .slice la ln lc] #[.int .i64 id, .int .i64 tv, .int .i64 pl]) := Q0.out.below hb
 have HR1 : Hid (RoutesAt w1 ra2 R2) := h1
 have HL1 : Hid (IntsAt w1 la2 GL) := h3
 have HX : Hid (R2.length = n2 /\ GL.length = l2 /\ R2.map RT.key = GR.map RT.key) := ⟨h2, h4, h5⟩
 have HX6 : Hid (((ra2 = none /\ n2 = 0) ∨ ∃ b off, ra2 = some ⟨b, off, none⟩) /\ ((la2 = none /\ l2 = 0) ∨ ∃ b off, la2 = some ⟨b, off, none⟩) /\ (∀ r ∈ R2, r.ids.length <= r.c)) := h6
 clear hb h1 h2 h3 h4 h5 h6 Q0 RL c0 c1 c2 c3 c4 p0 p1 s0 s1 s2 hpc1
 obtain ⟨a0, a1⟩ := cells2 Q1.out.o
 have af := fun i => frozen_of_row _ _ i _ _ Q1.out.o
 have s1 := heap_setCell_same w1 (w.heap.size + 2) 0 _ _ (Value.slice ra2 n2 rc2) Q1.out.o
 have B2 : Hid (Below w.heap.size w ((w1.setCell ⟨w.heap.size + 2, 0, none⟩ (.slice ra2 n2 rc2)).setCell ⟨w.heap.size + 2, 1, none⟩ (.slice la2 l2 lc2))) := (Q1.out.b.setCell (by simp) _).setCell (by simp) _
 have R2h : Hid (RoutesAt ((w1.setCell ⟨w.heap.size + 2, 0, none⟩ (.slice ra2 n2 rc2)).setCell ⟨w.heap.size + 2, 1, none⟩ (.slice la2 l2 lc2)) ra2 R2) := routes_boxL (routes_boxL HR1.out Q1.out.o 0 _) s1 1 _
 have L2h : Hid (IntsAt ((w1.setCell ⟨w.heap.size + 2, 0, none⟩ (.slice ra2 n2 rc2)).setCell ⟨w.heap.size + 2, 1, none⟩ (.slice la2 l2 lc2)) la2 GL) := ints_boxL (ints_boxL HL1.out Q1.out.o 0 _) s1 1 _
 clear s1
 go_wp2
 refine bodyPost_ret (v := .tuple #[.agg #[.slice ra2 n2 rc2, .slice la2 l2 lc2], .int .i64 GD, .bool GB]) (by simp [results, Tryz.results85, go_sem, a0, a1]) rfl ?_
 show RelPl _ _ _ _ _ _ _
 exact ⟨ra2, n2, rc2, la2, l2, lc2, R2, rfl, B2.out, HX.out.2.2, HX.out.1, HX.out.2.1, R2h.out, L2h.out, HX6.out⟩
theorem relocMade_any (id tv pl n fine : Int) (a ao av ra la : Option Addr) (zl cap ko co kv cv nr rc ln lc pc : Nat) (zs os vs L : List Int) (R : List RT) (w : World) (hA : IntsAt w a zs) (hO : IntsAt w ao os) (hV : IntsAt w av vs) (hlz : zs.length = zl) (hlo : os.length = ko * 6) (hlv : vs.length = kv * 5) (hko : ko <= 9223372036854775807) (hkv : kv <= 9223372036854775807) (hP : PlanIs w ra la nr ln R L) (hpl : planV n zs os vs ko kv fine R L = 0) (hpc : w.heap[pc]? = some (.cells #[.int .i64 n, .slice a zl cap, .slice ao ko co, .slice av kv cv, .int .i64 fine] 43 (0, 0))) :
   Calls Tryz.prog 85 #[.agg #[.slice ra nr rc, .slice la ln lc], .agg #[.int .i64 id, .int .i64 tv, .int .i64 pl], .pointer (some ⟨pc, 0, none⟩)] w (RelIs w (rqD id tv pl n fine zs os vs ko kv R L) (rqB id tv pl n fine zs os vs ko kv R L) (rqR id tv pl n fine zs os vs ko kv R L) (rqL id tv pl n fine zs os vs ko kv R L)) := (relocMade_pl id tv pl n fine a ao av ra la zl cap ko co kv cv nr rc ln lc pc zs os vs L R w hA hO hV hlz hlo hlv hko hkv hP hpl hpc).mono (fun _ _ h => h.is)
structure MP (w W : World) (pc : Nat) (cs ps : Array Value) : Prop where
 b : Below w.heap.size w W
 c : W.heap[pc]? = some (.cells cs 43 (0, 0))
 p : W.heap[w.heap.size]? = some (.cells ps 36 (0, 0))
theorem MP.below {w W W' : World} {pc : Nat} {cs ps : Array Value} (h : MP w W pc cs ps) (hb : Below W.heap.size W W') : MP w W' pc cs ps :=
 ⟨h.b.trans (hb.mono h.b.size), below_row hb (row_lt h.c) h.c, below_row hb (row_lt h.p) h.p⟩
theorem mp_cells {w W : World} {pc : Nat} {n fine : Int} {a ao av ra la : Option Addr} {zl cap ko co kv cv nr rc ln lc : Nat} (h : MP w W pc #[.int .i64 n, .slice a zl cap, .slice ao ko co, .slice av kv cv, .int .i64 fine] #[.slice ra nr rc, .slice la ln lc]) : W.cell? ⟨pc, 0, none⟩ = some (.int .i64 n) /\ W.cell? ⟨pc, 1, none⟩ = some (.slice a zl cap) /\ W.cell? ⟨pc, 2, none⟩ = some (.slice ao ko co) /\ W.cell? ⟨pc, 3, none⟩ = some (.slice av kv cv) /\ W.cell? ⟨pc, 4, none⟩ = some (.int .i64 fine) /\ W.cell? ⟨w.heap.size, 0, none⟩ = some (.slice ra nr rc) /\ W.cell? ⟨w.heap.size, 1, none⟩ = some (.slice la ln lc) := by
 obtain ⟨c0, c1, c2, c3, c4⟩ := cells5 h.c
 obtain ⟨p0, p1⟩ := cells2 h.p
 exact ⟨c0, c1, c2, c3, c4, p0, p1⟩
set_option maxRecDepth 10000 in
set_option maxHeartbeats 2000000 in
theorem relocAll_any (n fine : Int) (a ao av ra la : Option Addr) (zl cap ko co kv cv nr rc ln lc pc : Nat) (zs os vs L : List Int) (R : List RT) (w : World) (hA : IntsAt w a zs) (hO : IntsAt w ao os) (hV : IntsAt w av vs) (hlz : zs.length = zl) (hlo : os.length = ko * 6) (hlv : vs.length = kv * 5) (hP : PlanIs w ra la nr ln R L) (hpl : planV n zs os vs ko kv fine R L = 0) (hpc : w.heap[pc]? = some (.cells #[.int .i64 n, .slice a zl cap, .slice ao ko co, .slice av kv cv, .int .i64 fine] 43 (0, 0))) :
   Calls Tryz.prog 82 #[.agg #[.slice ra nr rc, .slice la ln lc], .pointer (some ⟨pc, 0, none⟩)] w fun e w' => ∃ sl, e = .returned sl /\ Below w.heap.size w w' /\ w'.ownsRow w.heap.size 74 3 sl (sp3 R vs kv (servV n zs os vs ko kv fine R L) (servV n zs os vs ko kv fine R L).length).length ((spF (sp3 R vs kv (servV n zs os vs ko kv fine R L) (servV n zs os vs ko kv fine R L).length)).map (Value.int .i64)) := by
 have HA : Hid (IntsAt w a zs) := hA
 have HO : Hid (IntsAt w ao os) := hO
 have HV : Hid (IntsAt w av vs) := hV
 have HLZ : Hid (zs.length = zl) := hlz
 have HLO : Hid (os.length = ko * 6) := hlo
 have HLV : Hid (vs.length = kv * 5) := hlv
 have HP : Hid (PlanIs w ra la nr ln R L) := hP
 have HN : Hid (R.length = nr) := hP.1
 have HPL : Hid (planV n zs os vs ko kv fine R L = 0) := hpl
 have HPC : Hid (w.heap[pc]? = some (.cells #[.int .i64 n, .slice a zl cap, .slice ao ko co, .slice av kv cv, .int .i64 fine] 43 (0, 0))) := hpc
 clear hA hO hV hlz hlo hlv hP hpl hpc
 obtain ⟨X, HX⟩ : ∃ v, Hid ((servV n zs os vs ko kv fine R L) = v) := ⟨_, rfl⟩
 obtain ⟨m, HXM⟩ : ∃ v, Hid (X.length = v) := ⟨_, rfl⟩
 have HXX : Hid (srtS (allTo R R.length) = X) := by
   have := HX.out
   unfold servV at this
   rw [if_pos HPL.out] at this
   exact this
 obtain ⟨g1, g2, g3, _⟩ := planV_zero HPL.out
 obtain ⟨gp, gok⟩ := rts_iff.1 g2
 have hs := serv_small HPL.out
 have hps := plan_small HPL.out
 have hm : X.length <= 12 := by rw [<- HX.out]; exact servV_len ..
 have hk5 : kv <= 5 := (vehsB_true (caseB_parts g1).2.2.1).1
 have SB : Hid (∀ W, Below w.heap.size w W -> Calls Tryz.prog 84 #[.agg #[.slice ra nr rc, .slice la ln lc]] W fun e w' => ∃ sl, e = .returned sl /\ Below W.heap.size W w' /\ w'.ownsRow W.heap.size 2 1 sl (srtS (allTo R R.length)).length ((srtS (allTo R R.length)).map (Value.int .i64))) := fun W hW => by
   have := servedBy_any ra la rc ln lc R W (HP.out.2.2.1.below hW) (by omega) hs.2.2 hs.2.1 hs.1
   rw [show (Value.slice ra R.length rc) = .slice ra nr rc by rw [HN.out]] at this
   exact this
 have SF : Hid (∀ W sa sc, Below w.heap.size w W -> IntsAt W sa X -> Calls Tryz.prog 83 #[.agg #[.int .i64 n, .slice a zl cap, .slice ao ko co, .slice av kv cv, .int .i64 fine], .agg #[.slice ra nr rc, .slice la ln lc], .slice sa m sc] W fun e w' => ∃ sl, e = .returned sl /\ Below W.heap.size W w' /\ w'.ownsRow W.heap.size 74 3 sl (sp3 R vs kv X m).length ((spF (sp3 R vs kv X m)).map (Value.int .i64))) := fun W sa sc hW hI => by
   have := spotsFor_any n fine a ao av ra la sa zl cap ko co kv cv rc ln lc sc vs X R W (HV.out.below hW) HLV.out hk5 (HP.out.2.2.1.below hW) (by omega) (rises_pwL gp) (fun r hr => code12 (gok r hr).2) hI hm
   rw [HN.out, HXM.out] at this
   exact this
 clear g1 g2 g3 gp gok hs hps hm hk5
 rw [HX.out]
 have Q0 : Hid (MP w (w.alloc (.cells #[.slice ra nr rc, .slice la ln lc] 36)) pc #[.int .i64 n, .slice a zl cap, .slice ao ko co, .slice av kv cv, .int .i64 fine] #[.slice ra nr rc, .slice la ln lc]) := ⟨(Below.refl _ _).alloc (Nat.le_refl _) _, below_row ((Below.refl _ _).alloc (Nat.le_refl _) _) (row_lt HPC.out) HPC.out, heap_alloc_new _ _⟩
 go_enter Tryz.func82, Tryz.ntmps82
 go_wp2_with fail
 generalize w.alloc (.cells #[.slice ra nr rc, .slice la ln lc] 36) = W0 at *
 refine wp_region_held_drew (S := (fun W => W.cell? ⟨pc, 0, none⟩ = some (.int .i64 n) /\ W.cell? ⟨pc, 1, none⟩ = some (.slice a zl cap) /\ W.cell? ⟨pc, 2, none⟩ = some (.slice ao ko co) /\ W.cell? ⟨pc, 3, none⟩ = some (.slice av kv cv) /\ W.cell? ⟨pc, 4, none⟩ = some (.int .i64 fine) /\ W.cell? ⟨w.heap.size, 0, none⟩ = some (.slice ra nr rc) /\ W.cell? ⟨w.heap.size, 1, none⟩ = some (.slice la ln lc))) (by kernel_rfl) ?_ (fun hHeld => ?_)
 · exact mp_cells (Q0.out.below (Below.refl _ _).drew)
 have G_d : Hid (MP w W0.drew pc #[.int .i64 n, .slice a zl cap, .slice ao ko co, .slice av kv cv, .int .i64 fine] #[.slice ra nr rc, .slice la ln lc]) := Q0.out.below (Below.refl _ _).drew
 generalize W0.drew = wd at *
 refine tkH 0 hHeld ?_
 refine tkH 1 hHeld ?_
 refine tkH 2 hHeld ?_
 refine wpAnyH_ready (rs := [3]) (by kernel_rfl) (by simp) ?_
 refine AllReadyH.cons rfl (fun K hK => ?_) AllReadyH.nil
 go_simp
 refine (SB.out wd G_d.out.b).mono ?_
 rintro e w3 ⟨sl, rfl, hb, ho⟩
 obtain ⟨sa, sc, e, hsl, hI⟩ := owns_at1 ho
 subst e
 rw [HXX.out] at hI ⊢
 rw [HXM.out]
 have G3 : Hid (MP w w3 pc #[.int .i64 n, .slice a zl cap, .slice ao ko co, .slice av kv cv, .int .i64 fine] #[.slice ra nr rc, .slice la ln lc]) := G_d.out.below hb
 have I3 : Hid (IntsAt w3 sa X) := hI
 clear hb ho hI hsl
 (try go_wp2_with fail)
 refine hK.out _ _ ?_ (fun hHeld => ?_)
 · exact mp_cells G3.out
 clear hK K
 (try simp only [Act.put, List.setIfInBounds_toArray, List.set_cons_zero, List.set_cons_succ])
 refine wpAnyH_ready (rs := [4]) (by kernel_rfl) (by simp) ?_
 refine AllReadyH.cons rfl (fun K hK => ?_) AllReadyH.nil
 go_simp
 refine (SF.out w3 sa sc G3.out.b I3.out).mono ?_
 rintro e w4 ⟨sl, rfl, hb, ho⟩
 have G4 : Hid (MP w w4 pc #[.int .i64 n, .slice a zl cap, .slice ao ko co, .slice av kv cv, .int .i64 fine] #[.slice ra nr rc, .slice la ln lc]) := G3.out.below hb
 have O4 : Hid (w4.ownsRow w.heap.size 74 3 sl (sp3 R vs kv X m).length ((spF (sp3 R vs kv X m)).map (Value.int .i64))) := owns_base ho G3.out.b.size
 clear hb ho
 (try go_wp2_with fail)
 refine hK.out _ _ ?_ (fun hHeld => ?_)
 · exact mp_cells G4.out
 clear hK K
 (try simp only [Act.put, List.setIfInBounds_toArray, List.set_cons_zero, List.set_cons_succ])
 refine tkH 5 hHeld ?_
 refine wpAnyH_done (by kernel_rfl) ?_ _
 clear hHeld
 go_wp2
 go_ret
 exact ⟨sl, rfl, G4.out.b, by rw [HXM.out]; exact O4.out⟩
set_option maxRecDepth 10000 in
set_option maxHeartbeats 2000000 in
theorem moveOne_any (n fine : Int) (a ao av ra la : Option Addr) (zl cap ko co kv cv nr rc ln lc pc : Nat) (zs os vs L : List Int) (R : List RT) (w : World) (hA : IntsAt w a zs) (hO : IntsAt w ao os) (hV : IntsAt w av vs) (hlz : zs.length = zl) (hlo : os.length = ko * 6) (hlv : vs.length = kv * 5) (hP : PlanIs w ra la nr ln R L) (hpl : planV n zs os vs ko kv fine R L = 0) (hpc : w.heap[pc]? = some (.cells #[.int .i64 n, .slice a zl cap, .slice ao ko co, .slice av kv cv, .int .i64 fine] 43 (0, 0))) (hko : ko <= 9223372036854775807) (hkv : kv <= 9223372036854775807) (pm pp : Nat) (hpm : w.heap[pm]? = some (.cells #[Value.func (.func 82) #[] #[.pointer (some ⟨pc, 0, none⟩)], Value.func (.func 85) #[] #[.pointer (some ⟨pc, 0, none⟩)]] 91 (0, 0))) (hpp : w.heap[pp]? = some (.cells #[.slice ra nr rc, .slice la ln lc] 36 (0, 0))) (id veh : Int) (pl : Nat) :
   Calls Tryz.prog 87 #[.agg #[.int .i64 id, .int .i64 veh, .int .i64 (pl : Int)], .pointer (some ⟨pm, 0, none⟩), .pointer (some ⟨pp, 0, none⟩)] w fun e w' => e = .returned (.tuple #[.int .i64 (mvD n fine zs os vs ko kv R L (id, veh, pl)), .bool (mvB n fine zs os vs ko kv R L (id, veh, pl))]) /\ Below w.heap.size w w' := by
 have B0 : Hid (Below w.heap.size w (w.alloc (.cells #[.int .i64 id, .int .i64 veh, .int .i64 (pl : Int)] 74))) := (Below.refl _ _).alloc (Nat.le_refl _) _
 have N0 : Hid ((w.alloc (.cells #[.int .i64 id, .int .i64 veh, .int .i64 (pl : Int)] 74)).heap[w.heap.size]? = some (.cells #[.int .i64 id, .int .i64 veh, .int .i64 (pl : Int)] 74 (0, 0))) := heap_alloc_new _ _
 have RM := relocMade_any id veh (pl : Int) n fine a ao av ra la zl cap ko co kv cv nr rc ln lc pc zs os vs L R _ (hA.below B0.out) (hO.below B0.out) (hV.below B0.out) hlz hlo hlv hko hkv (hP.below B0.out) hpl (below_row B0.out (row_lt hpc) hpc)
 have hpm1 := below_row B0.out (row_lt hpm) hpm
 have hpp1 := below_row B0.out (row_lt hpp) hpp
 have HE : Hid (mvB n fine zs os vs ko kv R L (id, veh, pl) = (rqB id veh (pl : Int) n fine zs os vs ko kv R L && decide (rqD id veh (pl : Int) n fine zs os vs ko kv R L < 0))) := rfl
 have HE2 : Hid (mvD n fine zs os vs ko kv R L (id, veh, pl) = rqD id veh (pl : Int) n fine zs os vs ko kv R L) := rfl
 rw [HE.out, HE2.out]
 obtain ⟨D, HGD⟩ : ∃ v, Hid (rqD id veh (pl : Int) n fine zs os vs ko kv R L = v) := ⟨_, rfl⟩
 obtain ⟨ch, HGB⟩ : ∃ v, Hid (rqB id veh (pl : Int) n fine zs os vs ko kv R L = v) := ⟨_, rfl⟩
 obtain ⟨GR, HGR⟩ : ∃ v, Hid (rqR id veh (pl : Int) n fine zs os vs ko kv R L = v) := ⟨_, rfl⟩
 obtain ⟨GL, HGL⟩ : ∃ v, Hid (rqL id veh (pl : Int) n fine zs os vs ko kv R L = v) := ⟨_, rfl⟩
 rw [HGD.out, HGB.out, HGR.out, HGL.out] at RM
 rw [HGD.out, HGB.out]
 clear hA hO hV hlz hlo hlv hP hpl hpc HGD HGB HGR HGL HE HE2 hpm hpp
 go_enter Tryz.func87, Tryz.ntmps87
 obtain ⟨m0, m1⟩ := cells2 hpm1
 obtain ⟨r0, r1⟩ := cells2 hpp1
 obtain ⟨n0, n1, n2⟩ := cells3s N0.out
 go_wp2_with fail
 clear m0 m1 r0 r1 n0 n1 n2
 refine RM.mono ?_
 rintro e w2 ⟨ra2, n2, rc2, la2, l2, lc2, R2, rfl, hb, -⟩
 have B2 : Hid (Below w.heap.size w (w2.alloc (.cells #[.slice ra2 n2 rc2, .slice la2 l2 lc2] 36))) := (B0.out.trans (hb.mono B0.out.size)).alloc (Nat.le_trans B0.out.size hb.size) _
 clear hb hpm1 hpp1 RM
 cases ch
 · go_wp2
   go_ret2
   exact ⟨rfl, B2.out⟩
 · go_wp2
   go_ret2
   exact ⟨by simp, B2.out⟩
structure MV (w W : World) (ms ps : Array Value) : Prop where
 b : Below w.heap.size w W
 m : W.heap[w.heap.size]? = some (.cells ms 91 (0, 0))
 p : W.heap[w.heap.size + 1]? = some (.cells ps 36 (0, 0))
 o : W.heap[w.heap.size + 2]? = some (.cells #[.int .i64 0, .int .i64 0, .int .i64 0] 74 (0, 0))
theorem MV.below {w W W' : World} {ms ps : Array Value} (h : MV w W ms ps) (hb : Below W.heap.size W W') : MV w W' ms ps :=
 ⟨h.b.trans (hb.mono h.b.size), below_row hb (row_lt h.m) h.m, below_row hb (row_lt h.p) h.p, below_row hb (row_lt h.o) h.o⟩
theorem MV.new (w : World) (ms ps : Array Value) : MV w (((w.alloc (.cells ms 91)).alloc (.cells ps 36)).alloc (.cells #[.int .i64 0, .int .i64 0, .int .i64 0] 74)) ms ps := by
 refine ⟨(((Below.refl _ _).alloc (Nat.le_refl _) _).alloc (by simp) _).alloc (by simp <;> omega) _, ?_, ?_, ?_⟩
 · exact (heap_alloc_old _ _ (by simp <;> omega)).trans (heap_alloc2_old _ _ _)
 · exact (heap_alloc_old _ _ (by simp)).trans (heap_alloc2_new _ _ _)
 · have := heap_alloc_new ((w.alloc (.cells ms 91)).alloc (.cells ps 36)) (.cells #[.int .i64 0, .int .i64 0, .int .i64 0] 74)
   simpa using this
set_option maxRecDepth 10000 in
set_option maxHeartbeats 2000000 in
theorem bestMove_any (n fine : Int) (a ao av ra la : Option Addr) (zl cap ko co kv cv nr rc ln lc pc : Nat) (zs os vs L : List Int) (R : List RT) (w : World) (hA : IntsAt w a zs) (hO : IntsAt w ao os) (hV : IntsAt w av vs) (hlz : zs.length = zl) (hlo : os.length = ko * 6) (hlv : vs.length = kv * 5) (hP : PlanIs w ra la nr ln R L) (hpl : planV n zs os vs ko kv fine R L = 0) (hpc : w.heap[pc]? = some (.cells #[.int .i64 n, .slice a zl cap, .slice ao ko co, .slice av kv cv, .int .i64 fine] 43 (0, 0))) (hko : ko <= 9223372036854775807) (hkv : kv <= 9223372036854775807) (q : QS) (hq : brQ n fine zs os vs ko kv R L = q) :
   Calls Tryz.prog 52 #[.agg #[Value.func (.func 82) #[] #[.pointer (some ⟨pc, 0, none⟩)], Value.func (.func 85) #[] #[.pointer (some ⟨pc, 0, none⟩)]], .agg #[.slice ra nr rc, .slice la ln lc]] w fun e w' => e = .returned (.tuple #[.agg #[.int .i64 q.s.1, .int .i64 q.s.2.1, .int .i64 (q.s.2.2 : Int)], .int .i64 q.v, .bool q.f]) /\ Below w.heap.size w w' := by
 have HA : Hid (IntsAt w a zs) := hA
 have HO : Hid (IntsAt w ao os) := hO
 have HV : Hid (IntsAt w av vs) := hV
 have HLZ : Hid (zs.length = zl) := hlz
 have HLO : Hid (os.length = ko * 6) := hlo
 have HLV : Hid (vs.length = kv * 5) := hlv
 have HP : Hid (PlanIs w ra la nr ln R L) := hP
 have HN : Hid (R.length = nr) := hP.1
 have HPL : Hid (planV n zs os vs ko kv fine R L = 0) := hpl
 have HPC : Hid (w.heap[pc]? = some (.cells #[.int .i64 n, .slice a zl cap, .slice ao ko co, .slice av kv cv, .int .i64 fine] 43 (0, 0))) := hpc
 clear hA hO hV hlz hlo hlv hP hpl hpc
 have HQ : Hid (brQ n fine zs os vs ko kv R L = q) := hq
 clear hq
 have hmf : ∀ (fn : Fn) (first cap : Array Value) (w : World), (Instr.makeFunc fn first cap).run Tryz.prog w = .ok (.func fn first cap) w := fun _ _ _ _ => rfl
 have C0 : Hid (MV w (((w.alloc (.cells #[Value.func (.func 82) #[] #[.pointer (some ⟨pc, 0, none⟩)], Value.func (.func 85) #[] #[.pointer (some ⟨pc, 0, none⟩)]] 91)).alloc (.cells #[.slice ra nr rc, .slice la ln lc] 36)).alloc (.cells #[.int .i64 0, .int .i64 0, .int .i64 0] 74)) #[Value.func (.func 82) #[] #[.pointer (some ⟨pc, 0, none⟩)], Value.func (.func 85) #[] #[.pointer (some ⟨pc, 0, none⟩)]] #[.slice ra nr rc, .slice la ln lc]) := MV.new w _ _
 have RA := relocAll_any n fine a ao av ra la zl cap ko co kv cv nr rc ln lc pc zs os vs L R _ (HA.out.below C0.out.b) (HO.out.below C0.out.b) (HV.out.below C0.out.b) HLZ.out HLO.out HLV.out (HP.out.below C0.out.b) HPL.out (below_row C0.out.b (row_lt HPC.out) HPC.out)
 have hsl : (sp3 R vs kv (servV n zs os vs ko kv fine R L) (servV n zs os vs ko kv fine R L).length).length <= 1000 := by
   obtain ⟨g1, g2, _⟩ := planV_zero HPL.out
   have h1 := sp3_len (fun r hr => code12 ((rts_iff.1 g2).2 r hr).2) vs (vehsB_true (caseB_parts g1).2.2.1).1 (servV n zs os vs ko kv fine R L) (servV n zs os vs ko kv fine R L).length
   have h2 := servV_len n zs os vs ko kv fine R L
   omega
 obtain ⟨X, HX⟩ : ∃ v, Hid (sp3 R vs kv (servV n zs os vs ko kv fine R L) (servV n zs os vs ko kv fine R L).length = v) := ⟨_, rfl⟩
 have HQX : Hid (qst (mvB n fine zs os vs ko kv R L) (mvD n fine zs os vs ko kv R L) X = q) := by rw [<- HX.out]; exact HQ.out
 rw [HX.out] at RA hsl
 obtain ⟨m, HM⟩ : ∃ v, Hid (X.length = v) := ⟨_, rfl⟩
 rw [HM.out] at RA
 go_enter Tryz.func52, Tryz.ntmps52
 obtain ⟨m0, m1⟩ := cells2 C0.out.m
 obtain ⟨r0, r1⟩ := cells2 C0.out.p
 go_wp2_with fail
 generalize ((w.alloc (.cells #[Value.func (.func 82) #[] #[.pointer (some ⟨pc, 0, none⟩)], Value.func (.func 85) #[] #[.pointer (some ⟨pc, 0, none⟩)]] 91)).alloc (.cells #[.slice ra nr rc, .slice la ln lc] 36)).alloc (.cells #[.int .i64 0, .int .i64 0, .int .i64 0] 74) = W0 at *
 clear m0 m1 r0 r1
 refine RA.mono ?_
 rintro e w1 ⟨sl, rfl, hb, ho⟩
 obtain ⟨sa, sc, e⟩ := own_anyV ho
 subst e
 have C1 : Hid (MV w w1 #[Value.func (.func 82) #[] #[.pointer (some ⟨pc, 0, none⟩)], Value.func (.func 85) #[] #[.pointer (some ⟨pc, 0, none⟩)]] #[.slice ra nr rc, .slice la ln lc]) := C0.out.below hb
 have S1 : Hid (IntsAt w1 sa (spF X)) := spots_at ho
 clear hb ho C0 RA HX HQ
 have LM := leastMoves_any sa sc w.heap.size (w.heap.size + 1) X (mvB n fine zs os vs ko kv R L) (mvD n fine zs os vs ko kv R L) w1 S1.out hsl (fun W id veh pl hW => by
   have hB := C1.out.b.trans (hW.mono C1.out.b.size)
   exact moveOne_any n fine a ao av ra la zl cap ko co kv cv nr rc ln lc pc zs os vs L R W (HA.out.below hB) (HO.out.below hB) (HV.out.below hB) HLZ.out HLO.out HLV.out (HP.out.below hB) HPL.out (below_row hB (row_lt HPC.out) HPC.out) hko hkv w.heap.size (w.heap.size + 1) (below_row hW (row_lt C1.out.m) C1.out.m) (below_row hW (row_lt C1.out.p) C1.out.p) id veh pl) q HQX.out
 rw [HM.out] at LM
 go_wp2_with fail
 refine LM.mono ?_
 rintro e w2 ⟨rfl, hb⟩
 have C2 : Hid (MV w w2 #[Value.func (.func 82) #[] #[.pointer (some ⟨pc, 0, none⟩)], Value.func (.func 85) #[] #[.pointer (some ⟨pc, 0, none⟩)]] #[.slice ra nr rc, .slice la ln lc]) := C1.out.below hb
 clear hb C1 S1 LM HQX
 obtain ⟨sf, ⟨s1, s2, s3⟩, sv⟩ := q
 simp only
 obtain ⟨t0, t1, t2⟩ := cells3s C2.out.o
 have tf := fun i => frozen_of_row _ _ i _ _ C2.out.o
 go_wp2
 refine bodyPost_ret (v := .tuple #[.agg #[.int .i64 s1, .int .i64 s2, .int .i64 (s3 : Int)], .int .i64 sv, .bool sf]) (by simp [results, Tryz.results52, go_sem, t0, t1, t2]) rfl ⟨rfl, ?_⟩
 repeat (first | with_reducible exact C2.out.b | refine Below.setCell ?_ (by simp <;> omega) _)
structure DZ (w W : World) (ms ps : Array Value) : Prop where
 b : Below w.heap.size w W
 m : W.heap[w.heap.size]? = some (.cells ms 91 (0, 0))
 p : W.heap[w.heap.size + 1]? = some (.cells ps 36 (0, 0))
 o : W.heap[w.heap.size + 2]? = some (.cells #[.slice none 0 0, .slice none 0 0] 36 (0, 0))
theorem DZ.below {w W W' : World} {ms ps : Array Value} (h : DZ w W ms ps) (hb : Below W.heap.size W W') : DZ w W' ms ps :=
 ⟨h.b.trans (hb.mono h.b.size), below_row hb (row_lt h.m) h.m, below_row hb (row_lt h.p) h.p, below_row hb (row_lt h.o) h.o⟩
theorem DZ.new (w : World) (ms ps : Array Value) : DZ w (((w.alloc (.cells ms 91)).alloc (.cells ps 36)).alloc (.cells #[.slice none 0 0, .slice none 0 0] 36)) ms ps := by
 refine ⟨(((Below.refl _ _).alloc (Nat.le_refl _) _).alloc (by simp) _).alloc (by simp <;> omega) _, ?_, ?_, ?_⟩
 · exact (heap_alloc_old _ _ (by simp <;> omega)).trans (heap_alloc2_old _ _ _)
 · exact (heap_alloc_old _ _ (by simp)).trans (heap_alloc2_new _ _ _)
 · have := heap_alloc_new ((w.alloc (.cells ms 91)).alloc (.cells ps 36)) (.cells #[.slice none 0 0, .slice none 0 0] 36)
   simpa using this
theorem box_put2 {W : World} {k : Nat} {z0 z1 u v : Value} {T : TypeId} (h : W.heap[k]? = some (.cells #[z0, z1] T (0, 0))) : ((W.setCell ⟨k, 0, none⟩ u).setCell ⟨k, 1, none⟩ v).heap[k]? = some (.cells #[u, v] T (0, 0)) := by
 have s1 := heap_setCell_same W k 0 _ _ u h
 have s2 := heap_setCell_same _ k 1 _ _ v s1
 simpa using s2
theorem DZ.put {w W : World} {ms : Array Value} {r0 r1 : Value} (h : DZ w W ms #[r0, r1]) (u v : Value) : DZ w ((W.setCell ⟨w.heap.size + 1, 0, none⟩ u).setCell ⟨w.heap.size + 1, 1, none⟩ v) ms #[u, v] :=
 ⟨(h.b.setCell (by simp) _).setCell (by simp) _, row_set' (row_set' h.m (by omega)) (by omega), box_put2 h.p, row_set' (row_set' h.o (by omega)) (by omega)⟩
theorem planIs_box2 {W : World} {k : Nat} {T : TypeId} {a1 a2 : Option Addr} {n1 c1 n2 c2 : Nat} {ra la b1 b2 : Option Addr} {rn ln m1 d1 m2 d2 : Nat} {R : List RT} {L : List Int} (h : PlanIs W ra la rn ln R L) (hr : W.heap[k]? = some (.cells #[.slice a1 n1 c1, .slice a2 n2 c2] T (0, 0))) : PlanIs ((W.setCell ⟨k, 0, none⟩ (.slice b1 m1 d1)).setCell ⟨k, 1, none⟩ (.slice b2 m2 d2)) ra la rn ln R L := by
 have s1 := heap_setCell_same W k 0 _ _ (Value.slice b1 m1 d1) hr
 simp only [List.setIfInBounds_toArray, List.set_cons_zero] at s1
 exact ⟨h.1, h.2.1, routes_boxL (routes_boxL h.2.2.1 hr 0 _) s1 1 _, ints_boxL (ints_boxL h.2.2.2.1 hr 0 _) s1 1 _, h.2.2.2.2⟩
def DescPl (w : World) (v : Int) (T : List RT) (L : List Int) (e : Ending) (w' : World) : Prop := ∃ (ra2 : Option Addr) (n2 rc2 : Nat) (la2 : Option Addr) (l2 lc2 : Nat) (R2 : List RT), e = .returned (.tuple #[.agg #[.slice ra2 n2 rc2, .slice la2 l2 lc2], .int .i64 v]) /\ Below w.heap.size w w' /\ R2.map RT.key = T.map RT.key /\ PlanIs w' ra2 la2 n2 l2 R2 L
set_option maxRecDepth 10000 in
set_option maxHeartbeats 4000000 in
theorem descMove_any (n fine : Int) (a ao av ra la : Option Addr) (zl cap ko co kv cv nr rc ln lc pc : Nat) (zs os vs L : List Int) (R : List RT) (w : World) (hA : IntsAt w a zs) (hO : IntsAt w ao os) (hV : IntsAt w av vs) (hlz : zs.length = zl) (hlo : os.length = ko * 6) (hlv : vs.length = kv * 5) (hP : PlanIs w ra la nr ln R L) (hpl : planV n zs os vs ko kv fine R L = 0) (hpc : w.heap[pc]? = some (.cells #[.int .i64 n, .slice a zl cap, .slice ao ko co, .slice av kv cv, .int .i64 fine] 43 (0, 0))) (hko : ko <= 9223372036854775807) (hkv : kv <= 9223372036854775807) (N : Nat) (hN : N <= 60) :
   Calls Tryz.prog 56 #[.agg #[Value.func (.func 82) #[] #[.pointer (some ⟨pc, 0, none⟩)], Value.func (.func 85) #[] #[.pointer (some ⟨pc, 0, none⟩)]], .agg #[.slice ra nr rc, .slice la ln lc], .int .i64 (N : Int)] w (DescPl w (dsC n fine zs os vs ko kv L N R : Int) (dsR n fine zs os vs ko kv L N R) L) := by
 have HA : Hid (IntsAt w a zs) := hA
 have HO : Hid (IntsAt w ao os) := hO
 have HV : Hid (IntsAt w av vs) := hV
 have HLZ : Hid (zs.length = zl) := hlz
 have HLO : Hid (os.length = ko * 6) := hlo
 have HLV : Hid (vs.length = kv * 5) := hlv
 have HP : Hid (PlanIs w ra la nr ln R L) := hP
 have HPL : Hid (planV n zs os vs ko kv fine R L = 0) := hpl
 have HPC : Hid (w.heap[pc]? = some (.cells #[.int .i64 n, .slice a zl cap, .slice ao ko co, .slice av kv cv, .int .i64 fine] 43 (0, 0))) := hpc
 clear hA hO hV hlz hlo hlv hP hpl hpc
 obtain ⟨T, HT⟩ : ∃ v, Hid (dsR n fine zs os vs ko kv L N R = v) := ⟨_, rfl⟩
 obtain ⟨cnt, HC⟩ : ∃ v, Hid (dsC n fine zs os vs ko kv L N R = v) := ⟨_, rfl⟩
 rw [HT.out, HC.out]
 have D0 : Hid (DZ w (((w.alloc (.cells #[Value.func (.func 82) #[] #[.pointer (some ⟨pc, 0, none⟩)], Value.func (.func 85) #[] #[.pointer (some ⟨pc, 0, none⟩)]] 91)).alloc (.cells #[.slice ra nr rc, .slice la ln lc] 36)).alloc (.cells #[.slice none 0 0, .slice none 0 0] 36)) #[Value.func (.func 82) #[] #[.pointer (some ⟨pc, 0, none⟩)], Value.func (.func 85) #[] #[.pointer (some ⟨pc, 0, none⟩)]] #[.slice ra nr rc, .slice la ln lc]) := DZ.new w _ _
 go_enter Tryz.func56, Tryz.ntmps56
 go_wp2_with fail
 go_loopw [13] (fun t wr => ∃ (k : Nat) (cur : List RT) (ra1 : Option Addr) (n1 rc1 : Nat) (la1 : Option Addr) (l1 lc1 : Nat), k <= N /\ t = .int .i64 k /\ DZ w wr #[Value.func (.func 82) #[] #[.pointer (some ⟨pc, 0, none⟩)], Value.func (.func 85) #[] #[.pointer (some ⟨pc, 0, none⟩)]] #[.slice ra1 n1 rc1, .slice la1 l1 lc1] /\ PlanIs wr ra1 la1 n1 l1 cur L /\ planV n zs os vs ko kv fine cur L = 0 /\ (dsR n fine zs os vs ko kv L (N - k) cur).map RT.key = T.map RT.key /\ dsC n fine zs os vs ko kv L (N - k) cur + k = cnt) (fun t _ => 100 - (intOf t).toNat)
 case atStart =>
   exact ⟨0, R, ra, nr, rc, la, ln, lc, by omega, rfl, D0.out, HP.out.below D0.out.b, HPL.out, by rw [Nat.sub_zero, HT.out], by rw [Nat.sub_zero, HC.out]; omega⟩
 case round =>
   clear D0
   obtain ⟨k, cur, ra1, n1, rc1, la1, l1, lc1, hk, rfl, hD, hpi, hpv, hkr, hkc⟩ := hrel
   have D1 : Hid (DZ w wr #[Value.func (.func 82) #[] #[.pointer (some ⟨pc, 0, none⟩)], Value.func (.func 85) #[] #[.pointer (some ⟨pc, 0, none⟩)]] #[.slice ra1 n1 rc1, .slice la1 l1 lc1]) := hD
   have PI : Hid (PlanIs wr ra1 la1 n1 l1 cur L) := hpi
   have PV : Hid (planV n zs os vs ko kv fine cur L = 0) := hpv
   have KR : Hid ((dsR n fine zs os vs ko kv L (N - k) cur).map RT.key = T.map RT.key) := hkr
   have KC : Hid (dsC n fine zs os vs ko kv L (N - k) cur + k = cnt) := hkc
   clear hD hpi hpv hkr hkc HP HPL HT HC
   obtain ⟨q0, q1⟩ := cells2 D1.out.p
   by_cases hlt : k < N
   · have hlt' : (k : Int) < (N : Int) := by omega
     have hwk : IntKind.i64.wrap ((k : Int) + 1) = ((k + 1 : Nat) : Int) := by rw [IntWalk.i64_in _ (by omega)]; omega
     obtain ⟨m0, m1⟩ := cells2 D1.out.m
     obtain ⟨q, HQ⟩ : ∃ t, Hid (brQ n fine zs os vs ko kv cur L = t) := ⟨_, rfl⟩
     go_wp2_with fail
     clear m0 m1 q0 q1
     refine (bestMove_any n fine a ao av ra1 la1 zl cap ko co kv cv n1 rc1 l1 lc1 pc zs os vs L cur wr (HA.out.below D1.out.b) (HO.out.below D1.out.b) (HV.out.below D1.out.b) HLZ.out HLO.out HLV.out PI.out PV.out (below_row D1.out.b (row_lt HPC.out) HPC.out) hko hkv q HQ.out).mono ?_
     rintro e w2 ⟨rfl, hb⟩
     obtain ⟨sf, ⟨s1, s2, s3⟩, sv⟩ := q
     dsimp only
     have D2 : Hid (DZ w (w2.alloc (.cells #[.int .i64 s1, .int .i64 s2, .int .i64 (s3 : Int)] 74)) #[Value.func (.func 82) #[] #[.pointer (some ⟨pc, 0, none⟩)], Value.func (.func 85) #[] #[.pointer (some ⟨pc, 0, none⟩)]] #[.slice ra1 n1 rc1, .slice la1 l1 lc1]) := (D1.out.below hb).below ((Below.refl _ _).alloc (Nat.le_refl _) _)
     have N2 : Hid ((w2.alloc (.cells #[.int .i64 s1, .int .i64 s2, .int .i64 (s3 : Int)] 74)).heap[w2.heap.size]? = some (.cells #[.int .i64 s1, .int .i64 s2, .int .i64 (s3 : Int)] 74 (0, 0))) := heap_alloc_new _ _
     have PI2 : Hid (PlanIs (w2.alloc (.cells #[.int .i64 s1, .int .i64 s2, .int .i64 (s3 : Int)] 74)) ra1 la1 n1 l1 cur L) := (PI.out.below hb).below ((Below.refl _ _).alloc (Nat.le_refl _) _)
     clear hb D1 PI
     obtain ⟨q0, q1⟩ := cells2 D2.out.p
     cases sf
     · have hst : (brQ n fine zs os vs ko kv cur L).f = false := by rw [HQ.out]
       have e1 := KR.out
       have e2 := KC.out
       rw [(ds_stop hst (N - k)).1] at e1
       rw [(ds_stop hst (N - k)).2, Nat.zero_add] at e2
       subst e2
       have E1 : Hid (cur.map RT.key = T.map RT.key) := e1
       clear hst e1 KR KC HQ
       obtain ⟨t0, t1⟩ := cells2 D2.out.o
       have tf := fun i => frozen_of_row _ _ i _ _ D2.out.o
       have P3 : Hid _ := planIs_box2 (b1 := ra1) (m1 := n1) (d1 := rc1) (b2 := la1) (m2 := l1) (d2 := lc1) PI2.out D2.out.o
       go_wp2
       refine bodyPost_ret (v := .tuple #[.agg #[.slice ra1 n1 rc1, .slice la1 l1 lc1], .int .i64 (k : Int)]) (by simp [results, Tryz.results56, go_sem, t0, t1]) rfl ⟨ra1, n1, rc1, la1, l1, lc1, cur, rfl, (D2.out.b.setCell (by simp <;> omega) _).setCell (by simp <;> omega) _, E1.out, P3.out⟩
     · have hst : (brQ n fine zs os vs ko kv cur L).f = true := by rw [HQ.out]
       obtain ⟨b1, b2, b3, b4⟩ := br_made HQ.out rfl
       have hnk : N - k = (N - (k + 1)) + 1 := by omega
       have e1 := KR.out
       have e2 := KC.out
       rw [hnk, (ds_step hst _).1] at e1
       rw [hnk, (ds_step hst _).2] at e2
       have E1 : Hid ((dsR n fine zs os vs ko kv L (N - (k + 1)) (dsN n fine zs os vs ko kv L cur)).map RT.key = T.map RT.key) := e1
       have E2 : Hid (dsC n fine zs os vs ko kv L (N - (k + 1)) (dsN n fine zs os vs ko kv L cur) + 1 + k = cnt) := e2
       dsimp only at b1 b2 b3
       have RM := relocMade_pl s1 s2 (s3 : Int) n fine a ao av ra1 la1 zl cap ko co kv cv n1 rc1 l1 lc1 pc zs os vs L cur _ (HA.out.below D2.out.b) (HO.out.below D2.out.b) (HV.out.below D2.out.b) HLZ.out HLO.out HLV.out hko hkv PI2.out PV.out (below_row D2.out.b (row_lt HPC.out) HPC.out)
       rw [b1, b2, b3] at RM
       have B4 : Hid (planV n zs os vs ko kv fine (dsN n fine zs os vs ko kv L cur) L = 0) := b4
       obtain ⟨RD, HRD⟩ : ∃ v, Hid (rqD s1 s2 (s3 : Int) n fine zs os vs ko kv cur L = v) := ⟨_, rfl⟩
       rw [HRD.out] at RM
       obtain ⟨nx, HNX⟩ : ∃ v, Hid (dsN n fine zs os vs ko kv L cur = v) := ⟨_, rfl⟩
       rw [HNX.out] at RM E1 E2 B4
       clear hst e1 e2 b1 b2 b3 b4 KR KC HQ HRD HNX hnk
       obtain ⟨m0, m1⟩ := cells2 D2.out.m
       obtain ⟨n0, n1', n2'⟩ := cells3s N2.out
       have qf := fun i => frozen_of_row _ _ i _ _ D2.out.p
       go_wp2_with fail
       clear m0 m1 n0 n1' n2' q0 q1 qf
       refine RM.mono ?_
       rintro e w4 ⟨ra2, n2, rc2, la2, l2, lc2, R2, rfl, hb, hkey, hpi⟩
       have D4 : Hid (DZ w w4 #[Value.func (.func 82) #[] #[.pointer (some ⟨pc, 0, none⟩)], Value.func (.func 85) #[] #[.pointer (some ⟨pc, 0, none⟩)]] #[.slice ra1 n1 rc1, .slice la1 l1 lc1]) := D2.out.below hb
       have D5 : Hid (DZ w _ #[Value.func (.func 82) #[] #[.pointer (some ⟨pc, 0, none⟩)], Value.func (.func 85) #[] #[.pointer (some ⟨pc, 0, none⟩)]] #[.slice ra2 n2 rc2, .slice la2 l2 lc2]) := D4.out.put (.slice ra2 n2 rc2) (.slice la2 l2 lc2)
       have P5 : Hid _ := planIs_box2 (b1 := ra2) (m1 := n2) (d1 := rc2) (b2 := la2) (m2 := l2) (d2 := lc2) hpi D4.out.p
       have HK : Hid (R2.map RT.key = nx.map RT.key) := hkey
       clear hb hkey hpi D2 PI2 N2 RM
       obtain ⟨q0, q1⟩ := cells2 D4.out.p
       have qf := fun i => frozen_of_row _ _ i _ _ D4.out.p
       go_wp2
       go_roundw
       case rel =>
         exact ⟨k + 1, R2, ra2, n2, rc2, la2, l2, lc2, by omega, by first | rfl | go_num, D5.out, P5.out, by rw [planV_key L HK.out]; exact B4.out, (dsR_key _ HK.out).trans E1.out, by rw [dsC_key _ HK.out]; have := E2.out; omega⟩
       case measure => simp [intOf]; omega
   · have hke : k = N := by omega
     subst hke
     have e1 := KR.out
     have e2 := KC.out
     rw [Nat.sub_self] at e1 e2
     have e3 : k = cnt := by simpa [dsC] using e2
     subst e3
     have E1 : Hid (cur.map RT.key = T.map RT.key) := e1
     clear e1 e2 KR KC
     obtain ⟨t0, t1⟩ := cells2 D1.out.o
     have tf := fun i => frozen_of_row _ _ i _ _ D1.out.o
     have P3 : Hid _ := planIs_box2 (b1 := ra1) (m1 := n1) (d1 := rc1) (b2 := la1) (m2 := l1) (d2 := lc1) PI.out D1.out.o
     go_wp2
     refine bodyPost_ret (v := .tuple #[.agg #[.slice ra1 n1 rc1, .slice la1 l1 lc1], .int .i64 (k : Int)]) (by simp [results, Tryz.results56, go_sem, t0, t1]) rfl ⟨ra1, n1, rc1, la1, l1, lc1, cur, rfl, (D1.out.b.setCell (by simp <;> omega) _).setCell (by simp <;> omega) _, E1.out, P3.out⟩
end Go.Proofs.YtfpegaldloadaaaGreat
