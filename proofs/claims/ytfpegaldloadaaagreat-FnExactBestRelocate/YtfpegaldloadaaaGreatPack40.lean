import Derived.Test.YtfpegaldloadaaaGreatImplPlan
import Derived.Test.YtfpegaldloadaaaGreatPack8
import Derived.Test.YtfpegaldloadaaaGreatPack11
import Derived.Test.YtfpegaldloadaaaGreatPack12
import Derived.Test.YtfpegaldloadaaaGreatPack33
import Derived.Test.YtfpegaldloadaaaGreatPack35
import Derived.Test.YtfpegaldloadaaaGreatRelocPlan
import Derived.Test.YtfpegaldloadaaaGreatSpotsFor
import Derived.Laws.EntriesVeiled
import Derived.Deep.RegionHeld3
import Derived.Deep.CutRange
namespace Go.Proofs.YtfpegaldloadaaaGreat
open Go.RowKit
set_option maxHeartbeats 1000000 in
theorem relocations_any (cs : Array Value) (w : World) (n fine : Int) (a ao av : Option Addr) (cap ko co kv cv lz : Nat) (hcs : cs = #[.int .i64 n, .slice a lz cap, .slice ao ko co, .slice av kv cv, .int .i64 fine]) :
   Calls Tryz.prog 51 #[.agg cs] w fun e w' => ∃ pc, e = .returned (.agg #[Value.func (.func 82) #[] #[.pointer (some ⟨pc, 0, none⟩)], Value.func (.func 85) #[] #[.pointer (some ⟨pc, 0, none⟩)]]) /\ Below w.heap.size w w' /\ w'.heap[pc]? = some (.cells cs 43 (0, 0)) := by
 subst hcs
 have hmf : ∀ (fn : Fn) (first cap : Array Value) (w : World), (Instr.makeFunc fn first cap).run Tryz.prog w = .ok (.func fn first cap) w := fun _ _ _ _ => rfl
 go_enter Tryz.func51, Tryz.ntmps51
 go_wp2
 have q : ∀ (cs : Array Value), ((w.alloc (.cells cs 43)).alloc (.cells #[Value.func (.func 82) #[] #[.pointer (some ⟨w.heap.size, 0, none⟩)], Value.func (.func 85) #[] #[.pointer (some ⟨w.heap.size, 0, none⟩)]] 91)).heap[w.heap.size + 1]? = some (.cells #[Value.func (.func 82) #[] #[.pointer (some ⟨w.heap.size, 0, none⟩)], Value.func (.func 85) #[] #[.pointer (some ⟨w.heap.size, 0, none⟩)]] 91 (0, 0)) := fun cs => heap_alloc2_new _ _ _
 obtain ⟨q0, q1⟩ := cells2 (q #[Value.int .i64 n, Value.slice a lz cap, Value.slice ao ko co, Value.slice av kv cv, Value.int .i64 fine])
 refine bodyPost_ret (v := .agg #[Value.func (.func 82) #[] #[.pointer (some ⟨w.heap.size, 0, none⟩)], Value.func (.func 85) #[] #[.pointer (some ⟨w.heap.size, 0, none⟩)]]) (by simp [results, Tryz.results51, go_sem, q0, q1]) rfl ⟨w.heap.size, rfl, ((Below.refl _ _).alloc (Nat.le_refl _) _).alloc (by simp) _, heap_alloc2_old _ _ _⟩
structure RZ (w W : World) (ps ss : Array Value) : Prop where
 b : Below w.heap.size w W
 p : W.heap[w.heap.size]? = some (.cells ps 36 (0, 0))
 s : W.heap[w.heap.size + 1]? = some (.cells ss 74 (0, 0))
 o : W.heap[w.heap.size + 2]? = some (.cells #[.slice none 0 0, .slice none 0 0] 36 (0, 0))
theorem RZ.below {w W W' : World} {ps ss : Array Value} (h : RZ w W ps ss) (hb : Below W.heap.size W W') : RZ w W' ps ss :=
 ⟨h.b.trans (hb.mono h.b.size), below_row hb (row_lt h.p) h.p, below_row hb (row_lt h.s) h.s, below_row hb (row_lt h.o) h.o⟩
theorem RZ.new (w : World) (ps ss : Array Value) : RZ w (((w.alloc (.cells ps 36)).alloc (.cells ss 74)).alloc (.cells #[.slice none 0 0, .slice none 0 0] 36)) ps ss := by
 refine ⟨(((Below.refl _ _).alloc (Nat.le_refl _) _).alloc (by simp) _).alloc (by simp <;> omega) _, ?_, ?_, ?_⟩
 · exact (heap_alloc_old _ _ (by simp <;> omega)).trans (heap_alloc2_old _ _ _)
 · exact (heap_alloc_old _ _ (by simp)).trans (heap_alloc2_new _ _ _)
 · have := heap_alloc_new ((w.alloc (.cells ps 36)).alloc (.cells ss 74)) (.cells #[.slice none 0 0, .slice none 0 0] 36)
   simpa using this
set_option maxRecDepth 10000 in
set_option maxHeartbeats 2000000 in
theorem relocMade_any (id tv pl n fine : Int) (a ao av ra la : Option Addr) (zl cap ko co kv cv nr rc ln lc pc : Nat) (zs os vs L : List Int) (R : List RT) (w : World) (hA : IntsAt w a zs) (hO : IntsAt w ao os) (hV : IntsAt w av vs) (hlz : zs.length = zl) (hlo : os.length = ko * 6) (hlv : vs.length = kv * 5) (hko : ko <= 9223372036854775807) (hkv : kv <= 9223372036854775807) (hP : PlanIs w ra la nr ln R L) (hpl : planV n zs os vs ko kv fine R L = 0) (hpc : w.heap[pc]? = some (.cells #[.int .i64 n, .slice a zl cap, .slice ao ko co, .slice av kv cv, .int .i64 fine] 43 (0, 0))) :
   Calls Tryz.prog 85 #[.agg #[.slice ra nr rc, .slice la ln lc], .agg #[.int .i64 id, .int .i64 tv, .int .i64 pl], .pointer (some ⟨pc, 0, none⟩)] w (RelIs w (rqD id tv pl n fine zs os vs ko kv R L) (rqB id tv pl n fine zs os vs ko kv R L) (rqR id tv pl n fine zs os vs ko kv R L) (rqL id tv pl n fine zs os vs ko kv R L)) := by
 have Q0 : Hid (RZ w (((w.alloc (.cells #[.slice ra nr rc, .slice la ln lc] 36)).alloc (.cells #[.int .i64 id, .int .i64 tv, .int .i64 pl] 74)).alloc (.cells #[.slice none 0 0, .slice none 0 0] 36)) #[.slice ra nr rc, .slice la ln lc] #[.int .i64 id, .int .i64 tv, .int .i64 pl]) := RZ.new _ _ _
 have RL := relocated_any id tv pl n fine a ao av ra la zl cap ko co kv cv nr rc ln lc zs os vs L R _ (hA.below Q0.out.b) (hO.below Q0.out.b) (hV.below Q0.out.b) hlz hlo hlv hko hkv (hP.below Q0.out.b) hpl
 have hpc1 := below_row Q0.out.b (row_lt hpc) hpc
 obtain ⟨GD, HGD⟩ : ∃ v, Hid (rqD id tv pl n fine zs os vs ko kv R L = v) := ⟨_, rfl⟩
 obtain ⟨GB, HGB⟩ : ∃ v, Hid (rqB id tv pl n fine zs os vs ko kv R L = v) := ⟨_, rfl⟩
 obtain ⟨GR, HGR⟩ : ∃ v, Hid (rqR id tv pl n fine zs os vs ko kv R L = v) := ⟨_, rfl⟩
 obtain ⟨GL, HGL⟩ : ∃ v, Hid (rqL id tv pl n fine zs os vs ko kv R L = v) := ⟨_, rfl⟩
 rw [HGD.out, HGB.out, HGR.out, HGL.out] at RL
 rw [HGD.out, HGB.out, HGR.out, HGL.out]
 clear hA hO hV hlz hlo hlv hP hpl hpc HGD HGB HGR HGL
 go_enter Tryz.func85, Tryz.ntmps85
 obtain ⟨c0, c1, c2, c3, c4⟩ := cells5 hpc1
 obtain ⟨p0, p1⟩ := cells2 Q0.out.p
 obtain ⟨s0, s1, s2⟩ := cells3s Q0.out.s
 go_wp2_with fail
 generalize ((w.alloc (.cells #[.slice ra nr rc, .slice la ln lc] 36)).alloc (.cells #[.int .i64 id, .int .i64 tv, .int .i64 pl] 74)).alloc (.cells #[.slice none 0 0, .slice none 0 0] 36) = W0 at *
 refine RL.mono ?_
 rintro e w1 ⟨ra2, n2, rc2, la2, l2, lc2, R2, rfl, hb, h1, h2, h3, h4, h5, h6⟩
 have Q1 : Hid (RZ w w1 #[.slice ra nr rc, .slice la ln lc] #[.int .i64 id, .int .i64 tv, .int .i64 pl]) := Q0.out.below hb
 have HR1 : Hid (RoutesAt w1 ra2 R2) := h1
 have HL1 : Hid (IntsAt w1 la2 GL) := h3
 have HX : Hid (R2.length = n2 /\ GL.length = l2 /\ R2.map RT.key = GR.map RT.key /\ ((la2 = none /\ GL.length = 0) ∨ ∃ b off, la2 = some ⟨b, off, none⟩)) := ⟨h2, h4, h5, h6⟩
 clear hb h1 h2 h3 h4 h5 h6 Q0 RL c0 c1 c2 c3 c4 p0 p1 s0 s1 s2 hpc1
 obtain ⟨a0, a1⟩ := cells2 Q1.out.o
 have af := fun i => frozen_of_row _ _ i _ _ Q1.out.o
 have s1 := heap_setCell_same w1 (w.heap.size + 2) 0 _ _ (Value.slice ra2 n2 rc2) Q1.out.o
 have B2 : Hid (Below w.heap.size w ((w1.setCell ⟨w.heap.size + 2, 0, none⟩ (.slice ra2 n2 rc2)).setCell ⟨w.heap.size + 2, 1, none⟩ (.slice la2 l2 lc2))) := (Q1.out.b.setCell (by simp) _).setCell (by simp) _
 have R2h : Hid (RoutesAt ((w1.setCell ⟨w.heap.size + 2, 0, none⟩ (.slice ra2 n2 rc2)).setCell ⟨w.heap.size + 2, 1, none⟩ (.slice la2 l2 lc2)) ra2 R2) := routes_boxL (routes_boxL HR1.out Q1.out.o 0 _) s1 1 _
 have L2h : Hid (IntsAt ((w1.setCell ⟨w.heap.size + 2, 0, none⟩ (.slice ra2 n2 rc2)).setCell ⟨w.heap.size + 2, 1, none⟩ (.slice la2 l2 lc2)) la2 GL) := ints_boxL (ints_boxL HL1.out Q1.out.o 0 _) s1 1 _
 clear s1
 go_wp2
 refine bodyPost_ret (v := .tuple #[.agg #[.slice ra2 n2 rc2, .slice la2 l2 lc2], .int .i64 GD, .bool GB]) (by simp [results, Tryz.results85, go_sem, a0, a1]) rfl ?_
 show RelIs _ _ _ _ _ _ _
 exact ⟨ra2, n2, rc2, la2, l2, lc2, R2, rfl, B2.out, R2h.out, HX.out.1, L2h.out, HX.out.2.1, HX.out.2.2.1, HX.out.2.2.2⟩
structure MP (w W : World) (pc : Nat) (cs ps : Array Value) : Prop where
 b : Below w.heap.size w W
 c : W.heap[pc]? = some (.cells cs 43 (0, 0))
 p : W.heap[w.heap.size]? = some (.cells ps 36 (0, 0))
theorem MP.below {w W W' : World} {pc : Nat} {cs ps : Array Value} (h : MP w W pc cs ps) (hb : Below W.heap.size W W') : MP w W' pc cs ps :=
 ⟨h.b.trans (hb.mono h.b.size), below_row hb (row_lt h.c) h.c, below_row hb (row_lt h.p) h.p⟩
theorem mp_cells {w W : World} {pc : Nat} {n fine : Int} {a ao av ra la : Option Addr} {zl cap ko co kv cv nr rc ln lc : Nat} (h : MP w W pc #[.int .i64 n, .slice a zl cap, .slice ao ko co, .slice av kv cv, .int .i64 fine] #[.slice ra nr rc, .slice la ln lc]) : W.cell? ⟨pc, 0, none⟩ = some (.int .i64 n) /\ W.cell? ⟨pc, 1, none⟩ = some (.slice a zl cap) /\ W.cell? ⟨pc, 2, none⟩ = some (.slice ao ko co) /\ W.cell? ⟨pc, 3, none⟩ = some (.slice av kv cv) /\ W.cell? ⟨pc, 4, none⟩ = some (.int .i64 fine) /\ W.cell? ⟨w.heap.size, 0, none⟩ = some (.slice ra nr rc) /\ W.cell? ⟨w.heap.size, 1, none⟩ = some (.slice la ln lc) := by
 obtain ⟨c0, c1, c2, c3, c4⟩ := cells5 h.c
 obtain ⟨p0, p1⟩ := cells2 h.p
 exact ⟨c0, c1, c2, c3, c4, p0, p1⟩
set_option maxRecDepth 10000 in
set_option maxHeartbeats 2000000 in
theorem relocAll_any (n fine : Int) (a ao av ra la : Option Addr) (zl cap ko co kv cv nr rc ln lc pc : Nat) (zs os vs L : List Int) (R : List RT) (w : World) (hA : IntsAt w a zs) (hO : IntsAt w ao os) (hV : IntsAt w av vs) (hlz : zs.length = zl) (hlo : os.length = ko * 6) (hlv : vs.length = kv * 5) (hP : PlanIs w ra la nr ln R L) (hpl : planV n zs os vs ko kv fine R L = 0) (hpc : w.heap[pc]? = some (.cells #[.int .i64 n, .slice a zl cap, .slice ao ko co, .slice av kv cv, .int .i64 fine] 43 (0, 0))) :
   Calls Tryz.prog 82 #[.agg #[.slice ra nr rc, .slice la ln lc], .pointer (some ⟨pc, 0, none⟩)] w fun e w' => ∃ sl, e = .returned sl /\ Below w.heap.size w w' /\ w'.ownsRow w.heap.size 74 3 sl (sp3 R vs kv (servV n zs os vs ko kv fine R L) (servV n zs os vs ko kv fine R L).length).length ((spF (sp3 R vs kv (servV n zs os vs ko kv fine R L) (servV n zs os vs ko kv fine R L).length)).map (Value.int .i64)) := by
 have HA : Hid (IntsAt w a zs) := hA
 have HO : Hid (IntsAt w ao os) := hO
 have HV : Hid (IntsAt w av vs) := hV
 have HLZ : Hid (zs.length = zl) := hlz
 have HLO : Hid (os.length = ko * 6) := hlo
 have HLV : Hid (vs.length = kv * 5) := hlv
 have HP : Hid (PlanIs w ra la nr ln R L) := hP
 have HN : Hid (R.length = nr) := hP.1
 have HPL : Hid (planV n zs os vs ko kv fine R L = 0) := hpl
 have HPC : Hid (w.heap[pc]? = some (.cells #[.int .i64 n, .slice a zl cap, .slice ao ko co, .slice av kv cv, .int .i64 fine] 43 (0, 0))) := hpc
 clear hA hO hV hlz hlo hlv hP hpl hpc
 obtain ⟨X, HX⟩ : ∃ v, Hid ((servV n zs os vs ko kv fine R L) = v) := ⟨_, rfl⟩
 obtain ⟨m, HXM⟩ : ∃ v, Hid (X.length = v) := ⟨_, rfl⟩
 have HXX : Hid (srtS (allTo R R.length) = X) := by
   have := HX.out
   unfold servV at this
   rw [if_pos HPL.out] at this
   exact this
 obtain ⟨g1, g2, g3, _⟩ := planV_zero HPL.out
 obtain ⟨gp, gok⟩ := rts_iff.1 g2
 have hs := serv_small HPL.out
 have hps := plan_small HPL.out
 have hm : X.length <= 12 := by rw [<- HX.out]; exact servV_len ..
 have hk5 : kv <= 5 := (vehsB_true (caseB_parts g1).2.2.1).1
 have SB : Hid (∀ W, Below w.heap.size w W -> Calls Tryz.prog 84 #[.agg #[.slice ra nr rc, .slice la ln lc]] W fun e w' => ∃ sl, e = .returned sl /\ Below W.heap.size W w' /\ w'.ownsRow W.heap.size 2 1 sl (srtS (allTo R R.length)).length ((srtS (allTo R R.length)).map (Value.int .i64))) := fun W hW => by
   have := servedBy_any ra la rc ln lc R W (HP.out.2.2.1.below hW) (by omega) hs.2.2 hs.2.1 hs.1
   rw [show (Value.slice ra R.length rc) = .slice ra nr rc by rw [HN.out]] at this
   exact this
 have SF : Hid (∀ W sa sc, Below w.heap.size w W -> IntsAt W sa X -> Calls Tryz.prog 83 #[.agg #[.int .i64 n, .slice a zl cap, .slice ao ko co, .slice av kv cv, .int .i64 fine], .agg #[.slice ra nr rc, .slice la ln lc], .slice sa m sc] W fun e w' => ∃ sl, e = .returned sl /\ Below W.heap.size W w' /\ w'.ownsRow W.heap.size 74 3 sl (sp3 R vs kv X m).length ((spF (sp3 R vs kv X m)).map (Value.int .i64))) := fun W sa sc hW hI => by
   have := spotsFor_any n fine a ao av ra la sa zl cap ko co kv cv rc ln lc sc vs X R W (HV.out.below hW) HLV.out hk5 (HP.out.2.2.1.below hW) (by omega) (rises_pwL gp) (fun r hr => code12 (gok r hr).2) hI hm
   rw [HN.out, HXM.out] at this
   exact this
 clear g1 g2 g3 gp gok hs hps hm hk5
 rw [HX.out]
 have Q0 : Hid (MP w (w.alloc (.cells #[.slice ra nr rc, .slice la ln lc] 36)) pc #[.int .i64 n, .slice a zl cap, .slice ao ko co, .slice av kv cv, .int .i64 fine] #[.slice ra nr rc, .slice la ln lc]) := ⟨(Below.refl _ _).alloc (Nat.le_refl _) _, below_row ((Below.refl _ _).alloc (Nat.le_refl _) _) (row_lt HPC.out) HPC.out, heap_alloc_new _ _⟩
 go_enter Tryz.func82, Tryz.ntmps82
 go_wp2_with fail
 generalize w.alloc (.cells #[.slice ra nr rc, .slice la ln lc] 36) = W0 at *
 refine wp_region_held_drew (S := (fun W => W.cell? ⟨pc, 0, none⟩ = some (.int .i64 n) /\ W.cell? ⟨pc, 1, none⟩ = some (.slice a zl cap) /\ W.cell? ⟨pc, 2, none⟩ = some (.slice ao ko co) /\ W.cell? ⟨pc, 3, none⟩ = some (.slice av kv cv) /\ W.cell? ⟨pc, 4, none⟩ = some (.int .i64 fine) /\ W.cell? ⟨w.heap.size, 0, none⟩ = some (.slice ra nr rc) /\ W.cell? ⟨w.heap.size, 1, none⟩ = some (.slice la ln lc))) (by kernel_rfl) ?_ (fun hHeld => ?_)
 · exact mp_cells (Q0.out.below (Below.refl _ _).drew)
 have G_d : Hid (MP w W0.drew pc #[.int .i64 n, .slice a zl cap, .slice ao ko co, .slice av kv cv, .int .i64 fine] #[.slice ra nr rc, .slice la ln lc]) := Q0.out.below (Below.refl _ _).drew
 generalize W0.drew = wd at *
 refine tkH 0 hHeld ?_
 refine tkH 1 hHeld ?_
 refine tkH 2 hHeld ?_
 refine wpAnyH_ready (rs := [3]) (by kernel_rfl) (by simp) ?_
 refine AllReadyH.cons rfl (fun K hK => ?_) AllReadyH.nil
 go_simp
 refine (SB.out wd G_d.out.b).mono ?_
 rintro e w3 ⟨sl, rfl, hb, ho⟩
 obtain ⟨sa, sc, e, hsl, hI⟩ := owns_at1 ho
 subst e
 rw [HXX.out] at hI ⊢
 rw [HXM.out]
 have G3 : Hid (MP w w3 pc #[.int .i64 n, .slice a zl cap, .slice ao ko co, .slice av kv cv, .int .i64 fine] #[.slice ra nr rc, .slice la ln lc]) := G_d.out.below hb
 have I3 : Hid (IntsAt w3 sa X) := hI
 clear hb ho hI hsl
 (try go_wp2_with fail)
 refine hK.out _ _ ?_ (fun hHeld => ?_)
 · exact mp_cells G3.out
 clear hK K
 (try simp only [Act.put, List.setIfInBounds_toArray, List.set_cons_zero, List.set_cons_succ])
 refine wpAnyH_ready (rs := [4]) (by kernel_rfl) (by simp) ?_
 refine AllReadyH.cons rfl (fun K hK => ?_) AllReadyH.nil
 go_simp
 refine (SF.out w3 sa sc G3.out.b I3.out).mono ?_
 rintro e w4 ⟨sl, rfl, hb, ho⟩
 have G4 : Hid (MP w w4 pc #[.int .i64 n, .slice a zl cap, .slice ao ko co, .slice av kv cv, .int .i64 fine] #[.slice ra nr rc, .slice la ln lc]) := G3.out.below hb
 have O4 : Hid (w4.ownsRow w.heap.size 74 3 sl (sp3 R vs kv X m).length ((spF (sp3 R vs kv X m)).map (Value.int .i64))) := owns_base ho G3.out.b.size
 clear hb ho
 (try go_wp2_with fail)
 refine hK.out _ _ ?_ (fun hHeld => ?_)
 · exact mp_cells G4.out
 clear hK K
 (try simp only [Act.put, List.setIfInBounds_toArray, List.set_cons_zero, List.set_cons_succ])
 refine tkH 5 hHeld ?_
 refine wpAnyH_done (by kernel_rfl) ?_ _
 clear hHeld
 go_wp2
 go_ret
 exact ⟨sl, rfl, G4.out.b, by rw [HXM.out]; exact O4.out⟩
set_option maxRecDepth 10000 in
set_option maxHeartbeats 2000000 in
theorem moveOne_any (n fine : Int) (a ao av ra la : Option Addr) (zl cap ko co kv cv nr rc ln lc pc : Nat) (zs os vs L : List Int) (R : List RT) (w : World) (hA : IntsAt w a zs) (hO : IntsAt w ao os) (hV : IntsAt w av vs) (hlz : zs.length = zl) (hlo : os.length = ko * 6) (hlv : vs.length = kv * 5) (hP : PlanIs w ra la nr ln R L) (hpl : planV n zs os vs ko kv fine R L = 0) (hpc : w.heap[pc]? = some (.cells #[.int .i64 n, .slice a zl cap, .slice ao ko co, .slice av kv cv, .int .i64 fine] 43 (0, 0))) (hko : ko <= 9223372036854775807) (hkv : kv <= 9223372036854775807) (pm pp : Nat) (hpm : w.heap[pm]? = some (.cells #[Value.func (.func 82) #[] #[.pointer (some ⟨pc, 0, none⟩)], Value.func (.func 85) #[] #[.pointer (some ⟨pc, 0, none⟩)]] 91 (0, 0))) (hpp : w.heap[pp]? = some (.cells #[.slice ra nr rc, .slice la ln lc] 36 (0, 0))) (id veh : Int) (pl : Nat) :
   Calls Tryz.prog 87 #[.agg #[.int .i64 id, .int .i64 veh, .int .i64 (pl : Int)], .pointer (some ⟨pm, 0, none⟩), .pointer (some ⟨pp, 0, none⟩)] w fun e w' => e = .returned (.tuple #[.int .i64 (mvD n fine zs os vs ko kv R L (id, veh, pl)), .bool (mvB n fine zs os vs ko kv R L (id, veh, pl))]) /\ Below w.heap.size w w' := by
 have B0 : Hid (Below w.heap.size w (w.alloc (.cells #[.int .i64 id, .int .i64 veh, .int .i64 (pl : Int)] 74))) := (Below.refl _ _).alloc (Nat.le_refl _) _
 have N0 : Hid ((w.alloc (.cells #[.int .i64 id, .int .i64 veh, .int .i64 (pl : Int)] 74)).heap[w.heap.size]? = some (.cells #[.int .i64 id, .int .i64 veh, .int .i64 (pl : Int)] 74 (0, 0))) := heap_alloc_new _ _
 have RM := relocMade_any id veh (pl : Int) n fine a ao av ra la zl cap ko co kv cv nr rc ln lc pc zs os vs L R _ (hA.below B0.out) (hO.below B0.out) (hV.below B0.out) hlz hlo hlv hko hkv (hP.below B0.out) hpl (below_row B0.out (row_lt hpc) hpc)
 have hpm1 := below_row B0.out (row_lt hpm) hpm
 have hpp1 := below_row B0.out (row_lt hpp) hpp
 have HE : Hid (mvB n fine zs os vs ko kv R L (id, veh, pl) = (rqB id veh (pl : Int) n fine zs os vs ko kv R L && decide (rqD id veh (pl : Int) n fine zs os vs ko kv R L < 0))) := rfl
 have HE2 : Hid (mvD n fine zs os vs ko kv R L (id, veh, pl) = rqD id veh (pl : Int) n fine zs os vs ko kv R L) := rfl
 rw [HE.out, HE2.out]
 obtain ⟨D, HGD⟩ : ∃ v, Hid (rqD id veh (pl : Int) n fine zs os vs ko kv R L = v) := ⟨_, rfl⟩
 obtain ⟨ch, HGB⟩ : ∃ v, Hid (rqB id veh (pl : Int) n fine zs os vs ko kv R L = v) := ⟨_, rfl⟩
 obtain ⟨GR, HGR⟩ : ∃ v, Hid (rqR id veh (pl : Int) n fine zs os vs ko kv R L = v) := ⟨_, rfl⟩
 obtain ⟨GL, HGL⟩ : ∃ v, Hid (rqL id veh (pl : Int) n fine zs os vs ko kv R L = v) := ⟨_, rfl⟩
 rw [HGD.out, HGB.out, HGR.out, HGL.out] at RM
 rw [HGD.out, HGB.out]
 clear hA hO hV hlz hlo hlv hP hpl hpc HGD HGB HGR HGL HE HE2 hpm hpp
 go_enter Tryz.func87, Tryz.ntmps87
 obtain ⟨m0, m1⟩ := cells2 hpm1
 obtain ⟨r0, r1⟩ := cells2 hpp1
 obtain ⟨n0, n1, n2⟩ := cells3s N0.out
 go_wp2_with fail
 clear m0 m1 r0 r1 n0 n1 n2
 refine RM.mono ?_
 rintro e w2 ⟨ra2, n2, rc2, la2, l2, lc2, R2, rfl, hb, -⟩
 have B2 : Hid (Below w.heap.size w (w2.alloc (.cells #[.slice ra2 n2 rc2, .slice la2 l2 lc2] 36))) := (B0.out.trans (hb.mono B0.out.size)).alloc (Nat.le_trans B0.out.size hb.size) _
 clear hb hpm1 hpp1 RM
 cases ch
 · go_wp2
   go_ret2
   exact ⟨rfl, B2.out⟩
 · go_wp2
   go_ret2
   exact ⟨by simp, B2.out⟩
structure MV (w W : World) (ms ps : Array Value) : Prop where
 b : Below w.heap.size w W
 m : W.heap[w.heap.size]? = some (.cells ms 91 (0, 0))
 p : W.heap[w.heap.size + 1]? = some (.cells ps 36 (0, 0))
 o : W.heap[w.heap.size + 2]? = some (.cells #[.int .i64 0, .int .i64 0, .int .i64 0] 74 (0, 0))
theorem MV.below {w W W' : World} {ms ps : Array Value} (h : MV w W ms ps) (hb : Below W.heap.size W W') : MV w W' ms ps :=
 ⟨h.b.trans (hb.mono h.b.size), below_row hb (row_lt h.m) h.m, below_row hb (row_lt h.p) h.p, below_row hb (row_lt h.o) h.o⟩
theorem MV.new (w : World) (ms ps : Array Value) : MV w (((w.alloc (.cells ms 91)).alloc (.cells ps 36)).alloc (.cells #[.int .i64 0, .int .i64 0, .int .i64 0] 74)) ms ps := by
 refine ⟨(((Below.refl _ _).alloc (Nat.le_refl _) _).alloc (by simp) _).alloc (by simp <;> omega) _, ?_, ?_, ?_⟩
 · exact (heap_alloc_old _ _ (by simp <;> omega)).trans (heap_alloc2_old _ _ _)
 · exact (heap_alloc_old _ _ (by simp)).trans (heap_alloc2_new _ _ _)
 · have := heap_alloc_new ((w.alloc (.cells ms 91)).alloc (.cells ps 36)) (.cells #[.int .i64 0, .int .i64 0, .int .i64 0] 74)
   simpa using this
set_option maxRecDepth 10000 in
set_option maxHeartbeats 2000000 in
theorem bestMove_any (n fine : Int) (a ao av ra la : Option Addr) (zl cap ko co kv cv nr rc ln lc pc : Nat) (zs os vs L : List Int) (R : List RT) (w : World) (hA : IntsAt w a zs) (hO : IntsAt w ao os) (hV : IntsAt w av vs) (hlz : zs.length = zl) (hlo : os.length = ko * 6) (hlv : vs.length = kv * 5) (hP : PlanIs w ra la nr ln R L) (hpl : planV n zs os vs ko kv fine R L = 0) (hpc : w.heap[pc]? = some (.cells #[.int .i64 n, .slice a zl cap, .slice ao ko co, .slice av kv cv, .int .i64 fine] 43 (0, 0))) (hko : ko <= 9223372036854775807) (hkv : kv <= 9223372036854775807) (q : QS) (hq : brQ n fine zs os vs ko kv R L = q) :
   Calls Tryz.prog 52 #[.agg #[Value.func (.func 82) #[] #[.pointer (some ⟨pc, 0, none⟩)], Value.func (.func 85) #[] #[.pointer (some ⟨pc, 0, none⟩)]], .agg #[.slice ra nr rc, .slice la ln lc]] w fun e w' => e = .returned (.tuple #[.agg #[.int .i64 q.s.1, .int .i64 q.s.2.1, .int .i64 (q.s.2.2 : Int)], .int .i64 q.v, .bool q.f]) /\ Below w.heap.size w w' := by
 have HA : Hid (IntsAt w a zs) := hA
 have HO : Hid (IntsAt w ao os) := hO
 have HV : Hid (IntsAt w av vs) := hV
 have HLZ : Hid (zs.length = zl) := hlz
 have HLO : Hid (os.length = ko * 6) := hlo
 have HLV : Hid (vs.length = kv * 5) := hlv
 have HP : Hid (PlanIs w ra la nr ln R L) := hP
 have HN : Hid (R.length = nr) := hP.1
 have HPL : Hid (planV n zs os vs ko kv fine R L = 0) := hpl
 have HPC : Hid (w.heap[pc]? = some (.cells #[.int .i64 n, .slice a zl cap, .slice ao ko co, .slice av kv cv, .int .i64 fine] 43 (0, 0))) := hpc
 clear hA hO hV hlz hlo hlv hP hpl hpc
 have HQ : Hid (brQ n fine zs os vs ko kv R L = q) := hq
 clear hq
 have hmf : ∀ (fn : Fn) (first cap : Array Value) (w : World), (Instr.makeFunc fn first cap).run Tryz.prog w = .ok (.func fn first cap) w := fun _ _ _ _ => rfl
 have C0 : Hid (MV w (((w.alloc (.cells #[Value.func (.func 82) #[] #[.pointer (some ⟨pc, 0, none⟩)], Value.func (.func 85) #[] #[.pointer (some ⟨pc, 0, none⟩)]] 91)).alloc (.cells #[.slice ra nr rc, .slice la ln lc] 36)).alloc (.cells #[.int .i64 0, .int .i64 0, .int .i64 0] 74)) #[Value.func (.func 82) #[] #[.pointer (some ⟨pc, 0, none⟩)], Value.func (.func 85) #[] #[.pointer (some ⟨pc, 0, none⟩)]] #[.slice ra nr rc, .slice la ln lc]) := MV.new w _ _
 have RA := relocAll_any n fine a ao av ra la zl cap ko co kv cv nr rc ln lc pc zs os vs L R _ (HA.out.below C0.out.b) (HO.out.below C0.out.b) (HV.out.below C0.out.b) HLZ.out HLO.out HLV.out (HP.out.below C0.out.b) HPL.out (below_row C0.out.b (row_lt HPC.out) HPC.out)
 have hsl : (sp3 R vs kv (servV n zs os vs ko kv fine R L) (servV n zs os vs ko kv fine R L).length).length <= 1000 := by
   obtain ⟨g1, g2, _⟩ := planV_zero HPL.out
   have h1 := sp3_len (fun r hr => code12 ((rts_iff.1 g2).2 r hr).2) vs (vehsB_true (caseB_parts g1).2.2.1).1 (servV n zs os vs ko kv fine R L) (servV n zs os vs ko kv fine R L).length
   have h2 := servV_len n zs os vs ko kv fine R L
   omega
 obtain ⟨X, HX⟩ : ∃ v, Hid (sp3 R vs kv (servV n zs os vs ko kv fine R L) (servV n zs os vs ko kv fine R L).length = v) := ⟨_, rfl⟩
 have HQX : Hid (qst (mvB n fine zs os vs ko kv R L) (mvD n fine zs os vs ko kv R L) X = q) := by rw [<- HX.out]; exact HQ.out
 rw [HX.out] at RA hsl
 obtain ⟨m, HM⟩ : ∃ v, Hid (X.length = v) := ⟨_, rfl⟩
 rw [HM.out] at RA
 go_enter Tryz.func52, Tryz.ntmps52
 obtain ⟨m0, m1⟩ := cells2 C0.out.m
 obtain ⟨r0, r1⟩ := cells2 C0.out.p
 go_wp2_with fail
 generalize ((w.alloc (.cells #[Value.func (.func 82) #[] #[.pointer (some ⟨pc, 0, none⟩)], Value.func (.func 85) #[] #[.pointer (some ⟨pc, 0, none⟩)]] 91)).alloc (.cells #[.slice ra nr rc, .slice la ln lc] 36)).alloc (.cells #[.int .i64 0, .int .i64 0, .int .i64 0] 74) = W0 at *
 clear m0 m1 r0 r1
 refine RA.mono ?_
 rintro e w1 ⟨sl, rfl, hb, ho⟩
 obtain ⟨sa, sc, e⟩ := own_anyV ho
 subst e
 have C1 : Hid (MV w w1 #[Value.func (.func 82) #[] #[.pointer (some ⟨pc, 0, none⟩)], Value.func (.func 85) #[] #[.pointer (some ⟨pc, 0, none⟩)]] #[.slice ra nr rc, .slice la ln lc]) := C0.out.below hb
 have S1 : Hid (IntsAt w1 sa (spF X)) := spots_at ho
 clear hb ho C0 RA HX HQ
 have LM := leastMoves_any sa sc w.heap.size (w.heap.size + 1) X (mvB n fine zs os vs ko kv R L) (mvD n fine zs os vs ko kv R L) w1 S1.out hsl (fun W id veh pl hW => by
   have hB := C1.out.b.trans (hW.mono C1.out.b.size)
   exact moveOne_any n fine a ao av ra la zl cap ko co kv cv nr rc ln lc pc zs os vs L R W (HA.out.below hB) (HO.out.below hB) (HV.out.below hB) HLZ.out HLO.out HLV.out (HP.out.below hB) HPL.out (below_row hB (row_lt HPC.out) HPC.out) hko hkv w.heap.size (w.heap.size + 1) (below_row hW (row_lt C1.out.m) C1.out.m) (below_row hW (row_lt C1.out.p) C1.out.p) id veh pl) q HQX.out
 rw [HM.out] at LM
 go_wp2_with fail
 refine LM.mono ?_
 rintro e w2 ⟨rfl, hb⟩
 have C2 : Hid (MV w w2 #[Value.func (.func 82) #[] #[.pointer (some ⟨pc, 0, none⟩)], Value.func (.func 85) #[] #[.pointer (some ⟨pc, 0, none⟩)]] #[.slice ra nr rc, .slice la ln lc]) := C1.out.below hb
 clear hb C1 S1 LM HQX
 obtain ⟨sf, ⟨s1, s2, s3⟩, sv⟩ := q
 simp only
 obtain ⟨t0, t1, t2⟩ := cells3s C2.out.o
 have tf := fun i => frozen_of_row _ _ i _ _ C2.out.o
 go_wp2
 refine bodyPost_ret (v := .tuple #[.agg #[.int .i64 s1, .int .i64 s2, .int .i64 (s3 : Int)], .int .i64 sv, .bool sf]) (by simp [results, Tryz.results52, go_sem, t0, t1, t2]) rfl ⟨rfl, ?_⟩
 repeat (first | with_reducible exact C2.out.b | refine Below.setCell ?_ (by simp <;> omega) _)
set_option maxRecDepth 10000 in
set_option maxHeartbeats 4000000 in
theorem implBestRel_any (n fine : Int) (a ao av ra la : Option Addr) (zl cap ko co kv cv nr rc ln lc : Nat) (zs os vs L : List Int) (R : List RT) (w : World) (hA : IntsAt w a zs) (hO : IntsAt w ao os) (hV : IntsAt w av vs) (hlz : zs.length = zl) (hlo : os.length = ko * 6) (hlv : vs.length = kv * 5) (hko : ko <= 9223372036854775807) (hkv : kv <= 9223372036854775807) (hP : PlanIs w ra la nr ln R L) (hn : nr <= 1048576) (hi : ∀ r ∈ R, r.ids.length <= 1048576) (hll : ln <= 1048576) (hal : (allTo R R.length).length <= 1048576) (hwl : ∀ x ∈ L, (Lit.int .i64 x).wf = true) (q : QS) (hq : brQ n fine zs os vs ko kv R L = q) :
   Calls Tryz.prog 18 #[.agg #[.int .i64 n, .slice a zl cap, .slice ao ko co, .slice av kv cv, .int .i64 fine], .agg #[.slice ra nr rc, .slice la ln lc]] w fun e w' => e = .returned (.tuple #[.int .i64 q.s.1, .int .i64 q.s.2.1, .int .i64 (q.s.2.2 : Int), .int .i64 q.v]) /\ Below w.heap.size w w' := by
 have HA : Hid (IntsAt w a zs) := hA
 have HO : Hid (IntsAt w ao os) := hO
 have HV : Hid (IntsAt w av vs) := hV
 have HLZ : Hid (zs.length = zl) := hlz
 have HLO : Hid (os.length = ko * 6) := hlo
 have HLV : Hid (vs.length = kv * 5) := hlv
 have HP : Hid (PlanIs w ra la nr ln R L) := hP
 have HN : Hid (R.length = nr) := hP.1
 have HM : Hid (L.length = ln) := hP.2.1
 have HI : Hid (∀ r ∈ R, r.ids.length <= 1048576) := hi
 have HQ : Hid (brQ n fine zs os vs ko kv R L = q) := hq
 have HQF : Hid (q.f = false -> q = qs0) := fun h => by
   rw [<- hq] at h ⊢
   exact qst_zero _ h
 clear hA hO hV hlz hlo hlv hP hi hq
 obtain ⟨pv, HPV⟩ : ∃ v, Hid (planV n zs os vs ko kv fine R L = v) := ⟨_, rfl⟩
 have HNO : Hid (pv ≠ 0 -> q = qs0) := fun h => by
   rw [<- HQ.out]
   exact brQ_none (by rw [HPV.out]; exact h)
 have BM0 : Hid (pv = 0 -> ∀ W pc, Below w.heap.size w W -> W.heap[pc]? = some (.cells #[.int .i64 n, .slice a zl cap, .slice ao ko co, .slice av kv cv, .int .i64 fine] 43 (0, 0)) -> Calls Tryz.prog 52 #[.agg #[Value.func (.func 82) #[] #[.pointer (some ⟨pc, 0, none⟩)], Value.func (.func 85) #[] #[.pointer (some ⟨pc, 0, none⟩)]], .agg #[.slice ra nr rc, .slice la ln lc]] W fun e w' => e = .returned (.tuple #[.agg #[.int .i64 q.s.1, .int .i64 q.s.2.1, .int .i64 (q.s.2.2 : Int)], .int .i64 q.v, .bool q.f]) /\ Below W.heap.size W w') := fun h W pc hW hpc => bestMove_any n fine a ao av ra la zl cap ko co kv cv nr rc ln lc pc zs os vs L R W (HA.out.below hW) (HO.out.below hW) (HV.out.below hW) HLZ.out HLO.out HLV.out (HP.out.below hW) (HPV.out.trans h) hpc hko hkv q HQ.out
 have Q0 : Hid (BCP w ((w.alloc (.cells #[.int .i64 n, .slice a zl cap, .slice ao ko co, .slice av kv cv, .int .i64 fine] 43)).alloc (.cells #[.slice ra nr rc, .slice la ln lc] 36)) #[.int .i64 n, .slice a zl cap, .slice ao ko co, .slice av kv cv, .int .i64 fine] #[.slice ra nr rc, .slice la ln lc]) := BCP.new _ _ _
 have PC := implPlan_any n fine a ao av ra la cap ko co kv cv rc lc zs os vs L R ((w.alloc (.cells #[.int .i64 n, .slice a zl cap, .slice ao ko co, .slice av kv cv, .int .i64 fine] 43)).alloc (.cells #[.slice ra nr rc, .slice la ln lc] 36)) (HA.out.below Q0.out.b) (HO.out.below Q0.out.b) (HV.out.below Q0.out.b) (HP.out.2.2.1.below Q0.out.b) (HP.out.2.2.2.1.below Q0.out.b) HLO.out HLV.out hko hkv (by rw [HN.out]; exact hn) HI.out HP.out.2.2.2.2.2.2 (by rw [HM.out]; exact hll) hal hwl
 rw [HN.out, HM.out, HLZ.out, HPV.out] at PC
 obtain ⟨sf, ⟨s1, s2, s3⟩, sv⟩ := q
 simp only at BM0 HNO HQF ⊢
 obtain ⟨c0, c1, c2, c3, c4⟩ := cells5 Q0.out.c
 obtain ⟨p0, p1⟩ := cells2 Q0.out.p
 go_enter Tryz.func18, Tryz.ntmps18
 go_wp2_with fail
 generalize (w.alloc (.cells #[.int .i64 n, .slice a zl cap, .slice ao ko co, .slice av kv cv, .int .i64 fine] 43)).alloc (.cells #[.slice ra nr rc, .slice la ln lc] 36) = W0 at *
 refine PC.mono ?_
 rintro e w1 ⟨rfl, hb⟩
 have Q1 : Hid (BCP w w1 #[.int .i64 n, .slice a zl cap, .slice ao ko co, .slice av kv cv, .int .i64 fine] #[.slice ra nr rc, .slice la ln lc]) := Q0.out.below hb
 clear hb PC c0 c1 c2 c3 c4 p0 p1 Q0 HPV HQ
 by_cases hpv : pv = 0
 · have BM1 := BM0.out hpv
   have BM : Hid _ := BM1
   subst hpv
   clear HNO BM0 BM1
   go_upto_region 3 with fail
   go_cut [8, 9, 10] from 15 to 22 (fun s8 s9 s10 wx => ∃ kz : Nat, s8 = .pointer (some ⟨kz, 0, none⟩) /\ s9 = .int .i64 sv /\ s10 = .bool sf /\ BCP w wx #[.int .i64 n, .slice a zl cap, .slice ao ko co, .slice av kv cv, .int .i64 fine] #[.slice ra nr rc, .slice la ln lc] /\ wx.heap[kz]? = some (.cells #[.int .i64 s1, .int .i64 s2, .int .i64 (s3 : Int)] 74 (0, 0)))
   case first =>
     go_wp2_with fail
     refine wp_region_held_drew (S := (fun W => W.cell? ⟨w.heap.size, 0, none⟩ = some (.int .i64 n) /\ W.cell? ⟨w.heap.size, 1, none⟩ = some (.slice a zl cap) /\ W.cell? ⟨w.heap.size, 2, none⟩ = some (.slice ao ko co) /\ W.cell? ⟨w.heap.size, 3, none⟩ = some (.slice av kv cv) /\ W.cell? ⟨w.heap.size, 4, none⟩ = some (.int .i64 fine) /\ W.cell? ⟨w.heap.size + 1, 0, none⟩ = some (.slice ra nr rc) /\ W.cell? ⟨w.heap.size + 1, 1, none⟩ = some (.slice la ln lc))) (by kernel_rfl) ?_ (fun hHeld => ?_)
     · exact bcp_cells (Q1.out.below (Below.refl _ _).drew)
     have G_d : Hid (BCP w w1.drew #[.int .i64 n, .slice a zl cap, .slice ao ko co, .slice av kv cv, .int .i64 fine] #[.slice ra nr rc, .slice la ln lc]) := Q1.out.below (Below.refl _ _).drew
     generalize w1.drew = wd at *
     refine tkH 0 hHeld ?_
     refine tkH 2 hHeld ?_
     refine wpAnyH_ready (rs := [1, 8]) (by kernel_rfl) (by simp) ?_
     refine AllReadyH.cons rfl (fun K hK => ?_) ?_
     · skip
       go_simp
       refine (relocations_any #[.int .i64 n, .slice a zl cap, .slice ao ko co, .slice av kv cv, .int .i64 fine] wd n fine a ao av cap ko co kv cv zl rfl).mono ?_
       rintro e w2 ⟨pc, rfl, hb, hpc⟩
       have G_w2 : Hid (BCP w w2 #[.int .i64 n, .slice a zl cap, .slice ao ko co, .slice av kv cv, .int .i64 fine] #[.slice ra nr rc, .slice la ln lc]) := G_d.out.below hb
       have PC_w2 : Hid (w2.heap[pc]? = some (.cells #[.int .i64 n, .slice a zl cap, .slice ao ko co, .slice av kv cv, .int .i64 fine] 43 (0, 0))) := hpc
       clear hb hpc
       (try go_wp2_with fail)
       refine hK.out _ _ ?_ (fun hHeld => ?_)
       · exact bcp_cells G_w2.out
       clear hK K
       (try simp only [Act.put, List.setIfInBounds_toArray, List.set_cons_zero, List.set_cons_succ])
       refine wpAnyH_ready (rs := [3, 8]) (by kernel_rfl) (by simp) ?_
       refine AllReadyH.cons rfl (fun K hK => ?_) ?_
       · skip
         go_simp
         refine (BM.out w2 pc G_w2.out.b PC_w2.out).mono ?_
         rintro e w3 ⟨rfl, hb⟩
         have G_w3 : Hid (BCP w w3 #[.int .i64 n, .slice a zl cap, .slice ao ko co, .slice av kv cv, .int .i64 fine] #[.slice ra nr rc, .slice la ln lc]) := G_w2.out.below hb
         clear hb
         (try go_wp2_with fail)
         refine hK.out _ _ ?_ (fun hHeld => ?_)
         · exact bcp_cells G_w3.out
         clear hK K
         (try simp only [Act.put, List.setIfInBounds_toArray, List.set_cons_zero, List.set_cons_succ])
         refine tkH 4 hHeld ?_
         refine tkH 5 hHeld ?_
         refine tkH 6 hHeld ?_
         refine tkH 7 hHeld ?_
         refine wpAnyH_ready (rs := [8]) (by kernel_rfl) (by simp) ?_
         refine AllReadyH.cons rfl (fun K hK => ?_) AllReadyH.nil
         have G_z : Hid (BCP w (w3.alloc (.cells #[.int .i64 0, .int .i64 0, .int .i64 0] 74)) #[.int .i64 n, .slice a zl cap, .slice ao ko co, .slice av kv cv, .int .i64 fine] #[.slice ra nr rc, .slice la ln lc]) := G_w3.out.below ((Below.refl w3.heap.size w3).alloc (Nat.le_refl _) (.cells #[.int .i64 0, .int .i64 0, .int .i64 0] 74))
         have VZ0 : Hid ((w3.alloc (.cells #[.int .i64 0, .int .i64 0, .int .i64 0] 74)).heap[w3.heap.size]? = some (.cells #[.int .i64 0, .int .i64 0, .int .i64 0] 74 (0, 0))) := heap_alloc_new _ _
         have HZL : Hid (w.heap.size + 2 <= w3.heap.size) := G_w3.out.size
         go_simp
         refine hK.out _ _ ?_ (fun hHeld => ?_)
         · exact bcp_cells G_z.out
         clear hK K
         (try simp only [Act.put, List.setIfInBounds_toArray, List.set_cons_zero, List.set_cons_succ])
         obtain ⟨kz, HKZ⟩ : ∃ v, Hid (w3.heap.size = v) := ⟨_, rfl⟩
         rw [HKZ.out] at VZ0 HZL ⊢
         generalize (w3.alloc (.cells #[.int .i64 0, .int .i64 0, .int .i64 0] 74)) = wz at *
         obtain ⟨z0, z1, z2⟩ := cells3s VZ0.out
         have zf := fun i => frozen_of_row _ _ i _ _ VZ0.out
         refine wpAnyH_ready (rs := [9]) (by kernel_rfl) (by simp) ?_
         refine AllReadyH.cons rfl (fun K hK => ?_) AllReadyH.nil
         have V5 : Hid ((((wz.setCell ⟨kz, 0, none⟩ (.int .i64 s1)).setCell ⟨kz, 1, none⟩ (.int .i64 s2)).setCell ⟨kz, 2, none⟩ (.int .i64 (s3 : Int))).heap[kz]? = some (.cells #[.int .i64 s1, .int .i64 s2, .int .i64 (s3 : Int)] 74 (0, 0))) := by
           have q1 := heap_setCell_same wz kz 0 _ _ (Value.int .i64 s1) VZ0.out
           have q2 := heap_setCell_same _ kz 1 _ _ (Value.int .i64 s2) q1
           have q3 := heap_setCell_same _ kz 2 _ _ (Value.int .i64 (s3 : Int)) q2
           simp at q3
           exact q3
         have G5 : Hid (BCP w (((wz.setCell ⟨kz, 0, none⟩ (.int .i64 s1)).setCell ⟨kz, 1, none⟩ (.int .i64 s2)).setCell ⟨kz, 2, none⟩ (.int .i64 (s3 : Int))) #[.int .i64 n, .slice a zl cap, .slice ao ko co, .slice av kv cv, .int .i64 fine] #[.slice ra nr rc, .slice la ln lc]) := ((G_z.out.set HZL.out).set HZL.out).set HZL.out
         go_simp
         refine hK.out _ _ ?_ (fun hHeld => ?_)
         · exact bcp_cells G5.out
         clear hK K
         generalize (((wz.setCell ⟨kz, 0, none⟩ (.int .i64 s1)).setCell ⟨kz, 1, none⟩ (.int .i64 s2)).setCell ⟨kz, 2, none⟩ (.int .i64 (s3 : Int))) = w6 at *
         refine tkH 10 hHeld ?_
         refine tkH 11 hHeld ?_
         refine wpAnyH_done (by kernel_rfl) ?_ _
         clear hHeld
         (try go_wp2_with fail)
         go_meet
         exact ⟨kz, rfl, rfl, rfl, G5.out, V5.out⟩
       refine AllReadyH.cons rfl (fun K hK => ?_) AllReadyH.nil
       have G_z : Hid (BCP w (w2.alloc (.cells #[.int .i64 0, .int .i64 0, .int .i64 0] 74)) #[.int .i64 n, .slice a zl cap, .slice ao ko co, .slice av kv cv, .int .i64 fine] #[.slice ra nr rc, .slice la ln lc]) := G_w2.out.below ((Below.refl w2.heap.size w2).alloc (Nat.le_refl _) (.cells #[.int .i64 0, .int .i64 0, .int .i64 0] 74))
       have VZ0 : Hid ((w2.alloc (.cells #[.int .i64 0, .int .i64 0, .int .i64 0] 74)).heap[w2.heap.size]? = some (.cells #[.int .i64 0, .int .i64 0, .int .i64 0] 74 (0, 0))) := heap_alloc_new _ _
       have HZL : Hid (w.heap.size + 2 <= w2.heap.size) := G_w2.out.size
       have PC_z : Hid ((w2.alloc (.cells #[.int .i64 0, .int .i64 0, .int .i64 0] 74)).heap[pc]? = some (.cells #[.int .i64 n, .slice a zl cap, .slice ao ko co, .slice av kv cv, .int .i64 fine] 43 (0, 0))) := below_row ((Below.refl w2.heap.size w2).alloc (Nat.le_refl _) (.cells #[.int .i64 0, .int .i64 0, .int .i64 0] 74)) (row_lt PC_w2.out) PC_w2.out
       go_simp
       refine hK.out _ _ ?_ (fun hHeld => ?_)
       · exact bcp_cells G_z.out
       clear hK K
       (try simp only [Act.put, List.setIfInBounds_toArray, List.set_cons_zero, List.set_cons_succ])
       obtain ⟨kz, HKZ⟩ : ∃ v, Hid (w2.heap.size = v) := ⟨_, rfl⟩
       rw [HKZ.out] at VZ0 HZL ⊢
       generalize (w2.alloc (.cells #[.int .i64 0, .int .i64 0, .int .i64 0] 74)) = wz at *
       obtain ⟨z0, z1, z2⟩ := cells3s VZ0.out
       have zf := fun i => frozen_of_row _ _ i _ _ VZ0.out
       refine wpAnyH_ready (rs := [3]) (by kernel_rfl) (by simp) ?_
       refine AllReadyH.cons rfl (fun K hK => ?_) AllReadyH.nil
       go_simp
       refine (BM.out wz pc G_z.out.b PC_z.out).mono ?_
       rintro e w3 ⟨rfl, hb⟩
       have G_w3 : Hid (BCP w w3 #[.int .i64 n, .slice a zl cap, .slice ao ko co, .slice av kv cv, .int .i64 fine] #[.slice ra nr rc, .slice la ln lc]) := G_z.out.below hb
       have VZ_w3 : Hid (w3.heap[kz]? = some (.cells #[.int .i64 0, .int .i64 0, .int .i64 0] 74 (0, 0))) := below_row hb (row_lt VZ0.out) VZ0.out
       obtain ⟨z0, z1, z2⟩ := cells3s VZ_w3.out
       have zf := fun i => frozen_of_row _ _ i _ _ VZ_w3.out
       clear hb
       (try go_wp2_with fail)
       refine hK.out _ _ ?_ (fun hHeld => ?_)
       · exact bcp_cells G_w3.out
       clear hK K
       (try simp only [Act.put, List.setIfInBounds_toArray, List.set_cons_zero, List.set_cons_succ])
       refine tkH 4 hHeld ?_
       refine tkH 5 hHeld ?_
       refine tkH 6 hHeld ?_
       refine tkH 7 hHeld ?_
       refine wpAnyH_ready (rs := [9]) (by kernel_rfl) (by simp) ?_
       refine AllReadyH.cons rfl (fun K hK => ?_) AllReadyH.nil
       have V5 : Hid ((((w3.setCell ⟨kz, 0, none⟩ (.int .i64 s1)).setCell ⟨kz, 1, none⟩ (.int .i64 s2)).setCell ⟨kz, 2, none⟩ (.int .i64 (s3 : Int))).heap[kz]? = some (.cells #[.int .i64 s1, .int .i64 s2, .int .i64 (s3 : Int)] 74 (0, 0))) := by
         have q1 := heap_setCell_same w3 kz 0 _ _ (Value.int .i64 s1) VZ_w3.out
         have q2 := heap_setCell_same _ kz 1 _ _ (Value.int .i64 s2) q1
         have q3 := heap_setCell_same _ kz 2 _ _ (Value.int .i64 (s3 : Int)) q2
         simp at q3
         exact q3
       have G5 : Hid (BCP w (((w3.setCell ⟨kz, 0, none⟩ (.int .i64 s1)).setCell ⟨kz, 1, none⟩ (.int .i64 s2)).setCell ⟨kz, 2, none⟩ (.int .i64 (s3 : Int))) #[.int .i64 n, .slice a zl cap, .slice ao ko co, .slice av kv cv, .int .i64 fine] #[.slice ra nr rc, .slice la ln lc]) := ((G_w3.out.set HZL.out).set HZL.out).set HZL.out
       go_simp
       refine hK.out _ _ ?_ (fun hHeld => ?_)
       · exact bcp_cells G5.out
       clear hK K
       generalize (((w3.setCell ⟨kz, 0, none⟩ (.int .i64 s1)).setCell ⟨kz, 1, none⟩ (.int .i64 s2)).setCell ⟨kz, 2, none⟩ (.int .i64 (s3 : Int))) = w6 at *
       refine tkH 10 hHeld ?_
       refine tkH 11 hHeld ?_
       refine wpAnyH_done (by kernel_rfl) ?_ _
       clear hHeld
       (try go_wp2_with fail)
       go_meet
       exact ⟨kz, rfl, rfl, rfl, G5.out, V5.out⟩
     refine AllReadyH.cons rfl (fun K hK => ?_) AllReadyH.nil
     have G_z : Hid (BCP w (wd.alloc (.cells #[.int .i64 0, .int .i64 0, .int .i64 0] 74)) #[.int .i64 n, .slice a zl cap, .slice ao ko co, .slice av kv cv, .int .i64 fine] #[.slice ra nr rc, .slice la ln lc]) := G_d.out.below ((Below.refl wd.heap.size wd).alloc (Nat.le_refl _) (.cells #[.int .i64 0, .int .i64 0, .int .i64 0] 74))
     have VZ0 : Hid ((wd.alloc (.cells #[.int .i64 0, .int .i64 0, .int .i64 0] 74)).heap[wd.heap.size]? = some (.cells #[.int .i64 0, .int .i64 0, .int .i64 0] 74 (0, 0))) := heap_alloc_new _ _
     have HZL : Hid (w.heap.size + 2 <= wd.heap.size) := G_d.out.size
     go_simp
     refine hK.out _ _ ?_ (fun hHeld => ?_)
     · exact bcp_cells G_z.out
     clear hK K
     (try simp only [Act.put, List.setIfInBounds_toArray, List.set_cons_zero, List.set_cons_succ])
     obtain ⟨kz, HKZ⟩ : ∃ v, Hid (wd.heap.size = v) := ⟨_, rfl⟩
     rw [HKZ.out] at VZ0 HZL ⊢
     generalize (wd.alloc (.cells #[.int .i64 0, .int .i64 0, .int .i64 0] 74)) = wz at *
     obtain ⟨z0, z1, z2⟩ := cells3s VZ0.out
     have zf := fun i => frozen_of_row _ _ i _ _ VZ0.out
     refine wpAnyH_ready (rs := [1]) (by kernel_rfl) (by simp) ?_
     refine AllReadyH.cons rfl (fun K hK => ?_) AllReadyH.nil
     go_simp
     refine (relocations_any #[.int .i64 n, .slice a zl cap, .slice ao ko co, .slice av kv cv, .int .i64 fine] wz n fine a ao av cap ko co kv cv zl rfl).mono ?_
     rintro e w2 ⟨pc, rfl, hb, hpc⟩
     have G_w2 : Hid (BCP w w2 #[.int .i64 n, .slice a zl cap, .slice ao ko co, .slice av kv cv, .int .i64 fine] #[.slice ra nr rc, .slice la ln lc]) := G_z.out.below hb
     have PC_w2 : Hid (w2.heap[pc]? = some (.cells #[.int .i64 n, .slice a zl cap, .slice ao ko co, .slice av kv cv, .int .i64 fine] 43 (0, 0))) := hpc
     have VZ_w2 : Hid (w2.heap[kz]? = some (.cells #[.int .i64 0, .int .i64 0, .int .i64 0] 74 (0, 0))) := below_row hb (row_lt VZ0.out) VZ0.out
     obtain ⟨z0, z1, z2⟩ := cells3s VZ_w2.out
     have zf := fun i => frozen_of_row _ _ i _ _ VZ_w2.out
     clear hb hpc
     (try go_wp2_with fail)
     refine hK.out _ _ ?_ (fun hHeld => ?_)
     · exact bcp_cells G_w2.out
     clear hK K
     (try simp only [Act.put, List.setIfInBounds_toArray, List.set_cons_zero, List.set_cons_succ])
     refine wpAnyH_ready (rs := [3]) (by kernel_rfl) (by simp) ?_
     refine AllReadyH.cons rfl (fun K hK => ?_) AllReadyH.nil
     go_simp
     refine (BM.out w2 pc G_w2.out.b PC_w2.out).mono ?_
     rintro e w3 ⟨rfl, hb⟩
     have G_w3 : Hid (BCP w w3 #[.int .i64 n, .slice a zl cap, .slice ao ko co, .slice av kv cv, .int .i64 fine] #[.slice ra nr rc, .slice la ln lc]) := G_w2.out.below hb
     have VZ_w3 : Hid (w3.heap[kz]? = some (.cells #[.int .i64 0, .int .i64 0, .int .i64 0] 74 (0, 0))) := below_row hb (row_lt VZ_w2.out) VZ_w2.out
     obtain ⟨z0, z1, z2⟩ := cells3s VZ_w3.out
     have zf := fun i => frozen_of_row _ _ i _ _ VZ_w3.out
     clear hb
     (try go_wp2_with fail)
     refine hK.out _ _ ?_ (fun hHeld => ?_)
     · exact bcp_cells G_w3.out
     clear hK K
     (try simp only [Act.put, List.setIfInBounds_toArray, List.set_cons_zero, List.set_cons_succ])
     refine tkH 4 hHeld ?_
     refine tkH 5 hHeld ?_
     refine tkH 6 hHeld ?_
     refine tkH 7 hHeld ?_
     refine wpAnyH_ready (rs := [9]) (by kernel_rfl) (by simp) ?_
     refine AllReadyH.cons rfl (fun K hK => ?_) AllReadyH.nil
     have V5 : Hid ((((w3.setCell ⟨kz, 0, none⟩ (.int .i64 s1)).setCell ⟨kz, 1, none⟩ (.int .i64 s2)).setCell ⟨kz, 2, none⟩ (.int .i64 (s3 : Int))).heap[kz]? = some (.cells #[.int .i64 s1, .int .i64 s2, .int .i64 (s3 : Int)] 74 (0, 0))) := by
       have q1 := heap_setCell_same w3 kz 0 _ _ (Value.int .i64 s1) VZ_w3.out
       have q2 := heap_setCell_same _ kz 1 _ _ (Value.int .i64 s2) q1
       have q3 := heap_setCell_same _ kz 2 _ _ (Value.int .i64 (s3 : Int)) q2
       simp at q3
       exact q3
     have G5 : Hid (BCP w (((w3.setCell ⟨kz, 0, none⟩ (.int .i64 s1)).setCell ⟨kz, 1, none⟩ (.int .i64 s2)).setCell ⟨kz, 2, none⟩ (.int .i64 (s3 : Int))) #[.int .i64 n, .slice a zl cap, .slice ao ko co, .slice av kv cv, .int .i64 fine] #[.slice ra nr rc, .slice la ln lc]) := ((G_w3.out.set HZL.out).set HZL.out).set HZL.out
     go_simp
     refine hK.out _ _ ?_ (fun hHeld => ?_)
     · exact bcp_cells G5.out
     clear hK K
     generalize (((w3.setCell ⟨kz, 0, none⟩ (.int .i64 s1)).setCell ⟨kz, 1, none⟩ (.int .i64 s2)).setCell ⟨kz, 2, none⟩ (.int .i64 (s3 : Int))) = w6 at *
     refine tkH 10 hHeld ?_
     refine tkH 11 hHeld ?_
     refine wpAnyH_done (by kernel_rfl) ?_ _
     clear hHeld
     (try go_wp2_with fail)
     go_meet
     exact ⟨kz, rfl, rfl, rfl, G5.out, V5.out⟩
   case rest =>
     obtain ⟨kz, rfl, rfl, rfl, hQ, hz⟩ := hcut
     have Q3 : Hid (BCP w wc #[.int .i64 n, .slice a zl cap, .slice ao ko co, .slice av kv cv, .int .i64 fine] #[.slice ra nr rc, .slice la ln lc]) := hQ
     have Z3 : Hid (wc.heap[kz]? = some (.cells #[.int .i64 s1, .int .i64 s2, .int .i64 (s3 : Int)] 74 (0, 0))) := hz
     clear hQ hz Q1 BM
     cases sf
     · have h0 := HQF.out rfl
       unfold qs0 at h0
       simp only [QS.mk.injEq, Prod.mk.injEq, true_and] at h0
       obtain ⟨⟨rfl, rfl, rfl⟩, rfl⟩ := h0
       clear HQF
       go_wp2
       refine bodyPost_ret (v := .tuple #[.int .i64 0, .int .i64 0, .int .i64 0, .int .i64 0]) (by simp [results, Tryz.results18, go_sem]) rfl ?_
       exact ⟨rfl, Q3.out.b⟩
     · clear HQF
       obtain ⟨z0, z1, z2⟩ := cells3s Z3.out
       go_wp2_with fail
       go_region
       all_goals
         go_wp2
         refine bodyPost_ret (v := .tuple #[.int .i64 s1, .int .i64 s2, .int .i64 (s3 : Int), .int .i64 sv]) (by simp [results, Tryz.results18, go_sem]) rfl ?_
         exact ⟨rfl, Q3.out.b.drew⟩
 · have hpn : (pv != 0) = true := by simp [hpv]
   have h0 := HNO.out hpv
   unfold qs0 at h0
   simp only [QS.mk.injEq, Prod.mk.injEq] at h0
   obtain ⟨rfl, ⟨rfl, rfl, rfl⟩, rfl⟩ := h0
   clear HNO BM0 HQF
   go_wp2
   refine bodyPost_ret (v := .tuple #[.int .i64 0, .int .i64 0, .int .i64 0, .int .i64 0]) (by simp [results, Tryz.results18, go_sem]) rfl ?_
   exact ⟨rfl, Q1.out.b⟩
end Go.Proofs.YtfpegaldloadaaaGreat
