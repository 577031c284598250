import Derived.Test.YtdbdmlabfbmjfaaGreatPack0
import Derived.Test.YtdbdmlabfbmjfaaGreatPack1
namespace Go.Proofs.YtdbdmlabfbmjfaaGreat
open Go.RowKit
set_option maxHeartbeats 1000000 in
theorem ordersOk_any (n fine : Int) (a ao av : Option Addr) (lt cap ko co kv cv : Nat) (zs : List Int) (w : World) (hn1 : 1 <= n) (hn2 : n <= 16) (hA : IntsAt w ao zs) (hl : zs.length = ko * 6) (hlen : ko <= 9223372036854775807) :
   Calls Tryz.prog 55 #[.agg #[.int .i64 n, .slice a lt cap, .slice ao ko co, .slice av kv cv, .int .i64 fine]] w fun e w' => e = .returned (.bool (ordsB n zs ko)) /\ Below w.heap.size w w' := by
 have HB0 : Hid (Below w.heap.size w (w.alloc (Obj.cells #[Value.int .i64 n, Value.slice a lt cap, Value.slice ao ko co, Value.slice av kv cv, Value.int .i64 fine] 30))) := (Below.refl _ _).alloc (Nat.le_refl _) _
 have HA : Hid (IntsAt w ao zs) := hA
 have HL : Hid (zs.length = ko * 6) := hl
 clear hA hl
 by_cases hmany : ko <= 12
 · go_enter Tryz.func55, Tryz.ntmps55
   go_wp2_with fail
   go_loopw [3, 13] (fun l t wr => ∃ k : Nat, k <= ko /\ t = .int .i64 k /\ l = .int .i64 (ordsLast zs k) /\ ordsTo n zs k /\ Below w.heap.size w wr /\ wr.heap[w.heap.size]? = some (.cells #[Value.int .i64 n, Value.slice a lt cap, Value.slice ao ko co, Value.slice av kv cv, Value.int .i64 fine] 30 (0, 0))) (fun _ t _ => ko - (intOf t).toNat)
   case atStart => exact ⟨0, Nat.zero_le _, rfl, rfl, ordsTo_zero _ _, HB0.out, heap_alloc_new _ _⟩
   case round =>
     obtain ⟨k, hk, rfl, rfl, ht, hb, g3⟩ := hrel
     have hbd := ordsLast_bd ht
     have HT : Hid _ := ht
     obtain ⟨c0, c1, c2, c3, c4⟩ := cells5 g3
     obtain ⟨l0, HL0⟩ : ∃ t, Hid (ordsLast zs k = t) := ⟨_, rfl⟩
     rw [HL0.out] at hbd ⊢
     have G3 : Hid _ := g3
     have HB : Hid _ := hb
     clear ht
     by_cases hlt : k < ko
     · obtain ⟨b, off, rfl, hcs⟩ := IntsAt.some (IntsAt.below HA.out hb) (j := k * 6) (by rw [HL.out]; omega)
       obtain ⟨r0, r1, r2, r3, r4, r5⟩ := row6_at hcs HL.out k hlt
       clear hcs g3 hb
       obtain ⟨o0, H0⟩ : ∃ t, Hid (og6 zs k 0 = t) := ⟨_, rfl⟩
       obtain ⟨o1, H1⟩ : ∃ t, Hid (og6 zs k 1 = t) := ⟨_, rfl⟩
       obtain ⟨o2, H2⟩ : ∃ t, Hid (og6 zs k 2 = t) := ⟨_, rfl⟩
       obtain ⟨o3, H3⟩ : ∃ t, Hid (og6 zs k 3 = t) := ⟨_, rfl⟩
       obtain ⟨o4, H4⟩ : ∃ t, Hid (og6 zs k 4 = t) := ⟨_, rfl⟩
       obtain ⟨o5, H5⟩ : ∃ t, Hid (og6 zs k 5 = t) := ⟨_, rfl⟩
       rw [H0.out] at r0
       rw [H1.out] at r1
       rw [H2.out] at r2
       rw [H3.out] at r3
       rw [H4.out] at r4
       rw [H5.out] at r5
       have hlb := block_lt_of_cell r0
       simp at hlb
       have HB1 : Hid (Below w.heap.size w (wr.alloc (Obj.cells #[Value.int .i64 o0, Value.int .i64 o1, Value.int .i64 o2, Value.int .i64 o3, Value.int .i64 o4, Value.int .i64 o5] 68))) := HB.out.alloc HB.out.size _
       have G31 : Hid ((wr.alloc (Obj.cells #[Value.int .i64 o0, Value.int .i64 o1, Value.int .i64 o2, Value.int .i64 o3, Value.int .i64 o4, Value.int .i64 o5] 68)).heap[w.heap.size]? = _) := (heap_alloc_old _ _ (row_lt G3.out)).trans G3.out
       have G41 : Hid ((wr.alloc (Obj.cells #[Value.int .i64 o0, Value.int .i64 o1, Value.int .i64 o2, Value.int .i64 o3, Value.int .i64 o4, Value.int .i64 o5] 68)).heap[wr.heap.size]? = _) := heap_alloc_new _ _
       have hlw := row_lt G3.out
       cases h1 : inB o0 (l0 + 1) 1000000000
       · have HN : Hid (ordsB n zs ko = false) := ordsB_bad hlt (ords_id_no (by rw [H0.out, HL0.out, h1]; simp))
         go_wp2_with (first
           | (go_at_call 17; refine (within_any _ _ _ _).mono ?_; rintro e w' ⟨rfl, rfl⟩))
         go_ret
         exact ⟨ret_bool HN.out.symm, HB1.out⟩
       · cases h2 : ordIn n o1 o2 o3 o4 o5
         · have HN : Hid (ordsB n zs ko = false) := ordsB_bad hlt (ords_id_no (by rw [H1.out, H2.out, H3.out, H4.out, H5.out, h2]; simp))
           go_wp2_with (first
             | (go_at_call 17; refine (within_any _ _ _ _).mono ?_; rintro e w' ⟨rfl, rfl⟩)
             | (go_at_call 78; refine (orderOk_any n _ _ _ _ _ _ _ _ hn1 hn2).mono ?_; rintro e w2 ⟨rfl, hb2⟩))
           go_ret
           exact ⟨ret_bool HN.out.symm, HB1.out.trans (hb2.mono HB1.out.size)⟩
         · have HS : Hid (ordsTo n zs (k + 1)) := by
             have := ords_id HT.out (by rw [H0.out, HL0.out]; exact h1) (by rw [H1.out, H2.out, H3.out, H4.out, H5.out]; exact h2)
             exact ordsTo_step HT.out this.1 this.2
           go_wp2_with (first
             | (go_at_call 17; refine (within_any _ _ _ _).mono ?_; rintro e w' ⟨rfl, rfl⟩)
             | (go_at_call 78; refine (orderOk_any n _ _ _ _ _ _ _ _ hn1 hn2).mono ?_; rintro e w2 ⟨rfl, hb2⟩; obtain ⟨q0, q1, q2, q3, q4, q5⟩ := cells6 (below_row hb2 (row_lt G41.out) G41.out)))
           obtain ⟨B2, R2⟩ := box_more hb2 HB1.out G31.out
           refine ⟨⟨k + 1, by omega, by go_num, by show _ = Value.int .i64 (og6 zs k 0); rw [H0.out], HS.out, B2, R2⟩, by simp [intOf]; omega⟩
     · have hkx : k = ko := by omega
       have HN : Hid (ordsB n zs ko = true) := ordsB_yes hmany (hkx ▸ HT.out)
       clear hkx g3 hb
       go_wp2
       go_ret
       exact ⟨ret_bool HN.out.symm, HB.out⟩
 · have HN : Hid (ordsB n zs ko = false) := ordsB_many hmany
   go_enter Tryz.func55, Tryz.ntmps55
   go_wp2
   go_ret
   exact ⟨ret_bool HN.out.symm, HB0.out⟩
set_option maxHeartbeats 1000000 in
theorem vehiclesOk_any (n fine : Int) (a ao av : Option Addr) (lt cap ko co kv cv : Nat) (zs : List Int) (w : World) (hn1 : 1 <= n) (hn2 : n <= 16) (hA : IntsAt w av zs) (hl : zs.length = kv * 5) (hlen : kv <= 9223372036854775807) :
   Calls Tryz.prog 56 #[.agg #[.int .i64 n, .slice a lt cap, .slice ao ko co, .slice av kv cv, .int .i64 fine]] w fun e w' => e = .returned (.bool (vehsB n zs kv)) /\ Below w.heap.size w w' := by
 have HB0 : Hid (Below w.heap.size w (w.alloc (Obj.cells #[Value.int .i64 n, Value.slice a lt cap, Value.slice ao ko co, Value.slice av kv cv, Value.int .i64 fine] 30))) := (Below.refl _ _).alloc (Nat.le_refl _) _
 have HA : Hid (IntsAt w av zs) := hA
 have HL : Hid (zs.length = kv * 5) := hl
 clear hA hl
 by_cases hmany : kv <= 5
 · go_enter Tryz.func56, Tryz.ntmps56
   go_wp2_with fail
   go_loopw [3, 13] (fun l t wr => ∃ k : Nat, k <= kv /\ t = .int .i64 k /\ l = .int .i64 (vehsLast zs k) /\ vehsTo n zs k /\ Below w.heap.size w wr /\ wr.heap[w.heap.size]? = some (.cells #[Value.int .i64 n, Value.slice a lt cap, Value.slice ao ko co, Value.slice av kv cv, Value.int .i64 fine] 30 (0, 0))) (fun _ t _ => kv - (intOf t).toNat)
   case atStart => exact ⟨0, Nat.zero_le _, rfl, rfl, vehsTo_zero _ _, HB0.out, heap_alloc_new _ _⟩
   case round =>
     obtain ⟨k, hk, rfl, rfl, ht, hb, g3⟩ := hrel
     have hbd := vehsLast_bd ht
     have HT : Hid _ := ht
     obtain ⟨c0, c1, c2, c3, c4⟩ := cells5 g3
     obtain ⟨l0, HL0⟩ : ∃ t, Hid (vehsLast zs k = t) := ⟨_, rfl⟩
     rw [HL0.out] at hbd ⊢
     have G3 : Hid _ := g3
     have HB : Hid _ := hb
     clear ht
     by_cases hlt : k < kv
     · obtain ⟨b, off, rfl, hcs⟩ := IntsAt.some (IntsAt.below HA.out hb) (j := k * 5) (by rw [HL.out]; omega)
       obtain ⟨r0, r1, r2, r3, r4⟩ := row5_at hcs HL.out k hlt
       clear hcs g3 hb
       obtain ⟨o0, H0⟩ : ∃ t, Hid (og5 zs k 0 = t) := ⟨_, rfl⟩
       obtain ⟨o1, H1⟩ : ∃ t, Hid (og5 zs k 1 = t) := ⟨_, rfl⟩
       obtain ⟨o2, H2⟩ : ∃ t, Hid (og5 zs k 2 = t) := ⟨_, rfl⟩
       obtain ⟨o3, H3⟩ : ∃ t, Hid (og5 zs k 3 = t) := ⟨_, rfl⟩
       obtain ⟨o4, H4⟩ : ∃ t, Hid (og5 zs k 4 = t) := ⟨_, rfl⟩
       rw [H0.out] at r0
       rw [H1.out] at r1
       rw [H2.out] at r2
       rw [H3.out] at r3
       rw [H4.out] at r4
       have hlb := block_lt_of_cell r0
       simp at hlb
       have HB1 : Hid (Below w.heap.size w (wr.alloc (Obj.cells #[Value.int .i64 o0, Value.int .i64 o1, Value.int .i64 o2, Value.int .i64 o3, Value.int .i64 o4] 72))) := HB.out.alloc HB.out.size _
       have G31 : Hid ((wr.alloc (Obj.cells #[Value.int .i64 o0, Value.int .i64 o1, Value.int .i64 o2, Value.int .i64 o3, Value.int .i64 o4] 72)).heap[w.heap.size]? = _) := (heap_alloc_old _ _ (row_lt G3.out)).trans G3.out
       have G41 : Hid ((wr.alloc (Obj.cells #[Value.int .i64 o0, Value.int .i64 o1, Value.int .i64 o2, Value.int .i64 o3, Value.int .i64 o4] 72)).heap[wr.heap.size]? = _) := heap_alloc_new _ _
       have hlw := row_lt G3.out
       cases h1 : inB o0 (l0 + 1) 1000000000
       · have HN : Hid (vehsB n zs kv = false) := vehsB_bad hlt (vehs_id_no (by rw [H0.out, HL0.out, h1]; simp))
         go_wp2_with (first
           | (go_at_call 17; refine (within_any _ _ _ _).mono ?_; rintro e w' ⟨rfl, rfl⟩))
         go_ret
         exact ⟨ret_bool HN.out.symm, HB1.out⟩
       · cases h2 : vehIn n o1 o2 o3 o4
         · have HN : Hid (vehsB n zs kv = false) := vehsB_bad hlt (vehs_id_no (by rw [H1.out, H2.out, H3.out, H4.out, h2]; simp))
           go_wp2_with (first
             | (go_at_call 17; refine (within_any _ _ _ _).mono ?_; rintro e w' ⟨rfl, rfl⟩)
             | (go_at_call 79; refine (vehicleOk_any n _ _ _ _ _ _ _ hn1 hn2).mono ?_; rintro e w2 ⟨rfl, hb2⟩))
           go_ret
           exact ⟨ret_bool HN.out.symm, HB1.out.trans (hb2.mono HB1.out.size)⟩
         · have HS : Hid (vehsTo n zs (k + 1)) := by
             have := vehs_id HT.out (by rw [H0.out, HL0.out]; exact h1) (by rw [H1.out, H2.out, H3.out, H4.out]; exact h2)
             exact vehsTo_step HT.out this.1 this.2
           go_wp2_with (first
             | (go_at_call 17; refine (within_any _ _ _ _).mono ?_; rintro e w' ⟨rfl, rfl⟩)
             | (go_at_call 79; refine (vehicleOk_any n _ _ _ _ _ _ _ hn1 hn2).mono ?_; rintro e w2 ⟨rfl, hb2⟩; obtain ⟨q0, q1, q2, q3, q4⟩ := cells5 (below_row hb2 (row_lt G41.out) G41.out)))
           obtain ⟨B2, R2⟩ := box_more hb2 HB1.out G31.out
           refine ⟨⟨k + 1, by omega, by go_num, by show _ = Value.int .i64 (og5 zs k 0); rw [H0.out], HS.out, B2, R2⟩, by simp [intOf]; omega⟩
     · have hkx : k = kv := by omega
       have HN : Hid (vehsB n zs kv = true) := vehsB_yes hmany (hkx ▸ HT.out)
       clear hkx g3 hb
       go_wp2
       go_ret
       exact ⟨ret_bool HN.out.symm, HB.out⟩
 · have HN : Hid (vehsB n zs kv = false) := vehsB_many hmany
   go_enter Tryz.func56, Tryz.ntmps56
   go_wp2
   go_ret
   exact ⟨ret_bool HN.out.symm, HB0.out⟩
theorem Tryz.info41 : (Tryz.prog.info? 118).map (fun i => (i.zero, i.size)) = some (some (.agg (cellsOf zeros)), 256) := by kernel_rfl
def GW (w wr : World) (n : Nat) (a : Option Addr) (cap : Nat) (z0 : Array Value) (gl : List Int) : Prop :=
 wr.heap.size = w.heap.size + 3 /\ Below w.heap.size w wr /\ wr.heap[w.heap.size]? = some (.cells #[.int .i64 n, .slice a (n * n) cap] 26 (0, 0)) ∧
 wr.heap[w.heap.size + 1]? = some (.cells z0 118 (0, 0)) /\ wr.heap[w.heap.size + 1 + 1]? = some (.cells (cellsOf gl) 118 (0, 0))
theorem GW.step {w wr : World} {n : Nat} {a : Option Addr} {cap : Nat} {z0 : Array Value} {zs : List Int} {x y : Nat} {t : Int} (h : GW w wr n a cap z0 (gridTo n zs x y)) (hx : x < n) (hy : y < n) (hn : n <= 16) (ht : zs.getD (x * n + y) 0 = t) :
   GW w (wr.setCell ⟨w.heap.size + 1 + 1, x * 16 + y, none⟩ (.int .i64 t)) n a cap z0 (gridTo n zs x (y + 1)) := by
 obtain ⟨g1, g2, g3, g4, g5⟩ := h
 refine ⟨by simpa [World.setCell] using g1, g2.setCell (by simp; omega) _, ?_, ?_, ?_⟩
 · rw [heap_setCell_other _ _ _ _ (by simp; omega)]; exact g3
 · rw [heap_setCell_other _ _ _ _ (by simp)]; exact g4
 · rw [heap_setCell_same _ _ _ _ _ _ g5, cellsOf_set, <- ht, gridTo_step n zs x y hx hy hn]
theorem size41 : (Tryz.prog.info? 118).map (·.size) = some 256 := (zero_of_info Tryz.info41).2
theorem size41_of {l : List Int} (h : l.length = 256) : (Tryz.prog.info? 118).map (·.size) = some (cellsOf l).size := by
 rw [cellsOf_size, h]; exact size41
theorem ret_grid (tmps : Array Value) (W : World) (g : Nat) (l : List Int) (b : Bool) (hl : l.length = 256)
   (hp : tmps.getD 2 undef = .pointer (some ⟨g, 0, none⟩)) (hb : tmps.getD 3 undef = .bool b) (hg : W.heap[g]? = some (.cells (cellsOf l) 118 (0, 0))) :
   (results Tryz.f77 tmps).run Tryz.prog W = .ok (.tuple #[.agg (cellsOf l), .bool b]) W := by
 rw [results_cell_tmp Tryz.results77, hp, hb]
 simp only [asAddr, Sem.run_pure, Result.andThen_ok, run_loadVar_row W g 118 118 (cellsOf l) (0, 0) _ hg Tryz.underlying118 rfl (size41_of hl)]
set_option maxHeartbeats 1000000 in
theorem grid_loop (n : Nat) (a : Option Addr) (cap : Nat) (zs : List Int) (w : World) (h1 : 1 <= n) (h2 : n <= 16) (hl : zs.length = n * n) (hA : IntsAt w a zs) :
   Calls Tryz.prog 77 #[.agg #[.int .i64 n, .slice a zs.length cap]] w fun e w' => e = .returned (.tuple #[.agg (cellsOf (gridRes n zs)), .bool (matB n zs)]) /\ Below w.heap.size w w' := by
   have hz := (zero_of_info Tryz.info41).1
   generalize hz0 : cellsOf zeros = z0 at hz
   have HZ : Hid (cellsOf zeros = z0) := hz0
   clear hz0
   have hnn : n * n <= 256 := mul_bd n n h2 h2
   have hd1 : inB (n : Int) 1 16 = true := inB_mk (by omega)
   have hnw : wrap64 ((n : Int) * (n : Int)) = (n : Int) * (n : Int) := IntWalk.wrap64_in _ (by rw [<- Int.natCast_mul]; omega)
   have HA : Hid (IntsAt w a zs) := hA
   clear hA
   rw [hl]
   have HL : Hid (zs.length = n * n) := hl
   clear hl
   go_enter Tryz.func77, Tryz.ntmps77
   go_wp2_with (go_at_call 17; refine (within_any _ _ _ _).mono ?_; rintro e w' ⟨rfl, rfl⟩)
   go_loopw [26] (fun t wr => ∃ x : Nat, x <= n /\ t = .int .i64 x /\ GW w wr n a cap z0 (gridTo n zs x 0) /\ okTo n zs x 0) (fun t _ => n - (intOf t).toNat)
   case atStart =>
     refine ⟨0, Nat.zero_le _, rfl, ⟨by simp, ?_, ?_, ?_, ?_⟩, okTo_zero _ _⟩
     · exact (((Below.refl _ _).alloc (Nat.le_refl _) _).alloc (by simp) _).alloc (by simp; omega) _
     · rw [heap_alloc_old _ _ (by simp; omega), heap_alloc_old _ _ (by simp)]
       exact heap_alloc_new _ _
     · rw [heap_alloc_old _ _ (by simp)]
       exact heap_alloc2_new _ _ _
     · rw [gridTo_zero, HZ.out]
       have := heap_alloc_new ((w.alloc (Obj.cells #[Value.int .i64 n, Value.slice a (n * n) cap] 26)).alloc (Obj.cells z0 118)) (Obj.cells z0 118)
       simpa using this
   case round =>
     obtain ⟨x, hx, rfl, hG, hok⟩ := hrel
     obtain ⟨g1, g2, g3, g4, g5⟩ := hG
     have c0 := cell_of_row _ _ 0 _ _ _ g3
     have c1 := cell_of_row _ _ 1 _ _ _ g3
     simp at c0 c1
     by_cases hlt : x < n
     · have G4 : Hid _ := g4
       have G5 : Hid _ := g5
       have HO : Hid _ := hok
       clear g4 g5 hok
       go_wp2_with fail
       go_loopw [31] (fun t wr => ∃ y : Nat, y <= n /\ t = .int .i64 y /\ GW w wr n a cap z0 (gridTo n zs x y) /\ okTo n zs x y) (fun t _ => n - (intOf t).toNat)
       case atStart => exact ⟨0, Nat.zero_le _, rfl, ⟨g1, g2, g3, G4.out, G5.out⟩, HO.out⟩
       case round =>
         clear g1 g2 g3 c0 c1 G4 G5 HO
         obtain ⟨y, hy, rfl, hG, hok⟩ := hrel
         have HG : Hid (GW w wr n a cap z0 (gridTo n zs x y)) := hG
         obtain ⟨g1, g2, g3, g4, g5⟩ := hG
         have c0 := cell_of_row _ _ 0 _ _ _ g3
         have c1 := cell_of_row _ _ 1 _ _ _ g3
         simp at c0 c1
         by_cases hylt : y < n
         · have hxy : x * n + y < n * n := by
             have := Nat.mul_le_mul_right n (show x + 1 <= n by omega)
             rw [Nat.add_mul] at this
             omega
           obtain ⟨bb, off, rfl, hcs⟩ := IntsAt.some (IntsAt.below HA.out g2) (j := x * n + y) (by rw [HL.out]; exact hxy)
           have ct := hcs (x * n + y) (by rw [HL.out]; exact hxy)
           clear hcs
           generalize htt : zs.getD (x * n + y) 0 = t at ct
           have HT : Hid (zs.getD (x * n + y) 0 = t) := htt
           clear htt
           have cg := cell_of_row _ _ (x * 16 + y) _ _ _ g5
           rw [cellsOf_get _ _ (by rw [gridTo_length]; omega)] at cg
           have fg := frozen_of_row _ _ (x * 16 + y) _ _ g5
           have HO : Hid (okTo n zs x y) := hok
           clear hok
           have hwm : wrap64 ((x : Int) * (n : Int)) = (x : Int) * (n : Int) := IntWalk.wrap64_in _ (by rw [<- Int.natCast_mul]; omega)
           by_cases hgood : 0 <= t /\ t <= 10000 /\ (x = y -> t = 0)
           · have hvd : inB t 0 10000 = true := inB_mk (by omega)
             have HS : Hid (okTo n zs x (y + 1)) := okTo_step HO.out (by rw [HT.out]; exact hgood.1) (by rw [HT.out]; exact hgood.2.1) (by rw [HT.out]; exact hgood.2.2)
             clear HO g3 g4 g5 g2 g1
             by_cases hxe : x = y
             · have hne : ((x : Int) == (y : Int)) = true := by simp; omega
               have hne' : ((y : Int) == (y : Int)) = true := by simp
               have ht0 : (t != 0) = false := by simp [hgood.2.2 hxe]
               have HXE : Hid (x = y) := hxe
               clear hgood hxe
               go_wp2_with (first
                 | (go_at_call 17; refine (within_any _ _ _ _).mono ?_; rintro e w' ⟨rfl, rfl⟩))
               refine ⟨⟨y + 1, by omega, by go_num, HG.out.step hlt hylt h2 HT.out, HS.out⟩, by simp [intOf]; omega⟩
             · have hne : ((x : Int) == (y : Int)) = false := by simp; omega
               clear hgood hxe
               go_wp2_with (first
                 | (go_at_call 17; refine (within_any _ _ _ _).mono ?_; rintro e w' ⟨rfl, rfl⟩))
               refine ⟨⟨y + 1, by omega, by go_num, HG.out.step hlt hylt h2 HT.out, HS.out⟩, by simp [intOf]; omega⟩
           · have HB : Hid (matB n zs = false) := matB_bad n zs x y hlt hylt HL.out (by rw [HT.out]; exact hgood)
             have hzz : ∀ (wr : World), wr.heap[w.heap.size + 1]? = some (.cells z0 118 (0, 0)) -> True := fun _ _ => trivial
             clear HO g3 g5 g1 hzz
             by_cases hv : 0 <= t /\ t <= 10000
             · have hvd : inB t 0 10000 = true := inB_mk (by omega)
               have hxe : x = y := by omega
               have hne : ((x : Int) == (y : Int)) = true := by simp; omega
               have ht0 : (t != 0) = true := by simp; omega
               clear hgood hxe hv
               go_wp2_with (first
                 | (go_at_call 17; refine (within_any _ _ _ _).mono ?_; rintro e w' ⟨rfl, rfl⟩)
                 | (refine wpList_store_row rfl 118 (.tmp 2) (.tmp 56) rfl (w.heap.size + 1) z0 rfl rfl 118 z0 g4 (by rw [<- HZ.out]; exact size41_of zeros_length) rfl (by rw [<- HZ.out]; exact cellsOf_one _) ?_))
               refine bodyPost_ret (v := .tuple #[.agg (cellsOf zeros), .bool false]) (ret_grid _ _ (w.heap.size + 1) zeros false zeros_length rfl rfl ?_) rfl ⟨?_, ?_⟩
               · rw [HZ.out]; exact setRow_heap _ _ _ _ _ _ g4
               · exact ret_grid_eq (by rw [gridRes_false HB.out]) HB.out.symm
               · exact below_setRow g2 (by omega) _
             · have hvd : inB t 0 10000 = false := inB_not hv
               clear hgood hv
               go_wp2_with (first
                 | (go_at_call 17; refine (within_any _ _ _ _).mono ?_; rintro e w' ⟨rfl, rfl⟩)
                 | (refine wpList_store_row rfl 118 (.tmp 2) (.tmp 56) rfl (w.heap.size + 1) z0 rfl rfl 118 z0 g4 (by rw [<- HZ.out]; exact size41_of zeros_length) rfl (by rw [<- HZ.out]; exact cellsOf_one _) ?_))
               refine bodyPost_ret (v := .tuple #[.agg (cellsOf zeros), .bool false]) (ret_grid _ _ (w.heap.size + 1) zeros false zeros_length rfl rfl ?_) rfl ⟨?_, ?_⟩
               · rw [HZ.out]; exact setRow_heap _ _ _ _ _ _ g4
               · exact ret_grid_eq (by rw [gridRes_false HB.out]) HB.out.symm
               · exact below_setRow g2 (by omega) _
         · have hye : y = n := by omega
           have HO : Hid (okTo n zs (x + 1) 0) := okTo_row (hye ▸ hok)
           have HG' : Hid (GW w wr n a cap z0 (gridTo n zs (x + 1) 0)) := by
             have := HG.out
             rw [hye, gridTo_row] at this
             exact this
           clear hok hye HG g3 g4 g5
           go_wp2_with fail
           refine ⟨⟨x + 1, by omega, by go_num, HG'.out, HO.out⟩, by simp [intOf]; omega⟩
     · have hge : n <= x := by omega
       have Hxn : Hid (x = n) := by show x = n; omega
       go_wp2_with (first
         | (refine wpList_load_row rfl 118 (.tmp 4) rfl (w.heap.size + 1 + 1) rfl 118 (cellsOf (gridTo n zs x 0)) (0, 0) _ g5 Tryz.underlying118 rfl (size41_of (gridTo_length _ _ _ _)) ?_)
         | (refine wpList_store_row rfl 118 (.tmp 2) (.tmp 64) rfl (w.heap.size + 1) (cellsOf (gridTo n zs x 0)) rfl rfl 118 z0 g4 (size41_of (gridTo_length _ _ _ _)) (by rw [<- HZ.out, cellsOf_size, cellsOf_size, zeros_length, gridTo_length]) (cellsOf_one _) ?_))
       refine bodyPost_ret (v := .tuple #[.agg (cellsOf (gridTo n zs x 0)), .bool true]) (ret_grid _ _ (w.heap.size + 1) (gridTo n zs x 0) true (gridTo_length _ _ _ _) rfl rfl ?_) rfl ⟨?_, ?_⟩
       · exact setRow_heap _ _ _ _ _ _ g4
       · have e := Hxn.out
         have hm := matB_of_okTo n zs h1 h2 HL.out (e ▸ hok)
         exact ret_grid_eq (by rw [gridRes_true hm, e]) hm.symm
       · exact below_setRow g2 (by omega) _
set_option maxHeartbeats 1000000 in
theorem grid_out (n : Int) (a : Option Addr) (len cap : Nat) (w : World) (hn : ¬ (1 <= n /\ n <= 16)) :
   Calls Tryz.prog 77 #[.agg #[.int .i64 n, .slice a len cap]] w fun e w' => e = .returned (.tuple #[.agg (cellsOf zeros), .bool false]) /\ Below w.heap.size w w' := by
 have hz := (zero_of_info Tryz.info41).1
 generalize hz0 : cellsOf zeros = z0 at hz
 have HZ : Hid (cellsOf zeros = z0) := hz0
 clear hz0
 have hd1 : inB n 1 16 = false := inB_not hn
 clear hn
 go_enter Tryz.func77, Tryz.ntmps77
 go_wp2_with fail
 refine (within_any _ _ _ _).mono ?_; rintro e w' ⟨rfl, rfl⟩
 have HG4 : Hid (((((w.alloc (Obj.cells #[Value.int .i64 n, Value.slice a len cap] 26)).alloc (Obj.cells z0 118)).alloc (Obj.cells z0 118)).heap)[w.heap.size + 1]? = some (.cells z0 118 (0, 0))) := by
   show _ = _
   rw [heap_alloc_old _ _ (by simp)]
   exact heap_alloc2_new _ _ _
 go_wp2_with (
   with_reducible refine wpList_store_row ?_ 118 (.tmp 2) (.tmp 23) ?_ (w.heap.size + 1) z0 ?_ ?_ 118 z0 ?_ ?_ ?_ ?_ ?_
   · rfl
   · rfl
   · rfl
   · rfl
   · exact HG4.out
   · rw [<- HZ.out]; exact size41_of zeros_length
   · rfl
   · rw [<- HZ.out]; exact cellsOf_one _)
 refine bodyPost_ret (v := .tuple #[.agg (cellsOf zeros), .bool false]) (ret_grid _ _ (w.heap.size + 1) zeros false zeros_length rfl rfl ?_) rfl ⟨by rw [HZ.out], ?_⟩
 · rw [HZ.out]; exact setRow_heap _ _ _ _ _ _ HG4.out
 · exact below_setRow ((((Below.refl _ _).alloc (Nat.le_refl _) _).alloc (by simp) _).alloc (by simp; omega) _) (by omega) _
set_option maxHeartbeats 1000000 in
theorem grid_len (n : Nat) (a : Option Addr) (len cap : Nat) (w : World) (h1 : 1 <= n) (h2 : n <= 16) (hl : len ≠ n * n) :
   Calls Tryz.prog 77 #[.agg #[.int .i64 n, .slice a len cap]] w fun e w' => e = .returned (.tuple #[.agg (cellsOf zeros), .bool false]) /\ Below w.heap.size w w' := by
 have hz := (zero_of_info Tryz.info41).1
 generalize hz0 : cellsOf zeros = z0 at hz
 have HZ : Hid (cellsOf zeros = z0) := hz0
 clear hz0
 have hnn : n * n <= 256 := mul_bd n n h2 h2
 have hd1 : inB (n : Int) 1 16 = true := inB_mk (by omega)
 have hnw : wrap64 ((n : Int) * (n : Int)) = (n : Int) * (n : Int) := IntWalk.wrap64_in _ (by rw [<- Int.natCast_mul]; omega)
 have hne : ((len : Int) != (n : Int) * (n : Int)) = true := by rw [bne_iff_ne, <- Int.natCast_mul]; omega
 have G4 : ((((w.alloc (Obj.cells #[Value.int .i64 n, .slice a len cap] 26)).alloc (Obj.cells z0 118)).alloc (Obj.cells z0 118)).heap)[w.heap.size + 1]? = some (.cells z0 118 (0, 0)) := by
   rw [heap_alloc_old _ _ (by simp)]
   exact heap_alloc2_new _ _ _
 have HG4 : Hid _ := G4
 clear G4 hl
 go_enter Tryz.func77, Tryz.ntmps77
 go_wp2_with (first
   | (go_at_call 17; refine (within_any _ _ _ _).mono ?_; rintro e w' ⟨rfl, rfl⟩)
   | (refine wpList_store_row rfl 118 (.tmp 2) (.tmp 23) rfl (w.heap.size + 1) z0 rfl rfl 118 z0 HG4.out (by rw [<- HZ.out]; exact size41_of zeros_length) rfl (by rw [<- HZ.out]; exact cellsOf_one _) ?_))
 refine bodyPost_ret (v := .tuple #[.agg (cellsOf zeros), .bool false]) (ret_grid _ _ (w.heap.size + 1) zeros false zeros_length rfl rfl ?_) rfl ⟨by rw [HZ.out], ?_⟩
 · rw [HZ.out]; exact setRow_heap _ _ _ _ _ _ HG4.out
 · exact below_setRow ((((Below.refl _ _).alloc (Nat.le_refl _) _).alloc (by simp) _).alloc (by simp; omega) _) (by omega) _
theorem grid_any (n : Int) (a : Option Addr) (cap : Nat) (zs : List Int) (w : World) (hA : IntsAt w a zs) :
   Calls Tryz.prog 77 #[.agg #[.int .i64 n, .slice a zs.length cap]] w fun e w' => e = .returned (.tuple #[.agg (cellsOf (gridRes n zs)), .bool (matB n zs)]) /\ Below w.heap.size w w' := by
 by_cases hn : 1 <= n /\ n <= 16
 · obtain ⟨m, rfl⟩ := Int.eq_ofNat_of_zero_le (show 0 <= n by omega)
   by_cases hl : zs.length = m * m
   · exact grid_loop m a cap zs w (by omega) (by omega) hl hA
   · have hm : matB (m : Int) zs = false := matB_not fun h => hl (by have := h.2.2.1; rw [<- Int.natCast_mul] at this; omega)
     rw [gridRes_false hm, hm]
     exact grid_len m a zs.length cap w (by omega) (by omega) hl
 · have hm : matB n zs = false := matB_not fun h => hn ⟨h.1, h.2.1⟩
   rw [gridRes_false hm, hm]
   exact grid_out n _ _ _ w hn
set_option maxHeartbeats 400000 in
theorem implMat_any (n : Int) (a : Option Addr) (cap : Nat) (zs : List Int) (w : World) (hA : IntsAt w a zs) :
   Calls Tryz.prog 54 #[.agg #[.int .i64 n, .slice a zs.length cap]] w fun e w' => e = .returned (.bool (matB n zs)) /\ Below w.heap.size w w' := by
 have HB0 : Hid (Below w.heap.size w (w.alloc (Obj.cells #[Value.int .i64 n, Value.slice a zs.length cap] 26))) :=
   (Below.refl _ _).alloc (Nat.le_refl _) _
 have HA : Hid (IntsAt w a zs) := hA
 clear hA
 have hz := (zero_of_info Tryz.info41).1
 go_enter Tryz.func54, Tryz.ntmps54
 go_wp2_with fail
 refine (grid_any n a cap zs _ (HA.out.below HB0.out)).mono ?_
 rintro e w1 ⟨rfl, hb⟩
 have HB1 : Hid _ := hb
 clear hb
 generalize hz0 : cellsOf zeros = z0 at hz
 have HZ : Hid (cellsOf zeros = z0) := hz0
 clear hz0
 generalize hgr : cellsOf (gridRes n zs) = gr
 have HGR : Hid (cellsOf (gridRes n zs) = gr) := hgr
 clear hgr
 go_wp2_with (
   with_reducible refine wpList_store_row ?_ 118 (.tmp 3) (.tmp 8) ?_ w1.heap.size gr ?_ ?_ 118 z0 ?_ ?_ ?_ ?_ ?_
   · rfl
   · rfl
   · rfl
   · rfl
   · exact heap_alloc_new _ _
   · rw [<- HGR.out]; exact size41_of (gridRes_length _ _)
   · rw [<- HZ.out, <- HGR.out, cellsOf_size, cellsOf_size, zeros_length, gridRes_length]
   · rw [<- HGR.out]; exact cellsOf_one _)
 go_ret
 refine ⟨rfl, below_setRow ((HB0.out.trans (HB1.out.mono (by simp <;> omega))).alloc ?_ _) ?_ _⟩
 all_goals
   have := HB1.out.size
   simp at this
   omega
set_option maxHeartbeats 1000000 in
theorem implCase_any (n fine : Int) (a ao av : Option Addr) (cap ko co kv cv : Nat) (zs os vs : List Int) (w : World) (hA : IntsAt w a zs) (hO : IntsAt w ao os) (hV : IntsAt w av vs) (hlo : os.length = ko * 6) (hlv : vs.length = kv * 5) (hko : ko <= 9223372036854775807) (hkv : kv <= 9223372036854775807) :
   Calls Tryz.prog 33 #[.agg #[.int .i64 n, .slice a zs.length cap, .slice ao ko co, .slice av kv cv, .int .i64 fine]] w fun e w' => e = .returned (.bool (caseB n zs os vs ko kv fine)) /\ Below w.heap.size w w' := by
 have HB0 : Hid (Below w.heap.size w (w.alloc (Obj.cells #[Value.int .i64 n, Value.slice a zs.length cap, Value.slice ao ko co, Value.slice av kv cv, Value.int .i64 fine] 30))) := (Below.refl _ _).alloc (Nat.le_refl _) _
 have HA : Hid (IntsAt w a zs) := hA
 have HO : Hid (IntsAt w ao os) := hO
 have HV : Hid (IntsAt w av vs) := hV
 have HLO : Hid _ := hlo
 have HLV : Hid _ := hlv
 clear hA hO hV hlo hlv
 cases h1 : matB n zs
 · have HM : Hid _ := h1
   have HC : Hid (caseB n zs os vs ko kv fine = false) := by show _ = _; simp [caseB, h1]
   clear h1
   go_enter Tryz.func33, Tryz.ntmps33
   go_wp2_with fail
   refine (implMat_any n a cap zs _ (HA.out.below HB0.out)).mono ?_
   rintro e w1 ⟨rfl, hb⟩
   rw [HM.out]
   obtain ⟨b1, r1⟩ := box5 hb
   clear hb
   go_wp2
   go_ret
   exact ⟨ret_bool HC.out.symm, b1⟩
 · obtain ⟨hn1, hn2, _, _⟩ := matB_true h1
   have HM : Hid _ := h1
   cases h2 : ordsB n os ko
   · have HC : Hid (caseB n zs os vs ko kv fine = false) := by show _ = _; simp [caseB, h1, h2]
     have HO2 : Hid _ := h2
     clear h1 h2
     go_enter Tryz.func33, Tryz.ntmps33
     go_wp2_with fail
     refine (implMat_any n a cap zs _ (HA.out.below HB0.out)).mono ?_
     rintro e w1 ⟨rfl, hb⟩
     rw [HM.out]
     obtain ⟨b1, r1⟩ := box5 hb
     obtain ⟨c0, c1, c2, c3, c4⟩ := cells5 r1
     have B1 : Hid _ := b1
     clear hb b1 r1
     go_wp2_with fail
     refine (ordersOk_any n fine a ao av _ _ _ _ _ _ os _ hn1 hn2 (HO.out.below B1.out) HLO.out hko).mono ?_
     rintro e w2 ⟨rfl, hb⟩
     rw [HO2.out]
     go_wp2
     go_ret
     exact ⟨ret_bool HC.out.symm, B1.out.trans (hb.mono B1.out.size)⟩
   · have HO2 : Hid _ := h2
     cases h3 : vehsB n vs kv
     · have HC : Hid (caseB n zs os vs ko kv fine = false) := by show _ = _; simp [caseB, h1, h2, h3]
       have HV2 : Hid _ := h3
       clear h1 h2 h3
       go_enter Tryz.func33, Tryz.ntmps33
       go_wp2_with fail
       refine (implMat_any n a cap zs _ (HA.out.below HB0.out)).mono ?_
       rintro e w1 ⟨rfl, hb⟩
       rw [HM.out]
       obtain ⟨b1, r1⟩ := box5 hb
       obtain ⟨c0, c1, c2, c3, c4⟩ := cells5 r1
       have B1 : Hid _ := b1
       have R1 : Hid _ := r1
       clear hb b1 r1
       go_wp2_with fail
       refine (ordersOk_any n fine a ao av _ _ _ _ _ _ os _ hn1 hn2 (HO.out.below B1.out) HLO.out hko).mono ?_
       rintro e w2 ⟨rfl, hb⟩
       rw [HO2.out]
       obtain ⟨b2, r2⟩ := box_more hb B1.out R1.out
       clear c0 c1 c2 c3 c4
       obtain ⟨c0, c1, c2, c3, c4⟩ := cells5 r2
       have B2 : Hid _ := b2
       clear hb b2 r2
       go_wp2_with fail
       refine (vehiclesOk_any n fine a ao av _ _ _ _ _ _ vs _ hn1 hn2 (HV.out.below B2.out) HLV.out hkv).mono ?_
       rintro e w3 ⟨rfl, hb⟩
       rw [HV2.out]
       go_wp2
       go_ret
       exact ⟨ret_bool HC.out.symm, B2.out.trans (hb.mono B2.out.size)⟩
     · have HC : Hid (caseB n zs os vs ko kv fine = inB fine 0 1000000) := by show _ = _; simp [caseB, h1, h2, h3]
       have HV2 : Hid _ := h3
       clear h1 h2 h3
       go_enter Tryz.func33, Tryz.ntmps33
       go_wp2_with fail
       refine (implMat_any n a cap zs _ (HA.out.below HB0.out)).mono ?_
       rintro e w1 ⟨rfl, hb⟩
       rw [HM.out]
       obtain ⟨b1, r1⟩ := box5 hb
       obtain ⟨c0, c1, c2, c3, c4⟩ := cells5 r1
       have B1 : Hid _ := b1
       have R1 : Hid _ := r1
       clear hb b1 r1
       go_wp2_with fail
       refine (ordersOk_any n fine a ao av _ _ _ _ _ _ os _ hn1 hn2 (HO.out.below B1.out) HLO.out hko).mono ?_
       rintro e w2 ⟨rfl, hb⟩
       rw [HO2.out]
       obtain ⟨b2, r2⟩ := box_more hb B1.out R1.out
       clear c0 c1 c2 c3 c4
       obtain ⟨c0, c1, c2, c3, c4⟩ := cells5 r2
       have B2 : Hid _ := b2
       have R2 : Hid _ := r2
       clear hb b2 r2
       go_wp2_with fail
       refine (vehiclesOk_any n fine a ao av _ _ _ _ _ _ vs _ hn1 hn2 (HV.out.below B2.out) HLV.out hkv).mono ?_
       rintro e w3 ⟨rfl, hb⟩
       rw [HV2.out]
       obtain ⟨b3, r3⟩ := box_more hb B2.out R2.out
       clear c0 c1 c2 c3 c4
       obtain ⟨c0, c1, c2, c3, c4⟩ := cells5 r3
       clear hb r3
       go_wp2_with (go_at_call 17; refine (within_any _ _ _ _).mono ?_; rintro e w' ⟨rfl, rfl⟩)
       go_ret
       exact ⟨ret_bool HC.out.symm, b3⟩
theorem noTo_step2 {zs : List Int} {id : Int} {k : Nat} (h : ∀ j, j < k -> zs.getD j 0 ≠ id) (hk : zs.getD k 0 ≠ id) : ∀ j, j < k + 1 -> zs.getD j 0 ≠ id := by
 intro j hj
 by_cases e : j = k
 · rw [e]; exact hk
 · exact h j (by omega)
set_option maxHeartbeats 400000 in
theorem lawsHas_any (a : Option Addr) (m cap : Nat) (id : Int) (zs : List Int) (w : World) (hA : IntsAt w a zs) (hm : m <= zs.length) (hlen : m <= 9223372036854775807) :
   Calls Tryz.prog 10 #[.slice a m cap, .int .i64 id] w fun e w' => e = .returned (.bool (hasTo zs m id)) /\ w' = w := by
 have HA : Hid (IntsAt w a zs) := hA
 clear hA
 obtain ⟨r, HR⟩ : ∃ r, Hid (hasTo zs m id = r) := ⟨_, rfl⟩
 rw [HR.out]
 go_enter Tryz.func10, Tryz.ntmps10
 go_wp2_with fail
 go_loop [5] (fun t => ∃ k : Nat, k <= m /\ t = .int .i64 k /\ ∀ j, j < k -> zs.getD j 0 ≠ id) (fun t => m - (intOf t).toNat)
 case atStart => exact ⟨0, Nat.zero_le _, rfl, fun j hj => by omega⟩
 case round =>
   obtain ⟨k, hk, rfl, hno⟩ := hrel
   have HN : Hid (∀ j, j < k -> zs.getD j 0 ≠ id) := hno
   clear hno
   by_cases hlt : k < m
   · obtain ⟨b, off, rfl, hcs⟩ := IntsAt.some HA.out (j := k) (by omega)
     have ct := hcs k (by omega)
     clear hcs
     obtain ⟨t, HT⟩ : ∃ t, Hid (zs.getD k 0 = t) := ⟨_, rfl⟩
     rw [HT.out] at ct
     by_cases he : t = id
     · have heb : (t == id) = true := by simp [he]
       have HV : Hid (r = true) := HR.out.symm.trans (hasTo_yes hlt (HT.out.trans he))
       clear he
       go_wp2
       go_ret
       exact ⟨ret_bool HV.out.symm, rfl⟩
     · have heb : (t == id) = false := by simp [he]
       have HS : Hid (∀ j, j < k + 1 -> zs.getD j 0 ≠ id) := noTo_step2 HN.out (by rw [HT.out]; exact he)
       clear he
       go_wp2
       exact ⟨⟨k + 1, by omega, by go_num, HS.out⟩, by simp [intOf]; omega⟩
   · have hkl : k = m := by omega
     have HV : Hid (r = false) := HR.out.symm.trans (hasTo_no (hkl ▸ HN.out))
     clear hkl
     go_wp2
     go_ret
     exact ⟨ret_bool HV.out.symm, rfl⟩
end Go.Proofs.YtdbdmlabfbmjfaaGreat
