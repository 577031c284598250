import Derived.Test.YtonopidjkcmlmaaPack0
import Derived.Test.YtonopidjkcmlmaaPack1
namespace Go.Proofs.Ytonopidjkcmlmaa
open Go.RowKit

set_option maxHeartbeats 1000000 in
theorem ordersOk_any (n fine : Int) (a ao av : Option Addr) (lt cap ko co kv cv : Nat) (zs : List Int) (w : World) (hn1 : 1 ≤ n) (hn2 : n ≤ 16) (hA : IntsAt w ao zs) (hl : zs.length = ko * 6) (hlen : ko ≤ 9223372036854775807) :
    Calls Try.prog 74 #[.agg #[.int .i64 n, .slice a lt cap, .slice ao ko co, .slice av kv cv, .int .i64 fine]] w fun e w' => e = .returned (.bool (ordsB n zs ko)) ∧ Below w.heap.size w w' := by
  have HB0 : Hid (Below w.heap.size w (w.alloc (Obj.cells #[Value.int IntKind.i64 n, Value.slice a lt cap, Value.slice ao ko co, Value.slice av kv cv, Value.int IntKind.i64 fine] 30))) := (Below.refl _ _).alloc (Nat.le_refl _) _
  have HA : Hid (IntsAt w ao zs) := hA
  have HL : Hid (zs.length = ko * 6) := hl
  clear hA hl
  by_cases hmany : ko ≤ 12
  · go_enter Try.func74, Try.ntmps74
    go_wp2_with fail
    go_loopw [3, 13] (fun l t wr => ∃ k : Nat, k ≤ ko ∧ t = .int .i64 k ∧ l = .int .i64 (ordsLast zs k) ∧ ordsTo n zs k ∧ Below w.heap.size w wr ∧ wr.heap[w.heap.size]? = some (.cells #[Value.int IntKind.i64 n, Value.slice a lt cap, Value.slice ao ko co, Value.slice av kv cv, Value.int IntKind.i64 fine] 30 (0, 0))) (fun _ t _ => ko - (intOf t).toNat)
    case atStart => exact ⟨0, Nat.zero_le _, rfl, rfl, ordsTo_zero _ _, HB0.out, heap_alloc_new _ _⟩
    case round =>
      obtain ⟨k, hk, rfl, rfl, ht, hb, g3⟩ := hrel
      have hbd := ordsLast_bd ht
      have HT : Hid _ := ht
      obtain ⟨c0, c1, c2, c3, c4⟩ := cells5 g3
      obtain ⟨l0, HL0⟩ : ∃ t, Hid (ordsLast zs k = t) := ⟨_, rfl⟩
      rw [HL0.out] at hbd ⊢
      have G3 : Hid _ := g3
      have HB : Hid _ := hb
      clear ht
      by_cases hlt : k < ko
      · obtain ⟨b, off, rfl, hcs⟩ := IntsAt.some (IntsAt.below HA.out hb) (j := k * 6) (by rw [HL.out]; omega)
        obtain ⟨r0, r1, r2, r3, r4, r5⟩ := row6_at hcs HL.out k hlt
        clear hcs g3 hb
        obtain ⟨o0, H0⟩ : ∃ t, Hid (og6 zs k 0 = t) := ⟨_, rfl⟩
        obtain ⟨o1, H1⟩ : ∃ t, Hid (og6 zs k 1 = t) := ⟨_, rfl⟩
        obtain ⟨o2, H2⟩ : ∃ t, Hid (og6 zs k 2 = t) := ⟨_, rfl⟩
        obtain ⟨o3, H3⟩ : ∃ t, Hid (og6 zs k 3 = t) := ⟨_, rfl⟩
        obtain ⟨o4, H4⟩ : ∃ t, Hid (og6 zs k 4 = t) := ⟨_, rfl⟩
        obtain ⟨o5, H5⟩ : ∃ t, Hid (og6 zs k 5 = t) := ⟨_, rfl⟩
        rw [H0.out] at r0
        rw [H1.out] at r1
        rw [H2.out] at r2
        rw [H3.out] at r3
        rw [H4.out] at r4
        rw [H5.out] at r5
        have hlb := block_lt_of_cell r0
        simp at hlb
        have HB1 : Hid (Below w.heap.size w (wr.alloc (Obj.cells #[Value.int IntKind.i64 o0, Value.int IntKind.i64 o1, Value.int IntKind.i64 o2, Value.int IntKind.i64 o3, Value.int IntKind.i64 o4, Value.int IntKind.i64 o5] 43))) := HB.out.alloc HB.out.size _
        have G31 : Hid ((wr.alloc (Obj.cells #[Value.int IntKind.i64 o0, Value.int IntKind.i64 o1, Value.int IntKind.i64 o2, Value.int IntKind.i64 o3, Value.int IntKind.i64 o4, Value.int IntKind.i64 o5] 43)).heap[w.heap.size]? = _) := (heap_alloc_old _ _ (row_lt G3.out)).trans G3.out
        have G41 : Hid ((wr.alloc (Obj.cells #[Value.int IntKind.i64 o0, Value.int IntKind.i64 o1, Value.int IntKind.i64 o2, Value.int IntKind.i64 o3, Value.int IntKind.i64 o4, Value.int IntKind.i64 o5] 43)).heap[wr.heap.size]? = _) := heap_alloc_new _ _
        have hlw := row_lt G3.out
        cases h1 : inB o0 (l0 + 1) 1000000000
        · have HN : Hid (ordsB n zs ko = false) := ordsB_bad hlt (ords_id_no (by rw [H0.out, HL0.out, h1]; simp))
          go_wp2_with (first
            | (go_at_call 76; refine (within_any _ _ _ _).mono ?_; rintro e w' ⟨rfl, rfl⟩))
          go_ret
          exact ⟨ret_bool HN.out.symm, HB1.out⟩
        · cases h2 : ordIn n o1 o2 o3 o4 o5
          · have HN : Hid (ordsB n zs ko = false) := ordsB_bad hlt (ords_id_no (by rw [H1.out, H2.out, H3.out, H4.out, H5.out, h2]; simp))
            go_wp2_with (first
              | (go_at_call 76; refine (within_any _ _ _ _).mono ?_; rintro e w' ⟨rfl, rfl⟩)
              | (go_at_call 100; refine (orderOk_any n _ _ _ _ _ _ _ _ hn1 hn2).mono ?_; rintro e w2 ⟨rfl, hb2⟩))
            go_ret
            exact ⟨ret_bool HN.out.symm, HB1.out.trans (hb2.mono HB1.out.size)⟩
          · have HS : Hid (ordsTo n zs (k + 1)) := by
              have := ords_id HT.out (by rw [H0.out, HL0.out]; exact h1) (by rw [H1.out, H2.out, H3.out, H4.out, H5.out]; exact h2)
              exact ordsTo_step HT.out this.1 this.2
            go_wp2_with (first
              | (go_at_call 76; refine (within_any _ _ _ _).mono ?_; rintro e w' ⟨rfl, rfl⟩)
              | (go_at_call 100; refine (orderOk_any n _ _ _ _ _ _ _ _ hn1 hn2).mono ?_; rintro e w2 ⟨rfl, hb2⟩; obtain ⟨q0, q1, q2, q3, q4, q5⟩ := cells6 (below_row hb2 (row_lt G41.out) G41.out)))
            obtain ⟨B2, R2⟩ := box_more hb2 HB1.out G31.out
            refine ⟨⟨k + 1, by omega, by go_num, by show _ = Value.int IntKind.i64 (og6 zs k 0); rw [H0.out], HS.out, B2, R2⟩, by simp [intOf]; omega⟩
      · have hkx : k = ko := by omega
        have HN : Hid (ordsB n zs ko = true) := ordsB_yes hmany (hkx ▸ HT.out)
        clear hkx g3 hb
        go_wp2
        go_ret
        exact ⟨ret_bool HN.out.symm, HB.out⟩
  · have HN : Hid (ordsB n zs ko = false) := ordsB_many hmany
    go_enter Try.func74, Try.ntmps74
    go_wp2
    go_ret
    exact ⟨ret_bool HN.out.symm, HB0.out⟩

set_option maxHeartbeats 1000000 in
theorem vehiclesOk_any (n fine : Int) (a ao av : Option Addr) (lt cap ko co kv cv : Nat) (zs : List Int) (w : World) (hn1 : 1 ≤ n) (hn2 : n ≤ 16) (hA : IntsAt w av zs) (hl : zs.length = kv * 5) (hlen : kv ≤ 9223372036854775807) :
    Calls Try.prog 75 #[.agg #[.int .i64 n, .slice a lt cap, .slice ao ko co, .slice av kv cv, .int .i64 fine]] w fun e w' => e = .returned (.bool (vehsB n zs kv)) ∧ Below w.heap.size w w' := by
  have HB0 : Hid (Below w.heap.size w (w.alloc (Obj.cells #[Value.int IntKind.i64 n, Value.slice a lt cap, Value.slice ao ko co, Value.slice av kv cv, Value.int IntKind.i64 fine] 30))) := (Below.refl _ _).alloc (Nat.le_refl _) _
  have HA : Hid (IntsAt w av zs) := hA
  have HL : Hid (zs.length = kv * 5) := hl
  clear hA hl
  by_cases hmany : kv ≤ 5
  · go_enter Try.func75, Try.ntmps75
    go_wp2_with fail
    go_loopw [3, 13] (fun l t wr => ∃ k : Nat, k ≤ kv ∧ t = .int .i64 k ∧ l = .int .i64 (vehsLast zs k) ∧ vehsTo n zs k ∧ Below w.heap.size w wr ∧ wr.heap[w.heap.size]? = some (.cells #[Value.int IntKind.i64 n, Value.slice a lt cap, Value.slice ao ko co, Value.slice av kv cv, Value.int IntKind.i64 fine] 30 (0, 0))) (fun _ t _ => kv - (intOf t).toNat)
    case atStart => exact ⟨0, Nat.zero_le _, rfl, rfl, vehsTo_zero _ _, HB0.out, heap_alloc_new _ _⟩
    case round =>
      obtain ⟨k, hk, rfl, rfl, ht, hb, g3⟩ := hrel
      have hbd := vehsLast_bd ht
      have HT : Hid _ := ht
      obtain ⟨c0, c1, c2, c3, c4⟩ := cells5 g3
      obtain ⟨l0, HL0⟩ : ∃ t, Hid (vehsLast zs k = t) := ⟨_, rfl⟩
      rw [HL0.out] at hbd ⊢
      have G3 : Hid _ := g3
      have HB : Hid _ := hb
      clear ht
      by_cases hlt : k < kv
      · obtain ⟨b, off, rfl, hcs⟩ := IntsAt.some (IntsAt.below HA.out hb) (j := k * 5) (by rw [HL.out]; omega)
        obtain ⟨r0, r1, r2, r3, r4⟩ := row5_at hcs HL.out k hlt
        clear hcs g3 hb
        obtain ⟨o0, H0⟩ : ∃ t, Hid (og5 zs k 0 = t) := ⟨_, rfl⟩
        obtain ⟨o1, H1⟩ : ∃ t, Hid (og5 zs k 1 = t) := ⟨_, rfl⟩
        obtain ⟨o2, H2⟩ : ∃ t, Hid (og5 zs k 2 = t) := ⟨_, rfl⟩
        obtain ⟨o3, H3⟩ : ∃ t, Hid (og5 zs k 3 = t) := ⟨_, rfl⟩
        obtain ⟨o4, H4⟩ : ∃ t, Hid (og5 zs k 4 = t) := ⟨_, rfl⟩
        rw [H0.out] at r0
        rw [H1.out] at r1
        rw [H2.out] at r2
        rw [H3.out] at r3
        rw [H4.out] at r4
        have hlb := block_lt_of_cell r0
        simp at hlb
        have HB1 : Hid (Below w.heap.size w (wr.alloc (Obj.cells #[Value.int IntKind.i64 o0, Value.int IntKind.i64 o1, Value.int IntKind.i64 o2, Value.int IntKind.i64 o3, Value.int IntKind.i64 o4] 78))) := HB.out.alloc HB.out.size _
        have G31 : Hid ((wr.alloc (Obj.cells #[Value.int IntKind.i64 o0, Value.int IntKind.i64 o1, Value.int IntKind.i64 o2, Value.int IntKind.i64 o3, Value.int IntKind.i64 o4] 78)).heap[w.heap.size]? = _) := (heap_alloc_old _ _ (row_lt G3.out)).trans G3.out
        have G41 : Hid ((wr.alloc (Obj.cells #[Value.int IntKind.i64 o0, Value.int IntKind.i64 o1, Value.int IntKind.i64 o2, Value.int IntKind.i64 o3, Value.int IntKind.i64 o4] 78)).heap[wr.heap.size]? = _) := heap_alloc_new _ _
        have hlw := row_lt G3.out
        cases h1 : inB o0 (l0 + 1) 1000000000
        · have HN : Hid (vehsB n zs kv = false) := vehsB_bad hlt (vehs_id_no (by rw [H0.out, HL0.out, h1]; simp))
          go_wp2_with (first
            | (go_at_call 76; refine (within_any _ _ _ _).mono ?_; rintro e w' ⟨rfl, rfl⟩))
          go_ret
          exact ⟨ret_bool HN.out.symm, HB1.out⟩
        · cases h2 : vehIn n o1 o2 o3 o4
          · have HN : Hid (vehsB n zs kv = false) := vehsB_bad hlt (vehs_id_no (by rw [H1.out, H2.out, H3.out, H4.out, h2]; simp))
            go_wp2_with (first
              | (go_at_call 76; refine (within_any _ _ _ _).mono ?_; rintro e w' ⟨rfl, rfl⟩)
              | (go_at_call 101; refine (vehicleOk_any n _ _ _ _ _ _ _ hn1 hn2).mono ?_; rintro e w2 ⟨rfl, hb2⟩))
            go_ret
            exact ⟨ret_bool HN.out.symm, HB1.out.trans (hb2.mono HB1.out.size)⟩
          · have HS : Hid (vehsTo n zs (k + 1)) := by
              have := vehs_id HT.out (by rw [H0.out, HL0.out]; exact h1) (by rw [H1.out, H2.out, H3.out, H4.out]; exact h2)
              exact vehsTo_step HT.out this.1 this.2
            go_wp2_with (first
              | (go_at_call 76; refine (within_any _ _ _ _).mono ?_; rintro e w' ⟨rfl, rfl⟩)
              | (go_at_call 101; refine (vehicleOk_any n _ _ _ _ _ _ _ hn1 hn2).mono ?_; rintro e w2 ⟨rfl, hb2⟩; obtain ⟨q0, q1, q2, q3, q4⟩ := cells5 (below_row hb2 (row_lt G41.out) G41.out)))
            obtain ⟨B2, R2⟩ := box_more hb2 HB1.out G31.out
            refine ⟨⟨k + 1, by omega, by go_num, by show _ = Value.int IntKind.i64 (og5 zs k 0); rw [H0.out], HS.out, B2, R2⟩, by simp [intOf]; omega⟩
      · have hkx : k = kv := by omega
        have HN : Hid (vehsB n zs kv = true) := vehsB_yes hmany (hkx ▸ HT.out)
        clear hkx g3 hb
        go_wp2
        go_ret
        exact ⟨ret_bool HN.out.symm, HB.out⟩
  · have HN : Hid (vehsB n zs kv = false) := vehsB_many hmany
    go_enter Try.func75, Try.ntmps75
    go_wp2
    go_ret
    exact ⟨ret_bool HN.out.symm, HB0.out⟩

end Go.Proofs.Ytonopidjkcmlmaa

namespace Go.Proofs.Ytonopidjkcmlmaa
open Go.RowKit

theorem Try.info41 : (Try.prog.info? 140).map (fun i => (i.zero, i.size)) = some (some (.agg (cellsOf zeros)), 256) := by kernel_rfl

/-- The world inside gridOf: the boxed matrix, the result's cells, the grid's. -/
def GW (w wr : World) (n : Nat) (a : Option Addr) (cap : Nat) (z0 : Array Value) (gl : List Int) : Prop :=
  wr.heap.size = w.heap.size + 3 ∧ Below w.heap.size w wr ∧ wr.heap[w.heap.size]? = some (.cells #[.int .i64 n, .slice a (n * n) cap] 26 (0, 0)) ∧
  wr.heap[w.heap.size + 1]? = some (.cells z0 140 (0, 0)) ∧ wr.heap[w.heap.size + 1 + 1]? = some (.cells (cellsOf gl) 140 (0, 0))

theorem GW.step {w wr : World} {n : Nat} {a : Option Addr} {cap : Nat} {z0 : Array Value} {zs : List Int} {x y : Nat} {t : Int} (h : GW w wr n a cap z0 (gridTo n zs x y)) (hx : x < n) (hy : y < n) (hn : n ≤ 16) (ht : zs.getD (x * n + y) 0 = t) :
    GW w (wr.setCell ⟨w.heap.size + 1 + 1, x * 16 + y, none⟩ (.int .i64 t)) n a cap z0 (gridTo n zs x (y + 1)) := by
  obtain ⟨g1, g2, g3, g4, g5⟩ := h
  refine ⟨by simpa [World.setCell] using g1, g2.setCell (by simp; omega) _, ?_, ?_, ?_⟩
  · rw [heap_setCell_other _ _ _ _ (by simp; omega)]; exact g3
  · rw [heap_setCell_other _ _ _ _ (by simp)]; exact g4
  · rw [heap_setCell_same _ _ _ _ _ _ g5, cellsOf_set, ← ht, gridTo_step n zs x y hx hy hn]

theorem size41 : (Try.prog.info? 140).map (·.size) = some 256 := (zero_of_info Try.info41).2

theorem size41_of {l : List Int} (h : l.length = 256) : (Try.prog.info? 140).map (·.size) = some (cellsOf l).size := by
  rw [cellsOf_size, h]; exact size41

theorem ret_grid (tmps : Array Value) (W : World) (g : Nat) (l : List Int) (b : Bool) (hl : l.length = 256)
    (hp : tmps.getD 2 undef = .pointer (some ⟨g, 0, none⟩)) (hb : tmps.getD 3 undef = .bool b) (hg : W.heap[g]? = some (.cells (cellsOf l) 140 (0, 0))) :
    (results Try.f99 tmps).run Try.prog W = .ok (.tuple #[.agg (cellsOf l), .bool b]) W := by
  rw [results_cell_tmp Try.results99, hp, hb]
  simp only [asAddr, Sem.run_pure, Result.andThen_ok, run_loadVar_row W g 140 140 (cellsOf l) (0, 0) _ hg Try.underlying140 rfl (size41_of hl)]

set_option maxHeartbeats 1000000 in
theorem grid_loop (n : Nat) (a : Option Addr) (cap : Nat) (zs : List Int) (w : World) (h1 : 1 ≤ n) (h2 : n ≤ 16) (hl : zs.length = n * n) (hA : IntsAt w a zs) :
    Calls Try.prog 99 #[.agg #[.int .i64 n, .slice a zs.length cap]] w fun e w' => e = .returned (.tuple #[.agg (cellsOf (gridRes n zs)), .bool (matB n zs)]) ∧ Below w.heap.size w w' := by
    have hz := (zero_of_info Try.info41).1
    generalize hz0 : cellsOf zeros = z0 at hz
    have HZ : Hid (cellsOf zeros = z0) := hz0
    clear hz0
    have hnn : n * n ≤ 256 := mul_bd n n h2 h2
    have hd1 : inB (n : Int) 1 16 = true := inB_mk (by omega)
    have hnw : wrap64 ((n : Int) * (n : Int)) = (n : Int) * (n : Int) := IntWalk.wrap64_in _ (by rw [← Int.natCast_mul]; omega)
    have HA : Hid (IntsAt w a zs) := hA
    clear hA
    rw [hl]
    have HL : Hid (zs.length = n * n) := hl
    clear hl
    go_enter Try.func99, Try.ntmps99
    go_wp2_with (go_at_call 76; refine (within_any _ _ _ _).mono ?_; rintro e w' ⟨rfl, rfl⟩)
    go_loopw [26] (fun t wr => ∃ x : Nat, x ≤ n ∧ t = .int .i64 x ∧ GW w wr n a cap z0 (gridTo n zs x 0) ∧ okTo n zs x 0) (fun t _ => n - (intOf t).toNat)
    case atStart =>
      refine ⟨0, Nat.zero_le _, rfl, ⟨by simp, ?_, ?_, ?_, ?_⟩, okTo_zero _ _⟩
      · exact (((Below.refl _ _).alloc (Nat.le_refl _) _).alloc (by simp) _).alloc (by simp; omega) _
      · rw [heap_alloc_old _ _ (by simp; omega), heap_alloc_old _ _ (by simp)]
        exact heap_alloc_new _ _
      · rw [heap_alloc_old _ _ (by simp)]
        exact heap_alloc2_new _ _ _
      · rw [gridTo_zero, HZ.out]
        have := heap_alloc_new ((w.alloc (Obj.cells #[Value.int IntKind.i64 n, Value.slice a (n * n) cap] 26)).alloc (Obj.cells z0 140)) (Obj.cells z0 140)
        simpa using this
    case round =>
      obtain ⟨x, hx, rfl, hG, hok⟩ := hrel
      obtain ⟨g1, g2, g3, g4, g5⟩ := hG
      have c0 := cell_of_row _ _ 0 _ _ _ g3
      have c1 := cell_of_row _ _ 1 _ _ _ g3
      simp at c0 c1
      by_cases hlt : x < n
      · have G4 : Hid _ := g4
        have G5 : Hid _ := g5
        have HO : Hid _ := hok
        clear g4 g5 hok
        go_wp2_with fail
        go_loopw [31] (fun t wr => ∃ y : Nat, y ≤ n ∧ t = .int .i64 y ∧ GW w wr n a cap z0 (gridTo n zs x y) ∧ okTo n zs x y) (fun t _ => n - (intOf t).toNat)
        case atStart => exact ⟨0, Nat.zero_le _, rfl, ⟨g1, g2, g3, G4.out, G5.out⟩, HO.out⟩
        case round =>
          clear g1 g2 g3 c0 c1 G4 G5 HO
          obtain ⟨y, hy, rfl, hG, hok⟩ := hrel
          have HG : Hid (GW w wr n a cap z0 (gridTo n zs x y)) := hG
          obtain ⟨g1, g2, g3, g4, g5⟩ := hG
          have c0 := cell_of_row _ _ 0 _ _ _ g3
          have c1 := cell_of_row _ _ 1 _ _ _ g3
          simp at c0 c1
          by_cases hylt : y < n
          · have hxy : x * n + y < n * n := by
              have := Nat.mul_le_mul_right n (show x + 1 ≤ n by omega)
              rw [Nat.add_mul] at this
              omega
            obtain ⟨bb, off, rfl, hcs⟩ := IntsAt.some (IntsAt.below HA.out g2) (j := x * n + y) (by rw [HL.out]; exact hxy)
            have ct := hcs (x * n + y) (by rw [HL.out]; exact hxy)
            clear hcs
            generalize htt : zs.getD (x * n + y) 0 = t at ct
            have HT : Hid (zs.getD (x * n + y) 0 = t) := htt
            clear htt
            have cg := cell_of_row _ _ (x * 16 + y) _ _ _ g5
            rw [cellsOf_get _ _ (by rw [gridTo_length]; omega)] at cg
            have fg := frozen_of_row _ _ (x * 16 + y) _ _ g5
            have HO : Hid (okTo n zs x y) := hok
            clear hok
            have hwm : wrap64 ((x : Int) * (n : Int)) = (x : Int) * (n : Int) := IntWalk.wrap64_in _ (by rw [← Int.natCast_mul]; omega)
            by_cases hgood : 0 ≤ t ∧ t ≤ 10000 ∧ (x = y → t = 0)
            · have hvd : inB t 0 10000 = true := inB_mk (by omega)
              have HS : Hid (okTo n zs x (y + 1)) := okTo_step HO.out (by rw [HT.out]; exact hgood.1) (by rw [HT.out]; exact hgood.2.1) (by rw [HT.out]; exact hgood.2.2)
              clear HO g3 g4 g5 g2 g1
              by_cases hxe : x = y
              · have hne : ((x : Int) == (y : Int)) = true := by simp; omega
                have hne' : ((y : Int) == (y : Int)) = true := by simp
                have ht0 : (t != 0) = false := by simp [hgood.2.2 hxe]
                have HXE : Hid (x = y) := hxe
                clear hgood hxe
                go_wp2_with (first
                  | (go_at_call 76; refine (within_any _ _ _ _).mono ?_; rintro e w' ⟨rfl, rfl⟩))
                refine ⟨⟨y + 1, by omega, by go_num, HG.out.step hlt hylt h2 HT.out, HS.out⟩, by simp [intOf]; omega⟩
              · have hne : ((x : Int) == (y : Int)) = false := by simp; omega
                clear hgood hxe
                go_wp2_with (first
                  | (go_at_call 76; refine (within_any _ _ _ _).mono ?_; rintro e w' ⟨rfl, rfl⟩))
                refine ⟨⟨y + 1, by omega, by go_num, HG.out.step hlt hylt h2 HT.out, HS.out⟩, by simp [intOf]; omega⟩
            · have HB : Hid (matB n zs = false) := matB_bad n zs x y hlt hylt HL.out (by rw [HT.out]; exact hgood)
              have hzz : ∀ (wr : World), wr.heap[w.heap.size + 1]? = some (.cells z0 140 (0, 0)) → True := fun _ _ => trivial
              clear HO g3 g5 g1 hzz
              by_cases hv : 0 ≤ t ∧ t ≤ 10000
              · have hvd : inB t 0 10000 = true := inB_mk (by omega)
                have hxe : x = y := by omega
                have hne : ((x : Int) == (y : Int)) = true := by simp; omega
                have ht0 : (t != 0) = true := by simp; omega
                clear hgood hxe hv
                go_wp2_with (first
                  | (go_at_call 76; refine (within_any _ _ _ _).mono ?_; rintro e w' ⟨rfl, rfl⟩)
                  | (refine wpList_store_row rfl 140 (.tmp 2) (.tmp 56) rfl (w.heap.size + 1) z0 rfl rfl 140 z0 g4 (by rw [← HZ.out]; exact size41_of zeros_length) rfl (by rw [← HZ.out]; exact cellsOf_one _) ?_))
                refine bodyPost_ret (v := .tuple #[.agg (cellsOf zeros), .bool false]) (ret_grid _ _ (w.heap.size + 1) zeros false zeros_length rfl rfl ?_) rfl ⟨?_, ?_⟩
                · rw [HZ.out]; exact setRow_heap _ _ _ _ _ _ g4
                · exact ret_grid_eq (by rw [gridRes_false HB.out]) HB.out.symm
                · exact below_setRow g2 (by omega) _
              · have hvd : inB t 0 10000 = false := inB_not hv
                clear hgood hv
                go_wp2_with (first
                  | (go_at_call 76; refine (within_any _ _ _ _).mono ?_; rintro e w' ⟨rfl, rfl⟩)
                  | (refine wpList_store_row rfl 140 (.tmp 2) (.tmp 56) rfl (w.heap.size + 1) z0 rfl rfl 140 z0 g4 (by rw [← HZ.out]; exact size41_of zeros_length) rfl (by rw [← HZ.out]; exact cellsOf_one _) ?_))
                refine bodyPost_ret (v := .tuple #[.agg (cellsOf zeros), .bool false]) (ret_grid _ _ (w.heap.size + 1) zeros false zeros_length rfl rfl ?_) rfl ⟨?_, ?_⟩
                · rw [HZ.out]; exact setRow_heap _ _ _ _ _ _ g4
                · exact ret_grid_eq (by rw [gridRes_false HB.out]) HB.out.symm
                · exact below_setRow g2 (by omega) _
          · have hye : y = n := by omega
            have HO : Hid (okTo n zs (x + 1) 0) := okTo_row (hye ▸ hok)
            have HG' : Hid (GW w wr n a cap z0 (gridTo n zs (x + 1) 0)) := by
              have := HG.out
              rw [hye, gridTo_row] at this
              exact this
            clear hok hye HG g3 g4 g5
            go_wp2_with fail
            refine ⟨⟨x + 1, by omega, by go_num, HG'.out, HO.out⟩, by simp [intOf]; omega⟩
      · have hge : n ≤ x := by omega
        have Hxn : Hid (x = n) := by show x = n; omega
        go_wp2_with (first
          | (refine wpList_load_row rfl 140 (.tmp 4) rfl (w.heap.size + 1 + 1) rfl 140 (cellsOf (gridTo n zs x 0)) (0, 0) _ g5 Try.underlying140 rfl (size41_of (gridTo_length _ _ _ _)) ?_)
          | (refine wpList_store_row rfl 140 (.tmp 2) (.tmp 64) rfl (w.heap.size + 1) (cellsOf (gridTo n zs x 0)) rfl rfl 140 z0 g4 (size41_of (gridTo_length _ _ _ _)) (by rw [← HZ.out, cellsOf_size, cellsOf_size, zeros_length, gridTo_length]) (cellsOf_one _) ?_))
        refine bodyPost_ret (v := .tuple #[.agg (cellsOf (gridTo n zs x 0)), .bool true]) (ret_grid _ _ (w.heap.size + 1) (gridTo n zs x 0) true (gridTo_length _ _ _ _) rfl rfl ?_) rfl ⟨?_, ?_⟩
        · exact setRow_heap _ _ _ _ _ _ g4
        · have e := Hxn.out
          have hm := matB_of_okTo n zs h1 h2 HL.out (e ▸ hok)
          exact ret_grid_eq (by rw [gridRes_true hm, e]) hm.symm
        · exact below_setRow g2 (by omega) _

set_option maxHeartbeats 1000000 in
theorem grid_out (n : Int) (a : Option Addr) (len cap : Nat) (w : World) (hn : ¬ (1 ≤ n ∧ n ≤ 16)) :
    Calls Try.prog 99 #[.agg #[.int .i64 n, .slice a len cap]] w fun e w' => e = .returned (.tuple #[.agg (cellsOf zeros), .bool false]) ∧ Below w.heap.size w w' := by
  have hz := (zero_of_info Try.info41).1
  generalize hz0 : cellsOf zeros = z0 at hz
  have HZ : Hid (cellsOf zeros = z0) := hz0
  clear hz0
  have hd1 : inB n 1 16 = false := inB_not hn
  clear hn
  go_enter Try.func99, Try.ntmps99
  go_wp2_with fail
  refine (within_any _ _ _ _).mono ?_; rintro e w' ⟨rfl, rfl⟩
  have HG4 : Hid (((((w.alloc (Obj.cells #[Value.int IntKind.i64 n, Value.slice a len cap] 26)).alloc (Obj.cells z0 140)).alloc (Obj.cells z0 140)).heap)[w.heap.size + 1]? = some (.cells z0 140 (0, 0))) := by
    show _ = _
    rw [heap_alloc_old _ _ (by simp)]
    exact heap_alloc2_new _ _ _
  go_wp2_with (
    with_reducible refine wpList_store_row ?_ 140 (.tmp 2) (.tmp 23) ?_ (w.heap.size + 1) z0 ?_ ?_ 140 z0 ?_ ?_ ?_ ?_ ?_
    · rfl
    · rfl
    · rfl
    · rfl
    · exact HG4.out
    · rw [← HZ.out]; exact size41_of zeros_length
    · rfl
    · rw [← HZ.out]; exact cellsOf_one _)
  refine bodyPost_ret (v := .tuple #[.agg (cellsOf zeros), .bool false]) (ret_grid _ _ (w.heap.size + 1) zeros false zeros_length rfl rfl ?_) rfl ⟨by rw [HZ.out], ?_⟩
  · rw [HZ.out]; exact setRow_heap _ _ _ _ _ _ HG4.out
  · exact below_setRow ((((Below.refl _ _).alloc (Nat.le_refl _) _).alloc (by simp) _).alloc (by simp; omega) _) (by omega) _

set_option maxHeartbeats 1000000 in
theorem grid_len (n : Nat) (a : Option Addr) (len cap : Nat) (w : World) (h1 : 1 ≤ n) (h2 : n ≤ 16) (hl : len ≠ n * n) :
    Calls Try.prog 99 #[.agg #[.int .i64 n, .slice a len cap]] w fun e w' => e = .returned (.tuple #[.agg (cellsOf zeros), .bool false]) ∧ Below w.heap.size w w' := by
  have hz := (zero_of_info Try.info41).1
  generalize hz0 : cellsOf zeros = z0 at hz
  have HZ : Hid (cellsOf zeros = z0) := hz0
  clear hz0
  have hnn : n * n ≤ 256 := mul_bd n n h2 h2
  have hd1 : inB (n : Int) 1 16 = true := inB_mk (by omega)
  have hnw : wrap64 ((n : Int) * (n : Int)) = (n : Int) * (n : Int) := IntWalk.wrap64_in _ (by rw [← Int.natCast_mul]; omega)
  have hne : ((len : Int) != (n : Int) * (n : Int)) = true := by rw [bne_iff_ne, ← Int.natCast_mul]; omega
  have G4 : ((((w.alloc (Obj.cells #[Value.int IntKind.i64 n, .slice a len cap] 26)).alloc (Obj.cells z0 140)).alloc (Obj.cells z0 140)).heap)[w.heap.size + 1]? = some (.cells z0 140 (0, 0)) := by
    rw [heap_alloc_old _ _ (by simp)]
    exact heap_alloc2_new _ _ _
  have HG4 : Hid _ := G4
  clear G4 hl
  go_enter Try.func99, Try.ntmps99
  go_wp2_with (first
    | (go_at_call 76; refine (within_any _ _ _ _).mono ?_; rintro e w' ⟨rfl, rfl⟩)
    | (refine wpList_store_row rfl 140 (.tmp 2) (.tmp 23) rfl (w.heap.size + 1) z0 rfl rfl 140 z0 HG4.out (by rw [← HZ.out]; exact size41_of zeros_length) rfl (by rw [← HZ.out]; exact cellsOf_one _) ?_))
  refine bodyPost_ret (v := .tuple #[.agg (cellsOf zeros), .bool false]) (ret_grid _ _ (w.heap.size + 1) zeros false zeros_length rfl rfl ?_) rfl ⟨by rw [HZ.out], ?_⟩
  · rw [HZ.out]; exact setRow_heap _ _ _ _ _ _ HG4.out
  · exact below_setRow ((((Below.refl _ _).alloc (Nat.le_refl _) _).alloc (by simp) _).alloc (by simp; omega) _) (by omega) _

theorem grid_any (n : Int) (a : Option Addr) (cap : Nat) (zs : List Int) (w : World) (hA : IntsAt w a zs) :
    Calls Try.prog 99 #[.agg #[.int .i64 n, .slice a zs.length cap]] w fun e w' => e = .returned (.tuple #[.agg (cellsOf (gridRes n zs)), .bool (matB n zs)]) ∧ Below w.heap.size w w' := by
  by_cases hn : 1 ≤ n ∧ n ≤ 16
  · obtain ⟨m, rfl⟩ := Int.eq_ofNat_of_zero_le (show 0 ≤ n by omega)
    by_cases hl : zs.length = m * m
    · exact grid_loop m a cap zs w (by omega) (by omega) hl hA
    · have hm : matB (m : Int) zs = false := matB_not fun h => hl (by have := h.2.2.1; rw [← Int.natCast_mul] at this; omega)
      rw [gridRes_false hm, hm]
      exact grid_len m a zs.length cap w (by omega) (by omega) hl
  · have hm : matB n zs = false := matB_not fun h => hn ⟨h.1, h.2.1⟩
    rw [gridRes_false hm, hm]
    exact grid_out n _ _ _ w hn

end Go.Proofs.Ytonopidjkcmlmaa

namespace Go.Proofs.Ytonopidjkcmlmaa
open Go.RowKit

set_option maxHeartbeats 400000 in
theorem implMat_any (n : Int) (a : Option Addr) (cap : Nat) (zs : List Int) (w : World) (hA : IntsAt w a zs) :
    Calls Try.prog 73 #[.agg #[.int .i64 n, .slice a zs.length cap]] w fun e w' => e = .returned (.bool (matB n zs)) ∧ Below w.heap.size w w' := by
  have HB0 : Hid (Below w.heap.size w (w.alloc (Obj.cells #[Value.int IntKind.i64 n, Value.slice a zs.length cap] 26))) :=
    (Below.refl _ _).alloc (Nat.le_refl _) _
  have HA : Hid (IntsAt w a zs) := hA
  clear hA
  have hz := (zero_of_info Try.info41).1
  go_enter Try.func73, Try.ntmps73
  go_wp2_with fail
  refine (grid_any n a cap zs _ (HA.out.below HB0.out)).mono ?_
  rintro e w1 ⟨rfl, hb⟩
  have HB1 : Hid _ := hb
  clear hb
  generalize hz0 : cellsOf zeros = z0 at hz
  have HZ : Hid (cellsOf zeros = z0) := hz0
  clear hz0
  generalize hgr : cellsOf (gridRes n zs) = gr
  have HGR : Hid (cellsOf (gridRes n zs) = gr) := hgr
  clear hgr
  go_wp2_with (
    with_reducible refine wpList_store_row ?_ 140 (.tmp 3) (.tmp 8) ?_ w1.heap.size gr ?_ ?_ 140 z0 ?_ ?_ ?_ ?_ ?_
    · rfl
    · rfl
    · rfl
    · rfl
    · exact heap_alloc_new _ _
    · rw [← HGR.out]; exact size41_of (gridRes_length _ _)
    · rw [← HZ.out, ← HGR.out, cellsOf_size, cellsOf_size, zeros_length, gridRes_length]
    · rw [← HGR.out]; exact cellsOf_one _)
  go_ret
  refine ⟨rfl, below_setRow ((HB0.out.trans (HB1.out.mono (by simp <;> omega))).alloc ?_ _) ?_ _⟩
  all_goals
    have := HB1.out.size
    simp at this
    omega

end Go.Proofs.Ytonopidjkcmlmaa

namespace Go.Proofs.Ytonopidjkcmlmaa
open Go.RowKit

set_option maxHeartbeats 1000000 in
theorem implCase_any (n fine : Int) (a ao av : Option Addr) (cap ko co kv cv : Nat) (zs os vs : List Int) (w : World) (hA : IntsAt w a zs) (hO : IntsAt w ao os) (hV : IntsAt w av vs) (hlo : os.length = ko * 6) (hlv : vs.length = kv * 5) (hko : ko ≤ 9223372036854775807) (hkv : kv ≤ 9223372036854775807) :
    Calls Try.prog 33 #[.agg #[.int .i64 n, .slice a zs.length cap, .slice ao ko co, .slice av kv cv, .int .i64 fine]] w fun e w' => e = .returned (.bool (caseB n zs os vs ko kv fine)) ∧ Below w.heap.size w w' := by
  have HB0 : Hid (Below w.heap.size w (w.alloc (Obj.cells #[Value.int IntKind.i64 n, Value.slice a zs.length cap, Value.slice ao ko co, Value.slice av kv cv, Value.int IntKind.i64 fine] 30))) := (Below.refl _ _).alloc (Nat.le_refl _) _
  have HA : Hid (IntsAt w a zs) := hA
  have HO : Hid (IntsAt w ao os) := hO
  have HV : Hid (IntsAt w av vs) := hV
  have HLO : Hid _ := hlo
  have HLV : Hid _ := hlv
  clear hA hO hV hlo hlv
  cases h1 : matB n zs
  · have HM : Hid _ := h1
    have HC : Hid (caseB n zs os vs ko kv fine = false) := by show _ = _; simp [caseB, h1]
    clear h1
    go_enter Try.func33, Try.ntmps33
    go_wp2_with fail
    refine (implMat_any n a cap zs _ (HA.out.below HB0.out)).mono ?_
    rintro e w1 ⟨rfl, hb⟩
    rw [HM.out]
    obtain ⟨b1, r1⟩ := box5 hb
    clear hb
    go_wp2
    go_ret
    exact ⟨ret_bool HC.out.symm, b1⟩
  · obtain ⟨hn1, hn2, _, _⟩ := matB_true h1
    have HM : Hid _ := h1
    cases h2 : ordsB n os ko
    · have HC : Hid (caseB n zs os vs ko kv fine = false) := by show _ = _; simp [caseB, h1, h2]
      have HO2 : Hid _ := h2
      clear h1 h2
      go_enter Try.func33, Try.ntmps33
      go_wp2_with fail
      refine (implMat_any n a cap zs _ (HA.out.below HB0.out)).mono ?_
      rintro e w1 ⟨rfl, hb⟩
      rw [HM.out]
      obtain ⟨b1, r1⟩ := box5 hb
      obtain ⟨c0, c1, c2, c3, c4⟩ := cells5 r1
      have B1 : Hid _ := b1
      clear hb b1 r1
      go_wp2_with fail
      refine (ordersOk_any n fine a ao av _ _ _ _ _ _ os _ hn1 hn2 (HO.out.below B1.out) HLO.out hko).mono ?_
      rintro e w2 ⟨rfl, hb⟩
      rw [HO2.out]
      go_wp2
      go_ret
      exact ⟨ret_bool HC.out.symm, B1.out.trans (hb.mono B1.out.size)⟩
    · have HO2 : Hid _ := h2
      cases h3 : vehsB n vs kv
      · have HC : Hid (caseB n zs os vs ko kv fine = false) := by show _ = _; simp [caseB, h1, h2, h3]
        have HV2 : Hid _ := h3
        clear h1 h2 h3
        go_enter Try.func33, Try.ntmps33
        go_wp2_with fail
        refine (implMat_any n a cap zs _ (HA.out.below HB0.out)).mono ?_
        rintro e w1 ⟨rfl, hb⟩
        rw [HM.out]
        obtain ⟨b1, r1⟩ := box5 hb
        obtain ⟨c0, c1, c2, c3, c4⟩ := cells5 r1
        have B1 : Hid _ := b1
        have R1 : Hid _ := r1
        clear hb b1 r1
        go_wp2_with fail
        refine (ordersOk_any n fine a ao av _ _ _ _ _ _ os _ hn1 hn2 (HO.out.below B1.out) HLO.out hko).mono ?_
        rintro e w2 ⟨rfl, hb⟩
        rw [HO2.out]
        obtain ⟨b2, r2⟩ := box_more hb B1.out R1.out
        clear c0 c1 c2 c3 c4
        obtain ⟨c0, c1, c2, c3, c4⟩ := cells5 r2
        have B2 : Hid _ := b2
        clear hb b2 r2
        go_wp2_with fail
        refine (vehiclesOk_any n fine a ao av _ _ _ _ _ _ vs _ hn1 hn2 (HV.out.below B2.out) HLV.out hkv).mono ?_
        rintro e w3 ⟨rfl, hb⟩
        rw [HV2.out]
        go_wp2
        go_ret
        exact ⟨ret_bool HC.out.symm, B2.out.trans (hb.mono B2.out.size)⟩
      · have HC : Hid (caseB n zs os vs ko kv fine = inB fine 0 1000000) := by show _ = _; simp [caseB, h1, h2, h3]
        have HV2 : Hid _ := h3
        clear h1 h2 h3
        go_enter Try.func33, Try.ntmps33
        go_wp2_with fail
        refine (implMat_any n a cap zs _ (HA.out.below HB0.out)).mono ?_
        rintro e w1 ⟨rfl, hb⟩
        rw [HM.out]
        obtain ⟨b1, r1⟩ := box5 hb
        obtain ⟨c0, c1, c2, c3, c4⟩ := cells5 r1
        have B1 : Hid _ := b1
        have R1 : Hid _ := r1
        clear hb b1 r1
        go_wp2_with fail
        refine (ordersOk_any n fine a ao av _ _ _ _ _ _ os _ hn1 hn2 (HO.out.below B1.out) HLO.out hko).mono ?_
        rintro e w2 ⟨rfl, hb⟩
        rw [HO2.out]
        obtain ⟨b2, r2⟩ := box_more hb B1.out R1.out
        clear c0 c1 c2 c3 c4
        obtain ⟨c0, c1, c2, c3, c4⟩ := cells5 r2
        have B2 : Hid _ := b2
        have R2 : Hid _ := r2
        clear hb b2 r2
        go_wp2_with fail
        refine (vehiclesOk_any n fine a ao av _ _ _ _ _ _ vs _ hn1 hn2 (HV.out.below B2.out) HLV.out hkv).mono ?_
        rintro e w3 ⟨rfl, hb⟩
        rw [HV2.out]
        obtain ⟨b3, r3⟩ := box_more hb B2.out R2.out
        clear c0 c1 c2 c3 c4
        obtain ⟨c0, c1, c2, c3, c4⟩ := cells5 r3
        clear hb r3
        go_wp2_with (go_at_call 76; refine (within_any _ _ _ _).mono ?_; rintro e w' ⟨rfl, rfl⟩)
        go_ret
        exact ⟨ret_bool HC.out.symm, b3⟩

end Go.Proofs.Ytonopidjkcmlmaa

namespace Go.Proofs.Ytonopidjkcmlmaa
open Go.RowKit

theorem own_shp {w : World} {base k : Nat} {v : Value} {e : TypeId} {size : Nat} {xs : List Value} (h : w.ownsRow base e size v k xs) : v = .slice none 0 0 ∨ ∃ g c, v = .slice (some ⟨g, 0, none⟩) k c := by
  obtain ⟨_, ⟨h1, _⟩ | ⟨g, cap, cur, h2, _⟩⟩ := h
  · exact .inl h1
  · exact .inr ⟨g, cap, h2⟩
theorem own_blw {w w' : World} {base size n : Nat} {e : TypeId} {v : Value} {xs : List Value} (h : w.ownsRow base e size v n xs) (hb : Below w.heap.size w w') : w'.ownsRow base e size v n xs := by
  obtain ⟨h1, h2 | ⟨g, cap, cur, h2, h3, h4, h5⟩⟩ := h
  · exact ⟨h1, .inl h2⟩
  · exact ⟨h1, .inr ⟨g, cap, cur, h2, h3, below_row hb (row_lt h4) h4, h5⟩⟩

theorem own_bse {w : World} {base b0 k : Nat} {v : Value} {e : TypeId} {size : Nat} {xs : List Value} (h : w.ownsRow base e size v k xs) (hb : b0 ≤ base) : w.ownsRow b0 e size v k xs := by
  obtain ⟨h0, h1 | ⟨g, cap, cur, h2, h3, h4⟩⟩ := h
  · exact ⟨h0, .inl h1⟩
  · exact ⟨h0, .inr ⟨g, cap, cur, h2, Nat.le_trans hb h3, h4⟩⟩
theorem own_smg {w : World} {base k : Nat} {v : Value} {e : TypeId} {size : Nat} {xs : List Value} (h : w.ownsRow base e size v k xs) (hne : v ≠ .slice none 0 0) : ∃ g c, v = .slice (some ⟨g, 0, none⟩) k c := by
  rcases own_shp h with e | e
  · exact absurd e hne
  · exact e
theorem not_nilg {v v' : Value} {m : Nat} (h : v' = .slice none 0 0 ↔ v = .slice none 0 0 ∧ m = 0) (hv : ∃ g n c, v = .slice (some ⟨g, 0, none⟩) n c) : v' ≠ .slice none 0 0 := by
  intro e
  obtain ⟨g, n, c, rfl⟩ := hv
  have := (h.1 e).1
  simp at this
theorem own_capg {w : World} {base k g c : Nat} {e : TypeId} {size : Nat} {xs : List Value} (h : w.ownsRow base e size (.slice (some ⟨g, 0, none⟩) k c) k xs) : k ≤ c := by
  obtain ⟨_, ⟨h1, _⟩ | ⟨g', cap, cur, h2, _, _, h3, _⟩⟩ := h
  · cases h1
  · injection h2 with e1 e2 e3
    omega
/-- Where an append to a slice of the call's own ends: in the row that was, or in a new block. -/
theorem append_blk {P : Program} (w : World) (base : Nat) (t ty e : TypeId) (i : TypeInfo) (z : Value) (size bytes : Nat) (ht : P.underlying t = some (.slice e)) (hi : P.info? e = some i) (hz : i.zero = some z)
    (hsize : i.size = size) (hby : i.bytes = bytes) (v : Value) (n : Nat) (xs : List Value) (hown : w.ownsRow base e size v n xs)
    (a : Addr) (m c : Nat) (news : List Value) (hl : news.length = m * size) (hnews : ∀ j u, news[j]? = some u → w.cell? (a.add j) = some u) (h1 : ∀ u ∈ news, u.oneCell' = true)
    (h63 : n + m ≤ maxLen) (hbytes : (n + m) * bytes ≤ 140737488355328) {v' : Value} {w' : World} (hrun : (Builtin.append_ #[t, t] ty #[v, .slice (some a) m c]).run P w = .ok v' w') : v'.ownBlock = v.ownBlock ∨ v'.ownBlock = some w.heap.size := by
  subst hsize
  subst hby
  have hsmall : n + m ≤ 9223372036854775807 := by simp only [maxLen] at h63; omega
  rcases hown.2 with ⟨rfl, rfl⟩ | ⟨g, cap, cur, rfl, hbg, hg, hnc, hcm, hcs, htake⟩
  · by_cases hm : m = 0
    · subst hm
      have hn : news = [] := List.eq_nil_of_length_eq_zero (by simpa using hl)
      subst hn
      simp [Builtin.append_, run_underlying ht, sizeOf, typeInfo, hi, Builtin.lenOf, Builtin.firstCells, loadCells, loadCellsFrom] at hrun
      rw [← hrun.1]
      exact .inl rfl
    · have hr := run_append_nil (P := P) w t ty e i z ht hi hz a m c news hl hnews (by omega) (by omega) (by have hb := hbytes; simp only [Nat.zero_add] at hb; omega)
      rw [hr] at hrun
      injection hrun with e1 e2
      rw [← e1]
      exact .inr rfl
  · by_cases hroom : n + m ≤ cap
    · have hfit : n * i.size + news.length ≤ cur.size := by rw [hl, hcs, ← Nat.add_mul]; exact Nat.mul_le_mul_right _ hroom
      have hr := run_append_room (P := P) w t ty e i ht hi g n cap cur hg a m c news hl hnews h1 hroom hfit
      rw [hr] at hrun
      injection hrun with e1 e2
      rw [← e1]
      exact .inl rfl
    · have holds : ∀ j u, xs[j]? = some u → w.cell? ((⟨g, 0, none⟩ : Addr).add j) = some u := hown.cells (g := g) rfl
      have hr := run_append_grow (P := P) w t ty e i z ht hi hz ⟨g, 0, none⟩ n cap xs hown.1 holds a m c news hl hnews (by omega) (by omega) (growslice_fits (by omega) hbytes)
      rw [hr] at hrun
      injection hrun with e1 e2
      rw [← e1]
      exact .inr rfl

theorem exec_app {P : Program} {o : Oper} {a : Act} {w w' : World} {v : Value} (s x : Operand) (t : TypeId) (vs vx : Value) (ho : o.op = .call { callee := .builtin .append, args := #[s, x], argTypes := #[t, t] })
    (hs : a.eval s = vs) (hx : a.eval x = vx) (hr : (Builtin.append_ #[t, t] o.type #[vs, vx]).run P w = .ok v w') : (execOp a.eval o).run P w = .ok (.value v) w' := by
  unfold execOp
  simp only [ho, resolve, invoke, builtin, Sem.run_bind, Sem.run_pure, Result.andThen_ok, List.map_toArray, List.map_cons, List.map_nil, hs, hx, hr]

end Go.Proofs.Ytonopidjkcmlmaa

namespace Go.Proofs.Ytonopidjkcmlmaa
open Go.RowKit

theorem own_putV {w : World} {base n g c k size m : Nat} {e : TypeId} {xs : List Value} (v : Value) (h : w.ownsRow base e size (.slice (some ⟨g, 0, none⟩) m c) n xs) : (w.setCell ⟨g, k, none⟩ v).ownsRow base e size (.slice (some ⟨g, 0, none⟩) m c) n (xs.set k v) := by
  obtain ⟨h0, ⟨h1, _⟩ | ⟨g', cap, cur, h2, h3, h4, h5, h6, h7, h8⟩⟩ := h
  · cases h1
  · simp at h2
    obtain ⟨rfl, rfl, rfl⟩ := h2
    refine ⟨by simpa using h0, .inr ⟨g, c, cur.setIfInBounds k v, rfl, h3, heap_setCell_same w g k cur e _ h4, h5, h6, by simpa using h7, ?_⟩⟩
    rw [Array.toList_setIfInBounds, List.take_set, h8]
theorem own_cellV {w : World} {base n g c k size m : Nat} {e : TypeId} {xs : List Value} {x : Value} (h : w.ownsRow base e size (.slice (some ⟨g, 0, none⟩) m c) n xs) (hk : xs[k]? = some x) : w.cell? ⟨g, k, none⟩ = some x ∧ w.frozen? ⟨g, k, none⟩ = false := by
  refine ⟨?_, ?_⟩
  · have := h.cells (g := g) rfl k x hk
    have hadd : (⟨g, 0, none⟩ : Addr).add k = ⟨g, k, none⟩ := by unfold Addr.add; split <;> simp_all
    rw [hadd] at this
    exact this
  · obtain ⟨h0, ⟨h1, _⟩ | ⟨g', cap, cur, h2, h3, h4, h5⟩⟩ := h
    · cases h1
    · simp at h2
      obtain ⟨rfl, rfl, rfl⟩ := h2
      exact frozen_of_row _ _ k _ _ h4
/-- What a slice of the call's own is: nil, or a row of its own. -/
theorem own_kinds {w : World} {base n size : Nat} {e : TypeId} {v : Value} {xs : List Value} (h : w.ownsRow base e size v n xs) : (v = .slice none 0 0 ∧ n = 0) ∨ ∃ g c, v = .slice (some ⟨g, 0, none⟩) n c ∧ base ≤ g ∧ g < w.heap.size := by
  obtain ⟨_, ⟨h1, h2⟩ | ⟨g, cap, cur, h2, h3, h4, _⟩⟩ := h
  · exact .inl ⟨h1, h2⟩
  · exact .inr ⟨g, cap, h2, h3, row_lt h4⟩

end Go.Proofs.Ytonopidjkcmlmaa

namespace Go.Proofs.Ytonopidjkcmlmaa
open Go.RowKit

set_option maxHeartbeats 1000000 in
theorem l3Form_any (n fine veh : Int) (a ao av bi : Option Addr) (cap ko co kv cv c2 : Nat) (zs os vs ids : List Int) (w : World) (hA : IntsAt w a zs) (hO : IntsAt w ao os) (hV : IntsAt w av vs) (hI : IntsAt w bi ids) (hlo : os.length = ko * 6) (hlv : vs.length = kv * 5) (hko : ko ≤ 9223372036854775807) (hkv : kv ≤ 9223372036854775807) (hli : ids.length ≤ 9223372036854775807) (hc2 : ids.length ≤ c2) :
    Calls Try.prog 108 #[.agg #[.int .i64 n, .slice a zs.length cap, .slice ao ko co, .slice av kv cv, .int .i64 fine], .agg #[.int .i64 veh, .slice bi ids.length c2]] w fun e w' => e = .returned (.int .i64 (formV (caseB n zs os vs ko kv fine) vs os kv ko veh ids)) ∧ Below w.heap.size w w' := by
  have HA : Hid (IntsAt w a zs) := hA
  have HO : Hid (IntsAt w ao os) := hO
  have HV : Hid (IntsAt w av vs) := hV
  have HI : Hid (IntsAt w bi ids) := hI
  have HLO : Hid _ := hlo
  have HLV : Hid _ := hlv
  clear hA hO hV hI hlo hlv
  have HC0 : Hid (CR w ((w.alloc (.cells #[Value.int IntKind.i64 n, Value.slice a zs.length cap, Value.slice ao ko co, Value.slice av kv cv, Value.int IntKind.i64 fine] 30)).alloc (.cells #[Value.int IntKind.i64 veh, Value.slice bi ids.length c2] 46)) _ _) := CR.new w _ _
  obtain ⟨r, HR⟩ : ∃ r, Hid (formV (caseB n zs os vs ko kv fine) vs os kv ko veh ids = r) := ⟨_, rfl⟩
  rw [HR.out]
  go_enter Try.func108, Try.ntmps108
  go_wp2_with fail
  refine (specCase_any n fine a ao av cap ko co kv cv zs os vs _ (HA.out.below HC0.out.1) (HO.out.below HC0.out.1) (HV.out.below HC0.out.1) HLO.out HLV.out hko hkv).mono ?_
  rintro e w1 ⟨rfl, hb⟩
  have C1 : Hid (CR w w1 _ _) := HC0.out.below hb
  clear hb HC0
  cases hc : caseB n zs os vs ko kv fine
  · have HV1 : Hid (r = 1) := HR.out.symm.trans (formV_1 hc)
    go_wp2
    go_ret
    exact ⟨ret_int HV1.out.symm, C1.out.1⟩
  · have HC : Hid _ := hc
    clear hc
    obtain ⟨c0, c1, c2', c3, c4⟩ := cells5 C1.out.2.1
    obtain ⟨d0, d1⟩ := cells2 C1.out.2.2
    go_wp2_with fail
    refine (l2Car_any n fine veh a ao av _ cap ko co kv cv vs _ (HV.out.below C1.out.1) HLV.out hkv).mono ?_
    rintro e w2 ⟨rfl, hb⟩
    obtain ⟨v0, G0⟩ : ∃ t, Hid (fnd5F vs kv veh 0 = t) := ⟨_, rfl⟩
    obtain ⟨v1, G1⟩ : ∃ t, Hid (fnd5F vs kv veh 1 = t) := ⟨_, rfl⟩
    obtain ⟨v2, G2⟩ : ∃ t, Hid (fnd5F vs kv veh 2 = t) := ⟨_, rfl⟩
    obtain ⟨v3, G3⟩ : ∃ t, Hid (fnd5F vs kv veh 3 = t) := ⟨_, rfl⟩
    obtain ⟨v4, G4⟩ : ∃ t, Hid (fnd5F vs kv veh 4 = t) := ⟨_, rfl⟩
    rw [G0.out, G1.out, G2.out, G3.out, G4.out]
    have C2 : Hid (CR w w2 _ _) := C1.out.below hb
    clear hb C1 c0 c1 c2' c3 c4 d0 d1
    cases ht : fnd5T vs kv veh
    · have HV1 : Hid (r = 2) := HR.out.symm.trans (formV_2 HC.out ht)
      go_wp2
      go_ret
      exact ⟨ret_int HV1.out.symm, (CR.alloc C2.out _).1⟩
    · have HT5 : Hid _ := ht
      clear ht
      have C3 : Hid (CR w (w2.alloc (Obj.cells #[Value.int IntKind.i64 v0, Value.int IntKind.i64 v1, Value.int IntKind.i64 v2, Value.int IntKind.i64 v3, Value.int IntKind.i64 v4] 78)) _ _) := CR.alloc C2.out _
      have RV3 : Hid ((w2.alloc (Obj.cells #[Value.int IntKind.i64 v0, Value.int IntKind.i64 v1, Value.int IntKind.i64 v2, Value.int IntKind.i64 v3, Value.int IntKind.i64 v4] 78)).heap[w2.heap.size]? = _) := heap_alloc_new _ _
      obtain ⟨c0, c1, c2', c3, c4⟩ := cells5 C3.out.2.1
      obtain ⟨d0, d1⟩ := cells2 C3.out.2.2
      clear C2
      by_cases h12 : ids.length ≤ 12
      · go_wp2_with fail
        clear c0 c1 c2' c3 c4 d0 d1
        generalize w2.alloc (Obj.cells #[Value.int IntKind.i64 v0, Value.int IntKind.i64 v1, Value.int IntKind.i64 v2, Value.int IntKind.i64 v3, Value.int IntKind.i64 v4] 78) = W2 at *
        generalize w2.heap.size = gv at *
        have HOB : Hid (ordsB n os ko = true) := caseB_ords HC.out
        go_loopw [7, 8] (fun sm t wr => ∃ k : Nat, k ≤ ids.length ∧ t = .int .i64 k ∧ sm = .int .i64 (loadTo os ko ids k) ∧ stopsTo os ko ids k ∧ CR w wr #[Value.int IntKind.i64 n, Value.slice a zs.length cap, Value.slice ao ko co, Value.slice av kv cv, Value.int IntKind.i64 fine] #[Value.int IntKind.i64 veh, Value.slice bi ids.length c2] ∧ wr.heap[gv]? = some (.cells #[Value.int IntKind.i64 v0, Value.int IntKind.i64 v1, Value.int IntKind.i64 v2, Value.int IntKind.i64 v3, Value.int IntKind.i64 v4] 78 (0, 0))) (fun _ t _ => ids.length - (intOf t).toNat)
        case atStart => exact ⟨0, Nat.zero_le _, rfl, rfl, stopsTo_zero _ _ _, C3.out, RV3.out⟩
        case round =>
          clear C3 RV3
          obtain ⟨k, hk, rfl, rfl, hth, hb, hrv⟩ := hrel
          have hbd := loadTo_bd HOB.out ids k
          have HT : Hid (stopsTo os ko ids k) := hth
          have HB : Hid (CR w wr _ _) := hb
          have HRV : Hid (wr.heap[gv]? = _) := hrv
          obtain ⟨c0, c1, c2', c3, c4⟩ := cells5 hb.2.1
          obtain ⟨d0, d1⟩ := cells2 hb.2.2
          obtain ⟨s0, HS0⟩ : ∃ s, Hid (loadTo os ko ids k = s) := ⟨_, rfl⟩
          rw [HS0.out] at hbd ⊢
          clear hth hb hrv
          by_cases hlt : k < ids.length
          · obtain ⟨b, off, rfl, hcs⟩ := IntsAt.some (IntsAt.below HI.out HB.out.1) hlt
            have ct := hcs k hlt
            clear hcs
            obtain ⟨id, HID⟩ : ∃ i, Hid (ids.getD k 0 = i) := ⟨_, rfl⟩
            rw [HID.out] at ct
            have hl2 := fnd6F_load HOB.out id
            obtain ⟨o0, H0⟩ : ∃ t, Hid (fnd6F os ko id 0 = t) := ⟨_, rfl⟩
            obtain ⟨o1, H1⟩ : ∃ t, Hid (fnd6F os ko id 1 = t) := ⟨_, rfl⟩
            obtain ⟨o2, H2⟩ : ∃ t, Hid (fnd6F os ko id 2 = t) := ⟨_, rfl⟩
            obtain ⟨o3, H3⟩ : ∃ t, Hid (fnd6F os ko id 3 = t) := ⟨_, rfl⟩
            obtain ⟨o4, H4⟩ : ∃ t, Hid (fnd6F os ko id 4 = t) := ⟨_, rfl⟩
            obtain ⟨o5, H5⟩ : ∃ t, Hid (fnd6F os ko id 5 = t) := ⟨_, rfl⟩
            rw [H2.out] at hl2
            have HL1 : Hid (loadTo os ko ids (k + 1) = s0 + o2) := by
              show _ = _
              unfold loadTo
              rw [HS0.out, HID.out, H2.out]
            obtain ⟨tt, HTT⟩ : ∃ t, Hid (fnd6T os ko id = t) := ⟨_, rfl⟩
            go_wp2_with fail
            have HCT : Hid (wr.cell? ⟨b, off + k, none⟩ = _) := ct
            have HCA : Hid ((wr.alloc (Obj.cells #[Value.int IntKind.i64 0, Value.int IntKind.i64 0, Value.int IntKind.i64 0, Value.int IntKind.i64 0, Value.int IntKind.i64 0, Value.int IntKind.i64 0] 43)).cell? ⟨b, off + k, none⟩ = _) := (((Below.refl wr.heap.size wr).alloc (Nat.le_refl _) _).cell (p := ⟨b, off + k, none⟩) (block_lt_of_cell ct)).trans ct
            have HVA : Hid ((wr.alloc (Obj.cells #[Value.int IntKind.i64 0, Value.int IntKind.i64 0, Value.int IntKind.i64 0, Value.int IntKind.i64 0, Value.int IntKind.i64 0, Value.int IntKind.i64 0] 43)).heap[gv]? = _) := (heap_alloc_old _ _ (row_lt HRV.out)).trans HRV.out
            have hlb := block_lt_of_cell ct
            simp at hlb
            have hlw := row_lt HB.out.2.1
            have hlr := row_lt HB.out.2.2
            go_region_held3 (fun W => W.cell? ⟨w.heap.size, 0, none⟩ = some (.int .i64 n) ∧ W.cell? ⟨w.heap.size, 1, none⟩ = some (.slice a zs.length cap) ∧ W.cell? ⟨w.heap.size, 2, none⟩ = some (.slice ao ko co) ∧ W.cell? ⟨w.heap.size, 3, none⟩ = some (.slice av kv cv) ∧ W.cell? ⟨w.heap.size, 4, none⟩ = some (.int .i64 fine) ∧ W.cell? ⟨w.heap.size + 1, 1, none⟩ = some (.slice (some ⟨b, off, none⟩) ids.length c2) ∧ W.cell? ⟨b, off + k, none⟩ = some (.int .i64 id)) (first | with_reducible exact kS | with_reducible exact ⟨(keep_set (keep_set (keep_set (keep_set (keep_set (keep_set kS.1 (Nat.ne_of_lt hlw)) (Nat.ne_of_lt hlw)) (Nat.ne_of_lt hlw)) (Nat.ne_of_lt hlw)) (Nat.ne_of_lt hlw)) (Nat.ne_of_lt hlw)), (keep_set (keep_set (keep_set (keep_set (keep_set (keep_set kS.2.1 (Nat.ne_of_lt hlw)) (Nat.ne_of_lt hlw)) (Nat.ne_of_lt hlw)) (Nat.ne_of_lt hlw)) (Nat.ne_of_lt hlw)) (Nat.ne_of_lt hlw)), (keep_set (keep_set (keep_set (keep_set (keep_set (keep_set kS.2.2.1 (Nat.ne_of_lt hlw)) (Nat.ne_of_lt hlw)) (Nat.ne_of_lt hlw)) (Nat.ne_of_lt hlw)) (Nat.ne_of_lt hlw)) (Nat.ne_of_lt hlw)), (keep_set (keep_set (keep_set (keep_set (keep_set (keep_set kS.2.2.2.1 (Nat.ne_of_lt hlw)) (Nat.ne_of_lt hlw)) (Nat.ne_of_lt hlw)) (Nat.ne_of_lt hlw)) (Nat.ne_of_lt hlw)) (Nat.ne_of_lt hlw)), (keep_set (keep_set (keep_set (keep_set (keep_set (keep_set kS.2.2.2.2.1 (Nat.ne_of_lt hlw)) (Nat.ne_of_lt hlw)) (Nat.ne_of_lt hlw)) (Nat.ne_of_lt hlw)) (Nat.ne_of_lt hlw)) (Nat.ne_of_lt hlw)), (keep_set (keep_set (keep_set (keep_set (keep_set (keep_set kS.2.2.2.2.2.1 (Nat.ne_of_lt hlr)) (Nat.ne_of_lt hlr)) (Nat.ne_of_lt hlr)) (Nat.ne_of_lt hlr)) (Nat.ne_of_lt hlr)) (Nat.ne_of_lt hlr)), (keep_set (keep_set (keep_set (keep_set (keep_set (keep_set kS.2.2.2.2.2.2 (Nat.ne_of_lt hlb)) (Nat.ne_of_lt hlb)) (Nat.ne_of_lt hlb)) (Nat.ne_of_lt hlb)) (Nat.ne_of_lt hlb)) (Nat.ne_of_lt hlb))⟩ | go_keep) ((first
              | (go_at_call 38
                 with_reducible refine (l2At_any n fine id a ao av _ cap ko co kv cv os wr.drew ?_ HLO.out hko).mono ?_
                 · exact HO.out.below HB.out.1.drew
                 rintro e w2 ⟨rfl, hb2⟩
                 rw [H0.out, H1.out, H2.out, H3.out, H4.out, H5.out, HTT.out]
                 have hcr2 := CR.below (CR.drew HB.out) hb2
                 obtain ⟨k0, k1, k2, k3, k4⟩ := cells5 hcr2.2.1
                 have k5 := (cells2 hcr2.2.2).2
                 have k6 := (hb2.cell (p := ⟨b, off + k, none⟩) (block_lt_of_cell HCT.out)).trans HCT.out
                 have kS := And.intro k0 (And.intro k1 (And.intro k2 (And.intro k3 (And.intro k4 (And.intro k5 k6)))))
                 have CR2 : Hid (CR w w2 _ _) := hcr2
                 have RV2 : Hid (w2.heap[gv]? = _) := below_row hb2 (row_lt HRV.out) HRV.out
                 clear hb2 hcr2 k0 k1 k2 k3 k4 k5 k6)
              | (go_at_call 38
                 with_reducible refine (l2At_any n fine id a ao av _ cap ko co kv cv os (wr.alloc (Obj.cells #[Value.int IntKind.i64 0, Value.int IntKind.i64 0, Value.int IntKind.i64 0, Value.int IntKind.i64 0, Value.int IntKind.i64 0, Value.int IntKind.i64 0] 43)).drew ?_ HLO.out hko).mono ?_
                 · exact HO.out.below (CR.alloc HB.out (Obj.cells #[Value.int IntKind.i64 0, Value.int IntKind.i64 0, Value.int IntKind.i64 0, Value.int IntKind.i64 0, Value.int IntKind.i64 0, Value.int IntKind.i64 0] 43)).1.drew
                 rintro e w2 ⟨rfl, hb2⟩
                 rw [H0.out, H1.out, H2.out, H3.out, H4.out, H5.out, HTT.out]
                 have hcr2 := CR.below (CR.drew (CR.alloc HB.out (Obj.cells #[Value.int IntKind.i64 0, Value.int IntKind.i64 0, Value.int IntKind.i64 0, Value.int IntKind.i64 0, Value.int IntKind.i64 0, Value.int IntKind.i64 0] 43))) hb2
                 obtain ⟨k0, k1, k2, k3, k4⟩ := cells5 hcr2.2.1
                 have k5 := (cells2 hcr2.2.2).2
                 have k6 := (hb2.cell (p := ⟨b, off + k, none⟩) (block_lt_of_cell HCA.out)).trans HCA.out
                 have kS := And.intro k0 (And.intro k1 (And.intro k2 (And.intro k3 (And.intro k4 (And.intro k5 k6)))))
                 have CR2 : Hid (CR w w2 _ _) := hcr2
                 have RV2 : Hid (w2.heap[gv]? = _) := below_row hb2 (row_lt HVA.out) HVA.out
                 obtain ⟨z0, z1, z2, z3, z4, z5⟩ := cells6 (below_row hb2 (k := wr.heap.size) (by simp) (heap_alloc_new wr (Obj.cells #[Value.int IntKind.i64 0, Value.int IntKind.i64 0, Value.int IntKind.i64 0, Value.int IntKind.i64 0, Value.int IntKind.i64 0, Value.int IntKind.i64 0] 43)))
                 have zf := fun i => frozen_of_row _ _ i _ _ (below_row hb2 (k := wr.heap.size) (by simp) (heap_alloc_new wr (Obj.cells #[Value.int IntKind.i64 0, Value.int IntKind.i64 0, Value.int IntKind.i64 0, Value.int IntKind.i64 0, Value.int IntKind.i64 0, Value.int IntKind.i64 0] 43)))
                 have RO2 : Hid (w2.heap[wr.heap.size]? = _) := below_row hb2 (k := wr.heap.size) (by simp) (heap_alloc_new wr (Obj.cells #[Value.int IntKind.i64 0, Value.int IntKind.i64 0, Value.int IntKind.i64 0, Value.int IntKind.i64 0, Value.int IntKind.i64 0, Value.int IntKind.i64 0] 43))
                 clear hb2 hcr2 k0 k1 k2 k3 k4 k5 k6)))
            all_goals (first
              | (have CRW : Hid (CR w (World.setCell (World.setCell (World.setCell (World.setCell (World.setCell (World.setCell w2 ⟨wr.heap.size, 0, none⟩ (Value.int IntKind.i64 o0)) ⟨wr.heap.size, 1, none⟩ (Value.int IntKind.i64 o1)) ⟨wr.heap.size, 2, none⟩ (Value.int IntKind.i64 o2)) ⟨wr.heap.size, 3, none⟩ (Value.int IntKind.i64 o3)) ⟨wr.heap.size, 4, none⟩ (Value.int IntKind.i64 o4)) ⟨wr.heap.size, 5, none⟩ (Value.int IntKind.i64 o5)) _ _) := CR.set (CR.set (CR.set (CR.set (CR.set (CR.set CR2.out HB.out.big) HB.out.big) HB.out.big) HB.out.big) HB.out.big) HB.out.big
                 have RVW : Hid ((World.setCell (World.setCell (World.setCell (World.setCell (World.setCell (World.setCell w2 ⟨wr.heap.size, 0, none⟩ (Value.int IntKind.i64 o0)) ⟨wr.heap.size, 1, none⟩ (Value.int IntKind.i64 o1)) ⟨wr.heap.size, 2, none⟩ (Value.int IntKind.i64 o2)) ⟨wr.heap.size, 3, none⟩ (Value.int IntKind.i64 o3)) ⟨wr.heap.size, 4, none⟩ (Value.int IntKind.i64 o4)) ⟨wr.heap.size, 5, none⟩ (Value.int IntKind.i64 o5)).heap[gv]? = _) := row_set' (row_set' (row_set' (row_set' (row_set' (row_set' RV2.out (Nat.ne_of_lt (row_lt HRV.out))) (Nat.ne_of_lt (row_lt HRV.out))) (Nat.ne_of_lt (row_lt HRV.out))) (Nat.ne_of_lt (row_lt HRV.out))) (Nat.ne_of_lt (row_lt HRV.out))) (Nat.ne_of_lt (row_lt HRV.out))
                 have ROW : Hid ((World.setCell (World.setCell (World.setCell (World.setCell (World.setCell (World.setCell w2 ⟨wr.heap.size, 0, none⟩ (Value.int IntKind.i64 o0)) ⟨wr.heap.size, 1, none⟩ (Value.int IntKind.i64 o1)) ⟨wr.heap.size, 2, none⟩ (Value.int IntKind.i64 o2)) ⟨wr.heap.size, 3, none⟩ (Value.int IntKind.i64 o3)) ⟨wr.heap.size, 4, none⟩ (Value.int IntKind.i64 o4)) ⟨wr.heap.size, 5, none⟩ (Value.int IntKind.i64 o5)).heap[wr.heap.size]? = _) := row_set6 RO2.out
                 clear kS CR2 RV2 RO2 HCT HCA HVA ct z0 z1 z2 z3 z4 z5 zf
                 generalize (World.setCell (World.setCell (World.setCell (World.setCell (World.setCell (World.setCell w2 ⟨wr.heap.size, 0, none⟩ (Value.int IntKind.i64 o0)) ⟨wr.heap.size, 1, none⟩ (Value.int IntKind.i64 o1)) ⟨wr.heap.size, 2, none⟩ (Value.int IntKind.i64 o2)) ⟨wr.heap.size, 3, none⟩ (Value.int IntKind.i64 o3)) ⟨wr.heap.size, 4, none⟩ (Value.int IntKind.i64 o4)) ⟨wr.heap.size, 5, none⟩ (Value.int IntKind.i64 o5)) = W at *
                 generalize wr.heap.size = g at *)
              | (have CRW : Hid (CR w (w2.alloc (Obj.cells #[Value.int IntKind.i64 o0, Value.int IntKind.i64 o1, Value.int IntKind.i64 o2, Value.int IntKind.i64 o3, Value.int IntKind.i64 o4, Value.int IntKind.i64 o5] 43)) _ _) := CR.alloc CR2.out _
                 have RVW : Hid ((w2.alloc (Obj.cells #[Value.int IntKind.i64 o0, Value.int IntKind.i64 o1, Value.int IntKind.i64 o2, Value.int IntKind.i64 o3, Value.int IntKind.i64 o4, Value.int IntKind.i64 o5] 43)).heap[gv]? = _) := (heap_alloc_old _ _ (row_lt RV2.out)).trans RV2.out
                 have ROW : Hid ((w2.alloc (Obj.cells #[Value.int IntKind.i64 o0, Value.int IntKind.i64 o1, Value.int IntKind.i64 o2, Value.int IntKind.i64 o3, Value.int IntKind.i64 o4, Value.int IntKind.i64 o5] 43)).heap[w2.heap.size]? = _) := heap_alloc_new _ _
                 clear kS CR2 RV2 HCT HCA HVA ct
                 generalize w2.alloc (Obj.cells #[Value.int IntKind.i64 o0, Value.int IntKind.i64 o1, Value.int IntKind.i64 o2, Value.int IntKind.i64 o3, Value.int IntKind.i64 o4, Value.int IntKind.i64 o5] 43) = W at *
                 generalize w2.heap.size = g at *))
            all_goals
              clear c0 c1 c2' c3 c4 d0 d1 hlw hlr hlb
              have hkc : k ≤ c2 := by omega
              have q1 := (cells2 CRW.out.2.2).2
              have ctW := ints_cell (HI.out.below CRW.out.1) hlt HID.out
              have t0 := fun s : Kin W => s.cell q1
              have t1 := fun s : Kin W => s.cell ctW
              cases tt
              · have HV1 : Hid (r = 3) := HR.out.symm.trans (formV_3 HC.out HT5.out (stopsB_bad hlt (stopB_mk HID.out HTT.out rfl)))
                go_wp2_with fail
                have hkin := Kin.there W
                refine wp_region_kin (by kernel_rfl) (by kernel_rfl) ?_
                repeat (go_big_quiet_step ((fail)))
                refine wpQuiet_nil ?_
                rintro _ ⟨s, rfl⟩
                have HS2 : Hid (CR w s.w _ _) := CRW.out.below s.below
                generalize s.w = w3 at *
                go_wp2
                go_ret
                exact ⟨ret_int HV1.out.symm, HS2.out.1⟩
              · obtain ⟨hh, HH⟩ : ∃ t, Hid (hasTo ids k id = t) := ⟨_, rfl⟩
                cases hh
                · have HS1 : Hid (stopsTo os ko ids (k + 1)) := stopsTo_step HT.out (stopB_mk HID.out HTT.out HH.out)
                  go_wp2_with fail
                  have hkin := Kin.there W
                  refine wp_region_kin (by kernel_rfl) (by kernel_rfl) ?_
                  repeat (go_big_quiet_step ((go_at_call 37; exact Kin.call_same (l3Has_is _ k _ id ids _ false HH.out ((HI.out.below CRW.out.1).below (Kin.below _)) hk (by omega)))))
                  refine wpQuiet_nil ?_
                  rintro _ ⟨s, rfl⟩
                  have HS2 : Hid (CR w s.w _ _) := CRW.out.below s.below
                  have HRV2 : Hid (s.w.heap[gv]? = _) := below_row s.below (row_lt RVW.out) RVW.out
                  obtain ⟨p0, p1, p2, p3, p4, p5⟩ := cells6 (below_row s.below (row_lt ROW.out) ROW.out)
                  clear q1 ctW t0 t1 CRW RVW ROW
                  generalize s.w = w3 at *
                  go_wp2
                  exact ⟨⟨k + 1, by omega, by go_num, by rw [HL1.out], HS1.out, HS2.out, HRV2.out⟩, by simp [intOf]; omega⟩
                · have HV1 : Hid (r = 3) := HR.out.symm.trans (formV_3 HC.out HT5.out (stopsB_bad hlt (stopB_mk HID.out HTT.out HH.out)))
                  go_wp2_with fail
                  have hkin := Kin.there W
                  refine wp_region_kin (by kernel_rfl) (by kernel_rfl) ?_
                  repeat (go_big_quiet_step ((go_at_call 37; exact Kin.call_same (l3Has_is _ k _ id ids _ true HH.out ((HI.out.below CRW.out.1).below (Kin.below _)) hk (by omega)))))
                  refine wpQuiet_nil ?_
                  rintro _ ⟨s, rfl⟩
                  have HS2 : Hid (CR w s.w _ _) := CRW.out.below s.below
                  generalize s.w = w3 at *
                  go_wp2
                  go_ret
                  exact ⟨ret_int HV1.out.symm, HS2.out.1⟩
          · have hkl : k = ids.length := by omega
            have HSB : Hid (stopsB os ko ids = true) := stopsB_yes h12 (hkl ▸ HT.out)
            have HS0' : Hid (loadTo os ko ids ids.length = s0) := hkl ▸ HS0.out
            obtain ⟨q0, q1, q2, q3, q4⟩ := cells5 HRV.out
            clear hkl
            by_cases hroom : v2 < s0
            · have HV1 : Hid (r = 4) := HR.out.symm.trans (formV_4 HC.out HT5.out HSB.out (by rw [HS0'.out, G2.out]; exact hroom))
              go_wp2
              go_ret
              exact ⟨ret_int HV1.out.symm, HB.out.1⟩
            · have HV1 : Hid (r = 0) := HR.out.symm.trans (formV_0 HC.out HT5.out HSB.out (by rw [HS0'.out, G2.out]; exact hroom))
              go_wp2
              go_ret
              exact ⟨ret_int HV1.out.symm, HB.out.1⟩
      · have HV1 : Hid (r = 3) := HR.out.symm.trans (formV_3 HC.out HT5.out (stopsB_many h12))
        go_wp2
        go_ret
        exact ⟨ret_int HV1.out.symm, C3.out.1⟩

end Go.Proofs.Ytonopidjkcmlmaa

namespace Go.Proofs.Ytonopidjkcmlmaa
open Go.RowKit

set_option maxHeartbeats 400000 in
theorem l1Time_any (n x y : Nat) (a : Option Addr) (len cap : Nat) (zs : List Int) (w : World) (hn : n ≤ 16) (hx : x < n) (hy : y < n) (hl : zs.length = n * n) (hlen : len = n * n) (hA : IntsAt w a zs) :
    Calls Try.prog 95 #[.agg #[.int .i64 n, .slice a len cap], .int .i64 x, .int .i64 y] w fun e w' => e = .returned (.int .i64 (zs.getD (x * n + y) 0)) ∧ Below w.heap.size w w' := by
  subst hlen
  have hnn : n * n ≤ 256 := mul_bd n n hn hn
  have hxy : x * n + y < n * n := by
    have := Nat.mul_le_mul_right n (show x + 1 ≤ n by omega)
    rw [Nat.add_mul] at this
    omega
  obtain ⟨bb, off, rfl, hcs⟩ := hA.some (j := x * n + y) (by omega)
  have ct := hcs (x * n + y) (by omega)
  have hlt := block_lt_of_cell ct
  clear hcs hA
  generalize zs.getD (x * n + y) 0 = t at ct
  have hwm : wrap64 ((x : Int) * (n : Int)) = (x : Int) * (n : Int) := IntWalk.wrap64_in _ (by rw [← Int.natCast_mul]; omega)
  simp at hlt
  clear hl
  go_enter Try.func95, Try.ntmps95
  go_wp2
  go_ret
  exact ⟨rfl, (Below.refl _ _).alloc (Nat.le_refl _) _⟩

theorem l1Time_tm (n x y : Nat) (a : Option Addr) (cap : Nat) (zs : List Int) (w : World) (hn : n ≤ 16) (hx : x < n) (hy : y < n) (hl : zs.length = n * n) (hA : IntsAt w a zs) :
    Calls Try.prog 95 #[.agg #[.int .i64 n, .slice a zs.length cap], .int .i64 x, .int .i64 y] w fun e w' => e = .returned (.int .i64 (tm n zs x y)) ∧ Below w.heap.size w w' :=
  l1Time_any n x y a zs.length cap zs w hn hx hy hl hl hA

end Go.Proofs.Ytonopidjkcmlmaa

namespace Go.Proofs.Ytonopidjkcmlmaa
open Go.RowKit

theorem l1Time_I (n x y : Int) (a : Option Addr) (cap : Nat) (zs : List Int) (w : World) (hm : matB n zs = true) (hx : 0 ≤ x ∧ x < n) (hy : 0 ≤ y ∧ y < n) (hA : IntsAt w a zs) :
    Calls Try.prog 95 #[.agg #[.int .i64 n, .slice a zs.length cap], .int .i64 x, .int .i64 y] w fun e w' => e = .returned (.int .i64 (tmI n zs x y)) ∧ Below w.heap.size w w' := by
  obtain ⟨h1, h2, h3, _⟩ := matB_true hm
  obtain ⟨N, rfl⟩ : ∃ N : Nat, n = N := ⟨n.toNat, by omega⟩
  obtain ⟨X, rfl⟩ : ∃ X : Nat, x = X := ⟨x.toNat, by omega⟩
  obtain ⟨Y, rfl⟩ : ∃ Y : Nat, y = Y := ⟨y.toNat, by omega⟩
  have hl : zs.length = N * N := by rw [← Int.natCast_mul] at h3; omega
  exact l1Time_any N X Y a zs.length cap zs w (by omega) (by omega) (by omega) hl hl hA

set_option maxHeartbeats 400000 in
theorem drive_nat (n x y : Nat) (v0 v1 v2 v3 v4 : Int) (a ar : Option Addr) (len cap kr cr : Nat) (zs : List Int) (w : World) (hn : n ≤ 16) (hx : x < n) (hy : y < n) (hl : zs.length = n * n) (hlen : len = n * n) (hA : IntsAt w a zs) :
    Calls Try.prog 86 #[.agg #[.int .i64 n, .slice a len cap, .int .i64 v0, .int .i64 v1, .int .i64 v2, .int .i64 v3, .int .i64 v4, .slice ar kr cr], .int .i64 x, .int .i64 y] w fun e w' => e = .returned (.int .i64 (zs.getD (x * n + y) 0)) ∧ Below w.heap.size w w' := by
  subst hlen
  have hnn : n * n ≤ 256 := mul_bd n n hn hn
  have hxy : x * n + y < n * n := by
    have := Nat.mul_le_mul_right n (show x + 1 ≤ n by omega)
    rw [Nat.add_mul] at this
    omega
  obtain ⟨bb, off, rfl, hcs⟩ := hA.some (j := x * n + y) (by omega)
  have ct := hcs (x * n + y) (by omega)
  have hlt := block_lt_of_cell ct
  clear hcs hA
  generalize zs.getD (x * n + y) 0 = t at ct
  have hwm : wrap64 ((x : Int) * (n : Int)) = (x : Int) * (n : Int) := IntWalk.wrap64_in _ (by rw [← Int.natCast_mul]; omega)
  simp at hlt
  clear hl
  go_enter Try.func86, Try.ntmps86
  go_wp2
  go_ret
  exact ⟨rfl, (Below.refl _ _).alloc (Nat.le_refl _) _⟩

theorem drive_I (n x y : Int) (v0 v1 v2 v3 v4 : Int) (a ar : Option Addr) (cap kr cr : Nat) (zs : List Int) (w : World) (hm : matB n zs = true) (hx : 0 ≤ x ∧ x < n) (hy : 0 ≤ y ∧ y < n) (hA : IntsAt w a zs) :
    Calls Try.prog 86 #[.agg #[.int .i64 n, .slice a zs.length cap, .int .i64 v0, .int .i64 v1, .int .i64 v2, .int .i64 v3, .int .i64 v4, .slice ar kr cr], .int .i64 x, .int .i64 y] w fun e w' => e = .returned (.int .i64 (tmI n zs x y)) ∧ Below w.heap.size w w' := by
  obtain ⟨h1, h2, h3, _⟩ := matB_true hm
  obtain ⟨N, rfl⟩ : ∃ N : Nat, n = N := ⟨n.toNat, by omega⟩
  obtain ⟨X, rfl⟩ : ∃ X : Nat, x = X := ⟨x.toNat, by omega⟩
  obtain ⟨Y, rfl⟩ : ∃ Y : Nat, y = Y := ⟨y.toNat, by omega⟩
  have hl : zs.length = N * N := by rw [← Int.natCast_mul] at h3; omega
  exact drive_nat N X Y _ _ _ _ _ a ar zs.length cap kr cr zs w (by omega) (by omega) (by omega) hl hl hA

end Go.Proofs.Ytonopidjkcmlmaa

namespace Go.Proofs.Ytonopidjkcmlmaa
open Go.RowKit

theorem noneToI5_step {zs : List Int} {id : Int} {k : Nat} (h : ∀ j, j < k → og5 zs j 0 ≠ id) (hk : og5 zs k 0 ≠ id) : ∀ j, j < k + 1 → og5 zs j 0 ≠ id := by
  intro j hj
  by_cases e : j = k
  · rw [e]; exact hk
  · exact h j (by omega)

set_option maxHeartbeats 1000000 in
theorem findVehicle_any (n fine id : Int) (a ao av : Option Addr) (lt cap ko co kv cv : Nat) (zs : List Int) (w : World) (hA : IntsAt w av zs) (hl : zs.length = kv * 5) (hlen : kv ≤ 9223372036854775807) :
    Calls Try.prog 128 #[.agg #[.int .i64 n, .slice a lt cap, .slice ao ko co, .slice av kv cv, .int .i64 fine], .int .i64 id] w fun e w' => e = .returned (.tuple #[.agg #[.int .i64 (fnd5F zs kv id 0), .int .i64 (fnd5F zs kv id 1), .int .i64 (fnd5F zs kv id 2), .int .i64 (fnd5F zs kv id 3), .int .i64 (fnd5F zs kv id 4)], .bool (fnd5T zs kv id)]) ∧ Below w.heap.size w w' := by
  have HB0 : Hid (Below w.heap.size w ((w.alloc (Obj.cells #[Value.int IntKind.i64 n, Value.slice a lt cap, Value.slice ao ko co, Value.slice av kv cv, Value.int IntKind.i64 fine] 30)).alloc (Obj.cells #[Value.int IntKind.i64 0, Value.int IntKind.i64 0, Value.int IntKind.i64 0, Value.int IntKind.i64 0, Value.int IntKind.i64 0] 78))) := ((Below.refl _ _).alloc (Nat.le_refl _) _).alloc (by simp) _
  have HA : Hid (IntsAt w av zs) := hA
  have HL : Hid (zs.length = kv * 5) := hl
  clear hA hl
  go_enter Try.func128, Try.ntmps128
  go_wp2_with fail
  have Q0 : Hid (((w.alloc (Obj.cells #[Value.int IntKind.i64 n, Value.slice a lt cap, Value.slice ao ko co, Value.slice av kv cv, Value.int IntKind.i64 fine] 30)).alloc (Obj.cells #[Value.int IntKind.i64 0, Value.int IntKind.i64 0, Value.int IntKind.i64 0, Value.int IntKind.i64 0, Value.int IntKind.i64 0] 78)).heap[w.heap.size + 1]? = _) := heap_alloc2_new _ _ _
  generalize (w.alloc (Obj.cells #[Value.int IntKind.i64 n, Value.slice a lt cap, Value.slice ao ko co, Value.slice av kv cv, Value.int IntKind.i64 fine] 30)).alloc (Obj.cells #[Value.int IntKind.i64 0, Value.int IntKind.i64 0, Value.int IntKind.i64 0, Value.int IntKind.i64 0, Value.int IntKind.i64 0] 78) = W at *
  go_loopw [11] (fun t wr => ∃ k : Nat, k ≤ kv ∧ t = .int .i64 k ∧ (∀ j, j < k → og5 zs j 0 ≠ id) ∧ Below w.heap.size w wr ∧ wr.heap[w.heap.size + 1]? = some (.cells #[Value.int IntKind.i64 0, Value.int IntKind.i64 0, Value.int IntKind.i64 0, Value.int IntKind.i64 0, Value.int IntKind.i64 0] 78 (0, 0))) (fun t _ => kv - (intOf t).toNat)
  case atStart => exact ⟨0, Nat.zero_le _, rfl, fun j hj => by omega, HB0.out, Q0.out⟩
  case round =>
    clear HB0 Q0
    obtain ⟨k, hk, rfl, hno, hb, hq⟩ := hrel
    have HN : Hid (∀ j, j < k → og5 zs j 0 ≠ id) := hno
    have HB : Hid (Below w.heap.size w wr) := hb
    have HQ : Hid _ := hq
    obtain ⟨q0, q1, q2, q3, q4⟩ := cells5 hq
    have f0 := fun i => frozen_of_row _ _ i _ _ hq
    have hqlt := row_lt hq
    clear hno hb hq
    by_cases hlt : k < kv
    · obtain ⟨b, off, rfl, hcs⟩ := IntsAt.some (IntsAt.below HA.out HB.out) (j := k * 5) (by rw [HL.out]; omega)
      obtain ⟨r0, r1, r2, r3, r4⟩ := row5_at hcs HL.out k hlt
      clear hcs
      obtain ⟨o0, H0⟩ : ∃ t, Hid (og5 zs k 0 = t) := ⟨_, rfl⟩
      obtain ⟨o1, H1⟩ : ∃ t, Hid (og5 zs k 1 = t) := ⟨_, rfl⟩
      obtain ⟨o2, H2⟩ : ∃ t, Hid (og5 zs k 2 = t) := ⟨_, rfl⟩
      obtain ⟨o3, H3⟩ : ∃ t, Hid (og5 zs k 3 = t) := ⟨_, rfl⟩
      obtain ⟨o4, H4⟩ : ∃ t, Hid (og5 zs k 4 = t) := ⟨_, rfl⟩
      rw [H0.out] at r0
      rw [H1.out] at r1
      rw [H2.out] at r2
      rw [H3.out] at r3
      rw [H4.out] at r4
      have hlb := block_lt_of_cell r0
      simp at hlb
      by_cases he : o0 = id
      · have heb : (o0 == id) = true := by simp [he]
        have HF : Hid (fnd5 zs kv id = some k) := fnd5_at hlt (by rw [H0.out]; exact he) HN.out
        clear he
        go_wp2
        refine bodyPost_ret (v := .tuple #[.agg #[.int .i64 o0, .int .i64 o1, .int .i64 o2, .int .i64 o3, .int .i64 o4], .bool true]) (by simp [results, Try.results128, go_sem, hqlt, q0, q1, q2, q3, q4]) rfl ⟨?_, ?_⟩
        · rw [fnd5T_at HF.out]; simp only [fnd5F_at HF.out, H0.out, H1.out, H2.out, H3.out, H4.out]
        · repeat (first | with_reducible exact HB.out | with_reducible refine Below.setCell ?_ (by simp <;> omega) _ | with_reducible refine Below.alloc ?_ (by simp [World.setCell]; exact HB.out.size) _)
      · have heb : (o0 == id) = false := by simp [he]
        have HS : Hid (∀ j, j < k + 1 → og5 zs j 0 ≠ id) := noneToI5_step HN.out (by rw [H0.out]; exact he)
        clear he
        go_wp2
        refine ⟨⟨k + 1, by omega, by go_num, HS.out, HB.out.alloc HB.out.size _, ?_⟩, by simp [intOf]; omega⟩
        rw [heap_alloc_old _ _ (row_lt HQ.out)]; exact HQ.out
    · have hkx : k = kv := by omega
      have HF : Hid (fnd5 zs kv id = none) := fnd5_none (hkx ▸ HN.out)
      clear hkx
      go_wp2
      refine bodyPost_ret (v := .tuple #[.agg #[.int .i64 0, .int .i64 0, .int .i64 0, .int .i64 0, .int .i64 0], .bool false]) (by simp [results, Try.results128, go_sem, q0, q1, q2, q3, q4]) rfl ⟨?_, ?_⟩
      · rw [fnd5T_none HF.out]; simp only [fnd5F_none HF.out]
      · repeat (first | with_reducible exact HB.out | with_reducible refine Below.setCell ?_ (by simp <;> omega) _)

end Go.Proofs.Ytonopidjkcmlmaa

namespace Go.Proofs.Ytonopidjkcmlmaa
open Go.RowKit

theorem or_u64 (x y : Int) : 0 ≤ bits BinOp.or IntKind.u64 x y ∧ bits BinOp.or IntKind.u64 x y < 18446744073709551616 := by
  unfold bits
  rw [IntKind.wrap_u64]
  omega
/-- What 'word' answers: some number of 64 bits; the reader alone has changed. -/
def WordOk (w : World) (q : Nat) (a : Option Addr) (bs : List Int) (c : Nat) (e : Ending) (w' : World) : Prop :=
  ∃ (v : Int) (p' : Nat), e = .returned (.int .u64 v) ∧ 0 ≤ v ∧ v < 18446744073709551616 ∧ RD w' q a bs c p' ∧ w.grownBy w' (some q)

set_option maxHeartbeats 2000000 in
theorem word_any (q p c : Nat) (a : Option Addr) (bs : List Int) (w : World) (h : RD w q a bs c p) :
    Calls Try.prog 113 #[.pointer (some ⟨q, 0, none⟩)] w (WordOk w q a bs c) := by
  have H : Hid (RD w q a bs c p) := h
  clear h
  go_enter Try.func113, Try.ntmps113
  go_wp2_with fail
  go_loopw [3, 4] (fun tx t wr => ∃ (k p' : Nat) (x : Int), k ≤ 8 ∧ t = .int .i64 k ∧ tx = .int .u64 x ∧ 0 ≤ x ∧ x < 18446744073709551616 ∧ RD wr q a bs c p' ∧ w.grownBy wr (some q)) (fun _ t _ => 8 - (intOf t).toNat)
  case atStart => exact ⟨0, p, 0, by omega, rfl, rfl, by omega, by omega, H.out, grown_refl w q⟩
  case round =>
    obtain ⟨k, p1, x, hk, rfl, rfl, hx0, hx1, hr, hg⟩ := hrel
    have R1 : Hid (RD wr q a bs c p1) := hr
    have G1 : Hid (w.grownBy wr (some q)) := hg
    clear hr hg
    by_cases hlt : k < 8
    · have hlt' : (k : Int) < 8 := by omega
      have hwk : IntKind.i64.wrap ((k : Int) + 1) = ((k + 1 : Nat) : Int) := by rw [IntWalk.i64_in _ (by omega)]; omega
      go_wp2_with fail
      refine (next_any q p1 c a bs wr R1.out).mono ?_
      rintro e w2 ⟨v, p2, rfl, hv0, hv1, hr, hg⟩
      have R2 : Hid (RD w2 q a bs c p2) := hr
      have G2 : Hid (w.grownBy w2 (some q)) := grown_trans G1.out hg
      clear hr hg
      go_wp2
      go_roundw
      case rel =>
        obtain ⟨b1, b2⟩ := or_u64 (IntKind.u64.wrap (x * 256)) v
        exact ⟨k + 1, p2, _, by omega, by first | rfl | go_num, rfl, b1, b2, R2.out, G2.out⟩
      case measure => simp [intOf]; omega
    · have hke : k = 8 := by omega
      subst hke
      go_wp2
      go_ret
      exact ⟨x, p1, rfl, hx0, hx1, R1.out, G1.out⟩

end Go.Proofs.Ytonopidjkcmlmaa

namespace Go.Proofs.Ytonopidjkcmlmaa
open Go.RowKit

theorem grown_alloc (w : World) (o : Obj) (q : Nat) : w.grownBy (w.alloc o) (some q) := ⟨rfl, rfl, rfl, by simp, fun k hk _ => heap_alloc_old _ _ hk⟩
theorem wrap64_bd (n : Int) : -9223372036854775808 ≤ wrap64 n ∧ wrap64 n < 9223372036854775808 := by
  unfold wrap64
  omega
/-- What 'near' and 'off' answer: some number; of what was there the reader alone has changed. -/
def NumOk (w : World) (q : Nat) (a : Option Addr) (bs : List Int) (c : Nat) (e : Ending) (w' : World) : Prop :=
  ∃ (v : Int) (p' : Nat), e = .returned (.int .i64 v) ∧ -9223372036854775808 ≤ v ∧ v < 9223372036854775808 ∧ RD w' q a bs c p' ∧ w.grownBy w' (some q)

def OffOk (w : World) (q : Nat) (a : Option Addr) (bs : List Int) (c : Nat) (e : Ending) (w' : World) : Prop := NumOk w q a bs c e w'

/-- How many numbers lie between, as 64 bits without a sign. -/
theorem near_d {lo hi : Int} (hl0 : -3000000000 ≤ lo) (hl1 : lo ≤ 3000000000) (hh0 : -9223372036854775808 ≤ hi) (hh1 : hi < 9223372036854775808) (h : lo ≤ hi) : ¬ IntKind.u64.wrap (IntKind.i64.wrap (IntKind.i64.wrap (hi - lo) + 1)) = 0 ∧ 0 < IntKind.u64.wrap (IntKind.i64.wrap (IntKind.i64.wrap (hi - lo) + 1)) ∧ IntKind.u64.wrap (IntKind.i64.wrap (IntKind.i64.wrap (hi - lo) + 1)) < 18446744073709551616 := by
  rw [IntKind.wrap_u64, IntKind.wrap_i64, IntKind.wrap_i64]
  omega

set_option maxHeartbeats 2000000 in
theorem near_any (q p c : Nat) (lo hi : Int) (a : Option Addr) (bs : List Int) (w : World) (h : RD w q a bs c p) (hl0 : -3000000000 ≤ lo) (hl1 : lo ≤ 3000000000) (hh0 : -9223372036854775808 ≤ hi) (hh1 : hi < 9223372036854775808) :
    Calls Try.prog 97 #[.pointer (some ⟨q, 0, none⟩), .int .i64 lo, .int .i64 hi] w (NumOk w q a bs c) := by
  have H : Hid (RD w q a bs c p) := h
  clear h
  go_enter Try.func97, Try.ntmps97
  go_wp2_with fail
  refine (below_any q p c 8 a bs w H.out (by omega)).mono ?_
  rintro e w1 ⟨v, p1, rfl, hv0, hv1, hr, hg⟩
  have R1 : Hid (RD w1 q a bs c p1) := hr
  have G1 : Hid (w.grownBy w1 (some q)) := hg
  clear hr hg
  rcases (show v = 0 ∨ v = 1 ∨ (¬ v = 0 ∧ ¬ v = 1) from by omega) with rfl | rfl | ⟨h0, h1⟩
  · go_wp2
    go_ret
    exact ⟨lo, p1, rfl, by omega, by omega, R1.out, G1.out⟩
  · go_wp2
    go_ret
    exact ⟨hi, p1, rfl, by omega, by omega, R1.out, G1.out⟩
  · have e0 : (v == 0) = false := by simpa using h0
    have e1 : (v == 1) = false := by simpa using h1
    by_cases hlt : hi < lo
    · go_wp2
      go_ret
      exact ⟨lo, p1, rfl, by omega, by omega, R1.out, G1.out⟩
    · obtain ⟨hdn0, hd1, hd2⟩ := near_d hl0 hl1 hh0 hh1 (by omega)
      obtain ⟨x1, HX1⟩ : ∃ x, IntKind.i64.wrap (hi - lo) = x := ⟨_, rfl⟩
      rw [HX1] at hdn0 hd1 hd2
      obtain ⟨x2, HX2⟩ : ∃ x, IntKind.i64.wrap (x1 + 1) = x := ⟨_, rfl⟩
      rw [HX2] at hdn0 hd1 hd2
      obtain ⟨d, HD⟩ : ∃ x, IntKind.u64.wrap x2 = x := ⟨_, rfl⟩
      rw [HD] at hdn0 hd1 hd2
      have HX1' : wrap64 (hi - lo) = x1 := by rw [← HX1, IntKind.wrap_i64]; unfold wrap64; rfl
      have HX2' : wrap64 (x1 + 1) = x2 := by rw [← HX2, IntKind.wrap_i64]; unfold wrap64; rfl
      clear hv0 hv1
      go_wp2_with fail
      refine (word_any q p1 c a bs w1 R1.out).mono ?_
      rintro e w2 ⟨x, p2, rfl, hx0, hx1, hr, hg⟩
      have R2 : Hid (RD w2 q a bs c p2) := hr
      have G2 : Hid (w.grownBy w2 (some q)) := grown_trans G1.out hg
      clear hr hg
      have hdn : ¬ d = 0 := hdn0
      go_wp2
      go_ret
      have hb := wrap64_bd (lo + wrap64 (x / 2 % d))
      exact ⟨_, p2, rfl, hb.1, hb.2, R2.out, G2.out⟩

set_option maxHeartbeats 2000000 in
theorem off_any (q p c : Nat) (lo hi : Int) (a : Option Addr) (bs : List Int) (w : World) (h : RD w q a bs c p) (hl0 : -3000000000 ≤ lo) (hl1 : lo ≤ 3000000000) (hh0 : -9223372036854775808 ≤ hi) (hh1 : hi < 9223372036854775808) :
    Calls Try.prog 66 #[.pointer (some ⟨q, 0, none⟩), .int .i64 lo, .int .i64 hi] w (OffOk w q a bs c) := by
  have H : Hid (RD w q a bs c p) := h
  clear h
  go_enter Try.func66, Try.ntmps66
  go_wp2_with fail
  refine (once_any q p c 24 a bs w H.out (by omega) (by omega)).mono ?_
  rintro e w1 ⟨v, p1, rfl, hr, hg⟩
  have R1 : Hid (RD w1 q a bs c p1) := hr
  have G1 : Hid (w.grownBy w1 (some q)) := hg
  clear hr hg
  cases v
  · go_wp2_with fail
    refine (near_any q p1 c lo hi a bs w1 R1.out hl0 hl1 hh0 hh1).mono ?_
    rintro e w2 ⟨x, p2, rfl, hx0, hx1, hr, hg⟩
    have R2 : Hid (RD w2 q a bs c p2) := hr
    have G2 : Hid (w.grownBy w2 (some q)) := grown_trans G1.out hg
    clear hr hg
    go_wp2
    go_ret
    exact ⟨x, p2, rfl, hx0, hx1, R2.out, G2.out⟩
  · have hw1 : IntKind.i64.wrap (lo - 1) = lo - 1 := IntWalk.i64_in _ (by omega)
    obtain ⟨h2, HH2⟩ : ∃ x, IntKind.i64.wrap (hi + 1) = x := ⟨_, rfl⟩
    have HH2' : wrap64 (hi + 1) = h2 := by rw [← HH2, IntKind.wrap_i64]; unfold wrap64; rfl
    have hh2 : -9223372036854775808 ≤ h2 ∧ h2 < 9223372036854775808 := by rw [← HH2']; exact wrap64_bd _
    go_wp2_with fail
    have RA : Hid (RD (w1.alloc (Obj.cells #[Value.int IntKind.i64 (lo - 1), Value.int IntKind.i64 h2, Value.int IntKind.i64 (-9223372036854775808), Value.int IntKind.i64 9223372036854775807] 2)) q a bs c p1) := R1.out.below ((Below.refl _ _).alloc (Nat.le_refl _) _)
    have NA : Hid ((w1.alloc (Obj.cells #[Value.int IntKind.i64 (lo - 1), Value.int IntKind.i64 h2, Value.int IntKind.i64 (-9223372036854775808), Value.int IntKind.i64 9223372036854775807] 2)).heap[w1.heap.size]? = _) := heap_alloc_new _ _
    have HQ : Hid (q < w1.heap.size) := row_lt R1.out.1
    refine (below_any q p1 c 4 a bs _ RA.out (by omega)).mono ?_
    rintro e w2 ⟨x, p2, rfl, hx0, hx1, hr, hg⟩
    have R2 : Hid (RD w2 q a bs c p2) := hr
    have G2 : Hid (w.grownBy w2 (some q)) := grown_trans (grown_trans G1.out (grown_alloc w1 _ q)) hg
    have N2 := (hg.block _ (row_lt NA.out) (fun e => by have := HQ.out; simp at e; omega)).trans NA.out
    clear hr hg
    have n0 := cell_of_row _ _ 0 _ _ _ N2
    have n1 := cell_of_row _ _ 1 _ _ _ N2
    have n2 := cell_of_row _ _ 2 _ _ _ N2
    have n3 := cell_of_row _ _ 3 _ _ _ N2
    simp at n0 n1 n2 n3
    clear N2
    rcases (show x = 0 ∨ x = 1 ∨ x = 2 ∨ x = 3 from by omega) with rfl | rfl | rfl | rfl
    all_goals
      go_wp2
      go_ret
      exact ⟨_, p2, rfl, by omega, by omega, R2.out, G2.out⟩

end Go.Proofs.Ytonopidjkcmlmaa

namespace Go.Proofs.Ytonopidjkcmlmaa
end Go.Proofs.Ytonopidjkcmlmaa

namespace Go.Proofs.Ytonopidjkcmlmaa
open Go.RowKit

theorem next_round {n y : Nat} (hy : y < n) (P : Nat → Prop) (h : P (y + 1)) :
    (∃ k, k ≤ n ∧ Value.int IntKind.i64 ((y : Int) + 1) = Value.int IntKind.i64 (k : Int) ∧ P k) ∧ n - (intOf (Value.int IntKind.i64 ((y : Int) + 1))).toNat < n - (intOf (Value.int IntKind.i64 (y : Int))).toNat := by
  have e : ((y : Int) + 1) = ((y + 1 : Nat) : Int) := by simp
  rw [e]
  refine ⟨⟨y + 1, hy, rfl, h⟩, ?_⟩
  simp [intOf]
  omega

end Go.Proofs.Ytonopidjkcmlmaa

namespace Go.Proofs.Ytonopidjkcmlmaa
open Go.RowKit

set_option maxHeartbeats 400000 in
theorem big_any (a : Option Addr) (c len : Nat) (w : World) (hl : len ≤ 9223372036854775807) :
    Calls Try.prog 7 #[.slice a len c] w fun e w' => e = .returned (.bool (decide (1048576 < len))) ∧ w' = w := by
  by_cases h : 1048576 < len
  · rw [decide_eq_true h]
    go_enter Try.func7, Try.ntmps7
    go_wp2
    go_ret
    exact ⟨by first | rfl | (simp; omega), rfl⟩
  · rw [decide_eq_false h]
    go_enter Try.func7, Try.ntmps7
    go_wp2
    go_ret
    exact ⟨by first | rfl | (simp; omega), rfl⟩

end Go.Proofs.Ytonopidjkcmlmaa

namespace Go.Proofs.Ytonopidjkcmlmaa
open Go.RowKit

set_option maxHeartbeats 400000 in
theorem szInts_any (a : Option Addr) (len cap : Nat) (left : Int) (w : World) (h0 : 0 ≤ left) (h1 : left ≤ 1048576) (hlen : len ≤ 9223372036854775807) :
    Calls Try.prog 52 #[.slice a len cap, .int .i64 left] w fun e w' => e = .returned (.int .i64 (if left < len then -1 else left - len)) ∧ w' = w := by
  by_cases hlt : left < len
  · rw [if_pos hlt]
    go_enter Try.func52, Try.ntmps52
    go_wp2
    go_ret
    exact ⟨by simp, rfl⟩
  · rw [if_neg hlt]
    go_enter Try.func52, Try.ntmps52
    go_wp2
    go_ret
    exact ⟨by simp, rfl⟩

end Go.Proofs.Ytonopidjkcmlmaa

namespace Go.Proofs.Ytonopidjkcmlmaa
open Go.RowKit

set_option maxHeartbeats 400000 in
theorem szRoute_any (n : Int) (a : Option Addr) (len cap : Nat) (left : Int) (w : World) (h0 : 0 ≤ left) (h1 : left ≤ 1048576) (hlen : len ≤ 9223372036854775807) :
    Calls Try.prog 87 #[.agg #[.int .i64 n, .slice a len cap], .int .i64 left] w fun e w' => e = .returned (.int .i64 (if left < len then -1 else left - len)) ∧ Below w.heap.size w w' := by
  by_cases hlt : left < len
  · rw [if_pos hlt]
    go_enter Try.func87, Try.ntmps87
    go_wp2_with (go_at_call 52; refine (szInts_any _ _ _ _ _ h0 h1 hlen).mono ?_; rintro e w' ⟨rfl, rfl⟩)
    go_ret
    exact ⟨by simp, (Below.refl _ _).alloc (Nat.le_refl _) _⟩
  · rw [if_neg hlt]
    go_enter Try.func87, Try.ntmps87
    go_wp2_with (go_at_call 52; refine (szInts_any _ _ _ _ _ h0 h1 hlen).mono ?_; rintro e w' ⟨rfl, rfl⟩)
    go_ret
    exact ⟨by simp, (Below.refl _ _).alloc (Nat.le_refl _) _⟩

end Go.Proofs.Ytonopidjkcmlmaa

namespace Go.Proofs.Ytonopidjkcmlmaa
open Go.RowKit

set_option maxHeartbeats 400000 in
theorem eqInts_any (a b : Option Addr) (c1 c2 : Nat) (xs ys : List Int) (w : World) (hA : IntsAt w a xs) (hB : IntsAt w b ys) (hl1 : xs.length ≤ 1125899906842624) :
    Calls Try.prog 62 #[.slice a xs.length c1, .slice b ys.length c2] w fun e w' => e = .returned (.bool (decide (xs = ys))) ∧ Below w.heap.size w w' := by
  by_cases hl : xs.length = ys.length
  · have HA : Hid (IntsAt w a xs) := hA
    have HB : Hid (IntsAt w b ys) := hB
    have HL : Hid (xs.length = ys.length) := hl
    rw [hl] at hl1 ⊢
    clear hA hB hl
    go_enter Try.func62, Try.ntmps62
    go_wp2_with fail
    go_loopw [5] (fun t wr => ∃ k : Nat, k ≤ ys.length ∧ t = .int .i64 k ∧ Below w.heap.size w wr ∧ xs.take k = ys.take k) (fun t _ => ys.length - (intOf t).toNat)
    case atStart => exact ⟨0, Nat.zero_le _, rfl, Below.refl _ _, by simp⟩
    case round =>
      obtain ⟨k, hk, rfl, hb, he⟩ := hrel
      have HE : Hid (xs.take k = ys.take k) := he
      clear he
      by_cases hlt : k < ys.length
      · have hxk : k < xs.length := by rw [HL.out]; exact hlt
        obtain ⟨b1, o1, rfl, hc1⟩ := IntsAt.some (IntsAt.below HA.out hb) hxk
        obtain ⟨b2, o2, rfl, hc2⟩ := IntsAt.some (IntsAt.below HB.out hb) hlt
        have ct1 := hc1 k hxk
        have ct2 := hc2 k hlt
        clear hc1 hc2
        generalize ht1 : xs.getD k 0 = t1 at ct1
        generalize ht2 : ys.getD k 0 = t2 at ct2
        have H1 : Hid (xs.getD k 0 = t1) := ht1
        have H2 : Hid (ys.getD k 0 = t2) := ht2
        clear ht1 ht2
        by_cases ht : t1 = t2
        · have htb : (t1 != t2) = false := by simp [ht]
          have HT : Hid (t1 = t2) := ht
          clear ht
          go_wp2
          go_quiet (fail)
          go_wp2
          refine ⟨⟨k + 1, by omega, by go_num, below_drewN hb _, ?_⟩, by simp [intOf]; omega⟩
          rw [take_snoc xs k hxk, take_snoc ys k hlt, HE.out, H1.out, H2.out, HT.out]
        · have htb : (t1 != t2) = true := by simp [ht]
          have HN : Hid (decide (xs = ys) = false) := by
            apply decide_eq_false
            intro e
            exact ht (by rw [← H1.out, ← H2.out, e])
          clear ht
          go_wp2
          go_quiet (fail)
          go_wp2
          go_ret
          exact ⟨ret_bool HN.out.symm, below_drewN hb _⟩
      · have HN : Hid (decide (xs = ys) = true) := by
          apply decide_eq_true
          have h := HE.out
          rwa [List.take_of_length_le (by rw [HL.out]; omega), List.take_of_length_le (by omega)] at h
        go_wp2
        go_ret
        exact ⟨ret_bool HN.out.symm, hb⟩
  · have HN : Hid (decide (xs = ys) = false) := decide_eq_false fun e => hl (by rw [e])
    have hne : ((xs.length : Int) != (ys.length : Int)) = true := by rw [bne_iff_ne]; omega
    clear hA hB hl
    go_enter Try.func62, Try.ntmps62
    go_wp2
    go_ret
    exact ⟨ret_bool HN.out.symm, Below.refl _ _⟩

end Go.Proofs.Ytonopidjkcmlmaa

namespace Go.Proofs.Ytonopidjkcmlmaa
open Go.RowKit

set_option maxHeartbeats 400000 in
theorem eqRoute_same (n : Int) (a b : Option Addr) (c1 c2 : Nat) (xs : List Int) (w : World) (hA : IntsAt w a xs) (hB : IntsAt w b xs) (hl1 : xs.length ≤ 1125899906842624) :
    Calls Try.prog 93 #[.agg #[.int .i64 n, .slice a xs.length c1], .agg #[.int .i64 n, .slice b xs.length c2]] w fun e w' => e = .returned (.bool true) ∧ Below w.heap.size w w' := by
  have HB0 : Hid (Below w.heap.size w ((w.alloc (Obj.cells #[Value.int IntKind.i64 n, Value.slice a xs.length c1] 46)).alloc (Obj.cells #[Value.int IntKind.i64 n, Value.slice b xs.length c2] 46))) :=
    ((Below.refl _ _).alloc (Nat.le_refl _) _).alloc (by simp) _
  have HA : Hid (IntsAt w a xs) := hA
  have HB : Hid (IntsAt w b xs) := hB
  clear hA hB
  have hnn : (n != n) = false := by simp
  go_enter Try.func93, Try.ntmps93
  go_wp2_with fail
  refine (eqInts_any a b c1 c2 xs xs _ (HA.out.below HB0.out) (HB.out.below HB0.out) hl1).mono ?_
  rintro e w1 ⟨rfl, hb⟩
  have HB1 : Hid _ := hb
  clear hb
  have hd : decide (xs = xs) = true := by simp
  rw [hd]
  clear hd
  go_wp2
  go_ret
  exact ⟨rfl, HB0.out.trans (HB1.out.mono (by simp <;> omega))⟩

end Go.Proofs.Ytonopidjkcmlmaa
