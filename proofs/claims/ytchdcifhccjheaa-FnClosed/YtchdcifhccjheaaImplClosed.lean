import Derived.Test.YtchdcifhccjheaaPack0
import Derived.Test.YtchdcifhccjheaaPack1
import Derived.Test.YtchdcifhccjheaaPack2
import Derived.Test.YtchdcifhccjheaaKinTail
namespace Go.Proofs.Ytchdcifhccjheaa
open Go.RowKit

/-- Inside impl.Closed: the box of m, the result's cells, the grid. -/
structure IC (w X : World) (n : Nat) (a : Option Addr) (zl cap gk : Nat) (l : List Int) : Prop where
  b : Below w.heap.size w X
  m : X.heap[w.heap.size]? = some (.cells #[Value.int IntKind.i64 n, Value.slice a zl cap] 26 (0, 0))
  z : X.heap[w.heap.size + 1]? = some (.cells #[Value.int IntKind.i64 0, Value.slice none 0 0] 26 (0, 0))
  g : X.heap[gk]? = some (.cells (cellsOf (gridTo n l n 0)) 48 (0, 0))
  k : w.heap.size + 1 < gk
theorem IC.below {w X X' : World} {n : Nat} {a : Option Addr} {zl cap gk : Nat} {l : List Int} (h : IC w X n a zl cap gk l) (hb : Below X.heap.size X X') : IC w X' n a zl cap gk l :=
  ⟨h.b.trans (hb.mono h.b.size), below_row hb (row_lt h.m) h.m, below_row hb (row_lt h.z) h.z, below_row hb (row_lt h.g) h.g, h.k⟩
theorem IC.set {w X : World} {n : Nat} {a : Option Addr} {zl cap gk : Nat} {l : List Int} (h : IC w X n a zl cap gk l) {x y : Nat} (hl : l.length = n * n) (hx : x < n) (hy : y < n) (hn : n ≤ 16) (v : Int) : IC w (X.setCell ⟨gk, x * 16 + y, none⟩ (.int .i64 v)) n a zl cap gk (l.set (x * n + y) v) := by
  have hk := h.k
  refine ⟨h.b.setCell (by simp <;> omega) _, ?_, ?_, ?_, hk⟩
  · rw [heap_setCell_other _ _ _ _ (by simp <;> omega)]; exact h.m
  · rw [heap_setCell_other _ _ _ _ (by simp <;> omega)]; exact h.z
  · rw [heap_setCell_same _ _ _ _ _ _ h.g, cellsOf_set, gridTo_put n l x y v hl hx hy hn]
theorem IC.cell {w X : World} {n : Nat} {a : Option Addr} {zl cap gk : Nat} {l : List Int} (h : IC w X n a zl cap gk l) {x y : Nat} (hx : x < n) (hy : y < n) (hn : n ≤ 16) : X.cell? ⟨gk, x * 16 + y, none⟩ = some (.int .i64 (tm n l x y)) := by
  rw [cell_of_row _ _ _ _ _ _ h.g, cellsOf_get _ _ (by rw [gridTo_length]; omega), gridTo_get n l x y hx hy hn]
  rfl

set_option maxRecDepth 10000 in
set_option maxHeartbeats 2000000 in
theorem implClosed_no (n : Int) (a : Option Addr) (cap : Nat) (zs : List Int) (w : World) (hA : IntsAt w a zs) (hm : matB n zs = false) :
    Calls Try.prog 7 #[.agg #[.int .i64 n, .slice a zs.length cap]] w fun e w' => e = .returned (.agg #[.int .i64 0, .slice none 0 0]) ∧ Below w.heap.size w w' := by
  have HB0 : Hid (Below w.heap.size w ((w.alloc (Obj.cells #[Value.int IntKind.i64 n, Value.slice a zs.length cap] 26)).alloc (Obj.cells #[Value.int IntKind.i64 0, Value.slice none 0 0] 26))) := ((Below.refl _ _).alloc (Nat.le_refl _) _).alloc (by simp) _
  have P0 : Hid (((w.alloc (Obj.cells #[Value.int IntKind.i64 n, Value.slice a zs.length cap] 26)).alloc (Obj.cells #[Value.int IntKind.i64 0, Value.slice none 0 0] 26)).heap[w.heap.size]? = some (.cells #[Value.int IntKind.i64 n, Value.slice a zs.length cap] 26 (0, 0))) := heap_alloc2_old _ _ _
  have Q0 : Hid (((w.alloc (Obj.cells #[Value.int IntKind.i64 n, Value.slice a zs.length cap] 26)).alloc (Obj.cells #[Value.int IntKind.i64 0, Value.slice none 0 0] 26)).heap[w.heap.size + 1]? = some (.cells #[Value.int IntKind.i64 0, Value.slice none 0 0] 26 (0, 0))) := heap_alloc2_new _ _ _
  have HA : Hid (IntsAt w a zs) := hA
  have HM : Hid _ := hm
  have hz := (zero_of_info Try.info41).1
  generalize hz0 : cellsOf zeros = z0 at hz
  have HZ : Hid (cellsOf zeros = z0) := hz0
  clear hz0 hA hm
  go_enter Try.func7, Try.ntmps7
  go_wp2_with fail
  generalize (w.alloc (Obj.cells #[Value.int IntKind.i64 n, Value.slice a zs.length cap] 26)).alloc (Obj.cells #[Value.int IntKind.i64 0, Value.slice none 0 0] 26) = W at *
  refine (grid_any n a cap zs _ (HA.out.below HB0.out)).mono ?_
  rintro e w1 ⟨rfl, hb⟩
  rw [HM.out]
  have HB1 : Hid (Below w.heap.size w (w1.alloc (Obj.cells (cellsOf (gridRes n zs)) 48))) := (HB0.out.trans (hb.mono HB0.out.size)).alloc (HB0.out.trans (hb.mono HB0.out.size)).size _
  have q1 := below_row hb (row_lt Q0.out) Q0.out
  have Q1 : Hid ((w1.alloc (Obj.cells (cellsOf (gridRes n zs)) 48)).heap[w.heap.size + 1]? = some (.cells #[Value.int IntKind.i64 0, Value.slice none 0 0] 26 (0, 0))) := (heap_alloc_old _ _ (row_lt q1)).trans q1
  clear hb q1 HB0 P0 Q0
  obtain ⟨gr, HGR⟩ : ∃ gr, Hid (cellsOf (gridRes n zs) = gr) := ⟨_, rfl⟩
  rw [HGR.out] at HB1 Q1 ⊢
  go_wp2_with (
    with_reducible refine wpList_store_row ?_ 48 (.tmp 3) (.tmp 11) ?_ w1.heap.size gr ?_ ?_ 48 z0 ?_ ?_ ?_ ?_ ?_
    · rfl
    · rfl
    · rfl
    · rfl
    · exact heap_alloc_new _ _
    · rw [← HGR.out]; exact size41_of (gridRes_length _ _)
    · rw [← HZ.out, ← HGR.out, cellsOf_size, cellsOf_size, zeros_length, gridRes_length]
    · rw [← HGR.out]; exact cellsOf_one _
    rw [World.setRow_alloc_new]
    have z0 := cell_of_row _ _ 0 _ _ _ Q1.out
    have z1 := cell_of_row _ _ 1 _ _ _ Q1.out
    simp only [List.getElem?_toArray, List.getElem?_cons_zero, List.getElem?_cons_succ] at z0 z1
    have f0 := fun i => frozen_of_row _ _ i _ _ Q1.out
    generalize w1.alloc (Obj.cells gr 48) = W1 at *)
  refine bodyPost_ret (v := .agg #[.int .i64 0, .slice none 0 0]) (by simp [results, Try.results7, go_sem, z0, z1]) rfl ⟨rfl, (HB1.out.setCell (by simp <;> omega) _).setCell (by simp <;> omega) _⟩

set_option maxRecDepth 10000 in
set_option maxHeartbeats 4000000 in
theorem implClosed_yes (n : Nat) (a : Option Addr) (cap : Nat) (zs : List Int) (w : World) (hA : IntsAt w a zs) (hm : matB n zs = true) :
    Calls Try.prog 7 #[.agg #[.int .i64 n, .slice a zs.length cap]] w fun e w' => ∃ g c, e = .returned (.agg #[.int .i64 n, .slice (some ⟨g, 0, none⟩) (n * n) c]) ∧ Below w.heap.size w w' ∧ w'.ownsRow w.heap.size 2 1 (.slice (some ⟨g, 0, none⟩) (n * n) c) (n * n) ((clo n zs).map (Value.int .i64)) := by
  have HB0 : Hid (Below w.heap.size w ((w.alloc (Obj.cells #[Value.int IntKind.i64 n, Value.slice a zs.length cap] 26)).alloc (Obj.cells #[Value.int IntKind.i64 0, Value.slice none 0 0] 26))) := ((Below.refl _ _).alloc (Nat.le_refl _) _).alloc (by simp) _
  have P0 : Hid (((w.alloc (Obj.cells #[Value.int IntKind.i64 n, Value.slice a zs.length cap] 26)).alloc (Obj.cells #[Value.int IntKind.i64 0, Value.slice none 0 0] 26)).heap[w.heap.size]? = some (.cells #[Value.int IntKind.i64 n, Value.slice a zs.length cap] 26 (0, 0))) := heap_alloc2_old _ _ _
  have Q0 : Hid (((w.alloc (Obj.cells #[Value.int IntKind.i64 n, Value.slice a zs.length cap] 26)).alloc (Obj.cells #[Value.int IntKind.i64 0, Value.slice none 0 0] 26)).heap[w.heap.size + 1]? = some (.cells #[Value.int IntKind.i64 0, Value.slice none 0 0] 26 (0, 0))) := heap_alloc2_new _ _ _
  have HA : Hid (IntsAt w a zs) := hA
  have HM : Hid _ := hm
  have hz := (zero_of_info Try.info41).1
  generalize hz0 : cellsOf zeros = z0 at hz
  have HZ0 : Hid (cellsOf zeros = z0) := hz0
  clear hz0 hA
  obtain ⟨hn1, hn2, hl, _⟩ := matB_true hm
  have HL : Hid (zs.length = n * n) := by
    rw [← Int.natCast_mul] at hl
    show _ = _
    omega
  clear hm hl
  go_enter Try.func7, Try.ntmps7
  go_wp2_with fail
  generalize (w.alloc (Obj.cells #[Value.int IntKind.i64 n, Value.slice a zs.length cap] 26)).alloc (Obj.cells #[Value.int IntKind.i64 0, Value.slice none 0 0] 26) = W at *
  refine (grid_any n a cap zs _ (HA.out.below HB0.out)).mono ?_
  rintro e w1 ⟨rfl, hb⟩
  rw [HM.out, gridRes_true HM.out]
  have IC1 : Hid (IC w (w1.alloc (Obj.cells (cellsOf (gridTo n zs n 0)) 48)) n a zs.length cap w1.heap.size zs) := by
    have p1 := below_row hb (row_lt P0.out) P0.out
    have q1 := below_row hb (row_lt Q0.out) Q0.out
    exact ⟨(HB0.out.trans (hb.mono HB0.out.size)).alloc (HB0.out.trans (hb.mono HB0.out.size)).size _, (heap_alloc_old _ _ (row_lt p1)).trans p1, (heap_alloc_old _ _ (row_lt q1)).trans q1, heap_alloc_new _ _, row_lt q1⟩
  clear hb HB0 P0 Q0
  obtain ⟨zl, HZL⟩ : ∃ zl, Hid (zs.length = zl) := ⟨_, rfl⟩
  rw [HZL.out] at IC1 ⊢
  obtain ⟨gr, HGR⟩ : ∃ gr, Hid (cellsOf (gridTo n zs n 0) = gr) := ⟨_, rfl⟩
  rw [HGR.out] at IC1 ⊢
  go_wp2_with (
    with_reducible refine wpList_store_row ?_ 48 (.tmp 3) (.tmp 11) ?_ w1.heap.size gr ?_ ?_ 48 z0 ?_ ?_ ?_ ?_ ?_
    · rfl
    · rfl
    · rfl
    · rfl
    · exact heap_alloc_new _ _
    · rw [← HGR.out]; exact size41_of (gridTo_length _ _ _ _)
    · rw [← HZ0.out, ← HGR.out, cellsOf_size, cellsOf_size, zeros_length, gridTo_length]
    · rw [← HGR.out]; exact cellsOf_one _
    rw [World.setRow_alloc_new]
    have c0 := cell_of_row _ _ 0 _ _ _ IC1.out.m
    have c1 := cell_of_row _ _ 1 _ _ _ IC1.out.m
    simp only [List.getElem?_toArray, List.getElem?_cons_zero, List.getElem?_cons_succ] at c0 c1
    generalize w1.alloc (Obj.cells gr 48) = W1 at *)
  clear hz c0 c1
  obtain ⟨gk, HGK⟩ : ∃ gk, Hid (w1.heap.size = gk) := ⟨_, rfl⟩
  rw [HGK.out] at IC1 ⊢
  have HZ : Hid (okL zs) := okL_of_mat HM.out
  go_loopw [18] (fun t wr => ∃ k : Nat, k ≤ n ∧ t = .int .i64 k ∧ IC w wr n a zl cap gk (cloTo n zs ((k * n + 0) * n + 0))) (fun t _ => n - (intOf t).toNat)
  case atStart => exact ⟨0, Nat.zero_le _, rfl, by simpa [cloTo] using IC1.out⟩
  case round =>
    clear IC1
    obtain ⟨k, hk, rfl, hs⟩ := hrel
    have HS : Hid (IC w wr n a zl cap gk (cloTo n zs ((k * n + 0) * n + 0))) := hs
    clear hs
    have c0 := cell_of_row _ _ 0 _ _ _ HS.out.m
    simp at c0
    by_cases hlt : k < n
    · go_wp2_with fail
      clear c0
      go_loopw [23] (fun t wr => ∃ x : Nat, x ≤ n ∧ t = .int .i64 x ∧ IC w wr n a zl cap gk (cloTo n zs ((k * n + x) * n + 0))) (fun t _ => n - (intOf t).toNat)
      case atStart => exact ⟨0, Nat.zero_le _, rfl, HS.out⟩
      case round =>
        clear HS
        obtain ⟨x, hx, rfl, hs⟩ := hrel
        have HS : Hid (IC w wr n a zl cap gk (cloTo n zs ((k * n + x) * n + 0))) := hs
        clear hs
        have c0 := cell_of_row _ _ 0 _ _ _ HS.out.m
        simp at c0
        by_cases hxlt : x < n
        · go_wp2_with fail
          clear c0
          go_loopw [28] (fun t wr => ∃ y : Nat, y ≤ n ∧ t = .int .i64 y ∧ IC w wr n a zl cap gk (cloTo n zs ((k * n + x) * n + y))) (fun t _ => n - (intOf t).toNat)
          case atStart => exact ⟨0, Nat.zero_le _, rfl, HS.out⟩
          case round =>
            clear HS
            obtain ⟨y, hy, rfl, hs⟩ := hrel
            obtain ⟨l, HLL⟩ : ∃ l, Hid (cloTo n zs ((k * n + x) * n + y) = l) := ⟨_, rfl⟩
            rw [HLL.out] at hs
            have HS : Hid (IC w wr n a zl cap gk l) := hs
            clear hs
            by_cases hylt : y < n
            · have HLn : Hid (l.length = n * n) := by rw [← HLL.out, cloTo_length]; exact HL.out
              have hok : okL l := by rw [← HLL.out]; exact okL_cloTo HZ.out _
              have t1 := tm_okL (n := n) hok x y
              have t2 := tm_okL (n := n) hok x k
              have t3 := tm_okL (n := n) hok k y
              have g1 := HS.out.cell hxlt hylt (by omega)
              have g2 := HS.out.cell hxlt hlt (by omega)
              have g3 := HS.out.cell hlt hylt (by omega)
              have fg := fun i => frozen_of_row _ _ i _ _ HS.out.g
              obtain ⟨v1, HV1⟩ : ∃ v, Hid (tm n l x y = v) := ⟨_, rfl⟩
              obtain ⟨v2, HV2⟩ : ∃ v, Hid (tm n l x k = v) := ⟨_, rfl⟩
              obtain ⟨v3, HV3⟩ : ∃ v, Hid (tm n l k y = v) := ⟨_, rfl⟩
              rw [HV1.out] at t1 g1
              rw [HV2.out] at t2 g2
              rw [HV3.out] at t3 g3
              clear hok
              have hws : IntKind.i64.wrap (v2 + v3) = v2 + v3 := by rw [IntKind.wrap_i64]; omega
              have hws2 : wrap64 (v2 + v3) = v2 + v3 := IntWalk.wrap64_in _ (by omega)
              clear t1 t2 t3
              go_wp2_with fail
              have e1 := fun s : Kin wr => s.cell g1
              have e2 := fun s : Kin wr => s.cell g2
              have e3 := fun s : Kin wr => s.cell g3
              have hkin := Kin.there wr
              refine wp_region_kin_tail 21 (by kernel_rfl) (by kernel_rfl) ?_
              simp only [List.take_succ_cons, List.take_zero, List.drop_succ_cons, List.drop_zero]
              repeat (go_big_quiet_step (fail))
              refine wpQuiet_nil ?_
              rintro _ ⟨s, rfl⟩
              have HS2 : Hid (IC w s.w n a zl cap gk l) := HS.out.below s.below
              clear e1 e2 e3 hkin HS g1 g2 g3 fg hws hws2
              generalize s.w = w2 at *
              have cg2 := HS2.out.cell hxlt hylt (by omega)
              have fg2 := fun i => frozen_of_row _ _ i _ _ HS2.out.g
              have hNX : Hid (IC w (w2.setCell ⟨gk, x * 16 + y, none⟩ (.int .i64 (if v2 + v3 < v1 then v2 + v3 else v1))) n a zl cap gk (cloTo n zs ((k * n + x) * n + (y + 1)))) := by
                rw [cloTo_step _ _ _ _ _ hxlt hylt, HLL.out]
                unfold clo1
                rw [HV1.out, HV2.out, HV3.out]
                have hmn : (if v2 + v3 < v1 then v2 + v3 else v1) = min v1 (v2 + v3) := by
                  split <;> omega
                rw [hmn]
                exact HS2.out.set HLn.out hxlt hylt (by omega) _
              go_wp2
              exact next_round hylt (fun y' => IC w _ n a zl cap gk (cloTo n zs ((k * n + x) * n + y'))) hNX.out
            · have hye : y = n := by omega
              have hNX : Hid (IC w wr n a zl cap gk (cloTo n zs ((k * n + (x + 1)) * n + 0))) := by
                have e : (k * n + (x + 1)) * n + 0 = (k * n + x) * n + y := by rw [hye, ← Nat.add_assoc, Nat.add_mul (k * n + x) 1 n, Nat.one_mul, Nat.add_zero]
                rw [e, HLL.out]
                exact HS.out
              clear hye
              go_wp2
              exact next_round hxlt (fun y' => IC w _ n a zl cap gk (cloTo n zs ((k * n + y') * n + 0))) hNX.out
        · have hxe : x = n := by omega
          have hNX : Hid (IC w wr n a zl cap gk (cloTo n zs (((k + 1) * n + 0) * n + 0))) := by
            have e : ((k + 1) * n + 0) * n + 0 = (k * n + x) * n + 0 := by rw [hxe, Nat.add_mul k 1 n, Nat.one_mul]; simp
            rw [e]
            exact HS.out
          clear hxe
          go_wp2
          exact next_round hlt (fun y' => IC w _ n a zl cap gk (cloTo n zs ((y' * n + 0) * n + 0))) hNX.out
    · have hke : k = n := by omega
      have hNX : Hid (IC w wr n a zl cap gk (clo n zs)) := by
        have e : n * n * n = (k * n + 0) * n + 0 := by rw [hke]; simp
        show IC w wr n a zl cap gk (cloTo n zs (n * n * n))
        rw [e]
        exact HS.out
      clear hke HS
      obtain ⟨gr2, HG2⟩ : ∃ gr, Hid (cellsOf (gridTo n (clo n zs) n 0) = gr) := ⟨_, rfl⟩
      have HGX : Hid (wr.heap[gk]? = some (.cells gr2 48 (0, 0))) := by show _ = _; rw [← HG2.out]; exact hNX.out.g
      have HCL : Hid ((clo n zs).length = n * n) := (cloTo_length _ _ _).trans HL.out
      have MX : Hid (∀ W, Calls Try.prog 27 #[.agg gr2, .int .i64 n] W fun e w' => ∃ g c, e = .returned (.agg #[.int .i64 n, .slice (some ⟨g, 0, none⟩) (n * n) c]) ∧ Below W.heap.size W w' ∧ w'.ownsRow W.heap.size 2 1 (.slice (some ⟨g, 0, none⟩) (n * n) c) (n * n) ((clo n zs).map (Value.int .i64))) := fun W => by
        rw [← HG2.out]
        exact matrix_of n (clo n zs) W (by omega) (by omega) HCL.out
      go_wp2_with (first
        | (refine wpList_load_row rfl 48 (.tmp 3) rfl gk rfl 48 gr2 (0, 0) _ HGX.out Try.underlying48 rfl (by rw [← HG2.out]; exact size41_of (gridTo_length _ _ _ _)) ?_))
      refine (MX.out _).mono ?_
      rintro e w2 ⟨g, c, rfl, hb, ho⟩
      have HN2 : Hid (IC w w2 n a zl cap gk (clo n zs)) := hNX.out.below hb
      have HO : Hid (w2.ownsRow wr.heap.size 2 1 (.slice (some ⟨g, 0, none⟩) (n * n) c) (n * n) ((clo n zs).map (Value.int .i64))) := ho
      have HLT : Hid (w.heap.size + 1 < wr.heap.size) := row_lt hNX.out.z
      clear hb ho hNX
      have z0 := cell_of_row _ _ 0 _ _ _ HN2.out.z
      have z1 := cell_of_row _ _ 1 _ _ _ HN2.out.z
      simp at z0 z1
      have f0 := fun i => frozen_of_row _ _ i _ _ HN2.out.z
      obtain ⟨N, HN⟩ : ∃ N, Hid (n * n = N) := ⟨_, rfl⟩
      rw [HN.out] at HO ⊢
      go_wp2
      refine bodyPost_ret (v := .agg #[.int .i64 n, .slice (some ⟨g, 0, none⟩) N c]) (by simp [results, Try.results7, go_sem, z0, z1]) rfl ⟨g, c, by rw [HN.out], (HN2.out.b.setCell (by simp <;> omega) _).setCell (by simp <;> omega) _, by rw [HN.out]; exact owns_base (owns_set (owns_set HO.out HLT.out) HLT.out) (by have := HLT.out; omega)⟩

end Go.Proofs.Ytchdcifhccjheaa
