import Derived.Test.YtdnfgeojagagnahW6
namespace Go.Proofs.Ytdnfgeojagagnah
open Go.RowKit

/-- The world behind 'g, ok := gridOf(m)': the boxed matrix, and the grid in a block of its own. -/
theorem grid_world {w w1 : World} {c0 c1 : Value} {T : TypeId} (gr : Array Value) (b1 : Below w.heap.size w w1) (r1 : w1.heap[w.heap.size]? = some (.cells #[c0, c1] T (0, 0))) :
    Below w.heap.size w (w1.alloc (.cells gr 41)) ∧ (w1.alloc (.cells gr 41)).heap[w.heap.size]? = some (.cells #[c0, c1] T (0, 0)) ∧
    (w1.alloc (.cells gr 41)).heap[w1.heap.size]? = some (.cells gr 41 (0, 0)) :=
  ⟨b1.alloc b1.size _, by rw [heap_alloc_old _ _ (row_lt r1)]; exact r1, heap_alloc_new _ _⟩

theorem gridTo_get (n : Nat) (zs : List Int) (x y : Nat) (hx : x < n) (hy : y < n) (hn : n ≤ 16) : (gridTo n zs n 0).getD (x * 16 + y) 0 = zs.getD (x * n + y) 0 := by
  have e1 : (x * 16 + y) / 16 = x := by omega
  have e2 : (x * 16 + y) % 16 = y := by omega
  have hk : x * 16 + y < 256 := by omega
  unfold gridTo
  rw [List.getD_eq_getElem?_getD, List.getElem?_map, List.getElem?_range hk]
  simp only [Option.map_some, Option.getD_some, e1, e2]
  rw [if_pos ⟨hx, hy, Or.inl hx⟩]
theorem grid_cell {W : World} {g n x y : Nat} {zs : List Int} {T : TypeId} (hg : W.heap[g]? = some (.cells (cellsOf (gridRes n zs)) T (0, 0))) (hm : matB n zs = true) (hx : x < n) (hy : y < n) (hn : n ≤ 16) :
    W.cell? ⟨g, x * 16 + y, none⟩ = some (.int .i64 (zs.getD (x * n + y) 0)) := by
  rw [cell_of_row _ _ _ _ _ _ hg, cellsOf_get _ _ (by rw [gridRes_length]; omega), gridRes_true hm, gridTo_get n zs x y hx hy hn]

set_option maxHeartbeats 1000000 in
theorem implTime_any (n x y : Int) (a : Option Addr) (cap : Nat) (zs : List Int) (w : World) (hA : IntsAt w a zs) :
    Calls Try.prog 12 #[.agg #[.int .i64 n, .slice a zs.length cap], .int .i64 x, .int .i64 y] w fun e w' => e = .returned (.int .i64 (timeV n zs x y)) ∧ Below w.heap.size w w' := by
  have HA0 : Hid (IntsAt (w.alloc (Obj.cells #[Value.int IntKind.i64 n, Value.slice a zs.length cap] 27)) a zs) := hA.below ((Below.refl _ _).alloc (Nat.le_refl _) _)
  clear hA
  have hz := (zero_of_info Try.info41).1
  generalize hz0 : cellsOf zeros = z0 at hz
  have HZ : Hid (cellsOf zeros = z0) := hz0
  clear hz0
  have HIP : Hid (∀ (n p : Int) (s : Value) (w : World), 1 ≤ n → n ≤ 16 → Calls Try.prog 21 #[.agg #[.int .i64 n, s], .int .i64 p] w fun e w' => e = .returned (.bool (inB p 0 (n - 1))) ∧ Below w.heap.size w w') := isPlace_any
  cases hm : matB n zs
  · have HT : Hid (timeV n zs x y = -1) := timeV_no (by rw [hm]; simp)
    have HM : Hid _ := hm
    clear hm
    go_enter Try.func12, Try.ntmps12
    go_wp2_with fail
    refine (grid_any n a cap zs _ HA0.out).mono ?_
    rintro e w1 ⟨rfl, hb⟩
    rw [HM.out]
    obtain ⟨b1, r1, c0, c1⟩ := box2 hb
    obtain ⟨bW, rW, gW⟩ := grid_world (cellsOf (gridRes n zs)) b1 r1
    have BW : Hid _ := bW
    clear hb r1 c0 c1 bW rW gW
    generalize hgr : cellsOf (gridRes n zs) = gr at *
    have HGR : Hid (cellsOf (gridRes n zs) = gr) := hgr
    clear hgr
    go_wp2_with (
      with_reducible refine wpList_store_row ?_ 41 (.tmp 7) (.tmp 12) ?_ w1.heap.size gr ?_ ?_ 41 z0 ?_ ?_ ?_ ?_ ?_
      · rfl
      · rfl
      · rfl
      · rfl
      · exact heap_alloc_new _ _
      · rw [← HGR.out]; exact size41_of (gridRes_length _ _)
      · rw [← HZ.out, ← HGR.out, cellsOf_size, cellsOf_size, zeros_length, gridRes_length]
      · rw [← HGR.out]; exact cellsOf_one _
      rw [World.setRow_alloc_new])
    go_ret
    exact ⟨ret_int HT.out.symm, BW.out⟩
  · obtain ⟨hn1, hn2, hl, _⟩ := matB_true hm
    have HM : Hid _ := hm
    clear hm hl
    cases hx : inB x 0 (n - 1)
    · have HT : Hid (timeV n zs x y = -1) := timeV_no (by rw [hx]; simp)
      go_enter Try.func12, Try.ntmps12
      go_wp2_with fail
      refine (grid_any n a cap zs _ HA0.out).mono ?_
      rintro e w1 ⟨rfl, hb⟩
      rw [HM.out]
      obtain ⟨b1, r1, c0, c1⟩ := box2 hb
      obtain ⟨bW, rW, gW⟩ := grid_world (cellsOf (gridRes n zs)) b1 r1
      have BW : Hid _ := bW
      have RW : Hid _ := rW
      have GW : Hid _ := gW
      clear hb r1 b1 c0 c1 bW rW gW
      have HGE : ∃ gr, Hid (cellsOf (gridRes n zs) = gr) := ⟨_, rfl⟩
      obtain ⟨gr, HGR⟩ := HGE
      rw [HGR.out] at BW RW GW ⊢
      go_wp2_with (first
        | (
          with_reducible refine wpList_store_row ?_ 41 (.tmp 7) (.tmp 12) ?_ w1.heap.size gr ?_ ?_ 41 z0 ?_ ?_ ?_ ?_ ?_
          · rfl
          · rfl
          · rfl
          · rfl
          · exact heap_alloc_new _ _
          · rw [← HGR.out]; exact size41_of (gridRes_length _ _)
          · rw [← HZ.out, ← HGR.out, cellsOf_size, cellsOf_size, zeros_length, gridRes_length]
          · rw [← HGR.out]; exact cellsOf_one _
          rw [World.setRow_alloc_new]
          have c0 := cell_of_row _ _ 0 _ _ _ RW.out
          have c1 := cell_of_row _ _ 1 _ _ _ RW.out
          simp only [List.getElem?_toArray, List.getElem?_cons_zero, List.getElem?_cons_succ] at c0 c1
          generalize w1.alloc (Obj.cells gr 41) = W at *)
        | (go_at_call 21
           refine (isPlace_any _ _ _ _ hn1 hn2).mono ?_
           rintro e w2 ⟨rfl, hb2⟩
           obtain ⟨BW', RW', c0, c1⟩ := box2_more hb2 BW.out RW.out
           have GW' := below_row hb2 (row_lt GW.out) GW.out
           clear BW RW GW hb2
           have BW : Hid _ := BW'
           have RW : Hid _ := RW'
           have GW : Hid _ := GW'
           clear BW' RW' GW'))
      go_ret
      exact ⟨ret_int HT.out.symm, BW.out⟩
    · cases hy : inB y 0 (n - 1)
      · have HT : Hid (timeV n zs x y = -1) := timeV_no (by rw [hy]; simp)
        go_enter Try.func12, Try.ntmps12
        go_wp2_with fail
        refine (grid_any n a cap zs _ HA0.out).mono ?_
        rintro e w1 ⟨rfl, hb⟩
        rw [HM.out]
        obtain ⟨b1, r1, c0, c1⟩ := box2 hb
        obtain ⟨bW, rW, gW⟩ := grid_world (cellsOf (gridRes n zs)) b1 r1
        have BW : Hid _ := bW
        have RW : Hid _ := rW
        have GW : Hid _ := gW
        clear hb r1 b1 c0 c1 bW rW gW
        have HGE : ∃ gr, Hid (cellsOf (gridRes n zs) = gr) := ⟨_, rfl⟩
        obtain ⟨gr, HGR⟩ := HGE
        rw [HGR.out] at BW RW GW ⊢
        go_wp2_with (first
          | (
            with_reducible refine wpList_store_row ?_ 41 (.tmp 7) (.tmp 12) ?_ w1.heap.size gr ?_ ?_ 41 z0 ?_ ?_ ?_ ?_ ?_
            · rfl
            · rfl
            · rfl
            · rfl
            · exact heap_alloc_new _ _
            · rw [← HGR.out]; exact size41_of (gridRes_length _ _)
            · rw [← HZ.out, ← HGR.out, cellsOf_size, cellsOf_size, zeros_length, gridRes_length]
            · rw [← HGR.out]; exact cellsOf_one _
            rw [World.setRow_alloc_new]
            have c0 := cell_of_row _ _ 0 _ _ _ RW.out
            have c1 := cell_of_row _ _ 1 _ _ _ RW.out
            simp only [List.getElem?_toArray, List.getElem?_cons_zero, List.getElem?_cons_succ] at c0 c1
            generalize w1.alloc (Obj.cells gr 41) = W at *)
          | (go_at_call 21
             refine (isPlace_any _ _ _ _ hn1 hn2).mono ?_
             rintro e w2 ⟨rfl, hb2⟩
             obtain ⟨BW', RW', c0, c1⟩ := box2_more hb2 BW.out RW.out
             have GW' := below_row hb2 (row_lt GW.out) GW.out
             clear BW RW GW hb2
             have BW : Hid _ := BW'
             have RW : Hid _ := RW'
             have GW : Hid _ := GW'
             clear BW' RW' GW'))
        go_ret
        exact ⟨ret_int HT.out.symm, BW.out⟩
      · have hx' := inB_true hx
        have hy' := inB_true hy
        obtain ⟨n, rfl⟩ := Int.eq_ofNat_of_zero_le (show 0 ≤ n by omega)
        obtain ⟨x, rfl⟩ := Int.eq_ofNat_of_zero_le hx'.1
        obtain ⟨y, rfl⟩ := Int.eq_ofNat_of_zero_le hy'.1
        have HT : Hid (timeV n zs x y = zs.getD (x * n + y) 0) := timeV_at HM.out (by omega) (by omega)
        obtain ⟨t, HTT⟩ : ∃ t, Hid (zs.getD (x * n + y) 0 = t) := ⟨_, rfl⟩
        go_enter Try.func12, Try.ntmps12
        go_wp2_with fail
        refine (grid_any n a cap zs _ HA0.out).mono ?_
        rintro e w1 ⟨rfl, hb⟩
        rw [HM.out]
        obtain ⟨b1, r1, c0, c1⟩ := box2 hb
        obtain ⟨bW, rW, gW⟩ := grid_world (cellsOf (gridRes n zs)) b1 r1
        have BW : Hid _ := bW
        have RW : Hid _ := rW
        have GW : Hid _ := gW
        clear hb r1 b1 c0 c1 bW rW gW
        have HGE : ∃ gr, Hid (cellsOf (gridRes n zs) = gr) := ⟨_, rfl⟩
        obtain ⟨gr, HGR⟩ := HGE
        rw [HGR.out] at BW RW GW ⊢
        go_wp2_with (first
          | (
            with_reducible refine wpList_store_row ?_ 41 (.tmp 7) (.tmp 12) ?_ w1.heap.size gr ?_ ?_ 41 z0 ?_ ?_ ?_ ?_ ?_
            · rfl
            · rfl
            · rfl
            · rfl
            · exact heap_alloc_new _ _
            · rw [← HGR.out]; exact size41_of (gridRes_length _ _)
            · rw [← HZ.out, ← HGR.out, cellsOf_size, cellsOf_size, zeros_length, gridRes_length]
            · rw [← HGR.out]; exact cellsOf_one _
            rw [World.setRow_alloc_new]
            have c0 := cell_of_row _ _ 0 _ _ _ RW.out
            have c1 := cell_of_row _ _ 1 _ _ _ RW.out
            simp only [List.getElem?_toArray, List.getElem?_cons_zero, List.getElem?_cons_succ] at c0 c1
            generalize w1.alloc (Obj.cells gr 41) = W at *)
          | (go_at_call 21
             refine (isPlace_any _ _ _ _ hn1 hn2).mono ?_
             rintro e w2 ⟨rfl, hb2⟩
             obtain ⟨BW', RW', c0, c1⟩ := box2_more hb2 BW.out RW.out
             have GW' := below_row hb2 (row_lt GW.out) GW.out
             clear BW RW GW hb2
             have BW : Hid _ := BW'
             have RW : Hid _ := RW'
             have GW : Hid _ := GW'
             have cg := grid_cell (HGR.out.symm ▸ GW.out) HM.out (x := x) (y := y) (by omega) (by omega) (by omega)
             rw [HTT.out] at cg
             clear BW' RW' GW'))
        go_ret
        exact ⟨ret_int (HT.out.trans HTT.out).symm, BW.out⟩

end Go.Proofs.Ytdnfgeojagagnah
