import Derived.Test.YtdnfgeojagagnaiGridW
import Derived.Test.YtdnfgeojagagnaiPlainSym
namespace Go.Proofs.Ytdnfgeojagagnai
open Go.RowKit

set_option maxHeartbeats 1000000 in
theorem implSym_no (n : Int) (a : Option Addr) (cap : Nat) (zs : List Int) (w : World) (hA : IntsAt w a zs) (hm : matB n zs = false) :
    Calls Try.prog 19 #[.agg #[.int .i64 n, .slice a zs.length cap]] w fun e w' => e = .returned (.bool false) ∧ Below w.heap.size w w' := by
  have HA0 : Hid (IntsAt (w.alloc (Obj.cells #[Value.int IntKind.i64 n, Value.slice a zs.length cap] 26)) a zs) := hA.below ((Below.refl _ _).alloc (Nat.le_refl _) _)
  have HM : Hid _ := hm
  have hz := (zero_of_info Try.info41).1
  generalize hz0 : cellsOf zeros = z0 at hz
  have HZ : Hid (cellsOf zeros = z0) := hz0
  clear hz0
  clear hA hm
  go_enter Try.func19, Try.ntmps19
  go_wp2_with fail
  refine (grid_any n a cap zs _ HA0.out).mono ?_
  rintro e w1 ⟨rfl, hb⟩
  rw [HM.out]
  obtain ⟨b1, r1, c0, c1⟩ := box2 hb
  obtain ⟨bW, rW, gW⟩ := grid_world (cellsOf (gridRes n zs)) b1 r1
  have BW : Hid _ := bW
  have RW : Hid _ := rW
  have GW : Hid _ := gW
  clear hb r1 b1 c0 c1 bW rW gW
  obtain ⟨gr, HGR⟩ : ∃ gr, Hid (cellsOf (gridRes n zs) = gr) := ⟨_, rfl⟩
  rw [HGR.out] at BW RW GW ⊢
  go_wp2_with (
    with_reducible refine wpList_store_row ?_ 62 (.tmp 3) (.tmp 10) ?_ w1.heap.size gr ?_ ?_ 62 z0 ?_ ?_ ?_ ?_ ?_
    · rfl
    · rfl
    · rfl
    · rfl
    · exact heap_alloc_new _ _
    · rw [← HGR.out]; exact size41_of (gridRes_length _ _)
    · rw [← HZ.out, ← HGR.out, cellsOf_size, cellsOf_size, zeros_length, gridRes_length]
    · rw [← HGR.out]; exact cellsOf_one _
    rw [World.setRow_alloc_new]
    have c0 := cell_of_row _ _ 0 _ _ _ RW.out
    have c1 := cell_of_row _ _ 1 _ _ _ RW.out
    simp only [List.getElem?_toArray, List.getElem?_cons_zero, List.getElem?_cons_succ] at c0 c1
    generalize w1.alloc (Obj.cells gr 62) = W at *)
  go_ret
  exact ⟨rfl, BW.out⟩

set_option maxHeartbeats 2000000 in
theorem implSym_loop (n : Nat) (a : Option Addr) (cap : Nat) (zs : List Int) (w : World) (hA : IntsAt w a zs) (hm : matB n zs = true) :
    Calls Try.prog 19 #[.agg #[.int .i64 n, .slice a zs.length cap]] w fun e w' => e = .returned (.bool (symB n zs)) ∧ Below w.heap.size w w' := by
  have HA0 : Hid (IntsAt (w.alloc (Obj.cells #[Value.int IntKind.i64 n, Value.slice a zs.length cap] 26)) a zs) := hA.below ((Below.refl _ _).alloc (Nat.le_refl _) _)
  have HM : Hid _ := hm
  have hz := (zero_of_info Try.info41).1
  generalize hz0 : cellsOf zeros = z0 at hz
  have HZ : Hid (cellsOf zeros = z0) := hz0
  clear hz0
  obtain ⟨hn1, hn2, hl, _⟩ := matB_true hm
  clear hA hm hl
  go_enter Try.func19, Try.ntmps19
  go_wp2_with fail
  refine (grid_any n a cap zs _ HA0.out).mono ?_
  rintro e w1 ⟨rfl, hb⟩
  rw [HM.out]
  obtain ⟨b1, r1, c0, c1⟩ := box2 hb
  obtain ⟨bW, rW, gW⟩ := grid_world (cellsOf (gridRes n zs)) b1 r1
  have BW : Hid _ := bW
  have RW : Hid _ := rW
  have GW : Hid _ := gW
  clear hb r1 b1 c0 c1 bW rW gW
  obtain ⟨gr, HGR⟩ : ∃ gr, Hid (cellsOf (gridRes n zs) = gr) := ⟨_, rfl⟩
  rw [HGR.out] at BW RW GW ⊢
  go_wp2_with (
    with_reducible refine wpList_store_row ?_ 62 (.tmp 3) (.tmp 10) ?_ w1.heap.size gr ?_ ?_ 62 z0 ?_ ?_ ?_ ?_ ?_
    · rfl
    · rfl
    · rfl
    · rfl
    · exact heap_alloc_new _ _
    · rw [← HGR.out]; exact size41_of (gridRes_length _ _)
    · rw [← HZ.out, ← HGR.out, cellsOf_size, cellsOf_size, zeros_length, gridRes_length]
    · rw [← HGR.out]; exact cellsOf_one _
    rw [World.setRow_alloc_new]
    have c0 := cell_of_row _ _ 0 _ _ _ RW.out
    have c1 := cell_of_row _ _ 1 _ _ _ RW.out
    simp only [List.getElem?_toArray, List.getElem?_cons_zero, List.getElem?_cons_succ] at c0 c1
    generalize w1.alloc (Obj.cells gr 62) = W at *)
  clear hz c0 c1
  obtain ⟨gk, HGK⟩ : ∃ gk, Hid (w1.heap.size = gk) := ⟨_, rfl⟩
  rw [HGK.out] at GW ⊢
  go_loopw [16] (fun t wr => ∃ x : Nat, x ≤ n ∧ t = .int .i64 x ∧ symTo n zs x 0 ∧ Below w.heap.size w wr ∧ wr.heap[gk]? = some (.cells gr 62 (0, 0))) (fun t _ => n - (intOf t).toNat)
  case atStart => exact ⟨0, Nat.zero_le _, rfl, symTo_zero _ _, BW.out, GW.out⟩
  case round =>
    clear BW RW GW
    obtain ⟨x, hx, rfl, hs, hb, g4⟩ := hrel
    have HS : Hid _ := hs
    have G4 : Hid _ := g4
    have HB : Hid _ := hb
    clear hs g4 hb
    by_cases hlt : x < n
    · go_wp2_with fail
      go_loopw [20] (fun t wr => ∃ y : Nat, y ≤ x ∧ t = .int .i64 y ∧ symTo n zs x y ∧ Below w.heap.size w wr ∧ wr.heap[gk]? = some (.cells gr 62 (0, 0))) (fun t _ => x - (intOf t).toNat)
      case atStart => exact ⟨0, Nat.zero_le _, rfl, HS.out, HB.out, G4.out⟩
      case round =>
        clear HS HB G4
        obtain ⟨y, hy, rfl, hs, hb, g4⟩ := hrel
        have HS : Hid _ := hs
        have G4 : Hid _ := g4
        have HB : Hid _ := hb
        clear hs g4 hb
        by_cases hylt : y < x
        · have cg1 := grid_cell (HGR.out.symm ▸ G4.out) HM.out (x := x) (y := y) (by omega) (by omega) (by omega)
          have cg2 := grid_cell (HGR.out.symm ▸ G4.out) HM.out (x := y) (y := x) (by omega) (by omega) (by omega)
          rw [tm_def] at cg1 cg2
          by_cases he : tm n zs x y = tm n zs y x
          · have hne : (tm n zs x y != tm n zs y x) = false := by simp [he]
            have HS1 : Hid _ := symTo_step HS.out he
            clear he HS
            go_wp2_with fail
            go_quiet (fail)
            go_wp2
            refine ⟨⟨y + 1, by omega, by go_num, HS1.out, below_drewN HB.out _, G4.out⟩, by simp [intOf]; omega⟩
          · have hne : (tm n zs x y != tm n zs y x) = true := by simp [he]
            have HN : Hid (symB n zs = false) := symB_bad hlt hylt he
            clear he HS
            go_wp2_with fail
            go_quiet (fail)
            go_wp2
            go_ret
            exact ⟨ret_bool HN.out.symm, below_drewN HB.out _⟩
        · have hyx : y = x := by omega
          have HS1 : Hid (symTo n zs (x + 1) 0) := symTo_row (hyx ▸ HS.out)
          clear hyx HS
          go_wp2
          refine ⟨⟨x + 1, by omega, by go_num, HS1.out, HB.out, G4.out⟩, by simp [intOf]; omega⟩
    · have hxn : x = n := by omega
      have HN : Hid (symB n zs = true) := symB_yes HM.out (hxn ▸ HS.out)
      clear hxn HS
      go_wp2
      go_ret
      exact ⟨ret_bool HN.out.symm, HB.out⟩

theorem implSym_any (n : Int) (a : Option Addr) (cap : Nat) (zs : List Int) (w : World) (hA : IntsAt w a zs) :
    Calls Try.prog 19 #[.agg #[.int .i64 n, .slice a zs.length cap]] w fun e w' => e = .returned (.bool (symB n zs)) ∧ Below w.heap.size w w' := by
  cases h : matB n zs
  · rw [symB_no h]; exact implSym_no n a cap zs w hA h
  · obtain ⟨m, rfl⟩ := Int.eq_ofNat_of_zero_le (show 0 ≤ n by have := (matB_true h).1; omega)
    exact implSym_loop m a cap zs w hA h

end Go.Proofs.Ytdnfgeojagagnai
