import Derived.Test.YtdnfgeojagagnaiSpecMat
import Derived.Test.YtdnfgeojagagnaiL1Time
import Derived.Test.YtdnfgeojagagnaiPlainSym
namespace Go.Proofs.Ytdnfgeojagagnai
open Go.RowKit

set_option maxHeartbeats 1000000 in
theorem specSym_no (n : Int) (a : Option Addr) (cap : Nat) (zs : List Int) (w : World) (hA : IntsAt w a zs) (hm : matB n zs = false) :
    Calls Try.prog 18 #[.agg #[.int .i64 n, .slice a zs.length cap]] w fun e w' => e = .returned (.bool false) ∧ Below w.heap.size w w' := by
  have HA0 : Hid (IntsAt (w.alloc (Obj.cells #[Value.int IntKind.i64 n, Value.slice a zs.length cap] 26)) a zs) := hA.below ((Below.refl _ _).alloc (Nat.le_refl _) _)
  have HM : Hid _ := hm
  clear hA hm
  go_enter Try.func18, Try.ntmps18
  go_wp2_with fail
  refine (specMat_any n a cap zs _ HA0.out).mono ?_
  rintro e w1 ⟨rfl, hb⟩
  rw [HM.out]
  obtain ⟨b1, r1, c0, c1⟩ := box2 hb
  clear hb r1
  go_wp2
  go_ret
  exact ⟨rfl, b1⟩

set_option maxHeartbeats 2000000 in
theorem specSym_loop (n : Nat) (a : Option Addr) (cap : Nat) (zs : List Int) (w : World) (hA : IntsAt w a zs) (hm : matB n zs = true) :
    Calls Try.prog 18 #[.agg #[.int .i64 n, .slice a zs.length cap]] w fun e w' => e = .returned (.bool (symB n zs)) ∧ Below w.heap.size w w' := by
  have HA0 : Hid (IntsAt (w.alloc (Obj.cells #[Value.int IntKind.i64 n, Value.slice a zs.length cap] 26)) a zs) := hA.below ((Below.refl _ _).alloc (Nat.le_refl _) _)
  have HA : Hid (IntsAt w a zs) := hA
  obtain ⟨hn1, hn2, hl, _⟩ := matB_true hm
  have HL : Hid (zs.length = n * n) := by
    rw [← Int.natCast_mul] at hl
    show _ = _
    omega
  have HM : Hid _ := hm
  clear hA hm hl
  go_enter Try.func18, Try.ntmps18
  go_wp2_with fail
  refine (specMat_any n a cap zs _ HA0.out).mono ?_
  rintro e w1 ⟨rfl, hb⟩
  rw [HM.out]
  obtain ⟨b1, r1, c0, c1⟩ := box2 hb
  have BW : Hid _ := b1
  have RW : Hid _ := r1
  clear hb r1 b1
  go_wp2_with fail
  clear c0 c1
  go_loopw [3] (fun t wr => ∃ x : Nat, x ≤ n ∧ t = .int .i64 x ∧ symTo n zs x 0 ∧ Below w.heap.size w wr ∧ wr.heap[w.heap.size]? = some (.cells #[.int .i64 n, .slice a zs.length cap] 26 (0, 0))) (fun t _ => n - (intOf t).toNat)
  case atStart => exact ⟨0, Nat.zero_le _, rfl, symTo_zero _ _, BW.out, RW.out⟩
  case round =>
    clear BW RW
    obtain ⟨x, hx, rfl, hs, hb, g3⟩ := hrel
    have c0 := cell_of_row _ _ 0 _ _ _ g3
    have c1 := cell_of_row _ _ 1 _ _ _ g3
    simp at c0 c1
    have HS : Hid _ := hs
    have G3 : Hid _ := g3
    have HB : Hid _ := hb
    clear hs g3 hb
    by_cases hlt : x < n
    · go_wp2_with fail
      clear c0 c1
      go_loopw [4] (fun t wr => ∃ y : Nat, y ≤ x ∧ t = .int .i64 y ∧ symTo n zs x y ∧ Below w.heap.size w wr ∧ wr.heap[w.heap.size]? = some (.cells #[.int .i64 n, .slice a zs.length cap] 26 (0, 0))) (fun t _ => x - (intOf t).toNat)
      case atStart => exact ⟨0, Nat.zero_le _, rfl, HS.out, HB.out, G3.out⟩
      case round =>
        clear HS HB G3
        obtain ⟨y, hy, rfl, hs, hb, g3⟩ := hrel
        have c0 := cell_of_row _ _ 0 _ _ _ g3
        have c1 := cell_of_row _ _ 1 _ _ _ g3
        simp at c0 c1
        have HS : Hid _ := hs
        have G3 : Hid (wr.drew.heap[w.heap.size]? = _) := g3
        have HB : Hid (Below w.heap.size w wr.drew) := hb.drew
        have HBr : Hid (Below w.heap.size w wr) := hb
        clear hs g3 hb
        by_cases hylt : y < x
        · by_cases he : tm n zs x y = tm n zs y x
          · have hne : (tm n zs x y != tm n zs y x) = false := by simp [he]
            have HS1 : Hid _ := symTo_step HS.out he
            clear he HS
            go_wp2_with fail
            go_region_held3 (fun W => W.cell? ⟨w.heap.size, 0, none⟩ = some (.int .i64 n) ∧ W.cell? ⟨w.heap.size, 1, none⟩ = some (.slice a zs.length cap)) (first | go_keep | exact ⟨c0', c1'⟩) ((
              go_at_call 33
              refine (l1Time_tm n _ _ a cap zs _ (by omega) (by omega) (by omega) HL.out (by exact HA.out.below HB.out)).mono ?_
              rintro e w2 ⟨rfl, hb2⟩
              obtain ⟨HB', G3', c0', c1'⟩ := box2_more hb2 HB.out G3.out
              clear HB G3 hb2
              have HB : Hid _ := HB'
              have G3 : Hid _ := G3'
              clear HB' G3'))
            all_goals
              go_wp2
              refine ⟨⟨y + 1, by omega, by go_num, HS1.out, HB.out, G3.out⟩, by simp [intOf]; omega⟩
          · have hne : (tm n zs x y != tm n zs y x) = true := by simp [he]
            have HN : Hid (symB n zs = false) := symB_bad hlt hylt he
            clear he HS
            go_wp2_with fail
            go_region_held3 (fun W => W.cell? ⟨w.heap.size, 0, none⟩ = some (.int .i64 n) ∧ W.cell? ⟨w.heap.size, 1, none⟩ = some (.slice a zs.length cap)) (first | go_keep | exact ⟨c0', c1'⟩) ((
              go_at_call 33
              refine (l1Time_tm n _ _ a cap zs _ (by omega) (by omega) (by omega) HL.out (by exact HA.out.below HB.out)).mono ?_
              rintro e w2 ⟨rfl, hb2⟩
              obtain ⟨HB', G3', c0', c1'⟩ := box2_more hb2 HB.out G3.out
              clear HB G3 hb2
              have HB : Hid _ := HB'
              have G3 : Hid _ := G3'
              clear HB' G3'))
            all_goals
              go_wp2
              go_ret
              exact ⟨ret_bool HN.out.symm, HB.out⟩
        · have hyx : y = x := by omega
          have HS1 : Hid (symTo n zs (x + 1) 0) := symTo_row (hyx ▸ HS.out)
          clear hyx HS
          go_wp2
          refine ⟨⟨x + 1, by omega, by go_num, HS1.out, HBr.out, G3.out⟩, by simp [intOf]; omega⟩
    · have hxn : x = n := by omega
      have HN : Hid (symB n zs = true) := symB_yes HM.out (hxn ▸ HS.out)
      clear hxn HS
      go_wp2
      go_ret
      exact ⟨ret_bool HN.out.symm, HB.out⟩

theorem specSym_any (n : Int) (a : Option Addr) (cap : Nat) (zs : List Int) (w : World) (hA : IntsAt w a zs) :
    Calls Try.prog 18 #[.agg #[.int .i64 n, .slice a zs.length cap]] w fun e w' => e = .returned (.bool (symB n zs)) ∧ Below w.heap.size w w' := by
  cases h : matB n zs
  · rw [symB_no h]; exact specSym_no n a cap zs w hA h
  · obtain ⟨m, rfl⟩ := Int.eq_ofNat_of_zero_le (show 0 ≤ n by have := (matB_true h).1; omega)
    exact specSym_loop m a cap zs w hA h

end Go.Proofs.Ytdnfgeojagagnai
