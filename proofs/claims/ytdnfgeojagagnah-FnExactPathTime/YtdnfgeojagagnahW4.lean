import Derived.Test.YtdnfgeojagagnahW3
namespace Go.Proofs.Ytdnfgeojagagnah
open Go.RowKit

set_option maxHeartbeats 400000 in
theorem eqMat_same (n : Int) (a b : Option Addr) (c1 c2 : Nat) (xs : List Int) (w : World) (hA : IntsAt w a xs) (hB : IntsAt w b xs) (hl1 : xs.length ≤ 1125899906842624) :
    Calls Try.prog 10 #[.agg #[.int .i64 n, .slice a xs.length c1], .agg #[.int .i64 n, .slice b xs.length c2]] w fun e w' => e = .returned (.bool true) ∧ Below w.heap.size w w' := by
  have HB0 : Hid (Below w.heap.size w ((w.alloc (Obj.cells #[Value.int IntKind.i64 n, Value.slice a xs.length c1] 27)).alloc (Obj.cells #[Value.int IntKind.i64 n, Value.slice b xs.length c2] 27))) :=
    ((Below.refl _ _).alloc (Nat.le_refl _) _).alloc (by simp) _
  have HA : Hid (IntsAt w a xs) := hA
  have HB : Hid (IntsAt w b xs) := hB
  clear hA hB
  have hnn : (n != n) = false := by simp
  go_enter Try.func10, Try.ntmps10
  go_wp2_with fail
  refine (eqInts_any a b c1 c2 xs xs _ (HA.out.below HB0.out) (HB.out.below HB0.out) hl1).mono ?_
  rintro e w1 ⟨rfl, hb⟩
  have HB1 : Hid _ := hb
  clear hb
  have hd : decide (xs = xs) = true := by simp
  rw [hd]
  clear hd
  go_wp2
  go_ret
  exact ⟨rfl, HB0.out.trans (HB1.out.mono (by simp <;> omega))⟩

set_option maxHeartbeats 400000 in
theorem implMat_any (n : Int) (a : Option Addr) (cap : Nat) (zs : List Int) (w : World) (hA : IntsAt w a zs) :
    Calls Try.prog 9 #[.agg #[.int .i64 n, .slice a zs.length cap]] w fun e w' => e = .returned (.bool (matB n zs)) ∧ Below w.heap.size w w' := by
  have HB0 : Hid (Below w.heap.size w (w.alloc (Obj.cells #[Value.int IntKind.i64 n, Value.slice a zs.length cap] 27))) :=
    (Below.refl _ _).alloc (Nat.le_refl _) _
  have HA : Hid (IntsAt w a zs) := hA
  clear hA
  have hz := (zero_of_info Try.info41).1
  go_enter Try.func9, Try.ntmps9
  go_wp2_with fail
  refine (grid_any n a cap zs _ (HA.out.below HB0.out)).mono ?_
  rintro e w1 ⟨rfl, hb⟩
  have HB1 : Hid _ := hb
  clear hb
  generalize hz0 : cellsOf zeros = z0 at hz
  have HZ : Hid (cellsOf zeros = z0) := hz0
  clear hz0
  generalize hgr : cellsOf (gridRes n zs) = gr
  have HGR : Hid (cellsOf (gridRes n zs) = gr) := hgr
  clear hgr
  go_wp2_with (
    with_reducible refine wpList_store_row ?_ 41 (.tmp 3) (.tmp 8) ?_ w1.heap.size gr ?_ ?_ 41 z0 ?_ ?_ ?_ ?_ ?_
    · rfl
    · rfl
    · rfl
    · rfl
    · exact heap_alloc_new _ _
    · rw [← HGR.out]; exact size41_of (gridRes_length _ _)
    · rw [← HZ.out, ← HGR.out, cellsOf_size, cellsOf_size, zeros_length, gridRes_length]
    · rw [← HGR.out]; exact cellsOf_one _)
  go_ret
  refine ⟨rfl, below_setRow ((HB0.out.trans (HB1.out.mono (by simp <;> omega))).alloc ?_ _) ?_ _⟩
  all_goals
    have := HB1.out.size
    simp at this
    omega

end Go.Proofs.Ytdnfgeojagagnah
