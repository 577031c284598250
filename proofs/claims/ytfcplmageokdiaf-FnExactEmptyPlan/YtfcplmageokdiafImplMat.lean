import Derived.Test.YtfcplmageokdiafGrid
namespace Go.Proofs.Ytfcplmageokdiaf
open Go.RowKit

set_option maxHeartbeats 400000 in
theorem implMat_any (n : Int) (a : Option Addr) (cap : Nat) (zs : List Int) (w : World) (hA : IntsAt w a zs) :
    Calls Try.prog 60 #[.agg #[.int .i64 n, .slice a zs.length cap]] w fun e w' => e = .returned (.bool (matB n zs)) ∧ Below w.heap.size w w' := by
  have HB0 : Hid (Below w.heap.size w (w.alloc (Obj.cells #[Value.int IntKind.i64 n, Value.slice a zs.length cap] 35))) :=
    (Below.refl _ _).alloc (Nat.le_refl _) _
  have HA : Hid (IntsAt w a zs) := hA
  clear hA
  have hz := (zero_of_info Try.info41).1
  go_enter Try.func60, Try.ntmps60
  go_wp2_with fail
  refine (grid_any n a cap zs _ (HA.out.below HB0.out)).mono ?_
  rintro e w1 ⟨rfl, hb⟩
  have HB1 : Hid _ := hb
  clear hb
  generalize hz0 : cellsOf zeros = z0 at hz
  have HZ : Hid (cellsOf zeros = z0) := hz0
  clear hz0
  generalize hgr : cellsOf (gridRes n zs) = gr
  have HGR : Hid (cellsOf (gridRes n zs) = gr) := hgr
  clear hgr
  go_wp2_with (
    with_reducible refine wpList_store_row ?_ 125 (.tmp 3) (.tmp 8) ?_ w1.heap.size gr ?_ ?_ 125 z0 ?_ ?_ ?_ ?_ ?_
    · rfl
    · rfl
    · rfl
    · rfl
    · exact heap_alloc_new _ _
    · rw [← HGR.out]; exact size41_of (gridRes_length _ _)
    · rw [← HZ.out, ← HGR.out, cellsOf_size, cellsOf_size, zeros_length, gridRes_length]
    · rw [← HGR.out]; exact cellsOf_one _)
  go_ret
  refine ⟨rfl, below_setRow ((HB0.out.trans (HB1.out.mono (by simp <;> omega))).alloc ?_ _) ?_ _⟩
  all_goals
    have := HB1.out.size
    simp at this
    omega

end Go.Proofs.Ytfcplmageokdiaf
