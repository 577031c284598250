import Derived.Test.YtdnfgeojagagnaiSzMat
import Derived.Test.YtdnfgeojagagnaiToMat
import Derived.Test.YtdnfgeojagagnaiSpecTri
import Derived.Test.YtdnfgeojagagnaiImplTri
import Derived.Test.YtdnfgeojagagnaiEqMat
namespace Go.Proofs.Ytdnfgeojagagnai
open Go.RowKit


set_option maxHeartbeats 1000000 in
theorem lawTriangle (n : Int) (a : Option Addr) (cap : Nat) (zs : List Int) (w : World) (hA : IntsAt w a zs) (hlen : zs.length ≤ 9223372036854775807) :
    Calls Try.prog 4 #[.agg #[.int .i64 n, .slice a zs.length cap]] w fun e w' => e = .returned (.bool true) ∧ Below w.heap.size w w' := by
  have HB0 : Hid (Below w.heap.size w (w.alloc (Obj.cells #[Value.int IntKind.i64 n, Value.slice a zs.length cap] 24))) :=
    (Below.refl _ _).alloc (Nat.le_refl _) _
  have HA : Hid (IntsAt w a zs) := hA
  clear hA
  by_cases hbig : (1048576 : Int) < zs.length
  · go_enter Try.func4, Try.ntmps4
    go_wp2_with fail
    refine (szMat_any n a zs.length cap 1048576 _ (by omega) (by omega) hlen).mono ?_
    rintro e w1 ⟨rfl, hb⟩
    rw [if_pos (by omega)]
    go_wp2
    go_ret
    exact ⟨rfl, HB0.out.trans (hb.mono (by simp <;> omega))⟩
  · have hsm : zs.length ≤ 1048576 := by omega
    go_enter Try.func4, Try.ntmps4
    go_wp2_with fail
    refine (szMat_any n a zs.length cap 1048576 _ (by omega) (by omega) hlen).mono ?_
    rintro e w1 ⟨rfl, hb⟩
    rw [if_neg (by omega)]
    have R1 : Hid (w1.heap[w.heap.size]? = some (.cells #[Value.int IntKind.i64 n, Value.slice a zs.length cap] 24 (0, 0))) := below_row hb (by simp) (heap_alloc_new _ _)
    have B1 : Hid (Below w.heap.size w w1) := HB0.out.trans (hb.mono (by simp))
    clear hb HB0 hbig
    have c0 := cell_of_row _ _ 0 _ _ _ R1.out
    have c1 := cell_of_row _ _ 1 _ _ _ R1.out
    simp at c0 c1
    go_wp2_with fail
    refine (toMat_any n a cap zs _ (HA.out.below B1.out) hsm).mono ?_
    rintro e w2 ⟨g, hg0, rfl, hb, hg⟩
    have G2 : Hid (IntsAt w2 (some ⟨g, 0, none⟩) zs) := IntsAt.of_row hg
    have R2 : Hid (w2.heap[w.heap.size]? = some (.cells #[Value.int IntKind.i64 n, Value.slice a zs.length cap] 24 (0, 0))) := below_row hb (row_lt R1.out) R1.out
    have B2 : Hid (Below w.heap.size w w2) := B1.out.trans (hb.mono B1.out.size)
    clear hb hg R1 B1 c0 c1 hg0
    go_wp2_with fail
    refine (specTri_any n _ _ zs _ G2.out).mono ?_
    rintro e w3 ⟨rfl, hb⟩
    have R3 : Hid (w3.heap[w.heap.size]? = some (.cells #[Value.int IntKind.i64 n, Value.slice a zs.length cap] 24 (0, 0))) := below_row hb (row_lt R2.out) R2.out
    have B3 : Hid (Below w.heap.size w w3) := B2.out.trans (hb.mono B2.out.size)
    clear hb R2 B2 G2
    have c0 := cell_of_row _ _ 0 _ _ _ R3.out
    have c1 := cell_of_row _ _ 1 _ _ _ R3.out
    simp at c0 c1
    generalize hm : triB n zs = mb
    have HM : Hid (triB n zs = mb) := hm
    clear hm
    go_wp2_with fail
    refine (toMat_any n a cap zs _ (HA.out.below B3.out) hsm).mono ?_
    rintro e w4 ⟨g', hg0', rfl, hb, hg⟩
    have B4 : Hid (Below w.heap.size w w4) := B3.out.trans (hb.mono B3.out.size)
    have G4 : Hid (IntsAt w4 (some ⟨g', 0, none⟩) zs) := IntsAt.of_row hg
    have R4 : Hid (w4.heap[w.heap.size]? = some (.cells #[Value.int IntKind.i64 n, Value.slice a zs.length cap] 24 (0, 0))) := below_row hb (row_lt R3.out) R3.out
    clear hb hg R3 B3 c0 c1 hg0'
    go_wp2_with fail
    have B4' : Hid (Below w.heap.size w (w4.alloc (Obj.cells #[Value.int IntKind.i64 n, Value.slice (some ⟨g', 0, none⟩) zs.length zs.length] 26))) := B4.out.alloc B4.out.size _
    refine (implTri_any n _ _ zs _ (G4.out.below ((Below.refl _ _).alloc (Nat.le_refl _) _))).mono ?_
    rintro e w5 ⟨rfl, hb⟩
    have B5 : Hid (Below w.heap.size w w5) := B4'.out.trans (hb.mono B4'.out.size)
    have X5 : Hid (w5.heap[w4.heap.size]? = some (.cells #[Value.int IntKind.i64 n, Value.slice (some ⟨g', 0, none⟩) zs.length zs.length] 26 (0, 0))) := below_row hb (by simp) (heap_alloc_new _ _)
    have R5 : Hid (w5.heap[w.heap.size]? = some (.cells #[Value.int IntKind.i64 n, Value.slice a zs.length cap] 24 (0, 0))) := below_row hb (by have := row_lt R4.out; simp; omega) (by rw [heap_alloc_old _ _ (row_lt R4.out)]; exact R4.out)
    have G5 : Hid (IntsAt w5 (some ⟨g', 0, none⟩) zs) := (G4.out.below ((Below.refl _ _).alloc (Nat.le_refl _) _)).below hb
    rw [HM.out]
    clear hb R4 B4 B4' G4 HM
    have c0 := cell_of_row _ _ 0 _ _ _ R5.out
    have c1 := cell_of_row _ _ 1 _ _ _ R5.out
    have x0 := cell_of_row _ _ 0 _ _ _ X5.out
    have x1 := cell_of_row _ _ 1 _ _ _ X5.out
    simp at c0 c1 x0 x1
    have hlt5 := row_lt X5.out
    have hmm : (mb != mb) = false := by simp
    go_wp2_with fail
    go_region_with (first
      | (go_at_call 11; refine (toMat_any n a cap zs _ (by exact HA.out.below B5.out.drew) hsm).mono ?_; rintro e w6 ⟨g6, hg06, rfl, hb6, hg6⟩; have x06 := cell_of_row _ _ 0 _ _ _ (below_row hb6 (k := w4.heap.size) hlt5 X5.out); have x16 := cell_of_row _ _ 1 _ _ _ (below_row hb6 (k := w4.heap.size) hlt5 X5.out); simp at x06 x16; have HB6 : Hid _ := hb6; have HG6 : Hid _ := hg6; clear hb6 hg6 hg06)
      | (go_at_call 13; refine (eqMat_same n _ _ _ _ zs _ (by exact (G5.out.below ((Below.refl _ _).drew)).below HB6.out) (by exact IntsAt.of_row HG6.out) (by omega)).mono ?_; rintro e w7 ⟨rfl, hb7⟩))
    all_goals
      go_wp2
      go_ret
      have B6 : Below w.heap.size w w6 := B5.out.drew.trans (HB6.out.mono B5.out.size)
      exact ⟨rfl, B6.trans (hb7.mono B6.size)⟩

end Go.Proofs.Ytdnfgeojagagnai
