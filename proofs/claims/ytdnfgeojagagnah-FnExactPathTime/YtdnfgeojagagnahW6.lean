import Derived.Test.YtdnfgeojagagnahW5
namespace Go.Proofs.Ytdnfgeojagagnah
open Go.RowKit

theorem below_row {B : Nat} {W w1 : World} (hb : Below B W w1) {k : Nat} {o : Obj} (hk : k < B) (h : W.heap[k]? = some o) : w1.heap[k]? = some o := by
  rw [hb.block k hk]; exact h
theorem row_lt {W : World} {k : Nat} {o : Obj} (h : W.heap[k]? = some o) : k < W.heap.size := by
  by_cases hlt : k < W.heap.size
  · exact hlt
  · have hn : W.heap[k]? = none := by simp; omega
    rw [hn] at h; cases h
/-- Behind a call, what is known of a box of two cells that was made ahead of it. -/
theorem box2 {w w1 : World} {c0 c1 : Value} {T : TypeId} (hb : Below (w.alloc (.cells #[c0, c1] T)).heap.size (w.alloc (.cells #[c0, c1] T)) w1) :
    Below w.heap.size w w1 ∧ w1.heap[w.heap.size]? = some (.cells #[c0, c1] T (0, 0)) ∧ w1.cell? ⟨w.heap.size, 0, none⟩ = some c0 ∧ w1.cell? ⟨w.heap.size, 1, none⟩ = some c1 := by
  have r : w1.heap[w.heap.size]? = some (.cells #[c0, c1] T (0, 0)) := below_row hb (by simp) (heap_alloc_new _ _)
  refine ⟨((Below.refl _ _).alloc (Nat.le_refl _) _).trans (hb.mono (by simp)), r, ?_, ?_⟩
  · rw [cell_of_row _ _ 0 _ _ _ r]; simp
  · rw [cell_of_row _ _ 1 _ _ _ r]; simp
/-- And behind a further call. -/
theorem box2_more {w w1 w2 : World} {k : Nat} {c0 c1 : Value} {T : TypeId} (hb : Below w1.heap.size w1 w2) (hB : Below w.heap.size w w1) (hr : w1.heap[k]? = some (.cells #[c0, c1] T (0, 0))) :
    Below w.heap.size w w2 ∧ w2.heap[k]? = some (.cells #[c0, c1] T (0, 0)) ∧ w2.cell? ⟨k, 0, none⟩ = some c0 ∧ w2.cell? ⟨k, 1, none⟩ = some c1 := by
  have r : w2.heap[k]? = some (.cells #[c0, c1] T (0, 0)) := below_row hb (row_lt hr) hr
  refine ⟨hB.trans (hb.mono hB.size), r, ?_, ?_⟩
  · rw [cell_of_row _ _ 0 _ _ _ r]; simp
  · rw [cell_of_row _ _ 1 _ _ _ r]; simp

/-- What TimeOf answers. -/
def timeV (n : Int) (zs : List Int) (x y : Int) : Int :=
  if matB n zs = true ∧ inB x 0 (n - 1) = true ∧ inB y 0 (n - 1) = true then zs.getD (x.toNat * n.toNat + y.toNat) 0 else -1
theorem timeV_no {n : Int} {zs : List Int} {x y : Int} (h : ¬ (matB n zs = true ∧ inB x 0 (n - 1) = true ∧ inB y 0 (n - 1) = true)) : timeV n zs x y = -1 := by
  unfold timeV; rw [if_neg h]
theorem timeV_at {n x y : Nat} {zs : List Int} (h : matB n zs = true) (hx : x < n) (hy : y < n) : timeV n zs x y = zs.getD (x * n + y) 0 := by
  unfold timeV; rw [if_pos ⟨h, inB_mk (by omega), inB_mk (by omega)⟩]; simp

set_option maxHeartbeats 1000000 in
theorem specTime_any (n x y : Int) (a : Option Addr) (cap : Nat) (zs : List Int) (w : World) (hA : IntsAt w a zs) :
    Calls Try.prog 11 #[.agg #[.int .i64 n, .slice a zs.length cap], .int .i64 x, .int .i64 y] w fun e w' => e = .returned (.int .i64 (timeV n zs x y)) ∧ Below w.heap.size w w' := by
  have HA0 : Hid (IntsAt (w.alloc (Obj.cells #[Value.int IntKind.i64 n, Value.slice a zs.length cap] 27)) a zs) := hA.below ((Below.refl _ _).alloc (Nat.le_refl _) _)
  have HA : Hid (IntsAt w a zs) := hA
  clear hA
  cases hm : matB n zs
  · have HT : Hid (timeV n zs x y = -1) := timeV_no (by rw [hm]; simp)
    have HM : Hid _ := hm
    clear hm
    go_enter Try.func11, Try.ntmps11
    go_wp2_with fail
    refine (specMat_any n a cap zs _ HA0.out).mono ?_
    rintro e w1 ⟨rfl, hb⟩
    rw [HM.out]
    obtain ⟨b1, r1, c0, c1⟩ := box2 hb
    clear hb r1
    go_wp2
    go_ret
    exact ⟨ret_int HT.out.symm, b1⟩
  · have hr := matB_true hm
    obtain ⟨hn1, hn2, hl, _⟩ := hr
    have HM : Hid _ := hm
    clear hm
    cases hx : inB x 0 (n - 1)
    · have HT : Hid (timeV n zs x y = -1) := timeV_no (by rw [hx]; simp)
      clear hl
      go_enter Try.func11, Try.ntmps11
      go_wp2_with fail
      refine (specMat_any n a cap zs _ HA0.out).mono ?_
      rintro e w1 ⟨rfl, hb⟩
      rw [HM.out]
      obtain ⟨b1, r1, c0, c1⟩ := box2 hb
      clear hb r1
      go_wp2_with (go_at_call 18; refine (l1In_any _ _ _ _).mono ?_; rintro e w' ⟨rfl, rfl⟩)
      go_ret
      exact ⟨ret_int HT.out.symm, b1⟩
    · cases hy : inB y 0 (n - 1)
      · have HT : Hid (timeV n zs x y = -1) := timeV_no (by rw [hy]; simp)
        clear hl
        go_enter Try.func11, Try.ntmps11
        go_wp2_with fail
        refine (specMat_any n a cap zs _ HA0.out).mono ?_
        rintro e w1 ⟨rfl, hb⟩
        rw [HM.out]
        obtain ⟨b1, r1, c0, c1⟩ := box2 hb
        clear hb r1
        go_wp2_with (go_at_call 18; refine (l1In_any _ _ _ _).mono ?_; rintro e w' ⟨rfl, rfl⟩)
        go_ret
        exact ⟨ret_int HT.out.symm, b1⟩
      · have hx' := inB_true hx
        have hy' := inB_true hy
        obtain ⟨n, rfl⟩ := Int.eq_ofNat_of_zero_le (show 0 ≤ n by omega)
        obtain ⟨x, rfl⟩ := Int.eq_ofNat_of_zero_le hx'.1
        obtain ⟨y, rfl⟩ := Int.eq_ofNat_of_zero_le hy'.1
        have HL : Hid (zs.length = n * n) := by
          rw [← Int.natCast_mul] at hl
          show _ = _
          omega
        have HT : Hid (timeV n zs x y = zs.getD (x * n + y) 0) := timeV_at HM.out (by omega) (by omega)
        clear hl
        go_enter Try.func11, Try.ntmps11
        go_wp2_with fail
        refine (specMat_any n a cap zs _ HA0.out).mono ?_
        rintro e w1 ⟨rfl, hb⟩
        rw [HM.out]
        obtain ⟨b1, r1, c0, c1⟩ := box2 hb
        have HB1 : Hid _ := b1
        clear hb r1 b1
        go_wp2_with (first
          | (go_at_call 18; refine (l1In_any _ _ _ _).mono ?_; rintro e w' ⟨rfl, rfl⟩)
          | (go_at_call 20; refine (l1Time_any n x y a zs.length cap zs _ (by omega) (by omega) (by omega) HL.out HL.out (by exact HA.out.below HB1.out)).mono ?_; rintro e w' ⟨rfl, hb'⟩))
        go_ret
        exact ⟨ret_int HT.out.symm, HB1.out.trans (hb'.mono HB1.out.size)⟩

end Go.Proofs.Ytdnfgeojagagnah
