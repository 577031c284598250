import Derived.Test.YtfcplmageokdiafHours
namespace Go.Proofs.Ytfcplmageokdiaf
open Go.RowKit

set_option maxHeartbeats 400000 in
theorem orderOk_any (n o0 o1 o2 o3 o4 o5 : Int) (s : Value) (w : World) (hn1 : 1 ≤ n) (hn2 : n ≤ 16) :
    Calls Try.prog 86 #[.agg #[.int .i64 n, s], .agg #[.int .i64 o0, .int .i64 o1, .int .i64 o2, .int .i64 o3, .int .i64 o4, .int .i64 o5]] w fun e w' => e = .returned (.bool (ordIn n o1 o2 o3 o4 o5)) ∧ Below w.heap.size w w' := by
  have HB0 : Hid (Below w.heap.size w ((w.alloc (Obj.cells #[Value.int IntKind.i64 n, s] 35)).alloc (Obj.cells #[Value.int IntKind.i64 o0, Value.int IntKind.i64 o1, Value.int IntKind.i64 o2, Value.int IntKind.i64 o3, Value.int IntKind.i64 o4, Value.int IntKind.i64 o5] 60))) := ((Below.refl _ _).alloc (Nat.le_refl _) _).alloc (by simp) _
  have R0 : Hid (((w.alloc (Obj.cells #[Value.int IntKind.i64 n, s] 35)).alloc (Obj.cells #[Value.int IntKind.i64 o0, Value.int IntKind.i64 o1, Value.int IntKind.i64 o2, Value.int IntKind.i64 o3, Value.int IntKind.i64 o4, Value.int IntKind.i64 o5] 60)).heap[w.heap.size + 1]? = some (.cells #[Value.int IntKind.i64 o0, Value.int IntKind.i64 o1, Value.int IntKind.i64 o2, Value.int IntKind.i64 o3, Value.int IntKind.i64 o4, Value.int IntKind.i64 o5] 60 (0, 0))) := heap_alloc2_new _ _ _
  have HLT : Hid (w.heap.size + 1 < ((w.alloc (Obj.cells #[Value.int IntKind.i64 n, s] 35)).alloc (Obj.cells #[Value.int IntKind.i64 o0, Value.int IntKind.i64 o1, Value.int IntKind.i64 o2, Value.int IntKind.i64 o3, Value.int IntKind.i64 o4, Value.int IntKind.i64 o5] 60)).heap.size) := by
    show _ < _
    simp
  cases h0 : inB o1 0 (n - 1)
  · go_enter Try.func86, Try.ntmps86
    go_wp2_with (first
      | (go_at_call 101
         refine (isPlace_any _ _ _ _ hn1 hn2).mono ?_
         rintro e w2 ⟨rfl, hb2⟩
         have BL := HB0.out.trans (hb2.mono HB0.out.size)
         obtain ⟨k0, k1, k2, k3, k4, k5⟩ := cells6 (below_row hb2 HLT.out R0.out)
         clear hb2)
      | (go_at_call 63; refine (within_any _ _ _ _).mono ?_; rintro e w' ⟨rfl, rfl⟩)
      | (go_at_call 102; refine (hoursOk_any _ _ _).mono ?_; rintro e w' ⟨rfl, rfl⟩))
    go_ret
    exact ⟨ret_bool (by simp [ordIn, h0]), BL⟩
  · cases h1 : inB o2 0 1000
    · go_enter Try.func86, Try.ntmps86
      go_wp2_with (first
        | (go_at_call 101
           refine (isPlace_any _ _ _ _ hn1 hn2).mono ?_
           rintro e w2 ⟨rfl, hb2⟩
           have BL := HB0.out.trans (hb2.mono HB0.out.size)
           obtain ⟨k0, k1, k2, k3, k4, k5⟩ := cells6 (below_row hb2 HLT.out R0.out)
           clear hb2)
        | (go_at_call 63; refine (within_any _ _ _ _).mono ?_; rintro e w' ⟨rfl, rfl⟩)
        | (go_at_call 102; refine (hoursOk_any _ _ _).mono ?_; rintro e w' ⟨rfl, rfl⟩))
      go_ret
      exact ⟨ret_bool (by simp [ordIn, h0, h1]), BL⟩
    · cases h2 : hoursB o3 o4
      · go_enter Try.func86, Try.ntmps86
        go_wp2_with (first
          | (go_at_call 101
             refine (isPlace_any _ _ _ _ hn1 hn2).mono ?_
             rintro e w2 ⟨rfl, hb2⟩
             have BL := HB0.out.trans (hb2.mono HB0.out.size)
             obtain ⟨k0, k1, k2, k3, k4, k5⟩ := cells6 (below_row hb2 HLT.out R0.out)
             clear hb2)
          | (go_at_call 63; refine (within_any _ _ _ _).mono ?_; rintro e w' ⟨rfl, rfl⟩)
          | (go_at_call 102; refine (hoursOk_any _ _ _).mono ?_; rintro e w' ⟨rfl, rfl⟩))
        go_ret
        exact ⟨ret_bool (by simp [ordIn, h0, h1, h2]), BL⟩
      · cases h3 : inB o5 0 10000
        · go_enter Try.func86, Try.ntmps86
          go_wp2_with (first
            | (go_at_call 101
               refine (isPlace_any _ _ _ _ hn1 hn2).mono ?_
               rintro e w2 ⟨rfl, hb2⟩
               have BL := HB0.out.trans (hb2.mono HB0.out.size)
               obtain ⟨k0, k1, k2, k3, k4, k5⟩ := cells6 (below_row hb2 HLT.out R0.out)
               clear hb2)
            | (go_at_call 63; refine (within_any _ _ _ _).mono ?_; rintro e w' ⟨rfl, rfl⟩)
            | (go_at_call 102; refine (hoursOk_any _ _ _).mono ?_; rintro e w' ⟨rfl, rfl⟩))
          go_ret
          exact ⟨ret_bool (by simp [ordIn, h0, h1, h2, h3]), BL⟩
        · go_enter Try.func86, Try.ntmps86
          go_wp2_with (first
            | (go_at_call 101
               refine (isPlace_any _ _ _ _ hn1 hn2).mono ?_
               rintro e w2 ⟨rfl, hb2⟩
               have BL := HB0.out.trans (hb2.mono HB0.out.size)
               obtain ⟨k0, k1, k2, k3, k4, k5⟩ := cells6 (below_row hb2 HLT.out R0.out)
               clear hb2)
            | (go_at_call 63; refine (within_any _ _ _ _).mono ?_; rintro e w' ⟨rfl, rfl⟩)
            | (go_at_call 102; refine (hoursOk_any _ _ _).mono ?_; rintro e w' ⟨rfl, rfl⟩))
          go_ret
          exact ⟨ret_bool (by simp [ordIn, h0, h1, h2, h3]), BL⟩

set_option maxHeartbeats 400000 in
theorem vehicleOk_any (n o0 o1 o2 o3 o4 : Int) (s : Value) (w : World) (hn1 : 1 ≤ n) (hn2 : n ≤ 16) :
    Calls Try.prog 87 #[.agg #[.int .i64 n, s], .agg #[.int .i64 o0, .int .i64 o1, .int .i64 o2, .int .i64 o3, .int .i64 o4]] w fun e w' => e = .returned (.bool (vehIn n o1 o2 o3 o4)) ∧ Below w.heap.size w w' := by
  have HB0 : Hid (Below w.heap.size w ((w.alloc (Obj.cells #[Value.int IntKind.i64 n, s] 35)).alloc (Obj.cells #[Value.int IntKind.i64 o0, Value.int IntKind.i64 o1, Value.int IntKind.i64 o2, Value.int IntKind.i64 o3, Value.int IntKind.i64 o4] 92))) := ((Below.refl _ _).alloc (Nat.le_refl _) _).alloc (by simp) _
  have R0 : Hid (((w.alloc (Obj.cells #[Value.int IntKind.i64 n, s] 35)).alloc (Obj.cells #[Value.int IntKind.i64 o0, Value.int IntKind.i64 o1, Value.int IntKind.i64 o2, Value.int IntKind.i64 o3, Value.int IntKind.i64 o4] 92)).heap[w.heap.size + 1]? = some (.cells #[Value.int IntKind.i64 o0, Value.int IntKind.i64 o1, Value.int IntKind.i64 o2, Value.int IntKind.i64 o3, Value.int IntKind.i64 o4] 92 (0, 0))) := heap_alloc2_new _ _ _
  have HLT : Hid (w.heap.size + 1 < ((w.alloc (Obj.cells #[Value.int IntKind.i64 n, s] 35)).alloc (Obj.cells #[Value.int IntKind.i64 o0, Value.int IntKind.i64 o1, Value.int IntKind.i64 o2, Value.int IntKind.i64 o3, Value.int IntKind.i64 o4] 92)).heap.size) := by
    show _ < _
    simp
  cases h0 : inB o1 0 (n - 1)
  · go_enter Try.func87, Try.ntmps87
    go_wp2_with (first
      | (go_at_call 101
         refine (isPlace_any _ _ _ _ hn1 hn2).mono ?_
         rintro e w2 ⟨rfl, hb2⟩
         have BL := HB0.out.trans (hb2.mono HB0.out.size)
         obtain ⟨k0, k1, k2, k3, k4⟩ := cells5 (below_row hb2 HLT.out R0.out)
         clear hb2)
      | (go_at_call 63; refine (within_any _ _ _ _).mono ?_; rintro e w' ⟨rfl, rfl⟩)
      | (go_at_call 102; refine (hoursOk_any _ _ _).mono ?_; rintro e w' ⟨rfl, rfl⟩))
    go_ret
    exact ⟨ret_bool (by simp [vehIn, h0]), BL⟩
  · cases h1 : inB o2 0 1000
    · go_enter Try.func87, Try.ntmps87
      go_wp2_with (first
        | (go_at_call 101
           refine (isPlace_any _ _ _ _ hn1 hn2).mono ?_
           rintro e w2 ⟨rfl, hb2⟩
           have BL := HB0.out.trans (hb2.mono HB0.out.size)
           obtain ⟨k0, k1, k2, k3, k4⟩ := cells5 (below_row hb2 HLT.out R0.out)
           clear hb2)
        | (go_at_call 63; refine (within_any _ _ _ _).mono ?_; rintro e w' ⟨rfl, rfl⟩)
        | (go_at_call 102; refine (hoursOk_any _ _ _).mono ?_; rintro e w' ⟨rfl, rfl⟩))
      go_ret
      exact ⟨ret_bool (by simp [vehIn, h0, h1]), BL⟩
    · cases h2 : hoursB o3 o4
      · go_enter Try.func87, Try.ntmps87
        go_wp2_with (first
          | (go_at_call 101
             refine (isPlace_any _ _ _ _ hn1 hn2).mono ?_
             rintro e w2 ⟨rfl, hb2⟩
             have BL := HB0.out.trans (hb2.mono HB0.out.size)
             obtain ⟨k0, k1, k2, k3, k4⟩ := cells5 (below_row hb2 HLT.out R0.out)
             clear hb2)
          | (go_at_call 63; refine (within_any _ _ _ _).mono ?_; rintro e w' ⟨rfl, rfl⟩)
          | (go_at_call 102; refine (hoursOk_any _ _ _).mono ?_; rintro e w' ⟨rfl, rfl⟩))
        go_ret
        exact ⟨ret_bool (by simp [vehIn, h0, h1, h2]), BL⟩
      · go_enter Try.func87, Try.ntmps87
        go_wp2_with (first
          | (go_at_call 101
             refine (isPlace_any _ _ _ _ hn1 hn2).mono ?_
             rintro e w2 ⟨rfl, hb2⟩
             have BL := HB0.out.trans (hb2.mono HB0.out.size)
             obtain ⟨k0, k1, k2, k3, k4⟩ := cells5 (below_row hb2 HLT.out R0.out)
             clear hb2)
          | (go_at_call 63; refine (within_any _ _ _ _).mono ?_; rintro e w' ⟨rfl, rfl⟩)
          | (go_at_call 102; refine (hoursOk_any _ _ _).mono ?_; rintro e w' ⟨rfl, rfl⟩))
        go_ret
        exact ⟨ret_bool (by simp [vehIn, h0, h1, h2]), BL⟩

end Go.Proofs.Ytfcplmageokdiaf
