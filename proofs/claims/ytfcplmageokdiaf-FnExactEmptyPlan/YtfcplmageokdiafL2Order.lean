import Derived.Test.YtfcplmageokdiafL1In
import Derived.Test.YtfcplmageokdiafPlainCase
namespace Go.Proofs.Ytfcplmageokdiaf
open Go.RowKit

set_option maxHeartbeats 400000 in
theorem l2Order_any (n o0 o1 o2 o3 o4 o5 : Int) (w : World) (hn1 : 1 ≤ n) (hn2 : n ≤ 16) :
    Calls Try.prog 56 #[.agg #[.int .i64 o0, .int .i64 o1, .int .i64 o2, .int .i64 o3, .int .i64 o4, .int .i64 o5], .int .i64 n] w fun e w' => e = .returned (.bool (ordB n o0 o1 o2 o3 o4 o5)) ∧ Below w.heap.size w w' := by
  cases h0 : inB o0 1 1000000000
  · go_enter Try.func56, Try.ntmps56
    go_wp2_with (first | (go_at_call 55; refine (l1In_any _ _ _ _).mono ?_; rintro e w' ⟨rfl, rfl⟩))
    go_ret
    exact ⟨ret_bool (by simp [ordB, ordIn, hoursB, h0]), (Below.refl _ _).alloc (Nat.le_refl _) _⟩
  · cases h1 : inB o1 0 (n - 1)
    · go_enter Try.func56, Try.ntmps56
      go_wp2_with (first | (go_at_call 55; refine (l1In_any _ _ _ _).mono ?_; rintro e w' ⟨rfl, rfl⟩))
      go_ret
      exact ⟨ret_bool (by simp [ordB, ordIn, hoursB, h0, h1]), (Below.refl _ _).alloc (Nat.le_refl _) _⟩
    · cases h2 : inB o2 0 1000
      · go_enter Try.func56, Try.ntmps56
        go_wp2_with (first | (go_at_call 55; refine (l1In_any _ _ _ _).mono ?_; rintro e w' ⟨rfl, rfl⟩))
        go_ret
        exact ⟨ret_bool (by simp [ordB, ordIn, hoursB, h0, h1, h2]), (Below.refl _ _).alloc (Nat.le_refl _) _⟩
      · cases h3 : inB o3 0 1000000
        · go_enter Try.func56, Try.ntmps56
          go_wp2_with (first | (go_at_call 55; refine (l1In_any _ _ _ _).mono ?_; rintro e w' ⟨rfl, rfl⟩))
          go_ret
          exact ⟨ret_bool (by simp [ordB, ordIn, hoursB, h0, h1, h2, h3]), (Below.refl _ _).alloc (Nat.le_refl _) _⟩
        · cases h4 : inB o4 o3 1000000
          · go_enter Try.func56, Try.ntmps56
            go_wp2_with (first | (go_at_call 55; refine (l1In_any _ _ _ _).mono ?_; rintro e w' ⟨rfl, rfl⟩))
            go_ret
            exact ⟨ret_bool (by simp [ordB, ordIn, hoursB, h0, h1, h2, h3, h4]), (Below.refl _ _).alloc (Nat.le_refl _) _⟩
          · cases h5 : inB o5 0 10000
            · go_enter Try.func56, Try.ntmps56
              go_wp2_with (first | (go_at_call 55; refine (l1In_any _ _ _ _).mono ?_; rintro e w' ⟨rfl, rfl⟩))
              go_ret
              exact ⟨ret_bool (by simp [ordB, ordIn, hoursB, h0, h1, h2, h3, h4, h5]), (Below.refl _ _).alloc (Nat.le_refl _) _⟩
            · go_enter Try.func56, Try.ntmps56
              go_wp2_with (first | (go_at_call 55; refine (l1In_any _ _ _ _).mono ?_; rintro e w' ⟨rfl, rfl⟩))
              go_ret
              exact ⟨ret_bool (by simp [ordB, ordIn, hoursB, h0, h1, h2, h3, h4, h5]), (Below.refl _ _).alloc (Nat.le_refl _) _⟩

set_option maxHeartbeats 400000 in
theorem l2Vehicle_any (n o0 o1 o2 o3 o4 : Int) (w : World) (hn1 : 1 ≤ n) (hn2 : n ≤ 16) :
    Calls Try.prog 57 #[.agg #[.int .i64 o0, .int .i64 o1, .int .i64 o2, .int .i64 o3, .int .i64 o4], .int .i64 n] w fun e w' => e = .returned (.bool (vehB n o0 o1 o2 o3 o4)) ∧ Below w.heap.size w w' := by
  cases h0 : inB o0 1 1000000000
  · go_enter Try.func57, Try.ntmps57
    go_wp2_with (first | (go_at_call 55; refine (l1In_any _ _ _ _).mono ?_; rintro e w' ⟨rfl, rfl⟩))
    go_ret
    exact ⟨ret_bool (by simp [vehB, vehIn, hoursB, h0]), (Below.refl _ _).alloc (Nat.le_refl _) _⟩
  · cases h1 : inB o1 0 (n - 1)
    · go_enter Try.func57, Try.ntmps57
      go_wp2_with (first | (go_at_call 55; refine (l1In_any _ _ _ _).mono ?_; rintro e w' ⟨rfl, rfl⟩))
      go_ret
      exact ⟨ret_bool (by simp [vehB, vehIn, hoursB, h0, h1]), (Below.refl _ _).alloc (Nat.le_refl _) _⟩
    · cases h2 : inB o2 0 1000
      · go_enter Try.func57, Try.ntmps57
        go_wp2_with (first | (go_at_call 55; refine (l1In_any _ _ _ _).mono ?_; rintro e w' ⟨rfl, rfl⟩))
        go_ret
        exact ⟨ret_bool (by simp [vehB, vehIn, hoursB, h0, h1, h2]), (Below.refl _ _).alloc (Nat.le_refl _) _⟩
      · cases h3 : inB o3 0 1000000
        · go_enter Try.func57, Try.ntmps57
          go_wp2_with (first | (go_at_call 55; refine (l1In_any _ _ _ _).mono ?_; rintro e w' ⟨rfl, rfl⟩))
          go_ret
          exact ⟨ret_bool (by simp [vehB, vehIn, hoursB, h0, h1, h2, h3]), (Below.refl _ _).alloc (Nat.le_refl _) _⟩
        · cases h4 : inB o4 o3 1000000
          · go_enter Try.func57, Try.ntmps57
            go_wp2_with (first | (go_at_call 55; refine (l1In_any _ _ _ _).mono ?_; rintro e w' ⟨rfl, rfl⟩))
            go_ret
            exact ⟨ret_bool (by simp [vehB, vehIn, hoursB, h0, h1, h2, h3, h4]), (Below.refl _ _).alloc (Nat.le_refl _) _⟩
          · go_enter Try.func57, Try.ntmps57
            go_wp2_with (first | (go_at_call 55; refine (l1In_any _ _ _ _).mono ?_; rintro e w' ⟨rfl, rfl⟩))
            go_ret
            exact ⟨ret_bool (by simp [vehB, vehIn, hoursB, h0, h1, h2, h3, h4]), (Below.refl _ _).alloc (Nat.le_refl _) _⟩

end Go.Proofs.Ytfcplmageokdiaf
