import Derived.Test.YtfcplmageokdiafWithin
namespace Go.Proofs.Ytfcplmageokdiaf
open Go.RowKit

set_option maxHeartbeats 400000 in
theorem isPlace_any (n p : Int) (s : Value) (w : World) (h1 : 1 ≤ n) (h2 : n ≤ 16) :
    Calls Try.prog 101 #[.agg #[.int .i64 n, s], .int .i64 p] w fun e w' => e = .returned (.bool (inB p 0 (n - 1))) ∧ Below w.heap.size w w' := by
  go_enter Try.func101, Try.ntmps101
  go_wp2_with (go_at_call 63; refine (within_any _ _ _ _).mono ?_; rintro e w' ⟨rfl, rfl⟩)
  go_ret
  exact ⟨rfl, (Below.refl _ _).alloc (Nat.le_refl _) _⟩

end Go.Proofs.Ytfcplmageokdiaf
