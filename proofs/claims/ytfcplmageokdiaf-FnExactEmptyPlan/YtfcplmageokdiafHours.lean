import Derived.Test.YtfcplmageokdiafIsPlace
import Derived.Test.YtfcplmageokdiafPlainCase
namespace Go.Proofs.Ytfcplmageokdiaf
open Go.RowKit

set_option maxHeartbeats 400000 in
theorem hoursOk_any (f t : Int) (w : World) :
    Calls Try.prog 102 #[.int .i64 f, .int .i64 t] w fun e w' => e = .returned (.bool (hoursB f t)) ∧ w' = w := by
  by_cases h1 : 0 ≤ f
  · by_cases h2 : f ≤ t
    · by_cases h3 : t ≤ 1000000
      · rw [hoursB_mk h1 h2 h3]
        go_enter Try.func102, Try.ntmps102
        go_wp2
        go_ret
        exact ⟨by simp, rfl⟩
      · rw [hoursB_not (by omega)]
        go_enter Try.func102, Try.ntmps102
        go_wp2
        go_ret
        exact ⟨by simp, rfl⟩
    · rw [hoursB_not (by omega)]
      go_enter Try.func102, Try.ntmps102
      go_wp2
      go_ret
      exact ⟨by simp, rfl⟩
  · rw [hoursB_not (by omega)]
    go_enter Try.func102, Try.ntmps102
    go_wp2
    go_ret
    exact ⟨by simp, rfl⟩

end Go.Proofs.Ytfcplmageokdiaf
