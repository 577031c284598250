import Derived.Test.YtimieikdngoppaaPack0
import Derived.Test.YtimieikdngoppaaRows
import Derived.WalkKit
import Derived.WalkSpells
import Derived.WalkLawsBesides
import Derived.Deep.QuietTactic
import Derived.BigQuiet
import Derived.Deep.RegionWith
import Derived.Deep.RegionHeld3
import Derived.Deep.WholeRow
namespace Go.Proofs.Ytimieikdngoppaa
end Go.Proofs.Ytimieikdngoppaa

namespace Go.Proofs.Ytimieikdngoppaa
open Go.RowKit

set_option maxHeartbeats 400000 in
theorem l1In_any (n lo hi : Int) (w : World) :
    Calls Try.prog 22 #[.int .i64 n, .int .i64 lo, .int .i64 hi] w fun e w' => e = .returned (.bool (inB n lo hi)) ∧ w' = w := by
  by_cases h1 : lo ≤ n
  · by_cases h2 : n ≤ hi
    · have h3 : inB n lo hi = true := inB_mk ⟨h1, h2⟩
      rw [h3]
      go_enter Try.func22, Try.ntmps22
      go_wp2
      go_ret
      exact ⟨by simp, rfl⟩
    · have h3 : inB n lo hi = false := inB_not (by omega)
      rw [h3]
      go_enter Try.func22, Try.ntmps22
      go_wp2
      go_ret
      exact ⟨by simp, rfl⟩
  · have h3 : inB n lo hi = false := inB_not (by omega)
    rw [h3]
    go_enter Try.func22, Try.ntmps22
    go_wp2
    go_ret
    exact ⟨by simp, rfl⟩

end Go.Proofs.Ytimieikdngoppaa

namespace Go.Proofs.Ytimieikdngoppaa
open Go.RowKit

theorem wrap_rand {s : Int} (h1 : 0 ≤ s) (h2 : s ≤ 2147483647) : wrap64 (s * 1103515245) = s * 1103515245 ∧ wrap64 (s * 1103515245 + 12345) = s * 1103515245 + 12345 := by
  unfold wrap64; omega

set_option maxHeartbeats 400000 in
theorem specRand_any (s : Int) (w : World) :
    Calls Try.prog 12 #[.int .i64 s] w fun e w' => e = .returned (.int .i64 (randV s)) ∧ w' = w := by
  obtain ⟨r, HR⟩ : ∃ r, Hid (randV s = r) := ⟨_, rfl⟩
  rw [HR.out]
  cases hin : inB s 0 2147483647
  · have HV : Hid (r = 0) := HR.out.symm.trans (randV_no hin)
    go_enter Try.func12, Try.ntmps12
    go_wp2_with (go_at_call 22; refine (l1In_any _ _ _ _).mono ?_; rintro e w' ⟨rfl, rfl⟩)
    go_ret
    exact ⟨ret_int HV.out.symm, rfl⟩
  · have hb := inB_true hin
    have HV : Hid (r = (s * 1103515245 + 12345) % 2147483648) := HR.out.symm.trans (randV_yes hin)
    obtain ⟨m1, m2⟩ := wrap_rand hb.1 hb.2
    go_enter Try.func12, Try.ntmps12
    go_wp2_with (go_at_call 22; refine (l1In_any _ _ _ _).mono ?_; rintro e w' ⟨rfl, rfl⟩)
    go_ret
    exact ⟨ret_int HV.out.symm, rfl⟩

end Go.Proofs.Ytimieikdngoppaa

namespace Go.Proofs.Ytimieikdngoppaa
open Go.RowKit

set_option maxHeartbeats 400000 in
theorem within_any (n lo hi : Int) (w : World) :
    Calls Try.prog 25 #[.int .i64 n, .int .i64 lo, .int .i64 hi] w fun e w' => e = .returned (.bool (inB n lo hi)) ∧ w' = w := by
  by_cases h1 : lo ≤ n
  · by_cases h2 : n ≤ hi
    · have h3 : inB n lo hi = true := inB_mk ⟨h1, h2⟩
      rw [h3]
      go_enter Try.func25, Try.ntmps25
      go_wp2
      go_ret
      exact ⟨by simp, rfl⟩
    · have h3 : inB n lo hi = false := inB_not (by omega)
      rw [h3]
      go_enter Try.func25, Try.ntmps25
      go_wp2
      go_ret
      exact ⟨by simp, rfl⟩
  · have h3 : inB n lo hi = false := inB_not (by omega)
    rw [h3]
    go_enter Try.func25, Try.ntmps25
    go_wp2
    go_ret
    exact ⟨by simp, rfl⟩

end Go.Proofs.Ytimieikdngoppaa

namespace Go.Proofs.Ytimieikdngoppaa
open Go.RowKit

set_option maxHeartbeats 400000 in
theorem isSeed_any (n : Int) (w : World) :
    Calls Try.prog 23 #[.int .i64 n] w fun e w' => e = .returned (.bool (inB n 0 2147483647)) ∧ w' = w := by
  go_enter Try.func23, Try.ntmps23
  go_wp2_with (go_at_call 25; refine (within_any _ _ _ _).mono ?_; rintro e w' ⟨rfl, rfl⟩)
  go_ret
  exact ⟨rfl, rfl⟩

set_option maxHeartbeats 400000 in
theorem implRand_any (s : Int) (w : World) :
    Calls Try.prog 13 #[.int .i64 s] w fun e w' => e = .returned (.int .i64 (randV s)) ∧ w' = w := by
  obtain ⟨r, HR⟩ : ∃ r, Hid (randV s = r) := ⟨_, rfl⟩
  rw [HR.out]
  cases hin : inB s 0 2147483647
  · have HV : Hid (r = 0) := HR.out.symm.trans (randV_no hin)
    go_enter Try.func13, Try.ntmps13
    go_wp2_with (go_at_call 23; refine (isSeed_any _ _).mono ?_; rintro e w' ⟨rfl, rfl⟩)
    go_ret
    exact ⟨ret_int HV.out.symm, rfl⟩
  · have hb := inB_true hin
    have HV : Hid (r = (s * 1103515245 + 12345) % 2147483648) := HR.out.symm.trans (randV_yes hin)
    obtain ⟨m1, m2⟩ := wrap_rand hb.1 hb.2
    go_enter Try.func13, Try.ntmps13
    go_wp2_with (go_at_call 23; refine (isSeed_any _ _).mono ?_; rintro e w' ⟨rfl, rfl⟩)
    go_ret
    exact ⟨ret_int HV.out.symm, rfl⟩

end Go.Proofs.Ytimieikdngoppaa

namespace Go.Proofs.Ytimieikdngoppaa
open Go.RowKit

set_option maxHeartbeats 400000 in
theorem lawNextRand (n : Int) (w : World) :
    Calls Try.prog 4 #[.int .i64 n] w fun e w' => e = .returned (.bool true) ∧ Below w.heap.size w w' := by
  obtain ⟨r, HR⟩ : ∃ r, Hid (randV n = r) := ⟨_, rfl⟩
  have hrr : (r != r) = false := by simp
  go_enter Try.func4, Try.ntmps4
  go_wp2_with (first
    | (go_at_call 12; refine (specRand_any _ _).mono ?_; rintro e w' ⟨rfl, rfl⟩; rw [HR.out])
    | (go_at_call 13; refine (implRand_any _ _).mono ?_; rintro e w' ⟨rfl, rfl⟩; rw [HR.out]))
  go_ret
  exact ⟨rfl, Below.refl _ _⟩

end Go.Proofs.Ytimieikdngoppaa
