import Derived.Test.YtpmjkgdejcnmbaaPack0
import Derived.Test.YtpmjkgdejcnmbaaRows
import Derived.WalkKit
import Derived.WalkSpells
import Derived.WalkLawsBesides
import Derived.Deep.QuietTactic
import Derived.BigQuiet
import Derived.Deep.RegionWith
import Derived.Deep.RegionHeld3
import Derived.Deep.WholeRow
namespace Go.Proofs.Ytpmjkgdejcnmbaa
end Go.Proofs.Ytpmjkgdejcnmbaa

namespace Go.Proofs.Ytpmjkgdejcnmbaa
open Go.RowKit

set_option maxHeartbeats 400000 in
theorem l1In_any (n lo hi : Int) (w : World) :
    Calls Try.prog 28 #[.int .i64 n, .int .i64 lo, .int .i64 hi] w fun e w' => e = .returned (.bool (inB n lo hi)) ∧ w' = w := by
  by_cases h1 : lo ≤ n
  · by_cases h2 : n ≤ hi
    · have h3 : inB n lo hi = true := inB_mk ⟨h1, h2⟩
      rw [h3]
      go_enter Try.func28, Try.ntmps28
      go_wp2
      go_ret
      exact ⟨by simp, rfl⟩
    · have h3 : inB n lo hi = false := inB_not (by omega)
      rw [h3]
      go_enter Try.func28, Try.ntmps28
      go_wp2
      go_ret
      exact ⟨by simp, rfl⟩
  · have h3 : inB n lo hi = false := inB_not (by omega)
    rw [h3]
    go_enter Try.func28, Try.ntmps28
    go_wp2
    go_ret
    exact ⟨by simp, rfl⟩

end Go.Proofs.Ytpmjkgdejcnmbaa

namespace Go.Proofs.Ytpmjkgdejcnmbaa
open Go.RowKit

theorem wrap_small {v : Int} (h1 : 0 ≤ v) (h2 : v ≤ 1000000) : wrap64 v = v := by unfold wrap64; omega

set_option maxHeartbeats 400000 in
theorem specCount_any (n : Int) (w : World) :
    Calls Try.prog 9 #[.int .i64 n] w fun e w' => e = .returned (.int .i64 (countV n)) ∧ w' = w := by
  obtain ⟨r, HR⟩ : ∃ r, Hid (countV n = r) := ⟨_, rfl⟩
  rw [HR.out]
  cases hin : inB n 0 6
  · have HV : Hid (r = -1) := HR.out.symm.trans (countV_no hin)
    go_enter Try.func9, Try.ntmps9
    go_wp2_with (go_at_call 28; refine (l1In_any _ _ _ _).mono ?_; rintro e w' ⟨rfl, rfl⟩)
    go_ret
    exact ⟨ret_int HV.out.symm, rfl⟩
  · have hb := inB_true hin
    obtain ⟨n, rfl⟩ := Int.eq_ofNat_of_zero_le hb.1
    have hn : n ≤ 6 := by omega
    have HV : Hid (r = fac n) := HR.out.symm.trans (countV_yes hn)
    clear hb
    go_enter Try.func9, Try.ntmps9
    go_wp2_with (go_at_call 28; refine (l1In_any _ _ _ _).mono ?_; rintro e w' ⟨rfl, rfl⟩)
    clear hin
    go_loop [3, 4] (fun sm t => ∃ k : Nat, 1 ≤ k ∧ (k = 1 ∨ k ≤ n) ∧ t = .int .i64 ((k : Int) + 1) ∧ sm = .int .i64 (fac k)) (fun _ t => 8 - (intOf t).toNat)
    case atStart => exact ⟨1, by omega, Or.inl rfl, rfl, rfl⟩
    case round =>
      obtain ⟨k, hk1, hk, rfl, rfl⟩ := hrel
      by_cases hlt : k + 1 ≤ n
      · obtain ⟨h1, h2, h3, h4, h5⟩ := fac_step (k := k) (by omega)
        obtain ⟨f0, H0⟩ : ∃ f, Hid (fac k = f) := ⟨_, rfl⟩
        obtain ⟨f1, H1⟩ : ∃ f, Hid (fac (k + 1) = f) := ⟨_, rfl⟩
        rw [H0.out] at h1 h2 h3 ⊢
        rw [H1.out] at h3 h4 h5
        have hm : wrap64 (f0 * ((k : Int) + 1)) = f1 := by rw [h3]; unfold wrap64; omega
        clear h3
        go_wp2
        refine ⟨⟨k + 1, by omega, by omega, by go_num, by rw [H1.out, hm]⟩, by simp [intOf]; omega⟩
      · have HF : Hid (fac k = fac n) := by
          show _ = _
          by_cases e : k = n
          · rw [e]
          · have : k = 1 ∧ n = 0 := by omega
            obtain ⟨rfl, rfl⟩ := this
            rfl
        rw [HF.out]
        obtain ⟨f0, H0⟩ : ∃ f, Hid (fac n = f) := ⟨_, rfl⟩
        rw [H0.out] at HV ⊢
        go_wp2
        go_ret
        exact ⟨ret_int HV.out.symm, rfl⟩

end Go.Proofs.Ytpmjkgdejcnmbaa

namespace Go.Proofs.Ytpmjkgdejcnmbaa
open Go.RowKit

set_option maxHeartbeats 400000 in
theorem within_any (n lo hi : Int) (w : World) :
    Calls Try.prog 29 #[.int .i64 n, .int .i64 lo, .int .i64 hi] w fun e w' => e = .returned (.bool (inB n lo hi)) ∧ w' = w := by
  by_cases h1 : lo ≤ n
  · by_cases h2 : n ≤ hi
    · have h3 : inB n lo hi = true := inB_mk ⟨h1, h2⟩
      rw [h3]
      go_enter Try.func29, Try.ntmps29
      go_wp2
      go_ret
      exact ⟨by simp, rfl⟩
    · have h3 : inB n lo hi = false := inB_not (by omega)
      rw [h3]
      go_enter Try.func29, Try.ntmps29
      go_wp2
      go_ret
      exact ⟨by simp, rfl⟩
  · have h3 : inB n lo hi = false := inB_not (by omega)
    rw [h3]
    go_enter Try.func29, Try.ntmps29
    go_wp2
    go_ret
    exact ⟨by simp, rfl⟩

end Go.Proofs.Ytpmjkgdejcnmbaa

namespace Go.Proofs.Ytpmjkgdejcnmbaa
open Go.RowKit

set_option maxHeartbeats 400000 in
theorem implCount_any (n : Int) (w : World) :
    Calls Try.prog 10 #[.int .i64 n] w fun e w' => e = .returned (.int .i64 (countV n)) ∧ w' = w := by
  obtain ⟨r, HR⟩ : ∃ r, Hid (countV n = r) := ⟨_, rfl⟩
  rw [HR.out]
  cases hin : inB n 0 6
  · have HV : Hid (r = -1) := HR.out.symm.trans (countV_no hin)
    go_enter Try.func10, Try.ntmps10
    go_wp2_with (go_at_call 29; refine (within_any _ _ _ _).mono ?_; rintro e w' ⟨rfl, rfl⟩)
    go_ret
    exact ⟨ret_int HV.out.symm, rfl⟩
  · have hb := inB_true hin
    obtain ⟨n, rfl⟩ := Int.eq_ofNat_of_zero_le hb.1
    have hn : n ≤ 6 := by omega
    have HV : Hid (r = fac n) := HR.out.symm.trans (countV_yes hn)
    clear hb
    go_enter Try.func10, Try.ntmps10
    go_wp2_with (go_at_call 29; refine (within_any _ _ _ _).mono ?_; rintro e w' ⟨rfl, rfl⟩)
    clear hin
    go_loop [3, 9] (fun sm t => ∃ k : Nat, k ≤ n ∧ t = .int .i64 k ∧ sm = .int .i64 (fac k)) (fun _ t => n - (intOf t).toNat)
    case atStart => exact ⟨0, by omega, rfl, rfl⟩
    case round =>
      obtain ⟨k, hk, rfl, rfl⟩ := hrel
      by_cases hlt : k < n
      · obtain ⟨h1, h2, h3, h4, h5⟩ := fac_step (k := k) (by omega)
        obtain ⟨f0, H0⟩ : ∃ f, Hid (fac k = f) := ⟨_, rfl⟩
        obtain ⟨f1, H1⟩ : ∃ f, Hid (fac (k + 1) = f) := ⟨_, rfl⟩
        rw [H0.out] at h1 h2 h3 ⊢
        rw [H1.out] at h3 h4 h5
        have hm : wrap64 (f0 * ((k : Int) + 1)) = f1 := by rw [h3]; unfold wrap64; omega
        clear h3
        go_wp2
        refine ⟨⟨k + 1, by omega, by go_num, by rw [H1.out, hm]⟩, by simp [intOf]; omega⟩
      · have hkn : k = n := by omega
        rw [hkn]
        obtain ⟨f0, H0⟩ : ∃ f, Hid (fac n = f) := ⟨_, rfl⟩
        rw [H0.out] at HV ⊢
        clear hkn
        go_wp2
        go_ret
        exact ⟨ret_int HV.out.symm, rfl⟩

end Go.Proofs.Ytpmjkgdejcnmbaa

namespace Go.Proofs.Ytpmjkgdejcnmbaa
open Go.RowKit

set_option maxHeartbeats 400000 in
theorem lawCount (n : Int) (w : World) :
    Calls Try.prog 3 #[.int .i64 n] w fun e w' => e = .returned (.bool true) ∧ Below w.heap.size w w' := by
  obtain ⟨r, HR⟩ : ∃ r, Hid (countV n = r) := ⟨_, rfl⟩
  have hrr : (r != r) = false := by simp
  go_enter Try.func3, Try.ntmps3
  go_wp2_with (first
    | (go_at_call 9; refine (specCount_any _ _).mono ?_; rintro e w' ⟨rfl, rfl⟩; rw [HR.out])
    | (go_at_call 10; refine (implCount_any _ _).mono ?_; rintro e w' ⟨rfl, rfl⟩; rw [HR.out]))
  go_ret
  exact ⟨rfl, Below.refl _ _⟩

end Go.Proofs.Ytpmjkgdejcnmbaa
