import Derived.Test.YtfcplmageokdiafMarkBase
namespace Go.Proofs.Ytfcplmageokdiaf
open Go.RowKit

set_option maxHeartbeats 1000000 in
theorem heldInt64S_any (g n cap : Nat) (k0 : Int) (w : World) (hc : ∀ j, j < n → w.cell? ⟨g, j, none⟩ = some (.int .i64 (k0 + (j : Nat)))) (h0 : 0 ≤ k0) (h1 : k0 ≤ 1000000000000) (hn1 : n ≤ 10000000) :
    Calls Try.prog 40 #[.slice (some ⟨g, 0, none⟩) n cap, .int .i64 k0] w fun e w' => e = .returned (.int .i64 (k0 + ((n : Nat) : Int))) ∧ w' = w := by
  have HC : Hid (∀ j, j < n → w.cell? ⟨g, j, none⟩ = some (.int .i64 (k0 + (j : Nat)))) := hc
  clear hc
  go_enter Try.func40, Try.ntmps40
  go_wp2_with fail
  go_loop [1, 5] (fun kk t => ∃ k : Nat, k ≤ n ∧ t = .int .i64 k ∧ kk = .int .i64 (k0 + ((k : Nat) : Int))) (fun _ t => n - (intOf t).toNat)
  case atStart => exact ⟨0, Nat.zero_le _, rfl, by simp⟩
  case round =>
    obtain ⟨k, hk, rfl, rfl⟩ := hrel
    obtain ⟨K, HK⟩ : ∃ t, Hid (k0 + ((k : Nat) : Int) = t) := ⟨_, rfl⟩
    have hkb : 0 ≤ K ∧ K ≤ 1000100000000 := by
      have := HK.out
      omega
    rw [HK.out]
    by_cases hlt : k < n
    · have HK1 : Hid (k0 + (((k + 1) : Nat) : Int) = K + 1) := by
        show _ = _
        have := HK.out
        omega
      have y0 := HC.out (k) (by omega)
      rw [show k0 + (((k : Nat)) : Int) = K by have := HK.out; omega] at y0
      go_wp2
      go_round
      case rel => exact ⟨k + 1, by omega, by go_num, by first | (rw [HK1.out]; go_num) | rw [HK1.out]⟩
      case measure => simp [intOf]; omega
    · have hkl : k = n := by omega
      subst hkl
      go_wp2
      go_ret
      exact ⟨ret_int HK.out.symm, rfl⟩

set_option maxHeartbeats 400000 in
theorem heldInt64S_nil (a : Option Addr) (cap : Nat) (k0 : Int) (w : World) :
    Calls Try.prog 40 #[.slice a 0 cap, .int .i64 k0] w fun e w' => e = .returned (.int .i64 k0) ∧ w' = w := by
  go_enter Try.func40, Try.ntmps40
  go_wp2_with fail
  go_loop [1, 5] (fun kk t => t = .int .i64 0 ∧ kk = .int .i64 k0) (fun _ _ => 0)
  case atStart => exact ⟨rfl, rfl⟩
  case round =>
    obtain ⟨rfl, rfl⟩ := hrel
    go_wp2
    go_ret
    exact ⟨rfl, rfl⟩

end Go.Proofs.Ytfcplmageokdiaf
