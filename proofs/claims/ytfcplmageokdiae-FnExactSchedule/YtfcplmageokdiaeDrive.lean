import Derived.Test.YtfcplmageokdiaePlainRoute
import Derived.Test.YtfcplmageokdiaeL1Time
namespace Go.Proofs.Ytfcplmageokdiae
open Go.RowKit

theorem l1Time_I (n x y : Int) (a : Option Addr) (cap : Nat) (zs : List Int) (w : World) (hm : matB n zs = true) (hx : 0 ≤ x ∧ x < n) (hy : 0 ≤ y ∧ y < n) (hA : IntsAt w a zs) :
    Calls Try.prog 46 #[.agg #[.int .i64 n, .slice a zs.length cap], .int .i64 x, .int .i64 y] w fun e w' => e = .returned (.int .i64 (tmI n zs x y)) ∧ Below w.heap.size w w' := by
  obtain ⟨h1, h2, h3, _⟩ := matB_true hm
  obtain ⟨N, rfl⟩ : ∃ N : Nat, n = N := ⟨n.toNat, by omega⟩
  obtain ⟨X, rfl⟩ : ∃ X : Nat, x = X := ⟨x.toNat, by omega⟩
  obtain ⟨Y, rfl⟩ : ∃ Y : Nat, y = Y := ⟨y.toNat, by omega⟩
  have hl : zs.length = N * N := by rw [← Int.natCast_mul] at h3; omega
  exact l1Time_any N X Y a zs.length cap zs w (by omega) (by omega) (by omega) hl hl hA

set_option maxHeartbeats 400000 in
theorem drive_nat (n x y : Nat) (v0 v1 v2 v3 v4 : Int) (a ar : Option Addr) (len cap kr cr : Nat) (zs : List Int) (w : World) (hn : n ≤ 16) (hx : x < n) (hy : y < n) (hl : zs.length = n * n) (hlen : len = n * n) (hA : IntsAt w a zs) :
    Calls Try.prog 64 #[.agg #[.int .i64 n, .slice a len cap, .int .i64 v0, .int .i64 v1, .int .i64 v2, .int .i64 v3, .int .i64 v4, .slice ar kr cr], .int .i64 x, .int .i64 y] w fun e w' => e = .returned (.int .i64 (zs.getD (x * n + y) 0)) ∧ Below w.heap.size w w' := by
  subst hlen
  have hnn : n * n ≤ 256 := mul_bd n n hn hn
  have hxy : x * n + y < n * n := by
    have := Nat.mul_le_mul_right n (show x + 1 ≤ n by omega)
    rw [Nat.add_mul] at this
    omega
  obtain ⟨bb, off, rfl, hcs⟩ := hA.some (j := x * n + y) (by omega)
  have ct := hcs (x * n + y) (by omega)
  have hlt := block_lt_of_cell ct
  clear hcs hA
  generalize zs.getD (x * n + y) 0 = t at ct
  have hwm : wrap64 ((x : Int) * (n : Int)) = (x : Int) * (n : Int) := IntWalk.wrap64_in _ (by rw [← Int.natCast_mul]; omega)
  simp at hlt
  clear hl
  go_enter Try.func64, Try.ntmps64
  go_wp2
  go_ret
  exact ⟨rfl, (Below.refl _ _).alloc (Nat.le_refl _) _⟩

theorem drive_I (n x y : Int) (v0 v1 v2 v3 v4 : Int) (a ar : Option Addr) (cap kr cr : Nat) (zs : List Int) (w : World) (hm : matB n zs = true) (hx : 0 ≤ x ∧ x < n) (hy : 0 ≤ y ∧ y < n) (hA : IntsAt w a zs) :
    Calls Try.prog 64 #[.agg #[.int .i64 n, .slice a zs.length cap, .int .i64 v0, .int .i64 v1, .int .i64 v2, .int .i64 v3, .int .i64 v4, .slice ar kr cr], .int .i64 x, .int .i64 y] w fun e w' => e = .returned (.int .i64 (tmI n zs x y)) ∧ Below w.heap.size w w' := by
  obtain ⟨h1, h2, h3, _⟩ := matB_true hm
  obtain ⟨N, rfl⟩ : ∃ N : Nat, n = N := ⟨n.toNat, by omega⟩
  obtain ⟨X, rfl⟩ : ∃ X : Nat, x = X := ⟨x.toNat, by omega⟩
  obtain ⟨Y, rfl⟩ : ∃ Y : Nat, y = Y := ⟨y.toNat, by omega⟩
  have hl : zs.length = N * N := by rw [← Int.natCast_mul] at h3; omega
  exact drive_nat N X Y _ _ _ _ _ a ar zs.length cap kr cr zs w (by omega) (by omega) (by omega) hl hl hA

end Go.Proofs.Ytfcplmageokdiae
