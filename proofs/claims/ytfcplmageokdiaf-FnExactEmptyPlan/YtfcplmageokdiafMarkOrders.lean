import Derived.Test.YtfcplmageokdiafMarkBase
namespace Go.Proofs.Ytfcplmageokdiaf
open Go.RowKit

set_option maxHeartbeats 1000000 in
theorem markOrderS_any (g n cap : Nat) (k0 : Int) (cur : Array Value) (T : TypeId) (w : World) (hrow0 : w.heap[g]? = some (.cells cur T (0, 0))) (hn : n * 6 ≤ cur.size) (h0 : 0 ≤ k0) (h1 : k0 ≤ 1000000000000) (hn1 : n ≤ 10000000) :
    Calls Try.prog 35 #[.slice (some ⟨g, 0, none⟩) n cap, .int .i64 k0] w fun e w' => e = .returned (.int .i64 (k0 + ((n * 6 : Nat) : Int))) ∧ w.grownBy w' (some g) ∧ w'.heap[g]? = some (.cells (markA cur k0 (n * 6)) T (0, 0)) := by
  have HR0 : Hid (w.heap[g]? = some (.cells cur T (0, 0))) := hrow0
  clear hrow0
  go_enter Try.func35, Try.ntmps35
  go_wp2_with fail
  go_loopw [1, 5] (fun kk t wr => ∃ k : Nat, k ≤ n ∧ t = .int .i64 k ∧ kk = .int .i64 (k0 + ((k * 6 : Nat) : Int)) ∧ w.grownBy wr (some g) ∧ wr.heap[g]? = some (.cells (markA cur k0 (k * 6)) T (0, 0))) (fun _ t _ => n - (intOf t).toNat)
  case atStart => exact ⟨0, Nat.zero_le _, rfl, by simp, grown_refl _ _, HR0.out⟩
  case round =>
    obtain ⟨k, hk, rfl, rfl, hg, hrow⟩ := hrel
    have HG : Hid (w.grownBy wr (some g)) := hg
    clear hg
    obtain ⟨K, HK⟩ : ∃ t, Hid (k0 + ((k * 6 : Nat) : Int) = t) := ⟨_, rfl⟩
    have hkb : 0 ≤ K ∧ K ≤ 1000100000000 := by
      have := HK.out
      omega
    rw [HK.out]
    by_cases hlt : k < n
    · have fz := fun i => frozen_of_row _ _ i _ _ hrow
      obtain ⟨z0, y0⟩ := row_some hrow (j := k * 6) (by rw [markA_size]; omega)
      obtain ⟨z1, y1⟩ := row_some hrow (j := k * 6 + 1) (by rw [markA_size]; omega)
      obtain ⟨z2, y2⟩ := row_some hrow (j := k * 6 + 2) (by rw [markA_size]; omega)
      obtain ⟨z3, y3⟩ := row_some hrow (j := k * 6 + 3) (by rw [markA_size]; omega)
      obtain ⟨z4, y4⟩ := row_some hrow (j := k * 6 + 4) (by rw [markA_size]; omega)
      obtain ⟨z5, y5⟩ := row_some hrow (j := k * 6 + 5) (by rw [markA_size]; omega)
      have HROW : Hid ((World.heap (World.setCell (World.setCell (World.setCell (World.setCell (World.setCell (World.setCell wr ⟨g, k * 6, none⟩ (Value.int IntKind.i64 K)) ⟨g, k * 6 + 1, none⟩ (Value.int IntKind.i64 (K + 1))) ⟨g, k * 6 + 2, none⟩ (Value.int IntKind.i64 (K + 1 + 1))) ⟨g, k * 6 + 3, none⟩ (Value.int IntKind.i64 (K + 1 + 1 + 1))) ⟨g, k * 6 + 4, none⟩ (Value.int IntKind.i64 (K + 1 + 1 + 1 + 1))) ⟨g, k * 6 + 5, none⟩ (Value.int IntKind.i64 (K + 1 + 1 + 1 + 1 + 1))))[g]? = some (.cells (markA cur k0 (((k + 1) * 6))) T (0, 0))) := by
        show _ = _
        rw [show (k + 1) * 6 = k * 6 + 1 + 1 + 1 + 1 + 1 + 1 by omega]
        exact (mark_step (mark_step (mark_step (mark_step (mark_step (mark_step hrow (by have := HK.out; omega)) (by have := HK.out; omega)) (by have := HK.out; omega)) (by have := HK.out; omega)) (by have := HK.out; omega)) (by have := HK.out; omega))
      have HGR : Hid (w.grownBy (World.setCell (World.setCell (World.setCell (World.setCell (World.setCell (World.setCell wr ⟨g, k * 6, none⟩ (Value.int IntKind.i64 K)) ⟨g, k * 6 + 1, none⟩ (Value.int IntKind.i64 (K + 1))) ⟨g, k * 6 + 2, none⟩ (Value.int IntKind.i64 (K + 1 + 1))) ⟨g, k * 6 + 3, none⟩ (Value.int IntKind.i64 (K + 1 + 1 + 1))) ⟨g, k * 6 + 4, none⟩ (Value.int IntKind.i64 (K + 1 + 1 + 1 + 1))) ⟨g, k * 6 + 5, none⟩ (Value.int IntKind.i64 (K + 1 + 1 + 1 + 1 + 1))) (some g)) := (grown_trans (grown_trans (grown_trans (grown_trans (grown_trans (grown_trans HG.out (grown_set _ _ _ _)) (grown_set _ _ _ _)) (grown_set _ _ _ _)) (grown_set _ _ _ _)) (grown_set _ _ _ _)) (grown_set _ _ _ _))
      have HK1 : Hid (k0 + ((((k + 1) * 6) : Nat) : Int) = K + 6) := by
        show _ = _
        have := HK.out
        omega
      clear hrow
      go_wp2
      go_roundw
      case rel => exact ⟨k + 1, by omega, by go_num, by first | (rw [HK1.out]; go_num) | rw [HK1.out], HGR.out, HROW.out⟩
      case measure => simp [intOf]; omega
    · have hkl : k = n := by omega
      subst hkl
      have HROW : Hid (wr.heap[g]? = _) := hrow
      clear hrow
      go_wp2
      go_ret
      exact ⟨ret_int HK.out.symm, HG.out, HROW.out⟩

set_option maxHeartbeats 400000 in
theorem markOrderS_nil (a : Option Addr) (cap : Nat) (k0 : Int) (w : World) :
    Calls Try.prog 35 #[.slice a 0 cap, .int .i64 k0] w fun e w' => e = .returned (.int .i64 k0) ∧ w' = w := by
  go_enter Try.func35, Try.ntmps35
  go_wp2_with fail
  go_loop [1, 5] (fun kk t => t = .int .i64 0 ∧ kk = .int .i64 k0) (fun _ _ => 0)
  case atStart => exact ⟨rfl, rfl⟩
  case round =>
    obtain ⟨rfl, rfl⟩ := hrel
    go_wp2
    go_ret
    exact ⟨rfl, rfl⟩

end Go.Proofs.Ytfcplmageokdiaf
