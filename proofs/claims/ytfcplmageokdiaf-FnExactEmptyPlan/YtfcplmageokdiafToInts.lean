import Derived.Test.YtfcplmageokdiafBase
namespace Go.Proofs.Ytfcplmageokdiaf
open Go.RowKit

theorem Try.info2 : (Try.prog.info? 2).map (fun i => (i.zero, i.size, i.bytes)) = some (some (.int .i64 0), 1, 8) := by kernel_rfl

theorem make_ints (W : World) (len : Nat) (hlen : len ≤ 1048576) :
    (Instr.makeSlice 22 (.int .i64 len) (.int .i64 len)).run Try.prog W = .ok (.slice (some ⟨W.heap.size, 0, none⟩) len len) (W.alloc (.cells (cellsOf (List.replicate len 0)) 2)) := by
  have h := Try.info2
  cases hq : Try.prog.info? 2 with
  | none => simp [hq] at h
  | some i =>
    simp [hq] at h
    obtain ⟨hz, hs, hb⟩ := h
    have := run_make (P := Try.prog) W 22 2 i (.int .i64 0) Try.underlying22 hq hz .i64 .i64 len len (by omega) (by omega) (by rw [hb]; omega) (by omega)
    rw [this, hs]
    simp only [Int.toNat_natCast, made_zero]

set_option maxHeartbeats 400000 in
theorem toInts_any (a : Option Addr) (cap : Nat) (zs : List Int) (w : World) (hA : IntsAt w a zs) (hlen : zs.length ≤ 1048576) :
    Calls Try.prog 46 #[.slice a zs.length cap] w fun e w' => e = .returned (.slice (some ⟨w.heap.size, 0, none⟩) zs.length zs.length) ∧ Below w.heap.size w w' ∧ w'.heap.size = w.heap.size + 1 ∧ w'.heap[w.heap.size]? = some (.cells (cellsOf zs) 2 (0, 0)) := by
  have HA : Hid (IntsAt w a zs) := hA
  clear hA
  have hmk := fun W => make_ints W zs.length hlen
  go_enter Try.func46, Try.ntmps46
  go_wp2_with fail
  clear hmk
  go_loopw [4] (fun t wr => ∃ k : Nat, k ≤ zs.length ∧ t = .int .i64 k ∧ Below w.heap.size w wr ∧ wr.heap.size = w.heap.size + 1 ∧ wr.heap[w.heap.size]? = some (.cells (cellsOf (zs.take k ++ List.replicate (zs.length - k) 0)) 2 (0, 0))) (fun t _ => zs.length - (intOf t).toNat)
  case atStart =>
    refine ⟨0, Nat.zero_le _, rfl, (Below.refl _ _).alloc (Nat.le_refl _) _, by simp, ?_⟩
    simpa using heap_alloc_new w _
  case round =>
    obtain ⟨k, hk, rfl, hb, hsz, hg⟩ := hrel
    by_cases hlt : k < zs.length
    · obtain ⟨bb, off, rfl, hcs⟩ := IntsAt.some (IntsAt.below HA.out hb) hlt
      have ct := hcs k hlt
      clear hcs
      generalize htt : zs.getD k 0 = t at ct
      have HT : Hid (zs.getD k 0 = t) := htt
      clear htt
      have cg := cell_of_row _ _ k _ _ _ hg
      rw [cellsOf_get _ _ (by simp; omega)] at cg
      have fg := frozen_of_row _ _ k _ _ hg
      have HG : Hid _ := hg
      have HZ : Hid _ := hsz
      have HB : Hid _ := hb
      clear hg hsz hb
      go_wp2
      refine ⟨⟨k + 1, by omega, by go_num, HB.out.setCell (Nat.le_refl _) _, ?_, ?_⟩, by simp [intOf]; omega⟩
      · have := HZ.out
        simpa [World.setCell] using this
      · rw [heap_setCell_same _ _ _ _ _ _ HG.out, cellsOf_set, ← HT.out, copy_step zs k hlt]
    · have hkz : k = zs.length := by omega
      have HG : Hid (wr.heap[w.heap.size]? = some (.cells (cellsOf zs) 2 (0, 0))) := by
        show _ = _
        rw [hg, hkz]; simp
      have HZ : Hid _ := hsz
      clear hg hsz hkz
      go_wp2
      go_ret
      exact ⟨rfl, hb, HZ.out, HG.out⟩

end Go.Proofs.Ytfcplmageokdiaf
