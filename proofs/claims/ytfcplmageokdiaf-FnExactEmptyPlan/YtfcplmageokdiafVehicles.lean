import Derived.Test.YtfcplmageokdiafPlainFill
import Derived.Test.YtfcplmageokdiafBase
import Derived.Test.YtfcplmageokdiafKin
namespace Go.Proofs.Ytfcplmageokdiaf
open Go.RowKit

set_option maxHeartbeats 400000 in
theorem szVehicle_any (a : Option Addr) (len cap : Nat) (left : Int) (w : World) (h0 : 0 ≤ left) (h1 : left ≤ 1048576) (hlen : len ≤ 9223372036854775807) :
    Calls Try.prog 23 #[.slice a len cap, .int .i64 left] w fun e w' => e = .returned (.int .i64 (if left < len then -1 else left - len)) ∧ w' = w := by
  by_cases hlt : left < len
  · rw [if_pos hlt]
    go_enter Try.func23, Try.ntmps23
    go_wp2
    go_ret
    exact ⟨by simp, rfl⟩
  · rw [if_neg hlt]
    go_enter Try.func23, Try.ntmps23
    go_wp2
    go_ret
    exact ⟨by simp, rfl⟩

set_option maxHeartbeats 400000 in
theorem toVehicle_any (o0 o1 o2 o3 o4 : Int) (w : World) :
    Calls Try.prog 59 #[.agg #[.int .i64 o0, .int .i64 o1, .int .i64 o2, .int .i64 o3, .int .i64 o4]] w fun e w' => e = .returned (.agg #[.int .i64 o0, .int .i64 o1, .int .i64 o2, .int .i64 o3, .int .i64 o4]) ∧ Below w.heap.size w w' := by
  go_enter Try.func59, Try.ntmps59
  go_wp2
  refine bodyPost_ret (v := .agg #[.int .i64 o0, .int .i64 o1, .int .i64 o2, .int .i64 o3, .int .i64 o4]) (by simp [results, Try.results59, go_sem]) rfl ⟨rfl, ?_⟩
  exact (((Below.refl _ _).alloc (Nat.le_refl _) _).alloc (by simp) _).alloc (by simp <;> omega) _

theorem Try.infoVehicle : (Try.prog.info? 92).map (fun i => (i.zero, i.size, i.bytes)) = some (some (.agg #[Value.int IntKind.i64 0, Value.int IntKind.i64 0, Value.int IntKind.i64 0, Value.int IntKind.i64 0, Value.int IntKind.i64 0]), 5, 40) := by kernel_rfl

theorem made_veh (n : Nat) : madeCells (Value.agg #[Value.int IntKind.i64 0, Value.int IntKind.i64 0, Value.int IntKind.i64 0, Value.int IntKind.i64 0, Value.int IntKind.i64 0]).cells (n * 5) = cellsOf (List.replicate (n * 5) 0) := by
  apply Array.ext
  · simp [madeCells, cellsOf]
  · intro i h1 h2
    have hm : i % 5 < 5 := Nat.mod_lt _ (by omega)
    simp only [madeCells, cellsOf, Value.cells, Array.getElem_map, Array.getElem_range, List.map_replicate, List.getElem_toArray, List.getElem_replicate]
    generalize i % 5 = j at hm
    have : j = 0 ∨ j = 1 ∨ j = 2 ∨ j = 3 ∨ j = 4 := by omega
    rcases this with rfl | rfl | rfl | rfl | rfl <;> rfl

theorem make_veh (W : World) (len : Nat) (hlen : len ≤ 1048576) :
    (Instr.makeSlice 37 (.int .i64 len) (.int .i64 len)).run Try.prog W = .ok (.slice (some ⟨W.heap.size, 0, none⟩) len len) (W.alloc (.cells (cellsOf (List.replicate (len * 5) 0)) 92)) := by
  have h := Try.infoVehicle
  cases hq : Try.prog.info? 92 with
  | none => simp [hq] at h
  | some i =>
    simp [hq] at h
    obtain ⟨hz, hs, hb⟩ := h
    have := run_make (P := Try.prog) W 37 92 i (.agg #[Value.int IntKind.i64 0, Value.int IntKind.i64 0, Value.int IntKind.i64 0, Value.int IntKind.i64 0, Value.int IntKind.i64 0]) Try.underlying37 hq hz .i64 .i64 len len (by omega) (by omega) (by rw [hb]; omega) (by omega)
    rw [this, hs]
    simp only [Int.toNat_natCast, made_veh]

set_option maxHeartbeats 1000000 in
theorem toVehicleS_any (a : Option Addr) (n cap : Nat) (zs : List Int) (w : World) (hA : IntsAt w a zs) (hl : zs.length = n * 5) (hlen : n ≤ 1048576) :
    Calls Try.prog 27 #[.slice a n cap] w fun e w' => e = .returned (.slice (some ⟨w.heap.size, 0, none⟩) n n) ∧ Below w.heap.size w w' ∧ w'.heap[w.heap.size]? = some (.cells (cellsOf zs) 92 (0, 0)) := by
  have HA : Hid (IntsAt w a zs) := hA
  have HL : Hid (zs.length = n * 5) := hl
  clear hA hl
  have hmk := fun W => make_veh W n hlen
  go_enter Try.func27, Try.ntmps27
  go_wp2_with fail
  clear hmk
  go_loopw [4] (fun t wr => ∃ k : Nat, k ≤ n ∧ t = .int .i64 k ∧ Below w.heap.size w wr ∧ wr.heap[w.heap.size]? = some (.cells (cellsOf (fillTo (n * 5) zs (k * 5))) 92 (0, 0))) (fun t _ => n - (intOf t).toNat)
  case atStart =>
    refine ⟨0, Nat.zero_le _, rfl, (Below.refl _ _).alloc (Nat.le_refl _) _, ?_⟩
    rw [Nat.zero_mul, fillTo_zero]
    exact heap_alloc_new w _
  case round =>
    obtain ⟨k, hk, rfl, hb, hg⟩ := hrel
    by_cases hlt : k < n
    · obtain ⟨b, off, rfl, hcs⟩ := IntsAt.some (IntsAt.below HA.out hb) (j := k * 5) (by rw [HL.out]; omega)
      obtain ⟨r0, r1, r2, r3, r4⟩ := row5_at hcs HL.out k hlt
      clear hcs
      obtain ⟨o0, H0⟩ : ∃ t, Hid (og5 zs k 0 = t) := ⟨_, rfl⟩
      obtain ⟨o1, H1⟩ : ∃ t, Hid (og5 zs k 1 = t) := ⟨_, rfl⟩
      obtain ⟨o2, H2⟩ : ∃ t, Hid (og5 zs k 2 = t) := ⟨_, rfl⟩
      obtain ⟨o3, H3⟩ : ∃ t, Hid (og5 zs k 3 = t) := ⟨_, rfl⟩
      obtain ⟨o4, H4⟩ : ∃ t, Hid (og5 zs k 4 = t) := ⟨_, rfl⟩
      rw [H0.out] at r0
      rw [H1.out] at r1
      rw [H2.out] at r2
      rw [H3.out] at r3
      rw [H4.out] at r4
      have HG : Hid _ := hg
      have HB : Hid _ := hb
      clear hg hb
      go_wp2_with fail
      refine (toVehicle_any _ _ _ _ _ _).mono ?_
      rintro e w2 ⟨rfl, hb2⟩
      obtain ⟨B2, g2⟩ := box_more hb2 HB.out HG.out
      have HB2 : Hid _ := B2
      have x0 := cell_of_row _ _ (k * 5) _ _ _ g2
      rw [cellsOf_get _ _ (by rw [fillTo_length]; omega)] at x0
      have y0 := frozen_of_row _ _ (k * 5) _ _ g2
      have x1 := cell_of_row _ _ (k * 5 + 1) _ _ _ g2
      rw [cellsOf_get _ _ (by rw [fillTo_length]; omega)] at x1
      have y1 := frozen_of_row _ _ (k * 5 + 1) _ _ g2
      have x2 := cell_of_row _ _ (k * 5 + 2) _ _ _ g2
      rw [cellsOf_get _ _ (by rw [fillTo_length]; omega)] at x2
      have y2 := frozen_of_row _ _ (k * 5 + 2) _ _ g2
      have x3 := cell_of_row _ _ (k * 5 + 3) _ _ _ g2
      rw [cellsOf_get _ _ (by rw [fillTo_length]; omega)] at x3
      have y3 := frozen_of_row _ _ (k * 5 + 3) _ _ g2
      have x4 := cell_of_row _ _ (k * 5 + 4) _ _ _ g2
      rw [cellsOf_get _ _ (by rw [fillTo_length]; omega)] at x4
      have y4 := frozen_of_row _ _ (k * 5 + 4) _ _ g2
      have HG2 : Hid _ := g2
      clear hb2 g2 B2
      go_wp2
      have q0 := row_fill HG2.out H0.out
      have q1 := row_fill q0 H1.out
      have q2 := row_fill q1 H2.out
      have q3 := row_fill q2 H3.out
      have q4 := row_fill q3 H4.out
      refine ⟨⟨k + 1, by omega, by go_num, (((((HB2.out.setCell (Nat.le_refl _) _).setCell (Nat.le_refl _) _).setCell (Nat.le_refl _) _).setCell (Nat.le_refl _) _).setCell (Nat.le_refl _) _), ?_⟩, by simp [intOf]; omega⟩
      rw [show (k + 1) * 5 = k * 5 + 1 + 1 + 1 + 1 + 1 by omega]
      exact q4
    · have hkz : k = n := by omega
      have HG : Hid (wr.heap[w.heap.size]? = some (.cells (cellsOf zs) 92 (0, 0))) := by
        show _ = _
        rw [hg, hkz, ← HL.out, fillTo_full]
      have HB : Hid _ := hb
      clear hg hkz hb
      go_wp2
      go_ret
      exact ⟨rfl, HB.out, HG.out⟩

set_option maxHeartbeats 400000 in
theorem eqVehicle_same (o0 o1 o2 o3 o4 : Int) (w : World) :
    Calls Try.prog 66 #[.agg #[.int .i64 o0, .int .i64 o1, .int .i64 o2, .int .i64 o3, .int .i64 o4], .agg #[.int .i64 o0, .int .i64 o1, .int .i64 o2, .int .i64 o3, .int .i64 o4]] w fun e w' => e = .returned (.bool true) ∧ Below w.heap.size w w' := by
  have n0 : (o0 != o0) = false := by simp
  have n1 : (o1 != o1) = false := by simp
  have n2 : (o2 != o2) = false := by simp
  have n3 : (o3 != o3) = false := by simp
  have n4 : (o4 != o4) = false := by simp
  go_enter Try.func66, Try.ntmps66
  go_wp2
  go_ret
  exact ⟨rfl, ((Below.refl _ _).alloc (Nat.le_refl _) _).alloc (by simp) _⟩

set_option maxHeartbeats 1000000 in
theorem eqVehicleS_same (a a2 : Option Addr) (n c1 c2 : Nat) (zs : List Int) (w : World) (hA : IntsAt w a zs) (hB : IntsAt w a2 zs) (hl : zs.length = n * 5) (hlen : n ≤ 9223372036854775807) :
    Calls Try.prog 33 #[.slice a n c1, .slice a2 n c2] w fun e w' => e = .returned (.bool true) ∧ Below w.heap.size w w' := by
  have HA : Hid (IntsAt w a zs) := hA
  have HA2 : Hid (IntsAt w a2 zs) := hB
  have HL : Hid (zs.length = n * 5) := hl
  have hnn : ((n : Int) != (n : Int)) = false := by simp
  clear hA hB hl
  go_enter Try.func33, Try.ntmps33
  go_wp2_with fail
  go_loopw [5] (fun t wr => ∃ k : Nat, k ≤ n ∧ t = .int .i64 k ∧ Below w.heap.size w wr) (fun t _ => n - (intOf t).toNat)
  case atStart => exact ⟨0, Nat.zero_le _, rfl, Below.refl _ _⟩
  case round =>
    obtain ⟨k, hk, rfl, hb⟩ := hrel
    have HB : Hid _ := hb
    by_cases hlt : k < n
    · obtain ⟨b, off, rfl, hcs⟩ := IntsAt.some (IntsAt.below HA.out hb) (j := k * 5) (by rw [HL.out]; omega)
      obtain ⟨r0, r1, r2, r3, r4⟩ := row5_at hcs HL.out k hlt
      obtain ⟨b2, off2, rfl, hcs2⟩ := IntsAt.some (IntsAt.below HA2.out hb) (j := k * 5) (by rw [HL.out]; omega)
      obtain ⟨p0, p1, p2, p3, p4⟩ := row5_at hcs2 HL.out k hlt
      clear hcs hcs2 hb
      obtain ⟨o0, H0⟩ : ∃ t, Hid (og5 zs k 0 = t) := ⟨_, rfl⟩
      obtain ⟨o1, H1⟩ : ∃ t, Hid (og5 zs k 1 = t) := ⟨_, rfl⟩
      obtain ⟨o2, H2⟩ : ∃ t, Hid (og5 zs k 2 = t) := ⟨_, rfl⟩
      obtain ⟨o3, H3⟩ : ∃ t, Hid (og5 zs k 3 = t) := ⟨_, rfl⟩
      obtain ⟨o4, H4⟩ : ∃ t, Hid (og5 zs k 4 = t) := ⟨_, rfl⟩
      rw [H0.out] at r0
      rw [H1.out] at r1
      rw [H2.out] at r2
      rw [H3.out] at r3
      rw [H4.out] at r4
      rw [H0.out] at p0
      rw [H1.out] at p1
      rw [H2.out] at p2
      rw [H3.out] at p3
      rw [H4.out] at p4
      have t0 := fun s : Kin wr => s.cell r0
      have u0 := fun s : Kin wr => s.cell p0
      have t1 := fun s : Kin wr => s.cell r1
      have u1 := fun s : Kin wr => s.cell p1
      have t2 := fun s : Kin wr => s.cell r2
      have u2 := fun s : Kin wr => s.cell p2
      have t3 := fun s : Kin wr => s.cell r3
      have u3 := fun s : Kin wr => s.cell p3
      have t4 := fun s : Kin wr => s.cell r4
      have u4 := fun s : Kin wr => s.cell p4
      have hkin := Kin.there wr
      go_wp2_with fail
      refine wp_region_kin (by kernel_rfl) (by kernel_rfl) ?_
      repeat (go_big_quiet_step ((go_at_call 66; exact Kin.call (eqVehicle_same _ _ _ _ _ _))))
      refine wpQuiet_nil ?_
      rintro _ ⟨s, rfl⟩
      have HS2 := HB.out.trans (s.below.mono HB.out.size)
      generalize s.w = w2 at *
      go_wp2
      refine ⟨⟨k + 1, by omega, by go_num, HS2⟩, by simp [intOf]; omega⟩
    · go_wp2
      go_ret
      exact ⟨rfl, HB.out⟩

end Go.Proofs.Ytfcplmageokdiaf
