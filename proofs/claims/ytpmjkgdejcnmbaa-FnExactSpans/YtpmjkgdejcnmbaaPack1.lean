import Derived.Test.YtpmjkgdejcnmbaaPack0
import Derived.Test.YtpmjkgdejcnmbaaRows
import Derived.WalkKit
import Derived.WalkSpells
import Derived.WalkLawsBesides
import Derived.Deep.QuietTactic
import Derived.BigQuiet
import Derived.Deep.RegionWith
import Derived.Deep.RegionHeld3
import Derived.Deep.WholeRow
namespace Go.Proofs.Ytpmjkgdejcnmbaa
end Go.Proofs.Ytpmjkgdejcnmbaa

namespace Go.Proofs.Ytpmjkgdejcnmbaa
open Go.RowKit

/-- The worlds in which all that was there is as it was. -/
def Kin (wr : World) : Type := { x : World // Below wr.heap.size wr x }
/-- One of them, as a world. -/
def Kin.w {wr : World} (s : Kin wr) : World := s.1
theorem Kin.there (wr : World) : Nonempty (Kin wr) := ⟨⟨wr, Below.refl _ _⟩⟩
theorem Kin.below {wr : World} (s : Kin wr) : Below wr.heap.size wr s.w := s.2
theorem Kin.cell {wr : World} (s : Kin wr) {b o : Nat} {v : Value} (h : wr.cell? ⟨b, o, none⟩ = some v) : s.w.cell? ⟨b, o, none⟩ = some v := by
  rw [s.below.cell (p := ⟨b, o, none⟩) (block_lt_of_cell h)]; exact h

/-- A region that draws its order, whose operations read and whose callees leave what was there: one walk, in the text's order. -/
theorem wp_region_kin {P : Program} {id : Nat} {Q : Exit → Act → World → Prop} {a : Act} {w : World} {l : List Oper} (hm : P.follows .mixedOrders = true) (hB : Region.lexB .any l.toArray = true)
    (h : wpQuiet P l.toArray (fun w' => ∃ s : Kin w, w' = s.w) (fun a' => ∀ w', (∃ s : Kin w, w' = s.w) → Q .normal a' w') l a) : (Code.region id l.toArray true).wp P Q a w :=
  wp_region_quiet (C := fun w' => ∃ s : Kin w, w' = s.w) hm hB ⟨⟨_, (Below.refl _ _).drew⟩, rfl⟩ (by simpa using h)

theorem Kin.call {P : Program} {f : FuncId} {args : Array Value} {wr : World} {s : Kin wr} {v : Value}
    (h : Calls P f args s.w fun e w' => e = .returned v ∧ Below s.w.heap.size s.w w') : Calls P f args s.w fun e w'' => e = .returned v ∧ ∃ s' : Kin wr, w'' = s'.w :=
  h.mono fun _ w' ⟨he, hb⟩ => ⟨he, ⟨w', s.below.trans (hb.mono s.below.size)⟩, rfl⟩
theorem Kin.call_same {P : Program} {f : FuncId} {args : Array Value} {wr : World} {s : Kin wr} {v : Value}
    (h : Calls P f args s.w fun e w' => e = .returned v ∧ w' = s.w) : Calls P f args s.w fun e w'' => e = .returned v ∧ ∃ s' : Kin wr, w'' = s'.w :=
  h.mono fun _ _ ⟨he, hb⟩ => ⟨he, s, hb⟩

end Go.Proofs.Ytpmjkgdejcnmbaa

namespace Go.Proofs.Ytpmjkgdejcnmbaa
open Go.RowKit

set_option maxHeartbeats 400000 in
theorem szEdge_any (a : Option Addr) (len cap : Nat) (left : Int) (w : World) (h0 : 0 ≤ left) (h1 : left ≤ 1048576) (hlen : len ≤ 9223372036854775807) :
    Calls Try.prog 21 #[.slice a len cap, .int .i64 left] w fun e w' => e = .returned (.int .i64 (if left < len then -1 else left - len)) ∧ w' = w := by
  by_cases hlt : left < len
  · rw [if_pos hlt]
    go_enter Try.func21, Try.ntmps21
    go_wp2
    go_ret
    exact ⟨by simp, rfl⟩
  · rw [if_neg hlt]
    go_enter Try.func21, Try.ntmps21
    go_wp2
    go_ret
    exact ⟨by simp, rfl⟩

set_option maxHeartbeats 400000 in
theorem toEdge_any (o0 o1 o2 : Int) (w : World) :
    Calls Try.prog 39 #[.agg #[.int .i64 o0, .int .i64 o1, .int .i64 o2]] w fun e w' => e = .returned (.agg #[.int .i64 o0, .int .i64 o1, .int .i64 o2]) ∧ Below w.heap.size w w' := by
  go_enter Try.func39, Try.ntmps39
  go_wp2
  refine bodyPost_ret (v := .agg #[.int .i64 o0, .int .i64 o1, .int .i64 o2]) (by simp [results, Try.results39, go_sem]) rfl ⟨rfl, ?_⟩
  exact (((Below.refl _ _).alloc (Nat.le_refl _) _).alloc (by simp) _).alloc (by simp <;> omega) _

theorem Try.infoEdge : (Try.prog.info? 58).map (fun i => (i.zero, i.size, i.bytes)) = some (some (.agg #[Value.int IntKind.i64 0, Value.int IntKind.i64 0, Value.int IntKind.i64 0]), 3, 24) := by kernel_rfl

theorem made_edge (n : Nat) : madeCells (Value.agg #[Value.int IntKind.i64 0, Value.int IntKind.i64 0, Value.int IntKind.i64 0]).cells (n * 3) = cellsOf (List.replicate (n * 3) 0) := by
  apply Array.ext
  · simp [madeCells, cellsOf]
  · intro i h1 h2
    have hm : i % 3 < 3 := Nat.mod_lt _ (by omega)
    simp only [madeCells, cellsOf, Value.cells, Array.getElem_map, Array.getElem_range, List.map_replicate, List.getElem_toArray, List.getElem_replicate]
    generalize i % 3 = j at hm
    have : j = 0 ∨ j = 1 ∨ j = 2 := by omega
    rcases this with rfl | rfl | rfl <;> rfl

theorem make_edge (W : World) (len : Nat) (hlen : len ≤ 1048576) :
    (Instr.makeSlice 39 (.int .i64 len) (.int .i64 len)).run Try.prog W = .ok (.slice (some ⟨W.heap.size, 0, none⟩) len len) (W.alloc (.cells (cellsOf (List.replicate (len * 3) 0)) 58)) := by
  have h := Try.infoEdge
  cases hq : Try.prog.info? 58 with
  | none => simp [hq] at h
  | some i =>
    simp [hq] at h
    obtain ⟨hz, hs, hb⟩ := h
    have := run_make (P := Try.prog) W 39 58 i (.agg #[Value.int IntKind.i64 0, Value.int IntKind.i64 0, Value.int IntKind.i64 0]) Try.underlying39 hq hz .i64 .i64 len len (by omega) (by omega) (by rw [hb]; omega) (by omega)
    rw [this, hs]
    simp only [Int.toNat_natCast, made_edge]

set_option maxHeartbeats 1000000 in
theorem toEdgeS_any (a : Option Addr) (n cap : Nat) (zs : List Int) (w : World) (hA : IntsAt w a zs) (hl : zs.length = n * 3) (hlen : n ≤ 1048576) :
    Calls Try.prog 23 #[.slice a n cap] w fun e w' => e = .returned (.slice (some ⟨w.heap.size, 0, none⟩) n n) ∧ Below w.heap.size w w' ∧ w'.heap[w.heap.size]? = some (.cells (cellsOf zs) 58 (0, 0)) := by
  have HA : Hid (IntsAt w a zs) := hA
  have HL : Hid (zs.length = n * 3) := hl
  clear hA hl
  have hmk := fun W => make_edge W n hlen
  go_enter Try.func23, Try.ntmps23
  go_wp2_with fail
  clear hmk
  go_loopw [4] (fun t wr => ∃ k : Nat, k ≤ n ∧ t = .int .i64 k ∧ Below w.heap.size w wr ∧ wr.heap[w.heap.size]? = some (.cells (cellsOf (fillTo (n * 3) zs (k * 3))) 58 (0, 0))) (fun t _ => n - (intOf t).toNat)
  case atStart =>
    refine ⟨0, Nat.zero_le _, rfl, (Below.refl _ _).alloc (Nat.le_refl _) _, ?_⟩
    rw [Nat.zero_mul, fillTo_zero]
    exact heap_alloc_new w _
  case round =>
    obtain ⟨k, hk, rfl, hb, hg⟩ := hrel
    by_cases hlt : k < n
    · obtain ⟨b, off, rfl, hcs⟩ := IntsAt.some (IntsAt.below HA.out hb) (j := k * 3) (by rw [HL.out]; omega)
      obtain ⟨r0, r1, r2⟩ := row3_at hcs HL.out k hlt
      clear hcs
      obtain ⟨o0, H0⟩ : ∃ t, Hid (og3 zs k 0 = t) := ⟨_, rfl⟩
      obtain ⟨o1, H1⟩ : ∃ t, Hid (og3 zs k 1 = t) := ⟨_, rfl⟩
      obtain ⟨o2, H2⟩ : ∃ t, Hid (og3 zs k 2 = t) := ⟨_, rfl⟩
      rw [H0.out] at r0
      rw [H1.out] at r1
      rw [H2.out] at r2
      have HG : Hid _ := hg
      have HB : Hid _ := hb
      clear hg hb
      go_wp2_with fail
      refine (toEdge_any _ _ _ _).mono ?_
      rintro e w2 ⟨rfl, hb2⟩
      obtain ⟨B2, g2⟩ := box_more hb2 HB.out HG.out
      have HB2 : Hid _ := B2
      have x0 := cell_of_row _ _ (k * 3) _ _ _ g2
      rw [cellsOf_get _ _ (by rw [fillTo_length]; omega)] at x0
      have y0 := frozen_of_row _ _ (k * 3) _ _ g2
      have x1 := cell_of_row _ _ (k * 3 + 1) _ _ _ g2
      rw [cellsOf_get _ _ (by rw [fillTo_length]; omega)] at x1
      have y1 := frozen_of_row _ _ (k * 3 + 1) _ _ g2
      have x2 := cell_of_row _ _ (k * 3 + 2) _ _ _ g2
      rw [cellsOf_get _ _ (by rw [fillTo_length]; omega)] at x2
      have y2 := frozen_of_row _ _ (k * 3 + 2) _ _ g2
      have HG2 : Hid _ := g2
      clear hb2 g2 B2
      go_wp2
      have q0 := row_fill HG2.out H0.out
      have q1 := row_fill q0 H1.out
      have q2 := row_fill q1 H2.out
      refine ⟨⟨k + 1, by omega, by go_num, (((HB2.out.setCell (Nat.le_refl _) _).setCell (Nat.le_refl _) _).setCell (Nat.le_refl _) _), ?_⟩, by simp [intOf]; omega⟩
      rw [show (k + 1) * 3 = k * 3 + 1 + 1 + 1 by omega]
      exact q2
    · have hkz : k = n := by omega
      have HG : Hid (wr.heap[w.heap.size]? = some (.cells (cellsOf zs) 58 (0, 0))) := by
        show _ = _
        rw [hg, hkz, ← HL.out, fillTo_full]
      have HB : Hid _ := hb
      clear hg hkz hb
      go_wp2
      go_ret
      exact ⟨rfl, HB.out, HG.out⟩

set_option maxHeartbeats 400000 in
theorem eqEdge_same (o0 o1 o2 : Int) (w : World) :
    Calls Try.prog 40 #[.agg #[.int .i64 o0, .int .i64 o1, .int .i64 o2], .agg #[.int .i64 o0, .int .i64 o1, .int .i64 o2]] w fun e w' => e = .returned (.bool true) ∧ Below w.heap.size w w' := by
  have n0 : (o0 != o0) = false := by simp
  have n1 : (o1 != o1) = false := by simp
  have n2 : (o2 != o2) = false := by simp
  go_enter Try.func40, Try.ntmps40
  go_wp2
  go_ret
  exact ⟨rfl, ((Below.refl _ _).alloc (Nat.le_refl _) _).alloc (by simp) _⟩

set_option maxHeartbeats 1000000 in
theorem eqEdgeS_same (a a2 : Option Addr) (n c1 c2 : Nat) (zs : List Int) (w : World) (hA : IntsAt w a zs) (hB : IntsAt w a2 zs) (hl : zs.length = n * 3) (hlen : n ≤ 9223372036854775807) :
    Calls Try.prog 25 #[.slice a n c1, .slice a2 n c2] w fun e w' => e = .returned (.bool true) ∧ Below w.heap.size w w' := by
  have HA : Hid (IntsAt w a zs) := hA
  have HA2 : Hid (IntsAt w a2 zs) := hB
  have HL : Hid (zs.length = n * 3) := hl
  have hnn : ((n : Int) != (n : Int)) = false := by simp
  clear hA hB hl
  go_enter Try.func25, Try.ntmps25
  go_wp2_with fail
  go_loopw [5] (fun t wr => ∃ k : Nat, k ≤ n ∧ t = .int .i64 k ∧ Below w.heap.size w wr) (fun t _ => n - (intOf t).toNat)
  case atStart => exact ⟨0, Nat.zero_le _, rfl, Below.refl _ _⟩
  case round =>
    obtain ⟨k, hk, rfl, hb⟩ := hrel
    have HB : Hid _ := hb
    by_cases hlt : k < n
    · obtain ⟨b, off, rfl, hcs⟩ := IntsAt.some (IntsAt.below HA.out hb) (j := k * 3) (by rw [HL.out]; omega)
      obtain ⟨r0, r1, r2⟩ := row3_at hcs HL.out k hlt
      obtain ⟨b2, off2, rfl, hcs2⟩ := IntsAt.some (IntsAt.below HA2.out hb) (j := k * 3) (by rw [HL.out]; omega)
      obtain ⟨p0, p1, p2⟩ := row3_at hcs2 HL.out k hlt
      clear hcs hcs2 hb
      obtain ⟨o0, H0⟩ : ∃ t, Hid (og3 zs k 0 = t) := ⟨_, rfl⟩
      obtain ⟨o1, H1⟩ : ∃ t, Hid (og3 zs k 1 = t) := ⟨_, rfl⟩
      obtain ⟨o2, H2⟩ : ∃ t, Hid (og3 zs k 2 = t) := ⟨_, rfl⟩
      rw [H0.out] at r0
      rw [H1.out] at r1
      rw [H2.out] at r2
      rw [H0.out] at p0
      rw [H1.out] at p1
      rw [H2.out] at p2
      have t0 := fun s : Kin wr => s.cell r0
      have u0 := fun s : Kin wr => s.cell p0
      have t1 := fun s : Kin wr => s.cell r1
      have u1 := fun s : Kin wr => s.cell p1
      have t2 := fun s : Kin wr => s.cell r2
      have u2 := fun s : Kin wr => s.cell p2
      have hkin := Kin.there wr
      go_wp2_with fail
      refine wp_region_kin (by kernel_rfl) (by kernel_rfl) ?_
      repeat (go_big_quiet_step ((go_at_call 40; exact Kin.call (eqEdge_same _ _ _ _))))
      refine wpQuiet_nil ?_
      rintro _ ⟨s, rfl⟩
      have HS2 := HB.out.trans (s.below.mono HB.out.size)
      generalize s.w = w2 at *
      go_wp2
      refine ⟨⟨k + 1, by omega, by go_num, HS2⟩, by simp [intOf]; omega⟩
    · go_wp2
      go_ret
      exact ⟨rfl, HB.out⟩

end Go.Proofs.Ytpmjkgdejcnmbaa

namespace Go.Proofs.Ytpmjkgdejcnmbaa
open Go.RowKit

theorem Try.info2 : (Try.prog.info? 2).map (fun i => (i.zero, i.size, i.bytes)) = some (some (.int .i64 0), 1, 8) := by kernel_rfl

theorem make_ints (W : World) (len : Nat) (hlen : len ≤ 1048576) :
    (Instr.makeSlice 24 (.int .i64 len) (.int .i64 len)).run Try.prog W = .ok (.slice (some ⟨W.heap.size, 0, none⟩) len len) (W.alloc (.cells (cellsOf (List.replicate len 0)) 2)) := by
  have h := Try.info2
  cases hq : Try.prog.info? 2 with
  | none => simp [hq] at h
  | some i =>
    simp [hq] at h
    obtain ⟨hz, hs, hb⟩ := h
    have := run_make (P := Try.prog) W 24 2 i (.int .i64 0) Try.underlying24 hq hz .i64 .i64 len len (by omega) (by omega) (by rw [hb]; omega) (by omega)
    rw [this, hs]
    simp only [Int.toNat_natCast, made_zero]

set_option maxHeartbeats 400000 in
theorem toInts_any (a : Option Addr) (cap : Nat) (zs : List Int) (w : World) (hA : IntsAt w a zs) (hlen : zs.length ≤ 1048576) :
    Calls Try.prog 12 #[.slice a zs.length cap] w fun e w' => e = .returned (.slice (some ⟨w.heap.size, 0, none⟩) zs.length zs.length) ∧ Below w.heap.size w w' ∧ w'.heap.size = w.heap.size + 1 ∧ w'.heap[w.heap.size]? = some (.cells (cellsOf zs) 2 (0, 0)) := by
  have HA : Hid (IntsAt w a zs) := hA
  clear hA
  have hmk := fun W => make_ints W zs.length hlen
  go_enter Try.func12, Try.ntmps12
  go_wp2_with fail
  clear hmk
  go_loopw [4] (fun t wr => ∃ k : Nat, k ≤ zs.length ∧ t = .int .i64 k ∧ Below w.heap.size w wr ∧ wr.heap.size = w.heap.size + 1 ∧ wr.heap[w.heap.size]? = some (.cells (cellsOf (zs.take k ++ List.replicate (zs.length - k) 0)) 2 (0, 0))) (fun t _ => zs.length - (intOf t).toNat)
  case atStart =>
    refine ⟨0, Nat.zero_le _, rfl, (Below.refl _ _).alloc (Nat.le_refl _) _, by simp, ?_⟩
    simpa using heap_alloc_new w _
  case round =>
    obtain ⟨k, hk, rfl, hb, hsz, hg⟩ := hrel
    by_cases hlt : k < zs.length
    · obtain ⟨bb, off, rfl, hcs⟩ := IntsAt.some (IntsAt.below HA.out hb) hlt
      have ct := hcs k hlt
      clear hcs
      generalize htt : zs.getD k 0 = t at ct
      have HT : Hid (zs.getD k 0 = t) := htt
      clear htt
      have cg := cell_of_row _ _ k _ _ _ hg
      rw [cellsOf_get _ _ (by simp; omega)] at cg
      have fg := frozen_of_row _ _ k _ _ hg
      have HG : Hid _ := hg
      have HZ : Hid _ := hsz
      have HB : Hid _ := hb
      clear hg hsz hb
      go_wp2
      refine ⟨⟨k + 1, by omega, by go_num, HB.out.setCell (Nat.le_refl _) _, ?_, ?_⟩, by simp [intOf]; omega⟩
      · have := HZ.out
        simpa [World.setCell] using this
      · rw [heap_setCell_same _ _ _ _ _ _ HG.out, cellsOf_set, ← HT.out, copy_step zs k hlt]
    · have hkz : k = zs.length := by omega
      have HG : Hid (wr.heap[w.heap.size]? = some (.cells (cellsOf zs) 2 (0, 0))) := by
        show _ = _
        rw [hg, hkz]; simp
      have HZ : Hid _ := hsz
      clear hg hsz hkz
      go_wp2
      go_ret
      exact ⟨rfl, hb, HZ.out, HG.out⟩

end Go.Proofs.Ytpmjkgdejcnmbaa

namespace Go.Proofs.Ytpmjkgdejcnmbaa
open Go.RowKit

set_option maxHeartbeats 400000 in
theorem l1In_any (n lo hi : Int) (w : World) :
    Calls Try.prog 28 #[.int .i64 n, .int .i64 lo, .int .i64 hi] w fun e w' => e = .returned (.bool (inB n lo hi)) ∧ w' = w := by
  by_cases h1 : lo ≤ n
  · by_cases h2 : n ≤ hi
    · have h3 : inB n lo hi = true := inB_mk ⟨h1, h2⟩
      rw [h3]
      go_enter Try.func28, Try.ntmps28
      go_wp2
      go_ret
      exact ⟨by simp, rfl⟩
    · have h3 : inB n lo hi = false := inB_not (by omega)
      rw [h3]
      go_enter Try.func28, Try.ntmps28
      go_wp2
      go_ret
      exact ⟨by simp, rfl⟩
  · have h3 : inB n lo hi = false := inB_not (by omega)
    rw [h3]
    go_enter Try.func28, Try.ntmps28
    go_wp2
    go_ret
    exact ⟨by simp, rfl⟩

end Go.Proofs.Ytpmjkgdejcnmbaa

namespace Go.Proofs.Ytpmjkgdejcnmbaa
open Go.RowKit

theorem noTo_step {zs : List Int} {id : Int} {k : Nat} (h : ∀ j, j < k → zs.getD j 0 ≠ id) (hk : zs.getD k 0 ≠ id) : ∀ j, j < k + 1 → zs.getD j 0 ≠ id := by
  intro j hj
  by_cases e : j = k
  · rw [e]; exact hk
  · exact h j (by omega)

set_option maxHeartbeats 400000 in
theorem l3Has_any (a : Option Addr) (m cap : Nat) (id : Int) (zs : List Int) (w : World) (hA : IntsAt w a zs) (hm : m ≤ zs.length) (hlen : m ≤ 9223372036854775807) :
    Calls Try.prog 33 #[.slice a m cap, .int .i64 id] w fun e w' => e = .returned (.bool (hasTo zs m id)) ∧ w' = w := by
  have HA : Hid (IntsAt w a zs) := hA
  clear hA
  obtain ⟨r, HR⟩ : ∃ r, Hid (hasTo zs m id = r) := ⟨_, rfl⟩
  rw [HR.out]
  go_enter Try.func33, Try.ntmps33
  go_wp2_with fail
  go_loop [5] (fun t => ∃ k : Nat, k ≤ m ∧ t = .int .i64 k ∧ ∀ j, j < k → zs.getD j 0 ≠ id) (fun t => m - (intOf t).toNat)
  case atStart => exact ⟨0, Nat.zero_le _, rfl, fun j hj => by omega⟩
  case round =>
    obtain ⟨k, hk, rfl, hno⟩ := hrel
    have HN : Hid (∀ j, j < k → zs.getD j 0 ≠ id) := hno
    clear hno
    by_cases hlt : k < m
    · obtain ⟨b, off, rfl, hcs⟩ := IntsAt.some HA.out (j := k) (by omega)
      have ct := hcs k (by omega)
      clear hcs
      obtain ⟨t, HT⟩ : ∃ t, Hid (zs.getD k 0 = t) := ⟨_, rfl⟩
      rw [HT.out] at ct
      by_cases he : t = id
      · have heb : (t == id) = true := by simp [he]
        have HV : Hid (r = true) := HR.out.symm.trans (hasTo_yes hlt (HT.out.trans he))
        clear he
        go_wp2
        go_ret
        exact ⟨ret_bool HV.out.symm, rfl⟩
      · have heb : (t == id) = false := by simp [he]
        have HS : Hid (∀ j, j < k + 1 → zs.getD j 0 ≠ id) := noTo_step HN.out (by rw [HT.out]; exact he)
        clear he
        go_wp2
        exact ⟨⟨k + 1, by omega, by go_num, HS.out⟩, by simp [intOf]; omega⟩
    · have hkl : k = m := by omega
      have HV : Hid (r = false) := HR.out.symm.trans (hasTo_no (hkl ▸ HN.out))
      clear hkl
      go_wp2
      go_ret
      exact ⟨ret_bool HV.out.symm, rfl⟩

theorem l3Has_is (a : Option Addr) (m cap : Nat) (id : Int) (zs : List Int) (w : World) (v : Bool) (hv : hasTo zs m id = v) (hA : IntsAt w a zs) (hm : m ≤ zs.length) (hlen : m ≤ 9223372036854775807) :
    Calls Try.prog 33 #[.slice a m cap, .int .i64 id] w fun e w' => e = .returned (.bool v) ∧ w' = w := hv ▸ l3Has_any a m cap id zs w hA hm hlen

/-- The place that slices.Index tells. -/
def idxV (zs : List Int) (m : Nat) (id : Int) : Int := match (List.range m).find? (fun i => zs.getD i 0 == id) with
  | some i => i
  | none => -1
theorem idxV_at {zs : List Int} {m : Nat} {id : Int} {i : Nat} (hi : i < m) (h : zs.getD i 0 = id) (hno : ∀ j, j < i → zs.getD j 0 ≠ id) : idxV zs m id = i := by
  have : (List.range m).find? (fun i => zs.getD i 0 == id) = some i := by
    rw [List.find?_range_eq_some]
    exact ⟨by rw [h]; simp, by simpa using hi, fun j hj => by have := hno j hj; simpa using this⟩
  unfold idxV
  rw [this]
theorem idxV_none {zs : List Int} {m : Nat} {id : Int} (hno : ∀ j, j < m → zs.getD j 0 ≠ id) : idxV zs m id = -1 := by
  have : (List.range m).find? (fun i => zs.getD i 0 == id) = none := by
    rw [List.find?_eq_none]
    intro j hj
    have := hno j (by simpa using hj)
    simpa using this
  unfold idxV
  rw [this]
theorem idxV_has (zs : List Int) (m : Nat) (id : Int) : decide (0 ≤ idxV zs m id) = hasTo zs m id := by
  unfold idxV
  cases hf : (List.range m).find? (fun i => zs.getD i 0 == id) with
  | none =>
    rw [List.find?_eq_none] at hf
    rw [hasTo_no (fun j hj => by have := hf j (by simpa using hj); simpa using this)]
    rfl
  | some i =>
    rw [List.find?_range_eq_some] at hf
    rw [hasTo_yes (by simpa using hf.2.1) (by simpa using hf.1)]
    simp

set_option maxHeartbeats 400000 in
theorem index_any (a : Option Addr) (m cap : Nat) (id : Int) (zs : List Int) (w : World) (hA : IntsAt w a zs) (hm : m ≤ zs.length) (hlen : m ≤ 9223372036854775807) :
    Calls Try.prog 44 #[.slice a m cap, .int .i64 id] w fun e w' => e = .returned (.int .i64 (idxV zs m id)) ∧ w' = w := by
  have HA : Hid (IntsAt w a zs) := hA
  clear hA
  obtain ⟨r, HR⟩ : ∃ r, Hid (idxV zs m id = r) := ⟨_, rfl⟩
  rw [HR.out]
  go_enter Try.func44, Try.ntmps44
  go_wp2_with fail
  go_loop [8] (fun t => ∃ k : Nat, k ≤ m ∧ t = .int .i64 k ∧ ∀ j, j < k → zs.getD j 0 ≠ id) (fun t => m - (intOf t).toNat)
  case atStart => exact ⟨0, Nat.zero_le _, rfl, fun j hj => by omega⟩
  case round =>
    obtain ⟨k, hk, rfl, hno⟩ := hrel
    have HN : Hid (∀ j, j < k → zs.getD j 0 ≠ id) := hno
    clear hno
    by_cases hlt : k < m
    · obtain ⟨b, off, rfl, hcs⟩ := IntsAt.some HA.out (j := k) (by omega)
      have ct := hcs k (by omega)
      clear hcs
      obtain ⟨t, HT⟩ : ∃ t, Hid (zs.getD k 0 = t) := ⟨_, rfl⟩
      rw [HT.out] at ct
      by_cases he : id = t
      · have heb : (id == t) = true := by simp [he]
        have HV : Hid (r = k) := HR.out.symm.trans (idxV_at hlt (HT.out.trans he.symm) HN.out)
        clear he
        go_wp2
        go_ret
        exact ⟨ret_int HV.out.symm, rfl⟩
      · have heb : (id == t) = false := by simp [he]
        have HS : Hid (∀ j, j < k + 1 → zs.getD j 0 ≠ id) := noTo_step HN.out (by rw [HT.out]; exact fun x => he x.symm)
        clear he
        go_wp2
        exact ⟨⟨k + 1, by omega, by go_num, HS.out⟩, by simp [intOf]; omega⟩
    · have hkl : k = m := by omega
      have HV : Hid (r = -1) := HR.out.symm.trans (idxV_none (hkl ▸ HN.out))
      clear hkl
      go_wp2
      go_ret
      exact ⟨ret_int HV.out.symm, rfl⟩

set_option maxHeartbeats 400000 in
theorem contains_any (a : Option Addr) (m cap : Nat) (id : Int) (zs : List Int) (w : World) (hA : IntsAt w a zs) (hm : m ≤ zs.length) (hlen : m ≤ 9223372036854775807) :
    Calls Try.prog 43 #[.slice a m cap, .int .i64 id] w fun e w' => e = .returned (.bool (hasTo zs m id)) ∧ w' = w := by
  have HA : Hid (IntsAt w a zs) := hA
  clear hA
  rw [← idxV_has]
  obtain ⟨t, HT⟩ : ∃ t, Hid (idxV zs m id = t) := ⟨_, rfl⟩
  rw [HT.out]
  go_enter Try.func43, Try.ntmps43
  go_wp2_with fail
  refine (index_any a m cap id zs w HA.out hm hlen).mono ?_
  rintro e w1 ⟨rfl, rfl⟩
  rw [HT.out]
  go_wp2
  go_ret
  exact ⟨by simp, rfl⟩

end Go.Proofs.Ytpmjkgdejcnmbaa

namespace Go.Proofs.Ytpmjkgdejcnmbaa
open Go.RowKit

set_option maxHeartbeats 400000 in
theorem within_any (n lo hi : Int) (w : World) :
    Calls Try.prog 29 #[.int .i64 n, .int .i64 lo, .int .i64 hi] w fun e w' => e = .returned (.bool (inB n lo hi)) ∧ w' = w := by
  by_cases h1 : lo ≤ n
  · by_cases h2 : n ≤ hi
    · have h3 : inB n lo hi = true := inB_mk ⟨h1, h2⟩
      rw [h3]
      go_enter Try.func29, Try.ntmps29
      go_wp2
      go_ret
      exact ⟨by simp, rfl⟩
    · have h3 : inB n lo hi = false := inB_not (by omega)
      rw [h3]
      go_enter Try.func29, Try.ntmps29
      go_wp2
      go_ret
      exact ⟨by simp, rfl⟩
  · have h3 : inB n lo hi = false := inB_not (by omega)
    rw [h3]
    go_enter Try.func29, Try.ntmps29
    go_wp2
    go_ret
    exact ⟨by simp, rfl⟩

end Go.Proofs.Ytpmjkgdejcnmbaa

namespace Go.Proofs.Ytpmjkgdejcnmbaa
open Go.RowKit

def z16 : List Int := (List.range 16).map fun _ => 0
theorem Try.info16 : (Try.prog.info? 63).map (fun i => (i.zero, i.size)) = some (some (.agg (cellsOf z16)), 16) := by kernel_rfl
/-- The first k places, each a group of its own. -/
def ownL (k : Nat) : List Int := (List.range 16).map fun p => if p < k then (p : Int) else 0
theorem ownL_length (k : Nat) : (ownL k).length = 16 := by simp [ownL]
theorem ownL_zero : ownL 0 = z16 := by unfold ownL z16; apply List.map_congr_left; intro p _; rw [if_neg (by omega)]
theorem ownL_step {k : Nat} : (ownL k).set k (k : Int) = ownL (k + 1) := by
  apply List.ext_getElem
  · simp [ownL]
  · intro p h1 h2
    by_cases e : k = p
    · subst e
      simp only [ownL, List.getElem_set, List.getElem_map, List.getElem_range, if_true]
      rw [if_pos (by omega)]
    · simp only [ownL, List.getElem_set, List.getElem_map, List.getElem_range, if_neg e]
      by_cases c : p < k
      · rw [if_pos c, if_pos (by omega)]
      · rw [if_neg c, if_neg (by omega)]
/-- The groups behind k edges, those of the first j places behind one more. -/
def updL (n : Nat) (A B : Nat → Nat) (k j : Nat) : List Int := (List.range 16).map fun p => if p < n then (if p < j then ((grp A B (k + 1) p : Nat) : Int) else ((grp A B k p : Nat) : Int)) else 0
theorem updL_length (n : Nat) (A B : Nat → Nat) (k j : Nat) : (updL n A B k j).length = 16 := by simp [updL]
theorem updL_own (n : Nat) (A B : Nat → Nat) : updL n A B 0 0 = ownL n := by
  unfold updL ownL; apply List.map_congr_left; intro p _
  by_cases c : p < n
  · rw [if_pos c, if_pos c, if_neg (by omega)]; rfl
  · rw [if_neg c, if_neg c]
theorem updL_next (n : Nat) (A B : Nat → Nat) (k : Nat) : updL n A B k n = updL n A B (k + 1) 0 := by
  unfold updL; apply List.map_congr_left; intro p _
  by_cases c : p < n
  · rw [if_pos c, if_pos c, if_pos c, if_neg (by omega)]
  · rw [if_neg c, if_neg c]
theorem updL_at (n : Nat) (A B : Nat → Nat) (k j p : Nat) (hp : p < n) (hj : j ≤ p) (hn : n ≤ 16) : (updL n A B k j).getD p 0 = (grp A B k p : Nat) := by
  unfold updL
  rw [List.getD_eq_getElem?_getD, List.getElem?_map, List.getElem?_range (by omega)]
  simp only [Option.map_some, Option.getD_some]
  rw [if_pos hp, if_neg (by omega)]
theorem updL_same (n : Nat) (A B : Nat → Nat) (k j : Nat) (h : grp A B k j ≠ grp A B k (B k)) : updL n A B k (j + 1) = updL n A B k j := by
  unfold updL; apply List.map_congr_left; intro p _
  by_cases c : p < n
  · rw [if_pos c, if_pos c]
    by_cases e : p = j
    · subst e
      rw [if_pos (by omega), if_neg (by omega)]
      show ((if grp A B k p = grp A B k (B k) then grp A B k (A k) else grp A B k p : Nat) : Int) = _
      rw [if_neg h]
    · by_cases c2 : p < j
      · rw [if_pos c2, if_pos (by omega)]
      · rw [if_neg c2, if_neg (by omega)]
  · rw [if_neg c, if_neg c]
theorem updL_set (n : Nat) (A B : Nat → Nat) (k j : Nat) (hj : j < n) (h : grp A B k j = grp A B k (B k)) : (updL n A B k j).set j ((grp A B k (A k) : Nat) : Int) = updL n A B k (j + 1) := by
  apply List.ext_getElem
  · simp [updL]
  · intro p h1 h2
    by_cases e : j = p
    · subst e
      simp only [updL, List.getElem_set, List.getElem_map, List.getElem_range, if_true]
      rw [if_pos hj, if_pos (by omega)]
      show _ = ((if grp A B k j = grp A B k (B k) then grp A B k (A k) else grp A B k j : Nat) : Int)
      rw [if_pos h]
    · simp only [updL, List.getElem_set, List.getElem_map, List.getElem_range, if_neg e]
      by_cases c : p < n
      · rw [if_pos c, if_pos c]
        by_cases c2 : p < j
        · rw [if_pos c2, if_pos (by omega)]
        · rw [if_neg c2, if_neg (by omega)]
      · rw [if_neg c, if_neg c]
theorem upd_cell {W : World} {g n k j p : Nat} {A B : Nat → Nat} {T : TypeId} (hg : W.heap[g]? = some (.cells (cellsOf (updL n A B k j)) T (0, 0))) (hp : p < n) (hj : j ≤ p) (hn : n ≤ 16) :
    W.cell? ⟨g, p, none⟩ = some (.int .i64 (grp A B k p : Nat)) := by
  rw [cell_of_row _ _ _ _ _ _ hg, cellsOf_get _ _ (by rw [updL_length]; omega), updL_at n A B k j p hp hj hn]
theorem spanTo_step {n : Int} {es : List Int} {k : Nat} (h : spanTo n es k) (h1 : inB (og3 es k 0) 0 (n - 1) = true) (h2 : inB (og3 es k 1) 0 (n - 1) = true) (h3 : grp (endA es) (endB es) k (endA es k) ≠ grp (endA es) (endB es) k (endB es k)) : spanTo n es (k + 1) := by
  intro j hj
  by_cases e : j = k
  · rw [e]; exact ⟨h1, h2, h3⟩
  · exact h j (by omega)

set_option maxHeartbeats 400000 in
theorem implSpan_out (n : Int) (a : Option Addr) (m cap : Nat) (w : World) (h : ¬ (1 ≤ n ∧ n ≤ 16 ∧ (m : Int) = n - 1)) :
    Calls Try.prog 27 #[.int .i64 n, .slice a m cap] w fun e w' => e = .returned (.bool false) ∧ Below w.heap.size w w' := by
  by_cases hn : 1 ≤ n ∧ n ≤ 16
  · have hd1 : inB n 1 16 = true := inB_mk hn
    have hne : ((m : Int) != n - 1) = true := by rw [bne_iff_ne]; exact fun e => h ⟨hn.1, hn.2, e⟩
    clear h
    go_enter Try.func27, Try.ntmps27
    go_wp2_with (go_at_call 29; refine (within_any _ _ _ _).mono ?_; rintro e w' ⟨rfl, rfl⟩)
    go_ret
    exact ⟨rfl, Below.refl _ _⟩
  · have hd1 : inB n 1 16 = false := inB_not hn
    clear h hn
    go_enter Try.func27, Try.ntmps27
    go_wp2_with (go_at_call 29; refine (within_any _ _ _ _).mono ?_; rintro e w' ⟨rfl, rfl⟩)
    go_ret
    exact ⟨rfl, Below.refl _ _⟩

set_option maxHeartbeats 2000000 in
theorem implSpan_loop (n m : Nat) (a : Option Addr) (cap : Nat) (es : List Int) (w : World) (h1 : 1 ≤ n) (h2 : n ≤ 16) (hm : m + 1 = n) (hl : es.length = m * 3) (hA : IntsAt w a es) :
    Calls Try.prog 27 #[.int .i64 n, .slice a m cap] w fun e w' => e = .returned (.bool (spanB n es m)) ∧ Below w.heap.size w w' := by
  obtain ⟨r, HR⟩ : ∃ r, Hid (spanB n es m = r) := ⟨_, rfl⟩
  rw [HR.out]
  have hz := (zero_of_info Try.info16).1
  generalize hz0 : cellsOf z16 = z0 at hz
  have HZ : Hid (cellsOf z16 = z0) := hz0
  clear hz0
  have hd1 : inB (n : Int) 1 16 = true := inB_mk (by omega)
  have hne : ((m : Int) != (n : Int) - 1) = false := by rw [bne_eq_false_iff_eq]; omega
  have HA : Hid (IntsAt w a es) := hA
  have HL : Hid (es.length = m * 3) := hl
  clear hA hl
  go_enter Try.func27, Try.ntmps27
  go_wp2_with (go_at_call 29; refine (within_any _ _ _ _).mono ?_; rintro e w' ⟨rfl, hw'⟩; subst w')
  clear hne hd1 hz
  go_loopw [23] (fun t wr => ∃ k : Nat, k ≤ n ∧ t = .int .i64 k ∧ Below w.heap.size w wr ∧ wr.heap[w.heap.size]? = some (.cells (cellsOf (ownL k)) 63 (0, 0))) (fun t _ => n - (intOf t).toNat)
  case atStart =>
    refine ⟨0, Nat.zero_le _, rfl, (Below.refl _ _).alloc (Nat.le_refl _) _, ?_⟩
    rw [ownL_zero, HZ.out]
    exact heap_alloc_new _ _
  case round =>
    obtain ⟨k, hk, rfl, hb, hg⟩ := hrel
    have HB : Hid (Below w.heap.size w wr) := hb
    have HG : Hid (wr.heap[w.heap.size]? = some (.cells (cellsOf (ownL k)) 63 (0, 0))) := hg
    by_cases hlt : k < n
    · have cg := cell_of_row _ _ k _ _ _ hg
      rw [cellsOf_get _ _ (by rw [ownL_length]; omega)] at cg
      have fg := frozen_of_row _ _ k _ _ hg
      obtain ⟨c, HC⟩ : ∃ c, Hid ((ownL k).getD k 0 = c) := ⟨_, rfl⟩
      rw [HC.out] at cg
      clear hb hg
      go_wp2
      refine ⟨⟨k + 1, by omega, by go_num, HB.out.setCell (Nat.le_refl _) _, ?_⟩, by simp [intOf]; omega⟩
      rw [heap_setCell_same _ _ _ _ _ _ HG.out, cellsOf_set, ownL_step]
    · have hkn : k = n := by omega
      have HGn : Hid (wr.heap[w.heap.size]? = some (.cells (cellsOf (updL n (endA es) (endB es) 0 0)) 63 (0, 0))) := by
        show _ = _
        rw [updL_own, ← hkn]; exact HG.out
      clear hb hg hkn HG
      go_wp2_with fail
      go_loopw [32] (fun t wr => ∃ k : Nat, k ≤ m ∧ t = .int .i64 k ∧ spanTo n es k ∧ Below w.heap.size w wr ∧ wr.heap[w.heap.size]? = some (.cells (cellsOf (updL n (endA es) (endB es) k 0)) 63 (0, 0))) (fun t _ => m - (intOf t).toNat)
      case atStart => exact ⟨0, Nat.zero_le _, rfl, fun j hj => by omega, HB.out, HGn.out⟩
      case round =>
        clear HB HGn
        obtain ⟨k, hk, rfl, hsp, hb, hg⟩ := hrel
        have HB : Hid (Below w.heap.size w wr) := hb
        have HG : Hid (wr.heap[w.heap.size]? = some (.cells (cellsOf (updL n (endA es) (endB es) k 0)) 63 (0, 0))) := hg
        have HS : Hid (spanTo n es k) := hsp
        clear hb hg hsp
        by_cases hlt : k < m
        · obtain ⟨b, off, rfl, hcs⟩ := IntsAt.some (HA.out.below HB.out) (j := k * 3) (by rw [HL.out]; omega)
          obtain ⟨ca, cb, ct⟩ := row3_at hcs HL.out k hlt
          clear hcs
          have HEA : Hid (endA es k = (og3 es k 0).toNat) := rfl
          have HEB : Hid (endB es k = (og3 es k 1).toNat) := rfl
          have HBAD : Hid (¬ (inB (og3 es k 0) 0 ((n : Int) - 1) = true ∧ inB (og3 es k 1) 0 ((n : Int) - 1) = true ∧ grp (endA es) (endB es) k (endA es k) ≠ grp (endA es) (endB es) k (endB es k)) → r = false) := fun h => HR.out.symm.trans (spanB_bad hlt h)
          have HSTEP : Hid (inB (og3 es k 0) 0 ((n : Int) - 1) = true → inB (og3 es k 1) 0 ((n : Int) - 1) = true → grp (endA es) (endB es) k (endA es k) ≠ grp (endA es) (endB es) k (endB es k) → spanTo n es (k + 1)) := fun x y z => spanTo_step HS.out x y z
          obtain ⟨x, H0⟩ : ∃ t, Hid (og3 es k 0 = t) := ⟨_, rfl⟩
          obtain ⟨y, H1⟩ : ∃ t, Hid (og3 es k 1 = t) := ⟨_, rfl⟩
          obtain ⟨t, H2⟩ : ∃ t, Hid (og3 es k 2 = t) := ⟨_, rfl⟩
          rw [H0.out] at ca HEA HBAD HSTEP
          rw [H1.out] at cb HEB HBAD HSTEP
          rw [H2.out] at ct
          have HB1 : Hid (Below w.heap.size w (wr.alloc (Obj.cells #[Value.int IntKind.i64 x, Value.int IntKind.i64 y, Value.int IntKind.i64 t] 58))) := HB.out.alloc HB.out.size _
          have HG1 : Hid ((wr.alloc (Obj.cells #[Value.int IntKind.i64 x, Value.int IntKind.i64 y, Value.int IntKind.i64 t] 58)).heap[w.heap.size]? = some (.cells (cellsOf (updL n (endA es) (endB es) k 0)) 63 (0, 0))) := (heap_alloc_old _ _ (row_lt HG.out)).trans HG.out
          have HE1 : Hid ((wr.alloc (Obj.cells #[Value.int IntKind.i64 x, Value.int IntKind.i64 y, Value.int IntKind.i64 t] 58)).heap[wr.heap.size]? = some (.cells #[Value.int IntKind.i64 x, Value.int IntKind.i64 y, Value.int IntKind.i64 t] 58 (0, 0))) := heap_alloc_new _ _
          go_wp2_with fail
          clear ca cb ct HB HG
          generalize wr.alloc (Obj.cells #[Value.int IntKind.i64 x, Value.int IntKind.i64 y, Value.int IntKind.i64 t] 58) = W at *
          generalize wr.heap.size = eb at *
          obtain ⟨e0, e1, _⟩ := cells3 HE1.out
          have hwn : IntKind.i64.wrap ((n : Int) - 1) = (n : Int) - 1 := by rw [IntKind.wrap_i64]; omega
          cases hin : inB x 0 ((n : Int) - 1)
          · have HV : Hid (r = false) := HBAD.out (by rw [hin]; simp)
            have hin2 : inB x 0 (IntKind.i64.wrap ((n : Int) - 1)) = false := by rw [hwn]; exact hin
            clear hwn
            go_quiet ((go_at_call 29; exact Calls.quiet_of_same (within_any _ _ _ _)))
            go_wp2
            go_ret
            exact ⟨ret_bool HV.out.symm, below_drewN HB1.out _⟩
          · cases hiny : inB y 0 ((n : Int) - 1)
            · have HV : Hid (r = false) := HBAD.out (by rw [hiny]; simp)
              have hin2 : inB x 0 (IntKind.i64.wrap ((n : Int) - 1)) = true := by rw [hwn]; exact hin
              have hin3 : inB y 0 (IntKind.i64.wrap ((n : Int) - 1)) = false := by rw [hwn]; exact hiny
              clear hwn
              go_quiet ((go_at_call 29; exact Calls.quiet_of_same (within_any _ _ _ _)))
              go_wp2
              go_ret
              exact ⟨ret_bool HV.out.symm, below_drewN HB1.out _⟩
            · have hin2 : inB x 0 (IntKind.i64.wrap ((n : Int) - 1)) = true := by rw [hwn]; exact hin
              have hin3 : inB y 0 (IntKind.i64.wrap ((n : Int) - 1)) = true := by rw [hwn]; exact hiny
              clear hwn
              obtain ⟨px1, px2⟩ := place_nat hin
              obtain ⟨py1, py2⟩ := place_nat hiny
              have cx := upd_cell HG1.out px2 (Nat.zero_le _) h2
              have cy := upd_cell HG1.out py2 (Nat.zero_le _) h2
              have HXA : Hid (endA es k = x.toNat) := HEA.out
              have HYB : Hid (endB es k = y.toNat) := HEB.out
              have HST2 := HSTEP.out hin hiny
              have HSTEP2 : Hid (grp (endA es) (endB es) k (endA es k) ≠ grp (endA es) (endB es) k (endB es k) → spanTo n es (k + 1)) := HST2
              have HBAD2 : Hid (grp (endA es) (endB es) k (endA es k) = grp (endA es) (endB es) k (endB es k) → r = false) := fun e => HBAD.out fun h => h.2.2 e
              clear HST2 HSTEP HBAD HEA HEB
              obtain ⟨xn, HXN⟩ : ∃ c, Hid (x.toNat = c) := ⟨_, rfl⟩
              obtain ⟨yn, HYN⟩ : ∃ c, Hid (y.toNat = c) := ⟨_, rfl⟩
              rw [HXN.out] at px1 px2 cx HXA
              rw [HYN.out] at py1 py2 cy HYB
              clear HXN HYN
              subst px1 py1
              rw [HXA.out, HYB.out] at HSTEP2 HBAD2
              obtain ⟨ga, HGA⟩ : ∃ c, Hid (grp (endA es) (endB es) k xn = c) := ⟨_, rfl⟩
              obtain ⟨gb, HGB⟩ : ∃ c, Hid (grp (endA es) (endB es) k yn = c) := ⟨_, rfl⟩
              rw [HGA.out] at cx HSTEP2 HBAD2
              rw [HGB.out] at cy HSTEP2 HBAD2
              by_cases hgg : ga = gb
              · have HV : Hid (r = false) := HBAD2.out hgg
                have hgb : ((ga : Int) == (gb : Int)) = true := by simp [hgg]
                clear hgg
                go_quiet ((go_at_call 29; exact Calls.quiet_of_same (within_any _ _ _ _)))
                go_wp2
                go_ret
                exact ⟨ret_bool HV.out.symm, below_drewN HB1.out _⟩
              · have hgb : ((ga : Int) == (gb : Int)) = false := by rw [beq_eq_false_iff_ne]; omega
                have HS1 : Hid (spanTo n es (k + 1)) := HSTEP2.out hgg
                have HAK : Hid (grp (endA es) (endB es) k (endA es k) = ga) := by show _ = _; rw [HXA.out]; exact HGA.out
                have HBK : Hid (grp (endA es) (endB es) k (endB es k) = gb) := by show _ = _; rw [HYB.out]; exact HGB.out
                clear hgg
                go_quiet ((go_at_call 29; exact Calls.quiet_of_same (within_any _ _ _ _)))
                go_wp2
                go_quiet (fail)
                go_wp2_with fail
                clear hgb cx cy e0 e1 hin2 hin3 hin hiny
                go_loopw [70] (fun t wr => ∃ j : Nat, j ≤ n ∧ t = .int .i64 j ∧ Below w.heap.size w wr ∧ wr.heap[w.heap.size]? = some (.cells (cellsOf (updL n (endA es) (endB es) k j)) 63 (0, 0))) (fun t _ => n - (intOf t).toNat)
                case atStart => exact ⟨0, Nat.zero_le _, rfl, below_drewN (below_drewN HB1.out _) _, HG1.out⟩
                case round =>
                  clear HB1 HG1 HE1
                  obtain ⟨j, hj, rfl, hb, hg⟩ := hrel
                  have HB : Hid (Below w.heap.size w wr) := hb
                  have HG : Hid (wr.heap[w.heap.size]? = some (.cells (cellsOf (updL n (endA es) (endB es) k j)) 63 (0, 0))) := hg
                  clear hb hg
                  by_cases hjlt : j < n
                  · have cj := upd_cell HG.out hjlt (Nat.le_refl _) h2
                    have fj := frozen_of_row _ _ j _ _ HG.out
                    have HSAME : Hid (grp (endA es) (endB es) k j ≠ gb → updL n (endA es) (endB es) k (j + 1) = updL n (endA es) (endB es) k j) := fun h => updL_same _ _ _ _ _ (by rw [HBK.out]; exact h)
                    have HSET : Hid (grp (endA es) (endB es) k j = gb → (updL n (endA es) (endB es) k j).set j (ga : Int) = updL n (endA es) (endB es) k (j + 1)) := fun h => by
                      rw [← HAK.out]; exact updL_set _ _ _ _ _ hjlt (by rw [HBK.out]; exact h)
                    obtain ⟨gj, HGJ⟩ : ∃ c, Hid (grp (endA es) (endB es) k j = c) := ⟨_, rfl⟩
                    rw [HGJ.out] at cj HSAME HSET
                    by_cases he : gj = gb
                    · have heb : ((gj : Int) == (gb : Int)) = true := by simp [he]
                      have HE : Hid _ := HSET.out he
                      clear he
                      go_wp2
                      refine ⟨⟨j + 1, by omega, by go_num, HB.out.setCell (Nat.le_refl _) _, ?_⟩, by simp [intOf]; omega⟩
                      rw [heap_setCell_same _ _ _ _ _ _ HG.out, cellsOf_set, HE.out]
                    · have heb : ((gj : Int) == (gb : Int)) = false := by rw [beq_eq_false_iff_ne]; omega
                      have HE : Hid _ := HSAME.out he
                      clear he
                      go_wp2
                      refine ⟨⟨j + 1, by omega, by go_num, HB.out, by rw [HE.out]; exact HG.out⟩, by simp [intOf]; omega⟩
                  · have hjn : j = n := by omega
                    have HGn : Hid (wr.heap[w.heap.size]? = some (.cells (cellsOf (updL n (endA es) (endB es) (k + 1) 0)) 63 (0, 0))) := by
                      show _ = _
                      rw [← updL_next, ← hjn]; exact hjn ▸ HG.out
                    clear hjn HG
                    go_wp2
                    refine ⟨⟨k + 1, by omega, by go_num, HS1.out, HB.out, HGn.out⟩, by simp [intOf]; omega⟩
        · have hkm : k = m := by omega
          have HV : Hid (r = true) := HR.out.symm.trans (spanB_yes (by omega) (by omega) (by omega) (hkm ▸ HS.out))
          clear hkm
          go_wp2
          go_ret
          exact ⟨ret_bool HV.out.symm, HB.out⟩

theorem implSpan_any (n : Int) (a : Option Addr) (m cap : Nat) (es : List Int) (w : World) (hA : IntsAt w a es) (hl : es.length = m * 3) :
    Calls Try.prog 27 #[.int .i64 n, .slice a m cap] w fun e w' => e = .returned (.bool (spanB n es m)) ∧ Below w.heap.size w w' := by
  by_cases h : 1 ≤ n ∧ n ≤ 16 ∧ (m : Int) = n - 1
  · obtain ⟨q, rfl⟩ := Int.eq_ofNat_of_zero_le (show 0 ≤ n by omega)
    exact implSpan_loop q m a cap es w (by omega) (by omega) (by omega) hl hA
  · rw [spanB_out h]
    exact implSpan_out n a m cap w h

end Go.Proofs.Ytpmjkgdejcnmbaa
