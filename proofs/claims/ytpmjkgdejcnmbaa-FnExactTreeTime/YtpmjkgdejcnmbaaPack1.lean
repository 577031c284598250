import Derived.Test.YtpmjkgdejcnmbaaPack0
import Derived.Test.YtpmjkgdejcnmbaaRows
import Derived.WalkKit
import Derived.WalkSpells
import Derived.WalkLawsBesides
import Derived.Deep.QuietTactic
import Derived.BigQuiet
import Derived.Deep.RegionWith
import Derived.Deep.RegionHeld3
import Derived.Deep.WholeRow
namespace Go.Proofs.Ytpmjkgdejcnmbaa
end Go.Proofs.Ytpmjkgdejcnmbaa

namespace Go.Proofs.Ytpmjkgdejcnmbaa
open Go.RowKit

/-- The worlds in which all that was there is as it was. -/
def Kin (wr : World) : Type := { x : World // Below wr.heap.size wr x }
/-- One of them, as a world. -/
def Kin.w {wr : World} (s : Kin wr) : World := s.1
theorem Kin.there (wr : World) : Nonempty (Kin wr) := ⟨⟨wr, Below.refl _ _⟩⟩
theorem Kin.below {wr : World} (s : Kin wr) : Below wr.heap.size wr s.w := s.2
theorem Kin.cell {wr : World} (s : Kin wr) {b o : Nat} {v : Value} (h : wr.cell? ⟨b, o, none⟩ = some v) : s.w.cell? ⟨b, o, none⟩ = some v := by
  rw [s.below.cell (p := ⟨b, o, none⟩) (block_lt_of_cell h)]; exact h

/-- A region that draws its order, whose operations read and whose callees leave what was there: one walk, in the text's order. -/
theorem wp_region_kin {P : Program} {id : Nat} {Q : Exit → Act → World → Prop} {a : Act} {w : World} {l : List Oper} (hm : P.follows .mixedOrders = true) (hB : Region.lexB .any l.toArray = true)
    (h : wpQuiet P l.toArray (fun w' => ∃ s : Kin w, w' = s.w) (fun a' => ∀ w', (∃ s : Kin w, w' = s.w) → Q .normal a' w') l a) : (Code.region id l.toArray true).wp P Q a w :=
  wp_region_quiet (C := fun w' => ∃ s : Kin w, w' = s.w) hm hB ⟨⟨_, (Below.refl _ _).drew⟩, rfl⟩ (by simpa using h)

theorem Kin.call {P : Program} {f : FuncId} {args : Array Value} {wr : World} {s : Kin wr} {v : Value}
    (h : Calls P f args s.w fun e w' => e = .returned v ∧ Below s.w.heap.size s.w w') : Calls P f args s.w fun e w'' => e = .returned v ∧ ∃ s' : Kin wr, w'' = s'.w :=
  h.mono fun _ w' ⟨he, hb⟩ => ⟨he, ⟨w', s.below.trans (hb.mono s.below.size)⟩, rfl⟩
theorem Kin.call_same {P : Program} {f : FuncId} {args : Array Value} {wr : World} {s : Kin wr} {v : Value}
    (h : Calls P f args s.w fun e w' => e = .returned v ∧ w' = s.w) : Calls P f args s.w fun e w'' => e = .returned v ∧ ∃ s' : Kin wr, w'' = s'.w :=
  h.mono fun _ _ ⟨he, hb⟩ => ⟨he, s, hb⟩

end Go.Proofs.Ytpmjkgdejcnmbaa

namespace Go.Proofs.Ytpmjkgdejcnmbaa
open Go.RowKit

set_option maxHeartbeats 400000 in
theorem szEdge_any (a : Option Addr) (len cap : Nat) (left : Int) (w : World) (h0 : 0 ≤ left) (h1 : left ≤ 1048576) (hlen : len ≤ 9223372036854775807) :
    Calls Try.prog 21 #[.slice a len cap, .int .i64 left] w fun e w' => e = .returned (.int .i64 (if left < len then -1 else left - len)) ∧ w' = w := by
  by_cases hlt : left < len
  · rw [if_pos hlt]
    go_enter Try.func21, Try.ntmps21
    go_wp2
    go_ret
    exact ⟨by simp, rfl⟩
  · rw [if_neg hlt]
    go_enter Try.func21, Try.ntmps21
    go_wp2
    go_ret
    exact ⟨by simp, rfl⟩

set_option maxHeartbeats 400000 in
theorem toEdge_any (o0 o1 o2 : Int) (w : World) :
    Calls Try.prog 39 #[.agg #[.int .i64 o0, .int .i64 o1, .int .i64 o2]] w fun e w' => e = .returned (.agg #[.int .i64 o0, .int .i64 o1, .int .i64 o2]) ∧ Below w.heap.size w w' := by
  go_enter Try.func39, Try.ntmps39
  go_wp2
  refine bodyPost_ret (v := .agg #[.int .i64 o0, .int .i64 o1, .int .i64 o2]) (by simp [results, Try.results39, go_sem]) rfl ⟨rfl, ?_⟩
  exact (((Below.refl _ _).alloc (Nat.le_refl _) _).alloc (by simp) _).alloc (by simp <;> omega) _

theorem Try.infoEdge : (Try.prog.info? 58).map (fun i => (i.zero, i.size, i.bytes)) = some (some (.agg #[Value.int IntKind.i64 0, Value.int IntKind.i64 0, Value.int IntKind.i64 0]), 3, 24) := by kernel_rfl

theorem made_edge (n : Nat) : madeCells (Value.agg #[Value.int IntKind.i64 0, Value.int IntKind.i64 0, Value.int IntKind.i64 0]).cells (n * 3) = cellsOf (List.replicate (n * 3) 0) := by
  apply Array.ext
  · simp [madeCells, cellsOf]
  · intro i h1 h2
    have hm : i % 3 < 3 := Nat.mod_lt _ (by omega)
    simp only [madeCells, cellsOf, Value.cells, Array.getElem_map, Array.getElem_range, List.map_replicate, List.getElem_toArray, List.getElem_replicate]
    generalize i % 3 = j at hm
    have : j = 0 ∨ j = 1 ∨ j = 2 := by omega
    rcases this with rfl | rfl | rfl <;> rfl

theorem make_edge (W : World) (len : Nat) (hlen : len ≤ 1048576) :
    (Instr.makeSlice 39 (.int .i64 len) (.int .i64 len)).run Try.prog W = .ok (.slice (some ⟨W.heap.size, 0, none⟩) len len) (W.alloc (.cells (cellsOf (List.replicate (len * 3) 0)) 58)) := by
  have h := Try.infoEdge
  cases hq : Try.prog.info? 58 with
  | none => simp [hq] at h
  | some i =>
    simp [hq] at h
    obtain ⟨hz, hs, hb⟩ := h
    have := run_make (P := Try.prog) W 39 58 i (.agg #[Value.int IntKind.i64 0, Value.int IntKind.i64 0, Value.int IntKind.i64 0]) Try.underlying39 hq hz .i64 .i64 len len (by omega) (by omega) (by rw [hb]; omega) (by omega)
    rw [this, hs]
    simp only [Int.toNat_natCast, made_edge]

set_option maxHeartbeats 1000000 in
theorem toEdgeS_any (a : Option Addr) (n cap : Nat) (zs : List Int) (w : World) (hA : IntsAt w a zs) (hl : zs.length = n * 3) (hlen : n ≤ 1048576) :
    Calls Try.prog 23 #[.slice a n cap] w fun e w' => e = .returned (.slice (some ⟨w.heap.size, 0, none⟩) n n) ∧ Below w.heap.size w w' ∧ w'.heap[w.heap.size]? = some (.cells (cellsOf zs) 58 (0, 0)) := by
  have HA : Hid (IntsAt w a zs) := hA
  have HL : Hid (zs.length = n * 3) := hl
  clear hA hl
  have hmk := fun W => make_edge W n hlen
  go_enter Try.func23, Try.ntmps23
  go_wp2_with fail
  clear hmk
  go_loopw [4] (fun t wr => ∃ k : Nat, k ≤ n ∧ t = .int .i64 k ∧ Below w.heap.size w wr ∧ wr.heap[w.heap.size]? = some (.cells (cellsOf (fillTo (n * 3) zs (k * 3))) 58 (0, 0))) (fun t _ => n - (intOf t).toNat)
  case atStart =>
    refine ⟨0, Nat.zero_le _, rfl, (Below.refl _ _).alloc (Nat.le_refl _) _, ?_⟩
    rw [Nat.zero_mul, fillTo_zero]
    exact heap_alloc_new w _
  case round =>
    obtain ⟨k, hk, rfl, hb, hg⟩ := hrel
    by_cases hlt : k < n
    · obtain ⟨b, off, rfl, hcs⟩ := IntsAt.some (IntsAt.below HA.out hb) (j := k * 3) (by rw [HL.out]; omega)
      obtain ⟨r0, r1, r2⟩ := row3_at hcs HL.out k hlt
      clear hcs
      obtain ⟨o0, H0⟩ : ∃ t, Hid (og3 zs k 0 = t) := ⟨_, rfl⟩
      obtain ⟨o1, H1⟩ : ∃ t, Hid (og3 zs k 1 = t) := ⟨_, rfl⟩
      obtain ⟨o2, H2⟩ : ∃ t, Hid (og3 zs k 2 = t) := ⟨_, rfl⟩
      rw [H0.out] at r0
      rw [H1.out] at r1
      rw [H2.out] at r2
      have HG : Hid _ := hg
      have HB : Hid _ := hb
      clear hg hb
      go_wp2_with fail
      refine (toEdge_any _ _ _ _).mono ?_
      rintro e w2 ⟨rfl, hb2⟩
      obtain ⟨B2, g2⟩ := box_more hb2 HB.out HG.out
      have HB2 : Hid _ := B2
      have x0 := cell_of_row _ _ (k * 3) _ _ _ g2
      rw [cellsOf_get _ _ (by rw [fillTo_length]; omega)] at x0
      have y0 := frozen_of_row _ _ (k * 3) _ _ g2
      have x1 := cell_of_row _ _ (k * 3 + 1) _ _ _ g2
      rw [cellsOf_get _ _ (by rw [fillTo_length]; omega)] at x1
      have y1 := frozen_of_row _ _ (k * 3 + 1) _ _ g2
      have x2 := cell_of_row _ _ (k * 3 + 2) _ _ _ g2
      rw [cellsOf_get _ _ (by rw [fillTo_length]; omega)] at x2
      have y2 := frozen_of_row _ _ (k * 3 + 2) _ _ g2
      have HG2 : Hid _ := g2
      clear hb2 g2 B2
      go_wp2
      have q0 := row_fill HG2.out H0.out
      have q1 := row_fill q0 H1.out
      have q2 := row_fill q1 H2.out
      refine ⟨⟨k + 1, by omega, by go_num, (((HB2.out.setCell (Nat.le_refl _) _).setCell (Nat.le_refl _) _).setCell (Nat.le_refl _) _), ?_⟩, by simp [intOf]; omega⟩
      rw [show (k + 1) * 3 = k * 3 + 1 + 1 + 1 by omega]
      exact q2
    · have hkz : k = n := by omega
      have HG : Hid (wr.heap[w.heap.size]? = some (.cells (cellsOf zs) 58 (0, 0))) := by
        show _ = _
        rw [hg, hkz, ← HL.out, fillTo_full]
      have HB : Hid _ := hb
      clear hg hkz hb
      go_wp2
      go_ret
      exact ⟨rfl, HB.out, HG.out⟩

set_option maxHeartbeats 400000 in
theorem eqEdge_same (o0 o1 o2 : Int) (w : World) :
    Calls Try.prog 40 #[.agg #[.int .i64 o0, .int .i64 o1, .int .i64 o2], .agg #[.int .i64 o0, .int .i64 o1, .int .i64 o2]] w fun e w' => e = .returned (.bool true) ∧ Below w.heap.size w w' := by
  have n0 : (o0 != o0) = false := by simp
  have n1 : (o1 != o1) = false := by simp
  have n2 : (o2 != o2) = false := by simp
  go_enter Try.func40, Try.ntmps40
  go_wp2
  go_ret
  exact ⟨rfl, ((Below.refl _ _).alloc (Nat.le_refl _) _).alloc (by simp) _⟩

set_option maxHeartbeats 1000000 in
theorem eqEdgeS_same (a a2 : Option Addr) (n c1 c2 : Nat) (zs : List Int) (w : World) (hA : IntsAt w a zs) (hB : IntsAt w a2 zs) (hl : zs.length = n * 3) (hlen : n ≤ 9223372036854775807) :
    Calls Try.prog 25 #[.slice a n c1, .slice a2 n c2] w fun e w' => e = .returned (.bool true) ∧ Below w.heap.size w w' := by
  have HA : Hid (IntsAt w a zs) := hA
  have HA2 : Hid (IntsAt w a2 zs) := hB
  have HL : Hid (zs.length = n * 3) := hl
  have hnn : ((n : Int) != (n : Int)) = false := by simp
  clear hA hB hl
  go_enter Try.func25, Try.ntmps25
  go_wp2_with fail
  go_loopw [5] (fun t wr => ∃ k : Nat, k ≤ n ∧ t = .int .i64 k ∧ Below w.heap.size w wr) (fun t _ => n - (intOf t).toNat)
  case atStart => exact ⟨0, Nat.zero_le _, rfl, Below.refl _ _⟩
  case round =>
    obtain ⟨k, hk, rfl, hb⟩ := hrel
    have HB : Hid _ := hb
    by_cases hlt : k < n
    · obtain ⟨b, off, rfl, hcs⟩ := IntsAt.some (IntsAt.below HA.out hb) (j := k * 3) (by rw [HL.out]; omega)
      obtain ⟨r0, r1, r2⟩ := row3_at hcs HL.out k hlt
      obtain ⟨b2, off2, rfl, hcs2⟩ := IntsAt.some (IntsAt.below HA2.out hb) (j := k * 3) (by rw [HL.out]; omega)
      obtain ⟨p0, p1, p2⟩ := row3_at hcs2 HL.out k hlt
      clear hcs hcs2 hb
      obtain ⟨o0, H0⟩ : ∃ t, Hid (og3 zs k 0 = t) := ⟨_, rfl⟩
      obtain ⟨o1, H1⟩ : ∃ t, Hid (og3 zs k 1 = t) := ⟨_, rfl⟩
      obtain ⟨o2, H2⟩ : ∃ t, Hid (og3 zs k 2 = t) := ⟨_, rfl⟩
      rw [H0.out] at r0
      rw [H1.out] at r1
      rw [H2.out] at r2
      rw [H0.out] at p0
      rw [H1.out] at p1
      rw [H2.out] at p2
      have t0 := fun s : Kin wr => s.cell r0
      have u0 := fun s : Kin wr => s.cell p0
      have t1 := fun s : Kin wr => s.cell r1
      have u1 := fun s : Kin wr => s.cell p1
      have t2 := fun s : Kin wr => s.cell r2
      have u2 := fun s : Kin wr => s.cell p2
      have hkin := Kin.there wr
      go_wp2_with fail
      refine wp_region_kin (by kernel_rfl) (by kernel_rfl) ?_
      repeat (go_big_quiet_step ((go_at_call 40; exact Kin.call (eqEdge_same _ _ _ _))))
      refine wpQuiet_nil ?_
      rintro _ ⟨s, rfl⟩
      have HS2 := HB.out.trans (s.below.mono HB.out.size)
      generalize s.w = w2 at *
      go_wp2
      refine ⟨⟨k + 1, by omega, by go_num, HS2⟩, by simp [intOf]; omega⟩
    · go_wp2
      go_ret
      exact ⟨rfl, HB.out⟩

end Go.Proofs.Ytpmjkgdejcnmbaa

namespace Go.Proofs.Ytpmjkgdejcnmbaa
open Go.RowKit

set_option maxHeartbeats 400000 in
theorem l1In_any (n lo hi : Int) (w : World) :
    Calls Try.prog 28 #[.int .i64 n, .int .i64 lo, .int .i64 hi] w fun e w' => e = .returned (.bool (inB n lo hi)) ∧ w' = w := by
  by_cases h1 : lo ≤ n
  · by_cases h2 : n ≤ hi
    · have h3 : inB n lo hi = true := inB_mk ⟨h1, h2⟩
      rw [h3]
      go_enter Try.func28, Try.ntmps28
      go_wp2
      go_ret
      exact ⟨by simp, rfl⟩
    · have h3 : inB n lo hi = false := inB_not (by omega)
      rw [h3]
      go_enter Try.func28, Try.ntmps28
      go_wp2
      go_ret
      exact ⟨by simp, rfl⟩
  · have h3 : inB n lo hi = false := inB_not (by omega)
    rw [h3]
    go_enter Try.func28, Try.ntmps28
    go_wp2
    go_ret
    exact ⟨by simp, rfl⟩

end Go.Proofs.Ytpmjkgdejcnmbaa

namespace Go.Proofs.Ytpmjkgdejcnmbaa
open Go.RowKit

set_option maxHeartbeats 400000 in
theorem specTree_any (a : Option Addr) (n cap : Nat) (es : List Int) (w : World) (hA : IntsAt w a es) (hl : es.length = n * 3) (hlen : n ≤ 9223372036854775807) :
    Calls Try.prog 22 #[.slice a n cap] w fun e w' => e = .returned (.int .i64 (treeV es n)) ∧ w' = w := by
  have HA : Hid (IntsAt w a es) := hA
  have HL : Hid (es.length = n * 3) := hl
  clear hA hl
  obtain ⟨r, HR⟩ : ∃ r, Hid (treeV es n = r) := ⟨_, rfl⟩
  rw [HR.out]
  go_enter Try.func22, Try.ntmps22
  go_wp2_with fail
  go_loop [3, 4] (fun sm t => ∃ k : Nat, k ≤ n ∧ k ≤ 16 ∧ t = .int .i64 k ∧ sm = .int .i64 (treeTo es k) ∧ timesTo es k) (fun _ t => n - (intOf t).toNat)
  case atStart => exact ⟨0, Nat.zero_le _, by omega, rfl, rfl, fun j hj => by omega⟩
  case round =>
    obtain ⟨k, hk, hk16, rfl, rfl, ht⟩ := hrel
    have hbd := treeTo_bd k ht
    have HT : Hid (timesTo es k) := ht
    clear ht
    obtain ⟨s0, HS0⟩ : ∃ s, Hid (treeTo es k = s) := ⟨_, rfl⟩
    rw [HS0.out] at hbd ⊢
    by_cases hlt : k < n
    · obtain ⟨b, off, rfl, hcs⟩ := IntsAt.some HA.out (j := k * 3) (by rw [HL.out]; omega)
      obtain ⟨_, _, ct⟩ := row3_at hcs HL.out k hlt
      clear hcs
      obtain ⟨t, H2⟩ : ∃ t, Hid (og3 es k 2 = t) := ⟨_, rfl⟩
      rw [H2.out] at ct
      cases hin : inB t 0 10000
      · have HV : Hid (r = -1) := HR.out.symm.trans (treeV_bad hlt (by rw [H2.out]; exact hin))
        go_wp2_with (go_at_call 28; refine (l1In_any _ _ _ _).mono ?_; rintro e w' ⟨rfl, rfl⟩)
        go_ret
        exact ⟨ret_int HV.out.symm, rfl⟩
      · have hb := inB_true hin
        by_cases h16 : k < 16
        · have HT1 : Hid (timesTo es (k + 1)) := timesTo_step HT.out (by rw [H2.out]; exact hin)
          have HS1 : Hid (treeTo es (k + 1) = s0 + t) := by show _ = _; unfold treeTo; rw [HS0.out, H2.out]
          go_wp2_with (go_at_call 28; refine (l1In_any _ _ _ _).mono ?_; rintro e w' ⟨rfl, rfl⟩)
          refine ⟨⟨k + 1, by omega, by omega, by go_num, by rw [HS1.out], HT1.out⟩, by simp [intOf]; omega⟩
        · have HV : Hid (r = -1) := HR.out.symm.trans (treeV_many (by omega))
          have h16' : 16 ≤ k := by omega
          clear h16
          go_wp2_with (go_at_call 28; refine (l1In_any _ _ _ _).mono ?_; rintro e w' ⟨rfl, rfl⟩)
          go_ret
          exact ⟨ret_int HV.out.symm, rfl⟩
    · have hkl : k = n := by omega
      have HV : Hid (r = s0) := by
        have := treeV_yes (es := es) (n := n) (by omega) (hkl ▸ HT.out)
        rw [HR.out, ← hkl, HS0.out] at this
        exact this
      clear hkl
      go_wp2
      go_ret
      exact ⟨ret_int HV.out.symm, rfl⟩

end Go.Proofs.Ytpmjkgdejcnmbaa

namespace Go.Proofs.Ytpmjkgdejcnmbaa
open Go.RowKit

set_option maxHeartbeats 400000 in
theorem within_any (n lo hi : Int) (w : World) :
    Calls Try.prog 29 #[.int .i64 n, .int .i64 lo, .int .i64 hi] w fun e w' => e = .returned (.bool (inB n lo hi)) ∧ w' = w := by
  by_cases h1 : lo ≤ n
  · by_cases h2 : n ≤ hi
    · have h3 : inB n lo hi = true := inB_mk ⟨h1, h2⟩
      rw [h3]
      go_enter Try.func29, Try.ntmps29
      go_wp2
      go_ret
      exact ⟨by simp, rfl⟩
    · have h3 : inB n lo hi = false := inB_not (by omega)
      rw [h3]
      go_enter Try.func29, Try.ntmps29
      go_wp2
      go_ret
      exact ⟨by simp, rfl⟩
  · have h3 : inB n lo hi = false := inB_not (by omega)
    rw [h3]
    go_enter Try.func29, Try.ntmps29
    go_wp2
    go_ret
    exact ⟨by simp, rfl⟩

end Go.Proofs.Ytpmjkgdejcnmbaa

namespace Go.Proofs.Ytpmjkgdejcnmbaa
open Go.RowKit

set_option maxHeartbeats 400000 in
theorem implTree_any (a : Option Addr) (n cap : Nat) (es : List Int) (w : World) (hA : IntsAt w a es) (hl : es.length = n * 3) (hlen : n ≤ 9223372036854775807) :
    Calls Try.prog 24 #[.slice a n cap] w fun e w' => e = .returned (.int .i64 (treeV es n)) ∧ Below w.heap.size w w' := by
  have HA : Hid (IntsAt w a es) := hA
  have HL : Hid (es.length = n * 3) := hl
  clear hA hl
  obtain ⟨r, HR⟩ : ∃ r, Hid (treeV es n = r) := ⟨_, rfl⟩
  rw [HR.out]
  by_cases h16 : n ≤ 16
  · go_enter Try.func24, Try.ntmps24
    go_wp2_with fail
    go_loopw [3, 11] (fun sm t wr => ∃ k : Nat, k ≤ n ∧ t = .int .i64 k ∧ sm = .int .i64 (treeTo es k) ∧ timesTo es k ∧ Below w.heap.size w wr) (fun _ t _ => n - (intOf t).toNat)
    case atStart => exact ⟨0, Nat.zero_le _, rfl, rfl, fun j hj => by omega, Below.refl _ _⟩
    case round =>
      obtain ⟨k, hk, rfl, rfl, ht, hb⟩ := hrel
      have hbd := treeTo_bd k ht
      have HT : Hid (timesTo es k) := ht
      have HB : Hid (Below w.heap.size w wr) := hb
      clear ht
      obtain ⟨s0, HS0⟩ : ∃ s, Hid (treeTo es k = s) := ⟨_, rfl⟩
      rw [HS0.out] at hbd ⊢
      by_cases hlt : k < n
      · obtain ⟨b, off, rfl, hcs⟩ := IntsAt.some (HA.out.below hb) (j := k * 3) (by rw [HL.out]; omega)
        obtain ⟨ca, cb, ct⟩ := row3_at hcs HL.out k hlt
        clear hcs hb
        obtain ⟨x, H0⟩ : ∃ t, Hid (og3 es k 0 = t) := ⟨_, rfl⟩
        obtain ⟨y, H1⟩ : ∃ t, Hid (og3 es k 1 = t) := ⟨_, rfl⟩
        obtain ⟨t, H2⟩ : ∃ t, Hid (og3 es k 2 = t) := ⟨_, rfl⟩
        rw [H0.out] at ca
        rw [H1.out] at cb
        rw [H2.out] at ct
        have HB1 : Hid (Below w.heap.size w (wr.alloc (Obj.cells #[Value.int IntKind.i64 x, Value.int IntKind.i64 y, Value.int IntKind.i64 t] 58))) := HB.out.alloc HB.out.size _
        cases hin : inB t 0 10000
        · have HV : Hid (r = -1) := HR.out.symm.trans (treeV_bad hlt (by rw [H2.out]; exact hin))
          go_wp2_with (go_at_call 29; refine (within_any _ _ _ _).mono ?_; rintro e w' ⟨rfl, rfl⟩)
          go_ret
          exact ⟨ret_int HV.out.symm, HB1.out⟩
        · have hbt := inB_true hin
          have HT1 : Hid (timesTo es (k + 1)) := timesTo_step HT.out (by rw [H2.out]; exact hin)
          have HS1 : Hid (treeTo es (k + 1) = s0 + t) := by show _ = _; unfold treeTo; rw [HS0.out, H2.out]
          go_wp2_with (go_at_call 29; refine (within_any _ _ _ _).mono ?_; rintro e w' ⟨rfl, rfl⟩)
          refine ⟨⟨k + 1, by omega, by go_num, by rw [HS1.out], HT1.out, HB1.out⟩, by simp [intOf]; omega⟩
      · have hkl : k = n := by omega
        have HV : Hid (r = s0) := by
          have := treeV_yes (es := es) (n := n) (by omega) (hkl ▸ HT.out)
          rw [HR.out, ← hkl, HS0.out] at this
          exact this
        clear hkl
        go_wp2
        go_ret
        exact ⟨ret_int HV.out.symm, HB.out⟩
  · have HV : Hid (r = -1) := HR.out.symm.trans (treeV_many (by omega))
    have h16' : 16 < n := by omega
    clear h16
    go_enter Try.func24, Try.ntmps24
    go_wp2
    go_ret
    exact ⟨ret_int HV.out.symm, Below.refl _ _⟩

end Go.Proofs.Ytpmjkgdejcnmbaa

namespace Go.Proofs.Ytpmjkgdejcnmbaa
open Go.RowKit

set_option maxHeartbeats 400000 in
theorem lawTreeTime_big (esa : Option Addr) (esc esn : Nat) (w : World) (hles : esn ≤ 9223372036854775807) (h : ¬ (esn ≤ 1048576)) :
    Calls Try.prog 7 #[.slice esa esn esc] w fun e w' => e = .returned (.bool true) ∧ Below w.heap.size w w' := by
  have g0 : 1048576 < esn := by omega
  clear h
  go_enter Try.func7, Try.ntmps7
  go_wp2_with (go_at_call 21; refine (szEdge_any _ _ _ _ _ (by omega) (by omega) (by omega)).mono ?_; rintro e w' ⟨rfl, rfl⟩; rw [if_pos (by omega)])
  go_ret
  exact ⟨rfl, Below.refl _ _⟩

set_option maxHeartbeats 1000000 in
theorem lawTreeTime (esa : Option Addr) (esc : Nat) (es : List Int) (esn : Nat) (w : World) (hes : IntsAt w esa es) (hles : es.length = esn * 3) (hses : esn ≤ 1048576) :
    Calls Try.prog 7 #[.slice esa esn esc] w fun e w' => e = .returned (.bool true) ∧ Below w.heap.size w w' := by
  have Hes : Hid (IntsAt w esa es) := hes
  have HLes : Hid (es.length = esn * 3) := hles
  clear hes hles
  obtain ⟨r0, HR0⟩ : ∃ r, Hid (treeV es esn = r) := ⟨_, rfl⟩
  have hrr0 : (r0 != r0) = false := by simp
  have B0 : Hid (Below w.heap.size w w) := Below.refl _ _
  go_enter Try.func7, Try.ntmps7
  go_wp2_with fail
  refine (szEdge_any _ _ _ _ _ (by omega) (by omega) (by omega)).mono ?_
  rintro e w1 ⟨rfl, hw1⟩
  subst w1
  rw [if_neg (by omega)]
  go_wp2_with fail
  refine (toEdgeS_any _ _ _ es _ (Hes.out.below B0.out) HLes.out (by omega)).mono ?_
  rintro e v1 ⟨rfl, hb, hg⟩
  have B_v1 : Hid (Below w.heap.size w v1) := B0.out.trans (hb.mono B0.out.size)
  have F1 : Hid (IntsAt v1 (some ⟨w.heap.size, 0, none⟩) es) := IntsAt.of_row hg
  clear hb hg
  go_wp2_with fail
  refine (specTree_any _ _ _ es _ F1.out HLes.out (by omega)).mono ?_
  rintro e w1 ⟨rfl, hw1⟩
  subst w1
  rw [HR0.out]
  clear F1
  go_wp2_with fail
  refine (toEdgeS_any _ _ _ es _ (Hes.out.below B_v1.out) HLes.out (by omega)).mono ?_
  rintro e v3 ⟨rfl, hb, hg⟩
  have B_v3 : Hid (Below w.heap.size w v3) := B_v1.out.trans (hb.mono B_v1.out.size)
  clear B_v1
  have F3 : Hid (IntsAt v3 (some ⟨v1.heap.size, 0, none⟩) es) := IntsAt.of_row hg
  clear hb hg
  go_wp2_with fail
  refine (implTree_any _ _ _ es _ F3.out HLes.out (by omega)).mono ?_
  rintro e v4 ⟨rfl, hb⟩
  rw [HR0.out]
  have B_v4 : Hid (Below w.heap.size w v4) := B_v3.out.trans (hb.mono B_v3.out.size)
  have F3' : Hid (IntsAt v4 (some ⟨v1.heap.size, 0, none⟩) es) := F3.out.below hb
  clear F3
  clear B_v3
  clear hb
  go_wp2_with fail
  refine (toEdgeS_any _ _ _ es _ (Hes.out.below B_v4.out) HLes.out (by omega)).mono ?_
  rintro e v5 ⟨rfl, hb, hg⟩
  have B_v5 : Hid (Below w.heap.size w v5) := B_v4.out.trans (hb.mono B_v4.out.size)
  have F3'' : Hid (IntsAt v5 (some ⟨v1.heap.size, 0, none⟩) es) := F3'.out.below hb
  clear F3'
  clear B_v4
  have F5 : Hid (IntsAt v5 (some ⟨v4.heap.size, 0, none⟩) es) := IntsAt.of_row hg
  clear hb hg
  go_wp2_with fail
  refine (eqEdgeS_same _ _ _ _ _ es _ F3''.out F5.out HLes.out (by omega)).mono ?_
  rintro e v6 ⟨rfl, hb⟩
  have B_v6 : Hid (Below w.heap.size w v6) := B_v5.out.trans (hb.mono B_v5.out.size)
  have F3''' : Hid (IntsAt v6 (some ⟨v1.heap.size, 0, none⟩) es) := F3''.out.below hb
  clear F3''
  have F5' : Hid (IntsAt v6 (some ⟨v4.heap.size, 0, none⟩) es) := F5.out.below hb
  clear F5
  clear B_v5
  clear hb
  clear F5'
  go_wp2
  go_ret
  exact ⟨rfl, B_v6.out⟩

end Go.Proofs.Ytpmjkgdejcnmbaa
