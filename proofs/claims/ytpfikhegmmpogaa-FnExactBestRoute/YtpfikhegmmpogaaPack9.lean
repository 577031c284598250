import Derived.Test.YtpfikhegmmpogaaPack0
import Derived.Test.YtpfikhegmmpogaaPack1
import Derived.Test.YtpfikhegmmpogaaPack3
namespace Go.Proofs.Ytpfikhegmmpogaa
open Go.RowKit

set_option maxHeartbeats 400000 in
theorem szVehicle_any (a : Option Addr) (len cap : Nat) (left : Int) (w : World) (h0 : 0 ≤ left) (h1 : left ≤ 1048576) (hlen : len ≤ 9223372036854775807) :
    Calls Try.prog 81 #[.slice a len cap, .int .i64 left] w fun e w' => e = .returned (.int .i64 (if left < len then -1 else left - len)) ∧ w' = w := by
  by_cases hlt : left < len
  · rw [if_pos hlt]
    go_enter Try.func81, Try.ntmps81
    go_wp2
    go_ret
    exact ⟨by simp, rfl⟩
  · rw [if_neg hlt]
    go_enter Try.func81, Try.ntmps81
    go_wp2
    go_ret
    exact ⟨by simp, rfl⟩

set_option maxHeartbeats 400000 in
theorem toVehicle_any (o0 o1 o2 o3 o4 : Int) (w : World) :
    Calls Try.prog 114 #[.agg #[.int .i64 o0, .int .i64 o1, .int .i64 o2, .int .i64 o3, .int .i64 o4]] w fun e w' => e = .returned (.agg #[.int .i64 o0, .int .i64 o1, .int .i64 o2, .int .i64 o3, .int .i64 o4]) ∧ Below w.heap.size w w' := by
  go_enter Try.func114, Try.ntmps114
  go_wp2
  refine bodyPost_ret (v := .agg #[.int .i64 o0, .int .i64 o1, .int .i64 o2, .int .i64 o3, .int .i64 o4]) (by simp [results, Try.results114, go_sem]) rfl ⟨rfl, ?_⟩
  exact (((Below.refl _ _).alloc (Nat.le_refl _) _).alloc (by simp) _).alloc (by simp <;> omega) _

theorem Try.infoVehicle : (Try.prog.info? 95).map (fun i => (i.zero, i.size, i.bytes)) = some (some (.agg #[Value.int IntKind.i64 0, Value.int IntKind.i64 0, Value.int IntKind.i64 0, Value.int IntKind.i64 0, Value.int IntKind.i64 0]), 5, 40) := by kernel_rfl

theorem made_veh (n : Nat) : madeCells (Value.agg #[Value.int IntKind.i64 0, Value.int IntKind.i64 0, Value.int IntKind.i64 0, Value.int IntKind.i64 0, Value.int IntKind.i64 0]).cells (n * 5) = cellsOf (List.replicate (n * 5) 0) := by
  apply Array.ext
  · simp [madeCells, cellsOf]
  · intro i h1 h2
    have hm : i % 5 < 5 := Nat.mod_lt _ (by omega)
    simp only [madeCells, cellsOf, Value.cells, Array.getElem_map, Array.getElem_range, List.map_replicate, List.getElem_toArray, List.getElem_replicate]
    generalize i % 5 = j at hm
    have : j = 0 ∨ j = 1 ∨ j = 2 ∨ j = 3 ∨ j = 4 := by omega
    rcases this with rfl | rfl | rfl | rfl | rfl <;> rfl

theorem make_veh (W : World) (len : Nat) (hlen : len ≤ 1048576) :
    (Instr.makeSlice 28 (.int .i64 len) (.int .i64 len)).run Try.prog W = .ok (.slice (some ⟨W.heap.size, 0, none⟩) len len) (W.alloc (.cells (cellsOf (List.replicate (len * 5) 0)) 95)) := by
  have h := Try.infoVehicle
  cases hq : Try.prog.info? 95 with
  | none => simp [hq] at h
  | some i =>
    simp [hq] at h
    obtain ⟨hz, hs, hb⟩ := h
    have := run_make (P := Try.prog) W 28 95 i (.agg #[Value.int IntKind.i64 0, Value.int IntKind.i64 0, Value.int IntKind.i64 0, Value.int IntKind.i64 0, Value.int IntKind.i64 0]) Try.underlying28 hq hz .i64 .i64 len len (by omega) (by omega) (by rw [hb]; omega) (by omega)
    rw [this, hs]
    simp only [Int.toNat_natCast, made_veh]

set_option maxHeartbeats 1000000 in
theorem toVehicleS_any (a : Option Addr) (n cap : Nat) (zs : List Int) (w : World) (hA : IntsAt w a zs) (hl : zs.length = n * 5) (hlen : n ≤ 1048576) :
    Calls Try.prog 83 #[.slice a n cap] w fun e w' => e = .returned (.slice (some ⟨w.heap.size, 0, none⟩) n n) ∧ Below w.heap.size w w' ∧ w'.heap[w.heap.size]? = some (.cells (cellsOf zs) 95 (0, 0)) := by
  have HA : Hid (IntsAt w a zs) := hA
  have HL : Hid (zs.length = n * 5) := hl
  clear hA hl
  have hmk := fun W => make_veh W n hlen
  go_enter Try.func83, Try.ntmps83
  go_wp2_with fail
  clear hmk
  go_loopw [4] (fun t wr => ∃ k : Nat, k ≤ n ∧ t = .int .i64 k ∧ Below w.heap.size w wr ∧ wr.heap[w.heap.size]? = some (.cells (cellsOf (fillTo (n * 5) zs (k * 5))) 95 (0, 0))) (fun t _ => n - (intOf t).toNat)
  case atStart =>
    refine ⟨0, Nat.zero_le _, rfl, (Below.refl _ _).alloc (Nat.le_refl _) _, ?_⟩
    rw [Nat.zero_mul, fillTo_zero]
    exact heap_alloc_new w _
  case round =>
    obtain ⟨k, hk, rfl, hb, hg⟩ := hrel
    by_cases hlt : k < n
    · obtain ⟨b, off, rfl, hcs⟩ := IntsAt.some (IntsAt.below HA.out hb) (j := k * 5) (by rw [HL.out]; omega)
      obtain ⟨r0, r1, r2, r3, r4⟩ := row5_at hcs HL.out k hlt
      clear hcs
      obtain ⟨o0, H0⟩ : ∃ t, Hid (og5 zs k 0 = t) := ⟨_, rfl⟩
      obtain ⟨o1, H1⟩ : ∃ t, Hid (og5 zs k 1 = t) := ⟨_, rfl⟩
      obtain ⟨o2, H2⟩ : ∃ t, Hid (og5 zs k 2 = t) := ⟨_, rfl⟩
      obtain ⟨o3, H3⟩ : ∃ t, Hid (og5 zs k 3 = t) := ⟨_, rfl⟩
      obtain ⟨o4, H4⟩ : ∃ t, Hid (og5 zs k 4 = t) := ⟨_, rfl⟩
      rw [H0.out] at r0
      rw [H1.out] at r1
      rw [H2.out] at r2
      rw [H3.out] at r3
      rw [H4.out] at r4
      have HG : Hid _ := hg
      have HB : Hid _ := hb
      clear hg hb
      go_wp2_with fail
      refine (toVehicle_any _ _ _ _ _ _).mono ?_
      rintro e w2 ⟨rfl, hb2⟩
      obtain ⟨B2, g2⟩ := box_more hb2 HB.out HG.out
      have HB2 : Hid _ := B2
      have x0 := cell_of_row _ _ (k * 5) _ _ _ g2
      rw [cellsOf_get _ _ (by rw [fillTo_length]; omega)] at x0
      have y0 := frozen_of_row _ _ (k * 5) _ _ g2
      have x1 := cell_of_row _ _ (k * 5 + 1) _ _ _ g2
      rw [cellsOf_get _ _ (by rw [fillTo_length]; omega)] at x1
      have y1 := frozen_of_row _ _ (k * 5 + 1) _ _ g2
      have x2 := cell_of_row _ _ (k * 5 + 2) _ _ _ g2
      rw [cellsOf_get _ _ (by rw [fillTo_length]; omega)] at x2
      have y2 := frozen_of_row _ _ (k * 5 + 2) _ _ g2
      have x3 := cell_of_row _ _ (k * 5 + 3) _ _ _ g2
      rw [cellsOf_get _ _ (by rw [fillTo_length]; omega)] at x3
      have y3 := frozen_of_row _ _ (k * 5 + 3) _ _ g2
      have x4 := cell_of_row _ _ (k * 5 + 4) _ _ _ g2
      rw [cellsOf_get _ _ (by rw [fillTo_length]; omega)] at x4
      have y4 := frozen_of_row _ _ (k * 5 + 4) _ _ g2
      have HG2 : Hid _ := g2
      clear hb2 g2 B2
      go_wp2
      have q0 := row_fill HG2.out H0.out
      have q1 := row_fill q0 H1.out
      have q2 := row_fill q1 H2.out
      have q3 := row_fill q2 H3.out
      have q4 := row_fill q3 H4.out
      refine ⟨⟨k + 1, by omega, by go_num, (((((HB2.out.setCell (Nat.le_refl _) _).setCell (Nat.le_refl _) _).setCell (Nat.le_refl _) _).setCell (Nat.le_refl _) _).setCell (Nat.le_refl _) _), ?_⟩, by simp [intOf]; omega⟩
      rw [show (k + 1) * 5 = k * 5 + 1 + 1 + 1 + 1 + 1 by omega]
      exact q4
    · have hkz : k = n := by omega
      have HG : Hid (wr.heap[w.heap.size]? = some (.cells (cellsOf zs) 95 (0, 0))) := by
        show _ = _
        rw [hg, hkz, ← HL.out, fillTo_full]
      have HB : Hid _ := hb
      clear hg hkz hb
      go_wp2
      go_ret
      exact ⟨rfl, HB.out, HG.out⟩

set_option maxHeartbeats 400000 in
theorem eqVehicle_same (o0 o1 o2 o3 o4 : Int) (w : World) :
    Calls Try.prog 116 #[.agg #[.int .i64 o0, .int .i64 o1, .int .i64 o2, .int .i64 o3, .int .i64 o4], .agg #[.int .i64 o0, .int .i64 o1, .int .i64 o2, .int .i64 o3, .int .i64 o4]] w fun e w' => e = .returned (.bool true) ∧ Below w.heap.size w w' := by
  have n0 : (o0 != o0) = false := by simp
  have n1 : (o1 != o1) = false := by simp
  have n2 : (o2 != o2) = false := by simp
  have n3 : (o3 != o3) = false := by simp
  have n4 : (o4 != o4) = false := by simp
  go_enter Try.func116, Try.ntmps116
  go_wp2
  go_ret
  exact ⟨rfl, ((Below.refl _ _).alloc (Nat.le_refl _) _).alloc (by simp) _⟩

set_option maxHeartbeats 1000000 in
theorem eqVehicleS_same (a a2 : Option Addr) (n c1 c2 : Nat) (zs : List Int) (w : World) (hA : IntsAt w a zs) (hB : IntsAt w a2 zs) (hl : zs.length = n * 5) (hlen : n ≤ 9223372036854775807) :
    Calls Try.prog 85 #[.slice a n c1, .slice a2 n c2] w fun e w' => e = .returned (.bool true) ∧ Below w.heap.size w w' := by
  have HA : Hid (IntsAt w a zs) := hA
  have HA2 : Hid (IntsAt w a2 zs) := hB
  have HL : Hid (zs.length = n * 5) := hl
  have hnn : ((n : Int) != (n : Int)) = false := by simp
  clear hA hB hl
  go_enter Try.func85, Try.ntmps85
  go_wp2_with fail
  go_loopw [5] (fun t wr => ∃ k : Nat, k ≤ n ∧ t = .int .i64 k ∧ Below w.heap.size w wr) (fun t _ => n - (intOf t).toNat)
  case atStart => exact ⟨0, Nat.zero_le _, rfl, Below.refl _ _⟩
  case round =>
    obtain ⟨k, hk, rfl, hb⟩ := hrel
    have HB : Hid _ := hb
    by_cases hlt : k < n
    · obtain ⟨b, off, rfl, hcs⟩ := IntsAt.some (IntsAt.below HA.out hb) (j := k * 5) (by rw [HL.out]; omega)
      obtain ⟨r0, r1, r2, r3, r4⟩ := row5_at hcs HL.out k hlt
      obtain ⟨b2, off2, rfl, hcs2⟩ := IntsAt.some (IntsAt.below HA2.out hb) (j := k * 5) (by rw [HL.out]; omega)
      obtain ⟨p0, p1, p2, p3, p4⟩ := row5_at hcs2 HL.out k hlt
      clear hcs hcs2 hb
      obtain ⟨o0, H0⟩ : ∃ t, Hid (og5 zs k 0 = t) := ⟨_, rfl⟩
      obtain ⟨o1, H1⟩ : ∃ t, Hid (og5 zs k 1 = t) := ⟨_, rfl⟩
      obtain ⟨o2, H2⟩ : ∃ t, Hid (og5 zs k 2 = t) := ⟨_, rfl⟩
      obtain ⟨o3, H3⟩ : ∃ t, Hid (og5 zs k 3 = t) := ⟨_, rfl⟩
      obtain ⟨o4, H4⟩ : ∃ t, Hid (og5 zs k 4 = t) := ⟨_, rfl⟩
      rw [H0.out] at r0
      rw [H1.out] at r1
      rw [H2.out] at r2
      rw [H3.out] at r3
      rw [H4.out] at r4
      rw [H0.out] at p0
      rw [H1.out] at p1
      rw [H2.out] at p2
      rw [H3.out] at p3
      rw [H4.out] at p4
      have t0 := fun s : Kin wr => s.cell r0
      have u0 := fun s : Kin wr => s.cell p0
      have t1 := fun s : Kin wr => s.cell r1
      have u1 := fun s : Kin wr => s.cell p1
      have t2 := fun s : Kin wr => s.cell r2
      have u2 := fun s : Kin wr => s.cell p2
      have t3 := fun s : Kin wr => s.cell r3
      have u3 := fun s : Kin wr => s.cell p3
      have t4 := fun s : Kin wr => s.cell r4
      have u4 := fun s : Kin wr => s.cell p4
      have hkin := Kin.there wr
      go_wp2_with fail
      refine wp_region_kin (by kernel_rfl) (by kernel_rfl) ?_
      repeat (go_big_quiet_step ((go_at_call 116; exact Kin.call (eqVehicle_same _ _ _ _ _ _))))
      refine wpQuiet_nil ?_
      rintro _ ⟨s, rfl⟩
      have HS2 := HB.out.trans (s.below.mono HB.out.size)
      generalize s.w = w2 at *
      go_wp2
      refine ⟨⟨k + 1, by omega, by go_num, HS2⟩, by simp [intOf]; omega⟩
    · go_wp2
      go_ret
      exact ⟨rfl, HB.out⟩

end Go.Proofs.Ytpfikhegmmpogaa

namespace Go.Proofs.Ytpfikhegmmpogaa
open Go.RowKit

/-- What szCase answers. -/
def szV (left : Int) (lt ko kv : Nat) : Int := if left < lt then -1 else if left - lt < ko then -1 else if left - lt - ko < kv then -1 else left - lt - ko - kv
theorem szV_neg {lt ko kv : Nat} (h : ¬ (lt + ko + kv ≤ 1048576)) : szV 1048576 lt ko kv = -1 := by
  unfold szV
  split
  · rfl
  · split
    · rfl
    · split
      · rfl
      · omega
theorem szV_pos {lt ko kv : Nat} (h : lt + ko + kv ≤ 1048576) : szV 1048576 lt ko kv = 1048576 - lt - ko - kv := by
  unfold szV
  rw [if_neg (by omega), if_neg (by omega), if_neg (by omega)]

set_option maxHeartbeats 1000000 in
theorem szCase_any (n fine left : Int) (a ao av : Option Addr) (lt cap ko co kv cv : Nat) (w : World) (h0 : 0 ≤ left) (h1 : left ≤ 1048576) (hlt : lt ≤ 9223372036854775807) (hko : ko ≤ 9223372036854775807) (hkv : kv ≤ 9223372036854775807) :
    Calls Try.prog 30 #[.agg #[.int .i64 n, .slice a lt cap, .slice ao ko co, .slice av kv cv, .int .i64 fine], .int .i64 left] w fun e w' => e = .returned (.int .i64 (szV left lt ko kv)) ∧ Below w.heap.size w w' := by
  obtain ⟨r, HR⟩ : ∃ r, Hid (szV left lt ko kv = r) := ⟨_, rfl⟩
  rw [HR.out]
  go_enter Try.func30, Try.ntmps30
  go_wp2_with fail
  refine (szMat_any n a lt cap left _ h0 h1 hlt).mono ?_
  rintro e w1 ⟨rfl, hb⟩
  obtain ⟨b1, r1⟩ := box5 hb
  obtain ⟨c0, c1, c2, c3, c4⟩ := cells5 r1
  clear hb r1
  by_cases ha : left < lt
  · rw [if_pos ha]
    have HV : Hid (szV left lt ko kv = -1) := by
      show _ = _
      unfold szV; rw [if_pos ha]
    go_wp2
    go_ret
    exact ⟨ret_int (HV.out.symm.trans HR.out), b1⟩
  · rw [if_neg ha]
    have hl1 : (lt : Int) ≤ left := by omega
    by_cases hb : left - lt < ko
    · have HV : Hid (szV left lt ko kv = -1) := by
        show _ = _
        unfold szV; rw [if_neg ha, if_pos hb]
      go_wp2_with (go_at_call 80; refine (szOrder_any _ _ _ _ _ (by omega) (by omega) hko).mono ?_; rintro e w' ⟨rfl, rfl⟩; rw [if_pos (by omega)])
      go_ret
      exact ⟨ret_int (HV.out.symm.trans HR.out), b1⟩
    · have hl2 : (ko : Int) ≤ left - lt := by omega
      by_cases hc : left - lt - ko < kv
      · have HV : Hid (szV left lt ko kv = -1) := by
          show _ = _
          unfold szV; rw [if_neg ha, if_neg hb, if_pos hc]
        go_wp2_with (first
          | (go_at_call 80; refine (szOrder_any _ _ _ _ _ (by omega) (by omega) hko).mono ?_; rintro e w' ⟨rfl, rfl⟩; rw [if_neg (by omega)])
          | (go_at_call 81; refine (szVehicle_any _ _ _ _ _ (by omega) (by omega) hkv).mono ?_; rintro e w' ⟨rfl, rfl⟩; rw [if_pos (by omega)]))
        go_ret
        exact ⟨ret_int (HV.out.symm.trans HR.out), b1⟩
      · have hl3 : (kv : Int) ≤ left - lt - ko := by omega
        have HV : Hid (szV left lt ko kv = left - lt - ko - kv) := by
          show _ = _
          unfold szV; rw [if_neg ha, if_neg hb, if_neg hc]
        go_wp2_with (first
          | (go_at_call 80; refine (szOrder_any _ _ _ _ _ (by omega) (by omega) hko).mono ?_; rintro e w' ⟨rfl, rfl⟩; rw [if_neg (by omega)])
          | (go_at_call 81; refine (szVehicle_any _ _ _ _ _ (by omega) (by omega) hkv).mono ?_; rintro e w' ⟨rfl, rfl⟩; rw [if_neg (by omega)]))
        go_ret
        exact ⟨ret_int (HV.out.symm.trans HR.out), b1⟩

/-- A case that a call has made lies in this world: three rows of its own. -/
def CaseAt (w : World) (g go gv : Nat) (zs os vs : List Int) : Prop :=
  w.heap[g]? = some (.cells (cellsOf zs) 2 (0, 0)) ∧ w.heap[go]? = some (.cells (cellsOf os) 149 (0, 0)) ∧ w.heap[gv]? = some (.cells (cellsOf vs) 95 (0, 0))
theorem CaseAt.below {w w' : World} {g go gv : Nat} {zs os vs : List Int} (h : CaseAt w g go gv zs os vs) (hb : Below w.heap.size w w') : CaseAt w' g go gv zs os vs :=
  ⟨below_row hb (row_lt h.1) h.1, below_row hb (row_lt h.2.1) h.2.1, below_row hb (row_lt h.2.2) h.2.2⟩
theorem CaseAt.t {w : World} {g go gv : Nat} {zs os vs : List Int} (h : CaseAt w g go gv zs os vs) : IntsAt w (some ⟨g, 0, none⟩) zs := IntsAt.of_row h.1
theorem CaseAt.o {w : World} {g go gv : Nat} {zs os vs : List Int} (h : CaseAt w g go gv zs os vs) : IntsAt w (some ⟨go, 0, none⟩) os := IntsAt.of_row h.2.1
theorem CaseAt.v {w : World} {g go gv : Nat} {zs os vs : List Int} (h : CaseAt w g go gv zs os vs) : IntsAt w (some ⟨gv, 0, none⟩) vs := IntsAt.of_row h.2.2

/-- Inside toCase: the argument's box, the result's cells, the case in the making. -/
def TC (w W : World) (src z out : Array Value) : Prop :=
  Below w.heap.size w W ∧ W.heap[w.heap.size]? = some (.cells src 61 (0, 0)) ∧ W.heap[w.heap.size + 1]? = some (.cells z 30 (0, 0)) ∧ W.heap[w.heap.size + 1 + 1]? = some (.cells out 30 (0, 0))
theorem TC.below {w W W' : World} {src z out : Array Value} (h : TC w W src z out) (hb : Below W.heap.size W W') : TC w W' src z out :=
  ⟨h.1.trans (hb.mono h.1.size), below_row hb (row_lt h.2.1) h.2.1, below_row hb (row_lt h.2.2.1) h.2.2.1, below_row hb (row_lt h.2.2.2) h.2.2.2⟩
theorem TC.set {w W : World} {src z out : Array Value} (h : TC w W src z out) (i : Nat) (v : Value) : TC w (W.setCell ⟨w.heap.size + 1 + 1, i, none⟩ v) src z (out.setIfInBounds i v) := by
  refine ⟨h.1.setCell (by simp <;> omega) _, ?_, ?_, heap_setCell_same _ _ _ _ _ _ h.2.2.2⟩
  · rw [heap_setCell_other _ _ _ _ (by simp <;> omega)]; exact h.2.1
  · rw [heap_setCell_other _ _ _ _ (by simp <;> omega)]; exact h.2.2.1
theorem row_set {W : World} {g k i : Nat} {o : Obj} {v : Value} (h : W.heap[g]? = some o) (hne : g ≠ k) : (W.setCell ⟨k, i, none⟩ v).heap[g]? = some o := by
  rw [heap_setCell_other _ _ _ _ (by simpa using hne)]; exact h

set_option maxHeartbeats 1000000 in
theorem toCase_any (n fine : Int) (a ao av : Option Addr) (cap ko co kv cv : Nat) (zs os vs : List Int) (w : World) (hA : IntsAt w a zs) (hO : IntsAt w ao os) (hV : IntsAt w av vs) (hlo : os.length = ko * 6) (hlv : vs.length = kv * 5) (hlt : zs.length ≤ 1048576) (hko : ko ≤ 1048576) (hkv : kv ≤ 1048576) :
    Calls Try.prog 31 #[.agg #[.int .i64 n, .slice a zs.length cap, .slice ao ko co, .slice av kv cv, .int .i64 fine]] w fun e w' => ∃ g go gv, w.heap.size ≤ g ∧ w.heap.size ≤ go ∧ w.heap.size ≤ gv ∧ e = .returned (.agg #[.int .i64 n, .slice (some ⟨g, 0, none⟩) zs.length zs.length, .slice (some ⟨go, 0, none⟩) ko ko, .slice (some ⟨gv, 0, none⟩) kv kv, .int .i64 fine]) ∧ Below w.heap.size w w' ∧ CaseAt w' g go gv zs os vs := by
  have HA : Hid (IntsAt w a zs) := hA
  have HO : Hid (IntsAt w ao os) := hO
  have HV : Hid (IntsAt w av vs) := hV
  have HLO : Hid _ := hlo
  have HLV : Hid _ := hlv
  clear hA hO hV hlo hlv
  go_enter Try.func31, Try.ntmps31
  go_wp2_with fail
  have B0 : Hid (Below w.heap.size w (((w.alloc (Obj.cells #[Value.int IntKind.i64 n, Value.slice a zs.length cap, Value.slice ao ko co, Value.slice av kv cv, Value.int IntKind.i64 fine] 61)).alloc (Obj.cells #[Value.int IntKind.i64 0, Value.slice none 0 0, Value.slice none 0 0, Value.slice none 0 0, Value.int IntKind.i64 0] 30)).alloc (Obj.cells #[Value.int IntKind.i64 0, Value.slice none 0 0, Value.slice none 0 0, Value.slice none 0 0, Value.int IntKind.i64 0] 30))) :=
    (((Below.refl _ _).alloc (Nat.le_refl _) _).alloc (by simp) _).alloc (by simp <;> omega) _
  have R0 : Hid ((((w.alloc (Obj.cells #[Value.int IntKind.i64 n, Value.slice a zs.length cap, Value.slice ao ko co, Value.slice av kv cv, Value.int IntKind.i64 fine] 61)).alloc (Obj.cells #[Value.int IntKind.i64 0, Value.slice none 0 0, Value.slice none 0 0, Value.slice none 0 0, Value.int IntKind.i64 0] 30)).alloc (Obj.cells #[Value.int IntKind.i64 0, Value.slice none 0 0, Value.slice none 0 0, Value.slice none 0 0, Value.int IntKind.i64 0] 30)).heap[w.heap.size]? = some (.cells #[Value.int IntKind.i64 n, Value.slice a zs.length cap, Value.slice ao ko co, Value.slice av kv cv, Value.int IntKind.i64 fine] 61 (0, 0))) := by
    show _ = _
    rw [heap_alloc_old _ _ (by simp <;> omega)]
    exact heap_alloc2_old _ _ _
  have R1 : Hid ((((w.alloc (Obj.cells #[Value.int IntKind.i64 n, Value.slice a zs.length cap, Value.slice ao ko co, Value.slice av kv cv, Value.int IntKind.i64 fine] 61)).alloc (Obj.cells #[Value.int IntKind.i64 0, Value.slice none 0 0, Value.slice none 0 0, Value.slice none 0 0, Value.int IntKind.i64 0] 30)).alloc (Obj.cells #[Value.int IntKind.i64 0, Value.slice none 0 0, Value.slice none 0 0, Value.slice none 0 0, Value.int IntKind.i64 0] 30)).heap[w.heap.size + 1]? = some (.cells #[Value.int IntKind.i64 0, Value.slice none 0 0, Value.slice none 0 0, Value.slice none 0 0, Value.int IntKind.i64 0] 30 (0, 0))) := by
    show _ = _
    rw [heap_alloc_old _ _ (by simp <;> omega)]
    exact heap_alloc2_new _ _ _
  have R2 : Hid ((((w.alloc (Obj.cells #[Value.int IntKind.i64 n, Value.slice a zs.length cap, Value.slice ao ko co, Value.slice av kv cv, Value.int IntKind.i64 fine] 61)).alloc (Obj.cells #[Value.int IntKind.i64 0, Value.slice none 0 0, Value.slice none 0 0, Value.slice none 0 0, Value.int IntKind.i64 0] 30)).alloc (Obj.cells #[Value.int IntKind.i64 0, Value.slice none 0 0, Value.slice none 0 0, Value.slice none 0 0, Value.int IntKind.i64 0] 30)).heap[w.heap.size + 1 + 1]? = some (.cells #[Value.int IntKind.i64 0, Value.slice none 0 0, Value.slice none 0 0, Value.slice none 0 0, Value.int IntKind.i64 0] 30 (0, 0))) := by
    have := heap_alloc_new ((w.alloc (Obj.cells #[Value.int IntKind.i64 n, Value.slice a zs.length cap, Value.slice ao ko co, Value.slice av kv cv, Value.int IntKind.i64 fine] 61)).alloc (Obj.cells #[Value.int IntKind.i64 0, Value.slice none 0 0, Value.slice none 0 0, Value.slice none 0 0, Value.int IntKind.i64 0] 30)) (Obj.cells #[Value.int IntKind.i64 0, Value.slice none 0 0, Value.slice none 0 0, Value.slice none 0 0, Value.int IntKind.i64 0] 30)
    show _ = _
    simpa using this
  have T0 : Hid (TC w (((w.alloc (Obj.cells #[Value.int IntKind.i64 n, Value.slice a zs.length cap, Value.slice ao ko co, Value.slice av kv cv, Value.int IntKind.i64 fine] 61)).alloc (Obj.cells #[Value.int IntKind.i64 0, Value.slice none 0 0, Value.slice none 0 0, Value.slice none 0 0, Value.int IntKind.i64 0] 30)).alloc (Obj.cells #[Value.int IntKind.i64 0, Value.slice none 0 0, Value.slice none 0 0, Value.slice none 0 0, Value.int IntKind.i64 0] 30)) #[Value.int IntKind.i64 n, Value.slice a zs.length cap, Value.slice ao ko co, Value.slice av kv cv, Value.int IntKind.i64 fine] #[Value.int IntKind.i64 0, Value.slice none 0 0, Value.slice none 0 0, Value.slice none 0 0, Value.int IntKind.i64 0] #[Value.int IntKind.i64 0, Value.slice none 0 0, Value.slice none 0 0, Value.slice none 0 0, Value.int IntKind.i64 0]) := ⟨B0.out, R0.out, R1.out, R2.out⟩
  clear B0 R0 R1 R2
  generalize ((w.alloc (Obj.cells #[Value.int IntKind.i64 n, Value.slice a zs.length cap, Value.slice ao ko co, Value.slice av kv cv, Value.int IntKind.i64 fine] 61)).alloc (Obj.cells #[Value.int IntKind.i64 0, Value.slice none 0 0, Value.slice none 0 0, Value.slice none 0 0, Value.int IntKind.i64 0] 30)).alloc (Obj.cells #[Value.int IntKind.i64 0, Value.slice none 0 0, Value.slice none 0 0, Value.slice none 0 0, Value.int IntKind.i64 0] 30) = W0 at *
  have hW0 := row_lt T0.out.2.2.2
  -- the times
  refine (toMat_any n a cap zs _ (HA.out.below T0.out.1) hlt).mono ?_
  rintro e w1 ⟨g, hg0, rfl, hb, hg⟩
  have T1 : Hid _ := T0.out.below hb
  have hg1 : w.heap.size + 1 + 1 < g := by omega
  have G1 : Hid _ := hg
  clear T0 hb hg hg0 hW0 W0
  obtain ⟨c0, c1, c2, c3, c4⟩ := cells5 T1.out.2.1
  obtain ⟨x0, x1, x2, x3, x4⟩ := cells5 T1.out.2.2.2
  have f0 := fun i => frozen_of_row _ _ i _ _ T1.out.2.2.2
  go_wp2_with fail
  have T2 : Hid (TC w ((w1.setCell ⟨w.heap.size + 1 + 1, 0, none⟩ (.int .i64 n)).setCell ⟨w.heap.size + 1 + 1, 1, none⟩ (.slice (some ⟨g, 0, none⟩) zs.length zs.length)) #[Value.int IntKind.i64 n, Value.slice a zs.length cap, Value.slice ao ko co, Value.slice av kv cv, Value.int IntKind.i64 fine] #[Value.int IntKind.i64 0, Value.slice none 0 0, Value.slice none 0 0, Value.slice none 0 0, Value.int IntKind.i64 0] #[Value.int IntKind.i64 n, Value.slice (some ⟨g, 0, none⟩) zs.length zs.length, Value.slice none 0 0, Value.slice none 0 0, Value.int IntKind.i64 0]) := by
    have := TC.set (TC.set T1.out 0 (.int .i64 n)) 1 (.slice (some ⟨g, 0, none⟩) zs.length zs.length)
    change TC w _ _ _ _
    simpa using this
  have G2 : Hid (((w1.setCell ⟨w.heap.size + 1 + 1, 0, none⟩ (.int .i64 n)).setCell ⟨w.heap.size + 1 + 1, 1, none⟩ (.slice (some ⟨g, 0, none⟩) zs.length zs.length)).heap[g]? = _) := row_set (row_set G1.out (by omega)) (by omega)
  clear T1 G1 c0 c1 c2 c3 c4 x0 x1 x2 x3 x4 f0
  generalize (w1.setCell ⟨w.heap.size + 1 + 1, 0, none⟩ (.int .i64 n)).setCell ⟨w.heap.size + 1 + 1, 1, none⟩ (.slice (some ⟨g, 0, none⟩) zs.length zs.length) = W2 at *
  -- the orders
  have hW2 := row_lt T2.out.2.2.2
  refine (toOrderS_any ao ko co os _ (HO.out.below T2.out.1) HLO.out hko).mono ?_
  rintro e w3 ⟨rfl, hb, hg⟩
  have T3 : Hid _ := T2.out.below hb
  have G3 : Hid _ := below_row hb (row_lt G2.out) G2.out
  have O3 : Hid _ := hg
  obtain ⟨go, HGO⟩ : ∃ go, Hid (W2.heap.size = go) := ⟨_, rfl⟩
  rw [HGO.out] at O3 hW2 ⊢
  clear T2 G2 hb hg HGO W2 w1
  obtain ⟨c0, c1, c2, c3, c4⟩ := cells5 T3.out.2.1
  obtain ⟨x0, x1, x2, x3, x4⟩ := cells5 T3.out.2.2.2
  have f0 := fun i => frozen_of_row _ _ i _ _ T3.out.2.2.2
  go_wp2_with fail
  have T4 : Hid (TC w (w3.setCell ⟨w.heap.size + 1 + 1, 2, none⟩ (.slice (some ⟨go, 0, none⟩) ko ko)) #[Value.int IntKind.i64 n, Value.slice a zs.length cap, Value.slice ao ko co, Value.slice av kv cv, Value.int IntKind.i64 fine] #[Value.int IntKind.i64 0, Value.slice none 0 0, Value.slice none 0 0, Value.slice none 0 0, Value.int IntKind.i64 0] #[Value.int IntKind.i64 n, Value.slice (some ⟨g, 0, none⟩) zs.length zs.length, Value.slice (some ⟨go, 0, none⟩) ko ko, Value.slice none 0 0, Value.int IntKind.i64 0]) := by
    have := TC.set T3.out 2 (.slice (some ⟨go, 0, none⟩) ko ko)
    change TC w _ _ _ _
    simpa using this
  have G4 : Hid ((w3.setCell ⟨w.heap.size + 1 + 1, 2, none⟩ (.slice (some ⟨go, 0, none⟩) ko ko)).heap[g]? = _) := row_set G3.out (by omega)
  have O4 : Hid ((w3.setCell ⟨w.heap.size + 1 + 1, 2, none⟩ (.slice (some ⟨go, 0, none⟩) ko ko)).heap[go]? = _) := row_set O3.out (by omega)
  clear T3 G3 O3 c0 c1 c2 c3 c4 x0 x1 x2 x3 x4 f0
  generalize w3.setCell ⟨w.heap.size + 1 + 1, 2, none⟩ (.slice (some ⟨go, 0, none⟩) ko ko) = W4 at *
  -- the vehicles
  have hW4 := row_lt T4.out.2.2.2
  refine (toVehicleS_any av kv cv vs _ (HV.out.below T4.out.1) HLV.out hkv).mono ?_
  rintro e w5 ⟨rfl, hb, hg⟩
  have T5 : Hid _ := T4.out.below hb
  have G5 : Hid _ := below_row hb (row_lt G4.out) G4.out
  have O5 : Hid _ := below_row hb (row_lt O4.out) O4.out
  have V5 : Hid _ := hg
  obtain ⟨gv, HGV⟩ : ∃ gv, Hid (W4.heap.size = gv) := ⟨_, rfl⟩
  rw [HGV.out] at V5 hW4 ⊢
  clear T4 G4 O4 hb hg HGV W4 w3
  obtain ⟨c0, c1, c2, c3, c4⟩ := cells5 T5.out.2.1
  obtain ⟨z0, z1, z2, z3, z4⟩ := cells5 T5.out.2.2.1
  obtain ⟨x0, x1, x2, x3, x4⟩ := cells5 T5.out.2.2.2
  have f0 := fun i => frozen_of_row _ _ i _ _ T5.out.2.2.2
  have f1 := fun i => frozen_of_row _ _ i _ _ T5.out.2.2.1
  go_wp2
  refine bodyPost_ret (v := .agg #[.int .i64 n, .slice (some ⟨g, 0, none⟩) zs.length zs.length, .slice (some ⟨go, 0, none⟩) ko ko, .slice (some ⟨gv, 0, none⟩) kv kv, .int .i64 fine]) (by simp [results, Try.results31, go_sem, z0, z1, z2, z3, z4]) rfl ⟨g, go, gv, by omega, by omega, by omega, rfl, ?_, ?_⟩
  · repeat (first | with_reducible exact T5.out.1 | refine Below.setCell ?_ (by simp <;> omega) _)
  · refine ⟨?_, ?_, ?_⟩
    · repeat (first | with_reducible exact G5.out | refine row_set ?_ (by omega))
    · repeat (first | with_reducible exact O5.out | refine row_set ?_ (by omega))
    · repeat (first | with_reducible exact V5.out | refine row_set ?_ (by omega))

set_option maxHeartbeats 1000000 in
theorem eqCase_same (n fine : Int) (a ao av a' ao' av' : Option Addr) (cap ko co kv cv cap' co' cv' : Nat) (zs os vs : List Int) (w : World) (hA : IntsAt w a zs) (hO : IntsAt w ao os) (hV : IntsAt w av vs) (hA' : IntsAt w a' zs) (hO' : IntsAt w ao' os) (hV' : IntsAt w av' vs) (hlo : os.length = ko * 6) (hlv : vs.length = kv * 5) (hlt : zs.length ≤ 1125899906842624) (hko : ko ≤ 9223372036854775807) (hkv : kv ≤ 9223372036854775807) :
    Calls Try.prog 34 #[.agg #[.int .i64 n, .slice a zs.length cap, .slice ao ko co, .slice av kv cv, .int .i64 fine], .agg #[.int .i64 n, .slice a' zs.length cap', .slice ao' ko co', .slice av' kv cv', .int .i64 fine]] w fun e w' => e = .returned (.bool true) ∧ Below w.heap.size w w' := by
  have HA : Hid (IntsAt w a zs) := hA
  have HO : Hid (IntsAt w ao os) := hO
  have HV : Hid (IntsAt w av vs) := hV
  have HA' : Hid (IntsAt w a' zs) := hA'
  have HO' : Hid (IntsAt w ao' os) := hO'
  have HV' : Hid (IntsAt w av' vs) := hV'
  have HLO : Hid _ := hlo
  have HLV : Hid _ := hlv
  clear hA hO hV hA' hO' hV' hlo hlv
  have hff : (fine != fine) = false := by simp
  go_enter Try.func34, Try.ntmps34
  go_wp2_with fail
  have B0 : Hid (Below w.heap.size w ((w.alloc (Obj.cells #[Value.int IntKind.i64 n, Value.slice a zs.length cap, Value.slice ao ko co, Value.slice av kv cv, Value.int IntKind.i64 fine] 30)).alloc (Obj.cells #[Value.int IntKind.i64 n, Value.slice a' zs.length cap', Value.slice ao' ko co', Value.slice av' kv cv', Value.int IntKind.i64 fine] 30))) := ((Below.refl _ _).alloc (Nat.le_refl _) _).alloc (by simp) _
  have P0 : Hid (((w.alloc (Obj.cells #[Value.int IntKind.i64 n, Value.slice a zs.length cap, Value.slice ao ko co, Value.slice av kv cv, Value.int IntKind.i64 fine] 30)).alloc (Obj.cells #[Value.int IntKind.i64 n, Value.slice a' zs.length cap', Value.slice ao' ko co', Value.slice av' kv cv', Value.int IntKind.i64 fine] 30)).heap[w.heap.size]? = _) := heap_alloc2_old _ _ _
  have Q0 : Hid (((w.alloc (Obj.cells #[Value.int IntKind.i64 n, Value.slice a zs.length cap, Value.slice ao ko co, Value.slice av kv cv, Value.int IntKind.i64 fine] 30)).alloc (Obj.cells #[Value.int IntKind.i64 n, Value.slice a' zs.length cap', Value.slice ao' ko co', Value.slice av' kv cv', Value.int IntKind.i64 fine] 30)).heap[w.heap.size + 1]? = _) := heap_alloc2_new _ _ _
  generalize (w.alloc (Obj.cells #[Value.int IntKind.i64 n, Value.slice a zs.length cap, Value.slice ao ko co, Value.slice av kv cv, Value.int IntKind.i64 fine] 30)).alloc (Obj.cells #[Value.int IntKind.i64 n, Value.slice a' zs.length cap', Value.slice ao' ko co', Value.slice av' kv cv', Value.int IntKind.i64 fine] 30) = W0 at *
  refine (eqMat_same n a a' cap cap' zs _ (HA.out.below B0.out) (HA'.out.below B0.out) hlt).mono ?_
  rintro e w1 ⟨rfl, hb⟩
  have B1 : Hid (Below w.heap.size w w1) := B0.out.trans (hb.mono B0.out.size)
  have P1 : Hid _ := below_row hb (row_lt P0.out) P0.out
  have Q1 : Hid _ := below_row hb (row_lt Q0.out) Q0.out
  clear hb B0 P0 Q0
  obtain ⟨c0, c1, c2, c3, c4⟩ := cells5 P1.out
  obtain ⟨d0, d1, d2, d3, d4⟩ := cells5 Q1.out
  go_wp2_with fail
  refine (eqOrderS_same ao ao' ko co co' os _ (HO.out.below B1.out) (HO'.out.below B1.out) HLO.out hko).mono ?_
  rintro e w2 ⟨rfl, hb⟩
  have B2 : Hid (Below w.heap.size w w2) := B1.out.trans (hb.mono B1.out.size)
  have P2 : Hid _ := below_row hb (row_lt P1.out) P1.out
  have Q2 : Hid _ := below_row hb (row_lt Q1.out) Q1.out
  clear hb B1 P1 Q1 c0 c1 c2 c3 c4 d0 d1 d2 d3 d4
  obtain ⟨c0, c1, c2, c3, c4⟩ := cells5 P2.out
  obtain ⟨d0, d1, d2, d3, d4⟩ := cells5 Q2.out
  go_wp2_with fail
  refine (eqVehicleS_same av av' kv cv cv' vs _ (HV.out.below B2.out) (HV'.out.below B2.out) HLV.out hkv).mono ?_
  rintro e w3 ⟨rfl, hb⟩
  have B3 : Hid (Below w.heap.size w w3) := B2.out.trans (hb.mono B2.out.size)
  have P3 : Hid _ := below_row hb (row_lt P2.out) P2.out
  have Q3 : Hid _ := below_row hb (row_lt Q2.out) Q2.out
  clear hb B2 P2 Q2 c0 c1 c2 c3 c4 d0 d1 d2 d3 d4
  obtain ⟨c0, c1, c2, c3, c4⟩ := cells5 P3.out
  obtain ⟨d0, d1, d2, d3, d4⟩ := cells5 Q3.out
  go_wp2
  go_ret
  exact ⟨rfl, B3.out⟩

end Go.Proofs.Ytpfikhegmmpogaa
