import Derived.Test.YtaofpbmdloihgaaPack0
import Derived.Test.YtaofpbmdloihgaaPack1
namespace Go.Proofs.Ytaofpbmdloihgaa
open Go.RowKit

/-- What is read in a row of the call's own is owned. -/
theorem ownV_of_cells {W : World} {base g cap n size : Nat} {E : TypeId} {cur : Array Value} {xs : List Value} (hr : W.heap[g]? = some (.cells cur E (0, 0))) (hsz : cur.size = cap * size) (hn : n ≤ cap) (hm : cap ≤ maxLen) (hb : base ≤ g) (hx : xs.length = n * size) (hc : ∀ j, j < n * size → W.cell? ⟨g, j, none⟩ = xs[j]?) : W.ownsRow base E size (.slice (some ⟨g, 0, none⟩) n cap) n xs := by
  refine ⟨hx, .inr ⟨g, cap, cur, rfl, hb, hr, hn, hm, hsz, ?_⟩⟩
  apply List.ext_getElem?
  intro j
  rw [List.getElem?_take]
  by_cases hj : j < n * size
  · have h1 := hc j hj
    rw [cell_of_row _ _ _ _ _ _ hr] at h1
    rw [if_pos hj, Array.getElem?_toList, h1]
  · rw [if_neg hj, List.getElem?_eq_none (by omega)]

end Go.Proofs.Ytaofpbmdloihgaa

namespace Go.Proofs.Ytaofpbmdloihgaa
open Go.RowKit

set_option maxHeartbeats 400000 in
theorem eqInts_any (a b : Option Addr) (c1 c2 : Nat) (xs ys : List Int) (w : World) (hA : IntsAt w a xs) (hB : IntsAt w b ys) (hl1 : xs.length ≤ 1125899906842624) :
    Calls Try.prog 32 #[.slice a xs.length c1, .slice b ys.length c2] w fun e w' => e = .returned (.bool (decide (xs = ys))) ∧ Below w.heap.size w w' := by
  by_cases hl : xs.length = ys.length
  · have HA : Hid (IntsAt w a xs) := hA
    have HB : Hid (IntsAt w b ys) := hB
    have HL : Hid (xs.length = ys.length) := hl
    rw [hl] at hl1 ⊢
    clear hA hB hl
    go_enter Try.func32, Try.ntmps32
    go_wp2_with fail
    go_loopw [5] (fun t wr => ∃ k : Nat, k ≤ ys.length ∧ t = .int .i64 k ∧ Below w.heap.size w wr ∧ xs.take k = ys.take k) (fun t _ => ys.length - (intOf t).toNat)
    case atStart => exact ⟨0, Nat.zero_le _, rfl, Below.refl _ _, by simp⟩
    case round =>
      obtain ⟨k, hk, rfl, hb, he⟩ := hrel
      have HE : Hid (xs.take k = ys.take k) := he
      clear he
      by_cases hlt : k < ys.length
      · have hxk : k < xs.length := by rw [HL.out]; exact hlt
        obtain ⟨b1, o1, rfl, hc1⟩ := IntsAt.some (IntsAt.below HA.out hb) hxk
        obtain ⟨b2, o2, rfl, hc2⟩ := IntsAt.some (IntsAt.below HB.out hb) hlt
        have ct1 := hc1 k hxk
        have ct2 := hc2 k hlt
        clear hc1 hc2
        generalize ht1 : xs.getD k 0 = t1 at ct1
        generalize ht2 : ys.getD k 0 = t2 at ct2
        have H1 : Hid (xs.getD k 0 = t1) := ht1
        have H2 : Hid (ys.getD k 0 = t2) := ht2
        clear ht1 ht2
        by_cases ht : t1 = t2
        · have htb : (t1 != t2) = false := by simp [ht]
          have HT : Hid (t1 = t2) := ht
          clear ht
          go_wp2
          go_quiet (fail)
          go_wp2
          refine ⟨⟨k + 1, by omega, by go_num, below_drewN hb _, ?_⟩, by simp [intOf]; omega⟩
          rw [take_snoc xs k hxk, take_snoc ys k hlt, HE.out, H1.out, H2.out, HT.out]
        · have htb : (t1 != t2) = true := by simp [ht]
          have HN : Hid (decide (xs = ys) = false) := by
            apply decide_eq_false
            intro e
            exact ht (by rw [← H1.out, ← H2.out, e])
          clear ht
          go_wp2
          go_quiet (fail)
          go_wp2
          go_ret
          exact ⟨ret_bool HN.out.symm, below_drewN hb _⟩
      · have HN : Hid (decide (xs = ys) = true) := by
          apply decide_eq_true
          have h := HE.out
          rwa [List.take_of_length_le (by rw [HL.out]; omega), List.take_of_length_le (by omega)] at h
        go_wp2
        go_ret
        exact ⟨ret_bool HN.out.symm, hb⟩
  · have HN : Hid (decide (xs = ys) = false) := decide_eq_false fun e => hl (by rw [e])
    have hne : ((xs.length : Int) != (ys.length : Int)) = true := by rw [bne_iff_ne]; omega
    clear hA hB hl
    go_enter Try.func32, Try.ntmps32
    go_wp2
    go_ret
    exact ⟨ret_bool HN.out.symm, Below.refl _ _⟩

end Go.Proofs.Ytaofpbmdloihgaa

namespace Go.Proofs.Ytaofpbmdloihgaa
open Go.RowKit

set_option maxHeartbeats 400000 in
theorem eqMat_same (n : Int) (a b : Option Addr) (c1 c2 : Nat) (xs : List Int) (w : World) (hA : IntsAt w a xs) (hB : IntsAt w b xs) (hl1 : xs.length ≤ 1125899906842624) :
    Calls Try.prog 14 #[.agg #[.int .i64 n, .slice a xs.length c1], .agg #[.int .i64 n, .slice b xs.length c2]] w fun e w' => e = .returned (.bool true) ∧ Below w.heap.size w w' := by
  have HB0 : Hid (Below w.heap.size w ((w.alloc (Obj.cells #[Value.int IntKind.i64 n, Value.slice a xs.length c1] 24)).alloc (Obj.cells #[Value.int IntKind.i64 n, Value.slice b xs.length c2] 24))) :=
    ((Below.refl _ _).alloc (Nat.le_refl _) _).alloc (by simp) _
  have HA : Hid (IntsAt w a xs) := hA
  have HB : Hid (IntsAt w b xs) := hB
  clear hA hB
  have hnn : (n != n) = false := by simp
  go_enter Try.func14, Try.ntmps14
  go_wp2_with fail
  refine (eqInts_any a b c1 c2 xs xs _ (HA.out.below HB0.out) (HB.out.below HB0.out) hl1).mono ?_
  rintro e w1 ⟨rfl, hb⟩
  have HB1 : Hid _ := hb
  clear hb
  have hd : decide (xs = xs) = true := by simp
  rw [hd]
  clear hd
  go_wp2
  go_ret
  exact ⟨rfl, HB0.out.trans (HB1.out.mono (by simp <;> omega))⟩

end Go.Proofs.Ytaofpbmdloihgaa

namespace Go.Proofs.Ytaofpbmdloihgaa
open Go.RowKit

theorem Try.infoOrder : (Try.prog.info? 40).map (fun i => (i.zero, i.size, i.bytes)) = some (some (.agg #[Value.int IntKind.i64 0, Value.int IntKind.i64 0, Value.int IntKind.i64 0, Value.int IntKind.i64 0, Value.int IntKind.i64 0, Value.int IntKind.i64 0]), 6, 48) := by kernel_rfl

theorem made_ord (n : Nat) : madeCells (Value.agg #[Value.int IntKind.i64 0, Value.int IntKind.i64 0, Value.int IntKind.i64 0, Value.int IntKind.i64 0, Value.int IntKind.i64 0, Value.int IntKind.i64 0]).cells (n * 6) = cellsOf (List.replicate (n * 6) 0) := by
  apply Array.ext
  · simp [madeCells, cellsOf]
  · intro i h1 h2
    have hm : i % 6 < 6 := Nat.mod_lt _ (by omega)
    simp only [madeCells, cellsOf, Value.cells, Array.getElem_map, Array.getElem_range, List.map_replicate, List.getElem_toArray, List.getElem_replicate]
    generalize i % 6 = j at hm
    have : j = 0 ∨ j = 1 ∨ j = 2 ∨ j = 3 ∨ j = 4 ∨ j = 5 := by omega
    rcases this with rfl | rfl | rfl | rfl | rfl | rfl <;> rfl

theorem make_ord (W : World) (len : Nat) (hlen : len ≤ 1048576) :
    (Instr.makeSlice 25 (.int .i64 len) (.int .i64 len)).run Try.prog W = .ok (.slice (some ⟨W.heap.size, 0, none⟩) len len) (W.alloc (.cells (cellsOf (List.replicate (len * 6) 0)) 40)) := by
  have h := Try.infoOrder
  cases hq : Try.prog.info? 40 with
  | none => simp [hq] at h
  | some i =>
    simp [hq] at h
    obtain ⟨hz, hs, hb⟩ := h
    have := run_make (P := Try.prog) W 25 40 i (.agg #[Value.int IntKind.i64 0, Value.int IntKind.i64 0, Value.int IntKind.i64 0, Value.int IntKind.i64 0, Value.int IntKind.i64 0, Value.int IntKind.i64 0]) Try.underlying25 hq hz .i64 .i64 len len (by omega) (by omega) (by rw [hb]; omega) (by omega)
    rw [this, hs]
    simp only [Int.toNat_natCast, made_ord]

set_option maxHeartbeats 400000 in
theorem eqOrder_same (o0 o1 o2 o3 o4 o5 : Int) (w : World) :
    Calls Try.prog 33 #[.agg #[.int .i64 o0, .int .i64 o1, .int .i64 o2, .int .i64 o3, .int .i64 o4, .int .i64 o5], .agg #[.int .i64 o0, .int .i64 o1, .int .i64 o2, .int .i64 o3, .int .i64 o4, .int .i64 o5]] w fun e w' => e = .returned (.bool true) ∧ Below w.heap.size w w' := by
  have n0 : (o0 != o0) = false := by simp
  have n1 : (o1 != o1) = false := by simp
  have n2 : (o2 != o2) = false := by simp
  have n3 : (o3 != o3) = false := by simp
  have n4 : (o4 != o4) = false := by simp
  have n5 : (o5 != o5) = false := by simp
  go_enter Try.func33, Try.ntmps33
  go_wp2
  go_ret
  exact ⟨rfl, ((Below.refl _ _).alloc (Nat.le_refl _) _).alloc (by simp) _⟩

set_option maxHeartbeats 1000000 in
theorem eqOrderS_same (a a2 : Option Addr) (n c1 c2 : Nat) (zs : List Int) (w : World) (hA : IntsAt w a zs) (hB : IntsAt w a2 zs) (hl : zs.length = n * 6) (hlen : n ≤ 9223372036854775807) :
    Calls Try.prog 15 #[.slice a n c1, .slice a2 n c2] w fun e w' => e = .returned (.bool true) ∧ Below w.heap.size w w' := by
  have HA : Hid (IntsAt w a zs) := hA
  have HA2 : Hid (IntsAt w a2 zs) := hB
  have HL : Hid (zs.length = n * 6) := hl
  have hnn : ((n : Int) != (n : Int)) = false := by simp
  clear hA hB hl
  go_enter Try.func15, Try.ntmps15
  go_wp2_with fail
  go_loopw [5] (fun t wr => ∃ k : Nat, k ≤ n ∧ t = .int .i64 k ∧ Below w.heap.size w wr) (fun t _ => n - (intOf t).toNat)
  case atStart => exact ⟨0, Nat.zero_le _, rfl, Below.refl _ _⟩
  case round =>
    obtain ⟨k, hk, rfl, hb⟩ := hrel
    have HB : Hid _ := hb
    by_cases hlt : k < n
    · obtain ⟨b, off, rfl, hcs⟩ := IntsAt.some (IntsAt.below HA.out hb) (j := k * 6) (by rw [HL.out]; omega)
      obtain ⟨r0, r1, r2, r3, r4, r5⟩ := row6_at hcs HL.out k hlt
      obtain ⟨b2, off2, rfl, hcs2⟩ := IntsAt.some (IntsAt.below HA2.out hb) (j := k * 6) (by rw [HL.out]; omega)
      obtain ⟨p0, p1, p2, p3, p4, p5⟩ := row6_at hcs2 HL.out k hlt
      clear hcs hcs2 hb
      obtain ⟨o0, H0⟩ : ∃ t, Hid (og6 zs k 0 = t) := ⟨_, rfl⟩
      obtain ⟨o1, H1⟩ : ∃ t, Hid (og6 zs k 1 = t) := ⟨_, rfl⟩
      obtain ⟨o2, H2⟩ : ∃ t, Hid (og6 zs k 2 = t) := ⟨_, rfl⟩
      obtain ⟨o3, H3⟩ : ∃ t, Hid (og6 zs k 3 = t) := ⟨_, rfl⟩
      obtain ⟨o4, H4⟩ : ∃ t, Hid (og6 zs k 4 = t) := ⟨_, rfl⟩
      obtain ⟨o5, H5⟩ : ∃ t, Hid (og6 zs k 5 = t) := ⟨_, rfl⟩
      rw [H0.out] at r0
      rw [H1.out] at r1
      rw [H2.out] at r2
      rw [H3.out] at r3
      rw [H4.out] at r4
      rw [H5.out] at r5
      rw [H0.out] at p0
      rw [H1.out] at p1
      rw [H2.out] at p2
      rw [H3.out] at p3
      rw [H4.out] at p4
      rw [H5.out] at p5
      have t0 := fun s : Kin wr => s.cell r0
      have u0 := fun s : Kin wr => s.cell p0
      have t1 := fun s : Kin wr => s.cell r1
      have u1 := fun s : Kin wr => s.cell p1
      have t2 := fun s : Kin wr => s.cell r2
      have u2 := fun s : Kin wr => s.cell p2
      have t3 := fun s : Kin wr => s.cell r3
      have u3 := fun s : Kin wr => s.cell p3
      have t4 := fun s : Kin wr => s.cell r4
      have u4 := fun s : Kin wr => s.cell p4
      have t5 := fun s : Kin wr => s.cell r5
      have u5 := fun s : Kin wr => s.cell p5
      have hkin := Kin.there wr
      go_wp2_with fail
      refine wp_region_kin (by kernel_rfl) (by kernel_rfl) ?_
      repeat (go_big_quiet_step ((go_at_call 33; exact Kin.call (eqOrder_same _ _ _ _ _ _ _))))
      refine wpQuiet_nil ?_
      rintro _ ⟨s, rfl⟩
      have HS2 := HB.out.trans (s.below.mono HB.out.size)
      generalize s.w = w2 at *
      go_wp2
      refine ⟨⟨k + 1, by omega, by go_num, HS2⟩, by simp [intOf]; omega⟩
    · go_wp2
      go_ret
      exact ⟨rfl, HB.out⟩

end Go.Proofs.Ytaofpbmdloihgaa

namespace Go.Proofs.Ytaofpbmdloihgaa
open Go.RowKit

theorem Try.infoVehicle : (Try.prog.info? 42).map (fun i => (i.zero, i.size, i.bytes)) = some (some (.agg #[Value.int IntKind.i64 0, Value.int IntKind.i64 0, Value.int IntKind.i64 0, Value.int IntKind.i64 0, Value.int IntKind.i64 0]), 5, 40) := by kernel_rfl

theorem made_veh (n : Nat) : madeCells (Value.agg #[Value.int IntKind.i64 0, Value.int IntKind.i64 0, Value.int IntKind.i64 0, Value.int IntKind.i64 0, Value.int IntKind.i64 0]).cells (n * 5) = cellsOf (List.replicate (n * 5) 0) := by
  apply Array.ext
  · simp [madeCells, cellsOf]
  · intro i h1 h2
    have hm : i % 5 < 5 := Nat.mod_lt _ (by omega)
    simp only [madeCells, cellsOf, Value.cells, Array.getElem_map, Array.getElem_range, List.map_replicate, List.getElem_toArray, List.getElem_replicate]
    generalize i % 5 = j at hm
    have : j = 0 ∨ j = 1 ∨ j = 2 ∨ j = 3 ∨ j = 4 := by omega
    rcases this with rfl | rfl | rfl | rfl | rfl <;> rfl

theorem make_veh (W : World) (len : Nat) (hlen : len ≤ 1048576) :
    (Instr.makeSlice 26 (.int .i64 len) (.int .i64 len)).run Try.prog W = .ok (.slice (some ⟨W.heap.size, 0, none⟩) len len) (W.alloc (.cells (cellsOf (List.replicate (len * 5) 0)) 42)) := by
  have h := Try.infoVehicle
  cases hq : Try.prog.info? 42 with
  | none => simp [hq] at h
  | some i =>
    simp [hq] at h
    obtain ⟨hz, hs, hb⟩ := h
    have := run_make (P := Try.prog) W 26 42 i (.agg #[Value.int IntKind.i64 0, Value.int IntKind.i64 0, Value.int IntKind.i64 0, Value.int IntKind.i64 0, Value.int IntKind.i64 0]) Try.underlying26 hq hz .i64 .i64 len len (by omega) (by omega) (by rw [hb]; omega) (by omega)
    rw [this, hs]
    simp only [Int.toNat_natCast, made_veh]

set_option maxHeartbeats 400000 in
theorem eqVehicle_same (o0 o1 o2 o3 o4 : Int) (w : World) :
    Calls Try.prog 34 #[.agg #[.int .i64 o0, .int .i64 o1, .int .i64 o2, .int .i64 o3, .int .i64 o4], .agg #[.int .i64 o0, .int .i64 o1, .int .i64 o2, .int .i64 o3, .int .i64 o4]] w fun e w' => e = .returned (.bool true) ∧ Below w.heap.size w w' := by
  have n0 : (o0 != o0) = false := by simp
  have n1 : (o1 != o1) = false := by simp
  have n2 : (o2 != o2) = false := by simp
  have n3 : (o3 != o3) = false := by simp
  have n4 : (o4 != o4) = false := by simp
  go_enter Try.func34, Try.ntmps34
  go_wp2
  go_ret
  exact ⟨rfl, ((Below.refl _ _).alloc (Nat.le_refl _) _).alloc (by simp) _⟩

set_option maxHeartbeats 1000000 in
theorem eqVehicleS_same (a a2 : Option Addr) (n c1 c2 : Nat) (zs : List Int) (w : World) (hA : IntsAt w a zs) (hB : IntsAt w a2 zs) (hl : zs.length = n * 5) (hlen : n ≤ 9223372036854775807) :
    Calls Try.prog 16 #[.slice a n c1, .slice a2 n c2] w fun e w' => e = .returned (.bool true) ∧ Below w.heap.size w w' := by
  have HA : Hid (IntsAt w a zs) := hA
  have HA2 : Hid (IntsAt w a2 zs) := hB
  have HL : Hid (zs.length = n * 5) := hl
  have hnn : ((n : Int) != (n : Int)) = false := by simp
  clear hA hB hl
  go_enter Try.func16, Try.ntmps16
  go_wp2_with fail
  go_loopw [5] (fun t wr => ∃ k : Nat, k ≤ n ∧ t = .int .i64 k ∧ Below w.heap.size w wr) (fun t _ => n - (intOf t).toNat)
  case atStart => exact ⟨0, Nat.zero_le _, rfl, Below.refl _ _⟩
  case round =>
    obtain ⟨k, hk, rfl, hb⟩ := hrel
    have HB : Hid _ := hb
    by_cases hlt : k < n
    · obtain ⟨b, off, rfl, hcs⟩ := IntsAt.some (IntsAt.below HA.out hb) (j := k * 5) (by rw [HL.out]; omega)
      obtain ⟨r0, r1, r2, r3, r4⟩ := row5_at hcs HL.out k hlt
      obtain ⟨b2, off2, rfl, hcs2⟩ := IntsAt.some (IntsAt.below HA2.out hb) (j := k * 5) (by rw [HL.out]; omega)
      obtain ⟨p0, p1, p2, p3, p4⟩ := row5_at hcs2 HL.out k hlt
      clear hcs hcs2 hb
      obtain ⟨o0, H0⟩ : ∃ t, Hid (og5 zs k 0 = t) := ⟨_, rfl⟩
      obtain ⟨o1, H1⟩ : ∃ t, Hid (og5 zs k 1 = t) := ⟨_, rfl⟩
      obtain ⟨o2, H2⟩ : ∃ t, Hid (og5 zs k 2 = t) := ⟨_, rfl⟩
      obtain ⟨o3, H3⟩ : ∃ t, Hid (og5 zs k 3 = t) := ⟨_, rfl⟩
      obtain ⟨o4, H4⟩ : ∃ t, Hid (og5 zs k 4 = t) := ⟨_, rfl⟩
      rw [H0.out] at r0
      rw [H1.out] at r1
      rw [H2.out] at r2
      rw [H3.out] at r3
      rw [H4.out] at r4
      rw [H0.out] at p0
      rw [H1.out] at p1
      rw [H2.out] at p2
      rw [H3.out] at p3
      rw [H4.out] at p4
      have t0 := fun s : Kin wr => s.cell r0
      have u0 := fun s : Kin wr => s.cell p0
      have t1 := fun s : Kin wr => s.cell r1
      have u1 := fun s : Kin wr => s.cell p1
      have t2 := fun s : Kin wr => s.cell r2
      have u2 := fun s : Kin wr => s.cell p2
      have t3 := fun s : Kin wr => s.cell r3
      have u3 := fun s : Kin wr => s.cell p3
      have t4 := fun s : Kin wr => s.cell r4
      have u4 := fun s : Kin wr => s.cell p4
      have hkin := Kin.there wr
      go_wp2_with fail
      refine wp_region_kin (by kernel_rfl) (by kernel_rfl) ?_
      repeat (go_big_quiet_step ((go_at_call 34; exact Kin.call (eqVehicle_same _ _ _ _ _ _))))
      refine wpQuiet_nil ?_
      rintro _ ⟨s, rfl⟩
      have HS2 := HB.out.trans (s.below.mono HB.out.size)
      generalize s.w = w2 at *
      go_wp2
      refine ⟨⟨k + 1, by omega, by go_num, HS2⟩, by simp [intOf]; omega⟩
    · go_wp2
      go_ret
      exact ⟨rfl, HB.out⟩

end Go.Proofs.Ytaofpbmdloihgaa

namespace Go.Proofs.Ytaofpbmdloihgaa
open Go.RowKit

/-- What szCase answers. -/
def szV (left : Int) (lt ko kv : Nat) : Int := if left < lt then -1 else if left - lt < ko then -1 else if left - lt - ko < kv then -1 else left - lt - ko - kv
theorem szV_neg {lt ko kv : Nat} (h : ¬ (lt + ko + kv ≤ 1048576)) : szV 1048576 lt ko kv = -1 := by
  unfold szV
  split
  · rfl
  · split
    · rfl
    · split
      · rfl
      · omega
theorem szV_pos {lt ko kv : Nat} (h : lt + ko + kv ≤ 1048576) : szV 1048576 lt ko kv = 1048576 - lt - ko - kv := by
  unfold szV
  rw [if_neg (by omega), if_neg (by omega), if_neg (by omega)]

/-- A case that a call has made lies in this world: three rows of its own. -/
def CaseAt (w : World) (g go gv : Nat) (zs os vs : List Int) : Prop :=
  w.heap[g]? = some (.cells (cellsOf zs) 2 (0, 0)) ∧ w.heap[go]? = some (.cells (cellsOf os) 40 (0, 0)) ∧ w.heap[gv]? = some (.cells (cellsOf vs) 42 (0, 0))
theorem CaseAt.below {w w' : World} {g go gv : Nat} {zs os vs : List Int} (h : CaseAt w g go gv zs os vs) (hb : Below w.heap.size w w') : CaseAt w' g go gv zs os vs :=
  ⟨below_row hb (row_lt h.1) h.1, below_row hb (row_lt h.2.1) h.2.1, below_row hb (row_lt h.2.2) h.2.2⟩
theorem CaseAt.t {w : World} {g go gv : Nat} {zs os vs : List Int} (h : CaseAt w g go gv zs os vs) : IntsAt w (some ⟨g, 0, none⟩) zs := IntsAt.of_row h.1
theorem CaseAt.o {w : World} {g go gv : Nat} {zs os vs : List Int} (h : CaseAt w g go gv zs os vs) : IntsAt w (some ⟨go, 0, none⟩) os := IntsAt.of_row h.2.1
theorem CaseAt.v {w : World} {g go gv : Nat} {zs os vs : List Int} (h : CaseAt w g go gv zs os vs) : IntsAt w (some ⟨gv, 0, none⟩) vs := IntsAt.of_row h.2.2

theorem row_set {W : World} {g k i : Nat} {o : Obj} {v : Value} (h : W.heap[g]? = some o) (hne : g ≠ k) : (W.setCell ⟨k, i, none⟩ v).heap[g]? = some o := by
  rw [heap_setCell_other _ _ _ _ (by simpa using hne)]; exact h

set_option maxHeartbeats 1000000 in
theorem eqCase_same (n fine : Int) (a ao av a' ao' av' : Option Addr) (cap ko co kv cv cap' co' cv' : Nat) (zs os vs : List Int) (w : World) (hA : IntsAt w a zs) (hO : IntsAt w ao os) (hV : IntsAt w av vs) (hA' : IntsAt w a' zs) (hO' : IntsAt w ao' os) (hV' : IntsAt w av' vs) (hlo : os.length = ko * 6) (hlv : vs.length = kv * 5) (hlt : zs.length ≤ 1125899906842624) (hko : ko ≤ 9223372036854775807) (hkv : kv ≤ 9223372036854775807) :
    Calls Try.prog 6 #[.agg #[.int .i64 n, .slice a zs.length cap, .slice ao ko co, .slice av kv cv, .int .i64 fine], .agg #[.int .i64 n, .slice a' zs.length cap', .slice ao' ko co', .slice av' kv cv', .int .i64 fine]] w fun e w' => e = .returned (.bool true) ∧ Below w.heap.size w w' := by
  have HA : Hid (IntsAt w a zs) := hA
  have HO : Hid (IntsAt w ao os) := hO
  have HV : Hid (IntsAt w av vs) := hV
  have HA' : Hid (IntsAt w a' zs) := hA'
  have HO' : Hid (IntsAt w ao' os) := hO'
  have HV' : Hid (IntsAt w av' vs) := hV'
  have HLO : Hid _ := hlo
  have HLV : Hid _ := hlv
  clear hA hO hV hA' hO' hV' hlo hlv
  have hff : (fine != fine) = false := by simp
  go_enter Try.func6, Try.ntmps6
  go_wp2_with fail
  have B0 : Hid (Below w.heap.size w ((w.alloc (Obj.cells #[Value.int IntKind.i64 n, Value.slice a zs.length cap, Value.slice ao ko co, Value.slice av kv cv, Value.int IntKind.i64 fine] 28)).alloc (Obj.cells #[Value.int IntKind.i64 n, Value.slice a' zs.length cap', Value.slice ao' ko co', Value.slice av' kv cv', Value.int IntKind.i64 fine] 28))) := ((Below.refl _ _).alloc (Nat.le_refl _) _).alloc (by simp) _
  have P0 : Hid (((w.alloc (Obj.cells #[Value.int IntKind.i64 n, Value.slice a zs.length cap, Value.slice ao ko co, Value.slice av kv cv, Value.int IntKind.i64 fine] 28)).alloc (Obj.cells #[Value.int IntKind.i64 n, Value.slice a' zs.length cap', Value.slice ao' ko co', Value.slice av' kv cv', Value.int IntKind.i64 fine] 28)).heap[w.heap.size]? = _) := heap_alloc2_old _ _ _
  have Q0 : Hid (((w.alloc (Obj.cells #[Value.int IntKind.i64 n, Value.slice a zs.length cap, Value.slice ao ko co, Value.slice av kv cv, Value.int IntKind.i64 fine] 28)).alloc (Obj.cells #[Value.int IntKind.i64 n, Value.slice a' zs.length cap', Value.slice ao' ko co', Value.slice av' kv cv', Value.int IntKind.i64 fine] 28)).heap[w.heap.size + 1]? = _) := heap_alloc2_new _ _ _
  generalize (w.alloc (Obj.cells #[Value.int IntKind.i64 n, Value.slice a zs.length cap, Value.slice ao ko co, Value.slice av kv cv, Value.int IntKind.i64 fine] 28)).alloc (Obj.cells #[Value.int IntKind.i64 n, Value.slice a' zs.length cap', Value.slice ao' ko co', Value.slice av' kv cv', Value.int IntKind.i64 fine] 28) = W0 at *
  refine (eqMat_same n a a' cap cap' zs _ (HA.out.below B0.out) (HA'.out.below B0.out) hlt).mono ?_
  rintro e w1 ⟨rfl, hb⟩
  have B1 : Hid (Below w.heap.size w w1) := B0.out.trans (hb.mono B0.out.size)
  have P1 : Hid _ := below_row hb (row_lt P0.out) P0.out
  have Q1 : Hid _ := below_row hb (row_lt Q0.out) Q0.out
  clear hb B0 P0 Q0
  obtain ⟨c0, c1, c2, c3, c4⟩ := cells5 P1.out
  obtain ⟨d0, d1, d2, d3, d4⟩ := cells5 Q1.out
  go_wp2_with fail
  refine (eqOrderS_same ao ao' ko co co' os _ (HO.out.below B1.out) (HO'.out.below B1.out) HLO.out hko).mono ?_
  rintro e w2 ⟨rfl, hb⟩
  have B2 : Hid (Below w.heap.size w w2) := B1.out.trans (hb.mono B1.out.size)
  have P2 : Hid _ := below_row hb (row_lt P1.out) P1.out
  have Q2 : Hid _ := below_row hb (row_lt Q1.out) Q1.out
  clear hb B1 P1 Q1 c0 c1 c2 c3 c4 d0 d1 d2 d3 d4
  obtain ⟨c0, c1, c2, c3, c4⟩ := cells5 P2.out
  obtain ⟨d0, d1, d2, d3, d4⟩ := cells5 Q2.out
  go_wp2_with fail
  refine (eqVehicleS_same av av' kv cv cv' vs _ (HV.out.below B2.out) (HV'.out.below B2.out) HLV.out hkv).mono ?_
  rintro e w3 ⟨rfl, hb⟩
  have B3 : Hid (Below w.heap.size w w3) := B2.out.trans (hb.mono B2.out.size)
  have P3 : Hid _ := below_row hb (row_lt P2.out) P2.out
  have Q3 : Hid _ := below_row hb (row_lt Q2.out) Q2.out
  clear hb B2 P2 Q2 c0 c1 c2 c3 c4 d0 d1 d2 d3 d4
  obtain ⟨c0, c1, c2, c3, c4⟩ := cells5 P3.out
  obtain ⟨d0, d1, d2, d3, d4⟩ := cells5 Q3.out
  go_wp2
  go_ret
  exact ⟨rfl, B3.out⟩

end Go.Proofs.Ytaofpbmdloihgaa
