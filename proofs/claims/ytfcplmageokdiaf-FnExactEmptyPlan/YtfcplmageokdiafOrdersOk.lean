import Derived.Test.YtfcplmageokdiafOrderOk
namespace Go.Proofs.Ytfcplmageokdiaf
open Go.RowKit

set_option maxHeartbeats 1000000 in
theorem ordersOk_any (n fine : Int) (a ao av : Option Addr) (lt cap ko co kv cv : Nat) (zs : List Int) (w : World) (hn1 : 1 ≤ n) (hn2 : n ≤ 16) (hA : IntsAt w ao zs) (hl : zs.length = ko * 6) (hlen : ko ≤ 9223372036854775807) :
    Calls Try.prog 61 #[.agg #[.int .i64 n, .slice a lt cap, .slice ao ko co, .slice av kv cv, .int .i64 fine]] w fun e w' => e = .returned (.bool (ordsB n zs ko)) ∧ Below w.heap.size w w' := by
  have HB0 : Hid (Below w.heap.size w (w.alloc (Obj.cells #[Value.int IntKind.i64 n, Value.slice a lt cap, Value.slice ao ko co, Value.slice av kv cv, Value.int IntKind.i64 fine] 39))) := (Below.refl _ _).alloc (Nat.le_refl _) _
  have HA : Hid (IntsAt w ao zs) := hA
  have HL : Hid (zs.length = ko * 6) := hl
  clear hA hl
  by_cases hmany : ko ≤ 12
  · go_enter Try.func61, Try.ntmps61
    go_wp2_with fail
    go_loopw [3, 13] (fun l t wr => ∃ k : Nat, k ≤ ko ∧ t = .int .i64 k ∧ l = .int .i64 (ordsLast zs k) ∧ ordsTo n zs k ∧ Below w.heap.size w wr ∧ wr.heap[w.heap.size]? = some (.cells #[Value.int IntKind.i64 n, Value.slice a lt cap, Value.slice ao ko co, Value.slice av kv cv, Value.int IntKind.i64 fine] 39 (0, 0))) (fun _ t _ => ko - (intOf t).toNat)
    case atStart => exact ⟨0, Nat.zero_le _, rfl, rfl, ordsTo_zero _ _, HB0.out, heap_alloc_new _ _⟩
    case round =>
      obtain ⟨k, hk, rfl, rfl, ht, hb, g3⟩ := hrel
      have hbd := ordsLast_bd ht
      have HT : Hid _ := ht
      obtain ⟨c0, c1, c2, c3, c4⟩ := cells5 g3
      obtain ⟨l0, HL0⟩ : ∃ t, Hid (ordsLast zs k = t) := ⟨_, rfl⟩
      rw [HL0.out] at hbd ⊢
      have G3 : Hid _ := g3
      have HB : Hid _ := hb
      clear ht
      by_cases hlt : k < ko
      · obtain ⟨b, off, rfl, hcs⟩ := IntsAt.some (IntsAt.below HA.out hb) (j := k * 6) (by rw [HL.out]; omega)
        obtain ⟨r0, r1, r2, r3, r4, r5⟩ := row6_at hcs HL.out k hlt
        clear hcs g3 hb
        obtain ⟨o0, H0⟩ : ∃ t, Hid (og6 zs k 0 = t) := ⟨_, rfl⟩
        obtain ⟨o1, H1⟩ : ∃ t, Hid (og6 zs k 1 = t) := ⟨_, rfl⟩
        obtain ⟨o2, H2⟩ : ∃ t, Hid (og6 zs k 2 = t) := ⟨_, rfl⟩
        obtain ⟨o3, H3⟩ : ∃ t, Hid (og6 zs k 3 = t) := ⟨_, rfl⟩
        obtain ⟨o4, H4⟩ : ∃ t, Hid (og6 zs k 4 = t) := ⟨_, rfl⟩
        obtain ⟨o5, H5⟩ : ∃ t, Hid (og6 zs k 5 = t) := ⟨_, rfl⟩
        rw [H0.out] at r0
        rw [H1.out] at r1
        rw [H2.out] at r2
        rw [H3.out] at r3
        rw [H4.out] at r4
        rw [H5.out] at r5
        have hlb := block_lt_of_cell r0
        simp at hlb
        have HB1 : Hid (Below w.heap.size w (wr.alloc (Obj.cells #[Value.int IntKind.i64 o0, Value.int IntKind.i64 o1, Value.int IntKind.i64 o2, Value.int IntKind.i64 o3, Value.int IntKind.i64 o4, Value.int IntKind.i64 o5] 60))) := HB.out.alloc HB.out.size _
        have G31 : Hid ((wr.alloc (Obj.cells #[Value.int IntKind.i64 o0, Value.int IntKind.i64 o1, Value.int IntKind.i64 o2, Value.int IntKind.i64 o3, Value.int IntKind.i64 o4, Value.int IntKind.i64 o5] 60)).heap[w.heap.size]? = _) := (heap_alloc_old _ _ (row_lt G3.out)).trans G3.out
        have G41 : Hid ((wr.alloc (Obj.cells #[Value.int IntKind.i64 o0, Value.int IntKind.i64 o1, Value.int IntKind.i64 o2, Value.int IntKind.i64 o3, Value.int IntKind.i64 o4, Value.int IntKind.i64 o5] 60)).heap[wr.heap.size]? = _) := heap_alloc_new _ _
        have hlw := row_lt G3.out
        cases h1 : inB o0 (l0 + 1) 1000000000
        · have HN : Hid (ordsB n zs ko = false) := ordsB_bad hlt (ords_id_no (by rw [H0.out, HL0.out, h1]; simp))
          go_wp2_with (first
            | (go_at_call 63; refine (within_any _ _ _ _).mono ?_; rintro e w' ⟨rfl, rfl⟩))
          go_ret
          exact ⟨ret_bool HN.out.symm, HB1.out⟩
        · cases h2 : ordIn n o1 o2 o3 o4 o5
          · have HN : Hid (ordsB n zs ko = false) := ordsB_bad hlt (ords_id_no (by rw [H1.out, H2.out, H3.out, H4.out, H5.out, h2]; simp))
            go_wp2_with (first
              | (go_at_call 63; refine (within_any _ _ _ _).mono ?_; rintro e w' ⟨rfl, rfl⟩)
              | (go_at_call 86; refine (orderOk_any n _ _ _ _ _ _ _ _ hn1 hn2).mono ?_; rintro e w2 ⟨rfl, hb2⟩))
            go_ret
            exact ⟨ret_bool HN.out.symm, HB1.out.trans (hb2.mono HB1.out.size)⟩
          · have HS : Hid (ordsTo n zs (k + 1)) := by
              have := ords_id HT.out (by rw [H0.out, HL0.out]; exact h1) (by rw [H1.out, H2.out, H3.out, H4.out, H5.out]; exact h2)
              exact ordsTo_step HT.out this.1 this.2
            go_wp2_with (first
              | (go_at_call 63; refine (within_any _ _ _ _).mono ?_; rintro e w' ⟨rfl, rfl⟩)
              | (go_at_call 86; refine (orderOk_any n _ _ _ _ _ _ _ _ hn1 hn2).mono ?_; rintro e w2 ⟨rfl, hb2⟩; obtain ⟨q0, q1, q2, q3, q4, q5⟩ := cells6 (below_row hb2 (row_lt G41.out) G41.out)))
            obtain ⟨B2, R2⟩ := box_more hb2 HB1.out G31.out
            refine ⟨⟨k + 1, by omega, by go_num, by show _ = Value.int IntKind.i64 (og6 zs k 0); rw [H0.out], HS.out, B2, R2⟩, by simp [intOf]; omega⟩
      · have hkx : k = ko := by omega
        have HN : Hid (ordsB n zs ko = true) := ordsB_yes hmany (hkx ▸ HT.out)
        clear hkx g3 hb
        go_wp2
        go_ret
        exact ⟨ret_bool HN.out.symm, HB.out⟩
  · have HN : Hid (ordsB n zs ko = false) := ordsB_many hmany
    go_enter Try.func61, Try.ntmps61
    go_wp2
    go_ret
    exact ⟨ret_bool HN.out.symm, HB0.out⟩

set_option maxHeartbeats 1000000 in
theorem vehiclesOk_any (n fine : Int) (a ao av : Option Addr) (lt cap ko co kv cv : Nat) (zs : List Int) (w : World) (hn1 : 1 ≤ n) (hn2 : n ≤ 16) (hA : IntsAt w av zs) (hl : zs.length = kv * 5) (hlen : kv ≤ 9223372036854775807) :
    Calls Try.prog 62 #[.agg #[.int .i64 n, .slice a lt cap, .slice ao ko co, .slice av kv cv, .int .i64 fine]] w fun e w' => e = .returned (.bool (vehsB n zs kv)) ∧ Below w.heap.size w w' := by
  have HB0 : Hid (Below w.heap.size w (w.alloc (Obj.cells #[Value.int IntKind.i64 n, Value.slice a lt cap, Value.slice ao ko co, Value.slice av kv cv, Value.int IntKind.i64 fine] 39))) := (Below.refl _ _).alloc (Nat.le_refl _) _
  have HA : Hid (IntsAt w av zs) := hA
  have HL : Hid (zs.length = kv * 5) := hl
  clear hA hl
  by_cases hmany : kv ≤ 5
  · go_enter Try.func62, Try.ntmps62
    go_wp2_with fail
    go_loopw [3, 13] (fun l t wr => ∃ k : Nat, k ≤ kv ∧ t = .int .i64 k ∧ l = .int .i64 (vehsLast zs k) ∧ vehsTo n zs k ∧ Below w.heap.size w wr ∧ wr.heap[w.heap.size]? = some (.cells #[Value.int IntKind.i64 n, Value.slice a lt cap, Value.slice ao ko co, Value.slice av kv cv, Value.int IntKind.i64 fine] 39 (0, 0))) (fun _ t _ => kv - (intOf t).toNat)
    case atStart => exact ⟨0, Nat.zero_le _, rfl, rfl, vehsTo_zero _ _, HB0.out, heap_alloc_new _ _⟩
    case round =>
      obtain ⟨k, hk, rfl, rfl, ht, hb, g3⟩ := hrel
      have hbd := vehsLast_bd ht
      have HT : Hid _ := ht
      obtain ⟨c0, c1, c2, c3, c4⟩ := cells5 g3
      obtain ⟨l0, HL0⟩ : ∃ t, Hid (vehsLast zs k = t) := ⟨_, rfl⟩
      rw [HL0.out] at hbd ⊢
      have G3 : Hid _ := g3
      have HB : Hid _ := hb
      clear ht
      by_cases hlt : k < kv
      · obtain ⟨b, off, rfl, hcs⟩ := IntsAt.some (IntsAt.below HA.out hb) (j := k * 5) (by rw [HL.out]; omega)
        obtain ⟨r0, r1, r2, r3, r4⟩ := row5_at hcs HL.out k hlt
        clear hcs g3 hb
        obtain ⟨o0, H0⟩ : ∃ t, Hid (og5 zs k 0 = t) := ⟨_, rfl⟩
        obtain ⟨o1, H1⟩ : ∃ t, Hid (og5 zs k 1 = t) := ⟨_, rfl⟩
        obtain ⟨o2, H2⟩ : ∃ t, Hid (og5 zs k 2 = t) := ⟨_, rfl⟩
        obtain ⟨o3, H3⟩ : ∃ t, Hid (og5 zs k 3 = t) := ⟨_, rfl⟩
        obtain ⟨o4, H4⟩ : ∃ t, Hid (og5 zs k 4 = t) := ⟨_, rfl⟩
        rw [H0.out] at r0
        rw [H1.out] at r1
        rw [H2.out] at r2
        rw [H3.out] at r3
        rw [H4.out] at r4
        have hlb := block_lt_of_cell r0
        simp at hlb
        have HB1 : Hid (Below w.heap.size w (wr.alloc (Obj.cells #[Value.int IntKind.i64 o0, Value.int IntKind.i64 o1, Value.int IntKind.i64 o2, Value.int IntKind.i64 o3, Value.int IntKind.i64 o4] 92))) := HB.out.alloc HB.out.size _
        have G31 : Hid ((wr.alloc (Obj.cells #[Value.int IntKind.i64 o0, Value.int IntKind.i64 o1, Value.int IntKind.i64 o2, Value.int IntKind.i64 o3, Value.int IntKind.i64 o4] 92)).heap[w.heap.size]? = _) := (heap_alloc_old _ _ (row_lt G3.out)).trans G3.out
        have G41 : Hid ((wr.alloc (Obj.cells #[Value.int IntKind.i64 o0, Value.int IntKind.i64 o1, Value.int IntKind.i64 o2, Value.int IntKind.i64 o3, Value.int IntKind.i64 o4] 92)).heap[wr.heap.size]? = _) := heap_alloc_new _ _
        have hlw := row_lt G3.out
        cases h1 : inB o0 (l0 + 1) 1000000000
        · have HN : Hid (vehsB n zs kv = false) := vehsB_bad hlt (vehs_id_no (by rw [H0.out, HL0.out, h1]; simp))
          go_wp2_with (first
            | (go_at_call 63; refine (within_any _ _ _ _).mono ?_; rintro e w' ⟨rfl, rfl⟩))
          go_ret
          exact ⟨ret_bool HN.out.symm, HB1.out⟩
        · cases h2 : vehIn n o1 o2 o3 o4
          · have HN : Hid (vehsB n zs kv = false) := vehsB_bad hlt (vehs_id_no (by rw [H1.out, H2.out, H3.out, H4.out, h2]; simp))
            go_wp2_with (first
              | (go_at_call 63; refine (within_any _ _ _ _).mono ?_; rintro e w' ⟨rfl, rfl⟩)
              | (go_at_call 87; refine (vehicleOk_any n _ _ _ _ _ _ _ hn1 hn2).mono ?_; rintro e w2 ⟨rfl, hb2⟩))
            go_ret
            exact ⟨ret_bool HN.out.symm, HB1.out.trans (hb2.mono HB1.out.size)⟩
          · have HS : Hid (vehsTo n zs (k + 1)) := by
              have := vehs_id HT.out (by rw [H0.out, HL0.out]; exact h1) (by rw [H1.out, H2.out, H3.out, H4.out]; exact h2)
              exact vehsTo_step HT.out this.1 this.2
            go_wp2_with (first
              | (go_at_call 63; refine (within_any _ _ _ _).mono ?_; rintro e w' ⟨rfl, rfl⟩)
              | (go_at_call 87; refine (vehicleOk_any n _ _ _ _ _ _ _ hn1 hn2).mono ?_; rintro e w2 ⟨rfl, hb2⟩; obtain ⟨q0, q1, q2, q3, q4⟩ := cells5 (below_row hb2 (row_lt G41.out) G41.out)))
            obtain ⟨B2, R2⟩ := box_more hb2 HB1.out G31.out
            refine ⟨⟨k + 1, by omega, by go_num, by show _ = Value.int IntKind.i64 (og5 zs k 0); rw [H0.out], HS.out, B2, R2⟩, by simp [intOf]; omega⟩
      · have hkx : k = kv := by omega
        have HN : Hid (vehsB n zs kv = true) := vehsB_yes hmany (hkx ▸ HT.out)
        clear hkx g3 hb
        go_wp2
        go_ret
        exact ⟨ret_bool HN.out.symm, HB.out⟩
  · have HN : Hid (vehsB n zs kv = false) := vehsB_many hmany
    go_enter Try.func62, Try.ntmps62
    go_wp2
    go_ret
    exact ⟨ret_bool HN.out.symm, HB0.out⟩

end Go.Proofs.Ytfcplmageokdiaf
