import Derived.Test.YtdnfgeojagagnahW8
namespace Go.Proofs.Ytdnfgeojagagnah
open Go.RowKit

set_option maxHeartbeats 1000000 in
theorem implPath_no (n : Int) (a b : Option Addr) (cap c2 len : Nat) (zs : List Int) (w : World) (hA : IntsAt w a zs) (h : ¬ (matB n zs = true ∧ len ≤ 100)) (hlen : len ≤ 9223372036854775807) :
    Calls Try.prog 15 #[.agg #[.int .i64 n, .slice a zs.length cap], .slice b len c2] w fun e w' => e = .returned (.int .i64 (-1)) ∧ Below w.heap.size w w' := by
  have HA0 : Hid (IntsAt (w.alloc (Obj.cells #[Value.int IntKind.i64 n, Value.slice a zs.length cap] 27)) a zs) := hA.below ((Below.refl _ _).alloc (Nat.le_refl _) _)
  clear hA
  have hz := (zero_of_info Try.info41).1
  generalize hz0 : cellsOf zeros = z0 at hz
  have HZ : Hid (cellsOf zeros = z0) := hz0
  clear hz0
  cases hm : matB n zs
  · have HM : Hid _ := hm
    clear hm h
    go_enter Try.func15, Try.ntmps15
    go_wp2_with fail
    refine (grid_any n a cap zs _ HA0.out).mono ?_
    rintro e w1 ⟨rfl, hb⟩
    rw [HM.out]
    obtain ⟨b1, r1, c0, c1⟩ := box2 hb
    obtain ⟨bW, rW, gW⟩ := grid_world (cellsOf (gridRes n zs)) b1 r1
    have BW : Hid _ := bW
    have RW : Hid _ := rW
    have GW : Hid _ := gW
    clear hb r1 b1 c0 c1 bW rW gW
    obtain ⟨gr, HGR⟩ : ∃ gr, Hid (cellsOf (gridRes n zs) = gr) := ⟨_, rfl⟩
    rw [HGR.out] at BW RW GW ⊢
    go_wp2_with (
      with_reducible refine wpList_store_row ?_ 41 (.tmp 5) (.tmp 13) ?_ w1.heap.size gr ?_ ?_ 41 z0 ?_ ?_ ?_ ?_ ?_
      · rfl
      · rfl
      · rfl
      · rfl
      · exact heap_alloc_new _ _
      · rw [← HGR.out]; exact size41_of (gridRes_length _ _)
      · rw [← HZ.out, ← HGR.out, cellsOf_size, cellsOf_size, zeros_length, gridRes_length]
      · rw [← HGR.out]; exact cellsOf_one _
      rw [World.setRow_alloc_new]
      generalize w1.alloc (Obj.cells gr 41) = W at *)
    go_ret
    exact ⟨rfl, BW.out⟩
  · have HM : Hid _ := hm
    have hgt : 100 < len := Nat.lt_of_not_le fun k => h ⟨hm, k⟩
    clear hm h
    go_enter Try.func15, Try.ntmps15
    go_wp2_with fail
    refine (grid_any n a cap zs _ HA0.out).mono ?_
    rintro e w1 ⟨rfl, hb⟩
    rw [HM.out]
    obtain ⟨b1, r1, c0, c1⟩ := box2 hb
    obtain ⟨bW, rW, gW⟩ := grid_world (cellsOf (gridRes n zs)) b1 r1
    have BW : Hid _ := bW
    have RW : Hid _ := rW
    have GW : Hid _ := gW
    clear hb r1 b1 c0 c1 bW rW gW
    obtain ⟨gr, HGR⟩ : ∃ gr, Hid (cellsOf (gridRes n zs) = gr) := ⟨_, rfl⟩
    rw [HGR.out] at BW RW GW ⊢
    go_wp2_with (
      with_reducible refine wpList_store_row ?_ 41 (.tmp 5) (.tmp 13) ?_ w1.heap.size gr ?_ ?_ 41 z0 ?_ ?_ ?_ ?_ ?_
      · rfl
      · rfl
      · rfl
      · rfl
      · exact heap_alloc_new _ _
      · rw [← HGR.out]; exact size41_of (gridRes_length _ _)
      · rw [← HZ.out, ← HGR.out, cellsOf_size, cellsOf_size, zeros_length, gridRes_length]
      · rw [← HGR.out]; exact cellsOf_one _
      rw [World.setRow_alloc_new]
      generalize w1.alloc (Obj.cells gr 41) = W at *)
    go_ret
    exact ⟨rfl, BW.out⟩

set_option maxHeartbeats 1000000 in
theorem implPath_loop (n : Nat) (a b : Option Addr) (cap c2 : Nat) (zs ps : List Int) (w : World) (hA : IntsAt w a zs) (hB : IntsAt w b ps) (hm : matB n zs = true) (hlen : ps.length ≤ 100) :
    Calls Try.prog 15 #[.agg #[.int .i64 n, .slice a zs.length cap], .slice b ps.length c2] w fun e w' => e = .returned (.int .i64 (pathV n zs ps)) ∧ Below w.heap.size w w' := by
  have HA0 : Hid (IntsAt (w.alloc (Obj.cells #[Value.int IntKind.i64 n, Value.slice a zs.length cap] 27)) a zs) := hA.below ((Below.refl _ _).alloc (Nat.le_refl _) _)
  have HB : Hid (IntsAt w b ps) := hB
  obtain ⟨hn1, hn2, hl, _⟩ := matB_true hm
  have HM : Hid _ := hm
  clear hA hB hm hl
  have hz := (zero_of_info Try.info41).1
  generalize hz0 : cellsOf zeros = z0 at hz
  have HZ : Hid (cellsOf zeros = z0) := hz0
  clear hz0
  go_enter Try.func15, Try.ntmps15
  go_wp2_with fail
  refine (grid_any n a cap zs _ HA0.out).mono ?_
  rintro e w1 ⟨rfl, hb⟩
  rw [HM.out]
  obtain ⟨b1, r1, c0, c1⟩ := box2 hb
  obtain ⟨bW, rW, gW⟩ := grid_world (cellsOf (gridRes n zs)) b1 r1
  have BW : Hid _ := bW
  have RW : Hid _ := rW
  have GW : Hid _ := gW
  clear hb r1 b1 c0 c1 bW rW gW
  obtain ⟨gr, HGR⟩ : ∃ gr, Hid (cellsOf (gridRes n zs) = gr) := ⟨_, rfl⟩
  rw [HGR.out] at BW RW GW ⊢
  go_wp2_with (
    with_reducible refine wpList_store_row ?_ 41 (.tmp 5) (.tmp 13) ?_ w1.heap.size gr ?_ ?_ 41 z0 ?_ ?_ ?_ ?_ ?_
    · rfl
    · rfl
    · rfl
    · rfl
    · exact heap_alloc_new _ _
    · rw [← HGR.out]; exact size41_of (gridRes_length _ _)
    · rw [← HZ.out, ← HGR.out, cellsOf_size, cellsOf_size, zeros_length, gridRes_length]
    · rw [← HGR.out]; exact cellsOf_one _
    rw [World.setRow_alloc_new]
    generalize w1.alloc (Obj.cells gr 41) = W at *)
  clear hz
  obtain ⟨gk, HGK⟩ : ∃ gk, Hid (w1.heap.size = gk) := ⟨_, rfl⟩
  rw [HGK.out] at GW ⊢
  go_loopw [7, 24] (fun sm t wr => ∃ k : Nat, k ≤ ps.length ∧ t = .int .i64 k ∧ sm = .int .i64 (pathTo n zs ps k) ∧ placesTo n ps k ∧ Below w.heap.size w wr ∧ wr.heap[w.heap.size]? = some (.cells #[.int .i64 n, .slice a zs.length cap] 27 (0, 0)) ∧ wr.heap[gk]? = some (.cells gr 41 (0, 0))) (fun _ t _ => ps.length - (intOf t).toNat)
  case atStart => exact ⟨0, Nat.zero_le _, rfl, rfl, fun j hj => by omega, BW.out, RW.out, GW.out⟩
  case round =>
    clear BW RW GW
    obtain ⟨k, hk, rfl, rfl, hpl, hb, g3, g4⟩ := hrel
    have c0 := cell_of_row _ _ 0 _ _ _ g3
    have c1 := cell_of_row _ _ 1 _ _ _ g3
    simp at c0 c1
    have hbd := pathTo_bd (zs := zs) HM.out k hpl
    have HP : Hid (placesTo n ps k) := hpl
    have G3 : Hid _ := g3
    have G4 : Hid _ := g4
    have HBl : Hid _ := hb
    clear hpl
    obtain ⟨s0, HS0⟩ : ∃ s0, Hid (pathTo n zs ps k = s0) := ⟨_, rfl⟩
    rw [HS0.out] at hbd ⊢
    by_cases hlt : k < ps.length
    · obtain ⟨b2, o2, rfl, hcs⟩ := IntsAt.some (IntsAt.below HB.out hb) hlt
      have ct := hcs k hlt
      have HCS : Hid _ := hcs
      clear hcs g3 g4 hb
      obtain ⟨p, HPk⟩ : ∃ p, Hid (ps.getD k 0 = p) := ⟨_, rfl⟩
      rw [HPk.out] at ct
      cases hin : inB p 0 ((n : Int) - 1)
      · have HV : Hid (pathV n zs ps = -1) := pathV_no (by
          rintro ⟨_, _, h3⟩
          have := h3 k hlt
          rw [HPk.out, hin] at this
          cases this)
        go_wp2_with (go_at_call 21; refine (isPlace_any _ _ _ _ hn1 hn2).mono ?_; rintro e w2 ⟨rfl, hb2⟩)
        go_ret
        exact ⟨ret_int HV.out.symm, HBl.out.trans (hb2.mono HBl.out.size)⟩
      · have HP1 : Hid (placesTo n ps (k + 1)) := by
          intro j hj
          by_cases e : j = k
          · rw [e, HPk.out]; exact hin
          · exact HP.out j (by omega)
        have hp := inB_true hin
        obtain ⟨p, rfl⟩ := Int.eq_ofNat_of_zero_le hp.1
        by_cases hk0 : k = 0
        · have HS1 : Hid (pathTo n zs ps (k + 1) = s0) := by
            show _ = _
            unfold pathTo
            rw [if_pos hk0, HS0.out, Int.add_zero]
          have hk1 : k ≤ 0 := by omega
          clear hk0
          go_wp2_with (go_at_call 21; refine (isPlace_any _ _ _ _ hn1 hn2).mono ?_; rintro e w2 ⟨rfl, hb2⟩)
          obtain ⟨B2, R2, _, _⟩ := box2_more hb2 HBl.out G3.out
          refine ⟨⟨k + 1, by omega, by go_num, by rw [HS1.out], HP1.out, B2, R2, below_row hb2 (row_lt G4.out) G4.out⟩, by simp [intOf]; omega⟩
        · have hk1 : 0 < k := by omega
          have ctm := HCS.out (k - 1) (by omega)
          obtain ⟨q, HQ⟩ : ∃ q, Hid (ps.getD (k - 1) 0 = q) := ⟨_, rfl⟩
          rw [HQ.out] at ctm
          have hq := inB_true (HQ.out ▸ HP.out (k - 1) (by omega))
          obtain ⟨q, rfl⟩ := Int.eq_ofNat_of_zero_le hq.1
          have htb := mat_cell_bd HM.out q p (by omega) (by omega)
          obtain ⟨t, HTT⟩ : ∃ t, Hid (zs.getD (q * n + p) 0 = t) := ⟨_, rfl⟩
          rw [HTT.out] at htb
          have HS1 : Hid (pathTo n zs ps (k + 1) = s0 + t) := by
            show _ = _
            unfold pathTo
            rw [if_neg (by omega), HS0.out, HQ.out, HPk.out, Int.toNat_natCast, Int.toNat_natCast, HTT.out]
          have hkm : k - 1 < ps.length := by omega
          have hlb := block_lt_of_cell ctm
          simp at hlb
          have HLB : Hid _ := hlb
          have HCM : Hid _ := ctm
          clear hk0 hlb ctm
          go_wp2_with (
            go_at_call 21
            refine (isPlace_any _ _ _ _ hn1 hn2).mono ?_
            rintro e w2 ⟨rfl, hb2⟩
            have cg := grid_cell (HGR.out.symm ▸ below_row hb2 (row_lt G4.out) G4.out) HM.out (x := q) (y := p) (by omega) (by omega) (by omega)
            rw [HTT.out] at cg
            have ctm := (hb2.cell (p := ⟨b2, o2 + (k - 1), none⟩) HLB.out).trans HCM.out)
          obtain ⟨B2, R2, _, _⟩ := box2_more hb2 HBl.out G3.out
          refine ⟨⟨k + 1, by omega, by go_num, by rw [HS1.out], HP1.out, B2, R2, below_row hb2 (row_lt G4.out) G4.out⟩, by simp [intOf]; omega⟩
    · have hkl : k = ps.length := by omega
      have HV : Hid (pathV n zs ps = pathTo n zs ps k) := by
        show _ = _
        rw [hkl]
        exact pathV_yes HM.out hlen (hkl ▸ HP.out)
      clear hkl g3 g4
      go_wp2
      go_ret
      exact ⟨ret_int (HV.out.trans HS0.out).symm, HBl.out⟩

theorem implPath_any (n : Int) (a b : Option Addr) (cap c2 : Nat) (zs ps : List Int) (w : World) (hA : IntsAt w a zs) (hB : IntsAt w b ps) (hlen : ps.length ≤ 9223372036854775807) :
    Calls Try.prog 15 #[.agg #[.int .i64 n, .slice a zs.length cap], .slice b ps.length c2] w fun e w' => e = .returned (.int .i64 (pathV n zs ps)) ∧ Below w.heap.size w w' := by
  by_cases h : matB n zs = true ∧ ps.length ≤ 100
  · obtain ⟨m, rfl⟩ := Int.eq_ofNat_of_zero_le (show 0 ≤ n by have := (matB_true h.1).1; omega)
    exact implPath_loop m a b cap c2 zs ps w hA hB h.1 h.2
  · rw [pathV_no fun k => h ⟨k.1, k.2.1⟩]
    exact implPath_no n a b cap c2 _ zs w hA h hlen

end Go.Proofs.Ytdnfgeojagagnah
