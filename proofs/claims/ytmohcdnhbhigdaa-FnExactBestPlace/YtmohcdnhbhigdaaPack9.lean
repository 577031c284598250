import Derived.Test.YtmohcdnhbhigdaaPack1
import Derived.Test.YtmohcdnhbhigdaaPack2
namespace Go.Proofs.Ytmohcdnhbhigdaa
open Go.RowKit

set_option maxHeartbeats 1000000 in
theorem specCase_no (n fine : Int) (a ao av : Option Addr) (cap ko co kv cv : Nat) (zs os vs : List Int) (w : World) (hA : IntsAt w a zs) (hko : ko ≤ 9223372036854775807) (hkv : kv ≤ 9223372036854775807) (h : ¬ (matB n zs = true ∧ ko ≤ 12 ∧ kv ≤ 5 ∧ inB fine 0 1000000 = true)) :
    Calls Try.prog 110 #[.agg #[.int .i64 n, .slice a zs.length cap, .slice ao ko co, .slice av kv cv, .int .i64 fine]] w fun e w' => e = .returned (.bool (caseB n zs os vs ko kv fine)) ∧ Below w.heap.size w w' := by
  have HB0 : Hid (Below w.heap.size w (w.alloc (Obj.cells #[Value.int IntKind.i64 n, Value.slice a zs.length cap, Value.slice ao ko co, Value.slice av kv cv, Value.int IntKind.i64 fine] 30))) := (Below.refl _ _).alloc (Nat.le_refl _) _
  have HA : Hid (IntsAt w a zs) := hA
  clear hA
  have HC : Hid (caseB n zs os vs ko kv fine = false) := by
    show _ = _
    unfold caseB
    cases h1 : matB n zs
    · rfl
    · cases h2 : ordsB n os ko
      · rfl
      · cases h3 : vehsB n vs kv
        · rfl
        · cases h4 : inB fine 0 1000000
          · rfl
          · exact absurd ⟨h1, (ordsB_true h2).1, (vehsB_true h3).1, h4⟩ h
  cases h1 : matB n zs
  · have HM : Hid _ := h1
    clear h1 h
    go_enter Try.func110, Try.ntmps110
    go_wp2_with fail
    refine (specMat_any n a cap zs _ (HA.out.below HB0.out)).mono ?_
    rintro e w1 ⟨rfl, hb⟩
    rw [HM.out]
    obtain ⟨b1, r1⟩ := box5 hb
    obtain ⟨c0, c1, c2, c3, c4⟩ := cells5 r1
    have B1 : Hid _ := b1
    have R1 : Hid _ := r1
    clear hb b1 r1
    go_wp2_with (first | (go_at_call 45; refine (l1In_any _ _ _ _).mono ?_; rintro e w' ⟨rfl, rfl⟩))
    go_ret
    exact ⟨ret_bool HC.out.symm, B1.out⟩
  · have HM : Hid _ := h1
    by_cases h2 : ko ≤ 12
    · by_cases h3 : kv ≤ 5
      · have h4 : inB fine 0 1000000 = false := by
          cases h4 : inB fine 0 1000000
          · rfl
          · exact absurd ⟨h1, h2, h3, h4⟩ h
        clear h1 h
        go_enter Try.func110, Try.ntmps110
        go_wp2_with fail
        refine (specMat_any n a cap zs _ (HA.out.below HB0.out)).mono ?_
        rintro e w1 ⟨rfl, hb⟩
        rw [HM.out]
        obtain ⟨b1, r1⟩ := box5 hb
        obtain ⟨c0, c1, c2, c3, c4⟩ := cells5 r1
        have B1 : Hid _ := b1
        have R1 : Hid _ := r1
        clear hb b1 r1
        go_wp2_with (first | (go_at_call 45; refine (l1In_any _ _ _ _).mono ?_; rintro e w' ⟨rfl, rfl⟩))
        go_ret
        exact ⟨ret_bool HC.out.symm, B1.out⟩
      · clear h1 h
        go_enter Try.func110, Try.ntmps110
        go_wp2_with fail
        refine (specMat_any n a cap zs _ (HA.out.below HB0.out)).mono ?_
        rintro e w1 ⟨rfl, hb⟩
        rw [HM.out]
        obtain ⟨b1, r1⟩ := box5 hb
        obtain ⟨c0, c1, c2, c3, c4⟩ := cells5 r1
        have B1 : Hid _ := b1
        have R1 : Hid _ := r1
        clear hb b1 r1
        go_wp2_with (first | (go_at_call 45; refine (l1In_any _ _ _ _).mono ?_; rintro e w' ⟨rfl, rfl⟩))
        go_ret
        exact ⟨ret_bool HC.out.symm, B1.out⟩
    · clear h1 h
      go_enter Try.func110, Try.ntmps110
      go_wp2_with fail
      refine (specMat_any n a cap zs _ (HA.out.below HB0.out)).mono ?_
      rintro e w1 ⟨rfl, hb⟩
      rw [HM.out]
      obtain ⟨b1, r1⟩ := box5 hb
      obtain ⟨c0, c1, c2, c3, c4⟩ := cells5 r1
      have B1 : Hid _ := b1
      have R1 : Hid _ := r1
      clear hb b1 r1
      go_wp2_with (first | (go_at_call 45; refine (l1In_any _ _ _ _).mono ?_; rintro e w' ⟨rfl, rfl⟩))
      go_ret
      exact ⟨ret_bool HC.out.symm, B1.out⟩

theorem caseB_def (n : Int) (zs os vs : List Int) (ko kv : Nat) (fine : Int) : caseB n zs os vs ko kv fine = (matB n zs && ordsB n os ko && vehsB n vs kv && inB fine 0 1000000) := rfl

set_option maxHeartbeats 2000000 in
theorem specCase_loop (n fine : Int) (a ao av : Option Addr) (cap ko co kv cv : Nat) (zs os vs : List Int) (w : World) (hA : IntsAt w a zs) (hO : IntsAt w ao os) (hV : IntsAt w av vs) (hlo : os.length = ko * 6) (hlv : vs.length = kv * 5) (hm : matB n zs = true) (hko : ko ≤ 12) (hkv : kv ≤ 5) (hf : inB fine 0 1000000 = true) :
    Calls Try.prog 110 #[.agg #[.int .i64 n, .slice a zs.length cap, .slice ao ko co, .slice av kv cv, .int .i64 fine]] w fun e w' => e = .returned (.bool (caseB n zs os vs ko kv fine)) ∧ Below w.heap.size w w' := by
  have HB0 : Hid (Below w.heap.size w (w.alloc (Obj.cells #[Value.int IntKind.i64 n, Value.slice a zs.length cap, Value.slice ao ko co, Value.slice av kv cv, Value.int IntKind.i64 fine] 30))) := (Below.refl _ _).alloc (Nat.le_refl _) _
  have HA : Hid (IntsAt w a zs) := hA
  have HX6 : Hid (IntsAt w ao os) := hO
  have HX5 : Hid (IntsAt w av vs) := hV
  have HLX6 : Hid (os.length = ko * 6) := hlo
  have HLX5 : Hid (vs.length = kv * 5) := hlv
  have HM : Hid _ := hm
  obtain ⟨hn1, hn2, _, _⟩ := matB_true hm
  have hdk : decide ((12 : Int) < (ko : Int)) = false := by simp; omega
  have hdv : decide ((5 : Int) < (kv : Int)) = false := by simp; omega
  clear hA hO hV hlo hlv hm
  go_enter Try.func110, Try.ntmps110
  go_wp2_with fail
  refine (specMat_any n a cap zs _ (HA.out.below HB0.out)).mono ?_
  rintro e w1 ⟨rfl, hb⟩
  rw [HM.out]
  obtain ⟨b1, r1⟩ := box5 hb
  obtain ⟨c0, c1, c2, c3, c4⟩ := cells5 r1
  have B1 : Hid _ := b1
  have R1 : Hid _ := r1
  clear hb b1 r1
  go_wp2_with (first | (go_at_call 45; refine (l1In_any _ _ _ _).mono ?_; rintro e w' ⟨rfl, rfl⟩))
  clear c0 c1 c2 c3 c4
  go_loopw [3] (fun t wr => ∃ k : Nat, k ≤ ko ∧ t = .int .i64 k ∧ ordsTo n os k ∧ Below w.heap.size w wr ∧ wr.heap[w.heap.size]? = some (.cells #[Value.int IntKind.i64 n, Value.slice a zs.length cap, Value.slice ao ko co, Value.slice av kv cv, Value.int IntKind.i64 fine] 30 (0, 0))) (fun t _ => ko - (intOf t).toNat)
  case atStart => exact ⟨0, Nat.zero_le _, rfl, ordsTo_zero _ _, B1.out, R1.out⟩
  case round =>
    clear B1 R1
    obtain ⟨k, hk, rfl, ht, hb, g3⟩ := hrel
    have HT : Hid _ := ht
    have G3 : Hid _ := g3
    have HB : Hid _ := hb
    obtain ⟨c0, c1, c2, c3, c4⟩ := cells5 g3
    clear ht
    by_cases hlt : k < ko
    · obtain ⟨b, off, rfl, hcs⟩ := IntsAt.some (IntsAt.below HX6.out hb) (j := k * 6) (by rw [HLX6.out]; omega)
      obtain ⟨r0, r1, r2, r3, r4, r5⟩ := row6_at hcs HLX6.out k hlt
      have HCS : Hid _ := hcs
      clear hcs g3 hb
      obtain ⟨o0, H0⟩ : ∃ t, Hid (og6 os k 0 = t) := ⟨_, rfl⟩
      obtain ⟨o1, H1⟩ : ∃ t, Hid (og6 os k 1 = t) := ⟨_, rfl⟩
      obtain ⟨o2, H2⟩ : ∃ t, Hid (og6 os k 2 = t) := ⟨_, rfl⟩
      obtain ⟨o3, H3⟩ : ∃ t, Hid (og6 os k 3 = t) := ⟨_, rfl⟩
      obtain ⟨o4, H4⟩ : ∃ t, Hid (og6 os k 4 = t) := ⟨_, rfl⟩
      obtain ⟨o5, H5⟩ : ∃ t, Hid (og6 os k 5 = t) := ⟨_, rfl⟩
      rw [H0.out] at r0
      rw [H1.out] at r1
      rw [H2.out] at r2
      rw [H3.out] at r3
      rw [H4.out] at r4
      rw [H5.out] at r5
      have s0 := fun s : Kin wr => s.cell c0
      have s1 := fun s : Kin wr => s.cell c2
      have t0 := fun s : Kin wr => s.cell r0
      have t1 := fun s : Kin wr => s.cell r1
      have t2 := fun s : Kin wr => s.cell r2
      have t3 := fun s : Kin wr => s.cell r3
      have t4 := fun s : Kin wr => s.cell r4
      have t5 := fun s : Kin wr => s.cell r5
      cases h1 : ordB n o0 o1 o2 o3 o4 o5
      · have HN : Hid (ordsB n os ko = false) := ordsB_bad hlt (by rw [H0.out, H1.out, H2.out, H3.out, H4.out, H5.out, h1]; simp)
        go_wp2_with fail
        have hkin := Kin.there wr
        refine wp_region_kin (by kernel_rfl) (by kernel_rfl) ?_
        repeat (go_big_quiet_step ((go_at_call 118; exact Kin.call (l2Order_any n _ _ _ _ _ _ _ hn1 hn2))))
        refine wpQuiet_nil ?_
        rintro _ ⟨s, rfl⟩
        have HS2 := HB.out.trans (s.below.mono HB.out.size)
        have R2 := below_row s.below (row_lt G3.out) G3.out
        generalize s.w = w2 at *
        go_wp2
        go_ret
        exact ⟨ret_bool (by simp [caseB_def, HN.out]), HS2⟩
      · by_cases hk0 : k = 0
        · have HS : Hid (ordsTo n os (k + 1)) := ordsTo_step HT.out (by rw [H0.out, H1.out, H2.out, H3.out, H4.out, H5.out]; exact h1) (fun h => by omega)
          have hkz : (decide (0 < k)) = false := by simp; omega
          have hk1 : k ≤ 0 := by omega
          clear hk0
          go_wp2_with fail
          have hkin := Kin.there wr
          refine wp_region_kin (by kernel_rfl) (by kernel_rfl) ?_
          repeat (go_big_quiet_step ((go_at_call 118; exact Kin.call (l2Order_any n _ _ _ _ _ _ _ hn1 hn2))))
          refine wpQuiet_nil ?_
          rintro _ ⟨s, rfl⟩
          have HS2 := HB.out.trans (s.below.mono HB.out.size)
          have R2 := below_row s.below (row_lt G3.out) G3.out
          generalize s.w = w2 at *
          go_wp2
          refine ⟨⟨k + 1, by omega, by go_num, HS.out, HS2, R2⟩, by simp [intOf]; omega⟩
        · have hk1 : 0 < k := by omega
          obtain ⟨rp, _⟩ := row6_at HCS.out HLX6.out (k - 1) (by omega)
          obtain ⟨p, HP⟩ : ∃ t, Hid (og6 os (k - 1) 0 = t) := ⟨_, rfl⟩
          rw [HP.out] at rp
          have tp := fun s : Kin wr => s.cell rp
          have hkm : k - 1 < ko := by omega
          have hw1 : IntKind.i64.wrap ((k : Int) - 1) = ((k - 1 : Nat) : Int) := by
            rw [IntKind.wrap_i64]; omega
          clear hk0
          by_cases hp : p < o0
          · have HS : Hid (ordsTo n os (k + 1)) := ordsTo_step HT.out (by rw [H0.out, H1.out, H2.out, H3.out, H4.out, H5.out]; exact h1) (fun _ => by rw [HP.out, H0.out]; exact hp)
            go_wp2_with fail
            have hkin := Kin.there wr
            refine wp_region_kin (by kernel_rfl) (by kernel_rfl) ?_
            repeat (go_big_quiet_step ((go_at_call 118; exact Kin.call (l2Order_any n _ _ _ _ _ _ _ hn1 hn2))))
            refine wpQuiet_nil ?_
            rintro _ ⟨s, rfl⟩
            have HS2 := HB.out.trans (s.below.mono HB.out.size)
            have R2 := below_row s.below (row_lt G3.out) G3.out
            generalize s.w = w2 at *
            go_wp2
            refine ⟨⟨k + 1, by omega, by go_num, HS.out, HS2, R2⟩, by simp [intOf]; omega⟩
          · have HN : Hid (ordsB n os ko = false) := ordsB_bad hlt (fun h => hp (by have := h.2 hk1; rw [HP.out, H0.out] at this; exact this))
            go_wp2_with fail
            have hkin := Kin.there wr
            refine wp_region_kin (by kernel_rfl) (by kernel_rfl) ?_
            repeat (go_big_quiet_step ((go_at_call 118; exact Kin.call (l2Order_any n _ _ _ _ _ _ _ hn1 hn2))))
            refine wpQuiet_nil ?_
            rintro _ ⟨s, rfl⟩
            have HS2 := HB.out.trans (s.below.mono HB.out.size)
            have R2 := below_row s.below (row_lt G3.out) G3.out
            generalize s.w = w2 at *
            go_wp2
            go_ret
            exact ⟨ret_bool (by simp [caseB_def, HN.out]), HS2⟩
    · have hkx : k = ko := by omega
      have HN : Hid (ordsB n os ko = true) := ordsB_yes (by omega) (hkx ▸ HT.out)
      clear hkx g3 hb
      go_wp2_with fail
      clear c0 c1 c2 c3 c4
      have HO2 : Hid (ordsB n os ko = true) := HN.out
      go_loopw [4] (fun t wr => ∃ k : Nat, k ≤ kv ∧ t = .int .i64 k ∧ vehsTo n vs k ∧ Below w.heap.size w wr ∧ wr.heap[w.heap.size]? = some (.cells #[Value.int IntKind.i64 n, Value.slice a zs.length cap, Value.slice ao ko co, Value.slice av kv cv, Value.int IntKind.i64 fine] 30 (0, 0))) (fun t _ => kv - (intOf t).toNat)
      case atStart => exact ⟨0, Nat.zero_le _, rfl, vehsTo_zero _ _, HB.out, G3.out⟩
      case round =>
        clear HT G3 HB HN
        obtain ⟨k, hk, rfl, ht, hb, g3⟩ := hrel
        have HT : Hid _ := ht
        have G3 : Hid _ := g3
        have HB : Hid _ := hb
        obtain ⟨c0, c1, c2, c3, c4⟩ := cells5 g3
        clear ht
        by_cases hlt : k < kv
        · obtain ⟨b, off, rfl, hcs⟩ := IntsAt.some (IntsAt.below HX5.out hb) (j := k * 5) (by rw [HLX5.out]; omega)
          obtain ⟨r0, r1, r2, r3, r4⟩ := row5_at hcs HLX5.out k hlt
          have HCS : Hid _ := hcs
          clear hcs g3 hb
          obtain ⟨o0, H0⟩ : ∃ t, Hid (og5 vs k 0 = t) := ⟨_, rfl⟩
          obtain ⟨o1, H1⟩ : ∃ t, Hid (og5 vs k 1 = t) := ⟨_, rfl⟩
          obtain ⟨o2, H2⟩ : ∃ t, Hid (og5 vs k 2 = t) := ⟨_, rfl⟩
          obtain ⟨o3, H3⟩ : ∃ t, Hid (og5 vs k 3 = t) := ⟨_, rfl⟩
          obtain ⟨o4, H4⟩ : ∃ t, Hid (og5 vs k 4 = t) := ⟨_, rfl⟩
          rw [H0.out] at r0
          rw [H1.out] at r1
          rw [H2.out] at r2
          rw [H3.out] at r3
          rw [H4.out] at r4
          have s0 := fun s : Kin wr => s.cell c0
          have s1 := fun s : Kin wr => s.cell c3
          have t0 := fun s : Kin wr => s.cell r0
          have t1 := fun s : Kin wr => s.cell r1
          have t2 := fun s : Kin wr => s.cell r2
          have t3 := fun s : Kin wr => s.cell r3
          have t4 := fun s : Kin wr => s.cell r4
          cases h1 : vehB n o0 o1 o2 o3 o4
          · have HN : Hid (vehsB n vs kv = false) := vehsB_bad hlt (by rw [H0.out, H1.out, H2.out, H3.out, H4.out, h1]; simp)
            go_wp2_with fail
            have hkin := Kin.there wr
            refine wp_region_kin (by kernel_rfl) (by kernel_rfl) ?_
            repeat (go_big_quiet_step ((go_at_call 119; exact Kin.call (l2Vehicle_any n _ _ _ _ _ _ hn1 hn2))))
            refine wpQuiet_nil ?_
            rintro _ ⟨s, rfl⟩
            have HS2 := HB.out.trans (s.below.mono HB.out.size)
            have R2 := below_row s.below (row_lt G3.out) G3.out
            generalize s.w = w2 at *
            go_wp2
            go_ret
            exact ⟨ret_bool (by simp [caseB_def, HN.out]), HS2⟩
          · by_cases hk0 : k = 0
            · have HS : Hid (vehsTo n vs (k + 1)) := vehsTo_step HT.out (by rw [H0.out, H1.out, H2.out, H3.out, H4.out]; exact h1) (fun h => by omega)
              have hkz : (decide (0 < k)) = false := by simp; omega
              have hk1 : k ≤ 0 := by omega
              clear hk0
              go_wp2_with fail
              have hkin := Kin.there wr
              refine wp_region_kin (by kernel_rfl) (by kernel_rfl) ?_
              repeat (go_big_quiet_step ((go_at_call 119; exact Kin.call (l2Vehicle_any n _ _ _ _ _ _ hn1 hn2))))
              refine wpQuiet_nil ?_
              rintro _ ⟨s, rfl⟩
              have HS2 := HB.out.trans (s.below.mono HB.out.size)
              have R2 := below_row s.below (row_lt G3.out) G3.out
              generalize s.w = w2 at *
              go_wp2
              refine ⟨⟨k + 1, by omega, by go_num, HS.out, HS2, R2⟩, by simp [intOf]; omega⟩
            · have hk1 : 0 < k := by omega
              obtain ⟨rp, _⟩ := row5_at HCS.out HLX5.out (k - 1) (by omega)
              obtain ⟨p, HP⟩ : ∃ t, Hid (og5 vs (k - 1) 0 = t) := ⟨_, rfl⟩
              rw [HP.out] at rp
              have tp := fun s : Kin wr => s.cell rp
              have hkm : k - 1 < kv := by omega
              have hw1 : IntKind.i64.wrap ((k : Int) - 1) = ((k - 1 : Nat) : Int) := by
                rw [IntKind.wrap_i64]; omega
              clear hk0
              by_cases hp : p < o0
              · have HS : Hid (vehsTo n vs (k + 1)) := vehsTo_step HT.out (by rw [H0.out, H1.out, H2.out, H3.out, H4.out]; exact h1) (fun _ => by rw [HP.out, H0.out]; exact hp)
                go_wp2_with fail
                have hkin := Kin.there wr
                refine wp_region_kin (by kernel_rfl) (by kernel_rfl) ?_
                repeat (go_big_quiet_step ((go_at_call 119; exact Kin.call (l2Vehicle_any n _ _ _ _ _ _ hn1 hn2))))
                refine wpQuiet_nil ?_
                rintro _ ⟨s, rfl⟩
                have HS2 := HB.out.trans (s.below.mono HB.out.size)
                have R2 := below_row s.below (row_lt G3.out) G3.out
                generalize s.w = w2 at *
                go_wp2
                refine ⟨⟨k + 1, by omega, by go_num, HS.out, HS2, R2⟩, by simp [intOf]; omega⟩
              · have HN : Hid (vehsB n vs kv = false) := vehsB_bad hlt (fun h => hp (by have := h.2 hk1; rw [HP.out, H0.out] at this; exact this))
                go_wp2_with fail
                have hkin := Kin.there wr
                refine wp_region_kin (by kernel_rfl) (by kernel_rfl) ?_
                repeat (go_big_quiet_step ((go_at_call 119; exact Kin.call (l2Vehicle_any n _ _ _ _ _ _ hn1 hn2))))
                refine wpQuiet_nil ?_
                rintro _ ⟨s, rfl⟩
                have HS2 := HB.out.trans (s.below.mono HB.out.size)
                have R2 := below_row s.below (row_lt G3.out) G3.out
                generalize s.w = w2 at *
                go_wp2
                go_ret
                exact ⟨ret_bool (by simp [caseB_def, HN.out]), HS2⟩
        · have hkx : k = kv := by omega
          have HN : Hid (vehsB n vs kv = true) := vehsB_yes (by omega) (hkx ▸ HT.out)
          clear hkx g3 hb
          go_wp2
          go_ret
          exact ⟨ret_bool (by rw [caseB_def, HM.out, HO2.out, HN.out, hf]; rfl), HB.out⟩

theorem specCase_any (n fine : Int) (a ao av : Option Addr) (cap ko co kv cv : Nat) (zs os vs : List Int) (w : World) (hA : IntsAt w a zs) (hO : IntsAt w ao os) (hV : IntsAt w av vs) (hlo : os.length = ko * 6) (hlv : vs.length = kv * 5) (hko : ko ≤ 9223372036854775807) (hkv : kv ≤ 9223372036854775807) :
    Calls Try.prog 110 #[.agg #[.int .i64 n, .slice a zs.length cap, .slice ao ko co, .slice av kv cv, .int .i64 fine]] w fun e w' => e = .returned (.bool (caseB n zs os vs ko kv fine)) ∧ Below w.heap.size w w' := by
  by_cases h : matB n zs = true ∧ ko ≤ 12 ∧ kv ≤ 5 ∧ inB fine 0 1000000 = true
  · exact specCase_loop n fine a ao av cap ko co kv cv zs os vs w hA hO hV hlo hlv h.1 h.2.1 h.2.2.1 h.2.2.2
  · exact specCase_no n fine a ao av cap ko co kv cv zs os vs w hA hko hkv h

end Go.Proofs.Ytmohcdnhbhigdaa

namespace Go.Proofs.Ytmohcdnhbhigdaa
open Go.RowKit

set_option maxHeartbeats 1000000 in
theorem l3Form_any (n fine veh : Int) (a ao av bi : Option Addr) (cap ko co kv cv c2 : Nat) (zs os vs ids : List Int) (w : World) (hA : IntsAt w a zs) (hO : IntsAt w ao os) (hV : IntsAt w av vs) (hI : IntsAt w bi ids) (hlo : os.length = ko * 6) (hlv : vs.length = kv * 5) (hko : ko ≤ 9223372036854775807) (hkv : kv ≤ 9223372036854775807) (hli : ids.length ≤ 9223372036854775807) (hc2 : ids.length ≤ c2) :
    Calls Try.prog 101 #[.agg #[.int .i64 n, .slice a zs.length cap, .slice ao ko co, .slice av kv cv, .int .i64 fine], .agg #[.int .i64 veh, .slice bi ids.length c2]] w fun e w' => e = .returned (.int .i64 (formV (caseB n zs os vs ko kv fine) vs os kv ko veh ids)) ∧ Below w.heap.size w w' := by
  have HA : Hid (IntsAt w a zs) := hA
  have HO : Hid (IntsAt w ao os) := hO
  have HV : Hid (IntsAt w av vs) := hV
  have HI : Hid (IntsAt w bi ids) := hI
  have HLO : Hid _ := hlo
  have HLV : Hid _ := hlv
  clear hA hO hV hI hlo hlv
  have HC0 : Hid (CR w ((w.alloc (.cells #[Value.int IntKind.i64 n, Value.slice a zs.length cap, Value.slice ao ko co, Value.slice av kv cv, Value.int IntKind.i64 fine] 30)).alloc (.cells #[Value.int IntKind.i64 veh, Value.slice bi ids.length c2] 32)) _ _) := CR.new w _ _
  obtain ⟨r, HR⟩ : ∃ r, Hid (formV (caseB n zs os vs ko kv fine) vs os kv ko veh ids = r) := ⟨_, rfl⟩
  rw [HR.out]
  go_enter Try.func101, Try.ntmps101
  go_wp2_with fail
  refine (specCase_any n fine a ao av cap ko co kv cv zs os vs _ (HA.out.below HC0.out.1) (HO.out.below HC0.out.1) (HV.out.below HC0.out.1) HLO.out HLV.out hko hkv).mono ?_
  rintro e w1 ⟨rfl, hb⟩
  have C1 : Hid (CR w w1 _ _) := HC0.out.below hb
  clear hb HC0
  cases hc : caseB n zs os vs ko kv fine
  · have HV1 : Hid (r = 1) := HR.out.symm.trans (formV_1 hc)
    go_wp2
    go_ret
    exact ⟨ret_int HV1.out.symm, C1.out.1⟩
  · have HC : Hid _ := hc
    clear hc
    obtain ⟨c0, c1, c2', c3, c4⟩ := cells5 C1.out.2.1
    obtain ⟨d0, d1⟩ := cells2 C1.out.2.2
    go_wp2_with fail
    refine (l2Car_any n fine veh a ao av _ cap ko co kv cv vs _ (HV.out.below C1.out.1) HLV.out hkv).mono ?_
    rintro e w2 ⟨rfl, hb⟩
    obtain ⟨v0, G0⟩ : ∃ t, Hid (fnd5F vs kv veh 0 = t) := ⟨_, rfl⟩
    obtain ⟨v1, G1⟩ : ∃ t, Hid (fnd5F vs kv veh 1 = t) := ⟨_, rfl⟩
    obtain ⟨v2, G2⟩ : ∃ t, Hid (fnd5F vs kv veh 2 = t) := ⟨_, rfl⟩
    obtain ⟨v3, G3⟩ : ∃ t, Hid (fnd5F vs kv veh 3 = t) := ⟨_, rfl⟩
    obtain ⟨v4, G4⟩ : ∃ t, Hid (fnd5F vs kv veh 4 = t) := ⟨_, rfl⟩
    rw [G0.out, G1.out, G2.out, G3.out, G4.out]
    have C2 : Hid (CR w w2 _ _) := C1.out.below hb
    clear hb C1 c0 c1 c2' c3 c4 d0 d1
    cases ht : fnd5T vs kv veh
    · have HV1 : Hid (r = 2) := HR.out.symm.trans (formV_2 HC.out ht)
      go_wp2
      go_ret
      exact ⟨ret_int HV1.out.symm, (CR.alloc C2.out _).1⟩
    · have HT5 : Hid _ := ht
      clear ht
      have C3 : Hid (CR w (w2.alloc (Obj.cells #[Value.int IntKind.i64 v0, Value.int IntKind.i64 v1, Value.int IntKind.i64 v2, Value.int IntKind.i64 v3, Value.int IntKind.i64 v4] 79)) _ _) := CR.alloc C2.out _
      have RV3 : Hid ((w2.alloc (Obj.cells #[Value.int IntKind.i64 v0, Value.int IntKind.i64 v1, Value.int IntKind.i64 v2, Value.int IntKind.i64 v3, Value.int IntKind.i64 v4] 79)).heap[w2.heap.size]? = _) := heap_alloc_new _ _
      obtain ⟨c0, c1, c2', c3, c4⟩ := cells5 C3.out.2.1
      obtain ⟨d0, d1⟩ := cells2 C3.out.2.2
      clear C2
      by_cases h12 : ids.length ≤ 12
      · go_wp2_with fail
        clear c0 c1 c2' c3 c4 d0 d1
        generalize w2.alloc (Obj.cells #[Value.int IntKind.i64 v0, Value.int IntKind.i64 v1, Value.int IntKind.i64 v2, Value.int IntKind.i64 v3, Value.int IntKind.i64 v4] 79) = W2 at *
        generalize w2.heap.size = gv at *
        have HOB : Hid (ordsB n os ko = true) := caseB_ords HC.out
        go_loopw [7, 8] (fun sm t wr => ∃ k : Nat, k ≤ ids.length ∧ t = .int .i64 k ∧ sm = .int .i64 (loadTo os ko ids k) ∧ stopsTo os ko ids k ∧ CR w wr #[Value.int IntKind.i64 n, Value.slice a zs.length cap, Value.slice ao ko co, Value.slice av kv cv, Value.int IntKind.i64 fine] #[Value.int IntKind.i64 veh, Value.slice bi ids.length c2] ∧ wr.heap[gv]? = some (.cells #[Value.int IntKind.i64 v0, Value.int IntKind.i64 v1, Value.int IntKind.i64 v2, Value.int IntKind.i64 v3, Value.int IntKind.i64 v4] 79 (0, 0))) (fun _ t _ => ids.length - (intOf t).toNat)
        case atStart => exact ⟨0, Nat.zero_le _, rfl, rfl, stopsTo_zero _ _ _, C3.out, RV3.out⟩
        case round =>
          clear C3 RV3
          obtain ⟨k, hk, rfl, rfl, hth, hb, hrv⟩ := hrel
          have hbd := loadTo_bd HOB.out ids k
          have HT : Hid (stopsTo os ko ids k) := hth
          have HB : Hid (CR w wr _ _) := hb
          have HRV : Hid (wr.heap[gv]? = _) := hrv
          obtain ⟨c0, c1, c2', c3, c4⟩ := cells5 hb.2.1
          obtain ⟨d0, d1⟩ := cells2 hb.2.2
          obtain ⟨s0, HS0⟩ : ∃ s, Hid (loadTo os ko ids k = s) := ⟨_, rfl⟩
          rw [HS0.out] at hbd ⊢
          clear hth hb hrv
          by_cases hlt : k < ids.length
          · obtain ⟨b, off, rfl, hcs⟩ := IntsAt.some (IntsAt.below HI.out HB.out.1) hlt
            have ct := hcs k hlt
            clear hcs
            obtain ⟨id, HID⟩ : ∃ i, Hid (ids.getD k 0 = i) := ⟨_, rfl⟩
            rw [HID.out] at ct
            have hl2 := fnd6F_load HOB.out id
            obtain ⟨o0, H0⟩ : ∃ t, Hid (fnd6F os ko id 0 = t) := ⟨_, rfl⟩
            obtain ⟨o1, H1⟩ : ∃ t, Hid (fnd6F os ko id 1 = t) := ⟨_, rfl⟩
            obtain ⟨o2, H2⟩ : ∃ t, Hid (fnd6F os ko id 2 = t) := ⟨_, rfl⟩
            obtain ⟨o3, H3⟩ : ∃ t, Hid (fnd6F os ko id 3 = t) := ⟨_, rfl⟩
            obtain ⟨o4, H4⟩ : ∃ t, Hid (fnd6F os ko id 4 = t) := ⟨_, rfl⟩
            obtain ⟨o5, H5⟩ : ∃ t, Hid (fnd6F os ko id 5 = t) := ⟨_, rfl⟩
            rw [H2.out] at hl2
            have HL1 : Hid (loadTo os ko ids (k + 1) = s0 + o2) := by
              show _ = _
              unfold loadTo
              rw [HS0.out, HID.out, H2.out]
            obtain ⟨tt, HTT⟩ : ∃ t, Hid (fnd6T os ko id = t) := ⟨_, rfl⟩
            go_wp2_with fail
            have HCT : Hid (wr.cell? ⟨b, off + k, none⟩ = _) := ct
            have HCA : Hid ((wr.alloc (Obj.cells #[Value.int IntKind.i64 0, Value.int IntKind.i64 0, Value.int IntKind.i64 0, Value.int IntKind.i64 0, Value.int IntKind.i64 0, Value.int IntKind.i64 0] 94)).cell? ⟨b, off + k, none⟩ = _) := (((Below.refl wr.heap.size wr).alloc (Nat.le_refl _) _).cell (p := ⟨b, off + k, none⟩) (block_lt_of_cell ct)).trans ct
            have HVA : Hid ((wr.alloc (Obj.cells #[Value.int IntKind.i64 0, Value.int IntKind.i64 0, Value.int IntKind.i64 0, Value.int IntKind.i64 0, Value.int IntKind.i64 0, Value.int IntKind.i64 0] 94)).heap[gv]? = _) := (heap_alloc_old _ _ (row_lt HRV.out)).trans HRV.out
            have hlb := block_lt_of_cell ct
            simp at hlb
            have hlw := row_lt HB.out.2.1
            have hlr := row_lt HB.out.2.2
            go_region_held3 (fun W => W.cell? ⟨w.heap.size, 0, none⟩ = some (.int .i64 n) ∧ W.cell? ⟨w.heap.size, 1, none⟩ = some (.slice a zs.length cap) ∧ W.cell? ⟨w.heap.size, 2, none⟩ = some (.slice ao ko co) ∧ W.cell? ⟨w.heap.size, 3, none⟩ = some (.slice av kv cv) ∧ W.cell? ⟨w.heap.size, 4, none⟩ = some (.int .i64 fine) ∧ W.cell? ⟨w.heap.size + 1, 1, none⟩ = some (.slice (some ⟨b, off, none⟩) ids.length c2) ∧ W.cell? ⟨b, off + k, none⟩ = some (.int .i64 id)) (first | with_reducible exact kS | with_reducible exact ⟨(keep_set (keep_set (keep_set (keep_set (keep_set (keep_set kS.1 (Nat.ne_of_lt hlw)) (Nat.ne_of_lt hlw)) (Nat.ne_of_lt hlw)) (Nat.ne_of_lt hlw)) (Nat.ne_of_lt hlw)) (Nat.ne_of_lt hlw)), (keep_set (keep_set (keep_set (keep_set (keep_set (keep_set kS.2.1 (Nat.ne_of_lt hlw)) (Nat.ne_of_lt hlw)) (Nat.ne_of_lt hlw)) (Nat.ne_of_lt hlw)) (Nat.ne_of_lt hlw)) (Nat.ne_of_lt hlw)), (keep_set (keep_set (keep_set (keep_set (keep_set (keep_set kS.2.2.1 (Nat.ne_of_lt hlw)) (Nat.ne_of_lt hlw)) (Nat.ne_of_lt hlw)) (Nat.ne_of_lt hlw)) (Nat.ne_of_lt hlw)) (Nat.ne_of_lt hlw)), (keep_set (keep_set (keep_set (keep_set (keep_set (keep_set kS.2.2.2.1 (Nat.ne_of_lt hlw)) (Nat.ne_of_lt hlw)) (Nat.ne_of_lt hlw)) (Nat.ne_of_lt hlw)) (Nat.ne_of_lt hlw)) (Nat.ne_of_lt hlw)), (keep_set (keep_set (keep_set (keep_set (keep_set (keep_set kS.2.2.2.2.1 (Nat.ne_of_lt hlw)) (Nat.ne_of_lt hlw)) (Nat.ne_of_lt hlw)) (Nat.ne_of_lt hlw)) (Nat.ne_of_lt hlw)) (Nat.ne_of_lt hlw)), (keep_set (keep_set (keep_set (keep_set (keep_set (keep_set kS.2.2.2.2.2.1 (Nat.ne_of_lt hlr)) (Nat.ne_of_lt hlr)) (Nat.ne_of_lt hlr)) (Nat.ne_of_lt hlr)) (Nat.ne_of_lt hlr)) (Nat.ne_of_lt hlr)), (keep_set (keep_set (keep_set (keep_set (keep_set (keep_set kS.2.2.2.2.2.2 (Nat.ne_of_lt hlb)) (Nat.ne_of_lt hlb)) (Nat.ne_of_lt hlb)) (Nat.ne_of_lt hlb)) (Nat.ne_of_lt hlb)) (Nat.ne_of_lt hlb))⟩ | go_keep) ((first
              | (go_at_call 60
                 with_reducible refine (l2At_any n fine id a ao av _ cap ko co kv cv os wr.drew ?_ HLO.out hko).mono ?_
                 · exact HO.out.below HB.out.1.drew
                 rintro e w2 ⟨rfl, hb2⟩
                 rw [H0.out, H1.out, H2.out, H3.out, H4.out, H5.out, HTT.out]
                 have hcr2 := CR.below (CR.drew HB.out) hb2
                 obtain ⟨k0, k1, k2, k3, k4⟩ := cells5 hcr2.2.1
                 have k5 := (cells2 hcr2.2.2).2
                 have k6 := (hb2.cell (p := ⟨b, off + k, none⟩) (block_lt_of_cell HCT.out)).trans HCT.out
                 have kS := And.intro k0 (And.intro k1 (And.intro k2 (And.intro k3 (And.intro k4 (And.intro k5 k6)))))
                 have CR2 : Hid (CR w w2 _ _) := hcr2
                 have RV2 : Hid (w2.heap[gv]? = _) := below_row hb2 (row_lt HRV.out) HRV.out
                 clear hb2 hcr2 k0 k1 k2 k3 k4 k5 k6)
              | (go_at_call 60
                 with_reducible refine (l2At_any n fine id a ao av _ cap ko co kv cv os (wr.alloc (Obj.cells #[Value.int IntKind.i64 0, Value.int IntKind.i64 0, Value.int IntKind.i64 0, Value.int IntKind.i64 0, Value.int IntKind.i64 0, Value.int IntKind.i64 0] 94)).drew ?_ HLO.out hko).mono ?_
                 · exact HO.out.below (CR.alloc HB.out (Obj.cells #[Value.int IntKind.i64 0, Value.int IntKind.i64 0, Value.int IntKind.i64 0, Value.int IntKind.i64 0, Value.int IntKind.i64 0, Value.int IntKind.i64 0] 94)).1.drew
                 rintro e w2 ⟨rfl, hb2⟩
                 rw [H0.out, H1.out, H2.out, H3.out, H4.out, H5.out, HTT.out]
                 have hcr2 := CR.below (CR.drew (CR.alloc HB.out (Obj.cells #[Value.int IntKind.i64 0, Value.int IntKind.i64 0, Value.int IntKind.i64 0, Value.int IntKind.i64 0, Value.int IntKind.i64 0, Value.int IntKind.i64 0] 94))) hb2
                 obtain ⟨k0, k1, k2, k3, k4⟩ := cells5 hcr2.2.1
                 have k5 := (cells2 hcr2.2.2).2
                 have k6 := (hb2.cell (p := ⟨b, off + k, none⟩) (block_lt_of_cell HCA.out)).trans HCA.out
                 have kS := And.intro k0 (And.intro k1 (And.intro k2 (And.intro k3 (And.intro k4 (And.intro k5 k6)))))
                 have CR2 : Hid (CR w w2 _ _) := hcr2
                 have RV2 : Hid (w2.heap[gv]? = _) := below_row hb2 (row_lt HVA.out) HVA.out
                 obtain ⟨z0, z1, z2, z3, z4, z5⟩ := cells6 (below_row hb2 (k := wr.heap.size) (by simp) (heap_alloc_new wr (Obj.cells #[Value.int IntKind.i64 0, Value.int IntKind.i64 0, Value.int IntKind.i64 0, Value.int IntKind.i64 0, Value.int IntKind.i64 0, Value.int IntKind.i64 0] 94)))
                 have zf := fun i => frozen_of_row _ _ i _ _ (below_row hb2 (k := wr.heap.size) (by simp) (heap_alloc_new wr (Obj.cells #[Value.int IntKind.i64 0, Value.int IntKind.i64 0, Value.int IntKind.i64 0, Value.int IntKind.i64 0, Value.int IntKind.i64 0, Value.int IntKind.i64 0] 94)))
                 have RO2 : Hid (w2.heap[wr.heap.size]? = _) := below_row hb2 (k := wr.heap.size) (by simp) (heap_alloc_new wr (Obj.cells #[Value.int IntKind.i64 0, Value.int IntKind.i64 0, Value.int IntKind.i64 0, Value.int IntKind.i64 0, Value.int IntKind.i64 0, Value.int IntKind.i64 0] 94))
                 clear hb2 hcr2 k0 k1 k2 k3 k4 k5 k6)))
            all_goals (first
              | (have CRW : Hid (CR w (World.setCell (World.setCell (World.setCell (World.setCell (World.setCell (World.setCell w2 ⟨wr.heap.size, 0, none⟩ (Value.int IntKind.i64 o0)) ⟨wr.heap.size, 1, none⟩ (Value.int IntKind.i64 o1)) ⟨wr.heap.size, 2, none⟩ (Value.int IntKind.i64 o2)) ⟨wr.heap.size, 3, none⟩ (Value.int IntKind.i64 o3)) ⟨wr.heap.size, 4, none⟩ (Value.int IntKind.i64 o4)) ⟨wr.heap.size, 5, none⟩ (Value.int IntKind.i64 o5)) _ _) := CR.set (CR.set (CR.set (CR.set (CR.set (CR.set CR2.out HB.out.big) HB.out.big) HB.out.big) HB.out.big) HB.out.big) HB.out.big
                 have RVW : Hid ((World.setCell (World.setCell (World.setCell (World.setCell (World.setCell (World.setCell w2 ⟨wr.heap.size, 0, none⟩ (Value.int IntKind.i64 o0)) ⟨wr.heap.size, 1, none⟩ (Value.int IntKind.i64 o1)) ⟨wr.heap.size, 2, none⟩ (Value.int IntKind.i64 o2)) ⟨wr.heap.size, 3, none⟩ (Value.int IntKind.i64 o3)) ⟨wr.heap.size, 4, none⟩ (Value.int IntKind.i64 o4)) ⟨wr.heap.size, 5, none⟩ (Value.int IntKind.i64 o5)).heap[gv]? = _) := row_set' (row_set' (row_set' (row_set' (row_set' (row_set' RV2.out (Nat.ne_of_lt (row_lt HRV.out))) (Nat.ne_of_lt (row_lt HRV.out))) (Nat.ne_of_lt (row_lt HRV.out))) (Nat.ne_of_lt (row_lt HRV.out))) (Nat.ne_of_lt (row_lt HRV.out))) (Nat.ne_of_lt (row_lt HRV.out))
                 have ROW : Hid ((World.setCell (World.setCell (World.setCell (World.setCell (World.setCell (World.setCell w2 ⟨wr.heap.size, 0, none⟩ (Value.int IntKind.i64 o0)) ⟨wr.heap.size, 1, none⟩ (Value.int IntKind.i64 o1)) ⟨wr.heap.size, 2, none⟩ (Value.int IntKind.i64 o2)) ⟨wr.heap.size, 3, none⟩ (Value.int IntKind.i64 o3)) ⟨wr.heap.size, 4, none⟩ (Value.int IntKind.i64 o4)) ⟨wr.heap.size, 5, none⟩ (Value.int IntKind.i64 o5)).heap[wr.heap.size]? = _) := row_set6 RO2.out
                 clear kS CR2 RV2 RO2 HCT HCA HVA ct z0 z1 z2 z3 z4 z5 zf
                 generalize (World.setCell (World.setCell (World.setCell (World.setCell (World.setCell (World.setCell w2 ⟨wr.heap.size, 0, none⟩ (Value.int IntKind.i64 o0)) ⟨wr.heap.size, 1, none⟩ (Value.int IntKind.i64 o1)) ⟨wr.heap.size, 2, none⟩ (Value.int IntKind.i64 o2)) ⟨wr.heap.size, 3, none⟩ (Value.int IntKind.i64 o3)) ⟨wr.heap.size, 4, none⟩ (Value.int IntKind.i64 o4)) ⟨wr.heap.size, 5, none⟩ (Value.int IntKind.i64 o5)) = W at *
                 generalize wr.heap.size = g at *)
              | (have CRW : Hid (CR w (w2.alloc (Obj.cells #[Value.int IntKind.i64 o0, Value.int IntKind.i64 o1, Value.int IntKind.i64 o2, Value.int IntKind.i64 o3, Value.int IntKind.i64 o4, Value.int IntKind.i64 o5] 94)) _ _) := CR.alloc CR2.out _
                 have RVW : Hid ((w2.alloc (Obj.cells #[Value.int IntKind.i64 o0, Value.int IntKind.i64 o1, Value.int IntKind.i64 o2, Value.int IntKind.i64 o3, Value.int IntKind.i64 o4, Value.int IntKind.i64 o5] 94)).heap[gv]? = _) := (heap_alloc_old _ _ (row_lt RV2.out)).trans RV2.out
                 have ROW : Hid ((w2.alloc (Obj.cells #[Value.int IntKind.i64 o0, Value.int IntKind.i64 o1, Value.int IntKind.i64 o2, Value.int IntKind.i64 o3, Value.int IntKind.i64 o4, Value.int IntKind.i64 o5] 94)).heap[w2.heap.size]? = _) := heap_alloc_new _ _
                 clear kS CR2 RV2 HCT HCA HVA ct
                 generalize w2.alloc (Obj.cells #[Value.int IntKind.i64 o0, Value.int IntKind.i64 o1, Value.int IntKind.i64 o2, Value.int IntKind.i64 o3, Value.int IntKind.i64 o4, Value.int IntKind.i64 o5] 94) = W at *
                 generalize w2.heap.size = g at *))
            all_goals
              clear c0 c1 c2' c3 c4 d0 d1 hlw hlr hlb
              have hkc : k ≤ c2 := by omega
              have q1 := (cells2 CRW.out.2.2).2
              have ctW := ints_cell (HI.out.below CRW.out.1) hlt HID.out
              have t0 := fun s : Kin W => s.cell q1
              have t1 := fun s : Kin W => s.cell ctW
              cases tt
              · have HV1 : Hid (r = 3) := HR.out.symm.trans (formV_3 HC.out HT5.out (stopsB_bad hlt (stopB_mk HID.out HTT.out rfl)))
                go_wp2_with fail
                have hkin := Kin.there W
                refine wp_region_kin (by kernel_rfl) (by kernel_rfl) ?_
                repeat (go_big_quiet_step ((fail)))
                refine wpQuiet_nil ?_
                rintro _ ⟨s, rfl⟩
                have HS2 : Hid (CR w s.w _ _) := CRW.out.below s.below
                generalize s.w = w3 at *
                go_wp2
                go_ret
                exact ⟨ret_int HV1.out.symm, HS2.out.1⟩
              · obtain ⟨hh, HH⟩ : ∃ t, Hid (hasTo ids k id = t) := ⟨_, rfl⟩
                cases hh
                · have HS1 : Hid (stopsTo os ko ids (k + 1)) := stopsTo_step HT.out (stopB_mk HID.out HTT.out HH.out)
                  go_wp2_with fail
                  have hkin := Kin.there W
                  refine wp_region_kin (by kernel_rfl) (by kernel_rfl) ?_
                  repeat (go_big_quiet_step ((go_at_call 40; exact Kin.call_same (l3Has_is _ k _ id ids _ false HH.out ((HI.out.below CRW.out.1).below (Kin.below _)) hk (by omega)))))
                  refine wpQuiet_nil ?_
                  rintro _ ⟨s, rfl⟩
                  have HS2 : Hid (CR w s.w _ _) := CRW.out.below s.below
                  have HRV2 : Hid (s.w.heap[gv]? = _) := below_row s.below (row_lt RVW.out) RVW.out
                  obtain ⟨p0, p1, p2, p3, p4, p5⟩ := cells6 (below_row s.below (row_lt ROW.out) ROW.out)
                  clear q1 ctW t0 t1 CRW RVW ROW
                  generalize s.w = w3 at *
                  go_wp2
                  exact ⟨⟨k + 1, by omega, by go_num, by rw [HL1.out], HS1.out, HS2.out, HRV2.out⟩, by simp [intOf]; omega⟩
                · have HV1 : Hid (r = 3) := HR.out.symm.trans (formV_3 HC.out HT5.out (stopsB_bad hlt (stopB_mk HID.out HTT.out HH.out)))
                  go_wp2_with fail
                  have hkin := Kin.there W
                  refine wp_region_kin (by kernel_rfl) (by kernel_rfl) ?_
                  repeat (go_big_quiet_step ((go_at_call 40; exact Kin.call_same (l3Has_is _ k _ id ids _ true HH.out ((HI.out.below CRW.out.1).below (Kin.below _)) hk (by omega)))))
                  refine wpQuiet_nil ?_
                  rintro _ ⟨s, rfl⟩
                  have HS2 : Hid (CR w s.w _ _) := CRW.out.below s.below
                  generalize s.w = w3 at *
                  go_wp2
                  go_ret
                  exact ⟨ret_int HV1.out.symm, HS2.out.1⟩
          · have hkl : k = ids.length := by omega
            have HSB : Hid (stopsB os ko ids = true) := stopsB_yes h12 (hkl ▸ HT.out)
            have HS0' : Hid (loadTo os ko ids ids.length = s0) := hkl ▸ HS0.out
            obtain ⟨q0, q1, q2, q3, q4⟩ := cells5 HRV.out
            clear hkl
            by_cases hroom : v2 < s0
            · have HV1 : Hid (r = 4) := HR.out.symm.trans (formV_4 HC.out HT5.out HSB.out (by rw [HS0'.out, G2.out]; exact hroom))
              go_wp2
              go_ret
              exact ⟨ret_int HV1.out.symm, HB.out.1⟩
            · have HV1 : Hid (r = 0) := HR.out.symm.trans (formV_0 HC.out HT5.out HSB.out (by rw [HS0'.out, G2.out]; exact hroom))
              go_wp2
              go_ret
              exact ⟨ret_int HV1.out.symm, HB.out.1⟩
      · have HV1 : Hid (r = 3) := HR.out.symm.trans (formV_3 HC.out HT5.out (stopsB_many h12))
        go_wp2
        go_ret
        exact ⟨ret_int HV1.out.symm, C3.out.1⟩

end Go.Proofs.Ytmohcdnhbhigdaa
